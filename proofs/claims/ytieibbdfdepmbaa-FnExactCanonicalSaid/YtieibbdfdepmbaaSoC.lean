/-
  The order of points as the library's sort asks for it. Written by an AI agent.
-/
import Derived.Test.YtieibbdfdepmbaaBc
import Derived.Sort.Grow
namespace Go.Proofs.Ytieibbdfdepmbaa
set_option linter.all false
open Go.RowKit Go.Sort

def orI (x y : Int) : Int := if x = 0 then y else x
theorem or2_any (b c : Nat) (x y : Int) (w : World) (h0 : w.cell? ⟨b, 0, none⟩ = some (.int .i64 x)) (h1 : w.cell? ⟨b, 1, none⟩ = some (.int .i64 y)) :
    Calls Try.prog 103 #[.slice (some ⟨b, 0, none⟩) 2 c] w fun e w' => e = .returned (.int .i64 (orI x y)) ∧ w = w' := by
  go_enter Try.func103, Try.ntmps103
  go_wp2
  go_loopw [8] (fun i wr => ∃ k : Nat, k ≤ 2 ∧ i = .int .i64 k ∧ (1 ≤ k → x = 0) ∧ (2 ≤ k → y = 0) ∧ w = wr) (fun i _ => 2 - (intOf i).toNat)
  case atStart => exact ⟨0, Nat.zero_le _, rfl, fun h => by omega, fun h => by omega, rfl⟩
  case round =>
    obtain ⟨k, hk, rfl, hx, hy, rfl⟩ := hrel
    by_cases k0 : k = 0
    · subst k0
      by_cases x0 : x = 0
      · subst x0
        clear hx hy
        go_wp2
        exact ⟨⟨1, by omega, rfl, fun _ => trivial, fun h => by omega, trivial⟩, by simp [intOf]⟩
      · have E := Lib.hid (show orI x y = x by unfold orI; rw [if_neg x0])
        clear hx hy
        go_wp2
        go_ret
        exact ⟨ret_int E.out.symm, rfl⟩
    · by_cases k1 : k = 1
      · subst k1
        obtain rfl := hx (by omega)
        by_cases y0 : y = 0
        · subst y0
          go_wp2
          exact ⟨⟨2, by omega, rfl, fun _ => trivial, fun _ => trivial, trivial⟩, by simp [intOf]⟩
        · have E := Lib.hid (show orI 0 y = y by unfold orI; rw [if_pos rfl])
          go_wp2
          go_ret
          exact ⟨ret_int E.out.symm, rfl⟩
      · obtain rfl : k = 2 := by omega
        obtain rfl := hx (by omega)
        obtain rfl := hy (by omega)
        have E := Lib.hid (show orI 0 0 = 0 by unfold orI; rw [if_pos rfl])
        go_wp2
        go_ret
        exact ⟨ret_int E.out.symm, rfl⟩
/-- Point.compare -/
def cmpQ (a b c d : Int) : Int := orI (sgn (a - c)) (sgn (b - d))
theorem cmpPt_any (a b c d : Int) (w : World) :
    Calls Try.prog 69 #[.agg #[.int .i64 a, .int .i64 b], .agg #[.int .i64 c, .int .i64 d]] w fun e w' => e = .returned (.int .i64 (cmpQ a b c d)) ∧ ∃ q os', w' = grow (w.drewN q) os' := by
  go_enter Try.func69, Try.ntmps69
  go_wp2_with fail
  go_region_held3 (fun w' => w'.cell? ⟨w.heap.size, 0, none⟩ = some (.int .i64 a) ∧ w'.cell? ⟨w.heap.size, 1, none⟩ = some (.int .i64 b) ∧ w'.cell? ⟨w.heap.size + 1, 0, none⟩ = some (.int .i64 c) ∧ w'.cell? ⟨w.heap.size + 1, 1, none⟩ = some (.int .i64 d))
    (first | (simp [*, go_sem]; done))
    (first
      | (go_at_call 96; refine (compare_any _ _ _).mono ?_; rintro e wx ⟨rfl, rfl⟩)
      | (go_at_call 103; refine (or2_any _ _ (sgn (a - c)) (sgn (b - d)) _ (by simp [go_sem]; done) (by simp [go_sem]; done)).mono ?_; rintro e wx ⟨rfl, rfl⟩))
  go_wp2
  go_ret
  refine ⟨rfl, 1, _, (?_ : _ = grow (w.drewN 1) #[.cells #[.int .i64 a, .int .i64 b] 32, .cells #[.int .i64 c, .int .i64 d] 32, .cells #[.int .i64 (sgn (a - c)), .int .i64 (sgn (b - d))] 3])⟩
  rw [alloc_eq_grow, alloc_eq_grow, alloc_eq_grow, grow_grow, grow_grow]
  rfl
end Go.Proofs.Ytieibbdfdepmbaa
