/-
  Contracts: allValid over whatever points lie in memory; Cross, Orient and SquaredDistance, the program's and the model's. Written by an AI agent.
-/
import Derived.Test.YtoijfjifaljpaabWalkA
import Derived.Deep.RegionHeld3
namespace Go.Proofs.Ytoijfjifaljpaab
open Go.RowKit

/-- The slice's places hold the points X k, Y k. -/
def Pts (w : World) (B : Nat) (A : Option Addr) (n : Nat) (X Y : Nat → Int) : Prop :=
  ∀ k, k < n → ∃ b off, A = some ⟨b, off, none⟩ ∧ b < B ∧ w.cell? ⟨b, off + k * 2, none⟩ = some (.int .i64 (X k)) ∧ w.cell? ⟨b, off + k * 2 + 1, none⟩ = some (.int .i64 (Y k))
theorem Pts.below {w w' : World} {B : Nat} {A : Option Addr} {n : Nat} {X Y : Nat → Int} (h : Pts w B A n X Y) (hb : Below B w w') : Pts w' B A n X Y := by
  intro k hk
  obtain ⟨b, off, hA, hB, h0, h1⟩ := h k hk
  exact ⟨b, off, hA, hB, (hb.cell (p := ⟨b, _, none⟩) hB).trans h0, (hb.cell (p := ⟨b, _, none⟩) hB).trans h1⟩
theorem Pts.more {w : World} {B B' : Nat} {A : Option Addr} {n : Nat} {X Y : Nat → Int} (h : Pts w B A n X Y) (hB : B ≤ B') : Pts w B' A n X Y := by
  intro k hk
  obtain ⟨b, off, hA, hB, h0, h1⟩ := h k hk
  exact ⟨b, off, hA, by omega, h0, h1⟩

def allB (X Y : Nat → Int) (n : Nat) : Bool := (List.range n).all fun i => ptB (X i) (Y i)
theorem allB_zero (X Y : Nat → Int) : allB X Y 0 = true := rfl
theorem allB_succ (X Y : Nat → Int) (n : Nat) : allB X Y (n + 1) = (allB X Y n && ptB (X n) (Y n)) := by
  unfold allB
  rw [List.range_succ, List.all_append]
  simp
theorem allB_false {X Y : Nat → Int} {n k : Nat} (hk : k < n) (h : ptB (X k) (Y k) = false) : allB X Y n = false := by
  unfold allB
  rw [List.all_eq_false]
  exact ⟨k, by simpa using hk, by simp [h]⟩

set_option maxHeartbeats 800000 in
theorem allValid_any (A : Option Addr) (n c : Nat) (X Y : Nat → Int) (w : World) (hn : n ≤ 9223372036854775807) (hp : Pts w w.heap.size A n X Y) :
    Calls Try.prog 82 #[.slice A n c] w fun e w' => e = .returned (.bool (allB X Y n)) ∧ Below w.heap.size w w' := by
  go_enter Try.func82, Try.ntmps82
  go_wp2
  go_loopw [7] (fun i wr => ∃ k : Nat, k ≤ n ∧ i = .int .i64 k ∧ allB X Y k = true ∧ Below w.heap.size w wr) (fun i _ => n - (intOf i).toNat)
  case atStart => exact ⟨0, Nat.zero_le _, rfl, rfl, Below.refl _ _⟩
  case round =>
    obtain ⟨k, hk, rfl, hall, hbr⟩ := hrel
    have HALL := Lib.hid hall
    clear hall
    by_cases hlt : k < n
    · obtain ⟨b, off, rfl, hB, h0, h1⟩ := hp.below hbr k hlt
      have hz := hbr.size
      have hB' : b < wr.heap.size := by omega
      clear hp
      go_wp2_with (go_at_call 20; refine (implValid_any _ _ _).mono ?_; rintro e w1 ⟨rfl, hb1⟩)
      · have hv : ptB (X k) (Y k) = false := by simpa using ‹(!ptB (X k) (Y k)) = true›
        go_ret
        exact ⟨ret_bool (allB_false hlt hv).symm, bt (hbr.alloc hz _) hb1 (by simp; omega)⟩
      · have hv : ptB (X k) (Y k) = true := by simpa using ‹(!ptB (X k) (Y k)) = false›
        refine ⟨⟨k + 1, by omega, by go_num, ?_, bt (hbr.alloc hz _) hb1 (by simp; omega)⟩, by simp [intOf]; omega⟩
        rw [allB_succ, HALL.out, hv]
        rfl
    · clear hp
      have hk' : n = k := by omega
      subst hk'
      go_wp2
      go_ret
      exact ⟨ret_bool HALL.out.symm, hbr⟩

/-- Twice the signed area. -/
def crossI (ax ay bx b_y cx cy : Int) : Int := (bx - ax) * (cy - ay) - (b_y - ay) * (cx - ax)

theorem mul_bd {x y : Int} (a b : Int) (hx : -a ≤ x ∧ x ≤ a) (hy : -b ≤ y ∧ y ≤ b) : -(a * b) ≤ x * y ∧ x * y ≤ a * b := by
  have h : (x * y).natAbs ≤ (a * b).natAbs := by
    rw [Int.natAbs_mul, Int.natAbs_mul]
    exact Nat.mul_le_mul (by omega) (by omega)
  have h2 : 0 ≤ a * b := Int.mul_nonneg (by omega) (by omega)
  omega
/-- The products of a cross product of valid points. -/
theorem cross_bd {ax ay bx b_y cx cy : Int} (ha : ptB ax ay = true) (hb : ptB bx b_y = true) (hc : ptB cx cy = true) :
    ((-2000 ≤ bx - ax ∧ bx - ax ≤ 2000) ∧ (-2000 ≤ b_y - ay ∧ b_y - ay ≤ 2000) ∧ (-2000 ≤ cx - ax ∧ cx - ax ≤ 2000) ∧ (-2000 ≤ cy - ay ∧ cy - ay ≤ 2000)) ∧
    (-4000000 ≤ (bx - ax) * (cy - ay) ∧ (bx - ax) * (cy - ay) ≤ 4000000) ∧ (-4000000 ≤ (b_y - ay) * (cx - ax) ∧ (b_y - ay) * (cx - ax) ≤ 4000000) := by
  have a1 := ptB_true ha
  have b1 := ptB_true hb
  have c1 := ptB_true hc
  refine ⟨by omega, ?_, ?_⟩
  · have := mul_bd (x := bx - ax) (y := cy - ay) 2000 2000 (by omega) (by omega)
    omega
  · have := mul_bd (x := b_y - ay) (y := cx - ax) 2000 2000 (by omega) (by omega)
    omega

theorem specCross_any (ax ay bx b_y cx cy : Int) (w : World) (ha : ptB ax ay = true) (hb : ptB bx b_y = true) (hc : ptB cx cy = true) :
    Calls Try.prog 116 #[.agg #[.int .i64 ax, .int .i64 ay], .agg #[.int .i64 bx, .int .i64 b_y], .agg #[.int .i64 cx, .int .i64 cy]] w fun e w' => e = .returned (.int .i64 (crossI ax ay bx b_y cx cy)) ∧ Below w.heap.size w w' := by
  have bd := cross_bd ha hb hc
  have a1 := ptB_true ha
  have b1 := ptB_true hb
  have c1 := ptB_true hc
  clear ha hb hc
  go_enter Try.func116, Try.ntmps116
  go_wp2
  go_ret
  exact ⟨rfl, (((Below.refl _ _).alloc (by simp) _).alloc (by simp) _).alloc (by simp; omega) _⟩
theorem minus_any (ax ay bx b_y : Int) (w : World) (h1 : -4000000 ≤ ax - bx ∧ ax - bx ≤ 4000000) (h2 : -4000000 ≤ ay - b_y ∧ ay - b_y ≤ 4000000) :
    Calls Try.prog 104 #[.agg #[.int .i64 ax, .int .i64 ay], .agg #[.int .i64 bx, .int .i64 b_y]] w fun e w' => e = .returned (.agg #[.int .i64 (ax - bx), .int .i64 (ay - b_y)]) ∧ Below w.heap.size w w' := by
  go_enter Try.func104, Try.ntmps104
  go_wp2
  exact bodyPost_ret (v := .agg #[.int .i64 (ax - bx), .int .i64 (ay - b_y)]) (by simp [results, Try.results104, go_sem]) rfl ⟨rfl, (((Below.refl _ _).alloc (by simp) _).alloc (by simp) _).alloc (by simp; omega) _⟩
theorem pcross_any (ax ay bx b_y : Int) (w : World) (h1 : -4000000000000000000 ≤ ax * b_y ∧ ax * b_y ≤ 4000000000000000000) (h2 : -4000000000000000000 ≤ ay * bx ∧ ay * bx ≤ 4000000000000000000) :
    Calls Try.prog 115 #[.agg #[.int .i64 ax, .int .i64 ay], .agg #[.int .i64 bx, .int .i64 b_y]] w fun e w' => e = .returned (.int .i64 (ax * b_y - ay * bx)) ∧ Below w.heap.size w w' := by
  go_enter Try.func115, Try.ntmps115
  go_wp2
  go_ret
  exact ⟨rfl, ((Below.refl _ _).alloc (by simp) _).alloc (by simp) _⟩
theorem pdot_any (ax ay bx b_y : Int) (w : World) (h1 : -4000000000000000000 ≤ ax * bx ∧ ax * bx ≤ 4000000000000000000) (h2 : -4000000000000000000 ≤ ay * b_y ∧ ay * b_y ≤ 4000000000000000000) :
    Calls Try.prog 77 #[.agg #[.int .i64 ax, .int .i64 ay], .agg #[.int .i64 bx, .int .i64 b_y]] w fun e w' => e = .returned (.int .i64 (ax * bx + ay * b_y)) ∧ Below w.heap.size w w' := by
  go_enter Try.func77, Try.ntmps77
  go_wp2
  go_ret
  exact ⟨rfl, ((Below.refl _ _).alloc (by simp) _).alloc (by simp) _⟩
theorem turn_any (ax ay bx b_y cx cy : Int) (w : World) (ha : ptB ax ay = true) (hb : ptB bx b_y = true) (hc : ptB cx cy = true) :
    Calls Try.prog 80 #[.agg #[.int .i64 ax, .int .i64 ay], .agg #[.int .i64 bx, .int .i64 b_y], .agg #[.int .i64 cx, .int .i64 cy]] w fun e w' => e = .returned (.int .i64 (crossI ax ay bx b_y cx cy)) ∧ Below w.heap.size w w' := by
  have bd := cross_bd ha hb hc
  clear ha hb hc
  go_enter Try.func80, Try.ntmps80
  go_wp2_with fail
  go_region_held3 (fun w' => w'.cell? ⟨w.heap.size, 0, none⟩ = some (.int .i64 ax) ∧ w'.cell? ⟨w.heap.size, 1, none⟩ = some (.int .i64 ay) ∧ w'.cell? ⟨w.heap.size + 1, 0, none⟩ = some (.int .i64 bx) ∧
      w'.cell? ⟨w.heap.size + 1, 1, none⟩ = some (.int .i64 b_y) ∧ w'.cell? ⟨w.heap.size + 1 + 1, 0, none⟩ = some (.int .i64 cx) ∧ w'.cell? ⟨w.heap.size + 1 + 1, 1, none⟩ = some (.int .i64 cy)) ((simp [*, go_sem]; done))
    (first
      | (go_at_call_of 104 (Value.agg #[.int .i64 bx, .int .i64 b_y]); refine (minus_any _ _ _ _ _ (by omega) (by omega)).mono ?_; rintro e w1 ⟨rfl, hb1⟩; obtain ⟨hc1, hf1, hz1⟩ := bc3 w.heap.size hb1 (by simp))
      | (go_at_call_of 104 (Value.agg #[.int .i64 cx, .int .i64 cy]); refine (minus_any _ _ _ _ _ (by omega) (by omega)).mono ?_; rintro e w2 ⟨rfl, hb2⟩; obtain ⟨hc2, hf2, hz2⟩ := bc3 w.heap.size hb2 (by omega))
      | (go_at_call 115; refine (pcross_any _ _ _ _ _ (by omega) (by omega)).mono ?_; rintro e w3 ⟨rfl, hb3⟩; obtain ⟨hc3, hf3, hz3⟩ := bc3 w.heap.size hb3 (by omega)))
  go_wp2
  go_ret
  exact ⟨rfl, bt (bt (bt ((((Below.refl _ _).alloc (by simp) _).alloc (by simp) _).alloc (by simp; omega) _).drew hb1 (by simp; omega)) hb2 (by omega)) hb3 (by omega)⟩

def pick3 (a b c : Int) : Nat → Int
  | 0 => a
  | 1 => b
  | _ => c
def pick2 (a b : Int) : Nat → Int
  | 0 => a
  | _ => b
theorem allB3 (ax ay bx b_y cx cy : Int) : allB (pick3 ax bx cx) (pick3 ay b_y cy) 3 = (ptB ax ay && ptB bx b_y && ptB cx cy) := by
  rw [allB_succ, allB_succ, allB_succ, allB_zero]
  simp [pick3]
theorem allB2 (ax ay bx b_y : Int) : allB (pick2 ax bx) (pick2 ay b_y) 2 = (ptB ax ay && ptB bx b_y) := by
  rw [allB_succ, allB_succ, allB_zero]
  simp [pick2]
theorem pts3 {w : World} {g : Nat} {ax ay bx b_y cx cy : Int} (hg : g < w.heap.size) (h0 : w.cell? ⟨g, 0, none⟩ = some (.int .i64 ax)) (h1 : w.cell? ⟨g, 1, none⟩ = some (.int .i64 ay)) (h2 : w.cell? ⟨g, 2, none⟩ = some (.int .i64 bx))
    (h3 : w.cell? ⟨g, 3, none⟩ = some (.int .i64 b_y)) (h4 : w.cell? ⟨g, 4, none⟩ = some (.int .i64 cx)) (h5 : w.cell? ⟨g, 5, none⟩ = some (.int .i64 cy)) : Pts w w.heap.size (some ⟨g, 0, none⟩) 3 (pick3 ax bx cx) (pick3 ay b_y cy) := by
  intro k hk
  match k, hk with
  | 0, _ => exact ⟨g, 0, rfl, hg, h0, h1⟩
  | 1, _ => exact ⟨g, 0, rfl, hg, h2, h3⟩
  | 2, _ => exact ⟨g, 0, rfl, hg, h4, h5⟩
theorem pts2 {w : World} {g : Nat} {ax ay bx b_y : Int} (hg : g < w.heap.size) (h0 : w.cell? ⟨g, 0, none⟩ = some (.int .i64 ax)) (h1 : w.cell? ⟨g, 1, none⟩ = some (.int .i64 ay)) (h2 : w.cell? ⟨g, 2, none⟩ = some (.int .i64 bx))
    (h3 : w.cell? ⟨g, 3, none⟩ = some (.int .i64 b_y)) : Pts w w.heap.size (some ⟨g, 0, none⟩) 2 (pick2 ax bx) (pick2 ay b_y) := by
  intro k hk
  match k, hk with
  | 0, _ => exact ⟨g, 0, rfl, hg, h0, h1⟩
  | 1, _ => exact ⟨g, 0, rfl, hg, h2, h3⟩
/-- allValid called with three points, or two, laid into a new block. -/
theorem allValid3_any (g c : Nat) (ax ay bx b_y cx cy : Int) (w : World) (hg : g < w.heap.size) (h0 : w.cell? ⟨g, 0, none⟩ = some (.int .i64 ax)) (h1 : w.cell? ⟨g, 1, none⟩ = some (.int .i64 ay)) (h2 : w.cell? ⟨g, 2, none⟩ = some (.int .i64 bx))
    (h3 : w.cell? ⟨g, 3, none⟩ = some (.int .i64 b_y)) (h4 : w.cell? ⟨g, 4, none⟩ = some (.int .i64 cx)) (h5 : w.cell? ⟨g, 5, none⟩ = some (.int .i64 cy)) :
    Calls Try.prog 82 #[.slice (some ⟨g, 0, none⟩) 3 c] w fun e w' => e = .returned (.bool (ptB ax ay && ptB bx b_y && ptB cx cy)) ∧ Below w.heap.size w w' := by
  rw [← allB3]
  exact allValid_any _ 3 c _ _ w (by omega) (pts3 hg h0 h1 h2 h3 h4 h5)
theorem allValid2_any (g c : Nat) (ax ay bx b_y : Int) (w : World) (hg : g < w.heap.size) (h0 : w.cell? ⟨g, 0, none⟩ = some (.int .i64 ax)) (h1 : w.cell? ⟨g, 1, none⟩ = some (.int .i64 ay)) (h2 : w.cell? ⟨g, 2, none⟩ = some (.int .i64 bx))
    (h3 : w.cell? ⟨g, 3, none⟩ = some (.int .i64 b_y)) :
    Calls Try.prog 82 #[.slice (some ⟨g, 0, none⟩) 2 c] w fun e w' => e = .returned (.bool (ptB ax ay && ptB bx b_y)) ∧ Below w.heap.size w w' := by
  rw [← allB2]
  exact allValid_any _ 2 c _ _ w (by omega) (pts2 hg h0 h1 h2 h3)

/-- What Cross answers. -/
def crossR (ax ay bx b_y cx cy : Int) : Int := if ptB ax ay && ptB bx b_y && ptB cx cy then crossI ax ay bx b_y cx cy else 0
theorem crossR_no {ax ay bx b_y cx cy : Int} (h : (ptB ax ay && ptB bx b_y && ptB cx cy) = false) : crossR ax ay bx b_y cx cy = 0 := by unfold crossR; rw [h]; rfl
theorem crossR_yes {ax ay bx b_y cx cy : Int} (h : (ptB ax ay && ptB bx b_y && ptB cx cy) = true) : crossR ax ay bx b_y cx cy = crossI ax ay bx b_y cx cy := by unfold crossR; rw [h]; rfl
theorem and3 {a b c : Bool} (h : (a && b && c) = true) : a = true ∧ b = true ∧ c = true := by
  cases a <;> cases b <;> cases c <;> simp at h ⊢
theorem and2 {a b : Bool} (h : (a && b) = true) : a = true ∧ b = true := by
  cases a <;> cases b <;> simp at h ⊢

end Go.Proofs.Ytoijfjifaljpaab
