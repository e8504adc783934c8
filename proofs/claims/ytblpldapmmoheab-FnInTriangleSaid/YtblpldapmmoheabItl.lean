/-
  The laws of InTriangle and of points in a circle over drawn points. Written by an AI agent.
-/
import Derived.Test.YtblpldapmmoheabItr
import Derived.Test.YtblpldapmmoheabIcl
namespace Go.Proofs.Ytblpldapmmoheab
set_option linter.all false
open Go.RowKit
def TTl : Tab := fun f ds => match f with
  | 37 => pDIt ds
  | f => TTi f ds
theorem TTl_ok : TabOk Try.prog TTl := by
  intro f ds v C h hC
  unfold TTl at h
  (try split at h)
  all_goals first | with_reducible exact pDIt_ok h hC | exact TTi_ok _ _ _ _ h hC
def TCi : Tab := fun f ds => match f with
  | 34 => pITr ds
  | f => TIc f ds
theorem TCi_ok : TabOk Try.prog TCi := by
  intro f ds v C h hC
  unfold TCi at h
  (try split at h)
  all_goals first | with_reducible exact pITr_ok res_ITri h | exact TIc_ok _ _ _ _ h hC
set_option maxRecDepth 100000 in
theorem tr_lIt (bs : List Int) : bodyV Try.prog (tabE TTl) 30 12 9 [.row bs.length (.bytes bs)] = brT (decide (1048576 < (↑bs.length : Int))) (.fin (.bool (true)) []) (.need (Bytes (List.drop (0 : Nat) bs)) (.need (bs.length ≤ (List.drop (0 : Nat) bs).length) (brT (!itV (itD (List.drop 0 bs) (rdL bs.length) 0) (itD (List.drop 0 bs) (rdL bs.length) 1) (itD (List.drop 0 bs) (rdL bs.length) 2) (itD (List.drop 0 bs) (rdL bs.length) 3) (itD (List.drop 0 bs) (rdL bs.length) 4) (itD (List.drop 0 bs) (rdL bs.length) 5) (itD (List.drop 0 bs) (rdL bs.length) 6) (itD (List.drop 0 bs) (rdL bs.length) 7) == itV (itD (List.drop 0 bs) (rdL bs.length) 0) (itD (List.drop 0 bs) (rdL bs.length) 1) (itD (List.drop 0 bs) (rdL bs.length) 2) (itD (List.drop 0 bs) (rdL bs.length) 3) (itD (List.drop 0 bs) (rdL bs.length) 4) (itD (List.drop 0 bs) (rdL bs.length) 5) (itD (List.drop 0 bs) (rdL bs.length) 6) (itD (List.drop 0 bs) (rdL bs.length) 7)) (.fin (.bool (itV (itD (List.drop 0 bs) (rdL bs.length) 0) (itD (List.drop 0 bs) (rdL bs.length) 1) (itD (List.drop 0 bs) (rdL bs.length) 2) (itD (List.drop 0 bs) (rdL bs.length) 3) (itD (List.drop 0 bs) (rdL bs.length) 4) (itD (List.drop 0 bs) (rdL bs.length) 5) (itD (List.drop 0 bs) (rdL bs.length) 6) (itD (List.drop 0 bs) (rdL bs.length) 7) == itV (itD (List.drop 0 bs) (rdL bs.length) 0) (itD (List.drop 0 bs) (rdL bs.length) 1) (itD (List.drop 0 bs) (rdL bs.length) 2) (itD (List.drop 0 bs) (rdL bs.length) 3) (itD (List.drop 0 bs) (rdL bs.length) 4) (itD (List.drop 0 bs) (rdL bs.length) 5) (itD (List.drop 0 bs) (rdL bs.length) 6) (itD (List.drop 0 bs) (rdL bs.length) 7))) []) (brT (!ptB (itD (List.drop 0 bs) (rdL bs.length) 0) (itD (List.drop 0 bs) (rdL bs.length) 1)) (.fin (.bool (itV (itD (List.drop 0 bs) (rdL bs.length) 0) (itD (List.drop 0 bs) (rdL bs.length) 1) (itD (List.drop 0 bs) (rdL bs.length) 2) (itD (List.drop 0 bs) (rdL bs.length) 3) (itD (List.drop 0 bs) (rdL bs.length) 4) (itD (List.drop 0 bs) (rdL bs.length) 5) (itD (List.drop 0 bs) (rdL bs.length) 6) (itD (List.drop 0 bs) (rdL bs.length) 7) == itV (itD (List.drop 0 bs) (rdL bs.length) 0) (itD (List.drop 0 bs) (rdL bs.length) 1) (itD (List.drop 0 bs) (rdL bs.length) 2) (itD (List.drop 0 bs) (rdL bs.length) 3) (itD (List.drop 0 bs) (rdL bs.length) 4) (itD (List.drop 0 bs) (rdL bs.length) 5) (itD (List.drop 0 bs) (rdL bs.length) 6) (itD (List.drop 0 bs) (rdL bs.length) 7))) []) (brT (!ptB (itD (List.drop 0 bs) (rdL bs.length) 2) (itD (List.drop 0 bs) (rdL bs.length) 3)) (.fin (.bool (itV (itD (List.drop 0 bs) (rdL bs.length) 0) (itD (List.drop 0 bs) (rdL bs.length) 1) (itD (List.drop 0 bs) (rdL bs.length) 2) (itD (List.drop 0 bs) (rdL bs.length) 3) (itD (List.drop 0 bs) (rdL bs.length) 4) (itD (List.drop 0 bs) (rdL bs.length) 5) (itD (List.drop 0 bs) (rdL bs.length) 6) (itD (List.drop 0 bs) (rdL bs.length) 7) == itV (itD (List.drop 0 bs) (rdL bs.length) 0) (itD (List.drop 0 bs) (rdL bs.length) 1) (itD (List.drop 0 bs) (rdL bs.length) 2) (itD (List.drop 0 bs) (rdL bs.length) 3) (itD (List.drop 0 bs) (rdL bs.length) 4) (itD (List.drop 0 bs) (rdL bs.length) 5) (itD (List.drop 0 bs) (rdL bs.length) 6) (itD (List.drop 0 bs) (rdL bs.length) 7))) []) (brT (!ptB (itD (List.drop 0 bs) (rdL bs.length) 4) (itD (List.drop 0 bs) (rdL bs.length) 5)) (.fin (.bool (itV (itD (List.drop 0 bs) (rdL bs.length) 0) (itD (List.drop 0 bs) (rdL bs.length) 1) (itD (List.drop 0 bs) (rdL bs.length) 2) (itD (List.drop 0 bs) (rdL bs.length) 3) (itD (List.drop 0 bs) (rdL bs.length) 4) (itD (List.drop 0 bs) (rdL bs.length) 5) (itD (List.drop 0 bs) (rdL bs.length) 6) (itD (List.drop 0 bs) (rdL bs.length) 7) == itV (itD (List.drop 0 bs) (rdL bs.length) 0) (itD (List.drop 0 bs) (rdL bs.length) 1) (itD (List.drop 0 bs) (rdL bs.length) 2) (itD (List.drop 0 bs) (rdL bs.length) 3) (itD (List.drop 0 bs) (rdL bs.length) 4) (itD (List.drop 0 bs) (rdL bs.length) 5) (itD (List.drop 0 bs) (rdL bs.length) 6) (itD (List.drop 0 bs) (rdL bs.length) 7))) []) (brT (itV (itD (List.drop 0 bs) (rdL bs.length) 2) (itD (List.drop 0 bs) (rdL bs.length) 3) (itD (List.drop 0 bs) (rdL bs.length) 4) (itD (List.drop 0 bs) (rdL bs.length) 5) (itD (List.drop 0 bs) (rdL bs.length) 0) (itD (List.drop 0 bs) (rdL bs.length) 1) (itD (List.drop 0 bs) (rdL bs.length) 6) (itD (List.drop 0 bs) (rdL bs.length) 7) == itV (itD (List.drop 0 bs) (rdL bs.length) 0) (itD (List.drop 0 bs) (rdL bs.length) 1) (itD (List.drop 0 bs) (rdL bs.length) 2) (itD (List.drop 0 bs) (rdL bs.length) 3) (itD (List.drop 0 bs) (rdL bs.length) 4) (itD (List.drop 0 bs) (rdL bs.length) 5) (itD (List.drop 0 bs) (rdL bs.length) 6) (itD (List.drop 0 bs) (rdL bs.length) 7)) (brT (itV (itD (List.drop 0 bs) (rdL bs.length) 2) (itD (List.drop 0 bs) (rdL bs.length) 3) (itD (List.drop 0 bs) (rdL bs.length) 0) (itD (List.drop 0 bs) (rdL bs.length) 1) (itD (List.drop 0 bs) (rdL bs.length) 4) (itD (List.drop 0 bs) (rdL bs.length) 5) (itD (List.drop 0 bs) (rdL bs.length) 6) (itD (List.drop 0 bs) (rdL bs.length) 7) == itV (itD (List.drop 0 bs) (rdL bs.length) 0) (itD (List.drop 0 bs) (rdL bs.length) 1) (itD (List.drop 0 bs) (rdL bs.length) 2) (itD (List.drop 0 bs) (rdL bs.length) 3) (itD (List.drop 0 bs) (rdL bs.length) 4) (itD (List.drop 0 bs) (rdL bs.length) 5) (itD (List.drop 0 bs) (rdL bs.length) 6) (itD (List.drop 0 bs) (rdL bs.length) 7)) (brT (itV (itD (List.drop 0 bs) (rdL bs.length) 0) (itD (List.drop 0 bs) (rdL bs.length) 1) (itD (List.drop 0 bs) (rdL bs.length) 2) (itD (List.drop 0 bs) (rdL bs.length) 3) (itD (List.drop 0 bs) (rdL bs.length) 4) (itD (List.drop 0 bs) (rdL bs.length) 5) (itD (List.drop 0 bs) (rdL bs.length) 0) (itD (List.drop 0 bs) (rdL bs.length) 1)) (.fin (.bool (itV (itD (List.drop 0 bs) (rdL bs.length) 0) (itD (List.drop 0 bs) (rdL bs.length) 1) (itD (List.drop 0 bs) (rdL bs.length) 2) (itD (List.drop 0 bs) (rdL bs.length) 3) (itD (List.drop 0 bs) (rdL bs.length) 4) (itD (List.drop 0 bs) (rdL bs.length) 5) (itD (List.drop 0 bs) (rdL bs.length) 2) (itD (List.drop 0 bs) (rdL bs.length) 3))) []) (.fin (.bool (false)) [])) (.fin (.bool (false)) [])) (.fin (.bool (false)) [])))))))) := by kernel_rfl
theorem law_it (bs : List Int) (hb : Bytes bs) (_ : bs.length ≤ maxLen) : Res Try.prog 9 [.row bs.length (.bytes bs)] (.bool true) := by
  refine bodyV_res mixed (tabE_ok TTl_ok) (m := 30) (n := 12) rfl ?_
  rw [tr_lIt]
  simp only [List.drop_zero]
  generalize itD bs (rdL bs.length) 0 = a
  generalize itD bs (rdL bs.length) 1 = b
  generalize itD bs (rdL bs.length) 2 = c
  generalize itD bs (rdL bs.length) 3 = d
  generalize itD bs (rdL bs.length) 4 = e
  generalize itD bs (rdL bs.length) 5 = f
  generalize itD bs (rdL bs.length) 6 = g
  generalize itD bs (rdL bs.length) 7 = h
  have e1 := itV_rot a b c d e f g h
  have e2 := itV_swp a b c d e f g h
  rcases h1 : ptB a b with _ | _
  · simp [brT_ok, Tree.ok, hb]
  rcases h2 : ptB c d with _ | _
  · simp [brT_ok, Tree.ok, hb]
  rcases h3 : ptB e f with _ | _
  · simp [brT_ok, Tree.ok, hb]
  have e3 := itV_a h1 h2 h3
  have e4 := itV_b h1 h2 h3
  simp [brT_ok, Tree.ok, hb, e1, e2, e3, e4]
/-- A point of a triangle is not outside of its circle. -/
theorem circ_in {a b c d e f g h : Int} (k : ¬ inV a b c d e f g h = 2) (ht : itV a b c d e f g h = true) : 0 ≤ inV a b c d e f g h := by
  obtain ⟨h1, h2, h3, h4, h5⟩ := inV_cond k
  rw [inV_yes h1 h2 h3 h4 h5]
  have ht2 : triS a b c d e f g h = true := by
    rw [← triB_ne h5]
    unfold itV at ht
    rw [h1, h2, h3, h4] at ht
    simpa using ht
  have hs := it_sum a b c d e f g h
  have ed : detI (a - g) (b - h) (c - g) (d - h) (e - g) (f - h) = ((a - g) * (a - g) + (b - h) * (b - h)) * crossI c d e f g h + ((c - g) * (c - g) + (d - h) * (d - h)) * crossI e f a b g h + ((e - g) * (e - g) + (f - h) * (f - h)) * crossI a b c d g h := by
    unfold detI crossI
    grind
  rw [ed]
  unfold triS at ht2
  have p1 : 0 ≤ (a - g) * (a - g) + (b - h) * (b - h) := by have := it_sq (a - g); have := it_sq (b - h); omega
  have p2 : 0 ≤ (c - g) * (c - g) + (d - h) * (d - h) := by have := it_sq (c - g); have := it_sq (d - h); omega
  have p3 : 0 ≤ (e - g) * (e - g) + (f - h) * (f - h) := by have := it_sq (e - g); have := it_sq (f - h); omega
  generalize (a - g) * (a - g) + (b - h) * (b - h) = u at *
  generalize (c - g) * (c - g) + (d - h) * (d - h) = v at *
  generalize (e - g) * (e - g) + (f - h) * (f - h) = w at *
  generalize crossI a b c d e f = s at *
  generalize crossI a b c d g h = p at *
  generalize crossI c d e f g h = q at *
  generalize crossI e f a b g h = r at *
  simp only [Bool.and_eq_true, Bool.or_eq_true, decide_eq_true_eq, Bool.not_eq_true', Bool.and_eq_false_iff, Bool.or_eq_false_iff, decide_eq_false_iff_not] at ht2
  have cm : ∀ x : Int, (0 ≤ x → 0 ≤ cmpI x 0) ∧ (x ≤ 0 → cmpI x 0 ≤ 0) := fun x => by
    unfold cmpI
    constructor <;> intro hx <;> split <;> (try split) <;> omega
  rcases Int.lt_or_gt_of_ne h5 with hn | hp
  · have n1 : p ≤ 0 := by omega
    have n2 : q ≤ 0 := by omega
    have n3 : r ≤ 0 := by omega
    have m1 := Int.mul_nonpos_of_nonneg_of_nonpos p1 n2
    have m2 := Int.mul_nonpos_of_nonneg_of_nonpos p2 n3
    have m3 := Int.mul_nonpos_of_nonneg_of_nonpos p3 n1
    exact Int.mul_nonneg_of_nonpos_of_nonpos ((cm _).2 (by omega)) ((cm s).2 (by omega))
  · have n1 : 0 ≤ p := by omega
    have n2 : 0 ≤ q := by omega
    have n3 : 0 ≤ r := by omega
    have m1 := Int.mul_nonneg p1 n2
    have m2 := Int.mul_nonneg p2 n3
    have m3 := Int.mul_nonneg p3 n1
    exact Int.mul_nonneg ((cm _).1 (by omega)) ((cm s).1 (by omega))
set_option maxRecDepth 100000 in
theorem tr_lCi (bs : List Int) : bodyV Try.prog (tabE TCi) 30 12 11 [.row bs.length (.bytes bs)] = brT (decide (1048576 < (↑bs.length : Int))) (.fin (.bool (true)) []) (.need (Bytes (List.drop (0 : Nat) bs)) (.need (bs.length ≤ (List.drop (0 : Nat) bs).length) (brT (!inV (icD (List.drop 0 bs) (rdL bs.length) 0) (icD (List.drop 0 bs) (rdL bs.length) 1) (icD (List.drop 0 bs) (rdL bs.length) 2) (icD (List.drop 0 bs) (rdL bs.length) 3) (icD (List.drop 0 bs) (rdL bs.length) 4) (icD (List.drop 0 bs) (rdL bs.length) 5) (icD (List.drop 0 bs) (rdL bs.length) 6) (icD (List.drop 0 bs) (rdL bs.length) 7) == inV (icD (List.drop 0 bs) (rdL bs.length) 0) (icD (List.drop 0 bs) (rdL bs.length) 1) (icD (List.drop 0 bs) (rdL bs.length) 2) (icD (List.drop 0 bs) (rdL bs.length) 3) (icD (List.drop 0 bs) (rdL bs.length) 4) (icD (List.drop 0 bs) (rdL bs.length) 5) (icD (List.drop 0 bs) (rdL bs.length) 6) (icD (List.drop 0 bs) (rdL bs.length) 7)) (.fin (.bool (inV (icD (List.drop 0 bs) (rdL bs.length) 0) (icD (List.drop 0 bs) (rdL bs.length) 1) (icD (List.drop 0 bs) (rdL bs.length) 2) (icD (List.drop 0 bs) (rdL bs.length) 3) (icD (List.drop 0 bs) (rdL bs.length) 4) (icD (List.drop 0 bs) (rdL bs.length) 5) (icD (List.drop 0 bs) (rdL bs.length) 6) (icD (List.drop 0 bs) (rdL bs.length) 7) == inV (icD (List.drop 0 bs) (rdL bs.length) 0) (icD (List.drop 0 bs) (rdL bs.length) 1) (icD (List.drop 0 bs) (rdL bs.length) 2) (icD (List.drop 0 bs) (rdL bs.length) 3) (icD (List.drop 0 bs) (rdL bs.length) 4) (icD (List.drop 0 bs) (rdL bs.length) 5) (icD (List.drop 0 bs) (rdL bs.length) 6) (icD (List.drop 0 bs) (rdL bs.length) 7))) []) (brT (inV (icD (List.drop 0 bs) (rdL bs.length) 0) (icD (List.drop 0 bs) (rdL bs.length) 1) (icD (List.drop 0 bs) (rdL bs.length) 2) (icD (List.drop 0 bs) (rdL bs.length) 3) (icD (List.drop 0 bs) (rdL bs.length) 4) (icD (List.drop 0 bs) (rdL bs.length) 5) (icD (List.drop 0 bs) (rdL bs.length) 6) (icD (List.drop 0 bs) (rdL bs.length) 7) == 2) (.fin (.bool (inV (icD (List.drop 0 bs) (rdL bs.length) 0) (icD (List.drop 0 bs) (rdL bs.length) 1) (icD (List.drop 0 bs) (rdL bs.length) 2) (icD (List.drop 0 bs) (rdL bs.length) 3) (icD (List.drop 0 bs) (rdL bs.length) 4) (icD (List.drop 0 bs) (rdL bs.length) 5) (icD (List.drop 0 bs) (rdL bs.length) 6) (icD (List.drop 0 bs) (rdL bs.length) 7) == inV (icD (List.drop 0 bs) (rdL bs.length) 0) (icD (List.drop 0 bs) (rdL bs.length) 1) (icD (List.drop 0 bs) (rdL bs.length) 2) (icD (List.drop 0 bs) (rdL bs.length) 3) (icD (List.drop 0 bs) (rdL bs.length) 4) (icD (List.drop 0 bs) (rdL bs.length) 5) (icD (List.drop 0 bs) (rdL bs.length) 6) (icD (List.drop 0 bs) (rdL bs.length) 7))) []) (brT (!itV (icD (List.drop 0 bs) (rdL bs.length) 0) (icD (List.drop 0 bs) (rdL bs.length) 1) (icD (List.drop 0 bs) (rdL bs.length) 2) (icD (List.drop 0 bs) (rdL bs.length) 3) (icD (List.drop 0 bs) (rdL bs.length) 4) (icD (List.drop 0 bs) (rdL bs.length) 5) (icD (List.drop 0 bs) (rdL bs.length) 6) (icD (List.drop 0 bs) (rdL bs.length) 7)) (.fin (.bool (true)) []) (.fin (.bool (decide (0 ≤ inV (icD (List.drop 0 bs) (rdL bs.length) 0) (icD (List.drop 0 bs) (rdL bs.length) 1) (icD (List.drop 0 bs) (rdL bs.length) 2) (icD (List.drop 0 bs) (rdL bs.length) 3) (icD (List.drop 0 bs) (rdL bs.length) 4) (icD (List.drop 0 bs) (rdL bs.length) 5) (icD (List.drop 0 bs) (rdL bs.length) 6) (icD (List.drop 0 bs) (rdL bs.length) 7)))) [])))))) := by kernel_rfl
theorem law_ci (bs : List Int) (hb : Bytes bs) (_ : bs.length ≤ maxLen) : Res Try.prog 11 [.row bs.length (.bytes bs)] (.bool true) := by
  refine bodyV_res mixed (tabE_ok TCi_ok) (m := 30) (n := 12) rfl ?_
  rw [tr_lCi]
  simp only [List.drop_zero]
  generalize icD bs (rdL bs.length) 0 = a
  generalize icD bs (rdL bs.length) 1 = b
  generalize icD bs (rdL bs.length) 2 = c
  generalize icD bs (rdL bs.length) 3 = d
  generalize icD bs (rdL bs.length) 4 = e
  generalize icD bs (rdL bs.length) 5 = f
  generalize icD bs (rdL bs.length) 6 = g
  generalize icD bs (rdL bs.length) 7 = h
  by_cases k : inV a b c d e f g h = 2
  · simp [brT_ok, Tree.ok, hb, k]
  · rcases ht : itV a b c d e f g h with _ | _
    · simp [brT_ok, Tree.ok, hb, k]
    · have hp := circ_in k ht
      simp [brT_ok, Tree.ok, hb, k, hp]
end Go.Proofs.Ytblpldapmmoheab
