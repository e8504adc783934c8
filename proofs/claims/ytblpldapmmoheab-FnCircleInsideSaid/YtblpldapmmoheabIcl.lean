/-
  The law of InCircle over four drawn points. Written by an AI agent.
-/
import Derived.Test.YtblpldapmmoheabInc
import Derived.Test.YtblpldapmmoheabDpt
namespace Go.Proofs.Ytblpldapmmoheab
set_option linter.all false
open Go.RowKit
def TIc : Tab := fun f ds => match f with
  | 39 => pDIc ds
  | f => TI2 f ds
theorem TIc_ok : TabOk Try.prog TIc := by
  intro f ds v C h hC
  unfold TIc at h
  (try split at h)
  all_goals first | with_reducible exact pDIc_ok h hC | exact TI2_ok _ _ _ _ h hC
theorem crossI_rot (a b c d e f : Int) : crossI c d e f a b = crossI a b c d e f := by unfold crossI; grind
theorem crossI_swp (a b c d e f : Int) : crossI c d a b e f = -(crossI a b c d e f) := by unfold crossI; grind
theorem detI_rot (a b c d e f : Int) : detI c d e f a b = detI a b c d e f := by unfold detI; grind
theorem detI_swp (a b c d e f : Int) : detI c d a b e f = -(detI a b c d e f) := by unfold detI; grind
theorem cmpI_mm (x y : Int) : cmpI (-x) 0 * cmpI (-y) 0 = cmpI x 0 * cmpI y 0 := by
  have h : ∀ z : Int, cmpI (-z) 0 = -(cmpI z 0) := fun z => by
    unfold cmpI
    split <;> split <;> (try split) <;> (try split) <;> omega
  rw [h, h, Int.neg_mul_neg]
theorem inV_rot (a b c d e f g h : Int) : inV c d e f a b g h = inV a b c d e f g h := by
  unfold inV
  rw [crossI_rot, detI_rot (a - g) (b - h) (c - g) (d - h) (e - g) (f - h)]
  congr 1
  rw [eq_iff_iff]
  constructor
  · rintro ⟨h1, h2, h3, h4, h5⟩; exact ⟨h3, h1, h2, h4, h5⟩
  · rintro ⟨h1, h2, h3, h4, h5⟩; exact ⟨h2, h3, h1, h4, h5⟩
theorem inV_swp (a b c d e f g h : Int) : inV c d a b e f g h = inV a b c d e f g h := by
  unfold inV
  rw [crossI_swp, detI_swp (a - g) (b - h) (c - g) (d - h) (e - g) (f - h), cmpI_mm]
  congr 1
  rw [eq_iff_iff]
  constructor
  · rintro ⟨h1, h2, h3, h4, h5⟩; exact ⟨h2, h1, h3, h4, by omega⟩
  · rintro ⟨h1, h2, h3, h4, h5⟩; exact ⟨h2, h1, h3, h4, by omega⟩
theorem inV_cond {a b c d e f g h : Int} (k : ¬ inV a b c d e f g h = 2) : ptB a b = true ∧ ptB c d = true ∧ ptB e f = true ∧ ptB g h = true ∧ crossI a b c d e f ≠ 0 := by
  rcases Classical.em (ptB a b = true ∧ ptB c d = true ∧ ptB e f = true ∧ ptB g h = true ∧ crossI a b c d e f ≠ 0) with q | q
  · exact q
  · exact absurd (inV_no q) k
theorem inV_a {a b c d e f g h : Int} (k : ¬ inV a b c d e f g h = 2) : inV a b c d e f a b = 0 := by
  obtain ⟨h1, h2, h3, h4, h5⟩ := inV_cond k
  rw [inV_yes h1 h2 h3 h1 h5]
  have e : detI (a - a) (b - b) (c - a) (d - b) (e - a) (f - b) = 0 := by unfold detI; grind
  rw [e]
  show (0 : Int) * _ = 0
  omega
theorem inV_c {a b c d e f g h : Int} (k : ¬ inV a b c d e f g h = 2) : inV a b c d e f e f = 0 := by
  obtain ⟨h1, h2, h3, h4, h5⟩ := inV_cond k
  rw [inV_yes h1 h2 h3 h3 h5]
  have e : detI (a - e) (b - f) (c - e) (d - f) (e - e) (f - f) = 0 := by unfold detI; grind
  rw [e]
  show (0 : Int) * _ = 0
  omega
set_option maxRecDepth 100000 in
theorem tr_lIc (bs : List Int) : bodyV Try.prog (tabE TIc) 30 12 10 [.row bs.length (.bytes bs)] = brT (decide (1048576 < (↑bs.length : Int))) (.fin (.bool (true)) []) (.need (Bytes (List.drop (0 : Nat) bs)) (.need (bs.length ≤ (List.drop (0 : Nat) bs).length) (brT (!inV (icD (List.drop 0 bs) (rdL bs.length) 0) (icD (List.drop 0 bs) (rdL bs.length) 1) (icD (List.drop 0 bs) (rdL bs.length) 2) (icD (List.drop 0 bs) (rdL bs.length) 3) (icD (List.drop 0 bs) (rdL bs.length) 4) (icD (List.drop 0 bs) (rdL bs.length) 5) (icD (List.drop 0 bs) (rdL bs.length) 6) (icD (List.drop 0 bs) (rdL bs.length) 7) == inV (icD (List.drop 0 bs) (rdL bs.length) 0) (icD (List.drop 0 bs) (rdL bs.length) 1) (icD (List.drop 0 bs) (rdL bs.length) 2) (icD (List.drop 0 bs) (rdL bs.length) 3) (icD (List.drop 0 bs) (rdL bs.length) 4) (icD (List.drop 0 bs) (rdL bs.length) 5) (icD (List.drop 0 bs) (rdL bs.length) 6) (icD (List.drop 0 bs) (rdL bs.length) 7)) (.fin (.bool (inV (icD (List.drop 0 bs) (rdL bs.length) 0) (icD (List.drop 0 bs) (rdL bs.length) 1) (icD (List.drop 0 bs) (rdL bs.length) 2) (icD (List.drop 0 bs) (rdL bs.length) 3) (icD (List.drop 0 bs) (rdL bs.length) 4) (icD (List.drop 0 bs) (rdL bs.length) 5) (icD (List.drop 0 bs) (rdL bs.length) 6) (icD (List.drop 0 bs) (rdL bs.length) 7) == inV (icD (List.drop 0 bs) (rdL bs.length) 0) (icD (List.drop 0 bs) (rdL bs.length) 1) (icD (List.drop 0 bs) (rdL bs.length) 2) (icD (List.drop 0 bs) (rdL bs.length) 3) (icD (List.drop 0 bs) (rdL bs.length) 4) (icD (List.drop 0 bs) (rdL bs.length) 5) (icD (List.drop 0 bs) (rdL bs.length) 6) (icD (List.drop 0 bs) (rdL bs.length) 7))) []) (brT (inV (icD (List.drop 0 bs) (rdL bs.length) 0) (icD (List.drop 0 bs) (rdL bs.length) 1) (icD (List.drop 0 bs) (rdL bs.length) 2) (icD (List.drop 0 bs) (rdL bs.length) 3) (icD (List.drop 0 bs) (rdL bs.length) 4) (icD (List.drop 0 bs) (rdL bs.length) 5) (icD (List.drop 0 bs) (rdL bs.length) 6) (icD (List.drop 0 bs) (rdL bs.length) 7) == 2) (.fin (.bool (inV (icD (List.drop 0 bs) (rdL bs.length) 0) (icD (List.drop 0 bs) (rdL bs.length) 1) (icD (List.drop 0 bs) (rdL bs.length) 2) (icD (List.drop 0 bs) (rdL bs.length) 3) (icD (List.drop 0 bs) (rdL bs.length) 4) (icD (List.drop 0 bs) (rdL bs.length) 5) (icD (List.drop 0 bs) (rdL bs.length) 6) (icD (List.drop 0 bs) (rdL bs.length) 7) == inV (icD (List.drop 0 bs) (rdL bs.length) 0) (icD (List.drop 0 bs) (rdL bs.length) 1) (icD (List.drop 0 bs) (rdL bs.length) 2) (icD (List.drop 0 bs) (rdL bs.length) 3) (icD (List.drop 0 bs) (rdL bs.length) 4) (icD (List.drop 0 bs) (rdL bs.length) 5) (icD (List.drop 0 bs) (rdL bs.length) 6) (icD (List.drop 0 bs) (rdL bs.length) 7))) []) (brT (inV (icD (List.drop 0 bs) (rdL bs.length) 2) (icD (List.drop 0 bs) (rdL bs.length) 3) (icD (List.drop 0 bs) (rdL bs.length) 4) (icD (List.drop 0 bs) (rdL bs.length) 5) (icD (List.drop 0 bs) (rdL bs.length) 0) (icD (List.drop 0 bs) (rdL bs.length) 1) (icD (List.drop 0 bs) (rdL bs.length) 6) (icD (List.drop 0 bs) (rdL bs.length) 7) == inV (icD (List.drop 0 bs) (rdL bs.length) 0) (icD (List.drop 0 bs) (rdL bs.length) 1) (icD (List.drop 0 bs) (rdL bs.length) 2) (icD (List.drop 0 bs) (rdL bs.length) 3) (icD (List.drop 0 bs) (rdL bs.length) 4) (icD (List.drop 0 bs) (rdL bs.length) 5) (icD (List.drop 0 bs) (rdL bs.length) 6) (icD (List.drop 0 bs) (rdL bs.length) 7)) (brT (inV (icD (List.drop 0 bs) (rdL bs.length) 2) (icD (List.drop 0 bs) (rdL bs.length) 3) (icD (List.drop 0 bs) (rdL bs.length) 0) (icD (List.drop 0 bs) (rdL bs.length) 1) (icD (List.drop 0 bs) (rdL bs.length) 4) (icD (List.drop 0 bs) (rdL bs.length) 5) (icD (List.drop 0 bs) (rdL bs.length) 6) (icD (List.drop 0 bs) (rdL bs.length) 7) == inV (icD (List.drop 0 bs) (rdL bs.length) 0) (icD (List.drop 0 bs) (rdL bs.length) 1) (icD (List.drop 0 bs) (rdL bs.length) 2) (icD (List.drop 0 bs) (rdL bs.length) 3) (icD (List.drop 0 bs) (rdL bs.length) 4) (icD (List.drop 0 bs) (rdL bs.length) 5) (icD (List.drop 0 bs) (rdL bs.length) 6) (icD (List.drop 0 bs) (rdL bs.length) 7)) (brT (inV (icD (List.drop 0 bs) (rdL bs.length) 0) (icD (List.drop 0 bs) (rdL bs.length) 1) (icD (List.drop 0 bs) (rdL bs.length) 2) (icD (List.drop 0 bs) (rdL bs.length) 3) (icD (List.drop 0 bs) (rdL bs.length) 4) (icD (List.drop 0 bs) (rdL bs.length) 5) (icD (List.drop 0 bs) (rdL bs.length) 0) (icD (List.drop 0 bs) (rdL bs.length) 1) == 0) (.fin (.bool (inV (icD (List.drop 0 bs) (rdL bs.length) 0) (icD (List.drop 0 bs) (rdL bs.length) 1) (icD (List.drop 0 bs) (rdL bs.length) 2) (icD (List.drop 0 bs) (rdL bs.length) 3) (icD (List.drop 0 bs) (rdL bs.length) 4) (icD (List.drop 0 bs) (rdL bs.length) 5) (icD (List.drop 0 bs) (rdL bs.length) 4) (icD (List.drop 0 bs) (rdL bs.length) 5) == 0)) []) (.fin (.bool (false)) [])) (.fin (.bool (false)) [])) (.fin (.bool (false)) [])))))) := by kernel_rfl
theorem law_ic (bs : List Int) (hb : Bytes bs) (_ : bs.length ≤ maxLen) : Res Try.prog 10 [.row bs.length (.bytes bs)] (.bool true) := by
  refine bodyV_res mixed (tabE_ok TIc_ok) (m := 30) (n := 12) rfl ?_
  rw [tr_lIc]
  simp only [List.drop_zero]
  generalize icD bs (rdL bs.length) 0 = a
  generalize icD bs (rdL bs.length) 1 = b
  generalize icD bs (rdL bs.length) 2 = c
  generalize icD bs (rdL bs.length) 3 = d
  generalize icD bs (rdL bs.length) 4 = e
  generalize icD bs (rdL bs.length) 5 = f
  generalize icD bs (rdL bs.length) 6 = g
  generalize icD bs (rdL bs.length) 7 = h
  have e1 := inV_rot a b c d e f g h
  have e2 := inV_swp a b c d e f g h
  by_cases k : inV a b c d e f g h = 2
  · simp [brT_ok, Tree.ok, hb, k, e1, e2]
  · have e3 := inV_a k
    have e4 := inV_c k
    simp [brT_ok, Tree.ok, hb, k, e1, e2, e3, e4]
end Go.Proofs.Ytblpldapmmoheab
