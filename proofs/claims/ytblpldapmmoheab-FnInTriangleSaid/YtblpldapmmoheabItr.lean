/-
  A point in a triangle: both ways, the exact law; the law over four drawn points. Written by an AI agent.
-/
import Derived.Test.YtblpldapmmoheabRel
import Derived.Test.YtblpldapmmoheabSrt
import Derived.Test.YtblpldapmmoheabRdo
namespace Go.Proofs.Ytblpldapmmoheab
set_option linter.all false
open Go.RowKit

/-- Is a point in a triangle? -/
def triS (a b c d e f x y : Int) : Bool := !((decide (0 < crossI a b c d x y) || decide (0 < crossI c d e f x y) || decide (0 < crossI e f a b x y)) && (decide (crossI a b c d x y < 0) || decide (crossI c d e f x y < 0) || decide (crossI e f a b x y < 0)))
def triD (a b c d e f x y : Int) : Bool := hasB a b c d x y || hasB c d e f x y || hasB e f a b x y
def triB (a b c d e f x y : Int) : Bool := bif crossI a b c d e f == 0 then triD a b c d e f x y else triS a b c d e f x y
def itV (a b c d e f x y : Int) : Bool := ptB a b && ptB c d && ptB e f && ptB x y && triB a b c d e f x y
theorem it_hasA (a b c d : Int) : hasB a b c d a b = true := by
  unfold hasB
  simp
theorem it_hasB (a b c d : Int) : hasB a b c d c d = true := by
  unfold hasB
  simp
theorem it_rev (a b c d x y : Int) : hasB c d a b x y = hasB a b c d x y := by
  unfold hasB
  have e1 : (c - x) * (b - y) - (d - y) * (a - x) = -((a - x) * (d - y) - (b - y) * (c - x)) := by grind
  have e2 : (c - x) * (a - x) + (d - y) * (b - y) = (a - x) * (c - x) + (b - y) * (d - y) := by grind
  rw [e1, e2]
  congr 1
  rw [Bool.eq_iff_iff]
  simp only [beq_iff_eq]
  omega
theorem it_sq (x : Int) : 0 ≤ x * x := by
  rcases Int.le_total 0 x with h | h
  · exact Int.mul_nonneg h h
  · exact Int.mul_nonneg_of_nonpos_of_nonpos h h
theorem it_sq0 {x y : Int} (h : x * x + y * y ≤ 0) : x = 0 ∧ y = 0 := by
  have h1 := it_sq x
  have h2 := it_sq y
  exact ⟨by have : x * x = 0 := by omega
            rcases Int.mul_eq_zero.1 this with h | h <;> exact h,
    by have : y * y = 0 := by omega
       rcases Int.mul_eq_zero.1 this with h | h <;> exact h⟩
theorem it_pt (a b x y : Int) : hasB a b a b x y = eqB a b x y := by
  unfold hasB eqB
  rw [Bool.eq_iff_iff]
  simp only [Bool.and_eq_true, beq_iff_eq, decide_eq_true_eq]
  constructor
  · rintro ⟨_, h⟩
    obtain ⟨h1, h2⟩ := it_sq0 h
    omega
  · rintro ⟨rfl, rfl⟩
    simp
theorem it_eqB {a b x y : Int} : eqB a b x y = true ↔ a = x ∧ b = y := by unfold eqB; simp
/-- The model's way for points on one line. -/
theorem triD_model (a b c d e f x y : Int) : (eqB a b x y || (!(eqB a b c d) && hasB a b c d x y) || (!(eqB c d e f) && hasB c d e f x y) || (!(eqB a b e f) && hasB a b e f x y)) = triD a b c d e f x y := by
  unfold triD
  rw [Bool.eq_iff_iff]
  have r := it_rev a b e f x y
  have k1 : eqB a b x y = true → hasB a b c d x y = true := fun h => by
    obtain ⟨rfl, rfl⟩ := it_eqB.1 h
    exact it_hasA ..
  have k2 : eqB a b c d = true → hasB a b c d x y = true → eqB a b x y = true := fun h h2 => by
    obtain ⟨rfl, rfl⟩ := it_eqB.1 h
    rwa [it_pt] at h2
  have k3 : eqB c d e f = true → hasB c d e f x y = true → hasB a b c d x y = true := fun h h2 => by
    obtain ⟨rfl, rfl⟩ := it_eqB.1 h
    rw [it_pt] at h2
    obtain ⟨rfl, rfl⟩ := it_eqB.1 h2
    exact it_hasB ..
  have k4 : eqB a b e f = true → hasB a b e f x y = true → eqB a b x y = true := fun h h2 => by
    obtain ⟨rfl, rfl⟩ := it_eqB.1 h
    rwa [it_pt] at h2
  rw [r]
  revert k1 k2 k3 k4
  cases eqB a b x y <;> cases eqB a b c d <;> cases eqB c d e f <;> cases eqB a b e f <;> cases hasB a b c d x y <;> cases hasB c d e f x y <;> cases hasB a b e f x y <;> simp
theorem it_sum (a b c d e f x y : Int) : crossI a b c d x y + crossI c d e f x y + crossI e f a b x y = crossI a b c d e f := by unfold crossI; grind
/-- The model's way for a triangle. -/
theorem triS_model {a b c d e f x y : Int} (h : crossI a b c d e f ≠ 0) : (decide (0 ≤ cmpI (crossI a b c d x y) 0 * cmpI (crossI a b c d e f) 0) && decide (0 ≤ cmpI (crossI c d e f x y) 0 * cmpI (crossI a b c d e f) 0) && decide (0 ≤ cmpI (crossI e f a b x y) 0 * cmpI (crossI a b c d e f) 0)) = triS a b c d e f x y := by
  have hs := it_sum a b c d e f x y
  unfold triS
  generalize crossI a b c d e f = s at *
  generalize crossI a b c d x y = p at *
  generalize crossI c d e f x y = q at *
  generalize crossI e f a b x y = r at *
  rw [Bool.eq_iff_iff]
  simp only [Bool.and_eq_true, Bool.or_eq_true, decide_eq_true_eq, Bool.not_eq_true', Bool.and_eq_false_iff, Bool.or_eq_false_iff, decide_eq_false_iff_not]
  unfold cmpI
  rcases Int.lt_or_gt_of_ne h with h | h
  · rw [if_pos h]
    split <;> split <;> split <;> (try split) <;> (try split) <;> (try split) <;> omega
  · rw [if_neg (show ¬ s < 0 by omega), if_pos h]
    split <;> split <;> split <;> (try split) <;> (try split) <;> (try split) <;> omega
theorem it_crot (a b c d e f : Int) : crossI c d e f a b = crossI a b c d e f := by unfold crossI; grind
theorem it_cswp (a b c d e f : Int) : crossI c d a b e f = -(crossI a b c d e f) := by unfold crossI; grind
theorem triD_rot (a b c d e f x y : Int) : triD c d e f a b x y = triD a b c d e f x y := by
  unfold triD
  cases hasB a b c d x y <;> cases hasB c d e f x y <;> cases hasB e f a b x y <;> rfl
theorem triD_swp (a b c d e f x y : Int) : triD c d a b e f x y = triD a b c d e f x y := by
  unfold triD
  rw [it_rev a b c d x y, it_rev e f a b x y, it_rev c d e f x y]
  cases hasB a b c d x y <;> cases hasB c d e f x y <;> cases hasB e f a b x y <;> rfl
theorem triS_rot (a b c d e f x y : Int) : triS c d e f a b x y = triS a b c d e f x y := by
  unfold triS
  cases decide (0 < crossI a b c d x y) <;> cases decide (0 < crossI c d e f x y) <;> cases decide (0 < crossI e f a b x y) <;> cases decide (crossI a b c d x y < 0) <;> cases decide (crossI c d e f x y < 0) <;> cases decide (crossI e f a b x y < 0) <;> rfl
theorem triS_swp (a b c d e f x y : Int) : triS c d a b e f x y = triS a b c d e f x y := by
  unfold triS
  rw [it_cswp a b c d x y, it_cswp e f a b x y, it_cswp c d e f x y]
  rw [Bool.eq_iff_iff]
  simp only [Bool.and_eq_true, Bool.or_eq_true, decide_eq_true_eq, Bool.not_eq_true', Bool.and_eq_false_iff, Bool.or_eq_false_iff, decide_eq_false_iff_not]
  omega
theorem triB_rot (a b c d e f x y : Int) : triB c d e f a b x y = triB a b c d e f x y := by
  unfold triB
  rw [it_crot, triD_rot, triS_rot]
theorem triB_swp (a b c d e f x y : Int) : triB c d a b e f x y = triB a b c d e f x y := by
  unfold triB
  rw [it_cswp, triD_swp, triS_swp]
  congr 1
  rw [Bool.eq_iff_iff]
  simp only [beq_iff_eq]
  omega
theorem itV_rot (a b c d e f x y : Int) : itV c d e f a b x y = itV a b c d e f x y := by
  unfold itV
  rw [triB_rot]
  cases ptB a b <;> cases ptB c d <;> cases ptB e f <;> rfl
theorem itV_swp (a b c d e f x y : Int) : itV c d a b e f x y = itV a b c d e f x y := by
  unfold itV
  rw [triB_swp]
  cases ptB a b <;> cases ptB c d <;> cases ptB e f <;> rfl
theorem triB_a (a b c d e f : Int) : triB a b c d e f a b = true := by
  unfold triB
  by_cases h : crossI a b c d e f = 0
  · rw [show (crossI a b c d e f == 0) = true from beq_iff_eq.2 h]
    unfold triD
    simp [it_hasA]
  · rw [show (crossI a b c d e f == 0) = false from beq_eq_false_iff_ne.2 h]
    unfold triS
    have e1 : crossI a b c d a b = 0 := by unfold crossI; grind
    have e2 : crossI e f a b a b = 0 := by unfold crossI; grind
    rw [e1, e2]
    simp only [cond_false]
    generalize crossI c d e f a b = u
    rw [Bool.eq_iff_iff]
    simp only [Bool.and_eq_true, Bool.or_eq_true, decide_eq_true_eq, Bool.not_eq_true', Bool.and_eq_false_iff, Bool.or_eq_false_iff, decide_eq_false_iff_not, iff_true]
    omega
theorem triB_b (a b c d e f : Int) : triB a b c d e f c d = true := by
  rw [← triB_rot]
  exact triB_a ..
theorem itV_a {a b c d e f : Int} (h1 : ptB a b = true) (h2 : ptB c d = true) (h3 : ptB e f = true) : itV a b c d e f a b = true := by
  unfold itV
  rw [h1, h2, h3, triB_a]
  rfl
theorem itV_b {a b c d e f : Int} (h1 : ptB a b = true) (h2 : ptB c d = true) (h3 : ptB e f = true) : itV a b c d e f c d = true := by
  unfold itV
  rw [h1, h2, h3, triB_b]
  rfl
/-- The search among the three sides. -/
def ETr : Env := mkE TRl (fun _ _ => none) (fun _ => noL)
theorem ETr_ok : EnvOk Try.prog ETr := mkEOk TRl_ok (fun _ _ _ _ _ h => (by cases h)) (fun _ _ _ => noL_good)
set_option maxRecDepth 100000 in
theorem tr_cf (a b c d e f x y : Int) : bodyM Try.prog ETr (runM Try.prog ETr 30 12) 30 144 [.slice (some ⟨0, 0, none⟩) 3 3, .func (.func 145) ⟨[]⟩ ⟨[.pointer (some ⟨1, 0, none⟩)]⟩] [some ⟨.view, .vals [iv a, iv b, iv c, iv d, iv c, iv d, iv e, iv f, iv e, iv f, iv a, iv b]⟩, some ⟨.view, .vals [iv x, iv y]⟩] .fin = .need ((0 : Int) ≤ (0 : Int) ∧ (0 : Int) < (↑(3 : Nat) : Int)) (.need (ptB a b = true) (.need (ptB c d = true) (.need (ptB x y = true) (brT (hasB a b c d x y) (.fin (.bool (decide (0 ≤ 0))) [some ⟨.view, .vals [.int .i64 (a), .int .i64 (b), .int .i64 (c), .int .i64 (d), .int .i64 (c), .int .i64 (d), .int .i64 (e), .int .i64 (f), .int .i64 (e), .int .i64 (f), .int .i64 (a), .int .i64 (b)]⟩, some ⟨.view, .vals [.int .i64 (x), .int .i64 (y)]⟩, some ⟨.box, .vals [.int .i64 (a), .int .i64 (b), .int .i64 (c), .int .i64 (d)]⟩]) (.need ((0 : Int) ≤ IntKind.i64.wrap ((0 : Int) + (1 : Int)) ∧ IntKind.i64.wrap ((0 : Int) + (1 : Int)) < (↑(3 : Nat) : Int)) (.need (ptB c d = true) (.need (ptB e f = true) (.need (ptB x y = true) (brT (hasB c d e f x y) (.fin (.bool (decide (0 ≤ IntKind.i64.wrap (0 + 1)))) [some ⟨.view, .vals [.int .i64 (a), .int .i64 (b), .int .i64 (c), .int .i64 (d), .int .i64 (c), .int .i64 (d), .int .i64 (e), .int .i64 (f), .int .i64 (e), .int .i64 (f), .int .i64 (a), .int .i64 (b)]⟩, some ⟨.view, .vals [.int .i64 (x), .int .i64 (y)]⟩, some ⟨.box, .vals [.int .i64 (a), .int .i64 (b), .int .i64 (c), .int .i64 (d)]⟩, some ⟨.box, .vals [.int .i64 (c), .int .i64 (d), .int .i64 (e), .int .i64 (f)]⟩]) (.need ((0 : Int) ≤ IntKind.i64.wrap (IntKind.i64.wrap ((0 : Int) + (1 : Int)) + (1 : Int)) ∧ IntKind.i64.wrap (IntKind.i64.wrap ((0 : Int) + (1 : Int)) + (1 : Int)) < (↑(3 : Nat) : Int)) (.need (ptB e f = true) (.need (ptB a b = true) (.need (ptB x y = true) (brT (hasB e f a b x y) (.fin (.bool (decide (0 ≤ IntKind.i64.wrap (IntKind.i64.wrap (0 + 1) + 1)))) [some ⟨.view, .vals [.int .i64 (a), .int .i64 (b), .int .i64 (c), .int .i64 (d), .int .i64 (c), .int .i64 (d), .int .i64 (e), .int .i64 (f), .int .i64 (e), .int .i64 (f), .int .i64 (a), .int .i64 (b)]⟩, some ⟨.view, .vals [.int .i64 (x), .int .i64 (y)]⟩, some ⟨.box, .vals [.int .i64 (a), .int .i64 (b), .int .i64 (c), .int .i64 (d)]⟩, some ⟨.box, .vals [.int .i64 (c), .int .i64 (d), .int .i64 (e), .int .i64 (f)]⟩, some ⟨.box, .vals [.int .i64 (e), .int .i64 (f), .int .i64 (a), .int .i64 (b)]⟩]) (.fin (.bool (decide (0 ≤ -1))) [some ⟨.view, .vals [.int .i64 (a), .int .i64 (b), .int .i64 (c), .int .i64 (d), .int .i64 (c), .int .i64 (d), .int .i64 (e), .int .i64 (f), .int .i64 (e), .int .i64 (f), .int .i64 (a), .int .i64 (b)]⟩, some ⟨.view, .vals [.int .i64 (x), .int .i64 (y)]⟩, some ⟨.box, .vals [.int .i64 (a), .int .i64 (b), .int .i64 (c), .int .i64 (d)]⟩, some ⟨.box, .vals [.int .i64 (c), .int .i64 (d), .int .i64 (e), .int .i64 (f)]⟩, some ⟨.box, .vals [.int .i64 (e), .int .i64 (f), .int .i64 (a), .int .i64 (b)]⟩]))))))))))))))) := by kernel_rfl
theorem cf_run {a b c d e f x y : Int} (h1 : ptB a b = true) (h2 : ptB c d = true) (h3 : ptB e f = true) (h4 : ptB x y = true) :
    (bodyM Try.prog ETr (runM Try.prog ETr 30 12) 30 144 [.slice (some ⟨0, 0, none⟩) 3 3, .func (.func 145) ⟨[]⟩ ⟨[.pointer (some ⟨1, 0, none⟩)]⟩] [some ⟨.view, .vals [iv a, iv b, iv c, iv d, iv c, iv d, iv e, iv f, iv e, iv f, iv a, iv b]⟩, some ⟨.view, .vals [iv x, iv y]⟩] .fin).ok (fun _ _ => False) (fun u _ => u = .bool (triD a b c d e f x y)) := by
  rw [tr_cf]
  have w1 : IntKind.i64.wrap ((0 : Int) + 1) = 1 := by decide
  have w2 : IntKind.i64.wrap ((1 : Int) + 1) = 2 := by decide
  unfold triD
  rw [w1, w2]
  cases hasB a b c d x y <;> cases hasB c d e f x y <;> cases hasB e f a b x y <;> simp [brT_ok, Tree.ok, h1, h2, h3, h4]
def spCF : PSpec := fun zs css => match zs, css with
  | [.slice (some ⟨0, 0, none⟩) 3 3, .func (.func 145) ⟨[]⟩ ⟨[.pointer (some ⟨1, 0, none⟩)]⟩], [.vals [.int .i64 a, .int .i64 b, .int .i64 c, .int .i64 d, .int .i64 c', .int .i64 d', .int .i64 e, .int .i64 f, .int .i64 e', .int .i64 f', .int .i64 a', .int .i64 b'], .vals [.int .i64 x, .int .i64 y]] => some (.bool (triD a b c d e f x y), [ptB a b = true, ptB c d = true, ptB e f = true, ptB x y = true, c' = c ∧ d' = d ∧ e' = e ∧ f' = f ∧ a' = a ∧ b' = b])
  | _, _ => none
theorem spCF_ok : PSpecOk Try.prog 144 spCF := by
  intro zs css v C h hC
  unfold spCF at h
  split at h
  rotate_left
  · cases h
  obtain ⟨rfl, rfl⟩ := Prod.mk.inj (Option.some.inj h)
  obtain ⟨h1, h2, h3, h4, ⟨e1, e2, e3, e4, e5, e6⟩, _⟩ := hC
  subst e1 e2 e3 e4 e5 e6
  refine ⟨ETr, 30, 12, ETr_ok, rfl, ?_⟩
  simp only [List.map_cons, List.map_nil]
  with_reducible exact cf_run h1 h2 h3 h4
def JCf : TabJ := consJ 144 (fun _ => rfG spCF) noJ
theorem JCf_ok : GSound Try.prog JCf.g := consJ_rf mixed (failG_sound Try.prog) (entersB_res (by kernel_rfl)).1 spCF_ok
def ETj : Env := withT (mkE TRl (fun _ _ => none) (fun _ => noL)) JCf
theorem ETj_ok : EnvOk Try.prog ETj := withT_ok (mkEOk TRl_ok (fun _ _ _ _ _ h => (by cases h)) (fun _ _ _ => noL_good)) JCf_ok
abbrev ag2 (x y : Int) : DArg := .v (.agg #[iv x, iv y])
set_option maxRecDepth 100000 in
theorem tr_iTri (a b c d e f x y : Int) : bodyV Try.prog ETj 30 12 100 [ag2 a b, ag2 c d, ag2 e f, ag2 x y] = .need (ptB a b = true) (.need (ptB c d = true) (.need (ptB e f = true) (brT (crossI a b c d e f == 0) (.need (ptB a b = true) (.need (ptB c d = true) (.need (ptB e f = true) (.need (ptB x y = true) (.need (c = c ∧ d = d ∧ e = e ∧ f = f ∧ a = a ∧ b = b) (.fin (.bool (triD a b c d e f x y)) [])))))) (.need (ptB a b = true) (.need (ptB c d = true) (.need (ptB x y = true) (.need (ptB c d = true) (.need (ptB e f = true) (.need (ptB x y = true) (brT (decide (0 < crossI a b c d x y)) (brT (decide (crossI a b c d x y < 0)) (.need (ptB e f = true) (.need (ptB a b = true) (.need (ptB x y = true) (.fin (.bool (!true)) [])))) (.need (ptB e f = true) (.need (ptB a b = true) (.need (ptB x y = true) (brT (decide (crossI c d e f x y < 0)) (.fin (.bool (!true)) []) (.fin (.bool (!decide (crossI e f a b x y < 0))) [])))))) (brT (decide (crossI a b c d x y < 0)) (.need (ptB e f = true) (.need (ptB a b = true) (.need (ptB x y = true) (brT (decide (0 < crossI c d e f x y)) (.fin (.bool (!true)) []) (brT (!decide (0 < crossI e f a b x y)) (.fin (.bool (true)) []) (.fin (.bool (!true)) [])))))) (.need (ptB e f = true) (.need (ptB a b = true) (.need (ptB x y = true) (brT (decide (0 < crossI c d e f x y)) (brT (decide (crossI c d e f x y < 0)) (.fin (.bool (!true)) []) (.fin (.bool (!decide (crossI e f a b x y < 0))) [])) (brT (decide (crossI c d e f x y < 0)) (brT (!decide (0 < crossI e f a b x y)) (.fin (.bool (true)) []) (.fin (.bool (!true)) [])) (brT (!decide (0 < crossI e f a b x y)) (.fin (.bool (true)) []) (.fin (.bool (!decide (crossI e f a b x y < 0))) [])))))))))))))))))) := by kernel_rfl
set_option maxRecDepth 100000 in
theorem tr_sTri (a b c d e f x y : Int) : bodyV Try.prog ETr 30 12 101 [ag2 a b, ag2 c d, ag2 e f, ag2 x y] = .need (ptB a b = true) (.need (ptB c d = true) (.need (ptB e f = true) (brT (cmpI (crossI a b c d e f) 0 == 0) (brT (negB false (a == x && (b == y && true))) (.fin (.bool (true)) []) (brT (negB true (a == c && (b == d && true))) (.need (ptB a b = true) (.need (ptB c d = true) (.need (ptB x y = true) (brT (hasB a b c d x y) (.fin (.bool (true)) []) (brT (negB true (c == e && (d == f && true))) (.need (ptB c d = true) (.need (ptB e f = true) (.need (ptB x y = true) (brT (hasB c d e f x y) (.fin (.bool (true)) []) (brT (negB true (a == e && (b == f && true))) (.need (ptB a b = true) (.need (ptB e f = true) (.need (ptB x y = true) (.fin (.bool (hasB a b e f x y)) [])))) (.fin (.bool (false)) [])))))) (brT (negB true (a == e && (b == f && true))) (.need (ptB a b = true) (.need (ptB e f = true) (.need (ptB x y = true) (.fin (.bool (hasB a b e f x y)) [])))) (.fin (.bool (false)) []))))))) (brT (negB true (c == e && (d == f && true))) (.need (ptB c d = true) (.need (ptB e f = true) (.need (ptB x y = true) (brT (hasB c d e f x y) (.fin (.bool (true)) []) (brT (negB true (a == e && (b == f && true))) (.need (ptB a b = true) (.need (ptB e f = true) (.need (ptB x y = true) (.fin (.bool (hasB a b e f x y)) [])))) (.fin (.bool (false)) [])))))) (brT (negB true (a == e && (b == f && true))) (.need (ptB a b = true) (.need (ptB e f = true) (.need (ptB x y = true) (.fin (.bool (hasB a b e f x y)) [])))) (.fin (.bool (false)) []))))) (.need (ptB a b = true) (.need (ptB c d = true) (.need (ptB x y = true) (brT (decide (0 ≤ IntKind.i64.wrap (cmpI (crossI a b c d x y) 0 * cmpI (crossI a b c d e f) 0))) (.need (ptB c d = true) (.need (ptB e f = true) (.need (ptB x y = true) (brT (decide (0 ≤ IntKind.i64.wrap (cmpI (crossI c d e f x y) 0 * cmpI (crossI a b c d e f) 0))) (.need (ptB e f = true) (.need (ptB a b = true) (.need (ptB x y = true) (.fin (.bool (decide (0 ≤ IntKind.i64.wrap (cmpI (crossI e f a b x y) 0 * cmpI (crossI a b c d e f) 0)))) [])))) (.fin (.bool (false)) []))))) (.fin (.bool (false)) [])))))))) := by kernel_rfl
theorem triB_zero {a b c d e f x y : Int} (h : crossI a b c d e f = 0) : triB a b c d e f x y = triD a b c d e f x y := by
  unfold triB
  rw [show (crossI a b c d e f == 0) = true from beq_iff_eq.2 h]
  rfl
theorem triB_ne {a b c d e f x y : Int} (h : crossI a b c d e f ≠ 0) : triB a b c d e f x y = triS a b c d e f x y := by
  unfold triB
  rw [show (crossI a b c d e f == 0) = false from beq_eq_false_iff_ne.2 h]
  rfl
theorem it_cm0 {x : Int} : (cmpI x 0 == 0) = (x == 0) := by
  rw [Bool.eq_iff_iff, beq_iff_eq, beq_iff_eq]
  unfold cmpI
  split <;> (try split) <;> omega
theorem it_cmb (x y : Int) : cmpI x y = -1 ∨ cmpI x y = 0 ∨ cmpI x y = 1 := by unfold cmpI; split <;> (try split) <;> omega
theorem it_wcc (x y z t : Int) : IntKind.i64.wrap (cmpI x y * cmpI z t) = cmpI x y * cmpI z t := by
  rcases it_cmb x y with h | h | h <;> rcases it_cmb z t with k | k | k <;> rw [h, k] <;> decide
theorem it_eq (a b x y : Int) : (a == x && (b == y && true)) = eqB a b x y := by unfold eqB; rw [Bool.and_true]
theorem res_iTri {a b c d e f x y : Int} (h1 : ptB a b = true) (h2 : ptB c d = true) (h3 : ptB e f = true) (h4 : ptB x y = true) : Res Try.prog 100 [ag2 a b, ag2 c d, ag2 e f, ag2 x y] (.bool (triB a b c d e f x y)) := by
  refine bodyV_res mixed ETj_ok (m := 30) (n := 12) rfl ?_
  rw [tr_iTri]
  by_cases h : crossI a b c d e f = 0
  · rw [triB_zero h]
    simp [brT_ok, Tree.ok, h1, h2, h3, h4, h]
  · rw [triB_ne h]
    unfold triS
    rcases decide (0 < crossI a b c d x y) with _ | _ <;> rcases decide (0 < crossI c d e f x y) with _ | _ <;> rcases decide (0 < crossI e f a b x y) with _ | _ <;> rcases decide (crossI a b c d x y < 0) with _ | _ <;> rcases decide (crossI c d e f x y < 0) with _ | _ <;> rcases decide (crossI e f a b x y < 0) with _ | _ <;> simp [brT_ok, Tree.ok, h1, h2, h3, h4, h]
theorem res_sTri {a b c d e f x y : Int} (h1 : ptB a b = true) (h2 : ptB c d = true) (h3 : ptB e f = true) (h4 : ptB x y = true) : Res Try.prog 101 [ag2 a b, ag2 c d, ag2 e f, ag2 x y] (.bool (triB a b c d e f x y)) := by
  refine bodyV_res mixed ETr_ok (m := 30) (n := 12) rfl ?_
  rw [tr_sTri]
  simp only [it_cm0, it_wcc, negB, it_eq]
  by_cases h : crossI a b c d e f = 0
  · rw [triB_zero h, ← triD_model]
    cases eqB a b x y <;> cases eqB a b c d <;> cases eqB c d e f <;> cases eqB a b e f <;> cases hasB a b c d x y <;> cases hasB c d e f x y <;> cases hasB a b e f x y <;> simp [brT_ok, Tree.ok, h1, h2, h3, h4, h]
  · rw [triB_ne h, ← triS_model h]
    rcases decide (0 ≤ cmpI (crossI a b c d x y) 0 * cmpI (crossI a b c d e f) 0) with _ | _ <;> rcases decide (0 ≤ cmpI (crossI c d e f x y) 0 * cmpI (crossI a b c d e f) 0) with _ | _ <;> simp [brT_ok, Tree.ok, h1, h2, h3, h4, h]
def pTri : List DArg → Option (Value × List Prop)
  | [.v (.agg ⟨[.int .i64 a, .int .i64 b]⟩), .v (.agg ⟨[.int .i64 c, .int .i64 d]⟩), .v (.agg ⟨[.int .i64 e, .int .i64 f]⟩), .v (.agg ⟨[.int .i64 x, .int .i64 y]⟩)] => some (.bool (triB a b c d e f x y), [ptB a b = true, ptB c d = true, ptB e f = true, ptB x y = true])
  | _ => none
theorem pTri_ok {fn : FuncId} (H : ∀ {a b c d e f x y : Int}, ptB a b = true → ptB c d = true → ptB e f = true → ptB x y = true → Res Try.prog fn [ag2 a b, ag2 c d, ag2 e f, ag2 x y] (.bool (triB a b c d e f x y))) {ds : List DArg} {v : Value} {C : List Prop} (h : pTri ds = some (v, C)) (hC : AllP C) : Res Try.prog fn ds v := by
  unfold pTri at h
  split at h
  · obtain ⟨rfl, rfl⟩ : _ ∧ _ := by simpa using h
    exact H hC.1 hC.2.1 hC.2.2.1 hC.2.2.2.1
  · cases h
def TTr : Tab := fun f ds => match f with
  | 100 => pTri ds
  | 101 => pTri ds
  | f => TRl f ds
theorem TTr_ok : TabOk Try.prog TTr := by
  intro f ds v C h hC
  unfold TTr at h
  (try split at h)
  all_goals first | with_reducible exact pTri_ok res_iTri h hC | with_reducible exact pTri_ok res_sTri h hC | exact TRl_ok _ _ _ _ h hC
set_option maxRecDepth 100000 in
theorem tr_ITri (a b c d e f x y : Int) : bodyV Try.prog (tabE TTr) 30 12 34 [ag2 a b, ag2 c d, ag2 e f, ag2 x y] = brT (ptB a b && ptB c d && (ptB e f && ptB x y)) (.need (ptB a b = true) (.need (ptB c d = true) (.need (ptB e f = true) (.need (ptB x y = true) (.fin (.bool (triB a b c d e f x y)) []))))) (.fin (.bool (false)) []) := by kernel_rfl
set_option maxRecDepth 100000 in
theorem tr_STri (a b c d e f x y : Int) : bodyV Try.prog (tabE TTr) 30 12 35 [ag2 a b, ag2 c d, ag2 e f, ag2 x y] = brT (ptB a b) (brT (ptB c d) (brT (ptB e f) (brT (ptB x y) (.need (ptB a b = true) (.need (ptB c d = true) (.need (ptB e f = true) (.need (ptB x y = true) (.fin (.bool (triB a b c d e f x y)) []))))) (.fin (.bool (false)) [])) (.fin (.bool (false)) [])) (.fin (.bool (false)) [])) (.fin (.bool (false)) []) := by kernel_rfl
theorem res_ITri (a b c d e f x y : Int) : Res Try.prog 34 [ag2 a b, ag2 c d, ag2 e f, ag2 x y] (.bool (itV a b c d e f x y)) := by
  refine bodyV_res mixed (tabE_ok TTr_ok) (m := 30) (n := 12) rfl ?_
  rw [tr_ITri]
  unfold itV
  rcases h1 : ptB a b with _ | _ <;> rcases h2 : ptB c d with _ | _ <;> rcases h3 : ptB e f with _ | _ <;> rcases h4 : ptB x y with _ | _ <;> simp [brT_ok, Tree.ok]
theorem res_STri (a b c d e f x y : Int) : Res Try.prog 35 [ag2 a b, ag2 c d, ag2 e f, ag2 x y] (.bool (itV a b c d e f x y)) := by
  refine bodyV_res mixed (tabE_ok TTr_ok) (m := 30) (n := 12) rfl ?_
  rw [tr_STri]
  unfold itV
  rcases h1 : ptB a b with _ | _ <;> rcases h2 : ptB c d with _ | _ <;> rcases h3 : ptB e f with _ | _ <;> rcases h4 : ptB x y with _ | _ <;> simp [brT_ok, Tree.ok]
def pITr : List DArg → Option (Value × List Prop)
  | [.v (.agg ⟨[.int .i64 a, .int .i64 b]⟩), .v (.agg ⟨[.int .i64 c, .int .i64 d]⟩), .v (.agg ⟨[.int .i64 e, .int .i64 f]⟩), .v (.agg ⟨[.int .i64 x, .int .i64 y]⟩)] => some (.bool (itV a b c d e f x y), [])
  | _ => none
theorem pITr_ok {fn : FuncId} (H : ∀ (a b c d e f x y : Int), Res Try.prog fn [ag2 a b, ag2 c d, ag2 e f, ag2 x y] (.bool (itV a b c d e f x y))) {ds : List DArg} {v : Value} {C : List Prop} (h : pITr ds = some (v, C)) : Res Try.prog fn ds v := by
  unfold pITr at h
  split at h
  · obtain ⟨rfl, rfl⟩ : _ ∧ _ := by simpa using h
    exact H _ _ _ _ _ _ _ _
  · cases h
def TTi : Tab := fun f ds => match f with
  | 34 => pITr ds
  | 35 => pITr ds
  | f => TTr f ds
theorem TTi_ok : TabOk Try.prog TTi := by
  intro f ds v C h hC
  unfold TTi at h
  (try split at h)
  all_goals first | with_reducible exact pITr_ok res_ITri h | with_reducible exact pITr_ok res_STri h | exact TTr_ok _ _ _ _ h hC
set_option maxRecDepth 100000 in
theorem tr_exTri (a b c d e f x y : Int) : bodyV Try.prog (tabE TTi) 30 12 8 [ag2 a b, ag2 c d, ag2 e f, ag2 x y] = brT (!itV a b c d e f x y == itV a b c d e f x y) (.fin (.bool (false)) []) (.fin (.bool (true)) []) := by kernel_rfl
theorem ExactInTriangle_res (a b c d e f x y : Int) : Res Try.prog 8 [ag2 a b, ag2 c d, ag2 e f, ag2 x y] (.bool true) := by
  refine bodyV_res mixed (tabE_ok TTi_ok) (m := 30) (n := 12) rfl ?_
  rw [tr_exTri]
  simp [brT_ok, Tree.ok]
end Go.Proofs.Ytblpldapmmoheab
