/-
  Plain arithmetic for the product of two fractions. Nothing of Go in sight. Written by an AI agent.
-/
import Derived.Test.YtblpldapmmoheabBa
namespace Go.Proofs.Ytblpldapmmoheab
set_option linter.all false

/-- The numerators may be multiplied. -/
def mulC (x y : Int) : Bool := decide (x = 0 ∨ (-(100000000000 / (x.natAbs : Int)) ≤ y ∧ y ≤ 100000000000 / (x.natAbs : Int)))
theorem mulC_zero {x y : Int} (h : x = 0) : mulC x y = true := decide_eq_true (.inl h)
theorem mulC_yes {x y : Int} (h : -(100000000000 / (x.natAbs : Int)) ≤ y ∧ y ≤ 100000000000 / (x.natAbs : Int)) : mulC x y = true := decide_eq_true (.inr h)
theorem mulC_no {x y : Int} (h0 : x ≠ 0) (h : ¬ (-(100000000000 / (x.natAbs : Int)) ≤ y ∧ y ≤ 100000000000 / (x.natAbs : Int))) : mulC x y = false := decide_eq_false (fun k => k.elim h0 h)
theorem mulC_bd {x y : Int} (h0 : x ≠ 0) (h : -(100000000000 / (x.natAbs : Int)) ≤ y ∧ y ≤ 100000000000 / (x.natAbs : Int)) : -100000000000 ≤ x * y ∧ x * y ≤ 100000000000 := by
  have hp : 0 < (x.natAbs : Int) := by omega
  have h1 : (y.natAbs : Int) ≤ 100000000000 / (x.natAbs : Int) := by omega
  have h2 := (Int.le_ediv_iff_mul_le hp).1 h1
  have h3 : (x * y).natAbs = y.natAbs * x.natAbs := by rw [Int.natAbs_mul, Nat.mul_comm]
  have h4 : ((x * y).natAbs : Int) = (y.natAbs : Int) * (x.natAbs : Int) := by rw [h3]; simp
  omega
theorem quo_bd (x : Int) : 0 ≤ 100000000000 / (x.natAbs : Int) ∧ 100000000000 / (x.natAbs : Int) ≤ 100000000000 := by
  refine ⟨Int.ediv_nonneg (by omega) (by omega), ?_⟩
  exact Int.ediv_le_self _ (by omega)
def mulA (an ad bn bd : Int) : Bool := ratB an ad && ratB bn bd && mulC (qN an bd) (qN bn ad)
def mulN (an ad bn bd : Int) : Int := if mulA an ad bn bd then cN (qN an bd * qN bn ad) (qD an bd * qD bn ad) else 0
def mulD (an ad bn bd : Int) : Int := if mulA an ad bn bd then cD (qN an bd * qN bn ad) (qD an bd * qD bn ad) else 0
def mulB (an ad bn bd : Int) : Bool := mulA an ad bn bd && ratB (qN an bd * qN bn ad) (qD an bd * qD bn ad)
theorem mul_no {an ad bn bd : Int} (h : mulA an ad bn bd = false) : mulN an ad bn bd = 0 ∧ mulD an ad bn bd = 0 ∧ mulB an ad bn bd = false := by
  unfold mulN mulD mulB
  rw [h]
  exact ⟨rfl, rfl, rfl⟩
theorem mul_yes {an ad bn bd : Int} (h : mulA an ad bn bd = true) : mulN an ad bn bd = cN (qN an bd * qN bn ad) (qD an bd * qD bn ad) ∧
    mulD an ad bn bd = cD (qN an bd * qN bn ad) (qD an bd * qD bn ad) ∧ mulB an ad bn bd = ratB (qN an bd * qN bn ad) (qD an bd * qD bn ad) := by
  unfold mulN mulD mulB
  rw [h]
  exact ⟨rfl, rfl, rfl⟩
theorem mulA_no {an ad bn bd : Int} (h : (ratB an ad && ratB bn bd) = false) : mulA an ad bn bd = false := by unfold mulA; rw [h]; rfl
theorem mulA_yes {an ad bn bd : Int} (h : (ratB an ad && ratB bn bd) = true) : mulA an ad bn bd = mulC (qN an bd) (qN bn ad) := by unfold mulA; rw [h]; rfl
/-- The bounds of what is multiplied. -/
theorem mul_bds {an ad bn bd : Int} (ha : ratB an ad = true) (hb : ratB bn bd = true) :
    (-100000000000 ≤ qN an bd ∧ qN an bd ≤ 100000000000) ∧ (-100000000000 ≤ qN bn ad ∧ qN bn ad ≤ 100000000000) ∧ (1 ≤ qD an bd ∧ qD an bd ≤ 20000000) ∧ (1 ≤ qD bn ad ∧ qD bn ad ≤ 20000000) ∧
    (0 ≤ qD an bd * qD bn ad ∧ qD an bd * qD bn ad ≤ 400000000000000) := by
  have a1 := ratB_true ha
  have b1 := ratB_true hb
  have h1 := qN_bd (num := an) (den := bd) (M := 100000000000) (by omega)
  have h2 := qN_bd (num := bn) (den := ad) (M := 100000000000) (by omega)
  have h3 := qD_bd (num := an) (den := bd) (M := 20000000) (by omega)
  have h4 := qD_bd (num := bn) (den := ad) (M := 20000000) (by omega)
  have h5 := qD_ge (num := an) (den := bd) (by omega)
  have h6 := qD_ge (num := bn) (den := ad) (by omega)
  have h7 := prod_bd (x := qD an bd) (y := qD bn ad) 20000000 20000000 (by omega) (by omega)
  have h8 : 0 ≤ qD an bd * qD bn ad := Int.mul_nonneg (by omega) (by omega)
  omega
end Go.Proofs.Ytblpldapmmoheab
