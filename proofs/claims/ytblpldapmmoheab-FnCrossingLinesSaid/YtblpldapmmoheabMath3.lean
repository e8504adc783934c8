/-
  Plain arithmetic of fractions: what is asked of sums, products, comparisons, floors. Nothing of Go in sight. Written by an AI agent.
-/
import Derived.Test.YtblpldapmmoheabWalkK
import Derived.Test.YtblpldapmmoheabWalkI
namespace Go.Proofs.Ytblpldapmmoheab
set_option linter.all false

/-- The sign of a product with a positive number. -/
theorem tri {x g : Int} (hg : 0 < g) : (x < 0 ∧ x * g < 0) ∨ (x = 0 ∧ x * g = 0) ∨ (0 < x ∧ 0 < x * g) := by
  rcases Int.lt_trichotomy x 0 with h | h | h
  · exact .inl ⟨h, Int.mul_neg_of_neg_of_pos h hg⟩
  · exact .inr (.inl ⟨h, by rw [h]; simp⟩)
  · exact .inr (.inr ⟨h, Int.mul_pos h hg⟩)
theorem q_spec {n d : Int} (hd : 0 < d) : ∃ g, 0 < g ∧ qN n d * g = n ∧ qD n d * g = d := by
  refine ⟨gI n d, gI_pos n d (by omega), ?_, ?_⟩
  · rw [qN_pos (by omega)]; exact Int.tdiv_mul_cancel (gI_dvd_left n d)
  · rw [qD_pos (by omega)]; exact Int.tdiv_mul_cancel (gI_dvd_right n d)
theorem coprime_of {n d : Int} (h : gI n d = 1) : Nat.Coprime d.natAbs n.natAbs := by
  unfold gI Int.gcd at h
  rw [Nat.coprime_comm]
  show Nat.gcd _ _ = 1
  omega
/-- Two fractions in lowest terms that are equal have the same numbers. -/
theorem rat_eq {an ad bn bd : Int} (ha : ratB an ad = true) (hb : ratB bn bd = true) (h : an * bd = bn * ad) : an = bn ∧ ad = bd := by
  obtain ⟨_, _, a3, _, a5⟩ := ratB_true ha
  obtain ⟨_, _, b3, _, b5⟩ := ratB_true hb
  have e := congrArg Int.natAbs h
  rw [Int.natAbs_mul, Int.natAbs_mul] at e
  have d1 : ad.natAbs ∣ bd.natAbs := (coprime_of a5).dvd_of_dvd_mul_left ⟨bn.natAbs, by rw [e, Nat.mul_comm]⟩
  have d2 : bd.natAbs ∣ ad.natAbs := (coprime_of b5).dvd_of_dvd_mul_left ⟨an.natAbs, by rw [← e, Nat.mul_comm]⟩
  have ed := Nat.dvd_antisymm d1 d2
  have ed' : ad = bd := by omega
  subst ed'
  exact ⟨Int.eq_of_mul_eq_mul_right (by omega) h, rfl⟩
theorem sgn_cases (n : Int) : (n < 0 ∧ sgn n = -1) ∨ (n = 0 ∧ sgn n = 0) ∨ (0 < n ∧ sgn n = 1) := by
  unfold sgn
  split
  · exact .inl ⟨by assumption, rfl⟩
  · split
    · exact .inr (.inr ⟨by assumption, rfl⟩)
    · exact .inr (.inl ⟨by omega, rfl⟩)
theorem cmp_part (an ad bn bd : Int) : cmpR an ad bn bd = 2 ∨ (cmpR bn bd an ad = -cmpR an ad bn bd ∧ -1 ≤ cmpR an ad bn bd ∧ cmpR an ad bn bd ≤ 1 ∧ (cmpR an ad bn bd = 0 ↔ an = bn ∧ ad = bd)) := by
  rcases va : ratB an ad with _ | _
  · exact .inl (cmpR_no (by rw [va]; rfl))
  rcases vb : ratB bn bd with _ | _
  · exact .inl (cmpR_no (by rw [va, vb]; rfl))
  right
  rw [cmpR_yes (by rw [va, vb]; rfl), cmpR_yes (by rw [va, vb]; rfl)]
  have h1 := sgn_cases (an * bd - bn * ad)
  have h2 := sgn_cases (bn * ad - an * bd)
  refine ⟨by omega, by omega, by omega, fun h => rat_eq va vb (by omega), fun ⟨h, k⟩ => ?_⟩
  subst h k
  have : an * ad - an * ad = 0 := by omega
  rw [this]
  rfl
theorem add_comm' (an ad bn bd : Int) : addN bn bd an ad = addN an ad bn bd ∧ addD bn bd an ad = addD an ad bn bd ∧ addB bn bd an ad = addB an ad bn bd := by
  have e1 : bn * ad + an * bd = an * bd + bn * ad := by omega
  have e2 : bd * ad = ad * bd := Int.mul_comm _ _
  have e3 : (ratB bn bd && ratB an ad) = (ratB an ad && ratB bn bd) := Bool.and_comm _ _
  unfold addN addD addB
  rw [e1, e2, e3]
  exact ⟨rfl, rfl, rfl⟩
theorem add_part {an ad bn bd : Int} (h : addB an ad bn bd = true) : ratB (addN an ad bn bd) (addD an ad bn bd) = true ∧ (0 < cmpR (addN an ad bn bd) (addD an ad bn bd) an ad ↔ 0 < bn) ∧ (cmpR (addN an ad bn bd) (addD an ad bn bd) an ad < 0 ↔ bn < 0) := by
  have h0 : (ratB an ad && ratB bn bd) = true := by
    rcases hv : (ratB an ad && ratB bn bd) with _ | _
    · rw [(add_no hv).2.2] at h; cases h
    · rfl
  obtain ⟨e1, e2, e3⟩ := add_yes h0
  rw [e3] at h
  rw [e1, e2, cN_yes h, cD_yes h]
  simp only [Bool.and_eq_true] at h0
  obtain ⟨_, _, a3, _, _⟩ := ratB_true h0.1
  obtain ⟨_, _, b3, _, _⟩ := ratB_true h0.2
  refine ⟨h, ?_⟩
  rw [cmpR_yes (by rw [h, h0.1]; rfl)]
  obtain ⟨g, hg, k1, k2⟩ := q_spec (n := an * bd + bn * ad) (d := ad * bd) (Int.mul_pos (by omega) (by omega))
  generalize qN (an * bd + bn * ad) (ad * bd) = x at *
  generalize qD (an * bd + bn * ad) (ad * bd) = y at *
  have key : (x * ad - an * y) * g = bn * (ad * ad) := by grind
  have t1 := tri (x := x * ad - an * y) hg
  have t2 := tri (x := bn) (g := ad * ad) (Int.mul_pos (by omega) (by omega))
  have s := sgn_cases (x * ad - an * y)
  rw [key] at t1
  omega
theorem mulC_comm (x y : Int) : mulC y x = mulC x y := by
  have one : ∀ x y : Int, mulC x y = true → mulC y x = true := by
    intro x y h
    by_cases hy : y = 0
    · exact mulC_zero hy
    by_cases hx : x = 0
    · subst hx
      have := quo_bd y
      exact mulC_yes (by omega)
    · have h := (of_decide_eq_true h).resolve_left hx
      have hb := mulC_bd hx h
      have hp : 0 < (y.natAbs : Int) := by omega
      have h3 : (x.natAbs : Int) ≤ 100000000000 / (y.natAbs : Int) := by
        rw [Int.le_ediv_iff_mul_le hp]
        have : ((x * y).natAbs : Int) = (x.natAbs : Int) * (y.natAbs : Int) := by rw [Int.natAbs_mul]; simp
        omega
      exact mulC_yes (by omega)
  rw [Bool.eq_iff_iff]
  exact ⟨one y x, one x y⟩
theorem mul_comm' (an ad bn bd : Int) : mulN bn bd an ad = mulN an ad bn bd ∧ mulD bn bd an ad = mulD an ad bn bd ∧ mulB bn bd an ad = mulB an ad bn bd := by
  have e1 : qN bn ad * qN an bd = qN an bd * qN bn ad := Int.mul_comm _ _
  have e2 : qD bn ad * qD an bd = qD an bd * qD bn ad := Int.mul_comm _ _
  have e3 : mulA bn bd an ad = mulA an ad bn bd := by
    unfold mulA
    rw [mulC_comm, Bool.and_comm (ratB bn bd)]
  unfold mulN mulD mulB
  rw [e1, e2, e3]
  exact ⟨rfl, rfl, rfl⟩
theorem gI_one_right (n : Int) : gI n 1 = 1 := by unfold gI; simp
theorem gI_one_left (n : Int) : gI 1 n = 1 := by unfold gI; simp
theorem mul_one_part {an ad : Int} (h : ratB an ad = true) : mulN an ad 1 1 = an ∧ mulD an ad 1 1 = ad ∧ mulB an ad 1 1 = true := by
  obtain ⟨a1, a2, a3, a4, a5⟩ := ratB_true h
  have r1 : ratB 1 1 = true := by decide
  have q1 : qN an 1 = an := by rw [qN_pos (by omega), gI_one_right]; simp
  have q2 : qD an 1 = 1 := by rw [qD_pos (by omega), gI_one_right]; simp
  have q3 : qN 1 ad = 1 := by rw [qN_pos (by omega), gI_one_left]; simp
  have q4 : qD 1 ad = ad := by rw [qD_pos (by omega), gI_one_left]; simp
  have hA : mulA an ad 1 1 = true := by
    rw [mulA_yes (by rw [h, r1]; rfl), q1, q3]
    by_cases h0 : an = 0
    · exact mulC_zero h0
    · have hp : 0 < (an.natAbs : Int) := by omega
      have : 1 ≤ 100000000000 / (an.natAbs : Int) := by
        rw [Int.le_ediv_iff_mul_le hp]
        omega
      exact mulC_yes (by omega)
  obtain ⟨e1, e2, e3⟩ := mul_yes hA
  rw [q1, q2, q3, q4, Int.mul_one, Int.one_mul] at e1 e2 e3
  rw [e1, e2, e3, cN_yes h, cD_yes h]
  exact ⟨rfl, rfl, h⟩
theorem mul_part {an ad bn bd : Int} (h : mulB an ad bn bd = true) : ratB an ad = true ∧ ratB (mulN an ad bn bd) (mulD an ad bn bd) = true ∧ (mulN an ad bn bd = 0 ↔ an = 0 ∨ bn = 0) ∧ (0 < mulN an ad bn bd ↔ (0 < an ∧ 0 < bn) ∨ (an < 0 ∧ bn < 0)) := by
  have hA : mulA an ad bn bd = true := by
    rcases hv : mulA an ad bn bd with _ | _
    · rw [(mul_no hv).2.2] at h; cases h
    · rfl
  obtain ⟨e1, e2, e3⟩ := mul_yes hA
  rw [e3] at h
  rw [e1, e2, cN_yes h, cD_yes h]
  have h0 : ratB an ad = true ∧ ratB bn bd = true := by
    unfold mulA at hA
    simp only [Bool.and_eq_true] at hA
    exact hA.1
  obtain ⟨_, _, a3, _, _⟩ := ratB_true h0.1
  obtain ⟨_, _, b3, _, _⟩ := ratB_true h0.2
  obtain ⟨g1, hg1, k1, _⟩ := q_spec (n := an) (d := bd) (by omega)
  obtain ⟨g2, hg2, k2, _⟩ := q_spec (n := bn) (d := ad) (by omega)
  refine ⟨h0.1, h, ?_⟩
  generalize qN an bd = x at *
  generalize qN bn ad = y at *
  have t1 := tri (x := x) hg1
  have t2 := tri (x := y) hg2
  rw [k1] at t1
  rw [k2] at t2
  rcases t1 with ⟨t1, u1⟩ | ⟨t1, u1⟩ | ⟨t1, u1⟩ <;> rcases t2 with ⟨t2, u2⟩ | ⟨t2, u2⟩ | ⟨t2, u2⟩
  · have := Int.mul_pos_of_neg_of_neg t1 t2; omega
  · subst t2; simp; omega
  · have := Int.mul_neg_of_neg_of_pos t1 t2; omega
  · subst t1; simp; omega
  · subst t1; simp; omega
  · subst t1; simp; omega
  · have := Int.mul_neg_of_pos_of_neg t1 t2; omega
  · subst t2; simp; omega
  · have := Int.mul_pos t1 t2; omega
theorem floor_part {n d : Int} (h : ratB n d = true) : flR n d * d ≤ n ∧ n < (flR n d + 1) * d ∧ (-2000000000000000000 ≤ flR n d * d ∧ flR n d * d ≤ 2000000000000000000) ∧ (-2000000000000000000 ≤ (flR n d + 1) * d ∧ (flR n d + 1) * d ≤ 3000000000000000000) ∧ -100000000000 ≤ flR n d ∧ flR n d ≤ 100000000000 := by
  rw [flR_yes h]
  obtain ⟨a1, a2, a3, a4, _⟩ := ratB_true h
  have h1 : n / d * d ≤ n := Int.ediv_mul_le n (by omega)
  have h2 : n < (n / d + 1) * d := Int.lt_ediv_add_one_mul_self n (by omega)
  have h3 : (n / d + 1) * d = n / d * d + d := by rw [Int.add_mul]; omega
  have b1 : n / d ≤ 100000000000 := by
    apply Int.ediv_le_of_le_mul (by omega)
    have : 100000000000 * 1 ≤ 100000000000 * d := Int.mul_le_mul_of_nonneg_left a3 (by omega)
    omega
  have b2 : -100000000000 ≤ n / d := by
    rw [Int.le_ediv_iff_mul_le (by omega)]
    have : 100000000000 * 1 ≤ 100000000000 * d := Int.mul_le_mul_of_nonneg_left a3 (by omega)
    omega
  omega
end Go.Proofs.Ytblpldapmmoheab
