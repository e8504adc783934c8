/-
  Plain arithmetic of fractions: lowest terms are unique; sums undone, floors moved, products over sums. Nothing of Go in sight. Written by an AI agent.
-/
import Derived.Test.YtblpldapmmoheabMath3
namespace Go.Proofs.Ytblpldapmmoheab
set_option linter.all false

theorem gcd_one' {p q : Int} (h : gI p q ≠ 0) : gI (p.tdiv (gI p q)) (q.tdiv (gI p q)) = 1 := by
  have h0 := gI_nonneg p q
  obtain ⟨u, hu⟩ := gI_dvd_left p q
  obtain ⟨v, hv⟩ := gI_dvd_right p q
  have e : gI p q = gI p q * gI u v := by
    generalize hg : gI p q = g at *
    have : gI (g * u) (g * v) = g := by rw [← hu, ← hv]; exact hg
    rw [← this]
    unfold gI
    rw [Int.gcd_mul_left]
    have hn : ((g.natAbs : Nat) : Int) = g := by omega
    push_cast
    rw [hn]
    have k := congrArg (fun z : Int => z) this
    unfold gI at k
    rw [Int.gcd_mul_left] at k
    push_cast at k
    rw [hn] at k
    rw [k]
    exact k.symm
  have e2 : gI u v = 1 := by
    have : gI p q * gI u v = gI p q * 1 := by rw [← e, Int.mul_one]
    exact Int.eq_of_mul_eq_mul_left h this
  have d1 : p.tdiv (gI p q) = u := by rw [show p.tdiv (gI p q) = (gI p q * u).tdiv (gI p q) by rw [← hu]]; exact Int.mul_tdiv_cancel_left _ h
  have d2 : q.tdiv (gI p q) = v := by rw [show q.tdiv (gI p q) = (gI p q * v).tdiv (gI p q) by rw [← hv]]; exact Int.mul_tdiv_cancel_left _ h
  rw [d1, d2, e2]
theorem q_low {n d : Int} (hd : 0 < d) : gI (qN n d) (qD n d) = 1 ∧ 1 ≤ qD n d := by
  refine ⟨?_, qD_ge (by omega)⟩
  rw [qN_pos (by omega), qD_pos (by omega)]
  have := gI_pos n d (by omega)
  exact gcd_one' (by omega)
/-- Two fractions in lowest terms that are equal have the same numbers. -/
theorem low_eq {an ad bn bd : Int} (a3 : 1 ≤ ad) (a5 : gI an ad = 1) (b3 : 1 ≤ bd) (b5 : gI bn bd = 1) (h : an * bd = bn * ad) : an = bn ∧ ad = bd := by
  have e := congrArg Int.natAbs h
  rw [Int.natAbs_mul, Int.natAbs_mul] at e
  have d1 : ad.natAbs ∣ bd.natAbs := (coprime_of a5).dvd_of_dvd_mul_left ⟨bn.natAbs, by rw [e, Nat.mul_comm]⟩
  have d2 : bd.natAbs ∣ ad.natAbs := (coprime_of b5).dvd_of_dvd_mul_left ⟨an.natAbs, by rw [← e, Nat.mul_comm]⟩
  have ed := Nat.dvd_antisymm d1 d2
  have ed' : ad = bd := by omega
  subst ed'
  exact ⟨Int.eq_of_mul_eq_mul_right (by omega) h, rfl⟩
theorem q_unique {N M an ad : Int} (hM : 0 < M) (had : 1 ≤ ad) (hg : gI an ad = 1) (h : N * ad = an * M) : qN N M = an ∧ qD N M = ad := by
  obtain ⟨l1, l2⟩ := q_low (n := N) hM
  obtain ⟨g, hg0, k1, k2⟩ := q_spec (n := N) hM
  refine low_eq l2 l1 had hg ?_
  have : qN N M * ad * g = an * qD N M * g := by
    rw [show qN N M * ad * g = qN N M * g * ad by grind, show an * qD N M * g = an * (qD N M * g) by grind, k1, k2]
    exact h
  exact Int.eq_of_mul_eq_mul_right (by omega) this
theorem ratB_neg {n d : Int} (h : ratB n d = true) : ratB (-n) d = true := by
  obtain ⟨h1, h2, h3, h4, h5⟩ := ratB_true h
  exact decide_eq_true ⟨by omega, by omega, h3, h4, by rw [gI_neg_left]; exact h5⟩
/-- The sum without the second fraction is the first one. -/
theorem sub_part {an ad bn bd : Int} (h : addB an ad bn bd = true) : addB (addN an ad bn bd) (addD an ad bn bd) (-bn) bd = true ∧ addN (addN an ad bn bd) (addD an ad bn bd) (-bn) bd = an ∧ addD (addN an ad bn bd) (addD an ad bn bd) (-bn) bd = ad := by
  have h0 : (ratB an ad && ratB bn bd) = true := by
    rcases hv : (ratB an ad && ratB bn bd) with _ | _
    · rw [(add_no hv).2.2] at h; cases h
    · rfl
  obtain ⟨e1, e2, e3⟩ := add_yes h0
  rw [e3] at h
  rw [e1, e2, cN_yes h, cD_yes h]
  simp only [Bool.and_eq_true] at h0
  obtain ⟨_, _, a3, _, a5⟩ := ratB_true h0.1
  obtain ⟨_, _, b3, _, _⟩ := ratB_true h0.2
  have hD : 0 < ad * bd := Int.mul_pos (by omega) (by omega)
  obtain ⟨g, hg, k1, k2⟩ := q_spec (n := an * bd + bn * ad) hD
  obtain ⟨l1, l2⟩ := q_low (n := an * bd + bn * ad) hD
  have hx : (ratB (qN (an * bd + bn * ad) (ad * bd)) (qD (an * bd + bn * ad) (ad * bd)) && ratB (-bn) bd) = true := by rw [h, ratB_neg h0.2]; rfl
  obtain ⟨f1, f2, f3⟩ := add_yes hx
  rw [f1, f2, f3]
  generalize qN (an * bd + bn * ad) (ad * bd) = x at *
  generalize qD (an * bd + bn * ad) (ad * bd) = y at *
  have key : (x * bd + -bn * y) * ad = an * (y * bd) := by
    have : ((x * bd + -bn * y) * ad) * g = (an * (y * bd)) * g := by grind
    exact Int.eq_of_mul_eq_mul_right (by omega) this
  obtain ⟨u1, u2⟩ := q_unique (Int.mul_pos (by omega) (by omega)) a3 a5 key
  rw [u1, u2, cN_yes h0.1, cD_yes h0.1]
  exact ⟨h0.1, rfl, rfl⟩
theorem gI_add (n d : Int) : gI (n + d) d = gI n d := by unfold gI; simp
/-- The floor of a fraction plus 1. -/
theorem shift_part {n d : Int} (h : addB n d 1 1 = true) : flR (addN n d 1 1) (addD n d 1 1) = flR n d + 1 ∧ ratB n d = true := by
  have h0 : (ratB n d && ratB 1 1) = true := by
    rcases hv : (ratB n d && ratB 1 1) with _ | _
    · rw [(add_no hv).2.2] at h; cases h
    · rfl
  obtain ⟨e1, e2, e3⟩ := add_yes h0
  rw [e3] at h
  rw [e1, e2, cN_yes h, cD_yes h]
  simp only [Bool.and_eq_true] at h0
  obtain ⟨_, _, a3, _, a5⟩ := ratB_true h0.1
  obtain ⟨u1, u2⟩ := q_unique (N := n * 1 + 1 * d) (M := d * 1) (an := n + d) (ad := d) (by omega) a3 (by rw [gI_add]; exact a5) (by grind)
  rw [u1, u2] at h ⊢
  rw [flR_yes h, flR_yes h0.1]
  refine ⟨?_, h0.1⟩
  have : n + d = n + 1 * d := by omega
  rw [this, Int.add_mul_ediv_right _ _ (by omega)]
/-- Both numbers of a fraction negated. -/
theorem mk_neg (num den : Int) : mkN (-num) (-den) = mkN num den ∧ mkD (-num) (-den) = mkD num den ∧ mkB (-num) (-den) = mkB num den := by
  have ok : mkOk (-num) (-den) = mkOk num den := by
    unfold mkOk
    rw [Bool.eq_iff_iff]
    simp only [decide_eq_true_eq]
    omega
  have eN : den ≠ 0 → qN (-num) (-den) = qN num den ∧ qD (-num) (-den) = qD num den := by
    intro h
    have eg : gI (-num) (-den) = gI num den := by rw [gI_neg_left, gI_neg_right]
    by_cases hd : den < 0
    · rw [qN_pos (by omega), qN_neg hd, qD_pos (by omega), qD_neg hd, eg]
      exact ⟨rfl, rfl⟩
    · rw [qN_neg (by omega), qN_pos hd, qD_neg (by omega), qD_pos hd, eg, Int.neg_neg, Int.neg_neg]
      exact ⟨rfl, rfl⟩
  unfold mkN mkD mkB
  rw [ok]
  rcases hk : mkOk num den with _ | _
  · exact ⟨rfl, rfl, rfl⟩
  · have hz : den ≠ 0 := (of_decide_eq_true hk).1
    rw [(eN hz).1, (eN hz).2]
    exact ⟨rfl, rfl, rfl⟩
theorem mk_part {num den : Int} (h : mkB num den = true) (hn : -1000000 ≤ num ∧ num ≤ 1000000) (hd : -40000000 ≤ den ∧ den ≤ 40000000) : mkN num den * den = num * mkD num den ∧ (-1000000 ≤ mkN num den ∧ mkN num den ≤ 1000000) ∧ (1 ≤ mkD num den ∧ mkD num den ≤ 20000000) := by
  have hok : mkOk num den = true := by
    unfold mkB at h
    simp only [Bool.and_eq_true] at h
    exact h.1
  obtain ⟨e1, e2, e3⟩ := mk_yes (of_decide_eq_true hok)
  rw [e3] at h
  rw [e1, e2, cN_yes h, cD_yes h]
  obtain ⟨_, _, b3, b4, _⟩ := ratB_true h
  have hz : den ≠ 0 := (of_decide_eq_true hok).1
  refine ⟨?_, qN_bd hn, by omega, by omega⟩
  have g1 := gI_dvd_left num den
  have g2 := gI_dvd_right num den
  by_cases hneg : den < 0
  · rw [qN_neg hneg, qD_neg hneg]
    have m1 := Int.tdiv_mul_cancel (a := -num) (Int.dvd_neg.2 g1)
    have m2 := Int.tdiv_mul_cancel (a := -den) (Int.dvd_neg.2 g2)
    generalize (-num).tdiv (gI num den) = x at *
    generalize (-den).tdiv (gI num den) = y at *
    generalize gI num den = g at *
    grind
  · rw [qN_pos hneg, qD_pos hneg]
    have m1 := Int.tdiv_mul_cancel g1
    have m2 := Int.tdiv_mul_cancel g2
    generalize num.tdiv (gI num den) = x at *
    generalize den.tdiv (gI num den) = y at *
    generalize gI num den = g at *
    grind
theorem mkB_rat {num den : Int} (h : mkB num den = true) : ratB (mkN num den) (mkD num den) = true := by
  have hok : mkOk num den = true := by
    unfold mkB at h
    simp only [Bool.and_eq_true] at h
    exact h.1
  obtain ⟨e1, e2, e3⟩ := mk_yes (of_decide_eq_true hok)
  rw [e3] at h
  rw [e1, e2, cN_yes h, cD_yes h]
  exact h
end Go.Proofs.Ytblpldapmmoheab
