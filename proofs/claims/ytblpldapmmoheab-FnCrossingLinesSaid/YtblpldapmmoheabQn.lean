/-
  Fractions in lowest terms, of any sign. Written by an AI agent.
-/
import Derived.Test.YtblpldapmmoheabMath5
namespace Go.Proofs.Ytblpldapmmoheab
set_option linter.all false
open Go.RowKit
theorem qs_neg2 {n d : Int} (h : d ≠ 0) : qN (-n) (-d) = qN n d ∧ qD (-n) (-d) = qD n d := by
  have g : gI (-n) (-d) = gI n d := by unfold gI; simp
  by_cases hd : d < 0
  · rw [qN_neg hd, qD_neg hd, qN_pos (show ¬ -d < 0 by omega), qD_pos (show ¬ -d < 0 by omega), g]
    exact ⟨rfl, rfl⟩
  · rw [qN_pos hd, qD_pos hd, qN_neg (show -d < 0 by omega), qD_neg (show -d < 0 by omega), g, Int.neg_neg, Int.neg_neg]
    exact ⟨rfl, rfl⟩
theorem qs_full {n d : Int} (h : d ≠ 0) : gI (qN n d) (qD n d) = 1 ∧ 1 ≤ qD n d ∧ qN n d * d = n * qD n d := by
  have pos : ∀ {n d : Int}, 0 < d → gI (qN n d) (qD n d) = 1 ∧ 1 ≤ qD n d ∧ qN n d * d = n * qD n d := fun {n d} hd => by
    obtain ⟨a1, a2⟩ := q_low (n := n) hd
    obtain ⟨g, _, b2, b3⟩ := q_spec (n := n) hd
    refine ⟨a1, a2, ?_⟩
    have : qN n d * (qD n d * g) = qN n d * g * qD n d := by rw [Int.mul_assoc, Int.mul_comm g]
    rw [b2, b3] at this
    exact this
  rcases Int.lt_or_gt_of_ne h with hd | hd
  · obtain ⟨c1, c2⟩ := qs_neg2 (n := n) h
    have := pos (n := -n) (d := -d) (by omega)
    rw [c1, c2] at this
    refine ⟨this.1, this.2.1, ?_⟩
    have k := this.2.2
    rw [Int.mul_neg, Int.neg_mul] at k
    omega
  · exact pos hd
theorem qs_rat {n d : Int} (h : d ≠ 0) (hn : -100000000000 ≤ n ∧ n ≤ 100000000000) (hd : -20000000 ≤ d ∧ d ≤ 20000000) : ratB (qN n d) (qD n d) = true := by
  obtain ⟨a1, a2, _⟩ := qs_full (n := n) h
  have b1 := qN_bd (num := n) (den := d) (M := 100000000000) hn
  have b2 := qD_bd (num := n) (den := d) (M := 20000000) hd
  exact decide_eq_true ⟨b1.1, b1.2, a2, b2.2, a1⟩
/-- Equal fractions are written alike. -/
theorem qs_same {n d m e : Int} (hd : d ≠ 0) (he : e ≠ 0) (h : n * e = m * d) : qN n d = qN m e ∧ qD n d = qD m e := by
  have key : ∀ {n d m e : Int}, 0 < d → e ≠ 0 → n * e = m * d → qN n d = qN m e ∧ qD n d = qD m e := fun {n d m e} hd he h => by
    obtain ⟨a1, a2, a3⟩ := qs_full (n := m) he
    refine q_unique hd a2 a1 ?_
    have : (n * qD m e - qN m e * d) * e = 0 := by
      have e1 : n * qD m e * e = m * d * qD m e := by rw [← h]; grind
      have e2 : qN m e * d * e = m * qD m e * d := by rw [← a3]; grind
      grind
    have := (Int.mul_eq_zero.1 this).resolve_right he
    omega
  rcases Int.lt_or_gt_of_ne hd with c | c
  · obtain ⟨c1, c2⟩ := qs_neg2 (n := n) hd
    rw [← c1, ← c2]
    exact key (by omega) he (by rw [Int.neg_mul, Int.mul_neg, h])
  · exact key c he h
/-- The denominator divides. -/
theorem qs_dvd {n d : Int} (h : d ≠ 0) : qD n d ∣ d := by
  have key : ∀ {n d : Int}, 0 < d → qD n d ∣ d := fun {n d} hd => by
    obtain ⟨g, _, _, b3⟩ := q_spec (n := n) hd
    exact ⟨g, b3.symm⟩
  rcases Int.lt_or_gt_of_ne h with c | c
  · have := key (n := -n) (d := -d) (by omega)
    rw [(qs_neg2 (n := n) h).2] at this
    exact Int.dvd_neg.1 this
  · exact key c
end Go.Proofs.Ytblpldapmmoheab
