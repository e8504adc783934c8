/-
  Points on one line: of all triples, and from the first and the last in order. Plain mathematics. Written by an AI agent.
-/
import Derived.Test.YtieibbdfdepmbaaLst
namespace Go.Proofs.Ytieibbdfdepmbaa
set_option linter.all false

/-- All j from lo on, below hi. -/
def alF (P : Nat → Bool) (lo hi : Nat) : Bool := (List.range' lo (hi - lo)).all P
theorem alF_step {P : Nat → Bool} {lo hi : Nat} (h : lo < hi) : alF P lo hi = (P lo && alF P (lo + 1) hi) := by
  unfold alF
  rw [show hi - lo = (hi - (lo + 1)) + 1 by omega, List.range'_succ]
  rfl
theorem alF_end {P : Nat → Bool} {lo hi : Nat} (h : hi ≤ lo) : alF P lo hi = true := by
  unfold alF
  rw [show hi - lo = 0 by omega]
  rfl
theorem alF_iff {P : Nat → Bool} {lo hi : Nat} : alF P lo hi = true ↔ ∀ j, lo ≤ j → j < hi → P j = true := by
  unfold alF
  rw [List.all_eq_true]
  constructor
  · intro h j h1 h2
    exact h j (by rw [List.mem_range'_1]; omega)
  · intro h j hj
    rw [List.mem_range'_1] at hj
    exact h j hj.1 (by omega)
def crs (a b c : Pt) : Int := (b.1 - a.1) * (c.2 - a.2) - (b.2 - a.2) * (c.1 - a.1)
def pltB (a b : Pt) : Bool := decide (a.1 < b.1 ∨ a.1 = b.1 ∧ a.2 < b.2)
theorem pltB_iff {a b : Pt} : pltB a b = true ↔ a.1 < b.1 ∨ a.1 = b.1 ∧ a.2 < b.2 := by simp [pltB]
/-- The least of m and a list, the greatest. -/
def minL (m : Pt) (l : List Pt) : Pt := l.foldl (fun m p => if pltB p m then p else m) m
def maxL (m : Pt) (l : List Pt) : Pt := l.foldl (fun m p => if pltB m p then p else m) m
theorem minL_le : ∀ (l : List Pt) (m : Pt), (minL m l = m ∨ minL m l ∈ l) ∧ pltB m (minL m l) = false ∧ ∀ p ∈ l, pltB p (minL m l) = false
  | [], m => ⟨.inl rfl, by simp [minL, pltB], by simp⟩
  | q :: l, m => by
    have e : minL m (q :: l) = minL (if pltB q m then q else m) l := rfl
    obtain ⟨h1, h2, h3⟩ := minL_le l (if pltB q m then q else m)
    rw [e]
    generalize minL (if pltB q m then q else m) l = r at *
    rcases hq : pltB q m with _ | _
    · simp only [hq, Bool.false_eq_true, if_false] at h1 h2
      refine ⟨h1.imp id (List.mem_cons_of_mem _), h2, fun p hp => ?_⟩
      rcases List.mem_cons.1 hp with rfl | hp
      · rw [← Bool.not_eq_true, pltB_iff] at hq h2 ⊢
        omega
      · exact h3 p hp
    · simp only [hq, if_true] at h1 h2
      refine ⟨.inr (h1.elim (fun h => by rw [h]; exact List.mem_cons_self ..) (List.mem_cons_of_mem _)), ?_, fun p hp => ?_⟩
      · rw [pltB_iff] at hq
        rw [← Bool.not_eq_true, pltB_iff] at h2 ⊢
        omega
      · rcases List.mem_cons.1 hp with rfl | hp
        · exact h2
        · exact h3 p hp
theorem maxL_le : ∀ (l : List Pt) (m : Pt), (maxL m l = m ∨ maxL m l ∈ l) ∧ pltB (maxL m l) m = false ∧ ∀ p ∈ l, pltB (maxL m l) p = false
  | [], m => ⟨.inl rfl, by simp [maxL, pltB], by simp⟩
  | q :: l, m => by
    have e : maxL m (q :: l) = maxL (if pltB m q then q else m) l := rfl
    obtain ⟨h1, h2, h3⟩ := maxL_le l (if pltB m q then q else m)
    rw [e]
    generalize maxL (if pltB m q then q else m) l = r at *
    rcases hq : pltB m q with _ | _
    · simp only [hq, Bool.false_eq_true, if_false] at h1 h2
      refine ⟨h1.imp id (List.mem_cons_of_mem _), h2, fun p hp => ?_⟩
      rcases List.mem_cons.1 hp with rfl | hp
      · rw [← Bool.not_eq_true, pltB_iff] at hq h2 ⊢
        omega
      · exact h3 p hp
    · simp only [hq, if_true] at h1 h2
      refine ⟨.inr (h1.elim (fun h => by rw [h]; exact List.mem_cons_self ..) (List.mem_cons_of_mem _)), ?_, fun p hp => ?_⟩
      · rw [pltB_iff] at hq
        rw [← Bool.not_eq_true, pltB_iff] at h2 ⊢
        omega
      · rcases List.mem_cons.1 hp with rfl | hp
        · exact h2
        · exact h3 p hp
/-- Three points on a line through two different ones are on one line. -/
theorem crs_line {f l a b c : Pt} (hne : f ≠ l) (ha : crs f l a = 0) (hb : crs f l b = 0) (hc : crs f l c = 0) : crs a b c = 0 := by
  obtain ⟨fx, fy⟩ := f
  obtain ⟨lx, ly⟩ := l
  obtain ⟨ax, ay⟩ := a
  obtain ⟨bx, b_y⟩ := b
  obtain ⟨cx, cy⟩ := c
  simp only [crs] at *
  by_cases hx : lx - fx = 0
  · have hy : ly - fy ≠ 0 := by
      intro h
      apply hne
      rw [show fx = lx by omega, show fy = ly by omega]
    have key : (ly - fy) * ((bx - ax) * (cy - ay) - (b_y - ay) * (cx - ax)) = 0 := by grind
    exact (Int.mul_eq_zero.1 key).resolve_left hy
  · have key : (lx - fx) * ((bx - ax) * (cy - ay) - (b_y - ay) * (cx - ax)) = 0 := by grind
    exact (Int.mul_eq_zero.1 key).resolve_left hx
theorem crs_swap (a b c : Pt) : crs a b c = -crs b a c ∧ crs a b c = crs b c a := by
  simp only [crs]
  refine ⟨?_, ?_⟩ <;> grind
theorem crs_aac (a c : Pt) : crs a a c = 0 := by simp only [crs]; grind
theorem crs_aba (a b : Pt) : crs a b a = 0 := by simp only [crs]; grind
theorem crs_abb (a b : Pt) : crs a b b = 0 := by simp only [crs]; grind
def specCol (ps : List Pt) : Bool := alF (fun i => alF (fun k => alF (fun n => decide (crs (ps.getD i (0, 0)) (ps.getD k (0, 0)) (ps.getD n (0, 0)) = 0)) 0 k) 0 i) 0 ps.length
def implCol (ps : List Pt) : Bool := match ps with
  | [] => true
  | p :: r => (p :: r).all fun q => decide (crs (minL p r) (maxL p r) q = 0)
theorem specCol_iff (ps : List Pt) : specCol ps = true ↔ ∀ a ∈ ps, ∀ b ∈ ps, ∀ c ∈ ps, crs a b c = 0 := by
  unfold specCol
  simp only [alF_iff, decide_eq_true_eq]
  constructor
  · intro h a ha b hb c hc
    obtain ⟨i, hi, rfl⟩ := List.getElem_of_mem ha
    obtain ⟨j, hj, rfl⟩ := List.getElem_of_mem hb
    obtain ⟨k, hk, rfl⟩ := List.getElem_of_mem hc
    have g : ∀ {i}, i < ps.length → ps.getD i (0, 0) = ps[i]! := fun {i} hi => by simp [hi]
    have h' : ∀ (i j k : Nat) (hi : i < ps.length) (hj : j < ps.length) (hk : k < ps.length), k < j → j < i → crs ps[i] ps[j] ps[k] = 0 := by
      intro i j k hi hj hk h1 h2
      have := h i (Nat.zero_le _) hi j (Nat.zero_le _) h2 k (Nat.zero_le _) h1
      simpa [hi, hj, hk] using this
    have s := fun a b c => crs_swap a b c
    rcases Nat.lt_trichotomy i j with hij | rfl | hij
    · rcases Nat.lt_trichotomy j k with hjk | rfl | hjk
      · have := h' k j i hk hj hi hij hjk
        have := s ps[i] ps[j] ps[k]; have := s ps[j] ps[k] ps[i]; have := s ps[k] ps[j] ps[i]; omega
      · exact crs_abb _ _
      · rcases Nat.lt_trichotomy i k with hik | rfl | hik
        · have := h' j k i hj hk hi hik hjk
          have := s ps[i] ps[j] ps[k]; have := s ps[j] ps[k] ps[i]; omega
        · exact crs_aba _ _
        · have := h' j i k hj hi hk hik hij
          have := s ps[i] ps[j] ps[k]; omega
    · exact crs_aac _ _
    · rcases Nat.lt_trichotomy j k with hjk | rfl | hjk
      · rcases Nat.lt_trichotomy i k with hik | rfl | hik
        · have := h' k i j hk hi hj hij hik
          have := s ps[k] ps[i] ps[j]; omega
        · exact crs_aba _ _
        · have := h' i k j hi hk hj hjk hik
          have := s ps[i] ps[k] ps[j]; have := s ps[i] ps[j] ps[k]; have := s ps[j] ps[i] ps[k]; have := s ps[k] ps[j] ps[i]; have := s ps[k] ps[i] ps[j]; omega
      · exact crs_abb _ _
      · exact h' i j k hi hj hk hjk hij
  · intro h i _ hi j _ hj k _ hk
    have m : ∀ q, q < ps.length → ps.getD q (0, 0) ∈ ps := fun q hq => by simp [hq]
    exact h _ (m i hi) _ (m j (by omega)) _ (m k (by omega))
theorem col_same (ps : List Pt) : specCol ps = implCol ps := by
  rw [Bool.eq_iff_iff, specCol_iff]
  cases ps with
  | nil => simp [implCol]
  | cons p r =>
    simp only [implCol, List.all_eq_true, decide_eq_true_eq]
    obtain ⟨a1, a2, a3⟩ := minL_le r p
    obtain ⟨b1, b2, b3⟩ := maxL_le r p
    have ma : minL p r ∈ p :: r := a1.elim (fun h => by rw [h]; exact List.mem_cons_self ..) (List.mem_cons_of_mem _)
    have mb : maxL p r ∈ p :: r := b1.elim (fun h => by rw [h]; exact List.mem_cons_self ..) (List.mem_cons_of_mem _)
    constructor
    · exact fun h q hq => h _ ma _ mb _ hq
    · intro h a ha b hb c hc
      by_cases hne : minL p r = maxL p r
      · have same : ∀ q ∈ p :: r, q = minL p r := by
          intro q hq
          have h1 : pltB q (minL p r) = false := by
            rcases List.mem_cons.1 hq with rfl | hq
            · exact a2
            · exact a3 q hq
          have h2 : pltB (maxL p r) q = false := by
            rcases List.mem_cons.1 hq with rfl | hq
            · exact b2
            · exact b3 q hq
          rw [← hne] at h2
          rw [← Bool.not_eq_true, pltB_iff] at h1 h2
          exact Prod.ext (by omega) (by omega)
        rw [same a ha, same b hb, same c hc]
        exact crs_aac _ _
      · exact crs_line hne (h a ha) (h b hb) (h c hc)
end Go.Proofs.Ytieibbdfdepmbaa
