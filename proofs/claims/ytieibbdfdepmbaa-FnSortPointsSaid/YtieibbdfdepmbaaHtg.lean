/-
  Strictly convex rings: counterclockwise; hulls of their vertices. Written by an AI agent.
-/
import Derived.Test.YtieibbdfdepmbaaHtj
namespace Go.Proofs.Ytieibbdfdepmbaa
set_option linter.all false
open Go.RowKit

theorem nd_inj {h : List Pt} (hn : h.Nodup) {i j : Nat} (hi : i < h.length) (hj : j < h.length) (e : h.getD i (0, 0) = h.getD j (0, 0)) : i = j := by
  rcases Nat.lt_trichotomy i j with c | c | c
  · exact absurd (by simpa [hi, hj] using e) (List.pairwise_iff_getElem.1 hn i j hi hj c)
  · exact c
  · exact absurd (by simpa [hi, hj] using e.symm) (List.pairwise_iff_getElem.1 hn j i hj hi c)
theorem nx_ne {h : List Pt} (H : CvH h) {i : Nat} (hi : i < h.length) : (i + 1) % h.length ≠ i ∧ (i + 2) % h.length ≠ i ∧ (i + 2) % h.length ≠ (i + 1) % h.length := by
  have h3 := H.three
  generalize h.length = n at *
  have e1 : (i + 1) % n = if i + 1 = n then 0 else i + 1 := by
    split
    · rename_i e; rw [e, Nat.mod_self]
    · exact Nat.mod_eq_of_lt (by omega)
  have e2 : (i + 2) % n = if i + 2 = n then 0 else if i + 1 = n then 1 else i + 2 := by
    split
    · rename_i e; rw [e, Nat.mod_self]
    · split
      · have : i + 2 = n + 1 := by omega
        rw [this, Nat.add_mod_left, Nat.mod_eq_of_lt (by omega)]
      · exact Nat.mod_eq_of_lt (by omega)
  rw [e1, e2]
  split <;> split <;> (try split) <;> omega
theorem cvh_left {h : List Pt} (H : CvH h) {j k : Nat} (hj : j < h.length) (hk : k < h.length) (n1 : k ≠ j) (n2 : k ≠ (j + 1) % h.length) : 0 < crP (h.getD j (0, 0)) (nxP h j) (h.getD k (0, 0)) := by
  refine H.left j hj _ (getD_mem' hk) (fun e => n1 (nd_inj H.nodup hk hj e)) fun e => n2 (nd_inj H.nodup hk (Nat.mod_lt _ (by omega)) e)
/-- The parts of the area around the first vertex. -/
def fanA (h : List Pt) : Nat → Int
  | 0 => 0
  | i + 1 => fanA h i + crP (h.getD 0 (0, 0)) (h.getD i (0, 0)) (nxP h i)
theorem fan_is {h : List Pt} : ∀ i, i ≤ h.length → fanA h i = sgA h i - ((h.getD 0 (0, 0)).1 * (h.getD (i % h.length) (0, 0)).2 - (h.getD 0 (0, 0)).2 * (h.getD (i % h.length) (0, 0)).1)
  | 0, _ => by
    simp only [fanA, sgA, Nat.zero_mod]
    grind
  | i + 1, hi => by
    have ih := fan_is (h := h) i (by omega)
    rw [Nat.mod_eq_of_lt (by omega)] at ih
    have e : h.getD ((i + 1) % h.length) (0, 0) = nxP h i := rfl
    rw [e]
    simp only [fanA, sgA, sgT, ih]
    unfold crP crossI
    grind
theorem fan_all {h : List Pt} (h0 : 0 < h.length) : fanA h h.length = sgA h h.length := by
  have := fan_is (h := h) h.length (Nat.le_refl _)
  rw [Nat.mod_self] at this
  rw [this]
  grind
theorem fan_pos {h : List Pt} (H : CvH h) : ∀ i, i ≤ h.length → 0 ≤ fanA h i ∧ (2 ≤ i → 0 < fanA h i)
  | 0, _ => ⟨Int.le_refl _, fun h => by omega⟩
  | i + 1, hi => by
    obtain ⟨h1, h2⟩ := fan_pos H i (by omega)
    have h3 := H.three
    have rot : crP (h.getD 0 (0, 0)) (h.getD i (0, 0)) (nxP h i) = crP (h.getD i (0, 0)) (nxP h i) (h.getD 0 (0, 0)) := by unfold crP crossI; grind
    have part : 0 ≤ crP (h.getD 0 (0, 0)) (h.getD i (0, 0)) (nxP h i) := by
      rw [rot]
      by_cases c1 : 0 = i
      · subst c1
        rw [crP_ba]
        exact Int.le_refl _
      · by_cases c2 : 0 = (i + 1) % h.length
        · have : nxP h i = h.getD 0 (0, 0) := by unfold nxP; rw [← c2]
          rw [this, crP_bb]
          exact Int.le_refl _
        · exact Int.le_of_lt (cvh_left H (by omega) (by omega) c1 c2)
    refine ⟨by simp only [fanA]; omega, fun hge => ?_⟩
    simp only [fanA]
    rcases Nat.lt_or_ge i 2 with c | c
    · obtain rfl : i = 1 := by omega
      have : 0 < crP (h.getD 1 (0, 0)) (nxP h 1) (h.getD 0 (0, 0)) := cvh_left H (by omega) (by omega) (by omega) (by rw [Nat.mod_eq_of_lt (by omega)]; omega)
      omega
    · have := h2 c
      omega
/-- Strictly convex rings are counterclockwise. -/
theorem cvh_area {h : List Pt} (H : CvH h) : 0 < sgA h h.length := by
  have h3 := H.three
  rw [← fan_all (by omega)]
  exact (fan_pos H _ (Nat.le_refl _)).2 (by omega)
theorem low_hul {s : List Pt} (h : Asc s) (h3 : 3 ≤ s.length) {v : Pt} (hv : v ∈ lowR s) : v ∈ hulL s := by
  have h0 : s ≠ [] := by intro e; rw [e] at h3; simp at h3
  obtain ⟨l1, l2, e1, e2, _, _⟩ := hul_ends h h0
  have eH : hulL s = (chn [] s).take ((chn [] s).length - 1) ++ (chn [] (revP s)).take ((chn [] (revP s)).length - 1) := by unfold hulL; rw [if_neg (by omega)]
  have q1 := low_len s
  have q2 := upp_len s
  have l2' : 2 ≤ (uppR s).length := by rw [q2]; exact chn_ge (by rw [revP_len]; omega)
  rw [eH]
  obtain ⟨i, hi, hiv⟩ := List.getElem_of_mem hv
  have ev : (lowR s).getD i (0, 0) = v := by simp [hi, hiv]
  rcases Nat.eq_zero_or_pos i with rfl | c
  · refine List.mem_append.2 (.inr ?_)
    rw [e1] at ev
    have := upp_at s (k := 0) l2
    rw [Nat.sub_zero, ev] at this
    rw [← this]
    have m : ((chn [] (revP s)).take ((chn [] (revP s)).length - 1)).getD 0 (0, 0) ∈ (chn [] (revP s)).take ((chn [] (revP s)).length - 1) := getD_mem' (by simp; omega)
    rw [getD_take' _ (by omega)] at m
    exact m
  · refine List.mem_append.2 (.inl ?_)
    have := low_at s (k := (lowR s).length - 1 - i) (by omega)
    have e3 : (lowR s).length - 1 - ((lowR s).length - 1 - i) = i := by omega
    rw [e3, ev] at this
    rw [← this]
    have m : ((chn [] s).take ((chn [] s).length - 1)).getD ((lowR s).length - 1 - i) (0, 0) ∈ (chn [] s).take ((chn [] s).length - 1) := getD_mem' (by simp; omega)
    rw [getD_take' _ (by omega)] at m
    exact m
theorem upp_hul {s : List Pt} (h : Asc s) (h3 : 3 ≤ s.length) {v : Pt} (hv : v ∈ uppR s) : v ∈ hulL s := by
  have h0 : s ≠ [] := by intro e; rw [e] at h3; simp at h3
  obtain ⟨l1, l2, e1, e2, _, _⟩ := hul_ends h h0
  have eH : hulL s = (chn [] s).take ((chn [] s).length - 1) ++ (chn [] (revP s)).take ((chn [] (revP s)).length - 1) := by unfold hulL; rw [if_neg (by omega)]
  have q1 := low_len s
  have q2 := upp_len s
  have l1' : 2 ≤ (lowR s).length := by rw [q1]; exact chn_ge (by omega)
  rw [eH]
  obtain ⟨i, hi, hiv⟩ := List.getElem_of_mem hv
  have ev : (uppR s).getD i (0, 0) = v := by simp [hi, hiv]
  rcases Nat.eq_zero_or_pos i with rfl | c
  · refine List.mem_append.2 (.inl ?_)
    rw [e2] at ev
    have := low_at s (k := 0) l1
    rw [Nat.sub_zero, ev] at this
    rw [← this]
    have m : ((chn [] s).take ((chn [] s).length - 1)).getD 0 (0, 0) ∈ (chn [] s).take ((chn [] s).length - 1) := getD_mem' (by simp; omega)
    rw [getD_take' _ (by omega)] at m
    exact m
  · refine List.mem_append.2 (.inr ?_)
    have := upp_at s (k := (uppR s).length - 1 - i) (by omega)
    have e3 : (uppR s).length - 1 - ((uppR s).length - 1 - i) = i := by omega
    rw [e3, ev] at this
    rw [← this]
    have m : ((chn [] (revP s)).take ((chn [] (revP s)).length - 1)).getD ((uppR s).length - 1 - i) (0, 0) ∈ (chn [] (revP s)).take ((chn [] (revP s)).length - 1) := getD_mem' (by simp; omega)
    rw [getD_take' _ (by omega)] at m
    exact m
theorem Lft.sub {S T : Pt → Prop} (hST : ∀ q, T q → S q) : ∀ {R : List Pt}, Lft S R → Lft T R
  | [], _ => trivial
  | [_], _ => trivial
  | _ :: _ :: _, h => ⟨fun q hq => h.1 q (hST q hq), Lft.sub hST h.2⟩
/-- The chain of some of the points that has all of them. -/
theorem ChI.sub {S T : Pt → Prop} {R : List Pt} (h : ChI S R) (hST : ∀ q, T q → S q) (hR : ∀ z ∈ R, T z) : ChI T R := by
  refine ⟨hR, h.dsc, h.cvx, h.lft.sub hST, ?_, ?_⟩
  · obtain ⟨m, h1, h2⟩ := h.bot
    exact ⟨m, h1, fun q hq => h2 q (hST q hq)⟩
  · obtain ⟨m, h1, h2⟩ := h.top
    exact ⟨m, h1, fun q hq => h2 q (hST q hq)⟩
theorem hul_of {s : List Pt} (h : 2 ≤ s.length) : hulL s = (lowR s).reverse.take ((lowR s).length - 1) ++ (uppR s).reverse.take ((uppR s).length - 1) := by
  have e1 : (lowR s).reverse = chn [] s := by rw [show lowR s = (chn [] s).reverse from (chn_rev s []).symm, List.reverse_reverse]
  have e2 : (uppR s).reverse = chn [] (revP s) := by rw [show uppR s = (chn [] (revP s)).reverse from (chn_rev (revP s) []).symm, List.reverse_reverse]
  rw [e1, e2, low_len, upp_len]
  unfold hulL
  split
  · exact (hul_two (by omega)).symm
  · rfl
/-- Points in order with the same halves have the same hull. -/
theorem hul_same {s t : List Pt} (hs : Asc s) (ht : Asc t) (h2 : 2 ≤ s.length) (k2 : 2 ≤ t.length) (hts : ∀ q, q ∈ t → q ∈ s) (h1 : ∀ z ∈ lowR s, z ∈ t) (h3 : ∀ z ∈ uppR s, z ∈ t) : hulL t = hulL s := by
  have s0 : s ≠ [] := by intro e; rw [e] at h2; simp at h2
  have t0 : t ≠ [] := by intro e; rw [e] at k2; simp at k2
  have L : lowR t = lowR s := (low_ok ht t0).uniq ((low_ok hs s0).sub hts h1)
  have U : uppR t = uppR s := by
    have : ngL (uppR t) = ngL (uppR s) := (upp_ok ht t0).uniq ((upp_ok hs s0).sub (fun q hq => hts _ hq) fun z hz => h3 _ (mem_ngL.1 hz))
    have := congrArg ngL this
    rwa [ngL_ng, ngL_ng] at this
  rw [hul_of h2, hul_of k2, L, U]
theorem asc_nodup {s : List Pt} (h : Asc s) : s.Nodup := List.Pairwise.imp (fun {a b} hab e => by subst e; exact oP_irr hab) h
/-- The hull of the vertices of a hull. -/
theorem hul_hul {s : List Pt} (h : Asc s) (h3 : 3 ≤ (hulL s).length) : hulL (srtL (hulL s)) = hulL s := by
  have hs : 3 ≤ s.length := by
    rcases Nat.lt_or_ge s.length 3 with c | c
    · unfold hulL at h3
      rw [if_pos c] at h3
      exact h3
    · exact c
  have hl : 2 ≤ (srtL (hulL s)).length := by
    have n := hul_nodup h
    have m1 : (hulL s).getD 0 (0, 0) ∈ srtL (hulL s) := (srtL_mem _ _).2 (getD_mem' (by omega))
    have m2 : (hulL s).getD 1 (0, 0) ∈ srtL (hulL s) := (srtL_mem _ _).2 (getD_mem' (by omega))
    have ne : (hulL s).getD 0 (0, 0) ≠ (hulL s).getD 1 (0, 0) := fun e => absurd (nd_inj n (by omega) (by omega) e) (by decide)
    match srtL (hulL s), m1, m2 with
    | [], m1, _ => cases m1
    | [x], m1, m2 => exact absurd ((List.mem_singleton.1 m1).trans (List.mem_singleton.1 m2).symm) ne
    | _ :: _ :: _, _, _ => simp
  exact hul_same h (srtL_asc _) (by omega) hl (fun q hq => hul_in h ((srtL_mem _ _).1 hq)) (fun z hz => (srtL_mem _ _).2 (low_hul h hs hz)) fun z hz => (srtL_mem _ _).2 (upp_hul h hs hz)
end Go.Proofs.Ytieibbdfdepmbaa
