/-
  The vertices of the hull: a strictly convex ring that has all points. Written by an AI agent.
-/
import Derived.Test.YtieibbdfdepmbaaHti
namespace Go.Proofs.Ytieibbdfdepmbaa
set_option linter.all false
open Go.RowKit

/-- Strictly convex: all other vertices are on the left of each edge. -/
structure CvH (h : List Pt) : Prop where
  three : 3 ≤ h.length
  nodup : h.Nodup
  left : ∀ j, j < h.length → ∀ v ∈ h, v ≠ h.getD j (0, 0) → v ≠ nxP h j → 0 < crP (h.getD j (0, 0)) (nxP h j) v
theorem getD_append (a b : List Pt) (k : Nat) : (a ++ b).getD k (0, 0) = if k < a.length then a.getD k (0, 0) else b.getD (k - a.length) (0, 0) := by
  simp only [List.getD, List.getElem?_append]
  split <;> rfl
theorem getD_take' (a : List Pt) {k m : Nat} (h : k < m) : (a.take m).getD k (0, 0) = a.getD k (0, 0) := by
  simp [List.getD, h]
theorem low_at (s : List Pt) {k : Nat} (h : k < (lowR s).length) : (chn [] s).getD k (0, 0) = (lowR s).getD ((lowR s).length - 1 - k) (0, 0) := by
  have e := chn_rev s []
  have e' : (lowR s) = (chn [] s).reverse := e.symm
  rw [e'] at h ⊢
  rw [getD_rev (by simp at h ⊢; omega)]
  congr 1
  simp at h ⊢
  omega
theorem upp_at (s : List Pt) {k : Nat} (h : k < (uppR s).length) : (chn [] (revP s)).getD k (0, 0) = (uppR s).getD ((uppR s).length - 1 - k) (0, 0) := low_at (revP s) h
theorem low_len (s : List Pt) : (lowR s).length = (chn [] s).length := by
  have e : (lowR s) = (chn [] s).reverse := (chn_rev s []).symm
  rw [e, List.length_reverse]
theorem upp_len (s : List Pt) : (uppR s).length = (chn [] (revP s)).length := low_len (revP s)
theorem head_at {R : List Pt} {m : Pt} (h : R.head? = some m) : R.getD 0 (0, 0) = m := by
  match R, h with
  | _ :: _, h => simpa using h
theorem last_at {R : List Pt} {m : Pt} (h : R.getLast? = some m) : R.getD (R.length - 1) (0, 0) = m := by
  rw [List.getLast?_eq_getElem?] at h
  simp [List.getD, h]
theorem ngL_len (R : List Pt) : (ngL R).length = R.length := by unfold ngL; simp
theorem ngL_at {R : List Pt} {i : Nat} (hi : i < R.length) : (ngL R).getD i (0, 0) = ngP (R.getD i (0, 0)) := by unfold ngL; simp [hi]
theorem top_uniq {S : Pt → Prop} {a b : Pt} (ha : S a) (hb : S b) (h1 : ∀ q, S q → q = a ∨ pltB q a = true) (h2 : ∀ q, S q → q = b ∨ pltB q b = true) : a = b := by
  rcases h1 b hb with e | e
  · exact e.symm
  · rcases h2 a ha with e' | e'
    · exact e'
    · exact (oP_asym e e').elim
/-- The ends of both halves: the greatest and the least point. -/
theorem hul_ends {s : List Pt} (h : Asc s) (h0 : s ≠ []) :
    0 < (lowR s).length ∧ 0 < (uppR s).length ∧ (lowR s).getD 0 (0, 0) = (uppR s).getD ((uppR s).length - 1) (0, 0) ∧ (uppR s).getD 0 (0, 0) = (lowR s).getD ((lowR s).length - 1) (0, 0) ∧
    (∀ q ∈ s, q = (lowR s).getD 0 (0, 0) ∨ pltB q ((lowR s).getD 0 (0, 0)) = true) ∧ (∀ q ∈ s, q = (uppR s).getD 0 (0, 0) ∨ pltB ((uppR s).getD 0 (0, 0)) q = true) := by
  have L := low_ok h h0
  have U := upp_ok h h0
  obtain ⟨m, m1, m2⟩ := L.top
  obtain ⟨n, n1, n2⟩ := L.bot
  obtain ⟨p, p1, p2⟩ := U.top
  obtain ⟨q, q1, q2⟩ := U.bot
  have l1 : 0 < (lowR s).length := by
    rcases Nat.eq_zero_or_pos (lowR s).length with e | e
    · rw [List.eq_nil_of_length_eq_zero e] at m1; cases m1
    · exact e
  have l2 : 0 < (uppR s).length := by
    rcases Nat.eq_zero_or_pos (uppR s).length with e | e
    · rw [List.eq_nil_of_length_eq_zero e] at p1; cases p1
    · exact e
  have e1 := head_at m1
  have e2 := last_at n1
  have e3 := head_at p1
  have e4 := last_at q1
  rw [ngL_at l2] at e3
  rw [ngL_len, ngL_at (by omega)] at e4
  have mm : ∀ {k}, k < (lowR s).length → (lowR s).getD k (0, 0) ∈ s := fun hk => L.mem _ (getD_mem' hk)
  have mu : ∀ {k}, k < (uppR s).length → (uppR s).getD k (0, 0) ∈ s := fun hk => by
    have := U.mem _ (mem_ngL.2 (by rw [ngP_ng]; exact getD_mem' hk) : ngP _ ∈ ngL (uppR s))
    rw [ngP_ng] at this
    exact this
  have k1 : ∀ q ∈ s, q = (lowR s).getD 0 (0, 0) ∨ pltB q ((lowR s).getD 0 (0, 0)) = true := fun x hx => by rw [e1]; exact m2 x hx
  have k2 : ∀ q ∈ s, q = (uppR s).getD 0 (0, 0) ∨ pltB ((uppR s).getD 0 (0, 0)) q = true := fun x hx => by
    have := p2 (ngP x) (by show ngP (ngP x) ∈ s; rw [ngP_ng]; exact hx)
    rw [← e3, plt_ng] at this
    rcases this with e | e
    · have := congrArg ngP e
      rw [ngP_ng, ngP_ng] at this
      exact .inl this
    · exact .inr e
  have k3 : ∀ q ∈ s, q = (uppR s).getD ((uppR s).length - 1) (0, 0) ∨ pltB q ((uppR s).getD ((uppR s).length - 1) (0, 0)) = true := fun x hx => by
    have := q2 (ngP x) (by show ngP (ngP x) ∈ s; rw [ngP_ng]; exact hx)
    rw [← e4, plt_ng] at this
    rcases this with e | e
    · have := congrArg ngP e
      rw [ngP_ng, ngP_ng] at this
      exact .inl this
    · exact .inr e
  refine ⟨l1, l2, top_uniq (S := fun q => q ∈ s) (mm l1) (mu (by omega)) k1 k3, ?_, k1, k2⟩
  rw [e2]
  have hn : n ∈ s := by rw [← e2]; exact mm (by omega)
  rcases k2 n hn with e | e
  · exact e.symm
  · rcases n2 _ (mu l2) with e' | e'
    · exact e'
    · exact (oP_asym e e').elim
/-- Each edge of the hull is one of its lower or of its upper half. -/
theorem hul_edge {s : List Pt} (h : Asc s) (h3 : 3 ≤ s.length) {j : Nat} (hj : j < (hulL s).length) :
    (∃ k, k + 1 < (lowR s).length ∧ (hulL s).getD j (0, 0) = (lowR s).getD (k + 1) (0, 0) ∧ nxP (hulL s) j = (lowR s).getD k (0, 0)) ∨
    (∃ k, k + 1 < (uppR s).length ∧ (hulL s).getD j (0, 0) = (uppR s).getD (k + 1) (0, 0) ∧ nxP (hulL s) j = (uppR s).getD k (0, 0)) := by
  have h0 : s ≠ [] := by intro e; rw [e] at h3; simp at h3
  obtain ⟨l1, l2, e1, e2, _, _⟩ := hul_ends h h0
  have eH : hulL s = (chn [] s).take ((chn [] s).length - 1) ++ (chn [] (revP s)).take ((chn [] (revP s)).length - 1) := by unfold hulL; rw [if_neg (by omega)]
  have q1 := low_len s
  have q2 := upp_len s
  have hl : (hulL s).length = ((lowR s).length - 1) + ((uppR s).length - 1) := by rw [eH, q1, q2]; simp
  have ga : ∀ k, k + 1 < (lowR s).length → (hulL s).getD k (0, 0) = (lowR s).getD ((lowR s).length - 1 - k) (0, 0) := fun k hk => by
    rw [eH, getD_append, if_pos (by simp; omega), getD_take' _ (by omega), low_at s (by omega)]
  have gb : ∀ k, k + 1 < (uppR s).length → (hulL s).getD ((lowR s).length - 1 + k) (0, 0) = (uppR s).getD ((uppR s).length - 1 - k) (0, 0) := fun k hk => by
    have : ((chn [] s).take ((chn [] s).length - 1)).length = (lowR s).length - 1 := by simp; omega
    rw [eH, getD_append, if_neg (by omega), this, Nat.add_sub_cancel_left, getD_take' _ (by omega), upp_at s (by omega)]
  have l1' : 2 ≤ (lowR s).length := by rw [q1]; exact chn_ge (by omega)
  have l2' : 2 ≤ (uppR s).length := by rw [q2]; exact chn_ge (by rw [revP_len]; omega)
  rw [hl] at hj
  unfold nxP
  rw [hl]
  rcases Nat.lt_or_ge j ((lowR s).length - 1) with c | c
  · refine .inl ⟨(lowR s).length - 2 - j, by omega, ?_, ?_⟩
    · rw [ga j (by omega)]
      congr 1
      omega
    · rw [Nat.mod_eq_of_lt (by omega)]
      rcases Nat.lt_or_ge (j + 1) ((lowR s).length - 1) with d | d
      · rw [ga (j + 1) (by omega)]
        congr 1
        omega
      · have : j + 1 = (lowR s).length - 1 + 0 := by omega
        rw [this, gb 0 (by omega), Nat.sub_zero, ← e1]
        congr 1
        omega
  · obtain ⟨i, rfl⟩ : ∃ i, j = (lowR s).length - 1 + i := ⟨j - ((lowR s).length - 1), by omega⟩
    refine .inr ⟨(uppR s).length - 2 - i, by omega, ?_, ?_⟩
    · rw [gb i (by omega)]
      congr 1
      omega
    · rcases Nat.lt_or_ge (i + 1) ((uppR s).length - 1) with d | d
      · rw [Nat.mod_eq_of_lt (by omega), Nat.add_assoc, gb (i + 1) (by omega)]
        congr 1
        omega
      · have : (lowR s).length - 1 + i + 1 = (lowR s).length - 1 + ((uppR s).length - 1) := by omega
        rw [this, Nat.mod_self, ga 0 (by omega), Nat.sub_zero, ← e2]
        congr 1
        omega
theorem mem_hul {s : List Pt} (h3 : 3 ≤ s.length) {v : Pt} (hv : v ∈ hulL s) : v ∈ lowR s ∨ v ∈ uppR s := by
  have eH : hulL s = (chn [] s).take ((chn [] s).length - 1) ++ (chn [] (revP s)).take ((chn [] (revP s)).length - 1) := by unfold hulL; rw [if_neg (by omega)]
  have e1 : (lowR s) = (chn [] s).reverse := (chn_rev s []).symm
  have e2 : (uppR s) = (chn [] (revP s)).reverse := (chn_rev (revP s) []).symm
  rw [eH] at hv
  rcases List.mem_append.1 hv with hv | hv
  · left
    rw [e1, List.mem_reverse]
    exact List.mem_of_mem_take hv
  · right
    rw [e2, List.mem_reverse]
    exact List.mem_of_mem_take hv
theorem low_in {s : List Pt} (h : Asc s) (h0 : s ≠ []) {v : Pt} (hv : v ∈ lowR s) : v ∈ s := (low_ok h h0).mem v hv
theorem upp_in {s : List Pt} (h : Asc s) (h0 : s ≠ []) {v : Pt} (hv : v ∈ uppR s) : v ∈ s := by
  have := (upp_ok h h0).mem _ (mem_ngL.2 (by rw [ngP_ng]; exact hv) : ngP v ∈ ngL (uppR s))
  rw [ngP_ng] at this
  exact this
theorem hul_in {s : List Pt} (h : Asc s) {v : Pt} (hv : v ∈ hulL s) : v ∈ s := by
  by_cases h3 : 3 ≤ s.length
  · have h0 : s ≠ [] := by intro e; rw [e] at h3; simp at h3
    rcases mem_hul h3 hv with q | q
    · exact low_in h h0 q
    · exact upp_in h h0 q
  · unfold hulL at hv
    rw [if_pos (by omega)] at hv
    exact hv
/-- All points are on the left of each edge of the hull. -/
theorem hul_left {s : List Pt} (h : Asc s) (h3 : 3 ≤ s.length) {j : Nat} (hj : j < (hulL s).length) {q : Pt} (hq : q ∈ s) : 0 ≤ crP ((hulL s).getD j (0, 0)) (nxP (hulL s) j) q := by
  have h0 : s ≠ [] := by intro e; rw [e] at h3; simp at h3
  rcases hul_edge h h3 hj with ⟨k, k1, k2, k3⟩ | ⟨k, k1, k2, k3⟩
  · rw [k2, k3]
    exact lft_at (low_ok h h0).lft k k1 q hq
  · rw [k2, k3]
    have := lft_at (upp_ok h h0).lft k (by rw [ngL_len]; exact k1) (ngP q) (by show ngP (ngP q) ∈ s; rw [ngP_ng]; exact hq)
    rw [ngL_at k1, ngL_at (by omega), crP_ng] at this
    exact this
/-- A vertex on the line of an edge is one of its ends. -/
theorem hul_strict {s : List Pt} (h : Asc s) (h3 : 3 ≤ s.length) {j : Nat} (hj : j < (hulL s).length) {v : Pt} (hv : v ∈ hulL s) (n1 : v ≠ (hulL s).getD j (0, 0)) (n2 : v ≠ nxP (hulL s) j) : 0 < crP ((hulL s).getD j (0, 0)) (nxP (hulL s) j) v := by
  have h0 : s ≠ [] := by intro e; rw [e] at h3; simp at h3
  have hl := hul_left h h3 hj (hul_in h hv)
  have L := low_ok h h0
  have U := upp_ok h h0
  rcases Int.lt_or_eq_of_le hl with c | c
  · exact c
  exfalso
  rcases hul_edge h h3 hj with ⟨k, k1, k2, k3⟩ | ⟨k, k1, k2, k3⟩
  · rw [k2] at c n1
    rw [k3] at c n2
    rcases mem_hul h3 hv with q | q
    · rcases on_own L k1 q c.symm with e | e
      · exact n1 e
      · exact n2 e
    · rcases on_other L U k1 q c.symm with e | e
      · exact n1 e
      · exact n2 e
  · rw [k2] at c n1
    rw [k3] at c n2
    have U' : ChI (fun q => q ∈ ngL s) (ngL (uppR s)) := U.ext fun q => mem_ngL.symm
    have L' : ChI (fun q => ngP q ∈ ngL s) (ngL (ngL (lowR s))) := by
      rw [ngL_ng]
      exact L.ext fun q => by rw [mem_ngL, ngP_ng]
    have k1' : k + 1 < (ngL (uppR s)).length := by rw [ngL_len]; exact k1
    have c' : crP ((ngL (uppR s)).getD (k + 1) (0, 0)) ((ngL (uppR s)).getD k (0, 0)) (ngP v) = 0 := by rw [ngL_at k1, ngL_at (by omega), crP_ng]; exact c.symm
    have back : ∀ x, ngP v = ngP x → v = x := fun x e => by
      have := congrArg ngP e
      rwa [ngP_ng, ngP_ng] at this
    have key : ngP v = (ngL (uppR s)).getD (k + 1) (0, 0) ∨ ngP v = (ngL (uppR s)).getD k (0, 0) := by
      rcases mem_hul h3 hv with q | q
      · exact on_other U' L' k1' (mem_ngL.2 (by rw [ngP_ng]; exact q)) c'
      · exact on_own U k1' (mem_ngL.2 (by rw [ngP_ng]; exact q)) c'
    rw [ngL_at k1, ngL_at (by omega)] at key
    rcases key with e | e
    · exact n1 (back _ e)
    · exact n2 (back _ e)
/-- A point of both halves is an end of them. -/
theorem both_end {s : List Pt} (h : Asc s) (h0 : s ≠ []) {i j : Nat} (hi : i < (lowR s).length) (hj : j < (uppR s).length) (e : (lowR s).getD i (0, 0) = (uppR s).getD j (0, 0)) : i = 0 ∨ i + 1 = (lowR s).length := by
  rcases Nat.eq_zero_or_pos i with c | c
  · exact .inl c
  right
  rcases Nat.lt_or_ge (i + 1) (lowR s).length with d | d
  rotate_left
  · omega
  exfalso
  have L := low_ok h h0
  have U := upp_ok h h0
  obtain ⟨l1, l2, e1, e2, k1, k2⟩ := hul_ends h h0
  obtain ⟨i, rfl⟩ : ∃ m, i = m + 1 := ⟨i - 1, by omega⟩
  have c1 := cvx_at L.cvx i d
  have d1 := dsc_at L.dsc (i := i) (j := i + 1) (by omega) (by omega)
  have d2 := dsc_at L.dsc (i := i + 1) (j := i + 2) (by omega) d
  have mw : (lowR s).getD i (0, 0) ∈ s := L.mem _ (getD_mem' (by omega))
  have mu : (lowR s).getD (i + 2) (0, 0) ∈ s := L.mem _ (getD_mem' d)
  have mv : (lowR s).getD (i + 1) (0, 0) ∈ s := L.mem _ (getD_mem' (by omega))
  have w1 := lft_at L.lft i (by omega)
  have w2 := lft_at L.lft (i + 1) d
  have j0 : 0 < j := by
    rcases Nat.eq_zero_or_pos j with rfl | q
    · exfalso
      rw [e] at d2
      rcases k2 _ mu with q | q
      · rw [q] at d2; exact oP_irr d2
      · exact oP_asym d2 q
    · exact q
  have j1 : j + 1 < (uppR s).length := by
    rcases Nat.lt_or_ge (j + 1) (uppR s).length with q | q
    · exact q
    · exfalso
      have ej : j = (uppR s).length - 1 := by omega
      rw [ej, ← e1] at e
      rw [e] at d1
      rcases k1 _ mw with q | q
      · rw [q] at d1; exact oP_irr d1
      · exact oP_asym d1 q
  obtain ⟨j, rfl⟩ : ∃ m, j = m + 1 := ⟨j - 1, by omega⟩
  have c2 := cvx_at U.cvx j (by rw [ngL_len]; exact j1)
  have l3 := lft_at U.lft j (by rw [ngL_len]; omega)
  have l4 := lft_at U.lft (j + 1) (by rw [ngL_len]; exact j1)
  have d3 := dsc_at U.dsc (i := j) (j := j + 1) (by omega) (by rw [ngL_len]; omega)
  have d4 := dsc_at U.dsc (i := j + 1) (j := j + 2) (by omega) (by rw [ngL_len]; exact j1)
  rw [ngL_at (by omega), ngL_at (by omega), ngL_at (by omega), crP_ng, ← e] at c2
  rw [ngL_at (by omega), ngL_at (by omega), plt_ng, ← e] at d3 d4
  have l3w := l3 (ngP ((lowR s).getD i (0, 0))) (by show ngP (ngP _) ∈ s; rw [ngP_ng]; exact mw)
  have l4w := l4 (ngP ((lowR s).getD i (0, 0))) (by show ngP (ngP _) ∈ s; rw [ngP_ng]; exact mw)
  rw [ngL_at (by omega), ngL_at (by omega), crP_ng, ← e] at l3w l4w
  have my : (uppR s).getD j (0, 0) ∈ s := upp_in h h0 (getD_mem' (by omega))
  have mz : (uppR s).getD (j + 2) (0, 0) ∈ s := upp_in h h0 (getD_mem' j1)
  have w1y := w1 _ my
  have w1z := w1 _ mz
  clear l3 l4 w1 w2
  generalize (lowR s).getD i (0, 0) = w at *
  generalize (lowR s).getD (i + 1) (0, 0) = v at *
  generalize (uppR s).getD j (0, 0) = y at *
  generalize (uppR s).getD (j + 2) (0, 0) = z at *
  -- y before v before z
  have f1 : crP z v y = cr2 (dif z v) (dif v y) := by unfold crP crossI cr2 dif; simp only; grind
  have f2 : crP v w y = cr2 (dif v y) (dif w v) := by unfold crP crossI cr2 dif; simp only; grind
  have f3 : crP v w z = -cr2 (dif z v) (dif w v) := by unfold crP crossI cr2 dif; simp only; grind
  have := (cr_tr (plt_pos.1 d4) (plt_pos.1 d3) (plt_pos.1 d1) (by omega) (by omega)).2 (.inl (by omega))
  omega
theorem dsc_nodup {R : List Pt} (h : Dsc R) : R.Nodup := List.Pairwise.imp (fun {a b} hab e => by subst e; exact oP_irr hab) h
theorem nodup_rv {R : List Pt} (h : R.reverse.Nodup) : R.Nodup := (List.pairwise_reverse.1 h).imp fun h => Ne.symm h
theorem hul_nodup {s : List Pt} (h : Asc s) : (hulL s).Nodup := by
  by_cases h3 : 3 ≤ s.length
  rotate_left
  · unfold hulL
    rw [if_pos (by omega)]
    exact List.Pairwise.imp (fun {a b} hab e => by subst e; exact oP_irr hab) h
  have h0 : s ≠ [] := by intro e; rw [e] at h3; simp at h3
  have eH : hulL s = (chn [] s).take ((chn [] s).length - 1) ++ (chn [] (revP s)).take ((chn [] (revP s)).length - 1) := by unfold hulL; rw [if_neg (by omega)]
  have e1 : (lowR s) = (chn [] s).reverse := (chn_rev s []).symm
  have e2 : (uppR s) = (chn [] (revP s)).reverse := (chn_rev (revP s) []).symm
  have n1 : (chn [] s).Nodup := by
    have := dsc_nodup (low_ok h h0).dsc
    rw [e1] at this
    exact nodup_rv this
  have n2 : (chn [] (revP s)).Nodup := by
    have := dsc_nodup (upp_ok h h0).dsc
    unfold ngL at this
    have this : (uppR s).Nodup := (List.pairwise_map.1 this).imp fun h e => h (congrArg ngP e)
    rw [e2] at this
    exact nodup_rv this
  obtain ⟨l1, l2, q1, q2, k1, k2⟩ := hul_ends h h0
  have p1 := low_len s
  have p2 := upp_len s
  have l1' : 2 ≤ (lowR s).length := by rw [p1]; exact chn_ge (by omega)
  have l2' : 2 ≤ (uppR s).length := by rw [p2]; exact chn_ge (by rw [revP_len]; omega)
  rw [eH]
  refine List.nodup_append.2 ⟨n1.sublist (List.take_sublist _ _), n2.sublist (List.take_sublist _ _), fun a ha b hb hab => ?_⟩
  obtain ⟨i, hi, rfl⟩ := List.getElem_of_mem ha
  obtain ⟨j, hj, rfl⟩ := List.getElem_of_mem hb
  have hi' : i < (chn [] s).length - 1 := by simp at hi; omega
  have hj' : j < (chn [] (revP s)).length - 1 := by simp at hj; omega
  have ea : (chn [] s).getD i (0, 0) = (chn [] (revP s)).getD j (0, 0) := by
    have a1 : i < (chn [] s).length := by omega
    have b1 : j < (chn [] (revP s)).length := by omega
    simpa [a1, b1] using hab
  rw [low_at s (by omega), upp_at s (by omega)] at ea
  rcases both_end h h0 (by omega) (by omega) ea with c | c
  · omega
  · have c' : i = 0 := by omega
    have : (lowR s).length - 1 - i = (lowR s).length - 1 := by omega
    rw [this, ← q2] at ea
    -- the least point is not ahead of the last in the upper half
    have d := dsc_at (upp_ok h h0).dsc (i := 0) (j := (uppR s).length - 1 - j) (by omega) (by rw [ngL_len]; omega)
    rw [ngL_at (by omega), ngL_at (by omega), plt_ng, ea] at d
    exact oP_irr d
theorem hul_cvh {s : List Pt} (h : Asc s) (h3 : 3 ≤ (hulL s).length) : CvH (hulL s) := by
  have hs : 3 ≤ s.length := by
    rcases Nat.lt_or_ge s.length 3 with c | c
    · unfold hulL at h3
      rw [if_pos c] at h3
      exact h3
    · exact c
  exact ⟨h3, hul_nodup h, fun j hj v hv n1 n2 => hul_strict h hs hj hv n1 n2⟩
end Go.Proofs.Ytieibbdfdepmbaa
