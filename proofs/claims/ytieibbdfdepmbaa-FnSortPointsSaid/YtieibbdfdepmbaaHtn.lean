/-
  Hulls of some of the points, of parts, of moved points. Written by an AI agent.
-/
import Derived.Test.YtieibbdfdepmbaaHtm
namespace Go.Proofs.Ytieibbdfdepmbaa
set_option linter.all false
open Go.RowKit

theorem betw {v : Pt} : ∀ {Q : List Pt} {m n : Pt}, Dsc Q → v ∉ Q → Q.head? = some m → Q.getLast? = some n → pltB v m = true → pltB n v = true → ∃ k, k + 1 < Q.length ∧ pltB (Q.getD (k + 1) (0, 0)) v = true ∧ pltB v (Q.getD k (0, 0)) = true
  | [], m, n, _, _, h, _, _, _ => by cases h
  | [b], m, n, _, hv, h1, h2, h3, h4 => by
    obtain rfl : b = m := by simpa using h1
    obtain rfl : b = n := by simpa using h2
    exact (oP_asym h3 h4).elim
  | b :: a :: r, m, n, hd, hv, h1, h2, h3, h4 => by
    obtain rfl : b = m := by simpa using h1
    rcases oP_tri v a with e | e | e
    · exact absurd (by simp [e]) hv
    · have hv' : v ∉ a :: r := fun hh => hv (List.mem_cons_of_mem _ hh)
      rw [List.getLast?_cons_cons] at h2
      obtain ⟨k, k1, k2, k3⟩ := betw hd.tail hv' rfl h2 e h4
      exact ⟨k + 1, by simpa using k1, by simpa using k2, by simpa using k3⟩
    · exact ⟨0, by simp, by simpa using e, by simpa using h3⟩
/-- A point of the chain of all that is one of some is in the chain of these. -/
theorem chain_sub {S T : Pt → Prop} {R Q : List Pt} (hS : ChI S R) (hT : ChI T Q) (hTS : ∀ q, T q → S q) {v : Pt} (hv : v ∈ R) (hvT : T v) : v ∈ Q := by
  rcases Classical.em (v ∈ Q) with h | hn
  · exact h
  exfalso
  obtain ⟨m, m1, m2⟩ := hT.top
  obtain ⟨n, n1, n2⟩ := hT.bot
  have hm : m ∈ Q := List.mem_of_head? m1
  have hn' : n ∈ Q := List.mem_of_getLast? n1
  have lm : pltB v m = true := by
    rcases m2 v hvT with e | e
    · exact absurd (e ▸ hm) hn
    · exact e
  have ln : pltB n v = true := by
    rcases n2 v hvT with e | e
    · exact absurd (e ▸ hn') hn
    · exact e
  obtain ⟨k, k1, k2, k3⟩ := betw hT.dsc hn m1 n1 lm ln
  have l0 := lft_at hT.lft k k1 v hvT
  have sa : S (Q.getD (k + 1) (0, 0)) := hTS _ (hT.mem _ (getD_mem' k1))
  have sb : S (Q.getD k (0, 0)) := hTS _ (hT.mem _ (getD_mem' (by omega)))
  generalize Q.getD (k + 1) (0, 0) = a at *
  generalize Q.getD k (0, 0) = b at *
  obtain ⟨j, hj, hjv⟩ := List.getElem_of_mem hv
  have ev : R.getD j (0, 0) = v := by simp [hj, hjv]
  obtain ⟨p, p1, p2⟩ := hS.top
  obtain ⟨q, q1, q2⟩ := hS.bot
  have j0 : 0 < j := by
    rcases Nat.eq_zero_or_pos j with rfl | c
    · exfalso
      have := head_at p1
      rw [ev] at this
      subst this
      rcases p2 b sb with e | e
      · rw [e] at k3; exact oP_irr k3
      · exact oP_asym k3 e
    · exact c
  have j1 : j + 1 < R.length := by
    rcases Nat.lt_or_ge (j + 1) R.length with c | c
    · exact c
    · exfalso
      have := last_at q1
      rw [show R.length - 1 = j by omega, ev] at this
      subst this
      rcases q2 a sa with e | e
      · rw [e] at k2; exact oP_irr k2
      · exact oP_asym k2 e
  obtain ⟨i, rfl⟩ : ∃ i, j = i + 1 := ⟨j - 1, by omega⟩
  have c := cvx_at hS.cvx i j1
  have g1 := lft_at hS.lft (i + 1) j1 a sa
  have g2 := lft_at hS.lft i (by omega) b sb
  have d1 := dsc_at hS.dsc (i := i) (j := i + 1) (by omega) (by omega)
  have d2 := dsc_at hS.dsc (i := i + 1) (j := i + 2) (by omega) j1
  rw [ev] at c g1 g2 d1 d2
  generalize R.getD i (0, 0) = w at *
  generalize R.getD (i + 2) (0, 0) = u at *
  have e1 : crP u v w = cr2 (dif v u) (dif w v) := by unfold crP crossI cr2 dif; simp only; grind
  have e2 : crP u v a = cr2 (dif v a) (dif v u) := by unfold crP crossI cr2 dif; simp only; grind
  have e3 : crP v w b = cr2 (dif w v) (dif b v) := rfl
  have e4 : crP a b v = -cr2 (dif v a) (dif b v) := by unfold crP crossI cr2 dif; simp only; grind
  have g1' : 0 ≤ crP u v a := g1
  have t1 := (cr_tr (plt_pos.1 k2) (plt_pos.1 d2) (plt_pos.1 d1) (by omega) (by omega)).2 (.inr (by omega))
  have t2 := (cr_tr (plt_pos.1 k2) (plt_pos.1 d1) (plt_pos.1 k3) (by omega) (by omega)).2 (.inl (by omega))
  omega
/-- A vertex of the hull of all that is one of some is a vertex of their hull. -/
theorem hul_sub {s t : List Pt} (hs : Asc s) (ht : Asc t) (hts : ∀ q ∈ t, q ∈ s) {v : Pt} (hv : v ∈ hulL s) (hvt : v ∈ t) : v ∈ hulL t := by
  by_cases h3 : 3 ≤ t.length
  rotate_left
  · unfold hulL
    rw [if_pos (by omega)]
    exact hvt
  have t0 : t ≠ [] := by intro e; rw [e] at h3; simp at h3
  have s3 : 3 ≤ s.length := Nat.le_trans h3 (nodup_le (asc_nodup ht) hts)
  have s0 : s ≠ [] := by intro e; rw [e] at s3; simp at s3
  rcases mem_hul s3 hv with h | h
  · exact low_hul ht h3 (chain_sub (low_ok hs s0) (low_ok ht t0) hts h hvt)
  · refine upp_hul ht h3 ?_
    have := chain_sub (upp_ok hs s0) (upp_ok ht t0) (fun q hq => hts _ hq) (v := ngP v) (mem_ngL.2 (by rw [ngP_ng]; exact h)) (by show ngP (ngP v) ∈ t; rw [ngP_ng]; exact hvt)
    have := mem_ngL.1 this
    rwa [ngP_ng] at this
/-- The hull of points in order that are some of others and have all their vertices. -/
theorem hul_mid {s t : List Pt} (hs : Asc s) (ht : Asc t) (hts : ∀ q ∈ t, q ∈ s) (h : ∀ v ∈ hulL s, v ∈ t) : hulL t = hulL s := by
  by_cases h3 : 3 ≤ s.length
  · obtain ⟨x, y, hx, hy, hxy⟩ := hul_two_mem hs (by omega)
    exact hul_same hs ht (by omega) (two_of (h x hx) (h y hy) hxy) hts (fun z hz => h z (low_hul hs h3 hz)) fun z hz => h z (upp_hul hs h3 hz)
  · have e : hulL s = s := by unfold hulL; rw [if_pos (by omega)]
    rw [e] at h
    rw [asc_ext ht hs fun z => ⟨hts z, h z⟩]
/-- The hull of the vertices of the hulls of two parts. -/
theorem hul_parts {ps qs : List Pt} : hulL (srtL (hulL (srtL ps) ++ hulL (srtL qs))) = hulL (srtL (ps ++ qs)) := by
  refine hul_mid (srtL_asc _) (srtL_asc _) (fun q hq => ?_) fun v hv => ?_
  · rw [srtL_mem, List.mem_append] at hq ⊢
    rcases hq with hq | hq
    · exact .inl ((srtL_mem _ _).1 (hul_in (srtL_asc _) hq))
    · exact .inr ((srtL_mem _ _).1 (hul_in (srtL_asc _) hq))
  · have hm : v ∈ ps ++ qs := (srtL_mem _ _).1 (hul_in (srtL_asc _) hv)
    rw [srtL_mem, List.mem_append]
    rcases List.mem_append.1 hm with hm | hm
    · exact .inl (hul_sub (srtL_asc _) (srtL_asc _) (fun q hq => by rw [srtL_mem] at hq ⊢; exact List.mem_append_left _ hq) hv ((srtL_mem _ _).2 hm))
    · exact .inr (hul_sub (srtL_asc _) (srtL_asc _) (fun q hq => by rw [srtL_mem] at hq ⊢; exact List.mem_append_right _ hq) hv ((srtL_mem _ _).2 hm))
theorem srtL_same {ps qs : List Pt} (h : ∀ z, z ∈ ps ↔ z ∈ qs) : srtL ps = srtL qs := asc_ext (srtL_asc _) (srtL_asc _) fun z => by rw [srtL_mem, srtL_mem, h]
theorem srtL_of {s : List Pt} (h : Asc s) : srtL s = s := asc_ext (srtL_asc _) h fun z => srtL_mem s z
/-- Moved points. -/
def mvP (dx dy : Int) (p : Pt) : Pt := (p.1 + dx, p.2 + dy)
def mvL (dx dy : Int) (ps : List Pt) : List Pt := ps.map (mvP dx dy)
theorem crP_mv (dx dy : Int) (a b c : Pt) : crP (mvP dx dy a) (mvP dx dy b) (mvP dx dy c) = crP a b c := by unfold crP crossI mvP; simp only; grind
theorem plt_mv (dx dy : Int) (a b : Pt) : pltB (mvP dx dy a) (mvP dx dy b) = pltB a b := by
  rw [Bool.eq_iff_iff, pltB_iff, pltB_iff]
  unfold mvP
  simp only
  omega
theorem pushR_mv (dx dy : Int) : ∀ (R : List Pt) (p : Pt), pushR (mvL dx dy R) (mvP dx dy p) = mvL dx dy (pushR R p)
  | [], _ => rfl
  | [_], _ => rfl
  | b :: a :: r, p => by
    have ih := pushR_mv dx dy (a :: r) p
    show (if crP (mvP dx dy a) (mvP dx dy b) (mvP dx dy p) ≤ 0 then pushR (mvP dx dy a :: mvL dx dy r) (mvP dx dy p) else mvP dx dy p :: mvP dx dy b :: mvP dx dy a :: mvL dx dy r) = mvL dx dy (if crP a b p ≤ 0 then pushR (a :: r) p else p :: b :: a :: r)
    rw [crP_mv]
    split
    · exact ih
    · rfl
theorem chnR_mv (dx dy : Int) : ∀ (ps R : List Pt), chnR (mvL dx dy R) (mvL dx dy ps) = mvL dx dy (chnR R ps)
  | [], _ => rfl
  | p :: r, R => by
    have := chnR_mv dx dy r (pushR R p)
    rw [← pushR_mv] at this
    exact this
theorem mvL_len (dx dy : Int) (ps : List Pt) : (mvL dx dy ps).length = ps.length := by unfold mvL; simp
theorem srtL_mv (dx dy : Int) (ps : List Pt) : srtL (mvL dx dy ps) = mvL dx dy (srtL ps) := by
  refine asc_ext (srtL_asc _) ?_ fun z => ?_
  · unfold Asc mvL
    rw [List.pairwise_map]
    exact (srtL_asc ps).imp fun {a b} hab => by rw [plt_mv]; exact hab
  · rw [srtL_mem]
    unfold mvL
    simp only [List.mem_map, srtL_mem]
/-- The hull of moved points is the moved hull. -/
theorem hul_mv (dx dy : Int) (s : List Pt) : hulL (mvL dx dy s) = mvL dx dy (hulL s) := by
  by_cases h2 : 2 ≤ s.length
  · rw [hul_of h2, hul_of (by rw [mvL_len]; exact h2)]
    have e1 : lowR (mvL dx dy s) = mvL dx dy (lowR s) := chnR_mv dx dy s []
    have e2 : uppR (mvL dx dy s) = mvL dx dy (uppR s) := by
      unfold uppR
      rw [← chnR_mv]
      unfold mvL
      rw [← List.map_reverse]
      rfl
    rw [e1, e2, mvL_len, mvL_len]
    unfold mvL
    simp only [List.map_append, List.map_take, List.map_reverse]
  · unfold hulL
    rw [if_pos (by rw [mvL_len]; omega), if_pos (by omega)]
end Go.Proofs.Ytieibbdfdepmbaa
