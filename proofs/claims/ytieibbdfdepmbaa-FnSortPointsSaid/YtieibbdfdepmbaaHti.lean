/-
  The hull of points: all points are on the left of its edges, its vertices strictly. Written by an AI agent.
-/
import Derived.Test.YtieibbdfdepmbaaHth
import Derived.Test.YtieibbdfdepmbaaHud
namespace Go.Proofs.Ytieibbdfdepmbaa
set_option linter.all false
open Go.RowKit

def ngP (p : Pt) : Pt := (-p.1, -p.2)
def ngL (ps : List Pt) : List Pt := ps.map ngP
theorem ngP_ng (p : Pt) : ngP (ngP p) = p := by
  unfold ngP
  simp
theorem ngL_ng (ps : List Pt) : ngL (ngL ps) = ps := by
  unfold ngL
  rw [List.map_map]
  conv => rhs; rw [← List.map_id ps]
  refine List.map_congr_left fun p _ => ngP_ng p
theorem crP_ng (a b c : Pt) : crP (ngP a) (ngP b) (ngP c) = crP a b c := by unfold crP crossI ngP; simp only; grind
theorem plt_ng (a b : Pt) : pltB (ngP a) (ngP b) = pltB b a := by
  rw [Bool.eq_iff_iff, pltB_iff, pltB_iff]
  unfold ngP
  simp only
  omega
theorem pushR_ng : ∀ (R : List Pt) (p : Pt), pushR (ngL R) (ngP p) = ngL (pushR R p)
  | [], _ => rfl
  | [_], _ => rfl
  | b :: a :: r, p => by
    have ih := pushR_ng (a :: r) p
    show (if crP (ngP a) (ngP b) (ngP p) ≤ 0 then pushR (ngP a :: ngL r) (ngP p) else ngP p :: ngP b :: ngP a :: ngL r) = ngL (if crP a b p ≤ 0 then pushR (a :: r) p else p :: b :: a :: r)
    rw [crP_ng]
    split
    · exact ih
    · rfl
theorem chnR_ng : ∀ (ps R : List Pt), chnR (ngL R) (ngL ps) = ngL (chnR R ps)
  | [], _ => rfl
  | p :: r, R => by
    have := chnR_ng r (pushR R p)
    rw [← pushR_ng] at this
    exact this
theorem mem_ngL {ps : List Pt} {q : Pt} : q ∈ ngL ps ↔ ngP q ∈ ps := by
  unfold ngL
  rw [List.mem_map]
  constructor
  · rintro ⟨z, hz, rfl⟩
    rw [ngP_ng]
    exact hz
  · intro h
    exact ⟨_, h, ngP_ng q⟩
theorem asc_ng {s : List Pt} (h : Asc s) : Asc (ngL s.reverse) := by
  unfold Asc ngL
  rw [List.pairwise_map, List.pairwise_reverse]
  exact h.imp fun {a b} hab => by rw [plt_ng]; exact hab
/-- The lower and the upper half of the hull, the last point first. -/
def lowR (s : List Pt) : List Pt := chnR [] s
def uppR (s : List Pt) : List Pt := chnR [] s.reverse
theorem low_ok {s : List Pt} (h : Asc s) (h0 : s ≠ []) : ChI (fun q => q ∈ s) (lowR s) := chain_ok h h0
theorem upp_ok {s : List Pt} (h : Asc s) (h0 : s ≠ []) : ChI (fun q => ngP q ∈ s) (ngL (uppR s)) := by
  have h1 := chain_ok (asc_ng h) (by unfold ngL; simpa using h0)
  have e : ngL (uppR s) = chnR [] (ngL s.reverse) := by
    unfold uppR
    rw [← chnR_ng]
    rfl
  rw [e]
  exact h1.ext fun q => by rw [mem_ngL, List.mem_reverse]
/-- Places of a list, the last one first. -/
theorem cvx_at : ∀ {R : List Pt}, Cvx R → ∀ k, k + 2 < R.length → 0 < crP (R.getD (k + 2) (0, 0)) (R.getD (k + 1) (0, 0)) (R.getD k (0, 0))
  | [], _, k, h => by simp at h
  | [_], _, k, h => by simp at h
  | [_, _], _, k, h => absurd h (by simp only [List.length_cons, List.length_nil]; omega)
  | c :: b :: a :: r, hc, 0, _ => hc.1
  | c :: b :: a :: r, hc, k + 1, h => by
    have := cvx_at hc.2 k (by simpa using h)
    simpa using this
theorem lft_at {S : Pt → Prop} : ∀ {R : List Pt}, Lft S R → ∀ k, k + 1 < R.length → ∀ q, S q → 0 ≤ crP (R.getD (k + 1) (0, 0)) (R.getD k (0, 0)) q
  | [], _, k, h => by simp at h
  | [_], _, k, h => by simp at h
  | b :: a :: r, hl, 0, _ => hl.1
  | b :: a :: r, hl, k + 1, h => by
    have := lft_at hl.2 k (by simpa using h)
    simpa using this
theorem dsc_at {R : List Pt} (h : Dsc R) {i j : Nat} (hij : i < j) (hj : j < R.length) : pltB (R.getD j (0, 0)) (R.getD i (0, 0)) = true := by
  have := List.pairwise_iff_getElem.1 h i j (by omega) hj hij
  simpa [hj, show i < R.length by omega] using this
theorem getD_mem' {R : List Pt} {k : Nat} (h : k < R.length) : R.getD k (0, 0) ∈ R := by simp [h]
/-- On the line of an edge of a chain: between its ends. -/
theorem on_edge {S : Pt → Prop} {R : List Pt} (h : ChI S R) {k : Nat} (hk : k + 1 < R.length) {q : Pt} (hq : S q) (h0 : crP (R.getD (k + 1) (0, 0)) (R.getD k (0, 0)) q = 0) :
    ¬ pltB q (R.getD (k + 1) (0, 0)) = true ∧ ¬ pltB (R.getD k (0, 0)) q = true := by
  have hab := dsc_at h.dsc (i := k) (j := k + 1) (by omega) hk
  refine ⟨fun hlt => ?_, fun hlt => ?_⟩
  · by_cases h2 : k + 2 < R.length
    · have c := cvx_at h.cvx k h2
      have l := lft_at h.lft (k + 1) h2 q hq
      have hxa := dsc_at h.dsc (i := k + 1) (j := k + 2) (by omega) h2
      generalize R.getD k (0, 0) = b at *
      generalize R.getD (k + 1) (0, 0) = a at *
      generalize R.getD (k + 2) (0, 0) = x at *
      have e1 : crP x a b = cr2 (dif a x) (dif b a) := by unfold crP crossI cr2 dif; simp only; grind
      have e2 : crP x a q = cr2 (dif a q) (dif a x) := by unfold crP crossI cr2 dif; simp only; grind
      have e3 : crP a b q = cr2 (dif a q) (dif b a) := by unfold crP crossI cr2 dif; simp only; grind
      have := (cr_tr (plt_pos.1 hlt) (plt_pos.1 hxa) (plt_pos.1 hab) (by omega) (by omega)).2 (.inr (by omega))
      omega
    · obtain ⟨m, h1, h3⟩ := h.bot
      have hm : R.getD (k + 1) (0, 0) = m := by
        rw [List.getLast?_eq_getElem?] at h1
        have : R.length - 1 = k + 1 := by omega
        rw [this] at h1
        simp [List.getD, h1]
      rw [hm] at hlt
      rcases h3 q hq with rfl | h4
      · exact oP_irr hlt
      · exact oP_asym hlt h4
  · rcases Nat.eq_zero_or_pos k with rfl | h2
    · obtain ⟨m, h1, h3⟩ := h.top
      have hm : R.getD 0 (0, 0) = m := by
        match R, h1 with
        | _ :: _, h1 => simpa using h1
      rw [hm] at hlt
      rcases h3 q hq with rfl | h4
      · exact oP_irr hlt
      · exact oP_asym hlt h4
    · obtain ⟨k, rfl⟩ : ∃ j, k = j + 1 := ⟨k - 1, by omega⟩
      have c := cvx_at h.cvx k (by omega)
      have l := lft_at h.lft k (by omega) q hq
      have hbc := dsc_at h.dsc (i := k) (j := k + 1) (by omega) (by omega)
      generalize R.getD k (0, 0) = c' at *
      generalize R.getD (k + 1) (0, 0) = b at *
      generalize R.getD (k + 1 + 1) (0, 0) = a at *
      have e0 : crP (R.getD (k + 2) (0, 0)) b c' = crP (R.getD (k + 2) (0, 0)) b c' := rfl
      have e1 : crP a b c' = cr2 (dif b a) (dif c' b) := by unfold crP crossI cr2 dif; simp only; grind
      have e2 : crP b c' q = cr2 (dif c' b) (dif q b) := rfl
      have e3 : crP a b q = cr2 (dif b a) (dif q b) := by unfold crP crossI cr2 dif; simp only; grind
      have := (cr_tr (plt_pos.1 hab) (plt_pos.1 hbc) (plt_pos.1 hlt) (by omega) (by omega)).2 (.inl (by omega))
      omega
/-- A point of a chain on the line of an edge: an end. -/
theorem on_own {S : Pt → Prop} {R : List Pt} (h : ChI S R) {k : Nat} (hk : k + 1 < R.length) {q : Pt} (hq : q ∈ R) (h0 : crP (R.getD (k + 1) (0, 0)) (R.getD k (0, 0)) q = 0) : q = R.getD (k + 1) (0, 0) ∨ q = R.getD k (0, 0) := by
  obtain ⟨h1, h2⟩ := on_edge h hk (h.mem q hq) h0
  obtain ⟨j, hj, hjq⟩ := List.getElem_of_mem hq
  have ej : R.getD j (0, 0) = q := by simp [hj, hjq]
  rw [← ej] at h1 h2 ⊢
  rcases Nat.lt_or_ge j k with c | c
  · exact absurd (dsc_at h.dsc c (by omega)) h2
  · rcases Nat.lt_or_ge (k + 1) j with d | d
    · exact absurd (dsc_at h.dsc d hj) h1
    · have : j = k ∨ j = k + 1 := by omega
      rcases this with rfl | rfl
      · exact .inr rfl
      · exact .inl rfl
/-- A point of the other half on the line of an edge: an end. -/
theorem on_other {s : List Pt} {R U : List Pt} (h : ChI (fun q => q ∈ s) R) (g : ChI (fun q => ngP q ∈ s) (ngL U)) {k : Nat} (hk : k + 1 < R.length) {q : Pt} (hq : q ∈ U) (h0 : crP (R.getD (k + 1) (0, 0)) (R.getD k (0, 0)) q = 0) : q = R.getD (k + 1) (0, 0) ∨ q = R.getD k (0, 0) := by
  have hqs : q ∈ s := by
    have := g.mem (ngP q) (mem_ngL.2 (by rw [ngP_ng]; exact hq))
    rw [ngP_ng] at this
    exact this
  obtain ⟨h1, h2⟩ := on_edge h hk hqs h0
  rcases oP_tri q (R.getD (k + 1) (0, 0)) with e | e | ea
  · exact .inl e
  · exact absurd e h1
  rcases oP_tri q (R.getD k (0, 0)) with e | eb | e
  · exact .inr e
  rotate_left
  · exact absurd e h2
  exfalso
  have ha : R.getD (k + 1) (0, 0) ∈ s := h.mem _ (getD_mem' hk)
  have hb : R.getD k (0, 0) ∈ s := h.mem _ (getD_mem' (by omega))
  generalize R.getD (k + 1) (0, 0) = a at *
  generalize R.getD k (0, 0) = b at *
  -- the neighbours in the other half
  obtain ⟨j, hj, hjq⟩ := List.getElem_of_mem hq
  have hlen : (ngL U).length = U.length := by unfold ngL; simp
  have ej : ∀ i, i < U.length → (ngL U).getD i (0, 0) = ngP (U.getD i (0, 0)) := fun i hi => by unfold ngL; simp [hi]
  have eq' : U.getD j (0, 0) = q := by simp [hj, hjq]
  have j0 : 0 < j := by
    rcases Nat.eq_zero_or_pos j with rfl | c
    · exfalso
      obtain ⟨m, m1, m2⟩ := g.top
      have em : ngP q = m := by
        match U, hj, hjq, m1 with
        | x :: t, _, hjq, m1 =>
          have e1 : x = q := by simpa using hjq
          have e2 : ngP x = m := by simpa [ngL] using m1
          rw [← e1]
          exact e2
      rcases m2 (ngP a) (by show ngP (ngP a) ∈ s; rw [ngP_ng]; exact ha) with e | e
      · have := congrArg ngP e
        rw [← em, ngP_ng, ngP_ng] at this
        subst this
        exact oP_irr ea
      · rw [← em, plt_ng] at e
        exact oP_asym ea e
    · exact c
  have j1 : j + 1 < U.length := by
    rcases Nat.lt_or_ge (j + 1) U.length with c | c
    · exact c
    · exfalso
      obtain ⟨m, m1, m2⟩ := g.bot
      have em : ngP q = m := by
        rw [List.getLast?_eq_getElem?, hlen] at m1
        have : U.length - 1 = j := by omega
        rw [this] at m1
        have := ej j hj
        rw [eq'] at this
        rw [← this]
        simp [List.getD, m1]
      rcases m2 (ngP b) (by show ngP (ngP b) ∈ s; rw [ngP_ng]; exact hb) with e | e
      · have := congrArg ngP e
        rw [← em, ngP_ng, ngP_ng] at this
        subst this
        exact oP_irr eb
      · rw [← em, plt_ng] at e
        exact oP_asym eb e
  obtain ⟨i, rfl⟩ : ∃ i, j = i + 1 := ⟨j - 1, by omega⟩
  have c := cvx_at g.cvx i (by omega)
  have l1 := lft_at g.lft i (by omega)
  have l2 := lft_at g.lft (i + 1) (by omega)
  have d1 := dsc_at g.dsc (i := i) (j := i + 1) (by omega) (by omega)
  have d2 := dsc_at g.dsc (i := i + 1) (j := i + 2) (by omega) (by omega)
  rw [ej _ (by omega), ej _ (by omega), ej _ (by omega), crP_ng, eq'] at c
  rw [ej _ (by omega), ej _ (by omega), plt_ng, eq'] at d1 d2
  have l1a := l1 (ngP a) (by show ngP (ngP a) ∈ s; rw [ngP_ng]; exact ha)
  have l1b := l1 (ngP b) (by show ngP (ngP b) ∈ s; rw [ngP_ng]; exact hb)
  have l2a := l2 (ngP a) (by show ngP (ngP a) ∈ s; rw [ngP_ng]; exact ha)
  have l2b := l2 (ngP b) (by show ngP (ngP b) ∈ s; rw [ngP_ng]; exact hb)
  rw [ej _ (by omega), ej _ (by omega), crP_ng, eq'] at l1a l1b l2a l2b
  clear l1 l2
  generalize U.getD i (0, 0) = y at *
  generalize U.getD (i + 2) (0, 0) = z at *
  -- y before q before z
  have e1 : crP z q y = cr2 (dif z q) (dif q y) := by unfold crP crossI cr2 dif; simp only; grind
  have e2 : crP z q b = cr2 (dif b q) (dif z q) := by unfold crP crossI cr2 dif; simp only; grind
  have e3 : crP q y a = cr2 (dif q y) (dif q a) := by unfold crP crossI cr2 dif; simp only; grind
  have e4 : crP a b q = cr2 (dif b q) (dif q a) := by unfold crP crossI cr2 dif; simp only; grind
  have t1 := (cr_tr (plt_pos.1 eb) (plt_pos.1 d2) (plt_pos.1 d1) (by omega) (by omega)).2 (.inr (by omega))
  have t2 := (cr_tr (plt_pos.1 eb) (plt_pos.1 d1) (plt_pos.1 ea) (by omega) (by omega)).2 (.inl (by omega))
  omega
end Go.Proofs.Ytieibbdfdepmbaa
