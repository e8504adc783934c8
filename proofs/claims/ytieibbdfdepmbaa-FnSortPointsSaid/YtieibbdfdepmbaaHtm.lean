/-
  A linear function is largest at a vertex of the hull; lists without equal points. Written by an AI agent.
-/
import Derived.Test.YtieibbdfdepmbaaHtg
namespace Go.Proofs.Ytieibbdfdepmbaa
set_option linter.all false
open Go.RowKit

theorem nodup_le : ∀ {l m : List Pt}, l.Nodup → (∀ x ∈ l, x ∈ m) → l.length ≤ m.length
  | [], _, _, _ => Nat.zero_le _
  | x :: l, m, hn, hs => by
    have hn' := List.nodup_cons.1 hn
    have hx : x ∈ m := hs x (by simp)
    have := nodup_le (l := l) (m := m.erase x) hn'.2 fun y hy => by
      have : y ≠ x := fun e => hn'.1 (e ▸ hy)
      exact (List.mem_erase_of_ne this).2 (hs y (List.mem_cons_of_mem _ hy))
    rw [List.length_erase_of_mem hx] at this
    have hp : 0 < m.length := List.length_pos_of_mem hx
    simp only [List.length_cons]
    omega
theorem hul_le {s : List Pt} (h : Asc s) : (hulL s).length ≤ s.length := nodup_le (hul_nodup h) fun _ hx => hul_in h hx
/-- A value along a direction. -/
def dirV (dx dy : Int) (p : Pt) : Int := p.1 * dx + p.2 * dy
theorem fan_step {f : Nat → Int} (h1 : 0 ≤ f 1) : ∀ m, f (m + 2) ≤ 0 → ∃ i, 1 ≤ i ∧ i + 1 ≤ m + 2 ∧ 0 ≤ f i ∧ f (i + 1) ≤ 0
  | 0, h => ⟨1, by omega, by omega, h1, h⟩
  | m + 1, h => by
    by_cases c : f (m + 2) ≤ 0
    · obtain ⟨i, a, b, d, e⟩ := fan_step h1 m c
      exact ⟨i, a, by omega, d, e⟩
    · exact ⟨m + 2, by omega, by omega, by omega, h⟩
/-- A point on the left of all edges is in a triangle around the first vertex. -/
theorem fan_tri {h : List Pt} (H : CvH h) {q : Pt} (hq : ∀ j, j < h.length → 0 ≤ crP (h.getD j (0, 0)) (nxP h j) q) :
    ∃ i, 1 ≤ i ∧ i + 1 < h.length ∧ 0 ≤ crP (h.getD 0 (0, 0)) (h.getD i (0, 0)) q ∧ 0 ≤ crP (h.getD i (0, 0)) (h.getD (i + 1) (0, 0)) q ∧ 0 ≤ crP (h.getD (i + 1) (0, 0)) (h.getD 0 (0, 0)) q := by
  have h3 := H.three
  have nx : ∀ i, i + 1 < h.length → nxP h i = h.getD (i + 1) (0, 0) := fun i hi => by unfold nxP; rw [Nat.mod_eq_of_lt hi]
  have neg : ∀ i, crP (h.getD i (0, 0)) (h.getD 0 (0, 0)) q = -crP (h.getD 0 (0, 0)) (h.getD i (0, 0)) q := fun i => by unfold crP crossI; grind
  have e1 : 0 ≤ crP (h.getD 0 (0, 0)) (h.getD 1 (0, 0)) q := by
    have := hq 0 (by omega)
    rwa [nx 0 (by omega)] at this
  obtain ⟨m, hm⟩ : ∃ m, h.length = m + 3 := ⟨h.length - 3, by omega⟩
  have e2 : crP (h.getD 0 (0, 0)) (h.getD (m + 2) (0, 0)) q ≤ 0 := by
    have := hq (m + 2) (by omega)
    have e : nxP h (m + 2) = h.getD 0 (0, 0) := by unfold nxP; rw [hm, Nat.mod_self]
    rw [e, neg] at this
    omega
  obtain ⟨i, a, b, c, d⟩ := fan_step (f := fun i => crP (h.getD 0 (0, 0)) (h.getD i (0, 0)) q) e1 m e2
  refine ⟨i, a, by omega, c, ?_, ?_⟩
  · have := hq i (by omega)
    rwa [nx i (by omega)] at this
  · rw [neg]
    omega
theorem tri_pos {h : List Pt} (H : CvH h) {i : Nat} (h1 : 1 ≤ i) (hi : i + 1 < h.length) : 0 < crP (h.getD 0 (0, 0)) (h.getD i (0, 0)) (h.getD (i + 1) (0, 0)) := by
  have := cvh_left H (j := i) (k := 0) (by omega) (by omega) (by omega) (by rw [Nat.mod_eq_of_lt (by omega)]; omega)
  have e : nxP h i = h.getD (i + 1) (0, 0) := by unfold nxP; rw [Nat.mod_eq_of_lt (by omega)]
  rw [e] at this
  have r : crP (h.getD 0 (0, 0)) (h.getD i (0, 0)) (h.getD (i + 1) (0, 0)) = crP (h.getD i (0, 0)) (h.getD (i + 1) (0, 0)) (h.getD 0 (0, 0)) := by unfold crP crossI; grind
  omega
theorem bary_dir (a b c q : Pt) (dx dy : Int) : crP a b c * dirV dx dy q = crP b c q * dirV dx dy a + crP c a q * dirV dx dy b + crP a b q * dirV dx dy c := by
  unfold crP crossI dirV
  grind
theorem bary_sum (a b c q : Pt) : crP a b c = crP b c q + crP c a q + crP a b q := by
  unfold crP crossI
  grind
theorem le_of_bary {s al be ga x y z q M : Int} (hs : 0 < s) (h1 : 0 ≤ al) (h2 : 0 ≤ be) (h3 : 0 ≤ ga) (he : s = al + be + ga) (hq : s * q = al * x + be * y + ga * z) (hx : x ≤ M) (hy : y ≤ M) (hz : z ≤ M) : q ≤ M := by
  have p1 := Int.mul_le_mul_of_nonneg_left hx h1
  have p2 := Int.mul_le_mul_of_nonneg_left hy h2
  have p3 := Int.mul_le_mul_of_nonneg_left hz h3
  have : s * q ≤ s * M := by
    rw [hq, he, Int.add_mul, Int.add_mul]
    omega
  exact Int.le_of_mul_le_mul_left this hs
theorem le_of_bary2 {s al be x y q M : Int} (hs : 0 < s) (h1 : 0 ≤ al) (h2 : 0 ≤ be) (he : s = al + be) (hq : s * q = al * x + be * y) (hx : x ≤ M) (hy : y ≤ M) : q ≤ M := by
  have p1 := Int.mul_le_mul_of_nonneg_left hx h1
  have p2 := Int.mul_le_mul_of_nonneg_left hy h2
  have : s * q ≤ s * M := by
    rw [hq, he, Int.add_mul]
    omega
  exact Int.le_of_mul_le_mul_left this hs
/-- Inside of a strictly convex ring no point is farther in a direction than all vertices. -/
theorem cvh_max {h : List Pt} (H : CvH h) {q : Pt} (hq : ∀ j, j < h.length → 0 ≤ crP (h.getD j (0, 0)) (nxP h j) q) {dx dy M : Int} (hM : ∀ v ∈ h, dirV dx dy v ≤ M) : dirV dx dy q ≤ M := by
  obtain ⟨i, i1, i2, g1, g2, g3⟩ := fan_tri H hq
  exact le_of_bary (tri_pos H i1 i2) g2 g3 g1 (bary_sum _ _ _ _) (bary_dir _ _ _ q dx dy) (hM _ (getD_mem' (by omega))) (hM _ (getD_mem' (by omega))) (hM _ (getD_mem' i2))
/-- A hull of less than three vertices: the points are between its ends. -/
theorem hul_short {s : List Pt} (h : Asc s) (h3 : 3 ≤ s.length) (hl : (hulL s).length < 3) : (lowR s).length = 2 ∧ (uppR s).length = 2 := by
  have h0 : s ≠ [] := by intro e; rw [e] at h3; simp at h3
  have q1 := low_len s
  have q2 := upp_len s
  have l1 : 2 ≤ (lowR s).length := by rw [q1]; exact chn_ge (by omega)
  have l2 : 2 ≤ (uppR s).length := by rw [q2]; exact chn_ge (by rw [revP_len]; omega)
  have e : (hulL s).length = ((lowR s).length - 1) + ((uppR s).length - 1) := by
    rw [hul_of (by omega)]
    simp
  omega
theorem hul_max {s : List Pt} (h : Asc s) {dx dy M : Int} (hM : ∀ v ∈ hulL s, dirV dx dy v ≤ M) : ∀ q ∈ s, dirV dx dy q ≤ M := by
  intro q hq
  by_cases h3 : 3 ≤ s.length
  rotate_left
  · have e : hulL s = s := by unfold hulL; rw [if_pos (by omega)]
    exact hM q (by rw [e]; exact hq)
  by_cases hl : 3 ≤ (hulL s).length
  · exact cvh_max (hul_cvh h hl) (fun j hj => hul_left h h3 hj hq) hM
  · have h0 : s ≠ [] := by intro e; rw [e] at h3; simp at h3
    obtain ⟨k1, k2⟩ := hul_short h h3 (by omega)
    obtain ⟨_, _, e1, e2, t1, t2⟩ := hul_ends h h0
    rw [k2] at e1
    rw [k1] at e2
    have g1 := lft_at (low_ok h h0).lft 0 (by omega) q hq
    have g2 := lft_at (upp_ok h h0).lft 0 (by rw [ngL_len]; omega) (ngP q) (by show ngP (ngP q) ∈ s; rw [ngP_ng]; exact hq)
    rw [ngL_at (by omega), ngL_at (by omega), crP_ng, ← e1, e2] at g2
    have ma : (lowR s).getD 1 (0, 0) ∈ hulL s := low_hul h h3 (getD_mem' (by omega))
    have mb : (lowR s).getD 0 (0, 0) ∈ hulL s := low_hul h h3 (getD_mem' (by omega))
    have Ma := hM _ ma
    have Mb := hM _ mb
    rw [e2] at t2
    have hab := dsc_at (low_ok h h0).dsc (i := 0) (j := 1) (by omega) (by omega)
    have u1 := t1 q hq
    have u2 := t2 q hq
    simp only [Nat.zero_add] at g1 g2 u1 u2 hab Ma Mb
    have hs : (2 - 1 : Nat) = 1 := rfl
    rw [hs] at *
    generalize (lowR s).getD 0 (0, 0) = b at *
    generalize (lowR s).getD 1 (0, 0) = a at *
    have z : crP a b q = 0 := by
      have : crP b a q = -crP a b q := by unfold crP crossI; grind
      omega
    obtain ⟨a1, a2⟩ := a
    obtain ⟨b1, b2⟩ := b
    obtain ⟨x, y⟩ := q
    have o1 : x = b1 ∧ y = b2 ∨ (x < b1 ∨ x = b1 ∧ y < b2) := by
      rcases u1 with u | u
      · exact .inl (Prod.mk.inj u)
      · exact .inr (pltB_iff.1 u)
    have o2 : x = a1 ∧ y = a2 ∨ (a1 < x ∨ a1 = x ∧ a2 < y) := by
      rcases u2 with u | u
      · exact .inl (Prod.mk.inj u)
      · exact .inr (pltB_iff.1 u)
    have o3 := pltB_iff.1 hab
    unfold dirV at *
    unfold crP crossI at z
    simp only at *
    by_cases hx : a1 < b1
    · have key : (b1 - a1) * (x * dx + y * dy) = (b1 - x) * (a1 * dx + a2 * dy) + (x - a1) * (b1 * dx + b2 * dy) := by grind
      exact le_of_bary2 (by omega) (by omega) (by omega) (by omega) key Ma Mb
    · obtain rfl : a1 = b1 := by omega
      obtain rfl : x = a1 := by omega
      have key : (b2 - a2) * (x * dx + y * dy) = (b2 - y) * (x * dx + a2 * dy) + (y - a2) * (x * dx + b2 * dy) := by grind
      exact le_of_bary2 (by omega) (by omega) (by omega) (by omega) key Ma Mb
theorem two_of {l : List Pt} {x y : Pt} (hx : x ∈ l) (hy : y ∈ l) (h : x ≠ y) : 2 ≤ l.length := by
  match l, hx, hy with
  | [], hx, _ => cases hx
  | [z], hx, hy => exact absurd ((List.mem_singleton.1 hx).trans (List.mem_singleton.1 hy).symm) h
  | _ :: _ :: _, _, _ => simp
theorem hul_two_mem {s : List Pt} (h : Asc s) (h2 : 2 ≤ s.length) : ∃ x y, x ∈ hulL s ∧ y ∈ hulL s ∧ x ≠ y := by
  by_cases h3 : 3 ≤ s.length
  · have h0 : s ≠ [] := by intro e; rw [e] at h3; simp at h3
    have l1 : 2 ≤ (lowR s).length := by rw [low_len]; exact chn_ge h2
    refine ⟨_, _, low_hul h h3 (getD_mem' (k := 0) (by omega)), low_hul h h3 (getD_mem' (k := 1) (by omega)), fun e => ?_⟩
    exact absurd (nd_inj (dsc_nodup (low_ok h h0).dsc) (by omega) (by omega) e) (by decide)
  · have e : hulL s = s := by unfold hulL; rw [if_pos (by omega)]
    rw [e]
    exact ⟨_, _, getD_mem' (k := 0) (by omega), getD_mem' (k := 1) (by omega), fun e => absurd (nd_inj (asc_nodup h) (by omega) (by omega) e) (by decide)⟩
end Go.Proofs.Ytieibbdfdepmbaa
