/-
  Texts that the proof needs, merged. Written by an AI agent.
-/
import Derived.Orders
import Derived.Below
import Derived.OrdersIn
import Derived.Deep.LoopGhost
import Derived.WalkKit
import Derived.Laws.CopyRow
import Derived.Laws.AppendOwn
import Derived.Laws.Slices
import Derived.Laws.MakeOwn
import Derived.Test.YtbfoheblcoakiaaRows
import Derived.ProofKit
import Derived.OpenShut
import Derived.Carry
import Derived.IntWalk
import Derived.Test.YtbfoheblcoakiaaProg
import Derived.WalkSpells
import Derived.WalkLawsBesides
import Derived.Lib.Hide
import Derived.Deep.QuietTactic
import Derived.BigQuiet
import Derived.KernelRfl
import Derived.Deep.RegionHeld3
import Derived.LoopTactic
import Derived.Laws.StructEq
import Derived.Laws.Tables
import Derived.RangeFuncNested
import Derived.RangeFuncLeaves
import Derived.Deep.Slices
import Derived.Deep.Fields
import Derived.ChangeSame
import Derived.Deep.DeepCutAuto
import Derived.Shelf.SlSortCmp.WholeK
import Derived.Sort.Grow
import Derived.Shelf.SlSortCmp.NoneTotal
import Derived.Test.YtbfoheblcoakiaaZHullsApart4
set_option linter.all false
namespace Go.Proofs.Ytbfoheblcoakiaa
open Go.RowKit
theorem on_seg {a b c z q : Pt} (h0 : crP a b q = 0) (k1 : 0 < crP a b c) (f1 : 0 ≤ crP b c q) (k2 : 0 < crP z a b) (f2 : 0 ≤ crP z a q) : hasB a.1 a.2 b.1 b.2 q.1 q.2 = true := by
  obtain ⟨a1, a2⟩ := a
  obtain ⟨b1, b2⟩ := b
  obtain ⟨c1, c2⟩ := c
  obtain ⟨z1, z2⟩ := z
  obtain ⟨q1, q2⟩ := q
  unfold crP crossI at *
  simp only at *
  obtain ⟨d1, rfl⟩ : ∃ d, b1 = a1 + d := ⟨b1 - a1, by omega⟩
  obtain ⟨d2, rfl⟩ : ∃ d, b2 = a2 + d := ⟨b2 - a2, by omega⟩
  obtain ⟨w1, rfl⟩ : ∃ d, q1 = a1 + d := ⟨q1 - a1, by omega⟩
  obtain ⟨w2, rfl⟩ : ∃ d, q2 = a2 + d := ⟨q2 - a2, by omega⟩
  obtain ⟨x1, rfl⟩ : ∃ d, c1 = a1 + d1 + d := ⟨c1 - a1 - d1, by omega⟩
  obtain ⟨x2, rfl⟩ : ∃ d, c2 = a2 + d2 + d := ⟨c2 - a2 - d2, by omega⟩
  obtain ⟨y1, rfl⟩ : ∃ d, a1 = z1 + d := ⟨a1 - z1, by omega⟩
  obtain ⟨y2, rfl⟩ : ∃ d, a2 = z2 + d := ⟨a2 - z2, by omega⟩
  have g0 : d1 * w2 - d2 * w1 = 0 := by rw [← h0]; grind
  have g1 : 0 < d1 * x2 - d2 * x1 := by
    have : d1 * x2 - d2 * x1 = (z1 + y1 + d1 - (z1 + y1)) * (z2 + y2 + d2 + x2 - (z2 + y2)) - (z2 + y2 + d2 - (z2 + y2)) * (z1 + y1 + d1 + x1 - (z1 + y1)) := by grind
    omega
  have g2 : w1 * x2 - w2 * x1 ≤ d1 * x2 - d2 * x1 := by
    have : (d1 * x2 - d2 * x1) - (w1 * x2 - w2 * x1) = (z1 + y1 + d1 + x1 - (z1 + y1 + d1)) * (z2 + y2 + w2 - (z2 + y2 + d2)) - (z2 + y2 + d2 + x2 - (z2 + y2 + d2)) * (z1 + y1 + w1 - (z1 + y1 + d1)) := by grind
    omega
  have g3 : 0 < y1 * d2 - y2 * d1 := by
    have : y1 * d2 - y2 * d1 = (z1 + y1 - z1) * (z2 + y2 + d2 - z2) - (z2 + y2 - z2) * (z1 + y1 + d1 - z1) := by grind
    omega
  have g4 : 0 ≤ y1 * w2 - y2 * w1 := by
    have : y1 * w2 - y2 * w1 = (z1 + y1 - z1) * (z2 + y2 + w2 - z2) - (z2 + y2 - z2) * (z1 + y1 + w1 - z1) := by grind
    omega
  have t1 : (d1 * x2 - d2 * x1) * w1 = (w1 * x2 - w2 * x1) * d1 := by grind
  have t2 : (d1 * x2 - d2 * x1) * w2 = (w1 * x2 - w2 * x1) * d2 := by grind
  have t3 : (d1 * x2 - d2 * x1) * (y1 * w2 - y2 * w1) = (w1 * x2 - w2 * x1) * (y1 * d2 - y2 * d1) := by grind
  generalize d1 * x2 - d2 * x1 = k at *
  generalize w1 * x2 - w2 * x1 = t at *
  have t0 : 0 ≤ t := by
    rcases Int.lt_or_le t 0 with c | c
    · have m1 := Int.mul_neg_of_neg_of_pos c g3
      have m2 := Int.mul_nonneg (Int.le_of_lt g1) g4
      omega
    · exact c
  have e : k * k * (w1 * w1 + w2 * w2 - w1 * d1 - w2 * d2) = -(t * (k - t) * (d1 * d1 + d2 * d2)) := by
    have s1 : k * w1 * (k * w1) = t * d1 * (t * d1) := by rw [t1]
    have s2 : k * w2 * (k * w2) = t * d2 * (t * d2) := by rw [t2]
    have s3 : k * (k * w1) * d1 = k * (t * d1) * d1 := by rw [t1]
    have s4 : k * (k * w2) * d2 = k * (t * d2) * d2 := by rw [t2]
    grind
  have n1 : 0 ≤ t * (k - t) * (d1 * d1 + d2 * d2) := Int.mul_nonneg (Int.mul_nonneg t0 (by omega)) (by have := mul_sq d1; have := mul_sq d2; omega)
  have n2 : w1 * w1 + w2 * w2 - w1 * d1 - w2 * d2 ≤ 0 := by
    rcases Int.lt_or_le 0 (w1 * w1 + w2 * w2 - w1 * d1 - w2 * d2) with c | c
    · have := Int.mul_pos (Int.mul_pos g1 g1) c
      omega
    · exact c
  unfold hasB
  rw [Bool.and_eq_true]
  constructor
  · rw [beq_iff_eq]
    have : (z1 + y1 - (z1 + y1 + w1)) * (z2 + y2 + d2 - (z2 + y2 + w2)) - (z2 + y2 - (z2 + y2 + w2)) * (z1 + y1 + d1 - (z1 + y1 + w1)) = d1 * w2 - d2 * w1 := by grind
    rw [this]
    exact g0
  · refine decide_eq_true ?_
    have : (z1 + y1 - (z1 + y1 + w1)) * (z1 + y1 + d1 - (z1 + y1 + w1)) + (z2 + y2 - (z2 + y2 + w2)) * (z2 + y2 + d2 - (z2 + y2 + w2)) = w1 * w1 + w2 * w2 - w1 * d1 - w2 * d2 := by grind
    rw [this]
    exact n2
def hsF (ps : List Pt) (x y : Int) (j : Nat) : Bool := hasB (ps.getD j (0, 0)).1 (ps.getD j (0, 0)).2 (nxP ps j).1 (nxP ps j).2 x y
def rtF (ps : List Pt) (x y : Int) (j : Nat) : Bool :=
  !((decide (y < (ps.getD j (0, 0)).2)) == (decide (y < (nxP ps j).2))) && ((decide (y < (nxP ps j).2)) == decide (0 < crossI (ps.getD j (0, 0)).1 (ps.getD j (0, 0)).2 (nxP ps j).1 (nxP ps j).2 x y))
def plF (ps : List Pt) (x y : Int) : Nat → Int
  | 0 => -1
  | i + 1 => bif rtF ps x y i then 0 - plF ps x y i else plF ps x y i
theorem cv_nn {h : List Pt} (H : CvH h) {j : Nat} (hj : j < h.length) {v : Pt} (hv : v ∈ h) : 0 ≤ crP (h.getD j (0, 0)) (nxP h j) v := by
  by_cases e1 : v = h.getD j (0, 0)
  · rw [e1, crP_ba]; exact Int.le_refl _
  by_cases e2 : v = nxP h j
  · rw [e2, crP_bb]; exact Int.le_refl _
  exact Int.le_of_lt (H.left j hj v hv e1 e2)
theorem nx_mem {h : List Pt} {j : Nat} (hj : j < h.length) : nxP h j ∈ h := getD_mem' (Nat.mod_lt _ (by omega))
theorem prv {h : List Pt} {j : Nat} (hj : j < h.length) : ((j + h.length - 1) % h.length + 1) % h.length = j := by
  rcases Nat.eq_zero_or_pos j with e | e
  · subst e
    rw [Nat.zero_add, Nat.mod_eq_of_lt (show h.length - 1 < h.length by omega), show h.length - 1 + 1 = h.length by omega, Nat.mod_self]
  · rw [show j + h.length - 1 = (j - 1) + h.length by omega, Nat.add_mod_right, Nat.mod_eq_of_lt (show j - 1 < h.length by omega), show j - 1 + 1 = j by omega, Nat.mod_eq_of_lt hj]
theorem prv_lt {h : List Pt} {j : Nat} (hj : j < h.length) : (j + h.length - 1) % h.length < h.length := Nat.mod_lt _ (by omega)
theorem nx_prv {h : List Pt} {j : Nat} (hj : j < h.length) : nxP h ((j + h.length - 1) % h.length) = h.getD j (0, 0) := by
  unfold nxP
  rw [prv hj]
theorem on_ring {h : List Pt} (H : CvH h) {q : Pt} (hq : ∀ j, j < h.length → 0 ≤ crP (h.getD j (0, 0)) (nxP h j) q) {j : Nat} (hj : j < h.length) (h0 : crP (h.getD j (0, 0)) (nxP h j) q = 0) : hsF h q.1 q.2 j = true := by
  have h3 := H.three
  have n1 : (j + 1) % h.length < h.length := Nat.mod_lt _ (by omega)
  have e2 : ((j + 1) % h.length + 1) % h.length = (j + 2) % h.length := by rw [Nat.mod_add_mod]
  obtain ⟨x1, x2, x3⟩ := nx_ne H hj
  have k1 := cvh_left H (j := j) (k := (j + 2) % h.length) hj (Nat.mod_lt _ (by omega)) x2 x3
  have f1 := hq ((j + 1) % h.length) n1
  have f2 := hq _ (prv_lt hj)
  rw [nx_prv hj] at f2
  have hp := prv hj
  have hpl := prv_lt hj
  have k2 := cvh_left H (j := (j + h.length - 1) % h.length) (k := (j + 1) % h.length) hpl n1 (by
    intro e
    rw [← e] at hp
    rw [e2] at hp
    exact x2 hp) (by rw [hp]; exact x1)
  rw [nx_prv hj] at k2
  have e3 : nxP h ((j + 1) % h.length) = h.getD ((j + 2) % h.length) (0, 0) := by unfold nxP; rw [e2]
  rw [e3] at f1
  exact on_seg h0 k1 f1 k2 f2
theorem cross_has {a b q : Pt} (h0 : crP a b q = 0) (h1 : (a.2 ≤ q.2 ∧ q.2 < b.2) ∨ (b.2 ≤ q.2 ∧ q.2 < a.2)) : hasB a.1 a.2 b.1 b.2 q.1 q.2 = true := by
  obtain ⟨a1, a2⟩ := a
  obtain ⟨b1, b2⟩ := b
  obtain ⟨q1, q2⟩ := q
  unfold crP crossI at h0
  simp only at h0 h1
  obtain ⟨u, rfl⟩ : ∃ d, a1 = q1 + d := ⟨a1 - q1, by omega⟩
  obtain ⟨s, rfl⟩ : ∃ d, a2 = q2 + d := ⟨a2 - q2, by omega⟩
  obtain ⟨v, rfl⟩ : ∃ d, b1 = q1 + d := ⟨b1 - q1, by omega⟩
  obtain ⟨t, rfl⟩ : ∃ d, b2 = q2 + d := ⟨b2 - q2, by omega⟩
  have e : u * t = s * v := by
    have : (q1 + v - (q1 + u)) * (q2 - (q2 + s)) - (q2 + t - (q2 + s)) * (q1 - (q1 + u)) = u * t - s * v := by grind
    omega
  have st : s * t ≤ 0 := by
    rcases h1 with ⟨c, d⟩ | ⟨c, d⟩
    · have := Int.mul_nonneg (show 0 ≤ -s by omega) (show 0 ≤ t by omega)
      have e : -s * t = -(s * t) := Int.neg_mul _ _
      omega
    · have := Int.mul_nonneg (show 0 ≤ s by omega) (show 0 ≤ -t by omega)
      have e : s * -t = -(s * t) := Int.mul_neg _ _
      omega
  have uv : u * v ≤ 0 := by
    rcases Int.lt_or_le 0 (u * v) with c | c
    · exfalso
      rcases h1 with ⟨c1, c2⟩ | ⟨c1, c2⟩
      · have m1 := Int.mul_pos c (show 0 < t by omega)
        have m2 := Int.mul_nonneg (show 0 ≤ -s by omega) (mul_sq v)
        have e2 : u * v * t = -(-s * (v * v)) := by
          have : u * v * t = (u * t) * v := by grind
          rw [this, e]
          grind
        omega
      · have m1 := Int.mul_pos c (show 0 < s by omega)
        have m2 := Int.mul_nonneg (show 0 ≤ -t by omega) (mul_sq u)
        have e2 : u * v * s = -(-t * (u * u)) := by
          have : u * v * s = u * (s * v) := by grind
          rw [this, ← e]
          grind
        omega
    · exact c
  unfold hasB
  rw [Bool.and_eq_true]
  constructor
  · rw [beq_iff_eq]
    have : (q1 + u - q1) * (q2 + t - q2) - (q2 + s - q2) * (q1 + v - q1) = u * t - s * v := by grind
    rw [this]
    omega
  · refine decide_eq_true ?_
    have : (q1 + u - q1) * (q1 + v - q1) + (q2 + s - q2) * (q2 + t - q2) = u * v + s * t := by grind
    rw [this]
    omega
theorem mid_id (a b A B q : Pt) : (B.2 - A.2) * crP a b q = crP a b A * (B.2 - q.2) + crP a b B * (q.2 - A.2) + (b.2 - a.2) * crP A B q := by unfold crP crossI; grind
theorem crP_sw (a b q : Pt) : crP b a q = - crP a b q := by unfold crP crossI; grind
theorem two_id (a b A B : Pt) (y : Int) : (crP a b A * (B.2 - y) + crP a b B * (y - A.2)) + (crP A B a * (b.2 - y) + crP A B b * (y - a.2)) = 0 := by unfold crP crossI; grind
def upE (h : List Pt) (y : Int) (j : Nat) : Prop := (h.getD j (0, 0)).2 ≤ y ∧ y < (nxP h j).2
def dnE (h : List Pt) (y : Int) (j : Nat) : Prop := (nxP h j).2 ≤ y ∧ y < (h.getD j (0, 0)).2
theorem up_uniq {h : List Pt} (H : CvH h) {y : Int} {i k : Nat} (hi : i < h.length) (hk : k < h.length) (ui : upE h y i) (uk : upE h y k) : i = k := by
  have w := two_id (h.getD i (0, 0)) (nxP h i) (h.getD k (0, 0)) (nxP h k) y
  have a1 := cv_nn H hi (getD_mem' hk)
  have a2 := cv_nn H hi (nx_mem hk)
  have a3 := cv_nn H hk (getD_mem' hi)
  have a4 := cv_nn H hk (nx_mem hi)
  have m1 := Int.mul_nonneg a1 (show 0 ≤ (nxP h k).2 - y by have := uk.2; omega)
  have m2 := Int.mul_nonneg a2 (show 0 ≤ y - (h.getD k (0, 0)).2 by have := uk.1; omega)
  have m3 := Int.mul_nonneg a3 (show 0 ≤ (nxP h i).2 - y by have := ui.2; omega)
  have m4 := Int.mul_nonneg a4 (show 0 ≤ y - (h.getD i (0, 0)).2 by have := ui.1; omega)
  have z : crP (h.getD i (0, 0)) (nxP h i) (h.getD k (0, 0)) = 0 := by
    rcases Int.lt_or_le 0 (crP (h.getD i (0, 0)) (nxP h i) (h.getD k (0, 0))) with c | c
    · have := Int.mul_pos c (show 0 < (nxP h k).2 - y by have := uk.2; omega)
      omega
    · omega
  by_cases e1 : h.getD k (0, 0) = h.getD i (0, 0)
  · exact (nd_inj H.nodup hk hi e1).symm
  · by_cases e2 : h.getD k (0, 0) = nxP h i
    · exfalso
      have := uk.1
      have := ui.2
      rw [e2] at *
      omega
    · have := H.left i hi _ (getD_mem' hk) e1 e2
      omega
theorem dn_uniq {h : List Pt} (H : CvH h) {y : Int} {i k : Nat} (hi : i < h.length) (hk : k < h.length) (ui : dnE h y i) (uk : dnE h y k) : i = k := by
  have w := two_id (h.getD i (0, 0)) (nxP h i) (nxP h k) (h.getD k (0, 0)) y
  have a1 := cv_nn H hi (getD_mem' hk)
  have a2 := cv_nn H hi (nx_mem hk)
  have a3 := cv_nn H hk (getD_mem' hi)
  have a4 := cv_nn H hk (nx_mem hi)
  rw [crP_sw (h.getD k (0, 0)) (nxP h k), crP_sw (h.getD k (0, 0)) (nxP h k)] at w
  have m1 := Int.mul_nonneg a2 (show 0 ≤ (h.getD k (0, 0)).2 - y by have := uk.2; omega)
  have m2 := Int.mul_nonneg a1 (show 0 ≤ y - (nxP h k).2 by have := uk.1; omega)
  have m3 := Int.mul_nonneg a3 (show 0 ≤ y - (nxP h i).2 by have := ui.1; omega)
  have m4 := Int.mul_nonneg a4 (show 0 ≤ (h.getD i (0, 0)).2 - y by have := ui.2; omega)
  have e3 : -crP (h.getD k (0, 0)) (nxP h k) (h.getD i (0, 0)) * ((nxP h i).2 - y) = crP (h.getD k (0, 0)) (nxP h k) (h.getD i (0, 0)) * (y - (nxP h i).2) := by grind
  have e4 : -crP (h.getD k (0, 0)) (nxP h k) (nxP h i) * (y - (h.getD i (0, 0)).2) = crP (h.getD k (0, 0)) (nxP h k) (nxP h i) * ((h.getD i (0, 0)).2 - y) := by grind
  rw [e3, e4] at w
  have z : crP (h.getD i (0, 0)) (nxP h i) (nxP h k) = 0 := by
    rcases Int.lt_or_le 0 (crP (h.getD i (0, 0)) (nxP h i) (nxP h k)) with c | c
    · have := Int.mul_pos c (show 0 < (h.getD k (0, 0)).2 - y by have := uk.2; omega)
      omega
    · omega
  by_cases e1 : nxP h k = nxP h i
  · have := nd_inj H.nodup (Nat.mod_lt _ (by omega)) (Nat.mod_lt _ (by omega)) e1
    have p1 : (k + 1) % h.length = (i + 1) % h.length := this
    rcases Nat.lt_or_ge (k + 1) h.length with c | c <;> rcases Nat.lt_or_ge (i + 1) h.length with c' | c'
    · rw [Nat.mod_eq_of_lt c, Nat.mod_eq_of_lt c'] at p1; omega
    · rw [Nat.mod_eq_of_lt c, show i + 1 = h.length by omega, Nat.mod_self] at p1; omega
    · rw [Nat.mod_eq_of_lt c', show k + 1 = h.length by omega, Nat.mod_self] at p1; omega
    · omega
  · by_cases e2 : nxP h k = h.getD i (0, 0)
    · exfalso
      have := uk.1
      have := ui.2
      rw [e2] at *
      omega
    · have := H.left i hi _ (nx_mem hk) e2 e1
      omega
theorem hul_mid {s t : List Pt} (hs : Asc s) (ht : Asc t) (hts : ∀ q ∈ t, q ∈ s) (h : ∀ v ∈ hulL s, v ∈ t) : hulL t = hulL s := by
  by_cases h3 : 3 ≤ s.length
  · obtain ⟨x, y, hx, hy, hxy⟩ := hul_two_mem hs (by omega)
    exact hul_same hs ht (by omega) (two_of (h x hx) (h y hy) hxy) hts (fun z hz => h z (low_hul hs h3 hz)) fun z hz => h z (upp_hul hs h3 hz)
  · have e : hulL s = s := by unfold hulL; rw [if_pos (by omega)]
    rw [e] at h
    rw [asc_ext ht hs fun z => ⟨hts z, h z⟩]
def mvP (dx dy : Int) (p : Pt) : Pt := (p.1 + dx, p.2 + dy)
def mvL (dx dy : Int) (ps : List Pt) : List Pt := ps.map (mvP dx dy)
theorem crP_mv (dx dy : Int) (a b c : Pt) : crP (mvP dx dy a) (mvP dx dy b) (mvP dx dy c) = crP a b c := by unfold crP crossI mvP; simp only; grind
theorem plt_mv (dx dy : Int) (a b : Pt) : pltB (mvP dx dy a) (mvP dx dy b) = pltB a b := by
  rw [Bool.eq_iff_iff, pltB_iff, pltB_iff]
  unfold mvP
  simp only
  omega
theorem pushR_mv (dx dy : Int) : ∀ (R : List Pt) (p : Pt), pushR (mvL dx dy R) (mvP dx dy p) = mvL dx dy (pushR R p)
  | [], _ => rfl
  | [_], _ => rfl
  | b :: a :: r, p => by
    have ih := pushR_mv dx dy (a :: r) p
    show (if crP (mvP dx dy a) (mvP dx dy b) (mvP dx dy p) ≤ 0 then pushR (mvP dx dy a :: mvL dx dy r) (mvP dx dy p) else mvP dx dy p :: mvP dx dy b :: mvP dx dy a :: mvL dx dy r) = mvL dx dy (if crP a b p ≤ 0 then pushR (a :: r) p else p :: b :: a :: r)
    rw [crP_mv]
    split
    · exact ih
    · rfl
theorem chnR_mv (dx dy : Int) : ∀ (ps R : List Pt), chnR (mvL dx dy R) (mvL dx dy ps) = mvL dx dy (chnR R ps)
  | [], _ => rfl
  | p :: r, R => by
    have := chnR_mv dx dy r (pushR R p)
    rw [← pushR_mv] at this
    exact this
theorem mvL_len (dx dy : Int) (ps : List Pt) : (mvL dx dy ps).length = ps.length := by unfold mvL; simp
theorem srtL_mv (dx dy : Int) (ps : List Pt) : srtL (mvL dx dy ps) = mvL dx dy (srtL ps) := by
  refine asc_ext (srtL_asc _) ?_ fun z => ?_
  · unfold Asc mvL
    rw [List.pairwise_map]
    exact (srtL_asc ps).imp fun {a b} hab => by rw [plt_mv]; exact hab
  · rw [srtL_mem]
    unfold mvL
    simp only [List.mem_map, srtL_mem]
theorem hul_mv (dx dy : Int) (s : List Pt) : hulL (mvL dx dy s) = mvL dx dy (hulL s) := by
  by_cases h2 : 2 ≤ s.length
  · rw [hul_of h2, hul_of (by rw [mvL_len]; exact h2)]
    have e1 : lowR (mvL dx dy s) = mvL dx dy (lowR s) := chnR_mv dx dy s []
    have e2 : uppR (mvL dx dy s) = mvL dx dy (uppR s) := by
      unfold uppR
      rw [← chnR_mv]
      unfold mvL
      rw [← List.map_reverse]
      rfl
    rw [e1, e2, mvL_len, mvL_len]
    unfold mvL
    simp only [List.map_append, List.map_take, List.map_reverse]
  · unfold hulL
    rw [if_pos (by rw [mvL_len]; omega), if_pos (by omega)]
def adP (p v : Pt) : Pt := (p.1 + v.1, p.2 + v.2)
def SupP (S : Pt → Prop) (d p : Pt) : Prop := ∀ q, S q → 0 ≤ cr2 d (dif q p)
def AftP (l : List Pt) (d : Pt) : Prop := ∀ x ∈ l, 0 ≤ cr2 x d
def AftS (l : List Pt) (d : Pt) : Prop := ∀ x ∈ l, 0 < cr2 x d
def LCh (S : Pt → Prop) : List Pt → Pt → List Pt → Prop
  | l, p, [] => S p ∧ ∀ d, posV d → AftP l d → SupP S d p
  | l, p, v :: vs => S p ∧ posV v ∧ AftS l v ∧ (∀ d, posV d → AftP l d → 0 ≤ cr2 d v → SupP S d p) ∧ LCh S [v] (adP p v) vs
def mrg : List Pt → List Pt → List Pt
  | [], v => v
  | u :: us, [] => u :: us
  | u :: us, v :: vs => if 0 < cr2 u v then u :: mrg us (v :: vs) else if cr2 u v < 0 then v :: mrg (u :: us) vs else adP u v :: mrg us vs
termination_by u v => u.length + v.length
def cumP : Pt → List Pt → List Pt
  | p, [] => [p]
  | p, v :: vs => p :: cumP (adP p v) vs
def endP : Pt → List Pt → Pt
  | p, [] => p
  | p, v :: vs => endP (adP p v) vs
def sdL : List Pt → List Pt
  | a :: b :: t => dif b a :: sdL (b :: t)
  | _ => []
def smS (S T : Pt → Prop) : Pt → Prop := fun q => ∃ a b, S a ∧ T b ∧ q = adP a b
theorem posV_add {u v : Pt} (hu : posV u) (hv : posV v) : posV (adP u v) := by
  unfold posV adP at *
  simp only
  omega
theorem cr2_anti (u v : Pt) : cr2 u v = - cr2 v u := by unfold cr2; grind
theorem cr2_self (u : Pt) : cr2 u u = 0 := by unfold cr2; grind
theorem cr2_addr (d u v : Pt) : cr2 d (adP u v) = cr2 d u + cr2 d v := by unfold cr2 adP; simp only; grind
theorem cr2_addl (u v d : Pt) : cr2 (adP u v) d = cr2 u d + cr2 v d := by unfold cr2 adP; simp only; grind
theorem adP_comm (a b : Pt) : adP a b = adP b a := by unfold adP; simp only [Int.add_comm]
theorem dif_ad (p v : Pt) : dif (adP p v) p = v := by unfold dif adP; ext <;> simp <;> omega
theorem ad_dif (p q : Pt) : adP p (dif q p) = q := by unfold dif adP; ext <;> simp <;> omega
theorem dif_add (a b p q : Pt) : dif (adP a b) (adP p q) = adP (dif a p) (dif b q) := by unfold dif adP; ext <;> simp <;> omega
theorem ad_ad (p q u v : Pt) : adP (adP p q) (adP u v) = adP (adP p u) (adP q v) := by unfold adP; ext <;> simp <;> omega
theorem ad_l (p q u : Pt) : adP (adP p q) u = adP (adP p u) q := by unfold adP; ext <;> simp <;> omega
theorem ad_r (p q u : Pt) : adP (adP p q) u = adP p (adP q u) := by unfold adP; ext <;> simp <;> omega
theorem sup_add {S T : Pt → Prop} {d p q : Pt} (h : SupP S d p) (g : SupP T d q) : SupP (smS S T) d (adP p q) := by
  rintro z ⟨a, b, ha, hb, rfl⟩
  rw [dif_add, cr2_addr]
  have := h a ha
  have := g b hb
  omega
theorem LCh.at {S : Pt → Prop} : ∀ {u : List Pt} {l : List Pt} {p : Pt}, LCh S l p u → S p
  | [], _, _, h => h.1
  | _ :: _, _, _, h => h.1
theorem aft_tr {x u d : Pt} (hx : posV x) (hu : posV u) (hd : posV d) (h1 : 0 ≤ cr2 x u) (h2 : 0 ≤ cr2 u d) : 0 ≤ cr2 x d := (cr_tr hx hu hd h1 h2).1
theorem lch_mrg {S T : Pt → Prop} : ∀ (n : Nat) (u v : List Pt), u.length + v.length ≤ n → ∀ {l k m : List Pt} {p q : Pt}, (∀ x ∈ l, posV x) → (∀ x ∈ k, posV x) → (∀ x ∈ m, posV x) → (∀ d, posV d → AftP m d → AftP l d ∧ AftP k d) →
    (∀ x t, u = x :: t → AftS m x) → (∀ x t, v = x :: t → AftS m x) → LCh S l p u → LCh T k q v → LCh (smS S T) m (adP p q) (mrg u v)
  | n, [], [], _, l, k, m, p, q, hl, hk, hm, ha, hu, hv, h, g => by
    rw [mrg]
    exact ⟨⟨p, q, h.1, g.1, rfl⟩, fun d hd hda => sup_add (h.2 d hd (ha d hd hda).1) (g.2 d hd (ha d hd hda).2)⟩
  | 0, _ :: _, _, hn, l, k, m, p, q, hl, hk, hm, ha, hu, hv, h, g => by simp at hn
  | 0, [], _ :: _, hn, l, k, m, p, q, hl, hk, hm, ha, hu, hv, h, g => by simp at hn
  | n + 1, [], v :: vs, hn, l, k, m, p, q, hl, hk, hm, ha, hu, hv, h, g => by
    have ih := @lch_mrg S T n [] vs (by simp at hn ⊢; omega)
    rw [mrg] at ih ⊢
    obtain ⟨g1, g2, g3, g4, g5⟩ := g
    have am := hv v vs rfl
    have amp : AftP m v := fun x hx => Int.le_of_lt (am x hx)
    refine ⟨⟨p, q, h.1, g1, rfl⟩, g2, am, fun d hd hda h0 => sup_add (h.2 d hd (ha d hd hda).1) (g4 d hd (ha d hd hda).2 h0), ?_⟩
    rw [ad_r]
    refine ih (l := l) (k := [v]) (m := [v]) hl (fun x hx => by rw [List.mem_singleton.1 hx]; exact g2) (fun x hx => by rw [List.mem_singleton.1 hx]; exact g2) (fun d hd hda => ⟨fun x hx => ?_, hda⟩) (fun x t e => nomatch e) (fun x t e => ?_) h g5
    · exact aft_tr (hl x hx) g2 hd ((ha v g2 amp).1 x hx) (hda v (by simp))
    · subst e
      exact g5.2.2.1
  | n + 1, u :: us, [], hn, l, k, m, p, q, hl, hk, hm, ha, hu, hv, h, g => by
    have ih := @lch_mrg S T n us [] (by simp at hn ⊢; omega)
    have e0 : mrg us [] = us := by cases us <;> rw [mrg]
    rw [e0] at ih
    rw [mrg]
    obtain ⟨g1, g2, g3, g4, g5⟩ := h
    have am := hu u us rfl
    have amp : AftP m u := fun x hx => Int.le_of_lt (am x hx)
    refine ⟨⟨p, q, g1, g.1, rfl⟩, g2, am, fun d hd hda h0 => sup_add (g4 d hd (ha d hd hda).1 h0) (g.2 d hd (ha d hd hda).2), ?_⟩
    rw [ad_l]
    refine ih (l := [u]) (k := k) (m := [u]) (fun x hx => by rw [List.mem_singleton.1 hx]; exact g2) hk (fun x hx => by rw [List.mem_singleton.1 hx]; exact g2) (fun d hd hda => ⟨hda, fun x hx => ?_⟩) (fun x t e => ?_) (fun x t e => nomatch e) g5 g
    · exact aft_tr (hk x hx) g2 hd ((ha u g2 amp).2 x hx) (hda u (by simp))
    · subst e
      exact g5.2.2.1
  | n + 1, u :: us, v :: vs, hn, l, k, m, p, q, hl, hk, hm, ha, hu, hv, h, g => by
    have hu1 := hu u us rfl
    have hv1 := hv v vs rfl
    have hup : AftP m u := fun x hx => Int.le_of_lt (hu1 x hx)
    have hvp : AftP m v := fun x hx => Int.le_of_lt (hv1 x hx)
    have h' := h
    have g' := g
    obtain ⟨h1, h2, h3, h4, h5⟩ := h'
    obtain ⟨g1, g2, g3, g4, g5⟩ := g'
    have sg : ∀ w : Pt, posV w → ∀ x ∈ [w], posV x := fun w hw x hx => by rw [List.mem_singleton.1 hx]; exact hw
    rw [mrg]
    split
    · rename_i c
      refine ⟨⟨p, q, h1, g1, rfl⟩, h2, hu1, fun d hd hda h0 => sup_add (h4 d hd (ha d hd hda).1 h0) (g4 d hd (ha d hd hda).2 (aft_tr hd h2 g2 h0 (Int.le_of_lt c))), ?_⟩
      rw [ad_l]
      refine lch_mrg n us (v :: vs) (by simp at hn ⊢; omega) (sg u h2) hk (sg u h2) (fun d hd hda => ⟨hda, fun x hx => aft_tr (hk x hx) h2 hd ((ha u h2 hup).2 x hx) (hda u (by simp))⟩) (fun x t e => ?_) (fun x t e y hy => ?_) h5 g
      · subst e
        exact h5.2.2.1
      · rw [List.mem_singleton.1 hy, ← (List.cons.inj e).1]
        exact c
    · split
      · rename_i c c'
        rw [cr2_anti] at c'
        have c2 : 0 < cr2 v u := by omega
        refine ⟨⟨p, q, h1, g1, rfl⟩, g2, hv1, fun d hd hda h0 => sup_add (h4 d hd (ha d hd hda).1 (aft_tr hd g2 h2 h0 (Int.le_of_lt c2))) (g4 d hd (ha d hd hda).2 h0), ?_⟩
        rw [ad_r]
        refine lch_mrg n (u :: us) vs (by simp at hn ⊢; omega) hl (sg v g2) (sg v g2) (fun d hd hda => ⟨fun x hx => aft_tr (hl x hx) g2 hd ((ha v g2 hvp).1 x hx) (hda v (by simp)), hda⟩) (fun x t e y hy => ?_) (fun x t e => ?_) h g5
        · rw [List.mem_singleton.1 hy, ← (List.cons.inj e).1]
          exact c2
        · subst e
          exact g5.2.2.1
      · rename_i c c'
        have c0 : cr2 u v = 0 := by omega
        have c1 : cr2 v u = 0 := by rw [cr2_anti, c0]; rfl
        have hw := posV_add h2 g2
        have e1 : cr2 u (adP u v) = 0 := by rw [cr2_addr, cr2_self, c0]; rfl
        have e2 : cr2 v (adP u v) = 0 := by rw [cr2_addr, cr2_self, c1]; rfl
        have e3 : cr2 (adP u v) u = 0 := by rw [cr2_addl, cr2_self, c1]; rfl
        have e4 : cr2 (adP u v) v = 0 := by rw [cr2_addl, cr2_self, c0]; rfl
        refine ⟨⟨p, q, h1, g1, rfl⟩, hw, fun x hx => by rw [cr2_addr]; have := hu1 x hx; have := hv1 x hx; omega, fun d hd hda h0 => sup_add (h4 d hd (ha d hd hda).1 (aft_tr hd hw h2 h0 (by omega))) (g4 d hd (ha d hd hda).2 (aft_tr hd hw g2 h0 (by omega))), ?_⟩
        rw [ad_ad]
        refine lch_mrg n us vs (by simp at hn ⊢; omega) (sg u h2) (sg v g2) (sg _ hw) (fun d hd hda => ⟨fun x hx => ?_, fun x hx => ?_⟩) (fun x t e y hy => ?_) (fun x t e y hy => ?_) h5 g5
        · rw [List.mem_singleton.1 hx]
          exact aft_tr h2 hw hd (by omega) (hda _ (by simp))
        · rw [List.mem_singleton.1 hx]
          exact aft_tr g2 hw hd (by omega) (hda _ (by simp))
        · subst e
          rw [List.mem_singleton.1 hy]
          exact (cr_tr hw h2 h5.2.1 (by omega) (Int.le_of_lt (h5.2.2.1 u (by simp)))).2 (.inr (h5.2.2.1 u (by simp)))
        · subst e
          rw [List.mem_singleton.1 hy]
          exact (cr_tr hw g2 g5.2.1 (by omega) (Int.le_of_lt (g5.2.2.1 v (by simp)))).2 (.inr (g5.2.2.1 v (by simp)))
theorem Cvx.drop : ∀ {X Y : List Pt}, Cvx (X ++ Y) → Cvx Y
  | [], _, h => h
  | _ :: _, _, h => Cvx.drop (Cvx.tail h)
theorem Lft.drop {S : Pt → Prop} : ∀ {X Y : List Pt}, Lft S (X ++ Y) → Lft S Y
  | [], _, h => h
  | _ :: _, _, h => Lft.drop (Lft.tail h)
theorem Dsc.drop : ∀ {X Y : List Pt}, Dsc (X ++ Y) → Dsc Y
  | [], _, h => h
  | _ :: _, _, h => Dsc.drop (Dsc.tail h)
def lsd : List Pt → Pt → List Pt
  | [], _ => []
  | x :: _, p => [dif p x]
theorem crP_cr2 (x p q : Pt) : crP x p q = cr2 (dif p x) (dif q p) := by unfold crP crossI cr2 dif; simp only; grind
theorem crP_cr2' (x p q : Pt) : crP x p q = cr2 (dif p x) (dif q x) := by unfold crP crossI cr2 dif; simp only
theorem cr2_neg (u a b : Pt) : cr2 u (dif a b) = cr2 (dif b a) u := by unfold cr2 dif; simp only; grind
theorem plk (u v d w : Pt) : cr2 u v * cr2 d w = cr2 d v * cr2 u w + cr2 u d * cr2 v w := by unfold cr2; grind
theorem nn_of_mul {D x : Int} (hD : 0 < D) (h : 0 ≤ D * x) : 0 ≤ x := by
  rcases Int.lt_or_le x 0 with c | c
  · have := Int.mul_neg_of_pos_of_neg hD c
    omega
  · exact c
theorem lch_of {S : Pt → Prop} : ∀ (l : List Pt) (p : Pt) (R0 : List Pt), ChI S ((p :: l).reverse ++ R0) → LCh S (lsd R0 p) p (sdL (p :: l))
  | [], p, [], h => by
    refine ⟨h.mem p (by simp), fun d hd ha q hq => ?_⟩
    obtain ⟨m, h1, h2⟩ := h.top
    obtain ⟨n, k1, k2⟩ := h.bot
    simp at h1 k1
    subst h1 k1
    have : q = p := by
      rcases h2 q hq with e | e
      · exact e
      · rcases k2 q hq with e' | e'
        · exact e'
        · exact (oP_asym e e').elim
    subst this
    unfold cr2 dif
    simp
  | [], p, x :: R0, h => by
    have hl := h.lft
    have hd0 := h.dsc
    simp only [List.reverse_cons, List.reverse_nil, List.nil_append, List.cons_append] at hl hd0 h
    refine ⟨h.mem p (by simp), fun d hd ha q hq => ?_⟩
    obtain ⟨m, h1, h2⟩ := h.top
    simp at h1
    subst h1
    have a1 : 0 ≤ cr2 (dif p x) d := ha _ (by simp [lsd])
    have a2 : 0 ≤ cr2 (dif p x) (dif q p) := by rw [← crP_cr2]; exact hl.1 q hq
    rw [cr2_neg] at a2 ⊢
    rcases h2 q hq with rfl | e
    · unfold cr2 dif
      simp
    · exact aft_tr (plt_pos.1 e) (plt_pos.1 (hd0.lt (by simp))) hd a2 a1
  | q :: l, p, R0, h => by
    have hS : S p := h.mem p (by simp)
    have e0 : (p :: q :: l).reverse ++ R0 = l.reverse ++ (q :: p :: R0) := by simp
    have e1 : (p :: q :: l).reverse ++ R0 = (q :: l).reverse ++ (p :: R0) := by simp
    have hd0 := h.dsc
    have hl := h.lft
    have hc := h.cvx
    have ih := lch_of l q (p :: R0) (by rw [← e1]; exact h)
    rw [e0] at hd0 hl hc
    have hd1 := hd0.drop
    have hl1 := hl.drop
    have hc1 := hc.drop
    have hv : posV (dif q p) := plt_pos.1 (hd1.lt (by simp))
    refine ⟨hS, hv, ?_, ?_, ?_⟩
    · match R0, hc1 with
      | [], _ => intro x hx; simp [lsd] at hx
      | y :: _, hc1 =>
        intro x hx
        rw [lsd, List.mem_singleton] at hx
        subst hx
        rw [← crP_cr2]
        exact hc1.1
    · intro d hd ha h0 z hz
      have a1 : 0 ≤ cr2 (dif q p) (dif z p) := by rw [← crP_cr2']; exact hl1.1 z hz
      match R0, hl1, hd1, hc1, ha, e0, h with
      | [], _, _, _, _, e0, h =>
        obtain ⟨m, h1, h2⟩ := h.bot
        rw [e0] at h1
        simp at h1
        subst h1
        rcases h2 z hz with rfl | e
        · unfold cr2 dif
          simp
        · exact aft_tr hd hv (plt_pos.1 e) h0 a1
      | x :: R1, hl1, hd1, hc1, ha, _, _ =>
        have a2 : 0 ≤ cr2 (dif p x) (dif z p) := by rw [← crP_cr2]; exact hl1.2.1 z hz
        have a3 : 0 ≤ cr2 (dif p x) d := ha _ (by simp [lsd])
        have a4 : 0 < cr2 (dif p x) (dif q p) := by rw [← crP_cr2]; exact hc1.1
        refine nn_of_mul a4 ?_
        rw [plk]
        have := Int.mul_nonneg h0 a2
        have := Int.mul_nonneg a3 a1
        omega
    · rw [ad_dif]
      exact ih
theorem cumP_sd : ∀ (l : List Pt) (p : Pt), cumP p (sdL (p :: l)) = p :: l
  | [], p => rfl
  | q :: l, p => by
    show p :: cumP (adP p (dif q p)) (sdL (q :: l)) = _
    rw [ad_dif, cumP_sd l q]
theorem endP_sd : ∀ (l : List Pt) (p : Pt), endP p (sdL (p :: l)) = (p :: l).getLast (by simp)
  | [], p => rfl
  | q :: l, p => by
    show endP (adP p (dif q p)) (sdL (q :: l)) = _
    rw [ad_dif, endP_sd l q]
    simp
theorem cumP_rev (p v : Pt) (vs R0 : List Pt) : (cumP p (v :: vs)).reverse ++ R0 = (cumP (adP p v) vs).reverse ++ (p :: R0) := by
  show (p :: cumP (adP p v) vs).reverse ++ R0 = _
  simp
theorem plt_ad {p v : Pt} (h : posV v) : pltB p (adP p v) = true := by rw [plt_pos, dif_ad]; exact h
theorem chi_aux {S : Pt → Prop} : ∀ (vs : List Pt) (p : Pt) (R0 : List Pt), LCh S (lsd R0 p) p vs → (∀ z ∈ p :: R0, S z) → Dsc (p :: R0) → Cvx (p :: R0) → Lft S (p :: R0) →
    (∀ z ∈ (cumP p vs).reverse ++ R0, S z) ∧ Dsc ((cumP p vs).reverse ++ R0) ∧ Cvx ((cumP p vs).reverse ++ R0) ∧ Lft S ((cumP p vs).reverse ++ R0)
  | [], p, R0, h, h1, h2, h3, h4 => ⟨h1, h2, h3, h4⟩
  | v :: vs, p, R0, h, h1, h2, h3, h4 => by
    rw [cumP_rev]
    obtain ⟨k1, k2, k3, k4, k5⟩ := h
    refine chi_aux vs (adP p v) (p :: R0) (by rw [lsd, dif_ad]; exact k5) (fun z hz => ?_) ?_ ?_ ?_
    · rcases List.mem_cons.1 hz with rfl | hz
      · exact k5.at
      · exact h1 z hz
    · refine List.pairwise_cons.2 ⟨fun z hz => ?_, h2⟩
      rcases List.mem_cons.1 hz with rfl | hz
      · exact plt_ad k2
      · exact oP_trans (h2.lt hz) (plt_ad k2)
    · match R0, k3, h3 with
      | [], _, _ => trivial
      | x :: R1, k3, h3 =>
        refine ⟨?_, h3⟩
        rw [crP_cr2, dif_ad]
        exact k3 _ (by simp [lsd])
    · refine ⟨fun q hq => ?_, h4⟩
      rw [crP_cr2', dif_ad]
      exact k4 v k2 (fun x hx => Int.le_of_lt (k3 x hx)) (by rw [cr2_self]; exact Int.le_refl _) q hq
theorem cumP_last : ∀ (vs : List Pt) (p : Pt) (R0 : List Pt), ((cumP p vs).reverse ++ R0).head? = some (endP p vs)
  | [], p, R0 => rfl
  | v :: vs, p, R0 => by
    rw [cumP_rev]
    exact cumP_last vs (adP p v) _
theorem cumP_cons : ∀ (vs : List Pt) (p : Pt), ∃ t, cumP p vs = p :: t
  | [], p => ⟨_, rfl⟩
  | _ :: _, p => ⟨_, rfl⟩
theorem chi_of {S : Pt → Prop} {vs : List Pt} {p : Pt} (h : LCh S [] p vs) (hb : ∀ q, S q → q = p ∨ pltB p q = true) (ht : ∀ q, S q → q = endP p vs ∨ pltB q (endP p vs) = true) : ChI S (cumP p vs).reverse := by
  have := chi_aux vs p [] h (fun z hz => by rw [List.mem_singleton.1 hz]; exact h.at) (List.pairwise_singleton _ _) trivial trivial
  rw [List.append_nil] at this
  obtain ⟨h1, h2, h3, h4⟩ := this
  refine ⟨h1, h2, h3, h4, ⟨p, ?_, hb⟩, ⟨endP p vs, ?_, ht⟩⟩
  · obtain ⟨t, e⟩ := cumP_cons vs p
    rw [e]
    simp
  · have := cumP_last vs p []
    rwa [List.append_nil] at this
theorem endP_ad : ∀ (vs : List Pt) (p q : Pt), endP (adP p q) vs = adP p (endP q vs)
  | [], _, _ => rfl
  | v :: vs, p, q => by
    show endP (adP (adP p q) v) vs = adP p (endP (adP q v) vs)
    rw [ad_r]
    exact endP_ad vs p (adP q v)
theorem mrg_nil (u : List Pt) : mrg u [] = u := by cases u <;> rw [mrg]
theorem endP_mrg : ∀ (n : Nat) (u v : List Pt), u.length + v.length ≤ n → ∀ (p q : Pt), endP (adP p q) (mrg u v) = adP (endP p u) (endP q v)
  | n, [], v, hn, p, q => by rw [mrg]; exact endP_ad v p q
  | n, u :: us, [], hn, p, q => by
    rw [mrg, adP_comm p q, adP_comm _ (endP q [])]
    exact endP_ad (u :: us) q p
  | 0, _ :: _, _ :: _, hn, p, q => by simp at hn
  | n + 1, u :: us, v :: vs, hn, p, q => by
    rw [mrg]
    split
    · show endP (adP (adP p q) u) (mrg us (v :: vs)) = _
      rw [ad_l]
      exact endP_mrg n us (v :: vs) (by simp at hn ⊢; omega) _ _
    · split
      · show endP (adP (adP p q) v) (mrg (u :: us) vs) = _
        rw [ad_r]
        exact endP_mrg n (u :: us) vs (by simp at hn ⊢; omega) _ _
      · show endP (adP (adP p q) (adP u v)) (mrg us vs) = _
        rw [ad_ad]
        exact endP_mrg n us vs (by simp at hn ⊢; omega) _ _
theorem plt_add {a b c d : Pt} (h1 : a = c ∨ pltB a c = true) (h2 : b = d ∨ pltB b d = true) : adP a b = adP c d ∨ pltB (adP a b) (adP c d) = true := by
  obtain ⟨a1, a2⟩ := a
  obtain ⟨b1, b2⟩ := b
  obtain ⟨c1, c2⟩ := c
  obtain ⟨d1, d2⟩ := d
  simp only [pltB_iff, adP, Prod.mk.injEq] at *
  omega
theorem chi_sum {S T : Pt → Prop} {A B : List Pt} {p q : Pt} (h : ChI S (p :: A).reverse) (g : ChI T (q :: B).reverse) : ChI (smS S T) (cumP (adP p q) (mrg (sdL (p :: A)) (sdL (q :: B)))).reverse := by
  have h1 := lch_of A p [] (by rw [List.append_nil]; exact h)
  have g1 := lch_of B q [] (by rw [List.append_nil]; exact g)
  have hn : ∀ x ∈ ([] : List Pt), posV x := fun x hx => by simp at hx
  have hs : ∀ y : Pt, AftS [] y := fun y x hx => by simp at hx
  refine chi_of (lch_mrg _ _ _ (Nat.le_refl _) hn hn hn (fun d _ _ => ⟨fun x hx => by simp [lsd] at hx, fun x hx => by simp [lsd] at hx⟩) (fun x _ _ => hs x) (fun x _ _ => hs x) h1 g1) ?_ ?_
  · rintro z ⟨a, b, ha, hb, rfl⟩
    obtain ⟨m, m1, m2⟩ := h.bot
    obtain ⟨n, n1, n2⟩ := g.bot
    simp at m1 n1
    subst m1 n1
    exact (plt_add ((m2 a ha).imp Eq.symm id) ((n2 b hb).imp Eq.symm id)).imp Eq.symm id
  · rintro z ⟨a, b, ha, hb, rfl⟩
    rw [endP_mrg _ _ _ (Nat.le_refl _), endP_sd, endP_sd]
    obtain ⟨m, m1, m2⟩ := h.top
    obtain ⟨n, n1, n2⟩ := g.top
    rw [List.head?_reverse, List.getLast?_eq_some_getLast (by simp)] at m1 n1
    have m1 := Option.some.inj m1
    have n1 := Option.some.inj n1
    subst m1 n1
    exact plt_add (m2 a ha) (n2 b hb)
theorem pl_none {h : List Pt} {x y : Int} : ∀ m, (∀ j, j < m → rtF h x y j = false) → plF h x y m = -1
  | 0, _ => rfl
  | m + 1, hr => by
    have ih := pl_none m fun j hj => hr j (by omega)
    simp only [plF, hr m (by omega), cond_false]
    exact ih
theorem pl_one {h : List Pt} {x y : Int} {n i : Nat} (hr : ∀ j, j < n → rtF h x y j = decide (j = i)) : ∀ m, m ≤ n → plF h x y m = if i < m then 1 else -1
  | 0, _ => by rw [if_neg (by omega)]; rfl
  | m + 1, hm => by
    have ih := pl_one hr m (by omega)
    simp only [plF, hr m (by omega)]
    by_cases e : m = i
    · rw [decide_eq_true e, cond_true, ih, if_neg (by omega), if_pos (by omega)]
      rfl
    · rw [decide_eq_false e, cond_false, ih]
      by_cases c : i < m
      · rw [if_pos c, if_pos (by omega)]
      · rw [if_neg c, if_neg (by omega)]
theorem pl_two {h : List Pt} {x y : Int} {n i k : Nat} (hik : i < k) (hr : ∀ j, j < n → rtF h x y j = decide (j = i ∨ j = k)) : ∀ m, m ≤ n → plF h x y m = if i < m ∧ m ≤ k then 1 else -1
  | 0, _ => by rw [if_neg (by omega)]; rfl
  | m + 1, hm => by
    have ih := pl_two hik hr m (by omega)
    simp only [plF, hr m (by omega)]
    by_cases e : m = i ∨ m = k
    · rw [decide_eq_true e, cond_true, ih]
      rcases e with e | e
      · rw [if_neg (by omega), if_pos (by omega)]
        rfl
      · rw [if_pos (by omega), if_neg (by omega)]
        rfl
    · rw [decide_eq_false e, cond_false, ih]
      by_cases c : i < m ∧ m ≤ k
      · rw [if_pos c, if_pos (by omega)]
      · rw [if_neg c, if_neg (by omega)]
theorem chg {f : Nat → Bool} {n a b : Nat} (ha : a < n) (hb : b < n) (fa : f a = true) (fb : f b = false) : ∃ j, j < n ∧ f j = true ∧ f ((j + 1) % n) = false := by
  have key : ∀ d, f ((a + d) % n) = false → ∃ j, j < n ∧ f j = true ∧ f ((j + 1) % n) = false := by
    intro d
    induction d with
    | zero =>
      intro h
      rw [Nat.add_zero, Nat.mod_eq_of_lt ha, fa] at h
      cases h
    | succ d ih =>
      intro h
      rcases e : f ((a + d) % n) with _ | _
      · exact ih e
      · refine ⟨(a + d) % n, Nat.mod_lt _ (by omega), e, ?_⟩
        rw [Nat.mod_add_mod]
        exact h
  refine key (b + n - a) ?_
  rw [show a + (b + n - a) = b + n by omega, Nat.add_mod_right, Nat.mod_eq_of_lt hb]
  exact fb
section ring
variable {h : List Pt} {q : Pt}
theorem rt_up {j : Nat} (u : upE h q.2 j) : rtF h q.1 q.2 j = decide (0 < crP (h.getD j (0, 0)) (nxP h j) q) := by
  unfold rtF
  rw [decide_eq_false (show ¬ q.2 < (h.getD j (0, 0)).2 by have := u.1; omega), decide_eq_true u.2]
  unfold crP
  cases decide (0 < crossI (h.getD j (0, 0)).1 (h.getD j (0, 0)).2 (nxP h j).1 (nxP h j).2 q.1 q.2) <;> rfl
theorem rt_dn {j : Nat} (u : dnE h q.2 j) : rtF h q.1 q.2 j = !decide (0 < crP (h.getD j (0, 0)) (nxP h j) q) := by
  unfold rtF
  rw [decide_eq_true u.2, decide_eq_false (show ¬ q.2 < (nxP h j).2 by have := u.1; omega)]
  unfold crP
  cases decide (0 < crossI (h.getD j (0, 0)).1 (h.getD j (0, 0)).2 (nxP h j).1 (nxP h j).2 q.1 q.2) <;> rfl
theorem rt_no {j : Nat} (u : ¬ upE h q.2 j) (d : ¬ dnE h q.2 j) : rtF h q.1 q.2 j = false := by
  unfold rtF
  unfold upE at u
  unfold dnE at d
  by_cases c1 : q.2 < (h.getD j (0, 0)).2 <;> by_cases c2 : q.2 < (nxP h j).2
  · rw [decide_eq_true c1, decide_eq_true c2]; rfl
  · exact absurd ⟨by omega, c1⟩ d
  · exact absurd ⟨by omega, c2⟩ u
  · rw [decide_eq_false c1, decide_eq_false c2]; rfl
theorem both_ex (H : CvH h) (cp : ∀ j, j < h.length → 0 < crP (h.getD j (0, 0)) (nxP h j) q) : (∃ a, a < h.length ∧ q.2 < (h.getD a (0, 0)).2) ∧ ∃ b, b < h.length ∧ ¬ q.2 < (h.getD b (0, 0)).2 := by
  have hq : ∀ j, j < h.length → 0 ≤ crP (h.getD j (0, 0)) (nxP h j) q := fun j hj => Int.le_of_lt (cp j hj)
  have vx : ∀ v ∈ h, ∃ j, j < h.length ∧ h.getD j (0, 0) = v := fun v hv => by
    obtain ⟨j, hj, e⟩ := List.getElem_of_mem hv
    exact ⟨j, hj, by simp [hj, e]⟩
  constructor
  · refine Classical.byContradiction fun hn => ?_
    have lo : ∀ j, j < h.length → (h.getD j (0, 0)).2 ≤ q.2 := fun j hj => by
      rcases Int.lt_or_le q.2 (h.getD j (0, 0)).2 with c | c
      · exact absurd ⟨j, hj, c⟩ hn
      · exact c
    by_cases ht : ∃ j, j < h.length ∧ (h.getD j (0, 0)).2 = q.2
    · obtain ⟨j, hj, e⟩ := ht
      have c1 := cp j hj
      have c2 := cp _ (prv_lt hj)
      rw [nx_prv hj] at c2
      have l1 : (nxP h j).2 ≤ q.2 := lo _ (Nat.mod_lt _ (by omega))
      have l2 := lo _ (prv_lt hj)
      have e1 : crP (h.getD j (0, 0)) (nxP h j) q = (q.2 - (nxP h j).2) * (q.1 - (h.getD j (0, 0)).1) := by unfold crP crossI; rw [e]; grind
      have e2 : crP (h.getD ((j + h.length - 1) % h.length) (0, 0)) (h.getD j (0, 0)) q = -((q.2 - (h.getD ((j + h.length - 1) % h.length) (0, 0)).2) * (q.1 - (h.getD j (0, 0)).1)) := by unfold crP crossI; rw [e]; grind
      rcases Int.lt_or_le (q.1 - (h.getD j (0, 0)).1) 0 with c | c
      · have := Int.mul_nonneg (show 0 ≤ q.2 - (nxP h j).2 by omega) (show 0 ≤ -(q.1 - (h.getD j (0, 0)).1) by omega)
        rw [Int.mul_neg] at this
        omega
      · have := Int.mul_nonneg (show 0 ≤ q.2 - (h.getD ((j + h.length - 1) % h.length) (0, 0)).2 by omega) c
        omega
    · have hM : ∀ v ∈ h, dirV 0 1 v ≤ q.2 - 1 := fun v hv => by
        obtain ⟨j, hj, e⟩ := vx v hv
        have := lo j hj
        have : (h.getD j (0, 0)).2 ≠ q.2 := fun e' => ht ⟨j, hj, e'⟩
        rw [e] at *
        unfold dirV
        omega
      have := cvh_max H hq hM
      unfold dirV at this
      omega
  · refine Classical.byContradiction fun hn => ?_
    have hM : ∀ v ∈ h, dirV 0 (-1) v ≤ -q.2 - 1 := fun v hv => by
      obtain ⟨j, hj, e⟩ := vx v hv
      have : q.2 < (h.getD j (0, 0)).2 := Classical.byContradiction fun c => hn ⟨j, hj, c⟩
      rw [e] at this
      unfold dirV
      omega
    have := cvh_max H hq hM
    unfold dirV at this
    omega
theorem up_of {a b : Nat} (ha : a < h.length) (hb : b < h.length) (ua : q.2 < (h.getD a (0, 0)).2) (ub : ¬ q.2 < (h.getD b (0, 0)).2) : (∃ i, i < h.length ∧ upE h q.2 i) ∧ ∃ k, k < h.length ∧ dnE h q.2 k := by
  constructor
  · obtain ⟨j, j1, j2, j3⟩ := chg (f := fun j => !decide (q.2 < (h.getD j (0, 0)).2)) hb ha (by simp only [decide_eq_false ub]; rfl) (by simp only [decide_eq_true ua]; rfl)
    refine ⟨j, j1, ?_, ?_⟩
    · have : ¬ q.2 < (h.getD j (0, 0)).2 := by simpa using j2
      omega
    · have : q.2 < (nxP h j).2 := by simpa [nxP] using j3
      exact this
  · obtain ⟨j, j1, j2, j3⟩ := chg (f := fun j => decide (q.2 < (h.getD j (0, 0)).2)) ha hb (decide_eq_true ua) (decide_eq_false ub)
    refine ⟨j, j1, ?_, of_decide_eq_true j2⟩
    have : ¬ q.2 < (nxP h j).2 := of_decide_eq_false j3
    omega
theorem in_ring (H : CvH h) (hno : ∀ j, j < h.length → hsF h q.1 q.2 j = false) : (plF h q.1 q.2 h.length = 1 ∧ ∀ j, j < h.length → 0 ≤ crP (h.getD j (0, 0)) (nxP h j) q) ∨ (plF h q.1 q.2 h.length = -1 ∧ ¬ ∀ j, j < h.length → 0 ≤ crP (h.getD j (0, 0)) (nxP h j) q) := by
  have cz : ∀ j, j < h.length → upE h q.2 j ∨ dnE h q.2 j → crP (h.getD j (0, 0)) (nxP h j) q ≠ 0 := fun j hj c e => by
    have := cross_has e (c.imp id id)
    have g := hno j hj
    unfold hsF at g
    rw [this] at g
    cases g
  have nud : ∀ j, upE h q.2 j → ¬ dnE h q.2 j := fun j u d => by
    have := u.1
    have := d.2
    omega
  by_cases hl : ∀ j, j < h.length → 0 ≤ crP (h.getD j (0, 0)) (nxP h j) q
  · refine .inl ⟨?_, hl⟩
    have cp : ∀ j, j < h.length → 0 < crP (h.getD j (0, 0)) (nxP h j) q := fun j hj => by
      have h1 := hl j hj
      rcases Int.lt_or_le 0 (crP (h.getD j (0, 0)) (nxP h j) q) with c | c
      · exact c
      · have := on_ring H hl hj (by omega)
        rw [hno j hj] at this
        cases this
    obtain ⟨⟨a, a1, a2⟩, b, b1, b2⟩ := both_ex H cp
    obtain ⟨⟨i, i1, i2⟩, _⟩ := up_of a1 b1 a2 b2
    have hr : ∀ j, j < h.length → rtF h q.1 q.2 j = decide (j = i) := fun j hj => by
      by_cases u : upE h q.2 j
      · rw [rt_up u, decide_eq_true (cp j hj), decide_eq_true (up_uniq H hj i1 u i2)]
      · rw [decide_eq_false (fun e => u (by rw [e]; exact i2))]
        by_cases d : dnE h q.2 j
        · rw [rt_dn d, decide_eq_true (cp j hj)]; rfl
        · exact rt_no u d
    rw [pl_one hr _ (Nat.le_refl _), if_pos i1]
  · refine .inr ⟨?_, hl⟩
    by_cases hu : ∃ i, i < h.length ∧ upE h q.2 i
    · obtain ⟨i, i1, i2⟩ := hu
      have n1 : (i + 1) % h.length < h.length := Nat.mod_lt _ (by omega)
      obtain ⟨_, k, k1, k2⟩ := up_of (q := q) n1 i1 i2.2 (by have := i2.1; omega)
      have ne : i ≠ k := fun e => nud i i2 (by rw [e]; exact k2)
      have zi := cz i i1 (.inl i2)
      have zk := cz k k1 (.inr k2)
      have hr : ∀ j, j < h.length → rtF h q.1 q.2 j = if j = i then decide (0 < crP (h.getD i (0, 0)) (nxP h i) q) else if j = k then !decide (0 < crP (h.getD k (0, 0)) (nxP h k) q) else false := fun j hj => by
        by_cases u : upE h q.2 j
        · have e := up_uniq H hj i1 u i2
          rw [if_pos e, rt_up u, e]
        · rw [if_neg (fun e => u (by rw [e]; exact i2))]
          by_cases d : dnE h q.2 j
          · have e := dn_uniq H hj k1 d k2
            rw [if_pos e, rt_dn d, e]
          · rw [if_neg (fun e => d (by rw [e]; exact k2))]
            exact rt_no u d
      have dU : 0 < (nxP h i).2 - (h.getD i (0, 0)).2 := by have := i2.1; have := i2.2; omega
      have dD : 0 < (h.getD k (0, 0)).2 - (nxP h k).2 := by have := k2.1; have := k2.2; omega
      rcases Int.lt_or_le 0 (crP (h.getD i (0, 0)) (nxP h i) q) with ci | ci
      · rcases Int.lt_or_le 0 (crP (h.getD k (0, 0)) (nxP h k) q) with ck | ck
        · refine absurd (fun j hj => ?_) hl
          have v1 := Int.mul_nonneg (cv_nn H hj (getD_mem' i1)) (show 0 ≤ (nxP h i).2 - q.2 by have := i2.2; omega)
          have v2 := Int.mul_nonneg (cv_nn H hj (nx_mem i1)) (show 0 ≤ q.2 - (h.getD i (0, 0)).2 by have := i2.1; omega)
          have w1 := Int.mul_nonneg (cv_nn H hj (nx_mem k1)) (show 0 ≤ (h.getD k (0, 0)).2 - q.2 by have := k2.2; omega)
          have w2 := Int.mul_nonneg (cv_nn H hj (getD_mem' k1)) (show 0 ≤ q.2 - (nxP h k).2 by have := k2.1; omega)
          have m1 := mid_id (h.getD j (0, 0)) (nxP h j) (h.getD i (0, 0)) (nxP h i) q
          have m2 := mid_id (h.getD j (0, 0)) (nxP h j) (nxP h k) (h.getD k (0, 0)) q
          rw [crP_sw (h.getD k (0, 0)) (nxP h k)] at m2
          rcases Int.lt_or_le ((nxP h j).2 - (h.getD j (0, 0)).2) 0 with s | s
          · have t := Int.mul_nonneg (show 0 ≤ -((nxP h j).2 - (h.getD j (0, 0)).2) by omega) (Int.le_of_lt ck)
            have e : -((nxP h j).2 - (h.getD j (0, 0)).2) * crP (h.getD k (0, 0)) (nxP h k) q = ((nxP h j).2 - (h.getD j (0, 0)).2) * -crP (h.getD k (0, 0)) (nxP h k) q := by grind
            exact nn_of_mul dD (by omega)
          · have t := Int.mul_nonneg s (Int.le_of_lt ci)
            exact nn_of_mul dU (by omega)
        · rcases Nat.lt_or_ge i k with o | o
          · rw [pl_two o (fun j hj => ?_) _ (Nat.le_refl _), if_neg (by omega)]
            rw [hr j hj]
            by_cases e1 : j = i
            · rw [if_pos e1, decide_eq_true ci, decide_eq_true (.inl e1)]
            · by_cases e2 : j = k
              · rw [if_neg e1, if_pos e2, decide_eq_false (by omega), decide_eq_true (.inr e2)]; rfl
              · rw [if_neg e1, if_neg e2, decide_eq_false (by omega)]
          · rw [pl_two (show k < i by omega) (fun j hj => ?_) _ (Nat.le_refl _), if_neg (by omega)]
            rw [hr j hj]
            by_cases e1 : j = i
            · rw [if_pos e1, decide_eq_true ci, decide_eq_true (.inr e1)]
            · by_cases e2 : j = k
              · rw [if_neg e1, if_pos e2, decide_eq_false (by omega), decide_eq_true (.inl e2)]; rfl
              · rw [if_neg e1, if_neg e2, decide_eq_false (by omega)]
      · rcases Int.lt_or_le 0 (crP (h.getD k (0, 0)) (nxP h k) q) with ck | ck
        · refine pl_none _ fun j hj => ?_
          rw [hr j hj]
          by_cases e1 : j = i
          · rw [if_pos e1, decide_eq_false (by omega)]
          · by_cases e2 : j = k
            · rw [if_neg e1, if_pos e2, decide_eq_true ck]; rfl
            · rw [if_neg e1, if_neg e2]
        · exfalso
          have v1 := Int.mul_nonneg (cv_nn H k1 (getD_mem' i1)) (show 0 ≤ (nxP h i).2 - q.2 by have := i2.2; omega)
          have v2 := Int.mul_nonneg (cv_nn H k1 (nx_mem i1)) (show 0 ≤ q.2 - (h.getD i (0, 0)).2 by have := i2.1; omega)
          have m1 := mid_id (h.getD k (0, 0)) (nxP h k) (h.getD i (0, 0)) (nxP h i) q
          have t := Int.mul_nonneg (Int.le_of_lt dD) (show 0 ≤ -crP (h.getD i (0, 0)) (nxP h i) q by omega)
          have e : ((h.getD k (0, 0)).2 - (nxP h k).2) * -crP (h.getD i (0, 0)) (nxP h i) q = ((nxP h k).2 - (h.getD k (0, 0)).2) * crP (h.getD i (0, 0)) (nxP h i) q := by grind
          have := nn_of_mul dU (show 0 ≤ ((nxP h i).2 - (h.getD i (0, 0)).2) * crP (h.getD k (0, 0)) (nxP h k) q by omega)
          omega
    · refine pl_none _ fun j hj => rt_no (fun u => hu ⟨j, hj, u⟩) fun d => ?_
      have n1 : (j + 1) % h.length < h.length := Nat.mod_lt _ (by omega)
      obtain ⟨⟨i, i1, i2⟩, _⟩ := up_of (q := q) hj n1 d.2 (by have := d.1; show ¬ q.2 < (nxP h j).2; omega)
      exact hu ⟨i, i1, i2⟩
end ring
def pt2 (x y : Int) : Bool := decide (-2000 ≤ x ∧ x ≤ 2000 ∧ -2000 ≤ y ∧ y ≤ 2000)
theorem pt2_iff {x y : Int} : pt2 x y = true ↔ (-2000 ≤ x ∧ x ≤ 2000 ∧ -2000 ≤ y ∧ y ≤ 2000) := by unfold pt2; exact decide_eq_true_iff
def allW (ps : List Pt) : Bool := ps.all fun p => pt2 p.1 p.2
theorem allW_at {ps : List Pt} (h : allW ps = true) {j : Nat} (hj : j < ps.length) : pt2 (ps.getD j (0, 0)).1 (ps.getD j (0, 0)).2 = true := List.all_eq_true.1 h (ps.getD j (0, 0)) (by simp [hj])
theorem allW_push {st : List Pt} {p : Pt} (h : allW st = true) (hp : pt2 p.1 p.2 = true) : allW (pushP st p) = true := by
  unfold pushP
  refine List.all_eq_true.2 fun z hz => ?_
  rcases List.mem_append.1 hz with hz | hz
  · exact List.all_eq_true.1 h z (List.mem_of_mem_take hz)
  · rw [List.mem_singleton.1 hz]
    exact hp
theorem allW_rev {ps : List Pt} (h : allW ps = true) : allW (revP ps) = true := List.all_eq_true.2 fun z hz => List.all_eq_true.1 h z (List.mem_reverse.1 hz)
theorem allW_srt {ps : List Pt} (h : allW ps = true) : allW (srtL ps) = true := List.all_eq_true.2 fun z hz => List.all_eq_true.1 h z ((srtL_mem ps z).1 hz)
def allQW (q : Nat → Bool) (i : Nat) : Nat → Bool
  | 0 => true
  | n + 1 => q i && allQW q (i + 1) n
theorem allQ_allW {q : Nat → Bool} : ∀ (n i : Nat), (∀ k, i ≤ k → k < i + n → q k = true) → allQW q i n = true
  | 0, _, _ => rfl
  | n + 1, i, h => by
    show (q i && allQW q (i + 1) n) = true
    rw [h i (by omega) (by omega), allQ_allW n (i + 1) fun k h1 h2 => h k (by omega) (by omega)]
    rfl
theorem allQW_iff {q : Nat → Bool} : ∀ (n i : Nat), allQW q i n = true → ∀ k, i ≤ k → k < i + n → q k = true
  | 0, _, _, k, h1, h2 => by omega
  | n + 1, i, h, k, h1, h2 => by
    have h : (q i && allQW q (i + 1) n) = true := h
    rw [Bool.and_eq_true] at h
    rcases Nat.lt_or_ge i k with c | c
    · exact allQW_iff n (i + 1) h.2 k (by omega) (by omega)
    · obtain rfl : k = i := by omega
      exact h.1
theorem allQ_noW {q : Nat → Bool} {n k : Nat} (hk : k < n) (h : q k = false) : allQW q 0 n = false := by
  rcases e : allQW q 0 n with _ | _
  · rfl
  · rw [allQW_iff n 0 e k (by omega) (by omega)] at h
    cases h
set_option maxRecDepth 100000 in
theorem tr_wHas (ax ay bx b_y px py : Int) : runX Try.prog (tabE B0) 30 12 80 [.v (.agg #[iv ax, iv ay, iv bx, iv b_y]), .v (.agg #[iv px, iv py])] (fun u => .fin u []) = brT (ŵ (ŵ (ŵ (ax - px) * ŵ (b_y - py)) - ŵ (ŵ (ay - py) * ŵ (bx - px))) == 0) (.fin (.bool (decide (ŵ (ŵ (ŵ (ax - px) * ŵ (bx - px)) + ŵ (ŵ (ay - py) * ŵ (b_y - py))) ≤ 0))) []) (.fin (.bool (false)) []) := by kernel_rfl
set_option maxRecDepth 100000 in
theorem tr_wTur (ax ay bx b_y px py : Int) : runX Try.prog (tabE B0) 30 12 57 [.v (.agg #[iv ax, iv ay]), .v (.agg #[iv bx, iv b_y]), .v (.agg #[iv px, iv py])] (fun u => .fin u []) = .fin (.int .i64 (ŵ (ŵ (ŵ (bx - ax) * ŵ (py - ay)) - ŵ (ŵ (b_y - ay) * ŵ (px - ax))))) [] := by kernel_rfl
theorem res_wTur {ax ay bx b_y px py : Int} (h1 : pt2 ax ay = true) (h2 : pt2 bx b_y = true) (h3 : pt2 px py = true) : Res Try.prog 57 [.v (.agg #[iv ax, iv ay]), .v (.agg #[iv bx, iv b_y]), .v (.agg #[iv px, iv py])] (iv (crossI ax ay bx b_y px py)) := by
  refine res_of mixed (tabE_ok B0_ok) (m := 30) (n := 12) ?_
  rw [tr_wTur]
  have h1 := pt2_iff.1 h1
  have h2 := pt2_iff.1 h2
  have h3 := pt2_iff.1 h3
  have p9 := mul_bd (x := bx - ax) (y := py - ay) 4000 4000 (by omega) (by omega)
  have p10 := mul_bd (x := b_y - ay) (y := px - ax) 4000 4000 (by omega) (by omega)
  simp (disch := omega) only [wr]
  rfl
theorem res_wHas {ax ay bx b_y px py : Int} (h1 : pt2 ax ay = true) (h2 : pt2 bx b_y = true) (h3 : pt2 px py = true) : Res Try.prog 80 [.v (.agg #[iv ax, iv ay, iv bx, iv b_y]), .v (.agg #[iv px, iv py])] (.bool (hasB ax ay bx b_y px py)) := by
  refine res_of mixed (tabE_ok B0_ok) (m := 30) (n := 12) ?_
  rw [tr_wHas]
  have h1 := pt2_iff.1 h1
  have h2 := pt2_iff.1 h2
  have h3 := pt2_iff.1 h3
  have p1 := mul_bd (x := ax - px) (y := b_y - py) 4000 4000 (by omega) (by omega)
  have p2 := mul_bd (x := ay - py) (y := bx - px) 4000 4000 (by omega) (by omega)
  have p3 := mul_bd (x := ax - px) (y := bx - px) 4000 4000 (by omega) (by omega)
  have p4 := mul_bd (x := ay - py) (y := b_y - py) 4000 4000 (by omega) (by omega)
  simp (disch := omega) only [wr]
  unfold hasB
  rcases ((ax - px) * (b_y - py) - (ay - py) * (bx - px) == 0) with _ | _ <;> simp [brT, Tree.ok]
def pWt : List DArg → Option (Value × List Prop)
  | [.v (.agg ⟨[.int .i64 ax, .int .i64 ay]⟩), .v (.agg ⟨[.int .i64 bx, .int .i64 b_y]⟩), .v (.agg ⟨[.int .i64 px, .int .i64 py]⟩)] => some (iv (crossI ax ay bx b_y px py), [pt2 ax ay = true, pt2 bx b_y = true, pt2 px py = true])
  | _ => none
def pWh : List DArg → Option (Value × List Prop)
  | [.v (.agg ⟨[.int .i64 ax, .int .i64 ay, .int .i64 bx, .int .i64 b_y]⟩), .v (.agg ⟨[.int .i64 px, .int .i64 py]⟩)] => some (.bool (hasB ax ay bx b_y px py), [pt2 ax ay = true, pt2 bx b_y = true, pt2 px py = true])
  | _ => none
theorem pWt_ok {ds : List DArg} {v : Value} {C : List Prop} (h : pWt ds = some (v, C)) (hC : AllP C) : Res Try.prog 57 ds v := by
  unfold pWt at h
  split at h
  · obtain ⟨rfl, rfl⟩ : _ ∧ _ := by simpa using h
    exact res_wTur hC.1 hC.2.1 hC.2.2.1
  · cases h
theorem pWh_ok {ds : List DArg} {v : Value} {C : List Prop} (h : pWh ds = some (v, C)) (hC : AllP C) : Res Try.prog 80 ds v := by
  unfold pWh at h
  split at h
  · obtain ⟨rfl, rfl⟩ : _ ∧ _ := by simpa using h
    exact res_wHas hC.1 hC.2.1 hC.2.2.1
  · cases h
def TWl : Tab := fun f ds => match f with
  | 57 => pWt ds
  | 80 => pWh ds
  | f => B0 f ds
theorem TWl_ok : TabOk Try.prog TWl := by
  intro f ds v C h hC
  unfold TWl at h
  (try split at h)
  all_goals first | with_reducible exact pWt_ok h hC | with_reducible exact pWh_ok h hC | exact B0_ok _ _ _ _ h hC
def EWl : Env := mkE TWl (fun _ _ => none) (fun _ => noL)
theorem EWl_ok : EnvOk Try.prog EWl := mkEOk TWl_ok (fun _ _ _ _ _ h => (by cases h)) (fun _ _ _ => noL_good)
theorem plF_one (ps : List Pt) (x y : Int) : ∀ i, plF ps x y i = -1 ∨ plF ps x y i = 1
  | 0 => .inl rfl
  | i + 1 => by
    have := plF_one ps x y i
    simp only [plF]
    cases rtF ps x y i <;> simp <;> omega
def noF (ps : List Pt) (x y : Int) : Bool := allQW (fun j => !(hsF ps x y j)) 0 ps.length
def locF (ps : List Pt) (x y : Int) : Int := bif noF ps x y then plF ps x y ps.length else 0
noncomputable def gc_lcw : Code := (rangesOf (codeOf Try.f51)).getD 0 .skip
def k_lcw : Ex → List Nat := keeps [3, 4, 5, 9] [] [4]
def s_lcw (ps : List Pt) (x y : Int) : Nat → St := fun i => ⟨(ω3 .pointer (some ⟨2, 0, none⟩) :: .pointer (some ⟨3, 0, none⟩) :: .pointer (some ⟨4, 0, none⟩) :: ω3 .func (.func 84) #[] #[.pointer (some ⟨5, 0, none⟩)] :: ω11 []), [some ⟨.view, .ints (flat ps)⟩, none, some ⟨.box, .vals [.int .i64 x, .int .i64 y]⟩, some ⟨.box, .vals [.int .i64 0]⟩, some ⟨.box, .vals [.int .i64 (plF ps x y i)]⟩, some ⟨.view, .vals [ß 0 ps.length ps.length]⟩]⟩
def g_lcw (ps : List Pt) (x y : Int) : Nat → Prop := fun i => i ≤ ps.length ∧ ∀ k, k < i → hsF ps x y k = false
def re_lcw (ps : List Pt) (x y : Int) : Ex := bif noF ps x y then .normal else .ret
def rs_lcw (ps : List Pt) (x y : Int) : St := bif noF ps x y then ⟨(ω3 .pointer (some ⟨2, 0, none⟩) :: .pointer (some ⟨3, 0, none⟩) :: .pointer (some ⟨4, 0, none⟩) :: ω15 []), [some ⟨.view, .ints (flat ps)⟩, none, some ⟨.box, .vals [.int .i64 x, .int .i64 y]⟩, some ⟨.box, .vals [.int .i64 0]⟩, some ⟨.box, .vals [.int .i64 (plF ps x y ps.length)]⟩, some ⟨.view, .vals [ß 0 ps.length ps.length]⟩]⟩ else ⟨(ω4 .pointer (some ⟨3, 0, none⟩) :: ω16 []), [some ⟨.view, .ints (flat ps)⟩, none, some ⟨.box, .vals [.int .i64 x, .int .i64 y]⟩, some ⟨.box, .vals [.int .i64 0]⟩, some ⟨.dead, .vals []⟩, some ⟨.view, .vals [ß 0 ps.length ps.length]⟩]⟩
set_option maxRecDepth 100000 in
theorem tr_lcw (ps : List Pt) (x y : Int) (i : Nat) : bodyR Try.prog EWl 30 12 noL noR (asgOf gc_lcw) (bodOf gc_lcw) ([10, 11].zip (encE ps i)) k_lcw 6 (s_lcw ps x y i) = .need (pt2 (ps.getD i ((0 : Int), (0 : Int))).1 (ps.getD i ((0 : Int), (0 : Int))).2 = true) (.need (pt2 (ps.getD ((i + (1 : Nat)) % ps.length) ((0 : Int), (0 : Int))).1 (ps.getD ((i + (1 : Nat)) % ps.length) ((0 : Int), (0 : Int))).2 = true) (.need (pt2 x y = true) (brT (hasB (ps.getD i (0, 0)).1 (ps.getD i (0, 0)).2 (ps.getD ((i + 1) % ps.length) (0, 0)).1 (ps.getD ((i + 1) % ps.length) (0, 0)).2 x y) (.leaf .ret ⟨(ω4 .pointer (some ⟨3, 0, none⟩) :: ω16 []), [some ⟨.view, .ints (flat ps)⟩, none, some ⟨.box, .vals [.int .i64 (x), .int .i64 (y)]⟩, some ⟨.box, .vals [.int .i64 (0)]⟩, some ⟨.box, .vals [.int .i64 (plF ps x y i)]⟩, some ⟨.view, .vals [ß 0 (ps.length) (ps.length)]⟩]⟩) (brT (!decide (y < (ps.getD i (0, 0)).2) == decide (y < (ps.getD ((i + 1) % ps.length) (0, 0)).2)) (.need (pt2 (ps.getD i ((0 : Int), (0 : Int))).1 (ps.getD i ((0 : Int), (0 : Int))).2 = true) (.need (pt2 (ps.getD ((i + (1 : Nat)) % ps.length) ((0 : Int), (0 : Int))).1 (ps.getD ((i + (1 : Nat)) % ps.length) ((0 : Int), (0 : Int))).2 = true) (.need (pt2 x y = true) (brT (decide (y < (ps.getD ((i + 1) % ps.length) (0, 0)).2) == decide (0 < crossI (ps.getD i (0, 0)).1 (ps.getD i (0, 0)).2 (ps.getD ((i + 1) % ps.length) (0, 0)).1 (ps.getD ((i + 1) % ps.length) (0, 0)).2 x y)) (.leaf .normal ⟨(ω3 .pointer (some ⟨2, 0, none⟩) :: .pointer (some ⟨3, 0, none⟩) :: .pointer (some ⟨4, 0, none⟩) :: ω3 .func (Fn.func 84) #[] #[.pointer (some ⟨5, 0, none⟩)] :: ω11 []), [some ⟨.view, .ints (flat ps)⟩, none, some ⟨.box, .vals [.int .i64 (x), .int .i64 (y)]⟩, some ⟨.box, .vals [.int .i64 (0)]⟩, some ⟨.box, .vals [.int .i64 (ŵ (0 - plF ps x y i))]⟩, some ⟨.view, .vals [ß 0 (ps.length) (ps.length)]⟩]⟩) (.leaf .normal ⟨(ω3 .pointer (some ⟨2, 0, none⟩) :: .pointer (some ⟨3, 0, none⟩) :: .pointer (some ⟨4, 0, none⟩) :: ω3 .func (Fn.func 84) #[] #[.pointer (some ⟨5, 0, none⟩)] :: ω11 []), [some ⟨.view, .ints (flat ps)⟩, none, some ⟨.box, .vals [.int .i64 (x), .int .i64 (y)]⟩, some ⟨.box, .vals [.int .i64 (0)]⟩, some ⟨.box, .vals [.int .i64 (plF ps x y i)]⟩, some ⟨.view, .vals [ß 0 (ps.length) (ps.length)]⟩]⟩))))) (.leaf .normal ⟨(ω3 .pointer (some ⟨2, 0, none⟩) :: .pointer (some ⟨3, 0, none⟩) :: .pointer (some ⟨4, 0, none⟩) :: ω3 .func (Fn.func 84) #[] #[.pointer (some ⟨5, 0, none⟩)] :: ω11 []), [some ⟨.view, .ints (flat ps)⟩, none, some ⟨.box, .vals [.int .i64 (x), .int .i64 (y)]⟩, some ⟨.box, .vals [.int .i64 (0)]⟩, some ⟨.box, .vals [.int .i64 (plF ps x y i)]⟩, some ⟨.view, .vals [ß 0 (ps.length) (ps.length)]⟩]⟩))))) := by kernel_rfl
def Round_lcw (ps : List Pt) (x y : Int) : Prop := ∀ i : Nat, g_lcw ps x y i → i < (ps).length → (bodyR Try.prog EWl 30 12 noL noR (asgOf gc_lcw) (bodOf gc_lcw) ([10, 11].zip (encE ps i)) k_lcw 6 (s_lcw ps x y i)).ok (RoundEndR 6 (s_lcw ps x y) (g_lcw ps x y) (re_lcw ps x y) (rs_lcw ps x y) i) (fun _ _ => False)
set_option maxRecDepth 100000 in
theorem gcode_lcw : gc_lcw = .rangeFunc (.tmp 9) ([10, 11] : List Nat).toArray (asgOf gc_lcw) (bodOf gc_lcw) := by kernel_rfl
def e_lcw (s : St) (k : Ex → St → Tree) : Option Tree := match Nat.beq s.tmps.length 21, pickL s.tmps [3, 4, 5, 9], s.mem with
  | true, [.pointer (some ⟨2, 0, none⟩), .pointer (some ⟨3, 0, none⟩), .pointer (some ⟨4, 0, none⟩), .func (.func 84) ⟨[]⟩ ⟨[.pointer (some ⟨5, 0, none⟩)]⟩], [some ⟨.view, .ints xs⟩, none, some ⟨.box, .vals [.int .i64 x, .int .i64 y]⟩, some ⟨.box, .vals [.int .i64 0]⟩, some ⟨.box, .vals [.int .i64 p0]⟩, some ⟨.box, .vals [ß 0 n _]⟩] => some (needs [p0 = -1, xs.length = n * 2, allW (ptsA n xs) = true, n ≤ 1000, pt2 x y = true] (brT (noF (ptsA n xs) x y) (k .normal ⟨(ω3 .pointer (some ⟨2, 0, none⟩) :: .pointer (some ⟨3, 0, none⟩) :: .pointer (some ⟨4, 0, none⟩) :: ω15 []), [some ⟨.view, .ints xs⟩, none, some ⟨.box, .vals [.int .i64 x, .int .i64 y]⟩, some ⟨.box, .vals [.int .i64 0]⟩, some ⟨.box, .vals [.int .i64 (plF (ptsA n xs) x y n)]⟩, some ⟨.view, .vals [ß 0 n n]⟩]⟩) (k .ret ⟨(ω4 .pointer (some ⟨3, 0, none⟩) :: ω16 []), [some ⟨.view, .ints xs⟩, none, some ⟨.box, .vals [.int .i64 x, .int .i64 y]⟩, some ⟨.box, .vals [.int .i64 0]⟩, some ⟨.dead, .vals []⟩, some ⟨.view, .vals [ß 0 n n]⟩]⟩)))
  | _, _, _ => none
theorem locw_all {ps : List Pt} {x y : Int} (h : g_lcw ps x y ps.length) : noF ps x y = true := allQ_allW _ _ fun k _ h2 => by rw [h.2 k (by omega)]; rfl
set_option maxRecDepth 100000 in
theorem round_lcw (ps : List Pt) (x y : Int) (hv : allW ps = true) (h : ps.length ≤ 1000) (hp : pt2 x y = true) : Round_lcw ps x y := by
  rintro i ⟨_, hg⟩ hi
  rw [tr_lcw]
  have nxt : hsF ps x y i = false → g_lcw ps x y (i + 1) := fun ho => ⟨by omega, fun k hk => by
    rcases Nat.lt_or_ge k i with h1 | h1
    · exact hg k h1
    · obtain rfl : k = i := by omega
      exact ho⟩
  have hm := nx_lt hi
  have w : ŵ (0 - plF ps x y i) = 0 - plF ps x y i := wr (by have := plF_one ps x y i; omega)
  rw [w]
  refine ⟨allW_at hv hi, allW_at hv hm, hp, brT_ok.2 ⟨fun q => ?_, fun q => ?_⟩⟩
  · have q : hsF ps x y i = true := q
    have hs : noF ps x y = false := allQ_noW hi (by show (!(hsF ps x y i)) = false; rw [q]; rfl)
    refine ⟨by unfold re_lcw; rw [hs]; rfl, [], ?_⟩
    unfold rs_lcw
    rw [hs]
    refine ⟨rfl, rfl, ?_, ?_⟩ <;> repeat' (first | exact True.intro | exact rfl | exact wv_top _ _ | exact fun _ => rfl | refine And.intro ?_ ?_)
  · have q : hsF ps x y i = false := q
    have yes : rtF ps x y i = true → plF ps x y (i + 1) = 0 - plF ps x y i := fun hr => by simp only [plF]; rw [hr]; rfl
    have no : rtF ps x y i = false → plF ps x y (i + 1) = plF ps x y i := fun hr => by simp only [plF]; rw [hr]; rfl
    refine brT_ok.2 ⟨fun q2 => ⟨allW_at hv hi, allW_at hv hm, hp, brT_ok.2 ⟨fun q3 => ?_, fun q3 => ?_⟩⟩, fun q2 => ?_⟩
    · have e := yes (by unfold rtF nxP; rw [q2, q3]; rfl)
      refine ⟨nxt q, [], ?_⟩
      unfold s_lcw
      simp only [e]
      refine ⟨rfl, rfl, ?_, ?_⟩ <;> repeat' (first | exact True.intro | exact rfl | exact wv_top _ _ | exact fun _ => rfl | refine And.intro ?_ ?_)
    · have e := no (by unfold rtF nxP; rw [q2, q3]; rfl)
      refine ⟨nxt q, [], ?_⟩
      unfold s_lcw
      simp only [e]
      refine ⟨rfl, rfl, ?_, ?_⟩ <;> repeat' (first | exact True.intro | exact rfl | exact wv_top _ _ | exact fun _ => rfl | refine And.intro ?_ ?_)
    · have e := no (by unfold rtF nxP; rw [q2]; rfl)
      refine ⟨nxt q, [], ?_⟩
      unfold s_lcw
      simp only [e]
      refine ⟨rfl, rfl, ?_, ?_⟩ <;> repeat' (first | exact True.intro | exact rfl | exact wv_top _ _ | exact fun _ => rfl | refine And.intro ?_ ?_)
set_option maxRecDepth 100000 in
theorem lg_lcw : RangeE Try.prog e_lcw gc_lcw := by
  intro s k t F H hlt ht
  unfold e_lcw at hlt
  split at hlt
  rotate_left
  · cases hlt
  rename_i hlen hpick hmem
  obtain ⟨tmps, mem⟩ := s
  simp only at hlen hpick hmem
  subst hmem
  obtain rfl := Option.some.inj hlt
  obtain ⟨⟨rfl, h1, h2, h3, h4, _⟩, ht2⟩ := needs_ok ht
  clear ht hlt
  obtain ⟨ps, rfl, rfl⟩ := even_flat h1
  rw [ptsA_flat] at ht2 h2
  refine ⟨re_lcw ps _ _, rs_lcw ps _ _, pick2k ht2, ?_⟩
  rw [gcode_lcw]
  refine range_det (enc := encE ps) (len := (ps).length) (St_of := s_lcw ps _ _) (Good := g_lcw ps _ _) (N := 6) (M := 6) (Kn := [0, 5]) (cap := [.pointer (some ⟨5, 0, none⟩)]) (kf := (k_lcw .normal)) (π := []) (fun _ => rfl) (fun _ => rfl) (fun i hg hlt => bodyR_ok mixed EWl_ok (noL_good) (noR_good) (round_lcw ps _ _ h2 h3 h4 i hg hlt)) (entersB_res (by kernel_rfl)).1 rfl ?_ (fun ρ0 ρ B w lb h1 h2 => ed_iter ps (by omega) (s := (s_lcw ps _ _ 0).fs) (nb := 5) (nr := 0) (c := (ps).length) (Kn := [0, 5]) rfl rfl (by decide) (by decide) ρ0 ρ B w lb h1 h2) ?_ rfl (by decide) ?_ ⟨Nat.zero_le _, fun k hk => by omega⟩
  · intro n hn b hb
    simp only [List.mem_cons, List.not_mem_nil, or_false] at hn
    rcases hn with rfl | rfl <;> (obtain rfl := Option.some.inj hb; rfl)
  · intro hg
    have hq := locw_all hg
    refine ⟨by unfold re_lcw; rw [hq]; rfl, [], ?_⟩
    unfold rs_lcw
    rw [hq]
    refine ⟨rfl, rfl, ?_, ?_⟩ <;> repeat' (first | exact True.intro | exact rfl | exact wv_top _ _ | exact fun _ => rfl | refine And.intro ?_ ?_)
  · refine ⟨rfl, rfl, ?_, wvs_spread' [3, 4, 5, 9] hlen rfl ?_⟩
    · repeat' (first | exact True.intro | exact rfl | exact wv_top _ _ | exact fun _ => rfl | assumption | exact Eq.symm (by assumption) | exact vI0 rfl | refine And.intro ?_ ?_)
    · rw [show pickL (viewS [0, 5] ⟨tmps, _⟩).tmps [3, 4, 5, 9] = pickL tmps [3, 4, 5, 9] from rfl, hpick]
      repeat' (first | exact True.intro | exact rfl | exact wv_top _ _ | exact fun _ => rfl | assumption | exact Eq.symm (by assumption) | exact vI0 rfl | refine And.intro ?_ ?_)
theorem Gr_lcw {fn : Func} (hf : Try.prog.funcs[51]? = some fn) : RangesGood Try.prog (rt1 9 e_lcw) (codeOf fn) := by
  obtain rfl := fn_is Try.func51 hf
  exact rt1_good (by kernel_rfl) lg_lcw
def GWl : FuncId → RT := fun f => match f with
  | 51 => rt1 9 e_lcw
  | _ => noR
def EWg : Env := withG EWl GWl
theorem EWg_ok : EnvOk Try.prog EWg := withG_ok EWl_ok (by
  intro f fn hf
  unfold GWl
  split
  all_goals first | with_reducible exact Gr_lcw hf | exact noR_good)
set_option maxRecDepth 100000 in
theorem tr_wLoc (ps : List Pt) (x y : Int) : bodyV Try.prog EWg 30 12 51 [.row ps.length (.ints (flat ps)), .v (.agg #[iv x, iv y])] = .need ((-1 : Int) = (-1 : Int)) (.need ((flat ps).length = ps.length * (2 : Nat)) (.need (allW (ptsA ps.length (flat ps)) = true) (.need (ps.length ≤ (1000 : Nat)) (.need (pt2 x y = true) (brT (noF (ptsA ps.length (flat ps)) x y) (.fin (.int .i64 (plF (ptsA ps.length (flat ps)) x y ps.length)) []) (.fin (.int .i64 (0)) [])))))) := by kernel_rfl
theorem res_wLoc {ps : List Pt} {x y : Int} (hv : allW ps = true) (h : ps.length ≤ 1000) (hp : pt2 x y = true) : Res Try.prog 51 [.row ps.length (.ints (flat ps)), .v (.agg #[iv x, iv y])] (iv (locF ps x y)) := by
  refine bodyV_res mixed EWg_ok (m := 30) (n := 12) rfl ?_
  rw [tr_wLoc]
  simp only [ptsA_flat]
  unfold locF
  rcases hn : noF ps x y with _ | _
  all_goals exact ⟨trivial, flat_length ps, hv, h, hp, rfl⟩
theorem lch_posV {S : Pt → Prop} : ∀ {u l : List Pt} {p : Pt}, LCh S l p u → ∀ x ∈ u, posV x
  | [], _, _, _, x, hx => by simp at hx
  | v :: vs, l, p, h, x, hx => by
    rcases List.mem_cons.1 hx with rfl | hx
    · exact h.2.1
    · exact lch_posV h.2.2.2.2 x hx
theorem lch_aft {S : Pt → Prop} : ∀ {u : List Pt} {v p : Pt}, posV v → LCh S [v] p u → ∀ x ∈ u, 0 < cr2 v x
  | [], _, _, _, _, x, hx => by simp at hx
  | y :: vs, v, p, hv, h, x, hx => by
    have h1 : 0 < cr2 v y := h.2.2.1 v (by simp)
    rcases List.mem_cons.1 hx with rfl | hx
    · exact h1
    · have h2 := lch_aft h.2.1 h.2.2.2.2 x hx
      exact (cr_tr hv h.2.1 (lch_posV h.2.2.2.2 x hx) (Int.le_of_lt h1) (Int.le_of_lt h2)).2 (.inl h1)
def AscV (u : List Pt) : Prop := u.Pairwise (fun x y => 0 < cr2 x y) ∧ ∀ x ∈ u, posV x
theorem lch_asc {S : Pt → Prop} : ∀ {u l : List Pt} {p : Pt}, LCh S l p u → AscV u
  | [], _, _, _ => ⟨List.Pairwise.nil, fun x hx => by simp at hx⟩
  | v :: vs, l, p, h => ⟨List.pairwise_cons.2 ⟨fun x hx => lch_aft h.2.1 h.2.2.2.2 x hx, (lch_asc h.2.2.2.2).1⟩, lch_posV h⟩
theorem AscV.tail {v : Pt} {vs : List Pt} (h : AscV (v :: vs)) : AscV vs := ⟨(List.pairwise_cons.1 h.1).2, fun x hx => h.2 x (List.mem_cons_of_mem _ hx)⟩
theorem AscV.aft {v : Pt} {vs : List Pt} (h : AscV (v :: vs)) {x : Pt} (hx : x ∈ vs) : 0 < cr2 v x := (List.pairwise_cons.1 h.1).1 x hx
theorem lch_last {S : Pt → Prop} : ∀ {u l : List Pt} {p : Pt}, LCh S l p u → ∀ x, u.getLast? = some x → SupP S x (endP p u) ∧ posV x
  | [], _, _, _, x, hx => by simp at hx
  | [v], l, p, h, x, hx => by
    simp at hx
    subst hx
    exact ⟨h.2.2.2.2.2 v h.2.1 (fun y hy => by rw [List.mem_singleton.1 hy, cr2_self]; exact Int.le_refl _), h.2.1⟩
  | v :: v' :: vs, l, p, h, x, hx => by
    rw [List.getLast?_cons_cons] at hx
    exact lch_last h.2.2.2.2 x hx
theorem mrg_cc (u v : Pt) (us vs : List Pt) : mrg (u :: us) (v :: vs) = if 0 < cr2 u v then u :: mrg us (v :: vs) else if cr2 u v < 0 then v :: mrg (u :: us) vs else adP u v :: mrg us vs := by rw [mrg]
theorem mrg_nl (v : List Pt) : mrg [] v = v := by rw [mrg]
theorem mrg_cross {u0 v0 : Pt} {U2 V2 : List Pt} : ∀ (n : Nat) (U V : List Pt), U.length + V.length ≤ n → AscV U → AscV V →
    (U = [] → ∀ v ∈ V, cr2 u0 v < 0) → (∀ x, U.getLast? = some x → ∀ w, posV w → 0 < cr2 x w → cr2 u0 w < 0) →
    (V = [] → ∀ u ∈ U, 0 < cr2 u v0) → (∀ x, V.getLast? = some x → ∀ w, posV w → 0 < cr2 x w → 0 < cr2 w v0) →
    mrg (U ++ u0 :: U2) (V ++ v0 :: V2) = mrg U V ++ mrg (u0 :: U2) (v0 :: V2)
  | n, [], [], _, _, _, _, _, _, _ => by rw [mrg.eq_1]; rfl
  | 0, _ :: _, _, hn, _, _, _, _, _, _ => by simp at hn
  | 0, [], _ :: _, hn, _, _, _, _, _, _ => by simp at hn
  | n + 1, [], v :: vs, hn, hU, hV, h1, h2, h3, h4 => by
    have c := h1 rfl v (by simp)
    have ih := mrg_cross (u0 := u0) (v0 := v0) (U2 := U2) (V2 := V2) n [] vs (by simp at hn ⊢; omega) hU hV.tail (fun _ x hx => h1 rfl x (List.mem_cons_of_mem _ hx)) h2 (fun _ u hu => by simp at hu) (fun x hx w hw h0 => by
      match vs, hx with
      | y :: t, hx => exact h4 x (by rw [List.getLast?_cons_cons]; exact hx) w hw h0)
    rw [mrg_nl] at ih
    rw [List.nil_append, List.cons_append, mrg_cc u0 v, if_neg (by omega), if_pos c]
    rw [List.nil_append] at ih
    rw [ih, mrg_nl]
    rfl
  | n + 1, u :: us, [], hn, hU, hV, h1, h2, h3, h4 => by
    have c := h3 rfl u (by simp)
    have ih := mrg_cross (u0 := u0) (v0 := v0) (U2 := U2) (V2 := V2) n us [] (by simp at hn ⊢; omega) hU.tail hV (fun _ u hu => by simp at hu) (fun x hx w hw h0 => by
      match us, hx with
      | y :: t, hx => exact h2 x (by rw [List.getLast?_cons_cons]; exact hx) w hw h0) (fun _ x hx => h3 rfl x (List.mem_cons_of_mem _ hx)) h4
    rw [mrg_nil] at ih
    rw [List.nil_append, List.cons_append, mrg_cc u v0, if_pos c]
    rw [List.nil_append] at ih
    rw [ih, mrg_nil]
    rfl
  | n + 1, u :: us, v :: vs, hn, hU, hV, h1, h2, h3, h4 => by
    have lu : ∀ x, us.getLast? = some x → ∀ w, posV w → 0 < cr2 x w → cr2 u0 w < 0 := fun x hx w hw h0 => by
      match us, hx with
      | y :: t, hx => exact h2 x (by rw [List.getLast?_cons_cons]; exact hx) w hw h0
    have lv : ∀ x, vs.getLast? = some x → ∀ w, posV w → 0 < cr2 x w → 0 < cr2 w v0 := fun x hx w hw h0 => by
      match vs, hx with
      | y :: t, hx => exact h4 x (by rw [List.getLast?_cons_cons]; exact hx) w hw h0
    have pu : posV u := hU.2 u (by simp)
    have pv : posV v := hV.2 v (by simp)
    rw [List.cons_append, List.cons_append, mrg, mrg]
    split
    · rename_i c
      rw [← List.cons_append, mrg_cross n us (v :: vs) (by simp at hn ⊢; omega) hU.tail hV (fun e x hx => ?_) lu (fun e => nomatch e) h4]
      · rfl
      · subst e
        refine h2 u rfl x (hV.2 x hx) ?_
        rcases List.mem_cons.1 hx with rfl | hx
        · exact c
        · exact (cr_tr pu pv (hV.2 x (List.mem_cons_of_mem _ hx)) (Int.le_of_lt c) (Int.le_of_lt (hV.aft hx))).2 (.inl c)
    · split
      · rename_i c c'
        have c2 : 0 < cr2 v u := by rw [cr2_anti]; omega
        rw [← List.cons_append, mrg_cross n (u :: us) vs (by simp at hn ⊢; omega) hU hV.tail (fun e => nomatch e) h2 (fun e x hx => ?_) lv]
        · rfl
        · subst e
          refine h4 v rfl x (hU.2 x hx) ?_
          rcases List.mem_cons.1 hx with rfl | hx
          · exact c2
          · exact (cr_tr pv pu (hU.2 x (List.mem_cons_of_mem _ hx)) (Int.le_of_lt c2) (Int.le_of_lt (hU.aft hx))).2 (.inl c2)
      · rename_i c c'
        have c0 : cr2 u v = 0 := by omega
        have c1 : cr2 v u = 0 := by rw [cr2_anti, c0]; rfl
        rw [mrg_cross n us vs (by simp at hn ⊢; omega) hU.tail hV.tail (fun e x hx => ?_) lu (fun e x hx => ?_) lv]
        · rfl
        · subst e
          exact h2 u rfl x (hV.2 x (List.mem_cons_of_mem _ hx)) ((cr_tr pu pv (hV.2 x (List.mem_cons_of_mem _ hx)) (by omega) (Int.le_of_lt (hV.aft hx))).2 (.inr (hV.aft hx)))
        · subst e
          exact h4 v rfl x (hU.2 x (List.mem_cons_of_mem _ hx)) ((cr_tr pv pu (hU.2 x (List.mem_cons_of_mem _ hx)) (by omega) (Int.le_of_lt (hU.aft hx))).2 (.inr (hU.aft hx)))
theorem cr2_ng (a b : Pt) : cr2 (ngP a) (ngP b) = cr2 a b := by unfold cr2 ngP; simp only; grind
theorem adP_ng (a b : Pt) : adP (ngP a) (ngP b) = ngP (adP a b) := by unfold adP ngP; ext <;> simp <;> omega
theorem dif_ng (a b : Pt) : dif (ngP a) (ngP b) = ngP (dif a b) := by unfold dif ngP; ext <;> simp <;> omega
theorem mrg_ng : ∀ (n : Nat) (u v : List Pt), u.length + v.length ≤ n → mrg (ngL u) (ngL v) = ngL (mrg u v)
  | _, [], v, _ => by show mrg [] _ = _; rw [mrg, mrg]
  | _, u :: us, [], _ => by show mrg _ [] = _; rw [mrg_nil, mrg_nil]
  | 0, _ :: _, _ :: _, hn => by simp at hn
  | n + 1, u :: us, v :: vs, hn => by
    have i1 := mrg_ng n us (v :: vs) (by simp at hn ⊢; omega)
    have i2 := mrg_ng n (u :: us) vs (by simp at hn ⊢; omega)
    have i3 := mrg_ng n us vs (by simp at hn ⊢; omega)
    show mrg (ngP u :: ngL us) (ngP v :: ngL vs) = _
    rw [mrg, mrg, cr2_ng]
    split
    · show _ = ngP u :: ngL _
      rw [← i1]
      rfl
    · split
      · show _ = ngP v :: ngL _
        rw [← i2]
        rfl
      · show _ = ngP (adP u v) :: ngL _
        rw [← i3, adP_ng]
theorem sd_ng : ∀ (l : List Pt), sdL (ngL l) = ngL (sdL l)
  | [] => rfl
  | [_] => rfl
  | a :: b :: t => by
    show dif (ngP b) (ngP a) :: sdL (ngL (b :: t)) = ngP (dif b a) :: ngL (sdL (b :: t))
    rw [dif_ng, sd_ng (b :: t)]
theorem cumP_ng : ∀ (vs : List Pt) (p : Pt), cumP (ngP p) (ngL vs) = ngL (cumP p vs)
  | [], p => rfl
  | v :: vs, p => by
    show ngP p :: cumP (adP (ngP p) (ngP v)) (ngL vs) = ngP p :: ngL (cumP (adP p v) vs)
    rw [adP_ng, cumP_ng vs]
theorem ngL_rev (l : List Pt) : ngL l.reverse = (ngL l).reverse := by unfold ngL; rw [List.map_reverse]
theorem low_g {s : List Pt} (h : Asc s) (h0 : s ≠ []) : ChI (fun q => q ∈ hulL s) (lowR s) := by
  by_cases h3 : 3 ≤ s.length
  · exact (low_ok h h0).sub (fun q hq => hul_in h hq) fun z hz => low_hul h h3 hz
  · have e : hulL s = s := by unfold hulL; rw [if_pos (by omega)]
    rw [e]
    exact low_ok h h0
theorem upp_g {s : List Pt} (h : Asc s) (h0 : s ≠ []) : ChI (fun q => ngP q ∈ hulL s) (ngL (uppR s)) := by
  by_cases h3 : 3 ≤ s.length
  · exact (upp_ok h h0).sub (fun q hq => hul_in h hq) fun z hz => upp_hul h h3 (mem_ngL.1 hz)
  · have e : hulL s = s := by unfold hulL; rw [if_pos (by omega)]
    rw [e]
    exact upp_ok h h0
section sums
variable {s t w : List Pt} (hs : Asc s) (ht : Asc t) (hw : Asc w) (s0 : s ≠ []) (t0 : t ≠ []) (w0 : w ≠ []) (e : ∀ z, z ∈ w ↔ smS (fun q => q ∈ hulL s) (fun q => q ∈ hulL t) z)
include hs ht hw s0 t0 w0 e
theorem sum_low {p q : Pt} {A B : List Pt} (eA : (lowR s).reverse = p :: A) (eB : (lowR t).reverse = q :: B) : (lowR w).reverse = cumP (adP p q) (mrg (sdL (p :: A)) (sdL (q :: B))) := by
  have h := low_g hs s0
  have g := low_g ht t0
  rw [← List.reverse_reverse (lowR s), eA] at h
  rw [← List.reverse_reverse (lowR t), eB] at g
  have := ((chi_sum h g).ext fun z => (e z).symm).uniq (low_ok hw w0)
  rw [← this, List.reverse_reverse]
theorem sum_upp {p q : Pt} {A B : List Pt} (eA : (uppR s).reverse = p :: A) (eB : (uppR t).reverse = q :: B) : (uppR w).reverse = cumP (adP p q) (mrg (sdL (p :: A)) (sdL (q :: B))) := by
  have h := upp_g hs s0
  have g := upp_g ht t0
  rw [← List.reverse_reverse (ngL (uppR s)), ← ngL_rev, eA] at h
  rw [← List.reverse_reverse (ngL (uppR t)), ← ngL_rev, eB] at g
  have k := chi_sum (p := ngP p) (q := ngP q) (A := ngL A) (B := ngL B) h g
  have k1 : ChI (fun z => ngP z ∈ w) (cumP (adP (ngP p) (ngP q)) (mrg (sdL (ngP p :: ngL A)) (sdL (ngP q :: ngL B)))).reverse := k.ext fun z => by
    rw [e]
    constructor
    · rintro ⟨a, b, ha, hb, rfl⟩
      exact ⟨ngP a, ngP b, ha, hb, (adP_ng a b).symm⟩
    · rintro ⟨a, b, ha, hb, hz⟩
      refine ⟨ngP a, ngP b, by show ngP (ngP a) ∈ hulL s; rw [ngP_ng]; exact ha, by show ngP (ngP b) ∈ hulL t; rw [ngP_ng]; exact hb, ?_⟩
      rw [adP_ng, ← hz, ngP_ng]
  have := k1.uniq (upp_ok hw w0)
  have e1 : sdL (ngP p :: ngL A) = ngL (sdL (p :: A)) := sd_ng (p :: A)
  have e2 : sdL (ngP q :: ngL B) = ngL (sdL (q :: B)) := sd_ng (q :: B)
  rw [e1, e2, mrg_ng _ _ _ (Nat.le_refl _), adP_ng, cumP_ng, ← ngL_rev] at this
  have := congrArg ngL this
  rw [ngL_ng, ngL_ng] at this
  rw [← this, List.reverse_reverse]
end sums
theorem rev_ends {R : List Pt} (h : 2 ≤ R.length) : ∃ A, R.reverse = R.getD (R.length - 1) (0, 0) :: (A ++ [R.getD 0 (0, 0)]) := by
  match R, h with
  | b :: r, h =>
    rcases List.eq_nil_or_concat r with rfl | ⟨r', l, rfl⟩
    · simp at h
    · refine ⟨r'.reverse, ?_⟩
      simp [List.getD]
theorem hul_shape {s : List Pt} (h : Asc s) (h2 : 2 ≤ s.length) : ∃ p m A U, (lowR s).reverse = p :: (A ++ [m]) ∧ (uppR s).reverse = m :: (U ++ [p]) ∧ hulL s = (p :: A) ++ (m :: U) := by
  have s0 : s ≠ [] := by intro e; rw [e] at h2; simp at h2
  obtain ⟨_, _, e1, e2, _, _⟩ := hul_ends h s0
  have l1 : 2 ≤ (lowR s).length := by rw [low_len]; exact chn_ge h2
  have l2 : 2 ≤ (uppR s).length := by rw [upp_len]; exact chn_ge (by rw [revP_len]; exact h2)
  obtain ⟨A, eA⟩ := rev_ends l1
  obtain ⟨U, eU⟩ := rev_ends l2
  rw [← e1, e2] at eU
  refine ⟨_, _, A, U, eA, eU, ?_⟩
  rw [hul_of h2, eA, eU]
  have m1 : (lowR s).length - 1 = A.length + 1 := by
    have := congrArg List.length eA
    simp at this
    omega
  have m2 : (uppR s).length - 1 = U.length + 1 := by
    have := congrArg List.length eU
    simp at this
    omega
  rw [m1, m2]
  simp
theorem sd_app : ∀ (X : List Pt) (m : Pt) (Y : List Pt), sdL (X ++ m :: Y) = sdL (X ++ [m]) ++ sdL (m :: Y)
  | [], m, Y => rfl
  | [x], m, Y => rfl
  | x :: y :: X, m, Y => by
    show dif y x :: sdL ((y :: X) ++ m :: Y) = dif y x :: (sdL ((y :: X) ++ [m]) ++ sdL (m :: Y))
    rw [sd_app (y :: X) m Y]
theorem cumP_app : ∀ (X Y : List Pt) (p : Pt), cumP p (X ++ Y) = (cumP p X).dropLast ++ cumP (endP p X) Y
  | [], Y, p => rfl
  | v :: vs, Y, p => by
    show p :: cumP (adP p v) (vs ++ Y) = (p :: cumP (adP p v) vs).dropLast ++ cumP (endP (adP p v) vs) Y
    rw [cumP_app vs Y]
    obtain ⟨t, e⟩ := cumP_cons vs (adP p v)
    rw [e]
    rfl
theorem cumP_mv : ∀ (vs : List Pt) (a p : Pt), cumP (adP a p) vs = (cumP p vs).map (adP a)
  | [], a, p => rfl
  | v :: vs, a, p => by
    show adP a p :: cumP (adP (adP a p) v) vs = adP a p :: (cumP (adP p v) vs).map (adP a)
    rw [ad_r, cumP_mv vs]
theorem endP_sd2 : ∀ (A : List Pt) (p m : Pt), endP p (sdL (p :: (A ++ [m]))) = m
  | [], p, m => ad_dif p m
  | a :: A, p, m => by
    show endP (adP p (dif a p)) (sdL (a :: (A ++ [m]))) = m
    rw [ad_dif]
    exact endP_sd2 A a m
def sdC (h : List Pt) : List Pt := sdL (h ++ h.take 1)
def addL (g h : List Pt) : List Pt := adP (g.getD 0 (0, 0)) (h.getD 0 (0, 0)) :: (cumP (adP (g.getD 0 (0, 0)) (h.getD 0 (0, 0))) (mrg (sdC g) (sdC h))).tail.filter fun z => decide (z ≠ adP (g.getD 0 (0, 0)) (h.getD 0 (0, 0)))
theorem cross_ok {S : Pt → Prop} {p m b : Pt} {UL : List Pt} (h : LCh S [] p UL) (e : endP p UL = m) (hb : S b) (hp : posV (ngP (dif b m))) : ∀ x, UL.getLast? = some x → ∀ w, posV w → 0 < cr2 x w → cr2 (dif b m) w < 0 := by
  intro x hx w hw h0
  obtain ⟨h1, h2⟩ := lch_last h x hx
  rw [e] at h1
  have a1 := h1 b hb
  have a2 : cr2 (ngP (dif b m)) x = cr2 x (dif b m) := by unfold cr2 ngP; simp only; grind
  have a3 := (cr_tr hp h2 hw (by omega) (Int.le_of_lt h0)).2 (.inr h0)
  have a4 : cr2 (ngP (dif b m)) w = - cr2 (dif b m) w := by unfold cr2 ngP; simp only; grind
  omega
theorem hul_sides {s : List Pt} (h : Asc s) (h2 : 2 ≤ s.length) : ∃ p m A U b U', (lowR s).reverse = p :: (A ++ [m]) ∧ (uppR s).reverse = m :: (U ++ [p]) ∧ hulL s = (p :: A) ++ (m :: U) ∧ U ++ [p] = b :: U' ∧
    sdC (hulL s) = sdL (p :: (A ++ [m])) ++ sdL (m :: (U ++ [p])) ∧ LCh (fun q => q ∈ hulL s) [] p (sdL (p :: (A ++ [m]))) ∧ endP p (sdL (p :: (A ++ [m]))) = m ∧ sdL (p :: (A ++ [m])) ≠ [] ∧
    (∀ x, (sdL (p :: (A ++ [m]))).getLast? = some x → ∀ w, posV w → 0 < cr2 x w → cr2 (dif b m) w < 0) := by
  have s0 : s ≠ [] := by intro e; rw [e] at h2; simp at h2
  obtain ⟨p, m, A, U, eA, eU, eH⟩ := hul_shape h h2
  obtain ⟨b, U', eb⟩ : ∃ b U', U ++ [p] = b :: U' := by
    cases U
    · exact ⟨_, _, rfl⟩
    · exact ⟨_, _, rfl⟩
  have L := low_g h s0
  rw [← List.reverse_reverse (lowR s), eA] at L
  have L1 := lch_of (A ++ [m]) p [] (by rw [List.append_nil]; exact L)
  have V := upp_g h s0
  rw [← List.reverse_reverse (ngL (uppR s)), ← ngL_rev, eU] at V
  have V1 := lch_of (ngL (U ++ [p])) (ngP m) [] (by rw [List.append_nil]; exact V)
  have hb : b ∈ hulL s := by
    have : b ∈ U ++ [p] := by rw [eb]; simp
    rw [eH]
    rcases List.mem_append.1 this with h | h
    · simp [h]
    · simp at h
      simp [h]
  have he : endP p (sdL (p :: (A ++ [m]))) = m := endP_sd2 A p m
  refine ⟨p, m, A, U, b, U', eA, eU, eH, eb, ?_, L1, he, ?_, ?_⟩
  · unfold sdC
    rw [eH]
    have : (p :: A ++ m :: U) ++ (p :: A ++ m :: U).take 1 = (p :: A) ++ m :: (U ++ [p]) := by simp
    rw [this, sd_app]
    rfl
  · cases A <;> simp [sdL]
  · refine cross_ok L1 he hb ?_
    rw [eb] at V1
    have : LCh (fun q => ngP q ∈ hulL s) [] (ngP m) (dif (ngP b) (ngP m) :: sdL (ngP b :: ngL U')) := V1
    have := this.2.1
    rwa [dif_ng] at this
theorem add_two {s t w : List Pt} (hs : Asc s) (ht : Asc t) (hw : Asc w) (s2 : 2 ≤ s.length) (t2 : 2 ≤ t.length) (e : ∀ z, z ∈ w ↔ smS (fun q => q ∈ hulL s) (fun q => q ∈ hulL t) z) : addL (hulL s) (hulL t) = hulL w := by
  have s0 : s ≠ [] := by intro e; rw [e] at s2; simp at s2
  have t0 : t ≠ [] := by intro e; rw [e] at t2; simp at t2
  obtain ⟨p, m, A, U, b, U', eA, eU, eH, eb, eC, L, eE, n0, cU⟩ := hul_sides hs s2
  obtain ⟨q, n, B, V, c, V', fA, fU, fH, fb, fC, M, fE, k0, cV⟩ := hul_sides ht t2
  have w2 : 2 ≤ w.length := by
    have nd := hul_nodup hs
    rw [eH] at nd
    have hpm : p ≠ m := by
      have := (List.nodup_append.1 nd).2.2 p (by simp) m (by simp)
      exact this
    have i1 : adP p q ∈ w := (e _).2 ⟨p, q, by rw [eH]; simp, by rw [fH]; simp, rfl⟩
    have i2 : adP m q ∈ w := (e _).2 ⟨m, q, by rw [eH]; simp, by rw [fH]; simp, rfl⟩
    refine two_of i1 i2 fun h => hpm ?_
    unfold adP at h
    obtain ⟨p1, p2⟩ := p
    obtain ⟨m1, m2⟩ := m
    simp only [Prod.mk.injEq] at h ⊢
    omega
  have w0 : w ≠ [] := by intro e; rw [e] at w2; simp at w2
  obtain ⟨r, o, X, Y, g1, g2, g3⟩ := hul_shape hw w2
  have k1 := sum_low hs ht hw s0 t0 w0 e eA fA
  have k2 := sum_upp hs ht hw s0 t0 w0 e eU fU
  have x1 : mrg (sdC (hulL s)) (sdC (hulL t)) = mrg (sdL (p :: (A ++ [m]))) (sdL (q :: (B ++ [n]))) ++ mrg (sdL (m :: (U ++ [p]))) (sdL (n :: (V ++ [q]))) := by
    rw [eC, fC, eb, fb]
    refine mrg_cross _ _ _ (Nat.le_refl _) (lch_asc L) (lch_asc M) (fun h => absurd h n0) cU (fun h => absurd h k0) fun x hx w hw h0 => ?_
    have := cV x hx w hw h0
    rw [cr2_anti]
    omega
  have x2 : endP (adP p q) (mrg (sdL (p :: (A ++ [m]))) (sdL (q :: (B ++ [n])))) = adP m n := by rw [endP_mrg _ _ _ (Nat.le_refl _), eE, fE]
  have p1 : (hulL s).getD 0 (0, 0) = p := by rw [eH]; rfl
  have p2 : (hulL t).getD 0 (0, 0) = q := by rw [fH]; rfl
  unfold addL
  rw [p1, p2, x1, cumP_app, x2, ← k1, ← k2, g1, g2]
  have hr : adP p q = r := by
    rw [g1] at k1
    obtain ⟨t', e'⟩ := cumP_cons (mrg (sdL (p :: (A ++ [m]))) (sdL (q :: (B ++ [n])))) (adP p q)
    rw [e'] at k1
    exact (List.cons.inj k1).1.symm
  rw [hr, g3]
  have nd := hul_nodup hw
  rw [g3] at nd
  have nd' := (List.nodup_cons.1 nd).1
  have x3 : (r :: (X ++ [o])).dropLast ++ o :: (Y ++ [r]) = r :: (X ++ o :: Y ++ [r]) := by
    rw [show r :: (X ++ [o]) = (r :: X) ++ [o] from rfl, List.dropLast_concat]
    simp
  rw [x3, List.tail_cons, List.filter_append, List.filter_eq_self.2 fun z hz => ?_]
  · simp
  · refine decide_eq_true fun h => nd' ?_
    rw [← h]
    exact hz
theorem mrg_z (v : Pt) (vs : List Pt) : mrg [(0, 0)] (v :: vs) = v :: vs := by
  have e1 : cr2 (0, 0) v = 0 := by unfold cr2; simp
  rw [mrg, if_neg (by omega), if_neg (by omega), mrg]
  unfold adP
  simp
theorem mrg_z' (v : Pt) (vs : List Pt) : mrg (v :: vs) [(0, 0)] = v :: vs := by
  have e1 : cr2 v (0, 0) = 0 := by unfold cr2; simp
  rw [mrg, if_neg (by omega), if_neg (by omega), mrg_nil]
  unfold adP
  simp
theorem sdC_cons (q : Pt) (B : List Pt) : ∃ v vs, sdC (q :: B) = v :: vs := by
  cases B
  · exact ⟨_, _, rfl⟩
  · exact ⟨_, _, rfl⟩
theorem sdC_one (a : Pt) : sdC [a] = [(0, 0)] := by
  unfold sdC
  show [dif a a] = _
  unfold dif
  simp
theorem add_one (a q : Pt) (B : List Pt) (hn : (q :: B).Nodup) : addL [a] (q :: B) = (q :: B).map (adP a) := by
  obtain ⟨v, vs, e⟩ := sdC_cons q B
  unfold addL
  rw [sdC_one, e, mrg_z, ← e]
  show adP a q :: ((cumP (adP a q) (sdC (q :: B))).tail.filter fun z => decide (z ≠ adP a q)) = _
  have : sdC (q :: B) = sdL (q :: (B ++ [q])) := rfl
  rw [this, cumP_mv, cumP_sd]
  simp only [List.map_cons, List.map_append, List.tail_cons, List.filter_append, List.map_nil]
  rw [List.filter_eq_self.2 fun z hz => ?_]
  · simp
  · obtain ⟨y, hy, rfl⟩ := List.mem_map.1 hz
    refine decide_eq_true fun h => (List.nodup_cons.1 hn).1 ?_
    have : y = q := by
      unfold adP at h
      obtain ⟨y1, y2⟩ := y
      obtain ⟨q1, q2⟩ := q
      simp only [Prod.mk.injEq] at h ⊢
      omega
    rw [← this]
    exact hy
theorem add_one' (a q : Pt) (B : List Pt) : addL (q :: B) [a] = addL [a] (q :: B) := by
  obtain ⟨v, vs, e⟩ := sdC_cons q B
  unfold addL
  rw [sdC_one, e, mrg_z, mrg_z']
  show adP q a :: ((cumP (adP q a) (v :: vs)).tail.filter fun z => decide (z ≠ adP q a)) = adP a q :: ((cumP (adP a q) (v :: vs)).tail.filter fun z => decide (z ≠ adP a q))
  rw [adP_comm]
theorem adP_mv (a : Pt) (l : List Pt) : l.map (adP a) = mvL a.1 a.2 l := by
  unfold mvL
  refine List.map_congr_left fun z _ => ?_
  unfold adP mvP
  simp only [Int.add_comm]
theorem hul_self {t : List Pt} (ht : Asc t) : hulL (srtL (hulL t)) = hulL t := hul_mid ht (srtL_asc _) (fun q hq => hul_in ht ((srtL_mem _ _).1 hq)) fun v hv => (srtL_mem _ _).2 hv
theorem hul_move {t w : List Pt} (a : Pt) (ht : Asc t) (hw : Asc w) (e : ∀ z, z ∈ w ↔ z ∈ (hulL t).map (adP a)) : (hulL t).map (adP a) = hulL w := by
  have : w = srtL (mvL a.1 a.2 (hulL t)) := asc_ext hw (srtL_asc _) fun z => by rw [srtL_mem, e, adP_mv]
  rw [this, srtL_mv, hul_mv, hul_self ht, adP_mv]
theorem hul_neK {t : List Pt} (t0 : t ≠ []) (ht : Asc t) : ∃ q B, hulL t = q :: B := by
  by_cases h2 : 2 ≤ t.length
  · obtain ⟨p, m, A, U, _, _, e⟩ := hul_shape ht h2
    exact ⟨p, _, e⟩
  · match t, t0, h2 with
    | [a], _, _ => exact ⟨a, [], rfl⟩
    | _ :: _ :: _, _, h => simp at h
theorem add_hul {s t w : List Pt} (hs : Asc s) (ht : Asc t) (hw : Asc w) (s0 : s ≠ []) (t0 : t ≠ []) (e : ∀ z, z ∈ w ↔ smS (fun q => q ∈ hulL s) (fun q => q ∈ hulL t) z) : addL (hulL s) (hulL t) = hulL w := by
  by_cases s2 : 2 ≤ s.length
  · by_cases t2 : 2 ≤ t.length
    · exact add_two hs ht hw s2 t2 e
    · match t, t0, t2 with
      | _ :: _ :: _, _, h => simp at h
      | [a], _, _ =>
        obtain ⟨q, B, eB⟩ := hul_neK s0 hs
        have e1 : hulL [a] = [a] := rfl
        have nd := hul_nodup hs
        rw [e1, eB, add_one', add_one a q B (by rw [← eB]; exact nd), ← eB]
        refine hul_move a hs hw fun z => ?_
        rw [e, e1, List.mem_map]
        constructor
        · rintro ⟨x, y, hx, hy, rfl⟩
          rw [List.mem_singleton] at hy
          subst hy
          exact ⟨x, hx, adP_comm _ _⟩
        · rintro ⟨x, hx, rfl⟩
          exact ⟨x, a, hx, by simp, adP_comm _ _⟩
  · match s, s0, s2 with
    | _ :: _ :: _, _, h => simp at h
    | [a], _, _ =>
      obtain ⟨q, B, eB⟩ := hul_neK t0 ht
      have e1 : hulL [a] = [a] := rfl
      have nd := hul_nodup ht
      rw [e1, eB, add_one a q B (by rw [← eB]; exact nd), ← eB]
      refine hul_move a ht hw fun z => ?_
      rw [e, e1, List.mem_map]
      constructor
      · rintro ⟨x, y, hx, hy, rfl⟩
        rw [List.mem_singleton] at hx
        subst hx
        exact ⟨y, hy, rfl⟩
      · rintro ⟨y, hy, rfl⟩
        exact ⟨a, y, by simp, hy, rfl⟩
def hsP (a b q : Pt) : Bool := hasB a.1 a.2 b.1 b.2 q.1 q.2
def inT (a b c q : Pt) : Prop := (crP a b c = 0 ∧ (a = q ∨ (a ≠ b ∧ hsP a b q = true) ∨ (b ≠ c ∧ hsP b c q = true) ∨ (a ≠ c ∧ hsP a c q = true))) ∨
  (0 < crP a b c ∧ 0 ≤ crP a b q ∧ 0 ≤ crP b c q ∧ 0 ≤ crP c a q) ∨ (crP a b c < 0 ∧ crP a b q ≤ 0 ∧ crP b c q ≤ 0 ∧ crP c a q ≤ 0)
theorem hsP_iff {a b q : Pt} : hsP a b q = true ↔ crP a b q = 0 ∧ (a.1 - q.1) * (b.1 - q.1) + (a.2 - q.2) * (b.2 - q.2) ≤ 0 := by
  unfold hsP hasB
  rw [Bool.and_eq_true, beq_iff_eq, decide_eq_true_eq]
  have : (a.1 - q.1) * (b.2 - q.2) - (a.2 - q.2) * (b.1 - q.1) = crP a b q := by unfold crP crossI; grind
  rw [this]
theorem hsP_comm (a b q : Pt) : hsP a b q = hsP b a q := by
  rw [Bool.eq_iff_iff, hsP_iff, hsP_iff, crP_sw a b q]
  have : (a.1 - q.1) * (b.1 - q.1) + (a.2 - q.2) * (b.2 - q.2) = (b.1 - q.1) * (a.1 - q.1) + (b.2 - q.2) * (a.2 - q.2) := by grind
  rw [this]
  omega
theorem sq_pos {a b : Pt} (h : a ≠ b) : 0 < (b.1 - a.1) * (b.1 - a.1) + (b.2 - a.2) * (b.2 - a.2) := by
  have m1 := mul_sq (b.1 - a.1)
  have m2 := mul_sq (b.2 - a.2)
  rcases Int.lt_or_le 0 ((b.1 - a.1) * (b.1 - a.1) + (b.2 - a.2) * (b.2 - a.2)) with c | c
  · exact c
  · exfalso
    have z1 : (b.1 - a.1) * (b.1 - a.1) = 0 := by omega
    have z2 : (b.2 - a.2) * (b.2 - a.2) = 0 := by omega
    have y1 := Int.mul_eq_zero.1 z1
    have y2 := Int.mul_eq_zero.1 z2
    refine h (Prod.ext ?_ ?_) <;> omega
theorem seg_nn {a b q u v : Pt} (h : a ≠ b) (hs : hsP a b q = true) (ha : 0 ≤ crP u v a) (hb : 0 ≤ crP u v b) : 0 ≤ crP u v q := by
  obtain ⟨h0, h1⟩ := hsP_iff.1 hs
  have D := sq_pos h
  have m1 := mul_sq (q.1 - a.1)
  have m2 := mul_sq (q.2 - a.2)
  have m3 := mul_sq (b.1 - q.1)
  have m4 := mul_sq (b.2 - q.2)
  have t0 : 0 ≤ (q.1 - a.1) * (b.1 - a.1) + (q.2 - a.2) * (b.2 - a.2) := by
    have e : (q.1 - a.1) * (b.1 - a.1) + (q.2 - a.2) * (b.2 - a.2) = (q.1 - a.1) * (q.1 - a.1) + (q.2 - a.2) * (q.2 - a.2) - ((a.1 - q.1) * (b.1 - q.1) + (a.2 - q.2) * (b.2 - q.2)) := by grind
    omega
  have t1 : 0 ≤ (b.1 - q.1) * (b.1 - a.1) + (b.2 - q.2) * (b.2 - a.2) := by
    have e : (b.1 - q.1) * (b.1 - a.1) + (b.2 - q.2) * (b.2 - a.2) = (b.1 - q.1) * (b.1 - q.1) + (b.2 - q.2) * (b.2 - q.2) - ((a.1 - q.1) * (b.1 - q.1) + (a.2 - q.2) * (b.2 - q.2)) := by grind
    omega
  have e : ((b.1 - a.1) * (b.1 - a.1) + (b.2 - a.2) * (b.2 - a.2)) * crP u v q = ((b.1 - q.1) * (b.1 - a.1) + (b.2 - q.2) * (b.2 - a.2)) * crP u v a + ((q.1 - a.1) * (b.1 - a.1) + (q.2 - a.2) * (b.2 - a.2)) * crP u v b := by
    unfold crP crossI at h0 ⊢
    grind
  refine nn_of_mul D ?_
  rw [e]
  have := Int.mul_nonneg t1 ha
  have := Int.mul_nonneg t0 hb
  omega
theorem tri_nn {a b c q u v : Pt} (h : inT a b c q) (ha : 0 ≤ crP u v a) (hb : 0 ≤ crP u v b) (hc : 0 ≤ crP u v c) : 0 ≤ crP u v q := by
  have e : crP a b c * crP u v q = crP b c q * crP u v a + crP c a q * crP u v b + crP a b q * crP u v c := by unfold crP crossI; grind
  rcases h with ⟨_, h⟩ | ⟨s, h1, h2, h3⟩ | ⟨s, h1, h2, h3⟩
  · rcases h with rfl | ⟨n, h⟩ | ⟨n, h⟩ | ⟨n, h⟩
    · exact ha
    · exact seg_nn n h ha hb
    · exact seg_nn n h hb hc
    · exact seg_nn n h ha hc
  · refine nn_of_mul s ?_
    rw [e]
    have := Int.mul_nonneg h2 ha
    have := Int.mul_nonneg h3 hb
    have := Int.mul_nonneg h1 hc
    omega
  · refine nn_of_mul (D := -crP a b c) (by omega) ?_
    have e' : -crP a b c * crP u v q = -crP b c q * crP u v a + -crP c a q * crP u v b + -crP a b q * crP u v c := by grind
    rw [e']
    have := Int.mul_nonneg (show 0 ≤ -crP b c q by omega) ha
    have := Int.mul_nonneg (show 0 ≤ -crP c a q by omega) hb
    have := Int.mul_nonneg (show 0 ≤ -crP a b q by omega) hc
    omega
def witP (h : List Pt) (q : Pt) : Prop := ∃ i k m, i ≤ k ∧ k ≤ m ∧ m < h.length ∧ inT (h.getD i (0, 0)) (h.getD k (0, 0)) (h.getD m (0, 0)) q
theorem wit_left {h : List Pt} (H : CvH h) {q : Pt} : witP h q ↔ ∀ j, j < h.length → 0 ≤ crP (h.getD j (0, 0)) (nxP h j) q := by
  constructor
  · rintro ⟨i, k, m, h1, h2, h3, ht⟩ j hj
    exact tri_nn ht (cv_nn H hj (getD_mem' (by omega))) (cv_nn H hj (getD_mem' (by omega))) (cv_nn H hj (getD_mem' h3))
  · intro hl
    obtain ⟨i, i1, i2, a, b, c⟩ := fan_tri H hl
    exact ⟨0, i, i + 1, Nat.zero_le _, by omega, i2, .inr (.inl ⟨tri_pos H i1 i2, a, b, c⟩)⟩
theorem noF_iff {h : List Pt} {x y : Int} : noF h x y = true ↔ ∀ j, j < h.length → hsF h x y j = false := by
  unfold noF
  constructor
  · intro e j hj
    have := allQW_iff _ _ e j (Nat.zero_le _) (by omega)
    simpa using this
  · intro e
    exact allQ_allW _ _ fun k _ h2 => by rw [e k (by omega)]; rfl
theorem nx_ne1 {h : List Pt} (H : CvH h) {j : Nat} (hj : j < h.length) : h.getD j (0, 0) ≠ nxP h j := fun e => by
  obtain ⟨x1, _, _⟩ := nx_ne H hj
  exact x1 (nd_inj H.nodup hj (Nat.mod_lt _ (by omega)) e).symm
theorem loc_wit3 {h : List Pt} (H : CvH h) {q : Pt} : 0 ≤ locF h q.1 q.2 ↔ witP h q := by
  rw [wit_left H]
  unfold locF
  rcases hn : noF h q.1 q.2 with _ | _
  · rw [cond_false]
    refine ⟨fun _ => ?_, fun _ => Int.le_refl _⟩
    obtain ⟨j, hj, e⟩ : ∃ j, j < h.length ∧ hsF h q.1 q.2 j = true := by
      refine Classical.byContradiction fun c => ?_
      have : noF h q.1 q.2 = true := noF_iff.2 fun j hj => by
        rcases e : hsF h q.1 q.2 j with _ | _
        · rfl
        · exact absurd ⟨j, hj, e⟩ c
      rw [hn] at this
      cases this
    intro k hk
    exact seg_nn (nx_ne1 H hj) e (cv_nn H hk (getD_mem' hj)) (cv_nn H hk (nx_mem hj))
  · rw [cond_true]
    rcases in_ring H (noF_iff.1 hn) with ⟨e, hl⟩ | ⟨e, hl⟩
    · rw [e]
      exact ⟨fun _ => hl, fun _ => by decide⟩
    · rw [e]
      exact ⟨fun c => absurd c (by decide), fun c => absurd c hl⟩
theorem hsP_self {a q : Pt} : hsP a a q = true ↔ a = q := by
  rw [hsP_iff]
  constructor
  · rintro ⟨_, h⟩
    have m1 := mul_sq (a.1 - q.1)
    have m2 := mul_sq (a.2 - q.2)
    have z1 : (a.1 - q.1) * (a.1 - q.1) = 0 := by omega
    have z2 : (a.2 - q.2) * (a.2 - q.2) = 0 := by omega
    have y1 := Int.mul_eq_zero.1 z1
    have y2 := Int.mul_eq_zero.1 z2
    exact Prod.ext (by omega) (by omega)
  · rintro rfl
    refine ⟨by unfold crP crossI; grind, by simp⟩
theorem hsP_end {a b : Pt} : hsP a b a = true := hsP_iff.2 ⟨crP_ba a b, by simp⟩
theorem crP_aa (a b : Pt) : crP a a b = 0 := by unfold crP crossI; grind
theorem loc_wit1 {a q : Pt} : 0 ≤ locF [a] q.1 q.2 ↔ witP [a] q := by
  have nx : nxP [a] 0 = a := by unfold nxP; simp
  have e0 : hsF [a] q.1 q.2 0 = hsP a a q := by unfold hsF hsP; rw [nx]; rfl
  have r0 : rtF [a] q.1 q.2 0 = false := by
    unfold rtF
    rw [nx]
    show (!(decide (q.2 < a.2) == decide (q.2 < a.2)) && _) = false
    simp
  have hw : witP [a] q ↔ a = q := by
    constructor
    · rintro ⟨i, k, m, h1, h2, h3, ht⟩
      obtain rfl : m = 0 := by simpa using h3
      obtain rfl : k = 0 := by omega
      obtain rfl : i = 0 := by omega
      have ht : inT a a a q := ht
      rcases ht with ⟨_, h⟩ | ⟨s, _⟩ | ⟨s, _⟩
      · rcases h with h | ⟨n, _⟩ | ⟨n, _⟩ | ⟨n, _⟩
        · exact h
        all_goals exact absurd rfl n
      all_goals rw [crP_aa] at s; omega
    · intro e
      exact ⟨0, 0, 0, Nat.le_refl _, Nat.le_refl _, by simp, .inl ⟨crP_aa a a, .inl e⟩⟩
  rw [hw, ← hsP_self]
  unfold locF
  have n0 : noF [a] q.1 q.2 = !hsP a a q := by
    unfold noF
    show (!hsF [a] q.1 q.2 0 && true) = _
    rw [e0, Bool.and_true]
  rw [n0]
  rcases hsP a a q with _ | _
  · have : plF [a] q.1 q.2 [a].length = -1 := pl_none _ fun j hj => by
      obtain rfl : j = 0 := by simpa using hj
      exact r0
    simp only [Bool.not_false, cond_true, this]
    exact ⟨fun c => absurd c (by decide), fun c => by cases c⟩
  · exact ⟨fun _ => rfl, fun _ => Int.le_refl _⟩
theorem loc_wit2 {a b q : Pt} (hab : a ≠ b) : 0 ≤ locF [a, b] q.1 q.2 ↔ witP [a, b] q := by
  have e0 : hsF [a, b] q.1 q.2 0 = hsP a b q := rfl
  have nx1 : nxP [a, b] 1 = a := by unfold nxP; simp
  have nx0 : nxP [a, b] 0 = b := by unfold nxP; simp
  have e1 : hsF [a, b] q.1 q.2 1 = hsP a b q := by rw [hsP_comm a b q]; unfold hsF hsP; rw [nx1]; rfl
  have hw : witP [a, b] q ↔ hsP a b q = true := by
    constructor
    · rintro ⟨i, k, m, h1, h2, h3, ht⟩
      have h3 : m < 2 := h3
      have seg : ∀ u v : Pt, (u = a ∨ u = b) → (v = a ∨ v = b) → u ≠ v → hsP u v q = true → hsP a b q = true := by
        intro u v hu hv n hs
        rcases hu with rfl | rfl <;> rcases hv with rfl | rfl
        · exact absurd rfl n
        · exact hs
        · rw [hsP_comm]; exact hs
        · exact absurd rfl n
      have pt : ∀ u : Pt, (u = a ∨ u = b) → u = q → hsP a b q = true := by
        intro u hu e
        subst e
        rcases hu with rfl | rfl
        · exact hsP_end
        · rw [hsP_comm]; exact hsP_end
      have vx : ∀ j, j < 2 → ([a, b].getD j (0, 0) = a ∨ [a, b].getD j (0, 0) = b) := fun j hj => by
        match j, hj with
        | 0, _ => exact .inl rfl
        | 1, _ => exact .inr rfl
      have ci : ∀ u v w : Pt, (u = a ∨ u = b) → (v = a ∨ v = b) → (w = a ∨ w = b) → crP u v w = 0 := by
        intro u v w hu hv hw
        rcases hu with rfl | rfl <;> rcases hv with rfl | rfl <;> rcases hw with rfl | rfl <;> (unfold crP crossI; grind)
      have z := ci _ _ _ (vx i (by omega)) (vx k (by omega)) (vx m h3)
      rcases ht with ⟨_, h⟩ | ⟨s, _⟩ | ⟨s, _⟩
      · rcases h with h | ⟨n, h⟩ | ⟨n, h⟩ | ⟨n, h⟩
        · exact pt _ (vx i (by omega)) h
        · exact seg _ _ (vx i (by omega)) (vx k (by omega)) n h
        · exact seg _ _ (vx k (by omega)) (vx m h3) n h
        · exact seg _ _ (vx i (by omega)) (vx m h3) n h
      all_goals omega
    · intro e
      exact ⟨0, 0, 1, Nat.le_refl _, by omega, by simp, .inl ⟨crP_aa a b, .inr (.inr (.inl ⟨hab, e⟩))⟩⟩
  rw [hw]
  unfold locF
  have n0 : noF [a, b] q.1 q.2 = !hsP a b q := by
    unfold noF
    show (!hsF [a, b] q.1 q.2 0 && (!hsF [a, b] q.1 q.2 1 && true)) = _
    rw [e0, e1]
    cases hsP a b q <;> rfl
  rw [n0]
  rcases hs : hsP a b q with _ | _
  · have r : rtF [a, b] q.1 q.2 1 = rtF [a, b] q.1 q.2 0 := by
      have s : crP b a q = -crP a b q := crP_sw a b q
      unfold rtF
      rw [nx0, nx1]
      show (!(decide (q.2 < b.2) == decide (q.2 < a.2)) && (decide (q.2 < a.2) == decide (0 < crP b a q))) = (!(decide (q.2 < a.2) == decide (q.2 < b.2)) && (decide (q.2 < b.2) == decide (0 < crP a b q)))
      rw [s]
      by_cases c1 : q.2 < a.2 <;> by_cases c2 : q.2 < b.2
      · simp [c1, c2]
      · have z : crP a b q ≠ 0 := fun e => by
          have := cross_has e (.inr ⟨by omega, c1⟩)
          unfold hsP at hs
          rw [this] at hs
          cases hs
        by_cases c3 : 0 < crP a b q
        · rw [decide_eq_true c1, decide_eq_false c2, decide_eq_true c3, decide_eq_false (show ¬ 0 < -crP a b q by omega)]; rfl
        · rw [decide_eq_true c1, decide_eq_false c2, decide_eq_false c3, decide_eq_true (show 0 < -crP a b q by omega)]; rfl
      · have z : crP a b q ≠ 0 := fun e => by
          have := cross_has e (.inl ⟨by omega, c2⟩)
          unfold hsP at hs
          rw [this] at hs
          cases hs
        by_cases c3 : 0 < crP a b q
        · rw [decide_eq_false c1, decide_eq_true c2, decide_eq_true c3, decide_eq_false (show ¬ 0 < -crP a b q by omega)]; rfl
        · rw [decide_eq_false c1, decide_eq_true c2, decide_eq_false c3, decide_eq_true (show 0 < -crP a b q by omega)]; rfl
      · simp [c1, c2]
    have : plF [a, b] q.1 q.2 [a, b].length = -1 := by
      show (bif rtF [a, b] q.1 q.2 1 then 0 - (bif rtF [a, b] q.1 q.2 0 then 0 - -1 else -1) else (bif rtF [a, b] q.1 q.2 0 then 0 - -1 else -1)) = (-1 : Int)
      rw [r]
      cases rtF [a, b] q.1 q.2 0 <;> rfl
    simp only [Bool.not_false, cond_true, this]
    exact ⟨fun c => absurd c (by decide), fun c => by cases c⟩
  · exact ⟨fun _ => rfl, fun _ => Int.le_refl _⟩
theorem loc_wit {w : List Pt} (hw : Asc w) (w0 : w ≠ []) {q : Pt} : 0 ≤ locF (hulL w) q.1 q.2 ↔ witP (hulL w) q := by
  by_cases h3 : 3 ≤ (hulL w).length
  · exact loc_wit3 (hul_cvh hw h3)
  · have nd := hul_nodup hw
    obtain ⟨p, B, e⟩ := hul_neK w0 hw
    rw [e] at h3 nd ⊢
    match B, h3, nd with
    | [], _, _ => exact loc_wit1
    | [b], _, nd => exact loc_wit2 fun e => by rw [e] at nd; simp at nd
    | _ :: _ :: _, h3, _ => simp at h3
def aff (al be ga : Int) (z : Pt) : Int := al * z.1 + be * z.2 + ga
theorem seg_af {a b q : Pt} {al be ga : Int} (h : a ≠ b) (hs : hsP a b q = true) (ha : 0 ≤ aff al be ga a) (hb : 0 ≤ aff al be ga b) : 0 ≤ aff al be ga q := by
  obtain ⟨h0, h1⟩ := hsP_iff.1 hs
  have D := sq_pos h
  have m1 := mul_sq (q.1 - a.1)
  have m2 := mul_sq (q.2 - a.2)
  have m3 := mul_sq (b.1 - q.1)
  have m4 := mul_sq (b.2 - q.2)
  have t0 : 0 ≤ (q.1 - a.1) * (b.1 - a.1) + (q.2 - a.2) * (b.2 - a.2) := by
    have e : (q.1 - a.1) * (b.1 - a.1) + (q.2 - a.2) * (b.2 - a.2) = (q.1 - a.1) * (q.1 - a.1) + (q.2 - a.2) * (q.2 - a.2) - ((a.1 - q.1) * (b.1 - q.1) + (a.2 - q.2) * (b.2 - q.2)) := by grind
    omega
  have t1 : 0 ≤ (b.1 - q.1) * (b.1 - a.1) + (b.2 - q.2) * (b.2 - a.2) := by
    have e : (b.1 - q.1) * (b.1 - a.1) + (b.2 - q.2) * (b.2 - a.2) = (b.1 - q.1) * (b.1 - q.1) + (b.2 - q.2) * (b.2 - q.2) - ((a.1 - q.1) * (b.1 - q.1) + (a.2 - q.2) * (b.2 - q.2)) := by grind
    omega
  have e : ((b.1 - a.1) * (b.1 - a.1) + (b.2 - a.2) * (b.2 - a.2)) * aff al be ga q = ((b.1 - q.1) * (b.1 - a.1) + (b.2 - q.2) * (b.2 - a.2)) * aff al be ga a + ((q.1 - a.1) * (b.1 - a.1) + (q.2 - a.2) * (b.2 - a.2)) * aff al be ga b := by
    unfold aff
    unfold crP crossI at h0
    grind
  refine nn_of_mul D ?_
  rw [e]
  have := Int.mul_nonneg t1 ha
  have := Int.mul_nonneg t0 hb
  omega
theorem tri_af {a b c q : Pt} {al be ga : Int} (h : inT a b c q) (ha : 0 ≤ aff al be ga a) (hb : 0 ≤ aff al be ga b) (hc : 0 ≤ aff al be ga c) : 0 ≤ aff al be ga q := by
  have e : crP a b c * aff al be ga q = crP b c q * aff al be ga a + crP c a q * aff al be ga b + crP a b q * aff al be ga c := by unfold crP crossI aff; grind
  rcases h with ⟨_, h⟩ | ⟨s, h1, h2, h3⟩ | ⟨s, h1, h2, h3⟩
  · rcases h with rfl | ⟨n, h⟩ | ⟨n, h⟩ | ⟨n, h⟩
    · exact ha
    · exact seg_af n h ha hb
    · exact seg_af n h hb hc
    · exact seg_af n h ha hc
  · refine nn_of_mul s ?_
    rw [e]
    have := Int.mul_nonneg h2 ha
    have := Int.mul_nonneg h3 hb
    have := Int.mul_nonneg h1 hc
    omega
  · refine nn_of_mul (D := -crP a b c) (by omega) ?_
    have e' : -crP a b c * aff al be ga q = -crP b c q * aff al be ga a + -crP c a q * aff al be ga b + -crP a b q * aff al be ga c := by grind
    rw [e']
    have := Int.mul_nonneg (show 0 ≤ -crP b c q by omega) ha
    have := Int.mul_nonneg (show 0 ≤ -crP c a q by omega) hb
    have := Int.mul_nonneg (show 0 ≤ -crP a b q by omega) hc
    omega
def allD (w : List Pt) : Prop := ∀ dx dy : Int, ∃ v ∈ w, 0 ≤ dirV dx dy v
theorem wit_dir {w : List Pt} (hw : Asc w) (w0 : w ≠ []) : witP (hulL w) (0, 0) ↔ allD w := by
  constructor
  · rintro ⟨i, k, m, h1, h2, h3, ht⟩ dx dy
    refine Classical.byContradiction fun hn => ?_
    have lo : ∀ j, j < (hulL w).length → 0 ≤ aff (-dx) (-dy) (-1) ((hulL w).getD j (0, 0)) := fun j hj => by
      have hm := hul_in hw (getD_mem' hj)
      rcases Int.lt_or_le (dirV dx dy ((hulL w).getD j (0, 0))) 0 with c | c
      · unfold dirV at c
        unfold aff
        have e : -dx * ((hulL w).getD j (0, 0)).1 + -dy * ((hulL w).getD j (0, 0)).2 + -1 = -(((hulL w).getD j (0, 0)).1 * dx + ((hulL w).getD j (0, 0)).2 * dy) - 1 := by grind
        omega
      · exact absurd ⟨_, hm, c⟩ hn
    have := tri_af ht (lo i (by omega)) (lo k (by omega)) (lo m h3)
    unfold aff at this
    simp at this
  · intro hd
    have hv : ∀ dx dy : Int, ∃ v ∈ hulL w, 0 ≤ dirV dx dy v := fun dx dy => by
      refine Classical.byContradiction fun hn => ?_
      obtain ⟨v, v1, v2⟩ := hd dx dy
      have := hul_max hw (dx := dx) (dy := dy) (M := -1) (fun u hu => by
        rcases Int.lt_or_le (dirV dx dy u) 0 with c | c
        · omega
        · exact absurd ⟨u, hu, c⟩ hn) v v1
      omega
    by_cases h3 : 3 ≤ (hulL w).length
    · have H := hul_cvh hw h3
      rw [wit_left H]
      intro j hj
      rcases Int.lt_or_le (crP ((hulL w).getD j (0, 0)) (nxP (hulL w) j) (0, 0)) 0 with c | c
      · exfalso
        obtain ⟨v, v1, v2⟩ := hv ((nxP (hulL w) j).2 - ((hulL w).getD j (0, 0)).2) (-((nxP (hulL w) j).1 - ((hulL w).getD j (0, 0)).1))
        have n := cv_nn H hj v1
        have e : crP ((hulL w).getD j (0, 0)) (nxP (hulL w) j) v = crP ((hulL w).getD j (0, 0)) (nxP (hulL w) j) (0, 0) - dirV ((nxP (hulL w) j).2 - ((hulL w).getD j (0, 0)).2) (-((nxP (hulL w) j).1 - ((hulL w).getD j (0, 0)).1)) v := by unfold crP crossI dirV; grind
        omega
      · exact c
    · have nd := hul_nodup hw
      obtain ⟨p, B, e⟩ := hul_neK w0 hw
      rw [e] at h3 nd hv ⊢
      match B, h3, nd, hv with
      | [], _, _, hv =>
        have hp : p = (0, 0) := by
          obtain ⟨v, v1, v2⟩ := hv (-p.1) (-p.2)
          rw [List.mem_singleton.1 v1] at v2
          unfold dirV at v2
          have m1 := mul_sq p.1
          have m2 := mul_sq p.2
          have e1 : p.1 * -p.1 + p.2 * -p.2 = -(p.1 * p.1) - p.2 * p.2 := by grind
          have z1 : p.1 * p.1 = 0 := by omega
          have z2 : p.2 * p.2 = 0 := by omega
          have y1 := Int.mul_eq_zero.1 z1
          have y2 := Int.mul_eq_zero.1 z2
          exact Prod.ext (by simp only; omega) (by simp only; omega)
        exact ⟨0, 0, 0, Nat.le_refl _, Nat.le_refl _, by simp, .inl ⟨crP_aa _ _, .inl hp⟩⟩
      | [b], _, nd, hv =>
        have hab : p ≠ b := fun e => by rw [e] at nd; simp at nd
        have two : ∀ dx dy : Int, 0 ≤ dirV dx dy p ∨ 0 ≤ dirV dx dy b := fun dx dy => by
          obtain ⟨v, v1, v2⟩ := hv dx dy
          rcases List.mem_cons.1 v1 with rfl | v1
          · exact .inl v2
          · rw [List.mem_singleton.1 v1] at v2
            exact .inr v2
        have hc : p.1 * b.2 - p.2 * b.1 = 0 := by
          have t1 := two (p.2 - b.2) (b.1 - p.1)
          have t2 := two (b.2 - p.2) (p.1 - b.1)
          unfold dirV at t1 t2
          have e1 : p.1 * (p.2 - b.2) + p.2 * (b.1 - p.1) = -(p.1 * b.2 - p.2 * b.1) := by grind
          have e2 : b.1 * (p.2 - b.2) + b.2 * (b.1 - p.1) = -(p.1 * b.2 - p.2 * b.1) := by grind
          have e3 : p.1 * (b.2 - p.2) + p.2 * (p.1 - b.1) = p.1 * b.2 - p.2 * b.1 := by grind
          have e4 : b.1 * (b.2 - p.2) + b.2 * (p.1 - b.1) = p.1 * b.2 - p.2 * b.1 := by grind
          omega
        have hdt : p.1 * b.1 + p.2 * b.2 ≤ 0 := by
          have t1 := two (-(p.1 + b.1)) (-(p.2 + b.2))
          unfold dirV at t1
          have m1 := mul_sq p.1
          have m2 := mul_sq p.2
          have m3 := mul_sq b.1
          have m4 := mul_sq b.2
          have e1 : p.1 * -(p.1 + b.1) + p.2 * -(p.2 + b.2) = -(p.1 * p.1) - p.2 * p.2 - (p.1 * b.1 + p.2 * b.2) := by grind
          have e2 : b.1 * -(p.1 + b.1) + b.2 * -(p.2 + b.2) = -(b.1 * b.1) - b.2 * b.2 - (p.1 * b.1 + p.2 * b.2) := by grind
          omega
        have hs : hsP p b (0, 0) = true := hsP_iff.2 ⟨by
          have : crP p b (0, 0) = p.1 * b.2 - p.2 * b.1 := by unfold crP crossI; grind
          rw [this]; exact hc, by simpa using hdt⟩
        exact ⟨0, 0, 1, Nat.le_refl _, by omega, by simp, .inl ⟨crP_aa _ _, .inr (.inr (.inl ⟨hab, hs⟩))⟩⟩
      | _ :: _ :: _, h3, _, _ => simp at h3
open Go.Shelf
def sortPt_ren : Go.Shelf.Ren := ⟨fun | 6 => 74 | 15 => 91 | 14 => 90 | 28 => 106 | 29 => 107 | 20 => 98 | 21 => 99 | 22 => 100 | 23 => 101 | 24 => 102 | 25 => 103 | 26 => 104 | 27 => 105 | 46 => 112 | 47 => 113 | 48 => 114 | 49 => 115 | 50 => 116 | 57 => 118 | n => n, fun | 22 => 23 | 24 => 32 | 25 => 71 | 3 => 3 | 39 => 85 | 0 => 0 | 53 => 99 | 55 => 101 | 4 => 4 | 46 => 92 | 45 => 91 | 50 => 96 | 5 => 5 | 9 => 9 | 66 => 104 | 70 => 108 | 76 => 111 | 77 => 112 | n => n, fun | n => n⟩
theorem sortPt : Go.Proofs.SlLaysF0.n6 Try.prog sortPt_ren := {
  mixed := by kernel_rfl
  f6 := ⟨Try.f74.name, by decide, Try.func74.trans (congrArg some (by kernel_rfl))⟩
  f14 := ⟨Try.f90.name, by decide, Try.func90.trans (congrArg some (by kernel_rfl))⟩
  f15 := Try.func91.trans (congrArg some (by kernel_rfl))
  f20 := ⟨Try.f98.name, by decide, Try.func98.trans (congrArg some (by kernel_rfl))⟩
  f21 := ⟨Try.f99.name, by decide, Try.func99.trans (congrArg some (by kernel_rfl))⟩
  f22 := ⟨Try.f100.name, by decide, Try.func100.trans (congrArg some (by kernel_rfl))⟩
  f23 := ⟨Try.f101.name, by decide, Try.func101.trans (congrArg some (by kernel_rfl))⟩
  f24 := ⟨Try.f102.name, by decide, Try.func102.trans (congrArg some (by kernel_rfl))⟩
  f25 := ⟨Try.f103.name, by decide, Try.func103.trans (congrArg some (by kernel_rfl))⟩
  f26 := ⟨Try.f104.name, by decide, Try.func104.trans (congrArg some (by kernel_rfl))⟩
  f27 := ⟨Try.f105.name, by decide, Try.func105.trans (congrArg some (by kernel_rfl))⟩
  f28 := Try.func106.trans (congrArg some (by kernel_rfl))
  f29 := Try.func107.trans (congrArg some (by kernel_rfl))
  f46 := ⟨Try.f112.name, by decide, Try.func112.trans (congrArg some (by kernel_rfl))⟩
  f47 := Try.func113.trans (congrArg some (by kernel_rfl))
  f48 := Try.func114.trans (congrArg some (by kernel_rfl))
  f49 := ⟨Try.f115.name, by decide, Try.func115.trans (congrArg some (by kernel_rfl))⟩
  f50 := ⟨Try.f116.name, by decide, Try.func116.trans (congrArg some (by kernel_rfl))⟩
  f57 := ⟨Try.f118.name, by decide, Try.func118.trans (congrArg some (by kernel_rfl))⟩
  t0 := Try.underlying0
  a0 := Try.isAgg0
  z0 := Try.sizeOf0
  v0 := Try.zeroValue0
  t3 := Try.underlying3
  a3 := Try.isAgg3
  z3 := Try.sizeOf3
  v3 := Try.zeroValue3
  t4 := Try.underlying4
  a4 := Try.isAgg4
  z4 := Try.sizeOf4
  v4 := Try.zeroValue4
  t5 := Try.underlying5
  a5 := Try.isAgg5
  z5 := Try.sizeOf5
  v5 := Try.zeroValue5
  t9 := Try.underlying9
  a9 := Try.isAgg9
  z9 := Try.sizeOf9
  v9 := Try.zeroValue9
  t22 := Try.underlying23
  a22 := Try.isAgg23
  z22 := Try.sizeOf23
  v22 := Try.zeroValue23
  t25 := Try.underlying71
  a25 := Try.isAgg71
  z25 := Try.sizeOf71
  v25 := Try.zeroValue71
  t39 := Try.underlying85
  a39 := Try.isAgg85
  z39 := Try.sizeOf85
  v39 := Try.zeroValue85
  t45 := Try.underlying91
  a45 := Try.isAgg91
  z45 := Try.sizeOf91
  v45 := Try.zeroValue91
  t46 := Try.underlying92
  a46 := Try.isAgg92
  z46 := Try.sizeOf92
  v46 := Try.zeroValue92
  t50 := Try.underlying96
  a50 := Try.isAgg96
  z50 := Try.sizeOf96
  v50 := Try.zeroValue96
  t53 := Try.underlying99
  a53 := Try.isAgg99
  z53 := Try.sizeOf99
  v53 := Try.zeroValue99
  t55 := Try.underlying101
  a55 := Try.isAgg101
  z55 := Try.sizeOf101
  v55 := Try.zeroValue101
  t66 := Try.underlying104
  a66 := Try.isAgg104
  z66 := Try.sizeOf104
  v66 := Try.zeroValue104
  t70 := Try.underlying108
  a70 := Try.isAgg108
  z70 := Try.sizeOf108
  v70 := Try.zeroValue108
  t76 := Try.underlying111
  a76 := Try.isAgg111
  z76 := Try.sizeOf111
  v76 := Try.zeroValue111
  t77 := Try.underlying112
  a77 := Try.isAgg112
  z77 := Try.sizeOf112
  v77 := Try.zeroValue112 }
open Go.Sort
def orI (x y : Int) : Int := if x = 0 then y else x
theorem or2_any (b c : Nat) (x y : Int) (w : World) (h0 : w.cell? ⟨b, 0, none⟩ = some (.int .i64 x)) (h1 : w.cell? ⟨b, 1, none⟩ = some (.int .i64 y)) :
    Calls Try.prog 92 #[.slice (some ⟨b, 0, none⟩) 2 c] w fun e w' => e = .returned (.int .i64 (orI x y)) ∧ w = w' := by
  go_enter Try.func92, Try.ntmps92
  go_wp2
  go_loopw [8] (fun i wr => ∃ k : Nat, k ≤ 2 ∧ i = .int .i64 k ∧ (1 ≤ k → x = 0) ∧ (2 ≤ k → y = 0) ∧ w = wr) (fun i _ => 2 - (intOf i).toNat)
  case atStart => exact ⟨0, Nat.zero_le _, rfl, fun h => by omega, fun h => by omega, rfl⟩
  case round =>
    obtain ⟨k, hk, rfl, hx, hy, rfl⟩ := hrel
    by_cases k0 : k = 0
    · subst k0
      by_cases x0 : x = 0
      · subst x0
        clear hx hy
        go_wp2
        exact ⟨⟨1, by omega, rfl, fun _ => trivial, fun h => by omega, trivial⟩, by simp [intOf]⟩
      · have E := Lib.hid (show orI x y = x by unfold orI; rw [if_neg x0])
        clear hx hy
        go_wp2
        go_ret
        exact ⟨ret_int E.out.symm, rfl⟩
    · by_cases k1 : k = 1
      · subst k1
        obtain rfl := hx (by omega)
        by_cases y0 : y = 0
        · subst y0
          go_wp2
          exact ⟨⟨2, by omega, rfl, fun _ => trivial, fun _ => trivial, trivial⟩, by simp [intOf]⟩
        · have E := Lib.hid (show orI 0 y = y by unfold orI; rw [if_pos rfl])
          go_wp2
          go_ret
          exact ⟨ret_int E.out.symm, rfl⟩
      · obtain rfl : k = 2 := by omega
        obtain rfl := hx (by omega)
        obtain rfl := hy (by omega)
        have E := Lib.hid (show orI 0 0 = 0 by unfold orI; rw [if_pos rfl])
        go_wp2
        go_ret
        exact ⟨ret_int E.out.symm, rfl⟩
def cmpQ (a b c d : Int) : Int := orI (sgn (a - c)) (sgn (b - d))
theorem cmpPt_any (a b c d : Int) (w : World) :
    Calls Try.prog 75 #[.agg #[.int .i64 a, .int .i64 b], .agg #[.int .i64 c, .int .i64 d]] w fun e w' => e = .returned (.int .i64 (cmpQ a b c d)) ∧ ∃ q os', w' = grow (w.drewN q) os' := by
  go_enter Try.func75, Try.ntmps75
  go_wp2_with fail
  go_region_held3 (fun w' => w'.cell? ⟨w.heap.size, 0, none⟩ = some (.int .i64 a) ∧ w'.cell? ⟨w.heap.size, 1, none⟩ = some (.int .i64 b) ∧ w'.cell? ⟨w.heap.size + 1, 0, none⟩ = some (.int .i64 c) ∧ w'.cell? ⟨w.heap.size + 1, 1, none⟩ = some (.int .i64 d))
    (first | (simp [*, go_sem]; done))
    (first
      | (go_at_call 85; refine (compare_any _ _ _).mono ?_; rintro e wx ⟨rfl, rfl⟩)
      | (go_at_call 92; refine (or2_any _ _ (sgn (a - c)) (sgn (b - d)) _ (by simp [go_sem]; done) (by simp [go_sem]; done)).mono ?_; rintro e wx ⟨rfl, rfl⟩))
  go_wp2
  go_ret
  refine ⟨rfl, 1, _, (?_ : _ = grow (w.drewN 1) #[.cells #[.int .i64 a, .int .i64 b] 32, .cells #[.int .i64 c, .int .i64 d] 32, .cells #[.int .i64 (sgn (a - c)), .int .i64 (sgn (b - d))] 3])⟩
  rw [alloc_eq_grow, alloc_eq_grow, alloc_eq_grow, grow_grow, grow_grow]
  rfl
open Go.Lib
def encP (p : Pt) : List Value := [.int .i64 p.1, .int .i64 p.2]
def cfP (p q : Pt) : Int := cmpQ p.1 p.2 q.1 q.2
theorem cfP_lt (p q : Pt) : ltOf cfP p q = pltB p q := by
  unfold ltOf
  rw [Bool.eq_iff_iff, pltB_iff, decide_eq_true_eq]
  unfold cfP cmpQ orI sgn
  split <;> (try split) <;> (try split) <;> (try split) <;> omega
theorem swoP : SWO (ltOf cfP) where
  irrefl x := by rw [cfP_lt]; exact plt_irr
  trans x y z h1 h2 := by rw [cfP_lt] at *; exact plt_trans h1 h2
  ntrans x y z h1 h2 := by
    rw [cfP_lt] at *
    rw [← Bool.not_eq_true, pltB_iff] at *
    omega
def sortP (ps : List Pt) : List Pt := ps.mergeSort fun x y => !(pltB y x)
theorem sortP_len (ps : List Pt) : (sortP ps).length = ps.length := List.length_mergeSort _
theorem sortP_mem (ps : List Pt) (z : Pt) : z ∈ sortP ps ↔ z ∈ ps := List.mem_mergeSort
theorem sortP_up (ps : List Pt) : (sortP ps).Pairwise fun x y => pltB y x = false := by
  have := List.pairwise_mergeSort (le := fun x y => !(pltB y x)) (fun a b c h1 h2 => by
    simp only [Bool.not_eq_true', ← Bool.not_eq_true, pltB_iff] at *
    omega) (fun a b => by
    simp only [Bool.or_eq_true, Bool.not_eq_true', ← Bool.not_eq_true, pltB_iff]
    omega) ps
  exact this.imp fun h => by simpa using h
theorem sort_any (ps : List Pt) (blk cap : Nat) (w : World) (hH : HoldsK encP 2 w blk 0 ps.toArray) (hblk : blk < w.heap.size) (hsz : ps.length < 4611686018427387904) :
    Calls Try.prog 74 #[.slice (some ⟨blk, 0, none⟩) ps.length cap, .func (.func 75) #[] #[]] w fun e w' => e = .returned (.tuple #[]) ∧ ∃ n os, w' = sortWorldK encP 2 w blk 0 n (sortP ps).toArray os := by
  have eg : ∀ args w, (callFunc 75 args).run Try.prog w = .ok (.enter 75 args) w := Go.Proofs.enters_of Try.func75 (by kernel_rfl) rfl
  have h := AnyQ.slices_SortFunc_total sortPt 2 Try.isAgg32 Try.sizeOf32 encP (fun _ => rfl) (fun x v hv => by simp [encP] at hv; rcases hv with rfl | rfl <;> rfl) cfP swoP 75 #[] blk 0 cap ps.toArray w eg (fun _ _ _ _ x y => cmpPt_any _ _ _ _ _) hH hblk (by simpa using hsz) (fun x y h1 h2 => by
    rw [cfP_lt] at h1 h2
    refine Classical.byContradiction fun hne => ?_
    have := plt_tri h1 hne
    rw [h2] at this
    cases this)
  have e : (fun x y => !(ltOf cfP) y x) = fun x y => !(pltB y x) := by
    funext x y
    rw [cfP_lt]
  simp only [e] at h
  change Calls Try.prog 74 _ _ _ at h
  simpa [sortP] using h
theorem sort_none (p : Option Addr) (cap : Nat) (fv : Value) (w : World) :
    Calls Try.prog 74 #[.slice p 0 cap, fv] w fun e w' => e = .returned (.tuple #[]) ∧ w' = w := AnyF.slices_SortFunc_none sortPt p cap fv w
theorem flatK_flat (ps : List Pt) : flatK encP 2 ps.toArray = ((flat ps).map (Value.int .i64)).toArray := by
  apply Array.ext
  · simp [flat_length]
  · intro i h1 h2
    have h1' : i < ps.length * 2 := by simpa using h1
    have hq : i / 2 < ps.length := by omega
    have e := get_flatK encP 2 ps.toArray i (by simpa using h1')
    rw [getElem!_pos _ i h1] at e
    rw [e]
    have hg := flat_get ps (i / 2)
    have hd : ps.getD (i / 2) (0, 0) = ps[i / 2] := by simp [List.getD, hq]
    rw [hd] at hg
    have hp : ps.toArray[i / 2]! = ps[i / 2] := by simp [hq]
    rw [hp]
    have hl : i < (flat ps).length := by rw [flat_length]; exact h1'
    have hr : ((flat ps).map (Value.int .i64)).toArray[i] = .int .i64 ((flat ps).getD i 0) := by simp [List.getD, hl]
    rw [hr]
    rcases Nat.mod_two_eq_zero_or_one i with h | h
    · have hi : i = i / 2 * 2 := by omega
      rw [h, show (flat ps).getD i 0 = (flat ps).getD (i / 2 * 2) 0 by rw [← hi], hg.1]
      rfl
    · have hi : i = i / 2 * 2 + 1 := by omega
      rw [h, show (flat ps).getD i 0 = (flat ps).getD (i / 2 * 2 + 1) 0 by rw [← hi], hg.2]
      rfl
def soG (cf : FuncId) (args : List Value) : Rd Eff := match args with
  | [.slice (some ⟨nr, 0, none⟩) l _, .func (.func g) ⟨[]⟩ ⟨[]⟩] => .blk nr fun b => match b with
    | some ⟨.row e 2, .ints xs⟩ => (match Nat.beq g cf with
      | true => .ret ⟨.tuple #[], [(nr, ⟨.row e 2, .ints (flat (sortP (ptsA l xs)))⟩)], [xs.length = l * 2, l ≤ 1000000000]⟩
      | false => .fail)
    | _ => .fail
  | _ => .fail
theorem sw_heap (w : World) (blk n : Nat) (d : Array Pt) (os : Array Obj) : (sortWorldK encP 2 w blk 0 n d os).os = w.os ∧ (sortWorldK encP 2 w blk 0 n d os).tape = w.tape ∧ (sortWorldK encP 2 w blk 0 n d os).output = w.output ∧ w.heap.size ≤ (sortWorldK encP 2 w blk 0 n d os).heap.size ∧
    (∀ k, k < w.heap.size → k ≠ blk → (sortWorldK encP 2 w blk 0 n d os).heap[k]? = w.heap[k]?) ∧ ∀ cs e, w.heap[blk]? = some (.cells cs e (0, 0)) → (sortWorldK encP 2 w blk 0 n d os).heap[blk]? = some (.cells (putCells id 0 (flatK encP 2 d) cs) e (0, 0)) := by
  refine ⟨rfl, rfl, rfl, ?_, ?_, ?_⟩
  · simp [sortWorldK, grow, putRowK, putRow, mapBlock, ahead]
  · intro k hk hne
    simp [sortWorldK, grow, putRowK, putRow, mapBlock, ahead, Array.getElem?_append, hk]
    rw [Array.getElem_modify, if_neg (Ne.symm hne)]
  · intro cs e h
    have hk : blk < w.heap.size := (Array.getElem?_eq_some_iff.1 h).1
    have ha : (Sort.ahead w n).heap = w.heap := rfl
    simp only [sortWorldK, grow, putRowK, putRow, mapBlock, Array.getElem?_append, Array.size_modify, Array.getElem?_modify, ha, hk, if_true, h]
    rfl
theorem soG_sound {J : TabJ} (hJ : GSound Try.prog J.g) : GSound Try.prog (consJ 74 (fun _ => soG 75) J).g := by
  intro h name args s eff hr hn
  simp only [consJ] at hr
  split at hr
  rotate_left
  · exact hJ h name args s eff hr hn
  rename_i heq
  obtain rfl := Nat.eq_of_beq_eq_true heq
  refine ⟨(entersB_res (by kernel_rfl)).1, fun B ρ0 ρ w args' ha hm hB hcond => ?_⟩
  unfold soG at hr
  split at hr
  rotate_left
  · simp [Rd.run] at hr
  rename_i nr l c g
  simp only [Rd.run] at hr
  split at hr
  rotate_left
  · simp [Rd.run] at hr
  rename_i e xs hb
  split at hr
  rotate_left
  · simp [Rd.run] at hr
  rename_i hg
  obtain rfl := Nat.eq_of_beq_eq_true hg
  obtain rfl : (⟨.tuple #[], [(nr, ⟨.row e 2, .ints (flat (sortP (ptsA l xs)))⟩)], [xs.length = l * 2, l ≤ 1000000000]⟩ : Eff) = eff := by simpa [Rd.run] using hr
  obtain ⟨hxl, hl, _⟩ := hcond
  obtain ⟨ps, rfl, rfl⟩ := even_flat hxl
  rw [ptsA_flat]
  obtain ⟨hsz, hval⟩ := ha
  obtain ⟨x0, x1, rfl⟩ : ∃ x0 x1, args' = #[x0, x1] := by
    have h2 : args'.size = 2 := by simpa using hsz.symm
    match args', h2 with
    | ⟨[x0, x1]⟩, _ => exact ⟨x0, x1, rfl⟩
  have v0 := hval 0 _ x0 rfl rfl
  have v1 := hval 1 _ x1 rfl rfl
  obtain rfl := v1.plain rfl
  rw [upd_one]
  have hok := hm.ok nr _ hb
  have none_ : ∀ ad c', ps = [] → x0 = .slice ad 0 c' → Calls Try.prog 74 #[x0, .func (.func 75) #[] #[]] w fun e' w' => ∃ v' ρ', e' = .returned v' ∧ Ext ρ ρ' ∧ VR ρ' (.tuple #[]) v' ∧ BelowK B w w' ∧ MemOk ρ0 ρ' B (setB s.blk nr ⟨.row e 2, .ints (flat (sortP ps))⟩) w' := by
    rintro ad c' rfl rfl
    refine (sort_none _ _ _ _).mono ?_
    rintro e' w' ⟨rfl, rfl⟩
    refine ⟨_, ρ, rfl, Ext.refl ρ, .lit rfl, BelowK.refl _ _, ?_⟩
    have e0 : sortP [] = [] := by simp [sortP]
    rw [e0]
    rcases hok with ⟨p, k1, k2, k3⟩ | ⟨g, cap, k1, k2, cs', k3, k4, k5⟩
    · exact hm.setNil hb k1 ⟨k2, 0, k3⟩ (.inl ⟨p, k1, k2, k3⟩)
    · exact hm.set hb rfl k1 (okPl.not (.inl rfl)) (Nat.le_refl _) (fun k _ _ => rfl) (.inr ⟨g, cap, k1, k2, cs', k3, k4, k5⟩)
  rcases v0.slice_inv with ⟨g, f, cp, c', j1, jok, j2, j3, j4⟩ | ⟨hl0, _, ad, c', j2⟩ | ⟨hl0, ad, c', p, j2, _, _, _⟩
  rotate_left
  · exact none_ _ _ (List.eq_nil_of_length_eq_zero hl0) j2
  · exact none_ _ _ (List.eq_nil_of_length_eq_zero hl0) j2
  rcases hok with ⟨p, k1, k2, k3⟩ | ⟨g2, cap, k1, k2, cs', k3, k4, k5⟩
  · rw [k1] at j1
    obtain rfl : p = (g, f, cp) := by simpa using j1
    exact absurd ⟨k2, 0, k3⟩ jok.not
  rw [k1] at j1
  obtain ⟨rfl, rfl, rfl⟩ : g2 = g ∧ 0 = f ∧ some cap = cp := by simpa using j1
  subst j2
  have hcell : ∀ j, j < ps.length * 2 → cs'[j]? = some (.int .i64 ((flat ps).getD j 0)) := fun j hj => by
    have hjl : j < (flat ps).length := by rw [flat_length]; exact hj
    obtain ⟨v', h6, h7⟩ := k5 j (.int .i64 ((flat ps).getD j 0)) (by show ((flat ps).map (Value.int .i64))[j]? = _; simp [List.getD, hjl])
    rw [h7.plain rfl] at h6
    exact h6
  have hH : HoldsK encP 2 w g2 0 ps.toArray := by
    intro j hj
    have hj' : j < ps.length * 2 := by simpa using hj
    have hjl : j < (flat ps).length := by rw [flat_length]; exact hj'
    refine ⟨?_, ?_⟩
    · simp only [World.cell?, Nat.zero_add, k3, Option.isSome_none, Bool.false_eq_true, if_false, hcell j hj', flatK_flat]
      simp [List.getD, hjl]
    · simp [World.frozen?, k3]
  have hg : g2 < w.heap.size := (Array.getElem?_eq_some_iff.1 k3).1
  refine (sort_any ps g2 c' w hH hg (by omega)).mono ?_
  rintro e' w' ⟨rfl, n, os, rfl⟩
  obtain ⟨s1, s2, s3, s4, s5, s6⟩ := sw_heap w g2 n (sortP ps).toArray os
  refine ⟨_, ρ, rfl, Ext.refl ρ, .lit rfl, ⟨s1, s2, s3, s4, fun k hk => s5 k (hB k hk) fun e => k2 (e ▸ hk)⟩, ?_⟩
  refine hm.set hb rfl k1 (okPl.not (.inl rfl)) s4 (fun k hk hne => s5 k hk hne) (.inr ⟨g2, cap, k1, k2, _, s6 cs' e k3, ?_, ?_⟩)
  · simpa [putCells] using k4
  · intro k v hk
    have hk' : ((flat (sortP ps)).map (Value.int .i64))[k]? = some v := hk
    have hkl : k < ps.length * 2 := by
      have := (List.getElem?_eq_some_iff.1 hk').1
      rw [List.length_map, flat_length, sortP_len] at this
      exact this
    have hkc : k < cs'.size := (Array.getElem?_eq_some_iff.1 (hcell k hkl)).1
    refine ⟨v, ?_, ?_⟩
    · rw [flatK_flat]
      simp only [putCells, Array.getElem?_mapIdx, Array.getElem?_eq_getElem hkc, Option.map_some, Nat.zero_le, true_and, Nat.zero_add, List.size_toArray, List.length_map, flat_length, sortP_len, hkl, if_true, Nat.sub_zero, id]
      rw [← hk']
      have hkl2 : k < (flat (sortP ps)).length := by rw [flat_length, sortP_len]; exact hkl
      simp [hkl2]
    · obtain ⟨y, _, rfl⟩ := List.mem_map.1 (List.mem_of_getElem? hk')
      exact .lit rfl
def allQ (P : Nat → Bool) : Nat → Nat → Bool
  | _, 0 => true
  | i, m + 1 => P i && allQ P (i + 1) m
theorem allQ_step {P : Nat → Bool} {i n : Nat} (h : i < n) : allQ P i (n - i) = (P i && allQ P (i + 1) (n - (i + 1))) := by
  rw [show n - i = (n - (i + 1)) + 1 by omega]
  rfl
theorem allQ_end {P : Nat → Bool} {i n : Nat} (h : n ≤ i) : allQ P i (n - i) = true := by
  rw [show n - i = 0 by omega]
  rfl
theorem allQ_get {P : Nat → Bool} : ∀ (m i : Nat), allQ P i m = true → ∀ j, i ≤ j → j < i + m → P j = true
  | 0, i, _, j, h1, h2 => by omega
  | m + 1, i, h, j, h1, h2 => by
    simp only [allQ, Bool.and_eq_true] at h
    rcases Nat.lt_or_ge i j with h3 | h3
    · exact allQ_get m (i + 1) h.2 j (by omega) (by omega)
    · obtain rfl : j = i := by omega
      exact h.1
def cmN (ps : List Pt) : Nat → List Pt
  | 0 => []
  | m + 1 => if m = 0 ∨ ps.getD m (0, 0) ≠ ps.getD (m - 1) (0, 0) then cmN ps m ++ [ps.getD m (0, 0)] else cmN ps m
def cmP (ps : List Pt) : List Pt := cmN ps ps.length
def dupA (ps : List Pt) (i : Nat) : Bool := ps.getD i (0, 0) == ps.getD (i - 1) (0, 0)
theorem cmN_le (ps : List Pt) : ∀ m, (cmN ps m).length ≤ m
  | 0 => Nat.le_refl _
  | m + 1 => by
    have := cmN_le ps m
    simp only [cmN]
    split
    · simp; omega
    · omega
theorem cmN_take {ps : List Pt} : ∀ m, m ≤ ps.length → (∀ j, 1 ≤ j → j < m → dupA ps j = false) → cmN ps m = ps.take m
  | 0, _, _ => rfl
  | m + 1, hm, h => by
    have ih := cmN_take m (by omega) fun j h1 h2 => h j h1 (by omega)
    simp only [cmN]
    have ht : ps.take (m + 1) = ps.take m ++ [ps.getD m (0, 0)] := by
      rw [List.take_add_one]
      simp [List.getD, show m < ps.length by omega]
    rw [ht, ← ih]
    rcases Nat.eq_zero_or_pos m with h0 | h0
    · rw [if_pos (.inl h0)]
    · have := h m h0 (by omega)
      unfold dupA at this
      rw [beq_eq_false_iff_ne] at this
      rw [if_pos (.inr this)]
def ECp : Env := tabE B0
theorem ECp_ok : EnvOk Try.prog ECp := tabE_ok B0_ok
noncomputable def c_cpI : Code := ((loopsOf (codeOf Try.f76))[1]?).getD .skip
def k_cpI : Ex → List Nat := keeps [0, 3, 4, 5] [(2, [0, 3]), (1, [0, 3]), (0, [0])] [2]
def s_cpI (ps : List Pt) (k0 : Nat) : Nat × Nat × (List Pt) → St := fun (j, q, X) => ⟨(ß 0 ps.length ps.length :: topV :: topV :: .int .i64 q :: .slice (some ⟨0, k0 * 2, none⟩) (ps.length - k0) (ps.length - k0) :: .int .i64 j :: ω55 []), [some ⟨.row 32 2, .ints (flat X)⟩]⟩
def re_cpI : Nat × Nat × (List Pt) → Ex := fun _ => .exit 2
def rs_cpI (ps : List Pt) (k0 : Nat) : Nat × Nat × (List Pt) → St := fun (j, q, X) => ⟨(ß 0 ps.length ps.length :: topV :: topV :: .int .i64 ((cmN ps ps.length).length : Nat) :: ω57 []), [some ⟨.row 32 2, .ints (flat (cmN ps ps.length ++ ps.drop (cmN ps ps.length).length))⟩]⟩
set_option maxRecDepth 100000 in
theorem tr_cpI (ps : List Pt) (k0 : Nat) (j q : Nat) (X : List Pt) : bodyL Try.prog ECp 30 12 noL 2 c_cpI k_cpI 1 (s_cpI ps k0 (j, q, X)) = brT (decide ((↑j : Int) < (↑(ps.length - k0) : Int))) (.need ((0 : Int) ≤ (↑j : Int) ∧ (↑j : Int) < (↑(ps.length - k0) : Int)) (.need (k0 * (2 : Nat) + (↑j : Int).toNat * (2 : Nat) + (2 : Nat) ≤ (flat X).length) (.need ((0 : Int) ≤ ŵ ((↑j : Int) - (1 : Int)) ∧ ŵ ((↑j : Int) - (1 : Int)) < (↑(ps.length - k0) : Int)) (.need (k0 * (2 : Nat) + (ŵ ((↑j : Int) - (1 : Int))).toNat * (2 : Nat) + (2 : Nat) ≤ (flat X).length) (brT (negB true ((flat X).getD (k0 * 2 + (↑j : Int).toNat * 2) 0 == (flat X).getD (k0 * 2 + (ŵ ((↑j : Int) - 1)).toNat * 2) 0 && ((flat X).getD (k0 * 2 + (↑j : Int).toNat * 2 + 1) 0 == (flat X).getD (k0 * 2 + (ŵ ((↑j : Int) - 1)).toNat * 2 + 1) 0 && true))) (.need ((0 : Int) ≤ (↑j : Int) ∧ (↑j : Int) < (↑(ps.length - k0) : Int)) (.need (k0 * (2 : Nat) + (↑j : Int).toNat * (2 : Nat) + (2 : Nat) ≤ (flat X).length) (.need ((0 : Int) ≤ (↑q : Int) ∧ (↑q : Int) < (↑ps.length : Int)) (.need ((0 : Nat) + (↑q : Int).toNat * (2 : Nat) + (2 : Nat) ≤ (flat X).length) (.leaf .normal ⟨(ß 0 (ps.length) (ps.length) :: topV :: topV :: .int .i64 (ŵ ((↑q : Int) + 1)) :: .slice (some ⟨0, k0 * 2, none⟩) (ps.length - k0) (ps.length - k0) :: .int .i64 (ŵ ((↑j : Int) + 1)) :: ω55 []), [some ⟨.row 32 2, .ints (setInts (flat X) (0 + (↑q : Int).toNat * 2) [(flat X).getD (k0 * 2 + (↑j : Int).toNat * 2) 0, (flat X).getD (k0 * 2 + (↑j : Int).toNat * 2 + 1) 0])⟩]⟩))))) (.leaf .normal ⟨(ß 0 (ps.length) (ps.length) :: topV :: topV :: .int .i64 ((↑q : Int)) :: .slice (some ⟨0, k0 * 2, none⟩) (ps.length - k0) (ps.length - k0) :: .int .i64 (ŵ ((↑j : Int) + 1)) :: ω55 []), [some ⟨.row 32 2, .ints (flat X)⟩]⟩)))))) (.leaf (.exit 2) ⟨(ß 0 (ps.length) (ps.length) :: topV :: topV :: .int .i64 ((↑q : Int)) :: ω57 []), [some ⟨.row 32 2, .ints (flat X)⟩]⟩) := by kernel_rfl
set_option maxRecDepth 100000 in
theorem nl_cpI : loopsOf c_cpI = [] := by kernel_rfl
def inv_cpI (ps : List Pt) (k0 : Nat) : Nat × Nat × (List Pt) → Prop := fun (j, q, X) => 1 ≤ j ∧ k0 + j ≤ ps.length ∧ q ≤ k0 + j - 1 ∧ q = (cmN ps (k0 + j)).length ∧ X = cmN ps (k0 + j) ++ ps.drop q
def me_cpI (ps : List Pt) (k0 : Nat) : Nat × Nat × (List Pt) → Nat := fun (j, q, X) => ps.length - (k0 + j)
def Round_cpI (ps : List Pt) (k0 : Nat) : Prop := ∀ xx : Nat × Nat × (List Pt), inv_cpI ps k0 xx → (bodyL Try.prog ECp 30 12 noL 2 c_cpI k_cpI 1 (s_cpI ps k0 xx)).ok (RoundEnd 1 (s_cpI ps k0) (inv_cpI ps k0) (me_cpI ps k0) re_cpI (rs_cpI ps k0) xx) (fun _ _ => False)
def e_cpI (s : St) (k : Ex → St → Tree) : Option Tree := match Nat.beq s.tmps.length 61, pickL s.tmps [0, 3, 4, 5], s.mem with
  | true, [ß 0 n _, .int .i64 kk, .slice (some ⟨0, o, none⟩) l _, .int .i64 k2], [some ⟨.row 32 2, .ints xs⟩] => some (needs [k2 = 1, xs.length = n * 2, 0 ≤ kk, 1 ≤ kk ∧ kk < n, o = kk.toNat * 2, l = n - kk.toNat, dupA (ptsA n xs) kk.toNat = true, (∀ j, 1 ≤ j → j < kk.toNat → dupA (ptsA n xs) j = false), n ≤ 1000000000] (k (.exit 2) ⟨(ß 0 n n :: topV :: topV :: .int .i64 ((cmN (ptsA n xs) n).length : Nat) :: ω57 []), [some ⟨.row 32 2, .ints (flat (cmN (ptsA n xs) n ++ (ptsA n xs).drop (cmN (ptsA n xs) n).length))⟩]⟩))
  | _, _, _ => none
theorem cp_dup {ps : List Pt} {m : Nat} (h : dupA ps m = true) (hm : m ≠ 0) : cmN ps (m + 1) = cmN ps m := by
  unfold dupA at h
  simp only [cmN]
  rw [if_neg]
  rintro (h1 | h1)
  · exact hm h1
  · exact h1 (by simpa using h)
theorem cp_new {ps : List Pt} {m : Nat} (h : dupA ps m = false) : cmN ps (m + 1) = cmN ps m ++ [ps.getD m (0, 0)] := by
  unfold dupA at h
  simp only [cmN]
  rw [if_pos (.inr (by simpa using h))]
theorem cp_start {ps : List Pt} {k : Nat} (h2 : 1 ≤ (k : Int) ∧ (k : Int) < (ps.length : Int)) (h3 : dupA ps k = true) (h4 : ∀ j, 1 ≤ j → j < k → dupA ps j = false) : 1 ≤ 1 ∧ k + 1 ≤ ps.length ∧ k ≤ k + 1 - 1 ∧ k = (cmN ps (k + 1)).length ∧ ps = cmN ps (k + 1) ++ ps.drop k := by
  have e := cp_dup h3 (by omega)
  rw [cmN_take k (by omega) h4] at e
  refine ⟨Nat.le_refl _, by omega, by omega, ?_, ?_⟩
  · rw [e, List.length_take]; omega
  · rw [e, List.take_append_drop]
theorem cp_get {ps : List Pt} {q : List Pt} {j : Nat} (h : q.length ≤ j) : (q ++ ps.drop q.length).getD j (0, 0) = ps.getD j (0, 0) := by
  simp only [List.getD]
  rw [List.getElem?_append_right h, List.getElem?_drop]
  congr 2
  omega
theorem cp_len {ps q : List Pt} (h : q.length ≤ ps.length) : (q ++ ps.drop q.length).length = ps.length := by
  rw [List.length_append, List.length_drop]
  omega
theorem cp_set {ps q : List Pt} (h : q.length < ps.length) (z : Pt) : (q ++ ps.drop q.length).set q.length z = (q ++ [z]) ++ ps.drop (q.length + 1) := by
  rw [List.set_append_right _ _ (Nat.le_refl _), Nat.sub_self, drop_cons h (0, 0)]
  simp
theorem eq_pt (a b : Pt) : (a.1 == b.1 && (a.2 == b.2 && true)) = (a == b) := by
  rw [Bool.and_true]
  rfl
theorem dup_is (ps : List Pt) (m : Nat) : ((ps.getD m (0, 0)).1 == (ps.getD (m - 1) (0, 0)).1 && ((ps.getD m (0, 0)).2 == (ps.getD (m - 1) (0, 0)).2 && true)) = dupA ps m := eq_pt _ _
set_option maxRecDepth 100000 in
theorem round_cpI (ps : List Pt) (k0 : Nat) (h : ps.length ≤ 1000000000) : Round_cpI ps k0 := by
  rintro ⟨j, q, X⟩ ⟨h1, h2, h3, hq0, rfl⟩
  rw [tr_cpI]
  have hq : (cmN ps (k0 + j)).length ≤ ps.length := by omega
  have hX := cp_len hq
  have g1 := cp_get (ps := ps) (q := cmN ps (k0 + j)) (j := k0 + j) (by omega)
  have g2 := cp_get (ps := ps) (q := cmN ps (k0 + j)) (j := k0 + j - 1) (by omega)
  rw [← hq0] at hX g1 g2
  have a2 : ŵ ((j : Int) - 1) = ((j - 1 : Nat) : Int) := by rw [wr (by omega)]; omega
  refine brT_ok.2 ⟨fun hlt => ?_, fun hge => ?_⟩
  · have hlt := of_decide_eq_true hlt
    have hm : k0 + j < ps.length := by omega
    have a1 : k0 * 2 + (j : Int).toNat * 2 = (k0 + j) * 2 := by omega
    have a3 : k0 * 2 + ((j - 1 : Nat) : Int).toNat * 2 = (k0 + j - 1) * 2 := by omega
    have a4 : 0 + (q : Int).toNat * 2 = q * 2 := by omega
    have hs := flat_set (cmN ps (k0 + j) ++ ps.drop q) q (by omega) (ps.getD (k0 + j) (0, 0)).1 (ps.getD (k0 + j) (0, 0)).2
    have hs2 := cp_set (ps := ps) (q := cmN ps (k0 + j)) (by omega) (ps.getD (k0 + j) (0, 0))
    rw [← hq0] at hs2
    rw [hs2] at hs
    simp only [a2, a1, a3, a4, wsucc (i := j) (n := ps.length) (by omega) h, wsucc (i := q) (n := ps.length) (by omega) h, flat_get0, flat_get1, flat_length, g1, g2, dup_is, hX, hs]
    refine ⟨by omega, by omega, by omega, by omega, brT_ok.2 ⟨fun c => ⟨by omega, by omega, by omega, by omega, ?_⟩, fun c => ?_⟩⟩
    · have hd : dupA ps (k0 + j) = false := by simpa [negB] using c
      have e := cp_new hd
      have el : q + 1 = (cmN ps (k0 + j + 1)).length := by rw [e]; simp; omega
      refine ⟨(j + 1, q + 1, cmN ps (k0 + j) ++ [ps.getD (k0 + j) (0, 0)] ++ ps.drop (q + 1)), [], ⟨by omega, by omega, by omega, el, by show _ = cmN ps (k0 + j + 1) ++ _; rw [e]⟩, ?_, rfl, by simp only [rs_cpI], ?_⟩
      · show ps.length - (k0 + (j + 1)) < ps.length - (k0 + j); omega
      · repeat' (first | exact True.intro | exact rfl | exact fun _ => rfl | (simp; done) | refine And.intro ?_ ?_)
    · have hd : dupA ps (k0 + j) = true := by simpa [negB] using c
      have e := cp_dup hd (by omega)
      refine ⟨(j + 1, q, cmN ps (k0 + j) ++ ps.drop q), [], ⟨by omega, by omega, by omega, by show _ = (cmN ps (k0 + j + 1)).length; rw [e]; exact hq0, by show _ = cmN ps (k0 + j + 1) ++ _; rw [e]⟩, ?_, rfl, by simp only [rs_cpI], ?_⟩
      · show ps.length - (k0 + (j + 1)) < ps.length - (k0 + j); omega
      · repeat' (first | exact True.intro | exact rfl | exact fun _ => rfl | (simp; done) | refine And.intro ?_ ?_)
  · have hge := of_decide_eq_false hge
    have hm : k0 + j = ps.length := by omega
    refine ⟨rfl, [], ?_⟩
    rw [hm] at hq0
    simp only [rs_cpI, hm, ← hq0]
    repeat' (first | exact True.intro | exact rfl | exact fun _ => rfl | (simp; done) | refine And.intro ?_ ?_)
set_option maxRecDepth 100000 in
theorem lg_cpI : LoopE Try.prog e_cpI c_cpI := by
  intro s k t F H hlt ht
  unfold e_cpI at hlt
  split at hlt
  rotate_left
  · cases hlt
  rename_i hlen hpick hmem
  obtain ⟨tmps, mem⟩ := s
  simp only at hlen hpick hmem
  subst hmem
  obtain rfl := Option.some.inj hlt
  obtain ⟨⟨rfl, h1, h6, h2, rfl, rfl, h3, h4, h5, _⟩, ht2⟩ := needs_ok ht
  clear ht hlt
  obtain ⟨ps, rfl, rfl⟩ := even_flat h1
  obtain ⟨k, rfl⟩ := Int.eq_ofNat_of_zero_le h6
  rw [ptsA_flat] at ht2 h3 h4
  simp only [Int.toNat_natCast] at ht2 h3 h4
  refine ⟨_, _, ht2, loop_run mixed ECp_ok (s_cpI ps k) (inv_cpI ps k) (me_cpI ps k) re_cpI (rs_cpI ps k) k_cpI (fun _ => rfl) (noLoops nl_cpI) (round_cpI ps k h5) (x := (1, k, ps)) (cp_start h2 h3 h4) (π := []) rfl ?_⟩
  refine ⟨rfl, rfl, ?_, wvs_spread' [0, 3, 4, 5] hlen rfl ?_⟩
  · repeat' (first | exact True.intro | exact rfl | exact wv_top _ _ | exact fun _ => rfl | assumption | exact Eq.symm (by assumption) | exact vI0 rfl | refine And.intro ?_ ?_)
  · rw [hpick]
    repeat' (first | exact True.intro | exact rfl | exact wv_top _ _ | exact fun _ => rfl | assumption | exact Eq.symm (by assumption) | exact vI0 rfl | refine And.intro ?_ ?_)
def ltCp : LT := fun j s k => match j with
  | 1 => e_cpI s k
  | _ => none
noncomputable def c_cpO : Code := ((loopsOf (codeOf Try.f76))[0]?).getD .skip
def k_cpO : Ex → List Nat := keeps [0, 3] [(0, [0])] [2]
def s_cpO (ps : List Pt) : Nat → St := fun i => ⟨(ß 0 ps.length ps.length :: topV :: topV :: .int .i64 i :: ω57 []), [some ⟨.row 32 2, .ints (flat ps)⟩]⟩
def re_cpO (ps : List Pt) : Nat → Ex := fun i => bif allQ (fun j => !(dupA ps j)) i (ps.length - i) then .exit 0 else .ret
def rs_cpO (ps : List Pt) : Nat → St := fun i => bif allQ (fun j => !(dupA ps j)) i (ps.length - i) then ⟨(ß 0 ps.length ps.length :: ω60 []), [some ⟨.row 32 2, .ints (flat ps)⟩]⟩ else ⟨(topV :: topV :: ß 0 (cmP ps).length (cmP ps).length :: ω58 []), [some ⟨.row 32 2, .ints (flat (cmP ps))⟩]⟩
set_option maxRecDepth 100000 in
theorem tr_cpO (ps : List Pt) (i : Nat) : bodyL Try.prog ECp 30 12 ltCp 1 c_cpO k_cpO 1 (s_cpO ps i) = brT (decide ((↑i : Int) < (↑ps.length : Int))) (.need ((0 : Int) ≤ (↑i : Int) ∧ (↑i : Int) < (↑ps.length : Int)) (.need ((0 : Nat) + (↑i : Int).toNat * (2 : Nat) + (2 : Nat) ≤ (flat ps).length) (.need ((0 : Int) ≤ ŵ ((↑i : Int) - (1 : Int)) ∧ ŵ ((↑i : Int) - (1 : Int)) < (↑ps.length : Int)) (.need ((0 : Nat) + (ŵ ((↑i : Int) - (1 : Int))).toNat * (2 : Nat) + (2 : Nat) ≤ (flat ps).length) (brT (negB false ((flat ps).getD (0 + (↑i : Int).toNat * 2) 0 == (flat ps).getD (0 + (ŵ ((↑i : Int) - 1)).toNat * 2) 0 && ((flat ps).getD (0 + (↑i : Int).toNat * 2 + 1) 0 == (flat ps).getD (0 + (ŵ ((↑i : Int) - 1)).toNat * 2 + 1) 0 && true))) (.need ((0 : Int) ≤ bndI (some (IntKind.i64, (↑i : Int))) (0 : Int) ∧ bndI (some (IntKind.i64, (↑i : Int))) (0 : Int) ≤ bndI none (↑ps.length : Int) ∧ bndI none (↑ps.length : Int) ≤ (↑ps.length : Int)) (.need ((1 : Int) = (1 : Int)) (.need ((flat ps).length = ps.length * (2 : Nat)) (.need ((0 : Int) ≤ (↑i : Int)) (.need ((1 : Int) ≤ (↑i : Int) ∧ (↑i : Int) < (↑ps.length : Int)) (.need ((0 : Nat) + (bndI (some (IntKind.i64, (↑i : Int))) (0 : Int)).toNat * (2 : Nat) = (↑i : Int).toNat * (2 : Nat)) (.need ((bndI none (↑ps.length : Int)).toNat - (bndI (some (IntKind.i64, (↑i : Int))) (0 : Int)).toNat = ps.length - (↑i : Int).toNat) (.need (dupA (ptsA ps.length (flat ps)) (↑i : Int).toNat = true) (.need (∀ (j : Nat), (1 : Nat) ≤ j → j < (↑i : Int).toNat → dupA (ptsA ps.length (flat ps)) j = false) (.need (ps.length ≤ (1000000000 : Nat)) (.need ((0 : Int) ≤ bndI (some (IntKind.i64, (↑(cmN (ptsA ps.length (flat ps)) ps.length).length : Int))) (0 : Int) ∧ bndI (some (IntKind.i64, (↑(cmN (ptsA ps.length (flat ps)) ps.length).length : Int))) (0 : Int) ≤ bndI none (↑ps.length : Int) ∧ bndI none (↑ps.length : Int) ≤ (↑ps.length : Int)) (.need ((0 : Nat) + (bndI (some (IntKind.i64, (↑(cmN (ptsA ps.length (flat ps)) ps.length).length : Int))) (0 : Int)).toNat * (2 : Nat) + ((bndI none (↑ps.length : Int)).toNat - (bndI (some (IntKind.i64, (↑(cmN (ptsA ps.length (flat ps)) ps.length).length : Int))) (0 : Int)).toNat) * (2 : Nat) ≤ (flat (cmN (ptsA ps.length (flat ps)) ps.length ++ List.drop (cmN (ptsA ps.length (flat ps)) ps.length).length (ptsA ps.length (flat ps)))).length) (.need ((0 : Int) ≤ bndI none (0 : Int) ∧ bndI none (0 : Int) ≤ bndI (some (IntKind.i64, (↑(cmN (ptsA ps.length (flat ps)) ps.length).length : Int))) (↑ps.length : Int) ∧ bndI (some (IntKind.i64, (↑(cmN (ptsA ps.length (flat ps)) ps.length).length : Int))) (↑ps.length : Int) ≤ (↑ps.length : Int)) (.leaf .ret ⟨(topV :: topV :: ß 0 ((bndI (some (IntKind.i64, (↑(cmN (ptsA ps.length (flat ps)) ps.length).length : Int))) (↑ps.length : Int)).toNat - 0) ((bndI (some (IntKind.i64, (↑(cmN (ptsA ps.length (flat ps)) ps.length).length : Int))) (↑ps.length : Int)).toNat - 0) :: ω58 []), [some ⟨.row 32 2, .ints (List.take (0 + (bndI (some (IntKind.i64, (↑(cmN (ptsA ps.length (flat ps)) ps.length).length : Int))) 0).toNat * 2) (flat (cmN (ptsA ps.length (flat ps)) ps.length ++ List.drop (cmN (ptsA ps.length (flat ps)) ps.length).length (ptsA ps.length (flat ps)))))⟩]⟩)))))))))))))) (.leaf .normal ⟨(ß 0 (ps.length) (ps.length) :: topV :: topV :: .int .i64 (ŵ ((↑i : Int) + 1)) :: ω57 []), [some ⟨.row 32 2, .ints (flat ps)⟩]⟩)))))) (.leaf (.exit 0) ⟨(ß 0 (ps.length) (ps.length) :: ω60 []), [some ⟨.row 32 2, .ints (flat ps)⟩]⟩) := by kernel_rfl
def inv_cpO (ps : List Pt) : Nat → Prop := fun i => 1 ≤ i ∧ i ≤ ps.length ∧ ∀ j, 1 ≤ j → j < i → dupA ps j = false
def me_cpO (ps : List Pt) : Nat → Nat := fun i => ps.length - i
def Round_cpO (ps : List Pt) : Prop := ∀ xx : Nat, inv_cpO ps xx → (bodyL Try.prog ECp 30 12 ltCp 1 c_cpO k_cpO 1 (s_cpO ps xx)).ok (RoundEnd 1 (s_cpO ps) (inv_cpO ps) (me_cpO ps) (re_cpO ps) (rs_cpO ps) xx) (fun _ _ => False)
def e_cpO (s : St) (k : Ex → St → Tree) : Option Tree := match Nat.beq s.tmps.length 61, pickL s.tmps [0, 3], s.mem with
  | true, [ß 0 n _, .int .i64 i], [some ⟨.row 32 2, .ints xs⟩] => some (needs [i = 1, xs.length = n * 2, 2 ≤ n, n ≤ 1000000000] (brT (allQ (fun j => !(dupA (ptsA n xs) j)) 1 (n - 1)) (k (.exit 0) ⟨(ß 0 n n :: ω60 []), [some ⟨.row 32 2, .ints xs⟩]⟩) (k .ret ⟨(topV :: topV :: ß 0 (cmP (ptsA n xs)).length (cmP (ptsA n xs)).length :: ω58 []), [some ⟨.row 32 2, .ints (flat (cmP (ptsA n xs)))⟩]⟩)))
  | _, _, _ => none
theorem bnd_some (x d : Int) : bndI (some (IntKind.i64, x)) d = x := rfl
theorem bnd_none (d : Int) : bndI none d = d := rfl
set_option maxRecDepth 100000 in
theorem in_cpO : loopsOf c_cpO = [c_cpI] := by kernel_rfl
theorem ltCp_good : LoopsGood Try.prog ltCp 1 c_cpO := by
  intro i d hd s k t F H hlt ht
  rw [in_cpO] at hd
  cases i with
  | zero =>
    obtain rfl : c_cpI = d := by simpa using hd
    exact lg_cpI s k t F H hlt ht
  | succ i => simp at hd
set_option maxRecDepth 100000 in
theorem round_cpO (ps : List Pt) (h : ps.length ≤ 1000000000) : Round_cpO ps := by
  rintro i ⟨h1, h2, h3⟩
  rw [tr_cpO]
  simp only [ptsA_flat, bnd_some, bnd_none, Int.toNat_natCast, Nat.zero_add, Nat.sub_zero]
  refine brT_ok.2 ⟨fun hlt => ?_, fun hge => ?_⟩
  · have hi : i < ps.length := by have := of_decide_eq_true hlt; omega
    have w1 : ŵ ((i : Int) - 1) = ((i - 1 : Nat) : Int) := by rw [wr (by omega)]; omega
    have step : allQ (fun j => !(dupA ps j)) i (ps.length - i) = (!(dupA ps i) && allQ (fun j => !(dupA ps j)) (i + 1) (ps.length - (i + 1))) := allQ_step hi
    have hle := cmN_le ps ps.length
    have hX := cp_len hle
    simp only [w1, Int.toNat_natCast, flat_get0, flat_get1, flat_length, dup_is, hX, wsucc hi h]
    refine ⟨by omega, by omega, by omega, by omega, brT_ok.2 ⟨fun q => ?_, fun q => ?_⟩⟩
    · have hd : dupA ps i = true := by simpa [negB] using q
      have e : allQ (fun j => !(dupA ps j)) i (ps.length - i) = false := by rw [step, hd]; rfl
      have hf : List.take ((cmN ps ps.length).length * 2) (flat (cmN ps ps.length ++ List.drop (cmN ps ps.length).length ps)) = flat (cmP ps) := by
        rw [flat_take, List.take_left]
        rfl
      rw [hf]
      refine ⟨by omega, by first | exact True.intro | rfl, by first | exact True.intro | rfl, by omega, by omega, by first | exact True.intro | rfl, by first | exact True.intro | rfl, hd, h3, h, by omega, by omega, by omega, ?_⟩
      refine ⟨by simp only [re_cpO, e, cond_false], [], ?_⟩
      simp only [rs_cpO, e, cond_false]
      repeat' (first | exact True.intro | exact rfl | exact fun _ => rfl | (simp; done) | refine And.intro ?_ ?_)
    · have hd : dupA ps i = false := by simpa [negB] using q
      have e : allQ (fun j => !(dupA ps j)) i (ps.length - i) = allQ (fun j => !(dupA ps j)) (i + 1) (ps.length - (i + 1)) := by rw [step, hd]; rfl
      refine ⟨i + 1, [], ⟨by omega, by omega, fun j g1 g2 => ?_⟩, ?_, by simp only [re_cpO, e], by simp only [rs_cpO, e], ?_⟩
      · rcases Nat.lt_or_ge j i with g | g
        · exact h3 j g1 g
        · obtain rfl : j = i := by omega
          exact hd
      · show ps.length - (i + 1) < ps.length - i; omega
      · repeat' (first | exact True.intro | exact rfl | exact fun _ => rfl | (simp; done) | refine And.intro ?_ ?_)
  · have hge := of_decide_eq_false hge
    obtain rfl : i = ps.length := by omega
    have e : allQ (fun j => !(dupA ps j)) ps.length (ps.length - ps.length) = true := allQ_end (by omega)
    refine ⟨by simp only [re_cpO, e, cond_true], [], ?_⟩
    simp only [rs_cpO, e, cond_true]
    repeat' (first | exact True.intro | exact rfl | exact fun _ => rfl | (simp; done) | refine And.intro ?_ ?_)
set_option maxRecDepth 100000 in
theorem lg_cpO : LoopE Try.prog e_cpO c_cpO := by
  intro s k t F H hlt ht
  unfold e_cpO at hlt
  split at hlt
  rotate_left
  · cases hlt
  rename_i hlen hpick hmem
  obtain ⟨tmps, mem⟩ := s
  simp only at hlen hpick hmem
  subst hmem
  obtain rfl := Option.some.inj hlt
  obtain ⟨⟨rfl, h1, h2, h5, _⟩, ht2⟩ := needs_ok ht
  clear ht hlt
  obtain ⟨ps, rfl, rfl⟩ := even_flat h1
  rw [ptsA_flat] at ht2
  refine ⟨_, _, pick2k ht2, loop_run mixed ECp_ok (s_cpO ps) (inv_cpO ps) (me_cpO ps) (re_cpO ps) (rs_cpO ps) k_cpO (fun _ => rfl) ltCp_good (round_cpO ps h5) (x := 1) ⟨Nat.le_refl _, by omega, fun j h1 h2 => by omega⟩ (π := []) rfl ?_⟩
  refine ⟨rfl, rfl, ?_, wvs_spread' [0, 3] hlen rfl ?_⟩
  · repeat' (first | exact True.intro | exact rfl | exact wv_top _ _ | exact fun _ => rfl | assumption | exact Eq.symm (by assumption) | exact vI0 rfl | refine And.intro ?_ ?_)
  · rw [hpick]
    repeat' (first | exact True.intro | exact rfl | exact wv_top _ _ | exact fun _ => rfl | assumption | exact Eq.symm (by assumption) | exact vI0 rfl | refine And.intro ?_ ?_)
theorem Lr_cpO {fn : Func} (hf : Try.prog.funcs[76]? = some fn) : LoopsGood Try.prog (lt1 e_cpO) 0 (codeOf fn) := by
  obtain rfl := fn_is Try.func76 hf
  exact lt1_good lg_cpO
def LCp : FuncId → LT := fun f => match f with
  | 76 => lt1 e_cpO
  | _ => noL
def ECq : Env := mkE B0 (fun _ _ => none) LCp
theorem ECq_ok : EnvOk Try.prog ECq := mkEOk B0_ok (fun _ _ _ _ _ h => (by cases h)) (by
  intro f fn hf
  unfold LCp
  split
  all_goals first | with_reducible exact Lr_cpO hf | exact noL_good)
set_option maxRecDepth 100000 in
theorem tr_cpF (ps : List Pt) : bodyM Try.prog ECq (runM Try.prog ECq 30 12) 30 76 [ß 0 ps.length ps.length] [some ⟨.row 32 2, .ints (flat ps)⟩] .fin = brT (decide ((↑ps.length : Int) < 2)) (.fin (ß 0 (ps.length) (ps.length)) [some ⟨.row 32 2, .ints (flat ps)⟩]) (.need ((1 : Int) = (1 : Int)) (.need ((flat ps).length = ps.length * (2 : Nat)) (.need ((2 : Nat) ≤ ps.length) (.need (ps.length ≤ (1000000000 : Nat)) (brT (allQ (fun j => !dupA (ptsA ps.length (flat ps)) j) 1 (ps.length - 1)) (.fin (ß 0 (ps.length) (ps.length)) [some ⟨.row 32 2, .ints (flat ps)⟩]) (.fin (ß 0 ((cmP (ptsA ps.length (flat ps))).length) ((cmP (ptsA ps.length (flat ps))).length)) [some ⟨.row 32 2, .ints (flat (cmP (ptsA ps.length (flat ps))))⟩])))))) := by kernel_rfl
theorem cpt_row (ps : List Pt) (h : ps.length ≤ 1000000000) : (bodyM Try.prog ECq (runM Try.prog ECq 30 12) 30 76 [ß 0 ps.length ps.length] [some ⟨.row 32 2, .ints (flat ps)⟩] .fin).ok (fun _ _ => False) (fun u mem' => RowIs (ß 0 (cmP ps).length (cmP ps).length) ⟨.row 32 2, .ints (flat (cmP ps))⟩ u mem') := by
  rw [tr_cpF]
  simp only [ptsA_flat]
  have same : (∀ j, 1 ≤ j → j < ps.length → dupA ps j = false) → cmP ps = ps := fun hn => by
    unfold cmP
    rw [cmN_take _ (Nat.le_refl _) hn, List.take_length]
  refine brT_ok.2 ⟨fun hlt => ?_, fun hge => ?_⟩
  · have hlt := of_decide_eq_true hlt
    rw [same fun j h1 h2 => by omega]
    exact ⟨some 0, ⟨rfl, rfl, rfl⟩, rfl, rfl, rfl⟩
  · have hge := of_decide_eq_false hge
    refine ⟨by first | exact True.intro | rfl, flat_length ps, by omega, h, brT_ok.2 ⟨fun q => ?_, fun q => ?_⟩⟩
    · have q : allQ (fun j => !(dupA ps j)) 1 (ps.length - 1) = true := q
      rw [same fun j h1 h2 => by simpa using allQ_get _ _ q j h1 (by omega)]
      exact ⟨some 0, ⟨rfl, rfl, rfl⟩, rfl, rfl, rfl⟩
    · exact ⟨some 0, ⟨rfl, rfl, rfl⟩, rfl, rfl, rfl⟩
def cptS : OSpec := fun e sz l xs rest => match e, sz, rest with
  | 32, 2, [] => some (ß 0 (cmP (ptsA l xs)).length (cmP (ptsA l xs)).length, ⟨.row 32 2, .ints (flat (cmP (ptsA l xs)))⟩, [xs.length = l * 2, l ≤ 1000000000])
  | _, _, _ => none
set_option maxRecDepth 100000 in
theorem cptS_ok : OSpecOk Try.prog 76 cptS := by
  intro e sz l xs rest v b C h hC
  unfold cptS at h
  split at h
  rotate_left
  · cases h
  obtain ⟨rfl, rfl, rfl⟩ : _ ∧ _ ∧ _ := by simpa using h
  obtain ⟨h1, h2, _⟩ := hC
  obtain ⟨ps, rfl, rfl⟩ := even_flat h1
  rw [ptsA_flat]
  exact ⟨rfl, ECq, 30, 12, ECq_ok, cpt_row ps h2⟩
set_option maxRecDepth 100000 in
theorem u_pts : Try.prog.underlying 23 = some (.slice 32) := by kernel_rfl
theorem nilNil_run (t e : TypeId) (w : World) (c c' : Nat) (h : Try.prog.underlying t = some (.slice e)) : (binOp .eql t (.slice none 0 c) (.slice none 0 c')).run Try.prog w = .ok (.bool true) w := by
  have he : ∀ d, (Op.equalIn (d + 1) t (.slice none 0 c) (.slice none 0 c')).run Try.prog w = .ok true w := fun d => by simp [Op.equalIn, run_underlying h]
  simp only [binOp]
  simp [Op.equal, Op.maxDepth, he 9999]
set_option maxRecDepth 100000 in
theorem cln_zero (ad : Option Addr) (c : Nat) (w : World) : Calls Try.prog 73 #[.slice ad 0 c] w fun e w' => ∃ v' p, e = .returned v' ∧ Below w.heap.size w w' ∧
    ∀ (ρ : Nat → Option Pl) (name : Nat), ρ name = some p → VR ρ (.slice (some ⟨name, 0, none⟩) 0 0) v' ∧ BlkOk ρ (fun k => k < w.heap.size) w' name ⟨.row 32 2, .ints []⟩ := by
  cases ad with
  | none =>
    have hn := fun W => nilNil_run 23 32 W c 0 u_pts
    go_enter Try.func73, Try.ntmps73
    go_wp2
    go_ret
    exact ⟨_, (0, 1, some 0), rfl, Below.refl _ _, fun ρ name h => ⟨.nil_ h ⟨rfl, 0, rfl⟩ rfl (fun _ => ⟨rfl, rfl⟩), .inl ⟨_, h, rfl, rfl⟩⟩⟩
  | some a =>
    have hn := fun W => eqNil_run (P := Try.prog) 23 32 a 0 c W u_pts false
    simp only [opB, negB] at hn
    go_enter Try.func73, Try.ntmps73
    go_wp2
    go_ret
    refine ⟨_, (w.heap.size, 0, some 0), rfl, na (nr _) _, fun ρ name h => ⟨.slice (f := 0) h (.inl rfl) (Nat.le_refl _) (fun k hk _ => by simpa using hk), .inr ⟨w.heap.size, 0, h, Nat.lt_irrefl _, #[], heap_alloc_new w _, rfl, fun k v hk => by simp [Blk.cells, Cs.list] at hk⟩⟩⟩
end Go.Proofs.Ytbfoheblcoakiaa
