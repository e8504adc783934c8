/-
  Texts that the proof needs, merged. Written by an AI agent.
-/
import Derived.Orders
import Derived.Below
import Derived.OrdersIn
import Derived.Deep.LoopGhost
import Derived.WalkKit
import Derived.Laws.CopyRow
import Derived.Laws.AppendOwn
import Derived.Laws.Slices
import Derived.Laws.MakeOwn
import Derived.Test.YtnlciknmpjikgaaRows
import Derived.ProofKit
import Derived.OpenShut
import Derived.Carry
import Derived.IntWalk
import Derived.Test.YtnlciknmpjikgaaProg
import Derived.WalkSpells
import Derived.WalkLawsBesides
import Derived.Lib.Hide
import Derived.Deep.QuietTactic
import Derived.BigQuiet
import Derived.KernelRfl
import Derived.Deep.RegionHeld3
import Derived.LoopTactic
import Derived.Laws.StructEq
import Derived.Laws.Tables
import Derived.RangeFuncNested
import Derived.RangeFuncLeaves
import Derived.Deep.Slices
import Derived.Deep.Fields
import Derived.ChangeSame
import Derived.Shelf.SlSortCmp.WholeK
import Derived.Sort.Grow
import Derived.Deep.DeepCutAuto
import Derived.Shelf.SlSortCmp.NoneTotal
import Derived.Test.YtnlciknmpjikgaaZIsConvex9
set_option linter.all false
namespace Go.Proofs.Ytnlciknmpjikgaa
open Go.RowKit
theorem no_on {a b v : Pt} (h : 0 < crP a b v) : hasB a.1 a.2 b.1 b.2 v.1 v.2 = false := by
  refine hasB_no ?_
  rw [beq_eq_false_iff_ne]
  have e : (a.1 - v.1) * (b.2 - v.2) - (a.2 - v.2) * (b.1 - v.1) = crP a b v := by unfold crP crossI; grind
  omega
theorem no_dv {a b c d e f g h : Int} (h1 : 0 ≤ crossI a b c d e f) (h2 : 0 ≤ crossI a b c d g h) : dvB a b c d e f g h = false := by
  unfold dvB
  have k : ∀ x : Int, 0 ≤ x → cmpI x 0 = 0 ∨ cmpI x 0 = 1 := fun x hx => by
    unfold cmpI
    split
    · omega
    · split <;> simp
  rcases k _ h1 with k1 | k1 <;> rcases k _ h2 with k2 | k2 <;> rw [k1, k2] <;> decide
theorem asc_one {l : List Pt} {p : Pt} (ha : Asc l) (h : ∀ z ∈ l, z = p) (hp : p ∈ l) : l.length = 1 := by
  match l, ha, h, hp with
  | [_], _, _, _ => rfl
  | x :: y :: r, ha, h, _ =>
    have h1 := (List.pairwise_cons.1 ha).1 y (by simp)
    rw [h x (by simp), h y (by simp)] at h1
    exact (oP_irr h1).elim
def relP (a b c d : Pt) : Int := relA a.1 a.2 b.1 b.2 c.1 c.2 d.1 d.2
theorem rel_apart {a b c d : Pt} (h1 : 0 < crP a b c) (h2 : 0 < crP a b d) (h3 : 0 < crP c d a) (h4 : 0 < crP c d b) : relP a b c d = 0 := by
  unfold relP relA
  have e : ceS a.1 a.2 b.1 b.2 c.1 c.2 d.1 d.2 = [] := by
    rw [List.eq_nil_iff_forall_not_mem]
    intro z hz
    obtain ⟨q1, q2⟩ := ce_mem.1 hz
    unfold onB at q1
    simp only [Bool.and_eq_true] at q1
    rcases q2 with rfl | rfl | rfl | rfl
    · rw [show hasB c.1 c.2 d.1 d.2 a.1 a.2 = false from no_on h3] at q1; exact absurd q1.2 (by decide)
    · rw [show hasB c.1 c.2 d.1 d.2 b.1 b.2 = false from no_on h4] at q1; exact absurd q1.2 (by decide)
    · rw [show hasB a.1 a.2 b.1 b.2 c.1 c.2 = false from no_on h1] at q1; exact absurd q1.1 (by decide)
    · rw [show hasB a.1 a.2 b.1 b.2 d.1 d.2 = false from no_on h2] at q1; exact absurd q1.1 (by decide)
  rw [e, no_dv (Int.le_of_lt h1) (Int.le_of_lt h2)]
  rfl
theorem rel_touch {a b d : Pt} (h1 : 0 < crP a b d) : relP a b b d = 1 := by
  unfold relP relA
  have h2 : 0 < crP b d a := by
    have : crP b d a = crP a b d := by unfold crP crossI; grind
    omega
  have e : (ceS a.1 a.2 b.1 b.2 b.1 b.2 d.1 d.2).length = 1 := by
    refine asc_one (p := b) (ce_asc ..) (fun z hz => ?_) (ce_mem.2 ⟨by unfold onB; rw [hasB_b, hasB_a]; rfl, .inr (.inl rfl)⟩)
    obtain ⟨q1, q2⟩ := ce_mem.1 hz
    unfold onB at q1
    simp only [Bool.and_eq_true] at q1
    rcases q2 with rfl | rfl | rfl | rfl
    · rw [show hasB b.1 b.2 d.1 d.2 a.1 a.2 = false from no_on h2] at q1; exact absurd q1.2 (by decide)
    · rfl
    · rfl
    · rw [show hasB a.1 a.2 b.1 b.2 d.1 d.2 = false from no_on h1] at q1; exact absurd q1.1 (by decide)
  rw [e]
  rfl
theorem edR_P {h : List Pt} {i k : Nat} (hs : sgQ h i = true) (hk : sgQ h k = true) : edR h i k = relP (h.getD i (0, 0)) (nxP h i) (h.getD k (0, 0)) (nxP h k) := by
  rw [edR_is, hs, hk]
  rfl
theorem cvh_simple {h : List Pt} (H : CvH h) (ho : okL h = true) : issI h = true := by
  unfold issI
  rw [ho, decide_eq_true H.three]
  simp only [Bool.true_and]
  have hv : allV h = true := by
    unfold okL at ho
    simp only [Bool.and_eq_true] at ho
    exact ho.1
  have sg : ∀ i, i < h.length → sgQ h i = true := fun i hi => (sgQ_iff hv hi).2 fun e => (nx_ne H hi).1 (nd_inj H.nodup hi (nx_lt hi) e).symm
  refine allQ_all _ _ fun i _ hi => allQ_all _ _ fun k _ hk => ?_
  have hi : i < h.length := by omega
  have hk : k < h.length := by omega
  unfold okE
  by_cases hlt : i < k
  rotate_left
  · rw [decide_eq_false hlt]; rfl
  rw [decide_eq_true hlt, edR_P (sg i hi) (sg k hk)]
  simp only [Bool.not_true, Bool.false_or, beq_iff_eq]
  obtain ⟨p1, p2, p3⟩ := nx_ne H hi
  obtain ⟨r1, r2, r3⟩ := nx_ne H hk
  have mi := nx_lt hi
  have mk := nx_lt hk
  have ei : nxP h i = h.getD ((i + 1) % h.length) (0, 0) := rfl
  have ek : nxP h k = h.getD ((k + 1) % h.length) (0, 0) := rfl
  unfold nbQ
  by_cases c1 : k = i + 1
  · rw [decide_eq_true c1]
    have e1 : (i + 1) % h.length = k := by rw [← c1, Nat.mod_eq_of_lt hk]
    have e2 : (k + 1) % h.length = (i + 2) % h.length := by rw [c1]
    have l := cvh_left H hi mk (by rw [e2]; exact p2) (by rw [e2]; exact p3)
    rw [← ek] at l
    have e3 : h.getD k (0, 0) = nxP h i := by rw [ei, e1]
    rw [e3]
    exact rel_touch l
  · rw [decide_eq_false c1]
    by_cases c2 : (k + 1) % h.length = i
    · rw [decide_eq_true c2]
      have e1 : (i + 1) % h.length = (k + 2) % h.length := by
        rw [← c2, Nat.mod_add_mod]
      have l := cvh_left H hk mi (by rw [e1]; exact r2) (by rw [e1]; exact r3)
      rw [← ei] at l
      have e3 : nxP h k = h.getD i (0, 0) := by rw [ek, c2]
      rw [e3] at l ⊢
      have := rel_touch l
      unfold relP at this ⊢
      rw [relA_comm]
      exact this
    · rw [decide_eq_false c2]
      have e0 : (i + 1) % h.length = i + 1 := Nat.mod_eq_of_lt (by omega)
      have n1 : k ≠ (i + 1) % h.length := by omega
      have n2 : (k + 1) % h.length ≠ (i + 1) % h.length := by
        intro e
        have hk1 : (k + 1) % h.length = if k + 1 = h.length then 0 else k + 1 := by
          split
          · rename_i q; rw [q, Nat.mod_self]
          · exact Nat.mod_eq_of_lt (by omega)
        rw [e0, hk1] at e
        split at e <;> omega
      have l1 := cvh_left H hi hk (by omega) n1
      have l2 := cvh_left H hi mk c2 n2
      have l3 := cvh_left H hk hi (by omega) (by omega)
      have l4 := cvh_left H hk mi (by omega) (fun e => n2 e.symm)
      rw [← ek] at l2
      rw [← ei] at l4
      exact rel_apart l1 l2 l3 l4
def mtP (a b c d : Pt) : Prop := crP a b c * crP a b d ≤ 0 ∧ crP c d a * crP c d b ≤ 0 ∧ crP a b c ≠ crP a b d
theorem mt_hs {a b c d : Pt} (h0 : crP a b c = 0) (h1 : crP c d a * crP c d b ≤ 0) (h2 : crP a b d ≠ 0) : hasB a.1 a.2 b.1 b.2 c.1 c.2 = true := by
  obtain ⟨ax, ay⟩ := a
  obtain ⟨bx, b_y⟩ := b
  obtain ⟨cx, cy⟩ := c
  obtain ⟨dx, dy⟩ := d
  have e0 : (ax - cx) * (b_y - cy) - (ay - cy) * (bx - cx) = 0 := by
    unfold crP crossI at h0
    simp only at h0
    grind
  have k1 : crP (cx, cy) (dx, dy) (ax, ay) * ((ax - cx) * (bx - cx) + (ay - cy) * (b_y - cy)) = crP (cx, cy) (dx, dy) (bx, b_y) * ((ax - cx) * (ax - cx) + (ay - cy) * (ay - cy)) := by
    unfold crP crossI
    simp only
    grind
  have k2 : crP (cx, cy) (dx, dy) (bx, b_y) * ((ax - cx) * (bx - cx) + (ay - cy) * (b_y - cy)) = crP (cx, cy) (dx, dy) (ax, ay) * ((bx - cx) * (bx - cx) + (b_y - cy) * (b_y - cy)) := by
    unfold crP crossI
    simp only
    grind
  have k3 : crP (ax, ay) (bx, b_y) (dx, dy) = crP (cx, cy) (dx, dy) (ax, ay) - crP (cx, cy) (dx, dy) (bx, b_y) := by
    unfold crP crossI at h0 ⊢
    simp only at h0 ⊢
    grind
  unfold hasB
  simp only [e0, beq_self_eq_true, Bool.true_and, decide_eq_true_eq]
  generalize crP (cx, cy) (dx, dy) (ax, ay) = s at *
  generalize crP (cx, cy) (dx, dy) (bx, b_y) = t at *
  have sqa := mul_sq (ax - cx)
  have sqb := mul_sq (ay - cy)
  have sqc := mul_sq (bx - cx)
  have sqd := mul_sq (b_y - cy)
  generalize (ax - cx) * (bx - cx) + (ay - cy) * (b_y - cy) = D at *
  rcases Int.lt_or_le 0 D with hD | hD
  rotate_left
  · exact hD
  exfalso
  generalize (ax - cx) * (ax - cx) = p1 at *
  generalize (ay - cy) * (ay - cy) = p2 at *
  generalize (bx - cx) * (bx - cx) = p3 at *
  generalize (b_y - cy) * (b_y - cy) = p4 at *
  rcases Int.lt_trichotomy s 0 with hs | hs | hs
  · have t0 : 0 ≤ t := by
      rcases Int.lt_or_le t 0 with ht | ht
      · have := Int.mul_pos_of_neg_of_neg hs ht
        omega
      · exact ht
    have := Int.mul_neg_of_neg_of_pos hs hD
    have := Int.mul_nonneg t0 (show 0 ≤ p1 + p2 by omega)
    omega
  · subst hs
    have h5 : t * D = 0 := by rw [k2]; simp
    rcases Int.mul_eq_zero.1 h5 with h6 | h6
    · subst h6
      exact h2 (by rw [k3]; rfl)
    · omega
  · have t0 : t ≤ 0 := by
      rcases Int.lt_or_le 0 t with ht | ht
      · have := Int.mul_pos hs ht
        omega
      · exact ht
    have := Int.mul_pos hs hD
    have := Int.mul_nonneg (show 0 ≤ -t by omega) (show 0 ≤ p1 + p2 by omega)
    have e : -t * (p1 + p2) = -(t * (p1 + p2)) := Int.neg_mul ..
    omega
theorem crP_sw (a b c : Pt) : crP b a c = -crP a b c := by unfold crP crossI; grind
theorem crP_df (a b c d : Pt) : crP a b c - crP a b d = crP c d b - crP c d a := by unfold crP crossI; grind
theorem mtP_sw {a b c d : Pt} (h : mtP a b c d) : mtP c d a b := ⟨h.2.1, h.1, fun e => h.2.2 (by have := crP_df a b c d; omega)⟩
theorem sgn_mul {x y : Int} (hx : x ≠ 0) (hy : y ≠ 0) (h : x * y ≤ 0) : decide (ŵ (cmpI x 0 * cmpI y 0) < 0) = true := by
  have key : (x < 0 ∧ 0 < y) ∨ (0 < x ∧ y < 0) := by
    rcases Int.lt_trichotomy x 0 with h1 | h1 | h1
    · rcases Int.lt_trichotomy y 0 with h2 | h2 | h2
      · have := Int.mul_pos_of_neg_of_neg h1 h2
        omega
      · exact absurd h2 hy
      · exact .inl ⟨h1, h2⟩
    · exact absurd h1 hx
    · rcases Int.lt_trichotomy y 0 with h2 | h2 | h2
      · exact .inr ⟨h1, h2⟩
      · exact absurd h2 hy
      · have := Int.mul_pos h1 h2
        omega
  unfold cmpI
  rcases key with ⟨h1, h2⟩ | ⟨h1, h2⟩
  · rw [if_pos h1, if_neg (show ¬ y < 0 by omega), if_pos h2]; rfl
  · rw [if_neg (show ¬ x < 0 by omega), if_pos h1, if_pos h2]; rfl
theorem end_rel {a b c d z : Pt} (hz : z = a ∨ z = b ∨ z = c ∨ z = d) (p1 : hasB a.1 a.2 b.1 b.2 z.1 z.2 = true) (p2 : hasB c.1 c.2 d.1 d.2 z.1 z.2 = true) : relP a b c d ≠ 0 := by
  have hm : z ∈ ceS a.1 a.2 b.1 b.2 c.1 c.2 d.1 d.2 := ce_mem.2 ⟨by unfold onB; rw [p1, p2]; rfl, hz⟩
  have hl : 0 < (ceS a.1 a.2 b.1 b.2 c.1 c.2 d.1 d.2).length := List.length_pos_of_mem hm
  unfold relP relA relN
  split
  · decide
  · rw [if_pos (by omega)]; decide
theorem mt_rel {a b c d : Pt} (h : mtP a b c d) : relP a b c d ≠ 0 := by
  obtain ⟨h1, h2, h3⟩ := h
  have hd := crP_df a b c d
  have end_ : ∀ z, (z = a ∨ z = b ∨ z = c ∨ z = d) → hasB a.1 a.2 b.1 b.2 z.1 z.2 = true → hasB c.1 c.2 d.1 d.2 z.1 z.2 = true → relP a b c d ≠ 0 := fun z hz p1 p2 => end_rel hz p1 p2
  by_cases c1 : crP a b c = 0
  · exact end_ c (.inr (.inr (.inl rfl))) (mt_hs c1 h2 (fun e => h3 (by omega))) (hasB_a ..)
  by_cases c2 : crP a b d = 0
  · exact end_ d (.inr (.inr (.inr rfl))) (mt_hs c2 (by rw [crP_sw c d a, crP_sw c d b, Int.neg_mul_neg]; exact h2) (fun e => h3 (by omega))) (hasB_b ..)
  by_cases c3 : crP c d a = 0
  · exact end_ a (.inl rfl) (hasB_a ..) (mt_hs c3 h1 (fun e => h3 (by omega)))
  by_cases c4 : crP c d b = 0
  · exact end_ b (.inr (.inl rfl)) (hasB_b ..) (mt_hs c4 (by rw [crP_sw a b c, crP_sw a b d, Int.neg_mul_neg]; exact h1) (fun e => h3 (by omega)))
  have e1 : dvB a.1 a.2 b.1 b.2 c.1 c.2 d.1 d.2 = true := sgn_mul c1 c2 h1
  have e2 : dvB c.1 c.2 d.1 d.2 a.1 a.2 b.1 b.2 = true := sgn_mul c3 c4 h2
  unfold relP relA
  rw [e1, e2]
  unfold relN
  split
  · decide
  · split <;> decide
theorem min_ratio {a b : Nat → Int} : ∀ {m : Nat}, (∀ i, i < m → 0 ≤ a i) → (∃ i, i < m ∧ b i < 0) → ∃ i, i < m ∧ b i < 0 ∧ ∀ k, k < m → b k < 0 → a i * (a k - b k) ≤ a k * (a i - b i)
  | 0, _, ⟨i, hi, _⟩ => absurd hi (by omega)
  | m + 1, ha, hex => by
    by_cases hm : b m < 0
    rotate_left
    · obtain ⟨i, hi, hb⟩ := hex
      have : i ≠ m := fun e => hm (e ▸ hb)
      obtain ⟨j, j1, j2, j3⟩ := min_ratio (a := a) (b := b) (m := m) (fun i hi => ha i (by omega)) ⟨i, by omega, hb⟩
      exact ⟨j, by omega, j2, fun k hk hbk => j3 k (by have : k ≠ m := fun e => hm (e ▸ hbk); omega) hbk⟩
    by_cases hr : ∃ i, i < m ∧ b i < 0
    rotate_left
    · refine ⟨m, by omega, hm, fun k hk hbk => ?_⟩
      rcases Nat.lt_or_ge k m with h | h
      · exact absurd ⟨k, h, hbk⟩ hr
      · obtain rfl : k = m := by omega
        exact Int.le_refl _
    obtain ⟨j, j1, j2, j3⟩ := min_ratio (a := a) (b := b) (m := m) (fun i hi => ha i (by omega)) hr
    have aj := ha j (by omega)
    have am := ha m (by omega)
    by_cases hc : a j * (a m - b m) ≤ a m * (a j - b j)
    · refine ⟨j, by omega, j2, fun k hk hbk => ?_⟩
      rcases Nat.lt_or_ge k m with h | h
      · exact j3 k h hbk
      · obtain rfl : k = m := by omega
        exact hc
    · refine ⟨m, by omega, hm, fun k hk hbk => ?_⟩
      rcases Nat.lt_or_ge k m with h | h
      · have h1 := j3 k h hbk
        have h2 : a m * (a j - b j) ≤ a j * (a m - b m) := by omega
        have ak := ha k (by omega)
        generalize ej : a j - b j = dj at *
        generalize ek : a k - b k = dk at *
        generalize em : a m - b m = dm at *
        have q1 := Int.mul_le_mul_of_nonneg_right h2 (show 0 ≤ dk by omega)
        have q2 := Int.mul_le_mul_of_nonneg_right h1 (show 0 ≤ dm by omega)
        have q3 : (a m * dk) * dj ≤ (a k * dm) * dj := by
          have e1 : a m * dj * dk = a m * dk * dj := by grind
          have e2 : a j * dm * dk = a j * dk * dm := by grind
          have e3 : a k * dj * dm = a k * dm * dj := by grind
          omega
        exact Int.le_of_mul_le_mul_right q3 (by omega)
      · obtain rfl : k = m := by omega
        exact Int.le_refl _
theorem sp_next (v0 v1 v2 p q : Pt) : crP v1 v2 p * -(crP v0 v1 q) + crP v1 v2 q * crP v0 v1 p = crP v0 v1 v2 * crP p q v1 := by unfold crP crossI; grind
theorem sp_prev (u v0 v1 p q : Pt) : crP u v0 p * -(crP v0 v1 q) + crP u v0 q * crP v0 v1 p = crP u v0 v1 * -(crP p q v0) := by unfold crP crossI; grind
def bfP (s : Int) (a b : Pt) : Prop := a.1 < b.1 ∨ a.1 = b.1 ∧ s * a.2 < s * b.2
theorem spiral {V : Nat → Pt} {n : Nat} {s : Int} (hT : ∀ i, i + 2 ≤ n → 0 < crP (V i) (V (i + 1)) (V (i + 2))) (hmin : ∀ k, 0 < k → k < n → bfP s (V 0) (V k)) (hn : V n = V 0)
    (hap : ∀ i m, i + 2 ≤ m → m < n → (i ≠ 0 ∨ m + 1 < n) → ¬ mtP (V i) (V (i + 1)) (V m) (V (m + 1))) :
    ∀ m, m < n → ∀ i, i < m → 0 ≤ crP (V i) (V (i + 1)) (V (m + 1)) := by
  intro m
  induction m with
  | zero => intro _ i hi; omega
  | succ m' ih =>
    intro hm
    generalize em : m' + 1 = m at *
    have ha : ∀ i, i < m → 0 ≤ crP (V i) (V (i + 1)) (V m) := fun i hi => by
      rcases Nat.lt_or_ge i m' with h | h
      · exact ih (by omega) i h
      · have e : i + 1 = m := by omega
        rw [e]
        have : crP (V i) (V m) (V m) = 0 := by unfold crP crossI; grind
        omega
    refine Classical.byContradiction fun hno => ?_
    have hex : ∃ i, i < m ∧ crP (V i) (V (i + 1)) (V (m + 1)) < 0 := by
      refine Classical.byContradiction fun h2 => hno fun i hi => ?_
      rcases Int.lt_or_le (crP (V i) (V (i + 1)) (V (m + 1))) 0 with h | h
      · exact absurd ⟨i, hi, h⟩ h2
      · exact h
    obtain ⟨i, hi, hb, hmn⟩ := min_ratio (a := fun i => crP (V i) (V (i + 1)) (V m)) (b := fun i => crP (V i) (V (i + 1)) (V (m + 1))) ha hex
    have hmn : ∀ k, k < m → crP (V k) (V (k + 1)) (V (m + 1)) < 0 → crP (V i) (V (i + 1)) (V m) * (crP (V k) (V (k + 1)) (V m) - crP (V k) (V (k + 1)) (V (m + 1))) ≤ crP (V k) (V (k + 1)) (V m) * (crP (V i) (V (i + 1)) (V m) - crP (V i) (V (i + 1)) (V (m + 1))) := hmn
    have hb : crP (V i) (V (i + 1)) (V (m + 1)) < 0 := hb
    have hi2 : i + 2 ≤ m := by
      rcases Nat.lt_or_ge (i + 1) m with h | h
      · omega
      · exfalso
        have := hT i (by omega)
        rw [show i + 2 = m + 1 by omega] at this
        omega
    have hz : ∀ k, k < m → 0 ≤ crP (V k) (V (k + 1)) (V m) * -(crP (V i) (V (i + 1)) (V (m + 1))) + crP (V k) (V (k + 1)) (V (m + 1)) * crP (V i) (V (i + 1)) (V m) := fun k hk => by
      have ak := ha k hk
      have ai := ha i hi
      rcases Int.lt_or_le (crP (V k) (V (k + 1)) (V (m + 1))) 0 with h | h
      · have := hmn k hk h
        generalize crP (V k) (V (k + 1)) (V m) = x at *
        generalize crP (V k) (V (k + 1)) (V (m + 1)) = y at *
        generalize crP (V i) (V (i + 1)) (V m) = z at *
        generalize crP (V i) (V (i + 1)) (V (m + 1)) = t at *
        grind
      · have q1 := Int.mul_nonneg ak (show 0 ≤ -(crP (V i) (V (i + 1)) (V (m + 1))) by omega)
        have q2 := Int.mul_nonneg h ai
        omega
    have ai := ha i hi
    have df := crP_df (V i) (V (i + 1)) (V m) (V (m + 1))
    have hM1 : 0 ≤ crP (V m) (V (m + 1)) (V (i + 1)) := by
      have h1 := hz (i + 1) (by omega)
      rw [sp_next] at h1
      exact Int.nonneg_of_mul_nonneg_right h1 (hT i (by omega))
    have hi0 : i ≠ 0 ∨ m + 1 < n := by
      rcases Nat.eq_zero_or_pos i with h | h
      · right
        rcases Nat.lt_or_ge (m + 1) n with h2 | h2
        · exact h2
        · exfalso
          subst h
          have e : m + 1 = n := by omega
          rw [e, hn] at hb
          have : crP (V 0) (V (0 + 1)) (V 0) = 0 := by unfold crP crossI; grind
          omega
      · exact .inl (by omega)
    have hM0 : crP (V m) (V (m + 1)) (V i) ≤ 0 := by
      rcases Nat.eq_zero_or_pos i with h | h
      · subst h
        have hmn1 : m + 1 < n := by omega
        rcases Int.lt_or_le 0 (crP (V m) (V (m + 1)) (V 0)) with hp | hp
        rotate_left
        · exact hp
        exfalso
        have b1 := hmin 1 (by omega) (by omega)
        have b2 := hmin m (by omega) (by omega)
        have b3 := hmin (m + 1) (by omega) hmn1
        have g1 : -(crP (V 0) (V (0 + 1)) (V (m + 1))) * ((V m).1 - (V 0).1) + crP (V 0) (V (0 + 1)) (V m) * ((V (m + 1)).1 - (V 0).1) + crP (V m) (V (m + 1)) (V 0) * ((V (0 + 1)).1 - (V 0).1) = 0 := by unfold crP crossI; grind
        have g2 : -(crP (V 0) (V (0 + 1)) (V (m + 1))) * (s * (V m).2 - s * (V 0).2) + crP (V 0) (V (0 + 1)) (V m) * (s * (V (m + 1)).2 - s * (V 0).2) + crP (V m) (V (m + 1)) (V 0) * (s * (V (0 + 1)).2 - s * (V 0).2) = 0 := by unfold crP crossI; grind
        unfold bfP at b1 b2 b3
        generalize crP (V 0) (V (0 + 1)) (V (m + 1)) = t at *
        generalize crP (V 0) (V (0 + 1)) (V m) = z at *
        generalize crP (V m) (V (m + 1)) (V 0) = u at *
        have n1 := Int.mul_nonneg (show 0 ≤ -t by omega) (show 0 ≤ (V m).1 - (V 0).1 by omega)
        have n2 := Int.mul_nonneg ai (show 0 ≤ (V (m + 1)).1 - (V 0).1 by omega)
        have n3 := Int.mul_nonneg (show 0 ≤ u by omega) (show 0 ≤ (V (0 + 1)).1 - (V 0).1 by rw [Nat.zero_add]; omega)
        have z1 : -t * ((V m).1 - (V 0).1) = 0 := by omega
        have z2 : z * ((V (m + 1)).1 - (V 0).1) = 0 := by omega
        have z3 : u * ((V (0 + 1)).1 - (V 0).1) = 0 := by omega
        have y1 : 0 < -t * (s * (V m).2 - s * (V 0).2) := by
          rcases Int.mul_eq_zero.1 z1 with h | h
          · omega
          · exact Int.mul_pos (by omega) (by omega)
        have y2 : 0 ≤ z * (s * (V (m + 1)).2 - s * (V 0).2) := by
          rcases Int.mul_eq_zero.1 z2 with h | h
          · rw [h]; simp
          · exact Int.mul_nonneg ai (by omega)
        have y3 : 0 ≤ u * (s * (V (0 + 1)).2 - s * (V 0).2) := by
          rcases Int.mul_eq_zero.1 z3 with h | h
          · omega
          · rw [Nat.zero_add] at h ⊢
            exact Int.mul_nonneg (by omega) (by omega)
        omega
      · have h1 := hz (i - 1) (by omega)
        rw [show i - 1 + 1 = i by omega, sp_prev] at h1
        have hT1 := hT (i - 1) (by omega)
        rw [show i - 1 + 1 = i by omega, show i - 1 + 2 = i + 1 by omega] at hT1
        have := Int.nonneg_of_mul_nonneg_right h1 hT1
        omega
    refine hap i m hi2 hm hi0 ⟨?_, ?_, by omega⟩
    · have := Int.mul_nonneg ai (show 0 ≤ -(crP (V i) (V (i + 1)) (V (m + 1))) by omega)
      rw [Int.mul_neg] at this
      omega
    · have := Int.mul_nonneg (show 0 ≤ -(crP (V m) (V (m + 1)) (V i)) by omega) hM1
      rw [Int.neg_mul] at this
      omega
theorem relV_comm (a b c d e f g h : Int) : relV a b c d e f g h = relV e f g h a b c d := by
  unfold relV
  rw [relA_comm, Bool.and_comm]
theorem nodup_le : ∀ {l m : List Pt}, l.Nodup → (∀ x ∈ l, x ∈ m) → l.length ≤ m.length
  | [], _, _, _ => Nat.zero_le _
  | x :: l, m, hn, hs => by
    have hn' := List.nodup_cons.1 hn
    have hx : x ∈ m := hs x (by simp)
    have := nodup_le (l := l) (m := m.erase x) hn'.2 fun y hy => by
      have : y ≠ x := fun e => hn'.1 (e ▸ hy)
      exact (List.mem_erase_of_ne this).2 (hs y (List.mem_cons_of_mem _ hy))
    rw [List.length_erase_of_mem hx] at this
    have hp : 0 < m.length := List.length_pos_of_mem hx
    simp only [List.length_cons]
    omega
def dirV (dx dy : Int) (p : Pt) : Int := p.1 * dx + p.2 * dy
theorem fan_step {f : Nat → Int} (h1 : 0 ≤ f 1) : ∀ m, f (m + 2) ≤ 0 → ∃ i, 1 ≤ i ∧ i + 1 ≤ m + 2 ∧ 0 ≤ f i ∧ f (i + 1) ≤ 0
  | 0, h => ⟨1, by omega, by omega, h1, h⟩
  | m + 1, h => by
    by_cases c : f (m + 2) ≤ 0
    · obtain ⟨i, a, b, d, e⟩ := fan_step h1 m c
      exact ⟨i, a, by omega, d, e⟩
    · exact ⟨m + 2, by omega, by omega, by omega, h⟩
theorem fan_tri {h : List Pt} (H : CvH h) {q : Pt} (hq : ∀ j, j < h.length → 0 ≤ crP (h.getD j (0, 0)) (nxP h j) q) :
    ∃ i, 1 ≤ i ∧ i + 1 < h.length ∧ 0 ≤ crP (h.getD 0 (0, 0)) (h.getD i (0, 0)) q ∧ 0 ≤ crP (h.getD i (0, 0)) (h.getD (i + 1) (0, 0)) q ∧ 0 ≤ crP (h.getD (i + 1) (0, 0)) (h.getD 0 (0, 0)) q := by
  have h3 := H.three
  have nx : ∀ i, i + 1 < h.length → nxP h i = h.getD (i + 1) (0, 0) := fun i hi => by unfold nxP; rw [Nat.mod_eq_of_lt hi]
  have neg : ∀ i, crP (h.getD i (0, 0)) (h.getD 0 (0, 0)) q = -crP (h.getD 0 (0, 0)) (h.getD i (0, 0)) q := fun i => by unfold crP crossI; grind
  have e1 : 0 ≤ crP (h.getD 0 (0, 0)) (h.getD 1 (0, 0)) q := by
    have := hq 0 (by omega)
    rwa [nx 0 (by omega)] at this
  obtain ⟨m, hm⟩ : ∃ m, h.length = m + 3 := ⟨h.length - 3, by omega⟩
  have e2 : crP (h.getD 0 (0, 0)) (h.getD (m + 2) (0, 0)) q ≤ 0 := by
    have := hq (m + 2) (by omega)
    have e : nxP h (m + 2) = h.getD 0 (0, 0) := by unfold nxP; rw [hm, Nat.mod_self]
    rw [e, neg] at this
    omega
  obtain ⟨i, a, b, c, d⟩ := fan_step (f := fun i => crP (h.getD 0 (0, 0)) (h.getD i (0, 0)) q) e1 m e2
  refine ⟨i, a, by omega, c, ?_, ?_⟩
  · have := hq i (by omega)
    rwa [nx i (by omega)] at this
  · rw [neg]
    omega
theorem tri_pos {h : List Pt} (H : CvH h) {i : Nat} (h1 : 1 ≤ i) (hi : i + 1 < h.length) : 0 < crP (h.getD 0 (0, 0)) (h.getD i (0, 0)) (h.getD (i + 1) (0, 0)) := by
  have := cvh_left H (j := i) (k := 0) (by omega) (by omega) (by omega) (by rw [Nat.mod_eq_of_lt (by omega)]; omega)
  have e : nxP h i = h.getD (i + 1) (0, 0) := by unfold nxP; rw [Nat.mod_eq_of_lt (by omega)]
  rw [e] at this
  have r : crP (h.getD 0 (0, 0)) (h.getD i (0, 0)) (h.getD (i + 1) (0, 0)) = crP (h.getD i (0, 0)) (h.getD (i + 1) (0, 0)) (h.getD 0 (0, 0)) := by unfold crP crossI; grind
  omega
theorem bary_dir (a b c q : Pt) (dx dy : Int) : crP a b c * dirV dx dy q = crP b c q * dirV dx dy a + crP c a q * dirV dx dy b + crP a b q * dirV dx dy c := by
  unfold crP crossI dirV
  grind
theorem bary_sum (a b c q : Pt) : crP a b c = crP b c q + crP c a q + crP a b q := by
  unfold crP crossI
  grind
theorem le_of_bary {s al be ga x y z q M : Int} (hs : 0 < s) (h1 : 0 ≤ al) (h2 : 0 ≤ be) (h3 : 0 ≤ ga) (he : s = al + be + ga) (hq : s * q = al * x + be * y + ga * z) (hx : x ≤ M) (hy : y ≤ M) (hz : z ≤ M) : q ≤ M := by
  have p1 := Int.mul_le_mul_of_nonneg_left hx h1
  have p2 := Int.mul_le_mul_of_nonneg_left hy h2
  have p3 := Int.mul_le_mul_of_nonneg_left hz h3
  have : s * q ≤ s * M := by
    rw [hq, he, Int.add_mul, Int.add_mul]
    omega
  exact Int.le_of_mul_le_mul_left this hs
theorem le_of_bary2 {s al be x y q M : Int} (hs : 0 < s) (h1 : 0 ≤ al) (h2 : 0 ≤ be) (he : s = al + be) (hq : s * q = al * x + be * y) (hx : x ≤ M) (hy : y ≤ M) : q ≤ M := by
  have p1 := Int.mul_le_mul_of_nonneg_left hx h1
  have p2 := Int.mul_le_mul_of_nonneg_left hy h2
  have : s * q ≤ s * M := by
    rw [hq, he, Int.add_mul]
    omega
  exact Int.le_of_mul_le_mul_left this hs
theorem cvh_max {h : List Pt} (H : CvH h) {q : Pt} (hq : ∀ j, j < h.length → 0 ≤ crP (h.getD j (0, 0)) (nxP h j) q) {dx dy M : Int} (hM : ∀ v ∈ h, dirV dx dy v ≤ M) : dirV dx dy q ≤ M := by
  obtain ⟨i, i1, i2, g1, g2, g3⟩ := fan_tri H hq
  exact le_of_bary (tri_pos H i1 i2) g2 g3 g1 (bary_sum _ _ _ _) (bary_dir _ _ _ q dx dy) (hM _ (getD_mem' (by omega))) (hM _ (getD_mem' (by omega))) (hM _ (getD_mem' i2))
theorem hul_short {s : List Pt} (h : Asc s) (h3 : 3 ≤ s.length) (hl : (hulL s).length < 3) : (lowR s).length = 2 ∧ (uppR s).length = 2 := by
  have h0 : s ≠ [] := by intro e; rw [e] at h3; simp at h3
  have q1 := low_len s
  have q2 := upp_len s
  have l1 : 2 ≤ (lowR s).length := by rw [q1]; exact chn_ge (by omega)
  have l2 : 2 ≤ (uppR s).length := by rw [q2]; exact chn_ge (by rw [revP_len]; omega)
  have e : (hulL s).length = ((lowR s).length - 1) + ((uppR s).length - 1) := by
    rw [hul_of (by omega)]
    simp
  omega
theorem hul_max {s : List Pt} (h : Asc s) {dx dy M : Int} (hM : ∀ v ∈ hulL s, dirV dx dy v ≤ M) : ∀ q ∈ s, dirV dx dy q ≤ M := by
  intro q hq
  by_cases h3 : 3 ≤ s.length
  rotate_left
  · have e : hulL s = s := by unfold hulL; rw [if_pos (by omega)]
    exact hM q (by rw [e]; exact hq)
  by_cases hl : 3 ≤ (hulL s).length
  · exact cvh_max (hul_cvh h hl) (fun j hj => hul_left h h3 hj hq) hM
  · have h0 : s ≠ [] := by intro e; rw [e] at h3; simp at h3
    obtain ⟨k1, k2⟩ := hul_short h h3 (by omega)
    obtain ⟨_, _, e1, e2, t1, t2⟩ := hul_ends h h0
    rw [k2] at e1
    rw [k1] at e2
    have g1 := lft_at (low_ok h h0).lft 0 (by omega) q hq
    have g2 := lft_at (upp_ok h h0).lft 0 (by rw [ngL_len]; omega) (ngP q) (by show ngP (ngP q) ∈ s; rw [ngP_ng]; exact hq)
    rw [ngL_at (by omega), ngL_at (by omega), crP_ng, ← e1, e2] at g2
    have ma : (lowR s).getD 1 (0, 0) ∈ hulL s := low_hul h h3 (getD_mem' (by omega))
    have mb : (lowR s).getD 0 (0, 0) ∈ hulL s := low_hul h h3 (getD_mem' (by omega))
    have Ma := hM _ ma
    have Mb := hM _ mb
    rw [e2] at t2
    have hab := dsc_at (low_ok h h0).dsc (i := 0) (j := 1) (by omega) (by omega)
    have u1 := t1 q hq
    have u2 := t2 q hq
    simp only [Nat.zero_add] at g1 g2 u1 u2 hab Ma Mb
    have hs : (2 - 1 : Nat) = 1 := rfl
    rw [hs] at *
    generalize (lowR s).getD 0 (0, 0) = b at *
    generalize (lowR s).getD 1 (0, 0) = a at *
    have z : crP a b q = 0 := by
      have : crP b a q = -crP a b q := by unfold crP crossI; grind
      omega
    obtain ⟨a1, a2⟩ := a
    obtain ⟨b1, b2⟩ := b
    obtain ⟨x, y⟩ := q
    have o1 : x = b1 ∧ y = b2 ∨ (x < b1 ∨ x = b1 ∧ y < b2) := by
      rcases u1 with u | u
      · exact .inl (Prod.mk.inj u)
      · exact .inr (pltB_iff.1 u)
    have o2 : x = a1 ∧ y = a2 ∨ (a1 < x ∨ a1 = x ∧ a2 < y) := by
      rcases u2 with u | u
      · exact .inl (Prod.mk.inj u)
      · exact .inr (pltB_iff.1 u)
    have o3 := pltB_iff.1 hab
    unfold dirV at *
    unfold crP crossI at z
    simp only at *
    by_cases hx : a1 < b1
    · have key : (b1 - a1) * (x * dx + y * dy) = (b1 - x) * (a1 * dx + a2 * dy) + (x - a1) * (b1 * dx + b2 * dy) := by grind
      exact le_of_bary2 (by omega) (by omega) (by omega) (by omega) key Ma Mb
    · obtain rfl : a1 = b1 := by omega
      obtain rfl : x = a1 := by omega
      have key : (b2 - a2) * (x * dx + y * dy) = (b2 - y) * (x * dx + a2 * dy) + (y - a2) * (x * dx + b2 * dy) := by grind
      exact le_of_bary2 (by omega) (by omega) (by omega) (by omega) key Ma Mb
theorem srtL_same {ps qs : List Pt} (h : ∀ z, z ∈ ps ↔ z ∈ qs) : srtL ps = srtL qs := asc_ext (srtL_asc _) (srtL_asc _) fun z => by rw [srtL_mem, srtL_mem, h]
theorem md_nx {n j : Nat} (h : j < n) : (j + 1) % n = if j + 1 = n then 0 else j + 1 := by
  split
  · rename_i e
    rw [e, Nat.mod_self]
  · exact Nat.mod_eq_of_lt (by omega)
theorem md_add {n j r : Nat} (h : j < n) (hr : r < n) : (j + r) % n = if j + r < n then j + r else j + r - n := by
  split
  · exact Nat.mod_eq_of_lt (by assumption)
  · rw [Nat.mod_eq_sub_mod (by omega), Nat.mod_eq_of_lt (by omega)]
def adj (n i k : Nat) : Bool := decide ((i + 1) % n = k) || decide ((k + 1) % n = i)
theorem adj_sym (n i k : Nat) : adj n i k = adj n k i := by unfold adj; rw [Bool.or_comm]
theorem edR_sym (ps : List Pt) (i k : Nat) : edR ps i k = edR ps k i := relV_comm ..
theorem nbQ_adj {ps : List Pt} {i k : Nat} (hk : k < ps.length) (h : i < k) : nbQ ps i k = adj ps.length i k := by
  unfold nbQ adj
  rw [md_nx (show i < ps.length by omega)]
  congr 1
  rw [Bool.eq_iff_iff, decide_eq_true_eq, decide_eq_true_eq]
  split <;> omega
theorem allQ_iff {P : Nat → Bool} {n : Nat} : allQ P 0 n = true ↔ ∀ j, j < n → P j = true := by
  constructor
  · intro h j hj
    rcases hp : P j with _ | _
    · rw [allQ_no hj hp] at h
      cases h
    · rfl
  · exact fun h => allQ_all _ _ fun j _ h2 => h j (by omega)
theorem simQ_iff {ps : List Pt} : simQ ps = true ↔ ∀ i k, i < ps.length → k < ps.length → i ≠ k → edR ps i k = bif adj ps.length i k then 1 else 0 := by
  have key : simQ ps = true ↔ ∀ i k, i < k → k < ps.length → edR ps i k = bif adj ps.length i k then 1 else 0 := by
    unfold simQ rowQ
    rw [allQ_iff]
    constructor
    · intro h i k hik hk
      have := allQ_iff.1 (h i (by omega)) k hk
      unfold okE at this
      rw [decide_eq_true hik, nbQ_adj hk hik] at this
      simpa using this
    · intro h i hi
      rw [allQ_iff]
      intro k hk
      unfold okE
      by_cases hik : i < k
      · rw [nbQ_adj hk hik, h i k hik hk]
        simp
      · rw [decide_eq_false hik]
        rfl
  rw [key]
  constructor
  · intro h i k hi hk hne
    rcases Nat.lt_or_ge i k with h1 | h1
    · exact h i k h1 hk
    · rw [edR_sym, adj_sym]
      exact h k i (by omega) hi
  · exact fun h i k h1 h2 => h i k (by omega) h2 (by omega)
def rotP (r : Nat) (ps : List Pt) : List Pt := ps.drop r ++ ps.take r
theorem rotP_len {r : Nat} {ps : List Pt} (h : r ≤ ps.length) : (rotP r ps).length = ps.length := by
  unfold rotP
  rw [List.length_append, List.length_drop, List.length_take]
  omega
theorem rotP_mem {r : Nat} {ps : List Pt} {z : Pt} : z ∈ rotP r ps ↔ z ∈ ps := by
  unfold rotP
  rw [List.mem_append, ← List.take_append_drop r ps, List.mem_append]
  simp only [List.take_append_drop]
  exact Or.comm
theorem rotP_at {r : Nat} {ps : List Pt} (h : r < ps.length) {j : Nat} (hj : j < ps.length) : (rotP r ps).getD j (0, 0) = ps.getD ((j + r) % ps.length) (0, 0) := by
  unfold rotP
  rw [md_add hj h, getD_append, List.length_drop]
  split
  · rw [if_pos (by omega)]
    simp [Nat.add_comm]
  · rw [if_neg (by omega), getD_take' _ (by omega)]
    congr 1
    omega
theorem rotP_nx {r : Nat} {ps : List Pt} (h : r < ps.length) {j : Nat} (hj : j < ps.length) : nxP (rotP r ps) j = nxP ps ((j + r) % ps.length) := by
  unfold nxP
  rw [rotP_len (by omega), rotP_at h (Nat.mod_lt _ (by omega))]
  congr 1
  rw [md_nx hj, md_add hj h]
  have e1 : (if j + 1 = ps.length then 0 else j + 1) < ps.length := by split <;> omega
  rw [md_add e1 h]
  have e2 : (if j + r < ps.length then j + r else j + r - ps.length) < ps.length := by split <;> omega
  rw [md_nx e2]
  split <;> split <;> split <;> (try split) <;> omega
theorem rotP_ed {r : Nat} {ps : List Pt} (h : r < ps.length) {i k : Nat} (hi : i < ps.length) (hk : k < ps.length) : edR (rotP r ps) i k = edR ps ((i + r) % ps.length) ((k + r) % ps.length) := by
  unfold edR
  rw [rotP_at h hi, rotP_at h hk, rotP_nx h hi, rotP_nx h hk]
theorem adj_rot {n r i k : Nat} (h : r < n) (hi : i < n) (hk : k < n) : adj n ((i + r) % n) ((k + r) % n) = adj n i k := by
  unfold adj
  rw [md_add hi h, md_add hk h]
  have e1 : (if i + r < n then i + r else i + r - n) < n := by split <;> omega
  have e2 : (if k + r < n then k + r else k + r - n) < n := by split <;> omega
  rw [md_nx e1, md_nx e2, md_nx hi, md_nx hk]
  congr 1
  · rw [Bool.eq_iff_iff, decide_eq_true_eq, decide_eq_true_eq]
    split <;> split <;> split <;> (try split) <;> omega
  · rw [Bool.eq_iff_iff, decide_eq_true_eq, decide_eq_true_eq]
    split <;> split <;> split <;> (try split) <;> omega
theorem bool_of {a b : Bool} (h1 : a = true → b = true) (h2 : b = true → a = true) : a = b := by
  rw [Bool.eq_iff_iff]
  exact ⟨h1, h2⟩
theorem okL_same {ps qs : List Pt} (hl : ps.length = qs.length) (h : ∀ z, z ∈ ps ↔ z ∈ qs) : okL ps = okL qs := by
  unfold okL
  rw [hl]
  congr 1
  refine bool_of (fun k => List.all_eq_true.2 fun z hz => List.all_eq_true.1 k z ((h z).2 hz)) (fun k => List.all_eq_true.2 fun z hz => List.all_eq_true.1 k z ((h z).1 hz))
theorem simQ_rot {r : Nat} {ps : List Pt} (h : r < ps.length) : simQ (rotP r ps) = simQ ps := by
  have hl := rotP_len (ps := ps) (Nat.le_of_lt h)
  refine bool_of (fun k => ?_) (fun k => ?_)
  · rw [simQ_iff] at k ⊢
    rw [hl] at k
    intro i j hi hj hne
    have back : ∀ i, i < ps.length → ∃ i', i' < ps.length ∧ (i' + r) % ps.length = i := by
      intro i hi
      rcases Nat.lt_or_ge i r with h1 | h1
      · refine ⟨i + ps.length - r, by omega, ?_⟩
        rw [md_add (by omega) h, if_neg (by omega)]
        omega
      · refine ⟨i - r, by omega, ?_⟩
        rw [md_add (by omega) h, if_pos (by omega)]
        omega
    obtain ⟨i', i1, rfl⟩ := back i hi
    obtain ⟨j', j1, rfl⟩ := back j hj
    have := k i' j' i1 j1 (fun e => hne (by rw [e]))
    rw [rotP_ed h i1 j1] at this
    rw [this, adj_rot h i1 j1]
  · rw [simQ_iff] at k ⊢
    rw [hl]
    intro i j hi hj hne
    rw [rotP_ed h hi hj, k _ _ (Nat.mod_lt _ (by omega)) (Nat.mod_lt _ (by omega)) ?_, adj_rot h hi hj]
    rw [md_add hi h, md_add hj h]
    split <;> split <;> omega
theorem issI_rot {r : Nat} {ps : List Pt} (h : r < ps.length) : issI (rotP r ps) = issI ps := by
  unfold issI
  rw [rotP_len (Nat.le_of_lt h), simQ_rot h, okL_same (rotP_len (Nat.le_of_lt h)) fun z => rotP_mem]
def mirP (p : Pt) : Pt := (p.1, -p.2)
theorem crP_mir (a b c : Pt) : crP (mirP a) (mirP b) (mirP c) = -crP a b c := by unfold crP crossI mirP; grind
theorem crP_cy (a b c : Pt) : crP b c a = crP a b c := by unfold crP crossI; grind
theorem mtP_mir {a b c d : Pt} (h : mtP (mirP a) (mirP b) (mirP c) (mirP d)) : mtP a b c d := by
  obtain ⟨h1, h2, h3⟩ := h
  rw [crP_mir, crP_mir, Int.neg_mul_neg] at h1 h2
  rw [crP_mir, crP_mir] at h3
  exact ⟨h1, h2, fun e => h3 (by rw [e])⟩
theorem mtP_rv {a b c d : Pt} (h : mtP a b c d) : mtP b a d c := by
  obtain ⟨h1, h2, h3⟩ := h
  refine ⟨?_, ?_, ?_⟩
  · rw [crP_sw a b d, crP_sw a b c, Int.neg_mul_neg, Int.mul_comm]
    exact h1
  · rw [crP_sw c d b, crP_sw c d a, Int.neg_mul_neg, Int.mul_comm]
    exact h2
  · rw [crP_sw a b d, crP_sw a b c]
    omega
theorem spiral_all {V : Nat → Pt} {n : Nat} (hT : ∀ i, i + 2 ≤ n → 0 < crP (V i) (V (i + 1)) (V (i + 2))) (hmin : ∀ k, 0 < k → k < n → bfP 1 (V 0) (V k)) (hn : V n = V 0)
    (hap : ∀ i m, i + 2 ≤ m → m < n → (i ≠ 0 ∨ m + 1 < n) → ¬ mtP (V i) (V (i + 1)) (V m) (V (m + 1))) :
    ∀ j, j < n → ∀ k, k < n → 0 ≤ crP (V j) (V (j + 1)) (V k) := by
  intro j hj k hk
  rcases Nat.lt_or_ge k j with h | h
  · have h2 := spiral (V := fun k => mirP (V (n - k))) (n := n) (s := -1) (fun i hi => ?_) (fun k h0 hk => ?_) ?_ (fun i m him hm hor hmt => ?_) (n - 1 - k) (by omega) (n - 1 - j) (by omega)
    · simp only [crP_mir] at h2
      rw [show n - (n - 1 - j) = j + 1 by omega, show n - (n - 1 - j + 1) = j by omega, show n - (n - 1 - k + 1) = k by omega, crP_sw] at h2
      omega
    · simp only [crP_mir]
      have := hT (n - i - 2) (by omega)
      rw [show n - i - 2 + 1 = n - (i + 1) by omega, show n - i - 2 + 2 = n - i by omega, show n - i - 2 = n - (i + 2) by omega] at this
      rw [crP_sw, crP_cy] 
      have e : crP (V (n - (i + 1))) (V (n - i)) (V (n - (i + 2))) = crP (V (n - (i + 2))) (V (n - (i + 1))) (V (n - i)) := by unfold crP crossI; grind
      omega
    · have := hmin (n - k) (by omega) (by omega)
      unfold bfP mirP at *
      simp only [Nat.sub_zero, hn]
      omega
    · simp only [Nat.sub_self, Nat.sub_zero, hn]
    · have h3 := mtP_sw (mtP_rv (mtP_mir hmt))
      have := hap (n - m - 1) (n - i - 1) (by omega) (by omega) (by omega)
      rw [show n - m - 1 + 1 = n - m by omega, show n - i - 1 + 1 = n - i by omega] at this
      exact this h3
  · by_cases e1 : k = j
    · subst e1
      have : crP (V k) (V (k + 1)) (V k) = 0 := by unfold crP crossI; grind
      omega
    by_cases e2 : k = j + 1
    · subst e2
      have : crP (V j) (V (j + 1)) (V (j + 1)) = 0 := by unfold crP crossI; grind
      omega
    have := spiral hT hmin hn hap (k - 1) (by omega) j (by omega)
    rw [show k - 1 + 1 = k by omega] at this
    exact this
theorem sim_nodup {p : List Pt} (hv : allV p = true) (h3 : 3 ≤ p.length) (hs : simQ p = true) : (∀ i, i < p.length → sgQ p i = true) ∧ p.Nodup := by
  have hE := simQ_iff.1 hs
  have sg : ∀ i, i < p.length → sgQ p i = true := fun i hi => by
    rcases hq : sgQ p i with _ | _
    · exfalso
      have := hE i ((i + 1) % p.length) hi (Nat.mod_lt _ (by omega)) (Ne.symm (next_ne h3 hi))
      rw [edR_is, hq] at this
      simp only [Bool.false_and, cond_false] at this
      generalize adj p.length i ((i + 1) % p.length) = b at this
      cases b
      · exact absurd this (by decide)
      · exact absurd this (by decide)
    · rfl
  refine ⟨sg, nodup_get.2 fun i j hij hj e => ?_⟩
  have h1 := hE i j (by omega) hj (by omega)
  have n1 := (sgQ_iff hv (show i < p.length by omega)).1 (sg i (by omega))
  have n2 := (sgQ_iff hv hj).1 (sg j hj)
  rcases ha : adj p.length i j with _ | _
  · rw [ha, edR_is, sg i (by omega), sg j hj] at h1
    rcases edX_end (ps := p) (i := i) (k := j) (z := p.getD i (0, 0)) (.inl rfl) (.inl e) with h | h
    · rw [h] at h1; exact absurd h1 (by decide)
    · rw [h] at h1; exact absurd h1 (by decide)
  · unfold adj at ha
    simp only [Bool.or_eq_true, decide_eq_true_eq] at ha
    rcases ha with h | h
    · exact n1 (by unfold nxP; rw [h]; exact e)
    · exact n2 (by unfold nxP; rw [h]; exact e.symm)
theorem cvx_parts {p : List Pt} (h : cvxI p = true) : 3 ≤ p.length ∧ okL p = true ∧ allV p = true ∧ simQ p = true ∧ ∀ j, j < p.length → 0 < crP (p.getD j (0, 0)) (nxP p j) (nx2 p j) := by
  unfold cvxI issI at h
  simp only [Bool.and_eq_true, decide_eq_true_eq] at h
  obtain ⟨⟨⟨h1, h2⟩, h3⟩, h4⟩ := h
  refine ⟨h1, h2, (by unfold okL at h2; simp only [Bool.and_eq_true] at h2; exact h2.1), h3, fun j hj => ?_⟩
  have := allQ_iff.1 h4 j hj
  exact of_decide_eq_true this
theorem pv_ix {n j : Nat} (h3 : 3 ≤ n) (hj : j < n) : ∃ i, i < n ∧ (i + 1) % n = j ∧ (i + 2) % n = (j + 1) % n ∧ ∀ k, k < n → (k + 1) % n = j → k = i := by
  have u : ∀ k, k < n → (k + 1) % n = if k + 1 = n then 0 else k + 1 := fun k hk => md_nx hk
  rcases Nat.eq_zero_or_pos j with h | h
  · refine ⟨n - 1, by omega, ?_, ?_, fun k hk e => ?_⟩
    · rw [u _ (by omega), if_pos (by omega)]; exact h.symm
    · subst h
      rw [show n - 1 + 2 = n + 1 by omega, Nat.add_mod_left]
    · rw [u k hk] at e
      split at e <;> omega
  · refine ⟨j - 1, by omega, ?_, ?_, fun k hk e => ?_⟩
    · rw [u _ (by omega), if_neg (by omega)]; omega
    · rw [show j - 1 + 2 = j + 1 by omega]
    · rw [u k hk] at e
      split at e <;> omega
theorem cvx_cvh0 {p : List Pt} (h : cvxI p = true) (hm : ∀ k, 0 < k → k < p.length → bfP 1 (p.getD 0 (0, 0)) (p.getD k (0, 0))) : CvH p := by
  obtain ⟨h3, ho, hv, hs, hT⟩ := cvx_parts h
  obtain ⟨sg, hnd⟩ := sim_nodup hv h3 hs
  have hE := simQ_iff.1 hs
  have ev : ∀ k, k < p.length → p.getD (k % p.length) (0, 0) = p.getD k (0, 0) := fun k hk => by rw [Nat.mod_eq_of_lt hk]
  have rel0 : ∀ i m, i < p.length → m < p.length → i ≠ m → adj p.length i m = false → relP (p.getD i (0, 0)) (nxP p i) (p.getD m (0, 0)) (nxP p m) = 0 := fun i m hi hm hne ha => by
    have := hE i m hi hm hne
    rw [ha, edR_P (sg i hi) (sg m hm)] at this
    exact this
  have hL := spiral_all (V := fun k => p.getD (k % p.length) (0, 0)) (n := p.length) (fun i hi => by
    have := hT i (by omega)
    simp only [ev i (by omega)]
    exact this) (fun k h0 hk => by
    simp only [Nat.zero_mod, ev k hk]
    exact hm k h0 hk) (by simp only [Nat.mod_self, Nat.zero_mod]) (fun i m him hm hor hmt => by
    simp only [ev i (by omega), ev m hm] at hmt
    refine mt_rel hmt (rel0 i m (by omega) hm (by omega) ?_)
    unfold adj
    rw [md_nx (show i < p.length by omega), md_nx hm]
    simp only [Bool.or_eq_false_iff, decide_eq_false_iff_not]
    constructor
    · split <;> omega
    · split <;> omega)
  refine ⟨h3, hnd, fun j hj v hvm n1 n2 => ?_⟩
  obtain ⟨k, hk, rfl⟩ : ∃ k, k < p.length ∧ p.getD k (0, 0) = v := by
    obtain ⟨k, hk, e⟩ := List.getElem_of_mem hvm
    exact ⟨k, hk, by simp [hk, e]⟩
  have l0 := hL j hj k hk
  simp only [ev j hj, ev k hk] at l0
  have l0 : 0 ≤ crP (p.getD j (0, 0)) (nxP p j) (p.getD k (0, 0)) := l0
  rcases Int.lt_or_eq_of_le l0 with h1 | h1
  · exact h1
  exfalso
  have h1 := h1.symm
  obtain ⟨i, hi, i1, i2, i3⟩ := pv_ix h3 hj
  have T1 := hT j hj
  have T2 := hT i hi
  have ei : nxP p i = p.getD j (0, 0) := by unfold nxP; rw [i1]
  have ei2 : nx2 p i = nxP p j := by unfold nx2 nxP; rw [i2]
  rw [ei, ei2] at T2
  have mj : (j + 1) % p.length < p.length := Nat.mod_lt _ (by omega)
  have S1 := hL _ mj k hk
  simp only [Nat.mod_mod, ev k hk, Nat.mod_add_mod] at S1
  have S1 : 0 ≤ crP (nxP p j) (nx2 p j) (p.getD k (0, 0)) := S1
  have S2 := hL i hi k hk
  simp only [ev i hi, ev k hk, i1] at S2
  by_cases hki : k = i
  · subst hki
    rw [crP_cy] at h1
    omega
  have hkj : k ≠ j := fun e => n1 (by rw [e])
  have hkn : k ≠ (j + 1) % p.length := fun e => n2 (by unfold nxP; rw [← e])
  have ha : adj p.length j k = false := by
    unfold adj
    simp only [Bool.or_eq_false_iff, decide_eq_false_iff_not]
    exact ⟨fun e => hkn e.symm, fun e => hki (i3 k hk e)⟩
  refine end_rel (z := p.getD k (0, 0)) (.inr (.inr (.inl rfl))) ?_ (hasB_a ..) (rel0 j k hj hk (Ne.symm hkj) ha)
  refine mt_hs (d := nx2 p j) h1 ?_ (by omega)
  generalize p.getD j (0, 0) = a at *
  generalize nxP p j = b at *
  generalize nx2 p j = c at *
  generalize p.getD k (0, 0) = z at *
  generalize p.getD i (0, 0) = u at *
  have e1 : crP z c b = -crP b c z := by unfold crP crossI; grind
  have e2 : crP u a z * crP a b c = crP z c a * crP u a b := by
    have : crP u a z * crP a b c - crP z c a * crP u a b = crP a b z * crP u a c := by unfold crP crossI; grind
    rw [h1, Int.zero_mul] at this
    omega
  have q1 := Int.mul_nonneg S2 (show 0 ≤ crP a b c by omega)
  rw [e2] at q1
  have q2 : 0 ≤ crP z c a := by
    rcases Int.lt_or_le (crP z c a) 0 with h | h
    · have := Int.mul_neg_of_neg_of_pos h T2
      omega
    · exact h
  have q3 := Int.mul_nonneg q2 S1
  rw [e1, Int.mul_neg]
  omega
theorem min_ix (f : Nat → Pt) : ∀ n, 0 < n → (∀ i j, i < j → j < n → f i ≠ f j) → ∃ r, r < n ∧ ∀ k, k < n → k ≠ r → bfP 1 (f r) (f k)
  | 0, h, _ => absurd h (by omega)
  | n + 1, _, hd => by
    rcases Nat.eq_zero_or_pos n with h | h
    · exact ⟨0, by omega, fun k hk hne => by omega⟩
    obtain ⟨r, hr, hb⟩ := min_ix f n h fun i j hij hj => hd i j hij (by omega)
    have hne := hd r n hr (by omega)
    by_cases hc : bfP 1 (f r) (f n)
    · refine ⟨r, by omega, fun k hk hkr => ?_⟩
      rcases Nat.lt_or_ge k n with h2 | h2
      · exact hb k h2 hkr
      · obtain rfl : k = n := by omega
        exact hc
    · have hc2 : bfP 1 (f n) (f r) := by
        have : ¬ ((f r).1 = (f n).1 ∧ (f r).2 = (f n).2) := fun e => hne (Prod.ext e.1 e.2)
        unfold bfP at *
        omega
      refine ⟨n, by omega, fun k hk hkr => ?_⟩
      by_cases e : k = r
      · rw [e]; exact hc2
      · have := hb k (by omega) e
        unfold bfP at *
        omega
theorem cvE_rot {r : Nat} {p : List Pt} (h : r < p.length) {j : Nat} (hj : j < p.length) : cvE (rotP r p) j = cvE p ((j + r) % p.length) := by
  unfold cvE
  have e : nx2 (rotP r p) j = nx2 p ((j + r) % p.length) := by
    unfold nx2
    rw [rotP_len (Nat.le_of_lt h), rotP_at h (Nat.mod_lt _ (by omega)), Nat.mod_add_mod, Nat.mod_add_mod]
    congr 2
    omega
  rw [rotP_at h hj, rotP_nx h hj, e]
theorem cvx_rot {r : Nat} {p : List Pt} (h : r < p.length) (hc : cvxI p = true) : cvxI (rotP r p) = true := by
  unfold cvxI at *
  simp only [Bool.and_eq_true] at hc ⊢
  refine ⟨(issI_rot h).trans hc.1, ?_⟩
  unfold cvA at *
  rw [allQ_iff] at *
  rw [rotP_len (Nat.le_of_lt h)]
  exact fun j hj => (cvE_rot h hj).trans (hc.2 _ (Nat.mod_lt _ (by omega)))
theorem cvh_unrot {r : Nat} {p : List Pt} (h : r < p.length) (hn : p.Nodup) (H : CvH (rotP r p)) : CvH p := by
  have h3 := H.three
  rw [rotP_len (Nat.le_of_lt h)] at h3
  refine ⟨h3, hn, fun j hj v hv n1 n2 => ?_⟩
  have hl := H.left ((j + (p.length - r)) % p.length) (by rw [rotP_len (Nat.le_of_lt h)]; exact Nat.mod_lt _ (by omega)) v (rotP_mem.2 hv)
  have e : ((j + (p.length - r)) % p.length + r) % p.length = j := by
    rw [Nat.mod_add_mod, show j + (p.length - r) + r = j + p.length by omega, Nat.add_mod_right, Nat.mod_eq_of_lt hj]
  rw [rotP_at h (Nat.mod_lt _ (by omega)), rotP_nx h (Nat.mod_lt _ (by omega)), e] at hl
  exact hl n1 n2
theorem cvx_cvh {p : List Pt} (h : cvxI p = true) : CvH p := by
  obtain ⟨h3, ho, hv, hs, hT⟩ := cvx_parts h
  obtain ⟨sg, hnd⟩ := sim_nodup hv h3 hs
  obtain ⟨r, hr, hb⟩ := min_ix (fun k => p.getD k (0, 0)) p.length (by omega) (nodup_get.1 hnd)
  refine cvh_unrot hr hnd (cvx_cvh0 (cvx_rot hr h) fun k h0 hk => ?_)
  rw [rotP_len (Nat.le_of_lt hr)] at hk
  rw [rotP_at hr (by omega), rotP_at hr hk, Nat.zero_add, Nat.mod_eq_of_lt hr]
  refine hb _ (Nat.mod_lt _ (by omega)) fun e => ?_
  rw [md_add hk hr] at e
  split at e <;> omega
theorem negT_ (b : Bool) : negB true b = !b := by cases b <;> rfl
theorem negF_ (b : Bool) : negB false b = b := by cases b <;> rfl
def npQ (ps : List Pt) (x y : Int) (j : Nat) : Bool := !((ps.getD j (0, 0)).1 == x && (ps.getD j (0, 0)).2 == y)
theorem np_mem {ps : List Pt} {p : Pt} (h : p ∈ ps) : allQ (npQ ps p.1 p.2) 0 ps.length = false := by
  obtain ⟨j, hj, e⟩ := List.getElem_of_mem h
  rw [Bool.eq_false_iff]
  intro hh
  have : ∀ (n i : Nat), allQ (npQ ps p.1 p.2) i n = true → i ≤ j → j < i + n → npQ ps p.1 p.2 j = true := by
    intro n
    induction n with
    | zero => intro i _ _ _; omega
    | succ n ih =>
      intro i h0 h1 h2
      have h0 : (npQ ps p.1 p.2 i && allQ (npQ ps p.1 p.2) (i + 1) n) = true := h0
      rw [Bool.and_eq_true] at h0
      rcases Nat.lt_or_ge i j with h3 | h3
      · exact ih (i + 1) h0.2 h3 (by omega)
      · obtain rfl : j = i := by omega
        exact h0.1
  have t := this _ _ hh (Nat.zero_le _) (by omega)
  have g : ps.getD j (0, 0) = p := by simp [hj, e]
  unfold npQ at t
  rw [g] at t
  simp at t
def fsN (ps : List Pt) (x y : Int) : Nat → Nat → Nat
  | i, 0 => i
  | i, n + 1 => bif npQ ps x y i then fsN ps x y (i + 1) n else i
theorem fsN_step {ps : List Pt} {x y : Int} {i n : Nat} (h : i < n) : fsN ps x y i (n - i) = bif npQ ps x y i then fsN ps x y (i + 1) (n - (i + 1)) else i := by
  rw [show n - i = (n - (i + 1)) + 1 by omega]
  rfl
noncomputable def c_six : Code := ((loopsOf (codeOf Try.f43))[0]?).getD .skip
def k_six : Ex → List Nat := keeps [0, 3, 7, 8] [(0, [])] [4]
def s_six (ps : List Pt) (x y : Int) : Nat → St := fun i => ⟨(ß 0 ps.length ps.length :: topV :: topV :: .pointer (some ⟨2, 0, none⟩) :: ω3 .int .i64 ps.length :: .int .i64 i :: ω10 []), [some ⟨.view, .ints (flat ps)⟩, none, some ⟨.box, .vals [.int .i64 x, .int .i64 y]⟩]⟩
def re_six (ps : List Pt) (x y : Int) : Nat → Ex := fun i => bif allQ (npQ ps x y) i (ps.length - i) then .exit 0 else .ret
def rs_six (ps : List Pt) (x y : Int) : Nat → St := fun i => bif allQ (npQ ps x y) i (ps.length - i) then ⟨(ω19 []), [some ⟨.view, .ints (flat ps)⟩, none, some ⟨.box, .vals [.int .i64 x, .int .i64 y]⟩]⟩ else ⟨(ω4 .int .i64 (fsN ps x y i (ps.length - i) : Nat) :: ω14 []), [some ⟨.view, .ints (flat ps)⟩, none, some ⟨.box, .vals [.int .i64 x, .int .i64 y]⟩]⟩
set_option maxRecDepth 100000 in
theorem tr_six (ps : List Pt) (x y : Int) (i : Nat) : bodyL Try.prog EM 30 12 noL 1 c_six k_six 3 (s_six ps x y i) = brT (decide ((↑i : Int) < (↑ps.length : Int))) (.need ((0 : Int) ≤ (↑i : Int) ∧ (↑i : Int) < (↑ps.length : Int)) (.need ((0 : Nat) + (↑i : Int).toNat * (2 : Nat) + (2 : Nat) ≤ (flat ps).length) (brT (negB false (x == (flat ps).getD (0 + (↑i : Int).toNat * 2) 0 && (y == (flat ps).getD (0 + (↑i : Int).toNat * 2 + 1) 0 && true))) (.leaf .ret ⟨(ω4 .int .i64 ((↑i : Int)) :: ω14 []), [some ⟨.view, .ints (flat ps)⟩, none, some ⟨.box, .vals [.int .i64 (x), .int .i64 (y)]⟩]⟩) (.leaf .normal ⟨(ß 0 (ps.length) (ps.length) :: topV :: topV :: .pointer (some ⟨2, 0, none⟩) :: ω3 .int .i64 ((↑ps.length : Int)) :: .int .i64 (ŵ ((↑i : Int) + 1)) :: ω10 []), [some ⟨.view, .ints (flat ps)⟩, none, some ⟨.box, .vals [.int .i64 (x), .int .i64 (y)]⟩]⟩)))) (.leaf (.exit 0) ⟨(ω19 []), [some ⟨.view, .ints (flat ps)⟩, none, some ⟨.box, .vals [.int .i64 (x), .int .i64 (y)]⟩]⟩) := by kernel_rfl
set_option maxRecDepth 100000 in
theorem nl_six : loopsOf c_six = [] := by kernel_rfl
def inv_six (ps : List Pt) (x y : Int) : Nat → Prop := fun i => i ≤ ps.length
def me_six (ps : List Pt) (x y : Int) : Nat → Nat := fun i => ps.length - i
def Round_six (ps : List Pt) (x y : Int) : Prop := ∀ xx : Nat, inv_six ps x y xx → (bodyL Try.prog EM 30 12 noL 1 c_six k_six 3 (s_six ps x y xx)).ok (RoundEnd 3 (s_six ps x y) (inv_six ps x y) (me_six ps x y) (re_six ps x y) (rs_six ps x y) xx) (fun _ _ => False)
def e_six (s : St) (k : Ex → St → Tree) : Option Tree := match Nat.beq s.tmps.length 19, pickL s.tmps [0, 3, 7, 8], s.mem with
  | true, [ß 0 n _, .pointer (some ⟨2, 0, none⟩), .int .i64 n1, .int .i64 i], [some ⟨.view, .ints xs⟩, none, some ⟨.box, .vals [.int .i64 x, .int .i64 y]⟩] => some (needs [i = 0, n1 = (n : Int), xs.length = n * 2, n ≤ 1000000000] (brT (allQ (npQ (ptsA n xs) x y) 0 n) (k (.exit 0) ⟨(ω19 []), [some ⟨.view, .ints xs⟩, none, some ⟨.box, .vals [.int .i64 x, .int .i64 y]⟩]⟩) (k .ret ⟨(ω4 .int .i64 (fsN (ptsA n xs) x y 0 n : Nat) :: ω14 []), [some ⟨.view, .ints xs⟩, none, some ⟨.box, .vals [.int .i64 x, .int .i64 y]⟩]⟩)))
  | _, _, _ => none
set_option maxRecDepth 100000 in
theorem round_six (ps : List Pt) (x y : Int) (h : ps.length ≤ 1000000000) : Round_six ps x y := by
  intro i h1
  have h1 : i ≤ ps.length := h1
  rw [tr_six]
  simp only [Int.toNat_natCast, Nat.zero_add, Nat.add_zero, flat_length, flat_get0, flat_get1]
  refine brT_ok.2 ⟨fun hlt => ?_, fun hge => ?_⟩
  · have hlt := of_decide_eq_true hlt
    have hi : i < ps.length := by omega
    have st := allQ_step (P := npQ ps x y) (i := i) (n := ps.length) hi
    have sf := fsN_step (ps := ps) (x := x) (y := y) (i := i) (n := ps.length) hi
    have hn : npQ ps x y i = !((ps.getD i (0, 0)).1 == x && (ps.getD i (0, 0)).2 == y) := rfl
    rw [wsucc (n := ps.length) hi h]
    have hc : npQ ps x y i = !(x == (ps.getD i (0, 0)).1 && y == (ps.getD i (0, 0)).2) := by
      rw [hn, BEq.comm (a := x), BEq.comm (a := y)]
    generalize ps.getD i (0, 0) = p at *
    rcases g1 : x == p.1 with _ | _ <;> rcases g2 : y == p.2 with _ | _
    all_goals
      rw [g1, g2] at hc
      rw [hc] at st sf
      simp only [g1, g2, negT_, negF_, brT_t, brT_f, Bool.not_true, Bool.not_false, Bool.and_true, Bool.and_false, Bool.true_and, Bool.false_and, cond_true, cond_false, Tree.ok] at st sf ⊢
      repeat (refine And.intro (by omega) ?_)
    iterate 3
      refine ⟨i + 1, [], ?_, ?_, by simp only [re_six, st], by simp only [rs_six, st, sf], ?_⟩
      · show i + 1 ≤ ps.length; omega
      · show ps.length - (i + 1) < ps.length - i; omega
      · repeat' (first | exact True.intro | exact rfl | exact fun _ => rfl | refine And.intro ?_ ?_)
    refine ⟨by simp only [re_six, st, cond_false], [], ?_⟩
    simp only [rs_six, st, sf, cond_false]
    repeat' (first | exact True.intro | exact rfl | exact fun _ => rfl | refine And.intro ?_ ?_)
  · have hge := of_decide_eq_false hge
    have e : allQ (npQ ps x y) i (ps.length - i) = true := allQ_end (by omega)
    refine ⟨by simp only [re_six, e, cond_true], [], ?_⟩
    simp only [rs_six, e, cond_true]
    repeat' (first | exact True.intro | exact rfl | exact fun _ => rfl | refine And.intro ?_ ?_)
set_option maxRecDepth 100000 in
theorem lg_six : LoopE Try.prog e_six c_six := by
  intro s k t F H hlt ht
  unfold e_six at hlt
  split at hlt
  rotate_left
  · cases hlt
  rename_i hlen hpick hmem
  obtain ⟨tmps, mem⟩ := s
  simp only at hlen hpick hmem
  subst hmem
  obtain rfl := Option.some.inj hlt
  obtain ⟨⟨rfl, rfl, h1, h2, _⟩, ht2⟩ := needs_ok ht
  clear ht hlt
  obtain ⟨ps, rfl, rfl⟩ := even_flat h1
  rw [ptsA_flat] at ht2
  refine ⟨_, _, pick2k ht2, loop_run mixed EM_ok (s_six ps _ _) (inv_six ps _ _) (me_six ps _ _) (re_six ps _ _) (rs_six ps _ _) k_six (fun _ => rfl) (noLoops nl_six) (round_six ps _ _ h2) (x := 0) (Nat.zero_le _) (π := []) rfl ?_⟩
  refine ⟨rfl, rfl, ?_, wvs_spread' [0, 3, 7, 8] hlen rfl ?_⟩
  · repeat' (first | exact True.intro | exact rfl | exact wv_top _ _ | exact fun _ => rfl | assumption | exact Eq.symm (by assumption) | exact vI0 rfl | refine And.intro ?_ ?_)
  · rw [hpick]
    repeat' (first | exact True.intro | exact rfl | exact wv_top _ _ | exact fun _ => rfl | assumption | exact Eq.symm (by assumption) | exact vI0 rfl | refine And.intro ?_ ?_)
theorem Lr_six {fn : Func} (hf : Try.prog.funcs[43]? = some fn) : LoopsGood Try.prog (lt1 e_six) 0 (codeOf fn) := by
  obtain rfl := fn_is Try.func43 hf
  exact lt1_good lg_six
def LSi : FuncId → LT := fun f => match f with
  | 43 => lt1 e_six
  | _ => noL
def ESi : Env := mkE B0 (fun _ _ => none) LSi
theorem ESi_ok : EnvOk Try.prog ESi := mkEOk B0_ok (fun _ _ _ _ _ h => (by cases h)) (by
  intro f fn hf
  unfold LSi
  split
  all_goals first | with_reducible exact Lr_six hf | exact noL_good)
set_option maxRecDepth 100000 in
theorem tr_sixF (ps : List Pt) (x y : Int) : bodyV Try.prog ESi 30 12 43 [.row ps.length (.ints (flat ps)), .v (.agg ⟨[.int .i64 x, .int .i64 y]⟩)] = .need ((0 : Int) = (0 : Int)) (.need ((↑ps.length : Int) = (↑ps.length : Int)) (.need ((flat ps).length = ps.length * (2 : Nat)) (.need (ps.length ≤ (1000000000 : Nat)) (brT (allQ (npQ (ptsA ps.length (flat ps)) x y) 0 ps.length) (.fin (.int .i64 (-1)) []) (.fin (.int .i64 ((↑(fsN (ptsA ps.length (flat ps)) x y 0 ps.length) : Int))) []))))) := by kernel_rfl
def idxV (ps : List Pt) (x y : Int) : Int := bif allQ (npQ ps x y) 0 ps.length then -1 else (fsN ps x y 0 ps.length : Nat)
theorem res_six (x y : Int) (ps : List Pt) (h : Big ps) : Res Try.prog 43 [.row ps.length (.ints (flat ps)), .v (.agg ⟨[.int .i64 x, .int .i64 y]⟩)] (.int .i64 (idxV ps x y)) := by
  refine bodyV_res mixed ESi_ok (m := 30) (n := 12) rfl ?_
  rw [tr_sixF]
  unfold Big at h
  simp only [ptsA_flat]
  unfold idxV
  have w9 : ŵ (0 - 1) = -1 := by decide
  rcases hq : allQ (npQ ps x y) 0 ps.length with _ | _
  all_goals exact ⟨trivial, trivial, flat_length ps, h, rfl⟩
def pSix : List DArg → Option (Value × List Prop)
  | [.row m (.ints xs), .v (.agg ⟨[.int .i64 x, .int .i64 y]⟩)] => some (.int .i64 (idxV (ptsA m xs) x y), [m * 2 ≤ xs.length, m ≤ 1000000000])
  | _ => none
theorem pSix_ok {ds : List DArg} {v : Value} {C : List Prop} (h : pSix ds = some (v, C)) (hC : AllP C) : Res Try.prog 43 ds v := by
  unfold pSix at h
  split at h
  · rename_i m xs x y
    obtain ⟨rfl, rfl⟩ : _ ∧ _ := by simpa using h
    obtain ⟨_, h2⟩ := ptsA_spec hC.1
    exact res_pts1 (pre := []) (post := [.v (.agg ⟨[.int .i64 x, .int .i64 y]⟩)]) hC.1 (res_six x y (ptsA m xs) (by unfold Big; rw [h2]; exact hC.2.1))
  · cases h
def mnI (ps : List Pt) : Nat → Nat
  | 0 => 0
  | i + 1 => bif pltB (ps.getD i (0, 0)) (ps.getD (mnI ps i) (0, 0)) then i else mnI ps i
theorem mnI_le (ps : List Pt) : ∀ i, mnI ps i ≤ i
  | 0 => Nat.le_refl _
  | i + 1 => by
    have := mnI_le ps i
    show (bif pltB (ps.getD i (0, 0)) (ps.getD (mnI ps i) (0, 0)) then i else mnI ps i) ≤ i + 1
    cases pltB (ps.getD i (0, 0)) (ps.getD (mnI ps i) (0, 0)) <;> simp <;> omega
def pPP (g : List Pt → Int → Int → Int) : List DArg → Option (Value × List Prop)
  | [.row m (.ints xs), .v (.agg ⟨[.int .i64 x, .int .i64 y]⟩)] => some (iv (g (ptsA m xs) x y), [m * 2 ≤ xs.length, m ≤ 1000000000])
  | _ => none
theorem pPP_ok {f : FuncId} {g : List Pt → Int → Int → Int} (h : ∀ (ps : List Pt) (x y : Int), Big ps → Res Try.prog f [.row ps.length (.ints (flat ps)), .v (.agg #[iv x, iv y])] (iv (g ps x y))) {ds : List DArg} {v : Value} {C : List Prop} (hd : pPP g ds = some (v, C)) (hC : AllP C) : Res Try.prog f ds v := by
  unfold pPP at hd
  split at hd
  · rename_i m xs x y
    obtain ⟨rfl, rfl⟩ : _ ∧ _ := by simpa using hd
    obtain ⟨_, h2⟩ := ptsA_spec hC.1
    exact res_pts1 (pre := []) (post := [_]) hC.1 (h (ptsA m xs) x y (by unfold Big; rw [h2]; exact hC.2.1))
  · cases hd
def T4' : Tab := fun f ds => match f with
  | f => T3 f ds
theorem T4'_ok : TabOk Try.prog T4' := by
  intro f ds v C h hC
  unfold T4' at h
  (try split at h)
  all_goals first | with_reducible exact pPP_ok spec_extV h hC | with_reducible exact pPP_ok impl_extV h hC | exact T3_ok _ _ _ _ h hC
def E7 : Env := mkE (T4') (R4) (fun _ => noL)
theorem E7_ok : EnvOk Try.prog E7 := mkEOk (T4'_ok) (R4_ok) (fun _ _ _ => noL_good)
set_option maxRecDepth 100000 in
theorem tr_comparePt (x y z w : Int) : bodyX Try.prog E7 30 12 45 [.v (.agg #[iv x, iv y]), .v (.agg #[iv z, iv w])] = .need ((0 : Int) ≤ (0 : Int) ∧ (0 : Int) < (↑(2 : Nat) : Int)) (brT (!cmpI x z == 0) (.fin (.int .i64 (cmpI x z)) [none, none, some ⟨.box, .vals [.int .i64 (x), .int .i64 (y)]⟩, some ⟨.box, .vals [.int .i64 (z), .int .i64 (w)]⟩, none, none, some ⟨.row 3 1, .vals [.int .i64 (cmpI x z), .int .i64 (cmpI y w)]⟩, none]) (.need ((0 : Int) ≤ ŵ ((0 : Int) + (1 : Int)) ∧ ŵ ((0 : Int) + (1 : Int)) < (↑(2 : Nat) : Int)) (brT (!cmpI y w == 0) (.fin (.int .i64 (cmpI y w)) [none, none, some ⟨.box, .vals [.int .i64 (x), .int .i64 (y)]⟩, some ⟨.box, .vals [.int .i64 (z), .int .i64 (w)]⟩, none, none, some ⟨.row 3 1, .vals [.int .i64 (cmpI x z), .int .i64 (cmpI y w)]⟩, none]) (.fin (.int .i64 (0)) [none, none, some ⟨.box, .vals [.int .i64 (x), .int .i64 (y)]⟩, some ⟨.box, .vals [.int .i64 (z), .int .i64 (w)]⟩, none, none, some ⟨.row 3 1, .vals [.int .i64 (cmpI x z), .int .i64 (cmpI y w)]⟩, none])))) := by kernel_rfl
def cmpP (x y z w : Int) : Int := if pltB (x, y) (z, w) then -1 else if pltB (z, w) (x, y) then 1 else 0
theorem res_comparePt (x y z w : Int) : Res Try.prog 45 [.v (.agg #[iv x, iv y]), .v (.agg #[iv z, iv w])] (iv (cmpP x y z w)) := by
  refine bodyX_res mixed E7_ok (m := 30) (n := 12) rfl ?_
  rw [tr_comparePt]
  have w1 : ŵ ((0 : Int) + 1) = 1 := by decide
  simp only [brT_ok, Tree.ok, w1, Bool.not_eq_true', Bool.not_eq_false', beq_iff_eq, beq_eq_false_iff_ne]
  have key : ∀ a b : Int, (cmpI a b = -1 ∧ a < b) ∨ (cmpI a b = 0 ∧ a = b) ∨ (cmpI a b = 1 ∧ b < a) := by
    intro a b
    unfold cmpI
    split
    · exact .inl ⟨rfl, by assumption⟩
    · split
      · exact .inr (.inr ⟨rfl, by omega⟩)
      · exact .inr (.inl ⟨rfl, by omega⟩)
  have kp : (cmpP x y z w = -1 ∧ (x < z ∨ x = z ∧ y < w)) ∨ (cmpP x y z w = 0 ∧ x = z ∧ y = w) ∨ (cmpP x y z w = 1 ∧ (z < x ∨ x = z ∧ w < y)) := by
    unfold cmpP
    simp only [pltB_iff]
    split
    · exact .inl ⟨rfl, by assumption⟩
    · split
      · exact .inr (.inr ⟨rfl, by omega⟩)
      · exact .inr (.inl ⟨rfl, by omega⟩)
  have k1 := key x z
  have k2 := key y w
  refine ⟨by omega, fun h => vint_eq (by omega), fun h => ⟨by omega, fun h2 => vint_eq (by omega), fun h2 => vint_eq (by omega)⟩⟩
def pCmpPt : List DArg → Option (Value × List Prop)
  | [.v (.agg ⟨[.int .i64 x, .int .i64 y]⟩), .v (.agg ⟨[.int .i64 z, .int .i64 w]⟩)] => some (iv (cmpP x y z w), [])
  | _ => none
def T5' : Tab := fun f ds => match f with
  | 45 => pCmpPt ds
  | f => T4' f ds
theorem T5'_ok : TabOk Try.prog T5' := by
  intro f ds v C h hC
  unfold T5' at h
  split at h
  · unfold pCmpPt at h
    split at h
    · obtain ⟨rfl, rfl⟩ : _ ∧ _ := by simpa using h
      exact res_comparePt _ _ _ _
    · cases h
  · exact T4'_ok _ _ _ _ h hC
def E8 : Env := mkE (T5') (R4) (fun _ => noL)
theorem E8_ok : EnvOk Try.prog E8 := mkEOk (T5'_ok) (R4_ok) (fun _ _ _ => noL_good)
noncomputable def c_minF : Code := ((loopsOf (codeOf Try.f44))[0]?).getD .skip
def k_minF : Ex → List Nat := keeps [0, 1, 4, 5, 6] [(0, [4, 5])] [4]
def s_minF (ps : List Pt) : Nat × Pt → St := fun (i, m) => ⟨(ß 0 ps.length ps.length :: .func (.func 45) #[] #[] :: topV :: topV :: .pointer (some ⟨2, 0, none⟩) :: .pointer (some ⟨3, 0, none⟩) :: .int .i64 i :: ω26 []), [some ⟨.view, .ints (flat ps)⟩, none, some ⟨.box, .vals [.int .i64 0, .int .i64 0]⟩, some ⟨.box, .vals [.int .i64 m.1, .int .i64 m.2]⟩]⟩
def re_minF : Nat × Pt → Ex := fun _ => .exit 0
def rs_minF (ps : List Pt) : Nat × Pt → St := fun (i, m) => ⟨(ω4 .pointer (some ⟨2, 0, none⟩) :: .pointer (some ⟨3, 0, none⟩) :: ω27 []), [some ⟨.view, .ints (flat ps)⟩, none, some ⟨.box, .vals [.int .i64 0, .int .i64 0]⟩, some ⟨.box, .vals [.int .i64 (minL m (ps.drop i)).1, .int .i64 (minL m (ps.drop i)).2]⟩]⟩
set_option maxRecDepth 100000 in
theorem tr_minF (ps : List Pt) (i : Nat) (m : Pt) : bodyL Try.prog E8 30 12 noL 1 c_minF k_minF 4 (s_minF ps (i, m)) = brT (decide ((↑i : Int) < (↑ps.length : Int))) (.need ((0 : Int) ≤ (↑i : Int) ∧ (↑i : Int) < (↑ps.length : Int)) (.need ((0 : Nat) + (↑i : Int).toNat * (2 : Nat) + (2 : Nat) ≤ (flat ps).length) (brT (decide (cmpP ((flat ps).getD (0 + (↑i : Int).toNat * 2) 0) ((flat ps).getD (0 + (↑i : Int).toNat * 2 + 1) 0) m.1 m.2 < 0)) (.need ((0 : Int) ≤ (↑i : Int) ∧ (↑i : Int) < (↑ps.length : Int)) (.need ((0 : Nat) + (↑i : Int).toNat * (2 : Nat) + (2 : Nat) ≤ (flat ps).length) (.leaf .normal ⟨(ß 0 (ps.length) (ps.length) :: .func (Fn.func 45) #[] #[] :: topV :: topV :: .pointer (some ⟨2, 0, none⟩) :: .pointer (some ⟨3, 0, none⟩) :: .int .i64 (ŵ ((↑i : Int) + 1)) :: ω26 []), [some ⟨.view, .ints (flat ps)⟩, none, some ⟨.box, .vals [.int .i64 (0), .int .i64 (0)]⟩, some ⟨.box, .vals [.int .i64 ((flat ps).getD (0 + (↑i : Int).toNat * 2) 0), .int .i64 ((flat ps).getD (0 + (↑i : Int).toNat * 2 + 1) 0)]⟩]⟩))) (.leaf .normal ⟨(ß 0 (ps.length) (ps.length) :: .func (Fn.func 45) #[] #[] :: topV :: topV :: .pointer (some ⟨2, 0, none⟩) :: .pointer (some ⟨3, 0, none⟩) :: .int .i64 (ŵ ((↑i : Int) + 1)) :: ω26 []), [some ⟨.view, .ints (flat ps)⟩, none, some ⟨.box, .vals [.int .i64 (0), .int .i64 (0)]⟩, some ⟨.box, .vals [.int .i64 (m.1), .int .i64 (m.2)]⟩]⟩)))) (.leaf (.exit 0) ⟨(ω4 .pointer (some ⟨2, 0, none⟩) :: .pointer (some ⟨3, 0, none⟩) :: ω27 []), [some ⟨.view, .ints (flat ps)⟩, none, some ⟨.box, .vals [.int .i64 (0), .int .i64 (0)]⟩, some ⟨.box, .vals [.int .i64 (m.1), .int .i64 (m.2)]⟩]⟩) := by kernel_rfl
set_option maxRecDepth 100000 in
theorem nl_minF : loopsOf c_minF = [] := by kernel_rfl
def inv_minF (ps : List Pt) : Nat × Pt → Prop := fun (i, m) => i ≤ ps.length
def me_minF (ps : List Pt) : Nat × Pt → Nat := fun (i, m) => ps.length - i
def Round_minF (ps : List Pt) : Prop := ∀ xx : Nat × Pt, inv_minF ps xx → (bodyL Try.prog E8 30 12 noL 1 c_minF k_minF 4 (s_minF ps xx)).ok (RoundEnd 4 (s_minF ps) (inv_minF ps) (me_minF ps) re_minF (rs_minF ps) xx) (fun _ _ => False)
def e_minF (s : St) (k : Ex → St → Tree) : Option Tree := match Nat.beq s.tmps.length 33, pickL s.tmps [0, 1, 4, 5, 6], s.mem with
  | true, [ß 0 n _, .func (.func 45) ⟨[]⟩ ⟨[]⟩, .pointer (some ⟨2, 0, none⟩), .pointer (some ⟨3, 0, none⟩), .int .i64 i], [some ⟨.view, .ints xs⟩, none, some ⟨.box, .vals [.int .i64 z1, .int .i64 z2]⟩, some ⟨.box, .vals [.int .i64 x, .int .i64 y]⟩] => some (needs [i = 1, z1 = 0, z2 = 0, xs.length = n * 2, n ≤ 1000000000, 0 < n] (k (.exit 0) ⟨(ω4 .pointer (some ⟨2, 0, none⟩) :: .pointer (some ⟨3, 0, none⟩) :: ω27 []), [some ⟨.view, .ints xs⟩, none, some ⟨.box, .vals [.int .i64 0, .int .i64 0]⟩, some ⟨.box, .vals [.int .i64 (minL (x, y) ((ptsA n xs).drop 1)).1, .int .i64 (minL (x, y) ((ptsA n xs).drop 1)).2]⟩]⟩))
  | _, _, _ => none
set_option maxRecDepth 100000 in
theorem round_minF (ps : List Pt) (h : ps.length ≤ 1000000000) : Round_minF ps := by
  rintro ⟨i, m⟩ h1
  simp only [inv_minF] at h1
  rw [tr_minF]
  simp only [brT_ok, Tree.ok, decide_eq_true_eq, decide_eq_false_iff_not, Int.toNat_natCast, Nat.zero_add, flat_length, flat_get0, flat_get1]
  refine ⟨fun hlt => ?_, fun hge => ?_⟩
  · have hd : ps.drop i = ps.getD i (0, 0) :: ps.drop (i + 1) := drop_cons (by omega) _
    rw [wsucc (n := ps.length) (by omega) h]
    refine ⟨by omega, by omega, fun hle => ⟨by omega, by omega, ?_⟩, fun hle => ?_⟩
    · have e : pltB (ps.getD i (0, 0)) m = true := by
        unfold cmpP at hle
        by_cases hp : pltB (ps.getD i (0, 0)) m = true
        · exact hp
        · exfalso
          rw [if_neg hp] at hle
          split at hle <;> omega
      refine ⟨(i + 1, ps.getD i (0, 0)), [], by show i + 1 ≤ ps.length; omega, ?_, rfl, ?_, ?_⟩
      · show ps.length - (i + 1) < ps.length - i; omega
      · have em : minL m (ps.drop i) = minL (ps.getD i (0, 0)) (ps.drop (i + 1)) := by
          rw [hd]
          show minL (if pltB (ps.getD i (0, 0)) m then ps.getD i (0, 0) else m) (ps.drop (i + 1)) = _
          rw [if_pos e]
        simp only [rs_minF, em]
      · repeat' (first | exact True.intro | exact rfl | exact fun _ => rfl | refine And.intro ?_ ?_)
    · have e : ¬ pltB (ps.getD i (0, 0)) m = true := by
        unfold cmpP at hle
        intro hp
        rw [if_pos hp] at hle
        omega
      refine ⟨(i + 1, m), [], by show i + 1 ≤ ps.length; omega, ?_, rfl, ?_, ?_⟩
      · show ps.length - (i + 1) < ps.length - i; omega
      · have em : minL m (ps.drop i) = minL m (ps.drop (i + 1)) := by
          rw [hd]
          show minL (if pltB (ps.getD i (0, 0)) m then ps.getD i (0, 0) else m) (ps.drop (i + 1)) = _
          rw [if_neg e]
        simp only [rs_minF, em]
      · repeat' (first | exact True.intro | exact rfl | exact fun _ => rfl | refine And.intro ?_ ?_)
  · refine ⟨rfl, [], ?_⟩
    have em : minL m (ps.drop i) = m := by rw [List.drop_of_length_le (by omega)]; rfl
    simp only [rs_minF, em]
    repeat' (first | exact True.intro | exact rfl | exact fun _ => rfl | refine And.intro ?_ ?_)
set_option maxRecDepth 100000 in
theorem lg_minF : LoopE Try.prog e_minF c_minF := by
  intro s k t F H hlt ht
  unfold e_minF at hlt
  split at hlt
  rotate_left
  · cases hlt
  rename_i hlen hpick hmem
  obtain ⟨tmps, mem⟩ := s
  simp only at hlen hpick hmem
  subst hmem
  obtain rfl := Option.some.inj hlt
  obtain ⟨⟨rfl, rfl, rfl, h1, h2, h3, _⟩, ht2⟩ := needs_ok ht
  clear ht hlt
  obtain ⟨ps, rfl, rfl⟩ := even_flat h1
  rw [ptsA_flat] at ht2
  refine ⟨_, _, ht2, loop_run mixed E8_ok (s_minF ps) (inv_minF ps) (me_minF ps) re_minF (rs_minF ps) k_minF (fun _ => rfl) (noLoops nl_minF) (round_minF ps h2) (x := (1, (_, _))) h3 (π := []) rfl ?_⟩
  refine ⟨rfl, rfl, ?_, wvs_spread' [0, 1, 4, 5, 6] hlen rfl ?_⟩
  · repeat' (first | exact True.intro | exact rfl | exact wv_top _ _ | exact fun _ => rfl | assumption | exact Eq.symm (by assumption) | exact vI0 rfl | refine And.intro ?_ ?_)
  · rw [hpick]
    repeat' (first | exact True.intro | exact rfl | exact wv_top _ _ | exact fun _ => rfl | assumption | exact Eq.symm (by assumption) | exact vI0 rfl | refine And.intro ?_ ?_)
def L8 : FuncId → LT := fun f => match f with
  | 44 => lt1 e_minF
  | _ => noL
theorem Lr_minF {fn : Func} (hf : Try.prog.funcs[44]? = some fn) : LoopsGood Try.prog (lt1 e_minF) 0 (codeOf fn) := by
  obtain rfl := code_of Try.func44 hf
  exact lt1_good lg_minF
def E9 : Env := mkE (T5') (R4) (L8)
theorem E9_ok : EnvOk Try.prog E9 := by
  refine mkEOk T5'_ok (R4_ok) fun f fn hf => ?_
  show LoopsGood Try.prog (L8 f) 0 (codeOf fn)
  unfold L8
  (try split)
  all_goals first | with_reducible exact Lr_minF hf | with_reducible exact Lr_maxF hf | exact noL_good
set_option maxRecDepth 100000 in
theorem tr_minFF (ps : List Pt) : bodyX Try.prog E9 30 12 44 [.row ps.length (.ints (flat ps)), .v (.func (.func 45) #[] #[])] = brT (decide ((↑ps.length : Int) < 1)) (.bad) (.need ((0 : Int) ≤ (0 : Int) ∧ (0 : Int) < (↑ps.length : Int)) (.need ((2 : Nat) ≤ (flat ps).length) (.need ((1 : Int) = (1 : Int)) (.need ((0 : Int) = (0 : Int)) (.need ((0 : Int) = (0 : Int)) (.need ((flat ps).length = ps.length * (2 : Nat)) (.need (ps.length ≤ (1000000000 : Nat)) (.need ((0 : Nat) < ps.length) (.fin (.agg #[.int .i64 ((minL ((flat ps).getD (0 + Int.toNat 0 * (2 : Nat)) 0, (flat ps).getD (0 + Int.toNat 0 * (2 : Nat) + 1) 0) (List.drop 1 (ptsA ps.length (flat ps)))).1), .int .i64 ((minL ((flat ps).getD (0 + Int.toNat 0 * (2 : Nat)) 0, (flat ps).getD (0 + Int.toNat 0 * (2 : Nat) + 1) 0) (List.drop 1 (ptsA ps.length (flat ps)))).2)]) [some ⟨.view, .ints (flat ps)⟩, none, some ⟨.box, .vals [.int .i64 ((minL ((flat ps).getD (0 + Int.toNat 0 * (2 : Nat)) 0, (flat ps).getD (0 + Int.toNat 0 * (2 : Nat) + 1) 0) (List.drop 1 (ptsA ps.length (flat ps)))).1), .int .i64 ((minL ((flat ps).getD (0 + Int.toNat 0 * (2 : Nat)) 0, (flat ps).getD (0 + Int.toNat 0 * (2 : Nat) + 1) 0) (List.drop 1 (ptsA ps.length (flat ps)))).2)]⟩, some ⟨.box, .vals [.int .i64 ((minL ((flat ps).getD (0 + Int.toNat 0 * (2 : Nat)) 0, (flat ps).getD (0 + Int.toNat 0 * (2 : Nat) + 1) 0) (List.drop 1 (ptsA ps.length (flat ps)))).1), .int .i64 ((minL ((flat ps).getD (0 + Int.toNat 0 * (2 : Nat)) 0, (flat ps).getD (0 + Int.toNat 0 * (2 : Nat) + 1) 0) (List.drop 1 (ptsA ps.length (flat ps)))).2)]⟩]))))))))) := by kernel_rfl
theorem res_minF (ps : List Pt) (h : Big ps) (h0 : 0 < ps.length) : Res Try.prog 44 [.row ps.length (.ints (flat ps)), .v (.func (.func 45) #[] #[])] (.agg #[iv (minL (ps.getD 0 (0, 0)) (ps.drop 1)).1, iv (minL (ps.getD 0 (0, 0)) (ps.drop 1)).2]) := by
  refine bodyX_res mixed E9_ok (m := 30) (n := 12) rfl ?_
  rw [tr_minFF]
  unfold Big at h
  have e0 : Int.toNat 0 = 0 := rfl
  have g0 := flat_get0 ps 0
  have g1 := flat_get1 ps 0
  simp only [Nat.zero_mul, Nat.zero_add] at g0 g1
  simp only [brT_ok, Tree.ok, ptsA_flat, flat_length, e0, Nat.zero_mul, Nat.zero_add, g0, g1, decide_eq_true_eq]
  refine ⟨by omega, fun _ => ?_⟩
  repeat' (first | exact True.intro | omega | exact rfl | refine And.intro ?_ ?_)
def pMin (g : Pt → List Pt → Pt) : List DArg → Option (Value × List Prop)
  | [.row m (.ints xs), .v (.func (.func 45) ⟨[]⟩ ⟨[]⟩)] => some (.agg #[iv (g ((ptsA m xs).getD 0 (0, 0)) ((ptsA m xs).drop 1)).1, iv (g ((ptsA m xs).getD 0 (0, 0)) ((ptsA m xs).drop 1)).2], [m * 2 ≤ xs.length, m ≤ 1000000000, 0 < m])
  | _ => none
theorem pMin_ok {f : FuncId} {g : Pt → List Pt → Pt} (h : ∀ ps : List Pt, Big ps → 0 < ps.length → Res Try.prog f [.row ps.length (.ints (flat ps)), .v (.func (.func 45) #[] #[])] (.agg #[iv (g (ps.getD 0 (0, 0)) (ps.drop 1)).1, iv (g (ps.getD 0 (0, 0)) (ps.drop 1)).2])) {ds : List DArg} {v : Value} {C : List Prop} (hd : pMin g ds = some (v, C)) (hC : AllP C) : Res Try.prog f ds v := by
  unfold pMin at hd
  split at hd
  · rename_i m xs
    simp only [Option.some.injEq, Prod.mk.injEq] at hd
    obtain ⟨rfl, rfl⟩ := hd
    obtain ⟨_, h2⟩ := ptsA_spec hC.1
    exact res_pts1 (pre := []) (post := [_]) hC.1 (h (ptsA m xs) (by unfold Big; rw [h2]; exact hC.2.1) (by rw [h2]; exact hC.2.2.1))
  · cases hd
def T6' : Tab := fun f ds => match f with
  | 44 => pMin minL ds
  | f => T5' f ds
theorem T6'_ok : TabOk Try.prog T6' := by
  intro f ds v C h hC
  unfold T6' at h
  (try split at h)
  all_goals first | with_reducible exact pMin_ok res_minF h hC | with_reducible exact pMin_ok res_maxF h hC | exact T5'_ok _ _ _ _ h hC
def canW (q : List Pt) : List Pt := q.drop (mnI q q.length) ++ q.take (mnI q q.length)
def canL (ps : List Pt) : List Pt := if sgA ps ps.length < 0 then canW (revP ps) else canW ps
theorem cut_hi (q : List Pt) (k : Nat) : List.take ((q.length - k) * 2) (List.drop (k * 2) (flat q)) = flat (q.drop k) := by
  rw [flat_drop, List.take_of_length_le]
  rw [flat_length, List.length_drop]
  exact Nat.le_refl _
def TCi0 : Tab := fun f ds => match f with
  | 43 => pSix ds
  | 10 => pIss ds
  | 78 => pIss ds
  | f => T6' f ds
theorem TCi0_ok : TabOk Try.prog TCi0 := by
  intro f ds v C h hC
  unfold TCi0 at h
  (try split at h)
  all_goals first | with_reducible exact pSix_ok h hC | with_reducible exact pIss_i h hC | with_reducible exact pIss_s h hC | exact T6'_ok _ _ _ _ h hC
def TCi : Tab := orT TSb TCi0
theorem TCi_ok : TabOk Try.prog TCi := orT_ok TSb_ok TCi0_ok
def JRw : TabJ := consJ 42 (fun _ => wrG rvW) noJ
theorem JRw_ok : GSound Try.prog JRw.g := consJ_wr mixed (failG_sound Try.prog) (entersB_res (by kernel_rfl)).1 rvW_ok
def JCa : TabJ := consR 46 catG JRw
theorem JCa_ok : GSound Try.prog JCa.g := catG_sound JRw_ok
def ECi : Env := withT (mkE TCi RCl (fun _ => noL)) JCa
theorem ECi_ok : EnvOk Try.prog ECi := withT_ok (mkEOk TCi_ok RCl_ok (fun _ _ _ => noL_good)) JCa_ok
abbrev ziCan_0 (ps : List Pt) := (some (IntKind.i64, idxV (ptsA (ptsA ps.length (List.drop 0 (flat ps))).length (List.drop 0 (flat (revP (ptsA (ptsA ps.length (List.drop 0 (flat ps))).length (flat (ptsA ps.length (List.drop 0 (flat ps))))))))) (minL ((ptsA (ptsA ps.length (List.drop 0 (flat ps))).length (List.drop 0 (flat (revP (ptsA (ptsA ps.length (List.drop 0 (flat ps))).length (flat (ptsA ps.length (List.drop 0 (flat ps))))))))).getD (0 : Nat) ((0 : Int), (0 : Int))) (List.drop (1 : Nat) (ptsA (ptsA ps.length (List.drop 0 (flat ps))).length (List.drop 0 (flat (revP (ptsA (ptsA ps.length (List.drop 0 (flat ps))).length (flat (ptsA ps.length (List.drop 0 (flat ps))))))))))).fst (minL ((ptsA (ptsA ps.length (List.drop 0 (flat ps))).length (List.drop 0 (flat (revP (ptsA (ptsA ps.length (List.drop 0 (flat ps))).length (flat (ptsA ps.length (List.drop 0 (flat ps))))))))).getD (0 : Nat) ((0 : Int), (0 : Int))) (List.drop (1 : Nat) (ptsA (ptsA ps.length (List.drop 0 (flat ps))).length (List.drop 0 (flat (revP (ptsA (ptsA ps.length (List.drop 0 (flat ps))).length (flat (ptsA ps.length (List.drop 0 (flat ps))))))))))).snd))
abbrev ziCan_1 (ps : List Pt) := (some (IntKind.i64, idxV (ptsA (ptsA ps.length (List.drop 0 (flat ps))).length (List.drop 0 (flat (revP (ptsA (ptsA ps.length (List.drop 0 (flat ps))).length (flat (ptsA ps.length (List.drop 0 (flat ps))))))))) (minL ((ptsA (ptsA ps.length (List.drop 0 (flat ps))).length (List.drop 0 (flat (revP (ptsA (ptsA ps.length (List.drop 0 (flat ps))).length (flat (ptsA ps.length (List.drop 0 (flat ps))))))))).getD 0 (0, 0)) (List.drop 1 (ptsA (ptsA ps.length (List.drop 0 (flat ps))).length (List.drop 0 (flat (revP (ptsA (ptsA ps.length (List.drop 0 (flat ps))).length (flat (ptsA ps.length (List.drop 0 (flat ps))))))))))).fst (minL ((ptsA (ptsA ps.length (List.drop 0 (flat ps))).length (List.drop 0 (flat (revP (ptsA (ptsA ps.length (List.drop 0 (flat ps))).length (flat (ptsA ps.length (List.drop 0 (flat ps))))))))).getD 0 (0, 0)) (List.drop 1 (ptsA (ptsA ps.length (List.drop 0 (flat ps))).length (List.drop 0 (flat (revP (ptsA (ptsA ps.length (List.drop 0 (flat ps))).length (flat (ptsA ps.length (List.drop 0 (flat ps))))))))))).snd))
abbrev ziCan_2 (ps : List Pt) := (some (IntKind.i64, idxV (ptsA (ptsA ps.length (List.drop 0 (flat ps))).length (List.drop 0 (flat (ptsA ps.length (List.drop 0 (flat ps)))))) (minL ((ptsA (ptsA ps.length (List.drop 0 (flat ps))).length (List.drop 0 (flat (ptsA ps.length (List.drop 0 (flat ps)))))).getD (0 : Nat) ((0 : Int), (0 : Int))) (List.drop (1 : Nat) (ptsA (ptsA ps.length (List.drop 0 (flat ps))).length (List.drop 0 (flat (ptsA ps.length (List.drop 0 (flat ps)))))))).fst (minL ((ptsA (ptsA ps.length (List.drop 0 (flat ps))).length (List.drop 0 (flat (ptsA ps.length (List.drop 0 (flat ps)))))).getD (0 : Nat) ((0 : Int), (0 : Int))) (List.drop (1 : Nat) (ptsA (ptsA ps.length (List.drop 0 (flat ps))).length (List.drop 0 (flat (ptsA ps.length (List.drop 0 (flat ps)))))))).snd))
abbrev ziCan_3 (ps : List Pt) := (some (IntKind.i64, idxV (ptsA (ptsA ps.length (List.drop 0 (flat ps))).length (List.drop 0 (flat (ptsA ps.length (List.drop 0 (flat ps)))))) (minL ((ptsA (ptsA ps.length (List.drop 0 (flat ps))).length (List.drop 0 (flat (ptsA ps.length (List.drop 0 (flat ps)))))).getD 0 (0, 0)) (List.drop 1 (ptsA (ptsA ps.length (List.drop 0 (flat ps))).length (List.drop 0 (flat (ptsA ps.length (List.drop 0 (flat ps)))))))).fst (minL ((ptsA (ptsA ps.length (List.drop 0 (flat ps))).length (List.drop 0 (flat (ptsA ps.length (List.drop 0 (flat ps)))))).getD 0 (0, 0)) (List.drop 1 (ptsA (ptsA ps.length (List.drop 0 (flat ps))).length (List.drop 0 (flat (ptsA ps.length (List.drop 0 (flat ps)))))))).snd))
abbrev ziCan_4 (ps : List Pt) := (ptsA ps.length (List.drop 0 (flat ps)))
abbrev ziCan_5 (ps : List Pt) := (ptsA ps.length (List.drop 0 (flat ps)))
set_option maxRecDepth 100000 in
theorem tr_iCan (ps : List Pt) : bodyX Try.prog ECi 30 12 13 [.row ps.length (.ints (flat ps))] = .need (ps.length * (2 : Nat) ≤ (List.drop 0 (flat ps)).length) (.need (ps.length ≤ (1000000000 : Nat)) (brT (!issI (ziCan_5 ps)) (.fin (.slice none (0) (0)) [some ⟨.view, .ints (flat ps)⟩]) (.need (ps.length * (2 : Nat) ≤ (List.drop 0 (flat ps)).length) (.need (ps.length ≤ (2000000 : Nat)) (.need ((ziCan_4 ps).length * (2 : Nat) ≤ (List.drop 0 (flat (ziCan_4 ps))).length) (.need (allV (ptsA (ziCan_4 ps).length (List.drop 0 (flat (ziCan_4 ps)))) = true) (.need ((ziCan_4 ps).length ≤ (1000 : Nat)) (brT (decide (sgA (ptsA (ziCan_5 ps).length (List.drop 0 (flat (ziCan_5 ps)))) (ziCan_5 ps).length < 0)) (.need ((flat (ziCan_4 ps)).length = (ziCan_4 ps).length * (2 : Nat)) (.need ((ziCan_4 ps).length ≤ (1000000000 : Nat)) (.need ((ziCan_4 ps).length * (2 : Nat) ≤ (List.drop 0 (flat (revP (ptsA (ziCan_4 ps).length (flat (ziCan_4 ps)))))).length) (.need ((ziCan_4 ps).length ≤ (1000000000 : Nat)) (.need ((0 : Nat) < (ziCan_4 ps).length) (.need ((ziCan_4 ps).length * (2 : Nat) ≤ (List.drop 0 (flat (revP (ptsA (ziCan_4 ps).length (flat (ziCan_4 ps)))))).length) (.need ((ziCan_4 ps).length ≤ (1000000000 : Nat)) (.need ((0 : Int) ≤ bndI (ziCan_0 ps) (0 : Int) ∧ bndI (ziCan_0 ps) (0 : Int) ≤ bndI none (↑(ziCan_4 ps).length : Int) ∧ bndI none (↑(ziCan_4 ps).length : Int) ≤ (↑(ziCan_4 ps).length : Int)) (.need ((0 : Int) ≤ bndI none (0 : Int) ∧ bndI none (0 : Int) ≤ bndI (ziCan_0 ps) (↑(ziCan_4 ps).length : Int) ∧ bndI (ziCan_0 ps) (↑(ziCan_4 ps).length : Int) ≤ (↑(ziCan_4 ps).length : Int)) (.need (((bndI none (↑(ziCan_4 ps).length : Int)).toNat - (bndI (ziCan_0 ps) (0 : Int)).toNat) * (2 : Nat) ≤ (List.drop ((0 : Nat) + (bndI (ziCan_0 ps) (0 : Int)).toNat * (2 : Nat)) (flat (revP (ptsA (ziCan_4 ps).length (flat (ziCan_4 ps)))))).length) (.need (((bndI (ziCan_0 ps) (↑(ziCan_4 ps).length : Int)).toNat - (0 : Nat)) * (2 : Nat) ≤ (List.drop 0 (flat (revP (ptsA (ziCan_4 ps).length (flat (ziCan_4 ps)))))).length) (.need ((0 : Nat) < (bndI none (↑(ziCan_4 ps).length : Int)).toNat - (bndI (ziCan_0 ps) (0 : Int)).toNat + ((bndI (ziCan_0 ps) (↑(ziCan_4 ps).length : Int)).toNat - (0 : Nat))) (.need ((bndI none (↑(ziCan_4 ps).length : Int)).toNat - (bndI (ziCan_0 ps) (0 : Int)).toNat + ((bndI (ziCan_0 ps) (↑(ziCan_4 ps).length : Int)).toNat - (0 : Nat)) ≤ (1000 : Nat)) (.fin (ß 3 ((bndI none (↑(ziCan_5 ps).length : Int)).toNat - (bndI (ziCan_1 ps) 0).toNat + ((bndI (ziCan_1 ps) (↑(ziCan_5 ps).length : Int)).toNat - 0)) ((bndI none (↑(ziCan_5 ps).length : Int)).toNat - (bndI (ziCan_1 ps) 0).toNat + ((bndI (ziCan_1 ps) (↑(ziCan_5 ps).length : Int)).toNat - 0))) [some ⟨.view, .ints (flat ps)⟩, some ⟨.row 31 2, .ints (flat (revP (ptsA (ziCan_5 ps).length (flat (ziCan_5 ps)))))⟩, some ⟨.row 23 1, .vals [.slice (some ⟨1, 0 + (bndI (ziCan_1 ps) 0).toNat * 2, none⟩) ((bndI none (↑(ziCan_5 ps).length : Int)).toNat - (bndI (ziCan_1 ps) 0).toNat) ((bndI none (↑(ziCan_5 ps).length : Int)).toNat - (bndI (ziCan_1 ps) 0).toNat), ß 1 ((bndI (ziCan_1 ps) (↑(ziCan_5 ps).length : Int)).toNat - 0) ((bndI (ziCan_1 ps) (↑(ziCan_5 ps).length : Int)).toNat - 0)]⟩, some ⟨.row 31 2, .ints (List.take (((bndI none (↑(ziCan_5 ps).length : Int)).toNat - (bndI (ziCan_1 ps) 0).toNat) * 2) (List.drop (0 + (bndI (ziCan_1 ps) 0).toNat * 2) (flat (revP (ptsA (ziCan_5 ps).length (flat (ziCan_5 ps)))))) ++ List.take (((bndI (ziCan_1 ps) (↑(ziCan_5 ps).length : Int)).toNat - 0) * 2) (List.drop 0 (flat (revP (ptsA (ziCan_5 ps).length (flat (ziCan_5 ps)))))))⟩])))))))))))))) (.need ((ziCan_4 ps).length * (2 : Nat) ≤ (List.drop 0 (flat (ziCan_4 ps))).length) (.need ((ziCan_4 ps).length ≤ (1000000000 : Nat)) (.need ((0 : Nat) < (ziCan_4 ps).length) (.need ((ziCan_4 ps).length * (2 : Nat) ≤ (List.drop 0 (flat (ziCan_4 ps))).length) (.need ((ziCan_4 ps).length ≤ (1000000000 : Nat)) (.need ((0 : Int) ≤ bndI (ziCan_2 ps) (0 : Int) ∧ bndI (ziCan_2 ps) (0 : Int) ≤ bndI none (↑(ziCan_4 ps).length : Int) ∧ bndI none (↑(ziCan_4 ps).length : Int) ≤ (↑(ziCan_4 ps).length : Int)) (.need ((0 : Int) ≤ bndI none (0 : Int) ∧ bndI none (0 : Int) ≤ bndI (ziCan_2 ps) (↑(ziCan_4 ps).length : Int) ∧ bndI (ziCan_2 ps) (↑(ziCan_4 ps).length : Int) ≤ (↑(ziCan_4 ps).length : Int)) (.need (((bndI none (↑(ziCan_4 ps).length : Int)).toNat - (bndI (ziCan_2 ps) (0 : Int)).toNat) * (2 : Nat) ≤ (List.drop ((0 : Nat) + (bndI (ziCan_2 ps) (0 : Int)).toNat * (2 : Nat)) (flat (ziCan_4 ps))).length) (.need (((bndI (ziCan_2 ps) (↑(ziCan_4 ps).length : Int)).toNat - (0 : Nat)) * (2 : Nat) ≤ (List.drop 0 (flat (ziCan_4 ps))).length) (.need ((0 : Nat) < (bndI none (↑(ziCan_4 ps).length : Int)).toNat - (bndI (ziCan_2 ps) (0 : Int)).toNat + ((bndI (ziCan_2 ps) (↑(ziCan_4 ps).length : Int)).toNat - (0 : Nat))) (.need ((bndI none (↑(ziCan_4 ps).length : Int)).toNat - (bndI (ziCan_2 ps) (0 : Int)).toNat + ((bndI (ziCan_2 ps) (↑(ziCan_4 ps).length : Int)).toNat - (0 : Nat)) ≤ (1000 : Nat)) (.fin (ß 3 ((bndI none (↑(ziCan_5 ps).length : Int)).toNat - (bndI (ziCan_3 ps) 0).toNat + ((bndI (ziCan_3 ps) (↑(ziCan_5 ps).length : Int)).toNat - 0)) ((bndI none (↑(ziCan_5 ps).length : Int)).toNat - (bndI (ziCan_3 ps) 0).toNat + ((bndI (ziCan_3 ps) (↑(ziCan_5 ps).length : Int)).toNat - 0))) [some ⟨.view, .ints (flat ps)⟩, some ⟨.row 31 2, .ints (flat (ziCan_5 ps))⟩, some ⟨.row 23 1, .vals [.slice (some ⟨1, 0 + (bndI (ziCan_3 ps) 0).toNat * 2, none⟩) ((bndI none (↑(ziCan_5 ps).length : Int)).toNat - (bndI (ziCan_3 ps) 0).toNat) ((bndI none (↑(ziCan_5 ps).length : Int)).toNat - (bndI (ziCan_3 ps) 0).toNat), ß 1 ((bndI (ziCan_3 ps) (↑(ziCan_5 ps).length : Int)).toNat - 0) ((bndI (ziCan_3 ps) (↑(ziCan_5 ps).length : Int)).toNat - 0)]⟩, some ⟨.row 31 2, .ints (List.take (((bndI none (↑(ziCan_5 ps).length : Int)).toNat - (bndI (ziCan_3 ps) 0).toNat) * 2) (List.drop (0 + (bndI (ziCan_3 ps) 0).toNat * 2) (flat (ziCan_5 ps))) ++ List.take (((bndI (ziCan_3 ps) (↑(ziCan_5 ps).length : Int)).toNat - 0) * 2) (List.drop 0 (flat (ziCan_5 ps))))⟩])))))))))))))))))))) := by kernel_rfl
theorem mnI_is (q : List Pt) : ∀ n, (∀ j, j < n → pltB (q.getD j (0, 0)) (q.getD (mnI q n) (0, 0)) = false) ∧ (∀ j, j < mnI q n → pltB (q.getD (mnI q n) (0, 0)) (q.getD j (0, 0)) = true) ∧ (0 < n → mnI q n < n)
  | 0 => ⟨fun j h => by omega, fun j h => by have : mnI q 0 = 0 := rfl; omega, fun h => by omega⟩
  | n + 1 => by
    obtain ⟨h1, h2, h3⟩ := mnI_is q n
    have hle := mnI_le q n
    have st : mnI q (n + 1) = bif pltB (q.getD n (0, 0)) (q.getD (mnI q n) (0, 0)) then n else mnI q n := rfl
    rcases hp : pltB (q.getD n (0, 0)) (q.getD (mnI q n) (0, 0)) with _ | _
    · rw [hp, cond_false] at st
      rw [st]
      refine ⟨fun j hj => ?_, h2, fun _ => by omega⟩
      rcases Nat.lt_or_ge j n with h | h
      · exact h1 j h
      · obtain rfl : j = n := by omega
        exact hp
    · rw [hp, cond_true] at st
      rw [st]
      refine ⟨fun j hj => ?_, fun j hj => ?_, fun _ => by omega⟩
      · rcases Nat.lt_or_ge j n with h | h
        · have a := h1 j h
          rw [pltB_iff] at hp
          rw [← Bool.not_eq_true, pltB_iff] at a ⊢
          omega
        · obtain rfl : j = n := by omega
          exact plt_irr
      · have a := h1 j hj
        rw [pltB_iff] at hp ⊢
        rw [← Bool.not_eq_true, pltB_iff] at a
        omega
theorem fsN_at {q : List Pt} {x y : Int} {k : Nat} (hk : npQ q x y k = false) : ∀ (n i : Nat), i ≤ k → k < i + n → (∀ j, i ≤ j → j < k → npQ q x y j = true) → fsN q x y i n = k
  | 0, i, h1, h2, _ => by omega
  | n + 1, i, h1, h2, h => by
    show (bif npQ q x y i then fsN q x y (i + 1) n else i) = k
    rcases Nat.lt_or_ge i k with hi | hi
    · rw [h i (Nat.le_refl _) hi, cond_true]
      exact fsN_at hk n (i + 1) hi (by omega) fun j a b => h j (by omega) b
    · obtain rfl : i = k := by omega
      rw [hk, cond_false]
theorem np_ff {q : List Pt} {p : Pt} {j : Nat} : npQ q p.1 p.2 j = false ↔ q.getD j (0, 0) = p := by
  unfold npQ
  rw [Bool.not_eq_false', Bool.and_eq_true, beq_iff_eq, beq_iff_eq]
  exact ⟨fun h => Prod.ext h.1 h.2, fun h => by rw [h]; exact ⟨rfl, rfl⟩⟩
theorem min_mem {q : List Pt} (h0 : 0 < q.length) : minL (q.getD 0 (0, 0)) (q.drop 1) ∈ q ∧ ∀ p ∈ q, pltB p (minL (q.getD 0 (0, 0)) (q.drop 1)) = false := by
  cases q with
  | nil => cases h0
  | cons a r =>
    show minL a r ∈ a :: r ∧ ∀ p ∈ a :: r, pltB p (minL a r) = false
    obtain ⟨h1, h2, h3⟩ := minL_le r a
    refine ⟨h1.elim (fun h => by rw [h]; exact List.mem_cons_self ..) (List.mem_cons_of_mem _), fun p hp => ?_⟩
    rcases List.mem_cons.1 hp with rfl | hp
    · exact h2
    · exact h3 p hp
theorem can_idx {q : List Pt} (h0 : 0 < q.length) : idxV q (minL (q.getD 0 (0, 0)) (q.drop 1)).1 (minL (q.getD 0 (0, 0)) (q.drop 1)).2 = (mnI q q.length : Nat) := by
  obtain ⟨m1, m2⟩ := min_mem h0
  generalize minL (q.getD 0 (0, 0)) (q.drop 1) = m at *
  obtain ⟨k1, k2, k3⟩ := mnI_is q q.length
  have k3 := k3 h0
  generalize mnI q q.length = k at *
  have e : q.getD k (0, 0) = m := by
    obtain ⟨j, hj, hjm⟩ := List.getElem_of_mem m1
    have g : q.getD j (0, 0) = m := by simp [hj, hjm]
    have a := k1 j hj
    have b := m2 (q.getD k (0, 0)) (by simp [k3])
    rw [g] at a
    rw [← Bool.not_eq_true, pltB_iff] at a b
    exact Prod.ext (by omega) (by omega)
  unfold idxV
  rw [np_mem m1, cond_false, fsN_at (np_ff.2 e) _ _ (Nat.zero_le _) (by omega)]
  intro j _ hj
  rw [← Bool.not_eq_false, np_ff]
  intro hh
  have a := k2 j hj
  rw [hh, e, plt_irr] at a
  cases a
theorem iss_ok {ps : List Pt} (h : issI ps = true) : allV ps = true ∧ ps.length ≤ 20 ∧ 3 ≤ ps.length := by
  unfold issI okL at h
  simp only [Bool.and_eq_true, decide_eq_true_eq] at h
  exact ⟨h.1.2.1, h.1.2.2, h.1.1⟩
def canV (ps : List Pt) : List Pt := bif issI ps then canL ps else []
set_option maxRecDepth 100000 in
theorem resR_iCan (ps : List Pt) (h : Big ps) : ResR Try.prog 13 [.row ps.length (.ints (flat ps))] (rowP (canV ps)) (blkP (canV ps)) := by
  refine bodyX_resR mixed ECi_ok (m := 30) (n := 12) rfl ?_
  rw [tr_iCan]
  try delta zB2 zB4 zR2 zI ziCan_0 ziCan_1 ziCan_2 ziCan_3 ziCan_4 ziCan_5
  unfold Big at h
  have hsz : Try.prog.types[(31 : Nat)].size = 2 := by kernel_rfl
  simp only [List.drop_zero, ptsA_flat, flat_length, hsz, bnd_some, bnd_none, Int.toNat_zero, Nat.sub_zero, Nat.zero_mul, Nat.zero_add, List.nil_append, Int.toNat_natCast]
  unfold canV
  rcases ho : issI ps with _ | _
  · simp only [Bool.not_false, brT_t, Tree.ok, cond_false]
    exact ⟨by omega, h, none, ⟨rfl, rfl⟩, trivial⟩
  obtain ⟨hv, hl20, hl3⟩ := iss_ok ho
  simp only [Bool.not_true, brT_f, Tree.ok, cond_true]
  have hr := revP_len ps
  have er : ptsA ps.length (flat (revP ps)) = revP ps := by rw [← hr, ptsA_flat]
  have m1 := mnI_le ps ps.length
  have m2 := mnI_le (revP ps) (revP ps).length
  unfold canL
  simp only [er, can_idx (show 0 < ps.length by omega), can_idx (show 0 < (revP ps).length by omega), Int.toNat_natCast]
  by_cases hs : sgA ps ps.length < 0
  · rw [if_pos hs, decide_eq_true hs]
    simp only [brT_t, Tree.ok]
    unfold canW
    generalize revP ps = q at *
    generalize mnI q q.length = k at *
    have c1 : List.take ((ps.length - k) * 2) (List.drop (k * 2) (flat q)) = flat (q.drop k) := by rw [← hr]; exact cut_hi q k
    have hd : (List.drop (k * 2) (flat q)).length = (q.length - k) * 2 := by rw [flat_drop, flat_length, List.length_drop]
    have hl : (q.drop k ++ q.take k).length = ps.length - k + k := by simp; omega
    simp only [c1, flat_take, ← flat_append]
    refine ⟨by omega, by omega, by omega, by omega, by omega, hv, by omega, trivial, by omega, by omega, by omega, by omega, by omega, by omega, by omega, by omega, by omega, by omega, by omega, by omega, some 3, ⟨rfl, rfl, hl.symm⟩, rfl, rfl, rfl⟩
  · rw [if_neg hs, decide_eq_false hs]
    simp only [brT_f, Tree.ok]
    unfold canW
    generalize mnI ps ps.length = k at *
    have c1 := cut_hi ps k
    have hd : (List.drop (k * 2) (flat ps)).length = (ps.length - k) * 2 := by rw [flat_drop, flat_length, List.length_drop]
    have hl : (ps.drop k ++ ps.take k).length = ps.length - k + k := by simp; omega
    simp only [c1, flat_take, ← flat_append]
    refine ⟨by omega, by omega, by omega, by omega, by omega, hv, by omega, by omega, by omega, by omega, by omega, by omega, by omega, by omega, by omega, by omega, by omega, by omega, some 3, ⟨rfl, rfl, hl.symm⟩, rfl, rfl, rfl⟩
theorem canW_len (q : List Pt) : (canW q).length = q.length := by
  have := mnI_le q q.length
  unfold canW
  simp
  omega
theorem ring_uniq {a b : List Pt} (A : CvH a) (B : CvH b) (hm : ∀ z, z ∈ a ↔ z ∈ b) (h0 : a.getD 0 (0, 0) = b.getD 0 (0, 0)) : a = b := by
  have l1 := nodup_le A.nodup fun x hx => (hm x).1 hx
  have l2 := nodup_le B.nodup fun x hx => (hm x).2 hx
  have hl : a.length = b.length := by omega
  have h3 := A.three
  have key : ∀ k, k < a.length → a.getD k (0, 0) = b.getD k (0, 0) := by
    intro k
    induction k with
    | zero => intro _; exact h0
    | succ k ih =>
      intro hk
      have e := ih (by omega)
      have na : nxP a k = a.getD (k + 1) (0, 0) := by unfold nxP; rw [Nat.mod_eq_of_lt hk]
      have nb : nxP b k = b.getD (k + 1) (0, 0) := by unfold nxP; rw [Nat.mod_eq_of_lt (by omega)]
      refine Classical.byContradiction fun hne => ?_
      have ma : a.getD (k + 1) (0, 0) ∈ b := (hm _).1 (getD_mem' hk)
      have mb : b.getD (k + 1) (0, 0) ∈ a := (hm _).2 (getD_mem' (by omega))
      have d1 : a.getD (k + 1) (0, 0) ≠ a.getD k (0, 0) := fun e => by have := nd_inj A.nodup hk (by omega) e; omega
      have d2 : b.getD (k + 1) (0, 0) ≠ b.getD k (0, 0) := fun e => by have := nd_inj B.nodup (by omega) (by omega) e; omega
      have p1 := A.left k (by omega) _ mb (by rw [e]; exact d2) (by rw [na]; exact Ne.symm hne)
      have p2 := B.left k (by omega) _ ma (by rw [← e]; exact d1) (by rw [nb]; exact hne)
      rw [na] at p1
      rw [nb, ← e] at p2
      have : crP (a.getD k (0, 0)) (b.getD (k + 1) (0, 0)) (a.getD (k + 1) (0, 0)) = -crP (a.getD k (0, 0)) (a.getD (k + 1) (0, 0)) (b.getD (k + 1) (0, 0)) := by unfold crP crossI; grind
      omega
  exact ext_getD hl key
theorem hul_first' {s : List Pt} (h : Asc s) (h3 : 3 ≤ s.length) {v : Pt} (hv : v ∈ hulL s) : pltB v ((hulL s).getD 0 (0, 0)) = false := by
  obtain ⟨l1, l2, _, e4, _, e6⟩ := hul_ends h (by rintro rfl; simp at h3)
  have g := chn_ge (s := s) (by omega)
  have e : (hulL s).getD 0 (0, 0) = (uppR s).getD 0 (0, 0) := by
    unfold hulL
    rw [if_neg (by omega), getD_append, if_pos (by simp; omega), getD_take' _ (by omega), low_at s (by rw [low_len]; omega), e4, Nat.sub_zero]
  rw [e]
  rcases e6 v (hul_in h hv) with q | q
  · rw [q]
    exact plt_irr
  · rw [Bool.eq_false_iff]
    intro hh
    rw [pltB_iff] at q hh
    omega
theorem cvh_in {p : List Pt} (H : CvH p) {v : Pt} (hv : v ∈ p) : v ∈ hulL (srtL p) := by
  have h3 := H.three
  obtain ⟨j, hj, rfl⟩ : ∃ j, j < p.length ∧ p.getD j (0, 0) = v := by
    obtain ⟨k, hk, e⟩ := List.getElem_of_mem hv
    exact ⟨k, hk, by simp [hk, e]⟩
  obtain ⟨i, hi, i1, i2, i3⟩ := pv_ix h3 hj
  have ei : nxP p i = p.getD j (0, 0) := by unfold nxP; rw [i1]
  have hpos : ∀ z ∈ p, z ≠ p.getD j (0, 0) → 0 < crP (p.getD i (0, 0)) (p.getD j (0, 0)) z + crP (p.getD j (0, 0)) (nxP p j) z := fun z hz hne => by
    have c1 : 0 ≤ crP (p.getD i (0, 0)) (nxP p i) z := by
      by_cases e1 : z = p.getD i (0, 0)
      · rw [e1]; have : crP (p.getD i (0, 0)) (nxP p i) (p.getD i (0, 0)) = 0 := by unfold crP crossI; grind
        omega
      · exact Int.le_of_lt (H.left i hi z hz e1 (by rw [ei]; exact hne))
    have c2 : 0 ≤ crP (p.getD j (0, 0)) (nxP p j) z := by
      by_cases e1 : z = nxP p j
      · rw [e1]; have : crP (p.getD j (0, 0)) (nxP p j) (nxP p j) = 0 := by unfold crP crossI; grind
        omega
      · exact Int.le_of_lt (H.left j hj z hz hne e1)
    rw [ei] at c1
    rcases Int.lt_or_eq_of_le c1 with h | h
    · omega
    · by_cases e1 : z = p.getD i (0, 0)
      · have q := nx_ne H hi
        have : 0 < crP (p.getD j (0, 0)) (nxP p j) z := H.left j hj z hz hne fun e2 => by
          rw [e1] at e2
          have := nd_inj H.nodup hi (Nat.mod_lt _ (by omega)) (show p.getD i (0, 0) = p.getD ((j + 1) % p.length) (0, 0) from e2)
          rw [← i2] at this
          exact q.2.1 this.symm
        omega
      · have := H.left i hi z hz e1 (by rw [ei]; exact hne)
        rw [ei] at this
        omega
  refine Classical.byContradiction fun hno => ?_
  have e0 : ∀ z, crP (p.getD i (0, 0)) (p.getD j (0, 0)) z + crP (p.getD j (0, 0)) (nxP p j) z = -(dirV ((nxP p j).2 - (p.getD i (0, 0)).2) ((p.getD i (0, 0)).1 - (nxP p j).1) z) + dirV ((nxP p j).2 - (p.getD i (0, 0)).2) ((p.getD i (0, 0)).1 - (nxP p j).1) (p.getD j (0, 0)) := fun z => by
    unfold crP crossI dirV
    grind
  have hM := hul_max (srtL_asc p) (dx := (nxP p j).2 - (p.getD i (0, 0)).2) (dy := (p.getD i (0, 0)).1 - (nxP p j).1) (M := dirV ((nxP p j).2 - (p.getD i (0, 0)).2) ((p.getD i (0, 0)).1 - (nxP p j).1) (p.getD j (0, 0)) - 1) (fun u hu => by
    have mu := (srtL_mem _ _).1 (hul_in (srtL_asc p) hu)
    have := hpos u mu fun e => hno (by rw [← e]; exact hu)
    rw [e0 u] at this
    omega) (p.getD j (0, 0)) ((srtL_mem _ _).2 hv)
  omega
theorem ring_hul {q : List Pt} (H : CvH q) (hm : ∀ z ∈ q, pltB z (q.getD 0 (0, 0)) = false) : hulL (srtL q) = q := by
  have h3 := H.three
  have same : ∀ z, z ∈ hulL (srtL q) ↔ z ∈ q := fun z => ⟨fun h => (srtL_mem _ _).1 (hul_in (srtL_asc q) h), fun h => cvh_in H h⟩
  have l1 := nodup_le H.nodup fun x hx => (same x).2 hx
  have B := hul_cvh (srtL_asc q) (by omega)
  have hs : (srtL q).length = q.length := (srtL_len q).2 H.nodup
  refine ring_uniq B H same ?_
  have m0 : q.getD 0 (0, 0) ∈ q := getD_mem' (by omega)
  have m1 : (hulL (srtL q)).getD 0 (0, 0) ∈ hulL (srtL q) := getD_mem' (by omega)
  have a := hul_first' (srtL_asc q) (by omega) ((same _).2 m0)
  have b := hm _ ((same _).1 m1)
  rw [Bool.eq_false_iff, ne_eq, pltB_iff] at a b
  exact Prod.ext (by omega) (by omega)
theorem canW_rot {q : List Pt} : canW q = rotP (mnI q q.length) q := rfl
theorem canW_first {q : List Pt} (h0 : 0 < q.length) : ∀ z ∈ canW q, pltB z ((canW q).getD 0 (0, 0)) = false := fun z hz => by
  obtain ⟨k1, k2, k3⟩ := mnI_is q q.length
  have k3 := k3 h0
  rw [canW_rot] at hz ⊢
  rw [rotP_at k3 h0, Nat.zero_add, Nat.mod_eq_of_lt k3]
  obtain ⟨j, hj, e⟩ := List.getElem_of_mem (rotP_mem.1 hz)
  have := k1 j hj
  have g : q.getD j (0, 0) = z := by simp [hj, e]
  rw [g] at this
  exact this
theorem cvh_rot {r : Nat} {p : List Pt} (h : r < p.length) (H : CvH p) : CvH (rotP r p) := by
  have hl := rotP_len (Nat.le_of_lt h)
  refine ⟨by rw [hl]; exact H.three, ?_, fun j hj v hv n1 n2 => ?_⟩
  · have hp : (rotP r p).Perm p := by
      unfold rotP
      exact List.perm_append_comm.trans (by rw [List.take_append_drop])
    exact hp.nodup_iff.2 H.nodup
  · rw [hl] at hj
    rw [rotP_at h hj] at n1 ⊢
    rw [rotP_nx h hj] at n2 ⊢
    exact H.left _ (Nat.mod_lt _ (by omega)) v (rotP_mem.1 hv) n1 n2
theorem srt_rot {r : Nat} {p : List Pt} : srtL (rotP r p) = srtL p := srtL_same fun z => rotP_mem
theorem cvx_of_cvh {h : List Pt} (H : CvH h) (ho : okL h = true) : cvxI h = true := by
  unfold cvxI cvA
  rw [cvh_simple H ho, Bool.true_and, allQ_iff]
  intro i hi
  obtain ⟨n1, n2, n3⟩ := nx_ne H hi
  unfold cvE
  rw [decide_eq_true_eq]
  exact cvh_left H hi (k := (i + 2) % h.length) (Nat.mod_lt _ (by omega)) n2 n3
theorem cvx_iff {p : List Pt} (hs : issI p = true) : cvxI p = (decide (0 < sgA p p.length) && decide (canV p = hulV p)) := by
  obtain ⟨hv, h20, h3⟩ := iss_ok hs
  have ho : okL p = true := by unfold okL; rw [hv, decide_eq_true h20]; rfl
  have ec : canV p = canL p := by unfold canV; rw [hs]; rfl
  obtain ⟨k1, k2, k3⟩ := mnI_is p p.length
  have k3 := k3 (by omega)
  rw [ec, hulV_yes ho, Bool.eq_iff_iff]
  simp only [Bool.and_eq_true, decide_eq_true_eq]
  constructor
  · intro hc
    have H := cvx_cvh hc
    have ha := cvh_area H
    refine ⟨ha, ?_⟩
    unfold canL
    rw [if_neg (by omega)]
    have := ring_hul (q := canW p) (by rw [canW_rot]; exact cvh_rot k3 H) (canW_first (by omega))
    rw [← this]
    rw [canW_rot, srt_rot]
  · rintro ⟨ha, he⟩
    unfold canL at he
    rw [if_neg (by omega)] at he
    have hl : (canW p).length = p.length := canW_len p
    have B := hul_cvh (srtL_asc p) (by rw [← he, hl]; exact h3)
    rw [← he, canW_rot] at B
    have hnd : p.Nodup := by
      have hp : (rotP (mnI p p.length) p).Perm p := by
        unfold rotP
        exact List.perm_append_comm.trans (by rw [List.take_append_drop])
      exact hp.nodup_iff.1 B.nodup
    exact cvx_of_cvh (cvh_unrot k3 hnd B) ho
noncomputable def c_eqW : Code := ((loopsOf (codeOf Try.f12))[0]?).getD .skip
def k_eqW : Ex → List Nat := keeps [0, 1, 5] [(0, [])] [4]
def s_eqW (ps : List Pt) (qs : List Pt) : Nat → St := fun i => ⟨(ß 0 ps.length ps.length :: ß 1 qs.length qs.length :: ω3 .int .i64 i :: ω20 []), [some ⟨.view, .ints (flat ps)⟩, some ⟨.view, .ints (flat qs)⟩]⟩
def re_eqW (ps : List Pt) (qs : List Pt) : Nat → Ex := fun i => bif decide (ps.drop i = qs.drop i) then .exit 0 else .ret
def rs_eqW (ps : List Pt) (qs : List Pt) : Nat → St := fun i => bif decide (ps.drop i = qs.drop i) then ⟨(ω26 []), [some ⟨.view, .ints (flat ps)⟩, some ⟨.view, .ints (flat qs)⟩]⟩ else ⟨(ω4 .bool false :: ω21 []), [some ⟨.view, .ints (flat ps)⟩, some ⟨.view, .ints (flat qs)⟩]⟩
set_option maxRecDepth 100000 in
theorem tr_eqW (ps : List Pt) (qs : List Pt) (i : Nat) : bodyL Try.prog EM 30 12 noL 1 c_eqW k_eqW 2 (s_eqW ps qs i) = brT (decide ((↑i : Int) < (↑ps.length : Int))) (.need ((0 : Int) ≤ (↑i : Int) ∧ (↑i : Int) < (↑ps.length : Int)) (.need ((0 : Nat) + (↑i : Int).toNat * (2 : Nat) + (2 : Nat) ≤ (flat ps).length) (.need ((0 : Int) ≤ (↑i : Int) ∧ (↑i : Int) < (↑qs.length : Int)) (.need ((0 : Nat) + (↑i : Int).toNat * (2 : Nat) + (2 : Nat) ≤ (flat qs).length) (brT (negB true ((flat ps).getD (0 + (↑i : Int).toNat * 2) 0 == (flat qs).getD (0 + (↑i : Int).toNat * 2) 0 && ((flat ps).getD (0 + (↑i : Int).toNat * 2 + 1) 0 == (flat qs).getD (0 + (↑i : Int).toNat * 2 + 1) 0 && true))) (.leaf .ret ⟨(ω4 .bool (false) :: ω21 []), [some ⟨.view, .ints (flat ps)⟩, some ⟨.view, .ints (flat qs)⟩]⟩) (.leaf .normal ⟨(ß 0 (ps.length) (ps.length) :: ß 1 (qs.length) (qs.length) :: ω3 .int .i64 (ŵ ((↑i : Int) + 1)) :: ω20 []), [some ⟨.view, .ints (flat ps)⟩, some ⟨.view, .ints (flat qs)⟩]⟩)))))) (.leaf (.exit 0) ⟨(ω26 []), [some ⟨.view, .ints (flat ps)⟩, some ⟨.view, .ints (flat qs)⟩]⟩) := by kernel_rfl
set_option maxRecDepth 100000 in
theorem nl_eqW : loopsOf c_eqW = [] := by kernel_rfl
def inv_eqW (ps : List Pt) (qs : List Pt) : Nat → Prop := fun i => i ≤ ps.length ∧ ps.length = qs.length
def me_eqW (ps : List Pt) (qs : List Pt) : Nat → Nat := fun i => ps.length - i
def Round_eqW (ps : List Pt) (qs : List Pt) : Prop := ∀ xx : Nat, inv_eqW ps qs xx → (bodyL Try.prog EM 30 12 noL 1 c_eqW k_eqW 2 (s_eqW ps qs xx)).ok (RoundEnd 2 (s_eqW ps qs) (inv_eqW ps qs) (me_eqW ps qs) (re_eqW ps qs) (rs_eqW ps qs) xx) (fun _ _ => False)
def e_eqW (s : St) (k : Ex → St → Tree) : Option Tree := match Nat.beq s.tmps.length 26, pickL s.tmps [0, 1, 5], s.mem with
  | true, [ß 0 n _, ß 1 m _, .int .i64 i], [some ⟨.view, .ints xs⟩, some ⟨.view, .ints ys⟩] => some (needs [i = 0, m = n, xs.length = n * 2, ys.length = n * 2, n ≤ 1000000000] (brT (eqL (ptsA n xs) (ptsA n ys)) (k (.exit 0) ⟨(ω26 []), [some ⟨.view, .ints xs⟩, some ⟨.view, .ints ys⟩]⟩) (k .ret ⟨(ω4 .bool false :: ω21 []), [some ⟨.view, .ints xs⟩, some ⟨.view, .ints ys⟩]⟩)))
  | _, _, _ => none
set_option maxRecDepth 100000 in
theorem round_eqW (ps qs : List Pt) (h : ps.length ≤ 1000000000) : Round_eqW ps qs := by
  rintro i ⟨h1, h2⟩
  rw [tr_eqW]
  simp only [Int.toNat_natCast, Nat.zero_add, flat_length, flat_get0, flat_get1]
  refine brT_ok.2 ⟨fun hlt => ?_, fun hge => ?_⟩
  · have hlt := of_decide_eq_true hlt
    have hd1 := drop_cons (l := ps) (k := i) (by omega) (0, 0)
    have hd2 := drop_cons (l := qs) (k := i) (by omega) (0, 0)
    refine ⟨by omega, by omega, by omega, by omega, brT_ok.2 ⟨fun hv => ?_, fun hv => ?_⟩⟩
    · rw [negT_] at hv
      have hne : ps.getD i (0, 0) ≠ qs.getD i (0, 0) := fun e => by
        rw [e] at hv
        simp at hv
      have e : decide (ps.drop i = qs.drop i) = false := by
        rw [hd1, hd2]
        simp only [List.cons.injEq, decide_eq_false_iff_not]
        exact fun h => hne h.1
      refine ⟨by simp only [re_eqW, e, cond_false], [], ?_⟩
      simp only [rs_eqW, e, cond_false]
      repeat' (first | exact True.intro | exact rfl | exact fun _ => rfl | refine And.intro ?_ ?_)
    · rw [negT_] at hv
      have hp : ps.getD i (0, 0) = qs.getD i (0, 0) := by
        simp only [Bool.and_true, Bool.not_eq_false', Bool.and_eq_true, beq_iff_eq] at hv
        exact Prod.ext hv.1 hv.2
      have e : decide (ps.drop i = qs.drop i) = decide (ps.drop (i + 1) = qs.drop (i + 1)) := by
        rw [hd1, hd2, hp]
        simp
      rw [wsucc (n := ps.length) (by omega) h]
      refine ⟨i + 1, [], ⟨by omega, h2⟩, ?_, by simp only [re_eqW, e], by simp only [rs_eqW, e], ?_⟩
      · show ps.length - (i + 1) < ps.length - i; omega
      · repeat' (first | exact True.intro | exact rfl | exact fun _ => rfl | refine And.intro ?_ ?_)
  · have hge := of_decide_eq_false hge
    have e : decide (ps.drop i = qs.drop i) = true := by rw [List.drop_of_length_le (by omega), List.drop_of_length_le (by omega)]; rfl
    refine ⟨by simp only [re_eqW, e, cond_true], [], ?_⟩
    simp only [rs_eqW, e, cond_true]
    repeat' (first | exact True.intro | exact rfl | exact fun _ => rfl | refine And.intro ?_ ?_)
set_option maxRecDepth 100000 in
theorem lg_eqW : LoopE Try.prog e_eqW c_eqW := by
  intro s k t F H hlt ht
  unfold e_eqW at hlt
  split at hlt
  rotate_left
  · cases hlt
  rename_i hlen hpick hmem
  obtain ⟨tmps, mem⟩ := s
  simp only at hlen hpick hmem
  subst hmem
  obtain rfl := Option.some.inj hlt
  obtain ⟨⟨rfl, rfl, h1, h2, h3, _⟩, ht2⟩ := needs_ok ht
  clear ht hlt
  obtain ⟨ps, rfl, rfl⟩ := even_flat h1
  obtain ⟨qs, rfl, hq⟩ := even_flat h2
  rw [ptsA_flat, ← hq, ptsA_flat] at ht2
  refine ⟨_, _, pick2k ht2, loop_run mixed EM_ok (s_eqW ps qs) (inv_eqW ps qs) (me_eqW ps qs) (re_eqW ps qs) (rs_eqW ps qs) k_eqW (fun _ => rfl) (noLoops nl_eqW) (round_eqW ps qs h3) (x := 0) ⟨Nat.zero_le _, hq.symm⟩ (π := []) rfl ?_⟩
  refine ⟨rfl, rfl, ?_, wvs_spread' [0, 1, 5] hlen rfl ?_⟩
  · repeat' (first | exact True.intro | exact rfl | exact wv_top _ _ | exact fun _ => rfl | assumption | exact Eq.symm (by assumption) | exact vI0 rfl | refine And.intro ?_ ?_)
  · rw [hpick]
    repeat' (first | exact True.intro | exact rfl | exact wv_top _ _ | exact fun _ => rfl | assumption | exact Eq.symm (by assumption) | exact vI0 rfl | refine And.intro ?_ ?_)
theorem Lr_eqW {fn : Func} (hf : Try.prog.funcs[12]? = some fn) : LoopsGood Try.prog (lt1 e_eqW) 0 (codeOf fn) := by
  obtain rfl := fn_is Try.func12 hf
  exact lt1_good lg_eqW
def LEw : FuncId → LT := fun f => match f with
  | 12 => lt1 e_eqW
  | _ => noL
def EEw : Env := mkE B0 (fun _ _ => none) LEw
theorem EEw_ok : EnvOk Try.prog EEw := mkEOk B0_ok (fun _ _ _ _ _ h => (by cases h)) (by
  intro f fn hf
  unfold LEw
  split
  all_goals first | with_reducible exact Lr_eqW hf | exact noL_good)
set_option maxRecDepth 100000 in
theorem tr_eqPoints (ps qs : List Pt) : bodyX Try.prog EEw 30 12 12 [.row ps.length (.ints (flat ps)), .row qs.length (.ints (flat qs))] = brT (!(↑ps.length : Int) == (↑qs.length : Int)) (.fin (.bool (false)) [some ⟨.view, .ints (flat ps)⟩, some ⟨.view, .ints (flat qs)⟩]) (.need ((0 : Int) = (0 : Int)) (.need (qs.length = ps.length) (.need ((flat ps).length = ps.length * (2 : Nat)) (.need ((flat qs).length = ps.length * (2 : Nat)) (.need (ps.length ≤ (1000000000 : Nat)) (brT (eqL (ptsA ps.length (flat ps)) (ptsA ps.length (flat qs))) (.fin (.bool (true)) [some ⟨.view, .ints (flat ps)⟩, some ⟨.view, .ints (flat qs)⟩]) (.fin (.bool (false)) [some ⟨.view, .ints (flat ps)⟩, some ⟨.view, .ints (flat qs)⟩]))))))) := by kernel_rfl
theorem res_eqPoints (ps qs : List Pt) (h : Big ps) : Res Try.prog 12 [.row ps.length (.ints (flat ps)), .row qs.length (.ints (flat qs))] (.bool (eqL ps qs)) := by
  refine bodyX_res mixed EEw_ok (m := 30) (n := 12) rfl ?_
  rw [tr_eqPoints]
  unfold Big at h
  by_cases hl : ps.length = qs.length
  · have e : ptsA ps.length (flat qs) = qs := by rw [hl, ptsA_flat]
    rw [e, ptsA_flat, show (!((ps.length : Int) == (qs.length : Int))) = false by simp [hl]]
    simp only [brT_f, Tree.ok, flat_length]
    refine ⟨trivial, hl.symm, trivial, by omega, h, ?_⟩
    cases eqL ps qs <;> rfl
  · have e : eqL ps qs = false := by
      unfold eqL
      rw [decide_eq_false_iff_not]
      rintro rfl
      exact hl rfl
    rw [show (!((ps.length : Int) == (qs.length : Int))) = true by simp; omega]
    simp only [brT_t, Tree.ok, e]
theorem pEqW_ok {ds : List DArg} {v : Value} {C : List Prop} (h : pEq2 ds = some (v, C)) (hC : AllP C) : Res Try.prog 12 ds v := by
  unfold pEq2 at h
  split at h
  · rename_i m xs n ys
    obtain ⟨rfl, rfl⟩ : _ ∧ _ := by simpa using h
    obtain ⟨_, h2⟩ := ptsA_spec hC.1
    have h0 := res_eqPoints (ptsA m xs) (ptsA n ys) (by unfold Big; rw [h2]; exact hC.2.2.1)
    exact res_pts1 (pre := []) (post := [_]) hC.1 (res_pts1 (pre := [_]) (post := []) hC.2.1 h0)
  · cases h
theorem issI_ok {ps : List Pt} (h : issI ps = true) : allV ps = true ∧ ps.length ≤ 20 ∧ 3 ≤ ps.length := by
  unfold issI okL at h
  simp only [Bool.and_eq_true, decide_eq_true_eq] at h
  exact ⟨h.1.2.1, h.1.2.2, h.1.1⟩
def TBn : Tab := orT TSg TSm
theorem TBn_ok : TabOk Try.prog TBn := orT_ok TSg_ok TSm_ok
def EBn : Env := mkE TBn R4 (fun _ => noL)
theorem EBn_ok : EnvOk Try.prog EBn := mkEOk TBn_ok R4_ok (fun _ _ _ => noL_good)
def daV (ps : List Pt) : Int := bif issI ps then sgA ps ps.length else 0
set_option maxRecDepth 100000 in
theorem tr_iDa (ps : List Pt) : bodyV Try.prog EBn 30 12 11 [.row ps.length (.ints (flat ps))] = .need (ps.length * (2 : Nat) ≤ (List.drop 0 (flat ps)).length) (.need (ps.length ≤ (1000000000 : Nat)) (brT (!issI (ptsA ps.length (List.drop 0 (flat ps)))) (.fin (.int .i64 (0)) []) (.need (ps.length * (2 : Nat) ≤ (List.drop 0 (flat ps)).length) (.need (allV (ptsA ps.length (List.drop 0 (flat ps))) = true) (.need (ps.length ≤ (20 : Nat)) (.fin (.int .i64 (sgA (ptsA ps.length (List.drop 0 (flat ps))) ps.length)) [])))))) := by kernel_rfl
theorem res_iDa (ps : List Pt) (h : Big ps) : Res Try.prog 11 [.row ps.length (.ints (flat ps))] (iv (daV ps)) := by
  refine bodyV_res mixed EBn_ok (m := 30) (n := 12) rfl ?_
  rw [tr_iDa]
  unfold Big at h
  simp only [List.drop_zero, ptsA_flat, flat_length]
  unfold daV
  rcases hs : issI ps with _ | _
  · simp [brT_ok, Tree.ok, h]
  · obtain ⟨h1, h2, _⟩ := issI_ok hs
    simp [brT_ok, Tree.ok, h, h1, h2]
def pV (v : List Pt → Int) : List DArg → Option (Value × List Prop)
  | [.row m (.ints xs)] => some (iv (v (ptsA m xs)), [m * 2 ≤ xs.length, m ≤ 1000000000])
  | _ => none
theorem pV_ok {f : FuncId} {v : List Pt → Int} (H : ∀ ps, Big ps → Res Try.prog f [.row ps.length (.ints (flat ps))] (iv (v ps))) {ds : List DArg} {x : Value} {C : List Prop} (h : pV v ds = some (x, C)) (hC : AllP C) : Res Try.prog f ds x := by
  unfold pV at h
  split at h
  · rename_i m xs
    obtain ⟨rfl, rfl⟩ : _ ∧ _ := by simpa using h
    obtain ⟨_, h2⟩ := ptsA_spec hC.1
    exact res_pts1 (pre := []) (post := []) hC.1 (H (ptsA m xs) (by unfold Big; rw [h2]; exact hC.2.1))
  · cases h
end Go.Proofs.Ytnlciknmpjikgaa
