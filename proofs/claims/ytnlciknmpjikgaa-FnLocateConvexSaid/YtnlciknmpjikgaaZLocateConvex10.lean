/-
  Texts that the proof needs, merged. Written by an AI agent.
-/
import Derived.Orders
import Derived.Below
import Derived.OrdersIn
import Derived.Deep.LoopGhost
import Derived.WalkKit
import Derived.Laws.CopyRow
import Derived.Laws.AppendOwn
import Derived.Laws.Slices
import Derived.Laws.MakeOwn
import Derived.Test.YtnlciknmpjikgaaRows
import Derived.ProofKit
import Derived.OpenShut
import Derived.Carry
import Derived.IntWalk
import Derived.Test.YtnlciknmpjikgaaProg
import Derived.WalkSpells
import Derived.WalkLawsBesides
import Derived.Lib.Hide
import Derived.Deep.QuietTactic
import Derived.BigQuiet
import Derived.KernelRfl
import Derived.Deep.RegionHeld3
import Derived.LoopTactic
import Derived.Laws.StructEq
import Derived.Laws.Tables
import Derived.RangeFuncNested
import Derived.RangeFuncLeaves
import Derived.Deep.Slices
import Derived.Deep.Fields
import Derived.ChangeSame
import Derived.Shelf.SlSortCmp.WholeK
import Derived.Sort.Grow
import Derived.Deep.DeepCutAuto
import Derived.Shelf.SlSortCmp.NoneTotal
import Derived.Test.YtnlciknmpjikgaaZLocateConvex9
namespace Go.Proofs.Ytnlciknmpjikgaa
set_option linter.all false
open Go.RowKit
/-- Has an edge a point? -/
def hsF (ps : List Pt) (x y : Int) (j : Nat) : Bool := hasB (ps.getD j (0, 0)).1 (ps.getD j (0, 0)).2 (nxP ps j).1 (nxP ps j).2 x y
/-- Is an edge right of a point? -/
def rtF (ps : List Pt) (x y : Int) (j : Nat) : Bool :=
  !((decide (y < (ps.getD j (0, 0)).2)) == (decide (y < (nxP ps j).2))) && ((decide (y < (nxP ps j).2)) == decide (0 < crossI (ps.getD j (0, 0)).1 (ps.getD j (0, 0)).2 (nxP ps j).1 (nxP ps j).2 x y))
/-- The side after so many edges. -/
def plF (ps : List Pt) (x y : Int) : Nat → Int
  | 0 => -1
  | i + 1 => bif rtF ps x y i then 0 - plF ps x y i else plF ps x y i
theorem cv_nn {h : List Pt} (H : CvH h) {j : Nat} (hj : j < h.length) {v : Pt} (hv : v ∈ h) : 0 ≤ crP (h.getD j (0, 0)) (nxP h j) v := by
  by_cases e1 : v = h.getD j (0, 0)
  · rw [e1, crP_ba]; exact Int.le_refl _
  by_cases e2 : v = nxP h j
  · rw [e2, crP_bb]; exact Int.le_refl _
  exact Int.le_of_lt (H.left j hj v hv e1 e2)
theorem nx_mem {h : List Pt} {j : Nat} (hj : j < h.length) : nxP h j ∈ h := getD_mem' (Nat.mod_lt _ (by omega))
theorem prv {h : List Pt} {j : Nat} (hj : j < h.length) : ((j + h.length - 1) % h.length + 1) % h.length = j := by
  rcases Nat.eq_zero_or_pos j with e | e
  · subst e
    rw [Nat.zero_add, Nat.mod_eq_of_lt (show h.length - 1 < h.length by omega), show h.length - 1 + 1 = h.length by omega, Nat.mod_self]
  · rw [show j + h.length - 1 = (j - 1) + h.length by omega, Nat.add_mod_right, Nat.mod_eq_of_lt (show j - 1 < h.length by omega), show j - 1 + 1 = j by omega, Nat.mod_eq_of_lt hj]
theorem prv_lt {h : List Pt} {j : Nat} (hj : j < h.length) : (j + h.length - 1) % h.length < h.length := Nat.mod_lt _ (by omega)
theorem nx_prv {h : List Pt} {j : Nat} (hj : j < h.length) : nxP h ((j + h.length - 1) % h.length) = h.getD j (0, 0) := by
  unfold nxP
  rw [prv hj]
/-- On the line of an edge and on the left of all: on the edge. -/
theorem on_ring {h : List Pt} (H : CvH h) {q : Pt} (hq : ∀ j, j < h.length → 0 ≤ crP (h.getD j (0, 0)) (nxP h j) q) {j : Nat} (hj : j < h.length) (h0 : crP (h.getD j (0, 0)) (nxP h j) q = 0) : hsF h q.1 q.2 j = true := by
  have h3 := H.three
  have n1 : (j + 1) % h.length < h.length := Nat.mod_lt _ (by omega)
  have e2 : ((j + 1) % h.length + 1) % h.length = (j + 2) % h.length := by rw [Nat.mod_add_mod]
  obtain ⟨x1, x2, x3⟩ := nx_ne H hj
  have k1 := cvh_left H (j := j) (k := (j + 2) % h.length) hj (Nat.mod_lt _ (by omega)) x2 x3
  have f1 := hq ((j + 1) % h.length) n1
  have f2 := hq _ (prv_lt hj)
  rw [nx_prv hj] at f2
  have hp := prv hj
  have hpl := prv_lt hj
  have k2 := cvh_left H (j := (j + h.length - 1) % h.length) (k := (j + 1) % h.length) hpl n1 (by
    intro e
    rw [← e] at hp
    rw [e2] at hp
    exact x2 hp) (by rw [hp]; exact x1)
  rw [nx_prv hj] at k2
  have e3 : nxP h ((j + 1) % h.length) = h.getD ((j + 2) % h.length) (0, 0) := by unfold nxP; rw [e2]
  rw [e3] at f1
  exact on_seg h0 k1 f1 k2 f2
theorem cross_has {a b q : Pt} (h0 : crP a b q = 0) (h1 : (a.2 ≤ q.2 ∧ q.2 < b.2) ∨ (b.2 ≤ q.2 ∧ q.2 < a.2)) : hasB a.1 a.2 b.1 b.2 q.1 q.2 = true := by
  obtain ⟨a1, a2⟩ := a
  obtain ⟨b1, b2⟩ := b
  obtain ⟨q1, q2⟩ := q
  unfold crP crossI at h0
  simp only at h0 h1
  obtain ⟨u, rfl⟩ : ∃ d, a1 = q1 + d := ⟨a1 - q1, by omega⟩
  obtain ⟨s, rfl⟩ : ∃ d, a2 = q2 + d := ⟨a2 - q2, by omega⟩
  obtain ⟨v, rfl⟩ : ∃ d, b1 = q1 + d := ⟨b1 - q1, by omega⟩
  obtain ⟨t, rfl⟩ : ∃ d, b2 = q2 + d := ⟨b2 - q2, by omega⟩
  have e : u * t = s * v := by
    have : (q1 + v - (q1 + u)) * (q2 - (q2 + s)) - (q2 + t - (q2 + s)) * (q1 - (q1 + u)) = u * t - s * v := by grind
    omega
  have st : s * t ≤ 0 := by
    rcases h1 with ⟨c, d⟩ | ⟨c, d⟩
    · have := Int.mul_nonneg (show 0 ≤ -s by omega) (show 0 ≤ t by omega)
      have e : -s * t = -(s * t) := Int.neg_mul _ _
      omega
    · have := Int.mul_nonneg (show 0 ≤ s by omega) (show 0 ≤ -t by omega)
      have e : s * -t = -(s * t) := Int.mul_neg _ _
      omega
  have uv : u * v ≤ 0 := by
    rcases Int.lt_or_le 0 (u * v) with c | c
    · exfalso
      rcases h1 with ⟨c1, c2⟩ | ⟨c1, c2⟩
      · have m1 := Int.mul_pos c (show 0 < t by omega)
        have m2 := Int.mul_nonneg (show 0 ≤ -s by omega) (mul_sq v)
        have e2 : u * v * t = -(-s * (v * v)) := by
          have : u * v * t = (u * t) * v := by grind
          rw [this, e]
          grind
        omega
      · have m1 := Int.mul_pos c (show 0 < s by omega)
        have m2 := Int.mul_nonneg (show 0 ≤ -t by omega) (mul_sq u)
        have e2 : u * v * s = -(-t * (u * u)) := by
          have : u * v * s = u * (s * v) := by grind
          rw [this, ← e]
          grind
        omega
    · exact c
  unfold hasB
  rw [Bool.and_eq_true]
  constructor
  · rw [beq_iff_eq]
    have : (q1 + u - q1) * (q2 + t - q2) - (q2 + s - q2) * (q1 + v - q1) = u * t - s * v := by grind
    rw [this]
    omega
  · refine decide_eq_true ?_
    have : (q1 + u - q1) * (q1 + v - q1) + (q2 + s - q2) * (q2 + t - q2) = u * v + s * t := by grind
    rw [this]
    omega
/-- The value of an edge at a point, from an edge that crosses the height of the point. -/
theorem mid_id (a b A B q : Pt) : (B.2 - A.2) * crP a b q = crP a b A * (B.2 - q.2) + crP a b B * (q.2 - A.2) + (b.2 - a.2) * crP A B q := by unfold crP crossI; grind
theorem two_id (a b A B : Pt) (y : Int) : (crP a b A * (B.2 - y) + crP a b B * (y - A.2)) + (crP A B a * (b.2 - y) + crP A B b * (y - a.2)) = 0 := by unfold crP crossI; grind
def upE (h : List Pt) (y : Int) (j : Nat) : Prop := (h.getD j (0, 0)).2 ≤ y ∧ y < (nxP h j).2
def dnE (h : List Pt) (y : Int) (j : Nat) : Prop := (nxP h j).2 ≤ y ∧ y < (h.getD j (0, 0)).2
theorem up_uniq {h : List Pt} (H : CvH h) {y : Int} {i k : Nat} (hi : i < h.length) (hk : k < h.length) (ui : upE h y i) (uk : upE h y k) : i = k := by
  have w := two_id (h.getD i (0, 0)) (nxP h i) (h.getD k (0, 0)) (nxP h k) y
  have a1 := cv_nn H hi (getD_mem' hk)
  have a2 := cv_nn H hi (nx_mem hk)
  have a3 := cv_nn H hk (getD_mem' hi)
  have a4 := cv_nn H hk (nx_mem hi)
  have m1 := Int.mul_nonneg a1 (show 0 ≤ (nxP h k).2 - y by have := uk.2; omega)
  have m2 := Int.mul_nonneg a2 (show 0 ≤ y - (h.getD k (0, 0)).2 by have := uk.1; omega)
  have m3 := Int.mul_nonneg a3 (show 0 ≤ (nxP h i).2 - y by have := ui.2; omega)
  have m4 := Int.mul_nonneg a4 (show 0 ≤ y - (h.getD i (0, 0)).2 by have := ui.1; omega)
  have z : crP (h.getD i (0, 0)) (nxP h i) (h.getD k (0, 0)) = 0 := by
    rcases Int.lt_or_le 0 (crP (h.getD i (0, 0)) (nxP h i) (h.getD k (0, 0))) with c | c
    · have := Int.mul_pos c (show 0 < (nxP h k).2 - y by have := uk.2; omega)
      omega
    · omega
  by_cases e1 : h.getD k (0, 0) = h.getD i (0, 0)
  · exact (nd_inj H.nodup hk hi e1).symm
  · by_cases e2 : h.getD k (0, 0) = nxP h i
    · exfalso
      have := uk.1
      have := ui.2
      rw [e2] at *
      omega
    · have := H.left i hi _ (getD_mem' hk) e1 e2
      omega
theorem dn_uniq {h : List Pt} (H : CvH h) {y : Int} {i k : Nat} (hi : i < h.length) (hk : k < h.length) (ui : dnE h y i) (uk : dnE h y k) : i = k := by
  have w := two_id (h.getD i (0, 0)) (nxP h i) (nxP h k) (h.getD k (0, 0)) y
  have a1 := cv_nn H hi (getD_mem' hk)
  have a2 := cv_nn H hi (nx_mem hk)
  have a3 := cv_nn H hk (getD_mem' hi)
  have a4 := cv_nn H hk (nx_mem hi)
  rw [crP_sw (h.getD k (0, 0)) (nxP h k), crP_sw (h.getD k (0, 0)) (nxP h k)] at w
  have m1 := Int.mul_nonneg a2 (show 0 ≤ (h.getD k (0, 0)).2 - y by have := uk.2; omega)
  have m2 := Int.mul_nonneg a1 (show 0 ≤ y - (nxP h k).2 by have := uk.1; omega)
  have m3 := Int.mul_nonneg a3 (show 0 ≤ y - (nxP h i).2 by have := ui.1; omega)
  have m4 := Int.mul_nonneg a4 (show 0 ≤ (h.getD i (0, 0)).2 - y by have := ui.2; omega)
  have e3 : -crP (h.getD k (0, 0)) (nxP h k) (h.getD i (0, 0)) * ((nxP h i).2 - y) = crP (h.getD k (0, 0)) (nxP h k) (h.getD i (0, 0)) * (y - (nxP h i).2) := by grind
  have e4 : -crP (h.getD k (0, 0)) (nxP h k) (nxP h i) * (y - (h.getD i (0, 0)).2) = crP (h.getD k (0, 0)) (nxP h k) (nxP h i) * ((h.getD i (0, 0)).2 - y) := by grind
  rw [e3, e4] at w
  have z : crP (h.getD i (0, 0)) (nxP h i) (nxP h k) = 0 := by
    rcases Int.lt_or_le 0 (crP (h.getD i (0, 0)) (nxP h i) (nxP h k)) with c | c
    · have := Int.mul_pos c (show 0 < (h.getD k (0, 0)).2 - y by have := uk.2; omega)
      omega
    · omega
  by_cases e1 : nxP h k = nxP h i
  · have := nd_inj H.nodup (Nat.mod_lt _ (by omega)) (Nat.mod_lt _ (by omega)) e1
    have p1 : (k + 1) % h.length = (i + 1) % h.length := this
    rcases Nat.lt_or_ge (k + 1) h.length with c | c <;> rcases Nat.lt_or_ge (i + 1) h.length with c' | c'
    · rw [Nat.mod_eq_of_lt c, Nat.mod_eq_of_lt c'] at p1; omega
    · rw [Nat.mod_eq_of_lt c, show i + 1 = h.length by omega, Nat.mod_self] at p1; omega
    · rw [Nat.mod_eq_of_lt c', show k + 1 = h.length by omega, Nat.mod_self] at p1; omega
    · omega
  · by_cases e2 : nxP h k = h.getD i (0, 0)
    · exfalso
      have := uk.1
      have := ui.2
      rw [e2] at *
      omega
    · have := H.left i hi _ (nx_mem hk) e2 e1
      omega
end Go.Proofs.Ytnlciknmpjikgaa
namespace Go.Proofs.Ytnlciknmpjikgaa
set_option linter.all false
open Go.RowKit
def adP (p v : Pt) : Pt := (p.1 + v.1, p.2 + v.2)
/-- All points are on the left of a line through p. -/
def SupP (S : Pt → Prop) (d p : Pt) : Prop := ∀ q, S q → 0 ≤ cr2 d (dif q p)
def AftP (l : List Pt) (d : Pt) : Prop := ∀ x ∈ l, 0 ≤ cr2 x d
def AftS (l : List Pt) (d : Pt) : Prop := ∀ x ∈ l, 0 < cr2 x d
/-- The sides of a chain from p on, after a side. -/
def LCh (S : Pt → Prop) : List Pt → Pt → List Pt → Prop
  | l, p, [] => S p ∧ ∀ d, posV d → AftP l d → SupP S d p
  | l, p, v :: vs => S p ∧ posV v ∧ AftS l v ∧ (∀ d, posV d → AftP l d → 0 ≤ cr2 d v → SupP S d p) ∧ LCh S [v] (adP p v) vs
theorem LCh.at {S : Pt → Prop} : ∀ {u : List Pt} {l : List Pt} {p : Pt}, LCh S l p u → S p
  | [], _, _, h => h.1
  | _ :: _, _, _, h => h.1
theorem Cvx.drop : ∀ {X Y : List Pt}, Cvx (X ++ Y) → Cvx Y
  | [], _, h => h
  | _ :: _, _, h => Cvx.drop (Cvx.tail h)
theorem Lft.drop {S : Pt → Prop} : ∀ {X Y : List Pt}, Lft S (X ++ Y) → Lft S Y
  | [], _, h => h
  | _ :: _, _, h => Lft.drop (Lft.tail h)
theorem Dsc.drop : ∀ {X Y : List Pt}, Dsc (X ++ Y) → Dsc Y
  | [], _, h => h
  | _ :: _, _, h => Dsc.drop (Dsc.tail h)
theorem nn_of_mul {D x : Int} (hD : 0 < D) (h : 0 ≤ D * x) : 0 ≤ x := by
  rcases Int.lt_or_le x 0 with c | c
  · have := Int.mul_neg_of_pos_of_neg hD c
    omega
  · exact c
end Go.Proofs.Ytnlciknmpjikgaa
namespace Go.Proofs.Ytnlciknmpjikgaa
set_option linter.all false
open Go.RowKit
theorem pl_none {h : List Pt} {x y : Int} : ∀ m, (∀ j, j < m → rtF h x y j = false) → plF h x y m = -1
  | 0, _ => rfl
  | m + 1, hr => by
    have ih := pl_none m fun j hj => hr j (by omega)
    simp only [plF, hr m (by omega), cond_false]
    exact ih
theorem pl_one {h : List Pt} {x y : Int} {n i : Nat} (hr : ∀ j, j < n → rtF h x y j = decide (j = i)) : ∀ m, m ≤ n → plF h x y m = if i < m then 1 else -1
  | 0, _ => by rw [if_neg (by omega)]; rfl
  | m + 1, hm => by
    have ih := pl_one hr m (by omega)
    simp only [plF, hr m (by omega)]
    by_cases e : m = i
    · rw [decide_eq_true e, cond_true, ih, if_neg (by omega), if_pos (by omega)]
      rfl
    · rw [decide_eq_false e, cond_false, ih]
      by_cases c : i < m
      · rw [if_pos c, if_pos (by omega)]
      · rw [if_neg c, if_neg (by omega)]
theorem pl_two {h : List Pt} {x y : Int} {n i k : Nat} (hik : i < k) (hr : ∀ j, j < n → rtF h x y j = decide (j = i ∨ j = k)) : ∀ m, m ≤ n → plF h x y m = if i < m ∧ m ≤ k then 1 else -1
  | 0, _ => by rw [if_neg (by omega)]; rfl
  | m + 1, hm => by
    have ih := pl_two hik hr m (by omega)
    simp only [plF, hr m (by omega)]
    by_cases e : m = i ∨ m = k
    · rw [decide_eq_true e, cond_true, ih]
      rcases e with e | e
      · rw [if_neg (by omega), if_pos (by omega)]
        rfl
      · rw [if_pos (by omega), if_neg (by omega)]
        rfl
    · rw [decide_eq_false e, cond_false, ih]
      by_cases c : i < m ∧ m ≤ k
      · rw [if_pos c, if_pos (by omega)]
      · rw [if_neg c, if_neg (by omega)]
theorem chg {f : Nat → Bool} {n a b : Nat} (ha : a < n) (hb : b < n) (fa : f a = true) (fb : f b = false) : ∃ j, j < n ∧ f j = true ∧ f ((j + 1) % n) = false := by
  have key : ∀ d, f ((a + d) % n) = false → ∃ j, j < n ∧ f j = true ∧ f ((j + 1) % n) = false := by
    intro d
    induction d with
    | zero =>
      intro h
      rw [Nat.add_zero, Nat.mod_eq_of_lt ha, fa] at h
      cases h
    | succ d ih =>
      intro h
      rcases e : f ((a + d) % n) with _ | _
      · exact ih e
      · refine ⟨(a + d) % n, Nat.mod_lt _ (by omega), e, ?_⟩
        rw [Nat.mod_add_mod]
        exact h
  refine key (b + n - a) ?_
  rw [show a + (b + n - a) = b + n by omega, Nat.add_mod_right, Nat.mod_eq_of_lt hb]
  exact fb
section ring
variable {h : List Pt} {q : Pt}
theorem rt_up {j : Nat} (u : upE h q.2 j) : rtF h q.1 q.2 j = decide (0 < crP (h.getD j (0, 0)) (nxP h j) q) := by
  unfold rtF
  rw [decide_eq_false (show ¬ q.2 < (h.getD j (0, 0)).2 by have := u.1; omega), decide_eq_true u.2]
  unfold crP
  cases decide (0 < crossI (h.getD j (0, 0)).1 (h.getD j (0, 0)).2 (nxP h j).1 (nxP h j).2 q.1 q.2) <;> rfl
theorem rt_dn {j : Nat} (u : dnE h q.2 j) : rtF h q.1 q.2 j = !decide (0 < crP (h.getD j (0, 0)) (nxP h j) q) := by
  unfold rtF
  rw [decide_eq_true u.2, decide_eq_false (show ¬ q.2 < (nxP h j).2 by have := u.1; omega)]
  unfold crP
  cases decide (0 < crossI (h.getD j (0, 0)).1 (h.getD j (0, 0)).2 (nxP h j).1 (nxP h j).2 q.1 q.2) <;> rfl
theorem rt_no {j : Nat} (u : ¬ upE h q.2 j) (d : ¬ dnE h q.2 j) : rtF h q.1 q.2 j = false := by
  unfold rtF
  unfold upE at u
  unfold dnE at d
  by_cases c1 : q.2 < (h.getD j (0, 0)).2 <;> by_cases c2 : q.2 < (nxP h j).2
  · rw [decide_eq_true c1, decide_eq_true c2]; rfl
  · exact absurd ⟨by omega, c1⟩ d
  · exact absurd ⟨by omega, c2⟩ u
  · rw [decide_eq_false c1, decide_eq_false c2]; rfl
/-- A point on the left of all edges: some vertices are above, some not. -/
theorem both_ex (H : CvH h) (cp : ∀ j, j < h.length → 0 < crP (h.getD j (0, 0)) (nxP h j) q) : (∃ a, a < h.length ∧ q.2 < (h.getD a (0, 0)).2) ∧ ∃ b, b < h.length ∧ ¬ q.2 < (h.getD b (0, 0)).2 := by
  have hq : ∀ j, j < h.length → 0 ≤ crP (h.getD j (0, 0)) (nxP h j) q := fun j hj => Int.le_of_lt (cp j hj)
  have vx : ∀ v ∈ h, ∃ j, j < h.length ∧ h.getD j (0, 0) = v := fun v hv => by
    obtain ⟨j, hj, e⟩ := List.getElem_of_mem hv
    exact ⟨j, hj, by simp [hj, e]⟩
  constructor
  · refine Classical.byContradiction fun hn => ?_
    have lo : ∀ j, j < h.length → (h.getD j (0, 0)).2 ≤ q.2 := fun j hj => by
      rcases Int.lt_or_le q.2 (h.getD j (0, 0)).2 with c | c
      · exact absurd ⟨j, hj, c⟩ hn
      · exact c
    by_cases ht : ∃ j, j < h.length ∧ (h.getD j (0, 0)).2 = q.2
    · obtain ⟨j, hj, e⟩ := ht
      have c1 := cp j hj
      have c2 := cp _ (prv_lt hj)
      rw [nx_prv hj] at c2
      have l1 : (nxP h j).2 ≤ q.2 := lo _ (Nat.mod_lt _ (by omega))
      have l2 := lo _ (prv_lt hj)
      have e1 : crP (h.getD j (0, 0)) (nxP h j) q = (q.2 - (nxP h j).2) * (q.1 - (h.getD j (0, 0)).1) := by unfold crP crossI; rw [e]; grind
      have e2 : crP (h.getD ((j + h.length - 1) % h.length) (0, 0)) (h.getD j (0, 0)) q = -((q.2 - (h.getD ((j + h.length - 1) % h.length) (0, 0)).2) * (q.1 - (h.getD j (0, 0)).1)) := by unfold crP crossI; rw [e]; grind
      rcases Int.lt_or_le (q.1 - (h.getD j (0, 0)).1) 0 with c | c
      · have := Int.mul_nonneg (show 0 ≤ q.2 - (nxP h j).2 by omega) (show 0 ≤ -(q.1 - (h.getD j (0, 0)).1) by omega)
        rw [Int.mul_neg] at this
        omega
      · have := Int.mul_nonneg (show 0 ≤ q.2 - (h.getD ((j + h.length - 1) % h.length) (0, 0)).2 by omega) c
        omega
    · have hM : ∀ v ∈ h, dirV 0 1 v ≤ q.2 - 1 := fun v hv => by
        obtain ⟨j, hj, e⟩ := vx v hv
        have := lo j hj
        have : (h.getD j (0, 0)).2 ≠ q.2 := fun e' => ht ⟨j, hj, e'⟩
        rw [e] at *
        unfold dirV
        omega
      have := cvh_max H hq hM
      unfold dirV at this
      omega
  · refine Classical.byContradiction fun hn => ?_
    have hM : ∀ v ∈ h, dirV 0 (-1) v ≤ -q.2 - 1 := fun v hv => by
      obtain ⟨j, hj, e⟩ := vx v hv
      have : q.2 < (h.getD j (0, 0)).2 := Classical.byContradiction fun c => hn ⟨j, hj, c⟩
      rw [e] at this
      unfold dirV
      omega
    have := cvh_max H hq hM
    unfold dirV at this
    omega
theorem up_of {a b : Nat} (ha : a < h.length) (hb : b < h.length) (ua : q.2 < (h.getD a (0, 0)).2) (ub : ¬ q.2 < (h.getD b (0, 0)).2) : (∃ i, i < h.length ∧ upE h q.2 i) ∧ ∃ k, k < h.length ∧ dnE h q.2 k := by
  constructor
  · obtain ⟨j, j1, j2, j3⟩ := chg (f := fun j => !decide (q.2 < (h.getD j (0, 0)).2)) hb ha (by simp only [decide_eq_false ub]; rfl) (by simp only [decide_eq_true ua]; rfl)
    refine ⟨j, j1, ?_, ?_⟩
    · have : ¬ q.2 < (h.getD j (0, 0)).2 := by simpa using j2
      omega
    · have : q.2 < (nxP h j).2 := by simpa [nxP] using j3
      exact this
  · obtain ⟨j, j1, j2, j3⟩ := chg (f := fun j => decide (q.2 < (h.getD j (0, 0)).2)) ha hb (decide_eq_true ua) (decide_eq_false ub)
    refine ⟨j, j1, ?_, of_decide_eq_true j2⟩
    have : ¬ q.2 < (nxP h j).2 := of_decide_eq_false j3
    omega
/-- Where a point is that is on no edge. -/
theorem in_ring (H : CvH h) (hno : ∀ j, j < h.length → hsF h q.1 q.2 j = false) : (plF h q.1 q.2 h.length = 1 ∧ ∀ j, j < h.length → 0 ≤ crP (h.getD j (0, 0)) (nxP h j) q) ∨ (plF h q.1 q.2 h.length = -1 ∧ ¬ ∀ j, j < h.length → 0 ≤ crP (h.getD j (0, 0)) (nxP h j) q) := by
  have cz : ∀ j, j < h.length → upE h q.2 j ∨ dnE h q.2 j → crP (h.getD j (0, 0)) (nxP h j) q ≠ 0 := fun j hj c e => by
    have := cross_has e (c.imp id id)
    have g := hno j hj
    unfold hsF at g
    rw [this] at g
    cases g
  have nud : ∀ j, upE h q.2 j → ¬ dnE h q.2 j := fun j u d => by
    have := u.1
    have := d.2
    omega
  by_cases hl : ∀ j, j < h.length → 0 ≤ crP (h.getD j (0, 0)) (nxP h j) q
  · refine .inl ⟨?_, hl⟩
    have cp : ∀ j, j < h.length → 0 < crP (h.getD j (0, 0)) (nxP h j) q := fun j hj => by
      have h1 := hl j hj
      rcases Int.lt_or_le 0 (crP (h.getD j (0, 0)) (nxP h j) q) with c | c
      · exact c
      · have := on_ring H hl hj (by omega)
        rw [hno j hj] at this
        cases this
    obtain ⟨⟨a, a1, a2⟩, b, b1, b2⟩ := both_ex H cp
    obtain ⟨⟨i, i1, i2⟩, _⟩ := up_of a1 b1 a2 b2
    have hr : ∀ j, j < h.length → rtF h q.1 q.2 j = decide (j = i) := fun j hj => by
      by_cases u : upE h q.2 j
      · rw [rt_up u, decide_eq_true (cp j hj), decide_eq_true (up_uniq H hj i1 u i2)]
      · rw [decide_eq_false (fun e => u (by rw [e]; exact i2))]
        by_cases d : dnE h q.2 j
        · rw [rt_dn d, decide_eq_true (cp j hj)]; rfl
        · exact rt_no u d
    rw [pl_one hr _ (Nat.le_refl _), if_pos i1]
  · refine .inr ⟨?_, hl⟩
    by_cases hu : ∃ i, i < h.length ∧ upE h q.2 i
    · obtain ⟨i, i1, i2⟩ := hu
      have n1 : (i + 1) % h.length < h.length := Nat.mod_lt _ (by omega)
      obtain ⟨_, k, k1, k2⟩ := up_of (q := q) n1 i1 i2.2 (by have := i2.1; omega)
      have ne : i ≠ k := fun e => nud i i2 (by rw [e]; exact k2)
      have zi := cz i i1 (.inl i2)
      have zk := cz k k1 (.inr k2)
      have hr : ∀ j, j < h.length → rtF h q.1 q.2 j = if j = i then decide (0 < crP (h.getD i (0, 0)) (nxP h i) q) else if j = k then !decide (0 < crP (h.getD k (0, 0)) (nxP h k) q) else false := fun j hj => by
        by_cases u : upE h q.2 j
        · have e := up_uniq H hj i1 u i2
          rw [if_pos e, rt_up u, e]
        · rw [if_neg (fun e => u (by rw [e]; exact i2))]
          by_cases d : dnE h q.2 j
          · have e := dn_uniq H hj k1 d k2
            rw [if_pos e, rt_dn d, e]
          · rw [if_neg (fun e => d (by rw [e]; exact k2))]
            exact rt_no u d
      have dU : 0 < (nxP h i).2 - (h.getD i (0, 0)).2 := by have := i2.1; have := i2.2; omega
      have dD : 0 < (h.getD k (0, 0)).2 - (nxP h k).2 := by have := k2.1; have := k2.2; omega
      rcases Int.lt_or_le 0 (crP (h.getD i (0, 0)) (nxP h i) q) with ci | ci
      · rcases Int.lt_or_le 0 (crP (h.getD k (0, 0)) (nxP h k) q) with ck | ck
        · refine absurd (fun j hj => ?_) hl
          have v1 := Int.mul_nonneg (cv_nn H hj (getD_mem' i1)) (show 0 ≤ (nxP h i).2 - q.2 by have := i2.2; omega)
          have v2 := Int.mul_nonneg (cv_nn H hj (nx_mem i1)) (show 0 ≤ q.2 - (h.getD i (0, 0)).2 by have := i2.1; omega)
          have w1 := Int.mul_nonneg (cv_nn H hj (nx_mem k1)) (show 0 ≤ (h.getD k (0, 0)).2 - q.2 by have := k2.2; omega)
          have w2 := Int.mul_nonneg (cv_nn H hj (getD_mem' k1)) (show 0 ≤ q.2 - (nxP h k).2 by have := k2.1; omega)
          have m1 := mid_id (h.getD j (0, 0)) (nxP h j) (h.getD i (0, 0)) (nxP h i) q
          have m2 := mid_id (h.getD j (0, 0)) (nxP h j) (nxP h k) (h.getD k (0, 0)) q
          rw [crP_sw (h.getD k (0, 0)) (nxP h k)] at m2
          rcases Int.lt_or_le ((nxP h j).2 - (h.getD j (0, 0)).2) 0 with s | s
          · have t := Int.mul_nonneg (show 0 ≤ -((nxP h j).2 - (h.getD j (0, 0)).2) by omega) (Int.le_of_lt ck)
            have e : -((nxP h j).2 - (h.getD j (0, 0)).2) * crP (h.getD k (0, 0)) (nxP h k) q = ((nxP h j).2 - (h.getD j (0, 0)).2) * -crP (h.getD k (0, 0)) (nxP h k) q := by grind
            exact nn_of_mul dD (by omega)
          · have t := Int.mul_nonneg s (Int.le_of_lt ci)
            exact nn_of_mul dU (by omega)
        · rcases Nat.lt_or_ge i k with o | o
          · rw [pl_two o (fun j hj => ?_) _ (Nat.le_refl _), if_neg (by omega)]
            rw [hr j hj]
            by_cases e1 : j = i
            · rw [if_pos e1, decide_eq_true ci, decide_eq_true (.inl e1)]
            · by_cases e2 : j = k
              · rw [if_neg e1, if_pos e2, decide_eq_false (by omega), decide_eq_true (.inr e2)]; rfl
              · rw [if_neg e1, if_neg e2, decide_eq_false (by omega)]
          · rw [pl_two (show k < i by omega) (fun j hj => ?_) _ (Nat.le_refl _), if_neg (by omega)]
            rw [hr j hj]
            by_cases e1 : j = i
            · rw [if_pos e1, decide_eq_true ci, decide_eq_true (.inr e1)]
            · by_cases e2 : j = k
              · rw [if_neg e1, if_pos e2, decide_eq_false (by omega), decide_eq_true (.inl e2)]; rfl
              · rw [if_neg e1, if_neg e2, decide_eq_false (by omega)]
      · rcases Int.lt_or_le 0 (crP (h.getD k (0, 0)) (nxP h k) q) with ck | ck
        · refine pl_none _ fun j hj => ?_
          rw [hr j hj]
          by_cases e1 : j = i
          · rw [if_pos e1, decide_eq_false (by omega)]
          · by_cases e2 : j = k
            · rw [if_neg e1, if_pos e2, decide_eq_true ck]; rfl
            · rw [if_neg e1, if_neg e2]
        · exfalso
          have v1 := Int.mul_nonneg (cv_nn H k1 (getD_mem' i1)) (show 0 ≤ (nxP h i).2 - q.2 by have := i2.2; omega)
          have v2 := Int.mul_nonneg (cv_nn H k1 (nx_mem i1)) (show 0 ≤ q.2 - (h.getD i (0, 0)).2 by have := i2.1; omega)
          have m1 := mid_id (h.getD k (0, 0)) (nxP h k) (h.getD i (0, 0)) (nxP h i) q
          have t := Int.mul_nonneg (Int.le_of_lt dD) (show 0 ≤ -crP (h.getD i (0, 0)) (nxP h i) q by omega)
          have e : ((h.getD k (0, 0)).2 - (nxP h k).2) * -crP (h.getD i (0, 0)) (nxP h i) q = ((nxP h k).2 - (h.getD k (0, 0)).2) * crP (h.getD i (0, 0)) (nxP h i) q := by grind
          have := nn_of_mul dU (show 0 ≤ ((nxP h i).2 - (h.getD i (0, 0)).2) * crP (h.getD k (0, 0)) (nxP h k) q by omega)
          omega
    · refine pl_none _ fun j hj => rt_no (fun u => hu ⟨j, hj, u⟩) fun d => ?_
      have n1 : (j + 1) % h.length < h.length := Nat.mod_lt _ (by omega)
      obtain ⟨⟨i, i1, i2⟩, _⟩ := up_of (q := q) hj n1 d.2 (by have := d.1; show ¬ q.2 < (nxP h j).2; omega)
      exact hu ⟨i, i1, i2⟩
end ring
end Go.Proofs.Ytnlciknmpjikgaa
namespace Go.Proofs.Ytnlciknmpjikgaa
set_option linter.all false
open Go.RowKit
/-- On which side of an edge is a point? -/
def lvE (ps : List Pt) (x y : Int) (j : Nat) : Int := cmpI (crossI (ps.getD j (0, 0)).1 (ps.getD j (0, 0)).2 (nxP ps j).1 (nxP ps j).2 x y) 0
/-- The least side of so many edges. -/
def lvA (ps : List Pt) (x y : Int) : Nat → Int
  | 0 => 1
  | i + 1 => if lvE ps x y i < lvA ps x y i then lvE ps x y i else lvA ps x y i
def ECl : Env := mkE TCx R4 (fun _ => noL)
theorem ECl_ok : EnvOk Try.prog ECl := mkEOk TCx_ok R4_ok (fun _ _ _ => noL_good)
noncomputable def gc_lcv : Code := (rangesOf (codeOf Try.f16)).getD 0 .skip
def k_lcv : Ex → List Nat := keeps [3, 5, 17] [] []
def s_lcv (ps : List Pt) (x y : Int) : Nat → St := fun i => ⟨[topV, topV, topV, .pointer (some ⟨2, 0, none⟩), topV, .pointer (some ⟨3, 0, none⟩), topV, topV, topV, topV, topV, topV, topV, topV, topV, topV, topV, .func (.func 75) #[] #[.pointer (some ⟨4, 0, none⟩)], topV, topV, topV, topV, topV, topV, topV, topV, topV, topV, topV, topV], [some ⟨.view, .ints (flat ps)⟩, none, some ⟨.box, .vals [.int .i64 x, .int .i64 y]⟩, some ⟨.box, .vals [.int .i64 (lvA ps x y i)]⟩, some ⟨.view, .vals [.slice (some ⟨0, 0, none⟩) ps.length ps.length]⟩]⟩
def g_lcv (ps : List Pt) (x y : Int) : Nat → Prop := fun i => i ≤ ps.length
def re_lcv (ps : List Pt) (x y : Int) : Ex := .normal
def rs_lcv (ps : List Pt) (x y : Int) : St := ⟨[topV, topV, topV, .pointer (some ⟨2, 0, none⟩), topV, .pointer (some ⟨3, 0, none⟩), topV, topV, topV, topV, topV, topV, topV, topV, topV, topV, topV, topV, topV, topV, topV, topV, topV, topV, topV, topV, topV, topV, topV, topV], [some ⟨.view, .ints (flat ps)⟩, none, some ⟨.box, .vals [.int .i64 x, .int .i64 y]⟩, some ⟨.box, .vals [.int .i64 (lvA ps x y ps.length)]⟩, some ⟨.view, .vals [.slice (some ⟨0, 0, none⟩) ps.length ps.length]⟩]⟩
set_option maxRecDepth 100000 in
theorem tr_lcv (ps : List Pt) (x y : Int) (i : Nat) : bodyR Try.prog ECl 30 12 noL noR (asgOf gc_lcv) (bodOf gc_lcv) ([18, 19].zip (encE ps i)) k_lcv 5 (s_lcv ps x y i) = .need (ptB (ps.getD i ((0 : Int), (0 : Int))).1 (ps.getD i ((0 : Int), (0 : Int))).2 = true) (.need (ptB (ps.getD ((i + (1 : Nat)) % ps.length) ((0 : Int), (0 : Int))).1 (ps.getD ((i + (1 : Nat)) % ps.length) ((0 : Int), (0 : Int))).2 = true) (.need (ptB x y = true) (.leaf .normal ⟨[topV, topV, topV, .pointer (some ⟨2, 0, none⟩), topV, .pointer (some ⟨3, 0, none⟩), topV, topV, topV, topV, topV, topV, topV, topV, topV, topV, topV, .func (Fn.func 75) #[] #[.pointer (some ⟨4, 0, none⟩)], topV, topV, topV, topV, topV, topV, topV, topV, topV, topV, topV, topV], [some ⟨.view, .ints (flat ps)⟩, none, some ⟨.box, .vals [.int .i64 (x), .int .i64 (y)]⟩, some ⟨.box, .vals [.int .i64 (if cmpI (crossI (ps.getD i (0, 0)).1 (ps.getD i (0, 0)).2 (ps.getD ((i + 1) % ps.length) (0, 0)).1 (ps.getD ((i + 1) % ps.length) (0, 0)).2 x y) 0 < lvA ps x y i then cmpI (crossI (ps.getD i (0, 0)).1 (ps.getD i (0, 0)).2 (ps.getD ((i + 1) % ps.length) (0, 0)).1 (ps.getD ((i + 1) % ps.length) (0, 0)).2 x y) 0 else lvA ps x y i)]⟩, some ⟨.view, .vals [.slice (some ⟨0, 0, none⟩) (ps.length) (ps.length)]⟩]⟩))) := by kernel_rfl
/-- A round of this loop. -/
def Round_lcv (ps : List Pt) (x y : Int) : Prop := ∀ i : Nat, g_lcv ps x y i → i < (ps).length → (bodyR Try.prog ECl 30 12 noL noR (asgOf gc_lcv) (bodOf gc_lcv) ([18, 19].zip (encE ps i)) k_lcv 5 (s_lcv ps x y i)).ok (RoundEndR 5 (s_lcv ps x y) (g_lcv ps x y) (re_lcv ps x y) (rs_lcv ps x y) i) (fun _ _ => False)
set_option maxRecDepth 100000 in
theorem gcode_lcv : gc_lcv = .rangeFunc (.tmp 17) ([18, 19] : List Nat).toArray (asgOf gc_lcv) (bodOf gc_lcv) := by kernel_rfl
def e_lcv (s : St) (k : Ex → St → Tree) : Option Tree := match Nat.beq s.tmps.length 30, pickL s.tmps [3, 5, 17], s.mem with
  | true, [.pointer (some ⟨2, 0, none⟩), .pointer (some ⟨3, 0, none⟩), .func (.func 75) ⟨[]⟩ ⟨[.pointer (some ⟨4, 0, none⟩)]⟩], [some ⟨.view, .ints xs⟩, none, some ⟨.box, .vals [.int .i64 x, .int .i64 y]⟩, some ⟨.box, .vals [.int .i64 a0]⟩, some ⟨.box, .vals [.slice (some ⟨0, 0, none⟩) n _]⟩] => some (needs [a0 = 1, xs.length = n * 2, allV (ptsA n xs) = true, n ≤ 20, ptB x y = true] (k .normal ⟨[topV, topV, topV, .pointer (some ⟨2, 0, none⟩), topV, .pointer (some ⟨3, 0, none⟩), topV, topV, topV, topV, topV, topV, topV, topV, topV, topV, topV, topV, topV, topV, topV, topV, topV, topV, topV, topV, topV, topV, topV, topV], [some ⟨.view, .ints xs⟩, none, some ⟨.box, .vals [.int .i64 x, .int .i64 y]⟩, some ⟨.box, .vals [.int .i64 (lvA (ptsA n xs) x y n)]⟩, some ⟨.view, .vals [.slice (some ⟨0, 0, none⟩) n n]⟩]⟩))
  | _, _, _ => none
set_option maxRecDepth 100000 in
theorem round_lcv (ps : List Pt) (x y : Int) (hv : allV ps = true) (h : ps.length ≤ 20) (hp : ptB x y = true) : Round_lcv ps x y := by
  intro i hg hi
  rw [tr_lcv]
  have hm := nx_lt hi
  refine ⟨pt_get hv hi, pt_get hv hm, hp, ?_⟩
  refine ⟨by show i + 1 ≤ ps.length; omega, [], ?_⟩
  refine ⟨rfl, rfl, ?_, ?_⟩ <;> repeat' (first | exact True.intro | exact rfl | exact wv_top _ _ | exact fun _ => rfl | refine And.intro ?_ ?_)
attribute [local irreducible] bodyR
set_option maxRecDepth 100000 in
theorem lg_lcv : RangeE Try.prog e_lcv gc_lcv := by
  intro s k t F H hlt ht
  unfold e_lcv at hlt
  split at hlt
  rotate_left
  · cases hlt
  rename_i hlen hpick hmem
  obtain ⟨tmps, mem⟩ := s
  simp only at hlen hpick hmem
  subst hmem
  obtain rfl := Option.some.inj hlt
  obtain ⟨⟨rfl, h1, h2, h3, h4, _⟩, ht2⟩ := needs_ok ht
  clear ht hlt
  obtain ⟨ps, rfl, rfl⟩ := even_flat h1
  rw [ptsA_flat] at ht2 h2
  rename_i px py cp0 rr
  refine ⟨re_lcv ps px py, rs_lcv ps px py, ht2, ?_⟩
  rw [gcode_lcv]
  refine range_det (enc := encE ps) (len := (ps).length) (St_of := s_lcv ps px py) (Good := g_lcv ps px py) (N := 5) (M := 5) (Kn := [0, 4]) (cap := [.pointer (some ⟨4, 0, none⟩)]) (kf := (k_lcv .normal)) (π := []) (fun _ => rfl) (fun _ => rfl) (fun i hg hlt => bodyR_ok mixed ECl_ok (noL_good) (noR_good) (round_lcv ps px py h2 h3 h4 i hg hlt)) (entersB_res (by kernel_rfl)).1 rfl ?_ (fun ρ0 ρ B w lb h1 h2 => ed_iter ps (by omega) (s := (s_lcv ps px py 0).fs) (nb := 4) (nr := 0) (c := (ps).length) (Kn := [0, 4]) rfl rfl (by decide) (by decide) ρ0 ρ B w lb h1 h2) ?_ rfl (by decide) ?_ (Nat.zero_le _)
  · intro n hn b hb
    simp only [List.mem_cons, List.not_mem_nil, or_false] at hn
    rcases hn with rfl | rfl <;> (obtain rfl := Option.some.inj hb; rfl)
  · exact fun _ => ⟨rfl, [], by refine ⟨rfl, rfl, ?_, ?_⟩ <;> repeat' (first | exact True.intro | exact rfl | exact wv_top _ _ | exact fun _ => rfl | refine And.intro ?_ ?_)⟩
  · refine ⟨rfl, rfl, ?_, wvs_spread' [3, 5, 17] hlen rfl ?_⟩
    · repeat' (first | exact True.intro | exact rfl | exact wv_top _ _ | exact fun _ => rfl | assumption | exact Eq.symm (by assumption) | exact vI0 rfl | refine And.intro ?_ ?_)
    · rw [show pickL (viewS [0, 4] ⟨tmps, _⟩).tmps [3, 5, 17] = pickL tmps [3, 5, 17] from rfl, hpick]
      repeat' (first | exact True.intro | exact rfl | exact wv_top _ _ | exact fun _ => rfl | assumption | exact Eq.symm (by assumption) | exact vI0 rfl | refine And.intro ?_ ?_)
theorem Gr_lcv {fn : Func} (hf : Try.prog.funcs[16]? = some fn) : RangesGood Try.prog (rt1 17 e_lcv) (codeOf fn) := by
  obtain rfl := fn_is Try.func16 hf
  exact rt1_good (by kernel_rfl) lg_lcv
def GCl : FuncId → RT := fun f => match f with
  | 16 => rt1 17 e_lcv
  | _ => noR
def EClg : Env := withG ECl GCl
theorem EClg_ok : EnvOk Try.prog EClg := withG_ok ECl_ok (by
  intro f fn hf
  unfold GCl
  split
  all_goals first | with_reducible exact Gr_lcv hf | exact noR_good)
/-- Where a point lies. -/
def lcvV (ps : List Pt) (x y : Int) : Int := bif cvxI ps && ptB x y then lvA ps x y ps.length else 2
theorem cvx_ok {ps : List Pt} (h : cvxI ps = true) : allV ps = true ∧ ps.length ≤ 20 := by
  unfold cvxI at h
  rw [Bool.and_eq_true] at h
  exact cv_ok2 h.1
set_option maxRecDepth 100000 in
theorem tr_iLcv (ps : List Pt) (x y : Int) : bodyV Try.prog EClg 30 12 16 [.row ps.length (.ints (flat ps)), .v (.agg ⟨[.int .i64 x, .int .i64 y]⟩)] = .need (ps.length * (2 : Nat) ≤ (List.drop (0 : Nat) (flat ps)).length) (.need (ps.length ≤ (1000000000 : Nat)) (brT (!cvxI (ptsA ps.length (List.drop 0 (flat ps)))) (.fin (.int .i64 (2)) []) (brT (!ptB x y) (.fin (.int .i64 (2)) []) (.need ((1 : Int) = (1 : Int)) (.need ((flat ps).length = ps.length * (2 : Nat)) (.need (allV (ptsA ps.length (flat ps)) = true) (.need (ps.length ≤ (20 : Nat)) (.need (ptB x y = true) (.fin (.int .i64 (lvA (ptsA ps.length (flat ps)) x y ps.length)) []))))))))) := by kernel_rfl
theorem res_iLcv (x y : Int) (ps : List Pt) (h : Big ps) : Res Try.prog 16 [.row ps.length (.ints (flat ps)), .v (.agg ⟨[.int .i64 x, .int .i64 y]⟩)] (.int .i64 (lcvV ps x y)) := by
  refine bodyV_res mixed EClg_ok (m := 30) (n := 12) rfl ?_
  rw [tr_iLcv]
  unfold Big at h
  simp only [List.drop_zero, ptsA_flat, flat_length]
  unfold lcvV
  rcases hs : cvxI ps with _ | _
  · simp [brT_ok, Tree.ok, h]
  · obtain ⟨h1, h2⟩ := cvx_ok hs
    rcases hc : ptB x y with _ | _ <;> simp [brT_ok, Tree.ok, h, h1, h2]
noncomputable def c_inh : Code := ((loopsOf (codeOf Try.f53))[0]?).getD .skip
def k_inh : Ex → List Nat := keeps [0, 3, 5, 6] [(0, [5])] []
def s_inh (ps : List Pt) (x y : Int) : Nat → St := fun i => ⟨(.slice (some ⟨0, 0, none⟩) ps.length ps.length :: topV :: topV :: .pointer (some ⟨2, 0, none⟩) :: topV :: .int .i64 (lvA ps x y i) :: .int .i64 i :: topV :: topV :: topV :: topV :: topV :: topV :: topV :: topV :: topV :: topV :: topV :: topV :: topV :: topV :: topV :: topV :: topV :: topV :: topV :: topV :: topV :: topV :: topV :: topV :: []), [some ⟨.view, .ints (flat ps)⟩, none, some ⟨.box, .vals [.int .i64 x, .int .i64 y]⟩]⟩
def re_inh : Nat → Ex := fun _ => .exit 0
def rs_inh (ps : List Pt) (x y : Int) : Nat → St := fun i => ⟨(topV :: topV :: topV :: topV :: topV :: .int .i64 (lvA ps x y ps.length) :: topV :: topV :: topV :: topV :: topV :: topV :: topV :: topV :: topV :: topV :: topV :: topV :: topV :: topV :: topV :: topV :: topV :: topV :: topV :: topV :: topV :: topV :: topV :: topV :: topV :: []), [some ⟨.view, .ints (flat ps)⟩, none, some ⟨.box, .vals [.int .i64 x, .int .i64 y]⟩]⟩
set_option maxRecDepth 100000 in
theorem tr_inh (ps : List Pt) (x y : Int) (i : Nat) : bodyL Try.prog ECl 30 12 noL 1 c_inh k_inh 3 (s_inh ps x y i) = brT (decide ((↑i : Int) < (↑ps.length : Int))) (.need (ptB ((flat ps).getD ((0 : Nat) + (↑i : Int).toNat * (2 : Nat)) (0 : Int)) ((flat ps).getD ((0 : Nat) + (↑i : Int).toNat * (2 : Nat) + (1 : Nat)) (0 : Int)) = true) (.need (ptB ((flat ps).getD ((0 : Nat) + ((IntKind.i64.wrap ((↑i : Int) + (1 : Int))).tmod (↑ps.length : Int)).toNat * (2 : Nat)) (0 : Int)) ((flat ps).getD ((0 : Nat) + ((IntKind.i64.wrap ((↑i : Int) + (1 : Int))).tmod (↑ps.length : Int)).toNat * (2 : Nat) + (1 : Nat)) (0 : Int)) = true) (.need (ptB x y = true) (.need ((0 : Int) ≤ (↑i : Int) ∧ (↑i : Int) < (↑ps.length : Int)) (.need ((0 : Nat) + (↑i : Int).toNat * (2 : Nat) + (2 : Nat) ≤ (flat ps).length) (.need (¬(↑ps.length : Int) = (0 : Int)) (.need ((0 : Int) ≤ (IntKind.i64.wrap ((↑i : Int) + (1 : Int))).tmod (↑ps.length : Int) ∧ (IntKind.i64.wrap ((↑i : Int) + (1 : Int))).tmod (↑ps.length : Int) < (↑ps.length : Int)) (.need ((0 : Nat) + ((IntKind.i64.wrap ((↑i : Int) + (1 : Int))).tmod (↑ps.length : Int)).toNat * (2 : Nat) + (2 : Nat) ≤ (flat ps).length) (.leaf .normal ⟨(.slice (some ⟨0, 0, none⟩) (ps.length) (ps.length) :: topV :: topV :: .pointer (some ⟨2, 0, none⟩) :: topV :: .int .i64 (if cmpI (crossI ((flat ps).getD (0 + (↑i : Int).toNat * 2) 0) ((flat ps).getD (0 + (↑i : Int).toNat * 2 + 1) 0) ((flat ps).getD (0 + ((IntKind.i64.wrap ((↑i : Int) + 1)).tmod (↑ps.length : Int)).toNat * 2) 0) ((flat ps).getD (0 + ((IntKind.i64.wrap ((↑i : Int) + 1)).tmod (↑ps.length : Int)).toNat * 2 + 1) 0) x y) 0 < lvA ps x y i then cmpI (crossI ((flat ps).getD (0 + (↑i : Int).toNat * 2) 0) ((flat ps).getD (0 + (↑i : Int).toNat * 2 + 1) 0) ((flat ps).getD (0 + ((IntKind.i64.wrap ((↑i : Int) + 1)).tmod (↑ps.length : Int)).toNat * 2) 0) ((flat ps).getD (0 + ((IntKind.i64.wrap ((↑i : Int) + 1)).tmod (↑ps.length : Int)).toNat * 2 + 1) 0) x y) 0 else lvA ps x y i) :: .int .i64 (IntKind.i64.wrap ((↑i : Int) + 1)) :: topV :: topV :: topV :: topV :: topV :: topV :: topV :: topV :: topV :: topV :: topV :: topV :: topV :: topV :: topV :: topV :: topV :: topV :: topV :: topV :: topV :: topV :: topV :: topV :: []), [some ⟨.view, .ints (flat ps)⟩, none, some ⟨.box, .vals [.int .i64 (x), .int .i64 (y)]⟩]⟩))))))))) (.leaf (.exit 0) ⟨(topV :: topV :: topV :: topV :: topV :: .int .i64 (lvA ps x y i) :: topV :: topV :: topV :: topV :: topV :: topV :: topV :: topV :: topV :: topV :: topV :: topV :: topV :: topV :: topV :: topV :: topV :: topV :: topV :: topV :: topV :: topV :: topV :: topV :: topV :: []), [some ⟨.view, .ints (flat ps)⟩, none, some ⟨.box, .vals [.int .i64 (x), .int .i64 (y)]⟩]⟩) := by kernel_rfl
set_option maxRecDepth 100000 in
theorem nl_inh : loopsOf c_inh = [] := by kernel_rfl
def inv_inh (ps : List Pt) (x y : Int) : Nat → Prop := fun i => i ≤ ps.length
def me_inh (ps : List Pt) (x y : Int) : Nat → Nat := fun i => ps.length - i
/-- A round of this loop. -/
def Round_inh (ps : List Pt) (x y : Int) : Prop := ∀ xx : Nat, inv_inh ps x y xx → (bodyL Try.prog ECl 30 12 noL 1 c_inh k_inh 3 (s_inh ps x y xx)).ok (RoundEnd 3 (s_inh ps x y) (inv_inh ps x y) (me_inh ps x y) re_inh (rs_inh ps x y) xx) (fun _ _ => False)
def e_inh (s : St) (k : Ex → St → Tree) : Option Tree := match Nat.beq s.tmps.length 31, pickL s.tmps [0, 3, 5, 6], s.mem with
  | true, [.slice (some ⟨0, 0, none⟩) n _, .pointer (some ⟨2, 0, none⟩), .int .i64 a0, .int .i64 i], [some ⟨.view, .ints xs⟩, none, some ⟨.box, .vals [.int .i64 x, .int .i64 y]⟩] => some (needs [i = 0, a0 = 1, xs.length = n * 2, allV (ptsA n xs) = true, n ≤ 20, ptB x y = true] (k (.exit 0) ⟨(topV :: topV :: topV :: topV :: topV :: .int .i64 (lvA (ptsA n xs) x y n) :: topV :: topV :: topV :: topV :: topV :: topV :: topV :: topV :: topV :: topV :: topV :: topV :: topV :: topV :: topV :: topV :: topV :: topV :: topV :: topV :: topV :: topV :: topV :: topV :: topV :: []), [some ⟨.view, .ints xs⟩, none, some ⟨.box, .vals [.int .i64 x, .int .i64 y]⟩]⟩))
  | _, _, _ => none
set_option maxRecDepth 100000 in
theorem round_inh (ps : List Pt) (x y : Int) (hv : allV ps = true) (h : ps.length ≤ 20) (hp : ptB x y = true) : Round_inh ps x y := by
  intro i h1
  have h1 : i ≤ ps.length := h1
  rw [tr_inh]
  simp only [Int.toNat_natCast, Nat.zero_add, flat_length, flat_get0, flat_get1]
  refine brT_ok.2 ⟨fun hlt => ?_, fun hge => ?_⟩
  · have hlt := of_decide_eq_true hlt
    have hi : i < ps.length := by omega
    have hm := nx_lt hi
    simp only [nx_mod hi (by omega), Int.toNat_natCast, flat_get0, flat_get1]
    simp only [wsucc (n := ps.length) hi (by omega)]
    refine ⟨pt_get hv hi, pt_get hv hm, hp, by omega, by omega, by omega, by omega, by omega, ?_⟩
    refine ⟨i + 1, [], ?_, ?_, rfl, rfl, ?_⟩
    · show i + 1 ≤ ps.length; omega
    · show ps.length - (i + 1) < ps.length - i; omega
    · refine ⟨rfl, rfl, ?_, ?_⟩ <;> repeat' (first | exact True.intro | exact rfl | exact wv_top _ _ | exact fun _ => rfl | refine And.intro ?_ ?_)
  · have hge := of_decide_eq_false hge
    obtain rfl : i = ps.length := by omega
    refine ⟨rfl, [], ?_⟩
    refine ⟨rfl, rfl, ?_, ?_⟩ <;> repeat' (first | exact True.intro | exact rfl | exact wv_top _ _ | exact fun _ => rfl | refine And.intro ?_ ?_)
set_option maxRecDepth 100000 in
theorem lg_inh : LoopE Try.prog e_inh c_inh := by
  intro s k t F H hlt ht
  unfold e_inh at hlt
  split at hlt
  rotate_left
  · cases hlt
  rename_i hlen hpick hmem
  obtain ⟨tmps, mem⟩ := s
  simp only at hlen hpick hmem
  subst hmem
  obtain rfl := Option.some.inj hlt
  obtain ⟨⟨rfl, rfl, h1, h2, h3, h4, _⟩, ht2⟩ := needs_ok ht
  clear ht hlt
  obtain ⟨ps, rfl, rfl⟩ := even_flat h1
  rw [ptsA_flat] at ht2 h2
  refine ⟨_, _, ht2, loop_run mixed ECl_ok (s_inh ps _ _) (inv_inh ps _ _) (me_inh ps _ _) re_inh (rs_inh ps _ _) k_inh (fun _ => rfl) (noLoops nl_inh) (round_inh ps _ _ h2 h3 h4) (x := 0) (Nat.zero_le _) (π := []) rfl ?_⟩
  refine ⟨rfl, rfl, ?_, wvs_spread' [0, 3, 5, 6] hlen rfl ?_⟩
  · repeat' (first | exact True.intro | exact rfl | exact wv_top _ _ | exact fun _ => rfl | assumption | exact Eq.symm (by assumption) | exact vI0 rfl | refine And.intro ?_ ?_)
  · rw [hpick]
    repeat' (first | exact True.intro | exact rfl | exact wv_top _ _ | exact fun _ => rfl | assumption | exact Eq.symm (by assumption) | exact vI0 rfl | refine And.intro ?_ ?_)
theorem Lr_inh {fn : Func} (hf : Try.prog.funcs[53]? = some fn) : LoopsGood Try.prog (lt1 e_inh) 0 (codeOf fn) := by
  obtain rfl := fn_is Try.func53 hf
  exact lt1_good lg_inh
def LIh : FuncId → LT := fun f => match f with
  | 53 => lt1 e_inh
  | _ => noL
def EIh : Env := mkE TCx R4 LIh
theorem EIh_ok : EnvOk Try.prog EIh := mkEOk TCx_ok R4_ok (by
  intro f fn hf
  unfold LIh
  split
  all_goals first | with_reducible exact Lr_inh hf | exact noL_good)
set_option maxRecDepth 100000 in
theorem tr_inhF (ps : List Pt) (x y : Int) : bodyV Try.prog EIh 30 12 53 [.row ps.length (.ints (flat ps)), .v (.agg ⟨[.int .i64 x, .int .i64 y]⟩)] = .need ((0 : Int) = (0 : Int)) (.need ((1 : Int) = (1 : Int)) (.need ((flat ps).length = ps.length * (2 : Nat)) (.need (allV (ptsA ps.length (flat ps)) = true) (.need (ps.length ≤ (20 : Nat)) (.need (ptB x y = true) (.fin (.int .i64 (lvA (ptsA ps.length (flat ps)) x y ps.length)) [])))))) := by kernel_rfl
theorem res_inh (x y : Int) (ps : List Pt) (h : allV ps = true) (h2 : ps.length ≤ 20) (h3 : ptB x y = true) : Res Try.prog 53 [.row ps.length (.ints (flat ps)), .v (.agg ⟨[.int .i64 x, .int .i64 y]⟩)] (.int .i64 (lvA ps x y ps.length)) := by
  refine bodyV_res mixed EIh_ok (m := 30) (n := 12) rfl ?_
  rw [tr_inhF]
  simp only [ptsA_flat]
  simp [Tree.ok, h, h2, h3, flat_length]
def pInh : List DArg → Option (Value × List Prop)
  | [.row m (.ints xs), .v (.agg ⟨[.int .i64 x, .int .i64 y]⟩)] => some (.int .i64 (lvA (ptsA m xs) x y m), [m * 2 ≤ xs.length, allV (ptsA m xs) = true, m ≤ 20, ptB x y = true])
  | _ => none
theorem pInh_ok {ds : List DArg} {v : Value} {C : List Prop} (h : pInh ds = some (v, C)) (hC : AllP C) : Res Try.prog 53 ds v := by
  unfold pInh at h
  split at h
  · rename_i m xs x y
    obtain ⟨rfl, rfl⟩ : _ ∧ _ := by simpa using h
    obtain ⟨_, h2⟩ := ptsA_spec hC.1
    have h0 := res_inh x y (ptsA m xs) hC.2.1 (by rw [h2]; exact hC.2.2.1) hC.2.2.2.1
    have h7 := res_pts1 (pre := []) (post := [.v (.agg ⟨[.int .i64 x, .int .i64 y]⟩)]) hC.1 h0
    rw [h2] at h7
    exact h7
  · cases h
def TIh : Tab := fun f ds => match f with
  | 53 => pInh ds
  | f => TCx f ds
theorem TIh_ok : TabOk Try.prog TIh := by
  intro f ds v C h hC
  unfold TIh at h
  (try split at h)
  all_goals first | with_reducible exact pInh_ok h hC | exact TCx_ok _ _ _ _ h hC
def ESl : Env := mkE TIh R4 (fun _ => noL)
theorem ESl_ok : EnvOk Try.prog ESl := mkEOk TIh_ok R4_ok (fun _ _ _ => noL_good)
set_option maxRecDepth 100000 in
theorem tr_sLcv (ps : List Pt) (x y : Int) : bodyV Try.prog ESl 30 12 17 [.row ps.length (.ints (flat ps)), .v (.agg ⟨[.int .i64 x, .int .i64 y]⟩)] = .need (ps.length * (2 : Nat) ≤ (List.drop (0 : Nat) (flat ps)).length) (.need (ps.length ≤ (1000000000 : Nat)) (brT (!cvxI (ptsA ps.length (List.drop 0 (flat ps)))) (.fin (.int .i64 (2)) []) (brT (!ptB x y) (.fin (.int .i64 (2)) []) (.need (ps.length * (2 : Nat) ≤ (List.drop (0 : Nat) (flat ps)).length) (.need (allV (ptsA ps.length (List.drop (0 : Nat) (flat ps))) = true) (.need (ps.length ≤ (20 : Nat)) (.need (ptB x y = true) (.fin (.int .i64 (lvA (ptsA ps.length (List.drop 0 (flat ps))) x y ps.length)) [])))))))) := by kernel_rfl
theorem res_sLcv (x y : Int) (ps : List Pt) (h : Big ps) : Res Try.prog 17 [.row ps.length (.ints (flat ps)), .v (.agg ⟨[.int .i64 x, .int .i64 y]⟩)] (.int .i64 (lcvV ps x y)) := by
  refine bodyV_res mixed ESl_ok (m := 30) (n := 12) rfl ?_
  rw [tr_sLcv]
  unfold Big at h
  simp only [List.drop_zero, ptsA_flat, flat_length]
  unfold lcvV
  rcases hs : cvxI ps with _ | _
  · simp [brT_ok, Tree.ok, h]
  · obtain ⟨h1, h2⟩ := cvx_ok hs
    rcases hc : ptB x y with _ | _ <;> simp [brT_ok, Tree.ok, h, h1, h2]
def pLcv : List DArg → Option (Value × List Prop)
  | [.row m (.ints xs), .v (.agg ⟨[.int .i64 x, .int .i64 y]⟩)] => some (.int .i64 (lcvV (ptsA m xs) x y), [m * 2 ≤ xs.length, m ≤ 1000000000])
  | _ => none
theorem pLcv_ok {f : FuncId} (H : ∀ (x y : Int) (ps : List Pt), Big ps → Res Try.prog f [.row ps.length (.ints (flat ps)), .v (.agg ⟨[.int .i64 x, .int .i64 y]⟩)] (.int .i64 (lcvV ps x y))) {ds : List DArg} {v : Value} {C : List Prop} (h : pLcv ds = some (v, C)) (hC : AllP C) : Res Try.prog f ds v := by
  unfold pLcv at h
  split at h
  · rename_i m xs x y
    obtain ⟨rfl, rfl⟩ : _ ∧ _ := by simpa using h
    obtain ⟨_, h2⟩ := ptsA_spec hC.1
    exact res_pts1 (pre := []) (post := [.v (.agg ⟨[.int .i64 x, .int .i64 y]⟩)]) hC.1 (H x y (ptsA m xs) (by unfold Big; rw [h2]; exact hC.2.1))
  · cases h
end Go.Proofs.Ytnlciknmpjikgaa
namespace Go.Proofs.Ytnlciknmpjikgaa
set_option linter.all false
open Go.RowKit
/-- Has an edge a point? -/
def hsE (ps : List Pt) (x y : Int) (j : Nat) : Bool := hasB (ps.getD j (0, 0)).1 (ps.getD j (0, 0)).2 (nxP ps j).1 (nxP ps j).2 x y
/-- Is an edge right of a point? -/
def rtE (ps : List Pt) (x y : Int) (j : Nat) : Bool :=
  !((decide (y < (ps.getD j (0, 0)).2)) == (decide (y < (nxP ps j).2))) && ((decide (y < (nxP ps j).2)) == decide (0 < crossI (ps.getD j (0, 0)).1 (ps.getD j (0, 0)).2 (nxP ps j).1 (nxP ps j).2 x y))
/-- The side after so many edges. -/
def plA (ps : List Pt) (x y : Int) : Nat → Int
  | 0 => -1
  | i + 1 => bif rtE ps x y i then 0 - plA ps x y i else plA ps x y i
theorem plA_one (ps : List Pt) (x y : Int) : ∀ i, plA ps x y i = -1 ∨ plA ps x y i = 1
  | 0 => .inl rfl
  | i + 1 => by
    have := plA_one ps x y i
    simp only [plA]
    cases rtE ps x y i <;> simp <;> omega
def noE (ps : List Pt) (x y : Int) : Bool := allQ (fun j => !(hsE ps x y j)) 0 ps.length
def locA (ps : List Pt) (x y : Int) : Int := bif noE ps x y then plA ps x y ps.length else 0
def ELo : Env := mkE TSm R4 (fun _ => noL)
theorem ELo_ok : EnvOk Try.prog ELo := mkEOk TSm_ok R4_ok (fun _ _ _ => noL_good)
noncomputable def gc_loc : Code := (rangesOf (codeOf Try.f54)).getD 0 .skip
def k_loc : Ex → List Nat := keeps [3, 4, 5, 9] [] [4]
def s_loc (ps : List Pt) (x y : Int) : Nat → St := fun i => ⟨[topV, topV, topV, .pointer (some ⟨2, 0, none⟩), .pointer (some ⟨3, 0, none⟩), .pointer (some ⟨4, 0, none⟩), topV, topV, topV, .func (.func 75) #[] #[.pointer (some ⟨5, 0, none⟩)], topV, topV, topV, topV, topV, topV, topV, topV, topV, topV, topV], [some ⟨.view, .ints (flat ps)⟩, none, some ⟨.box, .vals [.int .i64 x, .int .i64 y]⟩, some ⟨.box, .vals [.int .i64 0]⟩, some ⟨.box, .vals [.int .i64 (plA ps x y i)]⟩, some ⟨.view, .vals [.slice (some ⟨0, 0, none⟩) ps.length ps.length]⟩]⟩
def g_loc (ps : List Pt) (x y : Int) : Nat → Prop := fun i => i ≤ ps.length ∧ ∀ k, k < i → hsE ps x y k = false
def re_loc (ps : List Pt) (x y : Int) : Ex := bif noE ps x y then .normal else .ret
def rs_loc (ps : List Pt) (x y : Int) : St := bif noE ps x y then ⟨[topV, topV, topV, .pointer (some ⟨2, 0, none⟩), .pointer (some ⟨3, 0, none⟩), .pointer (some ⟨4, 0, none⟩), topV, topV, topV, topV, topV, topV, topV, topV, topV, topV, topV, topV, topV, topV, topV], [some ⟨.view, .ints (flat ps)⟩, none, some ⟨.box, .vals [.int .i64 x, .int .i64 y]⟩, some ⟨.box, .vals [.int .i64 0]⟩, some ⟨.box, .vals [.int .i64 (plA ps x y ps.length)]⟩, some ⟨.view, .vals [.slice (some ⟨0, 0, none⟩) ps.length ps.length]⟩]⟩ else ⟨[topV, topV, topV, topV, .pointer (some ⟨3, 0, none⟩), topV, topV, topV, topV, topV, topV, topV, topV, topV, topV, topV, topV, topV, topV, topV, topV], [some ⟨.view, .ints (flat ps)⟩, none, some ⟨.box, .vals [.int .i64 x, .int .i64 y]⟩, some ⟨.box, .vals [.int .i64 0]⟩, some ⟨.dead, .vals []⟩, some ⟨.view, .vals [.slice (some ⟨0, 0, none⟩) ps.length ps.length]⟩]⟩
set_option maxRecDepth 100000 in
theorem tr_loc (ps : List Pt) (x y : Int) (i : Nat) : bodyR Try.prog ELo 30 12 noL noR (asgOf gc_loc) (bodOf gc_loc) ([10, 11].zip (encE ps i)) k_loc 6 (s_loc ps x y i) = .need (ptB (ps.getD i ((0 : Int), (0 : Int))).1 (ps.getD i ((0 : Int), (0 : Int))).2 = true) (.need (ptB (ps.getD ((i + (1 : Nat)) % ps.length) ((0 : Int), (0 : Int))).1 (ps.getD ((i + (1 : Nat)) % ps.length) ((0 : Int), (0 : Int))).2 = true) (.need (ptB x y = true) (brT (hasB (ps.getD i (0, 0)).1 (ps.getD i (0, 0)).2 (ps.getD ((i + 1) % ps.length) (0, 0)).1 (ps.getD ((i + 1) % ps.length) (0, 0)).2 x y) (.leaf .ret ⟨[topV, topV, topV, topV, .pointer (some ⟨3, 0, none⟩), topV, topV, topV, topV, topV, topV, topV, topV, topV, topV, topV, topV, topV, topV, topV, topV], [some ⟨.view, .ints (flat ps)⟩, none, some ⟨.box, .vals [.int .i64 (x), .int .i64 (y)]⟩, some ⟨.box, .vals [.int .i64 (0)]⟩, some ⟨.box, .vals [.int .i64 (plA ps x y i)]⟩, some ⟨.view, .vals [.slice (some ⟨0, 0, none⟩) (ps.length) (ps.length)]⟩]⟩) (brT (!decide (y < (ps.getD i (0, 0)).2) == decide (y < (ps.getD ((i + 1) % ps.length) (0, 0)).2)) (.need (ptB (ps.getD i ((0 : Int), (0 : Int))).1 (ps.getD i ((0 : Int), (0 : Int))).2 = true) (.need (ptB (ps.getD ((i + (1 : Nat)) % ps.length) ((0 : Int), (0 : Int))).1 (ps.getD ((i + (1 : Nat)) % ps.length) ((0 : Int), (0 : Int))).2 = true) (.need (ptB x y = true) (brT (decide (y < (ps.getD ((i + 1) % ps.length) (0, 0)).2) == decide (0 < crossI (ps.getD i (0, 0)).1 (ps.getD i (0, 0)).2 (ps.getD ((i + 1) % ps.length) (0, 0)).1 (ps.getD ((i + 1) % ps.length) (0, 0)).2 x y)) (.leaf .normal ⟨[topV, topV, topV, .pointer (some ⟨2, 0, none⟩), .pointer (some ⟨3, 0, none⟩), .pointer (some ⟨4, 0, none⟩), topV, topV, topV, .func (Fn.func 75) #[] #[.pointer (some ⟨5, 0, none⟩)], topV, topV, topV, topV, topV, topV, topV, topV, topV, topV, topV], [some ⟨.view, .ints (flat ps)⟩, none, some ⟨.box, .vals [.int .i64 (x), .int .i64 (y)]⟩, some ⟨.box, .vals [.int .i64 (0)]⟩, some ⟨.box, .vals [.int .i64 (IntKind.i64.wrap (0 - plA ps x y i))]⟩, some ⟨.view, .vals [.slice (some ⟨0, 0, none⟩) (ps.length) (ps.length)]⟩]⟩) (.leaf .normal ⟨[topV, topV, topV, .pointer (some ⟨2, 0, none⟩), .pointer (some ⟨3, 0, none⟩), .pointer (some ⟨4, 0, none⟩), topV, topV, topV, .func (Fn.func 75) #[] #[.pointer (some ⟨5, 0, none⟩)], topV, topV, topV, topV, topV, topV, topV, topV, topV, topV, topV], [some ⟨.view, .ints (flat ps)⟩, none, some ⟨.box, .vals [.int .i64 (x), .int .i64 (y)]⟩, some ⟨.box, .vals [.int .i64 (0)]⟩, some ⟨.box, .vals [.int .i64 (plA ps x y i)]⟩, some ⟨.view, .vals [.slice (some ⟨0, 0, none⟩) (ps.length) (ps.length)]⟩]⟩))))) (.leaf .normal ⟨[topV, topV, topV, .pointer (some ⟨2, 0, none⟩), .pointer (some ⟨3, 0, none⟩), .pointer (some ⟨4, 0, none⟩), topV, topV, topV, .func (Fn.func 75) #[] #[.pointer (some ⟨5, 0, none⟩)], topV, topV, topV, topV, topV, topV, topV, topV, topV, topV, topV], [some ⟨.view, .ints (flat ps)⟩, none, some ⟨.box, .vals [.int .i64 (x), .int .i64 (y)]⟩, some ⟨.box, .vals [.int .i64 (0)]⟩, some ⟨.box, .vals [.int .i64 (plA ps x y i)]⟩, some ⟨.view, .vals [.slice (some ⟨0, 0, none⟩) (ps.length) (ps.length)]⟩]⟩))))) := by kernel_rfl
/-- A round of this loop. -/
def Round_loc (ps : List Pt) (x y : Int) : Prop := ∀ i : Nat, g_loc ps x y i → i < (ps).length → (bodyR Try.prog ELo 30 12 noL noR (asgOf gc_loc) (bodOf gc_loc) ([10, 11].zip (encE ps i)) k_loc 6 (s_loc ps x y i)).ok (RoundEndR 6 (s_loc ps x y) (g_loc ps x y) (re_loc ps x y) (rs_loc ps x y) i) (fun _ _ => False)
set_option maxRecDepth 100000 in
theorem gcode_loc : gc_loc = .rangeFunc (.tmp 9) ([10, 11] : List Nat).toArray (asgOf gc_loc) (bodOf gc_loc) := by kernel_rfl
def e_loc (s : St) (k : Ex → St → Tree) : Option Tree := match Nat.beq s.tmps.length 21, pickL s.tmps [3, 4, 5, 9], s.mem with
  | true, [.pointer (some ⟨2, 0, none⟩), .pointer (some ⟨3, 0, none⟩), .pointer (some ⟨4, 0, none⟩), .func (.func 75) ⟨[]⟩ ⟨[.pointer (some ⟨5, 0, none⟩)]⟩], [some ⟨.view, .ints xs⟩, none, some ⟨.box, .vals [.int .i64 x, .int .i64 y]⟩, some ⟨.box, .vals [.int .i64 0]⟩, some ⟨.box, .vals [.int .i64 p0]⟩, some ⟨.box, .vals [.slice (some ⟨0, 0, none⟩) n _]⟩] => some (needs [p0 = -1, xs.length = n * 2, allV (ptsA n xs) = true, n ≤ 20, ptB x y = true] (brT (noE (ptsA n xs) x y) (k .normal ⟨[topV, topV, topV, .pointer (some ⟨2, 0, none⟩), .pointer (some ⟨3, 0, none⟩), .pointer (some ⟨4, 0, none⟩), topV, topV, topV, topV, topV, topV, topV, topV, topV, topV, topV, topV, topV, topV, topV], [some ⟨.view, .ints xs⟩, none, some ⟨.box, .vals [.int .i64 x, .int .i64 y]⟩, some ⟨.box, .vals [.int .i64 0]⟩, some ⟨.box, .vals [.int .i64 (plA (ptsA n xs) x y n)]⟩, some ⟨.view, .vals [.slice (some ⟨0, 0, none⟩) n n]⟩]⟩) (k .ret ⟨[topV, topV, topV, topV, .pointer (some ⟨3, 0, none⟩), topV, topV, topV, topV, topV, topV, topV, topV, topV, topV, topV, topV, topV, topV, topV, topV], [some ⟨.view, .ints xs⟩, none, some ⟨.box, .vals [.int .i64 x, .int .i64 y]⟩, some ⟨.box, .vals [.int .i64 0]⟩, some ⟨.dead, .vals []⟩, some ⟨.view, .vals [.slice (some ⟨0, 0, none⟩) n n]⟩]⟩)))
  | _, _, _ => none
theorem loc_all {ps : List Pt} {x y : Int} (h : g_loc ps x y ps.length) : noE ps x y = true := allQ_all _ _ fun k _ h2 => by rw [h.2 k (by omega)]; rfl
set_option maxRecDepth 100000 in
theorem round_loc (ps : List Pt) (x y : Int) (hv : allV ps = true) (h : ps.length ≤ 20) (hp : ptB x y = true) : Round_loc ps x y := by
  rintro i ⟨_, hg⟩ hi
  rw [tr_loc]
  have nxt : hsE ps x y i = false → g_loc ps x y (i + 1) := fun ho => ⟨by omega, fun k hk => by
    rcases Nat.lt_or_ge k i with h1 | h1
    · exact hg k h1
    · obtain rfl : k = i := by omega
      exact ho⟩
  have hm := nx_lt hi
  have w : IntKind.i64.wrap (0 - plA ps x y i) = 0 - plA ps x y i := wr (by have := plA_one ps x y i; omega)
  rw [w]
  refine ⟨pt_get hv hi, pt_get hv hm, hp, brT_ok.2 ⟨fun q => ?_, fun q => ?_⟩⟩
  · have q : hsE ps x y i = true := q
    have hs : noE ps x y = false := allQ_no hi (by show (!(hsE ps x y i)) = false; rw [q]; rfl)
    refine ⟨by unfold re_loc; rw [hs]; rfl, [], ?_⟩
    unfold rs_loc
    rw [hs]
    refine ⟨rfl, rfl, ?_, ?_⟩ <;> repeat' (first | exact True.intro | exact rfl | exact wv_top _ _ | exact fun _ => rfl | refine And.intro ?_ ?_)
  · have q : hsE ps x y i = false := q
    have yes : rtE ps x y i = true → plA ps x y (i + 1) = 0 - plA ps x y i := fun hr => by simp only [plA]; rw [hr]; rfl
    have no : rtE ps x y i = false → plA ps x y (i + 1) = plA ps x y i := fun hr => by simp only [plA]; rw [hr]; rfl
    refine brT_ok.2 ⟨fun q2 => ⟨pt_get hv hi, pt_get hv hm, hp, brT_ok.2 ⟨fun q3 => ?_, fun q3 => ?_⟩⟩, fun q2 => ?_⟩
    · have e := yes (by unfold rtE nxP; rw [q2, q3]; rfl)
      refine ⟨nxt q, [], ?_⟩
      unfold s_loc
      simp only [e]
      refine ⟨rfl, rfl, ?_, ?_⟩ <;> repeat' (first | exact True.intro | exact rfl | exact wv_top _ _ | exact fun _ => rfl | refine And.intro ?_ ?_)
    · have e := no (by unfold rtE nxP; rw [q2, q3]; rfl)
      refine ⟨nxt q, [], ?_⟩
      unfold s_loc
      simp only [e]
      refine ⟨rfl, rfl, ?_, ?_⟩ <;> repeat' (first | exact True.intro | exact rfl | exact wv_top _ _ | exact fun _ => rfl | refine And.intro ?_ ?_)
    · have e := no (by unfold rtE nxP; rw [q2]; rfl)
      refine ⟨nxt q, [], ?_⟩
      unfold s_loc
      simp only [e]
      refine ⟨rfl, rfl, ?_, ?_⟩ <;> repeat' (first | exact True.intro | exact rfl | exact wv_top _ _ | exact fun _ => rfl | refine And.intro ?_ ?_)
set_option maxRecDepth 100000 in
theorem lg_loc : RangeE Try.prog e_loc gc_loc := by
  intro s k t F H hlt ht
  unfold e_loc at hlt
  split at hlt
  rotate_left
  · cases hlt
  rename_i hlen hpick hmem
  obtain ⟨tmps, mem⟩ := s
  simp only at hlen hpick hmem
  subst hmem
  obtain rfl := Option.some.inj hlt
  obtain ⟨⟨rfl, h1, h2, h3, h4, _⟩, ht2⟩ := needs_ok ht
  clear ht hlt
  obtain ⟨ps, rfl, rfl⟩ := even_flat h1
  rw [ptsA_flat] at ht2 h2
  refine ⟨re_loc ps _ _, rs_loc ps _ _, pick2k ht2, ?_⟩
  rw [gcode_loc]
  refine range_det (enc := encE ps) (len := (ps).length) (St_of := s_loc ps _ _) (Good := g_loc ps _ _) (N := 6) (M := 6) (Kn := [0, 5]) (cap := [.pointer (some ⟨5, 0, none⟩)]) (kf := (k_loc .normal)) (π := []) (fun _ => rfl) (fun _ => rfl) (fun i hg hlt => bodyR_ok mixed ELo_ok (noL_good) (noR_good) (round_loc ps _ _ h2 h3 h4 i hg hlt)) (entersB_res (by kernel_rfl)).1 rfl ?_ (fun ρ0 ρ B w lb h1 h2 => ed_iter ps (by omega) (s := (s_loc ps _ _ 0).fs) (nb := 5) (nr := 0) (c := (ps).length) (Kn := [0, 5]) rfl rfl (by decide) (by decide) ρ0 ρ B w lb h1 h2) ?_ rfl (by decide) ?_ ⟨Nat.zero_le _, fun k hk => by omega⟩
  · intro n hn b hb
    simp only [List.mem_cons, List.not_mem_nil, or_false] at hn
    rcases hn with rfl | rfl <;> (obtain rfl := Option.some.inj hb; rfl)
  · intro hg
    have hq := loc_all hg
    refine ⟨by unfold re_loc; rw [hq]; rfl, [], ?_⟩
    unfold rs_loc
    rw [hq]
    refine ⟨rfl, rfl, ?_, ?_⟩ <;> repeat' (first | exact True.intro | exact rfl | exact wv_top _ _ | exact fun _ => rfl | refine And.intro ?_ ?_)
  · refine ⟨rfl, rfl, ?_, wvs_spread' [3, 4, 5, 9] hlen rfl ?_⟩
    · repeat' (first | exact True.intro | exact rfl | exact wv_top _ _ | exact fun _ => rfl | assumption | exact Eq.symm (by assumption) | exact vI0 rfl | refine And.intro ?_ ?_)
    · rw [show pickL (viewS [0, 5] ⟨tmps, _⟩).tmps [3, 4, 5, 9] = pickL tmps [3, 4, 5, 9] from rfl, hpick]
      repeat' (first | exact True.intro | exact rfl | exact wv_top _ _ | exact fun _ => rfl | assumption | exact Eq.symm (by assumption) | exact vI0 rfl | refine And.intro ?_ ?_)
theorem Gr_loc {fn : Func} (hf : Try.prog.funcs[54]? = some fn) : RangesGood Try.prog (rt1 9 e_loc) (codeOf fn) := by
  obtain rfl := fn_is Try.func54 hf
  exact rt1_good (by kernel_rfl) lg_loc
def GLo : FuncId → RT := fun f => match f with
  | 54 => rt1 9 e_loc
  | _ => noR
def ELg : Env := withG ELo GLo
theorem ELg_ok : EnvOk Try.prog ELg := withG_ok ELo_ok (by
  intro f fn hf
  unfold GLo
  split
  all_goals first | with_reducible exact Gr_loc hf | exact noR_good)
set_option maxRecDepth 100000 in
theorem tr_iLoc (ps : List Pt) (x y : Int) : bodyV Try.prog ELg 30 12 54 [.row ps.length (.ints (flat ps)), .v (.agg #[iv x, iv y])] = .need ((-1 : Int) = (-1 : Int)) (.need ((flat ps).length = ps.length * (2 : Nat)) (.need (allV (ptsA ps.length (flat ps)) = true) (.need (ps.length ≤ (20 : Nat)) (.need (ptB x y = true) (brT (noE (ptsA ps.length (flat ps)) x y) (.fin (.int .i64 (plA (ptsA ps.length (flat ps)) x y ps.length)) []) (.fin (.int .i64 (0)) [])))))) := by kernel_rfl
theorem res_iLoc {ps : List Pt} {x y : Int} (hv : allV ps = true) (h : ps.length ≤ 20) (hp : ptB x y = true) : Res Try.prog 54 [.row ps.length (.ints (flat ps)), .v (.agg #[iv x, iv y])] (iv (locA ps x y)) := by
  refine bodyV_res mixed ELg_ok (m := 30) (n := 12) rfl ?_
  rw [tr_iLoc]
  simp only [ptsA_flat]
  unfold locA
  rcases hn : noE ps x y with _ | _
  all_goals exact ⟨trivial, flat_length ps, hv, h, hp, rfl⟩
def pLcA : List DArg → Option (Value × List Prop)
  | [.row m (.ints xs), .v (.agg ⟨[.int .i64 x, .int .i64 y]⟩)] => some (iv (locA (ptsA m xs) x y), [m * 2 ≤ xs.length, allV (ptsA m xs) = true, m ≤ 20, ptB x y = true])
  | _ => none
theorem pLcA_ok {f : FuncId} (H : ∀ {ps : List Pt} {x y : Int}, allV ps = true → ps.length ≤ 20 → ptB x y = true → Res Try.prog f [.row ps.length (.ints (flat ps)), .v (.agg #[iv x, iv y])] (iv (locA ps x y))) {ds : List DArg} {v : Value} {C : List Prop} (h : pLcA ds = some (v, C)) (hC : AllP C) : Res Try.prog f ds v := by
  unfold pLcA at h
  split at h
  · rename_i m xs x y
    obtain ⟨rfl, rfl⟩ : _ ∧ _ := by simpa using h
    obtain ⟨_, h2⟩ := ptsA_spec hC.1
    exact res_pts1 (pre := []) (post := [_]) hC.1 (H (ps := ptsA m xs) hC.2.1 (by rw [h2]; exact hC.2.2.1) hC.2.2.2.1)
  · cases h
def TLc : Tab := fun f ds => match f with
  | 54 => pLcA ds
  | f => TSm f ds
theorem TLc_ok : TabOk Try.prog TLc := by
  intro f ds v C h hC
  unfold TLc at h
  (try split at h)
  all_goals first | with_reducible exact pLcA_ok res_iLoc h hC | with_reducible exact pLcA_ok res_sLoc h hC | exact TSm_ok _ _ _ _ h hC
def ELc : Env := mkE TLc R4 (fun _ => noL)
theorem ELc_ok : EnvOk Try.prog ELc := mkEOk TLc_ok R4_ok (fun _ _ _ => noL_good)
/-- What Locate answers. -/
def locV (ps : List Pt) (x y : Int) : Int := bif issI ps && ptB x y then locA ps x y else 2
set_option maxRecDepth 100000 in
theorem tr_iLcV (ps : List Pt) (x y : Int) : bodyV Try.prog ELc 30 12 18 [.row ps.length (.ints (flat ps)), .v (.agg #[iv x, iv y])] = .need (ps.length * (2 : Nat) ≤ (List.drop (0 : Nat) (flat ps)).length) (.need (ps.length ≤ (1000000000 : Nat)) (brT (!issI (ptsA ps.length (List.drop 0 (flat ps)))) (.fin (.int .i64 (2)) []) (brT (!ptB x y) (.fin (.int .i64 (2)) []) (.need (ps.length * (2 : Nat) ≤ (List.drop (0 : Nat) (flat ps)).length) (.need (allV (ptsA ps.length (List.drop (0 : Nat) (flat ps))) = true) (.need (ps.length ≤ (20 : Nat)) (.need (ptB x y = true) (.fin (.int .i64 (locA (ptsA ps.length (List.drop 0 (flat ps))) x y)) [])))))))) := by kernel_rfl
theorem issI_ok2 {ps : List Pt} (h : issI ps = true) : allV ps = true ∧ ps.length ≤ 20 := by
  unfold issI okL at h
  simp only [Bool.and_eq_true, decide_eq_true_eq] at h
  exact ⟨h.1.2.1, h.1.2.2⟩
theorem res_iLcV (ps : List Pt) (x y : Int) (h : Big ps) : Res Try.prog 18 [.row ps.length (.ints (flat ps)), .v (.agg #[iv x, iv y])] (iv (locV ps x y)) := by
  refine bodyV_res mixed ELc_ok (m := 30) (n := 12) rfl ?_
  rw [tr_iLcV]
  unfold Big at h
  simp only [List.drop_zero, ptsA_flat, flat_length]
  unfold locV
  rcases hs : issI ps with _ | _
  · simp [brT_ok, Tree.ok, h]
  · obtain ⟨h1, h2⟩ := issI_ok2 hs
    rcases hp : ptB x y with _ | _ <;> simp [brT_ok, Tree.ok, h, h1, h2]
def pPz (g : List Pt → Int → Int → Int) : List DArg → Option (Value × List Prop)
  | [.row m (.ints xs), .v (.agg ⟨[.int .i64 x, .int .i64 y]⟩)] => some (iv (g (ptsA m xs) x y), [m * 2 ≤ xs.length, m ≤ 1000000000])
  | _ => none
theorem pPz_ok {f : FuncId} {g : List Pt → Int → Int → Int} (h : ∀ (ps : List Pt) (x y : Int), Big ps → Res Try.prog f [.row ps.length (.ints (flat ps)), .v (.agg #[iv x, iv y])] (iv (g ps x y))) {ds : List DArg} {v : Value} {C : List Prop} (hd : pPz g ds = some (v, C)) (hC : AllP C) : Res Try.prog f ds v := by
  unfold pPz at hd
  split at hd
  · rename_i m xs x y
    obtain ⟨rfl, rfl⟩ : _ ∧ _ := by simpa using hd
    obtain ⟨_, h2⟩ := ptsA_spec hC.1
    exact res_pts1 (pre := []) (post := [_]) hC.1 (h (ptsA m xs) x y (by unfold Big; rw [h2]; exact hC.2.1))
  · cases hd
def TLd : Tab := fun f ds => match f with
  | 18 => pPz locV ds
  | f => TSm f ds
theorem TLd_ok : TabOk Try.prog TLd := by
  intro f ds v C h hC
  unfold TLd at h
  (try split at h)
  all_goals first | with_reducible exact pPz_ok res_iLcV h hC | with_reducible exact pPz_ok res_sLcV h hC | exact TSm_ok _ _ _ _ h hC
end Go.Proofs.Ytnlciknmpjikgaa
namespace Go.Proofs.Ytnlciknmpjikgaa
set_option linter.all false
open Go.RowKit
theorem pl_eq (ps : List Pt) (x y : Int) : ∀ i, plF ps x y i = plA ps x y i
  | 0 => rfl
  | i + 1 => by
    show (bif rtE ps x y i then 0 - plF ps x y i else plF ps x y i) = bif rtE ps x y i then 0 - plA ps x y i else plA ps x y i
    rw [pl_eq ps x y i]
theorem lv_le {ps : List Pt} {x y : Int} : ∀ n, lvA ps x y n ≤ 1 ∧ ∀ j, j < n → lvA ps x y n ≤ lvE ps x y j
  | 0 => ⟨Int.le_refl _, fun j hj => absurd hj (by omega)⟩
  | n + 1 => by
    obtain ⟨h1, h2⟩ := lv_le (ps := ps) (x := x) (y := y) n
    simp only [lvA]
    refine ⟨by split <;> omega, fun j hj => ?_⟩
    rcases Nat.lt_or_ge j n with h | h
    · have := h2 j h
      split <;> omega
    · obtain rfl : j = n := by omega
      split <;> omega
theorem lv_at {ps : List Pt} {x y : Int} {k : Int} (hk : k ≤ 1) : ∀ n, (∀ j, j < n → k ≤ lvE ps x y j) → k ≤ lvA ps x y n
  | 0, _ => hk
  | n + 1, h => by
    have h1 := lv_at (ps := ps) (x := x) (y := y) hk n fun j hj => h j (by omega)
    have h2 := h n (by omega)
    simp only [lvA]
    split <;> omega
theorem lvE_s (ps : List Pt) (x y : Int) (j : Nat) : (crP (ps.getD j (0, 0)) (nxP ps j) (x, y) < 0 ∧ lvE ps x y j = -1) ∨ (crP (ps.getD j (0, 0)) (nxP ps j) (x, y) = 0 ∧ lvE ps x y j = 0) ∨ (0 < crP (ps.getD j (0, 0)) (nxP ps j) (x, y) ∧ lvE ps x y j = 1) := by
  unfold lvE cmpI crP
  simp only
  split
  · left; omega
  · split
    · right; right; omega
    · right; left; omega
/-- A point on a segment is on the side of a line on which its ends are. -/
theorem seg_nn {a b q u w : Pt} (h : hasB a.1 a.2 b.1 b.2 q.1 q.2 = true) (ha : 0 ≤ crP u w a) (hb : 0 ≤ crP u w b) : 0 ≤ crP u w q := by
  obtain ⟨ax, ay⟩ := a
  obtain ⟨bx, b_y⟩ := b
  obtain ⟨cx, cy⟩ := q
  unfold hasB at h
  simp only [Bool.and_eq_true, beq_iff_eq, decide_eq_true_eq] at h
  obtain ⟨e0, e1⟩ := h
  rcases Int.lt_or_le (crP u w (cx, cy)) 0 with hn | hn
  rotate_left
  · exact hn
  exfalso
  have k1 : (crP u w (ax, ay) - crP u w (cx, cy)) * ((ax - cx) * (bx - cx) + (ay - cy) * (b_y - cy)) = (crP u w (bx, b_y) - crP u w (cx, cy)) * ((ax - cx) * (ax - cx) + (ay - cy) * (ay - cy)) := by
    unfold crP crossI
    simp only
    grind
  have gA : ax - cx ≠ 0 ∨ ay - cy ≠ 0 := by
    refine Classical.byContradiction fun hx => ?_
    have h1 : ax = cx := by omega
    have h2 : ay = cy := by omega
    subst h1; subst h2
    omega
  have sqa := mul_sq (ax - cx)
  have sqb := mul_sq (ay - cy)
  have pos : 0 < (ax - cx) * (ax - cx) + (ay - cy) * (ay - cy) := by
    rcases gA with g | g
    · have : (ax - cx) * (ax - cx) ≠ 0 := fun e => by rcases Int.mul_eq_zero.1 e with h | h <;> exact g h
      omega
    · have : (ay - cy) * (ay - cy) ≠ 0 := fun e => by rcases Int.mul_eq_zero.1 e with h | h <;> exact g h
      omega
  have q1 := Int.mul_pos (show 0 < crP u w (bx, b_y) - crP u w (cx, cy) by omega) pos
  have q2 := Int.mul_nonneg (show 0 ≤ crP u w (ax, ay) - crP u w (cx, cy) by omega) (show 0 ≤ -((ax - cx) * (bx - cx) + (ay - cy) * (b_y - cy)) by omega)
  rw [Int.mul_neg] at q2
  omega
/-- Both ways to locate a point in a convex polygon agree. -/
theorem loc_cvx {p : List Pt} {x y : Int} (hc : cvxI p = true) (hp : ptB x y = true) : locV p x y = lvA p x y p.length := by
  have H := cvx_cvh hc
  obtain ⟨h3, ho, hv, hs, hT⟩ := cvx_parts hc
  have hi : issI p = true := by
    unfold cvxI at hc
    simp only [Bool.and_eq_true] at hc
    exact hc.1
  unfold locV
  rw [hi, hp]
  simp only [Bool.and_self, cond_true]
  unfold locA
  rcases hno : noE p x y with _ | _
  · simp only [cond_false]
    have : ¬ ∀ j, j < p.length → hsE p x y j = false := fun h => by
      have : noE p x y = true := allQ_iff.2 fun j hj => by rw [h j hj]; rfl
      rw [hno] at this
      cases this
    obtain ⟨j, hj, hh⟩ : ∃ j, j < p.length ∧ hsE p x y j = true := by
      refine Classical.byContradiction fun hx => this fun j hj => ?_
      rcases h : hsE p x y j with _ | _
      · rfl
      · exact absurd ⟨j, hj, h⟩ hx
    have up : lvA p x y p.length ≤ 0 := by
      have h1 := (lv_le (ps := p) (x := x) (y := y) p.length).2 j hj
      have e : crP (p.getD j (0, 0)) (nxP p j) (x, y) = 0 := by
        have hh := hh
        unfold hsE hasB at hh
        simp only [Bool.and_eq_true, beq_iff_eq, decide_eq_true_eq] at hh
        have := hh.1
        unfold crP crossI
        simp only
        grind
      rcases lvE_s p x y j with h | h | h <;> omega
    have dn : 0 ≤ lvA p x y p.length := lv_at (by decide) _ fun i hi => by
      have ma : p.getD j (0, 0) ∈ p := getD_mem' hj
      have mb : nxP p j ∈ p := getD_mem' (nx_lt hj)
      have := seg_nn (q := (x, y)) hh (cv_nn H hi ma) (cv_nn H hi mb)
      rcases lvE_s p x y i with h | h | h <;> omega
    omega
  · simp only [cond_true]
    have hf : ∀ j, j < p.length → hsF p x y j = false := fun j hj => by
      have := allQ_iff.1 hno j hj
      have : hsE p x y j = false := by simpa using this
      exact this
    rcases in_ring (q := (x, y)) H hf with ⟨h1, h2⟩ | ⟨h1, h2⟩
    · rw [← pl_eq, h1]
      have : 1 ≤ lvA p x y p.length := lv_at (Int.le_refl _) _ fun j hj => by
        have h4 := h2 j hj
        rcases lvE_s p x y j with h | h | h
        · omega
        · exfalso
          obtain ⟨i, hi', i1, i2, i3⟩ := pv_ix h3 hj
          have mj : (j + 1) % p.length < p.length := Nat.mod_lt _ (by omega)
          have ei : nxP p i = p.getD j (0, 0) := by unfold nxP; rw [i1]
          have T2 := hT i hi'
          have ei2 : nx2 p i = nxP p j := by unfold nx2 nxP; rw [i2]
          rw [ei, ei2] at T2
          have S2 := h2 i hi'
          rw [ei] at S2
          have S1 := h2 _ mj
          have en : nxP p ((j + 1) % p.length) = nx2 p j := by unfold nxP nx2; rw [Nat.mod_add_mod]
          rw [en] at S1
          have := on_seg h.1 (hT j hj) S1 T2 S2
          have g := hf j hj
          unfold hsF at g
          rw [this] at g
          cases g
        · omega
      have := (lv_le (ps := p) (x := x) (y := y) p.length).1
      omega
    · rw [← pl_eq, h1]
      obtain ⟨j, hj, hn⟩ : ∃ j, j < p.length ∧ crP (p.getD j (0, 0)) (nxP p j) (x, y) < 0 := by
        refine Classical.byContradiction fun hx => h2 fun j hj => ?_
        rcases Int.lt_or_le (crP (p.getD j (0, 0)) (nxP p j) (x, y)) 0 with h | h
        · exact absurd ⟨j, hj, h⟩ hx
        · exact h
      have h4 := (lv_le (ps := p) (x := x) (y := y) p.length).2 j hj
      have h5 : -1 ≤ lvA p x y p.length := lv_at (by decide) _ fun i _ => by
        rcases lvE_s p x y i with h | h | h <;> omega
      rcases lvE_s p x y j with h | h | h <;> omega
end Go.Proofs.Ytnlciknmpjikgaa
namespace Go.Proofs.Ytnlciknmpjikgaa
set_option linter.all false
open Go.RowKit
def TLq : Tab := fun f ds => match f with
  | 16 => pLcv ds
  | 17 => pLcv ds
  | f => TLd f ds
theorem TLq_ok : TabOk Try.prog TLq := by
  intro f ds v C h hC
  unfold TLq at h
  (try split at h)
  all_goals first | with_reducible exact pLcv_ok res_iLcv h hC | with_reducible exact pLcv_ok res_sLcv h hC | exact TLd_ok _ _ _ _ h hC
def ELq : Env := mkE TLq RDc (fun _ => noL)
theorem ELq_ok : EnvOk Try.prog ELq := mkEOk TLq_ok RDc_ok (fun _ _ _ => noL_good)
set_option maxRecDepth 100000 in
theorem tr_lLc (bs : List Int) : bodyV Try.prog ELq 30 12 4 [.row bs.length (.bytes bs)] = brT (decide (1048576 < (↑bs.length : Int))) (.fin (.bool (true)) []) (.need (Bytes (List.drop (0 : Nat) bs)) (.need (bs.length ≤ (List.drop (0 : Nat) bs).length) (.need ((dcL1 (List.drop (0 : Nat) bs) (rdL bs.length)).length * (2 : Nat) ≤ (List.drop (0 : Nat) (flat (dcL1 (List.drop (0 : Nat) bs) (rdL bs.length)))).length) (.need ((dcL1 (List.drop (0 : Nat) bs) (rdL bs.length)).length ≤ (1000000000 : Nat)) (.need ((dcL1 (List.drop (0 : Nat) bs) (rdL bs.length)).length * (2 : Nat) ≤ (List.drop (0 : Nat) (flat (dcL1 (List.drop (0 : Nat) bs) (rdL bs.length)))).length) (.need ((dcL1 (List.drop (0 : Nat) bs) (rdL bs.length)).length ≤ (1000000000 : Nat)) (brT (!lcvV (ptsA (dcL1 (List.drop 0 bs) (rdL bs.length)).length (List.drop 0 (flat (dcL1 (List.drop 0 bs) (rdL bs.length))))) (apX (List.drop 0 bs) (rdL bs.length) (dcR (List.drop 0 bs) (rdL bs.length))) (apY (List.drop 0 bs) (rdL bs.length) (dcR (List.drop 0 bs) (rdL bs.length))) == lcvV (ptsA (dcL1 (List.drop 0 bs) (rdL bs.length)).length (List.drop 0 (flat (dcL1 (List.drop 0 bs) (rdL bs.length))))) (apX (List.drop 0 bs) (rdL bs.length) (dcR (List.drop 0 bs) (rdL bs.length))) (apY (List.drop 0 bs) (rdL bs.length) (dcR (List.drop 0 bs) (rdL bs.length)))) (.need ((dcL1 (List.drop (0 : Nat) bs) (rdL bs.length)).length * (2 : Nat) ≤ (List.drop (0 : Nat) (flat (dcL1 (List.drop (0 : Nat) bs) (rdL bs.length)))).length) (.need ((dcL1 (List.drop (0 : Nat) bs) (rdL bs.length)).length ≤ (1000000000 : Nat)) (.fin (.bool (lcvV (ptsA (dcL1 (List.drop 0 bs) (rdL bs.length)).length (List.drop 0 (flat (dcL1 (List.drop 0 bs) (rdL bs.length))))) (apX (List.drop 0 bs) (rdL bs.length) (dcR (List.drop 0 bs) (rdL bs.length))) (apY (List.drop 0 bs) (rdL bs.length) (dcR (List.drop 0 bs) (rdL bs.length))) == lcvV (ptsA (dcL1 (List.drop 0 bs) (rdL bs.length)).length (List.drop 0 (flat (dcL1 (List.drop 0 bs) (rdL bs.length))))) (apX (List.drop 0 bs) (rdL bs.length) (dcR (List.drop 0 bs) (rdL bs.length))) (apY (List.drop 0 bs) (rdL bs.length) (dcR (List.drop 0 bs) (rdL bs.length))))) []))) (brT (lcvV (ptsA (dcL1 (List.drop 0 bs) (rdL bs.length)).length (List.drop 0 (flat (dcL1 (List.drop 0 bs) (rdL bs.length))))) (apX (List.drop 0 bs) (rdL bs.length) (dcR (List.drop 0 bs) (rdL bs.length))) (apY (List.drop 0 bs) (rdL bs.length) (dcR (List.drop 0 bs) (rdL bs.length))) == 2) (.need ((dcL1 (List.drop (0 : Nat) bs) (rdL bs.length)).length * (2 : Nat) ≤ (List.drop (0 : Nat) (flat (dcL1 (List.drop (0 : Nat) bs) (rdL bs.length)))).length) (.need ((dcL1 (List.drop (0 : Nat) bs) (rdL bs.length)).length ≤ (1000000000 : Nat)) (.fin (.bool (lcvV (ptsA (dcL1 (List.drop 0 bs) (rdL bs.length)).length (List.drop 0 (flat (dcL1 (List.drop 0 bs) (rdL bs.length))))) (apX (List.drop 0 bs) (rdL bs.length) (dcR (List.drop 0 bs) (rdL bs.length))) (apY (List.drop 0 bs) (rdL bs.length) (dcR (List.drop 0 bs) (rdL bs.length))) == lcvV (ptsA (dcL1 (List.drop 0 bs) (rdL bs.length)).length (List.drop 0 (flat (dcL1 (List.drop 0 bs) (rdL bs.length))))) (apX (List.drop 0 bs) (rdL bs.length) (dcR (List.drop 0 bs) (rdL bs.length))) (apY (List.drop 0 bs) (rdL bs.length) (dcR (List.drop 0 bs) (rdL bs.length))))) []))) (.need ((dcL1 (List.drop (0 : Nat) bs) (rdL bs.length)).length * (2 : Nat) ≤ (List.drop (0 : Nat) (flat (dcL1 (List.drop (0 : Nat) bs) (rdL bs.length)))).length) (.need ((dcL1 (List.drop (0 : Nat) bs) (rdL bs.length)).length ≤ (1000000000 : Nat)) (.fin (.bool (locV (ptsA (dcL1 (List.drop 0 bs) (rdL bs.length)).length (List.drop 0 (flat (dcL1 (List.drop 0 bs) (rdL bs.length))))) (apX (List.drop 0 bs) (rdL bs.length) (dcR (List.drop 0 bs) (rdL bs.length))) (apY (List.drop 0 bs) (rdL bs.length) (dcR (List.drop 0 bs) (rdL bs.length))) == lcvV (ptsA (dcL1 (List.drop 0 bs) (rdL bs.length)).length (List.drop 0 (flat (dcL1 (List.drop 0 bs) (rdL bs.length))))) (apX (List.drop 0 bs) (rdL bs.length) (dcR (List.drop 0 bs) (rdL bs.length))) (apY (List.drop 0 bs) (rdL bs.length) (dcR (List.drop 0 bs) (rdL bs.length))))) []))))))))))) := by kernel_rfl
theorem law_llc (bs : List Int) (hb : Bytes bs) (_ : bs.length ≤ maxLen) : Res Try.prog 4 [.row bs.length (.bytes bs)] (.bool true) := by
  refine bodyV_res mixed ELq_ok (m := 30) (n := 12) rfl ?_
  rw [tr_lLc]
  simp only [List.drop_zero, ptsA_flat, flat_length]
  have hl := dcL1_len hb (l := rdL bs.length) (by unfold rdL; omega) (by unfold rdL; omega)
  generalize dcL1 bs (rdL bs.length) = p at *
  generalize apX bs (rdL bs.length) (dcR bs (rdL bs.length)) = x at *
  generalize apY bs (rdL bs.length) (dcR bs (rdL bs.length)) = y at *
  have key : lcvV p x y ≠ 2 → locV p x y = lcvV p x y := fun h => by
    rcases hc : cvxI p with _ | _
    · exact absurd (by unfold lcvV; rw [hc]; rfl) h
    rcases hp : ptB x y with _ | _
    · exact absurd (by unfold lcvV; rw [hc, hp]; rfl) h
    rw [loc_cvx hc hp]
    unfold lcvV
    rw [hc, hp]
    rfl
  refine brT_ok.2 ⟨fun _ => rfl, fun _ => ?_⟩
  by_cases h2 : lcvV p x y = 2
  · simp only [h2, beq_self_eq_true, bne_self_eq_false, Bool.not_true, brT_t, brT_f]
    repeat' (first | exact True.intro | assumption | omega | exact rfl | refine And.intro ?_ ?_)
  · have e : (lcvV p x y == 2) = false := by simpa using h2
    simp only [e, key h2, beq_self_eq_true, bne_self_eq_false, Bool.not_true, brT_t, brT_f]
    repeat' (first | exact True.intro | assumption | omega | exact rfl | refine And.intro ?_ ?_)
end Go.Proofs.Ytnlciknmpjikgaa
