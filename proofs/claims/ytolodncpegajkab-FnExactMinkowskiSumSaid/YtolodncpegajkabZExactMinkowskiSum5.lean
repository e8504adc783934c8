/-
  Texts that the proof needs, merged. Written by an AI agent.
-/
import Derived.Orders
import Derived.Below
import Derived.OrdersIn
import Derived.Deep.LoopGhost
import Derived.WalkKit
import Derived.Laws.CopyRow
import Derived.Laws.AppendOwn
import Derived.Laws.Slices
import Derived.Laws.MakeOwn
import Derived.Test.YtolodncpegajkabRows
import Derived.ProofKit
import Derived.OpenShut
import Derived.Carry
import Derived.IntWalk
import Derived.Test.YtolodncpegajkabProg
import Derived.WalkSpells
import Derived.WalkLawsBesides
import Derived.Lib.Hide
import Derived.Deep.QuietTactic
import Derived.BigQuiet
import Derived.KernelRfl
import Derived.Deep.RegionHeld3
import Derived.LoopTactic
import Derived.Laws.StructEq
import Derived.Laws.Tables
import Derived.RangeFuncNested
import Derived.RangeFuncLeaves
import Derived.Deep.Slices
import Derived.Deep.Fields
import Derived.ChangeSame
import Derived.Deep.DeepCutAuto
import Derived.Shelf.SlSortCmp.WholeK
import Derived.Sort.Grow
import Derived.Shelf.SlSortCmp.NoneTotal
import Derived.Test.YtolodncpegajkabZExactMinkowskiSum4
namespace Go.Proofs.Ytolodncpegajkab
set_option linter.all false
open Go.RowKit
def adP (p v : Pt) : Pt := (p.1 + v.1, p.2 + v.2)
/-- All points are on the left of a line through p. -/
def SupP (S : Pt → Prop) (d p : Pt) : Prop := ∀ q, S q → 0 ≤ cr2 d (dif q p)
def AftP (l : List Pt) (d : Pt) : Prop := ∀ x ∈ l, 0 ≤ cr2 x d
def AftS (l : List Pt) (d : Pt) : Prop := ∀ x ∈ l, 0 < cr2 x d
/-- The sides of a chain from p on, after a side. -/
def LCh (S : Pt → Prop) : List Pt → Pt → List Pt → Prop
  | l, p, [] => S p ∧ ∀ d, posV d → AftP l d → SupP S d p
  | l, p, v :: vs => S p ∧ posV v ∧ AftS l v ∧ (∀ d, posV d → AftP l d → 0 ≤ cr2 d v → SupP S d p) ∧ LCh S [v] (adP p v) vs
def mrg : List Pt → List Pt → List Pt
  | [], v => v
  | u :: us, [] => u :: us
  | u :: us, v :: vs => if 0 < cr2 u v then u :: mrg us (v :: vs) else if cr2 u v < 0 then v :: mrg (u :: us) vs else adP u v :: mrg us vs
termination_by u v => u.length + v.length
def cumP : Pt → List Pt → List Pt
  | p, [] => [p]
  | p, v :: vs => p :: cumP (adP p v) vs
def endP : Pt → List Pt → Pt
  | p, [] => p
  | p, v :: vs => endP (adP p v) vs
def sdL : List Pt → List Pt
  | a :: b :: t => dif b a :: sdL (b :: t)
  | _ => []
def smS (S T : Pt → Prop) : Pt → Prop := fun q => ∃ a b, S a ∧ T b ∧ q = adP a b
theorem posV_add {u v : Pt} (hu : posV u) (hv : posV v) : posV (adP u v) := by
  unfold posV adP at *
  simp only
  omega
theorem cr2_anti (u v : Pt) : cr2 u v = - cr2 v u := by unfold cr2; grind
theorem cr2_self (u : Pt) : cr2 u u = 0 := by unfold cr2; grind
theorem cr2_addr (d u v : Pt) : cr2 d (adP u v) = cr2 d u + cr2 d v := by unfold cr2 adP; simp only; grind
theorem cr2_addl (u v d : Pt) : cr2 (adP u v) d = cr2 u d + cr2 v d := by unfold cr2 adP; simp only; grind
theorem adP_comm (a b : Pt) : adP a b = adP b a := by unfold adP; simp only [Int.add_comm]
theorem dif_ad (p v : Pt) : dif (adP p v) p = v := by unfold dif adP; ext <;> simp <;> omega
theorem ad_dif (p q : Pt) : adP p (dif q p) = q := by unfold dif adP; ext <;> simp <;> omega
theorem dif_add (a b p q : Pt) : dif (adP a b) (adP p q) = adP (dif a p) (dif b q) := by unfold dif adP; ext <;> simp <;> omega
theorem ad_ad (p q u v : Pt) : adP (adP p q) (adP u v) = adP (adP p u) (adP q v) := by unfold adP; ext <;> simp <;> omega
theorem ad_l (p q u : Pt) : adP (adP p q) u = adP (adP p u) q := by unfold adP; ext <;> simp <;> omega
theorem ad_r (p q u : Pt) : adP (adP p q) u = adP p (adP q u) := by unfold adP; ext <;> simp <;> omega
theorem sup_add {S T : Pt → Prop} {d p q : Pt} (h : SupP S d p) (g : SupP T d q) : SupP (smS S T) d (adP p q) := by
  rintro z ⟨a, b, ha, hb, rfl⟩
  rw [dif_add, cr2_addr]
  have := h a ha
  have := g b hb
  omega
theorem LCh.at {S : Pt → Prop} : ∀ {u : List Pt} {l : List Pt} {p : Pt}, LCh S l p u → S p
  | [], _, _, h => h.1
  | _ :: _, _, _, h => h.1
theorem aft_tr {x u d : Pt} (hx : posV x) (hu : posV u) (hd : posV d) (h1 : 0 ≤ cr2 x u) (h2 : 0 ≤ cr2 u d) : 0 ≤ cr2 x d := (cr_tr hx hu hd h1 h2).1
/-- The merge of two chains of sides is that of the sums. -/
theorem lch_mrg {S T : Pt → Prop} : ∀ (n : Nat) (u v : List Pt), u.length + v.length ≤ n → ∀ {l k m : List Pt} {p q : Pt}, (∀ x ∈ l, posV x) → (∀ x ∈ k, posV x) → (∀ x ∈ m, posV x) → (∀ d, posV d → AftP m d → AftP l d ∧ AftP k d) →
    (∀ x t, u = x :: t → AftS m x) → (∀ x t, v = x :: t → AftS m x) → LCh S l p u → LCh T k q v → LCh (smS S T) m (adP p q) (mrg u v)
  | n, [], [], _, l, k, m, p, q, hl, hk, hm, ha, hu, hv, h, g => by
    rw [mrg]
    exact ⟨⟨p, q, h.1, g.1, rfl⟩, fun d hd hda => sup_add (h.2 d hd (ha d hd hda).1) (g.2 d hd (ha d hd hda).2)⟩
  | 0, _ :: _, _, hn, l, k, m, p, q, hl, hk, hm, ha, hu, hv, h, g => by simp at hn
  | 0, [], _ :: _, hn, l, k, m, p, q, hl, hk, hm, ha, hu, hv, h, g => by simp at hn
  | n + 1, [], v :: vs, hn, l, k, m, p, q, hl, hk, hm, ha, hu, hv, h, g => by
    have ih := @lch_mrg S T n [] vs (by simp at hn ⊢; omega)
    rw [mrg] at ih ⊢
    obtain ⟨g1, g2, g3, g4, g5⟩ := g
    have am := hv v vs rfl
    have amp : AftP m v := fun x hx => Int.le_of_lt (am x hx)
    refine ⟨⟨p, q, h.1, g1, rfl⟩, g2, am, fun d hd hda h0 => sup_add (h.2 d hd (ha d hd hda).1) (g4 d hd (ha d hd hda).2 h0), ?_⟩
    rw [ad_r]
    refine ih (l := l) (k := [v]) (m := [v]) hl (fun x hx => by rw [List.mem_singleton.1 hx]; exact g2) (fun x hx => by rw [List.mem_singleton.1 hx]; exact g2) (fun d hd hda => ⟨fun x hx => ?_, hda⟩) (fun x t e => nomatch e) (fun x t e => ?_) h g5
    · exact aft_tr (hl x hx) g2 hd ((ha v g2 amp).1 x hx) (hda v (by simp))
    · subst e
      exact g5.2.2.1
  | n + 1, u :: us, [], hn, l, k, m, p, q, hl, hk, hm, ha, hu, hv, h, g => by
    have ih := @lch_mrg S T n us [] (by simp at hn ⊢; omega)
    have e0 : mrg us [] = us := by cases us <;> rw [mrg]
    rw [e0] at ih
    rw [mrg]
    obtain ⟨g1, g2, g3, g4, g5⟩ := h
    have am := hu u us rfl
    have amp : AftP m u := fun x hx => Int.le_of_lt (am x hx)
    refine ⟨⟨p, q, g1, g.1, rfl⟩, g2, am, fun d hd hda h0 => sup_add (g4 d hd (ha d hd hda).1 h0) (g.2 d hd (ha d hd hda).2), ?_⟩
    rw [ad_l]
    refine ih (l := [u]) (k := k) (m := [u]) (fun x hx => by rw [List.mem_singleton.1 hx]; exact g2) hk (fun x hx => by rw [List.mem_singleton.1 hx]; exact g2) (fun d hd hda => ⟨hda, fun x hx => ?_⟩) (fun x t e => ?_) (fun x t e => nomatch e) g5 g
    · exact aft_tr (hk x hx) g2 hd ((ha u g2 amp).2 x hx) (hda u (by simp))
    · subst e
      exact g5.2.2.1
  | n + 1, u :: us, v :: vs, hn, l, k, m, p, q, hl, hk, hm, ha, hu, hv, h, g => by
    have hu1 := hu u us rfl
    have hv1 := hv v vs rfl
    have hup : AftP m u := fun x hx => Int.le_of_lt (hu1 x hx)
    have hvp : AftP m v := fun x hx => Int.le_of_lt (hv1 x hx)
    have h' := h
    have g' := g
    obtain ⟨h1, h2, h3, h4, h5⟩ := h'
    obtain ⟨g1, g2, g3, g4, g5⟩ := g'
    have sg : ∀ w : Pt, posV w → ∀ x ∈ [w], posV x := fun w hw x hx => by rw [List.mem_singleton.1 hx]; exact hw
    rw [mrg]
    split
    · rename_i c
      refine ⟨⟨p, q, h1, g1, rfl⟩, h2, hu1, fun d hd hda h0 => sup_add (h4 d hd (ha d hd hda).1 h0) (g4 d hd (ha d hd hda).2 (aft_tr hd h2 g2 h0 (Int.le_of_lt c))), ?_⟩
      rw [ad_l]
      refine lch_mrg n us (v :: vs) (by simp at hn ⊢; omega) (sg u h2) hk (sg u h2) (fun d hd hda => ⟨hda, fun x hx => aft_tr (hk x hx) h2 hd ((ha u h2 hup).2 x hx) (hda u (by simp))⟩) (fun x t e => ?_) (fun x t e y hy => ?_) h5 g
      · subst e
        exact h5.2.2.1
      · rw [List.mem_singleton.1 hy, ← (List.cons.inj e).1]
        exact c
    · split
      · rename_i c c'
        rw [cr2_anti] at c'
        have c2 : 0 < cr2 v u := by omega
        refine ⟨⟨p, q, h1, g1, rfl⟩, g2, hv1, fun d hd hda h0 => sup_add (h4 d hd (ha d hd hda).1 (aft_tr hd g2 h2 h0 (Int.le_of_lt c2))) (g4 d hd (ha d hd hda).2 h0), ?_⟩
        rw [ad_r]
        refine lch_mrg n (u :: us) vs (by simp at hn ⊢; omega) hl (sg v g2) (sg v g2) (fun d hd hda => ⟨fun x hx => aft_tr (hl x hx) g2 hd ((ha v g2 hvp).1 x hx) (hda v (by simp)), hda⟩) (fun x t e y hy => ?_) (fun x t e => ?_) h g5
        · rw [List.mem_singleton.1 hy, ← (List.cons.inj e).1]
          exact c2
        · subst e
          exact g5.2.2.1
      · rename_i c c'
        have c0 : cr2 u v = 0 := by omega
        have c1 : cr2 v u = 0 := by rw [cr2_anti, c0]; rfl
        have hw := posV_add h2 g2
        have e1 : cr2 u (adP u v) = 0 := by rw [cr2_addr, cr2_self, c0]; rfl
        have e2 : cr2 v (adP u v) = 0 := by rw [cr2_addr, cr2_self, c1]; rfl
        have e3 : cr2 (adP u v) u = 0 := by rw [cr2_addl, cr2_self, c1]; rfl
        have e4 : cr2 (adP u v) v = 0 := by rw [cr2_addl, cr2_self, c0]; rfl
        refine ⟨⟨p, q, h1, g1, rfl⟩, hw, fun x hx => by rw [cr2_addr]; have := hu1 x hx; have := hv1 x hx; omega, fun d hd hda h0 => sup_add (h4 d hd (ha d hd hda).1 (aft_tr hd hw h2 h0 (by omega))) (g4 d hd (ha d hd hda).2 (aft_tr hd hw g2 h0 (by omega))), ?_⟩
        rw [ad_ad]
        refine lch_mrg n us vs (by simp at hn ⊢; omega) (sg u h2) (sg v g2) (sg _ hw) (fun d hd hda => ⟨fun x hx => ?_, fun x hx => ?_⟩) (fun x t e y hy => ?_) (fun x t e y hy => ?_) h5 g5
        · rw [List.mem_singleton.1 hx]
          exact aft_tr h2 hw hd (by omega) (hda _ (by simp))
        · rw [List.mem_singleton.1 hx]
          exact aft_tr g2 hw hd (by omega) (hda _ (by simp))
        · subst e
          rw [List.mem_singleton.1 hy]
          exact (cr_tr hw h2 h5.2.1 (by omega) (Int.le_of_lt (h5.2.2.1 u (by simp)))).2 (.inr (h5.2.2.1 u (by simp)))
        · subst e
          rw [List.mem_singleton.1 hy]
          exact (cr_tr hw g2 g5.2.1 (by omega) (Int.le_of_lt (g5.2.2.1 v (by simp)))).2 (.inr (g5.2.2.1 v (by simp)))
theorem Cvx.drop : ∀ {X Y : List Pt}, Cvx (X ++ Y) → Cvx Y
  | [], _, h => h
  | _ :: _, _, h => Cvx.drop (Cvx.tail h)
theorem Lft.drop {S : Pt → Prop} : ∀ {X Y : List Pt}, Lft S (X ++ Y) → Lft S Y
  | [], _, h => h
  | _ :: _, _, h => Lft.drop (Lft.tail h)
theorem Dsc.drop : ∀ {X Y : List Pt}, Dsc (X ++ Y) → Dsc Y
  | [], _, h => h
  | _ :: _, _, h => Dsc.drop (Dsc.tail h)
def lsd : List Pt → Pt → List Pt
  | [], _ => []
  | x :: _, p => [dif p x]
theorem crP_cr2 (x p q : Pt) : crP x p q = cr2 (dif p x) (dif q p) := by unfold crP crossI cr2 dif; simp only; grind
theorem crP_cr2' (x p q : Pt) : crP x p q = cr2 (dif p x) (dif q x) := by unfold crP crossI cr2 dif; simp only
theorem cr2_neg (u a b : Pt) : cr2 u (dif a b) = cr2 (dif b a) u := by unfold cr2 dif; simp only; grind
theorem plk (u v d w : Pt) : cr2 u v * cr2 d w = cr2 d v * cr2 u w + cr2 u d * cr2 v w := by unfold cr2; grind
theorem nn_of_mul {D x : Int} (hD : 0 < D) (h : 0 ≤ D * x) : 0 ≤ x := by
  rcases Int.lt_or_le x 0 with c | c
  · have := Int.mul_neg_of_pos_of_neg hD c
    omega
  · exact c
/-- The sides of a chain. -/
theorem lch_of {S : Pt → Prop} : ∀ (l : List Pt) (p : Pt) (R0 : List Pt), ChI S ((p :: l).reverse ++ R0) → LCh S (lsd R0 p) p (sdL (p :: l))
  | [], p, [], h => by
    refine ⟨h.mem p (by simp), fun d hd ha q hq => ?_⟩
    obtain ⟨m, h1, h2⟩ := h.top
    obtain ⟨n, k1, k2⟩ := h.bot
    simp at h1 k1
    subst h1 k1
    have : q = p := by
      rcases h2 q hq with e | e
      · exact e
      · rcases k2 q hq with e' | e'
        · exact e'
        · exact (oP_asym e e').elim
    subst this
    unfold cr2 dif
    simp
  | [], p, x :: R0, h => by
    have hl := h.lft
    have hd0 := h.dsc
    simp only [List.reverse_cons, List.reverse_nil, List.nil_append, List.cons_append] at hl hd0 h
    refine ⟨h.mem p (by simp), fun d hd ha q hq => ?_⟩
    obtain ⟨m, h1, h2⟩ := h.top
    simp at h1
    subst h1
    have a1 : 0 ≤ cr2 (dif p x) d := ha _ (by simp [lsd])
    have a2 : 0 ≤ cr2 (dif p x) (dif q p) := by rw [← crP_cr2]; exact hl.1 q hq
    rw [cr2_neg] at a2 ⊢
    rcases h2 q hq with rfl | e
    · unfold cr2 dif
      simp
    · exact aft_tr (plt_pos.1 e) (plt_pos.1 (hd0.lt (by simp))) hd a2 a1
  | q :: l, p, R0, h => by
    have hS : S p := h.mem p (by simp)
    have e0 : (p :: q :: l).reverse ++ R0 = l.reverse ++ (q :: p :: R0) := by simp
    have e1 : (p :: q :: l).reverse ++ R0 = (q :: l).reverse ++ (p :: R0) := by simp
    have hd0 := h.dsc
    have hl := h.lft
    have hc := h.cvx
    have ih := lch_of l q (p :: R0) (by rw [← e1]; exact h)
    rw [e0] at hd0 hl hc
    have hd1 := hd0.drop
    have hl1 := hl.drop
    have hc1 := hc.drop
    have hv : posV (dif q p) := plt_pos.1 (hd1.lt (by simp))
    refine ⟨hS, hv, ?_, ?_, ?_⟩
    · match R0, hc1 with
      | [], _ => intro x hx; simp [lsd] at hx
      | y :: _, hc1 =>
        intro x hx
        rw [lsd, List.mem_singleton] at hx
        subst hx
        rw [← crP_cr2]
        exact hc1.1
    · intro d hd ha h0 z hz
      have a1 : 0 ≤ cr2 (dif q p) (dif z p) := by rw [← crP_cr2']; exact hl1.1 z hz
      match R0, hl1, hd1, hc1, ha, e0, h with
      | [], _, _, _, _, e0, h =>
        obtain ⟨m, h1, h2⟩ := h.bot
        rw [e0] at h1
        simp at h1
        subst h1
        rcases h2 z hz with rfl | e
        · unfold cr2 dif
          simp
        · exact aft_tr hd hv (plt_pos.1 e) h0 a1
      | x :: R1, hl1, hd1, hc1, ha, _, _ =>
        have a2 : 0 ≤ cr2 (dif p x) (dif z p) := by rw [← crP_cr2]; exact hl1.2.1 z hz
        have a3 : 0 ≤ cr2 (dif p x) d := ha _ (by simp [lsd])
        have a4 : 0 < cr2 (dif p x) (dif q p) := by rw [← crP_cr2]; exact hc1.1
        refine nn_of_mul a4 ?_
        rw [plk]
        have := Int.mul_nonneg h0 a2
        have := Int.mul_nonneg a3 a1
        omega
    · rw [ad_dif]
      exact ih
theorem cumP_sd : ∀ (l : List Pt) (p : Pt), cumP p (sdL (p :: l)) = p :: l
  | [], p => rfl
  | q :: l, p => by
    show p :: cumP (adP p (dif q p)) (sdL (q :: l)) = _
    rw [ad_dif, cumP_sd l q]
theorem endP_sd : ∀ (l : List Pt) (p : Pt), endP p (sdL (p :: l)) = (p :: l).getLast (by simp)
  | [], p => rfl
  | q :: l, p => by
    show endP (adP p (dif q p)) (sdL (q :: l)) = _
    rw [ad_dif, endP_sd l q]
    simp
theorem cumP_rev (p v : Pt) (vs R0 : List Pt) : (cumP p (v :: vs)).reverse ++ R0 = (cumP (adP p v) vs).reverse ++ (p :: R0) := by
  show (p :: cumP (adP p v) vs).reverse ++ R0 = _
  simp
theorem plt_ad {p v : Pt} (h : posV v) : pltB p (adP p v) = true := by rw [plt_pos, dif_ad]; exact h
theorem chi_aux {S : Pt → Prop} : ∀ (vs : List Pt) (p : Pt) (R0 : List Pt), LCh S (lsd R0 p) p vs → (∀ z ∈ p :: R0, S z) → Dsc (p :: R0) → Cvx (p :: R0) → Lft S (p :: R0) →
    (∀ z ∈ (cumP p vs).reverse ++ R0, S z) ∧ Dsc ((cumP p vs).reverse ++ R0) ∧ Cvx ((cumP p vs).reverse ++ R0) ∧ Lft S ((cumP p vs).reverse ++ R0)
  | [], p, R0, h, h1, h2, h3, h4 => ⟨h1, h2, h3, h4⟩
  | v :: vs, p, R0, h, h1, h2, h3, h4 => by
    rw [cumP_rev]
    obtain ⟨k1, k2, k3, k4, k5⟩ := h
    refine chi_aux vs (adP p v) (p :: R0) (by rw [lsd, dif_ad]; exact k5) (fun z hz => ?_) ?_ ?_ ?_
    · rcases List.mem_cons.1 hz with rfl | hz
      · exact k5.at
      · exact h1 z hz
    · refine List.pairwise_cons.2 ⟨fun z hz => ?_, h2⟩
      rcases List.mem_cons.1 hz with rfl | hz
      · exact plt_ad k2
      · exact oP_trans (h2.lt hz) (plt_ad k2)
    · match R0, k3, h3 with
      | [], _, _ => trivial
      | x :: R1, k3, h3 =>
        refine ⟨?_, h3⟩
        rw [crP_cr2, dif_ad]
        exact k3 _ (by simp [lsd])
    · refine ⟨fun q hq => ?_, h4⟩
      rw [crP_cr2', dif_ad]
      exact k4 v k2 (fun x hx => Int.le_of_lt (k3 x hx)) (by rw [cr2_self]; exact Int.le_refl _) q hq
theorem cumP_last : ∀ (vs : List Pt) (p : Pt) (R0 : List Pt), ((cumP p vs).reverse ++ R0).head? = some (endP p vs)
  | [], p, R0 => rfl
  | v :: vs, p, R0 => by
    rw [cumP_rev]
    exact cumP_last vs (adP p v) _
theorem cumP_cons : ∀ (vs : List Pt) (p : Pt), ∃ t, cumP p vs = p :: t
  | [], p => ⟨_, rfl⟩
  | _ :: _, p => ⟨_, rfl⟩
/-- A chain by its sides. -/
theorem chi_of {S : Pt → Prop} {vs : List Pt} {p : Pt} (h : LCh S [] p vs) (hb : ∀ q, S q → q = p ∨ pltB p q = true) (ht : ∀ q, S q → q = endP p vs ∨ pltB q (endP p vs) = true) : ChI S (cumP p vs).reverse := by
  have := chi_aux vs p [] h (fun z hz => by rw [List.mem_singleton.1 hz]; exact h.at) (List.pairwise_singleton _ _) trivial trivial
  rw [List.append_nil] at this
  obtain ⟨h1, h2, h3, h4⟩ := this
  refine ⟨h1, h2, h3, h4, ⟨p, ?_, hb⟩, ⟨endP p vs, ?_, ht⟩⟩
  · obtain ⟨t, e⟩ := cumP_cons vs p
    rw [e]
    simp
  · have := cumP_last vs p []
    rwa [List.append_nil] at this
theorem endP_ad : ∀ (vs : List Pt) (p q : Pt), endP (adP p q) vs = adP p (endP q vs)
  | [], _, _ => rfl
  | v :: vs, p, q => by
    show endP (adP (adP p q) v) vs = adP p (endP (adP q v) vs)
    rw [ad_r]
    exact endP_ad vs p (adP q v)
theorem mrg_nil (u : List Pt) : mrg u [] = u := by cases u <;> rw [mrg]
theorem endP_mrg : ∀ (n : Nat) (u v : List Pt), u.length + v.length ≤ n → ∀ (p q : Pt), endP (adP p q) (mrg u v) = adP (endP p u) (endP q v)
  | n, [], v, hn, p, q => by rw [mrg]; exact endP_ad v p q
  | n, u :: us, [], hn, p, q => by
    rw [mrg, adP_comm p q, adP_comm _ (endP q [])]
    exact endP_ad (u :: us) q p
  | 0, _ :: _, _ :: _, hn, p, q => by simp at hn
  | n + 1, u :: us, v :: vs, hn, p, q => by
    rw [mrg]
    split
    · show endP (adP (adP p q) u) (mrg us (v :: vs)) = _
      rw [ad_l]
      exact endP_mrg n us (v :: vs) (by simp at hn ⊢; omega) _ _
    · split
      · show endP (adP (adP p q) v) (mrg (u :: us) vs) = _
        rw [ad_r]
        exact endP_mrg n (u :: us) vs (by simp at hn ⊢; omega) _ _
      · show endP (adP (adP p q) (adP u v)) (mrg us vs) = _
        rw [ad_ad]
        exact endP_mrg n us vs (by simp at hn ⊢; omega) _ _
theorem plt_add {a b c d : Pt} (h1 : a = c ∨ pltB a c = true) (h2 : b = d ∨ pltB b d = true) : adP a b = adP c d ∨ pltB (adP a b) (adP c d) = true := by
  obtain ⟨a1, a2⟩ := a
  obtain ⟨b1, b2⟩ := b
  obtain ⟨c1, c2⟩ := c
  obtain ⟨d1, d2⟩ := d
  simp only [pltB_iff, adP, Prod.mk.injEq] at *
  omega
/-- The chain of the sums of two sets, from the chains of both. -/
theorem chi_sum {S T : Pt → Prop} {A B : List Pt} {p q : Pt} (h : ChI S (p :: A).reverse) (g : ChI T (q :: B).reverse) : ChI (smS S T) (cumP (adP p q) (mrg (sdL (p :: A)) (sdL (q :: B)))).reverse := by
  have h1 := lch_of A p [] (by rw [List.append_nil]; exact h)
  have g1 := lch_of B q [] (by rw [List.append_nil]; exact g)
  have hn : ∀ x ∈ ([] : List Pt), posV x := fun x hx => by simp at hx
  have hs : ∀ y : Pt, AftS [] y := fun y x hx => by simp at hx
  refine chi_of (lch_mrg _ _ _ (Nat.le_refl _) hn hn hn (fun d _ _ => ⟨fun x hx => by simp [lsd] at hx, fun x hx => by simp [lsd] at hx⟩) (fun x _ _ => hs x) (fun x _ _ => hs x) h1 g1) ?_ ?_
  · rintro z ⟨a, b, ha, hb, rfl⟩
    obtain ⟨m, m1, m2⟩ := h.bot
    obtain ⟨n, n1, n2⟩ := g.bot
    simp at m1 n1
    subst m1 n1
    exact (plt_add ((m2 a ha).imp Eq.symm id) ((n2 b hb).imp Eq.symm id)).imp Eq.symm id
  · rintro z ⟨a, b, ha, hb, rfl⟩
    rw [endP_mrg _ _ _ (Nat.le_refl _), endP_sd, endP_sd]
    obtain ⟨m, m1, m2⟩ := h.top
    obtain ⟨n, n1, n2⟩ := g.top
    rw [List.head?_reverse, List.getLast?_eq_some_getLast (by simp)] at m1 n1
    have m1 := Option.some.inj m1
    have n1 := Option.some.inj n1
    subst m1 n1
    exact plt_add (m2 a ha) (n2 b hb)
end Go.Proofs.Ytolodncpegajkab
namespace Go.Proofs.Ytolodncpegajkab
set_option linter.all false
open Go.RowKit
theorem lch_posV {S : Pt → Prop} : ∀ {u l : List Pt} {p : Pt}, LCh S l p u → ∀ x ∈ u, posV x
  | [], _, _, _, x, hx => by simp at hx
  | v :: vs, l, p, h, x, hx => by
    rcases List.mem_cons.1 hx with rfl | hx
    · exact h.2.1
    · exact lch_posV h.2.2.2.2 x hx
theorem lch_aft {S : Pt → Prop} : ∀ {u : List Pt} {v p : Pt}, posV v → LCh S [v] p u → ∀ x ∈ u, 0 < cr2 v x
  | [], _, _, _, _, x, hx => by simp at hx
  | y :: vs, v, p, hv, h, x, hx => by
    have h1 : 0 < cr2 v y := h.2.2.1 v (by simp)
    rcases List.mem_cons.1 hx with rfl | hx
    · exact h1
    · have h2 := lch_aft h.2.1 h.2.2.2.2 x hx
      exact (cr_tr hv h.2.1 (lch_posV h.2.2.2.2 x hx) (Int.le_of_lt h1) (Int.le_of_lt h2)).2 (.inl h1)
def AscV (u : List Pt) : Prop := u.Pairwise (fun x y => 0 < cr2 x y) ∧ ∀ x ∈ u, posV x
theorem lch_asc {S : Pt → Prop} : ∀ {u l : List Pt} {p : Pt}, LCh S l p u → AscV u
  | [], _, _, _ => ⟨List.Pairwise.nil, fun x hx => by simp at hx⟩
  | v :: vs, l, p, h => ⟨List.pairwise_cons.2 ⟨fun x hx => lch_aft h.2.1 h.2.2.2.2 x hx, (lch_asc h.2.2.2.2).1⟩, lch_posV h⟩
theorem AscV.tail {v : Pt} {vs : List Pt} (h : AscV (v :: vs)) : AscV vs := ⟨(List.pairwise_cons.1 h.1).2, fun x hx => h.2 x (List.mem_cons_of_mem _ hx)⟩
theorem AscV.aft {v : Pt} {vs : List Pt} (h : AscV (v :: vs)) {x : Pt} (hx : x ∈ vs) : 0 < cr2 v x := (List.pairwise_cons.1 h.1).1 x hx
theorem lch_last {S : Pt → Prop} : ∀ {u l : List Pt} {p : Pt}, LCh S l p u → ∀ x, u.getLast? = some x → SupP S x (endP p u) ∧ posV x
  | [], _, _, _, x, hx => by simp at hx
  | [v], l, p, h, x, hx => by
    simp at hx
    subst hx
    exact ⟨h.2.2.2.2.2 v h.2.1 (fun y hy => by rw [List.mem_singleton.1 hy, cr2_self]; exact Int.le_refl _), h.2.1⟩
  | v :: v' :: vs, l, p, h, x, hx => by
    rw [List.getLast?_cons_cons] at hx
    exact lch_last h.2.2.2.2 x hx
theorem mrg_cc (u v : Pt) (us vs : List Pt) : mrg (u :: us) (v :: vs) = if 0 < cr2 u v then u :: mrg us (v :: vs) else if cr2 u v < 0 then v :: mrg (u :: us) vs else adP u v :: mrg us vs := by rw [mrg]
theorem mrg_nl (v : List Pt) : mrg [] v = v := by rw [mrg]
/-- Lower sides before upper ones. -/
theorem mrg_cross {u0 v0 : Pt} {U2 V2 : List Pt} : ∀ (n : Nat) (U V : List Pt), U.length + V.length ≤ n → AscV U → AscV V →
    (U = [] → ∀ v ∈ V, cr2 u0 v < 0) → (∀ x, U.getLast? = some x → ∀ w, posV w → 0 < cr2 x w → cr2 u0 w < 0) →
    (V = [] → ∀ u ∈ U, 0 < cr2 u v0) → (∀ x, V.getLast? = some x → ∀ w, posV w → 0 < cr2 x w → 0 < cr2 w v0) →
    mrg (U ++ u0 :: U2) (V ++ v0 :: V2) = mrg U V ++ mrg (u0 :: U2) (v0 :: V2)
  | n, [], [], _, _, _, _, _, _, _ => by rw [mrg.eq_1]; rfl
  | 0, _ :: _, _, hn, _, _, _, _, _, _ => by simp at hn
  | 0, [], _ :: _, hn, _, _, _, _, _, _ => by simp at hn
  | n + 1, [], v :: vs, hn, hU, hV, h1, h2, h3, h4 => by
    have c := h1 rfl v (by simp)
    have ih := mrg_cross (u0 := u0) (v0 := v0) (U2 := U2) (V2 := V2) n [] vs (by simp at hn ⊢; omega) hU hV.tail (fun _ x hx => h1 rfl x (List.mem_cons_of_mem _ hx)) h2 (fun _ u hu => by simp at hu) (fun x hx w hw h0 => by
      match vs, hx with
      | y :: t, hx => exact h4 x (by rw [List.getLast?_cons_cons]; exact hx) w hw h0)
    rw [mrg_nl] at ih
    rw [List.nil_append, List.cons_append, mrg_cc u0 v, if_neg (by omega), if_pos c]
    rw [List.nil_append] at ih
    rw [ih, mrg_nl]
    rfl
  | n + 1, u :: us, [], hn, hU, hV, h1, h2, h3, h4 => by
    have c := h3 rfl u (by simp)
    have ih := mrg_cross (u0 := u0) (v0 := v0) (U2 := U2) (V2 := V2) n us [] (by simp at hn ⊢; omega) hU.tail hV (fun _ u hu => by simp at hu) (fun x hx w hw h0 => by
      match us, hx with
      | y :: t, hx => exact h2 x (by rw [List.getLast?_cons_cons]; exact hx) w hw h0) (fun _ x hx => h3 rfl x (List.mem_cons_of_mem _ hx)) h4
    rw [mrg_nil] at ih
    rw [List.nil_append, List.cons_append, mrg_cc u v0, if_pos c]
    rw [List.nil_append] at ih
    rw [ih, mrg_nil]
    rfl
  | n + 1, u :: us, v :: vs, hn, hU, hV, h1, h2, h3, h4 => by
    have lu : ∀ x, us.getLast? = some x → ∀ w, posV w → 0 < cr2 x w → cr2 u0 w < 0 := fun x hx w hw h0 => by
      match us, hx with
      | y :: t, hx => exact h2 x (by rw [List.getLast?_cons_cons]; exact hx) w hw h0
    have lv : ∀ x, vs.getLast? = some x → ∀ w, posV w → 0 < cr2 x w → 0 < cr2 w v0 := fun x hx w hw h0 => by
      match vs, hx with
      | y :: t, hx => exact h4 x (by rw [List.getLast?_cons_cons]; exact hx) w hw h0
    have pu : posV u := hU.2 u (by simp)
    have pv : posV v := hV.2 v (by simp)
    rw [List.cons_append, List.cons_append, mrg, mrg]
    split
    · rename_i c
      rw [← List.cons_append, mrg_cross n us (v :: vs) (by simp at hn ⊢; omega) hU.tail hV (fun e x hx => ?_) lu (fun e => nomatch e) h4]
      · rfl
      · subst e
        refine h2 u rfl x (hV.2 x hx) ?_
        rcases List.mem_cons.1 hx with rfl | hx
        · exact c
        · exact (cr_tr pu pv (hV.2 x (List.mem_cons_of_mem _ hx)) (Int.le_of_lt c) (Int.le_of_lt (hV.aft hx))).2 (.inl c)
    · split
      · rename_i c c'
        have c2 : 0 < cr2 v u := by rw [cr2_anti]; omega
        rw [← List.cons_append, mrg_cross n (u :: us) vs (by simp at hn ⊢; omega) hU hV.tail (fun e => nomatch e) h2 (fun e x hx => ?_) lv]
        · rfl
        · subst e
          refine h4 v rfl x (hU.2 x hx) ?_
          rcases List.mem_cons.1 hx with rfl | hx
          · exact c2
          · exact (cr_tr pv pu (hU.2 x (List.mem_cons_of_mem _ hx)) (Int.le_of_lt c2) (Int.le_of_lt (hU.aft hx))).2 (.inl c2)
      · rename_i c c'
        have c0 : cr2 u v = 0 := by omega
        have c1 : cr2 v u = 0 := by rw [cr2_anti, c0]; rfl
        rw [mrg_cross n us vs (by simp at hn ⊢; omega) hU.tail hV.tail (fun e x hx => ?_) lu (fun e x hx => ?_) lv]
        · rfl
        · subst e
          exact h2 u rfl x (hV.2 x (List.mem_cons_of_mem _ hx)) ((cr_tr pu pv (hV.2 x (List.mem_cons_of_mem _ hx)) (by omega) (Int.le_of_lt (hV.aft hx))).2 (.inr (hV.aft hx)))
        · subst e
          exact h4 v rfl x (hU.2 x (List.mem_cons_of_mem _ hx)) ((cr_tr pv pu (hU.2 x (List.mem_cons_of_mem _ hx)) (by omega) (Int.le_of_lt (hU.aft hx))).2 (.inr (hU.aft hx)))
theorem cr2_ng (a b : Pt) : cr2 (ngP a) (ngP b) = cr2 a b := by unfold cr2 ngP; simp only; grind
theorem adP_ng (a b : Pt) : adP (ngP a) (ngP b) = ngP (adP a b) := by unfold adP ngP; ext <;> simp <;> omega
theorem dif_ng (a b : Pt) : dif (ngP a) (ngP b) = ngP (dif a b) := by unfold dif ngP; ext <;> simp <;> omega
theorem mrg_ng : ∀ (n : Nat) (u v : List Pt), u.length + v.length ≤ n → mrg (ngL u) (ngL v) = ngL (mrg u v)
  | _, [], v, _ => by show mrg [] _ = _; rw [mrg, mrg]
  | _, u :: us, [], _ => by show mrg _ [] = _; rw [mrg_nil, mrg_nil]
  | 0, _ :: _, _ :: _, hn => by simp at hn
  | n + 1, u :: us, v :: vs, hn => by
    have i1 := mrg_ng n us (v :: vs) (by simp at hn ⊢; omega)
    have i2 := mrg_ng n (u :: us) vs (by simp at hn ⊢; omega)
    have i3 := mrg_ng n us vs (by simp at hn ⊢; omega)
    show mrg (ngP u :: ngL us) (ngP v :: ngL vs) = _
    rw [mrg, mrg, cr2_ng]
    split
    · show _ = ngP u :: ngL _
      rw [← i1]
      rfl
    · split
      · show _ = ngP v :: ngL _
        rw [← i2]
        rfl
      · show _ = ngP (adP u v) :: ngL _
        rw [← i3, adP_ng]
theorem sd_ng : ∀ (l : List Pt), sdL (ngL l) = ngL (sdL l)
  | [] => rfl
  | [_] => rfl
  | a :: b :: t => by
    show dif (ngP b) (ngP a) :: sdL (ngL (b :: t)) = ngP (dif b a) :: ngL (sdL (b :: t))
    rw [dif_ng, sd_ng (b :: t)]
theorem cumP_ng : ∀ (vs : List Pt) (p : Pt), cumP (ngP p) (ngL vs) = ngL (cumP p vs)
  | [], p => rfl
  | v :: vs, p => by
    show ngP p :: cumP (adP (ngP p) (ngP v)) (ngL vs) = ngP p :: ngL (cumP (adP p v) vs)
    rw [adP_ng, cumP_ng vs]
theorem ngL_rev (l : List Pt) : ngL l.reverse = (ngL l).reverse := by unfold ngL; rw [List.map_reverse]
theorem low_g {s : List Pt} (h : Asc s) (h0 : s ≠ []) : ChI (fun q => q ∈ hulL s) (lowR s) := by
  by_cases h3 : 3 ≤ s.length
  · exact (low_ok h h0).sub (fun q hq => hul_in h hq) fun z hz => low_hul h h3 hz
  · have e : hulL s = s := by unfold hulL; rw [if_pos (by omega)]
    rw [e]
    exact low_ok h h0
theorem upp_g {s : List Pt} (h : Asc s) (h0 : s ≠ []) : ChI (fun q => ngP q ∈ hulL s) (ngL (uppR s)) := by
  by_cases h3 : 3 ≤ s.length
  · exact (upp_ok h h0).sub (fun q hq => hul_in h hq) fun z hz => upp_hul h h3 (mem_ngL.1 hz)
  · have e : hulL s = s := by unfold hulL; rw [if_pos (by omega)]
    rw [e]
    exact upp_ok h h0
section sums
variable {s t w : List Pt} (hs : Asc s) (ht : Asc t) (hw : Asc w) (s0 : s ≠ []) (t0 : t ≠ []) (w0 : w ≠ []) (e : ∀ z, z ∈ w ↔ smS (fun q => q ∈ hulL s) (fun q => q ∈ hulL t) z)
include hs ht hw s0 t0 w0 e
theorem sum_low {p q : Pt} {A B : List Pt} (eA : (lowR s).reverse = p :: A) (eB : (lowR t).reverse = q :: B) : (lowR w).reverse = cumP (adP p q) (mrg (sdL (p :: A)) (sdL (q :: B))) := by
  have h := low_g hs s0
  have g := low_g ht t0
  rw [← List.reverse_reverse (lowR s), eA] at h
  rw [← List.reverse_reverse (lowR t), eB] at g
  have := ((chi_sum h g).ext fun z => (e z).symm).uniq (low_ok hw w0)
  rw [← this, List.reverse_reverse]
theorem sum_upp {p q : Pt} {A B : List Pt} (eA : (uppR s).reverse = p :: A) (eB : (uppR t).reverse = q :: B) : (uppR w).reverse = cumP (adP p q) (mrg (sdL (p :: A)) (sdL (q :: B))) := by
  have h := upp_g hs s0
  have g := upp_g ht t0
  rw [← List.reverse_reverse (ngL (uppR s)), ← ngL_rev, eA] at h
  rw [← List.reverse_reverse (ngL (uppR t)), ← ngL_rev, eB] at g
  have k := chi_sum (p := ngP p) (q := ngP q) (A := ngL A) (B := ngL B) h g
  have k1 : ChI (fun z => ngP z ∈ w) (cumP (adP (ngP p) (ngP q)) (mrg (sdL (ngP p :: ngL A)) (sdL (ngP q :: ngL B)))).reverse := k.ext fun z => by
    rw [e]
    constructor
    · rintro ⟨a, b, ha, hb, rfl⟩
      exact ⟨ngP a, ngP b, ha, hb, (adP_ng a b).symm⟩
    · rintro ⟨a, b, ha, hb, hz⟩
      refine ⟨ngP a, ngP b, by show ngP (ngP a) ∈ hulL s; rw [ngP_ng]; exact ha, by show ngP (ngP b) ∈ hulL t; rw [ngP_ng]; exact hb, ?_⟩
      rw [adP_ng, ← hz, ngP_ng]
  have := k1.uniq (upp_ok hw w0)
  have e1 : sdL (ngP p :: ngL A) = ngL (sdL (p :: A)) := sd_ng (p :: A)
  have e2 : sdL (ngP q :: ngL B) = ngL (sdL (q :: B)) := sd_ng (q :: B)
  rw [e1, e2, mrg_ng _ _ _ (Nat.le_refl _), adP_ng, cumP_ng, ← ngL_rev] at this
  have := congrArg ngL this
  rw [ngL_ng, ngL_ng] at this
  rw [← this, List.reverse_reverse]
end sums
theorem rev_ends {R : List Pt} (h : 2 ≤ R.length) : ∃ A, R.reverse = R.getD (R.length - 1) (0, 0) :: (A ++ [R.getD 0 (0, 0)]) := by
  match R, h with
  | b :: r, h =>
    rcases List.eq_nil_or_concat r with rfl | ⟨r', l, rfl⟩
    · simp at h
    · refine ⟨r'.reverse, ?_⟩
      simp [List.getD]
theorem hul_shape {s : List Pt} (h : Asc s) (h2 : 2 ≤ s.length) : ∃ p m A U, (lowR s).reverse = p :: (A ++ [m]) ∧ (uppR s).reverse = m :: (U ++ [p]) ∧ hulL s = (p :: A) ++ (m :: U) := by
  have s0 : s ≠ [] := by intro e; rw [e] at h2; simp at h2
  obtain ⟨_, _, e1, e2, _, _⟩ := hul_ends h s0
  have l1 : 2 ≤ (lowR s).length := by rw [low_len]; exact chn_ge h2
  have l2 : 2 ≤ (uppR s).length := by rw [upp_len]; exact chn_ge (by rw [revP_len]; exact h2)
  obtain ⟨A, eA⟩ := rev_ends l1
  obtain ⟨U, eU⟩ := rev_ends l2
  rw [← e1, e2] at eU
  refine ⟨_, _, A, U, eA, eU, ?_⟩
  rw [hul_of h2, eA, eU]
  have m1 : (lowR s).length - 1 = A.length + 1 := by
    have := congrArg List.length eA
    simp at this
    omega
  have m2 : (uppR s).length - 1 = U.length + 1 := by
    have := congrArg List.length eU
    simp at this
    omega
  rw [m1, m2]
  simp
theorem sd_app : ∀ (X : List Pt) (m : Pt) (Y : List Pt), sdL (X ++ m :: Y) = sdL (X ++ [m]) ++ sdL (m :: Y)
  | [], m, Y => rfl
  | [x], m, Y => rfl
  | x :: y :: X, m, Y => by
    show dif y x :: sdL ((y :: X) ++ m :: Y) = dif y x :: (sdL ((y :: X) ++ [m]) ++ sdL (m :: Y))
    rw [sd_app (y :: X) m Y]
theorem cumP_app : ∀ (X Y : List Pt) (p : Pt), cumP p (X ++ Y) = (cumP p X).dropLast ++ cumP (endP p X) Y
  | [], Y, p => rfl
  | v :: vs, Y, p => by
    show p :: cumP (adP p v) (vs ++ Y) = (p :: cumP (adP p v) vs).dropLast ++ cumP (endP (adP p v) vs) Y
    rw [cumP_app vs Y]
    obtain ⟨t, e⟩ := cumP_cons vs (adP p v)
    rw [e]
    rfl
theorem cumP_mv : ∀ (vs : List Pt) (a p : Pt), cumP (adP a p) vs = (cumP p vs).map (adP a)
  | [], a, p => rfl
  | v :: vs, a, p => by
    show adP a p :: cumP (adP (adP a p) v) vs = adP a p :: (cumP (adP p v) vs).map (adP a)
    rw [ad_r, cumP_mv vs]
theorem endP_sd2 : ∀ (A : List Pt) (p m : Pt), endP p (sdL (p :: (A ++ [m]))) = m
  | [], p, m => ad_dif p m
  | a :: A, p, m => by
    show endP (adP p (dif a p)) (sdL (a :: (A ++ [m]))) = m
    rw [ad_dif]
    exact endP_sd2 A a m
/-- The sides of a hull, all around. -/
def sdC (h : List Pt) : List Pt := sdL (h ++ h.take 1)
/-- The points that a merge leads to, but the first. -/
def addL (g h : List Pt) : List Pt := adP (g.getD 0 (0, 0)) (h.getD 0 (0, 0)) :: (cumP (adP (g.getD 0 (0, 0)) (h.getD 0 (0, 0))) (mrg (sdC g) (sdC h))).tail.filter fun z => decide (z ≠ adP (g.getD 0 (0, 0)) (h.getD 0 (0, 0)))
theorem cross_ok {S : Pt → Prop} {p m b : Pt} {UL : List Pt} (h : LCh S [] p UL) (e : endP p UL = m) (hb : S b) (hp : posV (ngP (dif b m))) : ∀ x, UL.getLast? = some x → ∀ w, posV w → 0 < cr2 x w → cr2 (dif b m) w < 0 := by
  intro x hx w hw h0
  obtain ⟨h1, h2⟩ := lch_last h x hx
  rw [e] at h1
  have a1 := h1 b hb
  have a2 : cr2 (ngP (dif b m)) x = cr2 x (dif b m) := by unfold cr2 ngP; simp only; grind
  have a3 := (cr_tr hp h2 hw (by omega) (Int.le_of_lt h0)).2 (.inr h0)
  have a4 : cr2 (ngP (dif b m)) w = - cr2 (dif b m) w := by unfold cr2 ngP; simp only; grind
  omega
/-- The sides of a hull with two points at least. -/
theorem hul_sides {s : List Pt} (h : Asc s) (h2 : 2 ≤ s.length) : ∃ p m A U b U', (lowR s).reverse = p :: (A ++ [m]) ∧ (uppR s).reverse = m :: (U ++ [p]) ∧ hulL s = (p :: A) ++ (m :: U) ∧ U ++ [p] = b :: U' ∧
    sdC (hulL s) = sdL (p :: (A ++ [m])) ++ sdL (m :: (U ++ [p])) ∧ LCh (fun q => q ∈ hulL s) [] p (sdL (p :: (A ++ [m]))) ∧ endP p (sdL (p :: (A ++ [m]))) = m ∧ sdL (p :: (A ++ [m])) ≠ [] ∧
    (∀ x, (sdL (p :: (A ++ [m]))).getLast? = some x → ∀ w, posV w → 0 < cr2 x w → cr2 (dif b m) w < 0) := by
  have s0 : s ≠ [] := by intro e; rw [e] at h2; simp at h2
  obtain ⟨p, m, A, U, eA, eU, eH⟩ := hul_shape h h2
  obtain ⟨b, U', eb⟩ : ∃ b U', U ++ [p] = b :: U' := by
    cases U
    · exact ⟨_, _, rfl⟩
    · exact ⟨_, _, rfl⟩
  have L := low_g h s0
  rw [← List.reverse_reverse (lowR s), eA] at L
  have L1 := lch_of (A ++ [m]) p [] (by rw [List.append_nil]; exact L)
  have V := upp_g h s0
  rw [← List.reverse_reverse (ngL (uppR s)), ← ngL_rev, eU] at V
  have V1 := lch_of (ngL (U ++ [p])) (ngP m) [] (by rw [List.append_nil]; exact V)
  have hb : b ∈ hulL s := by
    have : b ∈ U ++ [p] := by rw [eb]; simp
    rw [eH]
    rcases List.mem_append.1 this with h | h
    · simp [h]
    · simp at h
      simp [h]
  have he : endP p (sdL (p :: (A ++ [m]))) = m := endP_sd2 A p m
  refine ⟨p, m, A, U, b, U', eA, eU, eH, eb, ?_, L1, he, ?_, ?_⟩
  · unfold sdC
    rw [eH]
    have : (p :: A ++ m :: U) ++ (p :: A ++ m :: U).take 1 = (p :: A) ++ m :: (U ++ [p]) := by simp
    rw [this, sd_app]
    rfl
  · cases A <;> simp [sdL]
  · refine cross_ok L1 he hb ?_
    rw [eb] at V1
    have : LCh (fun q => ngP q ∈ hulL s) [] (ngP m) (dif (ngP b) (ngP m) :: sdL (ngP b :: ngL U')) := V1
    have := this.2.1
    rwa [dif_ng] at this
/-- The merge of the sides of two hulls leads around the hull of the sums. -/
theorem add_two {s t w : List Pt} (hs : Asc s) (ht : Asc t) (hw : Asc w) (s2 : 2 ≤ s.length) (t2 : 2 ≤ t.length) (e : ∀ z, z ∈ w ↔ smS (fun q => q ∈ hulL s) (fun q => q ∈ hulL t) z) : addL (hulL s) (hulL t) = hulL w := by
  have s0 : s ≠ [] := by intro e; rw [e] at s2; simp at s2
  have t0 : t ≠ [] := by intro e; rw [e] at t2; simp at t2
  obtain ⟨p, m, A, U, b, U', eA, eU, eH, eb, eC, L, eE, n0, cU⟩ := hul_sides hs s2
  obtain ⟨q, n, B, V, c, V', fA, fU, fH, fb, fC, M, fE, k0, cV⟩ := hul_sides ht t2
  have w2 : 2 ≤ w.length := by
    have nd := hul_nodup hs
    rw [eH] at nd
    have hpm : p ≠ m := by
      have := (List.nodup_append.1 nd).2.2 p (by simp) m (by simp)
      exact this
    have i1 : adP p q ∈ w := (e _).2 ⟨p, q, by rw [eH]; simp, by rw [fH]; simp, rfl⟩
    have i2 : adP m q ∈ w := (e _).2 ⟨m, q, by rw [eH]; simp, by rw [fH]; simp, rfl⟩
    refine two_of i1 i2 fun h => hpm ?_
    unfold adP at h
    obtain ⟨p1, p2⟩ := p
    obtain ⟨m1, m2⟩ := m
    simp only [Prod.mk.injEq] at h ⊢
    omega
  have w0 : w ≠ [] := by intro e; rw [e] at w2; simp at w2
  obtain ⟨r, o, X, Y, g1, g2, g3⟩ := hul_shape hw w2
  have k1 := sum_low hs ht hw s0 t0 w0 e eA fA
  have k2 := sum_upp hs ht hw s0 t0 w0 e eU fU
  have x1 : mrg (sdC (hulL s)) (sdC (hulL t)) = mrg (sdL (p :: (A ++ [m]))) (sdL (q :: (B ++ [n]))) ++ mrg (sdL (m :: (U ++ [p]))) (sdL (n :: (V ++ [q]))) := by
    rw [eC, fC, eb, fb]
    refine mrg_cross _ _ _ (Nat.le_refl _) (lch_asc L) (lch_asc M) (fun h => absurd h n0) cU (fun h => absurd h k0) fun x hx w hw h0 => ?_
    have := cV x hx w hw h0
    rw [cr2_anti]
    omega
  have x2 : endP (adP p q) (mrg (sdL (p :: (A ++ [m]))) (sdL (q :: (B ++ [n])))) = adP m n := by rw [endP_mrg _ _ _ (Nat.le_refl _), eE, fE]
  have p1 : (hulL s).getD 0 (0, 0) = p := by rw [eH]; rfl
  have p2 : (hulL t).getD 0 (0, 0) = q := by rw [fH]; rfl
  unfold addL
  rw [p1, p2, x1, cumP_app, x2, ← k1, ← k2, g1, g2]
  have hr : adP p q = r := by
    rw [g1] at k1
    obtain ⟨t', e'⟩ := cumP_cons (mrg (sdL (p :: (A ++ [m]))) (sdL (q :: (B ++ [n])))) (adP p q)
    rw [e'] at k1
    exact (List.cons.inj k1).1.symm
  rw [hr, g3]
  have nd := hul_nodup hw
  rw [g3] at nd
  have nd' := (List.nodup_cons.1 nd).1
  have x3 : (r :: (X ++ [o])).dropLast ++ o :: (Y ++ [r]) = r :: (X ++ o :: Y ++ [r]) := by
    rw [show r :: (X ++ [o]) = (r :: X) ++ [o] from rfl, List.dropLast_concat]
    simp
  rw [x3, List.tail_cons, List.filter_append, List.filter_eq_self.2 fun z hz => ?_]
  · simp
  · refine decide_eq_true fun h => nd' ?_
    rw [← h]
    exact hz
theorem mrg_z (v : Pt) (vs : List Pt) : mrg [(0, 0)] (v :: vs) = v :: vs := by
  have e1 : cr2 (0, 0) v = 0 := by unfold cr2; simp
  rw [mrg, if_neg (by omega), if_neg (by omega), mrg]
  unfold adP
  simp
theorem mrg_z' (v : Pt) (vs : List Pt) : mrg (v :: vs) [(0, 0)] = v :: vs := by
  have e1 : cr2 v (0, 0) = 0 := by unfold cr2; simp
  rw [mrg, if_neg (by omega), if_neg (by omega), mrg_nil]
  unfold adP
  simp
theorem sdC_cons (q : Pt) (B : List Pt) : ∃ v vs, sdC (q :: B) = v :: vs := by
  cases B
  · exact ⟨_, _, rfl⟩
  · exact ⟨_, _, rfl⟩
theorem sdC_one (a : Pt) : sdC [a] = [(0, 0)] := by
  unfold sdC
  show [dif a a] = _
  unfold dif
  simp
theorem add_one (a q : Pt) (B : List Pt) (hn : (q :: B).Nodup) : addL [a] (q :: B) = (q :: B).map (adP a) := by
  obtain ⟨v, vs, e⟩ := sdC_cons q B
  unfold addL
  rw [sdC_one, e, mrg_z, ← e]
  show adP a q :: ((cumP (adP a q) (sdC (q :: B))).tail.filter fun z => decide (z ≠ adP a q)) = _
  have : sdC (q :: B) = sdL (q :: (B ++ [q])) := rfl
  rw [this, cumP_mv, cumP_sd]
  simp only [List.map_cons, List.map_append, List.tail_cons, List.filter_append, List.map_nil]
  rw [List.filter_eq_self.2 fun z hz => ?_]
  · simp
  · obtain ⟨y, hy, rfl⟩ := List.mem_map.1 hz
    refine decide_eq_true fun h => (List.nodup_cons.1 hn).1 ?_
    have : y = q := by
      unfold adP at h
      obtain ⟨y1, y2⟩ := y
      obtain ⟨q1, q2⟩ := q
      simp only [Prod.mk.injEq] at h ⊢
      omega
    rw [← this]
    exact hy
theorem add_one' (a q : Pt) (B : List Pt) : addL (q :: B) [a] = addL [a] (q :: B) := by
  obtain ⟨v, vs, e⟩ := sdC_cons q B
  unfold addL
  rw [sdC_one, e, mrg_z, mrg_z']
  show adP q a :: ((cumP (adP q a) (v :: vs)).tail.filter fun z => decide (z ≠ adP q a)) = adP a q :: ((cumP (adP a q) (v :: vs)).tail.filter fun z => decide (z ≠ adP a q))
  rw [adP_comm]
theorem adP_mv (a : Pt) (l : List Pt) : l.map (adP a) = mvL a.1 a.2 l := by
  unfold mvL
  refine List.map_congr_left fun z _ => ?_
  unfold adP mvP
  simp only [Int.add_comm]
theorem hul_self {t : List Pt} (ht : Asc t) : hulL (srtL (hulL t)) = hulL t := hul_mid ht (srtL_asc _) (fun q hq => hul_in ht ((srtL_mem _ _).1 hq)) fun v hv => (srtL_mem _ _).2 hv
theorem hul_move {t w : List Pt} (a : Pt) (ht : Asc t) (hw : Asc w) (e : ∀ z, z ∈ w ↔ z ∈ (hulL t).map (adP a)) : (hulL t).map (adP a) = hulL w := by
  have : w = srtL (mvL a.1 a.2 (hulL t)) := asc_ext hw (srtL_asc _) fun z => by rw [srtL_mem, e, adP_mv]
  rw [this, srtL_mv, hul_mv, hul_self ht, adP_mv]
theorem hul_ne {t : List Pt} (t0 : t ≠ []) (ht : Asc t) : ∃ q B, hulL t = q :: B := by
  by_cases h2 : 2 ≤ t.length
  · obtain ⟨p, m, A, U, _, _, e⟩ := hul_shape ht h2
    exact ⟨p, _, e⟩
  · match t, t0, h2 with
    | [a], _, _ => exact ⟨a, [], rfl⟩
    | _ :: _ :: _, _, h => simp at h
/-- The points that the merge of the sides of two hulls leads to are the hull of the sums. -/
theorem add_hul {s t w : List Pt} (hs : Asc s) (ht : Asc t) (hw : Asc w) (s0 : s ≠ []) (t0 : t ≠ []) (e : ∀ z, z ∈ w ↔ smS (fun q => q ∈ hulL s) (fun q => q ∈ hulL t) z) : addL (hulL s) (hulL t) = hulL w := by
  by_cases s2 : 2 ≤ s.length
  · by_cases t2 : 2 ≤ t.length
    · exact add_two hs ht hw s2 t2 e
    · match t, t0, t2 with
      | _ :: _ :: _, _, h => simp at h
      | [a], _, _ =>
        obtain ⟨q, B, eB⟩ := hul_ne s0 hs
        have e1 : hulL [a] = [a] := rfl
        have nd := hul_nodup hs
        rw [e1, eB, add_one', add_one a q B (by rw [← eB]; exact nd), ← eB]
        refine hul_move a hs hw fun z => ?_
        rw [e, e1, List.mem_map]
        constructor
        · rintro ⟨x, y, hx, hy, rfl⟩
          rw [List.mem_singleton] at hy
          subst hy
          exact ⟨x, hx, adP_comm _ _⟩
        · rintro ⟨x, hx, rfl⟩
          exact ⟨x, a, hx, by simp, adP_comm _ _⟩
  · match s, s0, s2 with
    | _ :: _ :: _, _, h => simp at h
    | [a], _, _ =>
      obtain ⟨q, B, eB⟩ := hul_ne t0 ht
      have e1 : hulL [a] = [a] := rfl
      have nd := hul_nodup ht
      rw [e1, eB, add_one a q B (by rw [← eB]; exact nd), ← eB]
      refine hul_move a ht hw fun z => ?_
      rw [e, e1, List.mem_map]
      constructor
      · rintro ⟨x, y, hx, hy, rfl⟩
        rw [List.mem_singleton] at hx
        subst hx
        exact ⟨y, hy, rfl⟩
      · rintro ⟨y, hy, rfl⟩
        exact ⟨a, y, by simp, hy, rfl⟩
end Go.Proofs.Ytolodncpegajkab
namespace Go.Proofs.Ytolodncpegajkab
set_option linter.all false
open Go.RowKit
def pt2 (x y : Int) : Bool := decide (-2000 ≤ x ∧ x ≤ 2000 ∧ -2000 ≤ y ∧ y ≤ 2000)
theorem pt2_iff {x y : Int} : pt2 x y = true ↔ (-2000 ≤ x ∧ x ≤ 2000 ∧ -2000 ≤ y ∧ y ≤ 2000) := by unfold pt2; exact decide_eq_true_iff
def allW (ps : List Pt) : Bool := ps.all fun p => pt2 p.1 p.2
theorem allW_at {ps : List Pt} (h : allW ps = true) {j : Nat} (hj : j < ps.length) : pt2 (ps.getD j (0, 0)).1 (ps.getD j (0, 0)).2 = true := List.all_eq_true.1 h (ps.getD j (0, 0)) (by simp [hj])
theorem allW_push {st : List Pt} {p : Pt} (h : allW st = true) (hp : pt2 p.1 p.2 = true) : allW (pushP st p) = true := by
  unfold pushP
  refine List.all_eq_true.2 fun z hz => ?_
  rcases List.mem_append.1 hz with hz | hz
  · exact List.all_eq_true.1 h z (List.mem_of_mem_take hz)
  · rw [List.mem_singleton.1 hz]
    exact hp
theorem allW_rev {ps : List Pt} (h : allW ps = true) : allW (revP ps) = true := List.all_eq_true.2 fun z hz => List.all_eq_true.1 h z (List.mem_reverse.1 hz)
theorem allW_srt {ps : List Pt} (h : allW ps = true) : allW (srtL ps) = true := List.all_eq_true.2 fun z hz => List.all_eq_true.1 h z ((srtL_mem ps z).1 hz)
end Go.Proofs.Ytolodncpegajkab
namespace Go.Proofs.Ytolodncpegajkab
set_option linter.all false
open Go.RowKit
theorem bnd_someK (x d : Int) : bndI (some (IntKind.i64, x)) d = x := rfl
theorem bnd_noneK (d : Int) : bndI none d = d := rfl
/-- So many sides of a closed path. -/
def sdN (ps : List Pt) (i : Nat) : List Pt := (List.range i).map fun j => dif (nxP ps j) (ps.getD j (0, 0))
theorem sdN_succ (ps : List Pt) (i : Nat) : sdN ps (i + 1) = sdN ps i ++ [dif (nxP ps i) (ps.getD i (0, 0))] := by unfold sdN; rw [List.range_succ, List.map_append]; rfl
theorem sdN_len (ps : List Pt) (i : Nat) : (sdN ps i).length = i := by unfold sdN; simp
noncomputable def gc_sds : Code := (rangesOf (codeOf Try.f132)).getD 0 .skip
def k_sds : Ex → List Nat := keeps [3, 7] [] [2]
def s_sds (ps : List Pt) : Nat → St := fun i => ⟨[topV, topV, topV, .pointer (some ⟨1, 0, none⟩), topV, topV, topV, .func (.func 154) #[] #[.pointer (some ⟨2, 0, none⟩)], topV, topV, topV, topV, topV, topV, topV, topV, topV, topV, topV], [some ⟨.view, .ints (flat ps)⟩, some ⟨.box, .vals [.slice (some ⟨3, 0, none⟩) i i]⟩, some ⟨.view, .vals [.slice (some ⟨0, 0, none⟩) ps.length ps.length]⟩, some ⟨.row 44 2, .ints (flat (sdN ps i))⟩]⟩
def g_sds (ps : List Pt) : Nat → Prop := fun i => i ≤ ps.length
def re_sds (ps : List Pt) : Ex := .normal
def rs_sds (ps : List Pt) : St := ⟨[topV, topV, topV, .pointer (some ⟨1, 0, none⟩), topV, topV, topV, topV, topV, topV, topV, topV, topV, topV, topV, topV, topV, topV, topV], [some ⟨.view, .ints (flat ps)⟩, some ⟨.box, .vals [.slice (some ⟨3, 0, none⟩) ps.length ps.length]⟩, some ⟨.view, .vals [.slice (some ⟨0, 0, none⟩) ps.length ps.length]⟩, some ⟨.row 44 2, .ints (flat (sdN ps ps.length))⟩]⟩
set_option maxRecDepth 100000 in
theorem tr_sds (ps : List Pt) (i : Nat) : bodyR Try.prog EGa 30 12 noL noR (asgOf gc_sds) (bodOf gc_sds) ([8, 9].zip (encE ps i)) k_sds 16 (s_sds ps i) = .need ((i + (1 : Nat)) * (16 : Nat) ≤ (140737488355328 : Nat) ∧ i + (1 : Nat) ≤ (1000000 : Nat)) (.need ((0 : Nat) + i * (2 : Nat) ≤ (flat (sdN ps i)).length) (.leaf .normal ⟨[topV, topV, topV, .pointer (some ⟨1, 0, none⟩), topV, topV, topV, .func (Fn.func 154) #[] #[.pointer (some ⟨2, 0, none⟩)], topV, topV, topV, topV, topV, topV, topV, topV, topV, topV, topV], [some ⟨.view, .ints (flat ps)⟩, some ⟨.box, .vals [.slice (some ⟨7, 0, none⟩) (i + 1) (i + 1)]⟩, some ⟨.view, .vals [.slice (some ⟨0, 0, none⟩) (ps.length) (ps.length)]⟩, some deadB, some ⟨.box, .vals [.int .i64 ((ps.getD i (0, 0)).1), .int .i64 ((ps.getD i (0, 0)).2), .int .i64 ((ps.getD ((i + 1) % ps.length) (0, 0)).1), .int .i64 ((ps.getD ((i + 1) % ps.length) (0, 0)).2)]⟩, none, some ⟨.row 44 2, .vals [.int .i64 (IntKind.i64.wrap ((ps.getD ((i + 1) % ps.length) (0, 0)).1 - (ps.getD i (0, 0)).1)), .int .i64 (IntKind.i64.wrap ((ps.getD ((i + 1) % ps.length) (0, 0)).2 - (ps.getD i (0, 0)).2))]⟩, some ⟨.row 44 2, .ints (List.take (i * 2) (List.drop 0 (flat (sdN ps i))) ++ [IntKind.i64.wrap ((ps.getD ((i + 1) % ps.length) (0, 0)).1 - (ps.getD i (0, 0)).1), IntKind.i64.wrap ((ps.getD ((i + 1) % ps.length) (0, 0)).2 - (ps.getD i (0, 0)).2)])⟩]⟩)) := by kernel_rfl
/-- A round of this loop. -/
def Round_sds (ps : List Pt) : Prop := ∀ i : Nat, g_sds ps i → i < (ps).length → (bodyR Try.prog EGa 30 12 noL noR (asgOf gc_sds) (bodOf gc_sds) ([8, 9].zip (encE ps i)) k_sds 16 (s_sds ps i)).ok (RoundEndR 3 (s_sds ps) (g_sds ps) (re_sds ps) (rs_sds ps) i) (fun _ _ => False)
set_option maxRecDepth 100000 in
theorem gcode_sds : gc_sds = .rangeFunc (.tmp 7) ([8, 9] : List Nat).toArray (asgOf gc_sds) (bodOf gc_sds) := by kernel_rfl
def e_sds (s : St) (k : Ex → St → Tree) : Option Tree := match Nat.beq s.tmps.length 19, pickL s.tmps [3, 7], s.mem with
  | true, [.pointer (some ⟨1, 0, none⟩), .func (.func 154) ⟨[]⟩ ⟨[.pointer (some ⟨2, 0, none⟩)]⟩], [some ⟨.view, .ints xs⟩, some ⟨.box, .vals [.slice none 0 0]⟩, some ⟨.box, .vals [.slice (some ⟨0, 0, none⟩) n _]⟩] => some (needs [xs.length = n * 2, allV (ptsA n xs) = true, n ≤ 1000] (k .normal ⟨[topV, topV, topV, .pointer (some ⟨1, 0, none⟩), topV, topV, topV, topV, topV, topV, topV, topV, topV, topV, topV, topV, topV, topV, topV], [some ⟨.view, .ints xs⟩, some ⟨.box, .vals [.slice (some ⟨3, 0, none⟩) n n]⟩, some ⟨.view, .vals [.slice (some ⟨0, 0, none⟩) n n]⟩, some ⟨.row 44 2, .ints (flat (sdN (ptsA n xs) n))⟩]⟩))
  | _, _, _ => none
set_option maxRecDepth 100000 in
theorem round_sds (ps : List Pt) (hv : allV ps = true) (h : ps.length ≤ 1000) : Round_sds ps := by
  intro i hg hi
  rw [tr_sds]
  have hg : i ≤ ps.length := hg
  have hl := sdN_len ps i
  have fl := flat_length (sdN ps i)
  have fk : List.take (i * 2) (List.drop 0 (flat (sdN ps i))) = flat (sdN ps i) := by rw [List.drop_zero]; exact List.take_of_length_le (by omega)
  have b1 := allV_gt hv hi
  have b2 := allV_gt hv (nx_lt hi)
  have sn : flat (sdN ps i) ++ [(ps.getD ((i + 1) % ps.length) (0, 0)).1 - (ps.getD i (0, 0)).1, (ps.getD ((i + 1) % ps.length) (0, 0)).2 - (ps.getD i (0, 0)).2] = flat (sdN ps (i + 1)) := by rw [sdN_succ, flat_snoc]; rfl
  simp (disch := omega) only [wr]
  rw [fk, sn]
  refine ⟨by omega, by omega, ?_, [some 7], ?_⟩
  · show i + 1 ≤ ps.length; omega
  · unfold s_sds
    refine ⟨rfl, rfl, ?_, ?_⟩ <;> repeat' (first | exact True.intro | exact rfl | exact wv_top _ _ | exact fun _ => rfl | (simp; done) | refine And.intro ?_ ?_)
set_option maxRecDepth 100000 in
theorem lg_sds : RangeE Try.prog e_sds gc_sds := by
  intro s k t F H hlt ht
  unfold e_sds at hlt
  split at hlt
  rotate_left
  · cases hlt
  rename_i hlen hpick hmem
  obtain ⟨tmps, mem⟩ := s
  simp only at hlen hpick hmem
  subst hmem
  obtain rfl := Option.some.inj hlt
  obtain ⟨⟨h1, h2, h3, _⟩, ht2⟩ := needs_ok ht
  clear ht hlt
  obtain ⟨ps, rfl, rfl⟩ := even_flat h1
  rw [ptsA_flat] at ht2 h2
  refine ⟨re_sds ps, rs_sds ps, ht2, ?_⟩
  rw [gcode_sds]
  refine range_det (enc := encE ps) (len := (ps).length) (St_of := s_sds ps) (Good := g_sds ps) (N := 3) (M := 16) (Kn := [0, 2]) (cap := [.pointer (some ⟨2, 0, none⟩)]) (kf := (k_sds .normal)) (π := [none]) (fun _ => rfl) (fun _ => rfl) (fun i hg hlt => bodyR_ok mixed EGa_ok (noL_good) (noR_good) (round_sds ps h2 h3 i hg hlt)) (entersB_res (by kernel_rfl)).1 rfl ?_ (fun ρ0 ρ B w lb h1 h2 => ed_iter ps (by omega) (s := (s_sds ps 0).fs) (nb := 2) (nr := 0) (c := (ps).length) (Kn := [0, 2]) rfl rfl (by decide) (by decide) ρ0 ρ B w lb h1 h2) ?_ rfl (by decide) ?_ (Nat.zero_le _)
  · intro n hn b hb
    simp only [List.mem_cons, List.not_mem_nil, or_false] at hn
    rcases hn with rfl | rfl <;> (obtain rfl := Option.some.inj hb; rfl)
  · exact fun _ => ⟨rfl, [some 3], by refine ⟨rfl, rfl, ?_, ?_⟩ <;> repeat' (first | exact True.intro | exact rfl | exact wv_top _ _ | exact fun _ => rfl | (simp; done) | refine And.intro ?_ ?_)⟩
  · refine ⟨rfl, rfl, ?_, wvs_spread' [3, 7] hlen rfl ?_⟩
    · repeat' (first | exact True.intro | exact rfl | exact wv_top _ _ | exact fun _ => rfl | assumption | exact Eq.symm (by assumption) | exact vI0 rfl | refine And.intro ?_ ?_)
    · rw [show pickL (viewS [0, 2] ⟨tmps, _⟩).tmps [3, 7] = pickL tmps [3, 7] from rfl, hpick]
      repeat' (first | exact True.intro | exact rfl | exact wv_top _ _ | exact fun _ => rfl | assumption | exact Eq.symm (by assumption) | exact vI0 rfl | refine And.intro ?_ ?_)
/-- The merge of two lists of sides, as far as both last: how many of each, and what is merged. -/
def mgE : Nat → Nat → Nat → List Pt → List Pt → List Pt → Nat × Nat × List Pt
  | 0, i, j, o, _, _ => (i, j, o)
  | f + 1, i, j, o, U, V => if i < U.length ∧ j < V.length then
      (if 0 < cr2 (U.getD i (0, 0)) (V.getD j (0, 0)) then mgE f (i + 1) j (o ++ [U.getD i (0, 0)]) U V
       else if cr2 (U.getD i (0, 0)) (V.getD j (0, 0)) < 0 then mgE f i (j + 1) (o ++ [V.getD j (0, 0)]) U V
       else mgE f (i + 1) (j + 1) (o ++ [adP (U.getD i (0, 0)) (V.getD j (0, 0))]) U V) else (i, j, o)
def mgT (us vs : List Pt) : Nat × Nat × List Pt := mgE (us.length + vs.length) 0 0 [] us vs
noncomputable def c_mgs : Code := ((loopsOf (codeOf Try.f131))[0]?).getD .skip
def k_mgs : Ex → List Nat := keeps [0, 1, 5] [(0, [0, 1, 5])] [4]
def s_mgs (us vs : List Pt) : Nat × Nat × Nat × (List Pt) → St := fun (f, i, j, o) => ⟨(.slice (some ⟨0, i * 2, none⟩) (us.length - i) (us.length - i) :: .slice (some ⟨1, j * 2, none⟩) (vs.length - j) (vs.length - j) :: topV :: topV :: topV :: .slice (some ⟨2, 0, none⟩) o.length o.length :: topV :: topV :: topV :: topV :: topV :: topV :: topV :: topV :: topV :: topV :: topV :: topV :: topV :: topV :: topV :: topV :: topV :: topV :: topV :: topV :: topV :: topV :: topV :: topV :: topV :: topV :: topV :: topV :: topV :: topV :: topV :: topV :: topV :: topV :: topV :: topV :: topV :: topV :: topV :: topV :: topV :: topV :: topV :: topV :: []), [some ⟨.view, .ints (flat us)⟩, some ⟨.view, .ints (flat vs)⟩, some ⟨.row 44 2, .ints (flat o)⟩]⟩
def re_mgs : Nat × Nat × Nat × (List Pt) → Ex := fun _ => .exit 0
def rs_mgs (us vs : List Pt) : Nat × Nat × Nat × (List Pt) → St := fun (f, i, j, o) => ⟨(.slice (some ⟨0, (mgT us vs).1 * 2, none⟩) (us.length - (mgT us vs).1) (us.length - (mgT us vs).1) :: .slice (some ⟨1, (mgT us vs).2.1 * 2, none⟩) (vs.length - (mgT us vs).2.1) (vs.length - (mgT us vs).2.1) :: topV :: topV :: topV :: .slice (some ⟨2, 0, none⟩) (mgT us vs).2.2.length (mgT us vs).2.2.length :: topV :: topV :: topV :: topV :: topV :: topV :: topV :: topV :: topV :: topV :: topV :: topV :: topV :: topV :: topV :: topV :: topV :: topV :: topV :: topV :: topV :: topV :: topV :: topV :: topV :: topV :: topV :: topV :: topV :: topV :: topV :: topV :: topV :: topV :: topV :: topV :: topV :: topV :: topV :: topV :: topV :: topV :: topV :: topV :: []), [some ⟨.view, .ints (flat us)⟩, some ⟨.view, .ints (flat vs)⟩, some ⟨.row 44 2, .ints (flat (mgT us vs).2.2)⟩]⟩
set_option maxRecDepth 100000 in
theorem tr_mgs (us vs : List Pt) (f i j : Nat) (o : List Pt) : bodyL Try.prog EGa 30 12 noL 1 c_mgs k_mgs 16 (s_mgs us vs (f, i, j, o)) = brT (decide (0 < (↑(us.length - i) : Int))) (brT (decide (0 < (↑(vs.length - j) : Int))) (.need ((0 : Int) ≤ (0 : Int) ∧ (0 : Int) < (↑(us.length - i) : Int)) (.need (i * (2 : Nat) + (0 : Nat) + (2 : Nat) ≤ (flat us).length) (.need ((0 : Int) ≤ (0 : Int) ∧ (0 : Int) < (↑(vs.length - j) : Int)) (.need (j * (2 : Nat) + (0 : Nat) + (2 : Nat) ≤ (flat vs).length) (brT (decide (0 ≤ IntKind.i64.wrap (IntKind.i64.wrap ((flat us).getD (i * 2 + 0) 0 * (flat vs).getD (j * 2 + 0 + 1) 0) - IntKind.i64.wrap ((flat us).getD (i * 2 + 0 + 1) 0 * (flat vs).getD (j * 2 + 0) 0)))) (.need ((0 : Int) ≤ (0 : Int) ∧ (0 : Int) < (↑(us.length - i) : Int)) (.need (i * (2 : Nat) + (0 : Nat) + (2 : Nat) ≤ (flat us).length) (.need ((0 : Int) ≤ bndI (some (IntKind.i64, (1 : Int))) (0 : Int) ∧ bndI (some (IntKind.i64, (1 : Int))) (0 : Int) ≤ bndI none (↑(us.length - i) : Int) ∧ bndI none (↑(us.length - i) : Int) ≤ (↑(us.length - i) : Int)) (brT (decide (IntKind.i64.wrap (IntKind.i64.wrap ((flat us).getD (i * 2 + 0) 0 * (flat vs).getD (j * 2 + 0 + 1) 0) - IntKind.i64.wrap ((flat us).getD (i * 2 + 0 + 1) 0 * (flat vs).getD (j * 2 + 0) 0)) ≤ 0)) (.need ((0 : Int) ≤ (0 : Int) ∧ (0 : Int) < (↑(vs.length - j) : Int)) (.need (j * (2 : Nat) + (0 : Nat) + (2 : Nat) ≤ (flat vs).length) (.need ((0 : Int) ≤ bndI (some (IntKind.i64, (1 : Int))) (0 : Int) ∧ bndI (some (IntKind.i64, (1 : Int))) (0 : Int) ≤ bndI none (↑(vs.length - j) : Int) ∧ bndI none (↑(vs.length - j) : Int) ≤ (↑(vs.length - j) : Int)) (.need ((o.length + (1 : Nat)) * (16 : Nat) ≤ (140737488355328 : Nat) ∧ o.length + (1 : Nat) ≤ (1000000 : Nat)) (.need ((0 : Nat) + o.length * (2 : Nat) ≤ (flat o).length) (.leaf .normal ⟨(.slice (some ⟨0, i * 2 + 2, none⟩) ((bndI none (↑(us.length - i) : Int)).toNat - 1) ((bndI none (↑(us.length - i) : Int)).toNat - 1) :: .slice (some ⟨1, j * 2 + 2, none⟩) ((bndI none (↑(vs.length - j) : Int)).toNat - 1) ((bndI none (↑(vs.length - j) : Int)).toNat - 1) :: topV :: topV :: topV :: .slice (some ⟨8, 0, none⟩) (o.length + 1) (o.length + 1) :: topV :: topV :: topV :: topV :: topV :: topV :: topV :: topV :: topV :: topV :: topV :: topV :: topV :: topV :: topV :: topV :: topV :: topV :: topV :: topV :: topV :: topV :: topV :: topV :: topV :: topV :: topV :: topV :: topV :: topV :: topV :: topV :: topV :: topV :: topV :: topV :: topV :: topV :: topV :: topV :: topV :: topV :: topV :: topV :: []), [some ⟨.view, .ints (flat us)⟩, some ⟨.view, .ints (flat vs)⟩, some deadB, none, some ⟨.box, .vals [.int .i64 (IntKind.i64.wrap (IntKind.i64.wrap (0 + (flat us).getD (i * 2 + 0) 0) + (flat vs).getD (j * 2 + 0) 0)), .int .i64 (IntKind.i64.wrap (IntKind.i64.wrap (0 + (flat us).getD (i * 2 + 0 + 1) 0) + (flat vs).getD (j * 2 + 0 + 1) 0))]⟩, none, none, some ⟨.row 44 2, .vals [.int .i64 (IntKind.i64.wrap (IntKind.i64.wrap (0 + (flat us).getD (i * 2 + 0) 0) + (flat vs).getD (j * 2 + 0) 0)), .int .i64 (IntKind.i64.wrap (IntKind.i64.wrap (0 + (flat us).getD (i * 2 + 0 + 1) 0) + (flat vs).getD (j * 2 + 0 + 1) 0))]⟩, some ⟨.row 44 2, .ints (List.take (o.length * 2) (List.drop 0 (flat o)) ++ [IntKind.i64.wrap (IntKind.i64.wrap (0 + (flat us).getD (i * 2 + 0) 0) + (flat vs).getD (j * 2 + 0) 0), IntKind.i64.wrap (IntKind.i64.wrap (0 + (flat us).getD (i * 2 + 0 + 1) 0) + (flat vs).getD (j * 2 + 0 + 1) 0)])⟩]⟩)))))) (.need ((o.length + (1 : Nat)) * (16 : Nat) ≤ (140737488355328 : Nat) ∧ o.length + (1 : Nat) ≤ (1000000 : Nat)) (.need ((0 : Nat) + o.length * (2 : Nat) ≤ (flat o).length) (.leaf .normal ⟨(.slice (some ⟨0, i * 2 + 2, none⟩) ((bndI none (↑(us.length - i) : Int)).toNat - 1) ((bndI none (↑(us.length - i) : Int)).toNat - 1) :: .slice (some ⟨1, j * 2, none⟩) (vs.length - j) (vs.length - j) :: topV :: topV :: topV :: .slice (some ⟨7, 0, none⟩) (o.length + 1) (o.length + 1) :: topV :: topV :: topV :: topV :: topV :: topV :: topV :: topV :: topV :: topV :: topV :: topV :: topV :: topV :: topV :: topV :: topV :: topV :: topV :: topV :: topV :: topV :: topV :: topV :: topV :: topV :: topV :: topV :: topV :: topV :: topV :: topV :: topV :: topV :: topV :: topV :: topV :: topV :: topV :: topV :: topV :: topV :: topV :: topV :: []), [some ⟨.view, .ints (flat us)⟩, some ⟨.view, .ints (flat vs)⟩, some deadB, none, some ⟨.box, .vals [.int .i64 (IntKind.i64.wrap (0 + (flat us).getD (i * 2 + 0) 0)), .int .i64 (IntKind.i64.wrap (0 + (flat us).getD (i * 2 + 0 + 1) 0))]⟩, none, some ⟨.row 44 2, .vals [.int .i64 (IntKind.i64.wrap (0 + (flat us).getD (i * 2 + 0) 0)), .int .i64 (IntKind.i64.wrap (0 + (flat us).getD (i * 2 + 0 + 1) 0))]⟩, some ⟨.row 44 2, .ints (List.take (o.length * 2) (List.drop 0 (flat o)) ++ [IntKind.i64.wrap (0 + (flat us).getD (i * 2 + 0) 0), IntKind.i64.wrap (0 + (flat us).getD (i * 2 + 0 + 1) 0)])⟩]⟩))))))) (brT (decide (IntKind.i64.wrap (IntKind.i64.wrap ((flat us).getD (i * 2 + 0) 0 * (flat vs).getD (j * 2 + 0 + 1) 0) - IntKind.i64.wrap ((flat us).getD (i * 2 + 0 + 1) 0 * (flat vs).getD (j * 2 + 0) 0)) ≤ 0)) (.need ((0 : Int) ≤ (0 : Int) ∧ (0 : Int) < (↑(vs.length - j) : Int)) (.need (j * (2 : Nat) + (0 : Nat) + (2 : Nat) ≤ (flat vs).length) (.need ((0 : Int) ≤ bndI (some (IntKind.i64, (1 : Int))) (0 : Int) ∧ bndI (some (IntKind.i64, (1 : Int))) (0 : Int) ≤ bndI none (↑(vs.length - j) : Int) ∧ bndI none (↑(vs.length - j) : Int) ≤ (↑(vs.length - j) : Int)) (.need ((o.length + (1 : Nat)) * (16 : Nat) ≤ (140737488355328 : Nat) ∧ o.length + (1 : Nat) ≤ (1000000 : Nat)) (.need ((0 : Nat) + o.length * (2 : Nat) ≤ (flat o).length) (.leaf .normal ⟨(.slice (some ⟨0, i * 2, none⟩) (us.length - i) (us.length - i) :: .slice (some ⟨1, j * 2 + 2, none⟩) ((bndI none (↑(vs.length - j) : Int)).toNat - 1) ((bndI none (↑(vs.length - j) : Int)).toNat - 1) :: topV :: topV :: topV :: .slice (some ⟨7, 0, none⟩) (o.length + 1) (o.length + 1) :: topV :: topV :: topV :: topV :: topV :: topV :: topV :: topV :: topV :: topV :: topV :: topV :: topV :: topV :: topV :: topV :: topV :: topV :: topV :: topV :: topV :: topV :: topV :: topV :: topV :: topV :: topV :: topV :: topV :: topV :: topV :: topV :: topV :: topV :: topV :: topV :: topV :: topV :: topV :: topV :: topV :: topV :: topV :: topV :: []), [some ⟨.view, .ints (flat us)⟩, some ⟨.view, .ints (flat vs)⟩, some deadB, none, some ⟨.box, .vals [.int .i64 (IntKind.i64.wrap (0 + (flat vs).getD (j * 2 + 0) 0)), .int .i64 (IntKind.i64.wrap (0 + (flat vs).getD (j * 2 + 0 + 1) 0))]⟩, none, some ⟨.row 44 2, .vals [.int .i64 (IntKind.i64.wrap (0 + (flat vs).getD (j * 2 + 0) 0)), .int .i64 (IntKind.i64.wrap (0 + (flat vs).getD (j * 2 + 0 + 1) 0))]⟩, some ⟨.row 44 2, .ints (List.take (o.length * 2) (List.drop 0 (flat o)) ++ [IntKind.i64.wrap (0 + (flat vs).getD (j * 2 + 0) 0), IntKind.i64.wrap (0 + (flat vs).getD (j * 2 + 0 + 1) 0)])⟩]⟩)))))) (.need ((o.length + (1 : Nat)) * (16 : Nat) ≤ (140737488355328 : Nat) ∧ o.length + (1 : Nat) ≤ (1000000 : Nat)) (.need ((0 : Nat) + o.length * (2 : Nat) ≤ (flat o).length) (.leaf .normal ⟨(.slice (some ⟨0, i * 2, none⟩) (us.length - i) (us.length - i) :: .slice (some ⟨1, j * 2, none⟩) (vs.length - j) (vs.length - j) :: topV :: topV :: topV :: .slice (some ⟨6, 0, none⟩) (o.length + 1) (o.length + 1) :: topV :: topV :: topV :: topV :: topV :: topV :: topV :: topV :: topV :: topV :: topV :: topV :: topV :: topV :: topV :: topV :: topV :: topV :: topV :: topV :: topV :: topV :: topV :: topV :: topV :: topV :: topV :: topV :: topV :: topV :: topV :: topV :: topV :: topV :: topV :: topV :: topV :: topV :: topV :: topV :: topV :: topV :: topV :: topV :: []), [some ⟨.view, .ints (flat us)⟩, some ⟨.view, .ints (flat vs)⟩, some deadB, none, some ⟨.box, .vals [.int .i64 (0), .int .i64 (0)]⟩, some ⟨.row 44 2, .vals [.int .i64 (0), .int .i64 (0)]⟩, some ⟨.row 44 2, .ints (List.take (o.length * 2) (List.drop 0 (flat o)) ++ [0, 0])⟩]⟩))))))))) (.leaf (.exit 0) ⟨(.slice (some ⟨0, i * 2, none⟩) (us.length - i) (us.length - i) :: .slice (some ⟨1, j * 2, none⟩) (vs.length - j) (vs.length - j) :: topV :: topV :: topV :: .slice (some ⟨2, 0, none⟩) (o.length) (o.length) :: topV :: topV :: topV :: topV :: topV :: topV :: topV :: topV :: topV :: topV :: topV :: topV :: topV :: topV :: topV :: topV :: topV :: topV :: topV :: topV :: topV :: topV :: topV :: topV :: topV :: topV :: topV :: topV :: topV :: topV :: topV :: topV :: topV :: topV :: topV :: topV :: topV :: topV :: topV :: topV :: topV :: topV :: topV :: topV :: []), [some ⟨.view, .ints (flat us)⟩, some ⟨.view, .ints (flat vs)⟩, some ⟨.row 44 2, .ints (flat o)⟩]⟩)) (.leaf (.exit 0) ⟨(.slice (some ⟨0, i * 2, none⟩) (us.length - i) (us.length - i) :: .slice (some ⟨1, j * 2, none⟩) (vs.length - j) (vs.length - j) :: topV :: topV :: topV :: .slice (some ⟨2, 0, none⟩) (o.length) (o.length) :: topV :: topV :: topV :: topV :: topV :: topV :: topV :: topV :: topV :: topV :: topV :: topV :: topV :: topV :: topV :: topV :: topV :: topV :: topV :: topV :: topV :: topV :: topV :: topV :: topV :: topV :: topV :: topV :: topV :: topV :: topV :: topV :: topV :: topV :: topV :: topV :: topV :: topV :: topV :: topV :: topV :: topV :: topV :: topV :: []), [some ⟨.view, .ints (flat us)⟩, some ⟨.view, .ints (flat vs)⟩, some ⟨.row 44 2, .ints (flat o)⟩]⟩) := by kernel_rfl
set_option maxRecDepth 100000 in
theorem nl_mgs : loopsOf c_mgs = [] := by kernel_rfl
def inv_mgs (us vs : List Pt) : Nat × Nat × Nat × (List Pt) → Prop := fun (f, i, j, o) => mgE f i j o us vs = mgT us vs ∧ us.length + vs.length ≤ f + i + j ∧ i ≤ us.length ∧ j ≤ vs.length ∧ o.length ≤ i + j
def me_mgs (us vs : List Pt) : Nat × Nat × Nat × (List Pt) → Nat := fun (f, i, j, o) => us.length + vs.length - i - j
/-- A round of this loop. -/
def Round_mgs (us vs : List Pt) : Prop := ∀ xx : Nat × Nat × Nat × (List Pt), inv_mgs us vs xx → (bodyL Try.prog EGa 30 12 noL 1 c_mgs k_mgs 16 (s_mgs us vs xx)).ok (RoundEnd 2 (s_mgs us vs) (inv_mgs us vs) (me_mgs us vs) re_mgs (rs_mgs us vs) xx) (fun _ _ => False)
def e_mgs (s : St) (k : Ex → St → Tree) : Option Tree := match Nat.beq s.tmps.length 50, pickL s.tmps [0, 1, 5], s.mem with
  | true, [.slice (some ⟨0, 0, none⟩) n _, .slice (some ⟨1, 0, none⟩) m _, .slice none 0 0], [some ⟨.view, .ints xs⟩, some ⟨.view, .ints ys⟩] => some (needs [xs.length = n * 2, ys.length = m * 2, allW (ptsA n xs) = true, allW (ptsA m ys) = true, n + m ≤ 1000] (k (.exit 0) ⟨(.slice (some ⟨0, (mgT (ptsA n xs) (ptsA m ys)).1 * 2, none⟩) (n - (mgT (ptsA n xs) (ptsA m ys)).1) (n - (mgT (ptsA n xs) (ptsA m ys)).1) :: .slice (some ⟨1, (mgT (ptsA n xs) (ptsA m ys)).2.1 * 2, none⟩) (m - (mgT (ptsA n xs) (ptsA m ys)).2.1) (m - (mgT (ptsA n xs) (ptsA m ys)).2.1) :: topV :: topV :: topV :: .slice (some ⟨2, 0, none⟩) (mgT (ptsA n xs) (ptsA m ys)).2.2.length (mgT (ptsA n xs) (ptsA m ys)).2.2.length :: topV :: topV :: topV :: topV :: topV :: topV :: topV :: topV :: topV :: topV :: topV :: topV :: topV :: topV :: topV :: topV :: topV :: topV :: topV :: topV :: topV :: topV :: topV :: topV :: topV :: topV :: topV :: topV :: topV :: topV :: topV :: topV :: topV :: topV :: topV :: topV :: topV :: topV :: topV :: topV :: topV :: topV :: topV :: topV :: []), [some ⟨.view, .ints xs⟩, some ⟨.view, .ints ys⟩, some ⟨.row 44 2, .ints (flat (mgT (ptsA n xs) (ptsA m ys)).2.2)⟩]⟩))
  | _, _, _ => none
set_option maxRecDepth 100000 in
theorem round_mgs (us vs : List Pt) (ha : allW us = true) (hb : allW vs = true) (h : us.length + vs.length ≤ 1000) : Round_mgs us vs := by
  rintro ⟨f, i, j, o⟩ ⟨h1, h2, h3, h4, h5⟩
  rw [tr_mgs]
  simp only [bnd_someK, bnd_noneK, Int.toNat_natCast, Nat.add_zero, Nat.zero_add, flat_get0, flat_get1, flat_length, List.drop_zero, flat_take, List.take_length]
  have fin : ¬ (i < us.length ∧ j < vs.length) → mgT us vs = (i, j, o) := fun c => by
    rw [← h1]
    cases f
    · rfl
    · rw [mgE, if_neg c]
  refine brT_ok.2 ⟨fun c1 => brT_ok.2 ⟨fun c2 => ?_, fun c2 => ?_⟩, fun c1 => ?_⟩
  · have c1 := of_decide_eq_true c1
    have c2 := of_decide_eq_true c2
    have hi : i < us.length := by omega
    have hj : j < vs.length := by omega
    obtain ⟨f, rfl⟩ : ∃ g, f = g + 1 := ⟨f - 1, by omega⟩
    rw [mgE, if_pos ⟨hi, hj⟩] at h1
    have hu := pt2_iff.1 (allW_at ha hi)
    have hv := pt2_iff.1 (allW_at hb hj)
    have p1 := mul_bd (x := (us.getD i (0, 0)).1) (y := (vs.getD j (0, 0)).2) 2000 2000 (by omega) (by omega)
    have p2 := mul_bd (x := (us.getD i (0, 0)).2) (y := (vs.getD j (0, 0)).1) 2000 2000 (by omega) (by omega)
    simp (disch := omega) only [wr]
    have e1 : i * 2 + 2 = (i + 1) * 2 := by omega
    have e2 : j * 2 + 2 = (j + 1) * 2 := by omega
    simp only [e1, e2, Nat.sub_sub, Int.zero_add]
    have ec : (us.getD i (0, 0)).1 * (vs.getD j (0, 0)).2 - (us.getD i (0, 0)).2 * (vs.getD j (0, 0)).1 = cr2 (us.getD i (0, 0)) (vs.getD j (0, 0)) := rfl
    rw [ec]
    generalize hU : us.getD i (0, 0) = u at *
    generalize hV : vs.getD j (0, 0) = v at *
    have sn1 : flat o ++ [u.1, u.2] = flat (o ++ [u]) := flat_snoc o u.1 u.2
    have sn2 : flat o ++ [v.1, v.2] = flat (o ++ [v]) := flat_snoc o v.1 v.2
    have sn3 : flat o ++ [u.1 + v.1, u.2 + v.2] = flat (o ++ [adP u v]) := flat_snoc o (adP u v).1 (adP u v).2
    rw [sn1, sn2, sn3]
    refine ⟨by omega, by omega, by omega, by omega, brT_ok.2 ⟨fun q => ⟨by omega, by omega, by omega, brT_ok.2 ⟨fun r => ?_, fun r => ?_⟩⟩, fun q => brT_ok.2 ⟨fun r => ?_, fun r => ?_⟩⟩⟩
    · have q := of_decide_eq_true q
      have r := of_decide_eq_true r
      rw [if_neg (by omega), if_neg (by omega)] at h1
      refine ⟨by omega, by omega, by omega, by omega, by omega, (f, i + 1, j + 1, o ++ [adP u v]), [some 8], ⟨h1, by omega, by omega, by omega, by simp; omega⟩, ?_, rfl, rfl, ?_⟩
      · show us.length + vs.length - (i + 1) - (j + 1) < us.length + vs.length - i - j; omega
      · repeat' (first | exact True.intro | exact rfl | exact wv_top _ _ | exact fun _ => rfl | (simp; done) | refine And.intro ?_ ?_)
    · have q := of_decide_eq_true q
      have r := of_decide_eq_false r
      rw [if_pos (by omega)] at h1
      refine ⟨by omega, by omega, (f, i + 1, j, o ++ [u]), [some 7], ⟨h1, by omega, by omega, by omega, by simp; omega⟩, ?_, rfl, rfl, ?_⟩
      · show us.length + vs.length - (i + 1) - j < us.length + vs.length - i - j; omega
      · repeat' (first | exact True.intro | exact rfl | exact wv_top _ _ | exact fun _ => rfl | (simp; done) | refine And.intro ?_ ?_)
    · have q := of_decide_eq_false q
      have r := of_decide_eq_true r
      rw [if_neg (by omega), if_pos (by omega)] at h1
      refine ⟨by omega, by omega, by omega, by omega, by omega, (f, i, j + 1, o ++ [v]), [some 7], ⟨h1, by omega, by omega, by omega, by simp; omega⟩, ?_, rfl, rfl, ?_⟩
      · show us.length + vs.length - i - (j + 1) < us.length + vs.length - i - j; omega
      · repeat' (first | exact True.intro | exact rfl | exact wv_top _ _ | exact fun _ => rfl | (simp; done) | refine And.intro ?_ ?_)
    · have q := of_decide_eq_false q
      have r := of_decide_eq_false r
      omega
  · have c2 := of_decide_eq_false c2
    have e := fin (by omega)
    refine ⟨rfl, [some 2], ?_⟩
    simp only [rs_mgs, e]
    repeat' (first | exact True.intro | exact rfl | exact wv_top _ _ | exact fun _ => rfl | (simp; done) | refine And.intro ?_ ?_)
  · have c1 := of_decide_eq_false c1
    have e := fin (by omega)
    refine ⟨rfl, [some 2], ?_⟩
    simp only [rs_mgs, e]
    repeat' (first | exact True.intro | exact rfl | exact wv_top _ _ | exact fun _ => rfl | (simp; done) | refine And.intro ?_ ?_)
set_option maxRecDepth 100000 in
theorem lg_mgs : LoopE Try.prog e_mgs c_mgs := by
  intro s k t F H hlt ht
  unfold e_mgs at hlt
  split at hlt
  rotate_left
  · cases hlt
  rename_i hlen hpick hmem
  obtain ⟨tmps, mem⟩ := s
  simp only at hlen hpick hmem
  subst hmem
  obtain rfl := Option.some.inj hlt
  obtain ⟨⟨h1, h2, h3, h4, h5, _⟩, ht2⟩ := needs_ok ht
  clear ht hlt
  obtain ⟨us, rfl, rfl⟩ := even_flat h1
  obtain ⟨vs, rfl, rfl⟩ := even_flat h2
  rw [ptsA_flat] at h3 h4
  simp only [ptsA_flat] at ht2
  refine ⟨_, _, ht2, loop_run2 mixed EGa_ok (s_mgs us vs) (inv_mgs us vs) (me_mgs us vs) re_mgs (rs_mgs us vs) k_mgs (fun _ => rfl) (noLoops nl_mgs) (round_mgs us vs h3 h4 h5) (x := (us.length + vs.length, 0, 0, [])) ⟨rfl, by omega, Nat.zero_le _, Nat.zero_le _, Nat.le_refl _⟩ (π := [none]) rfl ?_⟩
  refine ⟨rfl, rfl, ?_, wvs_spread' [0, 1, 5] hlen rfl ?_⟩
  · repeat' (first | exact True.intro | exact rfl | exact wv_top _ _ | exact fun _ => rfl | assumption | exact Eq.symm (by assumption) | exact vI0 rfl | refine And.intro ?_ ?_)
  · rw [hpick]
    repeat' (first | exact True.intro | exact rfl | exact wv_top _ _ | exact fun _ => rfl | assumption | exact Eq.symm (by assumption) | exact vI0 rfl | refine And.intro ?_ ?_)
end Go.Proofs.Ytolodncpegajkab
namespace Go.Proofs.Ytolodncpegajkab
set_option linter.all false
open Go.RowKit
set_option maxRecDepth 100000 in
theorem u_pts : Try.prog.underlying 39 = some (.slice 44) := by kernel_rfl
theorem nilNil_run (t e : TypeId) (w : World) (c c' : Nat) (h : Try.prog.underlying t = some (.slice e)) : (binOp .eql t (.slice none 0 c) (.slice none 0 c')).run Try.prog w = .ok (.bool true) w := by
  have he : ∀ d, (Op.equalIn (d + 1) t (.slice none 0 c) (.slice none 0 c')).run Try.prog w = .ok true w := fun d => by simp [Op.equalIn, run_underlying h]
  simp only [binOp]
  simp [Op.equal, Op.maxDepth, he 9999]
set_option maxRecDepth 100000 in
theorem cln_zero (ad : Option Addr) (c : Nat) (w : World) : Calls Try.prog 102 #[.slice ad 0 c] w fun e w' => ∃ v' p, e = .returned v' ∧ Below w.heap.size w w' ∧
    ∀ (ρ : Nat → Option Pl) (name : Nat), ρ name = some p → VR ρ (.slice (some ⟨name, 0, none⟩) 0 0) v' ∧ BlkOk ρ (fun k => k < w.heap.size) w' name ⟨.row 44 2, .ints []⟩ := by
  cases ad with
  | none =>
    have hn := fun W => nilNil_run 39 44 W c 0 u_pts
    go_enter Try.func102, Try.ntmps102
    go_wp2
    go_ret
    exact ⟨_, (0, 1, some 0), rfl, Below.refl _ _, fun ρ name h => ⟨.nil_ h ⟨rfl, 0, rfl⟩ rfl (fun _ => ⟨rfl, rfl⟩), .inl ⟨_, h, rfl, rfl⟩⟩⟩
  | some a =>
    have hn := fun W => eqNil_run (P := Try.prog) 39 44 a 0 c W u_pts false
    simp only [opB, negB] at hn
    go_enter Try.func102, Try.ntmps102
    go_wp2
    go_ret
    refine ⟨_, (w.heap.size, 0, some 0), rfl, na (nr _) _, fun ρ name h => ⟨.slice (f := 0) h (.inl rfl) (Nat.le_refl _) (fun k hk _ => by simpa using hk), .inr ⟨w.heap.size, 0, h, Nat.lt_irrefl _, #[], heap_alloc_new w _, rfl, fun k v hk => by simp [Blk.cells, Cs.list] at hk⟩⟩⟩
end Go.Proofs.Ytolodncpegajkab
namespace Go.Proofs.Ytolodncpegajkab
set_option linter.all false
open Go.RowKit
set_option maxRecDepth 100000 in
theorem grow_any (n : Int) (h : 0 < n ∧ n ≤ 1000) (w : World) : Calls Try.prog 134 #[.slice none 0 0, .int .i64 n] w fun e w' => ∃ v' p, e = .returned v' ∧ Below w.heap.size w w' ∧
    ∀ (ρ : Nat → Option Pl) (name : Nat), ρ name = some p → VR ρ (.slice (some ⟨name, 0, none⟩) 0 0) v' ∧ BlkOk ρ (fun k => k < w.heap.size) w' name ⟨.row 44 2, .ints []⟩ := by
  have h1 : decide (n < 0) = false := decide_eq_false (by omega)
  have h2 : decide (0 < n) = true := decide_eq_true (by omega)
  have hb : Try.t44.bytes = 16 := rfl
  have hc : Builtin.nextslicecap n.toNat 0 = n.toNat := nextslicecap_zero (by omega)
  have hge : n.toNat ≤ (Question.appendCap n.toNat 0 44).cut (w.tape w.drawn (Question.appendCap n.toNat 0 44)) := grownCap_ge w n.toNat 0 44
  have HG := Lib.hid hge
  clear hge
  go_enter Try.func134, Try.ntmps134
  go_wp2_with fail
  all_goals (try (exfalso; first | omega | (rw [hb] at *; omega) | (rw [hc, hb] at *; omega)))
  have hge := HG.out
  clear HG
  go_ret
  refine ⟨_, rfl, Below.drew (na (nr _) _), w.heap.size, 0, some ((Question.appendCap n.toNat 0 44).cut (w.tape w.drawn (Question.appendCap n.toNat 0 44))), fun ρ name hn => ⟨.slice (f := 0) hn (.inl rfl) (Nat.zero_le _) (fun k hk _ => by simpa using hk), .inr ⟨w.heap.size, _, hn, Nat.lt_irrefl _, _, heap_alloc_new w _, ?_, fun k v hk => by simp [Blk.cells, Cs.list] at hk⟩⟩⟩
  rw [Array.size_append, size_zeroCells, size_zeroCells]
  simp only [List.size_toArray, List.length_cons, List.length_nil]
  omega
set_option maxRecDepth 100000 in
theorem resR_grw (n : Int) (h : 0 < n ∧ n ≤ 1000) : ResR Try.prog 134 [.v (.slice none 0 0), .v (.int .i64 n)] (.slice (some ⟨0, 0, none⟩) 0 0) ⟨.row 44 2, .ints []⟩ := by
  refine ⟨(entersB_res (by kernel_rfl)).1, (entersB_res (by kernel_rfl)).2, rfl, fun d hd => ?_, fun w args hd => ?_⟩
  · rcases List.mem_cons.1 hd with rfl | hd
    · exact rfl
    · rw [List.mem_singleton.1 hd]
      exact rfl
  · obtain ⟨h1, h2⟩ := hd
    obtain ⟨x0, x1, rfl⟩ : ∃ x0 x1, args = #[x0, x1] := by
      have h3 : args.size = 2 := by simpa using h1.symm
      match args, h3 with
      | ⟨[x0, x1]⟩, _ => exact ⟨x0, x1, rfl⟩
    obtain ⟨_, rfl⟩ := h2 0 _ x0 rfl rfl
    obtain ⟨_, rfl⟩ := h2 1 _ x1 rfl rfl
    exact grow_any n h w
end Go.Proofs.Ytolodncpegajkab
namespace Go.Proofs.Ytolodncpegajkab
set_option linter.all false
open Go.Shelf
def sortPt_ren : Go.Shelf.Ren := ⟨fun | 6 => 103 | 15 => 139 | 14 => 138 | 28 => 163 | 29 => 164 | 20 => 155 | 21 => 156 | 22 => 157 | 23 => 158 | 24 => 159 | 25 => 160 | 26 => 161 | 27 => 162 | 46 => 179 | 47 => 180 | 48 => 181 | 49 => 182 | 50 => 183 | 57 => 187 | n => n, fun | 22 => 39 | 24 => 44 | 25 => 115 | 3 => 3 | 39 => 145 | 0 => 0 | 53 => 160 | 55 => 162 | 4 => 4 | 46 => 154 | 45 => 153 | 50 => 83 | 5 => 5 | 9 => 9 | 66 => 169 | 70 => 173 | 76 => 177 | 77 => 90 | n => n, fun | n => n⟩
theorem sortPt : Go.Proofs.SlLaysF0.n6 Try.prog sortPt_ren := {
  mixed := by kernel_rfl
  f6 := ⟨Try.f103.name, by decide, Try.func103.trans (congrArg some (by kernel_rfl))⟩
  f14 := ⟨Try.f138.name, by decide, Try.func138.trans (congrArg some (by kernel_rfl))⟩
  f15 := Try.func139.trans (congrArg some (by kernel_rfl))
  f20 := ⟨Try.f155.name, by decide, Try.func155.trans (congrArg some (by kernel_rfl))⟩
  f21 := ⟨Try.f156.name, by decide, Try.func156.trans (congrArg some (by kernel_rfl))⟩
  f22 := ⟨Try.f157.name, by decide, Try.func157.trans (congrArg some (by kernel_rfl))⟩
  f23 := ⟨Try.f158.name, by decide, Try.func158.trans (congrArg some (by kernel_rfl))⟩
  f24 := ⟨Try.f159.name, by decide, Try.func159.trans (congrArg some (by kernel_rfl))⟩
  f25 := ⟨Try.f160.name, by decide, Try.func160.trans (congrArg some (by kernel_rfl))⟩
  f26 := ⟨Try.f161.name, by decide, Try.func161.trans (congrArg some (by kernel_rfl))⟩
  f27 := ⟨Try.f162.name, by decide, Try.func162.trans (congrArg some (by kernel_rfl))⟩
  f28 := Try.func163.trans (congrArg some (by kernel_rfl))
  f29 := Try.func164.trans (congrArg some (by kernel_rfl))
  f46 := ⟨Try.f179.name, by decide, Try.func179.trans (congrArg some (by kernel_rfl))⟩
  f47 := Try.func180.trans (congrArg some (by kernel_rfl))
  f48 := Try.func181.trans (congrArg some (by kernel_rfl))
  f49 := ⟨Try.f182.name, by decide, Try.func182.trans (congrArg some (by kernel_rfl))⟩
  f50 := ⟨Try.f183.name, by decide, Try.func183.trans (congrArg some (by kernel_rfl))⟩
  f57 := ⟨Try.f187.name, by decide, Try.func187.trans (congrArg some (by kernel_rfl))⟩
  t0 := Try.underlying0
  a0 := Try.isAgg0
  z0 := Try.sizeOf0
  v0 := Try.zeroValue0
  t3 := Try.underlying3
  a3 := Try.isAgg3
  z3 := Try.sizeOf3
  v3 := Try.zeroValue3
  t4 := Try.underlying4
  a4 := Try.isAgg4
  z4 := Try.sizeOf4
  v4 := Try.zeroValue4
  t5 := Try.underlying5
  a5 := Try.isAgg5
  z5 := Try.sizeOf5
  v5 := Try.zeroValue5
  t9 := Try.underlying9
  a9 := Try.isAgg9
  z9 := Try.sizeOf9
  v9 := Try.zeroValue9
  t22 := Try.underlying39
  a22 := Try.isAgg39
  z22 := Try.sizeOf39
  v22 := Try.zeroValue39
  t25 := Try.underlying115
  a25 := Try.isAgg115
  z25 := Try.sizeOf115
  v25 := Try.zeroValue115
  t39 := Try.underlying145
  a39 := Try.isAgg145
  z39 := Try.sizeOf145
  v39 := Try.zeroValue145
  t45 := Try.underlying153
  a45 := Try.isAgg153
  z45 := Try.sizeOf153
  v45 := Try.zeroValue153
  t46 := Try.underlying154
  a46 := Try.isAgg154
  z46 := Try.sizeOf154
  v46 := Try.zeroValue154
  t50 := Try.underlying83
  a50 := Try.isAgg83
  z50 := Try.sizeOf83
  v50 := Try.zeroValue83
  t53 := Try.underlying160
  a53 := Try.isAgg160
  z53 := Try.sizeOf160
  v53 := Try.zeroValue160
  t55 := Try.underlying162
  a55 := Try.isAgg162
  z55 := Try.sizeOf162
  v55 := Try.zeroValue162
  t66 := Try.underlying169
  a66 := Try.isAgg169
  z66 := Try.sizeOf169
  v66 := Try.zeroValue169
  t70 := Try.underlying173
  a70 := Try.isAgg173
  z70 := Try.sizeOf173
  v70 := Try.zeroValue173
  t76 := Try.underlying177
  a76 := Try.isAgg177
  z76 := Try.sizeOf177
  v76 := Try.zeroValue177
  t77 := Try.underlying90
  a77 := Try.isAgg90
  z77 := Try.sizeOf90
  v77 := Try.zeroValue90 }
end Go.Proofs.Ytolodncpegajkab
namespace Go.Proofs.Ytolodncpegajkab
set_option linter.all false
open Go.RowKit Go.Sort
def orI (x y : Int) : Int := if x = 0 then y else x
theorem or2_any (b c : Nat) (x y : Int) (w : World) (h0 : w.cell? ⟨b, 0, none⟩ = some (.int .i64 x)) (h1 : w.cell? ⟨b, 1, none⟩ = some (.int .i64 y)) :
    Calls Try.prog 140 #[.slice (some ⟨b, 0, none⟩) 2 c] w fun e w' => e = .returned (.int .i64 (orI x y)) ∧ w = w' := by
  go_enter Try.func140, Try.ntmps140
  go_wp2
  go_loopw [8] (fun i wr => ∃ k : Nat, k ≤ 2 ∧ i = .int .i64 k ∧ (1 ≤ k → x = 0) ∧ (2 ≤ k → y = 0) ∧ w = wr) (fun i _ => 2 - (intOf i).toNat)
  case atStart => exact ⟨0, Nat.zero_le _, rfl, fun h => by omega, fun h => by omega, rfl⟩
  case round =>
    obtain ⟨k, hk, rfl, hx, hy, rfl⟩ := hrel
    by_cases k0 : k = 0
    · subst k0
      by_cases x0 : x = 0
      · subst x0
        clear hx hy
        go_wp2
        exact ⟨⟨1, by omega, rfl, fun _ => trivial, fun h => by omega, trivial⟩, by simp [intOf]⟩
      · have E := Lib.hid (show orI x y = x by unfold orI; rw [if_neg x0])
        clear hx hy
        go_wp2
        go_ret
        exact ⟨ret_int E.out.symm, rfl⟩
    · by_cases k1 : k = 1
      · subst k1
        obtain rfl := hx (by omega)
        by_cases y0 : y = 0
        · subst y0
          go_wp2
          exact ⟨⟨2, by omega, rfl, fun _ => trivial, fun _ => trivial, trivial⟩, by simp [intOf]⟩
        · have E := Lib.hid (show orI 0 y = y by unfold orI; rw [if_pos rfl])
          go_wp2
          go_ret
          exact ⟨ret_int E.out.symm, rfl⟩
      · obtain rfl : k = 2 := by omega
        obtain rfl := hx (by omega)
        obtain rfl := hy (by omega)
        have E := Lib.hid (show orI 0 0 = 0 by unfold orI; rw [if_pos rfl])
        go_wp2
        go_ret
        exact ⟨ret_int E.out.symm, rfl⟩
/-- Point.compare -/
def cmpQ (a b c d : Int) : Int := orI (sgn (a - c)) (sgn (b - d))
theorem cmpPt_any (a b c d : Int) (w : World) :
    Calls Try.prog 104 #[.agg #[.int .i64 a, .int .i64 b], .agg #[.int .i64 c, .int .i64 d]] w fun e w' => e = .returned (.int .i64 (cmpQ a b c d)) ∧ ∃ q os', w' = grow (w.drewN q) os' := by
  go_enter Try.func104, Try.ntmps104
  go_wp2_with fail
  go_region_held3 (fun w' => w'.cell? ⟨w.heap.size, 0, none⟩ = some (.int .i64 a) ∧ w'.cell? ⟨w.heap.size, 1, none⟩ = some (.int .i64 b) ∧ w'.cell? ⟨w.heap.size + 1, 0, none⟩ = some (.int .i64 c) ∧ w'.cell? ⟨w.heap.size + 1, 1, none⟩ = some (.int .i64 d))
    (first | (simp [*, go_sem]; done))
    (first
      | (go_at_call 141; refine (compare_any _ _ _).mono ?_; rintro e wx ⟨rfl, rfl⟩)
      | (go_at_call 140; refine (or2_any _ _ (sgn (a - c)) (sgn (b - d)) _ (by simp [go_sem]; done) (by simp [go_sem]; done)).mono ?_; rintro e wx ⟨rfl, rfl⟩))
  go_wp2
  go_ret
  refine ⟨rfl, 1, _, (?_ : _ = grow (w.drewN 1) #[.cells #[.int .i64 a, .int .i64 b] 44, .cells #[.int .i64 c, .int .i64 d] 44, .cells #[.int .i64 (sgn (a - c)), .int .i64 (sgn (b - d))] 3])⟩
  rw [alloc_eq_grow, alloc_eq_grow, alloc_eq_grow, grow_grow, grow_grow]
  rfl
end Go.Proofs.Ytolodncpegajkab
namespace Go.Proofs.Ytolodncpegajkab
set_option linter.all false
open Go.RowKit Go.Sort Go.Lib
def encP (p : Pt) : List Value := [.int .i64 p.1, .int .i64 p.2]
def cfP (p q : Pt) : Int := cmpQ p.1 p.2 q.1 q.2
theorem cfP_lt (p q : Pt) : ltOf cfP p q = pltB p q := by
  unfold ltOf
  rw [Bool.eq_iff_iff, pltB_iff, decide_eq_true_eq]
  unfold cfP cmpQ orI sgn
  split <;> (try split) <;> (try split) <;> (try split) <;> omega
theorem swoP : SWO (ltOf cfP) where
  irrefl x := by rw [cfP_lt]; exact plt_irr
  trans x y z h1 h2 := by rw [cfP_lt] at *; exact plt_trans h1 h2
  ntrans x y z h1 h2 := by
    rw [cfP_lt] at *
    rw [← Bool.not_eq_true, pltB_iff] at *
    omega
/-- Points in order. -/
def sortP (ps : List Pt) : List Pt := ps.mergeSort fun x y => !(pltB y x)
theorem sortP_len (ps : List Pt) : (sortP ps).length = ps.length := List.length_mergeSort _
theorem sortP_mem (ps : List Pt) (z : Pt) : z ∈ sortP ps ↔ z ∈ ps := List.mem_mergeSort
theorem sortP_up (ps : List Pt) : (sortP ps).Pairwise fun x y => pltB y x = false := by
  have := List.pairwise_mergeSort (le := fun x y => !(pltB y x)) (fun a b c h1 h2 => by
    simp only [Bool.not_eq_true', ← Bool.not_eq_true, pltB_iff] at *
    omega) (fun a b => by
    simp only [Bool.or_eq_true, Bool.not_eq_true', ← Bool.not_eq_true, pltB_iff]
    omega) ps
  exact this.imp fun h => by simpa using h
theorem sort_any (ps : List Pt) (blk cap : Nat) (w : World) (hH : HoldsK encP 2 w blk 0 ps.toArray) (hblk : blk < w.heap.size) (hsz : ps.length < 4611686018427387904) :
    Calls Try.prog 103 #[.slice (some ⟨blk, 0, none⟩) ps.length cap, .func (.func 104) #[] #[]] w fun e w' => e = .returned (.tuple #[]) ∧ ∃ n os, w' = sortWorldK encP 2 w blk 0 n (sortP ps).toArray os := by
  have eg : ∀ args w, (callFunc 104 args).run Try.prog w = .ok (.enter 104 args) w := Go.Proofs.enters_of Try.func104 (by kernel_rfl) rfl
  have h := AnyQ.slices_SortFunc_total sortPt 2 Try.isAgg44 Try.sizeOf44 encP (fun _ => rfl) (fun x v hv => by simp [encP] at hv; rcases hv with rfl | rfl <;> rfl) cfP swoP 104 #[] blk 0 cap ps.toArray w eg (fun _ _ _ _ x y => cmpPt_any _ _ _ _ _) hH hblk (by simpa using hsz) (fun x y h1 h2 => by
    rw [cfP_lt] at h1 h2
    refine Classical.byContradiction fun hne => ?_
    have := plt_tri h1 hne
    rw [h2] at this
    cases this)
  have e : (fun x y => !(ltOf cfP) y x) = fun x y => !(pltB y x) := by
    funext x y
    rw [cfP_lt]
  simp only [e] at h
  change Calls Try.prog 103 _ _ _ at h
  simpa [sortP] using h
theorem sort_none (p : Option Addr) (cap : Nat) (fv : Value) (w : World) :
    Calls Try.prog 103 #[.slice p 0 cap, fv] w fun e w' => e = .returned (.tuple #[]) ∧ w' = w := AnyF.slices_SortFunc_none sortPt p cap fv w
theorem flatK_flat (ps : List Pt) : flatK encP 2 ps.toArray = ((flat ps).map (Value.int .i64)).toArray := by
  apply Array.ext
  · simp [flat_length]
  · intro i h1 h2
    have h1' : i < ps.length * 2 := by simpa using h1
    have hq : i / 2 < ps.length := by omega
    have e := get_flatK encP 2 ps.toArray i (by simpa using h1')
    rw [getElem!_pos _ i h1] at e
    rw [e]
    have hg := flat_get ps (i / 2)
    have hd : ps.getD (i / 2) (0, 0) = ps[i / 2] := by simp [List.getD, hq]
    rw [hd] at hg
    have hp : ps.toArray[i / 2]! = ps[i / 2] := by simp [hq]
    rw [hp]
    have hl : i < (flat ps).length := by rw [flat_length]; exact h1'
    have hr : ((flat ps).map (Value.int .i64)).toArray[i] = .int .i64 ((flat ps).getD i 0) := by simp [List.getD, hl]
    rw [hr]
    rcases Nat.mod_two_eq_zero_or_one i with h | h
    · have hi : i = i / 2 * 2 := by omega
      rw [h, show (flat ps).getD i 0 = (flat ps).getD (i / 2 * 2) 0 by rw [← hi], hg.1]
      rfl
    · have hi : i = i / 2 * 2 + 1 := by omega
      rw [h, show (flat ps).getD i 0 = (flat ps).getD (i / 2 * 2 + 1) 0 by rw [← hi], hg.2]
      rfl
def soG (cf : FuncId) (args : List Value) : Rd Eff := match args with
  | [.slice (some ⟨nr, 0, none⟩) l _, .func (.func g) ⟨[]⟩ ⟨[]⟩] => .blk nr fun b => match b with
    | some ⟨.row e 2, .ints xs⟩ => (match Nat.beq g cf with
      | true => .ret ⟨.tuple #[], [(nr, ⟨.row e 2, .ints (flat (sortP (ptsA l xs)))⟩)], [xs.length = l * 2, l ≤ 1000000000]⟩
      | false => .fail)
    | _ => .fail
  | _ => .fail
theorem sw_heap (w : World) (blk n : Nat) (d : Array Pt) (os : Array Obj) : (sortWorldK encP 2 w blk 0 n d os).os = w.os ∧ (sortWorldK encP 2 w blk 0 n d os).tape = w.tape ∧ (sortWorldK encP 2 w blk 0 n d os).output = w.output ∧ w.heap.size ≤ (sortWorldK encP 2 w blk 0 n d os).heap.size ∧
    (∀ k, k < w.heap.size → k ≠ blk → (sortWorldK encP 2 w blk 0 n d os).heap[k]? = w.heap[k]?) ∧ ∀ cs e, w.heap[blk]? = some (.cells cs e (0, 0)) → (sortWorldK encP 2 w blk 0 n d os).heap[blk]? = some (.cells (putCells id 0 (flatK encP 2 d) cs) e (0, 0)) := by
  refine ⟨rfl, rfl, rfl, ?_, ?_, ?_⟩
  · simp [sortWorldK, grow, putRowK, putRow, mapBlock, ahead]
  · intro k hk hne
    simp [sortWorldK, grow, putRowK, putRow, mapBlock, ahead, Array.getElem?_append, hk]
    rw [Array.getElem_modify, if_neg (Ne.symm hne)]
  · intro cs e h
    have hk : blk < w.heap.size := (Array.getElem?_eq_some_iff.1 h).1
    have ha : (Sort.ahead w n).heap = w.heap := rfl
    simp only [sortWorldK, grow, putRowK, putRow, mapBlock, Array.getElem?_append, Array.size_modify, Array.getElem?_modify, ha, hk, if_true, h]
    rfl
theorem soG_sound {J : TabJ} (hJ : GSound Try.prog J.g) : GSound Try.prog (consJ 103 (fun _ => soG 104) J).g := by
  intro h name args s eff hr hn
  simp only [consJ] at hr
  split at hr
  rotate_left
  · exact hJ h name args s eff hr hn
  rename_i heq
  obtain rfl := Nat.eq_of_beq_eq_true heq
  refine ⟨(entersB_res (by kernel_rfl)).1, fun B ρ0 ρ w args' ha hm hB hcond => ?_⟩
  unfold soG at hr
  split at hr
  rotate_left
  · simp [Rd.run] at hr
  rename_i nr l c g
  simp only [Rd.run] at hr
  split at hr
  rotate_left
  · simp [Rd.run] at hr
  rename_i e xs hb
  split at hr
  rotate_left
  · simp [Rd.run] at hr
  rename_i hg
  obtain rfl := Nat.eq_of_beq_eq_true hg
  obtain rfl : (⟨.tuple #[], [(nr, ⟨.row e 2, .ints (flat (sortP (ptsA l xs)))⟩)], [xs.length = l * 2, l ≤ 1000000000]⟩ : Eff) = eff := by simpa [Rd.run] using hr
  obtain ⟨hxl, hl, _⟩ := hcond
  obtain ⟨ps, rfl, rfl⟩ := even_flat hxl
  rw [ptsA_flat]
  obtain ⟨hsz, hval⟩ := ha
  obtain ⟨x0, x1, rfl⟩ : ∃ x0 x1, args' = #[x0, x1] := by
    have h2 : args'.size = 2 := by simpa using hsz.symm
    match args', h2 with
    | ⟨[x0, x1]⟩, _ => exact ⟨x0, x1, rfl⟩
  have v0 := hval 0 _ x0 rfl rfl
  have v1 := hval 1 _ x1 rfl rfl
  obtain rfl := v1.plain rfl
  rw [upd_one]
  have hok := hm.ok nr _ hb
  have none_ : ∀ ad c', ps = [] → x0 = .slice ad 0 c' → Calls Try.prog 103 #[x0, .func (.func 104) #[] #[]] w fun e' w' => ∃ v' ρ', e' = .returned v' ∧ Ext ρ ρ' ∧ VR ρ' (.tuple #[]) v' ∧ BelowK B w w' ∧ MemOk ρ0 ρ' B (setB s.blk nr ⟨.row e 2, .ints (flat (sortP ps))⟩) w' := by
    rintro ad c' rfl rfl
    refine (sort_none _ _ _ _).mono ?_
    rintro e' w' ⟨rfl, rfl⟩
    refine ⟨_, ρ, rfl, Ext.refl ρ, .lit rfl, BelowK.refl _ _, ?_⟩
    have e0 : sortP [] = [] := by simp [sortP]
    rw [e0]
    rcases hok with ⟨p, k1, k2, k3⟩ | ⟨g, cap, k1, k2, cs', k3, k4, k5⟩
    · exact hm.setNil hb k1 ⟨k2, 0, k3⟩ (.inl ⟨p, k1, k2, k3⟩)
    · exact hm.set hb rfl k1 (okPl.not (.inl rfl)) (Nat.le_refl _) (fun k _ _ => rfl) (.inr ⟨g, cap, k1, k2, cs', k3, k4, k5⟩)
  rcases v0.slice_inv with ⟨g, f, cp, c', j1, jok, j2, j3, j4⟩ | ⟨hl0, _, ad, c', j2⟩ | ⟨hl0, ad, c', p, j2, _, _, _⟩
  rotate_left
  · exact none_ _ _ (List.eq_nil_of_length_eq_zero hl0) j2
  · exact none_ _ _ (List.eq_nil_of_length_eq_zero hl0) j2
  rcases hok with ⟨p, k1, k2, k3⟩ | ⟨g2, cap, k1, k2, cs', k3, k4, k5⟩
  · rw [k1] at j1
    obtain rfl : p = (g, f, cp) := by simpa using j1
    exact absurd ⟨k2, 0, k3⟩ jok.not
  rw [k1] at j1
  obtain ⟨rfl, rfl, rfl⟩ : g2 = g ∧ 0 = f ∧ some cap = cp := by simpa using j1
  subst j2
  have hcell : ∀ j, j < ps.length * 2 → cs'[j]? = some (.int .i64 ((flat ps).getD j 0)) := fun j hj => by
    have hjl : j < (flat ps).length := by rw [flat_length]; exact hj
    obtain ⟨v', h6, h7⟩ := k5 j (.int .i64 ((flat ps).getD j 0)) (by show ((flat ps).map (Value.int .i64))[j]? = _; simp [List.getD, hjl])
    rw [h7.plain rfl] at h6
    exact h6
  have hH : HoldsK encP 2 w g2 0 ps.toArray := by
    intro j hj
    have hj' : j < ps.length * 2 := by simpa using hj
    have hjl : j < (flat ps).length := by rw [flat_length]; exact hj'
    refine ⟨?_, ?_⟩
    · simp only [World.cell?, Nat.zero_add, k3, Option.isSome_none, Bool.false_eq_true, if_false, hcell j hj', flatK_flat]
      simp [List.getD, hjl]
    · simp [World.frozen?, k3]
  have hg : g2 < w.heap.size := (Array.getElem?_eq_some_iff.1 k3).1
  refine (sort_any ps g2 c' w hH hg (by omega)).mono ?_
  rintro e' w' ⟨rfl, n, os, rfl⟩
  obtain ⟨s1, s2, s3, s4, s5, s6⟩ := sw_heap w g2 n (sortP ps).toArray os
  refine ⟨_, ρ, rfl, Ext.refl ρ, .lit rfl, ⟨s1, s2, s3, s4, fun k hk => s5 k (hB k hk) fun e => k2 (e ▸ hk)⟩, ?_⟩
  refine hm.set hb rfl k1 (okPl.not (.inl rfl)) s4 (fun k hk hne => s5 k hk hne) (.inr ⟨g2, cap, k1, k2, _, s6 cs' e k3, ?_, ?_⟩)
  · simpa [putCells] using k4
  · intro k v hk
    have hk' : ((flat (sortP ps)).map (Value.int .i64))[k]? = some v := hk
    have hkl : k < ps.length * 2 := by
      have := (List.getElem?_eq_some_iff.1 hk').1
      rw [List.length_map, flat_length, sortP_len] at this
      exact this
    have hkc : k < cs'.size := (Array.getElem?_eq_some_iff.1 (hcell k hkl)).1
    refine ⟨v, ?_, ?_⟩
    · rw [flatK_flat]
      simp only [putCells, Array.getElem?_mapIdx, Array.getElem?_eq_getElem hkc, Option.map_some, Nat.zero_le, true_and, Nat.zero_add, List.size_toArray, List.length_map, flat_length, sortP_len, hkl, if_true, Nat.sub_zero, id]
      rw [← hk']
      have hkl2 : k < (flat (sortP ps)).length := by rw [flat_length, sortP_len]; exact hkl
      simp [hkl2]
    · obtain ⟨y, _, rfl⟩ := List.mem_map.1 (List.mem_of_getElem? hk')
      exact .lit rfl
end Go.Proofs.Ytolodncpegajkab
namespace Go.Proofs.Ytolodncpegajkab
set_option linter.all false
open Go.RowKit
/-- Of so many from i on, all. -/
def allQ (P : Nat → Bool) : Nat → Nat → Bool
  | _, 0 => true
  | i, m + 1 => P i && allQ P (i + 1) m
theorem allQ_step {P : Nat → Bool} {i n : Nat} (h : i < n) : allQ P i (n - i) = (P i && allQ P (i + 1) (n - (i + 1))) := by
  rw [show n - i = (n - (i + 1)) + 1 by omega]
  rfl
theorem allQ_end {P : Nat → Bool} {i n : Nat} (h : n ≤ i) : allQ P i (n - i) = true := by
  rw [show n - i = 0 by omega]
  rfl
theorem allQ_get {P : Nat → Bool} : ∀ (m i : Nat), allQ P i m = true → ∀ j, i ≤ j → j < i + m → P j = true
  | 0, i, _, j, h1, h2 => by omega
  | m + 1, i, h, j, h1, h2 => by
    simp only [allQ, Bool.and_eq_true] at h
    rcases Nat.lt_or_ge i j with h3 | h3
    · exact allQ_get m (i + 1) h.2 j (by omega) (by omega)
    · obtain rfl : j = i := by omega
      exact h.1
end Go.Proofs.Ytolodncpegajkab
namespace Go.Proofs.Ytolodncpegajkab
set_option linter.all false
open Go.RowKit
/-- The first m points, each once where equal ones stand side by side. -/
def cmN (ps : List Pt) : Nat → List Pt
  | 0 => []
  | m + 1 => if m = 0 ∨ ps.getD m (0, 0) ≠ ps.getD (m - 1) (0, 0) then cmN ps m ++ [ps.getD m (0, 0)] else cmN ps m
def cmP (ps : List Pt) : List Pt := cmN ps ps.length
def dupA (ps : List Pt) (i : Nat) : Bool := ps.getD i (0, 0) == ps.getD (i - 1) (0, 0)
theorem cmN_le (ps : List Pt) : ∀ m, (cmN ps m).length ≤ m
  | 0 => Nat.le_refl _
  | m + 1 => by
    have := cmN_le ps m
    simp only [cmN]
    split
    · simp; omega
    · omega
theorem cmN_take {ps : List Pt} : ∀ m, m ≤ ps.length → (∀ j, 1 ≤ j → j < m → dupA ps j = false) → cmN ps m = ps.take m
  | 0, _, _ => rfl
  | m + 1, hm, h => by
    have ih := cmN_take m (by omega) fun j h1 h2 => h j h1 (by omega)
    simp only [cmN]
    have ht : ps.take (m + 1) = ps.take m ++ [ps.getD m (0, 0)] := by
      rw [List.take_add_one]
      simp [List.getD, show m < ps.length by omega]
    rw [ht, ← ih]
    rcases Nat.eq_zero_or_pos m with h0 | h0
    · rw [if_pos (.inl h0)]
    · have := h m h0 (by omega)
      unfold dupA at this
      rw [beq_eq_false_iff_ne] at this
      rw [if_pos (.inr this)]
def ECp : Env := tabE B0
theorem ECp_ok : EnvOk Try.prog ECp := tabE_ok B0_ok
noncomputable def c_cpI : Code := ((loopsOf (codeOf Try.f105))[1]?).getD .skip
def k_cpI : Ex → List Nat := keeps [0, 3, 4, 5] [(2, [0, 3]), (1, [0, 3]), (0, [0])] [2]
def s_cpI (ps : List Pt) (k0 : Nat) : Nat × Nat × (List Pt) → St := fun (j, q, X) => ⟨(.slice (some ⟨0, 0, none⟩) ps.length ps.length :: topV :: topV :: .int .i64 q :: .slice (some ⟨0, k0 * 2, none⟩) (ps.length - k0) (ps.length - k0) :: .int .i64 j :: topV :: topV :: topV :: topV :: topV :: topV :: topV :: topV :: topV :: topV :: topV :: topV :: topV :: topV :: topV :: topV :: topV :: topV :: topV :: topV :: topV :: topV :: topV :: topV :: topV :: topV :: topV :: topV :: topV :: topV :: topV :: topV :: topV :: topV :: topV :: topV :: topV :: topV :: topV :: topV :: topV :: topV :: topV :: topV :: topV :: topV :: topV :: topV :: topV :: topV :: topV :: topV :: topV :: topV :: topV :: []), [some ⟨.row 44 2, .ints (flat X)⟩]⟩
def re_cpI : Nat × Nat × (List Pt) → Ex := fun _ => .exit 2
def rs_cpI (ps : List Pt) (k0 : Nat) : Nat × Nat × (List Pt) → St := fun (j, q, X) => ⟨(.slice (some ⟨0, 0, none⟩) ps.length ps.length :: topV :: topV :: .int .i64 ((cmN ps ps.length).length : Nat) :: topV :: topV :: topV :: topV :: topV :: topV :: topV :: topV :: topV :: topV :: topV :: topV :: topV :: topV :: topV :: topV :: topV :: topV :: topV :: topV :: topV :: topV :: topV :: topV :: topV :: topV :: topV :: topV :: topV :: topV :: topV :: topV :: topV :: topV :: topV :: topV :: topV :: topV :: topV :: topV :: topV :: topV :: topV :: topV :: topV :: topV :: topV :: topV :: topV :: topV :: topV :: topV :: topV :: topV :: topV :: topV :: topV :: []), [some ⟨.row 44 2, .ints (flat (cmN ps ps.length ++ ps.drop (cmN ps ps.length).length))⟩]⟩
set_option maxRecDepth 100000 in
theorem tr_cpI (ps : List Pt) (k0 : Nat) (j q : Nat) (X : List Pt) : bodyL Try.prog ECp 30 12 noL 2 c_cpI k_cpI 1 (s_cpI ps k0 (j, q, X)) = brT (decide ((↑j : Int) < (↑(ps.length - k0) : Int))) (.need ((0 : Int) ≤ (↑j : Int) ∧ (↑j : Int) < (↑(ps.length - k0) : Int)) (.need (k0 * (2 : Nat) + (↑j : Int).toNat * (2 : Nat) + (2 : Nat) ≤ (flat X).length) (.need ((0 : Int) ≤ IntKind.i64.wrap ((↑j : Int) - (1 : Int)) ∧ IntKind.i64.wrap ((↑j : Int) - (1 : Int)) < (↑(ps.length - k0) : Int)) (.need (k0 * (2 : Nat) + (IntKind.i64.wrap ((↑j : Int) - (1 : Int))).toNat * (2 : Nat) + (2 : Nat) ≤ (flat X).length) (brT (negB true ((flat X).getD (k0 * 2 + (↑j : Int).toNat * 2) 0 == (flat X).getD (k0 * 2 + (IntKind.i64.wrap ((↑j : Int) - 1)).toNat * 2) 0 && ((flat X).getD (k0 * 2 + (↑j : Int).toNat * 2 + 1) 0 == (flat X).getD (k0 * 2 + (IntKind.i64.wrap ((↑j : Int) - 1)).toNat * 2 + 1) 0 && true))) (.need ((0 : Int) ≤ (↑j : Int) ∧ (↑j : Int) < (↑(ps.length - k0) : Int)) (.need (k0 * (2 : Nat) + (↑j : Int).toNat * (2 : Nat) + (2 : Nat) ≤ (flat X).length) (.need ((0 : Int) ≤ (↑q : Int) ∧ (↑q : Int) < (↑ps.length : Int)) (.need ((0 : Nat) + (↑q : Int).toNat * (2 : Nat) + (2 : Nat) ≤ (flat X).length) (.leaf .normal ⟨(.slice (some ⟨0, 0, none⟩) (ps.length) (ps.length) :: topV :: topV :: .int .i64 (IntKind.i64.wrap ((↑q : Int) + 1)) :: .slice (some ⟨0, k0 * 2, none⟩) (ps.length - k0) (ps.length - k0) :: .int .i64 (IntKind.i64.wrap ((↑j : Int) + 1)) :: topV :: topV :: topV :: topV :: topV :: topV :: topV :: topV :: topV :: topV :: topV :: topV :: topV :: topV :: topV :: topV :: topV :: topV :: topV :: topV :: topV :: topV :: topV :: topV :: topV :: topV :: topV :: topV :: topV :: topV :: topV :: topV :: topV :: topV :: topV :: topV :: topV :: topV :: topV :: topV :: topV :: topV :: topV :: topV :: topV :: topV :: topV :: topV :: topV :: topV :: topV :: topV :: topV :: topV :: topV :: []), [some ⟨.row 44 2, .ints (setInts (flat X) (0 + (↑q : Int).toNat * 2) [(flat X).getD (k0 * 2 + (↑j : Int).toNat * 2) 0, (flat X).getD (k0 * 2 + (↑j : Int).toNat * 2 + 1) 0])⟩]⟩))))) (.leaf .normal ⟨(.slice (some ⟨0, 0, none⟩) (ps.length) (ps.length) :: topV :: topV :: .int .i64 ((↑q : Int)) :: .slice (some ⟨0, k0 * 2, none⟩) (ps.length - k0) (ps.length - k0) :: .int .i64 (IntKind.i64.wrap ((↑j : Int) + 1)) :: topV :: topV :: topV :: topV :: topV :: topV :: topV :: topV :: topV :: topV :: topV :: topV :: topV :: topV :: topV :: topV :: topV :: topV :: topV :: topV :: topV :: topV :: topV :: topV :: topV :: topV :: topV :: topV :: topV :: topV :: topV :: topV :: topV :: topV :: topV :: topV :: topV :: topV :: topV :: topV :: topV :: topV :: topV :: topV :: topV :: topV :: topV :: topV :: topV :: topV :: topV :: topV :: topV :: topV :: topV :: []), [some ⟨.row 44 2, .ints (flat X)⟩]⟩)))))) (.leaf (.exit 2) ⟨(.slice (some ⟨0, 0, none⟩) (ps.length) (ps.length) :: topV :: topV :: .int .i64 ((↑q : Int)) :: topV :: topV :: topV :: topV :: topV :: topV :: topV :: topV :: topV :: topV :: topV :: topV :: topV :: topV :: topV :: topV :: topV :: topV :: topV :: topV :: topV :: topV :: topV :: topV :: topV :: topV :: topV :: topV :: topV :: topV :: topV :: topV :: topV :: topV :: topV :: topV :: topV :: topV :: topV :: topV :: topV :: topV :: topV :: topV :: topV :: topV :: topV :: topV :: topV :: topV :: topV :: topV :: topV :: topV :: topV :: topV :: topV :: []), [some ⟨.row 44 2, .ints (flat X)⟩]⟩) := by kernel_rfl
set_option maxRecDepth 100000 in
theorem nl_cpI : loopsOf c_cpI = [] := by kernel_rfl
def inv_cpI (ps : List Pt) (k0 : Nat) : Nat × Nat × (List Pt) → Prop := fun (j, q, X) => 1 ≤ j ∧ k0 + j ≤ ps.length ∧ q ≤ k0 + j - 1 ∧ q = (cmN ps (k0 + j)).length ∧ X = cmN ps (k0 + j) ++ ps.drop q
def me_cpI (ps : List Pt) (k0 : Nat) : Nat × Nat × (List Pt) → Nat := fun (j, q, X) => ps.length - (k0 + j)
/-- A round of this loop. -/
def Round_cpI (ps : List Pt) (k0 : Nat) : Prop := ∀ xx : Nat × Nat × (List Pt), inv_cpI ps k0 xx → (bodyL Try.prog ECp 30 12 noL 2 c_cpI k_cpI 1 (s_cpI ps k0 xx)).ok (RoundEnd 1 (s_cpI ps k0) (inv_cpI ps k0) (me_cpI ps k0) re_cpI (rs_cpI ps k0) xx) (fun _ _ => False)
def e_cpI (s : St) (k : Ex → St → Tree) : Option Tree := match Nat.beq s.tmps.length 61, pickL s.tmps [0, 3, 4, 5], s.mem with
  | true, [.slice (some ⟨0, 0, none⟩) n _, .int .i64 kk, .slice (some ⟨0, o, none⟩) l _, .int .i64 k2], [some ⟨.row 44 2, .ints xs⟩] => some (needs [k2 = 1, xs.length = n * 2, 0 ≤ kk, 1 ≤ kk ∧ kk < n, o = kk.toNat * 2, l = n - kk.toNat, dupA (ptsA n xs) kk.toNat = true, (∀ j, 1 ≤ j → j < kk.toNat → dupA (ptsA n xs) j = false), n ≤ 1000000000] (k (.exit 2) ⟨(.slice (some ⟨0, 0, none⟩) n n :: topV :: topV :: .int .i64 ((cmN (ptsA n xs) n).length : Nat) :: topV :: topV :: topV :: topV :: topV :: topV :: topV :: topV :: topV :: topV :: topV :: topV :: topV :: topV :: topV :: topV :: topV :: topV :: topV :: topV :: topV :: topV :: topV :: topV :: topV :: topV :: topV :: topV :: topV :: topV :: topV :: topV :: topV :: topV :: topV :: topV :: topV :: topV :: topV :: topV :: topV :: topV :: topV :: topV :: topV :: topV :: topV :: topV :: topV :: topV :: topV :: topV :: topV :: topV :: topV :: topV :: topV :: []), [some ⟨.row 44 2, .ints (flat (cmN (ptsA n xs) n ++ (ptsA n xs).drop (cmN (ptsA n xs) n).length))⟩]⟩))
  | _, _, _ => none
theorem cp_dup {ps : List Pt} {m : Nat} (h : dupA ps m = true) (hm : m ≠ 0) : cmN ps (m + 1) = cmN ps m := by
  unfold dupA at h
  simp only [cmN]
  rw [if_neg]
  rintro (h1 | h1)
  · exact hm h1
  · exact h1 (by simpa using h)
theorem cp_new {ps : List Pt} {m : Nat} (h : dupA ps m = false) : cmN ps (m + 1) = cmN ps m ++ [ps.getD m (0, 0)] := by
  unfold dupA at h
  simp only [cmN]
  rw [if_pos (.inr (by simpa using h))]
theorem cp_start {ps : List Pt} {k : Nat} (h2 : 1 ≤ (k : Int) ∧ (k : Int) < (ps.length : Int)) (h3 : dupA ps k = true) (h4 : ∀ j, 1 ≤ j → j < k → dupA ps j = false) : 1 ≤ 1 ∧ k + 1 ≤ ps.length ∧ k ≤ k + 1 - 1 ∧ k = (cmN ps (k + 1)).length ∧ ps = cmN ps (k + 1) ++ ps.drop k := by
  have e := cp_dup h3 (by omega)
  rw [cmN_take k (by omega) h4] at e
  refine ⟨Nat.le_refl _, by omega, by omega, ?_, ?_⟩
  · rw [e, List.length_take]; omega
  · rw [e, List.take_append_drop]
theorem cp_get {ps : List Pt} {q : List Pt} {j : Nat} (h : q.length ≤ j) : (q ++ ps.drop q.length).getD j (0, 0) = ps.getD j (0, 0) := by
  simp only [List.getD]
  rw [List.getElem?_append_right h, List.getElem?_drop]
  congr 2
  omega
theorem cp_len {ps q : List Pt} (h : q.length ≤ ps.length) : (q ++ ps.drop q.length).length = ps.length := by
  rw [List.length_append, List.length_drop]
  omega
theorem cp_set {ps q : List Pt} (h : q.length < ps.length) (z : Pt) : (q ++ ps.drop q.length).set q.length z = (q ++ [z]) ++ ps.drop (q.length + 1) := by
  rw [List.set_append_right _ _ (Nat.le_refl _), Nat.sub_self, drop_cons h (0, 0)]
  simp
theorem eq_pt (a b : Pt) : (a.1 == b.1 && (a.2 == b.2 && true)) = (a == b) := by
  rw [Bool.and_true]
  rfl
theorem dup_is (ps : List Pt) (m : Nat) : ((ps.getD m (0, 0)).1 == (ps.getD (m - 1) (0, 0)).1 && ((ps.getD m (0, 0)).2 == (ps.getD (m - 1) (0, 0)).2 && true)) = dupA ps m := eq_pt _ _
set_option maxRecDepth 100000 in
theorem round_cpI (ps : List Pt) (k0 : Nat) (h : ps.length ≤ 1000000000) : Round_cpI ps k0 := by
  rintro ⟨j, q, X⟩ ⟨h1, h2, h3, hq0, rfl⟩
  rw [tr_cpI]
  have hq : (cmN ps (k0 + j)).length ≤ ps.length := by omega
  have hX := cp_len hq
  have g1 := cp_get (ps := ps) (q := cmN ps (k0 + j)) (j := k0 + j) (by omega)
  have g2 := cp_get (ps := ps) (q := cmN ps (k0 + j)) (j := k0 + j - 1) (by omega)
  rw [← hq0] at hX g1 g2
  have a2 : IntKind.i64.wrap ((j : Int) - 1) = ((j - 1 : Nat) : Int) := by rw [wr (by omega)]; omega
  refine brT_ok.2 ⟨fun hlt => ?_, fun hge => ?_⟩
  · have hlt := of_decide_eq_true hlt
    have hm : k0 + j < ps.length := by omega
    have a1 : k0 * 2 + (j : Int).toNat * 2 = (k0 + j) * 2 := by omega
    have a3 : k0 * 2 + ((j - 1 : Nat) : Int).toNat * 2 = (k0 + j - 1) * 2 := by omega
    have a4 : 0 + (q : Int).toNat * 2 = q * 2 := by omega
    have hs := flat_set (cmN ps (k0 + j) ++ ps.drop q) q (by omega) (ps.getD (k0 + j) (0, 0)).1 (ps.getD (k0 + j) (0, 0)).2
    have hs2 := cp_set (ps := ps) (q := cmN ps (k0 + j)) (by omega) (ps.getD (k0 + j) (0, 0))
    rw [← hq0] at hs2
    rw [hs2] at hs
    simp only [a2, a1, a3, a4, wsucc (i := j) (n := ps.length) (by omega) h, wsucc (i := q) (n := ps.length) (by omega) h, flat_get0, flat_get1, flat_length, g1, g2, dup_is, hX, hs]
    refine ⟨by omega, by omega, by omega, by omega, brT_ok.2 ⟨fun c => ⟨by omega, by omega, by omega, by omega, ?_⟩, fun c => ?_⟩⟩
    · have hd : dupA ps (k0 + j) = false := by simpa [negB] using c
      have e := cp_new hd
      have el : q + 1 = (cmN ps (k0 + j + 1)).length := by rw [e]; simp; omega
      refine ⟨(j + 1, q + 1, cmN ps (k0 + j) ++ [ps.getD (k0 + j) (0, 0)] ++ ps.drop (q + 1)), [], ⟨by omega, by omega, by omega, el, by show _ = cmN ps (k0 + j + 1) ++ _; rw [e]⟩, ?_, rfl, by simp only [rs_cpI], ?_⟩
      · show ps.length - (k0 + (j + 1)) < ps.length - (k0 + j); omega
      · repeat' (first | exact True.intro | exact rfl | exact fun _ => rfl | (simp; done) | refine And.intro ?_ ?_)
    · have hd : dupA ps (k0 + j) = true := by simpa [negB] using c
      have e := cp_dup hd (by omega)
      refine ⟨(j + 1, q, cmN ps (k0 + j) ++ ps.drop q), [], ⟨by omega, by omega, by omega, by show _ = (cmN ps (k0 + j + 1)).length; rw [e]; exact hq0, by show _ = cmN ps (k0 + j + 1) ++ _; rw [e]⟩, ?_, rfl, by simp only [rs_cpI], ?_⟩
      · show ps.length - (k0 + (j + 1)) < ps.length - (k0 + j); omega
      · repeat' (first | exact True.intro | exact rfl | exact fun _ => rfl | (simp; done) | refine And.intro ?_ ?_)
  · have hge := of_decide_eq_false hge
    have hm : k0 + j = ps.length := by omega
    refine ⟨rfl, [], ?_⟩
    rw [hm] at hq0
    simp only [rs_cpI, hm, ← hq0]
    repeat' (first | exact True.intro | exact rfl | exact fun _ => rfl | (simp; done) | refine And.intro ?_ ?_)
set_option maxRecDepth 100000 in
theorem lg_cpI : LoopE Try.prog e_cpI c_cpI := by
  intro s k t F H hlt ht
  unfold e_cpI at hlt
  split at hlt
  rotate_left
  · cases hlt
  rename_i hlen hpick hmem
  obtain ⟨tmps, mem⟩ := s
  simp only at hlen hpick hmem
  subst hmem
  obtain rfl := Option.some.inj hlt
  obtain ⟨⟨rfl, h1, h6, h2, rfl, rfl, h3, h4, h5, _⟩, ht2⟩ := needs_ok ht
  clear ht hlt
  obtain ⟨ps, rfl, rfl⟩ := even_flat h1
  obtain ⟨k, rfl⟩ := Int.eq_ofNat_of_zero_le h6
  rw [ptsA_flat] at ht2 h3 h4
  simp only [Int.toNat_natCast] at ht2 h3 h4
  refine ⟨_, _, ht2, loop_run mixed ECp_ok (s_cpI ps k) (inv_cpI ps k) (me_cpI ps k) re_cpI (rs_cpI ps k) k_cpI (fun _ => rfl) (noLoops nl_cpI) (round_cpI ps k h5) (x := (1, k, ps)) (cp_start h2 h3 h4) (π := []) rfl ?_⟩
  refine ⟨rfl, rfl, ?_, wvs_spread' [0, 3, 4, 5] hlen rfl ?_⟩
  · repeat' (first | exact True.intro | exact rfl | exact wv_top _ _ | exact fun _ => rfl | assumption | exact Eq.symm (by assumption) | exact vI0 rfl | refine And.intro ?_ ?_)
  · rw [hpick]
    repeat' (first | exact True.intro | exact rfl | exact wv_top _ _ | exact fun _ => rfl | assumption | exact Eq.symm (by assumption) | exact vI0 rfl | refine And.intro ?_ ?_)
def ltCp : LT := fun j s k => match j with
  | 1 => e_cpI s k
  | _ => none
noncomputable def c_cpO : Code := ((loopsOf (codeOf Try.f105))[0]?).getD .skip
def k_cpO : Ex → List Nat := keeps [0, 3] [(0, [0])] [2]
def s_cpO (ps : List Pt) : Nat → St := fun i => ⟨(.slice (some ⟨0, 0, none⟩) ps.length ps.length :: topV :: topV :: .int .i64 i :: topV :: topV :: topV :: topV :: topV :: topV :: topV :: topV :: topV :: topV :: topV :: topV :: topV :: topV :: topV :: topV :: topV :: topV :: topV :: topV :: topV :: topV :: topV :: topV :: topV :: topV :: topV :: topV :: topV :: topV :: topV :: topV :: topV :: topV :: topV :: topV :: topV :: topV :: topV :: topV :: topV :: topV :: topV :: topV :: topV :: topV :: topV :: topV :: topV :: topV :: topV :: topV :: topV :: topV :: topV :: topV :: topV :: []), [some ⟨.row 44 2, .ints (flat ps)⟩]⟩
def re_cpO (ps : List Pt) : Nat → Ex := fun i => bif allQ (fun j => !(dupA ps j)) i (ps.length - i) then .exit 0 else .ret
def rs_cpO (ps : List Pt) : Nat → St := fun i => bif allQ (fun j => !(dupA ps j)) i (ps.length - i) then ⟨(.slice (some ⟨0, 0, none⟩) ps.length ps.length :: topV :: topV :: topV :: topV :: topV :: topV :: topV :: topV :: topV :: topV :: topV :: topV :: topV :: topV :: topV :: topV :: topV :: topV :: topV :: topV :: topV :: topV :: topV :: topV :: topV :: topV :: topV :: topV :: topV :: topV :: topV :: topV :: topV :: topV :: topV :: topV :: topV :: topV :: topV :: topV :: topV :: topV :: topV :: topV :: topV :: topV :: topV :: topV :: topV :: topV :: topV :: topV :: topV :: topV :: topV :: topV :: topV :: topV :: topV :: topV :: []), [some ⟨.row 44 2, .ints (flat ps)⟩]⟩ else ⟨(topV :: topV :: .slice (some ⟨0, 0, none⟩) (cmP ps).length (cmP ps).length :: topV :: topV :: topV :: topV :: topV :: topV :: topV :: topV :: topV :: topV :: topV :: topV :: topV :: topV :: topV :: topV :: topV :: topV :: topV :: topV :: topV :: topV :: topV :: topV :: topV :: topV :: topV :: topV :: topV :: topV :: topV :: topV :: topV :: topV :: topV :: topV :: topV :: topV :: topV :: topV :: topV :: topV :: topV :: topV :: topV :: topV :: topV :: topV :: topV :: topV :: topV :: topV :: topV :: topV :: topV :: topV :: topV :: topV :: []), [some ⟨.row 44 2, .ints (flat (cmP ps))⟩]⟩
set_option maxRecDepth 100000 in
theorem tr_cpO (ps : List Pt) (i : Nat) : bodyL Try.prog ECp 30 12 ltCp 1 c_cpO k_cpO 1 (s_cpO ps i) = brT (decide ((↑i : Int) < (↑ps.length : Int))) (.need ((0 : Int) ≤ (↑i : Int) ∧ (↑i : Int) < (↑ps.length : Int)) (.need ((0 : Nat) + (↑i : Int).toNat * (2 : Nat) + (2 : Nat) ≤ (flat ps).length) (.need ((0 : Int) ≤ IntKind.i64.wrap ((↑i : Int) - (1 : Int)) ∧ IntKind.i64.wrap ((↑i : Int) - (1 : Int)) < (↑ps.length : Int)) (.need ((0 : Nat) + (IntKind.i64.wrap ((↑i : Int) - (1 : Int))).toNat * (2 : Nat) + (2 : Nat) ≤ (flat ps).length) (brT (negB false ((flat ps).getD (0 + (↑i : Int).toNat * 2) 0 == (flat ps).getD (0 + (IntKind.i64.wrap ((↑i : Int) - 1)).toNat * 2) 0 && ((flat ps).getD (0 + (↑i : Int).toNat * 2 + 1) 0 == (flat ps).getD (0 + (IntKind.i64.wrap ((↑i : Int) - 1)).toNat * 2 + 1) 0 && true))) (.need ((0 : Int) ≤ bndI (some (IntKind.i64, (↑i : Int))) (0 : Int) ∧ bndI (some (IntKind.i64, (↑i : Int))) (0 : Int) ≤ bndI none (↑ps.length : Int) ∧ bndI none (↑ps.length : Int) ≤ (↑ps.length : Int)) (.need ((1 : Int) = (1 : Int)) (.need ((flat ps).length = ps.length * (2 : Nat)) (.need ((0 : Int) ≤ (↑i : Int)) (.need ((1 : Int) ≤ (↑i : Int) ∧ (↑i : Int) < (↑ps.length : Int)) (.need ((0 : Nat) + (bndI (some (IntKind.i64, (↑i : Int))) (0 : Int)).toNat * (2 : Nat) = (↑i : Int).toNat * (2 : Nat)) (.need ((bndI none (↑ps.length : Int)).toNat - (bndI (some (IntKind.i64, (↑i : Int))) (0 : Int)).toNat = ps.length - (↑i : Int).toNat) (.need (dupA (ptsA ps.length (flat ps)) (↑i : Int).toNat = true) (.need (∀ (j : Nat), (1 : Nat) ≤ j → j < (↑i : Int).toNat → dupA (ptsA ps.length (flat ps)) j = false) (.need (ps.length ≤ (1000000000 : Nat)) (.need ((0 : Int) ≤ bndI (some (IntKind.i64, (↑(cmN (ptsA ps.length (flat ps)) ps.length).length : Int))) (0 : Int) ∧ bndI (some (IntKind.i64, (↑(cmN (ptsA ps.length (flat ps)) ps.length).length : Int))) (0 : Int) ≤ bndI none (↑ps.length : Int) ∧ bndI none (↑ps.length : Int) ≤ (↑ps.length : Int)) (.need ((0 : Nat) + (bndI (some (IntKind.i64, (↑(cmN (ptsA ps.length (flat ps)) ps.length).length : Int))) (0 : Int)).toNat * (2 : Nat) + ((bndI none (↑ps.length : Int)).toNat - (bndI (some (IntKind.i64, (↑(cmN (ptsA ps.length (flat ps)) ps.length).length : Int))) (0 : Int)).toNat) * (2 : Nat) ≤ (flat (cmN (ptsA ps.length (flat ps)) ps.length ++ List.drop (cmN (ptsA ps.length (flat ps)) ps.length).length (ptsA ps.length (flat ps)))).length) (.need ((0 : Int) ≤ bndI none (0 : Int) ∧ bndI none (0 : Int) ≤ bndI (some (IntKind.i64, (↑(cmN (ptsA ps.length (flat ps)) ps.length).length : Int))) (↑ps.length : Int) ∧ bndI (some (IntKind.i64, (↑(cmN (ptsA ps.length (flat ps)) ps.length).length : Int))) (↑ps.length : Int) ≤ (↑ps.length : Int)) (.leaf .ret ⟨(topV :: topV :: .slice (some ⟨0, 0, none⟩) ((bndI (some (IntKind.i64, (↑(cmN (ptsA ps.length (flat ps)) ps.length).length : Int))) (↑ps.length : Int)).toNat - 0) ((bndI (some (IntKind.i64, (↑(cmN (ptsA ps.length (flat ps)) ps.length).length : Int))) (↑ps.length : Int)).toNat - 0) :: topV :: topV :: topV :: topV :: topV :: topV :: topV :: topV :: topV :: topV :: topV :: topV :: topV :: topV :: topV :: topV :: topV :: topV :: topV :: topV :: topV :: topV :: topV :: topV :: topV :: topV :: topV :: topV :: topV :: topV :: topV :: topV :: topV :: topV :: topV :: topV :: topV :: topV :: topV :: topV :: topV :: topV :: topV :: topV :: topV :: topV :: topV :: topV :: topV :: topV :: topV :: topV :: topV :: topV :: topV :: topV :: topV :: topV :: []), [some ⟨.row 44 2, .ints (List.take (0 + (bndI (some (IntKind.i64, (↑(cmN (ptsA ps.length (flat ps)) ps.length).length : Int))) 0).toNat * 2) (flat (cmN (ptsA ps.length (flat ps)) ps.length ++ List.drop (cmN (ptsA ps.length (flat ps)) ps.length).length (ptsA ps.length (flat ps)))))⟩]⟩)))))))))))))) (.leaf .normal ⟨(.slice (some ⟨0, 0, none⟩) (ps.length) (ps.length) :: topV :: topV :: .int .i64 (IntKind.i64.wrap ((↑i : Int) + 1)) :: topV :: topV :: topV :: topV :: topV :: topV :: topV :: topV :: topV :: topV :: topV :: topV :: topV :: topV :: topV :: topV :: topV :: topV :: topV :: topV :: topV :: topV :: topV :: topV :: topV :: topV :: topV :: topV :: topV :: topV :: topV :: topV :: topV :: topV :: topV :: topV :: topV :: topV :: topV :: topV :: topV :: topV :: topV :: topV :: topV :: topV :: topV :: topV :: topV :: topV :: topV :: topV :: topV :: topV :: topV :: topV :: topV :: []), [some ⟨.row 44 2, .ints (flat ps)⟩]⟩)))))) (.leaf (.exit 0) ⟨(.slice (some ⟨0, 0, none⟩) (ps.length) (ps.length) :: topV :: topV :: topV :: topV :: topV :: topV :: topV :: topV :: topV :: topV :: topV :: topV :: topV :: topV :: topV :: topV :: topV :: topV :: topV :: topV :: topV :: topV :: topV :: topV :: topV :: topV :: topV :: topV :: topV :: topV :: topV :: topV :: topV :: topV :: topV :: topV :: topV :: topV :: topV :: topV :: topV :: topV :: topV :: topV :: topV :: topV :: topV :: topV :: topV :: topV :: topV :: topV :: topV :: topV :: topV :: topV :: topV :: topV :: topV :: topV :: []), [some ⟨.row 44 2, .ints (flat ps)⟩]⟩) := by kernel_rfl
def inv_cpO (ps : List Pt) : Nat → Prop := fun i => 1 ≤ i ∧ i ≤ ps.length ∧ ∀ j, 1 ≤ j → j < i → dupA ps j = false
def me_cpO (ps : List Pt) : Nat → Nat := fun i => ps.length - i
/-- A round of this loop. -/
def Round_cpO (ps : List Pt) : Prop := ∀ xx : Nat, inv_cpO ps xx → (bodyL Try.prog ECp 30 12 ltCp 1 c_cpO k_cpO 1 (s_cpO ps xx)).ok (RoundEnd 1 (s_cpO ps) (inv_cpO ps) (me_cpO ps) (re_cpO ps) (rs_cpO ps) xx) (fun _ _ => False)
def e_cpO (s : St) (k : Ex → St → Tree) : Option Tree := match Nat.beq s.tmps.length 61, pickL s.tmps [0, 3], s.mem with
  | true, [.slice (some ⟨0, 0, none⟩) n _, .int .i64 i], [some ⟨.row 44 2, .ints xs⟩] => some (needs [i = 1, xs.length = n * 2, 2 ≤ n, n ≤ 1000000000] (brT (allQ (fun j => !(dupA (ptsA n xs) j)) 1 (n - 1)) (k (.exit 0) ⟨(.slice (some ⟨0, 0, none⟩) n n :: topV :: topV :: topV :: topV :: topV :: topV :: topV :: topV :: topV :: topV :: topV :: topV :: topV :: topV :: topV :: topV :: topV :: topV :: topV :: topV :: topV :: topV :: topV :: topV :: topV :: topV :: topV :: topV :: topV :: topV :: topV :: topV :: topV :: topV :: topV :: topV :: topV :: topV :: topV :: topV :: topV :: topV :: topV :: topV :: topV :: topV :: topV :: topV :: topV :: topV :: topV :: topV :: topV :: topV :: topV :: topV :: topV :: topV :: topV :: topV :: []), [some ⟨.row 44 2, .ints xs⟩]⟩) (k .ret ⟨(topV :: topV :: .slice (some ⟨0, 0, none⟩) (cmP (ptsA n xs)).length (cmP (ptsA n xs)).length :: topV :: topV :: topV :: topV :: topV :: topV :: topV :: topV :: topV :: topV :: topV :: topV :: topV :: topV :: topV :: topV :: topV :: topV :: topV :: topV :: topV :: topV :: topV :: topV :: topV :: topV :: topV :: topV :: topV :: topV :: topV :: topV :: topV :: topV :: topV :: topV :: topV :: topV :: topV :: topV :: topV :: topV :: topV :: topV :: topV :: topV :: topV :: topV :: topV :: topV :: topV :: topV :: topV :: topV :: topV :: topV :: topV :: topV :: []), [some ⟨.row 44 2, .ints (flat (cmP (ptsA n xs)))⟩]⟩)))
  | _, _, _ => none
theorem bnd_some (x d : Int) : bndI (some (IntKind.i64, x)) d = x := rfl
theorem bnd_none (d : Int) : bndI none d = d := rfl
set_option maxRecDepth 100000 in
theorem in_cpO : loopsOf c_cpO = [c_cpI] := by kernel_rfl
theorem ltCp_good : LoopsGood Try.prog ltCp 1 c_cpO := by
  intro i d hd s k t F H hlt ht
  rw [in_cpO] at hd
  cases i with
  | zero =>
    obtain rfl : c_cpI = d := by simpa using hd
    exact lg_cpI s k t F H hlt ht
  | succ i => simp at hd
set_option maxRecDepth 100000 in
theorem round_cpO (ps : List Pt) (h : ps.length ≤ 1000000000) : Round_cpO ps := by
  rintro i ⟨h1, h2, h3⟩
  rw [tr_cpO]
  simp only [ptsA_flat, bnd_some, bnd_none, Int.toNat_natCast, Nat.zero_add, Nat.sub_zero]
  refine brT_ok.2 ⟨fun hlt => ?_, fun hge => ?_⟩
  · have hi : i < ps.length := by have := of_decide_eq_true hlt; omega
    have w1 : IntKind.i64.wrap ((i : Int) - 1) = ((i - 1 : Nat) : Int) := by rw [wr (by omega)]; omega
    have step : allQ (fun j => !(dupA ps j)) i (ps.length - i) = (!(dupA ps i) && allQ (fun j => !(dupA ps j)) (i + 1) (ps.length - (i + 1))) := allQ_step hi
    have hle := cmN_le ps ps.length
    have hX := cp_len hle
    simp only [w1, Int.toNat_natCast, flat_get0, flat_get1, flat_length, dup_is, hX, wsucc hi h]
    refine ⟨by omega, by omega, by omega, by omega, brT_ok.2 ⟨fun q => ?_, fun q => ?_⟩⟩
    · have hd : dupA ps i = true := by simpa [negB] using q
      have e : allQ (fun j => !(dupA ps j)) i (ps.length - i) = false := by rw [step, hd]; rfl
      have hf : List.take ((cmN ps ps.length).length * 2) (flat (cmN ps ps.length ++ List.drop (cmN ps ps.length).length ps)) = flat (cmP ps) := by
        rw [flat_take, List.take_left]
        rfl
      rw [hf]
      refine ⟨by omega, by first | exact True.intro | rfl, by first | exact True.intro | rfl, by omega, by omega, by first | exact True.intro | rfl, by first | exact True.intro | rfl, hd, h3, h, by omega, by omega, by omega, ?_⟩
      refine ⟨by simp only [re_cpO, e, cond_false], [], ?_⟩
      simp only [rs_cpO, e, cond_false]
      repeat' (first | exact True.intro | exact rfl | exact fun _ => rfl | (simp; done) | refine And.intro ?_ ?_)
    · have hd : dupA ps i = false := by simpa [negB] using q
      have e : allQ (fun j => !(dupA ps j)) i (ps.length - i) = allQ (fun j => !(dupA ps j)) (i + 1) (ps.length - (i + 1)) := by rw [step, hd]; rfl
      refine ⟨i + 1, [], ⟨by omega, by omega, fun j g1 g2 => ?_⟩, ?_, by simp only [re_cpO, e], by simp only [rs_cpO, e], ?_⟩
      · rcases Nat.lt_or_ge j i with g | g
        · exact h3 j g1 g
        · obtain rfl : j = i := by omega
          exact hd
      · show ps.length - (i + 1) < ps.length - i; omega
      · repeat' (first | exact True.intro | exact rfl | exact fun _ => rfl | (simp; done) | refine And.intro ?_ ?_)
  · have hge := of_decide_eq_false hge
    obtain rfl : i = ps.length := by omega
    have e : allQ (fun j => !(dupA ps j)) ps.length (ps.length - ps.length) = true := allQ_end (by omega)
    refine ⟨by simp only [re_cpO, e, cond_true], [], ?_⟩
    simp only [rs_cpO, e, cond_true]
    repeat' (first | exact True.intro | exact rfl | exact fun _ => rfl | (simp; done) | refine And.intro ?_ ?_)
set_option maxRecDepth 100000 in
theorem lg_cpO : LoopE Try.prog e_cpO c_cpO := by
  intro s k t F H hlt ht
  unfold e_cpO at hlt
  split at hlt
  rotate_left
  · cases hlt
  rename_i hlen hpick hmem
  obtain ⟨tmps, mem⟩ := s
  simp only at hlen hpick hmem
  subst hmem
  obtain rfl := Option.some.inj hlt
  obtain ⟨⟨rfl, h1, h2, h5, _⟩, ht2⟩ := needs_ok ht
  clear ht hlt
  obtain ⟨ps, rfl, rfl⟩ := even_flat h1
  rw [ptsA_flat] at ht2
  refine ⟨_, _, pick2k ht2, loop_run mixed ECp_ok (s_cpO ps) (inv_cpO ps) (me_cpO ps) (re_cpO ps) (rs_cpO ps) k_cpO (fun _ => rfl) ltCp_good (round_cpO ps h5) (x := 1) ⟨Nat.le_refl _, by omega, fun j h1 h2 => by omega⟩ (π := []) rfl ?_⟩
  refine ⟨rfl, rfl, ?_, wvs_spread' [0, 3] hlen rfl ?_⟩
  · repeat' (first | exact True.intro | exact rfl | exact wv_top _ _ | exact fun _ => rfl | assumption | exact Eq.symm (by assumption) | exact vI0 rfl | refine And.intro ?_ ?_)
  · rw [hpick]
    repeat' (first | exact True.intro | exact rfl | exact wv_top _ _ | exact fun _ => rfl | assumption | exact Eq.symm (by assumption) | exact vI0 rfl | refine And.intro ?_ ?_)
theorem Lr_cpO {fn : Func} (hf : Try.prog.funcs[105]? = some fn) : LoopsGood Try.prog (lt1 e_cpO) 0 (codeOf fn) := by
  obtain rfl := fn_is Try.func105 hf
  exact lt1_good lg_cpO
def LCp : FuncId → LT := fun f => match f with
  | 105 => lt1 e_cpO
  | _ => noL
def ECq : Env := mkE B0 (fun _ _ => none) LCp
theorem ECq_ok : EnvOk Try.prog ECq := mkEOk B0_ok (fun _ _ _ _ _ h => (by cases h)) (by
  intro f fn hf
  unfold LCp
  split
  all_goals first | with_reducible exact Lr_cpO hf | exact noL_good)
set_option maxRecDepth 100000 in
theorem tr_cpF (ps : List Pt) : bodyM Try.prog ECq (runM Try.prog ECq 30 12) 30 105 [.slice (some ⟨0, 0, none⟩) ps.length ps.length] [some ⟨.row 44 2, .ints (flat ps)⟩] .fin = brT (decide ((↑ps.length : Int) < 2)) (.fin (.slice (some ⟨0, 0, none⟩) (ps.length) (ps.length)) [some ⟨.row 44 2, .ints (flat ps)⟩]) (.need ((1 : Int) = (1 : Int)) (.need ((flat ps).length = ps.length * (2 : Nat)) (.need ((2 : Nat) ≤ ps.length) (.need (ps.length ≤ (1000000000 : Nat)) (brT (allQ (fun j => !dupA (ptsA ps.length (flat ps)) j) 1 (ps.length - 1)) (.fin (.slice (some ⟨0, 0, none⟩) (ps.length) (ps.length)) [some ⟨.row 44 2, .ints (flat ps)⟩]) (.fin (.slice (some ⟨0, 0, none⟩) ((cmP (ptsA ps.length (flat ps))).length) ((cmP (ptsA ps.length (flat ps))).length)) [some ⟨.row 44 2, .ints (flat (cmP (ptsA ps.length (flat ps))))⟩])))))) := by kernel_rfl
theorem cpt_row (ps : List Pt) (h : ps.length ≤ 1000000000) : (bodyM Try.prog ECq (runM Try.prog ECq 30 12) 30 105 [.slice (some ⟨0, 0, none⟩) ps.length ps.length] [some ⟨.row 44 2, .ints (flat ps)⟩] .fin).ok (fun _ _ => False) (fun u mem' => RowIs (.slice (some ⟨0, 0, none⟩) (cmP ps).length (cmP ps).length) ⟨.row 44 2, .ints (flat (cmP ps))⟩ u mem') := by
  rw [tr_cpF]
  simp only [ptsA_flat]
  have same : (∀ j, 1 ≤ j → j < ps.length → dupA ps j = false) → cmP ps = ps := fun hn => by
    unfold cmP
    rw [cmN_take _ (Nat.le_refl _) hn, List.take_length]
  refine brT_ok.2 ⟨fun hlt => ?_, fun hge => ?_⟩
  · have hlt := of_decide_eq_true hlt
    rw [same fun j h1 h2 => by omega]
    exact ⟨some 0, ⟨rfl, rfl, rfl⟩, rfl, rfl, rfl⟩
  · have hge := of_decide_eq_false hge
    refine ⟨by first | exact True.intro | rfl, flat_length ps, by omega, h, brT_ok.2 ⟨fun q => ?_, fun q => ?_⟩⟩
    · have q : allQ (fun j => !(dupA ps j)) 1 (ps.length - 1) = true := q
      rw [same fun j h1 h2 => by simpa using allQ_get _ _ q j h1 (by omega)]
      exact ⟨some 0, ⟨rfl, rfl, rfl⟩, rfl, rfl, rfl⟩
    · exact ⟨some 0, ⟨rfl, rfl, rfl⟩, rfl, rfl, rfl⟩
def cptS : OSpec := fun e sz l xs rest => match e, sz, rest with
  | 44, 2, [] => some (.slice (some ⟨0, 0, none⟩) (cmP (ptsA l xs)).length (cmP (ptsA l xs)).length, ⟨.row 44 2, .ints (flat (cmP (ptsA l xs)))⟩, [xs.length = l * 2, l ≤ 1000000000])
  | _, _, _ => none
set_option maxRecDepth 100000 in
theorem cptS_ok : OSpecOk Try.prog 105 cptS := by
  intro e sz l xs rest v b C h hC
  unfold cptS at h
  split at h
  rotate_left
  · cases h
  obtain ⟨rfl, rfl, rfl⟩ : _ ∧ _ ∧ _ := by simpa using h
  obtain ⟨h1, h2, _⟩ := hC
  obtain ⟨ps, rfl, rfl⟩ := even_flat h1
  rw [ptsA_flat]
  exact ⟨rfl, ECq, 30, 12, ECq_ok, cpt_row ps h2⟩
end Go.Proofs.Ytolodncpegajkab
namespace Go.Proofs.Ytolodncpegajkab
set_option linter.all false
open Go.RowKit
set_option maxRecDepth 100000 in
theorem tr_cln (ps : List Pt) : bodyX Try.prog (tabE B0) 30 12 102 [.row ps.length (.ints (flat ps))] = .need ((0 : Nat) < ps.length) (.need (((0 : Nat) + (ps.length, Cs.ints (List.take (ps.length * Try.prog.types[(44 : Nat)].size) (List.drop (0 : Nat) (flat ps))), [(0 : Nat) + ps.length * Try.prog.types[(44 : Nat)].size ≤ (flat ps).length]).fst) * (16 : Nat) ≤ (140737488355328 : Nat) ∧ (0 : Nat) + (ps.length, Cs.ints (List.take (ps.length * Try.prog.types[(44 : Nat)].size) (List.drop (0 : Nat) (flat ps))), [(0 : Nat) + ps.length * Try.prog.types[(44 : Nat)].size ≤ (flat ps).length]).fst ≤ (1000000 : Nat)) (.need ((0 : Nat) + ps.length * (2 : Nat) ≤ (flat ps).length) (.fin (.slice (some ⟨2, 0, none⟩) (0 + (ps.length, Cs.ints (List.take (ps.length * Try.prog.types[44].size) (List.drop 0 (flat ps))), [0 + ps.length * Try.prog.types[44].size ≤ (flat ps).length]).fst) (0 + (ps.length, Cs.ints (List.take (ps.length * Try.prog.types[44].size) (List.drop 0 (flat ps))), [0 + ps.length * Try.prog.types[44].size ≤ (flat ps).length]).fst)) [some ⟨.view, .ints (flat ps)⟩, some deadB, some ⟨.row 44 2, .ints ([] ++ List.take (ps.length * 2) (List.drop 0 (flat ps)))⟩]))) := by kernel_rfl
theorem resR_cln (ps : List Pt) (h : ps.length ≤ 1000000) : ResR Try.prog 102 [.row ps.length (.ints (flat ps))] (rowP ps) (blkP ps) := by
  rcases Nat.eq_zero_or_pos ps.length with h0 | h0
  · obtain rfl : ps = [] := List.eq_nil_of_length_eq_zero h0
    refine ⟨(entersB_res (by kernel_rfl)).1, (entersB_res (by kernel_rfl)).2, rfl, fun d hd => ?_, fun w args hd => ?_⟩
    · rw [List.mem_singleton.1 hd]
      exact rfl
    · obtain ⟨h1, h2⟩ := hd
      obtain ⟨x0, rfl⟩ : ∃ x0, args = #[x0] := by
        have h3 : args.size = 1 := by simpa using h1.symm
        match args, h3 with
        | ⟨[x0]⟩, _ => exact ⟨x0, rfl⟩
      obtain ⟨_, ad, c', rfl, _, _⟩ := h2 0 _ x0 rfl rfl
      exact cln_zero ad c' w
  · refine bodyX_resR mixed (tabE_ok B0_ok) (m := 30) (n := 12) rfl ?_
    rw [tr_cln]
    have hf : ([] : List Int) ++ List.take (ps.length * 2) (List.drop 0 (flat ps)) = flat ps := by
      rw [List.nil_append, List.drop_zero, flat_all]
    refine ⟨h0, ⟨?_, ?_⟩, ?_, some 2, ⟨?_, ?_, ?_⟩, ?_⟩
    · show (0 + ps.length) * 16 ≤ 140737488355328; omega
    · show 0 + ps.length ≤ 1000000; omega
    · rw [flat_length]; omega
    · rfl
    · rfl
    · show 0 + ps.length = ps.length; omega
    · rw [hf]; exact ⟨rfl, rfl, rfl⟩
def RCl : TabR := fun f ds => match f, ds with
  | 102, [.row m (.ints xs)] => some (rowP (ptsA m xs), blkP (ptsA m xs), [m * 2 ≤ xs.length, m ≤ 1000000])
  | f, ds => R4 f ds
theorem RCl_ok : TabROk Try.prog RCl := by
  intro f ds v b C h hC
  unfold RCl at h
  (try split at h)
  all_goals first
    | (obtain ⟨rfl, rfl, rfl⟩ : _ ∧ _ ∧ _ := by simpa using h
       obtain ⟨_, h2⟩ := ptsA_spec hC.1
       have h1 := resR_pts1 (pre := []) (post := []) hC.1 (resR_cln _ (by rw [h2]; exact hC.2.1))
       simp only [List.nil_append, List.append_nil] at h1
       with_reducible exact h1)
    | exact R4_ok _ _ _ _ _ h hC
def JSo : TabJ := consJ 103 (fun _ => soG 104) noJ
theorem JSo_ok : GSound Try.prog JSo.g := soG_sound (failG_sound _)
def JSc : TabJ := consR 105 (owG cptS) JSo
theorem JSc_ok : GSound Try.prog JSc.g := consO_ok mixed JSo_ok (entersB_res (by kernel_rfl)).1 cptS_ok
def ESp : Env := withT (mkE T3 RCl (fun _ => noL)) JSc
theorem ESp_ok : EnvOk Try.prog ESp := withT_ok (mkEOk T3_ok RCl_ok (fun _ _ _ => noL_good)) JSc_ok
set_option maxRecDepth 100000 in
theorem tr_iSp (ps : List Pt) : bodyX Try.prog ESp 30 12 57 [.row ps.length (.ints (flat ps))] = brT (decide ((↑ps.length : Int) ≤ 20)) (.need (ps.length * (2 : Nat) ≤ (List.drop (0 : Nat) (flat ps)).length) (.need (ps.length ≤ (1000000000 : Nat)) (brT (!allV (ptsA ps.length (List.drop 0 (flat ps)))) (.fin (.slice none (0) (0)) [some ⟨.view, .ints (flat ps)⟩]) (.need (ps.length * (2 : Nat) ≤ (List.drop (0 : Nat) (flat ps)).length) (.need (ps.length ≤ (1000000 : Nat)) (.need ((flat (ptsA ps.length (List.drop (0 : Nat) (flat ps)))).length = (ptsA ps.length (List.drop (0 : Nat) (flat ps))).length * (2 : Nat)) (.need ((ptsA ps.length (List.drop (0 : Nat) (flat ps))).length ≤ (1000000000 : Nat)) (.need ((flat (sortP (ptsA (ptsA ps.length (List.drop (0 : Nat) (flat ps))).length (flat (ptsA ps.length (List.drop (0 : Nat) (flat ps))))))).length = (ptsA ps.length (List.drop (0 : Nat) (flat ps))).length * (2 : Nat)) (.need ((ptsA ps.length (List.drop (0 : Nat) (flat ps))).length ≤ (1000000000 : Nat)) (.fin (.slice (some ⟨2, 0, none⟩) ((cmP (ptsA (ptsA ps.length (List.drop 0 (flat ps))).length (flat (sortP (ptsA (ptsA ps.length (List.drop 0 (flat ps))).length (flat (ptsA ps.length (List.drop 0 (flat ps))))))))).length) ((cmP (ptsA (ptsA ps.length (List.drop 0 (flat ps))).length (flat (sortP (ptsA (ptsA ps.length (List.drop 0 (flat ps))).length (flat (ptsA ps.length (List.drop 0 (flat ps))))))))).length)) [some ⟨.view, .ints (flat ps)⟩, some deadB, some ⟨.row 44 2, .ints (flat (cmP (ptsA (ptsA ps.length (List.drop 0 (flat ps))).length (flat (sortP (ptsA (ptsA ps.length (List.drop 0 (flat ps))).length (flat (ptsA ps.length (List.drop 0 (flat ps))))))))))⟩])))))))))) (.fin (.slice none (0) (0)) [some ⟨.view, .ints (flat ps)⟩]) := by kernel_rfl
/-- In order, and equal ones once: as the model has it. -/
theorem up_get {L : List Pt} (h : L.Pairwise fun x y => pltB y x = false) {i j : Nat} (hij : i < j) (hj : j < L.length) : pltB (L.getD j (0, 0)) (L.getD i (0, 0)) = false := by
  have := List.pairwise_iff_getElem.1 h i j (by omega) hj hij
  simpa [List.getD, hj, show i < L.length by omega] using this
theorem plt_le {a b c : Pt} (h1 : pltB b a = false) (h2 : pltB b c = true) : pltB a c = true := by
  rw [← Bool.not_eq_true, pltB_iff] at h1
  rw [pltB_iff] at h2 ⊢
  omega
theorem cmN_srt {L : List Pt} (h : L.Pairwise fun x y => pltB y x = false) : ∀ m, m ≤ L.length → Asc (cmN L m) ∧ (∀ z ∈ cmN L m, ∃ j, j < m ∧ z = L.getD j (0, 0)) ∧ ∀ j, j < m → L.getD j (0, 0) ∈ cmN L m
  | 0, _ => ⟨List.Pairwise.nil, fun z hz => by simp [cmN] at hz, fun j hj => by omega⟩
  | m + 1, hm => by
    obtain ⟨h1, h2, h3⟩ := cmN_srt h m (by omega)
    simp only [cmN]
    split
    · rename_i hc
      refine ⟨?_, fun z hz => ?_, fun j hj => ?_⟩
      · refine List.pairwise_append.2 ⟨h1, by simp, fun z hz y hy => ?_⟩
        obtain rfl : y = L.getD m (0, 0) := by simpa using hy
        obtain ⟨j, hj, rfl⟩ := h2 z hz
        rcases hc with hc | hc
        · omega
        · have a1 : pltB (L.getD (m - 1) (0, 0)) (L.getD m (0, 0)) = true := plt_tri (up_get h (by omega) (by omega)) hc
          rcases Nat.lt_or_ge j (m - 1) with hj1 | hj1
          · exact plt_le (up_get h hj1 (by omega)) a1
          · obtain rfl : j = m - 1 := by omega
            exact a1
      · rcases List.mem_append.1 hz with hz | hz
        · obtain ⟨j, hj, e⟩ := h2 z hz
          exact ⟨j, by omega, e⟩
        · obtain rfl : z = L.getD m (0, 0) := by simpa using hz
          exact ⟨m, by omega, rfl⟩
      · rcases Nat.lt_or_ge j m with hjm | hjm
        · exact List.mem_append.2 (.inl (h3 j hjm))
        · obtain rfl : j = m := by omega
          exact List.mem_append.2 (.inr (by simp))
    · rename_i hc
      have hc1 : ¬ m = 0 := fun e => hc (.inl e)
      have hc2 : L.getD m (0, 0) = L.getD (m - 1) (0, 0) := Classical.byContradiction fun e => hc (.inr e)
      refine ⟨h1, fun z hz => ?_, fun j hj => ?_⟩
      · obtain ⟨j, hj, e⟩ := h2 z hz
        exact ⟨j, by omega, e⟩
      · rcases Nat.lt_or_ge j m with hjm | hjm
        · exact h3 j hjm
        · obtain rfl : j = m := by omega
          rw [hc2]
          exact h3 (j - 1) (by omega)
theorem cmP_sort (ps : List Pt) : cmP (sortP ps) = srtL ps := by
  obtain ⟨h1, h2, h3⟩ := cmN_srt (sortP_up ps) (sortP ps).length (Nat.le_refl _)
  refine asc_ext h1 (srtL_asc ps) fun z => ?_
  rw [srtL_mem]
  constructor
  · intro hz
    obtain ⟨j, hj, rfl⟩ := h2 z hz
    exact (sortP_mem ps _).1 (by simp [List.getD, hj])
  · intro hz
    obtain ⟨j, hj, rfl⟩ := List.mem_iff_getElem.1 ((sortP_mem ps z).2 hz)
    have := h3 j hj
    rw [show (sortP ps).getD j (0, 0) = (sortP ps)[j] by simp [List.getD, hj]] at this
    exact this
/-- What SortPoints answers. -/
def spV (ps : List Pt) : List Pt := bif okL ps then srtL ps else []
theorem okL_20 {ps : List Pt} (h : okL ps = true) : allV ps = true ∧ ps.length ≤ 20 := by
  unfold okL at h
  simpa using h
theorem spV_len (ps : List Pt) : (spV ps).length ≤ 20 := by
  unfold spV
  rcases h : okL ps with _ | _
  · exact Nat.zero_le _
  · have := srtO_le ps []
    have h2 := (okL_20 h).2
    simp only [List.length_nil] at this
    show (srtO [] ps).length ≤ 20
    omega
theorem resR_iSp (ps : List Pt) (h : Big ps) : ResR Try.prog 57 [.row ps.length (.ints (flat ps))] (rowP (spV ps)) (blkP (spV ps)) := by
  refine bodyX_resR mixed ESp_ok (m := 30) (n := 12) rfl ?_
  rw [tr_iSp]
  unfold Big at h
  have e : ptsA ps.length (flat (sortP ps)) = sortP ps := by rw [← sortP_len ps, ptsA_flat]
  simp only [List.drop_zero, ptsA_flat, flat_length, e, cmP_sort]
  refine brT_ok.2 ⟨fun h20 => ⟨by omega, h, brT_ok.2 ⟨fun hv => ?_, fun hv => ?_⟩⟩, fun h20 => ?_⟩
  · have e2 : spV ps = [] := by
      unfold spV okL
      rw [show allV ps = false by simpa using hv]
      rfl
    rw [e2]
    exact ⟨none, ⟨rfl, rfl⟩, trivial⟩
  · have hv : allV ps = true := by simpa using hv
    have hl : ps.length ≤ 20 := by have := of_decide_eq_true h20; omega
    have e2 : spV ps = srtL ps := by
      unfold spV okL
      rw [hv, decide_eq_true hl]
      rfl
    rw [e2]
    exact ⟨by omega, by omega, trivial, by omega, by rw [sortP_len], by omega, some 2, ⟨rfl, rfl, rfl⟩, rfl, rfl, rfl⟩
  · have e2 : spV ps = [] := by
      unfold spV okL
      rw [show decide (ps.length ≤ 20) = false from decide_eq_false (by have := of_decide_eq_false h20; omega), Bool.and_false]
      rfl
    rw [e2]
    exact ⟨none, ⟨rfl, rfl⟩, trivial⟩
def RSs : TabR := fun f ds => match f, ds with
  | 127, [.row m (.ints xs)] => some (rowP (srtL (ptsA m xs)), blkP (srtL (ptsA m xs)), [m * 2 ≤ xs.length, m ≤ 1000])
  | 57, [.row m (.ints xs)] => some (rowP (spV (ptsA m xs)), blkP (spV (ptsA m xs)), [m * 2 ≤ xs.length, m ≤ 1000000000])
  | f, ds => RCl f ds
theorem RSs_ok : TabROk Try.prog RSs := by
  intro f ds v b C h hC
  unfold RSs at h
  (try split at h)
  all_goals first
    | (obtain ⟨rfl, rfl, rfl⟩ : _ ∧ _ ∧ _ := by simpa using h
       obtain ⟨_, h2⟩ := ptsA_spec hC.1
       have h1 := resR_pts1 (pre := []) (post := []) hC.1 (resR_srt _ (by rw [h2]; exact hC.2.1))
       simp only [List.nil_append, List.append_nil] at h1
       with_reducible exact h1)
    | (obtain ⟨rfl, rfl, rfl⟩ : _ ∧ _ ∧ _ := by simpa using h
       obtain ⟨_, h2⟩ := ptsA_spec hC.1
       have h1 := resR_pts1 (pre := []) (post := []) hC.1 (resR_iSp _ (by unfold Big; rw [h2]; exact hC.2.1))
       simp only [List.nil_append, List.append_nil] at h1
       with_reducible exact h1)
    | exact RCl_ok _ _ _ _ _ h hC
def RSq : TabR := fun f ds => match f, ds with
  | f, ds => RSs f ds
theorem RSq_ok : TabROk Try.prog RSq := by
  intro f ds v b C h hC
  unfold RSq at h
  (try split at h)
  all_goals first
    | (obtain ⟨rfl, rfl, rfl⟩ : _ ∧ _ ∧ _ := by simpa using h
       obtain ⟨_, h2⟩ := ptsA_spec hC.1
       have h1 := resR_pts1 (pre := []) (post := []) hC.1 (resR_sSp _ (by unfold Big; rw [h2]; exact hC.2.1))
       simp only [List.nil_append, List.append_nil] at h1
       with_reducible exact h1)
    | exact RSs_ok _ _ _ _ _ h hC
def TMh : Tab := fun f ds => match f with
  | 43 => pHeldP ds
  | f => T3 f ds
theorem TMh_ok : TabOk Try.prog TMh := by
  intro f ds v C h hC
  unfold TMh at h
  (try split at h)
  all_goals first | with_reducible exact pHeldP_ok h hC | exact T3_ok _ _ _ _ h hC
end Go.Proofs.Ytolodncpegajkab
namespace Go.Proofs.Ytolodncpegajkab
set_option linter.all false
open Go.RowKit
def RGw : TabR := fun f ds => match f, ds with
  | 134, [.v (.slice none 0 0), .v (.int .i64 n)] => some (.slice (some ⟨0, 0, none⟩) 0 0, ⟨.row 44 2, .ints []⟩, [0 < n ∧ n ≤ 1000])
  | _, _ => none
theorem RGw_ok : TabROk Try.prog RGw := by
  intro f ds v b C h hC
  unfold RGw at h
  (try split at h)
  all_goals first
    | (obtain ⟨rfl, rfl, rfl⟩ : _ ∧ _ ∧ _ := by simpa using h
       exact resR_grw _ hC.1)
    | cases h
def ECt : Env := mkE B0 RGw (fun _ => noL)
theorem ECt_ok : EnvOk Try.prog ECt := mkEOk B0_ok RGw_ok (fun _ _ _ => noL_good)
set_option maxRecDepth 100000 in
theorem tr_cat (l1 l2 : Nat) (y1 y2 : List Int) : bodyM Try.prog ECt (runM Try.prog ECt 30 12) 30 94 [.slice (some ⟨2, 0, none⟩) 2 2] [some ⟨.view, .ints y1⟩, some ⟨.view, .ints y2⟩, some ⟨.view, .vals [.slice (some ⟨0, 0, none⟩) l1 l1, .slice (some ⟨1, 0, none⟩) l2 l2]⟩] .fin = .need ((0 : Int) ≤ (0 : Int) ∧ (0 : Int) < (↑(2 : Nat) : Int)) (brT (decide (IntKind.i64.wrap (0 + (↑l1 : Int)) < 0)) (.bad) (.need ((0 : Int) ≤ IntKind.i64.wrap ((0 : Int) + (1 : Int)) ∧ IntKind.i64.wrap ((0 : Int) + (1 : Int)) < (↑(2 : Nat) : Int)) (brT (decide (IntKind.i64.wrap (IntKind.i64.wrap (0 + (↑l1 : Int)) + (↑l2 : Int)) < 0)) (.bad) (.need ((0 : Int) < IntKind.i64.wrap (IntKind.i64.wrap ((0 : Int) + (↑l1 : Int)) + (↑l2 : Int)) ∧ IntKind.i64.wrap (IntKind.i64.wrap ((0 : Int) + (↑l1 : Int)) + (↑l2 : Int)) ≤ (1000 : Int)) (.need ((0 : Int) ≤ (0 : Int) ∧ (0 : Int) < (↑(2 : Nat) : Int)) (.need (((0 : Nat) + (l1, Cs.ints (List.take (l1 * Try.prog.types[(44 : Nat)].size) (List.drop (0 : Nat) y1)), [(0 : Nat) + l1 * Try.prog.types[(44 : Nat)].size ≤ y1.length]).fst) * (16 : Nat) ≤ (140737488355328 : Nat) ∧ (0 : Nat) + (l1, Cs.ints (List.take (l1 * Try.prog.types[(44 : Nat)].size) (List.drop (0 : Nat) y1)), [(0 : Nat) + l1 * Try.prog.types[(44 : Nat)].size ≤ y1.length]).fst ≤ (1000000 : Nat)) (.need ((0 : Nat) + l1 * (2 : Nat) ≤ y1.length) (.need ((0 : Nat) ≤ (0 : Nat)) (.need ((0 : Int) ≤ IntKind.i64.wrap ((0 : Int) + (1 : Int)) ∧ IntKind.i64.wrap ((0 : Int) + (1 : Int)) < (↑(2 : Nat) : Int)) (.need (((0 : Nat) + (l1, Cs.ints (List.take (l1 * Try.prog.types[(44 : Nat)].size) (List.drop (0 : Nat) y1)), [(0 : Nat) + l1 * Try.prog.types[(44 : Nat)].size ≤ y1.length]).fst + (l2, Cs.ints (List.take (l2 * Try.prog.types[(44 : Nat)].size) (List.drop (0 : Nat) y2)), [(0 : Nat) + l2 * Try.prog.types[(44 : Nat)].size ≤ y2.length]).fst) * (16 : Nat) ≤ (140737488355328 : Nat) ∧ (0 : Nat) + (l1, Cs.ints (List.take (l1 * Try.prog.types[(44 : Nat)].size) (List.drop (0 : Nat) y1)), [(0 : Nat) + l1 * Try.prog.types[(44 : Nat)].size ≤ y1.length]).fst + (l2, Cs.ints (List.take (l2 * Try.prog.types[(44 : Nat)].size) (List.drop (0 : Nat) y2)), [(0 : Nat) + l2 * Try.prog.types[(44 : Nat)].size ≤ y2.length]).fst ≤ (1000000 : Nat)) (.need ((0 : Nat) + l2 * (2 : Nat) ≤ y2.length) (.need ((0 : Nat) + ((0 : Nat) + (l1, Cs.ints (List.take (l1 * Try.prog.types[(44 : Nat)].size) (List.drop (0 : Nat) y1)), [(0 : Nat) + l1 * Try.prog.types[(44 : Nat)].size ≤ y1.length]).fst) * (2 : Nat) ≤ (List.take (0 : Nat) (List.drop (0 : Nat) []) ++ List.take (l1 * (2 : Nat)) (List.drop (0 : Nat) y1)).length) (.fin (.slice (some ⟨5, 0, none⟩) (0 + (l1, Cs.ints (List.take (l1 * Try.prog.types[44].size) (List.drop 0 y1)), [0 + l1 * Try.prog.types[44].size ≤ y1.length]).fst + (l2, Cs.ints (List.take (l2 * Try.prog.types[44].size) (List.drop 0 y2)), [0 + l2 * Try.prog.types[44].size ≤ y2.length]).fst) (0 + (l1, Cs.ints (List.take (l1 * Try.prog.types[44].size) (List.drop 0 y1)), [0 + l1 * Try.prog.types[44].size ≤ y1.length]).fst + (l2, Cs.ints (List.take (l2 * Try.prog.types[44].size) (List.drop 0 y2)), [0 + l2 * Try.prog.types[44].size ≤ y2.length]).fst)) [some ⟨.view, .ints (y1)⟩, some ⟨.view, .ints (y2)⟩, some ⟨.view, .vals [.slice (some ⟨0, 0, none⟩) (l1) (l1), .slice (some ⟨1, 0, none⟩) (l2) (l2)]⟩, some deadB, some deadB, some ⟨.row 44 2, .ints (List.take ((0 + (l1, Cs.ints (List.take (l1 * Try.prog.types[44].size) (List.drop 0 y1)), [0 + l1 * Try.prog.types[44].size ≤ y1.length]).fst) * 2) (List.drop 0 (List.take 0 (List.drop 0 []) ++ List.take (l1 * 2) (List.drop 0 y1))) ++ List.take (l2 * 2) (List.drop 0 y2))⟩]))))))))))))) := by kernel_rfl
/-- A view of two slices, beside what they are of. -/
theorem two_open {w : World} {l1 l2 : Nat} {y1 y2 : List Int} {x1 x2 : Value} (h1 : DOk w (.row l1 (.ints y1)) x1) (h2 : DOk w (.row l2 (.ints y2)) x2) {g f : Nat} (hg : g < w.heap.size) (c1 : w.cell? ⟨g, f, none⟩ = some x1) (c2 : w.cell? ⟨g, f + 1, none⟩ = some x2) (B : Nat → Prop) :
    ∃ ρ : Nat → Option Pl, ρ 2 = some (g, f, none) ∧ MemOk (fun _ => none) ρ B (fun n => [some (⟨.view, .ints y1⟩ : Blk), some ⟨.view, .ints y2⟩, some ⟨.view, .vals [.slice (some ⟨0, 0, none⟩) l1 l1, .slice (some ⟨1, 0, none⟩) l2 l2]⟩].getD n none) w := by
  obtain ⟨ρ, ha, hm⟩ := args_open (w := w) (ds := [.row l1 (.ints y1), .row l2 (.ints y2)]) (args := #[x1, x2]) ⟨rfl, fun i d y hd hy => by
    match i, hd, hy with
    | 0, hd, hy =>
      obtain rfl : DArg.row l1 (.ints y1) = d := by simpa using hd
      obtain rfl : x1 = y := by simpa using hy
      exact h1
    | 1, hd, hy =>
      obtain rfl : DArg.row l2 (.ints y2) = d := by simpa using hd
      obtain rfl : x2 = y := by simpa using hy
      exact h2
    | i + 2, hd, hy => simp at hd⟩ B
  have hn : ρ 2 = none := hm.fresh 2 rfl
  have v0 : VR ρ (.slice (some ⟨0, 0, none⟩) l1 l1) x1 := ha.2 0 _ _ rfl rfl
  have v1 : VR ρ (.slice (some ⟨1, 0, none⟩) l2 l2) x2 := ha.2 1 _ _ rfl rfl
  have hext : Ext ρ (addPl ρ 2 (g, f, none)) := addPl_ext hn
  refine ⟨addPl ρ 2 (g, f, none), addPl_same _ _ _, fun n p hp => by simp at hp, fun n hn' => ?_, fun n b hb => ?_, fun n n' b b' p p' hb hown => ?_⟩
  · have h3 : 3 ≤ n := by
      rcases Nat.lt_or_ge n 3 with h | h
      · match n, h with
        | 0, _ => simp at hn'
        | 1, _ => simp at hn'
        | 2, _ => simp at hn'
      · exact h
    rw [addPl_ne (by omega)]
    refine hm.fresh n ?_
    match n, h3 with
    | n + 3, _ => rfl
  · match n, hb with
    | 0, hb =>
      obtain rfl : (⟨.view, .ints y1⟩ : Blk) = b := by simpa using hb
      exact (hm.ok 0 _ rfl).keep hext (Nat.le_refl _) fun _ _ _ _ => rfl
    | 1, hb =>
      obtain rfl : (⟨.view, .ints y2⟩ : Blk) = b := by simpa using hb
      exact (hm.ok 1 _ rfl).keep hext (Nat.le_refl _) fun _ _ _ _ => rfl
    | 2, hb =>
      obtain rfl : (⟨.view, .vals [.slice (some ⟨0, 0, none⟩) l1 l1, .slice (some ⟨1, 0, none⟩) l2 l2]⟩ : Blk) = b := by simpa using hb
      refine .inr ⟨g, f, none, addPl_same _ _ _, .inr rfl, hg, fun k v hk => ?_⟩
      match k, hk with
      | 0, hk =>
        obtain rfl : Value.slice (some ⟨0, 0, none⟩) l1 l1 = v := by simpa [Blk.cells, Cs.list] using hk
        exact ⟨x1, c1, v0.ext hext⟩
      | 1, hk =>
        obtain rfl : Value.slice (some ⟨1, 0, none⟩) l2 l2 = v := by simpa [Blk.cells, Cs.list] using hk
        exact ⟨x2, c2, v1.ext hext⟩
      | k + 2, hk => simp [Blk.cells, Cs.list] at hk
    | n + 3, hb => simp at hb
  · exfalso
    match n, hb with
    | 0, hb =>
      obtain rfl : (⟨.view, .ints y1⟩ : Blk) = b := by simpa using hb
      cases hown
    | 1, hb =>
      obtain rfl : (⟨.view, .ints y2⟩ : Blk) = b := by simpa using hb
      cases hown
    | 2, hb =>
      obtain rfl : (⟨.view, .vals [.slice (some ⟨0, 0, none⟩) l1 l1, .slice (some ⟨1, 0, none⟩) l2 l2]⟩ : Blk) = b := by simpa using hb
      cases hown
    | n + 3, hb => simp at hb
/-- A function of a row of two slices that answers with a fresh row. -/
theorem two_call {P : Program} (hm : P.follows .mixedOrders = true) {E : Env} (hE : EnvOk P E) {m n : Nat} {f : FuncId} {l1 l2 : Nat} {y1 y2 : List Int} {v : Value} {b : Blk} (hb : isRow b = true)
    (h : (bodyM P E (runM P E m n) m f [.slice (some ⟨2, 0, none⟩) 2 2] [some ⟨.view, .ints y1⟩, some ⟨.view, .ints y2⟩, some ⟨.view, .vals [.slice (some ⟨0, 0, none⟩) l1 l1, .slice (some ⟨1, 0, none⟩) l2 l2]⟩] .fin).ok (fun _ _ => False) (fun u mem => RowIs v b u mem))
    (w : World) {x1 x2 : Value} (h1 : DOk w (.row l1 (.ints y1)) x1) (h2 : DOk w (.row l2 (.ints y2)) x2) {g fo c : Nat} (hg : g < w.heap.size) (c1 : w.cell? ⟨g, fo, none⟩ = some x1) (c2 : w.cell? ⟨g, fo + 1, none⟩ = some x2) (hc : 2 ≤ c) :
    Calls P f #[.slice (some ⟨g, fo, none⟩) 2 c] w fun e w' => ∃ v' p, e = .returned v' ∧ Below w.heap.size w w' ∧ ∀ ρ name, ρ name = some p → VR ρ (atName name v) v' ∧ BlkOk ρ (fun k => k < w.heap.size) w' name b := by
  obtain ⟨u, mem', ⟨src, hrv, hsrc⟩, hent, hdet⟩ := bodyM_ok hE hm (runM_ok hm hE m n) m f _ _ _ _ _ h
  obtain ⟨kd, cs⟩ := b
  cases kd with
  | row e sz =>
    obtain ⟨ρ, hρ, hmem⟩ := two_open h1 h2 hg c1 c2 (fun k => k < w.heap.size)
    refine (hdet ⟨w, fun _ => none, fun k => k < w.heap.size, fun _ h => h, [], none⟩ ρ #[.slice (some ⟨g, fo, none⟩) 2 c] w ⟨rfl, fun i a x ha hx => ?_⟩ hmem (BelowK.refl _ _)).mono ?_
    · match i, ha, hx with
      | 0, ha, hx =>
        obtain rfl : Value.slice (some ⟨2, 0, none⟩) 2 2 = a := by simpa using ha
        obtain rfl : Value.slice (some ⟨g, fo, none⟩) 2 c = x := by simpa using hx
        exact .slice (o := 0) hρ (.inr rfl) hc (fun k hk => by simp at hk)
      | i + 1, ha, hx => simp at ha
    rintro e' w' ⟨v', ρ', rfl, _, g2, g3, g4⟩
    cases src with
    | none => exact ⟨v', (0, 1, some 0), rfl, g3.to, fun ρ2 name hp => ⟨rv_ok (ρ := ρ') (src := none) hp hrv g2, .inl ⟨_, hp, rfl, rfl⟩⟩⟩
    | some k =>
      simp only at hsrc
      split at hsrc
      rotate_left
      · exact hsrc.elim
      rename_i b' hb'
      obtain ⟨kd', cs'⟩ := b'
      cases kd' with
      | row e2 sz2 =>
        obtain ⟨rfl, rfl, hc⟩ := hsrc
        obtain ⟨d1, d2⟩ := rc_list hc
        rcases g4.ok k _ hb' with ⟨p, h1, h2, h3⟩ | ⟨g, cap, h1, h2, arr, h3, h4, h5⟩
        · exact ⟨v', p, rfl, g3.to, fun ρ2 name hp => ⟨rv_ok (ρ := ρ') (src := some k) (hp.trans h1.symm) hrv g2, .inl ⟨p, hp, h2, h3⟩⟩⟩
        · refine ⟨v', _, rfl, g3.to, fun ρ2 name hp => ⟨rv_ok (ρ := ρ') (src := some k) (hp.trans h1.symm) hrv g2, .inr ⟨g, cap, hp, h2, arr, h3, h4, ?_⟩⟩⟩
          intro i x hx
          obtain ⟨x', k1, k2⟩ := h5 i x (by show cs'.list[i]? = some x; rw [d1]; exact hx)
          refine ⟨x', k1, ?_⟩
          have hat := plain_of_atom (d2 x (List.mem_of_getElem? hx))
          rw [k2.plain hat]
          exact .lit hat
      | _ => exact hsrc.elim
  | _ => cases hb
abbrev catB (l1 l2 : Nat) (y1 y2 : List Int) : Blk := ⟨.row 44 2, .ints (y1.take (l1 * 2) ++ y2.take (l2 * 2))⟩
theorem cat_row {l1 l2 : Nat} {y1 y2 : List Int} (h1 : l1 * 2 ≤ y1.length) (h2 : l2 * 2 ≤ y2.length) (h0 : 0 < l1 + l2) (h3 : l1 + l2 ≤ 1000) : (bodyM Try.prog ECt (runM Try.prog ECt 30 12) 30 94 [.slice (some ⟨2, 0, none⟩) 2 2] [some ⟨.view, .ints y1⟩, some ⟨.view, .ints y2⟩, some ⟨.view, .vals [.slice (some ⟨0, 0, none⟩) l1 l1, .slice (some ⟨1, 0, none⟩) l2 l2]⟩] .fin).ok (fun _ _ => False) (fun u mem => RowIs (.slice (some ⟨0, 0, none⟩) (l1 + l2) (l1 + l2)) (catB l1 l2 y1 y2) u mem) := by
  rw [tr_cat]
  have e1 : IntKind.i64.wrap (0 + (l1 : Int)) = (l1 : Int) := by rw [wr (by omega)]; omega
  have e2 : IntKind.i64.wrap ((l1 : Int) + (l2 : Int)) = (l1 : Int) + l2 := wr (by omega)
  have e3 : IntKind.i64.wrap ((0 : Int) + 1) = 1 := by rw [wr (by omega)]; rfl
  have t1 : (y1.take (l1 * 2)).length = l1 * 2 := by rw [List.length_take]; omega
  simp only [e1, e2, e3, List.drop_zero, List.take_zero, List.nil_append, Nat.zero_add, List.take_take, Nat.min_self, t1]
  refine ⟨⟨by omega, by omega⟩, brT_ok.2 ⟨fun q => ?_, fun _ => ⟨⟨by omega, by omega⟩, brT_ok.2 ⟨fun q => ?_, fun _ => ⟨⟨by omega, by omega⟩, ⟨by omega, by omega⟩, ⟨by omega, by omega⟩, h1, by omega, ⟨by omega, by omega⟩, ⟨by omega, by omega⟩, h2, by omega, some 5, ⟨rfl, rfl, rfl⟩, rfl, rfl, rfl⟩⟩⟩⟩⟩
  · have := of_decide_eq_true q; omega
  · have := of_decide_eq_true q; omega
def rowI : DArg → Option (Nat × List Int)
  | .row l (.ints y) => some (l, y)
  | _ => none
theorem rowI_spec {d : DArg} {l : Nat} {y : List Int} (h : rowI d = some (l, y)) : d = .row l (.ints y) := by
  unfold rowI at h
  split at h
  · obtain ⟨rfl, rfl⟩ : _ ∧ _ := by simpa using h
    rfl
  · cases h
/-- Two slices of points, one behind the other. -/
def catG (name : Nat) (args : List Value) : Rd Eff := match args with
  | [.slice (some ⟨nb, 0, none⟩) 2 _] => .blk nb fun b => match b with
    | some ⟨.row _ 1, .vals [s1, s2]⟩ => (rdArg s1).bind fun d1 => (rdArg s2).bind fun d2 => (match rowI d1, rowI d2 with
      | some (l1, y1), some (l2, y2) => .ret ⟨.slice (some ⟨name, 0, none⟩) (l1 + l2) (l1 + l2), [(name, catB l1 l2 y1 y2)], [l1 * 2 ≤ y1.length, l2 * 2 ≤ y2.length, 0 < l1 + l2, l1 + l2 ≤ 1000]⟩
      | _, _ => .fail)
    | _ => .fail
  | _ => .fail
set_option maxRecDepth 100000 in
theorem catG_sound {J : TabJ} (hJ : GSound Try.prog J.g) : GSound Try.prog (consR 94 catG J).g := by
  intro h name args s eff hr hn
  simp only [consR] at hr
  split at hr
  rotate_left
  · exact hJ h name args s eff hr hn
  rename_i heq
  obtain rfl := Nat.eq_of_beq_eq_true heq
  refine ⟨(entersB_res (by kernel_rfl)).1, fun B ρ0 ρ w args' ha hm hB hcond => ?_⟩
  unfold catG at hr
  split at hr
  rotate_left
  · simp [Rd.run] at hr
  rename_i nb c
  simp only [Rd.run] at hr
  split at hr
  rotate_left
  · simp [Rd.run] at hr
  rename_i e s1 s2 hb
  obtain ⟨d1, hd1, hr1⟩ := bind_some hr
  obtain ⟨d2, hd2, hr2⟩ := bind_some hr1
  clear hr hr1
  split at hr2
  rotate_left
  · simp [Rd.run] at hr2
  rename_i l1 y1 l2 y2 r1 r2
  obtain rfl := rowI_spec r1
  obtain rfl := rowI_spec r2
  obtain rfl : (⟨.slice (some ⟨name, 0, none⟩) (l1 + l2) (l1 + l2), [(name, catB l1 l2 y1 y2)], [l1 * 2 ≤ y1.length, l2 * 2 ≤ y2.length, 0 < l1 + l2, l1 + l2 ≤ 1000]⟩ : Eff) = eff := by simpa [Rd.run] using hr2
  obtain ⟨k1, k2, k3, k4, _⟩ := hcond
  obtain ⟨hsz, hval⟩ := ha
  obtain ⟨x0, rfl⟩ : ∃ x0, args' = #[x0] := by
    have h2 : args'.size = 1 := by simpa using hsz.symm
    match args', h2 with
    | ⟨[x0]⟩, _ => exact ⟨x0, rfl⟩
  have v0 := hval 0 _ x0 rfl rfl
  rcases v0.slice_inv with ⟨g, f, cp, c', j1, jok, j2, j3, j4⟩ | ⟨hl0, _⟩ | ⟨hl0, _⟩
  rotate_left
  · omega
  · omega
  rcases hm.ok nb _ hb with ⟨p, q1, q2, q3⟩ | ⟨g2, cap, q1, q2, cs', q3, q4, q5⟩
  · rw [q1] at j1
    obtain rfl : p = (g, f, cp) := by simpa using j1
    exact absurd ⟨q2, 0, q3⟩ jok.not
  rw [q1] at j1
  obtain ⟨rfl, rfl, rfl⟩ : g2 = g ∧ 0 = f ∧ some cap = cp := by simpa using j1
  subst j2
  obtain ⟨x1, a1, a2⟩ := q5 0 s1 rfl
  obtain ⟨x2, b1, b2⟩ := q5 1 s2 rfl
  have hg : g2 < w.heap.size := (Array.getElem?_eq_some_iff.1 q3).1
  have cell : ∀ k x, cs'[k]? = some x → w.cell? ⟨g2, 0 + k, none⟩ = some x := fun k x hx => by
    simp only [World.cell?, Nat.zero_add, q3, Option.isSome_none, Bool.false_eq_true, if_false, hx]
  refine (two_call mixed ECt_ok rfl (cat_row k1 k2 k3 k4) w ((rdArg_ok hd1).2 a2 hm) ((rdArg_ok hd2).2 b2 hm) hg (cell 0 _ a1) (cell 1 _ b1) j3).mono ?_
  rintro e' w' ⟨v', p, rfl, hbel, hrow⟩
  obtain ⟨g1, g3⟩ := hrow (addPl ρ name p) name (addPl_same _ _ _)
  refine ⟨v', addPl ρ name p, rfl, addPl_ext (hm.fresh name hn), g1, BelowK.of hbel hB, ?_⟩
  rw [upd_one]
  exact hm.newRow hB hbel hn rfl g3
end Go.Proofs.Ytolodncpegajkab
