/-
  Texts that the proof needs, merged. Written by an AI agent.
-/
import Derived.Orders
import Derived.Below
import Derived.OrdersIn
import Derived.Deep.LoopGhost
import Derived.WalkKit
import Derived.Laws.CopyRow
import Derived.Laws.AppendOwn
import Derived.Laws.Slices
import Derived.Laws.MakeOwn
import Derived.Test.YtnjmepbblcfnfaaRows
import Derived.ProofKit
import Derived.OpenShut
import Derived.Carry
import Derived.IntWalk
import Derived.Test.YtnjmepbblcfnfaaProg
import Derived.WalkSpells
import Derived.WalkLawsBesides
import Derived.Lib.Hide
import Derived.Deep.QuietTactic
import Derived.BigQuiet
import Derived.KernelRfl
import Derived.Deep.RegionHeld3
import Derived.LoopTactic
import Derived.Laws.StructEq
import Derived.Laws.Tables
import Derived.RangeFuncNested
import Derived.RangeFuncLeaves
import Derived.Deep.Slices
import Derived.Deep.Fields
import Derived.ChangeSame
import Derived.Deep.DeepCutAuto
import Derived.Shelf.SlSortCmp.WholeK
import Derived.Sort.Grow
import Derived.Shelf.SlSortCmp.NoneTotal
import Derived.Test.YtnjmepbblcfnfaaZDiameterHull3
namespace Go.Proofs.Ytnjmepbblcfnfaa
set_option linter.all false
open Go.RowKit
/-- A vector that leads on in the order of points. -/
def posV (u : Pt) : Prop := 0 < u.1 ∨ u.1 = 0 ∧ 0 < u.2
def cr2 (u v : Pt) : Int := u.1 * v.2 - u.2 * v.1
def dif (b a : Pt) : Pt := (b.1 - a.1, b.2 - a.2)
theorem cr_tr {u v w : Pt} (hu : posV u) (hv : posV v) (hw : posV w) (h1 : 0 ≤ cr2 u v) (h2 : 0 ≤ cr2 v w) : 0 ≤ cr2 u w ∧ (0 < cr2 u v ∨ 0 < cr2 v w → 0 < cr2 u w) := by
  obtain ⟨a, b⟩ := u
  obtain ⟨c, d⟩ := v
  obtain ⟨e, f⟩ := w
  unfold posV cr2 at *
  simp only at *
  rcases hv with hc | ⟨rfl, hd⟩
  · have ha : 0 < a := by
      rcases hu with h | ⟨rfl, hb⟩
      · exact h
      · have := Int.mul_pos hb hc
        omega
    rcases hw with he | ⟨rfl, hf⟩
    · have id : c * (a * f - b * e) = a * (c * f - d * e) + e * (a * d - b * c) := by grind
      have n1 := Int.mul_nonneg (Int.le_of_lt ha) h2
      have n2 := Int.mul_nonneg (Int.le_of_lt he) h1
      generalize a * f - b * e = X at *
      refine ⟨?_, fun h => ?_⟩
      · rcases Int.lt_or_le X 0 with h | h
        · have := Int.mul_neg_of_pos_of_neg hc h
          omega
        · exact h
      · rcases Int.lt_or_le 0 X with h' | h'
        · exact h'
        · have := Int.mul_nonpos_of_nonneg_of_nonpos (Int.le_of_lt hc) h'
          rcases h with h | h
          · have := Int.mul_pos he h
            omega
          · have := Int.mul_pos ha h
            omega
    · have := Int.mul_pos ha hf
      omega
  · have he : e = 0 ∧ 0 < f := by
      rcases hw with h | h
      · have := Int.mul_pos hd h
        omega
      · exact h
    obtain ⟨rfl, hf⟩ := he
    have ha : 0 ≤ a := by omega
    have n1 := Int.mul_nonneg ha (Int.le_of_lt hf)
    refine ⟨by omega, fun h => ?_⟩
    have : 0 < a := by
      rcases Int.lt_or_le 0 a with h' | h'
      · exact h'
      · obtain rfl : a = 0 := by omega
        omega
    have := Int.mul_pos this hf
    omega
theorem plt_pos {a b : Pt} : pltB a b = true ↔ posV (dif b a) := by
  rw [pltB_iff]
  unfold posV dif
  simp only
  omega
theorem oP_tri (a b : Pt) : a = b ∨ pltB a b = true ∨ pltB b a = true := by
  obtain ⟨a1, a2⟩ := a
  obtain ⟨b1, b2⟩ := b
  simp only [pltB_iff, Prod.mk.injEq]
  omega
theorem oP_trans {a b c : Pt} (h1 : pltB a b = true) (h2 : pltB b c = true) : pltB a c = true := by
  rw [pltB_iff] at *
  omega
theorem oP_irr {a : Pt} (h : pltB a a = true) : False := by
  rw [pltB_iff] at h
  omega
theorem oP_asym {a b : Pt} (h1 : pltB a b = true) (h2 : pltB b a = true) : False := oP_irr (oP_trans h1 h2)
theorem crP_bb (a b : Pt) : crP a b b = 0 := by unfold crP crossI; grind
theorem crP_ba (a b : Pt) : crP a b a = 0 := by unfold crP crossI; grind
theorem ch_tr1 {a b p q : Pt} (h1 : pltB a b = true) (h2 : pltB a p = true) (h3 : pltB a q = true) (h4 : 0 ≤ crP a b q) (h5 : crP a b p ≤ 0) : 0 ≤ crP a p q := by
  have := cr_tr (plt_pos.1 h2) (plt_pos.1 h1) (plt_pos.1 h3) (by unfold cr2 dif; unfold crP crossI at h5; simp only; grind) h4
  exact this.1
theorem ch_tr2 {a b p q : Pt} (h1 : pltB q b = true) (h2 : pltB a b = true) (h3 : pltB b p = true) (h4 : 0 ≤ crP a b q) (h5 : 0 ≤ crP a b p) : 0 ≤ crP b p q := by
  have := cr_tr (plt_pos.1 h1) (plt_pos.1 h2) (plt_pos.1 h3) (by unfold cr2 dif; unfold crP crossI at h4; simp only; grind) (by unfold cr2 dif; unfold crP crossI at h5; simp only; grind)
  have h := this.1
  unfold cr2 dif at h
  unfold crP crossI
  simp only at h
  grind
theorem ch_tr3 {a' a b p : Pt} (h1 : pltB a' a = true) (h2 : pltB a b = true) (h3 : pltB b p = true) (h4 : 0 < crP a' a b) (h5 : 0 < crP a b p) : 0 < crP a' a p := by
  have k4 : 0 < cr2 (dif a a') (dif b a) := by unfold cr2 dif; unfold crP crossI at h4; simp only; grind
  have k5 : 0 < cr2 (dif b a) (dif p b) := by unfold cr2 dif; unfold crP crossI at h5; simp only; grind
  have := (cr_tr (plt_pos.1 h1) (plt_pos.1 h2) (plt_pos.1 h3) (Int.le_of_lt k4) (Int.le_of_lt k5)).2 (.inl k4)
  have e : crP a' a p = cr2 (dif a a') (dif b a) + cr2 (dif a a') (dif p b) := by unfold crP crossI cr2 dif; simp only; grind
  omega
/-- A point put on a stack, whose top is its head. -/
def pushR : List Pt → Pt → List Pt
  | b :: a :: r, p => if crP a b p ≤ 0 then pushR (a :: r) p else p :: b :: a :: r
  | [b], p => [p, b]
  | [], p => [p]
theorem take_rev {st : List Pt} {j : Nat} (h : j < st.length) : (st.take (j + 1)).reverse = st.getD j (0, 0) :: (st.take j).reverse := by
  rw [← List.take_append_getElem h]
  simp [h]
theorem pushP_aux (st : List Pt) (p : Pt) : ∀ j, j ≤ st.length → (st.take (popN st p j) ++ [p]).reverse = pushR (st.take j).reverse p
  | 0, _ => by simp [popN, pushR]
  | 1, h => by
    match st, h with
    | x :: t, _ => simp [popN, pushR]
  | j + 2, h => by
    have ih := pushP_aux st p (j + 1) (by omega)
    rw [take_rev (j := j + 1) (by omega)]
    rw [take_rev (j := j) (by omega)] at ih ⊢
    simp only [popN, pushR]
    split
    · exact ih
    · rw [List.reverse_append, take_rev (j := j + 1) (by omega), take_rev (j := j) (by omega)]
      rfl
theorem pushP_rev (st : List Pt) (p : Pt) : (pushP st p).reverse = pushR st.reverse p := by
  have := pushP_aux st p st.length (Nat.le_refl _)
  rw [List.take_length] at this
  exact this
/-- The stack of a chain, its top first. -/
def chnR (R ps : List Pt) : List Pt := ps.foldl pushR R
theorem chn_rev : ∀ (ps st : List Pt), (chn st ps).reverse = chnR st.reverse ps
  | [], _ => rfl
  | p :: r, st => by
    have := chn_rev r (pushP st p)
    rw [pushP_rev] at this
    exact this
def Dsc (R : List Pt) : Prop := R.Pairwise fun a b => pltB b a = true
def Cvx : List Pt → Prop
  | c :: b :: a :: r => 0 < crP a b c ∧ Cvx (b :: a :: r)
  | _ => True
def Lft (S : Pt → Prop) : List Pt → Prop
  | b :: a :: r => (∀ q, S q → 0 ≤ crP a b q) ∧ Lft S (a :: r)
  | _ => True
def Bot (S : Pt → Prop) (R : List Pt) : Prop := ∃ m, R.getLast? = some m ∧ ∀ q, S q → q = m ∨ pltB m q = true
def Top (S : Pt → Prop) (R : List Pt) : Prop := ∃ m, R.head? = some m ∧ ∀ q, S q → q = m ∨ pltB q m = true
/-- The chain of a set of points. -/
structure ChI (S : Pt → Prop) (R : List Pt) : Prop where
  mem : ∀ z ∈ R, S z
  dsc : Dsc R
  cvx : Cvx R
  lft : Lft S R
  bot : Bot S R
  top : Top S R
theorem Cvx.tail {b : Pt} {R : List Pt} (h : Cvx (b :: R)) : Cvx R := by
  match R, h with
  | [], _ => trivial
  | [_], _ => trivial
  | _ :: _ :: _, h => exact h.2
theorem Lft.tail {S : Pt → Prop} {b : Pt} {R : List Pt} (h : Lft S (b :: R)) : Lft S R := by
  match R, h with
  | [], _ => trivial
  | _ :: _, h => exact h.2
theorem Dsc.tail {b : Pt} {R : List Pt} (h : Dsc (b :: R)) : Dsc R := (List.pairwise_cons.1 h).2
theorem Dsc.lt {b a : Pt} {R : List Pt} (h : Dsc (b :: R)) (ha : a ∈ R) : pltB a b = true := (List.pairwise_cons.1 h).1 a ha
def adS (S : Pt → Prop) (p : Pt) : Pt → Prop := fun q => S q ∨ q = p
/-- What turns left stays left of a further point. -/
theorem lft_add {S : Pt → Prop} {p : Pt} : ∀ {r : List Pt} {b a : Pt}, Dsc (b :: a :: r) → Cvx (b :: a :: r) → Lft S (b :: a :: r) → pltB b p = true → 0 < crP a b p → Lft (adS S p) (b :: a :: r)
  | [], b, a, hd, hc, hl, hp, h => ⟨fun q hq => by
      rcases hq with hq | rfl
      · exact hl.1 q hq
      · exact Int.le_of_lt h, trivial⟩
  | a' :: r, b, a, hd, hc, hl, hp, h => by
    have h1 : pltB a b = true := hd.lt (by simp)
    have h2 : pltB a' a = true := hd.tail.lt (by simp)
    refine ⟨fun q hq => ?_, lft_add hd.tail hc.tail hl.2 (oP_trans h1 hp) (ch_tr3 h2 h1 hp hc.1 h)⟩
    rcases hq with hq | rfl
    · exact hl.1 q hq
    · exact Int.le_of_lt h
/-- A further point put on the stack. -/
theorem push_ok {S : Pt → Prop} {p : Pt} : ∀ {r : List Pt} {b : Pt}, (∀ z ∈ b :: r, S z) → Dsc (b :: r) → Cvx (b :: r) → Lft S (b :: r) → Bot S (b :: r) → (∀ q, S q → pltB q p = true) → (∀ q, S q → pltB b q = true → 0 ≤ crP b p q) → ChI (adS S p) (pushR (b :: r) p)
  | [], b, hm, hd, hc, hl, hb, hp, hK => by
    obtain ⟨m, h1, h2⟩ := hb
    obtain rfl : b = m := by simpa using h1
    have hbp := hp b (hm b (by simp))
    refine ⟨fun z hz => ?_, ?_, trivial, ⟨fun q hq => ?_, trivial⟩, ⟨b, rfl, fun q hq => ?_⟩, ⟨p, rfl, fun q hq => ?_⟩⟩
    · have hz : z = p ∨ z = b := by simpa [pushR] using hz
      rcases hz with rfl | rfl
      · exact .inr rfl
      · exact .inl (hm _ (by simp))
    · show List.Pairwise _ [p, b]
      simpa using hbp
    · rcases hq with hq | rfl
      · rcases h2 q hq with rfl | h
        · rw [crP_ba]; exact Int.le_refl _
        · exact hK q hq h
      · rw [crP_bb]; exact Int.le_refl _
    · rcases hq with hq | rfl
      · exact h2 q hq
      · exact .inr hbp
    · rcases hq with hq | rfl
      · exact .inr (hp q hq)
      · exact .inl rfl
  | a :: r, b, hm, hd, hc, hl, hb, hp, hK => by
    have hab : pltB a b = true := hd.lt (by simp)
    have hap := hp a (hm a (by simp))
    have hbp := hp b (hm b (by simp))
    have hb' : Bot S (a :: r) := by
      obtain ⟨m, h1, h2⟩ := hb
      exact ⟨m, by rw [List.getLast?_cons_cons] at h1; exact h1, h2⟩
    unfold pushR
    split
    · rename_i hle
      exact push_ok (fun z hz => hm z (List.mem_cons_of_mem _ hz)) hd.tail hc.tail hl.2 hb' hp fun q hq h => ch_tr1 hab hap h (hl.1 q hq) hle
    · rename_i hgt
      have hgt : 0 < crP a b p := by omega
      refine ⟨fun z hz => ?_, ?_, ⟨hgt, hc⟩, ⟨fun q hq => ?_, lft_add hd hc hl hbp hgt⟩, ?_, ⟨p, rfl, fun q hq => ?_⟩⟩
      · rcases List.mem_cons.1 hz with rfl | hz
        · exact .inr rfl
        · exact .inl (hm _ hz)
      · exact List.pairwise_cons.2 ⟨fun z hz => hp z (hm z hz), hd⟩
      · rcases hq with hq | rfl
        · rcases oP_tri b q with rfl | h | h
          · rw [crP_ba]; exact Int.le_refl _
          · exact hK q hq h
          · exact ch_tr2 h hab hbp (hl.1 q hq) (Int.le_of_lt hgt)
        · rw [crP_bb]; exact Int.le_refl _
      · obtain ⟨m, h1, h2⟩ := hb
        refine ⟨m, by rw [List.getLast?_cons_cons]; exact h1, fun q hq => ?_⟩
        rcases hq with hq | rfl
        · exact h2 q hq
        · have hm' : m ∈ b :: a :: r := List.mem_of_getLast? h1
          exact .inr (hp m (hm m hm'))
      · rcases hq with hq | rfl
        · exact .inr (hp q hq)
        · exact .inl rfl
theorem ChI.ext {S T : Pt → Prop} {R : List Pt} (h : ChI S R) (e : ∀ q, S q ↔ T q) : ChI T R := by
  have : S = T := funext fun q => propext (e q)
  rw [← this]
  exact h
theorem chnR_ok : ∀ {ps : List Pt} {S : Pt → Prop} {R : List Pt}, ChI S R → Asc ps → (∀ q, S q → ∀ p ∈ ps, pltB q p = true) → ChI (fun q => S q ∨ q ∈ ps) (chnR R ps)
  | [], S, R, h, _, _ => h.ext fun q => by simp
  | p :: r, S, R, h, ha, hS => by
    have ha' := List.pairwise_cons.1 ha
    have hp : ChI (adS S p) (pushR R p) := by
      match R, h with
      | [], h => obtain ⟨m, h1, _⟩ := h.top; cases h1
      | b :: t, h =>
        refine push_ok h.mem h.dsc h.cvx h.lft h.bot (fun q hq => hS q hq p (by simp)) fun q hq hbq => ?_
        obtain ⟨m, h1, h2⟩ := h.top
        obtain rfl : b = m := by simpa using h1
        rcases h2 q hq with rfl | h3
        · exact (oP_irr hbq).elim
        · exact (oP_asym hbq h3).elim
    have := chnR_ok hp ha'.2 fun q hq z hz => by
      rcases hq with hq | rfl
      · exact hS q hq z (List.mem_cons_of_mem _ hz)
      · exact ha'.1 z hz
    refine this.ext fun q => ?_
    unfold adS
    simp only [List.mem_cons]
    constructor
    · rintro ((h | h) | h)
      · exact .inl h
      · exact .inr (.inl h)
      · exact .inr (.inr h)
    · rintro (h | h | h)
      · exact .inl (.inl h)
      · exact .inl (.inr h)
      · exact .inr h
/-- The chain of points in order. -/
theorem chain_ok {ps : List Pt} (h : Asc ps) (h0 : ps ≠ []) : ChI (fun q => q ∈ ps) (chnR [] ps) := by
  match ps, h, h0 with
  | p :: r, h, _ =>
    have ha' := List.pairwise_cons.1 h
    have h1 : ChI (fun q => q = p) [p] := ⟨fun z hz => by simpa using hz, by unfold Dsc; simp, trivial, trivial, ⟨p, rfl, fun q hq => .inl hq⟩, ⟨p, rfl, fun q hq => .inl hq⟩⟩
    have := chnR_ok h1 ha'.2 fun q hq z hz => by rw [show q = p from hq]; exact ha'.1 z hz
    exact this.ext fun q => by simp
/-- The last of a chain, the least of all. -/
theorem ChI.tail {S : Pt → Prop} {b a : Pt} {R : List Pt} (h : ChI S (b :: a :: R)) : (∀ z ∈ a :: R, S z) ∧ Dsc (a :: R) ∧ Cvx (a :: R) ∧ Lft S (a :: R) ∧ Bot S (a :: R) := by
  refine ⟨fun z hz => h.mem z (List.mem_cons_of_mem _ hz), h.dsc.tail, h.cvx.tail, h.lft.tail, ?_⟩
  obtain ⟨m, h1, h2⟩ := h.bot
  exact ⟨m, by rw [List.getLast?_cons_cons] at h1; exact h1, h2⟩
/-- Two chains with the same top: the next is the same. -/
theorem next_le {S : Pt → Prop} {b a a' : Pt} {r' : List Pt} (ha : S a) (hd : pltB a b = true) (hl : ∀ q, S q → 0 ≤ crP a b q) (hm' : ∀ z ∈ b :: a' :: r', S z) (hd' : Dsc (b :: a' :: r')) (hc' : Cvx (b :: a' :: r')) (hl' : Lft S (b :: a' :: r')) (hb' : Bot S (b :: a' :: r')) : ¬ pltB a a' = true := by
  intro hlt
  have hab' : pltB a' b = true := hd'.lt (by simp)
  have k1 := hl a' (hm' a' (by simp))
  have k2 := hl'.1 a ha
  have e1 : crP a b a' = cr2 (dif b a') (dif a' a) := by unfold crP crossI cr2 dif; simp only; grind
  have e2 : crP a' b a = -cr2 (dif b a') (dif a' a) := by unfold crP crossI cr2 dif; simp only; grind
  match r', hm', hd', hc', hl', hb' with
  | [], hm', hd', hc', hl', hb' =>
    obtain ⟨m, h1, h2⟩ := hb'
    obtain rfl : a' = m := by simpa using h1
    rcases h2 a ha with rfl | h
    · exact oP_irr hlt
    · exact oP_asym hlt h
  | c :: t, hm', hd', hc', hl', hb' =>
    have hca : pltB c a' = true := hd'.tail.lt (by simp)
    have k3 := hc'.1
    have k4 := hl'.2.1 a ha
    have e3 : crP c a' b = cr2 (dif a' c) (dif b a') := by unfold crP crossI cr2 dif; simp only; grind
    have e4 : crP c a' a = cr2 (dif a' a) (dif a' c) := by unfold crP crossI cr2 dif; simp only; grind
    have := (cr_tr (plt_pos.1 hlt) (plt_pos.1 hca) (plt_pos.1 hab') (by omega) (by omega)).2 (.inr (by omega))
    have e5 : cr2 (dif b a') (dif a' a) = -cr2 (dif a' a) (dif b a') := by unfold cr2 dif; simp only; grind
    omega
theorem chain_eq {S : Pt → Prop} : ∀ {r r' : List Pt} {b : Pt}, (∀ z ∈ b :: r, S z) → Dsc (b :: r) → Cvx (b :: r) → Lft S (b :: r) → Bot S (b :: r) → (∀ z ∈ b :: r', S z) → Dsc (b :: r') → Cvx (b :: r') → Lft S (b :: r') → Bot S (b :: r') → r = r'
  | [], [], _, _, _, _, _, _, _, _, _, _, _ => rfl
  | [], a' :: r', b, hm, hd, hc, hl, hb, hm', hd', hc', hl', hb' => by
    obtain ⟨m, h1, h2⟩ := hb
    obtain rfl : b = m := by simpa using h1
    have h3 : pltB a' b = true := hd'.lt (by simp)
    rcases h2 a' (hm' a' (by simp)) with rfl | h
    · exact (oP_irr h3).elim
    · exact (oP_asym h3 h).elim
  | a :: r, [], b, hm, hd, hc, hl, hb, hm', hd', hc', hl', hb' => by
    obtain ⟨m, h1, h2⟩ := hb'
    obtain rfl : b = m := by simpa using h1
    have h3 : pltB a b = true := hd.lt (by simp)
    rcases h2 a (hm a (by simp)) with rfl | h
    · exact (oP_irr h3).elim
    · exact (oP_asym h3 h).elim
  | a :: r, a' :: r', b, hm, hd, hc, hl, hb, hm', hd', hc', hl', hb' => by
    have h1 := next_le (hm a (by simp)) (hd.lt (by simp)) hl.1 hm' hd' hc' hl' hb'
    have h2 := next_le (hm' a' (by simp)) (hd'.lt (by simp)) hl'.1 hm hd hc hl hb
    have e : a = a' := by
      rcases oP_tri a a' with h | h | h
      · exact h
      · exact absurd h h1
      · exact absurd h h2
    subst e
    have bt : ∀ {t : List Pt}, Bot S (b :: a :: t) → Bot S (a :: t) := fun {t} h => by
      obtain ⟨m, q1, q2⟩ := h
      exact ⟨m, by rw [List.getLast?_cons_cons] at q1; exact q1, q2⟩
    rw [chain_eq (fun z hz => hm z (List.mem_cons_of_mem _ hz)) hd.tail hc.tail hl.2 (bt hb) (fun z hz => hm' z (List.mem_cons_of_mem _ hz)) hd'.tail hc'.tail hl'.2 (bt hb')]
/-- A chain of a set is the only one. -/
theorem ChI.uniq {S : Pt → Prop} {R R' : List Pt} (h : ChI S R) (h' : ChI S R') : R = R' := by
  obtain ⟨m, h1, h2⟩ := h.top
  obtain ⟨m', h1', h2'⟩ := h'.top
  match R, R', h, h', h1, h1' with
  | b :: r, b' :: r', h, h', h1, h1' =>
    obtain rfl : b = m := by simpa using h1
    obtain rfl : b' = m' := by simpa using h1'
    have e : b = b' := by
      rcases h2 b' (h'.mem b' (by simp)) with e | e
      · exact e.symm
      · rcases h2' b (h.mem b (by simp)) with e' | e'
        · exact e'
        · exact (oP_asym e e').elim
    subst e
    rw [chain_eq h.mem h.dsc h.cvx h.lft h.bot h'.mem h'.dsc h'.cvx h'.lft h'.bot]
end Go.Proofs.Ytnjmepbblcfnfaa
namespace Go.Proofs.Ytnjmepbblcfnfaa
set_option linter.all false
open Go.RowKit
def ngP (p : Pt) : Pt := (-p.1, -p.2)
def ngL (ps : List Pt) : List Pt := ps.map ngP
theorem ngP_ng (p : Pt) : ngP (ngP p) = p := by
  unfold ngP
  simp
theorem ngL_ng (ps : List Pt) : ngL (ngL ps) = ps := by
  unfold ngL
  rw [List.map_map]
  conv => rhs; rw [← List.map_id ps]
  refine List.map_congr_left fun p _ => ngP_ng p
theorem crP_ng (a b c : Pt) : crP (ngP a) (ngP b) (ngP c) = crP a b c := by unfold crP crossI ngP; simp only; grind
theorem plt_ng (a b : Pt) : pltB (ngP a) (ngP b) = pltB b a := by
  rw [Bool.eq_iff_iff, pltB_iff, pltB_iff]
  unfold ngP
  simp only
  omega
theorem pushR_ng : ∀ (R : List Pt) (p : Pt), pushR (ngL R) (ngP p) = ngL (pushR R p)
  | [], _ => rfl
  | [_], _ => rfl
  | b :: a :: r, p => by
    have ih := pushR_ng (a :: r) p
    show (if crP (ngP a) (ngP b) (ngP p) ≤ 0 then pushR (ngP a :: ngL r) (ngP p) else ngP p :: ngP b :: ngP a :: ngL r) = ngL (if crP a b p ≤ 0 then pushR (a :: r) p else p :: b :: a :: r)
    rw [crP_ng]
    split
    · exact ih
    · rfl
theorem chnR_ng : ∀ (ps R : List Pt), chnR (ngL R) (ngL ps) = ngL (chnR R ps)
  | [], _ => rfl
  | p :: r, R => by
    have := chnR_ng r (pushR R p)
    rw [← pushR_ng] at this
    exact this
theorem mem_ngL {ps : List Pt} {q : Pt} : q ∈ ngL ps ↔ ngP q ∈ ps := by
  unfold ngL
  rw [List.mem_map]
  constructor
  · rintro ⟨z, hz, rfl⟩
    rw [ngP_ng]
    exact hz
  · intro h
    exact ⟨_, h, ngP_ng q⟩
theorem asc_ng {s : List Pt} (h : Asc s) : Asc (ngL s.reverse) := by
  unfold Asc ngL
  rw [List.pairwise_map, List.pairwise_reverse]
  exact h.imp fun {a b} hab => by rw [plt_ng]; exact hab
/-- The lower and the upper half of the hull, the last point first. -/
def lowR (s : List Pt) : List Pt := chnR [] s
def uppR (s : List Pt) : List Pt := chnR [] s.reverse
theorem low_ok {s : List Pt} (h : Asc s) (h0 : s ≠ []) : ChI (fun q => q ∈ s) (lowR s) := chain_ok h h0
theorem upp_ok {s : List Pt} (h : Asc s) (h0 : s ≠ []) : ChI (fun q => ngP q ∈ s) (ngL (uppR s)) := by
  have h1 := chain_ok (asc_ng h) (by unfold ngL; simpa using h0)
  have e : ngL (uppR s) = chnR [] (ngL s.reverse) := by
    unfold uppR
    rw [← chnR_ng]
    rfl
  rw [e]
  exact h1.ext fun q => by rw [mem_ngL, List.mem_reverse]
/-- Places of a list, the last one first. -/
theorem cvx_at : ∀ {R : List Pt}, Cvx R → ∀ k, k + 2 < R.length → 0 < crP (R.getD (k + 2) (0, 0)) (R.getD (k + 1) (0, 0)) (R.getD k (0, 0))
  | [], _, k, h => by simp at h
  | [_], _, k, h => by simp at h
  | [_, _], _, k, h => absurd h (by simp only [List.length_cons, List.length_nil]; omega)
  | c :: b :: a :: r, hc, 0, _ => hc.1
  | c :: b :: a :: r, hc, k + 1, h => by
    have := cvx_at hc.2 k (by simpa using h)
    simpa using this
theorem lft_at {S : Pt → Prop} : ∀ {R : List Pt}, Lft S R → ∀ k, k + 1 < R.length → ∀ q, S q → 0 ≤ crP (R.getD (k + 1) (0, 0)) (R.getD k (0, 0)) q
  | [], _, k, h => by simp at h
  | [_], _, k, h => by simp at h
  | b :: a :: r, hl, 0, _ => hl.1
  | b :: a :: r, hl, k + 1, h => by
    have := lft_at hl.2 k (by simpa using h)
    simpa using this
theorem dsc_at {R : List Pt} (h : Dsc R) {i j : Nat} (hij : i < j) (hj : j < R.length) : pltB (R.getD j (0, 0)) (R.getD i (0, 0)) = true := by
  have := List.pairwise_iff_getElem.1 h i j (by omega) hj hij
  simpa [hj, show i < R.length by omega] using this
theorem getD_mem' {R : List Pt} {k : Nat} (h : k < R.length) : R.getD k (0, 0) ∈ R := by simp [h]
/-- On the line of an edge of a chain: between its ends. -/
theorem on_edge {S : Pt → Prop} {R : List Pt} (h : ChI S R) {k : Nat} (hk : k + 1 < R.length) {q : Pt} (hq : S q) (h0 : crP (R.getD (k + 1) (0, 0)) (R.getD k (0, 0)) q = 0) :
    ¬ pltB q (R.getD (k + 1) (0, 0)) = true ∧ ¬ pltB (R.getD k (0, 0)) q = true := by
  have hab := dsc_at h.dsc (i := k) (j := k + 1) (by omega) hk
  refine ⟨fun hlt => ?_, fun hlt => ?_⟩
  · by_cases h2 : k + 2 < R.length
    · have c := cvx_at h.cvx k h2
      have l := lft_at h.lft (k + 1) h2 q hq
      have hxa := dsc_at h.dsc (i := k + 1) (j := k + 2) (by omega) h2
      generalize R.getD k (0, 0) = b at *
      generalize R.getD (k + 1) (0, 0) = a at *
      generalize R.getD (k + 2) (0, 0) = x at *
      have e1 : crP x a b = cr2 (dif a x) (dif b a) := by unfold crP crossI cr2 dif; simp only; grind
      have e2 : crP x a q = cr2 (dif a q) (dif a x) := by unfold crP crossI cr2 dif; simp only; grind
      have e3 : crP a b q = cr2 (dif a q) (dif b a) := by unfold crP crossI cr2 dif; simp only; grind
      have := (cr_tr (plt_pos.1 hlt) (plt_pos.1 hxa) (plt_pos.1 hab) (by omega) (by omega)).2 (.inr (by omega))
      omega
    · obtain ⟨m, h1, h3⟩ := h.bot
      have hm : R.getD (k + 1) (0, 0) = m := by
        rw [List.getLast?_eq_getElem?] at h1
        have : R.length - 1 = k + 1 := by omega
        rw [this] at h1
        simp [List.getD, h1]
      rw [hm] at hlt
      rcases h3 q hq with rfl | h4
      · exact oP_irr hlt
      · exact oP_asym hlt h4
  · rcases Nat.eq_zero_or_pos k with rfl | h2
    · obtain ⟨m, h1, h3⟩ := h.top
      have hm : R.getD 0 (0, 0) = m := by
        match R, h1 with
        | _ :: _, h1 => simpa using h1
      rw [hm] at hlt
      rcases h3 q hq with rfl | h4
      · exact oP_irr hlt
      · exact oP_asym hlt h4
    · obtain ⟨k, rfl⟩ : ∃ j, k = j + 1 := ⟨k - 1, by omega⟩
      have c := cvx_at h.cvx k (by omega)
      have l := lft_at h.lft k (by omega) q hq
      have hbc := dsc_at h.dsc (i := k) (j := k + 1) (by omega) (by omega)
      generalize R.getD k (0, 0) = c' at *
      generalize R.getD (k + 1) (0, 0) = b at *
      generalize R.getD (k + 1 + 1) (0, 0) = a at *
      have e0 : crP (R.getD (k + 2) (0, 0)) b c' = crP (R.getD (k + 2) (0, 0)) b c' := rfl
      have e1 : crP a b c' = cr2 (dif b a) (dif c' b) := by unfold crP crossI cr2 dif; simp only; grind
      have e2 : crP b c' q = cr2 (dif c' b) (dif q b) := rfl
      have e3 : crP a b q = cr2 (dif b a) (dif q b) := by unfold crP crossI cr2 dif; simp only; grind
      have := (cr_tr (plt_pos.1 hab) (plt_pos.1 hbc) (plt_pos.1 hlt) (by omega) (by omega)).2 (.inl (by omega))
      omega
/-- A point of a chain on the line of an edge: an end. -/
theorem on_own {S : Pt → Prop} {R : List Pt} (h : ChI S R) {k : Nat} (hk : k + 1 < R.length) {q : Pt} (hq : q ∈ R) (h0 : crP (R.getD (k + 1) (0, 0)) (R.getD k (0, 0)) q = 0) : q = R.getD (k + 1) (0, 0) ∨ q = R.getD k (0, 0) := by
  obtain ⟨h1, h2⟩ := on_edge h hk (h.mem q hq) h0
  obtain ⟨j, hj, hjq⟩ := List.getElem_of_mem hq
  have ej : R.getD j (0, 0) = q := by simp [hj, hjq]
  rw [← ej] at h1 h2 ⊢
  rcases Nat.lt_or_ge j k with c | c
  · exact absurd (dsc_at h.dsc c (by omega)) h2
  · rcases Nat.lt_or_ge (k + 1) j with d | d
    · exact absurd (dsc_at h.dsc d hj) h1
    · have : j = k ∨ j = k + 1 := by omega
      rcases this with rfl | rfl
      · exact .inr rfl
      · exact .inl rfl
/-- A point of the other half on the line of an edge: an end. -/
theorem on_other {s : List Pt} {R U : List Pt} (h : ChI (fun q => q ∈ s) R) (g : ChI (fun q => ngP q ∈ s) (ngL U)) {k : Nat} (hk : k + 1 < R.length) {q : Pt} (hq : q ∈ U) (h0 : crP (R.getD (k + 1) (0, 0)) (R.getD k (0, 0)) q = 0) : q = R.getD (k + 1) (0, 0) ∨ q = R.getD k (0, 0) := by
  have hqs : q ∈ s := by
    have := g.mem (ngP q) (mem_ngL.2 (by rw [ngP_ng]; exact hq))
    rw [ngP_ng] at this
    exact this
  obtain ⟨h1, h2⟩ := on_edge h hk hqs h0
  rcases oP_tri q (R.getD (k + 1) (0, 0)) with e | e | ea
  · exact .inl e
  · exact absurd e h1
  rcases oP_tri q (R.getD k (0, 0)) with e | eb | e
  · exact .inr e
  rotate_left
  · exact absurd e h2
  exfalso
  have ha : R.getD (k + 1) (0, 0) ∈ s := h.mem _ (getD_mem' hk)
  have hb : R.getD k (0, 0) ∈ s := h.mem _ (getD_mem' (by omega))
  generalize R.getD (k + 1) (0, 0) = a at *
  generalize R.getD k (0, 0) = b at *
  -- the neighbours in the other half
  obtain ⟨j, hj, hjq⟩ := List.getElem_of_mem hq
  have hlen : (ngL U).length = U.length := by unfold ngL; simp
  have ej : ∀ i, i < U.length → (ngL U).getD i (0, 0) = ngP (U.getD i (0, 0)) := fun i hi => by unfold ngL; simp [hi]
  have eq' : U.getD j (0, 0) = q := by simp [hj, hjq]
  have j0 : 0 < j := by
    rcases Nat.eq_zero_or_pos j with rfl | c
    · exfalso
      obtain ⟨m, m1, m2⟩ := g.top
      have em : ngP q = m := by
        match U, hj, hjq, m1 with
        | x :: t, _, hjq, m1 =>
          have e1 : x = q := by simpa using hjq
          have e2 : ngP x = m := by simpa [ngL] using m1
          rw [← e1]
          exact e2
      rcases m2 (ngP a) (by show ngP (ngP a) ∈ s; rw [ngP_ng]; exact ha) with e | e
      · have := congrArg ngP e
        rw [← em, ngP_ng, ngP_ng] at this
        subst this
        exact oP_irr ea
      · rw [← em, plt_ng] at e
        exact oP_asym ea e
    · exact c
  have j1 : j + 1 < U.length := by
    rcases Nat.lt_or_ge (j + 1) U.length with c | c
    · exact c
    · exfalso
      obtain ⟨m, m1, m2⟩ := g.bot
      have em : ngP q = m := by
        rw [List.getLast?_eq_getElem?, hlen] at m1
        have : U.length - 1 = j := by omega
        rw [this] at m1
        have := ej j hj
        rw [eq'] at this
        rw [← this]
        simp [List.getD, m1]
      rcases m2 (ngP b) (by show ngP (ngP b) ∈ s; rw [ngP_ng]; exact hb) with e | e
      · have := congrArg ngP e
        rw [← em, ngP_ng, ngP_ng] at this
        subst this
        exact oP_irr eb
      · rw [← em, plt_ng] at e
        exact oP_asym eb e
  obtain ⟨i, rfl⟩ : ∃ i, j = i + 1 := ⟨j - 1, by omega⟩
  have c := cvx_at g.cvx i (by omega)
  have l1 := lft_at g.lft i (by omega)
  have l2 := lft_at g.lft (i + 1) (by omega)
  have d1 := dsc_at g.dsc (i := i) (j := i + 1) (by omega) (by omega)
  have d2 := dsc_at g.dsc (i := i + 1) (j := i + 2) (by omega) (by omega)
  rw [ej _ (by omega), ej _ (by omega), ej _ (by omega), crP_ng, eq'] at c
  rw [ej _ (by omega), ej _ (by omega), plt_ng, eq'] at d1 d2
  have l1a := l1 (ngP a) (by show ngP (ngP a) ∈ s; rw [ngP_ng]; exact ha)
  have l1b := l1 (ngP b) (by show ngP (ngP b) ∈ s; rw [ngP_ng]; exact hb)
  have l2a := l2 (ngP a) (by show ngP (ngP a) ∈ s; rw [ngP_ng]; exact ha)
  have l2b := l2 (ngP b) (by show ngP (ngP b) ∈ s; rw [ngP_ng]; exact hb)
  rw [ej _ (by omega), ej _ (by omega), crP_ng, eq'] at l1a l1b l2a l2b
  clear l1 l2
  generalize U.getD i (0, 0) = y at *
  generalize U.getD (i + 2) (0, 0) = z at *
  -- y before q before z
  have e1 : crP z q y = cr2 (dif z q) (dif q y) := by unfold crP crossI cr2 dif; simp only; grind
  have e2 : crP z q b = cr2 (dif b q) (dif z q) := by unfold crP crossI cr2 dif; simp only; grind
  have e3 : crP q y a = cr2 (dif q y) (dif q a) := by unfold crP crossI cr2 dif; simp only; grind
  have e4 : crP a b q = cr2 (dif b q) (dif q a) := by unfold crP crossI cr2 dif; simp only; grind
  have t1 := (cr_tr (plt_pos.1 eb) (plt_pos.1 d2) (plt_pos.1 d1) (by omega) (by omega)).2 (.inr (by omega))
  have t2 := (cr_tr (plt_pos.1 eb) (plt_pos.1 d1) (plt_pos.1 ea) (by omega) (by omega)).2 (.inl (by omega))
  omega
end Go.Proofs.Ytnjmepbblcfnfaa
namespace Go.Proofs.Ytnjmepbblcfnfaa
set_option linter.all false
open Go.RowKit
/-- Strictly convex: all other vertices are on the left of each edge. -/
structure CvH (h : List Pt) : Prop where
  three : 3 ≤ h.length
  nodup : h.Nodup
  left : ∀ j, j < h.length → ∀ v ∈ h, v ≠ h.getD j (0, 0) → v ≠ nxP h j → 0 < crP (h.getD j (0, 0)) (nxP h j) v
theorem getD_append (a b : List Pt) (k : Nat) : (a ++ b).getD k (0, 0) = if k < a.length then a.getD k (0, 0) else b.getD (k - a.length) (0, 0) := by
  simp only [List.getD, List.getElem?_append]
  split <;> rfl
theorem getD_take' (a : List Pt) {k m : Nat} (h : k < m) : (a.take m).getD k (0, 0) = a.getD k (0, 0) := by
  simp [List.getD, h]
theorem low_at (s : List Pt) {k : Nat} (h : k < (lowR s).length) : (chn [] s).getD k (0, 0) = (lowR s).getD ((lowR s).length - 1 - k) (0, 0) := by
  have e := chn_rev s []
  have e' : (lowR s) = (chn [] s).reverse := e.symm
  rw [e'] at h ⊢
  rw [getD_rev (by simp at h ⊢; omega)]
  congr 1
  simp at h ⊢
  omega
theorem upp_at (s : List Pt) {k : Nat} (h : k < (uppR s).length) : (chn [] (revP s)).getD k (0, 0) = (uppR s).getD ((uppR s).length - 1 - k) (0, 0) := low_at (revP s) h
theorem low_len (s : List Pt) : (lowR s).length = (chn [] s).length := by
  have e : (lowR s) = (chn [] s).reverse := (chn_rev s []).symm
  rw [e, List.length_reverse]
theorem upp_len (s : List Pt) : (uppR s).length = (chn [] (revP s)).length := low_len (revP s)
theorem head_at {R : List Pt} {m : Pt} (h : R.head? = some m) : R.getD 0 (0, 0) = m := by
  match R, h with
  | _ :: _, h => simpa using h
theorem last_at {R : List Pt} {m : Pt} (h : R.getLast? = some m) : R.getD (R.length - 1) (0, 0) = m := by
  rw [List.getLast?_eq_getElem?] at h
  simp [List.getD, h]
theorem ngL_len (R : List Pt) : (ngL R).length = R.length := by unfold ngL; simp
theorem ngL_at {R : List Pt} {i : Nat} (hi : i < R.length) : (ngL R).getD i (0, 0) = ngP (R.getD i (0, 0)) := by unfold ngL; simp [hi]
theorem top_uniq {S : Pt → Prop} {a b : Pt} (ha : S a) (hb : S b) (h1 : ∀ q, S q → q = a ∨ pltB q a = true) (h2 : ∀ q, S q → q = b ∨ pltB q b = true) : a = b := by
  rcases h1 b hb with e | e
  · exact e.symm
  · rcases h2 a ha with e' | e'
    · exact e'
    · exact (oP_asym e e').elim
/-- The ends of both halves: the greatest and the least point. -/
theorem hul_ends {s : List Pt} (h : Asc s) (h0 : s ≠ []) :
    0 < (lowR s).length ∧ 0 < (uppR s).length ∧ (lowR s).getD 0 (0, 0) = (uppR s).getD ((uppR s).length - 1) (0, 0) ∧ (uppR s).getD 0 (0, 0) = (lowR s).getD ((lowR s).length - 1) (0, 0) ∧
    (∀ q ∈ s, q = (lowR s).getD 0 (0, 0) ∨ pltB q ((lowR s).getD 0 (0, 0)) = true) ∧ (∀ q ∈ s, q = (uppR s).getD 0 (0, 0) ∨ pltB ((uppR s).getD 0 (0, 0)) q = true) := by
  have L := low_ok h h0
  have U := upp_ok h h0
  obtain ⟨m, m1, m2⟩ := L.top
  obtain ⟨n, n1, n2⟩ := L.bot
  obtain ⟨p, p1, p2⟩ := U.top
  obtain ⟨q, q1, q2⟩ := U.bot
  have l1 : 0 < (lowR s).length := by
    rcases Nat.eq_zero_or_pos (lowR s).length with e | e
    · rw [List.eq_nil_of_length_eq_zero e] at m1; cases m1
    · exact e
  have l2 : 0 < (uppR s).length := by
    rcases Nat.eq_zero_or_pos (uppR s).length with e | e
    · rw [List.eq_nil_of_length_eq_zero e] at p1; cases p1
    · exact e
  have e1 := head_at m1
  have e2 := last_at n1
  have e3 := head_at p1
  have e4 := last_at q1
  rw [ngL_at l2] at e3
  rw [ngL_len, ngL_at (by omega)] at e4
  have mm : ∀ {k}, k < (lowR s).length → (lowR s).getD k (0, 0) ∈ s := fun hk => L.mem _ (getD_mem' hk)
  have mu : ∀ {k}, k < (uppR s).length → (uppR s).getD k (0, 0) ∈ s := fun hk => by
    have := U.mem _ (mem_ngL.2 (by rw [ngP_ng]; exact getD_mem' hk) : ngP _ ∈ ngL (uppR s))
    rw [ngP_ng] at this
    exact this
  have k1 : ∀ q ∈ s, q = (lowR s).getD 0 (0, 0) ∨ pltB q ((lowR s).getD 0 (0, 0)) = true := fun x hx => by rw [e1]; exact m2 x hx
  have k2 : ∀ q ∈ s, q = (uppR s).getD 0 (0, 0) ∨ pltB ((uppR s).getD 0 (0, 0)) q = true := fun x hx => by
    have := p2 (ngP x) (by show ngP (ngP x) ∈ s; rw [ngP_ng]; exact hx)
    rw [← e3, plt_ng] at this
    rcases this with e | e
    · have := congrArg ngP e
      rw [ngP_ng, ngP_ng] at this
      exact .inl this
    · exact .inr e
  have k3 : ∀ q ∈ s, q = (uppR s).getD ((uppR s).length - 1) (0, 0) ∨ pltB q ((uppR s).getD ((uppR s).length - 1) (0, 0)) = true := fun x hx => by
    have := q2 (ngP x) (by show ngP (ngP x) ∈ s; rw [ngP_ng]; exact hx)
    rw [← e4, plt_ng] at this
    rcases this with e | e
    · have := congrArg ngP e
      rw [ngP_ng, ngP_ng] at this
      exact .inl this
    · exact .inr e
  refine ⟨l1, l2, top_uniq (S := fun q => q ∈ s) (mm l1) (mu (by omega)) k1 k3, ?_, k1, k2⟩
  rw [e2]
  have hn : n ∈ s := by rw [← e2]; exact mm (by omega)
  rcases k2 n hn with e | e
  · exact e.symm
  · rcases n2 _ (mu l2) with e' | e'
    · exact e'
    · exact (oP_asym e e').elim
/-- Each edge of the hull is one of its lower or of its upper half. -/
theorem hul_edge {s : List Pt} (h : Asc s) (h3 : 3 ≤ s.length) {j : Nat} (hj : j < (hulL s).length) :
    (∃ k, k + 1 < (lowR s).length ∧ (hulL s).getD j (0, 0) = (lowR s).getD (k + 1) (0, 0) ∧ nxP (hulL s) j = (lowR s).getD k (0, 0)) ∨
    (∃ k, k + 1 < (uppR s).length ∧ (hulL s).getD j (0, 0) = (uppR s).getD (k + 1) (0, 0) ∧ nxP (hulL s) j = (uppR s).getD k (0, 0)) := by
  have h0 : s ≠ [] := by intro e; rw [e] at h3; simp at h3
  obtain ⟨l1, l2, e1, e2, _, _⟩ := hul_ends h h0
  have eH : hulL s = (chn [] s).take ((chn [] s).length - 1) ++ (chn [] (revP s)).take ((chn [] (revP s)).length - 1) := by unfold hulL; rw [if_neg (by omega)]
  have q1 := low_len s
  have q2 := upp_len s
  have hl : (hulL s).length = ((lowR s).length - 1) + ((uppR s).length - 1) := by rw [eH, q1, q2]; simp
  have ga : ∀ k, k + 1 < (lowR s).length → (hulL s).getD k (0, 0) = (lowR s).getD ((lowR s).length - 1 - k) (0, 0) := fun k hk => by
    rw [eH, getD_append, if_pos (by simp; omega), getD_take' _ (by omega), low_at s (by omega)]
  have gb : ∀ k, k + 1 < (uppR s).length → (hulL s).getD ((lowR s).length - 1 + k) (0, 0) = (uppR s).getD ((uppR s).length - 1 - k) (0, 0) := fun k hk => by
    have : ((chn [] s).take ((chn [] s).length - 1)).length = (lowR s).length - 1 := by simp; omega
    rw [eH, getD_append, if_neg (by omega), this, Nat.add_sub_cancel_left, getD_take' _ (by omega), upp_at s (by omega)]
  have l1' : 2 ≤ (lowR s).length := by rw [q1]; exact chn_ge (by omega)
  have l2' : 2 ≤ (uppR s).length := by rw [q2]; exact chn_ge (by rw [revP_len]; omega)
  rw [hl] at hj
  unfold nxP
  rw [hl]
  rcases Nat.lt_or_ge j ((lowR s).length - 1) with c | c
  · refine .inl ⟨(lowR s).length - 2 - j, by omega, ?_, ?_⟩
    · rw [ga j (by omega)]
      congr 1
      omega
    · rw [Nat.mod_eq_of_lt (by omega)]
      rcases Nat.lt_or_ge (j + 1) ((lowR s).length - 1) with d | d
      · rw [ga (j + 1) (by omega)]
        congr 1
        omega
      · have : j + 1 = (lowR s).length - 1 + 0 := by omega
        rw [this, gb 0 (by omega), Nat.sub_zero, ← e1]
        congr 1
        omega
  · obtain ⟨i, rfl⟩ : ∃ i, j = (lowR s).length - 1 + i := ⟨j - ((lowR s).length - 1), by omega⟩
    refine .inr ⟨(uppR s).length - 2 - i, by omega, ?_, ?_⟩
    · rw [gb i (by omega)]
      congr 1
      omega
    · rcases Nat.lt_or_ge (i + 1) ((uppR s).length - 1) with d | d
      · rw [Nat.mod_eq_of_lt (by omega), Nat.add_assoc, gb (i + 1) (by omega)]
        congr 1
        omega
      · have : (lowR s).length - 1 + i + 1 = (lowR s).length - 1 + ((uppR s).length - 1) := by omega
        rw [this, Nat.mod_self, ga 0 (by omega), Nat.sub_zero, ← e2]
        congr 1
        omega
theorem mem_hul {s : List Pt} (h3 : 3 ≤ s.length) {v : Pt} (hv : v ∈ hulL s) : v ∈ lowR s ∨ v ∈ uppR s := by
  have eH : hulL s = (chn [] s).take ((chn [] s).length - 1) ++ (chn [] (revP s)).take ((chn [] (revP s)).length - 1) := by unfold hulL; rw [if_neg (by omega)]
  have e1 : (lowR s) = (chn [] s).reverse := (chn_rev s []).symm
  have e2 : (uppR s) = (chn [] (revP s)).reverse := (chn_rev (revP s) []).symm
  rw [eH] at hv
  rcases List.mem_append.1 hv with hv | hv
  · left
    rw [e1, List.mem_reverse]
    exact List.mem_of_mem_take hv
  · right
    rw [e2, List.mem_reverse]
    exact List.mem_of_mem_take hv
theorem low_in {s : List Pt} (h : Asc s) (h0 : s ≠ []) {v : Pt} (hv : v ∈ lowR s) : v ∈ s := (low_ok h h0).mem v hv
theorem upp_in {s : List Pt} (h : Asc s) (h0 : s ≠ []) {v : Pt} (hv : v ∈ uppR s) : v ∈ s := by
  have := (upp_ok h h0).mem _ (mem_ngL.2 (by rw [ngP_ng]; exact hv) : ngP v ∈ ngL (uppR s))
  rw [ngP_ng] at this
  exact this
theorem hul_in {s : List Pt} (h : Asc s) {v : Pt} (hv : v ∈ hulL s) : v ∈ s := by
  by_cases h3 : 3 ≤ s.length
  · have h0 : s ≠ [] := by intro e; rw [e] at h3; simp at h3
    rcases mem_hul h3 hv with q | q
    · exact low_in h h0 q
    · exact upp_in h h0 q
  · unfold hulL at hv
    rw [if_pos (by omega)] at hv
    exact hv
/-- All points are on the left of each edge of the hull. -/
theorem hul_left {s : List Pt} (h : Asc s) (h3 : 3 ≤ s.length) {j : Nat} (hj : j < (hulL s).length) {q : Pt} (hq : q ∈ s) : 0 ≤ crP ((hulL s).getD j (0, 0)) (nxP (hulL s) j) q := by
  have h0 : s ≠ [] := by intro e; rw [e] at h3; simp at h3
  rcases hul_edge h h3 hj with ⟨k, k1, k2, k3⟩ | ⟨k, k1, k2, k3⟩
  · rw [k2, k3]
    exact lft_at (low_ok h h0).lft k k1 q hq
  · rw [k2, k3]
    have := lft_at (upp_ok h h0).lft k (by rw [ngL_len]; exact k1) (ngP q) (by show ngP (ngP q) ∈ s; rw [ngP_ng]; exact hq)
    rw [ngL_at k1, ngL_at (by omega), crP_ng] at this
    exact this
/-- A vertex on the line of an edge is one of its ends. -/
theorem hul_strict {s : List Pt} (h : Asc s) (h3 : 3 ≤ s.length) {j : Nat} (hj : j < (hulL s).length) {v : Pt} (hv : v ∈ hulL s) (n1 : v ≠ (hulL s).getD j (0, 0)) (n2 : v ≠ nxP (hulL s) j) : 0 < crP ((hulL s).getD j (0, 0)) (nxP (hulL s) j) v := by
  have h0 : s ≠ [] := by intro e; rw [e] at h3; simp at h3
  have hl := hul_left h h3 hj (hul_in h hv)
  have L := low_ok h h0
  have U := upp_ok h h0
  rcases Int.lt_or_eq_of_le hl with c | c
  · exact c
  exfalso
  rcases hul_edge h h3 hj with ⟨k, k1, k2, k3⟩ | ⟨k, k1, k2, k3⟩
  · rw [k2] at c n1
    rw [k3] at c n2
    rcases mem_hul h3 hv with q | q
    · rcases on_own L k1 q c.symm with e | e
      · exact n1 e
      · exact n2 e
    · rcases on_other L U k1 q c.symm with e | e
      · exact n1 e
      · exact n2 e
  · rw [k2] at c n1
    rw [k3] at c n2
    have U' : ChI (fun q => q ∈ ngL s) (ngL (uppR s)) := U.ext fun q => mem_ngL.symm
    have L' : ChI (fun q => ngP q ∈ ngL s) (ngL (ngL (lowR s))) := by
      rw [ngL_ng]
      exact L.ext fun q => by rw [mem_ngL, ngP_ng]
    have k1' : k + 1 < (ngL (uppR s)).length := by rw [ngL_len]; exact k1
    have c' : crP ((ngL (uppR s)).getD (k + 1) (0, 0)) ((ngL (uppR s)).getD k (0, 0)) (ngP v) = 0 := by rw [ngL_at k1, ngL_at (by omega), crP_ng]; exact c.symm
    have back : ∀ x, ngP v = ngP x → v = x := fun x e => by
      have := congrArg ngP e
      rwa [ngP_ng, ngP_ng] at this
    have key : ngP v = (ngL (uppR s)).getD (k + 1) (0, 0) ∨ ngP v = (ngL (uppR s)).getD k (0, 0) := by
      rcases mem_hul h3 hv with q | q
      · exact on_other U' L' k1' (mem_ngL.2 (by rw [ngP_ng]; exact q)) c'
      · exact on_own U k1' (mem_ngL.2 (by rw [ngP_ng]; exact q)) c'
    rw [ngL_at k1, ngL_at (by omega)] at key
    rcases key with e | e
    · exact n1 (back _ e)
    · exact n2 (back _ e)
/-- A point of both halves is an end of them. -/
theorem both_end {s : List Pt} (h : Asc s) (h0 : s ≠ []) {i j : Nat} (hi : i < (lowR s).length) (hj : j < (uppR s).length) (e : (lowR s).getD i (0, 0) = (uppR s).getD j (0, 0)) : i = 0 ∨ i + 1 = (lowR s).length := by
  rcases Nat.eq_zero_or_pos i with c | c
  · exact .inl c
  right
  rcases Nat.lt_or_ge (i + 1) (lowR s).length with d | d
  rotate_left
  · omega
  exfalso
  have L := low_ok h h0
  have U := upp_ok h h0
  obtain ⟨l1, l2, e1, e2, k1, k2⟩ := hul_ends h h0
  obtain ⟨i, rfl⟩ : ∃ m, i = m + 1 := ⟨i - 1, by omega⟩
  have c1 := cvx_at L.cvx i d
  have d1 := dsc_at L.dsc (i := i) (j := i + 1) (by omega) (by omega)
  have d2 := dsc_at L.dsc (i := i + 1) (j := i + 2) (by omega) d
  have mw : (lowR s).getD i (0, 0) ∈ s := L.mem _ (getD_mem' (by omega))
  have mu : (lowR s).getD (i + 2) (0, 0) ∈ s := L.mem _ (getD_mem' d)
  have mv : (lowR s).getD (i + 1) (0, 0) ∈ s := L.mem _ (getD_mem' (by omega))
  have w1 := lft_at L.lft i (by omega)
  have w2 := lft_at L.lft (i + 1) d
  have j0 : 0 < j := by
    rcases Nat.eq_zero_or_pos j with rfl | q
    · exfalso
      rw [e] at d2
      rcases k2 _ mu with q | q
      · rw [q] at d2; exact oP_irr d2
      · exact oP_asym d2 q
    · exact q
  have j1 : j + 1 < (uppR s).length := by
    rcases Nat.lt_or_ge (j + 1) (uppR s).length with q | q
    · exact q
    · exfalso
      have ej : j = (uppR s).length - 1 := by omega
      rw [ej, ← e1] at e
      rw [e] at d1
      rcases k1 _ mw with q | q
      · rw [q] at d1; exact oP_irr d1
      · exact oP_asym d1 q
  obtain ⟨j, rfl⟩ : ∃ m, j = m + 1 := ⟨j - 1, by omega⟩
  have c2 := cvx_at U.cvx j (by rw [ngL_len]; exact j1)
  have l3 := lft_at U.lft j (by rw [ngL_len]; omega)
  have l4 := lft_at U.lft (j + 1) (by rw [ngL_len]; exact j1)
  have d3 := dsc_at U.dsc (i := j) (j := j + 1) (by omega) (by rw [ngL_len]; omega)
  have d4 := dsc_at U.dsc (i := j + 1) (j := j + 2) (by omega) (by rw [ngL_len]; exact j1)
  rw [ngL_at (by omega), ngL_at (by omega), ngL_at (by omega), crP_ng, ← e] at c2
  rw [ngL_at (by omega), ngL_at (by omega), plt_ng, ← e] at d3 d4
  have l3w := l3 (ngP ((lowR s).getD i (0, 0))) (by show ngP (ngP _) ∈ s; rw [ngP_ng]; exact mw)
  have l4w := l4 (ngP ((lowR s).getD i (0, 0))) (by show ngP (ngP _) ∈ s; rw [ngP_ng]; exact mw)
  rw [ngL_at (by omega), ngL_at (by omega), crP_ng, ← e] at l3w l4w
  have my : (uppR s).getD j (0, 0) ∈ s := upp_in h h0 (getD_mem' (by omega))
  have mz : (uppR s).getD (j + 2) (0, 0) ∈ s := upp_in h h0 (getD_mem' j1)
  have w1y := w1 _ my
  have w1z := w1 _ mz
  clear l3 l4 w1 w2
  generalize (lowR s).getD i (0, 0) = w at *
  generalize (lowR s).getD (i + 1) (0, 0) = v at *
  generalize (uppR s).getD j (0, 0) = y at *
  generalize (uppR s).getD (j + 2) (0, 0) = z at *
  -- y before v before z
  have f1 : crP z v y = cr2 (dif z v) (dif v y) := by unfold crP crossI cr2 dif; simp only; grind
  have f2 : crP v w y = cr2 (dif v y) (dif w v) := by unfold crP crossI cr2 dif; simp only; grind
  have f3 : crP v w z = -cr2 (dif z v) (dif w v) := by unfold crP crossI cr2 dif; simp only; grind
  have := (cr_tr (plt_pos.1 d4) (plt_pos.1 d3) (plt_pos.1 d1) (by omega) (by omega)).2 (.inl (by omega))
  omega
theorem dsc_nodup {R : List Pt} (h : Dsc R) : R.Nodup := List.Pairwise.imp (fun {a b} hab e => by subst e; exact oP_irr hab) h
theorem nodup_rv {R : List Pt} (h : R.reverse.Nodup) : R.Nodup := (List.pairwise_reverse.1 h).imp fun h => Ne.symm h
theorem hul_nodup {s : List Pt} (h : Asc s) : (hulL s).Nodup := by
  by_cases h3 : 3 ≤ s.length
  rotate_left
  · unfold hulL
    rw [if_pos (by omega)]
    exact List.Pairwise.imp (fun {a b} hab e => by subst e; exact oP_irr hab) h
  have h0 : s ≠ [] := by intro e; rw [e] at h3; simp at h3
  have eH : hulL s = (chn [] s).take ((chn [] s).length - 1) ++ (chn [] (revP s)).take ((chn [] (revP s)).length - 1) := by unfold hulL; rw [if_neg (by omega)]
  have e1 : (lowR s) = (chn [] s).reverse := (chn_rev s []).symm
  have e2 : (uppR s) = (chn [] (revP s)).reverse := (chn_rev (revP s) []).symm
  have n1 : (chn [] s).Nodup := by
    have := dsc_nodup (low_ok h h0).dsc
    rw [e1] at this
    exact nodup_rv this
  have n2 : (chn [] (revP s)).Nodup := by
    have := dsc_nodup (upp_ok h h0).dsc
    unfold ngL at this
    have this : (uppR s).Nodup := (List.pairwise_map.1 this).imp fun h e => h (congrArg ngP e)
    rw [e2] at this
    exact nodup_rv this
  obtain ⟨l1, l2, q1, q2, k1, k2⟩ := hul_ends h h0
  have p1 := low_len s
  have p2 := upp_len s
  have l1' : 2 ≤ (lowR s).length := by rw [p1]; exact chn_ge (by omega)
  have l2' : 2 ≤ (uppR s).length := by rw [p2]; exact chn_ge (by rw [revP_len]; omega)
  rw [eH]
  refine List.nodup_append.2 ⟨n1.sublist (List.take_sublist _ _), n2.sublist (List.take_sublist _ _), fun a ha b hb hab => ?_⟩
  obtain ⟨i, hi, rfl⟩ := List.getElem_of_mem ha
  obtain ⟨j, hj, rfl⟩ := List.getElem_of_mem hb
  have hi' : i < (chn [] s).length - 1 := by simp at hi; omega
  have hj' : j < (chn [] (revP s)).length - 1 := by simp at hj; omega
  have ea : (chn [] s).getD i (0, 0) = (chn [] (revP s)).getD j (0, 0) := by
    have a1 : i < (chn [] s).length := by omega
    have b1 : j < (chn [] (revP s)).length := by omega
    simpa [a1, b1] using hab
  rw [low_at s (by omega), upp_at s (by omega)] at ea
  rcases both_end h h0 (by omega) (by omega) ea with c | c
  · omega
  · have c' : i = 0 := by omega
    have : (lowR s).length - 1 - i = (lowR s).length - 1 := by omega
    rw [this, ← q2] at ea
    -- the least point is not ahead of the last in the upper half
    have d := dsc_at (upp_ok h h0).dsc (i := 0) (j := (uppR s).length - 1 - j) (by omega) (by rw [ngL_len]; omega)
    rw [ngL_at (by omega), ngL_at (by omega), plt_ng, ea] at d
    exact oP_irr d
theorem hul_cvh {s : List Pt} (h : Asc s) (h3 : 3 ≤ (hulL s).length) : CvH (hulL s) := by
  have hs : 3 ≤ s.length := by
    rcases Nat.lt_or_ge s.length 3 with c | c
    · unfold hulL at h3
      rw [if_pos c] at h3
      exact h3
    · exact c
  exact ⟨h3, hul_nodup h, fun j hj v hv n1 n2 => hul_strict h hs hj hv n1 n2⟩
end Go.Proofs.Ytnjmepbblcfnfaa
namespace Go.Proofs.Ytnjmepbblcfnfaa
set_option linter.all false
open Go.RowKit
theorem nd_inj {h : List Pt} (hn : h.Nodup) {i j : Nat} (hi : i < h.length) (hj : j < h.length) (e : h.getD i (0, 0) = h.getD j (0, 0)) : i = j := by
  rcases Nat.lt_trichotomy i j with c | c | c
  · exact absurd (by simpa [hi, hj] using e) (List.pairwise_iff_getElem.1 hn i j hi hj c)
  · exact c
  · exact absurd (by simpa [hi, hj] using e.symm) (List.pairwise_iff_getElem.1 hn j i hj hi c)
theorem cvh_left {h : List Pt} (H : CvH h) {j k : Nat} (hj : j < h.length) (hk : k < h.length) (n1 : k ≠ j) (n2 : k ≠ (j + 1) % h.length) : 0 < crP (h.getD j (0, 0)) (nxP h j) (h.getD k (0, 0)) := by
  refine H.left j hj _ (getD_mem' hk) (fun e => n1 (nd_inj H.nodup hk hj e)) fun e => n2 (nd_inj H.nodup hk (Nat.mod_lt _ (by omega)) e)
theorem low_hul {s : List Pt} (h : Asc s) (h3 : 3 ≤ s.length) {v : Pt} (hv : v ∈ lowR s) : v ∈ hulL s := by
  have h0 : s ≠ [] := by intro e; rw [e] at h3; simp at h3
  obtain ⟨l1, l2, e1, e2, _, _⟩ := hul_ends h h0
  have eH : hulL s = (chn [] s).take ((chn [] s).length - 1) ++ (chn [] (revP s)).take ((chn [] (revP s)).length - 1) := by unfold hulL; rw [if_neg (by omega)]
  have q1 := low_len s
  have q2 := upp_len s
  have l2' : 2 ≤ (uppR s).length := by rw [q2]; exact chn_ge (by rw [revP_len]; omega)
  rw [eH]
  obtain ⟨i, hi, hiv⟩ := List.getElem_of_mem hv
  have ev : (lowR s).getD i (0, 0) = v := by simp [hi, hiv]
  rcases Nat.eq_zero_or_pos i with rfl | c
  · refine List.mem_append.2 (.inr ?_)
    rw [e1] at ev
    have := upp_at s (k := 0) l2
    rw [Nat.sub_zero, ev] at this
    rw [← this]
    have m : ((chn [] (revP s)).take ((chn [] (revP s)).length - 1)).getD 0 (0, 0) ∈ (chn [] (revP s)).take ((chn [] (revP s)).length - 1) := getD_mem' (by simp; omega)
    rw [getD_take' _ (by omega)] at m
    exact m
  · refine List.mem_append.2 (.inl ?_)
    have := low_at s (k := (lowR s).length - 1 - i) (by omega)
    have e3 : (lowR s).length - 1 - ((lowR s).length - 1 - i) = i := by omega
    rw [e3, ev] at this
    rw [← this]
    have m : ((chn [] s).take ((chn [] s).length - 1)).getD ((lowR s).length - 1 - i) (0, 0) ∈ (chn [] s).take ((chn [] s).length - 1) := getD_mem' (by simp; omega)
    rw [getD_take' _ (by omega)] at m
    exact m
theorem hul_of {s : List Pt} (h : 2 ≤ s.length) : hulL s = (lowR s).reverse.take ((lowR s).length - 1) ++ (uppR s).reverse.take ((uppR s).length - 1) := by
  have e1 : (lowR s).reverse = chn [] s := by rw [show lowR s = (chn [] s).reverse from (chn_rev s []).symm, List.reverse_reverse]
  have e2 : (uppR s).reverse = chn [] (revP s) := by rw [show uppR s = (chn [] (revP s)).reverse from (chn_rev (revP s) []).symm, List.reverse_reverse]
  rw [e1, e2, low_len, upp_len]
  unfold hulL
  split
  · exact (hul_two (by omega)).symm
  · rfl
end Go.Proofs.Ytnjmepbblcfnfaa
namespace Go.Proofs.Ytnjmepbblcfnfaa
set_option linter.all false
open Go.RowKit
/-- A value along a direction. -/
def dirV (dx dy : Int) (p : Pt) : Int := p.1 * dx + p.2 * dy
theorem fan_step {f : Nat → Int} (h1 : 0 ≤ f 1) : ∀ m, f (m + 2) ≤ 0 → ∃ i, 1 ≤ i ∧ i + 1 ≤ m + 2 ∧ 0 ≤ f i ∧ f (i + 1) ≤ 0
  | 0, h => ⟨1, by omega, by omega, h1, h⟩
  | m + 1, h => by
    by_cases c : f (m + 2) ≤ 0
    · obtain ⟨i, a, b, d, e⟩ := fan_step h1 m c
      exact ⟨i, a, by omega, d, e⟩
    · exact ⟨m + 2, by omega, by omega, by omega, h⟩
/-- A point on the left of all edges is in a triangle around the first vertex. -/
theorem fan_tri {h : List Pt} (H : CvH h) {q : Pt} (hq : ∀ j, j < h.length → 0 ≤ crP (h.getD j (0, 0)) (nxP h j) q) :
    ∃ i, 1 ≤ i ∧ i + 1 < h.length ∧ 0 ≤ crP (h.getD 0 (0, 0)) (h.getD i (0, 0)) q ∧ 0 ≤ crP (h.getD i (0, 0)) (h.getD (i + 1) (0, 0)) q ∧ 0 ≤ crP (h.getD (i + 1) (0, 0)) (h.getD 0 (0, 0)) q := by
  have h3 := H.three
  have nx : ∀ i, i + 1 < h.length → nxP h i = h.getD (i + 1) (0, 0) := fun i hi => by unfold nxP; rw [Nat.mod_eq_of_lt hi]
  have neg : ∀ i, crP (h.getD i (0, 0)) (h.getD 0 (0, 0)) q = -crP (h.getD 0 (0, 0)) (h.getD i (0, 0)) q := fun i => by unfold crP crossI; grind
  have e1 : 0 ≤ crP (h.getD 0 (0, 0)) (h.getD 1 (0, 0)) q := by
    have := hq 0 (by omega)
    rwa [nx 0 (by omega)] at this
  obtain ⟨m, hm⟩ : ∃ m, h.length = m + 3 := ⟨h.length - 3, by omega⟩
  have e2 : crP (h.getD 0 (0, 0)) (h.getD (m + 2) (0, 0)) q ≤ 0 := by
    have := hq (m + 2) (by omega)
    have e : nxP h (m + 2) = h.getD 0 (0, 0) := by unfold nxP; rw [hm, Nat.mod_self]
    rw [e, neg] at this
    omega
  obtain ⟨i, a, b, c, d⟩ := fan_step (f := fun i => crP (h.getD 0 (0, 0)) (h.getD i (0, 0)) q) e1 m e2
  refine ⟨i, a, by omega, c, ?_, ?_⟩
  · have := hq i (by omega)
    rwa [nx i (by omega)] at this
  · rw [neg]
    omega
theorem tri_pos {h : List Pt} (H : CvH h) {i : Nat} (h1 : 1 ≤ i) (hi : i + 1 < h.length) : 0 < crP (h.getD 0 (0, 0)) (h.getD i (0, 0)) (h.getD (i + 1) (0, 0)) := by
  have := cvh_left H (j := i) (k := 0) (by omega) (by omega) (by omega) (by rw [Nat.mod_eq_of_lt (by omega)]; omega)
  have e : nxP h i = h.getD (i + 1) (0, 0) := by unfold nxP; rw [Nat.mod_eq_of_lt (by omega)]
  rw [e] at this
  have r : crP (h.getD 0 (0, 0)) (h.getD i (0, 0)) (h.getD (i + 1) (0, 0)) = crP (h.getD i (0, 0)) (h.getD (i + 1) (0, 0)) (h.getD 0 (0, 0)) := by unfold crP crossI; grind
  omega
theorem bary_dir (a b c q : Pt) (dx dy : Int) : crP a b c * dirV dx dy q = crP b c q * dirV dx dy a + crP c a q * dirV dx dy b + crP a b q * dirV dx dy c := by
  unfold crP crossI dirV
  grind
theorem bary_sum (a b c q : Pt) : crP a b c = crP b c q + crP c a q + crP a b q := by
  unfold crP crossI
  grind
theorem le_of_bary {s al be ga x y z q M : Int} (hs : 0 < s) (h1 : 0 ≤ al) (h2 : 0 ≤ be) (h3 : 0 ≤ ga) (he : s = al + be + ga) (hq : s * q = al * x + be * y + ga * z) (hx : x ≤ M) (hy : y ≤ M) (hz : z ≤ M) : q ≤ M := by
  have p1 := Int.mul_le_mul_of_nonneg_left hx h1
  have p2 := Int.mul_le_mul_of_nonneg_left hy h2
  have p3 := Int.mul_le_mul_of_nonneg_left hz h3
  have : s * q ≤ s * M := by
    rw [hq, he, Int.add_mul, Int.add_mul]
    omega
  exact Int.le_of_mul_le_mul_left this hs
theorem le_of_bary2 {s al be x y q M : Int} (hs : 0 < s) (h1 : 0 ≤ al) (h2 : 0 ≤ be) (he : s = al + be) (hq : s * q = al * x + be * y) (hx : x ≤ M) (hy : y ≤ M) : q ≤ M := by
  have p1 := Int.mul_le_mul_of_nonneg_left hx h1
  have p2 := Int.mul_le_mul_of_nonneg_left hy h2
  have : s * q ≤ s * M := by
    rw [hq, he, Int.add_mul]
    omega
  exact Int.le_of_mul_le_mul_left this hs
/-- Inside of a strictly convex ring no point is farther in a direction than all vertices. -/
theorem cvh_max {h : List Pt} (H : CvH h) {q : Pt} (hq : ∀ j, j < h.length → 0 ≤ crP (h.getD j (0, 0)) (nxP h j) q) {dx dy M : Int} (hM : ∀ v ∈ h, dirV dx dy v ≤ M) : dirV dx dy q ≤ M := by
  obtain ⟨i, i1, i2, g1, g2, g3⟩ := fan_tri H hq
  exact le_of_bary (tri_pos H i1 i2) g2 g3 g1 (bary_sum _ _ _ _) (bary_dir _ _ _ q dx dy) (hM _ (getD_mem' (by omega))) (hM _ (getD_mem' (by omega))) (hM _ (getD_mem' i2))
/-- A hull of less than three vertices: the points are between its ends. -/
theorem hul_short {s : List Pt} (h : Asc s) (h3 : 3 ≤ s.length) (hl : (hulL s).length < 3) : (lowR s).length = 2 ∧ (uppR s).length = 2 := by
  have h0 : s ≠ [] := by intro e; rw [e] at h3; simp at h3
  have q1 := low_len s
  have q2 := upp_len s
  have l1 : 2 ≤ (lowR s).length := by rw [q1]; exact chn_ge (by omega)
  have l2 : 2 ≤ (uppR s).length := by rw [q2]; exact chn_ge (by rw [revP_len]; omega)
  have e : (hulL s).length = ((lowR s).length - 1) + ((uppR s).length - 1) := by
    rw [hul_of (by omega)]
    simp
  omega
theorem hul_max {s : List Pt} (h : Asc s) {dx dy M : Int} (hM : ∀ v ∈ hulL s, dirV dx dy v ≤ M) : ∀ q ∈ s, dirV dx dy q ≤ M := by
  intro q hq
  by_cases h3 : 3 ≤ s.length
  rotate_left
  · have e : hulL s = s := by unfold hulL; rw [if_pos (by omega)]
    exact hM q (by rw [e]; exact hq)
  by_cases hl : 3 ≤ (hulL s).length
  · exact cvh_max (hul_cvh h hl) (fun j hj => hul_left h h3 hj hq) hM
  · have h0 : s ≠ [] := by intro e; rw [e] at h3; simp at h3
    obtain ⟨k1, k2⟩ := hul_short h h3 (by omega)
    obtain ⟨_, _, e1, e2, t1, t2⟩ := hul_ends h h0
    rw [k2] at e1
    rw [k1] at e2
    have g1 := lft_at (low_ok h h0).lft 0 (by omega) q hq
    have g2 := lft_at (upp_ok h h0).lft 0 (by rw [ngL_len]; omega) (ngP q) (by show ngP (ngP q) ∈ s; rw [ngP_ng]; exact hq)
    rw [ngL_at (by omega), ngL_at (by omega), crP_ng, ← e1, e2] at g2
    have ma : (lowR s).getD 1 (0, 0) ∈ hulL s := low_hul h h3 (getD_mem' (by omega))
    have mb : (lowR s).getD 0 (0, 0) ∈ hulL s := low_hul h h3 (getD_mem' (by omega))
    have Ma := hM _ ma
    have Mb := hM _ mb
    rw [e2] at t2
    have hab := dsc_at (low_ok h h0).dsc (i := 0) (j := 1) (by omega) (by omega)
    have u1 := t1 q hq
    have u2 := t2 q hq
    simp only [Nat.zero_add] at g1 g2 u1 u2 hab Ma Mb
    have hs : (2 - 1 : Nat) = 1 := rfl
    rw [hs] at *
    generalize (lowR s).getD 0 (0, 0) = b at *
    generalize (lowR s).getD 1 (0, 0) = a at *
    have z : crP a b q = 0 := by
      have : crP b a q = -crP a b q := by unfold crP crossI; grind
      omega
    obtain ⟨a1, a2⟩ := a
    obtain ⟨b1, b2⟩ := b
    obtain ⟨x, y⟩ := q
    have o1 : x = b1 ∧ y = b2 ∨ (x < b1 ∨ x = b1 ∧ y < b2) := by
      rcases u1 with u | u
      · exact .inl (Prod.mk.inj u)
      · exact .inr (pltB_iff.1 u)
    have o2 : x = a1 ∧ y = a2 ∨ (a1 < x ∨ a1 = x ∧ a2 < y) := by
      rcases u2 with u | u
      · exact .inl (Prod.mk.inj u)
      · exact .inr (pltB_iff.1 u)
    have o3 := pltB_iff.1 hab
    unfold dirV at *
    unfold crP crossI at z
    simp only at *
    by_cases hx : a1 < b1
    · have key : (b1 - a1) * (x * dx + y * dy) = (b1 - x) * (a1 * dx + a2 * dy) + (x - a1) * (b1 * dx + b2 * dy) := by grind
      exact le_of_bary2 (by omega) (by omega) (by omega) (by omega) key Ma Mb
    · obtain rfl : a1 = b1 := by omega
      obtain rfl : x = a1 := by omega
      have key : (b2 - a2) * (x * dx + y * dy) = (b2 - y) * (x * dx + a2 * dy) + (y - a2) * (x * dx + b2 * dy) := by grind
      exact le_of_bary2 (by omega) (by omega) (by omega) (by omega) key Ma Mb
end Go.Proofs.Ytnjmepbblcfnfaa
namespace Go.Proofs.Ytnjmepbblcfnfaa
set_option linter.all false
open Go.Shelf
def sortPt_ren : Go.Shelf.Ren := ⟨fun | 6 => 98 | 15 => 135 | 14 => 134 | 28 => 161 | 29 => 162 | 20 => 153 | 21 => 154 | 22 => 155 | 23 => 156 | 24 => 157 | 25 => 158 | 26 => 159 | 27 => 160 | 46 => 168 | 47 => 169 | 48 => 170 | 49 => 171 | 50 => 172 | 57 => 174 | n => n, fun | 22 => 23 | 24 => 30 | 25 => 39 | 3 => 3 | 39 => 127 | 0 => 0 | 53 => 145 | 55 => 147 | 4 => 4 | 46 => 138 | 45 => 137 | 50 => 142 | 5 => 5 | 9 => 9 | 66 => 150 | 70 => 154 | 76 => 156 | 77 => 83 | n => n, fun | n => n⟩
theorem sortPt : Go.Proofs.SlLaysF0.n6 Try.prog sortPt_ren := {
  mixed := by kernel_rfl
  f6 := ⟨Try.f98.name, by decide, Try.func98.trans (congrArg some (by kernel_rfl))⟩
  f14 := ⟨Try.f134.name, by decide, Try.func134.trans (congrArg some (by kernel_rfl))⟩
  f15 := Try.func135.trans (congrArg some (by kernel_rfl))
  f20 := ⟨Try.f153.name, by decide, Try.func153.trans (congrArg some (by kernel_rfl))⟩
  f21 := ⟨Try.f154.name, by decide, Try.func154.trans (congrArg some (by kernel_rfl))⟩
  f22 := ⟨Try.f155.name, by decide, Try.func155.trans (congrArg some (by kernel_rfl))⟩
  f23 := ⟨Try.f156.name, by decide, Try.func156.trans (congrArg some (by kernel_rfl))⟩
  f24 := ⟨Try.f157.name, by decide, Try.func157.trans (congrArg some (by kernel_rfl))⟩
  f25 := ⟨Try.f158.name, by decide, Try.func158.trans (congrArg some (by kernel_rfl))⟩
  f26 := ⟨Try.f159.name, by decide, Try.func159.trans (congrArg some (by kernel_rfl))⟩
  f27 := ⟨Try.f160.name, by decide, Try.func160.trans (congrArg some (by kernel_rfl))⟩
  f28 := Try.func161.trans (congrArg some (by kernel_rfl))
  f29 := Try.func162.trans (congrArg some (by kernel_rfl))
  f46 := ⟨Try.f168.name, by decide, Try.func168.trans (congrArg some (by kernel_rfl))⟩
  f47 := Try.func169.trans (congrArg some (by kernel_rfl))
  f48 := Try.func170.trans (congrArg some (by kernel_rfl))
  f49 := ⟨Try.f171.name, by decide, Try.func171.trans (congrArg some (by kernel_rfl))⟩
  f50 := ⟨Try.f172.name, by decide, Try.func172.trans (congrArg some (by kernel_rfl))⟩
  f57 := ⟨Try.f174.name, by decide, Try.func174.trans (congrArg some (by kernel_rfl))⟩
  t0 := Try.underlying0
  a0 := Try.isAgg0
  z0 := Try.sizeOf0
  v0 := Try.zeroValue0
  t3 := Try.underlying3
  a3 := Try.isAgg3
  z3 := Try.sizeOf3
  v3 := Try.zeroValue3
  t4 := Try.underlying4
  a4 := Try.isAgg4
  z4 := Try.sizeOf4
  v4 := Try.zeroValue4
  t5 := Try.underlying5
  a5 := Try.isAgg5
  z5 := Try.sizeOf5
  v5 := Try.zeroValue5
  t9 := Try.underlying9
  a9 := Try.isAgg9
  z9 := Try.sizeOf9
  v9 := Try.zeroValue9
  t22 := Try.underlying23
  a22 := Try.isAgg23
  z22 := Try.sizeOf23
  v22 := Try.zeroValue23
  t25 := Try.underlying39
  a25 := Try.isAgg39
  z25 := Try.sizeOf39
  v25 := Try.zeroValue39
  t39 := Try.underlying127
  a39 := Try.isAgg127
  z39 := Try.sizeOf127
  v39 := Try.zeroValue127
  t45 := Try.underlying137
  a45 := Try.isAgg137
  z45 := Try.sizeOf137
  v45 := Try.zeroValue137
  t46 := Try.underlying138
  a46 := Try.isAgg138
  z46 := Try.sizeOf138
  v46 := Try.zeroValue138
  t50 := Try.underlying142
  a50 := Try.isAgg142
  z50 := Try.sizeOf142
  v50 := Try.zeroValue142
  t53 := Try.underlying145
  a53 := Try.isAgg145
  z53 := Try.sizeOf145
  v53 := Try.zeroValue145
  t55 := Try.underlying147
  a55 := Try.isAgg147
  z55 := Try.sizeOf147
  v55 := Try.zeroValue147
  t66 := Try.underlying150
  a66 := Try.isAgg150
  z66 := Try.sizeOf150
  v66 := Try.zeroValue150
  t70 := Try.underlying154
  a70 := Try.isAgg154
  z70 := Try.sizeOf154
  v70 := Try.zeroValue154
  t76 := Try.underlying156
  a76 := Try.isAgg156
  z76 := Try.sizeOf156
  v76 := Try.zeroValue156
  t77 := Try.underlying83
  a77 := Try.isAgg83
  z77 := Try.sizeOf83
  v77 := Try.zeroValue83 }
end Go.Proofs.Ytnjmepbblcfnfaa
namespace Go.Proofs.Ytnjmepbblcfnfaa
set_option linter.all false
open Go.RowKit Go.Sort
def orI (x y : Int) : Int := if x = 0 then y else x
theorem or2_any (b c : Nat) (x y : Int) (w : World) (h0 : w.cell? ⟨b, 0, none⟩ = some (.int .i64 x)) (h1 : w.cell? ⟨b, 1, none⟩ = some (.int .i64 y)) :
    Calls Try.prog 128 #[.slice (some ⟨b, 0, none⟩) 2 c] w fun e w' => e = .returned (.int .i64 (orI x y)) ∧ w = w' := by
  go_enter Try.func128, Try.ntmps128
  go_wp2
  go_loopw [8] (fun i wr => ∃ k : Nat, k ≤ 2 ∧ i = .int .i64 k ∧ (1 ≤ k → x = 0) ∧ (2 ≤ k → y = 0) ∧ w = wr) (fun i _ => 2 - (intOf i).toNat)
  case atStart => exact ⟨0, Nat.zero_le _, rfl, fun h => by omega, fun h => by omega, rfl⟩
  case round =>
    obtain ⟨k, hk, rfl, hx, hy, rfl⟩ := hrel
    by_cases k0 : k = 0
    · subst k0
      by_cases x0 : x = 0
      · subst x0
        clear hx hy
        go_wp2
        exact ⟨⟨1, by omega, rfl, fun _ => trivial, fun h => by omega, trivial⟩, by simp [intOf]⟩
      · have E := Lib.hid (show orI x y = x by unfold orI; rw [if_neg x0])
        clear hx hy
        go_wp2
        go_ret
        exact ⟨ret_int E.out.symm, rfl⟩
    · by_cases k1 : k = 1
      · subst k1
        obtain rfl := hx (by omega)
        by_cases y0 : y = 0
        · subst y0
          go_wp2
          exact ⟨⟨2, by omega, rfl, fun _ => trivial, fun _ => trivial, trivial⟩, by simp [intOf]⟩
        · have E := Lib.hid (show orI 0 y = y by unfold orI; rw [if_pos rfl])
          go_wp2
          go_ret
          exact ⟨ret_int E.out.symm, rfl⟩
      · obtain rfl : k = 2 := by omega
        obtain rfl := hx (by omega)
        obtain rfl := hy (by omega)
        have E := Lib.hid (show orI 0 0 = 0 by unfold orI; rw [if_pos rfl])
        go_wp2
        go_ret
        exact ⟨ret_int E.out.symm, rfl⟩
/-- Point.compare -/
def cmpQ (a b c d : Int) : Int := orI (sgn (a - c)) (sgn (b - d))
theorem cmpPt_any (a b c d : Int) (w : World) :
    Calls Try.prog 73 #[.agg #[.int .i64 a, .int .i64 b], .agg #[.int .i64 c, .int .i64 d]] w fun e w' => e = .returned (.int .i64 (cmpQ a b c d)) ∧ ∃ q os', w' = grow (w.drewN q) os' := by
  go_enter Try.func73, Try.ntmps73
  go_wp2_with fail
  go_region_held3 (fun w' => w'.cell? ⟨w.heap.size, 0, none⟩ = some (.int .i64 a) ∧ w'.cell? ⟨w.heap.size, 1, none⟩ = some (.int .i64 b) ∧ w'.cell? ⟨w.heap.size + 1, 0, none⟩ = some (.int .i64 c) ∧ w'.cell? ⟨w.heap.size + 1, 1, none⟩ = some (.int .i64 d))
    (first | (simp [*, go_sem]; done))
    (first
      | (go_at_call 129; refine (compare_any _ _ _).mono ?_; rintro e wx ⟨rfl, rfl⟩)
      | (go_at_call 128; refine (or2_any _ _ (sgn (a - c)) (sgn (b - d)) _ (by simp [go_sem]; done) (by simp [go_sem]; done)).mono ?_; rintro e wx ⟨rfl, rfl⟩))
  go_wp2
  go_ret
  refine ⟨rfl, 1, _, (?_ : _ = grow (w.drewN 1) #[.cells #[.int .i64 a, .int .i64 b] 30, .cells #[.int .i64 c, .int .i64 d] 30, .cells #[.int .i64 (sgn (a - c)), .int .i64 (sgn (b - d))] 3])⟩
  rw [alloc_eq_grow, alloc_eq_grow, alloc_eq_grow, grow_grow, grow_grow]
  rfl
end Go.Proofs.Ytnjmepbblcfnfaa
namespace Go.Proofs.Ytnjmepbblcfnfaa
set_option linter.all false
open Go.RowKit Go.Sort Go.Lib
def encP (p : Pt) : List Value := [.int .i64 p.1, .int .i64 p.2]
def cfP (p q : Pt) : Int := cmpQ p.1 p.2 q.1 q.2
theorem cfP_lt (p q : Pt) : ltOf cfP p q = pltB p q := by
  unfold ltOf
  rw [Bool.eq_iff_iff, pltB_iff, decide_eq_true_eq]
  unfold cfP cmpQ orI sgn
  split <;> (try split) <;> (try split) <;> (try split) <;> omega
theorem swoP : SWO (ltOf cfP) where
  irrefl x := by rw [cfP_lt]; exact plt_irr
  trans x y z h1 h2 := by rw [cfP_lt] at *; exact plt_trans h1 h2
  ntrans x y z h1 h2 := by
    rw [cfP_lt] at *
    rw [← Bool.not_eq_true, pltB_iff] at *
    omega
/-- Points in order. -/
def sortP (ps : List Pt) : List Pt := ps.mergeSort fun x y => !(pltB y x)
theorem sortP_len (ps : List Pt) : (sortP ps).length = ps.length := List.length_mergeSort _
theorem sortP_mem (ps : List Pt) (z : Pt) : z ∈ sortP ps ↔ z ∈ ps := List.mem_mergeSort
theorem sortP_up (ps : List Pt) : (sortP ps).Pairwise fun x y => pltB y x = false := by
  have := List.pairwise_mergeSort (le := fun x y => !(pltB y x)) (fun a b c h1 h2 => by
    simp only [Bool.not_eq_true', ← Bool.not_eq_true, pltB_iff] at *
    omega) (fun a b => by
    simp only [Bool.or_eq_true, Bool.not_eq_true', ← Bool.not_eq_true, pltB_iff]
    omega) ps
  exact this.imp fun h => by simpa using h
theorem sort_any (ps : List Pt) (blk cap : Nat) (w : World) (hH : HoldsK encP 2 w blk 0 ps.toArray) (hblk : blk < w.heap.size) (hsz : ps.length < 4611686018427387904) :
    Calls Try.prog 98 #[.slice (some ⟨blk, 0, none⟩) ps.length cap, .func (.func 73) #[] #[]] w fun e w' => e = .returned (.tuple #[]) ∧ ∃ n os, w' = sortWorldK encP 2 w blk 0 n (sortP ps).toArray os := by
  have eg : ∀ args w, (callFunc 73 args).run Try.prog w = .ok (.enter 73 args) w := Go.Proofs.enters_of Try.func73 (by kernel_rfl) rfl
  have h := AnyQ.slices_SortFunc_total sortPt 2 Try.isAgg30 Try.sizeOf30 encP (fun _ => rfl) (fun x v hv => by simp [encP] at hv; rcases hv with rfl | rfl <;> rfl) cfP swoP 73 #[] blk 0 cap ps.toArray w eg (fun _ _ _ _ x y => cmpPt_any _ _ _ _ _) hH hblk (by simpa using hsz) (fun x y h1 h2 => by
    rw [cfP_lt] at h1 h2
    refine Classical.byContradiction fun hne => ?_
    have := plt_tri h1 hne
    rw [h2] at this
    cases this)
  have e : (fun x y => !(ltOf cfP) y x) = fun x y => !(pltB y x) := by
    funext x y
    rw [cfP_lt]
  simp only [e] at h
  change Calls Try.prog 98 _ _ _ at h
  simpa [sortP] using h
theorem sort_none (p : Option Addr) (cap : Nat) (fv : Value) (w : World) :
    Calls Try.prog 98 #[.slice p 0 cap, fv] w fun e w' => e = .returned (.tuple #[]) ∧ w' = w := AnyF.slices_SortFunc_none sortPt p cap fv w
theorem flatK_flat (ps : List Pt) : flatK encP 2 ps.toArray = ((flat ps).map (Value.int .i64)).toArray := by
  apply Array.ext
  · simp [flat_length]
  · intro i h1 h2
    have h1' : i < ps.length * 2 := by simpa using h1
    have hq : i / 2 < ps.length := by omega
    have e := get_flatK encP 2 ps.toArray i (by simpa using h1')
    rw [getElem!_pos _ i h1] at e
    rw [e]
    have hg := flat_get ps (i / 2)
    have hd : ps.getD (i / 2) (0, 0) = ps[i / 2] := by simp [List.getD, hq]
    rw [hd] at hg
    have hp : ps.toArray[i / 2]! = ps[i / 2] := by simp [hq]
    rw [hp]
    have hl : i < (flat ps).length := by rw [flat_length]; exact h1'
    have hr : ((flat ps).map (Value.int .i64)).toArray[i] = .int .i64 ((flat ps).getD i 0) := by simp [List.getD, hl]
    rw [hr]
    rcases Nat.mod_two_eq_zero_or_one i with h | h
    · have hi : i = i / 2 * 2 := by omega
      rw [h, show (flat ps).getD i 0 = (flat ps).getD (i / 2 * 2) 0 by rw [← hi], hg.1]
      rfl
    · have hi : i = i / 2 * 2 + 1 := by omega
      rw [h, show (flat ps).getD i 0 = (flat ps).getD (i / 2 * 2 + 1) 0 by rw [← hi], hg.2]
      rfl
def soG (cf : FuncId) (args : List Value) : Rd Eff := match args with
  | [.slice (some ⟨nr, 0, none⟩) l _, .func (.func g) ⟨[]⟩ ⟨[]⟩] => .blk nr fun b => match b with
    | some ⟨.row e 2, .ints xs⟩ => (match Nat.beq g cf with
      | true => .ret ⟨.tuple #[], [(nr, ⟨.row e 2, .ints (flat (sortP (ptsA l xs)))⟩)], [xs.length = l * 2, l ≤ 1000000000]⟩
      | false => .fail)
    | _ => .fail
  | _ => .fail
theorem sw_heap (w : World) (blk n : Nat) (d : Array Pt) (os : Array Obj) : (sortWorldK encP 2 w blk 0 n d os).os = w.os ∧ (sortWorldK encP 2 w blk 0 n d os).tape = w.tape ∧ (sortWorldK encP 2 w blk 0 n d os).output = w.output ∧ w.heap.size ≤ (sortWorldK encP 2 w blk 0 n d os).heap.size ∧
    (∀ k, k < w.heap.size → k ≠ blk → (sortWorldK encP 2 w blk 0 n d os).heap[k]? = w.heap[k]?) ∧ ∀ cs e, w.heap[blk]? = some (.cells cs e (0, 0)) → (sortWorldK encP 2 w blk 0 n d os).heap[blk]? = some (.cells (putCells id 0 (flatK encP 2 d) cs) e (0, 0)) := by
  refine ⟨rfl, rfl, rfl, ?_, ?_, ?_⟩
  · simp [sortWorldK, grow, putRowK, putRow, mapBlock, ahead]
  · intro k hk hne
    simp [sortWorldK, grow, putRowK, putRow, mapBlock, ahead, Array.getElem?_append, hk]
    rw [Array.getElem_modify, if_neg (Ne.symm hne)]
  · intro cs e h
    have hk : blk < w.heap.size := (Array.getElem?_eq_some_iff.1 h).1
    have ha : (Sort.ahead w n).heap = w.heap := rfl
    simp only [sortWorldK, grow, putRowK, putRow, mapBlock, Array.getElem?_append, Array.size_modify, Array.getElem?_modify, ha, hk, if_true, h]
    rfl
theorem soG_sound {J : TabJ} (hJ : GSound Try.prog J.g) : GSound Try.prog (consJ 98 (fun _ => soG 73) J).g := by
  intro h name args s eff hr hn
  simp only [consJ] at hr
  split at hr
  rotate_left
  · exact hJ h name args s eff hr hn
  rename_i heq
  obtain rfl := Nat.eq_of_beq_eq_true heq
  refine ⟨(entersB_res (by kernel_rfl)).1, fun B ρ0 ρ w args' ha hm hB hcond => ?_⟩
  unfold soG at hr
  split at hr
  rotate_left
  · simp [Rd.run] at hr
  rename_i nr l c g
  simp only [Rd.run] at hr
  split at hr
  rotate_left
  · simp [Rd.run] at hr
  rename_i e xs hb
  split at hr
  rotate_left
  · simp [Rd.run] at hr
  rename_i hg
  obtain rfl := Nat.eq_of_beq_eq_true hg
  obtain rfl : (⟨.tuple #[], [(nr, ⟨.row e 2, .ints (flat (sortP (ptsA l xs)))⟩)], [xs.length = l * 2, l ≤ 1000000000]⟩ : Eff) = eff := by simpa [Rd.run] using hr
  obtain ⟨hxl, hl, _⟩ := hcond
  obtain ⟨ps, rfl, rfl⟩ := even_flat hxl
  rw [ptsA_flat]
  obtain ⟨hsz, hval⟩ := ha
  obtain ⟨x0, x1, rfl⟩ : ∃ x0 x1, args' = #[x0, x1] := by
    have h2 : args'.size = 2 := by simpa using hsz.symm
    match args', h2 with
    | ⟨[x0, x1]⟩, _ => exact ⟨x0, x1, rfl⟩
  have v0 := hval 0 _ x0 rfl rfl
  have v1 := hval 1 _ x1 rfl rfl
  obtain rfl := v1.plain rfl
  rw [upd_one]
  have hok := hm.ok nr _ hb
  have none_ : ∀ ad c', ps = [] → x0 = .slice ad 0 c' → Calls Try.prog 98 #[x0, .func (.func 73) #[] #[]] w fun e' w' => ∃ v' ρ', e' = .returned v' ∧ Ext ρ ρ' ∧ VR ρ' (.tuple #[]) v' ∧ BelowK B w w' ∧ MemOk ρ0 ρ' B (setB s.blk nr ⟨.row e 2, .ints (flat (sortP ps))⟩) w' := by
    rintro ad c' rfl rfl
    refine (sort_none _ _ _ _).mono ?_
    rintro e' w' ⟨rfl, rfl⟩
    refine ⟨_, ρ, rfl, Ext.refl ρ, .lit rfl, BelowK.refl _ _, ?_⟩
    have e0 : sortP [] = [] := by simp [sortP]
    rw [e0]
    rcases hok with ⟨p, k1, k2, k3⟩ | ⟨g, cap, k1, k2, cs', k3, k4, k5⟩
    · exact hm.setNil hb k1 ⟨k2, 0, k3⟩ (.inl ⟨p, k1, k2, k3⟩)
    · exact hm.set hb rfl k1 (okPl.not (.inl rfl)) (Nat.le_refl _) (fun k _ _ => rfl) (.inr ⟨g, cap, k1, k2, cs', k3, k4, k5⟩)
  rcases v0.slice_inv with ⟨g, f, cp, c', j1, jok, j2, j3, j4⟩ | ⟨hl0, _, ad, c', j2⟩ | ⟨hl0, ad, c', p, j2, _, _, _⟩
  rotate_left
  · exact none_ _ _ (List.eq_nil_of_length_eq_zero hl0) j2
  · exact none_ _ _ (List.eq_nil_of_length_eq_zero hl0) j2
  rcases hok with ⟨p, k1, k2, k3⟩ | ⟨g2, cap, k1, k2, cs', k3, k4, k5⟩
  · rw [k1] at j1
    obtain rfl : p = (g, f, cp) := by simpa using j1
    exact absurd ⟨k2, 0, k3⟩ jok.not
  rw [k1] at j1
  obtain ⟨rfl, rfl, rfl⟩ : g2 = g ∧ 0 = f ∧ some cap = cp := by simpa using j1
  subst j2
  have hcell : ∀ j, j < ps.length * 2 → cs'[j]? = some (.int .i64 ((flat ps).getD j 0)) := fun j hj => by
    have hjl : j < (flat ps).length := by rw [flat_length]; exact hj
    obtain ⟨v', h6, h7⟩ := k5 j (.int .i64 ((flat ps).getD j 0)) (by show ((flat ps).map (Value.int .i64))[j]? = _; simp [List.getD, hjl])
    rw [h7.plain rfl] at h6
    exact h6
  have hH : HoldsK encP 2 w g2 0 ps.toArray := by
    intro j hj
    have hj' : j < ps.length * 2 := by simpa using hj
    have hjl : j < (flat ps).length := by rw [flat_length]; exact hj'
    refine ⟨?_, ?_⟩
    · simp only [World.cell?, Nat.zero_add, k3, Option.isSome_none, Bool.false_eq_true, if_false, hcell j hj', flatK_flat]
      simp [List.getD, hjl]
    · simp [World.frozen?, k3]
  have hg : g2 < w.heap.size := (Array.getElem?_eq_some_iff.1 k3).1
  refine (sort_any ps g2 c' w hH hg (by omega)).mono ?_
  rintro e' w' ⟨rfl, n, os, rfl⟩
  obtain ⟨s1, s2, s3, s4, s5, s6⟩ := sw_heap w g2 n (sortP ps).toArray os
  refine ⟨_, ρ, rfl, Ext.refl ρ, .lit rfl, ⟨s1, s2, s3, s4, fun k hk => s5 k (hB k hk) fun e => k2 (e ▸ hk)⟩, ?_⟩
  refine hm.set hb rfl k1 (okPl.not (.inl rfl)) s4 (fun k hk hne => s5 k hk hne) (.inr ⟨g2, cap, k1, k2, _, s6 cs' e k3, ?_, ?_⟩)
  · simpa [putCells] using k4
  · intro k v hk
    have hk' : ((flat (sortP ps)).map (Value.int .i64))[k]? = some v := hk
    have hkl : k < ps.length * 2 := by
      have := (List.getElem?_eq_some_iff.1 hk').1
      rw [List.length_map, flat_length, sortP_len] at this
      exact this
    have hkc : k < cs'.size := (Array.getElem?_eq_some_iff.1 (hcell k hkl)).1
    refine ⟨v, ?_, ?_⟩
    · rw [flatK_flat]
      simp only [putCells, Array.getElem?_mapIdx, Array.getElem?_eq_getElem hkc, Option.map_some, Nat.zero_le, true_and, Nat.zero_add, List.size_toArray, List.length_map, flat_length, sortP_len, hkl, if_true, Nat.sub_zero, id]
      rw [← hk']
      have hkl2 : k < (flat (sortP ps)).length := by rw [flat_length, sortP_len]; exact hkl
      simp [hkl2]
    · obtain ⟨y, _, rfl⟩ := List.mem_map.1 (List.mem_of_getElem? hk')
      exact .lit rfl
end Go.Proofs.Ytnjmepbblcfnfaa
namespace Go.Proofs.Ytnjmepbblcfnfaa
set_option linter.all false
open Go.RowKit
/-- Of so many from i on, all. -/
def allQ (P : Nat → Bool) : Nat → Nat → Bool
  | _, 0 => true
  | i, m + 1 => P i && allQ P (i + 1) m
theorem allQ_step {P : Nat → Bool} {i n : Nat} (h : i < n) : allQ P i (n - i) = (P i && allQ P (i + 1) (n - (i + 1))) := by
  rw [show n - i = (n - (i + 1)) + 1 by omega]
  rfl
theorem allQ_end {P : Nat → Bool} {i n : Nat} (h : n ≤ i) : allQ P i (n - i) = true := by
  rw [show n - i = 0 by omega]
  rfl
theorem allQ_get {P : Nat → Bool} : ∀ (m i : Nat), allQ P i m = true → ∀ j, i ≤ j → j < i + m → P j = true
  | 0, i, _, j, h1, h2 => by omega
  | m + 1, i, h, j, h1, h2 => by
    simp only [allQ, Bool.and_eq_true] at h
    rcases Nat.lt_or_ge i j with h3 | h3
    · exact allQ_get m (i + 1) h.2 j (by omega) (by omega)
    · obtain rfl : j = i := by omega
      exact h.1
end Go.Proofs.Ytnjmepbblcfnfaa
namespace Go.Proofs.Ytnjmepbblcfnfaa
set_option linter.all false
open Go.RowKit
/-- The first m points, each once where equal ones stand side by side. -/
def cmN (ps : List Pt) : Nat → List Pt
  | 0 => []
  | m + 1 => if m = 0 ∨ ps.getD m (0, 0) ≠ ps.getD (m - 1) (0, 0) then cmN ps m ++ [ps.getD m (0, 0)] else cmN ps m
def cmP (ps : List Pt) : List Pt := cmN ps ps.length
def dupA (ps : List Pt) (i : Nat) : Bool := ps.getD i (0, 0) == ps.getD (i - 1) (0, 0)
theorem cmN_le (ps : List Pt) : ∀ m, (cmN ps m).length ≤ m
  | 0 => Nat.le_refl _
  | m + 1 => by
    have := cmN_le ps m
    simp only [cmN]
    split
    · simp; omega
    · omega
theorem cmN_take {ps : List Pt} : ∀ m, m ≤ ps.length → (∀ j, 1 ≤ j → j < m → dupA ps j = false) → cmN ps m = ps.take m
  | 0, _, _ => rfl
  | m + 1, hm, h => by
    have ih := cmN_take m (by omega) fun j h1 h2 => h j h1 (by omega)
    simp only [cmN]
    have ht : ps.take (m + 1) = ps.take m ++ [ps.getD m (0, 0)] := by
      rw [List.take_add_one]
      simp [List.getD, show m < ps.length by omega]
    rw [ht, ← ih]
    rcases Nat.eq_zero_or_pos m with h0 | h0
    · rw [if_pos (.inl h0)]
    · have := h m h0 (by omega)
      unfold dupA at this
      rw [beq_eq_false_iff_ne] at this
      rw [if_pos (.inr this)]
def ECp : Env := tabE B0
theorem ECp_ok : EnvOk Try.prog ECp := tabE_ok B0_ok
noncomputable def c_cpI : Code := ((loopsOf (codeOf Try.f99))[1]?).getD .skip
def k_cpI : Ex → List Nat := keeps [0, 3, 4, 5] [(2, [0, 3]), (1, [0, 3]), (0, [0])] [2]
def s_cpI (ps : List Pt) (k0 : Nat) : Nat × Nat × (List Pt) → St := fun (j, q, X) => ⟨(.slice (some ⟨0, 0, none⟩) ps.length ps.length :: topV :: topV :: .int .i64 q :: .slice (some ⟨0, k0 * 2, none⟩) (ps.length - k0) (ps.length - k0) :: .int .i64 j :: topV :: topV :: topV :: topV :: topV :: topV :: topV :: topV :: topV :: topV :: topV :: topV :: topV :: topV :: topV :: topV :: topV :: topV :: topV :: topV :: topV :: topV :: topV :: topV :: topV :: topV :: topV :: topV :: topV :: topV :: topV :: topV :: topV :: topV :: topV :: topV :: topV :: topV :: topV :: topV :: topV :: topV :: topV :: topV :: topV :: topV :: topV :: topV :: topV :: topV :: topV :: topV :: topV :: topV :: topV :: []), [some ⟨.row 30 2, .ints (flat X)⟩]⟩
def re_cpI : Nat × Nat × (List Pt) → Ex := fun _ => .exit 2
def rs_cpI (ps : List Pt) (k0 : Nat) : Nat × Nat × (List Pt) → St := fun (j, q, X) => ⟨(.slice (some ⟨0, 0, none⟩) ps.length ps.length :: topV :: topV :: .int .i64 ((cmN ps ps.length).length : Nat) :: topV :: topV :: topV :: topV :: topV :: topV :: topV :: topV :: topV :: topV :: topV :: topV :: topV :: topV :: topV :: topV :: topV :: topV :: topV :: topV :: topV :: topV :: topV :: topV :: topV :: topV :: topV :: topV :: topV :: topV :: topV :: topV :: topV :: topV :: topV :: topV :: topV :: topV :: topV :: topV :: topV :: topV :: topV :: topV :: topV :: topV :: topV :: topV :: topV :: topV :: topV :: topV :: topV :: topV :: topV :: topV :: topV :: []), [some ⟨.row 30 2, .ints (flat (cmN ps ps.length ++ ps.drop (cmN ps ps.length).length))⟩]⟩
set_option maxRecDepth 100000 in
theorem tr_cpI (ps : List Pt) (k0 : Nat) (j q : Nat) (X : List Pt) : bodyL Try.prog ECp 30 12 noL 2 c_cpI k_cpI 1 (s_cpI ps k0 (j, q, X)) = brT (decide ((↑j : Int) < (↑(ps.length - k0) : Int))) (.need ((0 : Int) ≤ (↑j : Int) ∧ (↑j : Int) < (↑(ps.length - k0) : Int)) (.need (k0 * (2 : Nat) + (↑j : Int).toNat * (2 : Nat) + (2 : Nat) ≤ (flat X).length) (.need ((0 : Int) ≤ IntKind.i64.wrap ((↑j : Int) - (1 : Int)) ∧ IntKind.i64.wrap ((↑j : Int) - (1 : Int)) < (↑(ps.length - k0) : Int)) (.need (k0 * (2 : Nat) + (IntKind.i64.wrap ((↑j : Int) - (1 : Int))).toNat * (2 : Nat) + (2 : Nat) ≤ (flat X).length) (brT (negB true ((flat X).getD (k0 * 2 + (↑j : Int).toNat * 2) 0 == (flat X).getD (k0 * 2 + (IntKind.i64.wrap ((↑j : Int) - 1)).toNat * 2) 0 && ((flat X).getD (k0 * 2 + (↑j : Int).toNat * 2 + 1) 0 == (flat X).getD (k0 * 2 + (IntKind.i64.wrap ((↑j : Int) - 1)).toNat * 2 + 1) 0 && true))) (.need ((0 : Int) ≤ (↑j : Int) ∧ (↑j : Int) < (↑(ps.length - k0) : Int)) (.need (k0 * (2 : Nat) + (↑j : Int).toNat * (2 : Nat) + (2 : Nat) ≤ (flat X).length) (.need ((0 : Int) ≤ (↑q : Int) ∧ (↑q : Int) < (↑ps.length : Int)) (.need ((0 : Nat) + (↑q : Int).toNat * (2 : Nat) + (2 : Nat) ≤ (flat X).length) (.leaf .normal ⟨(.slice (some ⟨0, 0, none⟩) (ps.length) (ps.length) :: topV :: topV :: .int .i64 (IntKind.i64.wrap ((↑q : Int) + 1)) :: .slice (some ⟨0, k0 * 2, none⟩) (ps.length - k0) (ps.length - k0) :: .int .i64 (IntKind.i64.wrap ((↑j : Int) + 1)) :: topV :: topV :: topV :: topV :: topV :: topV :: topV :: topV :: topV :: topV :: topV :: topV :: topV :: topV :: topV :: topV :: topV :: topV :: topV :: topV :: topV :: topV :: topV :: topV :: topV :: topV :: topV :: topV :: topV :: topV :: topV :: topV :: topV :: topV :: topV :: topV :: topV :: topV :: topV :: topV :: topV :: topV :: topV :: topV :: topV :: topV :: topV :: topV :: topV :: topV :: topV :: topV :: topV :: topV :: topV :: []), [some ⟨.row 30 2, .ints (setInts (flat X) (0 + (↑q : Int).toNat * 2) [(flat X).getD (k0 * 2 + (↑j : Int).toNat * 2) 0, (flat X).getD (k0 * 2 + (↑j : Int).toNat * 2 + 1) 0])⟩]⟩))))) (.leaf .normal ⟨(.slice (some ⟨0, 0, none⟩) (ps.length) (ps.length) :: topV :: topV :: .int .i64 ((↑q : Int)) :: .slice (some ⟨0, k0 * 2, none⟩) (ps.length - k0) (ps.length - k0) :: .int .i64 (IntKind.i64.wrap ((↑j : Int) + 1)) :: topV :: topV :: topV :: topV :: topV :: topV :: topV :: topV :: topV :: topV :: topV :: topV :: topV :: topV :: topV :: topV :: topV :: topV :: topV :: topV :: topV :: topV :: topV :: topV :: topV :: topV :: topV :: topV :: topV :: topV :: topV :: topV :: topV :: topV :: topV :: topV :: topV :: topV :: topV :: topV :: topV :: topV :: topV :: topV :: topV :: topV :: topV :: topV :: topV :: topV :: topV :: topV :: topV :: topV :: topV :: []), [some ⟨.row 30 2, .ints (flat X)⟩]⟩)))))) (.leaf (.exit 2) ⟨(.slice (some ⟨0, 0, none⟩) (ps.length) (ps.length) :: topV :: topV :: .int .i64 ((↑q : Int)) :: topV :: topV :: topV :: topV :: topV :: topV :: topV :: topV :: topV :: topV :: topV :: topV :: topV :: topV :: topV :: topV :: topV :: topV :: topV :: topV :: topV :: topV :: topV :: topV :: topV :: topV :: topV :: topV :: topV :: topV :: topV :: topV :: topV :: topV :: topV :: topV :: topV :: topV :: topV :: topV :: topV :: topV :: topV :: topV :: topV :: topV :: topV :: topV :: topV :: topV :: topV :: topV :: topV :: topV :: topV :: topV :: topV :: []), [some ⟨.row 30 2, .ints (flat X)⟩]⟩) := by kernel_rfl
set_option maxRecDepth 100000 in
theorem nl_cpI : loopsOf c_cpI = [] := by kernel_rfl
def inv_cpI (ps : List Pt) (k0 : Nat) : Nat × Nat × (List Pt) → Prop := fun (j, q, X) => 1 ≤ j ∧ k0 + j ≤ ps.length ∧ q ≤ k0 + j - 1 ∧ q = (cmN ps (k0 + j)).length ∧ X = cmN ps (k0 + j) ++ ps.drop q
def me_cpI (ps : List Pt) (k0 : Nat) : Nat × Nat × (List Pt) → Nat := fun (j, q, X) => ps.length - (k0 + j)
/-- A round of this loop. -/
def Round_cpI (ps : List Pt) (k0 : Nat) : Prop := ∀ xx : Nat × Nat × (List Pt), inv_cpI ps k0 xx → (bodyL Try.prog ECp 30 12 noL 2 c_cpI k_cpI 1 (s_cpI ps k0 xx)).ok (RoundEnd 1 (s_cpI ps k0) (inv_cpI ps k0) (me_cpI ps k0) re_cpI (rs_cpI ps k0) xx) (fun _ _ => False)
def e_cpI (s : St) (k : Ex → St → Tree) : Option Tree := match Nat.beq s.tmps.length 61, pickL s.tmps [0, 3, 4, 5], s.mem with
  | true, [.slice (some ⟨0, 0, none⟩) n _, .int .i64 kk, .slice (some ⟨0, o, none⟩) l _, .int .i64 k2], [some ⟨.row 30 2, .ints xs⟩] => some (needs [k2 = 1, xs.length = n * 2, 0 ≤ kk, 1 ≤ kk ∧ kk < n, o = kk.toNat * 2, l = n - kk.toNat, dupA (ptsA n xs) kk.toNat = true, (∀ j, 1 ≤ j → j < kk.toNat → dupA (ptsA n xs) j = false), n ≤ 1000000000] (k (.exit 2) ⟨(.slice (some ⟨0, 0, none⟩) n n :: topV :: topV :: .int .i64 ((cmN (ptsA n xs) n).length : Nat) :: topV :: topV :: topV :: topV :: topV :: topV :: topV :: topV :: topV :: topV :: topV :: topV :: topV :: topV :: topV :: topV :: topV :: topV :: topV :: topV :: topV :: topV :: topV :: topV :: topV :: topV :: topV :: topV :: topV :: topV :: topV :: topV :: topV :: topV :: topV :: topV :: topV :: topV :: topV :: topV :: topV :: topV :: topV :: topV :: topV :: topV :: topV :: topV :: topV :: topV :: topV :: topV :: topV :: topV :: topV :: topV :: topV :: []), [some ⟨.row 30 2, .ints (flat (cmN (ptsA n xs) n ++ (ptsA n xs).drop (cmN (ptsA n xs) n).length))⟩]⟩))
  | _, _, _ => none
theorem cp_dup {ps : List Pt} {m : Nat} (h : dupA ps m = true) (hm : m ≠ 0) : cmN ps (m + 1) = cmN ps m := by
  unfold dupA at h
  simp only [cmN]
  rw [if_neg]
  rintro (h1 | h1)
  · exact hm h1
  · exact h1 (by simpa using h)
theorem cp_new {ps : List Pt} {m : Nat} (h : dupA ps m = false) : cmN ps (m + 1) = cmN ps m ++ [ps.getD m (0, 0)] := by
  unfold dupA at h
  simp only [cmN]
  rw [if_pos (.inr (by simpa using h))]
theorem cp_start {ps : List Pt} {k : Nat} (h2 : 1 ≤ (k : Int) ∧ (k : Int) < (ps.length : Int)) (h3 : dupA ps k = true) (h4 : ∀ j, 1 ≤ j → j < k → dupA ps j = false) : 1 ≤ 1 ∧ k + 1 ≤ ps.length ∧ k ≤ k + 1 - 1 ∧ k = (cmN ps (k + 1)).length ∧ ps = cmN ps (k + 1) ++ ps.drop k := by
  have e := cp_dup h3 (by omega)
  rw [cmN_take k (by omega) h4] at e
  refine ⟨Nat.le_refl _, by omega, by omega, ?_, ?_⟩
  · rw [e, List.length_take]; omega
  · rw [e, List.take_append_drop]
theorem cp_get {ps : List Pt} {q : List Pt} {j : Nat} (h : q.length ≤ j) : (q ++ ps.drop q.length).getD j (0, 0) = ps.getD j (0, 0) := by
  simp only [List.getD]
  rw [List.getElem?_append_right h, List.getElem?_drop]
  congr 2
  omega
theorem cp_len {ps q : List Pt} (h : q.length ≤ ps.length) : (q ++ ps.drop q.length).length = ps.length := by
  rw [List.length_append, List.length_drop]
  omega
theorem cp_set {ps q : List Pt} (h : q.length < ps.length) (z : Pt) : (q ++ ps.drop q.length).set q.length z = (q ++ [z]) ++ ps.drop (q.length + 1) := by
  rw [List.set_append_right _ _ (Nat.le_refl _), Nat.sub_self, drop_cons h (0, 0)]
  simp
theorem eq_pt (a b : Pt) : (a.1 == b.1 && (a.2 == b.2 && true)) = (a == b) := by
  rw [Bool.and_true]
  rfl
theorem dup_is (ps : List Pt) (m : Nat) : ((ps.getD m (0, 0)).1 == (ps.getD (m - 1) (0, 0)).1 && ((ps.getD m (0, 0)).2 == (ps.getD (m - 1) (0, 0)).2 && true)) = dupA ps m := eq_pt _ _
set_option maxRecDepth 100000 in
theorem round_cpI (ps : List Pt) (k0 : Nat) (h : ps.length ≤ 1000000000) : Round_cpI ps k0 := by
  rintro ⟨j, q, X⟩ ⟨h1, h2, h3, hq0, rfl⟩
  rw [tr_cpI]
  have hq : (cmN ps (k0 + j)).length ≤ ps.length := by omega
  have hX := cp_len hq
  have g1 := cp_get (ps := ps) (q := cmN ps (k0 + j)) (j := k0 + j) (by omega)
  have g2 := cp_get (ps := ps) (q := cmN ps (k0 + j)) (j := k0 + j - 1) (by omega)
  rw [← hq0] at hX g1 g2
  have a2 : IntKind.i64.wrap ((j : Int) - 1) = ((j - 1 : Nat) : Int) := by rw [wr (by omega)]; omega
  refine brT_ok.2 ⟨fun hlt => ?_, fun hge => ?_⟩
  · have hlt := of_decide_eq_true hlt
    have hm : k0 + j < ps.length := by omega
    have a1 : k0 * 2 + (j : Int).toNat * 2 = (k0 + j) * 2 := by omega
    have a3 : k0 * 2 + ((j - 1 : Nat) : Int).toNat * 2 = (k0 + j - 1) * 2 := by omega
    have a4 : 0 + (q : Int).toNat * 2 = q * 2 := by omega
    have hs := flat_set (cmN ps (k0 + j) ++ ps.drop q) q (by omega) (ps.getD (k0 + j) (0, 0)).1 (ps.getD (k0 + j) (0, 0)).2
    have hs2 := cp_set (ps := ps) (q := cmN ps (k0 + j)) (by omega) (ps.getD (k0 + j) (0, 0))
    rw [← hq0] at hs2
    rw [hs2] at hs
    simp only [a2, a1, a3, a4, wsucc (i := j) (n := ps.length) (by omega) h, wsucc (i := q) (n := ps.length) (by omega) h, flat_get0, flat_get1, flat_length, g1, g2, dup_is, hX, hs]
    refine ⟨by omega, by omega, by omega, by omega, brT_ok.2 ⟨fun c => ⟨by omega, by omega, by omega, by omega, ?_⟩, fun c => ?_⟩⟩
    · have hd : dupA ps (k0 + j) = false := by simpa [negB] using c
      have e := cp_new hd
      have el : q + 1 = (cmN ps (k0 + j + 1)).length := by rw [e]; simp; omega
      refine ⟨(j + 1, q + 1, cmN ps (k0 + j) ++ [ps.getD (k0 + j) (0, 0)] ++ ps.drop (q + 1)), [], ⟨by omega, by omega, by omega, el, by show _ = cmN ps (k0 + j + 1) ++ _; rw [e]⟩, ?_, rfl, by simp only [rs_cpI], ?_⟩
      · show ps.length - (k0 + (j + 1)) < ps.length - (k0 + j); omega
      · repeat' (first | exact True.intro | exact rfl | exact fun _ => rfl | (simp; done) | refine And.intro ?_ ?_)
    · have hd : dupA ps (k0 + j) = true := by simpa [negB] using c
      have e := cp_dup hd (by omega)
      refine ⟨(j + 1, q, cmN ps (k0 + j) ++ ps.drop q), [], ⟨by omega, by omega, by omega, by show _ = (cmN ps (k0 + j + 1)).length; rw [e]; exact hq0, by show _ = cmN ps (k0 + j + 1) ++ _; rw [e]⟩, ?_, rfl, by simp only [rs_cpI], ?_⟩
      · show ps.length - (k0 + (j + 1)) < ps.length - (k0 + j); omega
      · repeat' (first | exact True.intro | exact rfl | exact fun _ => rfl | (simp; done) | refine And.intro ?_ ?_)
  · have hge := of_decide_eq_false hge
    have hm : k0 + j = ps.length := by omega
    refine ⟨rfl, [], ?_⟩
    rw [hm] at hq0
    simp only [rs_cpI, hm, ← hq0]
    repeat' (first | exact True.intro | exact rfl | exact fun _ => rfl | (simp; done) | refine And.intro ?_ ?_)
set_option maxRecDepth 100000 in
theorem lg_cpI : LoopE Try.prog e_cpI c_cpI := by
  intro s k t F H hlt ht
  unfold e_cpI at hlt
  split at hlt
  rotate_left
  · cases hlt
  rename_i hlen hpick hmem
  obtain ⟨tmps, mem⟩ := s
  simp only at hlen hpick hmem
  subst hmem
  obtain rfl := Option.some.inj hlt
  obtain ⟨⟨rfl, h1, h6, h2, rfl, rfl, h3, h4, h5, _⟩, ht2⟩ := needs_ok ht
  clear ht hlt
  obtain ⟨ps, rfl, rfl⟩ := even_flat h1
  obtain ⟨k, rfl⟩ := Int.eq_ofNat_of_zero_le h6
  rw [ptsA_flat] at ht2 h3 h4
  simp only [Int.toNat_natCast] at ht2 h3 h4
  refine ⟨_, _, ht2, loop_run mixed ECp_ok (s_cpI ps k) (inv_cpI ps k) (me_cpI ps k) re_cpI (rs_cpI ps k) k_cpI (fun _ => rfl) (noLoops nl_cpI) (round_cpI ps k h5) (x := (1, k, ps)) (cp_start h2 h3 h4) (π := []) rfl ?_⟩
  refine ⟨rfl, rfl, ?_, wvs_spread' [0, 3, 4, 5] hlen rfl ?_⟩
  · repeat' (first | exact True.intro | exact rfl | exact wv_top _ _ | exact fun _ => rfl | assumption | exact Eq.symm (by assumption) | exact vI0 rfl | refine And.intro ?_ ?_)
  · rw [hpick]
    repeat' (first | exact True.intro | exact rfl | exact wv_top _ _ | exact fun _ => rfl | assumption | exact Eq.symm (by assumption) | exact vI0 rfl | refine And.intro ?_ ?_)
def ltCp : LT := fun j s k => match j with
  | 1 => e_cpI s k
  | _ => none
noncomputable def c_cpO : Code := ((loopsOf (codeOf Try.f99))[0]?).getD .skip
def k_cpO : Ex → List Nat := keeps [0, 3] [(0, [0])] [2]
def s_cpO (ps : List Pt) : Nat → St := fun i => ⟨(.slice (some ⟨0, 0, none⟩) ps.length ps.length :: topV :: topV :: .int .i64 i :: topV :: topV :: topV :: topV :: topV :: topV :: topV :: topV :: topV :: topV :: topV :: topV :: topV :: topV :: topV :: topV :: topV :: topV :: topV :: topV :: topV :: topV :: topV :: topV :: topV :: topV :: topV :: topV :: topV :: topV :: topV :: topV :: topV :: topV :: topV :: topV :: topV :: topV :: topV :: topV :: topV :: topV :: topV :: topV :: topV :: topV :: topV :: topV :: topV :: topV :: topV :: topV :: topV :: topV :: topV :: topV :: topV :: []), [some ⟨.row 30 2, .ints (flat ps)⟩]⟩
def re_cpO (ps : List Pt) : Nat → Ex := fun i => bif allQ (fun j => !(dupA ps j)) i (ps.length - i) then .exit 0 else .ret
def rs_cpO (ps : List Pt) : Nat → St := fun i => bif allQ (fun j => !(dupA ps j)) i (ps.length - i) then ⟨(.slice (some ⟨0, 0, none⟩) ps.length ps.length :: topV :: topV :: topV :: topV :: topV :: topV :: topV :: topV :: topV :: topV :: topV :: topV :: topV :: topV :: topV :: topV :: topV :: topV :: topV :: topV :: topV :: topV :: topV :: topV :: topV :: topV :: topV :: topV :: topV :: topV :: topV :: topV :: topV :: topV :: topV :: topV :: topV :: topV :: topV :: topV :: topV :: topV :: topV :: topV :: topV :: topV :: topV :: topV :: topV :: topV :: topV :: topV :: topV :: topV :: topV :: topV :: topV :: topV :: topV :: topV :: []), [some ⟨.row 30 2, .ints (flat ps)⟩]⟩ else ⟨(topV :: topV :: .slice (some ⟨0, 0, none⟩) (cmP ps).length (cmP ps).length :: topV :: topV :: topV :: topV :: topV :: topV :: topV :: topV :: topV :: topV :: topV :: topV :: topV :: topV :: topV :: topV :: topV :: topV :: topV :: topV :: topV :: topV :: topV :: topV :: topV :: topV :: topV :: topV :: topV :: topV :: topV :: topV :: topV :: topV :: topV :: topV :: topV :: topV :: topV :: topV :: topV :: topV :: topV :: topV :: topV :: topV :: topV :: topV :: topV :: topV :: topV :: topV :: topV :: topV :: topV :: topV :: topV :: topV :: []), [some ⟨.row 30 2, .ints (flat (cmP ps))⟩]⟩
set_option maxRecDepth 100000 in
theorem tr_cpO (ps : List Pt) (i : Nat) : bodyL Try.prog ECp 30 12 ltCp 1 c_cpO k_cpO 1 (s_cpO ps i) = brT (decide ((↑i : Int) < (↑ps.length : Int))) (.need ((0 : Int) ≤ (↑i : Int) ∧ (↑i : Int) < (↑ps.length : Int)) (.need ((0 : Nat) + (↑i : Int).toNat * (2 : Nat) + (2 : Nat) ≤ (flat ps).length) (.need ((0 : Int) ≤ IntKind.i64.wrap ((↑i : Int) - (1 : Int)) ∧ IntKind.i64.wrap ((↑i : Int) - (1 : Int)) < (↑ps.length : Int)) (.need ((0 : Nat) + (IntKind.i64.wrap ((↑i : Int) - (1 : Int))).toNat * (2 : Nat) + (2 : Nat) ≤ (flat ps).length) (brT (negB false ((flat ps).getD (0 + (↑i : Int).toNat * 2) 0 == (flat ps).getD (0 + (IntKind.i64.wrap ((↑i : Int) - 1)).toNat * 2) 0 && ((flat ps).getD (0 + (↑i : Int).toNat * 2 + 1) 0 == (flat ps).getD (0 + (IntKind.i64.wrap ((↑i : Int) - 1)).toNat * 2 + 1) 0 && true))) (.need ((0 : Int) ≤ bndI (some (IntKind.i64, (↑i : Int))) (0 : Int) ∧ bndI (some (IntKind.i64, (↑i : Int))) (0 : Int) ≤ bndI none (↑ps.length : Int) ∧ bndI none (↑ps.length : Int) ≤ (↑ps.length : Int)) (.need ((1 : Int) = (1 : Int)) (.need ((flat ps).length = ps.length * (2 : Nat)) (.need ((0 : Int) ≤ (↑i : Int)) (.need ((1 : Int) ≤ (↑i : Int) ∧ (↑i : Int) < (↑ps.length : Int)) (.need ((0 : Nat) + (bndI (some (IntKind.i64, (↑i : Int))) (0 : Int)).toNat * (2 : Nat) = (↑i : Int).toNat * (2 : Nat)) (.need ((bndI none (↑ps.length : Int)).toNat - (bndI (some (IntKind.i64, (↑i : Int))) (0 : Int)).toNat = ps.length - (↑i : Int).toNat) (.need (dupA (ptsA ps.length (flat ps)) (↑i : Int).toNat = true) (.need (∀ (j : Nat), (1 : Nat) ≤ j → j < (↑i : Int).toNat → dupA (ptsA ps.length (flat ps)) j = false) (.need (ps.length ≤ (1000000000 : Nat)) (.need ((0 : Int) ≤ bndI (some (IntKind.i64, (↑(cmN (ptsA ps.length (flat ps)) ps.length).length : Int))) (0 : Int) ∧ bndI (some (IntKind.i64, (↑(cmN (ptsA ps.length (flat ps)) ps.length).length : Int))) (0 : Int) ≤ bndI none (↑ps.length : Int) ∧ bndI none (↑ps.length : Int) ≤ (↑ps.length : Int)) (.need ((0 : Nat) + (bndI (some (IntKind.i64, (↑(cmN (ptsA ps.length (flat ps)) ps.length).length : Int))) (0 : Int)).toNat * (2 : Nat) + ((bndI none (↑ps.length : Int)).toNat - (bndI (some (IntKind.i64, (↑(cmN (ptsA ps.length (flat ps)) ps.length).length : Int))) (0 : Int)).toNat) * (2 : Nat) ≤ (flat (cmN (ptsA ps.length (flat ps)) ps.length ++ List.drop (cmN (ptsA ps.length (flat ps)) ps.length).length (ptsA ps.length (flat ps)))).length) (.need ((0 : Int) ≤ bndI none (0 : Int) ∧ bndI none (0 : Int) ≤ bndI (some (IntKind.i64, (↑(cmN (ptsA ps.length (flat ps)) ps.length).length : Int))) (↑ps.length : Int) ∧ bndI (some (IntKind.i64, (↑(cmN (ptsA ps.length (flat ps)) ps.length).length : Int))) (↑ps.length : Int) ≤ (↑ps.length : Int)) (.leaf .ret ⟨(topV :: topV :: .slice (some ⟨0, 0, none⟩) ((bndI (some (IntKind.i64, (↑(cmN (ptsA ps.length (flat ps)) ps.length).length : Int))) (↑ps.length : Int)).toNat - 0) ((bndI (some (IntKind.i64, (↑(cmN (ptsA ps.length (flat ps)) ps.length).length : Int))) (↑ps.length : Int)).toNat - 0) :: topV :: topV :: topV :: topV :: topV :: topV :: topV :: topV :: topV :: topV :: topV :: topV :: topV :: topV :: topV :: topV :: topV :: topV :: topV :: topV :: topV :: topV :: topV :: topV :: topV :: topV :: topV :: topV :: topV :: topV :: topV :: topV :: topV :: topV :: topV :: topV :: topV :: topV :: topV :: topV :: topV :: topV :: topV :: topV :: topV :: topV :: topV :: topV :: topV :: topV :: topV :: topV :: topV :: topV :: topV :: topV :: topV :: topV :: []), [some ⟨.row 30 2, .ints (List.take (0 + (bndI (some (IntKind.i64, (↑(cmN (ptsA ps.length (flat ps)) ps.length).length : Int))) 0).toNat * 2) (flat (cmN (ptsA ps.length (flat ps)) ps.length ++ List.drop (cmN (ptsA ps.length (flat ps)) ps.length).length (ptsA ps.length (flat ps)))))⟩]⟩)))))))))))))) (.leaf .normal ⟨(.slice (some ⟨0, 0, none⟩) (ps.length) (ps.length) :: topV :: topV :: .int .i64 (IntKind.i64.wrap ((↑i : Int) + 1)) :: topV :: topV :: topV :: topV :: topV :: topV :: topV :: topV :: topV :: topV :: topV :: topV :: topV :: topV :: topV :: topV :: topV :: topV :: topV :: topV :: topV :: topV :: topV :: topV :: topV :: topV :: topV :: topV :: topV :: topV :: topV :: topV :: topV :: topV :: topV :: topV :: topV :: topV :: topV :: topV :: topV :: topV :: topV :: topV :: topV :: topV :: topV :: topV :: topV :: topV :: topV :: topV :: topV :: topV :: topV :: topV :: topV :: []), [some ⟨.row 30 2, .ints (flat ps)⟩]⟩)))))) (.leaf (.exit 0) ⟨(.slice (some ⟨0, 0, none⟩) (ps.length) (ps.length) :: topV :: topV :: topV :: topV :: topV :: topV :: topV :: topV :: topV :: topV :: topV :: topV :: topV :: topV :: topV :: topV :: topV :: topV :: topV :: topV :: topV :: topV :: topV :: topV :: topV :: topV :: topV :: topV :: topV :: topV :: topV :: topV :: topV :: topV :: topV :: topV :: topV :: topV :: topV :: topV :: topV :: topV :: topV :: topV :: topV :: topV :: topV :: topV :: topV :: topV :: topV :: topV :: topV :: topV :: topV :: topV :: topV :: topV :: topV :: topV :: []), [some ⟨.row 30 2, .ints (flat ps)⟩]⟩) := by kernel_rfl
def inv_cpO (ps : List Pt) : Nat → Prop := fun i => 1 ≤ i ∧ i ≤ ps.length ∧ ∀ j, 1 ≤ j → j < i → dupA ps j = false
def me_cpO (ps : List Pt) : Nat → Nat := fun i => ps.length - i
/-- A round of this loop. -/
def Round_cpO (ps : List Pt) : Prop := ∀ xx : Nat, inv_cpO ps xx → (bodyL Try.prog ECp 30 12 ltCp 1 c_cpO k_cpO 1 (s_cpO ps xx)).ok (RoundEnd 1 (s_cpO ps) (inv_cpO ps) (me_cpO ps) (re_cpO ps) (rs_cpO ps) xx) (fun _ _ => False)
def e_cpO (s : St) (k : Ex → St → Tree) : Option Tree := match Nat.beq s.tmps.length 61, pickL s.tmps [0, 3], s.mem with
  | true, [.slice (some ⟨0, 0, none⟩) n _, .int .i64 i], [some ⟨.row 30 2, .ints xs⟩] => some (needs [i = 1, xs.length = n * 2, 2 ≤ n, n ≤ 1000000000] (brT (allQ (fun j => !(dupA (ptsA n xs) j)) 1 (n - 1)) (k (.exit 0) ⟨(.slice (some ⟨0, 0, none⟩) n n :: topV :: topV :: topV :: topV :: topV :: topV :: topV :: topV :: topV :: topV :: topV :: topV :: topV :: topV :: topV :: topV :: topV :: topV :: topV :: topV :: topV :: topV :: topV :: topV :: topV :: topV :: topV :: topV :: topV :: topV :: topV :: topV :: topV :: topV :: topV :: topV :: topV :: topV :: topV :: topV :: topV :: topV :: topV :: topV :: topV :: topV :: topV :: topV :: topV :: topV :: topV :: topV :: topV :: topV :: topV :: topV :: topV :: topV :: topV :: topV :: []), [some ⟨.row 30 2, .ints xs⟩]⟩) (k .ret ⟨(topV :: topV :: .slice (some ⟨0, 0, none⟩) (cmP (ptsA n xs)).length (cmP (ptsA n xs)).length :: topV :: topV :: topV :: topV :: topV :: topV :: topV :: topV :: topV :: topV :: topV :: topV :: topV :: topV :: topV :: topV :: topV :: topV :: topV :: topV :: topV :: topV :: topV :: topV :: topV :: topV :: topV :: topV :: topV :: topV :: topV :: topV :: topV :: topV :: topV :: topV :: topV :: topV :: topV :: topV :: topV :: topV :: topV :: topV :: topV :: topV :: topV :: topV :: topV :: topV :: topV :: topV :: topV :: topV :: topV :: topV :: topV :: topV :: []), [some ⟨.row 30 2, .ints (flat (cmP (ptsA n xs)))⟩]⟩)))
  | _, _, _ => none
theorem bnd_some (x d : Int) : bndI (some (IntKind.i64, x)) d = x := rfl
theorem bnd_none (d : Int) : bndI none d = d := rfl
set_option maxRecDepth 100000 in
theorem in_cpO : loopsOf c_cpO = [c_cpI] := by kernel_rfl
theorem ltCp_good : LoopsGood Try.prog ltCp 1 c_cpO := by
  intro i d hd s k t F H hlt ht
  rw [in_cpO] at hd
  cases i with
  | zero =>
    obtain rfl : c_cpI = d := by simpa using hd
    exact lg_cpI s k t F H hlt ht
  | succ i => simp at hd
set_option maxRecDepth 100000 in
theorem round_cpO (ps : List Pt) (h : ps.length ≤ 1000000000) : Round_cpO ps := by
  rintro i ⟨h1, h2, h3⟩
  rw [tr_cpO]
  simp only [ptsA_flat, bnd_some, bnd_none, Int.toNat_natCast, Nat.zero_add, Nat.sub_zero]
  refine brT_ok.2 ⟨fun hlt => ?_, fun hge => ?_⟩
  · have hi : i < ps.length := by have := of_decide_eq_true hlt; omega
    have w1 : IntKind.i64.wrap ((i : Int) - 1) = ((i - 1 : Nat) : Int) := by rw [wr (by omega)]; omega
    have step : allQ (fun j => !(dupA ps j)) i (ps.length - i) = (!(dupA ps i) && allQ (fun j => !(dupA ps j)) (i + 1) (ps.length - (i + 1))) := allQ_step hi
    have hle := cmN_le ps ps.length
    have hX := cp_len hle
    simp only [w1, Int.toNat_natCast, flat_get0, flat_get1, flat_length, dup_is, hX, wsucc hi h]
    refine ⟨by omega, by omega, by omega, by omega, brT_ok.2 ⟨fun q => ?_, fun q => ?_⟩⟩
    · have hd : dupA ps i = true := by simpa [negB] using q
      have e : allQ (fun j => !(dupA ps j)) i (ps.length - i) = false := by rw [step, hd]; rfl
      have hf : List.take ((cmN ps ps.length).length * 2) (flat (cmN ps ps.length ++ List.drop (cmN ps ps.length).length ps)) = flat (cmP ps) := by
        rw [flat_take, List.take_left]
        rfl
      rw [hf]
      refine ⟨by omega, by first | exact True.intro | rfl, by first | exact True.intro | rfl, by omega, by omega, by first | exact True.intro | rfl, by first | exact True.intro | rfl, hd, h3, h, by omega, by omega, by omega, ?_⟩
      refine ⟨by simp only [re_cpO, e, cond_false], [], ?_⟩
      simp only [rs_cpO, e, cond_false]
      repeat' (first | exact True.intro | exact rfl | exact fun _ => rfl | (simp; done) | refine And.intro ?_ ?_)
    · have hd : dupA ps i = false := by simpa [negB] using q
      have e : allQ (fun j => !(dupA ps j)) i (ps.length - i) = allQ (fun j => !(dupA ps j)) (i + 1) (ps.length - (i + 1)) := by rw [step, hd]; rfl
      refine ⟨i + 1, [], ⟨by omega, by omega, fun j g1 g2 => ?_⟩, ?_, by simp only [re_cpO, e], by simp only [rs_cpO, e], ?_⟩
      · rcases Nat.lt_or_ge j i with g | g
        · exact h3 j g1 g
        · obtain rfl : j = i := by omega
          exact hd
      · show ps.length - (i + 1) < ps.length - i; omega
      · repeat' (first | exact True.intro | exact rfl | exact fun _ => rfl | (simp; done) | refine And.intro ?_ ?_)
  · have hge := of_decide_eq_false hge
    obtain rfl : i = ps.length := by omega
    have e : allQ (fun j => !(dupA ps j)) ps.length (ps.length - ps.length) = true := allQ_end (by omega)
    refine ⟨by simp only [re_cpO, e, cond_true], [], ?_⟩
    simp only [rs_cpO, e, cond_true]
    repeat' (first | exact True.intro | exact rfl | exact fun _ => rfl | (simp; done) | refine And.intro ?_ ?_)
set_option maxRecDepth 100000 in
theorem lg_cpO : LoopE Try.prog e_cpO c_cpO := by
  intro s k t F H hlt ht
  unfold e_cpO at hlt
  split at hlt
  rotate_left
  · cases hlt
  rename_i hlen hpick hmem
  obtain ⟨tmps, mem⟩ := s
  simp only at hlen hpick hmem
  subst hmem
  obtain rfl := Option.some.inj hlt
  obtain ⟨⟨rfl, h1, h2, h5, _⟩, ht2⟩ := needs_ok ht
  clear ht hlt
  obtain ⟨ps, rfl, rfl⟩ := even_flat h1
  rw [ptsA_flat] at ht2
  refine ⟨_, _, pick2k ht2, loop_run mixed ECp_ok (s_cpO ps) (inv_cpO ps) (me_cpO ps) (re_cpO ps) (rs_cpO ps) k_cpO (fun _ => rfl) ltCp_good (round_cpO ps h5) (x := 1) ⟨Nat.le_refl _, by omega, fun j h1 h2 => by omega⟩ (π := []) rfl ?_⟩
  refine ⟨rfl, rfl, ?_, wvs_spread' [0, 3] hlen rfl ?_⟩
  · repeat' (first | exact True.intro | exact rfl | exact wv_top _ _ | exact fun _ => rfl | assumption | exact Eq.symm (by assumption) | exact vI0 rfl | refine And.intro ?_ ?_)
  · rw [hpick]
    repeat' (first | exact True.intro | exact rfl | exact wv_top _ _ | exact fun _ => rfl | assumption | exact Eq.symm (by assumption) | exact vI0 rfl | refine And.intro ?_ ?_)
theorem Lr_cpO {fn : Func} (hf : Try.prog.funcs[99]? = some fn) : LoopsGood Try.prog (lt1 e_cpO) 0 (codeOf fn) := by
  obtain rfl := fn_is Try.func99 hf
  exact lt1_good lg_cpO
def LCp : FuncId → LT := fun f => match f with
  | 99 => lt1 e_cpO
  | _ => noL
def ECq : Env := mkE B0 (fun _ _ => none) LCp
theorem ECq_ok : EnvOk Try.prog ECq := mkEOk B0_ok (fun _ _ _ _ _ h => (by cases h)) (by
  intro f fn hf
  unfold LCp
  split
  all_goals first | with_reducible exact Lr_cpO hf | exact noL_good)
set_option maxRecDepth 100000 in
theorem tr_cpF (ps : List Pt) : bodyM Try.prog ECq (runM Try.prog ECq 30 12) 30 99 [.slice (some ⟨0, 0, none⟩) ps.length ps.length] [some ⟨.row 30 2, .ints (flat ps)⟩] .fin = brT (decide ((↑ps.length : Int) < 2)) (.fin (.slice (some ⟨0, 0, none⟩) (ps.length) (ps.length)) [some ⟨.row 30 2, .ints (flat ps)⟩]) (.need ((1 : Int) = (1 : Int)) (.need ((flat ps).length = ps.length * (2 : Nat)) (.need ((2 : Nat) ≤ ps.length) (.need (ps.length ≤ (1000000000 : Nat)) (brT (allQ (fun j => !dupA (ptsA ps.length (flat ps)) j) 1 (ps.length - 1)) (.fin (.slice (some ⟨0, 0, none⟩) (ps.length) (ps.length)) [some ⟨.row 30 2, .ints (flat ps)⟩]) (.fin (.slice (some ⟨0, 0, none⟩) ((cmP (ptsA ps.length (flat ps))).length) ((cmP (ptsA ps.length (flat ps))).length)) [some ⟨.row 30 2, .ints (flat (cmP (ptsA ps.length (flat ps))))⟩])))))) := by kernel_rfl
theorem cpt_row (ps : List Pt) (h : ps.length ≤ 1000000000) : (bodyM Try.prog ECq (runM Try.prog ECq 30 12) 30 99 [.slice (some ⟨0, 0, none⟩) ps.length ps.length] [some ⟨.row 30 2, .ints (flat ps)⟩] .fin).ok (fun _ _ => False) (fun u mem' => RowIs (.slice (some ⟨0, 0, none⟩) (cmP ps).length (cmP ps).length) ⟨.row 30 2, .ints (flat (cmP ps))⟩ u mem') := by
  rw [tr_cpF]
  simp only [ptsA_flat]
  have same : (∀ j, 1 ≤ j → j < ps.length → dupA ps j = false) → cmP ps = ps := fun hn => by
    unfold cmP
    rw [cmN_take _ (Nat.le_refl _) hn, List.take_length]
  refine brT_ok.2 ⟨fun hlt => ?_, fun hge => ?_⟩
  · have hlt := of_decide_eq_true hlt
    rw [same fun j h1 h2 => by omega]
    exact ⟨some 0, ⟨rfl, rfl, rfl⟩, rfl, rfl, rfl⟩
  · have hge := of_decide_eq_false hge
    refine ⟨by first | exact True.intro | rfl, flat_length ps, by omega, h, brT_ok.2 ⟨fun q => ?_, fun q => ?_⟩⟩
    · have q : allQ (fun j => !(dupA ps j)) 1 (ps.length - 1) = true := q
      rw [same fun j h1 h2 => by simpa using allQ_get _ _ q j h1 (by omega)]
      exact ⟨some 0, ⟨rfl, rfl, rfl⟩, rfl, rfl, rfl⟩
    · exact ⟨some 0, ⟨rfl, rfl, rfl⟩, rfl, rfl, rfl⟩
def cptS : OSpec := fun e sz l xs rest => match e, sz, rest with
  | 30, 2, [] => some (.slice (some ⟨0, 0, none⟩) (cmP (ptsA l xs)).length (cmP (ptsA l xs)).length, ⟨.row 30 2, .ints (flat (cmP (ptsA l xs)))⟩, [xs.length = l * 2, l ≤ 1000000000])
  | _, _, _ => none
set_option maxRecDepth 100000 in
theorem cptS_ok : OSpecOk Try.prog 99 cptS := by
  intro e sz l xs rest v b C h hC
  unfold cptS at h
  split at h
  rotate_left
  · cases h
  obtain ⟨rfl, rfl, rfl⟩ : _ ∧ _ ∧ _ := by simpa using h
  obtain ⟨h1, h2, _⟩ := hC
  obtain ⟨ps, rfl, rfl⟩ := even_flat h1
  rw [ptsA_flat]
  exact ⟨rfl, ECq, 30, 12, ECq_ok, cpt_row ps h2⟩
end Go.Proofs.Ytnjmepbblcfnfaa
namespace Go.Proofs.Ytnjmepbblcfnfaa
set_option linter.all false
open Go.RowKit
set_option maxRecDepth 100000 in
theorem u_pts : Try.prog.underlying 23 = some (.slice 30) := by kernel_rfl
theorem nilNil_run (t e : TypeId) (w : World) (c c' : Nat) (h : Try.prog.underlying t = some (.slice e)) : (binOp .eql t (.slice none 0 c) (.slice none 0 c')).run Try.prog w = .ok (.bool true) w := by
  have he : ∀ d, (Op.equalIn (d + 1) t (.slice none 0 c) (.slice none 0 c')).run Try.prog w = .ok true w := fun d => by simp [Op.equalIn, run_underlying h]
  simp only [binOp]
  simp [Op.equal, Op.maxDepth, he 9999]
set_option maxRecDepth 100000 in
theorem cln_zero (ad : Option Addr) (c : Nat) (w : World) : Calls Try.prog 79 #[.slice ad 0 c] w fun e w' => ∃ v' p, e = .returned v' ∧ Below w.heap.size w w' ∧
    ∀ (ρ : Nat → Option Pl) (name : Nat), ρ name = some p → VR ρ (.slice (some ⟨name, 0, none⟩) 0 0) v' ∧ BlkOk ρ (fun k => k < w.heap.size) w' name ⟨.row 30 2, .ints []⟩ := by
  cases ad with
  | none =>
    have hn := fun W => nilNil_run 23 30 W c 0 u_pts
    go_enter Try.func79, Try.ntmps79
    go_wp2
    go_ret
    exact ⟨_, (0, 1, some 0), rfl, Below.refl _ _, fun ρ name h => ⟨.nil_ h ⟨rfl, 0, rfl⟩ rfl (fun _ => ⟨rfl, rfl⟩), .inl ⟨_, h, rfl, rfl⟩⟩⟩
  | some a =>
    have hn := fun W => eqNil_run (P := Try.prog) 23 30 a 0 c W u_pts false
    simp only [opB, negB] at hn
    go_enter Try.func79, Try.ntmps79
    go_wp2
    go_ret
    refine ⟨_, (w.heap.size, 0, some 0), rfl, na (nr _) _, fun ρ name h => ⟨.slice (f := 0) h (.inl rfl) (Nat.le_refl _) (fun k hk _ => by simpa using hk), .inr ⟨w.heap.size, 0, h, Nat.lt_irrefl _, #[], heap_alloc_new w _, rfl, fun k v hk => by simp [Blk.cells, Cs.list] at hk⟩⟩⟩
end Go.Proofs.Ytnjmepbblcfnfaa
namespace Go.Proofs.Ytnjmepbblcfnfaa
set_option linter.all false
open Go.RowKit
set_option maxRecDepth 100000 in
theorem tr_cln (ps : List Pt) : bodyX Try.prog (tabE B0) 30 12 79 [.row ps.length (.ints (flat ps))] = .need ((0 : Nat) < ps.length) (.need (((0 : Nat) + (ps.length, Cs.ints (List.take (ps.length * Try.prog.types[(30 : Nat)].size) (List.drop (0 : Nat) (flat ps))), [(0 : Nat) + ps.length * Try.prog.types[(30 : Nat)].size ≤ (flat ps).length]).fst) * (16 : Nat) ≤ (140737488355328 : Nat) ∧ (0 : Nat) + (ps.length, Cs.ints (List.take (ps.length * Try.prog.types[(30 : Nat)].size) (List.drop (0 : Nat) (flat ps))), [(0 : Nat) + ps.length * Try.prog.types[(30 : Nat)].size ≤ (flat ps).length]).fst ≤ (1000000 : Nat)) (.need ((0 : Nat) + ps.length * (2 : Nat) ≤ (flat ps).length) (.fin (.slice (some ⟨2, 0, none⟩) (0 + (ps.length, Cs.ints (List.take (ps.length * Try.prog.types[30].size) (List.drop 0 (flat ps))), [0 + ps.length * Try.prog.types[30].size ≤ (flat ps).length]).fst) (0 + (ps.length, Cs.ints (List.take (ps.length * Try.prog.types[30].size) (List.drop 0 (flat ps))), [0 + ps.length * Try.prog.types[30].size ≤ (flat ps).length]).fst)) [some ⟨.view, .ints (flat ps)⟩, some deadB, some ⟨.row 30 2, .ints ([] ++ List.take (ps.length * 2) (List.drop 0 (flat ps)))⟩]))) := by kernel_rfl
theorem resR_cln (ps : List Pt) (h : ps.length ≤ 1000000) : ResR Try.prog 79 [.row ps.length (.ints (flat ps))] (rowP ps) (blkP ps) := by
  rcases Nat.eq_zero_or_pos ps.length with h0 | h0
  · obtain rfl : ps = [] := List.eq_nil_of_length_eq_zero h0
    refine ⟨(entersB_res (by kernel_rfl)).1, (entersB_res (by kernel_rfl)).2, rfl, fun d hd => ?_, fun w args hd => ?_⟩
    · rw [List.mem_singleton.1 hd]
      exact rfl
    · obtain ⟨h1, h2⟩ := hd
      obtain ⟨x0, rfl⟩ : ∃ x0, args = #[x0] := by
        have h3 : args.size = 1 := by simpa using h1.symm
        match args, h3 with
        | ⟨[x0]⟩, _ => exact ⟨x0, rfl⟩
      obtain ⟨_, ad, c', rfl, _, _⟩ := h2 0 _ x0 rfl rfl
      exact cln_zero ad c' w
  · refine bodyX_resR mixed (tabE_ok B0_ok) (m := 30) (n := 12) rfl ?_
    rw [tr_cln]
    have hf : ([] : List Int) ++ List.take (ps.length * 2) (List.drop 0 (flat ps)) = flat ps := by
      rw [List.nil_append, List.drop_zero, flat_all]
    refine ⟨h0, ⟨?_, ?_⟩, ?_, some 2, ⟨?_, ?_, ?_⟩, ?_⟩
    · show (0 + ps.length) * 16 ≤ 140737488355328; omega
    · show 0 + ps.length ≤ 1000000; omega
    · rw [flat_length]; omega
    · rfl
    · rfl
    · show 0 + ps.length = ps.length; omega
    · rw [hf]; exact ⟨rfl, rfl, rfl⟩
def RCl : TabR := fun f ds => match f, ds with
  | 79, [.row m (.ints xs)] => some (rowP (ptsA m xs), blkP (ptsA m xs), [m * 2 ≤ xs.length, m ≤ 1000000])
  | f, ds => R4 f ds
theorem RCl_ok : TabROk Try.prog RCl := by
  intro f ds v b C h hC
  unfold RCl at h
  split at h
  · obtain ⟨rfl, rfl, rfl⟩ : _ ∧ _ ∧ _ := by simpa using h
    obtain ⟨_, h2⟩ := ptsA_spec hC.1
    exact resR_pts1 (pre := []) (post := []) hC.1 (resR_cln _ (by rw [h2]; exact hC.2.1))
  · exact R4_ok _ _ _ _ _ h hC
def JSo : TabJ := consJ 98 (fun _ => soG 73) noJ
theorem JSo_ok : GSound Try.prog JSo.g := soG_sound (failG_sound _)
def JSc : TabJ := consR 99 (owG cptS) JSo
theorem JSc_ok : GSound Try.prog JSc.g := consO_ok mixed JSo_ok (entersB_res (by kernel_rfl)).1 cptS_ok
def ESp : Env := withT (mkE T3 RCl (fun _ => noL)) JSc
theorem ESp_ok : EnvOk Try.prog ESp := withT_ok (mkEOk T3_ok RCl_ok (fun _ _ _ => noL_good)) JSc_ok
set_option maxRecDepth 100000 in
theorem tr_iSp (ps : List Pt) : bodyX Try.prog ESp 30 12 44 [.row ps.length (.ints (flat ps))] = brT (decide ((↑ps.length : Int) ≤ 20)) (.need (ps.length * (2 : Nat) ≤ (List.drop (0 : Nat) (flat ps)).length) (.need (ps.length ≤ (1000000000 : Nat)) (brT (!allV (ptsA ps.length (List.drop 0 (flat ps)))) (.fin (.slice none (0) (0)) [some ⟨.view, .ints (flat ps)⟩]) (.need (ps.length * (2 : Nat) ≤ (List.drop (0 : Nat) (flat ps)).length) (.need (ps.length ≤ (1000000 : Nat)) (.need ((flat (ptsA ps.length (List.drop (0 : Nat) (flat ps)))).length = (ptsA ps.length (List.drop (0 : Nat) (flat ps))).length * (2 : Nat)) (.need ((ptsA ps.length (List.drop (0 : Nat) (flat ps))).length ≤ (1000000000 : Nat)) (.need ((flat (sortP (ptsA (ptsA ps.length (List.drop (0 : Nat) (flat ps))).length (flat (ptsA ps.length (List.drop (0 : Nat) (flat ps))))))).length = (ptsA ps.length (List.drop (0 : Nat) (flat ps))).length * (2 : Nat)) (.need ((ptsA ps.length (List.drop (0 : Nat) (flat ps))).length ≤ (1000000000 : Nat)) (.fin (.slice (some ⟨2, 0, none⟩) ((cmP (ptsA (ptsA ps.length (List.drop 0 (flat ps))).length (flat (sortP (ptsA (ptsA ps.length (List.drop 0 (flat ps))).length (flat (ptsA ps.length (List.drop 0 (flat ps))))))))).length) ((cmP (ptsA (ptsA ps.length (List.drop 0 (flat ps))).length (flat (sortP (ptsA (ptsA ps.length (List.drop 0 (flat ps))).length (flat (ptsA ps.length (List.drop 0 (flat ps))))))))).length)) [some ⟨.view, .ints (flat ps)⟩, some deadB, some ⟨.row 30 2, .ints (flat (cmP (ptsA (ptsA ps.length (List.drop 0 (flat ps))).length (flat (sortP (ptsA (ptsA ps.length (List.drop 0 (flat ps))).length (flat (ptsA ps.length (List.drop 0 (flat ps))))))))))⟩])))))))))) (.fin (.slice none (0) (0)) [some ⟨.view, .ints (flat ps)⟩]) := by kernel_rfl
/-- In order, and equal ones once: as the model has it. -/
theorem up_get {L : List Pt} (h : L.Pairwise fun x y => pltB y x = false) {i j : Nat} (hij : i < j) (hj : j < L.length) : pltB (L.getD j (0, 0)) (L.getD i (0, 0)) = false := by
  have := List.pairwise_iff_getElem.1 h i j (by omega) hj hij
  simpa [List.getD, hj, show i < L.length by omega] using this
theorem plt_le {a b c : Pt} (h1 : pltB b a = false) (h2 : pltB b c = true) : pltB a c = true := by
  rw [← Bool.not_eq_true, pltB_iff] at h1
  rw [pltB_iff] at h2 ⊢
  omega
theorem cmN_srt {L : List Pt} (h : L.Pairwise fun x y => pltB y x = false) : ∀ m, m ≤ L.length → Asc (cmN L m) ∧ (∀ z ∈ cmN L m, ∃ j, j < m ∧ z = L.getD j (0, 0)) ∧ ∀ j, j < m → L.getD j (0, 0) ∈ cmN L m
  | 0, _ => ⟨List.Pairwise.nil, fun z hz => by simp [cmN] at hz, fun j hj => by omega⟩
  | m + 1, hm => by
    obtain ⟨h1, h2, h3⟩ := cmN_srt h m (by omega)
    simp only [cmN]
    split
    · rename_i hc
      refine ⟨?_, fun z hz => ?_, fun j hj => ?_⟩
      · refine List.pairwise_append.2 ⟨h1, by simp, fun z hz y hy => ?_⟩
        obtain rfl : y = L.getD m (0, 0) := by simpa using hy
        obtain ⟨j, hj, rfl⟩ := h2 z hz
        rcases hc with hc | hc
        · omega
        · have a1 : pltB (L.getD (m - 1) (0, 0)) (L.getD m (0, 0)) = true := plt_tri (up_get h (by omega) (by omega)) hc
          rcases Nat.lt_or_ge j (m - 1) with hj1 | hj1
          · exact plt_le (up_get h hj1 (by omega)) a1
          · obtain rfl : j = m - 1 := by omega
            exact a1
      · rcases List.mem_append.1 hz with hz | hz
        · obtain ⟨j, hj, e⟩ := h2 z hz
          exact ⟨j, by omega, e⟩
        · obtain rfl : z = L.getD m (0, 0) := by simpa using hz
          exact ⟨m, by omega, rfl⟩
      · rcases Nat.lt_or_ge j m with hjm | hjm
        · exact List.mem_append.2 (.inl (h3 j hjm))
        · obtain rfl : j = m := by omega
          exact List.mem_append.2 (.inr (by simp))
    · rename_i hc
      have hc1 : ¬ m = 0 := fun e => hc (.inl e)
      have hc2 : L.getD m (0, 0) = L.getD (m - 1) (0, 0) := Classical.byContradiction fun e => hc (.inr e)
      refine ⟨h1, fun z hz => ?_, fun j hj => ?_⟩
      · obtain ⟨j, hj, e⟩ := h2 z hz
        exact ⟨j, by omega, e⟩
      · rcases Nat.lt_or_ge j m with hjm | hjm
        · exact h3 j hjm
        · obtain rfl : j = m := by omega
          rw [hc2]
          exact h3 (j - 1) (by omega)
theorem cmP_sort (ps : List Pt) : cmP (sortP ps) = srtL ps := by
  obtain ⟨h1, h2, h3⟩ := cmN_srt (sortP_up ps) (sortP ps).length (Nat.le_refl _)
  refine asc_ext h1 (srtL_asc ps) fun z => ?_
  rw [srtL_mem]
  constructor
  · intro hz
    obtain ⟨j, hj, rfl⟩ := h2 z hz
    exact (sortP_mem ps _).1 (by simp [List.getD, hj])
  · intro hz
    obtain ⟨j, hj, rfl⟩ := List.mem_iff_getElem.1 ((sortP_mem ps z).2 hz)
    have := h3 j hj
    rw [show (sortP ps).getD j (0, 0) = (sortP ps)[j] by simp [List.getD, hj]] at this
    exact this
/-- What SortPoints answers. -/
def spV (ps : List Pt) : List Pt := bif okL ps then srtL ps else []
theorem okL_20 {ps : List Pt} (h : okL ps = true) : allV ps = true ∧ ps.length ≤ 20 := by
  unfold okL at h
  simpa using h
theorem spV_len (ps : List Pt) : (spV ps).length ≤ 20 := by
  unfold spV
  rcases h : okL ps with _ | _
  · exact Nat.zero_le _
  · have := srtO_le ps []
    have h2 := (okL_20 h).2
    simp only [List.length_nil] at this
    show (srtO [] ps).length ≤ 20
    omega
theorem resR_iSp (ps : List Pt) (h : Big ps) : ResR Try.prog 44 [.row ps.length (.ints (flat ps))] (rowP (spV ps)) (blkP (spV ps)) := by
  refine bodyX_resR mixed ESp_ok (m := 30) (n := 12) rfl ?_
  rw [tr_iSp]
  unfold Big at h
  have e : ptsA ps.length (flat (sortP ps)) = sortP ps := by rw [← sortP_len ps, ptsA_flat]
  simp only [List.drop_zero, ptsA_flat, flat_length, e, cmP_sort]
  refine brT_ok.2 ⟨fun h20 => ⟨by omega, h, brT_ok.2 ⟨fun hv => ?_, fun hv => ?_⟩⟩, fun h20 => ?_⟩
  · have e2 : spV ps = [] := by
      unfold spV okL
      rw [show allV ps = false by simpa using hv]
      rfl
    rw [e2]
    exact ⟨none, ⟨rfl, rfl⟩, trivial⟩
  · have hv : allV ps = true := by simpa using hv
    have hl : ps.length ≤ 20 := by have := of_decide_eq_true h20; omega
    have e2 : spV ps = srtL ps := by
      unfold spV okL
      rw [hv, decide_eq_true hl]
      rfl
    rw [e2]
    exact ⟨by omega, by omega, trivial, by omega, by rw [sortP_len], by omega, some 2, ⟨rfl, rfl, rfl⟩, rfl, rfl, rfl⟩
  · have e2 : spV ps = [] := by
      unfold spV okL
      rw [show decide (ps.length ≤ 20) = false from decide_eq_false (by have := of_decide_eq_false h20; omega), Bool.and_false]
      rfl
    rw [e2]
    exact ⟨none, ⟨rfl, rfl⟩, trivial⟩
def RSs : TabR := fun f ds => match f, ds with
  | 125, [.row m (.ints xs)] => some (rowP (srtL (ptsA m xs)), blkP (srtL (ptsA m xs)), [m * 2 ≤ xs.length, m ≤ 1000])
  | 44, [.row m (.ints xs)] => some (rowP (spV (ptsA m xs)), blkP (spV (ptsA m xs)), [m * 2 ≤ xs.length, m ≤ 1000000000])
  | f, ds => RCl f ds
theorem RSs_ok : TabROk Try.prog RSs := by
  intro f ds v b C h hC
  unfold RSs at h
  split at h
  · obtain ⟨rfl, rfl, rfl⟩ : _ ∧ _ ∧ _ := by simpa using h
    obtain ⟨_, h2⟩ := ptsA_spec hC.1
    exact resR_pts1 (pre := []) (post := []) hC.1 (resR_srt _ (by rw [h2]; exact hC.2.1))
  · obtain ⟨rfl, rfl, rfl⟩ : _ ∧ _ ∧ _ := by simpa using h
    obtain ⟨_, h2⟩ := ptsA_spec hC.1
    exact resR_pts1 (pre := []) (post := []) hC.1 (resR_iSp _ (by unfold Big; rw [h2]; exact hC.2.1))
  · exact RCl_ok _ _ _ _ _ h hC
def RSq : TabR := fun f ds => match f, ds with
  | f, ds => RSs f ds
theorem RSq_ok : TabROk Try.prog RSq := by
  intro f ds v b C h hC
  unfold RSq at h
  (try split at h)
  all_goals first
    | (obtain ⟨rfl, rfl, rfl⟩ : _ ∧ _ ∧ _ := by simpa using h
       obtain ⟨_, h2⟩ := ptsA_spec hC.1
       exact resR_pts1 (pre := []) (post := []) hC.1 (resR_sSp _ (by unfold Big; rw [h2]; exact hC.2.1)))
    | exact RSs_ok _ _ _ _ _ h hC
def TMh : Tab := fun f ds => match f with
  | f => T3 f ds
theorem TMh_ok : TabOk Try.prog TMh := by
  intro f ds v C h hC
  unfold TMh at h
  (try split at h)
  all_goals first | with_reducible exact pHeldP_ok h hC | exact T3_ok _ _ _ _ h hC
end Go.Proofs.Ytnjmepbblcfnfaa
namespace Go.Proofs.Ytnjmepbblcfnfaa
set_option linter.all false
open Go.RowKit
def TCh : Tab := orT T3 TOl
theorem TCh_ok : TabOk Try.prog TCh := orT_ok T3_ok TOl_ok
def ECh : Env := mkE TCh RSq (fun _ => noL)
theorem ECh_ok : EnvOk Try.prog ECh := mkEOk TCh_ok RSq_ok (fun _ _ _ => noL_good)
noncomputable def c_chI : Code := ((loopsOf (codeOf Try.f66))[1]?).getD .skip
def k_chI : Ex → List Nat := keeps [3, 5, 6, 7, 8, 9] [(2, [3, 5, 7, 8, 9]), (1, [3, 7, 8, 9]), (0, [3])] [2]
def s_chI (xs : List Int) (st : List Pt) (x y : Int) (n i : Nat) : Nat → St := fun j => ⟨(topV :: topV :: topV :: .slice (some ⟨1, 0, none⟩) j j :: topV :: .pointer (some ⟨2, 0, none⟩) :: .int .i64 j :: .slice (some ⟨0, 0, none⟩) n n :: .int .i64 n :: .int .i64 i :: topV :: topV :: topV :: topV :: topV :: topV :: topV :: topV :: topV :: topV :: topV :: topV :: topV :: topV :: topV :: topV :: topV :: topV :: topV :: topV :: topV :: topV :: topV :: topV :: topV :: topV :: topV :: topV :: topV :: topV :: topV :: topV :: topV :: topV :: []), [some ⟨.view, .ints xs⟩, some ⟨.row 30 2, .ints (flat st)⟩, some ⟨.box, .vals [.int .i64 x, .int .i64 y]⟩]⟩
def re_chI : Nat → Ex := fun _ => .exit 2
def rs_chI (xs : List Int) (st : List Pt) (x y : Int) (n i : Nat) : Nat → St := fun j => ⟨(topV :: topV :: topV :: .slice (some ⟨1, 0, none⟩) (popN st (x, y) st.length) (popN st (x, y) st.length) :: topV :: .pointer (some ⟨2, 0, none⟩) :: topV :: .slice (some ⟨0, 0, none⟩) n n :: .int .i64 n :: .int .i64 i :: topV :: topV :: topV :: topV :: topV :: topV :: topV :: topV :: topV :: topV :: topV :: topV :: topV :: topV :: topV :: topV :: topV :: topV :: topV :: topV :: topV :: topV :: topV :: topV :: topV :: topV :: topV :: topV :: topV :: topV :: topV :: topV :: topV :: topV :: []), [some ⟨.view, .ints xs⟩, some ⟨.row 30 2, .ints (flat st)⟩, some ⟨.box, .vals [.int .i64 x, .int .i64 y]⟩]⟩
set_option maxRecDepth 100000 in
theorem tr_chI (xs : List Int) (st : List Pt) (x y : Int) (n i : Nat) (j : Nat) : bodyL Try.prog ECh 30 12 noL 2 c_chI k_chI 3 (s_chI xs st x y n i j) = brT (decide (2 ≤ (↑j : Int))) (.need (ptB ((flat st).getD ((0 : Nat) + (IntKind.i64.wrap ((↑j : Int) - (2 : Int))).toNat * (2 : Nat)) (0 : Int)) ((flat st).getD ((0 : Nat) + (IntKind.i64.wrap ((↑j : Int) - (2 : Int))).toNat * (2 : Nat) + (1 : Nat)) (0 : Int)) = true) (.need (ptB ((flat st).getD ((0 : Nat) + (IntKind.i64.wrap ((↑j : Int) - (1 : Int))).toNat * (2 : Nat)) (0 : Int)) ((flat st).getD ((0 : Nat) + (IntKind.i64.wrap ((↑j : Int) - (1 : Int))).toNat * (2 : Nat) + (1 : Nat)) (0 : Int)) = true) (.need (ptB x y = true) (.need ((0 : Int) ≤ IntKind.i64.wrap ((↑j : Int) - (2 : Int)) ∧ IntKind.i64.wrap ((↑j : Int) - (2 : Int)) < (↑j : Int)) (.need ((0 : Nat) + (IntKind.i64.wrap ((↑j : Int) - (2 : Int))).toNat * (2 : Nat) + (2 : Nat) ≤ (flat st).length) (.need ((0 : Int) ≤ IntKind.i64.wrap ((↑j : Int) - (1 : Int)) ∧ IntKind.i64.wrap ((↑j : Int) - (1 : Int)) < (↑j : Int)) (.need ((0 : Nat) + (IntKind.i64.wrap ((↑j : Int) - (1 : Int))).toNat * (2 : Nat) + (2 : Nat) ≤ (flat st).length) (brT (decide (crossI ((flat st).getD (0 + (IntKind.i64.wrap ((↑j : Int) - 2)).toNat * 2) 0) ((flat st).getD (0 + (IntKind.i64.wrap ((↑j : Int) - 2)).toNat * 2 + 1) 0) ((flat st).getD (0 + (IntKind.i64.wrap ((↑j : Int) - 1)).toNat * 2) 0) ((flat st).getD (0 + (IntKind.i64.wrap ((↑j : Int) - 1)).toNat * 2 + 1) 0) x y ≤ 0)) (.need ((0 : Int) ≤ bndI none (0 : Int) ∧ bndI none (0 : Int) ≤ bndI (some (IntKind.i64, IntKind.i64.wrap ((↑j : Int) - (1 : Int)))) (↑j : Int) ∧ bndI (some (IntKind.i64, IntKind.i64.wrap ((↑j : Int) - (1 : Int)))) (↑j : Int) ≤ (↑j : Int)) (.leaf .normal ⟨(topV :: topV :: topV :: .slice (some ⟨1, 0, none⟩) ((bndI (some (IntKind.i64, IntKind.i64.wrap ((↑j : Int) - 1))) (↑j : Int)).toNat - 0) ((bndI (some (IntKind.i64, IntKind.i64.wrap ((↑j : Int) - 1))) (↑j : Int)).toNat - 0) :: topV :: .pointer (some ⟨2, 0, none⟩) :: .int .i64 (IntKind.i64.wrap ((↑j : Int) - 1)) :: .slice (some ⟨0, 0, none⟩) (n) (n) :: .int .i64 ((↑n : Int)) :: .int .i64 ((↑i : Int)) :: topV :: topV :: topV :: topV :: topV :: topV :: topV :: topV :: topV :: topV :: topV :: topV :: topV :: topV :: topV :: topV :: topV :: topV :: topV :: topV :: topV :: topV :: topV :: topV :: topV :: topV :: topV :: topV :: topV :: topV :: topV :: topV :: topV :: topV :: []), [some ⟨.view, .ints (xs)⟩, some ⟨.row 30 2, .ints (flat st)⟩, some ⟨.box, .vals [.int .i64 (x), .int .i64 (y)]⟩]⟩)) (.leaf (.exit 2) ⟨(topV :: topV :: topV :: .slice (some ⟨1, 0, none⟩) (j) (j) :: topV :: .pointer (some ⟨2, 0, none⟩) :: topV :: .slice (some ⟨0, 0, none⟩) (n) (n) :: .int .i64 ((↑n : Int)) :: .int .i64 ((↑i : Int)) :: topV :: topV :: topV :: topV :: topV :: topV :: topV :: topV :: topV :: topV :: topV :: topV :: topV :: topV :: topV :: topV :: topV :: topV :: topV :: topV :: topV :: topV :: topV :: topV :: topV :: topV :: topV :: topV :: topV :: topV :: topV :: topV :: topV :: topV :: []), [some ⟨.view, .ints (xs)⟩, some ⟨.row 30 2, .ints (flat st)⟩, some ⟨.box, .vals [.int .i64 (x), .int .i64 (y)]⟩]⟩))))))))) (.leaf (.exit 2) ⟨(topV :: topV :: topV :: .slice (some ⟨1, 0, none⟩) (j) (j) :: topV :: .pointer (some ⟨2, 0, none⟩) :: topV :: .slice (some ⟨0, 0, none⟩) (n) (n) :: .int .i64 ((↑n : Int)) :: .int .i64 ((↑i : Int)) :: topV :: topV :: topV :: topV :: topV :: topV :: topV :: topV :: topV :: topV :: topV :: topV :: topV :: topV :: topV :: topV :: topV :: topV :: topV :: topV :: topV :: topV :: topV :: topV :: topV :: topV :: topV :: topV :: topV :: topV :: topV :: topV :: topV :: topV :: []), [some ⟨.view, .ints (xs)⟩, some ⟨.row 30 2, .ints (flat st)⟩, some ⟨.box, .vals [.int .i64 (x), .int .i64 (y)]⟩]⟩) := by kernel_rfl
set_option maxRecDepth 100000 in
theorem nl_chI : loopsOf c_chI = [] := by kernel_rfl
def inv_chI (xs : List Int) (st : List Pt) (x y : Int) (n i : Nat) : Nat → Prop := fun j => j ≤ st.length ∧ popN st (x, y) j = popN st (x, y) st.length
def me_chI (xs : List Int) (st : List Pt) (x y : Int) (n i : Nat) : Nat → Nat := fun j => j
/-- A round of this loop. -/
def Round_chI (xs : List Int) (st : List Pt) (x y : Int) (n i : Nat) : Prop := ∀ xx : Nat, inv_chI xs st x y n i xx → (bodyL Try.prog ECh 30 12 noL 2 c_chI k_chI 3 (s_chI xs st x y n i xx)).ok (RoundEnd 3 (s_chI xs st x y n i) (inv_chI xs st x y n i) (me_chI xs st x y n i) re_chI (rs_chI xs st x y n i) xx) (fun _ _ => False)
def e_chI (s : St) (k : Ex → St → Tree) : Option Tree := match Nat.beq s.tmps.length 44, pickL s.tmps [3, 5, 6, 7, 8, 9], s.mem with
  | true, [.slice (some ⟨1, 0, none⟩) l _, .pointer (some ⟨2, 0, none⟩), .int .i64 jj, .slice (some ⟨0, 0, none⟩) n _, .int .i64 n1, .int .i64 i], [some ⟨.view, .ints xs⟩, some ⟨.row 30 2, .ints ys⟩, some ⟨.box, .vals [.int .i64 x, .int .i64 y]⟩] => some (needs [jj = l, n1 = n, 0 ≤ i, ys.length = l * 2, allV (ptsA l ys) = true, ptB x y = true, l ≤ 1000] (k (.exit 2) ⟨(topV :: topV :: topV :: .slice (some ⟨1, 0, none⟩) (popN (ptsA l ys) (x, y) l) (popN (ptsA l ys) (x, y) l) :: topV :: .pointer (some ⟨2, 0, none⟩) :: topV :: .slice (some ⟨0, 0, none⟩) n n :: .int .i64 n :: .int .i64 i :: topV :: topV :: topV :: topV :: topV :: topV :: topV :: topV :: topV :: topV :: topV :: topV :: topV :: topV :: topV :: topV :: topV :: topV :: topV :: topV :: topV :: topV :: topV :: topV :: topV :: topV :: topV :: topV :: topV :: topV :: topV :: topV :: topV :: topV :: []), [some ⟨.view, .ints xs⟩, some ⟨.row 30 2, .ints ys⟩, some ⟨.box, .vals [.int .i64 x, .int .i64 y]⟩]⟩))
  | _, _, _ => none
noncomputable def c_chS : Code := ((loopsOf (codeOf Try.f126))[1]?).getD .skip
def k_chS : Ex → List Nat := keeps [0, 3, 4] [(2, [0, 3, 4]), (1, [0, 3, 4]), (0, [3])] [2]
def s_chS (ps st : List Pt) (i : Nat) : Nat → St := fun j => ⟨(.slice (some ⟨0, 0, none⟩) ps.length ps.length :: topV :: topV :: .slice (some ⟨2, 0, none⟩) j j :: .int .i64 i :: topV :: topV :: topV :: topV :: topV :: topV :: topV :: topV :: topV :: topV :: topV :: topV :: topV :: topV :: topV :: topV :: topV :: topV :: topV :: topV :: topV :: topV :: topV :: topV :: topV :: topV :: topV :: topV :: topV :: topV :: topV :: topV :: topV :: topV :: topV :: topV :: topV :: topV :: topV :: topV :: topV :: topV :: topV :: []), [some ⟨.view, .ints (flat ps)⟩, some ⟨.dead, .vals []⟩, some ⟨.row 30 2, .ints (flat st)⟩]⟩
def re_chS : Nat → Ex := fun _ => .exit 2
def rs_chS (ps st : List Pt) (i : Nat) : Nat → St := fun j => ⟨(.slice (some ⟨0, 0, none⟩) ps.length ps.length :: topV :: topV :: .slice (some ⟨2, 0, none⟩) (popN st (ps.getD i (0, 0)) st.length) (popN st (ps.getD i (0, 0)) st.length) :: .int .i64 i :: topV :: topV :: topV :: topV :: topV :: topV :: topV :: topV :: topV :: topV :: topV :: topV :: topV :: topV :: topV :: topV :: topV :: topV :: topV :: topV :: topV :: topV :: topV :: topV :: topV :: topV :: topV :: topV :: topV :: topV :: topV :: topV :: topV :: topV :: topV :: topV :: topV :: topV :: topV :: topV :: topV :: topV :: topV :: []), [some ⟨.view, .ints (flat ps)⟩, some ⟨.dead, .vals []⟩, some ⟨.row 30 2, .ints (flat st)⟩]⟩
set_option maxRecDepth 100000 in
theorem tr_chS (ps st : List Pt) (i : Nat) (j : Nat) : bodyL Try.prog ECh 30 12 noL 2 c_chS k_chS 3 (s_chS ps st i j) = brT (decide (1 < (↑j : Int))) (.need (ptB ((flat st).getD ((0 : Nat) + (IntKind.i64.wrap ((↑j : Int) - (2 : Int))).toNat * (2 : Nat)) (0 : Int)) ((flat st).getD ((0 : Nat) + (IntKind.i64.wrap ((↑j : Int) - (2 : Int))).toNat * (2 : Nat) + (1 : Nat)) (0 : Int)) = true) (.need (ptB ((flat st).getD ((0 : Nat) + (IntKind.i64.wrap ((↑j : Int) - (1 : Int))).toNat * (2 : Nat)) (0 : Int)) ((flat st).getD ((0 : Nat) + (IntKind.i64.wrap ((↑j : Int) - (1 : Int))).toNat * (2 : Nat) + (1 : Nat)) (0 : Int)) = true) (.need (ptB ((flat ps).getD ((0 : Nat) + (↑i : Int).toNat * (2 : Nat)) (0 : Int)) ((flat ps).getD ((0 : Nat) + (↑i : Int).toNat * (2 : Nat) + (1 : Nat)) (0 : Int)) = true) (.need ((0 : Int) ≤ IntKind.i64.wrap ((↑j : Int) - (2 : Int)) ∧ IntKind.i64.wrap ((↑j : Int) - (2 : Int)) < (↑j : Int)) (.need ((0 : Nat) + (IntKind.i64.wrap ((↑j : Int) - (2 : Int))).toNat * (2 : Nat) + (2 : Nat) ≤ (flat st).length) (.need ((0 : Int) ≤ IntKind.i64.wrap ((↑j : Int) - (1 : Int)) ∧ IntKind.i64.wrap ((↑j : Int) - (1 : Int)) < (↑j : Int)) (.need ((0 : Nat) + (IntKind.i64.wrap ((↑j : Int) - (1 : Int))).toNat * (2 : Nat) + (2 : Nat) ≤ (flat st).length) (.need ((0 : Int) ≤ (↑i : Int) ∧ (↑i : Int) < (↑ps.length : Int)) (.need ((0 : Nat) + (↑i : Int).toNat * (2 : Nat) + (2 : Nat) ≤ (flat ps).length) (brT (decide (crossI ((flat st).getD (0 + (IntKind.i64.wrap ((↑j : Int) - 2)).toNat * 2) 0) ((flat st).getD (0 + (IntKind.i64.wrap ((↑j : Int) - 2)).toNat * 2 + 1) 0) ((flat st).getD (0 + (IntKind.i64.wrap ((↑j : Int) - 1)).toNat * 2) 0) ((flat st).getD (0 + (IntKind.i64.wrap ((↑j : Int) - 1)).toNat * 2 + 1) 0) ((flat ps).getD (0 + (↑i : Int).toNat * 2) 0) ((flat ps).getD (0 + (↑i : Int).toNat * 2 + 1) 0) ≤ 0)) (.need ((0 : Int) ≤ bndI none (0 : Int) ∧ bndI none (0 : Int) ≤ bndI (some (IntKind.i64, IntKind.i64.wrap ((↑j : Int) - (1 : Int)))) (↑j : Int) ∧ bndI (some (IntKind.i64, IntKind.i64.wrap ((↑j : Int) - (1 : Int)))) (↑j : Int) ≤ (↑j : Int)) (.leaf .normal ⟨(.slice (some ⟨0, 0, none⟩) (ps.length) (ps.length) :: topV :: topV :: .slice (some ⟨2, 0, none⟩) ((bndI (some (IntKind.i64, IntKind.i64.wrap ((↑j : Int) - 1))) (↑j : Int)).toNat - 0) ((bndI (some (IntKind.i64, IntKind.i64.wrap ((↑j : Int) - 1))) (↑j : Int)).toNat - 0) :: .int .i64 ((↑i : Int)) :: topV :: topV :: topV :: topV :: topV :: topV :: topV :: topV :: topV :: topV :: topV :: topV :: topV :: topV :: topV :: topV :: topV :: topV :: topV :: topV :: topV :: topV :: topV :: topV :: topV :: topV :: topV :: topV :: topV :: topV :: topV :: topV :: topV :: topV :: topV :: topV :: topV :: topV :: topV :: topV :: topV :: topV :: topV :: []), [some ⟨.view, .ints (flat ps)⟩, some deadB, some ⟨.row 30 2, .ints (flat st)⟩]⟩)) (.leaf (.exit 2) ⟨(.slice (some ⟨0, 0, none⟩) (ps.length) (ps.length) :: topV :: topV :: .slice (some ⟨2, 0, none⟩) (j) (j) :: .int .i64 ((↑i : Int)) :: topV :: topV :: topV :: topV :: topV :: topV :: topV :: topV :: topV :: topV :: topV :: topV :: topV :: topV :: topV :: topV :: topV :: topV :: topV :: topV :: topV :: topV :: topV :: topV :: topV :: topV :: topV :: topV :: topV :: topV :: topV :: topV :: topV :: topV :: topV :: topV :: topV :: topV :: topV :: topV :: topV :: topV :: topV :: []), [some ⟨.view, .ints (flat ps)⟩, some deadB, some ⟨.row 30 2, .ints (flat st)⟩]⟩))))))))))) (.leaf (.exit 2) ⟨(.slice (some ⟨0, 0, none⟩) (ps.length) (ps.length) :: topV :: topV :: .slice (some ⟨2, 0, none⟩) (j) (j) :: .int .i64 ((↑i : Int)) :: topV :: topV :: topV :: topV :: topV :: topV :: topV :: topV :: topV :: topV :: topV :: topV :: topV :: topV :: topV :: topV :: topV :: topV :: topV :: topV :: topV :: topV :: topV :: topV :: topV :: topV :: topV :: topV :: topV :: topV :: topV :: topV :: topV :: topV :: topV :: topV :: topV :: topV :: topV :: topV :: topV :: topV :: topV :: []), [some ⟨.view, .ints (flat ps)⟩, some deadB, some ⟨.row 30 2, .ints (flat st)⟩]⟩) := by kernel_rfl
set_option maxRecDepth 100000 in
theorem nl_chS : loopsOf c_chS = [] := by kernel_rfl
def inv_chS (ps st : List Pt) (i : Nat) : Nat → Prop := fun j => j ≤ st.length ∧ popN st (ps.getD i (0, 0)) j = popN st (ps.getD i (0, 0)) st.length
def me_chS (ps st : List Pt) (i : Nat) : Nat → Nat := fun j => j
/-- A round of this loop. -/
def Round_chS (ps st : List Pt) (i : Nat) : Prop := ∀ xx : Nat, inv_chS ps st i xx → (bodyL Try.prog ECh 30 12 noL 2 c_chS k_chS 3 (s_chS ps st i xx)).ok (RoundEnd 3 (s_chS ps st i) (inv_chS ps st i) (me_chS ps st i) re_chS (rs_chS ps st i) xx) (fun _ _ => False)
def e_chS (s : St) (k : Ex → St → Tree) : Option Tree := match Nat.beq s.tmps.length 48, pickL s.tmps [0, 3, 4], s.mem with
  | true, [.slice (some ⟨0, 0, none⟩) n _, .slice (some ⟨2, 0, none⟩) l _, .int .i64 ii], [some ⟨.view, .ints xs⟩, some ⟨.dead, .vals []⟩, some ⟨.row 30 2, .ints ys⟩] => some (needs [xs.length = n * 2, allV (ptsA n xs) = true, 0 ≤ ii, ii < n, ys.length = l * 2, allV (ptsA l ys) = true, l ≤ 1000] (k (.exit 2) ⟨(.slice (some ⟨0, 0, none⟩) n n :: topV :: topV :: .slice (some ⟨2, 0, none⟩) (popN (ptsA l ys) ((ptsA n xs).getD ii.toNat (0, 0)) l) (popN (ptsA l ys) ((ptsA n xs).getD ii.toNat (0, 0)) l) :: .int .i64 ii :: topV :: topV :: topV :: topV :: topV :: topV :: topV :: topV :: topV :: topV :: topV :: topV :: topV :: topV :: topV :: topV :: topV :: topV :: topV :: topV :: topV :: topV :: topV :: topV :: topV :: topV :: topV :: topV :: topV :: topV :: topV :: topV :: topV :: topV :: topV :: topV :: topV :: topV :: topV :: topV :: topV :: topV :: topV :: []), [some ⟨.view, .ints xs⟩, some ⟨.dead, .vals []⟩, some ⟨.row 30 2, .ints ys⟩]⟩))
  | _, _, _ => none
theorem popN_yes {st : List Pt} {p : Pt} {m : Nat} (h : crP (st.getD m (0, 0)) (st.getD (m + 1) (0, 0)) p ≤ 0) : popN st p (m + 2) = popN st p (m + 1) := by simp only [popN, h, if_true]
theorem popN_no {st : List Pt} {p : Pt} {m : Nat} (h : ¬ crP (st.getD m (0, 0)) (st.getD (m + 1) (0, 0)) p ≤ 0) : popN st p (m + 2) = m + 2 := by simp only [popN, h, if_false]
theorem popN_low {st : List Pt} {p : Pt} {j : Nat} (h : j < 2) : popN st p j = j := by
  match j, h with
  | 0, _ => rfl
  | 1, _ => rfl
set_option maxRecDepth 100000 in
theorem round_chI (xs : List Int) (st : List Pt) (x y : Int) (n i : Nat) (hv : allV st = true) (hp : ptB x y = true) (h : st.length ≤ 1000) : Round_chI xs st x y n i := by
  rintro j ⟨h1, h2⟩
  rw [tr_chI]
  refine brT_ok.2 ⟨fun hlt => ?_, fun hge => ?_⟩
  · have hlt := of_decide_eq_true hlt
    obtain ⟨m, rfl⟩ : ∃ m, j = m + 2 := ⟨j - 2, by omega⟩
    have w1 : IntKind.i64.wrap (((m + 2 : Nat) : Int) - 2) = (m : Int) := by rw [wr (by omega)]; omega
    have w2 : IntKind.i64.wrap (((m + 2 : Nat) : Int) - 1) = ((m + 1 : Nat) : Int) := by rw [wr (by omega)]; omega
    simp only [w1, w2, bnd_some, bnd_none, Int.toNat_natCast, flat_get0, flat_get1, flat_length, Nat.zero_add, Nat.sub_zero]
    refine ⟨allV_at hv (by omega), allV_at hv (by omega), hp, by omega, by omega, by omega, by omega, brT_ok.2 ⟨fun q => ⟨by omega, ?_⟩, fun q => ?_⟩⟩
    · have e := popN_yes (st := st) (p := (x, y)) (m := m) (of_decide_eq_true q)
      refine ⟨m + 1, [], ⟨by omega, by rw [← e]; exact h2⟩, ?_, rfl, by simp only [rs_chI], ?_⟩
      · show m + 1 < m + 2; omega
      · repeat' (first | exact True.intro | exact rfl | exact fun _ => rfl | (simp; done) | refine And.intro ?_ ?_)
    · have e := popN_no (st := st) (p := (x, y)) (m := m) (of_decide_eq_false q)
      refine ⟨rfl, [], ?_⟩
      simp only [rs_chI, ← h2, e]
      repeat' (first | exact True.intro | exact rfl | exact fun _ => rfl | (simp; done) | refine And.intro ?_ ?_)
  · have hge := of_decide_eq_false hge
    have e := popN_low (st := st) (p := (x, y)) (j := j) (by omega)
    refine ⟨rfl, [], ?_⟩
    simp only [rs_chI, ← h2, e]
    repeat' (first | exact True.intro | exact rfl | exact fun _ => rfl | (simp; done) | refine And.intro ?_ ?_)
set_option maxRecDepth 100000 in
theorem lg_chI : LoopE Try.prog e_chI c_chI := by
  intro s k t F H hlt ht
  unfold e_chI at hlt
  split at hlt
  rotate_left
  · cases hlt
  rename_i hlen hpick hmem
  obtain ⟨tmps, mem⟩ := s
  simp only at hlen hpick hmem
  subst hmem
  obtain rfl := Option.some.inj hlt
  obtain ⟨⟨rfl, rfl, h0, h1, h2, h3, h4, _⟩, ht2⟩ := needs_ok ht
  clear ht hlt
  obtain ⟨st, rfl, rfl⟩ := even_flat h1
  obtain ⟨i, rfl⟩ := Int.eq_ofNat_of_zero_le h0
  rw [ptsA_flat] at ht2 h2
  refine ⟨_, _, ht2, loop_run mixed ECh_ok (s_chI _ st _ _ _ _) (inv_chI _ st _ _ _ _) (me_chI _ st _ _ _ _) re_chI (rs_chI _ st _ _ _ _) k_chI (fun _ => rfl) (noLoops nl_chI) (round_chI _ st _ _ _ _ h2 h3 h4) (x := st.length) ⟨Nat.le_refl _, rfl⟩ (π := []) rfl ?_⟩
  refine ⟨rfl, rfl, ?_, wvs_spread' [3, 5, 6, 7, 8, 9] hlen rfl ?_⟩
  · repeat' (first | exact True.intro | exact rfl | exact wv_top _ _ | exact fun _ => rfl | assumption | exact Eq.symm (by assumption) | exact vI0 rfl | refine And.intro ?_ ?_)
  · rw [hpick]
    repeat' (first | exact True.intro | exact rfl | exact wv_top _ _ | exact fun _ => rfl | assumption | exact Eq.symm (by assumption) | exact vI0 rfl | refine And.intro ?_ ?_)
set_option maxRecDepth 100000 in
theorem round_chS (ps st : List Pt) (i : Nat) (hv : allV st = true) (hp : allV ps = true) (h : st.length ≤ 1000) (hi : i < ps.length) : Round_chS ps st i := by
  rintro j ⟨h1, h2⟩
  rw [tr_chS]
  refine brT_ok.2 ⟨fun hlt => ?_, fun hge => ?_⟩
  · have hlt := of_decide_eq_true hlt
    obtain ⟨m, rfl⟩ : ∃ m, j = m + 2 := ⟨j - 2, by omega⟩
    have w1 : IntKind.i64.wrap (((m + 2 : Nat) : Int) - 2) = (m : Int) := by rw [wr (by omega)]; omega
    have w2 : IntKind.i64.wrap (((m + 2 : Nat) : Int) - 1) = ((m + 1 : Nat) : Int) := by rw [wr (by omega)]; omega
    simp only [w1, w2, bnd_some, bnd_none, Int.toNat_natCast, flat_get0, flat_get1, flat_length, Nat.zero_add, Nat.sub_zero]
    refine ⟨allV_at hv (by omega), allV_at hv (by omega), allV_at hp hi, by omega, by omega, by omega, by omega, by omega, by omega, brT_ok.2 ⟨fun q => ⟨by omega, ?_⟩, fun q => ?_⟩⟩
    · have e := popN_yes (st := st) (p := ps.getD i (0, 0)) (m := m) (of_decide_eq_true q)
      refine ⟨m + 1, [], ⟨by omega, by rw [← e]; exact h2⟩, ?_, rfl, by simp only [rs_chS], ?_⟩
      · show m + 1 < m + 2; omega
      · repeat' (first | exact True.intro | exact rfl | exact fun _ => rfl | (simp; done) | refine And.intro ?_ ?_)
    · have e := popN_no (st := st) (p := ps.getD i (0, 0)) (m := m) (of_decide_eq_false q)
      refine ⟨rfl, [], ?_⟩
      simp only [rs_chS, ← h2, e]
      repeat' (first | exact True.intro | exact rfl | exact fun _ => rfl | (simp; done) | refine And.intro ?_ ?_)
  · have hge := of_decide_eq_false hge
    have e := popN_low (st := st) (p := ps.getD i (0, 0)) (j := j) (by omega)
    refine ⟨rfl, [], ?_⟩
    simp only [rs_chS, ← h2, e]
    repeat' (first | exact True.intro | exact rfl | exact fun _ => rfl | (simp; done) | refine And.intro ?_ ?_)
set_option maxRecDepth 100000 in
theorem lg_chS : LoopE Try.prog e_chS c_chS := by
  intro s k t F H hlt ht
  unfold e_chS at hlt
  split at hlt
  rotate_left
  · cases hlt
  rename_i hlen hpick hmem
  obtain ⟨tmps, mem⟩ := s
  simp only at hlen hpick hmem
  subst hmem
  obtain rfl := Option.some.inj hlt
  obtain ⟨⟨h0, h5, h6, h7, h1, h2, h4, _⟩, ht2⟩ := needs_ok ht
  clear ht hlt
  obtain ⟨st, rfl, rfl⟩ := even_flat h1
  obtain ⟨ps, rfl, rfl⟩ := even_flat h0
  obtain ⟨i, rfl⟩ := Int.eq_ofNat_of_zero_le h6
  rw [ptsA_flat] at ht2 h2 h5
  simp only [ptsA_flat, Int.toNat_natCast] at ht2
  refine ⟨_, _, ht2, loop_run mixed ECh_ok (s_chS ps st i) (inv_chS ps st i) (me_chS ps st i) re_chS (rs_chS ps st i) k_chS (fun _ => rfl) (noLoops nl_chS) (round_chS ps st i h2 h5 h4 (by omega)) (x := st.length) ⟨Nat.le_refl _, rfl⟩ (π := []) rfl ?_⟩
  refine ⟨rfl, rfl, ?_, wvs_spread' [0, 3, 4] hlen rfl ?_⟩
  · repeat' (first | exact True.intro | exact rfl | exact wv_top _ _ | exact fun _ => rfl | assumption | exact Eq.symm (by assumption) | exact vI0 rfl | refine And.intro ?_ ?_)
  · rw [hpick]
    repeat' (first | exact True.intro | exact rfl | exact wv_top _ _ | exact fun _ => rfl | assumption | exact Eq.symm (by assumption) | exact vI0 rfl | refine And.intro ?_ ?_)
def ltCi : LT := fun j s k => match j with
  | 1 => e_chI s k
  | _ => none
def ltCs : LT := fun j s k => match j with
  | 1 => e_chS s k
  | _ => none
noncomputable def c_chO : Code := ((loopsOf (codeOf Try.f66))[0]?).getD .skip
def k_chO : Ex → List Nat := keeps [3, 7, 8, 9] [(0, [3])] [2]
def s_chO (ps : List Pt) : Nat × (List Pt) → St := fun (i, st) => ⟨(topV :: topV :: topV :: .slice (some ⟨1, 0, none⟩) st.length st.length :: topV :: topV :: topV :: .slice (some ⟨0, 0, none⟩) ps.length ps.length :: .int .i64 ps.length :: .int .i64 i :: topV :: topV :: topV :: topV :: topV :: topV :: topV :: topV :: topV :: topV :: topV :: topV :: topV :: topV :: topV :: topV :: topV :: topV :: topV :: topV :: topV :: topV :: topV :: topV :: topV :: topV :: topV :: topV :: topV :: topV :: topV :: topV :: topV :: topV :: []), [some ⟨.view, .ints (flat ps)⟩, some ⟨.row 30 2, .ints (flat st)⟩]⟩
def re_chO : Nat × (List Pt) → Ex := fun _ => .exit 0
def rs_chO (ps : List Pt) : Nat × (List Pt) → St := fun (i, st) => ⟨(topV :: topV :: topV :: .slice (some ⟨1, 0, none⟩) (chn st (ps.drop i)).length (chn st (ps.drop i)).length :: topV :: topV :: topV :: topV :: topV :: topV :: topV :: topV :: topV :: topV :: topV :: topV :: topV :: topV :: topV :: topV :: topV :: topV :: topV :: topV :: topV :: topV :: topV :: topV :: topV :: topV :: topV :: topV :: topV :: topV :: topV :: topV :: topV :: topV :: topV :: topV :: topV :: topV :: topV :: topV :: []), [some ⟨.view, .ints (flat ps)⟩, some ⟨.row 30 2, .ints (flat (chn st (ps.drop i)))⟩]⟩
set_option maxRecDepth 100000 in
theorem tr_chO (ps : List Pt) (i : Nat) (st : List Pt) : bodyL Try.prog ECh 30 12 ltCi 1 c_chO k_chO 16 (s_chO ps (i, st)) = brT (decide ((↑i : Int) < (↑ps.length : Int))) (.need ((0 : Int) ≤ (↑i : Int) ∧ (↑i : Int) < (↑ps.length : Int)) (.need ((0 : Nat) + (↑i : Int).toNat * (2 : Nat) + (2 : Nat) ≤ (flat ps).length) (.need ((↑st.length : Int) = (↑st.length : Int)) (.need ((↑ps.length : Int) = (↑ps.length : Int)) (.need ((0 : Int) ≤ (↑i : Int)) (.need ((flat st).length = st.length * (2 : Nat)) (.need (allV (ptsA st.length (flat st)) = true) (.need (ptB ((flat ps).getD ((0 : Nat) + (↑i : Int).toNat * (2 : Nat)) (0 : Int)) ((flat ps).getD ((0 : Nat) + (↑i : Int).toNat * (2 : Nat) + (1 : Nat)) (0 : Int)) = true) (.need (st.length ≤ (1000 : Nat)) (.need ((popN (ptsA st.length (flat st)) ((flat ps).getD ((0 : Nat) + (↑i : Int).toNat * (2 : Nat)) (0 : Int), (flat ps).getD ((0 : Nat) + (↑i : Int).toNat * (2 : Nat) + (1 : Nat)) (0 : Int)) st.length + (1 : Nat)) * (16 : Nat) ≤ (140737488355328 : Nat) ∧ popN (ptsA st.length (flat st)) ((flat ps).getD ((0 : Nat) + (↑i : Int).toNat * (2 : Nat)) (0 : Int), (flat ps).getD ((0 : Nat) + (↑i : Int).toNat * (2 : Nat) + (1 : Nat)) (0 : Int)) st.length + (1 : Nat) ≤ (1000000 : Nat)) (.need ((0 : Nat) + popN (ptsA st.length (flat st)) ((flat ps).getD ((0 : Nat) + (↑i : Int).toNat * (2 : Nat)) (0 : Int), (flat ps).getD ((0 : Nat) + (↑i : Int).toNat * (2 : Nat) + (1 : Nat)) (0 : Int)) st.length * (2 : Nat) ≤ (flat st).length) (.leaf .normal ⟨(topV :: topV :: topV :: .slice (some ⟨4, 0, none⟩) (popN (ptsA st.length (flat st)) ((flat ps).getD (0 + (↑i : Int).toNat * (2 : Nat)) 0, (flat ps).getD (0 + (↑i : Int).toNat * (2 : Nat) + 1) 0) st.length + 1) (popN (ptsA st.length (flat st)) ((flat ps).getD (0 + (↑i : Int).toNat * (2 : Nat)) 0, (flat ps).getD (0 + (↑i : Int).toNat * (2 : Nat) + 1) 0) st.length + 1) :: topV :: topV :: topV :: .slice (some ⟨0, 0, none⟩) (ps.length) (ps.length) :: .int .i64 ((↑ps.length : Int)) :: .int .i64 (IntKind.i64.wrap ((↑i : Int) + 1)) :: topV :: topV :: topV :: topV :: topV :: topV :: topV :: topV :: topV :: topV :: topV :: topV :: topV :: topV :: topV :: topV :: topV :: topV :: topV :: topV :: topV :: topV :: topV :: topV :: topV :: topV :: topV :: topV :: topV :: topV :: topV :: topV :: topV :: topV :: []), [some ⟨.view, .ints (flat ps)⟩, some deadB, some ⟨.box, .vals [.int .i64 ((flat ps).getD (0 + (↑i : Int).toNat * 2) 0), .int .i64 ((flat ps).getD (0 + (↑i : Int).toNat * 2 + 1) 0)]⟩, some ⟨.row 30 2, .vals [.int .i64 ((flat ps).getD (0 + (↑i : Int).toNat * 2) 0), .int .i64 ((flat ps).getD (0 + (↑i : Int).toNat * 2 + 1) 0)]⟩, some ⟨.row 30 2, .ints (List.take (popN (ptsA st.length (flat st)) ((flat ps).getD (0 + (↑i : Int).toNat * (2 : Nat)) 0, (flat ps).getD (0 + (↑i : Int).toNat * (2 : Nat) + 1) 0) st.length * 2) (List.drop 0 (flat st)) ++ [(flat ps).getD (0 + (↑i : Int).toNat * 2) 0, (flat ps).getD (0 + (↑i : Int).toNat * 2 + 1) 0])⟩]⟩)))))))))))) (.leaf (.exit 0) ⟨(topV :: topV :: topV :: .slice (some ⟨1, 0, none⟩) (st.length) (st.length) :: topV :: topV :: topV :: topV :: topV :: topV :: topV :: topV :: topV :: topV :: topV :: topV :: topV :: topV :: topV :: topV :: topV :: topV :: topV :: topV :: topV :: topV :: topV :: topV :: topV :: topV :: topV :: topV :: topV :: topV :: topV :: topV :: topV :: topV :: topV :: topV :: topV :: topV :: topV :: topV :: []), [some ⟨.view, .ints (flat ps)⟩, some ⟨.row 30 2, .ints (flat st)⟩]⟩) := by kernel_rfl
def inv_chO (ps : List Pt) : Nat × (List Pt) → Prop := fun (i, st) => i ≤ ps.length ∧ st.length ≤ i ∧ allV st = true
def me_chO (ps : List Pt) : Nat × (List Pt) → Nat := fun (i, st) => ps.length - i
/-- A round of this loop. -/
def Round_chO (ps : List Pt) : Prop := ∀ xx : Nat × (List Pt), inv_chO ps xx → (bodyL Try.prog ECh 30 12 ltCi 1 c_chO k_chO 16 (s_chO ps xx)).ok (RoundEnd 1 (s_chO ps) (inv_chO ps) (me_chO ps) re_chO (rs_chO ps) xx) (fun _ _ => False)
def e_chO (s : St) (k : Ex → St → Tree) : Option Tree := match Nat.beq s.tmps.length 44, pickL s.tmps [3, 7, 8, 9], s.mem with
  | true, [.slice none 0 0, .slice (some ⟨0, 0, none⟩) n _, .int .i64 n1, .int .i64 i], [some ⟨.view, .ints xs⟩] => some (needs [i = 0, n1 = n, xs.length = n * 2, allV (ptsA n xs) = true, n ≤ 1000] (k (.exit 0) ⟨(topV :: topV :: topV :: .slice (some ⟨1, 0, none⟩) (chn [] (ptsA n xs)).length (chn [] (ptsA n xs)).length :: topV :: topV :: topV :: topV :: topV :: topV :: topV :: topV :: topV :: topV :: topV :: topV :: topV :: topV :: topV :: topV :: topV :: topV :: topV :: topV :: topV :: topV :: topV :: topV :: topV :: topV :: topV :: topV :: topV :: topV :: topV :: topV :: topV :: topV :: topV :: topV :: topV :: topV :: topV :: topV :: []), [some ⟨.view, .ints xs⟩, some ⟨.row 30 2, .ints (flat (chn [] (ptsA n xs)))⟩]⟩))
  | _, _, _ => none
noncomputable def c_chP : Code := ((loopsOf (codeOf Try.f126))[0]?).getD .skip
def k_chP : Ex → List Nat := keeps [0, 3, 4] [(0, [3])] [2]
def s_chP (ps : List Pt) : Nat × (List Pt) → St := fun (i, st) => ⟨(.slice (some ⟨0, 0, none⟩) ps.length ps.length :: topV :: topV :: .slice (some ⟨2, 0, none⟩) st.length st.length :: .int .i64 i :: topV :: topV :: topV :: topV :: topV :: topV :: topV :: topV :: topV :: topV :: topV :: topV :: topV :: topV :: topV :: topV :: topV :: topV :: topV :: topV :: topV :: topV :: topV :: topV :: topV :: topV :: topV :: topV :: topV :: topV :: topV :: topV :: topV :: topV :: topV :: topV :: topV :: topV :: topV :: topV :: topV :: topV :: topV :: []), [some ⟨.view, .ints (flat ps)⟩, some ⟨.dead, .vals []⟩, some ⟨.row 30 2, .ints (flat st)⟩]⟩
def re_chP : Nat × (List Pt) → Ex := fun _ => .exit 0
def rs_chP (ps : List Pt) : Nat × (List Pt) → St := fun (i, st) => ⟨(topV :: topV :: topV :: .slice (some ⟨2, 0, none⟩) (chn st (ps.drop i)).length (chn st (ps.drop i)).length :: topV :: topV :: topV :: topV :: topV :: topV :: topV :: topV :: topV :: topV :: topV :: topV :: topV :: topV :: topV :: topV :: topV :: topV :: topV :: topV :: topV :: topV :: topV :: topV :: topV :: topV :: topV :: topV :: topV :: topV :: topV :: topV :: topV :: topV :: topV :: topV :: topV :: topV :: topV :: topV :: topV :: topV :: topV :: topV :: []), [some ⟨.view, .ints (flat ps)⟩, some ⟨.dead, .vals []⟩, some ⟨.row 30 2, .ints (flat (chn st (ps.drop i)))⟩]⟩
set_option maxRecDepth 100000 in
theorem tr_chP (ps : List Pt) (i : Nat) (st : List Pt) : bodyL Try.prog ECh 30 12 ltCs 1 c_chP k_chP 16 (s_chP ps (i, st)) = brT (decide ((↑i : Int) < (↑ps.length : Int))) (.need ((flat ps).length = ps.length * (2 : Nat)) (.need (allV (ptsA ps.length (flat ps)) = true) (.need ((0 : Int) ≤ (↑i : Int)) (.need ((↑i : Int) < (↑ps.length : Int)) (.need ((flat st).length = st.length * (2 : Nat)) (.need (allV (ptsA st.length (flat st)) = true) (.need (st.length ≤ (1000 : Nat)) (.need ((0 : Int) ≤ (↑i : Int) ∧ (↑i : Int) < (↑ps.length : Int)) (.need ((0 : Nat) + (↑i : Int).toNat * (2 : Nat) + (2 : Nat) ≤ (flat ps).length) (.need ((popN (ptsA st.length (flat st)) ((ptsA ps.length (flat ps)).getD (↑i : Int).toNat ((0 : Int), (0 : Int))) st.length + (1 : Nat)) * (16 : Nat) ≤ (140737488355328 : Nat) ∧ popN (ptsA st.length (flat st)) ((ptsA ps.length (flat ps)).getD (↑i : Int).toNat ((0 : Int), (0 : Int))) st.length + (1 : Nat) ≤ (1000000 : Nat)) (.need ((0 : Nat) + popN (ptsA st.length (flat st)) ((ptsA ps.length (flat ps)).getD (↑i : Int).toNat ((0 : Int), (0 : Int))) st.length * (2 : Nat) ≤ (flat st).length) (.leaf .normal ⟨(.slice (some ⟨0, 0, none⟩) (ps.length) (ps.length) :: topV :: topV :: .slice (some ⟨4, 0, none⟩) (popN (ptsA st.length (flat st)) ((ptsA ps.length (flat ps)).getD (↑i : Int).toNat (0, 0)) st.length + 1) (popN (ptsA st.length (flat st)) ((ptsA ps.length (flat ps)).getD (↑i : Int).toNat (0, 0)) st.length + 1) :: .int .i64 (IntKind.i64.wrap ((↑i : Int) + 1)) :: topV :: topV :: topV :: topV :: topV :: topV :: topV :: topV :: topV :: topV :: topV :: topV :: topV :: topV :: topV :: topV :: topV :: topV :: topV :: topV :: topV :: topV :: topV :: topV :: topV :: topV :: topV :: topV :: topV :: topV :: topV :: topV :: topV :: topV :: topV :: topV :: topV :: topV :: topV :: topV :: topV :: topV :: topV :: []), [some ⟨.view, .ints (flat ps)⟩, some deadB, some deadB, some ⟨.row 30 2, .vals [.int .i64 ((flat ps).getD (0 + (↑i : Int).toNat * 2) 0), .int .i64 ((flat ps).getD (0 + (↑i : Int).toNat * 2 + 1) 0)]⟩, some ⟨.row 30 2, .ints (List.take (popN (ptsA st.length (flat st)) ((ptsA ps.length (flat ps)).getD (↑i : Int).toNat (0, 0)) st.length * 2) (List.drop 0 (flat st)) ++ [(flat ps).getD (0 + (↑i : Int).toNat * 2) 0, (flat ps).getD (0 + (↑i : Int).toNat * 2 + 1) 0])⟩]⟩)))))))))))) (.leaf (.exit 0) ⟨(topV :: topV :: topV :: .slice (some ⟨2, 0, none⟩) (st.length) (st.length) :: topV :: topV :: topV :: topV :: topV :: topV :: topV :: topV :: topV :: topV :: topV :: topV :: topV :: topV :: topV :: topV :: topV :: topV :: topV :: topV :: topV :: topV :: topV :: topV :: topV :: topV :: topV :: topV :: topV :: topV :: topV :: topV :: topV :: topV :: topV :: topV :: topV :: topV :: topV :: topV :: topV :: topV :: topV :: topV :: []), [some ⟨.view, .ints (flat ps)⟩, some deadB, some ⟨.row 30 2, .ints (flat st)⟩]⟩) := by kernel_rfl
def inv_chP (ps : List Pt) : Nat × (List Pt) → Prop := fun (i, st) => i ≤ ps.length ∧ st.length ≤ i ∧ allV st = true
def me_chP (ps : List Pt) : Nat × (List Pt) → Nat := fun (i, st) => ps.length - i
/-- A round of this loop. -/
def Round_chP (ps : List Pt) : Prop := ∀ xx : Nat × (List Pt), inv_chP ps xx → (bodyL Try.prog ECh 30 12 ltCs 1 c_chP k_chP 16 (s_chP ps xx)).ok (RoundEnd 2 (s_chP ps) (inv_chP ps) (me_chP ps) re_chP (rs_chP ps) xx) (fun _ _ => False)
def e_chP (s : St) (k : Ex → St → Tree) : Option Tree := match Nat.beq s.tmps.length 48, pickL s.tmps [0, 3, 4], s.mem with
  | true, [.slice (some ⟨0, 0, none⟩) n _, .slice (some ⟨1, 0, none⟩) z _, .int .i64 i], [some ⟨.view, .ints xs⟩, some ⟨.row 30 2, .vals []⟩] => some (needs [i = 0, z = 0, xs.length = n * 2, allV (ptsA n xs) = true, n ≤ 1000] (k (.exit 0) ⟨(topV :: topV :: topV :: .slice (some ⟨2, 0, none⟩) (chn [] (ptsA n xs)).length (chn [] (ptsA n xs)).length :: topV :: topV :: topV :: topV :: topV :: topV :: topV :: topV :: topV :: topV :: topV :: topV :: topV :: topV :: topV :: topV :: topV :: topV :: topV :: topV :: topV :: topV :: topV :: topV :: topV :: topV :: topV :: topV :: topV :: topV :: topV :: topV :: topV :: topV :: topV :: topV :: topV :: topV :: topV :: topV :: topV :: topV :: topV :: topV :: []), [some ⟨.view, .ints xs⟩, some ⟨.dead, .vals []⟩, some ⟨.row 30 2, .ints (flat (chn [] (ptsA n xs)))⟩]⟩))
  | _, _, _ => none
set_option maxRecDepth 100000 in
theorem in_chO : loopsOf c_chO = [c_chI] := by kernel_rfl
theorem ltCi_good : LoopsGood Try.prog ltCi 1 c_chO := by
  intro i d hd s k t F H hlt ht
  rw [in_chO] at hd
  cases i with
  | zero =>
    obtain rfl : c_chI = d := by simpa using hd
    exact lg_chI s k t F H hlt ht
  | succ i => simp at hd
set_option maxRecDepth 100000 in
theorem in_chP : loopsOf c_chP = [c_chS] := by kernel_rfl
theorem ltCs_good : LoopsGood Try.prog ltCs 1 c_chP := by
  intro i d hd s k t F H hlt ht
  rw [in_chP] at hd
  cases i with
  | zero =>
    obtain rfl : c_chS = d := by simpa using hd
    exact lg_chS s k t F H hlt ht
  | succ i => simp at hd
theorem chn_step {ps st : List Pt} {i : Nat} (hi : i < ps.length) : chn st (ps.drop i) = chn (pushP st (ps.getD i (0, 0))) (ps.drop (i + 1)) := by rw [drop_cons hi (0, 0)]; rfl
theorem chn_end {ps st : List Pt} {i : Nat} (hi : ps.length ≤ i) : chn st (ps.drop i) = st := by rw [List.drop_of_length_le hi]; rfl
set_option maxRecDepth 100000 in
theorem round_chO (ps : List Pt) (hp : allV ps = true) (h : ps.length ≤ 1000) : Round_chO ps := by
  rintro ⟨i, st⟩ ⟨h1, h2, h3⟩
  rw [tr_chO]
  simp only [ptsA_flat, Int.toNat_natCast, Nat.zero_add, flat_get0, flat_get1, flat_length, List.drop_zero, flat_take, flat_snoc]
  refine brT_ok.2 ⟨fun hlt => ?_, fun hge => ?_⟩
  · have hi : i < ps.length := by have := of_decide_eq_true hlt; omega
    have hk : popN st ((ps.getD i (0, 0)).1, (ps.getD i (0, 0)).2) st.length ≤ st.length := popN_le st _ _
    have el : popN st ((ps.getD i (0, 0)).1, (ps.getD i (0, 0)).2) st.length + 1 = (pushP st (ps.getD i (0, 0))).length := (pushP_len1 st _).symm
    refine ⟨by omega, by omega, by first | exact True.intro | rfl, by first | exact True.intro | rfl, by omega, by first | exact True.intro | rfl, h3, allV_at hp hi, by omega, ⟨by omega, by omega⟩, by omega, ?_⟩
    rw [wsucc hi (by omega), el]
    refine ⟨(i + 1, pushP st (ps.getD i (0, 0))), [some 4], ⟨by omega, by omega, allV_push h3 (allV_at hp hi)⟩, ?_, rfl, by simp only [rs_chO, chn_step hi], ?_⟩
    · show ps.length - (i + 1) < ps.length - i; omega
    · repeat' (first | exact True.intro | exact rfl | exact fun _ => rfl | (simp; done) | refine And.intro ?_ ?_)
  · have hge := of_decide_eq_false hge
    refine ⟨rfl, [some 1], ?_⟩
    simp only [rs_chO, chn_end (ps := ps) (st := st) (i := i) (by omega)]
    repeat' (first | exact True.intro | exact rfl | exact fun _ => rfl | (simp; done) | refine And.intro ?_ ?_)
set_option maxRecDepth 100000 in
theorem lg_chO : LoopE Try.prog e_chO c_chO := by
  intro s k t F H hlt ht
  unfold e_chO at hlt
  split at hlt
  rotate_left
  · cases hlt
  rename_i hlen hpick hmem
  obtain ⟨tmps, mem⟩ := s
  simp only at hlen hpick hmem
  subst hmem
  obtain rfl := Option.some.inj hlt
  obtain ⟨⟨rfl, rfl, h1, h2, h3, _⟩, ht2⟩ := needs_ok ht
  clear ht hlt
  obtain ⟨ps, rfl, rfl⟩ := even_flat h1
  rw [ptsA_flat] at ht2 h2
  refine ⟨_, _, ht2, loop_run2 mixed ECh_ok (s_chO ps) (inv_chO ps) (me_chO ps) re_chO (rs_chO ps) k_chO (fun _ => rfl) ltCi_good (round_chO ps h2 h3) (x := (0, [])) ⟨Nat.zero_le _, Nat.le_refl _, rfl⟩ (π := [none]) rfl ?_⟩
  refine ⟨rfl, rfl, ?_, wvs_spread' [3, 7, 8, 9] hlen rfl ?_⟩
  · repeat' (first | exact True.intro | exact rfl | exact wv_top _ _ | exact fun _ => rfl | assumption | exact Eq.symm (by assumption) | exact vI0 rfl | refine And.intro ?_ ?_)
  · rw [hpick]
    repeat' (first | exact True.intro | exact rfl | exact wv_top _ _ | exact fun _ => rfl | assumption | exact Eq.symm (by assumption) | exact vI0 rfl | refine And.intro ?_ ?_)
set_option maxRecDepth 100000 in
theorem round_chP (ps : List Pt) (hp : allV ps = true) (h : ps.length ≤ 1000) : Round_chP ps := by
  rintro ⟨i, st⟩ ⟨h1, h2, h3⟩
  rw [tr_chP]
  simp only [ptsA_flat, Int.toNat_natCast, Nat.zero_add, flat_get0, flat_get1, flat_length, List.drop_zero, flat_take, flat_snoc]
  refine brT_ok.2 ⟨fun hlt => ?_, fun hge => ?_⟩
  · have hi : i < ps.length := by have := of_decide_eq_true hlt; omega
    have hk : popN st (ps.getD i (0, 0)) st.length ≤ st.length := popN_le st _ _
    have el : popN st (ps.getD i (0, 0)) st.length + 1 = (pushP st (ps.getD i (0, 0))).length := (pushP_len1 st _).symm
    refine ⟨by first | exact True.intro | rfl, hp, by omega, by omega, by first | exact True.intro | rfl, h3, by omega, by omega, by omega, ⟨by omega, by omega⟩, by omega, ?_⟩
    rw [wsucc hi (by omega), el]
    refine ⟨(i + 1, pushP st (ps.getD i (0, 0))), [some 4], ⟨by omega, by omega, allV_push h3 (allV_at hp hi)⟩, ?_, rfl, by simp only [rs_chP, chn_step hi], ?_⟩
    · show ps.length - (i + 1) < ps.length - i; omega
    · repeat' (first | exact True.intro | exact rfl | exact fun _ => rfl | (simp; done) | refine And.intro ?_ ?_)
  · have hge := of_decide_eq_false hge
    refine ⟨rfl, [some 2], ?_⟩
    simp only [rs_chP, chn_end (ps := ps) (st := st) (i := i) (by omega)]
    repeat' (first | exact True.intro | exact rfl | exact fun _ => rfl | (simp; done) | refine And.intro ?_ ?_)
set_option maxRecDepth 100000 in
theorem lg_chP : LoopE Try.prog e_chP c_chP := by
  intro s k t F H hlt ht
  unfold e_chP at hlt
  split at hlt
  rotate_left
  · cases hlt
  rename_i hlen hpick hmem
  obtain ⟨tmps, mem⟩ := s
  simp only at hlen hpick hmem
  subst hmem
  obtain rfl := Option.some.inj hlt
  obtain ⟨⟨rfl, rfl, h1, h2, h3, _⟩, ht2⟩ := needs_ok ht
  clear ht hlt
  obtain ⟨ps, rfl, rfl⟩ := even_flat h1
  rw [ptsA_flat] at ht2 h2
  refine ⟨_, _, ht2, loop_run2 mixed ECh_ok (s_chP ps) (inv_chP ps) (me_chP ps) re_chP (rs_chP ps) k_chP (fun _ => rfl) ltCs_good (round_chP ps h2 h3) (x := (0, [])) ⟨Nat.zero_le _, Nat.le_refl _, rfl⟩ (π := [some 1]) rfl ?_⟩
  refine ⟨rfl, rfl, ?_, wvs_spread' [0, 3, 4] hlen rfl ?_⟩
  · repeat' (first | exact True.intro | exact rfl | exact wv_top _ _ | exact fun _ => rfl | assumption | exact Eq.symm (by assumption) | exact vI0 rfl | refine And.intro ?_ ?_)
  · rw [hpick]
    repeat' (first | exact True.intro | exact rfl | exact wv_top _ _ | exact fun _ => rfl | assumption | exact Eq.symm (by assumption) | exact vI0 rfl | refine And.intro ?_ ?_)
theorem Lr_chO {fn : Func} (hf : Try.prog.funcs[66]? = some fn) : LoopsGood Try.prog (lt1 e_chO) 0 (codeOf fn) := by
  obtain rfl := fn_is Try.func66 hf
  exact lt1_good lg_chO
theorem Lr_chP {fn : Func} (hf : Try.prog.funcs[126]? = some fn) : LoopsGood Try.prog (lt1 e_chP) 0 (codeOf fn) := by
  obtain rfl := fn_is Try.func126 hf
  exact lt1_good lg_chP
def LCn : FuncId → LT := fun f => match f with
  | 66 => lt1 e_chO
  | 126 => lt1 e_chP
  | _ => noL
def ECn : Env := mkE TCh RSq LCn
theorem ECn_ok : EnvOk Try.prog ECn := mkEOk TCh_ok RSq_ok (by
  intro f fn hf
  unfold LCn
  split
  all_goals first | with_reducible exact Lr_chO hf | with_reducible exact Lr_chP hf | exact noL_good)
set_option maxRecDepth 100000 in
theorem tr_iCn (ps : List Pt) : bodyX Try.prog ECn 30 12 66 [.row ps.length (.ints (flat ps))] = .need ((0 : Int) = (0 : Int)) (.need ((↑ps.length : Int) = (↑ps.length : Int)) (.need ((flat ps).length = ps.length * (2 : Nat)) (.need (allV (ptsA ps.length (flat ps)) = true) (.need (ps.length ≤ (1000 : Nat)) (.fin (.slice (some ⟨1, 0, none⟩) ((chn [] (ptsA ps.length (flat ps))).length) ((chn [] (ptsA ps.length (flat ps))).length)) [some ⟨.view, .ints (flat ps)⟩, some ⟨.row 30 2, .ints (flat (chn [] (ptsA ps.length (flat ps))))⟩]))))) := by kernel_rfl
set_option maxRecDepth 100000 in
theorem tr_sCn (ps : List Pt) : bodyX Try.prog ECn 30 12 126 [.row ps.length (.ints (flat ps))] = .need ((0 : Int) = (0 : Int)) (.need ((0 : Nat) = (0 : Nat)) (.need ((flat ps).length = ps.length * (2 : Nat)) (.need (allV (ptsA ps.length (flat ps)) = true) (.need (ps.length ≤ (1000 : Nat)) (.fin (.slice (some ⟨2, 0, none⟩) ((chn [] (ptsA ps.length (flat ps))).length) ((chn [] (ptsA ps.length (flat ps))).length)) [some ⟨.view, .ints (flat ps)⟩, some deadB, some ⟨.row 30 2, .ints (flat (chn [] (ptsA ps.length (flat ps))))⟩]))))) := by kernel_rfl
theorem resR_iCn {ps : List Pt} (hv : allV ps = true) (h : ps.length ≤ 1000) : ResR Try.prog 66 [.row ps.length (.ints (flat ps))] (rowP (chn [] ps)) (blkP (chn [] ps)) := by
  refine bodyX_resR mixed ECn_ok (m := 30) (n := 12) rfl ?_
  rw [tr_iCn]
  simp only [ptsA_flat]
  exact ⟨trivial, trivial, flat_length ps, hv, h, some 1, ⟨rfl, rfl, rfl⟩, rfl, rfl, rfl⟩
theorem resR_sCn {ps : List Pt} (hv : allV ps = true) (h : ps.length ≤ 1000) : ResR Try.prog 126 [.row ps.length (.ints (flat ps))] (rowP (chn [] ps)) (blkP (chn [] ps)) := by
  refine bodyX_resR mixed ECn_ok (m := 30) (n := 12) rfl ?_
  rw [tr_sCn]
  simp only [ptsA_flat]
  exact ⟨trivial, trivial, flat_length ps, hv, h, some 2, ⟨rfl, rfl, rfl⟩, rfl, rfl, rfl⟩
end Go.Proofs.Ytnjmepbblcfnfaa
