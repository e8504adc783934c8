/-
  Texts that the proof needs, merged. Written by an AI agent.
-/
import Derived.Orders
import Derived.Below
import Derived.OrdersIn
import Derived.Deep.LoopGhost
import Derived.WalkKit
import Derived.Laws.CopyRow
import Derived.Laws.AppendOwn
import Derived.Laws.Slices
import Derived.Laws.MakeOwn
import Derived.Test.YtnlciknmpjikgaaRows
import Derived.ProofKit
import Derived.OpenShut
import Derived.Carry
import Derived.IntWalk
import Derived.Test.YtnlciknmpjikgaaProg
import Derived.WalkSpells
import Derived.WalkLawsBesides
import Derived.Lib.Hide
import Derived.Deep.QuietTactic
import Derived.BigQuiet
import Derived.KernelRfl
import Derived.Deep.RegionHeld3
import Derived.LoopTactic
import Derived.Laws.StructEq
import Derived.Laws.Tables
import Derived.RangeFuncNested
import Derived.RangeFuncLeaves
import Derived.Deep.Slices
import Derived.Deep.Fields
import Derived.ChangeSame
import Derived.Test.YtnlciknmpjikgaaZExactCheckSpanning4
namespace Go.Proofs.Ytnlciknmpjikgaa
set_option linter.all false
open Go.RowKit
/-- Equal groups are not parted by what no short edge parts. -/
theorem lb_sound {ps : List Pt} {m : Int} {S : Nat → Prop} : ∀ {es : List Pt} {L : Nat → Nat}, (∀ e ∈ es, edL ps e ≤ m → (S e.1.toNat ↔ S e.2.toNat)) → (∀ x y, L x = L y → (S x ↔ S y)) → ∀ x y, lbF ps m es L x = lbF ps m es L y → (S x ↔ S y)
  | [], L, _, hL, x, y, h => hL x y h
  | e :: t, L, he, hL, x, y, h => by
    refine lb_sound (es := t) (fun e' he' => he e' (List.mem_cons_of_mem _ he')) (fun x y hxy => ?_) x y h
    by_cases c : edL ps e ≤ m
    · have hs := he e (List.mem_cons_self ..) c
      rw [if_pos c] at hxy
      by_cases cx : L x = L e.1.toNat
      · by_cases cy : L y = L e.1.toNat
        · exact hL x y (cx.trans cy.symm)
        · simp only [cx, cy, if_true, if_false] at hxy
          exact (hL _ _ cx).trans (hs.trans (hL _ _ hxy))
      · by_cases cy : L y = L e.1.toNat
        · simp only [cx, cy, if_true, if_false] at hxy
          exact ((hL _ _ cy).trans (hs.trans (hL _ _ hxy.symm))).symm
        · simp only [cx, cy, if_false] at hxy
          exact hL x y hxy
    · rw [if_neg c] at hxy
      exact hL x y hxy
theorem lb_keep {ps : List Pt} {m : Int} {x y : Nat} : ∀ {es : List Pt} {L : Nat → Nat}, L x = L y → lbF ps m es L x = lbF ps m es L y
  | [], _, h => h
  | e :: t, L, h => by
    refine lb_keep (es := t) ?_
    split
    · simp only [h]
    · exact h
/-- The ends of a short edge are in one group. -/
theorem lb_edge {ps : List Pt} {m : Int} {e : Pt} (c : edL ps e ≤ m) : ∀ {es : List Pt} {L : Nat → Nat}, e ∈ es → lbF ps m es L e.1.toNat = lbF ps m es L e.2.toNat
  | [], _, h => (by cases h)
  | f :: t, L, h => by
    rcases List.mem_cons.1 h with rfl | h
    · refine lb_keep (es := t) ?_
      rw [if_pos c]
      simp only [if_true]
      split
      · rfl
      · rfl
    · exact lb_edge c (es := t) h
theorem stA_sub {r a b x : Int} {o : List Int} (h : x ∈ o) : x ∈ stA r a b o := by
  unfold stA
  split
  · simp [h]
  · exact h
theorem stA_pre {r a b : Int} {o : List Int} {j : Nat} (h : j < o.length) : (stA r a b o).getD j 0 = o.getD j 0 := by
  unfold stA
  split
  · simp [List.getD_eq_getElem?_getD, List.getElem?_append_left h]
  · rfl
theorem stA_add {r a b : Int} {o : List Int} (h : a = r) : b ∈ stA r a b o := by
  unfold stA
  split
  · simp
  · rename_i c
    refine Classical.byContradiction fun hn => c ⟨h, pl_mem.2 hn⟩
theorem stA_mem {r a b x : Int} {o : List Int} (h : x ∈ stA r a b o) : x ∈ o ∨ (x = b ∧ a = r) := by
  unfold stA at h
  split at h
  · rename_i c
    rcases List.mem_append.1 h with h | h
    · exact .inl h
    · exact .inr ⟨by simpa using h, c.1⟩
  · exact .inl h
/-- Closed under the short edges at a place. -/
def clo (ps : List Pt) (m r : Int) (e : Pt) (o : List Int) : Prop := edL ps e ≤ m → (e.1 = r → e.2 ∈ o) ∧ (e.2 = r → e.1 ∈ o)
theorem stE_spec {ps : List Pt} {m : Int} {i : Nat} {e : Pt} {o : List Int} : (∀ x ∈ o, x ∈ stE ps m i e o) ∧ (∀ j, j < o.length → (stE ps m i e o).getD j 0 = o.getD j 0) ∧ clo ps m (o.getD i 0) e (stE ps m i e o) ∧ o.length ≤ (stE ps m i e o).length ∧ ∀ x ∈ stE ps m i e o, x ∈ o ∨ (edL ps e ≤ m ∧ ((x = e.2 ∧ e.1 = o.getD i 0) ∨ (x = e.1 ∧ e.2 = o.getD i 0))) := by
  unfold stE clo
  split
  · rename_i c
    exact ⟨fun x h => h, fun j _ => rfl, fun h => by omega, Nat.le_refl _, fun x h => .inl h⟩
  · rename_i c
    refine ⟨fun x h => stA_sub (stA_sub h), fun j hj => ?_, fun _ => ⟨fun h => stA_sub (stA_add h), fun h => stA_add h⟩, Nat.le_trans (stA_len ..) (stA_len ..), fun x h => ?_⟩
    · rw [stA_pre (Nat.lt_of_lt_of_le hj (stA_len ..)), stA_pre hj]
    · rcases stA_mem h with h | h
      · rcases stA_mem h with h | h
        · exact .inl h
        · exact .inr ⟨by omega, .inl h⟩
      · exact .inr ⟨by omega, .inr h⟩
theorem inE_spec {ps : List Pt} {m : Int} {i : Nat} : ∀ {es : List Pt} {o : List Int}, i < o.length → (∀ x ∈ o, x ∈ inE ps m i es o) ∧ (∀ j, j < o.length → (inE ps m i es o).getD j 0 = o.getD j 0) ∧ (∀ e ∈ es, clo ps m (o.getD i 0) e (inE ps m i es o)) ∧ ∀ C : Int → Prop, (∀ e ∈ es, edL ps e ≤ m → (C e.1 ↔ C e.2)) → (∀ x ∈ o, C x) → ∀ x ∈ inE ps m i es o, C x
  | [], o, _ => ⟨fun x h => h, fun j _ => rfl, fun e h => (by cases h), fun C _ h => h⟩
  | e :: t, o, hi => by
    obtain ⟨s1, s2, s3, s4, s5⟩ := stE_spec (ps := ps) (m := m) (i := i) (e := e) (o := o)
    obtain ⟨q1, q2, q3, q4⟩ := inE_spec (ps := ps) (m := m) (i := i) (es := t) (o := stE ps m i e o) (by omega)
    have gi := s2 i hi
    refine ⟨fun x h => q1 x (s1 x h), fun j hj => (q2 j (by omega)).trans (s2 j hj), fun f hf => ?_, fun C hC ho => ?_⟩
    · rcases List.mem_cons.1 hf with rfl | hf
      · intro c
        exact ⟨fun h => q1 _ ((s3 c).1 h), fun h => q1 _ ((s3 c).2 h)⟩
      · have := q3 f hf
        rw [gi] at this
        exact this
    · refine q4 C (fun f hf => hC f (List.mem_cons_of_mem _ hf)) fun x hx => ?_
      have hr : C (o.getD i 0) := ho _ (by simp [List.getD_eq_getElem?_getD, hi])
      rcases s5 x hx with h | ⟨c, h | h⟩
      · exact ho x h
      · have := hC e (List.mem_cons_self ..) c
        rw [h.1]
        exact this.1 (by rw [h.2]; exact hr)
      · have := hC e (List.mem_cons_self ..) c
        rw [h.1]
        exact this.2 (by rw [h.2]; exact hr)
theorem bfE_spec {n : Nat} {ps es : List Pt} {m : Int} (he : evA n es = true) : ∀ {f i : Nat} {o : List Int}, Goo n o → n ≤ i + f → (∀ j, j < i → j < o.length → ∀ e ∈ es, clo ps m (o.getD j 0) e o) →
    (∀ x ∈ o, x ∈ bfE ps es m f i o) ∧ (∀ r ∈ bfE ps es m f i o, ∀ e ∈ es, clo ps m r e (bfE ps es m f i o)) ∧ ∀ C : Int → Prop, (∀ e ∈ es, edL ps e ≤ m → (C e.1 ↔ C e.2)) → (∀ x ∈ o, C x) → ∀ x ∈ bfE ps es m f i o, C x
  | 0, i, o, hg, hn, hp => by
    have := goo_len hg
    refine ⟨fun x h => h, fun r hr e hee => ?_, fun C _ h => h⟩
    have hr : r ∈ o := hr
    obtain ⟨j, hj, e1⟩ := List.getElem_of_mem hr
    have := hp j (by omega) hj e hee
    rw [show o.getD j 0 = r by simp [hj, e1]] at this
    exact this
  | f + 1, i, o, hg, hn, hp => by
    simp only [bfE]
    split
    · rename_i hi
      obtain ⟨q1, q2, q3, q4⟩ := inE_spec (ps := ps) (m := m) (es := es) hi
      obtain ⟨g1, g2⟩ := inE_goo (ps := ps) (m := m) (i := i) hg he
      obtain ⟨r1, r2, r3⟩ := bfE_spec he (f := f) (i := i + 1) g1 (by omega) fun j hj hjl e hee => by
        by_cases ej : j = i
        · rw [ej, q2 i hi]
          exact q3 e hee
        · rw [q2 j (by omega)]
          have := hp j (by omega) (by omega) e hee
          intro c
          exact ⟨fun h => q1 _ ((this c).1 h), fun h => q1 _ ((this c).2 h)⟩
      exact ⟨fun x h => r1 x (q1 x h), r2, fun C hC h => r3 C hC (q4 C hC h)⟩
    · rename_i hi
      refine ⟨fun x h => h, fun r hr e hee => ?_, fun C _ h => h⟩
      obtain ⟨j, hj, e1⟩ := List.getElem_of_mem hr
      have := hp j (by omega) hj e hee
      rw [show o.getD j 0 = r by simp [hj, e1]] at this
      exact this
/-- Reached just if in the same group. -/
theorem lk_iff {n : Nat} {ps es : List Pt} {m : Int} (he : evA n es = true) {a b : Nat} (ha : a < n) : (b : Int) ∈ bfE ps es m n 0 [(a : Int)] ↔ lbF ps m es id a = lbF ps m es id b := by
  obtain ⟨q1, q2, q3⟩ := bfE_spec (ps := ps) (m := m) he (f := n) (i := 0) (o := [(a : Int)]) (goo_one (by omega)) (by omega) fun j hj => by omega
  have ev : ∀ e ∈ es, (e.1.toNat : Int) = e.1 ∧ (e.2.toNat : Int) = e.2 := fun e hee => by
    have := List.all_eq_true.1 he e hee
    simp only [evB, Bool.and_eq_true, decide_eq_true_eq] at this
    omega
  constructor
  · intro h
    have := q3 (fun x => lbF ps m es id x.toNat = lbF ps m es id a) (fun e hee c => by rw [lb_edge c hee]) (fun x hx => by
      simp only [List.mem_singleton] at hx
      subst hx
      rw [Int.toNat_natCast]) _ h
    simp only [Int.toNat_natCast] at this
    exact this.symm
  · intro h
    have := lb_sound (ps := ps) (m := m) (es := es) (L := id) (S := fun x => (x : Int) ∈ bfE ps es m n 0 [(a : Int)]) (fun e hee c => by
      rw [(ev e hee).1, (ev e hee).2]
      exact ⟨fun hx => (q2 _ hx e hee c).1 rfl, fun hx => (q2 _ hx e hee c).2 rfl⟩) (fun x y hxy => by
      have hxy : x = y := hxy
      rw [hxy]) a b h
    exact this.1 (q1 _ (by simp))
/-- How many of so many numbers pass. -/
def rcN (p : Nat → Bool) : Nat → Nat
  | 0 => 0
  | n + 1 => rcN p n + (bif p n then 1 else 0)
theorem rcN_le {p q : Nat → Bool} {c : Nat} : ∀ {n : Nat}, (∀ x, x < n → p x = true → q x = true ∨ x = c) → rcN p n ≤ rcN q n + (if c < n then 1 else 0)
  | 0, _ => Nat.zero_le _
  | n + 1, h => by
    have ih := rcN_le (p := p) (q := q) (c := c) (n := n) fun x hx => h x (by omega)
    simp only [rcN]
    rcases hp : p n with _ | _
    · simp only [cond_false]
      split at ih <;> split <;> omega
    · rcases h n (by omega) hp with hq | hq
      · rw [hq]
        split at ih <;> split <;> omega
      · simp only [cond_true]
        rw [if_neg (by omega)] at ih
        rw [if_pos (by omega)]
        omega
theorem rcN_zero : ∀ n : Nat, rcN (fun _ => false) n = 0
  | 0 => rfl
  | n + 1 => by simp only [rcN, rcN_zero n, cond_false]
theorem rcN_all {p : Nat → Bool} : ∀ {n : Nat}, (∀ x, x < n → p x = true) → rcN p n = n
  | 0, _ => rfl
  | n + 1, h => by simp only [rcN, rcN_all (n := n) fun x hx => h x (by omega), h n (by omega), cond_true]
/-- How many edges have two ends. -/
def nlE : List Pt → Nat
  | [] => 0
  | e :: t => (if e.1 = e.2 then 0 else 1) + nlE t
theorem nlE_le : ∀ es : List Pt, nlE es ≤ es.length
  | [] => Nat.le_refl _
  | e :: t => by
    have := nlE_le t
    simp only [nlE, List.length_cons]
    split <;> omega
theorem nlE_all : ∀ {es : List Pt}, es.length ≤ nlE es → ∀ e ∈ es, e.1 ≠ e.2
  | [], _, e, h => (by cases h)
  | f :: t, hl, e, h => by
    have := nlE_le t
    simp only [nlE, List.length_cons] at hl
    rcases List.mem_cons.1 h with rfl | h
    · intro c
      rw [if_pos c] at hl
      omega
    · exact nlE_all (es := t) (by split at hl <;> omega) e h
theorem lb_count {n : Nat} {ps : List Pt} {m : Int} : ∀ {es : List Pt} {L : Nat → Nat}, evA n es = true → (∀ x, x < n → L x < n ∧ L (L x) = L x) → (∀ x, x < n → lbF ps m es L x < n ∧ lbF ps m es L (lbF ps m es L x) = lbF ps m es L x) ∧ rcN (fun x => decide (L x = x)) n ≤ rcN (fun x => decide (lbF ps m es L x = x)) n + nlE es
  | [], L, _, hL => ⟨hL, Nat.le_refl _⟩
  | e :: t, L, he, hL => by
    unfold evA at he
    simp only [List.all_cons, Bool.and_eq_true] at he
    have e1 := he.1
    simp only [evB, Bool.and_eq_true, decide_eq_true_eq] at e1
    by_cases c : edL ps e ≤ m
    rotate_left
    · have q := lb_count (ps := ps) (m := m) (es := t) he.2 hL
      simp only [lbF, if_neg c, nlE]
      exact ⟨q.1, by split <;> omega⟩
    obtain ⟨u1, u2⟩ := hL e.1.toNat (by omega)
    obtain ⟨v1, v2⟩ := hL e.2.toNat (by omega)
    have hL' : ∀ x, x < n → (if L x = L e.1.toNat then L e.2.toNat else L x) < n ∧ (if L (if L x = L e.1.toNat then L e.2.toNat else L x) = L e.1.toNat then L e.2.toNat else L (if L x = L e.1.toNat then L e.2.toNat else L x)) = (if L x = L e.1.toNat then L e.2.toNat else L x) := fun x hx => by
      obtain ⟨w1, w2⟩ := hL x hx
      by_cases cx : L x = L e.1.toNat
      · simp only [if_pos cx, v2]
        refine ⟨v1, ?_⟩
        split <;> rfl
      · simp only [if_neg cx, w2]
        exact ⟨w1, trivial⟩
    have q := lb_count (ps := ps) (m := m) (es := t) (L := fun x => if L x = L e.1.toNat then L e.2.toNat else L x) he.2 hL'
    simp only [lbF, if_pos c, nlE]
    refine ⟨q.1, ?_⟩
    have q2 := q.2
    by_cases cl : e.1 = e.2
    · rw [if_pos cl]
      have : (fun x => decide ((if L x = L e.1.toNat then L e.2.toNat else L x) = x)) = fun x => decide (L x = x) := by
        funext x
        rw [cl]
        by_cases cx : L x = L e.2.toNat
        · rw [if_pos cx, cx]
        · rw [if_neg cx]
      rw [this] at q2
      omega
    · rw [if_neg cl]
      have := rcN_le (p := fun x => decide (L x = x)) (q := fun x => decide ((if L x = L e.1.toNat then L e.2.toNat else L x) = x)) (c := L e.1.toNat) (n := n) fun x _ hx => by
        have hx : L x = x := of_decide_eq_true hx
        by_cases cx : L x = L e.1.toNat
        · exact .inr (by rw [← hx]; exact cx)
        · left
          rw [if_neg cx]
          exact decide_eq_true hx
      rw [if_pos u1] at this
      omega
/-- A spanning tree has no edge from an index to itself. -/
theorem no_loops {n : Nat} {ps es : List Pt} {m : Int} (he : evA n es = true) (hl : es.length = n - 1) (h0 : 0 < n) (hall : ∀ x y, x < n → y < n → lbF ps m es id x = lbF ps m es id y) : ∀ e ∈ es, e.1 ≠ e.2 := by
  have q := (lb_count (ps := ps) (m := m) (es := es) (L := id) he fun x hx => ⟨hx, rfl⟩).2
  rw [rcN_all (p := fun x => decide (id x = x)) fun x _ => decide_eq_true rfl] at q
  have := rcN_le (p := fun x => decide (lbF ps m es id x = x)) (q := fun _ => false) (c := lbF ps m es id 0) (n := n) fun x hx h => by
    have h : lbF ps m es id x = x := of_decide_eq_true h
    exact .inr (h.symm.trans (hall x 0 hx h0))
  rw [rcN_zero] at this
  refine nlE_all ?_
  split at this <;> omega
theorem mhP_sym (p q : Pt) : mhP p q = mhP q p := by unfold mhP; omega
/-- Both ways to check a spanning tree agree. -/
theorem cs_same (ps es : List Pt) : csI ps es = csS ps es := by
  unfold csI csS
  rcases ho : okL ps with _ | _
  · rfl
  by_cases hl : es.length = ps.length - 1
  rotate_left
  · rw [decide_eq_false hl]; rfl
  rw [decide_eq_true hl]
  simp only [Bool.true_and]
  have hv : allV ps = true := by
    unfold okL at ho
    simp only [Bool.and_eq_true] at ho
    exact ho.1
  have pl : ∀ (xs : List Int) (q : Int), (decide (0 ≤ plF1 xs q 0 xs.length) = true ↔ q ∈ xs) := fun xs q => by
    rw [decide_eq_true_eq]
    constructor
    · intro h
      refine Classical.byContradiction fun hn => ?_
      have := pl_mem.2 hn
      omega
    · intro h
      rcases Int.lt_or_le (plF1 xs q 0 xs.length) 0 with g | g
      · exact absurd h (pl_mem.1 g)
      · exact g
  have lk : ∀ i k, evA ps.length es = true → i < ps.length → (lkQ ps es i k = true ↔ lbF ps (mhP (ps.getD i (0, 0)) (ps.getD k (0, 0))) es id i = lbF ps (mhP (ps.getD i (0, 0)) (ps.getD k (0, 0))) es id k) := fun i k hev hi => by
    unfold lkQ lkV
    rw [pl, lk_iff hev hi]
  have allQ_iff2 : ∀ (P : Nat → Bool) (n : Nat), allQ P 0 n = true ↔ ∀ j, j < n → P j = true := fun P n => by
    constructor
    · exact fun h j hj => allQ_get n 0 h j (Nat.zero_le _) (by omega)
    · intro h
      have key : ∀ m i, i + m ≤ n → allQ P i m = true := by
        intro m
        induction m with
        | zero => intro i _; rfl
        | succ m ih =>
          intro i hi
          simp only [allQ, Bool.and_eq_true]
          exact ⟨h i (by omega), ih (i + 1) (by omega)⟩
      exact key n 0 (by omega)
  rw [Bool.eq_iff_iff, Bool.and_eq_true, Bool.and_eq_true]
  constructor
  · rintro ⟨hev, hcs⟩
    have cn : ∀ a b : Nat, a ≤ b → b < ps.length → lbF ps (edL ps ((a : Int), (b : Int))) es id a = lbF ps (edL ps ((a : Int), (b : Int))) es id b := fun a b hab hb => by
      have := List.all_eq_true.1 hcs ((a : Int), (b : Int)) (prL_memU.2 ⟨by simp, by simp only; omega, by simp only; omega⟩)
      unfold cneV at this
      simp only [Int.toNat_natCast, decide_eq_true_eq] at this
      exact this
    have all : ∀ x y, x < ps.length → y < ps.length → lbF ps 4000 es id x = lbF ps 4000 es id y := by
      have one : ∀ a b : Nat, a ≤ b → b < ps.length → lbF ps 4000 es id a = lbF ps 4000 es id b := fun a b hab hb => by
        have := lb_sound (ps := ps) (m := edL ps ((a : Int), (b : Int))) (es := es) (L := id) (S := fun z => lbF ps 4000 es id a = lbF ps 4000 es id z) (fun e hee _ => by rw [lb_edge (edL_bd hv e).2 hee]) (fun x y h => by
          have h : x = y := h
          rw [h]) a b (cn a b hab hb)
        exact this.1 rfl
      intro x y hx hy
      rcases Nat.le_total x y with h | h
      · exact one x y h hy
      · exact (one y x h hx).symm
    refine ⟨?_, ?_⟩
    · refine List.all_eq_true.2 fun e hee => ?_
      have n0 : 0 < ps.length := by
        have := List.all_eq_true.1 hev e hee
        simp only [evB, Bool.and_eq_true, decide_eq_true_eq] at this
        omega
      have := no_loops hev hl n0 all e hee
      unfold enB
      rw [List.all_eq_true.1 hev e hee]
      simpa using this
    · rw [allQ_iff2]
      intro i hi
      unfold lkR
      rw [allQ_iff2]
      intro k hk
      rw [lk i k hev hi]
      have := cn k i (by omega) hi
      have e : edL ps ((k : Int), (i : Int)) = mhP (ps.getD i (0, 0)) (ps.getD k (0, 0)) := by
        unfold edL
        simp only [Int.toNat_natCast]
        exact mhP_sym _ _
      rw [e] at this
      exact this.symm
  · rintro ⟨hen, hq⟩
    have hev := enA_ev hen
    refine ⟨hev, List.all_eq_true.2 fun z hz => ?_⟩
    have hz := prL_memU.1 hz
    obtain ⟨a, ea⟩ := Int.eq_ofNat_of_zero_le hz.1
    obtain ⟨b, eb⟩ := Int.eq_ofNat_of_zero_le (show 0 ≤ z.2 by omega)
    unfold cneV
    rw [decide_eq_true_eq, ea, eb]
    simp only [Int.toNat_natCast]
    by_cases e : a = b
    · rw [e]
    · rw [allQ_iff2] at hq
      have h1 := hq b (by omega)
      unfold lkR at h1
      rw [allQ_iff2] at h1
      have h2 := (lk b a hev (by omega)).1 (h1 a (by omega))
      have e2 : edL ps z = mhP (ps.getD b (0, 0)) (ps.getD a (0, 0)) := by
        unfold edL
        rw [ea, eb]
        simp only [Int.toNat_natCast]
        exact mhP_sym _ _
      rw [e2]
      exact h2.symm
end Go.Proofs.Ytnlciknmpjikgaa
namespace Go.Proofs.Ytnlciknmpjikgaa
set_option linter.all false
open Go.RowKit
def pCk : List DArg → Option (Value × List Prop)
  | [.row n (.ints xs), .row m (.ints ys)] => some (.bool (csI (ptsA n xs) (ptsA m ys)), [n * 2 ≤ xs.length, m * 2 ≤ ys.length, n ≤ 1000000000])
  | _ => none
theorem pCki_ok {ds : List DArg} {v : Value} {C : List Prop} (h : pCk ds = some (v, C)) (hC : AllP C) : Res Try.prog 27 ds v := by
  unfold pCk at h
  split at h
  · rename_i n xs m ys
    obtain ⟨rfl, rfl⟩ : _ ∧ _ := by simpa using h
    obtain ⟨c1, c2, c3, _⟩ := hC
    obtain ⟨_, h2⟩ := ptsA_spec c1
    exact res_pts1 (pre := []) (post := [_]) c1 (res_pts1 (pre := [_]) (post := []) c2 (res_iCs _ _ (by unfold Big; rw [h2]; exact c3)))
  · cases h
theorem pCks_ok {ds : List DArg} {v : Value} {C : List Prop} (h : pCk ds = some (v, C)) (hC : AllP C) : Res Try.prog 24 ds v := by
  unfold pCk at h
  split at h
  · rename_i n xs m ys
    obtain ⟨rfl, rfl⟩ : _ ∧ _ := by simpa using h
    obtain ⟨c1, c2, c3, _⟩ := hC
    obtain ⟨_, h2⟩ := ptsA_spec c1
    rw [cs_same]
    exact res_pts1 (pre := []) (post := [_]) c1 (res_pts1 (pre := [_]) (post := []) c2 (res_sCs _ _ (by unfold Big; rw [h2]; exact c3)))
  · cases h
def TLcs : Tab := fun f ds => match f with
  | 24 => pCk ds
  | 27 => pCk ds
  | 29 => pEp ds
  | f => T3 f ds
theorem TLcs_ok : TabOk Try.prog TLcs := by
  intro f ds v C h hC
  unfold TLcs at h
  split at h
  all_goals first | with_reducible exact pCks_ok h hC | with_reducible exact pCki_ok h hC | with_reducible exact pEp_ok h hC | exact T3_ok _ _ _ _ h hC
def ELcs : Env := mkE TLcs RTl (fun _ => noL)
theorem ELcs_ok : EnvOk Try.prog ELcs := mkEOk TLcs_ok RTl_ok (fun _ _ _ => noL_good)
set_option maxRecDepth 100000 in
theorem tr_exCs (ps es : List Pt) : bodyV Try.prog ELcs 30 12 6 [.row ps.length (.ints (flat ps)), .row es.length (.ints (flat es))] = brT (decide (IntKind.i64.wrap (1048576 - (↑ps.length : Int)) < 0)) (.fin (.bool (true)) []) (brT (decide (IntKind.i64.wrap (1048576 - (↑ps.length : Int)) < 0)) (.fin (.bool (true)) []) (brT (decide (IntKind.i64.wrap (IntKind.i64.wrap (1048576 - (↑ps.length : Int)) - (↑es.length : Int)) < 0)) (.fin (.bool (true)) []) (brT (decide (IntKind.i64.wrap (IntKind.i64.wrap (1048576 - (↑ps.length : Int)) - (↑es.length : Int)) < 0)) (.fin (.bool (true)) []) (.need (ps.length * (2 : Nat) ≤ (List.drop (0 : Nat) (flat ps)).length) (.need (ps.length ≤ (1000000000 : Nat)) (.need (es.length * (2 : Nat) ≤ (List.drop (0 : Nat) (flat es)).length) (.need (es.length ≤ (1000000000 : Nat)) (.need (ps.length * (2 : Nat) ≤ (List.drop (0 : Nat) (List.take (ps.length * (2 : Nat)) (List.drop (0 : Nat) (flat ps)))).length) (.need (es.length * (2 : Nat) ≤ (List.drop (0 : Nat) (List.take (es.length * (2 : Nat)) (List.drop (0 : Nat) (flat es)))).length) (.need (ps.length ≤ (1000000000 : Nat)) (.need (ps.length * (2 : Nat) ≤ (List.drop (0 : Nat) (flat ps)).length) (.need (ps.length ≤ (1000000000 : Nat)) (.need (es.length * (2 : Nat) ≤ (List.drop (0 : Nat) (flat es)).length) (.need (es.length ≤ (1000000000 : Nat)) (.need (ps.length * (2 : Nat) ≤ (List.drop (0 : Nat) (List.take (ps.length * (2 : Nat)) (List.drop (0 : Nat) (flat ps)))).length) (.need (es.length * (2 : Nat) ≤ (List.drop (0 : Nat) (List.take (es.length * (2 : Nat)) (List.drop (0 : Nat) (flat es)))).length) (.need (ps.length ≤ (1000000000 : Nat)) (brT (!csI (ptsA ps.length (List.drop 0 (List.take (ps.length * 2) (List.drop 0 (flat ps))))) (ptsA es.length (List.drop 0 (List.take (es.length * 2) (List.drop 0 (flat es))))) == csI (ptsA ps.length (List.drop 0 (List.take (ps.length * 2) (List.drop 0 (flat ps))))) (ptsA es.length (List.drop 0 (List.take (es.length * 2) (List.drop 0 (flat es)))))) (.fin (.bool (false)) []) (.need (ps.length * (2 : Nat) ≤ (List.drop (0 : Nat) (flat ps)).length) (.need (ps.length ≤ (1000000000 : Nat)) (.need (ps.length * (2 : Nat) ≤ (List.drop (0 : Nat) (List.take (ps.length * (2 : Nat)) (List.drop (0 : Nat) (flat ps)))).length) (.need (ps.length * (2 : Nat) ≤ (List.drop (0 : Nat) (List.take (ps.length * (2 : Nat)) (List.drop (0 : Nat) (flat ps)))).length) (.need (ps.length ≤ (1000000000 : Nat)) (brT (!eqL (ptsA ps.length (List.drop 0 (List.take (ps.length * 2) (List.drop 0 (flat ps))))) (ptsA ps.length (List.drop 0 (List.take (ps.length * 2) (List.drop 0 (flat ps)))))) (.fin (.bool (false)) []) (.need (es.length * (2 : Nat) ≤ (List.drop (0 : Nat) (flat es)).length) (.need (es.length ≤ (1000000000 : Nat)) (.need (es.length = es.length) (.need (List.drop (0 : Nat) (List.take (es.length * (2 : Nat)) (List.drop (0 : Nat) (flat es))) = List.drop (0 : Nat) (List.take (es.length * (2 : Nat)) (List.drop (0 : Nat) (flat es)))) (.need ((List.drop (0 : Nat) (List.take (es.length * (2 : Nat)) (List.drop (0 : Nat) (flat es)))).length = es.length * (2 : Nat)) (.need (es.length ≤ (1000000000 : Nat)) (.fin (.bool (true)) []))))))))))))))))))))))))))))))) := by kernel_rfl
theorem ExactCheckSpanning_res (ps es : List Pt) (h : (ps.length : Int) ≤ 9223372036854775807) (h2 : (es.length : Int) ≤ 9223372036854775807) : Res Try.prog 6 [.row ps.length (.ints (flat ps)), .row es.length (.ints (flat es))] (.bool true) := by
  refine bodyV_res mixed ELcs_ok (m := 30) (n := 12) rfl ?_
  rw [tr_exCs]
  simp only [List.drop_zero, flat_all, ptsA_flat, flat_length]
  by_cases hl : (1048576 : Int) - ps.length < 0
  · simp (disch := omega) only [wr]
    simp only [hl, decide_true, brT_t, Tree.ok]
    repeat' (first | exact True.intro | exact rfl | omega | refine And.intro ?_ ?_)
  · by_cases hm : (1048576 : Int) - ps.length - es.length < 0
    · simp (disch := omega) only [wr]
      simp only [hl, hm, decide_true, decide_false, brT_t, brT_f, Tree.ok]
      repeat' (first | exact True.intro | exact rfl | omega | refine And.intro ?_ ?_)
    · simp (disch := omega) only [wr]
      simp only [hl, hm, decide_false, brT_f, Tree.ok, beq_self_eq_true, bne_self_eq_false, Bool.not_true, eqL, decide_true]
      repeat' (first | exact True.intro | assumption | omega | exact rfl | refine And.intro ?_ ?_)
end Go.Proofs.Ytnlciknmpjikgaa
