/-
  Texts that the proof needs, merged. Written by an AI agent.
-/
import Derived.Orders
import Derived.Below
import Derived.OrdersIn
import Derived.Deep.LoopGhost
import Derived.WalkKit
import Derived.Laws.CopyRow
import Derived.Laws.AppendOwn
import Derived.Laws.Slices
import Derived.Laws.MakeOwn
import Derived.Test.YtbfoheblcoakiaaRows
import Derived.ProofKit
import Derived.OpenShut
import Derived.Carry
import Derived.IntWalk
import Derived.Test.YtbfoheblcoakiaaProg
import Derived.WalkSpells
import Derived.WalkLawsBesides
import Derived.Lib.Hide
import Derived.Deep.QuietTactic
import Derived.BigQuiet
import Derived.KernelRfl
import Derived.Deep.RegionHeld3
import Derived.LoopTactic
import Derived.Laws.StructEq
import Derived.Laws.Tables
import Derived.RangeFuncNested
import Derived.RangeFuncLeaves
import Derived.Deep.Slices
import Derived.Deep.Fields
import Derived.ChangeSame
import Derived.Deep.DeepCutAuto
import Derived.Shelf.SlSortCmp.WholeK
import Derived.Sort.Grow
import Derived.Shelf.SlSortCmp.NoneTotal
import Derived.Test.YtbfoheblcoakiaaZHullsApart2
set_option linter.all false
namespace Go.Proofs.Ytbfoheblcoakiaa
open Go.RowKit
abbrev Pt := Int × Int
def flat : List Pt → List Int
  | [] => []
  | p :: r => p.1 :: p.2 :: flat r
def pts : List Int → List Pt
  | a :: b :: r => (a, b) :: pts r
  | _ => []
theorem pts_flat : ∀ ps, pts (flat ps) = ps
  | [] => rfl
  | p :: r => by simp [flat, pts, pts_flat r]
theorem flat_length : ∀ ps, (flat ps).length = ps.length * 2
  | [] => rfl
  | p :: r => by simp [flat, flat_length r]; omega
theorem flat_pts : ∀ (n : Nat) (xs : List Int), xs.length = n * 2 → flat (pts xs) = xs ∧ (pts xs).length = n
  | 0, xs, h => by
    obtain rfl : xs = [] := List.eq_nil_of_length_eq_zero (by omega)
    exact ⟨rfl, rfl⟩
  | n + 1, xs, h => by
    match xs, h with
    | a :: b :: r, h =>
      obtain ⟨h1, h2⟩ := flat_pts n r (by simp at h; omega)
      exact ⟨by simp [pts, flat, h1], by simp [pts, h2]⟩
    | [a], h => simp at h; omega
    | [], h => simp at h
theorem even_flat {n : Nat} {xs : List Int} (h : xs.length = n * 2) : ∃ ps : List Pt, xs = flat ps ∧ ps.length = n :=
  ⟨pts xs, (flat_pts n xs h).1.symm, (flat_pts n xs h).2⟩
theorem flat_append : ∀ a b, flat (a ++ b) = flat a ++ flat b
  | [], b => rfl
  | p :: r, b => by simp [flat, flat_append r b]
theorem flat_drop : ∀ (ps : List Pt) (k : Nat), (flat ps).drop (k * 2) = flat (ps.drop k)
  | ps, 0 => by simp
  | [], k + 1 => by simp [flat]
  | p :: r, k + 1 => by
    rw [show (k + 1) * 2 = k * 2 + 2 by omega]
    simp [flat, flat_drop r k]
theorem flat_take : ∀ (ps : List Pt) (k : Nat), (flat ps).take (k * 2) = flat (ps.take k)
  | ps, 0 => by simp [flat]
  | [], k + 1 => by simp [flat]
  | p :: r, k + 1 => by
    rw [show (k + 1) * 2 = k * 2 + 2 by omega]
    simp [flat, flat_take r k]
theorem flat_all (ps : List Pt) : (flat ps).take (ps.length * 2) = flat ps := by rw [flat_take, List.take_length]
theorem flat_get : ∀ (ps : List Pt) (k : Nat), (flat ps).getD (k * 2) 0 = (ps.getD k (0, 0)).1 ∧ (flat ps).getD (k * 2 + 1) 0 = (ps.getD k (0, 0)).2
  | [], k => by simp [flat]
  | p :: r, 0 => by simp [flat]
  | p :: r, k + 1 => by
    obtain ⟨h1, h2⟩ := flat_get r k
    rw [show (k + 1) * 2 = k * 2 + 2 by omega, show k * 2 + 2 + 1 = k * 2 + 1 + 2 by omega]
    simp only [flat, List.getD_eq_getElem?_getD, List.getElem?_cons_succ] at h1 h2 ⊢
    exact ⟨h1, h2⟩
theorem flat_get0 (ps : List Pt) (k : Nat) : (flat ps).getD (k * 2) 0 = (ps.getD k (0, 0)).1 := (flat_get ps k).1
theorem flat_get1 (ps : List Pt) (k : Nat) : (flat ps).getD (k * 2 + 1) 0 = (ps.getD k (0, 0)).2 := (flat_get ps k).2
theorem flat_set (ps : List Pt) (k : Nat) (h : k < ps.length) (a b : Int) : setInts (flat ps) (k * 2) [a, b] = flat (ps.set k (a, b)) := by
  have e : ps = ps.take k ++ ps[k] :: ps.drop (k + 1) := by simp
  have hl : (ps.take k).length = k := by simp; omega
  unfold setInts
  rw [flat_take, show k * 2 + [a, b].length = (k + 1) * 2 by simp; omega, flat_drop]
  rw [List.set_eq_take_append_cons_drop, if_pos h, flat_append]
  simp [flat]
theorem flat_snoc (ps : List Pt) (a b : Int) : flat ps ++ [a, b] = flat (ps ++ [(a, b)]) := by rw [flat_append]; rfl
theorem drop_cons {α : Type} {l : List α} {k : Nat} (h : k < l.length) (d : α) : l.drop k = l.getD k d :: l.drop (k + 1) := by
  rw [List.drop_eq_getElem_cons h]
  simp [h]
theorem wr {x : Int} (h : -9223372036854775808 ≤ x ∧ x ≤ 9223372036854775807) : ŵ x = x := by
  rw [IntKind.wrap_i64]
  omega
theorem wsucc {i n : Nat} (h : i < n) (hn : n ≤ 1000000000) : ŵ ((i : Int) + 1) = ((i + 1 : Nat) : Int) := by
  rw [wr (by omega)]; omega
theorem all_drop {α : Type} {l : List α} {k : Nat} (h : k < l.length) (d : α) (P : α → Bool) : (l.drop k).all P = (P (l.getD k d) && (l.drop (k + 1)).all P) := by rw [drop_cons h d]; rfl
theorem all_end {α : Type} {l : List α} {k : Nat} (h : l.length ≤ k) (P : α → Bool) : (l.drop k).all P = true := by rw [List.drop_of_length_le h]; rfl
theorem pick2k {b : Bool} {k : Ex → St → Tree} {e1 e2 : Ex} {s1 s2 : St} {F : Ex → St → Prop} {H : Value → List (Option Blk) → Prop} (h : (brT b (k e1 s1) (k e2 s2)).ok F H) : (k (bif b then e1 else e2) (bif b then s1 else s2)).ok F H := by
  cases b
  · exact h
  · exact h
def bodyL (P : Program) (E : Env) (m n : Nat) (lt : LT) (j : Nat) (c : Code) (keep : Ex → List Nat) (M : Nat) (s : St) : Tree := runN P E.R E.J (asK P E (runM P E m n)) (runM P E m n) lt noR m c j (fun e s' => .leaf e (cutS M (keep e) s')) s
theorem body_det {P : Program} (hm : P.follows .mixedOrders = true) {E : Env} (hE : EnvOk P E) {m n : Nat} {lt : LT} {j : Nat} {c : Code} (hL : LoopsGood P lt j c) {keep : Ex → List Nat} {M : Nat} {s : St} {F : Ex → St → Prop} (h : (bodyL P E m n lt j c keep M s).ok F (fun _ _ => False)) :
    ∃ e' s', Det P c s e' s' ∧ F e' (cutS M (keep e') s') := by
  obtain ⟨e', s', h1, h2⟩ := runN_det hE.R hE.J (asK_ok hE (runM_ok hm hE m n)) (runM_ok hm hE m n) hm c j hL noR_good _ F _ s h
  exact ⟨e', s', h2, h1⟩
theorem noLoops {P : Program} {lt : LT} {j : Nat} {c : Code} (h : loopsOf c = []) : LoopsGood P lt j c := fun i d hd => by rw [h] at hd; simp at hd
def keeps (nrm : List Nat) (exits : List (Nat × List Nat)) (ret : List Nat) : Ex → List Nat
  | .normal => nrm
  | .exit id => (exits.lookup id).getD []
  | .ret => ret
def RoundEnd {X : Type} (N : Nat) (St_of : X → St) (Inv : X → Prop) (μ : X → Nat) (re : X → Ex) (rs : X → St) (x : X) (e : Ex) (s : St) : Prop :=
  match e with
  | .normal => ∃ x' π, Inv x' ∧ μ x' < μ x ∧ re x' = re x ∧ rs x' = rs x ∧ WS N π s (St_of x')
  | e => e = re x ∧ ∃ π, WS N π s (rs x)
theorem loop_run {P : Program} (hm : P.follows .mixedOrders = true) {E : Env} (hE : EnvOk P E) {m n : Nat} {lt : LT} {j : Nat} {c : Code} {N : Nat} {X : Type} (St_of : X → St) (Inv : X → Prop) (μ : X → Nat) (re : X → Ex) (rs : X → St) (keep : Ex → List Nat) {M : Nat} (hM : ∀ x, (St_of x).mem.length = M) (hL : LoopsGood P lt j c)
    (h : ∀ x, Inv x → (bodyL P E m n lt j c keep M (St_of x)).ok (RoundEnd N St_of Inv μ re rs x) (fun _ _ => False))
    {x : X} (hx : Inv x) {s : St} {π : List (Option Nat)} (hN : s.mem.length = N) (hs : WS N π s (St_of x)) : Det P (.loop c) s (re x) (rs x) :=
  loop_det St_of Inv μ re rs keep (fun x hx => by
    obtain ⟨e', s', h1, h2⟩ := body_det hm hE hL (h x hx)
    refine ⟨e', s', h1, ?_⟩
    rw [hM]
    unfold RoundEnd at h2
    cases e' <;> exact h2) hx hN hs
theorem wv_top (f : Nat → Option (Option Nat)) (v : Value) : wv f v topV := by
  cases v <;> exact True.intro
theorem take_set_succ {α : Type} {l m : List α} {i : Nat} (hl : i < l.length) (hm : i < m.length) (h : l.take i = m.take i) (d : α) : (l.set i (m.getD i d)).take (i + 1) = m.take (i + 1) := by
  apply List.ext_getElem?
  intro k
  have hk := congrArg (fun x : List α => x[k]?) h
  simp only [List.getElem?_take] at hk ⊢
  rcases Nat.lt_trichotomy k i with hki | hki | hki
  · rw [if_pos (by omega), if_pos (by omega), List.getElem?_set_ne (by omega)]
    simpa [hki] using hk
  · subst hki
    rw [if_pos (by omega), if_pos (by omega)]
    simp [hl, hm]
  · rw [if_neg (by omega), if_neg (by omega)]
def pickL (l : List Value) (idx : List Nat) : List Value := idx.map fun i => l.getD i undef
def lookV : List Nat → List Value → Nat → Value
  | i :: r, v :: vs, j => if i = j then v else lookV r vs j
  | _, _, _ => topV
def spread (n : Nat) (idx : List Nat) (vals : List Value) : List Value := (List.range n).map (lookV idx vals)
theorem lookV_ok {f : Nat → Option (Option Nat)} {l : List Value} : ∀ {idx : List Nat} {vals : List Value}, wvs f (pickL l idx) vals → ∀ j, wv f (l.getD j undef) (lookV idx vals j)
  | [], [], _, j => wv_top _ _
  | [], _ :: _, h, _ => h.elim
  | _ :: _, [], h, _ => h.elim
  | i :: r, v :: vs, h, j => by
    unfold lookV
    split
    · rename_i hij
      subst hij
      exact h.1
    · exact lookV_ok h.2 j
theorem wvs_of {f : Nat → Option (Option Nat)} : ∀ {l l' : List Value}, l.length = l'.length → (∀ j, j < l.length → wv f (l.getD j undef) (l'.getD j undef)) → wvs f l l'
  | [], [], _, _ => trivial
  | [], _ :: _, h, _ => by simp at h
  | _ :: _, [], h, _ => by simp at h
  | a :: r, b :: r', h, hj => ⟨hj 0 (by simp), wvs_of (by simpa using h) fun j hj' => by simpa using hj (j + 1) (by simpa using hj')⟩
theorem wvs_spread {f : Nat → Option (Option Nat)} {l vals l' : List Value} {n : Nat} {idx : List Nat} (hl : Nat.beq l.length n = true) (he : l' = spread n idx vals) (h : wvs f (pickL l idx) vals) : wvs f l l' := by
  have hl := Nat.eq_of_beq_eq_true hl
  subst he
  refine wvs_of (by simp [spread, hl]) fun j hj => ?_
  have : (spread n idx vals).getD j undef = lookV idx vals j := by
    have : j < n := by omega
    simp [spread, this]
  rw [this]
  exact lookV_ok h j
theorem wvs_spread' {f : Nat → Option (Option Nat)} {l l' : List Value} {n : Nat} (idx : List Nat) (hl : Nat.beq l.length n = true) (he : l' = spread n idx (pickL l' idx)) (h : wvs f (pickL l idx) (pickL l' idx)) : wvs f l l' := wvs_spread hl he h
def LoopE (P : Program) (e : St → (Ex → St → Tree) → Option Tree) (c : Code) : Prop := ∀ s k t F H, e s k = some t → t.ok F H → ∃ e' s', (k e' s').ok F H ∧ Det P (.loop c) s e' s'
def lt1 (e : St → (Ex → St → Tree) → Option Tree) : LT := fun j s k => match j with
  | 0 => e s k
  | _ => none
theorem lt1_good {P : Program} {e : St → (Ex → St → Tree) → Option Tree} {c : Code} (h : LoopE P e (((loopsOf c)[0]?).getD .skip)) : LoopsGood P (lt1 e) 0 c := by
  intro i d hd s k t F H hlt ht
  rw [Nat.zero_add] at hlt
  cases i with
  | zero =>
    rw [hd] at h
    exact h s k t F H hlt ht
  | succ i => cases hlt
def noL : LT := fun _ _ _ => none
theorem noL_good {P : Program} {j : Nat} {c : Code} : LoopsGood P noL j c := fun _ _ _ _ _ _ _ _ h => by cases h
theorem Res.more {P : Program} {f : FuncId} {ds ds' : List DArg} {v : Value} (h : Res P f ds' v) (hg : ∀ d ∈ ds, d.good) (hd : ∀ w args, DOks w ds args → DOks w ds' args) : Res P f ds v :=
  ⟨h.1, h.2.1, h.2.2.1, hg, fun w args ha => h.2.2.2.2 w args (hd w args ha)⟩
theorem ResR.more {P : Program} {f : FuncId} {ds ds' : List DArg} {v : Value} {b : Blk} (h : ResR P f ds' v b) (hg : ∀ d ∈ ds, d.good) (hd : ∀ w args, DOks w ds args → DOks w ds' args) : ResR P f ds v b :=
  ⟨h.1, h.2.1, h.2.2.1, hg, fun w args ha => h.2.2.2.2 w args (hd w args ha)⟩
theorem DOk.take {w : World} {l : Nat} {xs : List Int} {y : Value} (k : Nat) (h : DOk w (.row l (.ints xs)) y) : DOk w (.row l (.ints (xs.take k))) y := by
  obtain ⟨h1, ad, c', h2, h3, h4⟩ := h
  refine ⟨rfl, ad, c', h2, h3, h4.imp id ?_⟩
  rintro ⟨g, f, h5, h6, h7⟩
  refine ⟨g, f, h5, h6, fun j v hv => h7 j v ?_⟩
  simp only [Cs.list, List.getElem?_map] at hv ⊢
  rw [List.getElem?_take] at hv
  split at hv
  · exact hv
  · simp at hv
theorem DOks.imp {w : World} : ∀ {ds ds' : List DArg} {args : Array Value}, DOks w ds args → ds.length = ds'.length → (∀ (i : Nat) d d' y, ds[i]? = some d → ds'[i]? = some d' → DOk w d y → DOk w d' y) → DOks w ds' args := by
  intro ds ds' args h hl hi
  refine ⟨by rw [← hl]; exact h.1, fun i d' y hd' hy => ?_⟩
  have hlt : i < ds.length := by rw [hl]; exact (List.getElem?_eq_some_iff.1 hd').1
  exact hi i ds[i] d' y (by simp) hd' (h.2 i _ y (by simp) hy)
def ptsA (n : Nat) (xs : List Int) : List Pt := pts (xs.take (n * 2))
theorem ptsA_flat (ps : List Pt) : ptsA ps.length (flat ps) = ps := by
  unfold ptsA
  rw [flat_take, List.take_length, pts_flat]
theorem ptsA_spec {n : Nat} {xs : List Int} (h : n * 2 ≤ xs.length) : xs.take (n * 2) = flat (ptsA n xs) ∧ (ptsA n xs).length = n := by
  unfold ptsA
  have := flat_pts n (xs.take (n * 2)) (by simp; omega)
  exact ⟨this.1.symm, this.2⟩
theorem DOks.pts {w : World} {pre post : List DArg} {n : Nat} {xs : List Int} {args : Array Value} (ha : DOks w (pre ++ .row n (.ints xs) :: post) args) : DOks w (pre ++ .row n (.ints (xs.take (n * 2))) :: post) args := by
  refine ha.imp (by simp) fun i d d' y hd hd' hy => ?_
  rcases Nat.lt_or_ge i pre.length with hlt | hge
  · rw [List.getElem?_append_left hlt] at hd hd'
    rw [hd] at hd'
    obtain rfl : d = d' := by simpa using hd'
    exact hy
  · rw [List.getElem?_append_right hge] at hd hd'
    rcases hk : i - pre.length with _ | k
    · rw [hk] at hd hd'
      obtain rfl : DArg.row n (.ints xs) = d := by simpa using hd
      obtain rfl : DArg.row n (.ints (xs.take (n * 2))) = d' := by simpa using hd'
      exact hy.take _
    · rw [hk] at hd hd'
      simp only [List.getElem?_cons_succ] at hd hd'
      rw [hd] at hd'
      obtain rfl : d = d' := by simpa using hd'
      exact hy
theorem good_pts {pre post : List DArg} {n : Nat} {xs ys : List Int} (h : ∀ d ∈ pre ++ .row n (.ints xs) :: post, d.good) : ∀ d ∈ pre ++ .row n (.ints ys) :: post, d.good := by
  intro d hd
  rcases List.mem_append.1 hd with hd | hd
  · exact h d (List.mem_append_left _ hd)
  · rcases List.mem_cons.1 hd with rfl | hd
    · rfl
    · exact h d (List.mem_append_right _ (List.mem_cons_of_mem _ hd))
theorem res_pts1 {P : Program} {f : FuncId} {pre post : List DArg} {v : Value} {n : Nat} {xs : List Int} (hn : n * 2 ≤ xs.length) (h0 : Res P f (pre ++ .row (ptsA n xs).length (.ints (flat (ptsA n xs))) :: post) v) :
    Res P f (pre ++ .row n (.ints xs) :: post) v := by
  obtain ⟨h1, h2⟩ := ptsA_spec hn
  rw [h2, ← h1] at h0
  exact h0.more (good_pts h0.2.2.2.1) fun w args ha => ha.pts
theorem resR_pts1 {P : Program} {f : FuncId} {pre post : List DArg} {v : Value} {b : Blk} {n : Nat} {xs : List Int} (hn : n * 2 ≤ xs.length) (h0 : ResR P f (pre ++ .row (ptsA n xs).length (.ints (flat (ptsA n xs))) :: post) v b) :
    ResR P f (pre ++ .row n (.ints xs) :: post) v b := by
  obtain ⟨h1, h2⟩ := ptsA_spec hn
  rw [h2, ← h1] at h0
  exact h0.more (good_pts h0.2.2.2.1) fun w args ha => ha.pts
def pltB (a b : Pt) : Bool := decide (a.1 < b.1 ∨ a.1 = b.1 ∧ a.2 < b.2)
theorem pltB_iff {a b : Pt} : pltB a b = true ↔ a.1 < b.1 ∨ a.1 = b.1 ∧ a.2 < b.2 := by simp [pltB]
abbrev iv (x : Int) : Value := .int .i64 x
def B0 : Tab := fun _ _ => none
theorem B0_ok : TabOk Try.prog B0 := fun _ _ _ _ h => by cases h
theorem mixed : Try.prog.follows .mixedOrders = true := by kernel_rfl
set_option maxRecDepth 100000 in
theorem tr_specValid (x y : Int) : runX Try.prog (tabE B0) 30 8 40 [.v (.agg #[iv x, iv y])] (fun u => .fin u []) = brT (decide (-1000 ≤ x)) (brT (decide (x ≤ 1000)) (brT (decide (-1000 ≤ y)) (.fin (.bool (decide (y ≤ 1000))) []) (.fin (.bool (false)) [])) (.fin (.bool (false)) [])) (.fin (.bool (false)) []) := by kernel_rfl
set_option maxRecDepth 100000 in
theorem tr_implValid (x y : Int) : runX Try.prog (tabE B0) 30 8 54 [.v (.agg #[iv x, iv y])] (fun u => .fin u []) = brT (decide (ŵ (0 - 1000) ≤ x)) (brT (decide (x ≤ 1000)) (brT (decide (ŵ (0 - 1000) ≤ y)) (.fin (.bool (decide (y ≤ 1000))) []) (.fin (.bool (false)) [])) (.fin (.bool (false)) [])) (.fin (.bool (false)) []) := by kernel_rfl
set_option maxRecDepth 100000 in
theorem tr_compare (x y : Int) : runX Try.prog (tabE B0) 30 8 85 [.v (iv x), .v (iv y)] (fun u => .fin u []) = brT (!x == x) (brT (!y == y) (.fin (.int .i64 (0)) []) (.fin (.int .i64 (-1)) [])) (brT (!y == y) (.fin (.int .i64 (1)) []) (brT (decide (x < y)) (.fin (.int .i64 (-1)) []) (brT (decide (y < x)) (.fin (.int .i64 (1)) []) (.fin (.int .i64 (0)) [])))) := by kernel_rfl
set_option maxRecDepth 100000 in
theorem tr_specSign (x : Int) : runX Try.prog (tabE B0) 30 8 93 [.v (iv x)] (fun u => .fin u []) = brT (decide (x < 0)) (.fin (.int .i64 (-1)) []) (brT (decide (0 < x)) (.fin (.int .i64 (1)) []) (.fin (.int .i64 (0)) [])) := by kernel_rfl
set_option maxRecDepth 100000 in
theorem tr_implSign (x : Int) : runX Try.prog (tabE B0) 30 8 56 [.v (iv x)] (fun u => .fin u []) = brT (!x == x) (.fin (.int .i64 (-1)) []) (brT (decide (x < 0)) (.fin (.int .i64 (-1)) []) (brT (decide (0 < x)) (.fin (.int .i64 (1)) []) (.fin (.int .i64 (0)) []))) := by kernel_rfl
theorem w1000 : ŵ (0 - 1000) = -1000 := by decide
def cmpI (x y : Int) : Int := if x < y then -1 else if y < x then 1 else 0
theorem vbool_eq {a b : Bool} (h : a = b) : Value.bool a = .bool b := by rw [h]
theorem res_specValid (x y : Int) : Res Try.prog 40 [.v (.agg #[iv x, iv y])] (.bool (ptB x y)) := by
  refine res_of mixed (tabE_ok B0_ok) (m := 30) (n := 8) ?_
  rw [tr_specValid]
  simp only [brT_ok, Tree.ok, decide_eq_true_eq, decide_eq_false_iff_not]
  repeat' (first | apply And.intro | intro _)
  all_goals (refine vbool_eq ?_; unfold ptB; rw [Bool.eq_iff_iff]; simp; try omega)
theorem res_implValid (x y : Int) : Res Try.prog 54 [.v (.agg #[iv x, iv y])] (.bool (ptB x y)) := by
  refine res_of mixed (tabE_ok B0_ok) (m := 30) (n := 8) ?_
  rw [tr_implValid]
  simp only [brT_ok, Tree.ok, decide_eq_true_eq, decide_eq_false_iff_not, w1000]
  repeat' (first | apply And.intro | intro _)
  all_goals (refine vbool_eq ?_; unfold ptB; rw [Bool.eq_iff_iff]; simp; try omega)
theorem res_compare (x y : Int) : Res Try.prog 85 [.v (iv x), .v (iv y)] (iv (cmpI x y)) := by
  refine res_of mixed (tabE_ok B0_ok) (m := 30) (n := 8) ?_
  rw [tr_compare]
  simp [brT_ok, Tree.ok]
  repeat' (first | apply And.intro | intro _)
  all_goals (unfold cmpI; split <;> (try split) <;> omega)
theorem res_specSign (x : Int) : Res Try.prog 93 [.v (iv x)] (iv (cmpI x 0)) := by
  refine res_of mixed (tabE_ok B0_ok) (m := 30) (n := 8) ?_
  rw [tr_specSign]
  simp [brT_ok, Tree.ok]
  repeat' (first | apply And.intro | intro _)
  all_goals (unfold cmpI; split <;> (try split) <;> omega)
theorem res_implSign (x : Int) : Res Try.prog 56 [.v (iv x)] (iv (cmpI x 0)) := by
  refine res_of mixed (tabE_ok B0_ok) (m := 30) (n := 8) ?_
  rw [tr_implSign]
  simp [brT_ok, Tree.ok]
  repeat' (first | apply And.intro | intro _)
  all_goals (unfold cmpI; split <;> (try split) <;> omega)
theorem entersB_res {f : FuncId} (h : entersB Try.prog f = true) : enters Try.prog f ∧ Try.prog.inits.idxOf? f = none := by
  unfold entersB at h
  split at h
  · rename_i fn hf
    obtain ⟨h1, h2, _⟩ := entersB_spec hf (by unfold entersB; rw [hf]; exact h)
    exact ⟨h1, h2⟩
  · cases h
theorem res_calls {f : FuncId} {args : List Value} {v : Value} (he : entersB Try.prog f = true) (hp : args.all plainV = true) (hv : plainV v = true) (h : ∀ w, Calls Try.prog f args.toArray w fun e w' => e = .returned v ∧ Below w.heap.size w w') : Res Try.prog f (args.map .v) v := by
  obtain ⟨h1, h2⟩ := entersB_res he
  refine ⟨h1, h2, hv, fun d hd => ?_, fun w ys hd => ?_⟩
  · obtain ⟨x, hx, rfl⟩ := List.mem_map.1 hd
    exact List.all_eq_true.1 hp x hx
  · have e : ys = args.toArray := by
      apply Array.ext
      · simpa using hd.1.symm
      · intro i i1 i2
        have e1 : (args.map DArg.v)[i]? = some (.v (args[i]'(by simpa using i2))) := by simp
        exact (hd.2 i _ ys[i] e1 (by simp [i1])).2
    rw [e]
    exact h w
def pPt : List DArg → Option (Value × List Prop)
  | [.v (.agg ⟨[.int .i64 x, .int .i64 y]⟩)] => some (.bool (ptB x y), [])
  | _ => none
def pCmp : List DArg → Option (Value × List Prop)
  | [.v (.int .i64 x), .v (.int .i64 y)] => some (iv (cmpI x y), [])
  | _ => none
def pSign : List DArg → Option (Value × List Prop)
  | [.v (.int .i64 x)] => some (iv (cmpI x 0), [])
  | _ => none
def pAll : List DArg → Option (Value × List Prop)
  | [.row 2 (.vals [.int .i64 ax, .int .i64 ay, .int .i64 bx, .int .i64 b_y])] => some (.bool (ptB ax ay && ptB bx b_y), [])
  | [.row 3 (.vals [.int .i64 ax, .int .i64 ay, .int .i64 bx, .int .i64 b_y, .int .i64 cx, .int .i64 cy])] => some (.bool (ptB ax ay && ptB bx b_y && ptB cx cy), [])
  | [.row 4 (.vals [.int .i64 ax, .int .i64 ay, .int .i64 bx, .int .i64 b_y, .int .i64 cx, .int .i64 cy, .int .i64 dx, .int .i64 dy])] => some (.bool (ptB ax ay && ptB bx b_y && (ptB cx cy && ptB dx dy)), [])
  | _ => none
def T1 : Tab := fun f ds => match f with
  | 40 => pPt ds
  | 54 => pPt ds
  | 85 => pCmp ds
  | 93 => pSign ds
  | 56 => pSign ds
  | 36 => pAll ds
  | _ => none
theorem row_open {w : World} {l : Nat} {cs : Cs} {y : Value} (hl : 0 < l) (h : DOk w (.row l cs) y) : ∃ g f c', y = .slice (some ⟨g, f, none⟩) l c' ∧ l ≤ c' ∧ g < w.heap.size ∧ ∀ (k : Nat) v, cs.list[k]? = some v → w.cell? ⟨g, f + k, none⟩ = some v := by
  obtain ⟨_, ad, c', h1, h2, h3⟩ := h
  obtain ⟨g, f, rfl, h4, h5⟩ := h3.resolve_left (by omega)
  exact ⟨g, f, c', h1, h2, h4, h5⟩
theorem res_row {f : FuncId} {l : Nat} {cs : Cs} {v : Value} (hl : 0 < l) (he : entersB Try.prog f = true) (hv : plainV v = true) (hat : allAtoms cs = true) (h : ∀ w g o c', l ≤ c' → g < w.heap.size → (∀ (k : Nat) v, cs.list[k]? = some v → w.cell? ⟨g, o + k, none⟩ = some v) →
    Calls Try.prog f #[.slice (some ⟨g, o, none⟩) l c'] w fun e w' => e = .returned v ∧ Below w.heap.size w w') : Res Try.prog f [.row l cs] v := by
  obtain ⟨h1, h2⟩ := entersB_res he
  refine ⟨h1, h2, hv, fun d hd => ?_, fun w ys hd => ?_⟩
  · obtain rfl : d = .row l cs := by simpa using hd
    exact hat
  · have hs := hd.1
    have h0 : ys[0]? = some (ys[0]'(by simp at hs; omega)) := by simp
    obtain ⟨g, o, c', e1, e2, e3, e4⟩ := row_open hl (hd.2 0 _ _ rfl h0)
    have e : ys = #[.slice (some ⟨g, o, none⟩) l c'] := by
      apply Array.ext
      · simpa using hs.symm
      · intro i i1 i2
        have : i = 0 := by simp at i2; omega
        subst this
        simpa using e1
    rw [e]
    exact h w g o c' e2 e3 e4
theorem T1r_0 {ds : List DArg} {v : Value} {C : List Prop} (h : pPt ds = some (v, C)) (hC : AllP C) : Res Try.prog 40 ds v := by
  unfold pPt at h
  split at h
  · obtain ⟨rfl, rfl⟩ : _ ∧ _ := by simpa using h
    exact res_specValid _ _
  · cases h
theorem T1r_1 {ds : List DArg} {v : Value} {C : List Prop} (h : pPt ds = some (v, C)) (hC : AllP C) : Res Try.prog 54 ds v := by
  unfold pPt at h
  split at h
  · obtain ⟨rfl, rfl⟩ : _ ∧ _ := by simpa using h
    exact res_implValid _ _
  · cases h
theorem T1r_2 {ds : List DArg} {v : Value} {C : List Prop} (h : pCmp ds = some (v, C)) (hC : AllP C) : Res Try.prog 85 ds v := by
  unfold pCmp at h
  split at h
  · obtain ⟨rfl, rfl⟩ : _ ∧ _ := by simpa using h
    exact res_compare _ _
  · cases h
theorem T1r_3 {ds : List DArg} {v : Value} {C : List Prop} (h : pSign ds = some (v, C)) (hC : AllP C) : Res Try.prog 93 ds v := by
  unfold pSign at h
  split at h
  · obtain ⟨rfl, rfl⟩ : _ ∧ _ := by simpa using h
    exact res_specSign _
  · cases h
theorem T1r_4 {ds : List DArg} {v : Value} {C : List Prop} (h : pSign ds = some (v, C)) (hC : AllP C) : Res Try.prog 56 ds v := by
  unfold pSign at h
  split at h
  · obtain ⟨rfl, rfl⟩ : _ ∧ _ := by simpa using h
    exact res_implSign _
  · cases h
theorem T1r_10 {ds : List DArg} {v : Value} {C : List Prop} (h : pAll ds = some (v, C)) (hC : AllP C) : Res Try.prog 36 ds v := by
  unfold pAll at h
  split at h
  · rename_i ax ay bx b_y
    obtain ⟨rfl, rfl⟩ : _ ∧ _ := by simpa using h
    refine res_row (by decide) (by kernel_rfl) rfl rfl fun w g o c' _ hg hcell => ?_
    have := allValid_any (some ⟨g, o, none⟩) 2 c' (pick2 ax bx) (pick2 ay b_y) w (by omega) (fun k hk => ⟨g, o, rfl, hg, by
      match k, hk with
      | 0, _ => exact ⟨hcell 0 _ rfl, hcell 1 _ rfl⟩
      | 1, _ => exact ⟨hcell 2 _ rfl, hcell 3 _ rfl⟩⟩)
    rw [allB2] at this
    exact this
  · rename_i ax ay bx b_y cx cy
    obtain ⟨rfl, rfl⟩ : _ ∧ _ := by simpa using h
    refine res_row (by decide) (by kernel_rfl) rfl rfl fun w g o c' _ hg hcell => ?_
    have := allValid_any (some ⟨g, o, none⟩) 3 c' (pick3 ax bx cx) (pick3 ay b_y cy) w (by omega) (fun k hk => ⟨g, o, rfl, hg, by
      match k, hk with
      | 0, _ => exact ⟨hcell 0 _ rfl, hcell 1 _ rfl⟩
      | 1, _ => exact ⟨hcell 2 _ rfl, hcell 3 _ rfl⟩
      | 2, _ => exact ⟨hcell 4 _ rfl, hcell 5 _ rfl⟩⟩)
    rw [allB3] at this
    exact this
  · rename_i ax ay bx b_y cx cy dx dy
    obtain ⟨rfl, rfl⟩ : _ ∧ _ := by simpa using h
    refine res_row (by decide) (by kernel_rfl) rfl rfl fun w g o c' _ hg hcell => ?_
    have := allValid_any (some ⟨g, o, none⟩) 4 c' (fun k => match k with
      | 0 => ax
      | 1 => bx
      | 2 => cx
      | _ => dx) (fun k => match k with
      | 0 => ay
      | 1 => b_y
      | 2 => cy
      | _ => dy) w (by omega) (fun k hk => ⟨g, o, rfl, hg, by
      match k, hk with
      | 0, _ => exact ⟨hcell 0 _ rfl, hcell 1 _ rfl⟩
      | 1, _ => exact ⟨hcell 2 _ rfl, hcell 3 _ rfl⟩
      | 2, _ => exact ⟨hcell 4 _ rfl, hcell 5 _ rfl⟩
      | 3, _ => exact ⟨hcell 6 _ rfl, hcell 7 _ rfl⟩⟩)
    rw [allB_succ, allB_succ, allB_succ, allB_succ, allB_zero] at this
    simpa [Bool.and_assoc] using this
  · cases h
theorem T1_ok : TabOk Try.prog T1 := by
  intro f ds v C h hC
  unfold T1 at h
  (try split at h)
  all_goals first | with_reducible exact T1r_0 h hC | with_reducible exact T1r_1 h hC | with_reducible exact T1r_2 h hC | with_reducible exact T1r_3 h hC | with_reducible exact T1r_4 h hC | with_reducible exact T1r_5 h hC | with_reducible exact T1r_6 h hC | with_reducible exact T1r_7 h hC | with_reducible exact T1r_8 h hC | with_reducible exact T1r_9 h hC | with_reducible exact T1r_10 h hC | cases h
theorem DOk.ints {w : World} {l : Nat} {cs : Cs} {xs : List Int} (h : cs.list = xs.map (Value.int .i64)) {y : Value} (k : DOk w (.row l cs) y) : DOk w (.row l (.ints xs)) y := by
  obtain ⟨_, ad, c', h2, h3, h4⟩ := k
  refine ⟨rfl, ad, c', h2, h3, h4.imp id ?_⟩
  rintro ⟨g, f, h5, h6, h7⟩
  exact ⟨g, f, h5, h6, fun j v hv => h7 j v (by rw [h]; exact hv)⟩
theorem DOks.ints {w : World} : ∀ {ds ds' : List DArg} {args : Array Value}, DOks w ds args → ds.length = ds'.length → (∀ (i : Nat) d d', ds[i]? = some d → ds'[i]? = some d' → d = d' ∨ ∃ l cs xs, d = .row l cs ∧ d' = .row l (.ints xs) ∧ cs.list = xs.map (Value.int .i64)) → DOks w ds' args := by
  intro ds ds' args h hl hi
  refine ⟨by rw [← hl]; exact h.1, fun i d' y hd' hy => ?_⟩
  have hlt : i < ds.length := by rw [hl]; exact (List.getElem?_eq_some_iff.1 hd').1
  have hd : ds[i]? = some ds[i] := by simp [hlt]
  have h0 := h.2 i ds[i] y hd hy
  rcases hi i ds[i] d' hd hd' with e | ⟨l, cs, xs, e1, e2, e3⟩
  · rw [← e]; exact h0
  · rw [e1] at h0
    rw [e2]
    exact h0.ints e3
def eqB (ax ay bx b_y : Int) : Bool := ax == bx && ay == b_y
def segB (ax ay bx b_y : Int) : Bool := ptB ax ay && ptB bx b_y && !(eqB ax ay bx b_y)
theorem set_is {W : World} {a : Addr} (v : Value) (h : (W.cell? a).isSome = true) : (W.setCell a v).cell? a = some v := by
  obtain ⟨u, hu⟩ := Option.isSome_iff_exists.mp h
  exact set_same v hu
theorem set_blk {W : World} {b g i j : Nat} (v : Value) (h : ¬ b = g) : (W.setCell ⟨g, i, none⟩ v).cell? ⟨b, j, none⟩ = W.cell? ⟨b, j, none⟩ :=
  World.cell?_setCell_other _ ⟨g, i, none⟩ ⟨b, j, none⟩ v (fun e => h (by cases e; rfl))
theorem set_off {W : World} {g i j : Nat} (v : Value) (h : ¬ j = i) : (W.setCell ⟨g, i, none⟩ v).cell? ⟨g, j, none⟩ = W.cell? ⟨g, j, none⟩ :=
  World.cell?_setCell_other _ ⟨g, i, none⟩ ⟨g, j, none⟩ v (fun e => h (by cases e; rfl))
def hasB (ax ay bx b_y px py : Int) : Bool := ((ax - px) * (b_y - py) - (ay - py) * (bx - px) == 0) && decide ((ax - px) * (bx - px) + (ay - py) * (b_y - py) ≤ 0)
theorem hasB_no {ax ay bx b_y px py : Int} (h : ((ax - px) * (b_y - py) - (ay - py) * (bx - px) == 0) = false) : hasB ax ay bx b_y px py = false := by unfold hasB; rw [h]; rfl
theorem hasB_yes {ax ay bx b_y px py : Int} (h : ((ax - px) * (b_y - py) - (ay - py) * (bx - px) == 0) = true) : hasB ax ay bx b_y px py = decide ((ax - px) * (bx - px) + (ay - py) * (b_y - py) ≤ 0) := by unfold hasB; rw [h]; rfl
set_option maxHeartbeats 6400000 in
theorem has_any (ax ay bx b_y px py : Int) (w : World) (ha : ptB ax ay = true) (hb : ptB bx b_y = true) (hp : ptB px py = true) :
    Calls Try.prog 80 #[.agg #[.int .i64 ax, .int .i64 ay, .int .i64 bx, .int .i64 b_y], .agg #[.int .i64 px, .int .i64 py]] w fun e w' => e = .returned (.bool (hasB ax ay bx b_y px py)) ∧ Below w.heap.size w w' := by
  have h1 := ptB_true ha
  have h2 := ptB_true hb
  have h3 := ptB_true hp
  clear ha hb hp
  have p1 := prod_bd (x := ax - px) (y := b_y - py) 2000 2000 (by omega) (by omega)
  have p2 := prod_bd (x := ay - py) (y := bx - px) 2000 2000 (by omega) (by omega)
  have p3 := prod_bd (x := ax - px) (y := bx - px) 2000 2000 (by omega) (by omega)
  have p4 := prod_bd (x := ay - py) (y := b_y - py) 2000 2000 (by omega) (by omega)
  go_enter Try.func80, Try.ntmps80
  go_upto_region 1 with fail
  go_cut [5, 6] (fun s5 s6 wx => ∃ g h : Nat, s5 = .pointer (some ⟨g, 0, none⟩) ∧ s6 = .pointer (some ⟨h, 0, none⟩) ∧ wx.cell? ⟨g, 0, none⟩ = some (.int .i64 (ax - px)) ∧ wx.cell? ⟨g, 1, none⟩ = some (.int .i64 (ay - py)) ∧ wx.cell? ⟨h, 0, none⟩ = some (.int .i64 (bx - px)) ∧ wx.cell? ⟨h, 1, none⟩ = some (.int .i64 (b_y - py)) ∧ Below w.heap.size w wx)
  case first =>
    go_region_held3 (fun wx => wx.cell? ⟨w.heap.size, 0, none⟩ = some (.int .i64 ax) ∧ wx.cell? ⟨w.heap.size, 1, none⟩ = some (.int .i64 ay) ∧ wx.cell? ⟨w.heap.size, 2, none⟩ = some (.int .i64 bx) ∧ wx.cell? ⟨w.heap.size, 3, none⟩ = some (.int .i64 b_y) ∧ wx.cell? ⟨w.heap.size + 1, 0, none⟩ = some (.int .i64 px) ∧ wx.cell? ⟨w.heap.size + 1, 1, none⟩ = some (.int .i64 py))
      (first | (simp [*, go_sem]; done) | (go_split_ands; refine ⟨?_, ?_, ?_, ?_, ?_, ?_⟩ <;> ((repeat (with_reducible refine keepF (by assumption) ?_)); first | assumption | exact keep1 (by assumption) (by assumption) | exact keepA _ (by assumption) | exact keepS (by assumption) (by assumption))))
      (first
        | (go_at_call_of 50 (Value.agg #[.int .i64 ax, .int .i64 ay]); refine (minus_any _ _ _ _ _ (by omega) (by omega)).mono ?_; rintro e w1 ⟨rfl, hx1⟩; obtain ⟨hc1, hf1⟩ := bcell hx1; have y1 := hx1.size; (try simp at y1); (try have q10 : w.heap.size < w1.heap.size ∧ w.heap.size < w1.heap.size + 1 ∧ ¬ (w1.heap.size = w.heap.size) ∧ ¬ (w.heap.size = w1.heap.size) := (by omega)); (try have q11 : w.heap.size + 1 < w1.heap.size ∧ w.heap.size + 1 < w1.heap.size + 1 ∧ ¬ (w1.heap.size = w.heap.size + 1) ∧ ¬ (w.heap.size + 1 = w1.heap.size) := (by omega)); (try have q12 : w.heap.size + 1 + 1 < w1.heap.size ∧ w.heap.size + 1 + 1 < w1.heap.size + 1 ∧ ¬ (w1.heap.size = w.heap.size + 1 + 1) ∧ ¬ (w.heap.size + 1 + 1 = w1.heap.size) := (by omega)); (try have q13 : w.heap.size + 1 + 1 + 1 < w1.heap.size ∧ w.heap.size + 1 + 1 + 1 < w1.heap.size + 1 ∧ ¬ (w1.heap.size = w.heap.size + 1 + 1 + 1) ∧ ¬ (w.heap.size + 1 + 1 + 1 = w1.heap.size) := (by omega)))
        | (go_at_call_of 50 (Value.agg #[.int .i64 bx, .int .i64 b_y]); refine (minus_any _ _ _ _ _ (by omega) (by omega)).mono ?_; rintro e w2 ⟨rfl, hx2⟩; obtain ⟨hc2, hf2⟩ := bcell hx2; have y2 := hx2.size; (try simp at y2); (try have q20 : w.heap.size < w2.heap.size ∧ w.heap.size < w2.heap.size + 1 ∧ ¬ (w2.heap.size = w.heap.size) ∧ ¬ (w.heap.size = w2.heap.size) := (by omega)); (try have q21 : w.heap.size + 1 < w2.heap.size ∧ w.heap.size + 1 < w2.heap.size + 1 ∧ ¬ (w2.heap.size = w.heap.size + 1) ∧ ¬ (w.heap.size + 1 = w2.heap.size) := (by omega)); (try have q22 : w.heap.size + 1 + 1 < w2.heap.size ∧ w.heap.size + 1 + 1 < w2.heap.size + 1 ∧ ¬ (w2.heap.size = w.heap.size + 1 + 1) ∧ ¬ (w.heap.size + 1 + 1 = w2.heap.size) := (by omega)); (try have q23 : w.heap.size + 1 + 1 + 1 < w2.heap.size ∧ w.heap.size + 1 + 1 + 1 < w2.heap.size + 1 ∧ ¬ (w2.heap.size = w.heap.size + 1 + 1 + 1) ∧ ¬ (w.heap.size + 1 + 1 + 1 = w2.heap.size) := (by omega)); (try have q24 : w1.heap.size < w2.heap.size ∧ w1.heap.size < w2.heap.size + 1 ∧ ¬ (w2.heap.size = w1.heap.size) ∧ ¬ (w1.heap.size = w2.heap.size) := (by omega)); (try have q25 : w1.heap.size + 1 < w2.heap.size ∧ w1.heap.size + 1 < w2.heap.size + 1 ∧ ¬ (w2.heap.size = w1.heap.size + 1) ∧ ¬ (w1.heap.size + 1 = w2.heap.size) := (by omega))))
    all_goals (go_wp2_with fail; go_meet)
    all_goals refine ⟨_, _, rfl, rfl, ?_, ?_, ?_, ?_, ?_⟩
    all_goals (try (simp [*, go_sem, set_is, set_blk, set_off]; done))
    all_goals (try (rw [set_blk _ (by omega), set_blk _ (by omega)]; first | (refine pair_0 (u := .int .i64 0) _ _ (keep1 (by assumption) (keepA _ (by simp [go_sem]))); done) | (refine pair_1 (u := .int .i64 0) _ _ (keep1 (by assumption) (keepA _ (by simp [go_sem]))); done)))
    all_goals (try ((first | refine pair_0 (u := .int .i64 0) _ _ ?_ | refine pair_1 (u := .int .i64 0) _ _ ?_); rw [set_blk _ (by omega), set_blk _ (by omega)]; exact keep1 (by assumption) (keepA _ (by simp [go_sem]))))
    all_goals (try (repeat' (first | exact nr _ | apply na | apply Below.drew | apply nd | refine pair_below _ _ (by omega) ?_ | refine nt ?_ (by assumption))))
  case rest =>
    obtain ⟨g, h, rfl, rfl, k0, k1, k2, k3, hbx⟩ := hcut
    have z0 : g < wc.heap.size := World.block_lt_of_cell? _ _ k0
    have z1 : h < wc.heap.size := World.block_lt_of_cell? _ _ k2
    have HB := Lib.hid hbx
    clear hbx
    rcases hq : ((ax - px) * (b_y - py) - (ay - py) * (bx - px) == 0) with _ | _
    · have HR := Lib.hid (hasB_no hq)
      have HQ : ((ax - px) * (b_y - py) - (ay - py) * (bx - px) = 0) = False := by simpa using hq
      clear hq
      go_wp2_with fail
      refine (pcross_any _ _ _ _ _ (by omega) (by omega)).mono ?_; rintro e w3 ⟨rfl, hx3⟩
      go_wp2_with fail
      go_ret
      exact ⟨ret_bool HR.out.symm, nt HB.out hx3⟩
    · have HR := Lib.hid (hasB_yes hq)
      have HQ : ((ax - px) * (b_y - py) - (ay - py) * (bx - px) = 0) = True := by simpa using hq
      clear hq
      go_wp2_with fail
      refine (pcross_any _ _ _ _ _ (by omega) (by omega)).mono ?_; rintro e w3 ⟨rfl, hx3⟩; obtain ⟨hc3, hf3⟩ := bcell hx3
      go_wp2_with fail
      refine (pdot_any _ _ _ _ _ (by omega) (by omega)).mono ?_; rintro e w4 ⟨rfl, hx4⟩
      go_wp2_with fail
      go_ret
      exact ⟨rfl, nt (nt HB.out hx3) hx4⟩
theorem mul_sq (a : Int) : 0 ≤ a * a := by
  rw [← Int.natAbs_mul_self]
  omega
theorem same_side {u v s t : Int} (h : u * t = s * v) (hd : u * v + s * t ≤ 0) : u * v ≤ 0 := by
  rcases Int.lt_or_le 0 (u * v) with hp | hp
  · have hn : s * t < 0 := by omega
    have h1 : (u * v) * (s * t) < 0 := Int.mul_neg_of_pos_of_neg hp hn
    have h2 : (u * v) * (s * t) = (s * v) * (s * v) := by
      rw [show (u * v) * (s * t) = (u * t) * (s * v) by rw [Int.mul_assoc, Int.mul_assoc, Int.mul_left_comm v s t, Int.mul_comm v t, Int.mul_left_comm s t v], h]
    have h3 := mul_sq (s * v)
    omega
  · exact hp
theorem apart_of {u v : Int} (h : u * v ≤ 0) : (u ≤ 0 ∧ 0 ≤ v) ∨ (v ≤ 0 ∧ 0 ≤ u) := by
  rcases Int.lt_or_le 0 u with h1 | h1
  · rcases Int.lt_or_le 0 v with h2 | h2
    · have := Int.mul_pos h1 h2
      omega
    · omega
  · rcases Int.lt_or_le v 0 with h2 | h2
    · rcases Int.lt_or_le u 0 with h3 | h3
      · have := Int.mul_pos_of_neg_of_neg h3 h2
        omega
      · omega
    · omega
theorem apart_mul {u v : Int} (h : (u ≤ 0 ∧ 0 ≤ v) ∨ (v ≤ 0 ∧ 0 ≤ u)) : u * v ≤ 0 := by
  rcases h with ⟨h1, h2⟩ | ⟨h1, h2⟩
  · exact Int.mul_nonpos_of_nonpos_of_nonneg h1 h2
  · exact Int.mul_nonpos_of_nonneg_of_nonpos h2 h1
def btwB (ax ay bx b_y px py : Int) : Bool := decide ((ax ≤ px ∧ px ≤ bx ∨ bx ≤ px ∧ px ≤ ax) ∧ (ay ≤ py ∧ py ≤ b_y ∨ b_y ≤ py ∧ py ≤ ay))
theorem cross_turn (ax ay bx b_y px py : Int) : (ax - px) * (b_y - py) - (ay - py) * (bx - px) = crossI ax ay bx b_y px py := by
  unfold crossI
  simp only [Int.sub_mul, Int.mul_sub]
  have c1 := Int.mul_comm bx ay
  have c2 := Int.mul_comm px ay
  have c3 := Int.mul_comm bx py
  have c4 := Int.mul_comm px b_y
  have c5 := Int.mul_comm ax ay
  have c6 := Int.mul_comm px py
  have c7 := Int.mul_comm b_y ax
  omega
theorem has_eq (ax ay bx b_y px py : Int) : hasB ax ay bx b_y px py = ((crossI ax ay bx b_y px py == 0) && btwB ax ay bx b_y px py) := by
  unfold hasB btwB
  rw [cross_turn]
  rcases h : (crossI ax ay bx b_y px py == 0) with _ | _
  · rfl
  simp only [Bool.true_and, decide_eq_decide]
  have h0 : (ax - px) * (b_y - py) - (ay - py) * (bx - px) = 0 := by rw [cross_turn]; simpa using h
  constructor
  · intro hd
    have h1 := apart_of (same_side (u := ax - px) (v := bx - px) (s := ay - py) (t := b_y - py) (by omega) hd)
    have h2 := apart_of (same_side (u := ay - py) (v := b_y - py) (s := ax - px) (t := bx - px) (by omega) (by omega))
    omega
  · intro hd
    have h1 := apart_mul (u := ax - px) (v := bx - px) (by omega)
    have h2 := apart_mul (u := ay - py) (v := b_y - py) (by omega)
    omega
theorem between_any (ax ay bx b_y px py : Int) (w : World) :
    Calls Try.prog 108 #[.agg #[.int .i64 ax, .int .i64 ay, .int .i64 bx, .int .i64 b_y], .agg #[.int .i64 px, .int .i64 py]] w fun e w' => e = .returned (.bool (btwB ax ay bx b_y px py)) ∧ Below w.heap.size w w' := by
  go_enter Try.func108, Try.ntmps108
  go_wp2_with (go_at_call 72; refine (inRange_any _ _ _ _).mono ?_; rintro e w' ⟨rfl, rfl⟩)
  all_goals go_ret
  all_goals refine ⟨ret_bool ?_, na (na (nr _) _) _⟩
  all_goals (unfold btwB; rw [Bool.eq_iff_iff]; simp; omega)
theorem specHas_any (ax ay bx b_y px py : Int) (w : World) (ha : ptB ax ay = true) (hb : ptB bx b_y = true) (hp : ptB px py = true) :
    Calls Try.prog 94 #[.agg #[.int .i64 ax, .int .i64 ay, .int .i64 bx, .int .i64 b_y], .agg #[.int .i64 px, .int .i64 py]] w fun e w' => e = .returned (.bool (hasB ax ay bx b_y px py)) ∧ Below w.heap.size w w' := by
  have HR := Lib.hid (has_eq ax ay bx b_y px py)
  have VA := Lib.hid ha
  have VB := Lib.hid hb
  have VP := Lib.hid hp
  clear ha hb hp
  go_enter Try.func94, Try.ntmps94
  rcases hq : (crossI ax ay bx b_y px py == 0) with _ | _
  · have HR2 := Lib.hid (show hasB ax ay bx b_y px py = false by rw [HR.out, hq]; rfl)
    have HQ : (crossI ax ay bx b_y px py = 0) = False := by simpa using hq
    clear hq
    go_wp2_with fail
    refine (specCross_any _ _ _ _ _ _ _ VA.out VB.out VP.out).mono ?_; rintro e w1 ⟨rfl, hb1⟩
    go_wp2_with fail
    go_ret
    exact ⟨ret_bool HR2.out.symm, by repeat' (first | exact nr _ | apply na | apply Below.drew | apply nd | refine nt ?_ (by assumption))⟩
  · have HQ : (crossI ax ay bx b_y px py = 0) = True := by simpa using hq
    clear hq
    go_wp2_with fail
    refine (specCross_any _ _ _ _ _ _ _ VA.out VB.out VP.out).mono ?_; rintro e w1 ⟨rfl, hb1⟩; obtain ⟨hc1, hf1, hz1⟩ := bc2 w.heap.size hb1 (by simp)
    go_wp2_with fail
    refine (between_any _ _ _ _ _ _ _).mono ?_; rintro e w2 ⟨rfl, hb2⟩
    go_wp2_with fail
    go_ret
    exact ⟨ret_bool HR.out.symm, by repeat' (first | exact nr _ | apply na | apply Below.drew | apply nd | refine nt ?_ (by assumption))⟩
def pHas : List DArg → Option (Value × List Prop)
  | [.v (.agg ⟨[.int .i64 ax, .int .i64 ay, .int .i64 bx, .int .i64 b_y]⟩), .v (.agg ⟨[.int .i64 px, .int .i64 py]⟩)] => some (.bool (hasB ax ay bx b_y px py), [ptB ax ay = true, ptB bx b_y = true, ptB px py = true])
  | _ => none
def pSgS : List DArg → Option (Value × List Prop)
  | [.v (.agg ⟨[.int .i64 a, .int .i64 b, .int .i64 c, .int .i64 d]⟩)] => some (.bool (segB a b c d), [])
  | _ => none
def pTrn : List DArg → Option (Value × List Prop)
  | [.v (.agg ⟨[.int .i64 ax, .int .i64 ay]⟩), .v (.agg ⟨[.int .i64 bx, .int .i64 b_y]⟩), .v (.agg ⟨[.int .i64 cx, .int .i64 cy]⟩)] => some (iv (crossI ax ay bx b_y cx cy), [ptB ax ay = true, ptB bx b_y = true, ptB cx cy = true])
  | _ => none
set_option maxRecDepth 100000 in
theorem tr_sCross (ax ay bx b_y cx cy : Int) : bodyV Try.prog (tabE B0) 30 12 89 [.v (.agg #[iv ax, iv ay]), .v (.agg #[iv bx, iv b_y]), .v (.agg #[iv cx, iv cy])] = .fin (.int .i64 (ŵ (ŵ (ŵ (bx - ax) * ŵ (cy - ay)) - ŵ (ŵ (b_y - ay) * ŵ (cx - ax))))) [] := by kernel_rfl
set_option maxRecDepth 100000 in
theorem tr_iTurn (ax ay bx b_y cx cy : Int) : bodyV Try.prog (tabE B0) 30 12 57 [.v (.agg #[iv ax, iv ay]), .v (.agg #[iv bx, iv b_y]), .v (.agg #[iv cx, iv cy])] = .fin (.int .i64 (ŵ (ŵ (ŵ (bx - ax) * ŵ (cy - ay)) - ŵ (ŵ (b_y - ay) * ŵ (cx - ax))))) [] := by kernel_rfl
theorem crs_bd {ax ay bx b_y cx cy : Int} (h1 : ptB ax ay = true) (h2 : ptB bx b_y = true) (h3 : ptB cx cy = true) : (-(2000 * 2000) ≤ (bx - ax) * (cy - ay) ∧ (bx - ax) * (cy - ay) ≤ 2000 * 2000) ∧ (-(2000 * 2000) ≤ (b_y - ay) * (cx - ax) ∧ (b_y - ay) * (cx - ax) ≤ 2000 * 2000) := by
  have a1 := ptB_true h1
  have a2 := ptB_true h2
  have a3 := ptB_true h3
  exact ⟨mul_bd 2000 2000 (by omega) (by omega), mul_bd 2000 2000 (by omega) (by omega)⟩
theorem res_sCross {ax ay bx b_y cx cy : Int} (h1 : ptB ax ay = true) (h2 : ptB bx b_y = true) (h3 : ptB cx cy = true) : Res Try.prog 89 [.v (.agg #[iv ax, iv ay]), .v (.agg #[iv bx, iv b_y]), .v (.agg #[iv cx, iv cy])] (iv (crossI ax ay bx b_y cx cy)) := by
  refine bodyV_res mixed (tabE_ok B0_ok) (m := 30) (n := 12) rfl ?_
  rw [tr_sCross]
  have a1 := ptB_true h1
  have a2 := ptB_true h2
  have a3 := ptB_true h3
  obtain ⟨b1, b2⟩ := crs_bd h1 h2 h3
  simp (disch := omega) only [wr]
  rfl
theorem res_iTurn {ax ay bx b_y cx cy : Int} (h1 : ptB ax ay = true) (h2 : ptB bx b_y = true) (h3 : ptB cx cy = true) : Res Try.prog 57 [.v (.agg #[iv ax, iv ay]), .v (.agg #[iv bx, iv b_y]), .v (.agg #[iv cx, iv cy])] (iv (crossI ax ay bx b_y cx cy)) := by
  refine bodyV_res mixed (tabE_ok B0_ok) (m := 30) (n := 12) rfl ?_
  rw [tr_iTurn]
  have a1 := ptB_true h1
  have a2 := ptB_true h2
  have a3 := ptB_true h3
  obtain ⟨b1, b2⟩ := crs_bd h1 h2 h3
  simp (disch := omega) only [wr]
  rfl
set_option maxRecDepth 100000 in
theorem tr_iVsg (a b c d : Int) : bodyV Try.prog (tabE T1) 30 12 109 [.v (.agg #[iv a, iv b, iv c, iv d])] = brT (ptB a b && ptB c d) (.fin (.bool (negB true (a == c && (b == d && true)))) []) (.fin (.bool (false)) []) := by kernel_rfl
theorem res_iVsg (a b c d : Int) : Res Try.prog 109 [.v (.agg #[iv a, iv b, iv c, iv d])] (.bool (segB a b c d)) := by
  refine bodyV_res mixed (tabE_ok T1_ok) (m := 30) (n := 12) rfl ?_
  rw [tr_iVsg]
  unfold segB eqB negB
  cases ptB a b <;> cases ptB c d <;> simp [brT, Tree.ok]
def TRl : Tab := fun f ds => match f with
  | 80 => pHas ds
  | 94 => pHas ds
  | 109 => pSgS ds
  | 89 => pTrn ds
  | 57 => pTrn ds
  | _ => T1 f ds
theorem pHas_i {ds : List DArg} {v : Value} {C : List Prop} (h : pHas ds = some (v, C)) (hC : AllP C) : Res Try.prog 80 ds v := by
  unfold pHas at h
  split at h
  · obtain ⟨rfl, rfl⟩ : _ ∧ _ := by simpa using h
    exact res_calls (by kernel_rfl) rfl rfl fun w => has_any _ _ _ _ _ _ w hC.1 hC.2.1 hC.2.2.1
  · cases h
theorem pHas_s {ds : List DArg} {v : Value} {C : List Prop} (h : pHas ds = some (v, C)) (hC : AllP C) : Res Try.prog 94 ds v := by
  unfold pHas at h
  split at h
  · obtain ⟨rfl, rfl⟩ : _ ∧ _ := by simpa using h
    exact res_calls (by kernel_rfl) rfl rfl fun w => specHas_any _ _ _ _ _ _ w hC.1 hC.2.1 hC.2.2.1
  · cases h
theorem pSgS_i {ds : List DArg} {v : Value} {C : List Prop} (h : pSgS ds = some (v, C)) : Res Try.prog 109 ds v := by
  unfold pSgS at h
  split at h
  · obtain ⟨rfl, rfl⟩ : _ ∧ _ := by simpa using h
    exact res_iVsg _ _ _ _
  · cases h
theorem pTrn_s {ds : List DArg} {v : Value} {C : List Prop} (h : pTrn ds = some (v, C)) (hC : AllP C) : Res Try.prog 89 ds v := by
  unfold pTrn at h
  split at h
  · obtain ⟨rfl, rfl⟩ : _ ∧ _ := by simpa using h
    exact res_sCross hC.1 hC.2.1 hC.2.2.1
  · cases h
theorem pTrn_i {ds : List DArg} {v : Value} {C : List Prop} (h : pTrn ds = some (v, C)) (hC : AllP C) : Res Try.prog 57 ds v := by
  unfold pTrn at h
  split at h
  · obtain ⟨rfl, rfl⟩ : _ ∧ _ := by simpa using h
    exact res_iTurn hC.1 hC.2.1 hC.2.2.1
  · cases h
theorem TRl_ok : TabOk Try.prog TRl := by
  intro f ds v C h hC
  unfold TRl at h
  (try split at h)
  all_goals first | with_reducible exact pHas_i h hC | with_reducible exact pHas_s h hC | with_reducible exact pSgS_i h | with_reducible exact pSgS_s h | with_reducible exact pTrn_s h hC | with_reducible exact pTrn_i h hC | exact T1_ok _ _ _ _ h hC
theorem loop_det2 {P : Program} {c : Code} {N M : Nat} {X : Type} (St_of : X → St) (Inv : X → Prop) (μ : X → Nat) (re : X → Ex) (rs : X → St) (keep : Ex → List Nat) (hM : ∀ x, (St_of x).mem.length ≤ M)
    (h : ∀ x, Inv x → ∃ e' s', Det P c (St_of x) e' s' ∧ match e' with
      | .normal => ∃ x' π, Inv x' ∧ μ x' < μ x ∧ re x' = re x ∧ rs x' = rs x ∧ WS N π (cutS M (keep .normal) s') (St_of x')
      | e => e = re x ∧ ∃ π, WS N π (cutS M (keep e) s') (rs x))
    {x : X} (hx : Inv x) {s : St} {π : List (Option Nat)} (hN : s.mem.length = N) (hs : WS N π s (St_of x)) : Det P (.loop c) s (re x) (rs x) := by
  intro w0 a w hc
  have hρ := con_dom hc
  rw [hN] at hρ
  have hρ' : ∀ {x' π' s'}, WS N π' s' (St_of x') → ∀ n, (St_of x').mem.length ≤ n → w0.ρ0 n = none := fun h n hn => hρ n (Nat.le_trans (Nat.le_of_ble_eq_true h.1) hn)
  refine wpIn_loop_ghost (fun n a w => ∃ x', Inv x' ∧ μ x' = n ∧ re x' = re x ∧ rs x' = rs x ∧ (∀ n, (St_of x').mem.length ≤ n → w0.ρ0 n = none) ∧ Con w0 (St_of x').fs a w) (μ x) ⟨x, hx, rfl, rfl, rfl, hρ' hs, weak_con hs hρ hc⟩ ?_
  rintro n a w ⟨x', hI, rfl, hre, hrs, hdom, hcc⟩
  obtain ⟨e', s', hd, hend⟩ := h x' hI
  have hdom2 : ∀ n, M ≤ n → w0.ρ0 n = none := fun n hn => hdom n (Nat.le_trans (hM x') hn)
  refine wpIn_mono (hd w0 a w hcc) ?_
  rintro e a' w' ⟨rfl, hcc'⟩
  cases e' with
  | normal =>
    obtain ⟨x2, π2, g1, g2, g3, g4, g5⟩ := hend
    exact ⟨_, g2, x2, g1, rfl, g3.trans hre, g4.trans hrs, hρ' g5, weak_con g5 hρ (cut_con hdom2 hcc')⟩
  | exit id =>
    obtain ⟨g1, π2, g2⟩ := hend
    exact ⟨by rw [← hre, ← g1], by rw [← hrs]; exact weak_con g2 hρ (cut_con hdom2 hcc')⟩
  | ret =>
    obtain ⟨g1, π2, g2⟩ := hend
    exact ⟨by rw [← hre, ← g1], by rw [← hrs]; exact weak_con g2 hρ (cut_con hdom2 hcc')⟩
theorem loop_run2 {P : Program} (hm : P.follows .mixedOrders = true) {E : Env} (hE : EnvOk P E) {m n : Nat} {lt : LT} {j : Nat} {c : Code} {N : Nat} {X : Type} (St_of : X → St) (Inv : X → Prop) (μ : X → Nat) (re : X → Ex) (rs : X → St) (keep : Ex → List Nat) {M : Nat} (hM : ∀ x, Nat.ble (St_of x).mem.length M = true) (hL : LoopsGood P lt j c)
    (h : ∀ x, Inv x → (bodyL P E m n lt j c keep M (St_of x)).ok (RoundEnd N St_of Inv μ re rs x) (fun _ _ => False))
    {x : X} (hx : Inv x) {s : St} {π : List (Option Nat)} (hN : s.mem.length = N) (hs : WS N π s (St_of x)) : Det P (.loop c) s (re x) (rs x) :=
  loop_det2 (M := M) St_of Inv μ re rs keep (fun x => Nat.le_of_ble_eq_true (hM x)) (fun x hx => by
    obtain ⟨e', s', h1, h2⟩ := body_det hm hE hL (h x hx)
    refine ⟨e', s', h1, ?_⟩
    unfold RoundEnd at h2
    cases e' <;> exact h2) hx hN hs
def EM : Env := mkE B0 (fun _ _ => none) (fun _ => noL)
theorem EM_ok : EnvOk Try.prog EM := mkEOk B0_ok (fun _ _ _ _ _ h => (by cases h)) (fun _ _ _ => noL_good)
theorem vI0 {k : Int} {n : Nat} (h : n = 0) : Value.int .i64 k = .int .i64 (k + (n : Int)) := by subst h; simp
theorem fn_is {f : FuncId} {fn g : Func} (h : Try.prog.funcs[f]? = some g) (hf : Try.prog.funcs[f]? = some fn) : g = fn := by rw [h] at hf; simpa using hf
def kP (p : Pt) : List Pt → Nat
  | [] => 0
  | q :: r => if pltB q p then kP p r + 1 else 0
def insP (p : Pt) : List Pt → List Pt
  | [] => [p]
  | q :: r => if pltB q p then q :: insP p r else if q = p then q :: r else p :: q :: r
theorem kP_le (p : Pt) : ∀ ps : List Pt, kP p ps ≤ ps.length
  | [] => Nat.le_refl _
  | q :: r => by
    have := kP_le p r
    simp only [kP, List.length_cons]
    split <;> omega
theorem insP_is (p : Pt) : ∀ ps : List Pt, insP p ps = if kP p ps < ps.length ∧ ps.getD (kP p ps) (0, 0) = p then ps else ps.take (kP p ps) ++ (p :: ps.drop (kP p ps))
  | [] => by simp [insP, kP]
  | q :: r => by
    have ih := insP_is p r
    simp only [insP, kP]
    split
    · rw [ih]
      simp only [List.length_cons, Nat.add_lt_add_iff_right, List.getD_cons_succ, List.take_succ_cons, List.drop_succ_cons, List.cons_append]
      split <;> rfl
    · simp
theorem insP_mem (p : Pt) : ∀ (ps : List Pt) (z : Pt), z ∈ insP p ps ↔ z ∈ ps ∨ z = p
  | [], z => by simp [insP]
  | q :: r, z => by
    have ih := insP_mem p r z
    simp only [insP]
    split
    · simp only [List.mem_cons, ih]
      constructor
      · rintro (h | h | h) <;> simp [h]
      · rintro ((h | h) | h) <;> simp [h]
    · split
      · rename_i h1 h2
        subst h2
        simp only [List.mem_cons]
        constructor
        · intro h; exact .inl h
        · rintro (h | h)
          · exact h
          · exact .inl h
      · simp only [List.mem_cons]
        constructor
        · rintro (h | h | h) <;> simp [h]
        · rintro ((h | h) | h) <;> simp [h]
theorem plt_trans {a b c : Pt} (h1 : pltB a b = true) (h2 : pltB b c = true) : pltB a c = true := by
  rw [pltB_iff] at *
  omega
theorem plt_irr {a : Pt} : pltB a a = false := by
  rw [← Bool.not_eq_true, pltB_iff]
  omega
theorem plt_tri {a b : Pt} (h : pltB a b = false) (hne : a ≠ b) : pltB b a = true := by
  rw [← Bool.not_eq_true, pltB_iff] at h
  rw [pltB_iff]
  have : ¬ (a.1 = b.1 ∧ a.2 = b.2) := fun ⟨h1, h2⟩ => hne (Prod.ext h1 h2)
  omega
def Asc (ps : List Pt) : Prop := ps.Pairwise fun a b => pltB a b = true
theorem insP_asc (p : Pt) : ∀ {ps : List Pt}, Asc ps → Asc (insP p ps)
  | [], _ => by simp [insP, Asc]
  | q :: r, h => by
    have h' := List.pairwise_cons.1 h
    have ih := insP_asc p h'.2
    simp only [insP]
    split
    · rename_i hq
      refine List.pairwise_cons.2 ⟨fun z hz => ?_, ih⟩
      rcases (insP_mem p r z).1 hz with hz | rfl
      · exact h'.1 z hz
      · exact hq
    · rename_i hq
      split
      · exact h
      · rename_i hne
        have hpq : pltB p q = true := plt_tri (by simpa using hq) hne
        refine List.pairwise_cons.2 ⟨fun z hz => ?_, h⟩
        rcases List.mem_cons.1 hz with rfl | hz
        · exact hpq
        · exact plt_trans hpq (h'.1 z hz)
theorem insP_len (p : Pt) : ∀ {ps : List Pt}, Asc ps → (insP p ps).length = if p ∈ ps then ps.length else ps.length + 1
  | [], _ => by simp [insP]
  | q :: r, h => by
    have h' := List.pairwise_cons.1 h
    have ih := insP_len p h'.2
    simp only [insP]
    split
    · rename_i hq
      have hne : p ≠ q := fun e => by rw [e, plt_irr] at hq; cases hq
      simp only [List.length_cons, ih, List.mem_cons, hne, false_or]
      split <;> rfl
    · split
      · rename_i hq
        simp [hq]
      · rename_i hq hne
        have hpq : pltB p q = true := plt_tri (by simpa using hq) hne
        have hn : p ∉ q :: r := fun hm => by
          rcases List.mem_cons.1 hm with rfl | hm
          · rw [plt_irr] at hpq; cases hpq
          · have := plt_trans hpq (h'.1 p hm)
            rw [plt_irr] at this; cases this
        rw [if_neg hn]
        rfl
theorem asc_ext : ∀ {a b : List Pt}, Asc a → Asc b → (∀ z, z ∈ a ↔ z ∈ b) → a = b
  | [], [], _, _, _ => rfl
  | [], y :: b, _, _, h => by simpa using h y
  | x :: a, [], _, _, h => by simpa using h x
  | x :: a, y :: b, ha, hb, h => by
    have ha' := List.pairwise_cons.1 ha
    have hb' := List.pairwise_cons.1 hb
    have hxy : x = y := by
      rcases List.mem_cons.1 ((h x).1 List.mem_cons_self) with e | hx
      · exact e
      rcases List.mem_cons.1 ((h y).2 List.mem_cons_self) with e | hy
      · exact e.symm
      have := plt_trans (hb'.1 x hx) (ha'.1 y hy)
      rw [plt_irr] at this
      cases this
    subst hxy
    have nx : ∀ {l : List Pt}, Asc (x :: l) → x ∉ l := fun hl hm => by
      have := (List.pairwise_cons.1 hl).1 x hm
      rw [plt_irr] at this
      cases this
    rw [asc_ext ha'.2 hb'.2 fun z => ?_]
    constructor
    · intro hz
      rcases List.mem_cons.1 ((h z).1 (List.mem_cons_of_mem _ hz)) with rfl | hz'
      · exact absurd hz (nx ha)
      · exact hz'
    · intro hz
      rcases List.mem_cons.1 ((h z).2 (List.mem_cons_of_mem _ hz)) with rfl | hz'
      · exact absurd hz (nx hb)
      · exact hz'
def srtO (o : List Pt) (ps : List Pt) : List Pt := ps.foldl (fun o p => insP p o) o
def srtL (ps : List Pt) : List Pt := srtO [] ps
theorem srtO_asc : ∀ (ps : List Pt) {o : List Pt}, Asc o → Asc (srtO o ps)
  | [], _, h => h
  | p :: r, _, h => srtO_asc r (insP_asc p h)
theorem srtO_mem : ∀ (ps : List Pt) (o : List Pt) (z : Pt), z ∈ srtO o ps ↔ z ∈ o ∨ z ∈ ps
  | [], o, z => by simp [srtO]
  | p :: r, o, z => by
    have := srtO_mem r (insP p o) z
    simp only [srtO, List.foldl_cons] at this ⊢
    rw [this, insP_mem, List.mem_cons]
    constructor
    · rintro ((h | h) | h) <;> simp [h]
    · rintro (h | h | h) <;> simp [h]
theorem srtL_asc (ps : List Pt) : Asc (srtL ps) := srtO_asc ps List.Pairwise.nil
theorem srtL_mem (ps : List Pt) (z : Pt) : z ∈ srtL ps ↔ z ∈ ps := by
  unfold srtL
  rw [srtO_mem]
  simp
theorem insP_le (p : Pt) : ∀ (ps : List Pt), (insP p ps).length ≤ ps.length + 1
  | [] => by simp [insP]
  | q :: r => by
    have := insP_le p r
    simp only [insP]
    split
    · simp; omega
    · split <;> simp
theorem srtO_le : ∀ (ps o : List Pt), (srtO o ps).length ≤ o.length + ps.length
  | [], o => by simp [srtO]
  | p :: r, o => by
    have h1 := srtO_le r (insP p o)
    have h2 := insP_le p o
    simp only [srtO, List.foldl_cons, List.length_cons] at h1 ⊢
    omega
def pPls : List DArg → Option (Value × List Prop)
  | [.v (.agg ⟨[.int .i64 x, .int .i64 y]⟩), .v (.agg ⟨[.int .i64 z, .int .i64 w]⟩)] => some (.bool (pltB (x, y) (z, w)), [])
  | _ => none
set_option maxRecDepth 100000 in
theorem tr_sPls (x y z w : Int) : bodyV Try.prog (tabE B0) 30 12 97 [.v (.agg #[iv x, iv y]), .v (.agg #[iv z, iv w])] = brT (decide (x < z)) (.fin (.bool (true)) []) (brT (x == z) (.fin (.bool (decide (y < w))) []) (.fin (.bool (false)) [])) := by kernel_rfl
theorem res_sPls (x y z w : Int) : Res Try.prog 97 [.v (.agg #[iv x, iv y]), .v (.agg #[iv z, iv w])] (.bool (pltB (x, y) (z, w))) := by
  refine bodyV_res mixed (tabE_ok B0_ok) (m := 30) (n := 12) rfl ?_
  rw [tr_sPls]
  simp only [brT_ok, Tree.ok, decide_eq_true_eq, decide_eq_false_iff_not, beq_iff_eq, beq_eq_false_iff_ne]
  refine ⟨fun h => ?_, fun h => ⟨fun h2 => ?_, fun h2 => ?_⟩⟩
  all_goals
    congr 1
    rw [Bool.eq_iff_iff, pltB_iff]
    simp only [decide_eq_true_eq, true_iff, iff_false, Bool.false_eq_true, false_iff]
    omega
theorem pPls_ok {ds : List DArg} {v : Value} {C : List Prop} (h : pPls ds = some (v, C)) : Res Try.prog 97 ds v := by
  unfold pPls at h
  split at h
  · obtain ⟨rfl, rfl⟩ : _ ∧ _ := by simpa using h
    exact res_sPls _ _ _ _
  · cases h
def TOl : Tab := fun f ds => match f with
  | 97 => pPls ds
  | f => TRl f ds
theorem TOl_ok : TabOk Try.prog TOl := by
  intro f ds v C h hC
  unfold TOl at h
  (try split at h)
  all_goals first | with_reducible exact pPls_ok h | exact TRl_ok _ _ _ _ h hC
def EOl : Env := tabE TOl
theorem EOl_ok : EnvOk Try.prog EOl := tabE_ok TOl_ok
noncomputable def c_adp : Code := ((loopsOf (codeOf Try.f88))[0]?).getD .skip
def k_adp : Ex → List Nat := keeps [0, 3, 5] [(0, [0, 3, 5])] [4]
def s_adp (ps : List Pt) (p : Pt) : Nat → St := fun i => ⟨(ß 0 ps.length ps.length :: topV :: topV :: .pointer (some ⟨1, 0, none⟩) :: topV :: .int .i64 i :: ω42 []), [some ⟨.row 32 2, .ints (flat ps)⟩, some ⟨.box, .vals [.int .i64 p.1, .int .i64 p.2]⟩]⟩
def re_adp : Nat → Ex := fun _ => .exit 0
def rs_adp (ps : List Pt) (p : Pt) : Nat → St := fun i => ⟨(ß 0 ps.length ps.length :: topV :: topV :: .pointer (some ⟨1, 0, none⟩) :: topV :: .int .i64 ((i + kP p (ps.drop i) : Nat) : Int) :: ω42 []), [some ⟨.row 32 2, .ints (flat ps)⟩, some ⟨.box, .vals [.int .i64 p.1, .int .i64 p.2]⟩]⟩
set_option maxRecDepth 100000 in
theorem tr_adp (ps : List Pt) (p : Pt) (i : Nat) : bodyL Try.prog EOl 30 12 noL 1 c_adp k_adp 2 (s_adp ps p i) = brT (decide ((↑i : Int) < (↑ps.length : Int))) (.need ((0 : Int) ≤ (↑i : Int) ∧ (↑i : Int) < (↑ps.length : Int)) (.need ((0 : Nat) + (↑i : Int).toNat * (2 : Nat) + (2 : Nat) ≤ (flat ps).length) (brT (pltB ((flat ps).getD (0 + (↑i : Int).toNat * (2 : Nat)) 0, (flat ps).getD (0 + (↑i : Int).toNat * (2 : Nat) + 1) 0) (p.fst, p.snd)) (.leaf .normal ⟨(ß 0 (ps.length) (ps.length) :: topV :: topV :: .pointer (some ⟨1, 0, none⟩) :: topV :: .int .i64 (ŵ ((↑i : Int) + 1)) :: ω42 []), [some ⟨.row 32 2, .ints (flat ps)⟩, some ⟨.box, .vals [.int .i64 (p.1), .int .i64 (p.2)]⟩]⟩) (.leaf (.exit 0) ⟨(ß 0 (ps.length) (ps.length) :: topV :: topV :: .pointer (some ⟨1, 0, none⟩) :: topV :: .int .i64 ((↑i : Int)) :: ω42 []), [some ⟨.row 32 2, .ints (flat ps)⟩, some ⟨.box, .vals [.int .i64 (p.1), .int .i64 (p.2)]⟩]⟩)))) (.leaf (.exit 0) ⟨(ß 0 (ps.length) (ps.length) :: topV :: topV :: .pointer (some ⟨1, 0, none⟩) :: topV :: .int .i64 ((↑i : Int)) :: ω42 []), [some ⟨.row 32 2, .ints (flat ps)⟩, some ⟨.box, .vals [.int .i64 (p.1), .int .i64 (p.2)]⟩]⟩) := by kernel_rfl
set_option maxRecDepth 100000 in
theorem nl_adp : loopsOf c_adp = [] := by kernel_rfl
def inv_adp (ps : List Pt) (p : Pt) : Nat → Prop := fun i => i ≤ ps.length
def me_adp (ps : List Pt) (p : Pt) : Nat → Nat := fun i => ps.length - i
def Round_adp (ps : List Pt) (p : Pt) : Prop := ∀ xx : Nat, inv_adp ps p xx → (bodyL Try.prog EOl 30 12 noL 1 c_adp k_adp 2 (s_adp ps p xx)).ok (RoundEnd 2 (s_adp ps p) (inv_adp ps p) (me_adp ps p) re_adp (rs_adp ps p) xx) (fun _ _ => False)
def e_adp (s : St) (k : Ex → St → Tree) : Option Tree := match Nat.beq s.tmps.length 48, pickL s.tmps [0, 3, 5], s.mem with
  | true, [ß 0 n _, .pointer (some ⟨1, 0, none⟩), .int .i64 i], [some ⟨.row 32 2, .ints xs⟩, some ⟨.box, .vals [.int .i64 x, .int .i64 y]⟩] => some (needs [i = 0, xs.length = n * 2, n ≤ 1000000000] (k (.exit 0) ⟨(ß 0 n n :: topV :: topV :: .pointer (some ⟨1, 0, none⟩) :: topV :: .int .i64 ((0 + kP (x, y) ((ptsA n xs).drop 0) : Nat) : Int) :: ω42 []), [some ⟨.row 32 2, .ints xs⟩, some ⟨.box, .vals [.int .i64 x, .int .i64 y]⟩]⟩))
  | _, _, _ => none
theorem kP_no {p q : Pt} {r : List Pt} (h : pltB q p = false) : kP p (q :: r) = 0 := by simp [kP, h]
theorem kP_yes {p q : Pt} {r : List Pt} (h : pltB q p = true) : kP p (q :: r) = kP p r + 1 := by simp [kP, h]
set_option maxRecDepth 100000 in
theorem round_adp (ps : List Pt) (p : Pt) (h : ps.length ≤ 1000000000) : Round_adp ps p := by
  intro i h1
  have h1 : i ≤ ps.length := h1
  rw [tr_adp]
  simp only [brT_ok, Tree.ok, decide_eq_true_eq, decide_eq_false_iff_not, Int.toNat_natCast, Nat.zero_add, flat_length, flat_get0, flat_get1]
  refine ⟨fun hlt => ⟨by omega, by omega, fun g => ?_, fun g => ?_⟩, fun hge => ?_⟩
  · have hd : ps.drop i = ps.getD i (0, 0) :: ps.drop (i + 1) := drop_cons (by omega) _
    have g : pltB (ps.getD i (0, 0)) p = true := g
    have e : i + kP p (ps.drop i) = (i + 1) + kP p (ps.drop (i + 1)) := by rw [hd, kP_yes g]; omega
    rw [wsucc (n := ps.length) (by omega) h]
    refine ⟨i + 1, [], ?_, ?_, rfl, by simp only [rs_adp, e], ?_⟩
    · show i + 1 ≤ ps.length; omega
    · show ps.length - (i + 1) < ps.length - i; omega
    · repeat' (first | exact True.intro | exact rfl | exact fun _ => rfl | (simp; done) | refine And.intro ?_ ?_)
  · have hd : ps.drop i = ps.getD i (0, 0) :: ps.drop (i + 1) := drop_cons (by omega) _
    have g : pltB (ps.getD i (0, 0)) p = false := g
    have e : i + kP p (ps.drop i) = i := by rw [hd, kP_no g]; rfl
    refine ⟨rfl, [], ?_⟩
    simp only [rs_adp, e]
    repeat' (first | exact True.intro | exact rfl | exact fun _ => rfl | (simp; done) | refine And.intro ?_ ?_)
  · have e : i + kP p (ps.drop i) = i := by rw [List.drop_of_length_le (by omega)]; rfl
    refine ⟨rfl, [], ?_⟩
    simp only [rs_adp, e]
    repeat' (first | exact True.intro | exact rfl | exact fun _ => rfl | (simp; done) | refine And.intro ?_ ?_)
set_option maxRecDepth 100000 in
theorem lg_adp : LoopE Try.prog e_adp c_adp := by
  intro s k t F H hlt ht
  unfold e_adp at hlt
  split at hlt
  rotate_left
  · cases hlt
  rename_i hlen hpick hmem
  obtain ⟨tmps, mem⟩ := s
  simp only at hlen hpick hmem
  subst hmem
  obtain rfl := Option.some.inj hlt
  obtain ⟨⟨rfl, h1, h2, _⟩, ht2⟩ := needs_ok ht
  clear ht hlt
  obtain ⟨ps, rfl, rfl⟩ := even_flat h1
  rw [ptsA_flat] at ht2
  refine ⟨_, _, ht2, loop_run mixed EOl_ok (s_adp ps (_, _)) (inv_adp ps (_, _)) (me_adp ps (_, _)) re_adp (rs_adp ps (_, _)) k_adp (fun _ => rfl) (noLoops nl_adp) (round_adp ps (_, _) h2) (x := 0) (Nat.zero_le _) (π := []) rfl ?_⟩
  refine ⟨rfl, rfl, ?_, wvs_spread' [0, 3, 5] hlen rfl ?_⟩
  · repeat' (first | exact True.intro | exact rfl | exact wv_top _ _ | exact fun _ => rfl | assumption | exact Eq.symm (by assumption) | exact vI0 rfl | refine And.intro ?_ ?_)
  · rw [hpick]
    repeat' (first | exact True.intro | exact rfl | exact wv_top _ _ | exact fun _ => rfl | assumption | exact Eq.symm (by assumption) | exact vI0 rfl | refine And.intro ?_ ?_)
theorem Lr_adp {fn : Func} (hf : Try.prog.funcs[88]? = some fn) : LoopsGood Try.prog (lt1 e_adp) 0 (codeOf fn) := by
  obtain rfl := fn_is Try.func88 hf
  exact lt1_good lg_adp
def LAd : FuncId → LT := fun f => match f with
  | 88 => lt1 e_adp
  | _ => noL
def EAd : Env := mkE TOl (fun _ _ => none) LAd
theorem EAd_ok : EnvOk Try.prog EAd := mkEOk TOl_ok (fun _ _ _ _ _ h => (by cases h)) (by
  intro f fn hf
  unfold LAd
  split
  all_goals first | with_reducible exact Lr_adp hf | exact noL_good)
abbrev zB2 (x y : Int) : Option Blk := some ⟨.box, .vals [.int .i64 x, .int .i64 y]⟩
abbrev zB4 (x y z w : Int) : Option Blk := some ⟨.box, .vals [.int .i64 x, .int .i64 y, .int .i64 z, .int .i64 w]⟩
abbrev zR2 (t : Nat) (x y : Int) : Option Blk := some ⟨.row t 2, .vals [.int .i64 x, .int .i64 y]⟩
abbrev zI (x : Int) : Value := .int .i64 x
abbrev zadpF_0 (ps : List Pt) (x : Int) (y : Int) := (some (IntKind.i64, (↑((0 : Nat) + kP (x, y) (List.drop 0 (ptsA ps.length (flat ps)))) : Int)))
abbrev zadpF_1 (ps : List Pt) (x : Int) (y : Int) := (some (IntKind.i64, (↑(0 + kP (x, y) (List.drop 0 (ptsA ps.length (flat ps)))) : Int)))
abbrev zadpF_2 (ps : List Pt) (x : Int) (y : Int) := ((bndI (zadpF_0 ps x y) (↑ps.length : Int)).toNat - (bndI none (0 : Int)).toNat)
abbrev zadpF_3 (ps : List Pt) (x : Int) (y : Int) := ((bndI (zadpF_1 ps x y) (↑ps.length : Int)).toNat - (bndI none 0).toNat)
abbrev zadpF_4 (ps : List Pt) (x : Int) (y : Int) := (bndI (zadpF_0 ps x y) (↑ps.length : Int))
abbrev zadpF_5 (ps : List Pt) (x : Int) (y : Int) := ((bndI none (↑ps.length : Int)).toNat - (bndI (zadpF_0 ps x y) (0 : Int)).toNat)
abbrev zadpF_6 (ps : List Pt) (x : Int) (y : Int) := ((bndI none (↑ps.length : Int)).toNat - (bndI (zadpF_1 ps x y) 0).toNat)
set_option maxRecDepth 100000 in
theorem tr_adpF (ps : List Pt) (x y : Int) : bodyM Try.prog EAd (runM Try.prog EAd 30 12) 30 88 [ß 0 ps.length ps.length, .agg #[.int .i64 x, .int .i64 y]] [some ⟨.row 32 2, .ints (flat ps)⟩] .fin = .need ((0 : Int) = (0 : Int)) (.need ((flat ps).length = ps.length * (2 : Nat)) (.need (ps.length ≤ (1000000000 : Nat)) (brT (decide ((↑(0 + kP (x, y) (List.drop 0 (ptsA ps.length (flat ps)))) : Int) < (↑ps.length : Int))) (.need ((0 : Int) ≤ (↑((0 : Nat) + kP (x, y) (List.drop 0 (ptsA ps.length (flat ps)))) : Int) ∧ (↑((0 : Nat) + kP (x, y) (List.drop 0 (ptsA ps.length (flat ps)))) : Int) < (↑ps.length : Int)) (.need ((0 : Nat) + (↑((0 : Nat) + kP (x, y) (List.drop 0 (ptsA ps.length (flat ps)))) : Int).toNat * (2 : Nat) + (2 : Nat) ≤ (flat ps).length) (brT (negB false ((flat ps).getD (0 + (↑(0 + kP (x, y) (List.drop 0 (ptsA ps.length (flat ps)))) : Int).toNat * 2) 0 == x && ((flat ps).getD (0 + (↑(0 + kP (x, y) (List.drop 0 (ptsA ps.length (flat ps)))) : Int).toNat * 2 + 1) 0 == y && true))) (.fin (ß 0 (ps.length) (ps.length)) [some ⟨.row 32 2, .ints (flat ps)⟩, zB2 x y]) (.need ((0 : Int) ≤ bndI none (0 : Int) ∧ bndI none (0 : Int) ≤ bndI (zadpF_0 ps x y) (↑ps.length : Int) ∧ bndI (zadpF_0 ps x y) (↑ps.length : Int) ≤ (↑ps.length : Int)) (.need (((0 : Nat) + ((zadpF_4 ps x y).toNat - (bndI none (0 : Int)).toNat, Cs.ints (List.take ((zadpF_2 ps x y) * Try.prog.types[(32 : Nat)].size) (List.drop ((0 : Nat) + (bndI none (0 : Int)).toNat * Try.prog.types[(32 : Nat)].size) (flat ps))), [(0 : Nat) + (bndI none (0 : Int)).toNat * Try.prog.types[(32 : Nat)].size + (zadpF_2 ps x y) * Try.prog.types[(32 : Nat)].size ≤ (flat ps).length]).fst) * (16 : Nat) ≤ (140737488355328 : Nat) ∧ (0 : Nat) + ((zadpF_4 ps x y).toNat - (bndI none (0 : Int)).toNat, Cs.ints (List.take ((zadpF_2 ps x y) * Try.prog.types[(32 : Nat)].size) (List.drop ((0 : Nat) + (bndI none (0 : Int)).toNat * Try.prog.types[(32 : Nat)].size) (flat ps))), [(0 : Nat) + (bndI none (0 : Int)).toNat * Try.prog.types[(32 : Nat)].size + (zadpF_2 ps x y) * Try.prog.types[(32 : Nat)].size ≤ (flat ps).length]).fst ≤ (2000000 : Nat)) (.need ((0 : Nat) + ((zadpF_4 ps x y).toNat - (0 : Nat)) * (2 : Nat) ≤ (flat ps).length) (.need (((0 : Nat) + ((zadpF_4 ps x y).toNat - (bndI none (0 : Int)).toNat, Cs.ints (List.take ((zadpF_2 ps x y) * Try.prog.types[(32 : Nat)].size) (List.drop ((0 : Nat) + (bndI none (0 : Int)).toNat * Try.prog.types[(32 : Nat)].size) (flat ps))), [(0 : Nat) + (bndI none (0 : Int)).toNat * Try.prog.types[(32 : Nat)].size + (zadpF_2 ps x y) * Try.prog.types[(32 : Nat)].size ≤ (flat ps).length]).fst + (1 : Nat)) * (16 : Nat) ≤ (140737488355328 : Nat) ∧ (0 : Nat) + ((zadpF_4 ps x y).toNat - (bndI none (0 : Int)).toNat, Cs.ints (List.take ((zadpF_2 ps x y) * Try.prog.types[(32 : Nat)].size) (List.drop ((0 : Nat) + (bndI none (0 : Int)).toNat * Try.prog.types[(32 : Nat)].size) (flat ps))), [(0 : Nat) + (bndI none (0 : Int)).toNat * Try.prog.types[(32 : Nat)].size + (zadpF_2 ps x y) * Try.prog.types[(32 : Nat)].size ≤ (flat ps).length]).fst + (1 : Nat) ≤ (2000000 : Nat)) (.need ((0 : Nat) + ((0 : Nat) + ((zadpF_4 ps x y).toNat - (bndI none (0 : Int)).toNat, Cs.ints (List.take ((zadpF_2 ps x y) * Try.prog.types[(32 : Nat)].size) (List.drop ((0 : Nat) + (bndI none (0 : Int)).toNat * Try.prog.types[(32 : Nat)].size) (flat ps))), [(0 : Nat) + (bndI none (0 : Int)).toNat * Try.prog.types[(32 : Nat)].size + (zadpF_2 ps x y) * Try.prog.types[(32 : Nat)].size ≤ (flat ps).length]).fst) * (2 : Nat) ≤ ([] ++ List.take (((zadpF_4 ps x y).toNat - (0 : Nat)) * (2 : Nat)) (List.drop 0 (flat ps))).length) (.need ((0 : Int) ≤ bndI (zadpF_0 ps x y) (0 : Int) ∧ bndI (zadpF_0 ps x y) (0 : Int) ≤ bndI none (↑ps.length : Int) ∧ bndI none (↑ps.length : Int) ≤ (↑ps.length : Int)) (.need (((0 : Nat) + ((zadpF_4 ps x y).toNat - (bndI none (0 : Int)).toNat, Cs.ints (List.take ((zadpF_2 ps x y) * Try.prog.types[(32 : Nat)].size) (List.drop ((0 : Nat) + (bndI none (0 : Int)).toNat * Try.prog.types[(32 : Nat)].size) (flat ps))), [(0 : Nat) + (bndI none (0 : Int)).toNat * Try.prog.types[(32 : Nat)].size + (zadpF_2 ps x y) * Try.prog.types[(32 : Nat)].size ≤ (flat ps).length]).fst + (1 : Nat) + ((bndI none (↑ps.length : Int)).toNat - (bndI (zadpF_0 ps x y) (0 : Int)).toNat, Cs.ints (List.take ((zadpF_5 ps x y) * Try.prog.types[(32 : Nat)].size) (List.drop ((0 : Nat) + (bndI (zadpF_0 ps x y) (0 : Int)).toNat * Try.prog.types[(32 : Nat)].size) (flat ps))), [(0 : Nat) + (bndI (zadpF_0 ps x y) (0 : Int)).toNat * Try.prog.types[(32 : Nat)].size + (zadpF_5 ps x y) * Try.prog.types[(32 : Nat)].size ≤ (flat ps).length]).fst) * (16 : Nat) ≤ (140737488355328 : Nat) ∧ (0 : Nat) + ((zadpF_4 ps x y).toNat - (bndI none (0 : Int)).toNat, Cs.ints (List.take ((zadpF_2 ps x y) * Try.prog.types[(32 : Nat)].size) (List.drop ((0 : Nat) + (bndI none (0 : Int)).toNat * Try.prog.types[(32 : Nat)].size) (flat ps))), [(0 : Nat) + (bndI none (0 : Int)).toNat * Try.prog.types[(32 : Nat)].size + (zadpF_2 ps x y) * Try.prog.types[(32 : Nat)].size ≤ (flat ps).length]).fst + (1 : Nat) + ((bndI none (↑ps.length : Int)).toNat - (bndI (zadpF_0 ps x y) (0 : Int)).toNat, Cs.ints (List.take ((zadpF_5 ps x y) * Try.prog.types[(32 : Nat)].size) (List.drop ((0 : Nat) + (bndI (zadpF_0 ps x y) (0 : Int)).toNat * Try.prog.types[(32 : Nat)].size) (flat ps))), [(0 : Nat) + (bndI (zadpF_0 ps x y) (0 : Int)).toNat * Try.prog.types[(32 : Nat)].size + (zadpF_5 ps x y) * Try.prog.types[(32 : Nat)].size ≤ (flat ps).length]).fst ≤ (2000000 : Nat)) (.need ((0 : Nat) + (bndI (zadpF_0 ps x y) (0 : Int)).toNat * (2 : Nat) + (zadpF_5 ps x y) * (2 : Nat) ≤ (flat ps).length) (.need ((0 : Nat) + ((0 : Nat) + ((zadpF_4 ps x y).toNat - (bndI none (0 : Int)).toNat, Cs.ints (List.take ((zadpF_2 ps x y) * Try.prog.types[(32 : Nat)].size) (List.drop ((0 : Nat) + (bndI none (0 : Int)).toNat * Try.prog.types[(32 : Nat)].size) (flat ps))), [(0 : Nat) + (bndI none (0 : Int)).toNat * Try.prog.types[(32 : Nat)].size + (zadpF_2 ps x y) * Try.prog.types[(32 : Nat)].size ≤ (flat ps).length]).fst + (1 : Nat)) * (2 : Nat) ≤ (List.take (((0 : Nat) + ((zadpF_4 ps x y).toNat - (bndI none (0 : Int)).toNat, Cs.ints (List.take ((zadpF_2 ps x y) * Try.prog.types[(32 : Nat)].size) (List.drop ((0 : Nat) + (bndI none (0 : Int)).toNat * Try.prog.types[(32 : Nat)].size) (flat ps))), [(0 : Nat) + (bndI none (0 : Int)).toNat * Try.prog.types[(32 : Nat)].size + (zadpF_2 ps x y) * Try.prog.types[(32 : Nat)].size ≤ (flat ps).length]).fst) * (2 : Nat)) (List.drop 0 ([] ++ List.take (((zadpF_4 ps x y).toNat - (0 : Nat)) * (2 : Nat)) (List.drop 0 (flat ps)))) ++ [x, y]).length) (.fin (ß 6 (0 + ((bndI (zadpF_1 ps x y) (↑ps.length : Int)).toNat - (bndI none 0).toNat, Cs.ints (List.take ((zadpF_3 ps x y) * Try.prog.types[32].size) (List.drop (0 + (bndI none 0).toNat * Try.prog.types[32].size) (flat ps))), [0 + (bndI none 0).toNat * Try.prog.types[32].size + (zadpF_3 ps x y) * Try.prog.types[32].size ≤ (flat ps).length]).fst + 1 + ((bndI none (↑ps.length : Int)).toNat - (bndI (zadpF_1 ps x y) 0).toNat, Cs.ints (List.take ((zadpF_6 ps x y) * Try.prog.types[32].size) (List.drop (0 + (bndI (zadpF_1 ps x y) 0).toNat * Try.prog.types[32].size) (flat ps))), [0 + (bndI (zadpF_1 ps x y) 0).toNat * Try.prog.types[32].size + (zadpF_6 ps x y) * Try.prog.types[32].size ≤ (flat ps).length]).fst) (0 + ((bndI (zadpF_1 ps x y) (↑ps.length : Int)).toNat - (bndI none 0).toNat, Cs.ints (List.take ((zadpF_3 ps x y) * Try.prog.types[32].size) (List.drop (0 + (bndI none 0).toNat * Try.prog.types[32].size) (flat ps))), [0 + (bndI none 0).toNat * Try.prog.types[32].size + (zadpF_3 ps x y) * Try.prog.types[32].size ≤ (flat ps).length]).fst + 1 + ((bndI none (↑ps.length : Int)).toNat - (bndI (zadpF_1 ps x y) 0).toNat, Cs.ints (List.take ((zadpF_6 ps x y) * Try.prog.types[32].size) (List.drop (0 + (bndI (zadpF_1 ps x y) 0).toNat * Try.prog.types[32].size) (flat ps))), [0 + (bndI (zadpF_1 ps x y) 0).toNat * Try.prog.types[32].size + (zadpF_6 ps x y) * Try.prog.types[32].size ≤ (flat ps).length]).fst)) [some ⟨.row 32 2, .ints (flat ps)⟩, zB2 x y, some deadB, some deadB, zR2 32 x y, some deadB, some ⟨.row 32 2, .ints (List.take ((0 + ((bndI (zadpF_1 ps x y) (↑ps.length : Int)).toNat - (bndI none 0).toNat, Cs.ints (List.take ((zadpF_3 ps x y) * Try.prog.types[32].size) (List.drop (0 + (bndI none 0).toNat * Try.prog.types[32].size) (flat ps))), [0 + (bndI none 0).toNat * Try.prog.types[32].size + (zadpF_3 ps x y) * Try.prog.types[32].size ≤ (flat ps).length]).fst + 1) * 2) (List.drop 0 (List.take ((0 + ((bndI (zadpF_1 ps x y) (↑ps.length : Int)).toNat - (bndI none 0).toNat, Cs.ints (List.take ((zadpF_3 ps x y) * Try.prog.types[32].size) (List.drop (0 + (bndI none 0).toNat * Try.prog.types[32].size) (flat ps))), [0 + (bndI none 0).toNat * Try.prog.types[32].size + (zadpF_3 ps x y) * Try.prog.types[32].size ≤ (flat ps).length]).fst) * 2) (List.drop 0 ([] ++ List.take (((bndI (zadpF_1 ps x y) (↑ps.length : Int)).toNat - 0) * 2) (List.drop 0 (flat ps)))) ++ [x, y])) ++ List.take ((zadpF_6 ps x y) * 2) (List.drop (0 + (bndI (zadpF_1 ps x y) 0).toNat * 2) (flat ps)))⟩]))))))))))))) (.need ((0 : Int) ≤ bndI none (0 : Int) ∧ bndI none (0 : Int) ≤ bndI (zadpF_0 ps x y) (↑ps.length : Int) ∧ bndI (zadpF_0 ps x y) (↑ps.length : Int) ≤ (↑ps.length : Int)) (.need (((0 : Nat) + ((zadpF_4 ps x y).toNat - (bndI none (0 : Int)).toNat, Cs.ints (List.take ((zadpF_2 ps x y) * Try.prog.types[(32 : Nat)].size) (List.drop ((0 : Nat) + (bndI none (0 : Int)).toNat * Try.prog.types[(32 : Nat)].size) (flat ps))), [(0 : Nat) + (bndI none (0 : Int)).toNat * Try.prog.types[(32 : Nat)].size + (zadpF_2 ps x y) * Try.prog.types[(32 : Nat)].size ≤ (flat ps).length]).fst) * (16 : Nat) ≤ (140737488355328 : Nat) ∧ (0 : Nat) + ((zadpF_4 ps x y).toNat - (bndI none (0 : Int)).toNat, Cs.ints (List.take ((zadpF_2 ps x y) * Try.prog.types[(32 : Nat)].size) (List.drop ((0 : Nat) + (bndI none (0 : Int)).toNat * Try.prog.types[(32 : Nat)].size) (flat ps))), [(0 : Nat) + (bndI none (0 : Int)).toNat * Try.prog.types[(32 : Nat)].size + (zadpF_2 ps x y) * Try.prog.types[(32 : Nat)].size ≤ (flat ps).length]).fst ≤ (2000000 : Nat)) (.need ((0 : Nat) + ((zadpF_4 ps x y).toNat - (0 : Nat)) * (2 : Nat) ≤ (flat ps).length) (.need (((0 : Nat) + ((zadpF_4 ps x y).toNat - (bndI none (0 : Int)).toNat, Cs.ints (List.take ((zadpF_2 ps x y) * Try.prog.types[(32 : Nat)].size) (List.drop ((0 : Nat) + (bndI none (0 : Int)).toNat * Try.prog.types[(32 : Nat)].size) (flat ps))), [(0 : Nat) + (bndI none (0 : Int)).toNat * Try.prog.types[(32 : Nat)].size + (zadpF_2 ps x y) * Try.prog.types[(32 : Nat)].size ≤ (flat ps).length]).fst + (1 : Nat)) * (16 : Nat) ≤ (140737488355328 : Nat) ∧ (0 : Nat) + ((zadpF_4 ps x y).toNat - (bndI none (0 : Int)).toNat, Cs.ints (List.take ((zadpF_2 ps x y) * Try.prog.types[(32 : Nat)].size) (List.drop ((0 : Nat) + (bndI none (0 : Int)).toNat * Try.prog.types[(32 : Nat)].size) (flat ps))), [(0 : Nat) + (bndI none (0 : Int)).toNat * Try.prog.types[(32 : Nat)].size + (zadpF_2 ps x y) * Try.prog.types[(32 : Nat)].size ≤ (flat ps).length]).fst + (1 : Nat) ≤ (2000000 : Nat)) (.need ((0 : Nat) + ((0 : Nat) + ((zadpF_4 ps x y).toNat - (bndI none (0 : Int)).toNat, Cs.ints (List.take ((zadpF_2 ps x y) * Try.prog.types[(32 : Nat)].size) (List.drop ((0 : Nat) + (bndI none (0 : Int)).toNat * Try.prog.types[(32 : Nat)].size) (flat ps))), [(0 : Nat) + (bndI none (0 : Int)).toNat * Try.prog.types[(32 : Nat)].size + (zadpF_2 ps x y) * Try.prog.types[(32 : Nat)].size ≤ (flat ps).length]).fst) * (2 : Nat) ≤ ([] ++ List.take (((zadpF_4 ps x y).toNat - (0 : Nat)) * (2 : Nat)) (List.drop 0 (flat ps))).length) (.need ((0 : Int) ≤ bndI (zadpF_0 ps x y) (0 : Int) ∧ bndI (zadpF_0 ps x y) (0 : Int) ≤ bndI none (↑ps.length : Int) ∧ bndI none (↑ps.length : Int) ≤ (↑ps.length : Int)) (.need (((0 : Nat) + ((zadpF_4 ps x y).toNat - (bndI none (0 : Int)).toNat, Cs.ints (List.take ((zadpF_2 ps x y) * Try.prog.types[(32 : Nat)].size) (List.drop ((0 : Nat) + (bndI none (0 : Int)).toNat * Try.prog.types[(32 : Nat)].size) (flat ps))), [(0 : Nat) + (bndI none (0 : Int)).toNat * Try.prog.types[(32 : Nat)].size + (zadpF_2 ps x y) * Try.prog.types[(32 : Nat)].size ≤ (flat ps).length]).fst + (1 : Nat) + ((bndI none (↑ps.length : Int)).toNat - (bndI (zadpF_0 ps x y) (0 : Int)).toNat, Cs.ints (List.take ((zadpF_5 ps x y) * Try.prog.types[(32 : Nat)].size) (List.drop ((0 : Nat) + (bndI (zadpF_0 ps x y) (0 : Int)).toNat * Try.prog.types[(32 : Nat)].size) (flat ps))), [(0 : Nat) + (bndI (zadpF_0 ps x y) (0 : Int)).toNat * Try.prog.types[(32 : Nat)].size + (zadpF_5 ps x y) * Try.prog.types[(32 : Nat)].size ≤ (flat ps).length]).fst) * (16 : Nat) ≤ (140737488355328 : Nat) ∧ (0 : Nat) + ((zadpF_4 ps x y).toNat - (bndI none (0 : Int)).toNat, Cs.ints (List.take ((zadpF_2 ps x y) * Try.prog.types[(32 : Nat)].size) (List.drop ((0 : Nat) + (bndI none (0 : Int)).toNat * Try.prog.types[(32 : Nat)].size) (flat ps))), [(0 : Nat) + (bndI none (0 : Int)).toNat * Try.prog.types[(32 : Nat)].size + (zadpF_2 ps x y) * Try.prog.types[(32 : Nat)].size ≤ (flat ps).length]).fst + (1 : Nat) + ((bndI none (↑ps.length : Int)).toNat - (bndI (zadpF_0 ps x y) (0 : Int)).toNat, Cs.ints (List.take ((zadpF_5 ps x y) * Try.prog.types[(32 : Nat)].size) (List.drop ((0 : Nat) + (bndI (zadpF_0 ps x y) (0 : Int)).toNat * Try.prog.types[(32 : Nat)].size) (flat ps))), [(0 : Nat) + (bndI (zadpF_0 ps x y) (0 : Int)).toNat * Try.prog.types[(32 : Nat)].size + (zadpF_5 ps x y) * Try.prog.types[(32 : Nat)].size ≤ (flat ps).length]).fst ≤ (2000000 : Nat)) (.need ((0 : Nat) + (bndI (zadpF_0 ps x y) (0 : Int)).toNat * (2 : Nat) + (zadpF_5 ps x y) * (2 : Nat) ≤ (flat ps).length) (.need ((0 : Nat) + ((0 : Nat) + ((zadpF_4 ps x y).toNat - (bndI none (0 : Int)).toNat, Cs.ints (List.take ((zadpF_2 ps x y) * Try.prog.types[(32 : Nat)].size) (List.drop ((0 : Nat) + (bndI none (0 : Int)).toNat * Try.prog.types[(32 : Nat)].size) (flat ps))), [(0 : Nat) + (bndI none (0 : Int)).toNat * Try.prog.types[(32 : Nat)].size + (zadpF_2 ps x y) * Try.prog.types[(32 : Nat)].size ≤ (flat ps).length]).fst + (1 : Nat)) * (2 : Nat) ≤ (List.take (((0 : Nat) + ((zadpF_4 ps x y).toNat - (bndI none (0 : Int)).toNat, Cs.ints (List.take ((zadpF_2 ps x y) * Try.prog.types[(32 : Nat)].size) (List.drop ((0 : Nat) + (bndI none (0 : Int)).toNat * Try.prog.types[(32 : Nat)].size) (flat ps))), [(0 : Nat) + (bndI none (0 : Int)).toNat * Try.prog.types[(32 : Nat)].size + (zadpF_2 ps x y) * Try.prog.types[(32 : Nat)].size ≤ (flat ps).length]).fst) * (2 : Nat)) (List.drop 0 ([] ++ List.take (((zadpF_4 ps x y).toNat - (0 : Nat)) * (2 : Nat)) (List.drop 0 (flat ps)))) ++ [x, y]).length) (.fin (ß 6 (0 + ((bndI (zadpF_1 ps x y) (↑ps.length : Int)).toNat - (bndI none 0).toNat, Cs.ints (List.take ((zadpF_3 ps x y) * Try.prog.types[32].size) (List.drop (0 + (bndI none 0).toNat * Try.prog.types[32].size) (flat ps))), [0 + (bndI none 0).toNat * Try.prog.types[32].size + (zadpF_3 ps x y) * Try.prog.types[32].size ≤ (flat ps).length]).fst + 1 + ((bndI none (↑ps.length : Int)).toNat - (bndI (zadpF_1 ps x y) 0).toNat, Cs.ints (List.take ((zadpF_6 ps x y) * Try.prog.types[32].size) (List.drop (0 + (bndI (zadpF_1 ps x y) 0).toNat * Try.prog.types[32].size) (flat ps))), [0 + (bndI (zadpF_1 ps x y) 0).toNat * Try.prog.types[32].size + (zadpF_6 ps x y) * Try.prog.types[32].size ≤ (flat ps).length]).fst) (0 + ((bndI (zadpF_1 ps x y) (↑ps.length : Int)).toNat - (bndI none 0).toNat, Cs.ints (List.take ((zadpF_3 ps x y) * Try.prog.types[32].size) (List.drop (0 + (bndI none 0).toNat * Try.prog.types[32].size) (flat ps))), [0 + (bndI none 0).toNat * Try.prog.types[32].size + (zadpF_3 ps x y) * Try.prog.types[32].size ≤ (flat ps).length]).fst + 1 + ((bndI none (↑ps.length : Int)).toNat - (bndI (zadpF_1 ps x y) 0).toNat, Cs.ints (List.take ((zadpF_6 ps x y) * Try.prog.types[32].size) (List.drop (0 + (bndI (zadpF_1 ps x y) 0).toNat * Try.prog.types[32].size) (flat ps))), [0 + (bndI (zadpF_1 ps x y) 0).toNat * Try.prog.types[32].size + (zadpF_6 ps x y) * Try.prog.types[32].size ≤ (flat ps).length]).fst)) [some ⟨.row 32 2, .ints (flat ps)⟩, zB2 x y, some deadB, some deadB, zR2 32 x y, some deadB, some ⟨.row 32 2, .ints (List.take ((0 + ((bndI (zadpF_1 ps x y) (↑ps.length : Int)).toNat - (bndI none 0).toNat, Cs.ints (List.take ((zadpF_3 ps x y) * Try.prog.types[32].size) (List.drop (0 + (bndI none 0).toNat * Try.prog.types[32].size) (flat ps))), [0 + (bndI none 0).toNat * Try.prog.types[32].size + (zadpF_3 ps x y) * Try.prog.types[32].size ≤ (flat ps).length]).fst + 1) * 2) (List.drop 0 (List.take ((0 + ((bndI (zadpF_1 ps x y) (↑ps.length : Int)).toNat - (bndI none 0).toNat, Cs.ints (List.take ((zadpF_3 ps x y) * Try.prog.types[32].size) (List.drop (0 + (bndI none 0).toNat * Try.prog.types[32].size) (flat ps))), [0 + (bndI none 0).toNat * Try.prog.types[32].size + (zadpF_3 ps x y) * Try.prog.types[32].size ≤ (flat ps).length]).fst) * 2) (List.drop 0 ([] ++ List.take (((bndI (zadpF_1 ps x y) (↑ps.length : Int)).toNat - 0) * 2) (List.drop 0 (flat ps)))) ++ [x, y])) ++ List.take ((zadpF_6 ps x y) * 2) (List.drop (0 + (bndI (zadpF_1 ps x y) 0).toNat * 2) (flat ps)))⟩]))))))))))))) := by kernel_rfl
theorem ins_flat {ps : List Pt} {k : Nat} (h : k ≤ ps.length) (x y : Int) : List.take ((k + 1) * 2) (List.take (k * 2) (List.take (k * 2) (flat ps)) ++ [x, y]) ++ List.take ((ps.length - k) * 2) (List.drop (k * 2) (flat ps)) = flat (ps.take k ++ ((x, y) :: ps.drop k)) := by
  have l1 : (ps.take k).length = k := by simp; omega
  have l2 : (ps.drop k).length = ps.length - k := by simp
  have l3 : (ps.take k ++ [(x, y)]).length = k + 1 := by rw [List.length_append, l1]; rfl
  have e1 : List.take (k + 1) (ps.take k ++ [(x, y)]) = ps.take k ++ [(x, y)] := List.take_of_length_le (by omega)
  have e2 : List.take (ps.length - k) (ps.drop k) = ps.drop k := List.take_of_length_le (by omega)
  rw [flat_take, flat_take, List.take_take, Nat.min_self, flat_snoc, flat_take, flat_drop, flat_take, e1, e2, ← flat_append, List.append_assoc]
  rfl
theorem adp_row (ps : List Pt) (x y : Int) (h : ps.length ≤ 1000) : (bodyM Try.prog EAd (runM Try.prog EAd 30 12) 30 88 [ß 0 ps.length ps.length, .agg #[.int .i64 x, .int .i64 y]] [some ⟨.row 32 2, .ints (flat ps)⟩] .fin).ok (fun _ _ => False) (fun u mem' => RowIs (ß 0 (insP (x, y) ps).length (insP (x, y) ps).length) ⟨.row 32 2, .ints (flat (insP (x, y) ps))⟩ u mem') := by
  rw [tr_adpF]
  try delta zB2 zB4 zR2 zI zadpF_0 zadpF_1 zadpF_2 zadpF_3 zadpF_4 zadpF_5 zadpF_6
  have hk := kP_le (x, y) ps
  have hi := insP_is (x, y) ps
  simp only [List.drop_zero, ptsA_flat, flat_length, Nat.zero_add, Int.toNat_natCast, bndI, Nat.sub_zero, Int.toNat_zero, Nat.zero_mul, List.nil_append]
  generalize kP (x, y) ps = k at *
  have hfl := ins_flat hk x y
  refine ⟨trivial, trivial, by omega, ?_⟩
  simp only [brT_ok, Tree.ok, decide_eq_true_eq, decide_eq_false_iff_not, flat_get0, flat_get1, hfl]
  have lt2 : (List.take (k * 2) (flat ps)).length = k * 2 := by rw [List.length_take, flat_length]; omega
  have lt3 : (List.take (k * 2) (List.take (k * 2) (flat ps)) ++ [x, y]).length = (k + 1) * 2 := by rw [List.length_append, List.length_take, lt2]; simp; omega
  have fin : insP (x, y) ps = ps.take k ++ ((x, y) :: ps.drop k) → RowIs (ß 0 (insP (x, y) ps).length (insP (x, y) ps).length) ⟨.row 32 2, .ints (flat (insP (x, y) ps))⟩ (ß 6 (k + 1 + (ps.length - k)) (k + 1 + (ps.length - k)))
      [some ⟨.row 32 2, .ints (flat ps)⟩, some ⟨.box, .vals [.int .i64 x, .int .i64 y]⟩, some deadB, some deadB, some ⟨.row 32 2, .vals [.int .i64 x, .int .i64 y]⟩, some deadB, some ⟨.row 32 2, .ints (flat (ps.take k ++ ((x, y) :: ps.drop k)))⟩] := fun e => by
    have l : (insP (x, y) ps).length = k + 1 + (ps.length - k) := by rw [e]; simp; omega
    rw [l, e]
    exact ⟨some 6, ⟨rfl, rfl, rfl⟩, rfl, rfl, rfl⟩
  refine ⟨fun hlt => ⟨by omega, by omega, fun g => ?_, fun g => ?_⟩, fun hge => ?_⟩
  · have e : insP (x, y) ps = ps := by
      simp only [negB, Bool.and_true, Bool.and_eq_true, beq_iff_eq] at g
      rw [hi, if_pos ⟨by omega, Prod.ext g.1 g.2⟩]
    rw [e]
    exact ⟨some 0, ⟨rfl, rfl, rfl⟩, rfl, rfl, rfl⟩
  · have e : insP (x, y) ps = ps.take k ++ ((x, y) :: ps.drop k) := by
      rw [hi, if_neg]
      rintro ⟨_, e⟩
      rw [e] at g
      simp [negB] at g
    exact ⟨by omega, by omega, by omega, by omega, by omega, by omega, by omega, by omega, by omega, fin e⟩
  · have e : insP (x, y) ps = ps.take k ++ ((x, y) :: ps.drop k) := by
      rw [hi, if_neg]
      rintro ⟨h1, _⟩
      omega
    exact ⟨by omega, by omega, by omega, by omega, by omega, by omega, by omega, by omega, by omega, fin e⟩
def addS : OSpec := fun e sz l xs rest => match e, sz, rest with
  | 32, 2, [.agg ⟨[.int .i64 x, .int .i64 y]⟩] => some (ß 0 (insP (x, y) (ptsA l xs)).length (insP (x, y) (ptsA l xs)).length, ⟨.row 32 2, .ints (flat (insP (x, y) (ptsA l xs)))⟩, [xs.length = l * 2, l ≤ 1000])
  | _, _, _ => none
set_option maxRecDepth 100000 in
theorem addS_ok : OSpecOk Try.prog 88 addS := by
  intro e sz l xs rest v b C h hC
  unfold addS at h
  split at h
  rotate_left
  · cases h
  obtain ⟨rfl, rfl, rfl⟩ : _ ∧ _ ∧ _ := by simpa using h
  obtain ⟨h1, h2, _⟩ := hC
  obtain ⟨ps, rfl, rfl⟩ := even_flat h1
  rw [ptsA_flat]
  exact ⟨rfl, EAd, 30, 12, EAd_ok, adp_row ps _ _ h2⟩
def JAd : TabJ := consR 88 (owG addS) noJ
theorem JAd_ok : GSound Try.prog JAd.g := consO_ok mixed (J := noJ) (failG_sound _) (entersB_res (by kernel_rfl)).1 addS_ok
def ESo : Env := withT (mkE TOl (fun _ _ => none) (fun _ => noL)) JAd
theorem ESo_ok : EnvOk Try.prog ESo := withT_ok (mkEOk TOl_ok (fun _ _ _ _ _ h => (by cases h)) (fun _ _ _ => noL_good)) JAd_ok
noncomputable def c_srt : Code := ((loopsOf (codeOf Try.f69))[0]?).getD .skip
def k_srt : Ex → List Nat := keeps [0, 3, 4] [(0, [3])] [2]
def s_srt (ps : List Pt) : Nat × (List Pt) → St := fun (i, o) => ⟨(ß 0 ps.length ps.length :: topV :: topV :: ß 2 o.length o.length :: .int .i64 i :: ω14 []), [some ⟨.view, .ints (flat ps)⟩, some ⟨.dead, .vals []⟩, some ⟨.row 32 2, .ints (flat o)⟩]⟩
def re_srt : Nat × (List Pt) → Ex := fun _ => .exit 0
def rs_srt (ps : List Pt) : Nat × (List Pt) → St := fun (i, o) => ⟨(ω3 ß 2 (srtO o (ps.drop i)).length (srtO o (ps.drop i)).length :: ω15 []), [some ⟨.view, .ints (flat ps)⟩, some ⟨.dead, .vals []⟩, some ⟨.row 32 2, .ints (flat (srtO o (ps.drop i)))⟩]⟩
set_option maxRecDepth 100000 in
theorem tr_srt (ps : List Pt) (i : Nat) (o : List Pt) : bodyL Try.prog ESo 30 12 noL 1 c_srt k_srt 5 (s_srt ps (i, o)) = brT (decide ((↑i : Int) < (↑ps.length : Int))) (.need ((0 : Int) ≤ (↑i : Int) ∧ (↑i : Int) < (↑ps.length : Int)) (.need ((0 : Nat) + (↑i : Int).toNat * (2 : Nat) + (2 : Nat) ≤ (flat ps).length) (.need ((flat o).length = o.length * (2 : Nat)) (.need (o.length ≤ (1000 : Nat)) (.leaf .normal ⟨(ß 0 (ps.length) (ps.length) :: topV :: topV :: ß 3 ((insP ((flat ps).getD (0 + (↑i : Int).toNat * (2 : Nat)) 0, (flat ps).getD (0 + (↑i : Int).toNat * (2 : Nat) + 1) 0) (ptsA o.length (flat o))).length) ((insP ((flat ps).getD (0 + (↑i : Int).toNat * (2 : Nat)) 0, (flat ps).getD (0 + (↑i : Int).toNat * (2 : Nat) + 1) 0) (ptsA o.length (flat o))).length) :: .int .i64 (ŵ ((↑i : Int) + 1)) :: ω14 []), [some ⟨.view, .ints (flat ps)⟩, some deadB, some deadB, some ⟨.row 32 2, .ints (flat (insP ((flat ps).getD (0 + (↑i : Int).toNat * (2 : Nat)) 0, (flat ps).getD (0 + (↑i : Int).toNat * (2 : Nat) + 1) 0) (ptsA o.length (flat o))))⟩]⟩))))) (.leaf (.exit 0) ⟨(ω3 ß 2 (o.length) (o.length) :: ω15 []), [some ⟨.view, .ints (flat ps)⟩, some deadB, some ⟨.row 32 2, .ints (flat o)⟩]⟩) := by kernel_rfl
set_option maxRecDepth 100000 in
theorem nl_srt : loopsOf c_srt = [] := by kernel_rfl
def inv_srt (ps : List Pt) : Nat × (List Pt) → Prop := fun (i, o) => i ≤ ps.length ∧ o.length ≤ i
def me_srt (ps : List Pt) : Nat × (List Pt) → Nat := fun (i, o) => ps.length - i
def Round_srt (ps : List Pt) : Prop := ∀ xx : Nat × (List Pt), inv_srt ps xx → (bodyL Try.prog ESo 30 12 noL 1 c_srt k_srt 5 (s_srt ps xx)).ok (RoundEnd 2 (s_srt ps) (inv_srt ps) (me_srt ps) re_srt (rs_srt ps) xx) (fun _ _ => False)
def e_srt (s : St) (k : Ex → St → Tree) : Option Tree := match Nat.beq s.tmps.length 19, pickL s.tmps [0, 3, 4], s.mem with
  | true, [ß 0 n _, ß 1 z _, .int .i64 ii], [some ⟨.view, .ints xs⟩, some ⟨.row 32 2, .vals []⟩] => some (needs [ii = 0, z = 0, xs.length = n * 2, n ≤ 1000] (k (.exit 0) ⟨(ω3 ß 2 (srtO [] ((ptsA n xs).drop 0)).length (srtO [] ((ptsA n xs).drop 0)).length :: ω15 []), [some ⟨.view, .ints xs⟩, some ⟨.dead, .vals []⟩, some ⟨.row 32 2, .ints (flat (srtO [] ((ptsA n xs).drop 0)))⟩]⟩))
  | _, _, _ => none
set_option maxRecDepth 100000 in
theorem round_srt (ps : List Pt) (h : ps.length ≤ 1000) : Round_srt ps := by
  rintro ⟨i, o⟩ ⟨h1, h2⟩
  rw [tr_srt]
  simp only [brT_ok, Tree.ok, decide_eq_true_eq, decide_eq_false_iff_not, Int.toNat_natCast, Nat.zero_add, flat_length, flat_get0, flat_get1, ptsA_flat]
  refine ⟨fun hlt => ⟨by omega, by omega, trivial, by omega, ?_⟩, fun hge => ?_⟩
  · rw [wsucc (n := ps.length) (by omega) (by omega)]
    have hd : ps.drop i = ps.getD i (0, 0) :: ps.drop (i + 1) := drop_cons (by omega) _
    have hle := insP_le (ps.getD i (0, 0)) o
    have e : srtO o (ps.drop i) = srtO (insP (ps.getD i (0, 0)) o) (ps.drop (i + 1)) := by rw [hd]; rfl
    refine ⟨(i + 1, insP (ps.getD i (0, 0)) o), [some 3], ⟨by omega, by omega⟩, ?_, rfl, ?_, ?_⟩
    · show ps.length - (i + 1) < ps.length - i; omega
    · simp only [rs_srt, e]
    · repeat' (first | exact True.intro | exact rfl | exact fun _ => rfl | (simp; done) | refine And.intro ?_ ?_)
  · have e : srtO o (ps.drop i) = o := by rw [List.drop_of_length_le (by omega)]; rfl
    refine ⟨rfl, [some 2], ?_⟩
    simp only [rs_srt, e]
    repeat' (first | exact True.intro | exact rfl | exact fun _ => rfl | (simp; done) | refine And.intro ?_ ?_)
set_option maxRecDepth 100000 in
theorem lg_srt : LoopE Try.prog e_srt c_srt := by
  intro s k t F H hlt ht
  unfold e_srt at hlt
  split at hlt
  rotate_left
  · cases hlt
  rename_i hlen hpick hmem
  obtain ⟨tmps, mem⟩ := s
  simp only at hlen hpick hmem
  subst hmem
  obtain rfl := Option.some.inj hlt
  obtain ⟨⟨rfl, rfl, h1, h2, _⟩, ht2⟩ := needs_ok ht
  clear ht hlt
  obtain ⟨ps, rfl, rfl⟩ := even_flat h1
  rw [ptsA_flat] at ht2
  refine ⟨_, _, ht2, loop_run2 mixed ESo_ok (s_srt _) (inv_srt _) (me_srt _) re_srt (rs_srt _) k_srt (fun _ => rfl) (noLoops nl_srt) (round_srt _ h2) (x := (0, [])) ⟨Nat.zero_le _, Nat.le_refl _⟩ (π := [some 1]) rfl ?_⟩
  refine ⟨rfl, rfl, ?_, wvs_spread' [0, 3, 4] hlen rfl ?_⟩
  · repeat' (first | exact True.intro | exact rfl | exact wv_top _ _ | exact fun _ => rfl | assumption | exact Eq.symm (by assumption) | exact vI0 rfl | refine And.intro ?_ ?_)
  · rw [hpick]
    repeat' (first | exact True.intro | exact rfl | exact wv_top _ _ | exact fun _ => rfl | assumption | exact Eq.symm (by assumption) | exact vI0 rfl | refine And.intro ?_ ?_)
theorem Lr_srt {fn : Func} (hf : Try.prog.funcs[69]? = some fn) : LoopsGood Try.prog (lt1 e_srt) 0 (codeOf fn) := by
  obtain rfl := fn_is Try.func69 hf
  exact lt1_good lg_srt
def LSr : FuncId → LT := fun f => match f with
  | 69 => lt1 e_srt
  | _ => noL
def ESr : Env := withT (mkE TOl (fun _ _ => none) LSr) JAd
theorem ESr_ok : EnvOk Try.prog ESr := withT_ok (mkEOk TOl_ok (fun _ _ _ _ _ h => (by cases h)) (by
  intro f fn hf
  unfold LSr
  split
  all_goals first | with_reducible exact Lr_srt hf | exact noL_good)) JAd_ok
set_option maxRecDepth 100000 in
theorem tr_srtF (ps : List Pt) : bodyX Try.prog ESr 30 12 69 [.row ps.length (.ints (flat ps))] = .need ((0 : Int) = (0 : Int)) (.need ((0 : Nat) = (0 : Nat)) (.need ((flat ps).length = ps.length * (2 : Nat)) (.need (ps.length ≤ (1000 : Nat)) (.fin (ß 2 ((srtO [] (List.drop 0 (ptsA ps.length (flat ps)))).length) ((srtO [] (List.drop 0 (ptsA ps.length (flat ps)))).length)) [some ⟨.view, .ints (flat ps)⟩, some deadB, some ⟨.row 32 2, .ints (flat (srtO [] (List.drop 0 (ptsA ps.length (flat ps)))))⟩])))) := by kernel_rfl
abbrev rowP (ps : List Pt) : Value := ß 0 ps.length ps.length
abbrev blkP (ps : List Pt) : Blk := ⟨.row 32 2, .ints (flat ps)⟩
theorem resR_srt (ps : List Pt) (h : ps.length ≤ 1000) : ResR Try.prog 69 [.row ps.length (.ints (flat ps))] (rowP (srtL ps)) (blkP (srtL ps)) := by
  refine bodyX_resR mixed ESr_ok (m := 30) (n := 12) rfl ?_
  rw [tr_srtF]
  simp only [List.drop_zero, ptsA_flat, flat_length]
  exact ⟨trivial, trivial, trivial, h, some 2, ⟨rfl, rfl, rfl⟩, rfl, rfl, rfl⟩
theorem room_fz (ro : Option Nat) (n : Nat) : (fz ro).room n := fun _ h => by cases h
theorem wpIn_n {ro : Option Nat} {n n' : Nat} {P : Program} {c : Code} {Q : Exit → Act → World → Prop} {a : Act} {w : World} (h : c.wpIn (fz ro) n P Q a w) : c.wpIn (fz ro) n' P Q a w := fun b k cs h1 h2 _ => h b k cs h1 h2 (room_fz _ _)
def vwK : BK → BK
  | .dead => .dead
  | _ => .view
def vwB (t : Bool) (b : Option Blk) : Option Blk :=
  match b, t with
  | some b, true => some ⟨vwK b.kind, b.cs⟩
  | b, _ => b
def toView (l : List Nat) : Nat → List (Option Blk) → List (Option Blk)
  | _, [] => []
  | k, b :: r => vwB (l.contains k) b :: toView l (k + 1) r
def viewS (l : List Nat) (s : St) : St := { tmps := s.tmps, mem := toView l 0 s.mem }
theorem toView_get (l : List Nat) : ∀ (r : List (Option Blk)) (k i : Nat), (toView l k r).getD i none = vwB (l.contains (k + i)) (r.getD i none)
  | [], k, i => by simp [toView, vwB]
  | b :: r, k, i => by
    cases i with
    | zero => simp [toView]
    | succ i =>
      have := toView_get l r (k + 1) i
      rw [show k + 1 + i = k + (i + 1) by omega] at this
      simpa [toView] using this
theorem viewS_blk (l : List Nat) (s : St) (n : Nat) : (viewS l s).fs.blk n = vwB (l.contains n) (s.fs.blk n) := by
  have := toView_get l s.mem 0 n
  rw [Nat.zero_add] at this
  exact this
theorem vwB_some {t : Bool} {b : Option Blk} {c : Blk} (h : vwB t b = some c) : ∃ b', b = some b' ∧ ((c = b' ∧ t = false) ∨ (c = ⟨vwK b'.kind, b'.cs⟩ ∧ t = true)) := by
  unfold vwB at h
  split at h
  · exact ⟨_, rfl, .inr ⟨by simpa using h.symm, rfl⟩⟩
  · rename_i hn
    cases b with
    | none => cases h
    | some b' =>
      cases t with
      | true => exact absurd rfl (hn b' rfl)
      | false => exact ⟨b', rfl, .inl ⟨by simpa using h.symm, rfl⟩⟩
theorem vwK_own (k : BK) (cs : Cs) : (Blk.own ⟨vwK k, cs⟩) = false := by cases k <;> rfl
theorem vwK_live {k : BK} {cs cs' : Cs} (h : Blk.live ⟨vwK k, cs⟩ = true) : Blk.live ⟨k, cs'⟩ = true := by cases k <;> first | rfl | exact h
theorem BlkOk.view {ρ : Nat → Option Pl} {B : Nat → Prop} {w : World} {n : Nat} {b : Blk} (h : BlkOk ρ B w n b) : BlkOk ρ B w n ⟨vwK b.kind, b.cs⟩ := by
  obtain ⟨kd, cs⟩ := b
  have cell : ∀ (g k : Nat) (arr : Array Value) (e z v), w.heap[g]? = some (.cells arr e z) → arr[k]? = some v → w.cell? ⟨g, 0 + k, none⟩ = some v := fun g k arr e z v h1 h2 => by
    rw [Nat.zero_add]
    simp only [World.cell?, h1]
    exact h2
  cases kd with
  | dead => trivial
  | view => exact h
  | box =>
    obtain ⟨g, h1, h2, cs', e, h3, h4, h5⟩ := h
    refine .inr ⟨g, 0, none, h1, .inl rfl, heap_lt h3, fun k v hv => ?_⟩
    obtain ⟨v', k1, k2⟩ := h5 k v hv
    exact ⟨v', cell _ _ _ _ _ _ h3 k1, k2⟩
  | row e sz =>
    rcases h with ⟨p, h1, h2, h3⟩ | ⟨g, cap, h1, h2, cs', h3, h4, h5⟩
    · exact .inl ⟨p, h1, h2, 0, h3⟩
    · refine .inr ⟨g, 0, some cap, h1, .inl rfl, heap_lt h3, fun k v hv => ?_⟩
      obtain ⟨v', k1, k2⟩ := h5 k v hv
      exact ⟨v', cell _ _ _ _ _ _ h3 k1, k2⟩
theorem view_conc {l : List Nat} {s : St} {w0 : Start} {a : Act} {w : World} (hc : Conc w0 s.fs a w) : Conc w0 (viewS l s).fs a w := by
  obtain ⟨c1, c2, c3, ρ, ht, hm⟩ := hc
  refine ⟨c1, c2, c3, ρ, ht, hm.ext, fun n hn => ?_, fun n b hn => ?_, fun n n' b b' p p' hn ho hn' hl hne => ?_⟩
  · rw [viewS_blk] at hn
    refine hm.fresh n ?_
    rcases hb : s.fs.blk n with _ | b
    · rfl
    · rw [hb] at hn
      cases hc : l.contains n <;> rw [hc] at hn <;> cases hn
  · rw [viewS_blk] at hn
    obtain ⟨b', h1, ⟨rfl, _⟩ | ⟨rfl, _⟩⟩ := vwB_some hn
    · exact hm.ok n _ h1
    · exact (hm.ok n _ h1).view
  · rw [viewS_blk] at hn hn'
    obtain ⟨c, h1, h2⟩ := vwB_some hn
    obtain ⟨c', h1', h2'⟩ := vwB_some hn'
    have hc : b = c := by
      rcases h2 with ⟨h2, _⟩ | ⟨rfl, _⟩
      · exact h2
      · rw [vwK_own] at ho; cases ho
    have hl' : c'.live = true := by
      rcases h2' with ⟨rfl, _⟩ | ⟨rfl, _⟩
      · exact hl
      · exact vwK_live hl
    exact hm.sep n n' c c' p p' h1 (by rw [← hc]; exact ho) h1' hl' hne
def DetA (P : Program) (c : Code) (s s' : St) : Prop := ∀ w0 a w, Conc w0 s.fs a w → c.wpIn (fz w0.ro) 3 P (fun e a w => e = .normal ∧ Conc w0 s'.fs a w) a w
def asT (P : Program) (J : TabJ) (callM : CallM) : Code → (St → Tree) → St → Tree
  | .skip, k, s => k s
  | .region _ ops draw, k, s => match draw with
    | true => .bad
    | false => seqT P J callM ops.toList s.mem.length (fun s' => forceS s' k) 0 ops.toList { tmps := s.tmps, mem := s.mem ++ List.replicate (countB alStd ops.toList) none }
  | .seq x y, k, s => asT P J callM x (asT P J callM y k) s
  | _, _, _ => .bad
theorem asT_det {P : Program} {J : TabJ} {callM : CallM} (hJ : GSound P J.g) (hcallM : CallMOk P callM) {F : Ex → St → Prop} {H : Value → List (Option Blk) → Prop} : ∀ (c : Code) (k : St → Tree) (s : St), (asT P J callM c k s).ok F H → ∃ s', (k s').ok F H ∧ DetA P c s s' := by
  intro c
  induction c with
  | skip => intro k s h; exact ⟨s, h, fun w0 a w hc => wpIn_skip ⟨rfl, hc⟩⟩
  | region id ops draw =>
    intro k s h
    cases draw with
    | true => exact h.elim
    | false =>
      obtain ⟨s', h1, h2⟩ := seqT_ok hJ hcallM ops.toList 0 _ (fun j => by simp) h
      rw [forceS_eq] at h1
      refine ⟨s', h1, fun w0 a w hc => wpIn_region ?_⟩
      have := h2 w0 a w (fun e a w => e = Exit.normal ∧ Conc w0 s'.fs a w) (by rw [St.pad_fs]; exact hc) fun a' w' hcc => ⟨rfl, hcc⟩
      rw [List.range_eq_range']
      simpa using this
  | seq x y ihx ihy =>
    intro k s h
    obtain ⟨s1, h1, h2⟩ := ihx _ s h
    obtain ⟨s2, h3, h4⟩ := ihy _ s1 h1
    refine ⟨s2, h3, fun w0 a w hc => wpIn_seq (wpIn_mono (h2 w0 a w hc) ?_)⟩
    rintro e a' w' ⟨rfl, hcc⟩
    exact h4 w0 a' w' hcc
  | _ => intro k s h; exact h.elim
def putL : List (Nat × Value) → List Value → List Value
  | [], t => t
  | (p, v) :: r, t => putL r (t.set p v)
theorem putL_ok {ρ : Nat → Option Pl} : ∀ (l : List (Nat × Value)) (T : List Value) (t : Array Value), T.length = t.size → (∀ j, VR ρ (T.getD j undef) (t.getD j undef)) → (∀ q ∈ l, plainV q.2 = true) →
    (putL l T).length = (l.foldl (fun t q => t.setIfInBounds q.1 q.2) t).size ∧ (∀ j, VR ρ ((putL l T).getD j undef) ((l.foldl (fun t q => t.setIfInBounds q.1 q.2) t).getD j undef))
  | [], T, t, h1, h2, _ => ⟨h1, h2⟩
  | (p, v) :: r, T, t, h1, h2, h3 => by
    refine putL_ok r (T.set p v) (t.setIfInBounds p v) (by simpa using h1) (fun j => ?_) fun q hq => h3 q (List.mem_cons_of_mem _ hq)
    by_cases hj : p = j
    · subst hj
      by_cases hlt : p < T.length
      · have e1 : (T.set p v).getD p undef = v := by simp [hlt]
        have e2 : (t.setIfInBounds p v).getD p undef = v := by
          have : p < t.size := by omega
          simp [this]
        rw [e1, e2]
        exact .lit (h3 _ (List.mem_cons_self ..))
      · have e1 : (T.set p v).getD p undef = T.getD p undef := by simp [List.getElem?_eq_none (by simpa using Nat.le_of_not_lt hlt : (T.set p v).length ≤ p), List.getElem?_eq_none (Nat.le_of_not_lt hlt)]
        have e2 : (t.setIfInBounds p v).getD p undef = t.getD p undef := by
          have : ¬ p < t.size := by omega
          simp [this]
        rw [e1, e2]
        exact h2 p
    · have e1 : (T.set p v).getD j undef = T.getD j undef := by simp [hj]
      have e2 : (t.setIfInBounds p v).getD j undef = t.getD j undef := by simp [Array.getElem?_setIfInBounds_ne hj]
      rw [e1, e2]
      exact h2 j
def nonC (w : World) (k : Nat) : Prop := ∃ o, w.heap[k]? = some o ∧ o.isCells = false
def gsOf (s : FS) (ρ : Nat → Option Pl) (Kn : List Nat) (g : Nat) : Prop := ∃ n ∈ Kn, ∃ b p, s.blk n = some b ∧ b.live = true ∧ ρ n = some p ∧ ¬ nilPl p ∧ p.1 = g
def KpG (G : Nat → Prop) (W W' : World) : Prop := W.heap.size ≤ W'.heap.size ∧ ∀ g, G g → W'.heap[g]? = W.heap[g]?
def Iter (P : Program) (gf : FuncId) (lb : Array Value) (len : Nat) (enc : Nat → List Value) (G : Nat → Prop) (w : World) : Prop :=
  ∀ (l : Nat) (J : Nat → World → Prop) (Jx : World → Prop) (W : World), (∀ g, G g → W.heap[g]? = w.heap[g]?) → w.heap.size ≤ W.heap.size →
    (∀ i W1 W2, J i W1 → W1.grownBy W2 none → J i W2) → (∀ W1 W2, Jx W1 → W1.grownBy W2 none → Jx W2) →
    (∀ i W1, J i W1 → i < len → YieldAt Fence.wide 2 P l (enc i).toArray W1 fun e W2 => (e = .returned (.bool true) ∧ J (i + 1) W2 ∧ KpG G W1 W2) ∨ (e = .returned (.bool false) ∧ Jx W2)) →
    J 0 W → CallsIn Fence.wide 2 P gf (#[.func (.yield l) #[] #[]] ++ lb) W fun e W2 => (∃ v, e = .returned v) ∧ (J len W2 ∨ Jx W2)
theorem BelowK.less {K K' : Nat → Prop} {w w' : World} (h : BelowK K w w') (hk : ∀ k, K' k → K k) : BelowK K' w w' := ⟨h.os, h.tape, h.output, h.size, fun k hk' => h.block k (hk k hk')⟩
theorem BelowK.putObj {K : Nat → Prop} {w w' : World} (h : BelowK K w w') {l : Nat} (o : Obj) (hl : ¬ K l) : BelowK K w (w'.putObj l o) := h.trans ⟨rfl, rfl, rfl, by simp, fun k hk => World.putObj_heap_other (fun e => hl (by rw [← e]; exact hk))⟩
theorem BelowK.grown {K : Nat → Prop} {w w' w'' : World} (h : BelowK K w w') (hK : ∀ k, K k → k < w.heap.size) (hg : w'.grownBy w'' none) : BelowK K w w'' := h.trans ⟨hg.os, hg.tape, hg.output, hg.size, fun k hk => hg.block k (Nat.lt_of_lt_of_le (hK k hk) h.size) (by simp)⟩
theorem Conc.grown {w0 : Start} {s : FS} {a : Act} {w w' : World} (h : Conc w0 s a w) (hg : w.grownBy w' none) : Conc w0 s a w' := by
  obtain ⟨c1, c2, c3, ρ, ht, hm⟩ := h
  exact ⟨c1, c2, c3.grown w0.kpl hg, ρ, ht, hm.grown hg.size fun k o ho _ => hg.block k (heap_lt ho) (by simp)⟩
theorem Conc.putObj {w0 : Start} {s : FS} {a : Act} {w : World} (h : Conc w0 s a w) {l : Nat} {o : Obj} (o' : Obj) (hl : ¬ w0.kp l) (ho : w.heap[l]? = some o) (hc : o.isCells = false) : Conc w0 s a (w.putObj l o') := by
  obtain ⟨c1, c2, c3, ρ, ht, hm⟩ := h
  refine ⟨c1, c2, c3.putObj o' hl, ρ, ht, hm.grown (by simp) fun k o2 ho2 hc2 => World.putObj_heap_other fun e => ?_⟩
  rw [e, ho] at ho2
  cases ho2
  rw [hc] at hc2
  cases hc2
def exCode : Ex → Code
  | .normal => .skip
  | .exit id => .exit id
  | .ret => .ret
def RoundOk (P : Program) (assign body : Code) (pv : Nat → List (Nat × Value)) (St_of : Nat → St) (Good : Nat → Prop) (re : Ex) (rs : St) (N M : Nat) (keep : Ex → List Nat) (i : Nat) : Prop :=
  ∃ s1 e' s', DetA P assign { tmps := putL (pv i) (St_of i).tmps, mem := (St_of i).mem } s1 ∧ Det P body s1 e' s' ∧ match e' with
    | .normal => Good (i + 1) ∧ ∃ π, WS N π (cutS M (keep .normal) { tmps := (St_of i).tmps, mem := s'.mem }) (St_of (i + 1))
    | e => e = re ∧ ∃ π, WS N π (cutS M (keep e) { tmps := (St_of i).tmps, mem := s'.mem }) rs
section
variable {P : Program} {ps : List Nat} {assign body : Code} {enc : Nat → List Value} {St_of : Nat → St} {Good : Nat → Prop} {re : Ex} {rs : St} {N M len : Nat} {keep : Ex → List Nat}
def recOf (fn : FuncId) (tmps : Array Value) (ps : List Nat) (assign body : Code) (D : Nat) (st : LoopState) (pe : Option Code) : Loop := { state := st, pending := pe, fn := fn, tmps := tmps, params := ps.toArray, assign := assign, body := body, defers := D }
theorem range_round (hps : ∀ i, (enc i).length = ps.length) (hpl : ∀ i, (enc i).all plainV = true) (hround : ∀ i, Good i → i < len → RoundOk P assign body (fun i => ps.zip (enc i)) St_of Good re rs N M keep i)
    {w2 : Start} {a : Act} {fn : FuncId} {D l : Nat} {X : World → Prop} (hX : ∀ W W', X W → (∀ k, nonC W k → k ≠ l → W'.heap[k]? = W.heap[k]?) → X W') (hl : w2.heap.size ≤ l) {G : Nat → Prop} (hG : ∀ g, G g → w2.kp g)
    (hdom : ∀ n, N ≤ n → w2.ρ0 n = none) (hdomM : ∀ n, M ≤ n → w2.ρ0 n = none)
    {i : Nat} {W : World} (hg : Good i) (hlt : i < len) (hc : Conc w2 (St_of i).fs a W) (hL : W.heap[l]? = some (.loop (recOf fn a.tmps ps assign body D .ready none))) (hXW : X W) :
    YieldAt Fence.wide 2 P l (enc i).toArray W fun e W2 =>
      (e = .returned (.bool true) ∧ (Good (i + 1) ∧ Conc w2 (St_of (i + 1)).fs a W2 ∧ W2.heap[l]? = some (.loop (recOf fn a.tmps ps assign body D .ready none)) ∧ X W2) ∧ KpG G W W2) ∨
      (e = .returned (.bool false) ∧ ∃ e', e' ≠ .normal ∧ e' = re ∧ Conc w2 rs.fs a W2 ∧ W2.heap[l]? = some (.loop (recOf fn a.tmps ps assign body D .done (some (exCode e')))) ∧ X W2) := by
  obtain ⟨s1, e', s', hA, hB, hend⟩ := hround i hg hlt
  have hy := run_yield (P := P) (args := (enc i).toArray) hL (by simp [recOf, hps i])
  refine ⟨fn, _, assign, body, hy, roundIn_of_wpIn trivial ?_⟩
  obtain ⟨c1, c2, c3, ρ, ht, hm⟩ := hc
  have hkl : ¬ w2.kp l := fun h => by have := w2.kpl l h; omega
  have hlW : l < W.heap.size := heap_lt hL
  let wa : Start := ⟨W, ρ, fun k => k < W.heap.size ∧ (w2.kp k ∨ nonC W k), fun k h => h.1, [], some l⟩
  have hma : MemOk ρ ρ wa.kp (St_of i).fs.blk W := hm.rebase.other fun n b p cs e z hn ho hp hnp hh hk => by
    rcases hk.2 with h | ⟨o, h1, h2⟩
    · exact h
    · rw [hh] at h1
      cases h1
      cases h2
  obtain ⟨q1, q2⟩ := putL_ok (ρ := ρ) (ps.zip (enc i)) (St_of i).tmps a.tmps c2.symm (fun j => ht j) (fun q hq => by
    have := List.all_eq_true.1 (hpl i) q.2 (List.of_mem_zip (show (q.1, q.2) ∈ ps.zip (enc i) from hq)).2
    exact this)
  have efold : ((recOf fn a.tmps ps assign body D .ready none).params.zip (enc i).toArray).foldl (fun tmps (t, v) => tmps.setIfInBounds t v) a.tmps = (ps.zip (enc i)).foldl (fun t q => t.setIfInBounds q.1 q.2) a.tmps := by
    simp [recOf, ← Array.foldl_toList]
  have hca : Conc wa (St.fs { tmps := putL (ps.zip (enc i)) (St_of i).tmps, mem := (St_of i).mem }) { tmps := ((recOf fn a.tmps ps assign body D .ready none).params.zip (enc i).toArray).foldl (fun tmps (t, v) => tmps.setIfInBounds t v) a.tmps, defers := [] } W := by
    rw [efold]
    exact ⟨rfl, q1.symm, BelowK.refl _ _, ρ, q2, hma⟩
  refine wpIn_n (wpIn_mono (hA wa _ W hca) ?_)
  rintro e a1 W1 ⟨rfl, d1, d2, d3, ρ1, dt, dm⟩
  have hkl1 : wa.kp l := ⟨hlW, .inr ⟨_, hL, rfl⟩⟩
  have hL1 : W1.heap[l]? = some (.loop (recOf fn a.tmps ps assign body D .ready none)) := (d3.block l hkl1).trans hL
  refine ⟨_, run_beginRound hL1 rfl, ?_⟩
  have hl1 : l < W1.heap.size := heap_lt hL1
  generalize hW2 : W1.putObj l (.loop { recOf fn a.tmps ps assign body D .ready none with state := .busy }) = W2
  have hL2 : W2.heap[l]? = some (.loop (recOf fn a.tmps ps assign body D .busy none)) := by rw [← hW2]; exact World.putObj_heap_same hl1
  have hoth : ∀ k, k ≠ l → W2.heap[k]? = W1.heap[k]? := fun k hk => by rw [← hW2]; exact World.putObj_heap_other hk
  have hsz2 : W2.heap.size = W1.heap.size := by rw [← hW2]; simp
  let wb : Start := ⟨W2, ρ1, fun k => k < W2.heap.size ∧ (w2.kp k ∨ nonC W2 k), fun k h => h.1, [], some l⟩
  have dm2 : MemOk wa.ρ0 ρ1 wa.kp s1.fs.blk W2 := dm.grown (by omega) fun k o ho hc => hoth k fun e => by
    rw [e, hL1] at ho
    cases ho
    cases hc
  have hmb : MemOk ρ1 ρ1 wb.kp s1.fs.blk W2 := dm2.rebase.other fun n b p cs e z hn ho hp hnp hh hk => by
    rcases hk.2 with h | ⟨o, h1, h2⟩
    · refine ⟨Nat.lt_of_lt_of_le (w2.kpl _ h) ?_, .inl h⟩
      exact Nat.le_trans c3.size (Nat.le_refl _)
    · rw [hh] at h1
      cases h1
      cases h2
  have hcb : Conc wb s1.fs a1 W2 := ⟨d1, d2, BelowK.refl _ _, ρ1, dt, hmb⟩
  have hrec : RecOk wb := fun k hk => by
    obtain rfl : l = k := by simpa [wb] using hk
    exact ⟨⟨by show l < W2.heap.size; omega, .inr ⟨_, hL2, rfl⟩⟩, _, hL2⟩
  have hext1 : Ext ρ ρ1 := dm.ext
  refine wpIn_n (wpIn_mono (hB wb a1 W2 (Con.of hrec hcb)) ?_)
  rintro e a3 W3 ⟨rfl, _, w3, hl3, f1, f2, f3, ρ3, ft, fm⟩
  have hb3 : BelowK wb.kp W2 W3 := ⟨f3.os.trans hl3.bel.os, f3.tape.trans hl3.bel.tape, f3.output.trans hl3.bel.output, Nat.le_trans hl3.bel.size f3.size, fun k hk => (f3.block k (hl3.kp k hk)).trans (hl3.bel.block k hk)⟩
  have hL3 : W3.heap[l]? = some (.loop (recOf fn a.tmps ps assign body D .busy none)) := (hb3.block l (hrec l rfl).1).trans hL2
  have hext3 : Ext ρ1 ρ3 := by have := fm.ext; rwa [hl3.ρ0] at this
  have kp1 : ∀ k, w2.kp k → wa.kp k := fun k hk => ⟨Nat.lt_of_lt_of_le (w2.kpl k hk) c3.size, .inl hk⟩
  have sz1 : W.heap.size ≤ W2.heap.size := by rw [hsz2]; exact d3.size
  have kp2 : ∀ k, w2.kp k → wb.kp k := fun k hk => ⟨Nat.lt_of_lt_of_le (w2.kpl k hk) (Nat.le_trans c3.size sz1), .inl hk⟩
  have keep3 : ∀ k, w2.kp k → W3.heap[k]? = W.heap[k]? := fun k hk =>
    (hb3.block k (kp2 k hk)).trans ((hoth k fun e => hkl (by rw [← e]; exact hk)).trans (d3.block k (kp1 k hk)))
  have hbel : BelowK w2.kp w2.toWorld W3 := c3.trans ⟨hb3.os.trans ((by rw [← hW2]; rfl : W2.os = W1.os).trans d3.os), hb3.tape.trans ((by rw [← hW2]; rfl : W2.tape = W1.tape).trans d3.tape), hb3.output.trans ((by rw [← hW2]; rfl : W2.output = W1.output).trans d3.output), Nat.le_trans sz1 hb3.size, keep3⟩
  have hback : Conc w2 (St.fs { tmps := (St_of i).tmps, mem := s'.mem }) a W3 :=
    ⟨c1, c2, hbel, ρ3, fun t => ((ht t).ext hext1).ext hext3, MemOk.less ⟨hm.ext.trans (hext1.trans hext3), fm.fresh, fm.ok, fm.sep⟩ fun k hk => hl3.kp k (kp2 k hk)⟩
  have hX3 : X W3 := hX W W3 hXW fun k hk hne => by
    obtain ⟨o, h1, h2⟩ := hk
    have e1 : W1.heap[k]? = W.heap[k]? := d3.block k ⟨heap_lt h1, .inr ⟨o, h1, h2⟩⟩
    have e2 : W2.heap[k]? = W.heap[k]? := (hoth k hne).trans e1
    exact (hb3.block k ⟨heap_lt (e2.trans h1), .inr ⟨o, e2.trans h1, h2⟩⟩).trans e2
  have fin : ∀ (pe : Option Code) (st : LoopState), X (W3.putObj l (.loop (recOf fn a.tmps ps assign body D st pe))) := fun pe st => hX W3 _ hX3 fun k _ hne => World.putObj_heap_other hne
  have hl3' : l < W3.heap.size := heap_lt hL3
  cases e' with
  | normal =>
    obtain ⟨g1, π, g2⟩ := hend
    have hn := weak_conc g2 hdom (cut_conc hdomM hback)
    refine ⟨_, _, run_endRound none hL3, .inl ⟨rfl, ⟨g1, ?_, ?_, ?_⟩, ?_⟩⟩
    · exact hn.putObj _ hkl hL3 rfl
    · exact World.putObj_heap_same hl3'
    · exact fin none .ready
    · exact ⟨by rw [World.putObj_size]; exact Nat.le_trans sz1 hb3.size, fun g hgg => (World.putObj_heap_other (fun e => hkl (by rw [← e]; exact hG g hgg))).trans (keep3 g (hG g hgg))⟩
  | exit id =>
    obtain ⟨g1, π, g2⟩ := hend
    have hn := weak_conc g2 hdom (cut_conc hdomM hback)
    exact ⟨_, _, run_endRound (some (.exit id)) hL3, .inr ⟨rfl, .exit id, by simp, g1, hn.putObj _ hkl hL3 rfl, World.putObj_heap_same hl3', fin (some (.exit id)) .done⟩⟩
  | ret =>
    obtain ⟨g1, π, g2⟩ := hend
    have hn := weak_conc g2 hdom (cut_conc hdomM hback)
    exact ⟨_, _, run_endRound (some .ret) hL3, .inr ⟨rfl, .ret, by simp, g1, hn.putObj _ hkl hL3 rfl, World.putObj_heap_same hl3', fin (some .ret) .done⟩⟩
set_option maxHeartbeats 1000000 in
theorem range_det (hps : ∀ i, (enc i).length = ps.length) (hpl : ∀ i, (enc i).all plainV = true) (hround : ∀ i, Good i → i < len → RoundOk P assign body (fun i => ps.zip (enc i)) St_of Good re rs N M keep i)
    {gt : Tmp} {Kn : List Nat} {gf : FuncId} {cap : List Value} (hent : enters P gf) (hT : (St_of 0).tmps.getD gt undef = .func (.func gf) #[] cap.toArray)
    (hK : ∀ n ∈ Kn, ∀ b, (St_of 0).fs.blk n = some b → b.own = false)
    (hiter : ∀ (ρ0 ρ : Nat → Option Pl) (B : Nat → Prop) (w : World) (lb : Array Value), VRs ρ cap lb → MemOk ρ0 ρ B (St_of 0).fs.blk w → Iter P gf lb len enc (gsOf (St_of 0).fs ρ Kn) w)
    {kf : List Nat} (hfin : Good len → re = .normal ∧ ∃ π, WS N π (cutS M kf (St_of len)) rs) {s : St} {π : List (Option Nat)} (hN : s.mem.length = N) (hNM : N ≤ M) (hs : WS N π (viewS Kn s) (St_of 0)) (hg0 : Good 0) :
    Det P (.rangeFunc (.tmp gt) ps.toArray assign body) s re rs := by
  rintro w0 a w ⟨hr, w1, hlat, hc⟩
  have hr1 := hr.later hlat
  have hρ : ∀ n, N ≤ n → w1.ρ0 n = none := fun n hn => conc_dom hc n (by omega)
  have hρM : ∀ n, M ≤ n → w1.ρ0 n = none := fun n hn => hρ n (by omega)
  have c0 : Conc w1 (St_of 0).fs a w := weak_conc hs hρ (view_conc hc)
  obtain ⟨d1, d2, d3, ρ, ht, hm⟩ := c0
  have hGl : ∀ g, gsOf (St_of 0).fs ρ Kn g → g < w.heap.size := by
    rintro g ⟨n, hn, b, p, h1, h2, h3, h4, rfl⟩
    exact ((hm.ok n b h1).real h2 h3 h4).1
  have hlb0 := ht gt
  rw [show (St_of 0).fs.tmp gt = .func (.func gf) #[] cap.toArray from hT] at hlb0
  obtain ⟨f', lb, hgv, hf', hlb⟩ := hlb0.func_inv
  have hf0 : f' = #[] := Array.eq_empty_of_size_eq_zero (by simpa using hf'.1.symm)
  rw [hf0] at hgv
  have hit := hiter w1.ρ0 ρ w1.kp w lb (by simpa using hlb) hm
  generalize hGd : gsOf (St_of 0).fs ρ Kn = G at hGl hit
  let w2 : Start := ⟨w, w1.ρ0, fun k => k < w.heap.size ∧ (w1.kp k ∨ G k ∨ nonC w k), fun k h => h.1, w1.df, w1.ro⟩
  have l12 : Later w1 w2 := ⟨rfl, rfl, fun k hk => ⟨Nat.lt_of_lt_of_le (w1.kpl k hk) d3.size, .inl hk⟩, d3, [], rfl, List.nodup_nil, fun D hD => by cases hD⟩
  have hm2 : MemOk w1.ρ0 ρ w2.kp (St_of 0).fs.blk w := hm.other fun n b p cs e z hn ho hp hnp hh hk => by
    rcases hk.2 with h | h | ⟨o, h1, h2⟩
    · exact h
    · exfalso
      rw [← hGd] at h
      obtain ⟨n', hn', b', p', h1, h2, h3, h4, h5⟩ := h
      have hne : n ≠ n' := fun e => by
        subst e
        have := hK n hn' b hn
        rw [ho] at this
        cases this
      exact hm.sep n n' b b' p p' hn ho h1 h2 hne hp h3 hnp h4 h5.symm
    · rw [hh] at h1
      cases h1
      cases h2
  have c2 : Conc w2 (St_of 0).fs a w := ⟨d1, d2, BelowK.refl _ _, ρ, ht, hm2⟩
  have hkl : ∀ l, w.heap.size ≤ l → ¬ w2.kp l := fun l hl h => by have := h.1; omega
  have final : ∀ (mk : List Nat) (W : World), Conc w2 rs.fs a W → mk.Nodup → (∀ D ∈ mk, w.heap.size ≤ D ∧ W.heap[D]? = some (.deferred (some []))) → Con w1 rs.fs { a with defers := mk.map mkDf ++ a.defers } W := by
    rintro mk W ⟨e1, e2, e3, ρ', et, em⟩ hnd hmk
    let w3 : Start := ⟨W, w1.ρ0, fun k => k < W.heap.size ∧ (w2.kp k ∨ k ∈ mk), fun k h => h.1, mk.map mkDf ++ w1.df, w1.ro⟩
    have l23 : Later w2 w3 := ⟨rfl, rfl, fun k hk => ⟨Nat.lt_of_lt_of_le (w2.kpl k hk) e3.size, .inl hk⟩, e3, mk, rfl, hnd, fun D hD => ⟨hkl D (hmk D hD).1, (hmk D hD).1, ⟨heap_lt (hmk D hD).2, .inr hD⟩, (hmk D hD).2⟩⟩
    refine ⟨hr1, w3, l12.trans l23, by show _ = mk.map mkDf ++ w1.df; rw [← show a.defers = w1.df from e1], e2, BelowK.refl _ _, ρ', et, em.other fun n b p cs e z hn ho hp hnp hh hk => ?_⟩
    rcases hk.2 with h | h
    · exact h
    · rw [(hmk _ h).2] at hh
      cases hh
  have calls : ∀ (mk : List Nat) (l D : Nat) (fn : FuncId) (W1 : World), w.heap.size ≤ l → w.grownBy W1 none → W1.heap[l]? = some (.loop (recOf fn a.tmps ps assign body D .ready none)) → mk.Nodup → (∀ D ∈ mk, w.heap.size ≤ D ∧ D ≠ l ∧ W1.heap[D]? = some (.deferred (some []))) →
      CallsIn (fz w1.ro) 2 P gf (#[.func (.yield l) #[] #[]] ++ lb) W1 (rangePost (fz w1.ro) 3 P l (fun e a w => e = re.out ∧ Con w1 rs.fs a w) { a with defers := mk.map mkDf ++ a.defers }) := by
    intro mk l D fn W1 hl hW hL hnd hmk
    have hXk : ∀ W W' : World, (∀ D ∈ mk, W.heap[D]? = some (.deferred (some []))) → (∀ k, nonC W k → k ≠ l → W'.heap[k]? = W.heap[k]?) → ∀ D ∈ mk, W'.heap[D]? = some (.deferred (some [])) := fun W W' h hk D' hD' => (hk D' ⟨_, h D' hD', rfl⟩ (hmk D' hD').2.1).trans (h D' hD')
    have base := hit l (fun i W => Good i ∧ Conc w2 (St_of i).fs a W ∧ W.heap[l]? = some (.loop (recOf fn a.tmps ps assign body D .ready none)) ∧ ∀ D ∈ mk, W.heap[D]? = some (.deferred (some [])))
      (fun W => ∃ e', e' ≠ .normal ∧ e' = re ∧ Conc w2 rs.fs a W ∧ W.heap[l]? = some (.loop (recOf fn a.tmps ps assign body D .done (some (exCode e')))) ∧ ∀ D ∈ mk, W.heap[D]? = some (.deferred (some []))) W1
      (fun g hg => hW.block g (hGl g hg) (by simp)) hW.size
      (fun i W W' ⟨g, c, hl', hx⟩ hgr => ⟨g, c.grown hgr, (hgr.block l (heap_lt hl') (by simp)).trans hl', hXk W W' hx fun k ⟨o, hk, _⟩ _ => hgr.block k (heap_lt hk) (by simp)⟩)
      (fun W W' ⟨e', q1, q2, c, hl', hx⟩ hgr => ⟨e', q1, q2, c.grown hgr, (hgr.block l (heap_lt hl') (by simp)).trans hl', hXk W W' hx fun k ⟨o, hk, _⟩ _ => hgr.block k (heap_lt hk) (by simp)⟩)
      (fun i W ⟨g, c, hl', hx⟩ hlt => range_round (w2 := w2) (G := G) (X := fun W => ∀ D ∈ mk, W.heap[D]? = some (.deferred (some []))) hps hpl hround hXk hl (fun g hg => ⟨hGl g hg, .inr (.inl hg)⟩) hρ hρM g hlt c hl' hx)
      ⟨hg0, c2.grown hW, hL, fun D hD => (hmk D hD).2.2⟩
    have base' : CallsIn (fz w1.ro) 2 P gf (#[.func (.yield l) #[] #[]] ++ lb) W1 _ := base
    refine base'.mono ?_
    rintro e W2 ⟨⟨v, rfl⟩, ⟨g, c, hl', hx⟩ | ⟨e', hne, he, c, hl', hx⟩⟩
    · obtain ⟨hre, π', g2⟩ := hfin g
      refine ⟨none, _, run_endLoop hl' (by simp [recOf]), by rw [hre]; rfl, final mk _ ((weak_conc (w0 := w2) g2 hρ (cut_conc (w0 := w2) hρM c)).putObj _ (hkl l hl) hl' rfl) hnd fun D' hD' => ⟨(hmk D' hD').1, (World.putObj_heap_other (hmk D' hD').2.1).trans (hx D' hD')⟩⟩
    · have fin2 := final mk _ (c.putObj (.loop { recOf fn a.tmps ps assign body D .done (some (exCode e')) with state := .exhausted }) (hkl l hl) hl' rfl) hnd fun D' hD' => ⟨(hmk D' hD').1, (World.putObj_heap_other (hmk D' hD').2.1).trans (hx D' hD')⟩
      refine ⟨some (exCode e'), _, run_endLoop hl' (by simp [recOf]), ?_⟩
      cases e' with
      | normal => exact absurd rfl hne
      | exit id => exact wpIn_exit ⟨by rw [← he]; rfl, fin2⟩
      | ret => exact wpIn_ret ⟨by rw [← he]; rfl, fin2⟩
  have hg : a.eval (.tmp gt) = .func (.func gf) #[] lb := hgv
  have main : (Code.rangeFunc (.tmp gt) ps.toArray assign body).wpIn (fz w1.ro) 3 P (fun e a w => e = re.out ∧ Con w1 rs.fs a w) a w := by
    refine wpIn_rangeFunc fun fn hfn => ?_
    have hres : ∀ (l : Nat) (W : World), (resolve a.eval (rangeCall (.tmp gt) l) 0).run P W = .ok { target := .fn (.func gf) lb, args := #[.func (.yield l) #[] #[]] } W := fun l W => by
      simp only [resolve, hg]
      simp [go_sem]
    have hinv : ∀ (l : Nat) (W : World), (invoke (.fn (.func gf) lb) #[.func (.yield l) #[] #[]]).run P W = .ok (.enter gf (#[.func (.yield l) #[] #[]] ++ lb)) W := fun l W => by
      simp only [invoke]
      exact hent _ _
    have close : ∀ (mk : List Nat) (l D : Nat) (W1 : World), (Instr.enterLoop fn a.tmps ps.toArray assign body w1.ro).run P w = .ok (l, mk.map mkDf) W1 →
        CallsIn (fz w1.ro) 2 P gf (#[.func (.yield l) #[] #[]] ++ lb) W1 (rangePost (fz w1.ro) 3 P l (fun e a w => e = re.out ∧ Con w1 rs.fs a w) { a with defers := mk.map mkDf ++ a.defers }) →
        ∃ (l : Nat) (mark : List Deferred) (w₁ : World) (d : Deferred) (w₁' : World) (f : FuncId) (args : Array Value) (w₂ : World),
          (Instr.enterLoop fn a.tmps ps.toArray assign body (fz w1.ro).round).run P w = .ok (l, mark) w₁ ∧
          (resolve a.eval (rangeCall (.tmp gt) l) 0).run P w₁ = .ok d w₁' ∧
          (∀ f', Target.leads P w₁' d.target d.args = some f' → (fz w1.ro).fn f') ∧
          (invoke d.target d.args).run P w₁' = .ok (.enter f args) w₂ ∧
          ((fz w1.ro).depth.isSome = true → 1 ≤ 3) ∧
          CallsIn (fz w1.ro) (3 - 1) P f args w₂ (rangePost (fz w1.ro) 3 P l (fun e a w => e = re.out ∧ Con w1 rs.fs a w) { a with defers := mark ++ a.defers }) :=
      fun mk l D W1 h1 h2 => ⟨l, mk.map mkDf, W1, _, W1, gf, _, W1, h1, hres l W1, fun _ _ => trivial, hinv l W1, fun h => (by cases h), h2⟩
    rcases hro : w1.ro with _ | l₀
    · have hgr : w.grownBy ((w.alloc (.deferred (some []))).alloc (.loop (recOf fn a.tmps ps assign body w.heap.size .ready none))) none :=
        ⟨rfl, rfl, rfl, by simp; omega, fun k hk _ => (Below.heap_alloc _ _ k (by simp; omega)).trans (Below.heap_alloc _ _ k hk)⟩
      have hL := World.alloc_heap_new (w.alloc (.deferred (some []))) (.loop (recOf fn a.tmps ps assign body w.heap.size .ready none))
      rw [World.size_alloc] at hL
      have hD : ((w.alloc (.deferred (some []))).alloc (.loop (recOf fn a.tmps ps assign body w.heap.size .ready none))).heap[w.heap.size]? = some (.deferred (some [])) :=
        (Below.heap_alloc _ _ _ (by simp)).trans (World.alloc_heap_new w _)
      have hent1 : (Instr.enterLoop fn a.tmps ps.toArray assign body w1.ro).run P w = .ok (w.heap.size + 1, [w.heap.size].map mkDf) ((w.alloc (.deferred (some []))).alloc (.loop (recOf fn a.tmps ps assign body w.heap.size .ready none))) := by
        rw [hro]
        exact run_enterLoop_outer _ _ _ _ _
      generalize (w.alloc (.deferred (some []))).alloc (.loop (recOf fn a.tmps ps assign body w.heap.size .ready none)) = W1 at hgr hL hD hent1
      have := close [w.heap.size] (w.heap.size + 1) w.heap.size W1 hent1 (calls [w.heap.size] (w.heap.size + 1) w.heap.size fn W1 (by omega) hgr hL (by simp) (by
        intro D hD'
        obtain rfl : D = w.heap.size := by simpa using hD'
        exact ⟨Nat.le_refl _, by omega, hD⟩))
      rwa [hro] at this
    · obtain ⟨hk, r₀, hr₀⟩ := hr1 l₀ hro
      have hr₀ : w.heap[l₀]? = some (.loop r₀) := (d3.block l₀ hk).trans hr₀
      have hgr : w.grownBy (w.alloc (.loop (recOf fn a.tmps ps assign body r₀.defers .ready none))) none := World.grownBy_alloc w _ none
      have hL := World.alloc_heap_new w (.loop (recOf fn a.tmps ps assign body r₀.defers .ready none))
      have hent1 : (Instr.enterLoop fn a.tmps ps.toArray assign body w1.ro).run P w = .ok (w.heap.size, ([] : List Nat).map mkDf) (w.alloc (.loop (recOf fn a.tmps ps assign body r₀.defers .ready none))) := by
        rw [hro]
        exact run_enterLoop_inner hr₀ _ _ _ _ _
      generalize w.alloc (.loop (recOf fn a.tmps ps assign body r₀.defers .ready none)) = W1 at hgr hL hent1
      have := close [] w.heap.size r₀.defers W1 hent1 (calls [] w.heap.size r₀.defers fn W1 (Nat.le_refl _) hgr hL List.nodup_nil (fun D hD => by cases hD))
      rwa [hro] at this
  have := wpIn_mono main fun e a w ⟨he, hc⟩ => (⟨he, hc.later hr hlat⟩ : e = re.out ∧ Con w0 rs.fs a w)
  rwa [hlat.ro] at this
end
def bodyR (P : Program) (E : Env) (m n : Nat) (lt : LT) (rt : RT) (asg bod : Code) (pv : List (Nat × Value)) (keep : Ex → List Nat) (M : Nat) (s : St) : Tree :=
  asT P E.J (runM P E m n) asg (fun s1 => runN P E.R E.J (asK P E (runM P E m n)) (runM P E m n) lt rt m bod 0 (fun e s' => .leaf e (cutS M (keep e) { tmps := s.tmps, mem := s'.mem })) s1) { tmps := putL pv s.tmps, mem := s.mem }
def RoundEndR (N : Nat) (St_of : Nat → St) (Good : Nat → Prop) (re : Ex) (rs : St) (i : Nat) (e : Ex) (s : St) : Prop :=
  match e with
  | .normal => Good (i + 1) ∧ ∃ π, WS N π s (St_of (i + 1))
  | e => e = re ∧ ∃ π, WS N π s rs
theorem bodyR_ok {P : Program} (hm : P.follows .mixedOrders = true) {E : Env} (hE : EnvOk P E) {m n : Nat} {lt : LT} {rt : RT} {asg bod : Code} {pv : Nat → List (Nat × Value)} {St_of : Nat → St} {Good : Nat → Prop} {re : Ex} {rs : St} {N M i : Nat} {keep : Ex → List Nat}
    (hL : LoopsGood P lt 0 bod) (hR : RangesGood P rt bod) (h : (bodyR P E m n lt rt asg bod (pv i) keep M (St_of i)).ok (RoundEndR N St_of Good re rs i) (fun _ _ => False)) : RoundOk P asg bod pv St_of Good re rs N M keep i := by
  obtain ⟨s1, h1, h2⟩ := asT_det hE.J (runM_ok hm hE m n) asg _ _ h
  obtain ⟨e', s', h3, h4⟩ := runN_det hE.R hE.J (asK_ok hE (runM_ok hm hE m n)) (runM_ok hm hE m n) hm bod 0 hL hR _ _ _ s1 h1
  refine ⟨s1, e', s', h2, h4, ?_⟩
  unfold Tree.ok RoundEndR at h3
  cases e' <;> exact h3
def RangeE (P : Program) (e : St → (Ex → St → Tree) → Option Tree) (c : Code) : Prop := ∀ s k t F H, e s k = some t → t.ok F H → ∃ e' s', (k e' s').ok F H ∧ Det P c s e' s'
def slotR : Code → Nat
  | .rangeFunc f _ _ _ => slotOf f
  | _ => 0
def rt1 (t : Nat) (e : St → (Ex → St → Tree) → Option Tree) : RT := fun j s k => match Nat.beq j t with
  | true => e s k
  | false => none
theorem rt1_good {P : Program} {e : St → (Ex → St → Tree) → Option Tree} {t : Nat} {c : Code} (hs : (rangesOf c).map slotR = [t]) (h : RangeE P e ((rangesOf c).getD 0 .skip)) : RangesGood P (rt1 t e) c := by
  intro d hd f ps x y hdd s k tr F H hlt ht
  unfold rt1 at hlt
  split at hlt
  rotate_left
  · cases hlt
  have hlen : (rangesOf c).length = 1 := by have := congrArg List.length hs; simpa using this
  obtain ⟨r, hr⟩ := List.length_eq_one_iff.1 hlen
  rw [hr] at hd h
  obtain rfl : d = r := by simpa using hd
  exact h s k tr F H hlt ht
def lastOk (m : Nat) (T : List (List Nat)) (n : Nat) : Bool := (List.range n).all fun j => Nat.blt j m || (List.range j).all fun i => (T.getD j []).contains i
def thenT (P : Program) (m : Nat) (ops : List Oper) (s : St) (k : St → Tree) : Tree :=
  match stepsOf (aop P failG) ops.toArray (nameOf alAll ops s.mem.length) 0 (ops.take m) { tmps := s.tmps, mem := s.mem ++ List.replicate (countB alAll ops) none } with
  | none => .bad
  | some (l, s') => match validT ops.toArray (ancOf ops) && clashAll (ancOf ops) 0 ((ops.take m).zip l) && lastOk m (ancOf ops) ops.length && Nat.ble m ops.length with
    | false => .bad
    | true => needs (condsOf l) (k s')
theorem thenT_ok {P : Program} (hm : P.follows .mixedOrders = true) {m : Nat} {ops : List Oper} {s : St} {k : St → Tree} {F : Ex → St → Prop} {H : Value → List (Option Blk) → Prop} (h : (thenT P m ops s k).ok F H) :
    ∃ s', (k s').ok F H ∧ ∀ (w0 : Start) (a : Act) (w : World) (Q : Exit → Act → World → Prop) (id : Nat), Conc w0 s.fs a w → (∀ a' w', Conc w0 s'.fs a' w' → wpOpsIn (fz w0.ro) 3 P ops.toArray Q (List.range' m (ops.length - m)) a' w') → (Code.region id ops.toArray true).wpIn (fz w0.ro) 3 P Q a w := by
  unfold thenT at h
  split at h
  · exact h.elim
  rename_i l s1 hst
  split at h
  · exact h.elim
  rename_i hchk
  simp only [Bool.and_eq_true] at hchk
  obtain ⟨⟨⟨hv, hcl⟩, hla⟩, hml⟩ := hchk
  have hml := Nat.le_of_ble_eq_true hml
  obtain ⟨hC, hk⟩ := needs_ok h
  refine ⟨s1, hk, fun w0 a w Q id hc hQ => ?_⟩
  have htl : (ops.take m).length = m := by simp [hml]
  obtain ⟨h1, h2, h3⟩ := stepsOf_spec (s0 := s.fs) (eff := fun i => ((l[i]?).map (·.1)).getD skipE) (ops.take m) 0 _ _ _ hst (fun j o h => by
    rw [List.getElem?_take] at h
    split at h
    · simpa using h
    · cases h) (fun j x hx => by simp [hx]) (by rw [St.pad_fs]; rfl)
  have hget : ∀ j o, j < m → ops.toArray[j]? = some o → (ops.take m)[j]? = some o := fun j o hj ho => by
    rw [List.getElem?_take, if_pos hj]
    simpa using ho
  have hrun : ∀ i o, i < m → ops.toArray[i]? = some o → (gop (aop P failG) ops.toArray (nameOf alAll ops s.mem.length i) o).run (sAt (dstOf ops.toArray) (fun i => ((l[i]?).map (·.1)).getD skipE) s.fs (fun _ => true) i) = some (((l[i]?).map (·.1)).getD skipE) ∧ (((l[i]?).map (·.1)).getD skipE).cond := by
    intro i o hi ho
    obtain ⟨x, k1, k2, _, _⟩ := h3 i o (hget i o hi ho)
    rw [Nat.zero_add] at k2
    rw [k2, k1]
    exact ⟨rfl, condsOf_get hC i x k1⟩
  refine region_then (aop_sound (failG_sound P)) hm hv (m := m) (by simpa using hml) (nm := nameOf alAll ops s.mem.length) hrun (fun i j oi oj hij hj hoi hoj hcl' => ?_) (fun j hj1 hj2 i hi => ?_) hc (fun a' w' hcc => ?_)
  · obtain ⟨x, k1, _, k3, k4⟩ := h3 i oi (hget i oi (by omega) hoi)
    obtain ⟨y, m1, _, m3, m4⟩ := h3 j oj (hget j oj hj hoj)
    rw [Nat.zero_add] at k3 k4 m3 m4
    have := clashAll_get ((ops.take m).zip l) 0 hcl i j (oi, x) (oj, y) hij (by rw [List.getElem?_zip_eq_some]; exact ⟨hget i oi (by omega) hoi, k1⟩) (by rw [List.getElem?_zip_eq_some]; exact ⟨hget j oj hj hoj, m1⟩)
      (by simp only [k3, k4, m3, m4]; simpa [k1, m1] using hcl')
    simpa using this
  · have := List.all_eq_true.1 hla j (by simpa using hj2)
    have hb : Nat.blt j m = false := by
      rcases hb : Nat.blt j m with _ | _
      · rfl
      · have := Nat.le_of_ble_eq_true hb
        omega
    rw [hb, Bool.false_or] at this
    have := List.all_eq_true.1 this i (by simpa using hi)
    simpa using this
  · have := hQ a' w' (by rw [h2, Nat.zero_add, htl]; exact hcc)
    simpa using this
def asgOf : Code → Code
  | .rangeFunc _ _ a _ => a
  | _ => .skip
def bodOf : Code → Code
  | .rangeFunc _ _ _ b => b
  | _ => .skip
end Go.Proofs.Ytbfoheblcoakiaa
