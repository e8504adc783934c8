/-
  Texts that the proof needs, merged. Written by an AI agent.
-/
import Derived.Orders
import Derived.Below
import Derived.OrdersIn
import Derived.Deep.LoopGhost
import Derived.WalkKit
import Derived.Laws.CopyRow
import Derived.Laws.AppendOwn
import Derived.Laws.Slices
import Derived.Laws.MakeOwn
import Derived.Test.YtcplfampcbekoaaRows
import Derived.ProofKit
import Derived.OpenShut
import Derived.Carry
import Derived.IntWalk
import Derived.Test.YtcplfampcbekoaaProg
import Derived.WalkSpells
import Derived.WalkLawsBesides
import Derived.Lib.Hide
import Derived.Deep.QuietTactic
import Derived.BigQuiet
import Derived.KernelRfl
import Derived.Deep.RegionHeld3
import Derived.LoopTactic
import Derived.Laws.StructEq
import Derived.Laws.Tables
import Derived.RangeFuncNested
import Derived.RangeFuncLeaves
import Derived.Deep.Slices
import Derived.Deep.Fields
import Derived.ChangeSame
import Derived.Shelf.SlSortCmp.WholeK
import Derived.Sort.Grow
import Derived.Deep.DeepCutAuto
import Derived.Shelf.SlSortCmp.NoneTotal
import Derived.Test.YtcplfampcbekoaaZHullMore2
namespace Go.Proofs.Ytcplfampcbekoaa
set_option linter.all false
open Go.RowKit
abbrev Pt := Int × Int
def flat : List Pt → List Int
  | [] => []
  | p :: r => p.1 :: p.2 :: flat r
def pts : List Int → List Pt
  | a :: b :: r => (a, b) :: pts r
  | _ => []
theorem pts_flat : ∀ ps, pts (flat ps) = ps
  | [] => rfl
  | p :: r => by simp [flat, pts, pts_flat r]
theorem flat_length : ∀ ps, (flat ps).length = ps.length * 2
  | [] => rfl
  | p :: r => by simp [flat, flat_length r]; omega
theorem flat_pts : ∀ (n : Nat) (xs : List Int), xs.length = n * 2 → flat (pts xs) = xs ∧ (pts xs).length = n
  | 0, xs, h => by
    obtain rfl : xs = [] := List.eq_nil_of_length_eq_zero (by omega)
    exact ⟨rfl, rfl⟩
  | n + 1, xs, h => by
    match xs, h with
    | a :: b :: r, h =>
      obtain ⟨h1, h2⟩ := flat_pts n r (by simp at h; omega)
      exact ⟨by simp [pts, flat, h1], by simp [pts, h2]⟩
    | [a], h => simp at h; omega
    | [], h => simp at h
theorem even_flat {n : Nat} {xs : List Int} (h : xs.length = n * 2) : ∃ ps : List Pt, xs = flat ps ∧ ps.length = n :=
  ⟨pts xs, (flat_pts n xs h).1.symm, (flat_pts n xs h).2⟩
theorem flat_append : ∀ a b, flat (a ++ b) = flat a ++ flat b
  | [], b => rfl
  | p :: r, b => by simp [flat, flat_append r b]
theorem flat_drop : ∀ (ps : List Pt) (k : Nat), (flat ps).drop (k * 2) = flat (ps.drop k)
  | ps, 0 => by simp
  | [], k + 1 => by simp [flat]
  | p :: r, k + 1 => by
    rw [show (k + 1) * 2 = k * 2 + 2 by omega]
    simp [flat, flat_drop r k]
theorem flat_take : ∀ (ps : List Pt) (k : Nat), (flat ps).take (k * 2) = flat (ps.take k)
  | ps, 0 => by simp [flat]
  | [], k + 1 => by simp [flat]
  | p :: r, k + 1 => by
    rw [show (k + 1) * 2 = k * 2 + 2 by omega]
    simp [flat, flat_take r k]
theorem flat_all (ps : List Pt) : (flat ps).take (ps.length * 2) = flat ps := by rw [flat_take, List.take_length]
theorem flat_get : ∀ (ps : List Pt) (k : Nat), (flat ps).getD (k * 2) 0 = (ps.getD k (0, 0)).1 ∧ (flat ps).getD (k * 2 + 1) 0 = (ps.getD k (0, 0)).2
  | [], k => by simp [flat]
  | p :: r, 0 => by simp [flat]
  | p :: r, k + 1 => by
    obtain ⟨h1, h2⟩ := flat_get r k
    rw [show (k + 1) * 2 = k * 2 + 2 by omega, show k * 2 + 2 + 1 = k * 2 + 1 + 2 by omega]
    simp only [flat, List.getD_eq_getElem?_getD, List.getElem?_cons_succ] at h1 h2 ⊢
    exact ⟨h1, h2⟩
theorem flat_get0 (ps : List Pt) (k : Nat) : (flat ps).getD (k * 2) 0 = (ps.getD k (0, 0)).1 := (flat_get ps k).1
theorem flat_get1 (ps : List Pt) (k : Nat) : (flat ps).getD (k * 2 + 1) 0 = (ps.getD k (0, 0)).2 := (flat_get ps k).2
theorem flat_set (ps : List Pt) (k : Nat) (h : k < ps.length) (a b : Int) : setInts (flat ps) (k * 2) [a, b] = flat (ps.set k (a, b)) := by
  have e : ps = ps.take k ++ ps[k] :: ps.drop (k + 1) := by simp
  have hl : (ps.take k).length = k := by simp; omega
  unfold setInts
  rw [flat_take, show k * 2 + [a, b].length = (k + 1) * 2 by simp; omega, flat_drop]
  rw [List.set_eq_take_append_cons_drop, if_pos h, flat_append]
  simp [flat]
theorem flat_snoc (ps : List Pt) (a b : Int) : flat ps ++ [a, b] = flat (ps ++ [(a, b)]) := by rw [flat_append]; rfl
theorem drop_cons {α : Type} {l : List α} {k : Nat} (h : k < l.length) (d : α) : l.drop k = l.getD k d :: l.drop (k + 1) := by
  rw [List.drop_eq_getElem_cons h]
  simp [h]
theorem wr {x : Int} (h : -9223372036854775808 ≤ x ∧ x ≤ 9223372036854775807) : IntKind.i64.wrap x = x := by
  rw [IntKind.wrap_i64]
  omega
theorem wsucc {i n : Nat} (h : i < n) (hn : n ≤ 1000000000) : IntKind.i64.wrap ((i : Int) + 1) = ((i + 1 : Nat) : Int) := by
  rw [wr (by omega)]; omega
theorem all_drop {α : Type} {l : List α} {k : Nat} (h : k < l.length) (d : α) (P : α → Bool) : (l.drop k).all P = (P (l.getD k d) && (l.drop (k + 1)).all P) := by rw [drop_cons h d]; rfl
theorem all_end {α : Type} {l : List α} {k : Nat} (h : l.length ≤ k) (P : α → Bool) : (l.drop k).all P = true := by rw [List.drop_of_length_le h]; rfl
theorem pick2k {b : Bool} {k : Ex → St → Tree} {e1 e2 : Ex} {s1 s2 : St} {F : Ex → St → Prop} {H : Value → List (Option Blk) → Prop} (h : (brT b (k e1 s1) (k e2 s2)).ok F H) : (k (bif b then e1 else e2) (bif b then s1 else s2)).ok F H := by
  cases b
  · exact h
  · exact h
/-- A loop's body on a state, cut at its ends to what is looked at again: keep tells which slots, M how many names. -/
def bodyL (P : Program) (E : Env) (m n : Nat) (lt : LT) (j : Nat) (c : Code) (keep : Ex → List Nat) (M : Nat) (s : St) : Tree := runN P E.R E.J (asK P E (runM P E m n)) (runM P E m n) lt noR m c j (fun e s' => .leaf e (cutS M (keep e) s')) s
theorem body_det {P : Program} (hm : P.follows .mixedOrders = true) {E : Env} (hE : EnvOk P E) {m n : Nat} {lt : LT} {j : Nat} {c : Code} (hL : LoopsGood P lt j c) {keep : Ex → List Nat} {M : Nat} {s : St} {F : Ex → St → Prop} (h : (bodyL P E m n lt j c keep M s).ok F (fun _ _ => False)) :
    ∃ e' s', Det P c s e' s' ∧ F e' (cutS M (keep e') s') := by
  obtain ⟨e', s', h1, h2⟩ := runN_det hE.R hE.J (asK_ok hE (runM_ok hm hE m n)) (runM_ok hm hE m n) hm c j hL noR_good _ F _ s h
  exact ⟨e', s', h2, h1⟩
theorem noLoops {P : Program} {lt : LT} {j : Nat} {c : Code} (h : loopsOf c = []) : LoopsGood P lt j c := fun i d hd => by rw [h] at hd; simp at hd
/-- Which slots are looked at again: behind a round, behind an exit, behind the function's end. -/
def keeps (nrm : List Nat) (exits : List (Nat × List Nat)) (ret : List Nat) : Ex → List Nat
  | .normal => nrm
  | .exit id => (exits.lookup id).getD []
  | .ret => ret
/-- The end of a round. -/
def RoundEnd {X : Type} (N : Nat) (St_of : X → St) (Inv : X → Prop) (μ : X → Nat) (re : X → Ex) (rs : X → St) (x : X) (e : Ex) (s : St) : Prop :=
  match e with
  | .normal => ∃ x' π, Inv x' ∧ μ x' < μ x ∧ re x' = re x ∧ rs x' = rs x ∧ WS N π s (St_of x')
  | e => e = re x ∧ ∃ π, WS N π s (rs x)
theorem loop_run {P : Program} (hm : P.follows .mixedOrders = true) {E : Env} (hE : EnvOk P E) {m n : Nat} {lt : LT} {j : Nat} {c : Code} {N : Nat} {X : Type} (St_of : X → St) (Inv : X → Prop) (μ : X → Nat) (re : X → Ex) (rs : X → St) (keep : Ex → List Nat) {M : Nat} (hM : ∀ x, (St_of x).mem.length = M) (hL : LoopsGood P lt j c)
    (h : ∀ x, Inv x → (bodyL P E m n lt j c keep M (St_of x)).ok (RoundEnd N St_of Inv μ re rs x) (fun _ _ => False))
    {x : X} (hx : Inv x) {s : St} {π : List (Option Nat)} (hN : s.mem.length = N) (hs : WS N π s (St_of x)) : Det P (.loop c) s (re x) (rs x) :=
  loop_det St_of Inv μ re rs keep (fun x hx => by
    obtain ⟨e', s', h1, h2⟩ := body_det hm hE hL (h x hx)
    refine ⟨e', s', h1, ?_⟩
    rw [hM]
    unfold RoundEnd at h2
    cases e' <;> exact h2) hx hN hs
theorem wv_top (f : Nat → Option (Option Nat)) (v : Value) : wv f v topV := by
  cases v <;> exact True.intro
/-- Some slots of a frame; a frame of which only some slots are known. -/
def pickL (l : List Value) (idx : List Nat) : List Value := idx.map fun i => l.getD i undef
def lookV : List Nat → List Value → Nat → Value
  | i :: r, v :: vs, j => if i = j then v else lookV r vs j
  | _, _, _ => topV
def spread (n : Nat) (idx : List Nat) (vals : List Value) : List Value := (List.range n).map (lookV idx vals)
theorem lookV_ok {f : Nat → Option (Option Nat)} {l : List Value} : ∀ {idx : List Nat} {vals : List Value}, wvs f (pickL l idx) vals → ∀ j, wv f (l.getD j undef) (lookV idx vals j)
  | [], [], _, j => wv_top _ _
  | [], _ :: _, h, _ => h.elim
  | _ :: _, [], h, _ => h.elim
  | i :: r, v :: vs, h, j => by
    unfold lookV
    split
    · rename_i hij
      subst hij
      exact h.1
    · exact lookV_ok h.2 j
theorem wvs_of {f : Nat → Option (Option Nat)} : ∀ {l l' : List Value}, l.length = l'.length → (∀ j, j < l.length → wv f (l.getD j undef) (l'.getD j undef)) → wvs f l l'
  | [], [], _, _ => trivial
  | [], _ :: _, h, _ => by simp at h
  | _ :: _, [], h, _ => by simp at h
  | a :: r, b :: r', h, hj => ⟨hj 0 (by simp), wvs_of (by simpa using h) fun j hj' => by simpa using hj (j + 1) (by simpa using hj')⟩
theorem wvs_spread {f : Nat → Option (Option Nat)} {l vals l' : List Value} {n : Nat} {idx : List Nat} (hl : Nat.beq l.length n = true) (he : l' = spread n idx vals) (h : wvs f (pickL l idx) vals) : wvs f l l' := by
  have hl := Nat.eq_of_beq_eq_true hl
  subst he
  refine wvs_of (by simp [spread, hl]) fun j hj => ?_
  have : (spread n idx vals).getD j undef = lookV idx vals j := by
    have : j < n := by omega
    simp [spread, this]
  rw [this]
  exact lookV_ok h j
theorem wvs_spread' {f : Nat → Option (Option Nat)} {l l' : List Value} {n : Nat} (idx : List Nat) (hl : Nat.beq l.length n = true) (he : l' = spread n idx (pickL l' idx)) (h : wvs f (pickL l idx) (pickL l' idx)) : wvs f l l' := wvs_spread hl he h
/-- An entry for a loop is sound. -/
def LoopE (P : Program) (e : St → (Ex → St → Tree) → Option Tree) (c : Code) : Prop := ∀ s k t F H, e s k = some t → t.ok F H → ∃ e' s', (k e' s').ok F H ∧ Det P (.loop c) s e' s'
/-- A function with one loop. -/
def lt1 (e : St → (Ex → St → Tree) → Option Tree) : LT := fun j s k => match j with
  | 0 => e s k
  | _ => none
theorem lt1_good {P : Program} {e : St → (Ex → St → Tree) → Option Tree} {c : Code} (h : LoopE P e (((loopsOf c)[0]?).getD .skip)) : LoopsGood P (lt1 e) 0 c := by
  intro i d hd s k t F H hlt ht
  rw [Nat.zero_add] at hlt
  cases i with
  | zero =>
    rw [hd] at h
    exact h s k t F H hlt ht
  | succ i => cases hlt
def noL : LT := fun _ _ _ => none
theorem noL_good {P : Program} {j : Nat} {c : Code} : LoopsGood P noL j c := fun _ _ _ _ _ _ _ _ h => by cases h
/-- An argument's cells beyond what is asked. -/
theorem Res.more {P : Program} {f : FuncId} {ds ds' : List DArg} {v : Value} (h : Res P f ds' v) (hg : ∀ d ∈ ds, d.good) (hd : ∀ w args, DOks w ds args → DOks w ds' args) : Res P f ds v :=
  ⟨h.1, h.2.1, h.2.2.1, hg, fun w args ha => h.2.2.2.2 w args (hd w args ha)⟩
theorem ResR.more {P : Program} {f : FuncId} {ds ds' : List DArg} {v : Value} {b : Blk} (h : ResR P f ds' v b) (hg : ∀ d ∈ ds, d.good) (hd : ∀ w args, DOks w ds args → DOks w ds' args) : ResR P f ds v b :=
  ⟨h.1, h.2.1, h.2.2.1, hg, fun w args ha => h.2.2.2.2 w args (hd w args ha)⟩
/-- The first cells of a row argument. -/
theorem DOk.take {w : World} {l : Nat} {xs : List Int} {y : Value} (k : Nat) (h : DOk w (.row l (.ints xs)) y) : DOk w (.row l (.ints (xs.take k))) y := by
  obtain ⟨h1, ad, c', h2, h3, h4⟩ := h
  refine ⟨rfl, ad, c', h2, h3, h4.imp id ?_⟩
  rintro ⟨g, f, h5, h6, h7⟩
  refine ⟨g, f, h5, h6, fun j v hv => h7 j v ?_⟩
  simp only [Cs.list, List.getElem?_map] at hv ⊢
  rw [List.getElem?_take] at hv
  split at hv
  · exact hv
  · simp at hv
theorem DOks.imp {w : World} : ∀ {ds ds' : List DArg} {args : Array Value}, DOks w ds args → ds.length = ds'.length → (∀ (i : Nat) d d' y, ds[i]? = some d → ds'[i]? = some d' → DOk w d y → DOk w d' y) → DOks w ds' args := by
  intro ds ds' args h hl hi
  refine ⟨by rw [← hl]; exact h.1, fun i d' y hd' hy => ?_⟩
  have hlt : i < ds.length := by rw [hl]; exact (List.getElem?_eq_some_iff.1 hd').1
  exact hi i ds[i] d' y (by simp) hd' (h.2 i _ y (by simp) hy)
/-- The points of a row argument. -/
def ptsA (n : Nat) (xs : List Int) : List Pt := pts (xs.take (n * 2))
theorem ptsA_flat (ps : List Pt) : ptsA ps.length (flat ps) = ps := by
  unfold ptsA
  rw [flat_take, List.take_length, pts_flat]
theorem ptsA_spec {n : Nat} {xs : List Int} (h : n * 2 ≤ xs.length) : xs.take (n * 2) = flat (ptsA n xs) ∧ (ptsA n xs).length = n := by
  unfold ptsA
  have := flat_pts n (xs.take (n * 2)) (by simp; omega)
  exact ⟨this.1.symm, this.2⟩
/-- What is known for lists of points as they are is known for any cells. -/
theorem DOks.pts {w : World} {pre post : List DArg} {n : Nat} {xs : List Int} {args : Array Value} (ha : DOks w (pre ++ .row n (.ints xs) :: post) args) : DOks w (pre ++ .row n (.ints (xs.take (n * 2))) :: post) args := by
  refine ha.imp (by simp) fun i d d' y hd hd' hy => ?_
  rcases Nat.lt_or_ge i pre.length with hlt | hge
  · rw [List.getElem?_append_left hlt] at hd hd'
    rw [hd] at hd'
    obtain rfl : d = d' := by simpa using hd'
    exact hy
  · rw [List.getElem?_append_right hge] at hd hd'
    rcases hk : i - pre.length with _ | k
    · rw [hk] at hd hd'
      obtain rfl : DArg.row n (.ints xs) = d := by simpa using hd
      obtain rfl : DArg.row n (.ints (xs.take (n * 2))) = d' := by simpa using hd'
      exact hy.take _
    · rw [hk] at hd hd'
      simp only [List.getElem?_cons_succ] at hd hd'
      rw [hd] at hd'
      obtain rfl : d = d' := by simpa using hd'
      exact hy
theorem good_pts {pre post : List DArg} {n : Nat} {xs ys : List Int} (h : ∀ d ∈ pre ++ .row n (.ints xs) :: post, d.good) : ∀ d ∈ pre ++ .row n (.ints ys) :: post, d.good := by
  intro d hd
  rcases List.mem_append.1 hd with hd | hd
  · exact h d (List.mem_append_left _ hd)
  · rcases List.mem_cons.1 hd with rfl | hd
    · rfl
    · exact h d (List.mem_append_right _ (List.mem_cons_of_mem _ hd))
theorem res_pts1 {P : Program} {f : FuncId} {pre post : List DArg} {v : Value} {n : Nat} {xs : List Int} (hn : n * 2 ≤ xs.length) (h0 : Res P f (pre ++ .row (ptsA n xs).length (.ints (flat (ptsA n xs))) :: post) v) :
    Res P f (pre ++ .row n (.ints xs) :: post) v := by
  obtain ⟨h1, h2⟩ := ptsA_spec hn
  rw [h2, ← h1] at h0
  exact h0.more (good_pts h0.2.2.2.1) fun w args ha => ha.pts
theorem resR_pts1 {P : Program} {f : FuncId} {pre post : List DArg} {v : Value} {b : Blk} {n : Nat} {xs : List Int} (hn : n * 2 ≤ xs.length) (h0 : ResR P f (pre ++ .row (ptsA n xs).length (.ints (flat (ptsA n xs))) :: post) v b) :
    ResR P f (pre ++ .row n (.ints xs) :: post) v b := by
  obtain ⟨h1, h2⟩ := ptsA_spec hn
  rw [h2, ← h1] at h0
  exact h0.more (good_pts h0.2.2.2.1) fun w args ha => ha.pts
end Go.Proofs.Ytcplfampcbekoaa
namespace Go.Proofs.Ytcplfampcbekoaa
set_option linter.all false
open Go.RowKit
abbrev iv (x : Int) : Value := .int .i64 x
def B0 : Tab := fun _ _ => none
theorem B0_ok : TabOk Try.prog B0 := fun _ _ _ _ h => by cases h
theorem mixed : Try.prog.follows .mixedOrders = true := by kernel_rfl
set_option maxRecDepth 100000 in
theorem tr_specValid (x y : Int) : runX Try.prog (tabE B0) 30 8 34 [.v (.agg #[iv x, iv y])] (fun u => .fin u []) = brT (decide (-1000 ≤ x)) (brT (decide (x ≤ 1000)) (brT (decide (-1000 ≤ y)) (.fin (.bool (decide (y ≤ 1000))) []) (.fin (.bool (false)) [])) (.fin (.bool (false)) [])) (.fin (.bool (false)) []) := by kernel_rfl
set_option maxRecDepth 100000 in
theorem tr_implValid (x y : Int) : runX Try.prog (tabE B0) 30 8 24 [.v (.agg #[iv x, iv y])] (fun u => .fin u []) = brT (decide (IntKind.i64.wrap (0 - 1000) ≤ x)) (brT (decide (x ≤ 1000)) (brT (decide (IntKind.i64.wrap (0 - 1000) ≤ y)) (.fin (.bool (decide (y ≤ 1000))) []) (.fin (.bool (false)) [])) (.fin (.bool (false)) [])) (.fin (.bool (false)) []) := by kernel_rfl
set_option maxRecDepth 100000 in
theorem tr_compare (x y : Int) : runX Try.prog (tabE B0) 30 8 49 [.v (iv x), .v (iv y)] (fun u => .fin u []) = brT (!x == x) (brT (!y == y) (.fin (.int .i64 (0)) []) (.fin (.int .i64 (-1)) [])) (brT (!y == y) (.fin (.int .i64 (1)) []) (brT (decide (x < y)) (.fin (.int .i64 (-1)) []) (brT (decide (y < x)) (.fin (.int .i64 (1)) []) (.fin (.int .i64 (0)) [])))) := by kernel_rfl
set_option maxRecDepth 100000 in
theorem tr_implSign (x : Int) : runX Try.prog (tabE B0) 30 8 26 [.v (iv x)] (fun u => .fin u []) = brT (!x == x) (.fin (.int .i64 (-1)) []) (brT (decide (x < 0)) (.fin (.int .i64 (-1)) []) (brT (decide (0 < x)) (.fin (.int .i64 (1)) []) (.fin (.int .i64 (0)) []))) := by kernel_rfl
theorem w1000 : IntKind.i64.wrap (0 - 1000) = -1000 := by decide
/-- The comparison of two numbers. -/
def cmpI (x y : Int) : Int := if x < y then -1 else if y < x then 1 else 0
theorem vbool_eq {a b : Bool} (h : a = b) : Value.bool a = .bool b := by rw [h]
theorem res_specValid (x y : Int) : Res Try.prog 34 [.v (.agg #[iv x, iv y])] (.bool (ptB x y)) := by
  refine res_of mixed (tabE_ok B0_ok) (m := 30) (n := 8) ?_
  rw [tr_specValid]
  simp only [brT_ok, Tree.ok, decide_eq_true_eq, decide_eq_false_iff_not]
  repeat' (first | apply And.intro | intro _)
  all_goals (refine vbool_eq ?_; unfold ptB; rw [Bool.eq_iff_iff]; simp; try omega)
theorem res_implValid (x y : Int) : Res Try.prog 24 [.v (.agg #[iv x, iv y])] (.bool (ptB x y)) := by
  refine res_of mixed (tabE_ok B0_ok) (m := 30) (n := 8) ?_
  rw [tr_implValid]
  simp only [brT_ok, Tree.ok, decide_eq_true_eq, decide_eq_false_iff_not, w1000]
  repeat' (first | apply And.intro | intro _)
  all_goals (refine vbool_eq ?_; unfold ptB; rw [Bool.eq_iff_iff]; simp; try omega)
theorem res_compare (x y : Int) : Res Try.prog 49 [.v (iv x), .v (iv y)] (iv (cmpI x y)) := by
  refine res_of mixed (tabE_ok B0_ok) (m := 30) (n := 8) ?_
  rw [tr_compare]
  simp [brT_ok, Tree.ok]
  repeat' (first | apply And.intro | intro _)
  all_goals (unfold cmpI; split <;> (try split) <;> omega)
theorem res_implSign (x : Int) : Res Try.prog 26 [.v (iv x)] (iv (cmpI x 0)) := by
  refine res_of mixed (tabE_ok B0_ok) (m := 30) (n := 8) ?_
  rw [tr_implSign]
  simp [brT_ok, Tree.ok]
  repeat' (first | apply And.intro | intro _)
  all_goals (unfold cmpI; split <;> (try split) <;> omega)
end Go.Proofs.Ytcplfampcbekoaa
namespace Go.Proofs.Ytcplfampcbekoaa
set_option linter.all false
open Go.RowKit
theorem entersB_res {f : FuncId} (h : entersB Try.prog f = true) : enters Try.prog f ∧ Try.prog.inits.idxOf? f = none := by
  unfold entersB at h
  split at h
  · rename_i fn hf
    obtain ⟨h1, h2, _⟩ := entersB_spec hf (by unfold entersB; rw [hf]; exact h)
    exact ⟨h1, h2⟩
  · cases h
/-- A contract of a function of plain values, as it stands. -/
theorem res_calls {f : FuncId} {args : List Value} {v : Value} (he : entersB Try.prog f = true) (hp : args.all plainV = true) (hv : plainV v = true) (h : ∀ w, Calls Try.prog f args.toArray w fun e w' => e = .returned v ∧ Below w.heap.size w w') : Res Try.prog f (args.map .v) v := by
  obtain ⟨h1, h2⟩ := entersB_res he
  refine ⟨h1, h2, hv, fun d hd => ?_, fun w ys hd => ?_⟩
  · obtain ⟨x, hx, rfl⟩ := List.mem_map.1 hd
    exact List.all_eq_true.1 hp x hx
  · have e : ys = args.toArray := by
      apply Array.ext
      · simpa using hd.1.symm
      · intro i i1 i2
        have e1 : (args.map DArg.v)[i]? = some (.v (args[i]'(by simpa using i2))) := by simp
        exact (hd.2 i _ ys[i] e1 (by simp [i1])).2
    rw [e]
    exact h w
def pPt : List DArg → Option (Value × List Prop)
  | [.v (.agg ⟨[.int .i64 x, .int .i64 y]⟩)] => some (.bool (ptB x y), [])
  | _ => none
def pCmp : List DArg → Option (Value × List Prop)
  | [.v (.int .i64 x), .v (.int .i64 y)] => some (iv (cmpI x y), [])
  | _ => none
def pSign : List DArg → Option (Value × List Prop)
  | [.v (.int .i64 x)] => some (iv (cmpI x 0), [])
  | _ => none
def pAll : List DArg → Option (Value × List Prop)
  | [.row 2 (.vals [.int .i64 ax, .int .i64 ay, .int .i64 bx, .int .i64 b_y])] => some (.bool (ptB ax ay && ptB bx b_y), [])
  | [.row 3 (.vals [.int .i64 ax, .int .i64 ay, .int .i64 bx, .int .i64 b_y, .int .i64 cx, .int .i64 cy])] => some (.bool (ptB ax ay && ptB bx b_y && ptB cx cy), [])
  | [.row 4 (.vals [.int .i64 ax, .int .i64 ay, .int .i64 bx, .int .i64 b_y, .int .i64 cx, .int .i64 cy, .int .i64 dx, .int .i64 dy])] => some (.bool (ptB ax ay && ptB bx b_y && (ptB cx cy && ptB dx dy)), [])
  | _ => none
def T1 : Tab := fun f ds => match f with
  | 34 => pPt ds
  | 24 => pPt ds
  | 49 => pCmp ds
  | 26 => pSign ds
  | 52 => pAll ds
  | _ => none
theorem row_open {w : World} {l : Nat} {cs : Cs} {y : Value} (hl : 0 < l) (h : DOk w (.row l cs) y) : ∃ g f c', y = .slice (some ⟨g, f, none⟩) l c' ∧ l ≤ c' ∧ g < w.heap.size ∧ ∀ (k : Nat) v, cs.list[k]? = some v → w.cell? ⟨g, f + k, none⟩ = some v := by
  obtain ⟨_, ad, c', h1, h2, h3⟩ := h
  obtain ⟨g, f, rfl, h4, h5⟩ := h3.resolve_left (by omega)
  exact ⟨g, f, c', h1, h2, h4, h5⟩
theorem res_row {f : FuncId} {l : Nat} {cs : Cs} {v : Value} (hl : 0 < l) (he : entersB Try.prog f = true) (hv : plainV v = true) (hat : allAtoms cs = true) (h : ∀ w g o c', l ≤ c' → g < w.heap.size → (∀ (k : Nat) v, cs.list[k]? = some v → w.cell? ⟨g, o + k, none⟩ = some v) →
    Calls Try.prog f #[.slice (some ⟨g, o, none⟩) l c'] w fun e w' => e = .returned v ∧ Below w.heap.size w w') : Res Try.prog f [.row l cs] v := by
  obtain ⟨h1, h2⟩ := entersB_res he
  refine ⟨h1, h2, hv, fun d hd => ?_, fun w ys hd => ?_⟩
  · obtain rfl : d = .row l cs := by simpa using hd
    exact hat
  · have hs := hd.1
    have h0 : ys[0]? = some (ys[0]'(by simp at hs; omega)) := by simp
    obtain ⟨g, o, c', e1, e2, e3, e4⟩ := row_open hl (hd.2 0 _ _ rfl h0)
    have e : ys = #[.slice (some ⟨g, o, none⟩) l c'] := by
      apply Array.ext
      · simpa using hs.symm
      · intro i i1 i2
        have : i = 0 := by simp at i2; omega
        subst this
        simpa using e1
    rw [e]
    exact h w g o c' e2 e3 e4
theorem T1r_0 {ds : List DArg} {v : Value} {C : List Prop} (h : pPt ds = some (v, C)) (hC : AllP C) : Res Try.prog 34 ds v := by
  unfold pPt at h
  split at h
  · obtain ⟨rfl, rfl⟩ : _ ∧ _ := by simpa using h
    exact res_specValid _ _
  · cases h
theorem T1r_1 {ds : List DArg} {v : Value} {C : List Prop} (h : pPt ds = some (v, C)) (hC : AllP C) : Res Try.prog 24 ds v := by
  unfold pPt at h
  split at h
  · obtain ⟨rfl, rfl⟩ : _ ∧ _ := by simpa using h
    exact res_implValid _ _
  · cases h
theorem T1r_2 {ds : List DArg} {v : Value} {C : List Prop} (h : pCmp ds = some (v, C)) (hC : AllP C) : Res Try.prog 49 ds v := by
  unfold pCmp at h
  split at h
  · obtain ⟨rfl, rfl⟩ : _ ∧ _ := by simpa using h
    exact res_compare _ _
  · cases h
theorem T1r_4 {ds : List DArg} {v : Value} {C : List Prop} (h : pSign ds = some (v, C)) (hC : AllP C) : Res Try.prog 26 ds v := by
  unfold pSign at h
  split at h
  · obtain ⟨rfl, rfl⟩ : _ ∧ _ := by simpa using h
    exact res_implSign _
  · cases h
theorem T1r_10 {ds : List DArg} {v : Value} {C : List Prop} (h : pAll ds = some (v, C)) (hC : AllP C) : Res Try.prog 52 ds v := by
  unfold pAll at h
  split at h
  · rename_i ax ay bx b_y
    obtain ⟨rfl, rfl⟩ : _ ∧ _ := by simpa using h
    refine res_row (by decide) (by kernel_rfl) rfl rfl fun w g o c' _ hg hcell => ?_
    have := allValid_any (some ⟨g, o, none⟩) 2 c' (pick2 ax bx) (pick2 ay b_y) w (by omega) (fun k hk => ⟨g, o, rfl, hg, by
      match k, hk with
      | 0, _ => exact ⟨hcell 0 _ rfl, hcell 1 _ rfl⟩
      | 1, _ => exact ⟨hcell 2 _ rfl, hcell 3 _ rfl⟩⟩)
    rw [allB2] at this
    exact this
  · rename_i ax ay bx b_y cx cy
    obtain ⟨rfl, rfl⟩ : _ ∧ _ := by simpa using h
    refine res_row (by decide) (by kernel_rfl) rfl rfl fun w g o c' _ hg hcell => ?_
    have := allValid_any (some ⟨g, o, none⟩) 3 c' (pick3 ax bx cx) (pick3 ay b_y cy) w (by omega) (fun k hk => ⟨g, o, rfl, hg, by
      match k, hk with
      | 0, _ => exact ⟨hcell 0 _ rfl, hcell 1 _ rfl⟩
      | 1, _ => exact ⟨hcell 2 _ rfl, hcell 3 _ rfl⟩
      | 2, _ => exact ⟨hcell 4 _ rfl, hcell 5 _ rfl⟩⟩)
    rw [allB3] at this
    exact this
  · rename_i ax ay bx b_y cx cy dx dy
    obtain ⟨rfl, rfl⟩ : _ ∧ _ := by simpa using h
    refine res_row (by decide) (by kernel_rfl) rfl rfl fun w g o c' _ hg hcell => ?_
    have := allValid_any (some ⟨g, o, none⟩) 4 c' (fun k => match k with
      | 0 => ax
      | 1 => bx
      | 2 => cx
      | _ => dx) (fun k => match k with
      | 0 => ay
      | 1 => b_y
      | 2 => cy
      | _ => dy) w (by omega) (fun k hk => ⟨g, o, rfl, hg, by
      match k, hk with
      | 0, _ => exact ⟨hcell 0 _ rfl, hcell 1 _ rfl⟩
      | 1, _ => exact ⟨hcell 2 _ rfl, hcell 3 _ rfl⟩
      | 2, _ => exact ⟨hcell 4 _ rfl, hcell 5 _ rfl⟩
      | 3, _ => exact ⟨hcell 6 _ rfl, hcell 7 _ rfl⟩⟩)
    rw [allB_succ, allB_succ, allB_succ, allB_succ, allB_zero] at this
    simpa [Bool.and_assoc] using this
  · cases h
theorem T1_ok : TabOk Try.prog T1 := by
  intro f ds v C h hC
  unfold T1 at h
  (try split at h)
  all_goals first | with_reducible exact T1r_0 h hC | with_reducible exact T1r_1 h hC | with_reducible exact T1r_2 h hC | with_reducible exact T1r_3 h hC | with_reducible exact T1r_4 h hC | with_reducible exact T1r_5 h hC | with_reducible exact T1r_6 h hC | with_reducible exact T1r_7 h hC | with_reducible exact T1r_8 h hC | with_reducible exact T1r_9 h hC | with_reducible exact T1r_10 h hC | cases h
end Go.Proofs.Ytcplfampcbekoaa
namespace Go.Proofs.Ytcplfampcbekoaa
set_option linter.all false
open Go.RowKit
def EM : Env := mkE B0 (fun _ _ => none) (fun _ => noL)
theorem EM_ok : EnvOk Try.prog EM := mkEOk B0_ok (fun _ _ _ _ _ h => (by cases h)) (fun _ _ _ => noL_good)
theorem vI0 {k : Int} {n : Nat} (h : n = 0) : Value.int .i64 k = .int .i64 (k + (n : Int)) := by subst h; simp
end Go.Proofs.Ytcplfampcbekoaa
namespace Go.Proofs.Ytcplfampcbekoaa
set_option linter.all false
open Go.RowKit
theorem fn_is {f : FuncId} {fn g : Func} (h : Try.prog.funcs[f]? = some g) (hf : Try.prog.funcs[f]? = some fn) : g = fn := by rw [h] at hf; simpa using hf
end Go.Proofs.Ytcplfampcbekoaa
namespace Go.Proofs.Ytcplfampcbekoaa
set_option linter.all false
open Go.RowKit
def E1 : Env := mkE (T1) (fun _ _ => none) (fun _ => noL)
theorem E1_ok : EnvOk Try.prog E1 := mkEOk (T1_ok) (fun _ _ _ _ _ h => (by cases h)) (fun _ _ _ _ _ _ _ _ _ _ _ h => (by cases h))
def vB (p : Pt) : Bool := ptB p.1 p.2
def allV (ps : List Pt) : Bool := ps.all vB
noncomputable def c43 : Code := ((loopsOf (codeOf Try.f21))[0]?).getD .skip
noncomputable def c80 : Code := ((loopsOf (codeOf Try.f52))[0]?).getD .skip
set_option maxRecDepth 100000 in
theorem nl43 : loopsOf c43 = [] := by kernel_rfl
set_option maxRecDepth 100000 in
theorem nl80 : loopsOf c80 = [] := by kernel_rfl
def k43 : Ex → List Nat := keeps [0, 3] [(0, [0])] [2]
def k80 : Ex → List Nat := keeps [5, 6, 7] [] [2]
def s43 (ps : List Pt) (i : Nat) : St := ⟨[.slice (some ⟨0, 0, none⟩) ps.length ps.length, topV, topV, .int .i64 i, topV, topV, topV, topV, topV, topV, topV, topV, topV, topV, topV, topV, topV, topV, topV], [some ⟨.view, .ints (flat ps)⟩]⟩
def s80 (ps : List Pt) (i : Nat) : St := ⟨[topV, topV, topV, topV, topV, .slice (some ⟨0, 0, none⟩) ps.length ps.length, .int .i64 ps.length, .int .i64 i, topV, topV, topV, topV, topV, topV, topV], [some ⟨.view, .ints (flat ps)⟩]⟩
set_option maxRecDepth 100000 in
theorem tr43 (ps : List Pt) (i : Nat) : bodyL Try.prog E1 30 12 noL 1 c43 k43 1 (s43 ps i) = brT (decide ((↑i : Int) < (↑ps.length : Int))) (.need ((0 : Int) ≤ (↑i : Int) ∧ (↑i : Int) < (↑ps.length : Int)) (.need ((0 : Nat) + (↑i : Int).toNat * (2 : Nat) + (2 : Nat) ≤ (flat ps).length) (brT (!ptB ((flat ps).getD (0 + (↑i : Int).toNat * 2) 0) ((flat ps).getD (0 + (↑i : Int).toNat * 2 + 1) 0)) (.leaf .ret ⟨[topV, topV, .bool (false), topV, topV, topV, topV, topV, topV, topV, topV, topV, topV, topV, topV, topV, topV, topV, topV], [some ⟨.view, .ints (flat ps)⟩]⟩) (.leaf .normal ⟨[.slice (some ⟨0, 0, none⟩) (ps.length) (ps.length), topV, topV, .int .i64 (IntKind.i64.wrap ((↑i : Int) + 1)), topV, topV, topV, topV, topV, topV, topV, topV, topV, topV, topV, topV, topV, topV, topV], [some ⟨.view, .ints (flat ps)⟩]⟩)))) (.leaf (.exit 0) ⟨[.slice (some ⟨0, 0, none⟩) (ps.length) (ps.length), topV, topV, topV, topV, topV, topV, topV, topV, topV, topV, topV, topV, topV, topV, topV, topV, topV, topV], [some ⟨.view, .ints (flat ps)⟩]⟩) := by kernel_rfl
set_option maxRecDepth 100000 in
theorem tr80 (ps : List Pt) (i : Nat) : bodyL Try.prog E1 30 12 noL 1 c80 k80 1 (s80 ps i) = brT (decide ((↑i : Int) < (↑ps.length : Int))) (.need ((0 : Int) ≤ (↑i : Int) ∧ (↑i : Int) < (↑ps.length : Int)) (.need ((0 : Nat) + (↑i : Int).toNat * (2 : Nat) + (2 : Nat) ≤ (flat ps).length) (brT (!ptB ((flat ps).getD (0 + (↑i : Int).toNat * 2) 0) ((flat ps).getD (0 + (↑i : Int).toNat * 2 + 1) 0)) (.leaf .ret ⟨[topV, topV, .bool (false), topV, topV, topV, topV, topV, topV, topV, topV, topV, topV, topV, topV], [some ⟨.view, .ints (flat ps)⟩]⟩) (.leaf .normal ⟨[topV, topV, topV, topV, topV, .slice (some ⟨0, 0, none⟩) (ps.length) (ps.length), .int .i64 ((↑ps.length : Int)), .int .i64 (IntKind.i64.wrap ((↑i : Int) + 1)), topV, topV, topV, topV, topV, topV, topV], [some ⟨.view, .ints (flat ps)⟩]⟩)))) (.leaf (.exit 0) ⟨[topV, topV, topV, topV, topV, topV, topV, topV, topV, topV, topV, topV, topV, topV, topV], [some ⟨.view, .ints (flat ps)⟩]⟩) := by kernel_rfl
def re43 (ps : List Pt) (i : Nat) : Ex := bif (ps.drop i).all vB then .exit 0 else .ret
def rs43 (ps : List Pt) (i : Nat) : St := bif (ps.drop i).all vB then ⟨[.slice (some ⟨0, 0, none⟩) ps.length ps.length, topV, topV, topV, topV, topV, topV, topV, topV, topV, topV, topV, topV, topV, topV, topV, topV, topV, topV], [some ⟨.view, .ints (flat ps)⟩]⟩ else ⟨[topV, topV, .bool false, topV, topV, topV, topV, topV, topV, topV, topV, topV, topV, topV, topV, topV, topV, topV, topV], [some ⟨.view, .ints (flat ps)⟩]⟩
def re80 (ps : List Pt) (i : Nat) : Ex := bif (ps.drop i).all vB then .exit 0 else .ret
def rs80 (ps : List Pt) (i : Nat) : St := bif (ps.drop i).all vB then ⟨[topV, topV, topV, topV, topV, topV, topV, topV, topV, topV, topV, topV, topV, topV, topV], [some ⟨.view, .ints (flat ps)⟩]⟩ else ⟨[topV, topV, .bool false, topV, topV, topV, topV, topV, topV, topV, topV, topV, topV, topV, topV], [some ⟨.view, .ints (flat ps)⟩]⟩
theorem round43 (ps : List Pt) (hn : ps.length ≤ 1000000000) (i : Nat) (hi : i ≤ ps.length) :
    (bodyL Try.prog E1 30 12 noL 1 c43 k43 1 (s43 ps i)).ok (RoundEnd 1 (s43 ps) (fun i => i ≤ ps.length) (fun i => ps.length - i) (re43 ps) (rs43 ps) i) (fun _ _ => False) := by
  rw [tr43]
  simp only [brT_ok, Tree.ok, decide_eq_true_eq, decide_eq_false_iff_not, Int.toNat_natCast, Nat.zero_add, flat_length, flat_get0, flat_get1, Bool.not_eq_true', Bool.not_eq_false']
  refine ⟨fun hlt => ⟨by omega, by omega, fun hv => ?_, fun hv => ?_⟩, fun hge => ?_⟩
  · have e : (ps.drop i).all vB = false := by rw [all_drop (by omega) (0, 0)]; simp only [vB, hv, Bool.false_and]
    refine ⟨by simp only [re43, e, cond_false], [], ?_⟩
    simp only [rs43, e, cond_false]
    repeat' (first | exact True.intro | exact rfl | refine And.intro ?_ ?_)
  · have e : (ps.drop i).all vB = (ps.drop (i + 1)).all vB := by rw [all_drop (by omega) (0, 0)]; simp only [vB, hv, Bool.true_and]
    rw [wsucc (n := ps.length) (by omega) hn]
    refine ⟨i + 1, [], by omega, by dsimp only; omega, by simp only [re43, e], by simp only [rs43, e], ?_⟩
    repeat' (first | exact True.intro | exact rfl | refine And.intro ?_ ?_)
  · have e : (ps.drop i).all vB = true := all_end (by omega) _
    refine ⟨by simp only [re43, e, cond_true], [], ?_⟩
    simp only [rs43, e, cond_true]
    repeat' (first | exact True.intro | exact rfl | refine And.intro ?_ ?_)
theorem round80 (ps : List Pt) (hn : ps.length ≤ 1000000000) (i : Nat) (hi : i ≤ ps.length) :
    (bodyL Try.prog E1 30 12 noL 1 c80 k80 1 (s80 ps i)).ok (RoundEnd 1 (s80 ps) (fun i => i ≤ ps.length) (fun i => ps.length - i) (re80 ps) (rs80 ps) i) (fun _ _ => False) := by
  rw [tr80]
  simp only [brT_ok, Tree.ok, decide_eq_true_eq, decide_eq_false_iff_not, Int.toNat_natCast, Nat.zero_add, flat_length, flat_get0, flat_get1, Bool.not_eq_true', Bool.not_eq_false']
  refine ⟨fun hlt => ⟨by omega, by omega, fun hv => ?_, fun hv => ?_⟩, fun hge => ?_⟩
  · have e : (ps.drop i).all vB = false := by rw [all_drop (by omega) (0, 0)]; simp only [vB, hv, Bool.false_and]
    refine ⟨by simp only [re80, e, cond_false], [], ?_⟩
    simp only [rs80, e, cond_false]
    repeat' (first | exact True.intro | exact rfl | refine And.intro ?_ ?_)
  · have e : (ps.drop i).all vB = (ps.drop (i + 1)).all vB := by rw [all_drop (by omega) (0, 0)]; simp only [vB, hv, Bool.true_and]
    rw [wsucc (n := ps.length) (by omega) hn]
    refine ⟨i + 1, [], by omega, by dsimp only; omega, by simp only [re80, e], by simp only [rs80, e], ?_⟩
    repeat' (first | exact True.intro | exact rfl | refine And.intro ?_ ?_)
  · have e : (ps.drop i).all vB = true := all_end (by omega) _
    refine ⟨by simp only [re80, e, cond_true], [], ?_⟩
    simp only [rs80, e, cond_true]
    repeat' (first | exact True.intro | exact rfl | refine And.intro ?_ ?_)
def lt43 : LT := fun j s k => match j, s with
  | 0, ⟨[.slice (some ⟨0, 0, none⟩) n _, _, _, .int .i64 i, _, _, _, _, _, _, _, _, _, _, _, _, _, _, _], [some ⟨.view, .ints xs⟩]⟩ =>
    some (needs [i = 0, xs.length = n * 2, n ≤ 1000000000] (brT (allV (ptsA n xs)) (k (.exit 0) ⟨[.slice (some ⟨0, 0, none⟩) n n, topV, topV, topV, topV, topV, topV, topV, topV, topV, topV, topV, topV, topV, topV, topV, topV, topV, topV], [some ⟨.view, .ints xs⟩]⟩) (k .ret ⟨[topV, topV, .bool false, topV, topV, topV, topV, topV, topV, topV, topV, topV, topV, topV, topV, topV, topV, topV, topV], [some ⟨.view, .ints xs⟩]⟩)))
  | _, _ => none
def lt80 : LT := fun j s k => match j, s with
  | 0, ⟨[_, _, _, _, _, .slice (some ⟨0, 0, none⟩) n _, .int .i64 l, .int .i64 i, _, _, _, _, _, _, _], [some ⟨.view, .ints xs⟩]⟩ =>
    some (needs [i = 0, l = n, xs.length = n * 2, n ≤ 1000000000] (brT (allV (ptsA n xs)) (k (.exit 0) ⟨[topV, topV, topV, topV, topV, topV, topV, topV, topV, topV, topV, topV, topV, topV, topV], [some ⟨.view, .ints xs⟩]⟩) (k .ret ⟨[topV, topV, .bool false, topV, topV, topV, topV, topV, topV, topV, topV, topV, topV, topV, topV], [some ⟨.view, .ints xs⟩]⟩)))
  | _, _ => none
set_option maxRecDepth 100000 in
theorem lg43 : LoopsGood Try.prog lt43 0 (codeOf Try.f21) := by
  intro i d hd s k t F H hlt ht
  rw [Nat.zero_add] at hlt
  unfold lt43 at hlt
  split at hlt
  rotate_left
  · cases hlt
  obtain rfl : c43 = d := by unfold c43; rw [hd]; rfl
  obtain rfl := Option.some.inj hlt
  obtain ⟨⟨rfl, h1, h2, _⟩, ht2⟩ := needs_ok ht
  clear ht hlt
  obtain ⟨ps, rfl, rfl⟩ := even_flat h1
  rw [ptsA_flat] at ht2
  refine ⟨_, _, pick2k ht2, loop_run mixed E1_ok (s43 ps) (fun i => i ≤ ps.length) (fun i => ps.length - i) (re43 ps) (rs43 ps) k43 (fun _ => rfl) (noLoops nl43) (round43 ps h2) (x := 0) (Nat.zero_le _) (π := []) rfl ?_⟩
  repeat' (first | exact True.intro | exact rfl | exact wv_top _ _ | refine And.intro ?_ ?_)
set_option maxRecDepth 100000 in
theorem lg80 : LoopsGood Try.prog lt80 0 (codeOf Try.f52) := by
  intro i d hd s k t F H hlt ht
  rw [Nat.zero_add] at hlt
  unfold lt80 at hlt
  split at hlt
  rotate_left
  · cases hlt
  obtain rfl : c80 = d := by unfold c80; rw [hd]; rfl
  obtain rfl := Option.some.inj hlt
  obtain ⟨⟨rfl, rfl, h1, h2, _⟩, ht2⟩ := needs_ok ht
  clear ht hlt
  obtain ⟨ps, rfl, rfl⟩ := even_flat h1
  rw [ptsA_flat] at ht2
  refine ⟨_, _, pick2k ht2, loop_run mixed E1_ok (s80 ps) (fun i => i ≤ ps.length) (fun i => ps.length - i) (re80 ps) (rs80 ps) k80 (fun _ => rfl) (noLoops nl80) (round80 ps h2) (x := 0) (Nat.zero_le _) (π := []) rfl ?_⟩
  repeat' (first | exact True.intro | exact rfl | exact wv_top _ _ | refine And.intro ?_ ?_)
end Go.Proofs.Ytcplfampcbekoaa
namespace Go.Proofs.Ytcplfampcbekoaa
set_option linter.all false
open Go.RowKit
def L2 : FuncId → LT := fun f => match f with
  | 21 => lt43
  | 52 => lt80
  | _ => noL
def E2 : Env := mkE (T1) (fun _ _ => none) (L2)
theorem E2_ok : EnvOk Try.prog E2 := by
  refine mkEOk T1_ok (fun _ _ _ _ _ h => (by cases h)) fun f fn hf => ?_
  show LoopsGood Try.prog (L2 f) 0 (codeOf fn)
  unfold L2
  split
  · obtain rfl : Try.f21 = fn := by rw [Try.func21] at hf; simpa using hf
    exact lg43
  · obtain rfl : Try.f52 = fn := by rw [Try.func52] at hf; simpa using hf
    exact lg80
  · exact noL_good
set_option maxRecDepth 100000 in
theorem tr_f43 (ps : List Pt) : bodyX Try.prog E2 30 12 21 [.row ps.length (.ints (flat ps))] = .need ((0 : Int) = (0 : Int)) (.need ((flat ps).length = ps.length * (2 : Nat)) (.need (ps.length ≤ (1000000000 : Nat)) (brT (allV (ptsA ps.length (flat ps))) (.fin (.bool (decide ((↑ps.length : Int) ≤ 20))) [some ⟨.view, .ints (flat ps)⟩]) (.fin (.bool (false)) [some ⟨.view, .ints (flat ps)⟩])))) := by kernel_rfl
set_option maxRecDepth 100000 in
theorem tr_f80 (ps : List Pt) : bodyX Try.prog E2 30 12 52 [.row ps.length (.ints (flat ps))] = .need ((0 : Int) = (0 : Int)) (.need ((↑ps.length : Int) = (↑ps.length : Int)) (.need ((flat ps).length = ps.length * (2 : Nat)) (.need (ps.length ≤ (1000000000 : Nat)) (brT (allV (ptsA ps.length (flat ps))) (.fin (.bool (true)) [some ⟨.view, .ints (flat ps)⟩]) (.fin (.bool (false)) [some ⟨.view, .ints (flat ps)⟩]))))) := by kernel_rfl
def Big (ps : List Pt) : Prop := ps.length ≤ 1000000000
def okL (ps : List Pt) : Bool := allV ps && decide (ps.length ≤ 20)
theorem res_f43 (ps : List Pt) (h : Big ps) : Res Try.prog 21 [.row ps.length (.ints (flat ps))] (.bool (okL ps)) := by
  refine bodyX_res mixed E2_ok (m := 30) (n := 12) rfl ?_
  rw [tr_f43, ptsA_flat]
  unfold Big at h
  unfold okL
  cases hv : allV ps <;> simp [Tree.ok, brT, flat_length, h]
  omega
theorem res_f80 (ps : List Pt) (h : Big ps) : Res Try.prog 52 [.row ps.length (.ints (flat ps))] (.bool (allV ps)) := by
  refine bodyX_res mixed E2_ok (m := 30) (n := 12) rfl ?_
  rw [tr_f80, ptsA_flat]
  unfold Big at h
  cases hv : allV ps <;> simp [Tree.ok, brT, flat_length, h]
/-- An entry for a function of one list of points. -/
def pL (g : List Pt → Value) : List DArg → Option (Value × List Prop)
  | [.row n (.ints xs)] => some (g (ptsA n xs), [n * 2 ≤ xs.length, n ≤ 1000000000])
  | _ => none
theorem pL_ok {f : FuncId} {g : List Pt → Value} (h : ∀ ps, Big ps → Res Try.prog f [.row ps.length (.ints (flat ps))] (g ps)) {ds : List DArg} {v : Value} {C : List Prop} (hd : pL g ds = some (v, C)) (hC : AllP C) : Res Try.prog f ds v := by
  unfold pL at hd
  split at hd
  · rename_i n xs
    obtain ⟨rfl, rfl⟩ : _ ∧ _ := by simpa using hd
    obtain ⟨h1, h2⟩ := ptsA_spec hC.1
    have h0 := h (ptsA n xs) (by unfold Big; rw [h2]; exact hC.2.1)
    exact res_pts1 (pre := []) (post := []) hC.1 h0
  · cases hd
def T2 : Tab := fun f ds => match f with
  | 21 => pL (fun ps => .bool (okL ps)) ds
  | 52 => (match pL (fun ps => .bool (allV ps)) ds with
    | some r => some r
    | none => T1 f ds)
  | f => T1 f ds
theorem T2_ok : TabOk Try.prog T2 := by
  intro f ds v C h hC
  unfold T2 at h
  split at h
  · exact pL_ok res_f43 h hC
  · split at h
    · rename_i hr
      rw [h] at hr
      exact pL_ok res_f80 hr hC
    · exact T1_ok _ _ _ _ h hC
  · exact T1_ok _ _ _ _ h hC
end Go.Proofs.Ytcplfampcbekoaa
namespace Go.Proofs.Ytcplfampcbekoaa
set_option linter.all false
open Go.RowKit
def E3 : Env := mkE (T2) (fun _ _ => none) (fun _ => noL)
theorem E3_ok : EnvOk Try.prog E3 := mkEOk (T2_ok) (fun _ _ _ _ _ h => (by cases h)) (fun _ _ _ => noL_good)
theorem allV_get {ps : List Pt} (h : allV ps = true) (i : Nat) : -1000 ≤ (ps.getD i (0, 0)).1 ∧ (ps.getD i (0, 0)).1 ≤ 1000 ∧ -1000 ≤ (ps.getD i (0, 0)).2 ∧ (ps.getD i (0, 0)).2 ≤ 1000 := by
  rcases Nat.lt_or_ge i ps.length with hlt | hge
  · have := List.all_eq_true.1 h (ps.getD i (0, 0)) (by simp [hlt])
    simpa [vB, ptB] using this
  · simp [hge]
theorem brT_t (x y : Tree) : brT true x y = x := rfl
theorem brT_f (x y : Tree) : brT false x y = y := rfl
def sq (p q : Pt) : Int := (p.1 - q.1) * (p.1 - q.1) + (p.2 - q.2) * (p.2 - q.2)
def cnt (n : Int) (q : Pt) (ps : List Pt) : Int := (ps.countP fun p => decide (sq p q ≤ n) : Nat)
theorem cnt_yes {ps : List Pt} {i : Nat} (h : i < ps.length) (n : Int) (q : Pt) (hh : sq (ps.getD i (0, 0)) q ≤ n) : cnt n q (ps.drop i) = cnt n q (ps.drop (i + 1)) + 1 := by
  unfold cnt
  rw [drop_cons h (0, 0), List.countP_cons]
  simp only [hh, decide_true, if_true]
  omega
theorem cnt_no {ps : List Pt} {i : Nat} (h : i < ps.length) (n : Int) (q : Pt) (hh : ¬ sq (ps.getD i (0, 0)) q ≤ n) : cnt n q (ps.drop i) = cnt n q (ps.drop (i + 1)) := by
  unfold cnt
  rw [drop_cons h (0, 0), List.countP_cons]
  simp only [hh, decide_false, if_false, Bool.false_eq_true]
  omega
theorem cnt_end {ps : List Pt} {i : Nat} (h : ps.length ≤ i) (n : Int) (q : Pt) : cnt n q (ps.drop i) = 0 := by
  unfold cnt
  rw [List.drop_of_length_le h]
  rfl
noncomputable def c_specCW : Code := ((loopsOf (codeOf Try.f14))[0]?).getD .skip
def k_specCW : Ex → List Nat := keeps [0, 2, 4, 7, 8] [(0, [7])] [6]
def s_specCW (ps : List Pt) (x y n : Int) : Nat × Int → St := fun (i, o) => ⟨(.slice (some ⟨0, 0, none⟩) ps.length ps.length :: topV :: .int .i64 n :: topV :: .pointer (some ⟨3, 0, none⟩) :: topV :: topV :: .int .i64 o :: .int .i64 i :: topV :: topV :: topV :: topV :: topV :: topV :: topV :: topV :: topV :: topV :: topV :: topV :: topV :: topV :: topV :: topV :: topV :: topV :: topV :: topV :: topV :: topV :: topV :: topV :: topV :: []), [some ⟨.view, .ints (flat ps)⟩, none, none, some ⟨.box, .vals [.int .i64 x, .int .i64 y]⟩]⟩
def re_specCW : Nat × Int → Ex := fun _ => .exit 0
def rs_specCW (ps : List Pt) (x y n : Int) : Nat × Int → St := fun (i, o) => ⟨(topV :: topV :: topV :: topV :: topV :: topV :: topV :: .int .i64 (o + cnt n (x, y) (ps.drop i)) :: topV :: topV :: topV :: topV :: topV :: topV :: topV :: topV :: topV :: topV :: topV :: topV :: topV :: topV :: topV :: topV :: topV :: topV :: topV :: topV :: topV :: topV :: topV :: topV :: topV :: topV :: []), [some ⟨.view, .ints (flat ps)⟩, none, none, some ⟨.box, .vals [.int .i64 x, .int .i64 y]⟩]⟩
set_option maxRecDepth 100000 in
theorem tr_specCW (ps : List Pt) (x y n : Int) (i : Nat) (o : Int) : bodyL Try.prog E3 30 12 noL 1 c_specCW k_specCW 4 (s_specCW ps x y n (i, o)) = brT (decide ((↑i : Int) < (↑ps.length : Int))) (.need ((0 : Int) ≤ (↑i : Int) ∧ (↑i : Int) < (↑ps.length : Int)) (.need ((0 : Nat) + (↑i : Int).toNat * (2 : Nat) + (2 : Nat) ≤ (flat ps).length) (brT (decide (IntKind.i64.wrap (IntKind.i64.wrap (IntKind.i64.wrap ((flat ps).getD (0 + (↑i : Int).toNat * 2) 0 - x) * IntKind.i64.wrap ((flat ps).getD (0 + (↑i : Int).toNat * 2) 0 - x)) + IntKind.i64.wrap (IntKind.i64.wrap ((flat ps).getD (0 + (↑i : Int).toNat * 2 + 1) 0 - y) * IntKind.i64.wrap ((flat ps).getD (0 + (↑i : Int).toNat * 2 + 1) 0 - y))) ≤ n)) (.leaf .normal ⟨(.slice (some ⟨0, 0, none⟩) (ps.length) (ps.length) :: topV :: .int .i64 (n) :: topV :: .pointer (some ⟨3, 0, none⟩) :: topV :: topV :: .int .i64 (IntKind.i64.wrap (o + 1)) :: .int .i64 (IntKind.i64.wrap ((↑i : Int) + 1)) :: topV :: topV :: topV :: topV :: topV :: topV :: topV :: topV :: topV :: topV :: topV :: topV :: topV :: topV :: topV :: topV :: topV :: topV :: topV :: topV :: topV :: topV :: topV :: topV :: topV :: []), [some ⟨.view, .ints (flat ps)⟩, none, none, some ⟨.box, .vals [.int .i64 (x), .int .i64 (y)]⟩]⟩) (.leaf .normal ⟨(.slice (some ⟨0, 0, none⟩) (ps.length) (ps.length) :: topV :: .int .i64 (n) :: topV :: .pointer (some ⟨3, 0, none⟩) :: topV :: topV :: .int .i64 (o) :: .int .i64 (IntKind.i64.wrap ((↑i : Int) + 1)) :: topV :: topV :: topV :: topV :: topV :: topV :: topV :: topV :: topV :: topV :: topV :: topV :: topV :: topV :: topV :: topV :: topV :: topV :: topV :: topV :: topV :: topV :: topV :: topV :: topV :: []), [some ⟨.view, .ints (flat ps)⟩, none, none, some ⟨.box, .vals [.int .i64 (x), .int .i64 (y)]⟩]⟩)))) (.leaf (.exit 0) ⟨(topV :: topV :: topV :: topV :: topV :: topV :: topV :: .int .i64 (o) :: topV :: topV :: topV :: topV :: topV :: topV :: topV :: topV :: topV :: topV :: topV :: topV :: topV :: topV :: topV :: topV :: topV :: topV :: topV :: topV :: topV :: topV :: topV :: topV :: topV :: topV :: []), [some ⟨.view, .ints (flat ps)⟩, none, none, some ⟨.box, .vals [.int .i64 (x), .int .i64 (y)]⟩]⟩) := by kernel_rfl
set_option maxRecDepth 100000 in
theorem nl_specCW : loopsOf c_specCW = [] := by kernel_rfl
def inv_specCW (ps : List Pt) (x y n : Int) : Nat × Int → Prop := fun (i, o) => i ≤ ps.length ∧ 0 ≤ o ∧ o ≤ i
def me_specCW (ps : List Pt) (x y n : Int) : Nat × Int → Nat := fun (i, o) => ps.length - i
/-- A round of this loop. -/
def Round_specCW (ps : List Pt) (x y n : Int) : Prop := ∀ xx : Nat × Int, inv_specCW ps x y n xx → (bodyL Try.prog E3 30 12 noL 1 c_specCW k_specCW 4 (s_specCW ps x y n xx)).ok (RoundEnd 4 (s_specCW ps x y n) (inv_specCW ps x y n) (me_specCW ps x y n) re_specCW (rs_specCW ps x y n) xx) (fun _ _ => False)
def e_specCW (s : St) (k : Ex → St → Tree) : Option Tree := match Nat.beq s.tmps.length 34, pickL s.tmps [0, 2, 4, 7, 8], s.mem with
  | true, [.slice (some ⟨0, 0, none⟩) m _, .int .i64 n, .pointer (some ⟨3, 0, none⟩), .int .i64 o, .int .i64 i], [some ⟨.view, .ints xs⟩, none, none, some ⟨.box, .vals [.int .i64 x, .int .i64 y]⟩] => some (needs [i = 0, o = 0, xs.length = m * 2, m ≤ 20, allV (ptsA m xs) = true, ptB x y = true] (k (.exit 0) ⟨(topV :: topV :: topV :: topV :: topV :: topV :: topV :: .int .i64 (0 + cnt n (x, y) (ptsA m xs)) :: topV :: topV :: topV :: topV :: topV :: topV :: topV :: topV :: topV :: topV :: topV :: topV :: topV :: topV :: topV :: topV :: topV :: topV :: topV :: topV :: topV :: topV :: topV :: topV :: topV :: topV :: []), [some ⟨.view, .ints xs⟩, none, none, some ⟨.box, .vals [.int .i64 x, .int .i64 y]⟩]⟩))
  | _, _, _ => none
set_option maxRecDepth 100000 in
theorem round_specCW (ps : List Pt) (x y n : Int) (h : ps.length ≤ 20) (hv : allV ps = true) (hq : ptB x y = true) : Round_specCW ps x y n := by
  rintro ⟨i, o⟩ ⟨h1, h2, h3⟩
  rw [tr_specCW]
  have b := allV_get hv i
  have hq : -1000 ≤ x ∧ x ≤ 1000 ∧ -1000 ≤ y ∧ y ≤ 1000 := by simpa [ptB] using hq
  have m1 := mul_bd (x := (ps.getD i (0, 0)).1 - x) (y := (ps.getD i (0, 0)).1 - x) 2000 2000 (by omega) (by omega)
  have m2 := mul_bd (x := (ps.getD i (0, 0)).2 - y) (y := (ps.getD i (0, 0)).2 - y) 2000 2000 (by omega) (by omega)
  simp only [brT_ok, Tree.ok, decide_eq_true_eq, decide_eq_false_iff_not, Int.toNat_natCast, Nat.zero_add, flat_length, flat_get0, flat_get1]
  refine ⟨fun hlt => ⟨by omega, by omega, ?_⟩, fun hge => ?_⟩
  · rw [wsucc (n := ps.length) (by omega) (by omega)]
    simp (disch := omega) only [wr]
    refine ⟨fun hle => ?_, fun hle => ?_⟩
    · have hc := cnt_yes (ps := ps) (i := i) (by omega) n (x, y) hle
      refine ⟨(i + 1, o + 1), [], ⟨by omega, by omega, by omega⟩, ?_, rfl, by simp only [rs_specCW, hc]; rw [show o + 1 + cnt n (x, y) (ps.drop (i + 1)) = o + (cnt n (x, y) (ps.drop (i + 1)) + 1) by omega], ?_⟩
      · show ps.length - (i + 1) < ps.length - i; omega
      · repeat' (first | exact True.intro | exact rfl | exact fun _ => rfl | refine And.intro ?_ ?_)
    · have hc := cnt_no (ps := ps) (i := i) (by omega) n (x, y) hle
      refine ⟨(i + 1, o), [], ⟨by omega, by omega, by omega⟩, ?_, rfl, by simp only [rs_specCW, hc], ?_⟩
      · show ps.length - (i + 1) < ps.length - i; omega
      · repeat' (first | exact True.intro | exact rfl | exact fun _ => rfl | refine And.intro ?_ ?_)
  · refine ⟨rfl, [], ?_⟩
    simp only [rs_specCW, cnt_end (ps := ps) (i := i) (by omega) n (x, y), Int.add_zero]
    repeat' (first | exact True.intro | exact rfl | exact fun _ => rfl | refine And.intro ?_ ?_)
set_option maxRecDepth 100000 in
theorem lg_specCW : LoopE Try.prog e_specCW c_specCW := by
  intro s k t F H hlt ht
  unfold e_specCW at hlt
  split at hlt
  rotate_left
  · cases hlt
  rename_i hlen hpick hmem
  obtain ⟨tmps, mem⟩ := s
  simp only at hlen hpick hmem
  subst hmem
  obtain rfl := Option.some.inj hlt
  obtain ⟨⟨rfl, rfl, h1, h3, h4, h5, _⟩, ht2⟩ := needs_ok ht
  clear ht hlt
  obtain ⟨ps, rfl, rfl⟩ := even_flat h1
  rw [ptsA_flat] at ht2 h4
  refine ⟨_, _, ht2, loop_run mixed E3_ok (s_specCW ps _ _ _) (inv_specCW ps _ _ _) (me_specCW ps _ _ _) re_specCW (rs_specCW ps _ _ _) k_specCW (fun _ => rfl) (noLoops nl_specCW) (round_specCW ps _ _ _ h3 h4 h5) (x := (0, 0)) ⟨Nat.zero_le _, Int.le_refl _, Int.le_refl _⟩ (π := []) rfl ?_⟩
  refine ⟨rfl, rfl, ?_, wvs_spread' [0, 2, 4, 7, 8] hlen rfl ?_⟩
  · repeat' (first | exact True.intro | exact rfl | exact wv_top _ _ | exact fun _ => rfl | assumption | exact Eq.symm (by assumption) | exact vI0 rfl | refine And.intro ?_ ?_)
  · rw [hpick]
    repeat' (first | exact True.intro | exact rfl | exact wv_top _ _ | exact fun _ => rfl | assumption | exact Eq.symm (by assumption) | exact vI0 rfl | refine And.intro ?_ ?_)
noncomputable def c_implCW : Code := ((loopsOf (codeOf Try.f13))[0]?).getD .skip
def k_implCW : Ex → List Nat := keeps [2, 4, 7, 18, 19, 20] [(0, [7])] [6]
def s_implCW (ps : List Pt) (x y n : Int) : Nat × Int → St := fun (i, o) => ⟨(topV :: topV :: .int .i64 n :: topV :: .pointer (some ⟨3, 0, none⟩) :: topV :: topV :: .int .i64 o :: topV :: topV :: topV :: topV :: topV :: topV :: topV :: topV :: topV :: topV :: .slice (some ⟨0, 0, none⟩) ps.length ps.length :: .int .i64 ps.length :: .int .i64 i :: topV :: topV :: topV :: topV :: topV :: topV :: topV :: topV :: topV :: topV :: topV :: topV :: []), [some ⟨.view, .ints (flat ps)⟩, none, none, some ⟨.box, .vals [.int .i64 x, .int .i64 y]⟩]⟩
def re_implCW : Nat × Int → Ex := fun _ => .exit 0
def rs_implCW (ps : List Pt) (x y n : Int) : Nat × Int → St := fun (i, o) => ⟨(topV :: topV :: topV :: topV :: topV :: topV :: topV :: .int .i64 (o + cnt n (x, y) (ps.drop i)) :: topV :: topV :: topV :: topV :: topV :: topV :: topV :: topV :: topV :: topV :: topV :: topV :: topV :: topV :: topV :: topV :: topV :: topV :: topV :: topV :: topV :: topV :: topV :: topV :: topV :: []), [some ⟨.view, .ints (flat ps)⟩, none, none, some ⟨.box, .vals [.int .i64 x, .int .i64 y]⟩]⟩
set_option maxRecDepth 100000 in
theorem tr_implCW (ps : List Pt) (x y n : Int) (i : Nat) (o : Int) : bodyL Try.prog E3 30 12 noL 1 c_implCW k_implCW 4 (s_implCW ps x y n (i, o)) = brT (decide ((↑i : Int) < (↑ps.length : Int))) (.need ((0 : Int) ≤ (↑i : Int) ∧ (↑i : Int) < (↑ps.length : Int)) (.need ((0 : Nat) + (↑i : Int).toNat * (2 : Nat) + (2 : Nat) ≤ (flat ps).length) (brT (!(ptB ((flat ps).getD (0 + (↑i : Int).toNat * 2) 0) ((flat ps).getD (0 + (↑i : Int).toNat * 2 + 1) 0) && ptB x y)) (brT (decide (-1 ≤ n)) (.leaf .normal ⟨(topV :: topV :: .int .i64 (n) :: topV :: .pointer (some ⟨3, 0, none⟩) :: topV :: topV :: .int .i64 (IntKind.i64.wrap (o + 1)) :: topV :: topV :: topV :: topV :: topV :: topV :: topV :: topV :: topV :: topV :: .slice (some ⟨0, 0, none⟩) (ps.length) (ps.length) :: .int .i64 ((↑ps.length : Int)) :: .int .i64 (IntKind.i64.wrap ((↑i : Int) + 1)) :: topV :: topV :: topV :: topV :: topV :: topV :: topV :: topV :: topV :: topV :: topV :: topV :: []), [some ⟨.view, .ints (flat ps)⟩, none, none, some ⟨.box, .vals [.int .i64 (x), .int .i64 (y)]⟩]⟩) (.leaf .normal ⟨(topV :: topV :: .int .i64 (n) :: topV :: .pointer (some ⟨3, 0, none⟩) :: topV :: topV :: .int .i64 (o) :: topV :: topV :: topV :: topV :: topV :: topV :: topV :: topV :: topV :: topV :: .slice (some ⟨0, 0, none⟩) (ps.length) (ps.length) :: .int .i64 ((↑ps.length : Int)) :: .int .i64 (IntKind.i64.wrap ((↑i : Int) + 1)) :: topV :: topV :: topV :: topV :: topV :: topV :: topV :: topV :: topV :: topV :: topV :: topV :: []), [some ⟨.view, .ints (flat ps)⟩, none, none, some ⟨.box, .vals [.int .i64 (x), .int .i64 (y)]⟩]⟩)) (brT (decide (IntKind.i64.wrap (IntKind.i64.wrap (IntKind.i64.wrap ((flat ps).getD (0 + (↑i : Int).toNat * 2) 0 - x) * IntKind.i64.wrap ((flat ps).getD (0 + (↑i : Int).toNat * 2) 0 - x)) + IntKind.i64.wrap (IntKind.i64.wrap ((flat ps).getD (0 + (↑i : Int).toNat * 2 + 1) 0 - y) * IntKind.i64.wrap ((flat ps).getD (0 + (↑i : Int).toNat * 2 + 1) 0 - y))) ≤ n)) (.leaf .normal ⟨(topV :: topV :: .int .i64 (n) :: topV :: .pointer (some ⟨3, 0, none⟩) :: topV :: topV :: .int .i64 (IntKind.i64.wrap (o + 1)) :: topV :: topV :: topV :: topV :: topV :: topV :: topV :: topV :: topV :: topV :: .slice (some ⟨0, 0, none⟩) (ps.length) (ps.length) :: .int .i64 ((↑ps.length : Int)) :: .int .i64 (IntKind.i64.wrap ((↑i : Int) + 1)) :: topV :: topV :: topV :: topV :: topV :: topV :: topV :: topV :: topV :: topV :: topV :: topV :: []), [some ⟨.view, .ints (flat ps)⟩, none, none, some ⟨.box, .vals [.int .i64 (x), .int .i64 (y)]⟩]⟩) (.leaf .normal ⟨(topV :: topV :: .int .i64 (n) :: topV :: .pointer (some ⟨3, 0, none⟩) :: topV :: topV :: .int .i64 (o) :: topV :: topV :: topV :: topV :: topV :: topV :: topV :: topV :: topV :: topV :: .slice (some ⟨0, 0, none⟩) (ps.length) (ps.length) :: .int .i64 ((↑ps.length : Int)) :: .int .i64 (IntKind.i64.wrap ((↑i : Int) + 1)) :: topV :: topV :: topV :: topV :: topV :: topV :: topV :: topV :: topV :: topV :: topV :: topV :: []), [some ⟨.view, .ints (flat ps)⟩, none, none, some ⟨.box, .vals [.int .i64 (x), .int .i64 (y)]⟩]⟩))))) (.leaf (.exit 0) ⟨(topV :: topV :: topV :: topV :: topV :: topV :: topV :: .int .i64 (o) :: topV :: topV :: topV :: topV :: topV :: topV :: topV :: topV :: topV :: topV :: topV :: topV :: topV :: topV :: topV :: topV :: topV :: topV :: topV :: topV :: topV :: topV :: topV :: topV :: topV :: []), [some ⟨.view, .ints (flat ps)⟩, none, none, some ⟨.box, .vals [.int .i64 (x), .int .i64 (y)]⟩]⟩) := by kernel_rfl
set_option maxRecDepth 100000 in
theorem nl_implCW : loopsOf c_implCW = [] := by kernel_rfl
def inv_implCW (ps : List Pt) (x y n : Int) : Nat × Int → Prop := fun (i, o) => i ≤ ps.length ∧ 0 ≤ o ∧ o ≤ i
def me_implCW (ps : List Pt) (x y n : Int) : Nat × Int → Nat := fun (i, o) => ps.length - i
/-- A round of this loop. -/
def Round_implCW (ps : List Pt) (x y n : Int) : Prop := ∀ xx : Nat × Int, inv_implCW ps x y n xx → (bodyL Try.prog E3 30 12 noL 1 c_implCW k_implCW 4 (s_implCW ps x y n xx)).ok (RoundEnd 4 (s_implCW ps x y n) (inv_implCW ps x y n) (me_implCW ps x y n) re_implCW (rs_implCW ps x y n) xx) (fun _ _ => False)
def e_implCW (s : St) (k : Ex → St → Tree) : Option Tree := match Nat.beq s.tmps.length 33, pickL s.tmps [2, 4, 7, 18, 19, 20], s.mem with
  | true, [.int .i64 n, .pointer (some ⟨3, 0, none⟩), .int .i64 o, .slice (some ⟨0, 0, none⟩) m _, .int .i64 l, .int .i64 i], [some ⟨.view, .ints xs⟩, none, none, some ⟨.box, .vals [.int .i64 x, .int .i64 y]⟩] => some (needs [i = 0, o = 0, l = m, xs.length = m * 2, m ≤ 20, allV (ptsA m xs) = true, ptB x y = true] (k (.exit 0) ⟨(topV :: topV :: topV :: topV :: topV :: topV :: topV :: .int .i64 (0 + cnt n (x, y) (ptsA m xs)) :: topV :: topV :: topV :: topV :: topV :: topV :: topV :: topV :: topV :: topV :: topV :: topV :: topV :: topV :: topV :: topV :: topV :: topV :: topV :: topV :: topV :: topV :: topV :: topV :: topV :: []), [some ⟨.view, .ints xs⟩, none, none, some ⟨.box, .vals [.int .i64 x, .int .i64 y]⟩]⟩))
  | _, _, _ => none
set_option maxRecDepth 100000 in
theorem round_implCW (ps : List Pt) (x y n : Int) (h : ps.length ≤ 20) (hv : allV ps = true) (hq : ptB x y = true) : Round_implCW ps x y n := by
  rintro ⟨i, o⟩ ⟨h1, h2, h3⟩
  rw [tr_implCW]
  have b := allV_get hv i
  have hpt : ptB (ps.getD i (0, 0)).1 (ps.getD i (0, 0)).2 = true := by simpa [ptB] using b
  have hq2 : -1000 ≤ x ∧ x ≤ 1000 ∧ -1000 ≤ y ∧ y ≤ 1000 := by simpa [ptB] using hq
  have m1 := mul_bd (x := (ps.getD i (0, 0)).1 - x) (y := (ps.getD i (0, 0)).1 - x) 2000 2000 (by omega) (by omega)
  have m2 := mul_bd (x := (ps.getD i (0, 0)).2 - y) (y := (ps.getD i (0, 0)).2 - y) 2000 2000 (by omega) (by omega)
  simp only [Int.toNat_natCast, Nat.zero_add, flat_length, flat_get0, flat_get1, hpt, hq, Bool.and_self, Bool.not_true, brT_f]
  simp only [brT_ok, Tree.ok, decide_eq_true_eq, decide_eq_false_iff_not]
  refine ⟨fun hlt => ⟨by omega, by omega, ?_⟩, fun hge => ?_⟩
  · rw [wsucc (n := ps.length) (by omega) (by omega)]
    simp (disch := omega) only [wr]
    refine ⟨fun hle => ?_, fun hle => ?_⟩
    · have hc := cnt_yes (ps := ps) (i := i) (by omega) n (x, y) hle
      refine ⟨(i + 1, o + 1), [], ⟨by omega, by omega, by omega⟩, ?_, rfl, by simp only [rs_implCW, hc]; rw [show o + 1 + cnt n (x, y) (ps.drop (i + 1)) = o + (cnt n (x, y) (ps.drop (i + 1)) + 1) by omega], ?_⟩
      · show ps.length - (i + 1) < ps.length - i; omega
      · repeat' (first | exact True.intro | exact rfl | exact fun _ => rfl | refine And.intro ?_ ?_)
    · have hc := cnt_no (ps := ps) (i := i) (by omega) n (x, y) hle
      refine ⟨(i + 1, o), [], ⟨by omega, by omega, by omega⟩, ?_, rfl, by simp only [rs_implCW, hc], ?_⟩
      · show ps.length - (i + 1) < ps.length - i; omega
      · repeat' (first | exact True.intro | exact rfl | exact fun _ => rfl | refine And.intro ?_ ?_)
  · refine ⟨rfl, [], ?_⟩
    simp only [rs_implCW, cnt_end (ps := ps) (i := i) (by omega) n (x, y), Int.add_zero]
    repeat' (first | exact True.intro | exact rfl | exact fun _ => rfl | refine And.intro ?_ ?_)
set_option maxRecDepth 100000 in
theorem lg_implCW : LoopE Try.prog e_implCW c_implCW := by
  intro s k t F H hlt ht
  unfold e_implCW at hlt
  split at hlt
  rotate_left
  · cases hlt
  rename_i hlen hpick hmem
  obtain ⟨tmps, mem⟩ := s
  simp only at hlen hpick hmem
  subst hmem
  obtain rfl := Option.some.inj hlt
  obtain ⟨⟨rfl, rfl, rfl, h1, h3, h4, h5, _⟩, ht2⟩ := needs_ok ht
  clear ht hlt
  obtain ⟨ps, rfl, rfl⟩ := even_flat h1
  rw [ptsA_flat] at ht2 h4
  refine ⟨_, _, ht2, loop_run mixed E3_ok (s_implCW ps _ _ _) (inv_implCW ps _ _ _) (me_implCW ps _ _ _) re_implCW (rs_implCW ps _ _ _) k_implCW (fun _ => rfl) (noLoops nl_implCW) (round_implCW ps _ _ _ h3 h4 h5) (x := (0, 0)) ⟨Nat.zero_le _, Int.le_refl _, Int.le_refl _⟩ (π := []) rfl ?_⟩
  refine ⟨rfl, rfl, ?_, wvs_spread' [2, 4, 7, 18, 19, 20] hlen rfl ?_⟩
  · repeat' (first | exact True.intro | exact rfl | exact wv_top _ _ | exact fun _ => rfl | assumption | exact Eq.symm (by assumption) | exact vI0 rfl | refine And.intro ?_ ?_)
  · rw [hpick]
    repeat' (first | exact True.intro | exact rfl | exact wv_top _ _ | exact fun _ => rfl | assumption | exact Eq.symm (by assumption) | exact vI0 rfl | refine And.intro ?_ ?_)
end Go.Proofs.Ytcplfampcbekoaa
namespace Go.Proofs.Ytcplfampcbekoaa
set_option linter.all false
open Go.RowKit
def L4 : FuncId → LT := fun f => match f with
  | 14 => lt1 e_specCW
  | 13 => lt1 e_implCW
  | _ => noL
def E4 : Env := mkE (T2) (fun _ _ => none) (L4)
theorem code_of {f : FuncId} {fn g : Func} (h : Try.prog.funcs[f]? = some g) (hf : Try.prog.funcs[f]? = some fn) : g = fn := by rw [h] at hf; simpa using hf
theorem Lr_specCW {fn : Func} (hf : Try.prog.funcs[14]? = some fn) : LoopsGood Try.prog (lt1 e_specCW) 0 (codeOf fn) := by
  obtain rfl := code_of Try.func14 hf
  exact lt1_good lg_specCW
theorem Lr_implCW {fn : Func} (hf : Try.prog.funcs[13]? = some fn) : LoopsGood Try.prog (lt1 e_implCW) 0 (codeOf fn) := by
  obtain rfl := code_of Try.func13 hf
  exact lt1_good lg_implCW
theorem L4_ok : ∀ f fn, Try.prog.funcs[f]? = some fn → LoopsGood Try.prog (L4 f) 0 (codeOf fn) := by
  intro f fn hf
  unfold L4
  split
  all_goals first | with_reducible exact Lr_toPts hf | with_reducible exact Lr_eqPts hf | with_reducible exact Lr_specCW hf | with_reducible exact Lr_implCW hf | exact noL_good
theorem E4_ok : EnvOk Try.prog E4 := mkEOk (T2_ok) (fun _ _ _ _ _ h => (by cases h)) (L4_ok)
set_option maxRecDepth 100000 in
theorem tr_specCount (ps : List Pt) (x y n : Int) : bodyX Try.prog E4 30 12 14 [.row ps.length (.ints (flat ps)), .v (.agg #[iv x, iv y]), .v (iv n)] = .need (ps.length * (2 : Nat) ≤ (List.drop (0 : Nat) (flat ps)).length) (.need (ps.length ≤ (1000000000 : Nat)) (brT (!okL (ptsA ps.length (List.drop 0 (flat ps)))) (.fin (.int .i64 (-1)) [some ⟨.view, .ints (flat ps)⟩, none, none, some ⟨.box, .vals [.int .i64 (x), .int .i64 (y)]⟩]) (brT (!ptB x y) (.fin (.int .i64 (-1)) [some ⟨.view, .ints (flat ps)⟩, none, none, some ⟨.box, .vals [.int .i64 (x), .int .i64 (y)]⟩]) (.need ((0 : Int) = (0 : Int)) (.need ((0 : Int) = (0 : Int)) (.need ((flat ps).length = ps.length * (2 : Nat)) (.need (ps.length ≤ (20 : Nat)) (.need (allV (ptsA ps.length (flat ps)) = true) (.need (ptB x y = true) (.fin (.int .i64 (0 + cnt n (x, y) (ptsA ps.length (flat ps)))) [some ⟨.view, .ints (flat ps)⟩, none, none, some ⟨.box, .vals [.int .i64 (x), .int .i64 (y)]⟩])))))))))) := by kernel_rfl
set_option maxRecDepth 100000 in
theorem tr_implCount (ps : List Pt) (x y n : Int) : bodyX Try.prog E4 30 12 13 [.row ps.length (.ints (flat ps)), .v (.agg #[iv x, iv y]), .v (iv n)] = brT (decide ((↑ps.length : Int) ≤ 20)) (.need (ps.length * (2 : Nat) ≤ (List.drop (0 : Nat) (flat ps)).length) (.need (ps.length ≤ (1000000000 : Nat)) (brT (!allV (ptsA ps.length (List.drop 0 (flat ps)))) (.fin (.int .i64 (-1)) [some ⟨.view, .ints (flat ps)⟩, none, none, some ⟨.box, .vals [.int .i64 (x), .int .i64 (y)]⟩]) (brT (!ptB x y) (.fin (.int .i64 (-1)) [some ⟨.view, .ints (flat ps)⟩, none, none, some ⟨.box, .vals [.int .i64 (x), .int .i64 (y)]⟩]) (.need ((0 : Int) = (0 : Int)) (.need ((0 : Int) = (0 : Int)) (.need ((↑ps.length : Int) = (↑ps.length : Int)) (.need ((flat ps).length = ps.length * (2 : Nat)) (.need (ps.length ≤ (20 : Nat)) (.need (allV (ptsA ps.length (flat ps)) = true) (.need (ptB x y = true) (.fin (.int .i64 (0 + cnt n (x, y) (ptsA ps.length (flat ps)))) [some ⟨.view, .ints (flat ps)⟩, none, none, some ⟨.box, .vals [.int .i64 (x), .int .i64 (y)]⟩])))))))))))) (.fin (.int .i64 (-1)) [some ⟨.view, .ints (flat ps)⟩, none, none, some ⟨.box, .vals [.int .i64 (x), .int .i64 (y)]⟩]) := by kernel_rfl
def cwV (ps : List Pt) (x y n : Int) : Int := bif okL ps && ptB x y then cnt n (x, y) ps else -1
theorem res_specCount (ps : List Pt) (x y n : Int) (h : Big ps) : Res Try.prog 14 [.row ps.length (.ints (flat ps)), .v (.agg #[iv x, iv y]), .v (iv n)] (iv (cwV ps x y n)) := by
  refine bodyX_res mixed E4_ok (m := 30) (n := 12) rfl ?_
  rw [tr_specCount]
  unfold Big at h
  simp only [List.drop_zero, ptsA_flat, flat_length, Int.zero_add]
  unfold cwV
  cases hk : okL ps
  · simp [Tree.ok, brT, h]
  · simp only [okL, Bool.and_eq_true, decide_eq_true_eq] at hk
    cases hq : ptB x y <;> simp [Tree.ok, brT, h, hk]
theorem res_implCount (ps : List Pt) (x y n : Int) (h : Big ps) : Res Try.prog 13 [.row ps.length (.ints (flat ps)), .v (.agg #[iv x, iv y]), .v (iv n)] (iv (cwV ps x y n)) := by
  refine bodyX_res mixed E4_ok (m := 30) (n := 12) rfl ?_
  rw [tr_implCount]
  unfold Big at h
  simp only [List.drop_zero, ptsA_flat, flat_length, Int.zero_add]
  unfold cwV okL
  by_cases hl : ps.length ≤ 20
  · have hl2 : (ps.length : Int) ≤ 20 := by omega
    cases hk : allV ps <;> cases hq : ptB x y <;> simp [Tree.ok, brT, h, hl, hl2]
  · have hl2 : ¬ (ps.length : Int) ≤ 20 := by omega
    simp [Tree.ok, brT, hl, hl2]
def pCW : List DArg → Option (Value × List Prop)
  | [.row m (.ints xs), .v (.agg ⟨[.int .i64 x, .int .i64 y]⟩), .v (.int .i64 n)] => some (iv (cwV (ptsA m xs) x y n), [m * 2 ≤ xs.length, m ≤ 1000000000])
  | _ => none
def T3 : Tab := fun f ds => match f with
  | 14 => pCW ds
  | 13 => pCW ds
  | f => T2 f ds
theorem pCW_ok {f : FuncId} (h : ∀ (ps : List Pt) (x y n : Int), Big ps → Res Try.prog f [.row ps.length (.ints (flat ps)), .v (.agg #[iv x, iv y]), .v (iv n)] (iv (cwV ps x y n))) {ds : List DArg} {v : Value} {C : List Prop} (hd : pCW ds = some (v, C)) (hC : AllP C) : Res Try.prog f ds v := by
  unfold pCW at hd
  split at hd
  · rename_i m xs x y n
    obtain ⟨rfl, rfl⟩ : _ ∧ _ := by simpa using hd
    obtain ⟨_, h2⟩ := ptsA_spec hC.1
    exact res_pts1 (pre := []) (post := [_, _]) hC.1 (h (ptsA m xs) x y n (by unfold Big; rw [h2]; exact hC.2.1))
  · cases hd
theorem pCWs_ok {ds : List DArg} {v : Value} {C : List Prop} (h : pCW ds = some (v, C)) (hC : AllP C) : Res Try.prog 14 ds v := pCW_ok res_specCount h hC
theorem pCWi_ok {ds : List DArg} {v : Value} {C : List Prop} (h : pCW ds = some (v, C)) (hC : AllP C) : Res Try.prog 13 ds v := pCW_ok res_implCount h hC
theorem T3_ok : TabOk Try.prog T3 := by
  intro f ds v C h hC
  unfold T3 at h
  (try split at h)
  all_goals first | with_reducible exact pEq2_ok h hC | with_reducible exact pCWs_ok h hC | with_reducible exact pCWi_ok h hC | exact T2_ok _ _ _ _ h hC
def R4 : TabR := fun f ds => match f, ds with
  | _, _ => none
theorem R4_ok : TabROk Try.prog R4 := by
  intro f ds v b C h hC
  unfold R4 at h
  (try split at h)
  all_goals first
    | (rename_i n xs
       obtain ⟨rfl, rfl, rfl⟩ : _ ∧ _ ∧ _ := by simpa using h
       obtain ⟨h1, h2⟩ := ptsA_spec hC.1
       have h0 := resR_toPointS (ptsA n xs) (by unfold Big; rw [h2]; exact hC.2.1)
       have h3 := resR_pts1 (pre := []) (post := []) hC.1 h0
       rw [h2, ← h1] at h3
       exact h3)
    | cases h
end Go.Proofs.Ytcplfampcbekoaa
namespace Go.Proofs.Ytcplfampcbekoaa
set_option linter.all false
open Go.RowKit
theorem negT_ (b : Bool) : negB true b = !b := by cases b <;> rfl
theorem negF_ (b : Bool) : negB false b = b := by cases b <;> rfl
noncomputable def c_eqQ : Code := ((loopsOf (codeOf Try.f7))[0]?).getD .skip
def k_eqQ : Ex → List Nat := keeps [0, 1, 5] [(0, [])] [4]
def s_eqQ (ps : List Pt) : Nat → St := fun i => ⟨[.slice (some ⟨0, 0, none⟩) ps.length ps.length, .slice (some ⟨1, 0, none⟩) ps.length ps.length, topV, topV, topV, .int .i64 i, topV, topV, topV, topV, topV, topV, topV, topV, topV, topV, topV, topV, topV, topV, topV, topV, topV, topV, topV, topV], [some ⟨.view, .ints (flat ps)⟩, some ⟨.view, .ints (flat ps)⟩]⟩
def re_eqQ : Nat → Ex := fun _ => .exit 0
def rs_eqQ (ps : List Pt) : Nat → St := fun i => ⟨[topV, topV, topV, topV, topV, topV, topV, topV, topV, topV, topV, topV, topV, topV, topV, topV, topV, topV, topV, topV, topV, topV, topV, topV, topV, topV], [some ⟨.view, .ints (flat ps)⟩, some ⟨.view, .ints (flat ps)⟩]⟩
set_option maxRecDepth 100000 in
theorem tr_eqQ (ps : List Pt) (i : Nat) : bodyL Try.prog EM 30 12 noL 1 c_eqQ k_eqQ 2 (s_eqQ ps i) = brT (decide ((↑i : Int) < (↑ps.length : Int))) (.need ((0 : Int) ≤ (↑i : Int) ∧ (↑i : Int) < (↑ps.length : Int)) (.need ((0 : Nat) + (↑i : Int).toNat * (2 : Nat) + (2 : Nat) ≤ (flat ps).length) (.need ((0 : Int) ≤ (↑i : Int) ∧ (↑i : Int) < (↑ps.length : Int)) (.need ((0 : Nat) + (↑i : Int).toNat * (2 : Nat) + (2 : Nat) ≤ (flat ps).length) (brT (negB true ((flat ps).getD (0 + (↑i : Int).toNat * 2) 0 == (flat ps).getD (0 + (↑i : Int).toNat * 2) 0 && ((flat ps).getD (0 + (↑i : Int).toNat * 2 + 1) 0 == (flat ps).getD (0 + (↑i : Int).toNat * 2 + 1) 0 && true))) (.leaf .ret ⟨[topV, topV, topV, topV, .bool (false), topV, topV, topV, topV, topV, topV, topV, topV, topV, topV, topV, topV, topV, topV, topV, topV, topV, topV, topV, topV, topV], [some ⟨.view, .ints (flat ps)⟩, some ⟨.view, .ints (flat ps)⟩]⟩) (.leaf .normal ⟨[.slice (some ⟨0, 0, none⟩) (ps.length) (ps.length), .slice (some ⟨1, 0, none⟩) (ps.length) (ps.length), topV, topV, topV, .int .i64 (IntKind.i64.wrap ((↑i : Int) + 1)), topV, topV, topV, topV, topV, topV, topV, topV, topV, topV, topV, topV, topV, topV, topV, topV, topV, topV, topV, topV], [some ⟨.view, .ints (flat ps)⟩, some ⟨.view, .ints (flat ps)⟩]⟩)))))) (.leaf (.exit 0) ⟨[topV, topV, topV, topV, topV, topV, topV, topV, topV, topV, topV, topV, topV, topV, topV, topV, topV, topV, topV, topV, topV, topV, topV, topV, topV, topV], [some ⟨.view, .ints (flat ps)⟩, some ⟨.view, .ints (flat ps)⟩]⟩) := by kernel_rfl
set_option maxRecDepth 100000 in
theorem nl_eqQ : loopsOf c_eqQ = [] := by kernel_rfl
def inv_eqQ (ps : List Pt) : Nat → Prop := fun i => i ≤ ps.length
def me_eqQ (ps : List Pt) : Nat → Nat := fun i => ps.length - i
/-- A round of this loop. -/
def Round_eqQ (ps : List Pt) : Prop := ∀ xx : Nat, inv_eqQ ps xx → (bodyL Try.prog EM 30 12 noL 1 c_eqQ k_eqQ 2 (s_eqQ ps xx)).ok (RoundEnd 2 (s_eqQ ps) (inv_eqQ ps) (me_eqQ ps) re_eqQ (rs_eqQ ps) xx) (fun _ _ => False)
def e_eqQ (s : St) (k : Ex → St → Tree) : Option Tree := match Nat.beq s.tmps.length 26, pickL s.tmps [0, 1, 5], s.mem with
  | true, [.slice (some ⟨0, 0, none⟩) n _, .slice (some ⟨1, 0, none⟩) m _, .int .i64 i], [some ⟨.view, .ints xs⟩, some ⟨.view, .ints ys⟩] => some (needs [i = 0, m = n, ys = xs, xs.length = n * 2, n ≤ 1000000000] (k (.exit 0) ⟨[topV, topV, topV, topV, topV, topV, topV, topV, topV, topV, topV, topV, topV, topV, topV, topV, topV, topV, topV, topV, topV, topV, topV, topV, topV, topV], [some ⟨.view, .ints xs⟩, some ⟨.view, .ints xs⟩]⟩))
  | _, _, _ => none
set_option maxRecDepth 100000 in
theorem round_eqQ (ps : List Pt) (h : ps.length ≤ 1000000000) : Round_eqQ ps := by
  intro i h1
  have h1 : i ≤ ps.length := h1
  rw [tr_eqQ]
  simp only [brT_ok, Tree.ok, decide_eq_true_eq, decide_eq_false_iff_not, Int.toNat_natCast, Nat.zero_add, flat_length, flat_get0, flat_get1, Bool.not_eq_true', Bool.not_eq_false', beq_iff_eq, beq_eq_false_iff_ne, negT_, negF_, Bool.and_true, Bool.and_eq_true, Bool.and_eq_false_iff, beq_self_eq_true, Bool.and_self, Bool.not_true, Bool.false_eq_true]
  refine ⟨fun hlt => ?_, fun hge => ?_⟩
  · rw [wsucc (n := ps.length) (by omega) h]
    refine ⟨by omega, by omega, by omega, by omega, fun hc => hc.elim, fun _ => ⟨i + 1, [], ?_, ?_, rfl, rfl, ?_⟩⟩
    · show i + 1 ≤ ps.length; omega
    · show ps.length - (i + 1) < ps.length - i; omega
    · repeat' (first | exact True.intro | exact rfl | exact fun _ => rfl | refine And.intro ?_ ?_)
  · refine ⟨rfl, [], ?_⟩
    repeat' (first | exact True.intro | exact rfl | exact fun _ => rfl | refine And.intro ?_ ?_)
set_option maxRecDepth 100000 in
theorem lg_eqQ : LoopE Try.prog e_eqQ c_eqQ := by
  intro s k t F H hlt ht
  unfold e_eqQ at hlt
  split at hlt
  rotate_left
  · cases hlt
  rename_i hlen hpick hmem
  obtain ⟨tmps, mem⟩ := s
  simp only at hlen hpick hmem
  subst hmem
  obtain rfl := Option.some.inj hlt
  obtain ⟨⟨rfl, rfl, rfl, h1, h2, _⟩, ht2⟩ := needs_ok ht
  clear ht hlt
  obtain ⟨ps, rfl, rfl⟩ := even_flat h1
  refine ⟨_, _, ht2, loop_run mixed EM_ok (s_eqQ _) (inv_eqQ _) (me_eqQ _) re_eqQ (rs_eqQ _) k_eqQ (fun _ => rfl) (noLoops nl_eqQ) (round_eqQ _ h2) (x := 0) (Nat.zero_le _) (π := []) rfl ?_⟩
  refine ⟨rfl, rfl, ?_, wvs_spread' [0, 1, 5] hlen rfl ?_⟩
  · repeat' (first | exact True.intro | exact rfl | exact wv_top _ _ | exact fun _ => rfl | assumption | exact Eq.symm (by assumption) | exact vI0 rfl | refine And.intro ?_ ?_)
  · rw [hpick]
    repeat' (first | exact True.intro | exact rfl | exact wv_top _ _ | exact fun _ => rfl | assumption | exact Eq.symm (by assumption) | exact vI0 rfl | refine And.intro ?_ ?_)
end Go.Proofs.Ytcplfampcbekoaa
namespace Go.Proofs.Ytcplfampcbekoaa
set_option linter.all false
open Go.Shelf
def sortPt_ren : Go.Shelf.Ren := ⟨fun | 6 => 40 | 15 => 57 | 14 => 56 | 28 => 73 | 29 => 74 | 20 => 65 | 21 => 66 | 22 => 67 | 23 => 68 | 24 => 69 | 25 => 70 | 26 => 71 | 27 => 72 | 46 => 78 | 47 => 79 | 48 => 80 | 49 => 81 | 50 => 82 | 57 => 84 | n => n, fun | 22 => 23 | 24 => 29 | 25 => 52 | 3 => 3 | 39 => 68 | 0 => 0 | 53 => 84 | 55 => 86 | 4 => 4 | 46 => 77 | 45 => 76 | 50 => 81 | 5 => 5 | 9 => 9 | 66 => 89 | 70 => 93 | 76 => 95 | 77 => 96 | n => n, fun | n => n⟩
theorem sortPt : Go.Proofs.SlLaysF0.n6 Try.prog sortPt_ren := {
  mixed := by kernel_rfl
  f6 := ⟨Try.f40.name, by decide, Try.func40.trans (congrArg some (by kernel_rfl))⟩
  f14 := ⟨Try.f56.name, by decide, Try.func56.trans (congrArg some (by kernel_rfl))⟩
  f15 := Try.func57.trans (congrArg some (by kernel_rfl))
  f20 := ⟨Try.f65.name, by decide, Try.func65.trans (congrArg some (by kernel_rfl))⟩
  f21 := ⟨Try.f66.name, by decide, Try.func66.trans (congrArg some (by kernel_rfl))⟩
  f22 := ⟨Try.f67.name, by decide, Try.func67.trans (congrArg some (by kernel_rfl))⟩
  f23 := ⟨Try.f68.name, by decide, Try.func68.trans (congrArg some (by kernel_rfl))⟩
  f24 := ⟨Try.f69.name, by decide, Try.func69.trans (congrArg some (by kernel_rfl))⟩
  f25 := ⟨Try.f70.name, by decide, Try.func70.trans (congrArg some (by kernel_rfl))⟩
  f26 := ⟨Try.f71.name, by decide, Try.func71.trans (congrArg some (by kernel_rfl))⟩
  f27 := ⟨Try.f72.name, by decide, Try.func72.trans (congrArg some (by kernel_rfl))⟩
  f28 := Try.func73.trans (congrArg some (by kernel_rfl))
  f29 := Try.func74.trans (congrArg some (by kernel_rfl))
  f46 := ⟨Try.f78.name, by decide, Try.func78.trans (congrArg some (by kernel_rfl))⟩
  f47 := Try.func79.trans (congrArg some (by kernel_rfl))
  f48 := Try.func80.trans (congrArg some (by kernel_rfl))
  f49 := ⟨Try.f81.name, by decide, Try.func81.trans (congrArg some (by kernel_rfl))⟩
  f50 := ⟨Try.f82.name, by decide, Try.func82.trans (congrArg some (by kernel_rfl))⟩
  f57 := ⟨Try.f84.name, by decide, Try.func84.trans (congrArg some (by kernel_rfl))⟩
  t0 := Try.underlying0
  a0 := Try.isAgg0
  z0 := Try.sizeOf0
  v0 := Try.zeroValue0
  t3 := Try.underlying3
  a3 := Try.isAgg3
  z3 := Try.sizeOf3
  v3 := Try.zeroValue3
  t4 := Try.underlying4
  a4 := Try.isAgg4
  z4 := Try.sizeOf4
  v4 := Try.zeroValue4
  t5 := Try.underlying5
  a5 := Try.isAgg5
  z5 := Try.sizeOf5
  v5 := Try.zeroValue5
  t9 := Try.underlying9
  a9 := Try.isAgg9
  z9 := Try.sizeOf9
  v9 := Try.zeroValue9
  t22 := Try.underlying23
  a22 := Try.isAgg23
  z22 := Try.sizeOf23
  v22 := Try.zeroValue23
  t25 := Try.underlying52
  a25 := Try.isAgg52
  z25 := Try.sizeOf52
  v25 := Try.zeroValue52
  t39 := Try.underlying68
  a39 := Try.isAgg68
  z39 := Try.sizeOf68
  v39 := Try.zeroValue68
  t45 := Try.underlying76
  a45 := Try.isAgg76
  z45 := Try.sizeOf76
  v45 := Try.zeroValue76
  t46 := Try.underlying77
  a46 := Try.isAgg77
  z46 := Try.sizeOf77
  v46 := Try.zeroValue77
  t50 := Try.underlying81
  a50 := Try.isAgg81
  z50 := Try.sizeOf81
  v50 := Try.zeroValue81
  t53 := Try.underlying84
  a53 := Try.isAgg84
  z53 := Try.sizeOf84
  v53 := Try.zeroValue84
  t55 := Try.underlying86
  a55 := Try.isAgg86
  z55 := Try.sizeOf86
  v55 := Try.zeroValue86
  t66 := Try.underlying89
  a66 := Try.isAgg89
  z66 := Try.sizeOf89
  v66 := Try.zeroValue89
  t70 := Try.underlying93
  a70 := Try.isAgg93
  z70 := Try.sizeOf93
  v70 := Try.zeroValue93
  t76 := Try.underlying95
  a76 := Try.isAgg95
  z76 := Try.sizeOf95
  v76 := Try.zeroValue95
  t77 := Try.underlying96
  a77 := Try.isAgg96
  z77 := Try.sizeOf96
  v77 := Try.zeroValue96 }
end Go.Proofs.Ytcplfampcbekoaa
namespace Go.Proofs.Ytcplfampcbekoaa
set_option linter.all false
open Go.RowKit Go.Sort
def orI (x y : Int) : Int := if x = 0 then y else x
theorem or2_any (b c : Nat) (x y : Int) (w : World) (h0 : w.cell? ⟨b, 0, none⟩ = some (.int .i64 x)) (h1 : w.cell? ⟨b, 1, none⟩ = some (.int .i64 y)) :
    Calls Try.prog 58 #[.slice (some ⟨b, 0, none⟩) 2 c] w fun e w' => e = .returned (.int .i64 (orI x y)) ∧ w = w' := by
  go_enter Try.func58, Try.ntmps58
  go_wp2
  go_loopw [8] (fun i wr => ∃ k : Nat, k ≤ 2 ∧ i = .int .i64 k ∧ (1 ≤ k → x = 0) ∧ (2 ≤ k → y = 0) ∧ w = wr) (fun i _ => 2 - (intOf i).toNat)
  case atStart => exact ⟨0, Nat.zero_le _, rfl, fun h => by omega, fun h => by omega, rfl⟩
  case round =>
    obtain ⟨k, hk, rfl, hx, hy, rfl⟩ := hrel
    by_cases k0 : k = 0
    · subst k0
      by_cases x0 : x = 0
      · subst x0
        clear hx hy
        go_wp2
        exact ⟨⟨1, by omega, rfl, fun _ => trivial, fun h => by omega, trivial⟩, by simp [intOf]⟩
      · have E := Lib.hid (show orI x y = x by unfold orI; rw [if_neg x0])
        clear hx hy
        go_wp2
        go_ret
        exact ⟨ret_int E.out.symm, rfl⟩
    · by_cases k1 : k = 1
      · subst k1
        obtain rfl := hx (by omega)
        by_cases y0 : y = 0
        · subst y0
          go_wp2
          exact ⟨⟨2, by omega, rfl, fun _ => trivial, fun _ => trivial, trivial⟩, by simp [intOf]⟩
        · have E := Lib.hid (show orI 0 y = y by unfold orI; rw [if_pos rfl])
          go_wp2
          go_ret
          exact ⟨ret_int E.out.symm, rfl⟩
      · obtain rfl : k = 2 := by omega
        obtain rfl := hx (by omega)
        obtain rfl := hy (by omega)
        have E := Lib.hid (show orI 0 0 = 0 by unfold orI; rw [if_pos rfl])
        go_wp2
        go_ret
        exact ⟨ret_int E.out.symm, rfl⟩
/-- Point.compare -/
def cmpQ (a b c d : Int) : Int := orI (sgn (a - c)) (sgn (b - d))
theorem cmpPt_any (a b c d : Int) (w : World) :
    Calls Try.prog 41 #[.agg #[.int .i64 a, .int .i64 b], .agg #[.int .i64 c, .int .i64 d]] w fun e w' => e = .returned (.int .i64 (cmpQ a b c d)) ∧ ∃ q os', w' = grow (w.drewN q) os' := by
  go_enter Try.func41, Try.ntmps41
  go_wp2_with fail
  go_region_held3 (fun w' => w'.cell? ⟨w.heap.size, 0, none⟩ = some (.int .i64 a) ∧ w'.cell? ⟨w.heap.size, 1, none⟩ = some (.int .i64 b) ∧ w'.cell? ⟨w.heap.size + 1, 0, none⟩ = some (.int .i64 c) ∧ w'.cell? ⟨w.heap.size + 1, 1, none⟩ = some (.int .i64 d))
    (first | (simp [*, go_sem]; done))
    (first
      | (go_at_call 49; refine (compare_any _ _ _).mono ?_; rintro e wx ⟨rfl, rfl⟩)
      | (go_at_call 58; refine (or2_any _ _ (sgn (a - c)) (sgn (b - d)) _ (by simp [go_sem]; done) (by simp [go_sem]; done)).mono ?_; rintro e wx ⟨rfl, rfl⟩))
  go_wp2
  go_ret
  refine ⟨rfl, 1, _, (?_ : _ = grow (w.drewN 1) #[.cells #[.int .i64 a, .int .i64 b] 29, .cells #[.int .i64 c, .int .i64 d] 29, .cells #[.int .i64 (sgn (a - c)), .int .i64 (sgn (b - d))] 3])⟩
  rw [alloc_eq_grow, alloc_eq_grow, alloc_eq_grow, grow_grow, grow_grow]
  rfl
end Go.Proofs.Ytcplfampcbekoaa
namespace Go.Proofs.Ytcplfampcbekoaa
set_option linter.all false
open Go.RowKit
theorem DOk.ints {w : World} {l : Nat} {cs : Cs} {xs : List Int} (h : cs.list = xs.map (Value.int .i64)) {y : Value} (k : DOk w (.row l cs) y) : DOk w (.row l (.ints xs)) y := by
  obtain ⟨_, ad, c', h2, h3, h4⟩ := k
  refine ⟨rfl, ad, c', h2, h3, h4.imp id ?_⟩
  rintro ⟨g, f, h5, h6, h7⟩
  exact ⟨g, f, h5, h6, fun j v hv => h7 j v (by rw [h]; exact hv)⟩
/-- What is known for a row of ints is known for the same cells written otherwise. -/
theorem DOks.ints {w : World} : ∀ {ds ds' : List DArg} {args : Array Value}, DOks w ds args → ds.length = ds'.length → (∀ (i : Nat) d d', ds[i]? = some d → ds'[i]? = some d' → d = d' ∨ ∃ l cs xs, d = .row l cs ∧ d' = .row l (.ints xs) ∧ cs.list = xs.map (Value.int .i64)) → DOks w ds' args := by
  intro ds ds' args h hl hi
  refine ⟨by rw [← hl]; exact h.1, fun i d' y hd' hy => ?_⟩
  have hlt : i < ds.length := by rw [hl]; exact (List.getElem?_eq_some_iff.1 hd').1
  have hd : ds[i]? = some ds[i] := by simp [hlt]
  have h0 := h.2 i ds[i] y hd hy
  rcases hi i ds[i] d' hd hd' with e | ⟨l, cs, xs, e1, e2, e3⟩
  · rw [← e]; exact h0
  · rw [e1] at h0
    rw [e2]
    exact h0.ints e3
end Go.Proofs.Ytcplfampcbekoaa
namespace Go.Proofs.Ytcplfampcbekoaa
set_option linter.all false
open Go.RowKit
/-- Two points are equal. -/
def eqB (ax ay bx b_y : Int) : Bool := ax == bx && ay == b_y
def segB (ax ay bx b_y : Int) : Bool := ptB ax ay && ptB bx b_y && !(eqB ax ay bx b_y)
theorem set_is {W : World} {a : Addr} (v : Value) (h : (W.cell? a).isSome = true) : (W.setCell a v).cell? a = some v := by
  obtain ⟨u, hu⟩ := Option.isSome_iff_exists.mp h
  exact set_same v hu
theorem set_blk {W : World} {b g i j : Nat} (v : Value) (h : ¬ b = g) : (W.setCell ⟨g, i, none⟩ v).cell? ⟨b, j, none⟩ = W.cell? ⟨b, j, none⟩ :=
  World.cell?_setCell_other _ ⟨g, i, none⟩ ⟨b, j, none⟩ v (fun e => h (by cases e; rfl))
theorem set_off {W : World} {g i j : Nat} (v : Value) (h : ¬ j = i) : (W.setCell ⟨g, i, none⟩ v).cell? ⟨g, j, none⟩ = W.cell? ⟨g, j, none⟩ :=
  World.cell?_setCell_other _ ⟨g, i, none⟩ ⟨g, j, none⟩ v (fun e => h (by cases e; rfl))
/-- A point that needs no check is on a segment: by the product and the scalar product of the vectors to the ends. -/
def hasB (ax ay bx b_y px py : Int) : Bool := ((ax - px) * (b_y - py) - (ay - py) * (bx - px) == 0) && decide ((ax - px) * (bx - px) + (ay - py) * (b_y - py) ≤ 0)
theorem hasB_no {ax ay bx b_y px py : Int} (h : ((ax - px) * (b_y - py) - (ay - py) * (bx - px) == 0) = false) : hasB ax ay bx b_y px py = false := by unfold hasB; rw [h]; rfl
theorem hasB_yes {ax ay bx b_y px py : Int} (h : ((ax - px) * (b_y - py) - (ay - py) * (bx - px) == 0) = true) : hasB ax ay bx b_y px py = decide ((ax - px) * (bx - px) + (ay - py) * (b_y - py) ≤ 0) := by unfold hasB; rw [h]; rfl
set_option maxHeartbeats 6400000 in
theorem has_any (ax ay bx b_y px py : Int) (w : World) (ha : ptB ax ay = true) (hb : ptB bx b_y = true) (hp : ptB px py = true) :
    Calls Try.prog 76 #[.agg #[.int .i64 ax, .int .i64 ay, .int .i64 bx, .int .i64 b_y], .agg #[.int .i64 px, .int .i64 py]] w fun e w' => e = .returned (.bool (hasB ax ay bx b_y px py)) ∧ Below w.heap.size w w' := by
  have h1 := ptB_true ha
  have h2 := ptB_true hb
  have h3 := ptB_true hp
  clear ha hb hp
  have p1 := prod_bd (x := ax - px) (y := b_y - py) 2000 2000 (by omega) (by omega)
  have p2 := prod_bd (x := ay - py) (y := bx - px) 2000 2000 (by omega) (by omega)
  have p3 := prod_bd (x := ax - px) (y := bx - px) 2000 2000 (by omega) (by omega)
  have p4 := prod_bd (x := ay - py) (y := b_y - py) 2000 2000 (by omega) (by omega)
  go_enter Try.func76, Try.ntmps76
  go_upto_region 1 with fail
  go_cut [5, 6] (fun s5 s6 wx => ∃ g h : Nat, s5 = .pointer (some ⟨g, 0, none⟩) ∧ s6 = .pointer (some ⟨h, 0, none⟩) ∧ wx.cell? ⟨g, 0, none⟩ = some (.int .i64 (ax - px)) ∧ wx.cell? ⟨g, 1, none⟩ = some (.int .i64 (ay - py)) ∧ wx.cell? ⟨h, 0, none⟩ = some (.int .i64 (bx - px)) ∧ wx.cell? ⟨h, 1, none⟩ = some (.int .i64 (b_y - py)) ∧ Below w.heap.size w wx)
  case first =>
    go_region_held3 (fun wx => wx.cell? ⟨w.heap.size, 0, none⟩ = some (.int .i64 ax) ∧ wx.cell? ⟨w.heap.size, 1, none⟩ = some (.int .i64 ay) ∧ wx.cell? ⟨w.heap.size, 2, none⟩ = some (.int .i64 bx) ∧ wx.cell? ⟨w.heap.size, 3, none⟩ = some (.int .i64 b_y) ∧ wx.cell? ⟨w.heap.size + 1, 0, none⟩ = some (.int .i64 px) ∧ wx.cell? ⟨w.heap.size + 1, 1, none⟩ = some (.int .i64 py))
      (first | (simp [*, go_sem]; done) | (go_split_ands; refine ⟨?_, ?_, ?_, ?_, ?_, ?_⟩ <;> ((repeat (with_reducible refine keepF (by assumption) ?_)); first | assumption | exact keep1 (by assumption) (by assumption) | exact keepA _ (by assumption) | exact keepS (by assumption) (by assumption))))
      (first
        | (go_at_call_of 50 (Value.agg #[.int .i64 ax, .int .i64 ay]); refine (minus_any _ _ _ _ _ (by omega) (by omega)).mono ?_; rintro e w1 ⟨rfl, hx1⟩; obtain ⟨hc1, hf1⟩ := bcell hx1; have y1 := hx1.size; (try simp at y1); (try have q10 : w.heap.size < w1.heap.size ∧ w.heap.size < w1.heap.size + 1 ∧ ¬ (w1.heap.size = w.heap.size) ∧ ¬ (w.heap.size = w1.heap.size) := (by omega)); (try have q11 : w.heap.size + 1 < w1.heap.size ∧ w.heap.size + 1 < w1.heap.size + 1 ∧ ¬ (w1.heap.size = w.heap.size + 1) ∧ ¬ (w.heap.size + 1 = w1.heap.size) := (by omega)); (try have q12 : w.heap.size + 1 + 1 < w1.heap.size ∧ w.heap.size + 1 + 1 < w1.heap.size + 1 ∧ ¬ (w1.heap.size = w.heap.size + 1 + 1) ∧ ¬ (w.heap.size + 1 + 1 = w1.heap.size) := (by omega)); (try have q13 : w.heap.size + 1 + 1 + 1 < w1.heap.size ∧ w.heap.size + 1 + 1 + 1 < w1.heap.size + 1 ∧ ¬ (w1.heap.size = w.heap.size + 1 + 1 + 1) ∧ ¬ (w.heap.size + 1 + 1 + 1 = w1.heap.size) := (by omega)))
        | (go_at_call_of 50 (Value.agg #[.int .i64 bx, .int .i64 b_y]); refine (minus_any _ _ _ _ _ (by omega) (by omega)).mono ?_; rintro e w2 ⟨rfl, hx2⟩; obtain ⟨hc2, hf2⟩ := bcell hx2; have y2 := hx2.size; (try simp at y2); (try have q20 : w.heap.size < w2.heap.size ∧ w.heap.size < w2.heap.size + 1 ∧ ¬ (w2.heap.size = w.heap.size) ∧ ¬ (w.heap.size = w2.heap.size) := (by omega)); (try have q21 : w.heap.size + 1 < w2.heap.size ∧ w.heap.size + 1 < w2.heap.size + 1 ∧ ¬ (w2.heap.size = w.heap.size + 1) ∧ ¬ (w.heap.size + 1 = w2.heap.size) := (by omega)); (try have q22 : w.heap.size + 1 + 1 < w2.heap.size ∧ w.heap.size + 1 + 1 < w2.heap.size + 1 ∧ ¬ (w2.heap.size = w.heap.size + 1 + 1) ∧ ¬ (w.heap.size + 1 + 1 = w2.heap.size) := (by omega)); (try have q23 : w.heap.size + 1 + 1 + 1 < w2.heap.size ∧ w.heap.size + 1 + 1 + 1 < w2.heap.size + 1 ∧ ¬ (w2.heap.size = w.heap.size + 1 + 1 + 1) ∧ ¬ (w.heap.size + 1 + 1 + 1 = w2.heap.size) := (by omega)); (try have q24 : w1.heap.size < w2.heap.size ∧ w1.heap.size < w2.heap.size + 1 ∧ ¬ (w2.heap.size = w1.heap.size) ∧ ¬ (w1.heap.size = w2.heap.size) := (by omega)); (try have q25 : w1.heap.size + 1 < w2.heap.size ∧ w1.heap.size + 1 < w2.heap.size + 1 ∧ ¬ (w2.heap.size = w1.heap.size + 1) ∧ ¬ (w1.heap.size + 1 = w2.heap.size) := (by omega))))
    all_goals (go_wp2_with fail; go_meet)
    all_goals refine ⟨_, _, rfl, rfl, ?_, ?_, ?_, ?_, ?_⟩
    all_goals (try (simp [*, go_sem, set_is, set_blk, set_off]; done))
    all_goals (try (rw [set_blk _ (by omega), set_blk _ (by omega)]; first | (refine pair_0 (u := .int .i64 0) _ _ (keep1 (by assumption) (keepA _ (by simp [go_sem]))); done) | (refine pair_1 (u := .int .i64 0) _ _ (keep1 (by assumption) (keepA _ (by simp [go_sem]))); done)))
    all_goals (try ((first | refine pair_0 (u := .int .i64 0) _ _ ?_ | refine pair_1 (u := .int .i64 0) _ _ ?_); rw [set_blk _ (by omega), set_blk _ (by omega)]; exact keep1 (by assumption) (keepA _ (by simp [go_sem]))))
    all_goals (try (repeat' (first | exact nr _ | apply na | apply Below.drew | apply nd | refine pair_below _ _ (by omega) ?_ | refine nt ?_ (by assumption))))
  case rest =>
    obtain ⟨g, h, rfl, rfl, k0, k1, k2, k3, hbx⟩ := hcut
    have z0 : g < wc.heap.size := World.block_lt_of_cell? _ _ k0
    have z1 : h < wc.heap.size := World.block_lt_of_cell? _ _ k2
    have HB := Lib.hid hbx
    clear hbx
    rcases hq : ((ax - px) * (b_y - py) - (ay - py) * (bx - px) == 0) with _ | _
    · have HR := Lib.hid (hasB_no hq)
      have HQ : ((ax - px) * (b_y - py) - (ay - py) * (bx - px) = 0) = False := by simpa using hq
      clear hq
      go_wp2_with fail
      refine (pcross_any _ _ _ _ _ (by omega) (by omega)).mono ?_; rintro e w3 ⟨rfl, hx3⟩
      go_wp2_with fail
      go_ret
      exact ⟨ret_bool HR.out.symm, nt HB.out hx3⟩
    · have HR := Lib.hid (hasB_yes hq)
      have HQ : ((ax - px) * (b_y - py) - (ay - py) * (bx - px) = 0) = True := by simpa using hq
      clear hq
      go_wp2_with fail
      refine (pcross_any _ _ _ _ _ (by omega) (by omega)).mono ?_; rintro e w3 ⟨rfl, hx3⟩; obtain ⟨hc3, hf3⟩ := bcell hx3
      go_wp2_with fail
      refine (pdot_any _ _ _ _ _ (by omega) (by omega)).mono ?_; rintro e w4 ⟨rfl, hx4⟩
      go_wp2_with fail
      go_ret
      exact ⟨rfl, nt (nt HB.out hx3) hx4⟩
end Go.Proofs.Ytcplfampcbekoaa
namespace Go.Proofs.Ytcplfampcbekoaa
set_option linter.all false
open Go.RowKit
def pHas : List DArg → Option (Value × List Prop)
  | [.v (.agg ⟨[.int .i64 ax, .int .i64 ay, .int .i64 bx, .int .i64 b_y]⟩), .v (.agg ⟨[.int .i64 px, .int .i64 py]⟩)] => some (.bool (hasB ax ay bx b_y px py), [ptB ax ay = true, ptB bx b_y = true, ptB px py = true])
  | _ => none
def pSgS : List DArg → Option (Value × List Prop)
  | [.v (.agg ⟨[.int .i64 a, .int .i64 b, .int .i64 c, .int .i64 d]⟩)] => some (.bool (segB a b c d), [])
  | _ => none
def pTrn : List DArg → Option (Value × List Prop)
  | [.v (.agg ⟨[.int .i64 ax, .int .i64 ay]⟩), .v (.agg ⟨[.int .i64 bx, .int .i64 b_y]⟩), .v (.agg ⟨[.int .i64 cx, .int .i64 cy]⟩)] => some (iv (crossI ax ay bx b_y cx cy), [ptB ax ay = true, ptB bx b_y = true, ptB cx cy = true])
  | _ => none
set_option maxRecDepth 100000 in
theorem tr_sCross (ax ay bx b_y cx cy : Int) : bodyV Try.prog (tabE B0) 30 12 60 [.v (.agg #[iv ax, iv ay]), .v (.agg #[iv bx, iv b_y]), .v (.agg #[iv cx, iv cy])] = .fin (.int .i64 (IntKind.i64.wrap (IntKind.i64.wrap (IntKind.i64.wrap (bx - ax) * IntKind.i64.wrap (cy - ay)) - IntKind.i64.wrap (IntKind.i64.wrap (b_y - ay) * IntKind.i64.wrap (cx - ax))))) [] := by kernel_rfl
set_option maxRecDepth 100000 in
theorem tr_iTurn (ax ay bx b_y cx cy : Int) : bodyV Try.prog (tabE B0) 30 12 27 [.v (.agg #[iv ax, iv ay]), .v (.agg #[iv bx, iv b_y]), .v (.agg #[iv cx, iv cy])] = .fin (.int .i64 (IntKind.i64.wrap (IntKind.i64.wrap (IntKind.i64.wrap (bx - ax) * IntKind.i64.wrap (cy - ay)) - IntKind.i64.wrap (IntKind.i64.wrap (b_y - ay) * IntKind.i64.wrap (cx - ax))))) [] := by kernel_rfl
theorem crs_bd {ax ay bx b_y cx cy : Int} (h1 : ptB ax ay = true) (h2 : ptB bx b_y = true) (h3 : ptB cx cy = true) : (-(2000 * 2000) ≤ (bx - ax) * (cy - ay) ∧ (bx - ax) * (cy - ay) ≤ 2000 * 2000) ∧ (-(2000 * 2000) ≤ (b_y - ay) * (cx - ax) ∧ (b_y - ay) * (cx - ax) ≤ 2000 * 2000) := by
  have a1 := ptB_true h1
  have a2 := ptB_true h2
  have a3 := ptB_true h3
  exact ⟨mul_bd 2000 2000 (by omega) (by omega), mul_bd 2000 2000 (by omega) (by omega)⟩
theorem res_sCross {ax ay bx b_y cx cy : Int} (h1 : ptB ax ay = true) (h2 : ptB bx b_y = true) (h3 : ptB cx cy = true) : Res Try.prog 60 [.v (.agg #[iv ax, iv ay]), .v (.agg #[iv bx, iv b_y]), .v (.agg #[iv cx, iv cy])] (iv (crossI ax ay bx b_y cx cy)) := by
  refine bodyV_res mixed (tabE_ok B0_ok) (m := 30) (n := 12) rfl ?_
  rw [tr_sCross]
  have a1 := ptB_true h1
  have a2 := ptB_true h2
  have a3 := ptB_true h3
  obtain ⟨b1, b2⟩ := crs_bd h1 h2 h3
  simp (disch := omega) only [wr]
  rfl
theorem res_iTurn {ax ay bx b_y cx cy : Int} (h1 : ptB ax ay = true) (h2 : ptB bx b_y = true) (h3 : ptB cx cy = true) : Res Try.prog 27 [.v (.agg #[iv ax, iv ay]), .v (.agg #[iv bx, iv b_y]), .v (.agg #[iv cx, iv cy])] (iv (crossI ax ay bx b_y cx cy)) := by
  refine bodyV_res mixed (tabE_ok B0_ok) (m := 30) (n := 12) rfl ?_
  rw [tr_iTurn]
  have a1 := ptB_true h1
  have a2 := ptB_true h2
  have a3 := ptB_true h3
  obtain ⟨b1, b2⟩ := crs_bd h1 h2 h3
  simp (disch := omega) only [wr]
  rfl
set_option maxRecDepth 100000 in
theorem tr_iVsg (a b c d : Int) : bodyV Try.prog (tabE T1) 30 12 62 [.v (.agg #[iv a, iv b, iv c, iv d])] = brT (ptB a b && ptB c d) (.fin (.bool (negB true (a == c && (b == d && true)))) []) (.fin (.bool (false)) []) := by kernel_rfl
theorem res_iVsg (a b c d : Int) : Res Try.prog 62 [.v (.agg #[iv a, iv b, iv c, iv d])] (.bool (segB a b c d)) := by
  refine bodyV_res mixed (tabE_ok T1_ok) (m := 30) (n := 12) rfl ?_
  rw [tr_iVsg]
  unfold segB eqB negB
  cases ptB a b <;> cases ptB c d <;> simp [brT, Tree.ok]
def TRl : Tab := fun f ds => match f with
  | 76 => pHas ds
  | 62 => pSgS ds
  | 60 => pTrn ds
  | 27 => pTrn ds
  | _ => T1 f ds
theorem pHas_i {ds : List DArg} {v : Value} {C : List Prop} (h : pHas ds = some (v, C)) (hC : AllP C) : Res Try.prog 76 ds v := by
  unfold pHas at h
  split at h
  · obtain ⟨rfl, rfl⟩ : _ ∧ _ := by simpa using h
    exact res_calls (by kernel_rfl) rfl rfl fun w => has_any _ _ _ _ _ _ w hC.1 hC.2.1 hC.2.2.1
  · cases h
theorem pSgS_i {ds : List DArg} {v : Value} {C : List Prop} (h : pSgS ds = some (v, C)) : Res Try.prog 62 ds v := by
  unfold pSgS at h
  split at h
  · obtain ⟨rfl, rfl⟩ : _ ∧ _ := by simpa using h
    exact res_iVsg _ _ _ _
  · cases h
theorem pTrn_s {ds : List DArg} {v : Value} {C : List Prop} (h : pTrn ds = some (v, C)) (hC : AllP C) : Res Try.prog 60 ds v := by
  unfold pTrn at h
  split at h
  · obtain ⟨rfl, rfl⟩ : _ ∧ _ := by simpa using h
    exact res_sCross hC.1 hC.2.1 hC.2.2.1
  · cases h
theorem pTrn_i {ds : List DArg} {v : Value} {C : List Prop} (h : pTrn ds = some (v, C)) (hC : AllP C) : Res Try.prog 27 ds v := by
  unfold pTrn at h
  split at h
  · obtain ⟨rfl, rfl⟩ : _ ∧ _ := by simpa using h
    exact res_iTurn hC.1 hC.2.1 hC.2.2.1
  · cases h
theorem TRl_ok : TabOk Try.prog TRl := by
  intro f ds v C h hC
  unfold TRl at h
  (try split at h)
  all_goals first | with_reducible exact pHas_i h hC | with_reducible exact pHas_s h hC | with_reducible exact pSgS_i h | with_reducible exact pSgS_s h | with_reducible exact pTrn_s h hC | with_reducible exact pTrn_i h hC | exact T1_ok _ _ _ _ h hC
end Go.Proofs.Ytcplfampcbekoaa
namespace Go.Proofs.Ytcplfampcbekoaa
set_option linter.all false
def pltB (a b : Pt) : Bool := decide (a.1 < b.1 ∨ a.1 = b.1 ∧ a.2 < b.2)
theorem pltB_iff {a b : Pt} : pltB a b = true ↔ a.1 < b.1 ∨ a.1 = b.1 ∧ a.2 < b.2 := by simp [pltB]
end Go.Proofs.Ytcplfampcbekoaa
namespace Go.Proofs.Ytcplfampcbekoaa
set_option linter.all false
open Go.RowKit
theorem loop_det2 {P : Program} {c : Code} {N M : Nat} {X : Type} (St_of : X → St) (Inv : X → Prop) (μ : X → Nat) (re : X → Ex) (rs : X → St) (keep : Ex → List Nat) (hM : ∀ x, (St_of x).mem.length ≤ M)
    (h : ∀ x, Inv x → ∃ e' s', Det P c (St_of x) e' s' ∧ match e' with
      | .normal => ∃ x' π, Inv x' ∧ μ x' < μ x ∧ re x' = re x ∧ rs x' = rs x ∧ WS N π (cutS M (keep .normal) s') (St_of x')
      | e => e = re x ∧ ∃ π, WS N π (cutS M (keep e) s') (rs x))
    {x : X} (hx : Inv x) {s : St} {π : List (Option Nat)} (hN : s.mem.length = N) (hs : WS N π s (St_of x)) : Det P (.loop c) s (re x) (rs x) := by
  intro w0 a w hc
  have hρ := con_dom hc
  rw [hN] at hρ
  have hρ' : ∀ {x' π' s'}, WS N π' s' (St_of x') → ∀ n, (St_of x').mem.length ≤ n → w0.ρ0 n = none := fun h n hn => hρ n (Nat.le_trans (Nat.le_of_ble_eq_true h.1) hn)
  refine wpIn_loop_ghost (fun n a w => ∃ x', Inv x' ∧ μ x' = n ∧ re x' = re x ∧ rs x' = rs x ∧ (∀ n, (St_of x').mem.length ≤ n → w0.ρ0 n = none) ∧ Con w0 (St_of x').fs a w) (μ x) ⟨x, hx, rfl, rfl, rfl, hρ' hs, weak_con hs hρ hc⟩ ?_
  rintro n a w ⟨x', hI, rfl, hre, hrs, hdom, hcc⟩
  obtain ⟨e', s', hd, hend⟩ := h x' hI
  have hdom2 : ∀ n, M ≤ n → w0.ρ0 n = none := fun n hn => hdom n (Nat.le_trans (hM x') hn)
  refine wpIn_mono (hd w0 a w hcc) ?_
  rintro e a' w' ⟨rfl, hcc'⟩
  cases e' with
  | normal =>
    obtain ⟨x2, π2, g1, g2, g3, g4, g5⟩ := hend
    exact ⟨_, g2, x2, g1, rfl, g3.trans hre, g4.trans hrs, hρ' g5, weak_con g5 hρ (cut_con hdom2 hcc')⟩
  | exit id =>
    obtain ⟨g1, π2, g2⟩ := hend
    exact ⟨by rw [← hre, ← g1], by rw [← hrs]; exact weak_con g2 hρ (cut_con hdom2 hcc')⟩
  | ret =>
    obtain ⟨g1, π2, g2⟩ := hend
    exact ⟨by rw [← hre, ← g1], by rw [← hrs]; exact weak_con g2 hρ (cut_con hdom2 hcc')⟩
theorem loop_run2 {P : Program} (hm : P.follows .mixedOrders = true) {E : Env} (hE : EnvOk P E) {m n : Nat} {lt : LT} {j : Nat} {c : Code} {N : Nat} {X : Type} (St_of : X → St) (Inv : X → Prop) (μ : X → Nat) (re : X → Ex) (rs : X → St) (keep : Ex → List Nat) {M : Nat} (hM : ∀ x, Nat.ble (St_of x).mem.length M = true) (hL : LoopsGood P lt j c)
    (h : ∀ x, Inv x → (bodyL P E m n lt j c keep M (St_of x)).ok (RoundEnd N St_of Inv μ re rs x) (fun _ _ => False))
    {x : X} (hx : Inv x) {s : St} {π : List (Option Nat)} (hN : s.mem.length = N) (hs : WS N π s (St_of x)) : Det P (.loop c) s (re x) (rs x) :=
  loop_det2 (M := M) St_of Inv μ re rs keep (fun x => Nat.le_of_ble_eq_true (hM x)) (fun x hx => by
    obtain ⟨e', s', h1, h2⟩ := body_det hm hE hL (h x hx)
    refine ⟨e', s', h1, ?_⟩
    unfold RoundEnd at h2
    cases e' <;> exact h2) hx hN hs
end Go.Proofs.Ytcplfampcbekoaa
namespace Go.Proofs.Ytcplfampcbekoaa
set_option linter.all false
open Go.RowKit
/-- The place of a point among others in order. -/
def kP (p : Pt) : List Pt → Nat
  | [] => 0
  | q :: r => if pltB q p then kP p r + 1 else 0
/-- A point put in its place, unless it is there. -/
def insP (p : Pt) : List Pt → List Pt
  | [] => [p]
  | q :: r => if pltB q p then q :: insP p r else if q = p then q :: r else p :: q :: r
theorem kP_le (p : Pt) : ∀ ps : List Pt, kP p ps ≤ ps.length
  | [] => Nat.le_refl _
  | q :: r => by
    have := kP_le p r
    simp only [kP, List.length_cons]
    split <;> omega
theorem insP_is (p : Pt) : ∀ ps : List Pt, insP p ps = if kP p ps < ps.length ∧ ps.getD (kP p ps) (0, 0) = p then ps else ps.take (kP p ps) ++ (p :: ps.drop (kP p ps))
  | [] => by simp [insP, kP]
  | q :: r => by
    have ih := insP_is p r
    simp only [insP, kP]
    split
    · rw [ih]
      simp only [List.length_cons, Nat.add_lt_add_iff_right, List.getD_cons_succ, List.take_succ_cons, List.drop_succ_cons, List.cons_append]
      split <;> rfl
    · simp
theorem insP_mem (p : Pt) : ∀ (ps : List Pt) (z : Pt), z ∈ insP p ps ↔ z ∈ ps ∨ z = p
  | [], z => by simp [insP]
  | q :: r, z => by
    have ih := insP_mem p r z
    simp only [insP]
    split
    · simp only [List.mem_cons, ih]
      constructor
      · rintro (h | h | h) <;> simp [h]
      · rintro ((h | h) | h) <;> simp [h]
    · split
      · rename_i h1 h2
        subst h2
        simp only [List.mem_cons]
        constructor
        · intro h; exact .inl h
        · rintro (h | h)
          · exact h
          · exact .inl h
      · simp only [List.mem_cons]
        constructor
        · rintro (h | h | h) <;> simp [h]
        · rintro ((h | h) | h) <;> simp [h]
theorem plt_trans {a b c : Pt} (h1 : pltB a b = true) (h2 : pltB b c = true) : pltB a c = true := by
  rw [pltB_iff] at *
  omega
theorem plt_irr {a : Pt} : pltB a a = false := by
  rw [← Bool.not_eq_true, pltB_iff]
  omega
theorem plt_tri {a b : Pt} (h : pltB a b = false) (hne : a ≠ b) : pltB b a = true := by
  rw [← Bool.not_eq_true, pltB_iff] at h
  rw [pltB_iff]
  have : ¬ (a.1 = b.1 ∧ a.2 = b.2) := fun ⟨h1, h2⟩ => hne (Prod.ext h1 h2)
  omega
/-- Ascending, each once. -/
def Asc (ps : List Pt) : Prop := ps.Pairwise fun a b => pltB a b = true
theorem insP_asc (p : Pt) : ∀ {ps : List Pt}, Asc ps → Asc (insP p ps)
  | [], _ => by simp [insP, Asc]
  | q :: r, h => by
    have h' := List.pairwise_cons.1 h
    have ih := insP_asc p h'.2
    simp only [insP]
    split
    · rename_i hq
      refine List.pairwise_cons.2 ⟨fun z hz => ?_, ih⟩
      rcases (insP_mem p r z).1 hz with hz | rfl
      · exact h'.1 z hz
      · exact hq
    · rename_i hq
      split
      · exact h
      · rename_i hne
        have hpq : pltB p q = true := plt_tri (by simpa using hq) hne
        refine List.pairwise_cons.2 ⟨fun z hz => ?_, h⟩
        rcases List.mem_cons.1 hz with rfl | hz
        · exact hpq
        · exact plt_trans hpq (h'.1 z hz)
theorem insP_len (p : Pt) : ∀ {ps : List Pt}, Asc ps → (insP p ps).length = if p ∈ ps then ps.length else ps.length + 1
  | [], _ => by simp [insP]
  | q :: r, h => by
    have h' := List.pairwise_cons.1 h
    have ih := insP_len p h'.2
    simp only [insP]
    split
    · rename_i hq
      have hne : p ≠ q := fun e => by rw [e, plt_irr] at hq; cases hq
      simp only [List.length_cons, ih, List.mem_cons, hne, false_or]
      split <;> rfl
    · split
      · rename_i hq
        simp [hq]
      · rename_i hq hne
        have hpq : pltB p q = true := plt_tri (by simpa using hq) hne
        have hn : p ∉ q :: r := fun hm => by
          rcases List.mem_cons.1 hm with rfl | hm
          · rw [plt_irr] at hpq; cases hpq
          · have := plt_trans hpq (h'.1 p hm)
            rw [plt_irr] at this; cases this
        rw [if_neg hn]
        rfl
theorem asc_ext : ∀ {a b : List Pt}, Asc a → Asc b → (∀ z, z ∈ a ↔ z ∈ b) → a = b
  | [], [], _, _, _ => rfl
  | [], y :: b, _, _, h => by simpa using h y
  | x :: a, [], _, _, h => by simpa using h x
  | x :: a, y :: b, ha, hb, h => by
    have ha' := List.pairwise_cons.1 ha
    have hb' := List.pairwise_cons.1 hb
    have hxy : x = y := by
      rcases List.mem_cons.1 ((h x).1 List.mem_cons_self) with e | hx
      · exact e
      rcases List.mem_cons.1 ((h y).2 List.mem_cons_self) with e | hy
      · exact e.symm
      have := plt_trans (hb'.1 x hx) (ha'.1 y hy)
      rw [plt_irr] at this
      cases this
    subst hxy
    have nx : ∀ {l : List Pt}, Asc (x :: l) → x ∉ l := fun hl hm => by
      have := (List.pairwise_cons.1 hl).1 x hm
      rw [plt_irr] at this
      cases this
    rw [asc_ext ha'.2 hb'.2 fun z => ?_]
    constructor
    · intro hz
      rcases List.mem_cons.1 ((h z).1 (List.mem_cons_of_mem _ hz)) with rfl | hz'
      · exact absurd hz (nx ha)
      · exact hz'
    · intro hz
      rcases List.mem_cons.1 ((h z).2 (List.mem_cons_of_mem _ hz)) with rfl | hz'
      · exact absurd hz (nx hb)
      · exact hz'
/-- Points in order, each once, added to others. -/
def srtO (o : List Pt) (ps : List Pt) : List Pt := ps.foldl (fun o p => insP p o) o
def srtL (ps : List Pt) : List Pt := srtO [] ps
theorem srtO_asc : ∀ (ps : List Pt) {o : List Pt}, Asc o → Asc (srtO o ps)
  | [], _, h => h
  | p :: r, _, h => srtO_asc r (insP_asc p h)
theorem srtO_mem : ∀ (ps : List Pt) (o : List Pt) (z : Pt), z ∈ srtO o ps ↔ z ∈ o ∨ z ∈ ps
  | [], o, z => by simp [srtO]
  | p :: r, o, z => by
    have := srtO_mem r (insP p o) z
    simp only [srtO, List.foldl_cons] at this ⊢
    rw [this, insP_mem, List.mem_cons]
    constructor
    · rintro ((h | h) | h) <;> simp [h]
    · rintro (h | h | h) <;> simp [h]
theorem srtL_asc (ps : List Pt) : Asc (srtL ps) := srtO_asc ps List.Pairwise.nil
theorem srtL_mem (ps : List Pt) (z : Pt) : z ∈ srtL ps ↔ z ∈ ps := by
  unfold srtL
  rw [srtO_mem]
  simp
theorem insP_le (p : Pt) : ∀ (ps : List Pt), (insP p ps).length ≤ ps.length + 1
  | [] => by simp [insP]
  | q :: r => by
    have := insP_le p r
    simp only [insP]
    split
    · simp; omega
    · split <;> simp
theorem srtO_le : ∀ (ps o : List Pt), (srtO o ps).length ≤ o.length + ps.length
  | [], o => by simp [srtO]
  | p :: r, o => by
    have h1 := srtO_le r (insP p o)
    have h2 := insP_le p o
    simp only [srtO, List.foldl_cons, List.length_cons] at h1 ⊢
    omega
def pPls : List DArg → Option (Value × List Prop)
  | [.v (.agg ⟨[.int .i64 x, .int .i64 y]⟩), .v (.agg ⟨[.int .i64 z, .int .i64 w]⟩)] => some (.bool (pltB (x, y) (z, w)), [])
  | _ => none
set_option maxRecDepth 100000 in
theorem tr_sPls (x y z w : Int) : bodyV Try.prog (tabE B0) 30 12 75 [.v (.agg #[iv x, iv y]), .v (.agg #[iv z, iv w])] = brT (decide (x < z)) (.fin (.bool (true)) []) (brT (x == z) (.fin (.bool (decide (y < w))) []) (.fin (.bool (false)) [])) := by kernel_rfl
theorem res_sPls (x y z w : Int) : Res Try.prog 75 [.v (.agg #[iv x, iv y]), .v (.agg #[iv z, iv w])] (.bool (pltB (x, y) (z, w))) := by
  refine bodyV_res mixed (tabE_ok B0_ok) (m := 30) (n := 12) rfl ?_
  rw [tr_sPls]
  simp only [brT_ok, Tree.ok, decide_eq_true_eq, decide_eq_false_iff_not, beq_iff_eq, beq_eq_false_iff_ne]
  refine ⟨fun h => ?_, fun h => ⟨fun h2 => ?_, fun h2 => ?_⟩⟩
  all_goals
    congr 1
    rw [Bool.eq_iff_iff, pltB_iff]
    simp only [decide_eq_true_eq, true_iff, iff_false, Bool.false_eq_true, false_iff]
    omega
theorem pPls_ok {ds : List DArg} {v : Value} {C : List Prop} (h : pPls ds = some (v, C)) : Res Try.prog 75 ds v := by
  unfold pPls at h
  split at h
  · obtain ⟨rfl, rfl⟩ : _ ∧ _ := by simpa using h
    exact res_sPls _ _ _ _
  · cases h
def TOl : Tab := fun f ds => match f with
  | 75 => pPls ds
  | f => TRl f ds
theorem TOl_ok : TabOk Try.prog TOl := by
  intro f ds v C h hC
  unfold TOl at h
  (try split at h)
  all_goals first | with_reducible exact pPls_ok h | exact TRl_ok _ _ _ _ h hC
def EOl : Env := tabE TOl
theorem EOl_ok : EnvOk Try.prog EOl := tabE_ok TOl_ok
noncomputable def c_adp : Code := ((loopsOf (codeOf Try.f59))[0]?).getD .skip
def k_adp : Ex → List Nat := keeps [0, 3, 5] [(0, [0, 3, 5])] [4]
def s_adp (ps : List Pt) (p : Pt) : Nat → St := fun i => ⟨(.slice (some ⟨0, 0, none⟩) ps.length ps.length :: topV :: topV :: .pointer (some ⟨1, 0, none⟩) :: topV :: .int .i64 i :: topV :: topV :: topV :: topV :: topV :: topV :: topV :: topV :: topV :: topV :: topV :: topV :: topV :: topV :: topV :: topV :: topV :: topV :: topV :: topV :: topV :: topV :: topV :: topV :: topV :: topV :: topV :: topV :: topV :: topV :: topV :: topV :: topV :: topV :: topV :: topV :: topV :: topV :: topV :: topV :: topV :: topV :: []), [some ⟨.row 29 2, .ints (flat ps)⟩, some ⟨.box, .vals [.int .i64 p.1, .int .i64 p.2]⟩]⟩
def re_adp : Nat → Ex := fun _ => .exit 0
def rs_adp (ps : List Pt) (p : Pt) : Nat → St := fun i => ⟨(.slice (some ⟨0, 0, none⟩) ps.length ps.length :: topV :: topV :: .pointer (some ⟨1, 0, none⟩) :: topV :: .int .i64 ((i + kP p (ps.drop i) : Nat) : Int) :: topV :: topV :: topV :: topV :: topV :: topV :: topV :: topV :: topV :: topV :: topV :: topV :: topV :: topV :: topV :: topV :: topV :: topV :: topV :: topV :: topV :: topV :: topV :: topV :: topV :: topV :: topV :: topV :: topV :: topV :: topV :: topV :: topV :: topV :: topV :: topV :: topV :: topV :: topV :: topV :: topV :: topV :: []), [some ⟨.row 29 2, .ints (flat ps)⟩, some ⟨.box, .vals [.int .i64 p.1, .int .i64 p.2]⟩]⟩
set_option maxRecDepth 100000 in
theorem tr_adp (ps : List Pt) (p : Pt) (i : Nat) : bodyL Try.prog EOl 30 12 noL 1 c_adp k_adp 2 (s_adp ps p i) = brT (decide ((↑i : Int) < (↑ps.length : Int))) (.need ((0 : Int) ≤ (↑i : Int) ∧ (↑i : Int) < (↑ps.length : Int)) (.need ((0 : Nat) + (↑i : Int).toNat * (2 : Nat) + (2 : Nat) ≤ (flat ps).length) (brT (pltB ((flat ps).getD (0 + (↑i : Int).toNat * (2 : Nat)) 0, (flat ps).getD (0 + (↑i : Int).toNat * (2 : Nat) + 1) 0) (p.fst, p.snd)) (.leaf .normal ⟨(.slice (some ⟨0, 0, none⟩) (ps.length) (ps.length) :: topV :: topV :: .pointer (some ⟨1, 0, none⟩) :: topV :: .int .i64 (IntKind.i64.wrap ((↑i : Int) + 1)) :: topV :: topV :: topV :: topV :: topV :: topV :: topV :: topV :: topV :: topV :: topV :: topV :: topV :: topV :: topV :: topV :: topV :: topV :: topV :: topV :: topV :: topV :: topV :: topV :: topV :: topV :: topV :: topV :: topV :: topV :: topV :: topV :: topV :: topV :: topV :: topV :: topV :: topV :: topV :: topV :: topV :: topV :: []), [some ⟨.row 29 2, .ints (flat ps)⟩, some ⟨.box, .vals [.int .i64 (p.1), .int .i64 (p.2)]⟩]⟩) (.leaf (.exit 0) ⟨(.slice (some ⟨0, 0, none⟩) (ps.length) (ps.length) :: topV :: topV :: .pointer (some ⟨1, 0, none⟩) :: topV :: .int .i64 ((↑i : Int)) :: topV :: topV :: topV :: topV :: topV :: topV :: topV :: topV :: topV :: topV :: topV :: topV :: topV :: topV :: topV :: topV :: topV :: topV :: topV :: topV :: topV :: topV :: topV :: topV :: topV :: topV :: topV :: topV :: topV :: topV :: topV :: topV :: topV :: topV :: topV :: topV :: topV :: topV :: topV :: topV :: topV :: topV :: []), [some ⟨.row 29 2, .ints (flat ps)⟩, some ⟨.box, .vals [.int .i64 (p.1), .int .i64 (p.2)]⟩]⟩)))) (.leaf (.exit 0) ⟨(.slice (some ⟨0, 0, none⟩) (ps.length) (ps.length) :: topV :: topV :: .pointer (some ⟨1, 0, none⟩) :: topV :: .int .i64 ((↑i : Int)) :: topV :: topV :: topV :: topV :: topV :: topV :: topV :: topV :: topV :: topV :: topV :: topV :: topV :: topV :: topV :: topV :: topV :: topV :: topV :: topV :: topV :: topV :: topV :: topV :: topV :: topV :: topV :: topV :: topV :: topV :: topV :: topV :: topV :: topV :: topV :: topV :: topV :: topV :: topV :: topV :: topV :: topV :: []), [some ⟨.row 29 2, .ints (flat ps)⟩, some ⟨.box, .vals [.int .i64 (p.1), .int .i64 (p.2)]⟩]⟩) := by kernel_rfl
set_option maxRecDepth 100000 in
theorem nl_adp : loopsOf c_adp = [] := by kernel_rfl
def inv_adp (ps : List Pt) (p : Pt) : Nat → Prop := fun i => i ≤ ps.length
def me_adp (ps : List Pt) (p : Pt) : Nat → Nat := fun i => ps.length - i
/-- A round of this loop. -/
def Round_adp (ps : List Pt) (p : Pt) : Prop := ∀ xx : Nat, inv_adp ps p xx → (bodyL Try.prog EOl 30 12 noL 1 c_adp k_adp 2 (s_adp ps p xx)).ok (RoundEnd 2 (s_adp ps p) (inv_adp ps p) (me_adp ps p) re_adp (rs_adp ps p) xx) (fun _ _ => False)
def e_adp (s : St) (k : Ex → St → Tree) : Option Tree := match Nat.beq s.tmps.length 48, pickL s.tmps [0, 3, 5], s.mem with
  | true, [.slice (some ⟨0, 0, none⟩) n _, .pointer (some ⟨1, 0, none⟩), .int .i64 i], [some ⟨.row 29 2, .ints xs⟩, some ⟨.box, .vals [.int .i64 x, .int .i64 y]⟩] => some (needs [i = 0, xs.length = n * 2, n ≤ 1000000000] (k (.exit 0) ⟨(.slice (some ⟨0, 0, none⟩) n n :: topV :: topV :: .pointer (some ⟨1, 0, none⟩) :: topV :: .int .i64 ((0 + kP (x, y) ((ptsA n xs).drop 0) : Nat) : Int) :: topV :: topV :: topV :: topV :: topV :: topV :: topV :: topV :: topV :: topV :: topV :: topV :: topV :: topV :: topV :: topV :: topV :: topV :: topV :: topV :: topV :: topV :: topV :: topV :: topV :: topV :: topV :: topV :: topV :: topV :: topV :: topV :: topV :: topV :: topV :: topV :: topV :: topV :: topV :: topV :: topV :: topV :: []), [some ⟨.row 29 2, .ints xs⟩, some ⟨.box, .vals [.int .i64 x, .int .i64 y]⟩]⟩))
  | _, _, _ => none
theorem kP_no {p q : Pt} {r : List Pt} (h : pltB q p = false) : kP p (q :: r) = 0 := by simp [kP, h]
theorem kP_yes {p q : Pt} {r : List Pt} (h : pltB q p = true) : kP p (q :: r) = kP p r + 1 := by simp [kP, h]
set_option maxRecDepth 100000 in
theorem round_adp (ps : List Pt) (p : Pt) (h : ps.length ≤ 1000000000) : Round_adp ps p := by
  intro i h1
  have h1 : i ≤ ps.length := h1
  rw [tr_adp]
  simp only [brT_ok, Tree.ok, decide_eq_true_eq, decide_eq_false_iff_not, Int.toNat_natCast, Nat.zero_add, flat_length, flat_get0, flat_get1]
  refine ⟨fun hlt => ⟨by omega, by omega, fun g => ?_, fun g => ?_⟩, fun hge => ?_⟩
  · have hd : ps.drop i = ps.getD i (0, 0) :: ps.drop (i + 1) := drop_cons (by omega) _
    have g : pltB (ps.getD i (0, 0)) p = true := g
    have e : i + kP p (ps.drop i) = (i + 1) + kP p (ps.drop (i + 1)) := by rw [hd, kP_yes g]; omega
    rw [wsucc (n := ps.length) (by omega) h]
    refine ⟨i + 1, [], ?_, ?_, rfl, by simp only [rs_adp, e], ?_⟩
    · show i + 1 ≤ ps.length; omega
    · show ps.length - (i + 1) < ps.length - i; omega
    · repeat' (first | exact True.intro | exact rfl | exact fun _ => rfl | (simp; done) | refine And.intro ?_ ?_)
  · have hd : ps.drop i = ps.getD i (0, 0) :: ps.drop (i + 1) := drop_cons (by omega) _
    have g : pltB (ps.getD i (0, 0)) p = false := g
    have e : i + kP p (ps.drop i) = i := by rw [hd, kP_no g]; rfl
    refine ⟨rfl, [], ?_⟩
    simp only [rs_adp, e]
    repeat' (first | exact True.intro | exact rfl | exact fun _ => rfl | (simp; done) | refine And.intro ?_ ?_)
  · have e : i + kP p (ps.drop i) = i := by rw [List.drop_of_length_le (by omega)]; rfl
    refine ⟨rfl, [], ?_⟩
    simp only [rs_adp, e]
    repeat' (first | exact True.intro | exact rfl | exact fun _ => rfl | (simp; done) | refine And.intro ?_ ?_)
set_option maxRecDepth 100000 in
theorem lg_adp : LoopE Try.prog e_adp c_adp := by
  intro s k t F H hlt ht
  unfold e_adp at hlt
  split at hlt
  rotate_left
  · cases hlt
  rename_i hlen hpick hmem
  obtain ⟨tmps, mem⟩ := s
  simp only at hlen hpick hmem
  subst hmem
  obtain rfl := Option.some.inj hlt
  obtain ⟨⟨rfl, h1, h2, _⟩, ht2⟩ := needs_ok ht
  clear ht hlt
  obtain ⟨ps, rfl, rfl⟩ := even_flat h1
  rw [ptsA_flat] at ht2
  refine ⟨_, _, ht2, loop_run mixed EOl_ok (s_adp ps (_, _)) (inv_adp ps (_, _)) (me_adp ps (_, _)) re_adp (rs_adp ps (_, _)) k_adp (fun _ => rfl) (noLoops nl_adp) (round_adp ps (_, _) h2) (x := 0) (Nat.zero_le _) (π := []) rfl ?_⟩
  refine ⟨rfl, rfl, ?_, wvs_spread' [0, 3, 5] hlen rfl ?_⟩
  · repeat' (first | exact True.intro | exact rfl | exact wv_top _ _ | exact fun _ => rfl | assumption | exact Eq.symm (by assumption) | exact vI0 rfl | refine And.intro ?_ ?_)
  · rw [hpick]
    repeat' (first | exact True.intro | exact rfl | exact wv_top _ _ | exact fun _ => rfl | assumption | exact Eq.symm (by assumption) | exact vI0 rfl | refine And.intro ?_ ?_)
theorem Lr_adp {fn : Func} (hf : Try.prog.funcs[59]? = some fn) : LoopsGood Try.prog (lt1 e_adp) 0 (codeOf fn) := by
  obtain rfl := fn_is Try.func59 hf
  exact lt1_good lg_adp
def LAd : FuncId → LT := fun f => match f with
  | 59 => lt1 e_adp
  | _ => noL
def EAd : Env := mkE TOl (fun _ _ => none) LAd
theorem EAd_ok : EnvOk Try.prog EAd := mkEOk TOl_ok (fun _ _ _ _ _ h => (by cases h)) (by
  intro f fn hf
  unfold LAd
  split
  all_goals first | with_reducible exact Lr_adp hf | exact noL_good)
set_option maxRecDepth 100000 in
theorem tr_adpF (ps : List Pt) (x y : Int) : bodyM Try.prog EAd (runM Try.prog EAd 30 12) 30 59 [.slice (some ⟨0, 0, none⟩) ps.length ps.length, .agg #[.int .i64 x, .int .i64 y]] [some ⟨.row 29 2, .ints (flat ps)⟩] .fin = .need ((0 : Int) = (0 : Int)) (.need ((flat ps).length = ps.length * (2 : Nat)) (.need (ps.length ≤ (1000000000 : Nat)) (brT (decide ((↑(0 + kP (x, y) (List.drop 0 (ptsA ps.length (flat ps)))) : Int) < (↑ps.length : Int))) (.need ((0 : Int) ≤ (↑((0 : Nat) + kP (x, y) (List.drop (0 : Nat) (ptsA ps.length (flat ps)))) : Int) ∧ (↑((0 : Nat) + kP (x, y) (List.drop (0 : Nat) (ptsA ps.length (flat ps)))) : Int) < (↑ps.length : Int)) (.need ((0 : Nat) + (↑((0 : Nat) + kP (x, y) (List.drop (0 : Nat) (ptsA ps.length (flat ps)))) : Int).toNat * (2 : Nat) + (2 : Nat) ≤ (flat ps).length) (brT (negB false ((flat ps).getD (0 + (↑(0 + kP (x, y) (List.drop 0 (ptsA ps.length (flat ps)))) : Int).toNat * 2) 0 == x && ((flat ps).getD (0 + (↑(0 + kP (x, y) (List.drop 0 (ptsA ps.length (flat ps)))) : Int).toNat * 2 + 1) 0 == y && true))) (.fin (.slice (some ⟨0, 0, none⟩) (ps.length) (ps.length)) [some ⟨.row 29 2, .ints (flat ps)⟩, some ⟨.box, .vals [.int .i64 (x), .int .i64 (y)]⟩]) (.need ((0 : Int) ≤ bndI none (0 : Int) ∧ bndI none (0 : Int) ≤ bndI (some (IntKind.i64, (↑((0 : Nat) + kP (x, y) (List.drop (0 : Nat) (ptsA ps.length (flat ps)))) : Int))) (↑ps.length : Int) ∧ bndI (some (IntKind.i64, (↑((0 : Nat) + kP (x, y) (List.drop (0 : Nat) (ptsA ps.length (flat ps)))) : Int))) (↑ps.length : Int) ≤ (↑ps.length : Int)) (.need (((0 : Nat) + ((bndI (some (IntKind.i64, (↑((0 : Nat) + kP (x, y) (List.drop (0 : Nat) (ptsA ps.length (flat ps)))) : Int))) (↑ps.length : Int)).toNat - (bndI none (0 : Int)).toNat, Cs.ints (List.take (((bndI (some (IntKind.i64, (↑((0 : Nat) + kP (x, y) (List.drop (0 : Nat) (ptsA ps.length (flat ps)))) : Int))) (↑ps.length : Int)).toNat - (bndI none (0 : Int)).toNat) * Try.prog.types[(29 : Nat)].size) (List.drop ((0 : Nat) + (bndI none (0 : Int)).toNat * Try.prog.types[(29 : Nat)].size) (flat ps))), [(0 : Nat) + (bndI none (0 : Int)).toNat * Try.prog.types[(29 : Nat)].size + ((bndI (some (IntKind.i64, (↑((0 : Nat) + kP (x, y) (List.drop (0 : Nat) (ptsA ps.length (flat ps)))) : Int))) (↑ps.length : Int)).toNat - (bndI none (0 : Int)).toNat) * Try.prog.types[(29 : Nat)].size ≤ (flat ps).length]).fst) * (16 : Nat) ≤ (140737488355328 : Nat) ∧ (0 : Nat) + ((bndI (some (IntKind.i64, (↑((0 : Nat) + kP (x, y) (List.drop (0 : Nat) (ptsA ps.length (flat ps)))) : Int))) (↑ps.length : Int)).toNat - (bndI none (0 : Int)).toNat, Cs.ints (List.take (((bndI (some (IntKind.i64, (↑((0 : Nat) + kP (x, y) (List.drop (0 : Nat) (ptsA ps.length (flat ps)))) : Int))) (↑ps.length : Int)).toNat - (bndI none (0 : Int)).toNat) * Try.prog.types[(29 : Nat)].size) (List.drop ((0 : Nat) + (bndI none (0 : Int)).toNat * Try.prog.types[(29 : Nat)].size) (flat ps))), [(0 : Nat) + (bndI none (0 : Int)).toNat * Try.prog.types[(29 : Nat)].size + ((bndI (some (IntKind.i64, (↑((0 : Nat) + kP (x, y) (List.drop (0 : Nat) (ptsA ps.length (flat ps)))) : Int))) (↑ps.length : Int)).toNat - (bndI none (0 : Int)).toNat) * Try.prog.types[(29 : Nat)].size ≤ (flat ps).length]).fst ≤ (1000000 : Nat)) (.need ((0 : Nat) + ((bndI (some (IntKind.i64, (↑((0 : Nat) + kP (x, y) (List.drop (0 : Nat) (ptsA ps.length (flat ps)))) : Int))) (↑ps.length : Int)).toNat - (0 : Nat)) * (2 : Nat) ≤ (flat ps).length) (.need (((0 : Nat) + ((bndI (some (IntKind.i64, (↑((0 : Nat) + kP (x, y) (List.drop (0 : Nat) (ptsA ps.length (flat ps)))) : Int))) (↑ps.length : Int)).toNat - (bndI none (0 : Int)).toNat, Cs.ints (List.take (((bndI (some (IntKind.i64, (↑((0 : Nat) + kP (x, y) (List.drop (0 : Nat) (ptsA ps.length (flat ps)))) : Int))) (↑ps.length : Int)).toNat - (bndI none (0 : Int)).toNat) * Try.prog.types[(29 : Nat)].size) (List.drop ((0 : Nat) + (bndI none (0 : Int)).toNat * Try.prog.types[(29 : Nat)].size) (flat ps))), [(0 : Nat) + (bndI none (0 : Int)).toNat * Try.prog.types[(29 : Nat)].size + ((bndI (some (IntKind.i64, (↑((0 : Nat) + kP (x, y) (List.drop (0 : Nat) (ptsA ps.length (flat ps)))) : Int))) (↑ps.length : Int)).toNat - (bndI none (0 : Int)).toNat) * Try.prog.types[(29 : Nat)].size ≤ (flat ps).length]).fst + (1 : Nat)) * (16 : Nat) ≤ (140737488355328 : Nat) ∧ (0 : Nat) + ((bndI (some (IntKind.i64, (↑((0 : Nat) + kP (x, y) (List.drop (0 : Nat) (ptsA ps.length (flat ps)))) : Int))) (↑ps.length : Int)).toNat - (bndI none (0 : Int)).toNat, Cs.ints (List.take (((bndI (some (IntKind.i64, (↑((0 : Nat) + kP (x, y) (List.drop (0 : Nat) (ptsA ps.length (flat ps)))) : Int))) (↑ps.length : Int)).toNat - (bndI none (0 : Int)).toNat) * Try.prog.types[(29 : Nat)].size) (List.drop ((0 : Nat) + (bndI none (0 : Int)).toNat * Try.prog.types[(29 : Nat)].size) (flat ps))), [(0 : Nat) + (bndI none (0 : Int)).toNat * Try.prog.types[(29 : Nat)].size + ((bndI (some (IntKind.i64, (↑((0 : Nat) + kP (x, y) (List.drop (0 : Nat) (ptsA ps.length (flat ps)))) : Int))) (↑ps.length : Int)).toNat - (bndI none (0 : Int)).toNat) * Try.prog.types[(29 : Nat)].size ≤ (flat ps).length]).fst + (1 : Nat) ≤ (1000000 : Nat)) (.need ((0 : Nat) + ((0 : Nat) + ((bndI (some (IntKind.i64, (↑((0 : Nat) + kP (x, y) (List.drop (0 : Nat) (ptsA ps.length (flat ps)))) : Int))) (↑ps.length : Int)).toNat - (bndI none (0 : Int)).toNat, Cs.ints (List.take (((bndI (some (IntKind.i64, (↑((0 : Nat) + kP (x, y) (List.drop (0 : Nat) (ptsA ps.length (flat ps)))) : Int))) (↑ps.length : Int)).toNat - (bndI none (0 : Int)).toNat) * Try.prog.types[(29 : Nat)].size) (List.drop ((0 : Nat) + (bndI none (0 : Int)).toNat * Try.prog.types[(29 : Nat)].size) (flat ps))), [(0 : Nat) + (bndI none (0 : Int)).toNat * Try.prog.types[(29 : Nat)].size + ((bndI (some (IntKind.i64, (↑((0 : Nat) + kP (x, y) (List.drop (0 : Nat) (ptsA ps.length (flat ps)))) : Int))) (↑ps.length : Int)).toNat - (bndI none (0 : Int)).toNat) * Try.prog.types[(29 : Nat)].size ≤ (flat ps).length]).fst) * (2 : Nat) ≤ ([] ++ List.take (((bndI (some (IntKind.i64, (↑((0 : Nat) + kP (x, y) (List.drop (0 : Nat) (ptsA ps.length (flat ps)))) : Int))) (↑ps.length : Int)).toNat - (0 : Nat)) * (2 : Nat)) (List.drop (0 : Nat) (flat ps))).length) (.need ((0 : Int) ≤ bndI (some (IntKind.i64, (↑((0 : Nat) + kP (x, y) (List.drop (0 : Nat) (ptsA ps.length (flat ps)))) : Int))) (0 : Int) ∧ bndI (some (IntKind.i64, (↑((0 : Nat) + kP (x, y) (List.drop (0 : Nat) (ptsA ps.length (flat ps)))) : Int))) (0 : Int) ≤ bndI none (↑ps.length : Int) ∧ bndI none (↑ps.length : Int) ≤ (↑ps.length : Int)) (.need (((0 : Nat) + ((bndI (some (IntKind.i64, (↑((0 : Nat) + kP (x, y) (List.drop (0 : Nat) (ptsA ps.length (flat ps)))) : Int))) (↑ps.length : Int)).toNat - (bndI none (0 : Int)).toNat, Cs.ints (List.take (((bndI (some (IntKind.i64, (↑((0 : Nat) + kP (x, y) (List.drop (0 : Nat) (ptsA ps.length (flat ps)))) : Int))) (↑ps.length : Int)).toNat - (bndI none (0 : Int)).toNat) * Try.prog.types[(29 : Nat)].size) (List.drop ((0 : Nat) + (bndI none (0 : Int)).toNat * Try.prog.types[(29 : Nat)].size) (flat ps))), [(0 : Nat) + (bndI none (0 : Int)).toNat * Try.prog.types[(29 : Nat)].size + ((bndI (some (IntKind.i64, (↑((0 : Nat) + kP (x, y) (List.drop (0 : Nat) (ptsA ps.length (flat ps)))) : Int))) (↑ps.length : Int)).toNat - (bndI none (0 : Int)).toNat) * Try.prog.types[(29 : Nat)].size ≤ (flat ps).length]).fst + (1 : Nat) + ((bndI none (↑ps.length : Int)).toNat - (bndI (some (IntKind.i64, (↑((0 : Nat) + kP (x, y) (List.drop (0 : Nat) (ptsA ps.length (flat ps)))) : Int))) (0 : Int)).toNat, Cs.ints (List.take (((bndI none (↑ps.length : Int)).toNat - (bndI (some (IntKind.i64, (↑((0 : Nat) + kP (x, y) (List.drop (0 : Nat) (ptsA ps.length (flat ps)))) : Int))) (0 : Int)).toNat) * Try.prog.types[(29 : Nat)].size) (List.drop ((0 : Nat) + (bndI (some (IntKind.i64, (↑((0 : Nat) + kP (x, y) (List.drop (0 : Nat) (ptsA ps.length (flat ps)))) : Int))) (0 : Int)).toNat * Try.prog.types[(29 : Nat)].size) (flat ps))), [(0 : Nat) + (bndI (some (IntKind.i64, (↑((0 : Nat) + kP (x, y) (List.drop (0 : Nat) (ptsA ps.length (flat ps)))) : Int))) (0 : Int)).toNat * Try.prog.types[(29 : Nat)].size + ((bndI none (↑ps.length : Int)).toNat - (bndI (some (IntKind.i64, (↑((0 : Nat) + kP (x, y) (List.drop (0 : Nat) (ptsA ps.length (flat ps)))) : Int))) (0 : Int)).toNat) * Try.prog.types[(29 : Nat)].size ≤ (flat ps).length]).fst) * (16 : Nat) ≤ (140737488355328 : Nat) ∧ (0 : Nat) + ((bndI (some (IntKind.i64, (↑((0 : Nat) + kP (x, y) (List.drop (0 : Nat) (ptsA ps.length (flat ps)))) : Int))) (↑ps.length : Int)).toNat - (bndI none (0 : Int)).toNat, Cs.ints (List.take (((bndI (some (IntKind.i64, (↑((0 : Nat) + kP (x, y) (List.drop (0 : Nat) (ptsA ps.length (flat ps)))) : Int))) (↑ps.length : Int)).toNat - (bndI none (0 : Int)).toNat) * Try.prog.types[(29 : Nat)].size) (List.drop ((0 : Nat) + (bndI none (0 : Int)).toNat * Try.prog.types[(29 : Nat)].size) (flat ps))), [(0 : Nat) + (bndI none (0 : Int)).toNat * Try.prog.types[(29 : Nat)].size + ((bndI (some (IntKind.i64, (↑((0 : Nat) + kP (x, y) (List.drop (0 : Nat) (ptsA ps.length (flat ps)))) : Int))) (↑ps.length : Int)).toNat - (bndI none (0 : Int)).toNat) * Try.prog.types[(29 : Nat)].size ≤ (flat ps).length]).fst + (1 : Nat) + ((bndI none (↑ps.length : Int)).toNat - (bndI (some (IntKind.i64, (↑((0 : Nat) + kP (x, y) (List.drop (0 : Nat) (ptsA ps.length (flat ps)))) : Int))) (0 : Int)).toNat, Cs.ints (List.take (((bndI none (↑ps.length : Int)).toNat - (bndI (some (IntKind.i64, (↑((0 : Nat) + kP (x, y) (List.drop (0 : Nat) (ptsA ps.length (flat ps)))) : Int))) (0 : Int)).toNat) * Try.prog.types[(29 : Nat)].size) (List.drop ((0 : Nat) + (bndI (some (IntKind.i64, (↑((0 : Nat) + kP (x, y) (List.drop (0 : Nat) (ptsA ps.length (flat ps)))) : Int))) (0 : Int)).toNat * Try.prog.types[(29 : Nat)].size) (flat ps))), [(0 : Nat) + (bndI (some (IntKind.i64, (↑((0 : Nat) + kP (x, y) (List.drop (0 : Nat) (ptsA ps.length (flat ps)))) : Int))) (0 : Int)).toNat * Try.prog.types[(29 : Nat)].size + ((bndI none (↑ps.length : Int)).toNat - (bndI (some (IntKind.i64, (↑((0 : Nat) + kP (x, y) (List.drop (0 : Nat) (ptsA ps.length (flat ps)))) : Int))) (0 : Int)).toNat) * Try.prog.types[(29 : Nat)].size ≤ (flat ps).length]).fst ≤ (1000000 : Nat)) (.need ((0 : Nat) + (bndI (some (IntKind.i64, (↑((0 : Nat) + kP (x, y) (List.drop (0 : Nat) (ptsA ps.length (flat ps)))) : Int))) (0 : Int)).toNat * (2 : Nat) + ((bndI none (↑ps.length : Int)).toNat - (bndI (some (IntKind.i64, (↑((0 : Nat) + kP (x, y) (List.drop (0 : Nat) (ptsA ps.length (flat ps)))) : Int))) (0 : Int)).toNat) * (2 : Nat) ≤ (flat ps).length) (.need ((0 : Nat) + ((0 : Nat) + ((bndI (some (IntKind.i64, (↑((0 : Nat) + kP (x, y) (List.drop (0 : Nat) (ptsA ps.length (flat ps)))) : Int))) (↑ps.length : Int)).toNat - (bndI none (0 : Int)).toNat, Cs.ints (List.take (((bndI (some (IntKind.i64, (↑((0 : Nat) + kP (x, y) (List.drop (0 : Nat) (ptsA ps.length (flat ps)))) : Int))) (↑ps.length : Int)).toNat - (bndI none (0 : Int)).toNat) * Try.prog.types[(29 : Nat)].size) (List.drop ((0 : Nat) + (bndI none (0 : Int)).toNat * Try.prog.types[(29 : Nat)].size) (flat ps))), [(0 : Nat) + (bndI none (0 : Int)).toNat * Try.prog.types[(29 : Nat)].size + ((bndI (some (IntKind.i64, (↑((0 : Nat) + kP (x, y) (List.drop (0 : Nat) (ptsA ps.length (flat ps)))) : Int))) (↑ps.length : Int)).toNat - (bndI none (0 : Int)).toNat) * Try.prog.types[(29 : Nat)].size ≤ (flat ps).length]).fst + (1 : Nat)) * (2 : Nat) ≤ (List.take (((0 : Nat) + ((bndI (some (IntKind.i64, (↑((0 : Nat) + kP (x, y) (List.drop (0 : Nat) (ptsA ps.length (flat ps)))) : Int))) (↑ps.length : Int)).toNat - (bndI none (0 : Int)).toNat, Cs.ints (List.take (((bndI (some (IntKind.i64, (↑((0 : Nat) + kP (x, y) (List.drop (0 : Nat) (ptsA ps.length (flat ps)))) : Int))) (↑ps.length : Int)).toNat - (bndI none (0 : Int)).toNat) * Try.prog.types[(29 : Nat)].size) (List.drop ((0 : Nat) + (bndI none (0 : Int)).toNat * Try.prog.types[(29 : Nat)].size) (flat ps))), [(0 : Nat) + (bndI none (0 : Int)).toNat * Try.prog.types[(29 : Nat)].size + ((bndI (some (IntKind.i64, (↑((0 : Nat) + kP (x, y) (List.drop (0 : Nat) (ptsA ps.length (flat ps)))) : Int))) (↑ps.length : Int)).toNat - (bndI none (0 : Int)).toNat) * Try.prog.types[(29 : Nat)].size ≤ (flat ps).length]).fst) * (2 : Nat)) (List.drop (0 : Nat) ([] ++ List.take (((bndI (some (IntKind.i64, (↑((0 : Nat) + kP (x, y) (List.drop (0 : Nat) (ptsA ps.length (flat ps)))) : Int))) (↑ps.length : Int)).toNat - (0 : Nat)) * (2 : Nat)) (List.drop (0 : Nat) (flat ps)))) ++ [x, y]).length) (.fin (.slice (some ⟨6, 0, none⟩) (0 + ((bndI (some (IntKind.i64, (↑(0 + kP (x, y) (List.drop 0 (ptsA ps.length (flat ps)))) : Int))) (↑ps.length : Int)).toNat - (bndI none 0).toNat, Cs.ints (List.take (((bndI (some (IntKind.i64, (↑(0 + kP (x, y) (List.drop 0 (ptsA ps.length (flat ps)))) : Int))) (↑ps.length : Int)).toNat - (bndI none 0).toNat) * Try.prog.types[29].size) (List.drop (0 + (bndI none 0).toNat * Try.prog.types[29].size) (flat ps))), [0 + (bndI none 0).toNat * Try.prog.types[29].size + ((bndI (some (IntKind.i64, (↑(0 + kP (x, y) (List.drop 0 (ptsA ps.length (flat ps)))) : Int))) (↑ps.length : Int)).toNat - (bndI none 0).toNat) * Try.prog.types[29].size ≤ (flat ps).length]).fst + 1 + ((bndI none (↑ps.length : Int)).toNat - (bndI (some (IntKind.i64, (↑(0 + kP (x, y) (List.drop 0 (ptsA ps.length (flat ps)))) : Int))) 0).toNat, Cs.ints (List.take (((bndI none (↑ps.length : Int)).toNat - (bndI (some (IntKind.i64, (↑(0 + kP (x, y) (List.drop 0 (ptsA ps.length (flat ps)))) : Int))) 0).toNat) * Try.prog.types[29].size) (List.drop (0 + (bndI (some (IntKind.i64, (↑(0 + kP (x, y) (List.drop 0 (ptsA ps.length (flat ps)))) : Int))) 0).toNat * Try.prog.types[29].size) (flat ps))), [0 + (bndI (some (IntKind.i64, (↑(0 + kP (x, y) (List.drop 0 (ptsA ps.length (flat ps)))) : Int))) 0).toNat * Try.prog.types[29].size + ((bndI none (↑ps.length : Int)).toNat - (bndI (some (IntKind.i64, (↑(0 + kP (x, y) (List.drop 0 (ptsA ps.length (flat ps)))) : Int))) 0).toNat) * Try.prog.types[29].size ≤ (flat ps).length]).fst) (0 + ((bndI (some (IntKind.i64, (↑(0 + kP (x, y) (List.drop 0 (ptsA ps.length (flat ps)))) : Int))) (↑ps.length : Int)).toNat - (bndI none 0).toNat, Cs.ints (List.take (((bndI (some (IntKind.i64, (↑(0 + kP (x, y) (List.drop 0 (ptsA ps.length (flat ps)))) : Int))) (↑ps.length : Int)).toNat - (bndI none 0).toNat) * Try.prog.types[29].size) (List.drop (0 + (bndI none 0).toNat * Try.prog.types[29].size) (flat ps))), [0 + (bndI none 0).toNat * Try.prog.types[29].size + ((bndI (some (IntKind.i64, (↑(0 + kP (x, y) (List.drop 0 (ptsA ps.length (flat ps)))) : Int))) (↑ps.length : Int)).toNat - (bndI none 0).toNat) * Try.prog.types[29].size ≤ (flat ps).length]).fst + 1 + ((bndI none (↑ps.length : Int)).toNat - (bndI (some (IntKind.i64, (↑(0 + kP (x, y) (List.drop 0 (ptsA ps.length (flat ps)))) : Int))) 0).toNat, Cs.ints (List.take (((bndI none (↑ps.length : Int)).toNat - (bndI (some (IntKind.i64, (↑(0 + kP (x, y) (List.drop 0 (ptsA ps.length (flat ps)))) : Int))) 0).toNat) * Try.prog.types[29].size) (List.drop (0 + (bndI (some (IntKind.i64, (↑(0 + kP (x, y) (List.drop 0 (ptsA ps.length (flat ps)))) : Int))) 0).toNat * Try.prog.types[29].size) (flat ps))), [0 + (bndI (some (IntKind.i64, (↑(0 + kP (x, y) (List.drop 0 (ptsA ps.length (flat ps)))) : Int))) 0).toNat * Try.prog.types[29].size + ((bndI none (↑ps.length : Int)).toNat - (bndI (some (IntKind.i64, (↑(0 + kP (x, y) (List.drop 0 (ptsA ps.length (flat ps)))) : Int))) 0).toNat) * Try.prog.types[29].size ≤ (flat ps).length]).fst)) [some ⟨.row 29 2, .ints (flat ps)⟩, some ⟨.box, .vals [.int .i64 (x), .int .i64 (y)]⟩, some deadB, some deadB, some ⟨.row 29 2, .vals [.int .i64 (x), .int .i64 (y)]⟩, some deadB, some ⟨.row 29 2, .ints (List.take ((0 + ((bndI (some (IntKind.i64, (↑(0 + kP (x, y) (List.drop 0 (ptsA ps.length (flat ps)))) : Int))) (↑ps.length : Int)).toNat - (bndI none 0).toNat, Cs.ints (List.take (((bndI (some (IntKind.i64, (↑(0 + kP (x, y) (List.drop 0 (ptsA ps.length (flat ps)))) : Int))) (↑ps.length : Int)).toNat - (bndI none 0).toNat) * Try.prog.types[29].size) (List.drop (0 + (bndI none 0).toNat * Try.prog.types[29].size) (flat ps))), [0 + (bndI none 0).toNat * Try.prog.types[29].size + ((bndI (some (IntKind.i64, (↑(0 + kP (x, y) (List.drop 0 (ptsA ps.length (flat ps)))) : Int))) (↑ps.length : Int)).toNat - (bndI none 0).toNat) * Try.prog.types[29].size ≤ (flat ps).length]).fst + 1) * 2) (List.drop 0 (List.take ((0 + ((bndI (some (IntKind.i64, (↑(0 + kP (x, y) (List.drop 0 (ptsA ps.length (flat ps)))) : Int))) (↑ps.length : Int)).toNat - (bndI none 0).toNat, Cs.ints (List.take (((bndI (some (IntKind.i64, (↑(0 + kP (x, y) (List.drop 0 (ptsA ps.length (flat ps)))) : Int))) (↑ps.length : Int)).toNat - (bndI none 0).toNat) * Try.prog.types[29].size) (List.drop (0 + (bndI none 0).toNat * Try.prog.types[29].size) (flat ps))), [0 + (bndI none 0).toNat * Try.prog.types[29].size + ((bndI (some (IntKind.i64, (↑(0 + kP (x, y) (List.drop 0 (ptsA ps.length (flat ps)))) : Int))) (↑ps.length : Int)).toNat - (bndI none 0).toNat) * Try.prog.types[29].size ≤ (flat ps).length]).fst) * 2) (List.drop 0 ([] ++ List.take (((bndI (some (IntKind.i64, (↑(0 + kP (x, y) (List.drop 0 (ptsA ps.length (flat ps)))) : Int))) (↑ps.length : Int)).toNat - 0) * 2) (List.drop 0 (flat ps)))) ++ [x, y])) ++ List.take (((bndI none (↑ps.length : Int)).toNat - (bndI (some (IntKind.i64, (↑(0 + kP (x, y) (List.drop 0 (ptsA ps.length (flat ps)))) : Int))) 0).toNat) * 2) (List.drop (0 + (bndI (some (IntKind.i64, (↑(0 + kP (x, y) (List.drop 0 (ptsA ps.length (flat ps)))) : Int))) 0).toNat * 2) (flat ps)))⟩]))))))))))))) (.need ((0 : Int) ≤ bndI none (0 : Int) ∧ bndI none (0 : Int) ≤ bndI (some (IntKind.i64, (↑((0 : Nat) + kP (x, y) (List.drop (0 : Nat) (ptsA ps.length (flat ps)))) : Int))) (↑ps.length : Int) ∧ bndI (some (IntKind.i64, (↑((0 : Nat) + kP (x, y) (List.drop (0 : Nat) (ptsA ps.length (flat ps)))) : Int))) (↑ps.length : Int) ≤ (↑ps.length : Int)) (.need (((0 : Nat) + ((bndI (some (IntKind.i64, (↑((0 : Nat) + kP (x, y) (List.drop (0 : Nat) (ptsA ps.length (flat ps)))) : Int))) (↑ps.length : Int)).toNat - (bndI none (0 : Int)).toNat, Cs.ints (List.take (((bndI (some (IntKind.i64, (↑((0 : Nat) + kP (x, y) (List.drop (0 : Nat) (ptsA ps.length (flat ps)))) : Int))) (↑ps.length : Int)).toNat - (bndI none (0 : Int)).toNat) * Try.prog.types[(29 : Nat)].size) (List.drop ((0 : Nat) + (bndI none (0 : Int)).toNat * Try.prog.types[(29 : Nat)].size) (flat ps))), [(0 : Nat) + (bndI none (0 : Int)).toNat * Try.prog.types[(29 : Nat)].size + ((bndI (some (IntKind.i64, (↑((0 : Nat) + kP (x, y) (List.drop (0 : Nat) (ptsA ps.length (flat ps)))) : Int))) (↑ps.length : Int)).toNat - (bndI none (0 : Int)).toNat) * Try.prog.types[(29 : Nat)].size ≤ (flat ps).length]).fst) * (16 : Nat) ≤ (140737488355328 : Nat) ∧ (0 : Nat) + ((bndI (some (IntKind.i64, (↑((0 : Nat) + kP (x, y) (List.drop (0 : Nat) (ptsA ps.length (flat ps)))) : Int))) (↑ps.length : Int)).toNat - (bndI none (0 : Int)).toNat, Cs.ints (List.take (((bndI (some (IntKind.i64, (↑((0 : Nat) + kP (x, y) (List.drop (0 : Nat) (ptsA ps.length (flat ps)))) : Int))) (↑ps.length : Int)).toNat - (bndI none (0 : Int)).toNat) * Try.prog.types[(29 : Nat)].size) (List.drop ((0 : Nat) + (bndI none (0 : Int)).toNat * Try.prog.types[(29 : Nat)].size) (flat ps))), [(0 : Nat) + (bndI none (0 : Int)).toNat * Try.prog.types[(29 : Nat)].size + ((bndI (some (IntKind.i64, (↑((0 : Nat) + kP (x, y) (List.drop (0 : Nat) (ptsA ps.length (flat ps)))) : Int))) (↑ps.length : Int)).toNat - (bndI none (0 : Int)).toNat) * Try.prog.types[(29 : Nat)].size ≤ (flat ps).length]).fst ≤ (1000000 : Nat)) (.need ((0 : Nat) + ((bndI (some (IntKind.i64, (↑((0 : Nat) + kP (x, y) (List.drop (0 : Nat) (ptsA ps.length (flat ps)))) : Int))) (↑ps.length : Int)).toNat - (0 : Nat)) * (2 : Nat) ≤ (flat ps).length) (.need (((0 : Nat) + ((bndI (some (IntKind.i64, (↑((0 : Nat) + kP (x, y) (List.drop (0 : Nat) (ptsA ps.length (flat ps)))) : Int))) (↑ps.length : Int)).toNat - (bndI none (0 : Int)).toNat, Cs.ints (List.take (((bndI (some (IntKind.i64, (↑((0 : Nat) + kP (x, y) (List.drop (0 : Nat) (ptsA ps.length (flat ps)))) : Int))) (↑ps.length : Int)).toNat - (bndI none (0 : Int)).toNat) * Try.prog.types[(29 : Nat)].size) (List.drop ((0 : Nat) + (bndI none (0 : Int)).toNat * Try.prog.types[(29 : Nat)].size) (flat ps))), [(0 : Nat) + (bndI none (0 : Int)).toNat * Try.prog.types[(29 : Nat)].size + ((bndI (some (IntKind.i64, (↑((0 : Nat) + kP (x, y) (List.drop (0 : Nat) (ptsA ps.length (flat ps)))) : Int))) (↑ps.length : Int)).toNat - (bndI none (0 : Int)).toNat) * Try.prog.types[(29 : Nat)].size ≤ (flat ps).length]).fst + (1 : Nat)) * (16 : Nat) ≤ (140737488355328 : Nat) ∧ (0 : Nat) + ((bndI (some (IntKind.i64, (↑((0 : Nat) + kP (x, y) (List.drop (0 : Nat) (ptsA ps.length (flat ps)))) : Int))) (↑ps.length : Int)).toNat - (bndI none (0 : Int)).toNat, Cs.ints (List.take (((bndI (some (IntKind.i64, (↑((0 : Nat) + kP (x, y) (List.drop (0 : Nat) (ptsA ps.length (flat ps)))) : Int))) (↑ps.length : Int)).toNat - (bndI none (0 : Int)).toNat) * Try.prog.types[(29 : Nat)].size) (List.drop ((0 : Nat) + (bndI none (0 : Int)).toNat * Try.prog.types[(29 : Nat)].size) (flat ps))), [(0 : Nat) + (bndI none (0 : Int)).toNat * Try.prog.types[(29 : Nat)].size + ((bndI (some (IntKind.i64, (↑((0 : Nat) + kP (x, y) (List.drop (0 : Nat) (ptsA ps.length (flat ps)))) : Int))) (↑ps.length : Int)).toNat - (bndI none (0 : Int)).toNat) * Try.prog.types[(29 : Nat)].size ≤ (flat ps).length]).fst + (1 : Nat) ≤ (1000000 : Nat)) (.need ((0 : Nat) + ((0 : Nat) + ((bndI (some (IntKind.i64, (↑((0 : Nat) + kP (x, y) (List.drop (0 : Nat) (ptsA ps.length (flat ps)))) : Int))) (↑ps.length : Int)).toNat - (bndI none (0 : Int)).toNat, Cs.ints (List.take (((bndI (some (IntKind.i64, (↑((0 : Nat) + kP (x, y) (List.drop (0 : Nat) (ptsA ps.length (flat ps)))) : Int))) (↑ps.length : Int)).toNat - (bndI none (0 : Int)).toNat) * Try.prog.types[(29 : Nat)].size) (List.drop ((0 : Nat) + (bndI none (0 : Int)).toNat * Try.prog.types[(29 : Nat)].size) (flat ps))), [(0 : Nat) + (bndI none (0 : Int)).toNat * Try.prog.types[(29 : Nat)].size + ((bndI (some (IntKind.i64, (↑((0 : Nat) + kP (x, y) (List.drop (0 : Nat) (ptsA ps.length (flat ps)))) : Int))) (↑ps.length : Int)).toNat - (bndI none (0 : Int)).toNat) * Try.prog.types[(29 : Nat)].size ≤ (flat ps).length]).fst) * (2 : Nat) ≤ ([] ++ List.take (((bndI (some (IntKind.i64, (↑((0 : Nat) + kP (x, y) (List.drop (0 : Nat) (ptsA ps.length (flat ps)))) : Int))) (↑ps.length : Int)).toNat - (0 : Nat)) * (2 : Nat)) (List.drop (0 : Nat) (flat ps))).length) (.need ((0 : Int) ≤ bndI (some (IntKind.i64, (↑((0 : Nat) + kP (x, y) (List.drop (0 : Nat) (ptsA ps.length (flat ps)))) : Int))) (0 : Int) ∧ bndI (some (IntKind.i64, (↑((0 : Nat) + kP (x, y) (List.drop (0 : Nat) (ptsA ps.length (flat ps)))) : Int))) (0 : Int) ≤ bndI none (↑ps.length : Int) ∧ bndI none (↑ps.length : Int) ≤ (↑ps.length : Int)) (.need (((0 : Nat) + ((bndI (some (IntKind.i64, (↑((0 : Nat) + kP (x, y) (List.drop (0 : Nat) (ptsA ps.length (flat ps)))) : Int))) (↑ps.length : Int)).toNat - (bndI none (0 : Int)).toNat, Cs.ints (List.take (((bndI (some (IntKind.i64, (↑((0 : Nat) + kP (x, y) (List.drop (0 : Nat) (ptsA ps.length (flat ps)))) : Int))) (↑ps.length : Int)).toNat - (bndI none (0 : Int)).toNat) * Try.prog.types[(29 : Nat)].size) (List.drop ((0 : Nat) + (bndI none (0 : Int)).toNat * Try.prog.types[(29 : Nat)].size) (flat ps))), [(0 : Nat) + (bndI none (0 : Int)).toNat * Try.prog.types[(29 : Nat)].size + ((bndI (some (IntKind.i64, (↑((0 : Nat) + kP (x, y) (List.drop (0 : Nat) (ptsA ps.length (flat ps)))) : Int))) (↑ps.length : Int)).toNat - (bndI none (0 : Int)).toNat) * Try.prog.types[(29 : Nat)].size ≤ (flat ps).length]).fst + (1 : Nat) + ((bndI none (↑ps.length : Int)).toNat - (bndI (some (IntKind.i64, (↑((0 : Nat) + kP (x, y) (List.drop (0 : Nat) (ptsA ps.length (flat ps)))) : Int))) (0 : Int)).toNat, Cs.ints (List.take (((bndI none (↑ps.length : Int)).toNat - (bndI (some (IntKind.i64, (↑((0 : Nat) + kP (x, y) (List.drop (0 : Nat) (ptsA ps.length (flat ps)))) : Int))) (0 : Int)).toNat) * Try.prog.types[(29 : Nat)].size) (List.drop ((0 : Nat) + (bndI (some (IntKind.i64, (↑((0 : Nat) + kP (x, y) (List.drop (0 : Nat) (ptsA ps.length (flat ps)))) : Int))) (0 : Int)).toNat * Try.prog.types[(29 : Nat)].size) (flat ps))), [(0 : Nat) + (bndI (some (IntKind.i64, (↑((0 : Nat) + kP (x, y) (List.drop (0 : Nat) (ptsA ps.length (flat ps)))) : Int))) (0 : Int)).toNat * Try.prog.types[(29 : Nat)].size + ((bndI none (↑ps.length : Int)).toNat - (bndI (some (IntKind.i64, (↑((0 : Nat) + kP (x, y) (List.drop (0 : Nat) (ptsA ps.length (flat ps)))) : Int))) (0 : Int)).toNat) * Try.prog.types[(29 : Nat)].size ≤ (flat ps).length]).fst) * (16 : Nat) ≤ (140737488355328 : Nat) ∧ (0 : Nat) + ((bndI (some (IntKind.i64, (↑((0 : Nat) + kP (x, y) (List.drop (0 : Nat) (ptsA ps.length (flat ps)))) : Int))) (↑ps.length : Int)).toNat - (bndI none (0 : Int)).toNat, Cs.ints (List.take (((bndI (some (IntKind.i64, (↑((0 : Nat) + kP (x, y) (List.drop (0 : Nat) (ptsA ps.length (flat ps)))) : Int))) (↑ps.length : Int)).toNat - (bndI none (0 : Int)).toNat) * Try.prog.types[(29 : Nat)].size) (List.drop ((0 : Nat) + (bndI none (0 : Int)).toNat * Try.prog.types[(29 : Nat)].size) (flat ps))), [(0 : Nat) + (bndI none (0 : Int)).toNat * Try.prog.types[(29 : Nat)].size + ((bndI (some (IntKind.i64, (↑((0 : Nat) + kP (x, y) (List.drop (0 : Nat) (ptsA ps.length (flat ps)))) : Int))) (↑ps.length : Int)).toNat - (bndI none (0 : Int)).toNat) * Try.prog.types[(29 : Nat)].size ≤ (flat ps).length]).fst + (1 : Nat) + ((bndI none (↑ps.length : Int)).toNat - (bndI (some (IntKind.i64, (↑((0 : Nat) + kP (x, y) (List.drop (0 : Nat) (ptsA ps.length (flat ps)))) : Int))) (0 : Int)).toNat, Cs.ints (List.take (((bndI none (↑ps.length : Int)).toNat - (bndI (some (IntKind.i64, (↑((0 : Nat) + kP (x, y) (List.drop (0 : Nat) (ptsA ps.length (flat ps)))) : Int))) (0 : Int)).toNat) * Try.prog.types[(29 : Nat)].size) (List.drop ((0 : Nat) + (bndI (some (IntKind.i64, (↑((0 : Nat) + kP (x, y) (List.drop (0 : Nat) (ptsA ps.length (flat ps)))) : Int))) (0 : Int)).toNat * Try.prog.types[(29 : Nat)].size) (flat ps))), [(0 : Nat) + (bndI (some (IntKind.i64, (↑((0 : Nat) + kP (x, y) (List.drop (0 : Nat) (ptsA ps.length (flat ps)))) : Int))) (0 : Int)).toNat * Try.prog.types[(29 : Nat)].size + ((bndI none (↑ps.length : Int)).toNat - (bndI (some (IntKind.i64, (↑((0 : Nat) + kP (x, y) (List.drop (0 : Nat) (ptsA ps.length (flat ps)))) : Int))) (0 : Int)).toNat) * Try.prog.types[(29 : Nat)].size ≤ (flat ps).length]).fst ≤ (1000000 : Nat)) (.need ((0 : Nat) + (bndI (some (IntKind.i64, (↑((0 : Nat) + kP (x, y) (List.drop (0 : Nat) (ptsA ps.length (flat ps)))) : Int))) (0 : Int)).toNat * (2 : Nat) + ((bndI none (↑ps.length : Int)).toNat - (bndI (some (IntKind.i64, (↑((0 : Nat) + kP (x, y) (List.drop (0 : Nat) (ptsA ps.length (flat ps)))) : Int))) (0 : Int)).toNat) * (2 : Nat) ≤ (flat ps).length) (.need ((0 : Nat) + ((0 : Nat) + ((bndI (some (IntKind.i64, (↑((0 : Nat) + kP (x, y) (List.drop (0 : Nat) (ptsA ps.length (flat ps)))) : Int))) (↑ps.length : Int)).toNat - (bndI none (0 : Int)).toNat, Cs.ints (List.take (((bndI (some (IntKind.i64, (↑((0 : Nat) + kP (x, y) (List.drop (0 : Nat) (ptsA ps.length (flat ps)))) : Int))) (↑ps.length : Int)).toNat - (bndI none (0 : Int)).toNat) * Try.prog.types[(29 : Nat)].size) (List.drop ((0 : Nat) + (bndI none (0 : Int)).toNat * Try.prog.types[(29 : Nat)].size) (flat ps))), [(0 : Nat) + (bndI none (0 : Int)).toNat * Try.prog.types[(29 : Nat)].size + ((bndI (some (IntKind.i64, (↑((0 : Nat) + kP (x, y) (List.drop (0 : Nat) (ptsA ps.length (flat ps)))) : Int))) (↑ps.length : Int)).toNat - (bndI none (0 : Int)).toNat) * Try.prog.types[(29 : Nat)].size ≤ (flat ps).length]).fst + (1 : Nat)) * (2 : Nat) ≤ (List.take (((0 : Nat) + ((bndI (some (IntKind.i64, (↑((0 : Nat) + kP (x, y) (List.drop (0 : Nat) (ptsA ps.length (flat ps)))) : Int))) (↑ps.length : Int)).toNat - (bndI none (0 : Int)).toNat, Cs.ints (List.take (((bndI (some (IntKind.i64, (↑((0 : Nat) + kP (x, y) (List.drop (0 : Nat) (ptsA ps.length (flat ps)))) : Int))) (↑ps.length : Int)).toNat - (bndI none (0 : Int)).toNat) * Try.prog.types[(29 : Nat)].size) (List.drop ((0 : Nat) + (bndI none (0 : Int)).toNat * Try.prog.types[(29 : Nat)].size) (flat ps))), [(0 : Nat) + (bndI none (0 : Int)).toNat * Try.prog.types[(29 : Nat)].size + ((bndI (some (IntKind.i64, (↑((0 : Nat) + kP (x, y) (List.drop (0 : Nat) (ptsA ps.length (flat ps)))) : Int))) (↑ps.length : Int)).toNat - (bndI none (0 : Int)).toNat) * Try.prog.types[(29 : Nat)].size ≤ (flat ps).length]).fst) * (2 : Nat)) (List.drop (0 : Nat) ([] ++ List.take (((bndI (some (IntKind.i64, (↑((0 : Nat) + kP (x, y) (List.drop (0 : Nat) (ptsA ps.length (flat ps)))) : Int))) (↑ps.length : Int)).toNat - (0 : Nat)) * (2 : Nat)) (List.drop (0 : Nat) (flat ps)))) ++ [x, y]).length) (.fin (.slice (some ⟨6, 0, none⟩) (0 + ((bndI (some (IntKind.i64, (↑(0 + kP (x, y) (List.drop 0 (ptsA ps.length (flat ps)))) : Int))) (↑ps.length : Int)).toNat - (bndI none 0).toNat, Cs.ints (List.take (((bndI (some (IntKind.i64, (↑(0 + kP (x, y) (List.drop 0 (ptsA ps.length (flat ps)))) : Int))) (↑ps.length : Int)).toNat - (bndI none 0).toNat) * Try.prog.types[29].size) (List.drop (0 + (bndI none 0).toNat * Try.prog.types[29].size) (flat ps))), [0 + (bndI none 0).toNat * Try.prog.types[29].size + ((bndI (some (IntKind.i64, (↑(0 + kP (x, y) (List.drop 0 (ptsA ps.length (flat ps)))) : Int))) (↑ps.length : Int)).toNat - (bndI none 0).toNat) * Try.prog.types[29].size ≤ (flat ps).length]).fst + 1 + ((bndI none (↑ps.length : Int)).toNat - (bndI (some (IntKind.i64, (↑(0 + kP (x, y) (List.drop 0 (ptsA ps.length (flat ps)))) : Int))) 0).toNat, Cs.ints (List.take (((bndI none (↑ps.length : Int)).toNat - (bndI (some (IntKind.i64, (↑(0 + kP (x, y) (List.drop 0 (ptsA ps.length (flat ps)))) : Int))) 0).toNat) * Try.prog.types[29].size) (List.drop (0 + (bndI (some (IntKind.i64, (↑(0 + kP (x, y) (List.drop 0 (ptsA ps.length (flat ps)))) : Int))) 0).toNat * Try.prog.types[29].size) (flat ps))), [0 + (bndI (some (IntKind.i64, (↑(0 + kP (x, y) (List.drop 0 (ptsA ps.length (flat ps)))) : Int))) 0).toNat * Try.prog.types[29].size + ((bndI none (↑ps.length : Int)).toNat - (bndI (some (IntKind.i64, (↑(0 + kP (x, y) (List.drop 0 (ptsA ps.length (flat ps)))) : Int))) 0).toNat) * Try.prog.types[29].size ≤ (flat ps).length]).fst) (0 + ((bndI (some (IntKind.i64, (↑(0 + kP (x, y) (List.drop 0 (ptsA ps.length (flat ps)))) : Int))) (↑ps.length : Int)).toNat - (bndI none 0).toNat, Cs.ints (List.take (((bndI (some (IntKind.i64, (↑(0 + kP (x, y) (List.drop 0 (ptsA ps.length (flat ps)))) : Int))) (↑ps.length : Int)).toNat - (bndI none 0).toNat) * Try.prog.types[29].size) (List.drop (0 + (bndI none 0).toNat * Try.prog.types[29].size) (flat ps))), [0 + (bndI none 0).toNat * Try.prog.types[29].size + ((bndI (some (IntKind.i64, (↑(0 + kP (x, y) (List.drop 0 (ptsA ps.length (flat ps)))) : Int))) (↑ps.length : Int)).toNat - (bndI none 0).toNat) * Try.prog.types[29].size ≤ (flat ps).length]).fst + 1 + ((bndI none (↑ps.length : Int)).toNat - (bndI (some (IntKind.i64, (↑(0 + kP (x, y) (List.drop 0 (ptsA ps.length (flat ps)))) : Int))) 0).toNat, Cs.ints (List.take (((bndI none (↑ps.length : Int)).toNat - (bndI (some (IntKind.i64, (↑(0 + kP (x, y) (List.drop 0 (ptsA ps.length (flat ps)))) : Int))) 0).toNat) * Try.prog.types[29].size) (List.drop (0 + (bndI (some (IntKind.i64, (↑(0 + kP (x, y) (List.drop 0 (ptsA ps.length (flat ps)))) : Int))) 0).toNat * Try.prog.types[29].size) (flat ps))), [0 + (bndI (some (IntKind.i64, (↑(0 + kP (x, y) (List.drop 0 (ptsA ps.length (flat ps)))) : Int))) 0).toNat * Try.prog.types[29].size + ((bndI none (↑ps.length : Int)).toNat - (bndI (some (IntKind.i64, (↑(0 + kP (x, y) (List.drop 0 (ptsA ps.length (flat ps)))) : Int))) 0).toNat) * Try.prog.types[29].size ≤ (flat ps).length]).fst)) [some ⟨.row 29 2, .ints (flat ps)⟩, some ⟨.box, .vals [.int .i64 (x), .int .i64 (y)]⟩, some deadB, some deadB, some ⟨.row 29 2, .vals [.int .i64 (x), .int .i64 (y)]⟩, some deadB, some ⟨.row 29 2, .ints (List.take ((0 + ((bndI (some (IntKind.i64, (↑(0 + kP (x, y) (List.drop 0 (ptsA ps.length (flat ps)))) : Int))) (↑ps.length : Int)).toNat - (bndI none 0).toNat, Cs.ints (List.take (((bndI (some (IntKind.i64, (↑(0 + kP (x, y) (List.drop 0 (ptsA ps.length (flat ps)))) : Int))) (↑ps.length : Int)).toNat - (bndI none 0).toNat) * Try.prog.types[29].size) (List.drop (0 + (bndI none 0).toNat * Try.prog.types[29].size) (flat ps))), [0 + (bndI none 0).toNat * Try.prog.types[29].size + ((bndI (some (IntKind.i64, (↑(0 + kP (x, y) (List.drop 0 (ptsA ps.length (flat ps)))) : Int))) (↑ps.length : Int)).toNat - (bndI none 0).toNat) * Try.prog.types[29].size ≤ (flat ps).length]).fst + 1) * 2) (List.drop 0 (List.take ((0 + ((bndI (some (IntKind.i64, (↑(0 + kP (x, y) (List.drop 0 (ptsA ps.length (flat ps)))) : Int))) (↑ps.length : Int)).toNat - (bndI none 0).toNat, Cs.ints (List.take (((bndI (some (IntKind.i64, (↑(0 + kP (x, y) (List.drop 0 (ptsA ps.length (flat ps)))) : Int))) (↑ps.length : Int)).toNat - (bndI none 0).toNat) * Try.prog.types[29].size) (List.drop (0 + (bndI none 0).toNat * Try.prog.types[29].size) (flat ps))), [0 + (bndI none 0).toNat * Try.prog.types[29].size + ((bndI (some (IntKind.i64, (↑(0 + kP (x, y) (List.drop 0 (ptsA ps.length (flat ps)))) : Int))) (↑ps.length : Int)).toNat - (bndI none 0).toNat) * Try.prog.types[29].size ≤ (flat ps).length]).fst) * 2) (List.drop 0 ([] ++ List.take (((bndI (some (IntKind.i64, (↑(0 + kP (x, y) (List.drop 0 (ptsA ps.length (flat ps)))) : Int))) (↑ps.length : Int)).toNat - 0) * 2) (List.drop 0 (flat ps)))) ++ [x, y])) ++ List.take (((bndI none (↑ps.length : Int)).toNat - (bndI (some (IntKind.i64, (↑(0 + kP (x, y) (List.drop 0 (ptsA ps.length (flat ps)))) : Int))) 0).toNat) * 2) (List.drop (0 + (bndI (some (IntKind.i64, (↑(0 + kP (x, y) (List.drop 0 (ptsA ps.length (flat ps)))) : Int))) 0).toNat * 2) (flat ps)))⟩]))))))))))))) := by kernel_rfl
theorem ins_flat {ps : List Pt} {k : Nat} (h : k ≤ ps.length) (x y : Int) : List.take ((k + 1) * 2) (List.take (k * 2) (List.take (k * 2) (flat ps)) ++ [x, y]) ++ List.take ((ps.length - k) * 2) (List.drop (k * 2) (flat ps)) = flat (ps.take k ++ ((x, y) :: ps.drop k)) := by
  have l1 : (ps.take k).length = k := by simp; omega
  have l2 : (ps.drop k).length = ps.length - k := by simp
  have l3 : (ps.take k ++ [(x, y)]).length = k + 1 := by rw [List.length_append, l1]; rfl
  have e1 : List.take (k + 1) (ps.take k ++ [(x, y)]) = ps.take k ++ [(x, y)] := List.take_of_length_le (by omega)
  have e2 : List.take (ps.length - k) (ps.drop k) = ps.drop k := List.take_of_length_le (by omega)
  rw [flat_take, flat_take, List.take_take, Nat.min_self, flat_snoc, flat_take, flat_drop, flat_take, e1, e2, ← flat_append, List.append_assoc]
  rfl
theorem adp_row (ps : List Pt) (x y : Int) (h : ps.length ≤ 1000) : (bodyM Try.prog EAd (runM Try.prog EAd 30 12) 30 59 [.slice (some ⟨0, 0, none⟩) ps.length ps.length, .agg #[.int .i64 x, .int .i64 y]] [some ⟨.row 29 2, .ints (flat ps)⟩] .fin).ok (fun _ _ => False) (fun u mem' => RowIs (.slice (some ⟨0, 0, none⟩) (insP (x, y) ps).length (insP (x, y) ps).length) ⟨.row 29 2, .ints (flat (insP (x, y) ps))⟩ u mem') := by
  rw [tr_adpF]
  have hk := kP_le (x, y) ps
  have hi := insP_is (x, y) ps
  simp only [List.drop_zero, ptsA_flat, flat_length, Nat.zero_add, Int.toNat_natCast, bndI, Nat.sub_zero, Int.toNat_zero, Nat.zero_mul, List.nil_append]
  generalize kP (x, y) ps = k at *
  have hfl := ins_flat hk x y
  refine ⟨trivial, trivial, by omega, ?_⟩
  simp only [brT_ok, Tree.ok, decide_eq_true_eq, decide_eq_false_iff_not, flat_get0, flat_get1, hfl]
  have lt2 : (List.take (k * 2) (flat ps)).length = k * 2 := by rw [List.length_take, flat_length]; omega
  have lt3 : (List.take (k * 2) (List.take (k * 2) (flat ps)) ++ [x, y]).length = (k + 1) * 2 := by rw [List.length_append, List.length_take, lt2]; simp; omega
  have fin : insP (x, y) ps = ps.take k ++ ((x, y) :: ps.drop k) → RowIs (.slice (some ⟨0, 0, none⟩) (insP (x, y) ps).length (insP (x, y) ps).length) ⟨.row 29 2, .ints (flat (insP (x, y) ps))⟩ (.slice (some ⟨6, 0, none⟩) (k + 1 + (ps.length - k)) (k + 1 + (ps.length - k)))
      [some ⟨.row 29 2, .ints (flat ps)⟩, some ⟨.box, .vals [.int .i64 x, .int .i64 y]⟩, some deadB, some deadB, some ⟨.row 29 2, .vals [.int .i64 x, .int .i64 y]⟩, some deadB, some ⟨.row 29 2, .ints (flat (ps.take k ++ ((x, y) :: ps.drop k)))⟩] := fun e => by
    have l : (insP (x, y) ps).length = k + 1 + (ps.length - k) := by rw [e]; simp; omega
    rw [l, e]
    exact ⟨some 6, ⟨rfl, rfl, rfl⟩, rfl, rfl, rfl⟩
  refine ⟨fun hlt => ⟨by omega, by omega, fun g => ?_, fun g => ?_⟩, fun hge => ?_⟩
  · have e : insP (x, y) ps = ps := by
      simp only [negB, Bool.and_true, Bool.and_eq_true, beq_iff_eq] at g
      rw [hi, if_pos ⟨by omega, Prod.ext g.1 g.2⟩]
    rw [e]
    exact ⟨some 0, ⟨rfl, rfl, rfl⟩, rfl, rfl, rfl⟩
  · have e : insP (x, y) ps = ps.take k ++ ((x, y) :: ps.drop k) := by
      rw [hi, if_neg]
      rintro ⟨_, e⟩
      rw [e] at g
      simp [negB] at g
    exact ⟨by omega, by omega, by omega, by omega, by omega, by omega, by omega, by omega, by omega, fin e⟩
  · have e : insP (x, y) ps = ps.take k ++ ((x, y) :: ps.drop k) := by
      rw [hi, if_neg]
      rintro ⟨h1, _⟩
      omega
    exact ⟨by omega, by omega, by omega, by omega, by omega, by omega, by omega, by omega, by omega, fin e⟩
/-- The model's addPoint: it takes over a list. -/
def addS : OSpec := fun e sz l xs rest => match e, sz, rest with
  | 29, 2, [.agg ⟨[.int .i64 x, .int .i64 y]⟩] => some (.slice (some ⟨0, 0, none⟩) (insP (x, y) (ptsA l xs)).length (insP (x, y) (ptsA l xs)).length, ⟨.row 29 2, .ints (flat (insP (x, y) (ptsA l xs)))⟩, [xs.length = l * 2, l ≤ 1000])
  | _, _, _ => none
set_option maxRecDepth 100000 in
theorem addS_ok : OSpecOk Try.prog 59 addS := by
  intro e sz l xs rest v b C h hC
  unfold addS at h
  split at h
  rotate_left
  · cases h
  obtain ⟨rfl, rfl, rfl⟩ : _ ∧ _ ∧ _ := by simpa using h
  obtain ⟨h1, h2, _⟩ := hC
  obtain ⟨ps, rfl, rfl⟩ := even_flat h1
  rw [ptsA_flat]
  exact ⟨rfl, EAd, 30, 12, EAd_ok, adp_row ps _ _ h2⟩
def JAd : TabJ := consR 59 (owG addS) noJ
theorem JAd_ok : GSound Try.prog JAd.g := consO_ok mixed (J := noJ) (failG_sound _) (entersB_res (by kernel_rfl)).1 addS_ok
def ESo : Env := withT (mkE TOl (fun _ _ => none) (fun _ => noL)) JAd
theorem ESo_ok : EnvOk Try.prog ESo := withT_ok (mkEOk TOl_ok (fun _ _ _ _ _ h => (by cases h)) (fun _ _ _ => noL_good)) JAd_ok
noncomputable def c_srt : Code := ((loopsOf (codeOf Try.f44))[0]?).getD .skip
def k_srt : Ex → List Nat := keeps [0, 3, 4] [(0, [3])] [2]
def s_srt (ps : List Pt) : Nat × (List Pt) → St := fun (i, o) => ⟨[.slice (some ⟨0, 0, none⟩) ps.length ps.length, topV, topV, .slice (some ⟨2, 0, none⟩) o.length o.length, .int .i64 i, topV, topV, topV, topV, topV, topV, topV, topV, topV, topV, topV, topV, topV, topV], [some ⟨.view, .ints (flat ps)⟩, some ⟨.dead, .vals []⟩, some ⟨.row 29 2, .ints (flat o)⟩]⟩
def re_srt : Nat × (List Pt) → Ex := fun _ => .exit 0
def rs_srt (ps : List Pt) : Nat × (List Pt) → St := fun (i, o) => ⟨[topV, topV, topV, .slice (some ⟨2, 0, none⟩) (srtO o (ps.drop i)).length (srtO o (ps.drop i)).length, topV, topV, topV, topV, topV, topV, topV, topV, topV, topV, topV, topV, topV, topV, topV], [some ⟨.view, .ints (flat ps)⟩, some ⟨.dead, .vals []⟩, some ⟨.row 29 2, .ints (flat (srtO o (ps.drop i)))⟩]⟩
set_option maxRecDepth 100000 in
theorem tr_srt (ps : List Pt) (i : Nat) (o : List Pt) : bodyL Try.prog ESo 30 12 noL 1 c_srt k_srt 5 (s_srt ps (i, o)) = brT (decide ((↑i : Int) < (↑ps.length : Int))) (.need ((0 : Int) ≤ (↑i : Int) ∧ (↑i : Int) < (↑ps.length : Int)) (.need ((0 : Nat) + (↑i : Int).toNat * (2 : Nat) + (2 : Nat) ≤ (flat ps).length) (.need ((flat o).length = o.length * (2 : Nat)) (.need (o.length ≤ (1000 : Nat)) (.leaf .normal ⟨[.slice (some ⟨0, 0, none⟩) (ps.length) (ps.length), topV, topV, .slice (some ⟨3, 0, none⟩) ((insP ((flat ps).getD (0 + (↑i : Int).toNat * (2 : Nat)) 0, (flat ps).getD (0 + (↑i : Int).toNat * (2 : Nat) + 1) 0) (ptsA o.length (flat o))).length) ((insP ((flat ps).getD (0 + (↑i : Int).toNat * (2 : Nat)) 0, (flat ps).getD (0 + (↑i : Int).toNat * (2 : Nat) + 1) 0) (ptsA o.length (flat o))).length), .int .i64 (IntKind.i64.wrap ((↑i : Int) + 1)), topV, topV, topV, topV, topV, topV, topV, topV, topV, topV, topV, topV, topV, topV], [some ⟨.view, .ints (flat ps)⟩, some deadB, some deadB, some ⟨.row 29 2, .ints (flat (insP ((flat ps).getD (0 + (↑i : Int).toNat * (2 : Nat)) 0, (flat ps).getD (0 + (↑i : Int).toNat * (2 : Nat) + 1) 0) (ptsA o.length (flat o))))⟩]⟩))))) (.leaf (.exit 0) ⟨[topV, topV, topV, .slice (some ⟨2, 0, none⟩) (o.length) (o.length), topV, topV, topV, topV, topV, topV, topV, topV, topV, topV, topV, topV, topV, topV, topV], [some ⟨.view, .ints (flat ps)⟩, some deadB, some ⟨.row 29 2, .ints (flat o)⟩]⟩) := by kernel_rfl
set_option maxRecDepth 100000 in
theorem nl_srt : loopsOf c_srt = [] := by kernel_rfl
def inv_srt (ps : List Pt) : Nat × (List Pt) → Prop := fun (i, o) => i ≤ ps.length ∧ o.length ≤ i
def me_srt (ps : List Pt) : Nat × (List Pt) → Nat := fun (i, o) => ps.length - i
/-- A round of this loop. -/
def Round_srt (ps : List Pt) : Prop := ∀ xx : Nat × (List Pt), inv_srt ps xx → (bodyL Try.prog ESo 30 12 noL 1 c_srt k_srt 5 (s_srt ps xx)).ok (RoundEnd 2 (s_srt ps) (inv_srt ps) (me_srt ps) re_srt (rs_srt ps) xx) (fun _ _ => False)
def e_srt (s : St) (k : Ex → St → Tree) : Option Tree := match Nat.beq s.tmps.length 19, pickL s.tmps [0, 3, 4], s.mem with
  | true, [.slice (some ⟨0, 0, none⟩) n _, .slice (some ⟨1, 0, none⟩) z _, .int .i64 ii], [some ⟨.view, .ints xs⟩, some ⟨.row 29 2, .vals []⟩] => some (needs [ii = 0, z = 0, xs.length = n * 2, n ≤ 1000] (k (.exit 0) ⟨[topV, topV, topV, .slice (some ⟨2, 0, none⟩) (srtO [] ((ptsA n xs).drop 0)).length (srtO [] ((ptsA n xs).drop 0)).length, topV, topV, topV, topV, topV, topV, topV, topV, topV, topV, topV, topV, topV, topV, topV], [some ⟨.view, .ints xs⟩, some ⟨.dead, .vals []⟩, some ⟨.row 29 2, .ints (flat (srtO [] ((ptsA n xs).drop 0)))⟩]⟩))
  | _, _, _ => none
set_option maxRecDepth 100000 in
theorem round_srt (ps : List Pt) (h : ps.length ≤ 1000) : Round_srt ps := by
  rintro ⟨i, o⟩ ⟨h1, h2⟩
  rw [tr_srt]
  simp only [brT_ok, Tree.ok, decide_eq_true_eq, decide_eq_false_iff_not, Int.toNat_natCast, Nat.zero_add, flat_length, flat_get0, flat_get1, ptsA_flat]
  refine ⟨fun hlt => ⟨by omega, by omega, trivial, by omega, ?_⟩, fun hge => ?_⟩
  · rw [wsucc (n := ps.length) (by omega) (by omega)]
    have hd : ps.drop i = ps.getD i (0, 0) :: ps.drop (i + 1) := drop_cons (by omega) _
    have hle := insP_le (ps.getD i (0, 0)) o
    have e : srtO o (ps.drop i) = srtO (insP (ps.getD i (0, 0)) o) (ps.drop (i + 1)) := by rw [hd]; rfl
    refine ⟨(i + 1, insP (ps.getD i (0, 0)) o), [some 3], ⟨by omega, by omega⟩, ?_, rfl, ?_, ?_⟩
    · show ps.length - (i + 1) < ps.length - i; omega
    · simp only [rs_srt, e]
    · repeat' (first | exact True.intro | exact rfl | exact fun _ => rfl | (simp; done) | refine And.intro ?_ ?_)
  · have e : srtO o (ps.drop i) = o := by rw [List.drop_of_length_le (by omega)]; rfl
    refine ⟨rfl, [some 2], ?_⟩
    simp only [rs_srt, e]
    repeat' (first | exact True.intro | exact rfl | exact fun _ => rfl | (simp; done) | refine And.intro ?_ ?_)
set_option maxRecDepth 100000 in
theorem lg_srt : LoopE Try.prog e_srt c_srt := by
  intro s k t F H hlt ht
  unfold e_srt at hlt
  split at hlt
  rotate_left
  · cases hlt
  rename_i hlen hpick hmem
  obtain ⟨tmps, mem⟩ := s
  simp only at hlen hpick hmem
  subst hmem
  obtain rfl := Option.some.inj hlt
  obtain ⟨⟨rfl, rfl, h1, h2, _⟩, ht2⟩ := needs_ok ht
  clear ht hlt
  obtain ⟨ps, rfl, rfl⟩ := even_flat h1
  rw [ptsA_flat] at ht2
  refine ⟨_, _, ht2, loop_run2 mixed ESo_ok (s_srt _) (inv_srt _) (me_srt _) re_srt (rs_srt _) k_srt (fun _ => rfl) (noLoops nl_srt) (round_srt _ h2) (x := (0, [])) ⟨Nat.zero_le _, Nat.le_refl _⟩ (π := [some 1]) rfl ?_⟩
  refine ⟨rfl, rfl, ?_, wvs_spread' [0, 3, 4] hlen rfl ?_⟩
  · repeat' (first | exact True.intro | exact rfl | exact wv_top _ _ | exact fun _ => rfl | assumption | exact Eq.symm (by assumption) | exact vI0 rfl | refine And.intro ?_ ?_)
  · rw [hpick]
    repeat' (first | exact True.intro | exact rfl | exact wv_top _ _ | exact fun _ => rfl | assumption | exact Eq.symm (by assumption) | exact vI0 rfl | refine And.intro ?_ ?_)
theorem Lr_srt {fn : Func} (hf : Try.prog.funcs[44]? = some fn) : LoopsGood Try.prog (lt1 e_srt) 0 (codeOf fn) := by
  obtain rfl := fn_is Try.func44 hf
  exact lt1_good lg_srt
def LSr : FuncId → LT := fun f => match f with
  | 44 => lt1 e_srt
  | _ => noL
def ESr : Env := withT (mkE TOl (fun _ _ => none) LSr) JAd
theorem ESr_ok : EnvOk Try.prog ESr := withT_ok (mkEOk TOl_ok (fun _ _ _ _ _ h => (by cases h)) (by
  intro f fn hf
  unfold LSr
  split
  all_goals first | with_reducible exact Lr_srt hf | exact noL_good)) JAd_ok
set_option maxRecDepth 100000 in
theorem tr_srtF (ps : List Pt) : bodyX Try.prog ESr 30 12 44 [.row ps.length (.ints (flat ps))] = .need ((0 : Int) = (0 : Int)) (.need ((0 : Nat) = (0 : Nat)) (.need ((flat ps).length = ps.length * (2 : Nat)) (.need (ps.length ≤ (1000 : Nat)) (.fin (.slice (some ⟨2, 0, none⟩) ((srtO [] (List.drop 0 (ptsA ps.length (flat ps)))).length) ((srtO [] (List.drop 0 (ptsA ps.length (flat ps)))).length)) [some ⟨.view, .ints (flat ps)⟩, some deadB, some ⟨.row 29 2, .ints (flat (srtO [] (List.drop 0 (ptsA ps.length (flat ps)))))⟩])))) := by kernel_rfl
abbrev rowP (ps : List Pt) : Value := .slice (some ⟨0, 0, none⟩) ps.length ps.length
abbrev blkP (ps : List Pt) : Blk := ⟨.row 29 2, .ints (flat ps)⟩
theorem resR_srt (ps : List Pt) (h : ps.length ≤ 1000) : ResR Try.prog 44 [.row ps.length (.ints (flat ps))] (rowP (srtL ps)) (blkP (srtL ps)) := by
  refine bodyX_resR mixed ESr_ok (m := 30) (n := 12) rfl ?_
  rw [tr_srtF]
  simp only [List.drop_zero, ptsA_flat, flat_length]
  exact ⟨trivial, trivial, trivial, h, some 2, ⟨rfl, rfl, rfl⟩, rfl, rfl, rfl⟩
end Go.Proofs.Ytcplfampcbekoaa
