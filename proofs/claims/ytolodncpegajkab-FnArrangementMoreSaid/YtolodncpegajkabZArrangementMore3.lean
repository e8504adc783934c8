/-
  Texts that the proof needs, merged. Written by an AI agent.
-/
import Derived.Orders
import Derived.Below
import Derived.OrdersIn
import Derived.Deep.LoopGhost
import Derived.WalkKit
import Derived.Laws.CopyRow
import Derived.Laws.AppendOwn
import Derived.Laws.Slices
import Derived.Laws.MakeOwn
import Derived.Test.YtolodncpegajkabRows
import Derived.ProofKit
import Derived.OpenShut
import Derived.Carry
import Derived.IntWalk
import Derived.Test.YtolodncpegajkabProg
import Derived.WalkSpells
import Derived.WalkLawsBesides
import Derived.Lib.Hide
import Derived.Deep.QuietTactic
import Derived.BigQuiet
import Derived.KernelRfl
import Derived.Deep.RegionHeld3
import Derived.LoopTactic
import Derived.Laws.StructEq
import Derived.Laws.Tables
import Derived.RangeFuncNested
import Derived.RangeFuncLeaves
import Derived.Deep.Slices
import Derived.Deep.Fields
import Derived.ChangeSame
import Derived.Shelf.SlSortCmp.WholeK
import Derived.Deep.DeepCutAuto
import Derived.Sort.Grow
import Derived.Shelf.SlSortCmp.NoneTotal
import Derived.Test.YtolodncpegajkabZArrangementMore2
namespace Go.Proofs.Ytolodncpegajkab
set_option linter.all false
open Go.RowKit
abbrev Pt := Int × Int
def flat : List Pt → List Int
  | [] => []
  | p :: r => p.1 :: p.2 :: flat r
def pts : List Int → List Pt
  | a :: b :: r => (a, b) :: pts r
  | _ => []
theorem pts_flat : ∀ ps, pts (flat ps) = ps
  | [] => rfl
  | p :: r => by simp [flat, pts, pts_flat r]
theorem flat_length : ∀ ps, (flat ps).length = ps.length * 2
  | [] => rfl
  | p :: r => by simp [flat, flat_length r]; omega
theorem flat_pts : ∀ (n : Nat) (xs : List Int), xs.length = n * 2 → flat (pts xs) = xs ∧ (pts xs).length = n
  | 0, xs, h => by
    obtain rfl : xs = [] := List.eq_nil_of_length_eq_zero (by omega)
    exact ⟨rfl, rfl⟩
  | n + 1, xs, h => by
    match xs, h with
    | a :: b :: r, h =>
      obtain ⟨h1, h2⟩ := flat_pts n r (by simp at h; omega)
      exact ⟨by simp [pts, flat, h1], by simp [pts, h2]⟩
    | [a], h => simp at h; omega
    | [], h => simp at h
theorem even_flat {n : Nat} {xs : List Int} (h : xs.length = n * 2) : ∃ ps : List Pt, xs = flat ps ∧ ps.length = n :=
  ⟨pts xs, (flat_pts n xs h).1.symm, (flat_pts n xs h).2⟩
theorem flat_append : ∀ a b, flat (a ++ b) = flat a ++ flat b
  | [], b => rfl
  | p :: r, b => by simp [flat, flat_append r b]
theorem flat_drop : ∀ (ps : List Pt) (k : Nat), (flat ps).drop (k * 2) = flat (ps.drop k)
  | ps, 0 => by simp
  | [], k + 1 => by simp [flat]
  | p :: r, k + 1 => by
    rw [show (k + 1) * 2 = k * 2 + 2 by omega]
    simp [flat, flat_drop r k]
theorem flat_take : ∀ (ps : List Pt) (k : Nat), (flat ps).take (k * 2) = flat (ps.take k)
  | ps, 0 => by simp [flat]
  | [], k + 1 => by simp [flat]
  | p :: r, k + 1 => by
    rw [show (k + 1) * 2 = k * 2 + 2 by omega]
    simp [flat, flat_take r k]
theorem flat_get : ∀ (ps : List Pt) (k : Nat), (flat ps).getD (k * 2) 0 = (ps.getD k (0, 0)).1 ∧ (flat ps).getD (k * 2 + 1) 0 = (ps.getD k (0, 0)).2
  | [], k => by simp [flat]
  | p :: r, 0 => by simp [flat]
  | p :: r, k + 1 => by
    obtain ⟨h1, h2⟩ := flat_get r k
    rw [show (k + 1) * 2 = k * 2 + 2 by omega, show k * 2 + 2 + 1 = k * 2 + 1 + 2 by omega]
    simp only [flat, List.getD_eq_getElem?_getD, List.getElem?_cons_succ] at h1 h2 ⊢
    exact ⟨h1, h2⟩
theorem flat_get0 (ps : List Pt) (k : Nat) : (flat ps).getD (k * 2) 0 = (ps.getD k (0, 0)).1 := (flat_get ps k).1
theorem flat_get1 (ps : List Pt) (k : Nat) : (flat ps).getD (k * 2 + 1) 0 = (ps.getD k (0, 0)).2 := (flat_get ps k).2
theorem flat_set (ps : List Pt) (k : Nat) (h : k < ps.length) (a b : Int) : setInts (flat ps) (k * 2) [a, b] = flat (ps.set k (a, b)) := by
  have e : ps = ps.take k ++ ps[k] :: ps.drop (k + 1) := by simp
  have hl : (ps.take k).length = k := by simp; omega
  unfold setInts
  rw [flat_take, show k * 2 + [a, b].length = (k + 1) * 2 by simp; omega, flat_drop]
  rw [List.set_eq_take_append_cons_drop, if_pos h, flat_append]
  simp [flat]
theorem flat_snoc (ps : List Pt) (a b : Int) : flat ps ++ [a, b] = flat (ps ++ [(a, b)]) := by rw [flat_append]; rfl
theorem drop_cons {α : Type} {l : List α} {k : Nat} (h : k < l.length) (d : α) : l.drop k = l.getD k d :: l.drop (k + 1) := by
  rw [List.drop_eq_getElem_cons h]
  simp [h]
theorem wr {x : Int} (h : -9223372036854775808 ≤ x ∧ x ≤ 9223372036854775807) : IntKind.i64.wrap x = x := by
  rw [IntKind.wrap_i64]
  omega
theorem wsucc {i n : Nat} (h : i < n) (hn : n ≤ 1000000000) : IntKind.i64.wrap ((i : Int) + 1) = ((i + 1 : Nat) : Int) := by
  rw [wr (by omega)]; omega
theorem pick2k {b : Bool} {k : Ex → St → Tree} {e1 e2 : Ex} {s1 s2 : St} {F : Ex → St → Prop} {H : Value → List (Option Blk) → Prop} (h : (brT b (k e1 s1) (k e2 s2)).ok F H) : (k (bif b then e1 else e2) (bif b then s1 else s2)).ok F H := by
  cases b
  · exact h
  · exact h
/-- A loop's body on a state, cut at its ends to what is looked at again: keep tells which slots, M how many names. -/
def bodyL (P : Program) (E : Env) (m n : Nat) (lt : LT) (j : Nat) (c : Code) (keep : Ex → List Nat) (M : Nat) (s : St) : Tree := runN P E.R E.J (asK P E (runM P E m n)) (runM P E m n) lt noR m c j (fun e s' => .leaf e (cutS M (keep e) s')) s
theorem body_det {P : Program} (hm : P.follows .mixedOrders = true) {E : Env} (hE : EnvOk P E) {m n : Nat} {lt : LT} {j : Nat} {c : Code} (hL : LoopsGood P lt j c) {keep : Ex → List Nat} {M : Nat} {s : St} {F : Ex → St → Prop} (h : (bodyL P E m n lt j c keep M s).ok F (fun _ _ => False)) :
    ∃ e' s', Det P c s e' s' ∧ F e' (cutS M (keep e') s') := by
  obtain ⟨e', s', h1, h2⟩ := runN_det hE.R hE.J (asK_ok hE (runM_ok hm hE m n)) (runM_ok hm hE m n) hm c j hL noR_good _ F _ s h
  exact ⟨e', s', h2, h1⟩
theorem noLoops {P : Program} {lt : LT} {j : Nat} {c : Code} (h : loopsOf c = []) : LoopsGood P lt j c := fun i d hd => by rw [h] at hd; simp at hd
/-- Which slots are looked at again: behind a round, behind an exit, behind the function's end. -/
def keeps (nrm : List Nat) (exits : List (Nat × List Nat)) (ret : List Nat) : Ex → List Nat
  | .normal => nrm
  | .exit id => (exits.lookup id).getD []
  | .ret => ret
/-- The end of a round. -/
def RoundEnd {X : Type} (N : Nat) (St_of : X → St) (Inv : X → Prop) (μ : X → Nat) (re : X → Ex) (rs : X → St) (x : X) (e : Ex) (s : St) : Prop :=
  match e with
  | .normal => ∃ x' π, Inv x' ∧ μ x' < μ x ∧ re x' = re x ∧ rs x' = rs x ∧ WS N π s (St_of x')
  | e => e = re x ∧ ∃ π, WS N π s (rs x)
theorem loop_run {P : Program} (hm : P.follows .mixedOrders = true) {E : Env} (hE : EnvOk P E) {m n : Nat} {lt : LT} {j : Nat} {c : Code} {N : Nat} {X : Type} (St_of : X → St) (Inv : X → Prop) (μ : X → Nat) (re : X → Ex) (rs : X → St) (keep : Ex → List Nat) {M : Nat} (hM : ∀ x, (St_of x).mem.length = M) (hL : LoopsGood P lt j c)
    (h : ∀ x, Inv x → (bodyL P E m n lt j c keep M (St_of x)).ok (RoundEnd N St_of Inv μ re rs x) (fun _ _ => False))
    {x : X} (hx : Inv x) {s : St} {π : List (Option Nat)} (hN : s.mem.length = N) (hs : WS N π s (St_of x)) : Det P (.loop c) s (re x) (rs x) :=
  loop_det St_of Inv μ re rs keep (fun x hx => by
    obtain ⟨e', s', h1, h2⟩ := body_det hm hE hL (h x hx)
    refine ⟨e', s', h1, ?_⟩
    rw [hM]
    unfold RoundEnd at h2
    cases e' <;> exact h2) hx hN hs
theorem wv_top (f : Nat → Option (Option Nat)) (v : Value) : wv f v topV := by
  cases v <;> exact True.intro
theorem take_set_succ {α : Type} {l m : List α} {i : Nat} (hl : i < l.length) (hm : i < m.length) (h : l.take i = m.take i) (d : α) : (l.set i (m.getD i d)).take (i + 1) = m.take (i + 1) := by
  apply List.ext_getElem?
  intro k
  have hk := congrArg (fun x : List α => x[k]?) h
  simp only [List.getElem?_take] at hk ⊢
  rcases Nat.lt_trichotomy k i with hki | hki | hki
  · rw [if_pos (by omega), if_pos (by omega), List.getElem?_set_ne (by omega)]
    simpa [hki] using hk
  · subst hki
    rw [if_pos (by omega), if_pos (by omega)]
    simp [hl, hm]
  · rw [if_neg (by omega), if_neg (by omega)]
/-- Some slots of a frame; a frame of which only some slots are known. -/
def pickL (l : List Value) (idx : List Nat) : List Value := idx.map fun i => l.getD i undef
def lookV : List Nat → List Value → Nat → Value
  | i :: r, v :: vs, j => if i = j then v else lookV r vs j
  | _, _, _ => topV
def spread (n : Nat) (idx : List Nat) (vals : List Value) : List Value := (List.range n).map (lookV idx vals)
theorem lookV_ok {f : Nat → Option (Option Nat)} {l : List Value} : ∀ {idx : List Nat} {vals : List Value}, wvs f (pickL l idx) vals → ∀ j, wv f (l.getD j undef) (lookV idx vals j)
  | [], [], _, j => wv_top _ _
  | [], _ :: _, h, _ => h.elim
  | _ :: _, [], h, _ => h.elim
  | i :: r, v :: vs, h, j => by
    unfold lookV
    split
    · rename_i hij
      subst hij
      exact h.1
    · exact lookV_ok h.2 j
theorem wvs_of {f : Nat → Option (Option Nat)} : ∀ {l l' : List Value}, l.length = l'.length → (∀ j, j < l.length → wv f (l.getD j undef) (l'.getD j undef)) → wvs f l l'
  | [], [], _, _ => trivial
  | [], _ :: _, h, _ => by simp at h
  | _ :: _, [], h, _ => by simp at h
  | a :: r, b :: r', h, hj => ⟨hj 0 (by simp), wvs_of (by simpa using h) fun j hj' => by simpa using hj (j + 1) (by simpa using hj')⟩
theorem wvs_spread {f : Nat → Option (Option Nat)} {l vals l' : List Value} {n : Nat} {idx : List Nat} (hl : Nat.beq l.length n = true) (he : l' = spread n idx vals) (h : wvs f (pickL l idx) vals) : wvs f l l' := by
  have hl := Nat.eq_of_beq_eq_true hl
  subst he
  refine wvs_of (by simp [spread, hl]) fun j hj => ?_
  have : (spread n idx vals).getD j undef = lookV idx vals j := by
    have : j < n := by omega
    simp [spread, this]
  rw [this]
  exact lookV_ok h j
theorem wvs_spread' {f : Nat → Option (Option Nat)} {l l' : List Value} {n : Nat} (idx : List Nat) (hl : Nat.beq l.length n = true) (he : l' = spread n idx (pickL l' idx)) (h : wvs f (pickL l idx) (pickL l' idx)) : wvs f l l' := wvs_spread hl he h
/-- An entry for a loop is sound. -/
def LoopE (P : Program) (e : St → (Ex → St → Tree) → Option Tree) (c : Code) : Prop := ∀ s k t F H, e s k = some t → t.ok F H → ∃ e' s', (k e' s').ok F H ∧ Det P (.loop c) s e' s'
/-- A function with one loop. -/
def lt1 (e : St → (Ex → St → Tree) → Option Tree) : LT := fun j s k => match j with
  | 0 => e s k
  | _ => none
theorem lt1_good {P : Program} {e : St → (Ex → St → Tree) → Option Tree} {c : Code} (h : LoopE P e (((loopsOf c)[0]?).getD .skip)) : LoopsGood P (lt1 e) 0 c := by
  intro i d hd s k t F H hlt ht
  rw [Nat.zero_add] at hlt
  cases i with
  | zero =>
    rw [hd] at h
    exact h s k t F H hlt ht
  | succ i => cases hlt
def noL : LT := fun _ _ _ => none
theorem noL_good {P : Program} {j : Nat} {c : Code} : LoopsGood P noL j c := fun _ _ _ _ _ _ _ _ h => by cases h
/-- An argument's cells beyond what is asked. -/
theorem Res.more {P : Program} {f : FuncId} {ds ds' : List DArg} {v : Value} (h : Res P f ds' v) (hg : ∀ d ∈ ds, d.good) (hd : ∀ w args, DOks w ds args → DOks w ds' args) : Res P f ds v :=
  ⟨h.1, h.2.1, h.2.2.1, hg, fun w args ha => h.2.2.2.2 w args (hd w args ha)⟩
theorem ResR.more {P : Program} {f : FuncId} {ds ds' : List DArg} {v : Value} {b : Blk} (h : ResR P f ds' v b) (hg : ∀ d ∈ ds, d.good) (hd : ∀ w args, DOks w ds args → DOks w ds' args) : ResR P f ds v b :=
  ⟨h.1, h.2.1, h.2.2.1, hg, fun w args ha => h.2.2.2.2 w args (hd w args ha)⟩
/-- The first cells of a row argument. -/
theorem DOk.take {w : World} {l : Nat} {xs : List Int} {y : Value} (k : Nat) (h : DOk w (.row l (.ints xs)) y) : DOk w (.row l (.ints (xs.take k))) y := by
  obtain ⟨h1, ad, c', h2, h3, h4⟩ := h
  refine ⟨rfl, ad, c', h2, h3, h4.imp id ?_⟩
  rintro ⟨g, f, h5, h6, h7⟩
  refine ⟨g, f, h5, h6, fun j v hv => h7 j v ?_⟩
  simp only [Cs.list, List.getElem?_map] at hv ⊢
  rw [List.getElem?_take] at hv
  split at hv
  · exact hv
  · simp at hv
theorem DOks.imp {w : World} : ∀ {ds ds' : List DArg} {args : Array Value}, DOks w ds args → ds.length = ds'.length → (∀ (i : Nat) d d' y, ds[i]? = some d → ds'[i]? = some d' → DOk w d y → DOk w d' y) → DOks w ds' args := by
  intro ds ds' args h hl hi
  refine ⟨by rw [← hl]; exact h.1, fun i d' y hd' hy => ?_⟩
  have hlt : i < ds.length := by rw [hl]; exact (List.getElem?_eq_some_iff.1 hd').1
  exact hi i ds[i] d' y (by simp) hd' (h.2 i _ y (by simp) hy)
/-- The points of a row argument. -/
def ptsA (n : Nat) (xs : List Int) : List Pt := pts (xs.take (n * 2))
theorem ptsA_flat (ps : List Pt) : ptsA ps.length (flat ps) = ps := by
  unfold ptsA
  rw [flat_take, List.take_length, pts_flat]
theorem ptsA_spec {n : Nat} {xs : List Int} (h : n * 2 ≤ xs.length) : xs.take (n * 2) = flat (ptsA n xs) ∧ (ptsA n xs).length = n := by
  unfold ptsA
  have := flat_pts n (xs.take (n * 2)) (by simp; omega)
  exact ⟨this.1.symm, this.2⟩
/-- What is known for lists of points as they are is known for any cells. -/
theorem DOks.pts {w : World} {pre post : List DArg} {n : Nat} {xs : List Int} {args : Array Value} (ha : DOks w (pre ++ .row n (.ints xs) :: post) args) : DOks w (pre ++ .row n (.ints (xs.take (n * 2))) :: post) args := by
  refine ha.imp (by simp) fun i d d' y hd hd' hy => ?_
  rcases Nat.lt_or_ge i pre.length with hlt | hge
  · rw [List.getElem?_append_left hlt] at hd hd'
    rw [hd] at hd'
    obtain rfl : d = d' := by simpa using hd'
    exact hy
  · rw [List.getElem?_append_right hge] at hd hd'
    rcases hk : i - pre.length with _ | k
    · rw [hk] at hd hd'
      obtain rfl : DArg.row n (.ints xs) = d := by simpa using hd
      obtain rfl : DArg.row n (.ints (xs.take (n * 2))) = d' := by simpa using hd'
      exact hy.take _
    · rw [hk] at hd hd'
      simp only [List.getElem?_cons_succ] at hd hd'
      rw [hd] at hd'
      obtain rfl : d = d' := by simpa using hd'
      exact hy
theorem good_pts {pre post : List DArg} {n : Nat} {xs ys : List Int} (h : ∀ d ∈ pre ++ .row n (.ints xs) :: post, d.good) : ∀ d ∈ pre ++ .row n (.ints ys) :: post, d.good := by
  intro d hd
  rcases List.mem_append.1 hd with hd | hd
  · exact h d (List.mem_append_left _ hd)
  · rcases List.mem_cons.1 hd with rfl | hd
    · rfl
    · exact h d (List.mem_append_right _ (List.mem_cons_of_mem _ hd))
theorem res_pts1 {P : Program} {f : FuncId} {pre post : List DArg} {v : Value} {n : Nat} {xs : List Int} (hn : n * 2 ≤ xs.length) (h0 : Res P f (pre ++ .row (ptsA n xs).length (.ints (flat (ptsA n xs))) :: post) v) :
    Res P f (pre ++ .row n (.ints xs) :: post) v := by
  obtain ⟨h1, h2⟩ := ptsA_spec hn
  rw [h2, ← h1] at h0
  exact h0.more (good_pts h0.2.2.2.1) fun w args ha => ha.pts
end Go.Proofs.Ytolodncpegajkab
namespace Go.Proofs.Ytolodncpegajkab
set_option linter.all false
open Go.RowKit
abbrev iv (x : Int) : Value := .int .i64 x
def B0 : Tab := fun _ _ => none
theorem B0_ok : TabOk Try.prog B0 := fun _ _ _ _ h => by cases h
theorem mixed : Try.prog.follows .mixedOrders = true := by kernel_rfl
set_option maxRecDepth 100000 in
theorem tr_specValid (x y : Int) : runX Try.prog (tabE B0) 30 8 87 [.v (.agg #[iv x, iv y])] (fun u => .fin u []) = brT (decide (-1000 ≤ x)) (brT (decide (x ≤ 1000)) (brT (decide (-1000 ≤ y)) (.fin (.bool (decide (y ≤ 1000))) []) (.fin (.bool (false)) [])) (.fin (.bool (false)) [])) (.fin (.bool (false)) []) := by kernel_rfl
set_option maxRecDepth 100000 in
theorem tr_implValid (x y : Int) : runX Try.prog (tabE B0) 30 8 74 [.v (.agg #[iv x, iv y])] (fun u => .fin u []) = brT (decide (IntKind.i64.wrap (0 - 1000) ≤ x)) (brT (decide (x ≤ 1000)) (brT (decide (IntKind.i64.wrap (0 - 1000) ≤ y)) (.fin (.bool (decide (y ≤ 1000))) []) (.fin (.bool (false)) [])) (.fin (.bool (false)) [])) (.fin (.bool (false)) []) := by kernel_rfl
set_option maxRecDepth 100000 in
theorem tr_compare (x y : Int) : runX Try.prog (tabE B0) 30 8 141 [.v (iv x), .v (iv y)] (fun u => .fin u []) = brT (!x == x) (brT (!y == y) (.fin (.int .i64 (0)) []) (.fin (.int .i64 (-1)) [])) (brT (!y == y) (.fin (.int .i64 (1)) []) (brT (decide (x < y)) (.fin (.int .i64 (-1)) []) (brT (decide (y < x)) (.fin (.int .i64 (1)) []) (.fin (.int .i64 (0)) [])))) := by kernel_rfl
set_option maxRecDepth 100000 in
theorem tr_specSign (x : Int) : runX Try.prog (tabE B0) 30 8 152 [.v (iv x)] (fun u => .fin u []) = brT (decide (x < 0)) (.fin (.int .i64 (-1)) []) (brT (decide (0 < x)) (.fin (.int .i64 (1)) []) (.fin (.int .i64 (0)) [])) := by kernel_rfl
set_option maxRecDepth 100000 in
theorem tr_implSign (x : Int) : runX Try.prog (tabE B0) 30 8 167 [.v (iv x)] (fun u => .fin u []) = brT (!x == x) (.fin (.int .i64 (-1)) []) (brT (decide (x < 0)) (.fin (.int .i64 (-1)) []) (brT (decide (0 < x)) (.fin (.int .i64 (1)) []) (.fin (.int .i64 (0)) []))) := by kernel_rfl
theorem w1000 : IntKind.i64.wrap (0 - 1000) = -1000 := by decide
/-- The comparison of two numbers. -/
def cmpI (x y : Int) : Int := if x < y then -1 else if y < x then 1 else 0
theorem vbool_eq {a b : Bool} (h : a = b) : Value.bool a = .bool b := by rw [h]
theorem res_specValid (x y : Int) : Res Try.prog 87 [.v (.agg #[iv x, iv y])] (.bool (ptB x y)) := by
  refine res_of mixed (tabE_ok B0_ok) (m := 30) (n := 8) ?_
  rw [tr_specValid]
  simp only [brT_ok, Tree.ok, decide_eq_true_eq, decide_eq_false_iff_not]
  repeat' (first | apply And.intro | intro _)
  all_goals (refine vbool_eq ?_; unfold ptB; rw [Bool.eq_iff_iff]; simp; try omega)
theorem res_implValid (x y : Int) : Res Try.prog 74 [.v (.agg #[iv x, iv y])] (.bool (ptB x y)) := by
  refine res_of mixed (tabE_ok B0_ok) (m := 30) (n := 8) ?_
  rw [tr_implValid]
  simp only [brT_ok, Tree.ok, decide_eq_true_eq, decide_eq_false_iff_not, w1000]
  repeat' (first | apply And.intro | intro _)
  all_goals (refine vbool_eq ?_; unfold ptB; rw [Bool.eq_iff_iff]; simp; try omega)
theorem res_compare (x y : Int) : Res Try.prog 141 [.v (iv x), .v (iv y)] (iv (cmpI x y)) := by
  refine res_of mixed (tabE_ok B0_ok) (m := 30) (n := 8) ?_
  rw [tr_compare]
  simp [brT_ok, Tree.ok]
  repeat' (first | apply And.intro | intro _)
  all_goals (unfold cmpI; split <;> (try split) <;> omega)
theorem res_specSign (x : Int) : Res Try.prog 152 [.v (iv x)] (iv (cmpI x 0)) := by
  refine res_of mixed (tabE_ok B0_ok) (m := 30) (n := 8) ?_
  rw [tr_specSign]
  simp [brT_ok, Tree.ok]
  repeat' (first | apply And.intro | intro _)
  all_goals (unfold cmpI; split <;> (try split) <;> omega)
theorem res_implSign (x : Int) : Res Try.prog 167 [.v (iv x)] (iv (cmpI x 0)) := by
  refine res_of mixed (tabE_ok B0_ok) (m := 30) (n := 8) ?_
  rw [tr_implSign]
  simp [brT_ok, Tree.ok]
  repeat' (first | apply And.intro | intro _)
  all_goals (unfold cmpI; split <;> (try split) <;> omega)
end Go.Proofs.Ytolodncpegajkab
namespace Go.Proofs.Ytolodncpegajkab
set_option linter.all false
open Go.RowKit
theorem entersB_res {f : FuncId} (h : entersB Try.prog f = true) : enters Try.prog f ∧ Try.prog.inits.idxOf? f = none := by
  unfold entersB at h
  split at h
  · rename_i fn hf
    obtain ⟨h1, h2, _⟩ := entersB_spec hf (by unfold entersB; rw [hf]; exact h)
    exact ⟨h1, h2⟩
  · cases h
/-- A contract of a function of plain values, as it stands. -/
theorem res_calls {f : FuncId} {args : List Value} {v : Value} (he : entersB Try.prog f = true) (hp : args.all plainV = true) (hv : plainV v = true) (h : ∀ w, Calls Try.prog f args.toArray w fun e w' => e = .returned v ∧ Below w.heap.size w w') : Res Try.prog f (args.map .v) v := by
  obtain ⟨h1, h2⟩ := entersB_res he
  refine ⟨h1, h2, hv, fun d hd => ?_, fun w ys hd => ?_⟩
  · obtain ⟨x, hx, rfl⟩ := List.mem_map.1 hd
    exact List.all_eq_true.1 hp x hx
  · have e : ys = args.toArray := by
      apply Array.ext
      · simpa using hd.1.symm
      · intro i i1 i2
        have e1 : (args.map DArg.v)[i]? = some (.v (args[i]'(by simpa using i2))) := by simp
        exact (hd.2 i _ ys[i] e1 (by simp [i1])).2
    rw [e]
    exact h w
theorem below_same {f : FuncId} {args : Array Value} {w : World} {v : Value} (h : Calls Try.prog f args w fun e w' => e = .returned v ∧ w = w') : Calls Try.prog f args w fun e w' => e = .returned v ∧ Below w.heap.size w w' :=
  h.mono fun _ _ ⟨he, hw⟩ => ⟨he, by subst hw; exact Below.refl _ _⟩
def big (x : Int) : Prop := -4500000000000000000 ≤ x ∧ x ≤ 4500000000000000000
def big0 (x : Int) : Prop := 0 ≤ x ∧ x ≤ 4500000000000000000
def pPt : List DArg → Option (Value × List Prop)
  | [.v (.agg ⟨[.int .i64 x, .int .i64 y]⟩)] => some (.bool (ptB x y), [])
  | _ => none
def pCmp : List DArg → Option (Value × List Prop)
  | [.v (.int .i64 x), .v (.int .i64 y)] => some (iv (cmpI x y), [])
  | _ => none
def pSign : List DArg → Option (Value × List Prop)
  | [.v (.int .i64 x)] => some (iv (cmpI x 0), [])
  | _ => none
def pGcd : List DArg → Option (Value × List Prop)
  | [.v (.int .i64 x), .v (.int .i64 y)] => some (iv (gI x y), [big0 x, big0 y])
  | _ => none
def pAbs : List DArg → Option (Value × List Prop)
  | [.v (.int .i64 x)] => some (iv (x.natAbs : Int), [big x])
  | _ => none
def pGcdL : List DArg → Option (Value × List Prop)
  | [.row 2 (.vals [.int .i64 x, .int .i64 y])] => some (iv (gI x y), [big x, big y])
  | [.row 3 (.vals [.int .i64 x, .int .i64 y, .int .i64 z])] => some (iv (gI (gI x y) z), [big x, big y, big z])
  | _ => none
def pRatio : List DArg → Option (Value × List Prop)
  | [.v (.int .i64 x), .v (.int .i64 y)] => some (.agg #[iv (qN x y), iv (qD x y)], [big x, big y, y ≠ 0])
  | _ => none
def pAll : List DArg → Option (Value × List Prop)
  | [.row 2 (.vals [.int .i64 ax, .int .i64 ay, .int .i64 bx, .int .i64 b_y])] => some (.bool (ptB ax ay && ptB bx b_y), [])
  | [.row 3 (.vals [.int .i64 ax, .int .i64 ay, .int .i64 bx, .int .i64 b_y, .int .i64 cx, .int .i64 cy])] => some (.bool (ptB ax ay && ptB bx b_y && ptB cx cy), [])
  | [.row 4 (.vals [.int .i64 ax, .int .i64 ay, .int .i64 bx, .int .i64 b_y, .int .i64 cx, .int .i64 cy, .int .i64 dx, .int .i64 dy])] => some (.bool (ptB ax ay && ptB bx b_y && (ptB cx cy && ptB dx dy)), [])
  | _ => none
def T1 : Tab := fun f ds => match f with
  | 87 => pPt ds
  | 74 => pPt ds
  | 141 => pCmp ds
  | 152 => pSign ds
  | 167 => pSign ds
  | 120 => pGcd ds
  | 121 => pAbs ds
  | 166 => pGcdL ds
  | 81 => pRatio ds
  | 147 => pRatio ds
  | 90 => pAll ds
  | _ => none
theorem row_open {w : World} {l : Nat} {cs : Cs} {y : Value} (hl : 0 < l) (h : DOk w (.row l cs) y) : ∃ g f c', y = .slice (some ⟨g, f, none⟩) l c' ∧ l ≤ c' ∧ g < w.heap.size ∧ ∀ (k : Nat) v, cs.list[k]? = some v → w.cell? ⟨g, f + k, none⟩ = some v := by
  obtain ⟨_, ad, c', h1, h2, h3⟩ := h
  obtain ⟨g, f, rfl, h4, h5⟩ := h3.resolve_left (by omega)
  exact ⟨g, f, c', h1, h2, h4, h5⟩
theorem res_row {f : FuncId} {l : Nat} {cs : Cs} {v : Value} (hl : 0 < l) (he : entersB Try.prog f = true) (hv : plainV v = true) (hat : allAtoms cs = true) (h : ∀ w g o c', l ≤ c' → g < w.heap.size → (∀ (k : Nat) v, cs.list[k]? = some v → w.cell? ⟨g, o + k, none⟩ = some v) →
    Calls Try.prog f #[.slice (some ⟨g, o, none⟩) l c'] w fun e w' => e = .returned v ∧ Below w.heap.size w w') : Res Try.prog f [.row l cs] v := by
  obtain ⟨h1, h2⟩ := entersB_res he
  refine ⟨h1, h2, hv, fun d hd => ?_, fun w ys hd => ?_⟩
  · obtain rfl : d = .row l cs := by simpa using hd
    exact hat
  · have hs := hd.1
    have h0 : ys[0]? = some (ys[0]'(by simp at hs; omega)) := by simp
    obtain ⟨g, o, c', e1, e2, e3, e4⟩ := row_open hl (hd.2 0 _ _ rfl h0)
    have e : ys = #[.slice (some ⟨g, o, none⟩) l c'] := by
      apply Array.ext
      · simpa using hs.symm
      · intro i i1 i2
        have : i = 0 := by simp at i2; omega
        subst this
        simpa using e1
    rw [e]
    exact h w g o c' e2 e3 e4
theorem gL3 (a b c : Int) : gL (pick3 a b c) 3 = gI (gI a b) c := by
  show gI (gI (gI 0 (pick3 a b c 0)) (pick3 a b c 1)) (pick3 a b c 2) = _
  simp only [pick3]
  rw [gI_zero_left, gI_abs]
theorem T1r_0 {ds : List DArg} {v : Value} {C : List Prop} (h : pPt ds = some (v, C)) (hC : AllP C) : Res Try.prog 87 ds v := by
  unfold pPt at h
  split at h
  · obtain ⟨rfl, rfl⟩ : _ ∧ _ := by simpa using h
    exact res_specValid _ _
  · cases h
theorem T1r_1 {ds : List DArg} {v : Value} {C : List Prop} (h : pPt ds = some (v, C)) (hC : AllP C) : Res Try.prog 74 ds v := by
  unfold pPt at h
  split at h
  · obtain ⟨rfl, rfl⟩ : _ ∧ _ := by simpa using h
    exact res_implValid _ _
  · cases h
theorem T1r_2 {ds : List DArg} {v : Value} {C : List Prop} (h : pCmp ds = some (v, C)) (hC : AllP C) : Res Try.prog 141 ds v := by
  unfold pCmp at h
  split at h
  · obtain ⟨rfl, rfl⟩ : _ ∧ _ := by simpa using h
    exact res_compare _ _
  · cases h
theorem T1r_3 {ds : List DArg} {v : Value} {C : List Prop} (h : pSign ds = some (v, C)) (hC : AllP C) : Res Try.prog 152 ds v := by
  unfold pSign at h
  split at h
  · obtain ⟨rfl, rfl⟩ : _ ∧ _ := by simpa using h
    exact res_specSign _
  · cases h
theorem T1r_4 {ds : List DArg} {v : Value} {C : List Prop} (h : pSign ds = some (v, C)) (hC : AllP C) : Res Try.prog 167 ds v := by
  unfold pSign at h
  split at h
  · obtain ⟨rfl, rfl⟩ : _ ∧ _ := by simpa using h
    exact res_implSign _
  · cases h
theorem T1r_5 {ds : List DArg} {v : Value} {C : List Prop} (h : pGcd ds = some (v, C)) (hC : AllP C) : Res Try.prog 120 ds v := by
  unfold pGcd at h
  split at h
  · obtain ⟨rfl, rfl⟩ : _ ∧ _ := by simpa using h
    exact res_calls (by kernel_rfl) rfl rfl fun w => below_same (specGcd_any _ _ w hC.1 hC.2.1)
  · cases h
theorem T1r_6 {ds : List DArg} {v : Value} {C : List Prop} (h : pAbs ds = some (v, C)) (hC : AllP C) : Res Try.prog 121 ds v := by
  unfold pAbs at h
  split at h
  · obtain ⟨rfl, rfl⟩ : _ ∧ _ := by simpa using h
    exact res_calls (by kernel_rfl) rfl rfl fun w => below_same (abs_any _ w (by have := hC.1.1; omega))
  · cases h
theorem T1r_7 {ds : List DArg} {v : Value} {C : List Prop} (h : pGcdL ds = some (v, C)) (hC : AllP C) : Res Try.prog 166 ds v := by
  unfold pGcdL at h
  split at h
  · rename_i x y
    obtain ⟨rfl, rfl⟩ : _ ∧ _ := by simpa using h
    refine res_row (by decide) (by kernel_rfl) rfl rfl fun w g o c' _ hg hcell => ?_
    have := implGcd_any (some ⟨g, o, none⟩) 2 c' (pick2 x y) w (by omega) (fun k hk => ⟨g, o, rfl, hg, by
      match k, hk with
      | 0, _ => exact hcell 0 _ rfl
      | 1, _ => exact hcell 1 _ rfl⟩) (fun k hk => by
      match k, hk with
      | 0, _ => exact hC.1
      | 1, _ => exact hC.2.1)
    rw [gL2] at this
    exact this
  · rename_i x y z
    obtain ⟨rfl, rfl⟩ : _ ∧ _ := by simpa using h
    refine res_row (by decide) (by kernel_rfl) rfl rfl fun w g o c' _ hg hcell => ?_
    have := implGcd_any (some ⟨g, o, none⟩) 3 c' (pick3 x y z) w (by omega) (fun k hk => ⟨g, o, rfl, hg, by
      match k, hk with
      | 0, _ => exact hcell 0 _ rfl
      | 1, _ => exact hcell 1 _ rfl
      | 2, _ => exact hcell 2 _ rfl⟩) (fun k hk => by
      match k, hk with
      | 0, _ => exact hC.1
      | 1, _ => exact hC.2.1
      | 2, _ => exact hC.2.2.1)
    rw [gL3] at this
    exact this
  · cases h
theorem T1r_8 {ds : List DArg} {v : Value} {C : List Prop} (h : pRatio ds = some (v, C)) (hC : AllP C) : Res Try.prog 81 ds v := by
  unfold pRatio at h
  split at h
  · obtain ⟨rfl, rfl⟩ : _ ∧ _ := by simpa using h
    exact res_calls (by kernel_rfl) rfl rfl fun w => ratio_any _ _ w hC.1 hC.2.1 hC.2.2.1
  · cases h
theorem T1r_9 {ds : List DArg} {v : Value} {C : List Prop} (h : pRatio ds = some (v, C)) (hC : AllP C) : Res Try.prog 147 ds v := by
  unfold pRatio at h
  split at h
  · obtain ⟨rfl, rfl⟩ : _ ∧ _ := by simpa using h
    exact res_calls (by kernel_rfl) rfl rfl fun w => lowest_any _ _ w hC.1 hC.2.1 hC.2.2.1
  · cases h
theorem T1r_10 {ds : List DArg} {v : Value} {C : List Prop} (h : pAll ds = some (v, C)) (hC : AllP C) : Res Try.prog 90 ds v := by
  unfold pAll at h
  split at h
  · rename_i ax ay bx b_y
    obtain ⟨rfl, rfl⟩ : _ ∧ _ := by simpa using h
    refine res_row (by decide) (by kernel_rfl) rfl rfl fun w g o c' _ hg hcell => ?_
    have := allValid_any (some ⟨g, o, none⟩) 2 c' (pick2 ax bx) (pick2 ay b_y) w (by omega) (fun k hk => ⟨g, o, rfl, hg, by
      match k, hk with
      | 0, _ => exact ⟨hcell 0 _ rfl, hcell 1 _ rfl⟩
      | 1, _ => exact ⟨hcell 2 _ rfl, hcell 3 _ rfl⟩⟩)
    rw [allB2] at this
    exact this
  · rename_i ax ay bx b_y cx cy
    obtain ⟨rfl, rfl⟩ : _ ∧ _ := by simpa using h
    refine res_row (by decide) (by kernel_rfl) rfl rfl fun w g o c' _ hg hcell => ?_
    have := allValid_any (some ⟨g, o, none⟩) 3 c' (pick3 ax bx cx) (pick3 ay b_y cy) w (by omega) (fun k hk => ⟨g, o, rfl, hg, by
      match k, hk with
      | 0, _ => exact ⟨hcell 0 _ rfl, hcell 1 _ rfl⟩
      | 1, _ => exact ⟨hcell 2 _ rfl, hcell 3 _ rfl⟩
      | 2, _ => exact ⟨hcell 4 _ rfl, hcell 5 _ rfl⟩⟩)
    rw [allB3] at this
    exact this
  · rename_i ax ay bx b_y cx cy dx dy
    obtain ⟨rfl, rfl⟩ : _ ∧ _ := by simpa using h
    refine res_row (by decide) (by kernel_rfl) rfl rfl fun w g o c' _ hg hcell => ?_
    have := allValid_any (some ⟨g, o, none⟩) 4 c' (fun k => match k with
      | 0 => ax
      | 1 => bx
      | 2 => cx
      | _ => dx) (fun k => match k with
      | 0 => ay
      | 1 => b_y
      | 2 => cy
      | _ => dy) w (by omega) (fun k hk => ⟨g, o, rfl, hg, by
      match k, hk with
      | 0, _ => exact ⟨hcell 0 _ rfl, hcell 1 _ rfl⟩
      | 1, _ => exact ⟨hcell 2 _ rfl, hcell 3 _ rfl⟩
      | 2, _ => exact ⟨hcell 4 _ rfl, hcell 5 _ rfl⟩
      | 3, _ => exact ⟨hcell 6 _ rfl, hcell 7 _ rfl⟩⟩)
    rw [allB_succ, allB_succ, allB_succ, allB_succ, allB_zero] at this
    simpa [Bool.and_assoc] using this
  · cases h
theorem T1_ok : TabOk Try.prog T1 := by
  intro f ds v C h hC
  unfold T1 at h
  (try split at h)
  all_goals first | with_reducible exact T1r_0 h hC | with_reducible exact T1r_1 h hC | with_reducible exact T1r_2 h hC | with_reducible exact T1r_3 h hC | with_reducible exact T1r_4 h hC | with_reducible exact T1r_5 h hC | with_reducible exact T1r_6 h hC | with_reducible exact T1r_7 h hC | with_reducible exact T1r_8 h hC | with_reducible exact T1r_9 h hC | with_reducible exact T1r_10 h hC | cases h
end Go.Proofs.Ytolodncpegajkab
namespace Go.Proofs.Ytolodncpegajkab
set_option linter.all false
open Go.RowKit
def EM : Env := mkE B0 (fun _ _ => none) (fun _ => noL)
theorem EM_ok : EnvOk Try.prog EM := mkEOk B0_ok (fun _ _ _ _ _ h => (by cases h)) (fun _ _ _ => noL_good)
/-- k, k + 1, ..: so many. -/
def marks : Int → Nat → List Int
  | _, 0 => []
  | k, n + 1 => k :: marks (k + 1) n
theorem marks_length : ∀ (n : Nat) (k : Int), (marks k n).length = n
  | 0, _ => rfl
  | n + 1, k => by simp [marks, marks_length n]
theorem marks_get : ∀ (n : Nat) (k : Int) (i : Nat), i < n → (marks k n).getD i 0 = k + i
  | 0, _, i, h => by omega
  | n + 1, k, 0, _ => by simp [marks]
  | n + 1, k, i + 1, h => by
    have := marks_get n (k + 1) i (by omega)
    simp only [marks, List.getD_eq_getElem?_getD, List.getElem?_cons_succ] at this ⊢
    rw [this]
    omega
theorem setInts_one (xs : List Int) (i : Nat) (h : i < xs.length) (a : Int) : setInts xs i [a] = xs.set i a := by
  unfold setInts
  rw [List.set_eq_take_append_cons_drop, if_pos h]
  simp
theorem vI0 {k : Int} {n : Nat} (h : n = 0) : Value.int .i64 k = .int .i64 (k + (n : Int)) := by subst h; simp
theorem take_set_two {l m : List Int} {i : Nat} (hl : i * 2 + 1 < l.length) (hm : i * 2 + 1 < m.length) (h : l.take (i * 2) = m.take (i * 2)) : ((l.set (i * 2) (m.getD (i * 2) 0)).set (i * 2 + 1) (m.getD (i * 2 + 1) 0)).take ((i + 1) * 2) = m.take ((i + 1) * 2) := by
  have h1 := take_set_succ (l := l) (m := m) (i := i * 2) (by omega) (by omega) h 0
  have h2 := take_set_succ (l := l.set (i * 2) (m.getD (i * 2) 0)) (m := m) (i := i * 2 + 1) (by simp; omega) (by omega) h1 0
  rw [show (i + 1) * 2 = i * 2 + 1 + 1 by omega]
  exact h2
end Go.Proofs.Ytolodncpegajkab
namespace Go.Proofs.Ytolodncpegajkab
set_option linter.all false
open Go.RowKit
theorem fn_is {f : FuncId} {fn g : Func} (h : Try.prog.funcs[f]? = some g) (hf : Try.prog.funcs[f]? = some fn) : g = fn := by rw [h] at hf; simpa using hf
end Go.Proofs.Ytolodncpegajkab
namespace Go.Proofs.Ytolodncpegajkab
set_option linter.all false
open Go.RowKit
def vB (p : Pt) : Bool := ptB p.1 p.2
def allV (ps : List Pt) : Bool := ps.all vB
end Go.Proofs.Ytolodncpegajkab
namespace Go.Proofs.Ytolodncpegajkab
set_option linter.all false
open Go.RowKit
def Big (ps : List Pt) : Prop := ps.length ≤ 1000000000
end Go.Proofs.Ytolodncpegajkab
namespace Go.Proofs.Ytolodncpegajkab
set_option linter.all false
open Go.RowKit
theorem allV_get {ps : List Pt} (h : allV ps = true) (i : Nat) : -1000 ≤ (ps.getD i (0, 0)).1 ∧ (ps.getD i (0, 0)).1 ≤ 1000 ∧ -1000 ≤ (ps.getD i (0, 0)).2 ∧ (ps.getD i (0, 0)).2 ≤ 1000 := by
  rcases Nat.lt_or_ge i ps.length with hlt | hge
  · have := List.all_eq_true.1 h (ps.getD i (0, 0)) (by simp [hlt])
    simpa [vB, ptB] using this
  · simp [hge]
theorem brT_t (x y : Tree) : brT true x y = x := rfl
theorem brT_f (x y : Tree) : brT false x y = y := rfl
def eqL (ps qs : List Pt) : Bool := decide (ps = qs)
end Go.Proofs.Ytolodncpegajkab
namespace Go.Proofs.Ytolodncpegajkab
set_option linter.all false
open Go.RowKit
/-- Of so many from i on, all. -/
def allQ (P : Nat → Bool) : Nat → Nat → Bool
  | _, 0 => true
  | i, m + 1 => P i && allQ P (i + 1) m
theorem allQ_step {P : Nat → Bool} {i n : Nat} (h : i < n) : allQ P i (n - i) = (P i && allQ P (i + 1) (n - (i + 1))) := by
  rw [show n - i = (n - (i + 1)) + 1 by omega]
  rfl
theorem allQ_end {P : Nat → Bool} {i n : Nat} (h : n ≤ i) : allQ P i (n - i) = true := by
  rw [show n - i = 0 by omega]
  rfl
theorem allQ_get {P : Nat → Bool} : ∀ (m i : Nat), allQ P i m = true → ∀ j, i ≤ j → j < i + m → P j = true
  | 0, i, _, j, h1, h2 => by omega
  | m + 1, i, h, j, h1, h2 => by
    simp only [allQ, Bool.and_eq_true] at h
    rcases Nat.lt_or_ge i j with h3 | h3
    · exact allQ_get m (i + 1) h.2 j (by omega) (by omega)
    · obtain rfl : j = i := by omega
      exact h.1
end Go.Proofs.Ytolodncpegajkab
namespace Go.Proofs.Ytolodncpegajkab
set_option linter.all false
open Go.RowKit
set_option maxRecDepth 100000 in
theorem tr_sVg (x y : Int) : bodyV Try.prog (tabE B0) 30 8 98 [.v (.agg #[iv x, iv y])] = brT (decide (-1000 ≤ x)) (brT (decide (x ≤ 1000)) (brT (decide (-1000 ≤ y)) (.fin (.bool (decide (y ≤ 1000))) []) (.fin (.bool (false)) [])) (.fin (.bool (false)) [])) (.fin (.bool (false)) []) := by kernel_rfl
set_option maxRecDepth 100000 in
theorem tr_IVg (x y : Int) : bodyV Try.prog (tabE B0) 30 8 99 [.v (.agg #[iv x, iv y])] = brT (decide (IntKind.i64.wrap (0 - 1000) ≤ x)) (brT (decide (x ≤ 1000)) (brT (decide (IntKind.i64.wrap (0 - 1000) ≤ y)) (.fin (.bool (decide (y ≤ 1000))) []) (.fin (.bool (false)) [])) (.fin (.bool (false)) [])) (.fin (.bool (false)) []) := by kernel_rfl
theorem res_sVg (x y : Int) : Res Try.prog 98 [.v (.agg #[iv x, iv y])] (.bool (ptB x y)) := by
  refine bodyV_res mixed (tabE_ok B0_ok) (m := 30) (n := 8) rfl ?_
  rw [tr_sVg]
  simp only [brT_ok, Tree.ok, decide_eq_true_eq, decide_eq_false_iff_not]
  repeat' (first | apply And.intro | intro _)
  all_goals (refine vbool_eq ?_; unfold ptB; rw [Bool.eq_iff_iff]; simp; try omega)
theorem res_IVg (x y : Int) : Res Try.prog 99 [.v (.agg #[iv x, iv y])] (.bool (ptB x y)) := by
  refine bodyV_res mixed (tabE_ok B0_ok) (m := 30) (n := 8) rfl ?_
  rw [tr_IVg]
  simp only [brT_ok, Tree.ok, decide_eq_true_eq, decide_eq_false_iff_not, w1000]
  repeat' (first | apply And.intro | intro _)
  all_goals (refine vbool_eq ?_; unfold ptB; rw [Bool.eq_iff_iff]; simp; try omega)
def TG1 : Tab := fun f ds => match f with
  | 98 => pPt ds
  | 99 => pPt ds
  | _ => T1 f ds
theorem pPt_ok {f : FuncId} (h : ∀ x y : Int, Res Try.prog f [.v (.agg #[iv x, iv y])] (.bool (ptB x y))) {ds : List DArg} {v : Value} {C : List Prop} (hd : pPt ds = some (v, C)) : Res Try.prog f ds v := by
  unfold pPt at hd
  split at hd
  · obtain ⟨rfl, rfl⟩ : _ ∧ _ := by simpa using hd
    exact h _ _
  · cases hd
theorem TG1_ok : TabOk Try.prog TG1 := by
  intro f ds v C h hC
  unfold TG1 at h
  (try split at h)
  all_goals first | with_reducible exact pPt_ok res_sVg h | with_reducible exact pPt_ok res_SVg h | with_reducible exact pPt_ok res_IVg h | exact T1_ok _ _ _ _ h hC
end Go.Proofs.Ytolodncpegajkab
namespace Go.Proofs.Ytolodncpegajkab
set_option linter.all false
open Go.RowKit
theorem negTg (b : Bool) : negB true b = !b := by cases b <;> rfl
theorem negFg (b : Bool) : negB false b = b := by cases b <;> rfl
def ngQ (ps : List Pt) (x y : Int) (i : Nat) : Bool := !((ps.getD i (0, 0)).1 == x && (ps.getD i (0, 0)).2 == y)
def fgN (ps : List Pt) (x y : Int) : Nat → Nat → Nat
  | i, 0 => i
  | i, n + 1 => bif ngQ ps x y i then fgN ps x y (i + 1) n else i
theorem fgN_step {ps : List Pt} {x y : Int} {i n : Nat} (h : i < n) : fgN ps x y i (n - i) = bif ngQ ps x y i then fgN ps x y (i + 1) (n - (i + 1)) else i := by
  rw [show n - i = (n - (i + 1)) + 1 by omega]
  rfl
noncomputable def c_toGs : Code := ((loopsOf (codeOf Try.f17))[0]?).getD .skip
def k_toGs : Ex → List Nat := keeps [0, 3, 4] [(0, [3])] [2]
def s_toGs (ps : List Pt) (n : Nat) : Nat × (List Pt) → St := fun (i, qs) => ⟨[.slice (some ⟨0, 0, none⟩) ps.length ps.length, topV, topV, .slice (some ⟨1, 0, none⟩) n n, .int .i64 i, topV, topV, topV, topV, topV, topV, topV, topV, topV, topV, topV, topV, topV, topV, topV, topV, topV, topV], [some ⟨.view, .ints (flat ps)⟩, some ⟨.row 36 2, .ints (flat qs)⟩]⟩
def re_toGs : Nat × (List Pt) → Ex := fun _ => .exit 0
def rs_toGs (ps : List Pt) (n : Nat) : Nat × (List Pt) → St := fun (i, qs) => ⟨[topV, topV, topV, .slice (some ⟨1, 0, none⟩) n n, topV, topV, topV, topV, topV, topV, topV, topV, topV, topV, topV, topV, topV, topV, topV, topV, topV, topV, topV], [some ⟨.view, .ints (flat ps)⟩, some ⟨.row 36 2, .ints (flat ps)⟩]⟩
set_option maxRecDepth 100000 in
theorem tr_toGs (ps : List Pt) (n : Nat) (i : Nat) (qs : List Pt) : bodyL Try.prog EM 30 12 noL 1 c_toGs k_toGs 2 (s_toGs ps n (i, qs)) = brT (decide ((↑i : Int) < (↑ps.length : Int))) (.need ((0 : Int) ≤ (↑i : Int) ∧ (↑i : Int) < (↑ps.length : Int)) (.need ((0 : Nat) + (↑i : Int).toNat * (2 : Nat) + (2 : Nat) ≤ (flat ps).length) (.need ((0 : Int) ≤ (↑i : Int) ∧ (↑i : Int) < (↑n : Int)) (.need ((0 : Nat) + (↑i : Int).toNat * (2 : Nat) + (2 : Nat) ≤ (flat qs).length) (.leaf .normal ⟨[.slice (some ⟨0, 0, none⟩) (ps.length) (ps.length), topV, topV, .slice (some ⟨1, 0, none⟩) (n) (n), .int .i64 (IntKind.i64.wrap ((↑i : Int) + 1)), topV, topV, topV, topV, topV, topV, topV, topV, topV, topV, topV, topV, topV, topV, topV, topV, topV, topV], [some ⟨.view, .ints (flat ps)⟩, some ⟨.row 36 2, .ints (setInts (flat qs) (0 + (↑i : Int).toNat * 2) [(flat ps).getD (0 + (↑i : Int).toNat * 2) 0, (flat ps).getD (0 + (↑i : Int).toNat * 2 + 1) 0])⟩]⟩))))) (.leaf (.exit 0) ⟨[topV, topV, topV, .slice (some ⟨1, 0, none⟩) (n) (n), topV, topV, topV, topV, topV, topV, topV, topV, topV, topV, topV, topV, topV, topV, topV, topV, topV, topV, topV], [some ⟨.view, .ints (flat ps)⟩, some ⟨.row 36 2, .ints (flat qs)⟩]⟩) := by kernel_rfl
set_option maxRecDepth 100000 in
theorem nl_toGs : loopsOf c_toGs = [] := by kernel_rfl
def inv_toGs (ps : List Pt) (n : Nat) : Nat × (List Pt) → Prop := fun (i, qs) => i ≤ ps.length ∧ ps.length = n ∧ qs.length = n ∧ qs.take i = ps.take i
def me_toGs (ps : List Pt) (n : Nat) : Nat × (List Pt) → Nat := fun (i, qs) => ps.length - i
/-- A round of this loop. -/
def Round_toGs (ps : List Pt) (n : Nat) : Prop := ∀ xx : Nat × (List Pt), inv_toGs ps n xx → (bodyL Try.prog EM 30 12 noL 1 c_toGs k_toGs 2 (s_toGs ps n xx)).ok (RoundEnd 2 (s_toGs ps n) (inv_toGs ps n) (me_toGs ps n) re_toGs (rs_toGs ps n) xx) (fun _ _ => False)
def e_toGs (s : St) (k : Ex → St → Tree) : Option Tree := match Nat.beq s.tmps.length 23, pickL s.tmps [0, 3, 4], s.mem with
  | true, [.slice (some ⟨0, 0, none⟩) n _, .slice (some ⟨1, 0, none⟩) m _, .int .i64 i], [some ⟨.view, .ints xs⟩, some ⟨.row 36 2, .ints ys⟩] => some (needs [i = 0, m = n, xs.length = n * 2, ys.length = n * 2, n ≤ 1000000000] (k (.exit 0) ⟨[topV, topV, topV, .slice (some ⟨1, 0, none⟩) m m, topV, topV, topV, topV, topV, topV, topV, topV, topV, topV, topV, topV, topV, topV, topV, topV, topV, topV, topV], [some ⟨.view, .ints xs⟩, some ⟨.row 36 2, .ints xs⟩]⟩))
  | _, _, _ => none
set_option maxRecDepth 100000 in
theorem round_toGs (ps : List Pt) (n : Nat) (h : ps.length ≤ 1000000000) : Round_toGs ps n := by
  rintro ⟨i, qs⟩ ⟨h1, h2, h3, h4⟩
  rw [tr_toGs]
  simp only [brT_ok, Tree.ok, decide_eq_true_eq, decide_eq_false_iff_not, Int.toNat_natCast, Nat.zero_add, flat_length, flat_get0, flat_get1, Cs.size]
  refine ⟨fun hlt => ⟨by omega, by omega, by omega, by omega, ?_⟩, fun hge => ?_⟩
  · rw [wsucc (n := ps.length) (by omega) h, flat_set qs i (by omega)]
    refine ⟨(i + 1, qs.set i (ps.getD i (0, 0))), [], ⟨by omega, h2, by simp [h3], ?_⟩, ?_, rfl, rfl, ?_⟩
    · exact take_set_succ (by omega) (by omega) h4 _
    · show ps.length - (i + 1) < ps.length - i; omega
    · repeat' (first | exact True.intro | exact rfl | exact fun _ => rfl | refine And.intro ?_ ?_)
  · have e : qs = ps := by
      rw [List.take_of_length_le (by omega), List.take_of_length_le (by omega)] at h4
      exact h4
    subst e
    refine ⟨rfl, [], ?_⟩
    repeat' (first | exact True.intro | exact rfl | exact fun _ => rfl | refine And.intro ?_ ?_)
set_option maxRecDepth 100000 in
theorem lg_toGs : LoopE Try.prog e_toGs c_toGs := by
  intro s k t F H hlt ht
  unfold e_toGs at hlt
  split at hlt
  rotate_left
  · cases hlt
  rename_i hlen hpick hmem
  obtain ⟨tmps, mem⟩ := s
  simp only at hlen hpick hmem
  subst hmem
  obtain rfl := Option.some.inj hlt
  obtain ⟨⟨rfl, rfl, h1, h2, h3, _⟩, ht2⟩ := needs_ok ht
  clear ht hlt
  obtain ⟨ps, rfl, rfl⟩ := even_flat h1
  obtain ⟨qs, rfl, hq⟩ := even_flat h2
  refine ⟨_, _, ht2, loop_run mixed EM_ok (s_toGs ps ps.length) (inv_toGs ps ps.length) (me_toGs ps ps.length) re_toGs (rs_toGs ps ps.length) k_toGs (fun _ => rfl) (noLoops nl_toGs) (round_toGs ps ps.length h3) (x := (0, qs)) ⟨Nat.zero_le _, rfl, hq, rfl⟩ (π := []) rfl ?_⟩
  refine ⟨rfl, rfl, ?_, wvs_spread' [0, 3, 4] hlen rfl ?_⟩
  · repeat' (first | exact True.intro | exact rfl | exact wv_top _ _ | exact fun _ => rfl | assumption | exact Eq.symm (by assumption) | exact vI0 rfl | refine And.intro ?_ ?_)
  · rw [hpick]
    repeat' (first | exact True.intro | exact rfl | exact wv_top _ _ | exact fun _ => rfl | assumption | exact Eq.symm (by assumption) | exact vI0 rfl | refine And.intro ?_ ?_)
noncomputable def c_eqGs : Code := ((loopsOf (codeOf Try.f20))[0]?).getD .skip
def k_eqGs : Ex → List Nat := keeps [0, 1, 5] [(0, [])] [4]
def s_eqGs (ps : List Pt) (qs : List Pt) : Nat → St := fun i => ⟨[.slice (some ⟨0, 0, none⟩) ps.length ps.length, .slice (some ⟨1, 0, none⟩) qs.length qs.length, topV, topV, topV, .int .i64 i, topV, topV, topV, topV, topV, topV, topV, topV, topV, topV, topV, topV, topV, topV, topV, topV, topV, topV, topV, topV, topV], [some ⟨.view, .ints (flat ps)⟩, some ⟨.view, .ints (flat qs)⟩]⟩
def re_eqGs (ps : List Pt) (qs : List Pt) : Nat → Ex := fun i => bif decide (ps.drop i = qs.drop i) then .exit 0 else .ret
def rs_eqGs (ps : List Pt) (qs : List Pt) : Nat → St := fun i => bif decide (ps.drop i = qs.drop i) then ⟨[topV, topV, topV, topV, topV, topV, topV, topV, topV, topV, topV, topV, topV, topV, topV, topV, topV, topV, topV, topV, topV, topV, topV, topV, topV, topV, topV], [some ⟨.view, .ints (flat ps)⟩, some ⟨.view, .ints (flat qs)⟩]⟩ else ⟨[topV, topV, topV, topV, .bool false, topV, topV, topV, topV, topV, topV, topV, topV, topV, topV, topV, topV, topV, topV, topV, topV, topV, topV, topV, topV, topV, topV], [some ⟨.view, .ints (flat ps)⟩, some ⟨.view, .ints (flat qs)⟩]⟩
set_option maxRecDepth 100000 in
theorem tr_eqGs (ps : List Pt) (qs : List Pt) (i : Nat) : bodyL Try.prog EM 30 12 noL 1 c_eqGs k_eqGs 2 (s_eqGs ps qs i) = brT (decide ((↑i : Int) < (↑ps.length : Int))) (brT (!(flat ps).getD (0 + (↑i : Int).toNat * 2) 0 == (flat qs).getD (0 + (↑i : Int).toNat * 2) 0) (.need ((0 : Int) ≤ (↑i : Int) ∧ (↑i : Int) < (↑ps.length : Int)) (.need ((0 : Nat) + (↑i : Int).toNat * (2 : Nat) + (2 : Nat) ≤ (flat ps).length) (.need ((0 : Int) ≤ (↑i : Int) ∧ (↑i : Int) < (↑qs.length : Int)) (.need ((0 : Nat) + (↑i : Int).toNat * (2 : Nat) + (2 : Nat) ≤ (flat qs).length) (.leaf .ret ⟨[topV, topV, topV, topV, .bool (false), topV, topV, topV, topV, topV, topV, topV, topV, topV, topV, topV, topV, topV, topV, topV, topV, topV, topV, topV, topV, topV, topV], [some ⟨.view, .ints (flat ps)⟩, some ⟨.view, .ints (flat qs)⟩]⟩))))) (brT (!(flat ps).getD (0 + (↑i : Int).toNat * 2 + 1) 0 == (flat qs).getD (0 + (↑i : Int).toNat * 2 + 1) 0) (.need ((0 : Int) ≤ (↑i : Int) ∧ (↑i : Int) < (↑ps.length : Int)) (.need ((0 : Nat) + (↑i : Int).toNat * (2 : Nat) + (2 : Nat) ≤ (flat ps).length) (.need ((0 : Int) ≤ (↑i : Int) ∧ (↑i : Int) < (↑qs.length : Int)) (.need ((0 : Nat) + (↑i : Int).toNat * (2 : Nat) + (2 : Nat) ≤ (flat qs).length) (.leaf .ret ⟨[topV, topV, topV, topV, .bool (false), topV, topV, topV, topV, topV, topV, topV, topV, topV, topV, topV, topV, topV, topV, topV, topV, topV, topV, topV, topV, topV, topV], [some ⟨.view, .ints (flat ps)⟩, some ⟨.view, .ints (flat qs)⟩]⟩))))) (.need ((0 : Int) ≤ (↑i : Int) ∧ (↑i : Int) < (↑ps.length : Int)) (.need ((0 : Nat) + (↑i : Int).toNat * (2 : Nat) + (2 : Nat) ≤ (flat ps).length) (.need ((0 : Int) ≤ (↑i : Int) ∧ (↑i : Int) < (↑qs.length : Int)) (.need ((0 : Nat) + (↑i : Int).toNat * (2 : Nat) + (2 : Nat) ≤ (flat qs).length) (.leaf .normal ⟨[.slice (some ⟨0, 0, none⟩) (ps.length) (ps.length), .slice (some ⟨1, 0, none⟩) (qs.length) (qs.length), topV, topV, topV, .int .i64 (IntKind.i64.wrap ((↑i : Int) + 1)), topV, topV, topV, topV, topV, topV, topV, topV, topV, topV, topV, topV, topV, topV, topV, topV, topV, topV, topV, topV, topV], [some ⟨.view, .ints (flat ps)⟩, some ⟨.view, .ints (flat qs)⟩]⟩))))))) (.leaf (.exit 0) ⟨[topV, topV, topV, topV, topV, topV, topV, topV, topV, topV, topV, topV, topV, topV, topV, topV, topV, topV, topV, topV, topV, topV, topV, topV, topV, topV, topV], [some ⟨.view, .ints (flat ps)⟩, some ⟨.view, .ints (flat qs)⟩]⟩) := by kernel_rfl
set_option maxRecDepth 100000 in
theorem nl_eqGs : loopsOf c_eqGs = [] := by kernel_rfl
def inv_eqGs (ps : List Pt) (qs : List Pt) : Nat → Prop := fun i => i ≤ ps.length ∧ ps.length = qs.length
def me_eqGs (ps : List Pt) (qs : List Pt) : Nat → Nat := fun i => ps.length - i
/-- A round of this loop. -/
def Round_eqGs (ps : List Pt) (qs : List Pt) : Prop := ∀ xx : Nat, inv_eqGs ps qs xx → (bodyL Try.prog EM 30 12 noL 1 c_eqGs k_eqGs 2 (s_eqGs ps qs xx)).ok (RoundEnd 2 (s_eqGs ps qs) (inv_eqGs ps qs) (me_eqGs ps qs) (re_eqGs ps qs) (rs_eqGs ps qs) xx) (fun _ _ => False)
def e_eqGs (s : St) (k : Ex → St → Tree) : Option Tree := match Nat.beq s.tmps.length 27, pickL s.tmps [0, 1, 5], s.mem with
  | true, [.slice (some ⟨0, 0, none⟩) n _, .slice (some ⟨1, 0, none⟩) m _, .int .i64 i], [some ⟨.view, .ints xs⟩, some ⟨.view, .ints ys⟩] => some (needs [i = 0, m = n, xs.length = n * 2, ys.length = n * 2, n ≤ 1000000000] (brT (eqL (ptsA n xs) (ptsA n ys)) (k (.exit 0) ⟨[topV, topV, topV, topV, topV, topV, topV, topV, topV, topV, topV, topV, topV, topV, topV, topV, topV, topV, topV, topV, topV, topV, topV, topV, topV, topV, topV], [some ⟨.view, .ints xs⟩, some ⟨.view, .ints ys⟩]⟩) (k .ret ⟨[topV, topV, topV, topV, .bool false, topV, topV, topV, topV, topV, topV, topV, topV, topV, topV, topV, topV, topV, topV, topV, topV, topV, topV, topV, topV, topV, topV], [some ⟨.view, .ints xs⟩, some ⟨.view, .ints ys⟩]⟩)))
  | _, _, _ => none
set_option maxRecDepth 100000 in
theorem round_eqGs (ps qs : List Pt) (h : ps.length ≤ 1000000000) : Round_eqGs ps qs := by
  rintro i ⟨h1, h2⟩
  rw [tr_eqGs]
  simp only [brT_ok, Tree.ok, decide_eq_true_eq, decide_eq_false_iff_not, Int.toNat_natCast, Nat.zero_add, flat_length, flat_get0, flat_get1, Bool.not_eq_true', Bool.not_eq_false', beq_iff_eq, beq_eq_false_iff_ne]
  refine ⟨fun hlt => ?_, fun hge => ?_⟩
  · have hd1 := drop_cons (l := ps) (k := i) (by omega) (0, 0)
    have hd2 := drop_cons (l := qs) (k := i) (by omega) (0, 0)
    have ne : ps.getD i (0, 0) ≠ qs.getD i (0, 0) → decide (ps.drop i = qs.drop i) = false := fun hne => by
      rw [hd1, hd2]
      simp only [List.cons.injEq, decide_eq_false_iff_not]
      exact fun h => hne h.1
    refine ⟨fun hv => ⟨by omega, by omega, by omega, by omega, ?_⟩, fun hv => ⟨fun hv2 => ⟨by omega, by omega, by omega, by omega, ?_⟩, fun hv2 => ⟨by omega, by omega, by omega, by omega, ?_⟩⟩⟩
    · have e := ne fun h => hv (by rw [h])
      refine ⟨by simp only [re_eqGs, e, cond_false], [], ?_⟩
      simp only [rs_eqGs, e, cond_false]
      repeat' (first | exact True.intro | exact rfl | exact fun _ => rfl | refine And.intro ?_ ?_)
    · have e := ne fun h => hv2 (by rw [h])
      refine ⟨by simp only [re_eqGs, e, cond_false], [], ?_⟩
      simp only [rs_eqGs, e, cond_false]
      repeat' (first | exact True.intro | exact rfl | exact fun _ => rfl | refine And.intro ?_ ?_)
    · have hp : ps.getD i (0, 0) = qs.getD i (0, 0) := Prod.ext hv hv2
      have e : decide (ps.drop i = qs.drop i) = decide (ps.drop (i + 1) = qs.drop (i + 1)) := by
        rw [hd1, hd2, hp]
        simp
      rw [wsucc (n := ps.length) (by omega) h]
      refine ⟨i + 1, [], ⟨by omega, h2⟩, ?_, by simp only [re_eqGs, e], by simp only [rs_eqGs, e], ?_⟩
      · show ps.length - (i + 1) < ps.length - i; omega
      · repeat' (first | exact True.intro | exact rfl | exact fun _ => rfl | refine And.intro ?_ ?_)
  · have e : decide (ps.drop i = qs.drop i) = true := by rw [List.drop_of_length_le (by omega), List.drop_of_length_le (by omega)]; rfl
    refine ⟨by simp only [re_eqGs, e, cond_true], [], ?_⟩
    simp only [rs_eqGs, e, cond_true]
    repeat' (first | exact True.intro | exact rfl | exact fun _ => rfl | refine And.intro ?_ ?_)
set_option maxRecDepth 100000 in
theorem lg_eqGs : LoopE Try.prog e_eqGs c_eqGs := by
  intro s k t F H hlt ht
  unfold e_eqGs at hlt
  split at hlt
  rotate_left
  · cases hlt
  rename_i hlen hpick hmem
  obtain ⟨tmps, mem⟩ := s
  simp only at hlen hpick hmem
  subst hmem
  obtain rfl := Option.some.inj hlt
  obtain ⟨⟨rfl, rfl, h1, h2, h3, _⟩, ht2⟩ := needs_ok ht
  clear ht hlt
  obtain ⟨ps, rfl, rfl⟩ := even_flat h1
  obtain ⟨qs, rfl, hq⟩ := even_flat h2
  rw [ptsA_flat, ← hq, ptsA_flat] at ht2
  refine ⟨_, _, pick2k ht2, loop_run mixed EM_ok (s_eqGs ps qs) (inv_eqGs ps qs) (me_eqGs ps qs) (re_eqGs ps qs) (rs_eqGs ps qs) k_eqGs (fun _ => rfl) (noLoops nl_eqGs) (round_eqGs ps qs h3) (x := 0) ⟨Nat.zero_le _, hq.symm⟩ (π := []) rfl ?_⟩
  refine ⟨rfl, rfl, ?_, wvs_spread' [0, 1, 5] hlen rfl ?_⟩
  · repeat' (first | exact True.intro | exact rfl | exact wv_top _ _ | exact fun _ => rfl | assumption | exact Eq.symm (by assumption) | exact vI0 rfl | refine And.intro ?_ ?_)
  · rw [hpick]
    repeat' (first | exact True.intro | exact rfl | exact wv_top _ _ | exact fun _ => rfl | assumption | exact Eq.symm (by assumption) | exact vI0 rfl | refine And.intro ?_ ?_)
noncomputable def c_markG : Code := ((loopsOf (codeOf Try.f21))[0]?).getD .skip
def k_markG : Ex → List Nat := keeps [0, 1, 5] [(0, [1])] [4]
def s_markG (n : Nat) (k0 : Int) : Nat × (List Int) → St := fun (i, ys) => ⟨[.slice (some ⟨0, 0, none⟩) n n, .int .i64 (k0 + (i * 2 : Nat)), topV, topV, topV, .int .i64 i, topV, topV, topV, topV, topV, topV, topV, topV, topV, topV, topV, topV, topV, topV, topV, topV, topV, topV, topV, topV, topV], [some ⟨.row 36 2, .ints ys⟩]⟩
def re_markG : Nat × (List Int) → Ex := fun _ => .exit 0
def rs_markG (n : Nat) (k0 : Int) : Nat × (List Int) → St := fun (i, ys) => ⟨[topV, .int .i64 (k0 + (n * 2 : Nat)), topV, topV, topV, topV, topV, topV, topV, topV, topV, topV, topV, topV, topV, topV, topV, topV, topV, topV, topV, topV, topV, topV, topV, topV, topV], [some ⟨.row 36 2, .ints (marks k0 (n * 2))⟩]⟩
set_option maxRecDepth 100000 in
theorem tr_markG (n : Nat) (k0 : Int) (i : Nat) (ys : List Int) : bodyL Try.prog EM 30 12 noL 1 c_markG k_markG 1 (s_markG n k0 (i, ys)) = brT (decide ((↑i : Int) < (↑n : Int))) (.need ((0 : Int) ≤ (↑i : Int) ∧ (↑i : Int) < (↑n : Int)) (.need ((0 : Nat) + (↑i : Int).toNat * (2 : Nat) + (0 : Nat) + (1 : Nat) ≤ ys.length) (.need ((0 : Int) ≤ (↑i : Int) ∧ (↑i : Int) < (↑n : Int)) (.need ((0 : Nat) + (↑i : Int).toNat * (2 : Nat) + (1 : Nat) + (1 : Nat) ≤ (setInts ys ((0 : Nat) + (↑i : Int).toNat * (2 : Nat) + (0 : Nat)) [k0 + (↑(i * (2 : Nat)) : Int)]).length) (.leaf .normal ⟨[.slice (some ⟨0, 0, none⟩) (n) (n), .int .i64 (IntKind.i64.wrap (IntKind.i64.wrap (k0 + (↑(i * 2) : Int) + 1) + 1)), topV, topV, topV, .int .i64 (IntKind.i64.wrap ((↑i : Int) + 1)), topV, topV, topV, topV, topV, topV, topV, topV, topV, topV, topV, topV, topV, topV, topV, topV, topV, topV, topV, topV, topV], [some ⟨.row 36 2, .ints (setInts (setInts ys (0 + (↑i : Int).toNat * 2 + 0) [k0 + (↑(i * 2) : Int)]) (0 + (↑i : Int).toNat * 2 + 1) [IntKind.i64.wrap (k0 + (↑(i * 2) : Int) + 1)])⟩]⟩))))) (.leaf (.exit 0) ⟨[topV, .int .i64 (k0 + (↑(i * 2) : Int)), topV, topV, topV, topV, topV, topV, topV, topV, topV, topV, topV, topV, topV, topV, topV, topV, topV, topV, topV, topV, topV, topV, topV, topV, topV], [some ⟨.row 36 2, .ints (ys)⟩]⟩) := by kernel_rfl
set_option maxRecDepth 100000 in
theorem nl_markG : loopsOf c_markG = [] := by kernel_rfl
def inv_markG (n : Nat) (k0 : Int) : Nat × (List Int) → Prop := fun (i, ys) => i ≤ n ∧ ys.length = n * 2 ∧ ys.take (i * 2) = (marks k0 (n * 2)).take (i * 2)
def me_markG (n : Nat) (k0 : Int) : Nat × (List Int) → Nat := fun (i, ys) => n - i
/-- A round of this loop. -/
def Round_markG (n : Nat) (k0 : Int) : Prop := ∀ xx : Nat × (List Int), inv_markG n k0 xx → (bodyL Try.prog EM 30 12 noL 1 c_markG k_markG 1 (s_markG n k0 xx)).ok (RoundEnd 1 (s_markG n k0) (inv_markG n k0) (me_markG n k0) re_markG (rs_markG n k0) xx) (fun _ _ => False)
def e_markG (s : St) (k : Ex → St → Tree) : Option Tree := match Nat.beq s.tmps.length 27, pickL s.tmps [0, 1, 5], s.mem with
  | true, [.slice (some ⟨0, 0, none⟩) n _, .int .i64 k1, .int .i64 i], [some ⟨.row 36 2, .ints xs⟩] => some (needs [i = 0, xs.length = n * 2, n ≤ 1000000000, 0 ≤ k1 ∧ k1 ≤ 1000000000] (k (.exit 0) ⟨[topV, .int .i64 (k1 + (n * 2 : Nat)), topV, topV, topV, topV, topV, topV, topV, topV, topV, topV, topV, topV, topV, topV, topV, topV, topV, topV, topV, topV, topV, topV, topV, topV, topV], [some ⟨.row 36 2, .ints (marks k1 (n * 2))⟩]⟩))
  | _, _, _ => none
set_option maxRecDepth 100000 in
theorem round_markG (n : Nat) (k0 : Int) (h : n ≤ 1000000000) (hk : 0 ≤ k0 ∧ k0 ≤ 1000000000) : Round_markG n k0 := by
  rintro ⟨i, ys⟩ ⟨h1, h2, h3⟩
  rw [tr_markG]
  simp only [brT_ok, Tree.ok, decide_eq_true_eq, decide_eq_false_iff_not, Int.toNat_natCast, Nat.zero_add, Nat.add_zero]
  refine ⟨fun hlt => ?_, fun hge => ?_⟩
  · rw [wsucc (n := n) (by omega) h, setInts_one _ _ (by omega), setInts_one _ _ (by simp; omega)]
    have e0 : IntKind.i64.wrap (k0 + ((i * 2 : Nat) : Int) + 1) = k0 + ((i * 2 + 1 : Nat) : Int) := by rw [wr (by omega)]; omega
    have e : IntKind.i64.wrap (k0 + ((i * 2 + 1 : Nat) : Int) + 1) = k0 + (((i + 1) * 2 : Nat) : Int) := by rw [wr (by omega)]; omega
    rw [e0, e]
    refine ⟨by omega, by omega, by omega, by simp; omega, (i + 1, (ys.set (i * 2) (k0 + ((i * 2 : Nat) : Int))).set (i * 2 + 1) (k0 + ((i * 2 + 1 : Nat) : Int))), [], ⟨by omega, by simp [h2], ?_⟩, ?_, rfl, rfl, ?_⟩
    · have := take_set_two (l := ys) (m := marks k0 (n * 2)) (i := i) (by omega) (by rw [marks_length]; omega) h3
      rwa [marks_get _ _ _ (by omega), marks_get _ _ _ (by omega)] at this
    · show n - (i + 1) < n - i; omega
    · repeat' (first | exact True.intro | exact rfl | exact fun _ => rfl | refine And.intro ?_ ?_)
  · obtain rfl : i = n := by omega
    have e : ys = marks k0 (i * 2) := by
      rw [List.take_of_length_le (by omega), List.take_of_length_le (by rw [marks_length]; omega)] at h3
      exact h3
    subst e
    refine ⟨rfl, [], ?_⟩
    repeat' (first | exact True.intro | exact rfl | exact fun _ => rfl | refine And.intro ?_ ?_)
set_option maxRecDepth 100000 in
theorem lg_markG : LoopE Try.prog e_markG c_markG := by
  intro s k t F H hlt ht
  unfold e_markG at hlt
  split at hlt
  rotate_left
  · cases hlt
  rename_i hlen hpick hmem
  obtain ⟨tmps, mem⟩ := s
  simp only at hlen hpick hmem
  subst hmem
  obtain rfl := Option.some.inj hlt
  obtain ⟨⟨rfl, h1, h2, h3, _⟩, ht2⟩ := needs_ok ht
  clear ht hlt
  refine ⟨_, _, ht2, loop_run mixed EM_ok (s_markG _ _) (inv_markG _ _) (me_markG _ _) re_markG (rs_markG _ _) k_markG (fun _ => rfl) (noLoops nl_markG) (round_markG _ _ h2 h3) (x := (0, _)) ⟨Nat.zero_le _, h1, rfl⟩ (π := []) rfl ?_⟩
  refine ⟨rfl, rfl, ?_, wvs_spread' [0, 1, 5] hlen rfl ?_⟩
  · repeat' (first | exact True.intro | exact rfl | exact wv_top _ _ | exact fun _ => rfl | assumption | exact Eq.symm (by assumption) | exact vI0 rfl | refine And.intro ?_ ?_)
  · rw [hpick]
    repeat' (first | exact True.intro | exact rfl | exact wv_top _ _ | exact fun _ => rfl | assumption | exact Eq.symm (by assumption) | exact vI0 rfl | refine And.intro ?_ ?_)
noncomputable def c_sxG : Code := ((loopsOf (codeOf Try.f60))[0]?).getD .skip
def k_sxG : Ex → List Nat := keeps [0, 3, 7, 8] [(0, [])] [4]
def s_sxG (ps : List Pt) (x y : Int) : Nat → St := fun i => ⟨[.slice (some ⟨0, 0, none⟩) ps.length ps.length, topV, topV, .pointer (some ⟨2, 0, none⟩), topV, topV, topV, .int .i64 ps.length, .int .i64 i, topV, topV, topV, topV, topV, topV, topV, topV, topV, topV], [some ⟨.view, .ints (flat ps)⟩, none, some ⟨.box, .vals [.int .i64 x, .int .i64 y]⟩]⟩
def re_sxG (ps : List Pt) (x y : Int) : Nat → Ex := fun i => bif allQ (ngQ ps x y) i (ps.length - i) then .exit 0 else .ret
def rs_sxG (ps : List Pt) (x y : Int) : Nat → St := fun i => bif allQ (ngQ ps x y) i (ps.length - i) then ⟨[topV, topV, topV, topV, topV, topV, topV, topV, topV, topV, topV, topV, topV, topV, topV, topV, topV, topV, topV], [some ⟨.view, .ints (flat ps)⟩, none, some ⟨.box, .vals [.int .i64 x, .int .i64 y]⟩]⟩ else ⟨[topV, topV, topV, topV, .int .i64 (fgN ps x y i (ps.length - i) : Nat), topV, topV, topV, topV, topV, topV, topV, topV, topV, topV, topV, topV, topV, topV], [some ⟨.view, .ints (flat ps)⟩, none, some ⟨.box, .vals [.int .i64 x, .int .i64 y]⟩]⟩
set_option maxRecDepth 100000 in
theorem tr_sxG (ps : List Pt) (x y : Int) (i : Nat) : bodyL Try.prog EM 30 12 noL 1 c_sxG k_sxG 3 (s_sxG ps x y i) = brT (decide ((↑i : Int) < (↑ps.length : Int))) (.need ((0 : Int) ≤ (↑i : Int) ∧ (↑i : Int) < (↑ps.length : Int)) (.need ((0 : Nat) + (↑i : Int).toNat * (2 : Nat) + (2 : Nat) ≤ (flat ps).length) (brT (negB false (x == (flat ps).getD (0 + (↑i : Int).toNat * 2) 0 && (y == (flat ps).getD (0 + (↑i : Int).toNat * 2 + 1) 0 && true))) (.leaf .ret ⟨[topV, topV, topV, topV, .int .i64 ((↑i : Int)), topV, topV, topV, topV, topV, topV, topV, topV, topV, topV, topV, topV, topV, topV], [some ⟨.view, .ints (flat ps)⟩, none, some ⟨.box, .vals [.int .i64 (x), .int .i64 (y)]⟩]⟩) (.leaf .normal ⟨[.slice (some ⟨0, 0, none⟩) (ps.length) (ps.length), topV, topV, .pointer (some ⟨2, 0, none⟩), topV, topV, topV, .int .i64 ((↑ps.length : Int)), .int .i64 (IntKind.i64.wrap ((↑i : Int) + 1)), topV, topV, topV, topV, topV, topV, topV, topV, topV, topV], [some ⟨.view, .ints (flat ps)⟩, none, some ⟨.box, .vals [.int .i64 (x), .int .i64 (y)]⟩]⟩)))) (.leaf (.exit 0) ⟨[topV, topV, topV, topV, topV, topV, topV, topV, topV, topV, topV, topV, topV, topV, topV, topV, topV, topV, topV], [some ⟨.view, .ints (flat ps)⟩, none, some ⟨.box, .vals [.int .i64 (x), .int .i64 (y)]⟩]⟩) := by kernel_rfl
set_option maxRecDepth 100000 in
theorem nl_sxG : loopsOf c_sxG = [] := by kernel_rfl
def inv_sxG (ps : List Pt) (x y : Int) : Nat → Prop := fun i => i ≤ ps.length
def me_sxG (ps : List Pt) (x y : Int) : Nat → Nat := fun i => ps.length - i
/-- A round of this loop. -/
def Round_sxG (ps : List Pt) (x y : Int) : Prop := ∀ xx : Nat, inv_sxG ps x y xx → (bodyL Try.prog EM 30 12 noL 1 c_sxG k_sxG 3 (s_sxG ps x y xx)).ok (RoundEnd 3 (s_sxG ps x y) (inv_sxG ps x y) (me_sxG ps x y) (re_sxG ps x y) (rs_sxG ps x y) xx) (fun _ _ => False)
def e_sxG (s : St) (k : Ex → St → Tree) : Option Tree := match Nat.beq s.tmps.length 19, pickL s.tmps [0, 3, 7, 8], s.mem with
  | true, [.slice (some ⟨0, 0, none⟩) n _, .pointer (some ⟨2, 0, none⟩), .int .i64 n1, .int .i64 i], [some ⟨.view, .ints xs⟩, none, some ⟨.box, .vals [.int .i64 x, .int .i64 y]⟩] => some (needs [i = 0, n1 = (n : Int), xs.length = n * 2, n ≤ 1000000000] (brT (allQ (ngQ (ptsA n xs) x y) 0 n) (k (.exit 0) ⟨[topV, topV, topV, topV, topV, topV, topV, topV, topV, topV, topV, topV, topV, topV, topV, topV, topV, topV, topV], [some ⟨.view, .ints xs⟩, none, some ⟨.box, .vals [.int .i64 x, .int .i64 y]⟩]⟩) (k .ret ⟨[topV, topV, topV, topV, .int .i64 (fgN (ptsA n xs) x y 0 n : Nat), topV, topV, topV, topV, topV, topV, topV, topV, topV, topV, topV, topV, topV, topV], [some ⟨.view, .ints xs⟩, none, some ⟨.box, .vals [.int .i64 x, .int .i64 y]⟩]⟩)))
  | _, _, _ => none
set_option maxRecDepth 100000 in
theorem round_sxG (ps : List Pt) (x y : Int) (h : ps.length ≤ 1000000000) : Round_sxG ps x y := by
  intro i h1
  have h1 : i ≤ ps.length := h1
  rw [tr_sxG]
  simp only [Int.toNat_natCast, Nat.zero_add, Nat.add_zero, flat_length, flat_get0, flat_get1]
  refine brT_ok.2 ⟨fun hlt => ?_, fun hge => ?_⟩
  · have hlt := of_decide_eq_true hlt
    have hi : i < ps.length := by omega
    have st := allQ_step (P := ngQ ps x y) (i := i) (n := ps.length) hi
    have sf := fgN_step (ps := ps) (x := x) (y := y) (i := i) (n := ps.length) hi
    have hn : ngQ ps x y i = !((ps.getD i (0, 0)).1 == x && (ps.getD i (0, 0)).2 == y) := rfl
    rw [wsucc (n := ps.length) hi h]
    have hc : ngQ ps x y i = !(x == (ps.getD i (0, 0)).1 && y == (ps.getD i (0, 0)).2) := by
      rw [hn, BEq.comm (a := x), BEq.comm (a := y)]
    generalize ps.getD i (0, 0) = p at *
    rcases g1 : x == p.1 with _ | _ <;> rcases g2 : y == p.2 with _ | _
    all_goals
      rw [g1, g2] at hc
      rw [hc] at st sf
      simp only [g1, g2, negTg, negFg, brT_t, brT_f, Bool.not_true, Bool.not_false, Bool.and_true, Bool.and_false, Bool.true_and, Bool.false_and, cond_true, cond_false, Tree.ok] at st sf ⊢
      repeat (refine And.intro (by omega) ?_)
    iterate 3
      refine ⟨i + 1, [], ?_, ?_, by simp only [re_sxG, st], by simp only [rs_sxG, st, sf], ?_⟩
      · show i + 1 ≤ ps.length; omega
      · show ps.length - (i + 1) < ps.length - i; omega
      · repeat' (first | exact True.intro | exact rfl | exact fun _ => rfl | refine And.intro ?_ ?_)
    refine ⟨by simp only [re_sxG, st, cond_false], [], ?_⟩
    simp only [rs_sxG, st, sf, cond_false]
    repeat' (first | exact True.intro | exact rfl | exact fun _ => rfl | refine And.intro ?_ ?_)
  · have hge := of_decide_eq_false hge
    have e : allQ (ngQ ps x y) i (ps.length - i) = true := allQ_end (by omega)
    refine ⟨by simp only [re_sxG, e, cond_true], [], ?_⟩
    simp only [rs_sxG, e, cond_true]
    repeat' (first | exact True.intro | exact rfl | exact fun _ => rfl | refine And.intro ?_ ?_)
set_option maxRecDepth 100000 in
theorem lg_sxG : LoopE Try.prog e_sxG c_sxG := by
  intro s k t F H hlt ht
  unfold e_sxG at hlt
  split at hlt
  rotate_left
  · cases hlt
  rename_i hlen hpick hmem
  obtain ⟨tmps, mem⟩ := s
  simp only at hlen hpick hmem
  subst hmem
  obtain rfl := Option.some.inj hlt
  obtain ⟨⟨rfl, rfl, h1, h2, _⟩, ht2⟩ := needs_ok ht
  clear ht hlt
  obtain ⟨ps, rfl, rfl⟩ := even_flat h1
  rw [ptsA_flat] at ht2
  refine ⟨_, _, pick2k ht2, loop_run mixed EM_ok (s_sxG ps _ _) (inv_sxG ps _ _) (me_sxG ps _ _) (re_sxG ps _ _) (rs_sxG ps _ _) k_sxG (fun _ => rfl) (noLoops nl_sxG) (round_sxG ps _ _ h2) (x := 0) (Nat.zero_le _) (π := []) rfl ?_⟩
  refine ⟨rfl, rfl, ?_, wvs_spread' [0, 3, 7, 8] hlen rfl ?_⟩
  · repeat' (first | exact True.intro | exact rfl | exact wv_top _ _ | exact fun _ => rfl | assumption | exact Eq.symm (by assumption) | exact vI0 rfl | refine And.intro ?_ ?_)
  · rw [hpick]
    repeat' (first | exact True.intro | exact rfl | exact wv_top _ _ | exact fun _ => rfl | assumption | exact Eq.symm (by assumption) | exact vI0 rfl | refine And.intro ?_ ?_)
end Go.Proofs.Ytolodncpegajkab
namespace Go.Proofs.Ytolodncpegajkab
set_option linter.all false
open Go.RowKit
theorem Lr_toGs {fn : Func} (hf : Try.prog.funcs[17]? = some fn) : LoopsGood Try.prog (lt1 e_toGs) 0 (codeOf fn) := by
  obtain rfl := fn_is Try.func17 hf
  exact lt1_good lg_toGs
theorem Lr_eqGs {fn : Func} (hf : Try.prog.funcs[20]? = some fn) : LoopsGood Try.prog (lt1 e_eqGs) 0 (codeOf fn) := by
  obtain rfl := fn_is Try.func20 hf
  exact lt1_good lg_eqGs
theorem Lr_markG {fn : Func} (hf : Try.prog.funcs[21]? = some fn) : LoopsGood Try.prog (lt1 e_markG) 0 (codeOf fn) := by
  obtain rfl := fn_is Try.func21 hf
  exact lt1_good lg_markG
theorem Lr_sxG {fn : Func} (hf : Try.prog.funcs[60]? = some fn) : LoopsGood Try.prog (lt1 e_sxG) 0 (codeOf fn) := by
  obtain rfl := fn_is Try.func60 hf
  exact lt1_good lg_sxG
def LGs : FuncId → LT := fun f => match f with
  | 17 => lt1 e_toGs
  | 20 => lt1 e_eqGs
  | 21 => lt1 e_markG
  | 60 => lt1 e_sxG
  | _ => noL
def EGs : Env := mkE TG1 (fun _ _ => none) LGs
theorem EGs_ok : EnvOk Try.prog EGs := mkEOk TG1_ok (fun _ _ _ _ _ h => (by cases h)) (by
  intro f fn hf
  unfold LGs
  split
  all_goals first | with_reducible exact Lr_toGs hf | with_reducible exact Lr_eqGs hf | with_reducible exact Lr_markG hf | with_reducible exact Lr_sxG hf | exact noL_good)
set_option maxRecDepth 100000 in
theorem tr_eqGF (ps qs : List Pt) : bodyX Try.prog EGs 30 12 20 [.row ps.length (.ints (flat ps)), .row qs.length (.ints (flat qs))] = brT (!(↑ps.length : Int) == (↑qs.length : Int)) (.fin (.bool (false)) [some ⟨.view, .ints (flat ps)⟩, some ⟨.view, .ints (flat qs)⟩]) (.need ((0 : Int) = (0 : Int)) (.need (qs.length = ps.length) (.need ((flat ps).length = ps.length * (2 : Nat)) (.need ((flat qs).length = ps.length * (2 : Nat)) (.need (ps.length ≤ (1000000000 : Nat)) (brT (eqL (ptsA ps.length (flat ps)) (ptsA ps.length (flat qs))) (.fin (.bool (true)) [some ⟨.view, .ints (flat ps)⟩, some ⟨.view, .ints (flat qs)⟩]) (.fin (.bool (false)) [some ⟨.view, .ints (flat ps)⟩, some ⟨.view, .ints (flat qs)⟩]))))))) := by kernel_rfl
set_option maxRecDepth 100000 in
theorem tr_siG (ps : List Pt) (x y : Int) : bodyV Try.prog EGs 30 12 60 [.row ps.length (.ints (flat ps)), .v (.agg ⟨[.int .i64 x, .int .i64 y]⟩)] = .need ((0 : Int) = (0 : Int)) (.need ((↑ps.length : Int) = (↑ps.length : Int)) (.need ((flat ps).length = ps.length * (2 : Nat)) (.need (ps.length ≤ (1000000000 : Nat)) (brT (allQ (ngQ (ptsA ps.length (flat ps)) x y) 0 ps.length) (.fin (.int .i64 (-1)) []) (.fin (.int .i64 ((↑(fgN (ptsA ps.length (flat ps)) x y 0 ps.length) : Int))) []))))) := by kernel_rfl
theorem res_eqG (ps qs : List Pt) (h : Big ps) : Res Try.prog 20 [.row ps.length (.ints (flat ps)), .row qs.length (.ints (flat qs))] (.bool (eqL ps qs)) := by
  refine bodyX_res mixed EGs_ok (m := 30) (n := 12) rfl ?_
  rw [tr_eqGF]
  unfold Big at h
  by_cases hl : ps.length = qs.length
  · have e : ptsA ps.length (flat qs) = qs := by rw [hl, ptsA_flat]
    rw [e, ptsA_flat, show (!((ps.length : Int) == (qs.length : Int))) = false by simp [hl]]
    simp only [brT_f, Tree.ok, flat_length]
    refine ⟨trivial, hl.symm, trivial, by omega, h, ?_⟩
    cases eqL ps qs <;> rfl
  · have e : eqL ps qs = false := by
      unfold eqL
      rw [decide_eq_false_iff_not]
      rintro rfl
      exact hl rfl
    rw [show (!((ps.length : Int) == (qs.length : Int))) = true by simp; omega]
    simp only [brT_t, Tree.ok, e]
/-- Where a graph stands first. -/
def ixG (ps : List Pt) (x y : Int) : Int := bif allQ (ngQ ps x y) 0 ps.length then -1 else (fgN ps x y 0 ps.length : Nat)
theorem res_siG (x y : Int) (ps : List Pt) (h : Big ps) : Res Try.prog 60 [.row ps.length (.ints (flat ps)), .v (.agg ⟨[.int .i64 x, .int .i64 y]⟩)] (.int .i64 (ixG ps x y)) := by
  refine bodyV_res mixed EGs_ok (m := 30) (n := 12) rfl ?_
  rw [tr_siG]
  unfold Big at h
  simp only [ptsA_flat]
  unfold ixG
  rcases hq : allQ (ngQ ps x y) 0 ps.length with _ | _
  all_goals exact ⟨trivial, trivial, flat_length ps, h, rfl⟩
def pSiG : List DArg → Option (Value × List Prop)
  | [.row m (.ints xs), .v (.agg ⟨[.int .i64 x, .int .i64 y]⟩)] => some (.int .i64 (ixG (ptsA m xs) x y), [m * 2 ≤ xs.length, m ≤ 1000000000])
  | _ => none
theorem pSiG_ok {ds : List DArg} {v : Value} {C : List Prop} (h : pSiG ds = some (v, C)) (hC : AllP C) : Res Try.prog 60 ds v := by
  unfold pSiG at h
  split at h
  · rename_i m xs x y
    obtain ⟨rfl, rfl⟩ : _ ∧ _ := by simpa using h
    obtain ⟨_, h2⟩ := ptsA_spec hC.1
    exact res_pts1 (pre := []) (post := [.v (.agg ⟨[.int .i64 x, .int .i64 y]⟩)]) hC.1 (res_siG x y (ptsA m xs) (by unfold Big; rw [h2]; exact hC.2.1))
  · cases h
def TGi : Tab := fun f ds => match f with
  | 60 => pSiG ds
  | f => TG1 f ds
theorem TGi_ok : TabOk Try.prog TGi := by
  intro f ds v C h hC
  unfold TGi at h
  (try split at h)
  all_goals first | with_reducible exact pSiG_ok h hC | exact TG1_ok _ _ _ _ h hC
set_option maxRecDepth 100000 in
theorem tr_scG (ps : List Pt) (x y : Int) : bodyV Try.prog (tabE TGi) 30 12 100 [.row ps.length (.ints (flat ps)), .v (.agg ⟨[.int .i64 x, .int .i64 y]⟩)] = .need (ps.length * (2 : Nat) ≤ (List.drop (0 : Nat) (flat ps)).length) (.need (ps.length ≤ (1000000000 : Nat)) (.fin (.bool (decide (0 ≤ ixG (ptsA ps.length (List.drop 0 (flat ps))) x y))) [])) := by kernel_rfl
theorem res_scG (x y : Int) (ps : List Pt) (h : Big ps) : Res Try.prog 100 [.row ps.length (.ints (flat ps)), .v (.agg ⟨[.int .i64 x, .int .i64 y]⟩)] (.bool (!(allQ (ngQ ps x y) 0 ps.length))) := by
  refine bodyV_res mixed (tabE_ok TGi_ok) (m := 30) (n := 12) rfl ?_
  rw [tr_scG]
  unfold Big at h
  simp only [List.drop_zero, ptsA_flat, flat_length]
  refine ⟨Nat.le_refl _, h, ?_⟩
  show Value.bool _ = Value.bool _
  rw [Value.bool.injEq]
  unfold ixG
  rcases allQ (ngQ ps x y) 0 ps.length with _ | _
  · exact decide_eq_true (by simp only [cond_false]; omega)
  · exact decide_eq_false (by simp only [cond_true]; omega)
def pScG : List DArg → Option (Value × List Prop)
  | [.row m (.ints xs), .v (.agg ⟨[.int .i64 x, .int .i64 y]⟩)] => some (.bool (!(allQ (ngQ (ptsA m xs) x y) 0 (ptsA m xs).length)), [m * 2 ≤ xs.length, m ≤ 1000000000])
  | _ => none
theorem pScG_ok {ds : List DArg} {v : Value} {C : List Prop} (h : pScG ds = some (v, C)) (hC : AllP C) : Res Try.prog 100 ds v := by
  unfold pScG at h
  split at h
  · rename_i m xs x y
    obtain ⟨rfl, rfl⟩ : _ ∧ _ := by simpa using h
    obtain ⟨_, h2⟩ := ptsA_spec hC.1
    exact res_pts1 (pre := []) (post := [.v (.agg ⟨[.int .i64 x, .int .i64 y]⟩)]) hC.1 (res_scG x y (ptsA m xs) (by unfold Big; rw [h2]; exact hC.2.1))
  · cases h
def TGc : Tab := fun f ds => match f with
  | 100 => pScG ds
  | f => TGi f ds
theorem TGc_ok : TabOk Try.prog TGc := by
  intro f ds v C h hC
  unfold TGc at h
  (try split at h)
  all_goals first | with_reducible exact pScG_ok h hC | exact TGi_ok _ _ _ _ h hC
def EGc : Env := mkE TGc (fun _ _ => none) (fun _ => noL)
theorem EGc_ok : EnvOk Try.prog EGc := mkEOk TGc_ok (fun _ _ _ _ _ h => (by cases h)) (fun _ _ _ => noL_good)
def gG (ps : List Pt) (i : Nat) : Pt := ps.getD i (0, 0)
/-- Is a graph none of the first ones? -/
def dfQ (ps : List Pt) (i k : Nat) : Bool := !(decide (gG ps k = gG ps i))
def vgQ (ps : List Pt) (i : Nat) : Bool := ptB (gG ps i).1 (gG ps i).2 && allQ (dfQ ps i) 0 i
noncomputable def c_svI : Code := ((loopsOf (codeOf Try.f51))[1]?).getD .skip
def k_svI : Ex → List Nat := keeps [0, 3, 4] [(2, [0, 3])] [2]
def s_svI (ps : List Pt) (i : Nat) : Nat → St := fun k => ⟨(.slice (some ⟨0, 0, none⟩) ps.length ps.length :: topV :: topV :: .int .i64 i :: .int .i64 k :: topV :: topV :: topV :: topV :: topV :: topV :: topV :: topV :: topV :: topV :: topV :: topV :: topV :: topV :: topV :: topV :: topV :: topV :: topV :: topV :: topV :: topV :: topV :: topV :: topV :: topV :: topV :: topV :: topV :: []), [some ⟨.view, .ints (flat ps)⟩]⟩
def re_svI (ps : List Pt) (i : Nat) : Nat → Ex := fun k => bif allQ (dfQ ps i) k (i - k) then .exit 2 else .ret
def rs_svI (ps : List Pt) (i : Nat) : Nat → St := fun k => bif allQ (dfQ ps i) k (i - k) then ⟨(.slice (some ⟨0, 0, none⟩) ps.length ps.length :: topV :: topV :: .int .i64 i :: topV :: topV :: topV :: topV :: topV :: topV :: topV :: topV :: topV :: topV :: topV :: topV :: topV :: topV :: topV :: topV :: topV :: topV :: topV :: topV :: topV :: topV :: topV :: topV :: topV :: topV :: topV :: topV :: topV :: topV :: []), [some ⟨.view, .ints (flat ps)⟩]⟩ else ⟨(topV :: topV :: .bool false :: topV :: topV :: topV :: topV :: topV :: topV :: topV :: topV :: topV :: topV :: topV :: topV :: topV :: topV :: topV :: topV :: topV :: topV :: topV :: topV :: topV :: topV :: topV :: topV :: topV :: topV :: topV :: topV :: topV :: topV :: topV :: []), [some ⟨.view, .ints (flat ps)⟩]⟩
set_option maxRecDepth 100000 in
theorem tr_svI (ps : List Pt) (i : Nat) (k : Nat) : bodyL Try.prog EGc 30 12 noL 2 c_svI k_svI 1 (s_svI ps i k) = brT (decide ((↑k : Int) < (↑i : Int))) (.need ((0 : Int) ≤ (↑k : Int) ∧ (↑k : Int) < (↑ps.length : Int)) (.need ((0 : Nat) + (↑k : Int).toNat * (2 : Nat) + (2 : Nat) ≤ (flat ps).length) (.need ((0 : Int) ≤ (↑i : Int) ∧ (↑i : Int) < (↑ps.length : Int)) (.need ((0 : Nat) + (↑i : Int).toNat * (2 : Nat) + (2 : Nat) ≤ (flat ps).length) (brT (negB false ((flat ps).getD (0 + (↑k : Int).toNat * 2) 0 == (flat ps).getD (0 + (↑i : Int).toNat * 2) 0 && ((flat ps).getD (0 + (↑k : Int).toNat * 2 + 1) 0 == (flat ps).getD (0 + (↑i : Int).toNat * 2 + 1) 0 && true))) (.leaf .ret ⟨(topV :: topV :: .bool (false) :: topV :: topV :: topV :: topV :: topV :: topV :: topV :: topV :: topV :: topV :: topV :: topV :: topV :: topV :: topV :: topV :: topV :: topV :: topV :: topV :: topV :: topV :: topV :: topV :: topV :: topV :: topV :: topV :: topV :: topV :: topV :: []), [some ⟨.view, .ints (flat ps)⟩]⟩) (.leaf .normal ⟨(.slice (some ⟨0, 0, none⟩) (ps.length) (ps.length) :: topV :: topV :: .int .i64 ((↑i : Int)) :: .int .i64 (IntKind.i64.wrap ((↑k : Int) + 1)) :: topV :: topV :: topV :: topV :: topV :: topV :: topV :: topV :: topV :: topV :: topV :: topV :: topV :: topV :: topV :: topV :: topV :: topV :: topV :: topV :: topV :: topV :: topV :: topV :: topV :: topV :: topV :: topV :: topV :: []), [some ⟨.view, .ints (flat ps)⟩]⟩)))))) (.leaf (.exit 2) ⟨(.slice (some ⟨0, 0, none⟩) (ps.length) (ps.length) :: topV :: topV :: .int .i64 ((↑i : Int)) :: topV :: topV :: topV :: topV :: topV :: topV :: topV :: topV :: topV :: topV :: topV :: topV :: topV :: topV :: topV :: topV :: topV :: topV :: topV :: topV :: topV :: topV :: topV :: topV :: topV :: topV :: topV :: topV :: topV :: topV :: []), [some ⟨.view, .ints (flat ps)⟩]⟩) := by kernel_rfl
set_option maxRecDepth 100000 in
theorem nl_svI : loopsOf c_svI = [] := by kernel_rfl
def inv_svI (ps : List Pt) (i : Nat) : Nat → Prop := fun k => k ≤ i
def me_svI (ps : List Pt) (i : Nat) : Nat → Nat := fun k => i - k
/-- A round of this loop. -/
def Round_svI (ps : List Pt) (i : Nat) : Prop := ∀ xx : Nat, inv_svI ps i xx → (bodyL Try.prog EGc 30 12 noL 2 c_svI k_svI 1 (s_svI ps i xx)).ok (RoundEnd 1 (s_svI ps i) (inv_svI ps i) (me_svI ps i) (re_svI ps i) (rs_svI ps i) xx) (fun _ _ => False)
def e_svI (s : St) (k : Ex → St → Tree) : Option Tree := match Nat.beq s.tmps.length 34, pickL s.tmps [0, 3, 4], s.mem with
  | true, [.slice (some ⟨0, 0, none⟩) n _, .int .i64 ii, .int .i64 kk], [some ⟨.view, .ints xs⟩] => some (needs [kk = 0, 0 ≤ ii ∧ ii < n, xs.length = n * 2, n ≤ 1000000000] (brT (allQ (dfQ (ptsA n xs) ii.toNat) 0 ii.toNat) (k (.exit 2) ⟨(.slice (some ⟨0, 0, none⟩) n n :: topV :: topV :: .int .i64 ii :: topV :: topV :: topV :: topV :: topV :: topV :: topV :: topV :: topV :: topV :: topV :: topV :: topV :: topV :: topV :: topV :: topV :: topV :: topV :: topV :: topV :: topV :: topV :: topV :: topV :: topV :: topV :: topV :: topV :: topV :: []), [some ⟨.view, .ints xs⟩]⟩) (k .ret ⟨(topV :: topV :: .bool false :: topV :: topV :: topV :: topV :: topV :: topV :: topV :: topV :: topV :: topV :: topV :: topV :: topV :: topV :: topV :: topV :: topV :: topV :: topV :: topV :: topV :: topV :: topV :: topV :: topV :: topV :: topV :: topV :: topV :: topV :: topV :: []), [some ⟨.view, .ints xs⟩]⟩)))
  | _, _, _ => none
def ltSv : LT := fun j s k => match j with
  | 1 => e_svI s k
  | _ => none
noncomputable def c_svO : Code := ((loopsOf (codeOf Try.f51))[0]?).getD .skip
def k_svO : Ex → List Nat := keeps [0, 3] [(0, [0])] [2]
def s_svO (ps : List Pt) : Nat → St := fun i => ⟨(.slice (some ⟨0, 0, none⟩) ps.length ps.length :: topV :: topV :: .int .i64 i :: topV :: topV :: topV :: topV :: topV :: topV :: topV :: topV :: topV :: topV :: topV :: topV :: topV :: topV :: topV :: topV :: topV :: topV :: topV :: topV :: topV :: topV :: topV :: topV :: topV :: topV :: topV :: topV :: topV :: topV :: []), [some ⟨.view, .ints (flat ps)⟩]⟩
def re_svO (ps : List Pt) : Nat → Ex := fun i => bif allQ (vgQ ps) i (ps.length - i) then .exit 0 else .ret
def rs_svO (ps : List Pt) : Nat → St := fun i => bif allQ (vgQ ps) i (ps.length - i) then ⟨(.slice (some ⟨0, 0, none⟩) ps.length ps.length :: topV :: topV :: topV :: topV :: topV :: topV :: topV :: topV :: topV :: topV :: topV :: topV :: topV :: topV :: topV :: topV :: topV :: topV :: topV :: topV :: topV :: topV :: topV :: topV :: topV :: topV :: topV :: topV :: topV :: topV :: topV :: topV :: topV :: []), [some ⟨.view, .ints (flat ps)⟩]⟩ else ⟨(topV :: topV :: .bool false :: topV :: topV :: topV :: topV :: topV :: topV :: topV :: topV :: topV :: topV :: topV :: topV :: topV :: topV :: topV :: topV :: topV :: topV :: topV :: topV :: topV :: topV :: topV :: topV :: topV :: topV :: topV :: topV :: topV :: topV :: topV :: []), [some ⟨.view, .ints (flat ps)⟩]⟩
set_option maxRecDepth 100000 in
theorem tr_svO (ps : List Pt) (i : Nat) : bodyL Try.prog EGc 30 12 ltSv 1 c_svO k_svO 1 (s_svO ps i) = brT (decide ((↑i : Int) < (↑ps.length : Int))) (.need ((0 : Int) ≤ (↑i : Int) ∧ (↑i : Int) < (↑ps.length : Int)) (.need ((0 : Nat) + (↑i : Int).toNat * (2 : Nat) + (2 : Nat) ≤ (flat ps).length) (brT (!ptB ((flat ps).getD (0 + (↑i : Int).toNat * 2) 0) ((flat ps).getD (0 + (↑i : Int).toNat * 2 + 1) 0)) (.leaf .ret ⟨(topV :: topV :: .bool (false) :: topV :: topV :: topV :: topV :: topV :: topV :: topV :: topV :: topV :: topV :: topV :: topV :: topV :: topV :: topV :: topV :: topV :: topV :: topV :: topV :: topV :: topV :: topV :: topV :: topV :: topV :: topV :: topV :: topV :: topV :: topV :: []), [some ⟨.view, .ints (flat ps)⟩]⟩) (.need ((0 : Int) = (0 : Int)) (.need ((0 : Int) ≤ (↑i : Int) ∧ (↑i : Int) < (↑ps.length : Int)) (.need ((flat ps).length = ps.length * (2 : Nat)) (.need (ps.length ≤ (1000000000 : Nat)) (brT (allQ (dfQ (ptsA ps.length (flat ps)) (↑i : Int).toNat) 0 (↑i : Int).toNat) (.leaf .normal ⟨(.slice (some ⟨0, 0, none⟩) (ps.length) (ps.length) :: topV :: topV :: .int .i64 (IntKind.i64.wrap ((↑i : Int) + 1)) :: topV :: topV :: topV :: topV :: topV :: topV :: topV :: topV :: topV :: topV :: topV :: topV :: topV :: topV :: topV :: topV :: topV :: topV :: topV :: topV :: topV :: topV :: topV :: topV :: topV :: topV :: topV :: topV :: topV :: topV :: []), [some ⟨.view, .ints (flat ps)⟩]⟩) (.leaf .ret ⟨(topV :: topV :: .bool (false) :: topV :: topV :: topV :: topV :: topV :: topV :: topV :: topV :: topV :: topV :: topV :: topV :: topV :: topV :: topV :: topV :: topV :: topV :: topV :: topV :: topV :: topV :: topV :: topV :: topV :: topV :: topV :: topV :: topV :: topV :: topV :: []), [some ⟨.view, .ints (flat ps)⟩]⟩))))))))) (.leaf (.exit 0) ⟨(.slice (some ⟨0, 0, none⟩) (ps.length) (ps.length) :: topV :: topV :: topV :: topV :: topV :: topV :: topV :: topV :: topV :: topV :: topV :: topV :: topV :: topV :: topV :: topV :: topV :: topV :: topV :: topV :: topV :: topV :: topV :: topV :: topV :: topV :: topV :: topV :: topV :: topV :: topV :: topV :: topV :: []), [some ⟨.view, .ints (flat ps)⟩]⟩) := by kernel_rfl
def inv_svO (ps : List Pt) : Nat → Prop := fun i => i ≤ ps.length
def me_svO (ps : List Pt) : Nat → Nat := fun i => ps.length - i
/-- A round of this loop. -/
def Round_svO (ps : List Pt) : Prop := ∀ xx : Nat, inv_svO ps xx → (bodyL Try.prog EGc 30 12 ltSv 1 c_svO k_svO 1 (s_svO ps xx)).ok (RoundEnd 1 (s_svO ps) (inv_svO ps) (me_svO ps) (re_svO ps) (rs_svO ps) xx) (fun _ _ => False)
def e_svO (s : St) (k : Ex → St → Tree) : Option Tree := match Nat.beq s.tmps.length 34, pickL s.tmps [0, 3], s.mem with
  | true, [.slice (some ⟨0, 0, none⟩) n _, .int .i64 ii], [some ⟨.view, .ints xs⟩] => some (needs [ii = 0, xs.length = n * 2, n ≤ 1000000000] (brT (allQ (vgQ (ptsA n xs)) 0 n) (k (.exit 0) ⟨(.slice (some ⟨0, 0, none⟩) n n :: topV :: topV :: topV :: topV :: topV :: topV :: topV :: topV :: topV :: topV :: topV :: topV :: topV :: topV :: topV :: topV :: topV :: topV :: topV :: topV :: topV :: topV :: topV :: topV :: topV :: topV :: topV :: topV :: topV :: topV :: topV :: topV :: topV :: []), [some ⟨.view, .ints xs⟩]⟩) (k .ret ⟨(topV :: topV :: .bool false :: topV :: topV :: topV :: topV :: topV :: topV :: topV :: topV :: topV :: topV :: topV :: topV :: topV :: topV :: topV :: topV :: topV :: topV :: topV :: topV :: topV :: topV :: topV :: topV :: topV :: topV :: topV :: topV :: topV :: topV :: topV :: []), [some ⟨.view, .ints xs⟩]⟩)))
  | _, _, _ => none
noncomputable def c_ivG : Code := ((loopsOf (codeOf Try.f54))[0]?).getD .skip
def k_ivG : Ex → List Nat := keeps [0, 8, 9, 10] [(0, [])] [2]
def s_ivG (ps : List Pt) : Nat → St := fun i => ⟨[.slice (some ⟨0, 0, none⟩) ps.length ps.length, topV, topV, topV, topV, topV, topV, topV, .slice (some ⟨0, 0, none⟩) ps.length ps.length, .int .i64 ps.length, .int .i64 i, topV, topV, topV, topV, topV, topV, topV, topV, topV, topV, topV, topV, topV, topV, topV], [some ⟨.view, .ints (flat ps)⟩]⟩
def re_ivG (ps : List Pt) : Nat → Ex := fun i => bif allQ (vgQ ps) i (ps.length - i) then .exit 0 else .ret
def rs_ivG (ps : List Pt) : Nat → St := fun i => bif allQ (vgQ ps) i (ps.length - i) then ⟨[topV, topV, topV, topV, topV, topV, topV, topV, topV, topV, topV, topV, topV, topV, topV, topV, topV, topV, topV, topV, topV, topV, topV, topV, topV, topV], [some ⟨.view, .ints (flat ps)⟩]⟩ else ⟨[topV, topV, .bool false, topV, topV, topV, topV, topV, topV, topV, topV, topV, topV, topV, topV, topV, topV, topV, topV, topV, topV, topV, topV, topV, topV, topV], [some ⟨.view, .ints (flat ps)⟩]⟩
set_option maxRecDepth 100000 in
theorem tr_ivG (ps : List Pt) (i : Nat) : bodyL Try.prog EGc 30 12 noL 1 c_ivG k_ivG 1 (s_ivG ps i) = brT (decide ((↑i : Int) < (↑ps.length : Int))) (.need ((0 : Int) ≤ (↑i : Int) ∧ (↑i : Int) < (↑ps.length : Int)) (.need ((0 : Nat) + (↑i : Int).toNat * (2 : Nat) + (2 : Nat) ≤ (flat ps).length) (brT (!ptB ((flat ps).getD (0 + (↑i : Int).toNat * 2) 0) ((flat ps).getD (0 + (↑i : Int).toNat * 2 + 1) 0)) (.leaf .ret ⟨[topV, topV, .bool (false), topV, topV, topV, topV, topV, topV, topV, topV, topV, topV, topV, topV, topV, topV, topV, topV, topV, topV, topV, topV, topV, topV, topV], [some ⟨.view, .ints (flat ps)⟩]⟩) (.need (((bndI (some (IntKind.i64, (↑i : Int))) (↑ps.length : Int)).toNat - (0 : Nat)) * (2 : Nat) ≤ (List.drop (0 : Nat) (flat ps)).length) (.need ((bndI (some (IntKind.i64, (↑i : Int))) (↑ps.length : Int)).toNat - (0 : Nat) ≤ (1000000000 : Nat)) (.need ((0 : Int) ≤ bndI none (0 : Int) ∧ bndI none (0 : Int) ≤ bndI (some (IntKind.i64, (↑i : Int))) (↑ps.length : Int) ∧ bndI (some (IntKind.i64, (↑i : Int))) (↑ps.length : Int) ≤ (↑ps.length : Int)) (brT (!allQ (ngQ (ptsA ((bndI (some (IntKind.i64, (↑i : Int))) (↑ps.length : Int)).toNat - 0) (List.drop 0 (flat ps))) ((flat ps).getD (0 + (↑i : Int).toNat * 2) 0) ((flat ps).getD (0 + (↑i : Int).toNat * 2 + 1) 0)) 0 (ptsA ((bndI (some (IntKind.i64, (↑i : Int))) (↑ps.length : Int)).toNat - 0) (List.drop 0 (flat ps))).length) (.leaf .ret ⟨[topV, topV, .bool (false), topV, topV, topV, topV, topV, topV, topV, topV, topV, topV, topV, topV, topV, topV, topV, topV, topV, topV, topV, topV, topV, topV, topV], [some ⟨.view, .ints (flat ps)⟩]⟩) (.leaf .normal ⟨[.slice (some ⟨0, 0, none⟩) (ps.length) (ps.length), topV, topV, topV, topV, topV, topV, topV, .slice (some ⟨0, 0, none⟩) (ps.length) (ps.length), .int .i64 ((↑ps.length : Int)), .int .i64 (IntKind.i64.wrap ((↑i : Int) + 1)), topV, topV, topV, topV, topV, topV, topV, topV, topV, topV, topV, topV, topV, topV, topV], [some ⟨.view, .ints (flat ps)⟩]⟩)))))))) (.leaf (.exit 0) ⟨[topV, topV, topV, topV, topV, topV, topV, topV, topV, topV, topV, topV, topV, topV, topV, topV, topV, topV, topV, topV, topV, topV, topV, topV, topV, topV], [some ⟨.view, .ints (flat ps)⟩]⟩) := by kernel_rfl
set_option maxRecDepth 100000 in
theorem nl_ivG : loopsOf c_ivG = [] := by kernel_rfl
def inv_ivG (ps : List Pt) : Nat → Prop := fun i => i ≤ ps.length
def me_ivG (ps : List Pt) : Nat → Nat := fun i => ps.length - i
/-- A round of this loop. -/
def Round_ivG (ps : List Pt) : Prop := ∀ xx : Nat, inv_ivG ps xx → (bodyL Try.prog EGc 30 12 noL 1 c_ivG k_ivG 1 (s_ivG ps xx)).ok (RoundEnd 1 (s_ivG ps) (inv_ivG ps) (me_ivG ps) (re_ivG ps) (rs_ivG ps) xx) (fun _ _ => False)
def e_ivG (s : St) (k : Ex → St → Tree) : Option Tree := match Nat.beq s.tmps.length 26, pickL s.tmps [0, 8, 9, 10], s.mem with
  | true, [.slice (some ⟨0, 0, none⟩) n _, .slice (some ⟨0, 0, none⟩) n1 _, .int .i64 n2, .int .i64 ii], [some ⟨.view, .ints xs⟩] => some (needs [ii = 0, n1 = n, n2 = n, xs.length = n * 2, n ≤ 1000000000] (brT (allQ (vgQ (ptsA n xs)) 0 n) (k (.exit 0) ⟨[topV, topV, topV, topV, topV, topV, topV, topV, topV, topV, topV, topV, topV, topV, topV, topV, topV, topV, topV, topV, topV, topV, topV, topV, topV, topV], [some ⟨.view, .ints xs⟩]⟩) (k .ret ⟨[topV, topV, .bool false, topV, topV, topV, topV, topV, topV, topV, topV, topV, topV, topV, topV, topV, topV, topV, topV, topV, topV, topV, topV, topV, topV, topV], [some ⟨.view, .ints xs⟩]⟩)))
  | _, _, _ => none
theorem allQ_mk' {P : Nat → Bool} : ∀ (m i : Nat), (∀ j, i ≤ j → j < i + m → P j = true) → allQ P i m = true
  | 0, _, _ => rfl
  | m + 1, i, h => by
    simp only [allQ, Bool.and_eq_true]
    exact ⟨h i (Nat.le_refl _) (by omega), allQ_mk' m (i + 1) fun j h1 h2 => h j (by omega) (by omega)⟩
theorem eqG_is (p q : Pt) : negB false (p.1 == q.1 && (p.2 == q.2 && true)) = decide (p = q) := by
  rw [Bool.eq_iff_iff]
  simp only [negB, Bool.and_true, Bool.and_eq_true, beq_iff_eq, decide_eq_true_eq]
  constructor
  · rintro ⟨h1, h2⟩; exact Prod.ext h1 h2
  · rintro rfl; exact ⟨rfl, rfl⟩
set_option maxRecDepth 100000 in
set_option maxHeartbeats 1000000 in
theorem round_svI (ps : List Pt) (i : Nat) (h : ps.length ≤ 1000000000) (hi : i < ps.length) : Round_svI ps i := by
  intro k h1
  have h1 : k ≤ i := h1
  rw [tr_svI]
  have fl := flat_length ps
  simp only [Int.toNat_natCast, Nat.zero_add, flat_get0, flat_get1, eqG_is]
  refine brT_ok.2 ⟨fun hlt => ?_, fun hge => ?_⟩
  · have hlt := of_decide_eq_true hlt
    have hk : k < i := by omega
    rw [wsucc (n := ps.length) (by omega) h]
    simp only [Tree.ok]
    refine ⟨by omega, by omega, by omega, by omega, brT_ok.2 ⟨fun g => ?_, fun g => ?_⟩⟩
    · have e : allQ (dfQ ps i) k (i - k) = false := by
        rw [allQ_step hk, show dfQ ps i k = false from by unfold dfQ gG; rw [g]; rfl, Bool.false_and]
      refine ⟨by simp only [re_svI, e, cond_false], [], ?_⟩
      simp only [rs_svI, e, cond_false]
      repeat' (first | exact True.intro | exact rfl | exact fun _ => rfl | refine And.intro ?_ ?_)
    · have e : allQ (dfQ ps i) k (i - k) = allQ (dfQ ps i) (k + 1) (i - (k + 1)) := by
        rw [allQ_step hk, show dfQ ps i k = true from by unfold dfQ gG; rw [g]; rfl, Bool.true_and]
      refine ⟨k + 1, [], ?_, ?_, by simp only [re_svI, e], by simp only [rs_svI, e], ?_⟩
      · show k + 1 ≤ i; omega
      · show i - (k + 1) < i - k; omega
      · repeat' (first | exact True.intro | exact rfl | exact fun _ => rfl | refine And.intro ?_ ?_)
  · have hge := of_decide_eq_false hge
    have e : allQ (dfQ ps i) k (i - k) = true := allQ_end (by omega)
    refine ⟨by simp only [re_svI, e, cond_true], [], ?_⟩
    simp only [rs_svI, e, cond_true]
    repeat' (first | exact True.intro | exact rfl | exact fun _ => rfl | refine And.intro ?_ ?_)
set_option maxRecDepth 100000 in
theorem lg_svI : LoopE Try.prog e_svI c_svI := by
  intro s k t F H hlt ht
  unfold e_svI at hlt
  split at hlt
  rotate_left
  · cases hlt
  rename_i hlen hpick hmem
  obtain ⟨tmps, mem⟩ := s
  simp only at hlen hpick hmem
  subst hmem
  obtain rfl := Option.some.inj hlt
  obtain ⟨⟨rfl, h0, h1, h2, _⟩, ht2⟩ := needs_ok ht
  clear ht hlt
  obtain ⟨ps, rfl, rfl⟩ := even_flat h1
  obtain ⟨i, rfl⟩ := Int.eq_ofNat_of_zero_le h0.1
  rw [ptsA_flat] at ht2
  simp only [Int.toNat_natCast] at ht2
  refine ⟨_, _, pick2k ht2, loop_run mixed EGc_ok (s_svI ps i) (inv_svI ps i) (me_svI ps i) (re_svI ps i) (rs_svI ps i) k_svI (fun _ => rfl) (noLoops nl_svI) (round_svI ps i h2 (by omega)) (x := 0) (Nat.zero_le _) (π := []) rfl ?_⟩
  refine ⟨rfl, rfl, ?_, wvs_spread' [0, 3, 4] hlen rfl ?_⟩
  · repeat' (first | exact True.intro | exact rfl | exact wv_top _ _ | exact fun _ => rfl | assumption | exact Eq.symm (by assumption) | exact vI0 rfl | refine And.intro ?_ ?_)
  · rw [hpick]
    repeat' (first | exact True.intro | exact rfl | exact wv_top _ _ | exact fun _ => rfl | assumption | exact Eq.symm (by assumption) | exact vI0 rfl | refine And.intro ?_ ?_)
set_option maxRecDepth 100000 in
theorem in_svO : loopsOf c_svO = [c_svI] := by kernel_rfl
theorem ltSv_good : LoopsGood Try.prog ltSv 1 c_svO := by
  intro i d hd s k t F H hlt ht
  rw [in_svO] at hd
  cases i with
  | zero =>
    obtain rfl : c_svI = d := by simpa using hd
    exact lg_svI s k t F H hlt ht
  | succ i => simp at hd
set_option maxRecDepth 100000 in
theorem round_svO (ps : List Pt) (h : ps.length ≤ 1000000000) : Round_svO ps := by
  intro i h1
  have h1 : i ≤ ps.length := h1
  rw [tr_svO]
  have fl := flat_length ps
  simp only [Int.toNat_natCast, Nat.zero_add, flat_get0, flat_get1, ptsA_flat]
  refine brT_ok.2 ⟨fun hlt => ?_, fun hge => ?_⟩
  · have hlt := of_decide_eq_true hlt
    have hi : i < ps.length := by omega
    have st := allQ_step (P := vgQ ps) hi
    have eq : vgQ ps i = (ptB (ps.getD i (0, 0)).1 (ps.getD i (0, 0)).2 && allQ (dfQ ps i) 0 i) := rfl
    rw [wsucc (n := ps.length) hi h]
    simp only [Tree.ok]
    refine ⟨by omega, by omega, brT_ok.2 ⟨fun g => ?_, fun g => ⟨trivial, by omega, fl, h, brT_ok.2 ⟨fun k => ?_, fun k => ?_⟩⟩⟩⟩
    · have g : ptB (ps.getD i (0, 0)).1 (ps.getD i (0, 0)).2 = false := by simpa using g
      rw [eq, g, Bool.false_and, Bool.false_and] at st
      refine ⟨by simp only [re_svO, st, cond_false], [], ?_⟩
      simp only [rs_svO, st, cond_false]
      repeat' (first | exact True.intro | exact rfl | exact fun _ => rfl | refine And.intro ?_ ?_)
    · have g : ptB (ps.getD i (0, 0)).1 (ps.getD i (0, 0)).2 = true := by simpa using g
      rw [eq, g, k, Bool.true_and, Bool.true_and] at st
      refine ⟨i + 1, [], ?_, ?_, by simp only [re_svO, st], by simp only [rs_svO, st], ?_⟩
      · show i + 1 ≤ ps.length; omega
      · show ps.length - (i + 1) < ps.length - i; omega
      · repeat' (first | exact True.intro | exact rfl | exact fun _ => rfl | refine And.intro ?_ ?_)
    · rw [eq, k, Bool.and_false, Bool.false_and] at st
      refine ⟨by simp only [re_svO, st, cond_false], [], ?_⟩
      simp only [rs_svO, st, cond_false]
      repeat' (first | exact True.intro | exact rfl | exact fun _ => rfl | refine And.intro ?_ ?_)
  · have hge := of_decide_eq_false hge
    have e : allQ (vgQ ps) i (ps.length - i) = true := allQ_end (by omega)
    refine ⟨by simp only [re_svO, e, cond_true], [], ?_⟩
    simp only [rs_svO, e, cond_true]
    repeat' (first | exact True.intro | exact rfl | exact fun _ => rfl | refine And.intro ?_ ?_)
set_option maxRecDepth 100000 in
theorem lg_svO : LoopE Try.prog e_svO c_svO := by
  intro s k t F H hlt ht
  unfold e_svO at hlt
  split at hlt
  rotate_left
  · cases hlt
  rename_i hlen hpick hmem
  obtain ⟨tmps, mem⟩ := s
  simp only at hlen hpick hmem
  subst hmem
  obtain rfl := Option.some.inj hlt
  obtain ⟨⟨rfl, h1, h2, _⟩, ht2⟩ := needs_ok ht
  clear ht hlt
  obtain ⟨ps, rfl, rfl⟩ := even_flat h1
  rw [ptsA_flat] at ht2
  refine ⟨_, _, pick2k ht2, loop_run mixed EGc_ok (s_svO ps) (inv_svO ps) (me_svO ps) (re_svO ps) (rs_svO ps) k_svO (fun _ => rfl) ltSv_good (round_svO ps h2) (x := 0) (Nat.zero_le _) (π := []) rfl ?_⟩
  refine ⟨rfl, rfl, ?_, wvs_spread' [0, 3] hlen rfl ?_⟩
  · repeat' (first | exact True.intro | exact rfl | exact wv_top _ _ | exact fun _ => rfl | assumption | exact Eq.symm (by assumption) | exact vI0 rfl | refine And.intro ?_ ?_)
  · rw [hpick]
    repeat' (first | exact True.intro | exact rfl | exact wv_top _ _ | exact fun _ => rfl | assumption | exact Eq.symm (by assumption) | exact vI0 rfl | refine And.intro ?_ ?_)
theorem ptsA_tk' {ps : List Pt} {K : Nat} (h : K ≤ ps.length) : ptsA K (flat ps) = ps.take K := by
  have e := ptsA_flat (ps.take K)
  have hl : (ps.take K).length = K := by simp; omega
  rw [hl] at e
  unfold ptsA at e ⊢
  rw [flat_take]
  rw [flat_take, List.take_take, Nat.min_self] at e
  exact e
theorem bndG_some (k : IntKind) (x d : Int) : bndI (some (k, x)) d = x := rfl
theorem bndG_none (d : Int) : bndI none d = d := rfl
theorem ng_df {ps : List Pt} {i : Nat} (h : i < ps.length) : allQ (ngQ (ps.take i) (ps.getD i (0, 0)).1 (ps.getD i (0, 0)).2) 0 i = allQ (dfQ ps i) 0 i := by
  have key : ∀ k, k < i → ngQ (ps.take i) (ps.getD i (0, 0)).1 (ps.getD i (0, 0)).2 k = dfQ ps i k := fun k hk => by
    have e : (ps.take i).getD k (0, 0) = ps.getD k (0, 0) := by
      simp only [List.getD_eq_getElem?_getD]
      rw [List.getElem?_take, if_pos hk]
    unfold ngQ dfQ gG
    rw [e]
    have := eqG_is (ps.getD k (0, 0)) (ps.getD i (0, 0))
    simp only [negB, Bool.and_true] at this
    rw [this]
  rw [Bool.eq_iff_iff]
  constructor
  · intro g
    exact allQ_mk' _ _ fun j h1 h2 => by rw [← key j (by omega)]; exact allQ_get _ _ g j h1 h2
  · intro g
    exact allQ_mk' _ _ fun j h1 h2 => by rw [key j (by omega)]; exact allQ_get _ _ g j h1 h2
set_option maxRecDepth 100000 in
theorem round_ivG (ps : List Pt) (h : ps.length ≤ 1000000000) : Round_ivG ps := by
  intro i h1
  have h1 : i ≤ ps.length := h1
  rw [tr_ivG]
  have fl := flat_length ps
  simp only [bndG_some, bndG_none, Int.toNat_natCast, Nat.zero_add, Nat.sub_zero, List.drop_zero, flat_get0, flat_get1]
  refine brT_ok.2 ⟨fun hlt => ?_, fun hge => ?_⟩
  · have hlt := of_decide_eq_true hlt
    have hi : i < ps.length := by omega
    have st := allQ_step (P := vgQ ps) hi
    have eq : vgQ ps i = (ptB (ps.getD i (0, 0)).1 (ps.getD i (0, 0)).2 && allQ (dfQ ps i) 0 i) := rfl
    have ln : (ps.take i).length = i := by rw [List.length_take]; omega
    rw [wsucc (n := ps.length) hi h, ptsA_tk' (by omega), ln, ng_df hi]
    simp only [Tree.ok]
    refine ⟨by omega, by omega, brT_ok.2 ⟨fun g => ?_, fun g => ⟨by omega, by omega, by omega, brT_ok.2 ⟨fun k => ?_, fun k => ?_⟩⟩⟩⟩
    · have g : ptB (ps.getD i (0, 0)).1 (ps.getD i (0, 0)).2 = false := by simpa using g
      rw [eq, g, Bool.false_and, Bool.false_and] at st
      refine ⟨by simp only [re_ivG, st, cond_false], [], ?_⟩
      simp only [rs_ivG, st, cond_false]
      repeat' (first | exact True.intro | exact rfl | exact fun _ => rfl | refine And.intro ?_ ?_)
    · have k : allQ (dfQ ps i) 0 i = false := by simpa using k
      rw [eq, k, Bool.and_false, Bool.false_and] at st
      refine ⟨by simp only [re_ivG, st, cond_false], [], ?_⟩
      simp only [rs_ivG, st, cond_false]
      repeat' (first | exact True.intro | exact rfl | exact fun _ => rfl | refine And.intro ?_ ?_)
    · have g : ptB (ps.getD i (0, 0)).1 (ps.getD i (0, 0)).2 = true := by simpa using g
      have k : allQ (dfQ ps i) 0 i = true := by simpa using k
      rw [eq, g, k, Bool.true_and, Bool.true_and] at st
      refine ⟨i + 1, [], ?_, ?_, by simp only [re_ivG, st], by simp only [rs_ivG, st], ?_⟩
      · show i + 1 ≤ ps.length; omega
      · show ps.length - (i + 1) < ps.length - i; omega
      · repeat' (first | exact True.intro | exact rfl | exact fun _ => rfl | refine And.intro ?_ ?_)
  · have hge := of_decide_eq_false hge
    have e : allQ (vgQ ps) i (ps.length - i) = true := allQ_end (by omega)
    refine ⟨by simp only [re_ivG, e, cond_true], [], ?_⟩
    simp only [rs_ivG, e, cond_true]
    repeat' (first | exact True.intro | exact rfl | exact fun _ => rfl | refine And.intro ?_ ?_)
set_option maxRecDepth 100000 in
theorem lg_ivG : LoopE Try.prog e_ivG c_ivG := by
  intro s k t F H hlt ht
  unfold e_ivG at hlt
  split at hlt
  rotate_left
  · cases hlt
  rename_i hlen hpick hmem
  obtain ⟨tmps, mem⟩ := s
  simp only at hlen hpick hmem
  subst hmem
  obtain rfl := Option.some.inj hlt
  obtain ⟨⟨rfl, rfl, rfl, h1, h2, _⟩, ht2⟩ := needs_ok ht
  clear ht hlt
  obtain ⟨ps, rfl, rfl⟩ := even_flat h1
  rw [ptsA_flat] at ht2
  refine ⟨_, _, pick2k ht2, loop_run mixed EGc_ok (s_ivG ps) (inv_ivG ps) (me_ivG ps) (re_ivG ps) (rs_ivG ps) k_ivG (fun _ => rfl) (noLoops nl_ivG) (round_ivG ps h2) (x := 0) (Nat.zero_le _) (π := []) rfl ?_⟩
  refine ⟨rfl, rfl, ?_, wvs_spread' [0, 8, 9, 10] hlen rfl ?_⟩
  · repeat' (first | exact True.intro | exact rfl | exact wv_top _ _ | exact fun _ => rfl | assumption | exact Eq.symm (by assumption) | exact vI0 rfl | refine And.intro ?_ ?_)
  · rw [hpick]
    repeat' (first | exact True.intro | exact rfl | exact wv_top _ _ | exact fun _ => rfl | assumption | exact Eq.symm (by assumption) | exact vI0 rfl | refine And.intro ?_ ?_)
end Go.Proofs.Ytolodncpegajkab
namespace Go.Proofs.Ytolodncpegajkab
set_option linter.all false
open Go.RowKit
theorem loop_det2 {P : Program} {c : Code} {N M : Nat} {X : Type} (St_of : X → St) (Inv : X → Prop) (μ : X → Nat) (re : X → Ex) (rs : X → St) (keep : Ex → List Nat) (hM : ∀ x, (St_of x).mem.length ≤ M)
    (h : ∀ x, Inv x → ∃ e' s', Det P c (St_of x) e' s' ∧ match e' with
      | .normal => ∃ x' π, Inv x' ∧ μ x' < μ x ∧ re x' = re x ∧ rs x' = rs x ∧ WS N π (cutS M (keep .normal) s') (St_of x')
      | e => e = re x ∧ ∃ π, WS N π (cutS M (keep e) s') (rs x))
    {x : X} (hx : Inv x) {s : St} {π : List (Option Nat)} (hN : s.mem.length = N) (hs : WS N π s (St_of x)) : Det P (.loop c) s (re x) (rs x) := by
  intro w0 a w hc
  have hρ := con_dom hc
  rw [hN] at hρ
  have hρ' : ∀ {x' π' s'}, WS N π' s' (St_of x') → ∀ n, (St_of x').mem.length ≤ n → w0.ρ0 n = none := fun h n hn => hρ n (Nat.le_trans (Nat.le_of_ble_eq_true h.1) hn)
  refine wpIn_loop_ghost (fun n a w => ∃ x', Inv x' ∧ μ x' = n ∧ re x' = re x ∧ rs x' = rs x ∧ (∀ n, (St_of x').mem.length ≤ n → w0.ρ0 n = none) ∧ Con w0 (St_of x').fs a w) (μ x) ⟨x, hx, rfl, rfl, rfl, hρ' hs, weak_con hs hρ hc⟩ ?_
  rintro n a w ⟨x', hI, rfl, hre, hrs, hdom, hcc⟩
  obtain ⟨e', s', hd, hend⟩ := h x' hI
  have hdom2 : ∀ n, M ≤ n → w0.ρ0 n = none := fun n hn => hdom n (Nat.le_trans (hM x') hn)
  refine wpIn_mono (hd w0 a w hcc) ?_
  rintro e a' w' ⟨rfl, hcc'⟩
  cases e' with
  | normal =>
    obtain ⟨x2, π2, g1, g2, g3, g4, g5⟩ := hend
    exact ⟨_, g2, x2, g1, rfl, g3.trans hre, g4.trans hrs, hρ' g5, weak_con g5 hρ (cut_con hdom2 hcc')⟩
  | exit id =>
    obtain ⟨g1, π2, g2⟩ := hend
    exact ⟨by rw [← hre, ← g1], by rw [← hrs]; exact weak_con g2 hρ (cut_con hdom2 hcc')⟩
  | ret =>
    obtain ⟨g1, π2, g2⟩ := hend
    exact ⟨by rw [← hre, ← g1], by rw [← hrs]; exact weak_con g2 hρ (cut_con hdom2 hcc')⟩
theorem loop_run2 {P : Program} (hm : P.follows .mixedOrders = true) {E : Env} (hE : EnvOk P E) {m n : Nat} {lt : LT} {j : Nat} {c : Code} {N : Nat} {X : Type} (St_of : X → St) (Inv : X → Prop) (μ : X → Nat) (re : X → Ex) (rs : X → St) (keep : Ex → List Nat) {M : Nat} (hM : ∀ x, Nat.ble (St_of x).mem.length M = true) (hL : LoopsGood P lt j c)
    (h : ∀ x, Inv x → (bodyL P E m n lt j c keep M (St_of x)).ok (RoundEnd N St_of Inv μ re rs x) (fun _ _ => False))
    {x : X} (hx : Inv x) {s : St} {π : List (Option Nat)} (hN : s.mem.length = N) (hs : WS N π s (St_of x)) : Det P (.loop c) s (re x) (rs x) :=
  loop_det2 (M := M) St_of Inv μ re rs keep (fun x => Nat.le_of_ble_eq_true (hM x)) (fun x hx => by
    obtain ⟨e', s', h1, h2⟩ := body_det hm hE hL (h x hx)
    refine ⟨e', s', h1, ?_⟩
    unfold RoundEnd at h2
    cases e' <;> exact h2) hx hN hs
end Go.Proofs.Ytolodncpegajkab
namespace Go.Proofs.Ytolodncpegajkab
set_option linter.all false
open Go.RowKit
theorem Lr_svO {fn : Func} (hf : Try.prog.funcs[51]? = some fn) : LoopsGood Try.prog (lt1 e_svO) 0 (codeOf fn) := by
  obtain rfl := fn_is Try.func51 hf
  exact lt1_good lg_svO
theorem Lr_ivG {fn : Func} (hf : Try.prog.funcs[54]? = some fn) : LoopsGood Try.prog (lt1 e_ivG) 0 (codeOf fn) := by
  obtain rfl := fn_is Try.func54 hf
  exact lt1_good lg_ivG
def LVg : FuncId → LT := fun f => match f with
  | 51 => lt1 e_svO
  | 54 => lt1 e_ivG
  | _ => noL
def EVg : Env := mkE TGc (fun _ _ => none) LVg
theorem EVg_ok : EnvOk Try.prog EVg := mkEOk TGc_ok (fun _ _ _ _ _ h => (by cases h)) (by
  intro f fn hf
  unfold LVg
  split
  all_goals first | with_reducible exact Lr_svO hf | with_reducible exact Lr_ivG hf | exact noL_good)
set_option maxRecDepth 100000 in
theorem tr_svGF (ps : List Pt) : bodyV Try.prog EVg 30 12 51 [.row ps.length (.ints (flat ps))] = .need ((0 : Int) = (0 : Int)) (.need ((flat ps).length = ps.length * (2 : Nat)) (.need (ps.length ≤ (1000000000 : Nat)) (brT (allQ (vgQ (ptsA ps.length (flat ps))) 0 ps.length) (.fin (.bool (decide ((↑ps.length : Int) ≤ 8))) []) (.fin (.bool (false)) [])))) := by kernel_rfl
set_option maxRecDepth 100000 in
theorem tr_ivGF (ps : List Pt) : bodyV Try.prog EVg 30 12 54 [.row ps.length (.ints (flat ps))] = brT (decide (8 < (↑ps.length : Int))) (.fin (.bool (false)) []) (.need ((0 : Int) = (0 : Int)) (.need (ps.length = ps.length) (.need ((↑ps.length : Int) = (↑ps.length : Int)) (.need ((flat ps).length = ps.length * (2 : Nat)) (.need (ps.length ≤ (1000000000 : Nat)) (brT (allQ (vgQ (ptsA ps.length (flat ps))) 0 ps.length) (.fin (.bool (true)) []) (.fin (.bool (false)) []))))))) := by kernel_rfl
def vgB (ps : List Pt) : Bool := allQ (vgQ ps) 0 ps.length && decide (ps.length ≤ 8)
theorem res_svGF (ps : List Pt) (h : Big ps) : Res Try.prog 51 [.row ps.length (.ints (flat ps))] (.bool (vgB ps)) := by
  refine bodyV_res mixed EVg_ok (m := 30) (n := 12) rfl ?_
  rw [tr_svGF]
  unfold Big at h
  simp only [ptsA_flat, flat_length]
  unfold vgB
  rcases allQ (vgQ ps) 0 ps.length with _ | _
  · exact ⟨trivial, trivial, h, rfl⟩
  · refine ⟨trivial, trivial, h, ?_⟩
    show Value.bool _ = Value.bool _
    rw [Value.bool.injEq, Bool.true_and]
    exact decide_eq_decide.2 (by omega)
theorem res_ivGF (ps : List Pt) (h : Big ps) : Res Try.prog 54 [.row ps.length (.ints (flat ps))] (.bool (vgB ps)) := by
  refine bodyV_res mixed EVg_ok (m := 30) (n := 12) rfl ?_
  rw [tr_ivGF]
  unfold Big at h
  simp only [ptsA_flat, flat_length]
  unfold vgB
  by_cases hl : ps.length ≤ 8
  · rw [decide_eq_true hl, decide_eq_false (show ¬ (8 : Int) < ps.length by omega), Bool.and_true]
    rcases allQ (vgQ ps) 0 ps.length with _ | _ <;> (simp only [brT_t, brT_f, Tree.ok]; repeat' (first | exact True.intro | exact rfl | assumption | omega | refine And.intro ?_ ?_))
  · rw [decide_eq_false hl, decide_eq_true (show (8 : Int) < ps.length by omega), Bool.and_false]
    exact rfl
def pVgs : List DArg → Option (Value × List Prop)
  | [.row m (.ints xs)] => some (.bool (vgB (ptsA m xs)), [m * 2 ≤ xs.length, m ≤ 1000000000])
  | _ => none
theorem pVgs_ok {f : FuncId} (h0 : ∀ ps : List Pt, Big ps → Res Try.prog f [.row ps.length (.ints (flat ps))] (.bool (vgB ps))) {ds : List DArg} {v : Value} {C : List Prop} (h : pVgs ds = some (v, C)) (hC : AllP C) : Res Try.prog f ds v := by
  unfold pVgs at h
  split at h
  · obtain ⟨rfl, rfl⟩ : _ ∧ _ := by simpa using h
    obtain ⟨_, h2⟩ := ptsA_spec hC.1
    exact res_pts1 (pre := []) (post := []) hC.1 (h0 _ (by unfold Big; rw [h2]; exact hC.2.1))
  · cases h
theorem pVgS_ok {ds : List DArg} {v : Value} {C : List Prop} (h : pVgs ds = some (v, C)) (hC : AllP C) : Res Try.prog 51 ds v := pVgs_ok res_svGF h hC
theorem pVgI_ok {ds : List DArg} {v : Value} {C : List Prop} (h : pVgs ds = some (v, C)) (hC : AllP C) : Res Try.prog 54 ds v := pVgs_ok res_ivGF h hC
def TVg : Tab := fun f ds => match f with
  | 51 => pVgs ds
  | 54 => pVgs ds
  | f => TGc f ds
theorem TVg_ok : TabOk Try.prog TVg := by
  intro f ds v C h hC
  unfold TVg at h
  (try split at h)
  all_goals first | with_reducible exact pVgS_ok h hC | with_reducible exact pVgI_ok h hC | exact TGc_ok _ _ _ _ h hC
end Go.Proofs.Ytolodncpegajkab
namespace Go.Proofs.Ytolodncpegajkab
set_option linter.all false
open Go.Shelf
def sortRp_ren : Go.Shelf.Ren := ⟨fun | 6 => 124 | 15 => 139 | 14 => 148 | 28 => 163 | 29 => 164 | 20 => 168 | 21 => 169 | 22 => 170 | 23 => 171 | 24 => 172 | 25 => 173 | 26 => 174 | 27 => 175 | 46 => 184 | 47 => 180 | 48 => 181 | 49 => 185 | 50 => 186 | 57 => 188 | n => n, fun | 22 => 92 | 24 => 100 | 25 => 134 | 3 => 3 | 39 => 145 | 0 => 0 | 53 => 160 | 55 => 162 | 4 => 4 | 46 => 154 | 45 => 153 | 50 => 83 | 5 => 5 | 9 => 9 | 66 => 169 | 70 => 173 | 76 => 177 | 77 => 90 | n => n, fun | n => n⟩
theorem sortRp : Go.Proofs.SlLaysF0.n6 Try.prog sortRp_ren := {
  mixed := by kernel_rfl
  f6 := ⟨Try.f124.name, by decide, Try.func124.trans (congrArg some (by kernel_rfl))⟩
  f14 := ⟨Try.f148.name, by decide, Try.func148.trans (congrArg some (by kernel_rfl))⟩
  f15 := Try.func139.trans (congrArg some (by kernel_rfl))
  f20 := ⟨Try.f168.name, by decide, Try.func168.trans (congrArg some (by kernel_rfl))⟩
  f21 := ⟨Try.f169.name, by decide, Try.func169.trans (congrArg some (by kernel_rfl))⟩
  f22 := ⟨Try.f170.name, by decide, Try.func170.trans (congrArg some (by kernel_rfl))⟩
  f23 := ⟨Try.f171.name, by decide, Try.func171.trans (congrArg some (by kernel_rfl))⟩
  f24 := ⟨Try.f172.name, by decide, Try.func172.trans (congrArg some (by kernel_rfl))⟩
  f25 := ⟨Try.f173.name, by decide, Try.func173.trans (congrArg some (by kernel_rfl))⟩
  f26 := ⟨Try.f174.name, by decide, Try.func174.trans (congrArg some (by kernel_rfl))⟩
  f27 := ⟨Try.f175.name, by decide, Try.func175.trans (congrArg some (by kernel_rfl))⟩
  f28 := Try.func163.trans (congrArg some (by kernel_rfl))
  f29 := Try.func164.trans (congrArg some (by kernel_rfl))
  f46 := ⟨Try.f184.name, by decide, Try.func184.trans (congrArg some (by kernel_rfl))⟩
  f47 := Try.func180.trans (congrArg some (by kernel_rfl))
  f48 := Try.func181.trans (congrArg some (by kernel_rfl))
  f49 := ⟨Try.f185.name, by decide, Try.func185.trans (congrArg some (by kernel_rfl))⟩
  f50 := ⟨Try.f186.name, by decide, Try.func186.trans (congrArg some (by kernel_rfl))⟩
  f57 := ⟨Try.f188.name, by decide, Try.func188.trans (congrArg some (by kernel_rfl))⟩
  t0 := Try.underlying0
  a0 := Try.isAgg0
  z0 := Try.sizeOf0
  v0 := Try.zeroValue0
  t3 := Try.underlying3
  a3 := Try.isAgg3
  z3 := Try.sizeOf3
  v3 := Try.zeroValue3
  t4 := Try.underlying4
  a4 := Try.isAgg4
  z4 := Try.sizeOf4
  v4 := Try.zeroValue4
  t5 := Try.underlying5
  a5 := Try.isAgg5
  z5 := Try.sizeOf5
  v5 := Try.zeroValue5
  t9 := Try.underlying9
  a9 := Try.isAgg9
  z9 := Try.sizeOf9
  v9 := Try.zeroValue9
  t22 := Try.underlying92
  a22 := Try.isAgg92
  z22 := Try.sizeOf92
  v22 := Try.zeroValue92
  t25 := Try.underlying134
  a25 := Try.isAgg134
  z25 := Try.sizeOf134
  v25 := Try.zeroValue134
  t39 := Try.underlying145
  a39 := Try.isAgg145
  z39 := Try.sizeOf145
  v39 := Try.zeroValue145
  t45 := Try.underlying153
  a45 := Try.isAgg153
  z45 := Try.sizeOf153
  v45 := Try.zeroValue153
  t46 := Try.underlying154
  a46 := Try.isAgg154
  z46 := Try.sizeOf154
  v46 := Try.zeroValue154
  t50 := Try.underlying83
  a50 := Try.isAgg83
  z50 := Try.sizeOf83
  v50 := Try.zeroValue83
  t53 := Try.underlying160
  a53 := Try.isAgg160
  z53 := Try.sizeOf160
  v53 := Try.zeroValue160
  t55 := Try.underlying162
  a55 := Try.isAgg162
  z55 := Try.sizeOf162
  v55 := Try.zeroValue162
  t66 := Try.underlying169
  a66 := Try.isAgg169
  z66 := Try.sizeOf169
  v66 := Try.zeroValue169
  t70 := Try.underlying173
  a70 := Try.isAgg173
  z70 := Try.sizeOf173
  v70 := Try.zeroValue173
  t76 := Try.underlying177
  a76 := Try.isAgg177
  z76 := Try.sizeOf177
  v76 := Try.zeroValue177
  t77 := Try.underlying90
  a77 := Try.isAgg90
  z77 := Try.sizeOf90
  v77 := Try.zeroValue90 }
end Go.Proofs.Ytolodncpegajkab
namespace Go.Proofs.Ytolodncpegajkab
set_option linter.all false
open Go.RowKit
theorem DOk.ints {w : World} {l : Nat} {cs : Cs} {xs : List Int} (h : cs.list = xs.map (Value.int .i64)) {y : Value} (k : DOk w (.row l cs) y) : DOk w (.row l (.ints xs)) y := by
  obtain ⟨_, ad, c', h2, h3, h4⟩ := k
  refine ⟨rfl, ad, c', h2, h3, h4.imp id ?_⟩
  rintro ⟨g, f, h5, h6, h7⟩
  exact ⟨g, f, h5, h6, fun j v hv => h7 j v (by rw [h]; exact hv)⟩
/-- What is known for a row of ints is known for the same cells written otherwise. -/
theorem DOks.ints {w : World} : ∀ {ds ds' : List DArg} {args : Array Value}, DOks w ds args → ds.length = ds'.length → (∀ (i : Nat) d d', ds[i]? = some d → ds'[i]? = some d' → d = d' ∨ ∃ l cs xs, d = .row l cs ∧ d' = .row l (.ints xs) ∧ cs.list = xs.map (Value.int .i64)) → DOks w ds' args := by
  intro ds ds' args h hl hi
  refine ⟨by rw [← hl]; exact h.1, fun i d' y hd' hy => ?_⟩
  have hlt : i < ds.length := by rw [hl]; exact (List.getElem?_eq_some_iff.1 hd').1
  have hd : ds[i]? = some ds[i] := by simp [hlt]
  have h0 := h.2 i ds[i] y hd hy
  rcases hi i ds[i] d' hd hd' with e | ⟨l, cs, xs, e1, e2, e3⟩
  · rw [← e]; exact h0
  · rw [e1] at h0
    rw [e2]
    exact h0.ints e3
end Go.Proofs.Ytolodncpegajkab
namespace Go.Proofs.Ytolodncpegajkab
set_option linter.all false
def pltB (a b : Pt) : Bool := decide (a.1 < b.1 ∨ a.1 = b.1 ∧ a.2 < b.2)
theorem pltB_iff {a b : Pt} : pltB a b = true ↔ a.1 < b.1 ∨ a.1 = b.1 ∧ a.2 < b.2 := by simp [pltB]
end Go.Proofs.Ytolodncpegajkab
namespace Go.Proofs.Ytolodncpegajkab
set_option linter.all false
open Go.RowKit
/-- Both fractions of a point: numerator and denominator of X, then of Y. -/
abbrev Q4 := Int × Int × Int × Int
def z4 : Q4 := (0, 0, 0, 0)
def fl4 : List Q4 → List Int
  | [] => []
  | p :: r => p.1 :: p.2.1 :: p.2.2.1 :: p.2.2.2 :: fl4 r
def qs4 : List Int → List Q4
  | a :: b :: c :: d :: r => (a, b, c, d) :: qs4 r
  | _ => []
theorem qs4_fl4 : ∀ ps, qs4 (fl4 ps) = ps
  | [] => rfl
  | p :: r => by simp [fl4, qs4, qs4_fl4 r]
theorem fl4_length : ∀ ps, (fl4 ps).length = ps.length * 4
  | [] => rfl
  | p :: r => by simp [fl4, fl4_length r]; omega
theorem fl4_qs4 : ∀ (n : Nat) (xs : List Int), xs.length = n * 4 → fl4 (qs4 xs) = xs ∧ (qs4 xs).length = n
  | 0, xs, h => by
    obtain rfl : xs = [] := List.eq_nil_of_length_eq_zero (by omega)
    exact ⟨rfl, rfl⟩
  | n + 1, xs, h => by
    match xs, h with
    | a :: b :: c :: d :: r, h =>
      obtain ⟨h1, h2⟩ := fl4_qs4 n r (by simp at h; omega)
      exact ⟨by simp [qs4, fl4, h1], by simp [qs4, h2]⟩
    | [a, b, c], h => simp at h; omega
    | [a, b], h => simp at h; omega
    | [a], h => simp at h; omega
    | [], h => simp at h
theorem four_fl4 {n : Nat} {xs : List Int} (h : xs.length = n * 4) : ∃ ps : List Q4, xs = fl4 ps ∧ ps.length = n :=
  ⟨qs4 xs, (fl4_qs4 n xs h).1.symm, (fl4_qs4 n xs h).2⟩
theorem fl4_append : ∀ a b, fl4 (a ++ b) = fl4 a ++ fl4 b
  | [], b => rfl
  | p :: r, b => by simp [fl4, fl4_append r b]
theorem fl4_drop : ∀ (ps : List Q4) (k : Nat), (fl4 ps).drop (k * 4) = fl4 (ps.drop k)
  | ps, 0 => by simp
  | [], k + 1 => by simp [fl4]
  | p :: r, k + 1 => by
    rw [show (k + 1) * 4 = k * 4 + 4 by omega]
    simp [fl4, fl4_drop r k]
theorem fl4_take : ∀ (ps : List Q4) (k : Nat), (fl4 ps).take (k * 4) = fl4 (ps.take k)
  | ps, 0 => by simp [fl4]
  | [], k + 1 => by simp [fl4]
  | p :: r, k + 1 => by
    rw [show (k + 1) * 4 = k * 4 + 4 by omega]
    simp [fl4, fl4_take r k]
theorem fl4_all (ps : List Q4) : (fl4 ps).take (ps.length * 4) = fl4 ps := by rw [fl4_take, List.take_length]
theorem fl4_get : ∀ (ps : List Q4) (k : Nat), (fl4 ps).getD (k * 4) 0 = (ps.getD k z4).1 ∧ (fl4 ps).getD (k * 4 + 1) 0 = (ps.getD k z4).2.1 ∧ (fl4 ps).getD (k * 4 + 2) 0 = (ps.getD k z4).2.2.1 ∧ (fl4 ps).getD (k * 4 + 3) 0 = (ps.getD k z4).2.2.2
  | [], k => by simp [fl4, z4]
  | p :: r, 0 => by simp [fl4]
  | p :: r, k + 1 => by
    obtain ⟨h1, h2, h3, h4⟩ := fl4_get r k
    rw [show (k + 1) * 4 = k * 4 + 4 by omega, show k * 4 + 4 + 1 = k * 4 + 1 + 4 by omega, show k * 4 + 4 + 2 = k * 4 + 2 + 4 by omega, show k * 4 + 4 + 3 = k * 4 + 3 + 4 by omega]
    simp only [fl4, List.getD_eq_getElem?_getD, List.getElem?_cons_succ] at h1 h2 h3 h4 ⊢
    exact ⟨h1, h2, h3, h4⟩
theorem fl4_get0 (ps : List Q4) (k : Nat) : (fl4 ps).getD (k * 4) 0 = (ps.getD k z4).1 := (fl4_get ps k).1
theorem fl4_get1 (ps : List Q4) (k : Nat) : (fl4 ps).getD (k * 4 + 1) 0 = (ps.getD k z4).2.1 := (fl4_get ps k).2.1
theorem fl4_get2 (ps : List Q4) (k : Nat) : (fl4 ps).getD (k * 4 + 2) 0 = (ps.getD k z4).2.2.1 := (fl4_get ps k).2.2.1
theorem fl4_get3 (ps : List Q4) (k : Nat) : (fl4 ps).getD (k * 4 + 3) 0 = (ps.getD k z4).2.2.2 := (fl4_get ps k).2.2.2
theorem fl4_set (ps : List Q4) (k : Nat) (h : k < ps.length) (a b c d : Int) : setInts (fl4 ps) (k * 4) [a, b, c, d] = fl4 (ps.set k (a, b, c, d)) := by
  unfold setInts
  rw [fl4_take, show k * 4 + [a, b, c, d].length = (k + 1) * 4 by simp; omega, fl4_drop]
  rw [List.set_eq_take_append_cons_drop, if_pos h, fl4_append]
  simp [fl4]
theorem fl4_snoc (ps : List Q4) (a b c d : Int) : fl4 ps ++ [a, b, c, d] = fl4 (ps ++ [(a, b, c, d)]) := by rw [fl4_append]; rfl
def q4A (n : Nat) (xs : List Int) : List Q4 := qs4 (xs.take (n * 4))
theorem q4A_fl4 (ps : List Q4) : q4A ps.length (fl4 ps) = ps := by
  unfold q4A
  rw [fl4_take, List.take_length, qs4_fl4]
end Go.Proofs.Ytolodncpegajkab
namespace Go.Proofs.Ytolodncpegajkab
set_option linter.all false
open Go.RowKit Go.Sort
def orI (x y : Int) : Int := if x = 0 then y else x
theorem or2_any (b c : Nat) (x y : Int) (w : World) (h0 : w.cell? ⟨b, 0, none⟩ = some (.int .i64 x)) (h1 : w.cell? ⟨b, 1, none⟩ = some (.int .i64 y)) :
    Calls Try.prog 140 #[.slice (some ⟨b, 0, none⟩) 2 c] w fun e w' => e = .returned (.int .i64 (orI x y)) ∧ w = w' := by
  go_enter Try.func140, Try.ntmps140
  go_wp2
  go_loopw [8] (fun i wr => ∃ k : Nat, k ≤ 2 ∧ i = .int .i64 k ∧ (1 ≤ k → x = 0) ∧ (2 ≤ k → y = 0) ∧ w = wr) (fun i _ => 2 - (intOf i).toNat)
  case atStart => exact ⟨0, Nat.zero_le _, rfl, fun h => by omega, fun h => by omega, rfl⟩
  case round =>
    obtain ⟨k, hk, rfl, hx, hy, rfl⟩ := hrel
    by_cases k0 : k = 0
    · subst k0
      by_cases x0 : x = 0
      · subst x0
        clear hx hy
        go_wp2
        exact ⟨⟨1, by omega, rfl, fun _ => trivial, fun h => by omega, trivial⟩, by simp [intOf]⟩
      · have E := Lib.hid (show orI x y = x by unfold orI; rw [if_neg x0])
        clear hx hy
        go_wp2
        go_ret
        exact ⟨ret_int E.out.symm, rfl⟩
    · by_cases k1 : k = 1
      · subst k1
        obtain rfl := hx (by omega)
        by_cases y0 : y = 0
        · subst y0
          go_wp2
          exact ⟨⟨2, by omega, rfl, fun _ => trivial, fun _ => trivial, trivial⟩, by simp [intOf]⟩
        · have E := Lib.hid (show orI 0 y = y by unfold orI; rw [if_pos rfl])
          go_wp2
          go_ret
          exact ⟨ret_int E.out.symm, rfl⟩
      · obtain rfl : k = 2 := by omega
        obtain rfl := hx (by omega)
        obtain rfl := hy (by omega)
        have E := Lib.hid (show orI 0 0 = 0 by unfold orI; rw [if_pos rfl])
        go_wp2
        go_ret
        exact ⟨ret_int E.out.symm, rfl⟩
end Go.Proofs.Ytolodncpegajkab
namespace Go.Proofs.Ytolodncpegajkab
set_option linter.all false
open Go.RowKit
theorem specCompare_any (an ad bn bd : Int) (w : World) (ha : ratB an ad = true) (hb : ratB bn bd = true) :
    Calls Try.prog 146 #[.agg #[.int .i64 an, .int .i64 ad], .agg #[.int .i64 bn, .int .i64 bd]] w fun e w' => e = .returned (.int .i64 (sgn (an * bd - bn * ad))) ∧ Below w.heap.size w w' := by
  have bd' := rat_bd ha hb
  clear ha hb
  go_enter Try.func146, Try.ntmps146
  go_wp2_with (go_at_call 152; refine (specSign_any _ _).mono ?_; rintro e w' ⟨rfl, rfl⟩)
  go_ret
  exact ⟨rfl, na (na (nr _) _) _⟩
end Go.Proofs.Ytolodncpegajkab
namespace Go.Proofs.Ytolodncpegajkab
set_option linter.all false
open Go.RowKit Go.Sort
structure GB (a w : World) : Prop where
  b : Below a.heap.size a w
  d : a.drawn ≤ w.drawn
theorem gr (a : World) : GB a a := ⟨nr a, Nat.le_refl _⟩
theorem ga {a w : World} (h : GB a w) (o : Obj) : GB a (w.alloc o) := ⟨na h.b o, h.d⟩
theorem gd {a w : World} (h : GB a w) (n : Nat) : GB a (w.drewN n) := ⟨nd h.b n, Nat.le_trans h.d (Nat.le_add_right _ _)⟩
theorem gt {a b c : World} (h : GB a b) (k : GB b c) : GB a c := ⟨nt h.b k.b, Nat.le_trans h.d k.d⟩
theorem gb_grow {a w : World} (h : GB a w) : ∃ q os, w = grow (a.drewN q) os := by
  refine ⟨w.drawn - a.drawn, w.heap.extract a.heap.size w.heap.size, ?_⟩
  have hh : a.heap ++ w.heap.extract a.heap.size w.heap.size = w.heap := by
    apply Array.ext_getElem?
    intro k
    rw [Array.getElem?_append]
    split
    · rename_i hk
      exact (h.b.block k hk).symm
    · rename_i hk
      rw [Array.getElem?_extract]
      have := h.b.size
      split
      · rw [show a.heap.size + (k - a.heap.size) = k by omega]
      · rw [Array.getElem?_eq_none (by omega)]
  have h1 := h.b.os
  have h2 := h.b.tape
  have h3 := h.b.output
  have h4 := h.d
  cases w
  cases a
  simp only [grow, World.drewN] at *
  subst h1 h2 h3
  simp only [hh, World.mk.injEq, true_and, and_true]
  omega
theorem implGcd_g (A : Option Addr) (n c : Nat) (Z : Nat → Int) (w : World) (hn : n ≤ 9223372036854775807) (hp : Ints w w.heap.size A n Z) (hZ : ∀ k, k < n → -4500000000000000000 ≤ Z k ∧ Z k ≤ 4500000000000000000) :
    Calls Try.prog 166 #[.slice A n c] w fun e w' => e = .returned (.int .i64 (gL Z n)) ∧ GB w w' := by
  go_enter Try.func166, Try.ntmps166
  go_wp2
  go_loopw [3, 8] (fun v i wr => ∃ (k : Nat) (d : Int), k ≤ n ∧ i = .int .i64 k ∧ v = .int .i64 d ∧ GA d (gL Z k) ∧ -4500000000000000000 ≤ d ∧ d ≤ 4500000000000000000 ∧ GB w wr) (fun _ i _ => n - (intOf i).toNat)
  case atStart => exact ⟨0, 0, Nat.zero_le _, rfl, rfl, rfl, by omega, by omega, gr _⟩
  case round =>
    obtain ⟨k, d, hk, rfl, rfl, hd, h1, h2, hbr⟩ := hrel
    by_cases hlt : k < n
    · obtain ⟨b, off, rfl, hB, h0⟩ := hp.below hbr.b k hlt
      have hzk := hZ k hlt
      have hz := hbr.b.size
      clear hp hZ
      have HG : Hid (GI d (Z k) (gL Z (k + 1))) := by
        show gI d (Z k) = gI (gL Z k) (Z k)
        exact gI_of_abs (by have : (d.natAbs : Int) = gL Z k := hd; omega) _
      clear hd
      generalize hGe : gL Z (k + 1) = G at HG
      have HE := Lib.hid hGe
      clear hGe
      generalize Z k = z at *
      go_wp2
      go_loopw [3, 5] (fun v x wi => ∃ (d z : Int), v = .int .i64 d ∧ x = .int .i64 z ∧ GI d z G ∧ -4500000000000000000 ≤ d ∧ d ≤ 4500000000000000000 ∧ -4500000000000000000 ≤ z ∧ z ≤ 4500000000000000000 ∧ GB w wi) (fun _ x _ => (intOf x).natAbs)
      case atStart => exact ⟨d, z, rfl, rfl, HG.out, h1, h2, hzk.1, hzk.2, hbr⟩
      case round =>
        rename_i wi _ _ _ _ _ _ _ _
        clear h0 hzk HG hbr hz
        obtain ⟨d, z, rfl, rfl, hG, h1, h2, h3, h4, hbi⟩ := hrel
        have HG := Lib.hid hG
        clear hG
        by_cases hz0 : z = 0
        · subst hz0
          have hA := HG.out.last
          have HA := Lib.hid hA
          clear hA HG
          go_wp2
          refine ⟨⟨k + 1, d, by omega, by go_num, rfl, ?_, h1, h2, hbi⟩, by simp [intOf]; omega⟩
          rw [HE.out]
          exact HA.out
        · have ht := tmod_bd d z hz0
          go_wp2
          go_quiet (fail)
          go_wp2
          exact ⟨⟨z, d.tmod z, rfl, rfl, HG.out.next, h3, h4, by omega, by omega, gd hbi _⟩, by simp only [intOf]; exact ht⟩
    · have hk' : n = k := by omega
      subst hk'
      clear hp hZ
      have HA := Lib.hid hd
      clear hd
      go_wp2
      all_goals go_ret
      all_goals refine ⟨ret_int ?_, hbr⟩
      all_goals (have hA : (d.natAbs : Int) = gL Z n := HA.out)
      all_goals omega
theorem implGcd2_g (g c : Nat) (a b : Int) (w : World) (ha : -4500000000000000000 ≤ a ∧ a ≤ 4500000000000000000) (hb : -4500000000000000000 ≤ b ∧ b ≤ 4500000000000000000) (hg : g < w.heap.size) (h0 : w.cell? ⟨g, 0, none⟩ = some (.int .i64 a)) (h1 : w.cell? ⟨g, 1, none⟩ = some (.int .i64 b)) :
    Calls Try.prog 166 #[.slice (some ⟨g, 0, none⟩) 2 c] w fun e w' => e = .returned (.int .i64 (gI a b)) ∧ GB w w' := by
  rw [← gL2]
  refine implGcd_g _ 2 c _ w (by omega) (ints2 hg h0 h1) fun k hk => ?_
  match k, hk with
  | 0, _ => exact ha
  | 1, _ => exact hb
/-- ValidRat at a valid fraction. -/
theorem implRat_g {n d : Int} (w : World) (h : ratB n d = true) :
    Calls Try.prog 176 #[.agg #[.int .i64 n, .int .i64 d]] w fun e w' => e = .returned (.bool true) ∧ GB w w' := by
  obtain ⟨h1, h1', h2, h3, h5⟩ := ratB_true h
  clear h
  have HR := Lib.hid h5
  clear h5
  go_enter Try.func176, Try.ntmps176
  go_wp2_with fail
  refine (within_is true _ _ _ (by omega) (by omega) (in_yes (by omega))).mono ?_; rintro e w1 ⟨rfl, rfl⟩
  go_wp2_with fail
  refine (implGcd2_g _ _ n d _ (by omega) (by omega) ?_ ?_ ?_).mono ?_
  all_goals (try (simp [go_sem]; done))
  rintro e w1 ⟨rfl, hb1⟩
  go_wp2_with fail
  go_ret
  refine ⟨ret_bool ?_, gt (ga (ga (gr _) _) _) hb1⟩
  rw [HR.out]
  rfl
/-- CompareRats at valid fractions. -/
theorem implCompare_g {an ad bn bd : Int} (w : World) (va : ratB an ad = true) (vb : ratB bn bd = true) :
    Calls Try.prog 149 #[.agg #[.int .i64 an, .int .i64 ad], .agg #[.int .i64 bn, .int .i64 bd]] w fun e w' => e = .returned (.int .i64 (sgn (an * bd - bn * ad))) ∧ GB w w' := by
  go_enter Try.func149, Try.ntmps149
  have bd' := rat_bd va vb
  have VA := Lib.hid va
  have VB := Lib.hid vb
  clear va vb
  go_wp2_with fail
  refine (implRat_g _ VA.out).mono ?_; rintro e w1 ⟨rfl, hb1⟩; obtain ⟨hc1, hf1, hz1⟩ := bc2 w.heap.size hb1.b (by simp)
  go_wp2_with fail
  refine (implRat_g _ VB.out).mono ?_; rintro e w2 ⟨rfl, hb2⟩; obtain ⟨hc2, hf2, hz2⟩ := bc2 w.heap.size hb2.b (by omega)
  go_wp2_with (go_at_call 141; refine (compare_any _ _ _).mono ?_; rintro e w' ⟨rfl, rfl⟩)
  go_ret
  exact ⟨rfl, by repeat' (first | exact gr _ | apply ga | apply gd | refine gt ?_ (by assumption))⟩
end Go.Proofs.Ytolodncpegajkab
namespace Go.Proofs.Ytolodncpegajkab
set_option linter.all false
open Go.RowKit Go.Sort
def cmpRQ (a b c d e f g h : Int) : Int := orI (sgn (a * f - e * b)) (sgn (c * h - g * d))
set_option maxHeartbeats 2000000 in
theorem cmpRp_g {a b c d e f g h : Int} (w : World) (h1 : ratB a b = true) (h2 : ratB c d = true) (h3 : ratB e f = true) (h4 : ratB g h = true) :
    Calls Try.prog 125 #[.agg #[.int .i64 a, .int .i64 b, .int .i64 c, .int .i64 d], .agg #[.int .i64 e, .int .i64 f, .int .i64 g, .int .i64 h]] w fun x w' => x = .returned (.int .i64 (cmpRQ a b c d e f g h)) ∧ GB w w' := by
  go_enter Try.func125, Try.ntmps125
  have A := Lib.hid h1
  have B := Lib.hid h2
  have C := Lib.hid h3
  have D := Lib.hid h4
  clear h1 h2 h3 h4
  go_wp2_with fail
  go_region_held3 (fun w' => w'.cell? ⟨w.heap.size, 0, none⟩ = some (.int .i64 a) ∧ w'.cell? ⟨w.heap.size, 1, none⟩ = some (.int .i64 b) ∧ w'.cell? ⟨w.heap.size, 2, none⟩ = some (.int .i64 c) ∧ w'.cell? ⟨w.heap.size, 3, none⟩ = some (.int .i64 d) ∧ w'.cell? ⟨w.heap.size + 1, 0, none⟩ = some (.int .i64 e) ∧ w'.cell? ⟨w.heap.size + 1, 1, none⟩ = some (.int .i64 f) ∧ w'.cell? ⟨w.heap.size + 1, 2, none⟩ = some (.int .i64 g) ∧ w'.cell? ⟨w.heap.size + 1, 3, none⟩ = some (.int .i64 h))
    (first | (simp [*, go_sem]; done) | (go_split_ands; refine ⟨?_, ?_, ?_, ?_, ?_, ?_, ?_, ?_⟩ <;> exact keep1 (by assumption) (by assumption)))
    (first
      | (go_at_call 149; refine (implCompare_g _ (by first | exact A.out | exact B.out) (by first | exact C.out | exact D.out)).mono ?_; rintro e wx ⟨rfl, hx⟩; have hx1 := hx.b; have hz1 : w.heap.size < wx.heap.size := (by have := hx.b.size; (try simp at this); omega); have hz2 : w.heap.size + 1 < wx.heap.size := (by have := hx.b.size; (try simp at this); omega))
      | (go_at_call 140; refine (or2_any _ _ (sgn (a * f - e * b)) (sgn (c * h - g * d)) _ (by simp [go_sem]; done) (by simp [go_sem]; done)).mono ?_; rintro e wx ⟨rfl, rfl⟩))
  go_wp2_with fail
  go_ret
  exact ⟨rfl, by repeat' (first | exact gr _ | apply ga | apply gd | refine gt ?_ (by assumption))⟩
end Go.Proofs.Ytolodncpegajkab
namespace Go.Proofs.Ytolodncpegajkab
set_option linter.all false
open Go.RowKit Go.Sort Go.Lib
theorem dvd_of_cop {a b c : Int} (h : gI a b = 1) (k : b ∣ a * c) : b ∣ c := by
  have h2 : Int.gcd b a = 1 := by
    unfold gI at h
    rw [Int.gcd_comm]
    omega
  have := Int.dvd_gcd_mul_iff_dvd_mul.2 k
  rwa [h2, Int.natCast_one, Int.one_mul] at this
/-- Fractions in lowest terms that are equal have equal parts. -/
theorem rat_same {a b c d : Int} (h1 : ratB a b = true) (h2 : ratB c d = true) (h : a * d = c * b) : a = c ∧ b = d := by
  obtain ⟨_, _, b1, _, g1⟩ := ratB_true h1
  obtain ⟨_, _, d1, _, g2⟩ := ratB_true h2
  have k1 : b ∣ d := dvd_of_cop g1 ⟨c, by rw [h, Int.mul_comm]⟩
  have k2 : d ∣ b := dvd_of_cop g2 ⟨a, by rw [← h, Int.mul_comm]⟩
  have e : b = d := Int.dvd_antisymm (by omega) (by omega) k1 k2
  subst e
  exact ⟨Int.eq_of_mul_eq_mul_right (by omega) h, rfl⟩
/-- One fraction is less than another one. -/
def fLt (a b c d : Int) : Prop := a * d < c * b
theorem fLt_trans {a b c d e f : Int} (hb : 0 < b) (hd : 0 < d) (hf : 0 < f) (h1 : fLt a b c d) (h2 : fLt c d e f) : fLt a b e f := by
  unfold fLt at *
  have k1 := Int.mul_lt_mul_of_pos_right h1 hf
  have k2 := Int.mul_lt_mul_of_pos_right h2 hb
  have e1 : c * b * f = c * f * b := by rw [Int.mul_assoc, Int.mul_comm b f, ← Int.mul_assoc]
  have e2 : a * d * f = a * f * d := by rw [Int.mul_assoc, Int.mul_comm d f, ← Int.mul_assoc]
  have e3 : e * d * b = e * b * d := by rw [Int.mul_assoc, Int.mul_comm d b, ← Int.mul_assoc]
  rw [e1, e2] at k1
  rw [e3] at k2
  exact Int.lt_of_mul_lt_mul_right (Int.lt_trans k1 k2) (by omega)
theorem fLt_tri {a b c d : Int} (h1 : ratB a b = true) (h2 : ratB c d = true) : fLt a b c d ∨ (a = c ∧ b = d) ∨ fLt c d a b := by
  unfold fLt
  rcases Int.lt_trichotomy (a * d) (c * b) with h | h | h
  · exact .inl h
  · exact .inr (.inl (rat_same h1 h2 h))
  · exact .inr (.inr h)
def okQ (q : Q4) : Bool := ratB q.1 q.2.1 && ratB q.2.2.1 q.2.2.2
def cmQ (x y : Q4) : Int := cmpRQ x.1 x.2.1 x.2.2.1 x.2.2.2 y.1 y.2.1 y.2.2.1 y.2.2.2
/-- One point is ahead of another one. -/
def qLt (x y : Q4) : Bool := decide (cmQ x y < 0)
def QLt (x y : Q4) : Prop := fLt x.1 x.2.1 y.1 y.2.1 ∨ (x.1 * y.2.1 = y.1 * x.2.1 ∧ fLt x.2.2.1 x.2.2.2 y.2.2.1 y.2.2.2)
theorem qLt_iff {x y : Q4} : qLt x y = true ↔ QLt x y := by
  unfold qLt QLt fLt cmQ cmpRQ orI sgn
  rw [decide_eq_true_eq]
  generalize x.1 * y.2.1 = A
  generalize y.1 * x.2.1 = B
  generalize x.2.2.1 * y.2.2.2 = C
  generalize y.2.2.1 * x.2.2.2 = D
  split <;> (try split) <;> (try split) <;> (try split) <;> omega
theorem okQ_1 {q : Q4} (h : okQ q = true) : ratB q.1 q.2.1 = true ∧ ratB q.2.2.1 q.2.2.2 = true := by
  unfold okQ at h
  exact Bool.and_eq_true_iff.1 h
theorem den_pos {a b : Int} (h : ratB a b = true) : 0 < b := by
  have := (ratB_true h).2.2.1
  omega
theorem qLt_irr (x : Q4) : qLt x x = false := by
  rw [← Bool.not_eq_true, qLt_iff]
  unfold QLt fLt
  omega
theorem qLt_tri {x y : Q4} (h1 : okQ x = true) (h2 : okQ y = true) : qLt x y = true ∨ x = y ∨ qLt y x = true := by
  obtain ⟨a1, a2⟩ := okQ_1 h1
  obtain ⟨b1, b2⟩ := okQ_1 h2
  rw [qLt_iff, qLt_iff]
  unfold QLt
  rcases fLt_tri a1 b1 with h | ⟨e1, e2⟩ | h
  · exact .inl (.inl h)
  · rcases fLt_tri a2 b2 with h | ⟨e3, e4⟩ | h
    · exact .inl (.inr ⟨by rw [e1, e2], h⟩)
    · refine .inr (.inl ?_)
      obtain ⟨xa, xb, xc, xd⟩ := x
      obtain ⟨ya, yb, yc, yd⟩ := y
      simp only at e1 e2 e3 e4
      rw [e1, e2, e3, e4]
    · exact .inr (.inr (.inr ⟨by rw [e1, e2], h⟩))
  · exact .inr (.inr (.inl h))
theorem qLt_trans {x y z : Q4} (h1 : okQ x = true) (h2 : okQ y = true) (h3 : okQ z = true) (k1 : qLt x y = true) (k2 : qLt y z = true) : qLt x z = true := by
  obtain ⟨a1, a2⟩ := okQ_1 h1
  obtain ⟨b1, b2⟩ := okQ_1 h2
  obtain ⟨c1, c2⟩ := okQ_1 h3
  rw [qLt_iff] at *
  unfold QLt at *
  rcases k1 with k1 | ⟨e1, k1⟩
  · rcases k2 with k2 | ⟨e2, k2⟩
    · exact .inl (fLt_trans (den_pos a1) (den_pos b1) (den_pos c1) k1 k2)
    · obtain ⟨e2, e3⟩ := rat_same b1 c1 e2
      rw [e2, e3] at k1
      exact .inl k1
  · obtain ⟨e1, e3⟩ := rat_same a1 b1 e1
    rw [e1, e3]
    rcases k2 with k2 | ⟨e2, k2⟩
    · exact .inl k2
    · exact .inr ⟨e2, fLt_trans (den_pos a2) (den_pos b2) (den_pos c2) k1 k2⟩
theorem qLt_asymm {x y : Q4} (h1 : okQ x = true) (h2 : okQ y = true) (k1 : qLt x y = true) : qLt y x = false := by
  rcases h : qLt y x with _ | _
  · rfl
  · have := qLt_trans h1 h2 h1 k1 h
    rw [qLt_irr] at this
    cases this
/-- Points with valid fractions. -/
abbrev RP := { q : Q4 // okQ q = true }
instance : Inhabited RP := ⟨⟨(0, 1, 0, 1), by decide +kernel⟩⟩
def cfR (x y : RP) : Int := cmQ x.1 y.1
theorem cfR_lt (x y : RP) : ltOf cfR x y = qLt x.1 y.1 := rfl
theorem swoR : SWO (ltOf cfR) where
  irrefl x := by rw [cfR_lt]; exact qLt_irr _
  trans x y z h1 h2 := by rw [cfR_lt] at *; exact qLt_trans x.2 y.2 z.2 h1 h2
  ntrans x y z h1 h2 := by
    rw [cfR_lt] at *
    rcases qLt_tri x.2 z.2 with h | h | h
    · rcases qLt_tri y.2 z.2 with k | k | k
      · rw [k] at h2; cases h2
      · rw [← k] at h; rw [h] at h1; cases h1
      · have := qLt_trans x.2 z.2 y.2 h k
        rw [this] at h1; cases h1
    · rw [h]; exact qLt_irr _
    · exact qLt_asymm z.2 x.2 h
/-- Points with fractions in order. -/
def srtQ (qs : List Q4) : List Q4 := qs.mergeSort fun x y => !(qLt y x)
theorem srtQ_len (qs : List Q4) : (srtQ qs).length = qs.length := List.length_mergeSort _
theorem srtQ_mem (qs : List Q4) (z : Q4) : z ∈ srtQ qs ↔ z ∈ qs := List.mem_mergeSort
theorem srtQ_sub (rs : List RP) : (rs.mergeSort fun x y => !(ltOf cfR) y x).map Subtype.val = srtQ (rs.map Subtype.val) := by
  unfold srtQ
  exact List.map_mergeSort fun a _ b _ => rfl
theorem sub_all {qs : List Q4} (h : ∀ q ∈ qs, okQ q = true) : ∃ rs : List RP, rs.map Subtype.val = qs := by
  induction qs with
  | nil => exact ⟨[], rfl⟩
  | cons q qs ih =>
    obtain ⟨rs, hr⟩ := ih fun z hz => h z (List.mem_cons_of_mem _ hz)
    exact ⟨⟨q, h q (List.mem_cons_self ..)⟩ :: rs, by rw [List.map_cons, hr]⟩
theorem srtQ_up {qs : List Q4} (h : ∀ q ∈ qs, okQ q = true) : (srtQ qs).Pairwise fun x y => qLt y x = false := by
  obtain ⟨rs, rfl⟩ := sub_all h
  rw [← srtQ_sub, List.pairwise_map]
  have := List.pairwise_mergeSort (le := fun x y => !(ltOf cfR) y x) (fun a b c h1 h2 => by
    simp only [Bool.not_eq_true'] at *
    exact swoR.ntrans _ _ _ h2 h1) (fun a b => by
    simp only [Bool.or_eq_true, Bool.not_eq_true', cfR_lt]
    rcases h : qLt b.1 a.1 with _ | _
    · exact .inl rfl
    · exact .inr (qLt_asymm b.2 a.2 h)) rs
  exact this.imp fun h => by simpa [cfR_lt] using h
end Go.Proofs.Ytolodncpegajkab
namespace Go.Proofs.Ytolodncpegajkab
set_option linter.all false
open Go.RowKit Go.Sort Go.Lib
def encQ (p : Q4) : List Value := [.int .i64 p.1, .int .i64 p.2.1, .int .i64 p.2.2.1, .int .i64 p.2.2.2]
def encS (p : RP) : List Value := encQ p.1
theorem sort4_any (ps : List RP) (blk cap : Nat) (w : World) (hH : HoldsK encS 4 w blk 0 ps.toArray) (hblk : blk < w.heap.size) (hsz : ps.length < 4611686018427387904) :
    Calls Try.prog 124 #[.slice (some ⟨blk, 0, none⟩) ps.length cap, .func (.func 125) #[] #[]] w fun e w' => e = .returned (.tuple #[]) ∧ ∃ n os, w' = sortWorldK encS 4 w blk 0 n (ps.mergeSort fun x y => !(ltOf cfR) y x).toArray os := by
  have eg : ∀ args w, (callFunc 125 args).run Try.prog w = .ok (.enter 125 args) w := Go.Proofs.enters_of Try.func125 (by kernel_rfl) rfl
  have h := AnyQ.slices_SortFunc_total sortRp 4 Try.isAgg100 Try.sizeOf100 encS (fun _ => rfl) (fun x v hv => by simp [encS, encQ] at hv; rcases hv with rfl | rfl | rfl | rfl <;> rfl) cfR swoR 125 #[] blk 0 cap ps.toArray w eg (fun _ _ _ _ x y => (cmpRp_g _ (okQ_1 x.2).1 (okQ_1 x.2).2 (okQ_1 y.2).1 (okQ_1 y.2).2).mono fun e w' hh => ⟨hh.1, gb_grow hh.2⟩) hH hblk (by simpa using hsz) (fun x y h1 h2 => by
    rw [cfR_lt] at h1 h2
    rcases qLt_tri x.2 y.2 with h | h | h
    · rw [h] at h1; cases h1
    · exact Subtype.ext h
    · rw [h] at h2; cases h2)
  change Calls Try.prog 124 _ _ _ at h
  simpa using h
theorem sort4_none (p : Option Addr) (cap : Nat) (fv : Value) (w : World) :
    Calls Try.prog 124 #[.slice p 0 cap, fv] w fun e w' => e = .returned (.tuple #[]) ∧ w' = w := AnyF.slices_SortFunc_none sortRp p cap fv w
theorem flatK_fl4 (rs : List RP) : flatK encS 4 rs.toArray = ((fl4 (rs.map Subtype.val)).map (Value.int .i64)).toArray := by
  apply Array.ext
  · simp [fl4_length]
  · intro i h1 h2
    have h1' : i < rs.length * 4 := by simpa using h1
    have hq : i / 4 < rs.length := by omega
    have e := get_flatK encS 4 rs.toArray i (by simpa using h1')
    rw [getElem!_pos _ i h1] at e
    rw [e]
    have hg := fl4_get (rs.map Subtype.val) (i / 4)
    have hd : (rs.map Subtype.val).getD (i / 4) z4 = rs[i / 4].1 := by simp [List.getD, hq]
    rw [hd] at hg
    have hp : rs.toArray[i / 4]! = rs[i / 4] := by simp [hq]
    rw [hp]
    have hl : i < (fl4 (rs.map Subtype.val)).length := by rw [fl4_length, List.length_map]; exact h1'
    have hr : ((fl4 (rs.map Subtype.val)).map (Value.int .i64)).toArray[i] = .int .i64 ((fl4 (rs.map Subtype.val)).getD i 0) := by simp [List.getD, hl]
    rw [hr]
    have hm : i % 4 = 0 ∨ i % 4 = 1 ∨ i % 4 = 2 ∨ i % 4 = 3 := by omega
    rcases hm with h | h | h | h
    · rw [h, show (fl4 (rs.map Subtype.val)).getD i 0 = (fl4 (rs.map Subtype.val)).getD (i / 4 * 4) 0 by rw [show i / 4 * 4 = i by omega], hg.1]
      rfl
    · rw [h, show (fl4 (rs.map Subtype.val)).getD i 0 = (fl4 (rs.map Subtype.val)).getD (i / 4 * 4 + 1) 0 by rw [show i / 4 * 4 + 1 = i by omega], hg.2.1]
      rfl
    · rw [h, show (fl4 (rs.map Subtype.val)).getD i 0 = (fl4 (rs.map Subtype.val)).getD (i / 4 * 4 + 2) 0 by rw [show i / 4 * 4 + 2 = i by omega], hg.2.2.1]
      rfl
    · rw [h, show (fl4 (rs.map Subtype.val)).getD i 0 = (fl4 (rs.map Subtype.val)).getD (i / 4 * 4 + 3) 0 by rw [show i / 4 * 4 + 3 = i by omega], hg.2.2.2]
      rfl
def allV4 (l : Nat) (xs : List Int) : Prop := ∀ q ∈ q4A l xs, okQ q = true
def so4 (cf : FuncId) (args : List Value) : Rd Eff := match args with
  | [.slice (some ⟨nr, 0, none⟩) l _, .func (.func g) ⟨[]⟩ ⟨[]⟩] => .blk nr fun b => match b with
    | some ⟨.row e 4, .ints xs⟩ => (match Nat.beq g cf with
      | true => .ret ⟨.tuple #[], [(nr, ⟨.row e 4, .ints (fl4 (srtQ (q4A l xs)))⟩)], [xs.length = l * 4, l ≤ 1000000000, allV4 l xs]⟩
      | false => .fail)
    | _ => .fail
  | _ => .fail
theorem sw4_heap (w : World) (blk n : Nat) (d : Array RP) (os : Array Obj) : (sortWorldK encS 4 w blk 0 n d os).os = w.os ∧ (sortWorldK encS 4 w blk 0 n d os).tape = w.tape ∧ (sortWorldK encS 4 w blk 0 n d os).output = w.output ∧ w.heap.size ≤ (sortWorldK encS 4 w blk 0 n d os).heap.size ∧
    (∀ k, k < w.heap.size → k ≠ blk → (sortWorldK encS 4 w blk 0 n d os).heap[k]? = w.heap[k]?) ∧ ∀ cs e, w.heap[blk]? = some (.cells cs e (0, 0)) → (sortWorldK encS 4 w blk 0 n d os).heap[blk]? = some (.cells (putCells id 0 (flatK encS 4 d) cs) e (0, 0)) := by
  refine ⟨rfl, rfl, rfl, ?_, ?_, ?_⟩
  · simp [sortWorldK, grow, putRowK, putRow, mapBlock, ahead]
  · intro k hk hne
    simp [sortWorldK, grow, putRowK, putRow, mapBlock, ahead, Array.getElem?_append, hk]
    rw [Array.getElem_modify, if_neg (Ne.symm hne)]
  · intro cs e h
    have hk : blk < w.heap.size := (Array.getElem?_eq_some_iff.1 h).1
    have ha : (Sort.ahead w n).heap = w.heap := rfl
    simp only [sortWorldK, grow, putRowK, putRow, mapBlock, Array.getElem?_append, Array.size_modify, Array.getElem?_modify, ha, hk, if_true, h]
    rfl
theorem so4_sound {J : TabJ} (hJ : GSound Try.prog J.g) : GSound Try.prog (consJ 124 (fun _ => so4 125) J).g := by
  intro h name args s eff hr hn
  simp only [consJ] at hr
  split at hr
  rotate_left
  · exact hJ h name args s eff hr hn
  rename_i heq
  obtain rfl := Nat.eq_of_beq_eq_true heq
  refine ⟨(entersB_res (by kernel_rfl)).1, fun B ρ0 ρ w args' ha hm hB hcond => ?_⟩
  unfold so4 at hr
  split at hr
  rotate_left
  · simp [Rd.run] at hr
  rename_i nr l c g
  simp only [Rd.run] at hr
  split at hr
  rotate_left
  · simp [Rd.run] at hr
  rename_i e xs hb
  split at hr
  rotate_left
  · simp [Rd.run] at hr
  rename_i hg
  obtain rfl := Nat.eq_of_beq_eq_true hg
  obtain rfl : (⟨.tuple #[], [(nr, ⟨.row e 4, .ints (fl4 (srtQ (q4A l xs)))⟩)], [xs.length = l * 4, l ≤ 1000000000, allV4 l xs]⟩ : Eff) = eff := by simpa [Rd.run] using hr
  obtain ⟨hxl, hl, hv4, _⟩ := hcond
  obtain ⟨qs, rfl, rfl⟩ := four_fl4 hxl
  unfold allV4 at hv4
  rw [q4A_fl4] at hv4 ⊢
  obtain ⟨ps, rfl⟩ := sub_all hv4
  rw [← srtQ_sub]
  simp only [List.length_map] at hl
  obtain ⟨hsz, hval⟩ := ha
  obtain ⟨x0, x1, rfl⟩ : ∃ x0 x1, args' = #[x0, x1] := by
    have h2 : args'.size = 2 := by simpa using hsz.symm
    match args', h2 with
    | ⟨[x0, x1]⟩, _ => exact ⟨x0, x1, rfl⟩
  have v0 := hval 0 _ x0 rfl rfl
  have v1 := hval 1 _ x1 rfl rfl
  obtain rfl := v1.plain rfl
  rw [upd_one]
  rw [List.length_map] at v0
  have hok := hm.ok nr _ hb
  have none_ : ∀ ad c', ps = [] → x0 = .slice ad 0 c' → Calls Try.prog 124 #[x0, .func (.func 125) #[] #[]] w fun e' w' => ∃ v' ρ', e' = .returned v' ∧ Ext ρ ρ' ∧ VR ρ' (.tuple #[]) v' ∧ BelowK B w w' ∧ MemOk ρ0 ρ' B (setB s.blk nr ⟨.row e 4, .ints (fl4 ((ps.mergeSort fun x y => !(ltOf cfR) y x).map Subtype.val))⟩) w' := by
    rintro ad c' rfl rfl
    refine (sort4_none _ _ _ _).mono ?_
    rintro e' w' ⟨rfl, rfl⟩
    refine ⟨_, ρ, rfl, Ext.refl ρ, .lit rfl, BelowK.refl _ _, ?_⟩
    have e0 : (([] : List RP).mergeSort fun x y => !(ltOf cfR) y x) = [] := by simp
    rw [e0]
    rcases hok with ⟨p, k1, k2, k3⟩ | ⟨g, cap, k1, k2, cs', k3, k4, k5⟩
    · exact hm.setNil hb k1 ⟨k2, 0, k3⟩ (.inl ⟨p, k1, k2, k3⟩)
    · exact hm.set hb rfl k1 (okPl.not (.inl rfl)) (Nat.le_refl _) (fun k _ _ => rfl) (.inr ⟨g, cap, k1, k2, cs', k3, k4, k5⟩)
  rcases v0.slice_inv with ⟨g, f, cp, c', j1, jok, j2, j3, j4⟩ | ⟨hl0, _, ad, c', j2⟩ | ⟨hl0, ad, c', p, j2, _, _, _⟩
  rotate_left
  · exact none_ _ _ (List.eq_nil_of_length_eq_zero hl0) j2
  · exact none_ _ _ (List.eq_nil_of_length_eq_zero hl0) j2
  rcases hok with ⟨p, k1, k2, k3⟩ | ⟨g2, cap, k1, k2, cs', k3, k4, k5⟩
  · rw [k1] at j1
    obtain rfl : p = (g, f, cp) := by simpa using j1
    exact absurd ⟨k2, 0, k3⟩ jok.not
  rw [k1] at j1
  obtain ⟨rfl, rfl, rfl⟩ : g2 = g ∧ 0 = f ∧ some cap = cp := by simpa using j1
  subst j2
  have hfl : (fl4 (ps.map Subtype.val)).length = ps.length * 4 := by rw [fl4_length, List.length_map]
  have hcell : ∀ j, j < ps.length * 4 → cs'[j]? = some (.int .i64 ((fl4 (ps.map Subtype.val)).getD j 0)) := fun j hj => by
    have hjl : j < (fl4 (ps.map Subtype.val)).length := by rw [hfl]; exact hj
    obtain ⟨v', h6, h7⟩ := k5 j (.int .i64 ((fl4 (ps.map Subtype.val)).getD j 0)) (by show ((fl4 (ps.map Subtype.val)).map (Value.int .i64))[j]? = _; simp [List.getD, hjl])
    rw [h7.plain rfl] at h6
    exact h6
  have hH : HoldsK encS 4 w g2 0 ps.toArray := by
    intro j hj
    have hj' : j < ps.length * 4 := by simpa using hj
    have hjl : j < (fl4 (ps.map Subtype.val)).length := by rw [hfl]; exact hj'
    refine ⟨?_, ?_⟩
    · simp only [World.cell?, Nat.zero_add, k3, Option.isSome_none, Bool.false_eq_true, if_false, hcell j hj', flatK_fl4]
      simp [List.getD, hjl]
    · simp [World.frozen?, k3]
  have hg : g2 < w.heap.size := (Array.getElem?_eq_some_iff.1 k3).1
  refine (sort4_any ps g2 c' w hH hg (by omega)).mono ?_
  rintro e' w' ⟨rfl, n, os, rfl⟩
  have hln : (ps.mergeSort fun x y => !(ltOf cfR) y x).length = ps.length := List.length_mergeSort _
  generalize (ps.mergeSort fun x y => !(ltOf cfR) y x) = rs at *
  obtain ⟨s1, s2, s3, s4, s5, s6⟩ := sw4_heap w g2 n rs.toArray os
  have hrl : (fl4 (rs.map Subtype.val)).length = ps.length * 4 := by rw [fl4_length, List.length_map, hln]
  refine ⟨_, ρ, rfl, Ext.refl ρ, .lit rfl, ⟨s1, s2, s3, s4, fun k hk => s5 k (hB k hk) fun e => k2 (e ▸ hk)⟩, ?_⟩
  refine hm.set hb rfl k1 (okPl.not (.inl rfl)) s4 (fun k hk hne => s5 k hk hne) (.inr ⟨g2, cap, k1, k2, _, s6 cs' e k3, ?_, ?_⟩)
  · simpa [putCells] using k4
  · intro k v hk
    have hk' : ((fl4 (rs.map Subtype.val)).map (Value.int .i64))[k]? = some v := hk
    have hkl : k < ps.length * 4 := by
      have := (List.getElem?_eq_some_iff.1 hk').1
      rw [List.length_map, hrl] at this
      exact this
    have hkc : k < cs'.size := (Array.getElem?_eq_some_iff.1 (hcell k hkl)).1
    refine ⟨v, ?_, ?_⟩
    · rw [flatK_fl4]
      simp only [putCells, Array.getElem?_mapIdx, Array.getElem?_eq_getElem hkc, Option.map_some, Nat.zero_le, true_and, Nat.zero_add, List.size_toArray, List.length_map, hrl, hkl, if_true, Nat.sub_zero, id]
      rw [← hk']
      have hkl2 : k < (fl4 (rs.map Subtype.val)).length := by rw [hrl]; exact hkl
      simp [hkl2]
    · obtain ⟨y, _, rfl⟩ := List.mem_map.1 (List.mem_of_getElem? hk')
      exact .lit rfl
end Go.Proofs.Ytolodncpegajkab
