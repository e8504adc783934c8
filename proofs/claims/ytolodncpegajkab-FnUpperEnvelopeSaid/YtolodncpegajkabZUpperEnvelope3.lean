/-
  Texts that the proof needs, merged. Written by an AI agent.
-/
import Derived.Orders
import Derived.Below
import Derived.OrdersIn
import Derived.Deep.LoopGhost
import Derived.WalkKit
import Derived.Laws.CopyRow
import Derived.Laws.AppendOwn
import Derived.Laws.Slices
import Derived.Laws.MakeOwn
import Derived.Test.YtolodncpegajkabRows
import Derived.ProofKit
import Derived.OpenShut
import Derived.Carry
import Derived.IntWalk
import Derived.Test.YtolodncpegajkabProg
import Derived.WalkSpells
import Derived.WalkLawsBesides
import Derived.Lib.Hide
import Derived.Deep.QuietTactic
import Derived.BigQuiet
import Derived.KernelRfl
import Derived.Deep.RegionHeld3
import Derived.LoopTactic
import Derived.Laws.StructEq
import Derived.Laws.Tables
import Derived.RangeFuncNested
import Derived.RangeFuncLeaves
import Derived.Deep.Slices
import Derived.Deep.Fields
import Derived.ChangeSame
import Derived.Shelf.SlSortCmp.WholeK
import Derived.Sort.Grow
import Derived.Deep.DeepCutAuto
import Derived.Shelf.SlSortCmp.NoneTotal
import Derived.Test.YtolodncpegajkabZUpperEnvelope2
namespace Go.Proofs.Ytolodncpegajkab
set_option linter.all false
open Go.RowKit
abbrev Pt := Int × Int
def flat : List Pt → List Int
  | [] => []
  | p :: r => p.1 :: p.2 :: flat r
def pts : List Int → List Pt
  | a :: b :: r => (a, b) :: pts r
  | _ => []
theorem pts_flat : ∀ ps, pts (flat ps) = ps
  | [] => rfl
  | p :: r => by simp [flat, pts, pts_flat r]
theorem flat_length : ∀ ps, (flat ps).length = ps.length * 2
  | [] => rfl
  | p :: r => by simp [flat, flat_length r]; omega
theorem flat_pts : ∀ (n : Nat) (xs : List Int), xs.length = n * 2 → flat (pts xs) = xs ∧ (pts xs).length = n
  | 0, xs, h => by
    obtain rfl : xs = [] := List.eq_nil_of_length_eq_zero (by omega)
    exact ⟨rfl, rfl⟩
  | n + 1, xs, h => by
    match xs, h with
    | a :: b :: r, h =>
      obtain ⟨h1, h2⟩ := flat_pts n r (by simp at h; omega)
      exact ⟨by simp [pts, flat, h1], by simp [pts, h2]⟩
    | [a], h => simp at h; omega
    | [], h => simp at h
theorem even_flat {n : Nat} {xs : List Int} (h : xs.length = n * 2) : ∃ ps : List Pt, xs = flat ps ∧ ps.length = n :=
  ⟨pts xs, (flat_pts n xs h).1.symm, (flat_pts n xs h).2⟩
theorem flat_append : ∀ a b, flat (a ++ b) = flat a ++ flat b
  | [], b => rfl
  | p :: r, b => by simp [flat, flat_append r b]
theorem flat_drop : ∀ (ps : List Pt) (k : Nat), (flat ps).drop (k * 2) = flat (ps.drop k)
  | ps, 0 => by simp
  | [], k + 1 => by simp [flat]
  | p :: r, k + 1 => by
    rw [show (k + 1) * 2 = k * 2 + 2 by omega]
    simp [flat, flat_drop r k]
theorem flat_take : ∀ (ps : List Pt) (k : Nat), (flat ps).take (k * 2) = flat (ps.take k)
  | ps, 0 => by simp [flat]
  | [], k + 1 => by simp [flat]
  | p :: r, k + 1 => by
    rw [show (k + 1) * 2 = k * 2 + 2 by omega]
    simp [flat, flat_take r k]
theorem flat_all (ps : List Pt) : (flat ps).take (ps.length * 2) = flat ps := by rw [flat_take, List.take_length]
theorem flat_get : ∀ (ps : List Pt) (k : Nat), (flat ps).getD (k * 2) 0 = (ps.getD k (0, 0)).1 ∧ (flat ps).getD (k * 2 + 1) 0 = (ps.getD k (0, 0)).2
  | [], k => by simp [flat]
  | p :: r, 0 => by simp [flat]
  | p :: r, k + 1 => by
    obtain ⟨h1, h2⟩ := flat_get r k
    rw [show (k + 1) * 2 = k * 2 + 2 by omega, show k * 2 + 2 + 1 = k * 2 + 1 + 2 by omega]
    simp only [flat, List.getD_eq_getElem?_getD, List.getElem?_cons_succ] at h1 h2 ⊢
    exact ⟨h1, h2⟩
theorem flat_get0 (ps : List Pt) (k : Nat) : (flat ps).getD (k * 2) 0 = (ps.getD k (0, 0)).1 := (flat_get ps k).1
theorem flat_get1 (ps : List Pt) (k : Nat) : (flat ps).getD (k * 2 + 1) 0 = (ps.getD k (0, 0)).2 := (flat_get ps k).2
theorem flat_set (ps : List Pt) (k : Nat) (h : k < ps.length) (a b : Int) : setInts (flat ps) (k * 2) [a, b] = flat (ps.set k (a, b)) := by
  have e : ps = ps.take k ++ ps[k] :: ps.drop (k + 1) := by simp
  have hl : (ps.take k).length = k := by simp; omega
  unfold setInts
  rw [flat_take, show k * 2 + [a, b].length = (k + 1) * 2 by simp; omega, flat_drop]
  rw [List.set_eq_take_append_cons_drop, if_pos h, flat_append]
  simp [flat]
theorem flat_snoc (ps : List Pt) (a b : Int) : flat ps ++ [a, b] = flat (ps ++ [(a, b)]) := by rw [flat_append]; rfl
theorem drop_cons {α : Type} {l : List α} {k : Nat} (h : k < l.length) (d : α) : l.drop k = l.getD k d :: l.drop (k + 1) := by
  rw [List.drop_eq_getElem_cons h]
  simp [h]
theorem wr {x : Int} (h : -9223372036854775808 ≤ x ∧ x ≤ 9223372036854775807) : IntKind.i64.wrap x = x := by
  rw [IntKind.wrap_i64]
  omega
theorem wsucc {i n : Nat} (h : i < n) (hn : n ≤ 1000000000) : IntKind.i64.wrap ((i : Int) + 1) = ((i + 1 : Nat) : Int) := by
  rw [wr (by omega)]; omega
theorem all_drop {α : Type} {l : List α} {k : Nat} (h : k < l.length) (d : α) (P : α → Bool) : (l.drop k).all P = (P (l.getD k d) && (l.drop (k + 1)).all P) := by rw [drop_cons h d]; rfl
theorem all_end {α : Type} {l : List α} {k : Nat} (h : l.length ≤ k) (P : α → Bool) : (l.drop k).all P = true := by rw [List.drop_of_length_le h]; rfl
theorem pick2k {b : Bool} {k : Ex → St → Tree} {e1 e2 : Ex} {s1 s2 : St} {F : Ex → St → Prop} {H : Value → List (Option Blk) → Prop} (h : (brT b (k e1 s1) (k e2 s2)).ok F H) : (k (bif b then e1 else e2) (bif b then s1 else s2)).ok F H := by
  cases b
  · exact h
  · exact h
/-- A loop's body on a state, cut at its ends to what is looked at again: keep tells which slots, M how many names. -/
def bodyL (P : Program) (E : Env) (m n : Nat) (lt : LT) (j : Nat) (c : Code) (keep : Ex → List Nat) (M : Nat) (s : St) : Tree := runN P E.R E.J (asK P E (runM P E m n)) (runM P E m n) lt noR m c j (fun e s' => .leaf e (cutS M (keep e) s')) s
theorem body_det {P : Program} (hm : P.follows .mixedOrders = true) {E : Env} (hE : EnvOk P E) {m n : Nat} {lt : LT} {j : Nat} {c : Code} (hL : LoopsGood P lt j c) {keep : Ex → List Nat} {M : Nat} {s : St} {F : Ex → St → Prop} (h : (bodyL P E m n lt j c keep M s).ok F (fun _ _ => False)) :
    ∃ e' s', Det P c s e' s' ∧ F e' (cutS M (keep e') s') := by
  obtain ⟨e', s', h1, h2⟩ := runN_det hE.R hE.J (asK_ok hE (runM_ok hm hE m n)) (runM_ok hm hE m n) hm c j hL noR_good _ F _ s h
  exact ⟨e', s', h2, h1⟩
theorem noLoops {P : Program} {lt : LT} {j : Nat} {c : Code} (h : loopsOf c = []) : LoopsGood P lt j c := fun i d hd => by rw [h] at hd; simp at hd
/-- Which slots are looked at again: behind a round, behind an exit, behind the function's end. -/
def keeps (nrm : List Nat) (exits : List (Nat × List Nat)) (ret : List Nat) : Ex → List Nat
  | .normal => nrm
  | .exit id => (exits.lookup id).getD []
  | .ret => ret
/-- The end of a round. -/
def RoundEnd {X : Type} (N : Nat) (St_of : X → St) (Inv : X → Prop) (μ : X → Nat) (re : X → Ex) (rs : X → St) (x : X) (e : Ex) (s : St) : Prop :=
  match e with
  | .normal => ∃ x' π, Inv x' ∧ μ x' < μ x ∧ re x' = re x ∧ rs x' = rs x ∧ WS N π s (St_of x')
  | e => e = re x ∧ ∃ π, WS N π s (rs x)
theorem loop_run {P : Program} (hm : P.follows .mixedOrders = true) {E : Env} (hE : EnvOk P E) {m n : Nat} {lt : LT} {j : Nat} {c : Code} {N : Nat} {X : Type} (St_of : X → St) (Inv : X → Prop) (μ : X → Nat) (re : X → Ex) (rs : X → St) (keep : Ex → List Nat) {M : Nat} (hM : ∀ x, (St_of x).mem.length = M) (hL : LoopsGood P lt j c)
    (h : ∀ x, Inv x → (bodyL P E m n lt j c keep M (St_of x)).ok (RoundEnd N St_of Inv μ re rs x) (fun _ _ => False))
    {x : X} (hx : Inv x) {s : St} {π : List (Option Nat)} (hN : s.mem.length = N) (hs : WS N π s (St_of x)) : Det P (.loop c) s (re x) (rs x) :=
  loop_det St_of Inv μ re rs keep (fun x hx => by
    obtain ⟨e', s', h1, h2⟩ := body_det hm hE hL (h x hx)
    refine ⟨e', s', h1, ?_⟩
    rw [hM]
    unfold RoundEnd at h2
    cases e' <;> exact h2) hx hN hs
theorem wv_top (f : Nat → Option (Option Nat)) (v : Value) : wv f v topV := by
  cases v <;> exact True.intro
theorem take_set_succ {α : Type} {l m : List α} {i : Nat} (hl : i < l.length) (hm : i < m.length) (h : l.take i = m.take i) (d : α) : (l.set i (m.getD i d)).take (i + 1) = m.take (i + 1) := by
  apply List.ext_getElem?
  intro k
  have hk := congrArg (fun x : List α => x[k]?) h
  simp only [List.getElem?_take] at hk ⊢
  rcases Nat.lt_trichotomy k i with hki | hki | hki
  · rw [if_pos (by omega), if_pos (by omega), List.getElem?_set_ne (by omega)]
    simpa [hki] using hk
  · subst hki
    rw [if_pos (by omega), if_pos (by omega)]
    simp [hl, hm]
  · rw [if_neg (by omega), if_neg (by omega)]
/-- Some slots of a frame; a frame of which only some slots are known. -/
def pickL (l : List Value) (idx : List Nat) : List Value := idx.map fun i => l.getD i undef
def lookV : List Nat → List Value → Nat → Value
  | i :: r, v :: vs, j => if i = j then v else lookV r vs j
  | _, _, _ => topV
def spread (n : Nat) (idx : List Nat) (vals : List Value) : List Value := (List.range n).map (lookV idx vals)
theorem lookV_ok {f : Nat → Option (Option Nat)} {l : List Value} : ∀ {idx : List Nat} {vals : List Value}, wvs f (pickL l idx) vals → ∀ j, wv f (l.getD j undef) (lookV idx vals j)
  | [], [], _, j => wv_top _ _
  | [], _ :: _, h, _ => h.elim
  | _ :: _, [], h, _ => h.elim
  | i :: r, v :: vs, h, j => by
    unfold lookV
    split
    · rename_i hij
      subst hij
      exact h.1
    · exact lookV_ok h.2 j
theorem wvs_of {f : Nat → Option (Option Nat)} : ∀ {l l' : List Value}, l.length = l'.length → (∀ j, j < l.length → wv f (l.getD j undef) (l'.getD j undef)) → wvs f l l'
  | [], [], _, _ => trivial
  | [], _ :: _, h, _ => by simp at h
  | _ :: _, [], h, _ => by simp at h
  | a :: r, b :: r', h, hj => ⟨hj 0 (by simp), wvs_of (by simpa using h) fun j hj' => by simpa using hj (j + 1) (by simpa using hj')⟩
theorem wvs_spread {f : Nat → Option (Option Nat)} {l vals l' : List Value} {n : Nat} {idx : List Nat} (hl : Nat.beq l.length n = true) (he : l' = spread n idx vals) (h : wvs f (pickL l idx) vals) : wvs f l l' := by
  have hl := Nat.eq_of_beq_eq_true hl
  subst he
  refine wvs_of (by simp [spread, hl]) fun j hj => ?_
  have : (spread n idx vals).getD j undef = lookV idx vals j := by
    have : j < n := by omega
    simp [spread, this]
  rw [this]
  exact lookV_ok h j
theorem wvs_spread' {f : Nat → Option (Option Nat)} {l l' : List Value} {n : Nat} (idx : List Nat) (hl : Nat.beq l.length n = true) (he : l' = spread n idx (pickL l' idx)) (h : wvs f (pickL l idx) (pickL l' idx)) : wvs f l l' := wvs_spread hl he h
/-- An entry for a loop is sound. -/
def LoopE (P : Program) (e : St → (Ex → St → Tree) → Option Tree) (c : Code) : Prop := ∀ s k t F H, e s k = some t → t.ok F H → ∃ e' s', (k e' s').ok F H ∧ Det P (.loop c) s e' s'
/-- A function with one loop. -/
def lt1 (e : St → (Ex → St → Tree) → Option Tree) : LT := fun j s k => match j with
  | 0 => e s k
  | _ => none
theorem lt1_good {P : Program} {e : St → (Ex → St → Tree) → Option Tree} {c : Code} (h : LoopE P e (((loopsOf c)[0]?).getD .skip)) : LoopsGood P (lt1 e) 0 c := by
  intro i d hd s k t F H hlt ht
  rw [Nat.zero_add] at hlt
  cases i with
  | zero =>
    rw [hd] at h
    exact h s k t F H hlt ht
  | succ i => cases hlt
def noL : LT := fun _ _ _ => none
theorem noL_good {P : Program} {j : Nat} {c : Code} : LoopsGood P noL j c := fun _ _ _ _ _ _ _ _ h => by cases h
/-- An argument's cells beyond what is asked. -/
theorem Res.more {P : Program} {f : FuncId} {ds ds' : List DArg} {v : Value} (h : Res P f ds' v) (hg : ∀ d ∈ ds, d.good) (hd : ∀ w args, DOks w ds args → DOks w ds' args) : Res P f ds v :=
  ⟨h.1, h.2.1, h.2.2.1, hg, fun w args ha => h.2.2.2.2 w args (hd w args ha)⟩
theorem ResR.more {P : Program} {f : FuncId} {ds ds' : List DArg} {v : Value} {b : Blk} (h : ResR P f ds' v b) (hg : ∀ d ∈ ds, d.good) (hd : ∀ w args, DOks w ds args → DOks w ds' args) : ResR P f ds v b :=
  ⟨h.1, h.2.1, h.2.2.1, hg, fun w args ha => h.2.2.2.2 w args (hd w args ha)⟩
/-- The first cells of a row argument. -/
theorem DOk.take {w : World} {l : Nat} {xs : List Int} {y : Value} (k : Nat) (h : DOk w (.row l (.ints xs)) y) : DOk w (.row l (.ints (xs.take k))) y := by
  obtain ⟨h1, ad, c', h2, h3, h4⟩ := h
  refine ⟨rfl, ad, c', h2, h3, h4.imp id ?_⟩
  rintro ⟨g, f, h5, h6, h7⟩
  refine ⟨g, f, h5, h6, fun j v hv => h7 j v ?_⟩
  simp only [Cs.list, List.getElem?_map] at hv ⊢
  rw [List.getElem?_take] at hv
  split at hv
  · exact hv
  · simp at hv
theorem DOks.imp {w : World} : ∀ {ds ds' : List DArg} {args : Array Value}, DOks w ds args → ds.length = ds'.length → (∀ (i : Nat) d d' y, ds[i]? = some d → ds'[i]? = some d' → DOk w d y → DOk w d' y) → DOks w ds' args := by
  intro ds ds' args h hl hi
  refine ⟨by rw [← hl]; exact h.1, fun i d' y hd' hy => ?_⟩
  have hlt : i < ds.length := by rw [hl]; exact (List.getElem?_eq_some_iff.1 hd').1
  exact hi i ds[i] d' y (by simp) hd' (h.2 i _ y (by simp) hy)
/-- The points of a row argument. -/
def ptsA (n : Nat) (xs : List Int) : List Pt := pts (xs.take (n * 2))
theorem ptsA_flat (ps : List Pt) : ptsA ps.length (flat ps) = ps := by
  unfold ptsA
  rw [flat_take, List.take_length, pts_flat]
theorem ptsA_spec {n : Nat} {xs : List Int} (h : n * 2 ≤ xs.length) : xs.take (n * 2) = flat (ptsA n xs) ∧ (ptsA n xs).length = n := by
  unfold ptsA
  have := flat_pts n (xs.take (n * 2)) (by simp; omega)
  exact ⟨this.1.symm, this.2⟩
/-- What is known for lists of points as they are is known for any cells. -/
theorem DOks.pts {w : World} {pre post : List DArg} {n : Nat} {xs : List Int} {args : Array Value} (ha : DOks w (pre ++ .row n (.ints xs) :: post) args) : DOks w (pre ++ .row n (.ints (xs.take (n * 2))) :: post) args := by
  refine ha.imp (by simp) fun i d d' y hd hd' hy => ?_
  rcases Nat.lt_or_ge i pre.length with hlt | hge
  · rw [List.getElem?_append_left hlt] at hd hd'
    rw [hd] at hd'
    obtain rfl : d = d' := by simpa using hd'
    exact hy
  · rw [List.getElem?_append_right hge] at hd hd'
    rcases hk : i - pre.length with _ | k
    · rw [hk] at hd hd'
      obtain rfl : DArg.row n (.ints xs) = d := by simpa using hd
      obtain rfl : DArg.row n (.ints (xs.take (n * 2))) = d' := by simpa using hd'
      exact hy.take _
    · rw [hk] at hd hd'
      simp only [List.getElem?_cons_succ] at hd hd'
      rw [hd] at hd'
      obtain rfl : d = d' := by simpa using hd'
      exact hy
theorem good_pts {pre post : List DArg} {n : Nat} {xs ys : List Int} (h : ∀ d ∈ pre ++ .row n (.ints xs) :: post, d.good) : ∀ d ∈ pre ++ .row n (.ints ys) :: post, d.good := by
  intro d hd
  rcases List.mem_append.1 hd with hd | hd
  · exact h d (List.mem_append_left _ hd)
  · rcases List.mem_cons.1 hd with rfl | hd
    · rfl
    · exact h d (List.mem_append_right _ (List.mem_cons_of_mem _ hd))
theorem res_pts1 {P : Program} {f : FuncId} {pre post : List DArg} {v : Value} {n : Nat} {xs : List Int} (hn : n * 2 ≤ xs.length) (h0 : Res P f (pre ++ .row (ptsA n xs).length (.ints (flat (ptsA n xs))) :: post) v) :
    Res P f (pre ++ .row n (.ints xs) :: post) v := by
  obtain ⟨h1, h2⟩ := ptsA_spec hn
  rw [h2, ← h1] at h0
  exact h0.more (good_pts h0.2.2.2.1) fun w args ha => ha.pts
theorem resR_pts1 {P : Program} {f : FuncId} {pre post : List DArg} {v : Value} {b : Blk} {n : Nat} {xs : List Int} (hn : n * 2 ≤ xs.length) (h0 : ResR P f (pre ++ .row (ptsA n xs).length (.ints (flat (ptsA n xs))) :: post) v b) :
    ResR P f (pre ++ .row n (.ints xs) :: post) v b := by
  obtain ⟨h1, h2⟩ := ptsA_spec hn
  rw [h2, ← h1] at h0
  exact h0.more (good_pts h0.2.2.2.1) fun w args ha => ha.pts
end Go.Proofs.Ytolodncpegajkab
namespace Go.Proofs.Ytolodncpegajkab
set_option linter.all false
open Go.RowKit
abbrev iv (x : Int) : Value := .int .i64 x
def B0 : Tab := fun _ _ => none
theorem B0_ok : TabOk Try.prog B0 := fun _ _ _ _ h => by cases h
theorem mixed : Try.prog.follows .mixedOrders = true := by kernel_rfl
set_option maxRecDepth 100000 in
theorem tr_specValid (x y : Int) : runX Try.prog (tabE B0) 30 8 87 [.v (.agg #[iv x, iv y])] (fun u => .fin u []) = brT (decide (-1000 ≤ x)) (brT (decide (x ≤ 1000)) (brT (decide (-1000 ≤ y)) (.fin (.bool (decide (y ≤ 1000))) []) (.fin (.bool (false)) [])) (.fin (.bool (false)) [])) (.fin (.bool (false)) []) := by kernel_rfl
set_option maxRecDepth 100000 in
theorem tr_implValid (x y : Int) : runX Try.prog (tabE B0) 30 8 74 [.v (.agg #[iv x, iv y])] (fun u => .fin u []) = brT (decide (IntKind.i64.wrap (0 - 1000) ≤ x)) (brT (decide (x ≤ 1000)) (brT (decide (IntKind.i64.wrap (0 - 1000) ≤ y)) (.fin (.bool (decide (y ≤ 1000))) []) (.fin (.bool (false)) [])) (.fin (.bool (false)) [])) (.fin (.bool (false)) []) := by kernel_rfl
set_option maxRecDepth 100000 in
theorem tr_compare (x y : Int) : runX Try.prog (tabE B0) 30 8 141 [.v (iv x), .v (iv y)] (fun u => .fin u []) = brT (!x == x) (brT (!y == y) (.fin (.int .i64 (0)) []) (.fin (.int .i64 (-1)) [])) (brT (!y == y) (.fin (.int .i64 (1)) []) (brT (decide (x < y)) (.fin (.int .i64 (-1)) []) (brT (decide (y < x)) (.fin (.int .i64 (1)) []) (.fin (.int .i64 (0)) [])))) := by kernel_rfl
set_option maxRecDepth 100000 in
theorem tr_specSign (x : Int) : runX Try.prog (tabE B0) 30 8 152 [.v (iv x)] (fun u => .fin u []) = brT (decide (x < 0)) (.fin (.int .i64 (-1)) []) (brT (decide (0 < x)) (.fin (.int .i64 (1)) []) (.fin (.int .i64 (0)) [])) := by kernel_rfl
set_option maxRecDepth 100000 in
theorem tr_implSign (x : Int) : runX Try.prog (tabE B0) 30 8 167 [.v (iv x)] (fun u => .fin u []) = brT (!x == x) (.fin (.int .i64 (-1)) []) (brT (decide (x < 0)) (.fin (.int .i64 (-1)) []) (brT (decide (0 < x)) (.fin (.int .i64 (1)) []) (.fin (.int .i64 (0)) []))) := by kernel_rfl
theorem w1000 : IntKind.i64.wrap (0 - 1000) = -1000 := by decide
/-- The comparison of two numbers. -/
def cmpI (x y : Int) : Int := if x < y then -1 else if y < x then 1 else 0
theorem vbool_eq {a b : Bool} (h : a = b) : Value.bool a = .bool b := by rw [h]
theorem res_specValid (x y : Int) : Res Try.prog 87 [.v (.agg #[iv x, iv y])] (.bool (ptB x y)) := by
  refine res_of mixed (tabE_ok B0_ok) (m := 30) (n := 8) ?_
  rw [tr_specValid]
  simp only [brT_ok, Tree.ok, decide_eq_true_eq, decide_eq_false_iff_not]
  repeat' (first | apply And.intro | intro _)
  all_goals (refine vbool_eq ?_; unfold ptB; rw [Bool.eq_iff_iff]; simp; try omega)
theorem res_implValid (x y : Int) : Res Try.prog 74 [.v (.agg #[iv x, iv y])] (.bool (ptB x y)) := by
  refine res_of mixed (tabE_ok B0_ok) (m := 30) (n := 8) ?_
  rw [tr_implValid]
  simp only [brT_ok, Tree.ok, decide_eq_true_eq, decide_eq_false_iff_not, w1000]
  repeat' (first | apply And.intro | intro _)
  all_goals (refine vbool_eq ?_; unfold ptB; rw [Bool.eq_iff_iff]; simp; try omega)
theorem res_compare (x y : Int) : Res Try.prog 141 [.v (iv x), .v (iv y)] (iv (cmpI x y)) := by
  refine res_of mixed (tabE_ok B0_ok) (m := 30) (n := 8) ?_
  rw [tr_compare]
  simp [brT_ok, Tree.ok]
  repeat' (first | apply And.intro | intro _)
  all_goals (unfold cmpI; split <;> (try split) <;> omega)
theorem res_specSign (x : Int) : Res Try.prog 152 [.v (iv x)] (iv (cmpI x 0)) := by
  refine res_of mixed (tabE_ok B0_ok) (m := 30) (n := 8) ?_
  rw [tr_specSign]
  simp [brT_ok, Tree.ok]
  repeat' (first | apply And.intro | intro _)
  all_goals (unfold cmpI; split <;> (try split) <;> omega)
theorem res_implSign (x : Int) : Res Try.prog 167 [.v (iv x)] (iv (cmpI x 0)) := by
  refine res_of mixed (tabE_ok B0_ok) (m := 30) (n := 8) ?_
  rw [tr_implSign]
  simp [brT_ok, Tree.ok]
  repeat' (first | apply And.intro | intro _)
  all_goals (unfold cmpI; split <;> (try split) <;> omega)
end Go.Proofs.Ytolodncpegajkab
namespace Go.Proofs.Ytolodncpegajkab
set_option linter.all false
open Go.RowKit
theorem entersB_res {f : FuncId} (h : entersB Try.prog f = true) : enters Try.prog f ∧ Try.prog.inits.idxOf? f = none := by
  unfold entersB at h
  split at h
  · rename_i fn hf
    obtain ⟨h1, h2, _⟩ := entersB_spec hf (by unfold entersB; rw [hf]; exact h)
    exact ⟨h1, h2⟩
  · cases h
/-- A contract of a function of plain values, as it stands. -/
theorem res_calls {f : FuncId} {args : List Value} {v : Value} (he : entersB Try.prog f = true) (hp : args.all plainV = true) (hv : plainV v = true) (h : ∀ w, Calls Try.prog f args.toArray w fun e w' => e = .returned v ∧ Below w.heap.size w w') : Res Try.prog f (args.map .v) v := by
  obtain ⟨h1, h2⟩ := entersB_res he
  refine ⟨h1, h2, hv, fun d hd => ?_, fun w ys hd => ?_⟩
  · obtain ⟨x, hx, rfl⟩ := List.mem_map.1 hd
    exact List.all_eq_true.1 hp x hx
  · have e : ys = args.toArray := by
      apply Array.ext
      · simpa using hd.1.symm
      · intro i i1 i2
        have e1 : (args.map DArg.v)[i]? = some (.v (args[i]'(by simpa using i2))) := by simp
        exact (hd.2 i _ ys[i] e1 (by simp [i1])).2
    rw [e]
    exact h w
theorem below_same {f : FuncId} {args : Array Value} {w : World} {v : Value} (h : Calls Try.prog f args w fun e w' => e = .returned v ∧ w = w') : Calls Try.prog f args w fun e w' => e = .returned v ∧ Below w.heap.size w w' :=
  h.mono fun _ _ ⟨he, hw⟩ => ⟨he, by subst hw; exact Below.refl _ _⟩
def big (x : Int) : Prop := -4500000000000000000 ≤ x ∧ x ≤ 4500000000000000000
def big0 (x : Int) : Prop := 0 ≤ x ∧ x ≤ 4500000000000000000
def pPt : List DArg → Option (Value × List Prop)
  | [.v (.agg ⟨[.int .i64 x, .int .i64 y]⟩)] => some (.bool (ptB x y), [])
  | _ => none
def pCmp : List DArg → Option (Value × List Prop)
  | [.v (.int .i64 x), .v (.int .i64 y)] => some (iv (cmpI x y), [])
  | _ => none
def pSign : List DArg → Option (Value × List Prop)
  | [.v (.int .i64 x)] => some (iv (cmpI x 0), [])
  | _ => none
def pGcd : List DArg → Option (Value × List Prop)
  | [.v (.int .i64 x), .v (.int .i64 y)] => some (iv (gI x y), [big0 x, big0 y])
  | _ => none
def pAbs : List DArg → Option (Value × List Prop)
  | [.v (.int .i64 x)] => some (iv (x.natAbs : Int), [big x])
  | _ => none
def pGcdL : List DArg → Option (Value × List Prop)
  | [.row 2 (.vals [.int .i64 x, .int .i64 y])] => some (iv (gI x y), [big x, big y])
  | [.row 3 (.vals [.int .i64 x, .int .i64 y, .int .i64 z])] => some (iv (gI (gI x y) z), [big x, big y, big z])
  | _ => none
def pRatio : List DArg → Option (Value × List Prop)
  | [.v (.int .i64 x), .v (.int .i64 y)] => some (.agg #[iv (qN x y), iv (qD x y)], [big x, big y, y ≠ 0])
  | _ => none
def pAll : List DArg → Option (Value × List Prop)
  | [.row 2 (.vals [.int .i64 ax, .int .i64 ay, .int .i64 bx, .int .i64 b_y])] => some (.bool (ptB ax ay && ptB bx b_y), [])
  | [.row 3 (.vals [.int .i64 ax, .int .i64 ay, .int .i64 bx, .int .i64 b_y, .int .i64 cx, .int .i64 cy])] => some (.bool (ptB ax ay && ptB bx b_y && ptB cx cy), [])
  | [.row 4 (.vals [.int .i64 ax, .int .i64 ay, .int .i64 bx, .int .i64 b_y, .int .i64 cx, .int .i64 cy, .int .i64 dx, .int .i64 dy])] => some (.bool (ptB ax ay && ptB bx b_y && (ptB cx cy && ptB dx dy)), [])
  | _ => none
def T1 : Tab := fun f ds => match f with
  | 87 => pPt ds
  | 74 => pPt ds
  | 141 => pCmp ds
  | 152 => pSign ds
  | 167 => pSign ds
  | 120 => pGcd ds
  | 121 => pAbs ds
  | 166 => pGcdL ds
  | 81 => pRatio ds
  | 147 => pRatio ds
  | 90 => pAll ds
  | _ => none
theorem row_open {w : World} {l : Nat} {cs : Cs} {y : Value} (hl : 0 < l) (h : DOk w (.row l cs) y) : ∃ g f c', y = .slice (some ⟨g, f, none⟩) l c' ∧ l ≤ c' ∧ g < w.heap.size ∧ ∀ (k : Nat) v, cs.list[k]? = some v → w.cell? ⟨g, f + k, none⟩ = some v := by
  obtain ⟨_, ad, c', h1, h2, h3⟩ := h
  obtain ⟨g, f, rfl, h4, h5⟩ := h3.resolve_left (by omega)
  exact ⟨g, f, c', h1, h2, h4, h5⟩
theorem res_row {f : FuncId} {l : Nat} {cs : Cs} {v : Value} (hl : 0 < l) (he : entersB Try.prog f = true) (hv : plainV v = true) (hat : allAtoms cs = true) (h : ∀ w g o c', l ≤ c' → g < w.heap.size → (∀ (k : Nat) v, cs.list[k]? = some v → w.cell? ⟨g, o + k, none⟩ = some v) →
    Calls Try.prog f #[.slice (some ⟨g, o, none⟩) l c'] w fun e w' => e = .returned v ∧ Below w.heap.size w w') : Res Try.prog f [.row l cs] v := by
  obtain ⟨h1, h2⟩ := entersB_res he
  refine ⟨h1, h2, hv, fun d hd => ?_, fun w ys hd => ?_⟩
  · obtain rfl : d = .row l cs := by simpa using hd
    exact hat
  · have hs := hd.1
    have h0 : ys[0]? = some (ys[0]'(by simp at hs; omega)) := by simp
    obtain ⟨g, o, c', e1, e2, e3, e4⟩ := row_open hl (hd.2 0 _ _ rfl h0)
    have e : ys = #[.slice (some ⟨g, o, none⟩) l c'] := by
      apply Array.ext
      · simpa using hs.symm
      · intro i i1 i2
        have : i = 0 := by simp at i2; omega
        subst this
        simpa using e1
    rw [e]
    exact h w g o c' e2 e3 e4
theorem gL3 (a b c : Int) : gL (pick3 a b c) 3 = gI (gI a b) c := by
  show gI (gI (gI 0 (pick3 a b c 0)) (pick3 a b c 1)) (pick3 a b c 2) = _
  simp only [pick3]
  rw [gI_zero_left, gI_abs]
theorem T1r_0 {ds : List DArg} {v : Value} {C : List Prop} (h : pPt ds = some (v, C)) (hC : AllP C) : Res Try.prog 87 ds v := by
  unfold pPt at h
  split at h
  · obtain ⟨rfl, rfl⟩ : _ ∧ _ := by simpa using h
    exact res_specValid _ _
  · cases h
theorem T1r_1 {ds : List DArg} {v : Value} {C : List Prop} (h : pPt ds = some (v, C)) (hC : AllP C) : Res Try.prog 74 ds v := by
  unfold pPt at h
  split at h
  · obtain ⟨rfl, rfl⟩ : _ ∧ _ := by simpa using h
    exact res_implValid _ _
  · cases h
theorem T1r_2 {ds : List DArg} {v : Value} {C : List Prop} (h : pCmp ds = some (v, C)) (hC : AllP C) : Res Try.prog 141 ds v := by
  unfold pCmp at h
  split at h
  · obtain ⟨rfl, rfl⟩ : _ ∧ _ := by simpa using h
    exact res_compare _ _
  · cases h
theorem T1r_3 {ds : List DArg} {v : Value} {C : List Prop} (h : pSign ds = some (v, C)) (hC : AllP C) : Res Try.prog 152 ds v := by
  unfold pSign at h
  split at h
  · obtain ⟨rfl, rfl⟩ : _ ∧ _ := by simpa using h
    exact res_specSign _
  · cases h
theorem T1r_4 {ds : List DArg} {v : Value} {C : List Prop} (h : pSign ds = some (v, C)) (hC : AllP C) : Res Try.prog 167 ds v := by
  unfold pSign at h
  split at h
  · obtain ⟨rfl, rfl⟩ : _ ∧ _ := by simpa using h
    exact res_implSign _
  · cases h
theorem T1r_5 {ds : List DArg} {v : Value} {C : List Prop} (h : pGcd ds = some (v, C)) (hC : AllP C) : Res Try.prog 120 ds v := by
  unfold pGcd at h
  split at h
  · obtain ⟨rfl, rfl⟩ : _ ∧ _ := by simpa using h
    exact res_calls (by kernel_rfl) rfl rfl fun w => below_same (specGcd_any _ _ w hC.1 hC.2.1)
  · cases h
theorem T1r_6 {ds : List DArg} {v : Value} {C : List Prop} (h : pAbs ds = some (v, C)) (hC : AllP C) : Res Try.prog 121 ds v := by
  unfold pAbs at h
  split at h
  · obtain ⟨rfl, rfl⟩ : _ ∧ _ := by simpa using h
    exact res_calls (by kernel_rfl) rfl rfl fun w => below_same (abs_any _ w (by have := hC.1.1; omega))
  · cases h
theorem T1r_7 {ds : List DArg} {v : Value} {C : List Prop} (h : pGcdL ds = some (v, C)) (hC : AllP C) : Res Try.prog 166 ds v := by
  unfold pGcdL at h
  split at h
  · rename_i x y
    obtain ⟨rfl, rfl⟩ : _ ∧ _ := by simpa using h
    refine res_row (by decide) (by kernel_rfl) rfl rfl fun w g o c' _ hg hcell => ?_
    have := implGcd_any (some ⟨g, o, none⟩) 2 c' (pick2 x y) w (by omega) (fun k hk => ⟨g, o, rfl, hg, by
      match k, hk with
      | 0, _ => exact hcell 0 _ rfl
      | 1, _ => exact hcell 1 _ rfl⟩) (fun k hk => by
      match k, hk with
      | 0, _ => exact hC.1
      | 1, _ => exact hC.2.1)
    rw [gL2] at this
    exact this
  · rename_i x y z
    obtain ⟨rfl, rfl⟩ : _ ∧ _ := by simpa using h
    refine res_row (by decide) (by kernel_rfl) rfl rfl fun w g o c' _ hg hcell => ?_
    have := implGcd_any (some ⟨g, o, none⟩) 3 c' (pick3 x y z) w (by omega) (fun k hk => ⟨g, o, rfl, hg, by
      match k, hk with
      | 0, _ => exact hcell 0 _ rfl
      | 1, _ => exact hcell 1 _ rfl
      | 2, _ => exact hcell 2 _ rfl⟩) (fun k hk => by
      match k, hk with
      | 0, _ => exact hC.1
      | 1, _ => exact hC.2.1
      | 2, _ => exact hC.2.2.1)
    rw [gL3] at this
    exact this
  · cases h
theorem T1r_8 {ds : List DArg} {v : Value} {C : List Prop} (h : pRatio ds = some (v, C)) (hC : AllP C) : Res Try.prog 81 ds v := by
  unfold pRatio at h
  split at h
  · obtain ⟨rfl, rfl⟩ : _ ∧ _ := by simpa using h
    exact res_calls (by kernel_rfl) rfl rfl fun w => ratio_any _ _ w hC.1 hC.2.1 hC.2.2.1
  · cases h
theorem T1r_9 {ds : List DArg} {v : Value} {C : List Prop} (h : pRatio ds = some (v, C)) (hC : AllP C) : Res Try.prog 147 ds v := by
  unfold pRatio at h
  split at h
  · obtain ⟨rfl, rfl⟩ : _ ∧ _ := by simpa using h
    exact res_calls (by kernel_rfl) rfl rfl fun w => lowest_any _ _ w hC.1 hC.2.1 hC.2.2.1
  · cases h
theorem T1r_10 {ds : List DArg} {v : Value} {C : List Prop} (h : pAll ds = some (v, C)) (hC : AllP C) : Res Try.prog 90 ds v := by
  unfold pAll at h
  split at h
  · rename_i ax ay bx b_y
    obtain ⟨rfl, rfl⟩ : _ ∧ _ := by simpa using h
    refine res_row (by decide) (by kernel_rfl) rfl rfl fun w g o c' _ hg hcell => ?_
    have := allValid_any (some ⟨g, o, none⟩) 2 c' (pick2 ax bx) (pick2 ay b_y) w (by omega) (fun k hk => ⟨g, o, rfl, hg, by
      match k, hk with
      | 0, _ => exact ⟨hcell 0 _ rfl, hcell 1 _ rfl⟩
      | 1, _ => exact ⟨hcell 2 _ rfl, hcell 3 _ rfl⟩⟩)
    rw [allB2] at this
    exact this
  · rename_i ax ay bx b_y cx cy
    obtain ⟨rfl, rfl⟩ : _ ∧ _ := by simpa using h
    refine res_row (by decide) (by kernel_rfl) rfl rfl fun w g o c' _ hg hcell => ?_
    have := allValid_any (some ⟨g, o, none⟩) 3 c' (pick3 ax bx cx) (pick3 ay b_y cy) w (by omega) (fun k hk => ⟨g, o, rfl, hg, by
      match k, hk with
      | 0, _ => exact ⟨hcell 0 _ rfl, hcell 1 _ rfl⟩
      | 1, _ => exact ⟨hcell 2 _ rfl, hcell 3 _ rfl⟩
      | 2, _ => exact ⟨hcell 4 _ rfl, hcell 5 _ rfl⟩⟩)
    rw [allB3] at this
    exact this
  · rename_i ax ay bx b_y cx cy dx dy
    obtain ⟨rfl, rfl⟩ : _ ∧ _ := by simpa using h
    refine res_row (by decide) (by kernel_rfl) rfl rfl fun w g o c' _ hg hcell => ?_
    have := allValid_any (some ⟨g, o, none⟩) 4 c' (fun k => match k with
      | 0 => ax
      | 1 => bx
      | 2 => cx
      | _ => dx) (fun k => match k with
      | 0 => ay
      | 1 => b_y
      | 2 => cy
      | _ => dy) w (by omega) (fun k hk => ⟨g, o, rfl, hg, by
      match k, hk with
      | 0, _ => exact ⟨hcell 0 _ rfl, hcell 1 _ rfl⟩
      | 1, _ => exact ⟨hcell 2 _ rfl, hcell 3 _ rfl⟩
      | 2, _ => exact ⟨hcell 4 _ rfl, hcell 5 _ rfl⟩
      | 3, _ => exact ⟨hcell 6 _ rfl, hcell 7 _ rfl⟩⟩)
    rw [allB_succ, allB_succ, allB_succ, allB_succ, allB_zero] at this
    simpa [Bool.and_assoc] using this
  · cases h
theorem T1_ok : TabOk Try.prog T1 := by
  intro f ds v C h hC
  unfold T1 at h
  (try split at h)
  all_goals first | with_reducible exact T1r_0 h hC | with_reducible exact T1r_1 h hC | with_reducible exact T1r_2 h hC | with_reducible exact T1r_3 h hC | with_reducible exact T1r_4 h hC | with_reducible exact T1r_5 h hC | with_reducible exact T1r_6 h hC | with_reducible exact T1r_7 h hC | with_reducible exact T1r_8 h hC | with_reducible exact T1r_9 h hC | with_reducible exact T1r_10 h hC | cases h
end Go.Proofs.Ytolodncpegajkab
namespace Go.Proofs.Ytolodncpegajkab
set_option linter.all false
open Go.RowKit
def EM : Env := mkE B0 (fun _ _ => none) (fun _ => noL)
theorem EM_ok : EnvOk Try.prog EM := mkEOk B0_ok (fun _ _ _ _ _ h => (by cases h)) (fun _ _ _ => noL_good)
/-- k, k + 1, ..: so many. -/
def marks : Int → Nat → List Int
  | _, 0 => []
  | k, n + 1 => k :: marks (k + 1) n
theorem marks_length : ∀ (n : Nat) (k : Int), (marks k n).length = n
  | 0, _ => rfl
  | n + 1, k => by simp [marks, marks_length n]
theorem marks_get : ∀ (n : Nat) (k : Int) (i : Nat), i < n → (marks k n).getD i 0 = k + i
  | 0, _, i, h => by omega
  | n + 1, k, 0, _ => by simp [marks]
  | n + 1, k, i + 1, h => by
    have := marks_get n (k + 1) i (by omega)
    simp only [marks, List.getD_eq_getElem?_getD, List.getElem?_cons_succ] at this ⊢
    rw [this]
    omega
theorem setInts_one (xs : List Int) (i : Nat) (h : i < xs.length) (a : Int) : setInts xs i [a] = xs.set i a := by
  unfold setInts
  rw [List.set_eq_take_append_cons_drop, if_pos h]
  simp
theorem vI0 {k : Int} {n : Nat} (h : n = 0) : Value.int .i64 k = .int .i64 (k + (n : Int)) := by subst h; simp
theorem take_set_two {l m : List Int} {i : Nat} (hl : i * 2 + 1 < l.length) (hm : i * 2 + 1 < m.length) (h : l.take (i * 2) = m.take (i * 2)) : ((l.set (i * 2) (m.getD (i * 2) 0)).set (i * 2 + 1) (m.getD (i * 2 + 1) 0)).take ((i + 1) * 2) = m.take ((i + 1) * 2) := by
  have h1 := take_set_succ (l := l) (m := m) (i := i * 2) (by omega) (by omega) h 0
  have h2 := take_set_succ (l := l.set (i * 2) (m.getD (i * 2) 0)) (m := m) (i := i * 2 + 1) (by simp; omega) (by omega) h1 0
  rw [show (i + 1) * 2 = i * 2 + 1 + 1 by omega]
  exact h2
end Go.Proofs.Ytolodncpegajkab
namespace Go.Proofs.Ytolodncpegajkab
set_option linter.all false
open Go.RowKit
theorem fn_is {f : FuncId} {fn g : Func} (h : Try.prog.funcs[f]? = some g) (hf : Try.prog.funcs[f]? = some fn) : g = fn := by rw [h] at hf; simpa using hf
def Lim (n : Nat) : Prop := n ≤ 1000000000
end Go.Proofs.Ytolodncpegajkab
namespace Go.Proofs.Ytolodncpegajkab
set_option linter.all false
open Go.RowKit
def E1 : Env := mkE (T1) (fun _ _ => none) (fun _ => noL)
theorem E1_ok : EnvOk Try.prog E1 := mkEOk (T1_ok) (fun _ _ _ _ _ h => (by cases h)) (fun _ _ _ _ _ _ _ _ _ _ _ h => (by cases h))
def vB (p : Pt) : Bool := ptB p.1 p.2
def allV (ps : List Pt) : Bool := ps.all vB
noncomputable def c43 : Code := ((loopsOf (codeOf Try.f84))[0]?).getD .skip
noncomputable def c80 : Code := ((loopsOf (codeOf Try.f90))[0]?).getD .skip
set_option maxRecDepth 100000 in
theorem nl43 : loopsOf c43 = [] := by kernel_rfl
set_option maxRecDepth 100000 in
theorem nl80 : loopsOf c80 = [] := by kernel_rfl
def k43 : Ex → List Nat := keeps [0, 3] [(0, [0])] [2]
def k80 : Ex → List Nat := keeps [5, 6, 7] [] [2]
def s43 (ps : List Pt) (i : Nat) : St := ⟨[.slice (some ⟨0, 0, none⟩) ps.length ps.length, topV, topV, .int .i64 i, topV, topV, topV, topV, topV, topV, topV, topV, topV, topV, topV, topV, topV, topV, topV], [some ⟨.view, .ints (flat ps)⟩]⟩
def s80 (ps : List Pt) (i : Nat) : St := ⟨[topV, topV, topV, topV, topV, .slice (some ⟨0, 0, none⟩) ps.length ps.length, .int .i64 ps.length, .int .i64 i, topV, topV, topV, topV, topV, topV, topV], [some ⟨.view, .ints (flat ps)⟩]⟩
set_option maxRecDepth 100000 in
theorem tr43 (ps : List Pt) (i : Nat) : bodyL Try.prog E1 30 12 noL 1 c43 k43 1 (s43 ps i) = brT (decide ((↑i : Int) < (↑ps.length : Int))) (.need ((0 : Int) ≤ (↑i : Int) ∧ (↑i : Int) < (↑ps.length : Int)) (.need ((0 : Nat) + (↑i : Int).toNat * (2 : Nat) + (2 : Nat) ≤ (flat ps).length) (brT (!ptB ((flat ps).getD (0 + (↑i : Int).toNat * 2) 0) ((flat ps).getD (0 + (↑i : Int).toNat * 2 + 1) 0)) (.leaf .ret ⟨[topV, topV, .bool (false), topV, topV, topV, topV, topV, topV, topV, topV, topV, topV, topV, topV, topV, topV, topV, topV], [some ⟨.view, .ints (flat ps)⟩]⟩) (.leaf .normal ⟨[.slice (some ⟨0, 0, none⟩) (ps.length) (ps.length), topV, topV, .int .i64 (IntKind.i64.wrap ((↑i : Int) + 1)), topV, topV, topV, topV, topV, topV, topV, topV, topV, topV, topV, topV, topV, topV, topV], [some ⟨.view, .ints (flat ps)⟩]⟩)))) (.leaf (.exit 0) ⟨[.slice (some ⟨0, 0, none⟩) (ps.length) (ps.length), topV, topV, topV, topV, topV, topV, topV, topV, topV, topV, topV, topV, topV, topV, topV, topV, topV, topV], [some ⟨.view, .ints (flat ps)⟩]⟩) := by kernel_rfl
set_option maxRecDepth 100000 in
theorem tr80 (ps : List Pt) (i : Nat) : bodyL Try.prog E1 30 12 noL 1 c80 k80 1 (s80 ps i) = brT (decide ((↑i : Int) < (↑ps.length : Int))) (.need ((0 : Int) ≤ (↑i : Int) ∧ (↑i : Int) < (↑ps.length : Int)) (.need ((0 : Nat) + (↑i : Int).toNat * (2 : Nat) + (2 : Nat) ≤ (flat ps).length) (brT (!ptB ((flat ps).getD (0 + (↑i : Int).toNat * 2) 0) ((flat ps).getD (0 + (↑i : Int).toNat * 2 + 1) 0)) (.leaf .ret ⟨[topV, topV, .bool (false), topV, topV, topV, topV, topV, topV, topV, topV, topV, topV, topV, topV], [some ⟨.view, .ints (flat ps)⟩]⟩) (.leaf .normal ⟨[topV, topV, topV, topV, topV, .slice (some ⟨0, 0, none⟩) (ps.length) (ps.length), .int .i64 ((↑ps.length : Int)), .int .i64 (IntKind.i64.wrap ((↑i : Int) + 1)), topV, topV, topV, topV, topV, topV, topV], [some ⟨.view, .ints (flat ps)⟩]⟩)))) (.leaf (.exit 0) ⟨[topV, topV, topV, topV, topV, topV, topV, topV, topV, topV, topV, topV, topV, topV, topV], [some ⟨.view, .ints (flat ps)⟩]⟩) := by kernel_rfl
def re43 (ps : List Pt) (i : Nat) : Ex := bif (ps.drop i).all vB then .exit 0 else .ret
def rs43 (ps : List Pt) (i : Nat) : St := bif (ps.drop i).all vB then ⟨[.slice (some ⟨0, 0, none⟩) ps.length ps.length, topV, topV, topV, topV, topV, topV, topV, topV, topV, topV, topV, topV, topV, topV, topV, topV, topV, topV], [some ⟨.view, .ints (flat ps)⟩]⟩ else ⟨[topV, topV, .bool false, topV, topV, topV, topV, topV, topV, topV, topV, topV, topV, topV, topV, topV, topV, topV, topV], [some ⟨.view, .ints (flat ps)⟩]⟩
def re80 (ps : List Pt) (i : Nat) : Ex := bif (ps.drop i).all vB then .exit 0 else .ret
def rs80 (ps : List Pt) (i : Nat) : St := bif (ps.drop i).all vB then ⟨[topV, topV, topV, topV, topV, topV, topV, topV, topV, topV, topV, topV, topV, topV, topV], [some ⟨.view, .ints (flat ps)⟩]⟩ else ⟨[topV, topV, .bool false, topV, topV, topV, topV, topV, topV, topV, topV, topV, topV, topV, topV], [some ⟨.view, .ints (flat ps)⟩]⟩
theorem round43 (ps : List Pt) (hn : ps.length ≤ 1000000000) (i : Nat) (hi : i ≤ ps.length) :
    (bodyL Try.prog E1 30 12 noL 1 c43 k43 1 (s43 ps i)).ok (RoundEnd 1 (s43 ps) (fun i => i ≤ ps.length) (fun i => ps.length - i) (re43 ps) (rs43 ps) i) (fun _ _ => False) := by
  rw [tr43]
  simp only [brT_ok, Tree.ok, decide_eq_true_eq, decide_eq_false_iff_not, Int.toNat_natCast, Nat.zero_add, flat_length, flat_get0, flat_get1, Bool.not_eq_true', Bool.not_eq_false']
  refine ⟨fun hlt => ⟨by omega, by omega, fun hv => ?_, fun hv => ?_⟩, fun hge => ?_⟩
  · have e : (ps.drop i).all vB = false := by rw [all_drop (by omega) (0, 0)]; simp only [vB, hv, Bool.false_and]
    refine ⟨by simp only [re43, e, cond_false], [], ?_⟩
    simp only [rs43, e, cond_false]
    repeat' (first | exact True.intro | exact rfl | refine And.intro ?_ ?_)
  · have e : (ps.drop i).all vB = (ps.drop (i + 1)).all vB := by rw [all_drop (by omega) (0, 0)]; simp only [vB, hv, Bool.true_and]
    rw [wsucc (n := ps.length) (by omega) hn]
    refine ⟨i + 1, [], by omega, by dsimp only; omega, by simp only [re43, e], by simp only [rs43, e], ?_⟩
    repeat' (first | exact True.intro | exact rfl | refine And.intro ?_ ?_)
  · have e : (ps.drop i).all vB = true := all_end (by omega) _
    refine ⟨by simp only [re43, e, cond_true], [], ?_⟩
    simp only [rs43, e, cond_true]
    repeat' (first | exact True.intro | exact rfl | refine And.intro ?_ ?_)
theorem round80 (ps : List Pt) (hn : ps.length ≤ 1000000000) (i : Nat) (hi : i ≤ ps.length) :
    (bodyL Try.prog E1 30 12 noL 1 c80 k80 1 (s80 ps i)).ok (RoundEnd 1 (s80 ps) (fun i => i ≤ ps.length) (fun i => ps.length - i) (re80 ps) (rs80 ps) i) (fun _ _ => False) := by
  rw [tr80]
  simp only [brT_ok, Tree.ok, decide_eq_true_eq, decide_eq_false_iff_not, Int.toNat_natCast, Nat.zero_add, flat_length, flat_get0, flat_get1, Bool.not_eq_true', Bool.not_eq_false']
  refine ⟨fun hlt => ⟨by omega, by omega, fun hv => ?_, fun hv => ?_⟩, fun hge => ?_⟩
  · have e : (ps.drop i).all vB = false := by rw [all_drop (by omega) (0, 0)]; simp only [vB, hv, Bool.false_and]
    refine ⟨by simp only [re80, e, cond_false], [], ?_⟩
    simp only [rs80, e, cond_false]
    repeat' (first | exact True.intro | exact rfl | refine And.intro ?_ ?_)
  · have e : (ps.drop i).all vB = (ps.drop (i + 1)).all vB := by rw [all_drop (by omega) (0, 0)]; simp only [vB, hv, Bool.true_and]
    rw [wsucc (n := ps.length) (by omega) hn]
    refine ⟨i + 1, [], by omega, by dsimp only; omega, by simp only [re80, e], by simp only [rs80, e], ?_⟩
    repeat' (first | exact True.intro | exact rfl | refine And.intro ?_ ?_)
  · have e : (ps.drop i).all vB = true := all_end (by omega) _
    refine ⟨by simp only [re80, e, cond_true], [], ?_⟩
    simp only [rs80, e, cond_true]
    repeat' (first | exact True.intro | exact rfl | refine And.intro ?_ ?_)
def lt43 : LT := fun j s k => match j, s with
  | 0, ⟨[.slice (some ⟨0, 0, none⟩) n _, _, _, .int .i64 i, _, _, _, _, _, _, _, _, _, _, _, _, _, _, _], [some ⟨.view, .ints xs⟩]⟩ =>
    some (needs [i = 0, xs.length = n * 2, n ≤ 1000000000] (brT (allV (ptsA n xs)) (k (.exit 0) ⟨[.slice (some ⟨0, 0, none⟩) n n, topV, topV, topV, topV, topV, topV, topV, topV, topV, topV, topV, topV, topV, topV, topV, topV, topV, topV], [some ⟨.view, .ints xs⟩]⟩) (k .ret ⟨[topV, topV, .bool false, topV, topV, topV, topV, topV, topV, topV, topV, topV, topV, topV, topV, topV, topV, topV, topV], [some ⟨.view, .ints xs⟩]⟩)))
  | _, _ => none
def lt80 : LT := fun j s k => match j, s with
  | 0, ⟨[_, _, _, _, _, .slice (some ⟨0, 0, none⟩) n _, .int .i64 l, .int .i64 i, _, _, _, _, _, _, _], [some ⟨.view, .ints xs⟩]⟩ =>
    some (needs [i = 0, l = n, xs.length = n * 2, n ≤ 1000000000] (brT (allV (ptsA n xs)) (k (.exit 0) ⟨[topV, topV, topV, topV, topV, topV, topV, topV, topV, topV, topV, topV, topV, topV, topV], [some ⟨.view, .ints xs⟩]⟩) (k .ret ⟨[topV, topV, .bool false, topV, topV, topV, topV, topV, topV, topV, topV, topV, topV, topV, topV], [some ⟨.view, .ints xs⟩]⟩)))
  | _, _ => none
set_option maxRecDepth 100000 in
theorem lg43 : LoopsGood Try.prog lt43 0 (codeOf Try.f84) := by
  intro i d hd s k t F H hlt ht
  rw [Nat.zero_add] at hlt
  unfold lt43 at hlt
  split at hlt
  rotate_left
  · cases hlt
  obtain rfl : c43 = d := by unfold c43; rw [hd]; rfl
  obtain rfl := Option.some.inj hlt
  obtain ⟨⟨rfl, h1, h2, _⟩, ht2⟩ := needs_ok ht
  clear ht hlt
  obtain ⟨ps, rfl, rfl⟩ := even_flat h1
  rw [ptsA_flat] at ht2
  refine ⟨_, _, pick2k ht2, loop_run mixed E1_ok (s43 ps) (fun i => i ≤ ps.length) (fun i => ps.length - i) (re43 ps) (rs43 ps) k43 (fun _ => rfl) (noLoops nl43) (round43 ps h2) (x := 0) (Nat.zero_le _) (π := []) rfl ?_⟩
  repeat' (first | exact True.intro | exact rfl | exact wv_top _ _ | refine And.intro ?_ ?_)
set_option maxRecDepth 100000 in
theorem lg80 : LoopsGood Try.prog lt80 0 (codeOf Try.f90) := by
  intro i d hd s k t F H hlt ht
  rw [Nat.zero_add] at hlt
  unfold lt80 at hlt
  split at hlt
  rotate_left
  · cases hlt
  obtain rfl : c80 = d := by unfold c80; rw [hd]; rfl
  obtain rfl := Option.some.inj hlt
  obtain ⟨⟨rfl, rfl, h1, h2, _⟩, ht2⟩ := needs_ok ht
  clear ht hlt
  obtain ⟨ps, rfl, rfl⟩ := even_flat h1
  rw [ptsA_flat] at ht2
  refine ⟨_, _, pick2k ht2, loop_run mixed E1_ok (s80 ps) (fun i => i ≤ ps.length) (fun i => ps.length - i) (re80 ps) (rs80 ps) k80 (fun _ => rfl) (noLoops nl80) (round80 ps h2) (x := 0) (Nat.zero_le _) (π := []) rfl ?_⟩
  repeat' (first | exact True.intro | exact rfl | exact wv_top _ _ | refine And.intro ?_ ?_)
end Go.Proofs.Ytolodncpegajkab
namespace Go.Proofs.Ytolodncpegajkab
set_option linter.all false
open Go.RowKit
def L2 : FuncId → LT := fun f => match f with
  | 84 => lt43
  | 90 => lt80
  | _ => noL
def E2 : Env := mkE (T1) (fun _ _ => none) (L2)
theorem E2_ok : EnvOk Try.prog E2 := by
  refine mkEOk T1_ok (fun _ _ _ _ _ h => (by cases h)) fun f fn hf => ?_
  show LoopsGood Try.prog (L2 f) 0 (codeOf fn)
  unfold L2
  split
  · obtain rfl : Try.f84 = fn := by rw [Try.func84] at hf; simpa using hf
    exact lg43
  · obtain rfl : Try.f90 = fn := by rw [Try.func90] at hf; simpa using hf
    exact lg80
  · exact noL_good
set_option maxRecDepth 100000 in
theorem tr_f43 (ps : List Pt) : bodyX Try.prog E2 30 12 84 [.row ps.length (.ints (flat ps))] = .need ((0 : Int) = (0 : Int)) (.need ((flat ps).length = ps.length * (2 : Nat)) (.need (ps.length ≤ (1000000000 : Nat)) (brT (allV (ptsA ps.length (flat ps))) (.fin (.bool (decide ((↑ps.length : Int) ≤ 20))) [some ⟨.view, .ints (flat ps)⟩]) (.fin (.bool (false)) [some ⟨.view, .ints (flat ps)⟩])))) := by kernel_rfl
set_option maxRecDepth 100000 in
theorem tr_f80 (ps : List Pt) : bodyX Try.prog E2 30 12 90 [.row ps.length (.ints (flat ps))] = .need ((0 : Int) = (0 : Int)) (.need ((↑ps.length : Int) = (↑ps.length : Int)) (.need ((flat ps).length = ps.length * (2 : Nat)) (.need (ps.length ≤ (1000000000 : Nat)) (brT (allV (ptsA ps.length (flat ps))) (.fin (.bool (true)) [some ⟨.view, .ints (flat ps)⟩]) (.fin (.bool (false)) [some ⟨.view, .ints (flat ps)⟩]))))) := by kernel_rfl
def Big (ps : List Pt) : Prop := ps.length ≤ 1000000000
def okL (ps : List Pt) : Bool := allV ps && decide (ps.length ≤ 20)
theorem res_f43 (ps : List Pt) (h : Big ps) : Res Try.prog 84 [.row ps.length (.ints (flat ps))] (.bool (okL ps)) := by
  refine bodyX_res mixed E2_ok (m := 30) (n := 12) rfl ?_
  rw [tr_f43, ptsA_flat]
  unfold Big at h
  unfold okL
  cases hv : allV ps <;> simp [Tree.ok, brT, flat_length, h]
  omega
theorem res_f80 (ps : List Pt) (h : Big ps) : Res Try.prog 90 [.row ps.length (.ints (flat ps))] (.bool (allV ps)) := by
  refine bodyX_res mixed E2_ok (m := 30) (n := 12) rfl ?_
  rw [tr_f80, ptsA_flat]
  unfold Big at h
  cases hv : allV ps <;> simp [Tree.ok, brT, flat_length, h]
/-- An entry for a function of one list of points. -/
def pL (g : List Pt → Value) : List DArg → Option (Value × List Prop)
  | [.row n (.ints xs)] => some (g (ptsA n xs), [n * 2 ≤ xs.length, n ≤ 1000000000])
  | _ => none
theorem pL_ok {f : FuncId} {g : List Pt → Value} (h : ∀ ps, Big ps → Res Try.prog f [.row ps.length (.ints (flat ps))] (g ps)) {ds : List DArg} {v : Value} {C : List Prop} (hd : pL g ds = some (v, C)) (hC : AllP C) : Res Try.prog f ds v := by
  unfold pL at hd
  split at hd
  · rename_i n xs
    obtain ⟨rfl, rfl⟩ : _ ∧ _ := by simpa using hd
    obtain ⟨h1, h2⟩ := ptsA_spec hC.1
    have h0 := h (ptsA n xs) (by unfold Big; rw [h2]; exact hC.2.1)
    exact res_pts1 (pre := []) (post := []) hC.1 h0
  · cases hd
def T2 : Tab := fun f ds => match f with
  | 84 => pL (fun ps => .bool (okL ps)) ds
  | 90 => (match pL (fun ps => .bool (allV ps)) ds with
    | some r => some r
    | none => T1 f ds)
  | f => T1 f ds
theorem T2_ok : TabOk Try.prog T2 := by
  intro f ds v C h hC
  unfold T2 at h
  split at h
  · exact pL_ok res_f43 h hC
  · split at h
    · rename_i hr
      rw [h] at hr
      exact pL_ok res_f80 hr hC
    · exact T1_ok _ _ _ _ h hC
  · exact T1_ok _ _ _ _ h hC
end Go.Proofs.Ytolodncpegajkab
namespace Go.Proofs.Ytolodncpegajkab
set_option linter.all false
open Go.RowKit
def E3 : Env := mkE (T2) (fun _ _ => none) (fun _ => noL)
theorem E3_ok : EnvOk Try.prog E3 := mkEOk (T2_ok) (fun _ _ _ _ _ h => (by cases h)) (fun _ _ _ => noL_good)
theorem brT_t (x y : Tree) : brT true x y = x := rfl
theorem brT_f (x y : Tree) : brT false x y = y := rfl
def eqL (ps qs : List Pt) : Bool := decide (ps = qs)
noncomputable def c_toPts : Code := ((loopsOf (codeOf Try.f39))[0]?).getD .skip
def k_toPts : Ex → List Nat := keeps [0, 3, 4] [(0, [3])] [2]
def s_toPts (ps : List Pt) (n : Nat) : Nat × (List Pt) → St := fun (i, qs) => ⟨[.slice (some ⟨0, 0, none⟩) ps.length ps.length, topV, topV, .slice (some ⟨1, 0, none⟩) n n, .int .i64 i, topV, topV, topV, topV, topV, topV, topV, topV, topV, topV, topV, topV, topV, topV, topV, topV, topV, topV], [some ⟨.view, .ints (flat ps)⟩, some ⟨.row 44 2, .ints (flat qs)⟩]⟩
def re_toPts : Nat × (List Pt) → Ex := fun _ => .exit 0
def rs_toPts (ps : List Pt) (n : Nat) : Nat × (List Pt) → St := fun (i, qs) => ⟨[topV, topV, topV, .slice (some ⟨1, 0, none⟩) n n, topV, topV, topV, topV, topV, topV, topV, topV, topV, topV, topV, topV, topV, topV, topV, topV, topV, topV, topV], [some ⟨.view, .ints (flat ps)⟩, some ⟨.row 44 2, .ints (flat ps)⟩]⟩
set_option maxRecDepth 100000 in
theorem tr_toPts (ps : List Pt) (n : Nat) (i : Nat) (qs : List Pt) : bodyL Try.prog E3 30 12 noL 1 c_toPts k_toPts 2 (s_toPts ps n (i, qs)) = brT (decide ((↑i : Int) < (↑ps.length : Int))) (.need ((0 : Int) ≤ (↑i : Int) ∧ (↑i : Int) < (↑ps.length : Int)) (.need ((0 : Nat) + (↑i : Int).toNat * (2 : Nat) + (2 : Nat) ≤ (flat ps).length) (.need ((0 : Int) ≤ (↑i : Int) ∧ (↑i : Int) < (↑n : Int)) (.need ((0 : Nat) + (↑i : Int).toNat * (2 : Nat) + (2 : Nat) ≤ (flat qs).length) (.leaf .normal ⟨[.slice (some ⟨0, 0, none⟩) (ps.length) (ps.length), topV, topV, .slice (some ⟨1, 0, none⟩) (n) (n), .int .i64 (IntKind.i64.wrap ((↑i : Int) + 1)), topV, topV, topV, topV, topV, topV, topV, topV, topV, topV, topV, topV, topV, topV, topV, topV, topV, topV], [some ⟨.view, .ints (flat ps)⟩, some ⟨.row 44 2, .ints (setInts (flat qs) (0 + (↑i : Int).toNat * 2) [(flat ps).getD (0 + (↑i : Int).toNat * 2) 0, (flat ps).getD (0 + (↑i : Int).toNat * 2 + 1) 0])⟩]⟩))))) (.leaf (.exit 0) ⟨[topV, topV, topV, .slice (some ⟨1, 0, none⟩) (n) (n), topV, topV, topV, topV, topV, topV, topV, topV, topV, topV, topV, topV, topV, topV, topV, topV, topV, topV, topV], [some ⟨.view, .ints (flat ps)⟩, some ⟨.row 44 2, .ints (flat qs)⟩]⟩) := by kernel_rfl
set_option maxRecDepth 100000 in
theorem nl_toPts : loopsOf c_toPts = [] := by kernel_rfl
def inv_toPts (ps : List Pt) (n : Nat) : Nat × (List Pt) → Prop := fun (i, qs) => i ≤ ps.length ∧ ps.length = n ∧ qs.length = n ∧ qs.take i = ps.take i
def me_toPts (ps : List Pt) (n : Nat) : Nat × (List Pt) → Nat := fun (i, qs) => ps.length - i
/-- A round of this loop. -/
def Round_toPts (ps : List Pt) (n : Nat) : Prop := ∀ xx : Nat × (List Pt), inv_toPts ps n xx → (bodyL Try.prog E3 30 12 noL 1 c_toPts k_toPts 2 (s_toPts ps n xx)).ok (RoundEnd 2 (s_toPts ps n) (inv_toPts ps n) (me_toPts ps n) re_toPts (rs_toPts ps n) xx) (fun _ _ => False)
def e_toPts (s : St) (k : Ex → St → Tree) : Option Tree := match Nat.beq s.tmps.length 23, pickL s.tmps [0, 3, 4], s.mem with
  | true, [.slice (some ⟨0, 0, none⟩) n _, .slice (some ⟨1, 0, none⟩) m _, .int .i64 i], [some ⟨.view, .ints xs⟩, some ⟨.row 44 2, .ints ys⟩] => some (needs [i = 0, m = n, xs.length = n * 2, ys.length = n * 2, n ≤ 1000000000] (k (.exit 0) ⟨[topV, topV, topV, .slice (some ⟨1, 0, none⟩) m m, topV, topV, topV, topV, topV, topV, topV, topV, topV, topV, topV, topV, topV, topV, topV, topV, topV, topV, topV], [some ⟨.view, .ints xs⟩, some ⟨.row 44 2, .ints xs⟩]⟩))
  | _, _, _ => none
set_option maxRecDepth 100000 in
theorem round_toPts (ps : List Pt) (n : Nat) (h : ps.length ≤ 1000000000) : Round_toPts ps n := by
  rintro ⟨i, qs⟩ ⟨h1, h2, h3, h4⟩
  rw [tr_toPts]
  simp only [brT_ok, Tree.ok, decide_eq_true_eq, decide_eq_false_iff_not, Int.toNat_natCast, Nat.zero_add, flat_length, flat_get0, flat_get1, Cs.size]
  refine ⟨fun hlt => ⟨by omega, by omega, by omega, by omega, ?_⟩, fun hge => ?_⟩
  · rw [wsucc (n := ps.length) (by omega) h, flat_set qs i (by omega)]
    refine ⟨(i + 1, qs.set i (ps.getD i (0, 0))), [], ⟨by omega, h2, by simp [h3], ?_⟩, ?_, rfl, rfl, ?_⟩
    · exact take_set_succ (by omega) (by omega) h4 _
    · show ps.length - (i + 1) < ps.length - i; omega
    · repeat' (first | exact True.intro | exact rfl | exact fun _ => rfl | refine And.intro ?_ ?_)
  · have e : qs = ps := by
      rw [List.take_of_length_le (by omega), List.take_of_length_le (by omega)] at h4
      exact h4
    subst e
    refine ⟨rfl, [], ?_⟩
    repeat' (first | exact True.intro | exact rfl | exact fun _ => rfl | refine And.intro ?_ ?_)
set_option maxRecDepth 100000 in
theorem lg_toPts : LoopE Try.prog e_toPts c_toPts := by
  intro s k t F H hlt ht
  unfold e_toPts at hlt
  split at hlt
  rotate_left
  · cases hlt
  rename_i hlen hpick hmem
  obtain ⟨tmps, mem⟩ := s
  simp only at hlen hpick hmem
  subst hmem
  obtain rfl := Option.some.inj hlt
  obtain ⟨⟨rfl, rfl, h1, h2, h3, _⟩, ht2⟩ := needs_ok ht
  clear ht hlt
  obtain ⟨ps, rfl, rfl⟩ := even_flat h1
  obtain ⟨qs, rfl, hq⟩ := even_flat h2
  refine ⟨_, _, ht2, loop_run mixed E3_ok (s_toPts ps ps.length) (inv_toPts ps ps.length) (me_toPts ps ps.length) re_toPts (rs_toPts ps ps.length) k_toPts (fun _ => rfl) (noLoops nl_toPts) (round_toPts ps ps.length h3) (x := (0, qs)) ⟨Nat.zero_le _, rfl, hq, rfl⟩ (π := []) rfl ?_⟩
  refine ⟨rfl, rfl, ?_, wvs_spread' [0, 3, 4] hlen rfl ?_⟩
  · repeat' (first | exact True.intro | exact rfl | exact wv_top _ _ | exact fun _ => rfl | assumption | exact Eq.symm (by assumption) | exact vI0 rfl | refine And.intro ?_ ?_)
  · rw [hpick]
    repeat' (first | exact True.intro | exact rfl | exact wv_top _ _ | exact fun _ => rfl | assumption | exact Eq.symm (by assumption) | exact vI0 rfl | refine And.intro ?_ ?_)
noncomputable def c_eqPts : Code := ((loopsOf (codeOf Try.f41))[0]?).getD .skip
def k_eqPts : Ex → List Nat := keeps [0, 1, 5] [(0, [])] [4]
def s_eqPts (ps : List Pt) (qs : List Pt) : Nat → St := fun i => ⟨[.slice (some ⟨0, 0, none⟩) ps.length ps.length, .slice (some ⟨1, 0, none⟩) qs.length qs.length, topV, topV, topV, .int .i64 i, topV, topV, topV, topV, topV, topV, topV, topV, topV, topV, topV, topV, topV, topV, topV, topV, topV, topV, topV, topV, topV], [some ⟨.view, .ints (flat ps)⟩, some ⟨.view, .ints (flat qs)⟩]⟩
def re_eqPts (ps : List Pt) (qs : List Pt) : Nat → Ex := fun i => bif decide (ps.drop i = qs.drop i) then .exit 0 else .ret
def rs_eqPts (ps : List Pt) (qs : List Pt) : Nat → St := fun i => bif decide (ps.drop i = qs.drop i) then ⟨[topV, topV, topV, topV, topV, topV, topV, topV, topV, topV, topV, topV, topV, topV, topV, topV, topV, topV, topV, topV, topV, topV, topV, topV, topV, topV, topV], [some ⟨.view, .ints (flat ps)⟩, some ⟨.view, .ints (flat qs)⟩]⟩ else ⟨[topV, topV, topV, topV, .bool false, topV, topV, topV, topV, topV, topV, topV, topV, topV, topV, topV, topV, topV, topV, topV, topV, topV, topV, topV, topV, topV, topV], [some ⟨.view, .ints (flat ps)⟩, some ⟨.view, .ints (flat qs)⟩]⟩
set_option maxRecDepth 100000 in
theorem tr_eqPts (ps : List Pt) (qs : List Pt) (i : Nat) : bodyL Try.prog E3 30 12 noL 1 c_eqPts k_eqPts 2 (s_eqPts ps qs i) = brT (decide ((↑i : Int) < (↑ps.length : Int))) (brT (!(flat ps).getD (0 + (↑i : Int).toNat * 2) 0 == (flat qs).getD (0 + (↑i : Int).toNat * 2) 0) (.need ((0 : Int) ≤ (↑i : Int) ∧ (↑i : Int) < (↑ps.length : Int)) (.need ((0 : Nat) + (↑i : Int).toNat * (2 : Nat) + (2 : Nat) ≤ (flat ps).length) (.need ((0 : Int) ≤ (↑i : Int) ∧ (↑i : Int) < (↑qs.length : Int)) (.need ((0 : Nat) + (↑i : Int).toNat * (2 : Nat) + (2 : Nat) ≤ (flat qs).length) (.leaf .ret ⟨[topV, topV, topV, topV, .bool (false), topV, topV, topV, topV, topV, topV, topV, topV, topV, topV, topV, topV, topV, topV, topV, topV, topV, topV, topV, topV, topV, topV], [some ⟨.view, .ints (flat ps)⟩, some ⟨.view, .ints (flat qs)⟩]⟩))))) (brT (!(flat ps).getD (0 + (↑i : Int).toNat * 2 + 1) 0 == (flat qs).getD (0 + (↑i : Int).toNat * 2 + 1) 0) (.need ((0 : Int) ≤ (↑i : Int) ∧ (↑i : Int) < (↑ps.length : Int)) (.need ((0 : Nat) + (↑i : Int).toNat * (2 : Nat) + (2 : Nat) ≤ (flat ps).length) (.need ((0 : Int) ≤ (↑i : Int) ∧ (↑i : Int) < (↑qs.length : Int)) (.need ((0 : Nat) + (↑i : Int).toNat * (2 : Nat) + (2 : Nat) ≤ (flat qs).length) (.leaf .ret ⟨[topV, topV, topV, topV, .bool (false), topV, topV, topV, topV, topV, topV, topV, topV, topV, topV, topV, topV, topV, topV, topV, topV, topV, topV, topV, topV, topV, topV], [some ⟨.view, .ints (flat ps)⟩, some ⟨.view, .ints (flat qs)⟩]⟩))))) (.need ((0 : Int) ≤ (↑i : Int) ∧ (↑i : Int) < (↑ps.length : Int)) (.need ((0 : Nat) + (↑i : Int).toNat * (2 : Nat) + (2 : Nat) ≤ (flat ps).length) (.need ((0 : Int) ≤ (↑i : Int) ∧ (↑i : Int) < (↑qs.length : Int)) (.need ((0 : Nat) + (↑i : Int).toNat * (2 : Nat) + (2 : Nat) ≤ (flat qs).length) (.leaf .normal ⟨[.slice (some ⟨0, 0, none⟩) (ps.length) (ps.length), .slice (some ⟨1, 0, none⟩) (qs.length) (qs.length), topV, topV, topV, .int .i64 (IntKind.i64.wrap ((↑i : Int) + 1)), topV, topV, topV, topV, topV, topV, topV, topV, topV, topV, topV, topV, topV, topV, topV, topV, topV, topV, topV, topV, topV], [some ⟨.view, .ints (flat ps)⟩, some ⟨.view, .ints (flat qs)⟩]⟩))))))) (.leaf (.exit 0) ⟨[topV, topV, topV, topV, topV, topV, topV, topV, topV, topV, topV, topV, topV, topV, topV, topV, topV, topV, topV, topV, topV, topV, topV, topV, topV, topV, topV], [some ⟨.view, .ints (flat ps)⟩, some ⟨.view, .ints (flat qs)⟩]⟩) := by kernel_rfl
set_option maxRecDepth 100000 in
theorem nl_eqPts : loopsOf c_eqPts = [] := by kernel_rfl
def inv_eqPts (ps : List Pt) (qs : List Pt) : Nat → Prop := fun i => i ≤ ps.length ∧ ps.length = qs.length
def me_eqPts (ps : List Pt) (qs : List Pt) : Nat → Nat := fun i => ps.length - i
/-- A round of this loop. -/
def Round_eqPts (ps : List Pt) (qs : List Pt) : Prop := ∀ xx : Nat, inv_eqPts ps qs xx → (bodyL Try.prog E3 30 12 noL 1 c_eqPts k_eqPts 2 (s_eqPts ps qs xx)).ok (RoundEnd 2 (s_eqPts ps qs) (inv_eqPts ps qs) (me_eqPts ps qs) (re_eqPts ps qs) (rs_eqPts ps qs) xx) (fun _ _ => False)
def e_eqPts (s : St) (k : Ex → St → Tree) : Option Tree := match Nat.beq s.tmps.length 27, pickL s.tmps [0, 1, 5], s.mem with
  | true, [.slice (some ⟨0, 0, none⟩) n _, .slice (some ⟨1, 0, none⟩) m _, .int .i64 i], [some ⟨.view, .ints xs⟩, some ⟨.view, .ints ys⟩] => some (needs [i = 0, m = n, xs.length = n * 2, ys.length = n * 2, n ≤ 1000000000] (brT (eqL (ptsA n xs) (ptsA n ys)) (k (.exit 0) ⟨[topV, topV, topV, topV, topV, topV, topV, topV, topV, topV, topV, topV, topV, topV, topV, topV, topV, topV, topV, topV, topV, topV, topV, topV, topV, topV, topV], [some ⟨.view, .ints xs⟩, some ⟨.view, .ints ys⟩]⟩) (k .ret ⟨[topV, topV, topV, topV, .bool false, topV, topV, topV, topV, topV, topV, topV, topV, topV, topV, topV, topV, topV, topV, topV, topV, topV, topV, topV, topV, topV, topV], [some ⟨.view, .ints xs⟩, some ⟨.view, .ints ys⟩]⟩)))
  | _, _, _ => none
set_option maxRecDepth 100000 in
theorem round_eqPts (ps qs : List Pt) (h : ps.length ≤ 1000000000) : Round_eqPts ps qs := by
  rintro i ⟨h1, h2⟩
  rw [tr_eqPts]
  simp only [brT_ok, Tree.ok, decide_eq_true_eq, decide_eq_false_iff_not, Int.toNat_natCast, Nat.zero_add, flat_length, flat_get0, flat_get1, Bool.not_eq_true', Bool.not_eq_false', beq_iff_eq, beq_eq_false_iff_ne]
  refine ⟨fun hlt => ?_, fun hge => ?_⟩
  · have hd1 := drop_cons (l := ps) (k := i) (by omega) (0, 0)
    have hd2 := drop_cons (l := qs) (k := i) (by omega) (0, 0)
    have ne : ps.getD i (0, 0) ≠ qs.getD i (0, 0) → decide (ps.drop i = qs.drop i) = false := fun hne => by
      rw [hd1, hd2]
      simp only [List.cons.injEq, decide_eq_false_iff_not]
      exact fun h => hne h.1
    refine ⟨fun hv => ⟨by omega, by omega, by omega, by omega, ?_⟩, fun hv => ⟨fun hv2 => ⟨by omega, by omega, by omega, by omega, ?_⟩, fun hv2 => ⟨by omega, by omega, by omega, by omega, ?_⟩⟩⟩
    · have e := ne fun h => hv (by rw [h])
      refine ⟨by simp only [re_eqPts, e, cond_false], [], ?_⟩
      simp only [rs_eqPts, e, cond_false]
      repeat' (first | exact True.intro | exact rfl | exact fun _ => rfl | refine And.intro ?_ ?_)
    · have e := ne fun h => hv2 (by rw [h])
      refine ⟨by simp only [re_eqPts, e, cond_false], [], ?_⟩
      simp only [rs_eqPts, e, cond_false]
      repeat' (first | exact True.intro | exact rfl | exact fun _ => rfl | refine And.intro ?_ ?_)
    · have hp : ps.getD i (0, 0) = qs.getD i (0, 0) := Prod.ext hv hv2
      have e : decide (ps.drop i = qs.drop i) = decide (ps.drop (i + 1) = qs.drop (i + 1)) := by
        rw [hd1, hd2, hp]
        simp
      rw [wsucc (n := ps.length) (by omega) h]
      refine ⟨i + 1, [], ⟨by omega, h2⟩, ?_, by simp only [re_eqPts, e], by simp only [rs_eqPts, e], ?_⟩
      · show ps.length - (i + 1) < ps.length - i; omega
      · repeat' (first | exact True.intro | exact rfl | exact fun _ => rfl | refine And.intro ?_ ?_)
  · have e : decide (ps.drop i = qs.drop i) = true := by rw [List.drop_of_length_le (by omega), List.drop_of_length_le (by omega)]; rfl
    refine ⟨by simp only [re_eqPts, e, cond_true], [], ?_⟩
    simp only [rs_eqPts, e, cond_true]
    repeat' (first | exact True.intro | exact rfl | exact fun _ => rfl | refine And.intro ?_ ?_)
set_option maxRecDepth 100000 in
theorem lg_eqPts : LoopE Try.prog e_eqPts c_eqPts := by
  intro s k t F H hlt ht
  unfold e_eqPts at hlt
  split at hlt
  rotate_left
  · cases hlt
  rename_i hlen hpick hmem
  obtain ⟨tmps, mem⟩ := s
  simp only at hlen hpick hmem
  subst hmem
  obtain rfl := Option.some.inj hlt
  obtain ⟨⟨rfl, rfl, h1, h2, h3, _⟩, ht2⟩ := needs_ok ht
  clear ht hlt
  obtain ⟨ps, rfl, rfl⟩ := even_flat h1
  obtain ⟨qs, rfl, hq⟩ := even_flat h2
  rw [ptsA_flat, ← hq, ptsA_flat] at ht2
  refine ⟨_, _, pick2k ht2, loop_run mixed E3_ok (s_eqPts ps qs) (inv_eqPts ps qs) (me_eqPts ps qs) (re_eqPts ps qs) (rs_eqPts ps qs) k_eqPts (fun _ => rfl) (noLoops nl_eqPts) (round_eqPts ps qs h3) (x := 0) ⟨Nat.zero_le _, hq.symm⟩ (π := []) rfl ?_⟩
  refine ⟨rfl, rfl, ?_, wvs_spread' [0, 1, 5] hlen rfl ?_⟩
  · repeat' (first | exact True.intro | exact rfl | exact wv_top _ _ | exact fun _ => rfl | assumption | exact Eq.symm (by assumption) | exact vI0 rfl | refine And.intro ?_ ?_)
  · rw [hpick]
    repeat' (first | exact True.intro | exact rfl | exact wv_top _ _ | exact fun _ => rfl | assumption | exact Eq.symm (by assumption) | exact vI0 rfl | refine And.intro ?_ ?_)
end Go.Proofs.Ytolodncpegajkab
namespace Go.Proofs.Ytolodncpegajkab
set_option linter.all false
open Go.RowKit
def L4 : FuncId → LT := fun f => match f with
  | 39 => lt1 e_toPts
  | 41 => lt1 e_eqPts
  | _ => noL
def E4 : Env := mkE (T2) (fun _ _ => none) (L4)
theorem code_of {f : FuncId} {fn g : Func} (h : Try.prog.funcs[f]? = some g) (hf : Try.prog.funcs[f]? = some fn) : g = fn := by rw [h] at hf; simpa using hf
theorem Lr_toPts {fn : Func} (hf : Try.prog.funcs[39]? = some fn) : LoopsGood Try.prog (lt1 e_toPts) 0 (codeOf fn) := by
  obtain rfl := code_of Try.func39 hf
  exact lt1_good lg_toPts
theorem Lr_eqPts {fn : Func} (hf : Try.prog.funcs[41]? = some fn) : LoopsGood Try.prog (lt1 e_eqPts) 0 (codeOf fn) := by
  obtain rfl := code_of Try.func41 hf
  exact lt1_good lg_eqPts
theorem L4_ok : ∀ f fn, Try.prog.funcs[f]? = some fn → LoopsGood Try.prog (L4 f) 0 (codeOf fn) := by
  intro f fn hf
  unfold L4
  split
  all_goals first | with_reducible exact Lr_toPts hf | with_reducible exact Lr_eqPts hf | with_reducible exact Lr_specCW hf | with_reducible exact Lr_implCW hf | exact noL_good
theorem E4_ok : EnvOk Try.prog E4 := mkEOk (T2_ok) (fun _ _ _ _ _ h => (by cases h)) (L4_ok)
set_option maxRecDepth 100000 in
theorem tr_toPointS (ps : List Pt) : bodyX Try.prog E4 30 12 39 [.row ps.length (.ints (flat ps))] = .need ((0 : Int) ≤ (↑ps.length : Int) ∧ (↑ps.length : Int) ≤ (↑ps.length : Int) ∧ (16 : Nat) * (↑ps.length : Int).toNat ≤ (281474976710656 : Nat) ∧ (↑ps.length : Int) ≤ (9223372036854775807 : Int)) (.need ((0 : Int) = (0 : Int)) (.need ((↑ps.length : Int).toNat = ps.length) (.need ((flat ps).length = ps.length * (2 : Nat)) (.need ((List.replicate ((↑ps.length : Int).toNat * (2 : Nat)) (0 : Int)).length = ps.length * (2 : Nat)) (.need (ps.length ≤ (1000000000 : Nat)) (.fin (.slice (some ⟨1, 0, none⟩) ((↑ps.length : Int).toNat) ((↑ps.length : Int).toNat)) [some ⟨.view, .ints (flat ps)⟩, some ⟨.row 44 2, .ints (flat ps)⟩])))))) := by kernel_rfl
set_option maxRecDepth 100000 in
theorem tr_eqPointS (ps qs : List Pt) : bodyX Try.prog E4 30 12 41 [.row ps.length (.ints (flat ps)), .row qs.length (.ints (flat qs))] = brT (!(↑ps.length : Int) == (↑qs.length : Int)) (.fin (.bool (false)) [some ⟨.view, .ints (flat ps)⟩, some ⟨.view, .ints (flat qs)⟩]) (.need ((0 : Int) = (0 : Int)) (.need (qs.length = ps.length) (.need ((flat ps).length = ps.length * (2 : Nat)) (.need ((flat qs).length = ps.length * (2 : Nat)) (.need (ps.length ≤ (1000000000 : Nat)) (brT (eqL (ptsA ps.length (flat ps)) (ptsA ps.length (flat qs))) (.fin (.bool (true)) [some ⟨.view, .ints (flat ps)⟩, some ⟨.view, .ints (flat qs)⟩]) (.fin (.bool (false)) [some ⟨.view, .ints (flat ps)⟩, some ⟨.view, .ints (flat qs)⟩]))))))) := by kernel_rfl
theorem resR_toPointS (ps : List Pt) (h : Big ps) : ResR Try.prog 39 [.row ps.length (.ints (flat ps))] (.slice (some ⟨0, 0, none⟩) ps.length ps.length) ⟨.row 44 2, .ints (flat ps)⟩ := by
  refine bodyX_resR mixed E4_ok (m := 30) (n := 12) rfl ?_
  rw [tr_toPointS]
  unfold Big at h
  simp only [Tree.ok, flat_length, Int.toNat_natCast, List.length_replicate]
  exact ⟨by omega, trivial, trivial, trivial, trivial, h, some 1, ⟨rfl, rfl, rfl⟩, rfl, rfl, rfl⟩
theorem res_eqPointS (ps qs : List Pt) (h : Big ps) : Res Try.prog 41 [.row ps.length (.ints (flat ps)), .row qs.length (.ints (flat qs))] (.bool (eqL ps qs)) := by
  refine bodyX_res mixed E4_ok (m := 30) (n := 12) rfl ?_
  rw [tr_eqPointS]
  unfold Big at h
  by_cases hl : ps.length = qs.length
  · have e : ptsA ps.length (flat qs) = qs := by rw [hl, ptsA_flat]
    rw [e, ptsA_flat, show (!((ps.length : Int) == (qs.length : Int))) = false by simp [hl]]
    simp only [brT_f, Tree.ok, flat_length]
    refine ⟨trivial, hl.symm, trivial, by omega, h, ?_⟩
    cases eqL ps qs <;> rfl
  · have e : eqL ps qs = false := by
      unfold eqL
      rw [decide_eq_false_iff_not]
      rintro rfl
      exact hl rfl
    rw [show (!((ps.length : Int) == (qs.length : Int))) = true by simp; omega]
    simp only [brT_t, Tree.ok, e]
def pEq2 : List DArg → Option (Value × List Prop)
  | [.row m (.ints xs), .row n (.ints ys)] => some (.bool (eqL (ptsA m xs) (ptsA n ys)), [m * 2 ≤ xs.length, n * 2 ≤ ys.length, m ≤ 1000000000])
  | _ => none
def T3 : Tab := fun f ds => match f with
  | 41 => pEq2 ds
  | f => T2 f ds
theorem pEq2_ok {ds : List DArg} {v : Value} {C : List Prop} (h : pEq2 ds = some (v, C)) (hC : AllP C) : Res Try.prog 41 ds v := by
  unfold pEq2 at h
  split at h
  · rename_i m xs n ys
    obtain ⟨rfl, rfl⟩ : _ ∧ _ := by simpa using h
    obtain ⟨_, h2⟩ := ptsA_spec hC.1
    have h0 := res_eqPointS (ptsA m xs) (ptsA n ys) (by unfold Big; rw [h2]; exact hC.2.2.1)
    exact res_pts1 (pre := []) (post := [_]) hC.1 (res_pts1 (pre := [_]) (post := []) hC.2.1 h0)
  · cases h
theorem T3_ok : TabOk Try.prog T3 := by
  intro f ds v C h hC
  unfold T3 at h
  (try split at h)
  all_goals first | with_reducible exact pEq2_ok h hC | with_reducible exact pCWs_ok h hC | with_reducible exact pCWi_ok h hC | exact T2_ok _ _ _ _ h hC
def R4 : TabR := fun f ds => match f, ds with
  | 39, [.row n (.ints xs)] => some (.slice (some ⟨0, 0, none⟩) n n, ⟨.row 44 2, .ints (xs.take (n * 2))⟩, [n * 2 ≤ xs.length, n ≤ 1000000000])
  | _, _ => none
theorem R4_ok : TabROk Try.prog R4 := by
  intro f ds v b C h hC
  unfold R4 at h
  (try split at h)
  all_goals first
    | (rename_i n xs
       obtain ⟨rfl, rfl, rfl⟩ : _ ∧ _ ∧ _ := by simpa using h
       obtain ⟨h1, h2⟩ := ptsA_spec hC.1
       have h0 := resR_toPointS (ptsA n xs) (by unfold Big; rw [h2]; exact hC.2.1)
       have h3 := resR_pts1 (pre := []) (post := []) hC.1 h0
       rw [h2, ← h1] at h3
       exact h3)
    | cases h
end Go.Proofs.Ytolodncpegajkab
namespace Go.Proofs.Ytolodncpegajkab
set_option linter.all false
open Go.RowKit
/-- Of so many from i on, all. -/
def allQ (P : Nat → Bool) : Nat → Nat → Bool
  | _, 0 => true
  | i, m + 1 => P i && allQ P (i + 1) m
theorem allQ_step {P : Nat → Bool} {i n : Nat} (h : i < n) : allQ P i (n - i) = (P i && allQ P (i + 1) (n - (i + 1))) := by
  rw [show n - i = (n - (i + 1)) + 1 by omega]
  rfl
theorem allQ_end {P : Nat → Bool} {i n : Nat} (h : n ≤ i) : allQ P i (n - i) = true := by
  rw [show n - i = 0 by omega]
  rfl
theorem allQ_get {P : Nat → Bool} : ∀ (m i : Nat), allQ P i m = true → ∀ j, i ≤ j → j < i + m → P j = true
  | 0, i, _, j, h1, h2 => by omega
  | m + 1, i, h, j, h1, h2 => by
    simp only [allQ, Bool.and_eq_true] at h
    rcases Nat.lt_or_ge i j with h3 | h3
    · exact allQ_get m (i + 1) h.2 j (by omega) (by omega)
    · obtain rfl : j = i := by omega
      exact h.1
end Go.Proofs.Ytolodncpegajkab
namespace Go.Proofs.Ytolodncpegajkab
set_option linter.all false
open Go.RowKit
set_option maxRecDepth 100000 in
theorem tr_sVg (x y : Int) : bodyV Try.prog (tabE B0) 30 8 98 [.v (.agg #[iv x, iv y])] = brT (decide (-1000 ≤ x)) (brT (decide (x ≤ 1000)) (brT (decide (-1000 ≤ y)) (.fin (.bool (decide (y ≤ 1000))) []) (.fin (.bool (false)) [])) (.fin (.bool (false)) [])) (.fin (.bool (false)) []) := by kernel_rfl
set_option maxRecDepth 100000 in
theorem tr_IVg (x y : Int) : bodyV Try.prog (tabE B0) 30 8 99 [.v (.agg #[iv x, iv y])] = brT (decide (IntKind.i64.wrap (0 - 1000) ≤ x)) (brT (decide (x ≤ 1000)) (brT (decide (IntKind.i64.wrap (0 - 1000) ≤ y)) (.fin (.bool (decide (y ≤ 1000))) []) (.fin (.bool (false)) [])) (.fin (.bool (false)) [])) (.fin (.bool (false)) []) := by kernel_rfl
theorem res_sVg (x y : Int) : Res Try.prog 98 [.v (.agg #[iv x, iv y])] (.bool (ptB x y)) := by
  refine bodyV_res mixed (tabE_ok B0_ok) (m := 30) (n := 8) rfl ?_
  rw [tr_sVg]
  simp only [brT_ok, Tree.ok, decide_eq_true_eq, decide_eq_false_iff_not]
  repeat' (first | apply And.intro | intro _)
  all_goals (refine vbool_eq ?_; unfold ptB; rw [Bool.eq_iff_iff]; simp; try omega)
theorem res_IVg (x y : Int) : Res Try.prog 99 [.v (.agg #[iv x, iv y])] (.bool (ptB x y)) := by
  refine bodyV_res mixed (tabE_ok B0_ok) (m := 30) (n := 8) rfl ?_
  rw [tr_IVg]
  simp only [brT_ok, Tree.ok, decide_eq_true_eq, decide_eq_false_iff_not, w1000]
  repeat' (first | apply And.intro | intro _)
  all_goals (refine vbool_eq ?_; unfold ptB; rw [Bool.eq_iff_iff]; simp; try omega)
def TG1 : Tab := fun f ds => match f with
  | 98 => pPt ds
  | 99 => pPt ds
  | _ => T1 f ds
theorem pPt_ok {f : FuncId} (h : ∀ x y : Int, Res Try.prog f [.v (.agg #[iv x, iv y])] (.bool (ptB x y))) {ds : List DArg} {v : Value} {C : List Prop} (hd : pPt ds = some (v, C)) : Res Try.prog f ds v := by
  unfold pPt at hd
  split at hd
  · obtain ⟨rfl, rfl⟩ : _ ∧ _ := by simpa using hd
    exact h _ _
  · cases hd
theorem TG1_ok : TabOk Try.prog TG1 := by
  intro f ds v C h hC
  unfold TG1 at h
  (try split at h)
  all_goals first | with_reducible exact pPt_ok res_sVg h | with_reducible exact pPt_ok res_SVg h | with_reducible exact pPt_ok res_IVg h | exact T1_ok _ _ _ _ h hC
end Go.Proofs.Ytolodncpegajkab
namespace Go.Proofs.Ytolodncpegajkab
set_option linter.all false
open Go.RowKit
theorem negTg (b : Bool) : negB true b = !b := by cases b <;> rfl
theorem negFg (b : Bool) : negB false b = b := by cases b <;> rfl
def ngQ (ps : List Pt) (x y : Int) (i : Nat) : Bool := !((ps.getD i (0, 0)).1 == x && (ps.getD i (0, 0)).2 == y)
def fgN (ps : List Pt) (x y : Int) : Nat → Nat → Nat
  | i, 0 => i
  | i, n + 1 => bif ngQ ps x y i then fgN ps x y (i + 1) n else i
theorem fgN_step {ps : List Pt} {x y : Int} {i n : Nat} (h : i < n) : fgN ps x y i (n - i) = bif ngQ ps x y i then fgN ps x y (i + 1) (n - (i + 1)) else i := by
  rw [show n - i = (n - (i + 1)) + 1 by omega]
  rfl
noncomputable def c_toGs : Code := ((loopsOf (codeOf Try.f17))[0]?).getD .skip
def k_toGs : Ex → List Nat := keeps [0, 3, 4] [(0, [3])] [2]
def s_toGs (ps : List Pt) (n : Nat) : Nat × (List Pt) → St := fun (i, qs) => ⟨[.slice (some ⟨0, 0, none⟩) ps.length ps.length, topV, topV, .slice (some ⟨1, 0, none⟩) n n, .int .i64 i, topV, topV, topV, topV, topV, topV, topV, topV, topV, topV, topV, topV, topV, topV, topV, topV, topV, topV], [some ⟨.view, .ints (flat ps)⟩, some ⟨.row 36 2, .ints (flat qs)⟩]⟩
def re_toGs : Nat × (List Pt) → Ex := fun _ => .exit 0
def rs_toGs (ps : List Pt) (n : Nat) : Nat × (List Pt) → St := fun (i, qs) => ⟨[topV, topV, topV, .slice (some ⟨1, 0, none⟩) n n, topV, topV, topV, topV, topV, topV, topV, topV, topV, topV, topV, topV, topV, topV, topV, topV, topV, topV, topV], [some ⟨.view, .ints (flat ps)⟩, some ⟨.row 36 2, .ints (flat ps)⟩]⟩
set_option maxRecDepth 100000 in
theorem tr_toGs (ps : List Pt) (n : Nat) (i : Nat) (qs : List Pt) : bodyL Try.prog EM 30 12 noL 1 c_toGs k_toGs 2 (s_toGs ps n (i, qs)) = brT (decide ((↑i : Int) < (↑ps.length : Int))) (.need ((0 : Int) ≤ (↑i : Int) ∧ (↑i : Int) < (↑ps.length : Int)) (.need ((0 : Nat) + (↑i : Int).toNat * (2 : Nat) + (2 : Nat) ≤ (flat ps).length) (.need ((0 : Int) ≤ (↑i : Int) ∧ (↑i : Int) < (↑n : Int)) (.need ((0 : Nat) + (↑i : Int).toNat * (2 : Nat) + (2 : Nat) ≤ (flat qs).length) (.leaf .normal ⟨[.slice (some ⟨0, 0, none⟩) (ps.length) (ps.length), topV, topV, .slice (some ⟨1, 0, none⟩) (n) (n), .int .i64 (IntKind.i64.wrap ((↑i : Int) + 1)), topV, topV, topV, topV, topV, topV, topV, topV, topV, topV, topV, topV, topV, topV, topV, topV, topV, topV], [some ⟨.view, .ints (flat ps)⟩, some ⟨.row 36 2, .ints (setInts (flat qs) (0 + (↑i : Int).toNat * 2) [(flat ps).getD (0 + (↑i : Int).toNat * 2) 0, (flat ps).getD (0 + (↑i : Int).toNat * 2 + 1) 0])⟩]⟩))))) (.leaf (.exit 0) ⟨[topV, topV, topV, .slice (some ⟨1, 0, none⟩) (n) (n), topV, topV, topV, topV, topV, topV, topV, topV, topV, topV, topV, topV, topV, topV, topV, topV, topV, topV, topV], [some ⟨.view, .ints (flat ps)⟩, some ⟨.row 36 2, .ints (flat qs)⟩]⟩) := by kernel_rfl
set_option maxRecDepth 100000 in
theorem nl_toGs : loopsOf c_toGs = [] := by kernel_rfl
def inv_toGs (ps : List Pt) (n : Nat) : Nat × (List Pt) → Prop := fun (i, qs) => i ≤ ps.length ∧ ps.length = n ∧ qs.length = n ∧ qs.take i = ps.take i
def me_toGs (ps : List Pt) (n : Nat) : Nat × (List Pt) → Nat := fun (i, qs) => ps.length - i
/-- A round of this loop. -/
def Round_toGs (ps : List Pt) (n : Nat) : Prop := ∀ xx : Nat × (List Pt), inv_toGs ps n xx → (bodyL Try.prog EM 30 12 noL 1 c_toGs k_toGs 2 (s_toGs ps n xx)).ok (RoundEnd 2 (s_toGs ps n) (inv_toGs ps n) (me_toGs ps n) re_toGs (rs_toGs ps n) xx) (fun _ _ => False)
def e_toGs (s : St) (k : Ex → St → Tree) : Option Tree := match Nat.beq s.tmps.length 23, pickL s.tmps [0, 3, 4], s.mem with
  | true, [.slice (some ⟨0, 0, none⟩) n _, .slice (some ⟨1, 0, none⟩) m _, .int .i64 i], [some ⟨.view, .ints xs⟩, some ⟨.row 36 2, .ints ys⟩] => some (needs [i = 0, m = n, xs.length = n * 2, ys.length = n * 2, n ≤ 1000000000] (k (.exit 0) ⟨[topV, topV, topV, .slice (some ⟨1, 0, none⟩) m m, topV, topV, topV, topV, topV, topV, topV, topV, topV, topV, topV, topV, topV, topV, topV, topV, topV, topV, topV], [some ⟨.view, .ints xs⟩, some ⟨.row 36 2, .ints xs⟩]⟩))
  | _, _, _ => none
set_option maxRecDepth 100000 in
theorem round_toGs (ps : List Pt) (n : Nat) (h : ps.length ≤ 1000000000) : Round_toGs ps n := by
  rintro ⟨i, qs⟩ ⟨h1, h2, h3, h4⟩
  rw [tr_toGs]
  simp only [brT_ok, Tree.ok, decide_eq_true_eq, decide_eq_false_iff_not, Int.toNat_natCast, Nat.zero_add, flat_length, flat_get0, flat_get1, Cs.size]
  refine ⟨fun hlt => ⟨by omega, by omega, by omega, by omega, ?_⟩, fun hge => ?_⟩
  · rw [wsucc (n := ps.length) (by omega) h, flat_set qs i (by omega)]
    refine ⟨(i + 1, qs.set i (ps.getD i (0, 0))), [], ⟨by omega, h2, by simp [h3], ?_⟩, ?_, rfl, rfl, ?_⟩
    · exact take_set_succ (by omega) (by omega) h4 _
    · show ps.length - (i + 1) < ps.length - i; omega
    · repeat' (first | exact True.intro | exact rfl | exact fun _ => rfl | refine And.intro ?_ ?_)
  · have e : qs = ps := by
      rw [List.take_of_length_le (by omega), List.take_of_length_le (by omega)] at h4
      exact h4
    subst e
    refine ⟨rfl, [], ?_⟩
    repeat' (first | exact True.intro | exact rfl | exact fun _ => rfl | refine And.intro ?_ ?_)
set_option maxRecDepth 100000 in
theorem lg_toGs : LoopE Try.prog e_toGs c_toGs := by
  intro s k t F H hlt ht
  unfold e_toGs at hlt
  split at hlt
  rotate_left
  · cases hlt
  rename_i hlen hpick hmem
  obtain ⟨tmps, mem⟩ := s
  simp only at hlen hpick hmem
  subst hmem
  obtain rfl := Option.some.inj hlt
  obtain ⟨⟨rfl, rfl, h1, h2, h3, _⟩, ht2⟩ := needs_ok ht
  clear ht hlt
  obtain ⟨ps, rfl, rfl⟩ := even_flat h1
  obtain ⟨qs, rfl, hq⟩ := even_flat h2
  refine ⟨_, _, ht2, loop_run mixed EM_ok (s_toGs ps ps.length) (inv_toGs ps ps.length) (me_toGs ps ps.length) re_toGs (rs_toGs ps ps.length) k_toGs (fun _ => rfl) (noLoops nl_toGs) (round_toGs ps ps.length h3) (x := (0, qs)) ⟨Nat.zero_le _, rfl, hq, rfl⟩ (π := []) rfl ?_⟩
  refine ⟨rfl, rfl, ?_, wvs_spread' [0, 3, 4] hlen rfl ?_⟩
  · repeat' (first | exact True.intro | exact rfl | exact wv_top _ _ | exact fun _ => rfl | assumption | exact Eq.symm (by assumption) | exact vI0 rfl | refine And.intro ?_ ?_)
  · rw [hpick]
    repeat' (first | exact True.intro | exact rfl | exact wv_top _ _ | exact fun _ => rfl | assumption | exact Eq.symm (by assumption) | exact vI0 rfl | refine And.intro ?_ ?_)
noncomputable def c_eqGs : Code := ((loopsOf (codeOf Try.f20))[0]?).getD .skip
def k_eqGs : Ex → List Nat := keeps [0, 1, 5] [(0, [])] [4]
def s_eqGs (ps : List Pt) (qs : List Pt) : Nat → St := fun i => ⟨[.slice (some ⟨0, 0, none⟩) ps.length ps.length, .slice (some ⟨1, 0, none⟩) qs.length qs.length, topV, topV, topV, .int .i64 i, topV, topV, topV, topV, topV, topV, topV, topV, topV, topV, topV, topV, topV, topV, topV, topV, topV, topV, topV, topV, topV], [some ⟨.view, .ints (flat ps)⟩, some ⟨.view, .ints (flat qs)⟩]⟩
def re_eqGs (ps : List Pt) (qs : List Pt) : Nat → Ex := fun i => bif decide (ps.drop i = qs.drop i) then .exit 0 else .ret
def rs_eqGs (ps : List Pt) (qs : List Pt) : Nat → St := fun i => bif decide (ps.drop i = qs.drop i) then ⟨[topV, topV, topV, topV, topV, topV, topV, topV, topV, topV, topV, topV, topV, topV, topV, topV, topV, topV, topV, topV, topV, topV, topV, topV, topV, topV, topV], [some ⟨.view, .ints (flat ps)⟩, some ⟨.view, .ints (flat qs)⟩]⟩ else ⟨[topV, topV, topV, topV, .bool false, topV, topV, topV, topV, topV, topV, topV, topV, topV, topV, topV, topV, topV, topV, topV, topV, topV, topV, topV, topV, topV, topV], [some ⟨.view, .ints (flat ps)⟩, some ⟨.view, .ints (flat qs)⟩]⟩
set_option maxRecDepth 100000 in
theorem tr_eqGs (ps : List Pt) (qs : List Pt) (i : Nat) : bodyL Try.prog EM 30 12 noL 1 c_eqGs k_eqGs 2 (s_eqGs ps qs i) = brT (decide ((↑i : Int) < (↑ps.length : Int))) (brT (!(flat ps).getD (0 + (↑i : Int).toNat * 2) 0 == (flat qs).getD (0 + (↑i : Int).toNat * 2) 0) (.need ((0 : Int) ≤ (↑i : Int) ∧ (↑i : Int) < (↑ps.length : Int)) (.need ((0 : Nat) + (↑i : Int).toNat * (2 : Nat) + (2 : Nat) ≤ (flat ps).length) (.need ((0 : Int) ≤ (↑i : Int) ∧ (↑i : Int) < (↑qs.length : Int)) (.need ((0 : Nat) + (↑i : Int).toNat * (2 : Nat) + (2 : Nat) ≤ (flat qs).length) (.leaf .ret ⟨[topV, topV, topV, topV, .bool (false), topV, topV, topV, topV, topV, topV, topV, topV, topV, topV, topV, topV, topV, topV, topV, topV, topV, topV, topV, topV, topV, topV], [some ⟨.view, .ints (flat ps)⟩, some ⟨.view, .ints (flat qs)⟩]⟩))))) (brT (!(flat ps).getD (0 + (↑i : Int).toNat * 2 + 1) 0 == (flat qs).getD (0 + (↑i : Int).toNat * 2 + 1) 0) (.need ((0 : Int) ≤ (↑i : Int) ∧ (↑i : Int) < (↑ps.length : Int)) (.need ((0 : Nat) + (↑i : Int).toNat * (2 : Nat) + (2 : Nat) ≤ (flat ps).length) (.need ((0 : Int) ≤ (↑i : Int) ∧ (↑i : Int) < (↑qs.length : Int)) (.need ((0 : Nat) + (↑i : Int).toNat * (2 : Nat) + (2 : Nat) ≤ (flat qs).length) (.leaf .ret ⟨[topV, topV, topV, topV, .bool (false), topV, topV, topV, topV, topV, topV, topV, topV, topV, topV, topV, topV, topV, topV, topV, topV, topV, topV, topV, topV, topV, topV], [some ⟨.view, .ints (flat ps)⟩, some ⟨.view, .ints (flat qs)⟩]⟩))))) (.need ((0 : Int) ≤ (↑i : Int) ∧ (↑i : Int) < (↑ps.length : Int)) (.need ((0 : Nat) + (↑i : Int).toNat * (2 : Nat) + (2 : Nat) ≤ (flat ps).length) (.need ((0 : Int) ≤ (↑i : Int) ∧ (↑i : Int) < (↑qs.length : Int)) (.need ((0 : Nat) + (↑i : Int).toNat * (2 : Nat) + (2 : Nat) ≤ (flat qs).length) (.leaf .normal ⟨[.slice (some ⟨0, 0, none⟩) (ps.length) (ps.length), .slice (some ⟨1, 0, none⟩) (qs.length) (qs.length), topV, topV, topV, .int .i64 (IntKind.i64.wrap ((↑i : Int) + 1)), topV, topV, topV, topV, topV, topV, topV, topV, topV, topV, topV, topV, topV, topV, topV, topV, topV, topV, topV, topV, topV], [some ⟨.view, .ints (flat ps)⟩, some ⟨.view, .ints (flat qs)⟩]⟩))))))) (.leaf (.exit 0) ⟨[topV, topV, topV, topV, topV, topV, topV, topV, topV, topV, topV, topV, topV, topV, topV, topV, topV, topV, topV, topV, topV, topV, topV, topV, topV, topV, topV], [some ⟨.view, .ints (flat ps)⟩, some ⟨.view, .ints (flat qs)⟩]⟩) := by kernel_rfl
set_option maxRecDepth 100000 in
theorem nl_eqGs : loopsOf c_eqGs = [] := by kernel_rfl
def inv_eqGs (ps : List Pt) (qs : List Pt) : Nat → Prop := fun i => i ≤ ps.length ∧ ps.length = qs.length
def me_eqGs (ps : List Pt) (qs : List Pt) : Nat → Nat := fun i => ps.length - i
/-- A round of this loop. -/
def Round_eqGs (ps : List Pt) (qs : List Pt) : Prop := ∀ xx : Nat, inv_eqGs ps qs xx → (bodyL Try.prog EM 30 12 noL 1 c_eqGs k_eqGs 2 (s_eqGs ps qs xx)).ok (RoundEnd 2 (s_eqGs ps qs) (inv_eqGs ps qs) (me_eqGs ps qs) (re_eqGs ps qs) (rs_eqGs ps qs) xx) (fun _ _ => False)
def e_eqGs (s : St) (k : Ex → St → Tree) : Option Tree := match Nat.beq s.tmps.length 27, pickL s.tmps [0, 1, 5], s.mem with
  | true, [.slice (some ⟨0, 0, none⟩) n _, .slice (some ⟨1, 0, none⟩) m _, .int .i64 i], [some ⟨.view, .ints xs⟩, some ⟨.view, .ints ys⟩] => some (needs [i = 0, m = n, xs.length = n * 2, ys.length = n * 2, n ≤ 1000000000] (brT (eqL (ptsA n xs) (ptsA n ys)) (k (.exit 0) ⟨[topV, topV, topV, topV, topV, topV, topV, topV, topV, topV, topV, topV, topV, topV, topV, topV, topV, topV, topV, topV, topV, topV, topV, topV, topV, topV, topV], [some ⟨.view, .ints xs⟩, some ⟨.view, .ints ys⟩]⟩) (k .ret ⟨[topV, topV, topV, topV, .bool false, topV, topV, topV, topV, topV, topV, topV, topV, topV, topV, topV, topV, topV, topV, topV, topV, topV, topV, topV, topV, topV, topV], [some ⟨.view, .ints xs⟩, some ⟨.view, .ints ys⟩]⟩)))
  | _, _, _ => none
set_option maxRecDepth 100000 in
theorem round_eqGs (ps qs : List Pt) (h : ps.length ≤ 1000000000) : Round_eqGs ps qs := by
  rintro i ⟨h1, h2⟩
  rw [tr_eqGs]
  simp only [brT_ok, Tree.ok, decide_eq_true_eq, decide_eq_false_iff_not, Int.toNat_natCast, Nat.zero_add, flat_length, flat_get0, flat_get1, Bool.not_eq_true', Bool.not_eq_false', beq_iff_eq, beq_eq_false_iff_ne]
  refine ⟨fun hlt => ?_, fun hge => ?_⟩
  · have hd1 := drop_cons (l := ps) (k := i) (by omega) (0, 0)
    have hd2 := drop_cons (l := qs) (k := i) (by omega) (0, 0)
    have ne : ps.getD i (0, 0) ≠ qs.getD i (0, 0) → decide (ps.drop i = qs.drop i) = false := fun hne => by
      rw [hd1, hd2]
      simp only [List.cons.injEq, decide_eq_false_iff_not]
      exact fun h => hne h.1
    refine ⟨fun hv => ⟨by omega, by omega, by omega, by omega, ?_⟩, fun hv => ⟨fun hv2 => ⟨by omega, by omega, by omega, by omega, ?_⟩, fun hv2 => ⟨by omega, by omega, by omega, by omega, ?_⟩⟩⟩
    · have e := ne fun h => hv (by rw [h])
      refine ⟨by simp only [re_eqGs, e, cond_false], [], ?_⟩
      simp only [rs_eqGs, e, cond_false]
      repeat' (first | exact True.intro | exact rfl | exact fun _ => rfl | refine And.intro ?_ ?_)
    · have e := ne fun h => hv2 (by rw [h])
      refine ⟨by simp only [re_eqGs, e, cond_false], [], ?_⟩
      simp only [rs_eqGs, e, cond_false]
      repeat' (first | exact True.intro | exact rfl | exact fun _ => rfl | refine And.intro ?_ ?_)
    · have hp : ps.getD i (0, 0) = qs.getD i (0, 0) := Prod.ext hv hv2
      have e : decide (ps.drop i = qs.drop i) = decide (ps.drop (i + 1) = qs.drop (i + 1)) := by
        rw [hd1, hd2, hp]
        simp
      rw [wsucc (n := ps.length) (by omega) h]
      refine ⟨i + 1, [], ⟨by omega, h2⟩, ?_, by simp only [re_eqGs, e], by simp only [rs_eqGs, e], ?_⟩
      · show ps.length - (i + 1) < ps.length - i; omega
      · repeat' (first | exact True.intro | exact rfl | exact fun _ => rfl | refine And.intro ?_ ?_)
  · have e : decide (ps.drop i = qs.drop i) = true := by rw [List.drop_of_length_le (by omega), List.drop_of_length_le (by omega)]; rfl
    refine ⟨by simp only [re_eqGs, e, cond_true], [], ?_⟩
    simp only [rs_eqGs, e, cond_true]
    repeat' (first | exact True.intro | exact rfl | exact fun _ => rfl | refine And.intro ?_ ?_)
set_option maxRecDepth 100000 in
theorem lg_eqGs : LoopE Try.prog e_eqGs c_eqGs := by
  intro s k t F H hlt ht
  unfold e_eqGs at hlt
  split at hlt
  rotate_left
  · cases hlt
  rename_i hlen hpick hmem
  obtain ⟨tmps, mem⟩ := s
  simp only at hlen hpick hmem
  subst hmem
  obtain rfl := Option.some.inj hlt
  obtain ⟨⟨rfl, rfl, h1, h2, h3, _⟩, ht2⟩ := needs_ok ht
  clear ht hlt
  obtain ⟨ps, rfl, rfl⟩ := even_flat h1
  obtain ⟨qs, rfl, hq⟩ := even_flat h2
  rw [ptsA_flat, ← hq, ptsA_flat] at ht2
  refine ⟨_, _, pick2k ht2, loop_run mixed EM_ok (s_eqGs ps qs) (inv_eqGs ps qs) (me_eqGs ps qs) (re_eqGs ps qs) (rs_eqGs ps qs) k_eqGs (fun _ => rfl) (noLoops nl_eqGs) (round_eqGs ps qs h3) (x := 0) ⟨Nat.zero_le _, hq.symm⟩ (π := []) rfl ?_⟩
  refine ⟨rfl, rfl, ?_, wvs_spread' [0, 1, 5] hlen rfl ?_⟩
  · repeat' (first | exact True.intro | exact rfl | exact wv_top _ _ | exact fun _ => rfl | assumption | exact Eq.symm (by assumption) | exact vI0 rfl | refine And.intro ?_ ?_)
  · rw [hpick]
    repeat' (first | exact True.intro | exact rfl | exact wv_top _ _ | exact fun _ => rfl | assumption | exact Eq.symm (by assumption) | exact vI0 rfl | refine And.intro ?_ ?_)
noncomputable def c_markG : Code := ((loopsOf (codeOf Try.f21))[0]?).getD .skip
def k_markG : Ex → List Nat := keeps [0, 1, 5] [(0, [1])] [4]
def s_markG (n : Nat) (k0 : Int) : Nat × (List Int) → St := fun (i, ys) => ⟨[.slice (some ⟨0, 0, none⟩) n n, .int .i64 (k0 + (i * 2 : Nat)), topV, topV, topV, .int .i64 i, topV, topV, topV, topV, topV, topV, topV, topV, topV, topV, topV, topV, topV, topV, topV, topV, topV, topV, topV, topV, topV], [some ⟨.row 36 2, .ints ys⟩]⟩
def re_markG : Nat × (List Int) → Ex := fun _ => .exit 0
def rs_markG (n : Nat) (k0 : Int) : Nat × (List Int) → St := fun (i, ys) => ⟨[topV, .int .i64 (k0 + (n * 2 : Nat)), topV, topV, topV, topV, topV, topV, topV, topV, topV, topV, topV, topV, topV, topV, topV, topV, topV, topV, topV, topV, topV, topV, topV, topV, topV], [some ⟨.row 36 2, .ints (marks k0 (n * 2))⟩]⟩
set_option maxRecDepth 100000 in
theorem tr_markG (n : Nat) (k0 : Int) (i : Nat) (ys : List Int) : bodyL Try.prog EM 30 12 noL 1 c_markG k_markG 1 (s_markG n k0 (i, ys)) = brT (decide ((↑i : Int) < (↑n : Int))) (.need ((0 : Int) ≤ (↑i : Int) ∧ (↑i : Int) < (↑n : Int)) (.need ((0 : Nat) + (↑i : Int).toNat * (2 : Nat) + (0 : Nat) + (1 : Nat) ≤ ys.length) (.need ((0 : Int) ≤ (↑i : Int) ∧ (↑i : Int) < (↑n : Int)) (.need ((0 : Nat) + (↑i : Int).toNat * (2 : Nat) + (1 : Nat) + (1 : Nat) ≤ (setInts ys ((0 : Nat) + (↑i : Int).toNat * (2 : Nat) + (0 : Nat)) [k0 + (↑(i * (2 : Nat)) : Int)]).length) (.leaf .normal ⟨[.slice (some ⟨0, 0, none⟩) (n) (n), .int .i64 (IntKind.i64.wrap (IntKind.i64.wrap (k0 + (↑(i * 2) : Int) + 1) + 1)), topV, topV, topV, .int .i64 (IntKind.i64.wrap ((↑i : Int) + 1)), topV, topV, topV, topV, topV, topV, topV, topV, topV, topV, topV, topV, topV, topV, topV, topV, topV, topV, topV, topV, topV], [some ⟨.row 36 2, .ints (setInts (setInts ys (0 + (↑i : Int).toNat * 2 + 0) [k0 + (↑(i * 2) : Int)]) (0 + (↑i : Int).toNat * 2 + 1) [IntKind.i64.wrap (k0 + (↑(i * 2) : Int) + 1)])⟩]⟩))))) (.leaf (.exit 0) ⟨[topV, .int .i64 (k0 + (↑(i * 2) : Int)), topV, topV, topV, topV, topV, topV, topV, topV, topV, topV, topV, topV, topV, topV, topV, topV, topV, topV, topV, topV, topV, topV, topV, topV, topV], [some ⟨.row 36 2, .ints (ys)⟩]⟩) := by kernel_rfl
set_option maxRecDepth 100000 in
theorem nl_markG : loopsOf c_markG = [] := by kernel_rfl
def inv_markG (n : Nat) (k0 : Int) : Nat × (List Int) → Prop := fun (i, ys) => i ≤ n ∧ ys.length = n * 2 ∧ ys.take (i * 2) = (marks k0 (n * 2)).take (i * 2)
def me_markG (n : Nat) (k0 : Int) : Nat × (List Int) → Nat := fun (i, ys) => n - i
/-- A round of this loop. -/
def Round_markG (n : Nat) (k0 : Int) : Prop := ∀ xx : Nat × (List Int), inv_markG n k0 xx → (bodyL Try.prog EM 30 12 noL 1 c_markG k_markG 1 (s_markG n k0 xx)).ok (RoundEnd 1 (s_markG n k0) (inv_markG n k0) (me_markG n k0) re_markG (rs_markG n k0) xx) (fun _ _ => False)
def e_markG (s : St) (k : Ex → St → Tree) : Option Tree := match Nat.beq s.tmps.length 27, pickL s.tmps [0, 1, 5], s.mem with
  | true, [.slice (some ⟨0, 0, none⟩) n _, .int .i64 k1, .int .i64 i], [some ⟨.row 36 2, .ints xs⟩] => some (needs [i = 0, xs.length = n * 2, n ≤ 1000000000, 0 ≤ k1 ∧ k1 ≤ 1000000000] (k (.exit 0) ⟨[topV, .int .i64 (k1 + (n * 2 : Nat)), topV, topV, topV, topV, topV, topV, topV, topV, topV, topV, topV, topV, topV, topV, topV, topV, topV, topV, topV, topV, topV, topV, topV, topV, topV], [some ⟨.row 36 2, .ints (marks k1 (n * 2))⟩]⟩))
  | _, _, _ => none
set_option maxRecDepth 100000 in
theorem round_markG (n : Nat) (k0 : Int) (h : n ≤ 1000000000) (hk : 0 ≤ k0 ∧ k0 ≤ 1000000000) : Round_markG n k0 := by
  rintro ⟨i, ys⟩ ⟨h1, h2, h3⟩
  rw [tr_markG]
  simp only [brT_ok, Tree.ok, decide_eq_true_eq, decide_eq_false_iff_not, Int.toNat_natCast, Nat.zero_add, Nat.add_zero]
  refine ⟨fun hlt => ?_, fun hge => ?_⟩
  · rw [wsucc (n := n) (by omega) h, setInts_one _ _ (by omega), setInts_one _ _ (by simp; omega)]
    have e0 : IntKind.i64.wrap (k0 + ((i * 2 : Nat) : Int) + 1) = k0 + ((i * 2 + 1 : Nat) : Int) := by rw [wr (by omega)]; omega
    have e : IntKind.i64.wrap (k0 + ((i * 2 + 1 : Nat) : Int) + 1) = k0 + (((i + 1) * 2 : Nat) : Int) := by rw [wr (by omega)]; omega
    rw [e0, e]
    refine ⟨by omega, by omega, by omega, by simp; omega, (i + 1, (ys.set (i * 2) (k0 + ((i * 2 : Nat) : Int))).set (i * 2 + 1) (k0 + ((i * 2 + 1 : Nat) : Int))), [], ⟨by omega, by simp [h2], ?_⟩, ?_, rfl, rfl, ?_⟩
    · have := take_set_two (l := ys) (m := marks k0 (n * 2)) (i := i) (by omega) (by rw [marks_length]; omega) h3
      rwa [marks_get _ _ _ (by omega), marks_get _ _ _ (by omega)] at this
    · show n - (i + 1) < n - i; omega
    · repeat' (first | exact True.intro | exact rfl | exact fun _ => rfl | refine And.intro ?_ ?_)
  · obtain rfl : i = n := by omega
    have e : ys = marks k0 (i * 2) := by
      rw [List.take_of_length_le (by omega), List.take_of_length_le (by rw [marks_length]; omega)] at h3
      exact h3
    subst e
    refine ⟨rfl, [], ?_⟩
    repeat' (first | exact True.intro | exact rfl | exact fun _ => rfl | refine And.intro ?_ ?_)
set_option maxRecDepth 100000 in
theorem lg_markG : LoopE Try.prog e_markG c_markG := by
  intro s k t F H hlt ht
  unfold e_markG at hlt
  split at hlt
  rotate_left
  · cases hlt
  rename_i hlen hpick hmem
  obtain ⟨tmps, mem⟩ := s
  simp only at hlen hpick hmem
  subst hmem
  obtain rfl := Option.some.inj hlt
  obtain ⟨⟨rfl, h1, h2, h3, _⟩, ht2⟩ := needs_ok ht
  clear ht hlt
  refine ⟨_, _, ht2, loop_run mixed EM_ok (s_markG _ _) (inv_markG _ _) (me_markG _ _) re_markG (rs_markG _ _) k_markG (fun _ => rfl) (noLoops nl_markG) (round_markG _ _ h2 h3) (x := (0, _)) ⟨Nat.zero_le _, h1, rfl⟩ (π := []) rfl ?_⟩
  refine ⟨rfl, rfl, ?_, wvs_spread' [0, 1, 5] hlen rfl ?_⟩
  · repeat' (first | exact True.intro | exact rfl | exact wv_top _ _ | exact fun _ => rfl | assumption | exact Eq.symm (by assumption) | exact vI0 rfl | refine And.intro ?_ ?_)
  · rw [hpick]
    repeat' (first | exact True.intro | exact rfl | exact wv_top _ _ | exact fun _ => rfl | assumption | exact Eq.symm (by assumption) | exact vI0 rfl | refine And.intro ?_ ?_)
noncomputable def c_sxG : Code := ((loopsOf (codeOf Try.f60))[0]?).getD .skip
def k_sxG : Ex → List Nat := keeps [0, 3, 7, 8] [(0, [])] [4]
def s_sxG (ps : List Pt) (x y : Int) : Nat → St := fun i => ⟨[.slice (some ⟨0, 0, none⟩) ps.length ps.length, topV, topV, .pointer (some ⟨2, 0, none⟩), topV, topV, topV, .int .i64 ps.length, .int .i64 i, topV, topV, topV, topV, topV, topV, topV, topV, topV, topV], [some ⟨.view, .ints (flat ps)⟩, none, some ⟨.box, .vals [.int .i64 x, .int .i64 y]⟩]⟩
def re_sxG (ps : List Pt) (x y : Int) : Nat → Ex := fun i => bif allQ (ngQ ps x y) i (ps.length - i) then .exit 0 else .ret
def rs_sxG (ps : List Pt) (x y : Int) : Nat → St := fun i => bif allQ (ngQ ps x y) i (ps.length - i) then ⟨[topV, topV, topV, topV, topV, topV, topV, topV, topV, topV, topV, topV, topV, topV, topV, topV, topV, topV, topV], [some ⟨.view, .ints (flat ps)⟩, none, some ⟨.box, .vals [.int .i64 x, .int .i64 y]⟩]⟩ else ⟨[topV, topV, topV, topV, .int .i64 (fgN ps x y i (ps.length - i) : Nat), topV, topV, topV, topV, topV, topV, topV, topV, topV, topV, topV, topV, topV, topV], [some ⟨.view, .ints (flat ps)⟩, none, some ⟨.box, .vals [.int .i64 x, .int .i64 y]⟩]⟩
set_option maxRecDepth 100000 in
theorem tr_sxG (ps : List Pt) (x y : Int) (i : Nat) : bodyL Try.prog EM 30 12 noL 1 c_sxG k_sxG 3 (s_sxG ps x y i) = brT (decide ((↑i : Int) < (↑ps.length : Int))) (.need ((0 : Int) ≤ (↑i : Int) ∧ (↑i : Int) < (↑ps.length : Int)) (.need ((0 : Nat) + (↑i : Int).toNat * (2 : Nat) + (2 : Nat) ≤ (flat ps).length) (brT (negB false (x == (flat ps).getD (0 + (↑i : Int).toNat * 2) 0 && (y == (flat ps).getD (0 + (↑i : Int).toNat * 2 + 1) 0 && true))) (.leaf .ret ⟨[topV, topV, topV, topV, .int .i64 ((↑i : Int)), topV, topV, topV, topV, topV, topV, topV, topV, topV, topV, topV, topV, topV, topV], [some ⟨.view, .ints (flat ps)⟩, none, some ⟨.box, .vals [.int .i64 (x), .int .i64 (y)]⟩]⟩) (.leaf .normal ⟨[.slice (some ⟨0, 0, none⟩) (ps.length) (ps.length), topV, topV, .pointer (some ⟨2, 0, none⟩), topV, topV, topV, .int .i64 ((↑ps.length : Int)), .int .i64 (IntKind.i64.wrap ((↑i : Int) + 1)), topV, topV, topV, topV, topV, topV, topV, topV, topV, topV], [some ⟨.view, .ints (flat ps)⟩, none, some ⟨.box, .vals [.int .i64 (x), .int .i64 (y)]⟩]⟩)))) (.leaf (.exit 0) ⟨[topV, topV, topV, topV, topV, topV, topV, topV, topV, topV, topV, topV, topV, topV, topV, topV, topV, topV, topV], [some ⟨.view, .ints (flat ps)⟩, none, some ⟨.box, .vals [.int .i64 (x), .int .i64 (y)]⟩]⟩) := by kernel_rfl
set_option maxRecDepth 100000 in
theorem nl_sxG : loopsOf c_sxG = [] := by kernel_rfl
def inv_sxG (ps : List Pt) (x y : Int) : Nat → Prop := fun i => i ≤ ps.length
def me_sxG (ps : List Pt) (x y : Int) : Nat → Nat := fun i => ps.length - i
/-- A round of this loop. -/
def Round_sxG (ps : List Pt) (x y : Int) : Prop := ∀ xx : Nat, inv_sxG ps x y xx → (bodyL Try.prog EM 30 12 noL 1 c_sxG k_sxG 3 (s_sxG ps x y xx)).ok (RoundEnd 3 (s_sxG ps x y) (inv_sxG ps x y) (me_sxG ps x y) (re_sxG ps x y) (rs_sxG ps x y) xx) (fun _ _ => False)
def e_sxG (s : St) (k : Ex → St → Tree) : Option Tree := match Nat.beq s.tmps.length 19, pickL s.tmps [0, 3, 7, 8], s.mem with
  | true, [.slice (some ⟨0, 0, none⟩) n _, .pointer (some ⟨2, 0, none⟩), .int .i64 n1, .int .i64 i], [some ⟨.view, .ints xs⟩, none, some ⟨.box, .vals [.int .i64 x, .int .i64 y]⟩] => some (needs [i = 0, n1 = (n : Int), xs.length = n * 2, n ≤ 1000000000] (brT (allQ (ngQ (ptsA n xs) x y) 0 n) (k (.exit 0) ⟨[topV, topV, topV, topV, topV, topV, topV, topV, topV, topV, topV, topV, topV, topV, topV, topV, topV, topV, topV], [some ⟨.view, .ints xs⟩, none, some ⟨.box, .vals [.int .i64 x, .int .i64 y]⟩]⟩) (k .ret ⟨[topV, topV, topV, topV, .int .i64 (fgN (ptsA n xs) x y 0 n : Nat), topV, topV, topV, topV, topV, topV, topV, topV, topV, topV, topV, topV, topV, topV], [some ⟨.view, .ints xs⟩, none, some ⟨.box, .vals [.int .i64 x, .int .i64 y]⟩]⟩)))
  | _, _, _ => none
set_option maxRecDepth 100000 in
theorem round_sxG (ps : List Pt) (x y : Int) (h : ps.length ≤ 1000000000) : Round_sxG ps x y := by
  intro i h1
  have h1 : i ≤ ps.length := h1
  rw [tr_sxG]
  simp only [Int.toNat_natCast, Nat.zero_add, Nat.add_zero, flat_length, flat_get0, flat_get1]
  refine brT_ok.2 ⟨fun hlt => ?_, fun hge => ?_⟩
  · have hlt := of_decide_eq_true hlt
    have hi : i < ps.length := by omega
    have st := allQ_step (P := ngQ ps x y) (i := i) (n := ps.length) hi
    have sf := fgN_step (ps := ps) (x := x) (y := y) (i := i) (n := ps.length) hi
    have hn : ngQ ps x y i = !((ps.getD i (0, 0)).1 == x && (ps.getD i (0, 0)).2 == y) := rfl
    rw [wsucc (n := ps.length) hi h]
    have hc : ngQ ps x y i = !(x == (ps.getD i (0, 0)).1 && y == (ps.getD i (0, 0)).2) := by
      rw [hn, BEq.comm (a := x), BEq.comm (a := y)]
    generalize ps.getD i (0, 0) = p at *
    rcases g1 : x == p.1 with _ | _ <;> rcases g2 : y == p.2 with _ | _
    all_goals
      rw [g1, g2] at hc
      rw [hc] at st sf
      simp only [g1, g2, negTg, negFg, brT_t, brT_f, Bool.not_true, Bool.not_false, Bool.and_true, Bool.and_false, Bool.true_and, Bool.false_and, cond_true, cond_false, Tree.ok] at st sf ⊢
      repeat (refine And.intro (by omega) ?_)
    iterate 3
      refine ⟨i + 1, [], ?_, ?_, by simp only [re_sxG, st], by simp only [rs_sxG, st, sf], ?_⟩
      · show i + 1 ≤ ps.length; omega
      · show ps.length - (i + 1) < ps.length - i; omega
      · repeat' (first | exact True.intro | exact rfl | exact fun _ => rfl | refine And.intro ?_ ?_)
    refine ⟨by simp only [re_sxG, st, cond_false], [], ?_⟩
    simp only [rs_sxG, st, sf, cond_false]
    repeat' (first | exact True.intro | exact rfl | exact fun _ => rfl | refine And.intro ?_ ?_)
  · have hge := of_decide_eq_false hge
    have e : allQ (ngQ ps x y) i (ps.length - i) = true := allQ_end (by omega)
    refine ⟨by simp only [re_sxG, e, cond_true], [], ?_⟩
    simp only [rs_sxG, e, cond_true]
    repeat' (first | exact True.intro | exact rfl | exact fun _ => rfl | refine And.intro ?_ ?_)
set_option maxRecDepth 100000 in
theorem lg_sxG : LoopE Try.prog e_sxG c_sxG := by
  intro s k t F H hlt ht
  unfold e_sxG at hlt
  split at hlt
  rotate_left
  · cases hlt
  rename_i hlen hpick hmem
  obtain ⟨tmps, mem⟩ := s
  simp only at hlen hpick hmem
  subst hmem
  obtain rfl := Option.some.inj hlt
  obtain ⟨⟨rfl, rfl, h1, h2, _⟩, ht2⟩ := needs_ok ht
  clear ht hlt
  obtain ⟨ps, rfl, rfl⟩ := even_flat h1
  rw [ptsA_flat] at ht2
  refine ⟨_, _, pick2k ht2, loop_run mixed EM_ok (s_sxG ps _ _) (inv_sxG ps _ _) (me_sxG ps _ _) (re_sxG ps _ _) (rs_sxG ps _ _) k_sxG (fun _ => rfl) (noLoops nl_sxG) (round_sxG ps _ _ h2) (x := 0) (Nat.zero_le _) (π := []) rfl ?_⟩
  refine ⟨rfl, rfl, ?_, wvs_spread' [0, 3, 7, 8] hlen rfl ?_⟩
  · repeat' (first | exact True.intro | exact rfl | exact wv_top _ _ | exact fun _ => rfl | assumption | exact Eq.symm (by assumption) | exact vI0 rfl | refine And.intro ?_ ?_)
  · rw [hpick]
    repeat' (first | exact True.intro | exact rfl | exact wv_top _ _ | exact fun _ => rfl | assumption | exact Eq.symm (by assumption) | exact vI0 rfl | refine And.intro ?_ ?_)
end Go.Proofs.Ytolodncpegajkab
namespace Go.Proofs.Ytolodncpegajkab
set_option linter.all false
open Go.RowKit
theorem Lr_toGs {fn : Func} (hf : Try.prog.funcs[17]? = some fn) : LoopsGood Try.prog (lt1 e_toGs) 0 (codeOf fn) := by
  obtain rfl := fn_is Try.func17 hf
  exact lt1_good lg_toGs
theorem Lr_eqGs {fn : Func} (hf : Try.prog.funcs[20]? = some fn) : LoopsGood Try.prog (lt1 e_eqGs) 0 (codeOf fn) := by
  obtain rfl := fn_is Try.func20 hf
  exact lt1_good lg_eqGs
theorem Lr_markG {fn : Func} (hf : Try.prog.funcs[21]? = some fn) : LoopsGood Try.prog (lt1 e_markG) 0 (codeOf fn) := by
  obtain rfl := fn_is Try.func21 hf
  exact lt1_good lg_markG
theorem Lr_sxG {fn : Func} (hf : Try.prog.funcs[60]? = some fn) : LoopsGood Try.prog (lt1 e_sxG) 0 (codeOf fn) := by
  obtain rfl := fn_is Try.func60 hf
  exact lt1_good lg_sxG
def LGs : FuncId → LT := fun f => match f with
  | 17 => lt1 e_toGs
  | 20 => lt1 e_eqGs
  | 21 => lt1 e_markG
  | 60 => lt1 e_sxG
  | _ => noL
def EGs : Env := mkE TG1 (fun _ _ => none) LGs
theorem EGs_ok : EnvOk Try.prog EGs := mkEOk TG1_ok (fun _ _ _ _ _ h => (by cases h)) (by
  intro f fn hf
  unfold LGs
  split
  all_goals first | with_reducible exact Lr_toGs hf | with_reducible exact Lr_eqGs hf | with_reducible exact Lr_markG hf | with_reducible exact Lr_sxG hf | exact noL_good)
set_option maxRecDepth 100000 in
theorem tr_toGF (ps : List Pt) : bodyX Try.prog EGs 30 12 17 [.row ps.length (.ints (flat ps))] = .need ((0 : Int) ≤ (↑ps.length : Int) ∧ (↑ps.length : Int) ≤ (↑ps.length : Int) ∧ (16 : Nat) * (↑ps.length : Int).toNat ≤ (281474976710656 : Nat) ∧ (↑ps.length : Int) ≤ (9223372036854775807 : Int)) (.need ((0 : Int) = (0 : Int)) (.need ((↑ps.length : Int).toNat = ps.length) (.need ((flat ps).length = ps.length * (2 : Nat)) (.need ((List.replicate ((↑ps.length : Int).toNat * (2 : Nat)) (0 : Int)).length = ps.length * (2 : Nat)) (.need (ps.length ≤ (1000000000 : Nat)) (.fin (.slice (some ⟨1, 0, none⟩) ((↑ps.length : Int).toNat) ((↑ps.length : Int).toNat)) [some ⟨.view, .ints (flat ps)⟩, some ⟨.row 36 2, .ints (flat ps)⟩])))))) := by kernel_rfl
set_option maxRecDepth 100000 in
theorem tr_siG (ps : List Pt) (x y : Int) : bodyV Try.prog EGs 30 12 60 [.row ps.length (.ints (flat ps)), .v (.agg ⟨[.int .i64 x, .int .i64 y]⟩)] = .need ((0 : Int) = (0 : Int)) (.need ((↑ps.length : Int) = (↑ps.length : Int)) (.need ((flat ps).length = ps.length * (2 : Nat)) (.need (ps.length ≤ (1000000000 : Nat)) (brT (allQ (ngQ (ptsA ps.length (flat ps)) x y) 0 ps.length) (.fin (.int .i64 (-1)) []) (.fin (.int .i64 ((↑(fgN (ptsA ps.length (flat ps)) x y 0 ps.length) : Int))) []))))) := by kernel_rfl
theorem resR_toG (ps : List Pt) (h : Big ps) : ResR Try.prog 17 [.row ps.length (.ints (flat ps))] (.slice (some ⟨0, 0, none⟩) ps.length ps.length) ⟨.row 36 2, .ints (flat ps)⟩ := by
  refine bodyX_resR mixed EGs_ok (m := 30) (n := 12) rfl ?_
  rw [tr_toGF]
  unfold Big at h
  simp only [Tree.ok, flat_length, Int.toNat_natCast, List.length_replicate]
  exact ⟨by omega, trivial, trivial, trivial, trivial, h, some 1, ⟨rfl, rfl, rfl⟩, rfl, rfl, rfl⟩
/-- Where a graph stands first. -/
def ixG (ps : List Pt) (x y : Int) : Int := bif allQ (ngQ ps x y) 0 ps.length then -1 else (fgN ps x y 0 ps.length : Nat)
theorem res_siG (x y : Int) (ps : List Pt) (h : Big ps) : Res Try.prog 60 [.row ps.length (.ints (flat ps)), .v (.agg ⟨[.int .i64 x, .int .i64 y]⟩)] (.int .i64 (ixG ps x y)) := by
  refine bodyV_res mixed EGs_ok (m := 30) (n := 12) rfl ?_
  rw [tr_siG]
  unfold Big at h
  simp only [ptsA_flat]
  unfold ixG
  rcases hq : allQ (ngQ ps x y) 0 ps.length with _ | _
  all_goals exact ⟨trivial, trivial, flat_length ps, h, rfl⟩
def pSiG : List DArg → Option (Value × List Prop)
  | [.row m (.ints xs), .v (.agg ⟨[.int .i64 x, .int .i64 y]⟩)] => some (.int .i64 (ixG (ptsA m xs) x y), [m * 2 ≤ xs.length, m ≤ 1000000000])
  | _ => none
theorem pSiG_ok {ds : List DArg} {v : Value} {C : List Prop} (h : pSiG ds = some (v, C)) (hC : AllP C) : Res Try.prog 60 ds v := by
  unfold pSiG at h
  split at h
  · rename_i m xs x y
    obtain ⟨rfl, rfl⟩ : _ ∧ _ := by simpa using h
    obtain ⟨_, h2⟩ := ptsA_spec hC.1
    exact res_pts1 (pre := []) (post := [.v (.agg ⟨[.int .i64 x, .int .i64 y]⟩)]) hC.1 (res_siG x y (ptsA m xs) (by unfold Big; rw [h2]; exact hC.2.1))
  · cases h
def TGi : Tab := fun f ds => match f with
  | 60 => pSiG ds
  | f => TG1 f ds
theorem TGi_ok : TabOk Try.prog TGi := by
  intro f ds v C h hC
  unfold TGi at h
  (try split at h)
  all_goals first | with_reducible exact pSiG_ok h hC | exact TG1_ok _ _ _ _ h hC
set_option maxRecDepth 100000 in
theorem tr_scG (ps : List Pt) (x y : Int) : bodyV Try.prog (tabE TGi) 30 12 100 [.row ps.length (.ints (flat ps)), .v (.agg ⟨[.int .i64 x, .int .i64 y]⟩)] = .need (ps.length * (2 : Nat) ≤ (List.drop (0 : Nat) (flat ps)).length) (.need (ps.length ≤ (1000000000 : Nat)) (.fin (.bool (decide (0 ≤ ixG (ptsA ps.length (List.drop 0 (flat ps))) x y))) [])) := by kernel_rfl
theorem res_scG (x y : Int) (ps : List Pt) (h : Big ps) : Res Try.prog 100 [.row ps.length (.ints (flat ps)), .v (.agg ⟨[.int .i64 x, .int .i64 y]⟩)] (.bool (!(allQ (ngQ ps x y) 0 ps.length))) := by
  refine bodyV_res mixed (tabE_ok TGi_ok) (m := 30) (n := 12) rfl ?_
  rw [tr_scG]
  unfold Big at h
  simp only [List.drop_zero, ptsA_flat, flat_length]
  refine ⟨Nat.le_refl _, h, ?_⟩
  show Value.bool _ = Value.bool _
  rw [Value.bool.injEq]
  unfold ixG
  rcases allQ (ngQ ps x y) 0 ps.length with _ | _
  · exact decide_eq_true (by simp only [cond_false]; omega)
  · exact decide_eq_false (by simp only [cond_true]; omega)
def pScG : List DArg → Option (Value × List Prop)
  | [.row m (.ints xs), .v (.agg ⟨[.int .i64 x, .int .i64 y]⟩)] => some (.bool (!(allQ (ngQ (ptsA m xs) x y) 0 (ptsA m xs).length)), [m * 2 ≤ xs.length, m ≤ 1000000000])
  | _ => none
theorem pScG_ok {ds : List DArg} {v : Value} {C : List Prop} (h : pScG ds = some (v, C)) (hC : AllP C) : Res Try.prog 100 ds v := by
  unfold pScG at h
  split at h
  · rename_i m xs x y
    obtain ⟨rfl, rfl⟩ : _ ∧ _ := by simpa using h
    obtain ⟨_, h2⟩ := ptsA_spec hC.1
    exact res_pts1 (pre := []) (post := [.v (.agg ⟨[.int .i64 x, .int .i64 y]⟩)]) hC.1 (res_scG x y (ptsA m xs) (by unfold Big; rw [h2]; exact hC.2.1))
  · cases h
def TGc : Tab := fun f ds => match f with
  | 100 => pScG ds
  | f => TGi f ds
theorem TGc_ok : TabOk Try.prog TGc := by
  intro f ds v C h hC
  unfold TGc at h
  (try split at h)
  all_goals first | with_reducible exact pScG_ok h hC | exact TGi_ok _ _ _ _ h hC
def EGc : Env := mkE TGc (fun _ _ => none) (fun _ => noL)
theorem EGc_ok : EnvOk Try.prog EGc := mkEOk TGc_ok (fun _ _ _ _ _ h => (by cases h)) (fun _ _ _ => noL_good)
def gG (ps : List Pt) (i : Nat) : Pt := ps.getD i (0, 0)
/-- Is a graph none of the first ones? -/
def dfQ (ps : List Pt) (i k : Nat) : Bool := !(decide (gG ps k = gG ps i))
def vgQ (ps : List Pt) (i : Nat) : Bool := ptB (gG ps i).1 (gG ps i).2 && allQ (dfQ ps i) 0 i
noncomputable def c_svI : Code := ((loopsOf (codeOf Try.f51))[1]?).getD .skip
def k_svI : Ex → List Nat := keeps [0, 3, 4] [(2, [0, 3])] [2]
def s_svI (ps : List Pt) (i : Nat) : Nat → St := fun k => ⟨(.slice (some ⟨0, 0, none⟩) ps.length ps.length :: topV :: topV :: .int .i64 i :: .int .i64 k :: topV :: topV :: topV :: topV :: topV :: topV :: topV :: topV :: topV :: topV :: topV :: topV :: topV :: topV :: topV :: topV :: topV :: topV :: topV :: topV :: topV :: topV :: topV :: topV :: topV :: topV :: topV :: topV :: topV :: []), [some ⟨.view, .ints (flat ps)⟩]⟩
def re_svI (ps : List Pt) (i : Nat) : Nat → Ex := fun k => bif allQ (dfQ ps i) k (i - k) then .exit 2 else .ret
def rs_svI (ps : List Pt) (i : Nat) : Nat → St := fun k => bif allQ (dfQ ps i) k (i - k) then ⟨(.slice (some ⟨0, 0, none⟩) ps.length ps.length :: topV :: topV :: .int .i64 i :: topV :: topV :: topV :: topV :: topV :: topV :: topV :: topV :: topV :: topV :: topV :: topV :: topV :: topV :: topV :: topV :: topV :: topV :: topV :: topV :: topV :: topV :: topV :: topV :: topV :: topV :: topV :: topV :: topV :: topV :: []), [some ⟨.view, .ints (flat ps)⟩]⟩ else ⟨(topV :: topV :: .bool false :: topV :: topV :: topV :: topV :: topV :: topV :: topV :: topV :: topV :: topV :: topV :: topV :: topV :: topV :: topV :: topV :: topV :: topV :: topV :: topV :: topV :: topV :: topV :: topV :: topV :: topV :: topV :: topV :: topV :: topV :: topV :: []), [some ⟨.view, .ints (flat ps)⟩]⟩
set_option maxRecDepth 100000 in
theorem tr_svI (ps : List Pt) (i : Nat) (k : Nat) : bodyL Try.prog EGc 30 12 noL 2 c_svI k_svI 1 (s_svI ps i k) = brT (decide ((↑k : Int) < (↑i : Int))) (.need ((0 : Int) ≤ (↑k : Int) ∧ (↑k : Int) < (↑ps.length : Int)) (.need ((0 : Nat) + (↑k : Int).toNat * (2 : Nat) + (2 : Nat) ≤ (flat ps).length) (.need ((0 : Int) ≤ (↑i : Int) ∧ (↑i : Int) < (↑ps.length : Int)) (.need ((0 : Nat) + (↑i : Int).toNat * (2 : Nat) + (2 : Nat) ≤ (flat ps).length) (brT (negB false ((flat ps).getD (0 + (↑k : Int).toNat * 2) 0 == (flat ps).getD (0 + (↑i : Int).toNat * 2) 0 && ((flat ps).getD (0 + (↑k : Int).toNat * 2 + 1) 0 == (flat ps).getD (0 + (↑i : Int).toNat * 2 + 1) 0 && true))) (.leaf .ret ⟨(topV :: topV :: .bool (false) :: topV :: topV :: topV :: topV :: topV :: topV :: topV :: topV :: topV :: topV :: topV :: topV :: topV :: topV :: topV :: topV :: topV :: topV :: topV :: topV :: topV :: topV :: topV :: topV :: topV :: topV :: topV :: topV :: topV :: topV :: topV :: []), [some ⟨.view, .ints (flat ps)⟩]⟩) (.leaf .normal ⟨(.slice (some ⟨0, 0, none⟩) (ps.length) (ps.length) :: topV :: topV :: .int .i64 ((↑i : Int)) :: .int .i64 (IntKind.i64.wrap ((↑k : Int) + 1)) :: topV :: topV :: topV :: topV :: topV :: topV :: topV :: topV :: topV :: topV :: topV :: topV :: topV :: topV :: topV :: topV :: topV :: topV :: topV :: topV :: topV :: topV :: topV :: topV :: topV :: topV :: topV :: topV :: topV :: []), [some ⟨.view, .ints (flat ps)⟩]⟩)))))) (.leaf (.exit 2) ⟨(.slice (some ⟨0, 0, none⟩) (ps.length) (ps.length) :: topV :: topV :: .int .i64 ((↑i : Int)) :: topV :: topV :: topV :: topV :: topV :: topV :: topV :: topV :: topV :: topV :: topV :: topV :: topV :: topV :: topV :: topV :: topV :: topV :: topV :: topV :: topV :: topV :: topV :: topV :: topV :: topV :: topV :: topV :: topV :: topV :: []), [some ⟨.view, .ints (flat ps)⟩]⟩) := by kernel_rfl
set_option maxRecDepth 100000 in
theorem nl_svI : loopsOf c_svI = [] := by kernel_rfl
def inv_svI (ps : List Pt) (i : Nat) : Nat → Prop := fun k => k ≤ i
def me_svI (ps : List Pt) (i : Nat) : Nat → Nat := fun k => i - k
/-- A round of this loop. -/
def Round_svI (ps : List Pt) (i : Nat) : Prop := ∀ xx : Nat, inv_svI ps i xx → (bodyL Try.prog EGc 30 12 noL 2 c_svI k_svI 1 (s_svI ps i xx)).ok (RoundEnd 1 (s_svI ps i) (inv_svI ps i) (me_svI ps i) (re_svI ps i) (rs_svI ps i) xx) (fun _ _ => False)
def e_svI (s : St) (k : Ex → St → Tree) : Option Tree := match Nat.beq s.tmps.length 34, pickL s.tmps [0, 3, 4], s.mem with
  | true, [.slice (some ⟨0, 0, none⟩) n _, .int .i64 ii, .int .i64 kk], [some ⟨.view, .ints xs⟩] => some (needs [kk = 0, 0 ≤ ii ∧ ii < n, xs.length = n * 2, n ≤ 1000000000] (brT (allQ (dfQ (ptsA n xs) ii.toNat) 0 ii.toNat) (k (.exit 2) ⟨(.slice (some ⟨0, 0, none⟩) n n :: topV :: topV :: .int .i64 ii :: topV :: topV :: topV :: topV :: topV :: topV :: topV :: topV :: topV :: topV :: topV :: topV :: topV :: topV :: topV :: topV :: topV :: topV :: topV :: topV :: topV :: topV :: topV :: topV :: topV :: topV :: topV :: topV :: topV :: topV :: []), [some ⟨.view, .ints xs⟩]⟩) (k .ret ⟨(topV :: topV :: .bool false :: topV :: topV :: topV :: topV :: topV :: topV :: topV :: topV :: topV :: topV :: topV :: topV :: topV :: topV :: topV :: topV :: topV :: topV :: topV :: topV :: topV :: topV :: topV :: topV :: topV :: topV :: topV :: topV :: topV :: topV :: topV :: []), [some ⟨.view, .ints xs⟩]⟩)))
  | _, _, _ => none
def ltSv : LT := fun j s k => match j with
  | 1 => e_svI s k
  | _ => none
noncomputable def c_svO : Code := ((loopsOf (codeOf Try.f51))[0]?).getD .skip
def k_svO : Ex → List Nat := keeps [0, 3] [(0, [0])] [2]
def s_svO (ps : List Pt) : Nat → St := fun i => ⟨(.slice (some ⟨0, 0, none⟩) ps.length ps.length :: topV :: topV :: .int .i64 i :: topV :: topV :: topV :: topV :: topV :: topV :: topV :: topV :: topV :: topV :: topV :: topV :: topV :: topV :: topV :: topV :: topV :: topV :: topV :: topV :: topV :: topV :: topV :: topV :: topV :: topV :: topV :: topV :: topV :: topV :: []), [some ⟨.view, .ints (flat ps)⟩]⟩
def re_svO (ps : List Pt) : Nat → Ex := fun i => bif allQ (vgQ ps) i (ps.length - i) then .exit 0 else .ret
def rs_svO (ps : List Pt) : Nat → St := fun i => bif allQ (vgQ ps) i (ps.length - i) then ⟨(.slice (some ⟨0, 0, none⟩) ps.length ps.length :: topV :: topV :: topV :: topV :: topV :: topV :: topV :: topV :: topV :: topV :: topV :: topV :: topV :: topV :: topV :: topV :: topV :: topV :: topV :: topV :: topV :: topV :: topV :: topV :: topV :: topV :: topV :: topV :: topV :: topV :: topV :: topV :: topV :: []), [some ⟨.view, .ints (flat ps)⟩]⟩ else ⟨(topV :: topV :: .bool false :: topV :: topV :: topV :: topV :: topV :: topV :: topV :: topV :: topV :: topV :: topV :: topV :: topV :: topV :: topV :: topV :: topV :: topV :: topV :: topV :: topV :: topV :: topV :: topV :: topV :: topV :: topV :: topV :: topV :: topV :: topV :: []), [some ⟨.view, .ints (flat ps)⟩]⟩
set_option maxRecDepth 100000 in
theorem tr_svO (ps : List Pt) (i : Nat) : bodyL Try.prog EGc 30 12 ltSv 1 c_svO k_svO 1 (s_svO ps i) = brT (decide ((↑i : Int) < (↑ps.length : Int))) (.need ((0 : Int) ≤ (↑i : Int) ∧ (↑i : Int) < (↑ps.length : Int)) (.need ((0 : Nat) + (↑i : Int).toNat * (2 : Nat) + (2 : Nat) ≤ (flat ps).length) (brT (!ptB ((flat ps).getD (0 + (↑i : Int).toNat * 2) 0) ((flat ps).getD (0 + (↑i : Int).toNat * 2 + 1) 0)) (.leaf .ret ⟨(topV :: topV :: .bool (false) :: topV :: topV :: topV :: topV :: topV :: topV :: topV :: topV :: topV :: topV :: topV :: topV :: topV :: topV :: topV :: topV :: topV :: topV :: topV :: topV :: topV :: topV :: topV :: topV :: topV :: topV :: topV :: topV :: topV :: topV :: topV :: []), [some ⟨.view, .ints (flat ps)⟩]⟩) (.need ((0 : Int) = (0 : Int)) (.need ((0 : Int) ≤ (↑i : Int) ∧ (↑i : Int) < (↑ps.length : Int)) (.need ((flat ps).length = ps.length * (2 : Nat)) (.need (ps.length ≤ (1000000000 : Nat)) (brT (allQ (dfQ (ptsA ps.length (flat ps)) (↑i : Int).toNat) 0 (↑i : Int).toNat) (.leaf .normal ⟨(.slice (some ⟨0, 0, none⟩) (ps.length) (ps.length) :: topV :: topV :: .int .i64 (IntKind.i64.wrap ((↑i : Int) + 1)) :: topV :: topV :: topV :: topV :: topV :: topV :: topV :: topV :: topV :: topV :: topV :: topV :: topV :: topV :: topV :: topV :: topV :: topV :: topV :: topV :: topV :: topV :: topV :: topV :: topV :: topV :: topV :: topV :: topV :: topV :: []), [some ⟨.view, .ints (flat ps)⟩]⟩) (.leaf .ret ⟨(topV :: topV :: .bool (false) :: topV :: topV :: topV :: topV :: topV :: topV :: topV :: topV :: topV :: topV :: topV :: topV :: topV :: topV :: topV :: topV :: topV :: topV :: topV :: topV :: topV :: topV :: topV :: topV :: topV :: topV :: topV :: topV :: topV :: topV :: topV :: []), [some ⟨.view, .ints (flat ps)⟩]⟩))))))))) (.leaf (.exit 0) ⟨(.slice (some ⟨0, 0, none⟩) (ps.length) (ps.length) :: topV :: topV :: topV :: topV :: topV :: topV :: topV :: topV :: topV :: topV :: topV :: topV :: topV :: topV :: topV :: topV :: topV :: topV :: topV :: topV :: topV :: topV :: topV :: topV :: topV :: topV :: topV :: topV :: topV :: topV :: topV :: topV :: topV :: []), [some ⟨.view, .ints (flat ps)⟩]⟩) := by kernel_rfl
def inv_svO (ps : List Pt) : Nat → Prop := fun i => i ≤ ps.length
def me_svO (ps : List Pt) : Nat → Nat := fun i => ps.length - i
/-- A round of this loop. -/
def Round_svO (ps : List Pt) : Prop := ∀ xx : Nat, inv_svO ps xx → (bodyL Try.prog EGc 30 12 ltSv 1 c_svO k_svO 1 (s_svO ps xx)).ok (RoundEnd 1 (s_svO ps) (inv_svO ps) (me_svO ps) (re_svO ps) (rs_svO ps) xx) (fun _ _ => False)
def e_svO (s : St) (k : Ex → St → Tree) : Option Tree := match Nat.beq s.tmps.length 34, pickL s.tmps [0, 3], s.mem with
  | true, [.slice (some ⟨0, 0, none⟩) n _, .int .i64 ii], [some ⟨.view, .ints xs⟩] => some (needs [ii = 0, xs.length = n * 2, n ≤ 1000000000] (brT (allQ (vgQ (ptsA n xs)) 0 n) (k (.exit 0) ⟨(.slice (some ⟨0, 0, none⟩) n n :: topV :: topV :: topV :: topV :: topV :: topV :: topV :: topV :: topV :: topV :: topV :: topV :: topV :: topV :: topV :: topV :: topV :: topV :: topV :: topV :: topV :: topV :: topV :: topV :: topV :: topV :: topV :: topV :: topV :: topV :: topV :: topV :: topV :: []), [some ⟨.view, .ints xs⟩]⟩) (k .ret ⟨(topV :: topV :: .bool false :: topV :: topV :: topV :: topV :: topV :: topV :: topV :: topV :: topV :: topV :: topV :: topV :: topV :: topV :: topV :: topV :: topV :: topV :: topV :: topV :: topV :: topV :: topV :: topV :: topV :: topV :: topV :: topV :: topV :: topV :: topV :: []), [some ⟨.view, .ints xs⟩]⟩)))
  | _, _, _ => none
noncomputable def c_ivG : Code := ((loopsOf (codeOf Try.f54))[0]?).getD .skip
def k_ivG : Ex → List Nat := keeps [0, 8, 9, 10] [(0, [])] [2]
def s_ivG (ps : List Pt) : Nat → St := fun i => ⟨[.slice (some ⟨0, 0, none⟩) ps.length ps.length, topV, topV, topV, topV, topV, topV, topV, .slice (some ⟨0, 0, none⟩) ps.length ps.length, .int .i64 ps.length, .int .i64 i, topV, topV, topV, topV, topV, topV, topV, topV, topV, topV, topV, topV, topV, topV, topV], [some ⟨.view, .ints (flat ps)⟩]⟩
def re_ivG (ps : List Pt) : Nat → Ex := fun i => bif allQ (vgQ ps) i (ps.length - i) then .exit 0 else .ret
def rs_ivG (ps : List Pt) : Nat → St := fun i => bif allQ (vgQ ps) i (ps.length - i) then ⟨[topV, topV, topV, topV, topV, topV, topV, topV, topV, topV, topV, topV, topV, topV, topV, topV, topV, topV, topV, topV, topV, topV, topV, topV, topV, topV], [some ⟨.view, .ints (flat ps)⟩]⟩ else ⟨[topV, topV, .bool false, topV, topV, topV, topV, topV, topV, topV, topV, topV, topV, topV, topV, topV, topV, topV, topV, topV, topV, topV, topV, topV, topV, topV], [some ⟨.view, .ints (flat ps)⟩]⟩
set_option maxRecDepth 100000 in
theorem tr_ivG (ps : List Pt) (i : Nat) : bodyL Try.prog EGc 30 12 noL 1 c_ivG k_ivG 1 (s_ivG ps i) = brT (decide ((↑i : Int) < (↑ps.length : Int))) (.need ((0 : Int) ≤ (↑i : Int) ∧ (↑i : Int) < (↑ps.length : Int)) (.need ((0 : Nat) + (↑i : Int).toNat * (2 : Nat) + (2 : Nat) ≤ (flat ps).length) (brT (!ptB ((flat ps).getD (0 + (↑i : Int).toNat * 2) 0) ((flat ps).getD (0 + (↑i : Int).toNat * 2 + 1) 0)) (.leaf .ret ⟨[topV, topV, .bool (false), topV, topV, topV, topV, topV, topV, topV, topV, topV, topV, topV, topV, topV, topV, topV, topV, topV, topV, topV, topV, topV, topV, topV], [some ⟨.view, .ints (flat ps)⟩]⟩) (.need (((bndI (some (IntKind.i64, (↑i : Int))) (↑ps.length : Int)).toNat - (0 : Nat)) * (2 : Nat) ≤ (List.drop (0 : Nat) (flat ps)).length) (.need ((bndI (some (IntKind.i64, (↑i : Int))) (↑ps.length : Int)).toNat - (0 : Nat) ≤ (1000000000 : Nat)) (.need ((0 : Int) ≤ bndI none (0 : Int) ∧ bndI none (0 : Int) ≤ bndI (some (IntKind.i64, (↑i : Int))) (↑ps.length : Int) ∧ bndI (some (IntKind.i64, (↑i : Int))) (↑ps.length : Int) ≤ (↑ps.length : Int)) (brT (!allQ (ngQ (ptsA ((bndI (some (IntKind.i64, (↑i : Int))) (↑ps.length : Int)).toNat - 0) (List.drop 0 (flat ps))) ((flat ps).getD (0 + (↑i : Int).toNat * 2) 0) ((flat ps).getD (0 + (↑i : Int).toNat * 2 + 1) 0)) 0 (ptsA ((bndI (some (IntKind.i64, (↑i : Int))) (↑ps.length : Int)).toNat - 0) (List.drop 0 (flat ps))).length) (.leaf .ret ⟨[topV, topV, .bool (false), topV, topV, topV, topV, topV, topV, topV, topV, topV, topV, topV, topV, topV, topV, topV, topV, topV, topV, topV, topV, topV, topV, topV], [some ⟨.view, .ints (flat ps)⟩]⟩) (.leaf .normal ⟨[.slice (some ⟨0, 0, none⟩) (ps.length) (ps.length), topV, topV, topV, topV, topV, topV, topV, .slice (some ⟨0, 0, none⟩) (ps.length) (ps.length), .int .i64 ((↑ps.length : Int)), .int .i64 (IntKind.i64.wrap ((↑i : Int) + 1)), topV, topV, topV, topV, topV, topV, topV, topV, topV, topV, topV, topV, topV, topV, topV], [some ⟨.view, .ints (flat ps)⟩]⟩)))))))) (.leaf (.exit 0) ⟨[topV, topV, topV, topV, topV, topV, topV, topV, topV, topV, topV, topV, topV, topV, topV, topV, topV, topV, topV, topV, topV, topV, topV, topV, topV, topV], [some ⟨.view, .ints (flat ps)⟩]⟩) := by kernel_rfl
set_option maxRecDepth 100000 in
theorem nl_ivG : loopsOf c_ivG = [] := by kernel_rfl
def inv_ivG (ps : List Pt) : Nat → Prop := fun i => i ≤ ps.length
def me_ivG (ps : List Pt) : Nat → Nat := fun i => ps.length - i
/-- A round of this loop. -/
def Round_ivG (ps : List Pt) : Prop := ∀ xx : Nat, inv_ivG ps xx → (bodyL Try.prog EGc 30 12 noL 1 c_ivG k_ivG 1 (s_ivG ps xx)).ok (RoundEnd 1 (s_ivG ps) (inv_ivG ps) (me_ivG ps) (re_ivG ps) (rs_ivG ps) xx) (fun _ _ => False)
def e_ivG (s : St) (k : Ex → St → Tree) : Option Tree := match Nat.beq s.tmps.length 26, pickL s.tmps [0, 8, 9, 10], s.mem with
  | true, [.slice (some ⟨0, 0, none⟩) n _, .slice (some ⟨0, 0, none⟩) n1 _, .int .i64 n2, .int .i64 ii], [some ⟨.view, .ints xs⟩] => some (needs [ii = 0, n1 = n, n2 = n, xs.length = n * 2, n ≤ 1000000000] (brT (allQ (vgQ (ptsA n xs)) 0 n) (k (.exit 0) ⟨[topV, topV, topV, topV, topV, topV, topV, topV, topV, topV, topV, topV, topV, topV, topV, topV, topV, topV, topV, topV, topV, topV, topV, topV, topV, topV], [some ⟨.view, .ints xs⟩]⟩) (k .ret ⟨[topV, topV, .bool false, topV, topV, topV, topV, topV, topV, topV, topV, topV, topV, topV, topV, topV, topV, topV, topV, topV, topV, topV, topV, topV, topV, topV], [some ⟨.view, .ints xs⟩]⟩)))
  | _, _, _ => none
theorem allQ_mk' {P : Nat → Bool} : ∀ (m i : Nat), (∀ j, i ≤ j → j < i + m → P j = true) → allQ P i m = true
  | 0, _, _ => rfl
  | m + 1, i, h => by
    simp only [allQ, Bool.and_eq_true]
    exact ⟨h i (Nat.le_refl _) (by omega), allQ_mk' m (i + 1) fun j h1 h2 => h j (by omega) (by omega)⟩
theorem eqG_is (p q : Pt) : negB false (p.1 == q.1 && (p.2 == q.2 && true)) = decide (p = q) := by
  rw [Bool.eq_iff_iff]
  simp only [negB, Bool.and_true, Bool.and_eq_true, beq_iff_eq, decide_eq_true_eq]
  constructor
  · rintro ⟨h1, h2⟩; exact Prod.ext h1 h2
  · rintro rfl; exact ⟨rfl, rfl⟩
set_option maxRecDepth 100000 in
set_option maxHeartbeats 1000000 in
theorem round_svI (ps : List Pt) (i : Nat) (h : ps.length ≤ 1000000000) (hi : i < ps.length) : Round_svI ps i := by
  intro k h1
  have h1 : k ≤ i := h1
  rw [tr_svI]
  have fl := flat_length ps
  simp only [Int.toNat_natCast, Nat.zero_add, flat_get0, flat_get1, eqG_is]
  refine brT_ok.2 ⟨fun hlt => ?_, fun hge => ?_⟩
  · have hlt := of_decide_eq_true hlt
    have hk : k < i := by omega
    rw [wsucc (n := ps.length) (by omega) h]
    simp only [Tree.ok]
    refine ⟨by omega, by omega, by omega, by omega, brT_ok.2 ⟨fun g => ?_, fun g => ?_⟩⟩
    · have e : allQ (dfQ ps i) k (i - k) = false := by
        rw [allQ_step hk, show dfQ ps i k = false from by unfold dfQ gG; rw [g]; rfl, Bool.false_and]
      refine ⟨by simp only [re_svI, e, cond_false], [], ?_⟩
      simp only [rs_svI, e, cond_false]
      repeat' (first | exact True.intro | exact rfl | exact fun _ => rfl | refine And.intro ?_ ?_)
    · have e : allQ (dfQ ps i) k (i - k) = allQ (dfQ ps i) (k + 1) (i - (k + 1)) := by
        rw [allQ_step hk, show dfQ ps i k = true from by unfold dfQ gG; rw [g]; rfl, Bool.true_and]
      refine ⟨k + 1, [], ?_, ?_, by simp only [re_svI, e], by simp only [rs_svI, e], ?_⟩
      · show k + 1 ≤ i; omega
      · show i - (k + 1) < i - k; omega
      · repeat' (first | exact True.intro | exact rfl | exact fun _ => rfl | refine And.intro ?_ ?_)
  · have hge := of_decide_eq_false hge
    have e : allQ (dfQ ps i) k (i - k) = true := allQ_end (by omega)
    refine ⟨by simp only [re_svI, e, cond_true], [], ?_⟩
    simp only [rs_svI, e, cond_true]
    repeat' (first | exact True.intro | exact rfl | exact fun _ => rfl | refine And.intro ?_ ?_)
set_option maxRecDepth 100000 in
theorem lg_svI : LoopE Try.prog e_svI c_svI := by
  intro s k t F H hlt ht
  unfold e_svI at hlt
  split at hlt
  rotate_left
  · cases hlt
  rename_i hlen hpick hmem
  obtain ⟨tmps, mem⟩ := s
  simp only at hlen hpick hmem
  subst hmem
  obtain rfl := Option.some.inj hlt
  obtain ⟨⟨rfl, h0, h1, h2, _⟩, ht2⟩ := needs_ok ht
  clear ht hlt
  obtain ⟨ps, rfl, rfl⟩ := even_flat h1
  obtain ⟨i, rfl⟩ := Int.eq_ofNat_of_zero_le h0.1
  rw [ptsA_flat] at ht2
  simp only [Int.toNat_natCast] at ht2
  refine ⟨_, _, pick2k ht2, loop_run mixed EGc_ok (s_svI ps i) (inv_svI ps i) (me_svI ps i) (re_svI ps i) (rs_svI ps i) k_svI (fun _ => rfl) (noLoops nl_svI) (round_svI ps i h2 (by omega)) (x := 0) (Nat.zero_le _) (π := []) rfl ?_⟩
  refine ⟨rfl, rfl, ?_, wvs_spread' [0, 3, 4] hlen rfl ?_⟩
  · repeat' (first | exact True.intro | exact rfl | exact wv_top _ _ | exact fun _ => rfl | assumption | exact Eq.symm (by assumption) | exact vI0 rfl | refine And.intro ?_ ?_)
  · rw [hpick]
    repeat' (first | exact True.intro | exact rfl | exact wv_top _ _ | exact fun _ => rfl | assumption | exact Eq.symm (by assumption) | exact vI0 rfl | refine And.intro ?_ ?_)
set_option maxRecDepth 100000 in
theorem in_svO : loopsOf c_svO = [c_svI] := by kernel_rfl
theorem ltSv_good : LoopsGood Try.prog ltSv 1 c_svO := by
  intro i d hd s k t F H hlt ht
  rw [in_svO] at hd
  cases i with
  | zero =>
    obtain rfl : c_svI = d := by simpa using hd
    exact lg_svI s k t F H hlt ht
  | succ i => simp at hd
set_option maxRecDepth 100000 in
theorem round_svO (ps : List Pt) (h : ps.length ≤ 1000000000) : Round_svO ps := by
  intro i h1
  have h1 : i ≤ ps.length := h1
  rw [tr_svO]
  have fl := flat_length ps
  simp only [Int.toNat_natCast, Nat.zero_add, flat_get0, flat_get1, ptsA_flat]
  refine brT_ok.2 ⟨fun hlt => ?_, fun hge => ?_⟩
  · have hlt := of_decide_eq_true hlt
    have hi : i < ps.length := by omega
    have st := allQ_step (P := vgQ ps) hi
    have eq : vgQ ps i = (ptB (ps.getD i (0, 0)).1 (ps.getD i (0, 0)).2 && allQ (dfQ ps i) 0 i) := rfl
    rw [wsucc (n := ps.length) hi h]
    simp only [Tree.ok]
    refine ⟨by omega, by omega, brT_ok.2 ⟨fun g => ?_, fun g => ⟨trivial, by omega, fl, h, brT_ok.2 ⟨fun k => ?_, fun k => ?_⟩⟩⟩⟩
    · have g : ptB (ps.getD i (0, 0)).1 (ps.getD i (0, 0)).2 = false := by simpa using g
      rw [eq, g, Bool.false_and, Bool.false_and] at st
      refine ⟨by simp only [re_svO, st, cond_false], [], ?_⟩
      simp only [rs_svO, st, cond_false]
      repeat' (first | exact True.intro | exact rfl | exact fun _ => rfl | refine And.intro ?_ ?_)
    · have g : ptB (ps.getD i (0, 0)).1 (ps.getD i (0, 0)).2 = true := by simpa using g
      rw [eq, g, k, Bool.true_and, Bool.true_and] at st
      refine ⟨i + 1, [], ?_, ?_, by simp only [re_svO, st], by simp only [rs_svO, st], ?_⟩
      · show i + 1 ≤ ps.length; omega
      · show ps.length - (i + 1) < ps.length - i; omega
      · repeat' (first | exact True.intro | exact rfl | exact fun _ => rfl | refine And.intro ?_ ?_)
    · rw [eq, k, Bool.and_false, Bool.false_and] at st
      refine ⟨by simp only [re_svO, st, cond_false], [], ?_⟩
      simp only [rs_svO, st, cond_false]
      repeat' (first | exact True.intro | exact rfl | exact fun _ => rfl | refine And.intro ?_ ?_)
  · have hge := of_decide_eq_false hge
    have e : allQ (vgQ ps) i (ps.length - i) = true := allQ_end (by omega)
    refine ⟨by simp only [re_svO, e, cond_true], [], ?_⟩
    simp only [rs_svO, e, cond_true]
    repeat' (first | exact True.intro | exact rfl | exact fun _ => rfl | refine And.intro ?_ ?_)
set_option maxRecDepth 100000 in
theorem lg_svO : LoopE Try.prog e_svO c_svO := by
  intro s k t F H hlt ht
  unfold e_svO at hlt
  split at hlt
  rotate_left
  · cases hlt
  rename_i hlen hpick hmem
  obtain ⟨tmps, mem⟩ := s
  simp only at hlen hpick hmem
  subst hmem
  obtain rfl := Option.some.inj hlt
  obtain ⟨⟨rfl, h1, h2, _⟩, ht2⟩ := needs_ok ht
  clear ht hlt
  obtain ⟨ps, rfl, rfl⟩ := even_flat h1
  rw [ptsA_flat] at ht2
  refine ⟨_, _, pick2k ht2, loop_run mixed EGc_ok (s_svO ps) (inv_svO ps) (me_svO ps) (re_svO ps) (rs_svO ps) k_svO (fun _ => rfl) ltSv_good (round_svO ps h2) (x := 0) (Nat.zero_le _) (π := []) rfl ?_⟩
  refine ⟨rfl, rfl, ?_, wvs_spread' [0, 3] hlen rfl ?_⟩
  · repeat' (first | exact True.intro | exact rfl | exact wv_top _ _ | exact fun _ => rfl | assumption | exact Eq.symm (by assumption) | exact vI0 rfl | refine And.intro ?_ ?_)
  · rw [hpick]
    repeat' (first | exact True.intro | exact rfl | exact wv_top _ _ | exact fun _ => rfl | assumption | exact Eq.symm (by assumption) | exact vI0 rfl | refine And.intro ?_ ?_)
theorem ptsA_tk' {ps : List Pt} {K : Nat} (h : K ≤ ps.length) : ptsA K (flat ps) = ps.take K := by
  have e := ptsA_flat (ps.take K)
  have hl : (ps.take K).length = K := by simp; omega
  rw [hl] at e
  unfold ptsA at e ⊢
  rw [flat_take]
  rw [flat_take, List.take_take, Nat.min_self] at e
  exact e
theorem bndG_some (k : IntKind) (x d : Int) : bndI (some (k, x)) d = x := rfl
theorem bndG_none (d : Int) : bndI none d = d := rfl
theorem ng_df {ps : List Pt} {i : Nat} (h : i < ps.length) : allQ (ngQ (ps.take i) (ps.getD i (0, 0)).1 (ps.getD i (0, 0)).2) 0 i = allQ (dfQ ps i) 0 i := by
  have key : ∀ k, k < i → ngQ (ps.take i) (ps.getD i (0, 0)).1 (ps.getD i (0, 0)).2 k = dfQ ps i k := fun k hk => by
    have e : (ps.take i).getD k (0, 0) = ps.getD k (0, 0) := by
      simp only [List.getD_eq_getElem?_getD]
      rw [List.getElem?_take, if_pos hk]
    unfold ngQ dfQ gG
    rw [e]
    have := eqG_is (ps.getD k (0, 0)) (ps.getD i (0, 0))
    simp only [negB, Bool.and_true] at this
    rw [this]
  rw [Bool.eq_iff_iff]
  constructor
  · intro g
    exact allQ_mk' _ _ fun j h1 h2 => by rw [← key j (by omega)]; exact allQ_get _ _ g j h1 h2
  · intro g
    exact allQ_mk' _ _ fun j h1 h2 => by rw [key j (by omega)]; exact allQ_get _ _ g j h1 h2
set_option maxRecDepth 100000 in
theorem round_ivG (ps : List Pt) (h : ps.length ≤ 1000000000) : Round_ivG ps := by
  intro i h1
  have h1 : i ≤ ps.length := h1
  rw [tr_ivG]
  have fl := flat_length ps
  simp only [bndG_some, bndG_none, Int.toNat_natCast, Nat.zero_add, Nat.sub_zero, List.drop_zero, flat_get0, flat_get1]
  refine brT_ok.2 ⟨fun hlt => ?_, fun hge => ?_⟩
  · have hlt := of_decide_eq_true hlt
    have hi : i < ps.length := by omega
    have st := allQ_step (P := vgQ ps) hi
    have eq : vgQ ps i = (ptB (ps.getD i (0, 0)).1 (ps.getD i (0, 0)).2 && allQ (dfQ ps i) 0 i) := rfl
    have ln : (ps.take i).length = i := by rw [List.length_take]; omega
    rw [wsucc (n := ps.length) hi h, ptsA_tk' (by omega), ln, ng_df hi]
    simp only [Tree.ok]
    refine ⟨by omega, by omega, brT_ok.2 ⟨fun g => ?_, fun g => ⟨by omega, by omega, by omega, brT_ok.2 ⟨fun k => ?_, fun k => ?_⟩⟩⟩⟩
    · have g : ptB (ps.getD i (0, 0)).1 (ps.getD i (0, 0)).2 = false := by simpa using g
      rw [eq, g, Bool.false_and, Bool.false_and] at st
      refine ⟨by simp only [re_ivG, st, cond_false], [], ?_⟩
      simp only [rs_ivG, st, cond_false]
      repeat' (first | exact True.intro | exact rfl | exact fun _ => rfl | refine And.intro ?_ ?_)
    · have k : allQ (dfQ ps i) 0 i = false := by simpa using k
      rw [eq, k, Bool.and_false, Bool.false_and] at st
      refine ⟨by simp only [re_ivG, st, cond_false], [], ?_⟩
      simp only [rs_ivG, st, cond_false]
      repeat' (first | exact True.intro | exact rfl | exact fun _ => rfl | refine And.intro ?_ ?_)
    · have g : ptB (ps.getD i (0, 0)).1 (ps.getD i (0, 0)).2 = true := by simpa using g
      have k : allQ (dfQ ps i) 0 i = true := by simpa using k
      rw [eq, g, k, Bool.true_and, Bool.true_and] at st
      refine ⟨i + 1, [], ?_, ?_, by simp only [re_ivG, st], by simp only [rs_ivG, st], ?_⟩
      · show i + 1 ≤ ps.length; omega
      · show ps.length - (i + 1) < ps.length - i; omega
      · repeat' (first | exact True.intro | exact rfl | exact fun _ => rfl | refine And.intro ?_ ?_)
  · have hge := of_decide_eq_false hge
    have e : allQ (vgQ ps) i (ps.length - i) = true := allQ_end (by omega)
    refine ⟨by simp only [re_ivG, e, cond_true], [], ?_⟩
    simp only [rs_ivG, e, cond_true]
    repeat' (first | exact True.intro | exact rfl | exact fun _ => rfl | refine And.intro ?_ ?_)
set_option maxRecDepth 100000 in
theorem lg_ivG : LoopE Try.prog e_ivG c_ivG := by
  intro s k t F H hlt ht
  unfold e_ivG at hlt
  split at hlt
  rotate_left
  · cases hlt
  rename_i hlen hpick hmem
  obtain ⟨tmps, mem⟩ := s
  simp only at hlen hpick hmem
  subst hmem
  obtain rfl := Option.some.inj hlt
  obtain ⟨⟨rfl, rfl, rfl, h1, h2, _⟩, ht2⟩ := needs_ok ht
  clear ht hlt
  obtain ⟨ps, rfl, rfl⟩ := even_flat h1
  rw [ptsA_flat] at ht2
  refine ⟨_, _, pick2k ht2, loop_run mixed EGc_ok (s_ivG ps) (inv_ivG ps) (me_ivG ps) (re_ivG ps) (rs_ivG ps) k_ivG (fun _ => rfl) (noLoops nl_ivG) (round_ivG ps h2) (x := 0) (Nat.zero_le _) (π := []) rfl ?_⟩
  refine ⟨rfl, rfl, ?_, wvs_spread' [0, 8, 9, 10] hlen rfl ?_⟩
  · repeat' (first | exact True.intro | exact rfl | exact wv_top _ _ | exact fun _ => rfl | assumption | exact Eq.symm (by assumption) | exact vI0 rfl | refine And.intro ?_ ?_)
  · rw [hpick]
    repeat' (first | exact True.intro | exact rfl | exact wv_top _ _ | exact fun _ => rfl | assumption | exact Eq.symm (by assumption) | exact vI0 rfl | refine And.intro ?_ ?_)
end Go.Proofs.Ytolodncpegajkab
namespace Go.Proofs.Ytolodncpegajkab
set_option linter.all false
open Go.RowKit
theorem loop_det2 {P : Program} {c : Code} {N M : Nat} {X : Type} (St_of : X → St) (Inv : X → Prop) (μ : X → Nat) (re : X → Ex) (rs : X → St) (keep : Ex → List Nat) (hM : ∀ x, (St_of x).mem.length ≤ M)
    (h : ∀ x, Inv x → ∃ e' s', Det P c (St_of x) e' s' ∧ match e' with
      | .normal => ∃ x' π, Inv x' ∧ μ x' < μ x ∧ re x' = re x ∧ rs x' = rs x ∧ WS N π (cutS M (keep .normal) s') (St_of x')
      | e => e = re x ∧ ∃ π, WS N π (cutS M (keep e) s') (rs x))
    {x : X} (hx : Inv x) {s : St} {π : List (Option Nat)} (hN : s.mem.length = N) (hs : WS N π s (St_of x)) : Det P (.loop c) s (re x) (rs x) := by
  intro w0 a w hc
  have hρ := con_dom hc
  rw [hN] at hρ
  have hρ' : ∀ {x' π' s'}, WS N π' s' (St_of x') → ∀ n, (St_of x').mem.length ≤ n → w0.ρ0 n = none := fun h n hn => hρ n (Nat.le_trans (Nat.le_of_ble_eq_true h.1) hn)
  refine wpIn_loop_ghost (fun n a w => ∃ x', Inv x' ∧ μ x' = n ∧ re x' = re x ∧ rs x' = rs x ∧ (∀ n, (St_of x').mem.length ≤ n → w0.ρ0 n = none) ∧ Con w0 (St_of x').fs a w) (μ x) ⟨x, hx, rfl, rfl, rfl, hρ' hs, weak_con hs hρ hc⟩ ?_
  rintro n a w ⟨x', hI, rfl, hre, hrs, hdom, hcc⟩
  obtain ⟨e', s', hd, hend⟩ := h x' hI
  have hdom2 : ∀ n, M ≤ n → w0.ρ0 n = none := fun n hn => hdom n (Nat.le_trans (hM x') hn)
  refine wpIn_mono (hd w0 a w hcc) ?_
  rintro e a' w' ⟨rfl, hcc'⟩
  cases e' with
  | normal =>
    obtain ⟨x2, π2, g1, g2, g3, g4, g5⟩ := hend
    exact ⟨_, g2, x2, g1, rfl, g3.trans hre, g4.trans hrs, hρ' g5, weak_con g5 hρ (cut_con hdom2 hcc')⟩
  | exit id =>
    obtain ⟨g1, π2, g2⟩ := hend
    exact ⟨by rw [← hre, ← g1], by rw [← hrs]; exact weak_con g2 hρ (cut_con hdom2 hcc')⟩
  | ret =>
    obtain ⟨g1, π2, g2⟩ := hend
    exact ⟨by rw [← hre, ← g1], by rw [← hrs]; exact weak_con g2 hρ (cut_con hdom2 hcc')⟩
theorem loop_run2 {P : Program} (hm : P.follows .mixedOrders = true) {E : Env} (hE : EnvOk P E) {m n : Nat} {lt : LT} {j : Nat} {c : Code} {N : Nat} {X : Type} (St_of : X → St) (Inv : X → Prop) (μ : X → Nat) (re : X → Ex) (rs : X → St) (keep : Ex → List Nat) {M : Nat} (hM : ∀ x, Nat.ble (St_of x).mem.length M = true) (hL : LoopsGood P lt j c)
    (h : ∀ x, Inv x → (bodyL P E m n lt j c keep M (St_of x)).ok (RoundEnd N St_of Inv μ re rs x) (fun _ _ => False))
    {x : X} (hx : Inv x) {s : St} {π : List (Option Nat)} (hN : s.mem.length = N) (hs : WS N π s (St_of x)) : Det P (.loop c) s (re x) (rs x) :=
  loop_det2 (M := M) St_of Inv μ re rs keep (fun x => Nat.le_of_ble_eq_true (hM x)) (fun x hx => by
    obtain ⟨e', s', h1, h2⟩ := body_det hm hE hL (h x hx)
    refine ⟨e', s', h1, ?_⟩
    unfold RoundEnd at h2
    cases e' <;> exact h2) hx hN hs
end Go.Proofs.Ytolodncpegajkab
