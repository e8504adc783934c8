/-
  Texts that the proof needs, merged. Written by an AI agent.
-/
import Derived.Orders
import Derived.Below
import Derived.OrdersIn
import Derived.Deep.LoopGhost
import Derived.WalkKit
import Derived.Laws.CopyRow
import Derived.Laws.AppendOwn
import Derived.Laws.Slices
import Derived.Laws.MakeOwn
import Derived.Test.YtolodncpegajkaaRows
import Derived.ProofKit
import Derived.OpenShut
import Derived.Carry
import Derived.IntWalk
import Derived.Test.YtolodncpegajkaaProg
import Derived.WalkSpells
import Derived.WalkLawsBesides
import Derived.Lib.Hide
import Derived.Deep.QuietTactic
import Derived.BigQuiet
import Derived.KernelRfl
import Derived.Deep.RegionHeld3
import Derived.LoopTactic
import Derived.Laws.StructEq
import Derived.Laws.Tables
import Derived.RangeFuncNested
import Derived.RangeFuncLeaves
import Derived.Deep.Slices
import Derived.Deep.Fields
import Derived.ChangeSame
import Derived.Test.YtolodncpegajkaaZExactCircleCenter2
namespace Go.Proofs.Ytolodncpegajkaa
set_option linter.all false
open Go.RowKit
abbrev Pt := Int × Int
def flat : List Pt → List Int
  | [] => []
  | p :: r => p.1 :: p.2 :: flat r
def pts : List Int → List Pt
  | a :: b :: r => (a, b) :: pts r
  | _ => []
theorem pts_flat : ∀ ps, pts (flat ps) = ps
  | [] => rfl
  | p :: r => by simp [flat, pts, pts_flat r]
theorem flat_length : ∀ ps, (flat ps).length = ps.length * 2
  | [] => rfl
  | p :: r => by simp [flat, flat_length r]; omega
theorem flat_pts : ∀ (n : Nat) (xs : List Int), xs.length = n * 2 → flat (pts xs) = xs ∧ (pts xs).length = n
  | 0, xs, h => by
    obtain rfl : xs = [] := List.eq_nil_of_length_eq_zero (by omega)
    exact ⟨rfl, rfl⟩
  | n + 1, xs, h => by
    match xs, h with
    | a :: b :: r, h =>
      obtain ⟨h1, h2⟩ := flat_pts n r (by simp at h; omega)
      exact ⟨by simp [pts, flat, h1], by simp [pts, h2]⟩
    | [a], h => simp at h; omega
    | [], h => simp at h
theorem even_flat {n : Nat} {xs : List Int} (h : xs.length = n * 2) : ∃ ps : List Pt, xs = flat ps ∧ ps.length = n :=
  ⟨pts xs, (flat_pts n xs h).1.symm, (flat_pts n xs h).2⟩
theorem flat_append : ∀ a b, flat (a ++ b) = flat a ++ flat b
  | [], b => rfl
  | p :: r, b => by simp [flat, flat_append r b]
theorem flat_drop : ∀ (ps : List Pt) (k : Nat), (flat ps).drop (k * 2) = flat (ps.drop k)
  | ps, 0 => by simp
  | [], k + 1 => by simp [flat]
  | p :: r, k + 1 => by
    rw [show (k + 1) * 2 = k * 2 + 2 by omega]
    simp [flat, flat_drop r k]
theorem flat_take : ∀ (ps : List Pt) (k : Nat), (flat ps).take (k * 2) = flat (ps.take k)
  | ps, 0 => by simp [flat]
  | [], k + 1 => by simp [flat]
  | p :: r, k + 1 => by
    rw [show (k + 1) * 2 = k * 2 + 2 by omega]
    simp [flat, flat_take r k]
theorem flat_all (ps : List Pt) : (flat ps).take (ps.length * 2) = flat ps := by rw [flat_take, List.take_length]
theorem flat_get : ∀ (ps : List Pt) (k : Nat), (flat ps).getD (k * 2) 0 = (ps.getD k (0, 0)).1 ∧ (flat ps).getD (k * 2 + 1) 0 = (ps.getD k (0, 0)).2
  | [], k => by simp [flat]
  | p :: r, 0 => by simp [flat]
  | p :: r, k + 1 => by
    obtain ⟨h1, h2⟩ := flat_get r k
    rw [show (k + 1) * 2 = k * 2 + 2 by omega, show k * 2 + 2 + 1 = k * 2 + 1 + 2 by omega]
    simp only [flat, List.getD_eq_getElem?_getD, List.getElem?_cons_succ] at h1 h2 ⊢
    exact ⟨h1, h2⟩
theorem flat_get0 (ps : List Pt) (k : Nat) : (flat ps).getD (k * 2) 0 = (ps.getD k (0, 0)).1 := (flat_get ps k).1
theorem flat_get1 (ps : List Pt) (k : Nat) : (flat ps).getD (k * 2 + 1) 0 = (ps.getD k (0, 0)).2 := (flat_get ps k).2
theorem flat_set (ps : List Pt) (k : Nat) (h : k < ps.length) (a b : Int) : setInts (flat ps) (k * 2) [a, b] = flat (ps.set k (a, b)) := by
  have e : ps = ps.take k ++ ps[k] :: ps.drop (k + 1) := by simp
  have hl : (ps.take k).length = k := by simp; omega
  unfold setInts
  rw [flat_take, show k * 2 + [a, b].length = (k + 1) * 2 by simp; omega, flat_drop]
  rw [List.set_eq_take_append_cons_drop, if_pos h, flat_append]
  simp [flat]
theorem drop_cons {α : Type} {l : List α} {k : Nat} (h : k < l.length) (d : α) : l.drop k = l.getD k d :: l.drop (k + 1) := by
  rw [List.drop_eq_getElem_cons h]
  simp [h]
theorem wr {x : Int} (h : -9223372036854775808 ≤ x ∧ x ≤ 9223372036854775807) : IntKind.i64.wrap x = x := by
  rw [IntKind.wrap_i64]
  omega
theorem wsucc {i n : Nat} (h : i < n) (hn : n ≤ 1000000000) : IntKind.i64.wrap ((i : Int) + 1) = ((i + 1 : Nat) : Int) := by
  rw [wr (by omega)]; omega
theorem all_drop {α : Type} {l : List α} {k : Nat} (h : k < l.length) (d : α) (P : α → Bool) : (l.drop k).all P = (P (l.getD k d) && (l.drop (k + 1)).all P) := by rw [drop_cons h d]; rfl
theorem all_end {α : Type} {l : List α} {k : Nat} (h : l.length ≤ k) (P : α → Bool) : (l.drop k).all P = true := by rw [List.drop_of_length_le h]; rfl
theorem pick2k {b : Bool} {k : Ex → St → Tree} {e1 e2 : Ex} {s1 s2 : St} {F : Ex → St → Prop} {H : Value → List (Option Blk) → Prop} (h : (brT b (k e1 s1) (k e2 s2)).ok F H) : (k (bif b then e1 else e2) (bif b then s1 else s2)).ok F H := by
  cases b
  · exact h
  · exact h
/-- A loop's body on a state, cut at its ends to what is looked at again: keep tells which slots, M how many names. -/
def bodyL (P : Program) (E : Env) (m n : Nat) (lt : LT) (j : Nat) (c : Code) (keep : Ex → List Nat) (M : Nat) (s : St) : Tree := runN P E.R E.J (asK P E (runM P E m n)) (runM P E m n) lt noR m c j (fun e s' => .leaf e (cutS M (keep e) s')) s
theorem body_det {P : Program} (hm : P.follows .mixedOrders = true) {E : Env} (hE : EnvOk P E) {m n : Nat} {lt : LT} {j : Nat} {c : Code} (hL : LoopsGood P lt j c) {keep : Ex → List Nat} {M : Nat} {s : St} {F : Ex → St → Prop} (h : (bodyL P E m n lt j c keep M s).ok F (fun _ _ => False)) :
    ∃ e' s', Det P c s e' s' ∧ F e' (cutS M (keep e') s') := by
  obtain ⟨e', s', h1, h2⟩ := runN_det hE.R hE.J (asK_ok hE (runM_ok hm hE m n)) (runM_ok hm hE m n) hm c j hL noR_good _ F _ s h
  exact ⟨e', s', h2, h1⟩
theorem noLoops {P : Program} {lt : LT} {j : Nat} {c : Code} (h : loopsOf c = []) : LoopsGood P lt j c := fun i d hd => by rw [h] at hd; simp at hd
/-- Which slots are looked at again: behind a round, behind an exit, behind the function's end. -/
def keeps (nrm : List Nat) (exits : List (Nat × List Nat)) (ret : List Nat) : Ex → List Nat
  | .normal => nrm
  | .exit id => (exits.lookup id).getD []
  | .ret => ret
/-- The end of a round. -/
def RoundEnd {X : Type} (N : Nat) (St_of : X → St) (Inv : X → Prop) (μ : X → Nat) (re : X → Ex) (rs : X → St) (x : X) (e : Ex) (s : St) : Prop :=
  match e with
  | .normal => ∃ x' π, Inv x' ∧ μ x' < μ x ∧ re x' = re x ∧ rs x' = rs x ∧ WS N π s (St_of x')
  | e => e = re x ∧ ∃ π, WS N π s (rs x)
theorem loop_run {P : Program} (hm : P.follows .mixedOrders = true) {E : Env} (hE : EnvOk P E) {m n : Nat} {lt : LT} {j : Nat} {c : Code} {N : Nat} {X : Type} (St_of : X → St) (Inv : X → Prop) (μ : X → Nat) (re : X → Ex) (rs : X → St) (keep : Ex → List Nat) {M : Nat} (hM : ∀ x, (St_of x).mem.length = M) (hL : LoopsGood P lt j c)
    (h : ∀ x, Inv x → (bodyL P E m n lt j c keep M (St_of x)).ok (RoundEnd N St_of Inv μ re rs x) (fun _ _ => False))
    {x : X} (hx : Inv x) {s : St} {π : List (Option Nat)} (hN : s.mem.length = N) (hs : WS N π s (St_of x)) : Det P (.loop c) s (re x) (rs x) :=
  loop_det St_of Inv μ re rs keep (fun x hx => by
    obtain ⟨e', s', h1, h2⟩ := body_det hm hE hL (h x hx)
    refine ⟨e', s', h1, ?_⟩
    rw [hM]
    unfold RoundEnd at h2
    cases e' <;> exact h2) hx hN hs
theorem wv_top (f : Nat → Option (Option Nat)) (v : Value) : wv f v topV := by
  cases v <;> exact True.intro
theorem take_set_succ {α : Type} {l m : List α} {i : Nat} (hl : i < l.length) (hm : i < m.length) (h : l.take i = m.take i) (d : α) : (l.set i (m.getD i d)).take (i + 1) = m.take (i + 1) := by
  apply List.ext_getElem?
  intro k
  have hk := congrArg (fun x : List α => x[k]?) h
  simp only [List.getElem?_take] at hk ⊢
  rcases Nat.lt_trichotomy k i with hki | hki | hki
  · rw [if_pos (by omega), if_pos (by omega), List.getElem?_set_ne (by omega)]
    simpa [hki] using hk
  · subst hki
    rw [if_pos (by omega), if_pos (by omega)]
    simp [hl, hm]
  · rw [if_neg (by omega), if_neg (by omega)]
/-- Some slots of a frame; a frame of which only some slots are known. -/
def pickL (l : List Value) (idx : List Nat) : List Value := idx.map fun i => l.getD i undef
def lookV : List Nat → List Value → Nat → Value
  | i :: r, v :: vs, j => if i = j then v else lookV r vs j
  | _, _, _ => topV
def spread (n : Nat) (idx : List Nat) (vals : List Value) : List Value := (List.range n).map (lookV idx vals)
theorem lookV_ok {f : Nat → Option (Option Nat)} {l : List Value} : ∀ {idx : List Nat} {vals : List Value}, wvs f (pickL l idx) vals → ∀ j, wv f (l.getD j undef) (lookV idx vals j)
  | [], [], _, j => wv_top _ _
  | [], _ :: _, h, _ => h.elim
  | _ :: _, [], h, _ => h.elim
  | i :: r, v :: vs, h, j => by
    unfold lookV
    split
    · rename_i hij
      subst hij
      exact h.1
    · exact lookV_ok h.2 j
theorem wvs_of {f : Nat → Option (Option Nat)} : ∀ {l l' : List Value}, l.length = l'.length → (∀ j, j < l.length → wv f (l.getD j undef) (l'.getD j undef)) → wvs f l l'
  | [], [], _, _ => trivial
  | [], _ :: _, h, _ => by simp at h
  | _ :: _, [], h, _ => by simp at h
  | a :: r, b :: r', h, hj => ⟨hj 0 (by simp), wvs_of (by simpa using h) fun j hj' => by simpa using hj (j + 1) (by simpa using hj')⟩
theorem wvs_spread {f : Nat → Option (Option Nat)} {l vals l' : List Value} {n : Nat} {idx : List Nat} (hl : Nat.beq l.length n = true) (he : l' = spread n idx vals) (h : wvs f (pickL l idx) vals) : wvs f l l' := by
  have hl := Nat.eq_of_beq_eq_true hl
  subst he
  refine wvs_of (by simp [spread, hl]) fun j hj => ?_
  have : (spread n idx vals).getD j undef = lookV idx vals j := by
    have : j < n := by omega
    simp [spread, this]
  rw [this]
  exact lookV_ok h j
theorem wvs_spread' {f : Nat → Option (Option Nat)} {l l' : List Value} {n : Nat} (idx : List Nat) (hl : Nat.beq l.length n = true) (he : l' = spread n idx (pickL l' idx)) (h : wvs f (pickL l idx) (pickL l' idx)) : wvs f l l' := wvs_spread hl he h
/-- An entry for a loop is sound. -/
def LoopE (P : Program) (e : St → (Ex → St → Tree) → Option Tree) (c : Code) : Prop := ∀ s k t F H, e s k = some t → t.ok F H → ∃ e' s', (k e' s').ok F H ∧ Det P (.loop c) s e' s'
/-- A function with one loop. -/
def lt1 (e : St → (Ex → St → Tree) → Option Tree) : LT := fun j s k => match j with
  | 0 => e s k
  | _ => none
theorem lt1_good {P : Program} {e : St → (Ex → St → Tree) → Option Tree} {c : Code} (h : LoopE P e (((loopsOf c)[0]?).getD .skip)) : LoopsGood P (lt1 e) 0 c := by
  intro i d hd s k t F H hlt ht
  rw [Nat.zero_add] at hlt
  cases i with
  | zero =>
    rw [hd] at h
    exact h s k t F H hlt ht
  | succ i => cases hlt
def noL : LT := fun _ _ _ => none
theorem noL_good {P : Program} {j : Nat} {c : Code} : LoopsGood P noL j c := fun _ _ _ _ _ _ _ _ h => by cases h
/-- An argument's cells beyond what is asked. -/
theorem Res.more {P : Program} {f : FuncId} {ds ds' : List DArg} {v : Value} (h : Res P f ds' v) (hg : ∀ d ∈ ds, d.good) (hd : ∀ w args, DOks w ds args → DOks w ds' args) : Res P f ds v :=
  ⟨h.1, h.2.1, h.2.2.1, hg, fun w args ha => h.2.2.2.2 w args (hd w args ha)⟩
theorem ResR.more {P : Program} {f : FuncId} {ds ds' : List DArg} {v : Value} {b : Blk} (h : ResR P f ds' v b) (hg : ∀ d ∈ ds, d.good) (hd : ∀ w args, DOks w ds args → DOks w ds' args) : ResR P f ds v b :=
  ⟨h.1, h.2.1, h.2.2.1, hg, fun w args ha => h.2.2.2.2 w args (hd w args ha)⟩
/-- The first cells of a row argument. -/
theorem DOk.take {w : World} {l : Nat} {xs : List Int} {y : Value} (k : Nat) (h : DOk w (.row l (.ints xs)) y) : DOk w (.row l (.ints (xs.take k))) y := by
  obtain ⟨h1, ad, c', h2, h3, h4⟩ := h
  refine ⟨rfl, ad, c', h2, h3, h4.imp id ?_⟩
  rintro ⟨g, f, h5, h6, h7⟩
  refine ⟨g, f, h5, h6, fun j v hv => h7 j v ?_⟩
  simp only [Cs.list, List.getElem?_map] at hv ⊢
  rw [List.getElem?_take] at hv
  split at hv
  · exact hv
  · simp at hv
theorem DOks.imp {w : World} : ∀ {ds ds' : List DArg} {args : Array Value}, DOks w ds args → ds.length = ds'.length → (∀ (i : Nat) d d' y, ds[i]? = some d → ds'[i]? = some d' → DOk w d y → DOk w d' y) → DOks w ds' args := by
  intro ds ds' args h hl hi
  refine ⟨by rw [← hl]; exact h.1, fun i d' y hd' hy => ?_⟩
  have hlt : i < ds.length := by rw [hl]; exact (List.getElem?_eq_some_iff.1 hd').1
  exact hi i ds[i] d' y (by simp) hd' (h.2 i _ y (by simp) hy)
/-- The points of a row argument. -/
def ptsA (n : Nat) (xs : List Int) : List Pt := pts (xs.take (n * 2))
theorem ptsA_flat (ps : List Pt) : ptsA ps.length (flat ps) = ps := by
  unfold ptsA
  rw [flat_take, List.take_length, pts_flat]
theorem ptsA_spec {n : Nat} {xs : List Int} (h : n * 2 ≤ xs.length) : xs.take (n * 2) = flat (ptsA n xs) ∧ (ptsA n xs).length = n := by
  unfold ptsA
  have := flat_pts n (xs.take (n * 2)) (by simp; omega)
  exact ⟨this.1.symm, this.2⟩
/-- What is known for lists of points as they are is known for any cells. -/
theorem DOks.pts {w : World} {pre post : List DArg} {n : Nat} {xs : List Int} {args : Array Value} (ha : DOks w (pre ++ .row n (.ints xs) :: post) args) : DOks w (pre ++ .row n (.ints (xs.take (n * 2))) :: post) args := by
  refine ha.imp (by simp) fun i d d' y hd hd' hy => ?_
  rcases Nat.lt_or_ge i pre.length with hlt | hge
  · rw [List.getElem?_append_left hlt] at hd hd'
    rw [hd] at hd'
    obtain rfl : d = d' := by simpa using hd'
    exact hy
  · rw [List.getElem?_append_right hge] at hd hd'
    rcases hk : i - pre.length with _ | k
    · rw [hk] at hd hd'
      obtain rfl : DArg.row n (.ints xs) = d := by simpa using hd
      obtain rfl : DArg.row n (.ints (xs.take (n * 2))) = d' := by simpa using hd'
      exact hy.take _
    · rw [hk] at hd hd'
      simp only [List.getElem?_cons_succ] at hd hd'
      rw [hd] at hd'
      obtain rfl : d = d' := by simpa using hd'
      exact hy
theorem good_pts {pre post : List DArg} {n : Nat} {xs ys : List Int} (h : ∀ d ∈ pre ++ .row n (.ints xs) :: post, d.good) : ∀ d ∈ pre ++ .row n (.ints ys) :: post, d.good := by
  intro d hd
  rcases List.mem_append.1 hd with hd | hd
  · exact h d (List.mem_append_left _ hd)
  · rcases List.mem_cons.1 hd with rfl | hd
    · rfl
    · exact h d (List.mem_append_right _ (List.mem_cons_of_mem _ hd))
theorem res_pts1 {P : Program} {f : FuncId} {pre post : List DArg} {v : Value} {n : Nat} {xs : List Int} (hn : n * 2 ≤ xs.length) (h0 : Res P f (pre ++ .row (ptsA n xs).length (.ints (flat (ptsA n xs))) :: post) v) :
    Res P f (pre ++ .row n (.ints xs) :: post) v := by
  obtain ⟨h1, h2⟩ := ptsA_spec hn
  rw [h2, ← h1] at h0
  exact h0.more (good_pts h0.2.2.2.1) fun w args ha => ha.pts
theorem resR_pts1 {P : Program} {f : FuncId} {pre post : List DArg} {v : Value} {b : Blk} {n : Nat} {xs : List Int} (hn : n * 2 ≤ xs.length) (h0 : ResR P f (pre ++ .row (ptsA n xs).length (.ints (flat (ptsA n xs))) :: post) v b) :
    ResR P f (pre ++ .row n (.ints xs) :: post) v b := by
  obtain ⟨h1, h2⟩ := ptsA_spec hn
  rw [h2, ← h1] at h0
  exact h0.more (good_pts h0.2.2.2.1) fun w args ha => ha.pts
end Go.Proofs.Ytolodncpegajkaa
namespace Go.Proofs.Ytolodncpegajkaa
set_option linter.all false
open Go.RowKit
abbrev iv (x : Int) : Value := .int .i64 x
def B0 : Tab := fun _ _ => none
theorem B0_ok : TabOk Try.prog B0 := fun _ _ _ _ h => by cases h
theorem mixed : Try.prog.follows .mixedOrders = true := by kernel_rfl
set_option maxRecDepth 100000 in
theorem tr_specValid (x y : Int) : runX Try.prog (tabE B0) 30 8 139 [.v (.agg #[iv x, iv y])] (fun u => .fin u []) = brT (decide (-1000 ≤ x)) (brT (decide (x ≤ 1000)) (brT (decide (-1000 ≤ y)) (.fin (.bool (decide (y ≤ 1000))) []) (.fin (.bool (false)) [])) (.fin (.bool (false)) [])) (.fin (.bool (false)) []) := by kernel_rfl
set_option maxRecDepth 100000 in
theorem tr_implValid (x y : Int) : runX Try.prog (tabE B0) 30 8 151 [.v (.agg #[iv x, iv y])] (fun u => .fin u []) = brT (decide (IntKind.i64.wrap (0 - 1000) ≤ x)) (brT (decide (x ≤ 1000)) (brT (decide (IntKind.i64.wrap (0 - 1000) ≤ y)) (.fin (.bool (decide (y ≤ 1000))) []) (.fin (.bool (false)) [])) (.fin (.bool (false)) [])) (.fin (.bool (false)) []) := by kernel_rfl
set_option maxRecDepth 100000 in
theorem tr_compare (x y : Int) : runX Try.prog (tabE B0) 30 8 154 [.v (iv x), .v (iv y)] (fun u => .fin u []) = brT (!x == x) (brT (!y == y) (.fin (.int .i64 (0)) []) (.fin (.int .i64 (-1)) [])) (brT (!y == y) (.fin (.int .i64 (1)) []) (brT (decide (x < y)) (.fin (.int .i64 (-1)) []) (brT (decide (y < x)) (.fin (.int .i64 (1)) []) (.fin (.int .i64 (0)) [])))) := by kernel_rfl
set_option maxRecDepth 100000 in
theorem tr_specSign (x : Int) : runX Try.prog (tabE B0) 30 8 112 [.v (iv x)] (fun u => .fin u []) = brT (decide (x < 0)) (.fin (.int .i64 (-1)) []) (brT (decide (0 < x)) (.fin (.int .i64 (1)) []) (.fin (.int .i64 (0)) [])) := by kernel_rfl
set_option maxRecDepth 100000 in
theorem tr_implSign (x : Int) : runX Try.prog (tabE B0) 30 8 120 [.v (iv x)] (fun u => .fin u []) = brT (!x == x) (.fin (.int .i64 (-1)) []) (brT (decide (x < 0)) (.fin (.int .i64 (-1)) []) (brT (decide (0 < x)) (.fin (.int .i64 (1)) []) (.fin (.int .i64 (0)) []))) := by kernel_rfl
theorem w1000 : IntKind.i64.wrap (0 - 1000) = -1000 := by decide
/-- The comparison of two numbers. -/
def cmpI (x y : Int) : Int := if x < y then -1 else if y < x then 1 else 0
theorem vbool_eq {a b : Bool} (h : a = b) : Value.bool a = .bool b := by rw [h]
theorem res_specValid (x y : Int) : Res Try.prog 139 [.v (.agg #[iv x, iv y])] (.bool (ptB x y)) := by
  refine res_of mixed (tabE_ok B0_ok) (m := 30) (n := 8) ?_
  rw [tr_specValid]
  simp only [brT_ok, Tree.ok, decide_eq_true_eq, decide_eq_false_iff_not]
  repeat' (first | apply And.intro | intro _)
  all_goals (refine vbool_eq ?_; unfold ptB; rw [Bool.eq_iff_iff]; simp; try omega)
theorem res_implValid (x y : Int) : Res Try.prog 151 [.v (.agg #[iv x, iv y])] (.bool (ptB x y)) := by
  refine res_of mixed (tabE_ok B0_ok) (m := 30) (n := 8) ?_
  rw [tr_implValid]
  simp only [brT_ok, Tree.ok, decide_eq_true_eq, decide_eq_false_iff_not, w1000]
  repeat' (first | apply And.intro | intro _)
  all_goals (refine vbool_eq ?_; unfold ptB; rw [Bool.eq_iff_iff]; simp; try omega)
theorem res_compare (x y : Int) : Res Try.prog 154 [.v (iv x), .v (iv y)] (iv (cmpI x y)) := by
  refine res_of mixed (tabE_ok B0_ok) (m := 30) (n := 8) ?_
  rw [tr_compare]
  simp [brT_ok, Tree.ok]
  repeat' (first | apply And.intro | intro _)
  all_goals (unfold cmpI; split <;> (try split) <;> omega)
theorem res_specSign (x : Int) : Res Try.prog 112 [.v (iv x)] (iv (cmpI x 0)) := by
  refine res_of mixed (tabE_ok B0_ok) (m := 30) (n := 8) ?_
  rw [tr_specSign]
  simp [brT_ok, Tree.ok]
  repeat' (first | apply And.intro | intro _)
  all_goals (unfold cmpI; split <;> (try split) <;> omega)
theorem res_implSign (x : Int) : Res Try.prog 120 [.v (iv x)] (iv (cmpI x 0)) := by
  refine res_of mixed (tabE_ok B0_ok) (m := 30) (n := 8) ?_
  rw [tr_implSign]
  simp [brT_ok, Tree.ok]
  repeat' (first | apply And.intro | intro _)
  all_goals (unfold cmpI; split <;> (try split) <;> omega)
end Go.Proofs.Ytolodncpegajkaa
namespace Go.Proofs.Ytolodncpegajkaa
set_option linter.all false
open Go.RowKit
theorem entersB_res {f : FuncId} (h : entersB Try.prog f = true) : enters Try.prog f ∧ Try.prog.inits.idxOf? f = none := by
  unfold entersB at h
  split at h
  · rename_i fn hf
    obtain ⟨h1, h2, _⟩ := entersB_spec hf (by unfold entersB; rw [hf]; exact h)
    exact ⟨h1, h2⟩
  · cases h
/-- A contract of a function of plain values, as it stands. -/
theorem res_calls {f : FuncId} {args : List Value} {v : Value} (he : entersB Try.prog f = true) (hp : args.all plainV = true) (hv : plainV v = true) (h : ∀ w, Calls Try.prog f args.toArray w fun e w' => e = .returned v ∧ Below w.heap.size w w') : Res Try.prog f (args.map .v) v := by
  obtain ⟨h1, h2⟩ := entersB_res he
  refine ⟨h1, h2, hv, fun d hd => ?_, fun w ys hd => ?_⟩
  · obtain ⟨x, hx, rfl⟩ := List.mem_map.1 hd
    exact List.all_eq_true.1 hp x hx
  · have e : ys = args.toArray := by
      apply Array.ext
      · simpa using hd.1.symm
      · intro i i1 i2
        have e1 : (args.map DArg.v)[i]? = some (.v (args[i]'(by simpa using i2))) := by simp
        exact (hd.2 i _ ys[i] e1 (by simp [i1])).2
    rw [e]
    exact h w
theorem below_same {f : FuncId} {args : Array Value} {w : World} {v : Value} (h : Calls Try.prog f args w fun e w' => e = .returned v ∧ w = w') : Calls Try.prog f args w fun e w' => e = .returned v ∧ Below w.heap.size w w' :=
  h.mono fun _ _ ⟨he, hw⟩ => ⟨he, by subst hw; exact Below.refl _ _⟩
def big (x : Int) : Prop := -4500000000000000000 ≤ x ∧ x ≤ 4500000000000000000
def big0 (x : Int) : Prop := 0 ≤ x ∧ x ≤ 4500000000000000000
def pPt : List DArg → Option (Value × List Prop)
  | [.v (.agg ⟨[.int .i64 x, .int .i64 y]⟩)] => some (.bool (ptB x y), [])
  | _ => none
def pCmp : List DArg → Option (Value × List Prop)
  | [.v (.int .i64 x), .v (.int .i64 y)] => some (iv (cmpI x y), [])
  | _ => none
def pSign : List DArg → Option (Value × List Prop)
  | [.v (.int .i64 x)] => some (iv (cmpI x 0), [])
  | _ => none
def pGcd : List DArg → Option (Value × List Prop)
  | [.v (.int .i64 x), .v (.int .i64 y)] => some (iv (gI x y), [big0 x, big0 y])
  | _ => none
def pAbs : List DArg → Option (Value × List Prop)
  | [.v (.int .i64 x)] => some (iv (x.natAbs : Int), [big x])
  | _ => none
def pGcdL : List DArg → Option (Value × List Prop)
  | [.row 2 (.vals [.int .i64 x, .int .i64 y])] => some (iv (gI x y), [big x, big y])
  | [.row 3 (.vals [.int .i64 x, .int .i64 y, .int .i64 z])] => some (iv (gI (gI x y) z), [big x, big y, big z])
  | _ => none
def pRatio : List DArg → Option (Value × List Prop)
  | [.v (.int .i64 x), .v (.int .i64 y)] => some (.agg #[iv (qN x y), iv (qD x y)], [big x, big y, y ≠ 0])
  | _ => none
def pAll : List DArg → Option (Value × List Prop)
  | [.row 2 (.vals [.int .i64 ax, .int .i64 ay, .int .i64 bx, .int .i64 b_y])] => some (.bool (ptB ax ay && ptB bx b_y), [])
  | [.row 3 (.vals [.int .i64 ax, .int .i64 ay, .int .i64 bx, .int .i64 b_y, .int .i64 cx, .int .i64 cy])] => some (.bool (ptB ax ay && ptB bx b_y && ptB cx cy), [])
  | [.row 4 (.vals [.int .i64 ax, .int .i64 ay, .int .i64 bx, .int .i64 b_y, .int .i64 cx, .int .i64 cy, .int .i64 dx, .int .i64 dy])] => some (.bool (ptB ax ay && ptB bx b_y && (ptB cx cy && ptB dx dy)), [])
  | _ => none
def T1 : Tab := fun f ds => match f with
  | 139 => pPt ds
  | 151 => pPt ds
  | 154 => pCmp ds
  | 112 => pSign ds
  | 120 => pSign ds
  | 146 => pGcd ds
  | 140 => pAbs ds
  | 107 => pGcdL ds
  | 103 => pRatio ds
  | 125 => pRatio ds
  | 117 => pAll ds
  | _ => none
theorem row_open {w : World} {l : Nat} {cs : Cs} {y : Value} (hl : 0 < l) (h : DOk w (.row l cs) y) : ∃ g f c', y = .slice (some ⟨g, f, none⟩) l c' ∧ l ≤ c' ∧ g < w.heap.size ∧ ∀ (k : Nat) v, cs.list[k]? = some v → w.cell? ⟨g, f + k, none⟩ = some v := by
  obtain ⟨_, ad, c', h1, h2, h3⟩ := h
  obtain ⟨g, f, rfl, h4, h5⟩ := h3.resolve_left (by omega)
  exact ⟨g, f, c', h1, h2, h4, h5⟩
theorem res_row {f : FuncId} {l : Nat} {cs : Cs} {v : Value} (hl : 0 < l) (he : entersB Try.prog f = true) (hv : plainV v = true) (hat : allAtoms cs = true) (h : ∀ w g o c', l ≤ c' → g < w.heap.size → (∀ (k : Nat) v, cs.list[k]? = some v → w.cell? ⟨g, o + k, none⟩ = some v) →
    Calls Try.prog f #[.slice (some ⟨g, o, none⟩) l c'] w fun e w' => e = .returned v ∧ Below w.heap.size w w') : Res Try.prog f [.row l cs] v := by
  obtain ⟨h1, h2⟩ := entersB_res he
  refine ⟨h1, h2, hv, fun d hd => ?_, fun w ys hd => ?_⟩
  · obtain rfl : d = .row l cs := by simpa using hd
    exact hat
  · have hs := hd.1
    have h0 : ys[0]? = some (ys[0]'(by simp at hs; omega)) := by simp
    obtain ⟨g, o, c', e1, e2, e3, e4⟩ := row_open hl (hd.2 0 _ _ rfl h0)
    have e : ys = #[.slice (some ⟨g, o, none⟩) l c'] := by
      apply Array.ext
      · simpa using hs.symm
      · intro i i1 i2
        have : i = 0 := by simp at i2; omega
        subst this
        simpa using e1
    rw [e]
    exact h w g o c' e2 e3 e4
theorem gL3 (a b c : Int) : gL (pick3 a b c) 3 = gI (gI a b) c := by
  show gI (gI (gI 0 (pick3 a b c 0)) (pick3 a b c 1)) (pick3 a b c 2) = _
  simp only [pick3]
  rw [gI_zero_left, gI_abs]
theorem T1r_0 {ds : List DArg} {v : Value} {C : List Prop} (h : pPt ds = some (v, C)) (hC : AllP C) : Res Try.prog 139 ds v := by
  unfold pPt at h
  split at h
  · obtain ⟨rfl, rfl⟩ : _ ∧ _ := by simpa using h
    exact res_specValid _ _
  · cases h
theorem T1r_1 {ds : List DArg} {v : Value} {C : List Prop} (h : pPt ds = some (v, C)) (hC : AllP C) : Res Try.prog 151 ds v := by
  unfold pPt at h
  split at h
  · obtain ⟨rfl, rfl⟩ : _ ∧ _ := by simpa using h
    exact res_implValid _ _
  · cases h
theorem T1r_2 {ds : List DArg} {v : Value} {C : List Prop} (h : pCmp ds = some (v, C)) (hC : AllP C) : Res Try.prog 154 ds v := by
  unfold pCmp at h
  split at h
  · obtain ⟨rfl, rfl⟩ : _ ∧ _ := by simpa using h
    exact res_compare _ _
  · cases h
theorem T1r_3 {ds : List DArg} {v : Value} {C : List Prop} (h : pSign ds = some (v, C)) (hC : AllP C) : Res Try.prog 112 ds v := by
  unfold pSign at h
  split at h
  · obtain ⟨rfl, rfl⟩ : _ ∧ _ := by simpa using h
    exact res_specSign _
  · cases h
theorem T1r_4 {ds : List DArg} {v : Value} {C : List Prop} (h : pSign ds = some (v, C)) (hC : AllP C) : Res Try.prog 120 ds v := by
  unfold pSign at h
  split at h
  · obtain ⟨rfl, rfl⟩ : _ ∧ _ := by simpa using h
    exact res_implSign _
  · cases h
theorem T1r_5 {ds : List DArg} {v : Value} {C : List Prop} (h : pGcd ds = some (v, C)) (hC : AllP C) : Res Try.prog 146 ds v := by
  unfold pGcd at h
  split at h
  · obtain ⟨rfl, rfl⟩ : _ ∧ _ := by simpa using h
    exact res_calls (by kernel_rfl) rfl rfl fun w => below_same (specGcd_any _ _ w hC.1 hC.2.1)
  · cases h
theorem T1r_6 {ds : List DArg} {v : Value} {C : List Prop} (h : pAbs ds = some (v, C)) (hC : AllP C) : Res Try.prog 140 ds v := by
  unfold pAbs at h
  split at h
  · obtain ⟨rfl, rfl⟩ : _ ∧ _ := by simpa using h
    exact res_calls (by kernel_rfl) rfl rfl fun w => below_same (abs_any _ w (by have := hC.1.1; omega))
  · cases h
theorem T1r_7 {ds : List DArg} {v : Value} {C : List Prop} (h : pGcdL ds = some (v, C)) (hC : AllP C) : Res Try.prog 107 ds v := by
  unfold pGcdL at h
  split at h
  · rename_i x y
    obtain ⟨rfl, rfl⟩ : _ ∧ _ := by simpa using h
    refine res_row (by decide) (by kernel_rfl) rfl rfl fun w g o c' _ hg hcell => ?_
    have := implGcd_any (some ⟨g, o, none⟩) 2 c' (pick2 x y) w (by omega) (fun k hk => ⟨g, o, rfl, hg, by
      match k, hk with
      | 0, _ => exact hcell 0 _ rfl
      | 1, _ => exact hcell 1 _ rfl⟩) (fun k hk => by
      match k, hk with
      | 0, _ => exact hC.1
      | 1, _ => exact hC.2.1)
    rw [gL2] at this
    exact this
  · rename_i x y z
    obtain ⟨rfl, rfl⟩ : _ ∧ _ := by simpa using h
    refine res_row (by decide) (by kernel_rfl) rfl rfl fun w g o c' _ hg hcell => ?_
    have := implGcd_any (some ⟨g, o, none⟩) 3 c' (pick3 x y z) w (by omega) (fun k hk => ⟨g, o, rfl, hg, by
      match k, hk with
      | 0, _ => exact hcell 0 _ rfl
      | 1, _ => exact hcell 1 _ rfl
      | 2, _ => exact hcell 2 _ rfl⟩) (fun k hk => by
      match k, hk with
      | 0, _ => exact hC.1
      | 1, _ => exact hC.2.1
      | 2, _ => exact hC.2.2.1)
    rw [gL3] at this
    exact this
  · cases h
theorem T1r_8 {ds : List DArg} {v : Value} {C : List Prop} (h : pRatio ds = some (v, C)) (hC : AllP C) : Res Try.prog 103 ds v := by
  unfold pRatio at h
  split at h
  · obtain ⟨rfl, rfl⟩ : _ ∧ _ := by simpa using h
    exact res_calls (by kernel_rfl) rfl rfl fun w => ratio_any _ _ w hC.1 hC.2.1 hC.2.2.1
  · cases h
theorem T1r_9 {ds : List DArg} {v : Value} {C : List Prop} (h : pRatio ds = some (v, C)) (hC : AllP C) : Res Try.prog 125 ds v := by
  unfold pRatio at h
  split at h
  · obtain ⟨rfl, rfl⟩ : _ ∧ _ := by simpa using h
    exact res_calls (by kernel_rfl) rfl rfl fun w => lowest_any _ _ w hC.1 hC.2.1 hC.2.2.1
  · cases h
theorem T1r_10 {ds : List DArg} {v : Value} {C : List Prop} (h : pAll ds = some (v, C)) (hC : AllP C) : Res Try.prog 117 ds v := by
  unfold pAll at h
  split at h
  · rename_i ax ay bx b_y
    obtain ⟨rfl, rfl⟩ : _ ∧ _ := by simpa using h
    refine res_row (by decide) (by kernel_rfl) rfl rfl fun w g o c' _ hg hcell => ?_
    have := allValid_any (some ⟨g, o, none⟩) 2 c' (pick2 ax bx) (pick2 ay b_y) w (by omega) (fun k hk => ⟨g, o, rfl, hg, by
      match k, hk with
      | 0, _ => exact ⟨hcell 0 _ rfl, hcell 1 _ rfl⟩
      | 1, _ => exact ⟨hcell 2 _ rfl, hcell 3 _ rfl⟩⟩)
    rw [allB2] at this
    exact this
  · rename_i ax ay bx b_y cx cy
    obtain ⟨rfl, rfl⟩ : _ ∧ _ := by simpa using h
    refine res_row (by decide) (by kernel_rfl) rfl rfl fun w g o c' _ hg hcell => ?_
    have := allValid_any (some ⟨g, o, none⟩) 3 c' (pick3 ax bx cx) (pick3 ay b_y cy) w (by omega) (fun k hk => ⟨g, o, rfl, hg, by
      match k, hk with
      | 0, _ => exact ⟨hcell 0 _ rfl, hcell 1 _ rfl⟩
      | 1, _ => exact ⟨hcell 2 _ rfl, hcell 3 _ rfl⟩
      | 2, _ => exact ⟨hcell 4 _ rfl, hcell 5 _ rfl⟩⟩)
    rw [allB3] at this
    exact this
  · rename_i ax ay bx b_y cx cy dx dy
    obtain ⟨rfl, rfl⟩ : _ ∧ _ := by simpa using h
    refine res_row (by decide) (by kernel_rfl) rfl rfl fun w g o c' _ hg hcell => ?_
    have := allValid_any (some ⟨g, o, none⟩) 4 c' (fun k => match k with
      | 0 => ax
      | 1 => bx
      | 2 => cx
      | _ => dx) (fun k => match k with
      | 0 => ay
      | 1 => b_y
      | 2 => cy
      | _ => dy) w (by omega) (fun k hk => ⟨g, o, rfl, hg, by
      match k, hk with
      | 0, _ => exact ⟨hcell 0 _ rfl, hcell 1 _ rfl⟩
      | 1, _ => exact ⟨hcell 2 _ rfl, hcell 3 _ rfl⟩
      | 2, _ => exact ⟨hcell 4 _ rfl, hcell 5 _ rfl⟩
      | 3, _ => exact ⟨hcell 6 _ rfl, hcell 7 _ rfl⟩⟩)
    rw [allB_succ, allB_succ, allB_succ, allB_succ, allB_zero] at this
    simpa [Bool.and_assoc] using this
  · cases h
theorem T1_ok : TabOk Try.prog T1 := by
  intro f ds v C h hC
  unfold T1 at h
  (try split at h)
  all_goals first | with_reducible exact T1r_0 h hC | with_reducible exact T1r_1 h hC | with_reducible exact T1r_2 h hC | with_reducible exact T1r_3 h hC | with_reducible exact T1r_4 h hC | with_reducible exact T1r_5 h hC | with_reducible exact T1r_6 h hC | with_reducible exact T1r_7 h hC | with_reducible exact T1r_8 h hC | with_reducible exact T1r_9 h hC | with_reducible exact T1r_10 h hC | cases h
end Go.Proofs.Ytolodncpegajkaa
namespace Go.Proofs.Ytolodncpegajkaa
set_option linter.all false
open Go.RowKit
def EM : Env := mkE B0 (fun _ _ => none) (fun _ => noL)
theorem EM_ok : EnvOk Try.prog EM := mkEOk B0_ok (fun _ _ _ _ _ h => (by cases h)) (fun _ _ _ => noL_good)
/-- k, k + 1, ..: so many. -/
def marks : Int → Nat → List Int
  | _, 0 => []
  | k, n + 1 => k :: marks (k + 1) n
theorem marks_length : ∀ (n : Nat) (k : Int), (marks k n).length = n
  | 0, _ => rfl
  | n + 1, k => by simp [marks, marks_length n]
theorem marks_get : ∀ (n : Nat) (k : Int) (i : Nat), i < n → (marks k n).getD i 0 = k + i
  | 0, _, i, h => by omega
  | n + 1, k, 0, _ => by simp [marks]
  | n + 1, k, i + 1, h => by
    have := marks_get n (k + 1) i (by omega)
    simp only [marks, List.getD_eq_getElem?_getD, List.getElem?_cons_succ] at this ⊢
    rw [this]
    omega
theorem setInts_one (xs : List Int) (i : Nat) (h : i < xs.length) (a : Int) : setInts xs i [a] = xs.set i a := by
  unfold setInts
  rw [List.set_eq_take_append_cons_drop, if_pos h]
  simp
theorem vI0 {k : Int} {n : Nat} (h : n = 0) : Value.int .i64 k = .int .i64 (k + (n : Int)) := by subst h; simp
noncomputable def c_markI : Code := ((loopsOf (codeOf Try.f60))[0]?).getD .skip
def k_markI : Ex → List Nat := keeps [0, 1, 5] [(0, [1])] [4]
def s_markI (n : Nat) (k0 : Int) : Nat × (List Int) → St := fun (i, ys) => ⟨[.slice (some ⟨0, 0, none⟩) n n, .int .i64 (k0 + i), topV, topV, topV, .int .i64 i, topV, topV, topV, topV, topV, topV, topV, topV, topV, topV, topV, topV, topV], [some ⟨.row 3 1, .ints ys⟩]⟩
def re_markI : Nat × (List Int) → Ex := fun _ => .exit 0
def rs_markI (n : Nat) (k0 : Int) : Nat × (List Int) → St := fun (i, ys) => ⟨[topV, .int .i64 (k0 + n), topV, topV, topV, topV, topV, topV, topV, topV, topV, topV, topV, topV, topV, topV, topV, topV, topV], [some ⟨.row 3 1, .ints (marks k0 n)⟩]⟩
set_option maxRecDepth 100000 in
theorem tr_markI (n : Nat) (k0 : Int) (i : Nat) (ys : List Int) : bodyL Try.prog EM 30 12 noL 1 c_markI k_markI 1 (s_markI n k0 (i, ys)) = brT (decide ((↑i : Int) < (↑n : Int))) (.need ((0 : Int) ≤ (↑i : Int) ∧ (↑i : Int) < (↑n : Int)) (.need ((0 : Nat) + (↑i : Int).toNat * (1 : Nat) + (1 : Nat) ≤ ys.length) (.leaf .normal ⟨[.slice (some ⟨0, 0, none⟩) (n) (n), .int .i64 (IntKind.i64.wrap (k0 + (↑i : Int) + 1)), topV, topV, topV, .int .i64 (IntKind.i64.wrap ((↑i : Int) + 1)), topV, topV, topV, topV, topV, topV, topV, topV, topV, topV, topV, topV, topV], [some ⟨.row 3 1, .ints (setInts ys (0 + (↑i : Int).toNat * 1) [k0 + (↑i : Int)])⟩]⟩))) (.leaf (.exit 0) ⟨[topV, .int .i64 (k0 + (↑i : Int)), topV, topV, topV, topV, topV, topV, topV, topV, topV, topV, topV, topV, topV, topV, topV, topV, topV], [some ⟨.row 3 1, .ints (ys)⟩]⟩) := by kernel_rfl
set_option maxRecDepth 100000 in
theorem nl_markI : loopsOf c_markI = [] := by kernel_rfl
def inv_markI (n : Nat) (k0 : Int) : Nat × (List Int) → Prop := fun (i, ys) => i ≤ n ∧ ys.length = n ∧ ys.take i = (marks k0 n).take i
def me_markI (n : Nat) (k0 : Int) : Nat × (List Int) → Nat := fun (i, ys) => n - i
/-- A round of this loop. -/
def Round_markI (n : Nat) (k0 : Int) : Prop := ∀ xx : Nat × (List Int), inv_markI n k0 xx → (bodyL Try.prog EM 30 12 noL 1 c_markI k_markI 1 (s_markI n k0 xx)).ok (RoundEnd 1 (s_markI n k0) (inv_markI n k0) (me_markI n k0) re_markI (rs_markI n k0) xx) (fun _ _ => False)
def e_markI (s : St) (k : Ex → St → Tree) : Option Tree := match Nat.beq s.tmps.length 19, pickL s.tmps [0, 1, 5], s.mem with
  | true, [.slice (some ⟨0, 0, none⟩) n _, .int .i64 k1, .int .i64 i], [some ⟨.row 3 1, .ints xs⟩] => some (needs [i = 0, xs.length = n, n ≤ 1000000000, 0 ≤ k1 ∧ k1 ≤ 1000000000] (k (.exit 0) ⟨[topV, .int .i64 (k1 + n), topV, topV, topV, topV, topV, topV, topV, topV, topV, topV, topV, topV, topV, topV, topV, topV, topV], [some ⟨.row 3 1, .ints (marks k1 n)⟩]⟩))
  | _, _, _ => none
noncomputable def c_markP : Code := ((loopsOf (codeOf Try.f59))[0]?).getD .skip
def k_markP : Ex → List Nat := keeps [0, 1, 5] [(0, [1])] [4]
def s_markP (n : Nat) (k0 : Int) : Nat × (List Int) → St := fun (i, ys) => ⟨[.slice (some ⟨0, 0, none⟩) n n, .int .i64 (k0 + (i * 2 : Nat)), topV, topV, topV, .int .i64 i, topV, topV, topV, topV, topV, topV, topV, topV, topV, topV, topV, topV, topV, topV, topV, topV, topV, topV, topV, topV, topV], [some ⟨.row 37 2, .ints ys⟩]⟩
def re_markP : Nat × (List Int) → Ex := fun _ => .exit 0
def rs_markP (n : Nat) (k0 : Int) : Nat × (List Int) → St := fun (i, ys) => ⟨[topV, .int .i64 (k0 + (n * 2 : Nat)), topV, topV, topV, topV, topV, topV, topV, topV, topV, topV, topV, topV, topV, topV, topV, topV, topV, topV, topV, topV, topV, topV, topV, topV, topV], [some ⟨.row 37 2, .ints (marks k0 (n * 2))⟩]⟩
set_option maxRecDepth 100000 in
theorem tr_markP (n : Nat) (k0 : Int) (i : Nat) (ys : List Int) : bodyL Try.prog EM 30 12 noL 1 c_markP k_markP 1 (s_markP n k0 (i, ys)) = brT (decide ((↑i : Int) < (↑n : Int))) (.need ((0 : Int) ≤ (↑i : Int) ∧ (↑i : Int) < (↑n : Int)) (.need ((0 : Nat) + (↑i : Int).toNat * (2 : Nat) + (0 : Nat) + (1 : Nat) ≤ ys.length) (.need ((0 : Int) ≤ (↑i : Int) ∧ (↑i : Int) < (↑n : Int)) (.need ((0 : Nat) + (↑i : Int).toNat * (2 : Nat) + (1 : Nat) + (1 : Nat) ≤ (setInts ys ((0 : Nat) + (↑i : Int).toNat * (2 : Nat) + (0 : Nat)) [k0 + (↑(i * (2 : Nat)) : Int)]).length) (.leaf .normal ⟨[.slice (some ⟨0, 0, none⟩) (n) (n), .int .i64 (IntKind.i64.wrap (IntKind.i64.wrap (k0 + (↑(i * 2) : Int) + 1) + 1)), topV, topV, topV, .int .i64 (IntKind.i64.wrap ((↑i : Int) + 1)), topV, topV, topV, topV, topV, topV, topV, topV, topV, topV, topV, topV, topV, topV, topV, topV, topV, topV, topV, topV, topV], [some ⟨.row 37 2, .ints (setInts (setInts ys (0 + (↑i : Int).toNat * 2 + 0) [k0 + (↑(i * 2) : Int)]) (0 + (↑i : Int).toNat * 2 + 1) [IntKind.i64.wrap (k0 + (↑(i * 2) : Int) + 1)])⟩]⟩))))) (.leaf (.exit 0) ⟨[topV, .int .i64 (k0 + (↑(i * 2) : Int)), topV, topV, topV, topV, topV, topV, topV, topV, topV, topV, topV, topV, topV, topV, topV, topV, topV, topV, topV, topV, topV, topV, topV, topV, topV], [some ⟨.row 37 2, .ints (ys)⟩]⟩) := by kernel_rfl
set_option maxRecDepth 100000 in
theorem nl_markP : loopsOf c_markP = [] := by kernel_rfl
def inv_markP (n : Nat) (k0 : Int) : Nat × (List Int) → Prop := fun (i, ys) => i ≤ n ∧ ys.length = n * 2 ∧ ys.take (i * 2) = (marks k0 (n * 2)).take (i * 2)
def me_markP (n : Nat) (k0 : Int) : Nat × (List Int) → Nat := fun (i, ys) => n - i
/-- A round of this loop. -/
def Round_markP (n : Nat) (k0 : Int) : Prop := ∀ xx : Nat × (List Int), inv_markP n k0 xx → (bodyL Try.prog EM 30 12 noL 1 c_markP k_markP 1 (s_markP n k0 xx)).ok (RoundEnd 1 (s_markP n k0) (inv_markP n k0) (me_markP n k0) re_markP (rs_markP n k0) xx) (fun _ _ => False)
def e_markP (s : St) (k : Ex → St → Tree) : Option Tree := match Nat.beq s.tmps.length 27, pickL s.tmps [0, 1, 5], s.mem with
  | true, [.slice (some ⟨0, 0, none⟩) n _, .int .i64 k1, .int .i64 i], [some ⟨.row 37 2, .ints xs⟩] => some (needs [i = 0, xs.length = n * 2, n ≤ 1000000000, 0 ≤ k1 ∧ k1 ≤ 1000000000] (k (.exit 0) ⟨[topV, .int .i64 (k1 + (n * 2 : Nat)), topV, topV, topV, topV, topV, topV, topV, topV, topV, topV, topV, topV, topV, topV, topV, topV, topV, topV, topV, topV, topV, topV, topV, topV, topV], [some ⟨.row 37 2, .ints (marks k1 (n * 2))⟩]⟩))
  | _, _, _ => none
set_option maxRecDepth 100000 in
theorem round_markI (n : Nat) (k0 : Int) (h : n ≤ 1000000000) (hk : 0 ≤ k0 ∧ k0 ≤ 1000000000) : Round_markI n k0 := by
  rintro ⟨i, ys⟩ ⟨h1, h2, h3⟩
  rw [tr_markI]
  simp only [brT_ok, Tree.ok, decide_eq_true_eq, decide_eq_false_iff_not, Int.toNat_natCast, Nat.zero_add, Nat.mul_one]
  refine ⟨fun hlt => ⟨by omega, by omega, ?_⟩, fun hge => ?_⟩
  · rw [wsucc (n := n) (by omega) h, setInts_one _ _ (by omega)]
    have e : IntKind.i64.wrap (k0 + (i : Int) + 1) = k0 + ((i + 1 : Nat) : Int) := by rw [wr (by omega)]; omega
    rw [e]
    refine ⟨(i + 1, ys.set i (k0 + i)), [], ⟨by omega, by simp [h2], ?_⟩, ?_, rfl, rfl, ?_⟩
    · have := take_set_succ (l := ys) (m := marks k0 n) (i := i) (by omega) (by rw [marks_length]; omega) h3 0
      rwa [marks_get _ _ _ (by omega)] at this
    · show n - (i + 1) < n - i; omega
    · repeat' (first | exact True.intro | exact rfl | exact fun _ => rfl | refine And.intro ?_ ?_)
  · obtain rfl : i = n := by omega
    have e : ys = marks k0 i := by
      rw [List.take_of_length_le (by omega), List.take_of_length_le (by rw [marks_length]; omega)] at h3
      exact h3
    subst e
    refine ⟨rfl, [], ?_⟩
    repeat' (first | exact True.intro | exact rfl | exact fun _ => rfl | refine And.intro ?_ ?_)
set_option maxRecDepth 100000 in
theorem lg_markI : LoopE Try.prog e_markI c_markI := by
  intro s k t F H hlt ht
  unfold e_markI at hlt
  split at hlt
  rotate_left
  · cases hlt
  rename_i hlen hpick hmem
  obtain ⟨tmps, mem⟩ := s
  simp only at hlen hpick hmem
  subst hmem
  obtain rfl := Option.some.inj hlt
  obtain ⟨⟨rfl, h1, h2, h3, _⟩, ht2⟩ := needs_ok ht
  clear ht hlt
  refine ⟨_, _, ht2, loop_run mixed EM_ok (s_markI _ _) (inv_markI _ _) (me_markI _ _) re_markI (rs_markI _ _) k_markI (fun _ => rfl) (noLoops nl_markI) (round_markI _ _ h2 h3) (x := (0, _)) ⟨Nat.zero_le _, h1, rfl⟩ (π := []) rfl ?_⟩
  refine ⟨rfl, rfl, ?_, wvs_spread' [0, 1, 5] hlen rfl ?_⟩
  · repeat' (first | exact True.intro | exact rfl | exact wv_top _ _ | exact fun _ => rfl | assumption | exact Eq.symm (by assumption) | exact vI0 rfl | refine And.intro ?_ ?_)
  · rw [hpick]
    repeat' (first | exact True.intro | exact rfl | exact wv_top _ _ | exact fun _ => rfl | assumption | exact Eq.symm (by assumption) | exact vI0 rfl | refine And.intro ?_ ?_)
theorem take_set_two {l m : List Int} {i : Nat} (hl : i * 2 + 1 < l.length) (hm : i * 2 + 1 < m.length) (h : l.take (i * 2) = m.take (i * 2)) : ((l.set (i * 2) (m.getD (i * 2) 0)).set (i * 2 + 1) (m.getD (i * 2 + 1) 0)).take ((i + 1) * 2) = m.take ((i + 1) * 2) := by
  have h1 := take_set_succ (l := l) (m := m) (i := i * 2) (by omega) (by omega) h 0
  have h2 := take_set_succ (l := l.set (i * 2) (m.getD (i * 2) 0)) (m := m) (i := i * 2 + 1) (by simp; omega) (by omega) h1 0
  rw [show (i + 1) * 2 = i * 2 + 1 + 1 by omega]
  exact h2
set_option maxRecDepth 100000 in
theorem round_markP (n : Nat) (k0 : Int) (h : n ≤ 1000000000) (hk : 0 ≤ k0 ∧ k0 ≤ 1000000000) : Round_markP n k0 := by
  rintro ⟨i, ys⟩ ⟨h1, h2, h3⟩
  rw [tr_markP]
  simp only [brT_ok, Tree.ok, decide_eq_true_eq, decide_eq_false_iff_not, Int.toNat_natCast, Nat.zero_add, Nat.add_zero]
  refine ⟨fun hlt => ?_, fun hge => ?_⟩
  · rw [wsucc (n := n) (by omega) h, setInts_one _ _ (by omega), setInts_one _ _ (by simp; omega)]
    have e0 : IntKind.i64.wrap (k0 + ((i * 2 : Nat) : Int) + 1) = k0 + ((i * 2 + 1 : Nat) : Int) := by rw [wr (by omega)]; omega
    have e : IntKind.i64.wrap (k0 + ((i * 2 + 1 : Nat) : Int) + 1) = k0 + (((i + 1) * 2 : Nat) : Int) := by rw [wr (by omega)]; omega
    rw [e0, e]
    refine ⟨by omega, by omega, by omega, by simp; omega, (i + 1, (ys.set (i * 2) (k0 + ((i * 2 : Nat) : Int))).set (i * 2 + 1) (k0 + ((i * 2 + 1 : Nat) : Int))), [], ⟨by omega, by simp [h2], ?_⟩, ?_, rfl, rfl, ?_⟩
    · have := take_set_two (l := ys) (m := marks k0 (n * 2)) (i := i) (by omega) (by rw [marks_length]; omega) h3
      rwa [marks_get _ _ _ (by omega), marks_get _ _ _ (by omega)] at this
    · show n - (i + 1) < n - i; omega
    · repeat' (first | exact True.intro | exact rfl | exact fun _ => rfl | refine And.intro ?_ ?_)
  · obtain rfl : i = n := by omega
    have e : ys = marks k0 (i * 2) := by
      rw [List.take_of_length_le (by omega), List.take_of_length_le (by rw [marks_length]; omega)] at h3
      exact h3
    subst e
    refine ⟨rfl, [], ?_⟩
    repeat' (first | exact True.intro | exact rfl | exact fun _ => rfl | refine And.intro ?_ ?_)
set_option maxRecDepth 100000 in
theorem lg_markP : LoopE Try.prog e_markP c_markP := by
  intro s k t F H hlt ht
  unfold e_markP at hlt
  split at hlt
  rotate_left
  · cases hlt
  rename_i hlen hpick hmem
  obtain ⟨tmps, mem⟩ := s
  simp only at hlen hpick hmem
  subst hmem
  obtain rfl := Option.some.inj hlt
  obtain ⟨⟨rfl, h1, h2, h3, _⟩, ht2⟩ := needs_ok ht
  clear ht hlt
  refine ⟨_, _, ht2, loop_run mixed EM_ok (s_markP _ _) (inv_markP _ _) (me_markP _ _) re_markP (rs_markP _ _) k_markP (fun _ => rfl) (noLoops nl_markP) (round_markP _ _ h2 h3) (x := (0, _)) ⟨Nat.zero_le _, h1, rfl⟩ (π := []) rfl ?_⟩
  refine ⟨rfl, rfl, ?_, wvs_spread' [0, 1, 5] hlen rfl ?_⟩
  · repeat' (first | exact True.intro | exact rfl | exact wv_top _ _ | exact fun _ => rfl | assumption | exact Eq.symm (by assumption) | exact vI0 rfl | refine And.intro ?_ ?_)
  · rw [hpick]
    repeat' (first | exact True.intro | exact rfl | exact wv_top _ _ | exact fun _ => rfl | assumption | exact Eq.symm (by assumption) | exact vI0 rfl | refine And.intro ?_ ?_)
noncomputable def c_heldI : Code := ((loopsOf (codeOf Try.f61))[0]?).getD .skip
def k_heldI : Ex → List Nat := keeps [0, 1, 5] [(0, [1])] [4]
def s_heldI (n : Nat) (k0 : Int) : Nat → St := fun i => ⟨[.slice (some ⟨0, 0, none⟩) n n, .int .i64 (k0 + i), topV, topV, topV, .int .i64 i, topV, topV, topV, topV, topV, topV, topV, topV, topV, topV, topV, topV, topV, topV, topV], [some ⟨.view, .ints (marks k0 n)⟩, none]⟩
def re_heldI : Nat → Ex := fun _ => .exit 0
def rs_heldI (n : Nat) (k0 : Int) : Nat → St := fun i => ⟨[topV, .int .i64 (k0 + n), topV, topV, topV, topV, topV, topV, topV, topV, topV, topV, topV, topV, topV, topV, topV, topV, topV, topV, topV], [some ⟨.view, .ints (marks k0 n)⟩, none]⟩
set_option maxRecDepth 100000 in
theorem tr_heldI (n : Nat) (k0 : Int) (i : Nat) : bodyL Try.prog EM 30 12 noL 1 c_heldI k_heldI 2 (s_heldI n k0 i) = brT (decide ((↑i : Int) < (↑n : Int))) (.need ((0 : Int) ≤ (↑i : Int) ∧ (↑i : Int) < (↑n : Int)) (.need ((0 : Nat) + (↑i : Int).toNat * (1 : Nat) < (marks k0 n).length) (brT (!(marks k0 n).getD (0 + (↑i : Int).toNat * 1) 0 == k0 + (↑i : Int)) (.leaf .ret ⟨[topV, topV, topV, topV, .int .i64 (-1), topV, topV, topV, topV, topV, topV, topV, topV, topV, topV, topV, topV, topV, topV, topV, topV], [some ⟨.view, .ints (marks k0 n)⟩, none]⟩) (.leaf .normal ⟨[.slice (some ⟨0, 0, none⟩) (n) (n), .int .i64 (IntKind.i64.wrap (k0 + (↑i : Int) + 1)), topV, topV, topV, .int .i64 (IntKind.i64.wrap ((↑i : Int) + 1)), topV, topV, topV, topV, topV, topV, topV, topV, topV, topV, topV, topV, topV, topV, topV], [some ⟨.view, .ints (marks k0 n)⟩, none]⟩)))) (.leaf (.exit 0) ⟨[topV, .int .i64 (k0 + (↑i : Int)), topV, topV, topV, topV, topV, topV, topV, topV, topV, topV, topV, topV, topV, topV, topV, topV, topV, topV, topV], [some ⟨.view, .ints (marks k0 n)⟩, none]⟩) := by kernel_rfl
set_option maxRecDepth 100000 in
theorem nl_heldI : loopsOf c_heldI = [] := by kernel_rfl
def inv_heldI (n : Nat) (k0 : Int) : Nat → Prop := fun i => i ≤ n
def me_heldI (n : Nat) (k0 : Int) : Nat → Nat := fun i => n - i
/-- A round of this loop. -/
def Round_heldI (n : Nat) (k0 : Int) : Prop := ∀ xx : Nat, inv_heldI n k0 xx → (bodyL Try.prog EM 30 12 noL 1 c_heldI k_heldI 2 (s_heldI n k0 xx)).ok (RoundEnd 2 (s_heldI n k0) (inv_heldI n k0) (me_heldI n k0) re_heldI (rs_heldI n k0) xx) (fun _ _ => False)
def e_heldI (s : St) (k : Ex → St → Tree) : Option Tree := match Nat.beq s.tmps.length 21, pickL s.tmps [0, 1, 5], s.mem with
  | true, [.slice (some ⟨0, 0, none⟩) n _, .int .i64 k1, .int .i64 i], [some ⟨.view, .ints xs⟩, none] => some (needs [i = 0, xs = marks k1 n, n ≤ 1000000000, 0 ≤ k1 ∧ k1 ≤ 1000000000] (k (.exit 0) ⟨[topV, .int .i64 (k1 + n), topV, topV, topV, topV, topV, topV, topV, topV, topV, topV, topV, topV, topV, topV, topV, topV, topV, topV, topV], [some ⟨.view, .ints (marks k1 n)⟩, none]⟩))
  | _, _, _ => none
set_option maxRecDepth 100000 in
theorem round_heldI (n : Nat) (k0 : Int) (h : n ≤ 1000000000) (hk : 0 ≤ k0 ∧ k0 ≤ 1000000000) : Round_heldI n k0 := by
  intro i h1
  have h1 : i ≤ n := h1
  rw [tr_heldI]
  simp only [brT_ok, Tree.ok, decide_eq_true_eq, decide_eq_false_iff_not, Int.toNat_natCast, Nat.zero_add, Nat.mul_one, Bool.not_eq_true', Bool.not_eq_false', beq_iff_eq, beq_eq_false_iff_ne]
  refine ⟨fun hlt => ?_, fun hge => ?_⟩
  · rw [marks_get _ _ _ (by omega), wsucc (n := n) (by omega) h]
    have e : IntKind.i64.wrap (k0 + (i : Int) + 1) = k0 + ((i + 1 : Nat) : Int) := by rw [wr (by omega)]; omega
    rw [e]
    refine ⟨by omega, by rw [marks_length]; omega, fun hc => absurd rfl hc, fun _ => ⟨i + 1, [], ?_, ?_, rfl, rfl, ?_⟩⟩
    · show i + 1 ≤ n; omega
    · show n - (i + 1) < n - i; omega
    · repeat' (first | exact True.intro | exact rfl | exact fun _ => rfl | refine And.intro ?_ ?_)
  · obtain rfl : i = n := by omega
    refine ⟨rfl, [], ?_⟩
    repeat' (first | exact True.intro | exact rfl | exact fun _ => rfl | refine And.intro ?_ ?_)
set_option maxRecDepth 100000 in
theorem lg_heldI : LoopE Try.prog e_heldI c_heldI := by
  intro s k t F H hlt ht
  unfold e_heldI at hlt
  split at hlt
  rotate_left
  · cases hlt
  rename_i hlen hpick hmem
  obtain ⟨tmps, mem⟩ := s
  simp only at hlen hpick hmem
  subst hmem
  obtain rfl := Option.some.inj hlt
  obtain ⟨⟨rfl, rfl, h2, h3, _⟩, ht2⟩ := needs_ok ht
  clear ht hlt
  refine ⟨_, _, ht2, loop_run mixed EM_ok (s_heldI _ _) (inv_heldI _ _) (me_heldI _ _) re_heldI (rs_heldI _ _) k_heldI (fun _ => rfl) (noLoops nl_heldI) (round_heldI _ _ h2 h3) (x := 0) (Nat.zero_le _) (π := []) rfl ?_⟩
  refine ⟨rfl, rfl, ?_, wvs_spread' [0, 1, 5] hlen rfl ?_⟩
  · repeat' (first | exact True.intro | exact rfl | exact wv_top _ _ | exact fun _ => rfl | assumption | exact Eq.symm (by assumption) | exact vI0 rfl | refine And.intro ?_ ?_)
  · rw [hpick]
    repeat' (first | exact True.intro | exact rfl | exact wv_top _ _ | exact fun _ => rfl | assumption | exact Eq.symm (by assumption) | exact vI0 rfl | refine And.intro ?_ ?_)
noncomputable def c_eqI : Code := ((loopsOf (codeOf Try.f50))[0]?).getD .skip
def k_eqI : Ex → List Nat := keeps [0, 1, 5] [(0, [])] [4]
def s_eqI (n : Nat) (xs : List Int) : Nat → St := fun i => ⟨[.slice (some ⟨0, 0, none⟩) n n, .slice (some ⟨1, 0, none⟩) n n, topV, topV, topV, .int .i64 i, topV, topV, topV, topV, topV, topV, topV, topV, topV, topV, topV, topV, topV, topV, topV, topV, topV, topV, topV, topV], [some ⟨.view, .ints xs⟩, some ⟨.view, .ints xs⟩]⟩
def re_eqI : Nat → Ex := fun _ => .exit 0
def rs_eqI (n : Nat) (xs : List Int) : Nat → St := fun i => ⟨[topV, topV, topV, topV, topV, topV, topV, topV, topV, topV, topV, topV, topV, topV, topV, topV, topV, topV, topV, topV, topV, topV, topV, topV, topV, topV], [some ⟨.view, .ints xs⟩, some ⟨.view, .ints xs⟩]⟩
set_option maxRecDepth 100000 in
theorem tr_eqI (n : Nat) (xs : List Int) (i : Nat) : bodyL Try.prog EM 30 12 noL 1 c_eqI k_eqI 2 (s_eqI n xs i) = brT (decide ((↑i : Int) < (↑n : Int))) (.need ((0 : Int) ≤ (↑i : Int) ∧ (↑i : Int) < (↑n : Int)) (.need ((0 : Nat) + (↑i : Int).toNat * (1 : Nat) < xs.length) (.need ((0 : Int) ≤ (↑i : Int) ∧ (↑i : Int) < (↑n : Int)) (.need ((0 : Nat) + (↑i : Int).toNat * (1 : Nat) < xs.length) (brT (!xs.getD (0 + (↑i : Int).toNat * 1) 0 == xs.getD (0 + (↑i : Int).toNat * 1) 0) (.leaf .ret ⟨[topV, topV, topV, topV, .bool (false), topV, topV, topV, topV, topV, topV, topV, topV, topV, topV, topV, topV, topV, topV, topV, topV, topV, topV, topV, topV, topV], [some ⟨.view, .ints (xs)⟩, some ⟨.view, .ints (xs)⟩]⟩) (.leaf .normal ⟨[.slice (some ⟨0, 0, none⟩) (n) (n), .slice (some ⟨1, 0, none⟩) (n) (n), topV, topV, topV, .int .i64 (IntKind.i64.wrap ((↑i : Int) + 1)), topV, topV, topV, topV, topV, topV, topV, topV, topV, topV, topV, topV, topV, topV, topV, topV, topV, topV, topV, topV], [some ⟨.view, .ints (xs)⟩, some ⟨.view, .ints (xs)⟩]⟩)))))) (.leaf (.exit 0) ⟨[topV, topV, topV, topV, topV, topV, topV, topV, topV, topV, topV, topV, topV, topV, topV, topV, topV, topV, topV, topV, topV, topV, topV, topV, topV, topV], [some ⟨.view, .ints (xs)⟩, some ⟨.view, .ints (xs)⟩]⟩) := by kernel_rfl
set_option maxRecDepth 100000 in
theorem nl_eqI : loopsOf c_eqI = [] := by kernel_rfl
def inv_eqI (n : Nat) (xs : List Int) : Nat → Prop := fun i => i ≤ n
def me_eqI (n : Nat) (xs : List Int) : Nat → Nat := fun i => n - i
/-- A round of this loop. -/
def Round_eqI (n : Nat) (xs : List Int) : Prop := ∀ xx : Nat, inv_eqI n xs xx → (bodyL Try.prog EM 30 12 noL 1 c_eqI k_eqI 2 (s_eqI n xs xx)).ok (RoundEnd 2 (s_eqI n xs) (inv_eqI n xs) (me_eqI n xs) re_eqI (rs_eqI n xs) xx) (fun _ _ => False)
def e_eqI (s : St) (k : Ex → St → Tree) : Option Tree := match Nat.beq s.tmps.length 26, pickL s.tmps [0, 1, 5], s.mem with
  | true, [.slice (some ⟨0, 0, none⟩) n _, .slice (some ⟨1, 0, none⟩) m _, .int .i64 i], [some ⟨.view, .ints xs⟩, some ⟨.view, .ints ys⟩] => some (needs [i = 0, m = n, ys = xs, n ≤ xs.length, n ≤ 1000000000] (k (.exit 0) ⟨[topV, topV, topV, topV, topV, topV, topV, topV, topV, topV, topV, topV, topV, topV, topV, topV, topV, topV, topV, topV, topV, topV, topV, topV, topV, topV], [some ⟨.view, .ints xs⟩, some ⟨.view, .ints xs⟩]⟩))
  | _, _, _ => none
set_option maxRecDepth 100000 in
theorem round_eqI (n : Nat) (xs : List Int) (hx : n ≤ xs.length) (h : n ≤ 1000000000) : Round_eqI n xs := by
  intro i h1
  have h1 : i ≤ n := h1
  rw [tr_eqI]
  simp only [brT_ok, Tree.ok, decide_eq_true_eq, decide_eq_false_iff_not, Int.toNat_natCast, Nat.zero_add, Nat.mul_one, Bool.not_eq_true', Bool.not_eq_false', beq_iff_eq, beq_eq_false_iff_ne]
  refine ⟨fun hlt => ?_, fun hge => ?_⟩
  · rw [wsucc (n := n) (by omega) h]
    refine ⟨by omega, by omega, by omega, by omega, fun hc => absurd rfl hc, fun _ => ⟨i + 1, [], ?_, ?_, rfl, rfl, ?_⟩⟩
    · show i + 1 ≤ n; omega
    · show n - (i + 1) < n - i; omega
    · repeat' (first | exact True.intro | exact rfl | exact fun _ => rfl | refine And.intro ?_ ?_)
  · refine ⟨rfl, [], ?_⟩
    repeat' (first | exact True.intro | exact rfl | exact fun _ => rfl | refine And.intro ?_ ?_)
set_option maxRecDepth 100000 in
theorem lg_eqI : LoopE Try.prog e_eqI c_eqI := by
  intro s k t F H hlt ht
  unfold e_eqI at hlt
  split at hlt
  rotate_left
  · cases hlt
  rename_i hlen hpick hmem
  obtain ⟨tmps, mem⟩ := s
  simp only at hlen hpick hmem
  subst hmem
  obtain rfl := Option.some.inj hlt
  obtain ⟨⟨rfl, rfl, rfl, h1, h2, _⟩, ht2⟩ := needs_ok ht
  clear ht hlt
  refine ⟨_, _, ht2, loop_run mixed EM_ok (s_eqI _ _) (inv_eqI _ _) (me_eqI _ _) re_eqI (rs_eqI _ _) k_eqI (fun _ => rfl) (noLoops nl_eqI) (round_eqI _ _ h1 h2) (x := 0) (Nat.zero_le _) (π := []) rfl ?_⟩
  refine ⟨rfl, rfl, ?_, wvs_spread' [0, 1, 5] hlen rfl ?_⟩
  · repeat' (first | exact True.intro | exact rfl | exact wv_top _ _ | exact fun _ => rfl | assumption | exact Eq.symm (by assumption) | exact vI0 rfl | refine And.intro ?_ ?_)
  · rw [hpick]
    repeat' (first | exact True.intro | exact rfl | exact wv_top _ _ | exact fun _ => rfl | assumption | exact Eq.symm (by assumption) | exact vI0 rfl | refine And.intro ?_ ?_)
end Go.Proofs.Ytolodncpegajkaa
namespace Go.Proofs.Ytolodncpegajkaa
set_option linter.all false
open Go.RowKit
theorem fn_is {f : FuncId} {fn g : Func} (h : Try.prog.funcs[f]? = some g) (hf : Try.prog.funcs[f]? = some fn) : g = fn := by rw [h] at hf; simpa using hf
theorem Lr_markI {fn : Func} (hf : Try.prog.funcs[60]? = some fn) : LoopsGood Try.prog (lt1 e_markI) 0 (codeOf fn) := by
  obtain rfl := fn_is Try.func60 hf
  exact lt1_good lg_markI
theorem Lr_markP {fn : Func} (hf : Try.prog.funcs[59]? = some fn) : LoopsGood Try.prog (lt1 e_markP) 0 (codeOf fn) := by
  obtain rfl := fn_is Try.func59 hf
  exact lt1_good lg_markP
theorem Lr_heldI {fn : Func} (hf : Try.prog.funcs[61]? = some fn) : LoopsGood Try.prog (lt1 e_heldI) 0 (codeOf fn) := by
  obtain rfl := fn_is Try.func61 hf
  exact lt1_good lg_heldI
theorem Lr_eqI {fn : Func} (hf : Try.prog.funcs[50]? = some fn) : LoopsGood Try.prog (lt1 e_eqI) 0 (codeOf fn) := by
  obtain rfl := fn_is Try.func50 hf
  exact lt1_good lg_eqI
def LMrk : FuncId → LT := fun f => match f with
  | 60 => lt1 e_markI
  | 59 => lt1 e_markP
  | 61 => lt1 e_heldI
  | 50 => lt1 e_eqI
  | _ => noL
def EM1 : Env := mkE B0 (fun _ _ => none) LMrk
theorem EM1_ok : EnvOk Try.prog EM1 := mkEOk B0_ok (fun _ _ _ _ _ h => (by cases h)) (by
  intro f fn hf
  unfold LMrk
  split
  all_goals first | with_reducible exact Lr_markI hf | with_reducible exact Lr_markP hf | with_reducible exact Lr_heldI hf | with_reducible exact Lr_eqI hf | with_reducible exact Lr_heldP hf | exact noL_good)
set_option maxRecDepth 100000 in
theorem tr_eqIF (n m : Nat) (xs ys : List Int) : bodyV Try.prog EM1 30 12 50 [.row n (.ints xs), .row m (.ints ys)] = brT (!(↑n : Int) == (↑m : Int)) (.fin (.bool (false)) []) (.need ((0 : Int) = (0 : Int)) (.need (m = n) (.need (ys = xs) (.need (n ≤ xs.length) (.need (n ≤ (1000000000 : Nat)) (.fin (.bool (true)) [])))))) := by kernel_rfl
def Lim (n : Nat) : Prop := n ≤ 1000000000
theorem res_eqI (n : Nat) (xs : List Int) (h : n ≤ xs.length) (hn : Lim n) : Res Try.prog 50 [.row n (.ints xs), .row n (.ints xs)] (.bool true) := by
  refine bodyV_res mixed EM1_ok (m := 30) (n := 12) rfl ?_
  rw [tr_eqIF]
  simp [brT_ok, Tree.ok]
  exact ⟨h, hn⟩
def pEqI : List DArg → Option (Value × List Prop)
  | [.row n (.ints xs), .row m (.ints ys)] => some (.bool true, [n = m, xs = ys, n ≤ xs.length, Lim n])
  | _ => none
theorem pEqI_ok {ds : List DArg} {v : Value} {C : List Prop} (h : pEqI ds = some (v, C)) (hC : AllP C) : Res Try.prog 50 ds v := by
  unfold pEqI at h
  split at h
  · obtain ⟨rfl, rfl⟩ : _ ∧ _ := by simpa using h
    obtain ⟨rfl, rfl, h1, h2, _⟩ := hC
    exact res_eqI _ _ h1 h2
  · cases h
end Go.Proofs.Ytolodncpegajkaa
namespace Go.Proofs.Ytolodncpegajkaa
set_option linter.all false
open Go.RowKit
def E1 : Env := mkE (T1) (fun _ _ => none) (fun _ => noL)
theorem E1_ok : EnvOk Try.prog E1 := mkEOk (T1_ok) (fun _ _ _ _ _ h => (by cases h)) (fun _ _ _ _ _ _ _ _ _ _ _ h => (by cases h))
def vB (p : Pt) : Bool := ptB p.1 p.2
def allV (ps : List Pt) : Bool := ps.all vB
noncomputable def c43 : Code := ((loopsOf (codeOf Try.f91))[0]?).getD .skip
noncomputable def c80 : Code := ((loopsOf (codeOf Try.f117))[0]?).getD .skip
set_option maxRecDepth 100000 in
theorem nl43 : loopsOf c43 = [] := by kernel_rfl
set_option maxRecDepth 100000 in
theorem nl80 : loopsOf c80 = [] := by kernel_rfl
def k43 : Ex → List Nat := keeps [0, 3] [(0, [0])] [2]
def k80 : Ex → List Nat := keeps [5, 6, 7] [] [2]
def s43 (ps : List Pt) (i : Nat) : St := ⟨[.slice (some ⟨0, 0, none⟩) ps.length ps.length, topV, topV, .int .i64 i, topV, topV, topV, topV, topV, topV, topV, topV, topV, topV, topV, topV, topV, topV, topV], [some ⟨.view, .ints (flat ps)⟩]⟩
def s80 (ps : List Pt) (i : Nat) : St := ⟨[topV, topV, topV, topV, topV, .slice (some ⟨0, 0, none⟩) ps.length ps.length, .int .i64 ps.length, .int .i64 i, topV, topV, topV, topV, topV, topV, topV], [some ⟨.view, .ints (flat ps)⟩]⟩
set_option maxRecDepth 100000 in
theorem tr43 (ps : List Pt) (i : Nat) : bodyL Try.prog E1 30 12 noL 1 c43 k43 1 (s43 ps i) = brT (decide ((↑i : Int) < (↑ps.length : Int))) (.need ((0 : Int) ≤ (↑i : Int) ∧ (↑i : Int) < (↑ps.length : Int)) (.need ((0 : Nat) + (↑i : Int).toNat * (2 : Nat) + (2 : Nat) ≤ (flat ps).length) (brT (!ptB ((flat ps).getD (0 + (↑i : Int).toNat * 2) 0) ((flat ps).getD (0 + (↑i : Int).toNat * 2 + 1) 0)) (.leaf .ret ⟨[topV, topV, .bool (false), topV, topV, topV, topV, topV, topV, topV, topV, topV, topV, topV, topV, topV, topV, topV, topV], [some ⟨.view, .ints (flat ps)⟩]⟩) (.leaf .normal ⟨[.slice (some ⟨0, 0, none⟩) (ps.length) (ps.length), topV, topV, .int .i64 (IntKind.i64.wrap ((↑i : Int) + 1)), topV, topV, topV, topV, topV, topV, topV, topV, topV, topV, topV, topV, topV, topV, topV], [some ⟨.view, .ints (flat ps)⟩]⟩)))) (.leaf (.exit 0) ⟨[.slice (some ⟨0, 0, none⟩) (ps.length) (ps.length), topV, topV, topV, topV, topV, topV, topV, topV, topV, topV, topV, topV, topV, topV, topV, topV, topV, topV], [some ⟨.view, .ints (flat ps)⟩]⟩) := by kernel_rfl
set_option maxRecDepth 100000 in
theorem tr80 (ps : List Pt) (i : Nat) : bodyL Try.prog E1 30 12 noL 1 c80 k80 1 (s80 ps i) = brT (decide ((↑i : Int) < (↑ps.length : Int))) (.need ((0 : Int) ≤ (↑i : Int) ∧ (↑i : Int) < (↑ps.length : Int)) (.need ((0 : Nat) + (↑i : Int).toNat * (2 : Nat) + (2 : Nat) ≤ (flat ps).length) (brT (!ptB ((flat ps).getD (0 + (↑i : Int).toNat * 2) 0) ((flat ps).getD (0 + (↑i : Int).toNat * 2 + 1) 0)) (.leaf .ret ⟨[topV, topV, .bool (false), topV, topV, topV, topV, topV, topV, topV, topV, topV, topV, topV, topV], [some ⟨.view, .ints (flat ps)⟩]⟩) (.leaf .normal ⟨[topV, topV, topV, topV, topV, .slice (some ⟨0, 0, none⟩) (ps.length) (ps.length), .int .i64 ((↑ps.length : Int)), .int .i64 (IntKind.i64.wrap ((↑i : Int) + 1)), topV, topV, topV, topV, topV, topV, topV], [some ⟨.view, .ints (flat ps)⟩]⟩)))) (.leaf (.exit 0) ⟨[topV, topV, topV, topV, topV, topV, topV, topV, topV, topV, topV, topV, topV, topV, topV], [some ⟨.view, .ints (flat ps)⟩]⟩) := by kernel_rfl
def re43 (ps : List Pt) (i : Nat) : Ex := bif (ps.drop i).all vB then .exit 0 else .ret
def rs43 (ps : List Pt) (i : Nat) : St := bif (ps.drop i).all vB then ⟨[.slice (some ⟨0, 0, none⟩) ps.length ps.length, topV, topV, topV, topV, topV, topV, topV, topV, topV, topV, topV, topV, topV, topV, topV, topV, topV, topV], [some ⟨.view, .ints (flat ps)⟩]⟩ else ⟨[topV, topV, .bool false, topV, topV, topV, topV, topV, topV, topV, topV, topV, topV, topV, topV, topV, topV, topV, topV], [some ⟨.view, .ints (flat ps)⟩]⟩
def re80 (ps : List Pt) (i : Nat) : Ex := bif (ps.drop i).all vB then .exit 0 else .ret
def rs80 (ps : List Pt) (i : Nat) : St := bif (ps.drop i).all vB then ⟨[topV, topV, topV, topV, topV, topV, topV, topV, topV, topV, topV, topV, topV, topV, topV], [some ⟨.view, .ints (flat ps)⟩]⟩ else ⟨[topV, topV, .bool false, topV, topV, topV, topV, topV, topV, topV, topV, topV, topV, topV, topV], [some ⟨.view, .ints (flat ps)⟩]⟩
theorem round43 (ps : List Pt) (hn : ps.length ≤ 1000000000) (i : Nat) (hi : i ≤ ps.length) :
    (bodyL Try.prog E1 30 12 noL 1 c43 k43 1 (s43 ps i)).ok (RoundEnd 1 (s43 ps) (fun i => i ≤ ps.length) (fun i => ps.length - i) (re43 ps) (rs43 ps) i) (fun _ _ => False) := by
  rw [tr43]
  simp only [brT_ok, Tree.ok, decide_eq_true_eq, decide_eq_false_iff_not, Int.toNat_natCast, Nat.zero_add, flat_length, flat_get0, flat_get1, Bool.not_eq_true', Bool.not_eq_false']
  refine ⟨fun hlt => ⟨by omega, by omega, fun hv => ?_, fun hv => ?_⟩, fun hge => ?_⟩
  · have e : (ps.drop i).all vB = false := by rw [all_drop (by omega) (0, 0)]; simp only [vB, hv, Bool.false_and]
    refine ⟨by simp only [re43, e, cond_false], [], ?_⟩
    simp only [rs43, e, cond_false]
    repeat' (first | exact True.intro | exact rfl | refine And.intro ?_ ?_)
  · have e : (ps.drop i).all vB = (ps.drop (i + 1)).all vB := by rw [all_drop (by omega) (0, 0)]; simp only [vB, hv, Bool.true_and]
    rw [wsucc (n := ps.length) (by omega) hn]
    refine ⟨i + 1, [], by omega, by dsimp only; omega, by simp only [re43, e], by simp only [rs43, e], ?_⟩
    repeat' (first | exact True.intro | exact rfl | refine And.intro ?_ ?_)
  · have e : (ps.drop i).all vB = true := all_end (by omega) _
    refine ⟨by simp only [re43, e, cond_true], [], ?_⟩
    simp only [rs43, e, cond_true]
    repeat' (first | exact True.intro | exact rfl | refine And.intro ?_ ?_)
theorem round80 (ps : List Pt) (hn : ps.length ≤ 1000000000) (i : Nat) (hi : i ≤ ps.length) :
    (bodyL Try.prog E1 30 12 noL 1 c80 k80 1 (s80 ps i)).ok (RoundEnd 1 (s80 ps) (fun i => i ≤ ps.length) (fun i => ps.length - i) (re80 ps) (rs80 ps) i) (fun _ _ => False) := by
  rw [tr80]
  simp only [brT_ok, Tree.ok, decide_eq_true_eq, decide_eq_false_iff_not, Int.toNat_natCast, Nat.zero_add, flat_length, flat_get0, flat_get1, Bool.not_eq_true', Bool.not_eq_false']
  refine ⟨fun hlt => ⟨by omega, by omega, fun hv => ?_, fun hv => ?_⟩, fun hge => ?_⟩
  · have e : (ps.drop i).all vB = false := by rw [all_drop (by omega) (0, 0)]; simp only [vB, hv, Bool.false_and]
    refine ⟨by simp only [re80, e, cond_false], [], ?_⟩
    simp only [rs80, e, cond_false]
    repeat' (first | exact True.intro | exact rfl | refine And.intro ?_ ?_)
  · have e : (ps.drop i).all vB = (ps.drop (i + 1)).all vB := by rw [all_drop (by omega) (0, 0)]; simp only [vB, hv, Bool.true_and]
    rw [wsucc (n := ps.length) (by omega) hn]
    refine ⟨i + 1, [], by omega, by dsimp only; omega, by simp only [re80, e], by simp only [rs80, e], ?_⟩
    repeat' (first | exact True.intro | exact rfl | refine And.intro ?_ ?_)
  · have e : (ps.drop i).all vB = true := all_end (by omega) _
    refine ⟨by simp only [re80, e, cond_true], [], ?_⟩
    simp only [rs80, e, cond_true]
    repeat' (first | exact True.intro | exact rfl | refine And.intro ?_ ?_)
def lt43 : LT := fun j s k => match j, s with
  | 0, ⟨[.slice (some ⟨0, 0, none⟩) n _, _, _, .int .i64 i, _, _, _, _, _, _, _, _, _, _, _, _, _, _, _], [some ⟨.view, .ints xs⟩]⟩ =>
    some (needs [i = 0, xs.length = n * 2, n ≤ 1000000000] (brT (allV (ptsA n xs)) (k (.exit 0) ⟨[.slice (some ⟨0, 0, none⟩) n n, topV, topV, topV, topV, topV, topV, topV, topV, topV, topV, topV, topV, topV, topV, topV, topV, topV, topV], [some ⟨.view, .ints xs⟩]⟩) (k .ret ⟨[topV, topV, .bool false, topV, topV, topV, topV, topV, topV, topV, topV, topV, topV, topV, topV, topV, topV, topV, topV], [some ⟨.view, .ints xs⟩]⟩)))
  | _, _ => none
def lt80 : LT := fun j s k => match j, s with
  | 0, ⟨[_, _, _, _, _, .slice (some ⟨0, 0, none⟩) n _, .int .i64 l, .int .i64 i, _, _, _, _, _, _, _], [some ⟨.view, .ints xs⟩]⟩ =>
    some (needs [i = 0, l = n, xs.length = n * 2, n ≤ 1000000000] (brT (allV (ptsA n xs)) (k (.exit 0) ⟨[topV, topV, topV, topV, topV, topV, topV, topV, topV, topV, topV, topV, topV, topV, topV], [some ⟨.view, .ints xs⟩]⟩) (k .ret ⟨[topV, topV, .bool false, topV, topV, topV, topV, topV, topV, topV, topV, topV, topV, topV, topV], [some ⟨.view, .ints xs⟩]⟩)))
  | _, _ => none
set_option maxRecDepth 100000 in
theorem lg43 : LoopsGood Try.prog lt43 0 (codeOf Try.f91) := by
  intro i d hd s k t F H hlt ht
  rw [Nat.zero_add] at hlt
  unfold lt43 at hlt
  split at hlt
  rotate_left
  · cases hlt
  obtain rfl : c43 = d := by unfold c43; rw [hd]; rfl
  obtain rfl := Option.some.inj hlt
  obtain ⟨⟨rfl, h1, h2, _⟩, ht2⟩ := needs_ok ht
  clear ht hlt
  obtain ⟨ps, rfl, rfl⟩ := even_flat h1
  rw [ptsA_flat] at ht2
  refine ⟨_, _, pick2k ht2, loop_run mixed E1_ok (s43 ps) (fun i => i ≤ ps.length) (fun i => ps.length - i) (re43 ps) (rs43 ps) k43 (fun _ => rfl) (noLoops nl43) (round43 ps h2) (x := 0) (Nat.zero_le _) (π := []) rfl ?_⟩
  repeat' (first | exact True.intro | exact rfl | exact wv_top _ _ | refine And.intro ?_ ?_)
set_option maxRecDepth 100000 in
theorem lg80 : LoopsGood Try.prog lt80 0 (codeOf Try.f117) := by
  intro i d hd s k t F H hlt ht
  rw [Nat.zero_add] at hlt
  unfold lt80 at hlt
  split at hlt
  rotate_left
  · cases hlt
  obtain rfl : c80 = d := by unfold c80; rw [hd]; rfl
  obtain rfl := Option.some.inj hlt
  obtain ⟨⟨rfl, rfl, h1, h2, _⟩, ht2⟩ := needs_ok ht
  clear ht hlt
  obtain ⟨ps, rfl, rfl⟩ := even_flat h1
  rw [ptsA_flat] at ht2
  refine ⟨_, _, pick2k ht2, loop_run mixed E1_ok (s80 ps) (fun i => i ≤ ps.length) (fun i => ps.length - i) (re80 ps) (rs80 ps) k80 (fun _ => rfl) (noLoops nl80) (round80 ps h2) (x := 0) (Nat.zero_le _) (π := []) rfl ?_⟩
  repeat' (first | exact True.intro | exact rfl | exact wv_top _ _ | refine And.intro ?_ ?_)
end Go.Proofs.Ytolodncpegajkaa
namespace Go.Proofs.Ytolodncpegajkaa
set_option linter.all false
open Go.RowKit
def L2 : FuncId → LT := fun f => match f with
  | 91 => lt43
  | 117 => lt80
  | _ => noL
def E2 : Env := mkE (T1) (fun _ _ => none) (L2)
theorem E2_ok : EnvOk Try.prog E2 := by
  refine mkEOk T1_ok (fun _ _ _ _ _ h => (by cases h)) fun f fn hf => ?_
  show LoopsGood Try.prog (L2 f) 0 (codeOf fn)
  unfold L2
  split
  · obtain rfl : Try.f91 = fn := by rw [Try.func91] at hf; simpa using hf
    exact lg43
  · obtain rfl : Try.f117 = fn := by rw [Try.func117] at hf; simpa using hf
    exact lg80
  · exact noL_good
set_option maxRecDepth 100000 in
theorem tr_f43 (ps : List Pt) : bodyX Try.prog E2 30 12 91 [.row ps.length (.ints (flat ps))] = .need ((0 : Int) = (0 : Int)) (.need ((flat ps).length = ps.length * (2 : Nat)) (.need (ps.length ≤ (1000000000 : Nat)) (brT (allV (ptsA ps.length (flat ps))) (.fin (.bool (decide ((↑ps.length : Int) ≤ 20))) [some ⟨.view, .ints (flat ps)⟩]) (.fin (.bool (false)) [some ⟨.view, .ints (flat ps)⟩])))) := by kernel_rfl
set_option maxRecDepth 100000 in
theorem tr_f80 (ps : List Pt) : bodyX Try.prog E2 30 12 117 [.row ps.length (.ints (flat ps))] = .need ((0 : Int) = (0 : Int)) (.need ((↑ps.length : Int) = (↑ps.length : Int)) (.need ((flat ps).length = ps.length * (2 : Nat)) (.need (ps.length ≤ (1000000000 : Nat)) (brT (allV (ptsA ps.length (flat ps))) (.fin (.bool (true)) [some ⟨.view, .ints (flat ps)⟩]) (.fin (.bool (false)) [some ⟨.view, .ints (flat ps)⟩]))))) := by kernel_rfl
def Big (ps : List Pt) : Prop := ps.length ≤ 1000000000
def okL (ps : List Pt) : Bool := allV ps && decide (ps.length ≤ 20)
theorem res_f43 (ps : List Pt) (h : Big ps) : Res Try.prog 91 [.row ps.length (.ints (flat ps))] (.bool (okL ps)) := by
  refine bodyX_res mixed E2_ok (m := 30) (n := 12) rfl ?_
  rw [tr_f43, ptsA_flat]
  unfold Big at h
  unfold okL
  cases hv : allV ps <;> simp [Tree.ok, brT, flat_length, h]
  omega
theorem res_f80 (ps : List Pt) (h : Big ps) : Res Try.prog 117 [.row ps.length (.ints (flat ps))] (.bool (allV ps)) := by
  refine bodyX_res mixed E2_ok (m := 30) (n := 12) rfl ?_
  rw [tr_f80, ptsA_flat]
  unfold Big at h
  cases hv : allV ps <;> simp [Tree.ok, brT, flat_length, h]
/-- An entry for a function of one list of points. -/
def pL (g : List Pt → Value) : List DArg → Option (Value × List Prop)
  | [.row n (.ints xs)] => some (g (ptsA n xs), [n * 2 ≤ xs.length, n ≤ 1000000000])
  | _ => none
theorem pL_ok {f : FuncId} {g : List Pt → Value} (h : ∀ ps, Big ps → Res Try.prog f [.row ps.length (.ints (flat ps))] (g ps)) {ds : List DArg} {v : Value} {C : List Prop} (hd : pL g ds = some (v, C)) (hC : AllP C) : Res Try.prog f ds v := by
  unfold pL at hd
  split at hd
  · rename_i n xs
    obtain ⟨rfl, rfl⟩ : _ ∧ _ := by simpa using hd
    obtain ⟨h1, h2⟩ := ptsA_spec hC.1
    have h0 := h (ptsA n xs) (by unfold Big; rw [h2]; exact hC.2.1)
    exact res_pts1 (pre := []) (post := []) hC.1 h0
  · cases hd
def T2 : Tab := fun f ds => match f with
  | 91 => pL (fun ps => .bool (okL ps)) ds
  | 117 => (match pL (fun ps => .bool (allV ps)) ds with
    | some r => some r
    | none => T1 f ds)
  | f => T1 f ds
theorem T2_ok : TabOk Try.prog T2 := by
  intro f ds v C h hC
  unfold T2 at h
  split at h
  · exact pL_ok res_f43 h hC
  · split at h
    · rename_i hr
      rw [h] at hr
      exact pL_ok res_f80 hr hC
    · exact T1_ok _ _ _ _ h hC
  · exact T1_ok _ _ _ _ h hC
end Go.Proofs.Ytolodncpegajkaa
namespace Go.Proofs.Ytolodncpegajkaa
set_option linter.all false
open Go.RowKit
def E3 : Env := mkE (T2) (fun _ _ => none) (fun _ => noL)
theorem E3_ok : EnvOk Try.prog E3 := mkEOk (T2_ok) (fun _ _ _ _ _ h => (by cases h)) (fun _ _ _ => noL_good)
theorem allV_get {ps : List Pt} (h : allV ps = true) (i : Nat) : -1000 ≤ (ps.getD i (0, 0)).1 ∧ (ps.getD i (0, 0)).1 ≤ 1000 ∧ -1000 ≤ (ps.getD i (0, 0)).2 ∧ (ps.getD i (0, 0)).2 ≤ 1000 := by
  rcases Nat.lt_or_ge i ps.length with hlt | hge
  · have := List.all_eq_true.1 h (ps.getD i (0, 0)) (by simp [hlt])
    simpa [vB, ptB] using this
  · simp [hge]
theorem brT_t (x y : Tree) : brT true x y = x := rfl
theorem brT_f (x y : Tree) : brT false x y = y := rfl
def eqL (ps qs : List Pt) : Bool := decide (ps = qs)
noncomputable def c_toPts : Code := ((loopsOf (codeOf Try.f46))[0]?).getD .skip
def k_toPts : Ex → List Nat := keeps [0, 3, 4] [(0, [3])] [2]
def s_toPts (ps : List Pt) (n : Nat) : Nat × (List Pt) → St := fun (i, qs) => ⟨[.slice (some ⟨0, 0, none⟩) ps.length ps.length, topV, topV, .slice (some ⟨1, 0, none⟩) n n, .int .i64 i, topV, topV, topV, topV, topV, topV, topV, topV, topV, topV, topV, topV, topV, topV, topV, topV, topV, topV], [some ⟨.view, .ints (flat ps)⟩, some ⟨.row 37 2, .ints (flat qs)⟩]⟩
def re_toPts : Nat × (List Pt) → Ex := fun _ => .exit 0
def rs_toPts (ps : List Pt) (n : Nat) : Nat × (List Pt) → St := fun (i, qs) => ⟨[topV, topV, topV, .slice (some ⟨1, 0, none⟩) n n, topV, topV, topV, topV, topV, topV, topV, topV, topV, topV, topV, topV, topV, topV, topV, topV, topV, topV, topV], [some ⟨.view, .ints (flat ps)⟩, some ⟨.row 37 2, .ints (flat ps)⟩]⟩
set_option maxRecDepth 100000 in
theorem tr_toPts (ps : List Pt) (n : Nat) (i : Nat) (qs : List Pt) : bodyL Try.prog E3 30 12 noL 1 c_toPts k_toPts 2 (s_toPts ps n (i, qs)) = brT (decide ((↑i : Int) < (↑ps.length : Int))) (.need ((0 : Int) ≤ (↑i : Int) ∧ (↑i : Int) < (↑ps.length : Int)) (.need ((0 : Nat) + (↑i : Int).toNat * (2 : Nat) + (2 : Nat) ≤ (flat ps).length) (.need ((0 : Int) ≤ (↑i : Int) ∧ (↑i : Int) < (↑n : Int)) (.need ((0 : Nat) + (↑i : Int).toNat * (2 : Nat) + (2 : Nat) ≤ (flat qs).length) (.leaf .normal ⟨[.slice (some ⟨0, 0, none⟩) (ps.length) (ps.length), topV, topV, .slice (some ⟨1, 0, none⟩) (n) (n), .int .i64 (IntKind.i64.wrap ((↑i : Int) + 1)), topV, topV, topV, topV, topV, topV, topV, topV, topV, topV, topV, topV, topV, topV, topV, topV, topV, topV], [some ⟨.view, .ints (flat ps)⟩, some ⟨.row 37 2, .ints (setInts (flat qs) (0 + (↑i : Int).toNat * 2) [(flat ps).getD (0 + (↑i : Int).toNat * 2) 0, (flat ps).getD (0 + (↑i : Int).toNat * 2 + 1) 0])⟩]⟩))))) (.leaf (.exit 0) ⟨[topV, topV, topV, .slice (some ⟨1, 0, none⟩) (n) (n), topV, topV, topV, topV, topV, topV, topV, topV, topV, topV, topV, topV, topV, topV, topV, topV, topV, topV, topV], [some ⟨.view, .ints (flat ps)⟩, some ⟨.row 37 2, .ints (flat qs)⟩]⟩) := by kernel_rfl
set_option maxRecDepth 100000 in
theorem nl_toPts : loopsOf c_toPts = [] := by kernel_rfl
def inv_toPts (ps : List Pt) (n : Nat) : Nat × (List Pt) → Prop := fun (i, qs) => i ≤ ps.length ∧ ps.length = n ∧ qs.length = n ∧ qs.take i = ps.take i
def me_toPts (ps : List Pt) (n : Nat) : Nat × (List Pt) → Nat := fun (i, qs) => ps.length - i
/-- A round of this loop. -/
def Round_toPts (ps : List Pt) (n : Nat) : Prop := ∀ xx : Nat × (List Pt), inv_toPts ps n xx → (bodyL Try.prog E3 30 12 noL 1 c_toPts k_toPts 2 (s_toPts ps n xx)).ok (RoundEnd 2 (s_toPts ps n) (inv_toPts ps n) (me_toPts ps n) re_toPts (rs_toPts ps n) xx) (fun _ _ => False)
def e_toPts (s : St) (k : Ex → St → Tree) : Option Tree := match Nat.beq s.tmps.length 23, pickL s.tmps [0, 3, 4], s.mem with
  | true, [.slice (some ⟨0, 0, none⟩) n _, .slice (some ⟨1, 0, none⟩) m _, .int .i64 i], [some ⟨.view, .ints xs⟩, some ⟨.row 37 2, .ints ys⟩] => some (needs [i = 0, m = n, xs.length = n * 2, ys.length = n * 2, n ≤ 1000000000] (k (.exit 0) ⟨[topV, topV, topV, .slice (some ⟨1, 0, none⟩) m m, topV, topV, topV, topV, topV, topV, topV, topV, topV, topV, topV, topV, topV, topV, topV, topV, topV, topV, topV], [some ⟨.view, .ints xs⟩, some ⟨.row 37 2, .ints xs⟩]⟩))
  | _, _, _ => none
set_option maxRecDepth 100000 in
theorem round_toPts (ps : List Pt) (n : Nat) (h : ps.length ≤ 1000000000) : Round_toPts ps n := by
  rintro ⟨i, qs⟩ ⟨h1, h2, h3, h4⟩
  rw [tr_toPts]
  simp only [brT_ok, Tree.ok, decide_eq_true_eq, decide_eq_false_iff_not, Int.toNat_natCast, Nat.zero_add, flat_length, flat_get0, flat_get1, Cs.size]
  refine ⟨fun hlt => ⟨by omega, by omega, by omega, by omega, ?_⟩, fun hge => ?_⟩
  · rw [wsucc (n := ps.length) (by omega) h, flat_set qs i (by omega)]
    refine ⟨(i + 1, qs.set i (ps.getD i (0, 0))), [], ⟨by omega, h2, by simp [h3], ?_⟩, ?_, rfl, rfl, ?_⟩
    · exact take_set_succ (by omega) (by omega) h4 _
    · show ps.length - (i + 1) < ps.length - i; omega
    · repeat' (first | exact True.intro | exact rfl | exact fun _ => rfl | refine And.intro ?_ ?_)
  · have e : qs = ps := by
      rw [List.take_of_length_le (by omega), List.take_of_length_le (by omega)] at h4
      exact h4
    subst e
    refine ⟨rfl, [], ?_⟩
    repeat' (first | exact True.intro | exact rfl | exact fun _ => rfl | refine And.intro ?_ ?_)
set_option maxRecDepth 100000 in
theorem lg_toPts : LoopE Try.prog e_toPts c_toPts := by
  intro s k t F H hlt ht
  unfold e_toPts at hlt
  split at hlt
  rotate_left
  · cases hlt
  rename_i hlen hpick hmem
  obtain ⟨tmps, mem⟩ := s
  simp only at hlen hpick hmem
  subst hmem
  obtain rfl := Option.some.inj hlt
  obtain ⟨⟨rfl, rfl, h1, h2, h3, _⟩, ht2⟩ := needs_ok ht
  clear ht hlt
  obtain ⟨ps, rfl, rfl⟩ := even_flat h1
  obtain ⟨qs, rfl, hq⟩ := even_flat h2
  refine ⟨_, _, ht2, loop_run mixed E3_ok (s_toPts ps ps.length) (inv_toPts ps ps.length) (me_toPts ps ps.length) re_toPts (rs_toPts ps ps.length) k_toPts (fun _ => rfl) (noLoops nl_toPts) (round_toPts ps ps.length h3) (x := (0, qs)) ⟨Nat.zero_le _, rfl, hq, rfl⟩ (π := []) rfl ?_⟩
  refine ⟨rfl, rfl, ?_, wvs_spread' [0, 3, 4] hlen rfl ?_⟩
  · repeat' (first | exact True.intro | exact rfl | exact wv_top _ _ | exact fun _ => rfl | assumption | exact Eq.symm (by assumption) | exact vI0 rfl | refine And.intro ?_ ?_)
  · rw [hpick]
    repeat' (first | exact True.intro | exact rfl | exact wv_top _ _ | exact fun _ => rfl | assumption | exact Eq.symm (by assumption) | exact vI0 rfl | refine And.intro ?_ ?_)
noncomputable def c_eqPts : Code := ((loopsOf (codeOf Try.f49))[0]?).getD .skip
def k_eqPts : Ex → List Nat := keeps [0, 1, 5] [(0, [])] [4]
def s_eqPts (ps : List Pt) (qs : List Pt) : Nat → St := fun i => ⟨[.slice (some ⟨0, 0, none⟩) ps.length ps.length, .slice (some ⟨1, 0, none⟩) qs.length qs.length, topV, topV, topV, .int .i64 i, topV, topV, topV, topV, topV, topV, topV, topV, topV, topV, topV, topV, topV, topV, topV, topV, topV, topV, topV, topV, topV], [some ⟨.view, .ints (flat ps)⟩, some ⟨.view, .ints (flat qs)⟩]⟩
def re_eqPts (ps : List Pt) (qs : List Pt) : Nat → Ex := fun i => bif decide (ps.drop i = qs.drop i) then .exit 0 else .ret
def rs_eqPts (ps : List Pt) (qs : List Pt) : Nat → St := fun i => bif decide (ps.drop i = qs.drop i) then ⟨[topV, topV, topV, topV, topV, topV, topV, topV, topV, topV, topV, topV, topV, topV, topV, topV, topV, topV, topV, topV, topV, topV, topV, topV, topV, topV, topV], [some ⟨.view, .ints (flat ps)⟩, some ⟨.view, .ints (flat qs)⟩]⟩ else ⟨[topV, topV, topV, topV, .bool false, topV, topV, topV, topV, topV, topV, topV, topV, topV, topV, topV, topV, topV, topV, topV, topV, topV, topV, topV, topV, topV, topV], [some ⟨.view, .ints (flat ps)⟩, some ⟨.view, .ints (flat qs)⟩]⟩
set_option maxRecDepth 100000 in
theorem tr_eqPts (ps : List Pt) (qs : List Pt) (i : Nat) : bodyL Try.prog E3 30 12 noL 1 c_eqPts k_eqPts 2 (s_eqPts ps qs i) = brT (decide ((↑i : Int) < (↑ps.length : Int))) (brT (!(flat ps).getD (0 + (↑i : Int).toNat * 2) 0 == (flat qs).getD (0 + (↑i : Int).toNat * 2) 0) (.need ((0 : Int) ≤ (↑i : Int) ∧ (↑i : Int) < (↑ps.length : Int)) (.need ((0 : Nat) + (↑i : Int).toNat * (2 : Nat) + (2 : Nat) ≤ (flat ps).length) (.need ((0 : Int) ≤ (↑i : Int) ∧ (↑i : Int) < (↑qs.length : Int)) (.need ((0 : Nat) + (↑i : Int).toNat * (2 : Nat) + (2 : Nat) ≤ (flat qs).length) (.leaf .ret ⟨[topV, topV, topV, topV, .bool (false), topV, topV, topV, topV, topV, topV, topV, topV, topV, topV, topV, topV, topV, topV, topV, topV, topV, topV, topV, topV, topV, topV], [some ⟨.view, .ints (flat ps)⟩, some ⟨.view, .ints (flat qs)⟩]⟩))))) (brT (!(flat ps).getD (0 + (↑i : Int).toNat * 2 + 1) 0 == (flat qs).getD (0 + (↑i : Int).toNat * 2 + 1) 0) (.need ((0 : Int) ≤ (↑i : Int) ∧ (↑i : Int) < (↑ps.length : Int)) (.need ((0 : Nat) + (↑i : Int).toNat * (2 : Nat) + (2 : Nat) ≤ (flat ps).length) (.need ((0 : Int) ≤ (↑i : Int) ∧ (↑i : Int) < (↑qs.length : Int)) (.need ((0 : Nat) + (↑i : Int).toNat * (2 : Nat) + (2 : Nat) ≤ (flat qs).length) (.leaf .ret ⟨[topV, topV, topV, topV, .bool (false), topV, topV, topV, topV, topV, topV, topV, topV, topV, topV, topV, topV, topV, topV, topV, topV, topV, topV, topV, topV, topV, topV], [some ⟨.view, .ints (flat ps)⟩, some ⟨.view, .ints (flat qs)⟩]⟩))))) (.need ((0 : Int) ≤ (↑i : Int) ∧ (↑i : Int) < (↑ps.length : Int)) (.need ((0 : Nat) + (↑i : Int).toNat * (2 : Nat) + (2 : Nat) ≤ (flat ps).length) (.need ((0 : Int) ≤ (↑i : Int) ∧ (↑i : Int) < (↑qs.length : Int)) (.need ((0 : Nat) + (↑i : Int).toNat * (2 : Nat) + (2 : Nat) ≤ (flat qs).length) (.leaf .normal ⟨[.slice (some ⟨0, 0, none⟩) (ps.length) (ps.length), .slice (some ⟨1, 0, none⟩) (qs.length) (qs.length), topV, topV, topV, .int .i64 (IntKind.i64.wrap ((↑i : Int) + 1)), topV, topV, topV, topV, topV, topV, topV, topV, topV, topV, topV, topV, topV, topV, topV, topV, topV, topV, topV, topV, topV], [some ⟨.view, .ints (flat ps)⟩, some ⟨.view, .ints (flat qs)⟩]⟩))))))) (.leaf (.exit 0) ⟨[topV, topV, topV, topV, topV, topV, topV, topV, topV, topV, topV, topV, topV, topV, topV, topV, topV, topV, topV, topV, topV, topV, topV, topV, topV, topV, topV], [some ⟨.view, .ints (flat ps)⟩, some ⟨.view, .ints (flat qs)⟩]⟩) := by kernel_rfl
set_option maxRecDepth 100000 in
theorem nl_eqPts : loopsOf c_eqPts = [] := by kernel_rfl
def inv_eqPts (ps : List Pt) (qs : List Pt) : Nat → Prop := fun i => i ≤ ps.length ∧ ps.length = qs.length
def me_eqPts (ps : List Pt) (qs : List Pt) : Nat → Nat := fun i => ps.length - i
/-- A round of this loop. -/
def Round_eqPts (ps : List Pt) (qs : List Pt) : Prop := ∀ xx : Nat, inv_eqPts ps qs xx → (bodyL Try.prog E3 30 12 noL 1 c_eqPts k_eqPts 2 (s_eqPts ps qs xx)).ok (RoundEnd 2 (s_eqPts ps qs) (inv_eqPts ps qs) (me_eqPts ps qs) (re_eqPts ps qs) (rs_eqPts ps qs) xx) (fun _ _ => False)
def e_eqPts (s : St) (k : Ex → St → Tree) : Option Tree := match Nat.beq s.tmps.length 27, pickL s.tmps [0, 1, 5], s.mem with
  | true, [.slice (some ⟨0, 0, none⟩) n _, .slice (some ⟨1, 0, none⟩) m _, .int .i64 i], [some ⟨.view, .ints xs⟩, some ⟨.view, .ints ys⟩] => some (needs [i = 0, m = n, xs.length = n * 2, ys.length = n * 2, n ≤ 1000000000] (brT (eqL (ptsA n xs) (ptsA n ys)) (k (.exit 0) ⟨[topV, topV, topV, topV, topV, topV, topV, topV, topV, topV, topV, topV, topV, topV, topV, topV, topV, topV, topV, topV, topV, topV, topV, topV, topV, topV, topV], [some ⟨.view, .ints xs⟩, some ⟨.view, .ints ys⟩]⟩) (k .ret ⟨[topV, topV, topV, topV, .bool false, topV, topV, topV, topV, topV, topV, topV, topV, topV, topV, topV, topV, topV, topV, topV, topV, topV, topV, topV, topV, topV, topV], [some ⟨.view, .ints xs⟩, some ⟨.view, .ints ys⟩]⟩)))
  | _, _, _ => none
set_option maxRecDepth 100000 in
theorem round_eqPts (ps qs : List Pt) (h : ps.length ≤ 1000000000) : Round_eqPts ps qs := by
  rintro i ⟨h1, h2⟩
  rw [tr_eqPts]
  simp only [brT_ok, Tree.ok, decide_eq_true_eq, decide_eq_false_iff_not, Int.toNat_natCast, Nat.zero_add, flat_length, flat_get0, flat_get1, Bool.not_eq_true', Bool.not_eq_false', beq_iff_eq, beq_eq_false_iff_ne]
  refine ⟨fun hlt => ?_, fun hge => ?_⟩
  · have hd1 := drop_cons (l := ps) (k := i) (by omega) (0, 0)
    have hd2 := drop_cons (l := qs) (k := i) (by omega) (0, 0)
    have ne : ps.getD i (0, 0) ≠ qs.getD i (0, 0) → decide (ps.drop i = qs.drop i) = false := fun hne => by
      rw [hd1, hd2]
      simp only [List.cons.injEq, decide_eq_false_iff_not]
      exact fun h => hne h.1
    refine ⟨fun hv => ⟨by omega, by omega, by omega, by omega, ?_⟩, fun hv => ⟨fun hv2 => ⟨by omega, by omega, by omega, by omega, ?_⟩, fun hv2 => ⟨by omega, by omega, by omega, by omega, ?_⟩⟩⟩
    · have e := ne fun h => hv (by rw [h])
      refine ⟨by simp only [re_eqPts, e, cond_false], [], ?_⟩
      simp only [rs_eqPts, e, cond_false]
      repeat' (first | exact True.intro | exact rfl | exact fun _ => rfl | refine And.intro ?_ ?_)
    · have e := ne fun h => hv2 (by rw [h])
      refine ⟨by simp only [re_eqPts, e, cond_false], [], ?_⟩
      simp only [rs_eqPts, e, cond_false]
      repeat' (first | exact True.intro | exact rfl | exact fun _ => rfl | refine And.intro ?_ ?_)
    · have hp : ps.getD i (0, 0) = qs.getD i (0, 0) := Prod.ext hv hv2
      have e : decide (ps.drop i = qs.drop i) = decide (ps.drop (i + 1) = qs.drop (i + 1)) := by
        rw [hd1, hd2, hp]
        simp
      rw [wsucc (n := ps.length) (by omega) h]
      refine ⟨i + 1, [], ⟨by omega, h2⟩, ?_, by simp only [re_eqPts, e], by simp only [rs_eqPts, e], ?_⟩
      · show ps.length - (i + 1) < ps.length - i; omega
      · repeat' (first | exact True.intro | exact rfl | exact fun _ => rfl | refine And.intro ?_ ?_)
  · have e : decide (ps.drop i = qs.drop i) = true := by rw [List.drop_of_length_le (by omega), List.drop_of_length_le (by omega)]; rfl
    refine ⟨by simp only [re_eqPts, e, cond_true], [], ?_⟩
    simp only [rs_eqPts, e, cond_true]
    repeat' (first | exact True.intro | exact rfl | exact fun _ => rfl | refine And.intro ?_ ?_)
set_option maxRecDepth 100000 in
theorem lg_eqPts : LoopE Try.prog e_eqPts c_eqPts := by
  intro s k t F H hlt ht
  unfold e_eqPts at hlt
  split at hlt
  rotate_left
  · cases hlt
  rename_i hlen hpick hmem
  obtain ⟨tmps, mem⟩ := s
  simp only at hlen hpick hmem
  subst hmem
  obtain rfl := Option.some.inj hlt
  obtain ⟨⟨rfl, rfl, h1, h2, h3, _⟩, ht2⟩ := needs_ok ht
  clear ht hlt
  obtain ⟨ps, rfl, rfl⟩ := even_flat h1
  obtain ⟨qs, rfl, hq⟩ := even_flat h2
  rw [ptsA_flat, ← hq, ptsA_flat] at ht2
  refine ⟨_, _, pick2k ht2, loop_run mixed E3_ok (s_eqPts ps qs) (inv_eqPts ps qs) (me_eqPts ps qs) (re_eqPts ps qs) (rs_eqPts ps qs) k_eqPts (fun _ => rfl) (noLoops nl_eqPts) (round_eqPts ps qs h3) (x := 0) ⟨Nat.zero_le _, hq.symm⟩ (π := []) rfl ?_⟩
  refine ⟨rfl, rfl, ?_, wvs_spread' [0, 1, 5] hlen rfl ?_⟩
  · repeat' (first | exact True.intro | exact rfl | exact wv_top _ _ | exact fun _ => rfl | assumption | exact Eq.symm (by assumption) | exact vI0 rfl | refine And.intro ?_ ?_)
  · rw [hpick]
    repeat' (first | exact True.intro | exact rfl | exact wv_top _ _ | exact fun _ => rfl | assumption | exact Eq.symm (by assumption) | exact vI0 rfl | refine And.intro ?_ ?_)
end Go.Proofs.Ytolodncpegajkaa
namespace Go.Proofs.Ytolodncpegajkaa
set_option linter.all false
open Go.RowKit
def L4 : FuncId → LT := fun f => match f with
  | 46 => lt1 e_toPts
  | 49 => lt1 e_eqPts
  | _ => noL
def E4 : Env := mkE (T2) (fun _ _ => none) (L4)
theorem code_of {f : FuncId} {fn g : Func} (h : Try.prog.funcs[f]? = some g) (hf : Try.prog.funcs[f]? = some fn) : g = fn := by rw [h] at hf; simpa using hf
theorem Lr_toPts {fn : Func} (hf : Try.prog.funcs[46]? = some fn) : LoopsGood Try.prog (lt1 e_toPts) 0 (codeOf fn) := by
  obtain rfl := code_of Try.func46 hf
  exact lt1_good lg_toPts
theorem Lr_eqPts {fn : Func} (hf : Try.prog.funcs[49]? = some fn) : LoopsGood Try.prog (lt1 e_eqPts) 0 (codeOf fn) := by
  obtain rfl := code_of Try.func49 hf
  exact lt1_good lg_eqPts
theorem L4_ok : ∀ f fn, Try.prog.funcs[f]? = some fn → LoopsGood Try.prog (L4 f) 0 (codeOf fn) := by
  intro f fn hf
  unfold L4
  split
  all_goals first | with_reducible exact Lr_toPts hf | with_reducible exact Lr_eqPts hf | with_reducible exact Lr_specCW hf | with_reducible exact Lr_implCW hf | exact noL_good
theorem E4_ok : EnvOk Try.prog E4 := mkEOk (T2_ok) (fun _ _ _ _ _ h => (by cases h)) (L4_ok)
set_option maxRecDepth 100000 in
theorem tr_toPointS (ps : List Pt) : bodyX Try.prog E4 30 12 46 [.row ps.length (.ints (flat ps))] = .need ((0 : Int) ≤ (↑ps.length : Int) ∧ (↑ps.length : Int) ≤ (↑ps.length : Int) ∧ (16 : Nat) * (↑ps.length : Int).toNat ≤ (281474976710656 : Nat) ∧ (↑ps.length : Int) ≤ (9223372036854775807 : Int)) (.need ((0 : Int) = (0 : Int)) (.need ((↑ps.length : Int).toNat = ps.length) (.need ((flat ps).length = ps.length * (2 : Nat)) (.need ((List.replicate ((↑ps.length : Int).toNat * (2 : Nat)) (0 : Int)).length = ps.length * (2 : Nat)) (.need (ps.length ≤ (1000000000 : Nat)) (.fin (.slice (some ⟨1, 0, none⟩) ((↑ps.length : Int).toNat) ((↑ps.length : Int).toNat)) [some ⟨.view, .ints (flat ps)⟩, some ⟨.row 37 2, .ints (flat ps)⟩])))))) := by kernel_rfl
set_option maxRecDepth 100000 in
theorem tr_eqPointS (ps qs : List Pt) : bodyX Try.prog E4 30 12 49 [.row ps.length (.ints (flat ps)), .row qs.length (.ints (flat qs))] = brT (!(↑ps.length : Int) == (↑qs.length : Int)) (.fin (.bool (false)) [some ⟨.view, .ints (flat ps)⟩, some ⟨.view, .ints (flat qs)⟩]) (.need ((0 : Int) = (0 : Int)) (.need (qs.length = ps.length) (.need ((flat ps).length = ps.length * (2 : Nat)) (.need ((flat qs).length = ps.length * (2 : Nat)) (.need (ps.length ≤ (1000000000 : Nat)) (brT (eqL (ptsA ps.length (flat ps)) (ptsA ps.length (flat qs))) (.fin (.bool (true)) [some ⟨.view, .ints (flat ps)⟩, some ⟨.view, .ints (flat qs)⟩]) (.fin (.bool (false)) [some ⟨.view, .ints (flat ps)⟩, some ⟨.view, .ints (flat qs)⟩]))))))) := by kernel_rfl
theorem resR_toPointS (ps : List Pt) (h : Big ps) : ResR Try.prog 46 [.row ps.length (.ints (flat ps))] (.slice (some ⟨0, 0, none⟩) ps.length ps.length) ⟨.row 37 2, .ints (flat ps)⟩ := by
  refine bodyX_resR mixed E4_ok (m := 30) (n := 12) rfl ?_
  rw [tr_toPointS]
  unfold Big at h
  simp only [Tree.ok, flat_length, Int.toNat_natCast, List.length_replicate]
  exact ⟨by omega, trivial, trivial, trivial, trivial, h, some 1, ⟨rfl, rfl, rfl⟩, rfl, rfl, rfl⟩
theorem res_eqPointS (ps qs : List Pt) (h : Big ps) : Res Try.prog 49 [.row ps.length (.ints (flat ps)), .row qs.length (.ints (flat qs))] (.bool (eqL ps qs)) := by
  refine bodyX_res mixed E4_ok (m := 30) (n := 12) rfl ?_
  rw [tr_eqPointS]
  unfold Big at h
  by_cases hl : ps.length = qs.length
  · have e : ptsA ps.length (flat qs) = qs := by rw [hl, ptsA_flat]
    rw [e, ptsA_flat, show (!((ps.length : Int) == (qs.length : Int))) = false by simp [hl]]
    simp only [brT_f, Tree.ok, flat_length]
    refine ⟨trivial, hl.symm, trivial, by omega, h, ?_⟩
    cases eqL ps qs <;> rfl
  · have e : eqL ps qs = false := by
      unfold eqL
      rw [decide_eq_false_iff_not]
      rintro rfl
      exact hl rfl
    rw [show (!((ps.length : Int) == (qs.length : Int))) = true by simp; omega]
    simp only [brT_t, Tree.ok, e]
def pEq2 : List DArg → Option (Value × List Prop)
  | [.row m (.ints xs), .row n (.ints ys)] => some (.bool (eqL (ptsA m xs) (ptsA n ys)), [m * 2 ≤ xs.length, n * 2 ≤ ys.length, m ≤ 1000000000])
  | _ => none
def T3 : Tab := fun f ds => match f with
  | 49 => pEq2 ds
  | f => T2 f ds
theorem pEq2_ok {ds : List DArg} {v : Value} {C : List Prop} (h : pEq2 ds = some (v, C)) (hC : AllP C) : Res Try.prog 49 ds v := by
  unfold pEq2 at h
  split at h
  · rename_i m xs n ys
    obtain ⟨rfl, rfl⟩ : _ ∧ _ := by simpa using h
    obtain ⟨_, h2⟩ := ptsA_spec hC.1
    have h0 := res_eqPointS (ptsA m xs) (ptsA n ys) (by unfold Big; rw [h2]; exact hC.2.2.1)
    exact res_pts1 (pre := []) (post := [_]) hC.1 (res_pts1 (pre := [_]) (post := []) hC.2.1 h0)
  · cases h
theorem T3_ok : TabOk Try.prog T3 := by
  intro f ds v C h hC
  unfold T3 at h
  (try split at h)
  all_goals first | with_reducible exact pEq2_ok h hC | with_reducible exact pCWs_ok h hC | with_reducible exact pCWi_ok h hC | exact T2_ok _ _ _ _ h hC
def R4 : TabR := fun f ds => match f, ds with
  | 46, [.row n (.ints xs)] => some (.slice (some ⟨0, 0, none⟩) n n, ⟨.row 37 2, .ints (xs.take (n * 2))⟩, [n * 2 ≤ xs.length, n ≤ 1000000000])
  | _, _ => none
theorem R4_ok : TabROk Try.prog R4 := by
  intro f ds v b C h hC
  unfold R4 at h
  (try split at h)
  all_goals first
    | (rename_i n xs
       obtain ⟨rfl, rfl, rfl⟩ : _ ∧ _ ∧ _ := by simpa using h
       obtain ⟨h1, h2⟩ := ptsA_spec hC.1
       have h0 := resR_toPointS (ptsA n xs) (by unfold Big; rw [h2]; exact hC.2.1)
       have h3 := resR_pts1 (pre := []) (post := []) hC.1 h0
       rw [h2, ← h1] at h3
       exact h3)
    | cases h
end Go.Proofs.Ytolodncpegajkaa
namespace Go.Proofs.Ytolodncpegajkaa
set_option linter.all false
open Go.RowKit
theorem set_step {xs ys ns : List Int} {o k : Nat} (hl : ns.length = k) (hx : xs.drop o = ns ++ xs.drop (o + k)) (hy : o + k ≤ ys.length) (h0 : o ≤ xs.length) (h : ys.take o = xs.take o) : (setInts ys o ns).take (o + k) = xs.take (o + k) ∧ (setInts ys o ns).length = ys.length := by
  unfold setInts
  rw [hl, h]
  have l1 : (xs.take o).length = o := by simp; omega
  constructor
  · have e : xs.take (o + k) = xs.take o ++ ns := by
      have : xs = xs.take o ++ (ns ++ xs.drop (o + k)) := by rw [← hx, List.take_append_drop]
      rw [List.take_add, hx]
      congr 1
      exact List.take_left' hl
    rw [e]
    exact List.take_left' (by rw [List.length_append, l1, hl])
  · simp
    omega
end Go.Proofs.Ytolodncpegajkaa
namespace Go.Proofs.Ytolodncpegajkaa
set_option linter.all false
open Go.RowKit
noncomputable def c_toI : Code := ((loopsOf (codeOf Try.f47))[0]?).getD .skip
def k_toI : Ex → List Nat := keeps [0, 3, 4] [(0, [3])] [2]
def s_toI (xs : List Int) (n : Nat) : Nat × (List Int) → St := fun (i, ys) => ⟨[.slice (some ⟨0, 0, none⟩) n n, topV, topV, .slice (some ⟨1, 0, none⟩) n n, .int .i64 i, topV, topV, topV, topV, topV, topV, topV, topV, topV, topV, topV, topV, topV, topV, topV, topV, topV], [some ⟨.view, .ints xs⟩, some ⟨.row 3 1, .ints ys⟩]⟩
def re_toI : Nat × (List Int) → Ex := fun _ => .exit 0
def rs_toI (xs : List Int) (n : Nat) : Nat × (List Int) → St := fun (i, ys) => ⟨[topV, topV, topV, .slice (some ⟨1, 0, none⟩) n n, topV, topV, topV, topV, topV, topV, topV, topV, topV, topV, topV, topV, topV, topV, topV, topV, topV, topV], [some ⟨.view, .ints xs⟩, some ⟨.row 3 1, .ints xs⟩]⟩
set_option maxRecDepth 100000 in
theorem tr_toI (xs : List Int) (n : Nat) (i : Nat) (ys : List Int) : bodyL Try.prog EM 30 12 noL 1 c_toI k_toI 2 (s_toI xs n (i, ys)) = brT (decide ((↑i : Int) < (↑n : Int))) (.need ((0 : Int) ≤ (↑i : Int) ∧ (↑i : Int) < (↑n : Int)) (.need ((0 : Nat) + (↑i : Int).toNat * (1 : Nat) < xs.length) (.need ((0 : Int) ≤ (↑i : Int) ∧ (↑i : Int) < (↑n : Int)) (.need ((0 : Nat) + (↑i : Int).toNat * (1 : Nat) + (1 : Nat) ≤ ys.length) (.leaf .normal ⟨[.slice (some ⟨0, 0, none⟩) (n) (n), topV, topV, .slice (some ⟨1, 0, none⟩) (n) (n), .int .i64 (IntKind.i64.wrap ((↑i : Int) + 1)), topV, topV, topV, topV, topV, topV, topV, topV, topV, topV, topV, topV, topV, topV, topV, topV, topV], [some ⟨.view, .ints (xs)⟩, some ⟨.row 3 1, .ints (setInts ys (0 + (↑i : Int).toNat * 1) [xs.getD (0 + (↑i : Int).toNat * 1) 0])⟩]⟩))))) (.leaf (.exit 0) ⟨[topV, topV, topV, .slice (some ⟨1, 0, none⟩) (n) (n), topV, topV, topV, topV, topV, topV, topV, topV, topV, topV, topV, topV, topV, topV, topV, topV, topV, topV], [some ⟨.view, .ints (xs)⟩, some ⟨.row 3 1, .ints (ys)⟩]⟩) := by kernel_rfl
set_option maxRecDepth 100000 in
theorem nl_toI : loopsOf c_toI = [] := by kernel_rfl
def inv_toI (xs : List Int) (n : Nat) : Nat × (List Int) → Prop := fun (i, ys) => i ≤ n ∧ ys.length = n ∧ ys.take i = xs.take i
def me_toI (xs : List Int) (n : Nat) : Nat × (List Int) → Nat := fun (i, ys) => n - i
/-- A round of this loop. -/
def Round_toI (xs : List Int) (n : Nat) : Prop := ∀ xx : Nat × (List Int), inv_toI xs n xx → (bodyL Try.prog EM 30 12 noL 1 c_toI k_toI 2 (s_toI xs n xx)).ok (RoundEnd 2 (s_toI xs n) (inv_toI xs n) (me_toI xs n) re_toI (rs_toI xs n) xx) (fun _ _ => False)
def e_toI (s : St) (k : Ex → St → Tree) : Option Tree := match Nat.beq s.tmps.length 22, pickL s.tmps [0, 3, 4], s.mem with
  | true, [.slice (some ⟨0, 0, none⟩) n _, .slice (some ⟨1, 0, none⟩) m _, .int .i64 i], [some ⟨.view, .ints xs⟩, some ⟨.row 3 1, .ints ys⟩] => some (needs [i = 0, m = n, xs.length = n, ys.length = n, n ≤ 1000000000] (k (.exit 0) ⟨[topV, topV, topV, .slice (some ⟨1, 0, none⟩) n n, topV, topV, topV, topV, topV, topV, topV, topV, topV, topV, topV, topV, topV, topV, topV, topV, topV, topV], [some ⟨.view, .ints xs⟩, some ⟨.row 3 1, .ints xs⟩]⟩))
  | _, _, _ => none
set_option maxRecDepth 100000 in
theorem round_toI (xs : List Int) (n : Nat) (hx : xs.length = n) (h : n ≤ 1000000000) : Round_toI xs n := by
  rintro ⟨i, ys⟩ ⟨h1, h2, h3⟩
  rw [tr_toI]
  simp only [brT_ok, Tree.ok, decide_eq_true_eq, decide_eq_false_iff_not, Int.toNat_natCast, Nat.zero_add, Nat.add_zero, Nat.mul_one, Cs.size]
  refine ⟨fun hlt => ?_, fun hge => ?_⟩
  · rw [wsucc (n := n) (by omega) h]
    obtain ⟨e1, e2⟩ := set_step (k := 1) (ns := [xs.getD i 0]) rfl (show xs.drop i = [xs.getD i 0] ++ xs.drop (i + 1) from drop_cons (l := xs) (k := i) (by omega) 0) (by omega) (by omega) h3
    refine ⟨by omega, by omega, by omega, by omega, (i + 1, setInts ys i [xs.getD i 0]), [], ⟨by omega, by omega, ?_⟩, ?_, rfl, rfl, ?_⟩
    · exact e1
    · show n - (i + 1) < n - i; omega
    · repeat' (first | exact True.intro | exact rfl | exact fun _ => rfl | refine And.intro ?_ ?_)
  · obtain rfl : i = n := by omega
    have e : ys = xs := by
      rw [List.take_of_length_le (by omega), List.take_of_length_le (by omega)] at h3
      exact h3
    subst e
    refine ⟨rfl, [], ?_⟩
    repeat' (first | exact True.intro | exact rfl | exact fun _ => rfl | refine And.intro ?_ ?_)
set_option maxRecDepth 100000 in
theorem lg_toI : LoopE Try.prog e_toI c_toI := by
  intro s k t F H hlt ht
  unfold e_toI at hlt
  split at hlt
  rotate_left
  · cases hlt
  rename_i hlen hpick hmem
  obtain ⟨tmps, mem⟩ := s
  simp only at hlen hpick hmem
  subst hmem
  obtain rfl := Option.some.inj hlt
  obtain ⟨⟨rfl, rfl, h1, h2, h3, _⟩, ht2⟩ := needs_ok ht
  clear ht hlt
  refine ⟨_, _, ht2, loop_run mixed EM_ok (s_toI _ _) (inv_toI _ _) (me_toI _ _) re_toI (rs_toI _ _) k_toI (fun _ => rfl) (noLoops nl_toI) (round_toI _ _ h1 h3) (x := (0, _)) ⟨Nat.zero_le _, h2, rfl⟩ (π := []) rfl ?_⟩
  refine ⟨rfl, rfl, ?_, wvs_spread' [0, 3, 4] hlen rfl ?_⟩
  · repeat' (first | exact True.intro | exact rfl | exact wv_top _ _ | exact fun _ => rfl | assumption | exact Eq.symm (by assumption) | exact vI0 rfl | refine And.intro ?_ ?_)
  · rw [hpick]
    repeat' (first | exact True.intro | exact rfl | exact wv_top _ _ | exact fun _ => rfl | assumption | exact Eq.symm (by assumption) | exact vI0 rfl | refine And.intro ?_ ?_)
theorem Lr_toI {fn : Func} (hf : Try.prog.funcs[47]? = some fn) : LoopsGood Try.prog (lt1 e_toI) 0 (codeOf fn) := by
  obtain rfl := fn_is Try.func47 hf
  exact lt1_good lg_toI
def LTi : FuncId → LT := fun f => match f with
  | 47 => lt1 e_toI
  | _ => noL
def ETi : Env := mkE B0 (fun _ _ => none) LTi
theorem ETi_ok : EnvOk Try.prog ETi := mkEOk B0_ok (fun _ _ _ _ _ h => (by cases h)) (by
  intro f fn hf
  unfold LTi
  split
  all_goals first | with_reducible exact Lr_toI hf | exact noL_good)
set_option maxRecDepth 100000 in
theorem tr_toIF (n : Nat) (xs : List Int) : bodyX Try.prog ETi 30 12 47 [.row n (.ints xs)] = .need ((0 : Int) ≤ (↑n : Int) ∧ (↑n : Int) ≤ (↑n : Int) ∧ (8 : Nat) * (↑n : Int).toNat ≤ (281474976710656 : Nat) ∧ (↑n : Int) ≤ (9223372036854775807 : Int)) (.need ((0 : Int) = (0 : Int)) (.need ((↑n : Int).toNat = n) (.need (xs.length = n) (.need ((List.replicate ((↑n : Int).toNat * (1 : Nat)) (0 : Int)).length = n) (.need (n ≤ (1000000000 : Nat)) (.fin (.slice (some ⟨1, 0, none⟩) (n) (n)) [some ⟨.view, .ints (xs)⟩, some ⟨.row 3 1, .ints (xs)⟩])))))) := by kernel_rfl
theorem resR_toI (n : Nat) (xs : List Int) (hx : xs.length = n) (h : Lim n) : ResR Try.prog 47 [.row n (.ints xs)] (.slice (some ⟨0, 0, none⟩) n n) ⟨.row 3 1, .ints xs⟩ := by
  refine bodyX_resR mixed ETi_ok (m := 30) (n := 12) rfl ?_
  rw [tr_toIF]
  unfold Lim at h
  simp only [Tree.ok, Int.toNat_natCast, List.length_replicate]
  exact ⟨by omega, trivial, trivial, hx, by omega, h, some 1, ⟨rfl, rfl, rfl⟩, rfl, rfl, rfl⟩
def R4i : TabR := fun f ds => match f, ds with
  | 47, [.row n (.ints xs)] => some (.slice (some ⟨0, 0, none⟩) n n, ⟨.row 3 1, .ints xs⟩, [xs.length = n, Lim n])
  | f, ds => R4 f ds
theorem R4i_ok : TabROk Try.prog R4i := by
  intro f ds v b C h hC
  unfold R4i at h
  (try split at h)
  all_goals first | exact R4_ok _ _ _ _ _ h hC | (obtain ⟨rfl, rfl, rfl⟩ : _ ∧ _ ∧ _ := (by simpa using h); exact resR_toI _ _ hC.1 hC.2.1)
section
open Go.ChangeShapes Go.WideShapes Go.ChangeAt Go.RowKit Go.Deep
variable {H : Type} {enc : TypeId × Value → H} {P : Program} {w : World} {base : Nat} {spare : Nat → Bool} {held : Bool}
/-- A slice of ints. -/
theorem arg_ints {t e : TypeId} (ht : P.underlying t = some (.slice e)) (he : P.underlying e = some (.int .i64)) (hC : P.cellsOf e = 1) {r : Reach} {b0 : Nat} {v : Value} {d : DataW H} {ps : List MemPlace} (hv : Value.okWide P w r b0 t v) (h : DataW.Trod enc P w base spare held t v d ps) :
    ∃ xs : List Int, xs.length ≤ maxLen ∧ DOk w (.row xs.length (.ints xs)) v := by
  obtain ⟨ad, len, cap, rfl⟩ := okWide_slice ht hv
  obtain ⟨fuel, hf⟩ := h
  rcases open_slice ht hf with ⟨hcs, _⟩ | ⟨a, len', cap', m, n, D, Pl, hcs, hb, hl, hm, hmm, _, hi⟩
  · obtain ⟨rfl, rfl, rfl⟩ : ad = none ∧ len = 0 ∧ cap = 0 := by simpa [Value.cells] using hcs
    exact ⟨[], Nat.zero_le _, rfl, none, 0, rfl, Nat.le_refl _, .inl rfl⟩
  · obtain ⟨rfl, rfl, rfl⟩ : ad = some a ∧ len = len' ∧ cap = cap' := by simpa [Value.cells] using hcs
    have hlm : len ≤ m := by rw [hmm]; split <;> omega
    have each : ∀ q, q < len → ∃ z : Int, w.cell? (a.add q) = some (.int .i64 z) := by
      intro q hq
      obtain ⟨cs', hc, htr⟩ := hi q (by omega)
      rw [hC] at hc
      obtain ⟨_, hcl, hat⟩ := World.cells?_some hc
      obtain ⟨z, hz, _, hr⟩ := DataW.trod_int he htr
      have hcell := hat 0 (by omega)
      rw [Go.Deep.add_add] at hcell
      simp only [Nat.mul_one, Nat.add_zero] at hcell
      subst hz
      exact ⟨z, by simpa using hcell⟩
    obtain ⟨xs, hx1, hx2⟩ := cells_choose each
    refine ⟨xs, by omega, rfl, some a, cap, by rw [hx1], by omega, ?_⟩
    rw [hx1]
    rcases Nat.eq_zero_or_pos len with h0 | hpos
    · exact .inl h0
    · right
      obtain ⟨z, hz⟩ := each 0 hpos
      have ha0 : a.add 0 = a := by simp [Addr.add]
      rw [ha0] at hz
      have hsp : a.spot = none := by
        unfold World.cell? at hz
        split at hz
        · split at hz
          · cases hz
          · rename_i hs; simpa using hs
        · cases hz
      obtain ⟨g, f, sp⟩ := a
      simp only at hsp
      subst hsp
      refine ⟨g, f, rfl, World.block_lt_of_cell? w _ hz, fun q v hv => ?_⟩
      rw [← addr_add]
      exact hx2 q v hv
end
end Go.Proofs.Ytolodncpegajkaa
namespace Go.Proofs.Ytolodncpegajkaa
set_option linter.all false
open Go.RowKit
def pMinus : List DArg → Option (Value × List Prop)
  | [.v (.agg ⟨[.int .i64 a, .int .i64 b]⟩), .v (.agg ⟨[.int .i64 c, .int .i64 d]⟩)] => some (.agg #[iv (a - c), iv (b - d)], [(-4000000 ≤ a - c ∧ a - c ≤ 4000000) ∧ (-4000000 ≤ b - d ∧ b - d ≤ 4000000)])
  | _ => none
def okP (x : Int) : Prop := -4000000000000000000 ≤ x ∧ x ≤ 4000000000000000000
def pDot : List DArg → Option (Value × List Prop)
  | [.v (.agg ⟨[.int .i64 a, .int .i64 b]⟩), .v (.agg ⟨[.int .i64 c, .int .i64 d]⟩)] => some (iv (a * c + b * d), [okP (a * c) ∧ okP (b * d)])
  | _ => none
def pCrsV : List DArg → Option (Value × List Prop)
  | [.v (.agg ⟨[.int .i64 a, .int .i64 b]⟩), .v (.agg ⟨[.int .i64 c, .int .i64 d]⟩)] => some (iv (a * d - b * c), [okP (a * d) ∧ okP (b * c)])
  | _ => none
def p3B (a b c d e f : Int) : Prop := ptB a b = true ∧ ptB c d = true ∧ ptB e f = true
def pTurn : List DArg → Option (Value × List Prop)
  | [.v (.agg ⟨[.int .i64 a, .int .i64 b]⟩), .v (.agg ⟨[.int .i64 c, .int .i64 d]⟩), .v (.agg ⟨[.int .i64 e, .int .i64 f]⟩)] => some (iv (crossI a b c d e f), [p3B a b c d e f])
  | _ => none
def TI : Tab := fun f ds => match f with
  | 123 => pMinus ds
  | 152 => pDot ds
  | 124 => pCrsV ds
  | 121 => pTurn ds
  | 101 => pTurn ds
  | _ => T1 f ds
theorem TI_r0 {ds : List DArg} {v : Value} {C : List Prop} (h : pMinus ds = some (v, C)) (hC : AllP C) : Res Try.prog 123 ds v := by
  unfold pMinus at h
  split at h
  · obtain ⟨rfl, rfl⟩ : _ ∧ _ := by simpa using h
    exact res_calls (by kernel_rfl) rfl rfl fun w => minus_any _ _ _ _ w hC.1.1 hC.1.2
  · cases h
theorem TI_r1 {ds : List DArg} {v : Value} {C : List Prop} (h : pDot ds = some (v, C)) (hC : AllP C) : Res Try.prog 152 ds v := by
  unfold pDot at h
  split at h
  · obtain ⟨rfl, rfl⟩ : _ ∧ _ := by simpa using h
    exact res_calls (by kernel_rfl) rfl rfl fun w => pdot_any _ _ _ _ w hC.1.1 hC.1.2
  · cases h
theorem TI_r2 {ds : List DArg} {v : Value} {C : List Prop} (h : pCrsV ds = some (v, C)) (hC : AllP C) : Res Try.prog 124 ds v := by
  unfold pCrsV at h
  split at h
  · obtain ⟨rfl, rfl⟩ : _ ∧ _ := by simpa using h
    exact res_calls (by kernel_rfl) rfl rfl fun w => pcross_any _ _ _ _ w hC.1.1 hC.1.2
  · cases h
theorem TI_r3 {ds : List DArg} {v : Value} {C : List Prop} (h : pTurn ds = some (v, C)) (hC : AllP C) : Res Try.prog 121 ds v := by
  unfold pTurn at h
  split at h
  · obtain ⟨rfl, rfl⟩ : _ ∧ _ := by simpa using h
    exact res_calls (by kernel_rfl) rfl rfl fun w => turn_any _ _ _ _ _ _ w hC.1.1 hC.1.2.1 hC.1.2.2
  · cases h
theorem TI_r4 {ds : List DArg} {v : Value} {C : List Prop} (h : pTurn ds = some (v, C)) (hC : AllP C) : Res Try.prog 101 ds v := by
  unfold pTurn at h
  split at h
  · obtain ⟨rfl, rfl⟩ : _ ∧ _ := by simpa using h
    exact res_calls (by kernel_rfl) rfl rfl fun w => specCross_any _ _ _ _ _ _ w hC.1.1 hC.1.2.1 hC.1.2.2
  · cases h
theorem TI_ok : TabOk Try.prog TI := by
  intro f ds v C h hC
  unfold TI at h
  (try split at h)
  all_goals first | with_reducible exact TI_r0 h hC | with_reducible exact TI_r1 h hC | with_reducible exact TI_r2 h hC | with_reducible exact TI_r3 h hC | with_reducible exact TI_r4 h hC | exact T1_ok _ _ _ _ h hC | cases h
abbrev ag (x y : Int) : DArg := .v (.agg #[iv x, iv y])
def detI (u1 u2 v1 v2 w1 w2 : Int) : Int := (u1 * u1 + u2 * u2) * (v1 * w2 - v2 * w1) + (v1 * v1 + v2 * v2) * (w1 * u2 - w2 * u1) + (w1 * w1 + w2 * w2) * (u1 * v2 - u2 * v1)
def bd2 (x : Int) : Prop := -2000 ≤ x ∧ x ≤ 2000
theorem det_bd {u1 u2 v1 v2 w1 w2 : Int} (hu1 : bd2 u1) (hu2 : bd2 u2) (hv1 : bd2 v1) (hv2 : bd2 v2) (hw1 : bd2 w1) (hw2 : bd2 w2) :
    IntKind.i64.wrap (IntKind.i64.wrap (IntKind.i64.wrap ((u1 * u1 + u2 * u2) * (v1 * w2 - v2 * w1)) + IntKind.i64.wrap ((v1 * v1 + v2 * v2) * (w1 * u2 - w2 * u1))) + IntKind.i64.wrap ((w1 * w1 + w2 * w2) * (u1 * v2 - u2 * v1))) = detI u1 u2 v1 v2 w1 w2 ∧
    IntKind.i64.wrap (IntKind.i64.wrap (IntKind.i64.wrap (IntKind.i64.wrap (IntKind.i64.wrap (u1 * u1) + IntKind.i64.wrap (u2 * u2)) * IntKind.i64.wrap (IntKind.i64.wrap (v1 * w2) - IntKind.i64.wrap (v2 * w1))) - IntKind.i64.wrap (IntKind.i64.wrap (IntKind.i64.wrap (v1 * v1) + IntKind.i64.wrap (v2 * v2)) * IntKind.i64.wrap (IntKind.i64.wrap (u1 * w2) - IntKind.i64.wrap (u2 * w1)))) + IntKind.i64.wrap (IntKind.i64.wrap (IntKind.i64.wrap (w1 * w1) + IntKind.i64.wrap (w2 * w2)) * IntKind.i64.wrap (IntKind.i64.wrap (u1 * v2) - IntKind.i64.wrap (u2 * v1)))) = detI u1 u2 v1 v2 w1 w2 := by
  unfold bd2 at *
  have e1 := prod_bd (x := u1) (y := u1) 2000 2000 hu1 hu1
  have e2 := prod_bd (x := u2) (y := u2) 2000 2000 hu2 hu2
  have e3 := prod_bd (x := v1) (y := v1) 2000 2000 hv1 hv1
  have e4 := prod_bd (x := v2) (y := v2) 2000 2000 hv2 hv2
  have e5 := prod_bd (x := w1) (y := w1) 2000 2000 hw1 hw1
  have e6 := prod_bd (x := w2) (y := w2) 2000 2000 hw2 hw2
  have e7 := prod_bd (x := v1) (y := w2) 2000 2000 hv1 hw2
  have e8 := prod_bd (x := v2) (y := w1) 2000 2000 hv2 hw1
  have e9 := prod_bd (x := u1) (y := w2) 2000 2000 hu1 hw2
  have e10 := prod_bd (x := u2) (y := w1) 2000 2000 hu2 hw1
  have e11 := prod_bd (x := u1) (y := v2) 2000 2000 hu1 hv2
  have e12 := prod_bd (x := u2) (y := v1) 2000 2000 hu2 hv1
  have c1 : w1 * u2 = u2 * w1 := Int.mul_comm _ _
  have c2 : w2 * u1 = u1 * w2 := Int.mul_comm _ _
  have q1 := prod_bd (x := u1 * u1 + u2 * u2) (y := v1 * w2 - v2 * w1) 8000000 8000000 (by omega) (by omega)
  have q2 := prod_bd (x := v1 * v1 + v2 * v2) (y := u1 * w2 - u2 * w1) 8000000 8000000 (by omega) (by omega)
  have q3 := prod_bd (x := w1 * w1 + w2 * w2) (y := u1 * v2 - u2 * v1) 8000000 8000000 (by omega) (by omega)
  have q4 : (v1 * v1 + v2 * v2) * (w1 * u2 - w2 * u1) = -((v1 * v1 + v2 * v2) * (u1 * w2 - u2 * w1)) := by grind
  unfold detI
  rw [q4]
  constructor
  · simp (disch := omega) only [wr]
  · simp (disch := omega) only [wr]
    omega
theorem dif_bd {a b c d : Int} (h1 : ptB a b = true) (h2 : ptB c d = true) : bd2 (a - c) ∧ bd2 (b - d) := by
  have a1 := ptB_true h1
  have b1 := ptB_true h2
  unfold bd2
  omega
theorem wd {x : Int} (h : bd2 x) : IntKind.i64.wrap x = x := by unfold bd2 at h; exact wr (by omega)
theorem okP_of {x y : Int} (h : bd2 x) (k : bd2 y) : okP (x * y) := by
  have := prod_bd (x := x) (y := y) 2000 2000 h k
  unfold okP
  omega
theorem cmpI_bd (x y : Int) : cmpI x y = -1 ∨ cmpI x y = 0 ∨ cmpI x y = 1 := by unfold cmpI; split <;> (try split) <;> omega
theorem wcc (x y z t : Int) : IntKind.i64.wrap (cmpI x y * cmpI z t) = cmpI x y * cmpI z t := by
  rcases cmpI_bd x y with h | h | h <;> rcases cmpI_bd z t with k | k | k <;> rw [h, k] <;> decide
end Go.Proofs.Ytolodncpegajkaa
namespace Go.Proofs.Ytolodncpegajkaa
set_option linter.all false
open Go.RowKit
theorem loop_det2 {P : Program} {c : Code} {N M : Nat} {X : Type} (St_of : X → St) (Inv : X → Prop) (μ : X → Nat) (re : X → Ex) (rs : X → St) (keep : Ex → List Nat) (hM : ∀ x, (St_of x).mem.length ≤ M)
    (h : ∀ x, Inv x → ∃ e' s', Det P c (St_of x) e' s' ∧ match e' with
      | .normal => ∃ x' π, Inv x' ∧ μ x' < μ x ∧ re x' = re x ∧ rs x' = rs x ∧ WS N π (cutS M (keep .normal) s') (St_of x')
      | e => e = re x ∧ ∃ π, WS N π (cutS M (keep e) s') (rs x))
    {x : X} (hx : Inv x) {s : St} {π : List (Option Nat)} (hN : s.mem.length = N) (hs : WS N π s (St_of x)) : Det P (.loop c) s (re x) (rs x) := by
  intro w0 a w hc
  have hρ := con_dom hc
  rw [hN] at hρ
  have hρ' : ∀ {x' π' s'}, WS N π' s' (St_of x') → ∀ n, (St_of x').mem.length ≤ n → w0.ρ0 n = none := fun h n hn => hρ n (Nat.le_trans (Nat.le_of_ble_eq_true h.1) hn)
  refine wpIn_loop_ghost (fun n a w => ∃ x', Inv x' ∧ μ x' = n ∧ re x' = re x ∧ rs x' = rs x ∧ (∀ n, (St_of x').mem.length ≤ n → w0.ρ0 n = none) ∧ Con w0 (St_of x').fs a w) (μ x) ⟨x, hx, rfl, rfl, rfl, hρ' hs, weak_con hs hρ hc⟩ ?_
  rintro n a w ⟨x', hI, rfl, hre, hrs, hdom, hcc⟩
  obtain ⟨e', s', hd, hend⟩ := h x' hI
  have hdom2 : ∀ n, M ≤ n → w0.ρ0 n = none := fun n hn => hdom n (Nat.le_trans (hM x') hn)
  refine wpIn_mono (hd w0 a w hcc) ?_
  rintro e a' w' ⟨rfl, hcc'⟩
  cases e' with
  | normal =>
    obtain ⟨x2, π2, g1, g2, g3, g4, g5⟩ := hend
    exact ⟨_, g2, x2, g1, rfl, g3.trans hre, g4.trans hrs, hρ' g5, weak_con g5 hρ (cut_con hdom2 hcc')⟩
  | exit id =>
    obtain ⟨g1, π2, g2⟩ := hend
    exact ⟨by rw [← hre, ← g1], by rw [← hrs]; exact weak_con g2 hρ (cut_con hdom2 hcc')⟩
  | ret =>
    obtain ⟨g1, π2, g2⟩ := hend
    exact ⟨by rw [← hre, ← g1], by rw [← hrs]; exact weak_con g2 hρ (cut_con hdom2 hcc')⟩
theorem loop_run2 {P : Program} (hm : P.follows .mixedOrders = true) {E : Env} (hE : EnvOk P E) {m n : Nat} {lt : LT} {j : Nat} {c : Code} {N : Nat} {X : Type} (St_of : X → St) (Inv : X → Prop) (μ : X → Nat) (re : X → Ex) (rs : X → St) (keep : Ex → List Nat) {M : Nat} (hM : ∀ x, Nat.ble (St_of x).mem.length M = true) (hL : LoopsGood P lt j c)
    (h : ∀ x, Inv x → (bodyL P E m n lt j c keep M (St_of x)).ok (RoundEnd N St_of Inv μ re rs x) (fun _ _ => False))
    {x : X} (hx : Inv x) {s : St} {π : List (Option Nat)} (hN : s.mem.length = N) (hs : WS N π s (St_of x)) : Det P (.loop c) s (re x) (rs x) :=
  loop_det2 (M := M) St_of Inv μ re rs keep (fun x => Nat.le_of_ble_eq_true (hM x)) (fun x hx => by
    obtain ⟨e', s', h1, h2⟩ := body_det hm hE hL (h x hx)
    refine ⟨e', s', h1, ?_⟩
    unfold RoundEnd at h2
    cases e' <;> exact h2) hx hN hs
end Go.Proofs.Ytolodncpegajkaa
namespace Go.Proofs.Ytolodncpegajkaa
set_option linter.all false
open Go.RowKit
/-- What a table tells of some methods, as an operation; else what was told before. -/
def plG (l : List FuncId) (B : Tab) (g : Ctx) : Ctx := fun f name args => match l.any fun h => Nat.beq h f with
  | true => (rdArgs args).bind fun ds => match B f ds with
    | some (v, C) => .ret ⟨v, [], C⟩
    | none => .fail
  | false => g f name args
def plJ (l : List FuncId) (B : Tab) (J : TabJ) : TabJ := ⟨J.on, plG l B J.g, J.row⟩
theorem plG_sound {P : Program} {l : List FuncId} (hl : ∀ f ∈ l, enters P f) {B : Tab} (hB : TabOk P B) {g : Ctx} (hg : GSound P g) : GSound P (plG l B g) := by
  intro f name args s eff hr hn
  unfold plG at hr
  split at hr
  rotate_left
  · exact hg f name args s eff hr hn
  rename_i hf
  have hent : enters P f := by
    obtain ⟨h, hm, he⟩ := List.any_eq_true.1 hf
    obtain rfl := Nat.eq_of_beq_eq_true he
    exact hl _ hm
  obtain ⟨ds, hds, hr⟩ := bind_some hr
  split at hr
  rotate_left
  · simp [Rd.run] at hr
  rename_i v C hx
  obtain rfl : (⟨v, [], C⟩ : Eff) = eff := by simpa [Rd.run] using hr
  refine ⟨hent, fun B' ρ0 ρ w args' ha hm hb hC => ?_⟩
  obtain ⟨_, _, h3, _, h4⟩ := hB f ds v C hx hC
  refine (h4 w args' ((rdArgs_ok hds).2 ha hm)).mono ?_
  rintro e w' ⟨rfl, hbel⟩
  refine ⟨v, ρ, rfl, Ext.refl ρ, .lit h3, BelowK.of hbel hb, ?_⟩
  have : (s.upd none ⟨v, [], C⟩).blk = s.blk := by funext m; simp [FS.upd, lookW]
  rw [this]
  exact hm.keep hbel
/-- Methods are told by the table of plain answers. -/
def withP (l : List FuncId) (E : Env) : Env := withT E (plJ l E.B E.J)
theorem withP_ok {P : Program} {E : Env} (hE : EnvOk P E) {l : List FuncId} (hl : ∀ f ∈ l, enters P f) : EnvOk P (withP l E) := withT_ok hE (plG_sound hl hE.B hE.J)
end Go.Proofs.Ytolodncpegajkaa
namespace Go.Proofs.Ytolodncpegajkaa
set_option linter.all false
open Go.RowKit
def TCa : Tab := fun f ds => match f with
  | 123 => TI f ds
  | 152 => TI f ds
  | 124 => TI f ds
  | 121 => TI f ds
  | 101 => TI f ds
  | f => T3 f ds
theorem TCa_ok : TabOk Try.prog TCa := by
  intro f ds v C h hC
  unfold TCa at h
  (try split at h)
  all_goals first | exact TI_ok _ _ _ _ h hC | exact T3_ok _ _ _ _ h hC
def ECa0 : Env := mkE TCa (fun _ _ => none) (fun _ => noL)
theorem ECa0_ok : EnvOk Try.prog ECa0 := mkEOk TCa_ok (fun _ _ _ _ _ h => (by cases h)) (fun _ _ _ => noL_good)
/-- Do all numbers from one on pass? -/
def aF (p : Nat → Bool) (n i : Nat) : Bool := (List.range' i (n - i)).all p
theorem aF_step {p : Nat → Bool} {n i : Nat} (h : i < n) : aF p n i = (p i && aF p n (i + 1)) := by
  unfold aF
  obtain ⟨d, hd⟩ : ∃ d, n - i = d + 1 := ⟨n - i - 1, by omega⟩
  rw [hd, List.range'_succ, List.all_cons, show n - (i + 1) = d by omega]
theorem aF_end {p : Nat → Bool} {n i : Nat} (h : n ≤ i) : aF p n i = true := by
  unfold aF
  rw [show n - i = 0 by omega]
  rfl
theorem aF_iff {p : Nat → Bool} {n i : Nat} : aF p n i = true ↔ ∀ k, i ≤ k → k < n → p k = true := by
  unfold aF
  rw [List.all_eq_true]
  constructor
  · intro h k h1 h2
    exact h k (by rw [List.mem_range'_1]; omega)
  · intro h k hk
    rw [List.mem_range'_1] at hk
    exact h k hk.1 (by omega)
/-- The scalar product of two vectors from a point. -/
def dtI (a b c d e f : Int) : Int := (c - a) * (e - a) + (d - b) * (f - b)
theorem dt_bd {a b c d e f : Int} (h1 : ptB a b = true) (h2 : ptB c d = true) (h3 : ptB e f = true) : bd2 (c - a) ∧ bd2 (d - b) ∧ bd2 (e - a) ∧ bd2 (f - b) ∧ -8000000 ≤ dtI a b c d e f ∧ dtI a b c d e f ≤ 8000000 ∧ -4000000 ≤ (c - a) * (e - a) ∧ (c - a) * (e - a) ≤ 4000000 ∧ -4000000 ≤ (d - b) * (f - b) ∧ (d - b) * (f - b) ≤ 4000000 := by
  obtain ⟨x1, x2⟩ := dif_bd h2 h1
  obtain ⟨x3, x4⟩ := dif_bd h3 h1
  have e1 := prod_bd (x := c - a) (y := e - a) 2000 2000 x1 x3
  have e2 := prod_bd (x := d - b) (y := f - b) 2000 2000 x2 x4
  refine ⟨x1, x2, x3, x4, ?_⟩
  unfold dtI
  omega
set_option maxRecDepth 100000 in
theorem tr_sDt (a b c d e f : Int) : bodyV Try.prog ECa0 30 12 141 [ag a b, ag c d, ag e f] = .fin (.int .i64 (IntKind.i64.wrap (IntKind.i64.wrap (IntKind.i64.wrap (c - a) * IntKind.i64.wrap (e - a)) + IntKind.i64.wrap (IntKind.i64.wrap (d - b) * IntKind.i64.wrap (f - b))))) [] := by kernel_rfl
theorem res_sDt (a b c d e f : Int) (h : p3B a b c d e f) : Res Try.prog 141 [ag a b, ag c d, ag e f] (iv (dtI a b c d e f)) := by
  refine bodyV_res mixed ECa0_ok (m := 30) (n := 12) rfl ?_
  rw [tr_sDt]
  obtain ⟨x1, x2, x3, x4, y1, y2, y3, y4, y5, y6⟩ := dt_bd h.1 h.2.1 h.2.2
  rw [wd x1, wd x2, wd x3, wd x4, wr (x := (c - a) * (e - a)) (by omega), wr (x := (d - b) * (f - b)) (by omega), wr (by omega)]
  rfl
set_option maxRecDepth 100000 in
theorem tr_sIc (a b c d e f g i : Int) : bodyV Try.prog ECa0 30 12 163 [ag a b, ag c d, ag e f, ag g i] = .fin (.int .i64 (cmpI (IntKind.i64.wrap (IntKind.i64.wrap (IntKind.i64.wrap (IntKind.i64.wrap (IntKind.i64.wrap (IntKind.i64.wrap (a - g) * IntKind.i64.wrap (a - g)) + IntKind.i64.wrap (IntKind.i64.wrap (b - i) * IntKind.i64.wrap (b - i))) * IntKind.i64.wrap (IntKind.i64.wrap (IntKind.i64.wrap (c - g) * IntKind.i64.wrap (f - i)) - IntKind.i64.wrap (IntKind.i64.wrap (d - i) * IntKind.i64.wrap (e - g)))) - IntKind.i64.wrap (IntKind.i64.wrap (IntKind.i64.wrap (IntKind.i64.wrap (c - g) * IntKind.i64.wrap (c - g)) + IntKind.i64.wrap (IntKind.i64.wrap (d - i) * IntKind.i64.wrap (d - i))) * IntKind.i64.wrap (IntKind.i64.wrap (IntKind.i64.wrap (a - g) * IntKind.i64.wrap (f - i)) - IntKind.i64.wrap (IntKind.i64.wrap (b - i) * IntKind.i64.wrap (e - g))))) + IntKind.i64.wrap (IntKind.i64.wrap (IntKind.i64.wrap (IntKind.i64.wrap (e - g) * IntKind.i64.wrap (e - g)) + IntKind.i64.wrap (IntKind.i64.wrap (f - i) * IntKind.i64.wrap (f - i))) * IntKind.i64.wrap (IntKind.i64.wrap (IntKind.i64.wrap (a - g) * IntKind.i64.wrap (d - i)) - IntKind.i64.wrap (IntKind.i64.wrap (b - i) * IntKind.i64.wrap (c - g)))))) 0)) [] := by kernel_rfl
/-- The sign of the determinant of a circle. -/
def deI (a b c d e f g i : Int) : Int := cmpI (detI (a - g) (b - i) (c - g) (d - i) (e - g) (f - i)) 0
def p4B (a b c d e f g i : Int) : Prop := ptB a b = true ∧ ptB c d = true ∧ ptB e f = true ∧ ptB g i = true
theorem res_sIc (a b c d e f g i : Int) (h : p4B a b c d e f g i) : Res Try.prog 163 [ag a b, ag c d, ag e f, ag g i] (iv (deI a b c d e f g i)) := by
  refine bodyV_res mixed ECa0_ok (m := 30) (n := 12) rfl ?_
  rw [tr_sIc]
  obtain ⟨h1, h2, h3, h4⟩ := h
  obtain ⟨u1, u2⟩ := dif_bd h1 h4
  obtain ⟨v1, v2⟩ := dif_bd h2 h4
  obtain ⟨w1, w2⟩ := dif_bd h3 h4
  rw [wd u1, wd u2, wd v1, wd v2, wd w1, wd w2, (det_bd u1 u2 v1 v2 w1 w2).2]
  rfl
set_option maxRecDepth 100000 in
theorem tr_iIc (a b c d e f g i : Int) : bodyV Try.prog ECa0 30 12 209 [ag a b, ag c d, ag e f, ag g i] = .need (((-4000000 : Int) ≤ a - g ∧ a - g ≤ (4000000 : Int)) ∧ (-4000000 : Int) ≤ b - i ∧ b - i ≤ (4000000 : Int)) (.need (((-4000000 : Int) ≤ c - g ∧ c - g ≤ (4000000 : Int)) ∧ (-4000000 : Int) ≤ d - i ∧ d - i ≤ (4000000 : Int)) (.need (((-4000000 : Int) ≤ e - g ∧ e - g ≤ (4000000 : Int)) ∧ (-4000000 : Int) ≤ f - i ∧ f - i ≤ (4000000 : Int)) (.need (okP ((a - g) * (a - g)) ∧ okP ((b - i) * (b - i))) (.need (okP ((c - g) * (f - i)) ∧ okP ((d - i) * (e - g))) (.need (okP ((c - g) * (c - g)) ∧ okP ((d - i) * (d - i))) (.need (okP ((e - g) * (b - i)) ∧ okP ((f - i) * (a - g))) (.need (okP ((e - g) * (e - g)) ∧ okP ((f - i) * (f - i))) (.need (okP ((a - g) * (d - i)) ∧ okP ((b - i) * (c - g))) (.need (p3B a b c d e f) (.fin (.int .i64 (IntKind.i64.wrap (cmpI (IntKind.i64.wrap (IntKind.i64.wrap (IntKind.i64.wrap (((a - g) * (a - g) + (b - i) * (b - i)) * ((c - g) * (f - i) - (d - i) * (e - g))) + IntKind.i64.wrap (((c - g) * (c - g) + (d - i) * (d - i)) * ((e - g) * (b - i) - (f - i) * (a - g)))) + IntKind.i64.wrap (((e - g) * (e - g) + (f - i) * (f - i)) * ((a - g) * (d - i) - (b - i) * (c - g))))) 0 * cmpI (crossI a b c d e f) 0))) [])))))))))) := by kernel_rfl
theorem res_iIc (a b c d e f g i : Int) (h : p4B a b c d e f g i) : Res Try.prog 209 [ag a b, ag c d, ag e f, ag g i] (iv (deI a b c d e f g i * cmpI (crossI a b c d e f) 0)) := by
  refine bodyV_res mixed ECa0_ok (m := 30) (n := 12) rfl ?_
  rw [tr_iIc]
  obtain ⟨h1, h2, h3, h4⟩ := h
  have hp : p3B a b c d e f := ⟨h1, h2, h3⟩
  obtain ⟨u1, u2⟩ := dif_bd h1 h4
  obtain ⟨v1, v2⟩ := dif_bd h2 h4
  obtain ⟨w1, w2⟩ := dif_bd h3 h4
  rw [(det_bd u1 u2 v1 v2 w1 w2).1, wcc]
  have z1 := u1
  have z2 := u2
  have z3 := v1
  have z4 := v2
  have z5 := w1
  have z6 := w2
  unfold bd2 at z1 z2 z3 z4 z5 z6
  exact ⟨by omega, by omega, by omega, ⟨okP_of u1 u1, okP_of u2 u2⟩, ⟨okP_of v1 w2, okP_of v2 w1⟩, ⟨okP_of v1 v1, okP_of v2 v2⟩, ⟨okP_of w1 u2, okP_of w2 u1⟩, ⟨okP_of w1 w1, okP_of w2 w2⟩, ⟨okP_of u1 v2, okP_of u2 v1⟩, hp, rfl⟩
set_option maxRecDepth 100000 in
theorem tr_aAc (a b c d e f : Int) : bodyV Try.prog ECa0 30 12 144 [.v (.agg #[iv a, iv b, iv c, iv d, iv e, iv f])] = .need (((-4000000 : Int) ≤ c - a ∧ c - a ≤ (4000000 : Int)) ∧ (-4000000 : Int) ≤ d - b ∧ d - b ≤ (4000000 : Int)) (.need (((-4000000 : Int) ≤ e - c ∧ e - c ≤ (4000000 : Int)) ∧ (-4000000 : Int) ≤ f - d ∧ f - d ≤ (4000000 : Int)) (.need (((-4000000 : Int) ≤ a - e ∧ a - e ≤ (4000000 : Int)) ∧ (-4000000 : Int) ≤ b - f ∧ b - f ≤ (4000000 : Int)) (.need (okP ((c - a) * (a - e)) ∧ okP ((d - b) * (b - f))) (brT (decide ((c - a) * (a - e) + (d - b) * (b - f) < 0)) (.need (okP ((e - c) * (c - a)) ∧ okP ((f - d) * (d - b))) (brT (decide ((e - c) * (c - a) + (f - d) * (d - b) < 0)) (.need (okP ((a - e) * (e - c)) ∧ okP ((b - f) * (f - d))) (.fin (.bool (decide ((a - e) * (e - c) + (b - f) * (f - d) < 0))) [])) (.fin (.bool (false)) []))) (.fin (.bool (false)) []))))) := by kernel_rfl
/-- Are all angles less than 90 degrees? -/
def acB (a b c d e f : Int) : Bool := decide (0 < dtI a b c d e f) && (decide (0 < dtI c d a b e f) && decide (0 < dtI e f a b c d))
theorem res_aAc (a b c d e f : Int) (h : p3B a b c d e f) : Res Try.prog 144 [.v (.agg #[iv a, iv b, iv c, iv d, iv e, iv f])] (.bool (acB a b c d e f)) := by
  refine bodyV_res mixed ECa0_ok (m := 30) (n := 12) rfl ?_
  rw [tr_aAc]
  obtain ⟨h1, h2, h3⟩ := h
  have e1 : (c - a) * (a - e) + (d - b) * (b - f) = -dtI a b c d e f := by unfold dtI; grind
  have e2 : (e - c) * (c - a) + (f - d) * (d - b) = -dtI c d a b e f := by unfold dtI; grind
  have e3 : (a - e) * (e - c) + (b - f) * (f - d) = -dtI e f a b c d := by unfold dtI; grind
  rw [e1, e2, e3]
  obtain ⟨x1, x2⟩ := dif_bd h2 h1
  obtain ⟨y1, y2⟩ := dif_bd h3 h2
  obtain ⟨z1, z2⟩ := dif_bd h1 h3
  have k1 : okP ((c - a) * (a - e)) ∧ okP ((d - b) * (b - f)) := ⟨okP_of x1 z1, okP_of x2 z2⟩
  have k2 : okP ((e - c) * (c - a)) ∧ okP ((f - d) * (d - b)) := ⟨okP_of y1 x1, okP_of y2 x2⟩
  have k3 : okP ((a - e) * (e - c)) ∧ okP ((b - f) * (f - d)) := ⟨okP_of z1 y1, okP_of z2 y2⟩
  unfold bd2 at x1 x2 y1 y2 z1 z2
  unfold acB
  simp only [Tree.ok, brT_ok, decide_eq_true_eq, decide_eq_false_iff_not]
  refine ⟨by omega, by omega, by omega, k1, fun g1 => ⟨k2, fun g2 => ⟨k3, ?_⟩, fun g2 => ?_⟩, fun g1 => ?_⟩
  · rw [decide_eq_true (p := 0 < dtI a b c d e f) (by omega), decide_eq_true (p := 0 < dtI c d a b e f) (by omega), Bool.true_and, Bool.true_and]
    congr 1
    exact decide_eq_decide.2 (by omega)
  · rw [decide_eq_true (p := 0 < dtI a b c d e f) (by omega), decide_eq_false (p := 0 < dtI c d a b e f) (by omega)]
    rfl
  · rw [decide_eq_false (p := 0 < dtI a b c d e f) (by omega)]
    rfl
set_option maxRecDepth 100000 in
theorem tr_pEn (a b c d : Int) : bodyV Try.prog ECa0 30 12 204 [.v (.agg #[iv a, iv b]), ag c d] = .fin (.bool (negB false (c == a && (d == b && true)))) [] := by kernel_rfl
def eqQ (a b c d : Int) : Bool := c == a && d == b
theorem res_pEn (a b c d : Int) : Res Try.prog 204 [.v (.agg #[iv a, iv b]), ag c d] (.bool (eqQ a b c d)) := by
  refine bodyV_res mixed ECa0_ok (m := 30) (n := 12) rfl ?_
  rw [tr_pEn]
  simp [Tree.ok, eqQ, negB]
set_option maxRecDepth 100000 in
theorem tr_dEn (a b c d e f : Int) : bodyV Try.prog ECa0 30 12 206 [.v (.agg #[iv a, iv b, iv c, iv d]), ag e f] = .need (((-4000000 : Int) ≤ a - e ∧ a - e ≤ (4000000 : Int)) ∧ (-4000000 : Int) ≤ b - f ∧ b - f ≤ (4000000 : Int)) (.need (((-4000000 : Int) ≤ c - e ∧ c - e ≤ (4000000 : Int)) ∧ (-4000000 : Int) ≤ d - f ∧ d - f ≤ (4000000 : Int)) (.need (okP ((a - e) * (c - e)) ∧ okP ((b - f) * (d - f))) (.fin (.bool (decide ((a - e) * (c - e) + (b - f) * (d - f) ≤ 0))) []))) := by kernel_rfl
theorem res_dEn (a b c d e f : Int) (h : p3B a b c d e f) : Res Try.prog 206 [.v (.agg #[iv a, iv b, iv c, iv d]), ag e f] (.bool (decide (dtI e f a b c d ≤ 0))) := by
  refine bodyV_res mixed ECa0_ok (m := 30) (n := 12) rfl ?_
  rw [tr_dEn]
  obtain ⟨h1, h2, h3⟩ := h
  obtain ⟨x1, x2⟩ := dif_bd h1 h3
  obtain ⟨y1, y2⟩ := dif_bd h2 h3
  have k1 : okP ((a - e) * (c - e)) ∧ okP ((b - f) * (d - f)) := ⟨okP_of x1 y1, okP_of x2 y2⟩
  unfold bd2 at x1 x2 y1 y2
  exact ⟨by omega, by omega, k1, rfl⟩
def pDt3 : List DArg → Option (Value × List Prop)
  | [.v (.agg ⟨[.int .i64 a, .int .i64 b]⟩), .v (.agg ⟨[.int .i64 c, .int .i64 d]⟩), .v (.agg ⟨[.int .i64 e, .int .i64 f]⟩)] => some (iv (dtI a b c d e f), [p3B a b c d e f])
  | _ => none
def pSic : List DArg → Option (Value × List Prop)
  | [.v (.agg ⟨[.int .i64 a, .int .i64 b]⟩), .v (.agg ⟨[.int .i64 c, .int .i64 d]⟩), .v (.agg ⟨[.int .i64 e, .int .i64 f]⟩), .v (.agg ⟨[.int .i64 g, .int .i64 i]⟩)] => some (iv (deI a b c d e f g i), [p4B a b c d e f g i])
  | _ => none
def pIic : List DArg → Option (Value × List Prop)
  | [.v (.agg ⟨[.int .i64 a, .int .i64 b]⟩), .v (.agg ⟨[.int .i64 c, .int .i64 d]⟩), .v (.agg ⟨[.int .i64 e, .int .i64 f]⟩), .v (.agg ⟨[.int .i64 g, .int .i64 i]⟩)] => some (iv (deI a b c d e f g i * cmpI (crossI a b c d e f) 0), [p4B a b c d e f g i])
  | _ => none
def pAac : List DArg → Option (Value × List Prop)
  | [.v (.agg ⟨[.int .i64 a, .int .i64 b, .int .i64 c, .int .i64 d, .int .i64 e, .int .i64 f]⟩)] => some (.bool (acB a b c d e f), [p3B a b c d e f])
  | _ => none
def pPen : List DArg → Option (Value × List Prop)
  | [.v (.agg ⟨[.int .i64 a, .int .i64 b]⟩), .v (.agg ⟨[.int .i64 c, .int .i64 d]⟩)] => some (.bool (eqQ a b c d), [])
  | _ => none
def pDen : List DArg → Option (Value × List Prop)
  | [.v (.agg ⟨[.int .i64 a, .int .i64 b, .int .i64 c, .int .i64 d]⟩), .v (.agg ⟨[.int .i64 e, .int .i64 f]⟩)] => some (.bool (decide (dtI e f a b c d ≤ 0)), [p3B a b c d e f])
  | _ => none
theorem pDt3_ok {ds : List DArg} {v : Value} {C : List Prop} (h : pDt3 ds = some (v, C)) (hC : AllP C) : Res Try.prog 141 ds v := by
  unfold pDt3 at h
  split at h
  · obtain ⟨rfl, rfl⟩ : _ ∧ _ := by simpa using h
    exact res_sDt _ _ _ _ _ _ hC.1
  · cases h
theorem pSic_ok {ds : List DArg} {v : Value} {C : List Prop} (h : pSic ds = some (v, C)) (hC : AllP C) : Res Try.prog 163 ds v := by
  unfold pSic at h
  split at h
  · obtain ⟨rfl, rfl⟩ : _ ∧ _ := by simpa using h
    exact res_sIc _ _ _ _ _ _ _ _ hC.1
  · cases h
theorem pIic_ok {ds : List DArg} {v : Value} {C : List Prop} (h : pIic ds = some (v, C)) (hC : AllP C) : Res Try.prog 209 ds v := by
  unfold pIic at h
  split at h
  · obtain ⟨rfl, rfl⟩ : _ ∧ _ := by simpa using h
    exact res_iIc _ _ _ _ _ _ _ _ hC.1
  · cases h
theorem pAac_ok {ds : List DArg} {v : Value} {C : List Prop} (h : pAac ds = some (v, C)) (hC : AllP C) : Res Try.prog 144 ds v := by
  unfold pAac at h
  split at h
  · obtain ⟨rfl, rfl⟩ : _ ∧ _ := by simpa using h
    exact res_aAc _ _ _ _ _ _ hC.1
  · cases h
theorem pPen_ok {ds : List DArg} {v : Value} {C : List Prop} (h : pPen ds = some (v, C)) : Res Try.prog 204 ds v := by
  unfold pPen at h
  split at h
  · obtain ⟨rfl, rfl⟩ : _ ∧ _ := by simpa using h
    exact res_pEn _ _ _ _
  · cases h
theorem pDen_ok {ds : List DArg} {v : Value} {C : List Prop} (h : pDen ds = some (v, C)) (hC : AllP C) : Res Try.prog 206 ds v := by
  unfold pDen at h
  split at h
  · obtain ⟨rfl, rfl⟩ : _ ∧ _ := by simpa using h
    exact res_dEn _ _ _ _ _ _ hC.1
  · cases h
def TCb : Tab := fun f ds => match f with
  | 141 => pDt3 ds
  | 163 => pSic ds
  | 209 => pIic ds
  | 144 => pAac ds
  | 204 => pPen ds
  | 206 => pDen ds
  | f => TCa f ds
theorem TCb_ok : TabOk Try.prog TCb := by
  intro f ds v C h hC
  unfold TCb at h
  (try split at h)
  all_goals first | with_reducible exact pDt3_ok h hC | with_reducible exact pSic_ok h hC | with_reducible exact pIic_ok h hC | with_reducible exact pAac_ok h hC | with_reducible exact pPen_ok h | with_reducible exact pDen_ok h hC | exact TCa_ok _ _ _ _ h hC
def ECb0 : Env := mkE TCb (fun _ _ => none) (fun _ => noL)
theorem ECb0_ok : EnvOk Try.prog ECb0 := mkEOk TCb_ok (fun _ _ _ _ _ h => (by cases h)) (fun _ _ _ => noL_good)
set_option maxRecDepth 100000 in
theorem tr_aEn (a b c d e f g i : Int) : bodyV Try.prog ECb0 30 12 208 [.v (.agg #[iv a, iv b, iv c, iv d, iv e, iv f]), ag g i] = .need (p4B a b c d e f g i) (.fin (.bool (decide (0 ≤ deI a b c d e f g i * cmpI (crossI a b c d e f) 0))) []) := by kernel_rfl
theorem res_aEn (a b c d e f g i : Int) (h : p4B a b c d e f g i) : Res Try.prog 208 [.v (.agg #[iv a, iv b, iv c, iv d, iv e, iv f]), ag g i] (.bool (decide (0 ≤ deI a b c d e f g i * cmpI (crossI a b c d e f) 0))) := by
  refine bodyV_res mixed ECb0_ok (m := 30) (n := 12) rfl ?_
  rw [tr_aEn]
  exact ⟨h, rfl⟩
def pAen : List DArg → Option (Value × List Prop)
  | [.v (.agg ⟨[.int .i64 a, .int .i64 b, .int .i64 c, .int .i64 d, .int .i64 e, .int .i64 f]⟩), .v (.agg ⟨[.int .i64 g, .int .i64 i]⟩)] => some (.bool (decide (0 ≤ deI a b c d e f g i * cmpI (crossI a b c d e f) 0)), [p4B a b c d e f g i])
  | _ => none
theorem pAen_ok {ds : List DArg} {v : Value} {C : List Prop} (h : pAen ds = some (v, C)) (hC : AllP C) : Res Try.prog 208 ds v := by
  unfold pAen at h
  split at h
  · obtain ⟨rfl, rfl⟩ : _ ∧ _ := by simpa using h
    exact res_aEn _ _ _ _ _ _ _ _ hC.1
  · cases h
/-- A point of a list at an index of another list. -/
def ptk (ps : List Pt) (ks : List Int) (j : Nat) : Pt := ps.getD (ks.getD j 0).toNat (0, 0)
/-- Is a point in the circle of points? -/
def inS (ps : List Pt) (ks : List Int) (x y : Int) : Bool :=
  if ks.length = 1 then eqQ x y (ptk ps ks 0).1 (ptk ps ks 0).2
  else if ks.length = 2 then decide (dtI x y (ptk ps ks 0).1 (ptk ps ks 0).2 (ptk ps ks 1).1 (ptk ps ks 1).2 ≤ 0)
  else decide (0 ≤ deI (ptk ps ks 0).1 (ptk ps ks 0).2 (ptk ps ks 1).1 (ptk ps ks 1).2 (ptk ps ks 2).1 (ptk ps ks 2).2 x y * cmpI (crossI (ptk ps ks 0).1 (ptk ps ks 0).2 (ptk ps ks 1).1 (ptk ps ks 1).2 (ptk ps ks 2).1 (ptk ps ks 2).2) 0)
/-- Are numbers indices of a list? -/
def idK (L : Int) (ks : List Int) : Prop := ∀ k, k < ks.length → 0 ≤ ks.getD k 0 ∧ ks.getD k 0 < L
set_option maxRecDepth 100000 in
theorem tr_inS (ps : List Pt) (ks : List Int) (x y : Int) : bodyV Try.prog ECb0 30 12 142 [.row ps.length (.ints (flat ps)), .row ks.length (.ints ks), ag x y] = .need ((0 : Int) ≤ (0 : Int) ∧ (0 : Int) < (↑ks.length : Int)) (.need ((0 : Nat) < ks.length) (.need ((0 : Int) ≤ ks.getD (0 : Nat) (0 : Int) ∧ ks.getD (0 : Nat) (0 : Int) < (↑ps.length : Int)) (.need ((0 : Nat) + (ks.getD (0 : Nat) (0 : Int)).toNat * (2 : Nat) + (2 : Nat) ≤ (flat ps).length) (brT ((↑ks.length : Int) == 1) (.fin (.bool (negB false ((flat ps).getD (0 + (ks.getD 0 0).toNat * 2) 0 == x && ((flat ps).getD (0 + (ks.getD 0 0).toNat * 2 + 1) 0 == y && true)))) []) (brT ((↑ks.length : Int) == 2) (.need (p3B x y ((flat ps).getD ((0 : Nat) + (ks.getD (0 : Nat) (0 : Int)).toNat * (2 : Nat)) (0 : Int)) ((flat ps).getD ((0 : Nat) + (ks.getD (0 : Nat) (0 : Int)).toNat * (2 : Nat) + (1 : Nat)) (0 : Int)) ((flat ps).getD ((0 : Nat) + (ks.getD (1 : Nat) (0 : Int)).toNat * (2 : Nat)) (0 : Int)) ((flat ps).getD ((0 : Nat) + (ks.getD (1 : Nat) (0 : Int)).toNat * (2 : Nat) + (1 : Nat)) (0 : Int))) (.need ((0 : Int) ≤ (1 : Int) ∧ (1 : Int) < (↑ks.length : Int)) (.need ((1 : Nat) < ks.length) (.need ((0 : Int) ≤ ks.getD (1 : Nat) (0 : Int) ∧ ks.getD (1 : Nat) (0 : Int) < (↑ps.length : Int)) (.need ((0 : Nat) + (ks.getD (1 : Nat) (0 : Int)).toNat * (2 : Nat) + (2 : Nat) ≤ (flat ps).length) (.fin (.bool (decide (dtI x y ((flat ps).getD (0 + (ks.getD 0 0).toNat * 2) 0) ((flat ps).getD (0 + (ks.getD 0 0).toNat * 2 + 1) 0) ((flat ps).getD (0 + (ks.getD 1 0).toNat * 2) 0) ((flat ps).getD (0 + (ks.getD 1 0).toNat * 2 + 1) 0) ≤ 0))) [])))))) (.need ((0 : Int) ≤ (1 : Int) ∧ (1 : Int) < (↑ks.length : Int)) (.need ((1 : Nat) < ks.length) (.need ((0 : Int) ≤ ks.getD (1 : Nat) (0 : Int) ∧ ks.getD (1 : Nat) (0 : Int) < (↑ps.length : Int)) (.need ((0 : Nat) + (ks.getD (1 : Nat) (0 : Int)).toNat * (2 : Nat) + (2 : Nat) ≤ (flat ps).length) (.need ((0 : Int) ≤ (2 : Int) ∧ (2 : Int) < (↑ks.length : Int)) (.need ((2 : Nat) < ks.length) (.need ((0 : Int) ≤ ks.getD (2 : Nat) (0 : Int) ∧ ks.getD (2 : Nat) (0 : Int) < (↑ps.length : Int)) (.need ((0 : Nat) + (ks.getD (2 : Nat) (0 : Int)).toNat * (2 : Nat) + (2 : Nat) ≤ (flat ps).length) (.need (p4B ((flat ps).getD ((0 : Nat) + (ks.getD (0 : Nat) (0 : Int)).toNat * (2 : Nat)) (0 : Int)) ((flat ps).getD ((0 : Nat) + (ks.getD (0 : Nat) (0 : Int)).toNat * (2 : Nat) + (1 : Nat)) (0 : Int)) ((flat ps).getD ((0 : Nat) + (ks.getD (1 : Nat) (0 : Int)).toNat * (2 : Nat)) (0 : Int)) ((flat ps).getD ((0 : Nat) + (ks.getD (1 : Nat) (0 : Int)).toNat * (2 : Nat) + (1 : Nat)) (0 : Int)) ((flat ps).getD ((0 : Nat) + (ks.getD (2 : Nat) (0 : Int)).toNat * (2 : Nat)) (0 : Int)) ((flat ps).getD ((0 : Nat) + (ks.getD (2 : Nat) (0 : Int)).toNat * (2 : Nat) + (1 : Nat)) (0 : Int)) x y) (.need (p3B ((flat ps).getD ((0 : Nat) + (ks.getD (0 : Nat) (0 : Int)).toNat * (2 : Nat)) (0 : Int)) ((flat ps).getD ((0 : Nat) + (ks.getD (0 : Nat) (0 : Int)).toNat * (2 : Nat) + (1 : Nat)) (0 : Int)) ((flat ps).getD ((0 : Nat) + (ks.getD (1 : Nat) (0 : Int)).toNat * (2 : Nat)) (0 : Int)) ((flat ps).getD ((0 : Nat) + (ks.getD (1 : Nat) (0 : Int)).toNat * (2 : Nat) + (1 : Nat)) (0 : Int)) ((flat ps).getD ((0 : Nat) + (ks.getD (2 : Nat) (0 : Int)).toNat * (2 : Nat)) (0 : Int)) ((flat ps).getD ((0 : Nat) + (ks.getD (2 : Nat) (0 : Int)).toNat * (2 : Nat) + (1 : Nat)) (0 : Int))) (.fin (.bool (decide (0 ≤ IntKind.i64.wrap (deI ((flat ps).getD (0 + (ks.getD 0 0).toNat * 2) 0) ((flat ps).getD (0 + (ks.getD 0 0).toNat * 2 + 1) 0) ((flat ps).getD (0 + (ks.getD 1 0).toNat * 2) 0) ((flat ps).getD (0 + (ks.getD 1 0).toNat * 2 + 1) 0) ((flat ps).getD (0 + (ks.getD 2 0).toNat * 2) 0) ((flat ps).getD (0 + (ks.getD 2 0).toNat * 2 + 1) 0) x y * cmpI (crossI ((flat ps).getD (0 + (ks.getD 0 0).toNat * 2) 0) ((flat ps).getD (0 + (ks.getD 0 0).toNat * 2 + 1) 0) ((flat ps).getD (0 + (ks.getD 1 0).toNat * 2) 0) ((flat ps).getD (0 + (ks.getD 1 0).toNat * 2 + 1) 0) ((flat ps).getD (0 + (ks.getD 2 0).toNat * 2) 0) ((flat ps).getD (0 + (ks.getD 2 0).toNat * 2 + 1) 0)) 0)))) [])))))))))))))))) := by kernel_rfl
theorem idK_get {L : Nat} {ks : List Int} (h : idK L ks) {k : Nat} (hk : k < ks.length) : 0 ≤ ks.getD k 0 ∧ ks.getD k 0 < L ∧ (ks.getD k 0).toNat < L := by
  have := h k hk
  omega
theorem ptk_v {ps : List Pt} (hv : allV ps = true) (ks : List Int) (j : Nat) : ptB (ptk ps ks j).1 (ptk ps ks j).2 = true := by
  obtain ⟨x1, x2, x3, x4⟩ := allV_get hv (ks.getD j 0).toNat
  unfold ptk
  exact decide_eq_true (by omega)
theorem res_inS (ps : List Pt) (ks : List Int) (x y : Int) (hv : allV ps = true) (hk : idK ps.length ks) (h0 : 1 ≤ ks.length) (h3 : ks.length ≤ 3) (hq : ptB x y = true) : Res Try.prog 142 [.row ps.length (.ints (flat ps)), .row ks.length (.ints ks), ag x y] (.bool (inS ps ks x y)) := by
  refine bodyV_res mixed ECb0_ok (m := 30) (n := 12) rfl ?_
  rw [tr_inS]
  simp only [Tree.ok, brT_ok, Nat.zero_add, flat_get0, flat_get1, flat_length, Nat.add_zero]
  have v0 := ptk_v hv ks 0
  have v1 := ptk_v hv ks 1
  have v2 := ptk_v hv ks 2
  have g0 := idK_get hk (k := 0) (by omega)
  unfold inS
  refine ⟨by omega, by omega, ⟨g0.1, g0.2.1⟩, by omega, fun k1 => ?_, fun k1 => ⟨fun k2 => ?_, fun k2 => ?_⟩⟩
  · have e : ks.length = 1 := by have := eq_of_beq k1; omega
    rw [if_pos e]
    simp [eqQ, negB, ptk]
  · have n1 : ks.length ≠ 1 := fun h => by rw [h] at k1; cases k1
    have e : ks.length = 2 := by have := eq_of_beq k2; omega
    have g1 := idK_get hk (k := 1) (by omega)
    rw [if_neg n1, if_pos e]
    unfold ptk at *
    exact ⟨⟨hq, v0, v1⟩, by omega, by omega, ⟨g1.1, g1.2.1⟩, by omega, rfl⟩
  · have n1 : ks.length ≠ 1 := fun h => by rw [h] at k1; cases k1
    have n2 : ks.length ≠ 2 := fun h => by rw [h] at k2; cases k2
    have g1 := idK_get hk (k := 1) (by omega)
    have g2 := idK_get hk (k := 2) (by omega)
    rw [if_neg n1, if_neg n2]
    unfold ptk at *
    refine ⟨by omega, by omega, ⟨g1.1, g1.2.1⟩, by omega, by omega, by omega, ⟨g2.1, g2.2.1⟩, by omega, ?_⟩
    unfold deI
    rw [wcc]
    exact ⟨⟨v0, v1, v2, hq⟩, ⟨v0, v1, v2⟩, rfl⟩
end Go.Proofs.Ytolodncpegajkaa
