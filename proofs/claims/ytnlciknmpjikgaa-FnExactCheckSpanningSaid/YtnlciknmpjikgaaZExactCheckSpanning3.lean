/-
  Texts that the proof needs, merged. Written by an AI agent.
-/
import Derived.Orders
import Derived.Below
import Derived.OrdersIn
import Derived.Deep.LoopGhost
import Derived.WalkKit
import Derived.Laws.CopyRow
import Derived.Laws.AppendOwn
import Derived.Laws.Slices
import Derived.Laws.MakeOwn
import Derived.Test.YtnlciknmpjikgaaRows
import Derived.ProofKit
import Derived.OpenShut
import Derived.Carry
import Derived.IntWalk
import Derived.Test.YtnlciknmpjikgaaProg
import Derived.WalkSpells
import Derived.WalkLawsBesides
import Derived.Lib.Hide
import Derived.Deep.QuietTactic
import Derived.BigQuiet
import Derived.KernelRfl
import Derived.Deep.RegionHeld3
import Derived.LoopTactic
import Derived.Laws.StructEq
import Derived.Laws.Tables
import Derived.RangeFuncNested
import Derived.RangeFuncLeaves
import Derived.Deep.Slices
import Derived.Deep.Fields
import Derived.ChangeSame
import Derived.Test.YtnlciknmpjikgaaZExactCheckSpanning2
namespace Go.Proofs.Ytnlciknmpjikgaa
set_option linter.all false
open Go.RowKit
abbrev Pt := Int × Int
def flat : List Pt → List Int
  | [] => []
  | p :: r => p.1 :: p.2 :: flat r
def pts : List Int → List Pt
  | a :: b :: r => (a, b) :: pts r
  | _ => []
theorem pts_flat : ∀ ps, pts (flat ps) = ps
  | [] => rfl
  | p :: r => by simp [flat, pts, pts_flat r]
theorem flat_length : ∀ ps, (flat ps).length = ps.length * 2
  | [] => rfl
  | p :: r => by simp [flat, flat_length r]; omega
theorem flat_pts : ∀ (n : Nat) (xs : List Int), xs.length = n * 2 → flat (pts xs) = xs ∧ (pts xs).length = n
  | 0, xs, h => by
    obtain rfl : xs = [] := List.eq_nil_of_length_eq_zero (by omega)
    exact ⟨rfl, rfl⟩
  | n + 1, xs, h => by
    match xs, h with
    | a :: b :: r, h =>
      obtain ⟨h1, h2⟩ := flat_pts n r (by simp at h; omega)
      exact ⟨by simp [pts, flat, h1], by simp [pts, h2]⟩
    | [a], h => simp at h; omega
    | [], h => simp at h
theorem even_flat {n : Nat} {xs : List Int} (h : xs.length = n * 2) : ∃ ps : List Pt, xs = flat ps ∧ ps.length = n :=
  ⟨pts xs, (flat_pts n xs h).1.symm, (flat_pts n xs h).2⟩
theorem flat_append : ∀ a b, flat (a ++ b) = flat a ++ flat b
  | [], b => rfl
  | p :: r, b => by simp [flat, flat_append r b]
theorem flat_drop : ∀ (ps : List Pt) (k : Nat), (flat ps).drop (k * 2) = flat (ps.drop k)
  | ps, 0 => by simp
  | [], k + 1 => by simp [flat]
  | p :: r, k + 1 => by
    rw [show (k + 1) * 2 = k * 2 + 2 by omega]
    simp [flat, flat_drop r k]
theorem flat_take : ∀ (ps : List Pt) (k : Nat), (flat ps).take (k * 2) = flat (ps.take k)
  | ps, 0 => by simp [flat]
  | [], k + 1 => by simp [flat]
  | p :: r, k + 1 => by
    rw [show (k + 1) * 2 = k * 2 + 2 by omega]
    simp [flat, flat_take r k]
theorem flat_all (ps : List Pt) : (flat ps).take (ps.length * 2) = flat ps := by rw [flat_take, List.take_length]
theorem flat_get : ∀ (ps : List Pt) (k : Nat), (flat ps).getD (k * 2) 0 = (ps.getD k (0, 0)).1 ∧ (flat ps).getD (k * 2 + 1) 0 = (ps.getD k (0, 0)).2
  | [], k => by simp [flat]
  | p :: r, 0 => by simp [flat]
  | p :: r, k + 1 => by
    obtain ⟨h1, h2⟩ := flat_get r k
    rw [show (k + 1) * 2 = k * 2 + 2 by omega, show k * 2 + 2 + 1 = k * 2 + 1 + 2 by omega]
    simp only [flat, List.getD_eq_getElem?_getD, List.getElem?_cons_succ] at h1 h2 ⊢
    exact ⟨h1, h2⟩
theorem flat_get0 (ps : List Pt) (k : Nat) : (flat ps).getD (k * 2) 0 = (ps.getD k (0, 0)).1 := (flat_get ps k).1
theorem flat_get1 (ps : List Pt) (k : Nat) : (flat ps).getD (k * 2 + 1) 0 = (ps.getD k (0, 0)).2 := (flat_get ps k).2
theorem flat_set (ps : List Pt) (k : Nat) (h : k < ps.length) (a b : Int) : setInts (flat ps) (k * 2) [a, b] = flat (ps.set k (a, b)) := by
  have e : ps = ps.take k ++ ps[k] :: ps.drop (k + 1) := by simp
  have hl : (ps.take k).length = k := by simp; omega
  unfold setInts
  rw [flat_take, show k * 2 + [a, b].length = (k + 1) * 2 by simp; omega, flat_drop]
  rw [List.set_eq_take_append_cons_drop, if_pos h, flat_append]
  simp [flat]
theorem flat_snoc (ps : List Pt) (a b : Int) : flat ps ++ [a, b] = flat (ps ++ [(a, b)]) := by rw [flat_append]; rfl
theorem drop_cons {α : Type} {l : List α} {k : Nat} (h : k < l.length) (d : α) : l.drop k = l.getD k d :: l.drop (k + 1) := by
  rw [List.drop_eq_getElem_cons h]
  simp [h]
theorem wr {x : Int} (h : -9223372036854775808 ≤ x ∧ x ≤ 9223372036854775807) : IntKind.i64.wrap x = x := by
  rw [IntKind.wrap_i64]
  omega
theorem wsucc {i n : Nat} (h : i < n) (hn : n ≤ 1000000000) : IntKind.i64.wrap ((i : Int) + 1) = ((i + 1 : Nat) : Int) := by
  rw [wr (by omega)]; omega
theorem all_drop {α : Type} {l : List α} {k : Nat} (h : k < l.length) (d : α) (P : α → Bool) : (l.drop k).all P = (P (l.getD k d) && (l.drop (k + 1)).all P) := by rw [drop_cons h d]; rfl
theorem all_end {α : Type} {l : List α} {k : Nat} (h : l.length ≤ k) (P : α → Bool) : (l.drop k).all P = true := by rw [List.drop_of_length_le h]; rfl
theorem pick2k {b : Bool} {k : Ex → St → Tree} {e1 e2 : Ex} {s1 s2 : St} {F : Ex → St → Prop} {H : Value → List (Option Blk) → Prop} (h : (brT b (k e1 s1) (k e2 s2)).ok F H) : (k (bif b then e1 else e2) (bif b then s1 else s2)).ok F H := by
  cases b
  · exact h
  · exact h
/-- A loop's body on a state, cut at its ends to what is looked at again: keep tells which slots, M how many names. -/
def bodyL (P : Program) (E : Env) (m n : Nat) (lt : LT) (j : Nat) (c : Code) (keep : Ex → List Nat) (M : Nat) (s : St) : Tree := runN P E.R E.J (asK P E (runM P E m n)) (runM P E m n) lt noR m c j (fun e s' => .leaf e (cutS M (keep e) s')) s
theorem body_det {P : Program} (hm : P.follows .mixedOrders = true) {E : Env} (hE : EnvOk P E) {m n : Nat} {lt : LT} {j : Nat} {c : Code} (hL : LoopsGood P lt j c) {keep : Ex → List Nat} {M : Nat} {s : St} {F : Ex → St → Prop} (h : (bodyL P E m n lt j c keep M s).ok F (fun _ _ => False)) :
    ∃ e' s', Det P c s e' s' ∧ F e' (cutS M (keep e') s') := by
  obtain ⟨e', s', h1, h2⟩ := runN_det hE.R hE.J (asK_ok hE (runM_ok hm hE m n)) (runM_ok hm hE m n) hm c j hL noR_good _ F _ s h
  exact ⟨e', s', h2, h1⟩
theorem noLoops {P : Program} {lt : LT} {j : Nat} {c : Code} (h : loopsOf c = []) : LoopsGood P lt j c := fun i d hd => by rw [h] at hd; simp at hd
/-- Which slots are looked at again: behind a round, behind an exit, behind the function's end. -/
def keeps (nrm : List Nat) (exits : List (Nat × List Nat)) (ret : List Nat) : Ex → List Nat
  | .normal => nrm
  | .exit id => (exits.lookup id).getD []
  | .ret => ret
/-- The end of a round. -/
def RoundEnd {X : Type} (N : Nat) (St_of : X → St) (Inv : X → Prop) (μ : X → Nat) (re : X → Ex) (rs : X → St) (x : X) (e : Ex) (s : St) : Prop :=
  match e with
  | .normal => ∃ x' π, Inv x' ∧ μ x' < μ x ∧ re x' = re x ∧ rs x' = rs x ∧ WS N π s (St_of x')
  | e => e = re x ∧ ∃ π, WS N π s (rs x)
theorem loop_run {P : Program} (hm : P.follows .mixedOrders = true) {E : Env} (hE : EnvOk P E) {m n : Nat} {lt : LT} {j : Nat} {c : Code} {N : Nat} {X : Type} (St_of : X → St) (Inv : X → Prop) (μ : X → Nat) (re : X → Ex) (rs : X → St) (keep : Ex → List Nat) {M : Nat} (hM : ∀ x, (St_of x).mem.length = M) (hL : LoopsGood P lt j c)
    (h : ∀ x, Inv x → (bodyL P E m n lt j c keep M (St_of x)).ok (RoundEnd N St_of Inv μ re rs x) (fun _ _ => False))
    {x : X} (hx : Inv x) {s : St} {π : List (Option Nat)} (hN : s.mem.length = N) (hs : WS N π s (St_of x)) : Det P (.loop c) s (re x) (rs x) :=
  loop_det St_of Inv μ re rs keep (fun x hx => by
    obtain ⟨e', s', h1, h2⟩ := body_det hm hE hL (h x hx)
    refine ⟨e', s', h1, ?_⟩
    rw [hM]
    unfold RoundEnd at h2
    cases e' <;> exact h2) hx hN hs
theorem wv_top (f : Nat → Option (Option Nat)) (v : Value) : wv f v topV := by
  cases v <;> exact True.intro
theorem take_set_succ {α : Type} {l m : List α} {i : Nat} (hl : i < l.length) (hm : i < m.length) (h : l.take i = m.take i) (d : α) : (l.set i (m.getD i d)).take (i + 1) = m.take (i + 1) := by
  apply List.ext_getElem?
  intro k
  have hk := congrArg (fun x : List α => x[k]?) h
  simp only [List.getElem?_take] at hk ⊢
  rcases Nat.lt_trichotomy k i with hki | hki | hki
  · rw [if_pos (by omega), if_pos (by omega), List.getElem?_set_ne (by omega)]
    simpa [hki] using hk
  · subst hki
    rw [if_pos (by omega), if_pos (by omega)]
    simp [hl, hm]
  · rw [if_neg (by omega), if_neg (by omega)]
/-- Some slots of a frame; a frame of which only some slots are known. -/
def pickL (l : List Value) (idx : List Nat) : List Value := idx.map fun i => l.getD i undef
def lookV : List Nat → List Value → Nat → Value
  | i :: r, v :: vs, j => if i = j then v else lookV r vs j
  | _, _, _ => topV
def spread (n : Nat) (idx : List Nat) (vals : List Value) : List Value := (List.range n).map (lookV idx vals)
theorem lookV_ok {f : Nat → Option (Option Nat)} {l : List Value} : ∀ {idx : List Nat} {vals : List Value}, wvs f (pickL l idx) vals → ∀ j, wv f (l.getD j undef) (lookV idx vals j)
  | [], [], _, j => wv_top _ _
  | [], _ :: _, h, _ => h.elim
  | _ :: _, [], h, _ => h.elim
  | i :: r, v :: vs, h, j => by
    unfold lookV
    split
    · rename_i hij
      subst hij
      exact h.1
    · exact lookV_ok h.2 j
theorem wvs_of {f : Nat → Option (Option Nat)} : ∀ {l l' : List Value}, l.length = l'.length → (∀ j, j < l.length → wv f (l.getD j undef) (l'.getD j undef)) → wvs f l l'
  | [], [], _, _ => trivial
  | [], _ :: _, h, _ => by simp at h
  | _ :: _, [], h, _ => by simp at h
  | a :: r, b :: r', h, hj => ⟨hj 0 (by simp), wvs_of (by simpa using h) fun j hj' => by simpa using hj (j + 1) (by simpa using hj')⟩
theorem wvs_spread {f : Nat → Option (Option Nat)} {l vals l' : List Value} {n : Nat} {idx : List Nat} (hl : Nat.beq l.length n = true) (he : l' = spread n idx vals) (h : wvs f (pickL l idx) vals) : wvs f l l' := by
  have hl := Nat.eq_of_beq_eq_true hl
  subst he
  refine wvs_of (by simp [spread, hl]) fun j hj => ?_
  have : (spread n idx vals).getD j undef = lookV idx vals j := by
    have : j < n := by omega
    simp [spread, this]
  rw [this]
  exact lookV_ok h j
theorem wvs_spread' {f : Nat → Option (Option Nat)} {l l' : List Value} {n : Nat} (idx : List Nat) (hl : Nat.beq l.length n = true) (he : l' = spread n idx (pickL l' idx)) (h : wvs f (pickL l idx) (pickL l' idx)) : wvs f l l' := wvs_spread hl he h
/-- An entry for a loop is sound. -/
def LoopE (P : Program) (e : St → (Ex → St → Tree) → Option Tree) (c : Code) : Prop := ∀ s k t F H, e s k = some t → t.ok F H → ∃ e' s', (k e' s').ok F H ∧ Det P (.loop c) s e' s'
/-- A function with one loop. -/
def lt1 (e : St → (Ex → St → Tree) → Option Tree) : LT := fun j s k => match j with
  | 0 => e s k
  | _ => none
theorem lt1_good {P : Program} {e : St → (Ex → St → Tree) → Option Tree} {c : Code} (h : LoopE P e (((loopsOf c)[0]?).getD .skip)) : LoopsGood P (lt1 e) 0 c := by
  intro i d hd s k t F H hlt ht
  rw [Nat.zero_add] at hlt
  cases i with
  | zero =>
    rw [hd] at h
    exact h s k t F H hlt ht
  | succ i => cases hlt
def noL : LT := fun _ _ _ => none
theorem noL_good {P : Program} {j : Nat} {c : Code} : LoopsGood P noL j c := fun _ _ _ _ _ _ _ _ h => by cases h
/-- An argument's cells beyond what is asked. -/
theorem Res.more {P : Program} {f : FuncId} {ds ds' : List DArg} {v : Value} (h : Res P f ds' v) (hg : ∀ d ∈ ds, d.good) (hd : ∀ w args, DOks w ds args → DOks w ds' args) : Res P f ds v :=
  ⟨h.1, h.2.1, h.2.2.1, hg, fun w args ha => h.2.2.2.2 w args (hd w args ha)⟩
theorem ResR.more {P : Program} {f : FuncId} {ds ds' : List DArg} {v : Value} {b : Blk} (h : ResR P f ds' v b) (hg : ∀ d ∈ ds, d.good) (hd : ∀ w args, DOks w ds args → DOks w ds' args) : ResR P f ds v b :=
  ⟨h.1, h.2.1, h.2.2.1, hg, fun w args ha => h.2.2.2.2 w args (hd w args ha)⟩
/-- The first cells of a row argument. -/
theorem DOk.take {w : World} {l : Nat} {xs : List Int} {y : Value} (k : Nat) (h : DOk w (.row l (.ints xs)) y) : DOk w (.row l (.ints (xs.take k))) y := by
  obtain ⟨h1, ad, c', h2, h3, h4⟩ := h
  refine ⟨rfl, ad, c', h2, h3, h4.imp id ?_⟩
  rintro ⟨g, f, h5, h6, h7⟩
  refine ⟨g, f, h5, h6, fun j v hv => h7 j v ?_⟩
  simp only [Cs.list, List.getElem?_map] at hv ⊢
  rw [List.getElem?_take] at hv
  split at hv
  · exact hv
  · simp at hv
theorem DOks.imp {w : World} : ∀ {ds ds' : List DArg} {args : Array Value}, DOks w ds args → ds.length = ds'.length → (∀ (i : Nat) d d' y, ds[i]? = some d → ds'[i]? = some d' → DOk w d y → DOk w d' y) → DOks w ds' args := by
  intro ds ds' args h hl hi
  refine ⟨by rw [← hl]; exact h.1, fun i d' y hd' hy => ?_⟩
  have hlt : i < ds.length := by rw [hl]; exact (List.getElem?_eq_some_iff.1 hd').1
  exact hi i ds[i] d' y (by simp) hd' (h.2 i _ y (by simp) hy)
/-- The points of a row argument. -/
def ptsA (n : Nat) (xs : List Int) : List Pt := pts (xs.take (n * 2))
theorem ptsA_flat (ps : List Pt) : ptsA ps.length (flat ps) = ps := by
  unfold ptsA
  rw [flat_take, List.take_length, pts_flat]
theorem ptsA_spec {n : Nat} {xs : List Int} (h : n * 2 ≤ xs.length) : xs.take (n * 2) = flat (ptsA n xs) ∧ (ptsA n xs).length = n := by
  unfold ptsA
  have := flat_pts n (xs.take (n * 2)) (by simp; omega)
  exact ⟨this.1.symm, this.2⟩
/-- What is known for lists of points as they are is known for any cells. -/
theorem DOks.pts {w : World} {pre post : List DArg} {n : Nat} {xs : List Int} {args : Array Value} (ha : DOks w (pre ++ .row n (.ints xs) :: post) args) : DOks w (pre ++ .row n (.ints (xs.take (n * 2))) :: post) args := by
  refine ha.imp (by simp) fun i d d' y hd hd' hy => ?_
  rcases Nat.lt_or_ge i pre.length with hlt | hge
  · rw [List.getElem?_append_left hlt] at hd hd'
    rw [hd] at hd'
    obtain rfl : d = d' := by simpa using hd'
    exact hy
  · rw [List.getElem?_append_right hge] at hd hd'
    rcases hk : i - pre.length with _ | k
    · rw [hk] at hd hd'
      obtain rfl : DArg.row n (.ints xs) = d := by simpa using hd
      obtain rfl : DArg.row n (.ints (xs.take (n * 2))) = d' := by simpa using hd'
      exact hy.take _
    · rw [hk] at hd hd'
      simp only [List.getElem?_cons_succ] at hd hd'
      rw [hd] at hd'
      obtain rfl : d = d' := by simpa using hd'
      exact hy
theorem good_pts {pre post : List DArg} {n : Nat} {xs ys : List Int} (h : ∀ d ∈ pre ++ .row n (.ints xs) :: post, d.good) : ∀ d ∈ pre ++ .row n (.ints ys) :: post, d.good := by
  intro d hd
  rcases List.mem_append.1 hd with hd | hd
  · exact h d (List.mem_append_left _ hd)
  · rcases List.mem_cons.1 hd with rfl | hd
    · rfl
    · exact h d (List.mem_append_right _ (List.mem_cons_of_mem _ hd))
theorem res_pts1 {P : Program} {f : FuncId} {pre post : List DArg} {v : Value} {n : Nat} {xs : List Int} (hn : n * 2 ≤ xs.length) (h0 : Res P f (pre ++ .row (ptsA n xs).length (.ints (flat (ptsA n xs))) :: post) v) :
    Res P f (pre ++ .row n (.ints xs) :: post) v := by
  obtain ⟨h1, h2⟩ := ptsA_spec hn
  rw [h2, ← h1] at h0
  exact h0.more (good_pts h0.2.2.2.1) fun w args ha => ha.pts
theorem resR_pts1 {P : Program} {f : FuncId} {pre post : List DArg} {v : Value} {b : Blk} {n : Nat} {xs : List Int} (hn : n * 2 ≤ xs.length) (h0 : ResR P f (pre ++ .row (ptsA n xs).length (.ints (flat (ptsA n xs))) :: post) v b) :
    ResR P f (pre ++ .row n (.ints xs) :: post) v b := by
  obtain ⟨h1, h2⟩ := ptsA_spec hn
  rw [h2, ← h1] at h0
  exact h0.more (good_pts h0.2.2.2.1) fun w args ha => ha.pts
end Go.Proofs.Ytnlciknmpjikgaa
namespace Go.Proofs.Ytnlciknmpjikgaa
set_option linter.all false
open Go.RowKit
/-- The entry of an index, as an index. -/
def upN (g : List Int) (i : Nat) : Nat := (g.getD i 0).toNat
/-- The chain from an index ends after so many steps. -/
def dep : Nat → List Int → Nat → Prop
  | 0, g, i => upN g i = i
  | k + 1, g, i => upN g i = i ∨ dep k g (upN g i)
/-- Where the chain from an index ends. -/
def rto : Nat → List Int → Nat → Nat
  | 0, _, i => i
  | k + 1, g, i => if upN g i = i then i else rto k g (upN g i)
/-- What find makes of the groups, and what it answers. -/
def fd : Nat → List Int → Nat → List Int × Nat
  | 0, g, i => (g, i)
  | k + 1, g, i => if upN g i = i then (g, i) else ((fd k g (upN g i)).1.set i ((fd k g (upN g i)).2 : Int), (fd k g (upN g i)).2)
/-- All entries are indices. -/
def inG (n : Nat) (g : List Int) : Prop := g.length = n ∧ ∀ i, i < n → 0 ≤ g.getD i 0 ∧ g.getD i 0 < n
theorem inG_up {n : Nat} {g : List Int} (h : inG n g) {i : Nat} (hi : i < n) : upN g i < n ∧ (upN g i : Int) = g.getD i 0 := by
  have := h.2 i hi
  unfold upN
  omega
theorem dep_up {g : List Int} : ∀ {k i : Nat}, dep k g i → dep (k + 1) g i
  | 0, _, h => .inl h
  | k + 1, _, h => h.imp id fun h => dep_up h
theorem dep_mono {g : List Int} {k : Nat} : ∀ {m i : Nat}, k ≤ m → dep k g i → dep m g i
  | 0, i, h, hd => by
    obtain rfl : k = 0 := by omega
    exact hd
  | m + 1, i, h, hd => by
    by_cases e : k = m + 1
    · rw [← e]; exact hd
    · exact dep_up (dep_mono (by omega) hd)
theorem rto_fix {g : List Int} {i : Nat} (h : upN g i = i) : ∀ k, rto k g i = i
  | 0 => rfl
  | k + 1 => by simp only [rto, h, if_true]
theorem rto_mono {g : List Int} : ∀ {k m i : Nat}, k ≤ m → dep k g i → rto m g i = rto k g i
  | 0, m, i, _, hd => rto_fix hd m
  | k + 1, 0, _, h, _ => absurd h (by omega)
  | k + 1, m + 1, i, h, hd => by
    simp only [rto]
    split
    · rfl
    · rename_i hne
      rcases hd with hd | hd
      · exact absurd hd hne
      · exact rto_mono (by omega) hd
theorem rto_root {g : List Int} : ∀ {k i : Nat}, dep k g i → upN g (rto k g i) = rto k g i
  | 0, i, hd => hd
  | k + 1, i, hd => by
    simp only [rto]
    split
    · rename_i h; exact h
    · rename_i hne
      rcases hd with hd | hd
      · exact absurd hd hne
      · exact rto_root hd
theorem rto_lt {n : Nat} {g : List Int} (h : inG n g) : ∀ {k i : Nat}, i < n → rto k g i < n
  | 0, i, hi => hi
  | k + 1, i, hi => by
    simp only [rto]
    split
    · exact hi
    · exact rto_lt h (inG_up h hi).1
theorem up_set {g : List Int} {i r j : Nat} (hi : i < g.length) : upN (g.set i (r : Int)) j = if j = i then r else upN g j := by
  unfold upN
  by_cases h : j = i
  · subst h
    rw [if_pos rfl]
    simp [hi]
  · rw [if_neg h]
    simp [List.getD_eq_getElem?_getD, List.getElem?_set, Ne.symm h]
theorem inG_set {n : Nat} {g : List Int} (h : inG n g) {i r : Nat} (hr : r < n) : inG n (g.set i (r : Int)) := by
  refine ⟨by rw [List.length_set]; exact h.1, fun j hj => ?_⟩
  by_cases e : j = i
  · subst e
    have : (g.set j (r : Int)).getD j 0 = r := by simp [h.1, hj]
    rw [this]
    omega
  · have : (g.set i (r : Int)).getD j 0 = g.getD j 0 := by simp [List.getD_eq_getElem?_getD, List.getElem?_set, Ne.symm e]
    rw [this]
    exact h.2 j hj
/-- An entry set to the end of its chain: the chains end as before. -/
theorem set_keep {g : List Int} {i r : Nat} (hi : i < g.length) (hr : upN g r = r) : ∀ {k j : Nat}, (∀ m, m ≤ k → dep m g i → rto m g i = r) → dep k g j → dep k (g.set i (r : Int)) j ∧ rto k (g.set i (r : Int)) j = rto k g j
  | 0, j, hri, hd => by
    refine ⟨?_, rfl⟩
    show upN (g.set i (r : Int)) j = j
    rw [up_set hi]
    split
    · rename_i e
      subst e
      exact (hri 0 (Nat.le_refl _) hd).symm
    · exact hd
  | k + 1, j, hri, hd => by
    by_cases e : j = i
    · subst e
      have h1 := hri (k + 1) (Nat.le_refl _) hd
      have ur : upN (g.set j (r : Int)) r = r := by
        rw [up_set hi]
        split
        · rfl
        · exact hr
      refine ⟨?_, ?_⟩
      · show upN (g.set j (r : Int)) j = j ∨ dep k (g.set j (r : Int)) (upN (g.set j (r : Int)) j)
        rw [up_set hi, if_pos rfl]
        by_cases e2 : r = j
        · exact .inl e2
        · exact .inr (dep_mono (Nat.zero_le _) ur)
      · rw [h1]
        simp only [rto]
        rw [up_set hi, if_pos rfl]
        split
        · rename_i e2; exact e2.symm
        · exact rto_fix ur k
    · have u : upN (g.set i (r : Int)) j = upN g j := by rw [up_set hi, if_neg e]
      by_cases e2 : upN g j = j
      · refine ⟨.inl (by rw [u]; exact e2), ?_⟩
        rw [rto_fix e2, rto_fix (by rw [u]; exact e2)]
      · have hd2 : dep k g (upN g j) := by
          rcases hd with h | h
          · exact absurd h e2
          · exact h
        obtain ⟨q1, q2⟩ := set_keep hi hr (k := k) (j := upN g j) (fun m hm => hri m (by omega)) hd2
        refine ⟨.inr (by rw [u]; exact q1), ?_⟩
        simp only [rto]
        rw [u, if_neg e2, if_neg e2]
        exact q2
theorem fd_ok {n : Nat} : ∀ {k : Nat} {g : List Int} {i : Nat}, inG n g → i < n → dep k g i → inG n (fd k g i).1 ∧ (fd k g i).2 = rto k g i ∧ ∀ {K j : Nat}, dep K g j → dep K (fd k g i).1 j ∧ rto K (fd k g i).1 j = rto K g j
  | 0, g, i, h, hi, hd => ⟨h, rfl, fun {K j} hj => ⟨hj, rfl⟩⟩
  | k + 1, g, i, h, hi, hd => by
    by_cases e : upN g i = i
    · simp only [fd, rto, e, if_true]
      exact ⟨h, True.intro, fun {K j} hj => ⟨hj, True.intro⟩⟩
    · have hd2 : dep k g (upN g i) := by
        rcases hd with h | h
        · exact absurd h e
        · exact h
      obtain ⟨q1, q2, q3⟩ := fd_ok (k := k) h (inG_up h hi).1 hd2
      simp only [fd, rto, if_neg e]
      have hr : rto k g (upN g i) < n := rto_lt h (inG_up h hi).1
      have hri : rto (k + 1) g i = rto k g (upN g i) := by simp only [rto, if_neg e]
      rw [q2]
      refine ⟨inG_set q1 hr, rfl, fun {K j} hj => ?_⟩
      obtain ⟨a1, a2⟩ := q3 hj
      obtain ⟨r1, r2⟩ := q3 (K := 0) (j := rto k g (upN g i)) (rto_root hd2)
      have hx : ∀ m, m ≤ K → dep m (fd k g (upN g i)).1 i → rto m (fd k g (upN g i)).1 i = rto k g (upN g i) := fun m _ hm => by
        obtain ⟨d1, d2⟩ := q3 (K := k + 1) (j := i) hd
        rw [hri] at d2
        rw [← d2]
        rcases Nat.le_total m (k + 1) with hle | hle
        · exact (rto_mono hle hm).symm
        · exact rto_mono hle d1
      obtain ⟨b1, b2⟩ := set_keep (g := (fd k g (upN g i)).1) (i := i) (r := rto k g (upN g i)) (by rw [q1.1]; exact hi) r1 (k := K) (j := j) hx a1
      exact ⟨b1, b2.trans a2⟩
end Go.Proofs.Ytnlciknmpjikgaa
namespace Go.Proofs.Ytnlciknmpjikgaa
set_option linter.all false
open Go.RowKit
abbrev iv (x : Int) : Value := .int .i64 x
def B0 : Tab := fun _ _ => none
theorem B0_ok : TabOk Try.prog B0 := fun _ _ _ _ h => by cases h
theorem mixed : Try.prog.follows .mixedOrders = true := by kernel_rfl
set_option maxRecDepth 100000 in
theorem tr_specValid (x y : Int) : runX Try.prog (tabE B0) 30 8 52 [.v (.agg #[iv x, iv y])] (fun u => .fin u []) = brT (decide (-1000 ≤ x)) (brT (decide (x ≤ 1000)) (brT (decide (-1000 ≤ y)) (.fin (.bool (decide (y ≤ 1000))) []) (.fin (.bool (false)) [])) (.fin (.bool (false)) [])) (.fin (.bool (false)) []) := by kernel_rfl
set_option maxRecDepth 100000 in
theorem tr_implValid (x y : Int) : runX Try.prog (tabE B0) 30 8 50 [.v (.agg #[iv x, iv y])] (fun u => .fin u []) = brT (decide (IntKind.i64.wrap (0 - 1000) ≤ x)) (brT (decide (x ≤ 1000)) (brT (decide (IntKind.i64.wrap (0 - 1000) ≤ y)) (.fin (.bool (decide (y ≤ 1000))) []) (.fin (.bool (false)) [])) (.fin (.bool (false)) [])) (.fin (.bool (false)) []) := by kernel_rfl
set_option maxRecDepth 100000 in
theorem tr_compare (x y : Int) : runX Try.prog (tabE B0) 30 8 85 [.v (iv x), .v (iv y)] (fun u => .fin u []) = brT (!x == x) (brT (!y == y) (.fin (.int .i64 (0)) []) (.fin (.int .i64 (-1)) [])) (brT (!y == y) (.fin (.int .i64 (1)) []) (brT (decide (x < y)) (.fin (.int .i64 (-1)) []) (brT (decide (y < x)) (.fin (.int .i64 (1)) []) (.fin (.int .i64 (0)) [])))) := by kernel_rfl
set_option maxRecDepth 100000 in
theorem tr_specSign (x : Int) : runX Try.prog (tabE B0) 30 8 90 [.v (iv x)] (fun u => .fin u []) = brT (decide (x < 0)) (.fin (.int .i64 (-1)) []) (brT (decide (0 < x)) (.fin (.int .i64 (1)) []) (.fin (.int .i64 (0)) [])) := by kernel_rfl
set_option maxRecDepth 100000 in
theorem tr_implSign (x : Int) : runX Try.prog (tabE B0) 30 8 51 [.v (iv x)] (fun u => .fin u []) = brT (!x == x) (.fin (.int .i64 (-1)) []) (brT (decide (x < 0)) (.fin (.int .i64 (-1)) []) (brT (decide (0 < x)) (.fin (.int .i64 (1)) []) (.fin (.int .i64 (0)) []))) := by kernel_rfl
theorem w1000 : IntKind.i64.wrap (0 - 1000) = -1000 := by decide
/-- The comparison of two numbers. -/
def cmpI (x y : Int) : Int := if x < y then -1 else if y < x then 1 else 0
theorem vbool_eq {a b : Bool} (h : a = b) : Value.bool a = .bool b := by rw [h]
theorem vint_eq {k : IntKind} {a b : Int} (h : a = b) : Value.int k a = .int k b := by rw [h]
theorem res_specValid (x y : Int) : Res Try.prog 52 [.v (.agg #[iv x, iv y])] (.bool (ptB x y)) := by
  refine res_of mixed (tabE_ok B0_ok) (m := 30) (n := 8) ?_
  rw [tr_specValid]
  simp only [brT_ok, Tree.ok, decide_eq_true_eq, decide_eq_false_iff_not]
  repeat' (first | apply And.intro | intro _)
  all_goals (refine vbool_eq ?_; unfold ptB; rw [Bool.eq_iff_iff]; simp; try omega)
theorem res_implValid (x y : Int) : Res Try.prog 50 [.v (.agg #[iv x, iv y])] (.bool (ptB x y)) := by
  refine res_of mixed (tabE_ok B0_ok) (m := 30) (n := 8) ?_
  rw [tr_implValid]
  simp only [brT_ok, Tree.ok, decide_eq_true_eq, decide_eq_false_iff_not, w1000]
  repeat' (first | apply And.intro | intro _)
  all_goals (refine vbool_eq ?_; unfold ptB; rw [Bool.eq_iff_iff]; simp; try omega)
theorem res_compare (x y : Int) : Res Try.prog 85 [.v (iv x), .v (iv y)] (iv (cmpI x y)) := by
  refine res_of mixed (tabE_ok B0_ok) (m := 30) (n := 8) ?_
  rw [tr_compare]
  simp [brT_ok, Tree.ok]
  repeat' (first | apply And.intro | intro _)
  all_goals (unfold cmpI; split <;> (try split) <;> omega)
theorem res_specSign (x : Int) : Res Try.prog 90 [.v (iv x)] (iv (cmpI x 0)) := by
  refine res_of mixed (tabE_ok B0_ok) (m := 30) (n := 8) ?_
  rw [tr_specSign]
  simp [brT_ok, Tree.ok]
  repeat' (first | apply And.intro | intro _)
  all_goals (unfold cmpI; split <;> (try split) <;> omega)
theorem res_implSign (x : Int) : Res Try.prog 51 [.v (iv x)] (iv (cmpI x 0)) := by
  refine res_of mixed (tabE_ok B0_ok) (m := 30) (n := 8) ?_
  rw [tr_implSign]
  simp [brT_ok, Tree.ok]
  repeat' (first | apply And.intro | intro _)
  all_goals (unfold cmpI; split <;> (try split) <;> omega)
end Go.Proofs.Ytnlciknmpjikgaa
namespace Go.Proofs.Ytnlciknmpjikgaa
set_option linter.all false
open Go.RowKit
theorem entersB_res {f : FuncId} (h : entersB Try.prog f = true) : enters Try.prog f ∧ Try.prog.inits.idxOf? f = none := by
  unfold entersB at h
  split at h
  · rename_i fn hf
    obtain ⟨h1, h2, _⟩ := entersB_spec hf (by unfold entersB; rw [hf]; exact h)
    exact ⟨h1, h2⟩
  · cases h
/-- A contract of a function of plain values, as it stands. -/
theorem res_calls {f : FuncId} {args : List Value} {v : Value} (he : entersB Try.prog f = true) (hp : args.all plainV = true) (hv : plainV v = true) (h : ∀ w, Calls Try.prog f args.toArray w fun e w' => e = .returned v ∧ Below w.heap.size w w') : Res Try.prog f (args.map .v) v := by
  obtain ⟨h1, h2⟩ := entersB_res he
  refine ⟨h1, h2, hv, fun d hd => ?_, fun w ys hd => ?_⟩
  · obtain ⟨x, hx, rfl⟩ := List.mem_map.1 hd
    exact List.all_eq_true.1 hp x hx
  · have e : ys = args.toArray := by
      apply Array.ext
      · simpa using hd.1.symm
      · intro i i1 i2
        have e1 : (args.map DArg.v)[i]? = some (.v (args[i]'(by simpa using i2))) := by simp
        exact (hd.2 i _ ys[i] e1 (by simp [i1])).2
    rw [e]
    exact h w
theorem below_same {f : FuncId} {args : Array Value} {w : World} {v : Value} (h : Calls Try.prog f args w fun e w' => e = .returned v ∧ w = w') : Calls Try.prog f args w fun e w' => e = .returned v ∧ Below w.heap.size w w' :=
  h.mono fun _ _ ⟨he, hw⟩ => ⟨he, by subst hw; exact Below.refl _ _⟩
def big (x : Int) : Prop := -4500000000000000000 ≤ x ∧ x ≤ 4500000000000000000
def pPt : List DArg → Option (Value × List Prop)
  | [.v (.agg ⟨[.int .i64 x, .int .i64 y]⟩)] => some (.bool (ptB x y), [])
  | _ => none
def pCmp : List DArg → Option (Value × List Prop)
  | [.v (.int .i64 x), .v (.int .i64 y)] => some (iv (cmpI x y), [])
  | _ => none
def pSign : List DArg → Option (Value × List Prop)
  | [.v (.int .i64 x)] => some (iv (cmpI x 0), [])
  | _ => none
def pAbs : List DArg → Option (Value × List Prop)
  | [.v (.int .i64 x)] => some (iv (x.natAbs : Int), [big x])
  | _ => none
def pAll : List DArg → Option (Value × List Prop)
  | [.row 2 (.vals [.int .i64 ax, .int .i64 ay, .int .i64 bx, .int .i64 b_y])] => some (.bool (ptB ax ay && ptB bx b_y), [])
  | [.row 3 (.vals [.int .i64 ax, .int .i64 ay, .int .i64 bx, .int .i64 b_y, .int .i64 cx, .int .i64 cy])] => some (.bool (ptB ax ay && ptB bx b_y && ptB cx cy), [])
  | [.row 4 (.vals [.int .i64 ax, .int .i64 ay, .int .i64 bx, .int .i64 b_y, .int .i64 cx, .int .i64 cy, .int .i64 dx, .int .i64 dy])] => some (.bool (ptB ax ay && ptB bx b_y && (ptB cx cy && ptB dx dy)), [])
  | _ => none
def T1 : Tab := fun f ds => match f with
  | 52 => pPt ds
  | 50 => pPt ds
  | 85 => pCmp ds
  | 90 => pSign ds
  | 51 => pSign ds
  | 95 => pAbs ds
  | 80 => pAll ds
  | _ => none
theorem row_open {w : World} {l : Nat} {cs : Cs} {y : Value} (hl : 0 < l) (h : DOk w (.row l cs) y) : ∃ g f c', y = .slice (some ⟨g, f, none⟩) l c' ∧ l ≤ c' ∧ g < w.heap.size ∧ ∀ (k : Nat) v, cs.list[k]? = some v → w.cell? ⟨g, f + k, none⟩ = some v := by
  obtain ⟨_, ad, c', h1, h2, h3⟩ := h
  obtain ⟨g, f, rfl, h4, h5⟩ := h3.resolve_left (by omega)
  exact ⟨g, f, c', h1, h2, h4, h5⟩
theorem res_row {f : FuncId} {l : Nat} {cs : Cs} {v : Value} (hl : 0 < l) (he : entersB Try.prog f = true) (hv : plainV v = true) (hat : allAtoms cs = true) (h : ∀ w g o c', l ≤ c' → g < w.heap.size → (∀ (k : Nat) v, cs.list[k]? = some v → w.cell? ⟨g, o + k, none⟩ = some v) →
    Calls Try.prog f #[.slice (some ⟨g, o, none⟩) l c'] w fun e w' => e = .returned v ∧ Below w.heap.size w w') : Res Try.prog f [.row l cs] v := by
  obtain ⟨h1, h2⟩ := entersB_res he
  refine ⟨h1, h2, hv, fun d hd => ?_, fun w ys hd => ?_⟩
  · obtain rfl : d = .row l cs := by simpa using hd
    exact hat
  · have hs := hd.1
    have h0 : ys[0]? = some (ys[0]'(by simp at hs; omega)) := by simp
    obtain ⟨g, o, c', e1, e2, e3, e4⟩ := row_open hl (hd.2 0 _ _ rfl h0)
    have e : ys = #[.slice (some ⟨g, o, none⟩) l c'] := by
      apply Array.ext
      · simpa using hs.symm
      · intro i i1 i2
        have : i = 0 := by simp at i2; omega
        subst this
        simpa using e1
    rw [e]
    exact h w g o c' e2 e3 e4
theorem T1r_0 {ds : List DArg} {v : Value} {C : List Prop} (h : pPt ds = some (v, C)) (hC : AllP C) : Res Try.prog 52 ds v := by
  unfold pPt at h
  split at h
  · obtain ⟨rfl, rfl⟩ : _ ∧ _ := by simpa using h
    exact res_specValid _ _
  · cases h
theorem T1r_1 {ds : List DArg} {v : Value} {C : List Prop} (h : pPt ds = some (v, C)) (hC : AllP C) : Res Try.prog 50 ds v := by
  unfold pPt at h
  split at h
  · obtain ⟨rfl, rfl⟩ : _ ∧ _ := by simpa using h
    exact res_implValid _ _
  · cases h
theorem T1r_2 {ds : List DArg} {v : Value} {C : List Prop} (h : pCmp ds = some (v, C)) (hC : AllP C) : Res Try.prog 85 ds v := by
  unfold pCmp at h
  split at h
  · obtain ⟨rfl, rfl⟩ : _ ∧ _ := by simpa using h
    exact res_compare _ _
  · cases h
theorem T1r_3 {ds : List DArg} {v : Value} {C : List Prop} (h : pSign ds = some (v, C)) (hC : AllP C) : Res Try.prog 90 ds v := by
  unfold pSign at h
  split at h
  · obtain ⟨rfl, rfl⟩ : _ ∧ _ := by simpa using h
    exact res_specSign _
  · cases h
theorem T1r_4 {ds : List DArg} {v : Value} {C : List Prop} (h : pSign ds = some (v, C)) (hC : AllP C) : Res Try.prog 51 ds v := by
  unfold pSign at h
  split at h
  · obtain ⟨rfl, rfl⟩ : _ ∧ _ := by simpa using h
    exact res_implSign _
  · cases h
theorem T1r_6 {ds : List DArg} {v : Value} {C : List Prop} (h : pAbs ds = some (v, C)) (hC : AllP C) : Res Try.prog 95 ds v := by
  unfold pAbs at h
  split at h
  · obtain ⟨rfl, rfl⟩ : _ ∧ _ := by simpa using h
    exact res_calls (by kernel_rfl) rfl rfl fun w => below_same (abs_any _ w (by have := hC.1.1; omega))
  · cases h
theorem T1r_10 {ds : List DArg} {v : Value} {C : List Prop} (h : pAll ds = some (v, C)) (hC : AllP C) : Res Try.prog 80 ds v := by
  unfold pAll at h
  split at h
  · rename_i ax ay bx b_y
    obtain ⟨rfl, rfl⟩ : _ ∧ _ := by simpa using h
    refine res_row (by decide) (by kernel_rfl) rfl rfl fun w g o c' _ hg hcell => ?_
    have := allValid_any (some ⟨g, o, none⟩) 2 c' (pick2 ax bx) (pick2 ay b_y) w (by omega) (fun k hk => ⟨g, o, rfl, hg, by
      match k, hk with
      | 0, _ => exact ⟨hcell 0 _ rfl, hcell 1 _ rfl⟩
      | 1, _ => exact ⟨hcell 2 _ rfl, hcell 3 _ rfl⟩⟩)
    rw [allB2] at this
    exact this
  · rename_i ax ay bx b_y cx cy
    obtain ⟨rfl, rfl⟩ : _ ∧ _ := by simpa using h
    refine res_row (by decide) (by kernel_rfl) rfl rfl fun w g o c' _ hg hcell => ?_
    have := allValid_any (some ⟨g, o, none⟩) 3 c' (pick3 ax bx cx) (pick3 ay b_y cy) w (by omega) (fun k hk => ⟨g, o, rfl, hg, by
      match k, hk with
      | 0, _ => exact ⟨hcell 0 _ rfl, hcell 1 _ rfl⟩
      | 1, _ => exact ⟨hcell 2 _ rfl, hcell 3 _ rfl⟩
      | 2, _ => exact ⟨hcell 4 _ rfl, hcell 5 _ rfl⟩⟩)
    rw [allB3] at this
    exact this
  · rename_i ax ay bx b_y cx cy dx dy
    obtain ⟨rfl, rfl⟩ : _ ∧ _ := by simpa using h
    refine res_row (by decide) (by kernel_rfl) rfl rfl fun w g o c' _ hg hcell => ?_
    have := allValid_any (some ⟨g, o, none⟩) 4 c' (fun k => match k with
      | 0 => ax
      | 1 => bx
      | 2 => cx
      | _ => dx) (fun k => match k with
      | 0 => ay
      | 1 => b_y
      | 2 => cy
      | _ => dy) w (by omega) (fun k hk => ⟨g, o, rfl, hg, by
      match k, hk with
      | 0, _ => exact ⟨hcell 0 _ rfl, hcell 1 _ rfl⟩
      | 1, _ => exact ⟨hcell 2 _ rfl, hcell 3 _ rfl⟩
      | 2, _ => exact ⟨hcell 4 _ rfl, hcell 5 _ rfl⟩
      | 3, _ => exact ⟨hcell 6 _ rfl, hcell 7 _ rfl⟩⟩)
    rw [allB_succ, allB_succ, allB_succ, allB_succ, allB_zero] at this
    simpa [Bool.and_assoc] using this
  · cases h
theorem T1_ok : TabOk Try.prog T1 := by
  intro f ds v C h hC
  unfold T1 at h
  (try split at h)
  all_goals first | with_reducible exact T1r_0 h hC | with_reducible exact T1r_1 h hC | with_reducible exact T1r_2 h hC | with_reducible exact T1r_3 h hC | with_reducible exact T1r_4 h hC | with_reducible exact T1r_5 h hC | with_reducible exact T1r_6 h hC | with_reducible exact T1r_7 h hC | with_reducible exact T1r_8 h hC | with_reducible exact T1r_9 h hC | with_reducible exact T1r_10 h hC | cases h
end Go.Proofs.Ytnlciknmpjikgaa
namespace Go.Proofs.Ytnlciknmpjikgaa
set_option linter.all false
open Go.RowKit
theorem wrI {x : Int} (h : -9223372036854775808 ≤ x ∧ x ≤ 9223372036854775807) : IntKind.i64.wrap x = x := by
  rw [IntKind.wrap_i64]
  omega
def mhI (ax ay bx b_y : Int) : Int := ((ax - bx).natAbs : Int) + ((ay - b_y).natAbs : Int)
/-- What Manhattan answers. -/
def mhR (ax ay bx b_y : Int) : Int := bif ptB ax ay && ptB bx b_y then mhI ax ay bx b_y else -1
theorem ptB_is {x y : Int} (h : ptB x y = true) : -1000 ≤ x ∧ x ≤ 1000 ∧ -1000 ≤ y ∧ y ≤ 1000 := by simpa [ptB, and_assoc] using h
set_option maxRecDepth 100000 in
theorem tr_implMh (ax ay bx b_y : Int) : bodyV Try.prog (tabE T1) 30 12 109 [.v (.agg #[iv ax, iv ay]), .v (.agg #[iv bx, iv b_y])] = brT (!(ptB ax ay && ptB bx b_y)) (.fin (.int .i64 (-1)) []) (.fin (.int .i64 (IntKind.i64.wrap ((if IntKind.i64.wrap (ax - bx) < IntKind.i64.wrap (0 - IntKind.i64.wrap (ax - bx)) then IntKind.i64.wrap (0 - IntKind.i64.wrap (ax - bx)) else IntKind.i64.wrap (ax - bx)) + if IntKind.i64.wrap (ay - b_y) < IntKind.i64.wrap (0 - IntKind.i64.wrap (ay - b_y)) then IntKind.i64.wrap (0 - IntKind.i64.wrap (ay - b_y)) else IntKind.i64.wrap (ay - b_y)))) []) := by kernel_rfl
theorem res_implMh (ax ay bx b_y : Int) : Res Try.prog 109 [.v (.agg #[iv ax, iv ay]), .v (.agg #[iv bx, iv b_y])] (iv (mhR ax ay bx b_y)) := by
  refine bodyV_res mixed (tabE_ok T1_ok) (m := 30) (n := 12) rfl ?_
  rw [tr_implMh]
  unfold mhR mhI
  rcases h1 : ptB ax ay with _ | _
  · simp [brT_ok, Tree.ok]
  rcases h2 : ptB bx b_y with _ | _
  · simp [brT_ok, Tree.ok]
  have a1 := ptB_is h1
  have a2 := ptB_is h2
  have e : ∀ x : Int, (if x < 0 - x then 0 - x else x) = (x.natAbs : Int) := fun x => by split <;> omega
  rw [wrI (x := ax - bx) (by omega), wrI (x := ay - b_y) (by omega), wrI (x := 0 - (ax - bx)) (by omega), wrI (x := 0 - (ay - b_y)) (by omega), e, e, wrI (by omega)]
  simp [brT_ok, Tree.ok]
def pMh : List DArg → Option (Value × List Prop)
  | [.v (.agg ⟨[.int .i64 a, .int .i64 b]⟩), .v (.agg ⟨[.int .i64 c, .int .i64 d]⟩)] => some (iv (mhR a b c d), [])
  | _ => none
theorem pMhI_ok {ds : List DArg} {v : Value} {C : List Prop} (h : pMh ds = some (v, C)) : Res Try.prog 109 ds v := by
  unfold pMh at h
  split at h
  · obtain ⟨rfl, rfl⟩ : _ ∧ _ := by simpa using h
    exact res_implMh _ _ _ _
  · cases h
end Go.Proofs.Ytnlciknmpjikgaa
namespace Go.Proofs.Ytnlciknmpjikgaa
set_option linter.all false
open Go.RowKit
def E1 : Env := mkE (T1) (fun _ _ => none) (fun _ => noL)
theorem E1_ok : EnvOk Try.prog E1 := mkEOk (T1_ok) (fun _ _ _ _ _ h => (by cases h)) (fun _ _ _ _ _ _ _ _ _ _ _ h => (by cases h))
def vB (p : Pt) : Bool := ptB p.1 p.2
def allV (ps : List Pt) : Bool := ps.all vB
noncomputable def c43 : Code := ((loopsOf (codeOf Try.f58))[0]?).getD .skip
noncomputable def c80 : Code := ((loopsOf (codeOf Try.f80))[0]?).getD .skip
set_option maxRecDepth 100000 in
theorem nl43 : loopsOf c43 = [] := by kernel_rfl
set_option maxRecDepth 100000 in
theorem nl80 : loopsOf c80 = [] := by kernel_rfl
def k43 : Ex → List Nat := keeps [0, 3] [(0, [0])] [2]
def k80 : Ex → List Nat := keeps [5, 6, 7] [] [2]
def s43 (ps : List Pt) (i : Nat) : St := ⟨[.slice (some ⟨0, 0, none⟩) ps.length ps.length, topV, topV, .int .i64 i, topV, topV, topV, topV, topV, topV, topV, topV, topV, topV, topV, topV, topV, topV, topV], [some ⟨.view, .ints (flat ps)⟩]⟩
def s80 (ps : List Pt) (i : Nat) : St := ⟨[topV, topV, topV, topV, topV, .slice (some ⟨0, 0, none⟩) ps.length ps.length, .int .i64 ps.length, .int .i64 i, topV, topV, topV, topV, topV, topV, topV], [some ⟨.view, .ints (flat ps)⟩]⟩
set_option maxRecDepth 100000 in
theorem tr43 (ps : List Pt) (i : Nat) : bodyL Try.prog E1 30 12 noL 1 c43 k43 1 (s43 ps i) = brT (decide ((↑i : Int) < (↑ps.length : Int))) (.need ((0 : Int) ≤ (↑i : Int) ∧ (↑i : Int) < (↑ps.length : Int)) (.need ((0 : Nat) + (↑i : Int).toNat * (2 : Nat) + (2 : Nat) ≤ (flat ps).length) (brT (!ptB ((flat ps).getD (0 + (↑i : Int).toNat * 2) 0) ((flat ps).getD (0 + (↑i : Int).toNat * 2 + 1) 0)) (.leaf .ret ⟨[topV, topV, .bool (false), topV, topV, topV, topV, topV, topV, topV, topV, topV, topV, topV, topV, topV, topV, topV, topV], [some ⟨.view, .ints (flat ps)⟩]⟩) (.leaf .normal ⟨[.slice (some ⟨0, 0, none⟩) (ps.length) (ps.length), topV, topV, .int .i64 (IntKind.i64.wrap ((↑i : Int) + 1)), topV, topV, topV, topV, topV, topV, topV, topV, topV, topV, topV, topV, topV, topV, topV], [some ⟨.view, .ints (flat ps)⟩]⟩)))) (.leaf (.exit 0) ⟨[.slice (some ⟨0, 0, none⟩) (ps.length) (ps.length), topV, topV, topV, topV, topV, topV, topV, topV, topV, topV, topV, topV, topV, topV, topV, topV, topV, topV], [some ⟨.view, .ints (flat ps)⟩]⟩) := by kernel_rfl
set_option maxRecDepth 100000 in
theorem tr80 (ps : List Pt) (i : Nat) : bodyL Try.prog E1 30 12 noL 1 c80 k80 1 (s80 ps i) = brT (decide ((↑i : Int) < (↑ps.length : Int))) (.need ((0 : Int) ≤ (↑i : Int) ∧ (↑i : Int) < (↑ps.length : Int)) (.need ((0 : Nat) + (↑i : Int).toNat * (2 : Nat) + (2 : Nat) ≤ (flat ps).length) (brT (!ptB ((flat ps).getD (0 + (↑i : Int).toNat * 2) 0) ((flat ps).getD (0 + (↑i : Int).toNat * 2 + 1) 0)) (.leaf .ret ⟨[topV, topV, .bool (false), topV, topV, topV, topV, topV, topV, topV, topV, topV, topV, topV, topV], [some ⟨.view, .ints (flat ps)⟩]⟩) (.leaf .normal ⟨[topV, topV, topV, topV, topV, .slice (some ⟨0, 0, none⟩) (ps.length) (ps.length), .int .i64 ((↑ps.length : Int)), .int .i64 (IntKind.i64.wrap ((↑i : Int) + 1)), topV, topV, topV, topV, topV, topV, topV], [some ⟨.view, .ints (flat ps)⟩]⟩)))) (.leaf (.exit 0) ⟨[topV, topV, topV, topV, topV, topV, topV, topV, topV, topV, topV, topV, topV, topV, topV], [some ⟨.view, .ints (flat ps)⟩]⟩) := by kernel_rfl
def re43 (ps : List Pt) (i : Nat) : Ex := bif (ps.drop i).all vB then .exit 0 else .ret
def rs43 (ps : List Pt) (i : Nat) : St := bif (ps.drop i).all vB then ⟨[.slice (some ⟨0, 0, none⟩) ps.length ps.length, topV, topV, topV, topV, topV, topV, topV, topV, topV, topV, topV, topV, topV, topV, topV, topV, topV, topV], [some ⟨.view, .ints (flat ps)⟩]⟩ else ⟨[topV, topV, .bool false, topV, topV, topV, topV, topV, topV, topV, topV, topV, topV, topV, topV, topV, topV, topV, topV], [some ⟨.view, .ints (flat ps)⟩]⟩
def re80 (ps : List Pt) (i : Nat) : Ex := bif (ps.drop i).all vB then .exit 0 else .ret
def rs80 (ps : List Pt) (i : Nat) : St := bif (ps.drop i).all vB then ⟨[topV, topV, topV, topV, topV, topV, topV, topV, topV, topV, topV, topV, topV, topV, topV], [some ⟨.view, .ints (flat ps)⟩]⟩ else ⟨[topV, topV, .bool false, topV, topV, topV, topV, topV, topV, topV, topV, topV, topV, topV, topV], [some ⟨.view, .ints (flat ps)⟩]⟩
theorem round43 (ps : List Pt) (hn : ps.length ≤ 1000000000) (i : Nat) (hi : i ≤ ps.length) :
    (bodyL Try.prog E1 30 12 noL 1 c43 k43 1 (s43 ps i)).ok (RoundEnd 1 (s43 ps) (fun i => i ≤ ps.length) (fun i => ps.length - i) (re43 ps) (rs43 ps) i) (fun _ _ => False) := by
  rw [tr43]
  simp only [brT_ok, Tree.ok, decide_eq_true_eq, decide_eq_false_iff_not, Int.toNat_natCast, Nat.zero_add, flat_length, flat_get0, flat_get1, Bool.not_eq_true', Bool.not_eq_false']
  refine ⟨fun hlt => ⟨by omega, by omega, fun hv => ?_, fun hv => ?_⟩, fun hge => ?_⟩
  · have e : (ps.drop i).all vB = false := by rw [all_drop (by omega) (0, 0)]; simp only [vB, hv, Bool.false_and]
    refine ⟨by simp only [re43, e, cond_false], [], ?_⟩
    simp only [rs43, e, cond_false]
    repeat' (first | exact True.intro | exact rfl | refine And.intro ?_ ?_)
  · have e : (ps.drop i).all vB = (ps.drop (i + 1)).all vB := by rw [all_drop (by omega) (0, 0)]; simp only [vB, hv, Bool.true_and]
    rw [wsucc (n := ps.length) (by omega) hn]
    refine ⟨i + 1, [], by omega, by dsimp only; omega, by simp only [re43, e], by simp only [rs43, e], ?_⟩
    repeat' (first | exact True.intro | exact rfl | refine And.intro ?_ ?_)
  · have e : (ps.drop i).all vB = true := all_end (by omega) _
    refine ⟨by simp only [re43, e, cond_true], [], ?_⟩
    simp only [rs43, e, cond_true]
    repeat' (first | exact True.intro | exact rfl | refine And.intro ?_ ?_)
theorem round80 (ps : List Pt) (hn : ps.length ≤ 1000000000) (i : Nat) (hi : i ≤ ps.length) :
    (bodyL Try.prog E1 30 12 noL 1 c80 k80 1 (s80 ps i)).ok (RoundEnd 1 (s80 ps) (fun i => i ≤ ps.length) (fun i => ps.length - i) (re80 ps) (rs80 ps) i) (fun _ _ => False) := by
  rw [tr80]
  simp only [brT_ok, Tree.ok, decide_eq_true_eq, decide_eq_false_iff_not, Int.toNat_natCast, Nat.zero_add, flat_length, flat_get0, flat_get1, Bool.not_eq_true', Bool.not_eq_false']
  refine ⟨fun hlt => ⟨by omega, by omega, fun hv => ?_, fun hv => ?_⟩, fun hge => ?_⟩
  · have e : (ps.drop i).all vB = false := by rw [all_drop (by omega) (0, 0)]; simp only [vB, hv, Bool.false_and]
    refine ⟨by simp only [re80, e, cond_false], [], ?_⟩
    simp only [rs80, e, cond_false]
    repeat' (first | exact True.intro | exact rfl | refine And.intro ?_ ?_)
  · have e : (ps.drop i).all vB = (ps.drop (i + 1)).all vB := by rw [all_drop (by omega) (0, 0)]; simp only [vB, hv, Bool.true_and]
    rw [wsucc (n := ps.length) (by omega) hn]
    refine ⟨i + 1, [], by omega, by dsimp only; omega, by simp only [re80, e], by simp only [rs80, e], ?_⟩
    repeat' (first | exact True.intro | exact rfl | refine And.intro ?_ ?_)
  · have e : (ps.drop i).all vB = true := all_end (by omega) _
    refine ⟨by simp only [re80, e, cond_true], [], ?_⟩
    simp only [rs80, e, cond_true]
    repeat' (first | exact True.intro | exact rfl | refine And.intro ?_ ?_)
def lt43 : LT := fun j s k => match j, s with
  | 0, ⟨[.slice (some ⟨0, 0, none⟩) n _, _, _, .int .i64 i, _, _, _, _, _, _, _, _, _, _, _, _, _, _, _], [some ⟨.view, .ints xs⟩]⟩ =>
    some (needs [i = 0, xs.length = n * 2, n ≤ 1000000000] (brT (allV (ptsA n xs)) (k (.exit 0) ⟨[.slice (some ⟨0, 0, none⟩) n n, topV, topV, topV, topV, topV, topV, topV, topV, topV, topV, topV, topV, topV, topV, topV, topV, topV, topV], [some ⟨.view, .ints xs⟩]⟩) (k .ret ⟨[topV, topV, .bool false, topV, topV, topV, topV, topV, topV, topV, topV, topV, topV, topV, topV, topV, topV, topV, topV], [some ⟨.view, .ints xs⟩]⟩)))
  | _, _ => none
def lt80 : LT := fun j s k => match j, s with
  | 0, ⟨[_, _, _, _, _, .slice (some ⟨0, 0, none⟩) n _, .int .i64 l, .int .i64 i, _, _, _, _, _, _, _], [some ⟨.view, .ints xs⟩]⟩ =>
    some (needs [i = 0, l = n, xs.length = n * 2, n ≤ 1000000000] (brT (allV (ptsA n xs)) (k (.exit 0) ⟨[topV, topV, topV, topV, topV, topV, topV, topV, topV, topV, topV, topV, topV, topV, topV], [some ⟨.view, .ints xs⟩]⟩) (k .ret ⟨[topV, topV, .bool false, topV, topV, topV, topV, topV, topV, topV, topV, topV, topV, topV, topV], [some ⟨.view, .ints xs⟩]⟩)))
  | _, _ => none
set_option maxRecDepth 100000 in
theorem lg43 : LoopsGood Try.prog lt43 0 (codeOf Try.f58) := by
  intro i d hd s k t F H hlt ht
  rw [Nat.zero_add] at hlt
  unfold lt43 at hlt
  split at hlt
  rotate_left
  · cases hlt
  obtain rfl : c43 = d := by unfold c43; rw [hd]; rfl
  obtain rfl := Option.some.inj hlt
  obtain ⟨⟨rfl, h1, h2, _⟩, ht2⟩ := needs_ok ht
  clear ht hlt
  obtain ⟨ps, rfl, rfl⟩ := even_flat h1
  rw [ptsA_flat] at ht2
  refine ⟨_, _, pick2k ht2, loop_run mixed E1_ok (s43 ps) (fun i => i ≤ ps.length) (fun i => ps.length - i) (re43 ps) (rs43 ps) k43 (fun _ => rfl) (noLoops nl43) (round43 ps h2) (x := 0) (Nat.zero_le _) (π := []) rfl ?_⟩
  repeat' (first | exact True.intro | exact rfl | exact wv_top _ _ | refine And.intro ?_ ?_)
set_option maxRecDepth 100000 in
theorem lg80 : LoopsGood Try.prog lt80 0 (codeOf Try.f80) := by
  intro i d hd s k t F H hlt ht
  rw [Nat.zero_add] at hlt
  unfold lt80 at hlt
  split at hlt
  rotate_left
  · cases hlt
  obtain rfl : c80 = d := by unfold c80; rw [hd]; rfl
  obtain rfl := Option.some.inj hlt
  obtain ⟨⟨rfl, rfl, h1, h2, _⟩, ht2⟩ := needs_ok ht
  clear ht hlt
  obtain ⟨ps, rfl, rfl⟩ := even_flat h1
  rw [ptsA_flat] at ht2
  refine ⟨_, _, pick2k ht2, loop_run mixed E1_ok (s80 ps) (fun i => i ≤ ps.length) (fun i => ps.length - i) (re80 ps) (rs80 ps) k80 (fun _ => rfl) (noLoops nl80) (round80 ps h2) (x := 0) (Nat.zero_le _) (π := []) rfl ?_⟩
  repeat' (first | exact True.intro | exact rfl | exact wv_top _ _ | refine And.intro ?_ ?_)
end Go.Proofs.Ytnlciknmpjikgaa
namespace Go.Proofs.Ytnlciknmpjikgaa
set_option linter.all false
open Go.RowKit
def L2 : FuncId → LT := fun f => match f with
  | 58 => lt43
  | 80 => lt80
  | _ => noL
def E2 : Env := mkE (T1) (fun _ _ => none) (L2)
theorem E2_ok : EnvOk Try.prog E2 := by
  refine mkEOk T1_ok (fun _ _ _ _ _ h => (by cases h)) fun f fn hf => ?_
  show LoopsGood Try.prog (L2 f) 0 (codeOf fn)
  unfold L2
  split
  · obtain rfl : Try.f58 = fn := by rw [Try.func58] at hf; simpa using hf
    exact lg43
  · obtain rfl : Try.f80 = fn := by rw [Try.func80] at hf; simpa using hf
    exact lg80
  · exact noL_good
set_option maxRecDepth 100000 in
theorem tr_f43 (ps : List Pt) : bodyX Try.prog E2 30 12 58 [.row ps.length (.ints (flat ps))] = .need ((0 : Int) = (0 : Int)) (.need ((flat ps).length = ps.length * (2 : Nat)) (.need (ps.length ≤ (1000000000 : Nat)) (brT (allV (ptsA ps.length (flat ps))) (.fin (.bool (decide ((↑ps.length : Int) ≤ 20))) [some ⟨.view, .ints (flat ps)⟩]) (.fin (.bool (false)) [some ⟨.view, .ints (flat ps)⟩])))) := by kernel_rfl
set_option maxRecDepth 100000 in
theorem tr_f80 (ps : List Pt) : bodyX Try.prog E2 30 12 80 [.row ps.length (.ints (flat ps))] = .need ((0 : Int) = (0 : Int)) (.need ((↑ps.length : Int) = (↑ps.length : Int)) (.need ((flat ps).length = ps.length * (2 : Nat)) (.need (ps.length ≤ (1000000000 : Nat)) (brT (allV (ptsA ps.length (flat ps))) (.fin (.bool (true)) [some ⟨.view, .ints (flat ps)⟩]) (.fin (.bool (false)) [some ⟨.view, .ints (flat ps)⟩]))))) := by kernel_rfl
def Big (ps : List Pt) : Prop := ps.length ≤ 1000000000
def okL (ps : List Pt) : Bool := allV ps && decide (ps.length ≤ 20)
theorem res_f43 (ps : List Pt) (h : Big ps) : Res Try.prog 58 [.row ps.length (.ints (flat ps))] (.bool (okL ps)) := by
  refine bodyX_res mixed E2_ok (m := 30) (n := 12) rfl ?_
  rw [tr_f43, ptsA_flat]
  unfold Big at h
  unfold okL
  cases hv : allV ps <;> simp [Tree.ok, brT, flat_length, h]
  omega
theorem res_f80 (ps : List Pt) (h : Big ps) : Res Try.prog 80 [.row ps.length (.ints (flat ps))] (.bool (allV ps)) := by
  refine bodyX_res mixed E2_ok (m := 30) (n := 12) rfl ?_
  rw [tr_f80, ptsA_flat]
  unfold Big at h
  cases hv : allV ps <;> simp [Tree.ok, brT, flat_length, h]
/-- An entry for a function of one list of points. -/
def pL (g : List Pt → Value) : List DArg → Option (Value × List Prop)
  | [.row n (.ints xs)] => some (g (ptsA n xs), [n * 2 ≤ xs.length, n ≤ 1000000000])
  | _ => none
theorem pL_ok {f : FuncId} {g : List Pt → Value} (h : ∀ ps, Big ps → Res Try.prog f [.row ps.length (.ints (flat ps))] (g ps)) {ds : List DArg} {v : Value} {C : List Prop} (hd : pL g ds = some (v, C)) (hC : AllP C) : Res Try.prog f ds v := by
  unfold pL at hd
  split at hd
  · rename_i n xs
    obtain ⟨rfl, rfl⟩ : _ ∧ _ := by simpa using hd
    obtain ⟨h1, h2⟩ := ptsA_spec hC.1
    have h0 := h (ptsA n xs) (by unfold Big; rw [h2]; exact hC.2.1)
    exact res_pts1 (pre := []) (post := []) hC.1 h0
  · cases hd
def T2 : Tab := fun f ds => match f with
  | 58 => pL (fun ps => .bool (okL ps)) ds
  | 80 => (match pL (fun ps => .bool (allV ps)) ds with
    | some r => some r
    | none => T1 f ds)
  | f => T1 f ds
theorem T2_ok : TabOk Try.prog T2 := by
  intro f ds v C h hC
  unfold T2 at h
  split at h
  · exact pL_ok res_f43 h hC
  · split at h
    · rename_i hr
      rw [h] at hr
      exact pL_ok res_f80 hr hC
    · exact T1_ok _ _ _ _ h hC
  · exact T1_ok _ _ _ _ h hC
end Go.Proofs.Ytnlciknmpjikgaa
namespace Go.Proofs.Ytnlciknmpjikgaa
set_option linter.all false
open Go.RowKit
def E3 : Env := mkE (T2) (fun _ _ => none) (fun _ => noL)
theorem E3_ok : EnvOk Try.prog E3 := mkEOk (T2_ok) (fun _ _ _ _ _ h => (by cases h)) (fun _ _ _ => noL_good)
theorem allV_get {ps : List Pt} (h : allV ps = true) (i : Nat) : -1000 ≤ (ps.getD i (0, 0)).1 ∧ (ps.getD i (0, 0)).1 ≤ 1000 ∧ -1000 ≤ (ps.getD i (0, 0)).2 ∧ (ps.getD i (0, 0)).2 ≤ 1000 := by
  rcases Nat.lt_or_ge i ps.length with hlt | hge
  · have := List.all_eq_true.1 h (ps.getD i (0, 0)) (by simp [hlt])
    simpa [vB, ptB] using this
  · simp [hge]
theorem brT_t (x y : Tree) : brT true x y = x := rfl
theorem brT_f (x y : Tree) : brT false x y = y := rfl
def eqL (ps qs : List Pt) : Bool := decide (ps = qs)
def sq (p q : Pt) : Int := (p.1 - q.1) * (p.1 - q.1) + (p.2 - q.2) * (p.2 - q.2)
def cnt (n : Int) (q : Pt) (ps : List Pt) : Int := (ps.countP fun p => decide (sq p q ≤ n) : Nat)
theorem cnt_yes {ps : List Pt} {i : Nat} (h : i < ps.length) (n : Int) (q : Pt) (hh : sq (ps.getD i (0, 0)) q ≤ n) : cnt n q (ps.drop i) = cnt n q (ps.drop (i + 1)) + 1 := by
  unfold cnt
  rw [drop_cons h (0, 0), List.countP_cons]
  simp only [hh, decide_true, if_true]
  omega
theorem cnt_no {ps : List Pt} {i : Nat} (h : i < ps.length) (n : Int) (q : Pt) (hh : ¬ sq (ps.getD i (0, 0)) q ≤ n) : cnt n q (ps.drop i) = cnt n q (ps.drop (i + 1)) := by
  unfold cnt
  rw [drop_cons h (0, 0), List.countP_cons]
  simp only [hh, decide_false, if_false, Bool.false_eq_true]
  omega
theorem cnt_end {ps : List Pt} {i : Nat} (h : ps.length ≤ i) (n : Int) (q : Pt) : cnt n q (ps.drop i) = 0 := by
  unfold cnt
  rw [List.drop_of_length_le h]
  rfl
noncomputable def c_toPts : Code := ((loopsOf (codeOf Try.f25))[0]?).getD .skip
def k_toPts : Ex → List Nat := keeps [0, 3, 4] [(0, [3])] [2]
def s_toPts (ps : List Pt) (n : Nat) : Nat × (List Pt) → St := fun (i, qs) => ⟨[.slice (some ⟨0, 0, none⟩) ps.length ps.length, topV, topV, .slice (some ⟨1, 0, none⟩) n n, .int .i64 i, topV, topV, topV, topV, topV, topV, topV, topV, topV, topV, topV, topV, topV, topV, topV, topV, topV, topV], [some ⟨.view, .ints (flat ps)⟩, some ⟨.row 31 2, .ints (flat qs)⟩]⟩
def re_toPts : Nat × (List Pt) → Ex := fun _ => .exit 0
def rs_toPts (ps : List Pt) (n : Nat) : Nat × (List Pt) → St := fun (i, qs) => ⟨[topV, topV, topV, .slice (some ⟨1, 0, none⟩) n n, topV, topV, topV, topV, topV, topV, topV, topV, topV, topV, topV, topV, topV, topV, topV, topV, topV, topV, topV], [some ⟨.view, .ints (flat ps)⟩, some ⟨.row 31 2, .ints (flat ps)⟩]⟩
set_option maxRecDepth 100000 in
theorem tr_toPts (ps : List Pt) (n : Nat) (i : Nat) (qs : List Pt) : bodyL Try.prog E3 30 12 noL 1 c_toPts k_toPts 2 (s_toPts ps n (i, qs)) = brT (decide ((↑i : Int) < (↑ps.length : Int))) (.need ((0 : Int) ≤ (↑i : Int) ∧ (↑i : Int) < (↑ps.length : Int)) (.need ((0 : Nat) + (↑i : Int).toNat * (2 : Nat) + (2 : Nat) ≤ (flat ps).length) (.need ((0 : Int) ≤ (↑i : Int) ∧ (↑i : Int) < (↑n : Int)) (.need ((0 : Nat) + (↑i : Int).toNat * (2 : Nat) + (2 : Nat) ≤ (flat qs).length) (.leaf .normal ⟨[.slice (some ⟨0, 0, none⟩) (ps.length) (ps.length), topV, topV, .slice (some ⟨1, 0, none⟩) (n) (n), .int .i64 (IntKind.i64.wrap ((↑i : Int) + 1)), topV, topV, topV, topV, topV, topV, topV, topV, topV, topV, topV, topV, topV, topV, topV, topV, topV, topV], [some ⟨.view, .ints (flat ps)⟩, some ⟨.row 31 2, .ints (setInts (flat qs) (0 + (↑i : Int).toNat * 2) [(flat ps).getD (0 + (↑i : Int).toNat * 2) 0, (flat ps).getD (0 + (↑i : Int).toNat * 2 + 1) 0])⟩]⟩))))) (.leaf (.exit 0) ⟨[topV, topV, topV, .slice (some ⟨1, 0, none⟩) (n) (n), topV, topV, topV, topV, topV, topV, topV, topV, topV, topV, topV, topV, topV, topV, topV, topV, topV, topV, topV], [some ⟨.view, .ints (flat ps)⟩, some ⟨.row 31 2, .ints (flat qs)⟩]⟩) := by kernel_rfl
set_option maxRecDepth 100000 in
theorem nl_toPts : loopsOf c_toPts = [] := by kernel_rfl
def inv_toPts (ps : List Pt) (n : Nat) : Nat × (List Pt) → Prop := fun (i, qs) => i ≤ ps.length ∧ ps.length = n ∧ qs.length = n ∧ qs.take i = ps.take i
def me_toPts (ps : List Pt) (n : Nat) : Nat × (List Pt) → Nat := fun (i, qs) => ps.length - i
/-- A round of this loop. -/
def Round_toPts (ps : List Pt) (n : Nat) : Prop := ∀ xx : Nat × (List Pt), inv_toPts ps n xx → (bodyL Try.prog E3 30 12 noL 1 c_toPts k_toPts 2 (s_toPts ps n xx)).ok (RoundEnd 2 (s_toPts ps n) (inv_toPts ps n) (me_toPts ps n) re_toPts (rs_toPts ps n) xx) (fun _ _ => False)
def e_toPts (s : St) (k : Ex → St → Tree) : Option Tree := match Nat.beq s.tmps.length 23, pickL s.tmps [0, 3, 4], s.mem with
  | true, [.slice (some ⟨0, 0, none⟩) n _, .slice (some ⟨1, 0, none⟩) m _, .int .i64 i], [some ⟨.view, .ints xs⟩, some ⟨.row 31 2, .ints ys⟩] => some (needs [i = 0, m = n, xs.length = n * 2, ys.length = n * 2, n ≤ 1000000000] (k (.exit 0) ⟨[topV, topV, topV, .slice (some ⟨1, 0, none⟩) m m, topV, topV, topV, topV, topV, topV, topV, topV, topV, topV, topV, topV, topV, topV, topV, topV, topV, topV, topV], [some ⟨.view, .ints xs⟩, some ⟨.row 31 2, .ints xs⟩]⟩))
  | _, _, _ => none
set_option maxRecDepth 100000 in
theorem round_toPts (ps : List Pt) (n : Nat) (h : ps.length ≤ 1000000000) : Round_toPts ps n := by
  rintro ⟨i, qs⟩ ⟨h1, h2, h3, h4⟩
  rw [tr_toPts]
  simp only [brT_ok, Tree.ok, decide_eq_true_eq, decide_eq_false_iff_not, Int.toNat_natCast, Nat.zero_add, flat_length, flat_get0, flat_get1, Cs.size]
  refine ⟨fun hlt => ⟨by omega, by omega, by omega, by omega, ?_⟩, fun hge => ?_⟩
  · rw [wsucc (n := ps.length) (by omega) h, flat_set qs i (by omega)]
    refine ⟨(i + 1, qs.set i (ps.getD i (0, 0))), [], ⟨by omega, h2, by simp [h3], ?_⟩, ?_, rfl, rfl, ?_⟩
    · exact take_set_succ (by omega) (by omega) h4 _
    · show ps.length - (i + 1) < ps.length - i; omega
    · repeat' (first | exact True.intro | exact rfl | exact fun _ => rfl | refine And.intro ?_ ?_)
  · have e : qs = ps := by
      rw [List.take_of_length_le (by omega), List.take_of_length_le (by omega)] at h4
      exact h4
    subst e
    refine ⟨rfl, [], ?_⟩
    repeat' (first | exact True.intro | exact rfl | exact fun _ => rfl | refine And.intro ?_ ?_)
set_option maxRecDepth 100000 in
theorem lg_toPts : LoopE Try.prog e_toPts c_toPts := by
  intro s k t F H hlt ht
  unfold e_toPts at hlt
  split at hlt
  rotate_left
  · cases hlt
  rename_i hlen hpick hmem
  obtain ⟨tmps, mem⟩ := s
  simp only at hlen hpick hmem
  subst hmem
  obtain rfl := Option.some.inj hlt
  obtain ⟨⟨rfl, rfl, h1, h2, h3, _⟩, ht2⟩ := needs_ok ht
  clear ht hlt
  obtain ⟨ps, rfl, rfl⟩ := even_flat h1
  obtain ⟨qs, rfl, hq⟩ := even_flat h2
  refine ⟨_, _, ht2, loop_run mixed E3_ok (s_toPts ps ps.length) (inv_toPts ps ps.length) (me_toPts ps ps.length) re_toPts (rs_toPts ps ps.length) k_toPts (fun _ => rfl) (noLoops nl_toPts) (round_toPts ps ps.length h3) (x := (0, qs)) ⟨Nat.zero_le _, rfl, hq, rfl⟩ (π := []) rfl ?_⟩
  refine ⟨rfl, rfl, ?_, wvs_spread' [0, 3, 4] hlen rfl ?_⟩
  · repeat' (first | exact True.intro | exact rfl | exact wv_top _ _ | exact fun _ => rfl | assumption | exact Eq.symm (by assumption) | exact vI0 rfl | refine And.intro ?_ ?_)
  · rw [hpick]
    repeat' (first | exact True.intro | exact rfl | exact wv_top _ _ | exact fun _ => rfl | assumption | exact Eq.symm (by assumption) | exact vI0 rfl | refine And.intro ?_ ?_)
noncomputable def c_eqPts : Code := ((loopsOf (codeOf Try.f28))[0]?).getD .skip
def k_eqPts : Ex → List Nat := keeps [0, 1, 5] [(0, [])] [4]
def s_eqPts (ps : List Pt) (qs : List Pt) : Nat → St := fun i => ⟨[.slice (some ⟨0, 0, none⟩) ps.length ps.length, .slice (some ⟨1, 0, none⟩) qs.length qs.length, topV, topV, topV, .int .i64 i, topV, topV, topV, topV, topV, topV, topV, topV, topV, topV, topV, topV, topV, topV, topV, topV, topV, topV, topV, topV, topV], [some ⟨.view, .ints (flat ps)⟩, some ⟨.view, .ints (flat qs)⟩]⟩
def re_eqPts (ps : List Pt) (qs : List Pt) : Nat → Ex := fun i => bif decide (ps.drop i = qs.drop i) then .exit 0 else .ret
def rs_eqPts (ps : List Pt) (qs : List Pt) : Nat → St := fun i => bif decide (ps.drop i = qs.drop i) then ⟨[topV, topV, topV, topV, topV, topV, topV, topV, topV, topV, topV, topV, topV, topV, topV, topV, topV, topV, topV, topV, topV, topV, topV, topV, topV, topV, topV], [some ⟨.view, .ints (flat ps)⟩, some ⟨.view, .ints (flat qs)⟩]⟩ else ⟨[topV, topV, topV, topV, .bool false, topV, topV, topV, topV, topV, topV, topV, topV, topV, topV, topV, topV, topV, topV, topV, topV, topV, topV, topV, topV, topV, topV], [some ⟨.view, .ints (flat ps)⟩, some ⟨.view, .ints (flat qs)⟩]⟩
set_option maxRecDepth 100000 in
theorem tr_eqPts (ps : List Pt) (qs : List Pt) (i : Nat) : bodyL Try.prog E3 30 12 noL 1 c_eqPts k_eqPts 2 (s_eqPts ps qs i) = brT (decide ((↑i : Int) < (↑ps.length : Int))) (brT (!(flat ps).getD (0 + (↑i : Int).toNat * 2) 0 == (flat qs).getD (0 + (↑i : Int).toNat * 2) 0) (.need ((0 : Int) ≤ (↑i : Int) ∧ (↑i : Int) < (↑ps.length : Int)) (.need ((0 : Nat) + (↑i : Int).toNat * (2 : Nat) + (2 : Nat) ≤ (flat ps).length) (.need ((0 : Int) ≤ (↑i : Int) ∧ (↑i : Int) < (↑qs.length : Int)) (.need ((0 : Nat) + (↑i : Int).toNat * (2 : Nat) + (2 : Nat) ≤ (flat qs).length) (.leaf .ret ⟨[topV, topV, topV, topV, .bool (false), topV, topV, topV, topV, topV, topV, topV, topV, topV, topV, topV, topV, topV, topV, topV, topV, topV, topV, topV, topV, topV, topV], [some ⟨.view, .ints (flat ps)⟩, some ⟨.view, .ints (flat qs)⟩]⟩))))) (brT (!(flat ps).getD (0 + (↑i : Int).toNat * 2 + 1) 0 == (flat qs).getD (0 + (↑i : Int).toNat * 2 + 1) 0) (.need ((0 : Int) ≤ (↑i : Int) ∧ (↑i : Int) < (↑ps.length : Int)) (.need ((0 : Nat) + (↑i : Int).toNat * (2 : Nat) + (2 : Nat) ≤ (flat ps).length) (.need ((0 : Int) ≤ (↑i : Int) ∧ (↑i : Int) < (↑qs.length : Int)) (.need ((0 : Nat) + (↑i : Int).toNat * (2 : Nat) + (2 : Nat) ≤ (flat qs).length) (.leaf .ret ⟨[topV, topV, topV, topV, .bool (false), topV, topV, topV, topV, topV, topV, topV, topV, topV, topV, topV, topV, topV, topV, topV, topV, topV, topV, topV, topV, topV, topV], [some ⟨.view, .ints (flat ps)⟩, some ⟨.view, .ints (flat qs)⟩]⟩))))) (.need ((0 : Int) ≤ (↑i : Int) ∧ (↑i : Int) < (↑ps.length : Int)) (.need ((0 : Nat) + (↑i : Int).toNat * (2 : Nat) + (2 : Nat) ≤ (flat ps).length) (.need ((0 : Int) ≤ (↑i : Int) ∧ (↑i : Int) < (↑qs.length : Int)) (.need ((0 : Nat) + (↑i : Int).toNat * (2 : Nat) + (2 : Nat) ≤ (flat qs).length) (.leaf .normal ⟨[.slice (some ⟨0, 0, none⟩) (ps.length) (ps.length), .slice (some ⟨1, 0, none⟩) (qs.length) (qs.length), topV, topV, topV, .int .i64 (IntKind.i64.wrap ((↑i : Int) + 1)), topV, topV, topV, topV, topV, topV, topV, topV, topV, topV, topV, topV, topV, topV, topV, topV, topV, topV, topV, topV, topV], [some ⟨.view, .ints (flat ps)⟩, some ⟨.view, .ints (flat qs)⟩]⟩))))))) (.leaf (.exit 0) ⟨[topV, topV, topV, topV, topV, topV, topV, topV, topV, topV, topV, topV, topV, topV, topV, topV, topV, topV, topV, topV, topV, topV, topV, topV, topV, topV, topV], [some ⟨.view, .ints (flat ps)⟩, some ⟨.view, .ints (flat qs)⟩]⟩) := by kernel_rfl
set_option maxRecDepth 100000 in
theorem nl_eqPts : loopsOf c_eqPts = [] := by kernel_rfl
def inv_eqPts (ps : List Pt) (qs : List Pt) : Nat → Prop := fun i => i ≤ ps.length ∧ ps.length = qs.length
def me_eqPts (ps : List Pt) (qs : List Pt) : Nat → Nat := fun i => ps.length - i
/-- A round of this loop. -/
def Round_eqPts (ps : List Pt) (qs : List Pt) : Prop := ∀ xx : Nat, inv_eqPts ps qs xx → (bodyL Try.prog E3 30 12 noL 1 c_eqPts k_eqPts 2 (s_eqPts ps qs xx)).ok (RoundEnd 2 (s_eqPts ps qs) (inv_eqPts ps qs) (me_eqPts ps qs) (re_eqPts ps qs) (rs_eqPts ps qs) xx) (fun _ _ => False)
def e_eqPts (s : St) (k : Ex → St → Tree) : Option Tree := match Nat.beq s.tmps.length 27, pickL s.tmps [0, 1, 5], s.mem with
  | true, [.slice (some ⟨0, 0, none⟩) n _, .slice (some ⟨1, 0, none⟩) m _, .int .i64 i], [some ⟨.view, .ints xs⟩, some ⟨.view, .ints ys⟩] => some (needs [i = 0, m = n, xs.length = n * 2, ys.length = n * 2, n ≤ 1000000000] (brT (eqL (ptsA n xs) (ptsA n ys)) (k (.exit 0) ⟨[topV, topV, topV, topV, topV, topV, topV, topV, topV, topV, topV, topV, topV, topV, topV, topV, topV, topV, topV, topV, topV, topV, topV, topV, topV, topV, topV], [some ⟨.view, .ints xs⟩, some ⟨.view, .ints ys⟩]⟩) (k .ret ⟨[topV, topV, topV, topV, .bool false, topV, topV, topV, topV, topV, topV, topV, topV, topV, topV, topV, topV, topV, topV, topV, topV, topV, topV, topV, topV, topV, topV], [some ⟨.view, .ints xs⟩, some ⟨.view, .ints ys⟩]⟩)))
  | _, _, _ => none
set_option maxRecDepth 100000 in
theorem round_eqPts (ps qs : List Pt) (h : ps.length ≤ 1000000000) : Round_eqPts ps qs := by
  rintro i ⟨h1, h2⟩
  rw [tr_eqPts]
  simp only [brT_ok, Tree.ok, decide_eq_true_eq, decide_eq_false_iff_not, Int.toNat_natCast, Nat.zero_add, flat_length, flat_get0, flat_get1, Bool.not_eq_true', Bool.not_eq_false', beq_iff_eq, beq_eq_false_iff_ne]
  refine ⟨fun hlt => ?_, fun hge => ?_⟩
  · have hd1 := drop_cons (l := ps) (k := i) (by omega) (0, 0)
    have hd2 := drop_cons (l := qs) (k := i) (by omega) (0, 0)
    have ne : ps.getD i (0, 0) ≠ qs.getD i (0, 0) → decide (ps.drop i = qs.drop i) = false := fun hne => by
      rw [hd1, hd2]
      simp only [List.cons.injEq, decide_eq_false_iff_not]
      exact fun h => hne h.1
    refine ⟨fun hv => ⟨by omega, by omega, by omega, by omega, ?_⟩, fun hv => ⟨fun hv2 => ⟨by omega, by omega, by omega, by omega, ?_⟩, fun hv2 => ⟨by omega, by omega, by omega, by omega, ?_⟩⟩⟩
    · have e := ne fun h => hv (by rw [h])
      refine ⟨by simp only [re_eqPts, e, cond_false], [], ?_⟩
      simp only [rs_eqPts, e, cond_false]
      repeat' (first | exact True.intro | exact rfl | exact fun _ => rfl | refine And.intro ?_ ?_)
    · have e := ne fun h => hv2 (by rw [h])
      refine ⟨by simp only [re_eqPts, e, cond_false], [], ?_⟩
      simp only [rs_eqPts, e, cond_false]
      repeat' (first | exact True.intro | exact rfl | exact fun _ => rfl | refine And.intro ?_ ?_)
    · have hp : ps.getD i (0, 0) = qs.getD i (0, 0) := Prod.ext hv hv2
      have e : decide (ps.drop i = qs.drop i) = decide (ps.drop (i + 1) = qs.drop (i + 1)) := by
        rw [hd1, hd2, hp]
        simp
      rw [wsucc (n := ps.length) (by omega) h]
      refine ⟨i + 1, [], ⟨by omega, h2⟩, ?_, by simp only [re_eqPts, e], by simp only [rs_eqPts, e], ?_⟩
      · show ps.length - (i + 1) < ps.length - i; omega
      · repeat' (first | exact True.intro | exact rfl | exact fun _ => rfl | refine And.intro ?_ ?_)
  · have e : decide (ps.drop i = qs.drop i) = true := by rw [List.drop_of_length_le (by omega), List.drop_of_length_le (by omega)]; rfl
    refine ⟨by simp only [re_eqPts, e, cond_true], [], ?_⟩
    simp only [rs_eqPts, e, cond_true]
    repeat' (first | exact True.intro | exact rfl | exact fun _ => rfl | refine And.intro ?_ ?_)
set_option maxRecDepth 100000 in
theorem lg_eqPts : LoopE Try.prog e_eqPts c_eqPts := by
  intro s k t F H hlt ht
  unfold e_eqPts at hlt
  split at hlt
  rotate_left
  · cases hlt
  rename_i hlen hpick hmem
  obtain ⟨tmps, mem⟩ := s
  simp only at hlen hpick hmem
  subst hmem
  obtain rfl := Option.some.inj hlt
  obtain ⟨⟨rfl, rfl, h1, h2, h3, _⟩, ht2⟩ := needs_ok ht
  clear ht hlt
  obtain ⟨ps, rfl, rfl⟩ := even_flat h1
  obtain ⟨qs, rfl, hq⟩ := even_flat h2
  rw [ptsA_flat, ← hq, ptsA_flat] at ht2
  refine ⟨_, _, pick2k ht2, loop_run mixed E3_ok (s_eqPts ps qs) (inv_eqPts ps qs) (me_eqPts ps qs) (re_eqPts ps qs) (rs_eqPts ps qs) k_eqPts (fun _ => rfl) (noLoops nl_eqPts) (round_eqPts ps qs h3) (x := 0) ⟨Nat.zero_le _, hq.symm⟩ (π := []) rfl ?_⟩
  refine ⟨rfl, rfl, ?_, wvs_spread' [0, 1, 5] hlen rfl ?_⟩
  · repeat' (first | exact True.intro | exact rfl | exact wv_top _ _ | exact fun _ => rfl | assumption | exact Eq.symm (by assumption) | exact vI0 rfl | refine And.intro ?_ ?_)
  · rw [hpick]
    repeat' (first | exact True.intro | exact rfl | exact wv_top _ _ | exact fun _ => rfl | assumption | exact Eq.symm (by assumption) | exact vI0 rfl | refine And.intro ?_ ?_)
noncomputable def c_specCW : Code := ((loopsOf (codeOf Try.f21))[0]?).getD .skip
def k_specCW : Ex → List Nat := keeps [0, 2, 4, 7, 8] [(0, [7])] [6]
def s_specCW (ps : List Pt) (x y n : Int) : Nat × Int → St := fun (i, o) => ⟨(.slice (some ⟨0, 0, none⟩) ps.length ps.length :: topV :: .int .i64 n :: topV :: .pointer (some ⟨3, 0, none⟩) :: topV :: topV :: .int .i64 o :: .int .i64 i :: topV :: topV :: topV :: topV :: topV :: topV :: topV :: topV :: topV :: topV :: topV :: topV :: topV :: topV :: topV :: topV :: topV :: topV :: topV :: topV :: topV :: topV :: topV :: topV :: topV :: []), [some ⟨.view, .ints (flat ps)⟩, none, none, some ⟨.box, .vals [.int .i64 x, .int .i64 y]⟩]⟩
def re_specCW : Nat × Int → Ex := fun _ => .exit 0
def rs_specCW (ps : List Pt) (x y n : Int) : Nat × Int → St := fun (i, o) => ⟨(topV :: topV :: topV :: topV :: topV :: topV :: topV :: .int .i64 (o + cnt n (x, y) (ps.drop i)) :: topV :: topV :: topV :: topV :: topV :: topV :: topV :: topV :: topV :: topV :: topV :: topV :: topV :: topV :: topV :: topV :: topV :: topV :: topV :: topV :: topV :: topV :: topV :: topV :: topV :: topV :: []), [some ⟨.view, .ints (flat ps)⟩, none, none, some ⟨.box, .vals [.int .i64 x, .int .i64 y]⟩]⟩
set_option maxRecDepth 100000 in
theorem tr_specCW (ps : List Pt) (x y n : Int) (i : Nat) (o : Int) : bodyL Try.prog E3 30 12 noL 1 c_specCW k_specCW 4 (s_specCW ps x y n (i, o)) = brT (decide ((↑i : Int) < (↑ps.length : Int))) (.need ((0 : Int) ≤ (↑i : Int) ∧ (↑i : Int) < (↑ps.length : Int)) (.need ((0 : Nat) + (↑i : Int).toNat * (2 : Nat) + (2 : Nat) ≤ (flat ps).length) (brT (decide (IntKind.i64.wrap (IntKind.i64.wrap (IntKind.i64.wrap ((flat ps).getD (0 + (↑i : Int).toNat * 2) 0 - x) * IntKind.i64.wrap ((flat ps).getD (0 + (↑i : Int).toNat * 2) 0 - x)) + IntKind.i64.wrap (IntKind.i64.wrap ((flat ps).getD (0 + (↑i : Int).toNat * 2 + 1) 0 - y) * IntKind.i64.wrap ((flat ps).getD (0 + (↑i : Int).toNat * 2 + 1) 0 - y))) ≤ n)) (.leaf .normal ⟨(.slice (some ⟨0, 0, none⟩) (ps.length) (ps.length) :: topV :: .int .i64 (n) :: topV :: .pointer (some ⟨3, 0, none⟩) :: topV :: topV :: .int .i64 (IntKind.i64.wrap (o + 1)) :: .int .i64 (IntKind.i64.wrap ((↑i : Int) + 1)) :: topV :: topV :: topV :: topV :: topV :: topV :: topV :: topV :: topV :: topV :: topV :: topV :: topV :: topV :: topV :: topV :: topV :: topV :: topV :: topV :: topV :: topV :: topV :: topV :: topV :: []), [some ⟨.view, .ints (flat ps)⟩, none, none, some ⟨.box, .vals [.int .i64 (x), .int .i64 (y)]⟩]⟩) (.leaf .normal ⟨(.slice (some ⟨0, 0, none⟩) (ps.length) (ps.length) :: topV :: .int .i64 (n) :: topV :: .pointer (some ⟨3, 0, none⟩) :: topV :: topV :: .int .i64 (o) :: .int .i64 (IntKind.i64.wrap ((↑i : Int) + 1)) :: topV :: topV :: topV :: topV :: topV :: topV :: topV :: topV :: topV :: topV :: topV :: topV :: topV :: topV :: topV :: topV :: topV :: topV :: topV :: topV :: topV :: topV :: topV :: topV :: topV :: []), [some ⟨.view, .ints (flat ps)⟩, none, none, some ⟨.box, .vals [.int .i64 (x), .int .i64 (y)]⟩]⟩)))) (.leaf (.exit 0) ⟨(topV :: topV :: topV :: topV :: topV :: topV :: topV :: .int .i64 (o) :: topV :: topV :: topV :: topV :: topV :: topV :: topV :: topV :: topV :: topV :: topV :: topV :: topV :: topV :: topV :: topV :: topV :: topV :: topV :: topV :: topV :: topV :: topV :: topV :: topV :: topV :: []), [some ⟨.view, .ints (flat ps)⟩, none, none, some ⟨.box, .vals [.int .i64 (x), .int .i64 (y)]⟩]⟩) := by kernel_rfl
set_option maxRecDepth 100000 in
theorem nl_specCW : loopsOf c_specCW = [] := by kernel_rfl
def inv_specCW (ps : List Pt) (x y n : Int) : Nat × Int → Prop := fun (i, o) => i ≤ ps.length ∧ 0 ≤ o ∧ o ≤ i
def me_specCW (ps : List Pt) (x y n : Int) : Nat × Int → Nat := fun (i, o) => ps.length - i
/-- A round of this loop. -/
def Round_specCW (ps : List Pt) (x y n : Int) : Prop := ∀ xx : Nat × Int, inv_specCW ps x y n xx → (bodyL Try.prog E3 30 12 noL 1 c_specCW k_specCW 4 (s_specCW ps x y n xx)).ok (RoundEnd 4 (s_specCW ps x y n) (inv_specCW ps x y n) (me_specCW ps x y n) re_specCW (rs_specCW ps x y n) xx) (fun _ _ => False)
def e_specCW (s : St) (k : Ex → St → Tree) : Option Tree := match Nat.beq s.tmps.length 34, pickL s.tmps [0, 2, 4, 7, 8], s.mem with
  | true, [.slice (some ⟨0, 0, none⟩) m _, .int .i64 n, .pointer (some ⟨3, 0, none⟩), .int .i64 o, .int .i64 i], [some ⟨.view, .ints xs⟩, none, none, some ⟨.box, .vals [.int .i64 x, .int .i64 y]⟩] => some (needs [i = 0, o = 0, xs.length = m * 2, m ≤ 20, allV (ptsA m xs) = true, ptB x y = true] (k (.exit 0) ⟨(topV :: topV :: topV :: topV :: topV :: topV :: topV :: .int .i64 (0 + cnt n (x, y) (ptsA m xs)) :: topV :: topV :: topV :: topV :: topV :: topV :: topV :: topV :: topV :: topV :: topV :: topV :: topV :: topV :: topV :: topV :: topV :: topV :: topV :: topV :: topV :: topV :: topV :: topV :: topV :: topV :: []), [some ⟨.view, .ints xs⟩, none, none, some ⟨.box, .vals [.int .i64 x, .int .i64 y]⟩]⟩))
  | _, _, _ => none
set_option maxRecDepth 100000 in
theorem round_specCW (ps : List Pt) (x y n : Int) (h : ps.length ≤ 20) (hv : allV ps = true) (hq : ptB x y = true) : Round_specCW ps x y n := by
  rintro ⟨i, o⟩ ⟨h1, h2, h3⟩
  rw [tr_specCW]
  have b := allV_get hv i
  have hq : -1000 ≤ x ∧ x ≤ 1000 ∧ -1000 ≤ y ∧ y ≤ 1000 := by simpa [ptB] using hq
  have m1 := mul_bd (x := (ps.getD i (0, 0)).1 - x) (y := (ps.getD i (0, 0)).1 - x) 2000 2000 (by omega) (by omega)
  have m2 := mul_bd (x := (ps.getD i (0, 0)).2 - y) (y := (ps.getD i (0, 0)).2 - y) 2000 2000 (by omega) (by omega)
  simp only [brT_ok, Tree.ok, decide_eq_true_eq, decide_eq_false_iff_not, Int.toNat_natCast, Nat.zero_add, flat_length, flat_get0, flat_get1]
  refine ⟨fun hlt => ⟨by omega, by omega, ?_⟩, fun hge => ?_⟩
  · rw [wsucc (n := ps.length) (by omega) (by omega)]
    simp (disch := omega) only [wr]
    refine ⟨fun hle => ?_, fun hle => ?_⟩
    · have hc := cnt_yes (ps := ps) (i := i) (by omega) n (x, y) hle
      refine ⟨(i + 1, o + 1), [], ⟨by omega, by omega, by omega⟩, ?_, rfl, by simp only [rs_specCW, hc]; rw [show o + 1 + cnt n (x, y) (ps.drop (i + 1)) = o + (cnt n (x, y) (ps.drop (i + 1)) + 1) by omega], ?_⟩
      · show ps.length - (i + 1) < ps.length - i; omega
      · repeat' (first | exact True.intro | exact rfl | exact fun _ => rfl | refine And.intro ?_ ?_)
    · have hc := cnt_no (ps := ps) (i := i) (by omega) n (x, y) hle
      refine ⟨(i + 1, o), [], ⟨by omega, by omega, by omega⟩, ?_, rfl, by simp only [rs_specCW, hc], ?_⟩
      · show ps.length - (i + 1) < ps.length - i; omega
      · repeat' (first | exact True.intro | exact rfl | exact fun _ => rfl | refine And.intro ?_ ?_)
  · refine ⟨rfl, [], ?_⟩
    simp only [rs_specCW, cnt_end (ps := ps) (i := i) (by omega) n (x, y), Int.add_zero]
    repeat' (first | exact True.intro | exact rfl | exact fun _ => rfl | refine And.intro ?_ ?_)
set_option maxRecDepth 100000 in
theorem lg_specCW : LoopE Try.prog e_specCW c_specCW := by
  intro s k t F H hlt ht
  unfold e_specCW at hlt
  split at hlt
  rotate_left
  · cases hlt
  rename_i hlen hpick hmem
  obtain ⟨tmps, mem⟩ := s
  simp only at hlen hpick hmem
  subst hmem
  obtain rfl := Option.some.inj hlt
  obtain ⟨⟨rfl, rfl, h1, h3, h4, h5, _⟩, ht2⟩ := needs_ok ht
  clear ht hlt
  obtain ⟨ps, rfl, rfl⟩ := even_flat h1
  rw [ptsA_flat] at ht2 h4
  refine ⟨_, _, ht2, loop_run mixed E3_ok (s_specCW ps _ _ _) (inv_specCW ps _ _ _) (me_specCW ps _ _ _) re_specCW (rs_specCW ps _ _ _) k_specCW (fun _ => rfl) (noLoops nl_specCW) (round_specCW ps _ _ _ h3 h4 h5) (x := (0, 0)) ⟨Nat.zero_le _, Int.le_refl _, Int.le_refl _⟩ (π := []) rfl ?_⟩
  refine ⟨rfl, rfl, ?_, wvs_spread' [0, 2, 4, 7, 8] hlen rfl ?_⟩
  · repeat' (first | exact True.intro | exact rfl | exact wv_top _ _ | exact fun _ => rfl | assumption | exact Eq.symm (by assumption) | exact vI0 rfl | refine And.intro ?_ ?_)
  · rw [hpick]
    repeat' (first | exact True.intro | exact rfl | exact wv_top _ _ | exact fun _ => rfl | assumption | exact Eq.symm (by assumption) | exact vI0 rfl | refine And.intro ?_ ?_)
noncomputable def c_implCW : Code := ((loopsOf (codeOf Try.f20))[0]?).getD .skip
def k_implCW : Ex → List Nat := keeps [2, 4, 7, 18, 19, 20] [(0, [7])] [6]
def s_implCW (ps : List Pt) (x y n : Int) : Nat × Int → St := fun (i, o) => ⟨(topV :: topV :: .int .i64 n :: topV :: .pointer (some ⟨3, 0, none⟩) :: topV :: topV :: .int .i64 o :: topV :: topV :: topV :: topV :: topV :: topV :: topV :: topV :: topV :: topV :: .slice (some ⟨0, 0, none⟩) ps.length ps.length :: .int .i64 ps.length :: .int .i64 i :: topV :: topV :: topV :: topV :: topV :: topV :: topV :: topV :: topV :: topV :: topV :: topV :: []), [some ⟨.view, .ints (flat ps)⟩, none, none, some ⟨.box, .vals [.int .i64 x, .int .i64 y]⟩]⟩
def re_implCW : Nat × Int → Ex := fun _ => .exit 0
def rs_implCW (ps : List Pt) (x y n : Int) : Nat × Int → St := fun (i, o) => ⟨(topV :: topV :: topV :: topV :: topV :: topV :: topV :: .int .i64 (o + cnt n (x, y) (ps.drop i)) :: topV :: topV :: topV :: topV :: topV :: topV :: topV :: topV :: topV :: topV :: topV :: topV :: topV :: topV :: topV :: topV :: topV :: topV :: topV :: topV :: topV :: topV :: topV :: topV :: topV :: []), [some ⟨.view, .ints (flat ps)⟩, none, none, some ⟨.box, .vals [.int .i64 x, .int .i64 y]⟩]⟩
set_option maxRecDepth 100000 in
theorem tr_implCW (ps : List Pt) (x y n : Int) (i : Nat) (o : Int) : bodyL Try.prog E3 30 12 noL 1 c_implCW k_implCW 4 (s_implCW ps x y n (i, o)) = brT (decide ((↑i : Int) < (↑ps.length : Int))) (.need ((0 : Int) ≤ (↑i : Int) ∧ (↑i : Int) < (↑ps.length : Int)) (.need ((0 : Nat) + (↑i : Int).toNat * (2 : Nat) + (2 : Nat) ≤ (flat ps).length) (brT (!(ptB ((flat ps).getD (0 + (↑i : Int).toNat * 2) 0) ((flat ps).getD (0 + (↑i : Int).toNat * 2 + 1) 0) && ptB x y)) (brT (decide (-1 ≤ n)) (.leaf .normal ⟨(topV :: topV :: .int .i64 (n) :: topV :: .pointer (some ⟨3, 0, none⟩) :: topV :: topV :: .int .i64 (IntKind.i64.wrap (o + 1)) :: topV :: topV :: topV :: topV :: topV :: topV :: topV :: topV :: topV :: topV :: .slice (some ⟨0, 0, none⟩) (ps.length) (ps.length) :: .int .i64 ((↑ps.length : Int)) :: .int .i64 (IntKind.i64.wrap ((↑i : Int) + 1)) :: topV :: topV :: topV :: topV :: topV :: topV :: topV :: topV :: topV :: topV :: topV :: topV :: []), [some ⟨.view, .ints (flat ps)⟩, none, none, some ⟨.box, .vals [.int .i64 (x), .int .i64 (y)]⟩]⟩) (.leaf .normal ⟨(topV :: topV :: .int .i64 (n) :: topV :: .pointer (some ⟨3, 0, none⟩) :: topV :: topV :: .int .i64 (o) :: topV :: topV :: topV :: topV :: topV :: topV :: topV :: topV :: topV :: topV :: .slice (some ⟨0, 0, none⟩) (ps.length) (ps.length) :: .int .i64 ((↑ps.length : Int)) :: .int .i64 (IntKind.i64.wrap ((↑i : Int) + 1)) :: topV :: topV :: topV :: topV :: topV :: topV :: topV :: topV :: topV :: topV :: topV :: topV :: []), [some ⟨.view, .ints (flat ps)⟩, none, none, some ⟨.box, .vals [.int .i64 (x), .int .i64 (y)]⟩]⟩)) (brT (decide (IntKind.i64.wrap (IntKind.i64.wrap (IntKind.i64.wrap ((flat ps).getD (0 + (↑i : Int).toNat * 2) 0 - x) * IntKind.i64.wrap ((flat ps).getD (0 + (↑i : Int).toNat * 2) 0 - x)) + IntKind.i64.wrap (IntKind.i64.wrap ((flat ps).getD (0 + (↑i : Int).toNat * 2 + 1) 0 - y) * IntKind.i64.wrap ((flat ps).getD (0 + (↑i : Int).toNat * 2 + 1) 0 - y))) ≤ n)) (.leaf .normal ⟨(topV :: topV :: .int .i64 (n) :: topV :: .pointer (some ⟨3, 0, none⟩) :: topV :: topV :: .int .i64 (IntKind.i64.wrap (o + 1)) :: topV :: topV :: topV :: topV :: topV :: topV :: topV :: topV :: topV :: topV :: .slice (some ⟨0, 0, none⟩) (ps.length) (ps.length) :: .int .i64 ((↑ps.length : Int)) :: .int .i64 (IntKind.i64.wrap ((↑i : Int) + 1)) :: topV :: topV :: topV :: topV :: topV :: topV :: topV :: topV :: topV :: topV :: topV :: topV :: []), [some ⟨.view, .ints (flat ps)⟩, none, none, some ⟨.box, .vals [.int .i64 (x), .int .i64 (y)]⟩]⟩) (.leaf .normal ⟨(topV :: topV :: .int .i64 (n) :: topV :: .pointer (some ⟨3, 0, none⟩) :: topV :: topV :: .int .i64 (o) :: topV :: topV :: topV :: topV :: topV :: topV :: topV :: topV :: topV :: topV :: .slice (some ⟨0, 0, none⟩) (ps.length) (ps.length) :: .int .i64 ((↑ps.length : Int)) :: .int .i64 (IntKind.i64.wrap ((↑i : Int) + 1)) :: topV :: topV :: topV :: topV :: topV :: topV :: topV :: topV :: topV :: topV :: topV :: topV :: []), [some ⟨.view, .ints (flat ps)⟩, none, none, some ⟨.box, .vals [.int .i64 (x), .int .i64 (y)]⟩]⟩))))) (.leaf (.exit 0) ⟨(topV :: topV :: topV :: topV :: topV :: topV :: topV :: .int .i64 (o) :: topV :: topV :: topV :: topV :: topV :: topV :: topV :: topV :: topV :: topV :: topV :: topV :: topV :: topV :: topV :: topV :: topV :: topV :: topV :: topV :: topV :: topV :: topV :: topV :: topV :: []), [some ⟨.view, .ints (flat ps)⟩, none, none, some ⟨.box, .vals [.int .i64 (x), .int .i64 (y)]⟩]⟩) := by kernel_rfl
set_option maxRecDepth 100000 in
theorem nl_implCW : loopsOf c_implCW = [] := by kernel_rfl
def inv_implCW (ps : List Pt) (x y n : Int) : Nat × Int → Prop := fun (i, o) => i ≤ ps.length ∧ 0 ≤ o ∧ o ≤ i
def me_implCW (ps : List Pt) (x y n : Int) : Nat × Int → Nat := fun (i, o) => ps.length - i
/-- A round of this loop. -/
def Round_implCW (ps : List Pt) (x y n : Int) : Prop := ∀ xx : Nat × Int, inv_implCW ps x y n xx → (bodyL Try.prog E3 30 12 noL 1 c_implCW k_implCW 4 (s_implCW ps x y n xx)).ok (RoundEnd 4 (s_implCW ps x y n) (inv_implCW ps x y n) (me_implCW ps x y n) re_implCW (rs_implCW ps x y n) xx) (fun _ _ => False)
def e_implCW (s : St) (k : Ex → St → Tree) : Option Tree := match Nat.beq s.tmps.length 33, pickL s.tmps [2, 4, 7, 18, 19, 20], s.mem with
  | true, [.int .i64 n, .pointer (some ⟨3, 0, none⟩), .int .i64 o, .slice (some ⟨0, 0, none⟩) m _, .int .i64 l, .int .i64 i], [some ⟨.view, .ints xs⟩, none, none, some ⟨.box, .vals [.int .i64 x, .int .i64 y]⟩] => some (needs [i = 0, o = 0, l = m, xs.length = m * 2, m ≤ 20, allV (ptsA m xs) = true, ptB x y = true] (k (.exit 0) ⟨(topV :: topV :: topV :: topV :: topV :: topV :: topV :: .int .i64 (0 + cnt n (x, y) (ptsA m xs)) :: topV :: topV :: topV :: topV :: topV :: topV :: topV :: topV :: topV :: topV :: topV :: topV :: topV :: topV :: topV :: topV :: topV :: topV :: topV :: topV :: topV :: topV :: topV :: topV :: topV :: []), [some ⟨.view, .ints xs⟩, none, none, some ⟨.box, .vals [.int .i64 x, .int .i64 y]⟩]⟩))
  | _, _, _ => none
set_option maxRecDepth 100000 in
theorem round_implCW (ps : List Pt) (x y n : Int) (h : ps.length ≤ 20) (hv : allV ps = true) (hq : ptB x y = true) : Round_implCW ps x y n := by
  rintro ⟨i, o⟩ ⟨h1, h2, h3⟩
  rw [tr_implCW]
  have b := allV_get hv i
  have hpt : ptB (ps.getD i (0, 0)).1 (ps.getD i (0, 0)).2 = true := by simpa [ptB] using b
  have hq2 : -1000 ≤ x ∧ x ≤ 1000 ∧ -1000 ≤ y ∧ y ≤ 1000 := by simpa [ptB] using hq
  have m1 := mul_bd (x := (ps.getD i (0, 0)).1 - x) (y := (ps.getD i (0, 0)).1 - x) 2000 2000 (by omega) (by omega)
  have m2 := mul_bd (x := (ps.getD i (0, 0)).2 - y) (y := (ps.getD i (0, 0)).2 - y) 2000 2000 (by omega) (by omega)
  simp only [Int.toNat_natCast, Nat.zero_add, flat_length, flat_get0, flat_get1, hpt, hq, Bool.and_self, Bool.not_true, brT_f]
  simp only [brT_ok, Tree.ok, decide_eq_true_eq, decide_eq_false_iff_not]
  refine ⟨fun hlt => ⟨by omega, by omega, ?_⟩, fun hge => ?_⟩
  · rw [wsucc (n := ps.length) (by omega) (by omega)]
    simp (disch := omega) only [wr]
    refine ⟨fun hle => ?_, fun hle => ?_⟩
    · have hc := cnt_yes (ps := ps) (i := i) (by omega) n (x, y) hle
      refine ⟨(i + 1, o + 1), [], ⟨by omega, by omega, by omega⟩, ?_, rfl, by simp only [rs_implCW, hc]; rw [show o + 1 + cnt n (x, y) (ps.drop (i + 1)) = o + (cnt n (x, y) (ps.drop (i + 1)) + 1) by omega], ?_⟩
      · show ps.length - (i + 1) < ps.length - i; omega
      · repeat' (first | exact True.intro | exact rfl | exact fun _ => rfl | refine And.intro ?_ ?_)
    · have hc := cnt_no (ps := ps) (i := i) (by omega) n (x, y) hle
      refine ⟨(i + 1, o), [], ⟨by omega, by omega, by omega⟩, ?_, rfl, by simp only [rs_implCW, hc], ?_⟩
      · show ps.length - (i + 1) < ps.length - i; omega
      · repeat' (first | exact True.intro | exact rfl | exact fun _ => rfl | refine And.intro ?_ ?_)
  · refine ⟨rfl, [], ?_⟩
    simp only [rs_implCW, cnt_end (ps := ps) (i := i) (by omega) n (x, y), Int.add_zero]
    repeat' (first | exact True.intro | exact rfl | exact fun _ => rfl | refine And.intro ?_ ?_)
set_option maxRecDepth 100000 in
theorem lg_implCW : LoopE Try.prog e_implCW c_implCW := by
  intro s k t F H hlt ht
  unfold e_implCW at hlt
  split at hlt
  rotate_left
  · cases hlt
  rename_i hlen hpick hmem
  obtain ⟨tmps, mem⟩ := s
  simp only at hlen hpick hmem
  subst hmem
  obtain rfl := Option.some.inj hlt
  obtain ⟨⟨rfl, rfl, rfl, h1, h3, h4, h5, _⟩, ht2⟩ := needs_ok ht
  clear ht hlt
  obtain ⟨ps, rfl, rfl⟩ := even_flat h1
  rw [ptsA_flat] at ht2 h4
  refine ⟨_, _, ht2, loop_run mixed E3_ok (s_implCW ps _ _ _) (inv_implCW ps _ _ _) (me_implCW ps _ _ _) re_implCW (rs_implCW ps _ _ _) k_implCW (fun _ => rfl) (noLoops nl_implCW) (round_implCW ps _ _ _ h3 h4 h5) (x := (0, 0)) ⟨Nat.zero_le _, Int.le_refl _, Int.le_refl _⟩ (π := []) rfl ?_⟩
  refine ⟨rfl, rfl, ?_, wvs_spread' [2, 4, 7, 18, 19, 20] hlen rfl ?_⟩
  · repeat' (first | exact True.intro | exact rfl | exact wv_top _ _ | exact fun _ => rfl | assumption | exact Eq.symm (by assumption) | exact vI0 rfl | refine And.intro ?_ ?_)
  · rw [hpick]
    repeat' (first | exact True.intro | exact rfl | exact wv_top _ _ | exact fun _ => rfl | assumption | exact Eq.symm (by assumption) | exact vI0 rfl | refine And.intro ?_ ?_)
end Go.Proofs.Ytnlciknmpjikgaa
namespace Go.Proofs.Ytnlciknmpjikgaa
set_option linter.all false
open Go.RowKit
def L4 : FuncId → LT := fun f => match f with
  | 25 => lt1 e_toPts
  | 28 => lt1 e_eqPts
  | 21 => lt1 e_specCW
  | 20 => lt1 e_implCW
  | _ => noL
def E4 : Env := mkE (T2) (fun _ _ => none) (L4)
theorem code_of {f : FuncId} {fn g : Func} (h : Try.prog.funcs[f]? = some g) (hf : Try.prog.funcs[f]? = some fn) : g = fn := by rw [h] at hf; simpa using hf
theorem Lr_toPts {fn : Func} (hf : Try.prog.funcs[25]? = some fn) : LoopsGood Try.prog (lt1 e_toPts) 0 (codeOf fn) := by
  obtain rfl := code_of Try.func25 hf
  exact lt1_good lg_toPts
theorem Lr_eqPts {fn : Func} (hf : Try.prog.funcs[28]? = some fn) : LoopsGood Try.prog (lt1 e_eqPts) 0 (codeOf fn) := by
  obtain rfl := code_of Try.func28 hf
  exact lt1_good lg_eqPts
theorem Lr_specCW {fn : Func} (hf : Try.prog.funcs[21]? = some fn) : LoopsGood Try.prog (lt1 e_specCW) 0 (codeOf fn) := by
  obtain rfl := code_of Try.func21 hf
  exact lt1_good lg_specCW
theorem Lr_implCW {fn : Func} (hf : Try.prog.funcs[20]? = some fn) : LoopsGood Try.prog (lt1 e_implCW) 0 (codeOf fn) := by
  obtain rfl := code_of Try.func20 hf
  exact lt1_good lg_implCW
theorem L4_ok : ∀ f fn, Try.prog.funcs[f]? = some fn → LoopsGood Try.prog (L4 f) 0 (codeOf fn) := by
  intro f fn hf
  unfold L4
  split
  all_goals first | with_reducible exact Lr_toPts hf | with_reducible exact Lr_eqPts hf | with_reducible exact Lr_specCW hf | with_reducible exact Lr_implCW hf | exact noL_good
theorem E4_ok : EnvOk Try.prog E4 := mkEOk (T2_ok) (fun _ _ _ _ _ h => (by cases h)) (L4_ok)
set_option maxRecDepth 100000 in
theorem tr_toPointS (ps : List Pt) : bodyX Try.prog E4 30 12 25 [.row ps.length (.ints (flat ps))] = .need ((0 : Int) ≤ (↑ps.length : Int) ∧ (↑ps.length : Int) ≤ (↑ps.length : Int) ∧ (16 : Nat) * (↑ps.length : Int).toNat ≤ (281474976710656 : Nat) ∧ (↑ps.length : Int) ≤ (9223372036854775807 : Int)) (.need ((0 : Int) = (0 : Int)) (.need ((↑ps.length : Int).toNat = ps.length) (.need ((flat ps).length = ps.length * (2 : Nat)) (.need ((List.replicate ((↑ps.length : Int).toNat * (2 : Nat)) (0 : Int)).length = ps.length * (2 : Nat)) (.need (ps.length ≤ (1000000000 : Nat)) (.fin (.slice (some ⟨1, 0, none⟩) ((↑ps.length : Int).toNat) ((↑ps.length : Int).toNat)) [some ⟨.view, .ints (flat ps)⟩, some ⟨.row 31 2, .ints (flat ps)⟩])))))) := by kernel_rfl
set_option maxRecDepth 100000 in
theorem tr_eqPointS (ps qs : List Pt) : bodyX Try.prog E4 30 12 28 [.row ps.length (.ints (flat ps)), .row qs.length (.ints (flat qs))] = brT (!(↑ps.length : Int) == (↑qs.length : Int)) (.fin (.bool (false)) [some ⟨.view, .ints (flat ps)⟩, some ⟨.view, .ints (flat qs)⟩]) (.need ((0 : Int) = (0 : Int)) (.need (qs.length = ps.length) (.need ((flat ps).length = ps.length * (2 : Nat)) (.need ((flat qs).length = ps.length * (2 : Nat)) (.need (ps.length ≤ (1000000000 : Nat)) (brT (eqL (ptsA ps.length (flat ps)) (ptsA ps.length (flat qs))) (.fin (.bool (true)) [some ⟨.view, .ints (flat ps)⟩, some ⟨.view, .ints (flat qs)⟩]) (.fin (.bool (false)) [some ⟨.view, .ints (flat ps)⟩, some ⟨.view, .ints (flat qs)⟩]))))))) := by kernel_rfl
set_option maxRecDepth 100000 in
theorem tr_specCount (ps : List Pt) (x y n : Int) : bodyX Try.prog E4 30 12 21 [.row ps.length (.ints (flat ps)), .v (.agg #[iv x, iv y]), .v (iv n)] = .need (ps.length * (2 : Nat) ≤ (List.drop (0 : Nat) (flat ps)).length) (.need (ps.length ≤ (1000000000 : Nat)) (brT (!okL (ptsA ps.length (List.drop 0 (flat ps)))) (.fin (.int .i64 (-1)) [some ⟨.view, .ints (flat ps)⟩, none, none, some ⟨.box, .vals [.int .i64 (x), .int .i64 (y)]⟩]) (brT (!ptB x y) (.fin (.int .i64 (-1)) [some ⟨.view, .ints (flat ps)⟩, none, none, some ⟨.box, .vals [.int .i64 (x), .int .i64 (y)]⟩]) (.need ((0 : Int) = (0 : Int)) (.need ((0 : Int) = (0 : Int)) (.need ((flat ps).length = ps.length * (2 : Nat)) (.need (ps.length ≤ (20 : Nat)) (.need (allV (ptsA ps.length (flat ps)) = true) (.need (ptB x y = true) (.fin (.int .i64 (0 + cnt n (x, y) (ptsA ps.length (flat ps)))) [some ⟨.view, .ints (flat ps)⟩, none, none, some ⟨.box, .vals [.int .i64 (x), .int .i64 (y)]⟩])))))))))) := by kernel_rfl
set_option maxRecDepth 100000 in
theorem tr_implCount (ps : List Pt) (x y n : Int) : bodyX Try.prog E4 30 12 20 [.row ps.length (.ints (flat ps)), .v (.agg #[iv x, iv y]), .v (iv n)] = brT (decide ((↑ps.length : Int) ≤ 20)) (.need (ps.length * (2 : Nat) ≤ (List.drop (0 : Nat) (flat ps)).length) (.need (ps.length ≤ (1000000000 : Nat)) (brT (!allV (ptsA ps.length (List.drop 0 (flat ps)))) (.fin (.int .i64 (-1)) [some ⟨.view, .ints (flat ps)⟩, none, none, some ⟨.box, .vals [.int .i64 (x), .int .i64 (y)]⟩]) (brT (!ptB x y) (.fin (.int .i64 (-1)) [some ⟨.view, .ints (flat ps)⟩, none, none, some ⟨.box, .vals [.int .i64 (x), .int .i64 (y)]⟩]) (.need ((0 : Int) = (0 : Int)) (.need ((0 : Int) = (0 : Int)) (.need ((↑ps.length : Int) = (↑ps.length : Int)) (.need ((flat ps).length = ps.length * (2 : Nat)) (.need (ps.length ≤ (20 : Nat)) (.need (allV (ptsA ps.length (flat ps)) = true) (.need (ptB x y = true) (.fin (.int .i64 (0 + cnt n (x, y) (ptsA ps.length (flat ps)))) [some ⟨.view, .ints (flat ps)⟩, none, none, some ⟨.box, .vals [.int .i64 (x), .int .i64 (y)]⟩])))))))))))) (.fin (.int .i64 (-1)) [some ⟨.view, .ints (flat ps)⟩, none, none, some ⟨.box, .vals [.int .i64 (x), .int .i64 (y)]⟩]) := by kernel_rfl
theorem resR_toPointS (ps : List Pt) (h : Big ps) : ResR Try.prog 25 [.row ps.length (.ints (flat ps))] (.slice (some ⟨0, 0, none⟩) ps.length ps.length) ⟨.row 31 2, .ints (flat ps)⟩ := by
  refine bodyX_resR mixed E4_ok (m := 30) (n := 12) rfl ?_
  rw [tr_toPointS]
  unfold Big at h
  simp only [Tree.ok, flat_length, Int.toNat_natCast, List.length_replicate]
  exact ⟨by omega, trivial, trivial, trivial, trivial, h, some 1, ⟨rfl, rfl, rfl⟩, rfl, rfl, rfl⟩
theorem res_eqPointS (ps qs : List Pt) (h : Big ps) : Res Try.prog 28 [.row ps.length (.ints (flat ps)), .row qs.length (.ints (flat qs))] (.bool (eqL ps qs)) := by
  refine bodyX_res mixed E4_ok (m := 30) (n := 12) rfl ?_
  rw [tr_eqPointS]
  unfold Big at h
  by_cases hl : ps.length = qs.length
  · have e : ptsA ps.length (flat qs) = qs := by rw [hl, ptsA_flat]
    rw [e, ptsA_flat, show (!((ps.length : Int) == (qs.length : Int))) = false by simp [hl]]
    simp only [brT_f, Tree.ok, flat_length]
    refine ⟨trivial, hl.symm, trivial, by omega, h, ?_⟩
    cases eqL ps qs <;> rfl
  · have e : eqL ps qs = false := by
      unfold eqL
      rw [decide_eq_false_iff_not]
      rintro rfl
      exact hl rfl
    rw [show (!((ps.length : Int) == (qs.length : Int))) = true by simp; omega]
    simp only [brT_t, Tree.ok, e]
def cwV (ps : List Pt) (x y n : Int) : Int := bif okL ps && ptB x y then cnt n (x, y) ps else -1
theorem res_specCount (ps : List Pt) (x y n : Int) (h : Big ps) : Res Try.prog 21 [.row ps.length (.ints (flat ps)), .v (.agg #[iv x, iv y]), .v (iv n)] (iv (cwV ps x y n)) := by
  refine bodyX_res mixed E4_ok (m := 30) (n := 12) rfl ?_
  rw [tr_specCount]
  unfold Big at h
  simp only [List.drop_zero, ptsA_flat, flat_length, Int.zero_add]
  unfold cwV
  cases hk : okL ps
  · simp [Tree.ok, brT, h]
  · simp only [okL, Bool.and_eq_true, decide_eq_true_eq] at hk
    cases hq : ptB x y <;> simp [Tree.ok, brT, h, hk]
theorem res_implCount (ps : List Pt) (x y n : Int) (h : Big ps) : Res Try.prog 20 [.row ps.length (.ints (flat ps)), .v (.agg #[iv x, iv y]), .v (iv n)] (iv (cwV ps x y n)) := by
  refine bodyX_res mixed E4_ok (m := 30) (n := 12) rfl ?_
  rw [tr_implCount]
  unfold Big at h
  simp only [List.drop_zero, ptsA_flat, flat_length, Int.zero_add]
  unfold cwV okL
  by_cases hl : ps.length ≤ 20
  · have hl2 : (ps.length : Int) ≤ 20 := by omega
    cases hk : allV ps <;> cases hq : ptB x y <;> simp [Tree.ok, brT, h, hl, hl2]
  · have hl2 : ¬ (ps.length : Int) ≤ 20 := by omega
    simp [Tree.ok, brT, hl, hl2]
def pCW : List DArg → Option (Value × List Prop)
  | [.row m (.ints xs), .v (.agg ⟨[.int .i64 x, .int .i64 y]⟩), .v (.int .i64 n)] => some (iv (cwV (ptsA m xs) x y n), [m * 2 ≤ xs.length, m ≤ 1000000000])
  | _ => none
def pEq2 : List DArg → Option (Value × List Prop)
  | [.row m (.ints xs), .row n (.ints ys)] => some (.bool (eqL (ptsA m xs) (ptsA n ys)), [m * 2 ≤ xs.length, n * 2 ≤ ys.length, m ≤ 1000000000])
  | _ => none
def T3 : Tab := fun f ds => match f with
  | 28 => pEq2 ds
  | 21 => pCW ds
  | 20 => pCW ds
  | f => T2 f ds
theorem pCW_ok {f : FuncId} (h : ∀ (ps : List Pt) (x y n : Int), Big ps → Res Try.prog f [.row ps.length (.ints (flat ps)), .v (.agg #[iv x, iv y]), .v (iv n)] (iv (cwV ps x y n))) {ds : List DArg} {v : Value} {C : List Prop} (hd : pCW ds = some (v, C)) (hC : AllP C) : Res Try.prog f ds v := by
  unfold pCW at hd
  split at hd
  · rename_i m xs x y n
    obtain ⟨rfl, rfl⟩ : _ ∧ _ := by simpa using hd
    obtain ⟨_, h2⟩ := ptsA_spec hC.1
    exact res_pts1 (pre := []) (post := [_, _]) hC.1 (h (ptsA m xs) x y n (by unfold Big; rw [h2]; exact hC.2.1))
  · cases hd
theorem pEq2_ok {ds : List DArg} {v : Value} {C : List Prop} (h : pEq2 ds = some (v, C)) (hC : AllP C) : Res Try.prog 28 ds v := by
  unfold pEq2 at h
  split at h
  · rename_i m xs n ys
    obtain ⟨rfl, rfl⟩ : _ ∧ _ := by simpa using h
    obtain ⟨_, h2⟩ := ptsA_spec hC.1
    have h0 := res_eqPointS (ptsA m xs) (ptsA n ys) (by unfold Big; rw [h2]; exact hC.2.2.1)
    exact res_pts1 (pre := []) (post := [_]) hC.1 (res_pts1 (pre := [_]) (post := []) hC.2.1 h0)
  · cases h
theorem pCWs_ok {ds : List DArg} {v : Value} {C : List Prop} (h : pCW ds = some (v, C)) (hC : AllP C) : Res Try.prog 21 ds v := pCW_ok res_specCount h hC
theorem pCWi_ok {ds : List DArg} {v : Value} {C : List Prop} (h : pCW ds = some (v, C)) (hC : AllP C) : Res Try.prog 20 ds v := pCW_ok res_implCount h hC
theorem T3_ok : TabOk Try.prog T3 := by
  intro f ds v C h hC
  unfold T3 at h
  (try split at h)
  all_goals first | with_reducible exact pEq2_ok h hC | with_reducible exact pCWs_ok h hC | with_reducible exact pCWi_ok h hC | exact T2_ok _ _ _ _ h hC
def R4 : TabR := fun f ds => match f, ds with
  | 25, [.row n (.ints xs)] => some (.slice (some ⟨0, 0, none⟩) n n, ⟨.row 31 2, .ints (xs.take (n * 2))⟩, [n * 2 ≤ xs.length, n ≤ 1000000000])
  | _, _ => none
theorem R4_ok : TabROk Try.prog R4 := by
  intro f ds v b C h hC
  unfold R4 at h
  (try split at h)
  all_goals first
    | (rename_i n xs
       obtain ⟨rfl, rfl, rfl⟩ : _ ∧ _ ∧ _ := by simpa using h
       obtain ⟨h1, h2⟩ := ptsA_spec hC.1
       have h0 := resR_toPointS (ptsA n xs) (by unfold Big; rw [h2]; exact hC.2.1)
       have h3 := resR_pts1 (pre := []) (post := []) hC.1 h0
       rw [h2, ← h1] at h3
       exact h3)
    | cases h
end Go.Proofs.Ytnlciknmpjikgaa
namespace Go.Proofs.Ytnlciknmpjikgaa
set_option linter.all false
open Go.RowKit
def EM : Env := mkE B0 (fun _ _ => none) (fun _ => noL)
theorem EM_ok : EnvOk Try.prog EM := mkEOk B0_ok (fun _ _ _ _ _ h => (by cases h)) (fun _ _ _ => noL_good)
theorem setInts_one (xs : List Int) (i : Nat) (h : i < xs.length) (a : Int) : setInts xs i [a] = xs.set i a := by
  unfold setInts
  rw [List.set_eq_take_append_cons_drop, if_pos h]
  simp
theorem vI0 {k : Int} {n : Nat} (h : n = 0) : Value.int .i64 k = .int .i64 (k + (n : Int)) := by subst h; simp
end Go.Proofs.Ytnlciknmpjikgaa
namespace Go.Proofs.Ytnlciknmpjikgaa
set_option linter.all false
open Go.RowKit
theorem fn_is {f : FuncId} {fn g : Func} (h : Try.prog.funcs[f]? = some g) (hf : Try.prog.funcs[f]? = some fn) : g = fn := by rw [h] at hf; simpa using hf
end Go.Proofs.Ytnlciknmpjikgaa
namespace Go.Proofs.Ytnlciknmpjikgaa
set_option linter.all false
open Go.RowKit
def evB (n : Nat) (e : Pt) : Bool := (decide (0 ≤ e.1) && decide (e.1 < n)) && (decide (0 ≤ e.2) && decide (e.2 < n))
def mhP (p q : Pt) : Int := ((p.1 - q.1).natAbs : Int) + ((p.2 - q.2).natAbs : Int)
def evA (n : Nat) (es : List Pt) : Bool := es.all (evB n)
/-- The length of an edge. -/
def edL (ps : List Pt) (e : Pt) : Int := mhP (ps.getD e.1.toNat (0, 0)) (ps.getD e.2.toNat (0, 0))
theorem edL_bd {ps : List Pt} (hv : allV ps = true) (e : Pt) : 0 ≤ edL ps e ∧ edL ps e ≤ 4000 := by
  have a := allV_get hv e.1.toNat
  have b := allV_get hv e.2.toNat
  unfold edL mhP
  omega
def TTl : Tab := fun f ds => match f with
  | 109 => pMh ds
  | f => T3 f ds
theorem TTl_ok : TabOk Try.prog TTl := by
  intro f ds v C h hC
  unfold TTl at h
  (try split at h)
  all_goals first | with_reducible exact pMhI_ok h | exact T3_ok _ _ _ _ h hC
def ETl0 : Env := mkE TTl (fun _ _ => none) (fun _ => noL)
theorem ETl0_ok : EnvOk Try.prog ETl0 := mkEOk TTl_ok (fun _ _ _ _ _ h => (by cases h)) (fun _ _ _ => noL_good)
noncomputable def c_toPr : Code := ((loopsOf (codeOf Try.f26))[0]?).getD .skip
def k_toPr : Ex → List Nat := keeps [0, 3, 4] [(0, [3])] [2]
def s_toPr (ps : List Pt) (n : Nat) : Nat × (List Pt) → St := fun (i, qs) => ⟨[.slice (some ⟨0, 0, none⟩) ps.length ps.length, topV, topV, .slice (some ⟨1, 0, none⟩) n n, .int .i64 i, topV, topV, topV, topV, topV, topV, topV, topV, topV, topV, topV, topV, topV, topV, topV, topV, topV, topV], [some ⟨.view, .ints (flat ps)⟩, some ⟨.row 71 2, .ints (flat qs)⟩]⟩
def re_toPr : Nat × (List Pt) → Ex := fun _ => .exit 0
def rs_toPr (ps : List Pt) (n : Nat) : Nat × (List Pt) → St := fun (i, qs) => ⟨[topV, topV, topV, .slice (some ⟨1, 0, none⟩) n n, topV, topV, topV, topV, topV, topV, topV, topV, topV, topV, topV, topV, topV, topV, topV, topV, topV, topV, topV], [some ⟨.view, .ints (flat ps)⟩, some ⟨.row 71 2, .ints (flat ps)⟩]⟩
set_option maxRecDepth 100000 in
theorem tr_toPr (ps : List Pt) (n : Nat) (i : Nat) (qs : List Pt) : bodyL Try.prog EM 30 12 noL 1 c_toPr k_toPr 2 (s_toPr ps n (i, qs)) = brT (decide ((↑i : Int) < (↑ps.length : Int))) (.need ((0 : Int) ≤ (↑i : Int) ∧ (↑i : Int) < (↑ps.length : Int)) (.need ((0 : Nat) + (↑i : Int).toNat * (2 : Nat) + (2 : Nat) ≤ (flat ps).length) (.need ((0 : Int) ≤ (↑i : Int) ∧ (↑i : Int) < (↑n : Int)) (.need ((0 : Nat) + (↑i : Int).toNat * (2 : Nat) + (2 : Nat) ≤ (flat qs).length) (.leaf .normal ⟨[.slice (some ⟨0, 0, none⟩) (ps.length) (ps.length), topV, topV, .slice (some ⟨1, 0, none⟩) (n) (n), .int .i64 (IntKind.i64.wrap ((↑i : Int) + 1)), topV, topV, topV, topV, topV, topV, topV, topV, topV, topV, topV, topV, topV, topV, topV, topV, topV, topV], [some ⟨.view, .ints (flat ps)⟩, some ⟨.row 71 2, .ints (setInts (flat qs) (0 + (↑i : Int).toNat * 2) [(flat ps).getD (0 + (↑i : Int).toNat * 2) 0, (flat ps).getD (0 + (↑i : Int).toNat * 2 + 1) 0])⟩]⟩))))) (.leaf (.exit 0) ⟨[topV, topV, topV, .slice (some ⟨1, 0, none⟩) (n) (n), topV, topV, topV, topV, topV, topV, topV, topV, topV, topV, topV, topV, topV, topV, topV, topV, topV, topV, topV], [some ⟨.view, .ints (flat ps)⟩, some ⟨.row 71 2, .ints (flat qs)⟩]⟩) := by kernel_rfl
set_option maxRecDepth 100000 in
theorem nl_toPr : loopsOf c_toPr = [] := by kernel_rfl
def inv_toPr (ps : List Pt) (n : Nat) : Nat × (List Pt) → Prop := fun (i, qs) => i ≤ ps.length ∧ ps.length = n ∧ qs.length = n ∧ qs.take i = ps.take i
def me_toPr (ps : List Pt) (n : Nat) : Nat × (List Pt) → Nat := fun (i, qs) => ps.length - i
/-- A round of this loop. -/
def Round_toPr (ps : List Pt) (n : Nat) : Prop := ∀ xx : Nat × (List Pt), inv_toPr ps n xx → (bodyL Try.prog EM 30 12 noL 1 c_toPr k_toPr 2 (s_toPr ps n xx)).ok (RoundEnd 2 (s_toPr ps n) (inv_toPr ps n) (me_toPr ps n) re_toPr (rs_toPr ps n) xx) (fun _ _ => False)
def e_toPr (s : St) (k : Ex → St → Tree) : Option Tree := match Nat.beq s.tmps.length 23, pickL s.tmps [0, 3, 4], s.mem with
  | true, [.slice (some ⟨0, 0, none⟩) n _, .slice (some ⟨1, 0, none⟩) m _, .int .i64 i], [some ⟨.view, .ints xs⟩, some ⟨.row 71 2, .ints ys⟩] => some (needs [i = 0, m = n, xs.length = n * 2, ys.length = n * 2, n ≤ 1000000000] (k (.exit 0) ⟨[topV, topV, topV, .slice (some ⟨1, 0, none⟩) m m, topV, topV, topV, topV, topV, topV, topV, topV, topV, topV, topV, topV, topV, topV, topV, topV, topV, topV, topV], [some ⟨.view, .ints xs⟩, some ⟨.row 71 2, .ints xs⟩]⟩))
  | _, _, _ => none
set_option maxRecDepth 100000 in
theorem round_toPr (ps : List Pt) (n : Nat) (h : ps.length ≤ 1000000000) : Round_toPr ps n := by
  rintro ⟨i, qs⟩ ⟨h1, h2, h3, h4⟩
  rw [tr_toPr]
  simp only [brT_ok, Tree.ok, decide_eq_true_eq, decide_eq_false_iff_not, Int.toNat_natCast, Nat.zero_add, flat_length, flat_get0, flat_get1, Cs.size]
  refine ⟨fun hlt => ⟨by omega, by omega, by omega, by omega, ?_⟩, fun hge => ?_⟩
  · rw [wsucc (n := ps.length) (by omega) h, flat_set qs i (by omega)]
    refine ⟨(i + 1, qs.set i (ps.getD i (0, 0))), [], ⟨by omega, h2, by simp [h3], ?_⟩, ?_, rfl, rfl, ?_⟩
    · exact take_set_succ (by omega) (by omega) h4 _
    · show ps.length - (i + 1) < ps.length - i; omega
    · repeat' (first | exact True.intro | exact rfl | exact fun _ => rfl | refine And.intro ?_ ?_)
  · have e : qs = ps := by
      rw [List.take_of_length_le (by omega), List.take_of_length_le (by omega)] at h4
      exact h4
    subst e
    refine ⟨rfl, [], ?_⟩
    repeat' (first | exact True.intro | exact rfl | exact fun _ => rfl | refine And.intro ?_ ?_)
set_option maxRecDepth 100000 in
theorem lg_toPr : LoopE Try.prog e_toPr c_toPr := by
  intro s k t F H hlt ht
  unfold e_toPr at hlt
  split at hlt
  rotate_left
  · cases hlt
  rename_i hlen hpick hmem
  obtain ⟨tmps, mem⟩ := s
  simp only at hlen hpick hmem
  subst hmem
  obtain rfl := Option.some.inj hlt
  obtain ⟨⟨rfl, rfl, h1, h2, h3, _⟩, ht2⟩ := needs_ok ht
  clear ht hlt
  obtain ⟨ps, rfl, rfl⟩ := even_flat h1
  obtain ⟨qs, rfl, hq⟩ := even_flat h2
  refine ⟨_, _, ht2, loop_run mixed EM_ok (s_toPr ps ps.length) (inv_toPr ps ps.length) (me_toPr ps ps.length) re_toPr (rs_toPr ps ps.length) k_toPr (fun _ => rfl) (noLoops nl_toPr) (round_toPr ps ps.length h3) (x := (0, qs)) ⟨Nat.zero_le _, rfl, hq, rfl⟩ (π := []) rfl ?_⟩
  refine ⟨rfl, rfl, ?_, wvs_spread' [0, 3, 4] hlen rfl ?_⟩
  · repeat' (first | exact True.intro | exact rfl | exact wv_top _ _ | exact fun _ => rfl | assumption | exact Eq.symm (by assumption) | exact vI0 rfl | refine And.intro ?_ ?_)
  · rw [hpick]
    repeat' (first | exact True.intro | exact rfl | exact wv_top _ _ | exact fun _ => rfl | assumption | exact Eq.symm (by assumption) | exact vI0 rfl | refine And.intro ?_ ?_)
noncomputable def c_eqPr : Code := ((loopsOf (codeOf Try.f29))[0]?).getD .skip
def k_eqPr : Ex → List Nat := keeps [0, 1, 5] [(0, [])] [4]
def s_eqPr (ps : List Pt) : Nat → St := fun i => ⟨[.slice (some ⟨0, 0, none⟩) ps.length ps.length, .slice (some ⟨1, 0, none⟩) ps.length ps.length, topV, topV, topV, .int .i64 i, topV, topV, topV, topV, topV, topV, topV, topV, topV, topV, topV, topV, topV, topV, topV, topV, topV, topV, topV, topV, topV], [some ⟨.view, .ints (flat ps)⟩, some ⟨.view, .ints (flat ps)⟩]⟩
def re_eqPr : Nat → Ex := fun _ => .exit 0
def rs_eqPr (ps : List Pt) : Nat → St := fun i => ⟨[topV, topV, topV, topV, topV, topV, topV, topV, topV, topV, topV, topV, topV, topV, topV, topV, topV, topV, topV, topV, topV, topV, topV, topV, topV, topV, topV], [some ⟨.view, .ints (flat ps)⟩, some ⟨.view, .ints (flat ps)⟩]⟩
set_option maxRecDepth 100000 in
theorem tr_eqPr (ps : List Pt) (i : Nat) : bodyL Try.prog EM 30 12 noL 1 c_eqPr k_eqPr 2 (s_eqPr ps i) = brT (decide ((↑i : Int) < (↑ps.length : Int))) (brT (!(flat ps).getD (0 + (↑i : Int).toNat * 2) 0 == (flat ps).getD (0 + (↑i : Int).toNat * 2) 0) (.need ((0 : Int) ≤ (↑i : Int) ∧ (↑i : Int) < (↑ps.length : Int)) (.need ((0 : Nat) + (↑i : Int).toNat * (2 : Nat) + (2 : Nat) ≤ (flat ps).length) (.need ((0 : Int) ≤ (↑i : Int) ∧ (↑i : Int) < (↑ps.length : Int)) (.need ((0 : Nat) + (↑i : Int).toNat * (2 : Nat) + (2 : Nat) ≤ (flat ps).length) (.leaf .ret ⟨[topV, topV, topV, topV, .bool (false), topV, topV, topV, topV, topV, topV, topV, topV, topV, topV, topV, topV, topV, topV, topV, topV, topV, topV, topV, topV, topV, topV], [some ⟨.view, .ints (flat ps)⟩, some ⟨.view, .ints (flat ps)⟩]⟩))))) (brT (!(flat ps).getD (0 + (↑i : Int).toNat * 2 + 1) 0 == (flat ps).getD (0 + (↑i : Int).toNat * 2 + 1) 0) (.need ((0 : Int) ≤ (↑i : Int) ∧ (↑i : Int) < (↑ps.length : Int)) (.need ((0 : Nat) + (↑i : Int).toNat * (2 : Nat) + (2 : Nat) ≤ (flat ps).length) (.need ((0 : Int) ≤ (↑i : Int) ∧ (↑i : Int) < (↑ps.length : Int)) (.need ((0 : Nat) + (↑i : Int).toNat * (2 : Nat) + (2 : Nat) ≤ (flat ps).length) (.leaf .ret ⟨[topV, topV, topV, topV, .bool (false), topV, topV, topV, topV, topV, topV, topV, topV, topV, topV, topV, topV, topV, topV, topV, topV, topV, topV, topV, topV, topV, topV], [some ⟨.view, .ints (flat ps)⟩, some ⟨.view, .ints (flat ps)⟩]⟩))))) (.need ((0 : Int) ≤ (↑i : Int) ∧ (↑i : Int) < (↑ps.length : Int)) (.need ((0 : Nat) + (↑i : Int).toNat * (2 : Nat) + (2 : Nat) ≤ (flat ps).length) (.need ((0 : Int) ≤ (↑i : Int) ∧ (↑i : Int) < (↑ps.length : Int)) (.need ((0 : Nat) + (↑i : Int).toNat * (2 : Nat) + (2 : Nat) ≤ (flat ps).length) (.leaf .normal ⟨[.slice (some ⟨0, 0, none⟩) (ps.length) (ps.length), .slice (some ⟨1, 0, none⟩) (ps.length) (ps.length), topV, topV, topV, .int .i64 (IntKind.i64.wrap ((↑i : Int) + 1)), topV, topV, topV, topV, topV, topV, topV, topV, topV, topV, topV, topV, topV, topV, topV, topV, topV, topV, topV, topV, topV], [some ⟨.view, .ints (flat ps)⟩, some ⟨.view, .ints (flat ps)⟩]⟩))))))) (.leaf (.exit 0) ⟨[topV, topV, topV, topV, topV, topV, topV, topV, topV, topV, topV, topV, topV, topV, topV, topV, topV, topV, topV, topV, topV, topV, topV, topV, topV, topV, topV], [some ⟨.view, .ints (flat ps)⟩, some ⟨.view, .ints (flat ps)⟩]⟩) := by kernel_rfl
set_option maxRecDepth 100000 in
theorem nl_eqPr : loopsOf c_eqPr = [] := by kernel_rfl
def inv_eqPr (ps : List Pt) : Nat → Prop := fun i => i ≤ ps.length
def me_eqPr (ps : List Pt) : Nat → Nat := fun i => ps.length - i
/-- A round of this loop. -/
def Round_eqPr (ps : List Pt) : Prop := ∀ xx : Nat, inv_eqPr ps xx → (bodyL Try.prog EM 30 12 noL 1 c_eqPr k_eqPr 2 (s_eqPr ps xx)).ok (RoundEnd 2 (s_eqPr ps) (inv_eqPr ps) (me_eqPr ps) re_eqPr (rs_eqPr ps) xx) (fun _ _ => False)
def e_eqPr (s : St) (k : Ex → St → Tree) : Option Tree := match Nat.beq s.tmps.length 27, pickL s.tmps [0, 1, 5], s.mem with
  | true, [.slice (some ⟨0, 0, none⟩) n _, .slice (some ⟨1, 0, none⟩) m _, .int .i64 i], [some ⟨.view, .ints xs⟩, some ⟨.view, .ints ys⟩] => some (needs [i = 0, m = n, ys = xs, xs.length = n * 2, n ≤ 1000000000] (k (.exit 0) ⟨[topV, topV, topV, topV, topV, topV, topV, topV, topV, topV, topV, topV, topV, topV, topV, topV, topV, topV, topV, topV, topV, topV, topV, topV, topV, topV, topV], [some ⟨.view, .ints xs⟩, some ⟨.view, .ints xs⟩]⟩))
  | _, _, _ => none
set_option maxRecDepth 100000 in
theorem round_eqPr (ps : List Pt) (h : ps.length ≤ 1000000000) : Round_eqPr ps := by
  intro i h1
  have h1 : i ≤ ps.length := h1
  rw [tr_eqPr]
  simp only [beq_self_eq_true, Bool.not_true, brT_f, brT_ok, Tree.ok, decide_eq_true_eq, decide_eq_false_iff_not, Int.toNat_natCast, Nat.zero_add, flat_length]
  refine ⟨fun hlt => ?_, fun hge => ?_⟩
  · rw [wsucc (n := ps.length) (by omega) h]
    refine ⟨by omega, by omega, by omega, by omega, i + 1, [], ?_, ?_, rfl, rfl, ?_⟩
    · show i + 1 ≤ ps.length; omega
    · show ps.length - (i + 1) < ps.length - i; omega
    · repeat' (first | exact True.intro | exact rfl | exact fun _ => rfl | refine And.intro ?_ ?_)
  · refine ⟨rfl, [], ?_⟩
    repeat' (first | exact True.intro | exact rfl | exact fun _ => rfl | refine And.intro ?_ ?_)
set_option maxRecDepth 100000 in
theorem lg_eqPr : LoopE Try.prog e_eqPr c_eqPr := by
  intro s k t F H hlt ht
  unfold e_eqPr at hlt
  split at hlt
  rotate_left
  · cases hlt
  rename_i hlen hpick hmem
  obtain ⟨tmps, mem⟩ := s
  simp only at hlen hpick hmem
  subst hmem
  obtain rfl := Option.some.inj hlt
  obtain ⟨⟨rfl, rfl, rfl, h1, h2, _⟩, ht2⟩ := needs_ok ht
  clear ht hlt
  obtain ⟨ps, rfl, rfl⟩ := even_flat h1
  refine ⟨_, _, ht2, loop_run mixed EM_ok (s_eqPr _) (inv_eqPr _) (me_eqPr _) re_eqPr (rs_eqPr _) k_eqPr (fun _ => rfl) (noLoops nl_eqPr) (round_eqPr _ h2) (x := 0) (Nat.zero_le _) (π := []) rfl ?_⟩
  refine ⟨rfl, rfl, ?_, wvs_spread' [0, 1, 5] hlen rfl ?_⟩
  · repeat' (first | exact True.intro | exact rfl | exact wv_top _ _ | exact fun _ => rfl | assumption | exact Eq.symm (by assumption) | exact vI0 rfl | refine And.intro ?_ ?_)
  · rw [hpick]
    repeat' (first | exact True.intro | exact rfl | exact wv_top _ _ | exact fun _ => rfl | assumption | exact Eq.symm (by assumption) | exact vI0 rfl | refine And.intro ?_ ?_)
noncomputable def c_aEd : Code := ((loopsOf (codeOf Try.f65))[0]?).getD .skip
def k_aEd : Ex → List Nat := keeps [0, 7, 8, 9] [(0, [])] [4]
def s_aEd (ps es : List Pt) : Nat → St := fun i => ⟨[.slice (some ⟨0, 0, none⟩) ps.length ps.length, topV, topV, topV, topV, topV, topV, .slice (some ⟨1, 0, none⟩) es.length es.length, .int .i64 es.length, .int .i64 i, topV, topV, topV, topV, topV, topV, topV, topV, topV, topV, topV, topV, topV], [some ⟨.view, .ints (flat ps)⟩, some ⟨.view, .ints (flat es)⟩]⟩
def re_aEd (ps es : List Pt) : Nat → Ex := fun i => bif evA ps.length (es.drop i) then .exit 0 else .ret
def rs_aEd (ps es : List Pt) : Nat → St := fun i => bif evA ps.length (es.drop i) then ⟨[topV, topV, topV, topV, topV, topV, topV, topV, topV, topV, topV, topV, topV, topV, topV, topV, topV, topV, topV, topV, topV, topV, topV], [some ⟨.view, .ints (flat ps)⟩, some ⟨.view, .ints (flat es)⟩]⟩ else ⟨[topV, topV, topV, topV, .bool false, topV, topV, topV, topV, topV, topV, topV, topV, topV, topV, topV, topV, topV, topV, topV, topV, topV, topV], [some ⟨.view, .ints (flat ps)⟩, some ⟨.view, .ints (flat es)⟩]⟩
set_option maxRecDepth 100000 in
theorem tr_aEd (ps es : List Pt) (i : Nat) : bodyL Try.prog ETl0 30 12 noL 1 c_aEd k_aEd 2 (s_aEd ps es i) = brT (decide ((↑i : Int) < (↑es.length : Int))) (.need ((0 : Int) ≤ (↑i : Int) ∧ (↑i : Int) < (↑es.length : Int)) (.need ((0 : Nat) + (↑i : Int).toNat * (2 : Nat) + (2 : Nat) ≤ (flat es).length) (.need ((0 : Int) ≤ (0 : Int) ∧ (0 : Int) < (↑(2 : Nat) : Int)) (brT (decide ((flat es).getD (0 + (↑i : Int).toNat * 2) 0 < 0)) (.leaf .ret ⟨[topV, topV, topV, topV, .bool (false), topV, topV, topV, topV, topV, topV, topV, topV, topV, topV, topV, topV, topV, topV, topV, topV, topV, topV], [some ⟨.view, .ints (flat ps)⟩, some ⟨.view, .ints (flat es)⟩]⟩) (brT (decide ((↑ps.length : Int) ≤ (flat es).getD (0 + (↑i : Int).toNat * 2) 0)) (.leaf .ret ⟨[topV, topV, topV, topV, .bool (false), topV, topV, topV, topV, topV, topV, topV, topV, topV, topV, topV, topV, topV, topV, topV, topV, topV, topV], [some ⟨.view, .ints (flat ps)⟩, some ⟨.view, .ints (flat es)⟩]⟩) (.need ((0 : Int) ≤ IntKind.i64.wrap ((0 : Int) + (1 : Int)) ∧ IntKind.i64.wrap ((0 : Int) + (1 : Int)) < (↑(2 : Nat) : Int)) (brT (decide ((flat es).getD (0 + (↑i : Int).toNat * 2 + 1) 0 < 0)) (.leaf .ret ⟨[topV, topV, topV, topV, .bool (false), topV, topV, topV, topV, topV, topV, topV, topV, topV, topV, topV, topV, topV, topV, topV, topV, topV, topV], [some ⟨.view, .ints (flat ps)⟩, some ⟨.view, .ints (flat es)⟩]⟩) (brT (decide ((↑ps.length : Int) ≤ (flat es).getD (0 + (↑i : Int).toNat * 2 + 1) 0)) (.leaf .ret ⟨[topV, topV, topV, topV, .bool (false), topV, topV, topV, topV, topV, topV, topV, topV, topV, topV, topV, topV, topV, topV, topV, topV, topV, topV], [some ⟨.view, .ints (flat ps)⟩, some ⟨.view, .ints (flat es)⟩]⟩) (.leaf .normal ⟨[.slice (some ⟨0, 0, none⟩) (ps.length) (ps.length), topV, topV, topV, topV, topV, topV, .slice (some ⟨1, 0, none⟩) (es.length) (es.length), .int .i64 ((↑es.length : Int)), .int .i64 (IntKind.i64.wrap ((↑i : Int) + 1)), topV, topV, topV, topV, topV, topV, topV, topV, topV, topV, topV, topV, topV], [some ⟨.view, .ints (flat ps)⟩, some ⟨.view, .ints (flat es)⟩]⟩))))))))) (.leaf (.exit 0) ⟨[topV, topV, topV, topV, topV, topV, topV, topV, topV, topV, topV, topV, topV, topV, topV, topV, topV, topV, topV, topV, topV, topV, topV], [some ⟨.view, .ints (flat ps)⟩, some ⟨.view, .ints (flat es)⟩]⟩) := by kernel_rfl
set_option maxRecDepth 100000 in
theorem nl_aEd : loopsOf c_aEd = [] := by kernel_rfl
def inv_aEd (ps es : List Pt) : Nat → Prop := fun i => i ≤ es.length
def me_aEd (ps es : List Pt) : Nat → Nat := fun i => es.length - i
/-- A round of this loop. -/
def Round_aEd (ps es : List Pt) : Prop := ∀ xx : Nat, inv_aEd ps es xx → (bodyL Try.prog ETl0 30 12 noL 1 c_aEd k_aEd 2 (s_aEd ps es xx)).ok (RoundEnd 2 (s_aEd ps es) (inv_aEd ps es) (me_aEd ps es) (re_aEd ps es) (rs_aEd ps es) xx) (fun _ _ => False)
def e_aEd (s : St) (k : Ex → St → Tree) : Option Tree := match Nat.beq s.tmps.length 23, pickL s.tmps [0, 7, 8, 9], s.mem with
  | true, [.slice (some ⟨0, 0, none⟩) n _, .slice (some ⟨1, 0, none⟩) m _, .int .i64 l, .int .i64 ii], [some ⟨.view, .ints xs⟩, some ⟨.view, .ints ys⟩] => some (needs [ii = 0, l = m, xs.length = n * 2, ys.length = m * 2, n ≤ 20, m ≤ 20] (brT (evA n (ptsA m ys)) (k (.exit 0) ⟨[topV, topV, topV, topV, topV, topV, topV, topV, topV, topV, topV, topV, topV, topV, topV, topV, topV, topV, topV, topV, topV, topV, topV], [some ⟨.view, .ints xs⟩, some ⟨.view, .ints ys⟩]⟩) (k .ret ⟨[topV, topV, topV, topV, .bool false, topV, topV, topV, topV, topV, topV, topV, topV, topV, topV, topV, topV, topV, topV, topV, topV, topV, topV], [some ⟨.view, .ints xs⟩, some ⟨.view, .ints ys⟩]⟩)))
  | _, _, _ => none
set_option maxRecDepth 100000 in
theorem round_aEd (ps es : List Pt) (h : ps.length ≤ 20) (hm : es.length ≤ 20) : Round_aEd ps es := by
  intro i h1
  have h1 : i ≤ es.length := h1
  rw [tr_aEd]
  have wl : IntKind.i64.wrap ((0 : Int) + 1) = 1 := by decide
  simp only [brT_ok, Tree.ok, decide_eq_true_eq, decide_eq_false_iff_not, Int.toNat_natCast, Nat.zero_add, Nat.add_zero, flat_length, flat_get0, flat_get1, Bool.not_eq_true', Bool.not_eq_false', wl]
  refine ⟨fun hlt => ?_, fun hge => ?_⟩
  · rw [wsucc (n := es.length) (by omega) (by omega)]
    refine ⟨by omega, by omega, by omega, fun g0 => ?_, fun g0 => ⟨fun g1 => ?_, fun g1 => ⟨by omega, fun g2 => ?_, fun g2 => ⟨fun g3 => ?_, fun g3 => ?_⟩⟩⟩⟩
    · have e : evA ps.length (es.drop i) = false := by
        unfold evA
        rw [all_drop (by omega) (0, 0)]
        have : evB ps.length (es.getD i (0, 0)) = false := by
          rw [Bool.eq_false_iff]
          intro hh
          simp only [evB, Bool.and_eq_true, decide_eq_true_eq] at hh
          omega
        rw [this, Bool.false_and]
      refine ⟨by simp only [re_aEd, e, cond_false], [], ?_⟩
      simp only [rs_aEd, e, cond_false]
      repeat' (first | exact True.intro | exact rfl | exact fun _ => rfl | refine And.intro ?_ ?_)
    · have e : evA ps.length (es.drop i) = false := by
        unfold evA
        rw [all_drop (by omega) (0, 0)]
        have : evB ps.length (es.getD i (0, 0)) = false := by
          rw [Bool.eq_false_iff]
          intro hh
          simp only [evB, Bool.and_eq_true, decide_eq_true_eq] at hh
          omega
        rw [this, Bool.false_and]
      refine ⟨by simp only [re_aEd, e, cond_false], [], ?_⟩
      simp only [rs_aEd, e, cond_false]
      repeat' (first | exact True.intro | exact rfl | exact fun _ => rfl | refine And.intro ?_ ?_)
    · have e : evA ps.length (es.drop i) = false := by
        unfold evA
        rw [all_drop (by omega) (0, 0)]
        have : evB ps.length (es.getD i (0, 0)) = false := by
          rw [Bool.eq_false_iff]
          intro hh
          simp only [evB, Bool.and_eq_true, decide_eq_true_eq] at hh
          omega
        rw [this, Bool.false_and]
      refine ⟨by simp only [re_aEd, e, cond_false], [], ?_⟩
      simp only [rs_aEd, e, cond_false]
      repeat' (first | exact True.intro | exact rfl | exact fun _ => rfl | refine And.intro ?_ ?_)
    · have e : evA ps.length (es.drop i) = false := by
        unfold evA
        rw [all_drop (by omega) (0, 0)]
        have : evB ps.length (es.getD i (0, 0)) = false := by
          rw [Bool.eq_false_iff]
          intro hh
          simp only [evB, Bool.and_eq_true, decide_eq_true_eq] at hh
          omega
        rw [this, Bool.false_and]
      refine ⟨by simp only [re_aEd, e, cond_false], [], ?_⟩
      simp only [rs_aEd, e, cond_false]
      repeat' (first | exact True.intro | exact rfl | exact fun _ => rfl | refine And.intro ?_ ?_)
    · have e : evA ps.length (es.drop i) = evA ps.length (es.drop (i + 1)) := by
        unfold evA
        rw [all_drop (by omega) (0, 0)]
        have : evB ps.length (es.getD i (0, 0)) = true := by simp only [evB, Bool.and_eq_true, decide_eq_true_eq]; omega
        rw [this, Bool.true_and]
      refine ⟨i + 1, [], ?_, ?_, by simp only [re_aEd, e], by simp only [rs_aEd, e], ?_⟩
      · show i + 1 ≤ es.length; omega
      · show es.length - (i + 1) < es.length - i; omega
      · repeat' (first | exact True.intro | exact rfl | exact fun _ => rfl | refine And.intro ?_ ?_)
  · have e : evA ps.length (es.drop i) = true := all_end (by omega) _
    refine ⟨by simp only [re_aEd, e, cond_true], [], ?_⟩
    simp only [rs_aEd, e, cond_true]
    repeat' (first | exact True.intro | exact rfl | exact fun _ => rfl | refine And.intro ?_ ?_)
set_option maxRecDepth 100000 in
theorem lg_aEd : LoopE Try.prog e_aEd c_aEd := by
  intro s k t F H hlt ht
  unfold e_aEd at hlt
  split at hlt
  rotate_left
  · cases hlt
  rename_i hlen hpick hmem
  obtain ⟨tmps, mem⟩ := s
  simp only at hlen hpick hmem
  subst hmem
  obtain rfl := Option.some.inj hlt
  obtain ⟨⟨rfl, rfl, h1, h2, h3, h4, _⟩, ht2⟩ := needs_ok ht
  clear ht hlt
  obtain ⟨ps, rfl, rfl⟩ := even_flat h1
  obtain ⟨es, rfl, rfl⟩ := even_flat h2
  rw [ptsA_flat] at ht2
  refine ⟨_, _, pick2k ht2, loop_run mixed ETl0_ok (s_aEd ps es) (inv_aEd ps es) (me_aEd ps es) (re_aEd ps es) (rs_aEd ps es) k_aEd (fun _ => rfl) (noLoops nl_aEd) (round_aEd ps es h3 h4) (x := 0) (Nat.zero_le _) (π := []) rfl ?_⟩
  refine ⟨rfl, rfl, ?_, wvs_spread' [0, 7, 8, 9] hlen rfl ?_⟩
  · repeat' (first | exact True.intro | exact rfl | exact wv_top _ _ | exact fun _ => rfl | assumption | exact Eq.symm (by assumption) | exact vI0 rfl | refine And.intro ?_ ?_)
  · rw [hpick]
    repeat' (first | exact True.intro | exact rfl | exact wv_top _ _ | exact fun _ => rfl | assumption | exact Eq.symm (by assumption) | exact vI0 rfl | refine And.intro ?_ ?_)
end Go.Proofs.Ytnlciknmpjikgaa
namespace Go.Proofs.Ytnlciknmpjikgaa
set_option linter.all false
open Go.RowKit
theorem Lr_toPr {fn : Func} (hf : Try.prog.funcs[26]? = some fn) : LoopsGood Try.prog (lt1 e_toPr) 0 (codeOf fn) := by
  obtain rfl := fn_is Try.func26 hf
  exact lt1_good lg_toPr
theorem Lr_eqPr {fn : Func} (hf : Try.prog.funcs[29]? = some fn) : LoopsGood Try.prog (lt1 e_eqPr) 0 (codeOf fn) := by
  obtain rfl := fn_is Try.func29 hf
  exact lt1_good lg_eqPr
theorem Lr_aEd {fn : Func} (hf : Try.prog.funcs[65]? = some fn) : LoopsGood Try.prog (lt1 e_aEd) 0 (codeOf fn) := by
  obtain rfl := fn_is Try.func65 hf
  exact lt1_good lg_aEd
def LTl : FuncId → LT := fun f => match f with
  | 26 => lt1 e_toPr
  | 29 => lt1 e_eqPr
  | 65 => lt1 e_aEd
  | _ => noL
def ETl1 : Env := mkE TTl (fun _ _ => none) LTl
theorem ETl1_ok : EnvOk Try.prog ETl1 := mkEOk TTl_ok (fun _ _ _ _ _ h => (by cases h)) (by
  intro f fn hf
  unfold LTl
  split
  all_goals first | with_reducible exact Lr_toPr hf | with_reducible exact Lr_eqPr hf | with_reducible exact Lr_sTl hf | with_reducible exact Lr_aEd hf | exact noL_good)
set_option maxRecDepth 100000 in
theorem tr_toPrF (ps : List Pt) : bodyX Try.prog ETl1 30 12 26 [.row ps.length (.ints (flat ps))] = .need ((0 : Int) ≤ (↑ps.length : Int) ∧ (↑ps.length : Int) ≤ (↑ps.length : Int) ∧ (16 : Nat) * (↑ps.length : Int).toNat ≤ (281474976710656 : Nat) ∧ (↑ps.length : Int) ≤ (9223372036854775807 : Int)) (.need ((0 : Int) = (0 : Int)) (.need ((↑ps.length : Int).toNat = ps.length) (.need ((flat ps).length = ps.length * (2 : Nat)) (.need ((List.replicate ((↑ps.length : Int).toNat * (2 : Nat)) (0 : Int)).length = ps.length * (2 : Nat)) (.need (ps.length ≤ (1000000000 : Nat)) (.fin (.slice (some ⟨1, 0, none⟩) ((↑ps.length : Int).toNat) ((↑ps.length : Int).toNat)) [some ⟨.view, .ints (flat ps)⟩, some ⟨.row 71 2, .ints (flat ps)⟩])))))) := by kernel_rfl
set_option maxRecDepth 100000 in
theorem tr_eqPrF (ps : List Pt) : bodyV Try.prog ETl1 30 12 29 [.row ps.length (.ints (flat ps)), .row ps.length (.ints (flat ps))] = brT (!(↑ps.length : Int) == (↑ps.length : Int)) (.fin (.bool (false)) []) (.need ((0 : Int) = (0 : Int)) (.need (ps.length = ps.length) (.need (flat ps = flat ps) (.need ((flat ps).length = ps.length * (2 : Nat)) (.need (ps.length ≤ (1000000000 : Nat)) (.fin (.bool (true)) [])))))) := by kernel_rfl
set_option maxRecDepth 100000 in
theorem tr_aEdF (ps es : List Pt) : bodyV Try.prog ETl1 30 12 65 [.row ps.length (.ints (flat ps)), .row es.length (.ints (flat es))] = .need ((0 : Int) = (0 : Int)) (.need ((↑es.length : Int) = (↑es.length : Int)) (.need ((flat ps).length = ps.length * (2 : Nat)) (.need ((flat es).length = es.length * (2 : Nat)) (.need (ps.length ≤ (20 : Nat)) (.need (es.length ≤ (20 : Nat)) (brT (evA ps.length (ptsA es.length (flat es))) (.fin (.bool (true)) []) (.fin (.bool (false)) []))))))) := by kernel_rfl
theorem resR_toPr (ps : List Pt) (h : Big ps) : ResR Try.prog 26 [.row ps.length (.ints (flat ps))] (.slice (some ⟨0, 0, none⟩) ps.length ps.length) ⟨.row 71 2, .ints (flat ps)⟩ := by
  refine bodyX_resR mixed ETl1_ok (m := 30) (n := 12) rfl ?_
  rw [tr_toPrF]
  unfold Big at h
  simp only [Tree.ok, flat_length, Int.toNat_natCast, List.length_replicate]
  exact ⟨by omega, trivial, trivial, trivial, trivial, h, some 1, ⟨rfl, rfl, rfl⟩, rfl, rfl, rfl⟩
theorem res_eqPr (ps : List Pt) (h : Big ps) : Res Try.prog 29 [.row ps.length (.ints (flat ps)), .row ps.length (.ints (flat ps))] (.bool true) := by
  refine bodyV_res mixed ETl1_ok (m := 30) (n := 12) rfl ?_
  rw [tr_eqPrF]
  unfold Big at h
  simp [brT_ok, Tree.ok, flat_length, h]
theorem res_aEd (ps es : List Pt) (h : ps.length ≤ 20) (h2 : es.length ≤ 20) : Res Try.prog 65 [.row ps.length (.ints (flat ps)), .row es.length (.ints (flat es))] (.bool (evA ps.length es)) := by
  refine bodyV_res mixed ETl1_ok (m := 30) (n := 12) rfl ?_
  rw [tr_aEdF]
  simp only [List.drop_zero, ptsA_flat, flat_length]
  cases evA ps.length es <;> simp [brT, Tree.ok, h, h2]
def pAe : List DArg → Option (Value × List Prop)
  | [.row n (.ints xs), .row m (.ints ys)] => some (.bool (evA n (ptsA m ys)), [n * 2 ≤ xs.length, m * 2 ≤ ys.length, n ≤ 20, m ≤ 20])
  | _ => none
theorem pAe_ok {ds : List DArg} {v : Value} {C : List Prop} (h : pAe ds = some (v, C)) (hC : AllP C) : Res Try.prog 65 ds v := by
  unfold pAe at h
  split at h
  · rename_i n xs m ys
    obtain ⟨rfl, rfl⟩ : _ ∧ _ := by simpa using h
    obtain ⟨c1, c2, c3, c4, _⟩ := hC
    obtain ⟨_, h2⟩ := ptsA_spec c1
    obtain ⟨_, h3⟩ := ptsA_spec c2
    have h0 := res_aEd (ptsA n xs) (ptsA m ys) (by omega) (by omega)
    have h1 := res_pts1 (pre := []) (post := [_]) c1 (res_pts1 (pre := [_]) (post := []) c2 h0)
    rw [h2] at h1
    exact h1
  · cases h
def pEp : List DArg → Option (Value × List Prop)
  | [.row n (.ints xs), .row m (.ints ys)] => some (.bool true, [n = m, xs = ys, xs.length = n * 2, n ≤ 1000000000])
  | _ => none
theorem pEp_ok {ds : List DArg} {v : Value} {C : List Prop} (h : pEp ds = some (v, C)) (hC : AllP C) : Res Try.prog 29 ds v := by
  unfold pEp at h
  split at h
  · obtain ⟨rfl, rfl⟩ : _ ∧ _ := by simpa using h
    obtain ⟨rfl, rfl, h1, h2, _⟩ := hC
    obtain ⟨ps, rfl, rfl⟩ := even_flat h1
    exact res_eqPr ps h2
  · cases h
def RTl : TabR := fun f ds => match f, ds with
  | 26, [.row n (.ints xs)] => some (.slice (some ⟨0, 0, none⟩) n n, ⟨.row 71 2, .ints (xs.take (n * 2))⟩, [n * 2 ≤ xs.length, n ≤ 1000000000])
  | f, ds => R4 f ds
theorem RTl_ok : TabROk Try.prog RTl := by
  intro f ds v b C h hC
  unfold RTl at h
  (try split at h)
  all_goals first | exact R4_ok _ _ _ _ _ h hC | (
    rename_i n xs
    obtain ⟨rfl, rfl, rfl⟩ : _ ∧ _ ∧ _ := by simpa using h
    obtain ⟨h1, h2⟩ := ptsA_spec hC.1
    have h0 := resR_toPr (ptsA n xs) (by unfold Big; rw [h2]; exact hC.2.1)
    have h3 := resR_pts1 (pre := []) (post := []) hC.1 h0
    rw [h2, ← h1] at h3
    exact h3)
end Go.Proofs.Ytnlciknmpjikgaa
namespace Go.Proofs.Ytnlciknmpjikgaa
set_option linter.all false
open Go.RowKit
/-- So many pairs of a row. -/
def prR (i : Int) : Nat → Int → List Pt
  | 0, _ => []
  | m + 1, k => (i, k) :: prR i m (k + 1)
/-- So many rows of pairs. -/
def prA (n : Nat) : Nat → Nat → List Pt
  | 0, _ => []
  | m + 1, i => prR i (n - i) i ++ prA n m (i + 1)
/-- All pairs of places. -/
def prL (n : Nat) : List Pt := prA n n 0
theorem prR_step (i : Int) (m : Nat) (k : Int) : prR i (m + 1) k = (i, k) :: prR i m (k + 1) := rfl
theorem prA_step (n m i : Nat) : prA n (m + 1) i = prR i (n - i) i ++ prA n m (i + 1) := rfl
theorem prR_len (i : Int) : ∀ (m : Nat) (k : Int), (prR i m k).length = m
  | 0, _ => rfl
  | m + 1, k => by rw [prR_step, List.length_cons, prR_len]
end Go.Proofs.Ytnlciknmpjikgaa
namespace Go.Proofs.Ytnlciknmpjikgaa
set_option linter.all false
open Go.RowKit
theorem loop_det2 {P : Program} {c : Code} {N M : Nat} {X : Type} (St_of : X → St) (Inv : X → Prop) (μ : X → Nat) (re : X → Ex) (rs : X → St) (keep : Ex → List Nat) (hM : ∀ x, (St_of x).mem.length ≤ M)
    (h : ∀ x, Inv x → ∃ e' s', Det P c (St_of x) e' s' ∧ match e' with
      | .normal => ∃ x' π, Inv x' ∧ μ x' < μ x ∧ re x' = re x ∧ rs x' = rs x ∧ WS N π (cutS M (keep .normal) s') (St_of x')
      | e => e = re x ∧ ∃ π, WS N π (cutS M (keep e) s') (rs x))
    {x : X} (hx : Inv x) {s : St} {π : List (Option Nat)} (hN : s.mem.length = N) (hs : WS N π s (St_of x)) : Det P (.loop c) s (re x) (rs x) := by
  intro w0 a w hc
  have hρ := con_dom hc
  rw [hN] at hρ
  have hρ' : ∀ {x' π' s'}, WS N π' s' (St_of x') → ∀ n, (St_of x').mem.length ≤ n → w0.ρ0 n = none := fun h n hn => hρ n (Nat.le_trans (Nat.le_of_ble_eq_true h.1) hn)
  refine wpIn_loop_ghost (fun n a w => ∃ x', Inv x' ∧ μ x' = n ∧ re x' = re x ∧ rs x' = rs x ∧ (∀ n, (St_of x').mem.length ≤ n → w0.ρ0 n = none) ∧ Con w0 (St_of x').fs a w) (μ x) ⟨x, hx, rfl, rfl, rfl, hρ' hs, weak_con hs hρ hc⟩ ?_
  rintro n a w ⟨x', hI, rfl, hre, hrs, hdom, hcc⟩
  obtain ⟨e', s', hd, hend⟩ := h x' hI
  have hdom2 : ∀ n, M ≤ n → w0.ρ0 n = none := fun n hn => hdom n (Nat.le_trans (hM x') hn)
  refine wpIn_mono (hd w0 a w hcc) ?_
  rintro e a' w' ⟨rfl, hcc'⟩
  cases e' with
  | normal =>
    obtain ⟨x2, π2, g1, g2, g3, g4, g5⟩ := hend
    exact ⟨_, g2, x2, g1, rfl, g3.trans hre, g4.trans hrs, hρ' g5, weak_con g5 hρ (cut_con hdom2 hcc')⟩
  | exit id =>
    obtain ⟨g1, π2, g2⟩ := hend
    exact ⟨by rw [← hre, ← g1], by rw [← hrs]; exact weak_con g2 hρ (cut_con hdom2 hcc')⟩
  | ret =>
    obtain ⟨g1, π2, g2⟩ := hend
    exact ⟨by rw [← hre, ← g1], by rw [← hrs]; exact weak_con g2 hρ (cut_con hdom2 hcc')⟩
theorem loop_run2 {P : Program} (hm : P.follows .mixedOrders = true) {E : Env} (hE : EnvOk P E) {m n : Nat} {lt : LT} {j : Nat} {c : Code} {N : Nat} {X : Type} (St_of : X → St) (Inv : X → Prop) (μ : X → Nat) (re : X → Ex) (rs : X → St) (keep : Ex → List Nat) {M : Nat} (hM : ∀ x, Nat.ble (St_of x).mem.length M = true) (hL : LoopsGood P lt j c)
    (h : ∀ x, Inv x → (bodyL P E m n lt j c keep M (St_of x)).ok (RoundEnd N St_of Inv μ re rs x) (fun _ _ => False))
    {x : X} (hx : Inv x) {s : St} {π : List (Option Nat)} (hN : s.mem.length = N) (hs : WS N π s (St_of x)) : Det P (.loop c) s (re x) (rs x) :=
  loop_det2 (M := M) St_of Inv μ re rs keep (fun x => Nat.le_of_ble_eq_true (hM x)) (fun x hx => by
    obtain ⟨e', s', h1, h2⟩ := body_det hm hE hL (h x hx)
    refine ⟨e', s', h1, ?_⟩
    unfold RoundEnd at h2
    cases e' <;> exact h2) hx hN hs
end Go.Proofs.Ytnlciknmpjikgaa
namespace Go.Proofs.Ytnlciknmpjikgaa
set_option linter.all false
open Go.RowKit
/-- The pairs of a row from k on. -/
def prK (n i k : Nat) : List Pt := prR i (n - k) k
theorem prK_step {n i k : Nat} (h : k < n) (o : List Pt) : o ++ prK n i k = (o ++ [((i : Int), (k : Int))]) ++ prK n i (k + 1) := by
  unfold prK
  rw [show n - k = (n - (k + 1)) + 1 by omega, prR_step]
  simp
theorem prK_end {n i k : Nat} (h : n ≤ k) : prK n i k = [] := by
  unfold prK
  rw [show n - k = 0 by omega]
  rfl
/-- The rows of pairs from i on. -/
def prI (n i : Nat) : List Pt := prA n (n - i) i
theorem prI_step {n i : Nat} (h : i < n) (o : List Pt) : o ++ prI n i = (o ++ prK n i i) ++ prI n (i + 1) := by
  unfold prI
  rw [show n - i = (n - (i + 1)) + 1 by omega, prA_step]
  unfold prK
  simp
theorem prI_end {n i : Nat} (h : n ≤ i) : prI n i = [] := by
  unfold prI
  rw [show n - i = 0 by omega]
  rfl
theorem prK_len (n i k : Nat) : (prK n i k).length = n - k := prR_len ..
noncomputable def c_pwi : Code := ((loopsOf (codeOf Try.f66))[1]?).getD .skip
def k_pwi : Ex → List Nat := keeps [0, 3, 4, 5, 6, 7] [(2, [0, 3, 6, 7]), (1, [0, 3, 6, 7]), (0, [3])] [2]
def s_pwi (n i : Nat) : Nat × (List Pt) → St := fun (k, o) => ⟨[.int .i64 n, topV, topV, .slice (some ⟨2, 0, none⟩) o.length o.length, .int .i64 i, .int .i64 k, .int .i64 n, .int .i64 i, topV, topV, topV, topV, topV, topV, topV, topV, topV, topV, topV, topV, topV, topV, topV, topV], [none, some ⟨.dead, .vals []⟩, some ⟨.row 71 2, .ints (flat o)⟩]⟩
def re_pwi : Nat × (List Pt) → Ex := fun _ => .exit 2
def rs_pwi (n i : Nat) : Nat × (List Pt) → St := fun (k, o) => ⟨[.int .i64 n, topV, topV, .slice (some ⟨2, 0, none⟩) (o ++ prK n i k).length (o ++ prK n i k).length, topV, topV, .int .i64 n, .int .i64 i, topV, topV, topV, topV, topV, topV, topV, topV, topV, topV, topV, topV, topV, topV, topV, topV], [none, some ⟨.dead, .vals []⟩, some ⟨.row 71 2, .ints (flat (o ++ prK n i k))⟩]⟩
set_option maxRecDepth 100000 in
theorem tr_pwi (n i : Nat) (k : Nat) (o : List Pt) : bodyL Try.prog E3 30 12 noL 2 c_pwi k_pwi 12 (s_pwi n i (k, o)) = brT (decide ((↑k : Int) < (↑n : Int))) (.need ((o.length + (1 : Nat)) * (16 : Nat) ≤ (140737488355328 : Nat) ∧ o.length + (1 : Nat) ≤ (2000000 : Nat)) (.need ((0 : Nat) + o.length * (2 : Nat) ≤ (flat o).length) (.leaf .normal ⟨[.int .i64 ((↑n : Int)), topV, topV, .slice (some ⟨4, 0, none⟩) (o.length + 1) (o.length + 1), .int .i64 ((↑i : Int)), .int .i64 (IntKind.i64.wrap ((↑k : Int) + 1)), .int .i64 ((↑n : Int)), .int .i64 ((↑i : Int)), topV, topV, topV, topV, topV, topV, topV, topV, topV, topV, topV, topV, topV, topV, topV, topV], [none, some deadB, some deadB, some ⟨.row 71 2, .vals [.int .i64 ((↑i : Int)), .int .i64 ((↑k : Int))]⟩, some ⟨.row 71 2, .ints (List.take (o.length * 2) (List.drop 0 (flat o)) ++ [(↑i : Int), (↑k : Int)])⟩]⟩))) (.leaf (.exit 2) ⟨[.int .i64 ((↑n : Int)), topV, topV, .slice (some ⟨2, 0, none⟩) (o.length) (o.length), topV, topV, .int .i64 ((↑n : Int)), .int .i64 ((↑i : Int)), topV, topV, topV, topV, topV, topV, topV, topV, topV, topV, topV, topV, topV, topV, topV, topV], [none, some deadB, some ⟨.row 71 2, .ints (flat o)⟩]⟩) := by kernel_rfl
set_option maxRecDepth 100000 in
theorem nl_pwi : loopsOf c_pwi = [] := by kernel_rfl
def inv_pwi (n i : Nat) : Nat × (List Pt) → Prop := fun (k, o) => k ≤ n ∧ o.length + (n - k) ≤ 1000
def me_pwi (n i : Nat) : Nat × (List Pt) → Nat := fun (k, o) => n - k
/-- A round of this loop. -/
def Round_pwi (n i : Nat) : Prop := ∀ xx : Nat × (List Pt), inv_pwi n i xx → (bodyL Try.prog E3 30 12 noL 2 c_pwi k_pwi 12 (s_pwi n i xx)).ok (RoundEnd 2 (s_pwi n i) (inv_pwi n i) (me_pwi n i) re_pwi (rs_pwi n i) xx) (fun _ _ => False)
def e_pwi (s : St) (k : Ex → St → Tree) : Option Tree := match Nat.beq s.tmps.length 24, pickL s.tmps [0, 3, 4, 5, 6, 7], s.mem with
  | true, [.int .i64 n1, .slice (some ⟨1, 0, none⟩) z _, .int .i64 i1, .int .i64 k1, .int .i64 n2, .int .i64 i2], [none, some ⟨.row 71 2, .ints xs⟩] => some (needs [n2 = n1, i2 = i1, k1 = i1, xs.length = z * 2, z ≤ 500, 0 ≤ i1 ∧ i1 < n1 ∧ n1 ≤ 20] (k (.exit 2) ⟨[.int .i64 n1, topV, topV, .slice (some ⟨2, 0, none⟩) (ptsA z xs ++ prK n1.toNat i1.toNat i1.toNat).length (ptsA z xs ++ prK n1.toNat i1.toNat i1.toNat).length, topV, topV, .int .i64 n1, .int .i64 i1, topV, topV, topV, topV, topV, topV, topV, topV, topV, topV, topV, topV, topV, topV, topV, topV], [none, some ⟨.dead, .vals []⟩, some ⟨.row 71 2, .ints (flat (ptsA z xs ++ prK n1.toNat i1.toNat i1.toNat))⟩]⟩))
  | _, _, _ => none
theorem flatB (o : List Pt) : List.take (o.length * 2) (List.drop 0 (flat o)) = flat o := by rw [List.drop_zero, flat_all]
set_option maxRecDepth 100000 in
theorem round_pwi (n i : Nat) (h : n ≤ 20) : Round_pwi n i := by
  rintro ⟨k, o⟩ ⟨h1, h2⟩
  rw [tr_pwi]
  simp only [brT_ok, Tree.ok, decide_eq_true_eq, decide_eq_false_iff_not, flatB, flat_length, Nat.zero_add]
  refine ⟨fun hlt => ?_, fun hge => ?_⟩
  · rw [wsucc (n := n) (by omega) (by omega), flat_snoc]
    refine ⟨by omega, by omega, (k + 1, o ++ [((i : Int), (k : Int))]), [some 4], ⟨by omega, by simp; omega⟩, ?_, rfl, ?_, ?_⟩
    · show n - (k + 1) < n - k; omega
    · simp only [rs_pwi, prK_step (n := n) (i := i) (k := k) (by omega) o]
    · repeat' (first | exact True.intro | exact rfl | exact fun _ => rfl | (simp; done) | refine And.intro ?_ ?_)
  · refine ⟨rfl, [some 2], ?_⟩
    simp only [rs_pwi, prK_end (n := n) (i := i) (k := k) (by omega), List.append_nil]
    repeat' (first | exact True.intro | exact rfl | exact fun _ => rfl | (simp; done) | refine And.intro ?_ ?_)
set_option maxRecDepth 100000 in
theorem lg_pwi : LoopE Try.prog e_pwi c_pwi := by
  intro s k t F H hlt ht
  unfold e_pwi at hlt
  split at hlt
  rotate_left
  · cases hlt
  rename_i hlen hpick hmem
  obtain ⟨tmps, mem⟩ := s
  simp only at hlen hpick hmem
  subst hmem
  obtain rfl := Option.some.inj hlt
  obtain ⟨⟨rfl, rfl, rfl, h1, h2, h3, _⟩, ht2⟩ := needs_ok ht
  clear ht hlt
  obtain ⟨o, rfl, rfl⟩ := even_flat h1
  obtain ⟨i, rfl⟩ := Int.eq_ofNat_of_zero_le h3.1
  obtain ⟨n, rfl⟩ := Int.eq_ofNat_of_zero_le (Int.le_trans h3.1 (Int.le_of_lt h3.2.1))
  rw [ptsA_flat] at ht2
  simp only [Int.toNat_natCast] at ht2
  refine ⟨_, _, ht2, loop_run2 mixed E3_ok (s_pwi n i) (inv_pwi n i) (me_pwi n i) re_pwi (rs_pwi n i) k_pwi (fun _ => rfl) (noLoops nl_pwi) (round_pwi n i (by omega)) (x := (i, o)) ⟨by omega, by omega⟩ (π := [some 1]) rfl ?_⟩
  refine ⟨rfl, rfl, ?_, wvs_spread' [0, 3, 4, 5, 6, 7] hlen rfl ?_⟩
  · repeat' (first | exact True.intro | exact rfl | exact wv_top _ _ | exact fun _ => rfl | assumption | exact Eq.symm (by assumption) | exact vI0 rfl | refine And.intro ?_ ?_)
  · rw [hpick]
    repeat' (first | exact True.intro | exact rfl | exact wv_top _ _ | exact fun _ => rfl | assumption | exact Eq.symm (by assumption) | exact vI0 rfl | refine And.intro ?_ ?_)
def ltPw : LT := fun j s k => match j with
  | 1 => e_pwi s k
  | _ => none
noncomputable def c_pwo : Code := ((loopsOf (codeOf Try.f66))[0]?).getD .skip
def k_pwo : Ex → List Nat := keeps [0, 3, 6, 7] [(0, [3])] [2]
def s_pwo (n : Nat) : Nat × (List Pt) → St := fun (i, o) => ⟨[.int .i64 n, topV, topV, .slice (some ⟨1, 0, none⟩) o.length o.length, topV, topV, .int .i64 n, .int .i64 i, topV, topV, topV, topV, topV, topV, topV, topV, topV, topV, topV, topV, topV, topV, topV, topV], [none, some ⟨.row 71 2, .ints (flat o)⟩]⟩
def re_pwo : Nat × (List Pt) → Ex := fun _ => .exit 0
def rs_pwo (n : Nat) : Nat × (List Pt) → St := fun (i, o) => ⟨[topV, topV, topV, .slice (some ⟨1, 0, none⟩) (o ++ prI n i).length (o ++ prI n i).length, topV, topV, topV, topV, topV, topV, topV, topV, topV, topV, topV, topV, topV, topV, topV, topV, topV, topV, topV, topV], [none, some ⟨.row 71 2, .ints (flat (o ++ prI n i))⟩]⟩
set_option maxRecDepth 100000 in
theorem tr_pwo (n : Nat) (i : Nat) (o : List Pt) : bodyL Try.prog E3 30 12 ltPw 1 c_pwo k_pwo 12 (s_pwo n (i, o)) = brT (decide ((↑i : Int) < (↑n : Int))) (.need ((↑n : Int) = (↑n : Int)) (.need ((↑i : Int) = (↑i : Int)) (.need ((↑i : Int) = (↑i : Int)) (.need ((flat o).length = o.length * (2 : Nat)) (.need (o.length ≤ (500 : Nat)) (.need ((0 : Int) ≤ (↑i : Int) ∧ (↑i : Int) < (↑n : Int) ∧ (↑n : Int) ≤ (20 : Int)) (.leaf .normal ⟨[.int .i64 ((↑n : Int)), topV, topV, .slice (some ⟨2, 0, none⟩) ((ptsA o.length (flat o) ++ prK (↑n : Int).toNat (↑i : Int).toNat (↑i : Int).toNat).length) ((ptsA o.length (flat o) ++ prK (↑n : Int).toNat (↑i : Int).toNat (↑i : Int).toNat).length), topV, topV, .int .i64 ((↑n : Int)), .int .i64 (IntKind.i64.wrap ((↑i : Int) + 1)), topV, topV, topV, topV, topV, topV, topV, topV, topV, topV, topV, topV, topV, topV, topV, topV], [none, some deadB, some ⟨.row 71 2, .ints (flat (ptsA o.length (flat o) ++ prK (↑n : Int).toNat (↑i : Int).toNat (↑i : Int).toNat))⟩]⟩))))))) (.leaf (.exit 0) ⟨[topV, topV, topV, .slice (some ⟨1, 0, none⟩) (o.length) (o.length), topV, topV, topV, topV, topV, topV, topV, topV, topV, topV, topV, topV, topV, topV, topV, topV, topV, topV, topV, topV], [none, some ⟨.row 71 2, .ints (flat o)⟩]⟩) := by kernel_rfl
def inv_pwo (n : Nat) : Nat × (List Pt) → Prop := fun (i, o) => i ≤ n ∧ o.length ≤ 20 * i
def me_pwo (n : Nat) : Nat × (List Pt) → Nat := fun (i, o) => n - i
/-- A round of this loop. -/
def Round_pwo (n : Nat) : Prop := ∀ xx : Nat × (List Pt), inv_pwo n xx → (bodyL Try.prog E3 30 12 ltPw 1 c_pwo k_pwo 12 (s_pwo n xx)).ok (RoundEnd 1 (s_pwo n) (inv_pwo n) (me_pwo n) re_pwo (rs_pwo n) xx) (fun _ _ => False)
def e_pwo (s : St) (k : Ex → St → Tree) : Option Tree := match Nat.beq s.tmps.length 24, pickL s.tmps [0, 3, 6, 7], s.mem with
  | true, [.int .i64 n1, .slice none 0 0, .int .i64 n2, .int .i64 i1], [none] => some (needs [n2 = n1, i1 = 0, 0 ≤ n1 ∧ n1 ≤ 20] (k (.exit 0) ⟨[topV, topV, topV, .slice (some ⟨1, 0, none⟩) (prI n1.toNat 0).length (prI n1.toNat 0).length, topV, topV, topV, topV, topV, topV, topV, topV, topV, topV, topV, topV, topV, topV, topV, topV, topV, topV, topV, topV], [none, some ⟨.row 71 2, .ints (flat (prI n1.toNat 0))⟩]⟩))
  | _, _, _ => none
set_option maxRecDepth 100000 in
theorem in_pwo : loopsOf c_pwo = [c_pwi] := by kernel_rfl
theorem ltPw_good : LoopsGood Try.prog ltPw 1 c_pwo := by
  intro i d hd s k t F H hlt ht
  rw [in_pwo] at hd
  cases i with
  | zero =>
    obtain rfl : c_pwi = d := by simpa using hd
    exact lg_pwi s k t F H hlt ht
  | succ i => simp at hd
set_option maxRecDepth 100000 in
theorem round_pwo (n : Nat) (h : n ≤ 20) : Round_pwo n := by
  rintro ⟨i, o⟩ ⟨h1, h2⟩
  rw [tr_pwo]
  simp only [brT_ok, Tree.ok, decide_eq_true_eq, decide_eq_false_iff_not, Int.toNat_natCast, Nat.zero_add, flat_length, ptsA_flat]
  refine ⟨fun hlt => ?_, fun hge => ?_⟩
  · rw [wsucc (n := n) (by omega) (by omega)]
    have e := prI_step (n := n) (i := i) (by omega) o
    have hk := prK_len n i i
    refine ⟨trivial, trivial, trivial, trivial, by omega, ⟨by omega, by omega, by omega⟩, (i + 1, o ++ prK n i i), [some 2], ⟨by omega, by simp [hk]; omega⟩, ?_, rfl, ?_, ?_⟩
    · show n - (i + 1) < n - i; omega
    · simp only [rs_pwo, e]
    · repeat' (first | exact True.intro | exact rfl | exact fun _ => rfl | (simp; done) | refine And.intro ?_ ?_)
  · refine ⟨rfl, [some 1], ?_⟩
    simp only [rs_pwo, prI_end (n := n) (i := i) (by omega), List.append_nil]
    repeat' (first | exact True.intro | exact rfl | exact fun _ => rfl | (simp; done) | refine And.intro ?_ ?_)
set_option maxRecDepth 100000 in
theorem lg_pwo : LoopE Try.prog e_pwo c_pwo := by
  intro s k t F H hlt ht
  unfold e_pwo at hlt
  split at hlt
  rotate_left
  · cases hlt
  rename_i hlen hpick hmem
  obtain ⟨tmps, mem⟩ := s
  simp only at hlen hpick hmem
  subst hmem
  obtain rfl := Option.some.inj hlt
  obtain ⟨⟨rfl, rfl, h1, _⟩, ht2⟩ := needs_ok ht
  clear ht hlt
  obtain ⟨n, rfl⟩ := Int.eq_ofNat_of_zero_le h1.1
  simp only [Int.toNat_natCast] at ht2
  refine ⟨_, _, ht2, loop_run2 mixed E3_ok (s_pwo n) (inv_pwo n) (me_pwo n) re_pwo (rs_pwo n) k_pwo (fun _ => rfl) ltPw_good (round_pwo n (by omega)) (x := (0, [])) ⟨Nat.zero_le _, Nat.le_refl _⟩ (π := [none]) rfl ?_⟩
  refine ⟨rfl, rfl, ?_, wvs_spread' [0, 3, 6, 7] hlen rfl ?_⟩
  · repeat' (first | exact True.intro | exact rfl | exact wv_top _ _ | exact fun _ => rfl | assumption | exact Eq.symm (by assumption) | exact vI0 rfl | refine And.intro ?_ ?_)
  · rw [hpick]
    repeat' (first | exact True.intro | exact rfl | exact wv_top _ _ | exact fun _ => rfl | assumption | exact Eq.symm (by assumption) | exact vI0 rfl | refine And.intro ?_ ?_)
theorem Lr_pwo {fn : Func} (hf : Try.prog.funcs[66]? = some fn) : LoopsGood Try.prog (lt1 e_pwo) 0 (codeOf fn) := by
  obtain rfl := fn_is Try.func66 hf
  exact lt1_good lg_pwo
end Go.Proofs.Ytnlciknmpjikgaa
namespace Go.Proofs.Ytnlciknmpjikgaa
set_option linter.all false
open Go.RowKit
/-- The one value is the other with its names counted anew. -/
def Ren (ns : List Nat) (v v' : Value) : Prop := ∀ (ρ ρs : Nat → Option Pl) (x : Value), (∀ (k : Nat) n, ns[k]? = some n → ρs k = ρ n) → VR ρ v x → VR ρs v' x
theorem Ren.mono {ns t : List Nat} {v v' : Value} (h : Ren ns v v') : Ren (ns ++ t) v v' := fun ρ ρs x hk => h ρ ρs x fun k n hn => hk k n (by
  rw [List.getElem?_append_left (by
    have := List.getElem?_eq_some_iff.1 hn
    exact this.1)]
  exact hn)
def RenL (ns : List Nat) (l l' : List Value) : Prop := l.length = l'.length ∧ ∀ (k : Nat) v v', l[k]? = some v → l'[k]? = some v' → Ren ns v v'
theorem RenL.mono {ns t : List Nat} {l l' : List Value} (h : RenL ns l l') : RenL (ns ++ t) l l' := ⟨h.1, fun k v v' h1 h2 => (h.2 k v v' h1 h2).mono⟩
theorem RenL.cons {ns : List Nat} {l l' : List Value} {v v' : Value} (hv : Ren ns v v') (h : RenL ns l l') : RenL ns (v :: l) (v' :: l') := by
  refine ⟨by simp [h.1], fun k u u' h1 h2 => ?_⟩
  cases k with
  | zero =>
    obtain rfl : v = u := by simpa using h1
    obtain rfl : v' = u' := by simpa using h2
    exact hv
  | succ k => exact h.2 k u u' (by simpa using h1) (by simpa using h2)
/-- So many blocks have been read. -/
def Red (s : FS) (ns : List Nat) (css : List Cs) (i : Nat) : Prop := css.length = i ∧ ∀ (j : Nat) cs, css[j]? = some cs → ∃ n b, ns[j]? = some n ∧ s.blk n = some b ∧ b.live = true ∧ RenL ns b.cells cs.list
theorem Red.mono {s : FS} {ns t : List Nat} {css : List Cs} {i : Nat} (h : Red s ns css i) : Red s (ns ++ t) css i := ⟨h.1, fun j cs hj => by
  obtain ⟨n, b, h1, h2, h3, h4⟩ := h.2 j cs hj
  refine ⟨n, b, ?_, h2, h3, h4.mono⟩
  rw [List.getElem?_append_left (List.getElem?_eq_some_iff.1 h1).1]
  exact h1⟩
end Go.Proofs.Ytnlciknmpjikgaa
namespace Go.Proofs.Ytnlciknmpjikgaa
set_option linter.all false
open Go.RowKit
def LPw : FuncId → LT := fun f => match f with
  | 66 => lt1 e_pwo
  | _ => noL
def EPw : Env := mkE B0 (fun _ _ => none) LPw
theorem EPw_ok : EnvOk Try.prog EPw := mkEOk B0_ok (fun _ _ _ _ _ h => (by cases h)) (by
  intro f fn hf
  unfold LPw
  split
  all_goals first | with_reducible exact Lr_pwo hf | exact noL_good)
set_option maxRecDepth 100000 in
theorem tr_pw (n : Int) : bodyX Try.prog EPw 30 12 66 [.v (.int .i64 n)] = .need (n = n) (.need ((0 : Int) = (0 : Int)) (.need ((0 : Int) ≤ n ∧ n ≤ (20 : Int)) (.fin (.slice (some ⟨1, 0, none⟩) ((prI n.toNat 0).length) ((prI n.toNat 0).length)) [none, some ⟨.row 71 2, .ints (flat (prI n.toNat 0))⟩]))) := by kernel_rfl
abbrev rowQ (qs : List Pt) : Value := .slice (some ⟨0, 0, none⟩) qs.length qs.length
abbrev blkQ (qs : List Pt) : Blk := ⟨.row 71 2, .ints (flat qs)⟩
theorem resR_pw (n : Int) (h : 0 ≤ n ∧ n ≤ 20) : ResR Try.prog 66 [.v (.int .i64 n)] (rowQ (prL n.toNat)) (blkQ (prL n.toNat)) := by
  refine bodyX_resR mixed EPw_ok (m := 30) (n := 12) rfl ?_
  rw [tr_pw]
  exact ⟨rfl, rfl, h, some 1, ⟨rfl, rfl, rfl⟩, rfl, rfl, rfl⟩
def RPw : TabR := fun f ds => match f, ds with
  | 66, [.v (.int .i64 n)] => some (rowQ (prL n.toNat), blkQ (prL n.toNat), [0 ≤ n ∧ n ≤ 20])
  | _, _ => none
theorem RPw_ok : TabROk Try.prog RPw := by
  intro f ds v b C h hC
  unfold RPw at h
  split at h
  · obtain ⟨rfl, rfl, rfl⟩ : _ ∧ _ ∧ _ := by simpa using h
    exact resR_pw _ hC.1
  · cases h
end Go.Proofs.Ytnlciknmpjikgaa
namespace Go.Proofs.Ytnlciknmpjikgaa
set_option linter.all false
open Go.RowKit
def depL : Nat → List Int → Nat → Prop
  | 0, _, _ => False
  | k + 1, g, i => dep k g i
def fdS (N : Nat) : WSpec := fun e sz l xs rest => match Nat.beq e 3 && Nat.beq sz 1, rest with
  | true, [.int .i64 i] => some (.int .i64 ((fd N xs i.toNat).2 : Int), (fd N xs i.toNat).1, [inG l xs, l ≤ 1000, 0 ≤ i ∧ i < l, depL N xs i.toNat])
  | _, _ => none
def JFd (N : Nat) : TabJ := consJ 110 (fun _ => wrG (fdS N)) noJ
def EFd (N : Nat) : Env := withT (mkE B0 (fun _ _ => none) (fun _ => noL)) (JFd N)
set_option maxRecDepth 100000 in
theorem tr_fd (N : Nat) (l : Nat) (xs : List Int) (i : Int) : bodyM Try.prog (EFd N) (runM Try.prog (EFd N) 30 12) 30 110 [.slice (some ⟨0, 0, none⟩) l l, .int .i64 i] [some ⟨.row 3 1, .ints xs⟩] .fin = .need ((0 : Int) ≤ i ∧ i < (↑l : Int)) (.need ((0 : Nat) + i.toNat * (1 : Nat) < xs.length) (brT (!xs.getD (0 + i.toNat * 1) 0 == i) (.need ((0 : Int) ≤ i ∧ i < (↑l : Int)) (.need ((0 : Nat) + i.toNat * (1 : Nat) < xs.length) (.need (inG l xs) (.need (l ≤ (1000 : Nat)) (.need ((0 : Int) ≤ xs.getD ((0 : Nat) + i.toNat * (1 : Nat)) (0 : Int) ∧ xs.getD ((0 : Nat) + i.toNat * (1 : Nat)) (0 : Int) < (↑l : Int)) (.need (depL N xs (xs.getD ((0 : Nat) + i.toNat * (1 : Nat)) (0 : Int)).toNat) (.need ((0 : Int) ≤ i ∧ i < (↑l : Int)) (.need ((0 : Nat) + i.toNat * (1 : Nat) + (1 : Nat) ≤ (fd N xs (xs.getD ((0 : Nat) + i.toNat * (1 : Nat)) (0 : Int)).toNat).1.length) (.need ((0 : Int) ≤ i ∧ i < (↑l : Int)) (.need ((0 : Nat) + i.toNat * (1 : Nat) < (setInts (fd N xs (xs.getD ((0 : Nat) + i.toNat * (1 : Nat)) (0 : Int)).toNat).1 ((0 : Nat) + i.toNat * (1 : Nat)) [(↑(fd N xs (xs.getD ((0 : Nat) + i.toNat * (1 : Nat)) (0 : Int)).toNat).snd : Int)]).length) (.fin (.int .i64 ((setInts (fd N xs (xs.getD (0 + i.toNat * (1 : Nat)) 0).toNat).1 (0 + i.toNat * 1) [(↑(fd N xs (xs.getD (0 + i.toNat * (1 : Nat)) 0).toNat).snd : Int)]).getD (0 + i.toNat * 1) 0)) [some ⟨.row 3 1, .ints (setInts (fd N xs (xs.getD (0 + i.toNat * (1 : Nat)) 0).toNat).1 (0 + i.toNat * 1) [(↑(fd N xs (xs.getD (0 + i.toNat * (1 : Nat)) 0).toNat).snd : Int)])⟩]))))))))))) (.need ((0 : Int) ≤ i ∧ i < (↑l : Int)) (.need ((0 : Nat) + i.toNat * (1 : Nat) < xs.length) (.fin (.int .i64 (xs.getD (0 + i.toNat * 1) 0)) [some ⟨.row 3 1, .ints (xs)⟩]))))) := by kernel_rfl
set_option maxRecDepth 100000 in
theorem fdS_ok : ∀ N, WSpecOk Try.prog 110 (fdS N) := by
  intro N
  induction N with
  | zero =>
    intro e sz l xs rest v ys C h hC
    unfold fdS at h
    split at h
    rotate_left
    · cases h
    obtain ⟨rfl, rfl, rfl⟩ : _ ∧ _ ∧ _ := by simpa using h
    exact hC.2.2.2.1.elim
  | succ N ih =>
    intro e sz l xs rest v ys C h hC
    unfold fdS at h
    split at h
    rotate_left
    · cases h
    rename_i i heq
    obtain ⟨h1, h2⟩ : Nat.beq e 3 = true ∧ Nat.beq sz 1 = true := by simpa using heq
    obtain rfl := Nat.eq_of_beq_eq_true h1
    obtain rfl := Nat.eq_of_beq_eq_true h2
    obtain ⟨rfl, rfl, rfl⟩ : _ ∧ _ ∧ _ := by simpa using h
    obtain ⟨hg, hl, hi, hd, _⟩ := hC
    have hd : dep N xs i.toNat := hd
    obtain ⟨i, rfl⟩ := Int.eq_ofNat_of_zero_le hi.1
    simp only [Int.toNat_natCast] at *
    refine ⟨EFd N, 30, 12, withT_ok (mkEOk B0_ok (fun _ _ _ _ _ h => (by cases h)) (fun _ _ _ => noL_good)) (consJ_wr mixed (J := noJ) (failG_sound _) (entersB_res (by kernel_rfl)).1 ih), rfl, ?_⟩
    rw [tr_fd]
    have hlen : xs.length = l := hg.1
    obtain ⟨u1, u2⟩ := inG_up hg (show i < l by omega)
    have eu : (xs.getD i 0).toNat = upN xs i := rfl
    simp only [Int.toNat_natCast, Nat.mul_one, Nat.zero_add, eu]
    refine ⟨by omega, by omega, brT_ok.2 ⟨fun c => ?_, fun c => ?_⟩⟩
    · have ne : upN xs i ≠ i := fun e => by
        rw [← u2, e] at c
        simp at c
      have hd2 : depL N xs (upN xs i) := by
        cases N with
        | zero => exact absurd hd ne
        | succ k =>
          rcases hd with h | h
          · exact absurd h ne
          · exact h
      have hd3 : dep N xs (upN xs i) := by
        cases N with
        | zero => exact hd2.elim
        | succ k => exact dep_up hd2
      obtain ⟨q1, q2, _⟩ := fd_ok hg u1 hd3
      have ql := q1.1
      simp only [fd, if_neg ne]
      rw [setInts_one _ _ (by omega)]
      have g : ((fd N xs (upN xs i)).1.set i ((fd N xs (upN xs i)).2 : Int)).getD i 0 = ((fd N xs (upN xs i)).2 : Int) := by simp [show i < (fd N xs (upN xs i)).1.length by omega]
      rw [g]
      refine ⟨by omega, by omega, hg, hl, by omega, hd2, by omega, by omega, by omega, by rw [List.length_set]; omega, rfl, _, rfl, rfl, rfl⟩
    · have e : upN xs i = i := by
        have : xs.getD i 0 = (i : Int) := by simpa using c
        omega
      simp only [fd, e, if_true]
      rw [← u2, e]
      exact ⟨by omega, by omega, rfl, _, rfl, rfl, rfl⟩
set_option maxRecDepth 100000 in
theorem tr_cnn (N : Nat) (l : Nat) (xs : List Int) (a b : Int) : bodyM Try.prog (EFd N) (runM Try.prog (EFd N) 30 12) 30 99 [.slice (some ⟨0, 0, none⟩) l l, .agg ⟨[iv a, iv b]⟩] [some ⟨.row 3 1, .ints xs⟩] .fin = .need (inG l xs) (.need (l ≤ (1000 : Nat)) (.need ((0 : Int) ≤ a ∧ a < (↑l : Int)) (.need (depL N xs a.toNat) (.need (inG l (fd N xs a.toNat).1) (.need (l ≤ (1000 : Nat)) (.need ((0 : Int) ≤ b ∧ b < (↑l : Int)) (.need (depL N (fd N xs a.toNat).1 b.toNat) (.need ((0 : Int) ≤ (↑(fd N xs a.toNat).snd : Int) ∧ (↑(fd N xs a.toNat).snd : Int) < (↑l : Int)) (.need ((0 : Nat) + (↑(fd N xs a.toNat).snd : Int).toNat * (1 : Nat) + (1 : Nat) ≤ (fd N (fd N xs a.toNat).fst b.toNat).1.length) (.fin (.tuple #[]) [some ⟨.row 3 1, .ints (setInts (fd N (fd N xs a.toNat).fst b.toNat).1 (0 + (↑(fd N xs a.toNat).snd : Int).toNat * 1) [(↑(fd N (fd N xs a.toNat).fst b.toNat).snd : Int)])⟩, some ⟨.box, .vals [.int .i64 (a), .int .i64 (b)]⟩, none, none])))))))))) := by kernel_rfl
set_option maxRecDepth 100000 in
theorem tr_cnd (N : Nat) (l : Nat) (xs : List Int) (a b : Int) : bodyM Try.prog (EFd N) (runM Try.prog (EFd N) 30 12) 30 100 [.slice (some ⟨0, 0, none⟩) l l, .agg ⟨[iv a, iv b]⟩] [some ⟨.row 3 1, .ints xs⟩] .fin = .need (inG l xs) (.need (l ≤ (1000 : Nat)) (.need ((0 : Int) ≤ a ∧ a < (↑l : Int)) (.need (depL N xs a.toNat) (.need (inG l (fd N xs a.toNat).1) (.need (l ≤ (1000 : Nat)) (.need ((0 : Int) ≤ b ∧ b < (↑l : Int)) (.need (depL N (fd N xs a.toNat).1 b.toNat) (.fin (.bool ((↑(fd N xs a.toNat).snd : Int) == (↑(fd N (fd N xs a.toNat).fst b.toNat).snd : Int))) [some ⟨.row 3 1, .ints ((fd N (fd N xs a.toNat).fst b.toNat).1)⟩, some ⟨.box, .vals [.int .i64 (a), .int .i64 (b)]⟩, none, none])))))))) := by kernel_rfl
/-- find, as it is told from here on. -/
def JFi : TabJ := JFd 100
theorem JFi_ok : GSound Try.prog JFi.g := consJ_wr mixed (J := noJ) (failG_sound _) (entersB_res (by kernel_rfl)).1 (fdS_ok 100)
def EFi : Env := withT (mkE B0 (fun _ _ => none) (fun _ => noL)) JFi
theorem EFi_ok : EnvOk Try.prog EFi := withT_ok (mkEOk B0_ok (fun _ _ _ _ _ h => (by cases h)) (fun _ _ _ => noL_good)) JFi_ok
/-- What connect makes of the groups. -/
def cnG (g : List Int) (a b : Nat) : List Int := (fd 100 (fd 100 g a).1 b).1.set (fd 100 g a).2 ((fd 100 (fd 100 g a).1 b).2 : Int)
def cnC (l : Nat) (g : List Int) (a b : Int) : List Prop := [inG l g, l ≤ 1000, (0 ≤ a ∧ a < l) ∧ (0 ≤ b ∧ b < l), ∀ j, j < l → dep 99 g j]
def cnS : WSpec := fun e sz l xs rest => match Nat.beq e 3 && Nat.beq sz 1, rest with
  | true, [.agg ⟨[.int .i64 a, .int .i64 b]⟩] => some (.tuple #[], cnG xs a.toNat b.toNat, cnC l xs a b)
  | _, _ => none
def cdS : WSpec := fun e sz l xs rest => match Nat.beq e 3 && Nat.beq sz 1, rest with
  | true, [.agg ⟨[.int .i64 a, .int .i64 b]⟩] => some (.bool (decide (rto 99 xs a.toNat = rto 99 xs b.toNat)), (fd 100 (fd 100 xs a.toNat).1 b.toNat).1, cnC l xs a b)
  | _, _ => none
theorem two_finds {l : Nat} {xs : List Int} {a b : Nat} (hg : inG l xs) (ha : a < l) (hb : b < l) (hd : ∀ j, j < l → dep 99 xs j) : inG l (fd 100 xs a).1 ∧ (∀ j, j < l → dep 99 (fd 100 xs a).1 j) ∧ inG l (fd 100 (fd 100 xs a).1 b).1 ∧ (fd 100 xs a).2 = rto 99 xs a ∧ (fd 100 (fd 100 xs a).1 b).2 = rto 99 xs b ∧ rto 99 xs a < l ∧ rto 99 xs b < l := by
  obtain ⟨q1, q2, q3⟩ := fd_ok (k := 100) hg ha (dep_up (hd a ha))
  obtain ⟨r1, r2⟩ := q3 (hd b hb)
  obtain ⟨s1, s2, s3⟩ := fd_ok (k := 100) q1 hb (dep_up r1)
  refine ⟨q1, fun j hj => (q3 (hd j hj)).1, s1, q2.trans (rto_mono (by omega) (hd a ha)), ?_, rto_lt hg ha, rto_lt hg hb⟩
  rw [s2, rto_mono (by omega) r1, r2]
set_option maxRecDepth 100000 in
theorem cnS_ok : WSpecOk Try.prog 99 cnS := by
  intro e sz l xs rest v ys C h hC
  unfold cnS at h
  split at h
  rotate_left
  · cases h
  rename_i a b heq
  obtain ⟨h1, h2⟩ : Nat.beq e 3 = true ∧ Nat.beq sz 1 = true := by simpa using heq
  obtain rfl := Nat.eq_of_beq_eq_true h1
  obtain rfl := Nat.eq_of_beq_eq_true h2
  obtain ⟨rfl, rfl, rfl⟩ : _ ∧ _ ∧ _ := by simpa using h
  obtain ⟨hg, hl, hi, hd, _⟩ := hC
  obtain ⟨a, rfl⟩ := Int.eq_ofNat_of_zero_le hi.1.1
  obtain ⟨b, rfl⟩ := Int.eq_ofNat_of_zero_le hi.2.1
  simp only [Int.toNat_natCast] at *
  refine ⟨EFi, 30, 12, EFi_ok, rfl, ?_⟩
  have t := tr_cnn 100 l xs a b
  rw [show EFi = EFd 100 from rfl, t]
  obtain ⟨q1, q2, q3, q4, q5, q6, q7⟩ := two_finds hg (show a < l by omega) (show b < l by omega) hd
  have ql := q3.1
  simp only [Int.toNat_natCast, Nat.mul_one, Nat.zero_add]
  refine ⟨hg, hl, by omega, hd a (by omega), q1, hl, by omega, q2 b (by omega), by omega, by omega, rfl, _, rfl, rfl, ?_⟩
  rw [setInts_one _ _ (by omega)]
  rfl
set_option maxRecDepth 100000 in
theorem cdS_ok : WSpecOk Try.prog 100 cdS := by
  intro e sz l xs rest v ys C h hC
  unfold cdS at h
  split at h
  rotate_left
  · cases h
  rename_i a b heq
  obtain ⟨h1, h2⟩ : Nat.beq e 3 = true ∧ Nat.beq sz 1 = true := by simpa using heq
  obtain rfl := Nat.eq_of_beq_eq_true h1
  obtain rfl := Nat.eq_of_beq_eq_true h2
  obtain ⟨rfl, rfl, rfl⟩ : _ ∧ _ ∧ _ := by simpa using h
  obtain ⟨hg, hl, hi, hd, _⟩ := hC
  obtain ⟨a, rfl⟩ := Int.eq_ofNat_of_zero_le hi.1.1
  obtain ⟨b, rfl⟩ := Int.eq_ofNat_of_zero_le hi.2.1
  simp only [Int.toNat_natCast] at *
  refine ⟨EFi, 30, 12, EFi_ok, rfl, ?_⟩
  have t := tr_cnd 100 l xs a b
  rw [show EFi = EFd 100 from rfl, t]
  obtain ⟨q1, q2, q3, q4, q5, q6, q7⟩ := two_finds hg (show a < l by omega) (show b < l by omega) hd
  refine ⟨hg, hl, by omega, hd a (by omega), q1, hl, by omega, q2 b (by omega), ?_, _, rfl, rfl, rfl⟩
  simp only [Int.toNat_natCast]
  rw [q4, q5]
  congr 1
  rw [Bool.eq_iff_iff, beq_iff_eq, decide_eq_true_eq]
  omega
end Go.Proofs.Ytnlciknmpjikgaa
namespace Go.Proofs.Ytnlciknmpjikgaa
set_option linter.all false
open Go.RowKit
def Eg0 : Env := mkE B0 (fun _ _ => none) (fun _ => noL)
theorem Eg0_ok : EnvOk Try.prog Eg0 := mkEOk B0_ok (fun _ _ _ _ _ h => (by cases h)) (fun _ _ _ => noL_good)
/-- The numbers from 0 on. -/
def rgI (n : Nat) : List Int := (List.range n).map fun j : Nat => (j : Int)
theorem rgI_len (n : Nat) : (rgI n).length = n := by simp [rgI]
theorem rgI_at {n j : Nat} (h : j < n) : (rgI n).getD j 0 = j := by simp [rgI, h]
noncomputable def c_sgr : Code := ((loopsOf (codeOf Try.f97))[0]?).getD .skip
def k_sgr : Ex → List Nat := keeps [3, 8, 9] [(0, [3])] [2]
def s_sgr (n : Nat) : Nat × (List Int) → St := fun (i, g) => ⟨[topV, topV, topV, .slice (some ⟨1, 0, none⟩) n n, topV, topV, topV, topV, .int .i64 n, .int .i64 i, topV, topV, topV, topV, topV, topV, topV, topV], [none, some ⟨.row 3 1, .ints g⟩]⟩
def re_sgr : Nat × (List Int) → Ex := fun _ => .exit 0
def rs_sgr (n : Nat) : Nat × (List Int) → St := fun (i, g) => ⟨[topV, topV, topV, .slice (some ⟨1, 0, none⟩) n n, topV, topV, topV, topV, topV, topV, topV, topV, topV, topV, topV, topV, topV, topV], [none, some ⟨.row 3 1, .ints (rgI n)⟩]⟩
set_option maxRecDepth 100000 in
theorem tr_sgr (n : Nat) (i : Nat) (g : List Int) : bodyL Try.prog Eg0 30 12 noL 1 c_sgr k_sgr 2 (s_sgr n (i, g)) = brT (decide ((↑i : Int) < (↑n : Int))) (.need ((0 : Int) ≤ (↑i : Int) ∧ (↑i : Int) < (↑n : Int)) (.need ((0 : Nat) + (↑i : Int).toNat * (1 : Nat) + (1 : Nat) ≤ g.length) (.leaf .normal ⟨[topV, topV, topV, .slice (some ⟨1, 0, none⟩) (n) (n), topV, topV, topV, topV, .int .i64 ((↑n : Int)), .int .i64 (IntKind.i64.wrap ((↑i : Int) + 1)), topV, topV, topV, topV, topV, topV, topV, topV], [none, some ⟨.row 3 1, .ints (setInts g (0 + (↑i : Int).toNat * 1) [(↑i : Int)])⟩]⟩))) (.leaf (.exit 0) ⟨[topV, topV, topV, .slice (some ⟨1, 0, none⟩) (n) (n), topV, topV, topV, topV, topV, topV, topV, topV, topV, topV, topV, topV, topV, topV], [none, some ⟨.row 3 1, .ints (g)⟩]⟩) := by kernel_rfl
set_option maxRecDepth 100000 in
theorem nl_sgr : loopsOf c_sgr = [] := by kernel_rfl
def inv_sgr (n : Nat) : Nat × (List Int) → Prop := fun (i, g) => i ≤ n ∧ g.length = n ∧ g.take i = (rgI n).take i
def me_sgr (n : Nat) : Nat × (List Int) → Nat := fun (i, g) => n - i
/-- A round of this loop. -/
def Round_sgr (n : Nat) : Prop := ∀ xx : Nat × (List Int), inv_sgr n xx → (bodyL Try.prog Eg0 30 12 noL 1 c_sgr k_sgr 2 (s_sgr n xx)).ok (RoundEnd 2 (s_sgr n) (inv_sgr n) (me_sgr n) re_sgr (rs_sgr n) xx) (fun _ _ => False)
def e_sgr (s : St) (k : Ex → St → Tree) : Option Tree := match Nat.beq s.tmps.length 18, pickL s.tmps [3, 8, 9], s.mem with
  | true, [.slice (some ⟨1, 0, none⟩) m _, .int .i64 m1, .int .i64 i0], [none, some ⟨.row 3 1, .ints ys⟩] => some (needs [i0 = 0, m1 = m, ys.length = m, m ≤ 1000] (k (.exit 0) ⟨[topV, topV, topV, .slice (some ⟨1, 0, none⟩) m m, topV, topV, topV, topV, topV, topV, topV, topV, topV, topV, topV, topV, topV, topV], [none, some ⟨.row 3 1, .ints (rgI m)⟩]⟩))
  | _, _, _ => none
set_option maxRecDepth 100000 in
theorem round_sgr (n : Nat) (h : n ≤ 1000) : Round_sgr n := by
  rintro ⟨i, g⟩ ⟨h1, h2, h3⟩
  rw [tr_sgr]
  simp only [Int.toNat_natCast, Nat.zero_add, Nat.mul_one]
  refine brT_ok.2 ⟨fun hlt => ?_, fun hge => ?_⟩
  · have hlt := of_decide_eq_true hlt
    have hi : i < n := by omega
    have w : IntKind.i64.wrap ((i : Int) + 1) = ((i + 1 : Nat) : Int) := by rw [show (i : Int) + 1 = ((i + 1 : Nat) : Int) by omega]; exact wr (by omega)
    rw [w, setInts_one _ _ (by omega)]
    refine ⟨by omega, by omega, (i + 1, g.set i (i : Int)), [], ⟨hi, by simp [h2], ?_⟩, ?_, rfl, rfl, ?_⟩
    · have := take_set_succ (l := g) (m := rgI n) (i := i) (by omega) (by rw [rgI_len]; omega) h3 0
      rw [rgI_at hi] at this
      exact this
    · show n - (i + 1) < n - i; omega
    · repeat' (first | exact True.intro | exact rfl | exact fun _ => rfl | refine And.intro ?_ ?_)
  · have hge := of_decide_eq_false hge
    have e : g = rgI n := by
      rw [List.take_of_length_le (by omega), List.take_of_length_le (by rw [rgI_len]; omega)] at h3
      exact h3
    subst e
    refine ⟨rfl, [], ?_⟩
    repeat' (first | exact True.intro | exact rfl | exact fun _ => rfl | refine And.intro ?_ ?_)
set_option maxRecDepth 100000 in
theorem lg_sgr : LoopE Try.prog e_sgr c_sgr := by
  intro s k t F H hlt ht
  unfold e_sgr at hlt
  split at hlt
  rotate_left
  · cases hlt
  rename_i hlen hpick hmem
  obtain ⟨tmps, mem⟩ := s
  simp only at hlen hpick hmem
  subst hmem
  obtain rfl := Option.some.inj hlt
  obtain ⟨⟨rfl, rfl, h2, h3, _⟩, ht2⟩ := needs_ok ht
  clear ht hlt
  refine ⟨_, _, ht2, loop_run mixed Eg0_ok (s_sgr _) (inv_sgr _) (me_sgr _) re_sgr (rs_sgr _) k_sgr (fun _ => rfl) (noLoops nl_sgr) (round_sgr _ h3) (x := (0, _)) ⟨Nat.zero_le _, h2, rfl⟩ (π := []) rfl ?_⟩
  refine ⟨rfl, rfl, ?_, wvs_spread' [3, 8, 9] hlen rfl ?_⟩
  · repeat' (first | exact True.intro | exact rfl | exact wv_top _ _ | exact fun _ => rfl | assumption | exact Eq.symm (by assumption) | exact vI0 rfl | refine And.intro ?_ ?_)
  · rw [hpick]
    repeat' (first | exact True.intro | exact rfl | exact wv_top _ _ | exact fun _ => rfl | assumption | exact Eq.symm (by assumption) | exact vI0 rfl | refine And.intro ?_ ?_)
/-- The place of a number among so many from one on, or -1. -/
def plF1 (xs : List Int) (k : Int) : Nat → Nat → Int
  | _, 0 => -1
  | i, m + 1 => if xs.getD i 0 = k then (i : Int) else plF1 xs k (i + 1) m
theorem plF1_end (xs : List Int) (k : Int) {i n : Nat} (h : n ≤ i) : plF1 xs k i (n - i) = -1 := by
  rw [show n - i = 0 by omega]
  rfl
theorem plF1_step (xs : List Int) (k : Int) {i n : Nat} (h : i < n) : plF1 xs k i (n - i) = if xs.getD i 0 = k then (i : Int) else plF1 xs k (i + 1) (n - (i + 1)) := by
  rw [show n - i = (n - (i + 1)) + 1 by omega]
  rfl
noncomputable def c_plc : Code := ((loopsOf (codeOf Try.f94))[0]?).getD .skip
def k_plc : Ex → List Nat := keeps [0, 1, 5] [(0, [])] [4]
def s_plc (n : Nat) (xs : List Int) (q : Int) : Nat → St := fun i => ⟨[.slice (some ⟨0, 0, none⟩) n n, .int .i64 q, topV, topV, topV, .int .i64 i, topV, topV, topV, topV, topV, topV, topV, topV, topV, topV, topV, topV, topV], [some ⟨.view, .ints xs⟩, none]⟩
def re_plc (n : Nat) (xs : List Int) (q : Int) : Nat → Ex := fun i => bif decide (plF1 xs q i (n - i) = -1) then .exit 0 else .ret
def rs_plc (n : Nat) (xs : List Int) (q : Int) : Nat → St := fun i => bif decide (plF1 xs q i (n - i) = -1) then ⟨[topV, topV, topV, topV, topV, topV, topV, topV, topV, topV, topV, topV, topV, topV, topV, topV, topV, topV, topV], [some ⟨.view, .ints xs⟩, none]⟩ else ⟨[topV, topV, topV, topV, .int .i64 (plF1 xs q i (n - i)), topV, topV, topV, topV, topV, topV, topV, topV, topV, topV, topV, topV, topV, topV], [some ⟨.view, .ints xs⟩, none]⟩
set_option maxRecDepth 100000 in
theorem tr_plc (n : Nat) (xs : List Int) (q : Int) (i : Nat) : bodyL Try.prog Eg0 30 12 noL 1 c_plc k_plc 2 (s_plc n xs q i) = brT (decide ((↑i : Int) < (↑n : Int))) (.need ((0 : Int) ≤ (↑i : Int) ∧ (↑i : Int) < (↑n : Int)) (.need ((0 : Nat) + (↑i : Int).toNat * (1 : Nat) < xs.length) (brT (xs.getD (0 + (↑i : Int).toNat * 1) 0 == q) (.leaf .ret ⟨[topV, topV, topV, topV, .int .i64 ((↑i : Int)), topV, topV, topV, topV, topV, topV, topV, topV, topV, topV, topV, topV, topV, topV], [some ⟨.view, .ints (xs)⟩, none]⟩) (.leaf .normal ⟨[.slice (some ⟨0, 0, none⟩) (n) (n), .int .i64 (q), topV, topV, topV, .int .i64 (IntKind.i64.wrap ((↑i : Int) + 1)), topV, topV, topV, topV, topV, topV, topV, topV, topV, topV, topV, topV, topV], [some ⟨.view, .ints (xs)⟩, none]⟩)))) (.leaf (.exit 0) ⟨[topV, topV, topV, topV, topV, topV, topV, topV, topV, topV, topV, topV, topV, topV, topV, topV, topV, topV, topV], [some ⟨.view, .ints (xs)⟩, none]⟩) := by kernel_rfl
set_option maxRecDepth 100000 in
theorem nl_plc : loopsOf c_plc = [] := by kernel_rfl
def inv_plc (n : Nat) (xs : List Int) (q : Int) : Nat → Prop := fun i => i ≤ n
def me_plc (n : Nat) (xs : List Int) (q : Int) : Nat → Nat := fun i => n - i
/-- A round of this loop. -/
def Round_plc (n : Nat) (xs : List Int) (q : Int) : Prop := ∀ xx : Nat, inv_plc n xs q xx → (bodyL Try.prog Eg0 30 12 noL 1 c_plc k_plc 2 (s_plc n xs q xx)).ok (RoundEnd 2 (s_plc n xs q) (inv_plc n xs q) (me_plc n xs q) (re_plc n xs q) (rs_plc n xs q) xx) (fun _ _ => False)
def e_plc (s : St) (k : Ex → St → Tree) : Option Tree := match Nat.beq s.tmps.length 19, pickL s.tmps [0, 1, 5], s.mem with
  | true, [.slice (some ⟨0, 0, none⟩) n _, .int .i64 q, .int .i64 i0], [some ⟨.view, .ints xs⟩, none] => some (needs [i0 = 0, n ≤ xs.length, n ≤ 1000000000] (brT (decide (plF1 xs q 0 n = -1)) (k (.exit 0) ⟨[topV, topV, topV, topV, topV, topV, topV, topV, topV, topV, topV, topV, topV, topV, topV, topV, topV, topV, topV], [some ⟨.view, .ints xs⟩, none]⟩) (k .ret ⟨[topV, topV, topV, topV, .int .i64 (plF1 xs q 0 n), topV, topV, topV, topV, topV, topV, topV, topV, topV, topV, topV, topV, topV, topV], [some ⟨.view, .ints xs⟩, none]⟩)))
  | _, _, _ => none
set_option maxRecDepth 100000 in
theorem round_plc (n : Nat) (xs : List Int) (q : Int) (hx : n ≤ xs.length) (h : n ≤ 1000000000) : Round_plc n xs q := by
  intro i h1
  have h1 : i ≤ n := h1
  rw [tr_plc]
  simp only [Int.toNat_natCast, Nat.zero_add, Nat.mul_one]
  refine brT_ok.2 ⟨fun hlt => ?_, fun hge => ?_⟩
  · have hlt := of_decide_eq_true hlt
    have hi : i < n := by omega
    have st := plF1_step xs q hi
    rw [wsucc (n := n) hi h]
    refine ⟨by omega, by omega, brT_ok.2 ⟨fun c => ?_, fun c => ?_⟩⟩
    · have c : xs.getD i 0 = q := by simpa using c
      rw [if_pos c] at st
      have e : decide (plF1 xs q i (n - i) = -1) = false := decide_eq_false (by omega)
      refine ⟨by simp only [re_plc, e, cond_false], [], ?_⟩
      simp only [rs_plc, e, cond_false, st]
      repeat' (first | exact True.intro | exact rfl | exact fun _ => rfl | refine And.intro ?_ ?_)
    · have c : ¬ xs.getD i 0 = q := by simpa using c
      rw [if_neg c] at st
      refine ⟨i + 1, [], ?_, ?_, by simp only [re_plc, st], by simp only [rs_plc, st], ?_⟩
      · show i + 1 ≤ n; omega
      · show n - (i + 1) < n - i; omega
      · repeat' (first | exact True.intro | exact rfl | exact fun _ => rfl | refine And.intro ?_ ?_)
  · have hge := of_decide_eq_false hge
    have e : decide (plF1 xs q i (n - i) = -1) = true := by rw [plF1_end xs q (by omega)]; rfl
    refine ⟨by simp only [re_plc, e, cond_true], [], ?_⟩
    simp only [rs_plc, e, cond_true]
    repeat' (first | exact True.intro | exact rfl | exact fun _ => rfl | refine And.intro ?_ ?_)
set_option maxRecDepth 100000 in
theorem lg_plc : LoopE Try.prog e_plc c_plc := by
  intro s k t F H hlt ht
  unfold e_plc at hlt
  split at hlt
  rotate_left
  · cases hlt
  rename_i hlen hpick hmem
  obtain ⟨tmps, mem⟩ := s
  simp only at hlen hpick hmem
  subst hmem
  obtain rfl := Option.some.inj hlt
  obtain ⟨⟨rfl, h1, h2, _⟩, ht2⟩ := needs_ok ht
  clear ht hlt
  refine ⟨_, _, pick2k ht2, loop_run mixed Eg0_ok (s_plc _ _ _) (inv_plc _ _ _) (me_plc _ _ _) (re_plc _ _ _) (rs_plc _ _ _) k_plc (fun _ => rfl) (noLoops nl_plc) (round_plc _ _ _ h1 h2) (x := 0) (Nat.zero_le _) (π := []) rfl ?_⟩
  refine ⟨rfl, rfl, ?_, wvs_spread' [0, 1, 5] hlen rfl ?_⟩
  · repeat' (first | exact True.intro | exact rfl | exact wv_top _ _ | exact fun _ => rfl | assumption | exact Eq.symm (by assumption) | exact vI0 rfl | refine And.intro ?_ ?_)
  · rw [hpick]
    repeat' (first | exact True.intro | exact rfl | exact wv_top _ _ | exact fun _ => rfl | assumption | exact Eq.symm (by assumption) | exact vI0 rfl | refine And.intro ?_ ?_)
end Go.Proofs.Ytnlciknmpjikgaa
