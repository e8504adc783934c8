/-
  Texts that the proof needs, merged. Written by an AI agent.
-/
import Derived.Orders
import Derived.Below
import Derived.OrdersIn
import Derived.Deep.LoopGhost
import Derived.WalkKit
import Derived.Laws.CopyRow
import Derived.Laws.AppendOwn
import Derived.Laws.Slices
import Derived.Laws.MakeOwn
import Derived.Test.YtnjmepbblcfnfaaRows
import Derived.ProofKit
import Derived.OpenShut
import Derived.Carry
import Derived.IntWalk
import Derived.Test.YtnjmepbblcfnfaaProg
import Derived.WalkSpells
import Derived.WalkLawsBesides
import Derived.Lib.Hide
import Derived.Deep.QuietTactic
import Derived.BigQuiet
import Derived.KernelRfl
import Derived.Deep.RegionHeld3
import Derived.LoopTactic
import Derived.Laws.StructEq
import Derived.Laws.Tables
import Derived.RangeFuncNested
import Derived.RangeFuncLeaves
import Derived.Deep.Slices
import Derived.Deep.Fields
import Derived.ChangeSame
import Derived.Deep.DeepCutAuto
import Derived.Shelf.SlSortCmp.WholeK
import Derived.Sort.Grow
import Derived.Shelf.SlSortCmp.NoneTotal
import Derived.Test.YtnjmepbblcfnfaaZDiameterHull2
namespace Go.Proofs.Ytnjmepbblcfnfaa
set_option linter.all false
open Go.RowKit
abbrev iv (x : Int) : Value := .int .i64 x
def B0 : Tab := fun _ _ => none
theorem B0_ok : TabOk Try.prog B0 := fun _ _ _ _ h => by cases h
theorem mixed : Try.prog.follows .mixedOrders = true := by kernel_rfl
set_option maxRecDepth 100000 in
theorem tr_specValid (x y : Int) : runX Try.prog (tabE B0) 30 8 108 [.v (.agg #[iv x, iv y])] (fun u => .fin u []) = brT (decide (-1000 ≤ x)) (brT (decide (x ≤ 1000)) (brT (decide (-1000 ≤ y)) (.fin (.bool (decide (y ≤ 1000))) []) (.fin (.bool (false)) [])) (.fin (.bool (false)) [])) (.fin (.bool (false)) []) := by kernel_rfl
set_option maxRecDepth 100000 in
theorem tr_implValid (x y : Int) : runX Try.prog (tabE B0) 30 8 52 [.v (.agg #[iv x, iv y])] (fun u => .fin u []) = brT (decide (IntKind.i64.wrap (0 - 1000) ≤ x)) (brT (decide (x ≤ 1000)) (brT (decide (IntKind.i64.wrap (0 - 1000) ≤ y)) (.fin (.bool (decide (y ≤ 1000))) []) (.fin (.bool (false)) [])) (.fin (.bool (false)) [])) (.fin (.bool (false)) []) := by kernel_rfl
set_option maxRecDepth 100000 in
theorem tr_compare (x y : Int) : runX Try.prog (tabE B0) 30 8 129 [.v (iv x), .v (iv y)] (fun u => .fin u []) = brT (!x == x) (brT (!y == y) (.fin (.int .i64 (0)) []) (.fin (.int .i64 (-1)) [])) (brT (!y == y) (.fin (.int .i64 (1)) []) (brT (decide (x < y)) (.fin (.int .i64 (-1)) []) (brT (decide (y < x)) (.fin (.int .i64 (1)) []) (.fin (.int .i64 (0)) [])))) := by kernel_rfl
set_option maxRecDepth 100000 in
theorem tr_specSign (x : Int) : runX Try.prog (tabE B0) 30 8 145 [.v (iv x)] (fun u => .fin u []) = brT (decide (x < 0)) (.fin (.int .i64 (-1)) []) (brT (decide (0 < x)) (.fin (.int .i64 (1)) []) (.fin (.int .i64 (0)) [])) := by kernel_rfl
set_option maxRecDepth 100000 in
theorem tr_implSign (x : Int) : runX Try.prog (tabE B0) 30 8 77 [.v (iv x)] (fun u => .fin u []) = brT (!x == x) (.fin (.int .i64 (-1)) []) (brT (decide (x < 0)) (.fin (.int .i64 (-1)) []) (brT (decide (0 < x)) (.fin (.int .i64 (1)) []) (.fin (.int .i64 (0)) []))) := by kernel_rfl
theorem w1000 : IntKind.i64.wrap (0 - 1000) = -1000 := by decide
/-- The comparison of two numbers. -/
def cmpI (x y : Int) : Int := if x < y then -1 else if y < x then 1 else 0
theorem vbool_eq {a b : Bool} (h : a = b) : Value.bool a = .bool b := by rw [h]
theorem res_specValid (x y : Int) : Res Try.prog 108 [.v (.agg #[iv x, iv y])] (.bool (ptB x y)) := by
  refine res_of mixed (tabE_ok B0_ok) (m := 30) (n := 8) ?_
  rw [tr_specValid]
  simp only [brT_ok, Tree.ok, decide_eq_true_eq, decide_eq_false_iff_not]
  repeat' (first | apply And.intro | intro _)
  all_goals (refine vbool_eq ?_; unfold ptB; rw [Bool.eq_iff_iff]; simp; try omega)
theorem res_implValid (x y : Int) : Res Try.prog 52 [.v (.agg #[iv x, iv y])] (.bool (ptB x y)) := by
  refine res_of mixed (tabE_ok B0_ok) (m := 30) (n := 8) ?_
  rw [tr_implValid]
  simp only [brT_ok, Tree.ok, decide_eq_true_eq, decide_eq_false_iff_not, w1000]
  repeat' (first | apply And.intro | intro _)
  all_goals (refine vbool_eq ?_; unfold ptB; rw [Bool.eq_iff_iff]; simp; try omega)
theorem res_compare (x y : Int) : Res Try.prog 129 [.v (iv x), .v (iv y)] (iv (cmpI x y)) := by
  refine res_of mixed (tabE_ok B0_ok) (m := 30) (n := 8) ?_
  rw [tr_compare]
  simp [brT_ok, Tree.ok]
  repeat' (first | apply And.intro | intro _)
  all_goals (unfold cmpI; split <;> (try split) <;> omega)
theorem res_specSign (x : Int) : Res Try.prog 145 [.v (iv x)] (iv (cmpI x 0)) := by
  refine res_of mixed (tabE_ok B0_ok) (m := 30) (n := 8) ?_
  rw [tr_specSign]
  simp [brT_ok, Tree.ok]
  repeat' (first | apply And.intro | intro _)
  all_goals (unfold cmpI; split <;> (try split) <;> omega)
theorem res_implSign (x : Int) : Res Try.prog 77 [.v (iv x)] (iv (cmpI x 0)) := by
  refine res_of mixed (tabE_ok B0_ok) (m := 30) (n := 8) ?_
  rw [tr_implSign]
  simp [brT_ok, Tree.ok]
  repeat' (first | apply And.intro | intro _)
  all_goals (unfold cmpI; split <;> (try split) <;> omega)
end Go.Proofs.Ytnjmepbblcfnfaa
namespace Go.Proofs.Ytnjmepbblcfnfaa
set_option linter.all false
open Go.RowKit
theorem entersB_res {f : FuncId} (h : entersB Try.prog f = true) : enters Try.prog f ∧ Try.prog.inits.idxOf? f = none := by
  unfold entersB at h
  split at h
  · rename_i fn hf
    obtain ⟨h1, h2, _⟩ := entersB_spec hf (by unfold entersB; rw [hf]; exact h)
    exact ⟨h1, h2⟩
  · cases h
/-- A contract of a function of plain values, as it stands. -/
theorem res_calls {f : FuncId} {args : List Value} {v : Value} (he : entersB Try.prog f = true) (hp : args.all plainV = true) (hv : plainV v = true) (h : ∀ w, Calls Try.prog f args.toArray w fun e w' => e = .returned v ∧ Below w.heap.size w w') : Res Try.prog f (args.map .v) v := by
  obtain ⟨h1, h2⟩ := entersB_res he
  refine ⟨h1, h2, hv, fun d hd => ?_, fun w ys hd => ?_⟩
  · obtain ⟨x, hx, rfl⟩ := List.mem_map.1 hd
    exact List.all_eq_true.1 hp x hx
  · have e : ys = args.toArray := by
      apply Array.ext
      · simpa using hd.1.symm
      · intro i i1 i2
        have e1 : (args.map DArg.v)[i]? = some (.v (args[i]'(by simpa using i2))) := by simp
        exact (hd.2 i _ ys[i] e1 (by simp [i1])).2
    rw [e]
    exact h w
theorem below_same {f : FuncId} {args : Array Value} {w : World} {v : Value} (h : Calls Try.prog f args w fun e w' => e = .returned v ∧ w = w') : Calls Try.prog f args w fun e w' => e = .returned v ∧ Below w.heap.size w w' :=
  h.mono fun _ _ ⟨he, hw⟩ => ⟨he, by subst hw; exact Below.refl _ _⟩
def big (x : Int) : Prop := -4500000000000000000 ≤ x ∧ x ≤ 4500000000000000000
def pPt : List DArg → Option (Value × List Prop)
  | [.v (.agg ⟨[.int .i64 x, .int .i64 y]⟩)] => some (.bool (ptB x y), [])
  | _ => none
def pCmp : List DArg → Option (Value × List Prop)
  | [.v (.int .i64 x), .v (.int .i64 y)] => some (iv (cmpI x y), [])
  | _ => none
def pSign : List DArg → Option (Value × List Prop)
  | [.v (.int .i64 x)] => some (iv (cmpI x 0), [])
  | _ => none
def pAbs : List DArg → Option (Value × List Prop)
  | [.v (.int .i64 x)] => some (iv (x.natAbs : Int), [big x])
  | _ => none
def pAll : List DArg → Option (Value × List Prop)
  | [.row 2 (.vals [.int .i64 ax, .int .i64 ay, .int .i64 bx, .int .i64 b_y])] => some (.bool (ptB ax ay && ptB bx b_y), [])
  | [.row 3 (.vals [.int .i64 ax, .int .i64 ay, .int .i64 bx, .int .i64 b_y, .int .i64 cx, .int .i64 cy])] => some (.bool (ptB ax ay && ptB bx b_y && ptB cx cy), [])
  | [.row 4 (.vals [.int .i64 ax, .int .i64 ay, .int .i64 bx, .int .i64 b_y, .int .i64 cx, .int .i64 cy, .int .i64 dx, .int .i64 dy])] => some (.bool (ptB ax ay && ptB bx b_y && (ptB cx cy && ptB dx dy)), [])
  | _ => none
def T1 : Tab := fun f ds => match f with
  | 108 => pPt ds
  | 52 => pPt ds
  | 129 => pCmp ds
  | 145 => pSign ds
  | 77 => pSign ds
  | 139 => pAbs ds
  | 89 => pAll ds
  | _ => none
theorem row_open {w : World} {l : Nat} {cs : Cs} {y : Value} (hl : 0 < l) (h : DOk w (.row l cs) y) : ∃ g f c', y = .slice (some ⟨g, f, none⟩) l c' ∧ l ≤ c' ∧ g < w.heap.size ∧ ∀ (k : Nat) v, cs.list[k]? = some v → w.cell? ⟨g, f + k, none⟩ = some v := by
  obtain ⟨_, ad, c', h1, h2, h3⟩ := h
  obtain ⟨g, f, rfl, h4, h5⟩ := h3.resolve_left (by omega)
  exact ⟨g, f, c', h1, h2, h4, h5⟩
theorem res_row {f : FuncId} {l : Nat} {cs : Cs} {v : Value} (hl : 0 < l) (he : entersB Try.prog f = true) (hv : plainV v = true) (hat : allAtoms cs = true) (h : ∀ w g o c', l ≤ c' → g < w.heap.size → (∀ (k : Nat) v, cs.list[k]? = some v → w.cell? ⟨g, o + k, none⟩ = some v) →
    Calls Try.prog f #[.slice (some ⟨g, o, none⟩) l c'] w fun e w' => e = .returned v ∧ Below w.heap.size w w') : Res Try.prog f [.row l cs] v := by
  obtain ⟨h1, h2⟩ := entersB_res he
  refine ⟨h1, h2, hv, fun d hd => ?_, fun w ys hd => ?_⟩
  · obtain rfl : d = .row l cs := by simpa using hd
    exact hat
  · have hs := hd.1
    have h0 : ys[0]? = some (ys[0]'(by simp at hs; omega)) := by simp
    obtain ⟨g, o, c', e1, e2, e3, e4⟩ := row_open hl (hd.2 0 _ _ rfl h0)
    have e : ys = #[.slice (some ⟨g, o, none⟩) l c'] := by
      apply Array.ext
      · simpa using hs.symm
      · intro i i1 i2
        have : i = 0 := by simp at i2; omega
        subst this
        simpa using e1
    rw [e]
    exact h w g o c' e2 e3 e4
theorem T1r_0 {ds : List DArg} {v : Value} {C : List Prop} (h : pPt ds = some (v, C)) (hC : AllP C) : Res Try.prog 108 ds v := by
  unfold pPt at h
  split at h
  · obtain ⟨rfl, rfl⟩ : _ ∧ _ := by simpa using h
    exact res_specValid _ _
  · cases h
theorem T1r_1 {ds : List DArg} {v : Value} {C : List Prop} (h : pPt ds = some (v, C)) (hC : AllP C) : Res Try.prog 52 ds v := by
  unfold pPt at h
  split at h
  · obtain ⟨rfl, rfl⟩ : _ ∧ _ := by simpa using h
    exact res_implValid _ _
  · cases h
theorem T1r_2 {ds : List DArg} {v : Value} {C : List Prop} (h : pCmp ds = some (v, C)) (hC : AllP C) : Res Try.prog 129 ds v := by
  unfold pCmp at h
  split at h
  · obtain ⟨rfl, rfl⟩ : _ ∧ _ := by simpa using h
    exact res_compare _ _
  · cases h
theorem T1r_3 {ds : List DArg} {v : Value} {C : List Prop} (h : pSign ds = some (v, C)) (hC : AllP C) : Res Try.prog 145 ds v := by
  unfold pSign at h
  split at h
  · obtain ⟨rfl, rfl⟩ : _ ∧ _ := by simpa using h
    exact res_specSign _
  · cases h
theorem T1r_4 {ds : List DArg} {v : Value} {C : List Prop} (h : pSign ds = some (v, C)) (hC : AllP C) : Res Try.prog 77 ds v := by
  unfold pSign at h
  split at h
  · obtain ⟨rfl, rfl⟩ : _ ∧ _ := by simpa using h
    exact res_implSign _
  · cases h
theorem T1r_6 {ds : List DArg} {v : Value} {C : List Prop} (h : pAbs ds = some (v, C)) (hC : AllP C) : Res Try.prog 139 ds v := by
  unfold pAbs at h
  split at h
  · obtain ⟨rfl, rfl⟩ : _ ∧ _ := by simpa using h
    exact res_calls (by kernel_rfl) rfl rfl fun w => below_same (abs_any _ w (by have := hC.1.1; omega))
  · cases h
theorem T1r_10 {ds : List DArg} {v : Value} {C : List Prop} (h : pAll ds = some (v, C)) (hC : AllP C) : Res Try.prog 89 ds v := by
  unfold pAll at h
  split at h
  · rename_i ax ay bx b_y
    obtain ⟨rfl, rfl⟩ : _ ∧ _ := by simpa using h
    refine res_row (by decide) (by kernel_rfl) rfl rfl fun w g o c' _ hg hcell => ?_
    have := allValid_any (some ⟨g, o, none⟩) 2 c' (pick2 ax bx) (pick2 ay b_y) w (by omega) (fun k hk => ⟨g, o, rfl, hg, by
      match k, hk with
      | 0, _ => exact ⟨hcell 0 _ rfl, hcell 1 _ rfl⟩
      | 1, _ => exact ⟨hcell 2 _ rfl, hcell 3 _ rfl⟩⟩)
    rw [allB2] at this
    exact this
  · rename_i ax ay bx b_y cx cy
    obtain ⟨rfl, rfl⟩ : _ ∧ _ := by simpa using h
    refine res_row (by decide) (by kernel_rfl) rfl rfl fun w g o c' _ hg hcell => ?_
    have := allValid_any (some ⟨g, o, none⟩) 3 c' (pick3 ax bx cx) (pick3 ay b_y cy) w (by omega) (fun k hk => ⟨g, o, rfl, hg, by
      match k, hk with
      | 0, _ => exact ⟨hcell 0 _ rfl, hcell 1 _ rfl⟩
      | 1, _ => exact ⟨hcell 2 _ rfl, hcell 3 _ rfl⟩
      | 2, _ => exact ⟨hcell 4 _ rfl, hcell 5 _ rfl⟩⟩)
    rw [allB3] at this
    exact this
  · rename_i ax ay bx b_y cx cy dx dy
    obtain ⟨rfl, rfl⟩ : _ ∧ _ := by simpa using h
    refine res_row (by decide) (by kernel_rfl) rfl rfl fun w g o c' _ hg hcell => ?_
    have := allValid_any (some ⟨g, o, none⟩) 4 c' (fun k => match k with
      | 0 => ax
      | 1 => bx
      | 2 => cx
      | _ => dx) (fun k => match k with
      | 0 => ay
      | 1 => b_y
      | 2 => cy
      | _ => dy) w (by omega) (fun k hk => ⟨g, o, rfl, hg, by
      match k, hk with
      | 0, _ => exact ⟨hcell 0 _ rfl, hcell 1 _ rfl⟩
      | 1, _ => exact ⟨hcell 2 _ rfl, hcell 3 _ rfl⟩
      | 2, _ => exact ⟨hcell 4 _ rfl, hcell 5 _ rfl⟩
      | 3, _ => exact ⟨hcell 6 _ rfl, hcell 7 _ rfl⟩⟩)
    rw [allB_succ, allB_succ, allB_succ, allB_succ, allB_zero] at this
    simpa [Bool.and_assoc] using this
  · cases h
theorem T1_ok : TabOk Try.prog T1 := by
  intro f ds v C h hC
  unfold T1 at h
  (try split at h)
  all_goals first | with_reducible exact T1r_0 h hC | with_reducible exact T1r_1 h hC | with_reducible exact T1r_2 h hC | with_reducible exact T1r_3 h hC | with_reducible exact T1r_4 h hC | with_reducible exact T1r_5 h hC | with_reducible exact T1r_6 h hC | with_reducible exact T1r_7 h hC | with_reducible exact T1r_8 h hC | with_reducible exact T1r_9 h hC | with_reducible exact T1r_10 h hC | cases h
end Go.Proofs.Ytnjmepbblcfnfaa
namespace Go.Proofs.Ytnjmepbblcfnfaa
set_option linter.all false
open Go.RowKit
abbrev Pt := Int × Int
def flat : List Pt → List Int
  | [] => []
  | p :: r => p.1 :: p.2 :: flat r
def pts : List Int → List Pt
  | a :: b :: r => (a, b) :: pts r
  | _ => []
theorem pts_flat : ∀ ps, pts (flat ps) = ps
  | [] => rfl
  | p :: r => by simp [flat, pts, pts_flat r]
theorem flat_length : ∀ ps, (flat ps).length = ps.length * 2
  | [] => rfl
  | p :: r => by simp [flat, flat_length r]; omega
theorem flat_pts : ∀ (n : Nat) (xs : List Int), xs.length = n * 2 → flat (pts xs) = xs ∧ (pts xs).length = n
  | 0, xs, h => by
    obtain rfl : xs = [] := List.eq_nil_of_length_eq_zero (by omega)
    exact ⟨rfl, rfl⟩
  | n + 1, xs, h => by
    match xs, h with
    | a :: b :: r, h =>
      obtain ⟨h1, h2⟩ := flat_pts n r (by simp at h; omega)
      exact ⟨by simp [pts, flat, h1], by simp [pts, h2]⟩
    | [a], h => simp at h; omega
    | [], h => simp at h
theorem even_flat {n : Nat} {xs : List Int} (h : xs.length = n * 2) : ∃ ps : List Pt, xs = flat ps ∧ ps.length = n :=
  ⟨pts xs, (flat_pts n xs h).1.symm, (flat_pts n xs h).2⟩
theorem flat_append : ∀ a b, flat (a ++ b) = flat a ++ flat b
  | [], b => rfl
  | p :: r, b => by simp [flat, flat_append r b]
theorem flat_drop : ∀ (ps : List Pt) (k : Nat), (flat ps).drop (k * 2) = flat (ps.drop k)
  | ps, 0 => by simp
  | [], k + 1 => by simp [flat]
  | p :: r, k + 1 => by
    rw [show (k + 1) * 2 = k * 2 + 2 by omega]
    simp [flat, flat_drop r k]
theorem flat_take : ∀ (ps : List Pt) (k : Nat), (flat ps).take (k * 2) = flat (ps.take k)
  | ps, 0 => by simp [flat]
  | [], k + 1 => by simp [flat]
  | p :: r, k + 1 => by
    rw [show (k + 1) * 2 = k * 2 + 2 by omega]
    simp [flat, flat_take r k]
theorem flat_all (ps : List Pt) : (flat ps).take (ps.length * 2) = flat ps := by rw [flat_take, List.take_length]
theorem flat_get : ∀ (ps : List Pt) (k : Nat), (flat ps).getD (k * 2) 0 = (ps.getD k (0, 0)).1 ∧ (flat ps).getD (k * 2 + 1) 0 = (ps.getD k (0, 0)).2
  | [], k => by simp [flat]
  | p :: r, 0 => by simp [flat]
  | p :: r, k + 1 => by
    obtain ⟨h1, h2⟩ := flat_get r k
    rw [show (k + 1) * 2 = k * 2 + 2 by omega, show k * 2 + 2 + 1 = k * 2 + 1 + 2 by omega]
    simp only [flat, List.getD_eq_getElem?_getD, List.getElem?_cons_succ] at h1 h2 ⊢
    exact ⟨h1, h2⟩
theorem flat_get0 (ps : List Pt) (k : Nat) : (flat ps).getD (k * 2) 0 = (ps.getD k (0, 0)).1 := (flat_get ps k).1
theorem flat_get1 (ps : List Pt) (k : Nat) : (flat ps).getD (k * 2 + 1) 0 = (ps.getD k (0, 0)).2 := (flat_get ps k).2
theorem flat_set (ps : List Pt) (k : Nat) (h : k < ps.length) (a b : Int) : setInts (flat ps) (k * 2) [a, b] = flat (ps.set k (a, b)) := by
  have e : ps = ps.take k ++ ps[k] :: ps.drop (k + 1) := by simp
  have hl : (ps.take k).length = k := by simp; omega
  unfold setInts
  rw [flat_take, show k * 2 + [a, b].length = (k + 1) * 2 by simp; omega, flat_drop]
  rw [List.set_eq_take_append_cons_drop, if_pos h, flat_append]
  simp [flat]
theorem flat_snoc (ps : List Pt) (a b : Int) : flat ps ++ [a, b] = flat (ps ++ [(a, b)]) := by rw [flat_append]; rfl
theorem drop_cons {α : Type} {l : List α} {k : Nat} (h : k < l.length) (d : α) : l.drop k = l.getD k d :: l.drop (k + 1) := by
  rw [List.drop_eq_getElem_cons h]
  simp [h]
theorem wr {x : Int} (h : -9223372036854775808 ≤ x ∧ x ≤ 9223372036854775807) : IntKind.i64.wrap x = x := by
  rw [IntKind.wrap_i64]
  omega
theorem wsucc {i n : Nat} (h : i < n) (hn : n ≤ 1000000000) : IntKind.i64.wrap ((i : Int) + 1) = ((i + 1 : Nat) : Int) := by
  rw [wr (by omega)]; omega
theorem all_drop {α : Type} {l : List α} {k : Nat} (h : k < l.length) (d : α) (P : α → Bool) : (l.drop k).all P = (P (l.getD k d) && (l.drop (k + 1)).all P) := by rw [drop_cons h d]; rfl
theorem all_end {α : Type} {l : List α} {k : Nat} (h : l.length ≤ k) (P : α → Bool) : (l.drop k).all P = true := by rw [List.drop_of_length_le h]; rfl
theorem pick2k {b : Bool} {k : Ex → St → Tree} {e1 e2 : Ex} {s1 s2 : St} {F : Ex → St → Prop} {H : Value → List (Option Blk) → Prop} (h : (brT b (k e1 s1) (k e2 s2)).ok F H) : (k (bif b then e1 else e2) (bif b then s1 else s2)).ok F H := by
  cases b
  · exact h
  · exact h
/-- A loop's body on a state, cut at its ends to what is looked at again: keep tells which slots, M how many names. -/
def bodyL (P : Program) (E : Env) (m n : Nat) (lt : LT) (j : Nat) (c : Code) (keep : Ex → List Nat) (M : Nat) (s : St) : Tree := runN P E.R E.J (asK P E (runM P E m n)) (runM P E m n) lt noR m c j (fun e s' => .leaf e (cutS M (keep e) s')) s
theorem body_det {P : Program} (hm : P.follows .mixedOrders = true) {E : Env} (hE : EnvOk P E) {m n : Nat} {lt : LT} {j : Nat} {c : Code} (hL : LoopsGood P lt j c) {keep : Ex → List Nat} {M : Nat} {s : St} {F : Ex → St → Prop} (h : (bodyL P E m n lt j c keep M s).ok F (fun _ _ => False)) :
    ∃ e' s', Det P c s e' s' ∧ F e' (cutS M (keep e') s') := by
  obtain ⟨e', s', h1, h2⟩ := runN_det hE.R hE.J (asK_ok hE (runM_ok hm hE m n)) (runM_ok hm hE m n) hm c j hL noR_good _ F _ s h
  exact ⟨e', s', h2, h1⟩
theorem noLoops {P : Program} {lt : LT} {j : Nat} {c : Code} (h : loopsOf c = []) : LoopsGood P lt j c := fun i d hd => by rw [h] at hd; simp at hd
/-- Which slots are looked at again: behind a round, behind an exit, behind the function's end. -/
def keeps (nrm : List Nat) (exits : List (Nat × List Nat)) (ret : List Nat) : Ex → List Nat
  | .normal => nrm
  | .exit id => (exits.lookup id).getD []
  | .ret => ret
/-- The end of a round. -/
def RoundEnd {X : Type} (N : Nat) (St_of : X → St) (Inv : X → Prop) (μ : X → Nat) (re : X → Ex) (rs : X → St) (x : X) (e : Ex) (s : St) : Prop :=
  match e with
  | .normal => ∃ x' π, Inv x' ∧ μ x' < μ x ∧ re x' = re x ∧ rs x' = rs x ∧ WS N π s (St_of x')
  | e => e = re x ∧ ∃ π, WS N π s (rs x)
theorem loop_run {P : Program} (hm : P.follows .mixedOrders = true) {E : Env} (hE : EnvOk P E) {m n : Nat} {lt : LT} {j : Nat} {c : Code} {N : Nat} {X : Type} (St_of : X → St) (Inv : X → Prop) (μ : X → Nat) (re : X → Ex) (rs : X → St) (keep : Ex → List Nat) {M : Nat} (hM : ∀ x, (St_of x).mem.length = M) (hL : LoopsGood P lt j c)
    (h : ∀ x, Inv x → (bodyL P E m n lt j c keep M (St_of x)).ok (RoundEnd N St_of Inv μ re rs x) (fun _ _ => False))
    {x : X} (hx : Inv x) {s : St} {π : List (Option Nat)} (hN : s.mem.length = N) (hs : WS N π s (St_of x)) : Det P (.loop c) s (re x) (rs x) :=
  loop_det St_of Inv μ re rs keep (fun x hx => by
    obtain ⟨e', s', h1, h2⟩ := body_det hm hE hL (h x hx)
    refine ⟨e', s', h1, ?_⟩
    rw [hM]
    unfold RoundEnd at h2
    cases e' <;> exact h2) hx hN hs
theorem wv_top (f : Nat → Option (Option Nat)) (v : Value) : wv f v topV := by
  cases v <;> exact True.intro
theorem take_set_succ {α : Type} {l m : List α} {i : Nat} (hl : i < l.length) (hm : i < m.length) (h : l.take i = m.take i) (d : α) : (l.set i (m.getD i d)).take (i + 1) = m.take (i + 1) := by
  apply List.ext_getElem?
  intro k
  have hk := congrArg (fun x : List α => x[k]?) h
  simp only [List.getElem?_take] at hk ⊢
  rcases Nat.lt_trichotomy k i with hki | hki | hki
  · rw [if_pos (by omega), if_pos (by omega), List.getElem?_set_ne (by omega)]
    simpa [hki] using hk
  · subst hki
    rw [if_pos (by omega), if_pos (by omega)]
    simp [hl, hm]
  · rw [if_neg (by omega), if_neg (by omega)]
/-- Some slots of a frame; a frame of which only some slots are known. -/
def pickL (l : List Value) (idx : List Nat) : List Value := idx.map fun i => l.getD i undef
def lookV : List Nat → List Value → Nat → Value
  | i :: r, v :: vs, j => if i = j then v else lookV r vs j
  | _, _, _ => topV
def spread (n : Nat) (idx : List Nat) (vals : List Value) : List Value := (List.range n).map (lookV idx vals)
theorem lookV_ok {f : Nat → Option (Option Nat)} {l : List Value} : ∀ {idx : List Nat} {vals : List Value}, wvs f (pickL l idx) vals → ∀ j, wv f (l.getD j undef) (lookV idx vals j)
  | [], [], _, j => wv_top _ _
  | [], _ :: _, h, _ => h.elim
  | _ :: _, [], h, _ => h.elim
  | i :: r, v :: vs, h, j => by
    unfold lookV
    split
    · rename_i hij
      subst hij
      exact h.1
    · exact lookV_ok h.2 j
theorem wvs_of {f : Nat → Option (Option Nat)} : ∀ {l l' : List Value}, l.length = l'.length → (∀ j, j < l.length → wv f (l.getD j undef) (l'.getD j undef)) → wvs f l l'
  | [], [], _, _ => trivial
  | [], _ :: _, h, _ => by simp at h
  | _ :: _, [], h, _ => by simp at h
  | a :: r, b :: r', h, hj => ⟨hj 0 (by simp), wvs_of (by simpa using h) fun j hj' => by simpa using hj (j + 1) (by simpa using hj')⟩
theorem wvs_spread {f : Nat → Option (Option Nat)} {l vals l' : List Value} {n : Nat} {idx : List Nat} (hl : Nat.beq l.length n = true) (he : l' = spread n idx vals) (h : wvs f (pickL l idx) vals) : wvs f l l' := by
  have hl := Nat.eq_of_beq_eq_true hl
  subst he
  refine wvs_of (by simp [spread, hl]) fun j hj => ?_
  have : (spread n idx vals).getD j undef = lookV idx vals j := by
    have : j < n := by omega
    simp [spread, this]
  rw [this]
  exact lookV_ok h j
theorem wvs_spread' {f : Nat → Option (Option Nat)} {l l' : List Value} {n : Nat} (idx : List Nat) (hl : Nat.beq l.length n = true) (he : l' = spread n idx (pickL l' idx)) (h : wvs f (pickL l idx) (pickL l' idx)) : wvs f l l' := wvs_spread hl he h
/-- An entry for a loop is sound. -/
def LoopE (P : Program) (e : St → (Ex → St → Tree) → Option Tree) (c : Code) : Prop := ∀ s k t F H, e s k = some t → t.ok F H → ∃ e' s', (k e' s').ok F H ∧ Det P (.loop c) s e' s'
/-- A function with one loop. -/
def lt1 (e : St → (Ex → St → Tree) → Option Tree) : LT := fun j s k => match j with
  | 0 => e s k
  | _ => none
theorem lt1_good {P : Program} {e : St → (Ex → St → Tree) → Option Tree} {c : Code} (h : LoopE P e (((loopsOf c)[0]?).getD .skip)) : LoopsGood P (lt1 e) 0 c := by
  intro i d hd s k t F H hlt ht
  rw [Nat.zero_add] at hlt
  cases i with
  | zero =>
    rw [hd] at h
    exact h s k t F H hlt ht
  | succ i => cases hlt
def noL : LT := fun _ _ _ => none
theorem noL_good {P : Program} {j : Nat} {c : Code} : LoopsGood P noL j c := fun _ _ _ _ _ _ _ _ h => by cases h
/-- An argument's cells beyond what is asked. -/
theorem Res.more {P : Program} {f : FuncId} {ds ds' : List DArg} {v : Value} (h : Res P f ds' v) (hg : ∀ d ∈ ds, d.good) (hd : ∀ w args, DOks w ds args → DOks w ds' args) : Res P f ds v :=
  ⟨h.1, h.2.1, h.2.2.1, hg, fun w args ha => h.2.2.2.2 w args (hd w args ha)⟩
theorem ResR.more {P : Program} {f : FuncId} {ds ds' : List DArg} {v : Value} {b : Blk} (h : ResR P f ds' v b) (hg : ∀ d ∈ ds, d.good) (hd : ∀ w args, DOks w ds args → DOks w ds' args) : ResR P f ds v b :=
  ⟨h.1, h.2.1, h.2.2.1, hg, fun w args ha => h.2.2.2.2 w args (hd w args ha)⟩
/-- The first cells of a row argument. -/
theorem DOk.take {w : World} {l : Nat} {xs : List Int} {y : Value} (k : Nat) (h : DOk w (.row l (.ints xs)) y) : DOk w (.row l (.ints (xs.take k))) y := by
  obtain ⟨h1, ad, c', h2, h3, h4⟩ := h
  refine ⟨rfl, ad, c', h2, h3, h4.imp id ?_⟩
  rintro ⟨g, f, h5, h6, h7⟩
  refine ⟨g, f, h5, h6, fun j v hv => h7 j v ?_⟩
  simp only [Cs.list, List.getElem?_map] at hv ⊢
  rw [List.getElem?_take] at hv
  split at hv
  · exact hv
  · simp at hv
theorem DOks.imp {w : World} : ∀ {ds ds' : List DArg} {args : Array Value}, DOks w ds args → ds.length = ds'.length → (∀ (i : Nat) d d' y, ds[i]? = some d → ds'[i]? = some d' → DOk w d y → DOk w d' y) → DOks w ds' args := by
  intro ds ds' args h hl hi
  refine ⟨by rw [← hl]; exact h.1, fun i d' y hd' hy => ?_⟩
  have hlt : i < ds.length := by rw [hl]; exact (List.getElem?_eq_some_iff.1 hd').1
  exact hi i ds[i] d' y (by simp) hd' (h.2 i _ y (by simp) hy)
/-- The points of a row argument. -/
def ptsA (n : Nat) (xs : List Int) : List Pt := pts (xs.take (n * 2))
theorem ptsA_flat (ps : List Pt) : ptsA ps.length (flat ps) = ps := by
  unfold ptsA
  rw [flat_take, List.take_length, pts_flat]
theorem ptsA_spec {n : Nat} {xs : List Int} (h : n * 2 ≤ xs.length) : xs.take (n * 2) = flat (ptsA n xs) ∧ (ptsA n xs).length = n := by
  unfold ptsA
  have := flat_pts n (xs.take (n * 2)) (by simp; omega)
  exact ⟨this.1.symm, this.2⟩
/-- What is known for lists of points as they are is known for any cells. -/
theorem DOks.pts {w : World} {pre post : List DArg} {n : Nat} {xs : List Int} {args : Array Value} (ha : DOks w (pre ++ .row n (.ints xs) :: post) args) : DOks w (pre ++ .row n (.ints (xs.take (n * 2))) :: post) args := by
  refine ha.imp (by simp) fun i d d' y hd hd' hy => ?_
  rcases Nat.lt_or_ge i pre.length with hlt | hge
  · rw [List.getElem?_append_left hlt] at hd hd'
    rw [hd] at hd'
    obtain rfl : d = d' := by simpa using hd'
    exact hy
  · rw [List.getElem?_append_right hge] at hd hd'
    rcases hk : i - pre.length with _ | k
    · rw [hk] at hd hd'
      obtain rfl : DArg.row n (.ints xs) = d := by simpa using hd
      obtain rfl : DArg.row n (.ints (xs.take (n * 2))) = d' := by simpa using hd'
      exact hy.take _
    · rw [hk] at hd hd'
      simp only [List.getElem?_cons_succ] at hd hd'
      rw [hd] at hd'
      obtain rfl : d = d' := by simpa using hd'
      exact hy
theorem good_pts {pre post : List DArg} {n : Nat} {xs ys : List Int} (h : ∀ d ∈ pre ++ .row n (.ints xs) :: post, d.good) : ∀ d ∈ pre ++ .row n (.ints ys) :: post, d.good := by
  intro d hd
  rcases List.mem_append.1 hd with hd | hd
  · exact h d (List.mem_append_left _ hd)
  · rcases List.mem_cons.1 hd with rfl | hd
    · rfl
    · exact h d (List.mem_append_right _ (List.mem_cons_of_mem _ hd))
theorem res_pts1 {P : Program} {f : FuncId} {pre post : List DArg} {v : Value} {n : Nat} {xs : List Int} (hn : n * 2 ≤ xs.length) (h0 : Res P f (pre ++ .row (ptsA n xs).length (.ints (flat (ptsA n xs))) :: post) v) :
    Res P f (pre ++ .row n (.ints xs) :: post) v := by
  obtain ⟨h1, h2⟩ := ptsA_spec hn
  rw [h2, ← h1] at h0
  exact h0.more (good_pts h0.2.2.2.1) fun w args ha => ha.pts
theorem resR_pts1 {P : Program} {f : FuncId} {pre post : List DArg} {v : Value} {b : Blk} {n : Nat} {xs : List Int} (hn : n * 2 ≤ xs.length) (h0 : ResR P f (pre ++ .row (ptsA n xs).length (.ints (flat (ptsA n xs))) :: post) v b) :
    ResR P f (pre ++ .row n (.ints xs) :: post) v b := by
  obtain ⟨h1, h2⟩ := ptsA_spec hn
  rw [h2, ← h1] at h0
  exact h0.more (good_pts h0.2.2.2.1) fun w args ha => ha.pts
end Go.Proofs.Ytnjmepbblcfnfaa
namespace Go.Proofs.Ytnjmepbblcfnfaa
set_option linter.all false
open Go.RowKit
def E1 : Env := mkE (T1) (fun _ _ => none) (fun _ => noL)
theorem E1_ok : EnvOk Try.prog E1 := mkEOk (T1_ok) (fun _ _ _ _ _ h => (by cases h)) (fun _ _ _ _ _ _ _ _ _ _ _ h => (by cases h))
def vB (p : Pt) : Bool := ptB p.1 p.2
def allV (ps : List Pt) : Bool := ps.all vB
noncomputable def c43 : Code := ((loopsOf (codeOf Try.f69))[0]?).getD .skip
noncomputable def c80 : Code := ((loopsOf (codeOf Try.f89))[0]?).getD .skip
set_option maxRecDepth 100000 in
theorem nl43 : loopsOf c43 = [] := by kernel_rfl
set_option maxRecDepth 100000 in
theorem nl80 : loopsOf c80 = [] := by kernel_rfl
def k43 : Ex → List Nat := keeps [0, 3] [(0, [0])] [2]
def k80 : Ex → List Nat := keeps [5, 6, 7] [] [2]
def s43 (ps : List Pt) (i : Nat) : St := ⟨[.slice (some ⟨0, 0, none⟩) ps.length ps.length, topV, topV, .int .i64 i, topV, topV, topV, topV, topV, topV, topV, topV, topV, topV, topV, topV, topV, topV, topV], [some ⟨.view, .ints (flat ps)⟩]⟩
def s80 (ps : List Pt) (i : Nat) : St := ⟨[topV, topV, topV, topV, topV, .slice (some ⟨0, 0, none⟩) ps.length ps.length, .int .i64 ps.length, .int .i64 i, topV, topV, topV, topV, topV, topV, topV], [some ⟨.view, .ints (flat ps)⟩]⟩
set_option maxRecDepth 100000 in
theorem tr43 (ps : List Pt) (i : Nat) : bodyL Try.prog E1 30 12 noL 1 c43 k43 1 (s43 ps i) = brT (decide ((↑i : Int) < (↑ps.length : Int))) (.need ((0 : Int) ≤ (↑i : Int) ∧ (↑i : Int) < (↑ps.length : Int)) (.need ((0 : Nat) + (↑i : Int).toNat * (2 : Nat) + (2 : Nat) ≤ (flat ps).length) (brT (!ptB ((flat ps).getD (0 + (↑i : Int).toNat * 2) 0) ((flat ps).getD (0 + (↑i : Int).toNat * 2 + 1) 0)) (.leaf .ret ⟨[topV, topV, .bool (false), topV, topV, topV, topV, topV, topV, topV, topV, topV, topV, topV, topV, topV, topV, topV, topV], [some ⟨.view, .ints (flat ps)⟩]⟩) (.leaf .normal ⟨[.slice (some ⟨0, 0, none⟩) (ps.length) (ps.length), topV, topV, .int .i64 (IntKind.i64.wrap ((↑i : Int) + 1)), topV, topV, topV, topV, topV, topV, topV, topV, topV, topV, topV, topV, topV, topV, topV], [some ⟨.view, .ints (flat ps)⟩]⟩)))) (.leaf (.exit 0) ⟨[.slice (some ⟨0, 0, none⟩) (ps.length) (ps.length), topV, topV, topV, topV, topV, topV, topV, topV, topV, topV, topV, topV, topV, topV, topV, topV, topV, topV], [some ⟨.view, .ints (flat ps)⟩]⟩) := by kernel_rfl
set_option maxRecDepth 100000 in
theorem tr80 (ps : List Pt) (i : Nat) : bodyL Try.prog E1 30 12 noL 1 c80 k80 1 (s80 ps i) = brT (decide ((↑i : Int) < (↑ps.length : Int))) (.need ((0 : Int) ≤ (↑i : Int) ∧ (↑i : Int) < (↑ps.length : Int)) (.need ((0 : Nat) + (↑i : Int).toNat * (2 : Nat) + (2 : Nat) ≤ (flat ps).length) (brT (!ptB ((flat ps).getD (0 + (↑i : Int).toNat * 2) 0) ((flat ps).getD (0 + (↑i : Int).toNat * 2 + 1) 0)) (.leaf .ret ⟨[topV, topV, .bool (false), topV, topV, topV, topV, topV, topV, topV, topV, topV, topV, topV, topV], [some ⟨.view, .ints (flat ps)⟩]⟩) (.leaf .normal ⟨[topV, topV, topV, topV, topV, .slice (some ⟨0, 0, none⟩) (ps.length) (ps.length), .int .i64 ((↑ps.length : Int)), .int .i64 (IntKind.i64.wrap ((↑i : Int) + 1)), topV, topV, topV, topV, topV, topV, topV], [some ⟨.view, .ints (flat ps)⟩]⟩)))) (.leaf (.exit 0) ⟨[topV, topV, topV, topV, topV, topV, topV, topV, topV, topV, topV, topV, topV, topV, topV], [some ⟨.view, .ints (flat ps)⟩]⟩) := by kernel_rfl
def re43 (ps : List Pt) (i : Nat) : Ex := bif (ps.drop i).all vB then .exit 0 else .ret
def rs43 (ps : List Pt) (i : Nat) : St := bif (ps.drop i).all vB then ⟨[.slice (some ⟨0, 0, none⟩) ps.length ps.length, topV, topV, topV, topV, topV, topV, topV, topV, topV, topV, topV, topV, topV, topV, topV, topV, topV, topV], [some ⟨.view, .ints (flat ps)⟩]⟩ else ⟨[topV, topV, .bool false, topV, topV, topV, topV, topV, topV, topV, topV, topV, topV, topV, topV, topV, topV, topV, topV], [some ⟨.view, .ints (flat ps)⟩]⟩
def re80 (ps : List Pt) (i : Nat) : Ex := bif (ps.drop i).all vB then .exit 0 else .ret
def rs80 (ps : List Pt) (i : Nat) : St := bif (ps.drop i).all vB then ⟨[topV, topV, topV, topV, topV, topV, topV, topV, topV, topV, topV, topV, topV, topV, topV], [some ⟨.view, .ints (flat ps)⟩]⟩ else ⟨[topV, topV, .bool false, topV, topV, topV, topV, topV, topV, topV, topV, topV, topV, topV, topV], [some ⟨.view, .ints (flat ps)⟩]⟩
theorem round43 (ps : List Pt) (hn : ps.length ≤ 1000000000) (i : Nat) (hi : i ≤ ps.length) :
    (bodyL Try.prog E1 30 12 noL 1 c43 k43 1 (s43 ps i)).ok (RoundEnd 1 (s43 ps) (fun i => i ≤ ps.length) (fun i => ps.length - i) (re43 ps) (rs43 ps) i) (fun _ _ => False) := by
  rw [tr43]
  simp only [brT_ok, Tree.ok, decide_eq_true_eq, decide_eq_false_iff_not, Int.toNat_natCast, Nat.zero_add, flat_length, flat_get0, flat_get1, Bool.not_eq_true', Bool.not_eq_false']
  refine ⟨fun hlt => ⟨by omega, by omega, fun hv => ?_, fun hv => ?_⟩, fun hge => ?_⟩
  · have e : (ps.drop i).all vB = false := by rw [all_drop (by omega) (0, 0)]; simp only [vB, hv, Bool.false_and]
    refine ⟨by simp only [re43, e, cond_false], [], ?_⟩
    simp only [rs43, e, cond_false]
    repeat' (first | exact True.intro | exact rfl | refine And.intro ?_ ?_)
  · have e : (ps.drop i).all vB = (ps.drop (i + 1)).all vB := by rw [all_drop (by omega) (0, 0)]; simp only [vB, hv, Bool.true_and]
    rw [wsucc (n := ps.length) (by omega) hn]
    refine ⟨i + 1, [], by omega, by dsimp only; omega, by simp only [re43, e], by simp only [rs43, e], ?_⟩
    repeat' (first | exact True.intro | exact rfl | refine And.intro ?_ ?_)
  · have e : (ps.drop i).all vB = true := all_end (by omega) _
    refine ⟨by simp only [re43, e, cond_true], [], ?_⟩
    simp only [rs43, e, cond_true]
    repeat' (first | exact True.intro | exact rfl | refine And.intro ?_ ?_)
theorem round80 (ps : List Pt) (hn : ps.length ≤ 1000000000) (i : Nat) (hi : i ≤ ps.length) :
    (bodyL Try.prog E1 30 12 noL 1 c80 k80 1 (s80 ps i)).ok (RoundEnd 1 (s80 ps) (fun i => i ≤ ps.length) (fun i => ps.length - i) (re80 ps) (rs80 ps) i) (fun _ _ => False) := by
  rw [tr80]
  simp only [brT_ok, Tree.ok, decide_eq_true_eq, decide_eq_false_iff_not, Int.toNat_natCast, Nat.zero_add, flat_length, flat_get0, flat_get1, Bool.not_eq_true', Bool.not_eq_false']
  refine ⟨fun hlt => ⟨by omega, by omega, fun hv => ?_, fun hv => ?_⟩, fun hge => ?_⟩
  · have e : (ps.drop i).all vB = false := by rw [all_drop (by omega) (0, 0)]; simp only [vB, hv, Bool.false_and]
    refine ⟨by simp only [re80, e, cond_false], [], ?_⟩
    simp only [rs80, e, cond_false]
    repeat' (first | exact True.intro | exact rfl | refine And.intro ?_ ?_)
  · have e : (ps.drop i).all vB = (ps.drop (i + 1)).all vB := by rw [all_drop (by omega) (0, 0)]; simp only [vB, hv, Bool.true_and]
    rw [wsucc (n := ps.length) (by omega) hn]
    refine ⟨i + 1, [], by omega, by dsimp only; omega, by simp only [re80, e], by simp only [rs80, e], ?_⟩
    repeat' (first | exact True.intro | exact rfl | refine And.intro ?_ ?_)
  · have e : (ps.drop i).all vB = true := all_end (by omega) _
    refine ⟨by simp only [re80, e, cond_true], [], ?_⟩
    simp only [rs80, e, cond_true]
    repeat' (first | exact True.intro | exact rfl | refine And.intro ?_ ?_)
def lt43 : LT := fun j s k => match j, s with
  | 0, ⟨[.slice (some ⟨0, 0, none⟩) n _, _, _, .int .i64 i, _, _, _, _, _, _, _, _, _, _, _, _, _, _, _], [some ⟨.view, .ints xs⟩]⟩ =>
    some (needs [i = 0, xs.length = n * 2, n ≤ 1000000000] (brT (allV (ptsA n xs)) (k (.exit 0) ⟨[.slice (some ⟨0, 0, none⟩) n n, topV, topV, topV, topV, topV, topV, topV, topV, topV, topV, topV, topV, topV, topV, topV, topV, topV, topV], [some ⟨.view, .ints xs⟩]⟩) (k .ret ⟨[topV, topV, .bool false, topV, topV, topV, topV, topV, topV, topV, topV, topV, topV, topV, topV, topV, topV, topV, topV], [some ⟨.view, .ints xs⟩]⟩)))
  | _, _ => none
def lt80 : LT := fun j s k => match j, s with
  | 0, ⟨[_, _, _, _, _, .slice (some ⟨0, 0, none⟩) n _, .int .i64 l, .int .i64 i, _, _, _, _, _, _, _], [some ⟨.view, .ints xs⟩]⟩ =>
    some (needs [i = 0, l = n, xs.length = n * 2, n ≤ 1000000000] (brT (allV (ptsA n xs)) (k (.exit 0) ⟨[topV, topV, topV, topV, topV, topV, topV, topV, topV, topV, topV, topV, topV, topV, topV], [some ⟨.view, .ints xs⟩]⟩) (k .ret ⟨[topV, topV, .bool false, topV, topV, topV, topV, topV, topV, topV, topV, topV, topV, topV, topV], [some ⟨.view, .ints xs⟩]⟩)))
  | _, _ => none
set_option maxRecDepth 100000 in
theorem lg43 : LoopsGood Try.prog lt43 0 (codeOf Try.f69) := by
  intro i d hd s k t F H hlt ht
  rw [Nat.zero_add] at hlt
  unfold lt43 at hlt
  split at hlt
  rotate_left
  · cases hlt
  obtain rfl : c43 = d := by unfold c43; rw [hd]; rfl
  obtain rfl := Option.some.inj hlt
  obtain ⟨⟨rfl, h1, h2, _⟩, ht2⟩ := needs_ok ht
  clear ht hlt
  obtain ⟨ps, rfl, rfl⟩ := even_flat h1
  rw [ptsA_flat] at ht2
  refine ⟨_, _, pick2k ht2, loop_run mixed E1_ok (s43 ps) (fun i => i ≤ ps.length) (fun i => ps.length - i) (re43 ps) (rs43 ps) k43 (fun _ => rfl) (noLoops nl43) (round43 ps h2) (x := 0) (Nat.zero_le _) (π := []) rfl ?_⟩
  repeat' (first | exact True.intro | exact rfl | exact wv_top _ _ | refine And.intro ?_ ?_)
set_option maxRecDepth 100000 in
theorem lg80 : LoopsGood Try.prog lt80 0 (codeOf Try.f89) := by
  intro i d hd s k t F H hlt ht
  rw [Nat.zero_add] at hlt
  unfold lt80 at hlt
  split at hlt
  rotate_left
  · cases hlt
  obtain rfl : c80 = d := by unfold c80; rw [hd]; rfl
  obtain rfl := Option.some.inj hlt
  obtain ⟨⟨rfl, rfl, h1, h2, _⟩, ht2⟩ := needs_ok ht
  clear ht hlt
  obtain ⟨ps, rfl, rfl⟩ := even_flat h1
  rw [ptsA_flat] at ht2
  refine ⟨_, _, pick2k ht2, loop_run mixed E1_ok (s80 ps) (fun i => i ≤ ps.length) (fun i => ps.length - i) (re80 ps) (rs80 ps) k80 (fun _ => rfl) (noLoops nl80) (round80 ps h2) (x := 0) (Nat.zero_le _) (π := []) rfl ?_⟩
  repeat' (first | exact True.intro | exact rfl | exact wv_top _ _ | refine And.intro ?_ ?_)
end Go.Proofs.Ytnjmepbblcfnfaa
namespace Go.Proofs.Ytnjmepbblcfnfaa
set_option linter.all false
open Go.RowKit
def L2 : FuncId → LT := fun f => match f with
  | 69 => lt43
  | 89 => lt80
  | _ => noL
def E2 : Env := mkE (T1) (fun _ _ => none) (L2)
theorem E2_ok : EnvOk Try.prog E2 := by
  refine mkEOk T1_ok (fun _ _ _ _ _ h => (by cases h)) fun f fn hf => ?_
  show LoopsGood Try.prog (L2 f) 0 (codeOf fn)
  unfold L2
  split
  · obtain rfl : Try.f69 = fn := by rw [Try.func69] at hf; simpa using hf
    exact lg43
  · obtain rfl : Try.f89 = fn := by rw [Try.func89] at hf; simpa using hf
    exact lg80
  · exact noL_good
set_option maxRecDepth 100000 in
theorem tr_f43 (ps : List Pt) : bodyX Try.prog E2 30 12 69 [.row ps.length (.ints (flat ps))] = .need ((0 : Int) = (0 : Int)) (.need ((flat ps).length = ps.length * (2 : Nat)) (.need (ps.length ≤ (1000000000 : Nat)) (brT (allV (ptsA ps.length (flat ps))) (.fin (.bool (decide ((↑ps.length : Int) ≤ 20))) [some ⟨.view, .ints (flat ps)⟩]) (.fin (.bool (false)) [some ⟨.view, .ints (flat ps)⟩])))) := by kernel_rfl
set_option maxRecDepth 100000 in
theorem tr_f80 (ps : List Pt) : bodyX Try.prog E2 30 12 89 [.row ps.length (.ints (flat ps))] = .need ((0 : Int) = (0 : Int)) (.need ((↑ps.length : Int) = (↑ps.length : Int)) (.need ((flat ps).length = ps.length * (2 : Nat)) (.need (ps.length ≤ (1000000000 : Nat)) (brT (allV (ptsA ps.length (flat ps))) (.fin (.bool (true)) [some ⟨.view, .ints (flat ps)⟩]) (.fin (.bool (false)) [some ⟨.view, .ints (flat ps)⟩]))))) := by kernel_rfl
def Big (ps : List Pt) : Prop := ps.length ≤ 1000000000
def okL (ps : List Pt) : Bool := allV ps && decide (ps.length ≤ 20)
theorem res_f43 (ps : List Pt) (h : Big ps) : Res Try.prog 69 [.row ps.length (.ints (flat ps))] (.bool (okL ps)) := by
  refine bodyX_res mixed E2_ok (m := 30) (n := 12) rfl ?_
  rw [tr_f43, ptsA_flat]
  unfold Big at h
  unfold okL
  cases hv : allV ps <;> simp [Tree.ok, brT, flat_length, h]
  omega
theorem res_f80 (ps : List Pt) (h : Big ps) : Res Try.prog 89 [.row ps.length (.ints (flat ps))] (.bool (allV ps)) := by
  refine bodyX_res mixed E2_ok (m := 30) (n := 12) rfl ?_
  rw [tr_f80, ptsA_flat]
  unfold Big at h
  cases hv : allV ps <;> simp [Tree.ok, brT, flat_length, h]
/-- An entry for a function of one list of points. -/
def pL (g : List Pt → Value) : List DArg → Option (Value × List Prop)
  | [.row n (.ints xs)] => some (g (ptsA n xs), [n * 2 ≤ xs.length, n ≤ 1000000000])
  | _ => none
theorem pL_ok {f : FuncId} {g : List Pt → Value} (h : ∀ ps, Big ps → Res Try.prog f [.row ps.length (.ints (flat ps))] (g ps)) {ds : List DArg} {v : Value} {C : List Prop} (hd : pL g ds = some (v, C)) (hC : AllP C) : Res Try.prog f ds v := by
  unfold pL at hd
  split at hd
  · rename_i n xs
    obtain ⟨rfl, rfl⟩ : _ ∧ _ := by simpa using hd
    obtain ⟨h1, h2⟩ := ptsA_spec hC.1
    have h0 := h (ptsA n xs) (by unfold Big; rw [h2]; exact hC.2.1)
    exact res_pts1 (pre := []) (post := []) hC.1 h0
  · cases hd
def T2 : Tab := fun f ds => match f with
  | 69 => pL (fun ps => .bool (okL ps)) ds
  | 89 => (match pL (fun ps => .bool (allV ps)) ds with
    | some r => some r
    | none => T1 f ds)
  | f => T1 f ds
theorem T2_ok : TabOk Try.prog T2 := by
  intro f ds v C h hC
  unfold T2 at h
  split at h
  · exact pL_ok res_f43 h hC
  · split at h
    · rename_i hr
      rw [h] at hr
      exact pL_ok res_f80 hr hC
    · exact T1_ok _ _ _ _ h hC
  · exact T1_ok _ _ _ _ h hC
end Go.Proofs.Ytnjmepbblcfnfaa
namespace Go.Proofs.Ytnjmepbblcfnfaa
set_option linter.all false
open Go.RowKit
def E3 : Env := mkE (T2) (fun _ _ => none) (fun _ => noL)
theorem E3_ok : EnvOk Try.prog E3 := mkEOk (T2_ok) (fun _ _ _ _ _ h => (by cases h)) (fun _ _ _ => noL_good)
theorem allV_get {ps : List Pt} (h : allV ps = true) (i : Nat) : -1000 ≤ (ps.getD i (0, 0)).1 ∧ (ps.getD i (0, 0)).1 ≤ 1000 ∧ -1000 ≤ (ps.getD i (0, 0)).2 ∧ (ps.getD i (0, 0)).2 ≤ 1000 := by
  rcases Nat.lt_or_ge i ps.length with hlt | hge
  · have := List.all_eq_true.1 h (ps.getD i (0, 0)) (by simp [hlt])
    simpa [vB, ptB] using this
  · simp [hge]
theorem brT_t (x y : Tree) : brT true x y = x := rfl
theorem brT_f (x y : Tree) : brT false x y = y := rfl
def eqL (ps qs : List Pt) : Bool := decide (ps = qs)
def sq (p q : Pt) : Int := (p.1 - q.1) * (p.1 - q.1) + (p.2 - q.2) * (p.2 - q.2)
noncomputable def c_toPts : Code := ((loopsOf (codeOf Try.f26))[0]?).getD .skip
def k_toPts : Ex → List Nat := keeps [0, 3, 4] [(0, [3])] [2]
def s_toPts (ps : List Pt) (n : Nat) : Nat × (List Pt) → St := fun (i, qs) => ⟨[.slice (some ⟨0, 0, none⟩) ps.length ps.length, topV, topV, .slice (some ⟨1, 0, none⟩) n n, .int .i64 i, topV, topV, topV, topV, topV, topV, topV, topV, topV, topV, topV, topV, topV, topV, topV, topV, topV, topV], [some ⟨.view, .ints (flat ps)⟩, some ⟨.row 30 2, .ints (flat qs)⟩]⟩
def re_toPts : Nat × (List Pt) → Ex := fun _ => .exit 0
def rs_toPts (ps : List Pt) (n : Nat) : Nat × (List Pt) → St := fun (i, qs) => ⟨[topV, topV, topV, .slice (some ⟨1, 0, none⟩) n n, topV, topV, topV, topV, topV, topV, topV, topV, topV, topV, topV, topV, topV, topV, topV, topV, topV, topV, topV], [some ⟨.view, .ints (flat ps)⟩, some ⟨.row 30 2, .ints (flat ps)⟩]⟩
set_option maxRecDepth 100000 in
theorem tr_toPts (ps : List Pt) (n : Nat) (i : Nat) (qs : List Pt) : bodyL Try.prog E3 30 12 noL 1 c_toPts k_toPts 2 (s_toPts ps n (i, qs)) = brT (decide ((↑i : Int) < (↑ps.length : Int))) (.need ((0 : Int) ≤ (↑i : Int) ∧ (↑i : Int) < (↑ps.length : Int)) (.need ((0 : Nat) + (↑i : Int).toNat * (2 : Nat) + (2 : Nat) ≤ (flat ps).length) (.need ((0 : Int) ≤ (↑i : Int) ∧ (↑i : Int) < (↑n : Int)) (.need ((0 : Nat) + (↑i : Int).toNat * (2 : Nat) + (2 : Nat) ≤ (flat qs).length) (.leaf .normal ⟨[.slice (some ⟨0, 0, none⟩) (ps.length) (ps.length), topV, topV, .slice (some ⟨1, 0, none⟩) (n) (n), .int .i64 (IntKind.i64.wrap ((↑i : Int) + 1)), topV, topV, topV, topV, topV, topV, topV, topV, topV, topV, topV, topV, topV, topV, topV, topV, topV, topV], [some ⟨.view, .ints (flat ps)⟩, some ⟨.row 30 2, .ints (setInts (flat qs) (0 + (↑i : Int).toNat * 2) [(flat ps).getD (0 + (↑i : Int).toNat * 2) 0, (flat ps).getD (0 + (↑i : Int).toNat * 2 + 1) 0])⟩]⟩))))) (.leaf (.exit 0) ⟨[topV, topV, topV, .slice (some ⟨1, 0, none⟩) (n) (n), topV, topV, topV, topV, topV, topV, topV, topV, topV, topV, topV, topV, topV, topV, topV, topV, topV, topV, topV], [some ⟨.view, .ints (flat ps)⟩, some ⟨.row 30 2, .ints (flat qs)⟩]⟩) := by kernel_rfl
set_option maxRecDepth 100000 in
theorem nl_toPts : loopsOf c_toPts = [] := by kernel_rfl
def inv_toPts (ps : List Pt) (n : Nat) : Nat × (List Pt) → Prop := fun (i, qs) => i ≤ ps.length ∧ ps.length = n ∧ qs.length = n ∧ qs.take i = ps.take i
def me_toPts (ps : List Pt) (n : Nat) : Nat × (List Pt) → Nat := fun (i, qs) => ps.length - i
/-- A round of this loop. -/
def Round_toPts (ps : List Pt) (n : Nat) : Prop := ∀ xx : Nat × (List Pt), inv_toPts ps n xx → (bodyL Try.prog E3 30 12 noL 1 c_toPts k_toPts 2 (s_toPts ps n xx)).ok (RoundEnd 2 (s_toPts ps n) (inv_toPts ps n) (me_toPts ps n) re_toPts (rs_toPts ps n) xx) (fun _ _ => False)
def e_toPts (s : St) (k : Ex → St → Tree) : Option Tree := match Nat.beq s.tmps.length 23, pickL s.tmps [0, 3, 4], s.mem with
  | true, [.slice (some ⟨0, 0, none⟩) n _, .slice (some ⟨1, 0, none⟩) m _, .int .i64 i], [some ⟨.view, .ints xs⟩, some ⟨.row 30 2, .ints ys⟩] => some (needs [i = 0, m = n, xs.length = n * 2, ys.length = n * 2, n ≤ 1000000000] (k (.exit 0) ⟨[topV, topV, topV, .slice (some ⟨1, 0, none⟩) m m, topV, topV, topV, topV, topV, topV, topV, topV, topV, topV, topV, topV, topV, topV, topV, topV, topV, topV, topV], [some ⟨.view, .ints xs⟩, some ⟨.row 30 2, .ints xs⟩]⟩))
  | _, _, _ => none
set_option maxRecDepth 100000 in
theorem round_toPts (ps : List Pt) (n : Nat) (h : ps.length ≤ 1000000000) : Round_toPts ps n := by
  rintro ⟨i, qs⟩ ⟨h1, h2, h3, h4⟩
  rw [tr_toPts]
  simp only [brT_ok, Tree.ok, decide_eq_true_eq, decide_eq_false_iff_not, Int.toNat_natCast, Nat.zero_add, flat_length, flat_get0, flat_get1, Cs.size]
  refine ⟨fun hlt => ⟨by omega, by omega, by omega, by omega, ?_⟩, fun hge => ?_⟩
  · rw [wsucc (n := ps.length) (by omega) h, flat_set qs i (by omega)]
    refine ⟨(i + 1, qs.set i (ps.getD i (0, 0))), [], ⟨by omega, h2, by simp [h3], ?_⟩, ?_, rfl, rfl, ?_⟩
    · exact take_set_succ (by omega) (by omega) h4 _
    · show ps.length - (i + 1) < ps.length - i; omega
    · repeat' (first | exact True.intro | exact rfl | exact fun _ => rfl | refine And.intro ?_ ?_)
  · have e : qs = ps := by
      rw [List.take_of_length_le (by omega), List.take_of_length_le (by omega)] at h4
      exact h4
    subst e
    refine ⟨rfl, [], ?_⟩
    repeat' (first | exact True.intro | exact rfl | exact fun _ => rfl | refine And.intro ?_ ?_)
set_option maxRecDepth 100000 in
theorem lg_toPts : LoopE Try.prog e_toPts c_toPts := by
  intro s k t F H hlt ht
  unfold e_toPts at hlt
  split at hlt
  rotate_left
  · cases hlt
  rename_i hlen hpick hmem
  obtain ⟨tmps, mem⟩ := s
  simp only at hlen hpick hmem
  subst hmem
  obtain rfl := Option.some.inj hlt
  obtain ⟨⟨rfl, rfl, h1, h2, h3, _⟩, ht2⟩ := needs_ok ht
  clear ht hlt
  obtain ⟨ps, rfl, rfl⟩ := even_flat h1
  obtain ⟨qs, rfl, hq⟩ := even_flat h2
  refine ⟨_, _, ht2, loop_run mixed E3_ok (s_toPts ps ps.length) (inv_toPts ps ps.length) (me_toPts ps ps.length) re_toPts (rs_toPts ps ps.length) k_toPts (fun _ => rfl) (noLoops nl_toPts) (round_toPts ps ps.length h3) (x := (0, qs)) ⟨Nat.zero_le _, rfl, hq, rfl⟩ (π := []) rfl ?_⟩
  refine ⟨rfl, rfl, ?_, wvs_spread' [0, 3, 4] hlen rfl ?_⟩
  · repeat' (first | exact True.intro | exact rfl | exact wv_top _ _ | exact fun _ => rfl | assumption | exact Eq.symm (by assumption) | exact vI0 rfl | refine And.intro ?_ ?_)
  · rw [hpick]
    repeat' (first | exact True.intro | exact rfl | exact wv_top _ _ | exact fun _ => rfl | assumption | exact Eq.symm (by assumption) | exact vI0 rfl | refine And.intro ?_ ?_)
noncomputable def c_eqPts : Code := ((loopsOf (codeOf Try.f28))[0]?).getD .skip
def k_eqPts : Ex → List Nat := keeps [0, 1, 5] [(0, [])] [4]
def s_eqPts (ps : List Pt) (qs : List Pt) : Nat → St := fun i => ⟨[.slice (some ⟨0, 0, none⟩) ps.length ps.length, .slice (some ⟨1, 0, none⟩) qs.length qs.length, topV, topV, topV, .int .i64 i, topV, topV, topV, topV, topV, topV, topV, topV, topV, topV, topV, topV, topV, topV, topV, topV, topV, topV, topV, topV, topV], [some ⟨.view, .ints (flat ps)⟩, some ⟨.view, .ints (flat qs)⟩]⟩
def re_eqPts (ps : List Pt) (qs : List Pt) : Nat → Ex := fun i => bif decide (ps.drop i = qs.drop i) then .exit 0 else .ret
def rs_eqPts (ps : List Pt) (qs : List Pt) : Nat → St := fun i => bif decide (ps.drop i = qs.drop i) then ⟨[topV, topV, topV, topV, topV, topV, topV, topV, topV, topV, topV, topV, topV, topV, topV, topV, topV, topV, topV, topV, topV, topV, topV, topV, topV, topV, topV], [some ⟨.view, .ints (flat ps)⟩, some ⟨.view, .ints (flat qs)⟩]⟩ else ⟨[topV, topV, topV, topV, .bool false, topV, topV, topV, topV, topV, topV, topV, topV, topV, topV, topV, topV, topV, topV, topV, topV, topV, topV, topV, topV, topV, topV], [some ⟨.view, .ints (flat ps)⟩, some ⟨.view, .ints (flat qs)⟩]⟩
set_option maxRecDepth 100000 in
theorem tr_eqPts (ps : List Pt) (qs : List Pt) (i : Nat) : bodyL Try.prog E3 30 12 noL 1 c_eqPts k_eqPts 2 (s_eqPts ps qs i) = brT (decide ((↑i : Int) < (↑ps.length : Int))) (brT (!(flat ps).getD (0 + (↑i : Int).toNat * 2) 0 == (flat qs).getD (0 + (↑i : Int).toNat * 2) 0) (.need ((0 : Int) ≤ (↑i : Int) ∧ (↑i : Int) < (↑ps.length : Int)) (.need ((0 : Nat) + (↑i : Int).toNat * (2 : Nat) + (2 : Nat) ≤ (flat ps).length) (.need ((0 : Int) ≤ (↑i : Int) ∧ (↑i : Int) < (↑qs.length : Int)) (.need ((0 : Nat) + (↑i : Int).toNat * (2 : Nat) + (2 : Nat) ≤ (flat qs).length) (.leaf .ret ⟨[topV, topV, topV, topV, .bool (false), topV, topV, topV, topV, topV, topV, topV, topV, topV, topV, topV, topV, topV, topV, topV, topV, topV, topV, topV, topV, topV, topV], [some ⟨.view, .ints (flat ps)⟩, some ⟨.view, .ints (flat qs)⟩]⟩))))) (brT (!(flat ps).getD (0 + (↑i : Int).toNat * 2 + 1) 0 == (flat qs).getD (0 + (↑i : Int).toNat * 2 + 1) 0) (.need ((0 : Int) ≤ (↑i : Int) ∧ (↑i : Int) < (↑ps.length : Int)) (.need ((0 : Nat) + (↑i : Int).toNat * (2 : Nat) + (2 : Nat) ≤ (flat ps).length) (.need ((0 : Int) ≤ (↑i : Int) ∧ (↑i : Int) < (↑qs.length : Int)) (.need ((0 : Nat) + (↑i : Int).toNat * (2 : Nat) + (2 : Nat) ≤ (flat qs).length) (.leaf .ret ⟨[topV, topV, topV, topV, .bool (false), topV, topV, topV, topV, topV, topV, topV, topV, topV, topV, topV, topV, topV, topV, topV, topV, topV, topV, topV, topV, topV, topV], [some ⟨.view, .ints (flat ps)⟩, some ⟨.view, .ints (flat qs)⟩]⟩))))) (.need ((0 : Int) ≤ (↑i : Int) ∧ (↑i : Int) < (↑ps.length : Int)) (.need ((0 : Nat) + (↑i : Int).toNat * (2 : Nat) + (2 : Nat) ≤ (flat ps).length) (.need ((0 : Int) ≤ (↑i : Int) ∧ (↑i : Int) < (↑qs.length : Int)) (.need ((0 : Nat) + (↑i : Int).toNat * (2 : Nat) + (2 : Nat) ≤ (flat qs).length) (.leaf .normal ⟨[.slice (some ⟨0, 0, none⟩) (ps.length) (ps.length), .slice (some ⟨1, 0, none⟩) (qs.length) (qs.length), topV, topV, topV, .int .i64 (IntKind.i64.wrap ((↑i : Int) + 1)), topV, topV, topV, topV, topV, topV, topV, topV, topV, topV, topV, topV, topV, topV, topV, topV, topV, topV, topV, topV, topV], [some ⟨.view, .ints (flat ps)⟩, some ⟨.view, .ints (flat qs)⟩]⟩))))))) (.leaf (.exit 0) ⟨[topV, topV, topV, topV, topV, topV, topV, topV, topV, topV, topV, topV, topV, topV, topV, topV, topV, topV, topV, topV, topV, topV, topV, topV, topV, topV, topV], [some ⟨.view, .ints (flat ps)⟩, some ⟨.view, .ints (flat qs)⟩]⟩) := by kernel_rfl
set_option maxRecDepth 100000 in
theorem nl_eqPts : loopsOf c_eqPts = [] := by kernel_rfl
def inv_eqPts (ps : List Pt) (qs : List Pt) : Nat → Prop := fun i => i ≤ ps.length ∧ ps.length = qs.length
def me_eqPts (ps : List Pt) (qs : List Pt) : Nat → Nat := fun i => ps.length - i
/-- A round of this loop. -/
def Round_eqPts (ps : List Pt) (qs : List Pt) : Prop := ∀ xx : Nat, inv_eqPts ps qs xx → (bodyL Try.prog E3 30 12 noL 1 c_eqPts k_eqPts 2 (s_eqPts ps qs xx)).ok (RoundEnd 2 (s_eqPts ps qs) (inv_eqPts ps qs) (me_eqPts ps qs) (re_eqPts ps qs) (rs_eqPts ps qs) xx) (fun _ _ => False)
def e_eqPts (s : St) (k : Ex → St → Tree) : Option Tree := match Nat.beq s.tmps.length 27, pickL s.tmps [0, 1, 5], s.mem with
  | true, [.slice (some ⟨0, 0, none⟩) n _, .slice (some ⟨1, 0, none⟩) m _, .int .i64 i], [some ⟨.view, .ints xs⟩, some ⟨.view, .ints ys⟩] => some (needs [i = 0, m = n, xs.length = n * 2, ys.length = n * 2, n ≤ 1000000000] (brT (eqL (ptsA n xs) (ptsA n ys)) (k (.exit 0) ⟨[topV, topV, topV, topV, topV, topV, topV, topV, topV, topV, topV, topV, topV, topV, topV, topV, topV, topV, topV, topV, topV, topV, topV, topV, topV, topV, topV], [some ⟨.view, .ints xs⟩, some ⟨.view, .ints ys⟩]⟩) (k .ret ⟨[topV, topV, topV, topV, .bool false, topV, topV, topV, topV, topV, topV, topV, topV, topV, topV, topV, topV, topV, topV, topV, topV, topV, topV, topV, topV, topV, topV], [some ⟨.view, .ints xs⟩, some ⟨.view, .ints ys⟩]⟩)))
  | _, _, _ => none
set_option maxRecDepth 100000 in
theorem round_eqPts (ps qs : List Pt) (h : ps.length ≤ 1000000000) : Round_eqPts ps qs := by
  rintro i ⟨h1, h2⟩
  rw [tr_eqPts]
  simp only [brT_ok, Tree.ok, decide_eq_true_eq, decide_eq_false_iff_not, Int.toNat_natCast, Nat.zero_add, flat_length, flat_get0, flat_get1, Bool.not_eq_true', Bool.not_eq_false', beq_iff_eq, beq_eq_false_iff_ne]
  refine ⟨fun hlt => ?_, fun hge => ?_⟩
  · have hd1 := drop_cons (l := ps) (k := i) (by omega) (0, 0)
    have hd2 := drop_cons (l := qs) (k := i) (by omega) (0, 0)
    have ne : ps.getD i (0, 0) ≠ qs.getD i (0, 0) → decide (ps.drop i = qs.drop i) = false := fun hne => by
      rw [hd1, hd2]
      simp only [List.cons.injEq, decide_eq_false_iff_not]
      exact fun h => hne h.1
    refine ⟨fun hv => ⟨by omega, by omega, by omega, by omega, ?_⟩, fun hv => ⟨fun hv2 => ⟨by omega, by omega, by omega, by omega, ?_⟩, fun hv2 => ⟨by omega, by omega, by omega, by omega, ?_⟩⟩⟩
    · have e := ne fun h => hv (by rw [h])
      refine ⟨by simp only [re_eqPts, e, cond_false], [], ?_⟩
      simp only [rs_eqPts, e, cond_false]
      repeat' (first | exact True.intro | exact rfl | exact fun _ => rfl | refine And.intro ?_ ?_)
    · have e := ne fun h => hv2 (by rw [h])
      refine ⟨by simp only [re_eqPts, e, cond_false], [], ?_⟩
      simp only [rs_eqPts, e, cond_false]
      repeat' (first | exact True.intro | exact rfl | exact fun _ => rfl | refine And.intro ?_ ?_)
    · have hp : ps.getD i (0, 0) = qs.getD i (0, 0) := Prod.ext hv hv2
      have e : decide (ps.drop i = qs.drop i) = decide (ps.drop (i + 1) = qs.drop (i + 1)) := by
        rw [hd1, hd2, hp]
        simp
      rw [wsucc (n := ps.length) (by omega) h]
      refine ⟨i + 1, [], ⟨by omega, h2⟩, ?_, by simp only [re_eqPts, e], by simp only [rs_eqPts, e], ?_⟩
      · show ps.length - (i + 1) < ps.length - i; omega
      · repeat' (first | exact True.intro | exact rfl | exact fun _ => rfl | refine And.intro ?_ ?_)
  · have e : decide (ps.drop i = qs.drop i) = true := by rw [List.drop_of_length_le (by omega), List.drop_of_length_le (by omega)]; rfl
    refine ⟨by simp only [re_eqPts, e, cond_true], [], ?_⟩
    simp only [rs_eqPts, e, cond_true]
    repeat' (first | exact True.intro | exact rfl | exact fun _ => rfl | refine And.intro ?_ ?_)
set_option maxRecDepth 100000 in
theorem lg_eqPts : LoopE Try.prog e_eqPts c_eqPts := by
  intro s k t F H hlt ht
  unfold e_eqPts at hlt
  split at hlt
  rotate_left
  · cases hlt
  rename_i hlen hpick hmem
  obtain ⟨tmps, mem⟩ := s
  simp only at hlen hpick hmem
  subst hmem
  obtain rfl := Option.some.inj hlt
  obtain ⟨⟨rfl, rfl, h1, h2, h3, _⟩, ht2⟩ := needs_ok ht
  clear ht hlt
  obtain ⟨ps, rfl, rfl⟩ := even_flat h1
  obtain ⟨qs, rfl, hq⟩ := even_flat h2
  rw [ptsA_flat, ← hq, ptsA_flat] at ht2
  refine ⟨_, _, pick2k ht2, loop_run mixed E3_ok (s_eqPts ps qs) (inv_eqPts ps qs) (me_eqPts ps qs) (re_eqPts ps qs) (rs_eqPts ps qs) k_eqPts (fun _ => rfl) (noLoops nl_eqPts) (round_eqPts ps qs h3) (x := 0) ⟨Nat.zero_le _, hq.symm⟩ (π := []) rfl ?_⟩
  refine ⟨rfl, rfl, ?_, wvs_spread' [0, 1, 5] hlen rfl ?_⟩
  · repeat' (first | exact True.intro | exact rfl | exact wv_top _ _ | exact fun _ => rfl | assumption | exact Eq.symm (by assumption) | exact vI0 rfl | refine And.intro ?_ ?_)
  · rw [hpick]
    repeat' (first | exact True.intro | exact rfl | exact wv_top _ _ | exact fun _ => rfl | assumption | exact Eq.symm (by assumption) | exact vI0 rfl | refine And.intro ?_ ?_)
end Go.Proofs.Ytnjmepbblcfnfaa
namespace Go.Proofs.Ytnjmepbblcfnfaa
set_option linter.all false
open Go.RowKit
def L4 : FuncId → LT := fun f => match f with
  | 26 => lt1 e_toPts
  | 28 => lt1 e_eqPts
  | _ => noL
def E4 : Env := mkE (T2) (fun _ _ => none) (L4)
theorem code_of {f : FuncId} {fn g : Func} (h : Try.prog.funcs[f]? = some g) (hf : Try.prog.funcs[f]? = some fn) : g = fn := by rw [h] at hf; simpa using hf
theorem Lr_toPts {fn : Func} (hf : Try.prog.funcs[26]? = some fn) : LoopsGood Try.prog (lt1 e_toPts) 0 (codeOf fn) := by
  obtain rfl := code_of Try.func26 hf
  exact lt1_good lg_toPts
theorem Lr_eqPts {fn : Func} (hf : Try.prog.funcs[28]? = some fn) : LoopsGood Try.prog (lt1 e_eqPts) 0 (codeOf fn) := by
  obtain rfl := code_of Try.func28 hf
  exact lt1_good lg_eqPts
theorem L4_ok : ∀ f fn, Try.prog.funcs[f]? = some fn → LoopsGood Try.prog (L4 f) 0 (codeOf fn) := by
  intro f fn hf
  unfold L4
  split
  all_goals first | with_reducible exact Lr_toPts hf | with_reducible exact Lr_eqPts hf | with_reducible exact Lr_specCW hf | with_reducible exact Lr_implCW hf | exact noL_good
theorem E4_ok : EnvOk Try.prog E4 := mkEOk (T2_ok) (fun _ _ _ _ _ h => (by cases h)) (L4_ok)
set_option maxRecDepth 100000 in
theorem tr_toPointS (ps : List Pt) : bodyX Try.prog E4 30 12 26 [.row ps.length (.ints (flat ps))] = .need ((0 : Int) ≤ (↑ps.length : Int) ∧ (↑ps.length : Int) ≤ (↑ps.length : Int) ∧ (16 : Nat) * (↑ps.length : Int).toNat ≤ (281474976710656 : Nat) ∧ (↑ps.length : Int) ≤ (9223372036854775807 : Int)) (.need ((0 : Int) = (0 : Int)) (.need ((↑ps.length : Int).toNat = ps.length) (.need ((flat ps).length = ps.length * (2 : Nat)) (.need ((List.replicate ((↑ps.length : Int).toNat * (2 : Nat)) (0 : Int)).length = ps.length * (2 : Nat)) (.need (ps.length ≤ (1000000000 : Nat)) (.fin (.slice (some ⟨1, 0, none⟩) ((↑ps.length : Int).toNat) ((↑ps.length : Int).toNat)) [some ⟨.view, .ints (flat ps)⟩, some ⟨.row 30 2, .ints (flat ps)⟩])))))) := by kernel_rfl
set_option maxRecDepth 100000 in
theorem tr_eqPointS (ps qs : List Pt) : bodyX Try.prog E4 30 12 28 [.row ps.length (.ints (flat ps)), .row qs.length (.ints (flat qs))] = brT (!(↑ps.length : Int) == (↑qs.length : Int)) (.fin (.bool (false)) [some ⟨.view, .ints (flat ps)⟩, some ⟨.view, .ints (flat qs)⟩]) (.need ((0 : Int) = (0 : Int)) (.need (qs.length = ps.length) (.need ((flat ps).length = ps.length * (2 : Nat)) (.need ((flat qs).length = ps.length * (2 : Nat)) (.need (ps.length ≤ (1000000000 : Nat)) (brT (eqL (ptsA ps.length (flat ps)) (ptsA ps.length (flat qs))) (.fin (.bool (true)) [some ⟨.view, .ints (flat ps)⟩, some ⟨.view, .ints (flat qs)⟩]) (.fin (.bool (false)) [some ⟨.view, .ints (flat ps)⟩, some ⟨.view, .ints (flat qs)⟩]))))))) := by kernel_rfl
theorem resR_toPointS (ps : List Pt) (h : Big ps) : ResR Try.prog 26 [.row ps.length (.ints (flat ps))] (.slice (some ⟨0, 0, none⟩) ps.length ps.length) ⟨.row 30 2, .ints (flat ps)⟩ := by
  refine bodyX_resR mixed E4_ok (m := 30) (n := 12) rfl ?_
  rw [tr_toPointS]
  unfold Big at h
  simp only [Tree.ok, flat_length, Int.toNat_natCast, List.length_replicate]
  exact ⟨by omega, trivial, trivial, trivial, trivial, h, some 1, ⟨rfl, rfl, rfl⟩, rfl, rfl, rfl⟩
theorem res_eqPointS (ps qs : List Pt) (h : Big ps) : Res Try.prog 28 [.row ps.length (.ints (flat ps)), .row qs.length (.ints (flat qs))] (.bool (eqL ps qs)) := by
  refine bodyX_res mixed E4_ok (m := 30) (n := 12) rfl ?_
  rw [tr_eqPointS]
  unfold Big at h
  by_cases hl : ps.length = qs.length
  · have e : ptsA ps.length (flat qs) = qs := by rw [hl, ptsA_flat]
    rw [e, ptsA_flat, show (!((ps.length : Int) == (qs.length : Int))) = false by simp [hl]]
    simp only [brT_f, Tree.ok, flat_length]
    refine ⟨trivial, hl.symm, trivial, by omega, h, ?_⟩
    cases eqL ps qs <;> rfl
  · have e : eqL ps qs = false := by
      unfold eqL
      rw [decide_eq_false_iff_not]
      rintro rfl
      exact hl rfl
    rw [show (!((ps.length : Int) == (qs.length : Int))) = true by simp; omega]
    simp only [brT_t, Tree.ok, e]
def pEq2 : List DArg → Option (Value × List Prop)
  | [.row m (.ints xs), .row n (.ints ys)] => some (.bool (eqL (ptsA m xs) (ptsA n ys)), [m * 2 ≤ xs.length, n * 2 ≤ ys.length, m ≤ 1000000000])
  | _ => none
def T3 : Tab := fun f ds => match f with
  | 28 => pEq2 ds
  | f => T2 f ds
theorem pEq2_ok {ds : List DArg} {v : Value} {C : List Prop} (h : pEq2 ds = some (v, C)) (hC : AllP C) : Res Try.prog 28 ds v := by
  unfold pEq2 at h
  split at h
  · rename_i m xs n ys
    obtain ⟨rfl, rfl⟩ : _ ∧ _ := by simpa using h
    obtain ⟨_, h2⟩ := ptsA_spec hC.1
    have h0 := res_eqPointS (ptsA m xs) (ptsA n ys) (by unfold Big; rw [h2]; exact hC.2.2.1)
    exact res_pts1 (pre := []) (post := [_]) hC.1 (res_pts1 (pre := [_]) (post := []) hC.2.1 h0)
  · cases h
theorem T3_ok : TabOk Try.prog T3 := by
  intro f ds v C h hC
  unfold T3 at h
  (try split at h)
  all_goals first | with_reducible exact pEq2_ok h hC | with_reducible exact pCWs_ok h hC | with_reducible exact pCWi_ok h hC | exact T2_ok _ _ _ _ h hC
def R4 : TabR := fun f ds => match f, ds with
  | 26, [.row n (.ints xs)] => some (.slice (some ⟨0, 0, none⟩) n n, ⟨.row 30 2, .ints (xs.take (n * 2))⟩, [n * 2 ≤ xs.length, n ≤ 1000000000])
  | _, _ => none
theorem R4_ok : TabROk Try.prog R4 := by
  intro f ds v b C h hC
  unfold R4 at h
  split at h
  · rename_i n xs
    obtain ⟨rfl, rfl, rfl⟩ : _ ∧ _ ∧ _ := by simpa using h
    obtain ⟨h1, h2⟩ := ptsA_spec hC.1
    have h0 := resR_toPointS (ptsA n xs) (by unfold Big; rw [h2]; exact hC.2.1)
    have h3 := resR_pts1 (pre := []) (post := []) hC.1 h0
    rw [h2, ← h1] at h3
    exact h3
  · cases h
end Go.Proofs.Ytnjmepbblcfnfaa
namespace Go.Proofs.Ytnjmepbblcfnfaa
set_option linter.all false
open Go.RowKit
/-- The index of the first largest among those at b and from i on, n of them. -/
def ag (f : Pt → Int) (ps : List Pt) : Nat → Nat → Nat → Nat
  | 0, _, b => b
  | n + 1, i, b => ag f ps n (i + 1) (if f (ps.getD b (0, 0)) < f (ps.getD i (0, 0)) then i else b)
theorem ag_step {f : Pt → Int} {ps : List Pt} {i : Nat} (h : i < ps.length) (b : Nat) : ag f ps (ps.length - i) i b = ag f ps (ps.length - (i + 1)) (i + 1) (if f (ps.getD b (0, 0)) < f (ps.getD i (0, 0)) then i else b) := by
  rw [show ps.length - i = (ps.length - (i + 1)) + 1 by omega]
  rfl
theorem ag_end {f : Pt → Int} {ps : List Pt} {i : Nat} (h : ps.length ≤ i) (b : Nat) : ag f ps (ps.length - i) i b = b := by
  rw [show ps.length - i = 0 by omega]
  rfl
def fl (f : Pt → Int) (ps : List Pt) (i : Nat) (b : Int) : Int :=
  if b < 0 then (if ps.length ≤ i then -1 else (ag f ps (ps.length - (i + 1)) (i + 1) i : Nat)) else (ag f ps (ps.length - i) i b.toNat : Nat)
theorem fl_first {f : Pt → Int} {ps : List Pt} {i : Nat} (h : i < ps.length) {b : Int} (hb : b < 0) : fl f ps i b = fl f ps (i + 1) i := by
  unfold fl
  rw [if_pos hb, if_neg (by omega), if_neg (by omega), Int.toNat_natCast]
theorem fl_yes {f : Pt → Int} {ps : List Pt} {i : Nat} (h : i < ps.length) {b : Int} (hb : 0 ≤ b) (hm : f (ps.getD b.toNat (0, 0)) < f (ps.getD i (0, 0))) : fl f ps i b = fl f ps (i + 1) i := by
  unfold fl
  rw [if_neg (by omega), if_neg (by omega), Int.toNat_natCast, ag_step h, if_pos hm]
theorem fl_no {f : Pt → Int} {ps : List Pt} {i : Nat} (h : i < ps.length) {b : Int} (hb : 0 ≤ b) (hm : ¬ f (ps.getD b.toNat (0, 0)) < f (ps.getD i (0, 0))) : fl f ps i b = fl f ps (i + 1) b := by
  unfold fl
  rw [if_neg (by omega), if_neg (by omega), ag_step h, if_neg hm]
theorem fl_end {f : Pt → Int} {ps : List Pt} {i : Nat} (h : ps.length ≤ i) {b : Int} (hb : b = -1 ∨ 0 ≤ b) : fl f ps i b = b := by
  unfold fl
  rcases hb with rfl | hb
  · rw [if_pos (by omega), if_pos h]
  · rw [if_neg (by omega), ag_end h]; omega
end Go.Proofs.Ytnjmepbblcfnfaa
namespace Go.Proofs.Ytnjmepbblcfnfaa
set_option linter.all false
open Go.RowKit
/-- The squared distance of a pair of places. -/
def dmV (ps : List Pt) (p : Pt) : Int := sq (ps.getD p.1.toNat (0, 0)) (ps.getD p.2.toNat (0, 0))
/-- So many pairs of a row. -/
def prR (i : Int) : Nat → Int → List Pt
  | 0, _ => []
  | m + 1, k => (i, k) :: prR i m (k + 1)
/-- So many rows of pairs. -/
def prA (n : Nat) : Nat → Nat → List Pt
  | 0, _ => []
  | m + 1, i => prR i (n - i) i ++ prA n m (i + 1)
def prB (n : Nat) : Nat → Nat → List Pt
  | 0, _ => []
  | m + 1, i => prR i (n - (i + 1)) ((i + 1 : Nat) : Int) ++ prB n m (i + 1)
/-- All pairs of places. -/
def prL (n : Nat) : List Pt := prA n n 0
def mxS (f : Pt → Int) (a p : Pt) : Pt := if f a < f p then p else a
theorem mxS_ge (f : Pt → Int) (a p : Pt) : f a ≤ f (mxS f a p) ∧ f p ≤ f (mxS f a p) ∧ (mxS f a p = a ∨ mxS f a p = p) := by
  unfold mxS
  split
  · exact ⟨by omega, Int.le_refl _, .inr rfl⟩
  · exact ⟨Int.le_refl _, by omega, .inl rfl⟩
theorem fold_mx (f : Pt → Int) : ∀ (l : List Pt) (a : Pt), f a ≤ f (l.foldl (mxS f) a) ∧ (∀ p ∈ l, f p ≤ f (l.foldl (mxS f) a)) ∧ (l.foldl (mxS f) a = a ∨ l.foldl (mxS f) a ∈ l)
  | [], a => ⟨Int.le_refl _, fun p h => (by cases h), .inl rfl⟩
  | q :: r, a => by
    obtain ⟨h1, h2, h3⟩ := fold_mx f r (mxS f a q)
    obtain ⟨g1, g2, g3⟩ := mxS_ge f a q
    refine ⟨Int.le_trans g1 h1, fun p hp => ?_, ?_⟩
    · rcases List.mem_cons.1 hp with rfl | hp
      · exact Int.le_trans g2 h1
      · exact h2 p hp
    · rcases h3 with h3 | h3
      · rw [List.foldl_cons, h3]
        rcases g3 with g3 | g3
        · exact .inl g3
        · exact .inr (by rw [g3]; exact List.mem_cons_self ..)
      · exact .inr (List.mem_cons_of_mem _ h3)
theorem ag_fold {f : Pt → Int} {ps : List Pt} : ∀ (n i b : Nat), i + n = ps.length → ps.getD (ag f ps n i b) (0, 0) = (ps.drop i).foldl (mxS f) (ps.getD b (0, 0))
  | 0, i, b, h => by
    rw [List.drop_of_length_le (by omega)]
    rfl
  | n + 1, i, b, h => by
    rw [drop_cons (l := ps) (k := i) (by omega) (0, 0), List.foldl_cons]
    show ps.getD (ag f ps n (i + 1) (if f (ps.getD b (0, 0)) < f (ps.getD i (0, 0)) then i else b)) (0, 0) = _
    rw [ag_fold n (i + 1) _ (by omega)]
    congr 1
    unfold mxS
    split <;> rfl
theorem prR_step (i : Int) (m : Nat) (k : Int) : prR i (m + 1) k = (i, k) :: prR i m (k + 1) := rfl
theorem prA_step (n m i : Nat) : prA n (m + 1) i = prR i (n - i) i ++ prA n m (i + 1) := rfl
theorem prB_step (n m i : Nat) : prB n (m + 1) i = prR i (n - (i + 1)) ((i + 1 : Nat) : Int) ++ prB n m (i + 1) := rfl
theorem pr_same {f : Pt → Int} (h0 : ∀ k : Int, f (k, k) = 0) (n : Nat) : ∀ (m i : Nat) (a : Pt), i + m ≤ n → 0 ≤ f a → (prA n m i).foldl (mxS f) a = (prB n m i).foldl (mxS f) a
  | 0, _, _, _, _ => rfl
  | m + 1, i, a, h, ha => by
    have e : n - i = (n - (i + 1)) + 1 := by omega
    rw [prA_step, prB_step, e, prR_step, List.cons_append, List.foldl_cons, List.foldl_append, List.foldl_append]
    have e1 : mxS f a ((i : Int), (i : Int)) = a := by
      unfold mxS
      rw [if_neg (by have := h0 i; omega)]
    rw [e1]
    have := (fold_mx f (prR i (n - (i + 1)) ((i : Int) + 1)) a).1
    rw [pr_same h0 n m (i + 1) _ (by omega) (by omega)]
    rfl
theorem prR_mem {i : Int} : ∀ {m : Nat} {k : Int} {p : Pt}, p ∈ prR i m k ↔ p.1 = i ∧ k ≤ p.2 ∧ p.2 < k + m
  | 0, k, p => by
    constructor
    · intro h
      cases h
    · intro h
      omega
  | m + 1, k, p => by
    rw [prR_step, List.mem_cons, prR_mem]
    constructor
    · rintro (rfl | ⟨h1, h2, h3⟩)
      · exact ⟨rfl, Int.le_refl _, by simp only; omega⟩
      · exact ⟨h1, by omega, by omega⟩
    · rintro ⟨h1, h2, h3⟩
      rcases Int.lt_or_le k p.2 with h | h
      · exact .inr ⟨h1, by omega, by omega⟩
      · exact .inl (Prod.ext h1 (by simp only; omega))
theorem prA_mem {n : Nat} : ∀ {m i : Nat} {p : Pt}, i + m ≤ n → (p ∈ prA n m i ↔ i ≤ p.1 ∧ p.1 < i + m ∧ p.1 ≤ p.2 ∧ p.2 < n)
  | 0, i, p, _ => by
    constructor
    · intro h
      cases h
    · intro h
      omega
  | m + 1, i, p, h => by
    rw [prA_step, List.mem_append, prR_mem, prA_mem (by omega)]
    omega
theorem prL_mem {n : Nat} {p : Pt} : p ∈ prL n ↔ 0 ≤ p.1 ∧ p.1 ≤ p.2 ∧ p.2 < n := by
  unfold prL
  rw [prA_mem (by omega)]
  omega
theorem prR_len (i : Int) : ∀ (m : Nat) (k : Int), (prR i m k).length = m
  | 0, _ => rfl
  | m + 1, k => by rw [prR_step, List.length_cons, prR_len]
theorem prA_len (n : Nat) : ∀ (m i : Nat), (prA n m i).length ≤ m * n
  | 0, _ => Nat.zero_le _
  | m + 1, i => by
    have := prA_len n m (i + 1)
    rw [prA_step, List.length_append, prR_len, Nat.add_mul]
    omega
/-- The farthest pair of places. -/
def dmP (ps : List Pt) : Pt := (prB ps.length ps.length 0).foldl (mxS (dmV ps)) (0, 0)
theorem dm_diag (ps : List Pt) (k : Int) : dmV ps (k, k) = 0 := by
  unfold dmV sq
  simp
theorem sq_sym (p q : Pt) : sq p q = sq q p := by
  unfold sq
  grind
theorem dmP_A (ps : List Pt) : dmP ps = (prL ps.length).foldl (mxS (dmV ps)) (0, 0) := by
  unfold dmP prL
  rw [pr_same (dm_diag ps) ps.length ps.length 0 (0, 0) (by omega) (by rw [dm_diag]; exact Int.le_refl _)]
theorem prL_0 {n : Nat} (h : 0 < n) : (prL n).getD 0 (0, 0) = (0, 0) ∧ 0 < (prL n).length := by
  obtain ⟨m, rfl⟩ : ∃ m, n = m + 1 := ⟨n - 1, by omega⟩
  unfold prL
  rw [prA_step, show m + 1 - 0 = m + 1 from rfl, prR_step]
  exact ⟨rfl, by simp⟩
theorem dmP_ag {ps : List Pt} (h : 0 < ps.length) : (prL ps.length).getD (ag (dmV ps) (prL ps.length) (prL ps.length).length 0 0) (0, 0) = dmP ps := by
  rw [ag_fold _ _ _ (by omega), (prL_0 h).1, dmP_A]
  rfl
theorem dmP_in {ps : List Pt} (h : 0 < ps.length) : 0 ≤ (dmP ps).1 ∧ (dmP ps).1 ≤ (dmP ps).2 ∧ (dmP ps).2 < ps.length := by
  rw [dmP_A]
  rcases (fold_mx (dmV ps) (prL ps.length) (0, 0)).2.2 with e | e
  · rw [e]
    exact ⟨Int.le_refl _, Int.le_refl _, by simp only; omega⟩
  · exact prL_mem.1 e
theorem dmP_max {ps : List Pt} {i k : Nat} (hi : i < ps.length) (hk : k < ps.length) : sq (ps.getD i (0, 0)) (ps.getD k (0, 0)) ≤ dmV ps (dmP ps) := by
  have key : ∀ i k : Nat, i ≤ k → k < ps.length → sq (ps.getD i (0, 0)) (ps.getD k (0, 0)) ≤ dmV ps (dmP ps) := by
    intro i k h1 h2
    have := (fold_mx (dmV ps) (prL ps.length) (0, 0)).2.1 ((i : Int), (k : Int)) (prL_mem.2 ⟨by simp only; omega, by simp only; omega, by simp only; omega⟩)
    rw [dmP_A]
    exact this
  rcases Nat.le_total i k with h | h
  · exact key i k h hk
  · rw [sq_sym]
    exact key k i h hi
end Go.Proofs.Ytnjmepbblcfnfaa
namespace Go.Proofs.Ytnjmepbblcfnfaa
set_option linter.all false
def pltB (a b : Pt) : Bool := decide (a.1 < b.1 ∨ a.1 = b.1 ∧ a.2 < b.2)
theorem pltB_iff {a b : Pt} : pltB a b = true ↔ a.1 < b.1 ∨ a.1 = b.1 ∧ a.2 < b.2 := by simp [pltB]
end Go.Proofs.Ytnjmepbblcfnfaa
namespace Go.Proofs.Ytnjmepbblcfnfaa
set_option linter.all false
open Go.RowKit
theorem DOk.ints {w : World} {l : Nat} {cs : Cs} {xs : List Int} (h : cs.list = xs.map (Value.int .i64)) {y : Value} (k : DOk w (.row l cs) y) : DOk w (.row l (.ints xs)) y := by
  obtain ⟨_, ad, c', h2, h3, h4⟩ := k
  refine ⟨rfl, ad, c', h2, h3, h4.imp id ?_⟩
  rintro ⟨g, f, h5, h6, h7⟩
  exact ⟨g, f, h5, h6, fun j v hv => h7 j v (by rw [h]; exact hv)⟩
/-- What is known for a row of ints is known for the same cells written otherwise. -/
theorem DOks.ints {w : World} : ∀ {ds ds' : List DArg} {args : Array Value}, DOks w ds args → ds.length = ds'.length → (∀ (i : Nat) d d', ds[i]? = some d → ds'[i]? = some d' → d = d' ∨ ∃ l cs xs, d = .row l cs ∧ d' = .row l (.ints xs) ∧ cs.list = xs.map (Value.int .i64)) → DOks w ds' args := by
  intro ds ds' args h hl hi
  refine ⟨by rw [← hl]; exact h.1, fun i d' y hd' hy => ?_⟩
  have hlt : i < ds.length := by rw [hl]; exact (List.getElem?_eq_some_iff.1 hd').1
  have hd : ds[i]? = some ds[i] := by simp [hlt]
  have h0 := h.2 i ds[i] y hd hy
  rcases hi i ds[i] d' hd hd' with e | ⟨l, cs, xs, e1, e2, e3⟩
  · rw [← e]; exact h0
  · rw [e1] at h0
    rw [e2]
    exact h0.ints e3
end Go.Proofs.Ytnjmepbblcfnfaa
namespace Go.Proofs.Ytnjmepbblcfnfaa
set_option linter.all false
open Go.RowKit
/-- Two points are equal. -/
def eqB (ax ay bx b_y : Int) : Bool := ax == bx && ay == b_y
def segB (ax ay bx b_y : Int) : Bool := ptB ax ay && ptB bx b_y && !(eqB ax ay bx b_y)
theorem set_is {W : World} {a : Addr} (v : Value) (h : (W.cell? a).isSome = true) : (W.setCell a v).cell? a = some v := by
  obtain ⟨u, hu⟩ := Option.isSome_iff_exists.mp h
  exact set_same v hu
theorem set_blk {W : World} {b g i j : Nat} (v : Value) (h : ¬ b = g) : (W.setCell ⟨g, i, none⟩ v).cell? ⟨b, j, none⟩ = W.cell? ⟨b, j, none⟩ :=
  World.cell?_setCell_other _ ⟨g, i, none⟩ ⟨b, j, none⟩ v (fun e => h (by cases e; rfl))
theorem set_off {W : World} {g i j : Nat} (v : Value) (h : ¬ j = i) : (W.setCell ⟨g, i, none⟩ v).cell? ⟨g, j, none⟩ = W.cell? ⟨g, j, none⟩ :=
  World.cell?_setCell_other _ ⟨g, i, none⟩ ⟨g, j, none⟩ v (fun e => h (by cases e; rfl))
/-- A point that needs no check is on a segment: by the product and the scalar product of the vectors to the ends. -/
def hasB (ax ay bx b_y px py : Int) : Bool := ((ax - px) * (b_y - py) - (ay - py) * (bx - px) == 0) && decide ((ax - px) * (bx - px) + (ay - py) * (b_y - py) ≤ 0)
theorem hasB_no {ax ay bx b_y px py : Int} (h : ((ax - px) * (b_y - py) - (ay - py) * (bx - px) == 0) = false) : hasB ax ay bx b_y px py = false := by unfold hasB; rw [h]; rfl
theorem hasB_yes {ax ay bx b_y px py : Int} (h : ((ax - px) * (b_y - py) - (ay - py) * (bx - px) == 0) = true) : hasB ax ay bx b_y px py = decide ((ax - px) * (bx - px) + (ay - py) * (b_y - py) ≤ 0) := by unfold hasB; rw [h]; rfl
set_option maxHeartbeats 6400000 in
theorem has_any (ax ay bx b_y px py : Int) (w : World) (ha : ptB ax ay = true) (hb : ptB bx b_y = true) (hp : ptB px py = true) :
    Calls Try.prog 166 #[.agg #[.int .i64 ax, .int .i64 ay, .int .i64 bx, .int .i64 b_y], .agg #[.int .i64 px, .int .i64 py]] w fun e w' => e = .returned (.bool (hasB ax ay bx b_y px py)) ∧ Below w.heap.size w w' := by
  have h1 := ptB_true ha
  have h2 := ptB_true hb
  have h3 := ptB_true hp
  clear ha hb hp
  have p1 := prod_bd (x := ax - px) (y := b_y - py) 2000 2000 (by omega) (by omega)
  have p2 := prod_bd (x := ay - py) (y := bx - px) 2000 2000 (by omega) (by omega)
  have p3 := prod_bd (x := ax - px) (y := bx - px) 2000 2000 (by omega) (by omega)
  have p4 := prod_bd (x := ay - py) (y := b_y - py) 2000 2000 (by omega) (by omega)
  go_enter Try.func166, Try.ntmps166
  go_upto_region 1 with fail
  go_cut [5, 6] (fun s5 s6 wx => ∃ g h : Nat, s5 = .pointer (some ⟨g, 0, none⟩) ∧ s6 = .pointer (some ⟨h, 0, none⟩) ∧ wx.cell? ⟨g, 0, none⟩ = some (.int .i64 (ax - px)) ∧ wx.cell? ⟨g, 1, none⟩ = some (.int .i64 (ay - py)) ∧ wx.cell? ⟨h, 0, none⟩ = some (.int .i64 (bx - px)) ∧ wx.cell? ⟨h, 1, none⟩ = some (.int .i64 (b_y - py)) ∧ Below w.heap.size w wx)
  case first =>
    go_region_held3 (fun wx => wx.cell? ⟨w.heap.size, 0, none⟩ = some (.int .i64 ax) ∧ wx.cell? ⟨w.heap.size, 1, none⟩ = some (.int .i64 ay) ∧ wx.cell? ⟨w.heap.size, 2, none⟩ = some (.int .i64 bx) ∧ wx.cell? ⟨w.heap.size, 3, none⟩ = some (.int .i64 b_y) ∧ wx.cell? ⟨w.heap.size + 1, 0, none⟩ = some (.int .i64 px) ∧ wx.cell? ⟨w.heap.size + 1, 1, none⟩ = some (.int .i64 py))
      (first | (simp [*, go_sem]; done) | (go_split_ands; refine ⟨?_, ?_, ?_, ?_, ?_, ?_⟩ <;> ((repeat (with_reducible refine keepF (by assumption) ?_)); first | assumption | exact keep1 (by assumption) (by assumption) | exact keepA _ (by assumption) | exact keepS (by assumption) (by assumption))))
      (first
        | (go_at_call_of 90 (Value.agg #[.int .i64 ax, .int .i64 ay]); refine (minus_any _ _ _ _ _ (by omega) (by omega)).mono ?_; rintro e w1 ⟨rfl, hx1⟩; obtain ⟨hc1, hf1⟩ := bcell hx1; have y1 := hx1.size; (try simp at y1); (try have q10 : w.heap.size < w1.heap.size ∧ w.heap.size < w1.heap.size + 1 ∧ ¬ (w1.heap.size = w.heap.size) ∧ ¬ (w.heap.size = w1.heap.size) := (by omega)); (try have q11 : w.heap.size + 1 < w1.heap.size ∧ w.heap.size + 1 < w1.heap.size + 1 ∧ ¬ (w1.heap.size = w.heap.size + 1) ∧ ¬ (w.heap.size + 1 = w1.heap.size) := (by omega)); (try have q12 : w.heap.size + 1 + 1 < w1.heap.size ∧ w.heap.size + 1 + 1 < w1.heap.size + 1 ∧ ¬ (w1.heap.size = w.heap.size + 1 + 1) ∧ ¬ (w.heap.size + 1 + 1 = w1.heap.size) := (by omega)); (try have q13 : w.heap.size + 1 + 1 + 1 < w1.heap.size ∧ w.heap.size + 1 + 1 + 1 < w1.heap.size + 1 ∧ ¬ (w1.heap.size = w.heap.size + 1 + 1 + 1) ∧ ¬ (w.heap.size + 1 + 1 + 1 = w1.heap.size) := (by omega)))
        | (go_at_call_of 90 (Value.agg #[.int .i64 bx, .int .i64 b_y]); refine (minus_any _ _ _ _ _ (by omega) (by omega)).mono ?_; rintro e w2 ⟨rfl, hx2⟩; obtain ⟨hc2, hf2⟩ := bcell hx2; have y2 := hx2.size; (try simp at y2); (try have q20 : w.heap.size < w2.heap.size ∧ w.heap.size < w2.heap.size + 1 ∧ ¬ (w2.heap.size = w.heap.size) ∧ ¬ (w.heap.size = w2.heap.size) := (by omega)); (try have q21 : w.heap.size + 1 < w2.heap.size ∧ w.heap.size + 1 < w2.heap.size + 1 ∧ ¬ (w2.heap.size = w.heap.size + 1) ∧ ¬ (w.heap.size + 1 = w2.heap.size) := (by omega)); (try have q22 : w.heap.size + 1 + 1 < w2.heap.size ∧ w.heap.size + 1 + 1 < w2.heap.size + 1 ∧ ¬ (w2.heap.size = w.heap.size + 1 + 1) ∧ ¬ (w.heap.size + 1 + 1 = w2.heap.size) := (by omega)); (try have q23 : w.heap.size + 1 + 1 + 1 < w2.heap.size ∧ w.heap.size + 1 + 1 + 1 < w2.heap.size + 1 ∧ ¬ (w2.heap.size = w.heap.size + 1 + 1 + 1) ∧ ¬ (w.heap.size + 1 + 1 + 1 = w2.heap.size) := (by omega)); (try have q24 : w1.heap.size < w2.heap.size ∧ w1.heap.size < w2.heap.size + 1 ∧ ¬ (w2.heap.size = w1.heap.size) ∧ ¬ (w1.heap.size = w2.heap.size) := (by omega)); (try have q25 : w1.heap.size + 1 < w2.heap.size ∧ w1.heap.size + 1 < w2.heap.size + 1 ∧ ¬ (w2.heap.size = w1.heap.size + 1) ∧ ¬ (w1.heap.size + 1 = w2.heap.size) := (by omega))))
    all_goals (go_wp2_with fail; go_meet)
    all_goals refine ⟨_, _, rfl, rfl, ?_, ?_, ?_, ?_, ?_⟩
    all_goals (try (simp [*, go_sem, set_is, set_blk, set_off]; done))
    all_goals (try (rw [set_blk _ (by omega), set_blk _ (by omega)]; first | (refine pair_0 (u := .int .i64 0) _ _ (keep1 (by assumption) (keepA _ (by simp [go_sem]))); done) | (refine pair_1 (u := .int .i64 0) _ _ (keep1 (by assumption) (keepA _ (by simp [go_sem]))); done)))
    all_goals (try ((first | refine pair_0 (u := .int .i64 0) _ _ ?_ | refine pair_1 (u := .int .i64 0) _ _ ?_); rw [set_blk _ (by omega), set_blk _ (by omega)]; exact keep1 (by assumption) (keepA _ (by simp [go_sem]))))
    all_goals (try (repeat' (first | exact nr _ | apply na | apply Below.drew | apply nd | refine pair_below _ _ (by omega) ?_ | refine nt ?_ (by assumption))))
  case rest =>
    obtain ⟨g, h, rfl, rfl, k0, k1, k2, k3, hbx⟩ := hcut
    have z0 : g < wc.heap.size := World.block_lt_of_cell? _ _ k0
    have z1 : h < wc.heap.size := World.block_lt_of_cell? _ _ k2
    have HB := Lib.hid hbx
    clear hbx
    rcases hq : ((ax - px) * (b_y - py) - (ay - py) * (bx - px) == 0) with _ | _
    · have HR := Lib.hid (hasB_no hq)
      have HQ : ((ax - px) * (b_y - py) - (ay - py) * (bx - px) = 0) = False := by simpa using hq
      clear hq
      go_wp2_with fail
      refine (pcross_any _ _ _ _ _ (by omega) (by omega)).mono ?_; rintro e w3 ⟨rfl, hx3⟩
      go_wp2_with fail
      go_ret
      exact ⟨ret_bool HR.out.symm, nt HB.out hx3⟩
    · have HR := Lib.hid (hasB_yes hq)
      have HQ : ((ax - px) * (b_y - py) - (ay - py) * (bx - px) = 0) = True := by simpa using hq
      clear hq
      go_wp2_with fail
      refine (pcross_any _ _ _ _ _ (by omega) (by omega)).mono ?_; rintro e w3 ⟨rfl, hx3⟩; obtain ⟨hc3, hf3⟩ := bcell hx3
      go_wp2_with fail
      refine (pdot_any _ _ _ _ _ (by omega) (by omega)).mono ?_; rintro e w4 ⟨rfl, hx4⟩
      go_wp2_with fail
      go_ret
      exact ⟨rfl, nt (nt HB.out hx3) hx4⟩
theorem mul_sq (a : Int) : 0 ≤ a * a := by
  rw [← Int.natAbs_mul_self]
  omega
theorem same_side {u v s t : Int} (h : u * t = s * v) (hd : u * v + s * t ≤ 0) : u * v ≤ 0 := by
  rcases Int.lt_or_le 0 (u * v) with hp | hp
  · have hn : s * t < 0 := by omega
    have h1 : (u * v) * (s * t) < 0 := Int.mul_neg_of_pos_of_neg hp hn
    have h2 : (u * v) * (s * t) = (s * v) * (s * v) := by
      rw [show (u * v) * (s * t) = (u * t) * (s * v) by rw [Int.mul_assoc, Int.mul_assoc, Int.mul_left_comm v s t, Int.mul_comm v t, Int.mul_left_comm s t v], h]
    have h3 := mul_sq (s * v)
    omega
  · exact hp
theorem apart_of {u v : Int} (h : u * v ≤ 0) : (u ≤ 0 ∧ 0 ≤ v) ∨ (v ≤ 0 ∧ 0 ≤ u) := by
  rcases Int.lt_or_le 0 u with h1 | h1
  · rcases Int.lt_or_le 0 v with h2 | h2
    · have := Int.mul_pos h1 h2
      omega
    · omega
  · rcases Int.lt_or_le v 0 with h2 | h2
    · rcases Int.lt_or_le u 0 with h3 | h3
      · have := Int.mul_pos_of_neg_of_neg h3 h2
        omega
      · omega
    · omega
theorem apart_mul {u v : Int} (h : (u ≤ 0 ∧ 0 ≤ v) ∨ (v ≤ 0 ∧ 0 ≤ u)) : u * v ≤ 0 := by
  rcases h with ⟨h1, h2⟩ | ⟨h1, h2⟩
  · exact Int.mul_nonpos_of_nonpos_of_nonneg h1 h2
  · exact Int.mul_nonpos_of_nonneg_of_nonpos h2 h1
def btwB (ax ay bx b_y px py : Int) : Bool := decide ((ax ≤ px ∧ px ≤ bx ∨ bx ≤ px ∧ px ≤ ax) ∧ (ay ≤ py ∧ py ≤ b_y ∨ b_y ≤ py ∧ py ≤ ay))
theorem cross_turn (ax ay bx b_y px py : Int) : (ax - px) * (b_y - py) - (ay - py) * (bx - px) = crossI ax ay bx b_y px py := by
  unfold crossI
  simp only [Int.sub_mul, Int.mul_sub]
  have c1 := Int.mul_comm bx ay
  have c2 := Int.mul_comm px ay
  have c3 := Int.mul_comm bx py
  have c4 := Int.mul_comm px b_y
  have c5 := Int.mul_comm ax ay
  have c6 := Int.mul_comm px py
  have c7 := Int.mul_comm b_y ax
  omega
theorem has_eq (ax ay bx b_y px py : Int) : hasB ax ay bx b_y px py = ((crossI ax ay bx b_y px py == 0) && btwB ax ay bx b_y px py) := by
  unfold hasB btwB
  rw [cross_turn]
  rcases h : (crossI ax ay bx b_y px py == 0) with _ | _
  · rfl
  simp only [Bool.true_and, decide_eq_decide]
  have h0 : (ax - px) * (b_y - py) - (ay - py) * (bx - px) = 0 := by rw [cross_turn]; simpa using h
  constructor
  · intro hd
    have h1 := apart_of (same_side (u := ax - px) (v := bx - px) (s := ay - py) (t := b_y - py) (by omega) hd)
    have h2 := apart_of (same_side (u := ay - py) (v := b_y - py) (s := ax - px) (t := bx - px) (by omega) (by omega))
    omega
  · intro hd
    have h1 := apart_mul (u := ax - px) (v := bx - px) (by omega)
    have h2 := apart_mul (u := ay - py) (v := b_y - py) (by omega)
    omega
theorem between_any (ax ay bx b_y px py : Int) (w : World) :
    Calls Try.prog 173 #[.agg #[.int .i64 ax, .int .i64 ay, .int .i64 bx, .int .i64 b_y], .agg #[.int .i64 px, .int .i64 py]] w fun e w' => e = .returned (.bool (btwB ax ay bx b_y px py)) ∧ Below w.heap.size w w' := by
  go_enter Try.func173, Try.ntmps173
  go_wp2_with (go_at_call 103; refine (inRange_any _ _ _ _).mono ?_; rintro e w' ⟨rfl, rfl⟩)
  all_goals go_ret
  all_goals refine ⟨ret_bool ?_, na (na (nr _) _) _⟩
  all_goals (unfold btwB; rw [Bool.eq_iff_iff]; simp; omega)
theorem specHas_any (ax ay bx b_y px py : Int) (w : World) (ha : ptB ax ay = true) (hb : ptB bx b_y = true) (hp : ptB px py = true) :
    Calls Try.prog 164 #[.agg #[.int .i64 ax, .int .i64 ay, .int .i64 bx, .int .i64 b_y], .agg #[.int .i64 px, .int .i64 py]] w fun e w' => e = .returned (.bool (hasB ax ay bx b_y px py)) ∧ Below w.heap.size w w' := by
  have HR := Lib.hid (has_eq ax ay bx b_y px py)
  have VA := Lib.hid ha
  have VB := Lib.hid hb
  have VP := Lib.hid hp
  clear ha hb hp
  go_enter Try.func164, Try.ntmps164
  rcases hq : (crossI ax ay bx b_y px py == 0) with _ | _
  · have HR2 := Lib.hid (show hasB ax ay bx b_y px py = false by rw [HR.out, hq]; rfl)
    have HQ : (crossI ax ay bx b_y px py = 0) = False := by simpa using hq
    clear hq
    go_wp2_with fail
    refine (specCross_any _ _ _ _ _ _ _ VA.out VB.out VP.out).mono ?_; rintro e w1 ⟨rfl, hb1⟩
    go_wp2_with fail
    go_ret
    exact ⟨ret_bool HR2.out.symm, by repeat' (first | exact nr _ | apply na | apply Below.drew | apply nd | refine nt ?_ (by assumption))⟩
  · have HQ : (crossI ax ay bx b_y px py = 0) = True := by simpa using hq
    clear hq
    go_wp2_with fail
    refine (specCross_any _ _ _ _ _ _ _ VA.out VB.out VP.out).mono ?_; rintro e w1 ⟨rfl, hb1⟩; obtain ⟨hc1, hf1, hz1⟩ := bc2 w.heap.size hb1 (by simp)
    go_wp2_with fail
    refine (between_any _ _ _ _ _ _ _).mono ?_; rintro e w2 ⟨rfl, hb2⟩
    go_wp2_with fail
    go_ret
    exact ⟨ret_bool HR.out.symm, by repeat' (first | exact nr _ | apply na | apply Below.drew | apply nd | refine nt ?_ (by assumption))⟩
end Go.Proofs.Ytnjmepbblcfnfaa
namespace Go.Proofs.Ytnjmepbblcfnfaa
set_option linter.all false
open Go.RowKit
def pHas : List DArg → Option (Value × List Prop)
  | [.v (.agg ⟨[.int .i64 ax, .int .i64 ay, .int .i64 bx, .int .i64 b_y]⟩), .v (.agg ⟨[.int .i64 px, .int .i64 py]⟩)] => some (.bool (hasB ax ay bx b_y px py), [ptB ax ay = true, ptB bx b_y = true, ptB px py = true])
  | _ => none
def pSgS : List DArg → Option (Value × List Prop)
  | [.v (.agg ⟨[.int .i64 a, .int .i64 b, .int .i64 c, .int .i64 d]⟩)] => some (.bool (segB a b c d), [])
  | _ => none
def pTrn : List DArg → Option (Value × List Prop)
  | [.v (.agg ⟨[.int .i64 ax, .int .i64 ay]⟩), .v (.agg ⟨[.int .i64 bx, .int .i64 b_y]⟩), .v (.agg ⟨[.int .i64 cx, .int .i64 cy]⟩)] => some (iv (crossI ax ay bx b_y cx cy), [ptB ax ay = true, ptB bx b_y = true, ptB cx cy = true])
  | _ => none
set_option maxRecDepth 100000 in
theorem tr_sCross (ax ay bx b_y cx cy : Int) : bodyV Try.prog (tabE B0) 30 12 146 [.v (.agg #[iv ax, iv ay]), .v (.agg #[iv bx, iv b_y]), .v (.agg #[iv cx, iv cy])] = .fin (.int .i64 (IntKind.i64.wrap (IntKind.i64.wrap (IntKind.i64.wrap (bx - ax) * IntKind.i64.wrap (cy - ay)) - IntKind.i64.wrap (IntKind.i64.wrap (b_y - ay) * IntKind.i64.wrap (cx - ax))))) [] := by kernel_rfl
set_option maxRecDepth 100000 in
theorem tr_iTurn (ax ay bx b_y cx cy : Int) : bodyV Try.prog (tabE B0) 30 12 75 [.v (.agg #[iv ax, iv ay]), .v (.agg #[iv bx, iv b_y]), .v (.agg #[iv cx, iv cy])] = .fin (.int .i64 (IntKind.i64.wrap (IntKind.i64.wrap (IntKind.i64.wrap (bx - ax) * IntKind.i64.wrap (cy - ay)) - IntKind.i64.wrap (IntKind.i64.wrap (b_y - ay) * IntKind.i64.wrap (cx - ax))))) [] := by kernel_rfl
theorem crs_bd {ax ay bx b_y cx cy : Int} (h1 : ptB ax ay = true) (h2 : ptB bx b_y = true) (h3 : ptB cx cy = true) : (-(2000 * 2000) ≤ (bx - ax) * (cy - ay) ∧ (bx - ax) * (cy - ay) ≤ 2000 * 2000) ∧ (-(2000 * 2000) ≤ (b_y - ay) * (cx - ax) ∧ (b_y - ay) * (cx - ax) ≤ 2000 * 2000) := by
  have a1 := ptB_true h1
  have a2 := ptB_true h2
  have a3 := ptB_true h3
  exact ⟨mul_bd 2000 2000 (by omega) (by omega), mul_bd 2000 2000 (by omega) (by omega)⟩
theorem res_sCross {ax ay bx b_y cx cy : Int} (h1 : ptB ax ay = true) (h2 : ptB bx b_y = true) (h3 : ptB cx cy = true) : Res Try.prog 146 [.v (.agg #[iv ax, iv ay]), .v (.agg #[iv bx, iv b_y]), .v (.agg #[iv cx, iv cy])] (iv (crossI ax ay bx b_y cx cy)) := by
  refine bodyV_res mixed (tabE_ok B0_ok) (m := 30) (n := 12) rfl ?_
  rw [tr_sCross]
  have a1 := ptB_true h1
  have a2 := ptB_true h2
  have a3 := ptB_true h3
  obtain ⟨b1, b2⟩ := crs_bd h1 h2 h3
  simp (disch := omega) only [wr]
  rfl
theorem res_iTurn {ax ay bx b_y cx cy : Int} (h1 : ptB ax ay = true) (h2 : ptB bx b_y = true) (h3 : ptB cx cy = true) : Res Try.prog 75 [.v (.agg #[iv ax, iv ay]), .v (.agg #[iv bx, iv b_y]), .v (.agg #[iv cx, iv cy])] (iv (crossI ax ay bx b_y cx cy)) := by
  refine bodyV_res mixed (tabE_ok B0_ok) (m := 30) (n := 12) rfl ?_
  rw [tr_iTurn]
  have a1 := ptB_true h1
  have a2 := ptB_true h2
  have a3 := ptB_true h3
  obtain ⟨b1, b2⟩ := crs_bd h1 h2 h3
  simp (disch := omega) only [wr]
  rfl
set_option maxRecDepth 100000 in
theorem tr_sVsg (a b c d : Int) : bodyV Try.prog (tabE T1) 30 12 143 [.v (.agg #[iv a, iv b, iv c, iv d])] = brT (ptB a b) (brT (ptB c d) (.fin (.bool (negB true (a == c && (b == d && true)))) []) (.fin (.bool (false)) [])) (.fin (.bool (false)) []) := by kernel_rfl
set_option maxRecDepth 100000 in
theorem tr_iVsg (a b c d : Int) : bodyV Try.prog (tabE T1) 30 12 147 [.v (.agg #[iv a, iv b, iv c, iv d])] = brT (ptB a b && ptB c d) (.fin (.bool (negB true (a == c && (b == d && true)))) []) (.fin (.bool (false)) []) := by kernel_rfl
theorem res_sVsg (a b c d : Int) : Res Try.prog 143 [.v (.agg #[iv a, iv b, iv c, iv d])] (.bool (segB a b c d)) := by
  refine bodyV_res mixed (tabE_ok T1_ok) (m := 30) (n := 12) rfl ?_
  rw [tr_sVsg]
  unfold segB eqB negB
  cases ptB a b <;> cases ptB c d <;> simp [brT, Tree.ok]
theorem res_iVsg (a b c d : Int) : Res Try.prog 147 [.v (.agg #[iv a, iv b, iv c, iv d])] (.bool (segB a b c d)) := by
  refine bodyV_res mixed (tabE_ok T1_ok) (m := 30) (n := 12) rfl ?_
  rw [tr_iVsg]
  unfold segB eqB negB
  cases ptB a b <;> cases ptB c d <;> simp [brT, Tree.ok]
def TRl : Tab := fun f ds => match f with
  | 166 => pHas ds
  | 164 => pHas ds
  | 143 => pSgS ds
  | 147 => pSgS ds
  | 146 => pTrn ds
  | 75 => pTrn ds
  | _ => T1 f ds
theorem pHas_i {ds : List DArg} {v : Value} {C : List Prop} (h : pHas ds = some (v, C)) (hC : AllP C) : Res Try.prog 166 ds v := by
  unfold pHas at h
  split at h
  · obtain ⟨rfl, rfl⟩ : _ ∧ _ := by simpa using h
    exact res_calls (by kernel_rfl) rfl rfl fun w => has_any _ _ _ _ _ _ w hC.1 hC.2.1 hC.2.2.1
  · cases h
theorem pHas_s {ds : List DArg} {v : Value} {C : List Prop} (h : pHas ds = some (v, C)) (hC : AllP C) : Res Try.prog 164 ds v := by
  unfold pHas at h
  split at h
  · obtain ⟨rfl, rfl⟩ : _ ∧ _ := by simpa using h
    exact res_calls (by kernel_rfl) rfl rfl fun w => specHas_any _ _ _ _ _ _ w hC.1 hC.2.1 hC.2.2.1
  · cases h
theorem pSgS_i {ds : List DArg} {v : Value} {C : List Prop} (h : pSgS ds = some (v, C)) : Res Try.prog 147 ds v := by
  unfold pSgS at h
  split at h
  · obtain ⟨rfl, rfl⟩ : _ ∧ _ := by simpa using h
    exact res_iVsg _ _ _ _
  · cases h
theorem pSgS_s {ds : List DArg} {v : Value} {C : List Prop} (h : pSgS ds = some (v, C)) : Res Try.prog 143 ds v := by
  unfold pSgS at h
  split at h
  · obtain ⟨rfl, rfl⟩ : _ ∧ _ := by simpa using h
    exact res_sVsg _ _ _ _
  · cases h
theorem pTrn_s {ds : List DArg} {v : Value} {C : List Prop} (h : pTrn ds = some (v, C)) (hC : AllP C) : Res Try.prog 146 ds v := by
  unfold pTrn at h
  split at h
  · obtain ⟨rfl, rfl⟩ : _ ∧ _ := by simpa using h
    exact res_sCross hC.1 hC.2.1 hC.2.2.1
  · cases h
theorem pTrn_i {ds : List DArg} {v : Value} {C : List Prop} (h : pTrn ds = some (v, C)) (hC : AllP C) : Res Try.prog 75 ds v := by
  unfold pTrn at h
  split at h
  · obtain ⟨rfl, rfl⟩ : _ ∧ _ := by simpa using h
    exact res_iTurn hC.1 hC.2.1 hC.2.2.1
  · cases h
theorem TRl_ok : TabOk Try.prog TRl := by
  intro f ds v C h hC
  unfold TRl at h
  (try split at h)
  all_goals first | with_reducible exact pHas_i h hC | with_reducible exact pHas_s h hC | with_reducible exact pSgS_i h | with_reducible exact pSgS_s h | with_reducible exact pTrn_s h hC | with_reducible exact pTrn_i h hC | exact T1_ok _ _ _ _ h hC
end Go.Proofs.Ytnjmepbblcfnfaa
namespace Go.Proofs.Ytnjmepbblcfnfaa
set_option linter.all false
open Go.RowKit
theorem loop_det2 {P : Program} {c : Code} {N M : Nat} {X : Type} (St_of : X → St) (Inv : X → Prop) (μ : X → Nat) (re : X → Ex) (rs : X → St) (keep : Ex → List Nat) (hM : ∀ x, (St_of x).mem.length ≤ M)
    (h : ∀ x, Inv x → ∃ e' s', Det P c (St_of x) e' s' ∧ match e' with
      | .normal => ∃ x' π, Inv x' ∧ μ x' < μ x ∧ re x' = re x ∧ rs x' = rs x ∧ WS N π (cutS M (keep .normal) s') (St_of x')
      | e => e = re x ∧ ∃ π, WS N π (cutS M (keep e) s') (rs x))
    {x : X} (hx : Inv x) {s : St} {π : List (Option Nat)} (hN : s.mem.length = N) (hs : WS N π s (St_of x)) : Det P (.loop c) s (re x) (rs x) := by
  intro w0 a w hc
  have hρ := con_dom hc
  rw [hN] at hρ
  have hρ' : ∀ {x' π' s'}, WS N π' s' (St_of x') → ∀ n, (St_of x').mem.length ≤ n → w0.ρ0 n = none := fun h n hn => hρ n (Nat.le_trans (Nat.le_of_ble_eq_true h.1) hn)
  refine wpIn_loop_ghost (fun n a w => ∃ x', Inv x' ∧ μ x' = n ∧ re x' = re x ∧ rs x' = rs x ∧ (∀ n, (St_of x').mem.length ≤ n → w0.ρ0 n = none) ∧ Con w0 (St_of x').fs a w) (μ x) ⟨x, hx, rfl, rfl, rfl, hρ' hs, weak_con hs hρ hc⟩ ?_
  rintro n a w ⟨x', hI, rfl, hre, hrs, hdom, hcc⟩
  obtain ⟨e', s', hd, hend⟩ := h x' hI
  have hdom2 : ∀ n, M ≤ n → w0.ρ0 n = none := fun n hn => hdom n (Nat.le_trans (hM x') hn)
  refine wpIn_mono (hd w0 a w hcc) ?_
  rintro e a' w' ⟨rfl, hcc'⟩
  cases e' with
  | normal =>
    obtain ⟨x2, π2, g1, g2, g3, g4, g5⟩ := hend
    exact ⟨_, g2, x2, g1, rfl, g3.trans hre, g4.trans hrs, hρ' g5, weak_con g5 hρ (cut_con hdom2 hcc')⟩
  | exit id =>
    obtain ⟨g1, π2, g2⟩ := hend
    exact ⟨by rw [← hre, ← g1], by rw [← hrs]; exact weak_con g2 hρ (cut_con hdom2 hcc')⟩
  | ret =>
    obtain ⟨g1, π2, g2⟩ := hend
    exact ⟨by rw [← hre, ← g1], by rw [← hrs]; exact weak_con g2 hρ (cut_con hdom2 hcc')⟩
theorem loop_run2 {P : Program} (hm : P.follows .mixedOrders = true) {E : Env} (hE : EnvOk P E) {m n : Nat} {lt : LT} {j : Nat} {c : Code} {N : Nat} {X : Type} (St_of : X → St) (Inv : X → Prop) (μ : X → Nat) (re : X → Ex) (rs : X → St) (keep : Ex → List Nat) {M : Nat} (hM : ∀ x, Nat.ble (St_of x).mem.length M = true) (hL : LoopsGood P lt j c)
    (h : ∀ x, Inv x → (bodyL P E m n lt j c keep M (St_of x)).ok (RoundEnd N St_of Inv μ re rs x) (fun _ _ => False))
    {x : X} (hx : Inv x) {s : St} {π : List (Option Nat)} (hN : s.mem.length = N) (hs : WS N π s (St_of x)) : Det P (.loop c) s (re x) (rs x) :=
  loop_det2 (M := M) St_of Inv μ re rs keep (fun x => Nat.le_of_ble_eq_true (hM x)) (fun x hx => by
    obtain ⟨e', s', h1, h2⟩ := body_det hm hE hL (h x hx)
    refine ⟨e', s', h1, ?_⟩
    unfold RoundEnd at h2
    cases e' <;> exact h2) hx hN hs
end Go.Proofs.Ytnjmepbblcfnfaa
namespace Go.Proofs.Ytnjmepbblcfnfaa
set_option linter.all false
open Go.RowKit
def EM : Env := mkE B0 (fun _ _ => none) (fun _ => noL)
theorem EM_ok : EnvOk Try.prog EM := mkEOk B0_ok (fun _ _ _ _ _ h => (by cases h)) (fun _ _ _ => noL_good)
theorem vI0 {k : Int} {n : Nat} (h : n = 0) : Value.int .i64 k = .int .i64 (k + (n : Int)) := by subst h; simp
end Go.Proofs.Ytnjmepbblcfnfaa
namespace Go.Proofs.Ytnjmepbblcfnfaa
set_option linter.all false
open Go.RowKit
theorem fn_is {f : FuncId} {fn g : Func} (h : Try.prog.funcs[f]? = some g) (hf : Try.prog.funcs[f]? = some fn) : g = fn := by rw [h] at hf; simpa using hf
end Go.Proofs.Ytnjmepbblcfnfaa
namespace Go.Proofs.Ytnjmepbblcfnfaa
set_option linter.all false
open Go.RowKit
/-- The place of a point among others in order. -/
def kP (p : Pt) : List Pt → Nat
  | [] => 0
  | q :: r => if pltB q p then kP p r + 1 else 0
/-- A point put in its place, unless it is there. -/
def insP (p : Pt) : List Pt → List Pt
  | [] => [p]
  | q :: r => if pltB q p then q :: insP p r else if q = p then q :: r else p :: q :: r
theorem kP_le (p : Pt) : ∀ ps : List Pt, kP p ps ≤ ps.length
  | [] => Nat.le_refl _
  | q :: r => by
    have := kP_le p r
    simp only [kP, List.length_cons]
    split <;> omega
theorem insP_is (p : Pt) : ∀ ps : List Pt, insP p ps = if kP p ps < ps.length ∧ ps.getD (kP p ps) (0, 0) = p then ps else ps.take (kP p ps) ++ (p :: ps.drop (kP p ps))
  | [] => by simp [insP, kP]
  | q :: r => by
    have ih := insP_is p r
    simp only [insP, kP]
    split
    · rw [ih]
      simp only [List.length_cons, Nat.add_lt_add_iff_right, List.getD_cons_succ, List.take_succ_cons, List.drop_succ_cons, List.cons_append]
      split <;> rfl
    · simp
theorem insP_mem (p : Pt) : ∀ (ps : List Pt) (z : Pt), z ∈ insP p ps ↔ z ∈ ps ∨ z = p
  | [], z => by simp [insP]
  | q :: r, z => by
    have ih := insP_mem p r z
    simp only [insP]
    split
    · simp only [List.mem_cons, ih]
      constructor
      · rintro (h | h | h) <;> simp [h]
      · rintro ((h | h) | h) <;> simp [h]
    · split
      · rename_i h1 h2
        subst h2
        simp only [List.mem_cons]
        constructor
        · intro h; exact .inl h
        · rintro (h | h)
          · exact h
          · exact .inl h
      · simp only [List.mem_cons]
        constructor
        · rintro (h | h | h) <;> simp [h]
        · rintro ((h | h) | h) <;> simp [h]
theorem plt_trans {a b c : Pt} (h1 : pltB a b = true) (h2 : pltB b c = true) : pltB a c = true := by
  rw [pltB_iff] at *
  omega
theorem plt_irr {a : Pt} : pltB a a = false := by
  rw [← Bool.not_eq_true, pltB_iff]
  omega
theorem plt_tri {a b : Pt} (h : pltB a b = false) (hne : a ≠ b) : pltB b a = true := by
  rw [← Bool.not_eq_true, pltB_iff] at h
  rw [pltB_iff]
  have : ¬ (a.1 = b.1 ∧ a.2 = b.2) := fun ⟨h1, h2⟩ => hne (Prod.ext h1 h2)
  omega
/-- Ascending, each once. -/
def Asc (ps : List Pt) : Prop := ps.Pairwise fun a b => pltB a b = true
theorem insP_asc (p : Pt) : ∀ {ps : List Pt}, Asc ps → Asc (insP p ps)
  | [], _ => by simp [insP, Asc]
  | q :: r, h => by
    have h' := List.pairwise_cons.1 h
    have ih := insP_asc p h'.2
    simp only [insP]
    split
    · rename_i hq
      refine List.pairwise_cons.2 ⟨fun z hz => ?_, ih⟩
      rcases (insP_mem p r z).1 hz with hz | rfl
      · exact h'.1 z hz
      · exact hq
    · rename_i hq
      split
      · exact h
      · rename_i hne
        have hpq : pltB p q = true := plt_tri (by simpa using hq) hne
        refine List.pairwise_cons.2 ⟨fun z hz => ?_, h⟩
        rcases List.mem_cons.1 hz with rfl | hz
        · exact hpq
        · exact plt_trans hpq (h'.1 z hz)
theorem asc_ext : ∀ {a b : List Pt}, Asc a → Asc b → (∀ z, z ∈ a ↔ z ∈ b) → a = b
  | [], [], _, _, _ => rfl
  | [], y :: b, _, _, h => by simpa using h y
  | x :: a, [], _, _, h => by simpa using h x
  | x :: a, y :: b, ha, hb, h => by
    have ha' := List.pairwise_cons.1 ha
    have hb' := List.pairwise_cons.1 hb
    have hxy : x = y := by
      rcases List.mem_cons.1 ((h x).1 List.mem_cons_self) with e | hx
      · exact e
      rcases List.mem_cons.1 ((h y).2 List.mem_cons_self) with e | hy
      · exact e.symm
      have := plt_trans (hb'.1 x hx) (ha'.1 y hy)
      rw [plt_irr] at this
      cases this
    subst hxy
    have nx : ∀ {l : List Pt}, Asc (x :: l) → x ∉ l := fun hl hm => by
      have := (List.pairwise_cons.1 hl).1 x hm
      rw [plt_irr] at this
      cases this
    rw [asc_ext ha'.2 hb'.2 fun z => ?_]
    constructor
    · intro hz
      rcases List.mem_cons.1 ((h z).1 (List.mem_cons_of_mem _ hz)) with rfl | hz'
      · exact absurd hz (nx ha)
      · exact hz'
    · intro hz
      rcases List.mem_cons.1 ((h z).2 (List.mem_cons_of_mem _ hz)) with rfl | hz'
      · exact absurd hz (nx hb)
      · exact hz'
/-- Points in order, each once, added to others. -/
def srtO (o : List Pt) (ps : List Pt) : List Pt := ps.foldl (fun o p => insP p o) o
def srtL (ps : List Pt) : List Pt := srtO [] ps
theorem srtO_asc : ∀ (ps : List Pt) {o : List Pt}, Asc o → Asc (srtO o ps)
  | [], _, h => h
  | p :: r, _, h => srtO_asc r (insP_asc p h)
theorem srtO_mem : ∀ (ps : List Pt) (o : List Pt) (z : Pt), z ∈ srtO o ps ↔ z ∈ o ∨ z ∈ ps
  | [], o, z => by simp [srtO]
  | p :: r, o, z => by
    have := srtO_mem r (insP p o) z
    simp only [srtO, List.foldl_cons] at this ⊢
    rw [this, insP_mem, List.mem_cons]
    constructor
    · rintro ((h | h) | h) <;> simp [h]
    · rintro (h | h | h) <;> simp [h]
theorem srtL_asc (ps : List Pt) : Asc (srtL ps) := srtO_asc ps List.Pairwise.nil
theorem srtL_mem (ps : List Pt) (z : Pt) : z ∈ srtL ps ↔ z ∈ ps := by
  unfold srtL
  rw [srtO_mem]
  simp
theorem insP_le (p : Pt) : ∀ (ps : List Pt), (insP p ps).length ≤ ps.length + 1
  | [] => by simp [insP]
  | q :: r => by
    have := insP_le p r
    simp only [insP]
    split
    · simp; omega
    · split <;> simp
theorem srtO_le : ∀ (ps o : List Pt), (srtO o ps).length ≤ o.length + ps.length
  | [], o => by simp [srtO]
  | p :: r, o => by
    have h1 := srtO_le r (insP p o)
    have h2 := insP_le p o
    simp only [srtO, List.foldl_cons, List.length_cons] at h1 ⊢
    omega
def pPls : List DArg → Option (Value × List Prop)
  | [.v (.agg ⟨[.int .i64 x, .int .i64 y]⟩), .v (.agg ⟨[.int .i64 z, .int .i64 w]⟩)] => some (.bool (pltB (x, y) (z, w)), [])
  | _ => none
set_option maxRecDepth 100000 in
theorem tr_sPls (x y z w : Int) : bodyV Try.prog (tabE B0) 30 12 165 [.v (.agg #[iv x, iv y]), .v (.agg #[iv z, iv w])] = brT (decide (x < z)) (.fin (.bool (true)) []) (brT (x == z) (.fin (.bool (decide (y < w))) []) (.fin (.bool (false)) [])) := by kernel_rfl
theorem res_sPls (x y z w : Int) : Res Try.prog 165 [.v (.agg #[iv x, iv y]), .v (.agg #[iv z, iv w])] (.bool (pltB (x, y) (z, w))) := by
  refine bodyV_res mixed (tabE_ok B0_ok) (m := 30) (n := 12) rfl ?_
  rw [tr_sPls]
  simp only [brT_ok, Tree.ok, decide_eq_true_eq, decide_eq_false_iff_not, beq_iff_eq, beq_eq_false_iff_ne]
  refine ⟨fun h => ?_, fun h => ⟨fun h2 => ?_, fun h2 => ?_⟩⟩
  all_goals
    congr 1
    rw [Bool.eq_iff_iff, pltB_iff]
    simp only [decide_eq_true_eq, true_iff, iff_false, Bool.false_eq_true, false_iff]
    omega
theorem pPls_ok {ds : List DArg} {v : Value} {C : List Prop} (h : pPls ds = some (v, C)) : Res Try.prog 165 ds v := by
  unfold pPls at h
  split at h
  · obtain ⟨rfl, rfl⟩ : _ ∧ _ := by simpa using h
    exact res_sPls _ _ _ _
  · cases h
def TOl : Tab := fun f ds => match f with
  | 165 => pPls ds
  | f => TRl f ds
theorem TOl_ok : TabOk Try.prog TOl := by
  intro f ds v C h hC
  unfold TOl at h
  (try split at h)
  all_goals first | with_reducible exact pPls_ok h | exact TRl_ok _ _ _ _ h hC
def EOl : Env := tabE TOl
theorem EOl_ok : EnvOk Try.prog EOl := tabE_ok TOl_ok
noncomputable def c_adp : Code := ((loopsOf (codeOf Try.f149))[0]?).getD .skip
def k_adp : Ex → List Nat := keeps [0, 3, 5] [(0, [0, 3, 5])] [4]
def s_adp (ps : List Pt) (p : Pt) : Nat → St := fun i => ⟨(.slice (some ⟨0, 0, none⟩) ps.length ps.length :: topV :: topV :: .pointer (some ⟨1, 0, none⟩) :: topV :: .int .i64 i :: topV :: topV :: topV :: topV :: topV :: topV :: topV :: topV :: topV :: topV :: topV :: topV :: topV :: topV :: topV :: topV :: topV :: topV :: topV :: topV :: topV :: topV :: topV :: topV :: topV :: topV :: topV :: topV :: topV :: topV :: topV :: topV :: topV :: topV :: topV :: topV :: topV :: topV :: topV :: topV :: topV :: topV :: []), [some ⟨.row 30 2, .ints (flat ps)⟩, some ⟨.box, .vals [.int .i64 p.1, .int .i64 p.2]⟩]⟩
def re_adp : Nat → Ex := fun _ => .exit 0
def rs_adp (ps : List Pt) (p : Pt) : Nat → St := fun i => ⟨(.slice (some ⟨0, 0, none⟩) ps.length ps.length :: topV :: topV :: .pointer (some ⟨1, 0, none⟩) :: topV :: .int .i64 ((i + kP p (ps.drop i) : Nat) : Int) :: topV :: topV :: topV :: topV :: topV :: topV :: topV :: topV :: topV :: topV :: topV :: topV :: topV :: topV :: topV :: topV :: topV :: topV :: topV :: topV :: topV :: topV :: topV :: topV :: topV :: topV :: topV :: topV :: topV :: topV :: topV :: topV :: topV :: topV :: topV :: topV :: topV :: topV :: topV :: topV :: topV :: topV :: []), [some ⟨.row 30 2, .ints (flat ps)⟩, some ⟨.box, .vals [.int .i64 p.1, .int .i64 p.2]⟩]⟩
set_option maxRecDepth 100000 in
theorem tr_adp (ps : List Pt) (p : Pt) (i : Nat) : bodyL Try.prog EOl 30 12 noL 1 c_adp k_adp 2 (s_adp ps p i) = brT (decide ((↑i : Int) < (↑ps.length : Int))) (.need ((0 : Int) ≤ (↑i : Int) ∧ (↑i : Int) < (↑ps.length : Int)) (.need ((0 : Nat) + (↑i : Int).toNat * (2 : Nat) + (2 : Nat) ≤ (flat ps).length) (brT (pltB ((flat ps).getD (0 + (↑i : Int).toNat * (2 : Nat)) 0, (flat ps).getD (0 + (↑i : Int).toNat * (2 : Nat) + 1) 0) (p.fst, p.snd)) (.leaf .normal ⟨(.slice (some ⟨0, 0, none⟩) (ps.length) (ps.length) :: topV :: topV :: .pointer (some ⟨1, 0, none⟩) :: topV :: .int .i64 (IntKind.i64.wrap ((↑i : Int) + 1)) :: topV :: topV :: topV :: topV :: topV :: topV :: topV :: topV :: topV :: topV :: topV :: topV :: topV :: topV :: topV :: topV :: topV :: topV :: topV :: topV :: topV :: topV :: topV :: topV :: topV :: topV :: topV :: topV :: topV :: topV :: topV :: topV :: topV :: topV :: topV :: topV :: topV :: topV :: topV :: topV :: topV :: topV :: []), [some ⟨.row 30 2, .ints (flat ps)⟩, some ⟨.box, .vals [.int .i64 (p.1), .int .i64 (p.2)]⟩]⟩) (.leaf (.exit 0) ⟨(.slice (some ⟨0, 0, none⟩) (ps.length) (ps.length) :: topV :: topV :: .pointer (some ⟨1, 0, none⟩) :: topV :: .int .i64 ((↑i : Int)) :: topV :: topV :: topV :: topV :: topV :: topV :: topV :: topV :: topV :: topV :: topV :: topV :: topV :: topV :: topV :: topV :: topV :: topV :: topV :: topV :: topV :: topV :: topV :: topV :: topV :: topV :: topV :: topV :: topV :: topV :: topV :: topV :: topV :: topV :: topV :: topV :: topV :: topV :: topV :: topV :: topV :: topV :: []), [some ⟨.row 30 2, .ints (flat ps)⟩, some ⟨.box, .vals [.int .i64 (p.1), .int .i64 (p.2)]⟩]⟩)))) (.leaf (.exit 0) ⟨(.slice (some ⟨0, 0, none⟩) (ps.length) (ps.length) :: topV :: topV :: .pointer (some ⟨1, 0, none⟩) :: topV :: .int .i64 ((↑i : Int)) :: topV :: topV :: topV :: topV :: topV :: topV :: topV :: topV :: topV :: topV :: topV :: topV :: topV :: topV :: topV :: topV :: topV :: topV :: topV :: topV :: topV :: topV :: topV :: topV :: topV :: topV :: topV :: topV :: topV :: topV :: topV :: topV :: topV :: topV :: topV :: topV :: topV :: topV :: topV :: topV :: topV :: topV :: []), [some ⟨.row 30 2, .ints (flat ps)⟩, some ⟨.box, .vals [.int .i64 (p.1), .int .i64 (p.2)]⟩]⟩) := by kernel_rfl
set_option maxRecDepth 100000 in
theorem nl_adp : loopsOf c_adp = [] := by kernel_rfl
def inv_adp (ps : List Pt) (p : Pt) : Nat → Prop := fun i => i ≤ ps.length
def me_adp (ps : List Pt) (p : Pt) : Nat → Nat := fun i => ps.length - i
/-- A round of this loop. -/
def Round_adp (ps : List Pt) (p : Pt) : Prop := ∀ xx : Nat, inv_adp ps p xx → (bodyL Try.prog EOl 30 12 noL 1 c_adp k_adp 2 (s_adp ps p xx)).ok (RoundEnd 2 (s_adp ps p) (inv_adp ps p) (me_adp ps p) re_adp (rs_adp ps p) xx) (fun _ _ => False)
def e_adp (s : St) (k : Ex → St → Tree) : Option Tree := match Nat.beq s.tmps.length 48, pickL s.tmps [0, 3, 5], s.mem with
  | true, [.slice (some ⟨0, 0, none⟩) n _, .pointer (some ⟨1, 0, none⟩), .int .i64 i], [some ⟨.row 30 2, .ints xs⟩, some ⟨.box, .vals [.int .i64 x, .int .i64 y]⟩] => some (needs [i = 0, xs.length = n * 2, n ≤ 1000000000] (k (.exit 0) ⟨(.slice (some ⟨0, 0, none⟩) n n :: topV :: topV :: .pointer (some ⟨1, 0, none⟩) :: topV :: .int .i64 ((0 + kP (x, y) ((ptsA n xs).drop 0) : Nat) : Int) :: topV :: topV :: topV :: topV :: topV :: topV :: topV :: topV :: topV :: topV :: topV :: topV :: topV :: topV :: topV :: topV :: topV :: topV :: topV :: topV :: topV :: topV :: topV :: topV :: topV :: topV :: topV :: topV :: topV :: topV :: topV :: topV :: topV :: topV :: topV :: topV :: topV :: topV :: topV :: topV :: topV :: topV :: []), [some ⟨.row 30 2, .ints xs⟩, some ⟨.box, .vals [.int .i64 x, .int .i64 y]⟩]⟩))
  | _, _, _ => none
theorem kP_no {p q : Pt} {r : List Pt} (h : pltB q p = false) : kP p (q :: r) = 0 := by simp [kP, h]
theorem kP_yes {p q : Pt} {r : List Pt} (h : pltB q p = true) : kP p (q :: r) = kP p r + 1 := by simp [kP, h]
set_option maxRecDepth 100000 in
theorem round_adp (ps : List Pt) (p : Pt) (h : ps.length ≤ 1000000000) : Round_adp ps p := by
  intro i h1
  have h1 : i ≤ ps.length := h1
  rw [tr_adp]
  simp only [brT_ok, Tree.ok, decide_eq_true_eq, decide_eq_false_iff_not, Int.toNat_natCast, Nat.zero_add, flat_length, flat_get0, flat_get1]
  refine ⟨fun hlt => ⟨by omega, by omega, fun g => ?_, fun g => ?_⟩, fun hge => ?_⟩
  · have hd : ps.drop i = ps.getD i (0, 0) :: ps.drop (i + 1) := drop_cons (by omega) _
    have g : pltB (ps.getD i (0, 0)) p = true := g
    have e : i + kP p (ps.drop i) = (i + 1) + kP p (ps.drop (i + 1)) := by rw [hd, kP_yes g]; omega
    rw [wsucc (n := ps.length) (by omega) h]
    refine ⟨i + 1, [], ?_, ?_, rfl, by simp only [rs_adp, e], ?_⟩
    · show i + 1 ≤ ps.length; omega
    · show ps.length - (i + 1) < ps.length - i; omega
    · repeat' (first | exact True.intro | exact rfl | exact fun _ => rfl | (simp; done) | refine And.intro ?_ ?_)
  · have hd : ps.drop i = ps.getD i (0, 0) :: ps.drop (i + 1) := drop_cons (by omega) _
    have g : pltB (ps.getD i (0, 0)) p = false := g
    have e : i + kP p (ps.drop i) = i := by rw [hd, kP_no g]; rfl
    refine ⟨rfl, [], ?_⟩
    simp only [rs_adp, e]
    repeat' (first | exact True.intro | exact rfl | exact fun _ => rfl | (simp; done) | refine And.intro ?_ ?_)
  · have e : i + kP p (ps.drop i) = i := by rw [List.drop_of_length_le (by omega)]; rfl
    refine ⟨rfl, [], ?_⟩
    simp only [rs_adp, e]
    repeat' (first | exact True.intro | exact rfl | exact fun _ => rfl | (simp; done) | refine And.intro ?_ ?_)
set_option maxRecDepth 100000 in
theorem lg_adp : LoopE Try.prog e_adp c_adp := by
  intro s k t F H hlt ht
  unfold e_adp at hlt
  split at hlt
  rotate_left
  · cases hlt
  rename_i hlen hpick hmem
  obtain ⟨tmps, mem⟩ := s
  simp only at hlen hpick hmem
  subst hmem
  obtain rfl := Option.some.inj hlt
  obtain ⟨⟨rfl, h1, h2, _⟩, ht2⟩ := needs_ok ht
  clear ht hlt
  obtain ⟨ps, rfl, rfl⟩ := even_flat h1
  rw [ptsA_flat] at ht2
  refine ⟨_, _, ht2, loop_run mixed EOl_ok (s_adp ps (_, _)) (inv_adp ps (_, _)) (me_adp ps (_, _)) re_adp (rs_adp ps (_, _)) k_adp (fun _ => rfl) (noLoops nl_adp) (round_adp ps (_, _) h2) (x := 0) (Nat.zero_le _) (π := []) rfl ?_⟩
  refine ⟨rfl, rfl, ?_, wvs_spread' [0, 3, 5] hlen rfl ?_⟩
  · repeat' (first | exact True.intro | exact rfl | exact wv_top _ _ | exact fun _ => rfl | assumption | exact Eq.symm (by assumption) | exact vI0 rfl | refine And.intro ?_ ?_)
  · rw [hpick]
    repeat' (first | exact True.intro | exact rfl | exact wv_top _ _ | exact fun _ => rfl | assumption | exact Eq.symm (by assumption) | exact vI0 rfl | refine And.intro ?_ ?_)
theorem Lr_adp {fn : Func} (hf : Try.prog.funcs[149]? = some fn) : LoopsGood Try.prog (lt1 e_adp) 0 (codeOf fn) := by
  obtain rfl := fn_is Try.func149 hf
  exact lt1_good lg_adp
def LAd : FuncId → LT := fun f => match f with
  | 149 => lt1 e_adp
  | _ => noL
def EAd : Env := mkE TOl (fun _ _ => none) LAd
theorem EAd_ok : EnvOk Try.prog EAd := mkEOk TOl_ok (fun _ _ _ _ _ h => (by cases h)) (by
  intro f fn hf
  unfold LAd
  split
  all_goals first | with_reducible exact Lr_adp hf | exact noL_good)
set_option maxRecDepth 100000 in
theorem tr_adpF (ps : List Pt) (x y : Int) : bodyM Try.prog EAd (runM Try.prog EAd 30 12) 30 149 [.slice (some ⟨0, 0, none⟩) ps.length ps.length, .agg #[.int .i64 x, .int .i64 y]] [some ⟨.row 30 2, .ints (flat ps)⟩] .fin = .need ((0 : Int) = (0 : Int)) (.need ((flat ps).length = ps.length * (2 : Nat)) (.need (ps.length ≤ (1000000000 : Nat)) (brT (decide ((↑(0 + kP (x, y) (List.drop 0 (ptsA ps.length (flat ps)))) : Int) < (↑ps.length : Int))) (.need ((0 : Int) ≤ (↑((0 : Nat) + kP (x, y) (List.drop (0 : Nat) (ptsA ps.length (flat ps)))) : Int) ∧ (↑((0 : Nat) + kP (x, y) (List.drop (0 : Nat) (ptsA ps.length (flat ps)))) : Int) < (↑ps.length : Int)) (.need ((0 : Nat) + (↑((0 : Nat) + kP (x, y) (List.drop (0 : Nat) (ptsA ps.length (flat ps)))) : Int).toNat * (2 : Nat) + (2 : Nat) ≤ (flat ps).length) (brT (negB false ((flat ps).getD (0 + (↑(0 + kP (x, y) (List.drop 0 (ptsA ps.length (flat ps)))) : Int).toNat * 2) 0 == x && ((flat ps).getD (0 + (↑(0 + kP (x, y) (List.drop 0 (ptsA ps.length (flat ps)))) : Int).toNat * 2 + 1) 0 == y && true))) (.fin (.slice (some ⟨0, 0, none⟩) (ps.length) (ps.length)) [some ⟨.row 30 2, .ints (flat ps)⟩, some ⟨.box, .vals [.int .i64 (x), .int .i64 (y)]⟩]) (.need ((0 : Int) ≤ bndI none (0 : Int) ∧ bndI none (0 : Int) ≤ bndI (some (IntKind.i64, (↑((0 : Nat) + kP (x, y) (List.drop (0 : Nat) (ptsA ps.length (flat ps)))) : Int))) (↑ps.length : Int) ∧ bndI (some (IntKind.i64, (↑((0 : Nat) + kP (x, y) (List.drop (0 : Nat) (ptsA ps.length (flat ps)))) : Int))) (↑ps.length : Int) ≤ (↑ps.length : Int)) (.need (((0 : Nat) + ((bndI (some (IntKind.i64, (↑((0 : Nat) + kP (x, y) (List.drop (0 : Nat) (ptsA ps.length (flat ps)))) : Int))) (↑ps.length : Int)).toNat - (bndI none (0 : Int)).toNat, Cs.ints (List.take (((bndI (some (IntKind.i64, (↑((0 : Nat) + kP (x, y) (List.drop (0 : Nat) (ptsA ps.length (flat ps)))) : Int))) (↑ps.length : Int)).toNat - (bndI none (0 : Int)).toNat) * Try.prog.types[(30 : Nat)].size) (List.drop ((0 : Nat) + (bndI none (0 : Int)).toNat * Try.prog.types[(30 : Nat)].size) (flat ps))), [(0 : Nat) + (bndI none (0 : Int)).toNat * Try.prog.types[(30 : Nat)].size + ((bndI (some (IntKind.i64, (↑((0 : Nat) + kP (x, y) (List.drop (0 : Nat) (ptsA ps.length (flat ps)))) : Int))) (↑ps.length : Int)).toNat - (bndI none (0 : Int)).toNat) * Try.prog.types[(30 : Nat)].size ≤ (flat ps).length]).fst) * (16 : Nat) ≤ (140737488355328 : Nat) ∧ (0 : Nat) + ((bndI (some (IntKind.i64, (↑((0 : Nat) + kP (x, y) (List.drop (0 : Nat) (ptsA ps.length (flat ps)))) : Int))) (↑ps.length : Int)).toNat - (bndI none (0 : Int)).toNat, Cs.ints (List.take (((bndI (some (IntKind.i64, (↑((0 : Nat) + kP (x, y) (List.drop (0 : Nat) (ptsA ps.length (flat ps)))) : Int))) (↑ps.length : Int)).toNat - (bndI none (0 : Int)).toNat) * Try.prog.types[(30 : Nat)].size) (List.drop ((0 : Nat) + (bndI none (0 : Int)).toNat * Try.prog.types[(30 : Nat)].size) (flat ps))), [(0 : Nat) + (bndI none (0 : Int)).toNat * Try.prog.types[(30 : Nat)].size + ((bndI (some (IntKind.i64, (↑((0 : Nat) + kP (x, y) (List.drop (0 : Nat) (ptsA ps.length (flat ps)))) : Int))) (↑ps.length : Int)).toNat - (bndI none (0 : Int)).toNat) * Try.prog.types[(30 : Nat)].size ≤ (flat ps).length]).fst ≤ (1000000 : Nat)) (.need ((0 : Nat) + ((bndI (some (IntKind.i64, (↑((0 : Nat) + kP (x, y) (List.drop (0 : Nat) (ptsA ps.length (flat ps)))) : Int))) (↑ps.length : Int)).toNat - (0 : Nat)) * (2 : Nat) ≤ (flat ps).length) (.need (((0 : Nat) + ((bndI (some (IntKind.i64, (↑((0 : Nat) + kP (x, y) (List.drop (0 : Nat) (ptsA ps.length (flat ps)))) : Int))) (↑ps.length : Int)).toNat - (bndI none (0 : Int)).toNat, Cs.ints (List.take (((bndI (some (IntKind.i64, (↑((0 : Nat) + kP (x, y) (List.drop (0 : Nat) (ptsA ps.length (flat ps)))) : Int))) (↑ps.length : Int)).toNat - (bndI none (0 : Int)).toNat) * Try.prog.types[(30 : Nat)].size) (List.drop ((0 : Nat) + (bndI none (0 : Int)).toNat * Try.prog.types[(30 : Nat)].size) (flat ps))), [(0 : Nat) + (bndI none (0 : Int)).toNat * Try.prog.types[(30 : Nat)].size + ((bndI (some (IntKind.i64, (↑((0 : Nat) + kP (x, y) (List.drop (0 : Nat) (ptsA ps.length (flat ps)))) : Int))) (↑ps.length : Int)).toNat - (bndI none (0 : Int)).toNat) * Try.prog.types[(30 : Nat)].size ≤ (flat ps).length]).fst + (1 : Nat)) * (16 : Nat) ≤ (140737488355328 : Nat) ∧ (0 : Nat) + ((bndI (some (IntKind.i64, (↑((0 : Nat) + kP (x, y) (List.drop (0 : Nat) (ptsA ps.length (flat ps)))) : Int))) (↑ps.length : Int)).toNat - (bndI none (0 : Int)).toNat, Cs.ints (List.take (((bndI (some (IntKind.i64, (↑((0 : Nat) + kP (x, y) (List.drop (0 : Nat) (ptsA ps.length (flat ps)))) : Int))) (↑ps.length : Int)).toNat - (bndI none (0 : Int)).toNat) * Try.prog.types[(30 : Nat)].size) (List.drop ((0 : Nat) + (bndI none (0 : Int)).toNat * Try.prog.types[(30 : Nat)].size) (flat ps))), [(0 : Nat) + (bndI none (0 : Int)).toNat * Try.prog.types[(30 : Nat)].size + ((bndI (some (IntKind.i64, (↑((0 : Nat) + kP (x, y) (List.drop (0 : Nat) (ptsA ps.length (flat ps)))) : Int))) (↑ps.length : Int)).toNat - (bndI none (0 : Int)).toNat) * Try.prog.types[(30 : Nat)].size ≤ (flat ps).length]).fst + (1 : Nat) ≤ (1000000 : Nat)) (.need ((0 : Nat) + ((0 : Nat) + ((bndI (some (IntKind.i64, (↑((0 : Nat) + kP (x, y) (List.drop (0 : Nat) (ptsA ps.length (flat ps)))) : Int))) (↑ps.length : Int)).toNat - (bndI none (0 : Int)).toNat, Cs.ints (List.take (((bndI (some (IntKind.i64, (↑((0 : Nat) + kP (x, y) (List.drop (0 : Nat) (ptsA ps.length (flat ps)))) : Int))) (↑ps.length : Int)).toNat - (bndI none (0 : Int)).toNat) * Try.prog.types[(30 : Nat)].size) (List.drop ((0 : Nat) + (bndI none (0 : Int)).toNat * Try.prog.types[(30 : Nat)].size) (flat ps))), [(0 : Nat) + (bndI none (0 : Int)).toNat * Try.prog.types[(30 : Nat)].size + ((bndI (some (IntKind.i64, (↑((0 : Nat) + kP (x, y) (List.drop (0 : Nat) (ptsA ps.length (flat ps)))) : Int))) (↑ps.length : Int)).toNat - (bndI none (0 : Int)).toNat) * Try.prog.types[(30 : Nat)].size ≤ (flat ps).length]).fst) * (2 : Nat) ≤ ([] ++ List.take (((bndI (some (IntKind.i64, (↑((0 : Nat) + kP (x, y) (List.drop (0 : Nat) (ptsA ps.length (flat ps)))) : Int))) (↑ps.length : Int)).toNat - (0 : Nat)) * (2 : Nat)) (List.drop (0 : Nat) (flat ps))).length) (.need ((0 : Int) ≤ bndI (some (IntKind.i64, (↑((0 : Nat) + kP (x, y) (List.drop (0 : Nat) (ptsA ps.length (flat ps)))) : Int))) (0 : Int) ∧ bndI (some (IntKind.i64, (↑((0 : Nat) + kP (x, y) (List.drop (0 : Nat) (ptsA ps.length (flat ps)))) : Int))) (0 : Int) ≤ bndI none (↑ps.length : Int) ∧ bndI none (↑ps.length : Int) ≤ (↑ps.length : Int)) (.need (((0 : Nat) + ((bndI (some (IntKind.i64, (↑((0 : Nat) + kP (x, y) (List.drop (0 : Nat) (ptsA ps.length (flat ps)))) : Int))) (↑ps.length : Int)).toNat - (bndI none (0 : Int)).toNat, Cs.ints (List.take (((bndI (some (IntKind.i64, (↑((0 : Nat) + kP (x, y) (List.drop (0 : Nat) (ptsA ps.length (flat ps)))) : Int))) (↑ps.length : Int)).toNat - (bndI none (0 : Int)).toNat) * Try.prog.types[(30 : Nat)].size) (List.drop ((0 : Nat) + (bndI none (0 : Int)).toNat * Try.prog.types[(30 : Nat)].size) (flat ps))), [(0 : Nat) + (bndI none (0 : Int)).toNat * Try.prog.types[(30 : Nat)].size + ((bndI (some (IntKind.i64, (↑((0 : Nat) + kP (x, y) (List.drop (0 : Nat) (ptsA ps.length (flat ps)))) : Int))) (↑ps.length : Int)).toNat - (bndI none (0 : Int)).toNat) * Try.prog.types[(30 : Nat)].size ≤ (flat ps).length]).fst + (1 : Nat) + ((bndI none (↑ps.length : Int)).toNat - (bndI (some (IntKind.i64, (↑((0 : Nat) + kP (x, y) (List.drop (0 : Nat) (ptsA ps.length (flat ps)))) : Int))) (0 : Int)).toNat, Cs.ints (List.take (((bndI none (↑ps.length : Int)).toNat - (bndI (some (IntKind.i64, (↑((0 : Nat) + kP (x, y) (List.drop (0 : Nat) (ptsA ps.length (flat ps)))) : Int))) (0 : Int)).toNat) * Try.prog.types[(30 : Nat)].size) (List.drop ((0 : Nat) + (bndI (some (IntKind.i64, (↑((0 : Nat) + kP (x, y) (List.drop (0 : Nat) (ptsA ps.length (flat ps)))) : Int))) (0 : Int)).toNat * Try.prog.types[(30 : Nat)].size) (flat ps))), [(0 : Nat) + (bndI (some (IntKind.i64, (↑((0 : Nat) + kP (x, y) (List.drop (0 : Nat) (ptsA ps.length (flat ps)))) : Int))) (0 : Int)).toNat * Try.prog.types[(30 : Nat)].size + ((bndI none (↑ps.length : Int)).toNat - (bndI (some (IntKind.i64, (↑((0 : Nat) + kP (x, y) (List.drop (0 : Nat) (ptsA ps.length (flat ps)))) : Int))) (0 : Int)).toNat) * Try.prog.types[(30 : Nat)].size ≤ (flat ps).length]).fst) * (16 : Nat) ≤ (140737488355328 : Nat) ∧ (0 : Nat) + ((bndI (some (IntKind.i64, (↑((0 : Nat) + kP (x, y) (List.drop (0 : Nat) (ptsA ps.length (flat ps)))) : Int))) (↑ps.length : Int)).toNat - (bndI none (0 : Int)).toNat, Cs.ints (List.take (((bndI (some (IntKind.i64, (↑((0 : Nat) + kP (x, y) (List.drop (0 : Nat) (ptsA ps.length (flat ps)))) : Int))) (↑ps.length : Int)).toNat - (bndI none (0 : Int)).toNat) * Try.prog.types[(30 : Nat)].size) (List.drop ((0 : Nat) + (bndI none (0 : Int)).toNat * Try.prog.types[(30 : Nat)].size) (flat ps))), [(0 : Nat) + (bndI none (0 : Int)).toNat * Try.prog.types[(30 : Nat)].size + ((bndI (some (IntKind.i64, (↑((0 : Nat) + kP (x, y) (List.drop (0 : Nat) (ptsA ps.length (flat ps)))) : Int))) (↑ps.length : Int)).toNat - (bndI none (0 : Int)).toNat) * Try.prog.types[(30 : Nat)].size ≤ (flat ps).length]).fst + (1 : Nat) + ((bndI none (↑ps.length : Int)).toNat - (bndI (some (IntKind.i64, (↑((0 : Nat) + kP (x, y) (List.drop (0 : Nat) (ptsA ps.length (flat ps)))) : Int))) (0 : Int)).toNat, Cs.ints (List.take (((bndI none (↑ps.length : Int)).toNat - (bndI (some (IntKind.i64, (↑((0 : Nat) + kP (x, y) (List.drop (0 : Nat) (ptsA ps.length (flat ps)))) : Int))) (0 : Int)).toNat) * Try.prog.types[(30 : Nat)].size) (List.drop ((0 : Nat) + (bndI (some (IntKind.i64, (↑((0 : Nat) + kP (x, y) (List.drop (0 : Nat) (ptsA ps.length (flat ps)))) : Int))) (0 : Int)).toNat * Try.prog.types[(30 : Nat)].size) (flat ps))), [(0 : Nat) + (bndI (some (IntKind.i64, (↑((0 : Nat) + kP (x, y) (List.drop (0 : Nat) (ptsA ps.length (flat ps)))) : Int))) (0 : Int)).toNat * Try.prog.types[(30 : Nat)].size + ((bndI none (↑ps.length : Int)).toNat - (bndI (some (IntKind.i64, (↑((0 : Nat) + kP (x, y) (List.drop (0 : Nat) (ptsA ps.length (flat ps)))) : Int))) (0 : Int)).toNat) * Try.prog.types[(30 : Nat)].size ≤ (flat ps).length]).fst ≤ (1000000 : Nat)) (.need ((0 : Nat) + (bndI (some (IntKind.i64, (↑((0 : Nat) + kP (x, y) (List.drop (0 : Nat) (ptsA ps.length (flat ps)))) : Int))) (0 : Int)).toNat * (2 : Nat) + ((bndI none (↑ps.length : Int)).toNat - (bndI (some (IntKind.i64, (↑((0 : Nat) + kP (x, y) (List.drop (0 : Nat) (ptsA ps.length (flat ps)))) : Int))) (0 : Int)).toNat) * (2 : Nat) ≤ (flat ps).length) (.need ((0 : Nat) + ((0 : Nat) + ((bndI (some (IntKind.i64, (↑((0 : Nat) + kP (x, y) (List.drop (0 : Nat) (ptsA ps.length (flat ps)))) : Int))) (↑ps.length : Int)).toNat - (bndI none (0 : Int)).toNat, Cs.ints (List.take (((bndI (some (IntKind.i64, (↑((0 : Nat) + kP (x, y) (List.drop (0 : Nat) (ptsA ps.length (flat ps)))) : Int))) (↑ps.length : Int)).toNat - (bndI none (0 : Int)).toNat) * Try.prog.types[(30 : Nat)].size) (List.drop ((0 : Nat) + (bndI none (0 : Int)).toNat * Try.prog.types[(30 : Nat)].size) (flat ps))), [(0 : Nat) + (bndI none (0 : Int)).toNat * Try.prog.types[(30 : Nat)].size + ((bndI (some (IntKind.i64, (↑((0 : Nat) + kP (x, y) (List.drop (0 : Nat) (ptsA ps.length (flat ps)))) : Int))) (↑ps.length : Int)).toNat - (bndI none (0 : Int)).toNat) * Try.prog.types[(30 : Nat)].size ≤ (flat ps).length]).fst + (1 : Nat)) * (2 : Nat) ≤ (List.take (((0 : Nat) + ((bndI (some (IntKind.i64, (↑((0 : Nat) + kP (x, y) (List.drop (0 : Nat) (ptsA ps.length (flat ps)))) : Int))) (↑ps.length : Int)).toNat - (bndI none (0 : Int)).toNat, Cs.ints (List.take (((bndI (some (IntKind.i64, (↑((0 : Nat) + kP (x, y) (List.drop (0 : Nat) (ptsA ps.length (flat ps)))) : Int))) (↑ps.length : Int)).toNat - (bndI none (0 : Int)).toNat) * Try.prog.types[(30 : Nat)].size) (List.drop ((0 : Nat) + (bndI none (0 : Int)).toNat * Try.prog.types[(30 : Nat)].size) (flat ps))), [(0 : Nat) + (bndI none (0 : Int)).toNat * Try.prog.types[(30 : Nat)].size + ((bndI (some (IntKind.i64, (↑((0 : Nat) + kP (x, y) (List.drop (0 : Nat) (ptsA ps.length (flat ps)))) : Int))) (↑ps.length : Int)).toNat - (bndI none (0 : Int)).toNat) * Try.prog.types[(30 : Nat)].size ≤ (flat ps).length]).fst) * (2 : Nat)) (List.drop (0 : Nat) ([] ++ List.take (((bndI (some (IntKind.i64, (↑((0 : Nat) + kP (x, y) (List.drop (0 : Nat) (ptsA ps.length (flat ps)))) : Int))) (↑ps.length : Int)).toNat - (0 : Nat)) * (2 : Nat)) (List.drop (0 : Nat) (flat ps)))) ++ [x, y]).length) (.fin (.slice (some ⟨6, 0, none⟩) (0 + ((bndI (some (IntKind.i64, (↑(0 + kP (x, y) (List.drop 0 (ptsA ps.length (flat ps)))) : Int))) (↑ps.length : Int)).toNat - (bndI none 0).toNat, Cs.ints (List.take (((bndI (some (IntKind.i64, (↑(0 + kP (x, y) (List.drop 0 (ptsA ps.length (flat ps)))) : Int))) (↑ps.length : Int)).toNat - (bndI none 0).toNat) * Try.prog.types[30].size) (List.drop (0 + (bndI none 0).toNat * Try.prog.types[30].size) (flat ps))), [0 + (bndI none 0).toNat * Try.prog.types[30].size + ((bndI (some (IntKind.i64, (↑(0 + kP (x, y) (List.drop 0 (ptsA ps.length (flat ps)))) : Int))) (↑ps.length : Int)).toNat - (bndI none 0).toNat) * Try.prog.types[30].size ≤ (flat ps).length]).fst + 1 + ((bndI none (↑ps.length : Int)).toNat - (bndI (some (IntKind.i64, (↑(0 + kP (x, y) (List.drop 0 (ptsA ps.length (flat ps)))) : Int))) 0).toNat, Cs.ints (List.take (((bndI none (↑ps.length : Int)).toNat - (bndI (some (IntKind.i64, (↑(0 + kP (x, y) (List.drop 0 (ptsA ps.length (flat ps)))) : Int))) 0).toNat) * Try.prog.types[30].size) (List.drop (0 + (bndI (some (IntKind.i64, (↑(0 + kP (x, y) (List.drop 0 (ptsA ps.length (flat ps)))) : Int))) 0).toNat * Try.prog.types[30].size) (flat ps))), [0 + (bndI (some (IntKind.i64, (↑(0 + kP (x, y) (List.drop 0 (ptsA ps.length (flat ps)))) : Int))) 0).toNat * Try.prog.types[30].size + ((bndI none (↑ps.length : Int)).toNat - (bndI (some (IntKind.i64, (↑(0 + kP (x, y) (List.drop 0 (ptsA ps.length (flat ps)))) : Int))) 0).toNat) * Try.prog.types[30].size ≤ (flat ps).length]).fst) (0 + ((bndI (some (IntKind.i64, (↑(0 + kP (x, y) (List.drop 0 (ptsA ps.length (flat ps)))) : Int))) (↑ps.length : Int)).toNat - (bndI none 0).toNat, Cs.ints (List.take (((bndI (some (IntKind.i64, (↑(0 + kP (x, y) (List.drop 0 (ptsA ps.length (flat ps)))) : Int))) (↑ps.length : Int)).toNat - (bndI none 0).toNat) * Try.prog.types[30].size) (List.drop (0 + (bndI none 0).toNat * Try.prog.types[30].size) (flat ps))), [0 + (bndI none 0).toNat * Try.prog.types[30].size + ((bndI (some (IntKind.i64, (↑(0 + kP (x, y) (List.drop 0 (ptsA ps.length (flat ps)))) : Int))) (↑ps.length : Int)).toNat - (bndI none 0).toNat) * Try.prog.types[30].size ≤ (flat ps).length]).fst + 1 + ((bndI none (↑ps.length : Int)).toNat - (bndI (some (IntKind.i64, (↑(0 + kP (x, y) (List.drop 0 (ptsA ps.length (flat ps)))) : Int))) 0).toNat, Cs.ints (List.take (((bndI none (↑ps.length : Int)).toNat - (bndI (some (IntKind.i64, (↑(0 + kP (x, y) (List.drop 0 (ptsA ps.length (flat ps)))) : Int))) 0).toNat) * Try.prog.types[30].size) (List.drop (0 + (bndI (some (IntKind.i64, (↑(0 + kP (x, y) (List.drop 0 (ptsA ps.length (flat ps)))) : Int))) 0).toNat * Try.prog.types[30].size) (flat ps))), [0 + (bndI (some (IntKind.i64, (↑(0 + kP (x, y) (List.drop 0 (ptsA ps.length (flat ps)))) : Int))) 0).toNat * Try.prog.types[30].size + ((bndI none (↑ps.length : Int)).toNat - (bndI (some (IntKind.i64, (↑(0 + kP (x, y) (List.drop 0 (ptsA ps.length (flat ps)))) : Int))) 0).toNat) * Try.prog.types[30].size ≤ (flat ps).length]).fst)) [some ⟨.row 30 2, .ints (flat ps)⟩, some ⟨.box, .vals [.int .i64 (x), .int .i64 (y)]⟩, some deadB, some deadB, some ⟨.row 30 2, .vals [.int .i64 (x), .int .i64 (y)]⟩, some deadB, some ⟨.row 30 2, .ints (List.take ((0 + ((bndI (some (IntKind.i64, (↑(0 + kP (x, y) (List.drop 0 (ptsA ps.length (flat ps)))) : Int))) (↑ps.length : Int)).toNat - (bndI none 0).toNat, Cs.ints (List.take (((bndI (some (IntKind.i64, (↑(0 + kP (x, y) (List.drop 0 (ptsA ps.length (flat ps)))) : Int))) (↑ps.length : Int)).toNat - (bndI none 0).toNat) * Try.prog.types[30].size) (List.drop (0 + (bndI none 0).toNat * Try.prog.types[30].size) (flat ps))), [0 + (bndI none 0).toNat * Try.prog.types[30].size + ((bndI (some (IntKind.i64, (↑(0 + kP (x, y) (List.drop 0 (ptsA ps.length (flat ps)))) : Int))) (↑ps.length : Int)).toNat - (bndI none 0).toNat) * Try.prog.types[30].size ≤ (flat ps).length]).fst + 1) * 2) (List.drop 0 (List.take ((0 + ((bndI (some (IntKind.i64, (↑(0 + kP (x, y) (List.drop 0 (ptsA ps.length (flat ps)))) : Int))) (↑ps.length : Int)).toNat - (bndI none 0).toNat, Cs.ints (List.take (((bndI (some (IntKind.i64, (↑(0 + kP (x, y) (List.drop 0 (ptsA ps.length (flat ps)))) : Int))) (↑ps.length : Int)).toNat - (bndI none 0).toNat) * Try.prog.types[30].size) (List.drop (0 + (bndI none 0).toNat * Try.prog.types[30].size) (flat ps))), [0 + (bndI none 0).toNat * Try.prog.types[30].size + ((bndI (some (IntKind.i64, (↑(0 + kP (x, y) (List.drop 0 (ptsA ps.length (flat ps)))) : Int))) (↑ps.length : Int)).toNat - (bndI none 0).toNat) * Try.prog.types[30].size ≤ (flat ps).length]).fst) * 2) (List.drop 0 ([] ++ List.take (((bndI (some (IntKind.i64, (↑(0 + kP (x, y) (List.drop 0 (ptsA ps.length (flat ps)))) : Int))) (↑ps.length : Int)).toNat - 0) * 2) (List.drop 0 (flat ps)))) ++ [x, y])) ++ List.take (((bndI none (↑ps.length : Int)).toNat - (bndI (some (IntKind.i64, (↑(0 + kP (x, y) (List.drop 0 (ptsA ps.length (flat ps)))) : Int))) 0).toNat) * 2) (List.drop (0 + (bndI (some (IntKind.i64, (↑(0 + kP (x, y) (List.drop 0 (ptsA ps.length (flat ps)))) : Int))) 0).toNat * 2) (flat ps)))⟩]))))))))))))) (.need ((0 : Int) ≤ bndI none (0 : Int) ∧ bndI none (0 : Int) ≤ bndI (some (IntKind.i64, (↑((0 : Nat) + kP (x, y) (List.drop (0 : Nat) (ptsA ps.length (flat ps)))) : Int))) (↑ps.length : Int) ∧ bndI (some (IntKind.i64, (↑((0 : Nat) + kP (x, y) (List.drop (0 : Nat) (ptsA ps.length (flat ps)))) : Int))) (↑ps.length : Int) ≤ (↑ps.length : Int)) (.need (((0 : Nat) + ((bndI (some (IntKind.i64, (↑((0 : Nat) + kP (x, y) (List.drop (0 : Nat) (ptsA ps.length (flat ps)))) : Int))) (↑ps.length : Int)).toNat - (bndI none (0 : Int)).toNat, Cs.ints (List.take (((bndI (some (IntKind.i64, (↑((0 : Nat) + kP (x, y) (List.drop (0 : Nat) (ptsA ps.length (flat ps)))) : Int))) (↑ps.length : Int)).toNat - (bndI none (0 : Int)).toNat) * Try.prog.types[(30 : Nat)].size) (List.drop ((0 : Nat) + (bndI none (0 : Int)).toNat * Try.prog.types[(30 : Nat)].size) (flat ps))), [(0 : Nat) + (bndI none (0 : Int)).toNat * Try.prog.types[(30 : Nat)].size + ((bndI (some (IntKind.i64, (↑((0 : Nat) + kP (x, y) (List.drop (0 : Nat) (ptsA ps.length (flat ps)))) : Int))) (↑ps.length : Int)).toNat - (bndI none (0 : Int)).toNat) * Try.prog.types[(30 : Nat)].size ≤ (flat ps).length]).fst) * (16 : Nat) ≤ (140737488355328 : Nat) ∧ (0 : Nat) + ((bndI (some (IntKind.i64, (↑((0 : Nat) + kP (x, y) (List.drop (0 : Nat) (ptsA ps.length (flat ps)))) : Int))) (↑ps.length : Int)).toNat - (bndI none (0 : Int)).toNat, Cs.ints (List.take (((bndI (some (IntKind.i64, (↑((0 : Nat) + kP (x, y) (List.drop (0 : Nat) (ptsA ps.length (flat ps)))) : Int))) (↑ps.length : Int)).toNat - (bndI none (0 : Int)).toNat) * Try.prog.types[(30 : Nat)].size) (List.drop ((0 : Nat) + (bndI none (0 : Int)).toNat * Try.prog.types[(30 : Nat)].size) (flat ps))), [(0 : Nat) + (bndI none (0 : Int)).toNat * Try.prog.types[(30 : Nat)].size + ((bndI (some (IntKind.i64, (↑((0 : Nat) + kP (x, y) (List.drop (0 : Nat) (ptsA ps.length (flat ps)))) : Int))) (↑ps.length : Int)).toNat - (bndI none (0 : Int)).toNat) * Try.prog.types[(30 : Nat)].size ≤ (flat ps).length]).fst ≤ (1000000 : Nat)) (.need ((0 : Nat) + ((bndI (some (IntKind.i64, (↑((0 : Nat) + kP (x, y) (List.drop (0 : Nat) (ptsA ps.length (flat ps)))) : Int))) (↑ps.length : Int)).toNat - (0 : Nat)) * (2 : Nat) ≤ (flat ps).length) (.need (((0 : Nat) + ((bndI (some (IntKind.i64, (↑((0 : Nat) + kP (x, y) (List.drop (0 : Nat) (ptsA ps.length (flat ps)))) : Int))) (↑ps.length : Int)).toNat - (bndI none (0 : Int)).toNat, Cs.ints (List.take (((bndI (some (IntKind.i64, (↑((0 : Nat) + kP (x, y) (List.drop (0 : Nat) (ptsA ps.length (flat ps)))) : Int))) (↑ps.length : Int)).toNat - (bndI none (0 : Int)).toNat) * Try.prog.types[(30 : Nat)].size) (List.drop ((0 : Nat) + (bndI none (0 : Int)).toNat * Try.prog.types[(30 : Nat)].size) (flat ps))), [(0 : Nat) + (bndI none (0 : Int)).toNat * Try.prog.types[(30 : Nat)].size + ((bndI (some (IntKind.i64, (↑((0 : Nat) + kP (x, y) (List.drop (0 : Nat) (ptsA ps.length (flat ps)))) : Int))) (↑ps.length : Int)).toNat - (bndI none (0 : Int)).toNat) * Try.prog.types[(30 : Nat)].size ≤ (flat ps).length]).fst + (1 : Nat)) * (16 : Nat) ≤ (140737488355328 : Nat) ∧ (0 : Nat) + ((bndI (some (IntKind.i64, (↑((0 : Nat) + kP (x, y) (List.drop (0 : Nat) (ptsA ps.length (flat ps)))) : Int))) (↑ps.length : Int)).toNat - (bndI none (0 : Int)).toNat, Cs.ints (List.take (((bndI (some (IntKind.i64, (↑((0 : Nat) + kP (x, y) (List.drop (0 : Nat) (ptsA ps.length (flat ps)))) : Int))) (↑ps.length : Int)).toNat - (bndI none (0 : Int)).toNat) * Try.prog.types[(30 : Nat)].size) (List.drop ((0 : Nat) + (bndI none (0 : Int)).toNat * Try.prog.types[(30 : Nat)].size) (flat ps))), [(0 : Nat) + (bndI none (0 : Int)).toNat * Try.prog.types[(30 : Nat)].size + ((bndI (some (IntKind.i64, (↑((0 : Nat) + kP (x, y) (List.drop (0 : Nat) (ptsA ps.length (flat ps)))) : Int))) (↑ps.length : Int)).toNat - (bndI none (0 : Int)).toNat) * Try.prog.types[(30 : Nat)].size ≤ (flat ps).length]).fst + (1 : Nat) ≤ (1000000 : Nat)) (.need ((0 : Nat) + ((0 : Nat) + ((bndI (some (IntKind.i64, (↑((0 : Nat) + kP (x, y) (List.drop (0 : Nat) (ptsA ps.length (flat ps)))) : Int))) (↑ps.length : Int)).toNat - (bndI none (0 : Int)).toNat, Cs.ints (List.take (((bndI (some (IntKind.i64, (↑((0 : Nat) + kP (x, y) (List.drop (0 : Nat) (ptsA ps.length (flat ps)))) : Int))) (↑ps.length : Int)).toNat - (bndI none (0 : Int)).toNat) * Try.prog.types[(30 : Nat)].size) (List.drop ((0 : Nat) + (bndI none (0 : Int)).toNat * Try.prog.types[(30 : Nat)].size) (flat ps))), [(0 : Nat) + (bndI none (0 : Int)).toNat * Try.prog.types[(30 : Nat)].size + ((bndI (some (IntKind.i64, (↑((0 : Nat) + kP (x, y) (List.drop (0 : Nat) (ptsA ps.length (flat ps)))) : Int))) (↑ps.length : Int)).toNat - (bndI none (0 : Int)).toNat) * Try.prog.types[(30 : Nat)].size ≤ (flat ps).length]).fst) * (2 : Nat) ≤ ([] ++ List.take (((bndI (some (IntKind.i64, (↑((0 : Nat) + kP (x, y) (List.drop (0 : Nat) (ptsA ps.length (flat ps)))) : Int))) (↑ps.length : Int)).toNat - (0 : Nat)) * (2 : Nat)) (List.drop (0 : Nat) (flat ps))).length) (.need ((0 : Int) ≤ bndI (some (IntKind.i64, (↑((0 : Nat) + kP (x, y) (List.drop (0 : Nat) (ptsA ps.length (flat ps)))) : Int))) (0 : Int) ∧ bndI (some (IntKind.i64, (↑((0 : Nat) + kP (x, y) (List.drop (0 : Nat) (ptsA ps.length (flat ps)))) : Int))) (0 : Int) ≤ bndI none (↑ps.length : Int) ∧ bndI none (↑ps.length : Int) ≤ (↑ps.length : Int)) (.need (((0 : Nat) + ((bndI (some (IntKind.i64, (↑((0 : Nat) + kP (x, y) (List.drop (0 : Nat) (ptsA ps.length (flat ps)))) : Int))) (↑ps.length : Int)).toNat - (bndI none (0 : Int)).toNat, Cs.ints (List.take (((bndI (some (IntKind.i64, (↑((0 : Nat) + kP (x, y) (List.drop (0 : Nat) (ptsA ps.length (flat ps)))) : Int))) (↑ps.length : Int)).toNat - (bndI none (0 : Int)).toNat) * Try.prog.types[(30 : Nat)].size) (List.drop ((0 : Nat) + (bndI none (0 : Int)).toNat * Try.prog.types[(30 : Nat)].size) (flat ps))), [(0 : Nat) + (bndI none (0 : Int)).toNat * Try.prog.types[(30 : Nat)].size + ((bndI (some (IntKind.i64, (↑((0 : Nat) + kP (x, y) (List.drop (0 : Nat) (ptsA ps.length (flat ps)))) : Int))) (↑ps.length : Int)).toNat - (bndI none (0 : Int)).toNat) * Try.prog.types[(30 : Nat)].size ≤ (flat ps).length]).fst + (1 : Nat) + ((bndI none (↑ps.length : Int)).toNat - (bndI (some (IntKind.i64, (↑((0 : Nat) + kP (x, y) (List.drop (0 : Nat) (ptsA ps.length (flat ps)))) : Int))) (0 : Int)).toNat, Cs.ints (List.take (((bndI none (↑ps.length : Int)).toNat - (bndI (some (IntKind.i64, (↑((0 : Nat) + kP (x, y) (List.drop (0 : Nat) (ptsA ps.length (flat ps)))) : Int))) (0 : Int)).toNat) * Try.prog.types[(30 : Nat)].size) (List.drop ((0 : Nat) + (bndI (some (IntKind.i64, (↑((0 : Nat) + kP (x, y) (List.drop (0 : Nat) (ptsA ps.length (flat ps)))) : Int))) (0 : Int)).toNat * Try.prog.types[(30 : Nat)].size) (flat ps))), [(0 : Nat) + (bndI (some (IntKind.i64, (↑((0 : Nat) + kP (x, y) (List.drop (0 : Nat) (ptsA ps.length (flat ps)))) : Int))) (0 : Int)).toNat * Try.prog.types[(30 : Nat)].size + ((bndI none (↑ps.length : Int)).toNat - (bndI (some (IntKind.i64, (↑((0 : Nat) + kP (x, y) (List.drop (0 : Nat) (ptsA ps.length (flat ps)))) : Int))) (0 : Int)).toNat) * Try.prog.types[(30 : Nat)].size ≤ (flat ps).length]).fst) * (16 : Nat) ≤ (140737488355328 : Nat) ∧ (0 : Nat) + ((bndI (some (IntKind.i64, (↑((0 : Nat) + kP (x, y) (List.drop (0 : Nat) (ptsA ps.length (flat ps)))) : Int))) (↑ps.length : Int)).toNat - (bndI none (0 : Int)).toNat, Cs.ints (List.take (((bndI (some (IntKind.i64, (↑((0 : Nat) + kP (x, y) (List.drop (0 : Nat) (ptsA ps.length (flat ps)))) : Int))) (↑ps.length : Int)).toNat - (bndI none (0 : Int)).toNat) * Try.prog.types[(30 : Nat)].size) (List.drop ((0 : Nat) + (bndI none (0 : Int)).toNat * Try.prog.types[(30 : Nat)].size) (flat ps))), [(0 : Nat) + (bndI none (0 : Int)).toNat * Try.prog.types[(30 : Nat)].size + ((bndI (some (IntKind.i64, (↑((0 : Nat) + kP (x, y) (List.drop (0 : Nat) (ptsA ps.length (flat ps)))) : Int))) (↑ps.length : Int)).toNat - (bndI none (0 : Int)).toNat) * Try.prog.types[(30 : Nat)].size ≤ (flat ps).length]).fst + (1 : Nat) + ((bndI none (↑ps.length : Int)).toNat - (bndI (some (IntKind.i64, (↑((0 : Nat) + kP (x, y) (List.drop (0 : Nat) (ptsA ps.length (flat ps)))) : Int))) (0 : Int)).toNat, Cs.ints (List.take (((bndI none (↑ps.length : Int)).toNat - (bndI (some (IntKind.i64, (↑((0 : Nat) + kP (x, y) (List.drop (0 : Nat) (ptsA ps.length (flat ps)))) : Int))) (0 : Int)).toNat) * Try.prog.types[(30 : Nat)].size) (List.drop ((0 : Nat) + (bndI (some (IntKind.i64, (↑((0 : Nat) + kP (x, y) (List.drop (0 : Nat) (ptsA ps.length (flat ps)))) : Int))) (0 : Int)).toNat * Try.prog.types[(30 : Nat)].size) (flat ps))), [(0 : Nat) + (bndI (some (IntKind.i64, (↑((0 : Nat) + kP (x, y) (List.drop (0 : Nat) (ptsA ps.length (flat ps)))) : Int))) (0 : Int)).toNat * Try.prog.types[(30 : Nat)].size + ((bndI none (↑ps.length : Int)).toNat - (bndI (some (IntKind.i64, (↑((0 : Nat) + kP (x, y) (List.drop (0 : Nat) (ptsA ps.length (flat ps)))) : Int))) (0 : Int)).toNat) * Try.prog.types[(30 : Nat)].size ≤ (flat ps).length]).fst ≤ (1000000 : Nat)) (.need ((0 : Nat) + (bndI (some (IntKind.i64, (↑((0 : Nat) + kP (x, y) (List.drop (0 : Nat) (ptsA ps.length (flat ps)))) : Int))) (0 : Int)).toNat * (2 : Nat) + ((bndI none (↑ps.length : Int)).toNat - (bndI (some (IntKind.i64, (↑((0 : Nat) + kP (x, y) (List.drop (0 : Nat) (ptsA ps.length (flat ps)))) : Int))) (0 : Int)).toNat) * (2 : Nat) ≤ (flat ps).length) (.need ((0 : Nat) + ((0 : Nat) + ((bndI (some (IntKind.i64, (↑((0 : Nat) + kP (x, y) (List.drop (0 : Nat) (ptsA ps.length (flat ps)))) : Int))) (↑ps.length : Int)).toNat - (bndI none (0 : Int)).toNat, Cs.ints (List.take (((bndI (some (IntKind.i64, (↑((0 : Nat) + kP (x, y) (List.drop (0 : Nat) (ptsA ps.length (flat ps)))) : Int))) (↑ps.length : Int)).toNat - (bndI none (0 : Int)).toNat) * Try.prog.types[(30 : Nat)].size) (List.drop ((0 : Nat) + (bndI none (0 : Int)).toNat * Try.prog.types[(30 : Nat)].size) (flat ps))), [(0 : Nat) + (bndI none (0 : Int)).toNat * Try.prog.types[(30 : Nat)].size + ((bndI (some (IntKind.i64, (↑((0 : Nat) + kP (x, y) (List.drop (0 : Nat) (ptsA ps.length (flat ps)))) : Int))) (↑ps.length : Int)).toNat - (bndI none (0 : Int)).toNat) * Try.prog.types[(30 : Nat)].size ≤ (flat ps).length]).fst + (1 : Nat)) * (2 : Nat) ≤ (List.take (((0 : Nat) + ((bndI (some (IntKind.i64, (↑((0 : Nat) + kP (x, y) (List.drop (0 : Nat) (ptsA ps.length (flat ps)))) : Int))) (↑ps.length : Int)).toNat - (bndI none (0 : Int)).toNat, Cs.ints (List.take (((bndI (some (IntKind.i64, (↑((0 : Nat) + kP (x, y) (List.drop (0 : Nat) (ptsA ps.length (flat ps)))) : Int))) (↑ps.length : Int)).toNat - (bndI none (0 : Int)).toNat) * Try.prog.types[(30 : Nat)].size) (List.drop ((0 : Nat) + (bndI none (0 : Int)).toNat * Try.prog.types[(30 : Nat)].size) (flat ps))), [(0 : Nat) + (bndI none (0 : Int)).toNat * Try.prog.types[(30 : Nat)].size + ((bndI (some (IntKind.i64, (↑((0 : Nat) + kP (x, y) (List.drop (0 : Nat) (ptsA ps.length (flat ps)))) : Int))) (↑ps.length : Int)).toNat - (bndI none (0 : Int)).toNat) * Try.prog.types[(30 : Nat)].size ≤ (flat ps).length]).fst) * (2 : Nat)) (List.drop (0 : Nat) ([] ++ List.take (((bndI (some (IntKind.i64, (↑((0 : Nat) + kP (x, y) (List.drop (0 : Nat) (ptsA ps.length (flat ps)))) : Int))) (↑ps.length : Int)).toNat - (0 : Nat)) * (2 : Nat)) (List.drop (0 : Nat) (flat ps)))) ++ [x, y]).length) (.fin (.slice (some ⟨6, 0, none⟩) (0 + ((bndI (some (IntKind.i64, (↑(0 + kP (x, y) (List.drop 0 (ptsA ps.length (flat ps)))) : Int))) (↑ps.length : Int)).toNat - (bndI none 0).toNat, Cs.ints (List.take (((bndI (some (IntKind.i64, (↑(0 + kP (x, y) (List.drop 0 (ptsA ps.length (flat ps)))) : Int))) (↑ps.length : Int)).toNat - (bndI none 0).toNat) * Try.prog.types[30].size) (List.drop (0 + (bndI none 0).toNat * Try.prog.types[30].size) (flat ps))), [0 + (bndI none 0).toNat * Try.prog.types[30].size + ((bndI (some (IntKind.i64, (↑(0 + kP (x, y) (List.drop 0 (ptsA ps.length (flat ps)))) : Int))) (↑ps.length : Int)).toNat - (bndI none 0).toNat) * Try.prog.types[30].size ≤ (flat ps).length]).fst + 1 + ((bndI none (↑ps.length : Int)).toNat - (bndI (some (IntKind.i64, (↑(0 + kP (x, y) (List.drop 0 (ptsA ps.length (flat ps)))) : Int))) 0).toNat, Cs.ints (List.take (((bndI none (↑ps.length : Int)).toNat - (bndI (some (IntKind.i64, (↑(0 + kP (x, y) (List.drop 0 (ptsA ps.length (flat ps)))) : Int))) 0).toNat) * Try.prog.types[30].size) (List.drop (0 + (bndI (some (IntKind.i64, (↑(0 + kP (x, y) (List.drop 0 (ptsA ps.length (flat ps)))) : Int))) 0).toNat * Try.prog.types[30].size) (flat ps))), [0 + (bndI (some (IntKind.i64, (↑(0 + kP (x, y) (List.drop 0 (ptsA ps.length (flat ps)))) : Int))) 0).toNat * Try.prog.types[30].size + ((bndI none (↑ps.length : Int)).toNat - (bndI (some (IntKind.i64, (↑(0 + kP (x, y) (List.drop 0 (ptsA ps.length (flat ps)))) : Int))) 0).toNat) * Try.prog.types[30].size ≤ (flat ps).length]).fst) (0 + ((bndI (some (IntKind.i64, (↑(0 + kP (x, y) (List.drop 0 (ptsA ps.length (flat ps)))) : Int))) (↑ps.length : Int)).toNat - (bndI none 0).toNat, Cs.ints (List.take (((bndI (some (IntKind.i64, (↑(0 + kP (x, y) (List.drop 0 (ptsA ps.length (flat ps)))) : Int))) (↑ps.length : Int)).toNat - (bndI none 0).toNat) * Try.prog.types[30].size) (List.drop (0 + (bndI none 0).toNat * Try.prog.types[30].size) (flat ps))), [0 + (bndI none 0).toNat * Try.prog.types[30].size + ((bndI (some (IntKind.i64, (↑(0 + kP (x, y) (List.drop 0 (ptsA ps.length (flat ps)))) : Int))) (↑ps.length : Int)).toNat - (bndI none 0).toNat) * Try.prog.types[30].size ≤ (flat ps).length]).fst + 1 + ((bndI none (↑ps.length : Int)).toNat - (bndI (some (IntKind.i64, (↑(0 + kP (x, y) (List.drop 0 (ptsA ps.length (flat ps)))) : Int))) 0).toNat, Cs.ints (List.take (((bndI none (↑ps.length : Int)).toNat - (bndI (some (IntKind.i64, (↑(0 + kP (x, y) (List.drop 0 (ptsA ps.length (flat ps)))) : Int))) 0).toNat) * Try.prog.types[30].size) (List.drop (0 + (bndI (some (IntKind.i64, (↑(0 + kP (x, y) (List.drop 0 (ptsA ps.length (flat ps)))) : Int))) 0).toNat * Try.prog.types[30].size) (flat ps))), [0 + (bndI (some (IntKind.i64, (↑(0 + kP (x, y) (List.drop 0 (ptsA ps.length (flat ps)))) : Int))) 0).toNat * Try.prog.types[30].size + ((bndI none (↑ps.length : Int)).toNat - (bndI (some (IntKind.i64, (↑(0 + kP (x, y) (List.drop 0 (ptsA ps.length (flat ps)))) : Int))) 0).toNat) * Try.prog.types[30].size ≤ (flat ps).length]).fst)) [some ⟨.row 30 2, .ints (flat ps)⟩, some ⟨.box, .vals [.int .i64 (x), .int .i64 (y)]⟩, some deadB, some deadB, some ⟨.row 30 2, .vals [.int .i64 (x), .int .i64 (y)]⟩, some deadB, some ⟨.row 30 2, .ints (List.take ((0 + ((bndI (some (IntKind.i64, (↑(0 + kP (x, y) (List.drop 0 (ptsA ps.length (flat ps)))) : Int))) (↑ps.length : Int)).toNat - (bndI none 0).toNat, Cs.ints (List.take (((bndI (some (IntKind.i64, (↑(0 + kP (x, y) (List.drop 0 (ptsA ps.length (flat ps)))) : Int))) (↑ps.length : Int)).toNat - (bndI none 0).toNat) * Try.prog.types[30].size) (List.drop (0 + (bndI none 0).toNat * Try.prog.types[30].size) (flat ps))), [0 + (bndI none 0).toNat * Try.prog.types[30].size + ((bndI (some (IntKind.i64, (↑(0 + kP (x, y) (List.drop 0 (ptsA ps.length (flat ps)))) : Int))) (↑ps.length : Int)).toNat - (bndI none 0).toNat) * Try.prog.types[30].size ≤ (flat ps).length]).fst + 1) * 2) (List.drop 0 (List.take ((0 + ((bndI (some (IntKind.i64, (↑(0 + kP (x, y) (List.drop 0 (ptsA ps.length (flat ps)))) : Int))) (↑ps.length : Int)).toNat - (bndI none 0).toNat, Cs.ints (List.take (((bndI (some (IntKind.i64, (↑(0 + kP (x, y) (List.drop 0 (ptsA ps.length (flat ps)))) : Int))) (↑ps.length : Int)).toNat - (bndI none 0).toNat) * Try.prog.types[30].size) (List.drop (0 + (bndI none 0).toNat * Try.prog.types[30].size) (flat ps))), [0 + (bndI none 0).toNat * Try.prog.types[30].size + ((bndI (some (IntKind.i64, (↑(0 + kP (x, y) (List.drop 0 (ptsA ps.length (flat ps)))) : Int))) (↑ps.length : Int)).toNat - (bndI none 0).toNat) * Try.prog.types[30].size ≤ (flat ps).length]).fst) * 2) (List.drop 0 ([] ++ List.take (((bndI (some (IntKind.i64, (↑(0 + kP (x, y) (List.drop 0 (ptsA ps.length (flat ps)))) : Int))) (↑ps.length : Int)).toNat - 0) * 2) (List.drop 0 (flat ps)))) ++ [x, y])) ++ List.take (((bndI none (↑ps.length : Int)).toNat - (bndI (some (IntKind.i64, (↑(0 + kP (x, y) (List.drop 0 (ptsA ps.length (flat ps)))) : Int))) 0).toNat) * 2) (List.drop (0 + (bndI (some (IntKind.i64, (↑(0 + kP (x, y) (List.drop 0 (ptsA ps.length (flat ps)))) : Int))) 0).toNat * 2) (flat ps)))⟩]))))))))))))) := by kernel_rfl
theorem ins_flat {ps : List Pt} {k : Nat} (h : k ≤ ps.length) (x y : Int) : List.take ((k + 1) * 2) (List.take (k * 2) (List.take (k * 2) (flat ps)) ++ [x, y]) ++ List.take ((ps.length - k) * 2) (List.drop (k * 2) (flat ps)) = flat (ps.take k ++ ((x, y) :: ps.drop k)) := by
  have l1 : (ps.take k).length = k := by simp; omega
  have l2 : (ps.drop k).length = ps.length - k := by simp
  have l3 : (ps.take k ++ [(x, y)]).length = k + 1 := by rw [List.length_append, l1]; rfl
  have e1 : List.take (k + 1) (ps.take k ++ [(x, y)]) = ps.take k ++ [(x, y)] := List.take_of_length_le (by omega)
  have e2 : List.take (ps.length - k) (ps.drop k) = ps.drop k := List.take_of_length_le (by omega)
  rw [flat_take, flat_take, List.take_take, Nat.min_self, flat_snoc, flat_take, flat_drop, flat_take, e1, e2, ← flat_append, List.append_assoc]
  rfl
theorem adp_row (ps : List Pt) (x y : Int) (h : ps.length ≤ 1000) : (bodyM Try.prog EAd (runM Try.prog EAd 30 12) 30 149 [.slice (some ⟨0, 0, none⟩) ps.length ps.length, .agg #[.int .i64 x, .int .i64 y]] [some ⟨.row 30 2, .ints (flat ps)⟩] .fin).ok (fun _ _ => False) (fun u mem' => RowIs (.slice (some ⟨0, 0, none⟩) (insP (x, y) ps).length (insP (x, y) ps).length) ⟨.row 30 2, .ints (flat (insP (x, y) ps))⟩ u mem') := by
  rw [tr_adpF]
  have hk := kP_le (x, y) ps
  have hi := insP_is (x, y) ps
  simp only [List.drop_zero, ptsA_flat, flat_length, Nat.zero_add, Int.toNat_natCast, bndI, Nat.sub_zero, Int.toNat_zero, Nat.zero_mul, List.nil_append]
  generalize kP (x, y) ps = k at *
  have hfl := ins_flat hk x y
  refine ⟨trivial, trivial, by omega, ?_⟩
  simp only [brT_ok, Tree.ok, decide_eq_true_eq, decide_eq_false_iff_not, flat_get0, flat_get1, hfl]
  have lt2 : (List.take (k * 2) (flat ps)).length = k * 2 := by rw [List.length_take, flat_length]; omega
  have lt3 : (List.take (k * 2) (List.take (k * 2) (flat ps)) ++ [x, y]).length = (k + 1) * 2 := by rw [List.length_append, List.length_take, lt2]; simp; omega
  have fin : insP (x, y) ps = ps.take k ++ ((x, y) :: ps.drop k) → RowIs (.slice (some ⟨0, 0, none⟩) (insP (x, y) ps).length (insP (x, y) ps).length) ⟨.row 30 2, .ints (flat (insP (x, y) ps))⟩ (.slice (some ⟨6, 0, none⟩) (k + 1 + (ps.length - k)) (k + 1 + (ps.length - k)))
      [some ⟨.row 30 2, .ints (flat ps)⟩, some ⟨.box, .vals [.int .i64 x, .int .i64 y]⟩, some deadB, some deadB, some ⟨.row 30 2, .vals [.int .i64 x, .int .i64 y]⟩, some deadB, some ⟨.row 30 2, .ints (flat (ps.take k ++ ((x, y) :: ps.drop k)))⟩] := fun e => by
    have l : (insP (x, y) ps).length = k + 1 + (ps.length - k) := by rw [e]; simp; omega
    rw [l, e]
    exact ⟨some 6, ⟨rfl, rfl, rfl⟩, rfl, rfl, rfl⟩
  refine ⟨fun hlt => ⟨by omega, by omega, fun g => ?_, fun g => ?_⟩, fun hge => ?_⟩
  · have e : insP (x, y) ps = ps := by
      simp only [negB, Bool.and_true, Bool.and_eq_true, beq_iff_eq] at g
      rw [hi, if_pos ⟨by omega, Prod.ext g.1 g.2⟩]
    rw [e]
    exact ⟨some 0, ⟨rfl, rfl, rfl⟩, rfl, rfl, rfl⟩
  · have e : insP (x, y) ps = ps.take k ++ ((x, y) :: ps.drop k) := by
      rw [hi, if_neg]
      rintro ⟨_, e⟩
      rw [e] at g
      simp [negB] at g
    exact ⟨by omega, by omega, by omega, by omega, by omega, by omega, by omega, by omega, by omega, fin e⟩
  · have e : insP (x, y) ps = ps.take k ++ ((x, y) :: ps.drop k) := by
      rw [hi, if_neg]
      rintro ⟨h1, _⟩
      omega
    exact ⟨by omega, by omega, by omega, by omega, by omega, by omega, by omega, by omega, by omega, fin e⟩
/-- The model's addPoint: it takes over a list. -/
def addS : OSpec := fun e sz l xs rest => match e, sz, rest with
  | 30, 2, [.agg ⟨[.int .i64 x, .int .i64 y]⟩] => some (.slice (some ⟨0, 0, none⟩) (insP (x, y) (ptsA l xs)).length (insP (x, y) (ptsA l xs)).length, ⟨.row 30 2, .ints (flat (insP (x, y) (ptsA l xs)))⟩, [xs.length = l * 2, l ≤ 1000])
  | _, _, _ => none
set_option maxRecDepth 100000 in
theorem addS_ok : OSpecOk Try.prog 149 addS := by
  intro e sz l xs rest v b C h hC
  unfold addS at h
  split at h
  rotate_left
  · cases h
  obtain ⟨rfl, rfl, rfl⟩ : _ ∧ _ ∧ _ := by simpa using h
  obtain ⟨h1, h2, _⟩ := hC
  obtain ⟨ps, rfl, rfl⟩ := even_flat h1
  rw [ptsA_flat]
  exact ⟨rfl, EAd, 30, 12, EAd_ok, adp_row ps _ _ h2⟩
def JAd : TabJ := consR 149 (owG addS) noJ
theorem JAd_ok : GSound Try.prog JAd.g := consO_ok mixed (J := noJ) (failG_sound _) (entersB_res (by kernel_rfl)).1 addS_ok
def ESo : Env := withT (mkE TOl (fun _ _ => none) (fun _ => noL)) JAd
theorem ESo_ok : EnvOk Try.prog ESo := withT_ok (mkEOk TOl_ok (fun _ _ _ _ _ h => (by cases h)) (fun _ _ _ => noL_good)) JAd_ok
noncomputable def c_srt : Code := ((loopsOf (codeOf Try.f125))[0]?).getD .skip
def k_srt : Ex → List Nat := keeps [0, 3, 4] [(0, [3])] [2]
def s_srt (ps : List Pt) : Nat × (List Pt) → St := fun (i, o) => ⟨[.slice (some ⟨0, 0, none⟩) ps.length ps.length, topV, topV, .slice (some ⟨2, 0, none⟩) o.length o.length, .int .i64 i, topV, topV, topV, topV, topV, topV, topV, topV, topV, topV, topV, topV, topV, topV], [some ⟨.view, .ints (flat ps)⟩, some ⟨.dead, .vals []⟩, some ⟨.row 30 2, .ints (flat o)⟩]⟩
def re_srt : Nat × (List Pt) → Ex := fun _ => .exit 0
def rs_srt (ps : List Pt) : Nat × (List Pt) → St := fun (i, o) => ⟨[topV, topV, topV, .slice (some ⟨2, 0, none⟩) (srtO o (ps.drop i)).length (srtO o (ps.drop i)).length, topV, topV, topV, topV, topV, topV, topV, topV, topV, topV, topV, topV, topV, topV, topV], [some ⟨.view, .ints (flat ps)⟩, some ⟨.dead, .vals []⟩, some ⟨.row 30 2, .ints (flat (srtO o (ps.drop i)))⟩]⟩
set_option maxRecDepth 100000 in
theorem tr_srt (ps : List Pt) (i : Nat) (o : List Pt) : bodyL Try.prog ESo 30 12 noL 1 c_srt k_srt 5 (s_srt ps (i, o)) = brT (decide ((↑i : Int) < (↑ps.length : Int))) (.need ((0 : Int) ≤ (↑i : Int) ∧ (↑i : Int) < (↑ps.length : Int)) (.need ((0 : Nat) + (↑i : Int).toNat * (2 : Nat) + (2 : Nat) ≤ (flat ps).length) (.need ((flat o).length = o.length * (2 : Nat)) (.need (o.length ≤ (1000 : Nat)) (.leaf .normal ⟨[.slice (some ⟨0, 0, none⟩) (ps.length) (ps.length), topV, topV, .slice (some ⟨3, 0, none⟩) ((insP ((flat ps).getD (0 + (↑i : Int).toNat * (2 : Nat)) 0, (flat ps).getD (0 + (↑i : Int).toNat * (2 : Nat) + 1) 0) (ptsA o.length (flat o))).length) ((insP ((flat ps).getD (0 + (↑i : Int).toNat * (2 : Nat)) 0, (flat ps).getD (0 + (↑i : Int).toNat * (2 : Nat) + 1) 0) (ptsA o.length (flat o))).length), .int .i64 (IntKind.i64.wrap ((↑i : Int) + 1)), topV, topV, topV, topV, topV, topV, topV, topV, topV, topV, topV, topV, topV, topV], [some ⟨.view, .ints (flat ps)⟩, some deadB, some deadB, some ⟨.row 30 2, .ints (flat (insP ((flat ps).getD (0 + (↑i : Int).toNat * (2 : Nat)) 0, (flat ps).getD (0 + (↑i : Int).toNat * (2 : Nat) + 1) 0) (ptsA o.length (flat o))))⟩]⟩))))) (.leaf (.exit 0) ⟨[topV, topV, topV, .slice (some ⟨2, 0, none⟩) (o.length) (o.length), topV, topV, topV, topV, topV, topV, topV, topV, topV, topV, topV, topV, topV, topV, topV], [some ⟨.view, .ints (flat ps)⟩, some deadB, some ⟨.row 30 2, .ints (flat o)⟩]⟩) := by kernel_rfl
set_option maxRecDepth 100000 in
theorem nl_srt : loopsOf c_srt = [] := by kernel_rfl
def inv_srt (ps : List Pt) : Nat × (List Pt) → Prop := fun (i, o) => i ≤ ps.length ∧ o.length ≤ i
def me_srt (ps : List Pt) : Nat × (List Pt) → Nat := fun (i, o) => ps.length - i
/-- A round of this loop. -/
def Round_srt (ps : List Pt) : Prop := ∀ xx : Nat × (List Pt), inv_srt ps xx → (bodyL Try.prog ESo 30 12 noL 1 c_srt k_srt 5 (s_srt ps xx)).ok (RoundEnd 2 (s_srt ps) (inv_srt ps) (me_srt ps) re_srt (rs_srt ps) xx) (fun _ _ => False)
def e_srt (s : St) (k : Ex → St → Tree) : Option Tree := match Nat.beq s.tmps.length 19, pickL s.tmps [0, 3, 4], s.mem with
  | true, [.slice (some ⟨0, 0, none⟩) n _, .slice (some ⟨1, 0, none⟩) z _, .int .i64 ii], [some ⟨.view, .ints xs⟩, some ⟨.row 30 2, .vals []⟩] => some (needs [ii = 0, z = 0, xs.length = n * 2, n ≤ 1000] (k (.exit 0) ⟨[topV, topV, topV, .slice (some ⟨2, 0, none⟩) (srtO [] ((ptsA n xs).drop 0)).length (srtO [] ((ptsA n xs).drop 0)).length, topV, topV, topV, topV, topV, topV, topV, topV, topV, topV, topV, topV, topV, topV, topV], [some ⟨.view, .ints xs⟩, some ⟨.dead, .vals []⟩, some ⟨.row 30 2, .ints (flat (srtO [] ((ptsA n xs).drop 0)))⟩]⟩))
  | _, _, _ => none
set_option maxRecDepth 100000 in
theorem round_srt (ps : List Pt) (h : ps.length ≤ 1000) : Round_srt ps := by
  rintro ⟨i, o⟩ ⟨h1, h2⟩
  rw [tr_srt]
  simp only [brT_ok, Tree.ok, decide_eq_true_eq, decide_eq_false_iff_not, Int.toNat_natCast, Nat.zero_add, flat_length, flat_get0, flat_get1, ptsA_flat]
  refine ⟨fun hlt => ⟨by omega, by omega, trivial, by omega, ?_⟩, fun hge => ?_⟩
  · rw [wsucc (n := ps.length) (by omega) (by omega)]
    have hd : ps.drop i = ps.getD i (0, 0) :: ps.drop (i + 1) := drop_cons (by omega) _
    have hle := insP_le (ps.getD i (0, 0)) o
    have e : srtO o (ps.drop i) = srtO (insP (ps.getD i (0, 0)) o) (ps.drop (i + 1)) := by rw [hd]; rfl
    refine ⟨(i + 1, insP (ps.getD i (0, 0)) o), [some 3], ⟨by omega, by omega⟩, ?_, rfl, ?_, ?_⟩
    · show ps.length - (i + 1) < ps.length - i; omega
    · simp only [rs_srt, e]
    · repeat' (first | exact True.intro | exact rfl | exact fun _ => rfl | (simp; done) | refine And.intro ?_ ?_)
  · have e : srtO o (ps.drop i) = o := by rw [List.drop_of_length_le (by omega)]; rfl
    refine ⟨rfl, [some 2], ?_⟩
    simp only [rs_srt, e]
    repeat' (first | exact True.intro | exact rfl | exact fun _ => rfl | (simp; done) | refine And.intro ?_ ?_)
set_option maxRecDepth 100000 in
theorem lg_srt : LoopE Try.prog e_srt c_srt := by
  intro s k t F H hlt ht
  unfold e_srt at hlt
  split at hlt
  rotate_left
  · cases hlt
  rename_i hlen hpick hmem
  obtain ⟨tmps, mem⟩ := s
  simp only at hlen hpick hmem
  subst hmem
  obtain rfl := Option.some.inj hlt
  obtain ⟨⟨rfl, rfl, h1, h2, _⟩, ht2⟩ := needs_ok ht
  clear ht hlt
  obtain ⟨ps, rfl, rfl⟩ := even_flat h1
  rw [ptsA_flat] at ht2
  refine ⟨_, _, ht2, loop_run2 mixed ESo_ok (s_srt _) (inv_srt _) (me_srt _) re_srt (rs_srt _) k_srt (fun _ => rfl) (noLoops nl_srt) (round_srt _ h2) (x := (0, [])) ⟨Nat.zero_le _, Nat.le_refl _⟩ (π := [some 1]) rfl ?_⟩
  refine ⟨rfl, rfl, ?_, wvs_spread' [0, 3, 4] hlen rfl ?_⟩
  · repeat' (first | exact True.intro | exact rfl | exact wv_top _ _ | exact fun _ => rfl | assumption | exact Eq.symm (by assumption) | exact vI0 rfl | refine And.intro ?_ ?_)
  · rw [hpick]
    repeat' (first | exact True.intro | exact rfl | exact wv_top _ _ | exact fun _ => rfl | assumption | exact Eq.symm (by assumption) | exact vI0 rfl | refine And.intro ?_ ?_)
theorem Lr_srt {fn : Func} (hf : Try.prog.funcs[125]? = some fn) : LoopsGood Try.prog (lt1 e_srt) 0 (codeOf fn) := by
  obtain rfl := fn_is Try.func125 hf
  exact lt1_good lg_srt
def LSr : FuncId → LT := fun f => match f with
  | 125 => lt1 e_srt
  | _ => noL
def ESr : Env := withT (mkE TOl (fun _ _ => none) LSr) JAd
theorem ESr_ok : EnvOk Try.prog ESr := withT_ok (mkEOk TOl_ok (fun _ _ _ _ _ h => (by cases h)) (by
  intro f fn hf
  unfold LSr
  split
  all_goals first | with_reducible exact Lr_srt hf | exact noL_good)) JAd_ok
set_option maxRecDepth 100000 in
theorem tr_srtF (ps : List Pt) : bodyX Try.prog ESr 30 12 125 [.row ps.length (.ints (flat ps))] = .need ((0 : Int) = (0 : Int)) (.need ((0 : Nat) = (0 : Nat)) (.need ((flat ps).length = ps.length * (2 : Nat)) (.need (ps.length ≤ (1000 : Nat)) (.fin (.slice (some ⟨2, 0, none⟩) ((srtO [] (List.drop 0 (ptsA ps.length (flat ps)))).length) ((srtO [] (List.drop 0 (ptsA ps.length (flat ps)))).length)) [some ⟨.view, .ints (flat ps)⟩, some deadB, some ⟨.row 30 2, .ints (flat (srtO [] (List.drop 0 (ptsA ps.length (flat ps)))))⟩])))) := by kernel_rfl
abbrev rowP (ps : List Pt) : Value := .slice (some ⟨0, 0, none⟩) ps.length ps.length
abbrev blkP (ps : List Pt) : Blk := ⟨.row 30 2, .ints (flat ps)⟩
theorem resR_srt (ps : List Pt) (h : ps.length ≤ 1000) : ResR Try.prog 125 [.row ps.length (.ints (flat ps))] (rowP (srtL ps)) (blkP (srtL ps)) := by
  refine bodyX_resR mixed ESr_ok (m := 30) (n := 12) rfl ?_
  rw [tr_srtF]
  simp only [List.drop_zero, ptsA_flat, flat_length]
  exact ⟨trivial, trivial, trivial, h, some 2, ⟨rfl, rfl, rfl⟩, rfl, rfl, rfl⟩
end Go.Proofs.Ytnjmepbblcfnfaa
namespace Go.Proofs.Ytnjmepbblcfnfaa
set_option linter.all false
open Go.RowKit
/-- Names that are looked at alone. -/
def vwK : BK → BK
  | .dead => .dead
  | _ => .view
theorem BlkOk.view {ρ : Nat → Option Pl} {B : Nat → Prop} {w : World} {n : Nat} {b : Blk} (h : BlkOk ρ B w n b) : BlkOk ρ B w n ⟨vwK b.kind, b.cs⟩ := by
  obtain ⟨kd, cs⟩ := b
  have cell : ∀ (g k : Nat) (arr : Array Value) (e z v), w.heap[g]? = some (.cells arr e z) → arr[k]? = some v → w.cell? ⟨g, 0 + k, none⟩ = some v := fun g k arr e z v h1 h2 => by
    rw [Nat.zero_add]
    simp only [World.cell?, h1]
    exact h2
  cases kd with
  | dead => trivial
  | view => exact h
  | box =>
    obtain ⟨g, h1, h2, cs', e, h3, h4, h5⟩ := h
    refine .inr ⟨g, 0, none, h1, .inl rfl, heap_lt h3, fun k v hv => ?_⟩
    obtain ⟨v', k1, k2⟩ := h5 k v hv
    exact ⟨v', cell _ _ _ _ _ _ h3 k1, k2⟩
  | row e sz =>
    rcases h with ⟨p, h1, h2, h3⟩ | ⟨g, cap, h1, h2, cs', h3, h4, h5⟩
    · exact .inl ⟨p, h1, h2, 0, h3⟩
    · refine .inr ⟨g, 0, some cap, h1, .inl rfl, heap_lt h3, fun k v hv => ?_⟩
      obtain ⟨v', k1, k2⟩ := h5 k v hv
      exact ⟨v', cell _ _ _ _ _ _ h3 k1, k2⟩
theorem BelowK.less {K K' : Nat → Prop} {w w' : World} (h : BelowK K w w') (hk : ∀ k, K' k → K k) : BelowK K' w w' := ⟨h.os, h.tape, h.output, h.size, fun k hk' => h.block k (hk k hk')⟩
theorem BelowK.putObj {K : Nat → Prop} {w w' : World} (h : BelowK K w w') {l : Nat} (o : Obj) (hl : ¬ K l) : BelowK K w (w'.putObj l o) := h.trans ⟨rfl, rfl, rfl, by simp, fun k hk => World.putObj_heap_other (fun e => hl (by rw [← e]; exact hk))⟩
theorem BelowK.grown {K : Nat → Prop} {w w' w'' : World} (h : BelowK K w w') (hK : ∀ k, K k → k < w.heap.size) (hg : w'.grownBy w'' none) : BelowK K w w'' := h.trans ⟨hg.os, hg.tape, hg.output, hg.size, fun k hk => hg.block k (Nat.lt_of_lt_of_le (hK k hk) h.size) (by simp)⟩
theorem Conc.grown {w0 : Start} {s : FS} {a : Act} {w w' : World} (h : Conc w0 s a w) (hg : w.grownBy w' none) : Conc w0 s a w' := by
  obtain ⟨c1, c2, c3, ρ, ht, hm⟩ := h
  exact ⟨c1, c2, c3.grown w0.kpl hg, ρ, ht, hm.grown hg.size fun k o ho _ => hg.block k (heap_lt ho) (by simp)⟩
theorem Conc.putObj {w0 : Start} {s : FS} {a : Act} {w : World} (h : Conc w0 s a w) {l : Nat} {o : Obj} (o' : Obj) (hl : ¬ w0.kp l) (ho : w.heap[l]? = some o) (hc : o.isCells = false) : Conc w0 s a (w.putObj l o') := by
  obtain ⟨c1, c2, c3, ρ, ht, hm⟩ := h
  refine ⟨c1, c2, c3.putObj o' hl, ρ, ht, hm.grown (by simp) fun k o2 ho2 hc2 => World.putObj_heap_other fun e => ?_⟩
  rw [e, ho] at ho2
  cases ho2
  rw [hc] at hc2
  cases hc2
section
variable {P : Program} {ps : List Nat} {assign body : Code} {enc : Nat → List Value} {St_of : Nat → St} {Good : Nat → Prop} {re : Ex} {rs : St} {N M len : Nat} {keep : Ex → List Nat}
end
end Go.Proofs.Ytnjmepbblcfnfaa
namespace Go.Proofs.Ytnjmepbblcfnfaa
set_option linter.all false
open Go.RowKit
/-- The next place of a closed path. -/
def nxP (ps : List Pt) (j : Nat) : Pt := ps.getD ((j + 1) % ps.length) (0, 0)
/-- Two tables, one after the other. -/
def orT (A B : Tab) : Tab := fun f ds => match A f ds with
  | some x => some x
  | none => B f ds
theorem orT_ok {P : Program} {A B : Tab} (hA : TabOk P A) (hB : TabOk P B) : TabOk P (orT A B) := by
  intro f ds v C h hC
  unfold orT at h
  split at h
  · rename_i x hx
    obtain rfl : x = (v, C) := by simpa using h
    exact hA _ _ _ _ hx hC
  · exact hB _ _ _ _ h hC
end Go.Proofs.Ytnjmepbblcfnfaa
namespace Go.Proofs.Ytnjmepbblcfnfaa
set_option linter.all false
open Go.RowKit
def crP (a b c : Pt) : Int := crossI a.1 a.2 b.1 b.2 c.1 c.2
/-- How many of so many points stay on the stack ahead of another one. -/
def popN (st : List Pt) (p : Pt) : Nat → Nat
  | 0 => 0
  | 1 => 1
  | j + 2 => if crP (st.getD j (0, 0)) (st.getD (j + 1) (0, 0)) p ≤ 0 then popN st p (j + 1) else j + 2
def pushP (st : List Pt) (p : Pt) : List Pt := st.take (popN st p st.length) ++ [p]
def chn (st ps : List Pt) : List Pt := ps.foldl pushP st
theorem popN_le (st : List Pt) (p : Pt) : ∀ j, popN st p j ≤ j
  | 0 => Nat.le_refl _
  | 1 => Nat.le_refl _
  | j + 2 => by
    have := popN_le st p (j + 1)
    simp only [popN]
    split <;> omega
theorem pushP_len (st : List Pt) (p : Pt) : (pushP st p).length ≤ st.length + 1 := by
  unfold pushP
  simp
  omega
theorem allV_at {ps : List Pt} (h : allV ps = true) {j : Nat} (hj : j < ps.length) : ptB (ps.getD j (0, 0)).1 (ps.getD j (0, 0)).2 = true := List.all_eq_true.1 h (ps.getD j (0, 0)) (by simp [hj])
theorem allV_push {st : List Pt} {p : Pt} (h : allV st = true) (hp : ptB p.1 p.2 = true) : allV (pushP st p) = true := by
  unfold pushP
  refine List.all_eq_true.2 fun z hz => ?_
  rcases List.mem_append.1 hz with hz | hz
  · exact List.all_eq_true.1 h z (List.mem_of_mem_take hz)
  · obtain rfl : z = p := by simpa using hz
    exact hp
theorem chn_len : ∀ (ps st : List Pt), (chn st ps).length ≤ st.length + ps.length
  | [], st => Nat.le_refl _
  | p :: r, st => by
    have h1 := chn_len r (pushP st p)
    have h2 := pushP_len st p
    simp only [chn, List.foldl_cons, List.length_cons] at h1 ⊢
    omega
theorem pushP_len1 (st : List Pt) (p : Pt) : (pushP st p).length = popN st p st.length + 1 := by
  have := popN_le st p st.length
  unfold pushP
  simp
  omega
def revP (ps : List Pt) : List Pt := ps.reverse
theorem getD_rev {ps : List Pt} {k : Nat} (h : k < ps.length) : ps.reverse.getD k (0, 0) = ps.getD (ps.length - 1 - k) (0, 0) := by
  simp [List.getD, h, show ps.length - 1 - k < ps.length by omega]
theorem ext_getD {a b : List Pt} (hl : a.length = b.length) (h : ∀ k, k < a.length → a.getD k (0, 0) = b.getD k (0, 0)) : a = b := by
  refine List.ext_getElem hl fun k h1 h2 => ?_
  have := h k h1
  simpa [List.getD, h1, h2] using this
end Go.Proofs.Ytnjmepbblcfnfaa
namespace Go.Proofs.Ytnjmepbblcfnfaa
set_option linter.all false
open Go.RowKit
/-- The vertices of the hull of points in order. -/
def hulL (s : List Pt) : List Pt := if s.length < 3 then s else (chn [] s).take ((chn [] s).length - 1) ++ (chn [] (revP s)).take ((chn [] (revP s)).length - 1)
theorem chn_pos : ∀ {ps st : List Pt}, 0 < st.length ∨ 0 < ps.length → 0 < (chn st ps).length
  | [], st, h => by simpa [chn] using h
  | p :: r, st, _ => by
    have h1 := pushP_len1 st p
    have := chn_pos (ps := r) (st := pushP st p) (.inl (by omega))
    exact this
theorem allV_rev {ps : List Pt} (h : allV ps = true) : allV (revP ps) = true := List.all_eq_true.2 fun z hz => List.all_eq_true.1 h z (List.mem_reverse.1 hz)
theorem revP_len (ps : List Pt) : (revP ps).length = ps.length := List.length_reverse ..
theorem hul_two {s : List Pt} (h : s.length = 2) : (chn [] s).take ((chn [] s).length - 1) ++ (chn [] (revP s)).take ((chn [] (revP s)).length - 1) = s := by
  match s, h with
  | [a, b], _ => rfl
theorem popN_pos (st : List Pt) (p : Pt) : ∀ j, 1 ≤ j → 1 ≤ popN st p j
  | 0, h => by omega
  | 1, _ => Nat.le_refl _
  | j + 2, _ => by
    have := popN_pos st p (j + 1) (by omega)
    simp only [popN]
    split <;> omega
theorem chn_two : ∀ {ps st : List Pt}, 2 ≤ st.length ∨ (1 ≤ st.length ∧ 1 ≤ ps.length) → 2 ≤ (chn st ps).length
  | [], st, h => by
    show 2 ≤ st.length
    simpa using h
  | p :: r, st, h => by
    have h0 : 1 ≤ st.length := by omega
    have h1 := pushP_len1 st p
    have h2 := popN_pos st p st.length h0
    exact chn_two (ps := r) (st := pushP st p) (.inl (by omega))
theorem chn_ge {s : List Pt} (h : 2 ≤ s.length) : 2 ≤ (chn [] s).length := by
  match s, h with
  | a :: b :: r, _ => exact chn_two (ps := b :: r) (st := pushP [] a) (.inr ⟨by rw [pushP_len1]; exact Nat.le_add_left _ _, by simp⟩)
theorem hulL_len {s : List Pt} (h : s.length ≤ 20) : (hulL s).length ≤ 40 := by
  have c1 := chn_len s []
  have c2 := chn_len (revP s) []
  have r1 := revP_len s
  simp only [List.length_nil, Nat.zero_add] at c1 c2
  unfold hulL
  split
  · omega
  · simp only [List.length_append, List.length_take]
    omega
end Go.Proofs.Ytnjmepbblcfnfaa
