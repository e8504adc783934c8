/-
  Texts that the proof needs, merged. Written by an AI agent.
-/
import Derived.Orders
import Derived.Below
import Derived.OrdersIn
import Derived.Deep.LoopGhost
import Derived.WalkKit
import Derived.Laws.CopyRow
import Derived.Laws.AppendOwn
import Derived.Laws.Slices
import Derived.Laws.MakeOwn
import Derived.Test.YtnjmepbblcfnfaaRows
import Derived.ProofKit
import Derived.OpenShut
import Derived.Carry
import Derived.IntWalk
import Derived.Test.YtnjmepbblcfnfaaProg
import Derived.WalkSpells
import Derived.WalkLawsBesides
import Derived.Lib.Hide
import Derived.Deep.QuietTactic
import Derived.BigQuiet
import Derived.KernelRfl
import Derived.Deep.RegionHeld3
import Derived.LoopTactic
import Derived.Laws.StructEq
import Derived.Laws.Tables
import Derived.RangeFuncNested
import Derived.RangeFuncLeaves
import Derived.Deep.Slices
import Derived.Deep.Fields
import Derived.ChangeSame
import Derived.Deep.DeepCutAuto
import Derived.Test.YtnjmepbblcfnfaaZMaximaExtreme2
namespace Go.Proofs.Ytnjmepbblcfnfaa
set_option linter.all false
open Go.RowKit
abbrev iv (x : Int) : Value := .int .i64 x
def B0 : Tab := fun _ _ => none
theorem B0_ok : TabOk Try.prog B0 := fun _ _ _ _ h => by cases h
theorem mixed : Try.prog.follows .mixedOrders = true := by kernel_rfl
set_option maxRecDepth 100000 in
theorem tr_specValid (x y : Int) : runX Try.prog (tabE B0) 30 8 108 [.v (.agg #[iv x, iv y])] (fun u => .fin u []) = brT (decide (-1000 ≤ x)) (brT (decide (x ≤ 1000)) (brT (decide (-1000 ≤ y)) (.fin (.bool (decide (y ≤ 1000))) []) (.fin (.bool (false)) [])) (.fin (.bool (false)) [])) (.fin (.bool (false)) []) := by kernel_rfl
set_option maxRecDepth 100000 in
theorem tr_implValid (x y : Int) : runX Try.prog (tabE B0) 30 8 52 [.v (.agg #[iv x, iv y])] (fun u => .fin u []) = brT (decide (IntKind.i64.wrap (0 - 1000) ≤ x)) (brT (decide (x ≤ 1000)) (brT (decide (IntKind.i64.wrap (0 - 1000) ≤ y)) (.fin (.bool (decide (y ≤ 1000))) []) (.fin (.bool (false)) [])) (.fin (.bool (false)) [])) (.fin (.bool (false)) []) := by kernel_rfl
set_option maxRecDepth 100000 in
theorem tr_compare (x y : Int) : runX Try.prog (tabE B0) 30 8 129 [.v (iv x), .v (iv y)] (fun u => .fin u []) = brT (!x == x) (brT (!y == y) (.fin (.int .i64 (0)) []) (.fin (.int .i64 (-1)) [])) (brT (!y == y) (.fin (.int .i64 (1)) []) (brT (decide (x < y)) (.fin (.int .i64 (-1)) []) (brT (decide (y < x)) (.fin (.int .i64 (1)) []) (.fin (.int .i64 (0)) [])))) := by kernel_rfl
set_option maxRecDepth 100000 in
theorem tr_specSign (x : Int) : runX Try.prog (tabE B0) 30 8 145 [.v (iv x)] (fun u => .fin u []) = brT (decide (x < 0)) (.fin (.int .i64 (-1)) []) (brT (decide (0 < x)) (.fin (.int .i64 (1)) []) (.fin (.int .i64 (0)) [])) := by kernel_rfl
set_option maxRecDepth 100000 in
theorem tr_implSign (x : Int) : runX Try.prog (tabE B0) 30 8 77 [.v (iv x)] (fun u => .fin u []) = brT (!x == x) (.fin (.int .i64 (-1)) []) (brT (decide (x < 0)) (.fin (.int .i64 (-1)) []) (brT (decide (0 < x)) (.fin (.int .i64 (1)) []) (.fin (.int .i64 (0)) []))) := by kernel_rfl
theorem w1000 : IntKind.i64.wrap (0 - 1000) = -1000 := by decide
/-- The comparison of two numbers. -/
def cmpI (x y : Int) : Int := if x < y then -1 else if y < x then 1 else 0
theorem vbool_eq {a b : Bool} (h : a = b) : Value.bool a = .bool b := by rw [h]
theorem res_specValid (x y : Int) : Res Try.prog 108 [.v (.agg #[iv x, iv y])] (.bool (ptB x y)) := by
  refine res_of mixed (tabE_ok B0_ok) (m := 30) (n := 8) ?_
  rw [tr_specValid]
  simp only [brT_ok, Tree.ok, decide_eq_true_eq, decide_eq_false_iff_not]
  repeat' (first | apply And.intro | intro _)
  all_goals (refine vbool_eq ?_; unfold ptB; rw [Bool.eq_iff_iff]; simp; try omega)
theorem res_implValid (x y : Int) : Res Try.prog 52 [.v (.agg #[iv x, iv y])] (.bool (ptB x y)) := by
  refine res_of mixed (tabE_ok B0_ok) (m := 30) (n := 8) ?_
  rw [tr_implValid]
  simp only [brT_ok, Tree.ok, decide_eq_true_eq, decide_eq_false_iff_not, w1000]
  repeat' (first | apply And.intro | intro _)
  all_goals (refine vbool_eq ?_; unfold ptB; rw [Bool.eq_iff_iff]; simp; try omega)
theorem res_compare (x y : Int) : Res Try.prog 129 [.v (iv x), .v (iv y)] (iv (cmpI x y)) := by
  refine res_of mixed (tabE_ok B0_ok) (m := 30) (n := 8) ?_
  rw [tr_compare]
  simp [brT_ok, Tree.ok]
  repeat' (first | apply And.intro | intro _)
  all_goals (unfold cmpI; split <;> (try split) <;> omega)
theorem res_specSign (x : Int) : Res Try.prog 145 [.v (iv x)] (iv (cmpI x 0)) := by
  refine res_of mixed (tabE_ok B0_ok) (m := 30) (n := 8) ?_
  rw [tr_specSign]
  simp [brT_ok, Tree.ok]
  repeat' (first | apply And.intro | intro _)
  all_goals (unfold cmpI; split <;> (try split) <;> omega)
theorem res_implSign (x : Int) : Res Try.prog 77 [.v (iv x)] (iv (cmpI x 0)) := by
  refine res_of mixed (tabE_ok B0_ok) (m := 30) (n := 8) ?_
  rw [tr_implSign]
  simp [brT_ok, Tree.ok]
  repeat' (first | apply And.intro | intro _)
  all_goals (unfold cmpI; split <;> (try split) <;> omega)
end Go.Proofs.Ytnjmepbblcfnfaa
namespace Go.Proofs.Ytnjmepbblcfnfaa
set_option linter.all false
open Go.RowKit
theorem entersB_res {f : FuncId} (h : entersB Try.prog f = true) : enters Try.prog f ∧ Try.prog.inits.idxOf? f = none := by
  unfold entersB at h
  split at h
  · rename_i fn hf
    obtain ⟨h1, h2, _⟩ := entersB_spec hf (by unfold entersB; rw [hf]; exact h)
    exact ⟨h1, h2⟩
  · cases h
/-- A contract of a function of plain values, as it stands. -/
theorem res_calls {f : FuncId} {args : List Value} {v : Value} (he : entersB Try.prog f = true) (hp : args.all plainV = true) (hv : plainV v = true) (h : ∀ w, Calls Try.prog f args.toArray w fun e w' => e = .returned v ∧ Below w.heap.size w w') : Res Try.prog f (args.map .v) v := by
  obtain ⟨h1, h2⟩ := entersB_res he
  refine ⟨h1, h2, hv, fun d hd => ?_, fun w ys hd => ?_⟩
  · obtain ⟨x, hx, rfl⟩ := List.mem_map.1 hd
    exact List.all_eq_true.1 hp x hx
  · have e : ys = args.toArray := by
      apply Array.ext
      · simpa using hd.1.symm
      · intro i i1 i2
        have e1 : (args.map DArg.v)[i]? = some (.v (args[i]'(by simpa using i2))) := by simp
        exact (hd.2 i _ ys[i] e1 (by simp [i1])).2
    rw [e]
    exact h w
theorem below_same {f : FuncId} {args : Array Value} {w : World} {v : Value} (h : Calls Try.prog f args w fun e w' => e = .returned v ∧ w = w') : Calls Try.prog f args w fun e w' => e = .returned v ∧ Below w.heap.size w w' :=
  h.mono fun _ _ ⟨he, hw⟩ => ⟨he, by subst hw; exact Below.refl _ _⟩
def big (x : Int) : Prop := -4500000000000000000 ≤ x ∧ x ≤ 4500000000000000000
def pPt : List DArg → Option (Value × List Prop)
  | [.v (.agg ⟨[.int .i64 x, .int .i64 y]⟩)] => some (.bool (ptB x y), [])
  | _ => none
def pCmp : List DArg → Option (Value × List Prop)
  | [.v (.int .i64 x), .v (.int .i64 y)] => some (iv (cmpI x y), [])
  | _ => none
def pSign : List DArg → Option (Value × List Prop)
  | [.v (.int .i64 x)] => some (iv (cmpI x 0), [])
  | _ => none
def pAbs : List DArg → Option (Value × List Prop)
  | [.v (.int .i64 x)] => some (iv (x.natAbs : Int), [big x])
  | _ => none
def pAll : List DArg → Option (Value × List Prop)
  | [.row 2 (.vals [.int .i64 ax, .int .i64 ay, .int .i64 bx, .int .i64 b_y])] => some (.bool (ptB ax ay && ptB bx b_y), [])
  | [.row 3 (.vals [.int .i64 ax, .int .i64 ay, .int .i64 bx, .int .i64 b_y, .int .i64 cx, .int .i64 cy])] => some (.bool (ptB ax ay && ptB bx b_y && ptB cx cy), [])
  | [.row 4 (.vals [.int .i64 ax, .int .i64 ay, .int .i64 bx, .int .i64 b_y, .int .i64 cx, .int .i64 cy, .int .i64 dx, .int .i64 dy])] => some (.bool (ptB ax ay && ptB bx b_y && (ptB cx cy && ptB dx dy)), [])
  | _ => none
def T1 : Tab := fun f ds => match f with
  | 108 => pPt ds
  | 52 => pPt ds
  | 129 => pCmp ds
  | 145 => pSign ds
  | 77 => pSign ds
  | 139 => pAbs ds
  | 89 => pAll ds
  | _ => none
theorem row_open {w : World} {l : Nat} {cs : Cs} {y : Value} (hl : 0 < l) (h : DOk w (.row l cs) y) : ∃ g f c', y = .slice (some ⟨g, f, none⟩) l c' ∧ l ≤ c' ∧ g < w.heap.size ∧ ∀ (k : Nat) v, cs.list[k]? = some v → w.cell? ⟨g, f + k, none⟩ = some v := by
  obtain ⟨_, ad, c', h1, h2, h3⟩ := h
  obtain ⟨g, f, rfl, h4, h5⟩ := h3.resolve_left (by omega)
  exact ⟨g, f, c', h1, h2, h4, h5⟩
theorem res_row {f : FuncId} {l : Nat} {cs : Cs} {v : Value} (hl : 0 < l) (he : entersB Try.prog f = true) (hv : plainV v = true) (hat : allAtoms cs = true) (h : ∀ w g o c', l ≤ c' → g < w.heap.size → (∀ (k : Nat) v, cs.list[k]? = some v → w.cell? ⟨g, o + k, none⟩ = some v) →
    Calls Try.prog f #[.slice (some ⟨g, o, none⟩) l c'] w fun e w' => e = .returned v ∧ Below w.heap.size w w') : Res Try.prog f [.row l cs] v := by
  obtain ⟨h1, h2⟩ := entersB_res he
  refine ⟨h1, h2, hv, fun d hd => ?_, fun w ys hd => ?_⟩
  · obtain rfl : d = .row l cs := by simpa using hd
    exact hat
  · have hs := hd.1
    have h0 : ys[0]? = some (ys[0]'(by simp at hs; omega)) := by simp
    obtain ⟨g, o, c', e1, e2, e3, e4⟩ := row_open hl (hd.2 0 _ _ rfl h0)
    have e : ys = #[.slice (some ⟨g, o, none⟩) l c'] := by
      apply Array.ext
      · simpa using hs.symm
      · intro i i1 i2
        have : i = 0 := by simp at i2; omega
        subst this
        simpa using e1
    rw [e]
    exact h w g o c' e2 e3 e4
theorem T1r_0 {ds : List DArg} {v : Value} {C : List Prop} (h : pPt ds = some (v, C)) (hC : AllP C) : Res Try.prog 108 ds v := by
  unfold pPt at h
  split at h
  · obtain ⟨rfl, rfl⟩ : _ ∧ _ := by simpa using h
    exact res_specValid _ _
  · cases h
theorem T1r_1 {ds : List DArg} {v : Value} {C : List Prop} (h : pPt ds = some (v, C)) (hC : AllP C) : Res Try.prog 52 ds v := by
  unfold pPt at h
  split at h
  · obtain ⟨rfl, rfl⟩ : _ ∧ _ := by simpa using h
    exact res_implValid _ _
  · cases h
theorem T1r_2 {ds : List DArg} {v : Value} {C : List Prop} (h : pCmp ds = some (v, C)) (hC : AllP C) : Res Try.prog 129 ds v := by
  unfold pCmp at h
  split at h
  · obtain ⟨rfl, rfl⟩ : _ ∧ _ := by simpa using h
    exact res_compare _ _
  · cases h
theorem T1r_3 {ds : List DArg} {v : Value} {C : List Prop} (h : pSign ds = some (v, C)) (hC : AllP C) : Res Try.prog 145 ds v := by
  unfold pSign at h
  split at h
  · obtain ⟨rfl, rfl⟩ : _ ∧ _ := by simpa using h
    exact res_specSign _
  · cases h
theorem T1r_4 {ds : List DArg} {v : Value} {C : List Prop} (h : pSign ds = some (v, C)) (hC : AllP C) : Res Try.prog 77 ds v := by
  unfold pSign at h
  split at h
  · obtain ⟨rfl, rfl⟩ : _ ∧ _ := by simpa using h
    exact res_implSign _
  · cases h
theorem T1r_6 {ds : List DArg} {v : Value} {C : List Prop} (h : pAbs ds = some (v, C)) (hC : AllP C) : Res Try.prog 139 ds v := by
  unfold pAbs at h
  split at h
  · obtain ⟨rfl, rfl⟩ : _ ∧ _ := by simpa using h
    exact res_calls (by kernel_rfl) rfl rfl fun w => below_same (abs_any _ w (by have := hC.1.1; omega))
  · cases h
theorem T1r_10 {ds : List DArg} {v : Value} {C : List Prop} (h : pAll ds = some (v, C)) (hC : AllP C) : Res Try.prog 89 ds v := by
  unfold pAll at h
  split at h
  · rename_i ax ay bx b_y
    obtain ⟨rfl, rfl⟩ : _ ∧ _ := by simpa using h
    refine res_row (by decide) (by kernel_rfl) rfl rfl fun w g o c' _ hg hcell => ?_
    have := allValid_any (some ⟨g, o, none⟩) 2 c' (pick2 ax bx) (pick2 ay b_y) w (by omega) (fun k hk => ⟨g, o, rfl, hg, by
      match k, hk with
      | 0, _ => exact ⟨hcell 0 _ rfl, hcell 1 _ rfl⟩
      | 1, _ => exact ⟨hcell 2 _ rfl, hcell 3 _ rfl⟩⟩)
    rw [allB2] at this
    exact this
  · rename_i ax ay bx b_y cx cy
    obtain ⟨rfl, rfl⟩ : _ ∧ _ := by simpa using h
    refine res_row (by decide) (by kernel_rfl) rfl rfl fun w g o c' _ hg hcell => ?_
    have := allValid_any (some ⟨g, o, none⟩) 3 c' (pick3 ax bx cx) (pick3 ay b_y cy) w (by omega) (fun k hk => ⟨g, o, rfl, hg, by
      match k, hk with
      | 0, _ => exact ⟨hcell 0 _ rfl, hcell 1 _ rfl⟩
      | 1, _ => exact ⟨hcell 2 _ rfl, hcell 3 _ rfl⟩
      | 2, _ => exact ⟨hcell 4 _ rfl, hcell 5 _ rfl⟩⟩)
    rw [allB3] at this
    exact this
  · rename_i ax ay bx b_y cx cy dx dy
    obtain ⟨rfl, rfl⟩ : _ ∧ _ := by simpa using h
    refine res_row (by decide) (by kernel_rfl) rfl rfl fun w g o c' _ hg hcell => ?_
    have := allValid_any (some ⟨g, o, none⟩) 4 c' (fun k => match k with
      | 0 => ax
      | 1 => bx
      | 2 => cx
      | _ => dx) (fun k => match k with
      | 0 => ay
      | 1 => b_y
      | 2 => cy
      | _ => dy) w (by omega) (fun k hk => ⟨g, o, rfl, hg, by
      match k, hk with
      | 0, _ => exact ⟨hcell 0 _ rfl, hcell 1 _ rfl⟩
      | 1, _ => exact ⟨hcell 2 _ rfl, hcell 3 _ rfl⟩
      | 2, _ => exact ⟨hcell 4 _ rfl, hcell 5 _ rfl⟩
      | 3, _ => exact ⟨hcell 6 _ rfl, hcell 7 _ rfl⟩⟩)
    rw [allB_succ, allB_succ, allB_succ, allB_succ, allB_zero] at this
    simpa [Bool.and_assoc] using this
  · cases h
theorem T1_ok : TabOk Try.prog T1 := by
  intro f ds v C h hC
  unfold T1 at h
  (try split at h)
  all_goals first | with_reducible exact T1r_0 h hC | with_reducible exact T1r_1 h hC | with_reducible exact T1r_2 h hC | with_reducible exact T1r_3 h hC | with_reducible exact T1r_4 h hC | with_reducible exact T1r_5 h hC | with_reducible exact T1r_6 h hC | with_reducible exact T1r_7 h hC | with_reducible exact T1r_8 h hC | with_reducible exact T1r_9 h hC | with_reducible exact T1r_10 h hC | cases h
end Go.Proofs.Ytnjmepbblcfnfaa
namespace Go.Proofs.Ytnjmepbblcfnfaa
set_option linter.all false
open Go.RowKit
abbrev Pt := Int × Int
def flat : List Pt → List Int
  | [] => []
  | p :: r => p.1 :: p.2 :: flat r
def pts : List Int → List Pt
  | a :: b :: r => (a, b) :: pts r
  | _ => []
theorem pts_flat : ∀ ps, pts (flat ps) = ps
  | [] => rfl
  | p :: r => by simp [flat, pts, pts_flat r]
theorem flat_length : ∀ ps, (flat ps).length = ps.length * 2
  | [] => rfl
  | p :: r => by simp [flat, flat_length r]; omega
theorem flat_pts : ∀ (n : Nat) (xs : List Int), xs.length = n * 2 → flat (pts xs) = xs ∧ (pts xs).length = n
  | 0, xs, h => by
    obtain rfl : xs = [] := List.eq_nil_of_length_eq_zero (by omega)
    exact ⟨rfl, rfl⟩
  | n + 1, xs, h => by
    match xs, h with
    | a :: b :: r, h =>
      obtain ⟨h1, h2⟩ := flat_pts n r (by simp at h; omega)
      exact ⟨by simp [pts, flat, h1], by simp [pts, h2]⟩
    | [a], h => simp at h; omega
    | [], h => simp at h
theorem even_flat {n : Nat} {xs : List Int} (h : xs.length = n * 2) : ∃ ps : List Pt, xs = flat ps ∧ ps.length = n :=
  ⟨pts xs, (flat_pts n xs h).1.symm, (flat_pts n xs h).2⟩
theorem flat_append : ∀ a b, flat (a ++ b) = flat a ++ flat b
  | [], b => rfl
  | p :: r, b => by simp [flat, flat_append r b]
theorem flat_drop : ∀ (ps : List Pt) (k : Nat), (flat ps).drop (k * 2) = flat (ps.drop k)
  | ps, 0 => by simp
  | [], k + 1 => by simp [flat]
  | p :: r, k + 1 => by
    rw [show (k + 1) * 2 = k * 2 + 2 by omega]
    simp [flat, flat_drop r k]
theorem flat_take : ∀ (ps : List Pt) (k : Nat), (flat ps).take (k * 2) = flat (ps.take k)
  | ps, 0 => by simp [flat]
  | [], k + 1 => by simp [flat]
  | p :: r, k + 1 => by
    rw [show (k + 1) * 2 = k * 2 + 2 by omega]
    simp [flat, flat_take r k]
theorem flat_all (ps : List Pt) : (flat ps).take (ps.length * 2) = flat ps := by rw [flat_take, List.take_length]
theorem flat_get : ∀ (ps : List Pt) (k : Nat), (flat ps).getD (k * 2) 0 = (ps.getD k (0, 0)).1 ∧ (flat ps).getD (k * 2 + 1) 0 = (ps.getD k (0, 0)).2
  | [], k => by simp [flat]
  | p :: r, 0 => by simp [flat]
  | p :: r, k + 1 => by
    obtain ⟨h1, h2⟩ := flat_get r k
    rw [show (k + 1) * 2 = k * 2 + 2 by omega, show k * 2 + 2 + 1 = k * 2 + 1 + 2 by omega]
    simp only [flat, List.getD_eq_getElem?_getD, List.getElem?_cons_succ] at h1 h2 ⊢
    exact ⟨h1, h2⟩
theorem flat_get0 (ps : List Pt) (k : Nat) : (flat ps).getD (k * 2) 0 = (ps.getD k (0, 0)).1 := (flat_get ps k).1
theorem flat_get1 (ps : List Pt) (k : Nat) : (flat ps).getD (k * 2 + 1) 0 = (ps.getD k (0, 0)).2 := (flat_get ps k).2
theorem flat_set (ps : List Pt) (k : Nat) (h : k < ps.length) (a b : Int) : setInts (flat ps) (k * 2) [a, b] = flat (ps.set k (a, b)) := by
  have e : ps = ps.take k ++ ps[k] :: ps.drop (k + 1) := by simp
  have hl : (ps.take k).length = k := by simp; omega
  unfold setInts
  rw [flat_take, show k * 2 + [a, b].length = (k + 1) * 2 by simp; omega, flat_drop]
  rw [List.set_eq_take_append_cons_drop, if_pos h, flat_append]
  simp [flat]
theorem flat_snoc (ps : List Pt) (a b : Int) : flat ps ++ [a, b] = flat (ps ++ [(a, b)]) := by rw [flat_append]; rfl
theorem drop_cons {α : Type} {l : List α} {k : Nat} (h : k < l.length) (d : α) : l.drop k = l.getD k d :: l.drop (k + 1) := by
  rw [List.drop_eq_getElem_cons h]
  simp [h]
theorem wr {x : Int} (h : -9223372036854775808 ≤ x ∧ x ≤ 9223372036854775807) : IntKind.i64.wrap x = x := by
  rw [IntKind.wrap_i64]
  omega
theorem wsucc {i n : Nat} (h : i < n) (hn : n ≤ 1000000000) : IntKind.i64.wrap ((i : Int) + 1) = ((i + 1 : Nat) : Int) := by
  rw [wr (by omega)]; omega
theorem all_drop {α : Type} {l : List α} {k : Nat} (h : k < l.length) (d : α) (P : α → Bool) : (l.drop k).all P = (P (l.getD k d) && (l.drop (k + 1)).all P) := by rw [drop_cons h d]; rfl
theorem all_end {α : Type} {l : List α} {k : Nat} (h : l.length ≤ k) (P : α → Bool) : (l.drop k).all P = true := by rw [List.drop_of_length_le h]; rfl
theorem pick2k {b : Bool} {k : Ex → St → Tree} {e1 e2 : Ex} {s1 s2 : St} {F : Ex → St → Prop} {H : Value → List (Option Blk) → Prop} (h : (brT b (k e1 s1) (k e2 s2)).ok F H) : (k (bif b then e1 else e2) (bif b then s1 else s2)).ok F H := by
  cases b
  · exact h
  · exact h
/-- A loop's body on a state, cut at its ends to what is looked at again: keep tells which slots, M how many names. -/
def bodyL (P : Program) (E : Env) (m n : Nat) (lt : LT) (j : Nat) (c : Code) (keep : Ex → List Nat) (M : Nat) (s : St) : Tree := runN P E.R E.J (asK P E (runM P E m n)) (runM P E m n) lt noR m c j (fun e s' => .leaf e (cutS M (keep e) s')) s
theorem body_det {P : Program} (hm : P.follows .mixedOrders = true) {E : Env} (hE : EnvOk P E) {m n : Nat} {lt : LT} {j : Nat} {c : Code} (hL : LoopsGood P lt j c) {keep : Ex → List Nat} {M : Nat} {s : St} {F : Ex → St → Prop} (h : (bodyL P E m n lt j c keep M s).ok F (fun _ _ => False)) :
    ∃ e' s', Det P c s e' s' ∧ F e' (cutS M (keep e') s') := by
  obtain ⟨e', s', h1, h2⟩ := runN_det hE.R hE.J (asK_ok hE (runM_ok hm hE m n)) (runM_ok hm hE m n) hm c j hL noR_good _ F _ s h
  exact ⟨e', s', h2, h1⟩
theorem noLoops {P : Program} {lt : LT} {j : Nat} {c : Code} (h : loopsOf c = []) : LoopsGood P lt j c := fun i d hd => by rw [h] at hd; simp at hd
/-- Which slots are looked at again: behind a round, behind an exit, behind the function's end. -/
def keeps (nrm : List Nat) (exits : List (Nat × List Nat)) (ret : List Nat) : Ex → List Nat
  | .normal => nrm
  | .exit id => (exits.lookup id).getD []
  | .ret => ret
/-- The end of a round. -/
def RoundEnd {X : Type} (N : Nat) (St_of : X → St) (Inv : X → Prop) (μ : X → Nat) (re : X → Ex) (rs : X → St) (x : X) (e : Ex) (s : St) : Prop :=
  match e with
  | .normal => ∃ x' π, Inv x' ∧ μ x' < μ x ∧ re x' = re x ∧ rs x' = rs x ∧ WS N π s (St_of x')
  | e => e = re x ∧ ∃ π, WS N π s (rs x)
theorem loop_run {P : Program} (hm : P.follows .mixedOrders = true) {E : Env} (hE : EnvOk P E) {m n : Nat} {lt : LT} {j : Nat} {c : Code} {N : Nat} {X : Type} (St_of : X → St) (Inv : X → Prop) (μ : X → Nat) (re : X → Ex) (rs : X → St) (keep : Ex → List Nat) {M : Nat} (hM : ∀ x, (St_of x).mem.length = M) (hL : LoopsGood P lt j c)
    (h : ∀ x, Inv x → (bodyL P E m n lt j c keep M (St_of x)).ok (RoundEnd N St_of Inv μ re rs x) (fun _ _ => False))
    {x : X} (hx : Inv x) {s : St} {π : List (Option Nat)} (hN : s.mem.length = N) (hs : WS N π s (St_of x)) : Det P (.loop c) s (re x) (rs x) :=
  loop_det St_of Inv μ re rs keep (fun x hx => by
    obtain ⟨e', s', h1, h2⟩ := body_det hm hE hL (h x hx)
    refine ⟨e', s', h1, ?_⟩
    rw [hM]
    unfold RoundEnd at h2
    cases e' <;> exact h2) hx hN hs
theorem wv_top (f : Nat → Option (Option Nat)) (v : Value) : wv f v topV := by
  cases v <;> exact True.intro
theorem take_set_succ {α : Type} {l m : List α} {i : Nat} (hl : i < l.length) (hm : i < m.length) (h : l.take i = m.take i) (d : α) : (l.set i (m.getD i d)).take (i + 1) = m.take (i + 1) := by
  apply List.ext_getElem?
  intro k
  have hk := congrArg (fun x : List α => x[k]?) h
  simp only [List.getElem?_take] at hk ⊢
  rcases Nat.lt_trichotomy k i with hki | hki | hki
  · rw [if_pos (by omega), if_pos (by omega), List.getElem?_set_ne (by omega)]
    simpa [hki] using hk
  · subst hki
    rw [if_pos (by omega), if_pos (by omega)]
    simp [hl, hm]
  · rw [if_neg (by omega), if_neg (by omega)]
/-- Some slots of a frame; a frame of which only some slots are known. -/
def pickL (l : List Value) (idx : List Nat) : List Value := idx.map fun i => l.getD i undef
def lookV : List Nat → List Value → Nat → Value
  | i :: r, v :: vs, j => if i = j then v else lookV r vs j
  | _, _, _ => topV
def spread (n : Nat) (idx : List Nat) (vals : List Value) : List Value := (List.range n).map (lookV idx vals)
theorem lookV_ok {f : Nat → Option (Option Nat)} {l : List Value} : ∀ {idx : List Nat} {vals : List Value}, wvs f (pickL l idx) vals → ∀ j, wv f (l.getD j undef) (lookV idx vals j)
  | [], [], _, j => wv_top _ _
  | [], _ :: _, h, _ => h.elim
  | _ :: _, [], h, _ => h.elim
  | i :: r, v :: vs, h, j => by
    unfold lookV
    split
    · rename_i hij
      subst hij
      exact h.1
    · exact lookV_ok h.2 j
theorem wvs_of {f : Nat → Option (Option Nat)} : ∀ {l l' : List Value}, l.length = l'.length → (∀ j, j < l.length → wv f (l.getD j undef) (l'.getD j undef)) → wvs f l l'
  | [], [], _, _ => trivial
  | [], _ :: _, h, _ => by simp at h
  | _ :: _, [], h, _ => by simp at h
  | a :: r, b :: r', h, hj => ⟨hj 0 (by simp), wvs_of (by simpa using h) fun j hj' => by simpa using hj (j + 1) (by simpa using hj')⟩
theorem wvs_spread {f : Nat → Option (Option Nat)} {l vals l' : List Value} {n : Nat} {idx : List Nat} (hl : Nat.beq l.length n = true) (he : l' = spread n idx vals) (h : wvs f (pickL l idx) vals) : wvs f l l' := by
  have hl := Nat.eq_of_beq_eq_true hl
  subst he
  refine wvs_of (by simp [spread, hl]) fun j hj => ?_
  have : (spread n idx vals).getD j undef = lookV idx vals j := by
    have : j < n := by omega
    simp [spread, this]
  rw [this]
  exact lookV_ok h j
theorem wvs_spread' {f : Nat → Option (Option Nat)} {l l' : List Value} {n : Nat} (idx : List Nat) (hl : Nat.beq l.length n = true) (he : l' = spread n idx (pickL l' idx)) (h : wvs f (pickL l idx) (pickL l' idx)) : wvs f l l' := wvs_spread hl he h
/-- An entry for a loop is sound. -/
def LoopE (P : Program) (e : St → (Ex → St → Tree) → Option Tree) (c : Code) : Prop := ∀ s k t F H, e s k = some t → t.ok F H → ∃ e' s', (k e' s').ok F H ∧ Det P (.loop c) s e' s'
/-- A function with one loop. -/
def lt1 (e : St → (Ex → St → Tree) → Option Tree) : LT := fun j s k => match j with
  | 0 => e s k
  | _ => none
theorem lt1_good {P : Program} {e : St → (Ex → St → Tree) → Option Tree} {c : Code} (h : LoopE P e (((loopsOf c)[0]?).getD .skip)) : LoopsGood P (lt1 e) 0 c := by
  intro i d hd s k t F H hlt ht
  rw [Nat.zero_add] at hlt
  cases i with
  | zero =>
    rw [hd] at h
    exact h s k t F H hlt ht
  | succ i => cases hlt
def noL : LT := fun _ _ _ => none
theorem noL_good {P : Program} {j : Nat} {c : Code} : LoopsGood P noL j c := fun _ _ _ _ _ _ _ _ h => by cases h
/-- An argument's cells beyond what is asked. -/
theorem Res.more {P : Program} {f : FuncId} {ds ds' : List DArg} {v : Value} (h : Res P f ds' v) (hg : ∀ d ∈ ds, d.good) (hd : ∀ w args, DOks w ds args → DOks w ds' args) : Res P f ds v :=
  ⟨h.1, h.2.1, h.2.2.1, hg, fun w args ha => h.2.2.2.2 w args (hd w args ha)⟩
theorem ResR.more {P : Program} {f : FuncId} {ds ds' : List DArg} {v : Value} {b : Blk} (h : ResR P f ds' v b) (hg : ∀ d ∈ ds, d.good) (hd : ∀ w args, DOks w ds args → DOks w ds' args) : ResR P f ds v b :=
  ⟨h.1, h.2.1, h.2.2.1, hg, fun w args ha => h.2.2.2.2 w args (hd w args ha)⟩
/-- The first cells of a row argument. -/
theorem DOk.take {w : World} {l : Nat} {xs : List Int} {y : Value} (k : Nat) (h : DOk w (.row l (.ints xs)) y) : DOk w (.row l (.ints (xs.take k))) y := by
  obtain ⟨h1, ad, c', h2, h3, h4⟩ := h
  refine ⟨rfl, ad, c', h2, h3, h4.imp id ?_⟩
  rintro ⟨g, f, h5, h6, h7⟩
  refine ⟨g, f, h5, h6, fun j v hv => h7 j v ?_⟩
  simp only [Cs.list, List.getElem?_map] at hv ⊢
  rw [List.getElem?_take] at hv
  split at hv
  · exact hv
  · simp at hv
theorem DOks.imp {w : World} : ∀ {ds ds' : List DArg} {args : Array Value}, DOks w ds args → ds.length = ds'.length → (∀ (i : Nat) d d' y, ds[i]? = some d → ds'[i]? = some d' → DOk w d y → DOk w d' y) → DOks w ds' args := by
  intro ds ds' args h hl hi
  refine ⟨by rw [← hl]; exact h.1, fun i d' y hd' hy => ?_⟩
  have hlt : i < ds.length := by rw [hl]; exact (List.getElem?_eq_some_iff.1 hd').1
  exact hi i ds[i] d' y (by simp) hd' (h.2 i _ y (by simp) hy)
/-- The points of a row argument. -/
def ptsA (n : Nat) (xs : List Int) : List Pt := pts (xs.take (n * 2))
theorem ptsA_flat (ps : List Pt) : ptsA ps.length (flat ps) = ps := by
  unfold ptsA
  rw [flat_take, List.take_length, pts_flat]
theorem ptsA_spec {n : Nat} {xs : List Int} (h : n * 2 ≤ xs.length) : xs.take (n * 2) = flat (ptsA n xs) ∧ (ptsA n xs).length = n := by
  unfold ptsA
  have := flat_pts n (xs.take (n * 2)) (by simp; omega)
  exact ⟨this.1.symm, this.2⟩
/-- What is known for lists of points as they are is known for any cells. -/
theorem DOks.pts {w : World} {pre post : List DArg} {n : Nat} {xs : List Int} {args : Array Value} (ha : DOks w (pre ++ .row n (.ints xs) :: post) args) : DOks w (pre ++ .row n (.ints (xs.take (n * 2))) :: post) args := by
  refine ha.imp (by simp) fun i d d' y hd hd' hy => ?_
  rcases Nat.lt_or_ge i pre.length with hlt | hge
  · rw [List.getElem?_append_left hlt] at hd hd'
    rw [hd] at hd'
    obtain rfl : d = d' := by simpa using hd'
    exact hy
  · rw [List.getElem?_append_right hge] at hd hd'
    rcases hk : i - pre.length with _ | k
    · rw [hk] at hd hd'
      obtain rfl : DArg.row n (.ints xs) = d := by simpa using hd
      obtain rfl : DArg.row n (.ints (xs.take (n * 2))) = d' := by simpa using hd'
      exact hy.take _
    · rw [hk] at hd hd'
      simp only [List.getElem?_cons_succ] at hd hd'
      rw [hd] at hd'
      obtain rfl : d = d' := by simpa using hd'
      exact hy
theorem good_pts {pre post : List DArg} {n : Nat} {xs ys : List Int} (h : ∀ d ∈ pre ++ .row n (.ints xs) :: post, d.good) : ∀ d ∈ pre ++ .row n (.ints ys) :: post, d.good := by
  intro d hd
  rcases List.mem_append.1 hd with hd | hd
  · exact h d (List.mem_append_left _ hd)
  · rcases List.mem_cons.1 hd with rfl | hd
    · rfl
    · exact h d (List.mem_append_right _ (List.mem_cons_of_mem _ hd))
theorem res_pts1 {P : Program} {f : FuncId} {pre post : List DArg} {v : Value} {n : Nat} {xs : List Int} (hn : n * 2 ≤ xs.length) (h0 : Res P f (pre ++ .row (ptsA n xs).length (.ints (flat (ptsA n xs))) :: post) v) :
    Res P f (pre ++ .row n (.ints xs) :: post) v := by
  obtain ⟨h1, h2⟩ := ptsA_spec hn
  rw [h2, ← h1] at h0
  exact h0.more (good_pts h0.2.2.2.1) fun w args ha => ha.pts
theorem resR_pts1 {P : Program} {f : FuncId} {pre post : List DArg} {v : Value} {b : Blk} {n : Nat} {xs : List Int} (hn : n * 2 ≤ xs.length) (h0 : ResR P f (pre ++ .row (ptsA n xs).length (.ints (flat (ptsA n xs))) :: post) v b) :
    ResR P f (pre ++ .row n (.ints xs) :: post) v b := by
  obtain ⟨h1, h2⟩ := ptsA_spec hn
  rw [h2, ← h1] at h0
  exact h0.more (good_pts h0.2.2.2.1) fun w args ha => ha.pts
end Go.Proofs.Ytnjmepbblcfnfaa
namespace Go.Proofs.Ytnjmepbblcfnfaa
set_option linter.all false
open Go.RowKit
def E1 : Env := mkE (T1) (fun _ _ => none) (fun _ => noL)
theorem E1_ok : EnvOk Try.prog E1 := mkEOk (T1_ok) (fun _ _ _ _ _ h => (by cases h)) (fun _ _ _ _ _ _ _ _ _ _ _ h => (by cases h))
def vB (p : Pt) : Bool := ptB p.1 p.2
def allV (ps : List Pt) : Bool := ps.all vB
noncomputable def c43 : Code := ((loopsOf (codeOf Try.f69))[0]?).getD .skip
noncomputable def c80 : Code := ((loopsOf (codeOf Try.f89))[0]?).getD .skip
set_option maxRecDepth 100000 in
theorem nl43 : loopsOf c43 = [] := by kernel_rfl
set_option maxRecDepth 100000 in
theorem nl80 : loopsOf c80 = [] := by kernel_rfl
def k43 : Ex → List Nat := keeps [0, 3] [(0, [0])] [2]
def k80 : Ex → List Nat := keeps [5, 6, 7] [] [2]
def s43 (ps : List Pt) (i : Nat) : St := ⟨[.slice (some ⟨0, 0, none⟩) ps.length ps.length, topV, topV, .int .i64 i, topV, topV, topV, topV, topV, topV, topV, topV, topV, topV, topV, topV, topV, topV, topV], [some ⟨.view, .ints (flat ps)⟩]⟩
def s80 (ps : List Pt) (i : Nat) : St := ⟨[topV, topV, topV, topV, topV, .slice (some ⟨0, 0, none⟩) ps.length ps.length, .int .i64 ps.length, .int .i64 i, topV, topV, topV, topV, topV, topV, topV], [some ⟨.view, .ints (flat ps)⟩]⟩
set_option maxRecDepth 100000 in
theorem tr43 (ps : List Pt) (i : Nat) : bodyL Try.prog E1 30 12 noL 1 c43 k43 1 (s43 ps i) = brT (decide ((↑i : Int) < (↑ps.length : Int))) (.need ((0 : Int) ≤ (↑i : Int) ∧ (↑i : Int) < (↑ps.length : Int)) (.need ((0 : Nat) + (↑i : Int).toNat * (2 : Nat) + (2 : Nat) ≤ (flat ps).length) (brT (!ptB ((flat ps).getD (0 + (↑i : Int).toNat * 2) 0) ((flat ps).getD (0 + (↑i : Int).toNat * 2 + 1) 0)) (.leaf .ret ⟨[topV, topV, .bool (false), topV, topV, topV, topV, topV, topV, topV, topV, topV, topV, topV, topV, topV, topV, topV, topV], [some ⟨.view, .ints (flat ps)⟩]⟩) (.leaf .normal ⟨[.slice (some ⟨0, 0, none⟩) (ps.length) (ps.length), topV, topV, .int .i64 (IntKind.i64.wrap ((↑i : Int) + 1)), topV, topV, topV, topV, topV, topV, topV, topV, topV, topV, topV, topV, topV, topV, topV], [some ⟨.view, .ints (flat ps)⟩]⟩)))) (.leaf (.exit 0) ⟨[.slice (some ⟨0, 0, none⟩) (ps.length) (ps.length), topV, topV, topV, topV, topV, topV, topV, topV, topV, topV, topV, topV, topV, topV, topV, topV, topV, topV], [some ⟨.view, .ints (flat ps)⟩]⟩) := by kernel_rfl
set_option maxRecDepth 100000 in
theorem tr80 (ps : List Pt) (i : Nat) : bodyL Try.prog E1 30 12 noL 1 c80 k80 1 (s80 ps i) = brT (decide ((↑i : Int) < (↑ps.length : Int))) (.need ((0 : Int) ≤ (↑i : Int) ∧ (↑i : Int) < (↑ps.length : Int)) (.need ((0 : Nat) + (↑i : Int).toNat * (2 : Nat) + (2 : Nat) ≤ (flat ps).length) (brT (!ptB ((flat ps).getD (0 + (↑i : Int).toNat * 2) 0) ((flat ps).getD (0 + (↑i : Int).toNat * 2 + 1) 0)) (.leaf .ret ⟨[topV, topV, .bool (false), topV, topV, topV, topV, topV, topV, topV, topV, topV, topV, topV, topV], [some ⟨.view, .ints (flat ps)⟩]⟩) (.leaf .normal ⟨[topV, topV, topV, topV, topV, .slice (some ⟨0, 0, none⟩) (ps.length) (ps.length), .int .i64 ((↑ps.length : Int)), .int .i64 (IntKind.i64.wrap ((↑i : Int) + 1)), topV, topV, topV, topV, topV, topV, topV], [some ⟨.view, .ints (flat ps)⟩]⟩)))) (.leaf (.exit 0) ⟨[topV, topV, topV, topV, topV, topV, topV, topV, topV, topV, topV, topV, topV, topV, topV], [some ⟨.view, .ints (flat ps)⟩]⟩) := by kernel_rfl
def re43 (ps : List Pt) (i : Nat) : Ex := bif (ps.drop i).all vB then .exit 0 else .ret
def rs43 (ps : List Pt) (i : Nat) : St := bif (ps.drop i).all vB then ⟨[.slice (some ⟨0, 0, none⟩) ps.length ps.length, topV, topV, topV, topV, topV, topV, topV, topV, topV, topV, topV, topV, topV, topV, topV, topV, topV, topV], [some ⟨.view, .ints (flat ps)⟩]⟩ else ⟨[topV, topV, .bool false, topV, topV, topV, topV, topV, topV, topV, topV, topV, topV, topV, topV, topV, topV, topV, topV], [some ⟨.view, .ints (flat ps)⟩]⟩
def re80 (ps : List Pt) (i : Nat) : Ex := bif (ps.drop i).all vB then .exit 0 else .ret
def rs80 (ps : List Pt) (i : Nat) : St := bif (ps.drop i).all vB then ⟨[topV, topV, topV, topV, topV, topV, topV, topV, topV, topV, topV, topV, topV, topV, topV], [some ⟨.view, .ints (flat ps)⟩]⟩ else ⟨[topV, topV, .bool false, topV, topV, topV, topV, topV, topV, topV, topV, topV, topV, topV, topV], [some ⟨.view, .ints (flat ps)⟩]⟩
theorem round43 (ps : List Pt) (hn : ps.length ≤ 1000000000) (i : Nat) (hi : i ≤ ps.length) :
    (bodyL Try.prog E1 30 12 noL 1 c43 k43 1 (s43 ps i)).ok (RoundEnd 1 (s43 ps) (fun i => i ≤ ps.length) (fun i => ps.length - i) (re43 ps) (rs43 ps) i) (fun _ _ => False) := by
  rw [tr43]
  simp only [brT_ok, Tree.ok, decide_eq_true_eq, decide_eq_false_iff_not, Int.toNat_natCast, Nat.zero_add, flat_length, flat_get0, flat_get1, Bool.not_eq_true', Bool.not_eq_false']
  refine ⟨fun hlt => ⟨by omega, by omega, fun hv => ?_, fun hv => ?_⟩, fun hge => ?_⟩
  · have e : (ps.drop i).all vB = false := by rw [all_drop (by omega) (0, 0)]; simp only [vB, hv, Bool.false_and]
    refine ⟨by simp only [re43, e, cond_false], [], ?_⟩
    simp only [rs43, e, cond_false]
    repeat' (first | exact True.intro | exact rfl | refine And.intro ?_ ?_)
  · have e : (ps.drop i).all vB = (ps.drop (i + 1)).all vB := by rw [all_drop (by omega) (0, 0)]; simp only [vB, hv, Bool.true_and]
    rw [wsucc (n := ps.length) (by omega) hn]
    refine ⟨i + 1, [], by omega, by dsimp only; omega, by simp only [re43, e], by simp only [rs43, e], ?_⟩
    repeat' (first | exact True.intro | exact rfl | refine And.intro ?_ ?_)
  · have e : (ps.drop i).all vB = true := all_end (by omega) _
    refine ⟨by simp only [re43, e, cond_true], [], ?_⟩
    simp only [rs43, e, cond_true]
    repeat' (first | exact True.intro | exact rfl | refine And.intro ?_ ?_)
theorem round80 (ps : List Pt) (hn : ps.length ≤ 1000000000) (i : Nat) (hi : i ≤ ps.length) :
    (bodyL Try.prog E1 30 12 noL 1 c80 k80 1 (s80 ps i)).ok (RoundEnd 1 (s80 ps) (fun i => i ≤ ps.length) (fun i => ps.length - i) (re80 ps) (rs80 ps) i) (fun _ _ => False) := by
  rw [tr80]
  simp only [brT_ok, Tree.ok, decide_eq_true_eq, decide_eq_false_iff_not, Int.toNat_natCast, Nat.zero_add, flat_length, flat_get0, flat_get1, Bool.not_eq_true', Bool.not_eq_false']
  refine ⟨fun hlt => ⟨by omega, by omega, fun hv => ?_, fun hv => ?_⟩, fun hge => ?_⟩
  · have e : (ps.drop i).all vB = false := by rw [all_drop (by omega) (0, 0)]; simp only [vB, hv, Bool.false_and]
    refine ⟨by simp only [re80, e, cond_false], [], ?_⟩
    simp only [rs80, e, cond_false]
    repeat' (first | exact True.intro | exact rfl | refine And.intro ?_ ?_)
  · have e : (ps.drop i).all vB = (ps.drop (i + 1)).all vB := by rw [all_drop (by omega) (0, 0)]; simp only [vB, hv, Bool.true_and]
    rw [wsucc (n := ps.length) (by omega) hn]
    refine ⟨i + 1, [], by omega, by dsimp only; omega, by simp only [re80, e], by simp only [rs80, e], ?_⟩
    repeat' (first | exact True.intro | exact rfl | refine And.intro ?_ ?_)
  · have e : (ps.drop i).all vB = true := all_end (by omega) _
    refine ⟨by simp only [re80, e, cond_true], [], ?_⟩
    simp only [rs80, e, cond_true]
    repeat' (first | exact True.intro | exact rfl | refine And.intro ?_ ?_)
def lt43 : LT := fun j s k => match j, s with
  | 0, ⟨[.slice (some ⟨0, 0, none⟩) n _, _, _, .int .i64 i, _, _, _, _, _, _, _, _, _, _, _, _, _, _, _], [some ⟨.view, .ints xs⟩]⟩ =>
    some (needs [i = 0, xs.length = n * 2, n ≤ 1000000000] (brT (allV (ptsA n xs)) (k (.exit 0) ⟨[.slice (some ⟨0, 0, none⟩) n n, topV, topV, topV, topV, topV, topV, topV, topV, topV, topV, topV, topV, topV, topV, topV, topV, topV, topV], [some ⟨.view, .ints xs⟩]⟩) (k .ret ⟨[topV, topV, .bool false, topV, topV, topV, topV, topV, topV, topV, topV, topV, topV, topV, topV, topV, topV, topV, topV], [some ⟨.view, .ints xs⟩]⟩)))
  | _, _ => none
def lt80 : LT := fun j s k => match j, s with
  | 0, ⟨[_, _, _, _, _, .slice (some ⟨0, 0, none⟩) n _, .int .i64 l, .int .i64 i, _, _, _, _, _, _, _], [some ⟨.view, .ints xs⟩]⟩ =>
    some (needs [i = 0, l = n, xs.length = n * 2, n ≤ 1000000000] (brT (allV (ptsA n xs)) (k (.exit 0) ⟨[topV, topV, topV, topV, topV, topV, topV, topV, topV, topV, topV, topV, topV, topV, topV], [some ⟨.view, .ints xs⟩]⟩) (k .ret ⟨[topV, topV, .bool false, topV, topV, topV, topV, topV, topV, topV, topV, topV, topV, topV, topV], [some ⟨.view, .ints xs⟩]⟩)))
  | _, _ => none
set_option maxRecDepth 100000 in
theorem lg43 : LoopsGood Try.prog lt43 0 (codeOf Try.f69) := by
  intro i d hd s k t F H hlt ht
  rw [Nat.zero_add] at hlt
  unfold lt43 at hlt
  split at hlt
  rotate_left
  · cases hlt
  obtain rfl : c43 = d := by unfold c43; rw [hd]; rfl
  obtain rfl := Option.some.inj hlt
  obtain ⟨⟨rfl, h1, h2, _⟩, ht2⟩ := needs_ok ht
  clear ht hlt
  obtain ⟨ps, rfl, rfl⟩ := even_flat h1
  rw [ptsA_flat] at ht2
  refine ⟨_, _, pick2k ht2, loop_run mixed E1_ok (s43 ps) (fun i => i ≤ ps.length) (fun i => ps.length - i) (re43 ps) (rs43 ps) k43 (fun _ => rfl) (noLoops nl43) (round43 ps h2) (x := 0) (Nat.zero_le _) (π := []) rfl ?_⟩
  repeat' (first | exact True.intro | exact rfl | exact wv_top _ _ | refine And.intro ?_ ?_)
set_option maxRecDepth 100000 in
theorem lg80 : LoopsGood Try.prog lt80 0 (codeOf Try.f89) := by
  intro i d hd s k t F H hlt ht
  rw [Nat.zero_add] at hlt
  unfold lt80 at hlt
  split at hlt
  rotate_left
  · cases hlt
  obtain rfl : c80 = d := by unfold c80; rw [hd]; rfl
  obtain rfl := Option.some.inj hlt
  obtain ⟨⟨rfl, rfl, h1, h2, _⟩, ht2⟩ := needs_ok ht
  clear ht hlt
  obtain ⟨ps, rfl, rfl⟩ := even_flat h1
  rw [ptsA_flat] at ht2
  refine ⟨_, _, pick2k ht2, loop_run mixed E1_ok (s80 ps) (fun i => i ≤ ps.length) (fun i => ps.length - i) (re80 ps) (rs80 ps) k80 (fun _ => rfl) (noLoops nl80) (round80 ps h2) (x := 0) (Nat.zero_le _) (π := []) rfl ?_⟩
  repeat' (first | exact True.intro | exact rfl | exact wv_top _ _ | refine And.intro ?_ ?_)
end Go.Proofs.Ytnjmepbblcfnfaa
namespace Go.Proofs.Ytnjmepbblcfnfaa
set_option linter.all false
open Go.RowKit
def L2 : FuncId → LT := fun f => match f with
  | 69 => lt43
  | 89 => lt80
  | _ => noL
def E2 : Env := mkE (T1) (fun _ _ => none) (L2)
theorem E2_ok : EnvOk Try.prog E2 := by
  refine mkEOk T1_ok (fun _ _ _ _ _ h => (by cases h)) fun f fn hf => ?_
  show LoopsGood Try.prog (L2 f) 0 (codeOf fn)
  unfold L2
  split
  · obtain rfl : Try.f69 = fn := by rw [Try.func69] at hf; simpa using hf
    exact lg43
  · obtain rfl : Try.f89 = fn := by rw [Try.func89] at hf; simpa using hf
    exact lg80
  · exact noL_good
set_option maxRecDepth 100000 in
theorem tr_f43 (ps : List Pt) : bodyX Try.prog E2 30 12 69 [.row ps.length (.ints (flat ps))] = .need ((0 : Int) = (0 : Int)) (.need ((flat ps).length = ps.length * (2 : Nat)) (.need (ps.length ≤ (1000000000 : Nat)) (brT (allV (ptsA ps.length (flat ps))) (.fin (.bool (decide ((↑ps.length : Int) ≤ 20))) [some ⟨.view, .ints (flat ps)⟩]) (.fin (.bool (false)) [some ⟨.view, .ints (flat ps)⟩])))) := by kernel_rfl
set_option maxRecDepth 100000 in
theorem tr_f80 (ps : List Pt) : bodyX Try.prog E2 30 12 89 [.row ps.length (.ints (flat ps))] = .need ((0 : Int) = (0 : Int)) (.need ((↑ps.length : Int) = (↑ps.length : Int)) (.need ((flat ps).length = ps.length * (2 : Nat)) (.need (ps.length ≤ (1000000000 : Nat)) (brT (allV (ptsA ps.length (flat ps))) (.fin (.bool (true)) [some ⟨.view, .ints (flat ps)⟩]) (.fin (.bool (false)) [some ⟨.view, .ints (flat ps)⟩]))))) := by kernel_rfl
def Big (ps : List Pt) : Prop := ps.length ≤ 1000000000
def okL (ps : List Pt) : Bool := allV ps && decide (ps.length ≤ 20)
theorem res_f43 (ps : List Pt) (h : Big ps) : Res Try.prog 69 [.row ps.length (.ints (flat ps))] (.bool (okL ps)) := by
  refine bodyX_res mixed E2_ok (m := 30) (n := 12) rfl ?_
  rw [tr_f43, ptsA_flat]
  unfold Big at h
  unfold okL
  cases hv : allV ps <;> simp [Tree.ok, brT, flat_length, h]
  omega
theorem res_f80 (ps : List Pt) (h : Big ps) : Res Try.prog 89 [.row ps.length (.ints (flat ps))] (.bool (allV ps)) := by
  refine bodyX_res mixed E2_ok (m := 30) (n := 12) rfl ?_
  rw [tr_f80, ptsA_flat]
  unfold Big at h
  cases hv : allV ps <;> simp [Tree.ok, brT, flat_length, h]
/-- An entry for a function of one list of points. -/
def pL (g : List Pt → Value) : List DArg → Option (Value × List Prop)
  | [.row n (.ints xs)] => some (g (ptsA n xs), [n * 2 ≤ xs.length, n ≤ 1000000000])
  | _ => none
theorem pL_ok {f : FuncId} {g : List Pt → Value} (h : ∀ ps, Big ps → Res Try.prog f [.row ps.length (.ints (flat ps))] (g ps)) {ds : List DArg} {v : Value} {C : List Prop} (hd : pL g ds = some (v, C)) (hC : AllP C) : Res Try.prog f ds v := by
  unfold pL at hd
  split at hd
  · rename_i n xs
    obtain ⟨rfl, rfl⟩ : _ ∧ _ := by simpa using hd
    obtain ⟨h1, h2⟩ := ptsA_spec hC.1
    have h0 := h (ptsA n xs) (by unfold Big; rw [h2]; exact hC.2.1)
    exact res_pts1 (pre := []) (post := []) hC.1 h0
  · cases hd
def T2 : Tab := fun f ds => match f with
  | 69 => pL (fun ps => .bool (okL ps)) ds
  | 89 => (match pL (fun ps => .bool (allV ps)) ds with
    | some r => some r
    | none => T1 f ds)
  | f => T1 f ds
theorem T2_ok : TabOk Try.prog T2 := by
  intro f ds v C h hC
  unfold T2 at h
  split at h
  · exact pL_ok res_f43 h hC
  · split at h
    · rename_i hr
      rw [h] at hr
      exact pL_ok res_f80 hr hC
    · exact T1_ok _ _ _ _ h hC
  · exact T1_ok _ _ _ _ h hC
end Go.Proofs.Ytnjmepbblcfnfaa
namespace Go.Proofs.Ytnjmepbblcfnfaa
set_option linter.all false
open Go.RowKit
def E3 : Env := mkE (T2) (fun _ _ => none) (fun _ => noL)
theorem E3_ok : EnvOk Try.prog E3 := mkEOk (T2_ok) (fun _ _ _ _ _ h => (by cases h)) (fun _ _ _ => noL_good)
theorem allV_get {ps : List Pt} (h : allV ps = true) (i : Nat) : -1000 ≤ (ps.getD i (0, 0)).1 ∧ (ps.getD i (0, 0)).1 ≤ 1000 ∧ -1000 ≤ (ps.getD i (0, 0)).2 ∧ (ps.getD i (0, 0)).2 ≤ 1000 := by
  rcases Nat.lt_or_ge i ps.length with hlt | hge
  · have := List.all_eq_true.1 h (ps.getD i (0, 0)) (by simp [hlt])
    simpa [vB, ptB] using this
  · simp [hge]
theorem brT_t (x y : Tree) : brT true x y = x := rfl
theorem brT_f (x y : Tree) : brT false x y = y := rfl
def eqL (ps qs : List Pt) : Bool := decide (ps = qs)
noncomputable def c_toPts : Code := ((loopsOf (codeOf Try.f26))[0]?).getD .skip
def k_toPts : Ex → List Nat := keeps [0, 3, 4] [(0, [3])] [2]
def s_toPts (ps : List Pt) (n : Nat) : Nat × (List Pt) → St := fun (i, qs) => ⟨[.slice (some ⟨0, 0, none⟩) ps.length ps.length, topV, topV, .slice (some ⟨1, 0, none⟩) n n, .int .i64 i, topV, topV, topV, topV, topV, topV, topV, topV, topV, topV, topV, topV, topV, topV, topV, topV, topV, topV], [some ⟨.view, .ints (flat ps)⟩, some ⟨.row 30 2, .ints (flat qs)⟩]⟩
def re_toPts : Nat × (List Pt) → Ex := fun _ => .exit 0
def rs_toPts (ps : List Pt) (n : Nat) : Nat × (List Pt) → St := fun (i, qs) => ⟨[topV, topV, topV, .slice (some ⟨1, 0, none⟩) n n, topV, topV, topV, topV, topV, topV, topV, topV, topV, topV, topV, topV, topV, topV, topV, topV, topV, topV, topV], [some ⟨.view, .ints (flat ps)⟩, some ⟨.row 30 2, .ints (flat ps)⟩]⟩
set_option maxRecDepth 100000 in
theorem tr_toPts (ps : List Pt) (n : Nat) (i : Nat) (qs : List Pt) : bodyL Try.prog E3 30 12 noL 1 c_toPts k_toPts 2 (s_toPts ps n (i, qs)) = brT (decide ((↑i : Int) < (↑ps.length : Int))) (.need ((0 : Int) ≤ (↑i : Int) ∧ (↑i : Int) < (↑ps.length : Int)) (.need ((0 : Nat) + (↑i : Int).toNat * (2 : Nat) + (2 : Nat) ≤ (flat ps).length) (.need ((0 : Int) ≤ (↑i : Int) ∧ (↑i : Int) < (↑n : Int)) (.need ((0 : Nat) + (↑i : Int).toNat * (2 : Nat) + (2 : Nat) ≤ (flat qs).length) (.leaf .normal ⟨[.slice (some ⟨0, 0, none⟩) (ps.length) (ps.length), topV, topV, .slice (some ⟨1, 0, none⟩) (n) (n), .int .i64 (IntKind.i64.wrap ((↑i : Int) + 1)), topV, topV, topV, topV, topV, topV, topV, topV, topV, topV, topV, topV, topV, topV, topV, topV, topV, topV], [some ⟨.view, .ints (flat ps)⟩, some ⟨.row 30 2, .ints (setInts (flat qs) (0 + (↑i : Int).toNat * 2) [(flat ps).getD (0 + (↑i : Int).toNat * 2) 0, (flat ps).getD (0 + (↑i : Int).toNat * 2 + 1) 0])⟩]⟩))))) (.leaf (.exit 0) ⟨[topV, topV, topV, .slice (some ⟨1, 0, none⟩) (n) (n), topV, topV, topV, topV, topV, topV, topV, topV, topV, topV, topV, topV, topV, topV, topV, topV, topV, topV, topV], [some ⟨.view, .ints (flat ps)⟩, some ⟨.row 30 2, .ints (flat qs)⟩]⟩) := by kernel_rfl
set_option maxRecDepth 100000 in
theorem nl_toPts : loopsOf c_toPts = [] := by kernel_rfl
def inv_toPts (ps : List Pt) (n : Nat) : Nat × (List Pt) → Prop := fun (i, qs) => i ≤ ps.length ∧ ps.length = n ∧ qs.length = n ∧ qs.take i = ps.take i
def me_toPts (ps : List Pt) (n : Nat) : Nat × (List Pt) → Nat := fun (i, qs) => ps.length - i
/-- A round of this loop. -/
def Round_toPts (ps : List Pt) (n : Nat) : Prop := ∀ xx : Nat × (List Pt), inv_toPts ps n xx → (bodyL Try.prog E3 30 12 noL 1 c_toPts k_toPts 2 (s_toPts ps n xx)).ok (RoundEnd 2 (s_toPts ps n) (inv_toPts ps n) (me_toPts ps n) re_toPts (rs_toPts ps n) xx) (fun _ _ => False)
def e_toPts (s : St) (k : Ex → St → Tree) : Option Tree := match Nat.beq s.tmps.length 23, pickL s.tmps [0, 3, 4], s.mem with
  | true, [.slice (some ⟨0, 0, none⟩) n _, .slice (some ⟨1, 0, none⟩) m _, .int .i64 i], [some ⟨.view, .ints xs⟩, some ⟨.row 30 2, .ints ys⟩] => some (needs [i = 0, m = n, xs.length = n * 2, ys.length = n * 2, n ≤ 1000000000] (k (.exit 0) ⟨[topV, topV, topV, .slice (some ⟨1, 0, none⟩) m m, topV, topV, topV, topV, topV, topV, topV, topV, topV, topV, topV, topV, topV, topV, topV, topV, topV, topV, topV], [some ⟨.view, .ints xs⟩, some ⟨.row 30 2, .ints xs⟩]⟩))
  | _, _, _ => none
set_option maxRecDepth 100000 in
theorem round_toPts (ps : List Pt) (n : Nat) (h : ps.length ≤ 1000000000) : Round_toPts ps n := by
  rintro ⟨i, qs⟩ ⟨h1, h2, h3, h4⟩
  rw [tr_toPts]
  simp only [brT_ok, Tree.ok, decide_eq_true_eq, decide_eq_false_iff_not, Int.toNat_natCast, Nat.zero_add, flat_length, flat_get0, flat_get1, Cs.size]
  refine ⟨fun hlt => ⟨by omega, by omega, by omega, by omega, ?_⟩, fun hge => ?_⟩
  · rw [wsucc (n := ps.length) (by omega) h, flat_set qs i (by omega)]
    refine ⟨(i + 1, qs.set i (ps.getD i (0, 0))), [], ⟨by omega, h2, by simp [h3], ?_⟩, ?_, rfl, rfl, ?_⟩
    · exact take_set_succ (by omega) (by omega) h4 _
    · show ps.length - (i + 1) < ps.length - i; omega
    · repeat' (first | exact True.intro | exact rfl | exact fun _ => rfl | refine And.intro ?_ ?_)
  · have e : qs = ps := by
      rw [List.take_of_length_le (by omega), List.take_of_length_le (by omega)] at h4
      exact h4
    subst e
    refine ⟨rfl, [], ?_⟩
    repeat' (first | exact True.intro | exact rfl | exact fun _ => rfl | refine And.intro ?_ ?_)
set_option maxRecDepth 100000 in
theorem lg_toPts : LoopE Try.prog e_toPts c_toPts := by
  intro s k t F H hlt ht
  unfold e_toPts at hlt
  split at hlt
  rotate_left
  · cases hlt
  rename_i hlen hpick hmem
  obtain ⟨tmps, mem⟩ := s
  simp only at hlen hpick hmem
  subst hmem
  obtain rfl := Option.some.inj hlt
  obtain ⟨⟨rfl, rfl, h1, h2, h3, _⟩, ht2⟩ := needs_ok ht
  clear ht hlt
  obtain ⟨ps, rfl, rfl⟩ := even_flat h1
  obtain ⟨qs, rfl, hq⟩ := even_flat h2
  refine ⟨_, _, ht2, loop_run mixed E3_ok (s_toPts ps ps.length) (inv_toPts ps ps.length) (me_toPts ps ps.length) re_toPts (rs_toPts ps ps.length) k_toPts (fun _ => rfl) (noLoops nl_toPts) (round_toPts ps ps.length h3) (x := (0, qs)) ⟨Nat.zero_le _, rfl, hq, rfl⟩ (π := []) rfl ?_⟩
  refine ⟨rfl, rfl, ?_, wvs_spread' [0, 3, 4] hlen rfl ?_⟩
  · repeat' (first | exact True.intro | exact rfl | exact wv_top _ _ | exact fun _ => rfl | assumption | exact Eq.symm (by assumption) | exact vI0 rfl | refine And.intro ?_ ?_)
  · rw [hpick]
    repeat' (first | exact True.intro | exact rfl | exact wv_top _ _ | exact fun _ => rfl | assumption | exact Eq.symm (by assumption) | exact vI0 rfl | refine And.intro ?_ ?_)
noncomputable def c_eqPts : Code := ((loopsOf (codeOf Try.f28))[0]?).getD .skip
def k_eqPts : Ex → List Nat := keeps [0, 1, 5] [(0, [])] [4]
def s_eqPts (ps : List Pt) (qs : List Pt) : Nat → St := fun i => ⟨[.slice (some ⟨0, 0, none⟩) ps.length ps.length, .slice (some ⟨1, 0, none⟩) qs.length qs.length, topV, topV, topV, .int .i64 i, topV, topV, topV, topV, topV, topV, topV, topV, topV, topV, topV, topV, topV, topV, topV, topV, topV, topV, topV, topV, topV], [some ⟨.view, .ints (flat ps)⟩, some ⟨.view, .ints (flat qs)⟩]⟩
def re_eqPts (ps : List Pt) (qs : List Pt) : Nat → Ex := fun i => bif decide (ps.drop i = qs.drop i) then .exit 0 else .ret
def rs_eqPts (ps : List Pt) (qs : List Pt) : Nat → St := fun i => bif decide (ps.drop i = qs.drop i) then ⟨[topV, topV, topV, topV, topV, topV, topV, topV, topV, topV, topV, topV, topV, topV, topV, topV, topV, topV, topV, topV, topV, topV, topV, topV, topV, topV, topV], [some ⟨.view, .ints (flat ps)⟩, some ⟨.view, .ints (flat qs)⟩]⟩ else ⟨[topV, topV, topV, topV, .bool false, topV, topV, topV, topV, topV, topV, topV, topV, topV, topV, topV, topV, topV, topV, topV, topV, topV, topV, topV, topV, topV, topV], [some ⟨.view, .ints (flat ps)⟩, some ⟨.view, .ints (flat qs)⟩]⟩
set_option maxRecDepth 100000 in
theorem tr_eqPts (ps : List Pt) (qs : List Pt) (i : Nat) : bodyL Try.prog E3 30 12 noL 1 c_eqPts k_eqPts 2 (s_eqPts ps qs i) = brT (decide ((↑i : Int) < (↑ps.length : Int))) (brT (!(flat ps).getD (0 + (↑i : Int).toNat * 2) 0 == (flat qs).getD (0 + (↑i : Int).toNat * 2) 0) (.need ((0 : Int) ≤ (↑i : Int) ∧ (↑i : Int) < (↑ps.length : Int)) (.need ((0 : Nat) + (↑i : Int).toNat * (2 : Nat) + (2 : Nat) ≤ (flat ps).length) (.need ((0 : Int) ≤ (↑i : Int) ∧ (↑i : Int) < (↑qs.length : Int)) (.need ((0 : Nat) + (↑i : Int).toNat * (2 : Nat) + (2 : Nat) ≤ (flat qs).length) (.leaf .ret ⟨[topV, topV, topV, topV, .bool (false), topV, topV, topV, topV, topV, topV, topV, topV, topV, topV, topV, topV, topV, topV, topV, topV, topV, topV, topV, topV, topV, topV], [some ⟨.view, .ints (flat ps)⟩, some ⟨.view, .ints (flat qs)⟩]⟩))))) (brT (!(flat ps).getD (0 + (↑i : Int).toNat * 2 + 1) 0 == (flat qs).getD (0 + (↑i : Int).toNat * 2 + 1) 0) (.need ((0 : Int) ≤ (↑i : Int) ∧ (↑i : Int) < (↑ps.length : Int)) (.need ((0 : Nat) + (↑i : Int).toNat * (2 : Nat) + (2 : Nat) ≤ (flat ps).length) (.need ((0 : Int) ≤ (↑i : Int) ∧ (↑i : Int) < (↑qs.length : Int)) (.need ((0 : Nat) + (↑i : Int).toNat * (2 : Nat) + (2 : Nat) ≤ (flat qs).length) (.leaf .ret ⟨[topV, topV, topV, topV, .bool (false), topV, topV, topV, topV, topV, topV, topV, topV, topV, topV, topV, topV, topV, topV, topV, topV, topV, topV, topV, topV, topV, topV], [some ⟨.view, .ints (flat ps)⟩, some ⟨.view, .ints (flat qs)⟩]⟩))))) (.need ((0 : Int) ≤ (↑i : Int) ∧ (↑i : Int) < (↑ps.length : Int)) (.need ((0 : Nat) + (↑i : Int).toNat * (2 : Nat) + (2 : Nat) ≤ (flat ps).length) (.need ((0 : Int) ≤ (↑i : Int) ∧ (↑i : Int) < (↑qs.length : Int)) (.need ((0 : Nat) + (↑i : Int).toNat * (2 : Nat) + (2 : Nat) ≤ (flat qs).length) (.leaf .normal ⟨[.slice (some ⟨0, 0, none⟩) (ps.length) (ps.length), .slice (some ⟨1, 0, none⟩) (qs.length) (qs.length), topV, topV, topV, .int .i64 (IntKind.i64.wrap ((↑i : Int) + 1)), topV, topV, topV, topV, topV, topV, topV, topV, topV, topV, topV, topV, topV, topV, topV, topV, topV, topV, topV, topV, topV], [some ⟨.view, .ints (flat ps)⟩, some ⟨.view, .ints (flat qs)⟩]⟩))))))) (.leaf (.exit 0) ⟨[topV, topV, topV, topV, topV, topV, topV, topV, topV, topV, topV, topV, topV, topV, topV, topV, topV, topV, topV, topV, topV, topV, topV, topV, topV, topV, topV], [some ⟨.view, .ints (flat ps)⟩, some ⟨.view, .ints (flat qs)⟩]⟩) := by kernel_rfl
set_option maxRecDepth 100000 in
theorem nl_eqPts : loopsOf c_eqPts = [] := by kernel_rfl
def inv_eqPts (ps : List Pt) (qs : List Pt) : Nat → Prop := fun i => i ≤ ps.length ∧ ps.length = qs.length
def me_eqPts (ps : List Pt) (qs : List Pt) : Nat → Nat := fun i => ps.length - i
/-- A round of this loop. -/
def Round_eqPts (ps : List Pt) (qs : List Pt) : Prop := ∀ xx : Nat, inv_eqPts ps qs xx → (bodyL Try.prog E3 30 12 noL 1 c_eqPts k_eqPts 2 (s_eqPts ps qs xx)).ok (RoundEnd 2 (s_eqPts ps qs) (inv_eqPts ps qs) (me_eqPts ps qs) (re_eqPts ps qs) (rs_eqPts ps qs) xx) (fun _ _ => False)
def e_eqPts (s : St) (k : Ex → St → Tree) : Option Tree := match Nat.beq s.tmps.length 27, pickL s.tmps [0, 1, 5], s.mem with
  | true, [.slice (some ⟨0, 0, none⟩) n _, .slice (some ⟨1, 0, none⟩) m _, .int .i64 i], [some ⟨.view, .ints xs⟩, some ⟨.view, .ints ys⟩] => some (needs [i = 0, m = n, xs.length = n * 2, ys.length = n * 2, n ≤ 1000000000] (brT (eqL (ptsA n xs) (ptsA n ys)) (k (.exit 0) ⟨[topV, topV, topV, topV, topV, topV, topV, topV, topV, topV, topV, topV, topV, topV, topV, topV, topV, topV, topV, topV, topV, topV, topV, topV, topV, topV, topV], [some ⟨.view, .ints xs⟩, some ⟨.view, .ints ys⟩]⟩) (k .ret ⟨[topV, topV, topV, topV, .bool false, topV, topV, topV, topV, topV, topV, topV, topV, topV, topV, topV, topV, topV, topV, topV, topV, topV, topV, topV, topV, topV, topV], [some ⟨.view, .ints xs⟩, some ⟨.view, .ints ys⟩]⟩)))
  | _, _, _ => none
set_option maxRecDepth 100000 in
theorem round_eqPts (ps qs : List Pt) (h : ps.length ≤ 1000000000) : Round_eqPts ps qs := by
  rintro i ⟨h1, h2⟩
  rw [tr_eqPts]
  simp only [brT_ok, Tree.ok, decide_eq_true_eq, decide_eq_false_iff_not, Int.toNat_natCast, Nat.zero_add, flat_length, flat_get0, flat_get1, Bool.not_eq_true', Bool.not_eq_false', beq_iff_eq, beq_eq_false_iff_ne]
  refine ⟨fun hlt => ?_, fun hge => ?_⟩
  · have hd1 := drop_cons (l := ps) (k := i) (by omega) (0, 0)
    have hd2 := drop_cons (l := qs) (k := i) (by omega) (0, 0)
    have ne : ps.getD i (0, 0) ≠ qs.getD i (0, 0) → decide (ps.drop i = qs.drop i) = false := fun hne => by
      rw [hd1, hd2]
      simp only [List.cons.injEq, decide_eq_false_iff_not]
      exact fun h => hne h.1
    refine ⟨fun hv => ⟨by omega, by omega, by omega, by omega, ?_⟩, fun hv => ⟨fun hv2 => ⟨by omega, by omega, by omega, by omega, ?_⟩, fun hv2 => ⟨by omega, by omega, by omega, by omega, ?_⟩⟩⟩
    · have e := ne fun h => hv (by rw [h])
      refine ⟨by simp only [re_eqPts, e, cond_false], [], ?_⟩
      simp only [rs_eqPts, e, cond_false]
      repeat' (first | exact True.intro | exact rfl | exact fun _ => rfl | refine And.intro ?_ ?_)
    · have e := ne fun h => hv2 (by rw [h])
      refine ⟨by simp only [re_eqPts, e, cond_false], [], ?_⟩
      simp only [rs_eqPts, e, cond_false]
      repeat' (first | exact True.intro | exact rfl | exact fun _ => rfl | refine And.intro ?_ ?_)
    · have hp : ps.getD i (0, 0) = qs.getD i (0, 0) := Prod.ext hv hv2
      have e : decide (ps.drop i = qs.drop i) = decide (ps.drop (i + 1) = qs.drop (i + 1)) := by
        rw [hd1, hd2, hp]
        simp
      rw [wsucc (n := ps.length) (by omega) h]
      refine ⟨i + 1, [], ⟨by omega, h2⟩, ?_, by simp only [re_eqPts, e], by simp only [rs_eqPts, e], ?_⟩
      · show ps.length - (i + 1) < ps.length - i; omega
      · repeat' (first | exact True.intro | exact rfl | exact fun _ => rfl | refine And.intro ?_ ?_)
  · have e : decide (ps.drop i = qs.drop i) = true := by rw [List.drop_of_length_le (by omega), List.drop_of_length_le (by omega)]; rfl
    refine ⟨by simp only [re_eqPts, e, cond_true], [], ?_⟩
    simp only [rs_eqPts, e, cond_true]
    repeat' (first | exact True.intro | exact rfl | exact fun _ => rfl | refine And.intro ?_ ?_)
set_option maxRecDepth 100000 in
theorem lg_eqPts : LoopE Try.prog e_eqPts c_eqPts := by
  intro s k t F H hlt ht
  unfold e_eqPts at hlt
  split at hlt
  rotate_left
  · cases hlt
  rename_i hlen hpick hmem
  obtain ⟨tmps, mem⟩ := s
  simp only at hlen hpick hmem
  subst hmem
  obtain rfl := Option.some.inj hlt
  obtain ⟨⟨rfl, rfl, h1, h2, h3, _⟩, ht2⟩ := needs_ok ht
  clear ht hlt
  obtain ⟨ps, rfl, rfl⟩ := even_flat h1
  obtain ⟨qs, rfl, hq⟩ := even_flat h2
  rw [ptsA_flat, ← hq, ptsA_flat] at ht2
  refine ⟨_, _, pick2k ht2, loop_run mixed E3_ok (s_eqPts ps qs) (inv_eqPts ps qs) (me_eqPts ps qs) (re_eqPts ps qs) (rs_eqPts ps qs) k_eqPts (fun _ => rfl) (noLoops nl_eqPts) (round_eqPts ps qs h3) (x := 0) ⟨Nat.zero_le _, hq.symm⟩ (π := []) rfl ?_⟩
  refine ⟨rfl, rfl, ?_, wvs_spread' [0, 1, 5] hlen rfl ?_⟩
  · repeat' (first | exact True.intro | exact rfl | exact wv_top _ _ | exact fun _ => rfl | assumption | exact Eq.symm (by assumption) | exact vI0 rfl | refine And.intro ?_ ?_)
  · rw [hpick]
    repeat' (first | exact True.intro | exact rfl | exact wv_top _ _ | exact fun _ => rfl | assumption | exact Eq.symm (by assumption) | exact vI0 rfl | refine And.intro ?_ ?_)
end Go.Proofs.Ytnjmepbblcfnfaa
namespace Go.Proofs.Ytnjmepbblcfnfaa
set_option linter.all false
open Go.RowKit
def L4 : FuncId → LT := fun f => match f with
  | 26 => lt1 e_toPts
  | 28 => lt1 e_eqPts
  | _ => noL
def E4 : Env := mkE (T2) (fun _ _ => none) (L4)
theorem code_of {f : FuncId} {fn g : Func} (h : Try.prog.funcs[f]? = some g) (hf : Try.prog.funcs[f]? = some fn) : g = fn := by rw [h] at hf; simpa using hf
theorem Lr_toPts {fn : Func} (hf : Try.prog.funcs[26]? = some fn) : LoopsGood Try.prog (lt1 e_toPts) 0 (codeOf fn) := by
  obtain rfl := code_of Try.func26 hf
  exact lt1_good lg_toPts
theorem Lr_eqPts {fn : Func} (hf : Try.prog.funcs[28]? = some fn) : LoopsGood Try.prog (lt1 e_eqPts) 0 (codeOf fn) := by
  obtain rfl := code_of Try.func28 hf
  exact lt1_good lg_eqPts
theorem L4_ok : ∀ f fn, Try.prog.funcs[f]? = some fn → LoopsGood Try.prog (L4 f) 0 (codeOf fn) := by
  intro f fn hf
  unfold L4
  split
  all_goals first | with_reducible exact Lr_toPts hf | with_reducible exact Lr_eqPts hf | with_reducible exact Lr_specCW hf | with_reducible exact Lr_implCW hf | exact noL_good
theorem E4_ok : EnvOk Try.prog E4 := mkEOk (T2_ok) (fun _ _ _ _ _ h => (by cases h)) (L4_ok)
set_option maxRecDepth 100000 in
theorem tr_toPointS (ps : List Pt) : bodyX Try.prog E4 30 12 26 [.row ps.length (.ints (flat ps))] = .need ((0 : Int) ≤ (↑ps.length : Int) ∧ (↑ps.length : Int) ≤ (↑ps.length : Int) ∧ (16 : Nat) * (↑ps.length : Int).toNat ≤ (281474976710656 : Nat) ∧ (↑ps.length : Int) ≤ (9223372036854775807 : Int)) (.need ((0 : Int) = (0 : Int)) (.need ((↑ps.length : Int).toNat = ps.length) (.need ((flat ps).length = ps.length * (2 : Nat)) (.need ((List.replicate ((↑ps.length : Int).toNat * (2 : Nat)) (0 : Int)).length = ps.length * (2 : Nat)) (.need (ps.length ≤ (1000000000 : Nat)) (.fin (.slice (some ⟨1, 0, none⟩) ((↑ps.length : Int).toNat) ((↑ps.length : Int).toNat)) [some ⟨.view, .ints (flat ps)⟩, some ⟨.row 30 2, .ints (flat ps)⟩])))))) := by kernel_rfl
set_option maxRecDepth 100000 in
theorem tr_eqPointS (ps qs : List Pt) : bodyX Try.prog E4 30 12 28 [.row ps.length (.ints (flat ps)), .row qs.length (.ints (flat qs))] = brT (!(↑ps.length : Int) == (↑qs.length : Int)) (.fin (.bool (false)) [some ⟨.view, .ints (flat ps)⟩, some ⟨.view, .ints (flat qs)⟩]) (.need ((0 : Int) = (0 : Int)) (.need (qs.length = ps.length) (.need ((flat ps).length = ps.length * (2 : Nat)) (.need ((flat qs).length = ps.length * (2 : Nat)) (.need (ps.length ≤ (1000000000 : Nat)) (brT (eqL (ptsA ps.length (flat ps)) (ptsA ps.length (flat qs))) (.fin (.bool (true)) [some ⟨.view, .ints (flat ps)⟩, some ⟨.view, .ints (flat qs)⟩]) (.fin (.bool (false)) [some ⟨.view, .ints (flat ps)⟩, some ⟨.view, .ints (flat qs)⟩]))))))) := by kernel_rfl
theorem resR_toPointS (ps : List Pt) (h : Big ps) : ResR Try.prog 26 [.row ps.length (.ints (flat ps))] (.slice (some ⟨0, 0, none⟩) ps.length ps.length) ⟨.row 30 2, .ints (flat ps)⟩ := by
  refine bodyX_resR mixed E4_ok (m := 30) (n := 12) rfl ?_
  rw [tr_toPointS]
  unfold Big at h
  simp only [Tree.ok, flat_length, Int.toNat_natCast, List.length_replicate]
  exact ⟨by omega, trivial, trivial, trivial, trivial, h, some 1, ⟨rfl, rfl, rfl⟩, rfl, rfl, rfl⟩
theorem res_eqPointS (ps qs : List Pt) (h : Big ps) : Res Try.prog 28 [.row ps.length (.ints (flat ps)), .row qs.length (.ints (flat qs))] (.bool (eqL ps qs)) := by
  refine bodyX_res mixed E4_ok (m := 30) (n := 12) rfl ?_
  rw [tr_eqPointS]
  unfold Big at h
  by_cases hl : ps.length = qs.length
  · have e : ptsA ps.length (flat qs) = qs := by rw [hl, ptsA_flat]
    rw [e, ptsA_flat, show (!((ps.length : Int) == (qs.length : Int))) = false by simp [hl]]
    simp only [brT_f, Tree.ok, flat_length]
    refine ⟨trivial, hl.symm, trivial, by omega, h, ?_⟩
    cases eqL ps qs <;> rfl
  · have e : eqL ps qs = false := by
      unfold eqL
      rw [decide_eq_false_iff_not]
      rintro rfl
      exact hl rfl
    rw [show (!((ps.length : Int) == (qs.length : Int))) = true by simp; omega]
    simp only [brT_t, Tree.ok, e]
def pEq2 : List DArg → Option (Value × List Prop)
  | [.row m (.ints xs), .row n (.ints ys)] => some (.bool (eqL (ptsA m xs) (ptsA n ys)), [m * 2 ≤ xs.length, n * 2 ≤ ys.length, m ≤ 1000000000])
  | _ => none
def T3 : Tab := fun f ds => match f with
  | 28 => pEq2 ds
  | f => T2 f ds
theorem pEq2_ok {ds : List DArg} {v : Value} {C : List Prop} (h : pEq2 ds = some (v, C)) (hC : AllP C) : Res Try.prog 28 ds v := by
  unfold pEq2 at h
  split at h
  · rename_i m xs n ys
    obtain ⟨rfl, rfl⟩ : _ ∧ _ := by simpa using h
    obtain ⟨_, h2⟩ := ptsA_spec hC.1
    have h0 := res_eqPointS (ptsA m xs) (ptsA n ys) (by unfold Big; rw [h2]; exact hC.2.2.1)
    exact res_pts1 (pre := []) (post := [_]) hC.1 (res_pts1 (pre := [_]) (post := []) hC.2.1 h0)
  · cases h
theorem T3_ok : TabOk Try.prog T3 := by
  intro f ds v C h hC
  unfold T3 at h
  (try split at h)
  all_goals first | with_reducible exact pEq2_ok h hC | with_reducible exact pCWs_ok h hC | with_reducible exact pCWi_ok h hC | exact T2_ok _ _ _ _ h hC
def R4 : TabR := fun f ds => match f, ds with
  | 26, [.row n (.ints xs)] => some (.slice (some ⟨0, 0, none⟩) n n, ⟨.row 30 2, .ints (xs.take (n * 2))⟩, [n * 2 ≤ xs.length, n ≤ 1000000000])
  | _, _ => none
theorem R4_ok : TabROk Try.prog R4 := by
  intro f ds v b C h hC
  unfold R4 at h
  split at h
  · rename_i n xs
    obtain ⟨rfl, rfl, rfl⟩ : _ ∧ _ ∧ _ := by simpa using h
    obtain ⟨h1, h2⟩ := ptsA_spec hC.1
    have h0 := resR_toPointS (ptsA n xs) (by unfold Big; rw [h2]; exact hC.2.1)
    have h3 := resR_pts1 (pre := []) (post := []) hC.1 h0
    rw [h2, ← h1] at h3
    exact h3
  · cases h
end Go.Proofs.Ytnjmepbblcfnfaa
namespace Go.Proofs.Ytnjmepbblcfnfaa
set_option linter.all false
open Go.RowKit
theorem loop_det2 {P : Program} {c : Code} {N M : Nat} {X : Type} (St_of : X → St) (Inv : X → Prop) (μ : X → Nat) (re : X → Ex) (rs : X → St) (keep : Ex → List Nat) (hM : ∀ x, (St_of x).mem.length ≤ M)
    (h : ∀ x, Inv x → ∃ e' s', Det P c (St_of x) e' s' ∧ match e' with
      | .normal => ∃ x' π, Inv x' ∧ μ x' < μ x ∧ re x' = re x ∧ rs x' = rs x ∧ WS N π (cutS M (keep .normal) s') (St_of x')
      | e => e = re x ∧ ∃ π, WS N π (cutS M (keep e) s') (rs x))
    {x : X} (hx : Inv x) {s : St} {π : List (Option Nat)} (hN : s.mem.length = N) (hs : WS N π s (St_of x)) : Det P (.loop c) s (re x) (rs x) := by
  intro w0 a w hc
  have hρ := con_dom hc
  rw [hN] at hρ
  have hρ' : ∀ {x' π' s'}, WS N π' s' (St_of x') → ∀ n, (St_of x').mem.length ≤ n → w0.ρ0 n = none := fun h n hn => hρ n (Nat.le_trans (Nat.le_of_ble_eq_true h.1) hn)
  refine wpIn_loop_ghost (fun n a w => ∃ x', Inv x' ∧ μ x' = n ∧ re x' = re x ∧ rs x' = rs x ∧ (∀ n, (St_of x').mem.length ≤ n → w0.ρ0 n = none) ∧ Con w0 (St_of x').fs a w) (μ x) ⟨x, hx, rfl, rfl, rfl, hρ' hs, weak_con hs hρ hc⟩ ?_
  rintro n a w ⟨x', hI, rfl, hre, hrs, hdom, hcc⟩
  obtain ⟨e', s', hd, hend⟩ := h x' hI
  have hdom2 : ∀ n, M ≤ n → w0.ρ0 n = none := fun n hn => hdom n (Nat.le_trans (hM x') hn)
  refine wpIn_mono (hd w0 a w hcc) ?_
  rintro e a' w' ⟨rfl, hcc'⟩
  cases e' with
  | normal =>
    obtain ⟨x2, π2, g1, g2, g3, g4, g5⟩ := hend
    exact ⟨_, g2, x2, g1, rfl, g3.trans hre, g4.trans hrs, hρ' g5, weak_con g5 hρ (cut_con hdom2 hcc')⟩
  | exit id =>
    obtain ⟨g1, π2, g2⟩ := hend
    exact ⟨by rw [← hre, ← g1], by rw [← hrs]; exact weak_con g2 hρ (cut_con hdom2 hcc')⟩
  | ret =>
    obtain ⟨g1, π2, g2⟩ := hend
    exact ⟨by rw [← hre, ← g1], by rw [← hrs]; exact weak_con g2 hρ (cut_con hdom2 hcc')⟩
theorem loop_run2 {P : Program} (hm : P.follows .mixedOrders = true) {E : Env} (hE : EnvOk P E) {m n : Nat} {lt : LT} {j : Nat} {c : Code} {N : Nat} {X : Type} (St_of : X → St) (Inv : X → Prop) (μ : X → Nat) (re : X → Ex) (rs : X → St) (keep : Ex → List Nat) {M : Nat} (hM : ∀ x, Nat.ble (St_of x).mem.length M = true) (hL : LoopsGood P lt j c)
    (h : ∀ x, Inv x → (bodyL P E m n lt j c keep M (St_of x)).ok (RoundEnd N St_of Inv μ re rs x) (fun _ _ => False))
    {x : X} (hx : Inv x) {s : St} {π : List (Option Nat)} (hN : s.mem.length = N) (hs : WS N π s (St_of x)) : Det P (.loop c) s (re x) (rs x) :=
  loop_det2 (M := M) St_of Inv μ re rs keep (fun x => Nat.le_of_ble_eq_true (hM x)) (fun x hx => by
    obtain ⟨e', s', h1, h2⟩ := body_det hm hE hL (h x hx)
    refine ⟨e', s', h1, ?_⟩
    unfold RoundEnd at h2
    cases e' <;> exact h2) hx hN hs
end Go.Proofs.Ytnjmepbblcfnfaa
namespace Go.Proofs.Ytnjmepbblcfnfaa
set_option linter.all false
open Go.RowKit
theorem vI0 {k : Int} {n : Nat} (h : n = 0) : Value.int .i64 k = .int .i64 (k + (n : Int)) := by subst h; simp
end Go.Proofs.Ytnjmepbblcfnfaa
namespace Go.Proofs.Ytnjmepbblcfnfaa
set_option linter.all false
open Go.RowKit
theorem fn_is {f : FuncId} {fn g : Func} (h : Try.prog.funcs[f]? = some g) (hf : Try.prog.funcs[f]? = some fn) : g = fn := by rw [h] at hf; simpa using hf
def Lim (n : Nat) : Prop := n ≤ 1000000000
end Go.Proofs.Ytnjmepbblcfnfaa
namespace Go.Proofs.Ytnjmepbblcfnfaa
set_option linter.all false
open Go.RowKit
/-- The places of those elements that pass a test. -/
def idxF (P : Pt → Bool) : List Pt → Nat → List Int
  | [], _ => []
  | p :: r, k => bif P p then (k : Int) :: idxF P r (k + 1) else idxF P r (k + 1)
theorem idx_yes {P : Pt → Bool} {ps : List Pt} {i : Nat} (h : i < ps.length) (hP : P (ps.getD i (0, 0)) = true) (o : List Int) : o ++ idxF P (ps.drop i) i = (o ++ [(i : Int)]) ++ idxF P (ps.drop (i + 1)) (i + 1) := by
  rw [drop_cons h (0, 0)]
  simp only [idxF, hP, cond_true, List.append_assoc, List.singleton_append]
theorem idx_no {P : Pt → Bool} {ps : List Pt} {i : Nat} (h : i < ps.length) (hP : P (ps.getD i (0, 0)) = false) : idxF P (ps.drop i) i = idxF P (ps.drop (i + 1)) (i + 1) := by
  rw [drop_cons h (0, 0)]
  simp only [idxF, hP, cond_false]
theorem idx_end {P : Pt → Bool} {ps : List Pt} {i : Nat} (h : ps.length ≤ i) : idxF P (ps.drop i) i = [] := by
  rw [List.drop_of_length_le h]
  rfl
theorem idx_len (P : Pt → Bool) : ∀ (ps : List Pt) (k : Nat), (idxF P ps k).length ≤ ps.length
  | [], _ => Nat.le_refl _
  | p :: r, k => by
    have := idx_len P r (k + 1)
    simp only [idxF]
    cases P p <;> simp <;> omega
theorem take_all1 (o : List Int) : List.take (o.length * 1) (List.drop 0 o) = o := by rw [Nat.mul_one, List.drop_zero, List.take_length]
end Go.Proofs.Ytnjmepbblcfnfaa
namespace Go.Proofs.Ytnjmepbblcfnfaa
set_option linter.all false
open Go.RowKit
theorem negT_ (b : Bool) : negB true b = !b := by cases b <;> rfl
theorem negF_ (b : Bool) : negB false b = b := by cases b <;> rfl
end Go.Proofs.Ytnjmepbblcfnfaa
namespace Go.Proofs.Ytnjmepbblcfnfaa
set_option linter.all false
open Go.RowKit
/-- Of so many from i on, all. -/
def allQ (P : Nat → Bool) : Nat → Nat → Bool
  | _, 0 => true
  | i, m + 1 => P i && allQ P (i + 1) m
theorem allQ_step {P : Nat → Bool} {i n : Nat} (h : i < n) : allQ P i (n - i) = (P i && allQ P (i + 1) (n - (i + 1))) := by
  rw [show n - i = (n - (i + 1)) + 1 by omega]
  rfl
theorem allQ_end {P : Nat → Bool} {i n : Nat} (h : n ≤ i) : allQ P i (n - i) = true := by
  rw [show n - i = 0 by omega]
  rfl
theorem allQ_get {P : Nat → Bool} : ∀ (m i : Nat), allQ P i m = true → ∀ j, i ≤ j → j < i + m → P j = true
  | 0, i, _, j, h1, h2 => by omega
  | m + 1, i, h, j, h1, h2 => by
    simp only [allQ, Bool.and_eq_true] at h
    rcases Nat.lt_or_ge i j with h3 | h3
    · exact allQ_get m (i + 1) h.2 j (by omega) (by omega)
    · obtain rfl : j = i := by omega
      exact h.1
end Go.Proofs.Ytnjmepbblcfnfaa
namespace Go.Proofs.Ytnjmepbblcfnfaa
set_option linter.all false
open Go.RowKit
/-- A value with its names counted anew. -/
def canA (ns : List Nat) : Value → Option (Value × List Nat)
  | .pointer (some ⟨n, o, none⟩) => some (.pointer (some ⟨ns.length, o, none⟩), ns ++ [n])
  | .slice (some ⟨n, 0, none⟩) l _ => some (.slice (some ⟨ns.length, 0, none⟩) l l, ns ++ [n])
  | v => match plainV v with
    | true => some (v, ns)
    | false => none
def canL (ns : List Nat) : List Value → Option (List Value × List Nat)
  | [] => some ([], ns)
  | v :: r => match canA ns v with
    | some (v', ns1) => (match canL ns1 r with
      | some (r', ns2) => some (v' :: r', ns2)
      | none => none)
    | none => none
def canV (ns : List Nat) : Value → Option (Value × List Nat)
  | .func fn ⟨[]⟩ ⟨c⟩ => match canL ns c with
    | some (c', ns1) => some (.func fn ⟨[]⟩ ⟨c'⟩, ns1)
    | none => none
  | v => canA ns v
def canVs (ns : List Nat) : List Value → Option (List Value × List Nat)
  | [] => some ([], ns)
  | v :: r => match canV ns v with
    | some (v', ns1) => (match canVs ns1 r with
      | some (r', ns2) => some (v' :: r', ns2)
      | none => none)
    | none => none
/-- The blocks of names, and of the names that lie in them. -/
def rdMem : Nat → Nat → List Nat → List Cs → Rd (List Nat × List Cs)
  | 0, _, _, _ => .fail
  | q + 1, i, ns, css => match ns[i]? with
    | none => .ret (ns, css)
    | some n => .blk n fun b => match b with
      | some b => (match b.live with
        | true => (match b.cs with
          | .vals l => (match canVs ns l with
            | some (l', ns') => rdMem q (i + 1) ns' (css ++ [.vals l'])
            | none => .fail)
          | cs => rdMem q (i + 1) ns (css ++ [cs]))
        | false => .fail)
      | none => .fail
/-- What a function answers: its arguments and the cells of the blocks that they name, counted anew. -/
abbrev PSpec := List Value → List Cs → Option (Value × List Prop)
def rfG (sp : PSpec) (args : List Value) : Rd Eff := match canVs [] args with
  | some (zs, ns) => (rdMem 20 0 ns []).bind fun r => (match sp zs r.2 with
    | some (v, C) => .ret ⟨v, [], C⟩
    | none => .fail)
  | none => .fail
def PSpecOk (P : Program) (f : FuncId) (sp : PSpec) : Prop := ∀ zs css v C, sp zs css = some (v, C) → AllP C → ∃ (E : Env) (m n : Nat), EnvOk P E ∧ plainV v = true ∧
  (bodyM P E (runM P E m n) m f zs (css.map fun cs => some ⟨.view, cs⟩) .fin).ok (fun _ _ => False) (fun u _ => u = v)
/-- The one value is the other with its names counted anew. -/
def Ren (ns : List Nat) (v v' : Value) : Prop := ∀ (ρ ρs : Nat → Option Pl) (x : Value), (∀ (k : Nat) n, ns[k]? = some n → ρs k = ρ n) → VR ρ v x → VR ρs v' x
theorem Ren.mono {ns t : List Nat} {v v' : Value} (h : Ren ns v v') : Ren (ns ++ t) v v' := fun ρ ρs x hk => h ρ ρs x fun k n hn => hk k n (by
  rw [List.getElem?_append_left (by
    have := List.getElem?_eq_some_iff.1 hn
    exact this.1)]
  exact hn)
theorem ren_plain {ns : List Nat} {v : Value} (h : plainV v = true) : Ren ns v v := fun ρ ρs x _ hx => by
  rw [hx.plain h]
  exact .lit h
theorem canA_ok {ns ns1 : List Nat} {v v' : Value} (h : canA ns v = some (v', ns1)) : ∃ t, ns1 = ns ++ t ∧ Ren ns1 v v' := by
  unfold canA at h
  split at h
  · rename_i n o
    obtain ⟨rfl, rfl⟩ : _ ∧ _ := by simpa using h
    refine ⟨[n], rfl, fun ρ ρs x hk hx => ?_⟩
    obtain ⟨g, f, cp, h1, h2, rfl⟩ := hx.ptr_inv
    exact .ptr ((hk ns.length n (by simp)).trans h1) h2
  · rename_i n l c
    obtain ⟨rfl, rfl⟩ : _ ∧ _ := by simpa using h
    exact ⟨[n], rfl, fun ρ ρs x hk hx => vr_ren (hk ns.length n (by simp)) hx⟩
  · split at h
    · rename_i hp
      obtain ⟨rfl, rfl⟩ : _ ∧ _ := by simpa using h
      exact ⟨[], by simp, ren_plain hp⟩
    · cases h
def RenL (ns : List Nat) (l l' : List Value) : Prop := l.length = l'.length ∧ ∀ (k : Nat) v v', l[k]? = some v → l'[k]? = some v' → Ren ns v v'
theorem RenL.mono {ns t : List Nat} {l l' : List Value} (h : RenL ns l l') : RenL (ns ++ t) l l' := ⟨h.1, fun k v v' h1 h2 => (h.2 k v v' h1 h2).mono⟩
theorem RenL.cons {ns : List Nat} {l l' : List Value} {v v' : Value} (hv : Ren ns v v') (h : RenL ns l l') : RenL ns (v :: l) (v' :: l') := by
  refine ⟨by simp [h.1], fun k u u' h1 h2 => ?_⟩
  cases k with
  | zero =>
    obtain rfl : v = u := by simpa using h1
    obtain rfl : v' = u' := by simpa using h2
    exact hv
  | succ k => exact h.2 k u u' (by simpa using h1) (by simpa using h2)
theorem canL_ok : ∀ {l l' : List Value} {ns ns1 : List Nat}, canL ns l = some (l', ns1) → ∃ t, ns1 = ns ++ t ∧ RenL ns1 l l'
  | [], l', ns, ns1, h => by
    obtain ⟨rfl, rfl⟩ : _ ∧ _ := by simpa [canL] using h
    exact ⟨[], by simp, rfl, fun k v v' h1 _ => by simp at h1⟩
  | v :: r, l', ns, ns1, h => by
    simp only [canL] at h
    split at h
    rotate_left
    · cases h
    rename_i v' ns2 h1
    split at h
    rotate_left
    · cases h
    rename_i r' ns3 h2
    obtain ⟨rfl, rfl⟩ : _ ∧ _ := by simpa using h
    obtain ⟨t1, rfl, k1⟩ := canA_ok h1
    obtain ⟨t2, rfl, k2⟩ := canL_ok h2
    exact ⟨t1 ++ t2, by simp, k2.cons k1.mono⟩
theorem canV_ok {ns ns1 : List Nat} {v v' : Value} (h : canV ns v = some (v', ns1)) : ∃ t, ns1 = ns ++ t ∧ Ren ns1 v v' := by
  unfold canV at h
  split at h
  · rename_i fn c
    split at h
    rotate_left
    · cases h
    rename_i c' ns2 h1
    obtain ⟨rfl, rfl⟩ : _ ∧ _ := by simpa using h
    obtain ⟨t, rfl, hl, hr⟩ := canL_ok h1
    refine ⟨t, rfl, fun ρ ρs x hk hx => ?_⟩
    obtain ⟨f', c2, rfl, hf, hc⟩ := hx.func_inv
    refine .func (by simpa using hf.1) (by simpa [← hl] using hc.1) (fun i u u' h1 _ => by simp at h1) fun i u u' h1 h2 => ?_
    have h1 : c'[i]? = some u := by simpa using h1
    have hi : i < c.length := by
      have := (List.getElem?_eq_some_iff.1 h1).1
      omega
    obtain ⟨u0, h0⟩ : ∃ u0, c[i]? = some u0 := ⟨c[i], by simp [hi]⟩
    exact hr i u0 u h0 h1 ρ ρs u' hk (hc.2 i u0 u' (by simpa using h0) h2)
  · exact canA_ok h
theorem canVs_ok : ∀ {l l' : List Value} {ns ns1 : List Nat}, canVs ns l = some (l', ns1) → ∃ t, ns1 = ns ++ t ∧ RenL ns1 l l'
  | [], l', ns, ns1, h => by
    obtain ⟨rfl, rfl⟩ : _ ∧ _ := by simpa [canVs] using h
    exact ⟨[], by simp, rfl, fun k v v' h1 _ => by simp at h1⟩
  | v :: r, l', ns, ns1, h => by
    simp only [canVs] at h
    split at h
    rotate_left
    · cases h
    rename_i v' ns2 h1
    split at h
    rotate_left
    · cases h
    rename_i r' ns3 h2
    obtain ⟨rfl, rfl⟩ : _ ∧ _ := by simpa using h
    obtain ⟨t1, rfl, k1⟩ := canV_ok h1
    obtain ⟨t2, rfl, k2⟩ := canVs_ok h2
    exact ⟨t1 ++ t2, by simp, k2.cons k1.mono⟩
/-- So many blocks have been read. -/
def Red (s : FS) (ns : List Nat) (css : List Cs) (i : Nat) : Prop := css.length = i ∧ ∀ (j : Nat) cs, css[j]? = some cs → ∃ n b, ns[j]? = some n ∧ s.blk n = some b ∧ b.live = true ∧ RenL ns b.cells cs.list
theorem Red.mono {s : FS} {ns t : List Nat} {css : List Cs} {i : Nat} (h : Red s ns css i) : Red s (ns ++ t) css i := ⟨h.1, fun j cs hj => by
  obtain ⟨n, b, h1, h2, h3, h4⟩ := h.2 j cs hj
  refine ⟨n, b, ?_, h2, h3, h4.mono⟩
  rw [List.getElem?_append_left (List.getElem?_eq_some_iff.1 h1).1]
  exact h1⟩
theorem Red.snoc {s : FS} {ns : List Nat} {css : List Cs} {i : Nat} (h : Red s ns css i) {n : Nat} {b : Blk} {cs : Cs} (h1 : ns[i]? = some n) (h2 : s.blk n = some b) (h3 : b.live = true) (h4 : RenL ns b.cells cs.list) : Red s ns (css ++ [cs]) (i + 1) := by
  refine ⟨by simp [h.1], fun j cs' hj => ?_⟩
  rw [List.getElem?_append] at hj
  split at hj
  · exact h.2 j cs' hj
  · rename_i hlt
    have hlt' : j < css.length + 1 := by
      have := (List.getElem?_eq_some_iff.1 hj).1
      simp at this
      omega
    obtain rfl : j = i := by have := h.1; omega
    have hz : j - css.length = 0 := by have := h.1; omega
    rw [hz] at hj
    obtain rfl : cs = cs' := by simpa using hj
    exact ⟨n, b, h1, h2, h3, h4⟩
theorem renL_self {ns : List Nat} {l : List Value} (h : ∀ v ∈ l, plainV v = true) : RenL ns l l := ⟨rfl, fun k v v' h1 h2 => by
  rw [h1] at h2
  obtain rfl : v = v' := by simpa using h2
  exact ren_plain (h v (List.mem_of_getElem? h1))⟩
theorem rdMem_ok {s : FS} : ∀ (q i : Nat) {ns : List Nat} {css : List Cs} {F : List Nat} {D : List Cs}, (rdMem q i ns css).run s = some (F, D) → Red s ns css i → ∃ t, F = ns ++ t ∧ Red s F D F.length
  | 0, i, ns, css, F, D, h, _ => by simp [rdMem, Rd.run] at h
  | q + 1, i, ns, css, F, D, h, hr => by
    simp only [rdMem] at h
    split at h
    · rename_i hn
      obtain ⟨rfl, rfl⟩ : _ ∧ _ := by simpa [Rd.run] using h
      refine ⟨[], by simp, ?_⟩
      have hle : ns.length ≤ i := by simpa using hn
      have hge : i ≤ ns.length := by
        rcases Nat.eq_zero_or_pos i with h0 | h0
        · omega
        · obtain ⟨n, b, h1, _⟩ := hr.2 (i - 1) (css[i - 1]'(by have := hr.1; omega)) (by simp)
          have := (List.getElem?_eq_some_iff.1 h1).1
          omega
      have e : ns.length = i := by omega
      rw [e]
      exact hr
    · rename_i n hn
      simp only [Rd.run] at h
      split at h
      rotate_left
      · simp [Rd.run] at h
      rename_i b hb
      split at h
      rotate_left
      · simp [Rd.run] at h
      rename_i hl
      split at h
      · rename_i l hcs
        split at h
        rotate_left
        · simp [Rd.run] at h
        rename_i l' ns' hc
        obtain ⟨t1, rfl, k1⟩ := canVs_ok hc
        have hn' : (ns ++ t1)[i]? = some n := by
          rw [List.getElem?_append_left (List.getElem?_eq_some_iff.1 hn).1]
          exact hn
        obtain ⟨t2, rfl, k2⟩ := rdMem_ok q (i + 1) h (hr.mono.snoc hn' hb hl (cs := .vals l') (by unfold Blk.cells; rw [hcs]; exact k1))
        exact ⟨t1 ++ t2, by simp, k2⟩
      · rename_i cs hcs
        have hp : ∀ v ∈ b.cells, plainV v = true := by
          intro v hv
          unfold Blk.cells at hv
          generalize b.cs = c at *
          cases c with
          | vals l => exact absurd rfl (hcs l)
          | ints xs =>
            obtain ⟨y, _, rfl⟩ := List.mem_map.1 hv
            rfl
          | bytes xs =>
            obtain ⟨y, _, rfl⟩ := List.mem_map.1 hv
            rfl
        obtain ⟨t2, rfl, k2⟩ := rdMem_ok q (i + 1) h (hr.snoc hn hb hl (renL_self hp))
        exact ⟨t2, rfl, k2⟩
theorem live_place {ρ : Nat → Option Pl} {B : Nat → Prop} {w : World} {n : Nat} {b : Blk} (h : BlkOk ρ B w n b) (hl : b.live = true) : (∃ p, ρ n = some p ∧ nilPl p) ∨ ∃ g f cp, ρ n = some (g, f, cp) ∧ okPl f cp := by
  obtain ⟨kd, cs⟩ := b
  cases kd with
  | dead => cases hl
  | view =>
    rcases h with h | ⟨g, f, cp, h1, h2, _⟩
    · exact .inl h
    · exact .inr ⟨g, f, cp, h1, h2⟩
  | box =>
    obtain ⟨g, h1, _⟩ := h
    exact .inr ⟨g, 0, none, h1, .inl rfl⟩
  | row e sz =>
    rcases h with ⟨p, h1, h2, h3⟩ | ⟨g, cap, h1, _⟩
    · exact .inl ⟨p, h1, h2, 0, h3⟩
    · exact .inr ⟨g, 0, some cap, h1, .inl rfl⟩
theorem rfG_calls {P : Program} (hmx : P.follows .mixedOrders = true) {f : FuncId} {sp : PSpec} (hsp : PSpecOk P f sp) {args : List Value} {s : FS} {eff : Eff} (hr : (rfG sp args).run s = some eff)
    {B : Nat → Prop} {ρ0 ρ : Nat → Option Pl} {w : World} {args' : Array Value} (ha : VRs ρ args args') (hm : MemOk ρ0 ρ B s.blk w) (hB : ∀ k, B k → k < w.heap.size) (hcond : eff.cond) :
    Calls P f args' w fun e w' => ∃ v' ρ', e = .returned v' ∧ Ext ρ ρ' ∧ VR ρ' eff.val v' ∧ BelowK B w w' ∧ MemOk ρ0 ρ' B (s.upd none eff).blk w' := by
  unfold rfG at hr
  split at hr
  rotate_left
  · simp [Rd.run] at hr
  rename_i zs ns0 hc
  obtain ⟨⟨F, D⟩, h1, h2⟩ := bind_some hr
  split at h2
  rotate_left
  · simp [Rd.run] at h2
  rename_i v C hs
  obtain rfl : (⟨v, [], C⟩ : Eff) = eff := by simpa [Rd.run] using h2
  obtain ⟨t0, e0, k0⟩ := canVs_ok hc
  obtain ⟨t1, e1, hD, hR⟩ := rdMem_ok _ _ h1 ⟨rfl, fun j cs hj => by simp at hj⟩
  have k1 : RenL F args zs := by rw [e1]; exact k0.mono
  clear h1 h2 hr hc k0
  obtain ⟨E, m, n, hE, hv, ht⟩ := hsp _ _ _ _ hs hcond
  obtain ⟨u, mem', rfl, _, hdet⟩ := bodyM_ok hE hmx (runM_ok hmx hE m n) m f _ _ _ _ _ ht
  let ρs : Nat → Option Pl := fun k => (F[k]?).bind ρ
  have hk : ∀ (k : Nat) n, F[k]? = some n → ρs k = ρ n := fun k n h => by
    show (F[k]?).bind ρ = ρ n
    rw [h]
    rfl
  have hmem : MemOk (fun _ => none) ρs (fun k => k < w.heap.size) (fun k => (D.map fun cs => some (⟨.view, cs⟩ : Blk)).getD k none) w := by
    refine ⟨fun k q hq => by simp at hq, fun k hz => ?_, fun k b hb => ?_, fun k k' b b2 q q' hz hown _ _ _ _ _ _ _ => ?_⟩
    · have hz : D.length ≤ k := by
        rcases Nat.lt_or_ge k D.length with hlt | hge
        · simp [List.getD, hlt] at hz
        · exact hge
      show (F[k]?).bind ρ = none
      rw [List.getElem?_eq_none (by omega)]
      rfl
    · have hlt : k < D.length := by
        rcases Nat.lt_or_ge k D.length with hlt | hge
        · exact hlt
        · simp [List.getD, hge] at hb
      have hb : (⟨.view, D[k]⟩ : Blk) = b := by simpa [List.getD, hlt] using hb
      obtain ⟨n0, b0, q1, q2, q3, q4⟩ := hR k D[k] (by simp [hlt])
      rw [← hb]
      have hbo := hm.ok n0 b0 q2
      rcases live_place hbo q3 with ⟨p, p1, p2⟩ | ⟨g, fo, cp, p1, p2⟩
      · exact .inl ⟨p, (hk k n0 q1).trans p1, p2⟩
      · obtain ⟨c1, c2⟩ := live_cell hbo q3 p1 p2
        refine .inr ⟨g, fo, cp, (hk k n0 q1).trans p1, p2, c1, fun j v' hj => ?_⟩
        have hj : D[k].list[j]? = some v' := hj
        have hl : j < b0.cells.length := by
          have := (List.getElem?_eq_some_iff.1 hj).1
          have := q4.1
          omega
        obtain ⟨x, d1, d2⟩ := c2 j b0.cells[j] (by simp [hl])
        exact ⟨x, d1, q4.2 j b0.cells[j] v' (by simp [hl]) hj ρ ρs x hk d2⟩
    · have hlt : k < D.length := by
        rcases Nat.lt_or_ge k D.length with hlt | hge
        · exact hlt
        · simp [List.getD, hge] at hz
      have hz : (⟨.view, D[k]⟩ : Blk) = b := by simpa [List.getD, hlt] using hz
      rw [← hz] at hown
      cases hown
  have hargs : VRs ρs zs args' := ⟨by rw [← k1.1]; exact ha.1, fun i a x hi hx => by
    have hl : i < args.length := by
      have := (List.getElem?_eq_some_iff.1 hi).1
      have := k1.1
      omega
    exact k1.2 i args[i] a (by simp [hl]) hi ρ ρs x hk (ha.2 i args[i] x (by simp [hl]) hx)⟩
  refine (hdet ⟨w, fun _ => none, fun k => k < w.heap.size, fun k h => h, [], none⟩ ρs args' w hargs hmem (BelowK.refl _ _)).mono ?_
  rintro e2 w' ⟨v', ρ', rfl, _, hvv, hbel, _⟩
  have hb := hbel.to
  refine ⟨v', ρ, rfl, Ext.refl ρ, by rw [hvv.plain hv]; exact .lit hv, ⟨hbel.os, hbel.tape, hbel.output, hbel.size, fun k hkB => hbel.block k (hB k hkB)⟩, hm.keep hb⟩
theorem consJ_rf {P : Program} (hmx : P.follows .mixedOrders = true) {J : TabJ} (hJ : GSound P J.g) {f : FuncId} {sp : PSpec} (hent : enters P f) (hsp : PSpecOk P f sp) : GSound P (consJ f (fun _ => rfG sp) J).g := by
  intro h name args s eff hr hn
  simp only [consJ] at hr
  split at hr
  rotate_left
  · exact hJ h name args s eff hr hn
  rename_i heq
  obtain rfl := Nat.eq_of_beq_eq_true heq
  exact ⟨hent, fun B ρ0 ρ w args' ha hm hB hcond => rfG_calls hmx hsp hr ha hm hB hcond⟩
end Go.Proofs.Ytnjmepbblcfnfaa
namespace Go.Proofs.Ytnjmepbblcfnfaa
set_option linter.all false
open Go.RowKit
/-- Does q stand over p, as another point? -/
def ovB (p q : Pt) : Bool := !(q.1 == p.1 && q.2 == p.2) && (decide (p.1 ≤ q.1) && decide (p.2 ≤ q.2))
def novQ (ps : List Pt) (x y : Int) (k : Nat) : Bool := !ovB (x, y) (ps.getD k (0, 0))
/-- The first place from i on that stands over the point. -/
def foN (ps : List Pt) (x y : Int) : Nat → Nat → Nat
  | i, 0 => i
  | i, n + 1 => bif novQ ps x y i then foN ps x y (i + 1) n else i
theorem foN_step {ps : List Pt} {x y : Int} {i n : Nat} (h : i < n) : foN ps x y i (n - i) = bif novQ ps x y i then foN ps x y (i + 1) (n - (i + 1)) else i := by
  rw [show n - i = (n - (i + 1)) + 1 by omega]
  rfl
noncomputable def c_mif : Code := ((loopsOf (codeOf Try.f133))[0]?).getD .skip
def k_mif : Ex → List Nat := keeps [0, 1, 7, 8] [(0, [])] [4]
def s_mif (ps : List Pt) (x y : Int) : Nat → St := fun i => ⟨[.slice (some ⟨0, 0, none⟩) ps.length ps.length, .func (.func 95) #[] #[.pointer (some ⟨1, 0, none⟩)], topV, topV, topV, topV, topV, .int .i64 ps.length, .int .i64 i, topV, topV, topV, topV, topV, topV, topV, topV, topV, topV], [some ⟨.view, .ints (flat ps)⟩, some ⟨.view, .vals [.int .i64 x, .int .i64 y]⟩]⟩
def re_mif (ps : List Pt) (x y : Int) : Nat → Ex := fun i => bif allQ (novQ ps x y) i (ps.length - i) then .exit 0 else .ret
def rs_mif (ps : List Pt) (x y : Int) : Nat → St := fun i => bif allQ (novQ ps x y) i (ps.length - i) then ⟨[topV, topV, topV, topV, topV, topV, topV, topV, topV, topV, topV, topV, topV, topV, topV, topV, topV, topV, topV], [some ⟨.view, .ints (flat ps)⟩, some ⟨.view, .vals [.int .i64 x, .int .i64 y]⟩]⟩ else ⟨[topV, topV, topV, topV, .int .i64 (foN ps x y i (ps.length - i) : Nat), topV, topV, topV, topV, topV, topV, topV, topV, topV, topV, topV, topV, topV, topV], [some ⟨.view, .ints (flat ps)⟩, some ⟨.view, .vals [.int .i64 x, .int .i64 y]⟩]⟩
set_option maxRecDepth 100000 in
theorem tr_mif (ps : List Pt) (x y : Int) (i : Nat) : bodyL Try.prog E3 30 12 noL 1 c_mif k_mif 2 (s_mif ps x y i) = brT (decide ((↑i : Int) < (↑ps.length : Int))) (.need ((0 : Int) ≤ (↑i : Int) ∧ (↑i : Int) < (↑ps.length : Int)) (.need ((0 : Nat) + (↑i : Int).toNat * (2 : Nat) + (2 : Nat) ≤ (flat ps).length) (brT (negB true ((flat ps).getD (0 + (↑i : Int).toNat * 2) 0 == x && ((flat ps).getD (0 + (↑i : Int).toNat * 2 + 1) 0 == y && true))) (brT (decide (x ≤ (flat ps).getD (0 + (↑i : Int).toNat * 2) 0)) (brT (decide (y ≤ (flat ps).getD (0 + (↑i : Int).toNat * 2 + 1) 0)) (.leaf .ret ⟨[topV, topV, topV, topV, .int .i64 ((↑i : Int)), topV, topV, topV, topV, topV, topV, topV, topV, topV, topV, topV, topV, topV, topV], [some ⟨.view, .ints (flat ps)⟩, some ⟨.view, .vals [.int .i64 (x), .int .i64 (y)]⟩]⟩) (.leaf .normal ⟨[.slice (some ⟨0, 0, none⟩) (ps.length) (ps.length), .func (Fn.func 95) #[] #[.pointer (some ⟨1, 0, none⟩)], topV, topV, topV, topV, topV, .int .i64 ((↑ps.length : Int)), .int .i64 (IntKind.i64.wrap ((↑i : Int) + 1)), topV, topV, topV, topV, topV, topV, topV, topV, topV, topV], [some ⟨.view, .ints (flat ps)⟩, some ⟨.view, .vals [.int .i64 (x), .int .i64 (y)]⟩]⟩)) (.leaf .normal ⟨[.slice (some ⟨0, 0, none⟩) (ps.length) (ps.length), .func (Fn.func 95) #[] #[.pointer (some ⟨1, 0, none⟩)], topV, topV, topV, topV, topV, .int .i64 ((↑ps.length : Int)), .int .i64 (IntKind.i64.wrap ((↑i : Int) + 1)), topV, topV, topV, topV, topV, topV, topV, topV, topV, topV], [some ⟨.view, .ints (flat ps)⟩, some ⟨.view, .vals [.int .i64 (x), .int .i64 (y)]⟩]⟩)) (.leaf .normal ⟨[.slice (some ⟨0, 0, none⟩) (ps.length) (ps.length), .func (Fn.func 95) #[] #[.pointer (some ⟨1, 0, none⟩)], topV, topV, topV, topV, topV, .int .i64 ((↑ps.length : Int)), .int .i64 (IntKind.i64.wrap ((↑i : Int) + 1)), topV, topV, topV, topV, topV, topV, topV, topV, topV, topV], [some ⟨.view, .ints (flat ps)⟩, some ⟨.view, .vals [.int .i64 (x), .int .i64 (y)]⟩]⟩)))) (.leaf (.exit 0) ⟨[topV, topV, topV, topV, topV, topV, topV, topV, topV, topV, topV, topV, topV, topV, topV, topV, topV, topV, topV], [some ⟨.view, .ints (flat ps)⟩, some ⟨.view, .vals [.int .i64 (x), .int .i64 (y)]⟩]⟩) := by kernel_rfl
set_option maxRecDepth 100000 in
theorem nl_mif : loopsOf c_mif = [] := by kernel_rfl
def inv_mif (ps : List Pt) (x y : Int) : Nat → Prop := fun i => i ≤ ps.length
def me_mif (ps : List Pt) (x y : Int) : Nat → Nat := fun i => ps.length - i
/-- A round of this loop. -/
def Round_mif (ps : List Pt) (x y : Int) : Prop := ∀ xx : Nat, inv_mif ps x y xx → (bodyL Try.prog E3 30 12 noL 1 c_mif k_mif 2 (s_mif ps x y xx)).ok (RoundEnd 2 (s_mif ps x y) (inv_mif ps x y) (me_mif ps x y) (re_mif ps x y) (rs_mif ps x y) xx) (fun _ _ => False)
def e_mif (s : St) (k : Ex → St → Tree) : Option Tree := match Nat.beq s.tmps.length 19, pickL s.tmps [0, 1, 7, 8], s.mem with
  | true, [.slice (some ⟨0, 0, none⟩) n _, .func (.func 95) ⟨[]⟩ ⟨[.pointer (some ⟨1, 0, none⟩)]⟩, .int .i64 n1, .int .i64 i], [some ⟨.view, .ints xs⟩, some ⟨.view, .vals [.int .i64 x, .int .i64 y]⟩] => some (needs [i = 0, n1 = (n : Int), xs.length = n * 2, n ≤ 20] (brT (allQ (novQ (ptsA n xs) x y) 0 n) (k (.exit 0) ⟨[topV, topV, topV, topV, topV, topV, topV, topV, topV, topV, topV, topV, topV, topV, topV, topV, topV, topV, topV], [some ⟨.view, .ints xs⟩, some ⟨.view, .vals [.int .i64 x, .int .i64 y]⟩]⟩) (k .ret ⟨[topV, topV, topV, topV, .int .i64 (foN (ptsA n xs) x y 0 n : Nat), topV, topV, topV, topV, topV, topV, topV, topV, topV, topV, topV, topV, topV, topV], [some ⟨.view, .ints xs⟩, some ⟨.view, .vals [.int .i64 x, .int .i64 y]⟩]⟩)))
  | _, _, _ => none
set_option maxRecDepth 100000 in
theorem round_mif (ps : List Pt) (x y : Int) (h : ps.length ≤ 20) : Round_mif ps x y := by
  intro i h1
  have h1 : i ≤ ps.length := h1
  rw [tr_mif]
  simp only [Int.toNat_natCast, Nat.zero_add, Nat.add_zero, flat_length, flat_get0, flat_get1]
  refine brT_ok.2 ⟨fun hlt => ?_, fun hge => ?_⟩
  · have hlt := of_decide_eq_true hlt
    have hi : i < ps.length := by omega
    have st := allQ_step (P := novQ ps x y) (i := i) (n := ps.length) hi
    have sf := foN_step (ps := ps) (x := x) (y := y) (i := i) (n := ps.length) hi
    have hn : novQ ps x y i = !(!((ps.getD i (0, 0)).1 == x && (ps.getD i (0, 0)).2 == y) && (decide (x ≤ (ps.getD i (0, 0)).1) && decide (y ≤ (ps.getD i (0, 0)).2))) := rfl
    rw [wsucc (n := ps.length) hi (by omega)]
    generalize ps.getD i (0, 0) = p at *
    rcases g1 : p.1 == x with _ | _ <;> rcases g2 : p.2 == y with _ | _ <;> rcases g3 : decide (x ≤ p.1) with _ | _ <;> rcases g4 : decide (y ≤ p.2) with _ | _
    all_goals
      rw [g1, g2, g3, g4] at hn
      rw [hn] at st sf
      simp only [g1, g2, g3, g4, negT_, negF_, brT_t, brT_f, Bool.not_true, Bool.not_false, Bool.and_true, Bool.and_false, Bool.true_and, Bool.false_and, cond_true, cond_false, Tree.ok] at st sf ⊢
      repeat (refine And.intro (by omega) ?_)
      try
        refine ⟨i + 1, [], ?_, ?_, by simp only [re_mif, st], by simp only [rs_mif, st, sf], ?_⟩
        · show i + 1 ≤ ps.length; omega
        · show ps.length - (i + 1) < ps.length - i; omega
        · repeat' (first | exact True.intro | exact rfl | exact fun _ => rfl | refine And.intro ?_ ?_)
    all_goals
      refine ⟨by simp only [re_mif, st, cond_false], [], ?_⟩
      simp only [rs_mif, st, sf, cond_false]
      repeat' (first | exact True.intro | exact rfl | exact fun _ => rfl | refine And.intro ?_ ?_)
  · have hge := of_decide_eq_false hge
    have e : allQ (novQ ps x y) i (ps.length - i) = true := allQ_end (by omega)
    refine ⟨by simp only [re_mif, e, cond_true], [], ?_⟩
    simp only [rs_mif, e, cond_true]
    repeat' (first | exact True.intro | exact rfl | exact fun _ => rfl | refine And.intro ?_ ?_)
set_option maxRecDepth 100000 in
theorem lg_mif : LoopE Try.prog e_mif c_mif := by
  intro s k t F H hlt ht
  unfold e_mif at hlt
  split at hlt
  rotate_left
  · cases hlt
  rename_i hlen hpick hmem
  obtain ⟨tmps, mem⟩ := s
  simp only at hlen hpick hmem
  subst hmem
  obtain rfl := Option.some.inj hlt
  obtain ⟨⟨rfl, rfl, h1, h2, _⟩, ht2⟩ := needs_ok ht
  clear ht hlt
  obtain ⟨ps, rfl, rfl⟩ := even_flat h1
  rw [ptsA_flat] at ht2
  refine ⟨_, _, pick2k ht2, loop_run mixed E3_ok (s_mif ps _ _) (inv_mif ps _ _) (me_mif ps _ _) (re_mif ps _ _) (rs_mif ps _ _) k_mif (fun _ => rfl) (noLoops nl_mif) (round_mif ps _ _ h2) (x := 0) (Nat.zero_le _) (π := []) rfl ?_⟩
  refine ⟨rfl, rfl, ?_, wvs_spread' [0, 1, 7, 8] hlen rfl ?_⟩
  · repeat' (first | exact True.intro | exact rfl | exact wv_top _ _ | exact fun _ => rfl | assumption | exact Eq.symm (by assumption) | exact vI0 rfl | refine And.intro ?_ ?_)
  · rw [hpick]
    repeat' (first | exact True.intro | exact rfl | exact wv_top _ _ | exact fun _ => rfl | assumption | exact Eq.symm (by assumption) | exact vI0 rfl | refine And.intro ?_ ?_)
theorem Lr_mif {fn : Func} (hf : Try.prog.funcs[133]? = some fn) : LoopsGood Try.prog (lt1 e_mif) 0 (codeOf fn) := by
  obtain rfl := fn_is Try.func133 hf
  exact lt1_good lg_mif
def LMif : FuncId → LT := fun f => match f with
  | 133 => lt1 e_mif
  | _ => noL
def EMif : Env := mkE T2 (fun _ _ => none) LMif
theorem EMif_ok : EnvOk Try.prog EMif := mkEOk T2_ok (fun _ _ _ _ _ h => (by cases h)) (by
  intro f fn hf
  unfold LMif
  split
  all_goals first | with_reducible exact Lr_mif hf | exact noL_good)
set_option maxRecDepth 100000 in
theorem tr_mcf (ps : List Pt) (x y : Int) : bodyM Try.prog EMif (runM Try.prog EMif 30 12) 30 94 [.slice (some ⟨0, 0, none⟩) ps.length ps.length, .func (.func 95) ⟨[]⟩ ⟨[.pointer (some ⟨1, 0, none⟩)]⟩] [some ⟨.view, .ints (flat ps)⟩, some ⟨.view, .vals [iv x, iv y]⟩] .fin = .need ((0 : Int) = (0 : Int)) (.need ((↑ps.length : Int) = (↑ps.length : Int)) (.need ((flat ps).length = ps.length * (2 : Nat)) (.need (ps.length ≤ (20 : Nat)) (brT (allQ (novQ (ptsA ps.length (flat ps)) x y) 0 ps.length) (.fin (.bool (decide (0 ≤ -1))) [some ⟨.view, .ints (flat ps)⟩, some ⟨.view, .vals [.int .i64 (x), .int .i64 (y)]⟩]) (.fin (.bool (decide (0 ≤ (↑(foN (ptsA ps.length (flat ps)) x y 0 ps.length) : Int)))) [some ⟨.view, .ints (flat ps)⟩, some ⟨.view, .vals [.int .i64 (x), .int .i64 (y)]⟩]))))) := by kernel_rfl
/-- Does any stand over the point? -/
def anyO (ps : List Pt) (x y : Int) : Bool := !allQ (novQ ps x y) 0 ps.length
theorem mcf_run {ps : List Pt} {x y : Int} (h : ps.length ≤ 20) :
    (bodyM Try.prog EMif (runM Try.prog EMif 30 12) 30 94 [.slice (some ⟨0, 0, none⟩) ps.length ps.length, .func (.func 95) ⟨[]⟩ ⟨[.pointer (some ⟨1, 0, none⟩)]⟩] [some ⟨.view, .ints (flat ps)⟩, some ⟨.view, .vals [iv x, iv y]⟩] .fin).ok (fun _ _ => False) (fun u _ => u = .bool (anyO ps x y)) := by
  rw [tr_mcf]
  simp only [ptsA_flat]
  unfold anyO
  have w9 : IntKind.i64.wrap (0 - 1) = -1 := by decide
  rcases hq : allQ (novQ ps x y) 0 ps.length with _ | _
  all_goals
    refine ⟨trivial, trivial, flat_length ps, h, ?_⟩
    simp [Tree.ok, brT]
def spMx : PSpec := fun zs css => match zs, css with
  | [.slice (some ⟨0, 0, none⟩) n c, .func (.func 95) ⟨[]⟩ ⟨[.pointer (some ⟨1, 0, none⟩)]⟩], [.ints xs, .vals [.int .i64 x, .int .i64 y]] => some (.bool (anyO (ptsA n xs) x y), [c = n, xs.length = n * 2, n ≤ 20])
  | _, _ => none
theorem spMx_ok : PSpecOk Try.prog 94 spMx := by
  intro zs css v C h hC
  unfold spMx at h
  split at h
  rotate_left
  · cases h
  obtain ⟨rfl, rfl⟩ := Prod.mk.inj (Option.some.inj h)
  obtain ⟨rfl, h1, h2, _⟩ := hC
  obtain ⟨ps, rfl, rfl⟩ := even_flat h1
  rw [ptsA_flat]
  refine ⟨EMif, 30, 12, EMif_ok, rfl, ?_⟩
  simp only [List.map_cons, List.map_nil]
  with_reducible exact mcf_run h2
def JMx : TabJ := consJ 94 (fun _ => rfG spMx) noJ
theorem JMx_ok : GSound Try.prog JMx.g := consJ_rf mixed (failG_sound Try.prog) (entersB_res (by kernel_rfl)).1 spMx_ok
def EMx0 : Env := withT (mkE T2 (fun _ _ => none) (fun _ => noL)) JMx
theorem EMx0_ok : EnvOk Try.prog EMx0 := withT_ok (mkEOk T2_ok (fun _ _ _ _ _ h => (by cases h)) (fun _ _ _ => noL_good)) JMx_ok
end Go.Proofs.Ytnjmepbblcfnfaa
namespace Go.Proofs.Ytnjmepbblcfnfaa
set_option linter.all false
open Go.RowKit
/-- Does none stand over the point? -/
def mxB (ps : List Pt) (p : Pt) : Bool := allQ (novQ ps p.1 p.2) 0 ps.length
noncomputable def c_imx : Code := ((loopsOf (codeOf Try.f92))[0]?).getD .skip
def k_imx : Ex → List Nat := keeps [1, 5, 8, 9, 10] [(0, [5])] [4]
def s_imx (ps : List Pt) : Nat × (List Int) → St := fun (i, o) => ⟨[topV, .func (.func 93) #[] #[.pointer (some ⟨1, 0, none⟩)], topV, topV, topV, .slice (some ⟨2, 0, none⟩) o.length o.length, topV, topV, .slice (some ⟨0, 0, none⟩) ps.length ps.length, .int .i64 ps.length, .int .i64 i, topV, topV, topV, topV, topV, topV, topV, topV, topV, topV, topV, topV, topV], [some ⟨.view, .ints (flat ps)⟩, some ⟨.box, .vals [.slice (some ⟨0, 0, none⟩) ps.length ps.length]⟩, some ⟨.row 3 1, .ints o⟩]⟩
def re_imx : Nat × (List Int) → Ex := fun _ => .exit 0
def rs_imx (ps : List Pt) : Nat × (List Int) → St := fun (i, o) => ⟨[topV, topV, topV, topV, topV, .slice (some ⟨2, 0, none⟩) (o ++ idxF (mxB ps) (ps.drop i) i).length (o ++ idxF (mxB ps) (ps.drop i) i).length, topV, topV, topV, topV, topV, topV, topV, topV, topV, topV, topV, topV, topV, topV, topV, topV, topV, topV], [some ⟨.view, .ints (flat ps)⟩, some ⟨.box, .vals [.slice (some ⟨0, 0, none⟩) ps.length ps.length]⟩, some ⟨.row 3 1, .ints (o ++ idxF (mxB ps) (ps.drop i) i)⟩]⟩
set_option maxRecDepth 100000 in
theorem tr_imx (ps : List Pt) (i : Nat) (o : List Int) : bodyL Try.prog EMx0 30 12 noL 1 c_imx k_imx 16 (s_imx ps (i, o)) = brT (decide ((↑i : Int) < (↑ps.length : Int))) (.need ((0 : Int) ≤ (↑i : Int) ∧ (↑i : Int) < (↑ps.length : Int)) (.need ((0 : Nat) + (↑i : Int).toNat * (2 : Nat) + (2 : Nat) ≤ (flat ps).length) (.need (ps.length = ps.length) (.need ((flat ps).length = ps.length * (2 : Nat)) (.need (ps.length ≤ (20 : Nat)) (brT (!anyO (ptsA ps.length (flat ps)) ((flat ps).getD (0 + (↑i : Int).toNat * 2) 0) ((flat ps).getD (0 + (↑i : Int).toNat * 2 + 1) 0)) (.need ((o.length + (1 : Nat)) * (8 : Nat) ≤ (140737488355328 : Nat) ∧ o.length + (1 : Nat) ≤ (1000000 : Nat)) (.need ((0 : Nat) + o.length * (1 : Nat) ≤ o.length) (.leaf .normal ⟨[topV, .func (Fn.func 93) #[] #[.pointer (some ⟨1, 0, none⟩)], topV, topV, topV, .slice (some ⟨6, 0, none⟩) (o.length + 1) (o.length + 1), topV, topV, .slice (some ⟨0, 0, none⟩) (ps.length) (ps.length), .int .i64 ((↑ps.length : Int)), .int .i64 (IntKind.i64.wrap ((↑i : Int) + 1)), topV, topV, topV, topV, topV, topV, topV, topV, topV, topV, topV, topV, topV], [some ⟨.view, .ints (flat ps)⟩, some ⟨.box, .vals [.slice (some ⟨0, 0, none⟩) (ps.length) (ps.length)]⟩, some deadB, some ⟨.box, .vals [.int .i64 ((flat ps).getD (0 + (↑i : Int).toNat * 2) 0), .int .i64 ((flat ps).getD (0 + (↑i : Int).toNat * 2 + 1) 0)]⟩, some ⟨.box, .vals [.int .i64 ((flat ps).getD (0 + (↑i : Int).toNat * 2) 0), .int .i64 ((flat ps).getD (0 + (↑i : Int).toNat * 2 + 1) 0)]⟩, some ⟨.row 3 1, .vals [.int .i64 ((↑i : Int))]⟩, some ⟨.row 3 1, .ints (List.take (o.length * 1) (List.drop 0 o) ++ [(↑i : Int)])⟩]⟩))) (.leaf .normal ⟨[topV, .func (Fn.func 93) #[] #[.pointer (some ⟨1, 0, none⟩)], topV, topV, topV, .slice (some ⟨2, 0, none⟩) (o.length) (o.length), topV, topV, .slice (some ⟨0, 0, none⟩) (ps.length) (ps.length), .int .i64 ((↑ps.length : Int)), .int .i64 (IntKind.i64.wrap ((↑i : Int) + 1)), topV, topV, topV, topV, topV, topV, topV, topV, topV, topV, topV, topV, topV], [some ⟨.view, .ints (flat ps)⟩, some ⟨.box, .vals [.slice (some ⟨0, 0, none⟩) (ps.length) (ps.length)]⟩, some ⟨.row 3 1, .ints (o)⟩, some ⟨.box, .vals [.int .i64 ((flat ps).getD (0 + (↑i : Int).toNat * 2) 0), .int .i64 ((flat ps).getD (0 + (↑i : Int).toNat * 2 + 1) 0)]⟩, some ⟨.box, .vals [.int .i64 ((flat ps).getD (0 + (↑i : Int).toNat * 2) 0), .int .i64 ((flat ps).getD (0 + (↑i : Int).toNat * 2 + 1) 0)]⟩]⟩))))))) (.leaf (.exit 0) ⟨[topV, topV, topV, topV, topV, .slice (some ⟨2, 0, none⟩) (o.length) (o.length), topV, topV, topV, topV, topV, topV, topV, topV, topV, topV, topV, topV, topV, topV, topV, topV, topV, topV], [some ⟨.view, .ints (flat ps)⟩, some ⟨.box, .vals [.slice (some ⟨0, 0, none⟩) (ps.length) (ps.length)]⟩, some ⟨.row 3 1, .ints (o)⟩]⟩) := by kernel_rfl
set_option maxRecDepth 100000 in
theorem nl_imx : loopsOf c_imx = [] := by kernel_rfl
def inv_imx (ps : List Pt) : Nat × (List Int) → Prop := fun (i, o) => i ≤ ps.length ∧ o.length ≤ i
def me_imx (ps : List Pt) : Nat × (List Int) → Nat := fun (i, o) => ps.length - i
/-- A round of this loop. -/
def Round_imx (ps : List Pt) : Prop := ∀ xx : Nat × (List Int), inv_imx ps xx → (bodyL Try.prog EMx0 30 12 noL 1 c_imx k_imx 16 (s_imx ps xx)).ok (RoundEnd 2 (s_imx ps) (inv_imx ps) (me_imx ps) re_imx (rs_imx ps) xx) (fun _ _ => False)
def e_imx (s : St) (k : Ex → St → Tree) : Option Tree := match Nat.beq s.tmps.length 24, pickL s.tmps [1, 5, 8, 9, 10], s.mem with
  | true, [.func (.func 93) ⟨[]⟩ ⟨[.pointer (some ⟨1, 0, none⟩)]⟩, .slice none 0 0, .slice (some ⟨0, 0, none⟩) m _, .int .i64 l, .int .i64 ii], [some ⟨.view, .ints xs⟩, some ⟨.box, .vals [.slice (some ⟨0, 0, none⟩) n _]⟩] => some (needs [ii = 0, l = m, n = m, xs.length = m * 2, m ≤ 20] (k (.exit 0) ⟨[topV, topV, topV, topV, topV, .slice (some ⟨2, 0, none⟩) (idxF (mxB (ptsA m xs)) (ptsA m xs) 0).length (idxF (mxB (ptsA m xs)) (ptsA m xs) 0).length, topV, topV, topV, topV, topV, topV, topV, topV, topV, topV, topV, topV, topV, topV, topV, topV, topV, topV], [some ⟨.view, .ints xs⟩, some ⟨.box, .vals [.slice (some ⟨0, 0, none⟩) m m]⟩, some ⟨.row 3 1, .ints (idxF (mxB (ptsA m xs)) (ptsA m xs) 0)⟩]⟩))
  | _, _, _ => none
set_option maxRecDepth 100000 in
theorem round_imx (ps : List Pt) (h : ps.length ≤ 20) : Round_imx ps := by
  rintro ⟨i, o⟩ ⟨h1, h2⟩
  rw [tr_imx]
  simp only [brT_ok, Tree.ok, decide_eq_true_eq, decide_eq_false_iff_not, Int.toNat_natCast, Nat.zero_add, flat_length, flat_get0, flat_get1, take_all1, ptsA_flat]
  refine ⟨fun hlt => ?_, fun hge => ?_⟩
  · rw [wsucc (n := ps.length) (by omega) (by omega)]
    have hb : mxB ps (ps.getD i (0, 0)) = !anyO ps (ps.getD i (0, 0)).1 (ps.getD i (0, 0)).2 := by
      unfold mxB anyO
      rw [Bool.not_not]
    rw [← hb]
    refine ⟨by omega, by omega, trivial, trivial, h, fun g1 => ⟨by omega, by omega, ?_⟩, fun g1 => ?_⟩
    · refine ⟨(i + 1, o ++ [(i : Int)]), [some 6], ⟨by omega, by simp; omega⟩, ?_, rfl, ?_, ?_⟩
      · show ps.length - (i + 1) < ps.length - i; omega
      · simp only [rs_imx, idx_yes (P := mxB ps) (ps := ps) (i := i) (by omega) g1 o]
      · repeat' (first | exact True.intro | exact rfl | exact fun _ => rfl | (simp; done) | refine And.intro ?_ ?_)
    · refine ⟨(i + 1, o), [some 2], ⟨by omega, by omega⟩, ?_, rfl, ?_, ?_⟩
      · show ps.length - (i + 1) < ps.length - i; omega
      · simp only [rs_imx, idx_no (P := mxB ps) (ps := ps) (i := i) (by omega) g1]
      · repeat' (first | exact True.intro | exact rfl | exact fun _ => rfl | (simp; done) | refine And.intro ?_ ?_)
  · refine ⟨rfl, [some 2], ?_⟩
    simp only [rs_imx, idx_end (P := mxB ps) (ps := ps) (i := i) (by omega), List.append_nil]
    repeat' (first | exact True.intro | exact rfl | exact fun _ => rfl | (simp; done) | refine And.intro ?_ ?_)
set_option maxRecDepth 100000 in
theorem lg_imx : LoopE Try.prog e_imx c_imx := by
  intro s k t F H hlt ht
  unfold e_imx at hlt
  split at hlt
  rotate_left
  · cases hlt
  rename_i hlen hpick hmem
  obtain ⟨tmps, mem⟩ := s
  simp only at hlen hpick hmem
  subst hmem
  obtain rfl := Option.some.inj hlt
  obtain ⟨⟨rfl, rfl, rfl, h1, h3, _⟩, ht2⟩ := needs_ok ht
  clear ht hlt
  obtain ⟨ps, rfl, rfl⟩ := even_flat h1
  rw [ptsA_flat] at ht2
  refine ⟨_, _, ht2, loop_run2 mixed EMx0_ok (s_imx ps) (inv_imx ps) (me_imx ps) re_imx (rs_imx ps) k_imx (fun _ => rfl) (noLoops nl_imx) (round_imx ps h3) (x := (0, [])) ⟨Nat.zero_le _, Nat.le_refl _⟩ (π := [none]) rfl ?_⟩
  refine ⟨rfl, rfl, ?_, wvs_spread' [1, 5, 8, 9, 10] hlen rfl ?_⟩
  · repeat' (first | exact True.intro | exact rfl | exact wv_top _ _ | exact fun _ => rfl | assumption | exact Eq.symm (by assumption) | exact vI0 rfl | refine And.intro ?_ ?_)
  · rw [hpick]
    repeat' (first | exact True.intro | exact rfl | exact wv_top _ _ | exact fun _ => rfl | assumption | exact Eq.symm (by assumption) | exact vI0 rfl | refine And.intro ?_ ?_)
/-- Is it so, and does none from k on stand over it? -/
def smB (ps : List Pt) (i k : Nat) (b : Bool) : Bool := b && allQ (novQ ps (ps.getD i (0, 0)).1 (ps.getD i (0, 0)).2) k (ps.length - k)
noncomputable def c_smi : Code := ((loopsOf (codeOf Try.f31))[1]?).getD .skip
def k_smi : Ex → List Nat := keeps [0, 3, 4, 5, 6] [(2, [0, 3, 4, 5])] [2]
def s_smi (ps : List Pt) (i : Nat) (o : List Int) : Nat × Bool → St := fun (k, b) => ⟨(.slice (some ⟨0, 0, none⟩) ps.length ps.length :: topV :: topV :: .slice (some ⟨2, 0, none⟩) o.length o.length :: .int .i64 i :: .bool b :: .int .i64 k :: topV :: topV :: topV :: topV :: topV :: topV :: topV :: topV :: topV :: topV :: topV :: topV :: topV :: topV :: topV :: topV :: topV :: topV :: topV :: topV :: topV :: topV :: topV :: topV :: topV :: topV :: topV :: topV :: topV :: topV :: topV :: topV :: topV :: topV :: topV :: topV :: topV :: topV :: topV :: topV :: topV :: topV :: topV :: topV :: topV :: topV :: topV :: topV :: topV :: topV :: topV :: topV :: topV :: topV :: topV :: topV :: topV :: topV :: topV :: topV :: topV :: []), [some ⟨.view, .ints (flat ps)⟩, some ⟨.dead, .vals []⟩, some ⟨.row 3 1, .ints o⟩]⟩
def re_smi : Nat × Bool → Ex := fun _ => .exit 2
def rs_smi (ps : List Pt) (i : Nat) (o : List Int) : Nat × Bool → St := fun (k, b) => ⟨(.slice (some ⟨0, 0, none⟩) ps.length ps.length :: topV :: topV :: .slice (some ⟨2, 0, none⟩) o.length o.length :: .int .i64 i :: .bool (smB ps i k b) :: topV :: topV :: topV :: topV :: topV :: topV :: topV :: topV :: topV :: topV :: topV :: topV :: topV :: topV :: topV :: topV :: topV :: topV :: topV :: topV :: topV :: topV :: topV :: topV :: topV :: topV :: topV :: topV :: topV :: topV :: topV :: topV :: topV :: topV :: topV :: topV :: topV :: topV :: topV :: topV :: topV :: topV :: topV :: topV :: topV :: topV :: topV :: topV :: topV :: topV :: topV :: topV :: topV :: topV :: topV :: topV :: topV :: topV :: topV :: topV :: topV :: topV :: []), [some ⟨.view, .ints (flat ps)⟩, some ⟨.dead, .vals []⟩, some ⟨.row 3 1, .ints o⟩]⟩
set_option maxRecDepth 100000 in
theorem tr_smi (ps : List Pt) (i : Nat) (o : List Int) (k : Nat) (b : Bool) : bodyL Try.prog E3 30 12 noL 2 c_smi k_smi 3 (s_smi ps i o (k, b)) = brT (decide ((↑k : Int) < (↑ps.length : Int))) (brT (b) (brT (negB true ((flat ps).getD (0 + (↑k : Int).toNat * 2) 0 == (flat ps).getD (0 + (↑i : Int).toNat * 2) 0 && ((flat ps).getD (0 + (↑k : Int).toNat * 2 + 1) 0 == (flat ps).getD (0 + (↑i : Int).toNat * 2 + 1) 0 && true))) (brT (decide ((flat ps).getD (0 + (↑i : Int).toNat * 2 + 0) 0 ≤ (flat ps).getD (0 + (↑k : Int).toNat * 2 + 0) 0)) (.need ((0 : Int) ≤ (↑k : Int) ∧ (↑k : Int) < (↑ps.length : Int)) (.need ((0 : Nat) + (↑k : Int).toNat * (2 : Nat) + (2 : Nat) ≤ (flat ps).length) (.need ((0 : Int) ≤ (↑i : Int) ∧ (↑i : Int) < (↑ps.length : Int)) (.need ((0 : Nat) + (↑i : Int).toNat * (2 : Nat) + (2 : Nat) ≤ (flat ps).length) (.need ((0 : Int) ≤ (↑k : Int) ∧ (↑k : Int) < (↑ps.length : Int)) (.need ((0 : Nat) + (↑k : Int).toNat * (2 : Nat) + (0 : Nat) < (flat ps).length) (.need ((0 : Int) ≤ (↑i : Int) ∧ (↑i : Int) < (↑ps.length : Int)) (.need ((0 : Nat) + (↑i : Int).toNat * (2 : Nat) + (0 : Nat) < (flat ps).length) (.need ((0 : Int) ≤ (↑k : Int) ∧ (↑k : Int) < (↑ps.length : Int)) (.need ((0 : Nat) + (↑k : Int).toNat * (2 : Nat) + (1 : Nat) < (flat ps).length) (.need ((0 : Int) ≤ (↑i : Int) ∧ (↑i : Int) < (↑ps.length : Int)) (.need ((0 : Nat) + (↑i : Int).toNat * (2 : Nat) + (1 : Nat) < (flat ps).length) (.leaf .normal ⟨(.slice (some ⟨0, 0, none⟩) (ps.length) (ps.length) :: topV :: topV :: .slice (some ⟨2, 0, none⟩) (o.length) (o.length) :: .int .i64 ((↑i : Int)) :: .bool (!decide ((flat ps).getD (0 + (↑i : Int).toNat * 2 + 1) 0 ≤ (flat ps).getD (0 + (↑k : Int).toNat * 2 + 1) 0)) :: .int .i64 (IntKind.i64.wrap ((↑k : Int) + 1)) :: topV :: topV :: topV :: topV :: topV :: topV :: topV :: topV :: topV :: topV :: topV :: topV :: topV :: topV :: topV :: topV :: topV :: topV :: topV :: topV :: topV :: topV :: topV :: topV :: topV :: topV :: topV :: topV :: topV :: topV :: topV :: topV :: topV :: topV :: topV :: topV :: topV :: topV :: topV :: topV :: topV :: topV :: topV :: topV :: topV :: topV :: topV :: topV :: topV :: topV :: topV :: topV :: topV :: topV :: topV :: topV :: topV :: topV :: topV :: topV :: topV :: []), [some ⟨.view, .ints (flat ps)⟩, some deadB, some ⟨.row 3 1, .ints (o)⟩]⟩))))))))))))) (.need ((0 : Int) ≤ (↑k : Int) ∧ (↑k : Int) < (↑ps.length : Int)) (.need ((0 : Nat) + (↑k : Int).toNat * (2 : Nat) + (2 : Nat) ≤ (flat ps).length) (.need ((0 : Int) ≤ (↑i : Int) ∧ (↑i : Int) < (↑ps.length : Int)) (.need ((0 : Nat) + (↑i : Int).toNat * (2 : Nat) + (2 : Nat) ≤ (flat ps).length) (.need ((0 : Int) ≤ (↑k : Int) ∧ (↑k : Int) < (↑ps.length : Int)) (.need ((0 : Nat) + (↑k : Int).toNat * (2 : Nat) + (0 : Nat) < (flat ps).length) (.need ((0 : Int) ≤ (↑i : Int) ∧ (↑i : Int) < (↑ps.length : Int)) (.need ((0 : Nat) + (↑i : Int).toNat * (2 : Nat) + (0 : Nat) < (flat ps).length) (.leaf .normal ⟨(.slice (some ⟨0, 0, none⟩) (ps.length) (ps.length) :: topV :: topV :: .slice (some ⟨2, 0, none⟩) (o.length) (o.length) :: .int .i64 ((↑i : Int)) :: .bool (!false) :: .int .i64 (IntKind.i64.wrap ((↑k : Int) + 1)) :: topV :: topV :: topV :: topV :: topV :: topV :: topV :: topV :: topV :: topV :: topV :: topV :: topV :: topV :: topV :: topV :: topV :: topV :: topV :: topV :: topV :: topV :: topV :: topV :: topV :: topV :: topV :: topV :: topV :: topV :: topV :: topV :: topV :: topV :: topV :: topV :: topV :: topV :: topV :: topV :: topV :: topV :: topV :: topV :: topV :: topV :: topV :: topV :: topV :: topV :: topV :: topV :: topV :: topV :: topV :: topV :: topV :: topV :: topV :: topV :: topV :: []), [some ⟨.view, .ints (flat ps)⟩, some deadB, some ⟨.row 3 1, .ints (o)⟩]⟩)))))))))) (.need ((0 : Int) ≤ (↑k : Int) ∧ (↑k : Int) < (↑ps.length : Int)) (.need ((0 : Nat) + (↑k : Int).toNat * (2 : Nat) + (2 : Nat) ≤ (flat ps).length) (.need ((0 : Int) ≤ (↑i : Int) ∧ (↑i : Int) < (↑ps.length : Int)) (.need ((0 : Nat) + (↑i : Int).toNat * (2 : Nat) + (2 : Nat) ≤ (flat ps).length) (.leaf .normal ⟨(.slice (some ⟨0, 0, none⟩) (ps.length) (ps.length) :: topV :: topV :: .slice (some ⟨2, 0, none⟩) (o.length) (o.length) :: .int .i64 ((↑i : Int)) :: .bool (!false) :: .int .i64 (IntKind.i64.wrap ((↑k : Int) + 1)) :: topV :: topV :: topV :: topV :: topV :: topV :: topV :: topV :: topV :: topV :: topV :: topV :: topV :: topV :: topV :: topV :: topV :: topV :: topV :: topV :: topV :: topV :: topV :: topV :: topV :: topV :: topV :: topV :: topV :: topV :: topV :: topV :: topV :: topV :: topV :: topV :: topV :: topV :: topV :: topV :: topV :: topV :: topV :: topV :: topV :: topV :: topV :: topV :: topV :: topV :: topV :: topV :: topV :: topV :: topV :: topV :: topV :: topV :: topV :: topV :: topV :: []), [some ⟨.view, .ints (flat ps)⟩, some deadB, some ⟨.row 3 1, .ints (o)⟩]⟩)))))) (.leaf .normal ⟨(.slice (some ⟨0, 0, none⟩) (ps.length) (ps.length) :: topV :: topV :: .slice (some ⟨2, 0, none⟩) (o.length) (o.length) :: .int .i64 ((↑i : Int)) :: .bool (false) :: .int .i64 (IntKind.i64.wrap ((↑k : Int) + 1)) :: topV :: topV :: topV :: topV :: topV :: topV :: topV :: topV :: topV :: topV :: topV :: topV :: topV :: topV :: topV :: topV :: topV :: topV :: topV :: topV :: topV :: topV :: topV :: topV :: topV :: topV :: topV :: topV :: topV :: topV :: topV :: topV :: topV :: topV :: topV :: topV :: topV :: topV :: topV :: topV :: topV :: topV :: topV :: topV :: topV :: topV :: topV :: topV :: topV :: topV :: topV :: topV :: topV :: topV :: topV :: topV :: topV :: topV :: topV :: topV :: topV :: []), [some ⟨.view, .ints (flat ps)⟩, some deadB, some ⟨.row 3 1, .ints (o)⟩]⟩)) (.leaf (.exit 2) ⟨(.slice (some ⟨0, 0, none⟩) (ps.length) (ps.length) :: topV :: topV :: .slice (some ⟨2, 0, none⟩) (o.length) (o.length) :: .int .i64 ((↑i : Int)) :: .bool (b) :: topV :: topV :: topV :: topV :: topV :: topV :: topV :: topV :: topV :: topV :: topV :: topV :: topV :: topV :: topV :: topV :: topV :: topV :: topV :: topV :: topV :: topV :: topV :: topV :: topV :: topV :: topV :: topV :: topV :: topV :: topV :: topV :: topV :: topV :: topV :: topV :: topV :: topV :: topV :: topV :: topV :: topV :: topV :: topV :: topV :: topV :: topV :: topV :: topV :: topV :: topV :: topV :: topV :: topV :: topV :: topV :: topV :: topV :: topV :: topV :: topV :: topV :: []), [some ⟨.view, .ints (flat ps)⟩, some deadB, some ⟨.row 3 1, .ints (o)⟩]⟩) := by kernel_rfl
set_option maxRecDepth 100000 in
theorem nl_smi : loopsOf c_smi = [] := by kernel_rfl
def inv_smi (ps : List Pt) (i : Nat) (o : List Int) : Nat × Bool → Prop := fun (k, b) => k ≤ ps.length
def me_smi (ps : List Pt) (i : Nat) (o : List Int) : Nat × Bool → Nat := fun (k, b) => ps.length - k
/-- A round of this loop. -/
def Round_smi (ps : List Pt) (i : Nat) (o : List Int) : Prop := ∀ xx : Nat × Bool, inv_smi ps i o xx → (bodyL Try.prog E3 30 12 noL 2 c_smi k_smi 3 (s_smi ps i o xx)).ok (RoundEnd 3 (s_smi ps i o) (inv_smi ps i o) (me_smi ps i o) re_smi (rs_smi ps i o) xx) (fun _ _ => False)
def e_smi (s : St) (k : Ex → St → Tree) : Option Tree := match Nat.beq s.tmps.length 68, pickL s.tmps [0, 3, 4, 5, 6], s.mem with
  | true, [.slice (some ⟨0, 0, none⟩) n _, .slice (some ⟨2, 0, none⟩) z _, .int .i64 i1, .bool bb, .int .i64 kk], [some ⟨.view, .ints xs⟩, some ⟨.dead, .vals []⟩, some ⟨.row 3 1, .ints o⟩] => some (needs [kk = 0, bb = true, z = o.length, xs.length = n * 2, n ≤ 20, 0 ≤ i1, i1 < n] (k (.exit 2) ⟨(.slice (some ⟨0, 0, none⟩) n n :: topV :: topV :: .slice (some ⟨2, 0, none⟩) o.length o.length :: .int .i64 i1 :: .bool (smB (ptsA n xs) i1.toNat 0 true) :: topV :: topV :: topV :: topV :: topV :: topV :: topV :: topV :: topV :: topV :: topV :: topV :: topV :: topV :: topV :: topV :: topV :: topV :: topV :: topV :: topV :: topV :: topV :: topV :: topV :: topV :: topV :: topV :: topV :: topV :: topV :: topV :: topV :: topV :: topV :: topV :: topV :: topV :: topV :: topV :: topV :: topV :: topV :: topV :: topV :: topV :: topV :: topV :: topV :: topV :: topV :: topV :: topV :: topV :: topV :: topV :: topV :: topV :: topV :: topV :: topV :: topV :: []), [some ⟨.view, .ints xs⟩, some ⟨.dead, .vals []⟩, some ⟨.row 3 1, .ints o⟩]⟩))
  | _, _, _ => none
set_option maxRecDepth 100000 in
theorem round_smi (ps : List Pt) (i : Nat) (o : List Int) (h : ps.length ≤ 20) (hi : i < ps.length) : Round_smi ps i o := by
  rintro ⟨k, b⟩ h1
  have h1 : k ≤ ps.length := h1
  rw [tr_smi]
  simp only [Int.toNat_natCast, Nat.zero_add, Nat.add_zero, flat_length, flat_get0, flat_get1]
  refine brT_ok.2 ⟨fun hlt => ?_, fun hge => ?_⟩
  · have hlt := of_decide_eq_true hlt
    have hk : k < ps.length := by omega
    rw [wsucc (n := ps.length) hk (by omega)]
    have st := allQ_step (P := novQ ps (ps.getD i (0, 0)).1 (ps.getD i (0, 0)).2) (i := k) (n := ps.length) hk
    have hn : novQ ps (ps.getD i (0, 0)).1 (ps.getD i (0, 0)).2 k = !(!((ps.getD k (0, 0)).1 == (ps.getD i (0, 0)).1 && (ps.getD k (0, 0)).2 == (ps.getD i (0, 0)).2) && (decide ((ps.getD i (0, 0)).1 ≤ (ps.getD k (0, 0)).1) && decide ((ps.getD i (0, 0)).2 ≤ (ps.getD k (0, 0)).2))) := rfl
    have new : ∀ c : Bool, c = (b && novQ ps (ps.getD i (0, 0)).1 (ps.getD i (0, 0)).2 k) → RoundEnd 3 (s_smi ps i o) (inv_smi ps i o) (me_smi ps i o) re_smi (rs_smi ps i o) (k, b) .normal (s_smi ps i o (k + 1, c)) := fun c e => by
      refine ⟨(k + 1, c), [], ?_, ?_, rfl, ?_, ?_⟩
      · show k + 1 ≤ ps.length; omega
      · show ps.length - (k + 1) < ps.length - k; omega
      · have e2 : smB ps i k b = smB ps i (k + 1) c := by
          unfold smB
          rw [st, e, Bool.and_assoc]
        simp only [rs_smi, e2]
      · repeat' (first | exact True.intro | exact rfl | exact fun _ => rfl | refine And.intro ?_ ?_)
    generalize ps.getD i (0, 0) = p at *
    generalize ps.getD k (0, 0) = q at *
    rcases b with _ | _
    · simp only [brT_f, Tree.ok]
      exact new false rfl
    · rcases g1 : q.1 == p.1 with _ | _ <;> rcases g2 : q.2 == p.2 with _ | _ <;> rcases g3 : decide (p.1 ≤ q.1) with _ | _ <;> rcases g4 : decide (p.2 ≤ q.2) with _ | _
      all_goals
        rw [g1, g2, g3, g4] at hn
        simp only [g1, g2, g3, g4, negT_, negF_, brT_t, brT_f, Bool.not_true, Bool.not_false, Bool.and_true, Bool.and_false, Bool.true_and, Bool.false_and, Tree.ok]
        repeat (refine And.intro (by omega) ?_)
        exact new _ (by rw [hn]; rfl)
  · have hge := of_decide_eq_false hge
    have e : smB ps i k b = b := by
      unfold smB
      rw [allQ_end (by omega), Bool.and_true]
    refine ⟨rfl, [], ?_⟩
    simp only [rs_smi, e]
    repeat' (first | exact True.intro | exact rfl | exact fun _ => rfl | refine And.intro ?_ ?_)
set_option maxRecDepth 100000 in
theorem lg_smi : LoopE Try.prog e_smi c_smi := by
  intro s k t F H hlt ht
  unfold e_smi at hlt
  split at hlt
  rotate_left
  · cases hlt
  rename_i hlen hpick hmem
  obtain ⟨tmps, mem⟩ := s
  simp only at hlen hpick hmem
  subst hmem
  obtain rfl := Option.some.inj hlt
  obtain ⟨⟨rfl, rfl, rfl, h1, h2, h4, h6, _⟩, ht2⟩ := needs_ok ht
  clear ht hlt
  obtain ⟨ps, rfl, rfl⟩ := even_flat h1
  obtain ⟨i, rfl⟩ := Int.eq_ofNat_of_zero_le h4
  rw [ptsA_flat] at ht2
  simp only [Int.toNat_natCast] at ht2
  refine ⟨_, _, ht2, loop_run mixed E3_ok (s_smi _ _ _) (inv_smi _ _ _) (me_smi _ _ _) re_smi (rs_smi _ _ _) k_smi (fun _ => rfl) (noLoops nl_smi) (round_smi _ _ _ h2 (by omega)) (x := (0, true)) (Nat.zero_le _) (π := []) rfl ?_⟩
  refine ⟨rfl, rfl, ?_, wvs_spread' [0, 3, 4, 5, 6] hlen rfl ?_⟩
  · repeat' (first | exact True.intro | exact rfl | exact wv_top _ _ | exact fun _ => rfl | assumption | exact Eq.symm (by assumption) | exact vI0 rfl | refine And.intro ?_ ?_)
  · rw [hpick]
    repeat' (first | exact True.intro | exact rfl | exact wv_top _ _ | exact fun _ => rfl | assumption | exact Eq.symm (by assumption) | exact vI0 rfl | refine And.intro ?_ ?_)
def ltSm : LT := fun j s k => match j with
  | 1 => e_smi s k
  | _ => none
noncomputable def c_smo : Code := ((loopsOf (codeOf Try.f31))[0]?).getD .skip
def k_smo : Ex → List Nat := keeps [0, 3, 4] [(0, [3])] [2]
def s_smo (ps : List Pt) : Nat × (List Int) → St := fun (i, o) => ⟨(.slice (some ⟨0, 0, none⟩) ps.length ps.length :: topV :: topV :: .slice (some ⟨2, 0, none⟩) o.length o.length :: .int .i64 i :: topV :: topV :: topV :: topV :: topV :: topV :: topV :: topV :: topV :: topV :: topV :: topV :: topV :: topV :: topV :: topV :: topV :: topV :: topV :: topV :: topV :: topV :: topV :: topV :: topV :: topV :: topV :: topV :: topV :: topV :: topV :: topV :: topV :: topV :: topV :: topV :: topV :: topV :: topV :: topV :: topV :: topV :: topV :: topV :: topV :: topV :: topV :: topV :: topV :: topV :: topV :: topV :: topV :: topV :: topV :: topV :: topV :: topV :: topV :: topV :: topV :: topV :: topV :: []), [some ⟨.view, .ints (flat ps)⟩, some ⟨.dead, .vals []⟩, some ⟨.row 3 1, .ints o⟩]⟩
def re_smo : Nat × (List Int) → Ex := fun _ => .exit 0
def rs_smo (ps : List Pt) : Nat × (List Int) → St := fun (i, o) => ⟨(topV :: topV :: topV :: .slice (some ⟨2, 0, none⟩) (o ++ idxF (mxB ps) (ps.drop i) i).length (o ++ idxF (mxB ps) (ps.drop i) i).length :: topV :: topV :: topV :: topV :: topV :: topV :: topV :: topV :: topV :: topV :: topV :: topV :: topV :: topV :: topV :: topV :: topV :: topV :: topV :: topV :: topV :: topV :: topV :: topV :: topV :: topV :: topV :: topV :: topV :: topV :: topV :: topV :: topV :: topV :: topV :: topV :: topV :: topV :: topV :: topV :: topV :: topV :: topV :: topV :: topV :: topV :: topV :: topV :: topV :: topV :: topV :: topV :: topV :: topV :: topV :: topV :: topV :: topV :: topV :: topV :: topV :: topV :: topV :: topV :: []), [some ⟨.view, .ints (flat ps)⟩, some ⟨.dead, .vals []⟩, some ⟨.row 3 1, .ints (o ++ idxF (mxB ps) (ps.drop i) i)⟩]⟩
set_option maxRecDepth 100000 in
theorem tr_smo (ps : List Pt) (i : Nat) (o : List Int) : bodyL Try.prog E3 30 12 ltSm 1 c_smo k_smo 8 (s_smo ps (i, o)) = brT (decide ((↑i : Int) < (↑ps.length : Int))) (.need ((0 : Int) = (0 : Int)) (.need (true = true) (.need (o.length = o.length) (.need ((flat ps).length = ps.length * (2 : Nat)) (.need (ps.length ≤ (20 : Nat)) (.need ((0 : Int) ≤ (↑i : Int)) (.need ((↑i : Int) < (↑ps.length : Int)) (brT (smB (ptsA ps.length (flat ps)) (↑i : Int).toNat 0 true) (.need ((o.length + (1 : Nat)) * (8 : Nat) ≤ (140737488355328 : Nat) ∧ o.length + (1 : Nat) ≤ (1000000 : Nat)) (.need ((0 : Nat) + o.length * (1 : Nat) ≤ o.length) (.leaf .normal ⟨(.slice (some ⟨0, 0, none⟩) (ps.length) (ps.length) :: topV :: topV :: .slice (some ⟨4, 0, none⟩) (o.length + 1) (o.length + 1) :: .int .i64 (IntKind.i64.wrap ((↑i : Int) + 1)) :: topV :: topV :: topV :: topV :: topV :: topV :: topV :: topV :: topV :: topV :: topV :: topV :: topV :: topV :: topV :: topV :: topV :: topV :: topV :: topV :: topV :: topV :: topV :: topV :: topV :: topV :: topV :: topV :: topV :: topV :: topV :: topV :: topV :: topV :: topV :: topV :: topV :: topV :: topV :: topV :: topV :: topV :: topV :: topV :: topV :: topV :: topV :: topV :: topV :: topV :: topV :: topV :: topV :: topV :: topV :: topV :: topV :: topV :: topV :: topV :: topV :: topV :: topV :: []), [some ⟨.view, .ints (flat ps)⟩, some deadB, some deadB, some ⟨.row 3 1, .vals [.int .i64 ((↑i : Int))]⟩, some ⟨.row 3 1, .ints (List.take (o.length * 1) (List.drop 0 o) ++ [(↑i : Int)])⟩]⟩))) (.leaf .normal ⟨(.slice (some ⟨0, 0, none⟩) (ps.length) (ps.length) :: topV :: topV :: .slice (some ⟨2, 0, none⟩) (o.length) (o.length) :: .int .i64 (IntKind.i64.wrap ((↑i : Int) + 1)) :: topV :: topV :: topV :: topV :: topV :: topV :: topV :: topV :: topV :: topV :: topV :: topV :: topV :: topV :: topV :: topV :: topV :: topV :: topV :: topV :: topV :: topV :: topV :: topV :: topV :: topV :: topV :: topV :: topV :: topV :: topV :: topV :: topV :: topV :: topV :: topV :: topV :: topV :: topV :: topV :: topV :: topV :: topV :: topV :: topV :: topV :: topV :: topV :: topV :: topV :: topV :: topV :: topV :: topV :: topV :: topV :: topV :: topV :: topV :: topV :: topV :: topV :: topV :: []), [some ⟨.view, .ints (flat ps)⟩, some deadB, some ⟨.row 3 1, .ints (o)⟩]⟩))))))))) (.leaf (.exit 0) ⟨(topV :: topV :: topV :: .slice (some ⟨2, 0, none⟩) (o.length) (o.length) :: topV :: topV :: topV :: topV :: topV :: topV :: topV :: topV :: topV :: topV :: topV :: topV :: topV :: topV :: topV :: topV :: topV :: topV :: topV :: topV :: topV :: topV :: topV :: topV :: topV :: topV :: topV :: topV :: topV :: topV :: topV :: topV :: topV :: topV :: topV :: topV :: topV :: topV :: topV :: topV :: topV :: topV :: topV :: topV :: topV :: topV :: topV :: topV :: topV :: topV :: topV :: topV :: topV :: topV :: topV :: topV :: topV :: topV :: topV :: topV :: topV :: topV :: topV :: topV :: []), [some ⟨.view, .ints (flat ps)⟩, some deadB, some ⟨.row 3 1, .ints (o)⟩]⟩) := by kernel_rfl
def inv_smo (ps : List Pt) : Nat × (List Int) → Prop := fun (i, o) => i ≤ ps.length ∧ o.length ≤ i
def me_smo (ps : List Pt) : Nat × (List Int) → Nat := fun (i, o) => ps.length - i
/-- A round of this loop. -/
def Round_smo (ps : List Pt) : Prop := ∀ xx : Nat × (List Int), inv_smo ps xx → (bodyL Try.prog E3 30 12 ltSm 1 c_smo k_smo 8 (s_smo ps xx)).ok (RoundEnd 2 (s_smo ps) (inv_smo ps) (me_smo ps) re_smo (rs_smo ps) xx) (fun _ _ => False)
def e_smo (s : St) (k : Ex → St → Tree) : Option Tree := match Nat.beq s.tmps.length 68, pickL s.tmps [0, 3, 4], s.mem with
  | true, [.slice (some ⟨0, 0, none⟩) n _, .slice (some ⟨1, 0, none⟩) z _, .int .i64 ii], [some ⟨.view, .ints xs⟩, some ⟨.row 3 1, .vals []⟩] => some (needs [ii = 0, z = 0, xs.length = n * 2, n ≤ 20] (k (.exit 0) ⟨(topV :: topV :: topV :: .slice (some ⟨2, 0, none⟩) (idxF (mxB (ptsA n xs)) (ptsA n xs) 0).length (idxF (mxB (ptsA n xs)) (ptsA n xs) 0).length :: topV :: topV :: topV :: topV :: topV :: topV :: topV :: topV :: topV :: topV :: topV :: topV :: topV :: topV :: topV :: topV :: topV :: topV :: topV :: topV :: topV :: topV :: topV :: topV :: topV :: topV :: topV :: topV :: topV :: topV :: topV :: topV :: topV :: topV :: topV :: topV :: topV :: topV :: topV :: topV :: topV :: topV :: topV :: topV :: topV :: topV :: topV :: topV :: topV :: topV :: topV :: topV :: topV :: topV :: topV :: topV :: topV :: topV :: topV :: topV :: topV :: topV :: topV :: topV :: []), [some ⟨.view, .ints xs⟩, some ⟨.dead, .vals []⟩, some ⟨.row 3 1, .ints (idxF (mxB (ptsA n xs)) (ptsA n xs) 0)⟩]⟩))
  | _, _, _ => none
set_option maxRecDepth 100000 in
theorem in_smo : loopsOf c_smo = [c_smi] := by kernel_rfl
theorem ltSm_good : LoopsGood Try.prog ltSm 1 c_smo := by
  intro i d hd s k t F H hlt ht
  rw [in_smo] at hd
  cases i with
  | zero =>
    obtain rfl : c_smi = d := by simpa using hd
    exact lg_smi s k t F H hlt ht
  | succ i => simp at hd
set_option maxRecDepth 100000 in
theorem round_smo (ps : List Pt) (h : ps.length ≤ 20) : Round_smo ps := by
  rintro ⟨i, o⟩ ⟨h1, h2⟩
  rw [tr_smo]
  simp only [brT_ok, Tree.ok, decide_eq_true_eq, decide_eq_false_iff_not, Int.toNat_natCast, Nat.zero_add, flat_length, take_all1, ptsA_flat, Int.zero_add]
  refine ⟨fun hlt => ?_, fun hge => ?_⟩
  · rw [wsucc (n := ps.length) (by omega) (by omega)]
    have hb : smB ps i 0 true = mxB ps (ps.getD i (0, 0)) := rfl
    rw [hb]
    refine ⟨trivial, trivial, trivial, trivial, h, by omega, by omega, fun g1 => ⟨by omega, by omega, ?_⟩, fun g1 => ?_⟩
    · refine ⟨(i + 1, o ++ [(i : Int)]), [some 4], ⟨by omega, by simp; omega⟩, ?_, rfl, ?_, ?_⟩
      · show ps.length - (i + 1) < ps.length - i; omega
      · simp only [rs_smo, idx_yes (P := mxB ps) (ps := ps) (i := i) (by omega) g1 o]
      · repeat' (first | exact True.intro | exact rfl | exact fun _ => rfl | (simp; done) | refine And.intro ?_ ?_)
    · refine ⟨(i + 1, o), [some 2], ⟨by omega, by omega⟩, ?_, rfl, ?_, ?_⟩
      · show ps.length - (i + 1) < ps.length - i; omega
      · simp only [rs_smo, idx_no (P := mxB ps) (ps := ps) (i := i) (by omega) g1]
      · repeat' (first | exact True.intro | exact rfl | exact fun _ => rfl | (simp; done) | refine And.intro ?_ ?_)
  · refine ⟨rfl, [some 2], ?_⟩
    simp only [rs_smo, idx_end (P := mxB ps) (ps := ps) (i := i) (by omega), List.append_nil]
    repeat' (first | exact True.intro | exact rfl | exact fun _ => rfl | (simp; done) | refine And.intro ?_ ?_)
set_option maxRecDepth 100000 in
theorem lg_smo : LoopE Try.prog e_smo c_smo := by
  intro s k t F H hlt ht
  unfold e_smo at hlt
  split at hlt
  rotate_left
  · cases hlt
  rename_i hlen hpick hmem
  obtain ⟨tmps, mem⟩ := s
  simp only at hlen hpick hmem
  subst hmem
  obtain rfl := Option.some.inj hlt
  obtain ⟨⟨rfl, rfl, h1, h2, _⟩, ht2⟩ := needs_ok ht
  clear ht hlt
  obtain ⟨ps, rfl, rfl⟩ := even_flat h1
  rw [ptsA_flat] at ht2
  refine ⟨_, _, ht2, loop_run2 mixed E3_ok (s_smo _) (inv_smo _) (me_smo _) re_smo (rs_smo _) k_smo (fun _ => rfl) ltSm_good (round_smo _ h2) (x := (0, [])) ⟨Nat.zero_le _, Nat.le_refl _⟩ (π := [some 1]) rfl ?_⟩
  refine ⟨rfl, rfl, ?_, wvs_spread' [0, 3, 4] hlen rfl ?_⟩
  · repeat' (first | exact True.intro | exact rfl | exact wv_top _ _ | exact fun _ => rfl | assumption | exact Eq.symm (by assumption) | exact vI0 rfl | refine And.intro ?_ ?_)
  · rw [hpick]
    repeat' (first | exact True.intro | exact rfl | exact wv_top _ _ | exact fun _ => rfl | assumption | exact Eq.symm (by assumption) | exact vI0 rfl | refine And.intro ?_ ?_)
end Go.Proofs.Ytnjmepbblcfnfaa
namespace Go.Proofs.Ytnjmepbblcfnfaa
set_option linter.all false
open Go.RowKit
abbrev rowIx (xs : List Int) : Value := .slice (some ⟨0, 0, none⟩) xs.length xs.length
theorem Lr_imx {fn : Func} (hf : Try.prog.funcs[92]? = some fn) : LoopsGood Try.prog (lt1 e_imx) 0 (codeOf fn) := by
  obtain rfl := fn_is Try.func92 hf
  exact lt1_good lg_imx
theorem Lr_smo {fn : Func} (hf : Try.prog.funcs[31]? = some fn) : LoopsGood Try.prog (lt1 e_smo) 0 (codeOf fn) := by
  obtain rfl := fn_is Try.func31 hf
  exact lt1_good lg_smo
def LMx : FuncId → LT := fun f => match f with
  | 92 => lt1 e_imx
  | 31 => lt1 e_smo
  | _ => noL
def EMx : Env := mkE T2 (fun _ _ => none) LMx
theorem EMx_ok : EnvOk Try.prog EMx := mkEOk T2_ok (fun _ _ _ _ _ h => (by cases h)) (by
  intro f fn hf
  unfold LMx
  split
  all_goals first | with_reducible exact Lr_imx hf | with_reducible exact Lr_smo hf | exact noL_good)
set_option maxRecDepth 100000 in
theorem tr_sMx (ps : List Pt) : bodyX Try.prog EMx 30 12 31 [.row ps.length (.ints (flat ps))] = .need (ps.length * (2 : Nat) ≤ (List.drop (0 : Nat) (flat ps)).length) (.need (ps.length ≤ (1000000000 : Nat)) (brT (!okL (ptsA ps.length (List.drop 0 (flat ps)))) (.fin (.slice none (0) (0)) [some ⟨.view, .ints (flat ps)⟩, some ⟨.row 3 1, .vals []⟩]) (.need ((0 : Int) = (0 : Int)) (.need ((0 : Nat) = (0 : Nat)) (.need ((flat ps).length = ps.length * (2 : Nat)) (.need (ps.length ≤ (20 : Nat)) (.fin (.slice (some ⟨2, 0, none⟩) ((idxF (mxB (ptsA ps.length (flat ps))) (ptsA ps.length (flat ps)) 0).length) ((idxF (mxB (ptsA ps.length (flat ps))) (ptsA ps.length (flat ps)) 0).length)) [some ⟨.view, .ints (flat ps)⟩, some deadB, some ⟨.row 3 1, .ints (idxF (mxB (ptsA ps.length (flat ps))) (ptsA ps.length (flat ps)) 0)⟩]))))))) := by kernel_rfl
set_option maxRecDepth 100000 in
theorem tr_iMx (ps : List Pt) : bodyX Try.prog EMx 30 12 32 [.row ps.length (.ints (flat ps))] = brT (decide ((↑ps.length : Int) ≤ 20)) (.need (ps.length * (2 : Nat) ≤ (List.drop (0 : Nat) (flat ps)).length) (.need (ps.length ≤ (1000000000 : Nat)) (brT (!allV (ptsA ps.length (List.drop 0 (flat ps)))) (.fin (.slice none (0) (0)) [some ⟨.view, .ints (flat ps)⟩, some ⟨.box, .vals [.slice (some ⟨0, 0, none⟩) (ps.length) (ps.length)]⟩]) (.need ((0 : Int) = (0 : Int)) (.need ((↑ps.length : Int) = (↑ps.length : Int)) (.need (ps.length = ps.length) (.need ((flat ps).length = ps.length * (2 : Nat)) (.need (ps.length ≤ (20 : Nat)) (.fin (.slice (some ⟨2, 0, none⟩) ((idxF (mxB (ptsA ps.length (flat ps))) (ptsA ps.length (flat ps)) 0).length) ((idxF (mxB (ptsA ps.length (flat ps))) (ptsA ps.length (flat ps)) 0).length)) [some ⟨.view, .ints (flat ps)⟩, some ⟨.box, .vals [.slice (some ⟨0, 0, none⟩) (ps.length) (ps.length)]⟩, some ⟨.row 3 1, .ints (idxF (mxB (ptsA ps.length (flat ps))) (ptsA ps.length (flat ps)) 0)⟩]))))))))) (.fin (.slice none (0) (0)) [some ⟨.view, .ints (flat ps)⟩, some ⟨.box, .vals [.slice (some ⟨0, 0, none⟩) (ps.length) (ps.length)]⟩]) := by kernel_rfl
/-- What Maxima answers. -/
def mxV (ps : List Pt) : List Int := bif okL ps then idxF (mxB ps) ps 0 else []
theorem resR_sMx (ps : List Pt) (h : Big ps) : ResR Try.prog 31 [.row ps.length (.ints (flat ps))] (rowIx (mxV ps)) ⟨.row 3 1, .ints (mxV ps)⟩ := by
  refine bodyX_resR mixed EMx_ok (m := 30) (n := 12) rfl ?_
  rw [tr_sMx]
  unfold Big at h
  simp only [List.drop_zero, ptsA_flat, flat_length]
  unfold mxV
  rcases hk : okL ps with _ | _
  · exact ⟨Nat.le_refl _, h, none, ⟨rfl, rfl⟩, trivial⟩
  have hl : ps.length ≤ 20 := by simp only [okL, Bool.and_eq_true, decide_eq_true_eq] at hk; exact hk.2
  exact ⟨Nat.le_refl _, h, trivial, trivial, trivial, hl, some 2, ⟨rfl, rfl, rfl⟩, rfl, rfl, rfl⟩
theorem resR_iMx (ps : List Pt) (h : Big ps) : ResR Try.prog 32 [.row ps.length (.ints (flat ps))] (rowIx (mxV ps)) ⟨.row 3 1, .ints (mxV ps)⟩ := by
  refine bodyX_resR mixed EMx_ok (m := 30) (n := 12) rfl ?_
  rw [tr_iMx]
  unfold Big at h
  simp only [List.drop_zero, ptsA_flat, flat_length]
  unfold mxV okL
  by_cases hl : ps.length ≤ 20
  · have hl2 : (ps.length : Int) ≤ 20 := by omega
    rw [decide_eq_true hl2, decide_eq_true hl]
    rcases hk : allV ps with _ | _
    · exact ⟨Nat.le_refl _, h, none, ⟨rfl, rfl⟩, trivial⟩
    exact ⟨Nat.le_refl _, h, trivial, trivial, trivial, trivial, hl, some 2, ⟨rfl, rfl, rfl⟩, rfl, rfl, rfl⟩
  · have hl2 : ¬ (ps.length : Int) ≤ 20 := by omega
    rw [decide_eq_false hl2, decide_eq_false hl]
    simp only [Bool.and_false, cond_false]
    exact ⟨none, ⟨rfl, rfl⟩, trivial⟩
def RMx : TabR := fun f ds => match f, ds with
  | 31, [.row m (.ints xs)] => some (rowIx (mxV (ptsA m xs)), ⟨.row 3 1, .ints (mxV (ptsA m xs))⟩, [m * 2 ≤ xs.length, m ≤ 1000000000])
  | 32, [.row m (.ints xs)] => some (rowIx (mxV (ptsA m xs)), ⟨.row 3 1, .ints (mxV (ptsA m xs))⟩, [m * 2 ≤ xs.length, m ≤ 1000000000])
  | f, ds => R4 f ds
theorem RMx_ok : TabROk Try.prog RMx := by
  intro f ds v b C h hC
  unfold RMx at h
  split at h
  · obtain ⟨rfl, rfl, rfl⟩ : _ ∧ _ ∧ _ := by simpa using h
    obtain ⟨_, h2⟩ := ptsA_spec hC.1
    exact resR_pts1 (pre := []) (post := []) hC.1 (resR_sMx _ (by unfold Big; rw [h2]; exact hC.2.1))
  · obtain ⟨rfl, rfl, rfl⟩ : _ ∧ _ ∧ _ := by simpa using h
    obtain ⟨_, h2⟩ := ptsA_spec hC.1
    exact resR_pts1 (pre := []) (post := []) hC.1 (resR_iMx _ (by unfold Big; rw [h2]; exact hC.2.1))
  · exact R4_ok _ _ _ _ _ h hC
theorem mxV_len (ps : List Pt) : (mxV ps).length ≤ 20 := by
  unfold mxV
  rcases hk : okL ps with _ | _
  · exact Nat.zero_le _
  · simp only [okL, Bool.and_eq_true, decide_eq_true_eq] at hk
    have := idx_len (mxB ps) ps 0
    simp only [cond_true]
    omega
end Go.Proofs.Ytnjmepbblcfnfaa
namespace Go.Proofs.Ytnjmepbblcfnfaa
set_option linter.all false
open Go.RowKit
noncomputable def c_eqN : Code := ((loopsOf (codeOf Try.f38))[0]?).getD .skip
def k_eqN : Ex → List Nat := keeps [0, 1, 5] [(0, [])] [4]
def s_eqN (n : Nat) (xs : List Int) : Nat → St := fun i => ⟨[.slice (some ⟨0, 0, none⟩) n n, .slice (some ⟨1, 0, none⟩) n n, topV, topV, topV, .int .i64 i, topV, topV, topV, topV, topV, topV, topV, topV, topV, topV, topV, topV, topV, topV, topV, topV, topV, topV, topV, topV], [some ⟨.view, .ints xs⟩, some ⟨.view, .ints xs⟩]⟩
def re_eqN : Nat → Ex := fun _ => .exit 0
def rs_eqN (n : Nat) (xs : List Int) : Nat → St := fun i => ⟨[topV, topV, topV, topV, topV, topV, topV, topV, topV, topV, topV, topV, topV, topV, topV, topV, topV, topV, topV, topV, topV, topV, topV, topV, topV, topV], [some ⟨.view, .ints xs⟩, some ⟨.view, .ints xs⟩]⟩
set_option maxRecDepth 100000 in
theorem tr_eqN (n : Nat) (xs : List Int) (i : Nat) : bodyL Try.prog E3 30 12 noL 1 c_eqN k_eqN 2 (s_eqN n xs i) = brT (decide ((↑i : Int) < (↑n : Int))) (.need ((0 : Int) ≤ (↑i : Int) ∧ (↑i : Int) < (↑n : Int)) (.need ((0 : Nat) + (↑i : Int).toNat * (1 : Nat) < xs.length) (.need ((0 : Int) ≤ (↑i : Int) ∧ (↑i : Int) < (↑n : Int)) (.need ((0 : Nat) + (↑i : Int).toNat * (1 : Nat) < xs.length) (brT (!xs.getD (0 + (↑i : Int).toNat * 1) 0 == xs.getD (0 + (↑i : Int).toNat * 1) 0) (.leaf .ret ⟨[topV, topV, topV, topV, .bool (false), topV, topV, topV, topV, topV, topV, topV, topV, topV, topV, topV, topV, topV, topV, topV, topV, topV, topV, topV, topV, topV], [some ⟨.view, .ints (xs)⟩, some ⟨.view, .ints (xs)⟩]⟩) (.leaf .normal ⟨[.slice (some ⟨0, 0, none⟩) (n) (n), .slice (some ⟨1, 0, none⟩) (n) (n), topV, topV, topV, .int .i64 (IntKind.i64.wrap ((↑i : Int) + 1)), topV, topV, topV, topV, topV, topV, topV, topV, topV, topV, topV, topV, topV, topV, topV, topV, topV, topV, topV, topV], [some ⟨.view, .ints (xs)⟩, some ⟨.view, .ints (xs)⟩]⟩)))))) (.leaf (.exit 0) ⟨[topV, topV, topV, topV, topV, topV, topV, topV, topV, topV, topV, topV, topV, topV, topV, topV, topV, topV, topV, topV, topV, topV, topV, topV, topV, topV], [some ⟨.view, .ints (xs)⟩, some ⟨.view, .ints (xs)⟩]⟩) := by kernel_rfl
set_option maxRecDepth 100000 in
theorem nl_eqN : loopsOf c_eqN = [] := by kernel_rfl
def inv_eqN (n : Nat) (xs : List Int) : Nat → Prop := fun i => i ≤ n
def me_eqN (n : Nat) (xs : List Int) : Nat → Nat := fun i => n - i
/-- A round of this loop. -/
def Round_eqN (n : Nat) (xs : List Int) : Prop := ∀ xx : Nat, inv_eqN n xs xx → (bodyL Try.prog E3 30 12 noL 1 c_eqN k_eqN 2 (s_eqN n xs xx)).ok (RoundEnd 2 (s_eqN n xs) (inv_eqN n xs) (me_eqN n xs) re_eqN (rs_eqN n xs) xx) (fun _ _ => False)
def e_eqN (s : St) (k : Ex → St → Tree) : Option Tree := match Nat.beq s.tmps.length 26, pickL s.tmps [0, 1, 5], s.mem with
  | true, [.slice (some ⟨0, 0, none⟩) n _, .slice (some ⟨1, 0, none⟩) m _, .int .i64 i], [some ⟨.view, .ints xs⟩, some ⟨.view, .ints ys⟩] => some (needs [i = 0, m = n, ys = xs, n ≤ xs.length, n ≤ 1000000000] (k (.exit 0) ⟨[topV, topV, topV, topV, topV, topV, topV, topV, topV, topV, topV, topV, topV, topV, topV, topV, topV, topV, topV, topV, topV, topV, topV, topV, topV, topV], [some ⟨.view, .ints xs⟩, some ⟨.view, .ints xs⟩]⟩))
  | _, _, _ => none
set_option maxRecDepth 100000 in
theorem round_eqN (n : Nat) (xs : List Int) (hx : n ≤ xs.length) (h : n ≤ 1000000000) : Round_eqN n xs := by
  intro i h1
  have h1 : i ≤ n := h1
  rw [tr_eqN]
  simp only [brT_ok, Tree.ok, decide_eq_true_eq, decide_eq_false_iff_not, Int.toNat_natCast, Nat.zero_add, Nat.mul_one, Bool.not_eq_true', Bool.not_eq_false', beq_iff_eq, beq_eq_false_iff_ne]
  refine ⟨fun hlt => ?_, fun hge => ?_⟩
  · rw [wsucc (n := n) (by omega) h]
    refine ⟨by omega, by omega, by omega, by omega, fun hc => absurd rfl hc, fun _ => ⟨i + 1, [], ?_, ?_, rfl, rfl, ?_⟩⟩
    · show i + 1 ≤ n; omega
    · show n - (i + 1) < n - i; omega
    · repeat' (first | exact True.intro | exact rfl | exact fun _ => rfl | refine And.intro ?_ ?_)
  · refine ⟨rfl, [], ?_⟩
    repeat' (first | exact True.intro | exact rfl | exact fun _ => rfl | refine And.intro ?_ ?_)
set_option maxRecDepth 100000 in
theorem lg_eqN : LoopE Try.prog e_eqN c_eqN := by
  intro s k t F H hlt ht
  unfold e_eqN at hlt
  split at hlt
  rotate_left
  · cases hlt
  rename_i hlen hpick hmem
  obtain ⟨tmps, mem⟩ := s
  simp only at hlen hpick hmem
  subst hmem
  obtain rfl := Option.some.inj hlt
  obtain ⟨⟨rfl, rfl, rfl, h1, h2, _⟩, ht2⟩ := needs_ok ht
  clear ht hlt
  refine ⟨_, _, ht2, loop_run mixed E3_ok (s_eqN _ _) (inv_eqN _ _) (me_eqN _ _) re_eqN (rs_eqN _ _) k_eqN (fun _ => rfl) (noLoops nl_eqN) (round_eqN _ _ h1 h2) (x := 0) (Nat.zero_le _) (π := []) rfl ?_⟩
  refine ⟨rfl, rfl, ?_, wvs_spread' [0, 1, 5] hlen rfl ?_⟩
  · repeat' (first | exact True.intro | exact rfl | exact wv_top _ _ | exact fun _ => rfl | assumption | exact Eq.symm (by assumption) | exact vI0 rfl | refine And.intro ?_ ?_)
  · rw [hpick]
    repeat' (first | exact True.intro | exact rfl | exact wv_top _ _ | exact fun _ => rfl | assumption | exact Eq.symm (by assumption) | exact vI0 rfl | refine And.intro ?_ ?_)
/-- Not k at j. -/
def neQ (xs : List Int) (k : Int) (j : Nat) : Bool := !(xs.getD j 0 == k)
noncomputable def c_isN : Code := ((loopsOf (codeOf Try.f39))[0]?).getD .skip
def k_isN : Ex → List Nat := keeps [0, 1, 5] [(0, [])] [4]
def s_isN (n : Nat) (xs : List Int) (q : Int) : Nat → St := fun i => ⟨[.slice (some ⟨0, 0, none⟩) n n, .int .i64 q, topV, topV, topV, .int .i64 i, topV, topV, topV, topV, topV, topV, topV, topV, topV, topV, topV, topV], [some ⟨.view, .ints xs⟩, none]⟩
def re_isN (n : Nat) (xs : List Int) (q : Int) : Nat → Ex := fun i => bif allQ (neQ xs q) i (n - i) then .exit 0 else .ret
def rs_isN (n : Nat) (xs : List Int) (q : Int) : Nat → St := fun i => bif allQ (neQ xs q) i (n - i) then ⟨[topV, topV, topV, topV, topV, topV, topV, topV, topV, topV, topV, topV, topV, topV, topV, topV, topV, topV], [some ⟨.view, .ints xs⟩, none]⟩ else ⟨[topV, topV, topV, topV, .bool true, topV, topV, topV, topV, topV, topV, topV, topV, topV, topV, topV, topV, topV], [some ⟨.view, .ints xs⟩, none]⟩
set_option maxRecDepth 100000 in
theorem tr_isN (n : Nat) (xs : List Int) (q : Int) (i : Nat) : bodyL Try.prog E3 30 12 noL 1 c_isN k_isN 2 (s_isN n xs q i) = brT (decide ((↑i : Int) < (↑n : Int))) (.need ((0 : Int) ≤ (↑i : Int) ∧ (↑i : Int) < (↑n : Int)) (.need ((0 : Nat) + (↑i : Int).toNat * (1 : Nat) < xs.length) (brT (xs.getD (0 + (↑i : Int).toNat * 1) 0 == q) (.leaf .ret ⟨[topV, topV, topV, topV, .bool (true), topV, topV, topV, topV, topV, topV, topV, topV, topV, topV, topV, topV, topV], [some ⟨.view, .ints (xs)⟩, none]⟩) (.leaf .normal ⟨[.slice (some ⟨0, 0, none⟩) (n) (n), .int .i64 (q), topV, topV, topV, .int .i64 (IntKind.i64.wrap ((↑i : Int) + 1)), topV, topV, topV, topV, topV, topV, topV, topV, topV, topV, topV, topV], [some ⟨.view, .ints (xs)⟩, none]⟩)))) (.leaf (.exit 0) ⟨[topV, topV, topV, topV, topV, topV, topV, topV, topV, topV, topV, topV, topV, topV, topV, topV, topV, topV], [some ⟨.view, .ints (xs)⟩, none]⟩) := by kernel_rfl
set_option maxRecDepth 100000 in
theorem nl_isN : loopsOf c_isN = [] := by kernel_rfl
def inv_isN (n : Nat) (xs : List Int) (q : Int) : Nat → Prop := fun i => i ≤ n
def me_isN (n : Nat) (xs : List Int) (q : Int) : Nat → Nat := fun i => n - i
/-- A round of this loop. -/
def Round_isN (n : Nat) (xs : List Int) (q : Int) : Prop := ∀ xx : Nat, inv_isN n xs q xx → (bodyL Try.prog E3 30 12 noL 1 c_isN k_isN 2 (s_isN n xs q xx)).ok (RoundEnd 2 (s_isN n xs q) (inv_isN n xs q) (me_isN n xs q) (re_isN n xs q) (rs_isN n xs q) xx) (fun _ _ => False)
def e_isN (s : St) (k : Ex → St → Tree) : Option Tree := match Nat.beq s.tmps.length 18, pickL s.tmps [0, 1, 5], s.mem with
  | true, [.slice (some ⟨0, 0, none⟩) n _, .int .i64 q, .int .i64 i], [some ⟨.view, .ints xs⟩, none] => some (needs [i = 0, n ≤ xs.length, n ≤ 1000000000] (brT (allQ (neQ xs q) 0 n) (k (.exit 0) ⟨[topV, topV, topV, topV, topV, topV, topV, topV, topV, topV, topV, topV, topV, topV, topV, topV, topV, topV], [some ⟨.view, .ints xs⟩, none]⟩) (k .ret ⟨[topV, topV, topV, topV, .bool true, topV, topV, topV, topV, topV, topV, topV, topV, topV, topV, topV, topV, topV], [some ⟨.view, .ints xs⟩, none]⟩)))
  | _, _, _ => none
set_option maxRecDepth 100000 in
theorem round_isN (n : Nat) (xs : List Int) (q : Int) (hx : n ≤ xs.length) (h : n ≤ 1000000000) : Round_isN n xs q := by
  intro i h1
  have h1 : i ≤ n := h1
  rw [tr_isN]
  simp only [brT_ok, Tree.ok, decide_eq_true_eq, decide_eq_false_iff_not, Int.toNat_natCast, Nat.zero_add, Nat.mul_one, Bool.not_eq_true', Bool.not_eq_false']
  refine ⟨fun hlt => ⟨by omega, by omega, fun hv => ?_, fun hv => ?_⟩, fun hge => ?_⟩
  · have e : allQ (neQ xs q) i (n - i) = false := by rw [allQ_step (by omega)]; unfold neQ; rw [hv]; rfl
    refine ⟨by simp only [re_isN, e, cond_false], [], ?_⟩
    simp only [rs_isN, e, cond_false]
    repeat' (first | exact True.intro | exact rfl | exact fun _ => rfl | refine And.intro ?_ ?_)
  · have e : allQ (neQ xs q) i (n - i) = allQ (neQ xs q) (i + 1) (n - (i + 1)) := by
      rw [allQ_step (by omega)]
      have : neQ xs q i = true := by unfold neQ; rw [hv]; rfl
      rw [this, Bool.true_and]
    rw [wsucc (n := n) (by omega) h]
    refine ⟨i + 1, [], ?_, ?_, by simp only [re_isN, e], by simp only [rs_isN, e], ?_⟩
    · show i + 1 ≤ n; omega
    · show n - (i + 1) < n - i; omega
    · repeat' (first | exact True.intro | exact rfl | exact fun _ => rfl | refine And.intro ?_ ?_)
  · have e : allQ (neQ xs q) i (n - i) = true := allQ_end (by omega)
    refine ⟨by simp only [re_isN, e, cond_true], [], ?_⟩
    simp only [rs_isN, e, cond_true]
    repeat' (first | exact True.intro | exact rfl | exact fun _ => rfl | refine And.intro ?_ ?_)
set_option maxRecDepth 100000 in
theorem lg_isN : LoopE Try.prog e_isN c_isN := by
  intro s k t F H hlt ht
  unfold e_isN at hlt
  split at hlt
  rotate_left
  · cases hlt
  rename_i hlen hpick hmem
  obtain ⟨tmps, mem⟩ := s
  simp only at hlen hpick hmem
  subst hmem
  obtain rfl := Option.some.inj hlt
  obtain ⟨⟨rfl, h1, h2, _⟩, ht2⟩ := needs_ok ht
  clear ht hlt
  refine ⟨_, _, pick2k ht2, loop_run mixed E3_ok (s_isN _ _ _) (inv_isN _ _ _) (me_isN _ _ _) (re_isN _ _ _) (rs_isN _ _ _) k_isN (fun _ => rfl) (noLoops nl_isN) (round_isN _ _ _ h1 h2) (x := 0) (Nat.zero_le _) (π := []) rfl ?_⟩
  refine ⟨rfl, rfl, ?_, wvs_spread' [0, 1, 5] hlen rfl ?_⟩
  · repeat' (first | exact True.intro | exact rfl | exact wv_top _ _ | exact fun _ => rfl | assumption | exact Eq.symm (by assumption) | exact vI0 rfl | refine And.intro ?_ ?_)
  · rw [hpick]
    repeat' (first | exact True.intro | exact rfl | exact wv_top _ _ | exact fun _ => rfl | assumption | exact Eq.symm (by assumption) | exact vI0 rfl | refine And.intro ?_ ?_)
theorem Lr_eqN {fn : Func} (hf : Try.prog.funcs[38]? = some fn) : LoopsGood Try.prog (lt1 e_eqN) 0 (codeOf fn) := by
  obtain rfl := fn_is Try.func38 hf
  exact lt1_good lg_eqN
theorem Lr_isN {fn : Func} (hf : Try.prog.funcs[39]? = some fn) : LoopsGood Try.prog (lt1 e_isN) 0 (codeOf fn) := by
  obtain rfl := fn_is Try.func39 hf
  exact lt1_good lg_isN
def LEq : FuncId → LT := fun f => match f with
  | 38 => lt1 e_eqN
  | 39 => lt1 e_isN
  | _ => noL
def EEq : Env := mkE T2 (fun _ _ => none) LEq
theorem EEq_ok : EnvOk Try.prog EEq := mkEOk T2_ok (fun _ _ _ _ _ h => (by cases h)) (by
  intro f fn hf
  unfold LEq
  split
  all_goals first | with_reducible exact Lr_eqN hf | with_reducible exact Lr_isN hf | exact noL_good)
set_option maxRecDepth 100000 in
theorem tr_eqNF (n m : Nat) (xs ys : List Int) : bodyV Try.prog EEq 30 12 38 [.row n (.ints xs), .row m (.ints ys)] = brT (!(↑n : Int) == (↑m : Int)) (.fin (.bool (false)) []) (.need ((0 : Int) = (0 : Int)) (.need (m = n) (.need (ys = xs) (.need (n ≤ xs.length) (.need (n ≤ (1000000000 : Nat)) (.fin (.bool (true)) [])))))) := by kernel_rfl
set_option maxRecDepth 100000 in
theorem tr_isNF (n : Nat) (xs : List Int) (q : Int) : bodyV Try.prog EEq 30 12 39 [.row n (.ints xs), .v (.int .i64 q)] = .need ((0 : Int) = (0 : Int)) (.need (n ≤ xs.length) (.need (n ≤ (1000000000 : Nat)) (brT (allQ (neQ xs q) 0 n) (.fin (.bool (false)) []) (.fin (.bool (true)) [])))) := by kernel_rfl
theorem res_eqN (n : Nat) (xs : List Int) (h : n ≤ xs.length) (hn : Lim n) : Res Try.prog 38 [.row n (.ints xs), .row n (.ints xs)] (.bool true) := by
  refine bodyV_res mixed EEq_ok (m := 30) (n := 12) rfl ?_
  rw [tr_eqNF]
  simp [brT_ok, Tree.ok]
  exact ⟨h, hn⟩
def pEqN : List DArg → Option (Value × List Prop)
  | [.row n (.ints xs), .row m (.ints ys)] => some (.bool true, [n = m, xs = ys, n ≤ xs.length, Lim n])
  | _ => none
theorem pEqN_ok {ds : List DArg} {v : Value} {C : List Prop} (h : pEqN ds = some (v, C)) (hC : AllP C) : Res Try.prog 38 ds v := by
  unfold pEqN at h
  split at h
  · obtain ⟨rfl, rfl⟩ : _ ∧ _ := by simpa using h
    obtain ⟨rfl, rfl, h1, h2, _⟩ := hC
    exact res_eqN _ _ h1 h2
  · cases h
theorem res_isN (n : Nat) (xs : List Int) (q : Int) (h : n ≤ xs.length) (hn : Lim n) : Res Try.prog 39 [.row n (.ints xs), .v (.int .i64 q)] (.bool (!allQ (neQ xs q) 0 n)) := by
  refine bodyV_res mixed EEq_ok (m := 30) (n := 12) rfl ?_
  rw [tr_isNF]
  rcases hq : allQ (neQ xs q) 0 n with _ | _
  all_goals exact ⟨rfl, h, hn, rfl⟩
def pIsN : List DArg → Option (Value × List Prop)
  | [.row n (.ints xs), .v (.int .i64 q)] => some (.bool (!allQ (neQ xs q) 0 n), [n ≤ xs.length, Lim n])
  | _ => none
theorem pIsN_ok {ds : List DArg} {v : Value} {C : List Prop} (h : pIsN ds = some (v, C)) (hC : AllP C) : Res Try.prog 39 ds v := by
  unfold pIsN at h
  split at h
  · obtain ⟨rfl, rfl⟩ : _ ∧ _ := by simpa using h
    exact res_isN _ _ _ hC.1 hC.2.1
  · cases h
end Go.Proofs.Ytnjmepbblcfnfaa
namespace Go.Proofs.Ytnjmepbblcfnfaa
set_option linter.all false
open Go.RowKit
set_option maxRecDepth 100000 in
theorem tr_pick (bs : List Int) (l c : Nat) (p k : Int) : bodyM Try.prog (tabE B0) (runM Try.prog (tabE B0) 30 12) 30 122 [.pointer (some ⟨1, 0, none⟩), .int .i64 k] (memR bs l c p none) .fin = brT (decide (k < 1)) (.fin (.int .i64 (0)) [some ⟨.view, .bytes (bs)⟩, some ⟨.box, .vals [.slice (some ⟨0, 0, none⟩) (l) (c), .int .i64 (IntKind.i64.wrap (p + 1))]⟩]) (brT ((↑l : Int) == 0) (.fin (.int .i64 (0)) [some ⟨.view, .bytes (bs)⟩, some ⟨.box, .vals [.slice (some ⟨0, 0, none⟩) (l) (c), .int .i64 (IntKind.i64.wrap (p + 1))]⟩]) (brT (decide (IntKind.i64.wrap (IntKind.i64.wrap (p + 1) - 1) < (↑l : Int))) (.need ((0 : Int) ≤ IntKind.i64.wrap (IntKind.i64.wrap (p + (1 : Int)) - (1 : Int)) ∧ IntKind.i64.wrap (IntKind.i64.wrap (p + (1 : Int)) - (1 : Int)) < (↑l : Int)) (.need ((0 : Nat) + (IntKind.i64.wrap (IntKind.i64.wrap (p + (1 : Int)) - (1 : Int))).toNat * (1 : Nat) < bs.length) (.need (¬k = (0 : Int)) (.fin (.int .i64 ((IntKind.i64.wrap (bs.getD (0 + (IntKind.i64.wrap (IntKind.i64.wrap (p + 1) - 1)).toNat * 1) 0)).tmod k)) [some ⟨.view, .bytes (bs)⟩, some ⟨.box, .vals [.slice (some ⟨0, 0, none⟩) (l) (c), .int .i64 (IntKind.i64.wrap (p + 1))]⟩])))) (.need (¬(↑l : Int) = (0 : Int)) (.need ((0 : Int) ≤ (IntKind.i64.wrap (IntKind.i64.wrap (p + (1 : Int)) - (1 : Int))).tmod (↑l : Int) ∧ (IntKind.i64.wrap (IntKind.i64.wrap (p + (1 : Int)) - (1 : Int))).tmod (↑l : Int) < (↑l : Int)) (.need ((0 : Nat) + ((IntKind.i64.wrap (IntKind.i64.wrap (p + (1 : Int)) - (1 : Int))).tmod (↑l : Int)).toNat * (1 : Nat) < bs.length) (.need (¬(↑l : Int) = (0 : Int)) (.need ((0 : Int) ≤ (IntKind.i64.wrap (IntKind.i64.wrap (IntKind.i64.wrap (IntKind.i64.wrap (p + (1 : Int)) - (1 : Int)) * (7 : Int)) + (3 : Int))).tmod (↑l : Int) ∧ (IntKind.i64.wrap (IntKind.i64.wrap (IntKind.i64.wrap (IntKind.i64.wrap (p + (1 : Int)) - (1 : Int)) * (7 : Int)) + (3 : Int))).tmod (↑l : Int) < (↑l : Int)) (.need ((0 : Nat) + ((IntKind.i64.wrap (IntKind.i64.wrap (IntKind.i64.wrap (IntKind.i64.wrap (p + (1 : Int)) - (1 : Int)) * (7 : Int)) + (3 : Int))).tmod (↑l : Int)).toNat * (1 : Nat) < bs.length) (.need (¬(↑l : Int) = (0 : Int)) (.need (¬(64 : Int) = (0 : Int)) (.need (¬k = (0 : Int)) (.fin (.int .i64 ((IntKind.i64.wrap (↑(BitVec.ofInt IntKind.i64.bits (IntKind.i64.wrap (IntKind.i64.wrap (IntKind.i64.wrap (IntKind.i64.wrap (IntKind.i64.wrap (bs.getD (0 + ((IntKind.i64.wrap (IntKind.i64.wrap (p + 1) - 1)).tmod (↑l : Int)).toNat * (1 : Nat)) 0) * 131) + IntKind.i64.wrap (IntKind.i64.wrap (bs.getD (0 + ((IntKind.i64.wrap (IntKind.i64.wrap (IntKind.i64.wrap (IntKind.i64.wrap (p + 1) - 1) * 7) + 3)).tmod (↑l : Int)).toNat * (1 : Nat)) 0) * 1117)) + IntKind.i64.wrap (IntKind.i64.wrap (IntKind.i64.wrap (p + 1) - 1) * 29)) + IntKind.i64.wrap (IntKind.i64.wrap ((IntKind.i64.wrap (IntKind.i64.wrap (p + 1) - 1)).tdiv (↑l : Int)) * 53))) ^^^ BitVec.ofInt IntKind.i64.bits (IntKind.i64.wrap ((IntKind.i64.wrap (IntKind.i64.wrap (IntKind.i64.wrap (IntKind.i64.wrap (IntKind.i64.wrap (bs.getD (0 + ((IntKind.i64.wrap (IntKind.i64.wrap (p + 1) - 1)).tmod (↑l : Int)).toNat * (1 : Nat)) 0) * 131) + IntKind.i64.wrap (IntKind.i64.wrap (bs.getD (0 + ((IntKind.i64.wrap (IntKind.i64.wrap (IntKind.i64.wrap (IntKind.i64.wrap (p + 1) - 1) * 7) + 3)).tmod (↑l : Int)).toNat * (1 : Nat)) 0) * 1117)) + IntKind.i64.wrap (IntKind.i64.wrap (IntKind.i64.wrap (p + 1) - 1) * 29)) + IntKind.i64.wrap (IntKind.i64.wrap ((IntKind.i64.wrap (IntKind.i64.wrap (p + 1) - 1)).tdiv (↑l : Int)) * 53))).tdiv 64))).toNat : Int)).tmod k)) [some ⟨.view, .bytes (bs)⟩, some ⟨.box, .vals [.slice (some ⟨0, 0, none⟩) (l) (c), .int .i64 (IntKind.i64.wrap (p + 1))]⟩])))))))))))) := by kernel_rfl
def xorI (x : Int) : Int := IntKind.i64.wrap (↑(BitVec.ofInt IntKind.i64.bits x ^^^ BitVec.ofInt IntKind.i64.bits (IntKind.i64.wrap (x.tdiv 64))).toNat : Int)
def mixI (bs : List Int) (l : Nat) (p : Int) : Int := bs.getD (p.tmod l).toNat 0 * 131 + bs.getD ((p * 7 + 3).tmod l).toNat 0 * 1117 + p * 29 + p.tdiv l * 53
/-- What pick answers. -/
def pickI (bs : List Int) (l : Nat) (p k : Int) : Int := if k < 1 ∨ l = 0 then 0 else if p < l then (bs.getD p.toNat 0).tmod k else (xorI (mixI bs l p)).tmod k
/-- Is the reader in order? -/
def rdC (bs : List Int) (l : Nat) (p : Int) : Prop := l ≤ bs.length ∧ l ≤ 2000 ∧ 0 ≤ p ∧ p ≤ 1000000 ∧ Bytes bs
def pickS : RSpec := fun bs l p rest ex => match rest, ex with
  | [.int .i64 k], none => some (.int .i64 (pickI bs l p k), p + 1, [rdC bs l p])
  | _, _ => none
theorem Bytes.get {bs : List Int} (h : Bytes bs) (i : Nat) : 0 ≤ bs.getD i 0 ∧ bs.getD i 0 ≤ 255 := by
  rw [List.getD_eq_getElem?_getD]
  rcases hx : bs[i]? with _ | b
  · simp
  · simpa using h b (List.mem_of_getElem? hx)
theorem xorI_bd {x : Int} (h0 : 0 ≤ x) (h1 : x < 4611686018427387904) : 0 ≤ xorI x ∧ xorI x < 9223372036854775808 := by
  have hq : 0 ≤ x.tdiv 64 ∧ x.tdiv 64 ≤ x := by
    rw [Int.tdiv_eq_ediv_of_nonneg h0]
    omega
  unfold xorI
  rw [wr (x := x.tdiv 64) (by omega)]
  obtain ⟨a, rfl⟩ := Int.eq_ofNat_of_zero_le h0
  obtain ⟨b, hb⟩ := Int.eq_ofNat_of_zero_le hq.1
  rw [hb]
  have hb' : (b : Int) ≤ a := by rw [← hb]; exact hq.2
  have e : (BitVec.ofInt IntKind.i64.bits (a : Int) ^^^ BitVec.ofInt IntKind.i64.bits (b : Int)).toNat = a ^^^ b := by
    show (BitVec.ofInt 64 (a : Int) ^^^ BitVec.ofInt 64 (b : Int)).toNat = a ^^^ b
    rw [BitVec.toNat_xor]
    simp only [BitVec.ofInt_natCast, BitVec.toNat_ofNat]
    rw [Nat.mod_eq_of_lt (by omega), Nat.mod_eq_of_lt (by omega)]
  have hlt : a ^^^ b < 2 ^ 63 := Nat.xor_lt_two_pow (by omega) (by omega)
  rw [e, wr (by omega)]
  omega
theorem mixI_bd {bs : List Int} {l : Nat} {p : Int} (h : rdC bs l p) (hl : 0 < l) : 0 ≤ mixI bs l p ∧ mixI bs l p < 1000000000 := by
  obtain ⟨_, h2, h3, h4, h5⟩ := h
  have b1 := h5.get (p.tmod l).toNat
  have b2 := h5.get ((p * 7 + 3).tmod l).toNat
  have q : 0 ≤ p.tdiv l ∧ p.tdiv l ≤ p := by
    rw [Int.tdiv_eq_ediv_of_nonneg h3]
    exact ⟨Int.ediv_nonneg h3 (by omega), Int.ediv_le_self _ h3⟩
  unfold mixI
  omega
theorem pickI_bd {bs : List Int} {l : Nat} {p k : Int} (h : rdC bs l p) (hk : 1 ≤ k) : 0 ≤ pickI bs l p k ∧ pickI bs l p k < k := by
  unfold pickI
  split
  · omega
  rename_i hn
  have hl : 0 < l := by omega
  split
  · exact ⟨Int.tmod_nonneg _ (h.2.2.2.2.get _).1, Int.tmod_lt_of_pos _ (by omega)⟩
  · have hm := mixI_bd h hl
    exact ⟨Int.tmod_nonneg _ (xorI_bd hm.1 (by omega)).1, Int.tmod_lt_of_pos _ (by omega)⟩
theorem vk {k : IntKind} {a b : Int} (h : a = b) : Value.int k a = .int k b := by rw [h]
theorem pickS_ok : SpecOk Try.prog 122 pickS := by
  intro bs l c p rest0 ex v p' C h hC
  unfold pickS at h
  split at h
  rotate_left
  · cases h
  rename_i k
  obtain ⟨rfl, rfl, rfl⟩ : Value.int .i64 (pickI bs l p k) = v ∧ p + 1 = p' ∧ [rdC bs l p] = C := by simpa using h
  have hC := hC.1
  have hg := fun i => hC.2.2.2.2.get i
  have hC0 := hC
  obtain ⟨h1, h2, h3, h4, h5⟩ := hC
  refine ⟨tabE B0, 30, 12, tabE_ok B0_ok, rfl, ?_⟩
  rw [tr_pick]
  have e1 : IntKind.i64.wrap (p + 1) = p + 1 := wr (by omega)
  have e2 : IntKind.i64.wrap (p + 1 - 1) = p := by rw [wr (by omega)]; omega
  have e3 : IntKind.i64.wrap (p * 7) = p * 7 := wr (by omega)
  have e4 : IntKind.i64.wrap (p * 7 + 3) = p * 7 + 3 := wr (by omega)
  simp only [e1, e2, e3, e4, Nat.zero_add, Nat.mul_one]
  refine brT_ok.2 ⟨fun hk => ?_, fun hk => brT_ok.2 ⟨fun hl => ?_, fun hl => brT_ok.2 ⟨fun hp => ?_, fun hp => ?_⟩⟩⟩
  · have hk := of_decide_eq_true hk
    refine ⟨vk ?_, rfl⟩
    unfold pickI
    rw [if_pos (.inl hk)]
  · have hl : l = 0 := by simpa using hl
    refine ⟨vk ?_, rfl⟩
    unfold pickI
    rw [if_pos (.inr hl)]
  · have hk := of_decide_eq_false hk
    have hl : ¬ l = 0 := by simpa using hl
    have hp := of_decide_eq_true hp
    refine ⟨⟨h3, hp⟩, by omega, by omega, vk ?_, rfl⟩
    rw [wr (by have := hg p.toNat; omega)]
    unfold pickI
    rw [if_neg (by omega), if_pos hp]
  · have hk := of_decide_eq_false hk
    have hl : ¬ l = 0 := by simpa using hl
    have hp := of_decide_eq_false hp
    have hl0 : (0 : Int) < l := by omega
    have t1 : 0 ≤ p.tmod l ∧ p.tmod l < l := ⟨Int.tmod_nonneg _ h3, Int.tmod_lt_of_pos _ hl0⟩
    have t2 : 0 ≤ (p * 7 + 3).tmod l ∧ (p * 7 + 3).tmod l < l := ⟨Int.tmod_nonneg _ (by omega), Int.tmod_lt_of_pos _ hl0⟩
    have q : 0 ≤ p.tdiv l ∧ p.tdiv l ≤ p := by
      rw [Int.tdiv_eq_ediv_of_nonneg h3]
      exact ⟨Int.ediv_nonneg h3 (by omega), Int.ediv_le_self _ h3⟩
    have b1 := hg (p.tmod l).toNat
    have b2 := hg ((p * 7 + 3).tmod l).toNat
    have hm := mixI_bd hC0 (by omega)
    refine ⟨by omega, t1, by omega, by omega, t2, by omega, by omega, by omega, by omega, vk ?_, rfl⟩
    unfold pickI
    rw [if_neg (by omega), if_neg (by omega)]
    have em : IntKind.i64.wrap (IntKind.i64.wrap (IntKind.i64.wrap (IntKind.i64.wrap (IntKind.i64.wrap (bs.getD (p.tmod l).toNat 0) * 131) + IntKind.i64.wrap (IntKind.i64.wrap (bs.getD ((p * 7 + 3).tmod l).toNat 0) * 1117)) + IntKind.i64.wrap (p * 29)) + IntKind.i64.wrap (IntKind.i64.wrap (p.tdiv l) * 53)) = mixI bs l p := by
      clear hm
      unfold mixI
      generalize bs.getD (p.tmod l).toNat 0 = x1 at *
      generalize bs.getD ((p * 7 + 3).tmod l).toNat 0 = x2 at *
      generalize p.tdiv l = x3 at *
      simp (disch := omega) only [wr]
    rw [em]
    rfl
/-- The first table: pick. -/
def J1 : List (FuncId × RSpec) := [(122, pickS)]
theorem J1_ok : JOk Try.prog J1 := JOk.nil.cons (entersB_res (by kernel_rfl)).1 pickS_ok
def ER1 : Env := withJ (tabE B0) J1
theorem ER1_ok : EnvOk Try.prog ER1 := withJ_ok mixed (tabE_ok B0_ok) J1_ok
set_option maxRecDepth 100000 in
theorem tr_one (bs : List Int) (l c : Nat) (p : Int) (n : Nat) (xs : List Int) : bodyM Try.prog ER1 (runM Try.prog ER1 30 12) 30 141 [.pointer (some ⟨1, 0, none⟩), .slice (some ⟨2, 0, none⟩) n n] (memR bs l c p (some xs)) .fin = .need (rdC bs l p) (.need ((0 : Int) ≤ pickI bs l p (↑n : Int) ∧ pickI bs l p (↑n : Int) < (↑n : Int)) (.need ((0 : Nat) + (pickI bs l p (↑n : Int)).toNat * (1 : Nat) < xs.length) (.fin (.int .i64 (xs.getD (0 + (pickI bs l p (↑n : Int)).toNat * 1) 0)) [some ⟨.view, .bytes (bs)⟩, some ⟨.box, .vals [.slice (some ⟨0, 0, none⟩) (l) (c), .int .i64 (p + 1)]⟩, some ⟨.view, .ints (xs)⟩]))) := by kernel_rfl
set_option maxRecDepth 100000 in
theorem tr_rpt (bs : List Int) (l c : Nat) (p : Int) : bodyM Try.prog ER1 (runM Try.prog ER1 30 12) 30 123 [.pointer (some ⟨1, 0, none⟩)] (memR bs l c p none) .fin = .need (rdC bs l p) (.need (rdC bs l (p + (1 : Int))) (.fin (.agg #[.int .i64 (IntKind.i64.wrap (pickI bs l p 9 - 2)), .int .i64 (IntKind.i64.wrap (pickI bs l (p + 1) 9 - 2))]) [some ⟨.view, .bytes (bs)⟩, some ⟨.box, .vals [.slice (some ⟨0, 0, none⟩) (l) (c), .int .i64 (p + 1 + 1)]⟩, some ⟨.box, .vals [.int .i64 (IntKind.i64.wrap (pickI bs l p 9 - 2)), .int .i64 (IntKind.i64.wrap (pickI bs l (p + 1) 9 - 2))]⟩])) := by kernel_rfl
end Go.Proofs.Ytnjmepbblcfnfaa
namespace Go.Proofs.Ytnjmepbblcfnfaa
set_option linter.all false
open Go.RowKit
/-- The reader in order, with room for many more. -/
def rdK (bs : List Int) (l : Nat) (p : Int) : Prop := rdC bs l p ∧ p ≤ 900000
theorem rdK.at {bs : List Int} {l : Nat} {p : Int} (h : rdK bs l p) {q : Int} (h0 : p ≤ q) (h1 : q ≤ p + 90000) : rdC bs l q :=
  ⟨h.1.1, h.1.2.1, by have := h.1.2.2.1; omega, by have := h.2; omega, h.1.2.2.2.2⟩
def oneI (bs : List Int) (l : Nat) (p : Int) (n : Nat) (xs : List Int) : Int := xs.getD (pickI bs l p n).toNat 0
def oneS : RSpec := fun bs l p rest ex => match rest, ex with
  | [.slice (some ⟨2, 0, none⟩) n n'], some xs => some (.int .i64 (oneI bs l p n xs), p + 1, [rdC bs l p, 1 ≤ n ∧ n ≤ xs.length ∧ n' = n])
  | _, _ => none
theorem oneS_ok : SpecOk Try.prog 141 oneS := by
  intro bs l c p rest0 ex v p' C h hC
  unfold oneS at h
  split at h
  rotate_left
  · cases h
  rename_i n n' xs
  obtain ⟨rfl, rfl, rfl⟩ : Value.int .i64 (oneI bs l p n xs) = v ∧ p + 1 = p' ∧ [rdC bs l p, 1 ≤ n ∧ n ≤ xs.length ∧ n' = n] = C := by simpa using h
  obtain ⟨h1, ⟨h2, h3, rfl⟩, _⟩ := hC
  refine ⟨ER1, 30, 12, ER1_ok, rfl, ?_⟩
  rw [tr_one]
  have hb := pickI_bd (k := (n' : Int)) h1 (by omega)
  exact ⟨h1, hb, by omega, by simp only [oneI, Nat.zero_add, Nat.mul_one], rfl⟩
def rptS : RSpec := fun bs l p rest ex => match rest, ex with
  | [], none => some (.agg #[.int .i64 (pickI bs l p 9 - 2), .int .i64 (pickI bs l (p + 1) 9 - 2)], p + 2, [rdK bs l p])
  | _, _ => none
theorem box2 {bs : List Int} {l c : Nat} {p q : Int} (h : q = p) (r : List (Option Blk)) : (some ⟨.view, .bytes bs⟩ :: some ⟨.box, .vals [.slice (some ⟨0, 0, none⟩) l c, .int .i64 q]⟩ :: r : List (Option Blk)).getD 1 none = some (rdBox 0 l c p) := by rw [h]; rfl
theorem rptS_ok : SpecOk Try.prog 123 rptS := by
  intro bs l c p rest0 ex v p' C h hC
  unfold rptS at h
  split at h
  rotate_left
  · cases h
  obtain ⟨rfl, rfl, rfl⟩ : Value.agg #[.int .i64 (pickI bs l p 9 - 2), .int .i64 (pickI bs l (p + 1) 9 - 2)] = v ∧ p + 2 = p' ∧ [rdK bs l p] = C := by simpa using h
  have h1 := hC.1
  refine ⟨ER1, 30, 12, ER1_ok, rfl, ?_⟩
  rw [tr_rpt]
  have h2 := h1.at (q := p) (by omega) (by omega)
  have h3 := h1.at (q := p + 1) (by omega) (by omega)
  have b1 := pickI_bd (k := 9) h2 (by omega)
  have b2 := pickI_bd (k := 9) h3 (by omega)
  exact ⟨h2, h3, by rw [wr (by omega), wr (by omega)], box2 (by omega) _⟩
def J2 : List (FuncId × RSpec) := (141, oneS) :: (123, rptS) :: J1
theorem J2_ok : JOk Try.prog J2 := (J1_ok.cons (entersB_res (by kernel_rfl)).1 rptS_ok).cons (entersB_res (by kernel_rfl)).1 oneS_ok
def ER2 : Env := withJ (tabE B0) J2
theorem ER2_ok : EnvOk Try.prog ER2 := withJ_ok mixed (tabE_ok B0_ok) J2_ok
set_option maxRecDepth 100000 in
theorem tr_apt (bs : List Int) (l c : Nat) (p : Int) : bodyM Try.prog ER2 (runM Try.prog ER2 30 12) 30 106 [.pointer (some ⟨1, 0, none⟩)] (memR bs l c p none) .fin = .need (rdK bs l p) (.need (rdC bs l (p + (2 : Int))) (brT (pickI bs l (p + 2) 16 == 0) (.need (rdC bs l (p + (2 : Int) + (1 : Int))) (.need ((1 : Nat) ≤ (4 : Nat) ∧ (4 : Nat) ≤ (4 : Nat) ∧ (4 : Nat) = (4 : Nat)) (.fin (.agg #[.int .i64 (oneI bs l (p + 2 + 1) 4 [1001, -1001, 1000, -1000]), .int .i64 (pickI bs l (p + 1) 9 - 2)]) [some ⟨.view, .bytes (bs)⟩, some ⟨.box, .vals [.slice (some ⟨0, 0, none⟩) (l) (c), .int .i64 (p + 2 + 1 + 1)]⟩, some ⟨.box, .vals [.int .i64 (oneI bs l (p + 2 + 1) 4 [1001, -1001, 1000, -1000]), .int .i64 (pickI bs l (p + 1) 9 - 2)]⟩, some ⟨.box, .vals [.int .i64 (oneI bs l (p + 2 + 1) 4 [1001, -1001, 1000, -1000]), .int .i64 (pickI bs l (p + 1) 9 - 2)]⟩, some ⟨.row 3 1, .vals [.int .i64 (1001), .int .i64 (-1001), .int .i64 (1000), .int .i64 (-1000)]⟩]))) (brT (pickI bs l (p + 2) 16 == 1) (.need (rdC bs l (p + (2 : Int) + (1 : Int))) (.need ((1 : Nat) ≤ (4 : Nat) ∧ (4 : Nat) ≤ (4 : Nat) ∧ (4 : Nat) = (4 : Nat)) (.fin (.agg #[.int .i64 (pickI bs l p 9 - 2), .int .i64 (oneI bs l (p + 2 + 1) 4 [1001, -1001, 1000, -1000])]) [some ⟨.view, .bytes (bs)⟩, some ⟨.box, .vals [.slice (some ⟨0, 0, none⟩) (l) (c), .int .i64 (p + 2 + 1 + 1)]⟩, some ⟨.box, .vals [.int .i64 (pickI bs l p 9 - 2), .int .i64 (oneI bs l (p + 2 + 1) 4 [1001, -1001, 1000, -1000])]⟩, some ⟨.box, .vals [.int .i64 (pickI bs l p 9 - 2), .int .i64 (oneI bs l (p + 2 + 1) 4 [1001, -1001, 1000, -1000])]⟩, some ⟨.row 3 1, .vals [.int .i64 (1001), .int .i64 (-1001), .int .i64 (1000), .int .i64 (-1000)]⟩]))) (.fin (.agg #[.int .i64 (pickI bs l p 9 - 2), .int .i64 (pickI bs l (p + 1) 9 - 2)]) [some ⟨.view, .bytes (bs)⟩, some ⟨.box, .vals [.slice (some ⟨0, 0, none⟩) (l) (c), .int .i64 (p + 2 + 1)]⟩, some ⟨.box, .vals [.int .i64 (pickI bs l p 9 - 2), .int .i64 (pickI bs l (p + 1) 9 - 2)]⟩, some ⟨.box, .vals [.int .i64 (pickI bs l p 9 - 2), .int .i64 (pickI bs l (p + 1) 9 - 2)]⟩])))) := by kernel_rfl
def farI : List Int := [1001, -1001, 1000, -1000]
def apQ (bs : List Int) (l : Nat) (p : Int) : Int := pickI bs l (p + 2) 16
def apX (bs : List Int) (l : Nat) (p : Int) : Int := if apQ bs l p = 0 then oneI bs l (p + 3) 4 farI else pickI bs l p 9 - 2
def apY (bs : List Int) (l : Nat) (p : Int) : Int := if apQ bs l p = 1 then oneI bs l (p + 3) 4 farI else pickI bs l (p + 1) 9 - 2
def apP (bs : List Int) (l : Nat) (p : Int) : Int := if apQ bs l p = 0 ∨ apQ bs l p = 1 then p + 4 else p + 3
theorem apP_bd (bs : List Int) (l : Nat) (p : Int) : p + 3 ≤ apP bs l p ∧ apP bs l p ≤ p + 4 := by unfold apP; split <;> omega
def aptS : RSpec := fun bs l p rest ex => match rest, ex with
  | [], none => some (.agg #[.int .i64 (apX bs l p), .int .i64 (apY bs l p)], apP bs l p, [rdK bs l p])
  | _, _ => none
theorem veq2 {a a' b b' : Int} (h : a = a') (k : b = b') : Value.agg #[.int .i64 a, .int .i64 b] = .agg #[.int .i64 a', .int .i64 b'] := by rw [h, k]
theorem aptS_ok : SpecOk Try.prog 106 aptS := by
  intro bs l c p rest0 ex v p' C h hC
  unfold aptS at h
  split at h
  rotate_left
  · cases h
  obtain ⟨rfl, rfl, rfl⟩ : Value.agg #[.int .i64 (apX bs l p), .int .i64 (apY bs l p)] = v ∧ apP bs l p = p' ∧ [rdK bs l p] = C := by simpa using h
  have h1 := hC.1
  refine ⟨ER2, 30, 12, ER2_ok, rfl, ?_⟩
  rw [tr_apt]
  have e3 : p + 2 + 1 = p + 3 := by omega
  have e4 : p + 3 + 1 = p + 4 := by omega
  simp only [e3, e4]
  refine ⟨h1, h1.at (by omega) (by omega), brT_ok.2 ⟨fun hq => ?_, fun hq => brT_ok.2 ⟨fun hq' => ?_, fun hq' => ?_⟩⟩⟩
  · have hq : apQ bs l p = 0 := by simpa [apQ] using hq
    exact ⟨h1.at (by omega) (by omega), by decide, veq2 (by unfold apX; rw [if_pos hq]; rfl) (by unfold apY; rw [if_neg (by omega)]), box2 (by unfold apP; rw [if_pos (.inl hq)]) _⟩
  · have hq : ¬ apQ bs l p = 0 := by simpa [apQ] using hq
    have hq' : apQ bs l p = 1 := by simpa [apQ] using hq'
    exact ⟨h1.at (by omega) (by omega), by decide, veq2 (by unfold apX; rw [if_neg hq]) (by unfold apY; rw [if_pos hq']; rfl), box2 (by unfold apP; rw [if_pos (.inr hq')]) _⟩
  · have hq : ¬ apQ bs l p = 0 := by simpa [apQ] using hq
    have hq' : ¬ apQ bs l p = 1 := by simpa [apQ] using hq'
    exact ⟨veq2 (by unfold apX; rw [if_neg hq]) (by unfold apY; rw [if_neg hq']), box2 (by unfold apP; rw [if_neg (by omega)]) _⟩
def J3 : List (FuncId × RSpec) := (106, aptS) :: J2
theorem J3_ok : JOk Try.prog J3 := J2_ok.cons (entersB_res (by kernel_rfl)).1 aptS_ok
end Go.Proofs.Ytnjmepbblcfnfaa
namespace Go.Proofs.Ytnjmepbblcfnfaa
set_option linter.all false
open Go.RowKit
/-- How many bytes are read. -/
def rdL (n : Nat) : Nat := min n 2000
theorem rdL_of {n : Nat} (h : 2000 < (n : Int)) : rdL n = 2000 := by unfold rdL; omega
theorem rdL_no {n : Nat} (h : ¬ 2000 < (n : Int)) : rdL n = n := by unfold rdL; omega
theorem rdK0 {bs : List Int} {n : Nat} (h : Bytes bs) (hn : n ≤ bs.length) {l : Nat} (hl : l ≤ n) (h2 : l ≤ 2000) {p : Int} (h3 : 0 ≤ p) (h4 : p ≤ 900000) : rdK bs l p :=
  ⟨⟨by omega, h2, h3, by omega, h⟩, h4⟩
theorem bnd2000 {n : Nat} (h : 2000 < (n : Int)) : (0 : Int) ≤ bndI none (0 : Int) ∧ bndI none (0 : Int) ≤ bndI (some (IntKind.i64, (2000 : Int))) (↑n : Int) ∧ bndI (some (IntKind.i64, (2000 : Int))) (↑n : Int) ≤ (↑n : Int) := by
  refine ⟨Int.le_refl _, ?_, ?_⟩
  · show (0 : Int) ≤ 2000; omega
  · show (2000 : Int) ≤ n; omega
/-- The coordinates of the three points. -/
def d3 (bs : List Int) (n : Nat) : Nat → Int
  | 0 => apX bs (rdL n) 0
  | 1 => apY bs (rdL n) 0
  | 2 => apX bs (rdL n) (apP bs (rdL n) 0)
  | 3 => apY bs (rdL n) (apP bs (rdL n) 0)
  | 4 => apX bs (rdL n) (apP bs (rdL n) (apP bs (rdL n) 0))
  | _ => apY bs (rdL n) (apP bs (rdL n) (apP bs (rdL n) 0))
end Go.Proofs.Ytnjmepbblcfnfaa
