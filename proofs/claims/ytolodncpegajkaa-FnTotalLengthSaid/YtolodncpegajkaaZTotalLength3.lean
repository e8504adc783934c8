/-
  Texts that the proof needs, merged. Written by an AI agent.
-/
import Derived.Orders
import Derived.Below
import Derived.OrdersIn
import Derived.Deep.LoopGhost
import Derived.WalkKit
import Derived.Laws.CopyRow
import Derived.Laws.AppendOwn
import Derived.Laws.Slices
import Derived.Laws.MakeOwn
import Derived.Test.YtolodncpegajkaaRows
import Derived.ProofKit
import Derived.OpenShut
import Derived.Carry
import Derived.IntWalk
import Derived.Test.YtolodncpegajkaaProg
import Derived.WalkSpells
import Derived.WalkLawsBesides
import Derived.Lib.Hide
import Derived.Deep.QuietTactic
import Derived.BigQuiet
import Derived.KernelRfl
import Derived.Deep.RegionHeld3
import Derived.LoopTactic
import Derived.Laws.StructEq
import Derived.Laws.Tables
import Derived.RangeFuncNested
import Derived.RangeFuncLeaves
import Derived.Deep.Slices
import Derived.Deep.Fields
import Derived.ChangeSame
import Derived.Test.YtolodncpegajkaaZTotalLength2
namespace Go.Proofs.Ytolodncpegajkaa
set_option linter.all false
open Go.RowKit
abbrev iv (x : Int) : Value := .int .i64 x
def B0 : Tab := fun _ _ => none
theorem B0_ok : TabOk Try.prog B0 := fun _ _ _ _ h => by cases h
theorem mixed : Try.prog.follows .mixedOrders = true := by kernel_rfl
set_option maxRecDepth 100000 in
theorem tr_specValid (x y : Int) : runX Try.prog (tabE B0) 30 8 139 [.v (.agg #[iv x, iv y])] (fun u => .fin u []) = brT (decide (-1000 ≤ x)) (brT (decide (x ≤ 1000)) (brT (decide (-1000 ≤ y)) (.fin (.bool (decide (y ≤ 1000))) []) (.fin (.bool (false)) [])) (.fin (.bool (false)) [])) (.fin (.bool (false)) []) := by kernel_rfl
set_option maxRecDepth 100000 in
theorem tr_implValid (x y : Int) : runX Try.prog (tabE B0) 30 8 151 [.v (.agg #[iv x, iv y])] (fun u => .fin u []) = brT (decide (IntKind.i64.wrap (0 - 1000) ≤ x)) (brT (decide (x ≤ 1000)) (brT (decide (IntKind.i64.wrap (0 - 1000) ≤ y)) (.fin (.bool (decide (y ≤ 1000))) []) (.fin (.bool (false)) [])) (.fin (.bool (false)) [])) (.fin (.bool (false)) []) := by kernel_rfl
set_option maxRecDepth 100000 in
theorem tr_compare (x y : Int) : runX Try.prog (tabE B0) 30 8 154 [.v (iv x), .v (iv y)] (fun u => .fin u []) = brT (!x == x) (brT (!y == y) (.fin (.int .i64 (0)) []) (.fin (.int .i64 (-1)) [])) (brT (!y == y) (.fin (.int .i64 (1)) []) (brT (decide (x < y)) (.fin (.int .i64 (-1)) []) (brT (decide (y < x)) (.fin (.int .i64 (1)) []) (.fin (.int .i64 (0)) [])))) := by kernel_rfl
set_option maxRecDepth 100000 in
theorem tr_specSign (x : Int) : runX Try.prog (tabE B0) 30 8 112 [.v (iv x)] (fun u => .fin u []) = brT (decide (x < 0)) (.fin (.int .i64 (-1)) []) (brT (decide (0 < x)) (.fin (.int .i64 (1)) []) (.fin (.int .i64 (0)) [])) := by kernel_rfl
set_option maxRecDepth 100000 in
theorem tr_implSign (x : Int) : runX Try.prog (tabE B0) 30 8 120 [.v (iv x)] (fun u => .fin u []) = brT (!x == x) (.fin (.int .i64 (-1)) []) (brT (decide (x < 0)) (.fin (.int .i64 (-1)) []) (brT (decide (0 < x)) (.fin (.int .i64 (1)) []) (.fin (.int .i64 (0)) []))) := by kernel_rfl
theorem w1000 : IntKind.i64.wrap (0 - 1000) = -1000 := by decide
/-- The comparison of two numbers. -/
def cmpI (x y : Int) : Int := if x < y then -1 else if y < x then 1 else 0
theorem vbool_eq {a b : Bool} (h : a = b) : Value.bool a = .bool b := by rw [h]
theorem res_specValid (x y : Int) : Res Try.prog 139 [.v (.agg #[iv x, iv y])] (.bool (ptB x y)) := by
  refine res_of mixed (tabE_ok B0_ok) (m := 30) (n := 8) ?_
  rw [tr_specValid]
  simp only [brT_ok, Tree.ok, decide_eq_true_eq, decide_eq_false_iff_not]
  repeat' (first | apply And.intro | intro _)
  all_goals (refine vbool_eq ?_; unfold ptB; rw [Bool.eq_iff_iff]; simp; try omega)
theorem res_implValid (x y : Int) : Res Try.prog 151 [.v (.agg #[iv x, iv y])] (.bool (ptB x y)) := by
  refine res_of mixed (tabE_ok B0_ok) (m := 30) (n := 8) ?_
  rw [tr_implValid]
  simp only [brT_ok, Tree.ok, decide_eq_true_eq, decide_eq_false_iff_not, w1000]
  repeat' (first | apply And.intro | intro _)
  all_goals (refine vbool_eq ?_; unfold ptB; rw [Bool.eq_iff_iff]; simp; try omega)
theorem res_compare (x y : Int) : Res Try.prog 154 [.v (iv x), .v (iv y)] (iv (cmpI x y)) := by
  refine res_of mixed (tabE_ok B0_ok) (m := 30) (n := 8) ?_
  rw [tr_compare]
  simp [brT_ok, Tree.ok]
  repeat' (first | apply And.intro | intro _)
  all_goals (unfold cmpI; split <;> (try split) <;> omega)
theorem res_specSign (x : Int) : Res Try.prog 112 [.v (iv x)] (iv (cmpI x 0)) := by
  refine res_of mixed (tabE_ok B0_ok) (m := 30) (n := 8) ?_
  rw [tr_specSign]
  simp [brT_ok, Tree.ok]
  repeat' (first | apply And.intro | intro _)
  all_goals (unfold cmpI; split <;> (try split) <;> omega)
theorem res_implSign (x : Int) : Res Try.prog 120 [.v (iv x)] (iv (cmpI x 0)) := by
  refine res_of mixed (tabE_ok B0_ok) (m := 30) (n := 8) ?_
  rw [tr_implSign]
  simp [brT_ok, Tree.ok]
  repeat' (first | apply And.intro | intro _)
  all_goals (unfold cmpI; split <;> (try split) <;> omega)
end Go.Proofs.Ytolodncpegajkaa
namespace Go.Proofs.Ytolodncpegajkaa
set_option linter.all false
open Go.RowKit
theorem entersB_res {f : FuncId} (h : entersB Try.prog f = true) : enters Try.prog f ∧ Try.prog.inits.idxOf? f = none := by
  unfold entersB at h
  split at h
  · rename_i fn hf
    obtain ⟨h1, h2, _⟩ := entersB_spec hf (by unfold entersB; rw [hf]; exact h)
    exact ⟨h1, h2⟩
  · cases h
/-- A contract of a function of plain values, as it stands. -/
theorem res_calls {f : FuncId} {args : List Value} {v : Value} (he : entersB Try.prog f = true) (hp : args.all plainV = true) (hv : plainV v = true) (h : ∀ w, Calls Try.prog f args.toArray w fun e w' => e = .returned v ∧ Below w.heap.size w w') : Res Try.prog f (args.map .v) v := by
  obtain ⟨h1, h2⟩ := entersB_res he
  refine ⟨h1, h2, hv, fun d hd => ?_, fun w ys hd => ?_⟩
  · obtain ⟨x, hx, rfl⟩ := List.mem_map.1 hd
    exact List.all_eq_true.1 hp x hx
  · have e : ys = args.toArray := by
      apply Array.ext
      · simpa using hd.1.symm
      · intro i i1 i2
        have e1 : (args.map DArg.v)[i]? = some (.v (args[i]'(by simpa using i2))) := by simp
        exact (hd.2 i _ ys[i] e1 (by simp [i1])).2
    rw [e]
    exact h w
theorem below_same {f : FuncId} {args : Array Value} {w : World} {v : Value} (h : Calls Try.prog f args w fun e w' => e = .returned v ∧ w = w') : Calls Try.prog f args w fun e w' => e = .returned v ∧ Below w.heap.size w w' :=
  h.mono fun _ _ ⟨he, hw⟩ => ⟨he, by subst hw; exact Below.refl _ _⟩
def big (x : Int) : Prop := -4500000000000000000 ≤ x ∧ x ≤ 4500000000000000000
def big0 (x : Int) : Prop := 0 ≤ x ∧ x ≤ 4500000000000000000
def pPt : List DArg → Option (Value × List Prop)
  | [.v (.agg ⟨[.int .i64 x, .int .i64 y]⟩)] => some (.bool (ptB x y), [])
  | _ => none
def pCmp : List DArg → Option (Value × List Prop)
  | [.v (.int .i64 x), .v (.int .i64 y)] => some (iv (cmpI x y), [])
  | _ => none
def pSign : List DArg → Option (Value × List Prop)
  | [.v (.int .i64 x)] => some (iv (cmpI x 0), [])
  | _ => none
def pGcd : List DArg → Option (Value × List Prop)
  | [.v (.int .i64 x), .v (.int .i64 y)] => some (iv (gI x y), [big0 x, big0 y])
  | _ => none
def pAbs : List DArg → Option (Value × List Prop)
  | [.v (.int .i64 x)] => some (iv (x.natAbs : Int), [big x])
  | _ => none
def pGcdL : List DArg → Option (Value × List Prop)
  | [.row 2 (.vals [.int .i64 x, .int .i64 y])] => some (iv (gI x y), [big x, big y])
  | [.row 3 (.vals [.int .i64 x, .int .i64 y, .int .i64 z])] => some (iv (gI (gI x y) z), [big x, big y, big z])
  | _ => none
def pRatio : List DArg → Option (Value × List Prop)
  | [.v (.int .i64 x), .v (.int .i64 y)] => some (.agg #[iv (qN x y), iv (qD x y)], [big x, big y, y ≠ 0])
  | _ => none
def pAll : List DArg → Option (Value × List Prop)
  | [.row 2 (.vals [.int .i64 ax, .int .i64 ay, .int .i64 bx, .int .i64 b_y])] => some (.bool (ptB ax ay && ptB bx b_y), [])
  | [.row 3 (.vals [.int .i64 ax, .int .i64 ay, .int .i64 bx, .int .i64 b_y, .int .i64 cx, .int .i64 cy])] => some (.bool (ptB ax ay && ptB bx b_y && ptB cx cy), [])
  | [.row 4 (.vals [.int .i64 ax, .int .i64 ay, .int .i64 bx, .int .i64 b_y, .int .i64 cx, .int .i64 cy, .int .i64 dx, .int .i64 dy])] => some (.bool (ptB ax ay && ptB bx b_y && (ptB cx cy && ptB dx dy)), [])
  | _ => none
def T1 : Tab := fun f ds => match f with
  | 139 => pPt ds
  | 151 => pPt ds
  | 154 => pCmp ds
  | 112 => pSign ds
  | 120 => pSign ds
  | 146 => pGcd ds
  | 140 => pAbs ds
  | 107 => pGcdL ds
  | 103 => pRatio ds
  | 125 => pRatio ds
  | 117 => pAll ds
  | _ => none
theorem row_open {w : World} {l : Nat} {cs : Cs} {y : Value} (hl : 0 < l) (h : DOk w (.row l cs) y) : ∃ g f c', y = .slice (some ⟨g, f, none⟩) l c' ∧ l ≤ c' ∧ g < w.heap.size ∧ ∀ (k : Nat) v, cs.list[k]? = some v → w.cell? ⟨g, f + k, none⟩ = some v := by
  obtain ⟨_, ad, c', h1, h2, h3⟩ := h
  obtain ⟨g, f, rfl, h4, h5⟩ := h3.resolve_left (by omega)
  exact ⟨g, f, c', h1, h2, h4, h5⟩
theorem res_row {f : FuncId} {l : Nat} {cs : Cs} {v : Value} (hl : 0 < l) (he : entersB Try.prog f = true) (hv : plainV v = true) (hat : allAtoms cs = true) (h : ∀ w g o c', l ≤ c' → g < w.heap.size → (∀ (k : Nat) v, cs.list[k]? = some v → w.cell? ⟨g, o + k, none⟩ = some v) →
    Calls Try.prog f #[.slice (some ⟨g, o, none⟩) l c'] w fun e w' => e = .returned v ∧ Below w.heap.size w w') : Res Try.prog f [.row l cs] v := by
  obtain ⟨h1, h2⟩ := entersB_res he
  refine ⟨h1, h2, hv, fun d hd => ?_, fun w ys hd => ?_⟩
  · obtain rfl : d = .row l cs := by simpa using hd
    exact hat
  · have hs := hd.1
    have h0 : ys[0]? = some (ys[0]'(by simp at hs; omega)) := by simp
    obtain ⟨g, o, c', e1, e2, e3, e4⟩ := row_open hl (hd.2 0 _ _ rfl h0)
    have e : ys = #[.slice (some ⟨g, o, none⟩) l c'] := by
      apply Array.ext
      · simpa using hs.symm
      · intro i i1 i2
        have : i = 0 := by simp at i2; omega
        subst this
        simpa using e1
    rw [e]
    exact h w g o c' e2 e3 e4
theorem gL3 (a b c : Int) : gL (pick3 a b c) 3 = gI (gI a b) c := by
  show gI (gI (gI 0 (pick3 a b c 0)) (pick3 a b c 1)) (pick3 a b c 2) = _
  simp only [pick3]
  rw [gI_zero_left, gI_abs]
theorem T1r_0 {ds : List DArg} {v : Value} {C : List Prop} (h : pPt ds = some (v, C)) (hC : AllP C) : Res Try.prog 139 ds v := by
  unfold pPt at h
  split at h
  · obtain ⟨rfl, rfl⟩ : _ ∧ _ := by simpa using h
    exact res_specValid _ _
  · cases h
theorem T1r_1 {ds : List DArg} {v : Value} {C : List Prop} (h : pPt ds = some (v, C)) (hC : AllP C) : Res Try.prog 151 ds v := by
  unfold pPt at h
  split at h
  · obtain ⟨rfl, rfl⟩ : _ ∧ _ := by simpa using h
    exact res_implValid _ _
  · cases h
theorem T1r_2 {ds : List DArg} {v : Value} {C : List Prop} (h : pCmp ds = some (v, C)) (hC : AllP C) : Res Try.prog 154 ds v := by
  unfold pCmp at h
  split at h
  · obtain ⟨rfl, rfl⟩ : _ ∧ _ := by simpa using h
    exact res_compare _ _
  · cases h
theorem T1r_3 {ds : List DArg} {v : Value} {C : List Prop} (h : pSign ds = some (v, C)) (hC : AllP C) : Res Try.prog 112 ds v := by
  unfold pSign at h
  split at h
  · obtain ⟨rfl, rfl⟩ : _ ∧ _ := by simpa using h
    exact res_specSign _
  · cases h
theorem T1r_4 {ds : List DArg} {v : Value} {C : List Prop} (h : pSign ds = some (v, C)) (hC : AllP C) : Res Try.prog 120 ds v := by
  unfold pSign at h
  split at h
  · obtain ⟨rfl, rfl⟩ : _ ∧ _ := by simpa using h
    exact res_implSign _
  · cases h
theorem T1r_5 {ds : List DArg} {v : Value} {C : List Prop} (h : pGcd ds = some (v, C)) (hC : AllP C) : Res Try.prog 146 ds v := by
  unfold pGcd at h
  split at h
  · obtain ⟨rfl, rfl⟩ : _ ∧ _ := by simpa using h
    exact res_calls (by kernel_rfl) rfl rfl fun w => below_same (specGcd_any _ _ w hC.1 hC.2.1)
  · cases h
theorem T1r_6 {ds : List DArg} {v : Value} {C : List Prop} (h : pAbs ds = some (v, C)) (hC : AllP C) : Res Try.prog 140 ds v := by
  unfold pAbs at h
  split at h
  · obtain ⟨rfl, rfl⟩ : _ ∧ _ := by simpa using h
    exact res_calls (by kernel_rfl) rfl rfl fun w => below_same (abs_any _ w (by have := hC.1.1; omega))
  · cases h
theorem T1r_7 {ds : List DArg} {v : Value} {C : List Prop} (h : pGcdL ds = some (v, C)) (hC : AllP C) : Res Try.prog 107 ds v := by
  unfold pGcdL at h
  split at h
  · rename_i x y
    obtain ⟨rfl, rfl⟩ : _ ∧ _ := by simpa using h
    refine res_row (by decide) (by kernel_rfl) rfl rfl fun w g o c' _ hg hcell => ?_
    have := implGcd_any (some ⟨g, o, none⟩) 2 c' (pick2 x y) w (by omega) (fun k hk => ⟨g, o, rfl, hg, by
      match k, hk with
      | 0, _ => exact hcell 0 _ rfl
      | 1, _ => exact hcell 1 _ rfl⟩) (fun k hk => by
      match k, hk with
      | 0, _ => exact hC.1
      | 1, _ => exact hC.2.1)
    rw [gL2] at this
    exact this
  · rename_i x y z
    obtain ⟨rfl, rfl⟩ : _ ∧ _ := by simpa using h
    refine res_row (by decide) (by kernel_rfl) rfl rfl fun w g o c' _ hg hcell => ?_
    have := implGcd_any (some ⟨g, o, none⟩) 3 c' (pick3 x y z) w (by omega) (fun k hk => ⟨g, o, rfl, hg, by
      match k, hk with
      | 0, _ => exact hcell 0 _ rfl
      | 1, _ => exact hcell 1 _ rfl
      | 2, _ => exact hcell 2 _ rfl⟩) (fun k hk => by
      match k, hk with
      | 0, _ => exact hC.1
      | 1, _ => exact hC.2.1
      | 2, _ => exact hC.2.2.1)
    rw [gL3] at this
    exact this
  · cases h
theorem T1r_8 {ds : List DArg} {v : Value} {C : List Prop} (h : pRatio ds = some (v, C)) (hC : AllP C) : Res Try.prog 103 ds v := by
  unfold pRatio at h
  split at h
  · obtain ⟨rfl, rfl⟩ : _ ∧ _ := by simpa using h
    exact res_calls (by kernel_rfl) rfl rfl fun w => ratio_any _ _ w hC.1 hC.2.1 hC.2.2.1
  · cases h
theorem T1r_9 {ds : List DArg} {v : Value} {C : List Prop} (h : pRatio ds = some (v, C)) (hC : AllP C) : Res Try.prog 125 ds v := by
  unfold pRatio at h
  split at h
  · obtain ⟨rfl, rfl⟩ : _ ∧ _ := by simpa using h
    exact res_calls (by kernel_rfl) rfl rfl fun w => lowest_any _ _ w hC.1 hC.2.1 hC.2.2.1
  · cases h
theorem T1r_10 {ds : List DArg} {v : Value} {C : List Prop} (h : pAll ds = some (v, C)) (hC : AllP C) : Res Try.prog 117 ds v := by
  unfold pAll at h
  split at h
  · rename_i ax ay bx b_y
    obtain ⟨rfl, rfl⟩ : _ ∧ _ := by simpa using h
    refine res_row (by decide) (by kernel_rfl) rfl rfl fun w g o c' _ hg hcell => ?_
    have := allValid_any (some ⟨g, o, none⟩) 2 c' (pick2 ax bx) (pick2 ay b_y) w (by omega) (fun k hk => ⟨g, o, rfl, hg, by
      match k, hk with
      | 0, _ => exact ⟨hcell 0 _ rfl, hcell 1 _ rfl⟩
      | 1, _ => exact ⟨hcell 2 _ rfl, hcell 3 _ rfl⟩⟩)
    rw [allB2] at this
    exact this
  · rename_i ax ay bx b_y cx cy
    obtain ⟨rfl, rfl⟩ : _ ∧ _ := by simpa using h
    refine res_row (by decide) (by kernel_rfl) rfl rfl fun w g o c' _ hg hcell => ?_
    have := allValid_any (some ⟨g, o, none⟩) 3 c' (pick3 ax bx cx) (pick3 ay b_y cy) w (by omega) (fun k hk => ⟨g, o, rfl, hg, by
      match k, hk with
      | 0, _ => exact ⟨hcell 0 _ rfl, hcell 1 _ rfl⟩
      | 1, _ => exact ⟨hcell 2 _ rfl, hcell 3 _ rfl⟩
      | 2, _ => exact ⟨hcell 4 _ rfl, hcell 5 _ rfl⟩⟩)
    rw [allB3] at this
    exact this
  · rename_i ax ay bx b_y cx cy dx dy
    obtain ⟨rfl, rfl⟩ : _ ∧ _ := by simpa using h
    refine res_row (by decide) (by kernel_rfl) rfl rfl fun w g o c' _ hg hcell => ?_
    have := allValid_any (some ⟨g, o, none⟩) 4 c' (fun k => match k with
      | 0 => ax
      | 1 => bx
      | 2 => cx
      | _ => dx) (fun k => match k with
      | 0 => ay
      | 1 => b_y
      | 2 => cy
      | _ => dy) w (by omega) (fun k hk => ⟨g, o, rfl, hg, by
      match k, hk with
      | 0, _ => exact ⟨hcell 0 _ rfl, hcell 1 _ rfl⟩
      | 1, _ => exact ⟨hcell 2 _ rfl, hcell 3 _ rfl⟩
      | 2, _ => exact ⟨hcell 4 _ rfl, hcell 5 _ rfl⟩
      | 3, _ => exact ⟨hcell 6 _ rfl, hcell 7 _ rfl⟩⟩)
    rw [allB_succ, allB_succ, allB_succ, allB_succ, allB_zero] at this
    simpa [Bool.and_assoc] using this
  · cases h
theorem T1_ok : TabOk Try.prog T1 := by
  intro f ds v C h hC
  unfold T1 at h
  (try split at h)
  all_goals first | with_reducible exact T1r_0 h hC | with_reducible exact T1r_1 h hC | with_reducible exact T1r_2 h hC | with_reducible exact T1r_3 h hC | with_reducible exact T1r_4 h hC | with_reducible exact T1r_5 h hC | with_reducible exact T1r_6 h hC | with_reducible exact T1r_7 h hC | with_reducible exact T1r_8 h hC | with_reducible exact T1r_9 h hC | with_reducible exact T1r_10 h hC | cases h
end Go.Proofs.Ytolodncpegajkaa
namespace Go.Proofs.Ytolodncpegajkaa
set_option linter.all false
open Go.RowKit
theorem wrI {x : Int} (h : -9223372036854775808 ≤ x ∧ x ≤ 9223372036854775807) : IntKind.i64.wrap x = x := by
  rw [IntKind.wrap_i64]
  omega
def mhI (ax ay bx b_y : Int) : Int := ((ax - bx).natAbs : Int) + ((ay - b_y).natAbs : Int)
/-- What Manhattan answers. -/
def mhR (ax ay bx b_y : Int) : Int := bif ptB ax ay && ptB bx b_y then mhI ax ay bx b_y else -1
theorem ptB_is {x y : Int} (h : ptB x y = true) : -1000 ≤ x ∧ x ≤ 1000 ∧ -1000 ≤ y ∧ y ≤ 1000 := by simpa [ptB, and_assoc] using h
set_option maxRecDepth 100000 in
theorem tr_implMh (ax ay bx b_y : Int) : bodyV Try.prog (tabE T1) 30 12 138 [.v (.agg #[iv ax, iv ay]), .v (.agg #[iv bx, iv b_y])] = brT (!(ptB ax ay && ptB bx b_y)) (.fin (.int .i64 (-1)) []) (.fin (.int .i64 (IntKind.i64.wrap ((if IntKind.i64.wrap (ax - bx) < IntKind.i64.wrap (0 - IntKind.i64.wrap (ax - bx)) then IntKind.i64.wrap (0 - IntKind.i64.wrap (ax - bx)) else IntKind.i64.wrap (ax - bx)) + if IntKind.i64.wrap (ay - b_y) < IntKind.i64.wrap (0 - IntKind.i64.wrap (ay - b_y)) then IntKind.i64.wrap (0 - IntKind.i64.wrap (ay - b_y)) else IntKind.i64.wrap (ay - b_y)))) []) := by kernel_rfl
theorem res_implMh (ax ay bx b_y : Int) : Res Try.prog 138 [.v (.agg #[iv ax, iv ay]), .v (.agg #[iv bx, iv b_y])] (iv (mhR ax ay bx b_y)) := by
  refine bodyV_res mixed (tabE_ok T1_ok) (m := 30) (n := 12) rfl ?_
  rw [tr_implMh]
  unfold mhR mhI
  rcases h1 : ptB ax ay with _ | _
  · simp [brT_ok, Tree.ok]
  rcases h2 : ptB bx b_y with _ | _
  · simp [brT_ok, Tree.ok]
  have a1 := ptB_is h1
  have a2 := ptB_is h2
  have e : ∀ x : Int, (if x < 0 - x then 0 - x else x) = (x.natAbs : Int) := fun x => by split <;> omega
  rw [wrI (x := ax - bx) (by omega), wrI (x := ay - b_y) (by omega), wrI (x := 0 - (ax - bx)) (by omega), wrI (x := 0 - (ay - b_y)) (by omega), e, e, wrI (by omega)]
  simp [brT_ok, Tree.ok]
def pMh : List DArg → Option (Value × List Prop)
  | [.v (.agg ⟨[.int .i64 a, .int .i64 b]⟩), .v (.agg ⟨[.int .i64 c, .int .i64 d]⟩)] => some (iv (mhR a b c d), [])
  | _ => none
theorem pMhI_ok {ds : List DArg} {v : Value} {C : List Prop} (h : pMh ds = some (v, C)) : Res Try.prog 138 ds v := by
  unfold pMh at h
  split at h
  · obtain ⟨rfl, rfl⟩ : _ ∧ _ := by simpa using h
    exact res_implMh _ _ _ _
  · cases h
end Go.Proofs.Ytolodncpegajkaa
namespace Go.Proofs.Ytolodncpegajkaa
set_option linter.all false
open Go.RowKit
abbrev Pt := Int × Int
def flat : List Pt → List Int
  | [] => []
  | p :: r => p.1 :: p.2 :: flat r
def pts : List Int → List Pt
  | a :: b :: r => (a, b) :: pts r
  | _ => []
theorem pts_flat : ∀ ps, pts (flat ps) = ps
  | [] => rfl
  | p :: r => by simp [flat, pts, pts_flat r]
theorem flat_length : ∀ ps, (flat ps).length = ps.length * 2
  | [] => rfl
  | p :: r => by simp [flat, flat_length r]; omega
theorem flat_pts : ∀ (n : Nat) (xs : List Int), xs.length = n * 2 → flat (pts xs) = xs ∧ (pts xs).length = n
  | 0, xs, h => by
    obtain rfl : xs = [] := List.eq_nil_of_length_eq_zero (by omega)
    exact ⟨rfl, rfl⟩
  | n + 1, xs, h => by
    match xs, h with
    | a :: b :: r, h =>
      obtain ⟨h1, h2⟩ := flat_pts n r (by simp at h; omega)
      exact ⟨by simp [pts, flat, h1], by simp [pts, h2]⟩
    | [a], h => simp at h; omega
    | [], h => simp at h
theorem even_flat {n : Nat} {xs : List Int} (h : xs.length = n * 2) : ∃ ps : List Pt, xs = flat ps ∧ ps.length = n :=
  ⟨pts xs, (flat_pts n xs h).1.symm, (flat_pts n xs h).2⟩
theorem flat_append : ∀ a b, flat (a ++ b) = flat a ++ flat b
  | [], b => rfl
  | p :: r, b => by simp [flat, flat_append r b]
theorem flat_drop : ∀ (ps : List Pt) (k : Nat), (flat ps).drop (k * 2) = flat (ps.drop k)
  | ps, 0 => by simp
  | [], k + 1 => by simp [flat]
  | p :: r, k + 1 => by
    rw [show (k + 1) * 2 = k * 2 + 2 by omega]
    simp [flat, flat_drop r k]
theorem flat_take : ∀ (ps : List Pt) (k : Nat), (flat ps).take (k * 2) = flat (ps.take k)
  | ps, 0 => by simp [flat]
  | [], k + 1 => by simp [flat]
  | p :: r, k + 1 => by
    rw [show (k + 1) * 2 = k * 2 + 2 by omega]
    simp [flat, flat_take r k]
theorem flat_all (ps : List Pt) : (flat ps).take (ps.length * 2) = flat ps := by rw [flat_take, List.take_length]
theorem flat_get : ∀ (ps : List Pt) (k : Nat), (flat ps).getD (k * 2) 0 = (ps.getD k (0, 0)).1 ∧ (flat ps).getD (k * 2 + 1) 0 = (ps.getD k (0, 0)).2
  | [], k => by simp [flat]
  | p :: r, 0 => by simp [flat]
  | p :: r, k + 1 => by
    obtain ⟨h1, h2⟩ := flat_get r k
    rw [show (k + 1) * 2 = k * 2 + 2 by omega, show k * 2 + 2 + 1 = k * 2 + 1 + 2 by omega]
    simp only [flat, List.getD_eq_getElem?_getD, List.getElem?_cons_succ] at h1 h2 ⊢
    exact ⟨h1, h2⟩
theorem flat_get0 (ps : List Pt) (k : Nat) : (flat ps).getD (k * 2) 0 = (ps.getD k (0, 0)).1 := (flat_get ps k).1
theorem flat_get1 (ps : List Pt) (k : Nat) : (flat ps).getD (k * 2 + 1) 0 = (ps.getD k (0, 0)).2 := (flat_get ps k).2
theorem flat_set (ps : List Pt) (k : Nat) (h : k < ps.length) (a b : Int) : setInts (flat ps) (k * 2) [a, b] = flat (ps.set k (a, b)) := by
  have e : ps = ps.take k ++ ps[k] :: ps.drop (k + 1) := by simp
  have hl : (ps.take k).length = k := by simp; omega
  unfold setInts
  rw [flat_take, show k * 2 + [a, b].length = (k + 1) * 2 by simp; omega, flat_drop]
  rw [List.set_eq_take_append_cons_drop, if_pos h, flat_append]
  simp [flat]
theorem flat_snoc (ps : List Pt) (a b : Int) : flat ps ++ [a, b] = flat (ps ++ [(a, b)]) := by rw [flat_append]; rfl
theorem drop_cons {α : Type} {l : List α} {k : Nat} (h : k < l.length) (d : α) : l.drop k = l.getD k d :: l.drop (k + 1) := by
  rw [List.drop_eq_getElem_cons h]
  simp [h]
theorem wr {x : Int} (h : -9223372036854775808 ≤ x ∧ x ≤ 9223372036854775807) : IntKind.i64.wrap x = x := by
  rw [IntKind.wrap_i64]
  omega
theorem wsucc {i n : Nat} (h : i < n) (hn : n ≤ 1000000000) : IntKind.i64.wrap ((i : Int) + 1) = ((i + 1 : Nat) : Int) := by
  rw [wr (by omega)]; omega
theorem all_drop {α : Type} {l : List α} {k : Nat} (h : k < l.length) (d : α) (P : α → Bool) : (l.drop k).all P = (P (l.getD k d) && (l.drop (k + 1)).all P) := by rw [drop_cons h d]; rfl
theorem all_end {α : Type} {l : List α} {k : Nat} (h : l.length ≤ k) (P : α → Bool) : (l.drop k).all P = true := by rw [List.drop_of_length_le h]; rfl
theorem pick2k {b : Bool} {k : Ex → St → Tree} {e1 e2 : Ex} {s1 s2 : St} {F : Ex → St → Prop} {H : Value → List (Option Blk) → Prop} (h : (brT b (k e1 s1) (k e2 s2)).ok F H) : (k (bif b then e1 else e2) (bif b then s1 else s2)).ok F H := by
  cases b
  · exact h
  · exact h
/-- A loop's body on a state, cut at its ends to what is looked at again: keep tells which slots, M how many names. -/
def bodyL (P : Program) (E : Env) (m n : Nat) (lt : LT) (j : Nat) (c : Code) (keep : Ex → List Nat) (M : Nat) (s : St) : Tree := runN P E.R E.J (asK P E (runM P E m n)) (runM P E m n) lt noR m c j (fun e s' => .leaf e (cutS M (keep e) s')) s
theorem body_det {P : Program} (hm : P.follows .mixedOrders = true) {E : Env} (hE : EnvOk P E) {m n : Nat} {lt : LT} {j : Nat} {c : Code} (hL : LoopsGood P lt j c) {keep : Ex → List Nat} {M : Nat} {s : St} {F : Ex → St → Prop} (h : (bodyL P E m n lt j c keep M s).ok F (fun _ _ => False)) :
    ∃ e' s', Det P c s e' s' ∧ F e' (cutS M (keep e') s') := by
  obtain ⟨e', s', h1, h2⟩ := runN_det hE.R hE.J (asK_ok hE (runM_ok hm hE m n)) (runM_ok hm hE m n) hm c j hL noR_good _ F _ s h
  exact ⟨e', s', h2, h1⟩
theorem noLoops {P : Program} {lt : LT} {j : Nat} {c : Code} (h : loopsOf c = []) : LoopsGood P lt j c := fun i d hd => by rw [h] at hd; simp at hd
/-- Which slots are looked at again: behind a round, behind an exit, behind the function's end. -/
def keeps (nrm : List Nat) (exits : List (Nat × List Nat)) (ret : List Nat) : Ex → List Nat
  | .normal => nrm
  | .exit id => (exits.lookup id).getD []
  | .ret => ret
/-- The end of a round. -/
def RoundEnd {X : Type} (N : Nat) (St_of : X → St) (Inv : X → Prop) (μ : X → Nat) (re : X → Ex) (rs : X → St) (x : X) (e : Ex) (s : St) : Prop :=
  match e with
  | .normal => ∃ x' π, Inv x' ∧ μ x' < μ x ∧ re x' = re x ∧ rs x' = rs x ∧ WS N π s (St_of x')
  | e => e = re x ∧ ∃ π, WS N π s (rs x)
theorem loop_run {P : Program} (hm : P.follows .mixedOrders = true) {E : Env} (hE : EnvOk P E) {m n : Nat} {lt : LT} {j : Nat} {c : Code} {N : Nat} {X : Type} (St_of : X → St) (Inv : X → Prop) (μ : X → Nat) (re : X → Ex) (rs : X → St) (keep : Ex → List Nat) {M : Nat} (hM : ∀ x, (St_of x).mem.length = M) (hL : LoopsGood P lt j c)
    (h : ∀ x, Inv x → (bodyL P E m n lt j c keep M (St_of x)).ok (RoundEnd N St_of Inv μ re rs x) (fun _ _ => False))
    {x : X} (hx : Inv x) {s : St} {π : List (Option Nat)} (hN : s.mem.length = N) (hs : WS N π s (St_of x)) : Det P (.loop c) s (re x) (rs x) :=
  loop_det St_of Inv μ re rs keep (fun x hx => by
    obtain ⟨e', s', h1, h2⟩ := body_det hm hE hL (h x hx)
    refine ⟨e', s', h1, ?_⟩
    rw [hM]
    unfold RoundEnd at h2
    cases e' <;> exact h2) hx hN hs
theorem wv_top (f : Nat → Option (Option Nat)) (v : Value) : wv f v topV := by
  cases v <;> exact True.intro
theorem take_set_succ {α : Type} {l m : List α} {i : Nat} (hl : i < l.length) (hm : i < m.length) (h : l.take i = m.take i) (d : α) : (l.set i (m.getD i d)).take (i + 1) = m.take (i + 1) := by
  apply List.ext_getElem?
  intro k
  have hk := congrArg (fun x : List α => x[k]?) h
  simp only [List.getElem?_take] at hk ⊢
  rcases Nat.lt_trichotomy k i with hki | hki | hki
  · rw [if_pos (by omega), if_pos (by omega), List.getElem?_set_ne (by omega)]
    simpa [hki] using hk
  · subst hki
    rw [if_pos (by omega), if_pos (by omega)]
    simp [hl, hm]
  · rw [if_neg (by omega), if_neg (by omega)]
/-- Some slots of a frame; a frame of which only some slots are known. -/
def pickL (l : List Value) (idx : List Nat) : List Value := idx.map fun i => l.getD i undef
def lookV : List Nat → List Value → Nat → Value
  | i :: r, v :: vs, j => if i = j then v else lookV r vs j
  | _, _, _ => topV
def spread (n : Nat) (idx : List Nat) (vals : List Value) : List Value := (List.range n).map (lookV idx vals)
theorem lookV_ok {f : Nat → Option (Option Nat)} {l : List Value} : ∀ {idx : List Nat} {vals : List Value}, wvs f (pickL l idx) vals → ∀ j, wv f (l.getD j undef) (lookV idx vals j)
  | [], [], _, j => wv_top _ _
  | [], _ :: _, h, _ => h.elim
  | _ :: _, [], h, _ => h.elim
  | i :: r, v :: vs, h, j => by
    unfold lookV
    split
    · rename_i hij
      subst hij
      exact h.1
    · exact lookV_ok h.2 j
theorem wvs_of {f : Nat → Option (Option Nat)} : ∀ {l l' : List Value}, l.length = l'.length → (∀ j, j < l.length → wv f (l.getD j undef) (l'.getD j undef)) → wvs f l l'
  | [], [], _, _ => trivial
  | [], _ :: _, h, _ => by simp at h
  | _ :: _, [], h, _ => by simp at h
  | a :: r, b :: r', h, hj => ⟨hj 0 (by simp), wvs_of (by simpa using h) fun j hj' => by simpa using hj (j + 1) (by simpa using hj')⟩
theorem wvs_spread {f : Nat → Option (Option Nat)} {l vals l' : List Value} {n : Nat} {idx : List Nat} (hl : Nat.beq l.length n = true) (he : l' = spread n idx vals) (h : wvs f (pickL l idx) vals) : wvs f l l' := by
  have hl := Nat.eq_of_beq_eq_true hl
  subst he
  refine wvs_of (by simp [spread, hl]) fun j hj => ?_
  have : (spread n idx vals).getD j undef = lookV idx vals j := by
    have : j < n := by omega
    simp [spread, this]
  rw [this]
  exact lookV_ok h j
theorem wvs_spread' {f : Nat → Option (Option Nat)} {l l' : List Value} {n : Nat} (idx : List Nat) (hl : Nat.beq l.length n = true) (he : l' = spread n idx (pickL l' idx)) (h : wvs f (pickL l idx) (pickL l' idx)) : wvs f l l' := wvs_spread hl he h
/-- An entry for a loop is sound. -/
def LoopE (P : Program) (e : St → (Ex → St → Tree) → Option Tree) (c : Code) : Prop := ∀ s k t F H, e s k = some t → t.ok F H → ∃ e' s', (k e' s').ok F H ∧ Det P (.loop c) s e' s'
/-- A function with one loop. -/
def lt1 (e : St → (Ex → St → Tree) → Option Tree) : LT := fun j s k => match j with
  | 0 => e s k
  | _ => none
theorem lt1_good {P : Program} {e : St → (Ex → St → Tree) → Option Tree} {c : Code} (h : LoopE P e (((loopsOf c)[0]?).getD .skip)) : LoopsGood P (lt1 e) 0 c := by
  intro i d hd s k t F H hlt ht
  rw [Nat.zero_add] at hlt
  cases i with
  | zero =>
    rw [hd] at h
    exact h s k t F H hlt ht
  | succ i => cases hlt
def noL : LT := fun _ _ _ => none
theorem noL_good {P : Program} {j : Nat} {c : Code} : LoopsGood P noL j c := fun _ _ _ _ _ _ _ _ h => by cases h
/-- An argument's cells beyond what is asked. -/
theorem Res.more {P : Program} {f : FuncId} {ds ds' : List DArg} {v : Value} (h : Res P f ds' v) (hg : ∀ d ∈ ds, d.good) (hd : ∀ w args, DOks w ds args → DOks w ds' args) : Res P f ds v :=
  ⟨h.1, h.2.1, h.2.2.1, hg, fun w args ha => h.2.2.2.2 w args (hd w args ha)⟩
theorem ResR.more {P : Program} {f : FuncId} {ds ds' : List DArg} {v : Value} {b : Blk} (h : ResR P f ds' v b) (hg : ∀ d ∈ ds, d.good) (hd : ∀ w args, DOks w ds args → DOks w ds' args) : ResR P f ds v b :=
  ⟨h.1, h.2.1, h.2.2.1, hg, fun w args ha => h.2.2.2.2 w args (hd w args ha)⟩
/-- The first cells of a row argument. -/
theorem DOk.take {w : World} {l : Nat} {xs : List Int} {y : Value} (k : Nat) (h : DOk w (.row l (.ints xs)) y) : DOk w (.row l (.ints (xs.take k))) y := by
  obtain ⟨h1, ad, c', h2, h3, h4⟩ := h
  refine ⟨rfl, ad, c', h2, h3, h4.imp id ?_⟩
  rintro ⟨g, f, h5, h6, h7⟩
  refine ⟨g, f, h5, h6, fun j v hv => h7 j v ?_⟩
  simp only [Cs.list, List.getElem?_map] at hv ⊢
  rw [List.getElem?_take] at hv
  split at hv
  · exact hv
  · simp at hv
theorem DOks.imp {w : World} : ∀ {ds ds' : List DArg} {args : Array Value}, DOks w ds args → ds.length = ds'.length → (∀ (i : Nat) d d' y, ds[i]? = some d → ds'[i]? = some d' → DOk w d y → DOk w d' y) → DOks w ds' args := by
  intro ds ds' args h hl hi
  refine ⟨by rw [← hl]; exact h.1, fun i d' y hd' hy => ?_⟩
  have hlt : i < ds.length := by rw [hl]; exact (List.getElem?_eq_some_iff.1 hd').1
  exact hi i ds[i] d' y (by simp) hd' (h.2 i _ y (by simp) hy)
/-- The points of a row argument. -/
def ptsA (n : Nat) (xs : List Int) : List Pt := pts (xs.take (n * 2))
theorem ptsA_flat (ps : List Pt) : ptsA ps.length (flat ps) = ps := by
  unfold ptsA
  rw [flat_take, List.take_length, pts_flat]
theorem ptsA_spec {n : Nat} {xs : List Int} (h : n * 2 ≤ xs.length) : xs.take (n * 2) = flat (ptsA n xs) ∧ (ptsA n xs).length = n := by
  unfold ptsA
  have := flat_pts n (xs.take (n * 2)) (by simp; omega)
  exact ⟨this.1.symm, this.2⟩
/-- What is known for lists of points as they are is known for any cells. -/
theorem DOks.pts {w : World} {pre post : List DArg} {n : Nat} {xs : List Int} {args : Array Value} (ha : DOks w (pre ++ .row n (.ints xs) :: post) args) : DOks w (pre ++ .row n (.ints (xs.take (n * 2))) :: post) args := by
  refine ha.imp (by simp) fun i d d' y hd hd' hy => ?_
  rcases Nat.lt_or_ge i pre.length with hlt | hge
  · rw [List.getElem?_append_left hlt] at hd hd'
    rw [hd] at hd'
    obtain rfl : d = d' := by simpa using hd'
    exact hy
  · rw [List.getElem?_append_right hge] at hd hd'
    rcases hk : i - pre.length with _ | k
    · rw [hk] at hd hd'
      obtain rfl : DArg.row n (.ints xs) = d := by simpa using hd
      obtain rfl : DArg.row n (.ints (xs.take (n * 2))) = d' := by simpa using hd'
      exact hy.take _
    · rw [hk] at hd hd'
      simp only [List.getElem?_cons_succ] at hd hd'
      rw [hd] at hd'
      obtain rfl : d = d' := by simpa using hd'
      exact hy
theorem good_pts {pre post : List DArg} {n : Nat} {xs ys : List Int} (h : ∀ d ∈ pre ++ .row n (.ints xs) :: post, d.good) : ∀ d ∈ pre ++ .row n (.ints ys) :: post, d.good := by
  intro d hd
  rcases List.mem_append.1 hd with hd | hd
  · exact h d (List.mem_append_left _ hd)
  · rcases List.mem_cons.1 hd with rfl | hd
    · rfl
    · exact h d (List.mem_append_right _ (List.mem_cons_of_mem _ hd))
theorem res_pts1 {P : Program} {f : FuncId} {pre post : List DArg} {v : Value} {n : Nat} {xs : List Int} (hn : n * 2 ≤ xs.length) (h0 : Res P f (pre ++ .row (ptsA n xs).length (.ints (flat (ptsA n xs))) :: post) v) :
    Res P f (pre ++ .row n (.ints xs) :: post) v := by
  obtain ⟨h1, h2⟩ := ptsA_spec hn
  rw [h2, ← h1] at h0
  exact h0.more (good_pts h0.2.2.2.1) fun w args ha => ha.pts
theorem resR_pts1 {P : Program} {f : FuncId} {pre post : List DArg} {v : Value} {b : Blk} {n : Nat} {xs : List Int} (hn : n * 2 ≤ xs.length) (h0 : ResR P f (pre ++ .row (ptsA n xs).length (.ints (flat (ptsA n xs))) :: post) v b) :
    ResR P f (pre ++ .row n (.ints xs) :: post) v b := by
  obtain ⟨h1, h2⟩ := ptsA_spec hn
  rw [h2, ← h1] at h0
  exact h0.more (good_pts h0.2.2.2.1) fun w args ha => ha.pts
end Go.Proofs.Ytolodncpegajkaa
namespace Go.Proofs.Ytolodncpegajkaa
set_option linter.all false
open Go.RowKit
def E1 : Env := mkE (T1) (fun _ _ => none) (fun _ => noL)
theorem E1_ok : EnvOk Try.prog E1 := mkEOk (T1_ok) (fun _ _ _ _ _ h => (by cases h)) (fun _ _ _ _ _ _ _ _ _ _ _ h => (by cases h))
def vB (p : Pt) : Bool := ptB p.1 p.2
def allV (ps : List Pt) : Bool := ps.all vB
noncomputable def c43 : Code := ((loopsOf (codeOf Try.f91))[0]?).getD .skip
noncomputable def c80 : Code := ((loopsOf (codeOf Try.f117))[0]?).getD .skip
set_option maxRecDepth 100000 in
theorem nl43 : loopsOf c43 = [] := by kernel_rfl
set_option maxRecDepth 100000 in
theorem nl80 : loopsOf c80 = [] := by kernel_rfl
def k43 : Ex → List Nat := keeps [0, 3] [(0, [0])] [2]
def k80 : Ex → List Nat := keeps [5, 6, 7] [] [2]
def s43 (ps : List Pt) (i : Nat) : St := ⟨[.slice (some ⟨0, 0, none⟩) ps.length ps.length, topV, topV, .int .i64 i, topV, topV, topV, topV, topV, topV, topV, topV, topV, topV, topV, topV, topV, topV, topV], [some ⟨.view, .ints (flat ps)⟩]⟩
def s80 (ps : List Pt) (i : Nat) : St := ⟨[topV, topV, topV, topV, topV, .slice (some ⟨0, 0, none⟩) ps.length ps.length, .int .i64 ps.length, .int .i64 i, topV, topV, topV, topV, topV, topV, topV], [some ⟨.view, .ints (flat ps)⟩]⟩
set_option maxRecDepth 100000 in
theorem tr43 (ps : List Pt) (i : Nat) : bodyL Try.prog E1 30 12 noL 1 c43 k43 1 (s43 ps i) = brT (decide ((↑i : Int) < (↑ps.length : Int))) (.need ((0 : Int) ≤ (↑i : Int) ∧ (↑i : Int) < (↑ps.length : Int)) (.need ((0 : Nat) + (↑i : Int).toNat * (2 : Nat) + (2 : Nat) ≤ (flat ps).length) (brT (!ptB ((flat ps).getD (0 + (↑i : Int).toNat * 2) 0) ((flat ps).getD (0 + (↑i : Int).toNat * 2 + 1) 0)) (.leaf .ret ⟨[topV, topV, .bool (false), topV, topV, topV, topV, topV, topV, topV, topV, topV, topV, topV, topV, topV, topV, topV, topV], [some ⟨.view, .ints (flat ps)⟩]⟩) (.leaf .normal ⟨[.slice (some ⟨0, 0, none⟩) (ps.length) (ps.length), topV, topV, .int .i64 (IntKind.i64.wrap ((↑i : Int) + 1)), topV, topV, topV, topV, topV, topV, topV, topV, topV, topV, topV, topV, topV, topV, topV], [some ⟨.view, .ints (flat ps)⟩]⟩)))) (.leaf (.exit 0) ⟨[.slice (some ⟨0, 0, none⟩) (ps.length) (ps.length), topV, topV, topV, topV, topV, topV, topV, topV, topV, topV, topV, topV, topV, topV, topV, topV, topV, topV], [some ⟨.view, .ints (flat ps)⟩]⟩) := by kernel_rfl
set_option maxRecDepth 100000 in
theorem tr80 (ps : List Pt) (i : Nat) : bodyL Try.prog E1 30 12 noL 1 c80 k80 1 (s80 ps i) = brT (decide ((↑i : Int) < (↑ps.length : Int))) (.need ((0 : Int) ≤ (↑i : Int) ∧ (↑i : Int) < (↑ps.length : Int)) (.need ((0 : Nat) + (↑i : Int).toNat * (2 : Nat) + (2 : Nat) ≤ (flat ps).length) (brT (!ptB ((flat ps).getD (0 + (↑i : Int).toNat * 2) 0) ((flat ps).getD (0 + (↑i : Int).toNat * 2 + 1) 0)) (.leaf .ret ⟨[topV, topV, .bool (false), topV, topV, topV, topV, topV, topV, topV, topV, topV, topV, topV, topV], [some ⟨.view, .ints (flat ps)⟩]⟩) (.leaf .normal ⟨[topV, topV, topV, topV, topV, .slice (some ⟨0, 0, none⟩) (ps.length) (ps.length), .int .i64 ((↑ps.length : Int)), .int .i64 (IntKind.i64.wrap ((↑i : Int) + 1)), topV, topV, topV, topV, topV, topV, topV], [some ⟨.view, .ints (flat ps)⟩]⟩)))) (.leaf (.exit 0) ⟨[topV, topV, topV, topV, topV, topV, topV, topV, topV, topV, topV, topV, topV, topV, topV], [some ⟨.view, .ints (flat ps)⟩]⟩) := by kernel_rfl
def re43 (ps : List Pt) (i : Nat) : Ex := bif (ps.drop i).all vB then .exit 0 else .ret
def rs43 (ps : List Pt) (i : Nat) : St := bif (ps.drop i).all vB then ⟨[.slice (some ⟨0, 0, none⟩) ps.length ps.length, topV, topV, topV, topV, topV, topV, topV, topV, topV, topV, topV, topV, topV, topV, topV, topV, topV, topV], [some ⟨.view, .ints (flat ps)⟩]⟩ else ⟨[topV, topV, .bool false, topV, topV, topV, topV, topV, topV, topV, topV, topV, topV, topV, topV, topV, topV, topV, topV], [some ⟨.view, .ints (flat ps)⟩]⟩
def re80 (ps : List Pt) (i : Nat) : Ex := bif (ps.drop i).all vB then .exit 0 else .ret
def rs80 (ps : List Pt) (i : Nat) : St := bif (ps.drop i).all vB then ⟨[topV, topV, topV, topV, topV, topV, topV, topV, topV, topV, topV, topV, topV, topV, topV], [some ⟨.view, .ints (flat ps)⟩]⟩ else ⟨[topV, topV, .bool false, topV, topV, topV, topV, topV, topV, topV, topV, topV, topV, topV, topV], [some ⟨.view, .ints (flat ps)⟩]⟩
theorem round43 (ps : List Pt) (hn : ps.length ≤ 1000000000) (i : Nat) (hi : i ≤ ps.length) :
    (bodyL Try.prog E1 30 12 noL 1 c43 k43 1 (s43 ps i)).ok (RoundEnd 1 (s43 ps) (fun i => i ≤ ps.length) (fun i => ps.length - i) (re43 ps) (rs43 ps) i) (fun _ _ => False) := by
  rw [tr43]
  simp only [brT_ok, Tree.ok, decide_eq_true_eq, decide_eq_false_iff_not, Int.toNat_natCast, Nat.zero_add, flat_length, flat_get0, flat_get1, Bool.not_eq_true', Bool.not_eq_false']
  refine ⟨fun hlt => ⟨by omega, by omega, fun hv => ?_, fun hv => ?_⟩, fun hge => ?_⟩
  · have e : (ps.drop i).all vB = false := by rw [all_drop (by omega) (0, 0)]; simp only [vB, hv, Bool.false_and]
    refine ⟨by simp only [re43, e, cond_false], [], ?_⟩
    simp only [rs43, e, cond_false]
    repeat' (first | exact True.intro | exact rfl | refine And.intro ?_ ?_)
  · have e : (ps.drop i).all vB = (ps.drop (i + 1)).all vB := by rw [all_drop (by omega) (0, 0)]; simp only [vB, hv, Bool.true_and]
    rw [wsucc (n := ps.length) (by omega) hn]
    refine ⟨i + 1, [], by omega, by dsimp only; omega, by simp only [re43, e], by simp only [rs43, e], ?_⟩
    repeat' (first | exact True.intro | exact rfl | refine And.intro ?_ ?_)
  · have e : (ps.drop i).all vB = true := all_end (by omega) _
    refine ⟨by simp only [re43, e, cond_true], [], ?_⟩
    simp only [rs43, e, cond_true]
    repeat' (first | exact True.intro | exact rfl | refine And.intro ?_ ?_)
theorem round80 (ps : List Pt) (hn : ps.length ≤ 1000000000) (i : Nat) (hi : i ≤ ps.length) :
    (bodyL Try.prog E1 30 12 noL 1 c80 k80 1 (s80 ps i)).ok (RoundEnd 1 (s80 ps) (fun i => i ≤ ps.length) (fun i => ps.length - i) (re80 ps) (rs80 ps) i) (fun _ _ => False) := by
  rw [tr80]
  simp only [brT_ok, Tree.ok, decide_eq_true_eq, decide_eq_false_iff_not, Int.toNat_natCast, Nat.zero_add, flat_length, flat_get0, flat_get1, Bool.not_eq_true', Bool.not_eq_false']
  refine ⟨fun hlt => ⟨by omega, by omega, fun hv => ?_, fun hv => ?_⟩, fun hge => ?_⟩
  · have e : (ps.drop i).all vB = false := by rw [all_drop (by omega) (0, 0)]; simp only [vB, hv, Bool.false_and]
    refine ⟨by simp only [re80, e, cond_false], [], ?_⟩
    simp only [rs80, e, cond_false]
    repeat' (first | exact True.intro | exact rfl | refine And.intro ?_ ?_)
  · have e : (ps.drop i).all vB = (ps.drop (i + 1)).all vB := by rw [all_drop (by omega) (0, 0)]; simp only [vB, hv, Bool.true_and]
    rw [wsucc (n := ps.length) (by omega) hn]
    refine ⟨i + 1, [], by omega, by dsimp only; omega, by simp only [re80, e], by simp only [rs80, e], ?_⟩
    repeat' (first | exact True.intro | exact rfl | refine And.intro ?_ ?_)
  · have e : (ps.drop i).all vB = true := all_end (by omega) _
    refine ⟨by simp only [re80, e, cond_true], [], ?_⟩
    simp only [rs80, e, cond_true]
    repeat' (first | exact True.intro | exact rfl | refine And.intro ?_ ?_)
def lt43 : LT := fun j s k => match j, s with
  | 0, ⟨[.slice (some ⟨0, 0, none⟩) n _, _, _, .int .i64 i, _, _, _, _, _, _, _, _, _, _, _, _, _, _, _], [some ⟨.view, .ints xs⟩]⟩ =>
    some (needs [i = 0, xs.length = n * 2, n ≤ 1000000000] (brT (allV (ptsA n xs)) (k (.exit 0) ⟨[.slice (some ⟨0, 0, none⟩) n n, topV, topV, topV, topV, topV, topV, topV, topV, topV, topV, topV, topV, topV, topV, topV, topV, topV, topV], [some ⟨.view, .ints xs⟩]⟩) (k .ret ⟨[topV, topV, .bool false, topV, topV, topV, topV, topV, topV, topV, topV, topV, topV, topV, topV, topV, topV, topV, topV], [some ⟨.view, .ints xs⟩]⟩)))
  | _, _ => none
def lt80 : LT := fun j s k => match j, s with
  | 0, ⟨[_, _, _, _, _, .slice (some ⟨0, 0, none⟩) n _, .int .i64 l, .int .i64 i, _, _, _, _, _, _, _], [some ⟨.view, .ints xs⟩]⟩ =>
    some (needs [i = 0, l = n, xs.length = n * 2, n ≤ 1000000000] (brT (allV (ptsA n xs)) (k (.exit 0) ⟨[topV, topV, topV, topV, topV, topV, topV, topV, topV, topV, topV, topV, topV, topV, topV], [some ⟨.view, .ints xs⟩]⟩) (k .ret ⟨[topV, topV, .bool false, topV, topV, topV, topV, topV, topV, topV, topV, topV, topV, topV, topV], [some ⟨.view, .ints xs⟩]⟩)))
  | _, _ => none
set_option maxRecDepth 100000 in
theorem lg43 : LoopsGood Try.prog lt43 0 (codeOf Try.f91) := by
  intro i d hd s k t F H hlt ht
  rw [Nat.zero_add] at hlt
  unfold lt43 at hlt
  split at hlt
  rotate_left
  · cases hlt
  obtain rfl : c43 = d := by unfold c43; rw [hd]; rfl
  obtain rfl := Option.some.inj hlt
  obtain ⟨⟨rfl, h1, h2, _⟩, ht2⟩ := needs_ok ht
  clear ht hlt
  obtain ⟨ps, rfl, rfl⟩ := even_flat h1
  rw [ptsA_flat] at ht2
  refine ⟨_, _, pick2k ht2, loop_run mixed E1_ok (s43 ps) (fun i => i ≤ ps.length) (fun i => ps.length - i) (re43 ps) (rs43 ps) k43 (fun _ => rfl) (noLoops nl43) (round43 ps h2) (x := 0) (Nat.zero_le _) (π := []) rfl ?_⟩
  repeat' (first | exact True.intro | exact rfl | exact wv_top _ _ | refine And.intro ?_ ?_)
set_option maxRecDepth 100000 in
theorem lg80 : LoopsGood Try.prog lt80 0 (codeOf Try.f117) := by
  intro i d hd s k t F H hlt ht
  rw [Nat.zero_add] at hlt
  unfold lt80 at hlt
  split at hlt
  rotate_left
  · cases hlt
  obtain rfl : c80 = d := by unfold c80; rw [hd]; rfl
  obtain rfl := Option.some.inj hlt
  obtain ⟨⟨rfl, rfl, h1, h2, _⟩, ht2⟩ := needs_ok ht
  clear ht hlt
  obtain ⟨ps, rfl, rfl⟩ := even_flat h1
  rw [ptsA_flat] at ht2
  refine ⟨_, _, pick2k ht2, loop_run mixed E1_ok (s80 ps) (fun i => i ≤ ps.length) (fun i => ps.length - i) (re80 ps) (rs80 ps) k80 (fun _ => rfl) (noLoops nl80) (round80 ps h2) (x := 0) (Nat.zero_le _) (π := []) rfl ?_⟩
  repeat' (first | exact True.intro | exact rfl | exact wv_top _ _ | refine And.intro ?_ ?_)
end Go.Proofs.Ytolodncpegajkaa
namespace Go.Proofs.Ytolodncpegajkaa
set_option linter.all false
open Go.RowKit
def L2 : FuncId → LT := fun f => match f with
  | 91 => lt43
  | 117 => lt80
  | _ => noL
def E2 : Env := mkE (T1) (fun _ _ => none) (L2)
theorem E2_ok : EnvOk Try.prog E2 := by
  refine mkEOk T1_ok (fun _ _ _ _ _ h => (by cases h)) fun f fn hf => ?_
  show LoopsGood Try.prog (L2 f) 0 (codeOf fn)
  unfold L2
  split
  · obtain rfl : Try.f91 = fn := by rw [Try.func91] at hf; simpa using hf
    exact lg43
  · obtain rfl : Try.f117 = fn := by rw [Try.func117] at hf; simpa using hf
    exact lg80
  · exact noL_good
set_option maxRecDepth 100000 in
theorem tr_f43 (ps : List Pt) : bodyX Try.prog E2 30 12 91 [.row ps.length (.ints (flat ps))] = .need ((0 : Int) = (0 : Int)) (.need ((flat ps).length = ps.length * (2 : Nat)) (.need (ps.length ≤ (1000000000 : Nat)) (brT (allV (ptsA ps.length (flat ps))) (.fin (.bool (decide ((↑ps.length : Int) ≤ 20))) [some ⟨.view, .ints (flat ps)⟩]) (.fin (.bool (false)) [some ⟨.view, .ints (flat ps)⟩])))) := by kernel_rfl
set_option maxRecDepth 100000 in
theorem tr_f80 (ps : List Pt) : bodyX Try.prog E2 30 12 117 [.row ps.length (.ints (flat ps))] = .need ((0 : Int) = (0 : Int)) (.need ((↑ps.length : Int) = (↑ps.length : Int)) (.need ((flat ps).length = ps.length * (2 : Nat)) (.need (ps.length ≤ (1000000000 : Nat)) (brT (allV (ptsA ps.length (flat ps))) (.fin (.bool (true)) [some ⟨.view, .ints (flat ps)⟩]) (.fin (.bool (false)) [some ⟨.view, .ints (flat ps)⟩]))))) := by kernel_rfl
def Big (ps : List Pt) : Prop := ps.length ≤ 1000000000
def okL (ps : List Pt) : Bool := allV ps && decide (ps.length ≤ 20)
theorem res_f43 (ps : List Pt) (h : Big ps) : Res Try.prog 91 [.row ps.length (.ints (flat ps))] (.bool (okL ps)) := by
  refine bodyX_res mixed E2_ok (m := 30) (n := 12) rfl ?_
  rw [tr_f43, ptsA_flat]
  unfold Big at h
  unfold okL
  cases hv : allV ps <;> simp [Tree.ok, brT, flat_length, h]
  omega
theorem res_f80 (ps : List Pt) (h : Big ps) : Res Try.prog 117 [.row ps.length (.ints (flat ps))] (.bool (allV ps)) := by
  refine bodyX_res mixed E2_ok (m := 30) (n := 12) rfl ?_
  rw [tr_f80, ptsA_flat]
  unfold Big at h
  cases hv : allV ps <;> simp [Tree.ok, brT, flat_length, h]
/-- An entry for a function of one list of points. -/
def pL (g : List Pt → Value) : List DArg → Option (Value × List Prop)
  | [.row n (.ints xs)] => some (g (ptsA n xs), [n * 2 ≤ xs.length, n ≤ 1000000000])
  | _ => none
theorem pL_ok {f : FuncId} {g : List Pt → Value} (h : ∀ ps, Big ps → Res Try.prog f [.row ps.length (.ints (flat ps))] (g ps)) {ds : List DArg} {v : Value} {C : List Prop} (hd : pL g ds = some (v, C)) (hC : AllP C) : Res Try.prog f ds v := by
  unfold pL at hd
  split at hd
  · rename_i n xs
    obtain ⟨rfl, rfl⟩ : _ ∧ _ := by simpa using hd
    obtain ⟨h1, h2⟩ := ptsA_spec hC.1
    have h0 := h (ptsA n xs) (by unfold Big; rw [h2]; exact hC.2.1)
    exact res_pts1 (pre := []) (post := []) hC.1 h0
  · cases hd
def T2 : Tab := fun f ds => match f with
  | 91 => pL (fun ps => .bool (okL ps)) ds
  | 117 => (match pL (fun ps => .bool (allV ps)) ds with
    | some r => some r
    | none => T1 f ds)
  | f => T1 f ds
theorem T2_ok : TabOk Try.prog T2 := by
  intro f ds v C h hC
  unfold T2 at h
  split at h
  · exact pL_ok res_f43 h hC
  · split at h
    · rename_i hr
      rw [h] at hr
      exact pL_ok res_f80 hr hC
    · exact T1_ok _ _ _ _ h hC
  · exact T1_ok _ _ _ _ h hC
end Go.Proofs.Ytolodncpegajkaa
namespace Go.Proofs.Ytolodncpegajkaa
set_option linter.all false
open Go.RowKit
def E3 : Env := mkE (T2) (fun _ _ => none) (fun _ => noL)
theorem E3_ok : EnvOk Try.prog E3 := mkEOk (T2_ok) (fun _ _ _ _ _ h => (by cases h)) (fun _ _ _ => noL_good)
theorem allV_get {ps : List Pt} (h : allV ps = true) (i : Nat) : -1000 ≤ (ps.getD i (0, 0)).1 ∧ (ps.getD i (0, 0)).1 ≤ 1000 ∧ -1000 ≤ (ps.getD i (0, 0)).2 ∧ (ps.getD i (0, 0)).2 ≤ 1000 := by
  rcases Nat.lt_or_ge i ps.length with hlt | hge
  · have := List.all_eq_true.1 h (ps.getD i (0, 0)) (by simp [hlt])
    simpa [vB, ptB] using this
  · simp [hge]
theorem brT_t (x y : Tree) : brT true x y = x := rfl
theorem brT_f (x y : Tree) : brT false x y = y := rfl
def eqL (ps qs : List Pt) : Bool := decide (ps = qs)
noncomputable def c_toPts : Code := ((loopsOf (codeOf Try.f46))[0]?).getD .skip
def k_toPts : Ex → List Nat := keeps [0, 3, 4] [(0, [3])] [2]
def s_toPts (ps : List Pt) (n : Nat) : Nat × (List Pt) → St := fun (i, qs) => ⟨[.slice (some ⟨0, 0, none⟩) ps.length ps.length, topV, topV, .slice (some ⟨1, 0, none⟩) n n, .int .i64 i, topV, topV, topV, topV, topV, topV, topV, topV, topV, topV, topV, topV, topV, topV, topV, topV, topV, topV], [some ⟨.view, .ints (flat ps)⟩, some ⟨.row 37 2, .ints (flat qs)⟩]⟩
def re_toPts : Nat × (List Pt) → Ex := fun _ => .exit 0
def rs_toPts (ps : List Pt) (n : Nat) : Nat × (List Pt) → St := fun (i, qs) => ⟨[topV, topV, topV, .slice (some ⟨1, 0, none⟩) n n, topV, topV, topV, topV, topV, topV, topV, topV, topV, topV, topV, topV, topV, topV, topV, topV, topV, topV, topV], [some ⟨.view, .ints (flat ps)⟩, some ⟨.row 37 2, .ints (flat ps)⟩]⟩
set_option maxRecDepth 100000 in
theorem tr_toPts (ps : List Pt) (n : Nat) (i : Nat) (qs : List Pt) : bodyL Try.prog E3 30 12 noL 1 c_toPts k_toPts 2 (s_toPts ps n (i, qs)) = brT (decide ((↑i : Int) < (↑ps.length : Int))) (.need ((0 : Int) ≤ (↑i : Int) ∧ (↑i : Int) < (↑ps.length : Int)) (.need ((0 : Nat) + (↑i : Int).toNat * (2 : Nat) + (2 : Nat) ≤ (flat ps).length) (.need ((0 : Int) ≤ (↑i : Int) ∧ (↑i : Int) < (↑n : Int)) (.need ((0 : Nat) + (↑i : Int).toNat * (2 : Nat) + (2 : Nat) ≤ (flat qs).length) (.leaf .normal ⟨[.slice (some ⟨0, 0, none⟩) (ps.length) (ps.length), topV, topV, .slice (some ⟨1, 0, none⟩) (n) (n), .int .i64 (IntKind.i64.wrap ((↑i : Int) + 1)), topV, topV, topV, topV, topV, topV, topV, topV, topV, topV, topV, topV, topV, topV, topV, topV, topV, topV], [some ⟨.view, .ints (flat ps)⟩, some ⟨.row 37 2, .ints (setInts (flat qs) (0 + (↑i : Int).toNat * 2) [(flat ps).getD (0 + (↑i : Int).toNat * 2) 0, (flat ps).getD (0 + (↑i : Int).toNat * 2 + 1) 0])⟩]⟩))))) (.leaf (.exit 0) ⟨[topV, topV, topV, .slice (some ⟨1, 0, none⟩) (n) (n), topV, topV, topV, topV, topV, topV, topV, topV, topV, topV, topV, topV, topV, topV, topV, topV, topV, topV, topV], [some ⟨.view, .ints (flat ps)⟩, some ⟨.row 37 2, .ints (flat qs)⟩]⟩) := by kernel_rfl
set_option maxRecDepth 100000 in
theorem nl_toPts : loopsOf c_toPts = [] := by kernel_rfl
def inv_toPts (ps : List Pt) (n : Nat) : Nat × (List Pt) → Prop := fun (i, qs) => i ≤ ps.length ∧ ps.length = n ∧ qs.length = n ∧ qs.take i = ps.take i
def me_toPts (ps : List Pt) (n : Nat) : Nat × (List Pt) → Nat := fun (i, qs) => ps.length - i
/-- A round of this loop. -/
def Round_toPts (ps : List Pt) (n : Nat) : Prop := ∀ xx : Nat × (List Pt), inv_toPts ps n xx → (bodyL Try.prog E3 30 12 noL 1 c_toPts k_toPts 2 (s_toPts ps n xx)).ok (RoundEnd 2 (s_toPts ps n) (inv_toPts ps n) (me_toPts ps n) re_toPts (rs_toPts ps n) xx) (fun _ _ => False)
def e_toPts (s : St) (k : Ex → St → Tree) : Option Tree := match Nat.beq s.tmps.length 23, pickL s.tmps [0, 3, 4], s.mem with
  | true, [.slice (some ⟨0, 0, none⟩) n _, .slice (some ⟨1, 0, none⟩) m _, .int .i64 i], [some ⟨.view, .ints xs⟩, some ⟨.row 37 2, .ints ys⟩] => some (needs [i = 0, m = n, xs.length = n * 2, ys.length = n * 2, n ≤ 1000000000] (k (.exit 0) ⟨[topV, topV, topV, .slice (some ⟨1, 0, none⟩) m m, topV, topV, topV, topV, topV, topV, topV, topV, topV, topV, topV, topV, topV, topV, topV, topV, topV, topV, topV], [some ⟨.view, .ints xs⟩, some ⟨.row 37 2, .ints xs⟩]⟩))
  | _, _, _ => none
set_option maxRecDepth 100000 in
theorem round_toPts (ps : List Pt) (n : Nat) (h : ps.length ≤ 1000000000) : Round_toPts ps n := by
  rintro ⟨i, qs⟩ ⟨h1, h2, h3, h4⟩
  rw [tr_toPts]
  simp only [brT_ok, Tree.ok, decide_eq_true_eq, decide_eq_false_iff_not, Int.toNat_natCast, Nat.zero_add, flat_length, flat_get0, flat_get1, Cs.size]
  refine ⟨fun hlt => ⟨by omega, by omega, by omega, by omega, ?_⟩, fun hge => ?_⟩
  · rw [wsucc (n := ps.length) (by omega) h, flat_set qs i (by omega)]
    refine ⟨(i + 1, qs.set i (ps.getD i (0, 0))), [], ⟨by omega, h2, by simp [h3], ?_⟩, ?_, rfl, rfl, ?_⟩
    · exact take_set_succ (by omega) (by omega) h4 _
    · show ps.length - (i + 1) < ps.length - i; omega
    · repeat' (first | exact True.intro | exact rfl | exact fun _ => rfl | refine And.intro ?_ ?_)
  · have e : qs = ps := by
      rw [List.take_of_length_le (by omega), List.take_of_length_le (by omega)] at h4
      exact h4
    subst e
    refine ⟨rfl, [], ?_⟩
    repeat' (first | exact True.intro | exact rfl | exact fun _ => rfl | refine And.intro ?_ ?_)
set_option maxRecDepth 100000 in
theorem lg_toPts : LoopE Try.prog e_toPts c_toPts := by
  intro s k t F H hlt ht
  unfold e_toPts at hlt
  split at hlt
  rotate_left
  · cases hlt
  rename_i hlen hpick hmem
  obtain ⟨tmps, mem⟩ := s
  simp only at hlen hpick hmem
  subst hmem
  obtain rfl := Option.some.inj hlt
  obtain ⟨⟨rfl, rfl, h1, h2, h3, _⟩, ht2⟩ := needs_ok ht
  clear ht hlt
  obtain ⟨ps, rfl, rfl⟩ := even_flat h1
  obtain ⟨qs, rfl, hq⟩ := even_flat h2
  refine ⟨_, _, ht2, loop_run mixed E3_ok (s_toPts ps ps.length) (inv_toPts ps ps.length) (me_toPts ps ps.length) re_toPts (rs_toPts ps ps.length) k_toPts (fun _ => rfl) (noLoops nl_toPts) (round_toPts ps ps.length h3) (x := (0, qs)) ⟨Nat.zero_le _, rfl, hq, rfl⟩ (π := []) rfl ?_⟩
  refine ⟨rfl, rfl, ?_, wvs_spread' [0, 3, 4] hlen rfl ?_⟩
  · repeat' (first | exact True.intro | exact rfl | exact wv_top _ _ | exact fun _ => rfl | assumption | exact Eq.symm (by assumption) | exact vI0 rfl | refine And.intro ?_ ?_)
  · rw [hpick]
    repeat' (first | exact True.intro | exact rfl | exact wv_top _ _ | exact fun _ => rfl | assumption | exact Eq.symm (by assumption) | exact vI0 rfl | refine And.intro ?_ ?_)
noncomputable def c_eqPts : Code := ((loopsOf (codeOf Try.f49))[0]?).getD .skip
def k_eqPts : Ex → List Nat := keeps [0, 1, 5] [(0, [])] [4]
def s_eqPts (ps : List Pt) (qs : List Pt) : Nat → St := fun i => ⟨[.slice (some ⟨0, 0, none⟩) ps.length ps.length, .slice (some ⟨1, 0, none⟩) qs.length qs.length, topV, topV, topV, .int .i64 i, topV, topV, topV, topV, topV, topV, topV, topV, topV, topV, topV, topV, topV, topV, topV, topV, topV, topV, topV, topV, topV], [some ⟨.view, .ints (flat ps)⟩, some ⟨.view, .ints (flat qs)⟩]⟩
def re_eqPts (ps : List Pt) (qs : List Pt) : Nat → Ex := fun i => bif decide (ps.drop i = qs.drop i) then .exit 0 else .ret
def rs_eqPts (ps : List Pt) (qs : List Pt) : Nat → St := fun i => bif decide (ps.drop i = qs.drop i) then ⟨[topV, topV, topV, topV, topV, topV, topV, topV, topV, topV, topV, topV, topV, topV, topV, topV, topV, topV, topV, topV, topV, topV, topV, topV, topV, topV, topV], [some ⟨.view, .ints (flat ps)⟩, some ⟨.view, .ints (flat qs)⟩]⟩ else ⟨[topV, topV, topV, topV, .bool false, topV, topV, topV, topV, topV, topV, topV, topV, topV, topV, topV, topV, topV, topV, topV, topV, topV, topV, topV, topV, topV, topV], [some ⟨.view, .ints (flat ps)⟩, some ⟨.view, .ints (flat qs)⟩]⟩
set_option maxRecDepth 100000 in
theorem tr_eqPts (ps : List Pt) (qs : List Pt) (i : Nat) : bodyL Try.prog E3 30 12 noL 1 c_eqPts k_eqPts 2 (s_eqPts ps qs i) = brT (decide ((↑i : Int) < (↑ps.length : Int))) (brT (!(flat ps).getD (0 + (↑i : Int).toNat * 2) 0 == (flat qs).getD (0 + (↑i : Int).toNat * 2) 0) (.need ((0 : Int) ≤ (↑i : Int) ∧ (↑i : Int) < (↑ps.length : Int)) (.need ((0 : Nat) + (↑i : Int).toNat * (2 : Nat) + (2 : Nat) ≤ (flat ps).length) (.need ((0 : Int) ≤ (↑i : Int) ∧ (↑i : Int) < (↑qs.length : Int)) (.need ((0 : Nat) + (↑i : Int).toNat * (2 : Nat) + (2 : Nat) ≤ (flat qs).length) (.leaf .ret ⟨[topV, topV, topV, topV, .bool (false), topV, topV, topV, topV, topV, topV, topV, topV, topV, topV, topV, topV, topV, topV, topV, topV, topV, topV, topV, topV, topV, topV], [some ⟨.view, .ints (flat ps)⟩, some ⟨.view, .ints (flat qs)⟩]⟩))))) (brT (!(flat ps).getD (0 + (↑i : Int).toNat * 2 + 1) 0 == (flat qs).getD (0 + (↑i : Int).toNat * 2 + 1) 0) (.need ((0 : Int) ≤ (↑i : Int) ∧ (↑i : Int) < (↑ps.length : Int)) (.need ((0 : Nat) + (↑i : Int).toNat * (2 : Nat) + (2 : Nat) ≤ (flat ps).length) (.need ((0 : Int) ≤ (↑i : Int) ∧ (↑i : Int) < (↑qs.length : Int)) (.need ((0 : Nat) + (↑i : Int).toNat * (2 : Nat) + (2 : Nat) ≤ (flat qs).length) (.leaf .ret ⟨[topV, topV, topV, topV, .bool (false), topV, topV, topV, topV, topV, topV, topV, topV, topV, topV, topV, topV, topV, topV, topV, topV, topV, topV, topV, topV, topV, topV], [some ⟨.view, .ints (flat ps)⟩, some ⟨.view, .ints (flat qs)⟩]⟩))))) (.need ((0 : Int) ≤ (↑i : Int) ∧ (↑i : Int) < (↑ps.length : Int)) (.need ((0 : Nat) + (↑i : Int).toNat * (2 : Nat) + (2 : Nat) ≤ (flat ps).length) (.need ((0 : Int) ≤ (↑i : Int) ∧ (↑i : Int) < (↑qs.length : Int)) (.need ((0 : Nat) + (↑i : Int).toNat * (2 : Nat) + (2 : Nat) ≤ (flat qs).length) (.leaf .normal ⟨[.slice (some ⟨0, 0, none⟩) (ps.length) (ps.length), .slice (some ⟨1, 0, none⟩) (qs.length) (qs.length), topV, topV, topV, .int .i64 (IntKind.i64.wrap ((↑i : Int) + 1)), topV, topV, topV, topV, topV, topV, topV, topV, topV, topV, topV, topV, topV, topV, topV, topV, topV, topV, topV, topV, topV], [some ⟨.view, .ints (flat ps)⟩, some ⟨.view, .ints (flat qs)⟩]⟩))))))) (.leaf (.exit 0) ⟨[topV, topV, topV, topV, topV, topV, topV, topV, topV, topV, topV, topV, topV, topV, topV, topV, topV, topV, topV, topV, topV, topV, topV, topV, topV, topV, topV], [some ⟨.view, .ints (flat ps)⟩, some ⟨.view, .ints (flat qs)⟩]⟩) := by kernel_rfl
set_option maxRecDepth 100000 in
theorem nl_eqPts : loopsOf c_eqPts = [] := by kernel_rfl
def inv_eqPts (ps : List Pt) (qs : List Pt) : Nat → Prop := fun i => i ≤ ps.length ∧ ps.length = qs.length
def me_eqPts (ps : List Pt) (qs : List Pt) : Nat → Nat := fun i => ps.length - i
/-- A round of this loop. -/
def Round_eqPts (ps : List Pt) (qs : List Pt) : Prop := ∀ xx : Nat, inv_eqPts ps qs xx → (bodyL Try.prog E3 30 12 noL 1 c_eqPts k_eqPts 2 (s_eqPts ps qs xx)).ok (RoundEnd 2 (s_eqPts ps qs) (inv_eqPts ps qs) (me_eqPts ps qs) (re_eqPts ps qs) (rs_eqPts ps qs) xx) (fun _ _ => False)
def e_eqPts (s : St) (k : Ex → St → Tree) : Option Tree := match Nat.beq s.tmps.length 27, pickL s.tmps [0, 1, 5], s.mem with
  | true, [.slice (some ⟨0, 0, none⟩) n _, .slice (some ⟨1, 0, none⟩) m _, .int .i64 i], [some ⟨.view, .ints xs⟩, some ⟨.view, .ints ys⟩] => some (needs [i = 0, m = n, xs.length = n * 2, ys.length = n * 2, n ≤ 1000000000] (brT (eqL (ptsA n xs) (ptsA n ys)) (k (.exit 0) ⟨[topV, topV, topV, topV, topV, topV, topV, topV, topV, topV, topV, topV, topV, topV, topV, topV, topV, topV, topV, topV, topV, topV, topV, topV, topV, topV, topV], [some ⟨.view, .ints xs⟩, some ⟨.view, .ints ys⟩]⟩) (k .ret ⟨[topV, topV, topV, topV, .bool false, topV, topV, topV, topV, topV, topV, topV, topV, topV, topV, topV, topV, topV, topV, topV, topV, topV, topV, topV, topV, topV, topV], [some ⟨.view, .ints xs⟩, some ⟨.view, .ints ys⟩]⟩)))
  | _, _, _ => none
set_option maxRecDepth 100000 in
theorem round_eqPts (ps qs : List Pt) (h : ps.length ≤ 1000000000) : Round_eqPts ps qs := by
  rintro i ⟨h1, h2⟩
  rw [tr_eqPts]
  simp only [brT_ok, Tree.ok, decide_eq_true_eq, decide_eq_false_iff_not, Int.toNat_natCast, Nat.zero_add, flat_length, flat_get0, flat_get1, Bool.not_eq_true', Bool.not_eq_false', beq_iff_eq, beq_eq_false_iff_ne]
  refine ⟨fun hlt => ?_, fun hge => ?_⟩
  · have hd1 := drop_cons (l := ps) (k := i) (by omega) (0, 0)
    have hd2 := drop_cons (l := qs) (k := i) (by omega) (0, 0)
    have ne : ps.getD i (0, 0) ≠ qs.getD i (0, 0) → decide (ps.drop i = qs.drop i) = false := fun hne => by
      rw [hd1, hd2]
      simp only [List.cons.injEq, decide_eq_false_iff_not]
      exact fun h => hne h.1
    refine ⟨fun hv => ⟨by omega, by omega, by omega, by omega, ?_⟩, fun hv => ⟨fun hv2 => ⟨by omega, by omega, by omega, by omega, ?_⟩, fun hv2 => ⟨by omega, by omega, by omega, by omega, ?_⟩⟩⟩
    · have e := ne fun h => hv (by rw [h])
      refine ⟨by simp only [re_eqPts, e, cond_false], [], ?_⟩
      simp only [rs_eqPts, e, cond_false]
      repeat' (first | exact True.intro | exact rfl | exact fun _ => rfl | refine And.intro ?_ ?_)
    · have e := ne fun h => hv2 (by rw [h])
      refine ⟨by simp only [re_eqPts, e, cond_false], [], ?_⟩
      simp only [rs_eqPts, e, cond_false]
      repeat' (first | exact True.intro | exact rfl | exact fun _ => rfl | refine And.intro ?_ ?_)
    · have hp : ps.getD i (0, 0) = qs.getD i (0, 0) := Prod.ext hv hv2
      have e : decide (ps.drop i = qs.drop i) = decide (ps.drop (i + 1) = qs.drop (i + 1)) := by
        rw [hd1, hd2, hp]
        simp
      rw [wsucc (n := ps.length) (by omega) h]
      refine ⟨i + 1, [], ⟨by omega, h2⟩, ?_, by simp only [re_eqPts, e], by simp only [rs_eqPts, e], ?_⟩
      · show ps.length - (i + 1) < ps.length - i; omega
      · repeat' (first | exact True.intro | exact rfl | exact fun _ => rfl | refine And.intro ?_ ?_)
  · have e : decide (ps.drop i = qs.drop i) = true := by rw [List.drop_of_length_le (by omega), List.drop_of_length_le (by omega)]; rfl
    refine ⟨by simp only [re_eqPts, e, cond_true], [], ?_⟩
    simp only [rs_eqPts, e, cond_true]
    repeat' (first | exact True.intro | exact rfl | exact fun _ => rfl | refine And.intro ?_ ?_)
set_option maxRecDepth 100000 in
theorem lg_eqPts : LoopE Try.prog e_eqPts c_eqPts := by
  intro s k t F H hlt ht
  unfold e_eqPts at hlt
  split at hlt
  rotate_left
  · cases hlt
  rename_i hlen hpick hmem
  obtain ⟨tmps, mem⟩ := s
  simp only at hlen hpick hmem
  subst hmem
  obtain rfl := Option.some.inj hlt
  obtain ⟨⟨rfl, rfl, h1, h2, h3, _⟩, ht2⟩ := needs_ok ht
  clear ht hlt
  obtain ⟨ps, rfl, rfl⟩ := even_flat h1
  obtain ⟨qs, rfl, hq⟩ := even_flat h2
  rw [ptsA_flat, ← hq, ptsA_flat] at ht2
  refine ⟨_, _, pick2k ht2, loop_run mixed E3_ok (s_eqPts ps qs) (inv_eqPts ps qs) (me_eqPts ps qs) (re_eqPts ps qs) (rs_eqPts ps qs) k_eqPts (fun _ => rfl) (noLoops nl_eqPts) (round_eqPts ps qs h3) (x := 0) ⟨Nat.zero_le _, hq.symm⟩ (π := []) rfl ?_⟩
  refine ⟨rfl, rfl, ?_, wvs_spread' [0, 1, 5] hlen rfl ?_⟩
  · repeat' (first | exact True.intro | exact rfl | exact wv_top _ _ | exact fun _ => rfl | assumption | exact Eq.symm (by assumption) | exact vI0 rfl | refine And.intro ?_ ?_)
  · rw [hpick]
    repeat' (first | exact True.intro | exact rfl | exact wv_top _ _ | exact fun _ => rfl | assumption | exact Eq.symm (by assumption) | exact vI0 rfl | refine And.intro ?_ ?_)
end Go.Proofs.Ytolodncpegajkaa
namespace Go.Proofs.Ytolodncpegajkaa
set_option linter.all false
open Go.RowKit
def L4 : FuncId → LT := fun f => match f with
  | 46 => lt1 e_toPts
  | 49 => lt1 e_eqPts
  | _ => noL
def E4 : Env := mkE (T2) (fun _ _ => none) (L4)
theorem code_of {f : FuncId} {fn g : Func} (h : Try.prog.funcs[f]? = some g) (hf : Try.prog.funcs[f]? = some fn) : g = fn := by rw [h] at hf; simpa using hf
theorem Lr_toPts {fn : Func} (hf : Try.prog.funcs[46]? = some fn) : LoopsGood Try.prog (lt1 e_toPts) 0 (codeOf fn) := by
  obtain rfl := code_of Try.func46 hf
  exact lt1_good lg_toPts
theorem Lr_eqPts {fn : Func} (hf : Try.prog.funcs[49]? = some fn) : LoopsGood Try.prog (lt1 e_eqPts) 0 (codeOf fn) := by
  obtain rfl := code_of Try.func49 hf
  exact lt1_good lg_eqPts
theorem L4_ok : ∀ f fn, Try.prog.funcs[f]? = some fn → LoopsGood Try.prog (L4 f) 0 (codeOf fn) := by
  intro f fn hf
  unfold L4
  split
  all_goals first | with_reducible exact Lr_toPts hf | with_reducible exact Lr_eqPts hf | with_reducible exact Lr_specCW hf | with_reducible exact Lr_implCW hf | exact noL_good
theorem E4_ok : EnvOk Try.prog E4 := mkEOk (T2_ok) (fun _ _ _ _ _ h => (by cases h)) (L4_ok)
set_option maxRecDepth 100000 in
theorem tr_eqPointS (ps qs : List Pt) : bodyX Try.prog E4 30 12 49 [.row ps.length (.ints (flat ps)), .row qs.length (.ints (flat qs))] = brT (!(↑ps.length : Int) == (↑qs.length : Int)) (.fin (.bool (false)) [some ⟨.view, .ints (flat ps)⟩, some ⟨.view, .ints (flat qs)⟩]) (.need ((0 : Int) = (0 : Int)) (.need (qs.length = ps.length) (.need ((flat ps).length = ps.length * (2 : Nat)) (.need ((flat qs).length = ps.length * (2 : Nat)) (.need (ps.length ≤ (1000000000 : Nat)) (brT (eqL (ptsA ps.length (flat ps)) (ptsA ps.length (flat qs))) (.fin (.bool (true)) [some ⟨.view, .ints (flat ps)⟩, some ⟨.view, .ints (flat qs)⟩]) (.fin (.bool (false)) [some ⟨.view, .ints (flat ps)⟩, some ⟨.view, .ints (flat qs)⟩]))))))) := by kernel_rfl
theorem res_eqPointS (ps qs : List Pt) (h : Big ps) : Res Try.prog 49 [.row ps.length (.ints (flat ps)), .row qs.length (.ints (flat qs))] (.bool (eqL ps qs)) := by
  refine bodyX_res mixed E4_ok (m := 30) (n := 12) rfl ?_
  rw [tr_eqPointS]
  unfold Big at h
  by_cases hl : ps.length = qs.length
  · have e : ptsA ps.length (flat qs) = qs := by rw [hl, ptsA_flat]
    rw [e, ptsA_flat, show (!((ps.length : Int) == (qs.length : Int))) = false by simp [hl]]
    simp only [brT_f, Tree.ok, flat_length]
    refine ⟨trivial, hl.symm, trivial, by omega, h, ?_⟩
    cases eqL ps qs <;> rfl
  · have e : eqL ps qs = false := by
      unfold eqL
      rw [decide_eq_false_iff_not]
      rintro rfl
      exact hl rfl
    rw [show (!((ps.length : Int) == (qs.length : Int))) = true by simp; omega]
    simp only [brT_t, Tree.ok, e]
def pEq2 : List DArg → Option (Value × List Prop)
  | [.row m (.ints xs), .row n (.ints ys)] => some (.bool (eqL (ptsA m xs) (ptsA n ys)), [m * 2 ≤ xs.length, n * 2 ≤ ys.length, m ≤ 1000000000])
  | _ => none
def T3 : Tab := fun f ds => match f with
  | 49 => pEq2 ds
  | f => T2 f ds
theorem pEq2_ok {ds : List DArg} {v : Value} {C : List Prop} (h : pEq2 ds = some (v, C)) (hC : AllP C) : Res Try.prog 49 ds v := by
  unfold pEq2 at h
  split at h
  · rename_i m xs n ys
    obtain ⟨rfl, rfl⟩ : _ ∧ _ := by simpa using h
    obtain ⟨_, h2⟩ := ptsA_spec hC.1
    have h0 := res_eqPointS (ptsA m xs) (ptsA n ys) (by unfold Big; rw [h2]; exact hC.2.2.1)
    exact res_pts1 (pre := []) (post := [_]) hC.1 (res_pts1 (pre := [_]) (post := []) hC.2.1 h0)
  · cases h
theorem T3_ok : TabOk Try.prog T3 := by
  intro f ds v C h hC
  unfold T3 at h
  (try split at h)
  all_goals first | with_reducible exact pEq2_ok h hC | with_reducible exact pCWs_ok h hC | with_reducible exact pCWi_ok h hC | exact T2_ok _ _ _ _ h hC
end Go.Proofs.Ytolodncpegajkaa
namespace Go.Proofs.Ytolodncpegajkaa
set_option linter.all false
open Go.RowKit
def EM : Env := mkE B0 (fun _ _ => none) (fun _ => noL)
theorem EM_ok : EnvOk Try.prog EM := mkEOk B0_ok (fun _ _ _ _ _ h => (by cases h)) (fun _ _ _ => noL_good)
theorem setInts_one (xs : List Int) (i : Nat) (h : i < xs.length) (a : Int) : setInts xs i [a] = xs.set i a := by
  unfold setInts
  rw [List.set_eq_take_append_cons_drop, if_pos h]
  simp
theorem vI0 {k : Int} {n : Nat} (h : n = 0) : Value.int .i64 k = .int .i64 (k + (n : Int)) := by subst h; simp
end Go.Proofs.Ytolodncpegajkaa
namespace Go.Proofs.Ytolodncpegajkaa
set_option linter.all false
open Go.RowKit
theorem fn_is {f : FuncId} {fn g : Func} (h : Try.prog.funcs[f]? = some g) (hf : Try.prog.funcs[f]? = some fn) : g = fn := by rw [h] at hf; simpa using hf
end Go.Proofs.Ytolodncpegajkaa
namespace Go.Proofs.Ytolodncpegajkaa
set_option linter.all false
open Go.RowKit
def evB (n : Nat) (e : Pt) : Bool := (decide (0 ≤ e.1) && decide (e.1 < n)) && (decide (0 ≤ e.2) && decide (e.2 < n))
def mhP (p q : Pt) : Int := ((p.1 - q.1).natAbs : Int) + ((p.2 - q.2).natAbs : Int)
def evA (n : Nat) (es : List Pt) : Bool := es.all (evB n)
/-- The length of an edge. -/
def edL (ps : List Pt) (e : Pt) : Int := mhP (ps.getD e.1.toNat (0, 0)) (ps.getD e.2.toNat (0, 0))
def tlS (ps : List Pt) : List Pt → Int
  | [] => 0
  | e :: r => edL ps e + tlS ps r
theorem tlS_step {ps es : List Pt} {i : Nat} (h : i < es.length) : tlS ps (es.drop i) = edL ps (es.getD i (0, 0)) + tlS ps (es.drop (i + 1)) := by
  rw [drop_cons h (0, 0)]
  rfl
theorem tlS_end {ps es : List Pt} {i : Nat} (h : es.length ≤ i) : tlS ps (es.drop i) = 0 := by
  rw [List.drop_of_length_le h]
  rfl
theorem edL_bd {ps : List Pt} (hv : allV ps = true) (e : Pt) : 0 ≤ edL ps e ∧ edL ps e ≤ 4000 := by
  have a := allV_get hv e.1.toNat
  have b := allV_get hv e.2.toNat
  unfold edL mhP
  omega
def TTl : Tab := fun f ds => match f with
  | 138 => pMh ds
  | f => T3 f ds
theorem TTl_ok : TabOk Try.prog TTl := by
  intro f ds v C h hC
  unfold TTl at h
  (try split at h)
  all_goals first | with_reducible exact pMhI_ok h | exact T3_ok _ _ _ _ h hC
def ETl0 : Env := mkE TTl (fun _ _ => none) (fun _ => noL)
theorem ETl0_ok : EnvOk Try.prog ETl0 := mkEOk TTl_ok (fun _ _ _ _ _ h => (by cases h)) (fun _ _ _ => noL_good)
noncomputable def c_eqPr : Code := ((loopsOf (codeOf Try.f19))[0]?).getD .skip
def k_eqPr : Ex → List Nat := keeps [0, 1, 5] [(0, [])] [4]
def s_eqPr (ps : List Pt) : Nat → St := fun i => ⟨[.slice (some ⟨0, 0, none⟩) ps.length ps.length, .slice (some ⟨1, 0, none⟩) ps.length ps.length, topV, topV, topV, .int .i64 i, topV, topV, topV, topV, topV, topV, topV, topV, topV, topV, topV, topV, topV, topV, topV, topV, topV, topV, topV, topV, topV], [some ⟨.view, .ints (flat ps)⟩, some ⟨.view, .ints (flat ps)⟩]⟩
def re_eqPr : Nat → Ex := fun _ => .exit 0
def rs_eqPr (ps : List Pt) : Nat → St := fun i => ⟨[topV, topV, topV, topV, topV, topV, topV, topV, topV, topV, topV, topV, topV, topV, topV, topV, topV, topV, topV, topV, topV, topV, topV, topV, topV, topV, topV], [some ⟨.view, .ints (flat ps)⟩, some ⟨.view, .ints (flat ps)⟩]⟩
set_option maxRecDepth 100000 in
theorem tr_eqPr (ps : List Pt) (i : Nat) : bodyL Try.prog EM 30 12 noL 1 c_eqPr k_eqPr 2 (s_eqPr ps i) = brT (decide ((↑i : Int) < (↑ps.length : Int))) (brT (!(flat ps).getD (0 + (↑i : Int).toNat * 2) 0 == (flat ps).getD (0 + (↑i : Int).toNat * 2) 0) (.need ((0 : Int) ≤ (↑i : Int) ∧ (↑i : Int) < (↑ps.length : Int)) (.need ((0 : Nat) + (↑i : Int).toNat * (2 : Nat) + (2 : Nat) ≤ (flat ps).length) (.need ((0 : Int) ≤ (↑i : Int) ∧ (↑i : Int) < (↑ps.length : Int)) (.need ((0 : Nat) + (↑i : Int).toNat * (2 : Nat) + (2 : Nat) ≤ (flat ps).length) (.leaf .ret ⟨[topV, topV, topV, topV, .bool (false), topV, topV, topV, topV, topV, topV, topV, topV, topV, topV, topV, topV, topV, topV, topV, topV, topV, topV, topV, topV, topV, topV], [some ⟨.view, .ints (flat ps)⟩, some ⟨.view, .ints (flat ps)⟩]⟩))))) (brT (!(flat ps).getD (0 + (↑i : Int).toNat * 2 + 1) 0 == (flat ps).getD (0 + (↑i : Int).toNat * 2 + 1) 0) (.need ((0 : Int) ≤ (↑i : Int) ∧ (↑i : Int) < (↑ps.length : Int)) (.need ((0 : Nat) + (↑i : Int).toNat * (2 : Nat) + (2 : Nat) ≤ (flat ps).length) (.need ((0 : Int) ≤ (↑i : Int) ∧ (↑i : Int) < (↑ps.length : Int)) (.need ((0 : Nat) + (↑i : Int).toNat * (2 : Nat) + (2 : Nat) ≤ (flat ps).length) (.leaf .ret ⟨[topV, topV, topV, topV, .bool (false), topV, topV, topV, topV, topV, topV, topV, topV, topV, topV, topV, topV, topV, topV, topV, topV, topV, topV, topV, topV, topV, topV], [some ⟨.view, .ints (flat ps)⟩, some ⟨.view, .ints (flat ps)⟩]⟩))))) (.need ((0 : Int) ≤ (↑i : Int) ∧ (↑i : Int) < (↑ps.length : Int)) (.need ((0 : Nat) + (↑i : Int).toNat * (2 : Nat) + (2 : Nat) ≤ (flat ps).length) (.need ((0 : Int) ≤ (↑i : Int) ∧ (↑i : Int) < (↑ps.length : Int)) (.need ((0 : Nat) + (↑i : Int).toNat * (2 : Nat) + (2 : Nat) ≤ (flat ps).length) (.leaf .normal ⟨[.slice (some ⟨0, 0, none⟩) (ps.length) (ps.length), .slice (some ⟨1, 0, none⟩) (ps.length) (ps.length), topV, topV, topV, .int .i64 (IntKind.i64.wrap ((↑i : Int) + 1)), topV, topV, topV, topV, topV, topV, topV, topV, topV, topV, topV, topV, topV, topV, topV, topV, topV, topV, topV, topV, topV], [some ⟨.view, .ints (flat ps)⟩, some ⟨.view, .ints (flat ps)⟩]⟩))))))) (.leaf (.exit 0) ⟨[topV, topV, topV, topV, topV, topV, topV, topV, topV, topV, topV, topV, topV, topV, topV, topV, topV, topV, topV, topV, topV, topV, topV, topV, topV, topV, topV], [some ⟨.view, .ints (flat ps)⟩, some ⟨.view, .ints (flat ps)⟩]⟩) := by kernel_rfl
set_option maxRecDepth 100000 in
theorem nl_eqPr : loopsOf c_eqPr = [] := by kernel_rfl
def inv_eqPr (ps : List Pt) : Nat → Prop := fun i => i ≤ ps.length
def me_eqPr (ps : List Pt) : Nat → Nat := fun i => ps.length - i
/-- A round of this loop. -/
def Round_eqPr (ps : List Pt) : Prop := ∀ xx : Nat, inv_eqPr ps xx → (bodyL Try.prog EM 30 12 noL 1 c_eqPr k_eqPr 2 (s_eqPr ps xx)).ok (RoundEnd 2 (s_eqPr ps) (inv_eqPr ps) (me_eqPr ps) re_eqPr (rs_eqPr ps) xx) (fun _ _ => False)
def e_eqPr (s : St) (k : Ex → St → Tree) : Option Tree := match Nat.beq s.tmps.length 27, pickL s.tmps [0, 1, 5], s.mem with
  | true, [.slice (some ⟨0, 0, none⟩) n _, .slice (some ⟨1, 0, none⟩) m _, .int .i64 i], [some ⟨.view, .ints xs⟩, some ⟨.view, .ints ys⟩] => some (needs [i = 0, m = n, ys = xs, xs.length = n * 2, n ≤ 1000000000] (k (.exit 0) ⟨[topV, topV, topV, topV, topV, topV, topV, topV, topV, topV, topV, topV, topV, topV, topV, topV, topV, topV, topV, topV, topV, topV, topV, topV, topV, topV, topV], [some ⟨.view, .ints xs⟩, some ⟨.view, .ints xs⟩]⟩))
  | _, _, _ => none
set_option maxRecDepth 100000 in
theorem round_eqPr (ps : List Pt) (h : ps.length ≤ 1000000000) : Round_eqPr ps := by
  intro i h1
  have h1 : i ≤ ps.length := h1
  rw [tr_eqPr]
  simp only [beq_self_eq_true, Bool.not_true, brT_f, brT_ok, Tree.ok, decide_eq_true_eq, decide_eq_false_iff_not, Int.toNat_natCast, Nat.zero_add, flat_length]
  refine ⟨fun hlt => ?_, fun hge => ?_⟩
  · rw [wsucc (n := ps.length) (by omega) h]
    refine ⟨by omega, by omega, by omega, by omega, i + 1, [], ?_, ?_, rfl, rfl, ?_⟩
    · show i + 1 ≤ ps.length; omega
    · show ps.length - (i + 1) < ps.length - i; omega
    · repeat' (first | exact True.intro | exact rfl | exact fun _ => rfl | refine And.intro ?_ ?_)
  · refine ⟨rfl, [], ?_⟩
    repeat' (first | exact True.intro | exact rfl | exact fun _ => rfl | refine And.intro ?_ ?_)
set_option maxRecDepth 100000 in
theorem lg_eqPr : LoopE Try.prog e_eqPr c_eqPr := by
  intro s k t F H hlt ht
  unfold e_eqPr at hlt
  split at hlt
  rotate_left
  · cases hlt
  rename_i hlen hpick hmem
  obtain ⟨tmps, mem⟩ := s
  simp only at hlen hpick hmem
  subst hmem
  obtain rfl := Option.some.inj hlt
  obtain ⟨⟨rfl, rfl, rfl, h1, h2, _⟩, ht2⟩ := needs_ok ht
  clear ht hlt
  obtain ⟨ps, rfl, rfl⟩ := even_flat h1
  refine ⟨_, _, ht2, loop_run mixed EM_ok (s_eqPr _) (inv_eqPr _) (me_eqPr _) re_eqPr (rs_eqPr _) k_eqPr (fun _ => rfl) (noLoops nl_eqPr) (round_eqPr _ h2) (x := 0) (Nat.zero_le _) (π := []) rfl ?_⟩
  refine ⟨rfl, rfl, ?_, wvs_spread' [0, 1, 5] hlen rfl ?_⟩
  · repeat' (first | exact True.intro | exact rfl | exact wv_top _ _ | exact fun _ => rfl | assumption | exact Eq.symm (by assumption) | exact vI0 rfl | refine And.intro ?_ ?_)
  · rw [hpick]
    repeat' (first | exact True.intro | exact rfl | exact wv_top _ _ | exact fun _ => rfl | assumption | exact Eq.symm (by assumption) | exact vI0 rfl | refine And.intro ?_ ?_)
noncomputable def c_sTl : Code := ((loopsOf (codeOf Try.f43))[0]?).getD .skip
def k_sTl : Ex → List Nat := keeps [0, 1, 5, 6] [(0, [5])] [4]
def s_sTl (ps es : List Pt) : Nat × Int → St := fun (i, c) => ⟨(.slice (some ⟨0, 0, none⟩) ps.length ps.length :: .slice (some ⟨1, 0, none⟩) es.length es.length :: topV :: topV :: topV :: .int .i64 c :: .int .i64 i :: topV :: topV :: topV :: topV :: topV :: topV :: topV :: topV :: topV :: topV :: topV :: topV :: topV :: topV :: topV :: topV :: topV :: topV :: topV :: topV :: topV :: topV :: topV :: topV :: topV :: topV :: topV :: topV :: topV :: topV :: topV :: topV :: topV :: topV :: topV :: topV :: topV :: topV :: topV :: topV :: topV :: topV :: topV :: topV :: topV :: topV :: topV :: topV :: topV :: topV :: topV :: topV :: topV :: topV :: topV :: topV :: []), [some ⟨.view, .ints (flat ps)⟩, some ⟨.view, .ints (flat es)⟩]⟩
def re_sTl (ps es : List Pt) : Nat × Int → Ex := fun (i, c) => bif evA ps.length (es.drop i) then .exit 0 else .ret
def rs_sTl (ps es : List Pt) : Nat × Int → St := fun (i, c) => bif evA ps.length (es.drop i) then ⟨(topV :: topV :: topV :: topV :: topV :: .int .i64 (c + tlS ps (es.drop i)) :: topV :: topV :: topV :: topV :: topV :: topV :: topV :: topV :: topV :: topV :: topV :: topV :: topV :: topV :: topV :: topV :: topV :: topV :: topV :: topV :: topV :: topV :: topV :: topV :: topV :: topV :: topV :: topV :: topV :: topV :: topV :: topV :: topV :: topV :: topV :: topV :: topV :: topV :: topV :: topV :: topV :: topV :: topV :: topV :: topV :: topV :: topV :: topV :: topV :: topV :: topV :: topV :: topV :: topV :: topV :: topV :: topV :: []), [some ⟨.view, .ints (flat ps)⟩, some ⟨.view, .ints (flat es)⟩]⟩ else ⟨(topV :: topV :: topV :: topV :: .int .i64 (-1) :: topV :: topV :: topV :: topV :: topV :: topV :: topV :: topV :: topV :: topV :: topV :: topV :: topV :: topV :: topV :: topV :: topV :: topV :: topV :: topV :: topV :: topV :: topV :: topV :: topV :: topV :: topV :: topV :: topV :: topV :: topV :: topV :: topV :: topV :: topV :: topV :: topV :: topV :: topV :: topV :: topV :: topV :: topV :: topV :: topV :: topV :: topV :: topV :: topV :: topV :: topV :: topV :: topV :: topV :: topV :: topV :: topV :: topV :: []), [some ⟨.view, .ints (flat ps)⟩, some ⟨.view, .ints (flat es)⟩]⟩
set_option maxRecDepth 100000 in
theorem tr_sTl (ps es : List Pt) (i : Nat) (c : Int) : bodyL Try.prog ETl0 30 12 noL 1 c_sTl k_sTl 2 (s_sTl ps es (i, c)) = brT (decide ((↑i : Int) < (↑es.length : Int))) (.need ((0 : Int) ≤ (↑i : Int) ∧ (↑i : Int) < (↑es.length : Int)) (.need ((0 : Nat) + (↑i : Int).toNat * (2 : Nat) + (0 : Nat) < (flat es).length) (brT (decide (0 ≤ (flat es).getD (0 + (↑i : Int).toNat * 2 + 0) 0)) (brT (!decide ((flat es).getD (0 + (↑i : Int).toNat * 2 + 0) 0 ≤ IntKind.i64.wrap ((↑ps.length : Int) - 1))) (.leaf .ret ⟨(topV :: topV :: topV :: topV :: .int .i64 (-1) :: topV :: topV :: topV :: topV :: topV :: topV :: topV :: topV :: topV :: topV :: topV :: topV :: topV :: topV :: topV :: topV :: topV :: topV :: topV :: topV :: topV :: topV :: topV :: topV :: topV :: topV :: topV :: topV :: topV :: topV :: topV :: topV :: topV :: topV :: topV :: topV :: topV :: topV :: topV :: topV :: topV :: topV :: topV :: topV :: topV :: topV :: topV :: topV :: topV :: topV :: topV :: topV :: topV :: topV :: topV :: topV :: topV :: topV :: []), [some ⟨.view, .ints (flat ps)⟩, some ⟨.view, .ints (flat es)⟩]⟩) (.need ((0 : Int) ≤ (↑i : Int) ∧ (↑i : Int) < (↑es.length : Int)) (.need ((0 : Nat) + (↑i : Int).toNat * (2 : Nat) + (1 : Nat) < (flat es).length) (brT (decide (0 ≤ (flat es).getD (0 + (↑i : Int).toNat * 2 + 1) 0)) (brT (!decide ((flat es).getD (0 + (↑i : Int).toNat * 2 + 1) 0 ≤ IntKind.i64.wrap ((↑ps.length : Int) - 1))) (.leaf .ret ⟨(topV :: topV :: topV :: topV :: .int .i64 (-1) :: topV :: topV :: topV :: topV :: topV :: topV :: topV :: topV :: topV :: topV :: topV :: topV :: topV :: topV :: topV :: topV :: topV :: topV :: topV :: topV :: topV :: topV :: topV :: topV :: topV :: topV :: topV :: topV :: topV :: topV :: topV :: topV :: topV :: topV :: topV :: topV :: topV :: topV :: topV :: topV :: topV :: topV :: topV :: topV :: topV :: topV :: topV :: topV :: topV :: topV :: topV :: topV :: topV :: topV :: topV :: topV :: topV :: topV :: []), [some ⟨.view, .ints (flat ps)⟩, some ⟨.view, .ints (flat es)⟩]⟩) (.need (big (IntKind.i64.wrap ((flat ps).getD ((0 : Nat) + ((flat es).getD ((0 : Nat) + (↑i : Int).toNat * (2 : Nat) + (0 : Nat)) (0 : Int)).toNat * (2 : Nat)) (0 : Int) - (flat ps).getD ((0 : Nat) + ((flat es).getD ((0 : Nat) + (↑i : Int).toNat * (2 : Nat) + (1 : Nat)) (0 : Int)).toNat * (2 : Nat)) (0 : Int)))) (.need (big (IntKind.i64.wrap ((flat ps).getD ((0 : Nat) + ((flat es).getD ((0 : Nat) + (↑i : Int).toNat * (2 : Nat) + (0 : Nat)) (0 : Int)).toNat * (2 : Nat) + (1 : Nat)) (0 : Int) - (flat ps).getD ((0 : Nat) + ((flat es).getD ((0 : Nat) + (↑i : Int).toNat * (2 : Nat) + (1 : Nat)) (0 : Int)).toNat * (2 : Nat) + (1 : Nat)) (0 : Int)))) (.need ((0 : Int) ≤ (↑i : Int) ∧ (↑i : Int) < (↑es.length : Int)) (.need ((0 : Nat) + (↑i : Int).toNat * (2 : Nat) + (0 : Nat) < (flat es).length) (.need ((0 : Int) ≤ (flat es).getD ((0 : Nat) + (↑i : Int).toNat * (2 : Nat) + (0 : Nat)) (0 : Int) ∧ (flat es).getD ((0 : Nat) + (↑i : Int).toNat * (2 : Nat) + (0 : Nat)) (0 : Int) < (↑ps.length : Int)) (.need ((0 : Nat) + ((flat es).getD ((0 : Nat) + (↑i : Int).toNat * (2 : Nat) + (0 : Nat)) (0 : Int)).toNat * (2 : Nat) + (2 : Nat) ≤ (flat ps).length) (.need ((0 : Int) ≤ (↑i : Int) ∧ (↑i : Int) < (↑es.length : Int)) (.need ((0 : Nat) + (↑i : Int).toNat * (2 : Nat) + (1 : Nat) < (flat es).length) (.need ((0 : Int) ≤ (flat es).getD ((0 : Nat) + (↑i : Int).toNat * (2 : Nat) + (1 : Nat)) (0 : Int) ∧ (flat es).getD ((0 : Nat) + (↑i : Int).toNat * (2 : Nat) + (1 : Nat)) (0 : Int) < (↑ps.length : Int)) (.need ((0 : Nat) + ((flat es).getD ((0 : Nat) + (↑i : Int).toNat * (2 : Nat) + (1 : Nat)) (0 : Int)).toNat * (2 : Nat) + (2 : Nat) ≤ (flat ps).length) (.leaf .normal ⟨(.slice (some ⟨0, 0, none⟩) (ps.length) (ps.length) :: .slice (some ⟨1, 0, none⟩) (es.length) (es.length) :: topV :: topV :: topV :: .int .i64 (IntKind.i64.wrap (c + IntKind.i64.wrap ((↑(IntKind.i64.wrap ((flat ps).getD (0 + ((flat es).getD (0 + (↑i : Int).toNat * (2 : Nat) + (0 : Nat)) 0).toNat * (2 : Nat)) 0 - (flat ps).getD (0 + ((flat es).getD (0 + (↑i : Int).toNat * (2 : Nat) + (1 : Nat)) 0).toNat * (2 : Nat)) 0)).natAbs : Int) + (↑(IntKind.i64.wrap ((flat ps).getD (0 + ((flat es).getD (0 + (↑i : Int).toNat * (2 : Nat) + (0 : Nat)) 0).toNat * (2 : Nat) + 1) 0 - (flat ps).getD (0 + ((flat es).getD (0 + (↑i : Int).toNat * (2 : Nat) + (1 : Nat)) 0).toNat * (2 : Nat) + 1) 0)).natAbs : Int)))) :: .int .i64 (IntKind.i64.wrap ((↑i : Int) + 1)) :: topV :: topV :: topV :: topV :: topV :: topV :: topV :: topV :: topV :: topV :: topV :: topV :: topV :: topV :: topV :: topV :: topV :: topV :: topV :: topV :: topV :: topV :: topV :: topV :: topV :: topV :: topV :: topV :: topV :: topV :: topV :: topV :: topV :: topV :: topV :: topV :: topV :: topV :: topV :: topV :: topV :: topV :: topV :: topV :: topV :: topV :: topV :: topV :: topV :: topV :: topV :: topV :: topV :: topV :: topV :: topV :: []), [some ⟨.view, .ints (flat ps)⟩, some ⟨.view, .ints (flat es)⟩]⟩)))))))))))) (.leaf .ret ⟨(topV :: topV :: topV :: topV :: .int .i64 (-1) :: topV :: topV :: topV :: topV :: topV :: topV :: topV :: topV :: topV :: topV :: topV :: topV :: topV :: topV :: topV :: topV :: topV :: topV :: topV :: topV :: topV :: topV :: topV :: topV :: topV :: topV :: topV :: topV :: topV :: topV :: topV :: topV :: topV :: topV :: topV :: topV :: topV :: topV :: topV :: topV :: topV :: topV :: topV :: topV :: topV :: topV :: topV :: topV :: topV :: topV :: topV :: topV :: topV :: topV :: topV :: topV :: topV :: topV :: []), [some ⟨.view, .ints (flat ps)⟩, some ⟨.view, .ints (flat es)⟩]⟩))))) (.leaf .ret ⟨(topV :: topV :: topV :: topV :: .int .i64 (-1) :: topV :: topV :: topV :: topV :: topV :: topV :: topV :: topV :: topV :: topV :: topV :: topV :: topV :: topV :: topV :: topV :: topV :: topV :: topV :: topV :: topV :: topV :: topV :: topV :: topV :: topV :: topV :: topV :: topV :: topV :: topV :: topV :: topV :: topV :: topV :: topV :: topV :: topV :: topV :: topV :: topV :: topV :: topV :: topV :: topV :: topV :: topV :: topV :: topV :: topV :: topV :: topV :: topV :: topV :: topV :: topV :: topV :: topV :: []), [some ⟨.view, .ints (flat ps)⟩, some ⟨.view, .ints (flat es)⟩]⟩)))) (.leaf (.exit 0) ⟨(topV :: topV :: topV :: topV :: topV :: .int .i64 (c) :: topV :: topV :: topV :: topV :: topV :: topV :: topV :: topV :: topV :: topV :: topV :: topV :: topV :: topV :: topV :: topV :: topV :: topV :: topV :: topV :: topV :: topV :: topV :: topV :: topV :: topV :: topV :: topV :: topV :: topV :: topV :: topV :: topV :: topV :: topV :: topV :: topV :: topV :: topV :: topV :: topV :: topV :: topV :: topV :: topV :: topV :: topV :: topV :: topV :: topV :: topV :: topV :: topV :: topV :: topV :: topV :: topV :: []), [some ⟨.view, .ints (flat ps)⟩, some ⟨.view, .ints (flat es)⟩]⟩) := by kernel_rfl
set_option maxRecDepth 100000 in
theorem nl_sTl : loopsOf c_sTl = [] := by kernel_rfl
def inv_sTl (ps es : List Pt) : Nat × Int → Prop := fun (i, c) => i ≤ es.length ∧ 0 ≤ c ∧ c ≤ 4000 * i
def me_sTl (ps es : List Pt) : Nat × Int → Nat := fun (i, c) => es.length - i
/-- A round of this loop. -/
def Round_sTl (ps es : List Pt) : Prop := ∀ xx : Nat × Int, inv_sTl ps es xx → (bodyL Try.prog ETl0 30 12 noL 1 c_sTl k_sTl 2 (s_sTl ps es xx)).ok (RoundEnd 2 (s_sTl ps es) (inv_sTl ps es) (me_sTl ps es) (re_sTl ps es) (rs_sTl ps es) xx) (fun _ _ => False)
def e_sTl (s : St) (k : Ex → St → Tree) : Option Tree := match Nat.beq s.tmps.length 63, pickL s.tmps [0, 1, 5, 6], s.mem with
  | true, [.slice (some ⟨0, 0, none⟩) n _, .slice (some ⟨1, 0, none⟩) m _, .int .i64 cc, .int .i64 ii], [some ⟨.view, .ints xs⟩, some ⟨.view, .ints ys⟩] => some (needs [ii = 0, cc = 0, xs.length = n * 2, ys.length = m * 2, n ≤ 20, m ≤ 20, allV (ptsA n xs) = true] (brT (evA n (ptsA m ys)) (k (.exit 0) ⟨(topV :: topV :: topV :: topV :: topV :: .int .i64 (0 + tlS (ptsA n xs) (ptsA m ys)) :: topV :: topV :: topV :: topV :: topV :: topV :: topV :: topV :: topV :: topV :: topV :: topV :: topV :: topV :: topV :: topV :: topV :: topV :: topV :: topV :: topV :: topV :: topV :: topV :: topV :: topV :: topV :: topV :: topV :: topV :: topV :: topV :: topV :: topV :: topV :: topV :: topV :: topV :: topV :: topV :: topV :: topV :: topV :: topV :: topV :: topV :: topV :: topV :: topV :: topV :: topV :: topV :: topV :: topV :: topV :: topV :: topV :: []), [some ⟨.view, .ints xs⟩, some ⟨.view, .ints ys⟩]⟩) (k .ret ⟨(topV :: topV :: topV :: topV :: .int .i64 (-1) :: topV :: topV :: topV :: topV :: topV :: topV :: topV :: topV :: topV :: topV :: topV :: topV :: topV :: topV :: topV :: topV :: topV :: topV :: topV :: topV :: topV :: topV :: topV :: topV :: topV :: topV :: topV :: topV :: topV :: topV :: topV :: topV :: topV :: topV :: topV :: topV :: topV :: topV :: topV :: topV :: topV :: topV :: topV :: topV :: topV :: topV :: topV :: topV :: topV :: topV :: topV :: topV :: topV :: topV :: topV :: topV :: topV :: topV :: []), [some ⟨.view, .ints xs⟩, some ⟨.view, .ints ys⟩]⟩)))
  | _, _, _ => none
set_option maxRecDepth 100000 in
theorem round_sTl (ps es : List Pt) (h : ps.length ≤ 20) (hm : es.length ≤ 20) (hv : allV ps = true) : Round_sTl ps es := by
  rintro ⟨i, c⟩ ⟨h1, h2, h3⟩
  rw [tr_sTl]
  have wl : IntKind.i64.wrap ((ps.length : Int) - 1) = ps.length - 1 := wr (by omega)
  simp only [brT_ok, Tree.ok, decide_eq_true_eq, decide_eq_false_iff_not, Int.toNat_natCast, Nat.zero_add, Nat.add_zero, flat_length, flat_get0, flat_get1, Bool.not_eq_true', Bool.not_eq_false', wl]
  refine ⟨fun hlt => ?_, fun hge => ?_⟩
  · rw [wsucc (n := es.length) (by omega) (by omega)]
    refine ⟨by omega, by omega, fun g0 => ⟨fun g1 => ?_, fun g1 => ⟨by omega, by omega, fun g2 => ⟨fun g3 => ?_, fun g3 => ?_⟩, fun g2 => ?_⟩⟩, fun g0 => ?_⟩
    · have e : evA ps.length (es.drop i) = false := by
        unfold evA
        rw [all_drop (by omega) (0, 0)]
        have : evB ps.length (es.getD i (0, 0)) = false := by
          rw [Bool.eq_false_iff]
          intro hh
          simp only [evB, Bool.and_eq_true, decide_eq_true_eq] at hh
          omega
        rw [this, Bool.false_and]
      refine ⟨by simp only [re_sTl, e, cond_false], [], ?_⟩
      simp only [rs_sTl, e, cond_false]
      repeat' (first | exact True.intro | exact rfl | exact fun _ => rfl | refine And.intro ?_ ?_)
    · have e : evA ps.length (es.drop i) = false := by
        unfold evA
        rw [all_drop (by omega) (0, 0)]
        have : evB ps.length (es.getD i (0, 0)) = false := by
          rw [Bool.eq_false_iff]
          intro hh
          simp only [evB, Bool.and_eq_true, decide_eq_true_eq] at hh
          omega
        rw [this, Bool.false_and]
      refine ⟨by simp only [re_sTl, e, cond_false], [], ?_⟩
      simp only [rs_sTl, e, cond_false]
      repeat' (first | exact True.intro | exact rfl | exact fun _ => rfl | refine And.intro ?_ ?_)
    · have a := allV_get hv (es.getD i (0, 0)).1.toNat
      have b := allV_get hv (es.getD i (0, 0)).2.toNat
      have bl := edL_bd hv (es.getD i (0, 0))
      have e : evA ps.length (es.drop i) = evA ps.length (es.drop (i + 1)) := by
        unfold evA
        rw [all_drop (by omega) (0, 0)]
        have : evB ps.length (es.getD i (0, 0)) = true := by simp only [evB, Bool.and_eq_true, decide_eq_true_eq]; omega
        rw [this, Bool.true_and]
      have st := tlS_step (ps := ps) (es := es) (i := i) (by omega)
      simp (disch := omega) only [wr]
      repeat refine And.intro (by first | omega | exact ⟨by omega, by omega⟩) ?_
      refine ⟨(i + 1, c + edL ps (es.getD i (0, 0))), [], ⟨by omega, by omega, by omega⟩, ?_, by simp only [re_sTl, e], by simp only [rs_sTl, e, st, Int.add_assoc], ?_⟩
      · show es.length - (i + 1) < es.length - i; omega
      · repeat' (first | exact True.intro | exact rfl | exact fun _ => rfl | refine And.intro ?_ ?_)
    · have e : evA ps.length (es.drop i) = false := by
        unfold evA
        rw [all_drop (by omega) (0, 0)]
        have : evB ps.length (es.getD i (0, 0)) = false := by
          rw [Bool.eq_false_iff]
          intro hh
          simp only [evB, Bool.and_eq_true, decide_eq_true_eq] at hh
          omega
        rw [this, Bool.false_and]
      refine ⟨by simp only [re_sTl, e, cond_false], [], ?_⟩
      simp only [rs_sTl, e, cond_false]
      repeat' (first | exact True.intro | exact rfl | exact fun _ => rfl | refine And.intro ?_ ?_)
    · have e : evA ps.length (es.drop i) = false := by
        unfold evA
        rw [all_drop (by omega) (0, 0)]
        have : evB ps.length (es.getD i (0, 0)) = false := by
          rw [Bool.eq_false_iff]
          intro hh
          simp only [evB, Bool.and_eq_true, decide_eq_true_eq] at hh
          omega
        rw [this, Bool.false_and]
      refine ⟨by simp only [re_sTl, e, cond_false], [], ?_⟩
      simp only [rs_sTl, e, cond_false]
      repeat' (first | exact True.intro | exact rfl | exact fun _ => rfl | refine And.intro ?_ ?_)
  · have e : evA ps.length (es.drop i) = true := all_end (by omega) _
    refine ⟨by simp only [re_sTl, e, cond_true], [], ?_⟩
    simp only [rs_sTl, e, cond_true, tlS_end (ps := ps) (es := es) (i := i) (by omega), Int.add_zero]
    repeat' (first | exact True.intro | exact rfl | exact fun _ => rfl | refine And.intro ?_ ?_)
set_option maxRecDepth 100000 in
theorem lg_sTl : LoopE Try.prog e_sTl c_sTl := by
  intro s k t F H hlt ht
  unfold e_sTl at hlt
  split at hlt
  rotate_left
  · cases hlt
  rename_i hlen hpick hmem
  obtain ⟨tmps, mem⟩ := s
  simp only at hlen hpick hmem
  subst hmem
  obtain rfl := Option.some.inj hlt
  obtain ⟨⟨rfl, rfl, h1, h2, h3, h4, h5, _⟩, ht2⟩ := needs_ok ht
  clear ht hlt
  obtain ⟨ps, rfl, rfl⟩ := even_flat h1
  obtain ⟨es, rfl, rfl⟩ := even_flat h2
  rw [ptsA_flat] at h5
  rw [ptsA_flat, ptsA_flat] at ht2
  refine ⟨_, _, pick2k ht2, loop_run mixed ETl0_ok (s_sTl ps es) (inv_sTl ps es) (me_sTl ps es) (re_sTl ps es) (rs_sTl ps es) k_sTl (fun _ => rfl) (noLoops nl_sTl) (round_sTl ps es h3 h4 h5) (x := (0, 0)) ⟨Nat.zero_le _, Int.le_refl _, Int.le_refl _⟩ (π := []) rfl ?_⟩
  refine ⟨rfl, rfl, ?_, wvs_spread' [0, 1, 5, 6] hlen rfl ?_⟩
  · repeat' (first | exact True.intro | exact rfl | exact wv_top _ _ | exact fun _ => rfl | assumption | exact Eq.symm (by assumption) | exact vI0 rfl | refine And.intro ?_ ?_)
  · rw [hpick]
    repeat' (first | exact True.intro | exact rfl | exact wv_top _ _ | exact fun _ => rfl | assumption | exact Eq.symm (by assumption) | exact vI0 rfl | refine And.intro ?_ ?_)
noncomputable def c_aEd : Code := ((loopsOf (codeOf Try.f89))[0]?).getD .skip
def k_aEd : Ex → List Nat := keeps [0, 7, 8, 9] [(0, [])] [4]
def s_aEd (ps es : List Pt) : Nat → St := fun i => ⟨[.slice (some ⟨0, 0, none⟩) ps.length ps.length, topV, topV, topV, topV, topV, topV, .slice (some ⟨1, 0, none⟩) es.length es.length, .int .i64 es.length, .int .i64 i, topV, topV, topV, topV, topV, topV, topV, topV, topV, topV, topV, topV, topV], [some ⟨.view, .ints (flat ps)⟩, some ⟨.view, .ints (flat es)⟩]⟩
def re_aEd (ps es : List Pt) : Nat → Ex := fun i => bif evA ps.length (es.drop i) then .exit 0 else .ret
def rs_aEd (ps es : List Pt) : Nat → St := fun i => bif evA ps.length (es.drop i) then ⟨[topV, topV, topV, topV, topV, topV, topV, topV, topV, topV, topV, topV, topV, topV, topV, topV, topV, topV, topV, topV, topV, topV, topV], [some ⟨.view, .ints (flat ps)⟩, some ⟨.view, .ints (flat es)⟩]⟩ else ⟨[topV, topV, topV, topV, .bool false, topV, topV, topV, topV, topV, topV, topV, topV, topV, topV, topV, topV, topV, topV, topV, topV, topV, topV], [some ⟨.view, .ints (flat ps)⟩, some ⟨.view, .ints (flat es)⟩]⟩
set_option maxRecDepth 100000 in
theorem tr_aEd (ps es : List Pt) (i : Nat) : bodyL Try.prog ETl0 30 12 noL 1 c_aEd k_aEd 2 (s_aEd ps es i) = brT (decide ((↑i : Int) < (↑es.length : Int))) (.need ((0 : Int) ≤ (↑i : Int) ∧ (↑i : Int) < (↑es.length : Int)) (.need ((0 : Nat) + (↑i : Int).toNat * (2 : Nat) + (2 : Nat) ≤ (flat es).length) (.need ((0 : Int) ≤ (0 : Int) ∧ (0 : Int) < (↑(2 : Nat) : Int)) (brT (decide ((flat es).getD (0 + (↑i : Int).toNat * 2) 0 < 0)) (.leaf .ret ⟨[topV, topV, topV, topV, .bool (false), topV, topV, topV, topV, topV, topV, topV, topV, topV, topV, topV, topV, topV, topV, topV, topV, topV, topV], [some ⟨.view, .ints (flat ps)⟩, some ⟨.view, .ints (flat es)⟩]⟩) (brT (decide ((↑ps.length : Int) ≤ (flat es).getD (0 + (↑i : Int).toNat * 2) 0)) (.leaf .ret ⟨[topV, topV, topV, topV, .bool (false), topV, topV, topV, topV, topV, topV, topV, topV, topV, topV, topV, topV, topV, topV, topV, topV, topV, topV], [some ⟨.view, .ints (flat ps)⟩, some ⟨.view, .ints (flat es)⟩]⟩) (.need ((0 : Int) ≤ IntKind.i64.wrap ((0 : Int) + (1 : Int)) ∧ IntKind.i64.wrap ((0 : Int) + (1 : Int)) < (↑(2 : Nat) : Int)) (brT (decide ((flat es).getD (0 + (↑i : Int).toNat * 2 + 1) 0 < 0)) (.leaf .ret ⟨[topV, topV, topV, topV, .bool (false), topV, topV, topV, topV, topV, topV, topV, topV, topV, topV, topV, topV, topV, topV, topV, topV, topV, topV], [some ⟨.view, .ints (flat ps)⟩, some ⟨.view, .ints (flat es)⟩]⟩) (brT (decide ((↑ps.length : Int) ≤ (flat es).getD (0 + (↑i : Int).toNat * 2 + 1) 0)) (.leaf .ret ⟨[topV, topV, topV, topV, .bool (false), topV, topV, topV, topV, topV, topV, topV, topV, topV, topV, topV, topV, topV, topV, topV, topV, topV, topV], [some ⟨.view, .ints (flat ps)⟩, some ⟨.view, .ints (flat es)⟩]⟩) (.leaf .normal ⟨[.slice (some ⟨0, 0, none⟩) (ps.length) (ps.length), topV, topV, topV, topV, topV, topV, .slice (some ⟨1, 0, none⟩) (es.length) (es.length), .int .i64 ((↑es.length : Int)), .int .i64 (IntKind.i64.wrap ((↑i : Int) + 1)), topV, topV, topV, topV, topV, topV, topV, topV, topV, topV, topV, topV, topV], [some ⟨.view, .ints (flat ps)⟩, some ⟨.view, .ints (flat es)⟩]⟩))))))))) (.leaf (.exit 0) ⟨[topV, topV, topV, topV, topV, topV, topV, topV, topV, topV, topV, topV, topV, topV, topV, topV, topV, topV, topV, topV, topV, topV, topV], [some ⟨.view, .ints (flat ps)⟩, some ⟨.view, .ints (flat es)⟩]⟩) := by kernel_rfl
set_option maxRecDepth 100000 in
theorem nl_aEd : loopsOf c_aEd = [] := by kernel_rfl
def inv_aEd (ps es : List Pt) : Nat → Prop := fun i => i ≤ es.length
def me_aEd (ps es : List Pt) : Nat → Nat := fun i => es.length - i
/-- A round of this loop. -/
def Round_aEd (ps es : List Pt) : Prop := ∀ xx : Nat, inv_aEd ps es xx → (bodyL Try.prog ETl0 30 12 noL 1 c_aEd k_aEd 2 (s_aEd ps es xx)).ok (RoundEnd 2 (s_aEd ps es) (inv_aEd ps es) (me_aEd ps es) (re_aEd ps es) (rs_aEd ps es) xx) (fun _ _ => False)
def e_aEd (s : St) (k : Ex → St → Tree) : Option Tree := match Nat.beq s.tmps.length 23, pickL s.tmps [0, 7, 8, 9], s.mem with
  | true, [.slice (some ⟨0, 0, none⟩) n _, .slice (some ⟨1, 0, none⟩) m _, .int .i64 l, .int .i64 ii], [some ⟨.view, .ints xs⟩, some ⟨.view, .ints ys⟩] => some (needs [ii = 0, l = m, xs.length = n * 2, ys.length = m * 2, n ≤ 20, m ≤ 20] (brT (evA n (ptsA m ys)) (k (.exit 0) ⟨[topV, topV, topV, topV, topV, topV, topV, topV, topV, topV, topV, topV, topV, topV, topV, topV, topV, topV, topV, topV, topV, topV, topV], [some ⟨.view, .ints xs⟩, some ⟨.view, .ints ys⟩]⟩) (k .ret ⟨[topV, topV, topV, topV, .bool false, topV, topV, topV, topV, topV, topV, topV, topV, topV, topV, topV, topV, topV, topV, topV, topV, topV, topV], [some ⟨.view, .ints xs⟩, some ⟨.view, .ints ys⟩]⟩)))
  | _, _, _ => none
set_option maxRecDepth 100000 in
theorem round_aEd (ps es : List Pt) (h : ps.length ≤ 20) (hm : es.length ≤ 20) : Round_aEd ps es := by
  intro i h1
  have h1 : i ≤ es.length := h1
  rw [tr_aEd]
  have wl : IntKind.i64.wrap ((0 : Int) + 1) = 1 := by decide
  simp only [brT_ok, Tree.ok, decide_eq_true_eq, decide_eq_false_iff_not, Int.toNat_natCast, Nat.zero_add, Nat.add_zero, flat_length, flat_get0, flat_get1, Bool.not_eq_true', Bool.not_eq_false', wl]
  refine ⟨fun hlt => ?_, fun hge => ?_⟩
  · rw [wsucc (n := es.length) (by omega) (by omega)]
    refine ⟨by omega, by omega, by omega, fun g0 => ?_, fun g0 => ⟨fun g1 => ?_, fun g1 => ⟨by omega, fun g2 => ?_, fun g2 => ⟨fun g3 => ?_, fun g3 => ?_⟩⟩⟩⟩
    · have e : evA ps.length (es.drop i) = false := by
        unfold evA
        rw [all_drop (by omega) (0, 0)]
        have : evB ps.length (es.getD i (0, 0)) = false := by
          rw [Bool.eq_false_iff]
          intro hh
          simp only [evB, Bool.and_eq_true, decide_eq_true_eq] at hh
          omega
        rw [this, Bool.false_and]
      refine ⟨by simp only [re_aEd, e, cond_false], [], ?_⟩
      simp only [rs_aEd, e, cond_false]
      repeat' (first | exact True.intro | exact rfl | exact fun _ => rfl | refine And.intro ?_ ?_)
    · have e : evA ps.length (es.drop i) = false := by
        unfold evA
        rw [all_drop (by omega) (0, 0)]
        have : evB ps.length (es.getD i (0, 0)) = false := by
          rw [Bool.eq_false_iff]
          intro hh
          simp only [evB, Bool.and_eq_true, decide_eq_true_eq] at hh
          omega
        rw [this, Bool.false_and]
      refine ⟨by simp only [re_aEd, e, cond_false], [], ?_⟩
      simp only [rs_aEd, e, cond_false]
      repeat' (first | exact True.intro | exact rfl | exact fun _ => rfl | refine And.intro ?_ ?_)
    · have e : evA ps.length (es.drop i) = false := by
        unfold evA
        rw [all_drop (by omega) (0, 0)]
        have : evB ps.length (es.getD i (0, 0)) = false := by
          rw [Bool.eq_false_iff]
          intro hh
          simp only [evB, Bool.and_eq_true, decide_eq_true_eq] at hh
          omega
        rw [this, Bool.false_and]
      refine ⟨by simp only [re_aEd, e, cond_false], [], ?_⟩
      simp only [rs_aEd, e, cond_false]
      repeat' (first | exact True.intro | exact rfl | exact fun _ => rfl | refine And.intro ?_ ?_)
    · have e : evA ps.length (es.drop i) = false := by
        unfold evA
        rw [all_drop (by omega) (0, 0)]
        have : evB ps.length (es.getD i (0, 0)) = false := by
          rw [Bool.eq_false_iff]
          intro hh
          simp only [evB, Bool.and_eq_true, decide_eq_true_eq] at hh
          omega
        rw [this, Bool.false_and]
      refine ⟨by simp only [re_aEd, e, cond_false], [], ?_⟩
      simp only [rs_aEd, e, cond_false]
      repeat' (first | exact True.intro | exact rfl | exact fun _ => rfl | refine And.intro ?_ ?_)
    · have e : evA ps.length (es.drop i) = evA ps.length (es.drop (i + 1)) := by
        unfold evA
        rw [all_drop (by omega) (0, 0)]
        have : evB ps.length (es.getD i (0, 0)) = true := by simp only [evB, Bool.and_eq_true, decide_eq_true_eq]; omega
        rw [this, Bool.true_and]
      refine ⟨i + 1, [], ?_, ?_, by simp only [re_aEd, e], by simp only [rs_aEd, e], ?_⟩
      · show i + 1 ≤ es.length; omega
      · show es.length - (i + 1) < es.length - i; omega
      · repeat' (first | exact True.intro | exact rfl | exact fun _ => rfl | refine And.intro ?_ ?_)
  · have e : evA ps.length (es.drop i) = true := all_end (by omega) _
    refine ⟨by simp only [re_aEd, e, cond_true], [], ?_⟩
    simp only [rs_aEd, e, cond_true]
    repeat' (first | exact True.intro | exact rfl | exact fun _ => rfl | refine And.intro ?_ ?_)
set_option maxRecDepth 100000 in
theorem lg_aEd : LoopE Try.prog e_aEd c_aEd := by
  intro s k t F H hlt ht
  unfold e_aEd at hlt
  split at hlt
  rotate_left
  · cases hlt
  rename_i hlen hpick hmem
  obtain ⟨tmps, mem⟩ := s
  simp only at hlen hpick hmem
  subst hmem
  obtain rfl := Option.some.inj hlt
  obtain ⟨⟨rfl, rfl, h1, h2, h3, h4, _⟩, ht2⟩ := needs_ok ht
  clear ht hlt
  obtain ⟨ps, rfl, rfl⟩ := even_flat h1
  obtain ⟨es, rfl, rfl⟩ := even_flat h2
  rw [ptsA_flat] at ht2
  refine ⟨_, _, pick2k ht2, loop_run mixed ETl0_ok (s_aEd ps es) (inv_aEd ps es) (me_aEd ps es) (re_aEd ps es) (rs_aEd ps es) k_aEd (fun _ => rfl) (noLoops nl_aEd) (round_aEd ps es h3 h4) (x := 0) (Nat.zero_le _) (π := []) rfl ?_⟩
  refine ⟨rfl, rfl, ?_, wvs_spread' [0, 7, 8, 9] hlen rfl ?_⟩
  · repeat' (first | exact True.intro | exact rfl | exact wv_top _ _ | exact fun _ => rfl | assumption | exact Eq.symm (by assumption) | exact vI0 rfl | refine And.intro ?_ ?_)
  · rw [hpick]
    repeat' (first | exact True.intro | exact rfl | exact wv_top _ _ | exact fun _ => rfl | assumption | exact Eq.symm (by assumption) | exact vI0 rfl | refine And.intro ?_ ?_)
end Go.Proofs.Ytolodncpegajkaa
namespace Go.Proofs.Ytolodncpegajkaa
set_option linter.all false
open Go.RowKit
theorem Lr_eqPr {fn : Func} (hf : Try.prog.funcs[19]? = some fn) : LoopsGood Try.prog (lt1 e_eqPr) 0 (codeOf fn) := by
  obtain rfl := fn_is Try.func19 hf
  exact lt1_good lg_eqPr
theorem Lr_sTl {fn : Func} (hf : Try.prog.funcs[43]? = some fn) : LoopsGood Try.prog (lt1 e_sTl) 0 (codeOf fn) := by
  obtain rfl := fn_is Try.func43 hf
  exact lt1_good lg_sTl
theorem Lr_aEd {fn : Func} (hf : Try.prog.funcs[89]? = some fn) : LoopsGood Try.prog (lt1 e_aEd) 0 (codeOf fn) := by
  obtain rfl := fn_is Try.func89 hf
  exact lt1_good lg_aEd
def LTl : FuncId → LT := fun f => match f with
  | 19 => lt1 e_eqPr
  | 43 => lt1 e_sTl
  | 89 => lt1 e_aEd
  | _ => noL
def ETl1 : Env := mkE TTl (fun _ _ => none) LTl
theorem ETl1_ok : EnvOk Try.prog ETl1 := mkEOk TTl_ok (fun _ _ _ _ _ h => (by cases h)) (by
  intro f fn hf
  unfold LTl
  split
  all_goals first | with_reducible exact Lr_toPr hf | with_reducible exact Lr_eqPr hf | with_reducible exact Lr_sTl hf | with_reducible exact Lr_aEd hf | exact noL_good)
set_option maxRecDepth 100000 in
theorem tr_sTlF (ps es : List Pt) : bodyV Try.prog ETl1 30 12 43 [.row ps.length (.ints (flat ps)), .row es.length (.ints (flat es))] = .need (ps.length * (2 : Nat) ≤ (List.drop (0 : Nat) (flat ps)).length) (.need (ps.length ≤ (1000000000 : Nat)) (brT (!okL (ptsA ps.length (List.drop 0 (flat ps)))) (.fin (.int .i64 (-1)) []) (brT (decide (20 < (↑es.length : Int))) (.fin (.int .i64 (-1)) []) (.need ((0 : Int) = (0 : Int)) (.need ((0 : Int) = (0 : Int)) (.need ((flat ps).length = ps.length * (2 : Nat)) (.need ((flat es).length = es.length * (2 : Nat)) (.need (ps.length ≤ (20 : Nat)) (.need (es.length ≤ (20 : Nat)) (.need (allV (ptsA ps.length (flat ps)) = true) (brT (evA ps.length (ptsA es.length (flat es))) (.fin (.int .i64 (0 + tlS (ptsA ps.length (flat ps)) (ptsA es.length (flat es)))) []) (.fin (.int .i64 (-1)) [])))))))))))) := by kernel_rfl
set_option maxRecDepth 100000 in
theorem tr_aEdF (ps es : List Pt) : bodyV Try.prog ETl1 30 12 89 [.row ps.length (.ints (flat ps)), .row es.length (.ints (flat es))] = .need ((0 : Int) = (0 : Int)) (.need ((↑es.length : Int) = (↑es.length : Int)) (.need ((flat ps).length = ps.length * (2 : Nat)) (.need ((flat es).length = es.length * (2 : Nat)) (.need (ps.length ≤ (20 : Nat)) (.need (es.length ≤ (20 : Nat)) (brT (evA ps.length (ptsA es.length (flat es))) (.fin (.bool (true)) []) (.fin (.bool (false)) []))))))) := by kernel_rfl
/-- What TotalLength answers. -/
def tlV (ps es : List Pt) : Int := bif okL ps && decide (es.length ≤ 20) && evA ps.length es then tlS ps es else -1
theorem res_sTl (ps es : List Pt) (h : Big ps) : Res Try.prog 43 [.row ps.length (.ints (flat ps)), .row es.length (.ints (flat es))] (iv (tlV ps es)) := by
  refine bodyV_res mixed ETl1_ok (m := 30) (n := 12) rfl ?_
  rw [tr_sTlF]
  unfold Big at h
  simp only [List.drop_zero, ptsA_flat, flat_length, Int.zero_add]
  unfold tlV
  rcases hk : okL ps with _ | _
  · simp [brT_ok, Tree.ok, h]
  have ho : allV ps = true ∧ ps.length ≤ 20 := by simpa [okL] using hk
  by_cases hl : es.length ≤ 20
  · have hl2 : ¬ (20 : Int) < es.length := by omega
    rw [decide_eq_true hl, decide_eq_false hl2]
    cases evA ps.length es <;> simp [brT, Tree.ok, h, ho, hl]
  · have hl2 : (20 : Int) < es.length := by omega
    rw [decide_eq_false hl, decide_eq_true hl2]
    simp [brT, Tree.ok, h]
theorem res_aEd (ps es : List Pt) (h : ps.length ≤ 20) (h2 : es.length ≤ 20) : Res Try.prog 89 [.row ps.length (.ints (flat ps)), .row es.length (.ints (flat es))] (.bool (evA ps.length es)) := by
  refine bodyV_res mixed ETl1_ok (m := 30) (n := 12) rfl ?_
  rw [tr_aEdF]
  simp only [List.drop_zero, ptsA_flat, flat_length]
  cases evA ps.length es <;> simp [brT, Tree.ok, h, h2]
def pAe : List DArg → Option (Value × List Prop)
  | [.row n (.ints xs), .row m (.ints ys)] => some (.bool (evA n (ptsA m ys)), [n * 2 ≤ xs.length, m * 2 ≤ ys.length, n ≤ 20, m ≤ 20])
  | _ => none
theorem pAe_ok {ds : List DArg} {v : Value} {C : List Prop} (h : pAe ds = some (v, C)) (hC : AllP C) : Res Try.prog 89 ds v := by
  unfold pAe at h
  split at h
  · rename_i n xs m ys
    obtain ⟨rfl, rfl⟩ : _ ∧ _ := by simpa using h
    obtain ⟨c1, c2, c3, c4, _⟩ := hC
    obtain ⟨_, h2⟩ := ptsA_spec c1
    obtain ⟨_, h3⟩ := ptsA_spec c2
    have h0 := res_aEd (ptsA n xs) (ptsA m ys) (by omega) (by omega)
    have h1 := res_pts1 (pre := []) (post := [_]) c1 (res_pts1 (pre := [_]) (post := []) c2 h0)
    rw [h2] at h1
    exact h1
  · cases h
def TTl2 : Tab := fun f ds => match f with
  | 89 => pAe ds
  | f => TTl f ds
theorem TTl2_ok : TabOk Try.prog TTl2 := by
  intro f ds v C h hC
  unfold TTl2 at h
  (try split at h)
  all_goals first | with_reducible exact pAe_ok h hC | exact TTl_ok _ _ _ _ h hC
def ETl2 : Env := mkE TTl2 (fun _ _ => none) (fun _ => noL)
theorem ETl2_ok : EnvOk Try.prog ETl2 := mkEOk TTl2_ok (fun _ _ _ _ _ h => (by cases h)) (fun _ _ _ => noL_good)
noncomputable def c_iTl : Code := ((loopsOf (codeOf Try.f42))[0]?).getD .skip
def k_iTl : Ex → List Nat := keeps [0, 5, 22, 23, 24] [(0, [5])] [4]
def s_iTl (ps es : List Pt) : Nat × Int → St := fun (i, c) => ⟨(.slice (some ⟨0, 0, none⟩) ps.length ps.length :: topV :: topV :: topV :: topV :: .int .i64 c :: topV :: topV :: topV :: topV :: topV :: topV :: topV :: topV :: topV :: topV :: topV :: topV :: topV :: topV :: topV :: topV :: .slice (some ⟨1, 0, none⟩) es.length es.length :: .int .i64 es.length :: .int .i64 i :: topV :: topV :: topV :: topV :: topV :: topV :: topV :: topV :: topV :: topV :: []), [some ⟨.view, .ints (flat ps)⟩, some ⟨.view, .ints (flat es)⟩]⟩
def re_iTl : Nat × Int → Ex := fun _ => .exit 0
def rs_iTl (ps es : List Pt) : Nat × Int → St := fun (i, c) => ⟨(topV :: topV :: topV :: topV :: topV :: .int .i64 (c + tlS ps (es.drop i)) :: topV :: topV :: topV :: topV :: topV :: topV :: topV :: topV :: topV :: topV :: topV :: topV :: topV :: topV :: topV :: topV :: topV :: topV :: topV :: topV :: topV :: topV :: topV :: topV :: topV :: topV :: topV :: topV :: topV :: []), [some ⟨.view, .ints (flat ps)⟩, some ⟨.view, .ints (flat es)⟩]⟩
set_option maxRecDepth 100000 in
theorem tr_iTl (ps es : List Pt) (i : Nat) (c : Int) : bodyL Try.prog ETl2 30 12 noL 1 c_iTl k_iTl 2 (s_iTl ps es (i, c)) = brT (decide ((↑i : Int) < (↑es.length : Int))) (.need ((0 : Int) ≤ (↑i : Int) ∧ (↑i : Int) < (↑es.length : Int)) (.need ((0 : Nat) + (↑i : Int).toNat * (2 : Nat) + (2 : Nat) ≤ (flat es).length) (.need ((0 : Int) ≤ (flat es).getD ((0 : Nat) + (↑i : Int).toNat * (2 : Nat)) (0 : Int) ∧ (flat es).getD ((0 : Nat) + (↑i : Int).toNat * (2 : Nat)) (0 : Int) < (↑ps.length : Int)) (.need ((0 : Nat) + ((flat es).getD ((0 : Nat) + (↑i : Int).toNat * (2 : Nat)) (0 : Int)).toNat * (2 : Nat) + (2 : Nat) ≤ (flat ps).length) (.need ((0 : Int) ≤ (flat es).getD ((0 : Nat) + (↑i : Int).toNat * (2 : Nat) + (1 : Nat)) (0 : Int) ∧ (flat es).getD ((0 : Nat) + (↑i : Int).toNat * (2 : Nat) + (1 : Nat)) (0 : Int) < (↑ps.length : Int)) (.need ((0 : Nat) + ((flat es).getD ((0 : Nat) + (↑i : Int).toNat * (2 : Nat) + (1 : Nat)) (0 : Int)).toNat * (2 : Nat) + (2 : Nat) ≤ (flat ps).length) (.leaf .normal ⟨(.slice (some ⟨0, 0, none⟩) (ps.length) (ps.length) :: topV :: topV :: topV :: topV :: .int .i64 (IntKind.i64.wrap (c + mhR ((flat ps).getD (0 + ((flat es).getD (0 + (↑i : Int).toNat * 2) 0).toNat * 2) 0) ((flat ps).getD (0 + ((flat es).getD (0 + (↑i : Int).toNat * 2) 0).toNat * 2 + 1) 0) ((flat ps).getD (0 + ((flat es).getD (0 + (↑i : Int).toNat * 2 + 1) 0).toNat * 2) 0) ((flat ps).getD (0 + ((flat es).getD (0 + (↑i : Int).toNat * 2 + 1) 0).toNat * 2 + 1) 0))) :: topV :: topV :: topV :: topV :: topV :: topV :: topV :: topV :: topV :: topV :: topV :: topV :: topV :: topV :: topV :: topV :: .slice (some ⟨1, 0, none⟩) (es.length) (es.length) :: .int .i64 ((↑es.length : Int)) :: .int .i64 (IntKind.i64.wrap ((↑i : Int) + 1)) :: topV :: topV :: topV :: topV :: topV :: topV :: topV :: topV :: topV :: topV :: []), [some ⟨.view, .ints (flat ps)⟩, some ⟨.view, .ints (flat es)⟩]⟩))))))) (.leaf (.exit 0) ⟨(topV :: topV :: topV :: topV :: topV :: .int .i64 (c) :: topV :: topV :: topV :: topV :: topV :: topV :: topV :: topV :: topV :: topV :: topV :: topV :: topV :: topV :: topV :: topV :: topV :: topV :: topV :: topV :: topV :: topV :: topV :: topV :: topV :: topV :: topV :: topV :: topV :: []), [some ⟨.view, .ints (flat ps)⟩, some ⟨.view, .ints (flat es)⟩]⟩) := by kernel_rfl
set_option maxRecDepth 100000 in
theorem nl_iTl : loopsOf c_iTl = [] := by kernel_rfl
def inv_iTl (ps es : List Pt) : Nat × Int → Prop := fun (i, c) => i ≤ es.length ∧ 0 ≤ c ∧ c ≤ 4000 * i
def me_iTl (ps es : List Pt) : Nat × Int → Nat := fun (i, c) => es.length - i
/-- A round of this loop. -/
def Round_iTl (ps es : List Pt) : Prop := ∀ xx : Nat × Int, inv_iTl ps es xx → (bodyL Try.prog ETl2 30 12 noL 1 c_iTl k_iTl 2 (s_iTl ps es xx)).ok (RoundEnd 2 (s_iTl ps es) (inv_iTl ps es) (me_iTl ps es) re_iTl (rs_iTl ps es) xx) (fun _ _ => False)
def e_iTl (s : St) (k : Ex → St → Tree) : Option Tree := match Nat.beq s.tmps.length 35, pickL s.tmps [0, 5, 22, 23, 24], s.mem with
  | true, [.slice (some ⟨0, 0, none⟩) n _, .int .i64 cc, .slice (some ⟨1, 0, none⟩) m _, .int .i64 l, .int .i64 ii], [some ⟨.view, .ints xs⟩, some ⟨.view, .ints ys⟩] => some (needs [ii = 0, cc = 0, l = m, xs.length = n * 2, ys.length = m * 2, n ≤ 20, m ≤ 20, allV (ptsA n xs) = true, evA n (ptsA m ys) = true] (k (.exit 0) ⟨(topV :: topV :: topV :: topV :: topV :: .int .i64 (0 + tlS (ptsA n xs) (ptsA m ys)) :: topV :: topV :: topV :: topV :: topV :: topV :: topV :: topV :: topV :: topV :: topV :: topV :: topV :: topV :: topV :: topV :: topV :: topV :: topV :: topV :: topV :: topV :: topV :: topV :: topV :: topV :: topV :: topV :: topV :: []), [some ⟨.view, .ints xs⟩, some ⟨.view, .ints ys⟩]⟩))
  | _, _, _ => none
theorem mhR_edL {ps : List Pt} (hv : allV ps = true) (e : Pt) : mhR (ps.getD e.1.toNat (0, 0)).1 (ps.getD e.1.toNat (0, 0)).2 (ps.getD e.2.toNat (0, 0)).1 (ps.getD e.2.toNat (0, 0)).2 = edL ps e := by
  have a := allV_get hv e.1.toNat
  have b := allV_get hv e.2.toNat
  have p1 : ptB (ps.getD e.1.toNat (0, 0)).1 (ps.getD e.1.toNat (0, 0)).2 = true := by simpa [ptB, and_assoc] using a
  have p2 : ptB (ps.getD e.2.toNat (0, 0)).1 (ps.getD e.2.toNat (0, 0)).2 = true := by simpa [ptB, and_assoc] using b
  unfold mhR
  rw [p1, p2]
  rfl
set_option maxRecDepth 100000 in
theorem round_iTl (ps es : List Pt) (h : ps.length ≤ 20) (hm : es.length ≤ 20) (hv : allV ps = true) (hA : evA ps.length es = true) : Round_iTl ps es := by
  rintro ⟨i, c⟩ ⟨h1, h2, h3⟩
  rw [tr_iTl]
  simp only [brT_ok, Tree.ok, decide_eq_true_eq, decide_eq_false_iff_not, Int.toNat_natCast, Nat.zero_add, Nat.add_zero, flat_length, flat_get0, flat_get1, mhR_edL hv]
  refine ⟨fun hlt => ?_, fun hge => ?_⟩
  · rw [wsucc (n := es.length) (by omega) (by omega)]
    have bl := edL_bd hv (es.getD i (0, 0))
    have w : IntKind.i64.wrap (c + edL ps (es.getD i (0, 0))) = c + edL ps (es.getD i (0, 0)) := wr (by omega)
    have hi : i < es.length := by omega
    have ve : evB ps.length (es.getD i (0, 0)) = true := List.all_eq_true.1 hA _ (by simp [hi])
    simp only [evB, Bool.and_eq_true, decide_eq_true_eq] at ve
    have st := tlS_step (ps := ps) (es := es) (i := i) (by omega)
    rw [w]
    repeat refine And.intro (by first | omega | exact ⟨by omega, by omega⟩) ?_
    refine ⟨(i + 1, c + edL ps (es.getD i (0, 0))), [], ⟨by omega, by omega, by omega⟩, ?_, rfl, by simp only [rs_iTl, st, Int.add_assoc], ?_⟩
    · show es.length - (i + 1) < es.length - i; omega
    · repeat' (first | exact True.intro | exact rfl | exact fun _ => rfl | refine And.intro ?_ ?_)
  · refine ⟨rfl, [], ?_⟩
    simp only [rs_iTl, tlS_end (ps := ps) (es := es) (i := i) (by omega), Int.add_zero]
    repeat' (first | exact True.intro | exact rfl | exact fun _ => rfl | refine And.intro ?_ ?_)
set_option maxRecDepth 100000 in
theorem lg_iTl : LoopE Try.prog e_iTl c_iTl := by
  intro s k t F H hlt ht
  unfold e_iTl at hlt
  split at hlt
  rotate_left
  · cases hlt
  rename_i hlen hpick hmem
  obtain ⟨tmps, mem⟩ := s
  simp only at hlen hpick hmem
  subst hmem
  obtain rfl := Option.some.inj hlt
  obtain ⟨⟨rfl, rfl, rfl, h1, h2, h3, h4, h5, h6, _⟩, ht2⟩ := needs_ok ht
  clear ht hlt
  obtain ⟨ps, rfl, rfl⟩ := even_flat h1
  obtain ⟨es, rfl, rfl⟩ := even_flat h2
  rw [ptsA_flat] at h5 h6
  rw [ptsA_flat, ptsA_flat] at ht2
  refine ⟨_, _, ht2, loop_run mixed ETl2_ok (s_iTl ps es) (inv_iTl ps es) (me_iTl ps es) re_iTl (rs_iTl ps es) k_iTl (fun _ => rfl) (noLoops nl_iTl) (round_iTl ps es h3 h4 h5 h6) (x := (0, 0)) ⟨Nat.zero_le _, Int.le_refl _, Int.le_refl _⟩ (π := []) rfl ?_⟩
  refine ⟨rfl, rfl, ?_, wvs_spread' [0, 5, 22, 23, 24] hlen rfl ?_⟩
  · repeat' (first | exact True.intro | exact rfl | exact wv_top _ _ | exact fun _ => rfl | assumption | exact Eq.symm (by assumption) | exact vI0 rfl | refine And.intro ?_ ?_)
  · rw [hpick]
    repeat' (first | exact True.intro | exact rfl | exact wv_top _ _ | exact fun _ => rfl | assumption | exact Eq.symm (by assumption) | exact vI0 rfl | refine And.intro ?_ ?_)
theorem Lr_iTl {fn : Func} (hf : Try.prog.funcs[42]? = some fn) : LoopsGood Try.prog (lt1 e_iTl) 0 (codeOf fn) := by
  obtain rfl := fn_is Try.func42 hf
  exact lt1_good lg_iTl
def LTl2 : FuncId → LT := fun f => match f with
  | 42 => lt1 e_iTl
  | _ => noL
def ETl3 : Env := mkE TTl2 (fun _ _ => none) LTl2
theorem ETl3_ok : EnvOk Try.prog ETl3 := mkEOk TTl2_ok (fun _ _ _ _ _ h => (by cases h)) (by
  intro f fn hf
  unfold LTl2
  split
  all_goals first | with_reducible exact Lr_iTl hf | exact noL_good)
set_option maxRecDepth 100000 in
theorem tr_iTlF (ps es : List Pt) : bodyV Try.prog ETl3 30 12 42 [.row ps.length (.ints (flat ps)), .row es.length (.ints (flat es))] = brT (decide ((↑ps.length : Int) ≤ 20)) (.need (ps.length * (2 : Nat) ≤ (List.drop (0 : Nat) (flat ps)).length) (.need (ps.length ≤ (1000000000 : Nat)) (brT (!allV (ptsA ps.length (List.drop 0 (flat ps)))) (.fin (.int .i64 (-1)) []) (brT (decide (20 < (↑es.length : Int))) (.fin (.int .i64 (-1)) []) (.need (ps.length * (2 : Nat) ≤ (List.drop (0 : Nat) (flat ps)).length) (.need (es.length * (2 : Nat) ≤ (List.drop (0 : Nat) (flat es)).length) (.need (ps.length ≤ (20 : Nat)) (.need (es.length ≤ (20 : Nat)) (brT (!evA ps.length (ptsA es.length (List.drop 0 (flat es)))) (.fin (.int .i64 (-1)) []) (.need ((0 : Int) = (0 : Int)) (.need ((0 : Int) = (0 : Int)) (.need ((↑es.length : Int) = (↑es.length : Int)) (.need ((flat ps).length = ps.length * (2 : Nat)) (.need ((flat es).length = es.length * (2 : Nat)) (.need (ps.length ≤ (20 : Nat)) (.need (es.length ≤ (20 : Nat)) (.need (allV (ptsA ps.length (flat ps)) = true) (.need (evA ps.length (ptsA es.length (flat es)) = true) (.fin (.int .i64 (0 + tlS (ptsA ps.length (flat ps)) (ptsA es.length (flat es)))) []))))))))))))))))))) (.fin (.int .i64 (-1)) []) := by kernel_rfl
theorem res_iTl (ps es : List Pt) (h : Big ps) : Res Try.prog 42 [.row ps.length (.ints (flat ps)), .row es.length (.ints (flat es))] (iv (tlV ps es)) := by
  refine bodyV_res mixed ETl3_ok (m := 30) (n := 12) rfl ?_
  rw [tr_iTlF]
  unfold Big at h
  simp only [List.drop_zero, ptsA_flat, flat_length, Int.zero_add]
  unfold tlV okL
  by_cases hp : ps.length ≤ 20
  · have hp2 : (ps.length : Int) ≤ 20 := by omega
    rw [decide_eq_true hp, decide_eq_true hp2]
    rcases hk : allV ps with _ | _
    · simp [brT, Tree.ok, h]
    by_cases hl : es.length ≤ 20
    · have hl2 : ¬ (20 : Int) < es.length := by omega
      rw [decide_eq_true hl, decide_eq_false hl2]
      rcases hA : evA ps.length es with _ | _ <;> simp [brT, Tree.ok, h, hp, hl]
    · have hl2 : (20 : Int) < es.length := by omega
      rw [decide_eq_false hl, decide_eq_true hl2]
      simp [brT, Tree.ok, h]
  · have hp2 : ¬ (ps.length : Int) ≤ 20 := by omega
    rw [decide_eq_false hp, decide_eq_false hp2]
    simp [brT, Tree.ok]
def pTl : List DArg → Option (Value × List Prop)
  | [.row n (.ints xs), .row m (.ints ys)] => some (iv (tlV (ptsA n xs) (ptsA m ys)), [n * 2 ≤ xs.length, m * 2 ≤ ys.length, n ≤ 1000000000])
  | _ => none
theorem pTls_ok {ds : List DArg} {v : Value} {C : List Prop} (h : pTl ds = some (v, C)) (hC : AllP C) : Res Try.prog 43 ds v := by
  unfold pTl at h
  split at h
  · rename_i n xs m ys
    obtain ⟨rfl, rfl⟩ : _ ∧ _ := by simpa using h
    obtain ⟨c1, c2, c3, _⟩ := hC
    obtain ⟨_, h2⟩ := ptsA_spec c1
    exact res_pts1 (pre := []) (post := [_]) c1 (res_pts1 (pre := [_]) (post := []) c2 (res_sTl _ _ (by unfold Big; rw [h2]; exact c3)))
  · cases h
theorem pTli_ok {ds : List DArg} {v : Value} {C : List Prop} (h : pTl ds = some (v, C)) (hC : AllP C) : Res Try.prog 42 ds v := by
  unfold pTl at h
  split at h
  · rename_i n xs m ys
    obtain ⟨rfl, rfl⟩ : _ ∧ _ := by simpa using h
    obtain ⟨c1, c2, c3, _⟩ := hC
    obtain ⟨_, h2⟩ := ptsA_spec c1
    exact res_pts1 (pre := []) (post := [_]) c1 (res_pts1 (pre := [_]) (post := []) c2 (res_iTl _ _ (by unfold Big; rw [h2]; exact c3)))
  · cases h
end Go.Proofs.Ytolodncpegajkaa
namespace Go.Proofs.Ytolodncpegajkaa
set_option linter.all false
open Go.RowKit
theorem loop_det2 {P : Program} {c : Code} {N M : Nat} {X : Type} (St_of : X → St) (Inv : X → Prop) (μ : X → Nat) (re : X → Ex) (rs : X → St) (keep : Ex → List Nat) (hM : ∀ x, (St_of x).mem.length ≤ M)
    (h : ∀ x, Inv x → ∃ e' s', Det P c (St_of x) e' s' ∧ match e' with
      | .normal => ∃ x' π, Inv x' ∧ μ x' < μ x ∧ re x' = re x ∧ rs x' = rs x ∧ WS N π (cutS M (keep .normal) s') (St_of x')
      | e => e = re x ∧ ∃ π, WS N π (cutS M (keep e) s') (rs x))
    {x : X} (hx : Inv x) {s : St} {π : List (Option Nat)} (hN : s.mem.length = N) (hs : WS N π s (St_of x)) : Det P (.loop c) s (re x) (rs x) := by
  intro w0 a w hc
  have hρ := con_dom hc
  rw [hN] at hρ
  have hρ' : ∀ {x' π' s'}, WS N π' s' (St_of x') → ∀ n, (St_of x').mem.length ≤ n → w0.ρ0 n = none := fun h n hn => hρ n (Nat.le_trans (Nat.le_of_ble_eq_true h.1) hn)
  refine wpIn_loop_ghost (fun n a w => ∃ x', Inv x' ∧ μ x' = n ∧ re x' = re x ∧ rs x' = rs x ∧ (∀ n, (St_of x').mem.length ≤ n → w0.ρ0 n = none) ∧ Con w0 (St_of x').fs a w) (μ x) ⟨x, hx, rfl, rfl, rfl, hρ' hs, weak_con hs hρ hc⟩ ?_
  rintro n a w ⟨x', hI, rfl, hre, hrs, hdom, hcc⟩
  obtain ⟨e', s', hd, hend⟩ := h x' hI
  have hdom2 : ∀ n, M ≤ n → w0.ρ0 n = none := fun n hn => hdom n (Nat.le_trans (hM x') hn)
  refine wpIn_mono (hd w0 a w hcc) ?_
  rintro e a' w' ⟨rfl, hcc'⟩
  cases e' with
  | normal =>
    obtain ⟨x2, π2, g1, g2, g3, g4, g5⟩ := hend
    exact ⟨_, g2, x2, g1, rfl, g3.trans hre, g4.trans hrs, hρ' g5, weak_con g5 hρ (cut_con hdom2 hcc')⟩
  | exit id =>
    obtain ⟨g1, π2, g2⟩ := hend
    exact ⟨by rw [← hre, ← g1], by rw [← hrs]; exact weak_con g2 hρ (cut_con hdom2 hcc')⟩
  | ret =>
    obtain ⟨g1, π2, g2⟩ := hend
    exact ⟨by rw [← hre, ← g1], by rw [← hrs]; exact weak_con g2 hρ (cut_con hdom2 hcc')⟩
theorem loop_run2 {P : Program} (hm : P.follows .mixedOrders = true) {E : Env} (hE : EnvOk P E) {m n : Nat} {lt : LT} {j : Nat} {c : Code} {N : Nat} {X : Type} (St_of : X → St) (Inv : X → Prop) (μ : X → Nat) (re : X → Ex) (rs : X → St) (keep : Ex → List Nat) {M : Nat} (hM : ∀ x, Nat.ble (St_of x).mem.length M = true) (hL : LoopsGood P lt j c)
    (h : ∀ x, Inv x → (bodyL P E m n lt j c keep M (St_of x)).ok (RoundEnd N St_of Inv μ re rs x) (fun _ _ => False))
    {x : X} (hx : Inv x) {s : St} {π : List (Option Nat)} (hN : s.mem.length = N) (hs : WS N π s (St_of x)) : Det P (.loop c) s (re x) (rs x) :=
  loop_det2 (M := M) St_of Inv μ re rs keep (fun x => Nat.le_of_ble_eq_true (hM x)) (fun x hx => by
    obtain ⟨e', s', h1, h2⟩ := body_det hm hE hL (h x hx)
    refine ⟨e', s', h1, ?_⟩
    unfold RoundEnd at h2
    cases e' <;> exact h2) hx hN hs
end Go.Proofs.Ytolodncpegajkaa
namespace Go.Proofs.Ytolodncpegajkaa
set_option linter.all false
open Go.RowKit
/-- How far two points of a list are. -/
def mdV (ps : List Pt) (i k : Nat) : Int := mhP (ps.getD i (0, 0)) (ps.getD k (0, 0))
/-- The better of two edges. -/
def stB (ps : List Pt) (gs : List Int) (i k : Nat) (b : Int × Int) : Int × Int :=
  if gs.getD i 0 = gs.getD k 0 then b else if b.1 < 0 then ((i : Int), (k : Int)) else if mdV ps i k < mdV ps b.1.toNat b.2.toNat then ((i : Int), (k : Int)) else b
def scK (ps : List Pt) (gs : List Int) (i : Nat) (b : Int × Int) : Nat → Int × Int
  | 0 => b
  | j + 1 => stB ps gs i (i + 1 + j) (scK ps gs i b j)
def scI (ps : List Pt) (gs : List Int) : Nat → Int × Int
  | 0 => (-1, 0)
  | i + 1 => scK ps gs i (scI ps gs i) (ps.length - (i + 1))
/-- Is it no edge yet, or one between two groups? -/
def vBs (n : Nat) (gs : List Int) (b : Int × Int) : Prop := b.1 < 0 ∨ (0 ≤ b.1 ∧ b.1 < n ∧ 0 ≤ b.2 ∧ b.2 < n ∧ gs.getD b.1.toNat 0 ≠ gs.getD b.2.toNat 0)
theorem stB_v {ps : List Pt} {gs : List Int} {i k : Nat} {b : Int × Int} {n : Nat} (hi : i < n) (hk : k < n) (h : vBs n gs b) : vBs n gs (stB ps gs i k b) := by
  unfold stB
  split
  · exact h
  · rename_i hne
    have hv : vBs n gs ((i : Int), (k : Int)) := .inr ⟨by simp, by simp; omega, by simp, by simp; omega, by simpa using hne⟩
    split
    · exact hv
    · split
      · exact hv
      · exact h
theorem scK_v {ps : List Pt} {gs : List Int} {i : Nat} {b : Int × Int} (hi : i < ps.length) (h : vBs ps.length gs b) : ∀ j, i + 1 + j ≤ ps.length → vBs ps.length gs (scK ps gs i b j)
  | 0, _ => h
  | j + 1, hj => stB_v hi (by omega) (scK_v hi h j (by omega))
theorem scI_v (ps : List Pt) (gs : List Int) : ∀ i, i ≤ ps.length → vBs ps.length gs (scI ps gs i)
  | 0, _ => .inl (by show (-1 : Int) < 0; omega)
  | i + 1, hi => scK_v (by omega) (scI_v ps gs i (by omega)) _ (by omega)
theorem md_wr {ps : List Pt} (hv : allV ps = true) (u v : Nat) : IntKind.i64.wrap (((IntKind.i64.wrap ((ps.getD u (0, 0)).1 - (ps.getD v (0, 0)).1)).natAbs : Int) + ((IntKind.i64.wrap ((ps.getD u (0, 0)).2 - (ps.getD v (0, 0)).2)).natAbs : Int)) = mdV ps u v ∧ big (IntKind.i64.wrap ((ps.getD u (0, 0)).1 - (ps.getD v (0, 0)).1)) ∧ big (IntKind.i64.wrap ((ps.getD u (0, 0)).2 - (ps.getD v (0, 0)).2)) := by
  obtain ⟨x1, x2, x3, x4⟩ := allV_get hv u
  obtain ⟨y1, y2, y3, y4⟩ := allV_get hv v
  rw [wr (x := (ps.getD u (0, 0)).1 - (ps.getD v (0, 0)).1) (by omega), wr (x := (ps.getD u (0, 0)).2 - (ps.getD v (0, 0)).2) (by omega), wr (by omega)]
  refine ⟨rfl, ?_, ?_⟩ <;> unfold big <;> omega
set_option maxRecDepth 100000 in
theorem ty_pt37 : Try.prog.types[(37 : Nat)].size = 2 := by kernel_rfl
noncomputable def c_spK : Code := ((loopsOf (codeOf Try.f162))[3]?).getD .skip
def k_spK : Ex → List Nat := keeps [0, 3, 4, 6, 7, 8] [(6, [0, 3, 4, 6, 7]), (5, [0, 3, 4, 6, 7]), (4, [0, 3, 4, 6]), (3, [0, 3, 4]), (2, [3])] [2]
def s_spK (ps : List Pt) (gs os : List Int) (m i : Nat) (a0 b0 : Int) : Nat × Int × Int → St := fun (j, a, b) => ⟨(.slice (some ⟨0, 0, none⟩) ps.length ps.length :: topV :: topV :: .slice (some ⟨4, 0, none⟩) m m :: .slice (some ⟨3, 0, none⟩) ps.length ps.length :: topV :: .pointer (some ⟨5, 0, none⟩) :: .int .i64 i :: .int .i64 (i + 1 + j : Nat) :: topV :: topV :: topV :: topV :: topV :: topV :: topV :: topV :: topV :: topV :: topV :: topV :: topV :: topV :: topV :: topV :: topV :: topV :: topV :: topV :: topV :: topV :: topV :: topV :: topV :: topV :: topV :: topV :: topV :: topV :: topV :: topV :: topV :: topV :: topV :: topV :: topV :: topV :: topV :: topV :: topV :: topV :: topV :: topV :: topV :: topV :: topV :: topV :: topV :: topV :: topV :: topV :: topV :: topV :: topV :: topV :: topV :: topV :: topV :: topV :: topV :: topV :: topV :: topV :: topV :: topV :: topV :: topV :: topV :: topV :: topV :: topV :: topV :: topV :: topV :: topV :: topV :: topV :: topV :: topV :: topV :: topV :: topV :: topV :: topV :: topV :: topV :: topV :: topV :: topV :: topV :: topV :: topV :: topV :: topV :: topV :: topV :: topV :: topV :: topV :: topV :: topV :: topV :: topV :: topV :: []), [some ⟨.view, .ints (flat ps)⟩, some ⟨.dead, .vals []⟩, some ⟨.dead, .vals []⟩, some ⟨.row 3 1, .ints gs⟩, some ⟨.row 41 2, .ints os⟩, some ⟨.box, .vals [.int .i64 a, .int .i64 b]⟩]⟩
def re_spK : Nat × Int × Int → Ex := fun _ => .exit 6
def rs_spK (ps : List Pt) (gs os : List Int) (m i : Nat) (a0 b0 : Int) : Nat × Int × Int → St := fun (j, a, b) => ⟨(.slice (some ⟨0, 0, none⟩) ps.length ps.length :: topV :: topV :: .slice (some ⟨4, 0, none⟩) m m :: .slice (some ⟨3, 0, none⟩) ps.length ps.length :: topV :: .pointer (some ⟨5, 0, none⟩) :: .int .i64 i :: topV :: topV :: topV :: topV :: topV :: topV :: topV :: topV :: topV :: topV :: topV :: topV :: topV :: topV :: topV :: topV :: topV :: topV :: topV :: topV :: topV :: topV :: topV :: topV :: topV :: topV :: topV :: topV :: topV :: topV :: topV :: topV :: topV :: topV :: topV :: topV :: topV :: topV :: topV :: topV :: topV :: topV :: topV :: topV :: topV :: topV :: topV :: topV :: topV :: topV :: topV :: topV :: topV :: topV :: topV :: topV :: topV :: topV :: topV :: topV :: topV :: topV :: topV :: topV :: topV :: topV :: topV :: topV :: topV :: topV :: topV :: topV :: topV :: topV :: topV :: topV :: topV :: topV :: topV :: topV :: topV :: topV :: topV :: topV :: topV :: topV :: topV :: topV :: topV :: topV :: topV :: topV :: topV :: topV :: topV :: topV :: topV :: topV :: topV :: topV :: topV :: topV :: topV :: topV :: topV :: topV :: []), [some ⟨.view, .ints (flat ps)⟩, some ⟨.dead, .vals []⟩, some ⟨.dead, .vals []⟩, some ⟨.row 3 1, .ints gs⟩, some ⟨.row 41 2, .ints os⟩, some ⟨.box, .vals [.int .i64 (scK ps gs i (a0, b0) (ps.length - (i + 1))).1, .int .i64 (scK ps gs i (a0, b0) (ps.length - (i + 1))).2]⟩]⟩
set_option maxRecDepth 100000 in
theorem tr_spK (ps : List Pt) (gs os : List Int) (m i : Nat) (a0 b0 : Int) (j : Nat) (a b : Int) : bodyL Try.prog ETl0 30 12 noL 4 c_spK k_spK 6 (s_spK ps gs os m i a0 b0 (j, a, b)) = brT (decide ((↑(i + 1 + j) : Int) < (↑ps.length : Int))) (brT (!gs.getD (0 + (↑i : Int).toNat * 1) 0 == gs.getD (0 + (↑(i + 1 + j) : Int).toNat * 1) 0) (brT (decide (a < 0)) (.need ((0 : Int) ≤ (↑i : Int) ∧ (↑i : Int) < (↑ps.length : Int)) (.need ((0 : Nat) + (↑i : Int).toNat * (1 : Nat) < gs.length) (.need ((0 : Int) ≤ (↑(i + (1 : Nat) + j) : Int) ∧ (↑(i + (1 : Nat) + j) : Int) < (↑ps.length : Int)) (.need ((0 : Nat) + (↑(i + (1 : Nat) + j) : Int).toNat * (1 : Nat) < gs.length) (.leaf .normal ⟨(.slice (some ⟨0, 0, none⟩) (ps.length) (ps.length) :: topV :: topV :: .slice (some ⟨4, 0, none⟩) (m) (m) :: .slice (some ⟨3, 0, none⟩) (ps.length) (ps.length) :: topV :: .pointer (some ⟨5, 0, none⟩) :: .int .i64 ((↑i : Int)) :: .int .i64 (IntKind.i64.wrap ((↑(i + 1 + j) : Int) + 1)) :: topV :: topV :: topV :: topV :: topV :: topV :: topV :: topV :: topV :: topV :: topV :: topV :: topV :: topV :: topV :: topV :: topV :: topV :: topV :: topV :: topV :: topV :: topV :: topV :: topV :: topV :: topV :: topV :: topV :: topV :: topV :: topV :: topV :: topV :: topV :: topV :: topV :: topV :: topV :: topV :: topV :: topV :: topV :: topV :: topV :: topV :: topV :: topV :: topV :: topV :: topV :: topV :: topV :: topV :: topV :: topV :: topV :: topV :: topV :: topV :: topV :: topV :: topV :: topV :: topV :: topV :: topV :: topV :: topV :: topV :: topV :: topV :: topV :: topV :: topV :: topV :: topV :: topV :: topV :: topV :: topV :: topV :: topV :: topV :: topV :: topV :: topV :: topV :: topV :: topV :: topV :: topV :: topV :: topV :: topV :: topV :: topV :: topV :: topV :: topV :: topV :: topV :: topV :: topV :: topV :: []), [some ⟨.view, .ints (flat ps)⟩, some deadB, some deadB, some ⟨.row 3 1, .ints (gs)⟩, some ⟨.row 41 2, .ints (os)⟩, some ⟨.box, .vals [.int .i64 ((↑i : Int)), .int .i64 ((↑(i + 1 + j) : Int))]⟩]⟩))))) (.need (big (IntKind.i64.wrap ((flat ps).getD ((0 : Nat) + (↑i : Int).toNat * (2 : Nat)) (0 : Int) - (flat ps).getD ((0 : Nat) + (↑(i + (1 : Nat) + j) : Int).toNat * (2 : Nat)) (0 : Int)))) (.need (big (IntKind.i64.wrap ((flat ps).getD ((0 : Nat) + (↑i : Int).toNat * (2 : Nat) + (1 : Nat)) (0 : Int) - (flat ps).getD ((0 : Nat) + (↑(i + (1 : Nat) + j) : Int).toNat * (2 : Nat) + (1 : Nat)) (0 : Int)))) (.need (big (IntKind.i64.wrap ((flat ps).getD ((0 : Nat) + a.toNat * (2 : Nat)) (0 : Int) - (flat ps).getD ((0 : Nat) + b.toNat * (2 : Nat)) (0 : Int)))) (.need (big (IntKind.i64.wrap ((flat ps).getD ((0 : Nat) + a.toNat * (2 : Nat) + (1 : Nat)) (0 : Int) - (flat ps).getD ((0 : Nat) + b.toNat * (2 : Nat) + (1 : Nat)) (0 : Int)))) (.need ((0 : Int) ≤ (↑i : Int) ∧ (↑i : Int) < (↑ps.length : Int)) (.need ((0 : Nat) + (↑i : Int).toNat * (1 : Nat) < gs.length) (.need ((0 : Int) ≤ (↑(i + (1 : Nat) + j) : Int) ∧ (↑(i + (1 : Nat) + j) : Int) < (↑ps.length : Int)) (.need ((0 : Nat) + (↑(i + (1 : Nat) + j) : Int).toNat * (1 : Nat) < gs.length) (.need ((0 : Int) ≤ (↑i : Int) ∧ (↑i : Int) < (↑ps.length : Int)) (.need ((0 : Nat) + (↑i : Int).toNat * (2 : Nat) + (2 : Nat) ≤ (flat ps).length) (.need ((0 : Int) ≤ (↑(i + (1 : Nat) + j) : Int) ∧ (↑(i + (1 : Nat) + j) : Int) < (↑ps.length : Int)) (.need ((0 : Nat) + (↑(i + (1 : Nat) + j) : Int).toNat * (2 : Nat) + (2 : Nat) ≤ (flat ps).length) (.need ((0 : Int) ≤ a ∧ a < (↑ps.length : Int)) (.need ((0 : Nat) + a.toNat * (2 : Nat) + (2 : Nat) ≤ (flat ps).length) (.need ((0 : Int) ≤ b ∧ b < (↑ps.length : Int)) (.need ((0 : Nat) + b.toNat * (2 : Nat) + (2 : Nat) ≤ (flat ps).length) (brT (decide (IntKind.i64.wrap ((↑(IntKind.i64.wrap ((flat ps).getD (0 + (↑i : Int).toNat * (2 : Nat)) 0 - (flat ps).getD (0 + (↑(i + 1 + j) : Int).toNat * (2 : Nat)) 0)).natAbs : Int) + (↑(IntKind.i64.wrap ((flat ps).getD (0 + (↑i : Int).toNat * (2 : Nat) + 1) 0 - (flat ps).getD (0 + (↑(i + 1 + j) : Int).toNat * (2 : Nat) + 1) 0)).natAbs : Int)) < IntKind.i64.wrap ((↑(IntKind.i64.wrap ((flat ps).getD (0 + a.toNat * (2 : Nat)) 0 - (flat ps).getD (0 + b.toNat * (2 : Nat)) 0)).natAbs : Int) + (↑(IntKind.i64.wrap ((flat ps).getD (0 + a.toNat * (2 : Nat) + 1) 0 - (flat ps).getD (0 + b.toNat * (2 : Nat) + 1) 0)).natAbs : Int)))) (.leaf .normal ⟨(.slice (some ⟨0, 0, none⟩) (ps.length) (ps.length) :: topV :: topV :: .slice (some ⟨4, 0, none⟩) (m) (m) :: .slice (some ⟨3, 0, none⟩) (ps.length) (ps.length) :: topV :: .pointer (some ⟨5, 0, none⟩) :: .int .i64 ((↑i : Int)) :: .int .i64 (IntKind.i64.wrap ((↑(i + 1 + j) : Int) + 1)) :: topV :: topV :: topV :: topV :: topV :: topV :: topV :: topV :: topV :: topV :: topV :: topV :: topV :: topV :: topV :: topV :: topV :: topV :: topV :: topV :: topV :: topV :: topV :: topV :: topV :: topV :: topV :: topV :: topV :: topV :: topV :: topV :: topV :: topV :: topV :: topV :: topV :: topV :: topV :: topV :: topV :: topV :: topV :: topV :: topV :: topV :: topV :: topV :: topV :: topV :: topV :: topV :: topV :: topV :: topV :: topV :: topV :: topV :: topV :: topV :: topV :: topV :: topV :: topV :: topV :: topV :: topV :: topV :: topV :: topV :: topV :: topV :: topV :: topV :: topV :: topV :: topV :: topV :: topV :: topV :: topV :: topV :: topV :: topV :: topV :: topV :: topV :: topV :: topV :: topV :: topV :: topV :: topV :: topV :: topV :: topV :: topV :: topV :: topV :: topV :: topV :: topV :: topV :: topV :: topV :: []), [some ⟨.view, .ints (flat ps)⟩, some deadB, some deadB, some ⟨.row 3 1, .ints (gs)⟩, some ⟨.row 41 2, .ints (os)⟩, some ⟨.box, .vals [.int .i64 ((↑i : Int)), .int .i64 ((↑(i + 1 + j) : Int))]⟩]⟩) (.leaf .normal ⟨(.slice (some ⟨0, 0, none⟩) (ps.length) (ps.length) :: topV :: topV :: .slice (some ⟨4, 0, none⟩) (m) (m) :: .slice (some ⟨3, 0, none⟩) (ps.length) (ps.length) :: topV :: .pointer (some ⟨5, 0, none⟩) :: .int .i64 ((↑i : Int)) :: .int .i64 (IntKind.i64.wrap ((↑(i + 1 + j) : Int) + 1)) :: topV :: topV :: topV :: topV :: topV :: topV :: topV :: topV :: topV :: topV :: topV :: topV :: topV :: topV :: topV :: topV :: topV :: topV :: topV :: topV :: topV :: topV :: topV :: topV :: topV :: topV :: topV :: topV :: topV :: topV :: topV :: topV :: topV :: topV :: topV :: topV :: topV :: topV :: topV :: topV :: topV :: topV :: topV :: topV :: topV :: topV :: topV :: topV :: topV :: topV :: topV :: topV :: topV :: topV :: topV :: topV :: topV :: topV :: topV :: topV :: topV :: topV :: topV :: topV :: topV :: topV :: topV :: topV :: topV :: topV :: topV :: topV :: topV :: topV :: topV :: topV :: topV :: topV :: topV :: topV :: topV :: topV :: topV :: topV :: topV :: topV :: topV :: topV :: topV :: topV :: topV :: topV :: topV :: topV :: topV :: topV :: topV :: topV :: topV :: topV :: topV :: topV :: topV :: topV :: topV :: []), [some ⟨.view, .ints (flat ps)⟩, some deadB, some deadB, some ⟨.row 3 1, .ints (gs)⟩, some ⟨.row 41 2, .ints (os)⟩, some ⟨.box, .vals [.int .i64 (a), .int .i64 (b)]⟩]⟩))))))))))))))))))) (.need ((0 : Int) ≤ (↑i : Int) ∧ (↑i : Int) < (↑ps.length : Int)) (.need ((0 : Nat) + (↑i : Int).toNat * (1 : Nat) < gs.length) (.need ((0 : Int) ≤ (↑(i + (1 : Nat) + j) : Int) ∧ (↑(i + (1 : Nat) + j) : Int) < (↑ps.length : Int)) (.need ((0 : Nat) + (↑(i + (1 : Nat) + j) : Int).toNat * (1 : Nat) < gs.length) (.leaf .normal ⟨(.slice (some ⟨0, 0, none⟩) (ps.length) (ps.length) :: topV :: topV :: .slice (some ⟨4, 0, none⟩) (m) (m) :: .slice (some ⟨3, 0, none⟩) (ps.length) (ps.length) :: topV :: .pointer (some ⟨5, 0, none⟩) :: .int .i64 ((↑i : Int)) :: .int .i64 (IntKind.i64.wrap ((↑(i + 1 + j) : Int) + 1)) :: topV :: topV :: topV :: topV :: topV :: topV :: topV :: topV :: topV :: topV :: topV :: topV :: topV :: topV :: topV :: topV :: topV :: topV :: topV :: topV :: topV :: topV :: topV :: topV :: topV :: topV :: topV :: topV :: topV :: topV :: topV :: topV :: topV :: topV :: topV :: topV :: topV :: topV :: topV :: topV :: topV :: topV :: topV :: topV :: topV :: topV :: topV :: topV :: topV :: topV :: topV :: topV :: topV :: topV :: topV :: topV :: topV :: topV :: topV :: topV :: topV :: topV :: topV :: topV :: topV :: topV :: topV :: topV :: topV :: topV :: topV :: topV :: topV :: topV :: topV :: topV :: topV :: topV :: topV :: topV :: topV :: topV :: topV :: topV :: topV :: topV :: topV :: topV :: topV :: topV :: topV :: topV :: topV :: topV :: topV :: topV :: topV :: topV :: topV :: topV :: topV :: topV :: topV :: topV :: topV :: []), [some ⟨.view, .ints (flat ps)⟩, some deadB, some deadB, some ⟨.row 3 1, .ints (gs)⟩, some ⟨.row 41 2, .ints (os)⟩, some ⟨.box, .vals [.int .i64 (a), .int .i64 (b)]⟩]⟩)))))) (.leaf (.exit 6) ⟨(.slice (some ⟨0, 0, none⟩) (ps.length) (ps.length) :: topV :: topV :: .slice (some ⟨4, 0, none⟩) (m) (m) :: .slice (some ⟨3, 0, none⟩) (ps.length) (ps.length) :: topV :: .pointer (some ⟨5, 0, none⟩) :: .int .i64 ((↑i : Int)) :: topV :: topV :: topV :: topV :: topV :: topV :: topV :: topV :: topV :: topV :: topV :: topV :: topV :: topV :: topV :: topV :: topV :: topV :: topV :: topV :: topV :: topV :: topV :: topV :: topV :: topV :: topV :: topV :: topV :: topV :: topV :: topV :: topV :: topV :: topV :: topV :: topV :: topV :: topV :: topV :: topV :: topV :: topV :: topV :: topV :: topV :: topV :: topV :: topV :: topV :: topV :: topV :: topV :: topV :: topV :: topV :: topV :: topV :: topV :: topV :: topV :: topV :: topV :: topV :: topV :: topV :: topV :: topV :: topV :: topV :: topV :: topV :: topV :: topV :: topV :: topV :: topV :: topV :: topV :: topV :: topV :: topV :: topV :: topV :: topV :: topV :: topV :: topV :: topV :: topV :: topV :: topV :: topV :: topV :: topV :: topV :: topV :: topV :: topV :: topV :: topV :: topV :: topV :: topV :: topV :: topV :: []), [some ⟨.view, .ints (flat ps)⟩, some deadB, some deadB, some ⟨.row 3 1, .ints (gs)⟩, some ⟨.row 41 2, .ints (os)⟩, some ⟨.box, .vals [.int .i64 (a), .int .i64 (b)]⟩]⟩) := by kernel_rfl
set_option maxRecDepth 100000 in
theorem nl_spK : loopsOf c_spK = [] := by kernel_rfl
def inv_spK (ps : List Pt) (gs os : List Int) (m i : Nat) (a0 b0 : Int) : Nat × Int × Int → Prop := fun (j, a, b) => i + 1 + j ≤ ps.length ∧ scK ps gs i (a0, b0) j = (a, b)
def me_spK (ps : List Pt) (gs os : List Int) (m i : Nat) (a0 b0 : Int) : Nat × Int × Int → Nat := fun (j, a, b) => ps.length - (i + 1 + j)
/-- A round of this loop. -/
def Round_spK (ps : List Pt) (gs os : List Int) (m i : Nat) (a0 b0 : Int) : Prop := ∀ xx : Nat × Int × Int, inv_spK ps gs os m i a0 b0 xx → (bodyL Try.prog ETl0 30 12 noL 4 c_spK k_spK 6 (s_spK ps gs os m i a0 b0 xx)).ok (RoundEnd 6 (s_spK ps gs os m i a0 b0) (inv_spK ps gs os m i a0 b0) (me_spK ps gs os m i a0 b0) re_spK (rs_spK ps gs os m i a0 b0) xx) (fun _ _ => False)
def e_spK (s : St) (k : Ex → St → Tree) : Option Tree := match Nat.beq s.tmps.length 114, pickL s.tmps [0, 3, 4, 6, 7, 8], s.mem with
  | true, [.slice (some ⟨0, 0, none⟩) n _, .slice (some ⟨4, 0, none⟩) m _, .slice (some ⟨3, 0, none⟩) n2 _, .pointer (some ⟨5, 0, none⟩), .int .i64 ii, .int .i64 kk], [some ⟨.view, .ints xs⟩, some ⟨.dead, .vals []⟩, some ⟨.dead, .vals []⟩, some ⟨.row 3 1, .ints gs⟩, some ⟨.row 41 2, .ints os⟩, some ⟨.box, .vals [.int .i64 a, .int .i64 b]⟩] => some (needs [0 ≤ ii, kk = ii + 1, n2 = n, xs.length = n * 2, n ≤ 20, ii < n, allV (ptsA n xs) = true, gs.length = n, vBs n gs (a, b)] (k (.exit 6) ⟨(.slice (some ⟨0, 0, none⟩) n n :: topV :: topV :: .slice (some ⟨4, 0, none⟩) m m :: .slice (some ⟨3, 0, none⟩) n n :: topV :: .pointer (some ⟨5, 0, none⟩) :: .int .i64 ii :: topV :: topV :: topV :: topV :: topV :: topV :: topV :: topV :: topV :: topV :: topV :: topV :: topV :: topV :: topV :: topV :: topV :: topV :: topV :: topV :: topV :: topV :: topV :: topV :: topV :: topV :: topV :: topV :: topV :: topV :: topV :: topV :: topV :: topV :: topV :: topV :: topV :: topV :: topV :: topV :: topV :: topV :: topV :: topV :: topV :: topV :: topV :: topV :: topV :: topV :: topV :: topV :: topV :: topV :: topV :: topV :: topV :: topV :: topV :: topV :: topV :: topV :: topV :: topV :: topV :: topV :: topV :: topV :: topV :: topV :: topV :: topV :: topV :: topV :: topV :: topV :: topV :: topV :: topV :: topV :: topV :: topV :: topV :: topV :: topV :: topV :: topV :: topV :: topV :: topV :: topV :: topV :: topV :: topV :: topV :: topV :: topV :: topV :: topV :: topV :: topV :: topV :: topV :: topV :: topV :: topV :: []), [some ⟨.view, .ints xs⟩, some ⟨.dead, .vals []⟩, some ⟨.dead, .vals []⟩, some ⟨.row 3 1, .ints gs⟩, some ⟨.row 41 2, .ints os⟩, some ⟨.box, .vals [.int .i64 (scK (ptsA n xs) gs ii.toNat (a, b) (n - (ii.toNat + 1))).1, .int .i64 (scK (ptsA n xs) gs ii.toNat (a, b) (n - (ii.toNat + 1))).2]⟩]⟩))
  | _, _, _ => none
set_option maxRecDepth 100000 in
set_option maxHeartbeats 2000000 in
theorem round_spK (ps : List Pt) (gs os : List Int) (m i : Nat) (a0 b0 : Int) (h : ps.length ≤ 20) (hi : i < ps.length) (hv : allV ps = true) (hg : gs.length = ps.length) (hb : vBs ps.length gs (a0, b0)) : Round_spK ps gs os m i a0 b0 := by
  rintro ⟨j, a, b⟩ ⟨h1, h2⟩
  rw [tr_spK]
  have fl := flat_length ps
  have vb := scK_v (ps := ps) hi hb j h1
  rw [h2] at vb
  simp only [Int.toNat_natCast, Nat.zero_add, Nat.mul_one, ty_pt37, flat_get0, flat_get1]
  refine brT_ok.2 ⟨fun hlt => ?_, fun hge => ?_⟩
  · have hk : i + 1 + j < ps.length := by have := of_decide_eq_true hlt; omega
    rw [wsucc (n := ps.length) hk (by omega)]
    have nx : scK ps gs i (a0, b0) (j + 1) = stB ps gs i (i + 1 + j) (a, b) := by rw [← h2]; rfl
    refine brT_ok.2 ⟨fun q => ?_, fun q => ?_⟩
    · have q : ¬ gs.getD i 0 = gs.getD (i + 1 + j) 0 := by simpa using q
      refine brT_ok.2 ⟨fun r => ?_, fun r => ?_⟩
      · have r : a < 0 := of_decide_eq_true r
        have e : scK ps gs i (a0, b0) (j + 1) = ((i : Int), ((i + 1 + j : Nat) : Int)) := by rw [nx]; unfold stB; rw [if_neg q, if_pos r]
        refine ⟨⟨by omega, by omega⟩, by omega, ⟨by omega, by omega⟩, by omega, (j + 1, _, _), [], ⟨by omega, e⟩, ?_, rfl, by simp only [rs_spK], ?_⟩
        · show ps.length - (i + 1 + (j + 1)) < ps.length - (i + 1 + j); omega
        · repeat' (first | exact True.intro | exact rfl | exact fun _ => rfl | (simp; done) | refine And.intro ?_ ?_)
      · have r : ¬ a < 0 := of_decide_eq_false r
        obtain ⟨v1, v2, v3, v4, _⟩ := vb.resolve_left r
        simp only at v1 v2 v3 v4
        obtain ⟨a, rfl⟩ := Int.eq_ofNat_of_zero_le v1
        obtain ⟨b, rfl⟩ := Int.eq_ofNat_of_zero_le v3
        simp only [Int.toNat_natCast] at *
        obtain ⟨x1, x2, x3, x4⟩ := allV_get hv i
        obtain ⟨y1, y2, y3, y4⟩ := allV_get hv (i + 1 + j)
        obtain ⟨z1, z2, z3, z4⟩ := allV_get hv a
        obtain ⟨u1, u2, u3, u4⟩ := allV_get hv b
        obtain ⟨m1, m2, m3⟩ := md_wr hv i (i + 1 + j)
        obtain ⟨n1, n2, n3⟩ := md_wr hv a b
        refine ⟨m2, m3, n2, n3, ⟨by omega, by omega⟩, by omega, ⟨by omega, by omega⟩, by omega, ⟨by omega, by omega⟩, by omega, ⟨by omega, by omega⟩, by omega, ⟨by omega, by omega⟩, by omega, ⟨by omega, by omega⟩, by omega, brT_ok.2 ⟨fun u => ?_, fun u => ?_⟩⟩
        · have u := of_decide_eq_true u
          rw [m1, n1] at u
          have e : scK ps gs i (a0, b0) (j + 1) = ((i : Int), ((i + 1 + j : Nat) : Int)) := by rw [nx]; unfold stB; rw [if_neg q, if_neg r]; exact if_pos u
          refine ⟨(j + 1, _, _), [], ⟨by omega, e⟩, ?_, rfl, by simp only [rs_spK], ?_⟩
          · show ps.length - (i + 1 + (j + 1)) < ps.length - (i + 1 + j); omega
          · repeat' (first | exact True.intro | exact rfl | exact fun _ => rfl | (simp; done) | refine And.intro ?_ ?_)
        · have u := of_decide_eq_false u
          rw [m1, n1] at u
          have e : scK ps gs i (a0, b0) (j + 1) = ((a : Int), (b : Int)) := by rw [nx]; unfold stB; rw [if_neg q, if_neg r]; exact if_neg u
          refine ⟨(j + 1, _, _), [], ⟨by omega, e⟩, ?_, rfl, by simp only [rs_spK], ?_⟩
          · show ps.length - (i + 1 + (j + 1)) < ps.length - (i + 1 + j); omega
          · repeat' (first | exact True.intro | exact rfl | exact fun _ => rfl | (simp; done) | refine And.intro ?_ ?_)
    · have q : gs.getD i 0 = gs.getD (i + 1 + j) 0 := by simpa using q
      have e : scK ps gs i (a0, b0) (j + 1) = (a, b) := by rw [nx]; unfold stB; rw [if_pos q]
      refine ⟨⟨by omega, by omega⟩, by omega, ⟨by omega, by omega⟩, by omega, (j + 1, _, _), [], ⟨by omega, e⟩, ?_, rfl, by simp only [rs_spK], ?_⟩
      · show ps.length - (i + 1 + (j + 1)) < ps.length - (i + 1 + j); omega
      · repeat' (first | exact True.intro | exact rfl | exact fun _ => rfl | (simp; done) | refine And.intro ?_ ?_)
  · have hge := of_decide_eq_false hge
    obtain rfl : j = ps.length - (i + 1) := by omega
    refine ⟨rfl, [], ?_⟩
    simp only [rs_spK, h2]
    repeat' (first | exact True.intro | exact rfl | exact fun _ => rfl | (simp; done) | refine And.intro ?_ ?_)
set_option maxRecDepth 100000 in
theorem lg_spK : LoopE Try.prog e_spK c_spK := by
  intro s k t F H hlt ht
  unfold e_spK at hlt
  split at hlt
  rotate_left
  · cases hlt
  rename_i hlen hpick hmem
  obtain ⟨tmps, mem⟩ := s
  simp only at hlen hpick hmem
  subst hmem
  obtain rfl := Option.some.inj hlt
  obtain ⟨⟨h0, h1, rfl, h2, h3, h4, h5, h6, h7, _⟩, ht2⟩ := needs_ok ht
  clear ht hlt
  obtain ⟨ps, rfl, rfl⟩ := even_flat h2
  obtain ⟨i, rfl⟩ := Int.eq_ofNat_of_zero_le h0
  simp only [Int.toNat_natCast] at ht2
  rw [ptsA_flat] at h5 ht2
  obtain rfl := h1
  refine ⟨_, _, ht2, loop_run mixed ETl0_ok (s_spK ps _ _ _ i _ _) (inv_spK ps _ _ _ i _ _) (me_spK ps _ _ _ i _ _) re_spK (rs_spK ps _ _ _ i _ _) k_spK (fun _ => rfl) (noLoops nl_spK) (round_spK ps _ _ _ i _ _ h3 (by omega) h5 h6 h7) (x := (0, _, _)) ⟨by show i + 1 + 0 ≤ _; omega, rfl⟩ (π := []) rfl ?_⟩
  refine ⟨rfl, rfl, ?_, wvs_spread' [0, 3, 4, 6, 7, 8] hlen rfl ?_⟩
  · repeat' (first | exact True.intro | exact rfl | exact wv_top _ _ | exact fun _ => rfl | assumption | exact Eq.symm (by assumption) | exact vI0 rfl | refine And.intro ?_ ?_)
  · rw [hpick]
    repeat' (first | exact True.intro | exact rfl | exact wv_top _ _ | exact fun _ => rfl | assumption | exact Eq.symm (by assumption) | exact vI0 rfl | refine And.intro ?_ ?_)
def ltSpK : LT := fun j s k => match j with
  | 3 => e_spK s k
  | _ => none
noncomputable def c_spI : Code := ((loopsOf (codeOf Try.f162))[2]?).getD .skip
def k_spI : Ex → List Nat := keeps [0, 3, 4, 6, 7] [(4, [0, 3, 4, 6]), (3, [0, 3, 4]), (2, [3])] [2]
def s_spI (ps : List Pt) (gs os : List Int) (m : Nat) : Nat × Int × Int → St := fun (i, a, b) => ⟨(.slice (some ⟨0, 0, none⟩) ps.length ps.length :: topV :: topV :: .slice (some ⟨4, 0, none⟩) m m :: .slice (some ⟨3, 0, none⟩) ps.length ps.length :: topV :: .pointer (some ⟨5, 0, none⟩) :: .int .i64 i :: topV :: topV :: topV :: topV :: topV :: topV :: topV :: topV :: topV :: topV :: topV :: topV :: topV :: topV :: topV :: topV :: topV :: topV :: topV :: topV :: topV :: topV :: topV :: topV :: topV :: topV :: topV :: topV :: topV :: topV :: topV :: topV :: topV :: topV :: topV :: topV :: topV :: topV :: topV :: topV :: topV :: topV :: topV :: topV :: topV :: topV :: topV :: topV :: topV :: topV :: topV :: topV :: topV :: topV :: topV :: topV :: topV :: topV :: topV :: topV :: topV :: topV :: topV :: topV :: topV :: topV :: topV :: topV :: topV :: topV :: topV :: topV :: topV :: topV :: topV :: topV :: topV :: topV :: topV :: topV :: topV :: topV :: topV :: topV :: topV :: topV :: topV :: topV :: topV :: topV :: topV :: topV :: topV :: topV :: topV :: topV :: topV :: topV :: topV :: topV :: topV :: topV :: topV :: topV :: topV :: topV :: []), [some ⟨.view, .ints (flat ps)⟩, some ⟨.dead, .vals []⟩, some ⟨.dead, .vals []⟩, some ⟨.row 3 1, .ints gs⟩, some ⟨.row 41 2, .ints os⟩, some ⟨.box, .vals [.int .i64 a, .int .i64 b]⟩]⟩
def re_spI : Nat × Int × Int → Ex := fun _ => .exit 4
def rs_spI (ps : List Pt) (gs os : List Int) (m : Nat) : Nat × Int × Int → St := fun (i, a, b) => ⟨(.slice (some ⟨0, 0, none⟩) ps.length ps.length :: topV :: topV :: .slice (some ⟨4, 0, none⟩) m m :: .slice (some ⟨3, 0, none⟩) ps.length ps.length :: topV :: .pointer (some ⟨5, 0, none⟩) :: topV :: topV :: topV :: topV :: topV :: topV :: topV :: topV :: topV :: topV :: topV :: topV :: topV :: topV :: topV :: topV :: topV :: topV :: topV :: topV :: topV :: topV :: topV :: topV :: topV :: topV :: topV :: topV :: topV :: topV :: topV :: topV :: topV :: topV :: topV :: topV :: topV :: topV :: topV :: topV :: topV :: topV :: topV :: topV :: topV :: topV :: topV :: topV :: topV :: topV :: topV :: topV :: topV :: topV :: topV :: topV :: topV :: topV :: topV :: topV :: topV :: topV :: topV :: topV :: topV :: topV :: topV :: topV :: topV :: topV :: topV :: topV :: topV :: topV :: topV :: topV :: topV :: topV :: topV :: topV :: topV :: topV :: topV :: topV :: topV :: topV :: topV :: topV :: topV :: topV :: topV :: topV :: topV :: topV :: topV :: topV :: topV :: topV :: topV :: topV :: topV :: topV :: topV :: topV :: topV :: topV :: topV :: []), [some ⟨.view, .ints (flat ps)⟩, some ⟨.dead, .vals []⟩, some ⟨.dead, .vals []⟩, some ⟨.row 3 1, .ints gs⟩, some ⟨.row 41 2, .ints os⟩, some ⟨.box, .vals [.int .i64 (scI ps gs ps.length).1, .int .i64 (scI ps gs ps.length).2]⟩]⟩
set_option maxRecDepth 100000 in
theorem tr_spI (ps : List Pt) (gs os : List Int) (m : Nat) (i : Nat) (a b : Int) : bodyL Try.prog ETl0 30 12 ltSpK 3 c_spI k_spI 6 (s_spI ps gs os m (i, a, b)) = brT (decide ((↑i : Int) < (↑ps.length : Int))) (.need ((0 : Int) ≤ (↑i : Int)) (.need (IntKind.i64.wrap ((↑i : Int) + (1 : Int)) = (↑i : Int) + (1 : Int)) (.need (ps.length = ps.length) (.need ((flat ps).length = ps.length * (2 : Nat)) (.need (ps.length ≤ (20 : Nat)) (.need ((↑i : Int) < (↑ps.length : Int)) (.need (allV (ptsA ps.length (flat ps)) = true) (.need (gs.length = ps.length) (.need (vBs ps.length gs (a, b)) (.leaf .normal ⟨(.slice (some ⟨0, 0, none⟩) (ps.length) (ps.length) :: topV :: topV :: .slice (some ⟨4, 0, none⟩) (m) (m) :: .slice (some ⟨3, 0, none⟩) (ps.length) (ps.length) :: topV :: .pointer (some ⟨5, 0, none⟩) :: .int .i64 (IntKind.i64.wrap ((↑i : Int) + 1)) :: topV :: topV :: topV :: topV :: topV :: topV :: topV :: topV :: topV :: topV :: topV :: topV :: topV :: topV :: topV :: topV :: topV :: topV :: topV :: topV :: topV :: topV :: topV :: topV :: topV :: topV :: topV :: topV :: topV :: topV :: topV :: topV :: topV :: topV :: topV :: topV :: topV :: topV :: topV :: topV :: topV :: topV :: topV :: topV :: topV :: topV :: topV :: topV :: topV :: topV :: topV :: topV :: topV :: topV :: topV :: topV :: topV :: topV :: topV :: topV :: topV :: topV :: topV :: topV :: topV :: topV :: topV :: topV :: topV :: topV :: topV :: topV :: topV :: topV :: topV :: topV :: topV :: topV :: topV :: topV :: topV :: topV :: topV :: topV :: topV :: topV :: topV :: topV :: topV :: topV :: topV :: topV :: topV :: topV :: topV :: topV :: topV :: topV :: topV :: topV :: topV :: topV :: topV :: topV :: topV :: topV :: []), [some ⟨.view, .ints (flat ps)⟩, some deadB, some deadB, some ⟨.row 3 1, .ints (gs)⟩, some ⟨.row 41 2, .ints (os)⟩, some ⟨.box, .vals [.int .i64 ((scK (ptsA ps.length (flat ps)) gs (↑i : Int).toNat (a, b) (ps.length - ((↑i : Int).toNat + 1))).1), .int .i64 ((scK (ptsA ps.length (flat ps)) gs (↑i : Int).toNat (a, b) (ps.length - ((↑i : Int).toNat + 1))).2)]⟩]⟩)))))))))) (.leaf (.exit 4) ⟨(.slice (some ⟨0, 0, none⟩) (ps.length) (ps.length) :: topV :: topV :: .slice (some ⟨4, 0, none⟩) (m) (m) :: .slice (some ⟨3, 0, none⟩) (ps.length) (ps.length) :: topV :: .pointer (some ⟨5, 0, none⟩) :: topV :: topV :: topV :: topV :: topV :: topV :: topV :: topV :: topV :: topV :: topV :: topV :: topV :: topV :: topV :: topV :: topV :: topV :: topV :: topV :: topV :: topV :: topV :: topV :: topV :: topV :: topV :: topV :: topV :: topV :: topV :: topV :: topV :: topV :: topV :: topV :: topV :: topV :: topV :: topV :: topV :: topV :: topV :: topV :: topV :: topV :: topV :: topV :: topV :: topV :: topV :: topV :: topV :: topV :: topV :: topV :: topV :: topV :: topV :: topV :: topV :: topV :: topV :: topV :: topV :: topV :: topV :: topV :: topV :: topV :: topV :: topV :: topV :: topV :: topV :: topV :: topV :: topV :: topV :: topV :: topV :: topV :: topV :: topV :: topV :: topV :: topV :: topV :: topV :: topV :: topV :: topV :: topV :: topV :: topV :: topV :: topV :: topV :: topV :: topV :: topV :: topV :: topV :: topV :: topV :: topV :: topV :: []), [some ⟨.view, .ints (flat ps)⟩, some deadB, some deadB, some ⟨.row 3 1, .ints (gs)⟩, some ⟨.row 41 2, .ints (os)⟩, some ⟨.box, .vals [.int .i64 (a), .int .i64 (b)]⟩]⟩) := by kernel_rfl
def inv_spI (ps : List Pt) (gs os : List Int) (m : Nat) : Nat × Int × Int → Prop := fun (i, a, b) => i ≤ ps.length ∧ scI ps gs i = (a, b)
def me_spI (ps : List Pt) (gs os : List Int) (m : Nat) : Nat × Int × Int → Nat := fun (i, a, b) => ps.length - i
/-- A round of this loop. -/
def Round_spI (ps : List Pt) (gs os : List Int) (m : Nat) : Prop := ∀ xx : Nat × Int × Int, inv_spI ps gs os m xx → (bodyL Try.prog ETl0 30 12 ltSpK 3 c_spI k_spI 6 (s_spI ps gs os m xx)).ok (RoundEnd 6 (s_spI ps gs os m) (inv_spI ps gs os m) (me_spI ps gs os m) re_spI (rs_spI ps gs os m) xx) (fun _ _ => False)
def e_spI (s : St) (k : Ex → St → Tree) : Option Tree := match Nat.beq s.tmps.length 114, pickL s.tmps [0, 3, 4, 6, 7], s.mem with
  | true, [.slice (some ⟨0, 0, none⟩) n _, .slice (some ⟨4, 0, none⟩) m _, .slice (some ⟨3, 0, none⟩) n2 _, .pointer (some ⟨5, 0, none⟩), .int .i64 ii], [some ⟨.view, .ints xs⟩, some ⟨.dead, .vals []⟩, some ⟨.dead, .vals []⟩, some ⟨.row 3 1, .ints gs⟩, some ⟨.row 41 2, .ints os⟩, some ⟨.box, .vals [.int .i64 a, .int .i64 b]⟩] => some (needs [ii = 0, n2 = n, a = -1, b = 0, xs.length = n * 2, n ≤ 20, allV (ptsA n xs) = true, gs.length = n] (k (.exit 4) ⟨(.slice (some ⟨0, 0, none⟩) n n :: topV :: topV :: .slice (some ⟨4, 0, none⟩) m m :: .slice (some ⟨3, 0, none⟩) n n :: topV :: .pointer (some ⟨5, 0, none⟩) :: topV :: topV :: topV :: topV :: topV :: topV :: topV :: topV :: topV :: topV :: topV :: topV :: topV :: topV :: topV :: topV :: topV :: topV :: topV :: topV :: topV :: topV :: topV :: topV :: topV :: topV :: topV :: topV :: topV :: topV :: topV :: topV :: topV :: topV :: topV :: topV :: topV :: topV :: topV :: topV :: topV :: topV :: topV :: topV :: topV :: topV :: topV :: topV :: topV :: topV :: topV :: topV :: topV :: topV :: topV :: topV :: topV :: topV :: topV :: topV :: topV :: topV :: topV :: topV :: topV :: topV :: topV :: topV :: topV :: topV :: topV :: topV :: topV :: topV :: topV :: topV :: topV :: topV :: topV :: topV :: topV :: topV :: topV :: topV :: topV :: topV :: topV :: topV :: topV :: topV :: topV :: topV :: topV :: topV :: topV :: topV :: topV :: topV :: topV :: topV :: topV :: topV :: topV :: topV :: topV :: topV :: topV :: []), [some ⟨.view, .ints xs⟩, some ⟨.dead, .vals []⟩, some ⟨.dead, .vals []⟩, some ⟨.row 3 1, .ints gs⟩, some ⟨.row 41 2, .ints os⟩, some ⟨.box, .vals [.int .i64 (scI (ptsA n xs) gs n).1, .int .i64 (scI (ptsA n xs) gs n).2]⟩]⟩))
  | _, _, _ => none
set_option maxRecDepth 100000 in
theorem in_spI : loopsOf c_spI = [c_spK] := by kernel_rfl
theorem ltSpK_good : LoopsGood Try.prog ltSpK 3 c_spI := by
  intro i d hd s k t F H hlt ht
  rw [in_spI] at hd
  cases i with
  | zero =>
    obtain rfl : c_spK = d := by simpa using hd
    exact lg_spK s k t F H hlt ht
  | succ i => simp at hd
set_option maxRecDepth 100000 in
theorem round_spI (ps : List Pt) (gs os : List Int) (m : Nat) (h : ps.length ≤ 20) (hv : allV ps = true) (hg : gs.length = ps.length) : Round_spI ps gs os m := by
  rintro ⟨i, a, b⟩ ⟨h1, h2⟩
  rw [tr_spI]
  have fl := flat_length ps
  have vb := scI_v ps gs i h1
  rw [h2] at vb
  simp only [Int.toNat_natCast, ptsA_flat]
  refine brT_ok.2 ⟨fun hlt => ?_, fun hge => ?_⟩
  · have hk : i < ps.length := by have := of_decide_eq_true hlt; omega
    rw [wsucc (n := ps.length) hk (by omega)]
    have nx : scI ps gs (i + 1) = scK ps gs i (a, b) (ps.length - (i + 1)) := by rw [← h2]; rfl
    refine ⟨by omega, by omega, trivial, fl, h, by omega, hv, hg, vb, (i + 1, _, _), [], ⟨by omega, nx⟩, ?_, rfl, by simp only [rs_spI], ?_⟩
    · show ps.length - (i + 1) < ps.length - i; omega
    · repeat' (first | exact True.intro | exact rfl | exact fun _ => rfl | (simp; done) | refine And.intro ?_ ?_)
  · have hge := of_decide_eq_false hge
    obtain rfl : i = ps.length := by omega
    refine ⟨rfl, [], ?_⟩
    simp only [rs_spI, h2]
    repeat' (first | exact True.intro | exact rfl | exact fun _ => rfl | (simp; done) | refine And.intro ?_ ?_)
set_option maxRecDepth 100000 in
theorem lg_spI : LoopE Try.prog e_spI c_spI := by
  intro s k t F H hlt ht
  unfold e_spI at hlt
  split at hlt
  rotate_left
  · cases hlt
  rename_i hlen hpick hmem
  obtain ⟨tmps, mem⟩ := s
  simp only at hlen hpick hmem
  subst hmem
  obtain rfl := Option.some.inj hlt
  obtain ⟨⟨rfl, rfl, rfl, rfl, h2, h3, h5, h6, _⟩, ht2⟩ := needs_ok ht
  clear ht hlt
  obtain ⟨ps, rfl, rfl⟩ := even_flat h2
  rw [ptsA_flat] at h5 ht2
  refine ⟨_, _, ht2, loop_run mixed ETl0_ok (s_spI ps _ _ _) (inv_spI ps _ _ _) (me_spI ps _ _ _) re_spI (rs_spI ps _ _ _) k_spI (fun _ => rfl) ltSpK_good (round_spI ps _ _ _ h3 h5 h6) (x := (0, _, _)) ⟨Nat.zero_le _, rfl⟩ (π := []) rfl ?_⟩
  refine ⟨rfl, rfl, ?_, wvs_spread' [0, 3, 4, 6, 7] hlen rfl ?_⟩
  · repeat' (first | exact True.intro | exact rfl | exact wv_top _ _ | exact fun _ => rfl | assumption | exact Eq.symm (by assumption) | exact vI0 rfl | refine And.intro ?_ ?_)
  · rw [hpick]
    repeat' (first | exact True.intro | exact rfl | exact wv_top _ _ | exact fun _ => rfl | assumption | exact Eq.symm (by assumption) | exact vI0 rfl | refine And.intro ?_ ?_)
end Go.Proofs.Ytolodncpegajkaa
namespace Go.Proofs.Ytolodncpegajkaa
set_option linter.all false
open Go.RowKit
theorem stB_keep {ps : List Pt} {gs : List Int} {i k : Nat} {b : Int × Int} (h : ¬ b.1 < 0) : ¬ (stB ps gs i k b).1 < 0 := by
  unfold stB
  split
  · exact h
  · split
    · show ¬ (i : Int) < 0; omega
    · exact h
theorem stB_hit {ps : List Pt} {gs : List Int} {i k : Nat} {b : Int × Int} (h : gs.getD i 0 ≠ gs.getD k 0) : ¬ (stB ps gs i k b).1 < 0 := by
  unfold stB
  rw [if_neg h]
  split
  · show ¬ (i : Int) < 0; omega
  · split
    · show ¬ (i : Int) < 0; omega
    · assumption
theorem scK_keep {ps : List Pt} {gs : List Int} {i : Nat} {b : Int × Int} (h : ¬ b.1 < 0) : ∀ j, ¬ (scK ps gs i b j).1 < 0
  | 0 => h
  | j + 1 => stB_keep (scK_keep h j)
theorem scK_hit {ps : List Pt} {gs : List Int} {i : Nat} {b : Int × Int} {d : Nat} (h : gs.getD i 0 ≠ gs.getD (i + 1 + d) 0) : ∀ j, d < j → ¬ (scK ps gs i b j).1 < 0
  | 0, hj => by omega
  | j + 1, hj => by
    rcases Nat.lt_or_ge d j with g | g
    · exact stB_keep (scK_hit h j g)
    · obtain rfl : d = j := by omega
      exact stB_hit h
theorem scI_hit {ps : List Pt} {gs : List Int} {u v : Nat} (huv : u < v) (hv : v < ps.length) (h : gs.getD u 0 ≠ gs.getD v 0) : ∀ i, u < i → i ≤ ps.length → ¬ (scI ps gs i).1 < 0
  | 0, hi, _ => by omega
  | i + 1, hi, hl => by
    rcases Nat.lt_or_ge u i with g | g
    · exact scK_keep (scI_hit huv hv h i g (by omega)) _
    · obtain rfl : u = i := by omega
      exact scK_hit (d := v - (u + 1)) (by rw [show u + 1 + (v - (u + 1)) = v by omega]; exact h) _ (by omega)
/-- How many of the first numbers stand in a list. -/
def cnD (gs : List Int) : Nat → Nat
  | 0 => 0
  | v + 1 => cnD gs v + (if (v : Int) ∈ gs then 1 else 0)
theorem cnD_one {gs : List Int} {c : Int} (h : ∀ x ∈ gs, x = c) : ∀ n, cnD gs n ≤ 1 ∧ (c < 0 ∨ (n : Int) ≤ c → cnD gs n = 0)
  | 0 => ⟨by simp [cnD], fun _ => rfl⟩
  | v + 1 => by
    obtain ⟨h1, h2⟩ := cnD_one h v
    simp only [cnD]
    by_cases hm : (v : Int) ∈ gs
    · have e := h _ hm
      rw [if_pos hm, h2 (by omega)]
      exact ⟨by omega, fun g => by omega⟩
    · rw [if_neg hm]
      exact ⟨by omega, fun g => by rw [h2 (by omega)]⟩
theorem get_mem {gs : List Int} {i : Nat} (h : i < gs.length) : gs.getD i 0 ∈ gs := by simp [List.getD, h]
theorem mem_get {gs : List Int} {x : Int} (h : x ∈ gs) : ∃ i, i < gs.length ∧ gs.getD i 0 = x := by
  obtain ⟨i, hi, e⟩ := List.mem_iff_getElem.1 h
  exact ⟨i, hi, by simp [List.getD, hi, e]⟩
/-- Two groups at least: two points are in different ones. -/
theorem two_diff {gs : List Int} {n : Nat} (h : 2 ≤ cnD gs n) : ∃ i k, i < k ∧ k < gs.length ∧ gs.getD i 0 ≠ gs.getD k 0 := by
  refine Classical.byContradiction fun hno => ?_
  have hall : ∀ x ∈ gs, x = gs.getD 0 0 := fun x hx => by
    obtain ⟨i, hi, rfl⟩ := mem_get hx
    refine Classical.byContradiction fun hne => ?_
    rcases Nat.eq_zero_or_pos i with rfl | h0
    · exact hne rfl
    · exact hno ⟨0, i, h0, hi, fun e => hne e.symm⟩
  have := (cnD_one hall n).1
  omega
/-- One group takes the number of another one. -/
def rlF (old nw : Int) (gs : List Int) : List Int := gs.map fun x => if x = old then nw else x
theorem rlF_len (old nw : Int) (gs : List Int) : (rlF old nw gs).length = gs.length := by unfold rlF; simp
theorem rlF_get {old nw : Int} {gs : List Int} {i : Nat} (h : i < gs.length) : (rlF old nw gs).getD i 0 = if gs.getD i 0 = old then nw else gs.getD i 0 := by
  unfold rlF
  simp [List.getD, h]
theorem rlF_mem {old nw : Int} {gs : List Int} (hne : nw ≠ old) (hn : nw ∈ gs) (x : Int) : x ∈ rlF old nw gs ↔ x ∈ gs ∧ x ≠ old := by
  unfold rlF
  rw [List.mem_map]
  constructor
  · rintro ⟨y, h1, rfl⟩
    split
    · exact ⟨hn, hne⟩
    · exact ⟨h1, by assumption⟩
  · rintro ⟨h1, h2⟩
    exact ⟨x, h1, if_neg h2⟩
theorem cnD_rl {old nw : Int} {gs : List Int} (hne : nw ≠ old) (hn : nw ∈ gs) (ho : old ∈ gs) (h0 : 0 ≤ old) : ∀ n : Nat, (old < (n : Int) → cnD (rlF old nw gs) n + 1 = cnD gs n) ∧ ((n : Int) ≤ old → cnD (rlF old nw gs) n = cnD gs n)
  | 0 => ⟨fun h => by omega, fun _ => rfl⟩
  | v + 1 => by
    obtain ⟨h1, h2⟩ := cnD_rl hne hn ho h0 v
    have hm := rlF_mem hne hn (v : Int)
    simp only [cnD]
    by_cases e : (v : Int) = old
    · have n1 : ¬ (v : Int) ∈ rlF old nw gs := fun h => (hm.1 h).2 e
      have n2 : (v : Int) ∈ gs := by rw [e]; exact ho
      rw [if_neg n1, if_pos n2, h2 (by omega)]
      exact ⟨fun _ => by omega, fun g => by omega⟩
    · have eq : (if (v : Int) ∈ rlF old nw gs then 1 else 0) = (if (v : Int) ∈ gs then 1 else 0 : Nat) := by
        by_cases g : (v : Int) ∈ gs
        · rw [if_pos g, if_pos (hm.2 ⟨g, e⟩)]
        · rw [if_neg g, if_neg fun h => g (hm.1 h).1]
      rw [eq]
      exact ⟨fun g => by have := h1 (by omega); omega, fun g => by rw [h2 (by omega)]⟩
/-- The first numbers. -/
def ioI : Nat → List Int
  | 0 => []
  | i + 1 => ioI i ++ [(i : Int)]
theorem ioI_len : ∀ n, (ioI n).length = n
  | 0 => rfl
  | n + 1 => by simp [ioI, ioI_len n]
theorem ioI_mem (x : Int) : ∀ n, x ∈ ioI n ↔ 0 ≤ x ∧ x < (n : Int)
  | 0 => by
    simp only [ioI, List.not_mem_nil, false_iff]
    omega
  | n + 1 => by
    simp only [ioI, List.mem_append, List.mem_singleton, ioI_mem x n]
    omega
theorem cnD_io (n : Nat) : ∀ m, m ≤ n → cnD (ioI n) m = m
  | 0, _ => rfl
  | m + 1, h => by
    simp only [cnD]
    rw [cnD_io n m (by omega), if_pos ((ioI_mem _ n).2 ⟨by omega, by omega⟩)]
/-- The edges, and the groups, after so many rounds. -/
def spO (ps : List Pt) : Nat → List Pt × List Int
  | 0 => ([], ioI ps.length)
  | t + 1 => ((spO ps t).1 ++ [scI ps (spO ps t).2 ps.length], rlF ((spO ps t).2.getD (scI ps (spO ps t).2 ps.length).2.toNat 0) ((spO ps t).2.getD (scI ps (spO ps t).2 ps.length).1.toNat 0) (spO ps t).2)
theorem spO_ok (ps : List Pt) : ∀ t, t ≤ ps.length - 1 → (spO ps t).1.length = t ∧ (spO ps t).2.length = ps.length ∧ (∀ x ∈ (spO ps t).2, 0 ≤ x ∧ x < (ps.length : Int)) ∧ cnD (spO ps t).2 ps.length + t = ps.length
  | 0, _ => ⟨rfl, ioI_len _, fun x hx => (ioI_mem x _).1 hx, by rw [show (spO ps 0).2 = ioI ps.length from rfl, cnD_io _ _ (Nat.le_refl _)]; exact Nat.add_zero _⟩
  | t + 1, h => by
    obtain ⟨h1, h2, h3, h4⟩ := spO_ok ps t (by omega)
    obtain ⟨u, v, g1, g2, g3⟩ := two_diff (gs := (spO ps t).2) (n := ps.length) (by omega)
    have hit := scI_hit (ps := ps) g1 (by omega) g3 ps.length (by omega) (Nat.le_refl _)
    obtain ⟨b1, b2, b3, b4, b5⟩ := (scI_v ps (spO ps t).2 ps.length (Nat.le_refl _)).resolve_left hit
    have m1 := get_mem (gs := (spO ps t).2) (i := (scI ps (spO ps t).2 ps.length).1.toNat) (by omega)
    have m2 := get_mem (gs := (spO ps t).2) (i := (scI ps (spO ps t).2 ps.length).2.toNat) (by omega)
    simp only [spO]
    refine ⟨by rw [List.length_append, h1]; rfl, by rw [rlF_len, h2], fun x hx => h3 x ((rlF_mem b5 m1 x).1 hx).1, ?_⟩
    have k := (cnD_rl b5 m1 m2 (h3 _ m2).1 ps.length).1 (h3 _ m2).2
    omega
/-- There is an edge while there are two groups. -/
theorem spO_hit {ps : List Pt} {t : Nat} (h : t + 1 < ps.length) : 0 ≤ (scI ps (spO ps t).2 ps.length).1 ∧ (scI ps (spO ps t).2 ps.length).1 < ps.length ∧ 0 ≤ (scI ps (spO ps t).2 ps.length).2 ∧ (scI ps (spO ps t).2 ps.length).2 < ps.length ∧ (spO ps t).2.getD (scI ps (spO ps t).2 ps.length).1.toNat 0 ≠ (spO ps t).2.getD (scI ps (spO ps t).2 ps.length).2.toNat 0 := by
  obtain ⟨h1, h2, h3, h4⟩ := spO_ok ps t (by omega)
  obtain ⟨u, v, g1, g2, g3⟩ := two_diff (gs := (spO ps t).2) (n := ps.length) (by omega)
  exact (scI_v ps (spO ps t).2 ps.length (Nat.le_refl _)).resolve_left (scI_hit (ps := ps) g1 (by omega) g3 ps.length (by omega) (Nat.le_refl _))
end Go.Proofs.Ytolodncpegajkaa
