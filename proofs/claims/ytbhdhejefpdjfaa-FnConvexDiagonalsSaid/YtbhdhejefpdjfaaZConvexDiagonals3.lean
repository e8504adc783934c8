/-
  Texts that the proof needs, merged. Written by an AI agent.
-/
import Derived.Orders
import Derived.Below
import Derived.OrdersIn
import Derived.Deep.LoopGhost
import Derived.WalkKit
import Derived.Laws.CopyRow
import Derived.Laws.AppendOwn
import Derived.Laws.Slices
import Derived.Laws.MakeOwn
import Derived.Test.YtbhdhejefpdjfaaRows
import Derived.ProofKit
import Derived.OpenShut
import Derived.Carry
import Derived.IntWalk
import Derived.Test.YtbhdhejefpdjfaaProg
import Derived.WalkSpells
import Derived.WalkLawsBesides
import Derived.Lib.Hide
import Derived.Deep.QuietTactic
import Derived.BigQuiet
import Derived.KernelRfl
import Derived.Deep.RegionHeld3
import Derived.LoopTactic
import Derived.Laws.StructEq
import Derived.Laws.Tables
import Derived.RangeFuncNested
import Derived.RangeFuncLeaves
import Derived.Deep.Slices
import Derived.Deep.Fields
import Derived.ChangeSame
import Derived.Deep.DeepCutAuto
import Derived.Shelf.SlSortCmp.WholeK
import Derived.Sort.Grow
import Derived.Shelf.SlSortCmp.NoneTotal
import Derived.Test.YtbhdhejefpdjfaaZConvexDiagonals2
namespace Go.Proofs.Ytbhdhejefpdjfaa
set_option linter.all false
open Go.RowKit
abbrev iv (x : Int) : Value := .int .i64 x
def B0 : Tab := fun _ _ => none
theorem B0_ok : TabOk Try.prog B0 := fun _ _ _ _ h => by cases h
theorem mixed : Try.prog.follows .mixedOrders = true := by kernel_rfl
set_option maxRecDepth 100000 in
theorem tr_specValid (x y : Int) : runX Try.prog (tabE B0) 30 8 20 [.v (.agg #[iv x, iv y])] (fun u => .fin u []) = brT (decide (-1000 ≤ x)) (brT (decide (x ≤ 1000)) (brT (decide (-1000 ≤ y)) (.fin (.bool (decide (y ≤ 1000))) []) (.fin (.bool (false)) [])) (.fin (.bool (false)) [])) (.fin (.bool (false)) []) := by kernel_rfl
set_option maxRecDepth 100000 in
theorem tr_implValid (x y : Int) : runX Try.prog (tabE B0) 30 8 17 [.v (.agg #[iv x, iv y])] (fun u => .fin u []) = brT (decide (IntKind.i64.wrap (0 - 1000) ≤ x)) (brT (decide (x ≤ 1000)) (brT (decide (IntKind.i64.wrap (0 - 1000) ≤ y)) (.fin (.bool (decide (y ≤ 1000))) []) (.fin (.bool (false)) [])) (.fin (.bool (false)) [])) (.fin (.bool (false)) []) := by kernel_rfl
set_option maxRecDepth 100000 in
theorem tr_compare (x y : Int) : runX Try.prog (tabE B0) 30 8 67 [.v (iv x), .v (iv y)] (fun u => .fin u []) = brT (!x == x) (brT (!y == y) (.fin (.int .i64 (0)) []) (.fin (.int .i64 (-1)) [])) (brT (!y == y) (.fin (.int .i64 (1)) []) (brT (decide (x < y)) (.fin (.int .i64 (-1)) []) (brT (decide (y < x)) (.fin (.int .i64 (1)) []) (.fin (.int .i64 (0)) [])))) := by kernel_rfl
set_option maxRecDepth 100000 in
theorem tr_specSign (x : Int) : runX Try.prog (tabE B0) 30 8 64 [.v (iv x)] (fun u => .fin u []) = brT (decide (x < 0)) (.fin (.int .i64 (-1)) []) (brT (decide (0 < x)) (.fin (.int .i64 (1)) []) (.fin (.int .i64 (0)) [])) := by kernel_rfl
set_option maxRecDepth 100000 in
theorem tr_implSign (x : Int) : runX Try.prog (tabE B0) 30 8 62 [.v (iv x)] (fun u => .fin u []) = brT (!x == x) (.fin (.int .i64 (-1)) []) (brT (decide (x < 0)) (.fin (.int .i64 (-1)) []) (brT (decide (0 < x)) (.fin (.int .i64 (1)) []) (.fin (.int .i64 (0)) []))) := by kernel_rfl
theorem w1000 : IntKind.i64.wrap (0 - 1000) = -1000 := by decide
/-- The comparison of two numbers. -/
def cmpI (x y : Int) : Int := if x < y then -1 else if y < x then 1 else 0
theorem vbool_eq {a b : Bool} (h : a = b) : Value.bool a = .bool b := by rw [h]
theorem res_specValid (x y : Int) : Res Try.prog 20 [.v (.agg #[iv x, iv y])] (.bool (ptB x y)) := by
  refine res_of mixed (tabE_ok B0_ok) (m := 30) (n := 8) ?_
  rw [tr_specValid]
  simp only [brT_ok, Tree.ok, decide_eq_true_eq, decide_eq_false_iff_not]
  repeat' (first | apply And.intro | intro _)
  all_goals (refine vbool_eq ?_; unfold ptB; rw [Bool.eq_iff_iff]; simp; try omega)
theorem res_implValid (x y : Int) : Res Try.prog 17 [.v (.agg #[iv x, iv y])] (.bool (ptB x y)) := by
  refine res_of mixed (tabE_ok B0_ok) (m := 30) (n := 8) ?_
  rw [tr_implValid]
  simp only [brT_ok, Tree.ok, decide_eq_true_eq, decide_eq_false_iff_not, w1000]
  repeat' (first | apply And.intro | intro _)
  all_goals (refine vbool_eq ?_; unfold ptB; rw [Bool.eq_iff_iff]; simp; try omega)
theorem res_compare (x y : Int) : Res Try.prog 67 [.v (iv x), .v (iv y)] (iv (cmpI x y)) := by
  refine res_of mixed (tabE_ok B0_ok) (m := 30) (n := 8) ?_
  rw [tr_compare]
  simp [brT_ok, Tree.ok]
  repeat' (first | apply And.intro | intro _)
  all_goals (unfold cmpI; split <;> (try split) <;> omega)
theorem res_specSign (x : Int) : Res Try.prog 64 [.v (iv x)] (iv (cmpI x 0)) := by
  refine res_of mixed (tabE_ok B0_ok) (m := 30) (n := 8) ?_
  rw [tr_specSign]
  simp [brT_ok, Tree.ok]
  repeat' (first | apply And.intro | intro _)
  all_goals (unfold cmpI; split <;> (try split) <;> omega)
theorem res_implSign (x : Int) : Res Try.prog 62 [.v (iv x)] (iv (cmpI x 0)) := by
  refine res_of mixed (tabE_ok B0_ok) (m := 30) (n := 8) ?_
  rw [tr_implSign]
  simp [brT_ok, Tree.ok]
  repeat' (first | apply And.intro | intro _)
  all_goals (unfold cmpI; split <;> (try split) <;> omega)
end Go.Proofs.Ytbhdhejefpdjfaa
namespace Go.Proofs.Ytbhdhejefpdjfaa
set_option linter.all false
open Go.RowKit
theorem entersB_res {f : FuncId} (h : entersB Try.prog f = true) : enters Try.prog f ∧ Try.prog.inits.idxOf? f = none := by
  unfold entersB at h
  split at h
  · rename_i fn hf
    obtain ⟨h1, h2, _⟩ := entersB_spec hf (by unfold entersB; rw [hf]; exact h)
    exact ⟨h1, h2⟩
  · cases h
/-- A contract of a function of plain values, as it stands. -/
theorem res_calls {f : FuncId} {args : List Value} {v : Value} (he : entersB Try.prog f = true) (hp : args.all plainV = true) (hv : plainV v = true) (h : ∀ w, Calls Try.prog f args.toArray w fun e w' => e = .returned v ∧ Below w.heap.size w w') : Res Try.prog f (args.map .v) v := by
  obtain ⟨h1, h2⟩ := entersB_res he
  refine ⟨h1, h2, hv, fun d hd => ?_, fun w ys hd => ?_⟩
  · obtain ⟨x, hx, rfl⟩ := List.mem_map.1 hd
    exact List.all_eq_true.1 hp x hx
  · have e : ys = args.toArray := by
      apply Array.ext
      · simpa using hd.1.symm
      · intro i i1 i2
        have e1 : (args.map DArg.v)[i]? = some (.v (args[i]'(by simpa using i2))) := by simp
        exact (hd.2 i _ ys[i] e1 (by simp [i1])).2
    rw [e]
    exact h w
def pPt : List DArg → Option (Value × List Prop)
  | [.v (.agg ⟨[.int .i64 x, .int .i64 y]⟩)] => some (.bool (ptB x y), [])
  | _ => none
def pCmp : List DArg → Option (Value × List Prop)
  | [.v (.int .i64 x), .v (.int .i64 y)] => some (iv (cmpI x y), [])
  | _ => none
def pSign : List DArg → Option (Value × List Prop)
  | [.v (.int .i64 x)] => some (iv (cmpI x 0), [])
  | _ => none
def pAll : List DArg → Option (Value × List Prop)
  | [.row 2 (.vals [.int .i64 ax, .int .i64 ay, .int .i64 bx, .int .i64 b_y])] => some (.bool (ptB ax ay && ptB bx b_y), [])
  | [.row 3 (.vals [.int .i64 ax, .int .i64 ay, .int .i64 bx, .int .i64 b_y, .int .i64 cx, .int .i64 cy])] => some (.bool (ptB ax ay && ptB bx b_y && ptB cx cy), [])
  | [.row 4 (.vals [.int .i64 ax, .int .i64 ay, .int .i64 bx, .int .i64 b_y, .int .i64 cx, .int .i64 cy, .int .i64 dx, .int .i64 dy])] => some (.bool (ptB ax ay && ptB bx b_y && (ptB cx cy && ptB dx dy)), [])
  | _ => none
def T1 : Tab := fun f ds => match f with
  | 20 => pPt ds
  | 17 => pPt ds
  | 67 => pCmp ds
  | 64 => pSign ds
  | 62 => pSign ds
  | 32 => pAll ds
  | _ => none
theorem row_open {w : World} {l : Nat} {cs : Cs} {y : Value} (hl : 0 < l) (h : DOk w (.row l cs) y) : ∃ g f c', y = .slice (some ⟨g, f, none⟩) l c' ∧ l ≤ c' ∧ g < w.heap.size ∧ ∀ (k : Nat) v, cs.list[k]? = some v → w.cell? ⟨g, f + k, none⟩ = some v := by
  obtain ⟨_, ad, c', h1, h2, h3⟩ := h
  obtain ⟨g, f, rfl, h4, h5⟩ := h3.resolve_left (by omega)
  exact ⟨g, f, c', h1, h2, h4, h5⟩
theorem res_row {f : FuncId} {l : Nat} {cs : Cs} {v : Value} (hl : 0 < l) (he : entersB Try.prog f = true) (hv : plainV v = true) (hat : allAtoms cs = true) (h : ∀ w g o c', l ≤ c' → g < w.heap.size → (∀ (k : Nat) v, cs.list[k]? = some v → w.cell? ⟨g, o + k, none⟩ = some v) →
    Calls Try.prog f #[.slice (some ⟨g, o, none⟩) l c'] w fun e w' => e = .returned v ∧ Below w.heap.size w w') : Res Try.prog f [.row l cs] v := by
  obtain ⟨h1, h2⟩ := entersB_res he
  refine ⟨h1, h2, hv, fun d hd => ?_, fun w ys hd => ?_⟩
  · obtain rfl : d = .row l cs := by simpa using hd
    exact hat
  · have hs := hd.1
    have h0 : ys[0]? = some (ys[0]'(by simp at hs; omega)) := by simp
    obtain ⟨g, o, c', e1, e2, e3, e4⟩ := row_open hl (hd.2 0 _ _ rfl h0)
    have e : ys = #[.slice (some ⟨g, o, none⟩) l c'] := by
      apply Array.ext
      · simpa using hs.symm
      · intro i i1 i2
        have : i = 0 := by simp at i2; omega
        subst this
        simpa using e1
    rw [e]
    exact h w g o c' e2 e3 e4
theorem T1r_0 {ds : List DArg} {v : Value} {C : List Prop} (h : pPt ds = some (v, C)) (hC : AllP C) : Res Try.prog 20 ds v := by
  unfold pPt at h
  split at h
  · obtain ⟨rfl, rfl⟩ : _ ∧ _ := by simpa using h
    exact res_specValid _ _
  · cases h
theorem T1r_1 {ds : List DArg} {v : Value} {C : List Prop} (h : pPt ds = some (v, C)) (hC : AllP C) : Res Try.prog 17 ds v := by
  unfold pPt at h
  split at h
  · obtain ⟨rfl, rfl⟩ : _ ∧ _ := by simpa using h
    exact res_implValid _ _
  · cases h
theorem T1r_2 {ds : List DArg} {v : Value} {C : List Prop} (h : pCmp ds = some (v, C)) (hC : AllP C) : Res Try.prog 67 ds v := by
  unfold pCmp at h
  split at h
  · obtain ⟨rfl, rfl⟩ : _ ∧ _ := by simpa using h
    exact res_compare _ _
  · cases h
theorem T1r_3 {ds : List DArg} {v : Value} {C : List Prop} (h : pSign ds = some (v, C)) (hC : AllP C) : Res Try.prog 64 ds v := by
  unfold pSign at h
  split at h
  · obtain ⟨rfl, rfl⟩ : _ ∧ _ := by simpa using h
    exact res_specSign _
  · cases h
theorem T1r_4 {ds : List DArg} {v : Value} {C : List Prop} (h : pSign ds = some (v, C)) (hC : AllP C) : Res Try.prog 62 ds v := by
  unfold pSign at h
  split at h
  · obtain ⟨rfl, rfl⟩ : _ ∧ _ := by simpa using h
    exact res_implSign _
  · cases h
theorem T1r_10 {ds : List DArg} {v : Value} {C : List Prop} (h : pAll ds = some (v, C)) (hC : AllP C) : Res Try.prog 32 ds v := by
  unfold pAll at h
  split at h
  · rename_i ax ay bx b_y
    obtain ⟨rfl, rfl⟩ : _ ∧ _ := by simpa using h
    refine res_row (by decide) (by kernel_rfl) rfl rfl fun w g o c' _ hg hcell => ?_
    have := allValid_any (some ⟨g, o, none⟩) 2 c' (pick2 ax bx) (pick2 ay b_y) w (by omega) (fun k hk => ⟨g, o, rfl, hg, by
      match k, hk with
      | 0, _ => exact ⟨hcell 0 _ rfl, hcell 1 _ rfl⟩
      | 1, _ => exact ⟨hcell 2 _ rfl, hcell 3 _ rfl⟩⟩)
    rw [allB2] at this
    exact this
  · rename_i ax ay bx b_y cx cy
    obtain ⟨rfl, rfl⟩ : _ ∧ _ := by simpa using h
    refine res_row (by decide) (by kernel_rfl) rfl rfl fun w g o c' _ hg hcell => ?_
    have := allValid_any (some ⟨g, o, none⟩) 3 c' (pick3 ax bx cx) (pick3 ay b_y cy) w (by omega) (fun k hk => ⟨g, o, rfl, hg, by
      match k, hk with
      | 0, _ => exact ⟨hcell 0 _ rfl, hcell 1 _ rfl⟩
      | 1, _ => exact ⟨hcell 2 _ rfl, hcell 3 _ rfl⟩
      | 2, _ => exact ⟨hcell 4 _ rfl, hcell 5 _ rfl⟩⟩)
    rw [allB3] at this
    exact this
  · rename_i ax ay bx b_y cx cy dx dy
    obtain ⟨rfl, rfl⟩ : _ ∧ _ := by simpa using h
    refine res_row (by decide) (by kernel_rfl) rfl rfl fun w g o c' _ hg hcell => ?_
    have := allValid_any (some ⟨g, o, none⟩) 4 c' (fun k => match k with
      | 0 => ax
      | 1 => bx
      | 2 => cx
      | _ => dx) (fun k => match k with
      | 0 => ay
      | 1 => b_y
      | 2 => cy
      | _ => dy) w (by omega) (fun k hk => ⟨g, o, rfl, hg, by
      match k, hk with
      | 0, _ => exact ⟨hcell 0 _ rfl, hcell 1 _ rfl⟩
      | 1, _ => exact ⟨hcell 2 _ rfl, hcell 3 _ rfl⟩
      | 2, _ => exact ⟨hcell 4 _ rfl, hcell 5 _ rfl⟩
      | 3, _ => exact ⟨hcell 6 _ rfl, hcell 7 _ rfl⟩⟩)
    rw [allB_succ, allB_succ, allB_succ, allB_succ, allB_zero] at this
    simpa [Bool.and_assoc] using this
  · cases h
theorem T1_ok : TabOk Try.prog T1 := by
  intro f ds v C h hC
  unfold T1 at h
  (try split at h)
  all_goals first | with_reducible exact T1r_0 h hC | with_reducible exact T1r_1 h hC | with_reducible exact T1r_2 h hC | with_reducible exact T1r_3 h hC | with_reducible exact T1r_4 h hC | with_reducible exact T1r_5 h hC | with_reducible exact T1r_6 h hC | with_reducible exact T1r_7 h hC | with_reducible exact T1r_8 h hC | with_reducible exact T1r_9 h hC | with_reducible exact T1r_10 h hC | cases h
end Go.Proofs.Ytbhdhejefpdjfaa
namespace Go.Proofs.Ytbhdhejefpdjfaa
set_option linter.all false
open Go.RowKit
theorem DOk.ints {w : World} {l : Nat} {cs : Cs} {xs : List Int} (h : cs.list = xs.map (Value.int .i64)) {y : Value} (k : DOk w (.row l cs) y) : DOk w (.row l (.ints xs)) y := by
  obtain ⟨_, ad, c', h2, h3, h4⟩ := k
  refine ⟨rfl, ad, c', h2, h3, h4.imp id ?_⟩
  rintro ⟨g, f, h5, h6, h7⟩
  exact ⟨g, f, h5, h6, fun j v hv => h7 j v (by rw [h]; exact hv)⟩
/-- What is known for a row of ints is known for the same cells written otherwise. -/
theorem DOks.ints {w : World} : ∀ {ds ds' : List DArg} {args : Array Value}, DOks w ds args → ds.length = ds'.length → (∀ (i : Nat) d d', ds[i]? = some d → ds'[i]? = some d' → d = d' ∨ ∃ l cs xs, d = .row l cs ∧ d' = .row l (.ints xs) ∧ cs.list = xs.map (Value.int .i64)) → DOks w ds' args := by
  intro ds ds' args h hl hi
  refine ⟨by rw [← hl]; exact h.1, fun i d' y hd' hy => ?_⟩
  have hlt : i < ds.length := by rw [hl]; exact (List.getElem?_eq_some_iff.1 hd').1
  have hd : ds[i]? = some ds[i] := by simp [hlt]
  have h0 := h.2 i ds[i] y hd hy
  rcases hi i ds[i] d' hd hd' with e | ⟨l, cs, xs, e1, e2, e3⟩
  · rw [← e]; exact h0
  · rw [e1] at h0
    rw [e2]
    exact h0.ints e3
end Go.Proofs.Ytbhdhejefpdjfaa
namespace Go.Proofs.Ytbhdhejefpdjfaa
set_option linter.all false
open Go.RowKit
abbrev Pt := Int × Int
def flat : List Pt → List Int
  | [] => []
  | p :: r => p.1 :: p.2 :: flat r
def pts : List Int → List Pt
  | a :: b :: r => (a, b) :: pts r
  | _ => []
theorem pts_flat : ∀ ps, pts (flat ps) = ps
  | [] => rfl
  | p :: r => by simp [flat, pts, pts_flat r]
theorem flat_length : ∀ ps, (flat ps).length = ps.length * 2
  | [] => rfl
  | p :: r => by simp [flat, flat_length r]; omega
theorem flat_pts : ∀ (n : Nat) (xs : List Int), xs.length = n * 2 → flat (pts xs) = xs ∧ (pts xs).length = n
  | 0, xs, h => by
    obtain rfl : xs = [] := List.eq_nil_of_length_eq_zero (by omega)
    exact ⟨rfl, rfl⟩
  | n + 1, xs, h => by
    match xs, h with
    | a :: b :: r, h =>
      obtain ⟨h1, h2⟩ := flat_pts n r (by simp at h; omega)
      exact ⟨by simp [pts, flat, h1], by simp [pts, h2]⟩
    | [a], h => simp at h; omega
    | [], h => simp at h
theorem even_flat {n : Nat} {xs : List Int} (h : xs.length = n * 2) : ∃ ps : List Pt, xs = flat ps ∧ ps.length = n :=
  ⟨pts xs, (flat_pts n xs h).1.symm, (flat_pts n xs h).2⟩
theorem flat_append : ∀ a b, flat (a ++ b) = flat a ++ flat b
  | [], b => rfl
  | p :: r, b => by simp [flat, flat_append r b]
theorem flat_drop : ∀ (ps : List Pt) (k : Nat), (flat ps).drop (k * 2) = flat (ps.drop k)
  | ps, 0 => by simp
  | [], k + 1 => by simp [flat]
  | p :: r, k + 1 => by
    rw [show (k + 1) * 2 = k * 2 + 2 by omega]
    simp [flat, flat_drop r k]
theorem flat_take : ∀ (ps : List Pt) (k : Nat), (flat ps).take (k * 2) = flat (ps.take k)
  | ps, 0 => by simp [flat]
  | [], k + 1 => by simp [flat]
  | p :: r, k + 1 => by
    rw [show (k + 1) * 2 = k * 2 + 2 by omega]
    simp [flat, flat_take r k]
theorem flat_all (ps : List Pt) : (flat ps).take (ps.length * 2) = flat ps := by rw [flat_take, List.take_length]
theorem flat_get : ∀ (ps : List Pt) (k : Nat), (flat ps).getD (k * 2) 0 = (ps.getD k (0, 0)).1 ∧ (flat ps).getD (k * 2 + 1) 0 = (ps.getD k (0, 0)).2
  | [], k => by simp [flat]
  | p :: r, 0 => by simp [flat]
  | p :: r, k + 1 => by
    obtain ⟨h1, h2⟩ := flat_get r k
    rw [show (k + 1) * 2 = k * 2 + 2 by omega, show k * 2 + 2 + 1 = k * 2 + 1 + 2 by omega]
    simp only [flat, List.getD_eq_getElem?_getD, List.getElem?_cons_succ] at h1 h2 ⊢
    exact ⟨h1, h2⟩
theorem flat_get0 (ps : List Pt) (k : Nat) : (flat ps).getD (k * 2) 0 = (ps.getD k (0, 0)).1 := (flat_get ps k).1
theorem flat_get1 (ps : List Pt) (k : Nat) : (flat ps).getD (k * 2 + 1) 0 = (ps.getD k (0, 0)).2 := (flat_get ps k).2
theorem flat_set (ps : List Pt) (k : Nat) (h : k < ps.length) (a b : Int) : setInts (flat ps) (k * 2) [a, b] = flat (ps.set k (a, b)) := by
  have e : ps = ps.take k ++ ps[k] :: ps.drop (k + 1) := by simp
  have hl : (ps.take k).length = k := by simp; omega
  unfold setInts
  rw [flat_take, show k * 2 + [a, b].length = (k + 1) * 2 by simp; omega, flat_drop]
  rw [List.set_eq_take_append_cons_drop, if_pos h, flat_append]
  simp [flat]
theorem flat_snoc (ps : List Pt) (a b : Int) : flat ps ++ [a, b] = flat (ps ++ [(a, b)]) := by rw [flat_append]; rfl
theorem drop_cons {α : Type} {l : List α} {k : Nat} (h : k < l.length) (d : α) : l.drop k = l.getD k d :: l.drop (k + 1) := by
  rw [List.drop_eq_getElem_cons h]
  simp [h]
theorem wr {x : Int} (h : -9223372036854775808 ≤ x ∧ x ≤ 9223372036854775807) : IntKind.i64.wrap x = x := by
  rw [IntKind.wrap_i64]
  omega
theorem wsucc {i n : Nat} (h : i < n) (hn : n ≤ 1000000000) : IntKind.i64.wrap ((i : Int) + 1) = ((i + 1 : Nat) : Int) := by
  rw [wr (by omega)]; omega
theorem all_drop {α : Type} {l : List α} {k : Nat} (h : k < l.length) (d : α) (P : α → Bool) : (l.drop k).all P = (P (l.getD k d) && (l.drop (k + 1)).all P) := by rw [drop_cons h d]; rfl
theorem all_end {α : Type} {l : List α} {k : Nat} (h : l.length ≤ k) (P : α → Bool) : (l.drop k).all P = true := by rw [List.drop_of_length_le h]; rfl
theorem pick2k {b : Bool} {k : Ex → St → Tree} {e1 e2 : Ex} {s1 s2 : St} {F : Ex → St → Prop} {H : Value → List (Option Blk) → Prop} (h : (brT b (k e1 s1) (k e2 s2)).ok F H) : (k (bif b then e1 else e2) (bif b then s1 else s2)).ok F H := by
  cases b
  · exact h
  · exact h
/-- A loop's body on a state, cut at its ends to what is looked at again: keep tells which slots, M how many names. -/
def bodyL (P : Program) (E : Env) (m n : Nat) (lt : LT) (j : Nat) (c : Code) (keep : Ex → List Nat) (M : Nat) (s : St) : Tree := runN P E.R E.J (asK P E (runM P E m n)) (runM P E m n) lt noR m c j (fun e s' => .leaf e (cutS M (keep e) s')) s
theorem body_det {P : Program} (hm : P.follows .mixedOrders = true) {E : Env} (hE : EnvOk P E) {m n : Nat} {lt : LT} {j : Nat} {c : Code} (hL : LoopsGood P lt j c) {keep : Ex → List Nat} {M : Nat} {s : St} {F : Ex → St → Prop} (h : (bodyL P E m n lt j c keep M s).ok F (fun _ _ => False)) :
    ∃ e' s', Det P c s e' s' ∧ F e' (cutS M (keep e') s') := by
  obtain ⟨e', s', h1, h2⟩ := runN_det hE.R hE.J (asK_ok hE (runM_ok hm hE m n)) (runM_ok hm hE m n) hm c j hL noR_good _ F _ s h
  exact ⟨e', s', h2, h1⟩
theorem noLoops {P : Program} {lt : LT} {j : Nat} {c : Code} (h : loopsOf c = []) : LoopsGood P lt j c := fun i d hd => by rw [h] at hd; simp at hd
/-- Which slots are looked at again: behind a round, behind an exit, behind the function's end. -/
def keeps (nrm : List Nat) (exits : List (Nat × List Nat)) (ret : List Nat) : Ex → List Nat
  | .normal => nrm
  | .exit id => (exits.lookup id).getD []
  | .ret => ret
/-- The end of a round. -/
def RoundEnd {X : Type} (N : Nat) (St_of : X → St) (Inv : X → Prop) (μ : X → Nat) (re : X → Ex) (rs : X → St) (x : X) (e : Ex) (s : St) : Prop :=
  match e with
  | .normal => ∃ x' π, Inv x' ∧ μ x' < μ x ∧ re x' = re x ∧ rs x' = rs x ∧ WS N π s (St_of x')
  | e => e = re x ∧ ∃ π, WS N π s (rs x)
theorem loop_run {P : Program} (hm : P.follows .mixedOrders = true) {E : Env} (hE : EnvOk P E) {m n : Nat} {lt : LT} {j : Nat} {c : Code} {N : Nat} {X : Type} (St_of : X → St) (Inv : X → Prop) (μ : X → Nat) (re : X → Ex) (rs : X → St) (keep : Ex → List Nat) {M : Nat} (hM : ∀ x, (St_of x).mem.length = M) (hL : LoopsGood P lt j c)
    (h : ∀ x, Inv x → (bodyL P E m n lt j c keep M (St_of x)).ok (RoundEnd N St_of Inv μ re rs x) (fun _ _ => False))
    {x : X} (hx : Inv x) {s : St} {π : List (Option Nat)} (hN : s.mem.length = N) (hs : WS N π s (St_of x)) : Det P (.loop c) s (re x) (rs x) :=
  loop_det St_of Inv μ re rs keep (fun x hx => by
    obtain ⟨e', s', h1, h2⟩ := body_det hm hE hL (h x hx)
    refine ⟨e', s', h1, ?_⟩
    rw [hM]
    unfold RoundEnd at h2
    cases e' <;> exact h2) hx hN hs
theorem wv_top (f : Nat → Option (Option Nat)) (v : Value) : wv f v topV := by
  cases v <;> exact True.intro
/-- Some slots of a frame; a frame of which only some slots are known. -/
def pickL (l : List Value) (idx : List Nat) : List Value := idx.map fun i => l.getD i undef
def lookV : List Nat → List Value → Nat → Value
  | i :: r, v :: vs, j => if i = j then v else lookV r vs j
  | _, _, _ => topV
def spread (n : Nat) (idx : List Nat) (vals : List Value) : List Value := (List.range n).map (lookV idx vals)
theorem lookV_ok {f : Nat → Option (Option Nat)} {l : List Value} : ∀ {idx : List Nat} {vals : List Value}, wvs f (pickL l idx) vals → ∀ j, wv f (l.getD j undef) (lookV idx vals j)
  | [], [], _, j => wv_top _ _
  | [], _ :: _, h, _ => h.elim
  | _ :: _, [], h, _ => h.elim
  | i :: r, v :: vs, h, j => by
    unfold lookV
    split
    · rename_i hij
      subst hij
      exact h.1
    · exact lookV_ok h.2 j
theorem wvs_of {f : Nat → Option (Option Nat)} : ∀ {l l' : List Value}, l.length = l'.length → (∀ j, j < l.length → wv f (l.getD j undef) (l'.getD j undef)) → wvs f l l'
  | [], [], _, _ => trivial
  | [], _ :: _, h, _ => by simp at h
  | _ :: _, [], h, _ => by simp at h
  | a :: r, b :: r', h, hj => ⟨hj 0 (by simp), wvs_of (by simpa using h) fun j hj' => by simpa using hj (j + 1) (by simpa using hj')⟩
theorem wvs_spread {f : Nat → Option (Option Nat)} {l vals l' : List Value} {n : Nat} {idx : List Nat} (hl : Nat.beq l.length n = true) (he : l' = spread n idx vals) (h : wvs f (pickL l idx) vals) : wvs f l l' := by
  have hl := Nat.eq_of_beq_eq_true hl
  subst he
  refine wvs_of (by simp [spread, hl]) fun j hj => ?_
  have : (spread n idx vals).getD j undef = lookV idx vals j := by
    have : j < n := by omega
    simp [spread, this]
  rw [this]
  exact lookV_ok h j
theorem wvs_spread' {f : Nat → Option (Option Nat)} {l l' : List Value} {n : Nat} (idx : List Nat) (hl : Nat.beq l.length n = true) (he : l' = spread n idx (pickL l' idx)) (h : wvs f (pickL l idx) (pickL l' idx)) : wvs f l l' := wvs_spread hl he h
/-- An entry for a loop is sound. -/
def LoopE (P : Program) (e : St → (Ex → St → Tree) → Option Tree) (c : Code) : Prop := ∀ s k t F H, e s k = some t → t.ok F H → ∃ e' s', (k e' s').ok F H ∧ Det P (.loop c) s e' s'
/-- A function with one loop. -/
def lt1 (e : St → (Ex → St → Tree) → Option Tree) : LT := fun j s k => match j with
  | 0 => e s k
  | _ => none
theorem lt1_good {P : Program} {e : St → (Ex → St → Tree) → Option Tree} {c : Code} (h : LoopE P e (((loopsOf c)[0]?).getD .skip)) : LoopsGood P (lt1 e) 0 c := by
  intro i d hd s k t F H hlt ht
  rw [Nat.zero_add] at hlt
  cases i with
  | zero =>
    rw [hd] at h
    exact h s k t F H hlt ht
  | succ i => cases hlt
def noL : LT := fun _ _ _ => none
theorem noL_good {P : Program} {j : Nat} {c : Code} : LoopsGood P noL j c := fun _ _ _ _ _ _ _ _ h => by cases h
/-- An argument's cells beyond what is asked. -/
theorem Res.more {P : Program} {f : FuncId} {ds ds' : List DArg} {v : Value} (h : Res P f ds' v) (hg : ∀ d ∈ ds, d.good) (hd : ∀ w args, DOks w ds args → DOks w ds' args) : Res P f ds v :=
  ⟨h.1, h.2.1, h.2.2.1, hg, fun w args ha => h.2.2.2.2 w args (hd w args ha)⟩
theorem ResR.more {P : Program} {f : FuncId} {ds ds' : List DArg} {v : Value} {b : Blk} (h : ResR P f ds' v b) (hg : ∀ d ∈ ds, d.good) (hd : ∀ w args, DOks w ds args → DOks w ds' args) : ResR P f ds v b :=
  ⟨h.1, h.2.1, h.2.2.1, hg, fun w args ha => h.2.2.2.2 w args (hd w args ha)⟩
/-- The first cells of a row argument. -/
theorem DOk.take {w : World} {l : Nat} {xs : List Int} {y : Value} (k : Nat) (h : DOk w (.row l (.ints xs)) y) : DOk w (.row l (.ints (xs.take k))) y := by
  obtain ⟨h1, ad, c', h2, h3, h4⟩ := h
  refine ⟨rfl, ad, c', h2, h3, h4.imp id ?_⟩
  rintro ⟨g, f, h5, h6, h7⟩
  refine ⟨g, f, h5, h6, fun j v hv => h7 j v ?_⟩
  simp only [Cs.list, List.getElem?_map] at hv ⊢
  rw [List.getElem?_take] at hv
  split at hv
  · exact hv
  · simp at hv
theorem DOks.imp {w : World} : ∀ {ds ds' : List DArg} {args : Array Value}, DOks w ds args → ds.length = ds'.length → (∀ (i : Nat) d d' y, ds[i]? = some d → ds'[i]? = some d' → DOk w d y → DOk w d' y) → DOks w ds' args := by
  intro ds ds' args h hl hi
  refine ⟨by rw [← hl]; exact h.1, fun i d' y hd' hy => ?_⟩
  have hlt : i < ds.length := by rw [hl]; exact (List.getElem?_eq_some_iff.1 hd').1
  exact hi i ds[i] d' y (by simp) hd' (h.2 i _ y (by simp) hy)
/-- The points of a row argument. -/
def ptsA (n : Nat) (xs : List Int) : List Pt := pts (xs.take (n * 2))
theorem ptsA_flat (ps : List Pt) : ptsA ps.length (flat ps) = ps := by
  unfold ptsA
  rw [flat_take, List.take_length, pts_flat]
theorem ptsA_spec {n : Nat} {xs : List Int} (h : n * 2 ≤ xs.length) : xs.take (n * 2) = flat (ptsA n xs) ∧ (ptsA n xs).length = n := by
  unfold ptsA
  have := flat_pts n (xs.take (n * 2)) (by simp; omega)
  exact ⟨this.1.symm, this.2⟩
/-- What is known for lists of points as they are is known for any cells. -/
theorem DOks.pts {w : World} {pre post : List DArg} {n : Nat} {xs : List Int} {args : Array Value} (ha : DOks w (pre ++ .row n (.ints xs) :: post) args) : DOks w (pre ++ .row n (.ints (xs.take (n * 2))) :: post) args := by
  refine ha.imp (by simp) fun i d d' y hd hd' hy => ?_
  rcases Nat.lt_or_ge i pre.length with hlt | hge
  · rw [List.getElem?_append_left hlt] at hd hd'
    rw [hd] at hd'
    obtain rfl : d = d' := by simpa using hd'
    exact hy
  · rw [List.getElem?_append_right hge] at hd hd'
    rcases hk : i - pre.length with _ | k
    · rw [hk] at hd hd'
      obtain rfl : DArg.row n (.ints xs) = d := by simpa using hd
      obtain rfl : DArg.row n (.ints (xs.take (n * 2))) = d' := by simpa using hd'
      exact hy.take _
    · rw [hk] at hd hd'
      simp only [List.getElem?_cons_succ] at hd hd'
      rw [hd] at hd'
      obtain rfl : d = d' := by simpa using hd'
      exact hy
theorem good_pts {pre post : List DArg} {n : Nat} {xs ys : List Int} (h : ∀ d ∈ pre ++ .row n (.ints xs) :: post, d.good) : ∀ d ∈ pre ++ .row n (.ints ys) :: post, d.good := by
  intro d hd
  rcases List.mem_append.1 hd with hd | hd
  · exact h d (List.mem_append_left _ hd)
  · rcases List.mem_cons.1 hd with rfl | hd
    · rfl
    · exact h d (List.mem_append_right _ (List.mem_cons_of_mem _ hd))
theorem res_pts1 {P : Program} {f : FuncId} {pre post : List DArg} {v : Value} {n : Nat} {xs : List Int} (hn : n * 2 ≤ xs.length) (h0 : Res P f (pre ++ .row (ptsA n xs).length (.ints (flat (ptsA n xs))) :: post) v) :
    Res P f (pre ++ .row n (.ints xs) :: post) v := by
  obtain ⟨h1, h2⟩ := ptsA_spec hn
  rw [h2, ← h1] at h0
  exact h0.more (good_pts h0.2.2.2.1) fun w args ha => ha.pts
theorem resR_pts1 {P : Program} {f : FuncId} {pre post : List DArg} {v : Value} {b : Blk} {n : Nat} {xs : List Int} (hn : n * 2 ≤ xs.length) (h0 : ResR P f (pre ++ .row (ptsA n xs).length (.ints (flat (ptsA n xs))) :: post) v b) :
    ResR P f (pre ++ .row n (.ints xs) :: post) v b := by
  obtain ⟨h1, h2⟩ := ptsA_spec hn
  rw [h2, ← h1] at h0
  exact h0.more (good_pts h0.2.2.2.1) fun w args ha => ha.pts
end Go.Proofs.Ytbhdhejefpdjfaa
namespace Go.Proofs.Ytbhdhejefpdjfaa
set_option linter.all false
open Go.RowKit
/-- Two points are equal. -/
def eqB (ax ay bx b_y : Int) : Bool := ax == bx && ay == b_y
def segB (ax ay bx b_y : Int) : Bool := ptB ax ay && ptB bx b_y && !(eqB ax ay bx b_y)
theorem set_is {W : World} {a : Addr} (v : Value) (h : (W.cell? a).isSome = true) : (W.setCell a v).cell? a = some v := by
  obtain ⟨u, hu⟩ := Option.isSome_iff_exists.mp h
  exact set_same v hu
theorem set_blk {W : World} {b g i j : Nat} (v : Value) (h : ¬ b = g) : (W.setCell ⟨g, i, none⟩ v).cell? ⟨b, j, none⟩ = W.cell? ⟨b, j, none⟩ :=
  World.cell?_setCell_other _ ⟨g, i, none⟩ ⟨b, j, none⟩ v (fun e => h (by cases e; rfl))
theorem set_off {W : World} {g i j : Nat} (v : Value) (h : ¬ j = i) : (W.setCell ⟨g, i, none⟩ v).cell? ⟨g, j, none⟩ = W.cell? ⟨g, j, none⟩ :=
  World.cell?_setCell_other _ ⟨g, i, none⟩ ⟨g, j, none⟩ v (fun e => h (by cases e; rfl))
/-- A point that needs no check is on a segment: by the product and the scalar product of the vectors to the ends. -/
def hasB (ax ay bx b_y px py : Int) : Bool := ((ax - px) * (b_y - py) - (ay - py) * (bx - px) == 0) && decide ((ax - px) * (bx - px) + (ay - py) * (b_y - py) ≤ 0)
theorem hasB_no {ax ay bx b_y px py : Int} (h : ((ax - px) * (b_y - py) - (ay - py) * (bx - px) == 0) = false) : hasB ax ay bx b_y px py = false := by unfold hasB; rw [h]; rfl
theorem hasB_yes {ax ay bx b_y px py : Int} (h : ((ax - px) * (b_y - py) - (ay - py) * (bx - px) == 0) = true) : hasB ax ay bx b_y px py = decide ((ax - px) * (bx - px) + (ay - py) * (b_y - py) ≤ 0) := by unfold hasB; rw [h]; rfl
set_option maxHeartbeats 6400000 in
theorem has_any (ax ay bx b_y px py : Int) (w : World) (ha : ptB ax ay = true) (hb : ptB bx b_y = true) (hp : ptB px py = true) :
    Calls Try.prog 60 #[.agg #[.int .i64 ax, .int .i64 ay, .int .i64 bx, .int .i64 b_y], .agg #[.int .i64 px, .int .i64 py]] w fun e w' => e = .returned (.bool (hasB ax ay bx b_y px py)) ∧ Below w.heap.size w w' := by
  have h1 := ptB_true ha
  have h2 := ptB_true hb
  have h3 := ptB_true hp
  clear ha hb hp
  have p1 := prod_bd (x := ax - px) (y := b_y - py) 2000 2000 (by omega) (by omega)
  have p2 := prod_bd (x := ay - py) (y := bx - px) 2000 2000 (by omega) (by omega)
  have p3 := prod_bd (x := ax - px) (y := bx - px) 2000 2000 (by omega) (by omega)
  have p4 := prod_bd (x := ay - py) (y := b_y - py) 2000 2000 (by omega) (by omega)
  go_enter Try.func60, Try.ntmps60
  go_upto_region 1 with fail
  go_cut [5, 6] (fun s5 s6 wx => ∃ g h : Nat, s5 = .pointer (some ⟨g, 0, none⟩) ∧ s6 = .pointer (some ⟨h, 0, none⟩) ∧ wx.cell? ⟨g, 0, none⟩ = some (.int .i64 (ax - px)) ∧ wx.cell? ⟨g, 1, none⟩ = some (.int .i64 (ay - py)) ∧ wx.cell? ⟨h, 0, none⟩ = some (.int .i64 (bx - px)) ∧ wx.cell? ⟨h, 1, none⟩ = some (.int .i64 (b_y - py)) ∧ Below w.heap.size w wx)
  case first =>
    go_region_held3 (fun wx => wx.cell? ⟨w.heap.size, 0, none⟩ = some (.int .i64 ax) ∧ wx.cell? ⟨w.heap.size, 1, none⟩ = some (.int .i64 ay) ∧ wx.cell? ⟨w.heap.size, 2, none⟩ = some (.int .i64 bx) ∧ wx.cell? ⟨w.heap.size, 3, none⟩ = some (.int .i64 b_y) ∧ wx.cell? ⟨w.heap.size + 1, 0, none⟩ = some (.int .i64 px) ∧ wx.cell? ⟨w.heap.size + 1, 1, none⟩ = some (.int .i64 py))
      (first | (simp [*, go_sem]; done) | (go_split_ands; refine ⟨?_, ?_, ?_, ?_, ?_, ?_⟩ <;> ((repeat (with_reducible refine keepF (by assumption) ?_)); first | assumption | exact keep1 (by assumption) (by assumption) | exact keepA _ (by assumption) | exact keepS (by assumption) (by assumption))))
      (first
        | (go_at_call_of 34 (Value.agg #[.int .i64 ax, .int .i64 ay]); refine (minus_any _ _ _ _ _ (by omega) (by omega)).mono ?_; rintro e w1 ⟨rfl, hx1⟩; obtain ⟨hc1, hf1⟩ := bcell hx1; have y1 := hx1.size; (try simp at y1); (try have q10 : w.heap.size < w1.heap.size ∧ w.heap.size < w1.heap.size + 1 ∧ ¬ (w1.heap.size = w.heap.size) ∧ ¬ (w.heap.size = w1.heap.size) := (by omega)); (try have q11 : w.heap.size + 1 < w1.heap.size ∧ w.heap.size + 1 < w1.heap.size + 1 ∧ ¬ (w1.heap.size = w.heap.size + 1) ∧ ¬ (w.heap.size + 1 = w1.heap.size) := (by omega)); (try have q12 : w.heap.size + 1 + 1 < w1.heap.size ∧ w.heap.size + 1 + 1 < w1.heap.size + 1 ∧ ¬ (w1.heap.size = w.heap.size + 1 + 1) ∧ ¬ (w.heap.size + 1 + 1 = w1.heap.size) := (by omega)); (try have q13 : w.heap.size + 1 + 1 + 1 < w1.heap.size ∧ w.heap.size + 1 + 1 + 1 < w1.heap.size + 1 ∧ ¬ (w1.heap.size = w.heap.size + 1 + 1 + 1) ∧ ¬ (w.heap.size + 1 + 1 + 1 = w1.heap.size) := (by omega)))
        | (go_at_call_of 34 (Value.agg #[.int .i64 bx, .int .i64 b_y]); refine (minus_any _ _ _ _ _ (by omega) (by omega)).mono ?_; rintro e w2 ⟨rfl, hx2⟩; obtain ⟨hc2, hf2⟩ := bcell hx2; have y2 := hx2.size; (try simp at y2); (try have q20 : w.heap.size < w2.heap.size ∧ w.heap.size < w2.heap.size + 1 ∧ ¬ (w2.heap.size = w.heap.size) ∧ ¬ (w.heap.size = w2.heap.size) := (by omega)); (try have q21 : w.heap.size + 1 < w2.heap.size ∧ w.heap.size + 1 < w2.heap.size + 1 ∧ ¬ (w2.heap.size = w.heap.size + 1) ∧ ¬ (w.heap.size + 1 = w2.heap.size) := (by omega)); (try have q22 : w.heap.size + 1 + 1 < w2.heap.size ∧ w.heap.size + 1 + 1 < w2.heap.size + 1 ∧ ¬ (w2.heap.size = w.heap.size + 1 + 1) ∧ ¬ (w.heap.size + 1 + 1 = w2.heap.size) := (by omega)); (try have q23 : w.heap.size + 1 + 1 + 1 < w2.heap.size ∧ w.heap.size + 1 + 1 + 1 < w2.heap.size + 1 ∧ ¬ (w2.heap.size = w.heap.size + 1 + 1 + 1) ∧ ¬ (w.heap.size + 1 + 1 + 1 = w2.heap.size) := (by omega)); (try have q24 : w1.heap.size < w2.heap.size ∧ w1.heap.size < w2.heap.size + 1 ∧ ¬ (w2.heap.size = w1.heap.size) ∧ ¬ (w1.heap.size = w2.heap.size) := (by omega)); (try have q25 : w1.heap.size + 1 < w2.heap.size ∧ w1.heap.size + 1 < w2.heap.size + 1 ∧ ¬ (w2.heap.size = w1.heap.size + 1) ∧ ¬ (w1.heap.size + 1 = w2.heap.size) := (by omega))))
    all_goals (go_wp2_with fail; go_meet)
    all_goals refine ⟨_, _, rfl, rfl, ?_, ?_, ?_, ?_, ?_⟩
    all_goals (try (simp [*, go_sem, set_is, set_blk, set_off]; done))
    all_goals (try (rw [set_blk _ (by omega), set_blk _ (by omega)]; first | (refine pair_0 (u := .int .i64 0) _ _ (keep1 (by assumption) (keepA _ (by simp [go_sem]))); done) | (refine pair_1 (u := .int .i64 0) _ _ (keep1 (by assumption) (keepA _ (by simp [go_sem]))); done)))
    all_goals (try ((first | refine pair_0 (u := .int .i64 0) _ _ ?_ | refine pair_1 (u := .int .i64 0) _ _ ?_); rw [set_blk _ (by omega), set_blk _ (by omega)]; exact keep1 (by assumption) (keepA _ (by simp [go_sem]))))
    all_goals (try (repeat' (first | exact nr _ | apply na | apply Below.drew | apply nd | refine pair_below _ _ (by omega) ?_ | refine nt ?_ (by assumption))))
  case rest =>
    obtain ⟨g, h, rfl, rfl, k0, k1, k2, k3, hbx⟩ := hcut
    have z0 : g < wc.heap.size := World.block_lt_of_cell? _ _ k0
    have z1 : h < wc.heap.size := World.block_lt_of_cell? _ _ k2
    have HB := Lib.hid hbx
    clear hbx
    rcases hq : ((ax - px) * (b_y - py) - (ay - py) * (bx - px) == 0) with _ | _
    · have HR := Lib.hid (hasB_no hq)
      have HQ : ((ax - px) * (b_y - py) - (ay - py) * (bx - px) = 0) = False := by simpa using hq
      clear hq
      go_wp2_with fail
      refine (pcross_any _ _ _ _ _ (by omega) (by omega)).mono ?_; rintro e w3 ⟨rfl, hx3⟩
      go_wp2_with fail
      go_ret
      exact ⟨ret_bool HR.out.symm, nt HB.out hx3⟩
    · have HR := Lib.hid (hasB_yes hq)
      have HQ : ((ax - px) * (b_y - py) - (ay - py) * (bx - px) = 0) = True := by simpa using hq
      clear hq
      go_wp2_with fail
      refine (pcross_any _ _ _ _ _ (by omega) (by omega)).mono ?_; rintro e w3 ⟨rfl, hx3⟩; obtain ⟨hc3, hf3⟩ := bcell hx3
      go_wp2_with fail
      refine (pdot_any _ _ _ _ _ (by omega) (by omega)).mono ?_; rintro e w4 ⟨rfl, hx4⟩
      go_wp2_with fail
      go_ret
      exact ⟨rfl, nt (nt HB.out hx3) hx4⟩
theorem mul_sq (a : Int) : 0 ≤ a * a := by
  rw [← Int.natAbs_mul_self]
  omega
theorem same_side {u v s t : Int} (h : u * t = s * v) (hd : u * v + s * t ≤ 0) : u * v ≤ 0 := by
  rcases Int.lt_or_le 0 (u * v) with hp | hp
  · have hn : s * t < 0 := by omega
    have h1 : (u * v) * (s * t) < 0 := Int.mul_neg_of_pos_of_neg hp hn
    have h2 : (u * v) * (s * t) = (s * v) * (s * v) := by
      rw [show (u * v) * (s * t) = (u * t) * (s * v) by rw [Int.mul_assoc, Int.mul_assoc, Int.mul_left_comm v s t, Int.mul_comm v t, Int.mul_left_comm s t v], h]
    have h3 := mul_sq (s * v)
    omega
  · exact hp
theorem apart_of {u v : Int} (h : u * v ≤ 0) : (u ≤ 0 ∧ 0 ≤ v) ∨ (v ≤ 0 ∧ 0 ≤ u) := by
  rcases Int.lt_or_le 0 u with h1 | h1
  · rcases Int.lt_or_le 0 v with h2 | h2
    · have := Int.mul_pos h1 h2
      omega
    · omega
  · rcases Int.lt_or_le v 0 with h2 | h2
    · rcases Int.lt_or_le u 0 with h3 | h3
      · have := Int.mul_pos_of_neg_of_neg h3 h2
        omega
      · omega
    · omega
theorem apart_mul {u v : Int} (h : (u ≤ 0 ∧ 0 ≤ v) ∨ (v ≤ 0 ∧ 0 ≤ u)) : u * v ≤ 0 := by
  rcases h with ⟨h1, h2⟩ | ⟨h1, h2⟩
  · exact Int.mul_nonpos_of_nonpos_of_nonneg h1 h2
  · exact Int.mul_nonpos_of_nonneg_of_nonpos h2 h1
def btwB (ax ay bx b_y px py : Int) : Bool := decide ((ax ≤ px ∧ px ≤ bx ∨ bx ≤ px ∧ px ≤ ax) ∧ (ay ≤ py ∧ py ≤ b_y ∨ b_y ≤ py ∧ py ≤ ay))
theorem cross_turn (ax ay bx b_y px py : Int) : (ax - px) * (b_y - py) - (ay - py) * (bx - px) = crossI ax ay bx b_y px py := by
  unfold crossI
  simp only [Int.sub_mul, Int.mul_sub]
  have c1 := Int.mul_comm bx ay
  have c2 := Int.mul_comm px ay
  have c3 := Int.mul_comm bx py
  have c4 := Int.mul_comm px b_y
  have c5 := Int.mul_comm ax ay
  have c6 := Int.mul_comm px py
  have c7 := Int.mul_comm b_y ax
  omega
theorem has_eq (ax ay bx b_y px py : Int) : hasB ax ay bx b_y px py = ((crossI ax ay bx b_y px py == 0) && btwB ax ay bx b_y px py) := by
  unfold hasB btwB
  rw [cross_turn]
  rcases h : (crossI ax ay bx b_y px py == 0) with _ | _
  · rfl
  simp only [Bool.true_and, decide_eq_decide]
  have h0 : (ax - px) * (b_y - py) - (ay - py) * (bx - px) = 0 := by rw [cross_turn]; simpa using h
  constructor
  · intro hd
    have h1 := apart_of (same_side (u := ax - px) (v := bx - px) (s := ay - py) (t := b_y - py) (by omega) hd)
    have h2 := apart_of (same_side (u := ay - py) (v := b_y - py) (s := ax - px) (t := bx - px) (by omega) (by omega))
    omega
  · intro hd
    have h1 := apart_mul (u := ax - px) (v := bx - px) (by omega)
    have h2 := apart_mul (u := ay - py) (v := b_y - py) (by omega)
    omega
theorem between_any (ax ay bx b_y px py : Int) (w : World) :
    Calls Try.prog 70 #[.agg #[.int .i64 ax, .int .i64 ay, .int .i64 bx, .int .i64 b_y], .agg #[.int .i64 px, .int .i64 py]] w fun e w' => e = .returned (.bool (btwB ax ay bx b_y px py)) ∧ Below w.heap.size w w' := by
  go_enter Try.func70, Try.ntmps70
  go_wp2_with (go_at_call 36; refine (inRange_any _ _ _ _).mono ?_; rintro e w' ⟨rfl, rfl⟩)
  all_goals go_ret
  all_goals refine ⟨ret_bool ?_, na (na (nr _) _) _⟩
  all_goals (unfold btwB; rw [Bool.eq_iff_iff]; simp; omega)
theorem specHas_any (ax ay bx b_y px py : Int) (w : World) (ha : ptB ax ay = true) (hb : ptB bx b_y = true) (hp : ptB px py = true) :
    Calls Try.prog 68 #[.agg #[.int .i64 ax, .int .i64 ay, .int .i64 bx, .int .i64 b_y], .agg #[.int .i64 px, .int .i64 py]] w fun e w' => e = .returned (.bool (hasB ax ay bx b_y px py)) ∧ Below w.heap.size w w' := by
  have HR := Lib.hid (has_eq ax ay bx b_y px py)
  have VA := Lib.hid ha
  have VB := Lib.hid hb
  have VP := Lib.hid hp
  clear ha hb hp
  go_enter Try.func68, Try.ntmps68
  rcases hq : (crossI ax ay bx b_y px py == 0) with _ | _
  · have HR2 := Lib.hid (show hasB ax ay bx b_y px py = false by rw [HR.out, hq]; rfl)
    have HQ : (crossI ax ay bx b_y px py = 0) = False := by simpa using hq
    clear hq
    go_wp2_with fail
    refine (specCross_any _ _ _ _ _ _ _ VA.out VB.out VP.out).mono ?_; rintro e w1 ⟨rfl, hb1⟩
    go_wp2_with fail
    go_ret
    exact ⟨ret_bool HR2.out.symm, by repeat' (first | exact nr _ | apply na | apply Below.drew | apply nd | refine nt ?_ (by assumption))⟩
  · have HQ : (crossI ax ay bx b_y px py = 0) = True := by simpa using hq
    clear hq
    go_wp2_with fail
    refine (specCross_any _ _ _ _ _ _ _ VA.out VB.out VP.out).mono ?_; rintro e w1 ⟨rfl, hb1⟩; obtain ⟨hc1, hf1, hz1⟩ := bc2 w.heap.size hb1 (by simp)
    go_wp2_with fail
    refine (between_any _ _ _ _ _ _ _).mono ?_; rintro e w2 ⟨rfl, hb2⟩
    go_wp2_with fail
    go_ret
    exact ⟨ret_bool HR.out.symm, by repeat' (first | exact nr _ | apply na | apply Below.drew | apply nd | refine nt ?_ (by assumption))⟩
end Go.Proofs.Ytbhdhejefpdjfaa
namespace Go.Proofs.Ytbhdhejefpdjfaa
set_option linter.all false
open Go.RowKit
def pHas : List DArg → Option (Value × List Prop)
  | [.v (.agg ⟨[.int .i64 ax, .int .i64 ay, .int .i64 bx, .int .i64 b_y]⟩), .v (.agg ⟨[.int .i64 px, .int .i64 py]⟩)] => some (.bool (hasB ax ay bx b_y px py), [ptB ax ay = true, ptB bx b_y = true, ptB px py = true])
  | _ => none
def pSgS : List DArg → Option (Value × List Prop)
  | [.v (.agg ⟨[.int .i64 a, .int .i64 b, .int .i64 c, .int .i64 d]⟩)] => some (.bool (segB a b c d), [])
  | _ => none
def pTrn : List DArg → Option (Value × List Prop)
  | [.v (.agg ⟨[.int .i64 ax, .int .i64 ay]⟩), .v (.agg ⟨[.int .i64 bx, .int .i64 b_y]⟩), .v (.agg ⟨[.int .i64 cx, .int .i64 cy]⟩)] => some (iv (crossI ax ay bx b_y cx cy), [ptB ax ay = true, ptB bx b_y = true, ptB cx cy = true])
  | _ => none
set_option maxRecDepth 100000 in
theorem tr_sCross (ax ay bx b_y cx cy : Int) : bodyV Try.prog (tabE B0) 30 12 45 [.v (.agg #[iv ax, iv ay]), .v (.agg #[iv bx, iv b_y]), .v (.agg #[iv cx, iv cy])] = .fin (.int .i64 (IntKind.i64.wrap (IntKind.i64.wrap (IntKind.i64.wrap (bx - ax) * IntKind.i64.wrap (cy - ay)) - IntKind.i64.wrap (IntKind.i64.wrap (b_y - ay) * IntKind.i64.wrap (cx - ax))))) [] := by kernel_rfl
set_option maxRecDepth 100000 in
theorem tr_iTurn (ax ay bx b_y cx cy : Int) : bodyV Try.prog (tabE B0) 30 12 28 [.v (.agg #[iv ax, iv ay]), .v (.agg #[iv bx, iv b_y]), .v (.agg #[iv cx, iv cy])] = .fin (.int .i64 (IntKind.i64.wrap (IntKind.i64.wrap (IntKind.i64.wrap (bx - ax) * IntKind.i64.wrap (cy - ay)) - IntKind.i64.wrap (IntKind.i64.wrap (b_y - ay) * IntKind.i64.wrap (cx - ax))))) [] := by kernel_rfl
theorem crs_bd {ax ay bx b_y cx cy : Int} (h1 : ptB ax ay = true) (h2 : ptB bx b_y = true) (h3 : ptB cx cy = true) : (-(2000 * 2000) ≤ (bx - ax) * (cy - ay) ∧ (bx - ax) * (cy - ay) ≤ 2000 * 2000) ∧ (-(2000 * 2000) ≤ (b_y - ay) * (cx - ax) ∧ (b_y - ay) * (cx - ax) ≤ 2000 * 2000) := by
  have a1 := ptB_true h1
  have a2 := ptB_true h2
  have a3 := ptB_true h3
  exact ⟨mul_bd 2000 2000 (by omega) (by omega), mul_bd 2000 2000 (by omega) (by omega)⟩
theorem res_sCross {ax ay bx b_y cx cy : Int} (h1 : ptB ax ay = true) (h2 : ptB bx b_y = true) (h3 : ptB cx cy = true) : Res Try.prog 45 [.v (.agg #[iv ax, iv ay]), .v (.agg #[iv bx, iv b_y]), .v (.agg #[iv cx, iv cy])] (iv (crossI ax ay bx b_y cx cy)) := by
  refine bodyV_res mixed (tabE_ok B0_ok) (m := 30) (n := 12) rfl ?_
  rw [tr_sCross]
  have a1 := ptB_true h1
  have a2 := ptB_true h2
  have a3 := ptB_true h3
  obtain ⟨b1, b2⟩ := crs_bd h1 h2 h3
  simp (disch := omega) only [wr]
  rfl
theorem res_iTurn {ax ay bx b_y cx cy : Int} (h1 : ptB ax ay = true) (h2 : ptB bx b_y = true) (h3 : ptB cx cy = true) : Res Try.prog 28 [.v (.agg #[iv ax, iv ay]), .v (.agg #[iv bx, iv b_y]), .v (.agg #[iv cx, iv cy])] (iv (crossI ax ay bx b_y cx cy)) := by
  refine bodyV_res mixed (tabE_ok B0_ok) (m := 30) (n := 12) rfl ?_
  rw [tr_iTurn]
  have a1 := ptB_true h1
  have a2 := ptB_true h2
  have a3 := ptB_true h3
  obtain ⟨b1, b2⟩ := crs_bd h1 h2 h3
  simp (disch := omega) only [wr]
  rfl
set_option maxRecDepth 100000 in
theorem tr_iVsg (a b c d : Int) : bodyV Try.prog (tabE T1) 30 12 50 [.v (.agg #[iv a, iv b, iv c, iv d])] = brT (ptB a b && ptB c d) (.fin (.bool (negB true (a == c && (b == d && true)))) []) (.fin (.bool (false)) []) := by kernel_rfl
theorem res_iVsg (a b c d : Int) : Res Try.prog 50 [.v (.agg #[iv a, iv b, iv c, iv d])] (.bool (segB a b c d)) := by
  refine bodyV_res mixed (tabE_ok T1_ok) (m := 30) (n := 12) rfl ?_
  rw [tr_iVsg]
  unfold segB eqB negB
  cases ptB a b <;> cases ptB c d <;> simp [brT, Tree.ok]
def TRl : Tab := fun f ds => match f with
  | 60 => pHas ds
  | 68 => pHas ds
  | 50 => pSgS ds
  | 45 => pTrn ds
  | 28 => pTrn ds
  | _ => T1 f ds
theorem pHas_i {ds : List DArg} {v : Value} {C : List Prop} (h : pHas ds = some (v, C)) (hC : AllP C) : Res Try.prog 60 ds v := by
  unfold pHas at h
  split at h
  · obtain ⟨rfl, rfl⟩ : _ ∧ _ := by simpa using h
    exact res_calls (by kernel_rfl) rfl rfl fun w => has_any _ _ _ _ _ _ w hC.1 hC.2.1 hC.2.2.1
  · cases h
theorem pHas_s {ds : List DArg} {v : Value} {C : List Prop} (h : pHas ds = some (v, C)) (hC : AllP C) : Res Try.prog 68 ds v := by
  unfold pHas at h
  split at h
  · obtain ⟨rfl, rfl⟩ : _ ∧ _ := by simpa using h
    exact res_calls (by kernel_rfl) rfl rfl fun w => specHas_any _ _ _ _ _ _ w hC.1 hC.2.1 hC.2.2.1
  · cases h
theorem pSgS_i {ds : List DArg} {v : Value} {C : List Prop} (h : pSgS ds = some (v, C)) : Res Try.prog 50 ds v := by
  unfold pSgS at h
  split at h
  · obtain ⟨rfl, rfl⟩ : _ ∧ _ := by simpa using h
    exact res_iVsg _ _ _ _
  · cases h
theorem pTrn_s {ds : List DArg} {v : Value} {C : List Prop} (h : pTrn ds = some (v, C)) (hC : AllP C) : Res Try.prog 45 ds v := by
  unfold pTrn at h
  split at h
  · obtain ⟨rfl, rfl⟩ : _ ∧ _ := by simpa using h
    exact res_sCross hC.1 hC.2.1 hC.2.2.1
  · cases h
theorem pTrn_i {ds : List DArg} {v : Value} {C : List Prop} (h : pTrn ds = some (v, C)) (hC : AllP C) : Res Try.prog 28 ds v := by
  unfold pTrn at h
  split at h
  · obtain ⟨rfl, rfl⟩ : _ ∧ _ := by simpa using h
    exact res_iTurn hC.1 hC.2.1 hC.2.2.1
  · cases h
theorem TRl_ok : TabOk Try.prog TRl := by
  intro f ds v C h hC
  unfold TRl at h
  (try split at h)
  all_goals first | with_reducible exact pHas_i h hC | with_reducible exact pHas_s h hC | with_reducible exact pSgS_i h | with_reducible exact pSgS_s h | with_reducible exact pTrn_s h hC | with_reducible exact pTrn_i h hC | exact T1_ok _ _ _ _ h hC
end Go.Proofs.Ytbhdhejefpdjfaa
namespace Go.Proofs.Ytbhdhejefpdjfaa
set_option linter.all false
def pltB (a b : Pt) : Bool := decide (a.1 < b.1 ∨ a.1 = b.1 ∧ a.2 < b.2)
theorem pltB_iff {a b : Pt} : pltB a b = true ↔ a.1 < b.1 ∨ a.1 = b.1 ∧ a.2 < b.2 := by simp [pltB]
end Go.Proofs.Ytbhdhejefpdjfaa
namespace Go.Proofs.Ytbhdhejefpdjfaa
set_option linter.all false
open Go.RowKit
theorem loop_det2 {P : Program} {c : Code} {N M : Nat} {X : Type} (St_of : X → St) (Inv : X → Prop) (μ : X → Nat) (re : X → Ex) (rs : X → St) (keep : Ex → List Nat) (hM : ∀ x, (St_of x).mem.length ≤ M)
    (h : ∀ x, Inv x → ∃ e' s', Det P c (St_of x) e' s' ∧ match e' with
      | .normal => ∃ x' π, Inv x' ∧ μ x' < μ x ∧ re x' = re x ∧ rs x' = rs x ∧ WS N π (cutS M (keep .normal) s') (St_of x')
      | e => e = re x ∧ ∃ π, WS N π (cutS M (keep e) s') (rs x))
    {x : X} (hx : Inv x) {s : St} {π : List (Option Nat)} (hN : s.mem.length = N) (hs : WS N π s (St_of x)) : Det P (.loop c) s (re x) (rs x) := by
  intro w0 a w hc
  have hρ := con_dom hc
  rw [hN] at hρ
  have hρ' : ∀ {x' π' s'}, WS N π' s' (St_of x') → ∀ n, (St_of x').mem.length ≤ n → w0.ρ0 n = none := fun h n hn => hρ n (Nat.le_trans (Nat.le_of_ble_eq_true h.1) hn)
  refine wpIn_loop_ghost (fun n a w => ∃ x', Inv x' ∧ μ x' = n ∧ re x' = re x ∧ rs x' = rs x ∧ (∀ n, (St_of x').mem.length ≤ n → w0.ρ0 n = none) ∧ Con w0 (St_of x').fs a w) (μ x) ⟨x, hx, rfl, rfl, rfl, hρ' hs, weak_con hs hρ hc⟩ ?_
  rintro n a w ⟨x', hI, rfl, hre, hrs, hdom, hcc⟩
  obtain ⟨e', s', hd, hend⟩ := h x' hI
  have hdom2 : ∀ n, M ≤ n → w0.ρ0 n = none := fun n hn => hdom n (Nat.le_trans (hM x') hn)
  refine wpIn_mono (hd w0 a w hcc) ?_
  rintro e a' w' ⟨rfl, hcc'⟩
  cases e' with
  | normal =>
    obtain ⟨x2, π2, g1, g2, g3, g4, g5⟩ := hend
    exact ⟨_, g2, x2, g1, rfl, g3.trans hre, g4.trans hrs, hρ' g5, weak_con g5 hρ (cut_con hdom2 hcc')⟩
  | exit id =>
    obtain ⟨g1, π2, g2⟩ := hend
    exact ⟨by rw [← hre, ← g1], by rw [← hrs]; exact weak_con g2 hρ (cut_con hdom2 hcc')⟩
  | ret =>
    obtain ⟨g1, π2, g2⟩ := hend
    exact ⟨by rw [← hre, ← g1], by rw [← hrs]; exact weak_con g2 hρ (cut_con hdom2 hcc')⟩
theorem loop_run2 {P : Program} (hm : P.follows .mixedOrders = true) {E : Env} (hE : EnvOk P E) {m n : Nat} {lt : LT} {j : Nat} {c : Code} {N : Nat} {X : Type} (St_of : X → St) (Inv : X → Prop) (μ : X → Nat) (re : X → Ex) (rs : X → St) (keep : Ex → List Nat) {M : Nat} (hM : ∀ x, Nat.ble (St_of x).mem.length M = true) (hL : LoopsGood P lt j c)
    (h : ∀ x, Inv x → (bodyL P E m n lt j c keep M (St_of x)).ok (RoundEnd N St_of Inv μ re rs x) (fun _ _ => False))
    {x : X} (hx : Inv x) {s : St} {π : List (Option Nat)} (hN : s.mem.length = N) (hs : WS N π s (St_of x)) : Det P (.loop c) s (re x) (rs x) :=
  loop_det2 (M := M) St_of Inv μ re rs keep (fun x => Nat.le_of_ble_eq_true (hM x)) (fun x hx => by
    obtain ⟨e', s', h1, h2⟩ := body_det hm hE hL (h x hx)
    refine ⟨e', s', h1, ?_⟩
    unfold RoundEnd at h2
    cases e' <;> exact h2) hx hN hs
end Go.Proofs.Ytbhdhejefpdjfaa
namespace Go.Proofs.Ytbhdhejefpdjfaa
set_option linter.all false
open Go.RowKit
theorem vI0 {k : Int} {n : Nat} (h : n = 0) : Value.int .i64 k = .int .i64 (k + (n : Int)) := by subst h; simp
end Go.Proofs.Ytbhdhejefpdjfaa
namespace Go.Proofs.Ytbhdhejefpdjfaa
set_option linter.all false
open Go.RowKit
theorem fn_is {f : FuncId} {fn g : Func} (h : Try.prog.funcs[f]? = some g) (hf : Try.prog.funcs[f]? = some fn) : g = fn := by rw [h] at hf; simpa using hf
end Go.Proofs.Ytbhdhejefpdjfaa
namespace Go.Proofs.Ytbhdhejefpdjfaa
set_option linter.all false
open Go.RowKit
/-- The place of a point among others in order. -/
def kP (p : Pt) : List Pt → Nat
  | [] => 0
  | q :: r => if pltB q p then kP p r + 1 else 0
/-- A point put in its place, unless it is there. -/
def insP (p : Pt) : List Pt → List Pt
  | [] => [p]
  | q :: r => if pltB q p then q :: insP p r else if q = p then q :: r else p :: q :: r
theorem kP_le (p : Pt) : ∀ ps : List Pt, kP p ps ≤ ps.length
  | [] => Nat.le_refl _
  | q :: r => by
    have := kP_le p r
    simp only [kP, List.length_cons]
    split <;> omega
theorem insP_is (p : Pt) : ∀ ps : List Pt, insP p ps = if kP p ps < ps.length ∧ ps.getD (kP p ps) (0, 0) = p then ps else ps.take (kP p ps) ++ (p :: ps.drop (kP p ps))
  | [] => by simp [insP, kP]
  | q :: r => by
    have ih := insP_is p r
    simp only [insP, kP]
    split
    · rw [ih]
      simp only [List.length_cons, Nat.add_lt_add_iff_right, List.getD_cons_succ, List.take_succ_cons, List.drop_succ_cons, List.cons_append]
      split <;> rfl
    · simp
theorem insP_mem (p : Pt) : ∀ (ps : List Pt) (z : Pt), z ∈ insP p ps ↔ z ∈ ps ∨ z = p
  | [], z => by simp [insP]
  | q :: r, z => by
    have ih := insP_mem p r z
    simp only [insP]
    split
    · simp only [List.mem_cons, ih]
      constructor
      · rintro (h | h | h) <;> simp [h]
      · rintro ((h | h) | h) <;> simp [h]
    · split
      · rename_i h1 h2
        subst h2
        simp only [List.mem_cons]
        constructor
        · intro h; exact .inl h
        · rintro (h | h)
          · exact h
          · exact .inl h
      · simp only [List.mem_cons]
        constructor
        · rintro (h | h | h) <;> simp [h]
        · rintro ((h | h) | h) <;> simp [h]
theorem plt_trans {a b c : Pt} (h1 : pltB a b = true) (h2 : pltB b c = true) : pltB a c = true := by
  rw [pltB_iff] at *
  omega
theorem plt_irr {a : Pt} : pltB a a = false := by
  rw [← Bool.not_eq_true, pltB_iff]
  omega
theorem plt_tri {a b : Pt} (h : pltB a b = false) (hne : a ≠ b) : pltB b a = true := by
  rw [← Bool.not_eq_true, pltB_iff] at h
  rw [pltB_iff]
  have : ¬ (a.1 = b.1 ∧ a.2 = b.2) := fun ⟨h1, h2⟩ => hne (Prod.ext h1 h2)
  omega
/-- Ascending, each once. -/
def Asc (ps : List Pt) : Prop := ps.Pairwise fun a b => pltB a b = true
theorem insP_asc (p : Pt) : ∀ {ps : List Pt}, Asc ps → Asc (insP p ps)
  | [], _ => by simp [insP, Asc]
  | q :: r, h => by
    have h' := List.pairwise_cons.1 h
    have ih := insP_asc p h'.2
    simp only [insP]
    split
    · rename_i hq
      refine List.pairwise_cons.2 ⟨fun z hz => ?_, ih⟩
      rcases (insP_mem p r z).1 hz with hz | rfl
      · exact h'.1 z hz
      · exact hq
    · rename_i hq
      split
      · exact h
      · rename_i hne
        have hpq : pltB p q = true := plt_tri (by simpa using hq) hne
        refine List.pairwise_cons.2 ⟨fun z hz => ?_, h⟩
        rcases List.mem_cons.1 hz with rfl | hz
        · exact hpq
        · exact plt_trans hpq (h'.1 z hz)
theorem insP_len (p : Pt) : ∀ {ps : List Pt}, Asc ps → (insP p ps).length = if p ∈ ps then ps.length else ps.length + 1
  | [], _ => by simp [insP]
  | q :: r, h => by
    have h' := List.pairwise_cons.1 h
    have ih := insP_len p h'.2
    simp only [insP]
    split
    · rename_i hq
      have hne : p ≠ q := fun e => by rw [e, plt_irr] at hq; cases hq
      simp only [List.length_cons, ih, List.mem_cons, hne, false_or]
      split <;> rfl
    · split
      · rename_i hq
        simp [hq]
      · rename_i hq hne
        have hpq : pltB p q = true := plt_tri (by simpa using hq) hne
        have hn : p ∉ q :: r := fun hm => by
          rcases List.mem_cons.1 hm with rfl | hm
          · rw [plt_irr] at hpq; cases hpq
          · have := plt_trans hpq (h'.1 p hm)
            rw [plt_irr] at this; cases this
        rw [if_neg hn]
        rfl
theorem asc_ext : ∀ {a b : List Pt}, Asc a → Asc b → (∀ z, z ∈ a ↔ z ∈ b) → a = b
  | [], [], _, _, _ => rfl
  | [], y :: b, _, _, h => by simpa using h y
  | x :: a, [], _, _, h => by simpa using h x
  | x :: a, y :: b, ha, hb, h => by
    have ha' := List.pairwise_cons.1 ha
    have hb' := List.pairwise_cons.1 hb
    have hxy : x = y := by
      rcases List.mem_cons.1 ((h x).1 List.mem_cons_self) with e | hx
      · exact e
      rcases List.mem_cons.1 ((h y).2 List.mem_cons_self) with e | hy
      · exact e.symm
      have := plt_trans (hb'.1 x hx) (ha'.1 y hy)
      rw [plt_irr] at this
      cases this
    subst hxy
    have nx : ∀ {l : List Pt}, Asc (x :: l) → x ∉ l := fun hl hm => by
      have := (List.pairwise_cons.1 hl).1 x hm
      rw [plt_irr] at this
      cases this
    rw [asc_ext ha'.2 hb'.2 fun z => ?_]
    constructor
    · intro hz
      rcases List.mem_cons.1 ((h z).1 (List.mem_cons_of_mem _ hz)) with rfl | hz'
      · exact absurd hz (nx ha)
      · exact hz'
    · intro hz
      rcases List.mem_cons.1 ((h z).2 (List.mem_cons_of_mem _ hz)) with rfl | hz'
      · exact absurd hz (nx hb)
      · exact hz'
/-- Points in order, each once, added to others. -/
def srtO (o : List Pt) (ps : List Pt) : List Pt := ps.foldl (fun o p => insP p o) o
def srtL (ps : List Pt) : List Pt := srtO [] ps
theorem srtO_mem : ∀ (ps : List Pt) (o : List Pt) (z : Pt), z ∈ srtO o ps ↔ z ∈ o ∨ z ∈ ps
  | [], o, z => by simp [srtO]
  | p :: r, o, z => by
    have := srtO_mem r (insP p o) z
    simp only [srtO, List.foldl_cons] at this ⊢
    rw [this, insP_mem, List.mem_cons]
    constructor
    · rintro ((h | h) | h) <;> simp [h]
    · rintro (h | h | h) <;> simp [h]
theorem srtL_mem (ps : List Pt) (z : Pt) : z ∈ srtL ps ↔ z ∈ ps := by
  unfold srtL
  rw [srtO_mem]
  simp
theorem insP_le (p : Pt) : ∀ (ps : List Pt), (insP p ps).length ≤ ps.length + 1
  | [] => by simp [insP]
  | q :: r => by
    have := insP_le p r
    simp only [insP]
    split
    · simp; omega
    · split <;> simp
theorem srtO_le : ∀ (ps o : List Pt), (srtO o ps).length ≤ o.length + ps.length
  | [], o => by simp [srtO]
  | p :: r, o => by
    have h1 := srtO_le r (insP p o)
    have h2 := insP_le p o
    simp only [srtO, List.foldl_cons, List.length_cons] at h1 ⊢
    omega
/-- All are different exactly if none is lost. -/
theorem srtO_len : ∀ (ps : List Pt) {o : List Pt}, Asc o → ((srtO o ps).length = o.length + ps.length ↔ ps.Nodup ∧ ∀ p ∈ ps, p ∉ o)
  | [], o, _ => by simp [srtO]
  | p :: r, o, h => by
    have ih := srtO_len r (insP_asc p h)
    have hle := srtO_le r (insP p o)
    have hl := insP_len p h
    have e : srtO o (p :: r) = srtO (insP p o) r := rfl
    rw [e, List.length_cons, List.nodup_cons]
    by_cases hp : p ∈ o
    · rw [if_pos hp] at hl
      constructor
      · intro hh; omega
      · rintro ⟨_, hh⟩
        exact absurd hp (hh p List.mem_cons_self)
    · rw [if_neg hp] at hl
      rw [show o.length + (r.length + 1) = (insP p o).length + r.length by omega, ih]
      constructor
      · rintro ⟨h1, h2⟩
        refine ⟨⟨fun hm => h2 p hm ((insP_mem p o p).2 (.inr rfl)), h1⟩, fun z hz => ?_⟩
        rcases List.mem_cons.1 hz with rfl | hz
        · exact hp
        · exact fun hzo => h2 z hz ((insP_mem p o z).2 (.inl hzo))
      · rintro ⟨⟨h1, h2⟩, h3⟩
        refine ⟨h2, fun z hz hzo => ?_⟩
        rcases (insP_mem p o z).1 hzo with h | rfl
        · exact h3 z (List.mem_cons_of_mem _ hz) h
        · exact h1 hz
theorem srtL_len (ps : List Pt) : (srtL ps).length = ps.length ↔ ps.Nodup := by
  have := srtO_len ps (o := []) List.Pairwise.nil
  simpa [srtL] using this
def pPls : List DArg → Option (Value × List Prop)
  | [.v (.agg ⟨[.int .i64 x, .int .i64 y]⟩), .v (.agg ⟨[.int .i64 z, .int .i64 w]⟩)] => some (.bool (pltB (x, y) (z, w)), [])
  | _ => none
set_option maxRecDepth 100000 in
theorem tr_sPls (x y z w : Int) : bodyV Try.prog (tabE B0) 30 12 59 [.v (.agg #[iv x, iv y]), .v (.agg #[iv z, iv w])] = brT (decide (x < z)) (.fin (.bool (true)) []) (brT (x == z) (.fin (.bool (decide (y < w))) []) (.fin (.bool (false)) [])) := by kernel_rfl
theorem res_sPls (x y z w : Int) : Res Try.prog 59 [.v (.agg #[iv x, iv y]), .v (.agg #[iv z, iv w])] (.bool (pltB (x, y) (z, w))) := by
  refine bodyV_res mixed (tabE_ok B0_ok) (m := 30) (n := 12) rfl ?_
  rw [tr_sPls]
  simp only [brT_ok, Tree.ok, decide_eq_true_eq, decide_eq_false_iff_not, beq_iff_eq, beq_eq_false_iff_ne]
  refine ⟨fun h => ?_, fun h => ⟨fun h2 => ?_, fun h2 => ?_⟩⟩
  all_goals
    congr 1
    rw [Bool.eq_iff_iff, pltB_iff]
    simp only [decide_eq_true_eq, true_iff, iff_false, Bool.false_eq_true, false_iff]
    omega
theorem pPls_ok {ds : List DArg} {v : Value} {C : List Prop} (h : pPls ds = some (v, C)) : Res Try.prog 59 ds v := by
  unfold pPls at h
  split at h
  · obtain ⟨rfl, rfl⟩ : _ ∧ _ := by simpa using h
    exact res_sPls _ _ _ _
  · cases h
def TOl : Tab := fun f ds => match f with
  | 59 => pPls ds
  | f => TRl f ds
theorem TOl_ok : TabOk Try.prog TOl := by
  intro f ds v C h hC
  unfold TOl at h
  (try split at h)
  all_goals first | with_reducible exact pPls_ok h | exact TRl_ok _ _ _ _ h hC
def EOl : Env := tabE TOl
theorem EOl_ok : EnvOk Try.prog EOl := tabE_ok TOl_ok
noncomputable def c_adp : Code := ((loopsOf (codeOf Try.f49))[0]?).getD .skip
def k_adp : Ex → List Nat := keeps [0, 3, 5] [(0, [0, 3, 5])] [4]
def s_adp (ps : List Pt) (p : Pt) : Nat → St := fun i => ⟨(.slice (some ⟨0, 0, none⟩) ps.length ps.length :: topV :: topV :: .pointer (some ⟨1, 0, none⟩) :: topV :: .int .i64 i :: topV :: topV :: topV :: topV :: topV :: topV :: topV :: topV :: topV :: topV :: topV :: topV :: topV :: topV :: topV :: topV :: topV :: topV :: topV :: topV :: topV :: topV :: topV :: topV :: topV :: topV :: topV :: topV :: topV :: topV :: topV :: topV :: topV :: topV :: topV :: topV :: topV :: topV :: topV :: topV :: topV :: topV :: []), [some ⟨.row 25 2, .ints (flat ps)⟩, some ⟨.box, .vals [.int .i64 p.1, .int .i64 p.2]⟩]⟩
def re_adp : Nat → Ex := fun _ => .exit 0
def rs_adp (ps : List Pt) (p : Pt) : Nat → St := fun i => ⟨(.slice (some ⟨0, 0, none⟩) ps.length ps.length :: topV :: topV :: .pointer (some ⟨1, 0, none⟩) :: topV :: .int .i64 ((i + kP p (ps.drop i) : Nat) : Int) :: topV :: topV :: topV :: topV :: topV :: topV :: topV :: topV :: topV :: topV :: topV :: topV :: topV :: topV :: topV :: topV :: topV :: topV :: topV :: topV :: topV :: topV :: topV :: topV :: topV :: topV :: topV :: topV :: topV :: topV :: topV :: topV :: topV :: topV :: topV :: topV :: topV :: topV :: topV :: topV :: topV :: topV :: []), [some ⟨.row 25 2, .ints (flat ps)⟩, some ⟨.box, .vals [.int .i64 p.1, .int .i64 p.2]⟩]⟩
set_option maxRecDepth 100000 in
theorem tr_adp (ps : List Pt) (p : Pt) (i : Nat) : bodyL Try.prog EOl 30 12 noL 1 c_adp k_adp 2 (s_adp ps p i) = brT (decide ((↑i : Int) < (↑ps.length : Int))) (.need ((0 : Int) ≤ (↑i : Int) ∧ (↑i : Int) < (↑ps.length : Int)) (.need ((0 : Nat) + (↑i : Int).toNat * (2 : Nat) + (2 : Nat) ≤ (flat ps).length) (brT (pltB ((flat ps).getD (0 + (↑i : Int).toNat * (2 : Nat)) 0, (flat ps).getD (0 + (↑i : Int).toNat * (2 : Nat) + 1) 0) (p.fst, p.snd)) (.leaf .normal ⟨(.slice (some ⟨0, 0, none⟩) (ps.length) (ps.length) :: topV :: topV :: .pointer (some ⟨1, 0, none⟩) :: topV :: .int .i64 (IntKind.i64.wrap ((↑i : Int) + 1)) :: topV :: topV :: topV :: topV :: topV :: topV :: topV :: topV :: topV :: topV :: topV :: topV :: topV :: topV :: topV :: topV :: topV :: topV :: topV :: topV :: topV :: topV :: topV :: topV :: topV :: topV :: topV :: topV :: topV :: topV :: topV :: topV :: topV :: topV :: topV :: topV :: topV :: topV :: topV :: topV :: topV :: topV :: []), [some ⟨.row 25 2, .ints (flat ps)⟩, some ⟨.box, .vals [.int .i64 (p.1), .int .i64 (p.2)]⟩]⟩) (.leaf (.exit 0) ⟨(.slice (some ⟨0, 0, none⟩) (ps.length) (ps.length) :: topV :: topV :: .pointer (some ⟨1, 0, none⟩) :: topV :: .int .i64 ((↑i : Int)) :: topV :: topV :: topV :: topV :: topV :: topV :: topV :: topV :: topV :: topV :: topV :: topV :: topV :: topV :: topV :: topV :: topV :: topV :: topV :: topV :: topV :: topV :: topV :: topV :: topV :: topV :: topV :: topV :: topV :: topV :: topV :: topV :: topV :: topV :: topV :: topV :: topV :: topV :: topV :: topV :: topV :: topV :: []), [some ⟨.row 25 2, .ints (flat ps)⟩, some ⟨.box, .vals [.int .i64 (p.1), .int .i64 (p.2)]⟩]⟩)))) (.leaf (.exit 0) ⟨(.slice (some ⟨0, 0, none⟩) (ps.length) (ps.length) :: topV :: topV :: .pointer (some ⟨1, 0, none⟩) :: topV :: .int .i64 ((↑i : Int)) :: topV :: topV :: topV :: topV :: topV :: topV :: topV :: topV :: topV :: topV :: topV :: topV :: topV :: topV :: topV :: topV :: topV :: topV :: topV :: topV :: topV :: topV :: topV :: topV :: topV :: topV :: topV :: topV :: topV :: topV :: topV :: topV :: topV :: topV :: topV :: topV :: topV :: topV :: topV :: topV :: topV :: topV :: []), [some ⟨.row 25 2, .ints (flat ps)⟩, some ⟨.box, .vals [.int .i64 (p.1), .int .i64 (p.2)]⟩]⟩) := by kernel_rfl
set_option maxRecDepth 100000 in
theorem nl_adp : loopsOf c_adp = [] := by kernel_rfl
def inv_adp (ps : List Pt) (p : Pt) : Nat → Prop := fun i => i ≤ ps.length
def me_adp (ps : List Pt) (p : Pt) : Nat → Nat := fun i => ps.length - i
/-- A round of this loop. -/
def Round_adp (ps : List Pt) (p : Pt) : Prop := ∀ xx : Nat, inv_adp ps p xx → (bodyL Try.prog EOl 30 12 noL 1 c_adp k_adp 2 (s_adp ps p xx)).ok (RoundEnd 2 (s_adp ps p) (inv_adp ps p) (me_adp ps p) re_adp (rs_adp ps p) xx) (fun _ _ => False)
def e_adp (s : St) (k : Ex → St → Tree) : Option Tree := match Nat.beq s.tmps.length 48, pickL s.tmps [0, 3, 5], s.mem with
  | true, [.slice (some ⟨0, 0, none⟩) n _, .pointer (some ⟨1, 0, none⟩), .int .i64 i], [some ⟨.row 25 2, .ints xs⟩, some ⟨.box, .vals [.int .i64 x, .int .i64 y]⟩] => some (needs [i = 0, xs.length = n * 2, n ≤ 1000000000] (k (.exit 0) ⟨(.slice (some ⟨0, 0, none⟩) n n :: topV :: topV :: .pointer (some ⟨1, 0, none⟩) :: topV :: .int .i64 ((0 + kP (x, y) ((ptsA n xs).drop 0) : Nat) : Int) :: topV :: topV :: topV :: topV :: topV :: topV :: topV :: topV :: topV :: topV :: topV :: topV :: topV :: topV :: topV :: topV :: topV :: topV :: topV :: topV :: topV :: topV :: topV :: topV :: topV :: topV :: topV :: topV :: topV :: topV :: topV :: topV :: topV :: topV :: topV :: topV :: topV :: topV :: topV :: topV :: topV :: topV :: []), [some ⟨.row 25 2, .ints xs⟩, some ⟨.box, .vals [.int .i64 x, .int .i64 y]⟩]⟩))
  | _, _, _ => none
theorem kP_no {p q : Pt} {r : List Pt} (h : pltB q p = false) : kP p (q :: r) = 0 := by simp [kP, h]
theorem kP_yes {p q : Pt} {r : List Pt} (h : pltB q p = true) : kP p (q :: r) = kP p r + 1 := by simp [kP, h]
set_option maxRecDepth 100000 in
theorem round_adp (ps : List Pt) (p : Pt) (h : ps.length ≤ 1000000000) : Round_adp ps p := by
  intro i h1
  have h1 : i ≤ ps.length := h1
  rw [tr_adp]
  simp only [brT_ok, Tree.ok, decide_eq_true_eq, decide_eq_false_iff_not, Int.toNat_natCast, Nat.zero_add, flat_length, flat_get0, flat_get1]
  refine ⟨fun hlt => ⟨by omega, by omega, fun g => ?_, fun g => ?_⟩, fun hge => ?_⟩
  · have hd : ps.drop i = ps.getD i (0, 0) :: ps.drop (i + 1) := drop_cons (by omega) _
    have g : pltB (ps.getD i (0, 0)) p = true := g
    have e : i + kP p (ps.drop i) = (i + 1) + kP p (ps.drop (i + 1)) := by rw [hd, kP_yes g]; omega
    rw [wsucc (n := ps.length) (by omega) h]
    refine ⟨i + 1, [], ?_, ?_, rfl, by simp only [rs_adp, e], ?_⟩
    · show i + 1 ≤ ps.length; omega
    · show ps.length - (i + 1) < ps.length - i; omega
    · repeat' (first | exact True.intro | exact rfl | exact fun _ => rfl | (simp; done) | refine And.intro ?_ ?_)
  · have hd : ps.drop i = ps.getD i (0, 0) :: ps.drop (i + 1) := drop_cons (by omega) _
    have g : pltB (ps.getD i (0, 0)) p = false := g
    have e : i + kP p (ps.drop i) = i := by rw [hd, kP_no g]; rfl
    refine ⟨rfl, [], ?_⟩
    simp only [rs_adp, e]
    repeat' (first | exact True.intro | exact rfl | exact fun _ => rfl | (simp; done) | refine And.intro ?_ ?_)
  · have e : i + kP p (ps.drop i) = i := by rw [List.drop_of_length_le (by omega)]; rfl
    refine ⟨rfl, [], ?_⟩
    simp only [rs_adp, e]
    repeat' (first | exact True.intro | exact rfl | exact fun _ => rfl | (simp; done) | refine And.intro ?_ ?_)
set_option maxRecDepth 100000 in
theorem lg_adp : LoopE Try.prog e_adp c_adp := by
  intro s k t F H hlt ht
  unfold e_adp at hlt
  split at hlt
  rotate_left
  · cases hlt
  rename_i hlen hpick hmem
  obtain ⟨tmps, mem⟩ := s
  simp only at hlen hpick hmem
  subst hmem
  obtain rfl := Option.some.inj hlt
  obtain ⟨⟨rfl, h1, h2, _⟩, ht2⟩ := needs_ok ht
  clear ht hlt
  obtain ⟨ps, rfl, rfl⟩ := even_flat h1
  rw [ptsA_flat] at ht2
  refine ⟨_, _, ht2, loop_run mixed EOl_ok (s_adp ps (_, _)) (inv_adp ps (_, _)) (me_adp ps (_, _)) re_adp (rs_adp ps (_, _)) k_adp (fun _ => rfl) (noLoops nl_adp) (round_adp ps (_, _) h2) (x := 0) (Nat.zero_le _) (π := []) rfl ?_⟩
  refine ⟨rfl, rfl, ?_, wvs_spread' [0, 3, 5] hlen rfl ?_⟩
  · repeat' (first | exact True.intro | exact rfl | exact wv_top _ _ | exact fun _ => rfl | assumption | exact Eq.symm (by assumption) | exact vI0 rfl | refine And.intro ?_ ?_)
  · rw [hpick]
    repeat' (first | exact True.intro | exact rfl | exact wv_top _ _ | exact fun _ => rfl | assumption | exact Eq.symm (by assumption) | exact vI0 rfl | refine And.intro ?_ ?_)
theorem Lr_adp {fn : Func} (hf : Try.prog.funcs[49]? = some fn) : LoopsGood Try.prog (lt1 e_adp) 0 (codeOf fn) := by
  obtain rfl := fn_is Try.func49 hf
  exact lt1_good lg_adp
def LAd : FuncId → LT := fun f => match f with
  | 49 => lt1 e_adp
  | _ => noL
def EAd : Env := mkE TOl (fun _ _ => none) LAd
theorem EAd_ok : EnvOk Try.prog EAd := mkEOk TOl_ok (fun _ _ _ _ _ h => (by cases h)) (by
  intro f fn hf
  unfold LAd
  split
  all_goals first | with_reducible exact Lr_adp hf | exact noL_good)
abbrev zB2 (x y : Int) : Option Blk := some ⟨.box, .vals [.int .i64 x, .int .i64 y]⟩
abbrev zB4 (x y z w : Int) : Option Blk := some ⟨.box, .vals [.int .i64 x, .int .i64 y, .int .i64 z, .int .i64 w]⟩
abbrev zR2 (t : Nat) (x y : Int) : Option Blk := some ⟨.row t 2, .vals [.int .i64 x, .int .i64 y]⟩
abbrev zI (x : Int) : Value := .int .i64 x
abbrev zadpF_0 (ps : List Pt) (x : Int) (y : Int) := (some (IntKind.i64, (↑((0 : Nat) + kP (x, y) (List.drop (0 : Nat) (ptsA ps.length (flat ps)))) : Int)))
abbrev zadpF_1 (ps : List Pt) (x : Int) (y : Int) := (some (IntKind.i64, (↑(0 + kP (x, y) (List.drop 0 (ptsA ps.length (flat ps)))) : Int)))
abbrev zadpF_2 (ps : List Pt) (x : Int) (y : Int) := ((bndI (zadpF_0 ps x y) (↑ps.length : Int)).toNat - (bndI none (0 : Int)).toNat)
abbrev zadpF_3 (ps : List Pt) (x : Int) (y : Int) := ((bndI (zadpF_1 ps x y) (↑ps.length : Int)).toNat - (bndI none 0).toNat)
abbrev zadpF_4 (ps : List Pt) (x : Int) (y : Int) := (bndI (zadpF_0 ps x y) (↑ps.length : Int))
abbrev zadpF_5 (ps : List Pt) (x : Int) (y : Int) := ((bndI none (↑ps.length : Int)).toNat - (bndI (zadpF_0 ps x y) (0 : Int)).toNat)
abbrev zadpF_6 (ps : List Pt) (x : Int) (y : Int) := ((bndI none (↑ps.length : Int)).toNat - (bndI (zadpF_1 ps x y) 0).toNat)
set_option maxRecDepth 100000 in
theorem tr_adpF (ps : List Pt) (x y : Int) : bodyM Try.prog EAd (runM Try.prog EAd 30 12) 30 49 [.slice (some ⟨0, 0, none⟩) ps.length ps.length, .agg #[.int .i64 x, .int .i64 y]] [some ⟨.row 25 2, .ints (flat ps)⟩] .fin = .need ((0 : Int) = (0 : Int)) (.need ((flat ps).length = ps.length * (2 : Nat)) (.need (ps.length ≤ (1000000000 : Nat)) (brT (decide ((↑(0 + kP (x, y) (List.drop 0 (ptsA ps.length (flat ps)))) : Int) < (↑ps.length : Int))) (.need ((0 : Int) ≤ (↑((0 : Nat) + kP (x, y) (List.drop (0 : Nat) (ptsA ps.length (flat ps)))) : Int) ∧ (↑((0 : Nat) + kP (x, y) (List.drop (0 : Nat) (ptsA ps.length (flat ps)))) : Int) < (↑ps.length : Int)) (.need ((0 : Nat) + (↑((0 : Nat) + kP (x, y) (List.drop (0 : Nat) (ptsA ps.length (flat ps)))) : Int).toNat * (2 : Nat) + (2 : Nat) ≤ (flat ps).length) (brT (negB false ((flat ps).getD (0 + (↑(0 + kP (x, y) (List.drop 0 (ptsA ps.length (flat ps)))) : Int).toNat * 2) 0 == x && ((flat ps).getD (0 + (↑(0 + kP (x, y) (List.drop 0 (ptsA ps.length (flat ps)))) : Int).toNat * 2 + 1) 0 == y && true))) (.fin (.slice (some ⟨0, 0, none⟩) (ps.length) (ps.length)) [some ⟨.row 25 2, .ints (flat ps)⟩, zB2 x y]) (.need ((0 : Int) ≤ bndI none (0 : Int) ∧ bndI none (0 : Int) ≤ bndI (zadpF_0 ps x y) (↑ps.length : Int) ∧ bndI (zadpF_0 ps x y) (↑ps.length : Int) ≤ (↑ps.length : Int)) (.need (((0 : Nat) + ((zadpF_4 ps x y).toNat - (bndI none (0 : Int)).toNat, Cs.ints (List.take ((zadpF_2 ps x y) * Try.prog.types[(25 : Nat)].size) (List.drop ((0 : Nat) + (bndI none (0 : Int)).toNat * Try.prog.types[(25 : Nat)].size) (flat ps))), [(0 : Nat) + (bndI none (0 : Int)).toNat * Try.prog.types[(25 : Nat)].size + (zadpF_2 ps x y) * Try.prog.types[(25 : Nat)].size ≤ (flat ps).length]).fst) * (16 : Nat) ≤ (140737488355328 : Nat) ∧ (0 : Nat) + ((zadpF_4 ps x y).toNat - (bndI none (0 : Int)).toNat, Cs.ints (List.take ((zadpF_2 ps x y) * Try.prog.types[(25 : Nat)].size) (List.drop ((0 : Nat) + (bndI none (0 : Int)).toNat * Try.prog.types[(25 : Nat)].size) (flat ps))), [(0 : Nat) + (bndI none (0 : Int)).toNat * Try.prog.types[(25 : Nat)].size + (zadpF_2 ps x y) * Try.prog.types[(25 : Nat)].size ≤ (flat ps).length]).fst ≤ (2000000 : Nat)) (.need ((0 : Nat) + ((zadpF_4 ps x y).toNat - (0 : Nat)) * (2 : Nat) ≤ (flat ps).length) (.need (((0 : Nat) + ((zadpF_4 ps x y).toNat - (bndI none (0 : Int)).toNat, Cs.ints (List.take ((zadpF_2 ps x y) * Try.prog.types[(25 : Nat)].size) (List.drop ((0 : Nat) + (bndI none (0 : Int)).toNat * Try.prog.types[(25 : Nat)].size) (flat ps))), [(0 : Nat) + (bndI none (0 : Int)).toNat * Try.prog.types[(25 : Nat)].size + (zadpF_2 ps x y) * Try.prog.types[(25 : Nat)].size ≤ (flat ps).length]).fst + (1 : Nat)) * (16 : Nat) ≤ (140737488355328 : Nat) ∧ (0 : Nat) + ((zadpF_4 ps x y).toNat - (bndI none (0 : Int)).toNat, Cs.ints (List.take ((zadpF_2 ps x y) * Try.prog.types[(25 : Nat)].size) (List.drop ((0 : Nat) + (bndI none (0 : Int)).toNat * Try.prog.types[(25 : Nat)].size) (flat ps))), [(0 : Nat) + (bndI none (0 : Int)).toNat * Try.prog.types[(25 : Nat)].size + (zadpF_2 ps x y) * Try.prog.types[(25 : Nat)].size ≤ (flat ps).length]).fst + (1 : Nat) ≤ (2000000 : Nat)) (.need ((0 : Nat) + ((0 : Nat) + ((zadpF_4 ps x y).toNat - (bndI none (0 : Int)).toNat, Cs.ints (List.take ((zadpF_2 ps x y) * Try.prog.types[(25 : Nat)].size) (List.drop ((0 : Nat) + (bndI none (0 : Int)).toNat * Try.prog.types[(25 : Nat)].size) (flat ps))), [(0 : Nat) + (bndI none (0 : Int)).toNat * Try.prog.types[(25 : Nat)].size + (zadpF_2 ps x y) * Try.prog.types[(25 : Nat)].size ≤ (flat ps).length]).fst) * (2 : Nat) ≤ ([] ++ List.take (((zadpF_4 ps x y).toNat - (0 : Nat)) * (2 : Nat)) (List.drop (0 : Nat) (flat ps))).length) (.need ((0 : Int) ≤ bndI (zadpF_0 ps x y) (0 : Int) ∧ bndI (zadpF_0 ps x y) (0 : Int) ≤ bndI none (↑ps.length : Int) ∧ bndI none (↑ps.length : Int) ≤ (↑ps.length : Int)) (.need (((0 : Nat) + ((zadpF_4 ps x y).toNat - (bndI none (0 : Int)).toNat, Cs.ints (List.take ((zadpF_2 ps x y) * Try.prog.types[(25 : Nat)].size) (List.drop ((0 : Nat) + (bndI none (0 : Int)).toNat * Try.prog.types[(25 : Nat)].size) (flat ps))), [(0 : Nat) + (bndI none (0 : Int)).toNat * Try.prog.types[(25 : Nat)].size + (zadpF_2 ps x y) * Try.prog.types[(25 : Nat)].size ≤ (flat ps).length]).fst + (1 : Nat) + ((bndI none (↑ps.length : Int)).toNat - (bndI (zadpF_0 ps x y) (0 : Int)).toNat, Cs.ints (List.take ((zadpF_5 ps x y) * Try.prog.types[(25 : Nat)].size) (List.drop ((0 : Nat) + (bndI (zadpF_0 ps x y) (0 : Int)).toNat * Try.prog.types[(25 : Nat)].size) (flat ps))), [(0 : Nat) + (bndI (zadpF_0 ps x y) (0 : Int)).toNat * Try.prog.types[(25 : Nat)].size + (zadpF_5 ps x y) * Try.prog.types[(25 : Nat)].size ≤ (flat ps).length]).fst) * (16 : Nat) ≤ (140737488355328 : Nat) ∧ (0 : Nat) + ((zadpF_4 ps x y).toNat - (bndI none (0 : Int)).toNat, Cs.ints (List.take ((zadpF_2 ps x y) * Try.prog.types[(25 : Nat)].size) (List.drop ((0 : Nat) + (bndI none (0 : Int)).toNat * Try.prog.types[(25 : Nat)].size) (flat ps))), [(0 : Nat) + (bndI none (0 : Int)).toNat * Try.prog.types[(25 : Nat)].size + (zadpF_2 ps x y) * Try.prog.types[(25 : Nat)].size ≤ (flat ps).length]).fst + (1 : Nat) + ((bndI none (↑ps.length : Int)).toNat - (bndI (zadpF_0 ps x y) (0 : Int)).toNat, Cs.ints (List.take ((zadpF_5 ps x y) * Try.prog.types[(25 : Nat)].size) (List.drop ((0 : Nat) + (bndI (zadpF_0 ps x y) (0 : Int)).toNat * Try.prog.types[(25 : Nat)].size) (flat ps))), [(0 : Nat) + (bndI (zadpF_0 ps x y) (0 : Int)).toNat * Try.prog.types[(25 : Nat)].size + (zadpF_5 ps x y) * Try.prog.types[(25 : Nat)].size ≤ (flat ps).length]).fst ≤ (2000000 : Nat)) (.need ((0 : Nat) + (bndI (zadpF_0 ps x y) (0 : Int)).toNat * (2 : Nat) + (zadpF_5 ps x y) * (2 : Nat) ≤ (flat ps).length) (.need ((0 : Nat) + ((0 : Nat) + ((zadpF_4 ps x y).toNat - (bndI none (0 : Int)).toNat, Cs.ints (List.take ((zadpF_2 ps x y) * Try.prog.types[(25 : Nat)].size) (List.drop ((0 : Nat) + (bndI none (0 : Int)).toNat * Try.prog.types[(25 : Nat)].size) (flat ps))), [(0 : Nat) + (bndI none (0 : Int)).toNat * Try.prog.types[(25 : Nat)].size + (zadpF_2 ps x y) * Try.prog.types[(25 : Nat)].size ≤ (flat ps).length]).fst + (1 : Nat)) * (2 : Nat) ≤ (List.take (((0 : Nat) + ((zadpF_4 ps x y).toNat - (bndI none (0 : Int)).toNat, Cs.ints (List.take ((zadpF_2 ps x y) * Try.prog.types[(25 : Nat)].size) (List.drop ((0 : Nat) + (bndI none (0 : Int)).toNat * Try.prog.types[(25 : Nat)].size) (flat ps))), [(0 : Nat) + (bndI none (0 : Int)).toNat * Try.prog.types[(25 : Nat)].size + (zadpF_2 ps x y) * Try.prog.types[(25 : Nat)].size ≤ (flat ps).length]).fst) * (2 : Nat)) (List.drop (0 : Nat) ([] ++ List.take (((zadpF_4 ps x y).toNat - (0 : Nat)) * (2 : Nat)) (List.drop (0 : Nat) (flat ps)))) ++ [x, y]).length) (.fin (.slice (some ⟨6, 0, none⟩) (0 + ((bndI (zadpF_1 ps x y) (↑ps.length : Int)).toNat - (bndI none 0).toNat, Cs.ints (List.take ((zadpF_3 ps x y) * Try.prog.types[25].size) (List.drop (0 + (bndI none 0).toNat * Try.prog.types[25].size) (flat ps))), [0 + (bndI none 0).toNat * Try.prog.types[25].size + (zadpF_3 ps x y) * Try.prog.types[25].size ≤ (flat ps).length]).fst + 1 + ((bndI none (↑ps.length : Int)).toNat - (bndI (zadpF_1 ps x y) 0).toNat, Cs.ints (List.take ((zadpF_6 ps x y) * Try.prog.types[25].size) (List.drop (0 + (bndI (zadpF_1 ps x y) 0).toNat * Try.prog.types[25].size) (flat ps))), [0 + (bndI (zadpF_1 ps x y) 0).toNat * Try.prog.types[25].size + (zadpF_6 ps x y) * Try.prog.types[25].size ≤ (flat ps).length]).fst) (0 + ((bndI (zadpF_1 ps x y) (↑ps.length : Int)).toNat - (bndI none 0).toNat, Cs.ints (List.take ((zadpF_3 ps x y) * Try.prog.types[25].size) (List.drop (0 + (bndI none 0).toNat * Try.prog.types[25].size) (flat ps))), [0 + (bndI none 0).toNat * Try.prog.types[25].size + (zadpF_3 ps x y) * Try.prog.types[25].size ≤ (flat ps).length]).fst + 1 + ((bndI none (↑ps.length : Int)).toNat - (bndI (zadpF_1 ps x y) 0).toNat, Cs.ints (List.take ((zadpF_6 ps x y) * Try.prog.types[25].size) (List.drop (0 + (bndI (zadpF_1 ps x y) 0).toNat * Try.prog.types[25].size) (flat ps))), [0 + (bndI (zadpF_1 ps x y) 0).toNat * Try.prog.types[25].size + (zadpF_6 ps x y) * Try.prog.types[25].size ≤ (flat ps).length]).fst)) [some ⟨.row 25 2, .ints (flat ps)⟩, zB2 x y, some deadB, some deadB, zR2 25 x y, some deadB, some ⟨.row 25 2, .ints (List.take ((0 + ((bndI (zadpF_1 ps x y) (↑ps.length : Int)).toNat - (bndI none 0).toNat, Cs.ints (List.take ((zadpF_3 ps x y) * Try.prog.types[25].size) (List.drop (0 + (bndI none 0).toNat * Try.prog.types[25].size) (flat ps))), [0 + (bndI none 0).toNat * Try.prog.types[25].size + (zadpF_3 ps x y) * Try.prog.types[25].size ≤ (flat ps).length]).fst + 1) * 2) (List.drop 0 (List.take ((0 + ((bndI (zadpF_1 ps x y) (↑ps.length : Int)).toNat - (bndI none 0).toNat, Cs.ints (List.take ((zadpF_3 ps x y) * Try.prog.types[25].size) (List.drop (0 + (bndI none 0).toNat * Try.prog.types[25].size) (flat ps))), [0 + (bndI none 0).toNat * Try.prog.types[25].size + (zadpF_3 ps x y) * Try.prog.types[25].size ≤ (flat ps).length]).fst) * 2) (List.drop 0 ([] ++ List.take (((bndI (zadpF_1 ps x y) (↑ps.length : Int)).toNat - 0) * 2) (List.drop 0 (flat ps)))) ++ [x, y])) ++ List.take ((zadpF_6 ps x y) * 2) (List.drop (0 + (bndI (zadpF_1 ps x y) 0).toNat * 2) (flat ps)))⟩]))))))))))))) (.need ((0 : Int) ≤ bndI none (0 : Int) ∧ bndI none (0 : Int) ≤ bndI (zadpF_0 ps x y) (↑ps.length : Int) ∧ bndI (zadpF_0 ps x y) (↑ps.length : Int) ≤ (↑ps.length : Int)) (.need (((0 : Nat) + ((zadpF_4 ps x y).toNat - (bndI none (0 : Int)).toNat, Cs.ints (List.take ((zadpF_2 ps x y) * Try.prog.types[(25 : Nat)].size) (List.drop ((0 : Nat) + (bndI none (0 : Int)).toNat * Try.prog.types[(25 : Nat)].size) (flat ps))), [(0 : Nat) + (bndI none (0 : Int)).toNat * Try.prog.types[(25 : Nat)].size + (zadpF_2 ps x y) * Try.prog.types[(25 : Nat)].size ≤ (flat ps).length]).fst) * (16 : Nat) ≤ (140737488355328 : Nat) ∧ (0 : Nat) + ((zadpF_4 ps x y).toNat - (bndI none (0 : Int)).toNat, Cs.ints (List.take ((zadpF_2 ps x y) * Try.prog.types[(25 : Nat)].size) (List.drop ((0 : Nat) + (bndI none (0 : Int)).toNat * Try.prog.types[(25 : Nat)].size) (flat ps))), [(0 : Nat) + (bndI none (0 : Int)).toNat * Try.prog.types[(25 : Nat)].size + (zadpF_2 ps x y) * Try.prog.types[(25 : Nat)].size ≤ (flat ps).length]).fst ≤ (2000000 : Nat)) (.need ((0 : Nat) + ((zadpF_4 ps x y).toNat - (0 : Nat)) * (2 : Nat) ≤ (flat ps).length) (.need (((0 : Nat) + ((zadpF_4 ps x y).toNat - (bndI none (0 : Int)).toNat, Cs.ints (List.take ((zadpF_2 ps x y) * Try.prog.types[(25 : Nat)].size) (List.drop ((0 : Nat) + (bndI none (0 : Int)).toNat * Try.prog.types[(25 : Nat)].size) (flat ps))), [(0 : Nat) + (bndI none (0 : Int)).toNat * Try.prog.types[(25 : Nat)].size + (zadpF_2 ps x y) * Try.prog.types[(25 : Nat)].size ≤ (flat ps).length]).fst + (1 : Nat)) * (16 : Nat) ≤ (140737488355328 : Nat) ∧ (0 : Nat) + ((zadpF_4 ps x y).toNat - (bndI none (0 : Int)).toNat, Cs.ints (List.take ((zadpF_2 ps x y) * Try.prog.types[(25 : Nat)].size) (List.drop ((0 : Nat) + (bndI none (0 : Int)).toNat * Try.prog.types[(25 : Nat)].size) (flat ps))), [(0 : Nat) + (bndI none (0 : Int)).toNat * Try.prog.types[(25 : Nat)].size + (zadpF_2 ps x y) * Try.prog.types[(25 : Nat)].size ≤ (flat ps).length]).fst + (1 : Nat) ≤ (2000000 : Nat)) (.need ((0 : Nat) + ((0 : Nat) + ((zadpF_4 ps x y).toNat - (bndI none (0 : Int)).toNat, Cs.ints (List.take ((zadpF_2 ps x y) * Try.prog.types[(25 : Nat)].size) (List.drop ((0 : Nat) + (bndI none (0 : Int)).toNat * Try.prog.types[(25 : Nat)].size) (flat ps))), [(0 : Nat) + (bndI none (0 : Int)).toNat * Try.prog.types[(25 : Nat)].size + (zadpF_2 ps x y) * Try.prog.types[(25 : Nat)].size ≤ (flat ps).length]).fst) * (2 : Nat) ≤ ([] ++ List.take (((zadpF_4 ps x y).toNat - (0 : Nat)) * (2 : Nat)) (List.drop (0 : Nat) (flat ps))).length) (.need ((0 : Int) ≤ bndI (zadpF_0 ps x y) (0 : Int) ∧ bndI (zadpF_0 ps x y) (0 : Int) ≤ bndI none (↑ps.length : Int) ∧ bndI none (↑ps.length : Int) ≤ (↑ps.length : Int)) (.need (((0 : Nat) + ((zadpF_4 ps x y).toNat - (bndI none (0 : Int)).toNat, Cs.ints (List.take ((zadpF_2 ps x y) * Try.prog.types[(25 : Nat)].size) (List.drop ((0 : Nat) + (bndI none (0 : Int)).toNat * Try.prog.types[(25 : Nat)].size) (flat ps))), [(0 : Nat) + (bndI none (0 : Int)).toNat * Try.prog.types[(25 : Nat)].size + (zadpF_2 ps x y) * Try.prog.types[(25 : Nat)].size ≤ (flat ps).length]).fst + (1 : Nat) + ((bndI none (↑ps.length : Int)).toNat - (bndI (zadpF_0 ps x y) (0 : Int)).toNat, Cs.ints (List.take ((zadpF_5 ps x y) * Try.prog.types[(25 : Nat)].size) (List.drop ((0 : Nat) + (bndI (zadpF_0 ps x y) (0 : Int)).toNat * Try.prog.types[(25 : Nat)].size) (flat ps))), [(0 : Nat) + (bndI (zadpF_0 ps x y) (0 : Int)).toNat * Try.prog.types[(25 : Nat)].size + (zadpF_5 ps x y) * Try.prog.types[(25 : Nat)].size ≤ (flat ps).length]).fst) * (16 : Nat) ≤ (140737488355328 : Nat) ∧ (0 : Nat) + ((zadpF_4 ps x y).toNat - (bndI none (0 : Int)).toNat, Cs.ints (List.take ((zadpF_2 ps x y) * Try.prog.types[(25 : Nat)].size) (List.drop ((0 : Nat) + (bndI none (0 : Int)).toNat * Try.prog.types[(25 : Nat)].size) (flat ps))), [(0 : Nat) + (bndI none (0 : Int)).toNat * Try.prog.types[(25 : Nat)].size + (zadpF_2 ps x y) * Try.prog.types[(25 : Nat)].size ≤ (flat ps).length]).fst + (1 : Nat) + ((bndI none (↑ps.length : Int)).toNat - (bndI (zadpF_0 ps x y) (0 : Int)).toNat, Cs.ints (List.take ((zadpF_5 ps x y) * Try.prog.types[(25 : Nat)].size) (List.drop ((0 : Nat) + (bndI (zadpF_0 ps x y) (0 : Int)).toNat * Try.prog.types[(25 : Nat)].size) (flat ps))), [(0 : Nat) + (bndI (zadpF_0 ps x y) (0 : Int)).toNat * Try.prog.types[(25 : Nat)].size + (zadpF_5 ps x y) * Try.prog.types[(25 : Nat)].size ≤ (flat ps).length]).fst ≤ (2000000 : Nat)) (.need ((0 : Nat) + (bndI (zadpF_0 ps x y) (0 : Int)).toNat * (2 : Nat) + (zadpF_5 ps x y) * (2 : Nat) ≤ (flat ps).length) (.need ((0 : Nat) + ((0 : Nat) + ((zadpF_4 ps x y).toNat - (bndI none (0 : Int)).toNat, Cs.ints (List.take ((zadpF_2 ps x y) * Try.prog.types[(25 : Nat)].size) (List.drop ((0 : Nat) + (bndI none (0 : Int)).toNat * Try.prog.types[(25 : Nat)].size) (flat ps))), [(0 : Nat) + (bndI none (0 : Int)).toNat * Try.prog.types[(25 : Nat)].size + (zadpF_2 ps x y) * Try.prog.types[(25 : Nat)].size ≤ (flat ps).length]).fst + (1 : Nat)) * (2 : Nat) ≤ (List.take (((0 : Nat) + ((zadpF_4 ps x y).toNat - (bndI none (0 : Int)).toNat, Cs.ints (List.take ((zadpF_2 ps x y) * Try.prog.types[(25 : Nat)].size) (List.drop ((0 : Nat) + (bndI none (0 : Int)).toNat * Try.prog.types[(25 : Nat)].size) (flat ps))), [(0 : Nat) + (bndI none (0 : Int)).toNat * Try.prog.types[(25 : Nat)].size + (zadpF_2 ps x y) * Try.prog.types[(25 : Nat)].size ≤ (flat ps).length]).fst) * (2 : Nat)) (List.drop (0 : Nat) ([] ++ List.take (((zadpF_4 ps x y).toNat - (0 : Nat)) * (2 : Nat)) (List.drop (0 : Nat) (flat ps)))) ++ [x, y]).length) (.fin (.slice (some ⟨6, 0, none⟩) (0 + ((bndI (zadpF_1 ps x y) (↑ps.length : Int)).toNat - (bndI none 0).toNat, Cs.ints (List.take ((zadpF_3 ps x y) * Try.prog.types[25].size) (List.drop (0 + (bndI none 0).toNat * Try.prog.types[25].size) (flat ps))), [0 + (bndI none 0).toNat * Try.prog.types[25].size + (zadpF_3 ps x y) * Try.prog.types[25].size ≤ (flat ps).length]).fst + 1 + ((bndI none (↑ps.length : Int)).toNat - (bndI (zadpF_1 ps x y) 0).toNat, Cs.ints (List.take ((zadpF_6 ps x y) * Try.prog.types[25].size) (List.drop (0 + (bndI (zadpF_1 ps x y) 0).toNat * Try.prog.types[25].size) (flat ps))), [0 + (bndI (zadpF_1 ps x y) 0).toNat * Try.prog.types[25].size + (zadpF_6 ps x y) * Try.prog.types[25].size ≤ (flat ps).length]).fst) (0 + ((bndI (zadpF_1 ps x y) (↑ps.length : Int)).toNat - (bndI none 0).toNat, Cs.ints (List.take ((zadpF_3 ps x y) * Try.prog.types[25].size) (List.drop (0 + (bndI none 0).toNat * Try.prog.types[25].size) (flat ps))), [0 + (bndI none 0).toNat * Try.prog.types[25].size + (zadpF_3 ps x y) * Try.prog.types[25].size ≤ (flat ps).length]).fst + 1 + ((bndI none (↑ps.length : Int)).toNat - (bndI (zadpF_1 ps x y) 0).toNat, Cs.ints (List.take ((zadpF_6 ps x y) * Try.prog.types[25].size) (List.drop (0 + (bndI (zadpF_1 ps x y) 0).toNat * Try.prog.types[25].size) (flat ps))), [0 + (bndI (zadpF_1 ps x y) 0).toNat * Try.prog.types[25].size + (zadpF_6 ps x y) * Try.prog.types[25].size ≤ (flat ps).length]).fst)) [some ⟨.row 25 2, .ints (flat ps)⟩, zB2 x y, some deadB, some deadB, zR2 25 x y, some deadB, some ⟨.row 25 2, .ints (List.take ((0 + ((bndI (zadpF_1 ps x y) (↑ps.length : Int)).toNat - (bndI none 0).toNat, Cs.ints (List.take ((zadpF_3 ps x y) * Try.prog.types[25].size) (List.drop (0 + (bndI none 0).toNat * Try.prog.types[25].size) (flat ps))), [0 + (bndI none 0).toNat * Try.prog.types[25].size + (zadpF_3 ps x y) * Try.prog.types[25].size ≤ (flat ps).length]).fst + 1) * 2) (List.drop 0 (List.take ((0 + ((bndI (zadpF_1 ps x y) (↑ps.length : Int)).toNat - (bndI none 0).toNat, Cs.ints (List.take ((zadpF_3 ps x y) * Try.prog.types[25].size) (List.drop (0 + (bndI none 0).toNat * Try.prog.types[25].size) (flat ps))), [0 + (bndI none 0).toNat * Try.prog.types[25].size + (zadpF_3 ps x y) * Try.prog.types[25].size ≤ (flat ps).length]).fst) * 2) (List.drop 0 ([] ++ List.take (((bndI (zadpF_1 ps x y) (↑ps.length : Int)).toNat - 0) * 2) (List.drop 0 (flat ps)))) ++ [x, y])) ++ List.take ((zadpF_6 ps x y) * 2) (List.drop (0 + (bndI (zadpF_1 ps x y) 0).toNat * 2) (flat ps)))⟩]))))))))))))) := by kernel_rfl
theorem ins_flat {ps : List Pt} {k : Nat} (h : k ≤ ps.length) (x y : Int) : List.take ((k + 1) * 2) (List.take (k * 2) (List.take (k * 2) (flat ps)) ++ [x, y]) ++ List.take ((ps.length - k) * 2) (List.drop (k * 2) (flat ps)) = flat (ps.take k ++ ((x, y) :: ps.drop k)) := by
  have l1 : (ps.take k).length = k := by simp; omega
  have l2 : (ps.drop k).length = ps.length - k := by simp
  have l3 : (ps.take k ++ [(x, y)]).length = k + 1 := by rw [List.length_append, l1]; rfl
  have e1 : List.take (k + 1) (ps.take k ++ [(x, y)]) = ps.take k ++ [(x, y)] := List.take_of_length_le (by omega)
  have e2 : List.take (ps.length - k) (ps.drop k) = ps.drop k := List.take_of_length_le (by omega)
  rw [flat_take, flat_take, List.take_take, Nat.min_self, flat_snoc, flat_take, flat_drop, flat_take, e1, e2, ← flat_append, List.append_assoc]
  rfl
theorem adp_row (ps : List Pt) (x y : Int) (h : ps.length ≤ 1000) : (bodyM Try.prog EAd (runM Try.prog EAd 30 12) 30 49 [.slice (some ⟨0, 0, none⟩) ps.length ps.length, .agg #[.int .i64 x, .int .i64 y]] [some ⟨.row 25 2, .ints (flat ps)⟩] .fin).ok (fun _ _ => False) (fun u mem' => RowIs (.slice (some ⟨0, 0, none⟩) (insP (x, y) ps).length (insP (x, y) ps).length) ⟨.row 25 2, .ints (flat (insP (x, y) ps))⟩ u mem') := by
  rw [tr_adpF]
  try delta zB2 zB4 zR2 zI zadpF_0 zadpF_1 zadpF_2 zadpF_3 zadpF_4 zadpF_5 zadpF_6
  have hk := kP_le (x, y) ps
  have hi := insP_is (x, y) ps
  simp only [List.drop_zero, ptsA_flat, flat_length, Nat.zero_add, Int.toNat_natCast, bndI, Nat.sub_zero, Int.toNat_zero, Nat.zero_mul, List.nil_append]
  generalize kP (x, y) ps = k at *
  have hfl := ins_flat hk x y
  refine ⟨trivial, trivial, by omega, ?_⟩
  simp only [brT_ok, Tree.ok, decide_eq_true_eq, decide_eq_false_iff_not, flat_get0, flat_get1, hfl]
  have lt2 : (List.take (k * 2) (flat ps)).length = k * 2 := by rw [List.length_take, flat_length]; omega
  have lt3 : (List.take (k * 2) (List.take (k * 2) (flat ps)) ++ [x, y]).length = (k + 1) * 2 := by rw [List.length_append, List.length_take, lt2]; simp; omega
  have fin : insP (x, y) ps = ps.take k ++ ((x, y) :: ps.drop k) → RowIs (.slice (some ⟨0, 0, none⟩) (insP (x, y) ps).length (insP (x, y) ps).length) ⟨.row 25 2, .ints (flat (insP (x, y) ps))⟩ (.slice (some ⟨6, 0, none⟩) (k + 1 + (ps.length - k)) (k + 1 + (ps.length - k)))
      [some ⟨.row 25 2, .ints (flat ps)⟩, some ⟨.box, .vals [.int .i64 x, .int .i64 y]⟩, some deadB, some deadB, some ⟨.row 25 2, .vals [.int .i64 x, .int .i64 y]⟩, some deadB, some ⟨.row 25 2, .ints (flat (ps.take k ++ ((x, y) :: ps.drop k)))⟩] := fun e => by
    have l : (insP (x, y) ps).length = k + 1 + (ps.length - k) := by rw [e]; simp; omega
    rw [l, e]
    exact ⟨some 6, ⟨rfl, rfl, rfl⟩, rfl, rfl, rfl⟩
  refine ⟨fun hlt => ⟨by omega, by omega, fun g => ?_, fun g => ?_⟩, fun hge => ?_⟩
  · have e : insP (x, y) ps = ps := by
      simp only [negB, Bool.and_true, Bool.and_eq_true, beq_iff_eq] at g
      rw [hi, if_pos ⟨by omega, Prod.ext g.1 g.2⟩]
    rw [e]
    exact ⟨some 0, ⟨rfl, rfl, rfl⟩, rfl, rfl, rfl⟩
  · have e : insP (x, y) ps = ps.take k ++ ((x, y) :: ps.drop k) := by
      rw [hi, if_neg]
      rintro ⟨_, e⟩
      rw [e] at g
      simp [negB] at g
    exact ⟨by omega, by omega, by omega, by omega, by omega, by omega, by omega, by omega, by omega, fin e⟩
  · have e : insP (x, y) ps = ps.take k ++ ((x, y) :: ps.drop k) := by
      rw [hi, if_neg]
      rintro ⟨h1, _⟩
      omega
    exact ⟨by omega, by omega, by omega, by omega, by omega, by omega, by omega, by omega, by omega, fin e⟩
/-- The model's addPoint: it takes over a list. -/
def addS : OSpec := fun e sz l xs rest => match e, sz, rest with
  | 25, 2, [.agg ⟨[.int .i64 x, .int .i64 y]⟩] => some (.slice (some ⟨0, 0, none⟩) (insP (x, y) (ptsA l xs)).length (insP (x, y) (ptsA l xs)).length, ⟨.row 25 2, .ints (flat (insP (x, y) (ptsA l xs)))⟩, [xs.length = l * 2, l ≤ 1000])
  | _, _, _ => none
set_option maxRecDepth 100000 in
theorem addS_ok : OSpecOk Try.prog 49 addS := by
  intro e sz l xs rest v b C h hC
  unfold addS at h
  split at h
  rotate_left
  · cases h
  obtain ⟨rfl, rfl, rfl⟩ : _ ∧ _ ∧ _ := by simpa using h
  obtain ⟨h1, h2, _⟩ := hC
  obtain ⟨ps, rfl, rfl⟩ := even_flat h1
  rw [ptsA_flat]
  exact ⟨rfl, EAd, 30, 12, EAd_ok, adp_row ps _ _ h2⟩
def JAd : TabJ := consR 49 (owG addS) noJ
theorem JAd_ok : GSound Try.prog JAd.g := consO_ok mixed (J := noJ) (failG_sound _) (entersB_res (by kernel_rfl)).1 addS_ok
def ESo : Env := withT (mkE TOl (fun _ _ => none) (fun _ => noL)) JAd
theorem ESo_ok : EnvOk Try.prog ESo := withT_ok (mkEOk TOl_ok (fun _ _ _ _ _ h => (by cases h)) (fun _ _ _ => noL_good)) JAd_ok
noncomputable def c_srt : Code := ((loopsOf (codeOf Try.f37))[0]?).getD .skip
def k_srt : Ex → List Nat := keeps [0, 3, 4] [(0, [3])] [2]
def s_srt (ps : List Pt) : Nat × (List Pt) → St := fun (i, o) => ⟨[.slice (some ⟨0, 0, none⟩) ps.length ps.length, topV, topV, .slice (some ⟨2, 0, none⟩) o.length o.length, .int .i64 i, topV, topV, topV, topV, topV, topV, topV, topV, topV, topV, topV, topV, topV, topV], [some ⟨.view, .ints (flat ps)⟩, some ⟨.dead, .vals []⟩, some ⟨.row 25 2, .ints (flat o)⟩]⟩
def re_srt : Nat × (List Pt) → Ex := fun _ => .exit 0
def rs_srt (ps : List Pt) : Nat × (List Pt) → St := fun (i, o) => ⟨[topV, topV, topV, .slice (some ⟨2, 0, none⟩) (srtO o (ps.drop i)).length (srtO o (ps.drop i)).length, topV, topV, topV, topV, topV, topV, topV, topV, topV, topV, topV, topV, topV, topV, topV], [some ⟨.view, .ints (flat ps)⟩, some ⟨.dead, .vals []⟩, some ⟨.row 25 2, .ints (flat (srtO o (ps.drop i)))⟩]⟩
set_option maxRecDepth 100000 in
theorem tr_srt (ps : List Pt) (i : Nat) (o : List Pt) : bodyL Try.prog ESo 30 12 noL 1 c_srt k_srt 5 (s_srt ps (i, o)) = brT (decide ((↑i : Int) < (↑ps.length : Int))) (.need ((0 : Int) ≤ (↑i : Int) ∧ (↑i : Int) < (↑ps.length : Int)) (.need ((0 : Nat) + (↑i : Int).toNat * (2 : Nat) + (2 : Nat) ≤ (flat ps).length) (.need ((flat o).length = o.length * (2 : Nat)) (.need (o.length ≤ (1000 : Nat)) (.leaf .normal ⟨[.slice (some ⟨0, 0, none⟩) (ps.length) (ps.length), topV, topV, .slice (some ⟨3, 0, none⟩) ((insP ((flat ps).getD (0 + (↑i : Int).toNat * (2 : Nat)) 0, (flat ps).getD (0 + (↑i : Int).toNat * (2 : Nat) + 1) 0) (ptsA o.length (flat o))).length) ((insP ((flat ps).getD (0 + (↑i : Int).toNat * (2 : Nat)) 0, (flat ps).getD (0 + (↑i : Int).toNat * (2 : Nat) + 1) 0) (ptsA o.length (flat o))).length), .int .i64 (IntKind.i64.wrap ((↑i : Int) + 1)), topV, topV, topV, topV, topV, topV, topV, topV, topV, topV, topV, topV, topV, topV], [some ⟨.view, .ints (flat ps)⟩, some deadB, some deadB, some ⟨.row 25 2, .ints (flat (insP ((flat ps).getD (0 + (↑i : Int).toNat * (2 : Nat)) 0, (flat ps).getD (0 + (↑i : Int).toNat * (2 : Nat) + 1) 0) (ptsA o.length (flat o))))⟩]⟩))))) (.leaf (.exit 0) ⟨[topV, topV, topV, .slice (some ⟨2, 0, none⟩) (o.length) (o.length), topV, topV, topV, topV, topV, topV, topV, topV, topV, topV, topV, topV, topV, topV, topV], [some ⟨.view, .ints (flat ps)⟩, some deadB, some ⟨.row 25 2, .ints (flat o)⟩]⟩) := by kernel_rfl
set_option maxRecDepth 100000 in
theorem nl_srt : loopsOf c_srt = [] := by kernel_rfl
def inv_srt (ps : List Pt) : Nat × (List Pt) → Prop := fun (i, o) => i ≤ ps.length ∧ o.length ≤ i
def me_srt (ps : List Pt) : Nat × (List Pt) → Nat := fun (i, o) => ps.length - i
/-- A round of this loop. -/
def Round_srt (ps : List Pt) : Prop := ∀ xx : Nat × (List Pt), inv_srt ps xx → (bodyL Try.prog ESo 30 12 noL 1 c_srt k_srt 5 (s_srt ps xx)).ok (RoundEnd 2 (s_srt ps) (inv_srt ps) (me_srt ps) re_srt (rs_srt ps) xx) (fun _ _ => False)
def e_srt (s : St) (k : Ex → St → Tree) : Option Tree := match Nat.beq s.tmps.length 19, pickL s.tmps [0, 3, 4], s.mem with
  | true, [.slice (some ⟨0, 0, none⟩) n _, .slice (some ⟨1, 0, none⟩) z _, .int .i64 ii], [some ⟨.view, .ints xs⟩, some ⟨.row 25 2, .vals []⟩] => some (needs [ii = 0, z = 0, xs.length = n * 2, n ≤ 1000] (k (.exit 0) ⟨[topV, topV, topV, .slice (some ⟨2, 0, none⟩) (srtO [] ((ptsA n xs).drop 0)).length (srtO [] ((ptsA n xs).drop 0)).length, topV, topV, topV, topV, topV, topV, topV, topV, topV, topV, topV, topV, topV, topV, topV], [some ⟨.view, .ints xs⟩, some ⟨.dead, .vals []⟩, some ⟨.row 25 2, .ints (flat (srtO [] ((ptsA n xs).drop 0)))⟩]⟩))
  | _, _, _ => none
set_option maxRecDepth 100000 in
theorem round_srt (ps : List Pt) (h : ps.length ≤ 1000) : Round_srt ps := by
  rintro ⟨i, o⟩ ⟨h1, h2⟩
  rw [tr_srt]
  simp only [brT_ok, Tree.ok, decide_eq_true_eq, decide_eq_false_iff_not, Int.toNat_natCast, Nat.zero_add, flat_length, flat_get0, flat_get1, ptsA_flat]
  refine ⟨fun hlt => ⟨by omega, by omega, trivial, by omega, ?_⟩, fun hge => ?_⟩
  · rw [wsucc (n := ps.length) (by omega) (by omega)]
    have hd : ps.drop i = ps.getD i (0, 0) :: ps.drop (i + 1) := drop_cons (by omega) _
    have hle := insP_le (ps.getD i (0, 0)) o
    have e : srtO o (ps.drop i) = srtO (insP (ps.getD i (0, 0)) o) (ps.drop (i + 1)) := by rw [hd]; rfl
    refine ⟨(i + 1, insP (ps.getD i (0, 0)) o), [some 3], ⟨by omega, by omega⟩, ?_, rfl, ?_, ?_⟩
    · show ps.length - (i + 1) < ps.length - i; omega
    · simp only [rs_srt, e]
    · repeat' (first | exact True.intro | exact rfl | exact fun _ => rfl | (simp; done) | refine And.intro ?_ ?_)
  · have e : srtO o (ps.drop i) = o := by rw [List.drop_of_length_le (by omega)]; rfl
    refine ⟨rfl, [some 2], ?_⟩
    simp only [rs_srt, e]
    repeat' (first | exact True.intro | exact rfl | exact fun _ => rfl | (simp; done) | refine And.intro ?_ ?_)
set_option maxRecDepth 100000 in
theorem lg_srt : LoopE Try.prog e_srt c_srt := by
  intro s k t F H hlt ht
  unfold e_srt at hlt
  split at hlt
  rotate_left
  · cases hlt
  rename_i hlen hpick hmem
  obtain ⟨tmps, mem⟩ := s
  simp only at hlen hpick hmem
  subst hmem
  obtain rfl := Option.some.inj hlt
  obtain ⟨⟨rfl, rfl, h1, h2, _⟩, ht2⟩ := needs_ok ht
  clear ht hlt
  obtain ⟨ps, rfl, rfl⟩ := even_flat h1
  rw [ptsA_flat] at ht2
  refine ⟨_, _, ht2, loop_run2 mixed ESo_ok (s_srt _) (inv_srt _) (me_srt _) re_srt (rs_srt _) k_srt (fun _ => rfl) (noLoops nl_srt) (round_srt _ h2) (x := (0, [])) ⟨Nat.zero_le _, Nat.le_refl _⟩ (π := [some 1]) rfl ?_⟩
  refine ⟨rfl, rfl, ?_, wvs_spread' [0, 3, 4] hlen rfl ?_⟩
  · repeat' (first | exact True.intro | exact rfl | exact wv_top _ _ | exact fun _ => rfl | assumption | exact Eq.symm (by assumption) | exact vI0 rfl | refine And.intro ?_ ?_)
  · rw [hpick]
    repeat' (first | exact True.intro | exact rfl | exact wv_top _ _ | exact fun _ => rfl | assumption | exact Eq.symm (by assumption) | exact vI0 rfl | refine And.intro ?_ ?_)
theorem Lr_srt {fn : Func} (hf : Try.prog.funcs[37]? = some fn) : LoopsGood Try.prog (lt1 e_srt) 0 (codeOf fn) := by
  obtain rfl := fn_is Try.func37 hf
  exact lt1_good lg_srt
def LSr : FuncId → LT := fun f => match f with
  | 37 => lt1 e_srt
  | _ => noL
def ESr : Env := withT (mkE TOl (fun _ _ => none) LSr) JAd
theorem ESr_ok : EnvOk Try.prog ESr := withT_ok (mkEOk TOl_ok (fun _ _ _ _ _ h => (by cases h)) (by
  intro f fn hf
  unfold LSr
  split
  all_goals first | with_reducible exact Lr_srt hf | exact noL_good)) JAd_ok
set_option maxRecDepth 100000 in
theorem tr_srtF (ps : List Pt) : bodyX Try.prog ESr 30 12 37 [.row ps.length (.ints (flat ps))] = .need ((0 : Int) = (0 : Int)) (.need ((0 : Nat) = (0 : Nat)) (.need ((flat ps).length = ps.length * (2 : Nat)) (.need (ps.length ≤ (1000 : Nat)) (.fin (.slice (some ⟨2, 0, none⟩) ((srtO [] (List.drop 0 (ptsA ps.length (flat ps)))).length) ((srtO [] (List.drop 0 (ptsA ps.length (flat ps)))).length)) [some ⟨.view, .ints (flat ps)⟩, some deadB, some ⟨.row 25 2, .ints (flat (srtO [] (List.drop 0 (ptsA ps.length (flat ps)))))⟩])))) := by kernel_rfl
abbrev rowP (ps : List Pt) : Value := .slice (some ⟨0, 0, none⟩) ps.length ps.length
abbrev blkP (ps : List Pt) : Blk := ⟨.row 25 2, .ints (flat ps)⟩
theorem resR_srt (ps : List Pt) (h : ps.length ≤ 1000) : ResR Try.prog 37 [.row ps.length (.ints (flat ps))] (rowP (srtL ps)) (blkP (srtL ps)) := by
  refine bodyX_resR mixed ESr_ok (m := 30) (n := 12) rfl ?_
  rw [tr_srtF]
  simp only [List.drop_zero, ptsA_flat, flat_length]
  exact ⟨trivial, trivial, trivial, h, some 2, ⟨rfl, rfl, rfl⟩, rfl, rfl, rfl⟩
end Go.Proofs.Ytbhdhejefpdjfaa
