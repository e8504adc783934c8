/-
  Texts that the proof needs, merged. Written by an AI agent.
-/
import Derived.Orders
import Derived.Below
import Derived.OrdersIn
import Derived.Deep.LoopGhost
import Derived.WalkKit
import Derived.Laws.CopyRow
import Derived.Laws.AppendOwn
import Derived.Laws.Slices
import Derived.Laws.MakeOwn
import Derived.Test.YtcplfampcbekoaaRows
import Derived.ProofKit
import Derived.OpenShut
import Derived.Carry
import Derived.IntWalk
import Derived.Test.YtcplfampcbekoaaProg
import Derived.WalkSpells
import Derived.WalkLawsBesides
import Derived.Lib.Hide
import Derived.Deep.QuietTactic
import Derived.BigQuiet
import Derived.KernelRfl
import Derived.Deep.RegionHeld3
import Derived.LoopTactic
import Derived.Laws.StructEq
import Derived.Laws.Tables
import Derived.RangeFuncNested
import Derived.RangeFuncLeaves
import Derived.Deep.Slices
import Derived.Deep.Fields
import Derived.ChangeSame
import Derived.Shelf.SlSortCmp.WholeK
import Derived.Sort.Grow
import Derived.Deep.DeepCutAuto
import Derived.Shelf.SlSortCmp.NoneTotal
import Derived.Test.YtcplfampcbekoaaZHullMore4
namespace Go.Proofs.Ytcplfampcbekoaa
set_option linter.all false
open Go.RowKit
def TCh : Tab := orT T3 TOl
theorem TCh_ok : TabOk Try.prog TCh := orT_ok T3_ok TOl_ok
def ECh : Env := mkE TCh RSq (fun _ => noL)
theorem ECh_ok : EnvOk Try.prog ECh := mkEOk TCh_ok RSq_ok (fun _ _ _ => noL_good)
noncomputable def c_chI : Code := ((loopsOf (codeOf Try.f18))[1]?).getD .skip
def k_chI : Ex → List Nat := keeps [3, 5, 6, 7, 8, 9] [(2, [3, 5, 7, 8, 9]), (1, [3, 7, 8, 9]), (0, [3])] [2]
def s_chI (xs : List Int) (st : List Pt) (x y : Int) (n i : Nat) : Nat → St := fun j => ⟨(topV :: topV :: topV :: .slice (some ⟨1, 0, none⟩) j j :: topV :: .pointer (some ⟨2, 0, none⟩) :: .int .i64 j :: .slice (some ⟨0, 0, none⟩) n n :: .int .i64 n :: .int .i64 i :: topV :: topV :: topV :: topV :: topV :: topV :: topV :: topV :: topV :: topV :: topV :: topV :: topV :: topV :: topV :: topV :: topV :: topV :: topV :: topV :: topV :: topV :: topV :: topV :: topV :: topV :: topV :: topV :: topV :: topV :: topV :: topV :: topV :: topV :: []), [some ⟨.view, .ints xs⟩, some ⟨.row 29 2, .ints (flat st)⟩, some ⟨.box, .vals [.int .i64 x, .int .i64 y]⟩]⟩
def re_chI : Nat → Ex := fun _ => .exit 2
def rs_chI (xs : List Int) (st : List Pt) (x y : Int) (n i : Nat) : Nat → St := fun j => ⟨(topV :: topV :: topV :: .slice (some ⟨1, 0, none⟩) (popN st (x, y) st.length) (popN st (x, y) st.length) :: topV :: .pointer (some ⟨2, 0, none⟩) :: topV :: .slice (some ⟨0, 0, none⟩) n n :: .int .i64 n :: .int .i64 i :: topV :: topV :: topV :: topV :: topV :: topV :: topV :: topV :: topV :: topV :: topV :: topV :: topV :: topV :: topV :: topV :: topV :: topV :: topV :: topV :: topV :: topV :: topV :: topV :: topV :: topV :: topV :: topV :: topV :: topV :: topV :: topV :: topV :: topV :: []), [some ⟨.view, .ints xs⟩, some ⟨.row 29 2, .ints (flat st)⟩, some ⟨.box, .vals [.int .i64 x, .int .i64 y]⟩]⟩
set_option maxRecDepth 100000 in
theorem tr_chI (xs : List Int) (st : List Pt) (x y : Int) (n i : Nat) (j : Nat) : bodyL Try.prog ECh 30 12 noL 2 c_chI k_chI 3 (s_chI xs st x y n i j) = brT (decide (2 ≤ (↑j : Int))) (.need (ptB ((flat st).getD ((0 : Nat) + (IntKind.i64.wrap ((↑j : Int) - (2 : Int))).toNat * (2 : Nat)) (0 : Int)) ((flat st).getD ((0 : Nat) + (IntKind.i64.wrap ((↑j : Int) - (2 : Int))).toNat * (2 : Nat) + (1 : Nat)) (0 : Int)) = true) (.need (ptB ((flat st).getD ((0 : Nat) + (IntKind.i64.wrap ((↑j : Int) - (1 : Int))).toNat * (2 : Nat)) (0 : Int)) ((flat st).getD ((0 : Nat) + (IntKind.i64.wrap ((↑j : Int) - (1 : Int))).toNat * (2 : Nat) + (1 : Nat)) (0 : Int)) = true) (.need (ptB x y = true) (.need ((0 : Int) ≤ IntKind.i64.wrap ((↑j : Int) - (2 : Int)) ∧ IntKind.i64.wrap ((↑j : Int) - (2 : Int)) < (↑j : Int)) (.need ((0 : Nat) + (IntKind.i64.wrap ((↑j : Int) - (2 : Int))).toNat * (2 : Nat) + (2 : Nat) ≤ (flat st).length) (.need ((0 : Int) ≤ IntKind.i64.wrap ((↑j : Int) - (1 : Int)) ∧ IntKind.i64.wrap ((↑j : Int) - (1 : Int)) < (↑j : Int)) (.need ((0 : Nat) + (IntKind.i64.wrap ((↑j : Int) - (1 : Int))).toNat * (2 : Nat) + (2 : Nat) ≤ (flat st).length) (brT (decide (crossI ((flat st).getD (0 + (IntKind.i64.wrap ((↑j : Int) - 2)).toNat * 2) 0) ((flat st).getD (0 + (IntKind.i64.wrap ((↑j : Int) - 2)).toNat * 2 + 1) 0) ((flat st).getD (0 + (IntKind.i64.wrap ((↑j : Int) - 1)).toNat * 2) 0) ((flat st).getD (0 + (IntKind.i64.wrap ((↑j : Int) - 1)).toNat * 2 + 1) 0) x y ≤ 0)) (.need ((0 : Int) ≤ bndI none (0 : Int) ∧ bndI none (0 : Int) ≤ bndI (some (IntKind.i64, IntKind.i64.wrap ((↑j : Int) - (1 : Int)))) (↑j : Int) ∧ bndI (some (IntKind.i64, IntKind.i64.wrap ((↑j : Int) - (1 : Int)))) (↑j : Int) ≤ (↑j : Int)) (.leaf .normal ⟨(topV :: topV :: topV :: .slice (some ⟨1, 0, none⟩) ((bndI (some (IntKind.i64, IntKind.i64.wrap ((↑j : Int) - 1))) (↑j : Int)).toNat - 0) ((bndI (some (IntKind.i64, IntKind.i64.wrap ((↑j : Int) - 1))) (↑j : Int)).toNat - 0) :: topV :: .pointer (some ⟨2, 0, none⟩) :: .int .i64 (IntKind.i64.wrap ((↑j : Int) - 1)) :: .slice (some ⟨0, 0, none⟩) (n) (n) :: .int .i64 ((↑n : Int)) :: .int .i64 ((↑i : Int)) :: topV :: topV :: topV :: topV :: topV :: topV :: topV :: topV :: topV :: topV :: topV :: topV :: topV :: topV :: topV :: topV :: topV :: topV :: topV :: topV :: topV :: topV :: topV :: topV :: topV :: topV :: topV :: topV :: topV :: topV :: topV :: topV :: topV :: topV :: []), [some ⟨.view, .ints (xs)⟩, some ⟨.row 29 2, .ints (flat st)⟩, some ⟨.box, .vals [.int .i64 (x), .int .i64 (y)]⟩]⟩)) (.leaf (.exit 2) ⟨(topV :: topV :: topV :: .slice (some ⟨1, 0, none⟩) (j) (j) :: topV :: .pointer (some ⟨2, 0, none⟩) :: topV :: .slice (some ⟨0, 0, none⟩) (n) (n) :: .int .i64 ((↑n : Int)) :: .int .i64 ((↑i : Int)) :: topV :: topV :: topV :: topV :: topV :: topV :: topV :: topV :: topV :: topV :: topV :: topV :: topV :: topV :: topV :: topV :: topV :: topV :: topV :: topV :: topV :: topV :: topV :: topV :: topV :: topV :: topV :: topV :: topV :: topV :: topV :: topV :: topV :: topV :: []), [some ⟨.view, .ints (xs)⟩, some ⟨.row 29 2, .ints (flat st)⟩, some ⟨.box, .vals [.int .i64 (x), .int .i64 (y)]⟩]⟩))))))))) (.leaf (.exit 2) ⟨(topV :: topV :: topV :: .slice (some ⟨1, 0, none⟩) (j) (j) :: topV :: .pointer (some ⟨2, 0, none⟩) :: topV :: .slice (some ⟨0, 0, none⟩) (n) (n) :: .int .i64 ((↑n : Int)) :: .int .i64 ((↑i : Int)) :: topV :: topV :: topV :: topV :: topV :: topV :: topV :: topV :: topV :: topV :: topV :: topV :: topV :: topV :: topV :: topV :: topV :: topV :: topV :: topV :: topV :: topV :: topV :: topV :: topV :: topV :: topV :: topV :: topV :: topV :: topV :: topV :: topV :: topV :: []), [some ⟨.view, .ints (xs)⟩, some ⟨.row 29 2, .ints (flat st)⟩, some ⟨.box, .vals [.int .i64 (x), .int .i64 (y)]⟩]⟩) := by kernel_rfl
set_option maxRecDepth 100000 in
theorem nl_chI : loopsOf c_chI = [] := by kernel_rfl
def inv_chI (xs : List Int) (st : List Pt) (x y : Int) (n i : Nat) : Nat → Prop := fun j => j ≤ st.length ∧ popN st (x, y) j = popN st (x, y) st.length
def me_chI (xs : List Int) (st : List Pt) (x y : Int) (n i : Nat) : Nat → Nat := fun j => j
/-- A round of this loop. -/
def Round_chI (xs : List Int) (st : List Pt) (x y : Int) (n i : Nat) : Prop := ∀ xx : Nat, inv_chI xs st x y n i xx → (bodyL Try.prog ECh 30 12 noL 2 c_chI k_chI 3 (s_chI xs st x y n i xx)).ok (RoundEnd 3 (s_chI xs st x y n i) (inv_chI xs st x y n i) (me_chI xs st x y n i) re_chI (rs_chI xs st x y n i) xx) (fun _ _ => False)
def e_chI (s : St) (k : Ex → St → Tree) : Option Tree := match Nat.beq s.tmps.length 44, pickL s.tmps [3, 5, 6, 7, 8, 9], s.mem with
  | true, [.slice (some ⟨1, 0, none⟩) l _, .pointer (some ⟨2, 0, none⟩), .int .i64 jj, .slice (some ⟨0, 0, none⟩) n _, .int .i64 n1, .int .i64 i], [some ⟨.view, .ints xs⟩, some ⟨.row 29 2, .ints ys⟩, some ⟨.box, .vals [.int .i64 x, .int .i64 y]⟩] => some (needs [jj = l, n1 = n, 0 ≤ i, ys.length = l * 2, allV (ptsA l ys) = true, ptB x y = true, l ≤ 1000] (k (.exit 2) ⟨(topV :: topV :: topV :: .slice (some ⟨1, 0, none⟩) (popN (ptsA l ys) (x, y) l) (popN (ptsA l ys) (x, y) l) :: topV :: .pointer (some ⟨2, 0, none⟩) :: topV :: .slice (some ⟨0, 0, none⟩) n n :: .int .i64 n :: .int .i64 i :: topV :: topV :: topV :: topV :: topV :: topV :: topV :: topV :: topV :: topV :: topV :: topV :: topV :: topV :: topV :: topV :: topV :: topV :: topV :: topV :: topV :: topV :: topV :: topV :: topV :: topV :: topV :: topV :: topV :: topV :: topV :: topV :: topV :: topV :: []), [some ⟨.view, .ints xs⟩, some ⟨.row 29 2, .ints ys⟩, some ⟨.box, .vals [.int .i64 x, .int .i64 y]⟩]⟩))
  | _, _, _ => none
noncomputable def c_chS : Code := ((loopsOf (codeOf Try.f45))[1]?).getD .skip
def k_chS : Ex → List Nat := keeps [0, 3, 4] [(2, [0, 3, 4]), (1, [0, 3, 4]), (0, [3])] [2]
def s_chS (ps st : List Pt) (i : Nat) : Nat → St := fun j => ⟨(.slice (some ⟨0, 0, none⟩) ps.length ps.length :: topV :: topV :: .slice (some ⟨2, 0, none⟩) j j :: .int .i64 i :: topV :: topV :: topV :: topV :: topV :: topV :: topV :: topV :: topV :: topV :: topV :: topV :: topV :: topV :: topV :: topV :: topV :: topV :: topV :: topV :: topV :: topV :: topV :: topV :: topV :: topV :: topV :: topV :: topV :: topV :: topV :: topV :: topV :: topV :: topV :: topV :: topV :: topV :: topV :: topV :: topV :: topV :: topV :: []), [some ⟨.view, .ints (flat ps)⟩, some ⟨.dead, .vals []⟩, some ⟨.row 29 2, .ints (flat st)⟩]⟩
def re_chS : Nat → Ex := fun _ => .exit 2
def rs_chS (ps st : List Pt) (i : Nat) : Nat → St := fun j => ⟨(.slice (some ⟨0, 0, none⟩) ps.length ps.length :: topV :: topV :: .slice (some ⟨2, 0, none⟩) (popN st (ps.getD i (0, 0)) st.length) (popN st (ps.getD i (0, 0)) st.length) :: .int .i64 i :: topV :: topV :: topV :: topV :: topV :: topV :: topV :: topV :: topV :: topV :: topV :: topV :: topV :: topV :: topV :: topV :: topV :: topV :: topV :: topV :: topV :: topV :: topV :: topV :: topV :: topV :: topV :: topV :: topV :: topV :: topV :: topV :: topV :: topV :: topV :: topV :: topV :: topV :: topV :: topV :: topV :: topV :: topV :: []), [some ⟨.view, .ints (flat ps)⟩, some ⟨.dead, .vals []⟩, some ⟨.row 29 2, .ints (flat st)⟩]⟩
set_option maxRecDepth 100000 in
theorem tr_chS (ps st : List Pt) (i : Nat) (j : Nat) : bodyL Try.prog ECh 30 12 noL 2 c_chS k_chS 3 (s_chS ps st i j) = brT (decide (1 < (↑j : Int))) (.need (ptB ((flat st).getD ((0 : Nat) + (IntKind.i64.wrap ((↑j : Int) - (2 : Int))).toNat * (2 : Nat)) (0 : Int)) ((flat st).getD ((0 : Nat) + (IntKind.i64.wrap ((↑j : Int) - (2 : Int))).toNat * (2 : Nat) + (1 : Nat)) (0 : Int)) = true) (.need (ptB ((flat st).getD ((0 : Nat) + (IntKind.i64.wrap ((↑j : Int) - (1 : Int))).toNat * (2 : Nat)) (0 : Int)) ((flat st).getD ((0 : Nat) + (IntKind.i64.wrap ((↑j : Int) - (1 : Int))).toNat * (2 : Nat) + (1 : Nat)) (0 : Int)) = true) (.need (ptB ((flat ps).getD ((0 : Nat) + (↑i : Int).toNat * (2 : Nat)) (0 : Int)) ((flat ps).getD ((0 : Nat) + (↑i : Int).toNat * (2 : Nat) + (1 : Nat)) (0 : Int)) = true) (.need ((0 : Int) ≤ IntKind.i64.wrap ((↑j : Int) - (2 : Int)) ∧ IntKind.i64.wrap ((↑j : Int) - (2 : Int)) < (↑j : Int)) (.need ((0 : Nat) + (IntKind.i64.wrap ((↑j : Int) - (2 : Int))).toNat * (2 : Nat) + (2 : Nat) ≤ (flat st).length) (.need ((0 : Int) ≤ IntKind.i64.wrap ((↑j : Int) - (1 : Int)) ∧ IntKind.i64.wrap ((↑j : Int) - (1 : Int)) < (↑j : Int)) (.need ((0 : Nat) + (IntKind.i64.wrap ((↑j : Int) - (1 : Int))).toNat * (2 : Nat) + (2 : Nat) ≤ (flat st).length) (.need ((0 : Int) ≤ (↑i : Int) ∧ (↑i : Int) < (↑ps.length : Int)) (.need ((0 : Nat) + (↑i : Int).toNat * (2 : Nat) + (2 : Nat) ≤ (flat ps).length) (brT (decide (crossI ((flat st).getD (0 + (IntKind.i64.wrap ((↑j : Int) - 2)).toNat * 2) 0) ((flat st).getD (0 + (IntKind.i64.wrap ((↑j : Int) - 2)).toNat * 2 + 1) 0) ((flat st).getD (0 + (IntKind.i64.wrap ((↑j : Int) - 1)).toNat * 2) 0) ((flat st).getD (0 + (IntKind.i64.wrap ((↑j : Int) - 1)).toNat * 2 + 1) 0) ((flat ps).getD (0 + (↑i : Int).toNat * 2) 0) ((flat ps).getD (0 + (↑i : Int).toNat * 2 + 1) 0) ≤ 0)) (.need ((0 : Int) ≤ bndI none (0 : Int) ∧ bndI none (0 : Int) ≤ bndI (some (IntKind.i64, IntKind.i64.wrap ((↑j : Int) - (1 : Int)))) (↑j : Int) ∧ bndI (some (IntKind.i64, IntKind.i64.wrap ((↑j : Int) - (1 : Int)))) (↑j : Int) ≤ (↑j : Int)) (.leaf .normal ⟨(.slice (some ⟨0, 0, none⟩) (ps.length) (ps.length) :: topV :: topV :: .slice (some ⟨2, 0, none⟩) ((bndI (some (IntKind.i64, IntKind.i64.wrap ((↑j : Int) - 1))) (↑j : Int)).toNat - 0) ((bndI (some (IntKind.i64, IntKind.i64.wrap ((↑j : Int) - 1))) (↑j : Int)).toNat - 0) :: .int .i64 ((↑i : Int)) :: topV :: topV :: topV :: topV :: topV :: topV :: topV :: topV :: topV :: topV :: topV :: topV :: topV :: topV :: topV :: topV :: topV :: topV :: topV :: topV :: topV :: topV :: topV :: topV :: topV :: topV :: topV :: topV :: topV :: topV :: topV :: topV :: topV :: topV :: topV :: topV :: topV :: topV :: topV :: topV :: topV :: topV :: topV :: []), [some ⟨.view, .ints (flat ps)⟩, some deadB, some ⟨.row 29 2, .ints (flat st)⟩]⟩)) (.leaf (.exit 2) ⟨(.slice (some ⟨0, 0, none⟩) (ps.length) (ps.length) :: topV :: topV :: .slice (some ⟨2, 0, none⟩) (j) (j) :: .int .i64 ((↑i : Int)) :: topV :: topV :: topV :: topV :: topV :: topV :: topV :: topV :: topV :: topV :: topV :: topV :: topV :: topV :: topV :: topV :: topV :: topV :: topV :: topV :: topV :: topV :: topV :: topV :: topV :: topV :: topV :: topV :: topV :: topV :: topV :: topV :: topV :: topV :: topV :: topV :: topV :: topV :: topV :: topV :: topV :: topV :: topV :: []), [some ⟨.view, .ints (flat ps)⟩, some deadB, some ⟨.row 29 2, .ints (flat st)⟩]⟩))))))))))) (.leaf (.exit 2) ⟨(.slice (some ⟨0, 0, none⟩) (ps.length) (ps.length) :: topV :: topV :: .slice (some ⟨2, 0, none⟩) (j) (j) :: .int .i64 ((↑i : Int)) :: topV :: topV :: topV :: topV :: topV :: topV :: topV :: topV :: topV :: topV :: topV :: topV :: topV :: topV :: topV :: topV :: topV :: topV :: topV :: topV :: topV :: topV :: topV :: topV :: topV :: topV :: topV :: topV :: topV :: topV :: topV :: topV :: topV :: topV :: topV :: topV :: topV :: topV :: topV :: topV :: topV :: topV :: topV :: []), [some ⟨.view, .ints (flat ps)⟩, some deadB, some ⟨.row 29 2, .ints (flat st)⟩]⟩) := by kernel_rfl
set_option maxRecDepth 100000 in
theorem nl_chS : loopsOf c_chS = [] := by kernel_rfl
def inv_chS (ps st : List Pt) (i : Nat) : Nat → Prop := fun j => j ≤ st.length ∧ popN st (ps.getD i (0, 0)) j = popN st (ps.getD i (0, 0)) st.length
def me_chS (ps st : List Pt) (i : Nat) : Nat → Nat := fun j => j
/-- A round of this loop. -/
def Round_chS (ps st : List Pt) (i : Nat) : Prop := ∀ xx : Nat, inv_chS ps st i xx → (bodyL Try.prog ECh 30 12 noL 2 c_chS k_chS 3 (s_chS ps st i xx)).ok (RoundEnd 3 (s_chS ps st i) (inv_chS ps st i) (me_chS ps st i) re_chS (rs_chS ps st i) xx) (fun _ _ => False)
def e_chS (s : St) (k : Ex → St → Tree) : Option Tree := match Nat.beq s.tmps.length 48, pickL s.tmps [0, 3, 4], s.mem with
  | true, [.slice (some ⟨0, 0, none⟩) n _, .slice (some ⟨2, 0, none⟩) l _, .int .i64 ii], [some ⟨.view, .ints xs⟩, some ⟨.dead, .vals []⟩, some ⟨.row 29 2, .ints ys⟩] => some (needs [xs.length = n * 2, allV (ptsA n xs) = true, 0 ≤ ii, ii < n, ys.length = l * 2, allV (ptsA l ys) = true, l ≤ 1000] (k (.exit 2) ⟨(.slice (some ⟨0, 0, none⟩) n n :: topV :: topV :: .slice (some ⟨2, 0, none⟩) (popN (ptsA l ys) ((ptsA n xs).getD ii.toNat (0, 0)) l) (popN (ptsA l ys) ((ptsA n xs).getD ii.toNat (0, 0)) l) :: .int .i64 ii :: topV :: topV :: topV :: topV :: topV :: topV :: topV :: topV :: topV :: topV :: topV :: topV :: topV :: topV :: topV :: topV :: topV :: topV :: topV :: topV :: topV :: topV :: topV :: topV :: topV :: topV :: topV :: topV :: topV :: topV :: topV :: topV :: topV :: topV :: topV :: topV :: topV :: topV :: topV :: topV :: topV :: topV :: topV :: []), [some ⟨.view, .ints xs⟩, some ⟨.dead, .vals []⟩, some ⟨.row 29 2, .ints ys⟩]⟩))
  | _, _, _ => none
theorem popN_yes {st : List Pt} {p : Pt} {m : Nat} (h : crP (st.getD m (0, 0)) (st.getD (m + 1) (0, 0)) p ≤ 0) : popN st p (m + 2) = popN st p (m + 1) := by simp only [popN, h, if_true]
theorem popN_no {st : List Pt} {p : Pt} {m : Nat} (h : ¬ crP (st.getD m (0, 0)) (st.getD (m + 1) (0, 0)) p ≤ 0) : popN st p (m + 2) = m + 2 := by simp only [popN, h, if_false]
theorem popN_low {st : List Pt} {p : Pt} {j : Nat} (h : j < 2) : popN st p j = j := by
  match j, h with
  | 0, _ => rfl
  | 1, _ => rfl
set_option maxRecDepth 100000 in
theorem round_chI (xs : List Int) (st : List Pt) (x y : Int) (n i : Nat) (hv : allV st = true) (hp : ptB x y = true) (h : st.length ≤ 1000) : Round_chI xs st x y n i := by
  rintro j ⟨h1, h2⟩
  rw [tr_chI]
  refine brT_ok.2 ⟨fun hlt => ?_, fun hge => ?_⟩
  · have hlt := of_decide_eq_true hlt
    obtain ⟨m, rfl⟩ : ∃ m, j = m + 2 := ⟨j - 2, by omega⟩
    have w1 : IntKind.i64.wrap (((m + 2 : Nat) : Int) - 2) = (m : Int) := by rw [wr (by omega)]; omega
    have w2 : IntKind.i64.wrap (((m + 2 : Nat) : Int) - 1) = ((m + 1 : Nat) : Int) := by rw [wr (by omega)]; omega
    simp only [w1, w2, bnd_some, bnd_none, Int.toNat_natCast, flat_get0, flat_get1, flat_length, Nat.zero_add, Nat.sub_zero]
    refine ⟨allV_at hv (by omega), allV_at hv (by omega), hp, by omega, by omega, by omega, by omega, brT_ok.2 ⟨fun q => ⟨by omega, ?_⟩, fun q => ?_⟩⟩
    · have e := popN_yes (st := st) (p := (x, y)) (m := m) (of_decide_eq_true q)
      refine ⟨m + 1, [], ⟨by omega, by rw [← e]; exact h2⟩, ?_, rfl, by simp only [rs_chI], ?_⟩
      · show m + 1 < m + 2; omega
      · repeat' (first | exact True.intro | exact rfl | exact fun _ => rfl | (simp; done) | refine And.intro ?_ ?_)
    · have e := popN_no (st := st) (p := (x, y)) (m := m) (of_decide_eq_false q)
      refine ⟨rfl, [], ?_⟩
      simp only [rs_chI, ← h2, e]
      repeat' (first | exact True.intro | exact rfl | exact fun _ => rfl | (simp; done) | refine And.intro ?_ ?_)
  · have hge := of_decide_eq_false hge
    have e := popN_low (st := st) (p := (x, y)) (j := j) (by omega)
    refine ⟨rfl, [], ?_⟩
    simp only [rs_chI, ← h2, e]
    repeat' (first | exact True.intro | exact rfl | exact fun _ => rfl | (simp; done) | refine And.intro ?_ ?_)
set_option maxRecDepth 100000 in
theorem lg_chI : LoopE Try.prog e_chI c_chI := by
  intro s k t F H hlt ht
  unfold e_chI at hlt
  split at hlt
  rotate_left
  · cases hlt
  rename_i hlen hpick hmem
  obtain ⟨tmps, mem⟩ := s
  simp only at hlen hpick hmem
  subst hmem
  obtain rfl := Option.some.inj hlt
  obtain ⟨⟨rfl, rfl, h0, h1, h2, h3, h4, _⟩, ht2⟩ := needs_ok ht
  clear ht hlt
  obtain ⟨st, rfl, rfl⟩ := even_flat h1
  obtain ⟨i, rfl⟩ := Int.eq_ofNat_of_zero_le h0
  rw [ptsA_flat] at ht2 h2
  refine ⟨_, _, ht2, loop_run mixed ECh_ok (s_chI _ st _ _ _ _) (inv_chI _ st _ _ _ _) (me_chI _ st _ _ _ _) re_chI (rs_chI _ st _ _ _ _) k_chI (fun _ => rfl) (noLoops nl_chI) (round_chI _ st _ _ _ _ h2 h3 h4) (x := st.length) ⟨Nat.le_refl _, rfl⟩ (π := []) rfl ?_⟩
  refine ⟨rfl, rfl, ?_, wvs_spread' [3, 5, 6, 7, 8, 9] hlen rfl ?_⟩
  · repeat' (first | exact True.intro | exact rfl | exact wv_top _ _ | exact fun _ => rfl | assumption | exact Eq.symm (by assumption) | exact vI0 rfl | refine And.intro ?_ ?_)
  · rw [hpick]
    repeat' (first | exact True.intro | exact rfl | exact wv_top _ _ | exact fun _ => rfl | assumption | exact Eq.symm (by assumption) | exact vI0 rfl | refine And.intro ?_ ?_)
set_option maxRecDepth 100000 in
theorem round_chS (ps st : List Pt) (i : Nat) (hv : allV st = true) (hp : allV ps = true) (h : st.length ≤ 1000) (hi : i < ps.length) : Round_chS ps st i := by
  rintro j ⟨h1, h2⟩
  rw [tr_chS]
  refine brT_ok.2 ⟨fun hlt => ?_, fun hge => ?_⟩
  · have hlt := of_decide_eq_true hlt
    obtain ⟨m, rfl⟩ : ∃ m, j = m + 2 := ⟨j - 2, by omega⟩
    have w1 : IntKind.i64.wrap (((m + 2 : Nat) : Int) - 2) = (m : Int) := by rw [wr (by omega)]; omega
    have w2 : IntKind.i64.wrap (((m + 2 : Nat) : Int) - 1) = ((m + 1 : Nat) : Int) := by rw [wr (by omega)]; omega
    simp only [w1, w2, bnd_some, bnd_none, Int.toNat_natCast, flat_get0, flat_get1, flat_length, Nat.zero_add, Nat.sub_zero]
    refine ⟨allV_at hv (by omega), allV_at hv (by omega), allV_at hp hi, by omega, by omega, by omega, by omega, by omega, by omega, brT_ok.2 ⟨fun q => ⟨by omega, ?_⟩, fun q => ?_⟩⟩
    · have e := popN_yes (st := st) (p := ps.getD i (0, 0)) (m := m) (of_decide_eq_true q)
      refine ⟨m + 1, [], ⟨by omega, by rw [← e]; exact h2⟩, ?_, rfl, by simp only [rs_chS], ?_⟩
      · show m + 1 < m + 2; omega
      · repeat' (first | exact True.intro | exact rfl | exact fun _ => rfl | (simp; done) | refine And.intro ?_ ?_)
    · have e := popN_no (st := st) (p := ps.getD i (0, 0)) (m := m) (of_decide_eq_false q)
      refine ⟨rfl, [], ?_⟩
      simp only [rs_chS, ← h2, e]
      repeat' (first | exact True.intro | exact rfl | exact fun _ => rfl | (simp; done) | refine And.intro ?_ ?_)
  · have hge := of_decide_eq_false hge
    have e := popN_low (st := st) (p := ps.getD i (0, 0)) (j := j) (by omega)
    refine ⟨rfl, [], ?_⟩
    simp only [rs_chS, ← h2, e]
    repeat' (first | exact True.intro | exact rfl | exact fun _ => rfl | (simp; done) | refine And.intro ?_ ?_)
set_option maxRecDepth 100000 in
theorem lg_chS : LoopE Try.prog e_chS c_chS := by
  intro s k t F H hlt ht
  unfold e_chS at hlt
  split at hlt
  rotate_left
  · cases hlt
  rename_i hlen hpick hmem
  obtain ⟨tmps, mem⟩ := s
  simp only at hlen hpick hmem
  subst hmem
  obtain rfl := Option.some.inj hlt
  obtain ⟨⟨h0, h5, h6, h7, h1, h2, h4, _⟩, ht2⟩ := needs_ok ht
  clear ht hlt
  obtain ⟨st, rfl, rfl⟩ := even_flat h1
  obtain ⟨ps, rfl, rfl⟩ := even_flat h0
  obtain ⟨i, rfl⟩ := Int.eq_ofNat_of_zero_le h6
  rw [ptsA_flat] at ht2 h2 h5
  simp only [ptsA_flat, Int.toNat_natCast] at ht2
  refine ⟨_, _, ht2, loop_run mixed ECh_ok (s_chS ps st i) (inv_chS ps st i) (me_chS ps st i) re_chS (rs_chS ps st i) k_chS (fun _ => rfl) (noLoops nl_chS) (round_chS ps st i h2 h5 h4 (by omega)) (x := st.length) ⟨Nat.le_refl _, rfl⟩ (π := []) rfl ?_⟩
  refine ⟨rfl, rfl, ?_, wvs_spread' [0, 3, 4] hlen rfl ?_⟩
  · repeat' (first | exact True.intro | exact rfl | exact wv_top _ _ | exact fun _ => rfl | assumption | exact Eq.symm (by assumption) | exact vI0 rfl | refine And.intro ?_ ?_)
  · rw [hpick]
    repeat' (first | exact True.intro | exact rfl | exact wv_top _ _ | exact fun _ => rfl | assumption | exact Eq.symm (by assumption) | exact vI0 rfl | refine And.intro ?_ ?_)
def ltCi : LT := fun j s k => match j with
  | 1 => e_chI s k
  | _ => none
def ltCs : LT := fun j s k => match j with
  | 1 => e_chS s k
  | _ => none
noncomputable def c_chO : Code := ((loopsOf (codeOf Try.f18))[0]?).getD .skip
def k_chO : Ex → List Nat := keeps [3, 7, 8, 9] [(0, [3])] [2]
def s_chO (ps : List Pt) : Nat × (List Pt) → St := fun (i, st) => ⟨(topV :: topV :: topV :: .slice (some ⟨1, 0, none⟩) st.length st.length :: topV :: topV :: topV :: .slice (some ⟨0, 0, none⟩) ps.length ps.length :: .int .i64 ps.length :: .int .i64 i :: topV :: topV :: topV :: topV :: topV :: topV :: topV :: topV :: topV :: topV :: topV :: topV :: topV :: topV :: topV :: topV :: topV :: topV :: topV :: topV :: topV :: topV :: topV :: topV :: topV :: topV :: topV :: topV :: topV :: topV :: topV :: topV :: topV :: topV :: []), [some ⟨.view, .ints (flat ps)⟩, some ⟨.row 29 2, .ints (flat st)⟩]⟩
def re_chO : Nat × (List Pt) → Ex := fun _ => .exit 0
def rs_chO (ps : List Pt) : Nat × (List Pt) → St := fun (i, st) => ⟨(topV :: topV :: topV :: .slice (some ⟨1, 0, none⟩) (chn st (ps.drop i)).length (chn st (ps.drop i)).length :: topV :: topV :: topV :: topV :: topV :: topV :: topV :: topV :: topV :: topV :: topV :: topV :: topV :: topV :: topV :: topV :: topV :: topV :: topV :: topV :: topV :: topV :: topV :: topV :: topV :: topV :: topV :: topV :: topV :: topV :: topV :: topV :: topV :: topV :: topV :: topV :: topV :: topV :: topV :: topV :: []), [some ⟨.view, .ints (flat ps)⟩, some ⟨.row 29 2, .ints (flat (chn st (ps.drop i)))⟩]⟩
set_option maxRecDepth 100000 in
theorem tr_chO (ps : List Pt) (i : Nat) (st : List Pt) : bodyL Try.prog ECh 30 12 ltCi 1 c_chO k_chO 16 (s_chO ps (i, st)) = brT (decide ((↑i : Int) < (↑ps.length : Int))) (.need ((0 : Int) ≤ (↑i : Int) ∧ (↑i : Int) < (↑ps.length : Int)) (.need ((0 : Nat) + (↑i : Int).toNat * (2 : Nat) + (2 : Nat) ≤ (flat ps).length) (.need ((↑st.length : Int) = (↑st.length : Int)) (.need ((↑ps.length : Int) = (↑ps.length : Int)) (.need ((0 : Int) ≤ (↑i : Int)) (.need ((flat st).length = st.length * (2 : Nat)) (.need (allV (ptsA st.length (flat st)) = true) (.need (ptB ((flat ps).getD ((0 : Nat) + (↑i : Int).toNat * (2 : Nat)) (0 : Int)) ((flat ps).getD ((0 : Nat) + (↑i : Int).toNat * (2 : Nat) + (1 : Nat)) (0 : Int)) = true) (.need (st.length ≤ (1000 : Nat)) (.need ((popN (ptsA st.length (flat st)) ((flat ps).getD ((0 : Nat) + (↑i : Int).toNat * (2 : Nat)) (0 : Int), (flat ps).getD ((0 : Nat) + (↑i : Int).toNat * (2 : Nat) + (1 : Nat)) (0 : Int)) st.length + (1 : Nat)) * (16 : Nat) ≤ (140737488355328 : Nat) ∧ popN (ptsA st.length (flat st)) ((flat ps).getD ((0 : Nat) + (↑i : Int).toNat * (2 : Nat)) (0 : Int), (flat ps).getD ((0 : Nat) + (↑i : Int).toNat * (2 : Nat) + (1 : Nat)) (0 : Int)) st.length + (1 : Nat) ≤ (1000000 : Nat)) (.need ((0 : Nat) + popN (ptsA st.length (flat st)) ((flat ps).getD ((0 : Nat) + (↑i : Int).toNat * (2 : Nat)) (0 : Int), (flat ps).getD ((0 : Nat) + (↑i : Int).toNat * (2 : Nat) + (1 : Nat)) (0 : Int)) st.length * (2 : Nat) ≤ (flat st).length) (.leaf .normal ⟨(topV :: topV :: topV :: .slice (some ⟨4, 0, none⟩) (popN (ptsA st.length (flat st)) ((flat ps).getD (0 + (↑i : Int).toNat * (2 : Nat)) 0, (flat ps).getD (0 + (↑i : Int).toNat * (2 : Nat) + 1) 0) st.length + 1) (popN (ptsA st.length (flat st)) ((flat ps).getD (0 + (↑i : Int).toNat * (2 : Nat)) 0, (flat ps).getD (0 + (↑i : Int).toNat * (2 : Nat) + 1) 0) st.length + 1) :: topV :: topV :: topV :: .slice (some ⟨0, 0, none⟩) (ps.length) (ps.length) :: .int .i64 ((↑ps.length : Int)) :: .int .i64 (IntKind.i64.wrap ((↑i : Int) + 1)) :: topV :: topV :: topV :: topV :: topV :: topV :: topV :: topV :: topV :: topV :: topV :: topV :: topV :: topV :: topV :: topV :: topV :: topV :: topV :: topV :: topV :: topV :: topV :: topV :: topV :: topV :: topV :: topV :: topV :: topV :: topV :: topV :: topV :: topV :: []), [some ⟨.view, .ints (flat ps)⟩, some deadB, some ⟨.box, .vals [.int .i64 ((flat ps).getD (0 + (↑i : Int).toNat * 2) 0), .int .i64 ((flat ps).getD (0 + (↑i : Int).toNat * 2 + 1) 0)]⟩, some ⟨.row 29 2, .vals [.int .i64 ((flat ps).getD (0 + (↑i : Int).toNat * 2) 0), .int .i64 ((flat ps).getD (0 + (↑i : Int).toNat * 2 + 1) 0)]⟩, some ⟨.row 29 2, .ints (List.take (popN (ptsA st.length (flat st)) ((flat ps).getD (0 + (↑i : Int).toNat * (2 : Nat)) 0, (flat ps).getD (0 + (↑i : Int).toNat * (2 : Nat) + 1) 0) st.length * 2) (List.drop 0 (flat st)) ++ [(flat ps).getD (0 + (↑i : Int).toNat * 2) 0, (flat ps).getD (0 + (↑i : Int).toNat * 2 + 1) 0])⟩]⟩)))))))))))) (.leaf (.exit 0) ⟨(topV :: topV :: topV :: .slice (some ⟨1, 0, none⟩) (st.length) (st.length) :: topV :: topV :: topV :: topV :: topV :: topV :: topV :: topV :: topV :: topV :: topV :: topV :: topV :: topV :: topV :: topV :: topV :: topV :: topV :: topV :: topV :: topV :: topV :: topV :: topV :: topV :: topV :: topV :: topV :: topV :: topV :: topV :: topV :: topV :: topV :: topV :: topV :: topV :: topV :: topV :: []), [some ⟨.view, .ints (flat ps)⟩, some ⟨.row 29 2, .ints (flat st)⟩]⟩) := by kernel_rfl
def inv_chO (ps : List Pt) : Nat × (List Pt) → Prop := fun (i, st) => i ≤ ps.length ∧ st.length ≤ i ∧ allV st = true
def me_chO (ps : List Pt) : Nat × (List Pt) → Nat := fun (i, st) => ps.length - i
/-- A round of this loop. -/
def Round_chO (ps : List Pt) : Prop := ∀ xx : Nat × (List Pt), inv_chO ps xx → (bodyL Try.prog ECh 30 12 ltCi 1 c_chO k_chO 16 (s_chO ps xx)).ok (RoundEnd 1 (s_chO ps) (inv_chO ps) (me_chO ps) re_chO (rs_chO ps) xx) (fun _ _ => False)
def e_chO (s : St) (k : Ex → St → Tree) : Option Tree := match Nat.beq s.tmps.length 44, pickL s.tmps [3, 7, 8, 9], s.mem with
  | true, [.slice none 0 0, .slice (some ⟨0, 0, none⟩) n _, .int .i64 n1, .int .i64 i], [some ⟨.view, .ints xs⟩] => some (needs [i = 0, n1 = n, xs.length = n * 2, allV (ptsA n xs) = true, n ≤ 1000] (k (.exit 0) ⟨(topV :: topV :: topV :: .slice (some ⟨1, 0, none⟩) (chn [] (ptsA n xs)).length (chn [] (ptsA n xs)).length :: topV :: topV :: topV :: topV :: topV :: topV :: topV :: topV :: topV :: topV :: topV :: topV :: topV :: topV :: topV :: topV :: topV :: topV :: topV :: topV :: topV :: topV :: topV :: topV :: topV :: topV :: topV :: topV :: topV :: topV :: topV :: topV :: topV :: topV :: topV :: topV :: topV :: topV :: topV :: topV :: []), [some ⟨.view, .ints xs⟩, some ⟨.row 29 2, .ints (flat (chn [] (ptsA n xs)))⟩]⟩))
  | _, _, _ => none
noncomputable def c_chP : Code := ((loopsOf (codeOf Try.f45))[0]?).getD .skip
def k_chP : Ex → List Nat := keeps [0, 3, 4] [(0, [3])] [2]
def s_chP (ps : List Pt) : Nat × (List Pt) → St := fun (i, st) => ⟨(.slice (some ⟨0, 0, none⟩) ps.length ps.length :: topV :: topV :: .slice (some ⟨2, 0, none⟩) st.length st.length :: .int .i64 i :: topV :: topV :: topV :: topV :: topV :: topV :: topV :: topV :: topV :: topV :: topV :: topV :: topV :: topV :: topV :: topV :: topV :: topV :: topV :: topV :: topV :: topV :: topV :: topV :: topV :: topV :: topV :: topV :: topV :: topV :: topV :: topV :: topV :: topV :: topV :: topV :: topV :: topV :: topV :: topV :: topV :: topV :: topV :: []), [some ⟨.view, .ints (flat ps)⟩, some ⟨.dead, .vals []⟩, some ⟨.row 29 2, .ints (flat st)⟩]⟩
def re_chP : Nat × (List Pt) → Ex := fun _ => .exit 0
def rs_chP (ps : List Pt) : Nat × (List Pt) → St := fun (i, st) => ⟨(topV :: topV :: topV :: .slice (some ⟨2, 0, none⟩) (chn st (ps.drop i)).length (chn st (ps.drop i)).length :: topV :: topV :: topV :: topV :: topV :: topV :: topV :: topV :: topV :: topV :: topV :: topV :: topV :: topV :: topV :: topV :: topV :: topV :: topV :: topV :: topV :: topV :: topV :: topV :: topV :: topV :: topV :: topV :: topV :: topV :: topV :: topV :: topV :: topV :: topV :: topV :: topV :: topV :: topV :: topV :: topV :: topV :: topV :: topV :: []), [some ⟨.view, .ints (flat ps)⟩, some ⟨.dead, .vals []⟩, some ⟨.row 29 2, .ints (flat (chn st (ps.drop i)))⟩]⟩
set_option maxRecDepth 100000 in
theorem tr_chP (ps : List Pt) (i : Nat) (st : List Pt) : bodyL Try.prog ECh 30 12 ltCs 1 c_chP k_chP 16 (s_chP ps (i, st)) = brT (decide ((↑i : Int) < (↑ps.length : Int))) (.need ((flat ps).length = ps.length * (2 : Nat)) (.need (allV (ptsA ps.length (flat ps)) = true) (.need ((0 : Int) ≤ (↑i : Int)) (.need ((↑i : Int) < (↑ps.length : Int)) (.need ((flat st).length = st.length * (2 : Nat)) (.need (allV (ptsA st.length (flat st)) = true) (.need (st.length ≤ (1000 : Nat)) (.need ((0 : Int) ≤ (↑i : Int) ∧ (↑i : Int) < (↑ps.length : Int)) (.need ((0 : Nat) + (↑i : Int).toNat * (2 : Nat) + (2 : Nat) ≤ (flat ps).length) (.need ((popN (ptsA st.length (flat st)) ((ptsA ps.length (flat ps)).getD (↑i : Int).toNat ((0 : Int), (0 : Int))) st.length + (1 : Nat)) * (16 : Nat) ≤ (140737488355328 : Nat) ∧ popN (ptsA st.length (flat st)) ((ptsA ps.length (flat ps)).getD (↑i : Int).toNat ((0 : Int), (0 : Int))) st.length + (1 : Nat) ≤ (1000000 : Nat)) (.need ((0 : Nat) + popN (ptsA st.length (flat st)) ((ptsA ps.length (flat ps)).getD (↑i : Int).toNat ((0 : Int), (0 : Int))) st.length * (2 : Nat) ≤ (flat st).length) (.leaf .normal ⟨(.slice (some ⟨0, 0, none⟩) (ps.length) (ps.length) :: topV :: topV :: .slice (some ⟨4, 0, none⟩) (popN (ptsA st.length (flat st)) ((ptsA ps.length (flat ps)).getD (↑i : Int).toNat (0, 0)) st.length + 1) (popN (ptsA st.length (flat st)) ((ptsA ps.length (flat ps)).getD (↑i : Int).toNat (0, 0)) st.length + 1) :: .int .i64 (IntKind.i64.wrap ((↑i : Int) + 1)) :: topV :: topV :: topV :: topV :: topV :: topV :: topV :: topV :: topV :: topV :: topV :: topV :: topV :: topV :: topV :: topV :: topV :: topV :: topV :: topV :: topV :: topV :: topV :: topV :: topV :: topV :: topV :: topV :: topV :: topV :: topV :: topV :: topV :: topV :: topV :: topV :: topV :: topV :: topV :: topV :: topV :: topV :: topV :: []), [some ⟨.view, .ints (flat ps)⟩, some deadB, some deadB, some ⟨.row 29 2, .vals [.int .i64 ((flat ps).getD (0 + (↑i : Int).toNat * 2) 0), .int .i64 ((flat ps).getD (0 + (↑i : Int).toNat * 2 + 1) 0)]⟩, some ⟨.row 29 2, .ints (List.take (popN (ptsA st.length (flat st)) ((ptsA ps.length (flat ps)).getD (↑i : Int).toNat (0, 0)) st.length * 2) (List.drop 0 (flat st)) ++ [(flat ps).getD (0 + (↑i : Int).toNat * 2) 0, (flat ps).getD (0 + (↑i : Int).toNat * 2 + 1) 0])⟩]⟩)))))))))))) (.leaf (.exit 0) ⟨(topV :: topV :: topV :: .slice (some ⟨2, 0, none⟩) (st.length) (st.length) :: topV :: topV :: topV :: topV :: topV :: topV :: topV :: topV :: topV :: topV :: topV :: topV :: topV :: topV :: topV :: topV :: topV :: topV :: topV :: topV :: topV :: topV :: topV :: topV :: topV :: topV :: topV :: topV :: topV :: topV :: topV :: topV :: topV :: topV :: topV :: topV :: topV :: topV :: topV :: topV :: topV :: topV :: topV :: topV :: []), [some ⟨.view, .ints (flat ps)⟩, some deadB, some ⟨.row 29 2, .ints (flat st)⟩]⟩) := by kernel_rfl
def inv_chP (ps : List Pt) : Nat × (List Pt) → Prop := fun (i, st) => i ≤ ps.length ∧ st.length ≤ i ∧ allV st = true
def me_chP (ps : List Pt) : Nat × (List Pt) → Nat := fun (i, st) => ps.length - i
/-- A round of this loop. -/
def Round_chP (ps : List Pt) : Prop := ∀ xx : Nat × (List Pt), inv_chP ps xx → (bodyL Try.prog ECh 30 12 ltCs 1 c_chP k_chP 16 (s_chP ps xx)).ok (RoundEnd 2 (s_chP ps) (inv_chP ps) (me_chP ps) re_chP (rs_chP ps) xx) (fun _ _ => False)
def e_chP (s : St) (k : Ex → St → Tree) : Option Tree := match Nat.beq s.tmps.length 48, pickL s.tmps [0, 3, 4], s.mem with
  | true, [.slice (some ⟨0, 0, none⟩) n _, .slice (some ⟨1, 0, none⟩) z _, .int .i64 i], [some ⟨.view, .ints xs⟩, some ⟨.row 29 2, .vals []⟩] => some (needs [i = 0, z = 0, xs.length = n * 2, allV (ptsA n xs) = true, n ≤ 1000] (k (.exit 0) ⟨(topV :: topV :: topV :: .slice (some ⟨2, 0, none⟩) (chn [] (ptsA n xs)).length (chn [] (ptsA n xs)).length :: topV :: topV :: topV :: topV :: topV :: topV :: topV :: topV :: topV :: topV :: topV :: topV :: topV :: topV :: topV :: topV :: topV :: topV :: topV :: topV :: topV :: topV :: topV :: topV :: topV :: topV :: topV :: topV :: topV :: topV :: topV :: topV :: topV :: topV :: topV :: topV :: topV :: topV :: topV :: topV :: topV :: topV :: topV :: topV :: []), [some ⟨.view, .ints xs⟩, some ⟨.dead, .vals []⟩, some ⟨.row 29 2, .ints (flat (chn [] (ptsA n xs)))⟩]⟩))
  | _, _, _ => none
set_option maxRecDepth 100000 in
theorem in_chO : loopsOf c_chO = [c_chI] := by kernel_rfl
theorem ltCi_good : LoopsGood Try.prog ltCi 1 c_chO := by
  intro i d hd s k t F H hlt ht
  rw [in_chO] at hd
  cases i with
  | zero =>
    obtain rfl : c_chI = d := by simpa using hd
    exact lg_chI s k t F H hlt ht
  | succ i => simp at hd
set_option maxRecDepth 100000 in
theorem in_chP : loopsOf c_chP = [c_chS] := by kernel_rfl
theorem ltCs_good : LoopsGood Try.prog ltCs 1 c_chP := by
  intro i d hd s k t F H hlt ht
  rw [in_chP] at hd
  cases i with
  | zero =>
    obtain rfl : c_chS = d := by simpa using hd
    exact lg_chS s k t F H hlt ht
  | succ i => simp at hd
theorem chn_step {ps st : List Pt} {i : Nat} (hi : i < ps.length) : chn st (ps.drop i) = chn (pushP st (ps.getD i (0, 0))) (ps.drop (i + 1)) := by rw [drop_cons hi (0, 0)]; rfl
theorem chn_end {ps st : List Pt} {i : Nat} (hi : ps.length ≤ i) : chn st (ps.drop i) = st := by rw [List.drop_of_length_le hi]; rfl
set_option maxRecDepth 100000 in
theorem round_chO (ps : List Pt) (hp : allV ps = true) (h : ps.length ≤ 1000) : Round_chO ps := by
  rintro ⟨i, st⟩ ⟨h1, h2, h3⟩
  rw [tr_chO]
  simp only [ptsA_flat, Int.toNat_natCast, Nat.zero_add, flat_get0, flat_get1, flat_length, List.drop_zero, flat_take, flat_snoc]
  refine brT_ok.2 ⟨fun hlt => ?_, fun hge => ?_⟩
  · have hi : i < ps.length := by have := of_decide_eq_true hlt; omega
    have hk : popN st ((ps.getD i (0, 0)).1, (ps.getD i (0, 0)).2) st.length ≤ st.length := popN_le st _ _
    have el : popN st ((ps.getD i (0, 0)).1, (ps.getD i (0, 0)).2) st.length + 1 = (pushP st (ps.getD i (0, 0))).length := (pushP_len1 st _).symm
    refine ⟨by omega, by omega, by first | exact True.intro | rfl, by first | exact True.intro | rfl, by omega, by first | exact True.intro | rfl, h3, allV_at hp hi, by omega, ⟨by omega, by omega⟩, by omega, ?_⟩
    rw [wsucc hi (by omega), el]
    refine ⟨(i + 1, pushP st (ps.getD i (0, 0))), [some 4], ⟨by omega, by omega, allV_push h3 (allV_at hp hi)⟩, ?_, rfl, by simp only [rs_chO, chn_step hi], ?_⟩
    · show ps.length - (i + 1) < ps.length - i; omega
    · repeat' (first | exact True.intro | exact rfl | exact fun _ => rfl | (simp; done) | refine And.intro ?_ ?_)
  · have hge := of_decide_eq_false hge
    refine ⟨rfl, [some 1], ?_⟩
    simp only [rs_chO, chn_end (ps := ps) (st := st) (i := i) (by omega)]
    repeat' (first | exact True.intro | exact rfl | exact fun _ => rfl | (simp; done) | refine And.intro ?_ ?_)
set_option maxRecDepth 100000 in
theorem lg_chO : LoopE Try.prog e_chO c_chO := by
  intro s k t F H hlt ht
  unfold e_chO at hlt
  split at hlt
  rotate_left
  · cases hlt
  rename_i hlen hpick hmem
  obtain ⟨tmps, mem⟩ := s
  simp only at hlen hpick hmem
  subst hmem
  obtain rfl := Option.some.inj hlt
  obtain ⟨⟨rfl, rfl, h1, h2, h3, _⟩, ht2⟩ := needs_ok ht
  clear ht hlt
  obtain ⟨ps, rfl, rfl⟩ := even_flat h1
  rw [ptsA_flat] at ht2 h2
  refine ⟨_, _, ht2, loop_run2 mixed ECh_ok (s_chO ps) (inv_chO ps) (me_chO ps) re_chO (rs_chO ps) k_chO (fun _ => rfl) ltCi_good (round_chO ps h2 h3) (x := (0, [])) ⟨Nat.zero_le _, Nat.le_refl _, rfl⟩ (π := [none]) rfl ?_⟩
  refine ⟨rfl, rfl, ?_, wvs_spread' [3, 7, 8, 9] hlen rfl ?_⟩
  · repeat' (first | exact True.intro | exact rfl | exact wv_top _ _ | exact fun _ => rfl | assumption | exact Eq.symm (by assumption) | exact vI0 rfl | refine And.intro ?_ ?_)
  · rw [hpick]
    repeat' (first | exact True.intro | exact rfl | exact wv_top _ _ | exact fun _ => rfl | assumption | exact Eq.symm (by assumption) | exact vI0 rfl | refine And.intro ?_ ?_)
set_option maxRecDepth 100000 in
theorem round_chP (ps : List Pt) (hp : allV ps = true) (h : ps.length ≤ 1000) : Round_chP ps := by
  rintro ⟨i, st⟩ ⟨h1, h2, h3⟩
  rw [tr_chP]
  simp only [ptsA_flat, Int.toNat_natCast, Nat.zero_add, flat_get0, flat_get1, flat_length, List.drop_zero, flat_take, flat_snoc]
  refine brT_ok.2 ⟨fun hlt => ?_, fun hge => ?_⟩
  · have hi : i < ps.length := by have := of_decide_eq_true hlt; omega
    have hk : popN st (ps.getD i (0, 0)) st.length ≤ st.length := popN_le st _ _
    have el : popN st (ps.getD i (0, 0)) st.length + 1 = (pushP st (ps.getD i (0, 0))).length := (pushP_len1 st _).symm
    refine ⟨by first | exact True.intro | rfl, hp, by omega, by omega, by first | exact True.intro | rfl, h3, by omega, by omega, by omega, ⟨by omega, by omega⟩, by omega, ?_⟩
    rw [wsucc hi (by omega), el]
    refine ⟨(i + 1, pushP st (ps.getD i (0, 0))), [some 4], ⟨by omega, by omega, allV_push h3 (allV_at hp hi)⟩, ?_, rfl, by simp only [rs_chP, chn_step hi], ?_⟩
    · show ps.length - (i + 1) < ps.length - i; omega
    · repeat' (first | exact True.intro | exact rfl | exact fun _ => rfl | (simp; done) | refine And.intro ?_ ?_)
  · have hge := of_decide_eq_false hge
    refine ⟨rfl, [some 2], ?_⟩
    simp only [rs_chP, chn_end (ps := ps) (st := st) (i := i) (by omega)]
    repeat' (first | exact True.intro | exact rfl | exact fun _ => rfl | (simp; done) | refine And.intro ?_ ?_)
set_option maxRecDepth 100000 in
theorem lg_chP : LoopE Try.prog e_chP c_chP := by
  intro s k t F H hlt ht
  unfold e_chP at hlt
  split at hlt
  rotate_left
  · cases hlt
  rename_i hlen hpick hmem
  obtain ⟨tmps, mem⟩ := s
  simp only at hlen hpick hmem
  subst hmem
  obtain rfl := Option.some.inj hlt
  obtain ⟨⟨rfl, rfl, h1, h2, h3, _⟩, ht2⟩ := needs_ok ht
  clear ht hlt
  obtain ⟨ps, rfl, rfl⟩ := even_flat h1
  rw [ptsA_flat] at ht2 h2
  refine ⟨_, _, ht2, loop_run2 mixed ECh_ok (s_chP ps) (inv_chP ps) (me_chP ps) re_chP (rs_chP ps) k_chP (fun _ => rfl) ltCs_good (round_chP ps h2 h3) (x := (0, [])) ⟨Nat.zero_le _, Nat.le_refl _, rfl⟩ (π := [some 1]) rfl ?_⟩
  refine ⟨rfl, rfl, ?_, wvs_spread' [0, 3, 4] hlen rfl ?_⟩
  · repeat' (first | exact True.intro | exact rfl | exact wv_top _ _ | exact fun _ => rfl | assumption | exact Eq.symm (by assumption) | exact vI0 rfl | refine And.intro ?_ ?_)
  · rw [hpick]
    repeat' (first | exact True.intro | exact rfl | exact wv_top _ _ | exact fun _ => rfl | assumption | exact Eq.symm (by assumption) | exact vI0 rfl | refine And.intro ?_ ?_)
theorem Lr_chO {fn : Func} (hf : Try.prog.funcs[18]? = some fn) : LoopsGood Try.prog (lt1 e_chO) 0 (codeOf fn) := by
  obtain rfl := fn_is Try.func18 hf
  exact lt1_good lg_chO
theorem Lr_chP {fn : Func} (hf : Try.prog.funcs[45]? = some fn) : LoopsGood Try.prog (lt1 e_chP) 0 (codeOf fn) := by
  obtain rfl := fn_is Try.func45 hf
  exact lt1_good lg_chP
def LCn : FuncId → LT := fun f => match f with
  | 18 => lt1 e_chO
  | 45 => lt1 e_chP
  | _ => noL
def ECn : Env := mkE TCh RSq LCn
theorem ECn_ok : EnvOk Try.prog ECn := mkEOk TCh_ok RSq_ok (by
  intro f fn hf
  unfold LCn
  split
  all_goals first | with_reducible exact Lr_chO hf | with_reducible exact Lr_chP hf | exact noL_good)
set_option maxRecDepth 100000 in
theorem tr_iCn (ps : List Pt) : bodyX Try.prog ECn 30 12 18 [.row ps.length (.ints (flat ps))] = .need ((0 : Int) = (0 : Int)) (.need ((↑ps.length : Int) = (↑ps.length : Int)) (.need ((flat ps).length = ps.length * (2 : Nat)) (.need (allV (ptsA ps.length (flat ps)) = true) (.need (ps.length ≤ (1000 : Nat)) (.fin (.slice (some ⟨1, 0, none⟩) ((chn [] (ptsA ps.length (flat ps))).length) ((chn [] (ptsA ps.length (flat ps))).length)) [some ⟨.view, .ints (flat ps)⟩, some ⟨.row 29 2, .ints (flat (chn [] (ptsA ps.length (flat ps))))⟩]))))) := by kernel_rfl
set_option maxRecDepth 100000 in
theorem tr_sCn (ps : List Pt) : bodyX Try.prog ECn 30 12 45 [.row ps.length (.ints (flat ps))] = .need ((0 : Int) = (0 : Int)) (.need ((0 : Nat) = (0 : Nat)) (.need ((flat ps).length = ps.length * (2 : Nat)) (.need (allV (ptsA ps.length (flat ps)) = true) (.need (ps.length ≤ (1000 : Nat)) (.fin (.slice (some ⟨2, 0, none⟩) ((chn [] (ptsA ps.length (flat ps))).length) ((chn [] (ptsA ps.length (flat ps))).length)) [some ⟨.view, .ints (flat ps)⟩, some deadB, some ⟨.row 29 2, .ints (flat (chn [] (ptsA ps.length (flat ps))))⟩]))))) := by kernel_rfl
theorem resR_iCn {ps : List Pt} (hv : allV ps = true) (h : ps.length ≤ 1000) : ResR Try.prog 18 [.row ps.length (.ints (flat ps))] (rowP (chn [] ps)) (blkP (chn [] ps)) := by
  refine bodyX_resR mixed ECn_ok (m := 30) (n := 12) rfl ?_
  rw [tr_iCn]
  simp only [ptsA_flat]
  exact ⟨trivial, trivial, flat_length ps, hv, h, some 1, ⟨rfl, rfl, rfl⟩, rfl, rfl, rfl⟩
theorem resR_sCn {ps : List Pt} (hv : allV ps = true) (h : ps.length ≤ 1000) : ResR Try.prog 45 [.row ps.length (.ints (flat ps))] (rowP (chn [] ps)) (blkP (chn [] ps)) := by
  refine bodyX_resR mixed ECn_ok (m := 30) (n := 12) rfl ?_
  rw [tr_sCn]
  simp only [ptsA_flat]
  exact ⟨trivial, trivial, flat_length ps, hv, h, some 2, ⟨rfl, rfl, rfl⟩, rfl, rfl, rfl⟩
end Go.Proofs.Ytcplfampcbekoaa
namespace Go.Proofs.Ytcplfampcbekoaa
set_option linter.all false
open Go.RowKit
theorem flatR (o : List Pt) : List.take (o.length * 2) (List.drop 0 (flat o)) = flat o := by rw [List.drop_zero, flat_all]
def ERv : Env := tabE B0
theorem ERv_ok : EnvOk Try.prog ERv := tabE_ok B0_ok
/-- So many are exchanged at both ends. -/
def rvI (ps X : List Pt) (i : Nat) : Prop := X.length = ps.length ∧ ∀ k, k < ps.length → X.getD k (0, 0) = if k < i ∨ ps.length - 1 - k < i then ps.getD (ps.length - 1 - k) (0, 0) else ps.getD k (0, 0)
theorem rv_end {ps X : List Pt} {i : Nat} (h : rvI ps X i) (hi : ps.length ≤ 2 * i + 1) : X = ps.reverse := by
  refine ext_getD (by simp [h.1]) fun k hk => ?_
  rw [h.1] at hk
  rw [h.2 k hk, getD_rev hk]
  split
  · rfl
  · congr 1
    omega
theorem getD_set' (X : List Pt) (i k : Nat) (z : Pt) (h : i < X.length) : (X.set i z).getD k (0, 0) = if k = i then z else X.getD k (0, 0) := by
  simp only [List.getD, List.getElem?_set]
  by_cases e : i = k
  · subst e; simp [h]
  · simp [e, Ne.symm e]
theorem rv_step {ps X : List Pt} {i : Nat} (h : rvI ps X i) (hi : 2 * i + 1 < ps.length) : rvI ps ((X.set i (X.getD (ps.length - 1 - i) (0, 0))).set (ps.length - 1 - i) (X.getD i (0, 0))) (i + 1) := by
  refine ⟨by simp [h.1], fun k hk => ?_⟩
  rw [getD_set' _ _ _ _ (by simp [h.1]; omega), getD_set' _ _ _ _ (by rw [h.1]; omega)]
  have a1 := h.2 i (by omega)
  have a2 := h.2 (ps.length - 1 - i) (by omega)
  rw [if_neg (by omega)] at a1
  rw [if_neg (by omega)] at a2
  by_cases c1 : k = ps.length - 1 - i
  · subst c1
    rw [if_pos rfl, a1, if_pos (by omega)]
    congr 1
    omega
  · rw [if_neg c1]
    by_cases c2 : k = i
    · subst c2
      rw [if_pos rfl, a2, if_pos (by omega)]
    · rw [if_neg c2, h.2 k hk]
      by_cases c3 : k < i ∨ ps.length - 1 - k < i
      · rw [if_pos c3, if_pos (by omega)]
      · rw [if_neg c3, if_neg (by omega)]
noncomputable def c_rvs : Code := ((loopsOf (codeOf Try.f19))[0]?).getD .skip
def k_rvs : Ex → List Nat := keeps [0, 2, 3] [(0, [])] []
def s_rvs (ps : List Pt) : Nat × (List Pt) → St := fun (i, X) => ⟨[.slice (some ⟨0, 0, none⟩) ps.length ps.length, topV, .int .i64 i, .int .i64 ((ps.length : Int) - 1 - i), topV, topV, topV, topV, topV, topV, topV, topV, topV, topV, topV, topV, topV, topV, topV, topV, topV, topV, topV, topV, topV, topV, topV, topV], [some ⟨.row 29 2, .ints (flat X)⟩]⟩
def re_rvs : Nat × (List Pt) → Ex := fun _ => .exit 0
def rs_rvs (ps : List Pt) : Nat × (List Pt) → St := fun (i, X) => ⟨[topV, topV, topV, topV, topV, topV, topV, topV, topV, topV, topV, topV, topV, topV, topV, topV, topV, topV, topV, topV, topV, topV, topV, topV, topV, topV, topV, topV], [some ⟨.row 29 2, .ints (flat (revP ps))⟩]⟩
set_option maxRecDepth 100000 in
theorem tr_rvs (ps : List Pt) (i : Nat) (X : List Pt) : bodyL Try.prog ERv 30 12 noL 1 c_rvs k_rvs 1 (s_rvs ps (i, X)) = brT (decide ((↑i : Int) < (↑ps.length : Int) - 1 - (↑i : Int))) (.need ((0 : Int) ≤ (↑ps.length : Int) - (1 : Int) - (↑i : Int) ∧ (↑ps.length : Int) - (1 : Int) - (↑i : Int) < (↑ps.length : Int)) (.need ((0 : Nat) + ((↑ps.length : Int) - (1 : Int) - (↑i : Int)).toNat * (2 : Nat) + (2 : Nat) ≤ (flat X).length) (.need ((0 : Int) ≤ (↑i : Int) ∧ (↑i : Int) < (↑ps.length : Int)) (.need ((0 : Nat) + (↑i : Int).toNat * (2 : Nat) + (2 : Nat) ≤ (flat X).length) (.need ((0 : Int) ≤ (↑i : Int) ∧ (↑i : Int) < (↑ps.length : Int)) (.need ((0 : Nat) + (↑i : Int).toNat * (2 : Nat) + (2 : Nat) ≤ (flat X).length) (.need ((0 : Int) ≤ (↑ps.length : Int) - (1 : Int) - (↑i : Int) ∧ (↑ps.length : Int) - (1 : Int) - (↑i : Int) < (↑ps.length : Int)) (.need ((0 : Nat) + ((↑ps.length : Int) - (1 : Int) - (↑i : Int)).toNat * (2 : Nat) + (2 : Nat) ≤ (setInts (flat X) ((0 : Nat) + (↑i : Int).toNat * (2 : Nat)) [(flat X).getD ((0 : Nat) + ((↑ps.length : Int) - (1 : Int) - (↑i : Int)).toNat * (2 : Nat)) (0 : Int), (flat X).getD ((0 : Nat) + ((↑ps.length : Int) - (1 : Int) - (↑i : Int)).toNat * (2 : Nat) + (1 : Nat)) (0 : Int)]).length) (.leaf .normal ⟨[.slice (some ⟨0, 0, none⟩) (ps.length) (ps.length), topV, .int .i64 (IntKind.i64.wrap ((↑i : Int) + 1)), .int .i64 (IntKind.i64.wrap ((↑ps.length : Int) - 1 - (↑i : Int) - 1)), topV, topV, topV, topV, topV, topV, topV, topV, topV, topV, topV, topV, topV, topV, topV, topV, topV, topV, topV, topV, topV, topV, topV, topV], [some ⟨.row 29 2, .ints (setInts (setInts (flat X) (0 + (↑i : Int).toNat * 2) [(flat X).getD (0 + ((↑ps.length : Int) - 1 - (↑i : Int)).toNat * 2) 0, (flat X).getD (0 + ((↑ps.length : Int) - 1 - (↑i : Int)).toNat * 2 + 1) 0]) (0 + ((↑ps.length : Int) - 1 - (↑i : Int)).toNat * 2) [(flat X).getD (0 + (↑i : Int).toNat * 2) 0, (flat X).getD (0 + (↑i : Int).toNat * 2 + 1) 0])⟩]⟩))))))))) (.leaf (.exit 0) ⟨[topV, topV, topV, topV, topV, topV, topV, topV, topV, topV, topV, topV, topV, topV, topV, topV, topV, topV, topV, topV, topV, topV, topV, topV, topV, topV, topV, topV], [some ⟨.row 29 2, .ints (flat X)⟩]⟩) := by kernel_rfl
set_option maxRecDepth 100000 in
theorem nl_rvs : loopsOf c_rvs = [] := by kernel_rfl
def inv_rvs (ps : List Pt) : Nat × (List Pt) → Prop := fun (i, X) => 2 * i ≤ ps.length + 1 ∧ rvI ps X i
def me_rvs (ps : List Pt) : Nat × (List Pt) → Nat := fun (i, X) => ps.length + 1 - i
/-- A round of this loop. -/
def Round_rvs (ps : List Pt) : Prop := ∀ xx : Nat × (List Pt), inv_rvs ps xx → (bodyL Try.prog ERv 30 12 noL 1 c_rvs k_rvs 1 (s_rvs ps xx)).ok (RoundEnd 1 (s_rvs ps) (inv_rvs ps) (me_rvs ps) re_rvs (rs_rvs ps) xx) (fun _ _ => False)
def e_rvs (s : St) (k : Ex → St → Tree) : Option Tree := match Nat.beq s.tmps.length 28, pickL s.tmps [0, 2, 3], s.mem with
  | true, [.slice (some ⟨0, 0, none⟩) n _, .int .i64 i0, .int .i64 j0], [some ⟨.row 29 2, .ints xs⟩] => some (needs [i0 = 0, j0 = (n : Int) - 1 - (0 : Nat), xs.length = n * 2, n ≤ 1000000000] (k (.exit 0) ⟨[topV, topV, topV, topV, topV, topV, topV, topV, topV, topV, topV, topV, topV, topV, topV, topV, topV, topV, topV, topV, topV, topV, topV, topV, topV, topV, topV, topV], [some ⟨.row 29 2, .ints (flat (revP (ptsA n xs)))⟩]⟩))
  | _, _, _ => none
noncomputable def c_rvd : Code := ((loopsOf (codeOf Try.f46))[0]?).getD .skip
def k_rvd : Ex → List Nat := keeps [0, 3, 4] [(0, [3])] [2]
def s_rvd (ps : List Pt) : Nat × (List Pt) → St := fun (m, o) => ⟨[.slice (some ⟨0, 0, none⟩) ps.length ps.length, topV, topV, .slice (some ⟨2, 0, none⟩) o.length o.length, .int .i64 ((m : Int) - 1), topV, topV, topV, topV, topV, topV, topV, topV, topV, topV, topV, topV, topV, topV, topV, topV], [some ⟨.view, .ints (flat ps)⟩, some ⟨.dead, .vals []⟩, some ⟨.row 29 2, .ints (flat o)⟩]⟩
def re_rvd : Nat × (List Pt) → Ex := fun _ => .exit 0
def rs_rvd (ps : List Pt) : Nat × (List Pt) → St := fun (m, o) => ⟨[topV, topV, topV, .slice (some ⟨2, 0, none⟩) (revP ps).length (revP ps).length, topV, topV, topV, topV, topV, topV, topV, topV, topV, topV, topV, topV, topV, topV, topV, topV, topV], [some ⟨.view, .ints (flat ps)⟩, some ⟨.dead, .vals []⟩, some ⟨.row 29 2, .ints (flat (revP ps))⟩]⟩
set_option maxRecDepth 100000 in
theorem tr_rvd (ps : List Pt) (m : Nat) (o : List Pt) : bodyL Try.prog ERv 30 12 noL 1 c_rvd k_rvd 16 (s_rvd ps (m, o)) = brT (decide (0 ≤ (↑m : Int) - 1)) (.need ((0 : Int) ≤ (↑m : Int) - (1 : Int) ∧ (↑m : Int) - (1 : Int) < (↑ps.length : Int)) (.need ((0 : Nat) + ((↑m : Int) - (1 : Int)).toNat * (2 : Nat) + (2 : Nat) ≤ (flat ps).length) (.need ((o.length + (1 : Nat)) * (16 : Nat) ≤ (140737488355328 : Nat) ∧ o.length + (1 : Nat) ≤ (1000000 : Nat)) (.need ((0 : Nat) + o.length * (2 : Nat) ≤ (flat o).length) (.leaf .normal ⟨[.slice (some ⟨0, 0, none⟩) (ps.length) (ps.length), topV, topV, .slice (some ⟨4, 0, none⟩) (o.length + 1) (o.length + 1), .int .i64 (IntKind.i64.wrap ((↑m : Int) - 1 - 1)), topV, topV, topV, topV, topV, topV, topV, topV, topV, topV, topV, topV, topV, topV, topV, topV], [some ⟨.view, .ints (flat ps)⟩, some deadB, some deadB, some ⟨.row 29 2, .vals [.int .i64 ((flat ps).getD (0 + ((↑m : Int) - 1).toNat * 2) 0), .int .i64 ((flat ps).getD (0 + ((↑m : Int) - 1).toNat * 2 + 1) 0)]⟩, some ⟨.row 29 2, .ints (List.take (o.length * 2) (List.drop 0 (flat o)) ++ [(flat ps).getD (0 + ((↑m : Int) - 1).toNat * 2) 0, (flat ps).getD (0 + ((↑m : Int) - 1).toNat * 2 + 1) 0])⟩]⟩))))) (.leaf (.exit 0) ⟨[topV, topV, topV, .slice (some ⟨2, 0, none⟩) (o.length) (o.length), topV, topV, topV, topV, topV, topV, topV, topV, topV, topV, topV, topV, topV, topV, topV, topV, topV], [some ⟨.view, .ints (flat ps)⟩, some deadB, some ⟨.row 29 2, .ints (flat o)⟩]⟩) := by kernel_rfl
set_option maxRecDepth 100000 in
theorem nl_rvd : loopsOf c_rvd = [] := by kernel_rfl
def inv_rvd (ps : List Pt) : Nat × (List Pt) → Prop := fun (m, o) => m ≤ ps.length ∧ o = (ps.drop m).reverse
def me_rvd (ps : List Pt) : Nat × (List Pt) → Nat := fun (m, o) => m
/-- A round of this loop. -/
def Round_rvd (ps : List Pt) : Prop := ∀ xx : Nat × (List Pt), inv_rvd ps xx → (bodyL Try.prog ERv 30 12 noL 1 c_rvd k_rvd 16 (s_rvd ps xx)).ok (RoundEnd 2 (s_rvd ps) (inv_rvd ps) (me_rvd ps) re_rvd (rs_rvd ps) xx) (fun _ _ => False)
def e_rvd (s : St) (k : Ex → St → Tree) : Option Tree := match Nat.beq s.tmps.length 21, pickL s.tmps [0, 3, 4], s.mem with
  | true, [.slice (some ⟨0, 0, none⟩) n _, .slice (some ⟨1, 0, none⟩) z _, .int .i64 i0], [some ⟨.view, .ints xs⟩, some ⟨.row 29 2, .vals []⟩] => some (needs [i0 = (n : Int) - 1, z = 0, xs.length = n * 2, n ≤ 100000] (k (.exit 0) ⟨[topV, topV, topV, .slice (some ⟨2, 0, none⟩) (revP (ptsA n xs)).length (revP (ptsA n xs)).length, topV, topV, topV, topV, topV, topV, topV, topV, topV, topV, topV, topV, topV, topV, topV, topV, topV], [some ⟨.view, .ints xs⟩, some ⟨.dead, .vals []⟩, some ⟨.row 29 2, .ints (flat (revP (ptsA n xs)))⟩]⟩))
  | _, _, _ => none
set_option maxRecDepth 100000 in
theorem round_rvs (ps : List Pt) (h : ps.length ≤ 1000000000) : Round_rvs ps := by
  rintro ⟨i, X⟩ ⟨h1, h2⟩
  rw [tr_rvs]
  have hl := h2.1
  refine brT_ok.2 ⟨fun hlt => ?_, fun hge => ?_⟩
  · have hlt := of_decide_eq_true hlt
    have hi : 2 * i + 1 < ps.length := by omega
    have j1 : ((ps.length : Int) - 1 - (i : Int)).toNat = ps.length - 1 - i := by omega
    have w : IntKind.i64.wrap ((ps.length : Int) - 1 - (i : Int) - 1) = (ps.length : Int) - 1 - ((i + 1 : Nat) : Int) := by rw [wr (by omega)]; omega
    have f1 := flat_set X i (by omega) (X.getD (ps.length - 1 - i) (0, 0)).1 (X.getD (ps.length - 1 - i) (0, 0)).2
    have f2 := flat_set (X.set i ((X.getD (ps.length - 1 - i) (0, 0)).1, (X.getD (ps.length - 1 - i) (0, 0)).2)) (ps.length - 1 - i) (by rw [List.length_set]; omega) (X.getD i (0, 0)).1 (X.getD i (0, 0)).2
    simp only [j1, w, Int.toNat_natCast, Nat.zero_add, flat_get0, flat_get1, f1]
    simp only [f2, flat_length, List.length_set, wsucc (n := ps.length) (i := i) (by omega) h]
    refine ⟨by omega, by omega, by omega, by omega, by omega, by omega, by omega, by omega, ?_⟩
    refine ⟨(i + 1, (X.set i (X.getD (ps.length - 1 - i) (0, 0))).set (ps.length - 1 - i) (X.getD i (0, 0))), [], ⟨by omega, rv_step h2 hi⟩, ?_, rfl, by simp only [rs_rvs], ?_⟩
    · show ps.length + 1 - (i + 1) < ps.length + 1 - i; omega
    · repeat' (first | exact True.intro | exact rfl | exact fun _ => rfl | (simp; done) | refine And.intro ?_ ?_)
  · have hge := of_decide_eq_false hge
    obtain rfl := rv_end h2 (by omega)
    refine ⟨rfl, [], ?_⟩
    simp only [rs_rvs, revP]
    repeat' (first | exact True.intro | exact rfl | exact fun _ => rfl | (simp; done) | refine And.intro ?_ ?_)
set_option maxRecDepth 100000 in
theorem lg_rvs : LoopE Try.prog e_rvs c_rvs := by
  intro s k t F H hlt ht
  unfold e_rvs at hlt
  split at hlt
  rotate_left
  · cases hlt
  rename_i hlen hpick hmem
  obtain ⟨tmps, mem⟩ := s
  simp only at hlen hpick hmem
  subst hmem
  obtain rfl := Option.some.inj hlt
  obtain ⟨⟨rfl, rfl, h1, h2, _⟩, ht2⟩ := needs_ok ht
  clear ht hlt
  obtain ⟨ps, rfl, rfl⟩ := even_flat h1
  rw [ptsA_flat] at ht2
  refine ⟨_, _, ht2, loop_run mixed ERv_ok (s_rvs ps) (inv_rvs ps) (me_rvs ps) re_rvs (rs_rvs ps) k_rvs (fun _ => rfl) (noLoops nl_rvs) (round_rvs ps h2) (x := (0, ps)) ⟨by omega, rfl, fun k hk => by rw [if_neg (by omega)]⟩ (π := []) rfl ?_⟩
  refine ⟨rfl, rfl, ?_, wvs_spread' [0, 2, 3] hlen rfl ?_⟩
  · repeat' (first | exact True.intro | exact rfl | exact wv_top _ _ | exact fun _ => rfl | assumption | exact Eq.symm (by assumption) | exact vI0 rfl | refine And.intro ?_ ?_)
  · rw [hpick]
    repeat' (first | exact True.intro | exact rfl | exact wv_top _ _ | exact fun _ => rfl | assumption | exact Eq.symm (by assumption) | exact vI0 rfl | refine And.intro ?_ ?_)
theorem rvd_step {ps : List Pt} {m : Nat} (h : m < ps.length) : (ps.drop (m + 1)).reverse ++ [ps.getD m (0, 0)] = (ps.drop m).reverse := by
  rw [drop_cons h (0, 0), List.reverse_cons]
set_option maxRecDepth 100000 in
theorem round_rvd (ps : List Pt) (h : ps.length ≤ 100000) : Round_rvd ps := by
  rintro ⟨m, o⟩ ⟨h1, rfl⟩
  rw [tr_rvd]
  have hl : (ps.drop m).reverse.length = ps.length - m := by simp
  refine brT_ok.2 ⟨fun hlt => ?_, fun hge => ?_⟩
  · have hlt := of_decide_eq_true hlt
    obtain ⟨m, rfl⟩ : ∃ k, m = k + 1 := ⟨m - 1, by omega⟩
    have j1 : (((m + 1 : Nat) : Int) - 1).toNat = m := by omega
    have w : IntKind.i64.wrap (((m + 1 : Nat) : Int) - 1 - 1) = (m : Int) - 1 := by rw [wr (by omega)]; omega
    have hs := rvd_step (ps := ps) (m := m) (by omega)
    have fs : flat (ps.drop (m + 1)).reverse ++ [(ps.getD m (0, 0)).1, (ps.getD m (0, 0)).2] = flat (ps.drop m).reverse := by
      rw [flat_snoc, ← hs]
    simp only [j1, w, Nat.zero_add, flat_get0, flat_get1, flat_length, flatR, fs]
    refine ⟨by omega, by omega, ⟨by omega, by omega⟩, by omega, (m, (ps.drop m).reverse), [some 4], ⟨by omega, rfl⟩, ?_, rfl, by simp only [rs_rvd], ?_⟩
    · show m < m + 1; omega
    · have e : (ps.drop (m + 1)).reverse.length + 1 = (ps.drop m).reverse.length := by rw [← hs]; simp
      rw [e]
      repeat' (first | exact True.intro | exact rfl | exact fun _ => rfl | (simp; done) | refine And.intro ?_ ?_)
  · have hge := of_decide_eq_false hge
    obtain rfl : m = 0 := by omega
    refine ⟨rfl, [some 2], ?_⟩
    simp only [rs_rvd, revP, List.drop_zero]
    repeat' (first | exact True.intro | exact rfl | exact fun _ => rfl | (simp; done) | refine And.intro ?_ ?_)
set_option maxRecDepth 100000 in
theorem lg_rvd : LoopE Try.prog e_rvd c_rvd := by
  intro s k t F H hlt ht
  unfold e_rvd at hlt
  split at hlt
  rotate_left
  · cases hlt
  rename_i hlen hpick hmem
  obtain ⟨tmps, mem⟩ := s
  simp only at hlen hpick hmem
  subst hmem
  obtain rfl := Option.some.inj hlt
  obtain ⟨⟨rfl, rfl, h1, h3, _⟩, ht2⟩ := needs_ok ht
  clear ht hlt
  obtain ⟨ps, rfl, rfl⟩ := even_flat h1
  rw [ptsA_flat] at ht2
  refine ⟨_, _, ht2, loop_run2 mixed ERv_ok (s_rvd ps) (inv_rvd ps) (me_rvd ps) re_rvd (rs_rvd ps) k_rvd (fun _ => rfl) (noLoops nl_rvd) (round_rvd ps h3) (x := (ps.length, [])) ⟨Nat.le_refl _, by rw [List.drop_length]; rfl⟩ (π := [some 1]) rfl ?_⟩
  refine ⟨rfl, rfl, ?_, wvs_spread' [0, 3, 4] hlen rfl ?_⟩
  · repeat' (first | exact True.intro | exact rfl | exact wv_top _ _ | exact fun _ => rfl | assumption | exact Eq.symm (by assumption) | exact vI0 rfl | refine And.intro ?_ ?_)
  · rw [hpick]
    repeat' (first | exact True.intro | exact rfl | exact wv_top _ _ | exact fun _ => rfl | assumption | exact Eq.symm (by assumption) | exact vI0 rfl | refine And.intro ?_ ?_)
theorem Lr_rvs {fn : Func} (hf : Try.prog.funcs[19]? = some fn) : LoopsGood Try.prog (lt1 e_rvs) 0 (codeOf fn) := by
  obtain rfl := fn_is Try.func19 hf
  exact lt1_good lg_rvs
theorem Lr_rvd {fn : Func} (hf : Try.prog.funcs[46]? = some fn) : LoopsGood Try.prog (lt1 e_rvd) 0 (codeOf fn) := by
  obtain rfl := fn_is Try.func46 hf
  exact lt1_good lg_rvd
def LRv : FuncId → LT := fun f => match f with
  | 19 => lt1 e_rvs
  | 46 => lt1 e_rvd
  | _ => noL
def ERw : Env := mkE B0 (fun _ _ => none) LRv
theorem ERw_ok : EnvOk Try.prog ERw := mkEOk B0_ok (fun _ _ _ _ _ h => (by cases h)) (by
  intro f fn hf
  unfold LRv
  split
  all_goals first | with_reducible exact Lr_rvs hf | with_reducible exact Lr_rvd hf | exact noL_good)
set_option maxRecDepth 100000 in
theorem tr_rvF (ps : List Pt) : bodyM Try.prog ERw (runM Try.prog ERw 30 12) 30 19 [.slice (some ⟨0, 0, none⟩) ps.length ps.length] [some ⟨.row 29 2, .ints (flat ps)⟩] .fin = .need ((0 : Int) = (0 : Int)) (.need (IntKind.i64.wrap ((↑ps.length : Int) - (1 : Int)) = (↑ps.length : Int) - (1 : Int) - (↑(0 : Nat) : Int)) (.need ((flat ps).length = ps.length * (2 : Nat)) (.need (ps.length ≤ (1000000000 : Nat)) (.fin (.tuple #[]) [some ⟨.row 29 2, .ints (flat (revP (ptsA ps.length (flat ps))))⟩])))) := by kernel_rfl
set_option maxRecDepth 100000 in
theorem tr_rdF (ps : List Pt) : bodyX Try.prog ERw 30 12 46 [.row ps.length (.ints (flat ps))] = .need (IntKind.i64.wrap ((↑ps.length : Int) - (1 : Int)) = (↑ps.length : Int) - (1 : Int)) (.need ((0 : Nat) = (0 : Nat)) (.need ((flat ps).length = ps.length * (2 : Nat)) (.need (ps.length ≤ (100000 : Nat)) (.fin (.slice (some ⟨2, 0, none⟩) ((revP (ptsA ps.length (flat ps))).length) ((revP (ptsA ps.length (flat ps))).length)) [some ⟨.view, .ints (flat ps)⟩, some deadB, some ⟨.row 29 2, .ints (flat (revP (ptsA ps.length (flat ps))))⟩])))) := by kernel_rfl
def rvW : WSpec := fun e sz l xs rest => match Nat.beq e 29 && Nat.beq sz 2, rest with
  | true, [] => some (.tuple #[], flat (revP (ptsA l xs)), [xs.length = l * 2, l ≤ 1000000000])
  | _, _ => none
theorem rvW_ok : WSpecOk Try.prog 19 rvW := by
  intro e sz l xs rest v ys C h hC
  unfold rvW at h
  split at h
  rotate_left
  · cases h
  rename_i he
  simp only [Bool.and_eq_true] at he
  obtain rfl := Nat.eq_of_beq_eq_true he.1
  obtain rfl := Nat.eq_of_beq_eq_true he.2
  obtain ⟨rfl, rfl, rfl⟩ : Value.tuple #[] = v ∧ flat (revP (ptsA l xs)) = ys ∧ [xs.length = l * 2, l ≤ 1000000000] = C := by simpa using h
  obtain ⟨h1, h2, _⟩ := hC
  obtain ⟨ps, rfl, rfl⟩ := even_flat h1
  refine ⟨ERw, 30, 12, ERw_ok, rfl, ?_⟩
  rw [tr_rvF]
  simp only [ptsA_flat]
  exact ⟨trivial, by rw [wr (by omega)]; omega, flat_length ps, h2, rfl, _, rfl, rfl, rfl⟩
theorem resR_rvd {ps : List Pt} (h : ps.length ≤ 100000) : ResR Try.prog 46 [.row ps.length (.ints (flat ps))] (rowP (revP ps)) (blkP (revP ps)) := by
  refine bodyX_resR mixed ERw_ok (m := 30) (n := 12) rfl ?_
  rw [tr_rdF]
  simp only [ptsA_flat]
  exact ⟨by rw [wr (by omega)], trivial, flat_length ps, h, some 2, ⟨rfl, rfl, rfl⟩, rfl, rfl, rfl⟩
end Go.Proofs.Ytcplfampcbekoaa
namespace Go.Proofs.Ytcplfampcbekoaa
set_option linter.all false
open Go.RowKit
/-- The vertices of the hull of points in order. -/
def hulL (s : List Pt) : List Pt := if s.length < 3 then s else (chn [] s).take ((chn [] s).length - 1) ++ (chn [] (revP s)).take ((chn [] (revP s)).length - 1)
theorem chn_pos : ∀ {ps st : List Pt}, 0 < st.length ∨ 0 < ps.length → 0 < (chn st ps).length
  | [], st, h => by simpa [chn] using h
  | p :: r, st, _ => by
    have h1 := pushP_len1 st p
    have := chn_pos (ps := r) (st := pushP st p) (.inl (by omega))
    exact this
theorem allV_rev {ps : List Pt} (h : allV ps = true) : allV (revP ps) = true := List.all_eq_true.2 fun z hz => List.all_eq_true.1 h z (List.mem_reverse.1 hz)
theorem revP_len (ps : List Pt) : (revP ps).length = ps.length := List.length_reverse ..
theorem hul_two {s : List Pt} (h : s.length = 2) : (chn [] s).take ((chn [] s).length - 1) ++ (chn [] (revP s)).take ((chn [] (revP s)).length - 1) = s := by
  match s, h with
  | [a, b], _ => rfl
theorem popN_pos (st : List Pt) (p : Pt) : ∀ j, 1 ≤ j → 1 ≤ popN st p j
  | 0, h => by omega
  | 1, _ => Nat.le_refl _
  | j + 2, _ => by
    have := popN_pos st p (j + 1) (by omega)
    simp only [popN]
    split <;> omega
theorem chn_two : ∀ {ps st : List Pt}, 2 ≤ st.length ∨ (1 ≤ st.length ∧ 1 ≤ ps.length) → 2 ≤ (chn st ps).length
  | [], st, h => by
    show 2 ≤ st.length
    simpa using h
  | p :: r, st, h => by
    have h0 : 1 ≤ st.length := by omega
    have h1 := pushP_len1 st p
    have h2 := popN_pos st p st.length h0
    exact chn_two (ps := r) (st := pushP st p) (.inl (by omega))
theorem chn_ge {s : List Pt} (h : 2 ≤ s.length) : 2 ≤ (chn [] s).length := by
  match s, h with
  | a :: b :: r, _ => exact chn_two (ps := b :: r) (st := pushP [] a) (.inr ⟨by rw [pushP_len1]; exact Nat.le_add_left _ _, by simp⟩)
theorem hulL_len {s : List Pt} (h : s.length ≤ 20) : (hulL s).length ≤ 40 := by
  have c1 := chn_len s []
  have c2 := chn_len (revP s) []
  have r1 := revP_len s
  simp only [List.length_nil, Nat.zero_add] at c1 c2
  unfold hulL
  split
  · omega
  · simp only [List.length_append, List.length_take]
    omega
theorem allV_hul {s : List Pt} (h : allV s = true) : allV (hulL s) = true := by
  unfold hulL
  split
  · exact h
  · refine List.all_eq_true.2 fun z hz => ?_
    rcases List.mem_append.1 hz with hz | hz
    · exact List.all_eq_true.1 (allV_chn (ps := s) (st := []) rfl h) z (List.mem_of_mem_take hz)
    · exact List.all_eq_true.1 (allV_chn (ps := revP s) (st := []) rfl (allV_rev h)) z (List.mem_of_mem_take hz)
end Go.Proofs.Ytcplfampcbekoaa
namespace Go.Proofs.Ytcplfampcbekoaa
set_option linter.all false
open Go.RowKit
set_option maxRecDepth 100000 in
theorem grow_any (n : Int) (h : 0 < n ∧ n ≤ 1000) (w : World) : Calls Try.prog 43 #[.slice none 0 0, .int .i64 n] w fun e w' => ∃ v' p, e = .returned v' ∧ Below w.heap.size w w' ∧
    ∀ (ρ : Nat → Option Pl) (name : Nat), ρ name = some p → VR ρ (.slice (some ⟨name, 0, none⟩) 0 0) v' ∧ BlkOk ρ (fun k => k < w.heap.size) w' name ⟨.row 29 2, .ints []⟩ := by
  have h1 : decide (n < 0) = false := decide_eq_false (by omega)
  have h2 : decide (0 < n) = true := decide_eq_true (by omega)
  have hb : Try.t29.bytes = 16 := rfl
  have hc : Builtin.nextslicecap n.toNat 0 = n.toNat := nextslicecap_zero (by omega)
  have hge : n.toNat ≤ (Question.appendCap n.toNat 0 29).cut (w.tape w.drawn (Question.appendCap n.toNat 0 29)) := grownCap_ge w n.toNat 0 29
  have HG := Lib.hid hge
  clear hge
  go_enter Try.func43, Try.ntmps43
  go_wp2_with fail
  all_goals (try (exfalso; first | omega | (rw [hb] at *; omega) | (rw [hc, hb] at *; omega)))
  have hge := HG.out
  clear HG
  go_ret
  refine ⟨_, rfl, Below.drew (na (nr _) _), w.heap.size, 0, some ((Question.appendCap n.toNat 0 29).cut (w.tape w.drawn (Question.appendCap n.toNat 0 29))), fun ρ name hn => ⟨.slice (f := 0) hn (.inl rfl) (Nat.zero_le _) (fun k hk _ => by simpa using hk), .inr ⟨w.heap.size, _, hn, Nat.lt_irrefl _, _, heap_alloc_new w _, ?_, fun k v hk => by simp [Blk.cells, Cs.list] at hk⟩⟩⟩
  rw [Array.size_append, size_zeroCells, size_zeroCells]
  simp only [List.size_toArray, List.length_cons, List.length_nil]
  omega
set_option maxRecDepth 100000 in
theorem resR_grw (n : Int) (h : 0 < n ∧ n ≤ 1000) : ResR Try.prog 43 [.v (.slice none 0 0), .v (.int .i64 n)] (.slice (some ⟨0, 0, none⟩) 0 0) ⟨.row 29 2, .ints []⟩ := by
  refine ⟨(entersB_res (by kernel_rfl)).1, (entersB_res (by kernel_rfl)).2, rfl, fun d hd => ?_, fun w args hd => ?_⟩
  · rcases List.mem_cons.1 hd with rfl | hd
    · exact rfl
    · rw [List.mem_singleton.1 hd]
      exact rfl
  · obtain ⟨h1, h2⟩ := hd
    obtain ⟨x0, x1, rfl⟩ : ∃ x0 x1, args = #[x0, x1] := by
      have h3 : args.size = 2 := by simpa using h1.symm
      match args, h3 with
      | ⟨[x0, x1]⟩, _ => exact ⟨x0, x1, rfl⟩
    obtain ⟨_, rfl⟩ := h2 0 _ x0 rfl rfl
    obtain ⟨_, rfl⟩ := h2 1 _ x1 rfl rfl
    exact grow_any n h w
end Go.Proofs.Ytcplfampcbekoaa
namespace Go.Proofs.Ytcplfampcbekoaa
set_option linter.all false
open Go.RowKit
def RGw : TabR := fun f ds => match f, ds with
  | 43, [.v (.slice none 0 0), .v (.int .i64 n)] => some (.slice (some ⟨0, 0, none⟩) 0 0, ⟨.row 29 2, .ints []⟩, [0 < n ∧ n ≤ 1000])
  | _, _ => none
theorem RGw_ok : TabROk Try.prog RGw := by
  intro f ds v b C h hC
  unfold RGw at h
  (try split at h)
  all_goals first
    | (obtain ⟨rfl, rfl, rfl⟩ : _ ∧ _ ∧ _ := by simpa using h
       exact resR_grw _ hC.1)
    | cases h
def ECt : Env := mkE B0 RGw (fun _ => noL)
theorem ECt_ok : EnvOk Try.prog ECt := mkEOk B0_ok RGw_ok (fun _ _ _ => noL_good)
set_option maxRecDepth 100000 in
theorem tr_cat (l1 l2 : Nat) (y1 y2 : List Int) : bodyM Try.prog ECt (runM Try.prog ECt 30 12) 30 20 [.slice (some ⟨2, 0, none⟩) 2 2] [some ⟨.view, .ints y1⟩, some ⟨.view, .ints y2⟩, some ⟨.view, .vals [.slice (some ⟨0, 0, none⟩) l1 l1, .slice (some ⟨1, 0, none⟩) l2 l2]⟩] .fin = .need ((0 : Int) ≤ (0 : Int) ∧ (0 : Int) < (↑(2 : Nat) : Int)) (brT (decide (IntKind.i64.wrap (0 + (↑l1 : Int)) < 0)) (.bad) (.need ((0 : Int) ≤ IntKind.i64.wrap ((0 : Int) + (1 : Int)) ∧ IntKind.i64.wrap ((0 : Int) + (1 : Int)) < (↑(2 : Nat) : Int)) (brT (decide (IntKind.i64.wrap (IntKind.i64.wrap (0 + (↑l1 : Int)) + (↑l2 : Int)) < 0)) (.bad) (.need ((0 : Int) < IntKind.i64.wrap (IntKind.i64.wrap ((0 : Int) + (↑l1 : Int)) + (↑l2 : Int)) ∧ IntKind.i64.wrap (IntKind.i64.wrap ((0 : Int) + (↑l1 : Int)) + (↑l2 : Int)) ≤ (1000 : Int)) (.need ((0 : Int) ≤ (0 : Int) ∧ (0 : Int) < (↑(2 : Nat) : Int)) (.need (((0 : Nat) + (l1, Cs.ints (List.take (l1 * Try.prog.types[(29 : Nat)].size) (List.drop (0 : Nat) y1)), [(0 : Nat) + l1 * Try.prog.types[(29 : Nat)].size ≤ y1.length]).fst) * (16 : Nat) ≤ (140737488355328 : Nat) ∧ (0 : Nat) + (l1, Cs.ints (List.take (l1 * Try.prog.types[(29 : Nat)].size) (List.drop (0 : Nat) y1)), [(0 : Nat) + l1 * Try.prog.types[(29 : Nat)].size ≤ y1.length]).fst ≤ (1000000 : Nat)) (.need ((0 : Nat) + l1 * (2 : Nat) ≤ y1.length) (.need ((0 : Nat) ≤ (0 : Nat)) (.need ((0 : Int) ≤ IntKind.i64.wrap ((0 : Int) + (1 : Int)) ∧ IntKind.i64.wrap ((0 : Int) + (1 : Int)) < (↑(2 : Nat) : Int)) (.need (((0 : Nat) + (l1, Cs.ints (List.take (l1 * Try.prog.types[(29 : Nat)].size) (List.drop (0 : Nat) y1)), [(0 : Nat) + l1 * Try.prog.types[(29 : Nat)].size ≤ y1.length]).fst + (l2, Cs.ints (List.take (l2 * Try.prog.types[(29 : Nat)].size) (List.drop (0 : Nat) y2)), [(0 : Nat) + l2 * Try.prog.types[(29 : Nat)].size ≤ y2.length]).fst) * (16 : Nat) ≤ (140737488355328 : Nat) ∧ (0 : Nat) + (l1, Cs.ints (List.take (l1 * Try.prog.types[(29 : Nat)].size) (List.drop (0 : Nat) y1)), [(0 : Nat) + l1 * Try.prog.types[(29 : Nat)].size ≤ y1.length]).fst + (l2, Cs.ints (List.take (l2 * Try.prog.types[(29 : Nat)].size) (List.drop (0 : Nat) y2)), [(0 : Nat) + l2 * Try.prog.types[(29 : Nat)].size ≤ y2.length]).fst ≤ (1000000 : Nat)) (.need ((0 : Nat) + l2 * (2 : Nat) ≤ y2.length) (.need ((0 : Nat) + ((0 : Nat) + (l1, Cs.ints (List.take (l1 * Try.prog.types[(29 : Nat)].size) (List.drop (0 : Nat) y1)), [(0 : Nat) + l1 * Try.prog.types[(29 : Nat)].size ≤ y1.length]).fst) * (2 : Nat) ≤ (List.take (0 : Nat) (List.drop (0 : Nat) []) ++ List.take (l1 * (2 : Nat)) (List.drop (0 : Nat) y1)).length) (.fin (.slice (some ⟨5, 0, none⟩) (0 + (l1, Cs.ints (List.take (l1 * Try.prog.types[29].size) (List.drop 0 y1)), [0 + l1 * Try.prog.types[29].size ≤ y1.length]).fst + (l2, Cs.ints (List.take (l2 * Try.prog.types[29].size) (List.drop 0 y2)), [0 + l2 * Try.prog.types[29].size ≤ y2.length]).fst) (0 + (l1, Cs.ints (List.take (l1 * Try.prog.types[29].size) (List.drop 0 y1)), [0 + l1 * Try.prog.types[29].size ≤ y1.length]).fst + (l2, Cs.ints (List.take (l2 * Try.prog.types[29].size) (List.drop 0 y2)), [0 + l2 * Try.prog.types[29].size ≤ y2.length]).fst)) [some ⟨.view, .ints (y1)⟩, some ⟨.view, .ints (y2)⟩, some ⟨.view, .vals [.slice (some ⟨0, 0, none⟩) (l1) (l1), .slice (some ⟨1, 0, none⟩) (l2) (l2)]⟩, some deadB, some deadB, some ⟨.row 29 2, .ints (List.take ((0 + (l1, Cs.ints (List.take (l1 * Try.prog.types[29].size) (List.drop 0 y1)), [0 + l1 * Try.prog.types[29].size ≤ y1.length]).fst) * 2) (List.drop 0 (List.take 0 (List.drop 0 []) ++ List.take (l1 * 2) (List.drop 0 y1))) ++ List.take (l2 * 2) (List.drop 0 y2))⟩]))))))))))))) := by kernel_rfl
/-- A view of two slices, beside what they are of. -/
theorem two_open {w : World} {l1 l2 : Nat} {y1 y2 : List Int} {x1 x2 : Value} (h1 : DOk w (.row l1 (.ints y1)) x1) (h2 : DOk w (.row l2 (.ints y2)) x2) {g f : Nat} (hg : g < w.heap.size) (c1 : w.cell? ⟨g, f, none⟩ = some x1) (c2 : w.cell? ⟨g, f + 1, none⟩ = some x2) (B : Nat → Prop) :
    ∃ ρ : Nat → Option Pl, ρ 2 = some (g, f, none) ∧ MemOk (fun _ => none) ρ B (fun n => [some (⟨.view, .ints y1⟩ : Blk), some ⟨.view, .ints y2⟩, some ⟨.view, .vals [.slice (some ⟨0, 0, none⟩) l1 l1, .slice (some ⟨1, 0, none⟩) l2 l2]⟩].getD n none) w := by
  obtain ⟨ρ, ha, hm⟩ := args_open (w := w) (ds := [.row l1 (.ints y1), .row l2 (.ints y2)]) (args := #[x1, x2]) ⟨rfl, fun i d y hd hy => by
    match i, hd, hy with
    | 0, hd, hy =>
      obtain rfl : DArg.row l1 (.ints y1) = d := by simpa using hd
      obtain rfl : x1 = y := by simpa using hy
      exact h1
    | 1, hd, hy =>
      obtain rfl : DArg.row l2 (.ints y2) = d := by simpa using hd
      obtain rfl : x2 = y := by simpa using hy
      exact h2
    | i + 2, hd, hy => simp at hd⟩ B
  have hn : ρ 2 = none := hm.fresh 2 rfl
  have v0 : VR ρ (.slice (some ⟨0, 0, none⟩) l1 l1) x1 := ha.2 0 _ _ rfl rfl
  have v1 : VR ρ (.slice (some ⟨1, 0, none⟩) l2 l2) x2 := ha.2 1 _ _ rfl rfl
  have hext : Ext ρ (addPl ρ 2 (g, f, none)) := addPl_ext hn
  refine ⟨addPl ρ 2 (g, f, none), addPl_same _ _ _, fun n p hp => by simp at hp, fun n hn' => ?_, fun n b hb => ?_, fun n n' b b' p p' hb hown => ?_⟩
  · have h3 : 3 ≤ n := by
      rcases Nat.lt_or_ge n 3 with h | h
      · match n, h with
        | 0, _ => simp at hn'
        | 1, _ => simp at hn'
        | 2, _ => simp at hn'
      · exact h
    rw [addPl_ne (by omega)]
    refine hm.fresh n ?_
    match n, h3 with
    | n + 3, _ => rfl
  · match n, hb with
    | 0, hb =>
      obtain rfl : (⟨.view, .ints y1⟩ : Blk) = b := by simpa using hb
      exact (hm.ok 0 _ rfl).keep hext (Nat.le_refl _) fun _ _ _ _ => rfl
    | 1, hb =>
      obtain rfl : (⟨.view, .ints y2⟩ : Blk) = b := by simpa using hb
      exact (hm.ok 1 _ rfl).keep hext (Nat.le_refl _) fun _ _ _ _ => rfl
    | 2, hb =>
      obtain rfl : (⟨.view, .vals [.slice (some ⟨0, 0, none⟩) l1 l1, .slice (some ⟨1, 0, none⟩) l2 l2]⟩ : Blk) = b := by simpa using hb
      refine .inr ⟨g, f, none, addPl_same _ _ _, .inr rfl, hg, fun k v hk => ?_⟩
      match k, hk with
      | 0, hk =>
        obtain rfl : Value.slice (some ⟨0, 0, none⟩) l1 l1 = v := by simpa [Blk.cells, Cs.list] using hk
        exact ⟨x1, c1, v0.ext hext⟩
      | 1, hk =>
        obtain rfl : Value.slice (some ⟨1, 0, none⟩) l2 l2 = v := by simpa [Blk.cells, Cs.list] using hk
        exact ⟨x2, c2, v1.ext hext⟩
      | k + 2, hk => simp [Blk.cells, Cs.list] at hk
    | n + 3, hb => simp at hb
  · exfalso
    match n, hb with
    | 0, hb =>
      obtain rfl : (⟨.view, .ints y1⟩ : Blk) = b := by simpa using hb
      cases hown
    | 1, hb =>
      obtain rfl : (⟨.view, .ints y2⟩ : Blk) = b := by simpa using hb
      cases hown
    | 2, hb =>
      obtain rfl : (⟨.view, .vals [.slice (some ⟨0, 0, none⟩) l1 l1, .slice (some ⟨1, 0, none⟩) l2 l2]⟩ : Blk) = b := by simpa using hb
      cases hown
    | n + 3, hb => simp at hb
/-- A function of a row of two slices that answers with a fresh row. -/
theorem two_call {P : Program} (hm : P.follows .mixedOrders = true) {E : Env} (hE : EnvOk P E) {m n : Nat} {f : FuncId} {l1 l2 : Nat} {y1 y2 : List Int} {v : Value} {b : Blk} (hb : isRow b = true)
    (h : (bodyM P E (runM P E m n) m f [.slice (some ⟨2, 0, none⟩) 2 2] [some ⟨.view, .ints y1⟩, some ⟨.view, .ints y2⟩, some ⟨.view, .vals [.slice (some ⟨0, 0, none⟩) l1 l1, .slice (some ⟨1, 0, none⟩) l2 l2]⟩] .fin).ok (fun _ _ => False) (fun u mem => RowIs v b u mem))
    (w : World) {x1 x2 : Value} (h1 : DOk w (.row l1 (.ints y1)) x1) (h2 : DOk w (.row l2 (.ints y2)) x2) {g fo c : Nat} (hg : g < w.heap.size) (c1 : w.cell? ⟨g, fo, none⟩ = some x1) (c2 : w.cell? ⟨g, fo + 1, none⟩ = some x2) (hc : 2 ≤ c) :
    Calls P f #[.slice (some ⟨g, fo, none⟩) 2 c] w fun e w' => ∃ v' p, e = .returned v' ∧ Below w.heap.size w w' ∧ ∀ ρ name, ρ name = some p → VR ρ (atName name v) v' ∧ BlkOk ρ (fun k => k < w.heap.size) w' name b := by
  obtain ⟨u, mem', ⟨src, hrv, hsrc⟩, hent, hdet⟩ := bodyM_ok hE hm (runM_ok hm hE m n) m f _ _ _ _ _ h
  obtain ⟨kd, cs⟩ := b
  cases kd with
  | row e sz =>
    obtain ⟨ρ, hρ, hmem⟩ := two_open h1 h2 hg c1 c2 (fun k => k < w.heap.size)
    refine (hdet ⟨w, fun _ => none, fun k => k < w.heap.size, fun _ h => h, [], none⟩ ρ #[.slice (some ⟨g, fo, none⟩) 2 c] w ⟨rfl, fun i a x ha hx => ?_⟩ hmem (BelowK.refl _ _)).mono ?_
    · match i, ha, hx with
      | 0, ha, hx =>
        obtain rfl : Value.slice (some ⟨2, 0, none⟩) 2 2 = a := by simpa using ha
        obtain rfl : Value.slice (some ⟨g, fo, none⟩) 2 c = x := by simpa using hx
        exact .slice (o := 0) hρ (.inr rfl) hc (fun k hk => by simp at hk)
      | i + 1, ha, hx => simp at ha
    rintro e' w' ⟨v', ρ', rfl, _, g2, g3, g4⟩
    cases src with
    | none => exact ⟨v', (0, 1, some 0), rfl, g3.to, fun ρ2 name hp => ⟨rv_ok (ρ := ρ') (src := none) hp hrv g2, .inl ⟨_, hp, rfl, rfl⟩⟩⟩
    | some k =>
      simp only at hsrc
      split at hsrc
      rotate_left
      · exact hsrc.elim
      rename_i b' hb'
      obtain ⟨kd', cs'⟩ := b'
      cases kd' with
      | row e2 sz2 =>
        obtain ⟨rfl, rfl, hc⟩ := hsrc
        obtain ⟨d1, d2⟩ := rc_list hc
        rcases g4.ok k _ hb' with ⟨p, h1, h2, h3⟩ | ⟨g, cap, h1, h2, arr, h3, h4, h5⟩
        · exact ⟨v', p, rfl, g3.to, fun ρ2 name hp => ⟨rv_ok (ρ := ρ') (src := some k) (hp.trans h1.symm) hrv g2, .inl ⟨p, hp, h2, h3⟩⟩⟩
        · refine ⟨v', _, rfl, g3.to, fun ρ2 name hp => ⟨rv_ok (ρ := ρ') (src := some k) (hp.trans h1.symm) hrv g2, .inr ⟨g, cap, hp, h2, arr, h3, h4, ?_⟩⟩⟩
          intro i x hx
          obtain ⟨x', k1, k2⟩ := h5 i x (by show cs'.list[i]? = some x; rw [d1]; exact hx)
          refine ⟨x', k1, ?_⟩
          have hat := plain_of_atom (d2 x (List.mem_of_getElem? hx))
          rw [k2.plain hat]
          exact .lit hat
      | _ => exact hsrc.elim
  | _ => cases hb
abbrev catB (l1 l2 : Nat) (y1 y2 : List Int) : Blk := ⟨.row 29 2, .ints (y1.take (l1 * 2) ++ y2.take (l2 * 2))⟩
theorem cat_row {l1 l2 : Nat} {y1 y2 : List Int} (h1 : l1 * 2 ≤ y1.length) (h2 : l2 * 2 ≤ y2.length) (h0 : 0 < l1 + l2) (h3 : l1 + l2 ≤ 1000) : (bodyM Try.prog ECt (runM Try.prog ECt 30 12) 30 20 [.slice (some ⟨2, 0, none⟩) 2 2] [some ⟨.view, .ints y1⟩, some ⟨.view, .ints y2⟩, some ⟨.view, .vals [.slice (some ⟨0, 0, none⟩) l1 l1, .slice (some ⟨1, 0, none⟩) l2 l2]⟩] .fin).ok (fun _ _ => False) (fun u mem => RowIs (.slice (some ⟨0, 0, none⟩) (l1 + l2) (l1 + l2)) (catB l1 l2 y1 y2) u mem) := by
  rw [tr_cat]
  have e1 : IntKind.i64.wrap (0 + (l1 : Int)) = (l1 : Int) := by rw [wr (by omega)]; omega
  have e2 : IntKind.i64.wrap ((l1 : Int) + (l2 : Int)) = (l1 : Int) + l2 := wr (by omega)
  have e3 : IntKind.i64.wrap ((0 : Int) + 1) = 1 := by rw [wr (by omega)]; rfl
  have t1 : (y1.take (l1 * 2)).length = l1 * 2 := by rw [List.length_take]; omega
  simp only [e1, e2, e3, List.drop_zero, List.take_zero, List.nil_append, Nat.zero_add, List.take_take, Nat.min_self, t1]
  refine ⟨⟨by omega, by omega⟩, brT_ok.2 ⟨fun q => ?_, fun _ => ⟨⟨by omega, by omega⟩, brT_ok.2 ⟨fun q => ?_, fun _ => ⟨⟨by omega, by omega⟩, ⟨by omega, by omega⟩, ⟨by omega, by omega⟩, h1, by omega, ⟨by omega, by omega⟩, ⟨by omega, by omega⟩, h2, by omega, some 5, ⟨rfl, rfl, rfl⟩, rfl, rfl, rfl⟩⟩⟩⟩⟩
  · have := of_decide_eq_true q; omega
  · have := of_decide_eq_true q; omega
def rowI : DArg → Option (Nat × List Int)
  | .row l (.ints y) => some (l, y)
  | _ => none
theorem rowI_spec {d : DArg} {l : Nat} {y : List Int} (h : rowI d = some (l, y)) : d = .row l (.ints y) := by
  unfold rowI at h
  split at h
  · obtain ⟨rfl, rfl⟩ : _ ∧ _ := by simpa using h
    rfl
  · cases h
/-- Two slices of points, one behind the other. -/
def catG (name : Nat) (args : List Value) : Rd Eff := match args with
  | [.slice (some ⟨nb, 0, none⟩) 2 _] => .blk nb fun b => match b with
    | some ⟨.row _ 1, .vals [s1, s2]⟩ => (rdArg s1).bind fun d1 => (rdArg s2).bind fun d2 => (match rowI d1, rowI d2 with
      | some (l1, y1), some (l2, y2) => .ret ⟨.slice (some ⟨name, 0, none⟩) (l1 + l2) (l1 + l2), [(name, catB l1 l2 y1 y2)], [l1 * 2 ≤ y1.length, l2 * 2 ≤ y2.length, 0 < l1 + l2, l1 + l2 ≤ 1000]⟩
      | _, _ => .fail)
    | _ => .fail
  | _ => .fail
set_option maxRecDepth 100000 in
theorem catG_sound {J : TabJ} (hJ : GSound Try.prog J.g) : GSound Try.prog (consR 20 catG J).g := by
  intro h name args s eff hr hn
  simp only [consR] at hr
  split at hr
  rotate_left
  · exact hJ h name args s eff hr hn
  rename_i heq
  obtain rfl := Nat.eq_of_beq_eq_true heq
  refine ⟨(entersB_res (by kernel_rfl)).1, fun B ρ0 ρ w args' ha hm hB hcond => ?_⟩
  unfold catG at hr
  split at hr
  rotate_left
  · simp [Rd.run] at hr
  rename_i nb c
  simp only [Rd.run] at hr
  split at hr
  rotate_left
  · simp [Rd.run] at hr
  rename_i e s1 s2 hb
  obtain ⟨d1, hd1, hr1⟩ := bind_some hr
  obtain ⟨d2, hd2, hr2⟩ := bind_some hr1
  clear hr hr1
  split at hr2
  rotate_left
  · simp [Rd.run] at hr2
  rename_i l1 y1 l2 y2 r1 r2
  obtain rfl := rowI_spec r1
  obtain rfl := rowI_spec r2
  obtain rfl : (⟨.slice (some ⟨name, 0, none⟩) (l1 + l2) (l1 + l2), [(name, catB l1 l2 y1 y2)], [l1 * 2 ≤ y1.length, l2 * 2 ≤ y2.length, 0 < l1 + l2, l1 + l2 ≤ 1000]⟩ : Eff) = eff := by simpa [Rd.run] using hr2
  obtain ⟨k1, k2, k3, k4, _⟩ := hcond
  obtain ⟨hsz, hval⟩ := ha
  obtain ⟨x0, rfl⟩ : ∃ x0, args' = #[x0] := by
    have h2 : args'.size = 1 := by simpa using hsz.symm
    match args', h2 with
    | ⟨[x0]⟩, _ => exact ⟨x0, rfl⟩
  have v0 := hval 0 _ x0 rfl rfl
  rcases v0.slice_inv with ⟨g, f, cp, c', j1, jok, j2, j3, j4⟩ | ⟨hl0, _⟩ | ⟨hl0, _⟩
  rotate_left
  · omega
  · omega
  rcases hm.ok nb _ hb with ⟨p, q1, q2, q3⟩ | ⟨g2, cap, q1, q2, cs', q3, q4, q5⟩
  · rw [q1] at j1
    obtain rfl : p = (g, f, cp) := by simpa using j1
    exact absurd ⟨q2, 0, q3⟩ jok.not
  rw [q1] at j1
  obtain ⟨rfl, rfl, rfl⟩ : g2 = g ∧ 0 = f ∧ some cap = cp := by simpa using j1
  subst j2
  obtain ⟨x1, a1, a2⟩ := q5 0 s1 rfl
  obtain ⟨x2, b1, b2⟩ := q5 1 s2 rfl
  have hg : g2 < w.heap.size := (Array.getElem?_eq_some_iff.1 q3).1
  have cell : ∀ k x, cs'[k]? = some x → w.cell? ⟨g2, 0 + k, none⟩ = some x := fun k x hx => by
    simp only [World.cell?, Nat.zero_add, q3, Option.isSome_none, Bool.false_eq_true, if_false, hx]
  refine (two_call mixed ECt_ok rfl (cat_row k1 k2 k3 k4) w ((rdArg_ok hd1).2 a2 hm) ((rdArg_ok hd2).2 b2 hm) hg (cell 0 _ a1) (cell 1 _ b1) j3).mono ?_
  rintro e' w' ⟨v', p, rfl, hbel, hrow⟩
  obtain ⟨g1, g3⟩ := hrow (addPl ρ name p) name (addPl_same _ _ _)
  refine ⟨v', addPl ρ name p, rfl, addPl_ext (hm.fresh name hn), g1, BelowK.of hbel hB, ?_⟩
  rw [upd_one]
  exact hm.newRow hB hbel hn rfl g3
end Go.Proofs.Ytcplfampcbekoaa
namespace Go.Proofs.Ytcplfampcbekoaa
set_option linter.all false
open Go.RowKit
def RHu : TabR := fun f ds => match f, ds with
  | 18, [.row m (.ints xs)] => some (rowP (chn [] (ptsA m xs)), blkP (chn [] (ptsA m xs)), [m * 2 ≤ xs.length, allV (ptsA m xs) = true, m ≤ 1000])
  | 45, [.row m (.ints xs)] => some (rowP (chn [] (ptsA m xs)), blkP (chn [] (ptsA m xs)), [m * 2 ≤ xs.length, allV (ptsA m xs) = true, m ≤ 1000])
  | 46, [.row m (.ints xs)] => some (rowP (revP (ptsA m xs)), blkP (revP (ptsA m xs)), [m * 2 ≤ xs.length, m ≤ 100000])
  | f, ds => RSq f ds
theorem RHu_ok : TabROk Try.prog RHu := by
  intro f ds v b C h hC
  unfold RHu at h
  (try split at h)
  all_goals first
    | (obtain ⟨rfl, rfl, rfl⟩ : _ ∧ _ ∧ _ := by simpa using h
       obtain ⟨_, h2⟩ := ptsA_spec hC.1
       have h1 := resR_pts1 (pre := []) (post := []) hC.1 (resR_iCn hC.2.1 (by rw [h2]; exact hC.2.2.1))
       simp only [List.nil_append, List.append_nil] at h1
       with_reducible exact h1)
    | (obtain ⟨rfl, rfl, rfl⟩ : _ ∧ _ ∧ _ := by simpa using h
       obtain ⟨_, h2⟩ := ptsA_spec hC.1
       have h1 := resR_pts1 (pre := []) (post := []) hC.1 (resR_sCn hC.2.1 (by rw [h2]; exact hC.2.2.1))
       simp only [List.nil_append, List.append_nil] at h1
       with_reducible exact h1)
    | (obtain ⟨rfl, rfl, rfl⟩ : _ ∧ _ ∧ _ := by simpa using h
       obtain ⟨_, h2⟩ := ptsA_spec hC.1
       have h1 := resR_pts1 (pre := []) (post := []) hC.1 (resR_rvd (by rw [h2]; exact hC.2.1))
       simp only [List.nil_append, List.append_nil] at h1
       with_reducible exact h1)
    | exact RSq_ok _ _ _ _ _ h hC
def JRv : TabJ := consJ 19 (fun _ => wrG rvW) noJ
theorem JRv_ok : GSound Try.prog JRv.g := consJ_wr mixed (failG_sound Try.prog) (entersB_res (by kernel_rfl)).1 rvW_ok
def JHu : TabJ := consR 20 catG JRv
theorem JHu_ok : GSound Try.prog JHu.g := catG_sound JRv_ok
def EHu : Env := withT (mkE T3 RHu (fun _ => noL)) JHu
theorem EHu_ok : EnvOk Try.prog EHu := withT_ok (mkEOk T3_ok RHu_ok (fun _ _ _ => noL_good)) JHu_ok
def EHvs : Env := mkE T3 RHu (fun _ => noL)
theorem EHvs_ok : EnvOk Try.prog EHvs := mkEOk T3_ok RHu_ok (fun _ _ _ => noL_good)
set_option maxRecDepth 100000 in
theorem tr_sHu (ps : List Pt) : bodyX Try.prog EHvs 30 12 22 [.row ps.length (.ints (flat ps))] = .need (ps.length * (2 : Nat) ≤ (List.drop (0 : Nat) (flat ps)).length) (.need (ps.length ≤ (1000 : Nat)) (brT (decide ((↑(srtL (ptsA ps.length (List.drop 0 (flat ps)))).length : Int) < 3)) (.fin (.slice (some ⟨1, 0, none⟩) ((srtL (ptsA ps.length (List.drop 0 (flat ps)))).length) ((srtL (ptsA ps.length (List.drop 0 (flat ps)))).length)) [some ⟨.view, .ints (flat ps)⟩, some ⟨.row 29 2, .ints (flat (srtL (ptsA ps.length (List.drop 0 (flat ps)))))⟩]) (.need ((srtL (ptsA ps.length (List.drop (0 : Nat) (flat ps)))).length * (2 : Nat) ≤ (List.drop (0 : Nat) (flat (srtL (ptsA ps.length (List.drop (0 : Nat) (flat ps)))))).length) (.need (allV (ptsA (srtL (ptsA ps.length (List.drop (0 : Nat) (flat ps)))).length (List.drop (0 : Nat) (flat (srtL (ptsA ps.length (List.drop (0 : Nat) (flat ps))))))) = true) (.need ((srtL (ptsA ps.length (List.drop (0 : Nat) (flat ps)))).length ≤ (1000 : Nat)) (.need ((srtL (ptsA ps.length (List.drop (0 : Nat) (flat ps)))).length * (2 : Nat) ≤ (List.drop (0 : Nat) (flat (srtL (ptsA ps.length (List.drop (0 : Nat) (flat ps)))))).length) (.need ((srtL (ptsA ps.length (List.drop (0 : Nat) (flat ps)))).length ≤ (100000 : Nat)) (.need ((revP (ptsA (srtL (ptsA ps.length (List.drop (0 : Nat) (flat ps)))).length (List.drop (0 : Nat) (flat (srtL (ptsA ps.length (List.drop (0 : Nat) (flat ps)))))))).length * (2 : Nat) ≤ (List.drop (0 : Nat) (flat (revP (ptsA (srtL (ptsA ps.length (List.drop (0 : Nat) (flat ps)))).length (List.drop (0 : Nat) (flat (srtL (ptsA ps.length (List.drop (0 : Nat) (flat ps)))))))))).length) (.need (allV (ptsA (revP (ptsA (srtL (ptsA ps.length (List.drop (0 : Nat) (flat ps)))).length (List.drop (0 : Nat) (flat (srtL (ptsA ps.length (List.drop (0 : Nat) (flat ps)))))))).length (List.drop (0 : Nat) (flat (revP (ptsA (srtL (ptsA ps.length (List.drop (0 : Nat) (flat ps)))).length (List.drop (0 : Nat) (flat (srtL (ptsA ps.length (List.drop (0 : Nat) (flat ps))))))))))) = true) (.need ((revP (ptsA (srtL (ptsA ps.length (List.drop (0 : Nat) (flat ps)))).length (List.drop (0 : Nat) (flat (srtL (ptsA ps.length (List.drop (0 : Nat) (flat ps)))))))).length ≤ (1000 : Nat)) (.need ((0 : Int) ≤ bndI none (0 : Int) ∧ bndI none (0 : Int) ≤ bndI (some (IntKind.i64, IntKind.i64.wrap ((↑(chn [] (ptsA (srtL (ptsA ps.length (List.drop (0 : Nat) (flat ps)))).length (List.drop (0 : Nat) (flat (srtL (ptsA ps.length (List.drop (0 : Nat) (flat ps)))))))).length : Int) - (1 : Int)))) (↑(chn [] (ptsA (srtL (ptsA ps.length (List.drop (0 : Nat) (flat ps)))).length (List.drop (0 : Nat) (flat (srtL (ptsA ps.length (List.drop (0 : Nat) (flat ps)))))))).length : Int) ∧ bndI (some (IntKind.i64, IntKind.i64.wrap ((↑(chn [] (ptsA (srtL (ptsA ps.length (List.drop (0 : Nat) (flat ps)))).length (List.drop (0 : Nat) (flat (srtL (ptsA ps.length (List.drop (0 : Nat) (flat ps)))))))).length : Int) - (1 : Int)))) (↑(chn [] (ptsA (srtL (ptsA ps.length (List.drop (0 : Nat) (flat ps)))).length (List.drop (0 : Nat) (flat (srtL (ptsA ps.length (List.drop (0 : Nat) (flat ps)))))))).length : Int) ≤ (↑(chn [] (ptsA (srtL (ptsA ps.length (List.drop (0 : Nat) (flat ps)))).length (List.drop (0 : Nat) (flat (srtL (ptsA ps.length (List.drop (0 : Nat) (flat ps)))))))).length : Int)) (.need ((0 : Int) ≤ bndI none (0 : Int) ∧ bndI none (0 : Int) ≤ bndI (some (IntKind.i64, IntKind.i64.wrap ((↑(chn [] (ptsA (revP (ptsA (srtL (ptsA ps.length (List.drop (0 : Nat) (flat ps)))).length (List.drop (0 : Nat) (flat (srtL (ptsA ps.length (List.drop (0 : Nat) (flat ps)))))))).length (List.drop (0 : Nat) (flat (revP (ptsA (srtL (ptsA ps.length (List.drop (0 : Nat) (flat ps)))).length (List.drop (0 : Nat) (flat (srtL (ptsA ps.length (List.drop (0 : Nat) (flat ps)))))))))))).length : Int) - (1 : Int)))) (↑(chn [] (ptsA (revP (ptsA (srtL (ptsA ps.length (List.drop (0 : Nat) (flat ps)))).length (List.drop (0 : Nat) (flat (srtL (ptsA ps.length (List.drop (0 : Nat) (flat ps)))))))).length (List.drop (0 : Nat) (flat (revP (ptsA (srtL (ptsA ps.length (List.drop (0 : Nat) (flat ps)))).length (List.drop (0 : Nat) (flat (srtL (ptsA ps.length (List.drop (0 : Nat) (flat ps)))))))))))).length : Int) ∧ bndI (some (IntKind.i64, IntKind.i64.wrap ((↑(chn [] (ptsA (revP (ptsA (srtL (ptsA ps.length (List.drop (0 : Nat) (flat ps)))).length (List.drop (0 : Nat) (flat (srtL (ptsA ps.length (List.drop (0 : Nat) (flat ps)))))))).length (List.drop (0 : Nat) (flat (revP (ptsA (srtL (ptsA ps.length (List.drop (0 : Nat) (flat ps)))).length (List.drop (0 : Nat) (flat (srtL (ptsA ps.length (List.drop (0 : Nat) (flat ps)))))))))))).length : Int) - (1 : Int)))) (↑(chn [] (ptsA (revP (ptsA (srtL (ptsA ps.length (List.drop (0 : Nat) (flat ps)))).length (List.drop (0 : Nat) (flat (srtL (ptsA ps.length (List.drop (0 : Nat) (flat ps)))))))).length (List.drop (0 : Nat) (flat (revP (ptsA (srtL (ptsA ps.length (List.drop (0 : Nat) (flat ps)))).length (List.drop (0 : Nat) (flat (srtL (ptsA ps.length (List.drop (0 : Nat) (flat ps)))))))))))).length : Int) ≤ (↑(chn [] (ptsA (revP (ptsA (srtL (ptsA ps.length (List.drop (0 : Nat) (flat ps)))).length (List.drop (0 : Nat) (flat (srtL (ptsA ps.length (List.drop (0 : Nat) (flat ps)))))))).length (List.drop (0 : Nat) (flat (revP (ptsA (srtL (ptsA ps.length (List.drop (0 : Nat) (flat ps)))).length (List.drop (0 : Nat) (flat (srtL (ptsA ps.length (List.drop (0 : Nat) (flat ps)))))))))))).length : Int)) (.need (((bndI (some (IntKind.i64, IntKind.i64.wrap ((↑(chn [] (ptsA (srtL (ptsA ps.length (List.drop (0 : Nat) (flat ps)))).length (List.drop (0 : Nat) (flat (srtL (ptsA ps.length (List.drop (0 : Nat) (flat ps)))))))).length : Int) - (1 : Int)))) (↑(chn [] (ptsA (srtL (ptsA ps.length (List.drop (0 : Nat) (flat ps)))).length (List.drop (0 : Nat) (flat (srtL (ptsA ps.length (List.drop (0 : Nat) (flat ps)))))))).length : Int)).toNat - (0 : Nat) + ((bndI (some (IntKind.i64, IntKind.i64.wrap ((↑(chn [] (ptsA (revP (ptsA (srtL (ptsA ps.length (List.drop (0 : Nat) (flat ps)))).length (List.drop (0 : Nat) (flat (srtL (ptsA ps.length (List.drop (0 : Nat) (flat ps)))))))).length (List.drop (0 : Nat) (flat (revP (ptsA (srtL (ptsA ps.length (List.drop (0 : Nat) (flat ps)))).length (List.drop (0 : Nat) (flat (srtL (ptsA ps.length (List.drop (0 : Nat) (flat ps)))))))))))).length : Int) - (1 : Int)))) (↑(chn [] (ptsA (revP (ptsA (srtL (ptsA ps.length (List.drop (0 : Nat) (flat ps)))).length (List.drop (0 : Nat) (flat (srtL (ptsA ps.length (List.drop (0 : Nat) (flat ps)))))))).length (List.drop (0 : Nat) (flat (revP (ptsA (srtL (ptsA ps.length (List.drop (0 : Nat) (flat ps)))).length (List.drop (0 : Nat) (flat (srtL (ptsA ps.length (List.drop (0 : Nat) (flat ps)))))))))))).length : Int)).toNat - (bndI none (0 : Int)).toNat, Cs.ints (List.take (((bndI (some (IntKind.i64, IntKind.i64.wrap ((↑(chn [] (ptsA (revP (ptsA (srtL (ptsA ps.length (List.drop (0 : Nat) (flat ps)))).length (List.drop (0 : Nat) (flat (srtL (ptsA ps.length (List.drop (0 : Nat) (flat ps)))))))).length (List.drop (0 : Nat) (flat (revP (ptsA (srtL (ptsA ps.length (List.drop (0 : Nat) (flat ps)))).length (List.drop (0 : Nat) (flat (srtL (ptsA ps.length (List.drop (0 : Nat) (flat ps)))))))))))).length : Int) - (1 : Int)))) (↑(chn [] (ptsA (revP (ptsA (srtL (ptsA ps.length (List.drop (0 : Nat) (flat ps)))).length (List.drop (0 : Nat) (flat (srtL (ptsA ps.length (List.drop (0 : Nat) (flat ps)))))))).length (List.drop (0 : Nat) (flat (revP (ptsA (srtL (ptsA ps.length (List.drop (0 : Nat) (flat ps)))).length (List.drop (0 : Nat) (flat (srtL (ptsA ps.length (List.drop (0 : Nat) (flat ps)))))))))))).length : Int)).toNat - (bndI none (0 : Int)).toNat) * Try.prog.types[(29 : Nat)].size) (List.drop ((0 : Nat) + (bndI none (0 : Int)).toNat * Try.prog.types[(29 : Nat)].size) (flat (chn [] (ptsA (revP (ptsA (srtL (ptsA ps.length (List.drop (0 : Nat) (flat ps)))).length (List.drop (0 : Nat) (flat (srtL (ptsA ps.length (List.drop (0 : Nat) (flat ps)))))))).length (List.drop (0 : Nat) (flat (revP (ptsA (srtL (ptsA ps.length (List.drop (0 : Nat) (flat ps)))).length (List.drop (0 : Nat) (flat (srtL (ptsA ps.length (List.drop (0 : Nat) (flat ps))))))))))))))), [(0 : Nat) + (bndI none (0 : Int)).toNat * Try.prog.types[(29 : Nat)].size + ((bndI (some (IntKind.i64, IntKind.i64.wrap ((↑(chn [] (ptsA (revP (ptsA (srtL (ptsA ps.length (List.drop (0 : Nat) (flat ps)))).length (List.drop (0 : Nat) (flat (srtL (ptsA ps.length (List.drop (0 : Nat) (flat ps)))))))).length (List.drop (0 : Nat) (flat (revP (ptsA (srtL (ptsA ps.length (List.drop (0 : Nat) (flat ps)))).length (List.drop (0 : Nat) (flat (srtL (ptsA ps.length (List.drop (0 : Nat) (flat ps)))))))))))).length : Int) - (1 : Int)))) (↑(chn [] (ptsA (revP (ptsA (srtL (ptsA ps.length (List.drop (0 : Nat) (flat ps)))).length (List.drop (0 : Nat) (flat (srtL (ptsA ps.length (List.drop (0 : Nat) (flat ps)))))))).length (List.drop (0 : Nat) (flat (revP (ptsA (srtL (ptsA ps.length (List.drop (0 : Nat) (flat ps)))).length (List.drop (0 : Nat) (flat (srtL (ptsA ps.length (List.drop (0 : Nat) (flat ps)))))))))))).length : Int)).toNat - (bndI none (0 : Int)).toNat) * Try.prog.types[(29 : Nat)].size ≤ (flat (chn [] (ptsA (revP (ptsA (srtL (ptsA ps.length (List.drop (0 : Nat) (flat ps)))).length (List.drop (0 : Nat) (flat (srtL (ptsA ps.length (List.drop (0 : Nat) (flat ps)))))))).length (List.drop (0 : Nat) (flat (revP (ptsA (srtL (ptsA ps.length (List.drop (0 : Nat) (flat ps)))).length (List.drop (0 : Nat) (flat (srtL (ptsA ps.length (List.drop (0 : Nat) (flat ps))))))))))))).length]).fst) * (16 : Nat) ≤ (140737488355328 : Nat) ∧ (bndI (some (IntKind.i64, IntKind.i64.wrap ((↑(chn [] (ptsA (srtL (ptsA ps.length (List.drop (0 : Nat) (flat ps)))).length (List.drop (0 : Nat) (flat (srtL (ptsA ps.length (List.drop (0 : Nat) (flat ps)))))))).length : Int) - (1 : Int)))) (↑(chn [] (ptsA (srtL (ptsA ps.length (List.drop (0 : Nat) (flat ps)))).length (List.drop (0 : Nat) (flat (srtL (ptsA ps.length (List.drop (0 : Nat) (flat ps)))))))).length : Int)).toNat - (0 : Nat) + ((bndI (some (IntKind.i64, IntKind.i64.wrap ((↑(chn [] (ptsA (revP (ptsA (srtL (ptsA ps.length (List.drop (0 : Nat) (flat ps)))).length (List.drop (0 : Nat) (flat (srtL (ptsA ps.length (List.drop (0 : Nat) (flat ps)))))))).length (List.drop (0 : Nat) (flat (revP (ptsA (srtL (ptsA ps.length (List.drop (0 : Nat) (flat ps)))).length (List.drop (0 : Nat) (flat (srtL (ptsA ps.length (List.drop (0 : Nat) (flat ps)))))))))))).length : Int) - (1 : Int)))) (↑(chn [] (ptsA (revP (ptsA (srtL (ptsA ps.length (List.drop (0 : Nat) (flat ps)))).length (List.drop (0 : Nat) (flat (srtL (ptsA ps.length (List.drop (0 : Nat) (flat ps)))))))).length (List.drop (0 : Nat) (flat (revP (ptsA (srtL (ptsA ps.length (List.drop (0 : Nat) (flat ps)))).length (List.drop (0 : Nat) (flat (srtL (ptsA ps.length (List.drop (0 : Nat) (flat ps)))))))))))).length : Int)).toNat - (bndI none (0 : Int)).toNat, Cs.ints (List.take (((bndI (some (IntKind.i64, IntKind.i64.wrap ((↑(chn [] (ptsA (revP (ptsA (srtL (ptsA ps.length (List.drop (0 : Nat) (flat ps)))).length (List.drop (0 : Nat) (flat (srtL (ptsA ps.length (List.drop (0 : Nat) (flat ps)))))))).length (List.drop (0 : Nat) (flat (revP (ptsA (srtL (ptsA ps.length (List.drop (0 : Nat) (flat ps)))).length (List.drop (0 : Nat) (flat (srtL (ptsA ps.length (List.drop (0 : Nat) (flat ps)))))))))))).length : Int) - (1 : Int)))) (↑(chn [] (ptsA (revP (ptsA (srtL (ptsA ps.length (List.drop (0 : Nat) (flat ps)))).length (List.drop (0 : Nat) (flat (srtL (ptsA ps.length (List.drop (0 : Nat) (flat ps)))))))).length (List.drop (0 : Nat) (flat (revP (ptsA (srtL (ptsA ps.length (List.drop (0 : Nat) (flat ps)))).length (List.drop (0 : Nat) (flat (srtL (ptsA ps.length (List.drop (0 : Nat) (flat ps)))))))))))).length : Int)).toNat - (bndI none (0 : Int)).toNat) * Try.prog.types[(29 : Nat)].size) (List.drop ((0 : Nat) + (bndI none (0 : Int)).toNat * Try.prog.types[(29 : Nat)].size) (flat (chn [] (ptsA (revP (ptsA (srtL (ptsA ps.length (List.drop (0 : Nat) (flat ps)))).length (List.drop (0 : Nat) (flat (srtL (ptsA ps.length (List.drop (0 : Nat) (flat ps)))))))).length (List.drop (0 : Nat) (flat (revP (ptsA (srtL (ptsA ps.length (List.drop (0 : Nat) (flat ps)))).length (List.drop (0 : Nat) (flat (srtL (ptsA ps.length (List.drop (0 : Nat) (flat ps))))))))))))))), [(0 : Nat) + (bndI none (0 : Int)).toNat * Try.prog.types[(29 : Nat)].size + ((bndI (some (IntKind.i64, IntKind.i64.wrap ((↑(chn [] (ptsA (revP (ptsA (srtL (ptsA ps.length (List.drop (0 : Nat) (flat ps)))).length (List.drop (0 : Nat) (flat (srtL (ptsA ps.length (List.drop (0 : Nat) (flat ps)))))))).length (List.drop (0 : Nat) (flat (revP (ptsA (srtL (ptsA ps.length (List.drop (0 : Nat) (flat ps)))).length (List.drop (0 : Nat) (flat (srtL (ptsA ps.length (List.drop (0 : Nat) (flat ps)))))))))))).length : Int) - (1 : Int)))) (↑(chn [] (ptsA (revP (ptsA (srtL (ptsA ps.length (List.drop (0 : Nat) (flat ps)))).length (List.drop (0 : Nat) (flat (srtL (ptsA ps.length (List.drop (0 : Nat) (flat ps)))))))).length (List.drop (0 : Nat) (flat (revP (ptsA (srtL (ptsA ps.length (List.drop (0 : Nat) (flat ps)))).length (List.drop (0 : Nat) (flat (srtL (ptsA ps.length (List.drop (0 : Nat) (flat ps)))))))))))).length : Int)).toNat - (bndI none (0 : Int)).toNat) * Try.prog.types[(29 : Nat)].size ≤ (flat (chn [] (ptsA (revP (ptsA (srtL (ptsA ps.length (List.drop (0 : Nat) (flat ps)))).length (List.drop (0 : Nat) (flat (srtL (ptsA ps.length (List.drop (0 : Nat) (flat ps)))))))).length (List.drop (0 : Nat) (flat (revP (ptsA (srtL (ptsA ps.length (List.drop (0 : Nat) (flat ps)))).length (List.drop (0 : Nat) (flat (srtL (ptsA ps.length (List.drop (0 : Nat) (flat ps))))))))))))).length]).fst ≤ (1000000 : Nat)) (.need ((0 : Nat) + ((bndI (some (IntKind.i64, IntKind.i64.wrap ((↑(chn [] (ptsA (revP (ptsA (srtL (ptsA ps.length (List.drop (0 : Nat) (flat ps)))).length (List.drop (0 : Nat) (flat (srtL (ptsA ps.length (List.drop (0 : Nat) (flat ps)))))))).length (List.drop (0 : Nat) (flat (revP (ptsA (srtL (ptsA ps.length (List.drop (0 : Nat) (flat ps)))).length (List.drop (0 : Nat) (flat (srtL (ptsA ps.length (List.drop (0 : Nat) (flat ps)))))))))))).length : Int) - (1 : Int)))) (↑(chn [] (ptsA (revP (ptsA (srtL (ptsA ps.length (List.drop (0 : Nat) (flat ps)))).length (List.drop (0 : Nat) (flat (srtL (ptsA ps.length (List.drop (0 : Nat) (flat ps)))))))).length (List.drop (0 : Nat) (flat (revP (ptsA (srtL (ptsA ps.length (List.drop (0 : Nat) (flat ps)))).length (List.drop (0 : Nat) (flat (srtL (ptsA ps.length (List.drop (0 : Nat) (flat ps)))))))))))).length : Int)).toNat - (0 : Nat)) * (2 : Nat) ≤ (flat (chn [] (ptsA (revP (ptsA (srtL (ptsA ps.length (List.drop (0 : Nat) (flat ps)))).length (List.drop (0 : Nat) (flat (srtL (ptsA ps.length (List.drop (0 : Nat) (flat ps)))))))).length (List.drop (0 : Nat) (flat (revP (ptsA (srtL (ptsA ps.length (List.drop (0 : Nat) (flat ps)))).length (List.drop (0 : Nat) (flat (srtL (ptsA ps.length (List.drop (0 : Nat) (flat ps))))))))))))).length) (.need ((0 : Nat) + ((bndI (some (IntKind.i64, IntKind.i64.wrap ((↑(chn [] (ptsA (srtL (ptsA ps.length (List.drop (0 : Nat) (flat ps)))).length (List.drop (0 : Nat) (flat (srtL (ptsA ps.length (List.drop (0 : Nat) (flat ps)))))))).length : Int) - (1 : Int)))) (↑(chn [] (ptsA (srtL (ptsA ps.length (List.drop (0 : Nat) (flat ps)))).length (List.drop (0 : Nat) (flat (srtL (ptsA ps.length (List.drop (0 : Nat) (flat ps)))))))).length : Int)).toNat - (0 : Nat)) * (2 : Nat) ≤ (flat (chn [] (ptsA (srtL (ptsA ps.length (List.drop (0 : Nat) (flat ps)))).length (List.drop (0 : Nat) (flat (srtL (ptsA ps.length (List.drop (0 : Nat) (flat ps))))))))).length) (.fin (.slice (some ⟨5, 0, none⟩) ((bndI (some (IntKind.i64, IntKind.i64.wrap ((↑(chn [] (ptsA (srtL (ptsA ps.length (List.drop 0 (flat ps)))).length (List.drop 0 (flat (srtL (ptsA ps.length (List.drop 0 (flat ps)))))))).length : Int) - 1))) (↑(chn [] (ptsA (srtL (ptsA ps.length (List.drop 0 (flat ps)))).length (List.drop 0 (flat (srtL (ptsA ps.length (List.drop 0 (flat ps)))))))).length : Int)).toNat - 0 + ((bndI (some (IntKind.i64, IntKind.i64.wrap ((↑(chn [] (ptsA (revP (ptsA (srtL (ptsA ps.length (List.drop 0 (flat ps)))).length (List.drop 0 (flat (srtL (ptsA ps.length (List.drop 0 (flat ps)))))))).length (List.drop 0 (flat (revP (ptsA (srtL (ptsA ps.length (List.drop 0 (flat ps)))).length (List.drop 0 (flat (srtL (ptsA ps.length (List.drop 0 (flat ps)))))))))))).length : Int) - 1))) (↑(chn [] (ptsA (revP (ptsA (srtL (ptsA ps.length (List.drop 0 (flat ps)))).length (List.drop 0 (flat (srtL (ptsA ps.length (List.drop 0 (flat ps)))))))).length (List.drop 0 (flat (revP (ptsA (srtL (ptsA ps.length (List.drop 0 (flat ps)))).length (List.drop 0 (flat (srtL (ptsA ps.length (List.drop 0 (flat ps)))))))))))).length : Int)).toNat - (bndI none 0).toNat, Cs.ints (List.take (((bndI (some (IntKind.i64, IntKind.i64.wrap ((↑(chn [] (ptsA (revP (ptsA (srtL (ptsA ps.length (List.drop 0 (flat ps)))).length (List.drop 0 (flat (srtL (ptsA ps.length (List.drop 0 (flat ps)))))))).length (List.drop 0 (flat (revP (ptsA (srtL (ptsA ps.length (List.drop 0 (flat ps)))).length (List.drop 0 (flat (srtL (ptsA ps.length (List.drop 0 (flat ps)))))))))))).length : Int) - 1))) (↑(chn [] (ptsA (revP (ptsA (srtL (ptsA ps.length (List.drop 0 (flat ps)))).length (List.drop 0 (flat (srtL (ptsA ps.length (List.drop 0 (flat ps)))))))).length (List.drop 0 (flat (revP (ptsA (srtL (ptsA ps.length (List.drop 0 (flat ps)))).length (List.drop 0 (flat (srtL (ptsA ps.length (List.drop 0 (flat ps)))))))))))).length : Int)).toNat - (bndI none 0).toNat) * Try.prog.types[29].size) (List.drop (0 + (bndI none 0).toNat * Try.prog.types[29].size) (flat (chn [] (ptsA (revP (ptsA (srtL (ptsA ps.length (List.drop 0 (flat ps)))).length (List.drop 0 (flat (srtL (ptsA ps.length (List.drop 0 (flat ps)))))))).length (List.drop 0 (flat (revP (ptsA (srtL (ptsA ps.length (List.drop 0 (flat ps)))).length (List.drop 0 (flat (srtL (ptsA ps.length (List.drop 0 (flat ps))))))))))))))), [0 + (bndI none 0).toNat * Try.prog.types[29].size + ((bndI (some (IntKind.i64, IntKind.i64.wrap ((↑(chn [] (ptsA (revP (ptsA (srtL (ptsA ps.length (List.drop 0 (flat ps)))).length (List.drop 0 (flat (srtL (ptsA ps.length (List.drop 0 (flat ps)))))))).length (List.drop 0 (flat (revP (ptsA (srtL (ptsA ps.length (List.drop 0 (flat ps)))).length (List.drop 0 (flat (srtL (ptsA ps.length (List.drop 0 (flat ps)))))))))))).length : Int) - 1))) (↑(chn [] (ptsA (revP (ptsA (srtL (ptsA ps.length (List.drop 0 (flat ps)))).length (List.drop 0 (flat (srtL (ptsA ps.length (List.drop 0 (flat ps)))))))).length (List.drop 0 (flat (revP (ptsA (srtL (ptsA ps.length (List.drop 0 (flat ps)))).length (List.drop 0 (flat (srtL (ptsA ps.length (List.drop 0 (flat ps)))))))))))).length : Int)).toNat - (bndI none 0).toNat) * Try.prog.types[29].size ≤ (flat (chn [] (ptsA (revP (ptsA (srtL (ptsA ps.length (List.drop 0 (flat ps)))).length (List.drop 0 (flat (srtL (ptsA ps.length (List.drop 0 (flat ps)))))))).length (List.drop 0 (flat (revP (ptsA (srtL (ptsA ps.length (List.drop 0 (flat ps)))).length (List.drop 0 (flat (srtL (ptsA ps.length (List.drop 0 (flat ps))))))))))))).length]).fst) ((bndI (some (IntKind.i64, IntKind.i64.wrap ((↑(chn [] (ptsA (srtL (ptsA ps.length (List.drop 0 (flat ps)))).length (List.drop 0 (flat (srtL (ptsA ps.length (List.drop 0 (flat ps)))))))).length : Int) - 1))) (↑(chn [] (ptsA (srtL (ptsA ps.length (List.drop 0 (flat ps)))).length (List.drop 0 (flat (srtL (ptsA ps.length (List.drop 0 (flat ps)))))))).length : Int)).toNat - 0 + ((bndI (some (IntKind.i64, IntKind.i64.wrap ((↑(chn [] (ptsA (revP (ptsA (srtL (ptsA ps.length (List.drop 0 (flat ps)))).length (List.drop 0 (flat (srtL (ptsA ps.length (List.drop 0 (flat ps)))))))).length (List.drop 0 (flat (revP (ptsA (srtL (ptsA ps.length (List.drop 0 (flat ps)))).length (List.drop 0 (flat (srtL (ptsA ps.length (List.drop 0 (flat ps)))))))))))).length : Int) - 1))) (↑(chn [] (ptsA (revP (ptsA (srtL (ptsA ps.length (List.drop 0 (flat ps)))).length (List.drop 0 (flat (srtL (ptsA ps.length (List.drop 0 (flat ps)))))))).length (List.drop 0 (flat (revP (ptsA (srtL (ptsA ps.length (List.drop 0 (flat ps)))).length (List.drop 0 (flat (srtL (ptsA ps.length (List.drop 0 (flat ps)))))))))))).length : Int)).toNat - (bndI none 0).toNat, Cs.ints (List.take (((bndI (some (IntKind.i64, IntKind.i64.wrap ((↑(chn [] (ptsA (revP (ptsA (srtL (ptsA ps.length (List.drop 0 (flat ps)))).length (List.drop 0 (flat (srtL (ptsA ps.length (List.drop 0 (flat ps)))))))).length (List.drop 0 (flat (revP (ptsA (srtL (ptsA ps.length (List.drop 0 (flat ps)))).length (List.drop 0 (flat (srtL (ptsA ps.length (List.drop 0 (flat ps)))))))))))).length : Int) - 1))) (↑(chn [] (ptsA (revP (ptsA (srtL (ptsA ps.length (List.drop 0 (flat ps)))).length (List.drop 0 (flat (srtL (ptsA ps.length (List.drop 0 (flat ps)))))))).length (List.drop 0 (flat (revP (ptsA (srtL (ptsA ps.length (List.drop 0 (flat ps)))).length (List.drop 0 (flat (srtL (ptsA ps.length (List.drop 0 (flat ps)))))))))))).length : Int)).toNat - (bndI none 0).toNat) * Try.prog.types[29].size) (List.drop (0 + (bndI none 0).toNat * Try.prog.types[29].size) (flat (chn [] (ptsA (revP (ptsA (srtL (ptsA ps.length (List.drop 0 (flat ps)))).length (List.drop 0 (flat (srtL (ptsA ps.length (List.drop 0 (flat ps)))))))).length (List.drop 0 (flat (revP (ptsA (srtL (ptsA ps.length (List.drop 0 (flat ps)))).length (List.drop 0 (flat (srtL (ptsA ps.length (List.drop 0 (flat ps))))))))))))))), [0 + (bndI none 0).toNat * Try.prog.types[29].size + ((bndI (some (IntKind.i64, IntKind.i64.wrap ((↑(chn [] (ptsA (revP (ptsA (srtL (ptsA ps.length (List.drop 0 (flat ps)))).length (List.drop 0 (flat (srtL (ptsA ps.length (List.drop 0 (flat ps)))))))).length (List.drop 0 (flat (revP (ptsA (srtL (ptsA ps.length (List.drop 0 (flat ps)))).length (List.drop 0 (flat (srtL (ptsA ps.length (List.drop 0 (flat ps)))))))))))).length : Int) - 1))) (↑(chn [] (ptsA (revP (ptsA (srtL (ptsA ps.length (List.drop 0 (flat ps)))).length (List.drop 0 (flat (srtL (ptsA ps.length (List.drop 0 (flat ps)))))))).length (List.drop 0 (flat (revP (ptsA (srtL (ptsA ps.length (List.drop 0 (flat ps)))).length (List.drop 0 (flat (srtL (ptsA ps.length (List.drop 0 (flat ps)))))))))))).length : Int)).toNat - (bndI none 0).toNat) * Try.prog.types[29].size ≤ (flat (chn [] (ptsA (revP (ptsA (srtL (ptsA ps.length (List.drop 0 (flat ps)))).length (List.drop 0 (flat (srtL (ptsA ps.length (List.drop 0 (flat ps)))))))).length (List.drop 0 (flat (revP (ptsA (srtL (ptsA ps.length (List.drop 0 (flat ps)))).length (List.drop 0 (flat (srtL (ptsA ps.length (List.drop 0 (flat ps))))))))))))).length]).fst)) [some ⟨.view, .ints (flat ps)⟩, some ⟨.row 29 2, .ints (flat (srtL (ptsA ps.length (List.drop 0 (flat ps)))))⟩, some deadB, some ⟨.row 29 2, .ints (flat (revP (ptsA (srtL (ptsA ps.length (List.drop 0 (flat ps)))).length (List.drop 0 (flat (srtL (ptsA ps.length (List.drop 0 (flat ps)))))))))⟩, some ⟨.row 29 2, .ints (flat (chn [] (ptsA (revP (ptsA (srtL (ptsA ps.length (List.drop 0 (flat ps)))).length (List.drop 0 (flat (srtL (ptsA ps.length (List.drop 0 (flat ps)))))))).length (List.drop 0 (flat (revP (ptsA (srtL (ptsA ps.length (List.drop 0 (flat ps)))).length (List.drop 0 (flat (srtL (ptsA ps.length (List.drop 0 (flat ps)))))))))))))⟩, some ⟨.row 29 2, .ints (List.take (((bndI (some (IntKind.i64, IntKind.i64.wrap ((↑(chn [] (ptsA (srtL (ptsA ps.length (List.drop 0 (flat ps)))).length (List.drop 0 (flat (srtL (ptsA ps.length (List.drop 0 (flat ps)))))))).length : Int) - 1))) (↑(chn [] (ptsA (srtL (ptsA ps.length (List.drop 0 (flat ps)))).length (List.drop 0 (flat (srtL (ptsA ps.length (List.drop 0 (flat ps)))))))).length : Int)).toNat - 0) * 2) (List.drop 0 (flat (chn [] (ptsA (srtL (ptsA ps.length (List.drop 0 (flat ps)))).length (List.drop 0 (flat (srtL (ptsA ps.length (List.drop 0 (flat ps)))))))))) ++ List.take (((bndI (some (IntKind.i64, IntKind.i64.wrap ((↑(chn [] (ptsA (revP (ptsA (srtL (ptsA ps.length (List.drop 0 (flat ps)))).length (List.drop 0 (flat (srtL (ptsA ps.length (List.drop 0 (flat ps)))))))).length (List.drop 0 (flat (revP (ptsA (srtL (ptsA ps.length (List.drop 0 (flat ps)))).length (List.drop 0 (flat (srtL (ptsA ps.length (List.drop 0 (flat ps)))))))))))).length : Int) - 1))) (↑(chn [] (ptsA (revP (ptsA (srtL (ptsA ps.length (List.drop 0 (flat ps)))).length (List.drop 0 (flat (srtL (ptsA ps.length (List.drop 0 (flat ps)))))))).length (List.drop 0 (flat (revP (ptsA (srtL (ptsA ps.length (List.drop 0 (flat ps)))).length (List.drop 0 (flat (srtL (ptsA ps.length (List.drop 0 (flat ps)))))))))))).length : Int)).toNat - 0) * 2) (List.drop 0 (flat (chn [] (ptsA (revP (ptsA (srtL (ptsA ps.length (List.drop 0 (flat ps)))).length (List.drop 0 (flat (srtL (ptsA ps.length (List.drop 0 (flat ps)))))))).length (List.drop 0 (flat (revP (ptsA (srtL (ptsA ps.length (List.drop 0 (flat ps)))).length (List.drop 0 (flat (srtL (ptsA ps.length (List.drop 0 (flat ps)))))))))))))))⟩])))))))))))))))) := by kernel_rfl
set_option maxRecDepth 100000 in
theorem tr_iHu (ps : List Pt) : bodyX Try.prog EHu 30 12 6 [.row ps.length (.ints (flat ps))] = .need (ps.length * (2 : Nat) ≤ (List.drop (0 : Nat) (flat ps)).length) (.need (ps.length ≤ (1000000000 : Nat)) (brT (decide ((↑(spV (ptsA ps.length (List.drop 0 (flat ps)))).length : Int) < 2)) (.fin (.slice (some ⟨1, 0, none⟩) ((spV (ptsA ps.length (List.drop 0 (flat ps)))).length) ((spV (ptsA ps.length (List.drop 0 (flat ps)))).length)) [some ⟨.view, .ints (flat ps)⟩, some ⟨.row 29 2, .ints (flat (spV (ptsA ps.length (List.drop 0 (flat ps)))))⟩]) (.need ((spV (ptsA ps.length (List.drop (0 : Nat) (flat ps)))).length * (2 : Nat) ≤ (List.drop (0 : Nat) (flat (spV (ptsA ps.length (List.drop (0 : Nat) (flat ps)))))).length) (.need (allV (ptsA (spV (ptsA ps.length (List.drop (0 : Nat) (flat ps)))).length (List.drop (0 : Nat) (flat (spV (ptsA ps.length (List.drop (0 : Nat) (flat ps))))))) = true) (.need ((spV (ptsA ps.length (List.drop (0 : Nat) (flat ps)))).length ≤ (1000 : Nat)) (.need ((flat (spV (ptsA ps.length (List.drop (0 : Nat) (flat ps))))).length = (spV (ptsA ps.length (List.drop (0 : Nat) (flat ps)))).length * (2 : Nat)) (.need ((spV (ptsA ps.length (List.drop (0 : Nat) (flat ps)))).length ≤ (1000000000 : Nat)) (.need ((spV (ptsA ps.length (List.drop (0 : Nat) (flat ps)))).length * (2 : Nat) ≤ (List.drop (0 : Nat) (flat (revP (ptsA (spV (ptsA ps.length (List.drop (0 : Nat) (flat ps)))).length (flat (spV (ptsA ps.length (List.drop (0 : Nat) (flat ps))))))))).length) (.need (allV (ptsA (spV (ptsA ps.length (List.drop (0 : Nat) (flat ps)))).length (List.drop (0 : Nat) (flat (revP (ptsA (spV (ptsA ps.length (List.drop (0 : Nat) (flat ps)))).length (flat (spV (ptsA ps.length (List.drop (0 : Nat) (flat ps)))))))))) = true) (.need ((spV (ptsA ps.length (List.drop (0 : Nat) (flat ps)))).length ≤ (1000 : Nat)) (.need ((0 : Int) ≤ bndI none (0 : Int) ∧ bndI none (0 : Int) ≤ bndI (some (IntKind.i64, IntKind.i64.wrap ((↑(chn [] (ptsA (spV (ptsA ps.length (List.drop (0 : Nat) (flat ps)))).length (List.drop (0 : Nat) (flat (spV (ptsA ps.length (List.drop (0 : Nat) (flat ps)))))))).length : Int) - (1 : Int)))) (↑(chn [] (ptsA (spV (ptsA ps.length (List.drop (0 : Nat) (flat ps)))).length (List.drop (0 : Nat) (flat (spV (ptsA ps.length (List.drop (0 : Nat) (flat ps)))))))).length : Int) ∧ bndI (some (IntKind.i64, IntKind.i64.wrap ((↑(chn [] (ptsA (spV (ptsA ps.length (List.drop (0 : Nat) (flat ps)))).length (List.drop (0 : Nat) (flat (spV (ptsA ps.length (List.drop (0 : Nat) (flat ps)))))))).length : Int) - (1 : Int)))) (↑(chn [] (ptsA (spV (ptsA ps.length (List.drop (0 : Nat) (flat ps)))).length (List.drop (0 : Nat) (flat (spV (ptsA ps.length (List.drop (0 : Nat) (flat ps)))))))).length : Int) ≤ (↑(chn [] (ptsA (spV (ptsA ps.length (List.drop (0 : Nat) (flat ps)))).length (List.drop (0 : Nat) (flat (spV (ptsA ps.length (List.drop (0 : Nat) (flat ps)))))))).length : Int)) (.need ((0 : Int) ≤ bndI none (0 : Int) ∧ bndI none (0 : Int) ≤ bndI (some (IntKind.i64, IntKind.i64.wrap ((↑(chn [] (ptsA (spV (ptsA ps.length (List.drop (0 : Nat) (flat ps)))).length (List.drop (0 : Nat) (flat (revP (ptsA (spV (ptsA ps.length (List.drop (0 : Nat) (flat ps)))).length (flat (spV (ptsA ps.length (List.drop (0 : Nat) (flat ps))))))))))).length : Int) - (1 : Int)))) (↑(chn [] (ptsA (spV (ptsA ps.length (List.drop (0 : Nat) (flat ps)))).length (List.drop (0 : Nat) (flat (revP (ptsA (spV (ptsA ps.length (List.drop (0 : Nat) (flat ps)))).length (flat (spV (ptsA ps.length (List.drop (0 : Nat) (flat ps))))))))))).length : Int) ∧ bndI (some (IntKind.i64, IntKind.i64.wrap ((↑(chn [] (ptsA (spV (ptsA ps.length (List.drop (0 : Nat) (flat ps)))).length (List.drop (0 : Nat) (flat (revP (ptsA (spV (ptsA ps.length (List.drop (0 : Nat) (flat ps)))).length (flat (spV (ptsA ps.length (List.drop (0 : Nat) (flat ps))))))))))).length : Int) - (1 : Int)))) (↑(chn [] (ptsA (spV (ptsA ps.length (List.drop (0 : Nat) (flat ps)))).length (List.drop (0 : Nat) (flat (revP (ptsA (spV (ptsA ps.length (List.drop (0 : Nat) (flat ps)))).length (flat (spV (ptsA ps.length (List.drop (0 : Nat) (flat ps))))))))))).length : Int) ≤ (↑(chn [] (ptsA (spV (ptsA ps.length (List.drop (0 : Nat) (flat ps)))).length (List.drop (0 : Nat) (flat (revP (ptsA (spV (ptsA ps.length (List.drop (0 : Nat) (flat ps)))).length (flat (spV (ptsA ps.length (List.drop (0 : Nat) (flat ps))))))))))).length : Int)) (.need (((bndI (some (IntKind.i64, IntKind.i64.wrap ((↑(chn [] (ptsA (spV (ptsA ps.length (List.drop (0 : Nat) (flat ps)))).length (List.drop (0 : Nat) (flat (spV (ptsA ps.length (List.drop (0 : Nat) (flat ps)))))))).length : Int) - (1 : Int)))) (↑(chn [] (ptsA (spV (ptsA ps.length (List.drop (0 : Nat) (flat ps)))).length (List.drop (0 : Nat) (flat (spV (ptsA ps.length (List.drop (0 : Nat) (flat ps)))))))).length : Int)).toNat - (0 : Nat)) * (2 : Nat) ≤ (List.drop (0 : Nat) (flat (chn [] (ptsA (spV (ptsA ps.length (List.drop (0 : Nat) (flat ps)))).length (List.drop (0 : Nat) (flat (spV (ptsA ps.length (List.drop (0 : Nat) (flat ps)))))))))).length) (.need (((bndI (some (IntKind.i64, IntKind.i64.wrap ((↑(chn [] (ptsA (spV (ptsA ps.length (List.drop (0 : Nat) (flat ps)))).length (List.drop (0 : Nat) (flat (revP (ptsA (spV (ptsA ps.length (List.drop (0 : Nat) (flat ps)))).length (flat (spV (ptsA ps.length (List.drop (0 : Nat) (flat ps))))))))))).length : Int) - (1 : Int)))) (↑(chn [] (ptsA (spV (ptsA ps.length (List.drop (0 : Nat) (flat ps)))).length (List.drop (0 : Nat) (flat (revP (ptsA (spV (ptsA ps.length (List.drop (0 : Nat) (flat ps)))).length (flat (spV (ptsA ps.length (List.drop (0 : Nat) (flat ps))))))))))).length : Int)).toNat - (0 : Nat)) * (2 : Nat) ≤ (List.drop (0 : Nat) (flat (chn [] (ptsA (spV (ptsA ps.length (List.drop (0 : Nat) (flat ps)))).length (List.drop (0 : Nat) (flat (revP (ptsA (spV (ptsA ps.length (List.drop (0 : Nat) (flat ps)))).length (flat (spV (ptsA ps.length (List.drop (0 : Nat) (flat ps))))))))))))).length) (.need ((0 : Nat) < (bndI (some (IntKind.i64, IntKind.i64.wrap ((↑(chn [] (ptsA (spV (ptsA ps.length (List.drop (0 : Nat) (flat ps)))).length (List.drop (0 : Nat) (flat (spV (ptsA ps.length (List.drop (0 : Nat) (flat ps)))))))).length : Int) - (1 : Int)))) (↑(chn [] (ptsA (spV (ptsA ps.length (List.drop (0 : Nat) (flat ps)))).length (List.drop (0 : Nat) (flat (spV (ptsA ps.length (List.drop (0 : Nat) (flat ps)))))))).length : Int)).toNat - (0 : Nat) + ((bndI (some (IntKind.i64, IntKind.i64.wrap ((↑(chn [] (ptsA (spV (ptsA ps.length (List.drop (0 : Nat) (flat ps)))).length (List.drop (0 : Nat) (flat (revP (ptsA (spV (ptsA ps.length (List.drop (0 : Nat) (flat ps)))).length (flat (spV (ptsA ps.length (List.drop (0 : Nat) (flat ps))))))))))).length : Int) - (1 : Int)))) (↑(chn [] (ptsA (spV (ptsA ps.length (List.drop (0 : Nat) (flat ps)))).length (List.drop (0 : Nat) (flat (revP (ptsA (spV (ptsA ps.length (List.drop (0 : Nat) (flat ps)))).length (flat (spV (ptsA ps.length (List.drop (0 : Nat) (flat ps))))))))))).length : Int)).toNat - (0 : Nat))) (.need ((bndI (some (IntKind.i64, IntKind.i64.wrap ((↑(chn [] (ptsA (spV (ptsA ps.length (List.drop (0 : Nat) (flat ps)))).length (List.drop (0 : Nat) (flat (spV (ptsA ps.length (List.drop (0 : Nat) (flat ps)))))))).length : Int) - (1 : Int)))) (↑(chn [] (ptsA (spV (ptsA ps.length (List.drop (0 : Nat) (flat ps)))).length (List.drop (0 : Nat) (flat (spV (ptsA ps.length (List.drop (0 : Nat) (flat ps)))))))).length : Int)).toNat - (0 : Nat) + ((bndI (some (IntKind.i64, IntKind.i64.wrap ((↑(chn [] (ptsA (spV (ptsA ps.length (List.drop (0 : Nat) (flat ps)))).length (List.drop (0 : Nat) (flat (revP (ptsA (spV (ptsA ps.length (List.drop (0 : Nat) (flat ps)))).length (flat (spV (ptsA ps.length (List.drop (0 : Nat) (flat ps))))))))))).length : Int) - (1 : Int)))) (↑(chn [] (ptsA (spV (ptsA ps.length (List.drop (0 : Nat) (flat ps)))).length (List.drop (0 : Nat) (flat (revP (ptsA (spV (ptsA ps.length (List.drop (0 : Nat) (flat ps)))).length (flat (spV (ptsA ps.length (List.drop (0 : Nat) (flat ps))))))))))).length : Int)).toNat - (0 : Nat)) ≤ (1000 : Nat)) (.fin (.slice (some ⟨5, 0, none⟩) ((bndI (some (IntKind.i64, IntKind.i64.wrap ((↑(chn [] (ptsA (spV (ptsA ps.length (List.drop 0 (flat ps)))).length (List.drop 0 (flat (spV (ptsA ps.length (List.drop 0 (flat ps)))))))).length : Int) - 1))) (↑(chn [] (ptsA (spV (ptsA ps.length (List.drop 0 (flat ps)))).length (List.drop 0 (flat (spV (ptsA ps.length (List.drop 0 (flat ps)))))))).length : Int)).toNat - 0 + ((bndI (some (IntKind.i64, IntKind.i64.wrap ((↑(chn [] (ptsA (spV (ptsA ps.length (List.drop 0 (flat ps)))).length (List.drop 0 (flat (revP (ptsA (spV (ptsA ps.length (List.drop 0 (flat ps)))).length (flat (spV (ptsA ps.length (List.drop 0 (flat ps))))))))))).length : Int) - 1))) (↑(chn [] (ptsA (spV (ptsA ps.length (List.drop 0 (flat ps)))).length (List.drop 0 (flat (revP (ptsA (spV (ptsA ps.length (List.drop 0 (flat ps)))).length (flat (spV (ptsA ps.length (List.drop 0 (flat ps))))))))))).length : Int)).toNat - 0)) ((bndI (some (IntKind.i64, IntKind.i64.wrap ((↑(chn [] (ptsA (spV (ptsA ps.length (List.drop 0 (flat ps)))).length (List.drop 0 (flat (spV (ptsA ps.length (List.drop 0 (flat ps)))))))).length : Int) - 1))) (↑(chn [] (ptsA (spV (ptsA ps.length (List.drop 0 (flat ps)))).length (List.drop 0 (flat (spV (ptsA ps.length (List.drop 0 (flat ps)))))))).length : Int)).toNat - 0 + ((bndI (some (IntKind.i64, IntKind.i64.wrap ((↑(chn [] (ptsA (spV (ptsA ps.length (List.drop 0 (flat ps)))).length (List.drop 0 (flat (revP (ptsA (spV (ptsA ps.length (List.drop 0 (flat ps)))).length (flat (spV (ptsA ps.length (List.drop 0 (flat ps))))))))))).length : Int) - 1))) (↑(chn [] (ptsA (spV (ptsA ps.length (List.drop 0 (flat ps)))).length (List.drop 0 (flat (revP (ptsA (spV (ptsA ps.length (List.drop 0 (flat ps)))).length (flat (spV (ptsA ps.length (List.drop 0 (flat ps))))))))))).length : Int)).toNat - 0))) [some ⟨.view, .ints (flat ps)⟩, some ⟨.row 29 2, .ints (flat (revP (ptsA (spV (ptsA ps.length (List.drop 0 (flat ps)))).length (flat (spV (ptsA ps.length (List.drop 0 (flat ps))))))))⟩, some ⟨.row 29 2, .ints (flat (chn [] (ptsA (spV (ptsA ps.length (List.drop 0 (flat ps)))).length (List.drop 0 (flat (spV (ptsA ps.length (List.drop 0 (flat ps)))))))))⟩, some ⟨.row 29 2, .ints (flat (chn [] (ptsA (spV (ptsA ps.length (List.drop 0 (flat ps)))).length (List.drop 0 (flat (revP (ptsA (spV (ptsA ps.length (List.drop 0 (flat ps)))).length (flat (spV (ptsA ps.length (List.drop 0 (flat ps))))))))))))⟩, some ⟨.row 23 1, .vals [.slice (some ⟨2, 0, none⟩) ((bndI (some (IntKind.i64, IntKind.i64.wrap ((↑(chn [] (ptsA (spV (ptsA ps.length (List.drop 0 (flat ps)))).length (List.drop 0 (flat (spV (ptsA ps.length (List.drop 0 (flat ps)))))))).length : Int) - 1))) (↑(chn [] (ptsA (spV (ptsA ps.length (List.drop 0 (flat ps)))).length (List.drop 0 (flat (spV (ptsA ps.length (List.drop 0 (flat ps)))))))).length : Int)).toNat - 0) ((bndI (some (IntKind.i64, IntKind.i64.wrap ((↑(chn [] (ptsA (spV (ptsA ps.length (List.drop 0 (flat ps)))).length (List.drop 0 (flat (spV (ptsA ps.length (List.drop 0 (flat ps)))))))).length : Int) - 1))) (↑(chn [] (ptsA (spV (ptsA ps.length (List.drop 0 (flat ps)))).length (List.drop 0 (flat (spV (ptsA ps.length (List.drop 0 (flat ps)))))))).length : Int)).toNat - 0), .slice (some ⟨3, 0, none⟩) ((bndI (some (IntKind.i64, IntKind.i64.wrap ((↑(chn [] (ptsA (spV (ptsA ps.length (List.drop 0 (flat ps)))).length (List.drop 0 (flat (revP (ptsA (spV (ptsA ps.length (List.drop 0 (flat ps)))).length (flat (spV (ptsA ps.length (List.drop 0 (flat ps))))))))))).length : Int) - 1))) (↑(chn [] (ptsA (spV (ptsA ps.length (List.drop 0 (flat ps)))).length (List.drop 0 (flat (revP (ptsA (spV (ptsA ps.length (List.drop 0 (flat ps)))).length (flat (spV (ptsA ps.length (List.drop 0 (flat ps))))))))))).length : Int)).toNat - 0) ((bndI (some (IntKind.i64, IntKind.i64.wrap ((↑(chn [] (ptsA (spV (ptsA ps.length (List.drop 0 (flat ps)))).length (List.drop 0 (flat (revP (ptsA (spV (ptsA ps.length (List.drop 0 (flat ps)))).length (flat (spV (ptsA ps.length (List.drop 0 (flat ps))))))))))).length : Int) - 1))) (↑(chn [] (ptsA (spV (ptsA ps.length (List.drop 0 (flat ps)))).length (List.drop 0 (flat (revP (ptsA (spV (ptsA ps.length (List.drop 0 (flat ps)))).length (flat (spV (ptsA ps.length (List.drop 0 (flat ps))))))))))).length : Int)).toNat - 0)]⟩, some ⟨.row 29 2, .ints (List.take (((bndI (some (IntKind.i64, IntKind.i64.wrap ((↑(chn [] (ptsA (spV (ptsA ps.length (List.drop 0 (flat ps)))).length (List.drop 0 (flat (spV (ptsA ps.length (List.drop 0 (flat ps)))))))).length : Int) - 1))) (↑(chn [] (ptsA (spV (ptsA ps.length (List.drop 0 (flat ps)))).length (List.drop 0 (flat (spV (ptsA ps.length (List.drop 0 (flat ps)))))))).length : Int)).toNat - 0) * 2) (List.drop 0 (flat (chn [] (ptsA (spV (ptsA ps.length (List.drop 0 (flat ps)))).length (List.drop 0 (flat (spV (ptsA ps.length (List.drop 0 (flat ps)))))))))) ++ List.take (((bndI (some (IntKind.i64, IntKind.i64.wrap ((↑(chn [] (ptsA (spV (ptsA ps.length (List.drop 0 (flat ps)))).length (List.drop 0 (flat (revP (ptsA (spV (ptsA ps.length (List.drop 0 (flat ps)))).length (flat (spV (ptsA ps.length (List.drop 0 (flat ps))))))))))).length : Int) - 1))) (↑(chn [] (ptsA (spV (ptsA ps.length (List.drop 0 (flat ps)))).length (List.drop 0 (flat (revP (ptsA (spV (ptsA ps.length (List.drop 0 (flat ps)))).length (flat (spV (ptsA ps.length (List.drop 0 (flat ps))))))))))).length : Int)).toNat - 0) * 2) (List.drop 0 (flat (chn [] (ptsA (spV (ptsA ps.length (List.drop 0 (flat ps)))).length (List.drop 0 (flat (revP (ptsA (spV (ptsA ps.length (List.drop 0 (flat ps)))).length (flat (spV (ptsA ps.length (List.drop 0 (flat ps))))))))))))))⟩]))))))))))))))))) := by kernel_rfl
theorem allV_srt {ps : List Pt} (h : allV ps = true) : allV (srtL ps) = true := List.all_eq_true.2 fun z hz => List.all_eq_true.1 h z ((srtL_mem ps z).1 hz)
theorem srtL_le (ps : List Pt) : (srtL ps).length ≤ ps.length := by
  have := srtO_le ps []
  simpa [srtL] using this
theorem resR_sHu {ps : List Pt} (hv : allV ps = true) (h : ps.length ≤ 1000) : ResR Try.prog 22 [.row ps.length (.ints (flat ps))] (rowP (hulL (srtL ps))) (blkP (hulL (srtL ps))) := by
  refine bodyX_resR mixed EHvs_ok (m := 30) (n := 12) rfl ?_
  rw [tr_sHu]
  have hs := allV_srt hv
  have hle := srtL_le ps
  simp only [List.drop_zero, ptsA_flat, flat_length, bnd_some, bnd_none, Int.toNat_zero, Nat.sub_zero, Nat.zero_mul, Nat.zero_add, Nat.add_zero]
  generalize srtL ps = s at *
  have c1 := chn_len s []
  have c2 := chn_len (revP s) []
  have r1 := revP_len s
  simp only [List.length_nil, Nat.zero_add] at c1 c2
  refine ⟨by omega, by omega, brT_ok.2 ⟨fun q => ?_, fun q => ?_⟩⟩
  · have q := of_decide_eq_true q
    have e : hulL s = s := by unfold hulL; rw [if_pos (by omega)]
    rw [e]
    exact ⟨some 1, ⟨rfl, rfl, rfl⟩, rfl, rfl, rfl⟩
  · have q := of_decide_eq_false q
    have p1 := chn_pos (ps := s) (st := []) (.inr (by omega))
    have p2 := chn_pos (ps := revP s) (st := []) (.inr (by omega))
    have hr := allV_rev hs
    have e : hulL s = (chn [] s).take ((chn [] s).length - 1) ++ (chn [] (revP s)).take ((chn [] (revP s)).length - 1) := by unfold hulL; rw [if_neg (by omega)]
    rw [e]
    have hr2 := r1
    generalize revP s = t at *
    generalize chn [] s = u at *
    generalize chn [] t = v at *
    have w1 : IntKind.i64.wrap ((u.length : Int) - 1) = ((u.length - 1 : Nat) : Int) := by rw [wr (by omega)]; omega
    have w2 : IntKind.i64.wrap ((v.length : Int) - 1) = ((v.length - 1 : Nat) : Int) := by rw [wr (by omega)]; omega
    simp only [w1, w2, Int.toNat_natCast]
    simp only [flat_take, ← flat_append]
    have hl : (u.take (u.length - 1) ++ v.take (v.length - 1)).length = u.length - 1 + (v.length - 1) := by simp
    refine ⟨by omega, hs, by omega, by omega, by omega, by omega, hr, by omega, ⟨by omega, by omega, by omega⟩, ⟨by omega, by omega, by omega⟩, ⟨by omega, by omega⟩, by omega, by omega, some 5, ⟨rfl, rfl, hl.symm⟩, rfl, rfl, rfl⟩
def hulV (ps : List Pt) : List Pt := hulL (spV ps)
theorem spV_all (ps : List Pt) : allV (spV ps) = true := by
  unfold spV
  rcases h : okL ps with _ | _
  · rfl
  · exact allV_srt (okL_20 h).1
theorem resR_iHu (ps : List Pt) (h : Big ps) : ResR Try.prog 6 [.row ps.length (.ints (flat ps))] (rowP (hulV ps)) (blkP (hulV ps)) := by
  refine bodyX_resR mixed EHu_ok (m := 30) (n := 12) rfl ?_
  rw [tr_iHu]
  unfold Big at h
  unfold hulV
  have hs := spV_all ps
  have hle := spV_len ps
  simp only [List.drop_zero, ptsA_flat, flat_length, bnd_some, bnd_none, Int.toNat_zero, Nat.sub_zero, Nat.zero_mul, Nat.zero_add, Nat.add_zero]
  generalize spV ps = s at *
  have c1 := chn_len s []
  have c2 := chn_len (revP s) []
  have r1 := revP_len s
  have er : ptsA s.length (flat (revP s)) = revP s := by rw [← r1, ptsA_flat]
  simp only [List.length_nil, Nat.zero_add] at c1 c2
  simp only [er]
  refine ⟨by omega, by omega, brT_ok.2 ⟨fun q => ?_, fun q => ?_⟩⟩
  · have q := of_decide_eq_true q
    have e : hulL s = s := by unfold hulL; rw [if_pos (by omega)]
    rw [e]
    exact ⟨some 1, ⟨rfl, rfl, rfl⟩, rfl, rfl, rfl⟩
  · have q := of_decide_eq_false q
    have p1 := chn_pos (ps := s) (st := []) (.inr (by omega))
    have p2 := chn_pos (ps := revP s) (st := []) (.inr (by omega))
    have hr := allV_rev hs
    have e : hulL s = (chn [] s).take ((chn [] s).length - 1) ++ (chn [] (revP s)).take ((chn [] (revP s)).length - 1) := by
      unfold hulL
      split
      · exact (hul_two (by omega)).symm
      · rfl
    have hpos : 0 < (chn [] s).length - 1 + ((chn [] (revP s)).length - 1) := by
      have := chn_ge (s := s) (by omega)
      omega
    rw [e]
    generalize revP s = t at *
    generalize chn [] s = u at *
    generalize chn [] t = v at *
    have w1 : IntKind.i64.wrap ((u.length : Int) - 1) = ((u.length - 1 : Nat) : Int) := by rw [wr (by omega)]; omega
    have w2 : IntKind.i64.wrap ((v.length : Int) - 1) = ((v.length - 1 : Nat) : Int) := by rw [wr (by omega)]; omega
    simp only [w1, w2, Int.toNat_natCast]
    simp only [flat_take, ← flat_append]
    have hl : (u.take (u.length - 1) ++ v.take (v.length - 1)).length = u.length - 1 + (v.length - 1) := by simp
    refine ⟨by omega, hs, by omega, trivial, by omega, by omega, hr, by omega, ⟨by omega, by omega, by omega⟩, ⟨by omega, by omega, by omega⟩, by omega, by omega, hpos, by omega, some 5, ⟨rfl, rfl, hl.symm⟩, rfl, rfl, rfl⟩
def RHv : TabR := fun f ds => match f, ds with
  | 22, [.row m (.ints xs)] => some (rowP (hulL (srtL (ptsA m xs))), blkP (hulL (srtL (ptsA m xs))), [m * 2 ≤ xs.length, allV (ptsA m xs) = true, m ≤ 1000])
  | 6, [.row m (.ints xs)] => some (rowP (hulV (ptsA m xs)), blkP (hulV (ptsA m xs)), [m * 2 ≤ xs.length, m ≤ 1000000000])
  | f, ds => RSq f ds
theorem RHv_ok : TabROk Try.prog RHv := by
  intro f ds v b C h hC
  unfold RHv at h
  (try split at h)
  all_goals first
    | (obtain ⟨rfl, rfl, rfl⟩ : _ ∧ _ ∧ _ := by simpa using h
       obtain ⟨_, h2⟩ := ptsA_spec hC.1
       have h1 := resR_pts1 (pre := []) (post := []) hC.1 (resR_sHu hC.2.1 (by rw [h2]; exact hC.2.2.1))
       simp only [List.nil_append, List.append_nil] at h1
       with_reducible exact h1)
    | (obtain ⟨rfl, rfl, rfl⟩ : _ ∧ _ ∧ _ := by simpa using h
       obtain ⟨_, h2⟩ := ptsA_spec hC.1
       have h1 := resR_pts1 (pre := []) (post := []) hC.1 (resR_iHu _ (by unfold Big; rw [h2]; exact hC.2.1))
       simp only [List.nil_append, List.append_nil] at h1
       with_reducible exact h1)
    | exact RSq_ok _ _ _ _ _ h hC
def EHv : Env := mkE TMh RHv (fun _ => noL)
theorem EHv_ok : EnvOk Try.prog EHv := mkEOk TMh_ok RHv_ok (fun _ _ _ => noL_good)
set_option maxRecDepth 100000 in
theorem tr_sHv (ps : List Pt) : bodyX Try.prog EHv 30 12 8 [.row ps.length (.ints (flat ps))] = .need (ps.length * (2 : Nat) ≤ (List.drop (0 : Nat) (flat ps)).length) (.need (ps.length ≤ (1000000000 : Nat)) (brT (!okL (ptsA ps.length (List.drop 0 (flat ps)))) (.fin (.slice none (0) (0)) [some ⟨.view, .ints (flat ps)⟩]) (.need (ps.length * (2 : Nat) ≤ (List.drop (0 : Nat) (flat ps)).length) (.need (allV (ptsA ps.length (List.drop (0 : Nat) (flat ps))) = true) (.need (ps.length ≤ (1000 : Nat)) (.fin (.slice (some ⟨1, 0, none⟩) ((hulL (srtL (ptsA ps.length (List.drop 0 (flat ps))))).length) ((hulL (srtL (ptsA ps.length (List.drop 0 (flat ps))))).length)) [some ⟨.view, .ints (flat ps)⟩, some ⟨.row 29 2, .ints (flat (hulL (srtL (ptsA ps.length (List.drop 0 (flat ps))))))⟩])))))) := by kernel_rfl
theorem hulV_no {ps : List Pt} (h : okL ps = false) : hulV ps = [] := by
  unfold hulV spV
  rw [h]
  rfl
theorem hulV_yes {ps : List Pt} (h : okL ps = true) : hulV ps = hulL (srtL ps) := by
  unfold hulV spV
  rw [h]
  rfl
theorem resR_sHv (ps : List Pt) (h : Big ps) : ResR Try.prog 8 [.row ps.length (.ints (flat ps))] (rowP (hulV ps)) (blkP (hulV ps)) := by
  refine bodyX_resR mixed EHv_ok (m := 30) (n := 12) rfl ?_
  rw [tr_sHv]
  unfold Big at h
  simp only [List.drop_zero, ptsA_flat, flat_length]
  rcases ho : okL ps with _ | _
  · rw [hulV_no ho]
    simp only [Bool.not_false, brT_t, Tree.ok]
    exact ⟨by omega, h, none, ⟨rfl, rfl⟩, trivial⟩
  · obtain ⟨h1, h2⟩ := okL_20 ho
    rw [hulV_yes ho]
    simp only [Bool.not_true, brT_f, Tree.ok]
    exact ⟨by omega, h, by omega, h1, by omega, some 1, ⟨rfl, rfl, rfl⟩, rfl, rfl, rfl⟩
def RHw : TabR := fun f ds => match f, ds with
  | 8, [.row m (.ints xs)] => some (rowP (hulV (ptsA m xs)), blkP (hulV (ptsA m xs)), [m * 2 ≤ xs.length, m ≤ 1000000000])
  | f, ds => RHv f ds
theorem RHw_ok : TabROk Try.prog RHw := by
  intro f ds v b C h hC
  unfold RHw at h
  (try split at h)
  all_goals first
    | (obtain ⟨rfl, rfl, rfl⟩ : _ ∧ _ ∧ _ := by simpa using h
       obtain ⟨_, h2⟩ := ptsA_spec hC.1
       have h1 := resR_pts1 (pre := []) (post := []) hC.1 (resR_sHv _ (by unfold Big; rw [h2]; exact hC.2.1))
       simp only [List.nil_append, List.append_nil] at h1
       with_reducible exact h1)
    | exact RHv_ok _ _ _ _ _ h hC
theorem hulV_len (ps : List Pt) : (hulV ps).length ≤ 40 := hulL_len (spV_len ps)
end Go.Proofs.Ytcplfampcbekoaa
namespace Go.Proofs.Ytcplfampcbekoaa
set_option linter.all false
open Go.RowKit
/-- A vector that leads on in the order of points. -/
def posV (u : Pt) : Prop := 0 < u.1 ∨ u.1 = 0 ∧ 0 < u.2
def cr2 (u v : Pt) : Int := u.1 * v.2 - u.2 * v.1
def dif (b a : Pt) : Pt := (b.1 - a.1, b.2 - a.2)
theorem cr_tr {u v w : Pt} (hu : posV u) (hv : posV v) (hw : posV w) (h1 : 0 ≤ cr2 u v) (h2 : 0 ≤ cr2 v w) : 0 ≤ cr2 u w ∧ (0 < cr2 u v ∨ 0 < cr2 v w → 0 < cr2 u w) := by
  obtain ⟨a, b⟩ := u
  obtain ⟨c, d⟩ := v
  obtain ⟨e, f⟩ := w
  unfold posV cr2 at *
  simp only at *
  rcases hv with hc | ⟨rfl, hd⟩
  · have ha : 0 < a := by
      rcases hu with h | ⟨rfl, hb⟩
      · exact h
      · have := Int.mul_pos hb hc
        omega
    rcases hw with he | ⟨rfl, hf⟩
    · have id : c * (a * f - b * e) = a * (c * f - d * e) + e * (a * d - b * c) := by grind
      have n1 := Int.mul_nonneg (Int.le_of_lt ha) h2
      have n2 := Int.mul_nonneg (Int.le_of_lt he) h1
      generalize a * f - b * e = X at *
      refine ⟨?_, fun h => ?_⟩
      · rcases Int.lt_or_le X 0 with h | h
        · have := Int.mul_neg_of_pos_of_neg hc h
          omega
        · exact h
      · rcases Int.lt_or_le 0 X with h' | h'
        · exact h'
        · have := Int.mul_nonpos_of_nonneg_of_nonpos (Int.le_of_lt hc) h'
          rcases h with h | h
          · have := Int.mul_pos he h
            omega
          · have := Int.mul_pos ha h
            omega
    · have := Int.mul_pos ha hf
      omega
  · have he : e = 0 ∧ 0 < f := by
      rcases hw with h | h
      · have := Int.mul_pos hd h
        omega
      · exact h
    obtain ⟨rfl, hf⟩ := he
    have ha : 0 ≤ a := by omega
    have n1 := Int.mul_nonneg ha (Int.le_of_lt hf)
    refine ⟨by omega, fun h => ?_⟩
    have : 0 < a := by
      rcases Int.lt_or_le 0 a with h' | h'
      · exact h'
      · obtain rfl : a = 0 := by omega
        omega
    have := Int.mul_pos this hf
    omega
theorem plt_pos {a b : Pt} : pltB a b = true ↔ posV (dif b a) := by
  rw [pltB_iff]
  unfold posV dif
  simp only
  omega
theorem oP_tri (a b : Pt) : a = b ∨ pltB a b = true ∨ pltB b a = true := by
  obtain ⟨a1, a2⟩ := a
  obtain ⟨b1, b2⟩ := b
  simp only [pltB_iff, Prod.mk.injEq]
  omega
theorem oP_trans {a b c : Pt} (h1 : pltB a b = true) (h2 : pltB b c = true) : pltB a c = true := by
  rw [pltB_iff] at *
  omega
theorem oP_irr {a : Pt} (h : pltB a a = true) : False := by
  rw [pltB_iff] at h
  omega
theorem oP_asym {a b : Pt} (h1 : pltB a b = true) (h2 : pltB b a = true) : False := oP_irr (oP_trans h1 h2)
theorem crP_bb (a b : Pt) : crP a b b = 0 := by unfold crP crossI; grind
theorem crP_ba (a b : Pt) : crP a b a = 0 := by unfold crP crossI; grind
theorem ch_tr1 {a b p q : Pt} (h1 : pltB a b = true) (h2 : pltB a p = true) (h3 : pltB a q = true) (h4 : 0 ≤ crP a b q) (h5 : crP a b p ≤ 0) : 0 ≤ crP a p q := by
  have := cr_tr (plt_pos.1 h2) (plt_pos.1 h1) (plt_pos.1 h3) (by unfold cr2 dif; unfold crP crossI at h5; simp only; grind) h4
  exact this.1
theorem ch_tr2 {a b p q : Pt} (h1 : pltB q b = true) (h2 : pltB a b = true) (h3 : pltB b p = true) (h4 : 0 ≤ crP a b q) (h5 : 0 ≤ crP a b p) : 0 ≤ crP b p q := by
  have := cr_tr (plt_pos.1 h1) (plt_pos.1 h2) (plt_pos.1 h3) (by unfold cr2 dif; unfold crP crossI at h4; simp only; grind) (by unfold cr2 dif; unfold crP crossI at h5; simp only; grind)
  have h := this.1
  unfold cr2 dif at h
  unfold crP crossI
  simp only at h
  grind
theorem ch_tr3 {a' a b p : Pt} (h1 : pltB a' a = true) (h2 : pltB a b = true) (h3 : pltB b p = true) (h4 : 0 < crP a' a b) (h5 : 0 < crP a b p) : 0 < crP a' a p := by
  have k4 : 0 < cr2 (dif a a') (dif b a) := by unfold cr2 dif; unfold crP crossI at h4; simp only; grind
  have k5 : 0 < cr2 (dif b a) (dif p b) := by unfold cr2 dif; unfold crP crossI at h5; simp only; grind
  have := (cr_tr (plt_pos.1 h1) (plt_pos.1 h2) (plt_pos.1 h3) (Int.le_of_lt k4) (Int.le_of_lt k5)).2 (.inl k4)
  have e : crP a' a p = cr2 (dif a a') (dif b a) + cr2 (dif a a') (dif p b) := by unfold crP crossI cr2 dif; simp only; grind
  omega
/-- A point put on a stack, whose top is its head. -/
def pushR : List Pt → Pt → List Pt
  | b :: a :: r, p => if crP a b p ≤ 0 then pushR (a :: r) p else p :: b :: a :: r
  | [b], p => [p, b]
  | [], p => [p]
theorem take_rev {st : List Pt} {j : Nat} (h : j < st.length) : (st.take (j + 1)).reverse = st.getD j (0, 0) :: (st.take j).reverse := by
  rw [← List.take_append_getElem h]
  simp [h]
theorem pushP_aux (st : List Pt) (p : Pt) : ∀ j, j ≤ st.length → (st.take (popN st p j) ++ [p]).reverse = pushR (st.take j).reverse p
  | 0, _ => by simp [popN, pushR]
  | 1, h => by
    match st, h with
    | x :: t, _ => simp [popN, pushR]
  | j + 2, h => by
    have ih := pushP_aux st p (j + 1) (by omega)
    rw [take_rev (j := j + 1) (by omega)]
    rw [take_rev (j := j) (by omega)] at ih ⊢
    simp only [popN, pushR]
    split
    · exact ih
    · rw [List.reverse_append, take_rev (j := j + 1) (by omega), take_rev (j := j) (by omega)]
      rfl
theorem pushP_rev (st : List Pt) (p : Pt) : (pushP st p).reverse = pushR st.reverse p := by
  have := pushP_aux st p st.length (Nat.le_refl _)
  rw [List.take_length] at this
  exact this
/-- The stack of a chain, its top first. -/
def chnR (R ps : List Pt) : List Pt := ps.foldl pushR R
theorem chn_rev : ∀ (ps st : List Pt), (chn st ps).reverse = chnR st.reverse ps
  | [], _ => rfl
  | p :: r, st => by
    have := chn_rev r (pushP st p)
    rw [pushP_rev] at this
    exact this
def Dsc (R : List Pt) : Prop := R.Pairwise fun a b => pltB b a = true
def Cvx : List Pt → Prop
  | c :: b :: a :: r => 0 < crP a b c ∧ Cvx (b :: a :: r)
  | _ => True
def Lft (S : Pt → Prop) : List Pt → Prop
  | b :: a :: r => (∀ q, S q → 0 ≤ crP a b q) ∧ Lft S (a :: r)
  | _ => True
def Bot (S : Pt → Prop) (R : List Pt) : Prop := ∃ m, R.getLast? = some m ∧ ∀ q, S q → q = m ∨ pltB m q = true
def Top (S : Pt → Prop) (R : List Pt) : Prop := ∃ m, R.head? = some m ∧ ∀ q, S q → q = m ∨ pltB q m = true
/-- The chain of a set of points. -/
structure ChI (S : Pt → Prop) (R : List Pt) : Prop where
  mem : ∀ z ∈ R, S z
  dsc : Dsc R
  cvx : Cvx R
  lft : Lft S R
  bot : Bot S R
  top : Top S R
theorem Cvx.tail {b : Pt} {R : List Pt} (h : Cvx (b :: R)) : Cvx R := by
  match R, h with
  | [], _ => trivial
  | [_], _ => trivial
  | _ :: _ :: _, h => exact h.2
theorem Lft.tail {S : Pt → Prop} {b : Pt} {R : List Pt} (h : Lft S (b :: R)) : Lft S R := by
  match R, h with
  | [], _ => trivial
  | _ :: _, h => exact h.2
theorem Dsc.tail {b : Pt} {R : List Pt} (h : Dsc (b :: R)) : Dsc R := (List.pairwise_cons.1 h).2
theorem Dsc.lt {b a : Pt} {R : List Pt} (h : Dsc (b :: R)) (ha : a ∈ R) : pltB a b = true := (List.pairwise_cons.1 h).1 a ha
def adS (S : Pt → Prop) (p : Pt) : Pt → Prop := fun q => S q ∨ q = p
/-- What turns left stays left of a further point. -/
theorem lft_add {S : Pt → Prop} {p : Pt} : ∀ {r : List Pt} {b a : Pt}, Dsc (b :: a :: r) → Cvx (b :: a :: r) → Lft S (b :: a :: r) → pltB b p = true → 0 < crP a b p → Lft (adS S p) (b :: a :: r)
  | [], b, a, hd, hc, hl, hp, h => ⟨fun q hq => by
      rcases hq with hq | rfl
      · exact hl.1 q hq
      · exact Int.le_of_lt h, trivial⟩
  | a' :: r, b, a, hd, hc, hl, hp, h => by
    have h1 : pltB a b = true := hd.lt (by simp)
    have h2 : pltB a' a = true := hd.tail.lt (by simp)
    refine ⟨fun q hq => ?_, lft_add hd.tail hc.tail hl.2 (oP_trans h1 hp) (ch_tr3 h2 h1 hp hc.1 h)⟩
    rcases hq with hq | rfl
    · exact hl.1 q hq
    · exact Int.le_of_lt h
/-- A further point put on the stack. -/
theorem push_ok {S : Pt → Prop} {p : Pt} : ∀ {r : List Pt} {b : Pt}, (∀ z ∈ b :: r, S z) → Dsc (b :: r) → Cvx (b :: r) → Lft S (b :: r) → Bot S (b :: r) → (∀ q, S q → pltB q p = true) → (∀ q, S q → pltB b q = true → 0 ≤ crP b p q) → ChI (adS S p) (pushR (b :: r) p)
  | [], b, hm, hd, hc, hl, hb, hp, hK => by
    obtain ⟨m, h1, h2⟩ := hb
    obtain rfl : b = m := by simpa using h1
    have hbp := hp b (hm b (by simp))
    refine ⟨fun z hz => ?_, ?_, trivial, ⟨fun q hq => ?_, trivial⟩, ⟨b, rfl, fun q hq => ?_⟩, ⟨p, rfl, fun q hq => ?_⟩⟩
    · have hz : z = p ∨ z = b := by simpa [pushR] using hz
      rcases hz with rfl | rfl
      · exact .inr rfl
      · exact .inl (hm _ (by simp))
    · show List.Pairwise _ [p, b]
      simpa using hbp
    · rcases hq with hq | rfl
      · rcases h2 q hq with rfl | h
        · rw [crP_ba]; exact Int.le_refl _
        · exact hK q hq h
      · rw [crP_bb]; exact Int.le_refl _
    · rcases hq with hq | rfl
      · exact h2 q hq
      · exact .inr hbp
    · rcases hq with hq | rfl
      · exact .inr (hp q hq)
      · exact .inl rfl
  | a :: r, b, hm, hd, hc, hl, hb, hp, hK => by
    have hab : pltB a b = true := hd.lt (by simp)
    have hap := hp a (hm a (by simp))
    have hbp := hp b (hm b (by simp))
    have hb' : Bot S (a :: r) := by
      obtain ⟨m, h1, h2⟩ := hb
      exact ⟨m, by rw [List.getLast?_cons_cons] at h1; exact h1, h2⟩
    unfold pushR
    split
    · rename_i hle
      exact push_ok (fun z hz => hm z (List.mem_cons_of_mem _ hz)) hd.tail hc.tail hl.2 hb' hp fun q hq h => ch_tr1 hab hap h (hl.1 q hq) hle
    · rename_i hgt
      have hgt : 0 < crP a b p := by omega
      refine ⟨fun z hz => ?_, ?_, ⟨hgt, hc⟩, ⟨fun q hq => ?_, lft_add hd hc hl hbp hgt⟩, ?_, ⟨p, rfl, fun q hq => ?_⟩⟩
      · rcases List.mem_cons.1 hz with rfl | hz
        · exact .inr rfl
        · exact .inl (hm _ hz)
      · exact List.pairwise_cons.2 ⟨fun z hz => hp z (hm z hz), hd⟩
      · rcases hq with hq | rfl
        · rcases oP_tri b q with rfl | h | h
          · rw [crP_ba]; exact Int.le_refl _
          · exact hK q hq h
          · exact ch_tr2 h hab hbp (hl.1 q hq) (Int.le_of_lt hgt)
        · rw [crP_bb]; exact Int.le_refl _
      · obtain ⟨m, h1, h2⟩ := hb
        refine ⟨m, by rw [List.getLast?_cons_cons]; exact h1, fun q hq => ?_⟩
        rcases hq with hq | rfl
        · exact h2 q hq
        · have hm' : m ∈ b :: a :: r := List.mem_of_getLast? h1
          exact .inr (hp m (hm m hm'))
      · rcases hq with hq | rfl
        · exact .inr (hp q hq)
        · exact .inl rfl
theorem ChI.ext {S T : Pt → Prop} {R : List Pt} (h : ChI S R) (e : ∀ q, S q ↔ T q) : ChI T R := by
  have : S = T := funext fun q => propext (e q)
  rw [← this]
  exact h
theorem chnR_ok : ∀ {ps : List Pt} {S : Pt → Prop} {R : List Pt}, ChI S R → Asc ps → (∀ q, S q → ∀ p ∈ ps, pltB q p = true) → ChI (fun q => S q ∨ q ∈ ps) (chnR R ps)
  | [], S, R, h, _, _ => h.ext fun q => by simp
  | p :: r, S, R, h, ha, hS => by
    have ha' := List.pairwise_cons.1 ha
    have hp : ChI (adS S p) (pushR R p) := by
      match R, h with
      | [], h => obtain ⟨m, h1, _⟩ := h.top; cases h1
      | b :: t, h =>
        refine push_ok h.mem h.dsc h.cvx h.lft h.bot (fun q hq => hS q hq p (by simp)) fun q hq hbq => ?_
        obtain ⟨m, h1, h2⟩ := h.top
        obtain rfl : b = m := by simpa using h1
        rcases h2 q hq with rfl | h3
        · exact (oP_irr hbq).elim
        · exact (oP_asym hbq h3).elim
    have := chnR_ok hp ha'.2 fun q hq z hz => by
      rcases hq with hq | rfl
      · exact hS q hq z (List.mem_cons_of_mem _ hz)
      · exact ha'.1 z hz
    refine this.ext fun q => ?_
    unfold adS
    simp only [List.mem_cons]
    constructor
    · rintro ((h | h) | h)
      · exact .inl h
      · exact .inr (.inl h)
      · exact .inr (.inr h)
    · rintro (h | h | h)
      · exact .inl (.inl h)
      · exact .inl (.inr h)
      · exact .inr h
/-- The chain of points in order. -/
theorem chain_ok {ps : List Pt} (h : Asc ps) (h0 : ps ≠ []) : ChI (fun q => q ∈ ps) (chnR [] ps) := by
  match ps, h, h0 with
  | p :: r, h, _ =>
    have ha' := List.pairwise_cons.1 h
    have h1 : ChI (fun q => q = p) [p] := ⟨fun z hz => by simpa using hz, by unfold Dsc; simp, trivial, trivial, ⟨p, rfl, fun q hq => .inl hq⟩, ⟨p, rfl, fun q hq => .inl hq⟩⟩
    have := chnR_ok h1 ha'.2 fun q hq z hz => by rw [show q = p from hq]; exact ha'.1 z hz
    exact this.ext fun q => by simp
/-- The last of a chain, the least of all. -/
theorem ChI.tail {S : Pt → Prop} {b a : Pt} {R : List Pt} (h : ChI S (b :: a :: R)) : (∀ z ∈ a :: R, S z) ∧ Dsc (a :: R) ∧ Cvx (a :: R) ∧ Lft S (a :: R) ∧ Bot S (a :: R) := by
  refine ⟨fun z hz => h.mem z (List.mem_cons_of_mem _ hz), h.dsc.tail, h.cvx.tail, h.lft.tail, ?_⟩
  obtain ⟨m, h1, h2⟩ := h.bot
  exact ⟨m, by rw [List.getLast?_cons_cons] at h1; exact h1, h2⟩
/-- Two chains with the same top: the next is the same. -/
theorem next_le {S : Pt → Prop} {b a a' : Pt} {r' : List Pt} (ha : S a) (hd : pltB a b = true) (hl : ∀ q, S q → 0 ≤ crP a b q) (hm' : ∀ z ∈ b :: a' :: r', S z) (hd' : Dsc (b :: a' :: r')) (hc' : Cvx (b :: a' :: r')) (hl' : Lft S (b :: a' :: r')) (hb' : Bot S (b :: a' :: r')) : ¬ pltB a a' = true := by
  intro hlt
  have hab' : pltB a' b = true := hd'.lt (by simp)
  have k1 := hl a' (hm' a' (by simp))
  have k2 := hl'.1 a ha
  have e1 : crP a b a' = cr2 (dif b a') (dif a' a) := by unfold crP crossI cr2 dif; simp only; grind
  have e2 : crP a' b a = -cr2 (dif b a') (dif a' a) := by unfold crP crossI cr2 dif; simp only; grind
  match r', hm', hd', hc', hl', hb' with
  | [], hm', hd', hc', hl', hb' =>
    obtain ⟨m, h1, h2⟩ := hb'
    obtain rfl : a' = m := by simpa using h1
    rcases h2 a ha with rfl | h
    · exact oP_irr hlt
    · exact oP_asym hlt h
  | c :: t, hm', hd', hc', hl', hb' =>
    have hca : pltB c a' = true := hd'.tail.lt (by simp)
    have k3 := hc'.1
    have k4 := hl'.2.1 a ha
    have e3 : crP c a' b = cr2 (dif a' c) (dif b a') := by unfold crP crossI cr2 dif; simp only; grind
    have e4 : crP c a' a = cr2 (dif a' a) (dif a' c) := by unfold crP crossI cr2 dif; simp only; grind
    have := (cr_tr (plt_pos.1 hlt) (plt_pos.1 hca) (plt_pos.1 hab') (by omega) (by omega)).2 (.inr (by omega))
    have e5 : cr2 (dif b a') (dif a' a) = -cr2 (dif a' a) (dif b a') := by unfold cr2 dif; simp only; grind
    omega
theorem chain_eq {S : Pt → Prop} : ∀ {r r' : List Pt} {b : Pt}, (∀ z ∈ b :: r, S z) → Dsc (b :: r) → Cvx (b :: r) → Lft S (b :: r) → Bot S (b :: r) → (∀ z ∈ b :: r', S z) → Dsc (b :: r') → Cvx (b :: r') → Lft S (b :: r') → Bot S (b :: r') → r = r'
  | [], [], _, _, _, _, _, _, _, _, _, _, _ => rfl
  | [], a' :: r', b, hm, hd, hc, hl, hb, hm', hd', hc', hl', hb' => by
    obtain ⟨m, h1, h2⟩ := hb
    obtain rfl : b = m := by simpa using h1
    have h3 : pltB a' b = true := hd'.lt (by simp)
    rcases h2 a' (hm' a' (by simp)) with rfl | h
    · exact (oP_irr h3).elim
    · exact (oP_asym h3 h).elim
  | a :: r, [], b, hm, hd, hc, hl, hb, hm', hd', hc', hl', hb' => by
    obtain ⟨m, h1, h2⟩ := hb'
    obtain rfl : b = m := by simpa using h1
    have h3 : pltB a b = true := hd.lt (by simp)
    rcases h2 a (hm a (by simp)) with rfl | h
    · exact (oP_irr h3).elim
    · exact (oP_asym h3 h).elim
  | a :: r, a' :: r', b, hm, hd, hc, hl, hb, hm', hd', hc', hl', hb' => by
    have h1 := next_le (hm a (by simp)) (hd.lt (by simp)) hl.1 hm' hd' hc' hl' hb'
    have h2 := next_le (hm' a' (by simp)) (hd'.lt (by simp)) hl'.1 hm hd hc hl hb
    have e : a = a' := by
      rcases oP_tri a a' with h | h | h
      · exact h
      · exact absurd h h1
      · exact absurd h h2
    subst e
    have bt : ∀ {t : List Pt}, Bot S (b :: a :: t) → Bot S (a :: t) := fun {t} h => by
      obtain ⟨m, q1, q2⟩ := h
      exact ⟨m, by rw [List.getLast?_cons_cons] at q1; exact q1, q2⟩
    rw [chain_eq (fun z hz => hm z (List.mem_cons_of_mem _ hz)) hd.tail hc.tail hl.2 (bt hb) (fun z hz => hm' z (List.mem_cons_of_mem _ hz)) hd'.tail hc'.tail hl'.2 (bt hb')]
/-- A chain of a set is the only one. -/
theorem ChI.uniq {S : Pt → Prop} {R R' : List Pt} (h : ChI S R) (h' : ChI S R') : R = R' := by
  obtain ⟨m, h1, h2⟩ := h.top
  obtain ⟨m', h1', h2'⟩ := h'.top
  match R, R', h, h', h1, h1' with
  | b :: r, b' :: r', h, h', h1, h1' =>
    obtain rfl : b = m := by simpa using h1
    obtain rfl : b' = m' := by simpa using h1'
    have e : b = b' := by
      rcases h2 b' (h'.mem b' (by simp)) with e | e
      · exact e.symm
      · rcases h2' b (h.mem b (by simp)) with e' | e'
        · exact e'
        · exact (oP_asym e e').elim
    subst e
    rw [chain_eq h.mem h.dsc h.cvx h.lft h.bot h'.mem h'.dsc h'.cvx h'.lft h'.bot]
end Go.Proofs.Ytcplfampcbekoaa
namespace Go.Proofs.Ytcplfampcbekoaa
set_option linter.all false
open Go.RowKit
def ngP (p : Pt) : Pt := (-p.1, -p.2)
def ngL (ps : List Pt) : List Pt := ps.map ngP
theorem ngP_ng (p : Pt) : ngP (ngP p) = p := by
  unfold ngP
  simp
theorem ngL_ng (ps : List Pt) : ngL (ngL ps) = ps := by
  unfold ngL
  rw [List.map_map]
  conv => rhs; rw [← List.map_id ps]
  refine List.map_congr_left fun p _ => ngP_ng p
theorem crP_ng (a b c : Pt) : crP (ngP a) (ngP b) (ngP c) = crP a b c := by unfold crP crossI ngP; simp only; grind
theorem plt_ng (a b : Pt) : pltB (ngP a) (ngP b) = pltB b a := by
  rw [Bool.eq_iff_iff, pltB_iff, pltB_iff]
  unfold ngP
  simp only
  omega
theorem pushR_ng : ∀ (R : List Pt) (p : Pt), pushR (ngL R) (ngP p) = ngL (pushR R p)
  | [], _ => rfl
  | [_], _ => rfl
  | b :: a :: r, p => by
    have ih := pushR_ng (a :: r) p
    show (if crP (ngP a) (ngP b) (ngP p) ≤ 0 then pushR (ngP a :: ngL r) (ngP p) else ngP p :: ngP b :: ngP a :: ngL r) = ngL (if crP a b p ≤ 0 then pushR (a :: r) p else p :: b :: a :: r)
    rw [crP_ng]
    split
    · exact ih
    · rfl
theorem chnR_ng : ∀ (ps R : List Pt), chnR (ngL R) (ngL ps) = ngL (chnR R ps)
  | [], _ => rfl
  | p :: r, R => by
    have := chnR_ng r (pushR R p)
    rw [← pushR_ng] at this
    exact this
theorem mem_ngL {ps : List Pt} {q : Pt} : q ∈ ngL ps ↔ ngP q ∈ ps := by
  unfold ngL
  rw [List.mem_map]
  constructor
  · rintro ⟨z, hz, rfl⟩
    rw [ngP_ng]
    exact hz
  · intro h
    exact ⟨_, h, ngP_ng q⟩
theorem asc_ng {s : List Pt} (h : Asc s) : Asc (ngL s.reverse) := by
  unfold Asc ngL
  rw [List.pairwise_map, List.pairwise_reverse]
  exact h.imp fun {a b} hab => by rw [plt_ng]; exact hab
/-- The lower and the upper half of the hull, the last point first. -/
def lowR (s : List Pt) : List Pt := chnR [] s
def uppR (s : List Pt) : List Pt := chnR [] s.reverse
theorem low_ok {s : List Pt} (h : Asc s) (h0 : s ≠ []) : ChI (fun q => q ∈ s) (lowR s) := chain_ok h h0
theorem upp_ok {s : List Pt} (h : Asc s) (h0 : s ≠ []) : ChI (fun q => ngP q ∈ s) (ngL (uppR s)) := by
  have h1 := chain_ok (asc_ng h) (by unfold ngL; simpa using h0)
  have e : ngL (uppR s) = chnR [] (ngL s.reverse) := by
    unfold uppR
    rw [← chnR_ng]
    rfl
  rw [e]
  exact h1.ext fun q => by rw [mem_ngL, List.mem_reverse]
/-- Places of a list, the last one first. -/
theorem cvx_at : ∀ {R : List Pt}, Cvx R → ∀ k, k + 2 < R.length → 0 < crP (R.getD (k + 2) (0, 0)) (R.getD (k + 1) (0, 0)) (R.getD k (0, 0))
  | [], _, k, h => by simp at h
  | [_], _, k, h => by simp at h
  | [_, _], _, k, h => absurd h (by simp only [List.length_cons, List.length_nil]; omega)
  | c :: b :: a :: r, hc, 0, _ => hc.1
  | c :: b :: a :: r, hc, k + 1, h => by
    have := cvx_at hc.2 k (by simpa using h)
    simpa using this
theorem lft_at {S : Pt → Prop} : ∀ {R : List Pt}, Lft S R → ∀ k, k + 1 < R.length → ∀ q, S q → 0 ≤ crP (R.getD (k + 1) (0, 0)) (R.getD k (0, 0)) q
  | [], _, k, h => by simp at h
  | [_], _, k, h => by simp at h
  | b :: a :: r, hl, 0, _ => hl.1
  | b :: a :: r, hl, k + 1, h => by
    have := lft_at hl.2 k (by simpa using h)
    simpa using this
theorem dsc_at {R : List Pt} (h : Dsc R) {i j : Nat} (hij : i < j) (hj : j < R.length) : pltB (R.getD j (0, 0)) (R.getD i (0, 0)) = true := by
  have := List.pairwise_iff_getElem.1 h i j (by omega) hj hij
  simpa [hj, show i < R.length by omega] using this
theorem getD_mem' {R : List Pt} {k : Nat} (h : k < R.length) : R.getD k (0, 0) ∈ R := by simp [h]
/-- On the line of an edge of a chain: between its ends. -/
theorem on_edge {S : Pt → Prop} {R : List Pt} (h : ChI S R) {k : Nat} (hk : k + 1 < R.length) {q : Pt} (hq : S q) (h0 : crP (R.getD (k + 1) (0, 0)) (R.getD k (0, 0)) q = 0) :
    ¬ pltB q (R.getD (k + 1) (0, 0)) = true ∧ ¬ pltB (R.getD k (0, 0)) q = true := by
  have hab := dsc_at h.dsc (i := k) (j := k + 1) (by omega) hk
  refine ⟨fun hlt => ?_, fun hlt => ?_⟩
  · by_cases h2 : k + 2 < R.length
    · have c := cvx_at h.cvx k h2
      have l := lft_at h.lft (k + 1) h2 q hq
      have hxa := dsc_at h.dsc (i := k + 1) (j := k + 2) (by omega) h2
      generalize R.getD k (0, 0) = b at *
      generalize R.getD (k + 1) (0, 0) = a at *
      generalize R.getD (k + 2) (0, 0) = x at *
      have e1 : crP x a b = cr2 (dif a x) (dif b a) := by unfold crP crossI cr2 dif; simp only; grind
      have e2 : crP x a q = cr2 (dif a q) (dif a x) := by unfold crP crossI cr2 dif; simp only; grind
      have e3 : crP a b q = cr2 (dif a q) (dif b a) := by unfold crP crossI cr2 dif; simp only; grind
      have := (cr_tr (plt_pos.1 hlt) (plt_pos.1 hxa) (plt_pos.1 hab) (by omega) (by omega)).2 (.inr (by omega))
      omega
    · obtain ⟨m, h1, h3⟩ := h.bot
      have hm : R.getD (k + 1) (0, 0) = m := by
        rw [List.getLast?_eq_getElem?] at h1
        have : R.length - 1 = k + 1 := by omega
        rw [this] at h1
        simp [List.getD, h1]
      rw [hm] at hlt
      rcases h3 q hq with rfl | h4
      · exact oP_irr hlt
      · exact oP_asym hlt h4
  · rcases Nat.eq_zero_or_pos k with rfl | h2
    · obtain ⟨m, h1, h3⟩ := h.top
      have hm : R.getD 0 (0, 0) = m := by
        match R, h1 with
        | _ :: _, h1 => simpa using h1
      rw [hm] at hlt
      rcases h3 q hq with rfl | h4
      · exact oP_irr hlt
      · exact oP_asym hlt h4
    · obtain ⟨k, rfl⟩ : ∃ j, k = j + 1 := ⟨k - 1, by omega⟩
      have c := cvx_at h.cvx k (by omega)
      have l := lft_at h.lft k (by omega) q hq
      have hbc := dsc_at h.dsc (i := k) (j := k + 1) (by omega) (by omega)
      generalize R.getD k (0, 0) = c' at *
      generalize R.getD (k + 1) (0, 0) = b at *
      generalize R.getD (k + 1 + 1) (0, 0) = a at *
      have e0 : crP (R.getD (k + 2) (0, 0)) b c' = crP (R.getD (k + 2) (0, 0)) b c' := rfl
      have e1 : crP a b c' = cr2 (dif b a) (dif c' b) := by unfold crP crossI cr2 dif; simp only; grind
      have e2 : crP b c' q = cr2 (dif c' b) (dif q b) := rfl
      have e3 : crP a b q = cr2 (dif b a) (dif q b) := by unfold crP crossI cr2 dif; simp only; grind
      have := (cr_tr (plt_pos.1 hab) (plt_pos.1 hbc) (plt_pos.1 hlt) (by omega) (by omega)).2 (.inl (by omega))
      omega
/-- A point of a chain on the line of an edge: an end. -/
theorem on_own {S : Pt → Prop} {R : List Pt} (h : ChI S R) {k : Nat} (hk : k + 1 < R.length) {q : Pt} (hq : q ∈ R) (h0 : crP (R.getD (k + 1) (0, 0)) (R.getD k (0, 0)) q = 0) : q = R.getD (k + 1) (0, 0) ∨ q = R.getD k (0, 0) := by
  obtain ⟨h1, h2⟩ := on_edge h hk (h.mem q hq) h0
  obtain ⟨j, hj, hjq⟩ := List.getElem_of_mem hq
  have ej : R.getD j (0, 0) = q := by simp [hj, hjq]
  rw [← ej] at h1 h2 ⊢
  rcases Nat.lt_or_ge j k with c | c
  · exact absurd (dsc_at h.dsc c (by omega)) h2
  · rcases Nat.lt_or_ge (k + 1) j with d | d
    · exact absurd (dsc_at h.dsc d hj) h1
    · have : j = k ∨ j = k + 1 := by omega
      rcases this with rfl | rfl
      · exact .inr rfl
      · exact .inl rfl
/-- A point of the other half on the line of an edge: an end. -/
theorem on_other {s : List Pt} {R U : List Pt} (h : ChI (fun q => q ∈ s) R) (g : ChI (fun q => ngP q ∈ s) (ngL U)) {k : Nat} (hk : k + 1 < R.length) {q : Pt} (hq : q ∈ U) (h0 : crP (R.getD (k + 1) (0, 0)) (R.getD k (0, 0)) q = 0) : q = R.getD (k + 1) (0, 0) ∨ q = R.getD k (0, 0) := by
  have hqs : q ∈ s := by
    have := g.mem (ngP q) (mem_ngL.2 (by rw [ngP_ng]; exact hq))
    rw [ngP_ng] at this
    exact this
  obtain ⟨h1, h2⟩ := on_edge h hk hqs h0
  rcases oP_tri q (R.getD (k + 1) (0, 0)) with e | e | ea
  · exact .inl e
  · exact absurd e h1
  rcases oP_tri q (R.getD k (0, 0)) with e | eb | e
  · exact .inr e
  rotate_left
  · exact absurd e h2
  exfalso
  have ha : R.getD (k + 1) (0, 0) ∈ s := h.mem _ (getD_mem' hk)
  have hb : R.getD k (0, 0) ∈ s := h.mem _ (getD_mem' (by omega))
  generalize R.getD (k + 1) (0, 0) = a at *
  generalize R.getD k (0, 0) = b at *
  -- the neighbours in the other half
  obtain ⟨j, hj, hjq⟩ := List.getElem_of_mem hq
  have hlen : (ngL U).length = U.length := by unfold ngL; simp
  have ej : ∀ i, i < U.length → (ngL U).getD i (0, 0) = ngP (U.getD i (0, 0)) := fun i hi => by unfold ngL; simp [hi]
  have eq' : U.getD j (0, 0) = q := by simp [hj, hjq]
  have j0 : 0 < j := by
    rcases Nat.eq_zero_or_pos j with rfl | c
    · exfalso
      obtain ⟨m, m1, m2⟩ := g.top
      have em : ngP q = m := by
        match U, hj, hjq, m1 with
        | x :: t, _, hjq, m1 =>
          have e1 : x = q := by simpa using hjq
          have e2 : ngP x = m := by simpa [ngL] using m1
          rw [← e1]
          exact e2
      rcases m2 (ngP a) (by show ngP (ngP a) ∈ s; rw [ngP_ng]; exact ha) with e | e
      · have := congrArg ngP e
        rw [← em, ngP_ng, ngP_ng] at this
        subst this
        exact oP_irr ea
      · rw [← em, plt_ng] at e
        exact oP_asym ea e
    · exact c
  have j1 : j + 1 < U.length := by
    rcases Nat.lt_or_ge (j + 1) U.length with c | c
    · exact c
    · exfalso
      obtain ⟨m, m1, m2⟩ := g.bot
      have em : ngP q = m := by
        rw [List.getLast?_eq_getElem?, hlen] at m1
        have : U.length - 1 = j := by omega
        rw [this] at m1
        have := ej j hj
        rw [eq'] at this
        rw [← this]
        simp [List.getD, m1]
      rcases m2 (ngP b) (by show ngP (ngP b) ∈ s; rw [ngP_ng]; exact hb) with e | e
      · have := congrArg ngP e
        rw [← em, ngP_ng, ngP_ng] at this
        subst this
        exact oP_irr eb
      · rw [← em, plt_ng] at e
        exact oP_asym eb e
  obtain ⟨i, rfl⟩ : ∃ i, j = i + 1 := ⟨j - 1, by omega⟩
  have c := cvx_at g.cvx i (by omega)
  have l1 := lft_at g.lft i (by omega)
  have l2 := lft_at g.lft (i + 1) (by omega)
  have d1 := dsc_at g.dsc (i := i) (j := i + 1) (by omega) (by omega)
  have d2 := dsc_at g.dsc (i := i + 1) (j := i + 2) (by omega) (by omega)
  rw [ej _ (by omega), ej _ (by omega), ej _ (by omega), crP_ng, eq'] at c
  rw [ej _ (by omega), ej _ (by omega), plt_ng, eq'] at d1 d2
  have l1a := l1 (ngP a) (by show ngP (ngP a) ∈ s; rw [ngP_ng]; exact ha)
  have l1b := l1 (ngP b) (by show ngP (ngP b) ∈ s; rw [ngP_ng]; exact hb)
  have l2a := l2 (ngP a) (by show ngP (ngP a) ∈ s; rw [ngP_ng]; exact ha)
  have l2b := l2 (ngP b) (by show ngP (ngP b) ∈ s; rw [ngP_ng]; exact hb)
  rw [ej _ (by omega), ej _ (by omega), crP_ng, eq'] at l1a l1b l2a l2b
  clear l1 l2
  generalize U.getD i (0, 0) = y at *
  generalize U.getD (i + 2) (0, 0) = z at *
  -- y before q before z
  have e1 : crP z q y = cr2 (dif z q) (dif q y) := by unfold crP crossI cr2 dif; simp only; grind
  have e2 : crP z q b = cr2 (dif b q) (dif z q) := by unfold crP crossI cr2 dif; simp only; grind
  have e3 : crP q y a = cr2 (dif q y) (dif q a) := by unfold crP crossI cr2 dif; simp only; grind
  have e4 : crP a b q = cr2 (dif b q) (dif q a) := by unfold crP crossI cr2 dif; simp only; grind
  have t1 := (cr_tr (plt_pos.1 eb) (plt_pos.1 d2) (plt_pos.1 d1) (by omega) (by omega)).2 (.inr (by omega))
  have t2 := (cr_tr (plt_pos.1 eb) (plt_pos.1 d1) (plt_pos.1 ea) (by omega) (by omega)).2 (.inl (by omega))
  omega
end Go.Proofs.Ytcplfampcbekoaa
