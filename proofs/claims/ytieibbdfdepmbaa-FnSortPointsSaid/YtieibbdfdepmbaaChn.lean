/-
  A chain of points on a stack: both ways. Written by an AI agent.
-/
import Derived.Test.YtieibbdfdepmbaaSpt
import Derived.Test.YtieibbdfdepmbaaChd
import Derived.Test.YtieibbdfdepmbaaSga
namespace Go.Proofs.Ytieibbdfdepmbaa
set_option linter.all false
open Go.RowKit

def TCh : Tab := orT T3 TOl
theorem TCh_ok : TabOk Try.prog TCh := orT_ok T3_ok TOl_ok
def ECh : Env := mkE TCh RSq (fun _ => noL)
theorem ECh_ok : EnvOk Try.prog ECh := mkEOk TCh_ok RSq_ok (fun _ _ _ => noL_good)
noncomputable def c_chI : Code := ((loopsOf (codeOf Try.f73))[1]?).getD .skip
def k_chI : Ex → List Nat := keeps [3, 5, 6, 7, 8, 9] [(2, [3, 5, 7, 8, 9]), (1, [3, 7, 8, 9]), (0, [3])] [2]
def s_chI (xs : List Int) (st : List Pt) (x y : Int) (n i : Nat) : Nat → St := fun j => ⟨(topV :: topV :: topV :: .slice (some ⟨1, 0, none⟩) j j :: topV :: .pointer (some ⟨2, 0, none⟩) :: .int .i64 j :: .slice (some ⟨0, 0, none⟩) n n :: .int .i64 n :: .int .i64 i :: topV :: topV :: topV :: topV :: topV :: topV :: topV :: topV :: topV :: topV :: topV :: topV :: topV :: topV :: topV :: topV :: topV :: topV :: topV :: topV :: topV :: topV :: topV :: topV :: topV :: topV :: topV :: topV :: topV :: topV :: topV :: topV :: topV :: topV :: []), [some ⟨.view, .ints xs⟩, some ⟨.row 32 2, .ints (flat st)⟩, some ⟨.box, .vals [.int .i64 x, .int .i64 y]⟩]⟩
def re_chI : Nat → Ex := fun _ => .exit 2
def rs_chI (xs : List Int) (st : List Pt) (x y : Int) (n i : Nat) : Nat → St := fun j => ⟨(topV :: topV :: topV :: .slice (some ⟨1, 0, none⟩) (popN st (x, y) st.length) (popN st (x, y) st.length) :: topV :: .pointer (some ⟨2, 0, none⟩) :: topV :: .slice (some ⟨0, 0, none⟩) n n :: .int .i64 n :: .int .i64 i :: topV :: topV :: topV :: topV :: topV :: topV :: topV :: topV :: topV :: topV :: topV :: topV :: topV :: topV :: topV :: topV :: topV :: topV :: topV :: topV :: topV :: topV :: topV :: topV :: topV :: topV :: topV :: topV :: topV :: topV :: topV :: topV :: topV :: topV :: []), [some ⟨.view, .ints xs⟩, some ⟨.row 32 2, .ints (flat st)⟩, some ⟨.box, .vals [.int .i64 x, .int .i64 y]⟩]⟩
set_option maxRecDepth 100000 in
theorem tr_chI (xs : List Int) (st : List Pt) (x y : Int) (n i : Nat) (j : Nat) : bodyL Try.prog ECh 30 12 noL 2 c_chI k_chI 3 (s_chI xs st x y n i j) = brT (decide (2 ≤ (↑j : Int))) (.need (ptB ((flat st).getD ((0 : Nat) + (IntKind.i64.wrap ((↑j : Int) - (2 : Int))).toNat * (2 : Nat)) (0 : Int)) ((flat st).getD ((0 : Nat) + (IntKind.i64.wrap ((↑j : Int) - (2 : Int))).toNat * (2 : Nat) + (1 : Nat)) (0 : Int)) = true) (.need (ptB ((flat st).getD ((0 : Nat) + (IntKind.i64.wrap ((↑j : Int) - (1 : Int))).toNat * (2 : Nat)) (0 : Int)) ((flat st).getD ((0 : Nat) + (IntKind.i64.wrap ((↑j : Int) - (1 : Int))).toNat * (2 : Nat) + (1 : Nat)) (0 : Int)) = true) (.need (ptB x y = true) (.need ((0 : Int) ≤ IntKind.i64.wrap ((↑j : Int) - (2 : Int)) ∧ IntKind.i64.wrap ((↑j : Int) - (2 : Int)) < (↑j : Int)) (.need ((0 : Nat) + (IntKind.i64.wrap ((↑j : Int) - (2 : Int))).toNat * (2 : Nat) + (2 : Nat) ≤ (flat st).length) (.need ((0 : Int) ≤ IntKind.i64.wrap ((↑j : Int) - (1 : Int)) ∧ IntKind.i64.wrap ((↑j : Int) - (1 : Int)) < (↑j : Int)) (.need ((0 : Nat) + (IntKind.i64.wrap ((↑j : Int) - (1 : Int))).toNat * (2 : Nat) + (2 : Nat) ≤ (flat st).length) (brT (decide (crossI ((flat st).getD (0 + (IntKind.i64.wrap ((↑j : Int) - 2)).toNat * 2) 0) ((flat st).getD (0 + (IntKind.i64.wrap ((↑j : Int) - 2)).toNat * 2 + 1) 0) ((flat st).getD (0 + (IntKind.i64.wrap ((↑j : Int) - 1)).toNat * 2) 0) ((flat st).getD (0 + (IntKind.i64.wrap ((↑j : Int) - 1)).toNat * 2 + 1) 0) x y ≤ 0)) (.need ((0 : Int) ≤ bndI none (0 : Int) ∧ bndI none (0 : Int) ≤ bndI (some (IntKind.i64, IntKind.i64.wrap ((↑j : Int) - (1 : Int)))) (↑j : Int) ∧ bndI (some (IntKind.i64, IntKind.i64.wrap ((↑j : Int) - (1 : Int)))) (↑j : Int) ≤ (↑j : Int)) (.leaf .normal ⟨(topV :: topV :: topV :: .slice (some ⟨1, 0, none⟩) ((bndI (some (IntKind.i64, IntKind.i64.wrap ((↑j : Int) - 1))) (↑j : Int)).toNat - 0) ((bndI (some (IntKind.i64, IntKind.i64.wrap ((↑j : Int) - 1))) (↑j : Int)).toNat - 0) :: topV :: .pointer (some ⟨2, 0, none⟩) :: .int .i64 (IntKind.i64.wrap ((↑j : Int) - 1)) :: .slice (some ⟨0, 0, none⟩) (n) (n) :: .int .i64 ((↑n : Int)) :: .int .i64 ((↑i : Int)) :: topV :: topV :: topV :: topV :: topV :: topV :: topV :: topV :: topV :: topV :: topV :: topV :: topV :: topV :: topV :: topV :: topV :: topV :: topV :: topV :: topV :: topV :: topV :: topV :: topV :: topV :: topV :: topV :: topV :: topV :: topV :: topV :: topV :: topV :: []), [some ⟨.view, .ints (xs)⟩, some ⟨.row 32 2, .ints (flat st)⟩, some ⟨.box, .vals [.int .i64 (x), .int .i64 (y)]⟩]⟩)) (.leaf (.exit 2) ⟨(topV :: topV :: topV :: .slice (some ⟨1, 0, none⟩) (j) (j) :: topV :: .pointer (some ⟨2, 0, none⟩) :: topV :: .slice (some ⟨0, 0, none⟩) (n) (n) :: .int .i64 ((↑n : Int)) :: .int .i64 ((↑i : Int)) :: topV :: topV :: topV :: topV :: topV :: topV :: topV :: topV :: topV :: topV :: topV :: topV :: topV :: topV :: topV :: topV :: topV :: topV :: topV :: topV :: topV :: topV :: topV :: topV :: topV :: topV :: topV :: topV :: topV :: topV :: topV :: topV :: topV :: topV :: []), [some ⟨.view, .ints (xs)⟩, some ⟨.row 32 2, .ints (flat st)⟩, some ⟨.box, .vals [.int .i64 (x), .int .i64 (y)]⟩]⟩))))))))) (.leaf (.exit 2) ⟨(topV :: topV :: topV :: .slice (some ⟨1, 0, none⟩) (j) (j) :: topV :: .pointer (some ⟨2, 0, none⟩) :: topV :: .slice (some ⟨0, 0, none⟩) (n) (n) :: .int .i64 ((↑n : Int)) :: .int .i64 ((↑i : Int)) :: topV :: topV :: topV :: topV :: topV :: topV :: topV :: topV :: topV :: topV :: topV :: topV :: topV :: topV :: topV :: topV :: topV :: topV :: topV :: topV :: topV :: topV :: topV :: topV :: topV :: topV :: topV :: topV :: topV :: topV :: topV :: topV :: topV :: topV :: []), [some ⟨.view, .ints (xs)⟩, some ⟨.row 32 2, .ints (flat st)⟩, some ⟨.box, .vals [.int .i64 (x), .int .i64 (y)]⟩]⟩) := by kernel_rfl
set_option maxRecDepth 100000 in
theorem nl_chI : loopsOf c_chI = [] := by kernel_rfl
def inv_chI (xs : List Int) (st : List Pt) (x y : Int) (n i : Nat) : Nat → Prop := fun j => j ≤ st.length ∧ popN st (x, y) j = popN st (x, y) st.length
def me_chI (xs : List Int) (st : List Pt) (x y : Int) (n i : Nat) : Nat → Nat := fun j => j
/-- A round of this loop. -/
def Round_chI (xs : List Int) (st : List Pt) (x y : Int) (n i : Nat) : Prop := ∀ xx : Nat, inv_chI xs st x y n i xx → (bodyL Try.prog ECh 30 12 noL 2 c_chI k_chI 3 (s_chI xs st x y n i xx)).ok (RoundEnd 3 (s_chI xs st x y n i) (inv_chI xs st x y n i) (me_chI xs st x y n i) re_chI (rs_chI xs st x y n i) xx) (fun _ _ => False)
def e_chI (s : St) (k : Ex → St → Tree) : Option Tree := match Nat.beq s.tmps.length 44, pickL s.tmps [3, 5, 6, 7, 8, 9], s.mem with
  | true, [.slice (some ⟨1, 0, none⟩) l _, .pointer (some ⟨2, 0, none⟩), .int .i64 jj, .slice (some ⟨0, 0, none⟩) n _, .int .i64 n1, .int .i64 i], [some ⟨.view, .ints xs⟩, some ⟨.row 32 2, .ints ys⟩, some ⟨.box, .vals [.int .i64 x, .int .i64 y]⟩] => some (needs [jj = l, n1 = n, 0 ≤ i, ys.length = l * 2, allV (ptsA l ys) = true, ptB x y = true, l ≤ 1000] (k (.exit 2) ⟨(topV :: topV :: topV :: .slice (some ⟨1, 0, none⟩) (popN (ptsA l ys) (x, y) l) (popN (ptsA l ys) (x, y) l) :: topV :: .pointer (some ⟨2, 0, none⟩) :: topV :: .slice (some ⟨0, 0, none⟩) n n :: .int .i64 n :: .int .i64 i :: topV :: topV :: topV :: topV :: topV :: topV :: topV :: topV :: topV :: topV :: topV :: topV :: topV :: topV :: topV :: topV :: topV :: topV :: topV :: topV :: topV :: topV :: topV :: topV :: topV :: topV :: topV :: topV :: topV :: topV :: topV :: topV :: topV :: topV :: []), [some ⟨.view, .ints xs⟩, some ⟨.row 32 2, .ints ys⟩, some ⟨.box, .vals [.int .i64 x, .int .i64 y]⟩]⟩))
  | _, _, _ => none
noncomputable def c_chS : Code := ((loopsOf (codeOf Try.f108))[1]?).getD .skip
def k_chS : Ex → List Nat := keeps [0, 3, 4] [(2, [0, 3, 4]), (1, [0, 3, 4]), (0, [3])] [2]
def s_chS (ps st : List Pt) (i : Nat) : Nat → St := fun j => ⟨(.slice (some ⟨0, 0, none⟩) ps.length ps.length :: topV :: topV :: .slice (some ⟨2, 0, none⟩) j j :: .int .i64 i :: topV :: topV :: topV :: topV :: topV :: topV :: topV :: topV :: topV :: topV :: topV :: topV :: topV :: topV :: topV :: topV :: topV :: topV :: topV :: topV :: topV :: topV :: topV :: topV :: topV :: topV :: topV :: topV :: topV :: topV :: topV :: topV :: topV :: topV :: topV :: topV :: topV :: topV :: topV :: topV :: topV :: topV :: topV :: []), [some ⟨.view, .ints (flat ps)⟩, some ⟨.dead, .vals []⟩, some ⟨.row 32 2, .ints (flat st)⟩]⟩
def re_chS : Nat → Ex := fun _ => .exit 2
def rs_chS (ps st : List Pt) (i : Nat) : Nat → St := fun j => ⟨(.slice (some ⟨0, 0, none⟩) ps.length ps.length :: topV :: topV :: .slice (some ⟨2, 0, none⟩) (popN st (ps.getD i (0, 0)) st.length) (popN st (ps.getD i (0, 0)) st.length) :: .int .i64 i :: topV :: topV :: topV :: topV :: topV :: topV :: topV :: topV :: topV :: topV :: topV :: topV :: topV :: topV :: topV :: topV :: topV :: topV :: topV :: topV :: topV :: topV :: topV :: topV :: topV :: topV :: topV :: topV :: topV :: topV :: topV :: topV :: topV :: topV :: topV :: topV :: topV :: topV :: topV :: topV :: topV :: topV :: topV :: []), [some ⟨.view, .ints (flat ps)⟩, some ⟨.dead, .vals []⟩, some ⟨.row 32 2, .ints (flat st)⟩]⟩
set_option maxRecDepth 100000 in
theorem tr_chS (ps st : List Pt) (i : Nat) (j : Nat) : bodyL Try.prog ECh 30 12 noL 2 c_chS k_chS 3 (s_chS ps st i j) = brT (decide (1 < (↑j : Int))) (.need (ptB ((flat st).getD ((0 : Nat) + (IntKind.i64.wrap ((↑j : Int) - (2 : Int))).toNat * (2 : Nat)) (0 : Int)) ((flat st).getD ((0 : Nat) + (IntKind.i64.wrap ((↑j : Int) - (2 : Int))).toNat * (2 : Nat) + (1 : Nat)) (0 : Int)) = true) (.need (ptB ((flat st).getD ((0 : Nat) + (IntKind.i64.wrap ((↑j : Int) - (1 : Int))).toNat * (2 : Nat)) (0 : Int)) ((flat st).getD ((0 : Nat) + (IntKind.i64.wrap ((↑j : Int) - (1 : Int))).toNat * (2 : Nat) + (1 : Nat)) (0 : Int)) = true) (.need (ptB ((flat ps).getD ((0 : Nat) + (↑i : Int).toNat * (2 : Nat)) (0 : Int)) ((flat ps).getD ((0 : Nat) + (↑i : Int).toNat * (2 : Nat) + (1 : Nat)) (0 : Int)) = true) (.need ((0 : Int) ≤ IntKind.i64.wrap ((↑j : Int) - (2 : Int)) ∧ IntKind.i64.wrap ((↑j : Int) - (2 : Int)) < (↑j : Int)) (.need ((0 : Nat) + (IntKind.i64.wrap ((↑j : Int) - (2 : Int))).toNat * (2 : Nat) + (2 : Nat) ≤ (flat st).length) (.need ((0 : Int) ≤ IntKind.i64.wrap ((↑j : Int) - (1 : Int)) ∧ IntKind.i64.wrap ((↑j : Int) - (1 : Int)) < (↑j : Int)) (.need ((0 : Nat) + (IntKind.i64.wrap ((↑j : Int) - (1 : Int))).toNat * (2 : Nat) + (2 : Nat) ≤ (flat st).length) (.need ((0 : Int) ≤ (↑i : Int) ∧ (↑i : Int) < (↑ps.length : Int)) (.need ((0 : Nat) + (↑i : Int).toNat * (2 : Nat) + (2 : Nat) ≤ (flat ps).length) (brT (decide (crossI ((flat st).getD (0 + (IntKind.i64.wrap ((↑j : Int) - 2)).toNat * 2) 0) ((flat st).getD (0 + (IntKind.i64.wrap ((↑j : Int) - 2)).toNat * 2 + 1) 0) ((flat st).getD (0 + (IntKind.i64.wrap ((↑j : Int) - 1)).toNat * 2) 0) ((flat st).getD (0 + (IntKind.i64.wrap ((↑j : Int) - 1)).toNat * 2 + 1) 0) ((flat ps).getD (0 + (↑i : Int).toNat * 2) 0) ((flat ps).getD (0 + (↑i : Int).toNat * 2 + 1) 0) ≤ 0)) (.need ((0 : Int) ≤ bndI none (0 : Int) ∧ bndI none (0 : Int) ≤ bndI (some (IntKind.i64, IntKind.i64.wrap ((↑j : Int) - (1 : Int)))) (↑j : Int) ∧ bndI (some (IntKind.i64, IntKind.i64.wrap ((↑j : Int) - (1 : Int)))) (↑j : Int) ≤ (↑j : Int)) (.leaf .normal ⟨(.slice (some ⟨0, 0, none⟩) (ps.length) (ps.length) :: topV :: topV :: .slice (some ⟨2, 0, none⟩) ((bndI (some (IntKind.i64, IntKind.i64.wrap ((↑j : Int) - 1))) (↑j : Int)).toNat - 0) ((bndI (some (IntKind.i64, IntKind.i64.wrap ((↑j : Int) - 1))) (↑j : Int)).toNat - 0) :: .int .i64 ((↑i : Int)) :: topV :: topV :: topV :: topV :: topV :: topV :: topV :: topV :: topV :: topV :: topV :: topV :: topV :: topV :: topV :: topV :: topV :: topV :: topV :: topV :: topV :: topV :: topV :: topV :: topV :: topV :: topV :: topV :: topV :: topV :: topV :: topV :: topV :: topV :: topV :: topV :: topV :: topV :: topV :: topV :: topV :: topV :: topV :: []), [some ⟨.view, .ints (flat ps)⟩, some deadB, some ⟨.row 32 2, .ints (flat st)⟩]⟩)) (.leaf (.exit 2) ⟨(.slice (some ⟨0, 0, none⟩) (ps.length) (ps.length) :: topV :: topV :: .slice (some ⟨2, 0, none⟩) (j) (j) :: .int .i64 ((↑i : Int)) :: topV :: topV :: topV :: topV :: topV :: topV :: topV :: topV :: topV :: topV :: topV :: topV :: topV :: topV :: topV :: topV :: topV :: topV :: topV :: topV :: topV :: topV :: topV :: topV :: topV :: topV :: topV :: topV :: topV :: topV :: topV :: topV :: topV :: topV :: topV :: topV :: topV :: topV :: topV :: topV :: topV :: topV :: topV :: []), [some ⟨.view, .ints (flat ps)⟩, some deadB, some ⟨.row 32 2, .ints (flat st)⟩]⟩))))))))))) (.leaf (.exit 2) ⟨(.slice (some ⟨0, 0, none⟩) (ps.length) (ps.length) :: topV :: topV :: .slice (some ⟨2, 0, none⟩) (j) (j) :: .int .i64 ((↑i : Int)) :: topV :: topV :: topV :: topV :: topV :: topV :: topV :: topV :: topV :: topV :: topV :: topV :: topV :: topV :: topV :: topV :: topV :: topV :: topV :: topV :: topV :: topV :: topV :: topV :: topV :: topV :: topV :: topV :: topV :: topV :: topV :: topV :: topV :: topV :: topV :: topV :: topV :: topV :: topV :: topV :: topV :: topV :: topV :: []), [some ⟨.view, .ints (flat ps)⟩, some deadB, some ⟨.row 32 2, .ints (flat st)⟩]⟩) := by kernel_rfl
set_option maxRecDepth 100000 in
theorem nl_chS : loopsOf c_chS = [] := by kernel_rfl
def inv_chS (ps st : List Pt) (i : Nat) : Nat → Prop := fun j => j ≤ st.length ∧ popN st (ps.getD i (0, 0)) j = popN st (ps.getD i (0, 0)) st.length
def me_chS (ps st : List Pt) (i : Nat) : Nat → Nat := fun j => j
/-- A round of this loop. -/
def Round_chS (ps st : List Pt) (i : Nat) : Prop := ∀ xx : Nat, inv_chS ps st i xx → (bodyL Try.prog ECh 30 12 noL 2 c_chS k_chS 3 (s_chS ps st i xx)).ok (RoundEnd 3 (s_chS ps st i) (inv_chS ps st i) (me_chS ps st i) re_chS (rs_chS ps st i) xx) (fun _ _ => False)
def e_chS (s : St) (k : Ex → St → Tree) : Option Tree := match Nat.beq s.tmps.length 48, pickL s.tmps [0, 3, 4], s.mem with
  | true, [.slice (some ⟨0, 0, none⟩) n _, .slice (some ⟨2, 0, none⟩) l _, .int .i64 ii], [some ⟨.view, .ints xs⟩, some ⟨.dead, .vals []⟩, some ⟨.row 32 2, .ints ys⟩] => some (needs [xs.length = n * 2, allV (ptsA n xs) = true, 0 ≤ ii, ii < n, ys.length = l * 2, allV (ptsA l ys) = true, l ≤ 1000] (k (.exit 2) ⟨(.slice (some ⟨0, 0, none⟩) n n :: topV :: topV :: .slice (some ⟨2, 0, none⟩) (popN (ptsA l ys) ((ptsA n xs).getD ii.toNat (0, 0)) l) (popN (ptsA l ys) ((ptsA n xs).getD ii.toNat (0, 0)) l) :: .int .i64 ii :: topV :: topV :: topV :: topV :: topV :: topV :: topV :: topV :: topV :: topV :: topV :: topV :: topV :: topV :: topV :: topV :: topV :: topV :: topV :: topV :: topV :: topV :: topV :: topV :: topV :: topV :: topV :: topV :: topV :: topV :: topV :: topV :: topV :: topV :: topV :: topV :: topV :: topV :: topV :: topV :: topV :: topV :: topV :: []), [some ⟨.view, .ints xs⟩, some ⟨.dead, .vals []⟩, some ⟨.row 32 2, .ints ys⟩]⟩))
  | _, _, _ => none
theorem popN_yes {st : List Pt} {p : Pt} {m : Nat} (h : crP (st.getD m (0, 0)) (st.getD (m + 1) (0, 0)) p ≤ 0) : popN st p (m + 2) = popN st p (m + 1) := by simp only [popN, h, if_true]
theorem popN_no {st : List Pt} {p : Pt} {m : Nat} (h : ¬ crP (st.getD m (0, 0)) (st.getD (m + 1) (0, 0)) p ≤ 0) : popN st p (m + 2) = m + 2 := by simp only [popN, h, if_false]
theorem popN_low {st : List Pt} {p : Pt} {j : Nat} (h : j < 2) : popN st p j = j := by
  match j, h with
  | 0, _ => rfl
  | 1, _ => rfl
set_option maxRecDepth 100000 in
theorem round_chI (xs : List Int) (st : List Pt) (x y : Int) (n i : Nat) (hv : allV st = true) (hp : ptB x y = true) (h : st.length ≤ 1000) : Round_chI xs st x y n i := by
  rintro j ⟨h1, h2⟩
  rw [tr_chI]
  refine brT_ok.2 ⟨fun hlt => ?_, fun hge => ?_⟩
  · have hlt := of_decide_eq_true hlt
    obtain ⟨m, rfl⟩ : ∃ m, j = m + 2 := ⟨j - 2, by omega⟩
    have w1 : IntKind.i64.wrap (((m + 2 : Nat) : Int) - 2) = (m : Int) := by rw [wr (by omega)]; omega
    have w2 : IntKind.i64.wrap (((m + 2 : Nat) : Int) - 1) = ((m + 1 : Nat) : Int) := by rw [wr (by omega)]; omega
    simp only [w1, w2, bnd_some, bnd_none, Int.toNat_natCast, flat_get0, flat_get1, flat_length, Nat.zero_add, Nat.sub_zero]
    refine ⟨allV_at hv (by omega), allV_at hv (by omega), hp, by omega, by omega, by omega, by omega, brT_ok.2 ⟨fun q => ⟨by omega, ?_⟩, fun q => ?_⟩⟩
    · have e := popN_yes (st := st) (p := (x, y)) (m := m) (of_decide_eq_true q)
      refine ⟨m + 1, [], ⟨by omega, by rw [← e]; exact h2⟩, ?_, rfl, by simp only [rs_chI], ?_⟩
      · show m + 1 < m + 2; omega
      · repeat' (first | exact True.intro | exact rfl | exact fun _ => rfl | (simp; done) | refine And.intro ?_ ?_)
    · have e := popN_no (st := st) (p := (x, y)) (m := m) (of_decide_eq_false q)
      refine ⟨rfl, [], ?_⟩
      simp only [rs_chI, ← h2, e]
      repeat' (first | exact True.intro | exact rfl | exact fun _ => rfl | (simp; done) | refine And.intro ?_ ?_)
  · have hge := of_decide_eq_false hge
    have e := popN_low (st := st) (p := (x, y)) (j := j) (by omega)
    refine ⟨rfl, [], ?_⟩
    simp only [rs_chI, ← h2, e]
    repeat' (first | exact True.intro | exact rfl | exact fun _ => rfl | (simp; done) | refine And.intro ?_ ?_)
set_option maxRecDepth 100000 in
theorem lg_chI : LoopE Try.prog e_chI c_chI := by
  intro s k t F H hlt ht
  unfold e_chI at hlt
  split at hlt
  rotate_left
  · cases hlt
  rename_i hlen hpick hmem
  obtain ⟨tmps, mem⟩ := s
  simp only at hlen hpick hmem
  subst hmem
  obtain rfl := Option.some.inj hlt
  obtain ⟨⟨rfl, rfl, h0, h1, h2, h3, h4, _⟩, ht2⟩ := needs_ok ht
  clear ht hlt
  obtain ⟨st, rfl, rfl⟩ := even_flat h1
  obtain ⟨i, rfl⟩ := Int.eq_ofNat_of_zero_le h0
  rw [ptsA_flat] at ht2 h2
  refine ⟨_, _, ht2, loop_run mixed ECh_ok (s_chI _ st _ _ _ _) (inv_chI _ st _ _ _ _) (me_chI _ st _ _ _ _) re_chI (rs_chI _ st _ _ _ _) k_chI (fun _ => rfl) (noLoops nl_chI) (round_chI _ st _ _ _ _ h2 h3 h4) (x := st.length) ⟨Nat.le_refl _, rfl⟩ (π := []) rfl ?_⟩
  refine ⟨rfl, rfl, ?_, wvs_spread' [3, 5, 6, 7, 8, 9] hlen rfl ?_⟩
  · repeat' (first | exact True.intro | exact rfl | exact wv_top _ _ | exact fun _ => rfl | assumption | exact Eq.symm (by assumption) | exact vI0 rfl | refine And.intro ?_ ?_)
  · rw [hpick]
    repeat' (first | exact True.intro | exact rfl | exact wv_top _ _ | exact fun _ => rfl | assumption | exact Eq.symm (by assumption) | exact vI0 rfl | refine And.intro ?_ ?_)
set_option maxRecDepth 100000 in
theorem round_chS (ps st : List Pt) (i : Nat) (hv : allV st = true) (hp : allV ps = true) (h : st.length ≤ 1000) (hi : i < ps.length) : Round_chS ps st i := by
  rintro j ⟨h1, h2⟩
  rw [tr_chS]
  refine brT_ok.2 ⟨fun hlt => ?_, fun hge => ?_⟩
  · have hlt := of_decide_eq_true hlt
    obtain ⟨m, rfl⟩ : ∃ m, j = m + 2 := ⟨j - 2, by omega⟩
    have w1 : IntKind.i64.wrap (((m + 2 : Nat) : Int) - 2) = (m : Int) := by rw [wr (by omega)]; omega
    have w2 : IntKind.i64.wrap (((m + 2 : Nat) : Int) - 1) = ((m + 1 : Nat) : Int) := by rw [wr (by omega)]; omega
    simp only [w1, w2, bnd_some, bnd_none, Int.toNat_natCast, flat_get0, flat_get1, flat_length, Nat.zero_add, Nat.sub_zero]
    refine ⟨allV_at hv (by omega), allV_at hv (by omega), allV_at hp hi, by omega, by omega, by omega, by omega, by omega, by omega, brT_ok.2 ⟨fun q => ⟨by omega, ?_⟩, fun q => ?_⟩⟩
    · have e := popN_yes (st := st) (p := ps.getD i (0, 0)) (m := m) (of_decide_eq_true q)
      refine ⟨m + 1, [], ⟨by omega, by rw [← e]; exact h2⟩, ?_, rfl, by simp only [rs_chS], ?_⟩
      · show m + 1 < m + 2; omega
      · repeat' (first | exact True.intro | exact rfl | exact fun _ => rfl | (simp; done) | refine And.intro ?_ ?_)
    · have e := popN_no (st := st) (p := ps.getD i (0, 0)) (m := m) (of_decide_eq_false q)
      refine ⟨rfl, [], ?_⟩
      simp only [rs_chS, ← h2, e]
      repeat' (first | exact True.intro | exact rfl | exact fun _ => rfl | (simp; done) | refine And.intro ?_ ?_)
  · have hge := of_decide_eq_false hge
    have e := popN_low (st := st) (p := ps.getD i (0, 0)) (j := j) (by omega)
    refine ⟨rfl, [], ?_⟩
    simp only [rs_chS, ← h2, e]
    repeat' (first | exact True.intro | exact rfl | exact fun _ => rfl | (simp; done) | refine And.intro ?_ ?_)
set_option maxRecDepth 100000 in
theorem lg_chS : LoopE Try.prog e_chS c_chS := by
  intro s k t F H hlt ht
  unfold e_chS at hlt
  split at hlt
  rotate_left
  · cases hlt
  rename_i hlen hpick hmem
  obtain ⟨tmps, mem⟩ := s
  simp only at hlen hpick hmem
  subst hmem
  obtain rfl := Option.some.inj hlt
  obtain ⟨⟨h0, h5, h6, h7, h1, h2, h4, _⟩, ht2⟩ := needs_ok ht
  clear ht hlt
  obtain ⟨st, rfl, rfl⟩ := even_flat h1
  obtain ⟨ps, rfl, rfl⟩ := even_flat h0
  obtain ⟨i, rfl⟩ := Int.eq_ofNat_of_zero_le h6
  rw [ptsA_flat] at ht2 h2 h5
  simp only [ptsA_flat, Int.toNat_natCast] at ht2
  refine ⟨_, _, ht2, loop_run mixed ECh_ok (s_chS ps st i) (inv_chS ps st i) (me_chS ps st i) re_chS (rs_chS ps st i) k_chS (fun _ => rfl) (noLoops nl_chS) (round_chS ps st i h2 h5 h4 (by omega)) (x := st.length) ⟨Nat.le_refl _, rfl⟩ (π := []) rfl ?_⟩
  refine ⟨rfl, rfl, ?_, wvs_spread' [0, 3, 4] hlen rfl ?_⟩
  · repeat' (first | exact True.intro | exact rfl | exact wv_top _ _ | exact fun _ => rfl | assumption | exact Eq.symm (by assumption) | exact vI0 rfl | refine And.intro ?_ ?_)
  · rw [hpick]
    repeat' (first | exact True.intro | exact rfl | exact wv_top _ _ | exact fun _ => rfl | assumption | exact Eq.symm (by assumption) | exact vI0 rfl | refine And.intro ?_ ?_)
def ltCi : LT := fun j s k => match j with
  | 1 => e_chI s k
  | _ => none
def ltCs : LT := fun j s k => match j with
  | 1 => e_chS s k
  | _ => none
noncomputable def c_chO : Code := ((loopsOf (codeOf Try.f73))[0]?).getD .skip
def k_chO : Ex → List Nat := keeps [3, 7, 8, 9] [(0, [3])] [2]
def s_chO (ps : List Pt) : Nat × (List Pt) → St := fun (i, st) => ⟨(topV :: topV :: topV :: .slice (some ⟨1, 0, none⟩) st.length st.length :: topV :: topV :: topV :: .slice (some ⟨0, 0, none⟩) ps.length ps.length :: .int .i64 ps.length :: .int .i64 i :: topV :: topV :: topV :: topV :: topV :: topV :: topV :: topV :: topV :: topV :: topV :: topV :: topV :: topV :: topV :: topV :: topV :: topV :: topV :: topV :: topV :: topV :: topV :: topV :: topV :: topV :: topV :: topV :: topV :: topV :: topV :: topV :: topV :: topV :: []), [some ⟨.view, .ints (flat ps)⟩, some ⟨.row 32 2, .ints (flat st)⟩]⟩
def re_chO : Nat × (List Pt) → Ex := fun _ => .exit 0
def rs_chO (ps : List Pt) : Nat × (List Pt) → St := fun (i, st) => ⟨(topV :: topV :: topV :: .slice (some ⟨1, 0, none⟩) (chn st (ps.drop i)).length (chn st (ps.drop i)).length :: topV :: topV :: topV :: topV :: topV :: topV :: topV :: topV :: topV :: topV :: topV :: topV :: topV :: topV :: topV :: topV :: topV :: topV :: topV :: topV :: topV :: topV :: topV :: topV :: topV :: topV :: topV :: topV :: topV :: topV :: topV :: topV :: topV :: topV :: topV :: topV :: topV :: topV :: topV :: topV :: []), [some ⟨.view, .ints (flat ps)⟩, some ⟨.row 32 2, .ints (flat (chn st (ps.drop i)))⟩]⟩
set_option maxRecDepth 100000 in
theorem tr_chO (ps : List Pt) (i : Nat) (st : List Pt) : bodyL Try.prog ECh 30 12 ltCi 1 c_chO k_chO 16 (s_chO ps (i, st)) = brT (decide ((↑i : Int) < (↑ps.length : Int))) (.need ((0 : Int) ≤ (↑i : Int) ∧ (↑i : Int) < (↑ps.length : Int)) (.need ((0 : Nat) + (↑i : Int).toNat * (2 : Nat) + (2 : Nat) ≤ (flat ps).length) (.need ((↑st.length : Int) = (↑st.length : Int)) (.need ((↑ps.length : Int) = (↑ps.length : Int)) (.need ((0 : Int) ≤ (↑i : Int)) (.need ((flat st).length = st.length * (2 : Nat)) (.need (allV (ptsA st.length (flat st)) = true) (.need (ptB ((flat ps).getD ((0 : Nat) + (↑i : Int).toNat * (2 : Nat)) (0 : Int)) ((flat ps).getD ((0 : Nat) + (↑i : Int).toNat * (2 : Nat) + (1 : Nat)) (0 : Int)) = true) (.need (st.length ≤ (1000 : Nat)) (.need ((popN (ptsA st.length (flat st)) ((flat ps).getD ((0 : Nat) + (↑i : Int).toNat * (2 : Nat)) (0 : Int), (flat ps).getD ((0 : Nat) + (↑i : Int).toNat * (2 : Nat) + (1 : Nat)) (0 : Int)) st.length + (1 : Nat)) * (16 : Nat) ≤ (140737488355328 : Nat) ∧ popN (ptsA st.length (flat st)) ((flat ps).getD ((0 : Nat) + (↑i : Int).toNat * (2 : Nat)) (0 : Int), (flat ps).getD ((0 : Nat) + (↑i : Int).toNat * (2 : Nat) + (1 : Nat)) (0 : Int)) st.length + (1 : Nat) ≤ (1000000 : Nat)) (.need ((0 : Nat) + popN (ptsA st.length (flat st)) ((flat ps).getD ((0 : Nat) + (↑i : Int).toNat * (2 : Nat)) (0 : Int), (flat ps).getD ((0 : Nat) + (↑i : Int).toNat * (2 : Nat) + (1 : Nat)) (0 : Int)) st.length * (2 : Nat) ≤ (flat st).length) (.leaf .normal ⟨(topV :: topV :: topV :: .slice (some ⟨4, 0, none⟩) (popN (ptsA st.length (flat st)) ((flat ps).getD (0 + (↑i : Int).toNat * (2 : Nat)) 0, (flat ps).getD (0 + (↑i : Int).toNat * (2 : Nat) + 1) 0) st.length + 1) (popN (ptsA st.length (flat st)) ((flat ps).getD (0 + (↑i : Int).toNat * (2 : Nat)) 0, (flat ps).getD (0 + (↑i : Int).toNat * (2 : Nat) + 1) 0) st.length + 1) :: topV :: topV :: topV :: .slice (some ⟨0, 0, none⟩) (ps.length) (ps.length) :: .int .i64 ((↑ps.length : Int)) :: .int .i64 (IntKind.i64.wrap ((↑i : Int) + 1)) :: topV :: topV :: topV :: topV :: topV :: topV :: topV :: topV :: topV :: topV :: topV :: topV :: topV :: topV :: topV :: topV :: topV :: topV :: topV :: topV :: topV :: topV :: topV :: topV :: topV :: topV :: topV :: topV :: topV :: topV :: topV :: topV :: topV :: topV :: []), [some ⟨.view, .ints (flat ps)⟩, some deadB, some ⟨.box, .vals [.int .i64 ((flat ps).getD (0 + (↑i : Int).toNat * 2) 0), .int .i64 ((flat ps).getD (0 + (↑i : Int).toNat * 2 + 1) 0)]⟩, some ⟨.row 32 2, .vals [.int .i64 ((flat ps).getD (0 + (↑i : Int).toNat * 2) 0), .int .i64 ((flat ps).getD (0 + (↑i : Int).toNat * 2 + 1) 0)]⟩, some ⟨.row 32 2, .ints (List.take (popN (ptsA st.length (flat st)) ((flat ps).getD (0 + (↑i : Int).toNat * (2 : Nat)) 0, (flat ps).getD (0 + (↑i : Int).toNat * (2 : Nat) + 1) 0) st.length * 2) (List.drop 0 (flat st)) ++ [(flat ps).getD (0 + (↑i : Int).toNat * 2) 0, (flat ps).getD (0 + (↑i : Int).toNat * 2 + 1) 0])⟩]⟩)))))))))))) (.leaf (.exit 0) ⟨(topV :: topV :: topV :: .slice (some ⟨1, 0, none⟩) (st.length) (st.length) :: topV :: topV :: topV :: topV :: topV :: topV :: topV :: topV :: topV :: topV :: topV :: topV :: topV :: topV :: topV :: topV :: topV :: topV :: topV :: topV :: topV :: topV :: topV :: topV :: topV :: topV :: topV :: topV :: topV :: topV :: topV :: topV :: topV :: topV :: topV :: topV :: topV :: topV :: topV :: topV :: []), [some ⟨.view, .ints (flat ps)⟩, some ⟨.row 32 2, .ints (flat st)⟩]⟩) := by kernel_rfl
def inv_chO (ps : List Pt) : Nat × (List Pt) → Prop := fun (i, st) => i ≤ ps.length ∧ st.length ≤ i ∧ allV st = true
def me_chO (ps : List Pt) : Nat × (List Pt) → Nat := fun (i, st) => ps.length - i
/-- A round of this loop. -/
def Round_chO (ps : List Pt) : Prop := ∀ xx : Nat × (List Pt), inv_chO ps xx → (bodyL Try.prog ECh 30 12 ltCi 1 c_chO k_chO 16 (s_chO ps xx)).ok (RoundEnd 1 (s_chO ps) (inv_chO ps) (me_chO ps) re_chO (rs_chO ps) xx) (fun _ _ => False)
def e_chO (s : St) (k : Ex → St → Tree) : Option Tree := match Nat.beq s.tmps.length 44, pickL s.tmps [3, 7, 8, 9], s.mem with
  | true, [.slice none 0 0, .slice (some ⟨0, 0, none⟩) n _, .int .i64 n1, .int .i64 i], [some ⟨.view, .ints xs⟩] => some (needs [i = 0, n1 = n, xs.length = n * 2, allV (ptsA n xs) = true, n ≤ 1000] (k (.exit 0) ⟨(topV :: topV :: topV :: .slice (some ⟨1, 0, none⟩) (chn [] (ptsA n xs)).length (chn [] (ptsA n xs)).length :: topV :: topV :: topV :: topV :: topV :: topV :: topV :: topV :: topV :: topV :: topV :: topV :: topV :: topV :: topV :: topV :: topV :: topV :: topV :: topV :: topV :: topV :: topV :: topV :: topV :: topV :: topV :: topV :: topV :: topV :: topV :: topV :: topV :: topV :: topV :: topV :: topV :: topV :: topV :: topV :: []), [some ⟨.view, .ints xs⟩, some ⟨.row 32 2, .ints (flat (chn [] (ptsA n xs)))⟩]⟩))
  | _, _, _ => none
noncomputable def c_chP : Code := ((loopsOf (codeOf Try.f108))[0]?).getD .skip
def k_chP : Ex → List Nat := keeps [0, 3, 4] [(0, [3])] [2]
def s_chP (ps : List Pt) : Nat × (List Pt) → St := fun (i, st) => ⟨(.slice (some ⟨0, 0, none⟩) ps.length ps.length :: topV :: topV :: .slice (some ⟨2, 0, none⟩) st.length st.length :: .int .i64 i :: topV :: topV :: topV :: topV :: topV :: topV :: topV :: topV :: topV :: topV :: topV :: topV :: topV :: topV :: topV :: topV :: topV :: topV :: topV :: topV :: topV :: topV :: topV :: topV :: topV :: topV :: topV :: topV :: topV :: topV :: topV :: topV :: topV :: topV :: topV :: topV :: topV :: topV :: topV :: topV :: topV :: topV :: topV :: []), [some ⟨.view, .ints (flat ps)⟩, some ⟨.dead, .vals []⟩, some ⟨.row 32 2, .ints (flat st)⟩]⟩
def re_chP : Nat × (List Pt) → Ex := fun _ => .exit 0
def rs_chP (ps : List Pt) : Nat × (List Pt) → St := fun (i, st) => ⟨(topV :: topV :: topV :: .slice (some ⟨2, 0, none⟩) (chn st (ps.drop i)).length (chn st (ps.drop i)).length :: topV :: topV :: topV :: topV :: topV :: topV :: topV :: topV :: topV :: topV :: topV :: topV :: topV :: topV :: topV :: topV :: topV :: topV :: topV :: topV :: topV :: topV :: topV :: topV :: topV :: topV :: topV :: topV :: topV :: topV :: topV :: topV :: topV :: topV :: topV :: topV :: topV :: topV :: topV :: topV :: topV :: topV :: topV :: topV :: []), [some ⟨.view, .ints (flat ps)⟩, some ⟨.dead, .vals []⟩, some ⟨.row 32 2, .ints (flat (chn st (ps.drop i)))⟩]⟩
set_option maxRecDepth 100000 in
theorem tr_chP (ps : List Pt) (i : Nat) (st : List Pt) : bodyL Try.prog ECh 30 12 ltCs 1 c_chP k_chP 16 (s_chP ps (i, st)) = brT (decide ((↑i : Int) < (↑ps.length : Int))) (.need ((flat ps).length = ps.length * (2 : Nat)) (.need (allV (ptsA ps.length (flat ps)) = true) (.need ((0 : Int) ≤ (↑i : Int)) (.need ((↑i : Int) < (↑ps.length : Int)) (.need ((flat st).length = st.length * (2 : Nat)) (.need (allV (ptsA st.length (flat st)) = true) (.need (st.length ≤ (1000 : Nat)) (.need ((0 : Int) ≤ (↑i : Int) ∧ (↑i : Int) < (↑ps.length : Int)) (.need ((0 : Nat) + (↑i : Int).toNat * (2 : Nat) + (2 : Nat) ≤ (flat ps).length) (.need ((popN (ptsA st.length (flat st)) ((ptsA ps.length (flat ps)).getD (↑i : Int).toNat ((0 : Int), (0 : Int))) st.length + (1 : Nat)) * (16 : Nat) ≤ (140737488355328 : Nat) ∧ popN (ptsA st.length (flat st)) ((ptsA ps.length (flat ps)).getD (↑i : Int).toNat ((0 : Int), (0 : Int))) st.length + (1 : Nat) ≤ (1000000 : Nat)) (.need ((0 : Nat) + popN (ptsA st.length (flat st)) ((ptsA ps.length (flat ps)).getD (↑i : Int).toNat ((0 : Int), (0 : Int))) st.length * (2 : Nat) ≤ (flat st).length) (.leaf .normal ⟨(.slice (some ⟨0, 0, none⟩) (ps.length) (ps.length) :: topV :: topV :: .slice (some ⟨4, 0, none⟩) (popN (ptsA st.length (flat st)) ((ptsA ps.length (flat ps)).getD (↑i : Int).toNat (0, 0)) st.length + 1) (popN (ptsA st.length (flat st)) ((ptsA ps.length (flat ps)).getD (↑i : Int).toNat (0, 0)) st.length + 1) :: .int .i64 (IntKind.i64.wrap ((↑i : Int) + 1)) :: topV :: topV :: topV :: topV :: topV :: topV :: topV :: topV :: topV :: topV :: topV :: topV :: topV :: topV :: topV :: topV :: topV :: topV :: topV :: topV :: topV :: topV :: topV :: topV :: topV :: topV :: topV :: topV :: topV :: topV :: topV :: topV :: topV :: topV :: topV :: topV :: topV :: topV :: topV :: topV :: topV :: topV :: topV :: []), [some ⟨.view, .ints (flat ps)⟩, some deadB, some deadB, some ⟨.row 32 2, .vals [.int .i64 ((flat ps).getD (0 + (↑i : Int).toNat * 2) 0), .int .i64 ((flat ps).getD (0 + (↑i : Int).toNat * 2 + 1) 0)]⟩, some ⟨.row 32 2, .ints (List.take (popN (ptsA st.length (flat st)) ((ptsA ps.length (flat ps)).getD (↑i : Int).toNat (0, 0)) st.length * 2) (List.drop 0 (flat st)) ++ [(flat ps).getD (0 + (↑i : Int).toNat * 2) 0, (flat ps).getD (0 + (↑i : Int).toNat * 2 + 1) 0])⟩]⟩)))))))))))) (.leaf (.exit 0) ⟨(topV :: topV :: topV :: .slice (some ⟨2, 0, none⟩) (st.length) (st.length) :: topV :: topV :: topV :: topV :: topV :: topV :: topV :: topV :: topV :: topV :: topV :: topV :: topV :: topV :: topV :: topV :: topV :: topV :: topV :: topV :: topV :: topV :: topV :: topV :: topV :: topV :: topV :: topV :: topV :: topV :: topV :: topV :: topV :: topV :: topV :: topV :: topV :: topV :: topV :: topV :: topV :: topV :: topV :: topV :: []), [some ⟨.view, .ints (flat ps)⟩, some deadB, some ⟨.row 32 2, .ints (flat st)⟩]⟩) := by kernel_rfl
def inv_chP (ps : List Pt) : Nat × (List Pt) → Prop := fun (i, st) => i ≤ ps.length ∧ st.length ≤ i ∧ allV st = true
def me_chP (ps : List Pt) : Nat × (List Pt) → Nat := fun (i, st) => ps.length - i
/-- A round of this loop. -/
def Round_chP (ps : List Pt) : Prop := ∀ xx : Nat × (List Pt), inv_chP ps xx → (bodyL Try.prog ECh 30 12 ltCs 1 c_chP k_chP 16 (s_chP ps xx)).ok (RoundEnd 2 (s_chP ps) (inv_chP ps) (me_chP ps) re_chP (rs_chP ps) xx) (fun _ _ => False)
def e_chP (s : St) (k : Ex → St → Tree) : Option Tree := match Nat.beq s.tmps.length 48, pickL s.tmps [0, 3, 4], s.mem with
  | true, [.slice (some ⟨0, 0, none⟩) n _, .slice (some ⟨1, 0, none⟩) z _, .int .i64 i], [some ⟨.view, .ints xs⟩, some ⟨.row 32 2, .vals []⟩] => some (needs [i = 0, z = 0, xs.length = n * 2, allV (ptsA n xs) = true, n ≤ 1000] (k (.exit 0) ⟨(topV :: topV :: topV :: .slice (some ⟨2, 0, none⟩) (chn [] (ptsA n xs)).length (chn [] (ptsA n xs)).length :: topV :: topV :: topV :: topV :: topV :: topV :: topV :: topV :: topV :: topV :: topV :: topV :: topV :: topV :: topV :: topV :: topV :: topV :: topV :: topV :: topV :: topV :: topV :: topV :: topV :: topV :: topV :: topV :: topV :: topV :: topV :: topV :: topV :: topV :: topV :: topV :: topV :: topV :: topV :: topV :: topV :: topV :: topV :: topV :: []), [some ⟨.view, .ints xs⟩, some ⟨.dead, .vals []⟩, some ⟨.row 32 2, .ints (flat (chn [] (ptsA n xs)))⟩]⟩))
  | _, _, _ => none
set_option maxRecDepth 100000 in
theorem in_chO : loopsOf c_chO = [c_chI] := by kernel_rfl
theorem ltCi_good : LoopsGood Try.prog ltCi 1 c_chO := by
  intro i d hd s k t F H hlt ht
  rw [in_chO] at hd
  cases i with
  | zero =>
    obtain rfl : c_chI = d := by simpa using hd
    exact lg_chI s k t F H hlt ht
  | succ i => simp at hd
set_option maxRecDepth 100000 in
theorem in_chP : loopsOf c_chP = [c_chS] := by kernel_rfl
theorem ltCs_good : LoopsGood Try.prog ltCs 1 c_chP := by
  intro i d hd s k t F H hlt ht
  rw [in_chP] at hd
  cases i with
  | zero =>
    obtain rfl : c_chS = d := by simpa using hd
    exact lg_chS s k t F H hlt ht
  | succ i => simp at hd
theorem chn_step {ps st : List Pt} {i : Nat} (hi : i < ps.length) : chn st (ps.drop i) = chn (pushP st (ps.getD i (0, 0))) (ps.drop (i + 1)) := by rw [drop_cons hi (0, 0)]; rfl
theorem chn_end {ps st : List Pt} {i : Nat} (hi : ps.length ≤ i) : chn st (ps.drop i) = st := by rw [List.drop_of_length_le hi]; rfl
set_option maxRecDepth 100000 in
theorem round_chO (ps : List Pt) (hp : allV ps = true) (h : ps.length ≤ 1000) : Round_chO ps := by
  rintro ⟨i, st⟩ ⟨h1, h2, h3⟩
  rw [tr_chO]
  simp only [ptsA_flat, Int.toNat_natCast, Nat.zero_add, flat_get0, flat_get1, flat_length, List.drop_zero, flat_take, flat_snoc]
  refine brT_ok.2 ⟨fun hlt => ?_, fun hge => ?_⟩
  · have hi : i < ps.length := by have := of_decide_eq_true hlt; omega
    have hk : popN st ((ps.getD i (0, 0)).1, (ps.getD i (0, 0)).2) st.length ≤ st.length := popN_le st _ _
    have el : popN st ((ps.getD i (0, 0)).1, (ps.getD i (0, 0)).2) st.length + 1 = (pushP st (ps.getD i (0, 0))).length := (pushP_len1 st _).symm
    refine ⟨by omega, by omega, by first | exact True.intro | rfl, by first | exact True.intro | rfl, by omega, by first | exact True.intro | rfl, h3, allV_at hp hi, by omega, ⟨by omega, by omega⟩, by omega, ?_⟩
    rw [wsucc hi (by omega), el]
    refine ⟨(i + 1, pushP st (ps.getD i (0, 0))), [some 4], ⟨by omega, by omega, allV_push h3 (allV_at hp hi)⟩, ?_, rfl, by simp only [rs_chO, chn_step hi], ?_⟩
    · show ps.length - (i + 1) < ps.length - i; omega
    · repeat' (first | exact True.intro | exact rfl | exact fun _ => rfl | (simp; done) | refine And.intro ?_ ?_)
  · have hge := of_decide_eq_false hge
    refine ⟨rfl, [some 1], ?_⟩
    simp only [rs_chO, chn_end (ps := ps) (st := st) (i := i) (by omega)]
    repeat' (first | exact True.intro | exact rfl | exact fun _ => rfl | (simp; done) | refine And.intro ?_ ?_)
set_option maxRecDepth 100000 in
theorem lg_chO : LoopE Try.prog e_chO c_chO := by
  intro s k t F H hlt ht
  unfold e_chO at hlt
  split at hlt
  rotate_left
  · cases hlt
  rename_i hlen hpick hmem
  obtain ⟨tmps, mem⟩ := s
  simp only at hlen hpick hmem
  subst hmem
  obtain rfl := Option.some.inj hlt
  obtain ⟨⟨rfl, rfl, h1, h2, h3, _⟩, ht2⟩ := needs_ok ht
  clear ht hlt
  obtain ⟨ps, rfl, rfl⟩ := even_flat h1
  rw [ptsA_flat] at ht2 h2
  refine ⟨_, _, ht2, loop_run2 mixed ECh_ok (s_chO ps) (inv_chO ps) (me_chO ps) re_chO (rs_chO ps) k_chO (fun _ => rfl) ltCi_good (round_chO ps h2 h3) (x := (0, [])) ⟨Nat.zero_le _, Nat.le_refl _, rfl⟩ (π := [none]) rfl ?_⟩
  refine ⟨rfl, rfl, ?_, wvs_spread' [3, 7, 8, 9] hlen rfl ?_⟩
  · repeat' (first | exact True.intro | exact rfl | exact wv_top _ _ | exact fun _ => rfl | assumption | exact Eq.symm (by assumption) | exact vI0 rfl | refine And.intro ?_ ?_)
  · rw [hpick]
    repeat' (first | exact True.intro | exact rfl | exact wv_top _ _ | exact fun _ => rfl | assumption | exact Eq.symm (by assumption) | exact vI0 rfl | refine And.intro ?_ ?_)
set_option maxRecDepth 100000 in
theorem round_chP (ps : List Pt) (hp : allV ps = true) (h : ps.length ≤ 1000) : Round_chP ps := by
  rintro ⟨i, st⟩ ⟨h1, h2, h3⟩
  rw [tr_chP]
  simp only [ptsA_flat, Int.toNat_natCast, Nat.zero_add, flat_get0, flat_get1, flat_length, List.drop_zero, flat_take, flat_snoc]
  refine brT_ok.2 ⟨fun hlt => ?_, fun hge => ?_⟩
  · have hi : i < ps.length := by have := of_decide_eq_true hlt; omega
    have hk : popN st (ps.getD i (0, 0)) st.length ≤ st.length := popN_le st _ _
    have el : popN st (ps.getD i (0, 0)) st.length + 1 = (pushP st (ps.getD i (0, 0))).length := (pushP_len1 st _).symm
    refine ⟨by first | exact True.intro | rfl, hp, by omega, by omega, by first | exact True.intro | rfl, h3, by omega, by omega, by omega, ⟨by omega, by omega⟩, by omega, ?_⟩
    rw [wsucc hi (by omega), el]
    refine ⟨(i + 1, pushP st (ps.getD i (0, 0))), [some 4], ⟨by omega, by omega, allV_push h3 (allV_at hp hi)⟩, ?_, rfl, by simp only [rs_chP, chn_step hi], ?_⟩
    · show ps.length - (i + 1) < ps.length - i; omega
    · repeat' (first | exact True.intro | exact rfl | exact fun _ => rfl | (simp; done) | refine And.intro ?_ ?_)
  · have hge := of_decide_eq_false hge
    refine ⟨rfl, [some 2], ?_⟩
    simp only [rs_chP, chn_end (ps := ps) (st := st) (i := i) (by omega)]
    repeat' (first | exact True.intro | exact rfl | exact fun _ => rfl | (simp; done) | refine And.intro ?_ ?_)
set_option maxRecDepth 100000 in
theorem lg_chP : LoopE Try.prog e_chP c_chP := by
  intro s k t F H hlt ht
  unfold e_chP at hlt
  split at hlt
  rotate_left
  · cases hlt
  rename_i hlen hpick hmem
  obtain ⟨tmps, mem⟩ := s
  simp only at hlen hpick hmem
  subst hmem
  obtain rfl := Option.some.inj hlt
  obtain ⟨⟨rfl, rfl, h1, h2, h3, _⟩, ht2⟩ := needs_ok ht
  clear ht hlt
  obtain ⟨ps, rfl, rfl⟩ := even_flat h1
  rw [ptsA_flat] at ht2 h2
  refine ⟨_, _, ht2, loop_run2 mixed ECh_ok (s_chP ps) (inv_chP ps) (me_chP ps) re_chP (rs_chP ps) k_chP (fun _ => rfl) ltCs_good (round_chP ps h2 h3) (x := (0, [])) ⟨Nat.zero_le _, Nat.le_refl _, rfl⟩ (π := [some 1]) rfl ?_⟩
  refine ⟨rfl, rfl, ?_, wvs_spread' [0, 3, 4] hlen rfl ?_⟩
  · repeat' (first | exact True.intro | exact rfl | exact wv_top _ _ | exact fun _ => rfl | assumption | exact Eq.symm (by assumption) | exact vI0 rfl | refine And.intro ?_ ?_)
  · rw [hpick]
    repeat' (first | exact True.intro | exact rfl | exact wv_top _ _ | exact fun _ => rfl | assumption | exact Eq.symm (by assumption) | exact vI0 rfl | refine And.intro ?_ ?_)
theorem Lr_chO {fn : Func} (hf : Try.prog.funcs[73]? = some fn) : LoopsGood Try.prog (lt1 e_chO) 0 (codeOf fn) := by
  obtain rfl := fn_is Try.func73 hf
  exact lt1_good lg_chO
theorem Lr_chP {fn : Func} (hf : Try.prog.funcs[108]? = some fn) : LoopsGood Try.prog (lt1 e_chP) 0 (codeOf fn) := by
  obtain rfl := fn_is Try.func108 hf
  exact lt1_good lg_chP
def LCn : FuncId → LT := fun f => match f with
  | 73 => lt1 e_chO
  | 108 => lt1 e_chP
  | _ => noL
def ECn : Env := mkE TCh RSq LCn
theorem ECn_ok : EnvOk Try.prog ECn := mkEOk TCh_ok RSq_ok (by
  intro f fn hf
  unfold LCn
  split
  all_goals first | with_reducible exact Lr_chO hf | with_reducible exact Lr_chP hf | exact noL_good)
set_option maxRecDepth 100000 in
theorem tr_iCn (ps : List Pt) : bodyX Try.prog ECn 30 12 73 [.row ps.length (.ints (flat ps))] = .need ((0 : Int) = (0 : Int)) (.need ((↑ps.length : Int) = (↑ps.length : Int)) (.need ((flat ps).length = ps.length * (2 : Nat)) (.need (allV (ptsA ps.length (flat ps)) = true) (.need (ps.length ≤ (1000 : Nat)) (.fin (.slice (some ⟨1, 0, none⟩) ((chn [] (ptsA ps.length (flat ps))).length) ((chn [] (ptsA ps.length (flat ps))).length)) [some ⟨.view, .ints (flat ps)⟩, some ⟨.row 32 2, .ints (flat (chn [] (ptsA ps.length (flat ps))))⟩]))))) := by kernel_rfl
set_option maxRecDepth 100000 in
theorem tr_sCn (ps : List Pt) : bodyX Try.prog ECn 30 12 108 [.row ps.length (.ints (flat ps))] = .need ((0 : Int) = (0 : Int)) (.need ((0 : Nat) = (0 : Nat)) (.need ((flat ps).length = ps.length * (2 : Nat)) (.need (allV (ptsA ps.length (flat ps)) = true) (.need (ps.length ≤ (1000 : Nat)) (.fin (.slice (some ⟨2, 0, none⟩) ((chn [] (ptsA ps.length (flat ps))).length) ((chn [] (ptsA ps.length (flat ps))).length)) [some ⟨.view, .ints (flat ps)⟩, some deadB, some ⟨.row 32 2, .ints (flat (chn [] (ptsA ps.length (flat ps))))⟩]))))) := by kernel_rfl
theorem resR_iCn {ps : List Pt} (hv : allV ps = true) (h : ps.length ≤ 1000) : ResR Try.prog 73 [.row ps.length (.ints (flat ps))] (rowP (chn [] ps)) (blkP (chn [] ps)) := by
  refine bodyX_resR mixed ECn_ok (m := 30) (n := 12) rfl ?_
  rw [tr_iCn]
  simp only [ptsA_flat]
  exact ⟨trivial, trivial, flat_length ps, hv, h, some 1, ⟨rfl, rfl, rfl⟩, rfl, rfl, rfl⟩
theorem resR_sCn {ps : List Pt} (hv : allV ps = true) (h : ps.length ≤ 1000) : ResR Try.prog 108 [.row ps.length (.ints (flat ps))] (rowP (chn [] ps)) (blkP (chn [] ps)) := by
  refine bodyX_resR mixed ECn_ok (m := 30) (n := 12) rfl ?_
  rw [tr_sCn]
  simp only [ptsA_flat]
  exact ⟨trivial, trivial, flat_length ps, hv, h, some 2, ⟨rfl, rfl, rfl⟩, rfl, rfl, rfl⟩
end Go.Proofs.Ytieibbdfdepmbaa
