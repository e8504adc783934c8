/-
  Texts that the proof needs, merged. Written by an AI agent.
-/
import Derived.Orders
import Derived.Below
import Derived.OrdersIn
import Derived.Deep.LoopGhost
import Derived.WalkKit
import Derived.Laws.CopyRow
import Derived.Laws.AppendOwn
import Derived.Laws.Slices
import Derived.Laws.MakeOwn
import Derived.Test.YtbhdhejefpdjfaaRows
import Derived.ProofKit
import Derived.OpenShut
import Derived.Carry
import Derived.IntWalk
import Derived.Test.YtbhdhejefpdjfaaProg
import Derived.WalkSpells
import Derived.WalkLawsBesides
import Derived.Lib.Hide
import Derived.Deep.QuietTactic
import Derived.BigQuiet
import Derived.KernelRfl
import Derived.Deep.RegionHeld3
import Derived.LoopTactic
import Derived.Laws.StructEq
import Derived.Laws.Tables
import Derived.RangeFuncNested
import Derived.RangeFuncLeaves
import Derived.Deep.Slices
import Derived.Deep.Fields
import Derived.ChangeSame
import Derived.Deep.DeepCutAuto
import Derived.Shelf.SlSortCmp.WholeK
import Derived.Sort.Grow
import Derived.Shelf.SlSortCmp.NoneTotal
import Derived.Test.YtbhdhejefpdjfaaZConvexDiagonals5
namespace Go.Proofs.Ytbhdhejefpdjfaa
set_option linter.all false
open Go.RowKit
/-- So many different valid points. -/
def rngQ (ps : List Pt) : Bool := okL ps && decide (3 ≤ ps.length) && ((srtL ps).length == ps.length)
set_option maxRecDepth 100000 in
theorem tr_sRng (ps : List Pt) : bodyV Try.prog EIs 30 12 53 [.row ps.length (.ints (flat ps))] = .need (ps.length * (2 : Nat) ≤ (List.drop (0 : Nat) (flat ps)).length) (.need (ps.length ≤ (1000000000 : Nat)) (brT (okL (ptsA ps.length (List.drop 0 (flat ps)))) (brT (decide (3 ≤ (↑ps.length : Int))) (brT (decide ((↑ps.length : Int) ≤ 20)) (.need (ps.length * (2 : Nat) ≤ (List.drop (0 : Nat) (flat ps)).length) (.need (ps.length ≤ (1000 : Nat)) (.fin (.bool ((↑(srtL (ptsA ps.length (List.drop 0 (flat ps)))).length : Int) == (↑ps.length : Int))) []))) (.fin (.bool (false)) [])) (.fin (.bool (false)) [])) (.fin (.bool (false)) []))) := by kernel_rfl
theorem res_sRng (ps : List Pt) (h : Big ps) : Res Try.prog 53 [.row ps.length (.ints (flat ps))] (.bool (rngQ ps)) := by
  refine bodyV_res mixed EIs_ok (m := 30) (n := 12) rfl ?_
  rw [tr_sRng]
  unfold Big at h
  simp only [List.drop_zero, ptsA_flat, flat_length]
  unfold rngQ
  have hq : ((((srtL ps).length : Nat) : Int) == (ps.length : Int)) = ((srtL ps).length == ps.length) := by rw [Bool.eq_iff_iff]; simp; omega
  rw [hq]
  rcases ho : okL ps with _ | _
  · simp [brT_ok, Tree.ok, h]
  · have hl : ps.length ≤ 20 := by
      unfold okL at ho
      simp only [Bool.and_eq_true, decide_eq_true_eq] at ho
      exact ho.2
    have a3 : (ps.length : Int) ≤ 20 := by omega
    have a4 : ps.length ≤ 1000 := by omega
    by_cases h1 : 3 ≤ ps.length
    · have a1 : (3 : Int) ≤ ps.length := by omega
      simp [brT_ok, Tree.ok, h, h1, a1, a3, a4]
    · have a1 : ¬ (3 : Int) ≤ ps.length := by omega
      simp [brT_ok, Tree.ok, h, h1, a1]
def pRng : List DArg → Option (Value × List Prop)
  | [.row m (.ints xs)] => some (.bool (rngQ (ptsA m xs)), [m * 2 ≤ xs.length, m ≤ 1000000000])
  | _ => none
theorem pRng_ok {ds : List DArg} {v : Value} {C : List Prop} (h : pRng ds = some (v, C)) (hC : AllP C) : Res Try.prog 53 ds v := by
  unfold pRng at h
  split at h
  · rename_i m xs
    obtain ⟨rfl, rfl⟩ : _ ∧ _ := by simpa using h
    obtain ⟨_, h2⟩ := ptsA_spec hC.1
    exact res_pts1 (pre := []) (post := []) hC.1 (res_sRng (ptsA m xs) (by unfold Big; rw [h2]; exact hC.2.1))
  · cases h
def TIt : Tab := fun f ds => match f with
  | 53 => pRng ds
  | f => TIs f ds
theorem TIt_ok : TabOk Try.prog TIt := by
  intro f ds v C h hC
  unfold TIt at h
  (try split at h)
  all_goals first | with_reducible exact pRng_ok h hC | exact TIs_ok _ _ _ _ h hC
def EIt : Env := mkE TIt RCe (fun _ => noL)
theorem EIt_ok : EnvOk Try.prog EIt := mkEOk TIt_ok RCe_ok (fun _ _ _ => noL_good)
def edX (ps : List Pt) (i k : Nat) : Int := relA (ps.getD i (0, 0)).1 (ps.getD i (0, 0)).2 (nxP ps i).1 (nxP ps i).2 (ps.getD k (0, 0)).1 (ps.getD k (0, 0)).2 (nxP ps k).1 (nxP ps k).2
def nbS (ps : List Pt) (i k : Nat) : Bool := decide (k + 1 = i) || decide ((i + 1) % ps.length = k)
def okS (ps : List Pt) (i k : Nat) : Bool := bif nbS ps i k then !(edX ps i k == 3) else edX ps i k == 0
def rowS (ps : List Pt) (i : Nat) : Bool := allQ (okS ps i) 0 i
def simS (ps : List Pt) : Bool := allQ (rowS ps) 0 ps.length
theorem pt_get {ps : List Pt} (h : allV ps = true) {j : Nat} (hj : j < ps.length) : ptB (ps.getD j (0, 0)).1 (ps.getD j (0, 0)).2 = true := List.all_eq_true.1 h (ps.getD j (0, 0)) (by simp [hj])
noncomputable def c_ssI : Code := ((loopsOf (codeOf Try.f44))[1]?).getD .skip
def k_ssI : Ex → List Nat := keeps [0, 3, 4, 5] [(2, [0, 3, 4]), (1, [0, 3, 4])] [2]
def s_ssI (ps : List Pt) (i : Nat) : Nat → St := fun k => ⟨(.slice (some ⟨0, 0, none⟩) ps.length ps.length :: topV :: topV :: .int .i64 ps.length :: .int .i64 i :: .int .i64 k :: topV :: topV :: topV :: topV :: topV :: topV :: topV :: topV :: topV :: topV :: topV :: topV :: topV :: topV :: topV :: topV :: topV :: topV :: topV :: topV :: topV :: topV :: topV :: topV :: topV :: topV :: topV :: topV :: topV :: topV :: topV :: topV :: topV :: topV :: topV :: topV :: topV :: topV :: topV :: topV :: topV :: topV :: topV :: topV :: topV :: topV :: topV :: topV :: topV :: []), [some ⟨.view, .ints (flat ps)⟩]⟩
def re_ssI (ps : List Pt) (i : Nat) : Nat → Ex := fun k => bif allQ (okS ps i) k (i - k) then .exit 2 else .ret
def rs_ssI (ps : List Pt) (i : Nat) : Nat → St := fun k => bif allQ (okS ps i) k (i - k) then ⟨(.slice (some ⟨0, 0, none⟩) ps.length ps.length :: topV :: topV :: .int .i64 ps.length :: .int .i64 i :: topV :: topV :: topV :: topV :: topV :: topV :: topV :: topV :: topV :: topV :: topV :: topV :: topV :: topV :: topV :: topV :: topV :: topV :: topV :: topV :: topV :: topV :: topV :: topV :: topV :: topV :: topV :: topV :: topV :: topV :: topV :: topV :: topV :: topV :: topV :: topV :: topV :: topV :: topV :: topV :: topV :: topV :: topV :: topV :: topV :: topV :: topV :: topV :: topV :: topV :: []), [some ⟨.view, .ints (flat ps)⟩]⟩ else ⟨(topV :: topV :: .bool false :: topV :: topV :: topV :: topV :: topV :: topV :: topV :: topV :: topV :: topV :: topV :: topV :: topV :: topV :: topV :: topV :: topV :: topV :: topV :: topV :: topV :: topV :: topV :: topV :: topV :: topV :: topV :: topV :: topV :: topV :: topV :: topV :: topV :: topV :: topV :: topV :: topV :: topV :: topV :: topV :: topV :: topV :: topV :: topV :: topV :: topV :: topV :: topV :: topV :: topV :: topV :: topV :: []), [some ⟨.view, .ints (flat ps)⟩]⟩
set_option maxRecDepth 100000 in
theorem tr_ssI (ps : List Pt) (i : Nat) (k : Nat) : bodyL Try.prog EIt 30 12 noL 2 c_ssI k_ssI 1 (s_ssI ps i k) = brT (decide ((↑k : Int) < (↑i : Int))) (.need ((0 : Int) ≤ (↑i : Int) ∧ (↑i : Int) < (↑ps.length : Int)) (.need ((0 : Nat) + (↑i : Int).toNat * (2 : Nat) + (2 : Nat) ≤ (flat ps).length) (.need (¬(↑ps.length : Int) = (0 : Int)) (.need ((0 : Int) ≤ (IntKind.i64.wrap ((↑i : Int) + (1 : Int))).tmod (↑ps.length : Int) ∧ (IntKind.i64.wrap ((↑i : Int) + (1 : Int))).tmod (↑ps.length : Int) < (↑ps.length : Int)) (.need ((0 : Nat) + ((IntKind.i64.wrap ((↑i : Int) + (1 : Int))).tmod (↑ps.length : Int)).toNat * (2 : Nat) + (2 : Nat) ≤ (flat ps).length) (.need ((0 : Int) ≤ (↑k : Int) ∧ (↑k : Int) < (↑ps.length : Int)) (.need ((0 : Nat) + (↑k : Int).toNat * (2 : Nat) + (2 : Nat) ≤ (flat ps).length) (.need (¬(↑ps.length : Int) = (0 : Int)) (.need ((0 : Int) ≤ (IntKind.i64.wrap ((↑k : Int) + (1 : Int))).tmod (↑ps.length : Int) ∧ (IntKind.i64.wrap ((↑k : Int) + (1 : Int))).tmod (↑ps.length : Int) < (↑ps.length : Int)) (.need ((0 : Nat) + ((IntKind.i64.wrap ((↑k : Int) + (1 : Int))).tmod (↑ps.length : Int)).toNat * (2 : Nat) + (2 : Nat) ≤ (flat ps).length) (.need (ptB ((flat ps).getD ((0 : Nat) + (↑i : Int).toNat * (2 : Nat)) (0 : Int)) ((flat ps).getD ((0 : Nat) + (↑i : Int).toNat * (2 : Nat) + (1 : Nat)) (0 : Int)) = true) (.need (ptB ((flat ps).getD ((0 : Nat) + ((IntKind.i64.wrap ((↑i : Int) + (1 : Int))).tmod (↑ps.length : Int)).toNat * (2 : Nat)) (0 : Int)) ((flat ps).getD ((0 : Nat) + ((IntKind.i64.wrap ((↑i : Int) + (1 : Int))).tmod (↑ps.length : Int)).toNat * (2 : Nat) + (1 : Nat)) (0 : Int)) = true) (.need (ptB ((flat ps).getD ((0 : Nat) + (↑k : Int).toNat * (2 : Nat)) (0 : Int)) ((flat ps).getD ((0 : Nat) + (↑k : Int).toNat * (2 : Nat) + (1 : Nat)) (0 : Int)) = true) (.need (ptB ((flat ps).getD ((0 : Nat) + ((IntKind.i64.wrap ((↑k : Int) + (1 : Int))).tmod (↑ps.length : Int)).toNat * (2 : Nat)) (0 : Int)) ((flat ps).getD ((0 : Nat) + ((IntKind.i64.wrap ((↑k : Int) + (1 : Int))).tmod (↑ps.length : Int)).toNat * (2 : Nat) + (1 : Nat)) (0 : Int)) = true) (brT (IntKind.i64.wrap ((↑k : Int) + 1) == (↑i : Int)) (brT (relA ((flat ps).getD (0 + (↑i : Int).toNat * 2) 0) ((flat ps).getD (0 + (↑i : Int).toNat * 2 + 1) 0) ((flat ps).getD (0 + ((IntKind.i64.wrap ((↑i : Int) + 1)).tmod (↑ps.length : Int)).toNat * 2) 0) ((flat ps).getD (0 + ((IntKind.i64.wrap ((↑i : Int) + 1)).tmod (↑ps.length : Int)).toNat * 2 + 1) 0) ((flat ps).getD (0 + (↑k : Int).toNat * 2) 0) ((flat ps).getD (0 + (↑k : Int).toNat * 2 + 1) 0) ((flat ps).getD (0 + ((IntKind.i64.wrap ((↑k : Int) + 1)).tmod (↑ps.length : Int)).toNat * 2) 0) ((flat ps).getD (0 + ((IntKind.i64.wrap ((↑k : Int) + 1)).tmod (↑ps.length : Int)).toNat * 2 + 1) 0) == 3) (.leaf .ret ⟨(topV :: topV :: .bool (false) :: topV :: topV :: topV :: topV :: topV :: topV :: topV :: topV :: topV :: topV :: topV :: topV :: topV :: topV :: topV :: topV :: topV :: topV :: topV :: topV :: topV :: topV :: topV :: topV :: topV :: topV :: topV :: topV :: topV :: topV :: topV :: topV :: topV :: topV :: topV :: topV :: topV :: topV :: topV :: topV :: topV :: topV :: topV :: topV :: topV :: topV :: topV :: topV :: topV :: topV :: topV :: topV :: []), [some ⟨.view, .ints (flat ps)⟩]⟩) (.leaf .normal ⟨(.slice (some ⟨0, 0, none⟩) (ps.length) (ps.length) :: topV :: topV :: .int .i64 ((↑ps.length : Int)) :: .int .i64 ((↑i : Int)) :: .int .i64 (IntKind.i64.wrap ((↑k : Int) + 1)) :: topV :: topV :: topV :: topV :: topV :: topV :: topV :: topV :: topV :: topV :: topV :: topV :: topV :: topV :: topV :: topV :: topV :: topV :: topV :: topV :: topV :: topV :: topV :: topV :: topV :: topV :: topV :: topV :: topV :: topV :: topV :: topV :: topV :: topV :: topV :: topV :: topV :: topV :: topV :: topV :: topV :: topV :: topV :: topV :: topV :: topV :: topV :: topV :: topV :: []), [some ⟨.view, .ints (flat ps)⟩]⟩)) (.need (¬(↑ps.length : Int) = (0 : Int)) (brT ((IntKind.i64.wrap ((↑i : Int) + 1)).tmod (↑ps.length : Int) == (↑k : Int)) (brT (relA ((flat ps).getD (0 + (↑i : Int).toNat * 2) 0) ((flat ps).getD (0 + (↑i : Int).toNat * 2 + 1) 0) ((flat ps).getD (0 + ((IntKind.i64.wrap ((↑i : Int) + 1)).tmod (↑ps.length : Int)).toNat * 2) 0) ((flat ps).getD (0 + ((IntKind.i64.wrap ((↑i : Int) + 1)).tmod (↑ps.length : Int)).toNat * 2 + 1) 0) ((flat ps).getD (0 + (↑k : Int).toNat * 2) 0) ((flat ps).getD (0 + (↑k : Int).toNat * 2 + 1) 0) ((flat ps).getD (0 + ((IntKind.i64.wrap ((↑k : Int) + 1)).tmod (↑ps.length : Int)).toNat * 2) 0) ((flat ps).getD (0 + ((IntKind.i64.wrap ((↑k : Int) + 1)).tmod (↑ps.length : Int)).toNat * 2 + 1) 0) == 3) (.leaf .ret ⟨(topV :: topV :: .bool (false) :: topV :: topV :: topV :: topV :: topV :: topV :: topV :: topV :: topV :: topV :: topV :: topV :: topV :: topV :: topV :: topV :: topV :: topV :: topV :: topV :: topV :: topV :: topV :: topV :: topV :: topV :: topV :: topV :: topV :: topV :: topV :: topV :: topV :: topV :: topV :: topV :: topV :: topV :: topV :: topV :: topV :: topV :: topV :: topV :: topV :: topV :: topV :: topV :: topV :: topV :: topV :: topV :: []), [some ⟨.view, .ints (flat ps)⟩]⟩) (brT (!(IntKind.i64.wrap ((↑i : Int) + 1)).tmod (↑ps.length : Int) == (↑k : Int)) (brT (!relA ((flat ps).getD (0 + (↑i : Int).toNat * 2) 0) ((flat ps).getD (0 + (↑i : Int).toNat * 2 + 1) 0) ((flat ps).getD (0 + ((IntKind.i64.wrap ((↑i : Int) + 1)).tmod (↑ps.length : Int)).toNat * 2) 0) ((flat ps).getD (0 + ((IntKind.i64.wrap ((↑i : Int) + 1)).tmod (↑ps.length : Int)).toNat * 2 + 1) 0) ((flat ps).getD (0 + (↑k : Int).toNat * 2) 0) ((flat ps).getD (0 + (↑k : Int).toNat * 2 + 1) 0) ((flat ps).getD (0 + ((IntKind.i64.wrap ((↑k : Int) + 1)).tmod (↑ps.length : Int)).toNat * 2) 0) ((flat ps).getD (0 + ((IntKind.i64.wrap ((↑k : Int) + 1)).tmod (↑ps.length : Int)).toNat * 2 + 1) 0) == 0) (.leaf .ret ⟨(topV :: topV :: .bool (false) :: topV :: topV :: topV :: topV :: topV :: topV :: topV :: topV :: topV :: topV :: topV :: topV :: topV :: topV :: topV :: topV :: topV :: topV :: topV :: topV :: topV :: topV :: topV :: topV :: topV :: topV :: topV :: topV :: topV :: topV :: topV :: topV :: topV :: topV :: topV :: topV :: topV :: topV :: topV :: topV :: topV :: topV :: topV :: topV :: topV :: topV :: topV :: topV :: topV :: topV :: topV :: topV :: []), [some ⟨.view, .ints (flat ps)⟩]⟩) (.leaf .normal ⟨(.slice (some ⟨0, 0, none⟩) (ps.length) (ps.length) :: topV :: topV :: .int .i64 ((↑ps.length : Int)) :: .int .i64 ((↑i : Int)) :: .int .i64 (IntKind.i64.wrap ((↑k : Int) + 1)) :: topV :: topV :: topV :: topV :: topV :: topV :: topV :: topV :: topV :: topV :: topV :: topV :: topV :: topV :: topV :: topV :: topV :: topV :: topV :: topV :: topV :: topV :: topV :: topV :: topV :: topV :: topV :: topV :: topV :: topV :: topV :: topV :: topV :: topV :: topV :: topV :: topV :: topV :: topV :: topV :: topV :: topV :: topV :: topV :: topV :: topV :: topV :: topV :: topV :: []), [some ⟨.view, .ints (flat ps)⟩]⟩)) (.leaf .normal ⟨(.slice (some ⟨0, 0, none⟩) (ps.length) (ps.length) :: topV :: topV :: .int .i64 ((↑ps.length : Int)) :: .int .i64 ((↑i : Int)) :: .int .i64 (IntKind.i64.wrap ((↑k : Int) + 1)) :: topV :: topV :: topV :: topV :: topV :: topV :: topV :: topV :: topV :: topV :: topV :: topV :: topV :: topV :: topV :: topV :: topV :: topV :: topV :: topV :: topV :: topV :: topV :: topV :: topV :: topV :: topV :: topV :: topV :: topV :: topV :: topV :: topV :: topV :: topV :: topV :: topV :: topV :: topV :: topV :: topV :: topV :: topV :: topV :: topV :: topV :: topV :: topV :: topV :: []), [some ⟨.view, .ints (flat ps)⟩]⟩))) (brT (!(IntKind.i64.wrap ((↑i : Int) + 1)).tmod (↑ps.length : Int) == (↑k : Int)) (brT (!relA ((flat ps).getD (0 + (↑i : Int).toNat * 2) 0) ((flat ps).getD (0 + (↑i : Int).toNat * 2 + 1) 0) ((flat ps).getD (0 + ((IntKind.i64.wrap ((↑i : Int) + 1)).tmod (↑ps.length : Int)).toNat * 2) 0) ((flat ps).getD (0 + ((IntKind.i64.wrap ((↑i : Int) + 1)).tmod (↑ps.length : Int)).toNat * 2 + 1) 0) ((flat ps).getD (0 + (↑k : Int).toNat * 2) 0) ((flat ps).getD (0 + (↑k : Int).toNat * 2 + 1) 0) ((flat ps).getD (0 + ((IntKind.i64.wrap ((↑k : Int) + 1)).tmod (↑ps.length : Int)).toNat * 2) 0) ((flat ps).getD (0 + ((IntKind.i64.wrap ((↑k : Int) + 1)).tmod (↑ps.length : Int)).toNat * 2 + 1) 0) == 0) (.leaf .ret ⟨(topV :: topV :: .bool (false) :: topV :: topV :: topV :: topV :: topV :: topV :: topV :: topV :: topV :: topV :: topV :: topV :: topV :: topV :: topV :: topV :: topV :: topV :: topV :: topV :: topV :: topV :: topV :: topV :: topV :: topV :: topV :: topV :: topV :: topV :: topV :: topV :: topV :: topV :: topV :: topV :: topV :: topV :: topV :: topV :: topV :: topV :: topV :: topV :: topV :: topV :: topV :: topV :: topV :: topV :: topV :: topV :: []), [some ⟨.view, .ints (flat ps)⟩]⟩) (.leaf .normal ⟨(.slice (some ⟨0, 0, none⟩) (ps.length) (ps.length) :: topV :: topV :: .int .i64 ((↑ps.length : Int)) :: .int .i64 ((↑i : Int)) :: .int .i64 (IntKind.i64.wrap ((↑k : Int) + 1)) :: topV :: topV :: topV :: topV :: topV :: topV :: topV :: topV :: topV :: topV :: topV :: topV :: topV :: topV :: topV :: topV :: topV :: topV :: topV :: topV :: topV :: topV :: topV :: topV :: topV :: topV :: topV :: topV :: topV :: topV :: topV :: topV :: topV :: topV :: topV :: topV :: topV :: topV :: topV :: topV :: topV :: topV :: topV :: topV :: topV :: topV :: topV :: topV :: topV :: []), [some ⟨.view, .ints (flat ps)⟩]⟩)) (.leaf .normal ⟨(.slice (some ⟨0, 0, none⟩) (ps.length) (ps.length) :: topV :: topV :: .int .i64 ((↑ps.length : Int)) :: .int .i64 ((↑i : Int)) :: .int .i64 (IntKind.i64.wrap ((↑k : Int) + 1)) :: topV :: topV :: topV :: topV :: topV :: topV :: topV :: topV :: topV :: topV :: topV :: topV :: topV :: topV :: topV :: topV :: topV :: topV :: topV :: topV :: topV :: topV :: topV :: topV :: topV :: topV :: topV :: topV :: topV :: topV :: topV :: topV :: topV :: topV :: topV :: topV :: topV :: topV :: topV :: topV :: topV :: topV :: topV :: topV :: topV :: topV :: topV :: topV :: topV :: []), [some ⟨.view, .ints (flat ps)⟩]⟩))))))))))))))))))) (.leaf (.exit 2) ⟨(.slice (some ⟨0, 0, none⟩) (ps.length) (ps.length) :: topV :: topV :: .int .i64 ((↑ps.length : Int)) :: .int .i64 ((↑i : Int)) :: topV :: topV :: topV :: topV :: topV :: topV :: topV :: topV :: topV :: topV :: topV :: topV :: topV :: topV :: topV :: topV :: topV :: topV :: topV :: topV :: topV :: topV :: topV :: topV :: topV :: topV :: topV :: topV :: topV :: topV :: topV :: topV :: topV :: topV :: topV :: topV :: topV :: topV :: topV :: topV :: topV :: topV :: topV :: topV :: topV :: topV :: topV :: topV :: topV :: topV :: []), [some ⟨.view, .ints (flat ps)⟩]⟩) := by kernel_rfl
set_option maxRecDepth 100000 in
theorem nl_ssI : loopsOf c_ssI = [] := by kernel_rfl
def inv_ssI (ps : List Pt) (i : Nat) : Nat → Prop := fun k => k ≤ i
def me_ssI (ps : List Pt) (i : Nat) : Nat → Nat := fun k => i - k
/-- A round of this loop. -/
def Round_ssI (ps : List Pt) (i : Nat) : Prop := ∀ xx : Nat, inv_ssI ps i xx → (bodyL Try.prog EIt 30 12 noL 2 c_ssI k_ssI 1 (s_ssI ps i xx)).ok (RoundEnd 1 (s_ssI ps i) (inv_ssI ps i) (me_ssI ps i) (re_ssI ps i) (rs_ssI ps i) xx) (fun _ _ => False)
def e_ssI (s : St) (k : Ex → St → Tree) : Option Tree := match Nat.beq s.tmps.length 55, pickL s.tmps [0, 3, 4, 5], s.mem with
  | true, [.slice (some ⟨0, 0, none⟩) n _, .int .i64 l, .int .i64 ii, .int .i64 kk], [some ⟨.view, .ints xs⟩] => some (needs [kk = 0, l = n, xs.length = n * 2, n ≤ 20, allV (ptsA n xs) = true, 0 ≤ ii, ii < n] (brT (allQ (okS (ptsA n xs) ii.toNat) 0 ii.toNat) (k (.exit 2) ⟨(.slice (some ⟨0, 0, none⟩) n n :: topV :: topV :: .int .i64 n :: .int .i64 ii :: topV :: topV :: topV :: topV :: topV :: topV :: topV :: topV :: topV :: topV :: topV :: topV :: topV :: topV :: topV :: topV :: topV :: topV :: topV :: topV :: topV :: topV :: topV :: topV :: topV :: topV :: topV :: topV :: topV :: topV :: topV :: topV :: topV :: topV :: topV :: topV :: topV :: topV :: topV :: topV :: topV :: topV :: topV :: topV :: topV :: topV :: topV :: topV :: topV :: topV :: []), [some ⟨.view, .ints xs⟩]⟩) (k .ret ⟨(topV :: topV :: .bool false :: topV :: topV :: topV :: topV :: topV :: topV :: topV :: topV :: topV :: topV :: topV :: topV :: topV :: topV :: topV :: topV :: topV :: topV :: topV :: topV :: topV :: topV :: topV :: topV :: topV :: topV :: topV :: topV :: topV :: topV :: topV :: topV :: topV :: topV :: topV :: topV :: topV :: topV :: topV :: topV :: topV :: topV :: topV :: topV :: topV :: topV :: topV :: topV :: topV :: topV :: topV :: topV :: []), [some ⟨.view, .ints xs⟩]⟩)))
  | _, _, _ => none
set_option maxRecDepth 100000 in
theorem round_ssI (ps : List Pt) (i : Nat) (h : ps.length ≤ 20) (hv : allV ps = true) (hi : i < ps.length) : Round_ssI ps i := by
  intro k h1
  have h1 : k ≤ i := h1
  rw [tr_ssI]
  simp only [Int.toNat_natCast, Nat.zero_add, flat_length, flat_get0, flat_get1]
  refine brT_ok.2 ⟨fun hlt => ?_, fun hge => ?_⟩
  · have hlt := of_decide_eq_true hlt
    have hk : k < ps.length := by omega
    have m1 := nx_lt hi
    have m2 := nx_lt hk
    have e2 : IntKind.i64.wrap ((k : Int) + 1) = ((k + 1 : Nat) : Int) := wsucc hk (by omega)
    have c1 : (IntKind.i64.wrap ((k : Int) + 1) == (i : Int)) = decide (k + 1 = i) := by rw [e2, Bool.eq_iff_iff]; simp; omega
    have c3 : ((((i + 1) % ps.length : Nat) : Int) == (k : Int)) = decide ((i + 1) % ps.length = k) := by
      generalize (i + 1) % ps.length = m
      rw [Bool.eq_iff_iff]
      simp
      omega
    simp only [nx_mod hi (by omega), nx_mod hk (by omega), c1, c3, Int.toNat_natCast, flat_get0, flat_get1]
    have hR : relA (ps.getD i (0, 0)).1 (ps.getD i (0, 0)).2 (ps.getD ((i + 1) % ps.length) (0, 0)).1 (ps.getD ((i + 1) % ps.length) (0, 0)).2 (ps.getD k (0, 0)).1 (ps.getD k (0, 0)).2 (ps.getD ((k + 1) % ps.length) (0, 0)).1 (ps.getD ((k + 1) % ps.length) (0, 0)).2 = edX ps i k := rfl
    simp only [hR, e2]
    refine ⟨by omega, by omega, by omega, by omega, by omega, by omega, by omega, by omega, by omega, by omega, pt_get hv hi, pt_get hv m1, pt_get hv hk, pt_get hv m2, ?_⟩
    have n0 : ¬ (ps.length : Int) = 0 := by omega
    have step : allQ (okS ps i) k (i - k) = (okS ps i k && allQ (okS ps i) (k + 1) (i - (k + 1))) := allQ_step (by omega)
    have nxt : okS ps i k = true → allQ (okS ps i) k (i - k) = allQ (okS ps i) (k + 1) (i - (k + 1)) := fun ho => by rw [step, ho, Bool.true_and]
    have stp : okS ps i k = false → allQ (okS ps i) k (i - k) = false := fun ho => by rw [step, ho, Bool.false_and]
    rcases q1 : decide (k + 1 = i) with _ | _ <;> rcases q3 : decide ((i + 1) % ps.length = k) with _ | _ <;> rcases q4 : (edX ps i k == 3) with _ | _ <;> rcases q5 : (edX ps i k == 0) with _ | _
    all_goals
      simp only [brT_t, brT_f, Bool.not_true, Bool.not_false, Tree.ok, RoundEnd]
      try refine ⟨n0, ?_⟩
      first
        | (have ho : okS ps i k = true := by unfold okS nbS; rw [q1, q3]; simp [q4, q5]
           have e := nxt ho
           refine ⟨k + 1, [], ?_, ?_, by simp only [re_ssI, e], by simp only [rs_ssI, e], ?_⟩
           · show k + 1 ≤ i; omega
           · show i - (k + 1) < i - k; omega
           · refine ⟨rfl, rfl, ?_, ?_⟩ <;> repeat' (first | exact True.intro | exact rfl | exact wv_top _ _ | exact fun _ => rfl | refine And.intro ?_ ?_))
        | (have ho : okS ps i k = false := by unfold okS nbS; rw [q1, q3]; simp [q4, q5]
           have e := stp ho
           refine ⟨by simp only [re_ssI, e, cond_false], [], ?_⟩
           simp only [rs_ssI, e, cond_false]
           refine ⟨rfl, rfl, ?_, ?_⟩ <;> repeat' (first | exact True.intro | exact rfl | exact wv_top _ _ | exact fun _ => rfl | refine And.intro ?_ ?_))
  · have hge := of_decide_eq_false hge
    obtain rfl : k = i := by omega
    have e : allQ (okS ps k) k (k - k) = true := allQ_end (by omega)
    refine ⟨by simp only [re_ssI, e, cond_true], [], ?_⟩
    simp only [rs_ssI, e, cond_true]
    refine ⟨rfl, rfl, ?_, ?_⟩ <;> repeat' (first | exact True.intro | exact rfl | exact wv_top _ _ | exact fun _ => rfl | refine And.intro ?_ ?_)
set_option maxRecDepth 100000 in
theorem lg_ssI : LoopE Try.prog e_ssI c_ssI := by
  intro s k t F H hlt ht
  unfold e_ssI at hlt
  split at hlt
  rotate_left
  · cases hlt
  rename_i hlen hpick hmem
  obtain ⟨tmps, mem⟩ := s
  simp only at hlen hpick hmem
  subst hmem
  obtain rfl := Option.some.inj hlt
  obtain ⟨⟨rfl, rfl, h1, h2, h3, h4, h5, _⟩, ht2⟩ := needs_ok ht
  clear ht hlt
  obtain ⟨ps, rfl, rfl⟩ := even_flat h1
  obtain ⟨i, rfl⟩ := Int.eq_ofNat_of_zero_le h4
  rw [ptsA_flat] at ht2 h3
  simp only [Int.toNat_natCast] at ht2
  refine ⟨_, _, pick2k ht2, loop_run mixed EIt_ok (s_ssI _ _) (inv_ssI _ _) (me_ssI _ _) (re_ssI _ _) (rs_ssI _ _) k_ssI (fun _ => rfl) (noLoops nl_ssI) (round_ssI _ _ h2 h3 (by omega)) (x := 0) (Nat.zero_le _) (π := []) rfl ?_⟩
  refine ⟨rfl, rfl, ?_, wvs_spread' [0, 3, 4, 5] hlen rfl ?_⟩
  · repeat' (first | exact True.intro | exact rfl | exact wv_top _ _ | exact fun _ => rfl | assumption | exact Eq.symm (by assumption) | exact vI0 rfl | refine And.intro ?_ ?_)
  · rw [hpick]
    repeat' (first | exact True.intro | exact rfl | exact wv_top _ _ | exact fun _ => rfl | assumption | exact Eq.symm (by assumption) | exact vI0 rfl | refine And.intro ?_ ?_)
def ltSs : LT := fun j s k => match j with
  | 1 => e_ssI s k
  | _ => none
noncomputable def c_ssO : Code := ((loopsOf (codeOf Try.f44))[0]?).getD .skip
def k_ssO : Ex → List Nat := keeps [0, 3, 4] [(0, [])] [2]
def s_ssO (ps : List Pt) : Nat → St := fun i => ⟨(.slice (some ⟨0, 0, none⟩) ps.length ps.length :: topV :: topV :: .int .i64 ps.length :: .int .i64 i :: topV :: topV :: topV :: topV :: topV :: topV :: topV :: topV :: topV :: topV :: topV :: topV :: topV :: topV :: topV :: topV :: topV :: topV :: topV :: topV :: topV :: topV :: topV :: topV :: topV :: topV :: topV :: topV :: topV :: topV :: topV :: topV :: topV :: topV :: topV :: topV :: topV :: topV :: topV :: topV :: topV :: topV :: topV :: topV :: topV :: topV :: topV :: topV :: topV :: topV :: []), [some ⟨.view, .ints (flat ps)⟩]⟩
def re_ssO (ps : List Pt) : Nat → Ex := fun i => bif allQ (rowS ps) i (ps.length - i) then .exit 0 else .ret
def rs_ssO (ps : List Pt) : Nat → St := fun i => bif allQ (rowS ps) i (ps.length - i) then ⟨(topV :: topV :: topV :: topV :: topV :: topV :: topV :: topV :: topV :: topV :: topV :: topV :: topV :: topV :: topV :: topV :: topV :: topV :: topV :: topV :: topV :: topV :: topV :: topV :: topV :: topV :: topV :: topV :: topV :: topV :: topV :: topV :: topV :: topV :: topV :: topV :: topV :: topV :: topV :: topV :: topV :: topV :: topV :: topV :: topV :: topV :: topV :: topV :: topV :: topV :: topV :: topV :: topV :: topV :: topV :: []), [some ⟨.view, .ints (flat ps)⟩]⟩ else ⟨(topV :: topV :: .bool false :: topV :: topV :: topV :: topV :: topV :: topV :: topV :: topV :: topV :: topV :: topV :: topV :: topV :: topV :: topV :: topV :: topV :: topV :: topV :: topV :: topV :: topV :: topV :: topV :: topV :: topV :: topV :: topV :: topV :: topV :: topV :: topV :: topV :: topV :: topV :: topV :: topV :: topV :: topV :: topV :: topV :: topV :: topV :: topV :: topV :: topV :: topV :: topV :: topV :: topV :: topV :: topV :: []), [some ⟨.view, .ints (flat ps)⟩]⟩
set_option maxRecDepth 100000 in
theorem tr_ssO (ps : List Pt) (i : Nat) : bodyL Try.prog EIt 30 12 ltSs 1 c_ssO k_ssO 1 (s_ssO ps i) = brT (decide ((↑i : Int) < (↑ps.length : Int))) (.need ((0 : Int) = (0 : Int)) (.need ((↑ps.length : Int) = (↑ps.length : Int)) (.need ((flat ps).length = ps.length * (2 : Nat)) (.need (ps.length ≤ (20 : Nat)) (.need (allV (ptsA ps.length (flat ps)) = true) (.need ((0 : Int) ≤ (↑i : Int)) (.need ((↑i : Int) < (↑ps.length : Int)) (brT (allQ (okS (ptsA ps.length (flat ps)) (↑i : Int).toNat) 0 (↑i : Int).toNat) (.leaf .normal ⟨(.slice (some ⟨0, 0, none⟩) (ps.length) (ps.length) :: topV :: topV :: .int .i64 ((↑ps.length : Int)) :: .int .i64 (IntKind.i64.wrap ((↑i : Int) + 1)) :: topV :: topV :: topV :: topV :: topV :: topV :: topV :: topV :: topV :: topV :: topV :: topV :: topV :: topV :: topV :: topV :: topV :: topV :: topV :: topV :: topV :: topV :: topV :: topV :: topV :: topV :: topV :: topV :: topV :: topV :: topV :: topV :: topV :: topV :: topV :: topV :: topV :: topV :: topV :: topV :: topV :: topV :: topV :: topV :: topV :: topV :: topV :: topV :: topV :: topV :: []), [some ⟨.view, .ints (flat ps)⟩]⟩) (.leaf .ret ⟨(topV :: topV :: .bool (false) :: topV :: topV :: topV :: topV :: topV :: topV :: topV :: topV :: topV :: topV :: topV :: topV :: topV :: topV :: topV :: topV :: topV :: topV :: topV :: topV :: topV :: topV :: topV :: topV :: topV :: topV :: topV :: topV :: topV :: topV :: topV :: topV :: topV :: topV :: topV :: topV :: topV :: topV :: topV :: topV :: topV :: topV :: topV :: topV :: topV :: topV :: topV :: topV :: topV :: topV :: topV :: topV :: []), [some ⟨.view, .ints (flat ps)⟩]⟩))))))))) (.leaf (.exit 0) ⟨(topV :: topV :: topV :: topV :: topV :: topV :: topV :: topV :: topV :: topV :: topV :: topV :: topV :: topV :: topV :: topV :: topV :: topV :: topV :: topV :: topV :: topV :: topV :: topV :: topV :: topV :: topV :: topV :: topV :: topV :: topV :: topV :: topV :: topV :: topV :: topV :: topV :: topV :: topV :: topV :: topV :: topV :: topV :: topV :: topV :: topV :: topV :: topV :: topV :: topV :: topV :: topV :: topV :: topV :: topV :: []), [some ⟨.view, .ints (flat ps)⟩]⟩) := by kernel_rfl
def inv_ssO (ps : List Pt) : Nat → Prop := fun i => i ≤ ps.length
def me_ssO (ps : List Pt) : Nat → Nat := fun i => ps.length - i
/-- A round of this loop. -/
def Round_ssO (ps : List Pt) : Prop := ∀ xx : Nat, inv_ssO ps xx → (bodyL Try.prog EIt 30 12 ltSs 1 c_ssO k_ssO 1 (s_ssO ps xx)).ok (RoundEnd 1 (s_ssO ps) (inv_ssO ps) (me_ssO ps) (re_ssO ps) (rs_ssO ps) xx) (fun _ _ => False)
def e_ssO (s : St) (k : Ex → St → Tree) : Option Tree := match Nat.beq s.tmps.length 55, pickL s.tmps [0, 3, 4], s.mem with
  | true, [.slice (some ⟨0, 0, none⟩) n _, .int .i64 l, .int .i64 ii], [some ⟨.view, .ints xs⟩] => some (needs [ii = 0, l = n, xs.length = n * 2, n ≤ 20, allV (ptsA n xs) = true] (brT (simS (ptsA n xs)) (k (.exit 0) ⟨(topV :: topV :: topV :: topV :: topV :: topV :: topV :: topV :: topV :: topV :: topV :: topV :: topV :: topV :: topV :: topV :: topV :: topV :: topV :: topV :: topV :: topV :: topV :: topV :: topV :: topV :: topV :: topV :: topV :: topV :: topV :: topV :: topV :: topV :: topV :: topV :: topV :: topV :: topV :: topV :: topV :: topV :: topV :: topV :: topV :: topV :: topV :: topV :: topV :: topV :: topV :: topV :: topV :: topV :: topV :: []), [some ⟨.view, .ints xs⟩]⟩) (k .ret ⟨(topV :: topV :: .bool false :: topV :: topV :: topV :: topV :: topV :: topV :: topV :: topV :: topV :: topV :: topV :: topV :: topV :: topV :: topV :: topV :: topV :: topV :: topV :: topV :: topV :: topV :: topV :: topV :: topV :: topV :: topV :: topV :: topV :: topV :: topV :: topV :: topV :: topV :: topV :: topV :: topV :: topV :: topV :: topV :: topV :: topV :: topV :: topV :: topV :: topV :: topV :: topV :: topV :: topV :: topV :: topV :: []), [some ⟨.view, .ints xs⟩]⟩)))
  | _, _, _ => none
set_option maxRecDepth 100000 in
theorem in_ssO : loopsOf c_ssO = [c_ssI] := by kernel_rfl
theorem ltSs_good : LoopsGood Try.prog ltSs 1 c_ssO := by
  intro i d hd s k t F H hlt ht
  rw [in_ssO] at hd
  cases i with
  | zero =>
    obtain rfl : c_ssI = d := by simpa using hd
    exact lg_ssI s k t F H hlt ht
  | succ i => simp at hd
set_option maxRecDepth 100000 in
theorem round_ssO (ps : List Pt) (h : ps.length ≤ 20) (hv : allV ps = true) : Round_ssO ps := by
  intro i h1
  have h1 : i ≤ ps.length := h1
  rw [tr_ssO]
  simp only [Int.toNat_natCast, Nat.zero_add, flat_length, flat_get0, flat_get1, ptsA_flat]
  refine brT_ok.2 ⟨fun hlt => ?_, fun hge => ?_⟩
  · have hlt := of_decide_eq_true hlt
    have hi : i < ps.length := by omega
    have step : allQ (rowS ps) i (ps.length - i) = (rowS ps i && allQ (rowS ps) (i + 1) (ps.length - (i + 1))) := allQ_step (by omega)
    refine ⟨by first | exact True.intro | rfl, by first | exact True.intro | rfl, by first | exact True.intro | rfl, h, hv, by omega, by omega, ?_⟩
    refine brT_ok.2 ⟨fun hq => ?_, fun hq => ?_⟩
    · have hq : rowS ps i = true := hq
      have e : allQ (rowS ps) i (ps.length - i) = allQ (rowS ps) (i + 1) (ps.length - (i + 1)) := by rw [step, hq, Bool.true_and]
      rw [wsucc (n := ps.length) hi (by omega)]
      refine ⟨i + 1, [], ?_, ?_, by simp only [re_ssO, e], by simp only [rs_ssO, e], ?_⟩
      · show i + 1 ≤ ps.length; omega
      · show ps.length - (i + 1) < ps.length - i; omega
      · refine ⟨rfl, rfl, ?_, ?_⟩ <;> repeat' (first | exact True.intro | exact rfl | exact wv_top _ _ | exact fun _ => rfl | refine And.intro ?_ ?_)
    · have hq : rowS ps i = false := hq
      have e : allQ (rowS ps) i (ps.length - i) = false := by rw [step, hq, Bool.false_and]
      refine ⟨by simp only [re_ssO, e, cond_false], [], ?_⟩
      simp only [rs_ssO, e, cond_false]
      refine ⟨rfl, rfl, ?_, ?_⟩ <;> repeat' (first | exact True.intro | exact rfl | exact wv_top _ _ | exact fun _ => rfl | refine And.intro ?_ ?_)
  · have hge := of_decide_eq_false hge
    obtain rfl : i = ps.length := by omega
    have e : allQ (rowS ps) ps.length (ps.length - ps.length) = true := allQ_end (by omega)
    refine ⟨by simp only [re_ssO, e, cond_true], [], ?_⟩
    simp only [rs_ssO, e, cond_true]
    refine ⟨rfl, rfl, ?_, ?_⟩ <;> repeat' (first | exact True.intro | exact rfl | exact wv_top _ _ | exact fun _ => rfl | refine And.intro ?_ ?_)
set_option maxRecDepth 100000 in
theorem lg_ssO : LoopE Try.prog e_ssO c_ssO := by
  intro s k t F H hlt ht
  unfold e_ssO at hlt
  split at hlt
  rotate_left
  · cases hlt
  rename_i hlen hpick hmem
  obtain ⟨tmps, mem⟩ := s
  simp only at hlen hpick hmem
  subst hmem
  obtain rfl := Option.some.inj hlt
  obtain ⟨⟨rfl, rfl, h1, h2, h3, _⟩, ht2⟩ := needs_ok ht
  clear ht hlt
  obtain ⟨ps, rfl, rfl⟩ := even_flat h1
  rw [ptsA_flat] at ht2 h3
  refine ⟨_, _, pick2k ht2, loop_run mixed EIt_ok (s_ssO _) (inv_ssO _) (me_ssO _) (re_ssO _) (rs_ssO _) k_ssO (fun _ => rfl) ltSs_good (round_ssO _ h2 h3) (x := 0) (Nat.zero_le _) (π := []) rfl ?_⟩
  refine ⟨rfl, rfl, ?_, wvs_spread' [0, 3, 4] hlen rfl ?_⟩
  · repeat' (first | exact True.intro | exact rfl | exact wv_top _ _ | exact fun _ => rfl | assumption | exact Eq.symm (by assumption) | exact vI0 rfl | refine And.intro ?_ ?_)
  · rw [hpick]
    repeat' (first | exact True.intro | exact rfl | exact wv_top _ _ | exact fun _ => rfl | assumption | exact Eq.symm (by assumption) | exact vI0 rfl | refine And.intro ?_ ?_)
theorem Lr_ssO {fn : Func} (hf : Try.prog.funcs[44]? = some fn) : LoopsGood Try.prog (lt1 e_ssO) 0 (codeOf fn) := by
  obtain rfl := fn_is Try.func44 hf
  exact lt1_good lg_ssO
/-- With a common end, two segments touch or overlap. -/
theorem relA_end {a b c d e f g h : Int} {z : Pt} (h1 : z = (a, b) ∨ z = (c, d)) (h2 : z = (e, f) ∨ z = (g, h)) : relA a b c d e f g h = 1 ∨ relA a b c d e f g h = 3 := by
  have hm : z ∈ ceS a b c d e f g h := by
    rw [ce_mem]
    refine ⟨?_, by rcases h1 with h1 | h1 <;> simp [h1]⟩
    unfold onB
    have k1 : hasB a b c d z.1 z.2 = true := by
      rcases h1 with rfl | rfl
      · exact hasB_a ..
      · exact hasB_b ..
    have k2 : hasB e f g h z.1 z.2 = true := by
      rcases h2 with rfl | rfl
      · exact hasB_a ..
      · exact hasB_b ..
    rw [k1, k2]
    rfl
  have hl : 0 < (ceS a b c d e f g h).length := List.length_pos_of_mem hm
  unfold relA relN
  split
  · exact .inr rfl
  · rw [if_pos (by omega)]
    exact .inl rfl
theorem edX_comm (ps : List Pt) (i k : Nat) : edX ps i k = edX ps k i := relA_comm ..
theorem edX_end {ps : List Pt} {i k : Nat} {z : Pt} (h1 : z = ps.getD i (0, 0) ∨ z = nxP ps i) (h2 : z = ps.getD k (0, 0) ∨ z = nxP ps k) : edX ps i k = 1 ∨ edX ps i k = 3 := relA_end h1 h2
/-- Is an edge a segment? -/
def sgQ (ps : List Pt) (i : Nat) : Bool := segB (ps.getD i (0, 0)).1 (ps.getD i (0, 0)).2 (nxP ps i).1 (nxP ps i).2
theorem edR_is (ps : List Pt) (i k : Nat) : edR ps i k = bif sgQ ps i && sgQ ps k then edX ps i k else -1 := rfl
theorem sgQ_iff {ps : List Pt} (h : allV ps = true) {i : Nat} (hi : i < ps.length) : sgQ ps i = true ↔ ps.getD i (0, 0) ≠ nxP ps i := by
  unfold sgQ segB
  have h1 := pt_get h hi
  have h2 : ptB (nxP ps i).1 (nxP ps i).2 = true := pt_get h (nx_lt hi)
  rw [h1, h2]
  simp only [eqB, Bool.true_and, Bool.not_eq_true', ne_eq]
  generalize ps.getD i (0, 0) = p
  generalize nxP ps i = q
  obtain ⟨a, b⟩ := p
  obtain ⟨c, d⟩ := q
  simp
theorem nx_of {ps : List Pt} {i k : Nat} (hk : k < ps.length) (h : nbS ps i k = true) (hi : i < ps.length) : (nxP ps k = ps.getD i (0, 0)) ∨ (nxP ps i = ps.getD k (0, 0)) := by
  unfold nbS at h
  simp only [Bool.or_eq_true, decide_eq_true_eq] at h
  unfold nxP
  rcases h with h | h
  · left
    rw [h, Nat.mod_eq_of_lt hi]
  · right
    rw [h]
theorem nb_end {ps : List Pt} {i k : Nat} (hi : i < ps.length) (hk : k < ps.length) (h : nbS ps i k = true) : edX ps i k = 1 ∨ edX ps i k = 3 := by
  rcases nx_of hk h hi with e | e
  · exact edX_end (z := ps.getD i (0, 0)) (.inl rfl) (.inr e.symm)
  · exact edX_end (z := ps.getD k (0, 0)) (.inr e.symm) (.inl rfl)
theorem nbQ_is (ps : List Pt) (i k : Nat) : nbQ ps i k = nbS ps k i := by
  unfold nbQ nbS
  congr 1
  exact decide_eq_decide.2 eq_comm
theorem nodup_get {ps : List Pt} : ps.Nodup ↔ ∀ i j, i < j → j < ps.length → ps.getD i (0, 0) ≠ ps.getD j (0, 0) := by
  unfold List.Nodup
  rw [List.pairwise_iff_getElem]
  constructor
  · intro h i j hij hj
    have := h i j (by omega) hj hij
    simpa [List.getD_eq_getElem?_getD, hj, show i < ps.length by omega] using this
  · intro h i j hi hj hij
    have := h i j hij hj
    simpa [List.getD_eq_getElem?_getD, hj, hi] using this
theorem next_ne {n i : Nat} (h : 3 ≤ n) (hi : i < n) : (i + 1) % n ≠ i := by
  rcases Nat.lt_or_ge (i + 1) n with h1 | h1
  · rw [Nat.mod_eq_of_lt h1]; omega
  · have : i + 1 = n := by omega
    rw [this, Nat.mod_self]
    omega
theorem sim_is {ps : List Pt} (hv : allV ps = true) (h3 : 3 ≤ ps.length) : simQ ps = (((srtL ps).length == ps.length) && simS ps) := by
  rw [Bool.eq_iff_iff]
  simp only [Bool.and_eq_true, beq_iff_eq, srtL_len]
  constructor
  · intro h
    have hE : ∀ i k, i < k → k < ps.length → edR ps i k = bif nbQ ps i k then 1 else 0 := fun i k h1 h2 => by
      have r := allQ_get _ _ h i (Nat.zero_le _) (by omega)
      have r2 := allQ_get _ _ r k (Nat.zero_le _) (by omega)
      unfold okE at r2
      rw [decide_eq_true h1] at r2
      simpa using r2
    have hne : ∀ i k, i < k → k < ps.length → sgQ ps i = true ∧ sgQ ps k = true := fun i k h1 h2 => by
      have := hE i k h1 h2
      rw [edR_is] at this
      rcases q : (sgQ ps i && sgQ ps k) with _ | _
      · rw [q] at this
        rcases q3 : nbQ ps i k with _ | _ <;> rw [q3] at this <;> simp at this
      · simpa using q
    have sg : ∀ i, i < ps.length → sgQ ps i = true := fun i hi => by
      rcases Nat.eq_zero_or_pos i with rfl | h0
      · exact (hne 0 1 (by omega) (by omega)).1
      · exact (hne 0 i h0 hi).2
    have hX : ∀ i k, i < k → k < ps.length → edX ps i k = bif nbQ ps i k then 1 else 0 := fun i k h1 h2 => by
      have := hE i k h1 h2
      rw [edR_is, sg i (by omega), sg k h2] at this
      exact this
    constructor
    · rw [nodup_get]
      intro i j hij hj e
      have hi : i < ps.length := by omega
      rcases q : nbQ ps i j with _ | _
      · have := hX i j hij hj
        rw [q] at this
        have k := edX_end (ps := ps) (i := i) (k := j) (z := ps.getD i (0, 0)) (.inl rfl) (.inl e)
        simp at this
        omega
      · rw [nbQ_is] at q
        rcases nx_of hi q hj with e2 | e2
        · exact (sgQ_iff hv hi).1 (sg i hi) (e.trans e2.symm)
        · exact (sgQ_iff hv hj).1 (sg j hj) (e.symm.trans e2.symm)
    · refine allQ_all _ _ fun i _ hi => allQ_all _ _ fun k _ hk => ?_
      have hi : i < ps.length := by omega
      have hk : k < i := by omega
      have := hX k i hk hi
      rw [nbQ_is, edX_comm] at this
      unfold okS
      rw [this]
      cases nbS ps i k <;> rfl
  · rintro ⟨hn, h⟩
    rw [nodup_get] at hn
    have sg : ∀ i, i < ps.length → sgQ ps i = true := fun i hi => by
      rw [sgQ_iff hv hi]
      have h1 := next_ne h3 hi
      have h2 := nx_lt hi
      unfold nxP
      rcases Nat.lt_or_ge i ((i + 1) % ps.length) with h4 | h4
      · exact hn _ _ h4 h2
      · exact fun e => hn _ _ (by omega) hi e.symm
    refine allQ_all _ _ fun i _ hi => allQ_all _ _ fun k _ hk => ?_
    unfold okE
    rcases q : decide (i < k) with _ | _
    · rfl
    have q := of_decide_eq_true q
    have hi : i < ps.length := by omega
    have hk : k < ps.length := by omega
    have r := allQ_get _ _ h k (Nat.zero_le _) (by omega)
    have r2 := allQ_get _ _ r i (Nat.zero_le _) (by omega)
    rw [edR_is, sg i hi, sg k hk, nbQ_is, edX_comm]
    unfold okS at r2
    rcases q2 : nbS ps k i with _ | _
    · rw [q2] at r2
      simpa using r2
    · rw [q2] at r2
      have k2 := nb_end hk hi q2
      simp at r2
      have e : edX ps k i = 1 := by omega
      simp [e]
/-- Is a polygon simple, as the model finds it? -/
def issS (ps : List Pt) : Bool := rngQ ps && simS ps
theorem iss_same (ps : List Pt) : issI ps = issS ps := by
  unfold issI issS rngQ
  rcases ho : okL ps with _ | _
  · simp
  by_cases h3 : 3 ≤ ps.length
  · have hv : allV ps = true := by
      unfold okL at ho
      simp only [Bool.and_eq_true] at ho
      exact ho.1
    rw [sim_is hv h3]
    simp [h3]
  · simp [h3]
def LSs : FuncId → LT := fun f => match f with
  | 44 => lt1 e_ssO
  | _ => noL
def ESs : Env := mkE TIt RCe LSs
theorem ESs_ok : EnvOk Try.prog ESs := mkEOk TIt_ok RCe_ok (by
  intro f fn hf
  unfold LSs
  split
  all_goals first | with_reducible exact Lr_ssO hf | exact noL_good)
set_option maxRecDepth 100000 in
theorem tr_sSim (ps : List Pt) : bodyV Try.prog ESs 30 12 44 [.row ps.length (.ints (flat ps))] = .need (ps.length * (2 : Nat) ≤ (List.drop (0 : Nat) (flat ps)).length) (.need (ps.length ≤ (1000000000 : Nat)) (brT (!rngQ (ptsA ps.length (List.drop 0 (flat ps)))) (.fin (.bool (false)) []) (.need ((0 : Int) = (0 : Int)) (.need ((↑ps.length : Int) = (↑ps.length : Int)) (.need ((flat ps).length = ps.length * (2 : Nat)) (.need (ps.length ≤ (20 : Nat)) (.need (allV (ptsA ps.length (flat ps)) = true) (brT (simS (ptsA ps.length (flat ps))) (.fin (.bool (true)) []) (.fin (.bool (false)) []))))))))) := by kernel_rfl
theorem res_sSim (ps : List Pt) (h : Big ps) : Res Try.prog 44 [.row ps.length (.ints (flat ps))] (.bool (issI ps)) := by
  rw [iss_same]
  refine bodyV_res mixed ESs_ok (m := 30) (n := 12) rfl ?_
  rw [tr_sSim]
  unfold Big at h
  simp only [List.drop_zero, ptsA_flat, flat_length]
  unfold issS
  rcases hr : rngQ ps with _ | _
  · simp [brT_ok, Tree.ok, h]
  · have hl : ps.length ≤ 20 ∧ allV ps = true := by
      unfold rngQ okL at hr
      simp only [Bool.and_eq_true, decide_eq_true_eq] at hr
      exact ⟨hr.1.1.2, hr.1.1.1⟩
    rcases hs : simS ps with _ | _ <;> simp [brT_ok, Tree.ok, h, hl.1, hl.2]
def pIss : List DArg → Option (Value × List Prop)
  | [.row m (.ints xs)] => some (.bool (issI (ptsA m xs)), [m * 2 ≤ xs.length, m ≤ 1000000000])
  | _ => none
theorem pIss_i {ds : List DArg} {v : Value} {C : List Prop} (h : pIss ds = some (v, C)) (hC : AllP C) : Res Try.prog 26 ds v := by
  unfold pIss at h
  split at h
  · rename_i m xs
    obtain ⟨rfl, rfl⟩ : _ ∧ _ := by simpa using h
    obtain ⟨_, h2⟩ := ptsA_spec hC.1
    exact res_pts1 (pre := []) (post := []) hC.1 (res_iIss (ptsA m xs) (by unfold Big; rw [h2]; exact hC.2.1))
  · cases h
theorem pIss_s {ds : List DArg} {v : Value} {C : List Prop} (h : pIss ds = some (v, C)) (hC : AllP C) : Res Try.prog 44 ds v := by
  unfold pIss at h
  split at h
  · rename_i m xs
    obtain ⟨rfl, rfl⟩ : _ ∧ _ := by simpa using h
    obtain ⟨_, h2⟩ := ptsA_spec hC.1
    exact res_pts1 (pre := []) (post := []) hC.1 (res_sSim (ptsA m xs) (by unfold Big; rw [h2]; exact hC.2.1))
  · cases h
def TSm : Tab := fun f ds => match f with
  | 26 => pIss ds
  | 44 => pIss ds
  | f => TIt f ds
theorem TSm_ok : TabOk Try.prog TSm := by
  intro f ds v C h hC
  unfold TSm at h
  (try split at h)
  all_goals first | with_reducible exact pIss_i h hC | with_reducible exact pIss_s h hC | exact TIt_ok _ _ _ _ h hC
end Go.Proofs.Ytbhdhejefpdjfaa
namespace Go.Proofs.Ytbhdhejefpdjfaa
set_option linter.all false
open Go.RowKit
/-- The vertex after the next. -/
def nx2 (ps : List Pt) (j : Nat) : Pt := ps.getD ((j + 2) % ps.length) (0, 0)
/-- Does the path turn left after an edge? -/
def cvE (ps : List Pt) (j : Nat) : Bool := decide (0 < crossI (ps.getD j (0, 0)).1 (ps.getD j (0, 0)).2 (nxP ps j).1 (nxP ps j).2 (nx2 ps j).1 (nx2 ps j).2)
def cvA (ps : List Pt) : Bool := allQ (cvE ps) 0 ps.length
def cvxI (ps : List Pt) : Bool := issI ps && cvA ps
def ECv : Env := mkE TSm R4 (fun _ => noL)
theorem ECv_ok : EnvOk Try.prog ECv := mkEOk TSm_ok R4_ok (fun _ _ _ => noL_good)
noncomputable def gc_cvx : Code := (rangesOf (codeOf Try.f9)).getD 0 .skip
def k_cvx : Ex → List Nat := keeps [1, 2, 9] [] [2]
def s_cvx (ps : List Pt) : Nat → St := fun i => ⟨[topV, .pointer (some ⟨1, 0, none⟩), .pointer (some ⟨2, 0, none⟩), topV, topV, topV, topV, topV, topV, .func (.func 42) #[] #[.pointer (some ⟨3, 0, none⟩)], topV, topV, topV, topV, topV, topV, topV, topV, topV, topV, topV, topV, topV, topV, topV, topV], [some ⟨.view, .ints (flat ps)⟩, some ⟨.box, .vals [.slice (some ⟨0, 0, none⟩) ps.length ps.length]⟩, some ⟨.box, .vals [.bool false]⟩, some ⟨.view, .vals [.slice (some ⟨0, 0, none⟩) ps.length ps.length]⟩]⟩
def g_cvx (ps : List Pt) : Nat → Prop := fun i => i ≤ ps.length ∧ ∀ k, k < i → cvE ps k = true
def re_cvx (ps : List Pt) : Ex := bif cvA ps then .normal else .ret
def rs_cvx (ps : List Pt) : St := bif cvA ps then ⟨[topV, topV, .pointer (some ⟨2, 0, none⟩), topV, topV, topV, topV, topV, topV, topV, topV, topV, topV, topV, topV, topV, topV, topV, topV, topV, topV, topV, topV, topV, topV, topV], [some ⟨.view, .ints (flat ps)⟩, some ⟨.box, .vals [.slice (some ⟨0, 0, none⟩) ps.length ps.length]⟩, some ⟨.box, .vals [.bool false]⟩, some ⟨.view, .vals [.slice (some ⟨0, 0, none⟩) ps.length ps.length]⟩]⟩ else ⟨[topV, topV, .pointer (some ⟨2, 0, none⟩), topV, topV, topV, topV, topV, topV, topV, topV, topV, topV, topV, topV, topV, topV, topV, topV, topV, topV, topV, topV, topV, topV, topV], [some ⟨.view, .ints (flat ps)⟩, some ⟨.box, .vals [.slice (some ⟨0, 0, none⟩) ps.length ps.length]⟩, some ⟨.box, .vals [.bool false]⟩, some ⟨.view, .vals [.slice (some ⟨0, 0, none⟩) ps.length ps.length]⟩]⟩
set_option maxRecDepth 100000 in
theorem tr_cvx (ps : List Pt) (i : Nat) : bodyR Try.prog ECv 30 12 noL noR (asgOf gc_cvx) (bodOf gc_cvx) ([10, 11].zip (encE ps i)) k_cvx 4 (s_cvx ps i) = .need (ptB (ps.getD i ((0 : Int), (0 : Int))).1 (ps.getD i ((0 : Int), (0 : Int))).2 = true) (.need (ptB (ps.getD ((i + (1 : Nat)) % ps.length) ((0 : Int), (0 : Int))).1 (ps.getD ((i + (1 : Nat)) % ps.length) ((0 : Int), (0 : Int))).2 = true) (.need (ptB ((flat ps).getD ((0 : Nat) + ((IntKind.i64.wrap ((↑i : Int) + (2 : Int))).tmod (↑ps.length : Int)).toNat * (2 : Nat)) (0 : Int)) ((flat ps).getD ((0 : Nat) + ((IntKind.i64.wrap ((↑i : Int) + (2 : Int))).tmod (↑ps.length : Int)).toNat * (2 : Nat) + (1 : Nat)) (0 : Int)) = true) (.need (¬(↑ps.length : Int) = (0 : Int)) (.need ((0 : Int) ≤ (IntKind.i64.wrap ((↑i : Int) + (2 : Int))).tmod (↑ps.length : Int) ∧ (IntKind.i64.wrap ((↑i : Int) + (2 : Int))).tmod (↑ps.length : Int) < (↑ps.length : Int)) (.need ((0 : Nat) + ((IntKind.i64.wrap ((↑i : Int) + (2 : Int))).tmod (↑ps.length : Int)).toNat * (2 : Nat) + (2 : Nat) ≤ (flat ps).length) (brT (decide (crossI (ps.getD i (0, 0)).1 (ps.getD i (0, 0)).2 (ps.getD ((i + 1) % ps.length) (0, 0)).1 (ps.getD ((i + 1) % ps.length) (0, 0)).2 ((flat ps).getD (0 + ((IntKind.i64.wrap ((↑i : Int) + 2)).tmod (↑ps.length : Int)).toNat * 2) 0) ((flat ps).getD (0 + ((IntKind.i64.wrap ((↑i : Int) + 2)).tmod (↑ps.length : Int)).toNat * 2 + 1) 0) ≤ 0)) (.leaf .ret ⟨[topV, topV, .pointer (some ⟨2, 0, none⟩), topV, topV, topV, topV, topV, topV, topV, topV, topV, topV, topV, topV, topV, topV, topV, topV, topV, topV, topV, topV, topV, topV, topV], [some ⟨.view, .ints (flat ps)⟩, some ⟨.box, .vals [.slice (some ⟨0, 0, none⟩) (ps.length) (ps.length)]⟩, some ⟨.box, .vals [.bool (false)]⟩, some ⟨.view, .vals [.slice (some ⟨0, 0, none⟩) (ps.length) (ps.length)]⟩]⟩) (.leaf .normal ⟨[topV, .pointer (some ⟨1, 0, none⟩), .pointer (some ⟨2, 0, none⟩), topV, topV, topV, topV, topV, topV, .func (Fn.func 42) #[] #[.pointer (some ⟨3, 0, none⟩)], topV, topV, topV, topV, topV, topV, topV, topV, topV, topV, topV, topV, topV, topV, topV, topV], [some ⟨.view, .ints (flat ps)⟩, some ⟨.box, .vals [.slice (some ⟨0, 0, none⟩) (ps.length) (ps.length)]⟩, some ⟨.box, .vals [.bool (false)]⟩, some ⟨.view, .vals [.slice (some ⟨0, 0, none⟩) (ps.length) (ps.length)]⟩]⟩))))))) := by kernel_rfl
/-- A round of this loop. -/
def Round_cvx (ps : List Pt) : Prop := ∀ i : Nat, g_cvx ps i → i < (ps).length → (bodyR Try.prog ECv 30 12 noL noR (asgOf gc_cvx) (bodOf gc_cvx) ([10, 11].zip (encE ps i)) k_cvx 4 (s_cvx ps i)).ok (RoundEndR 4 (s_cvx ps) (g_cvx ps) (re_cvx ps) (rs_cvx ps) i) (fun _ _ => False)
set_option maxRecDepth 100000 in
theorem gcode_cvx : gc_cvx = .rangeFunc (.tmp 9) ([10, 11] : List Nat).toArray (asgOf gc_cvx) (bodOf gc_cvx) := by kernel_rfl
def e_cvx (s : St) (k : Ex → St → Tree) : Option Tree := match Nat.beq s.tmps.length 26, pickL s.tmps [1, 2, 9], s.mem with
  | true, [.pointer (some ⟨1, 0, none⟩), .pointer (some ⟨2, 0, none⟩), .func (.func 42) ⟨[]⟩ ⟨[.pointer (some ⟨3, 0, none⟩)]⟩], [some ⟨.view, .ints xs⟩, some ⟨.box, .vals [.slice (some ⟨0, 0, none⟩) n _]⟩, some ⟨.box, .vals [.bool false]⟩, some ⟨.box, .vals [.slice (some ⟨0, 0, none⟩) n1 _]⟩] => some (needs [n1 = n, xs.length = n * 2, allV (ptsA n xs) = true, n ≤ 20] (brT (cvA (ptsA n xs)) (k .normal ⟨[topV, topV, .pointer (some ⟨2, 0, none⟩), topV, topV, topV, topV, topV, topV, topV, topV, topV, topV, topV, topV, topV, topV, topV, topV, topV, topV, topV, topV, topV, topV, topV], [some ⟨.view, .ints xs⟩, some ⟨.box, .vals [.slice (some ⟨0, 0, none⟩) n n]⟩, some ⟨.box, .vals [.bool false]⟩, some ⟨.view, .vals [.slice (some ⟨0, 0, none⟩) n n]⟩]⟩) (k .ret ⟨[topV, topV, .pointer (some ⟨2, 0, none⟩), topV, topV, topV, topV, topV, topV, topV, topV, topV, topV, topV, topV, topV, topV, topV, topV, topV, topV, topV, topV, topV, topV, topV], [some ⟨.view, .ints xs⟩, some ⟨.box, .vals [.slice (some ⟨0, 0, none⟩) n n]⟩, some ⟨.box, .vals [.bool false]⟩, some ⟨.view, .vals [.slice (some ⟨0, 0, none⟩) n n]⟩]⟩)))
  | _, _, _ => none
set_option maxRecDepth 100000 in
theorem round_cvx (ps : List Pt) (hv : allV ps = true) (h : ps.length ≤ 20) : Round_cvx ps := by
  rintro i ⟨_, hg⟩ hi
  rw [tr_cvx]
  have hm := nx_lt hi
  have e2 : (IntKind.i64.wrap ((i : Int) + 2)).tmod (ps.length : Int) = (((i + 2) % ps.length : Nat) : Int) := by
    rw [show (i : Int) + 2 = ((i + 2 : Nat) : Int) by omega, wr (by omega), Int.tmod_eq_emod_of_nonneg (by omega)]
    omega
  have h2 : (i + 2) % ps.length < ps.length := Nat.mod_lt _ (by omega)
  rw [e2]
  simp only [Int.toNat_natCast, Nat.zero_add, flat_get0, flat_get1, flat_length]
  refine ⟨pt_get hv hi, pt_get hv hm, pt_get hv h2, by omega, by omega, by omega, brT_ok.2 ⟨fun q => ?_, fun q => ?_⟩⟩
  · have q : crossI (ps.getD i (0, 0)).1 (ps.getD i (0, 0)).2 (nxP ps i).1 (nxP ps i).2 (nx2 ps i).1 (nx2 ps i).2 ≤ 0 := of_decide_eq_true q
    have hs : cvA ps = false := allQ_no hi (by unfold cvE; exact decide_eq_false (by omega))
    refine ⟨by unfold re_cvx; rw [hs]; rfl, [], ?_⟩
    unfold rs_cvx
    rw [hs]
    refine ⟨rfl, rfl, ?_, ?_⟩ <;> repeat' (first | exact True.intro | exact rfl | exact wv_top _ _ | exact fun _ => rfl | refine And.intro ?_ ?_)
  · have q : ¬ crossI (ps.getD i (0, 0)).1 (ps.getD i (0, 0)).2 (nxP ps i).1 (nxP ps i).2 (nx2 ps i).1 (nx2 ps i).2 ≤ 0 := of_decide_eq_false q
    have ho : cvE ps i = true := decide_eq_true (by omega)
    refine ⟨⟨by omega, fun k hk => ?_⟩, [], ?_⟩
    · rcases Nat.lt_or_ge k i with h1 | h1
      · exact hg k h1
      · obtain rfl : k = i := by omega
        exact ho
    · refine ⟨rfl, rfl, ?_, ?_⟩ <;> repeat' (first | exact True.intro | exact rfl | exact wv_top _ _ | exact fun _ => rfl | refine And.intro ?_ ?_)
attribute [local irreducible] bodyR
set_option maxRecDepth 100000 in
theorem lg_cvx : RangeE Try.prog e_cvx gc_cvx := by
  intro s k t F H hlt ht
  unfold e_cvx at hlt
  split at hlt
  rotate_left
  · cases hlt
  rename_i hlen hpick hmem
  obtain ⟨tmps, mem⟩ := s
  simp only at hlen hpick hmem
  subst hmem
  obtain rfl := Option.some.inj hlt
  obtain ⟨⟨rfl, h1, h2, h3, _⟩, ht2⟩ := needs_ok ht
  clear ht hlt
  obtain ⟨ps, rfl, rfl⟩ := even_flat h1
  rw [ptsA_flat] at ht2 h2
  refine ⟨re_cvx ps, rs_cvx ps, pick2k ht2, ?_⟩
  rw [gcode_cvx]
  refine range_det (enc := encE ps) (len := (ps).length) (St_of := s_cvx ps) (Good := g_cvx ps) (N := 4) (M := 4) (Kn := [0, 3]) (cap := [.pointer (some ⟨3, 0, none⟩)]) (kf := (k_cvx .normal)) (π := []) (fun _ => rfl) (fun _ => rfl) (fun i hg hlt => bodyR_ok mixed ECv_ok (noL_good) (noR_good) (round_cvx ps h2 h3 i hg hlt)) (entersB_res (by kernel_rfl)).1 rfl ?_ (fun ρ0 ρ B w lb h1 h2 => ed_iter ps (by omega) (s := (s_cvx ps 0).fs) (nb := 3) (nr := 0) (c := (ps).length) (Kn := [0, 3]) rfl rfl (by decide) (by decide) ρ0 ρ B w lb h1 h2) ?_ rfl (by decide) ?_ ⟨Nat.zero_le _, fun k hk => by omega⟩
  · intro n hn b hb
    simp only [List.mem_cons, List.not_mem_nil, or_false] at hn
    rcases hn with rfl | rfl <;> (obtain rfl := Option.some.inj hb; rfl)
  · rintro ⟨_, hg⟩
    have hq : cvA ps = true := allQ_all _ _ fun k _ h2 => hg k (by omega)
    refine ⟨by unfold re_cvx; rw [hq]; rfl, [], ?_⟩
    unfold rs_cvx
    rw [hq]
    refine ⟨rfl, rfl, ?_, ?_⟩ <;> repeat' (first | exact True.intro | exact rfl | exact wv_top _ _ | exact fun _ => rfl | refine And.intro ?_ ?_)
  · refine ⟨rfl, rfl, ?_, wvs_spread' [1, 2, 9] hlen rfl ?_⟩
    · repeat' (first | exact True.intro | exact rfl | exact wv_top _ _ | exact fun _ => rfl | assumption | exact Eq.symm (by assumption) | exact vI0 rfl | refine And.intro ?_ ?_)
    · rw [show pickL (viewS [0, 3] ⟨tmps, _⟩).tmps [1, 2, 9] = pickL tmps [1, 2, 9] from rfl, hpick]
      repeat' (first | exact True.intro | exact rfl | exact wv_top _ _ | exact fun _ => rfl | assumption | exact Eq.symm (by assumption) | exact vI0 rfl | refine And.intro ?_ ?_)
theorem Gr_cvx {fn : Func} (hf : Try.prog.funcs[9]? = some fn) : RangesGood Try.prog (rt1 9 e_cvx) (codeOf fn) := by
  obtain rfl := fn_is Try.func9 hf
  exact rt1_good (by kernel_rfl) lg_cvx
def GCv : FuncId → RT := fun f => match f with
  | 9 => rt1 9 e_cvx
  | _ => noR
def ECg : Env := withG ECv GCv
theorem ECg_ok : EnvOk Try.prog ECg := withG_ok ECv_ok (by
  intro f fn hf
  unfold GCv
  split
  all_goals first | with_reducible exact Gr_cvx hf | exact noR_good)
set_option maxRecDepth 100000 in
theorem tr_iCvx (ps : List Pt) : bodyV Try.prog ECg 30 12 9 [.row ps.length (.ints (flat ps))] = .need (ps.length * (2 : Nat) ≤ (List.drop (0 : Nat) (flat ps)).length) (.need (ps.length ≤ (1000000000 : Nat)) (brT (!issI (ptsA ps.length (List.drop 0 (flat ps)))) (.fin (.bool (false)) []) (.need (ps.length = ps.length) (.need ((flat ps).length = ps.length * (2 : Nat)) (.need (allV (ptsA ps.length (flat ps)) = true) (.need (ps.length ≤ (20 : Nat)) (brT (cvA (ptsA ps.length (flat ps))) (.fin (.bool (true)) []) (.fin (.bool (false)) [])))))))) := by kernel_rfl
theorem cv_ok2 {ps : List Pt} (h : issI ps = true) : allV ps = true ∧ ps.length ≤ 20 := by
  unfold issI okL at h
  simp only [Bool.and_eq_true, decide_eq_true_eq] at h
  exact ⟨h.1.2.1, h.1.2.2⟩
theorem res_iCvx (ps : List Pt) (h : Big ps) : Res Try.prog 9 [.row ps.length (.ints (flat ps))] (.bool (cvxI ps)) := by
  refine bodyV_res mixed ECg_ok (m := 30) (n := 12) rfl ?_
  rw [tr_iCvx]
  unfold Big at h
  simp only [List.drop_zero, ptsA_flat, flat_length]
  unfold cvxI
  rcases hs : issI ps with _ | _
  · simp [brT_ok, Tree.ok, h]
  · obtain ⟨h1, h2⟩ := cv_ok2 hs
    rcases hc : cvA ps with _ | _ <;> simp [brT_ok, Tree.ok, h, h1, h2]
noncomputable def c_scv : Code := ((loopsOf (codeOf Try.f29))[0]?).getD .skip
def k_scv : Ex → List Nat := keeps [0, 3] [(0, [])] [2]
def s_scv (ps : List Pt) : Nat → St := fun i => ⟨(.slice (some ⟨0, 0, none⟩) ps.length ps.length :: topV :: topV :: .int .i64 i :: topV :: topV :: topV :: topV :: topV :: topV :: topV :: topV :: topV :: topV :: topV :: topV :: topV :: topV :: topV :: topV :: topV :: topV :: topV :: topV :: topV :: topV :: topV :: topV :: topV :: topV :: topV :: topV :: topV :: topV :: topV :: []), [some ⟨.view, .ints (flat ps)⟩]⟩
def re_scv (ps : List Pt) : Nat → Ex := fun i => bif allQ (cvE ps) i (ps.length - i) then .exit 0 else .ret
def rs_scv (ps : List Pt) : Nat → St := fun i => bif allQ (cvE ps) i (ps.length - i) then ⟨(topV :: topV :: topV :: topV :: topV :: topV :: topV :: topV :: topV :: topV :: topV :: topV :: topV :: topV :: topV :: topV :: topV :: topV :: topV :: topV :: topV :: topV :: topV :: topV :: topV :: topV :: topV :: topV :: topV :: topV :: topV :: topV :: topV :: topV :: topV :: []), [some ⟨.view, .ints (flat ps)⟩]⟩ else ⟨(topV :: topV :: .bool false :: topV :: topV :: topV :: topV :: topV :: topV :: topV :: topV :: topV :: topV :: topV :: topV :: topV :: topV :: topV :: topV :: topV :: topV :: topV :: topV :: topV :: topV :: topV :: topV :: topV :: topV :: topV :: topV :: topV :: topV :: topV :: topV :: []), [some ⟨.view, .ints (flat ps)⟩]⟩
set_option maxRecDepth 100000 in
theorem tr_scv (ps : List Pt) (i : Nat) : bodyL Try.prog ECv 30 12 noL 1 c_scv k_scv 1 (s_scv ps i) = brT (decide ((↑i : Int) < (↑ps.length : Int))) (.need (ptB ((flat ps).getD ((0 : Nat) + (↑i : Int).toNat * (2 : Nat)) (0 : Int)) ((flat ps).getD ((0 : Nat) + (↑i : Int).toNat * (2 : Nat) + (1 : Nat)) (0 : Int)) = true) (.need (ptB ((flat ps).getD ((0 : Nat) + ((IntKind.i64.wrap ((↑i : Int) + (1 : Int))).tmod (↑ps.length : Int)).toNat * (2 : Nat)) (0 : Int)) ((flat ps).getD ((0 : Nat) + ((IntKind.i64.wrap ((↑i : Int) + (1 : Int))).tmod (↑ps.length : Int)).toNat * (2 : Nat) + (1 : Nat)) (0 : Int)) = true) (.need (ptB ((flat ps).getD ((0 : Nat) + ((IntKind.i64.wrap ((↑i : Int) + (2 : Int))).tmod (↑ps.length : Int)).toNat * (2 : Nat)) (0 : Int)) ((flat ps).getD ((0 : Nat) + ((IntKind.i64.wrap ((↑i : Int) + (2 : Int))).tmod (↑ps.length : Int)).toNat * (2 : Nat) + (1 : Nat)) (0 : Int)) = true) (.need ((0 : Int) ≤ (↑i : Int) ∧ (↑i : Int) < (↑ps.length : Int)) (.need ((0 : Nat) + (↑i : Int).toNat * (2 : Nat) + (2 : Nat) ≤ (flat ps).length) (.need (¬(↑ps.length : Int) = (0 : Int)) (.need ((0 : Int) ≤ (IntKind.i64.wrap ((↑i : Int) + (1 : Int))).tmod (↑ps.length : Int) ∧ (IntKind.i64.wrap ((↑i : Int) + (1 : Int))).tmod (↑ps.length : Int) < (↑ps.length : Int)) (.need ((0 : Nat) + ((IntKind.i64.wrap ((↑i : Int) + (1 : Int))).tmod (↑ps.length : Int)).toNat * (2 : Nat) + (2 : Nat) ≤ (flat ps).length) (.need (¬(↑ps.length : Int) = (0 : Int)) (.need ((0 : Int) ≤ (IntKind.i64.wrap ((↑i : Int) + (2 : Int))).tmod (↑ps.length : Int) ∧ (IntKind.i64.wrap ((↑i : Int) + (2 : Int))).tmod (↑ps.length : Int) < (↑ps.length : Int)) (.need ((0 : Nat) + ((IntKind.i64.wrap ((↑i : Int) + (2 : Int))).tmod (↑ps.length : Int)).toNat * (2 : Nat) + (2 : Nat) ≤ (flat ps).length) (brT (decide (crossI ((flat ps).getD (0 + (↑i : Int).toNat * 2) 0) ((flat ps).getD (0 + (↑i : Int).toNat * 2 + 1) 0) ((flat ps).getD (0 + ((IntKind.i64.wrap ((↑i : Int) + 1)).tmod (↑ps.length : Int)).toNat * 2) 0) ((flat ps).getD (0 + ((IntKind.i64.wrap ((↑i : Int) + 1)).tmod (↑ps.length : Int)).toNat * 2 + 1) 0) ((flat ps).getD (0 + ((IntKind.i64.wrap ((↑i : Int) + 2)).tmod (↑ps.length : Int)).toNat * 2) 0) ((flat ps).getD (0 + ((IntKind.i64.wrap ((↑i : Int) + 2)).tmod (↑ps.length : Int)).toNat * 2 + 1) 0) ≤ 0)) (.leaf .ret ⟨(topV :: topV :: .bool (false) :: topV :: topV :: topV :: topV :: topV :: topV :: topV :: topV :: topV :: topV :: topV :: topV :: topV :: topV :: topV :: topV :: topV :: topV :: topV :: topV :: topV :: topV :: topV :: topV :: topV :: topV :: topV :: topV :: topV :: topV :: topV :: topV :: []), [some ⟨.view, .ints (flat ps)⟩]⟩) (.leaf .normal ⟨(.slice (some ⟨0, 0, none⟩) (ps.length) (ps.length) :: topV :: topV :: .int .i64 (IntKind.i64.wrap ((↑i : Int) + 1)) :: topV :: topV :: topV :: topV :: topV :: topV :: topV :: topV :: topV :: topV :: topV :: topV :: topV :: topV :: topV :: topV :: topV :: topV :: topV :: topV :: topV :: topV :: topV :: topV :: topV :: topV :: topV :: topV :: topV :: topV :: topV :: []), [some ⟨.view, .ints (flat ps)⟩]⟩))))))))))))) (.leaf (.exit 0) ⟨(topV :: topV :: topV :: topV :: topV :: topV :: topV :: topV :: topV :: topV :: topV :: topV :: topV :: topV :: topV :: topV :: topV :: topV :: topV :: topV :: topV :: topV :: topV :: topV :: topV :: topV :: topV :: topV :: topV :: topV :: topV :: topV :: topV :: topV :: topV :: []), [some ⟨.view, .ints (flat ps)⟩]⟩) := by kernel_rfl
set_option maxRecDepth 100000 in
theorem nl_scv : loopsOf c_scv = [] := by kernel_rfl
def inv_scv (ps : List Pt) : Nat → Prop := fun i => i ≤ ps.length
def me_scv (ps : List Pt) : Nat → Nat := fun i => ps.length - i
/-- A round of this loop. -/
def Round_scv (ps : List Pt) : Prop := ∀ xx : Nat, inv_scv ps xx → (bodyL Try.prog ECv 30 12 noL 1 c_scv k_scv 1 (s_scv ps xx)).ok (RoundEnd 1 (s_scv ps) (inv_scv ps) (me_scv ps) (re_scv ps) (rs_scv ps) xx) (fun _ _ => False)
def e_scv (s : St) (k : Ex → St → Tree) : Option Tree := match Nat.beq s.tmps.length 35, pickL s.tmps [0, 3], s.mem with
  | true, [.slice (some ⟨0, 0, none⟩) n _, .int .i64 i], [some ⟨.view, .ints xs⟩] => some (needs [i = 0, xs.length = n * 2, allV (ptsA n xs) = true, n ≤ 20] (brT (cvA (ptsA n xs)) (k (.exit 0) ⟨(topV :: topV :: topV :: topV :: topV :: topV :: topV :: topV :: topV :: topV :: topV :: topV :: topV :: topV :: topV :: topV :: topV :: topV :: topV :: topV :: topV :: topV :: topV :: topV :: topV :: topV :: topV :: topV :: topV :: topV :: topV :: topV :: topV :: topV :: topV :: []), [some ⟨.view, .ints xs⟩]⟩) (k .ret ⟨(topV :: topV :: .bool false :: topV :: topV :: topV :: topV :: topV :: topV :: topV :: topV :: topV :: topV :: topV :: topV :: topV :: topV :: topV :: topV :: topV :: topV :: topV :: topV :: topV :: topV :: topV :: topV :: topV :: topV :: topV :: topV :: topV :: topV :: topV :: topV :: []), [some ⟨.view, .ints xs⟩]⟩)))
  | _, _, _ => none
set_option maxRecDepth 100000 in
theorem round_scv (ps : List Pt) (hv : allV ps = true) (h : ps.length ≤ 20) : Round_scv ps := by
  intro i h1
  have h1 : i ≤ ps.length := h1
  rw [tr_scv]
  simp only [Int.toNat_natCast, Nat.zero_add, flat_length, flat_get0, flat_get1]
  refine brT_ok.2 ⟨fun hlt => ?_, fun hge => ?_⟩
  · have hlt := of_decide_eq_true hlt
    have hi : i < ps.length := by omega
    have hm := nx_lt hi
    have h2 : (i + 2) % ps.length < ps.length := Nat.mod_lt _ (by omega)
    have e2 : (IntKind.i64.wrap ((i : Int) + 2)).tmod (ps.length : Int) = (((i + 2) % ps.length : Nat) : Int) := by
      rw [show (i : Int) + 2 = ((i + 2 : Nat) : Int) by omega, wr (by omega), Int.tmod_eq_emod_of_nonneg (by omega)]
      omega
    simp only [nx_mod hi (by omega), e2, Int.toNat_natCast, flat_get0, flat_get1]
    simp only [wsucc (n := ps.length) hi (by omega)]
    have step : allQ (cvE ps) i (ps.length - i) = (cvE ps i && allQ (cvE ps) (i + 1) (ps.length - (i + 1))) := allQ_step (by omega)
    refine ⟨pt_get hv hi, pt_get hv hm, pt_get hv h2, by omega, by omega, by omega, by omega, by omega, by omega, by omega, by omega, brT_ok.2 ⟨fun q => ?_, fun q => ?_⟩⟩
    · have q : crossI (ps.getD i (0, 0)).1 (ps.getD i (0, 0)).2 (nxP ps i).1 (nxP ps i).2 (nx2 ps i).1 (nx2 ps i).2 ≤ 0 := of_decide_eq_true q
      have hc : cvE ps i = false := by unfold cvE; exact decide_eq_false (by omega)
      have e : allQ (cvE ps) i (ps.length - i) = false := by rw [step, hc]; rfl
      refine ⟨by simp only [re_scv, e, cond_false], [], ?_⟩
      simp only [rs_scv, e, cond_false]
      refine ⟨rfl, rfl, ?_, ?_⟩ <;> repeat' (first | exact True.intro | exact rfl | exact wv_top _ _ | exact fun _ => rfl | refine And.intro ?_ ?_)
    · have q : ¬ crossI (ps.getD i (0, 0)).1 (ps.getD i (0, 0)).2 (nxP ps i).1 (nxP ps i).2 (nx2 ps i).1 (nx2 ps i).2 ≤ 0 := of_decide_eq_false q
      have hc : cvE ps i = true := by unfold cvE; exact decide_eq_true (by omega)
      have e0 : allQ (cvE ps) i (ps.length - i) = allQ (cvE ps) (i + 1) (ps.length - (i + 1)) := by rw [step, hc]; rfl
      refine ⟨i + 1, [], ?_, ?_, by simp only [re_scv, e0], by simp only [rs_scv, e0], ?_⟩
      · show i + 1 ≤ ps.length; omega
      · show ps.length - (i + 1) < ps.length - i; omega
      · refine ⟨rfl, rfl, ?_, ?_⟩ <;> repeat' (first | exact True.intro | exact rfl | exact wv_top _ _ | exact fun _ => rfl | refine And.intro ?_ ?_)
  · have hge := of_decide_eq_false hge
    obtain rfl : i = ps.length := by omega
    have e : allQ (cvE ps) ps.length (ps.length - ps.length) = true := allQ_end (by omega)
    refine ⟨by simp only [re_scv, e, cond_true], [], ?_⟩
    simp only [rs_scv, e, cond_true]
    refine ⟨rfl, rfl, ?_, ?_⟩ <;> repeat' (first | exact True.intro | exact rfl | exact wv_top _ _ | exact fun _ => rfl | refine And.intro ?_ ?_)
set_option maxRecDepth 100000 in
theorem lg_scv : LoopE Try.prog e_scv c_scv := by
  intro s k t F H hlt ht
  unfold e_scv at hlt
  split at hlt
  rotate_left
  · cases hlt
  rename_i hlen hpick hmem
  obtain ⟨tmps, mem⟩ := s
  simp only at hlen hpick hmem
  subst hmem
  obtain rfl := Option.some.inj hlt
  obtain ⟨⟨rfl, h1, h2, h3, _⟩, ht2⟩ := needs_ok ht
  clear ht hlt
  obtain ⟨ps, rfl, rfl⟩ := even_flat h1
  rw [ptsA_flat] at ht2 h2
  refine ⟨_, _, pick2k ht2, loop_run mixed ECv_ok (s_scv ps) (inv_scv ps) (me_scv ps) (re_scv ps) (rs_scv ps) k_scv (fun _ => rfl) (noLoops nl_scv) (round_scv ps h2 h3) (x := 0) (Nat.zero_le _) (π := []) rfl ?_⟩
  refine ⟨rfl, rfl, ?_, wvs_spread' [0, 3] hlen rfl ?_⟩
  · repeat' (first | exact True.intro | exact rfl | exact wv_top _ _ | exact fun _ => rfl | assumption | exact Eq.symm (by assumption) | exact vI0 rfl | refine And.intro ?_ ?_)
  · rw [hpick]
    repeat' (first | exact True.intro | exact rfl | exact wv_top _ _ | exact fun _ => rfl | assumption | exact Eq.symm (by assumption) | exact vI0 rfl | refine And.intro ?_ ?_)
theorem Lr_scv {fn : Func} (hf : Try.prog.funcs[29]? = some fn) : LoopsGood Try.prog (lt1 e_scv) 0 (codeOf fn) := by
  obtain rfl := fn_is Try.func29 hf
  exact lt1_good lg_scv
def LCv : FuncId → LT := fun f => match f with
  | 29 => lt1 e_scv
  | _ => noL
def ECs : Env := mkE TSm R4 LCv
theorem ECs_ok : EnvOk Try.prog ECs := mkEOk TSm_ok R4_ok (by
  intro f fn hf
  unfold LCv
  split
  all_goals first | with_reducible exact Lr_scv hf | exact noL_good)
set_option maxRecDepth 100000 in
theorem tr_sCvx (ps : List Pt) : bodyV Try.prog ECs 30 12 29 [.row ps.length (.ints (flat ps))] = .need (ps.length * (2 : Nat) ≤ (List.drop (0 : Nat) (flat ps)).length) (.need (ps.length ≤ (1000000000 : Nat)) (brT (!issI (ptsA ps.length (List.drop 0 (flat ps)))) (.fin (.bool (false)) []) (.need ((0 : Int) = (0 : Int)) (.need ((flat ps).length = ps.length * (2 : Nat)) (.need (allV (ptsA ps.length (flat ps)) = true) (.need (ps.length ≤ (20 : Nat)) (brT (cvA (ptsA ps.length (flat ps))) (.fin (.bool (true)) []) (.fin (.bool (false)) [])))))))) := by kernel_rfl
theorem res_sCvx (ps : List Pt) (h : Big ps) : Res Try.prog 29 [.row ps.length (.ints (flat ps))] (.bool (cvxI ps)) := by
  refine bodyV_res mixed ECs_ok (m := 30) (n := 12) rfl ?_
  rw [tr_sCvx]
  unfold Big at h
  simp only [List.drop_zero, ptsA_flat, flat_length]
  unfold cvxI
  rcases hs : issI ps with _ | _
  · simp [brT_ok, Tree.ok, h]
  · obtain ⟨h1, h2⟩ := cv_ok2 hs
    rcases hc : cvA ps with _ | _ <;> simp [brT_ok, Tree.ok, h, h1, h2]
def pCvx : List DArg → Option (Value × List Prop)
  | [.row m (.ints xs)] => some (.bool (cvxI (ptsA m xs)), [m * 2 ≤ xs.length, m ≤ 1000000000])
  | _ => none
theorem pCvx_ok {f : FuncId} (H : ∀ ps : List Pt, Big ps → Res Try.prog f [.row ps.length (.ints (flat ps))] (.bool (cvxI ps))) {ds : List DArg} {v : Value} {C : List Prop} (h : pCvx ds = some (v, C)) (hC : AllP C) : Res Try.prog f ds v := by
  unfold pCvx at h
  split at h
  · rename_i m xs
    obtain ⟨rfl, rfl⟩ : _ ∧ _ := by simpa using h
    obtain ⟨_, h2⟩ := ptsA_spec hC.1
    exact res_pts1 (pre := []) (post := []) hC.1 (H (ptsA m xs) (by unfold Big; rw [h2]; exact hC.2.1))
  · cases h
def TCv : Tab := fun f ds => match f with
  | 9 => pCvx ds
  | 29 => pCvx ds
  | f => TSm f ds
theorem TCv_ok : TabOk Try.prog TCv := by
  intro f ds v C h hC
  unfold TCv at h
  (try split at h)
  all_goals first | with_reducible exact pCvx_ok res_iCvx h hC | with_reducible exact pCvx_ok res_sCvx h hC | exact TSm_ok _ _ _ _ h hC
def ECw : Env := mkE TCv R4 (fun _ => noL)
theorem ECw_ok : EnvOk Try.prog ECw := mkEOk TCv_ok R4_ok (fun _ _ _ => noL_good)
set_option maxRecDepth 100000 in
theorem tr_SCvx (ps : List Pt) : bodyV Try.prog ECw 30 12 10 [.row ps.length (.ints (flat ps))] = .need (ps.length * (2 : Nat) ≤ (List.drop (0 : Nat) (flat ps)).length) (.need (ps.length ≤ (1000000000 : Nat)) (.fin (.bool (cvxI (ptsA ps.length (List.drop 0 (flat ps))))) [])) := by kernel_rfl
theorem res_SCvx (ps : List Pt) (h : Big ps) : Res Try.prog 10 [.row ps.length (.ints (flat ps))] (.bool (cvxI ps)) := by
  refine bodyV_res mixed ECw_ok (m := 30) (n := 12) rfl ?_
  rw [tr_SCvx]
  unfold Big at h
  simp only [List.drop_zero, ptsA_flat, flat_length]
  simp [Tree.ok, h]
def TCx : Tab := fun f ds => match f with
  | 10 => pCvx ds
  | f => TCv f ds
theorem TCx_ok : TabOk Try.prog TCx := by
  intro f ds v C h hC
  unfold TCx at h
  (try split at h)
  all_goals first | with_reducible exact pCvx_ok res_SCvx h hC | exact TCv_ok _ _ _ _ h hC
end Go.Proofs.Ytbhdhejefpdjfaa
namespace Go.Proofs.Ytbhdhejefpdjfaa
set_option linter.all false
open Go.RowKit
def crP (a b c : Pt) : Int := crossI a.1 a.2 b.1 b.2 c.1 c.2
/-- How many of so many points stay on the stack ahead of another one. -/
def popN (st : List Pt) (p : Pt) : Nat → Nat
  | 0 => 0
  | 1 => 1
  | j + 2 => if crP (st.getD j (0, 0)) (st.getD (j + 1) (0, 0)) p ≤ 0 then popN st p (j + 1) else j + 2
def pushP (st : List Pt) (p : Pt) : List Pt := st.take (popN st p st.length) ++ [p]
def chn (st ps : List Pt) : List Pt := ps.foldl pushP st
theorem popN_le (st : List Pt) (p : Pt) : ∀ j, popN st p j ≤ j
  | 0 => Nat.le_refl _
  | 1 => Nat.le_refl _
  | j + 2 => by
    have := popN_le st p (j + 1)
    simp only [popN]
    split <;> omega
theorem pushP_len (st : List Pt) (p : Pt) : (pushP st p).length ≤ st.length + 1 := by
  unfold pushP
  simp
  omega
theorem allV_at {ps : List Pt} (h : allV ps = true) {j : Nat} (hj : j < ps.length) : ptB (ps.getD j (0, 0)).1 (ps.getD j (0, 0)).2 = true := List.all_eq_true.1 h (ps.getD j (0, 0)) (by simp [hj])
theorem allV_push {st : List Pt} {p : Pt} (h : allV st = true) (hp : ptB p.1 p.2 = true) : allV (pushP st p) = true := by
  unfold pushP
  refine List.all_eq_true.2 fun z hz => ?_
  rcases List.mem_append.1 hz with hz | hz
  · exact List.all_eq_true.1 h z (List.mem_of_mem_take hz)
  · obtain rfl : z = p := by simpa using hz
    exact hp
theorem chn_len : ∀ (ps st : List Pt), (chn st ps).length ≤ st.length + ps.length
  | [], st => Nat.le_refl _
  | p :: r, st => by
    have h1 := chn_len r (pushP st p)
    have h2 := pushP_len st p
    simp only [chn, List.foldl_cons, List.length_cons] at h1 ⊢
    omega
theorem pushP_len1 (st : List Pt) (p : Pt) : (pushP st p).length = popN st p st.length + 1 := by
  have := popN_le st p st.length
  unfold pushP
  simp
  omega
def revP (ps : List Pt) : List Pt := ps.reverse
end Go.Proofs.Ytbhdhejefpdjfaa
namespace Go.Proofs.Ytbhdhejefpdjfaa
set_option linter.all false
open Go.RowKit
/-- The vertices of the hull of points in order. -/
def hulL (s : List Pt) : List Pt := if s.length < 3 then s else (chn [] s).take ((chn [] s).length - 1) ++ (chn [] (revP s)).take ((chn [] (revP s)).length - 1)
theorem chn_pos : ∀ {ps st : List Pt}, 0 < st.length ∨ 0 < ps.length → 0 < (chn st ps).length
  | [], st, h => by simpa [chn] using h
  | p :: r, st, _ => by
    have h1 := pushP_len1 st p
    have := chn_pos (ps := r) (st := pushP st p) (.inl (by omega))
    exact this
theorem allV_rev {ps : List Pt} (h : allV ps = true) : allV (revP ps) = true := List.all_eq_true.2 fun z hz => List.all_eq_true.1 h z (List.mem_reverse.1 hz)
theorem revP_len (ps : List Pt) : (revP ps).length = ps.length := List.length_reverse ..
theorem hulL_len {s : List Pt} (h : s.length ≤ 20) : (hulL s).length ≤ 40 := by
  have c1 := chn_len s []
  have c2 := chn_len (revP s) []
  have r1 := revP_len s
  simp only [List.length_nil, Nat.zero_add] at c1 c2
  unfold hulL
  split
  · omega
  · simp only [List.length_append, List.length_take]
    omega
end Go.Proofs.Ytbhdhejefpdjfaa
namespace Go.Proofs.Ytbhdhejefpdjfaa
set_option linter.all false
open Go.RowKit
/-- A vector that leads on in the order of points. -/
def posV (u : Pt) : Prop := 0 < u.1 ∨ u.1 = 0 ∧ 0 < u.2
def cr2 (u v : Pt) : Int := u.1 * v.2 - u.2 * v.1
def dif (b a : Pt) : Pt := (b.1 - a.1, b.2 - a.2)
theorem cr_tr {u v w : Pt} (hu : posV u) (hv : posV v) (hw : posV w) (h1 : 0 ≤ cr2 u v) (h2 : 0 ≤ cr2 v w) : 0 ≤ cr2 u w ∧ (0 < cr2 u v ∨ 0 < cr2 v w → 0 < cr2 u w) := by
  obtain ⟨a, b⟩ := u
  obtain ⟨c, d⟩ := v
  obtain ⟨e, f⟩ := w
  unfold posV cr2 at *
  simp only at *
  rcases hv with hc | ⟨rfl, hd⟩
  · have ha : 0 < a := by
      rcases hu with h | ⟨rfl, hb⟩
      · exact h
      · have := Int.mul_pos hb hc
        omega
    rcases hw with he | ⟨rfl, hf⟩
    · have id : c * (a * f - b * e) = a * (c * f - d * e) + e * (a * d - b * c) := by grind
      have n1 := Int.mul_nonneg (Int.le_of_lt ha) h2
      have n2 := Int.mul_nonneg (Int.le_of_lt he) h1
      generalize a * f - b * e = X at *
      refine ⟨?_, fun h => ?_⟩
      · rcases Int.lt_or_le X 0 with h | h
        · have := Int.mul_neg_of_pos_of_neg hc h
          omega
        · exact h
      · rcases Int.lt_or_le 0 X with h' | h'
        · exact h'
        · have := Int.mul_nonpos_of_nonneg_of_nonpos (Int.le_of_lt hc) h'
          rcases h with h | h
          · have := Int.mul_pos he h
            omega
          · have := Int.mul_pos ha h
            omega
    · have := Int.mul_pos ha hf
      omega
  · have he : e = 0 ∧ 0 < f := by
      rcases hw with h | h
      · have := Int.mul_pos hd h
        omega
      · exact h
    obtain ⟨rfl, hf⟩ := he
    have ha : 0 ≤ a := by omega
    have n1 := Int.mul_nonneg ha (Int.le_of_lt hf)
    refine ⟨by omega, fun h => ?_⟩
    have : 0 < a := by
      rcases Int.lt_or_le 0 a with h' | h'
      · exact h'
      · obtain rfl : a = 0 := by omega
        omega
    have := Int.mul_pos this hf
    omega
theorem plt_pos {a b : Pt} : pltB a b = true ↔ posV (dif b a) := by
  rw [pltB_iff]
  unfold posV dif
  simp only
  omega
theorem oP_tri (a b : Pt) : a = b ∨ pltB a b = true ∨ pltB b a = true := by
  obtain ⟨a1, a2⟩ := a
  obtain ⟨b1, b2⟩ := b
  simp only [pltB_iff, Prod.mk.injEq]
  omega
theorem oP_trans {a b c : Pt} (h1 : pltB a b = true) (h2 : pltB b c = true) : pltB a c = true := by
  rw [pltB_iff] at *
  omega
theorem oP_irr {a : Pt} (h : pltB a a = true) : False := by
  rw [pltB_iff] at h
  omega
theorem oP_asym {a b : Pt} (h1 : pltB a b = true) (h2 : pltB b a = true) : False := oP_irr (oP_trans h1 h2)
theorem crP_bb (a b : Pt) : crP a b b = 0 := by unfold crP crossI; grind
theorem crP_ba (a b : Pt) : crP a b a = 0 := by unfold crP crossI; grind
def Dsc (R : List Pt) : Prop := R.Pairwise fun a b => pltB b a = true
def Cvx : List Pt → Prop
  | c :: b :: a :: r => 0 < crP a b c ∧ Cvx (b :: a :: r)
  | _ => True
def Lft (S : Pt → Prop) : List Pt → Prop
  | b :: a :: r => (∀ q, S q → 0 ≤ crP a b q) ∧ Lft S (a :: r)
  | _ => True
def Bot (S : Pt → Prop) (R : List Pt) : Prop := ∃ m, R.getLast? = some m ∧ ∀ q, S q → q = m ∨ pltB m q = true
def Top (S : Pt → Prop) (R : List Pt) : Prop := ∃ m, R.head? = some m ∧ ∀ q, S q → q = m ∨ pltB q m = true
/-- The chain of a set of points. -/
structure ChI (S : Pt → Prop) (R : List Pt) : Prop where
  mem : ∀ z ∈ R, S z
  dsc : Dsc R
  cvx : Cvx R
  lft : Lft S R
  bot : Bot S R
  top : Top S R
theorem Cvx.tail {b : Pt} {R : List Pt} (h : Cvx (b :: R)) : Cvx R := by
  match R, h with
  | [], _ => trivial
  | [_], _ => trivial
  | _ :: _ :: _, h => exact h.2
theorem Lft.tail {S : Pt → Prop} {b : Pt} {R : List Pt} (h : Lft S (b :: R)) : Lft S R := by
  match R, h with
  | [], _ => trivial
  | _ :: _, h => exact h.2
theorem Dsc.tail {b : Pt} {R : List Pt} (h : Dsc (b :: R)) : Dsc R := (List.pairwise_cons.1 h).2
theorem Dsc.lt {b a : Pt} {R : List Pt} (h : Dsc (b :: R)) (ha : a ∈ R) : pltB a b = true := (List.pairwise_cons.1 h).1 a ha
theorem ChI.ext {S T : Pt → Prop} {R : List Pt} (h : ChI S R) (e : ∀ q, S q ↔ T q) : ChI T R := by
  have : S = T := funext fun q => propext (e q)
  rw [← this]
  exact h
/-- The last of a chain, the least of all. -/
theorem ChI.tail {S : Pt → Prop} {b a : Pt} {R : List Pt} (h : ChI S (b :: a :: R)) : (∀ z ∈ a :: R, S z) ∧ Dsc (a :: R) ∧ Cvx (a :: R) ∧ Lft S (a :: R) ∧ Bot S (a :: R) := by
  refine ⟨fun z hz => h.mem z (List.mem_cons_of_mem _ hz), h.dsc.tail, h.cvx.tail, h.lft.tail, ?_⟩
  obtain ⟨m, h1, h2⟩ := h.bot
  exact ⟨m, by rw [List.getLast?_cons_cons] at h1; exact h1, h2⟩
/-- Two chains with the same top: the next is the same. -/
theorem next_le {S : Pt → Prop} {b a a' : Pt} {r' : List Pt} (ha : S a) (hd : pltB a b = true) (hl : ∀ q, S q → 0 ≤ crP a b q) (hm' : ∀ z ∈ b :: a' :: r', S z) (hd' : Dsc (b :: a' :: r')) (hc' : Cvx (b :: a' :: r')) (hl' : Lft S (b :: a' :: r')) (hb' : Bot S (b :: a' :: r')) : ¬ pltB a a' = true := by
  intro hlt
  have hab' : pltB a' b = true := hd'.lt (by simp)
  have k1 := hl a' (hm' a' (by simp))
  have k2 := hl'.1 a ha
  have e1 : crP a b a' = cr2 (dif b a') (dif a' a) := by unfold crP crossI cr2 dif; simp only; grind
  have e2 : crP a' b a = -cr2 (dif b a') (dif a' a) := by unfold crP crossI cr2 dif; simp only; grind
  match r', hm', hd', hc', hl', hb' with
  | [], hm', hd', hc', hl', hb' =>
    obtain ⟨m, h1, h2⟩ := hb'
    obtain rfl : a' = m := by simpa using h1
    rcases h2 a ha with rfl | h
    · exact oP_irr hlt
    · exact oP_asym hlt h
  | c :: t, hm', hd', hc', hl', hb' =>
    have hca : pltB c a' = true := hd'.tail.lt (by simp)
    have k3 := hc'.1
    have k4 := hl'.2.1 a ha
    have e3 : crP c a' b = cr2 (dif a' c) (dif b a') := by unfold crP crossI cr2 dif; simp only; grind
    have e4 : crP c a' a = cr2 (dif a' a) (dif a' c) := by unfold crP crossI cr2 dif; simp only; grind
    have := (cr_tr (plt_pos.1 hlt) (plt_pos.1 hca) (plt_pos.1 hab') (by omega) (by omega)).2 (.inr (by omega))
    have e5 : cr2 (dif b a') (dif a' a) = -cr2 (dif a' a) (dif b a') := by unfold cr2 dif; simp only; grind
    omega
theorem chain_eq {S : Pt → Prop} : ∀ {r r' : List Pt} {b : Pt}, (∀ z ∈ b :: r, S z) → Dsc (b :: r) → Cvx (b :: r) → Lft S (b :: r) → Bot S (b :: r) → (∀ z ∈ b :: r', S z) → Dsc (b :: r') → Cvx (b :: r') → Lft S (b :: r') → Bot S (b :: r') → r = r'
  | [], [], _, _, _, _, _, _, _, _, _, _, _ => rfl
  | [], a' :: r', b, hm, hd, hc, hl, hb, hm', hd', hc', hl', hb' => by
    obtain ⟨m, h1, h2⟩ := hb
    obtain rfl : b = m := by simpa using h1
    have h3 : pltB a' b = true := hd'.lt (by simp)
    rcases h2 a' (hm' a' (by simp)) with rfl | h
    · exact (oP_irr h3).elim
    · exact (oP_asym h3 h).elim
  | a :: r, [], b, hm, hd, hc, hl, hb, hm', hd', hc', hl', hb' => by
    obtain ⟨m, h1, h2⟩ := hb'
    obtain rfl : b = m := by simpa using h1
    have h3 : pltB a b = true := hd.lt (by simp)
    rcases h2 a (hm a (by simp)) with rfl | h
    · exact (oP_irr h3).elim
    · exact (oP_asym h3 h).elim
  | a :: r, a' :: r', b, hm, hd, hc, hl, hb, hm', hd', hc', hl', hb' => by
    have h1 := next_le (hm a (by simp)) (hd.lt (by simp)) hl.1 hm' hd' hc' hl' hb'
    have h2 := next_le (hm' a' (by simp)) (hd'.lt (by simp)) hl'.1 hm hd hc hl hb
    have e : a = a' := by
      rcases oP_tri a a' with h | h | h
      · exact h
      · exact absurd h h1
      · exact absurd h h2
    subst e
    have bt : ∀ {t : List Pt}, Bot S (b :: a :: t) → Bot S (a :: t) := fun {t} h => by
      obtain ⟨m, q1, q2⟩ := h
      exact ⟨m, by rw [List.getLast?_cons_cons] at q1; exact q1, q2⟩
    rw [chain_eq (fun z hz => hm z (List.mem_cons_of_mem _ hz)) hd.tail hc.tail hl.2 (bt hb) (fun z hz => hm' z (List.mem_cons_of_mem _ hz)) hd'.tail hc'.tail hl'.2 (bt hb')]
/-- A chain of a set is the only one. -/
theorem ChI.uniq {S : Pt → Prop} {R R' : List Pt} (h : ChI S R) (h' : ChI S R') : R = R' := by
  obtain ⟨m, h1, h2⟩ := h.top
  obtain ⟨m', h1', h2'⟩ := h'.top
  match R, R', h, h', h1, h1' with
  | b :: r, b' :: r', h, h', h1, h1' =>
    obtain rfl : b = m := by simpa using h1
    obtain rfl : b' = m' := by simpa using h1'
    have e : b = b' := by
      rcases h2 b' (h'.mem b' (by simp)) with e | e
      · exact e.symm
      · rcases h2' b (h.mem b (by simp)) with e' | e'
        · exact e'
        · exact (oP_asym e e').elim
    subst e
    rw [chain_eq h.mem h.dsc h.cvx h.lft h.bot h'.mem h'.dsc h'.cvx h'.lft h'.bot]
end Go.Proofs.Ytbhdhejefpdjfaa
namespace Go.Proofs.Ytbhdhejefpdjfaa
set_option linter.all false
open Go.RowKit
theorem getD_mem' {R : List Pt} {k : Nat} (h : k < R.length) : R.getD k (0, 0) ∈ R := by simp [h]
end Go.Proofs.Ytbhdhejefpdjfaa
namespace Go.Proofs.Ytbhdhejefpdjfaa
set_option linter.all false
open Go.RowKit
/-- Strictly convex: all other vertices are on the left of each edge. -/
structure CvH (h : List Pt) : Prop where
  three : 3 ≤ h.length
  nodup : h.Nodup
  left : ∀ j, j < h.length → ∀ v ∈ h, v ≠ h.getD j (0, 0) → v ≠ nxP h j → 0 < crP (h.getD j (0, 0)) (nxP h j) v
theorem getD_append (a b : List Pt) (k : Nat) : (a ++ b).getD k (0, 0) = if k < a.length then a.getD k (0, 0) else b.getD (k - a.length) (0, 0) := by
  simp only [List.getD, List.getElem?_append]
  split <;> rfl
theorem getD_take' (a : List Pt) {k m : Nat} (h : k < m) : (a.take m).getD k (0, 0) = a.getD k (0, 0) := by
  simp [List.getD, h]
end Go.Proofs.Ytbhdhejefpdjfaa
namespace Go.Proofs.Ytbhdhejefpdjfaa
set_option linter.all false
open Go.RowKit
theorem nd_inj {h : List Pt} (hn : h.Nodup) {i j : Nat} (hi : i < h.length) (hj : j < h.length) (e : h.getD i (0, 0) = h.getD j (0, 0)) : i = j := by
  rcases Nat.lt_trichotomy i j with c | c | c
  · exact absurd (by simpa [hi, hj] using e) (List.pairwise_iff_getElem.1 hn i j hi hj c)
  · exact c
  · exact absurd (by simpa [hi, hj] using e.symm) (List.pairwise_iff_getElem.1 hn j i hj hi c)
theorem nx_ne {h : List Pt} (H : CvH h) {i : Nat} (hi : i < h.length) : (i + 1) % h.length ≠ i ∧ (i + 2) % h.length ≠ i ∧ (i + 2) % h.length ≠ (i + 1) % h.length := by
  have h3 := H.three
  generalize h.length = n at *
  have e1 : (i + 1) % n = if i + 1 = n then 0 else i + 1 := by
    split
    · rename_i e; rw [e, Nat.mod_self]
    · exact Nat.mod_eq_of_lt (by omega)
  have e2 : (i + 2) % n = if i + 2 = n then 0 else if i + 1 = n then 1 else i + 2 := by
    split
    · rename_i e; rw [e, Nat.mod_self]
    · split
      · have : i + 2 = n + 1 := by omega
        rw [this, Nat.add_mod_left, Nat.mod_eq_of_lt (by omega)]
      · exact Nat.mod_eq_of_lt (by omega)
  rw [e1, e2]
  split <;> split <;> (try split) <;> omega
theorem cvh_left {h : List Pt} (H : CvH h) {j k : Nat} (hj : j < h.length) (hk : k < h.length) (n1 : k ≠ j) (n2 : k ≠ (j + 1) % h.length) : 0 < crP (h.getD j (0, 0)) (nxP h j) (h.getD k (0, 0)) := by
  refine H.left j hj _ (getD_mem' hk) (fun e => n1 (nd_inj H.nodup hk hj e)) fun e => n2 (nd_inj H.nodup hk (Nat.mod_lt _ (by omega)) e)
/-- The parts of the area around the first vertex. -/
def fanA (h : List Pt) : Nat → Int
  | 0 => 0
  | i + 1 => fanA h i + crP (h.getD 0 (0, 0)) (h.getD i (0, 0)) (nxP h i)
theorem fan_is {h : List Pt} : ∀ i, i ≤ h.length → fanA h i = sgA h i - ((h.getD 0 (0, 0)).1 * (h.getD (i % h.length) (0, 0)).2 - (h.getD 0 (0, 0)).2 * (h.getD (i % h.length) (0, 0)).1)
  | 0, _ => by
    simp only [fanA, sgA, Nat.zero_mod]
    grind
  | i + 1, hi => by
    have ih := fan_is (h := h) i (by omega)
    rw [Nat.mod_eq_of_lt (by omega)] at ih
    have e : h.getD ((i + 1) % h.length) (0, 0) = nxP h i := rfl
    rw [e]
    simp only [fanA, sgA, sgT, ih]
    unfold crP crossI
    grind
theorem fan_all {h : List Pt} (h0 : 0 < h.length) : fanA h h.length = sgA h h.length := by
  have := fan_is (h := h) h.length (Nat.le_refl _)
  rw [Nat.mod_self] at this
  rw [this]
  grind
theorem fan_pos {h : List Pt} (H : CvH h) : ∀ i, i ≤ h.length → 0 ≤ fanA h i ∧ (2 ≤ i → 0 < fanA h i)
  | 0, _ => ⟨Int.le_refl _, fun h => by omega⟩
  | i + 1, hi => by
    obtain ⟨h1, h2⟩ := fan_pos H i (by omega)
    have h3 := H.three
    have rot : crP (h.getD 0 (0, 0)) (h.getD i (0, 0)) (nxP h i) = crP (h.getD i (0, 0)) (nxP h i) (h.getD 0 (0, 0)) := by unfold crP crossI; grind
    have part : 0 ≤ crP (h.getD 0 (0, 0)) (h.getD i (0, 0)) (nxP h i) := by
      rw [rot]
      by_cases c1 : 0 = i
      · subst c1
        rw [crP_ba]
        exact Int.le_refl _
      · by_cases c2 : 0 = (i + 1) % h.length
        · have : nxP h i = h.getD 0 (0, 0) := by unfold nxP; rw [← c2]
          rw [this, crP_bb]
          exact Int.le_refl _
        · exact Int.le_of_lt (cvh_left H (by omega) (by omega) c1 c2)
    refine ⟨by simp only [fanA]; omega, fun hge => ?_⟩
    simp only [fanA]
    rcases Nat.lt_or_ge i 2 with c | c
    · obtain rfl : i = 1 := by omega
      have : 0 < crP (h.getD 1 (0, 0)) (nxP h 1) (h.getD 0 (0, 0)) := cvh_left H (by omega) (by omega) (by omega) (by rw [Nat.mod_eq_of_lt (by omega)]; omega)
      omega
    · have := h2 c
      omega
/-- Strictly convex rings are counterclockwise. -/
theorem cvh_area {h : List Pt} (H : CvH h) : 0 < sgA h h.length := by
  have h3 := H.three
  rw [← fan_all (by omega)]
  exact (fan_pos H _ (Nat.le_refl _)).2 (by omega)
end Go.Proofs.Ytbhdhejefpdjfaa
namespace Go.Proofs.Ytbhdhejefpdjfaa
set_option linter.all false
open Go.RowKit
theorem no_on {a b v : Pt} (h : 0 < crP a b v) : hasB a.1 a.2 b.1 b.2 v.1 v.2 = false := by
  refine hasB_no ?_
  rw [beq_eq_false_iff_ne]
  have e : (a.1 - v.1) * (b.2 - v.2) - (a.2 - v.2) * (b.1 - v.1) = crP a b v := by unfold crP crossI; grind
  omega
theorem no_dv {a b c d e f g h : Int} (h1 : 0 ≤ crossI a b c d e f) (h2 : 0 ≤ crossI a b c d g h) : dvB a b c d e f g h = false := by
  unfold dvB
  have k : ∀ x : Int, 0 ≤ x → cmpI x 0 = 0 ∨ cmpI x 0 = 1 := fun x hx => by
    unfold cmpI
    split
    · omega
    · split <;> simp
  rcases k _ h1 with k1 | k1 <;> rcases k _ h2 with k2 | k2 <;> rw [k1, k2] <;> decide
theorem asc_one {l : List Pt} {p : Pt} (ha : Asc l) (h : ∀ z ∈ l, z = p) (hp : p ∈ l) : l.length = 1 := by
  match l, ha, h, hp with
  | [_], _, _, _ => rfl
  | x :: y :: r, ha, h, _ =>
    have h1 := (List.pairwise_cons.1 ha).1 y (by simp)
    rw [h x (by simp), h y (by simp)] at h1
    exact (oP_irr h1).elim
def relP (a b c d : Pt) : Int := relA a.1 a.2 b.1 b.2 c.1 c.2 d.1 d.2
/-- Two edges, each with the other on its left: apart. -/
theorem rel_apart {a b c d : Pt} (h1 : 0 < crP a b c) (h2 : 0 < crP a b d) (h3 : 0 < crP c d a) (h4 : 0 < crP c d b) : relP a b c d = 0 := by
  unfold relP relA
  have e : ceS a.1 a.2 b.1 b.2 c.1 c.2 d.1 d.2 = [] := by
    rw [List.eq_nil_iff_forall_not_mem]
    intro z hz
    obtain ⟨q1, q2⟩ := ce_mem.1 hz
    unfold onB at q1
    simp only [Bool.and_eq_true] at q1
    rcases q2 with rfl | rfl | rfl | rfl
    · rw [show hasB c.1 c.2 d.1 d.2 a.1 a.2 = false from no_on h3] at q1; exact absurd q1.2 (by decide)
    · rw [show hasB c.1 c.2 d.1 d.2 b.1 b.2 = false from no_on h4] at q1; exact absurd q1.2 (by decide)
    · rw [show hasB a.1 a.2 b.1 b.2 c.1 c.2 = false from no_on h1] at q1; exact absurd q1.1 (by decide)
    · rw [show hasB a.1 a.2 b.1 b.2 d.1 d.2 = false from no_on h2] at q1; exact absurd q1.1 (by decide)
  rw [e, no_dv (Int.le_of_lt h1) (Int.le_of_lt h2)]
  rfl
/-- Two edges, one behind the other: they touch. -/
theorem rel_touch {a b d : Pt} (h1 : 0 < crP a b d) : relP a b b d = 1 := by
  unfold relP relA
  have h2 : 0 < crP b d a := by
    have : crP b d a = crP a b d := by unfold crP crossI; grind
    omega
  have e : (ceS a.1 a.2 b.1 b.2 b.1 b.2 d.1 d.2).length = 1 := by
    refine asc_one (p := b) (ce_asc ..) (fun z hz => ?_) (ce_mem.2 ⟨by unfold onB; rw [hasB_b, hasB_a]; rfl, .inr (.inl rfl)⟩)
    obtain ⟨q1, q2⟩ := ce_mem.1 hz
    unfold onB at q1
    simp only [Bool.and_eq_true] at q1
    rcases q2 with rfl | rfl | rfl | rfl
    · rw [show hasB b.1 b.2 d.1 d.2 a.1 a.2 = false from no_on h2] at q1; exact absurd q1.2 (by decide)
    · rfl
    · rfl
    · rw [show hasB a.1 a.2 b.1 b.2 d.1 d.2 = false from no_on h1] at q1; exact absurd q1.1 (by decide)
  rw [e]
  rfl
theorem edR_P {h : List Pt} {i k : Nat} (hs : sgQ h i = true) (hk : sgQ h k = true) : edR h i k = relP (h.getD i (0, 0)) (nxP h i) (h.getD k (0, 0)) (nxP h k) := by
  rw [edR_is, hs, hk]
  rfl
/-- Strictly convex rings are simple. -/
theorem cvh_simple {h : List Pt} (H : CvH h) (ho : okL h = true) : issI h = true := by
  unfold issI
  rw [ho, decide_eq_true H.three]
  simp only [Bool.true_and]
  have hv : allV h = true := by
    unfold okL at ho
    simp only [Bool.and_eq_true] at ho
    exact ho.1
  have sg : ∀ i, i < h.length → sgQ h i = true := fun i hi => (sgQ_iff hv hi).2 fun e => (nx_ne H hi).1 (nd_inj H.nodup hi (nx_lt hi) e).symm
  refine allQ_all _ _ fun i _ hi => allQ_all _ _ fun k _ hk => ?_
  have hi : i < h.length := by omega
  have hk : k < h.length := by omega
  unfold okE
  by_cases hlt : i < k
  rotate_left
  · rw [decide_eq_false hlt]; rfl
  rw [decide_eq_true hlt, edR_P (sg i hi) (sg k hk)]
  simp only [Bool.not_true, Bool.false_or, beq_iff_eq]
  obtain ⟨p1, p2, p3⟩ := nx_ne H hi
  obtain ⟨r1, r2, r3⟩ := nx_ne H hk
  have mi := nx_lt hi
  have mk := nx_lt hk
  have ei : nxP h i = h.getD ((i + 1) % h.length) (0, 0) := rfl
  have ek : nxP h k = h.getD ((k + 1) % h.length) (0, 0) := rfl
  unfold nbQ
  by_cases c1 : k = i + 1
  · rw [decide_eq_true c1]
    have e1 : (i + 1) % h.length = k := by rw [← c1, Nat.mod_eq_of_lt hk]
    have e2 : (k + 1) % h.length = (i + 2) % h.length := by rw [c1]
    have l := cvh_left H hi mk (by rw [e2]; exact p2) (by rw [e2]; exact p3)
    rw [← ek] at l
    have e3 : h.getD k (0, 0) = nxP h i := by rw [ei, e1]
    rw [e3]
    exact rel_touch l
  · rw [decide_eq_false c1]
    by_cases c2 : (k + 1) % h.length = i
    · rw [decide_eq_true c2]
      have e1 : (i + 1) % h.length = (k + 2) % h.length := by
        rw [← c2, Nat.mod_add_mod]
      have l := cvh_left H hk mi (by rw [e1]; exact r2) (by rw [e1]; exact r3)
      rw [← ei] at l
      have e3 : nxP h k = h.getD i (0, 0) := by rw [ek, c2]
      rw [e3] at l ⊢
      have := rel_touch l
      unfold relP at this ⊢
      rw [relA_comm]
      exact this
    · rw [decide_eq_false c2]
      have e0 : (i + 1) % h.length = i + 1 := Nat.mod_eq_of_lt (by omega)
      have n1 : k ≠ (i + 1) % h.length := by omega
      have n2 : (k + 1) % h.length ≠ (i + 1) % h.length := by
        intro e
        have hk1 : (k + 1) % h.length = if k + 1 = h.length then 0 else k + 1 := by
          split
          · rename_i q; rw [q, Nat.mod_self]
          · exact Nat.mod_eq_of_lt (by omega)
        rw [e0, hk1] at e
        split at e <;> omega
      have l1 := cvh_left H hi hk (by omega) n1
      have l2 := cvh_left H hi mk c2 n2
      have l3 := cvh_left H hk hi (by omega) (by omega)
      have l4 := cvh_left H hk mi (by omega) (fun e => n2 e.symm)
      rw [← ek] at l2
      rw [← ei] at l4
      exact rel_apart l1 l2 l3 l4
end Go.Proofs.Ytbhdhejefpdjfaa
namespace Go.Proofs.Ytbhdhejefpdjfaa
set_option linter.all false
open Go.RowKit
/-- Two segments meet, by the signs of their sides. -/
def mtP (a b c d : Pt) : Prop := crP a b c * crP a b d ≤ 0 ∧ crP c d a * crP c d b ≤ 0 ∧ crP a b c ≠ crP a b d
theorem mt_hs {a b c d : Pt} (h0 : crP a b c = 0) (h1 : crP c d a * crP c d b ≤ 0) (h2 : crP a b d ≠ 0) : hasB a.1 a.2 b.1 b.2 c.1 c.2 = true := by
  obtain ⟨ax, ay⟩ := a
  obtain ⟨bx, b_y⟩ := b
  obtain ⟨cx, cy⟩ := c
  obtain ⟨dx, dy⟩ := d
  have e0 : (ax - cx) * (b_y - cy) - (ay - cy) * (bx - cx) = 0 := by
    unfold crP crossI at h0
    simp only at h0
    grind
  have k1 : crP (cx, cy) (dx, dy) (ax, ay) * ((ax - cx) * (bx - cx) + (ay - cy) * (b_y - cy)) = crP (cx, cy) (dx, dy) (bx, b_y) * ((ax - cx) * (ax - cx) + (ay - cy) * (ay - cy)) := by
    unfold crP crossI
    simp only
    grind
  have k2 : crP (cx, cy) (dx, dy) (bx, b_y) * ((ax - cx) * (bx - cx) + (ay - cy) * (b_y - cy)) = crP (cx, cy) (dx, dy) (ax, ay) * ((bx - cx) * (bx - cx) + (b_y - cy) * (b_y - cy)) := by
    unfold crP crossI
    simp only
    grind
  have k3 : crP (ax, ay) (bx, b_y) (dx, dy) = crP (cx, cy) (dx, dy) (ax, ay) - crP (cx, cy) (dx, dy) (bx, b_y) := by
    unfold crP crossI at h0 ⊢
    simp only at h0 ⊢
    grind
  unfold hasB
  simp only [e0, beq_self_eq_true, Bool.true_and, decide_eq_true_eq]
  generalize crP (cx, cy) (dx, dy) (ax, ay) = s at *
  generalize crP (cx, cy) (dx, dy) (bx, b_y) = t at *
  have sqa := mul_sq (ax - cx)
  have sqb := mul_sq (ay - cy)
  have sqc := mul_sq (bx - cx)
  have sqd := mul_sq (b_y - cy)
  generalize (ax - cx) * (bx - cx) + (ay - cy) * (b_y - cy) = D at *
  rcases Int.lt_or_le 0 D with hD | hD
  rotate_left
  · exact hD
  exfalso
  generalize (ax - cx) * (ax - cx) = p1 at *
  generalize (ay - cy) * (ay - cy) = p2 at *
  generalize (bx - cx) * (bx - cx) = p3 at *
  generalize (b_y - cy) * (b_y - cy) = p4 at *
  rcases Int.lt_trichotomy s 0 with hs | hs | hs
  · have t0 : 0 ≤ t := by
      rcases Int.lt_or_le t 0 with ht | ht
      · have := Int.mul_pos_of_neg_of_neg hs ht
        omega
      · exact ht
    have := Int.mul_neg_of_neg_of_pos hs hD
    have := Int.mul_nonneg t0 (show 0 ≤ p1 + p2 by omega)
    omega
  · subst hs
    have h5 : t * D = 0 := by rw [k2]; simp
    rcases Int.mul_eq_zero.1 h5 with h6 | h6
    · subst h6
      exact h2 (by rw [k3]; rfl)
    · omega
  · have t0 : t ≤ 0 := by
      rcases Int.lt_or_le 0 t with ht | ht
      · have := Int.mul_pos hs ht
        omega
      · exact ht
    have := Int.mul_pos hs hD
    have := Int.mul_nonneg (show 0 ≤ -t by omega) (show 0 ≤ p1 + p2 by omega)
    have e : -t * (p1 + p2) = -(t * (p1 + p2)) := Int.neg_mul ..
    omega
theorem crP_sw (a b c : Pt) : crP b a c = -crP a b c := by unfold crP crossI; grind
theorem crP_df (a b c d : Pt) : crP a b c - crP a b d = crP c d b - crP c d a := by unfold crP crossI; grind
theorem mtP_sw {a b c d : Pt} (h : mtP a b c d) : mtP c d a b := ⟨h.2.1, h.1, fun e => h.2.2 (by have := crP_df a b c d; omega)⟩
theorem sgn_mul {x y : Int} (hx : x ≠ 0) (hy : y ≠ 0) (h : x * y ≤ 0) : decide (IntKind.i64.wrap (cmpI x 0 * cmpI y 0) < 0) = true := by
  have key : (x < 0 ∧ 0 < y) ∨ (0 < x ∧ y < 0) := by
    rcases Int.lt_trichotomy x 0 with h1 | h1 | h1
    · rcases Int.lt_trichotomy y 0 with h2 | h2 | h2
      · have := Int.mul_pos_of_neg_of_neg h1 h2
        omega
      · exact absurd h2 hy
      · exact .inl ⟨h1, h2⟩
    · exact absurd h1 hx
    · rcases Int.lt_trichotomy y 0 with h2 | h2 | h2
      · exact .inr ⟨h1, h2⟩
      · exact absurd h2 hy
      · have := Int.mul_pos h1 h2
        omega
  unfold cmpI
  rcases key with ⟨h1, h2⟩ | ⟨h1, h2⟩
  · rw [if_pos h1, if_neg (show ¬ y < 0 by omega), if_pos h2]; rfl
  · rw [if_neg (show ¬ x < 0 by omega), if_pos h1, if_pos h2]; rfl
theorem end_rel {a b c d z : Pt} (hz : z = a ∨ z = b ∨ z = c ∨ z = d) (p1 : hasB a.1 a.2 b.1 b.2 z.1 z.2 = true) (p2 : hasB c.1 c.2 d.1 d.2 z.1 z.2 = true) : relP a b c d ≠ 0 := by
  have hm : z ∈ ceS a.1 a.2 b.1 b.2 c.1 c.2 d.1 d.2 := ce_mem.2 ⟨by unfold onB; rw [p1, p2]; rfl, hz⟩
  have hl : 0 < (ceS a.1 a.2 b.1 b.2 c.1 c.2 d.1 d.2).length := List.length_pos_of_mem hm
  unfold relP relA relN
  split
  · decide
  · rw [if_pos (by omega)]; decide
/-- Segments that meet are not apart. -/
theorem mt_rel {a b c d : Pt} (h : mtP a b c d) : relP a b c d ≠ 0 := by
  obtain ⟨h1, h2, h3⟩ := h
  have hd := crP_df a b c d
  have end_ : ∀ z, (z = a ∨ z = b ∨ z = c ∨ z = d) → hasB a.1 a.2 b.1 b.2 z.1 z.2 = true → hasB c.1 c.2 d.1 d.2 z.1 z.2 = true → relP a b c d ≠ 0 := fun z hz p1 p2 => end_rel hz p1 p2
  by_cases c1 : crP a b c = 0
  · exact end_ c (.inr (.inr (.inl rfl))) (mt_hs c1 h2 (fun e => h3 (by omega))) (hasB_a ..)
  by_cases c2 : crP a b d = 0
  · exact end_ d (.inr (.inr (.inr rfl))) (mt_hs c2 (by rw [crP_sw c d a, crP_sw c d b, Int.neg_mul_neg]; exact h2) (fun e => h3 (by omega))) (hasB_b ..)
  by_cases c3 : crP c d a = 0
  · exact end_ a (.inl rfl) (hasB_a ..) (mt_hs c3 h1 (fun e => h3 (by omega)))
  by_cases c4 : crP c d b = 0
  · exact end_ b (.inr (.inl rfl)) (hasB_b ..) (mt_hs c4 (by rw [crP_sw a b c, crP_sw a b d, Int.neg_mul_neg]; exact h1) (fun e => h3 (by omega)))
  have e1 : dvB a.1 a.2 b.1 b.2 c.1 c.2 d.1 d.2 = true := sgn_mul c1 c2 h1
  have e2 : dvB c.1 c.2 d.1 d.2 a.1 a.2 b.1 b.2 = true := sgn_mul c3 c4 h2
  unfold relP relA
  rw [e1, e2]
  unfold relN
  split
  · decide
  · split <;> decide
/-- Of those that go below, one does so first. -/
theorem min_ratio {a b : Nat → Int} : ∀ {m : Nat}, (∀ i, i < m → 0 ≤ a i) → (∃ i, i < m ∧ b i < 0) → ∃ i, i < m ∧ b i < 0 ∧ ∀ k, k < m → b k < 0 → a i * (a k - b k) ≤ a k * (a i - b i)
  | 0, _, ⟨i, hi, _⟩ => absurd hi (by omega)
  | m + 1, ha, hex => by
    by_cases hm : b m < 0
    rotate_left
    · obtain ⟨i, hi, hb⟩ := hex
      have : i ≠ m := fun e => hm (e ▸ hb)
      obtain ⟨j, j1, j2, j3⟩ := min_ratio (a := a) (b := b) (m := m) (fun i hi => ha i (by omega)) ⟨i, by omega, hb⟩
      exact ⟨j, by omega, j2, fun k hk hbk => j3 k (by have : k ≠ m := fun e => hm (e ▸ hbk); omega) hbk⟩
    by_cases hr : ∃ i, i < m ∧ b i < 0
    rotate_left
    · refine ⟨m, by omega, hm, fun k hk hbk => ?_⟩
      rcases Nat.lt_or_ge k m with h | h
      · exact absurd ⟨k, h, hbk⟩ hr
      · obtain rfl : k = m := by omega
        exact Int.le_refl _
    obtain ⟨j, j1, j2, j3⟩ := min_ratio (a := a) (b := b) (m := m) (fun i hi => ha i (by omega)) hr
    have aj := ha j (by omega)
    have am := ha m (by omega)
    by_cases hc : a j * (a m - b m) ≤ a m * (a j - b j)
    · refine ⟨j, by omega, j2, fun k hk hbk => ?_⟩
      rcases Nat.lt_or_ge k m with h | h
      · exact j3 k h hbk
      · obtain rfl : k = m := by omega
        exact hc
    · refine ⟨m, by omega, hm, fun k hk hbk => ?_⟩
      rcases Nat.lt_or_ge k m with h | h
      · have h1 := j3 k h hbk
        have h2 : a m * (a j - b j) ≤ a j * (a m - b m) := by omega
        have ak := ha k (by omega)
        generalize ej : a j - b j = dj at *
        generalize ek : a k - b k = dk at *
        generalize em : a m - b m = dm at *
        have q1 := Int.mul_le_mul_of_nonneg_right h2 (show 0 ≤ dk by omega)
        have q2 := Int.mul_le_mul_of_nonneg_right h1 (show 0 ≤ dm by omega)
        have q3 : (a m * dk) * dj ≤ (a k * dm) * dj := by
          have e1 : a m * dj * dk = a m * dk * dj := by grind
          have e2 : a j * dm * dk = a j * dk * dm := by grind
          have e3 : a k * dj * dm = a k * dm * dj := by grind
          omega
        exact Int.le_of_mul_le_mul_right q3 (by omega)
      · obtain rfl : k = m := by omega
        exact Int.le_refl _
/-- Where the line of one side is reached: the side of the next side, and of the last one. -/
theorem sp_next (v0 v1 v2 p q : Pt) : crP v1 v2 p * -(crP v0 v1 q) + crP v1 v2 q * crP v0 v1 p = crP v0 v1 v2 * crP p q v1 := by unfold crP crossI; grind
theorem sp_prev (u v0 v1 p q : Pt) : crP u v0 p * -(crP v0 v1 q) + crP u v0 q * crP v0 v1 p = crP u v0 v1 * -(crP p q v0) := by unfold crP crossI; grind
/-- Before another point, by x, then by y up or down. -/
def bfP (s : Int) (a b : Pt) : Prop := a.1 < b.1 ∨ a.1 = b.1 ∧ s * a.2 < s * b.2
/-- A path from its least point on turns left and does not meet itself: it stays on the left of its sides. -/
theorem spiral {V : Nat → Pt} {n : Nat} {s : Int} (hT : ∀ i, i + 2 ≤ n → 0 < crP (V i) (V (i + 1)) (V (i + 2))) (hmin : ∀ k, 0 < k → k < n → bfP s (V 0) (V k)) (hn : V n = V 0)
    (hap : ∀ i m, i + 2 ≤ m → m < n → (i ≠ 0 ∨ m + 1 < n) → ¬ mtP (V i) (V (i + 1)) (V m) (V (m + 1))) :
    ∀ m, m < n → ∀ i, i < m → 0 ≤ crP (V i) (V (i + 1)) (V (m + 1)) := by
  intro m
  induction m with
  | zero => intro _ i hi; omega
  | succ m' ih =>
    intro hm
    generalize em : m' + 1 = m at *
    have ha : ∀ i, i < m → 0 ≤ crP (V i) (V (i + 1)) (V m) := fun i hi => by
      rcases Nat.lt_or_ge i m' with h | h
      · exact ih (by omega) i h
      · have e : i + 1 = m := by omega
        rw [e]
        have : crP (V i) (V m) (V m) = 0 := by unfold crP crossI; grind
        omega
    refine Classical.byContradiction fun hno => ?_
    have hex : ∃ i, i < m ∧ crP (V i) (V (i + 1)) (V (m + 1)) < 0 := by
      refine Classical.byContradiction fun h2 => hno fun i hi => ?_
      rcases Int.lt_or_le (crP (V i) (V (i + 1)) (V (m + 1))) 0 with h | h
      · exact absurd ⟨i, hi, h⟩ h2
      · exact h
    obtain ⟨i, hi, hb, hmn⟩ := min_ratio (a := fun i => crP (V i) (V (i + 1)) (V m)) (b := fun i => crP (V i) (V (i + 1)) (V (m + 1))) ha hex
    have hmn : ∀ k, k < m → crP (V k) (V (k + 1)) (V (m + 1)) < 0 → crP (V i) (V (i + 1)) (V m) * (crP (V k) (V (k + 1)) (V m) - crP (V k) (V (k + 1)) (V (m + 1))) ≤ crP (V k) (V (k + 1)) (V m) * (crP (V i) (V (i + 1)) (V m) - crP (V i) (V (i + 1)) (V (m + 1))) := hmn
    have hb : crP (V i) (V (i + 1)) (V (m + 1)) < 0 := hb
    have hi2 : i + 2 ≤ m := by
      rcases Nat.lt_or_ge (i + 1) m with h | h
      · omega
      · exfalso
        have := hT i (by omega)
        rw [show i + 2 = m + 1 by omega] at this
        omega
    have hz : ∀ k, k < m → 0 ≤ crP (V k) (V (k + 1)) (V m) * -(crP (V i) (V (i + 1)) (V (m + 1))) + crP (V k) (V (k + 1)) (V (m + 1)) * crP (V i) (V (i + 1)) (V m) := fun k hk => by
      have ak := ha k hk
      have ai := ha i hi
      rcases Int.lt_or_le (crP (V k) (V (k + 1)) (V (m + 1))) 0 with h | h
      · have := hmn k hk h
        generalize crP (V k) (V (k + 1)) (V m) = x at *
        generalize crP (V k) (V (k + 1)) (V (m + 1)) = y at *
        generalize crP (V i) (V (i + 1)) (V m) = z at *
        generalize crP (V i) (V (i + 1)) (V (m + 1)) = t at *
        grind
      · have q1 := Int.mul_nonneg ak (show 0 ≤ -(crP (V i) (V (i + 1)) (V (m + 1))) by omega)
        have q2 := Int.mul_nonneg h ai
        omega
    have ai := ha i hi
    have df := crP_df (V i) (V (i + 1)) (V m) (V (m + 1))
    have hM1 : 0 ≤ crP (V m) (V (m + 1)) (V (i + 1)) := by
      have h1 := hz (i + 1) (by omega)
      rw [sp_next] at h1
      exact Int.nonneg_of_mul_nonneg_right h1 (hT i (by omega))
    have hi0 : i ≠ 0 ∨ m + 1 < n := by
      rcases Nat.eq_zero_or_pos i with h | h
      · right
        rcases Nat.lt_or_ge (m + 1) n with h2 | h2
        · exact h2
        · exfalso
          subst h
          have e : m + 1 = n := by omega
          rw [e, hn] at hb
          have : crP (V 0) (V (0 + 1)) (V 0) = 0 := by unfold crP crossI; grind
          omega
      · exact .inl (by omega)
    have hM0 : crP (V m) (V (m + 1)) (V i) ≤ 0 := by
      rcases Nat.eq_zero_or_pos i with h | h
      · subst h
        have hmn1 : m + 1 < n := by omega
        rcases Int.lt_or_le 0 (crP (V m) (V (m + 1)) (V 0)) with hp | hp
        rotate_left
        · exact hp
        exfalso
        have b1 := hmin 1 (by omega) (by omega)
        have b2 := hmin m (by omega) (by omega)
        have b3 := hmin (m + 1) (by omega) hmn1
        have g1 : -(crP (V 0) (V (0 + 1)) (V (m + 1))) * ((V m).1 - (V 0).1) + crP (V 0) (V (0 + 1)) (V m) * ((V (m + 1)).1 - (V 0).1) + crP (V m) (V (m + 1)) (V 0) * ((V (0 + 1)).1 - (V 0).1) = 0 := by unfold crP crossI; grind
        have g2 : -(crP (V 0) (V (0 + 1)) (V (m + 1))) * (s * (V m).2 - s * (V 0).2) + crP (V 0) (V (0 + 1)) (V m) * (s * (V (m + 1)).2 - s * (V 0).2) + crP (V m) (V (m + 1)) (V 0) * (s * (V (0 + 1)).2 - s * (V 0).2) = 0 := by unfold crP crossI; grind
        unfold bfP at b1 b2 b3
        generalize crP (V 0) (V (0 + 1)) (V (m + 1)) = t at *
        generalize crP (V 0) (V (0 + 1)) (V m) = z at *
        generalize crP (V m) (V (m + 1)) (V 0) = u at *
        have n1 := Int.mul_nonneg (show 0 ≤ -t by omega) (show 0 ≤ (V m).1 - (V 0).1 by omega)
        have n2 := Int.mul_nonneg ai (show 0 ≤ (V (m + 1)).1 - (V 0).1 by omega)
        have n3 := Int.mul_nonneg (show 0 ≤ u by omega) (show 0 ≤ (V (0 + 1)).1 - (V 0).1 by rw [Nat.zero_add]; omega)
        have z1 : -t * ((V m).1 - (V 0).1) = 0 := by omega
        have z2 : z * ((V (m + 1)).1 - (V 0).1) = 0 := by omega
        have z3 : u * ((V (0 + 1)).1 - (V 0).1) = 0 := by omega
        have y1 : 0 < -t * (s * (V m).2 - s * (V 0).2) := by
          rcases Int.mul_eq_zero.1 z1 with h | h
          · omega
          · exact Int.mul_pos (by omega) (by omega)
        have y2 : 0 ≤ z * (s * (V (m + 1)).2 - s * (V 0).2) := by
          rcases Int.mul_eq_zero.1 z2 with h | h
          · rw [h]; simp
          · exact Int.mul_nonneg ai (by omega)
        have y3 : 0 ≤ u * (s * (V (0 + 1)).2 - s * (V 0).2) := by
          rcases Int.mul_eq_zero.1 z3 with h | h
          · omega
          · rw [Nat.zero_add] at h ⊢
            exact Int.mul_nonneg (by omega) (by omega)
        omega
      · have h1 := hz (i - 1) (by omega)
        rw [show i - 1 + 1 = i by omega, sp_prev] at h1
        have hT1 := hT (i - 1) (by omega)
        rw [show i - 1 + 1 = i by omega, show i - 1 + 2 = i + 1 by omega] at hT1
        have := Int.nonneg_of_mul_nonneg_right h1 hT1
        omega
    refine hap i m hi2 hm hi0 ⟨?_, ?_, by omega⟩
    · have := Int.mul_nonneg ai (show 0 ≤ -(crP (V i) (V (i + 1)) (V (m + 1))) by omega)
      rw [Int.mul_neg] at this
      omega
    · have := Int.mul_nonneg (show 0 ≤ -(crP (V m) (V (m + 1)) (V i)) by omega) hM1
      rw [Int.neg_mul] at this
      omega
end Go.Proofs.Ytbhdhejefpdjfaa
namespace Go.Proofs.Ytbhdhejefpdjfaa
set_option linter.all false
open Go.RowKit
theorem relV_comm (a b c d e f g h : Int) : relV a b c d e f g h = relV e f g h a b c d := by
  unfold relV
  rw [relA_comm, Bool.and_comm]
end Go.Proofs.Ytbhdhejefpdjfaa
namespace Go.Proofs.Ytbhdhejefpdjfaa
set_option linter.all false
open Go.RowKit
theorem tri_pos {h : List Pt} (H : CvH h) {i : Nat} (h1 : 1 ≤ i) (hi : i + 1 < h.length) : 0 < crP (h.getD 0 (0, 0)) (h.getD i (0, 0)) (h.getD (i + 1) (0, 0)) := by
  have := cvh_left H (j := i) (k := 0) (by omega) (by omega) (by omega) (by rw [Nat.mod_eq_of_lt (by omega)]; omega)
  have e : nxP h i = h.getD (i + 1) (0, 0) := by unfold nxP; rw [Nat.mod_eq_of_lt (by omega)]
  rw [e] at this
  have r : crP (h.getD 0 (0, 0)) (h.getD i (0, 0)) (h.getD (i + 1) (0, 0)) = crP (h.getD i (0, 0)) (h.getD (i + 1) (0, 0)) (h.getD 0 (0, 0)) := by unfold crP crossI; grind
  omega
end Go.Proofs.Ytbhdhejefpdjfaa
namespace Go.Proofs.Ytbhdhejefpdjfaa
set_option linter.all false
open Go.RowKit
/-- The place behind j. -/
theorem md_nx {n j : Nat} (h : j < n) : (j + 1) % n = if j + 1 = n then 0 else j + 1 := by
  split
  · rename_i e
    rw [e, Nat.mod_self]
  · exact Nat.mod_eq_of_lt (by omega)
theorem md_add {n j r : Nat} (h : j < n) (hr : r < n) : (j + r) % n = if j + r < n then j + r else j + r - n := by
  split
  · exact Nat.mod_eq_of_lt (by assumption)
  · rw [Nat.mod_eq_sub_mod (by omega), Nat.mod_eq_of_lt (by omega)]
/-- Are two edges neighbours? -/
def adj (n i k : Nat) : Bool := decide ((i + 1) % n = k) || decide ((k + 1) % n = i)
theorem adj_sym (n i k : Nat) : adj n i k = adj n k i := by unfold adj; rw [Bool.or_comm]
theorem edR_sym (ps : List Pt) (i k : Nat) : edR ps i k = edR ps k i := relV_comm ..
theorem nbQ_adj {ps : List Pt} {i k : Nat} (hk : k < ps.length) (h : i < k) : nbQ ps i k = adj ps.length i k := by
  unfold nbQ adj
  rw [md_nx (show i < ps.length by omega)]
  congr 1
  rw [Bool.eq_iff_iff, decide_eq_true_eq, decide_eq_true_eq]
  split <;> omega
theorem allQ_iff {P : Nat → Bool} {n : Nat} : allQ P 0 n = true ↔ ∀ j, j < n → P j = true := by
  constructor
  · intro h j hj
    rcases hp : P j with _ | _
    · rw [allQ_no hj hp] at h
      cases h
    · rfl
  · exact fun h => allQ_all _ _ fun j _ h2 => h j (by omega)
/-- What makes the edges those of a simple polygon. -/
theorem simQ_iff {ps : List Pt} : simQ ps = true ↔ ∀ i k, i < ps.length → k < ps.length → i ≠ k → edR ps i k = bif adj ps.length i k then 1 else 0 := by
  have key : simQ ps = true ↔ ∀ i k, i < k → k < ps.length → edR ps i k = bif adj ps.length i k then 1 else 0 := by
    unfold simQ rowQ
    rw [allQ_iff]
    constructor
    · intro h i k hik hk
      have := allQ_iff.1 (h i (by omega)) k hk
      unfold okE at this
      rw [decide_eq_true hik, nbQ_adj hk hik] at this
      simpa using this
    · intro h i hi
      rw [allQ_iff]
      intro k hk
      unfold okE
      by_cases hik : i < k
      · rw [nbQ_adj hk hik, h i k hik hk]
        simp
      · rw [decide_eq_false hik]
        rfl
  rw [key]
  constructor
  · intro h i k hi hk hne
    rcases Nat.lt_or_ge i k with h1 | h1
    · exact h i k h1 hk
    · rw [edR_sym, adj_sym]
      exact h k i (by omega) hi
  · exact fun h i k h1 h2 => h i k (by omega) h2 (by omega)
/-- Beginning with another vertex. -/
def rotP (r : Nat) (ps : List Pt) : List Pt := ps.drop r ++ ps.take r
theorem rotP_len {r : Nat} {ps : List Pt} (h : r ≤ ps.length) : (rotP r ps).length = ps.length := by
  unfold rotP
  rw [List.length_append, List.length_drop, List.length_take]
  omega
theorem rotP_mem {r : Nat} {ps : List Pt} {z : Pt} : z ∈ rotP r ps ↔ z ∈ ps := by
  unfold rotP
  rw [List.mem_append, ← List.take_append_drop r ps, List.mem_append]
  simp only [List.take_append_drop]
  exact Or.comm
theorem rotP_at {r : Nat} {ps : List Pt} (h : r < ps.length) {j : Nat} (hj : j < ps.length) : (rotP r ps).getD j (0, 0) = ps.getD ((j + r) % ps.length) (0, 0) := by
  unfold rotP
  rw [md_add hj h, getD_append, List.length_drop]
  split
  · rw [if_pos (by omega)]
    simp [Nat.add_comm]
  · rw [if_neg (by omega), getD_take' _ (by omega)]
    congr 1
    omega
theorem rotP_nx {r : Nat} {ps : List Pt} (h : r < ps.length) {j : Nat} (hj : j < ps.length) : nxP (rotP r ps) j = nxP ps ((j + r) % ps.length) := by
  unfold nxP
  rw [rotP_len (by omega), rotP_at h (Nat.mod_lt _ (by omega))]
  congr 1
  rw [md_nx hj, md_add hj h]
  have e1 : (if j + 1 = ps.length then 0 else j + 1) < ps.length := by split <;> omega
  rw [md_add e1 h]
  have e2 : (if j + r < ps.length then j + r else j + r - ps.length) < ps.length := by split <;> omega
  rw [md_nx e2]
  split <;> split <;> split <;> (try split) <;> omega
theorem rotP_ed {r : Nat} {ps : List Pt} (h : r < ps.length) {i k : Nat} (hi : i < ps.length) (hk : k < ps.length) : edR (rotP r ps) i k = edR ps ((i + r) % ps.length) ((k + r) % ps.length) := by
  unfold edR
  rw [rotP_at h hi, rotP_at h hk, rotP_nx h hi, rotP_nx h hk]
theorem adj_rot {n r i k : Nat} (h : r < n) (hi : i < n) (hk : k < n) : adj n ((i + r) % n) ((k + r) % n) = adj n i k := by
  unfold adj
  rw [md_add hi h, md_add hk h]
  have e1 : (if i + r < n then i + r else i + r - n) < n := by split <;> omega
  have e2 : (if k + r < n then k + r else k + r - n) < n := by split <;> omega
  rw [md_nx e1, md_nx e2, md_nx hi, md_nx hk]
  congr 1
  · rw [Bool.eq_iff_iff, decide_eq_true_eq, decide_eq_true_eq]
    split <;> split <;> split <;> (try split) <;> omega
  · rw [Bool.eq_iff_iff, decide_eq_true_eq, decide_eq_true_eq]
    split <;> split <;> split <;> (try split) <;> omega
theorem bool_of {a b : Bool} (h1 : a = true → b = true) (h2 : b = true → a = true) : a = b := by
  rw [Bool.eq_iff_iff]
  exact ⟨h1, h2⟩
theorem okL_same {ps qs : List Pt} (hl : ps.length = qs.length) (h : ∀ z, z ∈ ps ↔ z ∈ qs) : okL ps = okL qs := by
  unfold okL
  rw [hl]
  congr 1
  refine bool_of (fun k => List.all_eq_true.2 fun z hz => List.all_eq_true.1 k z ((h z).2 hz)) (fun k => List.all_eq_true.2 fun z hz => List.all_eq_true.1 k z ((h z).1 hz))
theorem simQ_rot {r : Nat} {ps : List Pt} (h : r < ps.length) : simQ (rotP r ps) = simQ ps := by
  have hl := rotP_len (ps := ps) (Nat.le_of_lt h)
  refine bool_of (fun k => ?_) (fun k => ?_)
  · rw [simQ_iff] at k ⊢
    rw [hl] at k
    intro i j hi hj hne
    have back : ∀ i, i < ps.length → ∃ i', i' < ps.length ∧ (i' + r) % ps.length = i := by
      intro i hi
      rcases Nat.lt_or_ge i r with h1 | h1
      · refine ⟨i + ps.length - r, by omega, ?_⟩
        rw [md_add (by omega) h, if_neg (by omega)]
        omega
      · refine ⟨i - r, by omega, ?_⟩
        rw [md_add (by omega) h, if_pos (by omega)]
        omega
    obtain ⟨i', i1, rfl⟩ := back i hi
    obtain ⟨j', j1, rfl⟩ := back j hj
    have := k i' j' i1 j1 (fun e => hne (by rw [e]))
    rw [rotP_ed h i1 j1] at this
    rw [this, adj_rot h i1 j1]
  · rw [simQ_iff] at k ⊢
    rw [hl]
    intro i j hi hj hne
    rw [rotP_ed h hi hj, k _ _ (Nat.mod_lt _ (by omega)) (Nat.mod_lt _ (by omega)) ?_, adj_rot h hi hj]
    rw [md_add hi h, md_add hj h]
    split <;> split <;> omega
theorem issI_rot {r : Nat} {ps : List Pt} (h : r < ps.length) : issI (rotP r ps) = issI ps := by
  unfold issI
  rw [rotP_len (Nat.le_of_lt h), simQ_rot h, okL_same (rotP_len (Nat.le_of_lt h)) fun z => rotP_mem]
end Go.Proofs.Ytbhdhejefpdjfaa
namespace Go.Proofs.Ytbhdhejefpdjfaa
set_option linter.all false
open Go.RowKit
def mirP (p : Pt) : Pt := (p.1, -p.2)
theorem crP_mir (a b c : Pt) : crP (mirP a) (mirP b) (mirP c) = -crP a b c := by unfold crP crossI mirP; grind
theorem crP_cy (a b c : Pt) : crP b c a = crP a b c := by unfold crP crossI; grind
theorem mtP_mir {a b c d : Pt} (h : mtP (mirP a) (mirP b) (mirP c) (mirP d)) : mtP a b c d := by
  obtain ⟨h1, h2, h3⟩ := h
  rw [crP_mir, crP_mir, Int.neg_mul_neg] at h1 h2
  rw [crP_mir, crP_mir] at h3
  exact ⟨h1, h2, fun e => h3 (by rw [e])⟩
theorem mtP_rv {a b c d : Pt} (h : mtP a b c d) : mtP b a d c := by
  obtain ⟨h1, h2, h3⟩ := h
  refine ⟨?_, ?_, ?_⟩
  · rw [crP_sw a b d, crP_sw a b c, Int.neg_mul_neg, Int.mul_comm]
    exact h1
  · rw [crP_sw c d b, crP_sw c d a, Int.neg_mul_neg, Int.mul_comm]
    exact h2
  · rw [crP_sw a b d, crP_sw a b c]
    omega
/-- All vertices are on the left of all sides. -/
theorem spiral_all {V : Nat → Pt} {n : Nat} (hT : ∀ i, i + 2 ≤ n → 0 < crP (V i) (V (i + 1)) (V (i + 2))) (hmin : ∀ k, 0 < k → k < n → bfP 1 (V 0) (V k)) (hn : V n = V 0)
    (hap : ∀ i m, i + 2 ≤ m → m < n → (i ≠ 0 ∨ m + 1 < n) → ¬ mtP (V i) (V (i + 1)) (V m) (V (m + 1))) :
    ∀ j, j < n → ∀ k, k < n → 0 ≤ crP (V j) (V (j + 1)) (V k) := by
  intro j hj k hk
  rcases Nat.lt_or_ge k j with h | h
  · have h2 := spiral (V := fun k => mirP (V (n - k))) (n := n) (s := -1) (fun i hi => ?_) (fun k h0 hk => ?_) ?_ (fun i m him hm hor hmt => ?_) (n - 1 - k) (by omega) (n - 1 - j) (by omega)
    · simp only [crP_mir] at h2
      rw [show n - (n - 1 - j) = j + 1 by omega, show n - (n - 1 - j + 1) = j by omega, show n - (n - 1 - k + 1) = k by omega, crP_sw] at h2
      omega
    · simp only [crP_mir]
      have := hT (n - i - 2) (by omega)
      rw [show n - i - 2 + 1 = n - (i + 1) by omega, show n - i - 2 + 2 = n - i by omega, show n - i - 2 = n - (i + 2) by omega] at this
      rw [crP_sw, crP_cy] 
      have e : crP (V (n - (i + 1))) (V (n - i)) (V (n - (i + 2))) = crP (V (n - (i + 2))) (V (n - (i + 1))) (V (n - i)) := by unfold crP crossI; grind
      omega
    · have := hmin (n - k) (by omega) (by omega)
      unfold bfP mirP at *
      simp only [Nat.sub_zero, hn]
      omega
    · simp only [Nat.sub_self, Nat.sub_zero, hn]
    · have h3 := mtP_sw (mtP_rv (mtP_mir hmt))
      have := hap (n - m - 1) (n - i - 1) (by omega) (by omega) (by omega)
      rw [show n - m - 1 + 1 = n - m by omega, show n - i - 1 + 1 = n - i by omega] at this
      exact this h3
  · by_cases e1 : k = j
    · subst e1
      have : crP (V k) (V (k + 1)) (V k) = 0 := by unfold crP crossI; grind
      omega
    by_cases e2 : k = j + 1
    · subst e2
      have : crP (V j) (V (j + 1)) (V (j + 1)) = 0 := by unfold crP crossI; grind
      omega
    have := spiral hT hmin hn hap (k - 1) (by omega) j (by omega)
    rw [show k - 1 + 1 = k by omega] at this
    exact this
theorem sim_nodup {p : List Pt} (hv : allV p = true) (h3 : 3 ≤ p.length) (hs : simQ p = true) : (∀ i, i < p.length → sgQ p i = true) ∧ p.Nodup := by
  have hE := simQ_iff.1 hs
  have sg : ∀ i, i < p.length → sgQ p i = true := fun i hi => by
    rcases hq : sgQ p i with _ | _
    · exfalso
      have := hE i ((i + 1) % p.length) hi (Nat.mod_lt _ (by omega)) (Ne.symm (next_ne h3 hi))
      rw [edR_is, hq] at this
      simp only [Bool.false_and, cond_false] at this
      generalize adj p.length i ((i + 1) % p.length) = b at this
      cases b
      · exact absurd this (by decide)
      · exact absurd this (by decide)
    · rfl
  refine ⟨sg, nodup_get.2 fun i j hij hj e => ?_⟩
  have h1 := hE i j (by omega) hj (by omega)
  have n1 := (sgQ_iff hv (show i < p.length by omega)).1 (sg i (by omega))
  have n2 := (sgQ_iff hv hj).1 (sg j hj)
  rcases ha : adj p.length i j with _ | _
  · rw [ha, edR_is, sg i (by omega), sg j hj] at h1
    rcases edX_end (ps := p) (i := i) (k := j) (z := p.getD i (0, 0)) (.inl rfl) (.inl e) with h | h
    · rw [h] at h1; exact absurd h1 (by decide)
    · rw [h] at h1; exact absurd h1 (by decide)
  · unfold adj at ha
    simp only [Bool.or_eq_true, decide_eq_true_eq] at ha
    rcases ha with h | h
    · exact n1 (by unfold nxP; rw [h]; exact e)
    · exact n2 (by unfold nxP; rw [h]; exact e.symm)
theorem cvx_parts {p : List Pt} (h : cvxI p = true) : 3 ≤ p.length ∧ okL p = true ∧ allV p = true ∧ simQ p = true ∧ ∀ j, j < p.length → 0 < crP (p.getD j (0, 0)) (nxP p j) (nx2 p j) := by
  unfold cvxI issI at h
  simp only [Bool.and_eq_true, decide_eq_true_eq] at h
  obtain ⟨⟨⟨h1, h2⟩, h3⟩, h4⟩ := h
  refine ⟨h1, h2, (by unfold okL at h2; simp only [Bool.and_eq_true] at h2; exact h2.1), h3, fun j hj => ?_⟩
  have := allQ_iff.1 h4 j hj
  exact of_decide_eq_true this
theorem pv_ix {n j : Nat} (h3 : 3 ≤ n) (hj : j < n) : ∃ i, i < n ∧ (i + 1) % n = j ∧ (i + 2) % n = (j + 1) % n ∧ ∀ k, k < n → (k + 1) % n = j → k = i := by
  have u : ∀ k, k < n → (k + 1) % n = if k + 1 = n then 0 else k + 1 := fun k hk => md_nx hk
  rcases Nat.eq_zero_or_pos j with h | h
  · refine ⟨n - 1, by omega, ?_, ?_, fun k hk e => ?_⟩
    · rw [u _ (by omega), if_pos (by omega)]; exact h.symm
    · subst h
      rw [show n - 1 + 2 = n + 1 by omega, Nat.add_mod_left]
    · rw [u k hk] at e
      split at e <;> omega
  · refine ⟨j - 1, by omega, ?_, ?_, fun k hk e => ?_⟩
    · rw [u _ (by omega), if_neg (by omega)]; omega
    · rw [show j - 1 + 2 = j + 1 by omega]
    · rw [u k hk] at e
      split at e <;> omega
/-- A simple polygon that turns left at each vertex is convex, where it begins with its least vertex. -/
theorem cvx_cvh0 {p : List Pt} (h : cvxI p = true) (hm : ∀ k, 0 < k → k < p.length → bfP 1 (p.getD 0 (0, 0)) (p.getD k (0, 0))) : CvH p := by
  obtain ⟨h3, ho, hv, hs, hT⟩ := cvx_parts h
  obtain ⟨sg, hnd⟩ := sim_nodup hv h3 hs
  have hE := simQ_iff.1 hs
  have ev : ∀ k, k < p.length → p.getD (k % p.length) (0, 0) = p.getD k (0, 0) := fun k hk => by rw [Nat.mod_eq_of_lt hk]
  have rel0 : ∀ i m, i < p.length → m < p.length → i ≠ m → adj p.length i m = false → relP (p.getD i (0, 0)) (nxP p i) (p.getD m (0, 0)) (nxP p m) = 0 := fun i m hi hm hne ha => by
    have := hE i m hi hm hne
    rw [ha, edR_P (sg i hi) (sg m hm)] at this
    exact this
  have hL := spiral_all (V := fun k => p.getD (k % p.length) (0, 0)) (n := p.length) (fun i hi => by
    have := hT i (by omega)
    simp only [ev i (by omega)]
    exact this) (fun k h0 hk => by
    simp only [Nat.zero_mod, ev k hk]
    exact hm k h0 hk) (by simp only [Nat.mod_self, Nat.zero_mod]) (fun i m him hm hor hmt => by
    simp only [ev i (by omega), ev m hm] at hmt
    refine mt_rel hmt (rel0 i m (by omega) hm (by omega) ?_)
    unfold adj
    rw [md_nx (show i < p.length by omega), md_nx hm]
    simp only [Bool.or_eq_false_iff, decide_eq_false_iff_not]
    constructor
    · split <;> omega
    · split <;> omega)
  refine ⟨h3, hnd, fun j hj v hvm n1 n2 => ?_⟩
  obtain ⟨k, hk, rfl⟩ : ∃ k, k < p.length ∧ p.getD k (0, 0) = v := by
    obtain ⟨k, hk, e⟩ := List.getElem_of_mem hvm
    exact ⟨k, hk, by simp [hk, e]⟩
  have l0 := hL j hj k hk
  simp only [ev j hj, ev k hk] at l0
  have l0 : 0 ≤ crP (p.getD j (0, 0)) (nxP p j) (p.getD k (0, 0)) := l0
  rcases Int.lt_or_eq_of_le l0 with h1 | h1
  · exact h1
  exfalso
  have h1 := h1.symm
  obtain ⟨i, hi, i1, i2, i3⟩ := pv_ix h3 hj
  have T1 := hT j hj
  have T2 := hT i hi
  have ei : nxP p i = p.getD j (0, 0) := by unfold nxP; rw [i1]
  have ei2 : nx2 p i = nxP p j := by unfold nx2 nxP; rw [i2]
  rw [ei, ei2] at T2
  have mj : (j + 1) % p.length < p.length := Nat.mod_lt _ (by omega)
  have S1 := hL _ mj k hk
  simp only [Nat.mod_mod, ev k hk, Nat.mod_add_mod] at S1
  have S1 : 0 ≤ crP (nxP p j) (nx2 p j) (p.getD k (0, 0)) := S1
  have S2 := hL i hi k hk
  simp only [ev i hi, ev k hk, i1] at S2
  by_cases hki : k = i
  · subst hki
    rw [crP_cy] at h1
    omega
  have hkj : k ≠ j := fun e => n1 (by rw [e])
  have hkn : k ≠ (j + 1) % p.length := fun e => n2 (by unfold nxP; rw [← e])
  have ha : adj p.length j k = false := by
    unfold adj
    simp only [Bool.or_eq_false_iff, decide_eq_false_iff_not]
    exact ⟨fun e => hkn e.symm, fun e => hki (i3 k hk e)⟩
  refine end_rel (z := p.getD k (0, 0)) (.inr (.inr (.inl rfl))) ?_ (hasB_a ..) (rel0 j k hj hk (Ne.symm hkj) ha)
  refine mt_hs (d := nx2 p j) h1 ?_ (by omega)
  generalize p.getD j (0, 0) = a at *
  generalize nxP p j = b at *
  generalize nx2 p j = c at *
  generalize p.getD k (0, 0) = z at *
  generalize p.getD i (0, 0) = u at *
  have e1 : crP z c b = -crP b c z := by unfold crP crossI; grind
  have e2 : crP u a z * crP a b c = crP z c a * crP u a b := by
    have : crP u a z * crP a b c - crP z c a * crP u a b = crP a b z * crP u a c := by unfold crP crossI; grind
    rw [h1, Int.zero_mul] at this
    omega
  have q1 := Int.mul_nonneg S2 (show 0 ≤ crP a b c by omega)
  rw [e2] at q1
  have q2 : 0 ≤ crP z c a := by
    rcases Int.lt_or_le (crP z c a) 0 with h | h
    · have := Int.mul_neg_of_neg_of_pos h T2
      omega
    · exact h
  have q3 := Int.mul_nonneg q2 S1
  rw [e1, Int.mul_neg]
  omega
theorem min_ix (f : Nat → Pt) : ∀ n, 0 < n → (∀ i j, i < j → j < n → f i ≠ f j) → ∃ r, r < n ∧ ∀ k, k < n → k ≠ r → bfP 1 (f r) (f k)
  | 0, h, _ => absurd h (by omega)
  | n + 1, _, hd => by
    rcases Nat.eq_zero_or_pos n with h | h
    · exact ⟨0, by omega, fun k hk hne => by omega⟩
    obtain ⟨r, hr, hb⟩ := min_ix f n h fun i j hij hj => hd i j hij (by omega)
    have hne := hd r n hr (by omega)
    by_cases hc : bfP 1 (f r) (f n)
    · refine ⟨r, by omega, fun k hk hkr => ?_⟩
      rcases Nat.lt_or_ge k n with h2 | h2
      · exact hb k h2 hkr
      · obtain rfl : k = n := by omega
        exact hc
    · have hc2 : bfP 1 (f n) (f r) := by
        have : ¬ ((f r).1 = (f n).1 ∧ (f r).2 = (f n).2) := fun e => hne (Prod.ext e.1 e.2)
        unfold bfP at *
        omega
      refine ⟨n, by omega, fun k hk hkr => ?_⟩
      by_cases e : k = r
      · rw [e]; exact hc2
      · have := hb k (by omega) e
        unfold bfP at *
        omega
theorem cvE_rot {r : Nat} {p : List Pt} (h : r < p.length) {j : Nat} (hj : j < p.length) : cvE (rotP r p) j = cvE p ((j + r) % p.length) := by
  unfold cvE
  have e : nx2 (rotP r p) j = nx2 p ((j + r) % p.length) := by
    unfold nx2
    rw [rotP_len (Nat.le_of_lt h), rotP_at h (Nat.mod_lt _ (by omega)), Nat.mod_add_mod, Nat.mod_add_mod]
    congr 2
    omega
  rw [rotP_at h hj, rotP_nx h hj, e]
theorem cvx_rot {r : Nat} {p : List Pt} (h : r < p.length) (hc : cvxI p = true) : cvxI (rotP r p) = true := by
  unfold cvxI at *
  simp only [Bool.and_eq_true] at hc ⊢
  refine ⟨(issI_rot h).trans hc.1, ?_⟩
  unfold cvA at *
  rw [allQ_iff] at *
  rw [rotP_len (Nat.le_of_lt h)]
  exact fun j hj => (cvE_rot h hj).trans (hc.2 _ (Nat.mod_lt _ (by omega)))
theorem cvh_unrot {r : Nat} {p : List Pt} (h : r < p.length) (hn : p.Nodup) (H : CvH (rotP r p)) : CvH p := by
  have h3 := H.three
  rw [rotP_len (Nat.le_of_lt h)] at h3
  refine ⟨h3, hn, fun j hj v hv n1 n2 => ?_⟩
  have hl := H.left ((j + (p.length - r)) % p.length) (by rw [rotP_len (Nat.le_of_lt h)]; exact Nat.mod_lt _ (by omega)) v (rotP_mem.2 hv)
  have e : ((j + (p.length - r)) % p.length + r) % p.length = j := by
    rw [Nat.mod_add_mod, show j + (p.length - r) + r = j + p.length by omega, Nat.add_mod_right, Nat.mod_eq_of_lt hj]
  rw [rotP_at h (Nat.mod_lt _ (by omega)), rotP_nx h (Nat.mod_lt _ (by omega)), e] at hl
  exact hl n1 n2
/-- A simple polygon that turns left at each vertex is convex. -/
theorem cvx_cvh {p : List Pt} (h : cvxI p = true) : CvH p := by
  obtain ⟨h3, ho, hv, hs, hT⟩ := cvx_parts h
  obtain ⟨sg, hnd⟩ := sim_nodup hv h3 hs
  obtain ⟨r, hr, hb⟩ := min_ix (fun k => p.getD k (0, 0)) p.length (by omega) (nodup_get.1 hnd)
  refine cvh_unrot hr hnd (cvx_cvh0 (cvx_rot hr h) fun k h0 hk => ?_)
  rw [rotP_len (Nat.le_of_lt hr)] at hk
  rw [rotP_at hr (by omega), rotP_at hr hk, Nat.zero_add, Nat.mod_eq_of_lt hr]
  refine hb _ (Nat.mod_lt _ (by omega)) fun e => ?_
  rw [md_add hk hr] at e
  split at e <;> omega
end Go.Proofs.Ytbhdhejefpdjfaa
namespace Go.Proofs.Ytbhdhejefpdjfaa
set_option linter.all false
open Go.RowKit
theorem issI_ok {ps : List Pt} (h : issI ps = true) : allV ps = true ∧ ps.length ≤ 20 ∧ 3 ≤ ps.length := by
  unfold issI okL at h
  simp only [Bool.and_eq_true, decide_eq_true_eq] at h
  exact ⟨h.1.2.1, h.1.2.2, h.1.1⟩
def TBn : Tab := orT TSg TSm
theorem TBn_ok : TabOk Try.prog TBn := orT_ok TSg_ok TSm_ok
def EBn : Env := mkE TBn R4 (fun _ => noL)
theorem EBn_ok : EnvOk Try.prog EBn := mkEOk TBn_ok R4_ok (fun _ _ _ => noL_good)
def daV (ps : List Pt) : Int := bif issI ps then sgA ps ps.length else 0
set_option maxRecDepth 100000 in
theorem tr_iDa (ps : List Pt) : bodyV Try.prog EBn 30 12 47 [.row ps.length (.ints (flat ps))] = .need (ps.length * (2 : Nat) ≤ (List.drop (0 : Nat) (flat ps)).length) (.need (ps.length ≤ (1000000000 : Nat)) (brT (!issI (ptsA ps.length (List.drop 0 (flat ps)))) (.fin (.int .i64 (0)) []) (.need (ps.length * (2 : Nat) ≤ (List.drop (0 : Nat) (flat ps)).length) (.need (allV (ptsA ps.length (List.drop (0 : Nat) (flat ps))) = true) (.need (ps.length ≤ (20 : Nat)) (.fin (.int .i64 (sgA (ptsA ps.length (List.drop 0 (flat ps))) ps.length)) [])))))) := by kernel_rfl
theorem res_iDa (ps : List Pt) (h : Big ps) : Res Try.prog 47 [.row ps.length (.ints (flat ps))] (iv (daV ps)) := by
  refine bodyV_res mixed EBn_ok (m := 30) (n := 12) rfl ?_
  rw [tr_iDa]
  unfold Big at h
  simp only [List.drop_zero, ptsA_flat, flat_length]
  unfold daV
  rcases hs : issI ps with _ | _
  · simp [brT_ok, Tree.ok, h]
  · obtain ⟨h1, h2, _⟩ := issI_ok hs
    simp [brT_ok, Tree.ok, h, h1, h2]
def pV (v : List Pt → Int) : List DArg → Option (Value × List Prop)
  | [.row m (.ints xs)] => some (iv (v (ptsA m xs)), [m * 2 ≤ xs.length, m ≤ 1000000000])
  | _ => none
theorem pV_ok {f : FuncId} {v : List Pt → Int} (H : ∀ ps, Big ps → Res Try.prog f [.row ps.length (.ints (flat ps))] (iv (v ps))) {ds : List DArg} {x : Value} {C : List Prop} (h : pV v ds = some (x, C)) (hC : AllP C) : Res Try.prog f ds x := by
  unfold pV at h
  split at h
  · rename_i m xs
    obtain ⟨rfl, rfl⟩ : _ ∧ _ := by simpa using h
    obtain ⟨_, h2⟩ := ptsA_spec hC.1
    exact res_pts1 (pre := []) (post := []) hC.1 (H (ptsA m xs) (by unfold Big; rw [h2]; exact hC.2.1))
  · cases h
end Go.Proofs.Ytbhdhejefpdjfaa
namespace Go.Proofs.Ytbhdhejefpdjfaa
set_option linter.all false
open Go.RowKit
theorem fan_id (o a b c d : Pt) : crP o a c * crP o d b = crP o a b * crP o d c + crP o b c * crP o d a := by unfold crP crossI; grind
/-- From the first vertex on, the others are in order around it. -/
theorem fan_ord {h : List Pt} (H : CvH h) {k : Nat} (hk : 1 ≤ k) : ∀ l, k < l → l < h.length → 0 < crP (h.getD 0 (0, 0)) (h.getD k (0, 0)) (h.getD l (0, 0)) := by
  have h3 := H.three
  have n0 : nxP h 0 = h.getD 1 (0, 0) := by unfold nxP; rw [Nat.zero_add, Nat.mod_eq_of_lt (by omega)]
  have e0 : ∀ j, 2 ≤ j → j < h.length → 0 < crP (h.getD 0 (0, 0)) (h.getD 1 (0, 0)) (h.getD j (0, 0)) := fun j h1 h2 => by
    have := cvh_left H (j := 0) (k := j) (by omega) h2 (by omega) (by rw [Nat.zero_add, Nat.mod_eq_of_lt (by omega)]; omega)
    rw [n0] at this
    exact this
  intro l
  induction l with
  | zero => intro h1; omega
  | succ l ih =>
    intro h1 h2
    rcases Nat.lt_or_ge k l with hlt | hge
    rotate_left
    · obtain rfl : k = l := by omega
      exact tri_pos H hk h2
    · have i1 := ih hlt (by omega)
      have i2 := tri_pos H (i := l) (by omega) h2
      have d1 := e0 l (by omega) (by omega)
      have d2 := e0 (l + 1) (by omega) h2
      have d3 : 0 ≤ crP (h.getD 0 (0, 0)) (h.getD 1 (0, 0)) (h.getD k (0, 0)) := by
        by_cases e : k = 1
        · subst e
          have : crP (h.getD 0 (0, 0)) (h.getD 1 (0, 0)) (h.getD 1 (0, 0)) = 0 := by unfold crP crossI; grind
          omega
        · exact Int.le_of_lt (e0 k (by omega) (by omega))
      have id := fan_id (h.getD 0 (0, 0)) (h.getD k (0, 0)) (h.getD l (0, 0)) (h.getD (l + 1) (0, 0)) (h.getD 1 (0, 0))
      have q1 := Int.mul_pos i1 d2
      have q2 := Int.mul_nonneg (Int.le_of_lt i2) d3
      rcases Int.lt_or_le 0 (crP (h.getD 0 (0, 0)) (h.getD k (0, 0)) (h.getD (l + 1) (0, 0))) with g | g
      · exact g
      · have := Int.mul_nonneg (show 0 ≤ -(crP (h.getD 0 (0, 0)) (h.getD k (0, 0)) (h.getD (l + 1) (0, 0))) by omega) (Int.le_of_lt d1)
        rw [Int.neg_mul] at this
        omega
/-- The first vertices of a convex ring are a convex ring. -/
theorem cvh_take {h : List Pt} (H : CvH h) {m : Nat} (h3 : 3 ≤ m) (hm : m ≤ h.length) : CvH (h.take m) := by
  have hl : (h.take m).length = m := by rw [List.length_take]; omega
  have g : ∀ k, k < m → (h.take m).getD k (0, 0) = h.getD k (0, 0) := fun k hk => getD_take' h hk
  refine ⟨by omega, List.Sublist.nodup (List.take_sublist m h) H.nodup, fun j hj v hv n1 n2 => ?_⟩
  rw [hl] at hj
  obtain ⟨k, hk, rfl⟩ : ∃ k, k < m ∧ h.getD k (0, 0) = v := by
    obtain ⟨k, hk, e⟩ := List.getElem_of_mem hv
    rw [hl] at hk
    exact ⟨k, hk, by rw [← g k hk]; simp [e, hl, hk]⟩
  have nx : nxP (h.take m) j = if j + 1 < m then h.getD (j + 1) (0, 0) else h.getD 0 (0, 0) := by
    unfold nxP
    rw [hl]
    split
    · rename_i hh
      rw [Nat.mod_eq_of_lt hh, g _ hh]
    · rw [show j + 1 = m by omega, Nat.mod_self, g 0 (by omega)]
  rw [g j hj] at n1 ⊢
  rw [nx] at n2 ⊢
  split
  · rename_i hh
    rw [if_pos hh] at n2
    have e : nxP h j = h.getD (j + 1) (0, 0) := by unfold nxP; rw [Nat.mod_eq_of_lt (by omega)]
    have := H.left j (by omega) (h.getD k (0, 0)) (getD_mem' (by omega)) n1 (by rw [e]; exact n2)
    rw [e] at this
    exact this
  · rename_i hh
    rw [if_neg hh] at n2
    have hj1 : j = m - 1 := by omega
    have hkj : k ≠ j := fun e => n1 (by rw [e])
    have hk0 : k ≠ 0 := fun e => n2 (by rw [e])
    have := fan_ord H (k := k) (by omega) j (by omega) (by omega)
    rw [← crP_cy] at this
    have e : crP (h.getD k (0, 0)) (h.getD j (0, 0)) (h.getD 0 (0, 0)) = crP (h.getD j (0, 0)) (h.getD 0 (0, 0)) (h.getD k (0, 0)) := by unfold crP crossI; grind
    omega
/-- The vertices from one on to another one. -/
def vfL (p : List Pt) (i k : Nat) : List Pt := if i ≤ k then (p.drop i).take (k + 1 - i) else p.drop i ++ p.take (k + 1)
theorem vfL_rot {p : List Pt} {i k : Nat} (hi : i < p.length) (hk : k < p.length) : vfL p i k = (rotP i p).take (if i ≤ k then k + 1 - i else p.length - i + (k + 1)) := by
  unfold vfL rotP
  split
  · rw [List.take_append_of_le_length (by rw [List.length_drop]; omega)]
  · have e1 : (p.drop i).length = p.length - i := List.length_drop ..
    have e2 : List.take (p.length - i + (k + 1)) (p.drop i) = p.drop i := List.take_of_length_le (by rw [e1]; omega)
    rw [List.take_append, e2, e1, List.take_take, show p.length - i + (k + 1) - (p.length - i) = k + 1 by omega, Nat.min_eq_left (by omega)]
theorem vfL_len {p : List Pt} {i k : Nat} (hi : i < p.length) (hk : k < p.length) : (vfL p i k).length = if i ≤ k then k + 1 - i else p.length - i + (k + 1) := by
  rw [vfL_rot hi hk, List.length_take, rotP_len (Nat.le_of_lt hi)]
  split <;> omega
theorem vfL_ok {p : List Pt} (ho : okL p = true) {i k : Nat} (hi : i < p.length) (hk : k < p.length) (hle : (vfL p i k).length ≤ p.length) : okL (vfL p i k) = true := by
  have hv : allV p = true ∧ p.length ≤ 20 := by
    unfold okL at ho
    simp only [Bool.and_eq_true, decide_eq_true_eq] at ho
    exact ho
  unfold okL
  rw [decide_eq_true (show (vfL p i k).length ≤ 20 by omega), Bool.and_true]
  refine List.all_eq_true.2 fun z hz => List.all_eq_true.1 hv.1 z ?_
  rw [vfL_rot hi hk] at hz
  exact rotP_mem.1 (List.mem_of_mem_take hz)
theorem cvh_rot' {r : Nat} {p : List Pt} (h : r < p.length) (H : CvH p) : CvH (rotP r p) := by
  have hl := rotP_len (Nat.le_of_lt h)
  refine ⟨by rw [hl]; exact H.three, ?_, fun j hj v hv n1 n2 => ?_⟩
  · have hp : (rotP r p).Perm p := by
      unfold rotP
      exact List.perm_append_comm.trans (by rw [List.take_append_drop])
    exact hp.nodup_iff.2 H.nodup
  · rw [hl] at hj
    rw [rotP_at h hj] at n1 ⊢
    rw [rotP_nx h hj] at n2 ⊢
    exact H.left _ (Nat.mod_lt _ (by omega)) v (rotP_mem.1 hv) n1 n2
/-- The area of a part of a convex polygon: positive just if it has three vertices. -/
theorem vf_area {p : List Pt} (H : CvH p) (ho : okL p = true) {i k : Nat} (hi : i < p.length) (hk : k < p.length) (hle : (vfL p i k).length ≤ p.length) : (3 ≤ (vfL p i k).length → 0 < daV (vfL p i k)) ∧ ((vfL p i k).length < 3 → daV (vfL p i k) = 0) := by
  have hl := vfL_len hi hk
  constructor
  · intro h3
    have C : CvH (vfL p i k) := by
      rw [vfL_rot hi hk]
      rw [hl] at h3 hle
      exact cvh_take (cvh_rot' hi H) h3 (by rw [rotP_len (Nat.le_of_lt hi)]; exact hle)
    unfold daV
    rw [cvh_simple C (vfL_ok ho hi hk hle)]
    exact cvh_area C
  · intro h3
    unfold daV issI
    rw [decide_eq_false (show ¬ 3 ≤ (vfL p i k).length by omega)]
    rfl
theorem daV_bd (q : List Pt) : -40000000 ≤ daV q ∧ daV q ≤ 40000000 := by
  unfold daV
  rcases h : issI q with _ | _
  · simp only [cond_false]; omega
  · have hh := h
    unfold issI okL at hh
    simp only [Bool.and_eq_true, decide_eq_true_eq] at hh
    have := sgA_bd hh.1.2.1 q.length (Nat.le_refl _)
    have := hh.1.2.2
    simp only [cond_true]
    omega
/-- Is there a diagonal, as the program tests it? -/
def dgT (p : List Pt) (a b : Nat) : Bool := decide (0 < IntKind.i64.wrap (daV (vfL p a b) * daV (vfL p b a)))
theorem dg_cvx {p : List Pt} (H : CvH p) (ho : okL p = true) {a b : Nat} (hab : a < b) (hb : b < p.length) : dgT p a b = (decide (a + 2 ≤ b) && decide (b - a ≤ p.length - 2)) := by
  have h3 := H.three
  have l1 := vfL_len (p := p) (i := a) (k := b) (by omega) hb
  have l2 := vfL_len (p := p) (i := b) (k := a) hb (by omega)
  rw [if_pos (by omega)] at l1
  rw [if_neg (by omega)] at l2
  obtain ⟨p1, z1⟩ := vf_area H ho (i := a) (k := b) (by omega) hb (by omega)
  obtain ⟨p2, z2⟩ := vf_area H ho (i := b) (k := a) hb (by omega) (by omega)
  have b1 := daV_bd (vfL p a b)
  have b2 := daV_bd (vfL p b a)
  have b3 := mul_bd 40000000 40000000 (by omega : -40000000 ≤ daV (vfL p a b) ∧ daV (vfL p a b) ≤ 40000000) b2
  unfold dgT
  rw [wr (by omega)]
  by_cases c1 : a + 2 ≤ b
  · by_cases c2 : b - a ≤ p.length - 2
    · rw [decide_eq_true c1, decide_eq_true c2]
      exact decide_eq_true (Int.mul_pos (p1 (by omega)) (p2 (by omega)))
    · rw [decide_eq_false c2, Bool.and_false, z2 (by omega), Int.mul_zero]
      rfl
  · rw [decide_eq_false c1, Bool.false_and, z1 (by omega), Int.zero_mul]
    rfl
/-- The pairs of one first index that pass, from a second index on. -/
def dgI (P : Nat → Nat → Bool) (a : Nat) : Nat → Nat → List Pt
  | _, 0 => []
  | b, m + 1 => bif P a b then ((a : Int), (b : Int)) :: dgI P a (b + 1) m else dgI P a (b + 1) m
/-- All pairs that pass. -/
def dgO (P : Nat → Nat → Bool) (n : Nat) : Nat → Nat → List Pt
  | _, 0 => []
  | a, m + 1 => dgI P a (a + 1) (n - (a + 1)) ++ dgO P n (a + 1) m
theorem dgI_le (P : Nat → Nat → Bool) (a : Nat) : ∀ m b, (dgI P a b m).length ≤ m
  | 0, _ => Nat.le_refl _
  | m + 1, b => by
    have := dgI_le P a m (b + 1)
    show (bif P a b then ((a : Int), (b : Int)) :: dgI P a (b + 1) m else dgI P a (b + 1) m).length ≤ m + 1
    cases P a b
    · exact Nat.le_succ_of_le this
    · exact Nat.succ_le_succ this
theorem dgI_all {P : Nat → Nat → Bool} {a : Nat} : ∀ m b, (∀ k, b ≤ k → k < b + m → P a k = true) → (dgI P a b m).length = m
  | 0, _, _ => rfl
  | m + 1, b, h => by
    show (bif P a b then ((a : Int), (b : Int)) :: dgI P a (b + 1) m else dgI P a (b + 1) m).length = m + 1
    rw [h b (Nat.le_refl _) (by omega), cond_true, List.length_cons, dgI_all m (b + 1) fun k h1 h2 => h k (by omega) (by omega)]
section
variable {P : Nat → Nat → Bool} {n : Nat} (hP : ∀ a b, a < b → b < n → P a b = (decide (a + 2 ≤ b) && decide (b - a ≤ n - 2)))
include hP
theorem dgI_one {a : Nat} (ha : 1 ≤ a) (hn : a < n) : (dgI P a (a + 1) (n - (a + 1))).length = n - (a + 2) := by
  rcases Nat.lt_or_ge (a + 1) n with h | h
  · rw [show n - (a + 1) = (n - (a + 2)) + 1 by omega]
    show (bif P a (a + 1) then ((a : Int), ((a + 1 : Nat) : Int)) :: dgI P a (a + 1 + 1) (n - (a + 2)) else dgI P a (a + 1 + 1) (n - (a + 2))).length = n - (a + 2)
    rw [hP a (a + 1) (by omega) h, decide_eq_false (show ¬ a + 2 ≤ a + 1 by omega), Bool.false_and, cond_false]
    refine dgI_all _ _ fun k h1 h2 => ?_
    rw [hP a k (by omega) (by omega), decide_eq_true (show a + 2 ≤ k by omega), decide_eq_true (show k - a ≤ n - 2 by omega)]
    rfl
  · rw [show n - (a + 1) = 0 by omega, show n - (a + 2) = 0 by omega]
    rfl
theorem dgI_zero : ∀ m b, 2 ≤ b → b + m = n → (dgI P 0 b m).length = m - 1
  | 0, _, _, _ => rfl
  | m + 1, b, h2, hb => by
    show (bif P 0 b then (((0 : Nat) : Int), (b : Int)) :: dgI P 0 (b + 1) m else dgI P 0 (b + 1) m).length = m + 1 - 1
    have ih := dgI_zero m (b + 1) (by omega) (by omega)
    rw [hP 0 b (by omega) (by omega), decide_eq_true (show 0 + 2 ≤ b by omega), Bool.true_and]
    rcases Nat.eq_zero_or_pos m with h | h
    · rw [decide_eq_false (show ¬ b - 0 ≤ n - 2 by omega), cond_false, ih]
      omega
    · rw [decide_eq_true (show b - 0 ≤ n - 2 by omega), cond_true, List.length_cons, ih]
      omega
theorem dgO_one : ∀ m a, 1 ≤ a → a + m = n → 1 ≤ m → 2 * ((dgO P n a m).length : Int) = ((m : Int) - 1) * ((m : Int) - 2)
  | 0, _, _, _, h => absurd h (by omega)
  | m + 1, a, ha, hm, _ => by
    have h1 := dgI_one hP ha (by omega)
    show 2 * (((dgI P a (a + 1) (n - (a + 1)) ++ dgO P n (a + 1) m).length : Nat) : Int) = _
    rw [List.length_append, h1]
    rcases Nat.eq_zero_or_pos m with h | h
    · subst h
      rw [show n - (a + 2) = 0 by omega]
      rfl
    · have ih := dgO_one m (a + 1) (by omega) (by omega) h
      have e : ((n - (a + 2) : Nat) : Int) = (m : Int) - 1 := by omega
      rw [Int.natCast_add, Int.mul_add, ih, e]
      have : ((m + 1 : Nat) : Int) = (m : Int) + 1 := by omega
      rw [this]
      grind
/-- Convex polygons have all diagonals. -/
theorem dgO_all (h3 : 3 ≤ n) : 2 * ((dgO P n 0 n).length : Int) = (n : Int) * ((n : Int) - 3) := by
  obtain ⟨m, rfl⟩ : ∃ m, n = m + 3 := ⟨n - 3, by omega⟩
  show 2 * (((dgI P 0 (0 + 1) (m + 3 - (0 + 1)) ++ dgO P (m + 3) (0 + 1) (m + 2)).length : Nat) : Int) = _
  rw [List.length_append]
  have h1 := dgO_one hP (m + 2) 1 (by omega) (by omega) (by omega)
  have h2 : (dgI P 0 (0 + 1) (m + 3 - (0 + 1))).length = m := by
    rw [show m + 3 - (0 + 1) = (m + 1) + 1 by omega]
    show (bif P 0 1 then (((0 : Nat) : Int), ((1 : Nat) : Int)) :: dgI P 0 2 (m + 1) else dgI P 0 2 (m + 1)).length = m
    rw [hP 0 1 (by omega) (by omega)]
    have := dgI_zero hP (m + 1) 2 (by omega) (by omega)
    simp only [show decide (0 + 2 ≤ 1) = false from rfl, Bool.false_and, cond_false, this]
    omega
  rw [h2, Int.natCast_add, Int.mul_add, Nat.zero_add, h1]
  have e1 : ((m + 2 : Nat) : Int) = (m : Int) + 2 := by omega
  have e2 : ((m + 3 : Nat) : Int) = (m : Int) + 3 := by omega
  rw [e1, e2]
  grind
end
end Go.Proofs.Ytbhdhejefpdjfaa
namespace Go.Proofs.Ytbhdhejefpdjfaa
set_option linter.all false
open Go.RowKit
theorem bnd_some (x d : Int) : bndI (some (IntKind.i64, x)) d = x := rfl
theorem bnd_none (d : Int) : bndI none d = d := rfl
end Go.Proofs.Ytbhdhejefpdjfaa
namespace Go.Proofs.Ytbhdhejefpdjfaa
set_option linter.all false
open Go.RowKit
set_option maxRecDepth 100000 in
theorem u_pts : Try.prog.underlying 23 = some (.slice 25) := by kernel_rfl
theorem nilNil_run (t e : TypeId) (w : World) (c c' : Nat) (h : Try.prog.underlying t = some (.slice e)) : (binOp .eql t (.slice none 0 c) (.slice none 0 c')).run Try.prog w = .ok (.bool true) w := by
  have he : ∀ d, (Op.equalIn (d + 1) t (.slice none 0 c) (.slice none 0 c')).run Try.prog w = .ok true w := fun d => by simp [Op.equalIn, run_underlying h]
  simp only [binOp]
  simp [Op.equal, Op.maxDepth, he 9999]
set_option maxRecDepth 100000 in
theorem cln_zero (ad : Option Addr) (c : Nat) (w : World) : Calls Try.prog 57 #[.slice ad 0 c] w fun e w' => ∃ v' p, e = .returned v' ∧ Below w.heap.size w w' ∧
    ∀ (ρ : Nat → Option Pl) (name : Nat), ρ name = some p → VR ρ (.slice (some ⟨name, 0, none⟩) 0 0) v' ∧ BlkOk ρ (fun k => k < w.heap.size) w' name ⟨.row 25 2, .ints []⟩ := by
  cases ad with
  | none =>
    have hn := fun W => nilNil_run 23 25 W c 0 u_pts
    go_enter Try.func57, Try.ntmps57
    go_wp2
    go_ret
    exact ⟨_, (0, 1, some 0), rfl, Below.refl _ _, fun ρ name h => ⟨.nil_ h ⟨rfl, 0, rfl⟩ rfl (fun _ => ⟨rfl, rfl⟩), .inl ⟨_, h, rfl, rfl⟩⟩⟩
  | some a =>
    have hn := fun W => eqNil_run (P := Try.prog) 23 25 a 0 c W u_pts false
    simp only [opB, negB] at hn
    go_enter Try.func57, Try.ntmps57
    go_wp2
    go_ret
    refine ⟨_, (w.heap.size, 0, some 0), rfl, na (nr _) _, fun ρ name h => ⟨.slice (f := 0) h (.inl rfl) (Nat.le_refl _) (fun k hk _ => by simpa using hk), .inr ⟨w.heap.size, 0, h, Nat.lt_irrefl _, #[], heap_alloc_new w _, rfl, fun k v hk => by simp [Blk.cells, Cs.list] at hk⟩⟩⟩
end Go.Proofs.Ytbhdhejefpdjfaa
namespace Go.Proofs.Ytbhdhejefpdjfaa
set_option linter.all false
open Go.RowKit
set_option maxRecDepth 100000 in
theorem tr_cln (ps : List Pt) : bodyX Try.prog (tabE B0) 30 12 57 [.row ps.length (.ints (flat ps))] = .need ((0 : Nat) < ps.length) (.need (((0 : Nat) + (ps.length, Cs.ints (List.take (ps.length * Try.prog.types[(25 : Nat)].size) (List.drop (0 : Nat) (flat ps))), [(0 : Nat) + ps.length * Try.prog.types[(25 : Nat)].size ≤ (flat ps).length]).fst) * (16 : Nat) ≤ (140737488355328 : Nat) ∧ (0 : Nat) + (ps.length, Cs.ints (List.take (ps.length * Try.prog.types[(25 : Nat)].size) (List.drop (0 : Nat) (flat ps))), [(0 : Nat) + ps.length * Try.prog.types[(25 : Nat)].size ≤ (flat ps).length]).fst ≤ (2000000 : Nat)) (.need ((0 : Nat) + ps.length * (2 : Nat) ≤ (flat ps).length) (.fin (.slice (some ⟨2, 0, none⟩) (0 + (ps.length, Cs.ints (List.take (ps.length * Try.prog.types[25].size) (List.drop 0 (flat ps))), [0 + ps.length * Try.prog.types[25].size ≤ (flat ps).length]).fst) (0 + (ps.length, Cs.ints (List.take (ps.length * Try.prog.types[25].size) (List.drop 0 (flat ps))), [0 + ps.length * Try.prog.types[25].size ≤ (flat ps).length]).fst)) [some ⟨.view, .ints (flat ps)⟩, some deadB, some ⟨.row 25 2, .ints ([] ++ List.take (ps.length * 2) (List.drop 0 (flat ps)))⟩]))) := by kernel_rfl
theorem resR_cln (ps : List Pt) (h : ps.length ≤ 2000000) : ResR Try.prog 57 [.row ps.length (.ints (flat ps))] (rowP ps) (blkP ps) := by
  rcases Nat.eq_zero_or_pos ps.length with h0 | h0
  · obtain rfl : ps = [] := List.eq_nil_of_length_eq_zero h0
    refine ⟨(entersB_res (by kernel_rfl)).1, (entersB_res (by kernel_rfl)).2, rfl, fun d hd => ?_, fun w args hd => ?_⟩
    · rw [List.mem_singleton.1 hd]
      exact rfl
    · obtain ⟨h1, h2⟩ := hd
      obtain ⟨x0, rfl⟩ : ∃ x0, args = #[x0] := by
        have h3 : args.size = 1 := by simpa using h1.symm
        match args, h3 with
        | ⟨[x0]⟩, _ => exact ⟨x0, rfl⟩
      obtain ⟨_, ad, c', rfl, _, _⟩ := h2 0 _ x0 rfl rfl
      exact cln_zero ad c' w
  · refine bodyX_resR mixed (tabE_ok B0_ok) (m := 30) (n := 12) rfl ?_
    rw [tr_cln]
    have hf : ([] : List Int) ++ List.take (ps.length * 2) (List.drop 0 (flat ps)) = flat ps := by
      rw [List.nil_append, List.drop_zero, flat_all]
    refine ⟨h0, ⟨?_, ?_⟩, ?_, some 2, ⟨?_, ?_, ?_⟩, ?_⟩
    · show (0 + ps.length) * 16 ≤ 140737488355328; omega
    · show 0 + ps.length ≤ 2000000; omega
    · rw [flat_length]; omega
    · rfl
    · rfl
    · show 0 + ps.length = ps.length; omega
    · rw [hf]; exact ⟨rfl, rfl, rfl⟩
def RCl : TabR := fun f ds => match f, ds with
  | 57, [.row m (.ints xs)] => some (rowP (ptsA m xs), blkP (ptsA m xs), [m * 2 ≤ xs.length, m ≤ 2000000])
  | f, ds => R4 f ds
theorem RCl_ok : TabROk Try.prog RCl := by
  intro f ds v b C h hC
  unfold RCl at h
  (try split at h)
  all_goals first
    | (obtain ⟨rfl, rfl, rfl⟩ : _ ∧ _ ∧ _ := by simpa using h
       obtain ⟨_, h2⟩ := ptsA_spec hC.1
       have h1 := resR_pts1 (pre := []) (post := []) hC.1 (resR_cln _ (by rw [h2]; exact hC.2.1))
       simp only [List.nil_append, List.append_nil] at h1
       with_reducible exact h1)
    | exact R4_ok _ _ _ _ _ h hC
def RSs : TabR := fun f ds => match f, ds with
  | 37, [.row m (.ints xs)] => some (rowP (srtL (ptsA m xs)), blkP (srtL (ptsA m xs)), [m * 2 ≤ xs.length, m ≤ 1000])
  | f, ds => RCl f ds
theorem RSs_ok : TabROk Try.prog RSs := by
  intro f ds v b C h hC
  unfold RSs at h
  (try split at h)
  all_goals first
    | (obtain ⟨rfl, rfl, rfl⟩ : _ ∧ _ ∧ _ := by simpa using h
       obtain ⟨_, h2⟩ := ptsA_spec hC.1
       have h1 := resR_pts1 (pre := []) (post := []) hC.1 (resR_srt _ (by rw [h2]; exact hC.2.1))
       simp only [List.nil_append, List.append_nil] at h1
       with_reducible exact h1)
    | (obtain ⟨rfl, rfl, rfl⟩ : _ ∧ _ ∧ _ := by simpa using h
       obtain ⟨_, h2⟩ := ptsA_spec hC.1
       have h1 := resR_pts1 (pre := []) (post := []) hC.1 (resR_iSp _ (by unfold Big; rw [h2]; exact hC.2.1))
       simp only [List.nil_append, List.append_nil] at h1
       with_reducible exact h1)
    | exact RCl_ok _ _ _ _ _ h hC
def RSq : TabR := fun f ds => match f, ds with
  | f, ds => RSs f ds
theorem RSq_ok : TabROk Try.prog RSq := by
  intro f ds v b C h hC
  unfold RSq at h
  (try split at h)
  all_goals first
    | (obtain ⟨rfl, rfl, rfl⟩ : _ ∧ _ ∧ _ := by simpa using h
       obtain ⟨_, h2⟩ := ptsA_spec hC.1
       have h1 := resR_pts1 (pre := []) (post := []) hC.1 (resR_sSp _ (by unfold Big; rw [h2]; exact hC.2.1))
       simp only [List.nil_append, List.append_nil] at h1
       with_reducible exact h1)
    | exact RSs_ok _ _ _ _ _ h hC
end Go.Proofs.Ytbhdhejefpdjfaa
namespace Go.Proofs.Ytbhdhejefpdjfaa
set_option linter.all false
open Go.RowKit
set_option maxRecDepth 100000 in
theorem grow_any (n : Int) (h : 0 < n ∧ n ≤ 1000) (w : World) : Calls Try.prog 65 #[.slice none 0 0, .int .i64 n] w fun e w' => ∃ v' p, e = .returned v' ∧ Below w.heap.size w w' ∧
    ∀ (ρ : Nat → Option Pl) (name : Nat), ρ name = some p → VR ρ (.slice (some ⟨name, 0, none⟩) 0 0) v' ∧ BlkOk ρ (fun k => k < w.heap.size) w' name ⟨.row 25 2, .ints []⟩ := by
  have h1 : decide (n < 0) = false := decide_eq_false (by omega)
  have h2 : decide (0 < n) = true := decide_eq_true (by omega)
  have hb : Try.t25.bytes = 16 := rfl
  have hc : Builtin.nextslicecap n.toNat 0 = n.toNat := nextslicecap_zero (by omega)
  have hge : n.toNat ≤ (Question.appendCap n.toNat 0 25).cut (w.tape w.drawn (Question.appendCap n.toNat 0 25)) := grownCap_ge w n.toNat 0 25
  have HG := Lib.hid hge
  clear hge
  go_enter Try.func65, Try.ntmps65
  go_wp2_with fail
  all_goals (try (exfalso; first | omega | (rw [hb] at *; omega) | (rw [hc, hb] at *; omega)))
  have hge := HG.out
  clear HG
  go_ret
  refine ⟨_, rfl, Below.drew (na (nr _) _), w.heap.size, 0, some ((Question.appendCap n.toNat 0 25).cut (w.tape w.drawn (Question.appendCap n.toNat 0 25))), fun ρ name hn => ⟨.slice (f := 0) hn (.inl rfl) (Nat.zero_le _) (fun k hk _ => by simpa using hk), .inr ⟨w.heap.size, _, hn, Nat.lt_irrefl _, _, heap_alloc_new w _, ?_, fun k v hk => by simp [Blk.cells, Cs.list] at hk⟩⟩⟩
  rw [Array.size_append, size_zeroCells, size_zeroCells]
  simp only [List.size_toArray, List.length_cons, List.length_nil]
  omega
set_option maxRecDepth 100000 in
theorem resR_grw (n : Int) (h : 0 < n ∧ n ≤ 1000) : ResR Try.prog 65 [.v (.slice none 0 0), .v (.int .i64 n)] (.slice (some ⟨0, 0, none⟩) 0 0) ⟨.row 25 2, .ints []⟩ := by
  refine ⟨(entersB_res (by kernel_rfl)).1, (entersB_res (by kernel_rfl)).2, rfl, fun d hd => ?_, fun w args hd => ?_⟩
  · rcases List.mem_cons.1 hd with rfl | hd
    · exact rfl
    · rw [List.mem_singleton.1 hd]
      exact rfl
  · obtain ⟨h1, h2⟩ := hd
    obtain ⟨x0, x1, rfl⟩ : ∃ x0 x1, args = #[x0, x1] := by
      have h3 : args.size = 2 := by simpa using h1.symm
      match args, h3 with
      | ⟨[x0, x1]⟩, _ => exact ⟨x0, x1, rfl⟩
    obtain ⟨_, rfl⟩ := h2 0 _ x0 rfl rfl
    obtain ⟨_, rfl⟩ := h2 1 _ x1 rfl rfl
    exact grow_any n h w
end Go.Proofs.Ytbhdhejefpdjfaa
namespace Go.Proofs.Ytbhdhejefpdjfaa
set_option linter.all false
open Go.RowKit
def RGw : TabR := fun f ds => match f, ds with
  | 65, [.v (.slice none 0 0), .v (.int .i64 n)] => some (.slice (some ⟨0, 0, none⟩) 0 0, ⟨.row 25 2, .ints []⟩, [0 < n ∧ n ≤ 1000])
  | _, _ => none
theorem RGw_ok : TabROk Try.prog RGw := by
  intro f ds v b C h hC
  unfold RGw at h
  (try split at h)
  all_goals first
    | (obtain ⟨rfl, rfl, rfl⟩ : _ ∧ _ ∧ _ := by simpa using h
       exact resR_grw _ hC.1)
    | cases h
def ECt : Env := mkE B0 RGw (fun _ => noL)
theorem ECt_ok : EnvOk Try.prog ECt := mkEOk B0_ok RGw_ok (fun _ _ _ => noL_good)
set_option maxRecDepth 100000 in
theorem tr_cat (l1 l2 : Nat) (y1 y2 : List Int) : bodyM Try.prog ECt (runM Try.prog ECt 30 12) 30 58 [.slice (some ⟨2, 0, none⟩) 2 2] [some ⟨.view, .ints y1⟩, some ⟨.view, .ints y2⟩, some ⟨.view, .vals [.slice (some ⟨0, 0, none⟩) l1 l1, .slice (some ⟨1, 0, none⟩) l2 l2]⟩] .fin = .need ((0 : Int) ≤ (0 : Int) ∧ (0 : Int) < (↑(2 : Nat) : Int)) (brT (decide (IntKind.i64.wrap (0 + (↑l1 : Int)) < 0)) (.bad) (.need ((0 : Int) ≤ IntKind.i64.wrap ((0 : Int) + (1 : Int)) ∧ IntKind.i64.wrap ((0 : Int) + (1 : Int)) < (↑(2 : Nat) : Int)) (brT (decide (IntKind.i64.wrap (IntKind.i64.wrap (0 + (↑l1 : Int)) + (↑l2 : Int)) < 0)) (.bad) (.need ((0 : Int) < IntKind.i64.wrap (IntKind.i64.wrap ((0 : Int) + (↑l1 : Int)) + (↑l2 : Int)) ∧ IntKind.i64.wrap (IntKind.i64.wrap ((0 : Int) + (↑l1 : Int)) + (↑l2 : Int)) ≤ (1000 : Int)) (.need ((0 : Int) ≤ (0 : Int) ∧ (0 : Int) < (↑(2 : Nat) : Int)) (.need (((0 : Nat) + (l1, Cs.ints (List.take (l1 * Try.prog.types[(25 : Nat)].size) (List.drop (0 : Nat) y1)), [(0 : Nat) + l1 * Try.prog.types[(25 : Nat)].size ≤ y1.length]).fst) * (16 : Nat) ≤ (140737488355328 : Nat) ∧ (0 : Nat) + (l1, Cs.ints (List.take (l1 * Try.prog.types[(25 : Nat)].size) (List.drop (0 : Nat) y1)), [(0 : Nat) + l1 * Try.prog.types[(25 : Nat)].size ≤ y1.length]).fst ≤ (2000000 : Nat)) (.need ((0 : Nat) + l1 * (2 : Nat) ≤ y1.length) (.need ((0 : Nat) ≤ (0 : Nat)) (.need ((0 : Int) ≤ IntKind.i64.wrap ((0 : Int) + (1 : Int)) ∧ IntKind.i64.wrap ((0 : Int) + (1 : Int)) < (↑(2 : Nat) : Int)) (.need (((0 : Nat) + (l1, Cs.ints (List.take (l1 * Try.prog.types[(25 : Nat)].size) (List.drop (0 : Nat) y1)), [(0 : Nat) + l1 * Try.prog.types[(25 : Nat)].size ≤ y1.length]).fst + (l2, Cs.ints (List.take (l2 * Try.prog.types[(25 : Nat)].size) (List.drop (0 : Nat) y2)), [(0 : Nat) + l2 * Try.prog.types[(25 : Nat)].size ≤ y2.length]).fst) * (16 : Nat) ≤ (140737488355328 : Nat) ∧ (0 : Nat) + (l1, Cs.ints (List.take (l1 * Try.prog.types[(25 : Nat)].size) (List.drop (0 : Nat) y1)), [(0 : Nat) + l1 * Try.prog.types[(25 : Nat)].size ≤ y1.length]).fst + (l2, Cs.ints (List.take (l2 * Try.prog.types[(25 : Nat)].size) (List.drop (0 : Nat) y2)), [(0 : Nat) + l2 * Try.prog.types[(25 : Nat)].size ≤ y2.length]).fst ≤ (2000000 : Nat)) (.need ((0 : Nat) + l2 * (2 : Nat) ≤ y2.length) (.need ((0 : Nat) + ((0 : Nat) + (l1, Cs.ints (List.take (l1 * Try.prog.types[(25 : Nat)].size) (List.drop (0 : Nat) y1)), [(0 : Nat) + l1 * Try.prog.types[(25 : Nat)].size ≤ y1.length]).fst) * (2 : Nat) ≤ (List.take (0 : Nat) (List.drop (0 : Nat) []) ++ List.take (l1 * (2 : Nat)) (List.drop (0 : Nat) y1)).length) (.fin (.slice (some ⟨5, 0, none⟩) (0 + (l1, Cs.ints (List.take (l1 * Try.prog.types[25].size) (List.drop 0 y1)), [0 + l1 * Try.prog.types[25].size ≤ y1.length]).fst + (l2, Cs.ints (List.take (l2 * Try.prog.types[25].size) (List.drop 0 y2)), [0 + l2 * Try.prog.types[25].size ≤ y2.length]).fst) (0 + (l1, Cs.ints (List.take (l1 * Try.prog.types[25].size) (List.drop 0 y1)), [0 + l1 * Try.prog.types[25].size ≤ y1.length]).fst + (l2, Cs.ints (List.take (l2 * Try.prog.types[25].size) (List.drop 0 y2)), [0 + l2 * Try.prog.types[25].size ≤ y2.length]).fst)) [some ⟨.view, .ints (y1)⟩, some ⟨.view, .ints (y2)⟩, some ⟨.view, .vals [.slice (some ⟨0, 0, none⟩) (l1) (l1), .slice (some ⟨1, 0, none⟩) (l2) (l2)]⟩, some deadB, some deadB, some ⟨.row 25 2, .ints (List.take ((0 + (l1, Cs.ints (List.take (l1 * Try.prog.types[25].size) (List.drop 0 y1)), [0 + l1 * Try.prog.types[25].size ≤ y1.length]).fst) * 2) (List.drop 0 (List.take 0 (List.drop 0 []) ++ List.take (l1 * 2) (List.drop 0 y1))) ++ List.take (l2 * 2) (List.drop 0 y2))⟩]))))))))))))) := by kernel_rfl
/-- A view of two slices, beside what they are of. -/
theorem two_open {w : World} {l1 l2 : Nat} {y1 y2 : List Int} {x1 x2 : Value} (h1 : DOk w (.row l1 (.ints y1)) x1) (h2 : DOk w (.row l2 (.ints y2)) x2) {g f : Nat} (hg : g < w.heap.size) (c1 : w.cell? ⟨g, f, none⟩ = some x1) (c2 : w.cell? ⟨g, f + 1, none⟩ = some x2) (B : Nat → Prop) :
    ∃ ρ : Nat → Option Pl, ρ 2 = some (g, f, none) ∧ MemOk (fun _ => none) ρ B (fun n => [some (⟨.view, .ints y1⟩ : Blk), some ⟨.view, .ints y2⟩, some ⟨.view, .vals [.slice (some ⟨0, 0, none⟩) l1 l1, .slice (some ⟨1, 0, none⟩) l2 l2]⟩].getD n none) w := by
  obtain ⟨ρ, ha, hm⟩ := args_open (w := w) (ds := [.row l1 (.ints y1), .row l2 (.ints y2)]) (args := #[x1, x2]) ⟨rfl, fun i d y hd hy => by
    match i, hd, hy with
    | 0, hd, hy =>
      obtain rfl : DArg.row l1 (.ints y1) = d := by simpa using hd
      obtain rfl : x1 = y := by simpa using hy
      exact h1
    | 1, hd, hy =>
      obtain rfl : DArg.row l2 (.ints y2) = d := by simpa using hd
      obtain rfl : x2 = y := by simpa using hy
      exact h2
    | i + 2, hd, hy => simp at hd⟩ B
  have hn : ρ 2 = none := hm.fresh 2 rfl
  have v0 : VR ρ (.slice (some ⟨0, 0, none⟩) l1 l1) x1 := ha.2 0 _ _ rfl rfl
  have v1 : VR ρ (.slice (some ⟨1, 0, none⟩) l2 l2) x2 := ha.2 1 _ _ rfl rfl
  have hext : Ext ρ (addPl ρ 2 (g, f, none)) := addPl_ext hn
  refine ⟨addPl ρ 2 (g, f, none), addPl_same _ _ _, fun n p hp => by simp at hp, fun n hn' => ?_, fun n b hb => ?_, fun n n' b b' p p' hb hown => ?_⟩
  · have h3 : 3 ≤ n := by
      rcases Nat.lt_or_ge n 3 with h | h
      · match n, h with
        | 0, _ => simp at hn'
        | 1, _ => simp at hn'
        | 2, _ => simp at hn'
      · exact h
    rw [addPl_ne (by omega)]
    refine hm.fresh n ?_
    match n, h3 with
    | n + 3, _ => rfl
  · match n, hb with
    | 0, hb =>
      obtain rfl : (⟨.view, .ints y1⟩ : Blk) = b := by simpa using hb
      exact (hm.ok 0 _ rfl).keep hext (Nat.le_refl _) fun _ _ _ _ => rfl
    | 1, hb =>
      obtain rfl : (⟨.view, .ints y2⟩ : Blk) = b := by simpa using hb
      exact (hm.ok 1 _ rfl).keep hext (Nat.le_refl _) fun _ _ _ _ => rfl
    | 2, hb =>
      obtain rfl : (⟨.view, .vals [.slice (some ⟨0, 0, none⟩) l1 l1, .slice (some ⟨1, 0, none⟩) l2 l2]⟩ : Blk) = b := by simpa using hb
      refine .inr ⟨g, f, none, addPl_same _ _ _, .inr rfl, hg, fun k v hk => ?_⟩
      match k, hk with
      | 0, hk =>
        obtain rfl : Value.slice (some ⟨0, 0, none⟩) l1 l1 = v := by simpa [Blk.cells, Cs.list] using hk
        exact ⟨x1, c1, v0.ext hext⟩
      | 1, hk =>
        obtain rfl : Value.slice (some ⟨1, 0, none⟩) l2 l2 = v := by simpa [Blk.cells, Cs.list] using hk
        exact ⟨x2, c2, v1.ext hext⟩
      | k + 2, hk => simp [Blk.cells, Cs.list] at hk
    | n + 3, hb => simp at hb
  · exfalso
    match n, hb with
    | 0, hb =>
      obtain rfl : (⟨.view, .ints y1⟩ : Blk) = b := by simpa using hb
      cases hown
    | 1, hb =>
      obtain rfl : (⟨.view, .ints y2⟩ : Blk) = b := by simpa using hb
      cases hown
    | 2, hb =>
      obtain rfl : (⟨.view, .vals [.slice (some ⟨0, 0, none⟩) l1 l1, .slice (some ⟨1, 0, none⟩) l2 l2]⟩ : Blk) = b := by simpa using hb
      cases hown
    | n + 3, hb => simp at hb
/-- A function of a row of two slices that answers with a fresh row. -/
theorem two_call {P : Program} (hm : P.follows .mixedOrders = true) {E : Env} (hE : EnvOk P E) {m n : Nat} {f : FuncId} {l1 l2 : Nat} {y1 y2 : List Int} {v : Value} {b : Blk} (hb : isRow b = true)
    (h : (bodyM P E (runM P E m n) m f [.slice (some ⟨2, 0, none⟩) 2 2] [some ⟨.view, .ints y1⟩, some ⟨.view, .ints y2⟩, some ⟨.view, .vals [.slice (some ⟨0, 0, none⟩) l1 l1, .slice (some ⟨1, 0, none⟩) l2 l2]⟩] .fin).ok (fun _ _ => False) (fun u mem => RowIs v b u mem))
    (w : World) {x1 x2 : Value} (h1 : DOk w (.row l1 (.ints y1)) x1) (h2 : DOk w (.row l2 (.ints y2)) x2) {g fo c : Nat} (hg : g < w.heap.size) (c1 : w.cell? ⟨g, fo, none⟩ = some x1) (c2 : w.cell? ⟨g, fo + 1, none⟩ = some x2) (hc : 2 ≤ c) :
    Calls P f #[.slice (some ⟨g, fo, none⟩) 2 c] w fun e w' => ∃ v' p, e = .returned v' ∧ Below w.heap.size w w' ∧ ∀ ρ name, ρ name = some p → VR ρ (atName name v) v' ∧ BlkOk ρ (fun k => k < w.heap.size) w' name b := by
  obtain ⟨u, mem', ⟨src, hrv, hsrc⟩, hent, hdet⟩ := bodyM_ok hE hm (runM_ok hm hE m n) m f _ _ _ _ _ h
  obtain ⟨kd, cs⟩ := b
  cases kd with
  | row e sz =>
    obtain ⟨ρ, hρ, hmem⟩ := two_open h1 h2 hg c1 c2 (fun k => k < w.heap.size)
    refine (hdet ⟨w, fun _ => none, fun k => k < w.heap.size, fun _ h => h, [], none⟩ ρ #[.slice (some ⟨g, fo, none⟩) 2 c] w ⟨rfl, fun i a x ha hx => ?_⟩ hmem (BelowK.refl _ _)).mono ?_
    · match i, ha, hx with
      | 0, ha, hx =>
        obtain rfl : Value.slice (some ⟨2, 0, none⟩) 2 2 = a := by simpa using ha
        obtain rfl : Value.slice (some ⟨g, fo, none⟩) 2 c = x := by simpa using hx
        exact .slice (o := 0) hρ (.inr rfl) hc (fun k hk => by simp at hk)
      | i + 1, ha, hx => simp at ha
    rintro e' w' ⟨v', ρ', rfl, _, g2, g3, g4⟩
    cases src with
    | none => exact ⟨v', (0, 1, some 0), rfl, g3.to, fun ρ2 name hp => ⟨rv_ok (ρ := ρ') (src := none) hp hrv g2, .inl ⟨_, hp, rfl, rfl⟩⟩⟩
    | some k =>
      simp only at hsrc
      split at hsrc
      rotate_left
      · exact hsrc.elim
      rename_i b' hb'
      obtain ⟨kd', cs'⟩ := b'
      cases kd' with
      | row e2 sz2 =>
        obtain ⟨rfl, rfl, hc⟩ := hsrc
        obtain ⟨d1, d2⟩ := rc_list hc
        rcases g4.ok k _ hb' with ⟨p, h1, h2, h3⟩ | ⟨g, cap, h1, h2, arr, h3, h4, h5⟩
        · exact ⟨v', p, rfl, g3.to, fun ρ2 name hp => ⟨rv_ok (ρ := ρ') (src := some k) (hp.trans h1.symm) hrv g2, .inl ⟨p, hp, h2, h3⟩⟩⟩
        · refine ⟨v', _, rfl, g3.to, fun ρ2 name hp => ⟨rv_ok (ρ := ρ') (src := some k) (hp.trans h1.symm) hrv g2, .inr ⟨g, cap, hp, h2, arr, h3, h4, ?_⟩⟩⟩
          intro i x hx
          obtain ⟨x', k1, k2⟩ := h5 i x (by show cs'.list[i]? = some x; rw [d1]; exact hx)
          refine ⟨x', k1, ?_⟩
          have hat := plain_of_atom (d2 x (List.mem_of_getElem? hx))
          rw [k2.plain hat]
          exact .lit hat
      | _ => exact hsrc.elim
  | _ => cases hb
abbrev catB (l1 l2 : Nat) (y1 y2 : List Int) : Blk := ⟨.row 25 2, .ints (y1.take (l1 * 2) ++ y2.take (l2 * 2))⟩
theorem cat_row {l1 l2 : Nat} {y1 y2 : List Int} (h1 : l1 * 2 ≤ y1.length) (h2 : l2 * 2 ≤ y2.length) (h0 : 0 < l1 + l2) (h3 : l1 + l2 ≤ 1000) : (bodyM Try.prog ECt (runM Try.prog ECt 30 12) 30 58 [.slice (some ⟨2, 0, none⟩) 2 2] [some ⟨.view, .ints y1⟩, some ⟨.view, .ints y2⟩, some ⟨.view, .vals [.slice (some ⟨0, 0, none⟩) l1 l1, .slice (some ⟨1, 0, none⟩) l2 l2]⟩] .fin).ok (fun _ _ => False) (fun u mem => RowIs (.slice (some ⟨0, 0, none⟩) (l1 + l2) (l1 + l2)) (catB l1 l2 y1 y2) u mem) := by
  rw [tr_cat]
  have e1 : IntKind.i64.wrap (0 + (l1 : Int)) = (l1 : Int) := by rw [wr (by omega)]; omega
  have e2 : IntKind.i64.wrap ((l1 : Int) + (l2 : Int)) = (l1 : Int) + l2 := wr (by omega)
  have e3 : IntKind.i64.wrap ((0 : Int) + 1) = 1 := by rw [wr (by omega)]; rfl
  have t1 : (y1.take (l1 * 2)).length = l1 * 2 := by rw [List.length_take]; omega
  simp only [e1, e2, e3, List.drop_zero, List.take_zero, List.nil_append, Nat.zero_add, List.take_take, Nat.min_self, t1]
  refine ⟨⟨by omega, by omega⟩, brT_ok.2 ⟨fun q => ?_, fun _ => ⟨⟨by omega, by omega⟩, brT_ok.2 ⟨fun q => ?_, fun _ => ⟨⟨by omega, by omega⟩, ⟨by omega, by omega⟩, ⟨by omega, by omega⟩, h1, by omega, ⟨by omega, by omega⟩, ⟨by omega, by omega⟩, h2, by omega, some 5, ⟨rfl, rfl, rfl⟩, rfl, rfl, rfl⟩⟩⟩⟩⟩
  · have := of_decide_eq_true q; omega
  · have := of_decide_eq_true q; omega
def rowI : DArg → Option (Nat × List Int)
  | .row l (.ints y) => some (l, y)
  | _ => none
theorem rowI_spec {d : DArg} {l : Nat} {y : List Int} (h : rowI d = some (l, y)) : d = .row l (.ints y) := by
  unfold rowI at h
  split at h
  · obtain ⟨rfl, rfl⟩ : _ ∧ _ := by simpa using h
    rfl
  · cases h
/-- Two slices of points, one behind the other. -/
def catG (name : Nat) (args : List Value) : Rd Eff := match args with
  | [.slice (some ⟨nb, 0, none⟩) 2 _] => .blk nb fun b => match b with
    | some ⟨.row _ 1, .vals [s1, s2]⟩ => (rdArg s1).bind fun d1 => (rdArg s2).bind fun d2 => (match rowI d1, rowI d2 with
      | some (l1, y1), some (l2, y2) => .ret ⟨.slice (some ⟨name, 0, none⟩) (l1 + l2) (l1 + l2), [(name, catB l1 l2 y1 y2)], [l1 * 2 ≤ y1.length, l2 * 2 ≤ y2.length, 0 < l1 + l2, l1 + l2 ≤ 1000]⟩
      | _, _ => .fail)
    | _ => .fail
  | _ => .fail
set_option maxRecDepth 100000 in
theorem catG_sound {J : TabJ} (hJ : GSound Try.prog J.g) : GSound Try.prog (consR 58 catG J).g := by
  intro h name args s eff hr hn
  simp only [consR] at hr
  split at hr
  rotate_left
  · exact hJ h name args s eff hr hn
  rename_i heq
  obtain rfl := Nat.eq_of_beq_eq_true heq
  refine ⟨(entersB_res (by kernel_rfl)).1, fun B ρ0 ρ w args' ha hm hB hcond => ?_⟩
  unfold catG at hr
  split at hr
  rotate_left
  · simp [Rd.run] at hr
  rename_i nb c
  simp only [Rd.run] at hr
  split at hr
  rotate_left
  · simp [Rd.run] at hr
  rename_i e s1 s2 hb
  obtain ⟨d1, hd1, hr1⟩ := bind_some hr
  obtain ⟨d2, hd2, hr2⟩ := bind_some hr1
  clear hr hr1
  split at hr2
  rotate_left
  · simp [Rd.run] at hr2
  rename_i l1 y1 l2 y2 r1 r2
  obtain rfl := rowI_spec r1
  obtain rfl := rowI_spec r2
  obtain rfl : (⟨.slice (some ⟨name, 0, none⟩) (l1 + l2) (l1 + l2), [(name, catB l1 l2 y1 y2)], [l1 * 2 ≤ y1.length, l2 * 2 ≤ y2.length, 0 < l1 + l2, l1 + l2 ≤ 1000]⟩ : Eff) = eff := by simpa [Rd.run] using hr2
  obtain ⟨k1, k2, k3, k4, _⟩ := hcond
  obtain ⟨hsz, hval⟩ := ha
  obtain ⟨x0, rfl⟩ : ∃ x0, args' = #[x0] := by
    have h2 : args'.size = 1 := by simpa using hsz.symm
    match args', h2 with
    | ⟨[x0]⟩, _ => exact ⟨x0, rfl⟩
  have v0 := hval 0 _ x0 rfl rfl
  rcases v0.slice_inv with ⟨g, f, cp, c', j1, jok, j2, j3, j4⟩ | ⟨hl0, _⟩ | ⟨hl0, _⟩
  rotate_left
  · omega
  · omega
  rcases hm.ok nb _ hb with ⟨p, q1, q2, q3⟩ | ⟨g2, cap, q1, q2, cs', q3, q4, q5⟩
  · rw [q1] at j1
    obtain rfl : p = (g, f, cp) := by simpa using j1
    exact absurd ⟨q2, 0, q3⟩ jok.not
  rw [q1] at j1
  obtain ⟨rfl, rfl, rfl⟩ : g2 = g ∧ 0 = f ∧ some cap = cp := by simpa using j1
  subst j2
  obtain ⟨x1, a1, a2⟩ := q5 0 s1 rfl
  obtain ⟨x2, b1, b2⟩ := q5 1 s2 rfl
  have hg : g2 < w.heap.size := (Array.getElem?_eq_some_iff.1 q3).1
  have cell : ∀ k x, cs'[k]? = some x → w.cell? ⟨g2, 0 + k, none⟩ = some x := fun k x hx => by
    simp only [World.cell?, Nat.zero_add, q3, Option.isSome_none, Bool.false_eq_true, if_false, hx]
  refine (two_call mixed ECt_ok rfl (cat_row k1 k2 k3 k4) w ((rdArg_ok hd1).2 a2 hm) ((rdArg_ok hd2).2 b2 hm) hg (cell 0 _ a1) (cell 1 _ b1) j3).mono ?_
  rintro e' w' ⟨v', p, rfl, hbel, hrow⟩
  obtain ⟨g1, g3⟩ := hrow (addPl ρ name p) name (addPl_same _ _ _)
  refine ⟨v', addPl ρ name p, rfl, addPl_ext (hm.fresh name hn), g1, BelowK.of hbel hB, ?_⟩
  rw [upd_one]
  exact hm.newRow hB hbel hn rfl g3
end Go.Proofs.Ytbhdhejefpdjfaa
