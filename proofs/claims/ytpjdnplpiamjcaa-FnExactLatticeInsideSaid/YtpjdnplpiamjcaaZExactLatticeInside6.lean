/-
  Texts that the proof needs, merged. Written by an AI agent.
-/
import Derived.Orders
import Derived.Below
import Derived.OrdersIn
import Derived.Deep.LoopGhost
import Derived.WalkKit
import Derived.Laws.CopyRow
import Derived.Laws.AppendOwn
import Derived.Laws.Slices
import Derived.Laws.MakeOwn
import Derived.Test.YtpjdnplpiamjcaaRows
import Derived.ProofKit
import Derived.OpenShut
import Derived.Carry
import Derived.IntWalk
import Derived.Test.YtpjdnplpiamjcaaProg
import Derived.WalkSpells
import Derived.WalkLawsBesides
import Derived.Lib.Hide
import Derived.Deep.QuietTactic
import Derived.BigQuiet
import Derived.KernelRfl
import Derived.Deep.RegionHeld3
import Derived.LoopTactic
import Derived.Laws.StructEq
import Derived.Laws.Tables
import Derived.RangeFuncNested
import Derived.RangeFuncLeaves
import Derived.Deep.Slices
import Derived.Deep.Fields
import Derived.ChangeSame
import Derived.Deep.DeepCutAuto
import Derived.Test.YtpjdnplpiamjcaaZExactLatticeInside5
namespace Go.Proofs.Ytpjdnplpiamjcaa
set_option linter.all false
open Go.RowKit
/-- So many different valid points. -/
def rngQ (ps : List Pt) : Bool := okL ps && decide (3 ≤ ps.length) && ((srtL ps).length == ps.length)
set_option maxRecDepth 100000 in
theorem tr_sRng (ps : List Pt) : bodyV Try.prog EIs 30 12 140 [.row ps.length (.ints (flat ps))] = .need (ps.length * (2 : Nat) ≤ (List.drop (0 : Nat) (flat ps)).length) (.need (ps.length ≤ (1000000000 : Nat)) (brT (okL (ptsA ps.length (List.drop 0 (flat ps)))) (brT (decide (3 ≤ (↑ps.length : Int))) (brT (decide ((↑ps.length : Int) ≤ 20)) (.need (ps.length * (2 : Nat) ≤ (List.drop (0 : Nat) (flat ps)).length) (.need (ps.length ≤ (1000 : Nat)) (.fin (.bool ((↑(srtL (ptsA ps.length (List.drop 0 (flat ps)))).length : Int) == (↑ps.length : Int))) []))) (.fin (.bool (false)) [])) (.fin (.bool (false)) [])) (.fin (.bool (false)) []))) := by kernel_rfl
theorem res_sRng (ps : List Pt) (h : Big ps) : Res Try.prog 140 [.row ps.length (.ints (flat ps))] (.bool (rngQ ps)) := by
  refine bodyV_res mixed EIs_ok (m := 30) (n := 12) rfl ?_
  rw [tr_sRng]
  unfold Big at h
  simp only [List.drop_zero, ptsA_flat, flat_length]
  unfold rngQ
  have hq : ((((srtL ps).length : Nat) : Int) == (ps.length : Int)) = ((srtL ps).length == ps.length) := by rw [Bool.eq_iff_iff]; simp; omega
  rw [hq]
  rcases ho : okL ps with _ | _
  · simp [brT_ok, Tree.ok, h]
  · have hl : ps.length ≤ 20 := by
      unfold okL at ho
      simp only [Bool.and_eq_true, decide_eq_true_eq] at ho
      exact ho.2
    have a3 : (ps.length : Int) ≤ 20 := by omega
    have a4 : ps.length ≤ 1000 := by omega
    by_cases h1 : 3 ≤ ps.length
    · have a1 : (3 : Int) ≤ ps.length := by omega
      simp [brT_ok, Tree.ok, h, h1, a1, a3, a4]
    · have a1 : ¬ (3 : Int) ≤ ps.length := by omega
      simp [brT_ok, Tree.ok, h, h1, a1]
def pRng : List DArg → Option (Value × List Prop)
  | [.row m (.ints xs)] => some (.bool (rngQ (ptsA m xs)), [m * 2 ≤ xs.length, m ≤ 1000000000])
  | _ => none
theorem pRng_ok {ds : List DArg} {v : Value} {C : List Prop} (h : pRng ds = some (v, C)) (hC : AllP C) : Res Try.prog 140 ds v := by
  unfold pRng at h
  split at h
  · rename_i m xs
    obtain ⟨rfl, rfl⟩ : _ ∧ _ := by simpa using h
    obtain ⟨_, h2⟩ := ptsA_spec hC.1
    exact res_pts1 (pre := []) (post := []) hC.1 (res_sRng (ptsA m xs) (by unfold Big; rw [h2]; exact hC.2.1))
  · cases h
def TIt : Tab := fun f ds => match f with
  | 140 => pRng ds
  | f => TIs f ds
theorem TIt_ok : TabOk Try.prog TIt := by
  intro f ds v C h hC
  unfold TIt at h
  (try split at h)
  all_goals first | with_reducible exact pRng_ok h hC | exact TIs_ok _ _ _ _ h hC
def EIt : Env := mkE TIt RCe (fun _ => noL)
theorem EIt_ok : EnvOk Try.prog EIt := mkEOk TIt_ok RCe_ok (fun _ _ _ => noL_good)
def edX (ps : List Pt) (i k : Nat) : Int := relA (ps.getD i (0, 0)).1 (ps.getD i (0, 0)).2 (nxP ps i).1 (nxP ps i).2 (ps.getD k (0, 0)).1 (ps.getD k (0, 0)).2 (nxP ps k).1 (nxP ps k).2
def nbS (ps : List Pt) (i k : Nat) : Bool := decide (k + 1 = i) || decide ((i + 1) % ps.length = k)
def okS (ps : List Pt) (i k : Nat) : Bool := bif nbS ps i k then !(edX ps i k == 3) else edX ps i k == 0
def rowS (ps : List Pt) (i : Nat) : Bool := allQ (okS ps i) 0 i
def simS (ps : List Pt) : Bool := allQ (rowS ps) 0 ps.length
theorem pt_get {ps : List Pt} (h : allV ps = true) {j : Nat} (hj : j < ps.length) : ptB (ps.getD j (0, 0)).1 (ps.getD j (0, 0)).2 = true := List.all_eq_true.1 h (ps.getD j (0, 0)) (by simp [hj])
noncomputable def c_ssI : Code := ((loopsOf (codeOf Try.f86))[1]?).getD .skip
def k_ssI : Ex → List Nat := keeps [0, 3, 4, 5] [(2, [0, 3, 4]), (1, [0, 3, 4])] [2]
def s_ssI (ps : List Pt) (i : Nat) : Nat → St := fun k => ⟨(.slice (some ⟨0, 0, none⟩) ps.length ps.length :: topV :: topV :: .int .i64 ps.length :: .int .i64 i :: .int .i64 k :: topV :: topV :: topV :: topV :: topV :: topV :: topV :: topV :: topV :: topV :: topV :: topV :: topV :: topV :: topV :: topV :: topV :: topV :: topV :: topV :: topV :: topV :: topV :: topV :: topV :: topV :: topV :: topV :: topV :: topV :: topV :: topV :: topV :: topV :: topV :: topV :: topV :: topV :: topV :: topV :: topV :: topV :: topV :: topV :: topV :: topV :: topV :: topV :: topV :: []), [some ⟨.view, .ints (flat ps)⟩]⟩
def re_ssI (ps : List Pt) (i : Nat) : Nat → Ex := fun k => bif allQ (okS ps i) k (i - k) then .exit 2 else .ret
def rs_ssI (ps : List Pt) (i : Nat) : Nat → St := fun k => bif allQ (okS ps i) k (i - k) then ⟨(.slice (some ⟨0, 0, none⟩) ps.length ps.length :: topV :: topV :: .int .i64 ps.length :: .int .i64 i :: topV :: topV :: topV :: topV :: topV :: topV :: topV :: topV :: topV :: topV :: topV :: topV :: topV :: topV :: topV :: topV :: topV :: topV :: topV :: topV :: topV :: topV :: topV :: topV :: topV :: topV :: topV :: topV :: topV :: topV :: topV :: topV :: topV :: topV :: topV :: topV :: topV :: topV :: topV :: topV :: topV :: topV :: topV :: topV :: topV :: topV :: topV :: topV :: topV :: topV :: []), [some ⟨.view, .ints (flat ps)⟩]⟩ else ⟨(topV :: topV :: .bool false :: topV :: topV :: topV :: topV :: topV :: topV :: topV :: topV :: topV :: topV :: topV :: topV :: topV :: topV :: topV :: topV :: topV :: topV :: topV :: topV :: topV :: topV :: topV :: topV :: topV :: topV :: topV :: topV :: topV :: topV :: topV :: topV :: topV :: topV :: topV :: topV :: topV :: topV :: topV :: topV :: topV :: topV :: topV :: topV :: topV :: topV :: topV :: topV :: topV :: topV :: topV :: topV :: []), [some ⟨.view, .ints (flat ps)⟩]⟩
set_option maxRecDepth 100000 in
theorem tr_ssI (ps : List Pt) (i : Nat) (k : Nat) : bodyL Try.prog EIt 30 12 noL 2 c_ssI k_ssI 1 (s_ssI ps i k) = brT (decide ((↑k : Int) < (↑i : Int))) (.need ((0 : Int) ≤ (↑i : Int) ∧ (↑i : Int) < (↑ps.length : Int)) (.need ((0 : Nat) + (↑i : Int).toNat * (2 : Nat) + (2 : Nat) ≤ (flat ps).length) (.need (¬(↑ps.length : Int) = (0 : Int)) (.need ((0 : Int) ≤ (IntKind.i64.wrap ((↑i : Int) + (1 : Int))).tmod (↑ps.length : Int) ∧ (IntKind.i64.wrap ((↑i : Int) + (1 : Int))).tmod (↑ps.length : Int) < (↑ps.length : Int)) (.need ((0 : Nat) + ((IntKind.i64.wrap ((↑i : Int) + (1 : Int))).tmod (↑ps.length : Int)).toNat * (2 : Nat) + (2 : Nat) ≤ (flat ps).length) (.need ((0 : Int) ≤ (↑k : Int) ∧ (↑k : Int) < (↑ps.length : Int)) (.need ((0 : Nat) + (↑k : Int).toNat * (2 : Nat) + (2 : Nat) ≤ (flat ps).length) (.need (¬(↑ps.length : Int) = (0 : Int)) (.need ((0 : Int) ≤ (IntKind.i64.wrap ((↑k : Int) + (1 : Int))).tmod (↑ps.length : Int) ∧ (IntKind.i64.wrap ((↑k : Int) + (1 : Int))).tmod (↑ps.length : Int) < (↑ps.length : Int)) (.need ((0 : Nat) + ((IntKind.i64.wrap ((↑k : Int) + (1 : Int))).tmod (↑ps.length : Int)).toNat * (2 : Nat) + (2 : Nat) ≤ (flat ps).length) (.need (ptB ((flat ps).getD ((0 : Nat) + (↑i : Int).toNat * (2 : Nat)) (0 : Int)) ((flat ps).getD ((0 : Nat) + (↑i : Int).toNat * (2 : Nat) + (1 : Nat)) (0 : Int)) = true) (.need (ptB ((flat ps).getD ((0 : Nat) + ((IntKind.i64.wrap ((↑i : Int) + (1 : Int))).tmod (↑ps.length : Int)).toNat * (2 : Nat)) (0 : Int)) ((flat ps).getD ((0 : Nat) + ((IntKind.i64.wrap ((↑i : Int) + (1 : Int))).tmod (↑ps.length : Int)).toNat * (2 : Nat) + (1 : Nat)) (0 : Int)) = true) (.need (ptB ((flat ps).getD ((0 : Nat) + (↑k : Int).toNat * (2 : Nat)) (0 : Int)) ((flat ps).getD ((0 : Nat) + (↑k : Int).toNat * (2 : Nat) + (1 : Nat)) (0 : Int)) = true) (.need (ptB ((flat ps).getD ((0 : Nat) + ((IntKind.i64.wrap ((↑k : Int) + (1 : Int))).tmod (↑ps.length : Int)).toNat * (2 : Nat)) (0 : Int)) ((flat ps).getD ((0 : Nat) + ((IntKind.i64.wrap ((↑k : Int) + (1 : Int))).tmod (↑ps.length : Int)).toNat * (2 : Nat) + (1 : Nat)) (0 : Int)) = true) (brT (IntKind.i64.wrap ((↑k : Int) + 1) == (↑i : Int)) (brT (relA ((flat ps).getD (0 + (↑i : Int).toNat * 2) 0) ((flat ps).getD (0 + (↑i : Int).toNat * 2 + 1) 0) ((flat ps).getD (0 + ((IntKind.i64.wrap ((↑i : Int) + 1)).tmod (↑ps.length : Int)).toNat * 2) 0) ((flat ps).getD (0 + ((IntKind.i64.wrap ((↑i : Int) + 1)).tmod (↑ps.length : Int)).toNat * 2 + 1) 0) ((flat ps).getD (0 + (↑k : Int).toNat * 2) 0) ((flat ps).getD (0 + (↑k : Int).toNat * 2 + 1) 0) ((flat ps).getD (0 + ((IntKind.i64.wrap ((↑k : Int) + 1)).tmod (↑ps.length : Int)).toNat * 2) 0) ((flat ps).getD (0 + ((IntKind.i64.wrap ((↑k : Int) + 1)).tmod (↑ps.length : Int)).toNat * 2 + 1) 0) == 3) (.leaf .ret ⟨(topV :: topV :: .bool (false) :: topV :: topV :: topV :: topV :: topV :: topV :: topV :: topV :: topV :: topV :: topV :: topV :: topV :: topV :: topV :: topV :: topV :: topV :: topV :: topV :: topV :: topV :: topV :: topV :: topV :: topV :: topV :: topV :: topV :: topV :: topV :: topV :: topV :: topV :: topV :: topV :: topV :: topV :: topV :: topV :: topV :: topV :: topV :: topV :: topV :: topV :: topV :: topV :: topV :: topV :: topV :: topV :: []), [some ⟨.view, .ints (flat ps)⟩]⟩) (.leaf .normal ⟨(.slice (some ⟨0, 0, none⟩) (ps.length) (ps.length) :: topV :: topV :: .int .i64 ((↑ps.length : Int)) :: .int .i64 ((↑i : Int)) :: .int .i64 (IntKind.i64.wrap ((↑k : Int) + 1)) :: topV :: topV :: topV :: topV :: topV :: topV :: topV :: topV :: topV :: topV :: topV :: topV :: topV :: topV :: topV :: topV :: topV :: topV :: topV :: topV :: topV :: topV :: topV :: topV :: topV :: topV :: topV :: topV :: topV :: topV :: topV :: topV :: topV :: topV :: topV :: topV :: topV :: topV :: topV :: topV :: topV :: topV :: topV :: topV :: topV :: topV :: topV :: topV :: topV :: []), [some ⟨.view, .ints (flat ps)⟩]⟩)) (.need (¬(↑ps.length : Int) = (0 : Int)) (brT ((IntKind.i64.wrap ((↑i : Int) + 1)).tmod (↑ps.length : Int) == (↑k : Int)) (brT (relA ((flat ps).getD (0 + (↑i : Int).toNat * 2) 0) ((flat ps).getD (0 + (↑i : Int).toNat * 2 + 1) 0) ((flat ps).getD (0 + ((IntKind.i64.wrap ((↑i : Int) + 1)).tmod (↑ps.length : Int)).toNat * 2) 0) ((flat ps).getD (0 + ((IntKind.i64.wrap ((↑i : Int) + 1)).tmod (↑ps.length : Int)).toNat * 2 + 1) 0) ((flat ps).getD (0 + (↑k : Int).toNat * 2) 0) ((flat ps).getD (0 + (↑k : Int).toNat * 2 + 1) 0) ((flat ps).getD (0 + ((IntKind.i64.wrap ((↑k : Int) + 1)).tmod (↑ps.length : Int)).toNat * 2) 0) ((flat ps).getD (0 + ((IntKind.i64.wrap ((↑k : Int) + 1)).tmod (↑ps.length : Int)).toNat * 2 + 1) 0) == 3) (.leaf .ret ⟨(topV :: topV :: .bool (false) :: topV :: topV :: topV :: topV :: topV :: topV :: topV :: topV :: topV :: topV :: topV :: topV :: topV :: topV :: topV :: topV :: topV :: topV :: topV :: topV :: topV :: topV :: topV :: topV :: topV :: topV :: topV :: topV :: topV :: topV :: topV :: topV :: topV :: topV :: topV :: topV :: topV :: topV :: topV :: topV :: topV :: topV :: topV :: topV :: topV :: topV :: topV :: topV :: topV :: topV :: topV :: topV :: []), [some ⟨.view, .ints (flat ps)⟩]⟩) (brT (!(IntKind.i64.wrap ((↑i : Int) + 1)).tmod (↑ps.length : Int) == (↑k : Int)) (brT (!relA ((flat ps).getD (0 + (↑i : Int).toNat * 2) 0) ((flat ps).getD (0 + (↑i : Int).toNat * 2 + 1) 0) ((flat ps).getD (0 + ((IntKind.i64.wrap ((↑i : Int) + 1)).tmod (↑ps.length : Int)).toNat * 2) 0) ((flat ps).getD (0 + ((IntKind.i64.wrap ((↑i : Int) + 1)).tmod (↑ps.length : Int)).toNat * 2 + 1) 0) ((flat ps).getD (0 + (↑k : Int).toNat * 2) 0) ((flat ps).getD (0 + (↑k : Int).toNat * 2 + 1) 0) ((flat ps).getD (0 + ((IntKind.i64.wrap ((↑k : Int) + 1)).tmod (↑ps.length : Int)).toNat * 2) 0) ((flat ps).getD (0 + ((IntKind.i64.wrap ((↑k : Int) + 1)).tmod (↑ps.length : Int)).toNat * 2 + 1) 0) == 0) (.leaf .ret ⟨(topV :: topV :: .bool (false) :: topV :: topV :: topV :: topV :: topV :: topV :: topV :: topV :: topV :: topV :: topV :: topV :: topV :: topV :: topV :: topV :: topV :: topV :: topV :: topV :: topV :: topV :: topV :: topV :: topV :: topV :: topV :: topV :: topV :: topV :: topV :: topV :: topV :: topV :: topV :: topV :: topV :: topV :: topV :: topV :: topV :: topV :: topV :: topV :: topV :: topV :: topV :: topV :: topV :: topV :: topV :: topV :: []), [some ⟨.view, .ints (flat ps)⟩]⟩) (.leaf .normal ⟨(.slice (some ⟨0, 0, none⟩) (ps.length) (ps.length) :: topV :: topV :: .int .i64 ((↑ps.length : Int)) :: .int .i64 ((↑i : Int)) :: .int .i64 (IntKind.i64.wrap ((↑k : Int) + 1)) :: topV :: topV :: topV :: topV :: topV :: topV :: topV :: topV :: topV :: topV :: topV :: topV :: topV :: topV :: topV :: topV :: topV :: topV :: topV :: topV :: topV :: topV :: topV :: topV :: topV :: topV :: topV :: topV :: topV :: topV :: topV :: topV :: topV :: topV :: topV :: topV :: topV :: topV :: topV :: topV :: topV :: topV :: topV :: topV :: topV :: topV :: topV :: topV :: topV :: []), [some ⟨.view, .ints (flat ps)⟩]⟩)) (.leaf .normal ⟨(.slice (some ⟨0, 0, none⟩) (ps.length) (ps.length) :: topV :: topV :: .int .i64 ((↑ps.length : Int)) :: .int .i64 ((↑i : Int)) :: .int .i64 (IntKind.i64.wrap ((↑k : Int) + 1)) :: topV :: topV :: topV :: topV :: topV :: topV :: topV :: topV :: topV :: topV :: topV :: topV :: topV :: topV :: topV :: topV :: topV :: topV :: topV :: topV :: topV :: topV :: topV :: topV :: topV :: topV :: topV :: topV :: topV :: topV :: topV :: topV :: topV :: topV :: topV :: topV :: topV :: topV :: topV :: topV :: topV :: topV :: topV :: topV :: topV :: topV :: topV :: topV :: topV :: []), [some ⟨.view, .ints (flat ps)⟩]⟩))) (brT (!(IntKind.i64.wrap ((↑i : Int) + 1)).tmod (↑ps.length : Int) == (↑k : Int)) (brT (!relA ((flat ps).getD (0 + (↑i : Int).toNat * 2) 0) ((flat ps).getD (0 + (↑i : Int).toNat * 2 + 1) 0) ((flat ps).getD (0 + ((IntKind.i64.wrap ((↑i : Int) + 1)).tmod (↑ps.length : Int)).toNat * 2) 0) ((flat ps).getD (0 + ((IntKind.i64.wrap ((↑i : Int) + 1)).tmod (↑ps.length : Int)).toNat * 2 + 1) 0) ((flat ps).getD (0 + (↑k : Int).toNat * 2) 0) ((flat ps).getD (0 + (↑k : Int).toNat * 2 + 1) 0) ((flat ps).getD (0 + ((IntKind.i64.wrap ((↑k : Int) + 1)).tmod (↑ps.length : Int)).toNat * 2) 0) ((flat ps).getD (0 + ((IntKind.i64.wrap ((↑k : Int) + 1)).tmod (↑ps.length : Int)).toNat * 2 + 1) 0) == 0) (.leaf .ret ⟨(topV :: topV :: .bool (false) :: topV :: topV :: topV :: topV :: topV :: topV :: topV :: topV :: topV :: topV :: topV :: topV :: topV :: topV :: topV :: topV :: topV :: topV :: topV :: topV :: topV :: topV :: topV :: topV :: topV :: topV :: topV :: topV :: topV :: topV :: topV :: topV :: topV :: topV :: topV :: topV :: topV :: topV :: topV :: topV :: topV :: topV :: topV :: topV :: topV :: topV :: topV :: topV :: topV :: topV :: topV :: topV :: []), [some ⟨.view, .ints (flat ps)⟩]⟩) (.leaf .normal ⟨(.slice (some ⟨0, 0, none⟩) (ps.length) (ps.length) :: topV :: topV :: .int .i64 ((↑ps.length : Int)) :: .int .i64 ((↑i : Int)) :: .int .i64 (IntKind.i64.wrap ((↑k : Int) + 1)) :: topV :: topV :: topV :: topV :: topV :: topV :: topV :: topV :: topV :: topV :: topV :: topV :: topV :: topV :: topV :: topV :: topV :: topV :: topV :: topV :: topV :: topV :: topV :: topV :: topV :: topV :: topV :: topV :: topV :: topV :: topV :: topV :: topV :: topV :: topV :: topV :: topV :: topV :: topV :: topV :: topV :: topV :: topV :: topV :: topV :: topV :: topV :: topV :: topV :: []), [some ⟨.view, .ints (flat ps)⟩]⟩)) (.leaf .normal ⟨(.slice (some ⟨0, 0, none⟩) (ps.length) (ps.length) :: topV :: topV :: .int .i64 ((↑ps.length : Int)) :: .int .i64 ((↑i : Int)) :: .int .i64 (IntKind.i64.wrap ((↑k : Int) + 1)) :: topV :: topV :: topV :: topV :: topV :: topV :: topV :: topV :: topV :: topV :: topV :: topV :: topV :: topV :: topV :: topV :: topV :: topV :: topV :: topV :: topV :: topV :: topV :: topV :: topV :: topV :: topV :: topV :: topV :: topV :: topV :: topV :: topV :: topV :: topV :: topV :: topV :: topV :: topV :: topV :: topV :: topV :: topV :: topV :: topV :: topV :: topV :: topV :: topV :: []), [some ⟨.view, .ints (flat ps)⟩]⟩))))))))))))))))))) (.leaf (.exit 2) ⟨(.slice (some ⟨0, 0, none⟩) (ps.length) (ps.length) :: topV :: topV :: .int .i64 ((↑ps.length : Int)) :: .int .i64 ((↑i : Int)) :: topV :: topV :: topV :: topV :: topV :: topV :: topV :: topV :: topV :: topV :: topV :: topV :: topV :: topV :: topV :: topV :: topV :: topV :: topV :: topV :: topV :: topV :: topV :: topV :: topV :: topV :: topV :: topV :: topV :: topV :: topV :: topV :: topV :: topV :: topV :: topV :: topV :: topV :: topV :: topV :: topV :: topV :: topV :: topV :: topV :: topV :: topV :: topV :: topV :: topV :: []), [some ⟨.view, .ints (flat ps)⟩]⟩) := by kernel_rfl
set_option maxRecDepth 100000 in
theorem nl_ssI : loopsOf c_ssI = [] := by kernel_rfl
def inv_ssI (ps : List Pt) (i : Nat) : Nat → Prop := fun k => k ≤ i
def me_ssI (ps : List Pt) (i : Nat) : Nat → Nat := fun k => i - k
/-- A round of this loop. -/
def Round_ssI (ps : List Pt) (i : Nat) : Prop := ∀ xx : Nat, inv_ssI ps i xx → (bodyL Try.prog EIt 30 12 noL 2 c_ssI k_ssI 1 (s_ssI ps i xx)).ok (RoundEnd 1 (s_ssI ps i) (inv_ssI ps i) (me_ssI ps i) (re_ssI ps i) (rs_ssI ps i) xx) (fun _ _ => False)
def e_ssI (s : St) (k : Ex → St → Tree) : Option Tree := match Nat.beq s.tmps.length 55, pickL s.tmps [0, 3, 4, 5], s.mem with
  | true, [.slice (some ⟨0, 0, none⟩) n _, .int .i64 l, .int .i64 ii, .int .i64 kk], [some ⟨.view, .ints xs⟩] => some (needs [kk = 0, l = n, xs.length = n * 2, n ≤ 20, allV (ptsA n xs) = true, 0 ≤ ii, ii < n] (brT (allQ (okS (ptsA n xs) ii.toNat) 0 ii.toNat) (k (.exit 2) ⟨(.slice (some ⟨0, 0, none⟩) n n :: topV :: topV :: .int .i64 n :: .int .i64 ii :: topV :: topV :: topV :: topV :: topV :: topV :: topV :: topV :: topV :: topV :: topV :: topV :: topV :: topV :: topV :: topV :: topV :: topV :: topV :: topV :: topV :: topV :: topV :: topV :: topV :: topV :: topV :: topV :: topV :: topV :: topV :: topV :: topV :: topV :: topV :: topV :: topV :: topV :: topV :: topV :: topV :: topV :: topV :: topV :: topV :: topV :: topV :: topV :: topV :: topV :: []), [some ⟨.view, .ints xs⟩]⟩) (k .ret ⟨(topV :: topV :: .bool false :: topV :: topV :: topV :: topV :: topV :: topV :: topV :: topV :: topV :: topV :: topV :: topV :: topV :: topV :: topV :: topV :: topV :: topV :: topV :: topV :: topV :: topV :: topV :: topV :: topV :: topV :: topV :: topV :: topV :: topV :: topV :: topV :: topV :: topV :: topV :: topV :: topV :: topV :: topV :: topV :: topV :: topV :: topV :: topV :: topV :: topV :: topV :: topV :: topV :: topV :: topV :: topV :: []), [some ⟨.view, .ints xs⟩]⟩)))
  | _, _, _ => none
set_option maxRecDepth 100000 in
theorem round_ssI (ps : List Pt) (i : Nat) (h : ps.length ≤ 20) (hv : allV ps = true) (hi : i < ps.length) : Round_ssI ps i := by
  intro k h1
  have h1 : k ≤ i := h1
  rw [tr_ssI]
  simp only [Int.toNat_natCast, Nat.zero_add, flat_length, flat_get0, flat_get1]
  refine brT_ok.2 ⟨fun hlt => ?_, fun hge => ?_⟩
  · have hlt := of_decide_eq_true hlt
    have hk : k < ps.length := by omega
    have m1 := nx_lt hi
    have m2 := nx_lt hk
    have e2 : IntKind.i64.wrap ((k : Int) + 1) = ((k + 1 : Nat) : Int) := wsucc hk (by omega)
    have c1 : (IntKind.i64.wrap ((k : Int) + 1) == (i : Int)) = decide (k + 1 = i) := by rw [e2, Bool.eq_iff_iff]; simp; omega
    have c3 : ((((i + 1) % ps.length : Nat) : Int) == (k : Int)) = decide ((i + 1) % ps.length = k) := by
      generalize (i + 1) % ps.length = m
      rw [Bool.eq_iff_iff]
      simp
      omega
    simp only [nx_mod hi (by omega), nx_mod hk (by omega), c1, c3, Int.toNat_natCast, flat_get0, flat_get1]
    have hR : relA (ps.getD i (0, 0)).1 (ps.getD i (0, 0)).2 (ps.getD ((i + 1) % ps.length) (0, 0)).1 (ps.getD ((i + 1) % ps.length) (0, 0)).2 (ps.getD k (0, 0)).1 (ps.getD k (0, 0)).2 (ps.getD ((k + 1) % ps.length) (0, 0)).1 (ps.getD ((k + 1) % ps.length) (0, 0)).2 = edX ps i k := rfl
    simp only [hR, e2]
    refine ⟨by omega, by omega, by omega, by omega, by omega, by omega, by omega, by omega, by omega, by omega, pt_get hv hi, pt_get hv m1, pt_get hv hk, pt_get hv m2, ?_⟩
    have n0 : ¬ (ps.length : Int) = 0 := by omega
    have step : allQ (okS ps i) k (i - k) = (okS ps i k && allQ (okS ps i) (k + 1) (i - (k + 1))) := allQ_step (by omega)
    have nxt : okS ps i k = true → allQ (okS ps i) k (i - k) = allQ (okS ps i) (k + 1) (i - (k + 1)) := fun ho => by rw [step, ho, Bool.true_and]
    have stp : okS ps i k = false → allQ (okS ps i) k (i - k) = false := fun ho => by rw [step, ho, Bool.false_and]
    rcases q1 : decide (k + 1 = i) with _ | _ <;> rcases q3 : decide ((i + 1) % ps.length = k) with _ | _ <;> rcases q4 : (edX ps i k == 3) with _ | _ <;> rcases q5 : (edX ps i k == 0) with _ | _
    all_goals
      simp only [brT_t, brT_f, Bool.not_true, Bool.not_false, Tree.ok, RoundEnd]
      try refine ⟨n0, ?_⟩
      first
        | (have ho : okS ps i k = true := by unfold okS nbS; rw [q1, q3]; simp [q4, q5]
           have e := nxt ho
           refine ⟨k + 1, [], ?_, ?_, by simp only [re_ssI, e], by simp only [rs_ssI, e], ?_⟩
           · show k + 1 ≤ i; omega
           · show i - (k + 1) < i - k; omega
           · refine ⟨rfl, rfl, ?_, ?_⟩ <;> repeat' (first | exact True.intro | exact rfl | exact wv_top _ _ | exact fun _ => rfl | refine And.intro ?_ ?_))
        | (have ho : okS ps i k = false := by unfold okS nbS; rw [q1, q3]; simp [q4, q5]
           have e := stp ho
           refine ⟨by simp only [re_ssI, e, cond_false], [], ?_⟩
           simp only [rs_ssI, e, cond_false]
           refine ⟨rfl, rfl, ?_, ?_⟩ <;> repeat' (first | exact True.intro | exact rfl | exact wv_top _ _ | exact fun _ => rfl | refine And.intro ?_ ?_))
  · have hge := of_decide_eq_false hge
    obtain rfl : k = i := by omega
    have e : allQ (okS ps k) k (k - k) = true := allQ_end (by omega)
    refine ⟨by simp only [re_ssI, e, cond_true], [], ?_⟩
    simp only [rs_ssI, e, cond_true]
    refine ⟨rfl, rfl, ?_, ?_⟩ <;> repeat' (first | exact True.intro | exact rfl | exact wv_top _ _ | exact fun _ => rfl | refine And.intro ?_ ?_)
set_option maxRecDepth 100000 in
theorem lg_ssI : LoopE Try.prog e_ssI c_ssI := by
  intro s k t F H hlt ht
  unfold e_ssI at hlt
  split at hlt
  rotate_left
  · cases hlt
  rename_i hlen hpick hmem
  obtain ⟨tmps, mem⟩ := s
  simp only at hlen hpick hmem
  subst hmem
  obtain rfl := Option.some.inj hlt
  obtain ⟨⟨rfl, rfl, h1, h2, h3, h4, h5, _⟩, ht2⟩ := needs_ok ht
  clear ht hlt
  obtain ⟨ps, rfl, rfl⟩ := even_flat h1
  obtain ⟨i, rfl⟩ := Int.eq_ofNat_of_zero_le h4
  rw [ptsA_flat] at ht2 h3
  simp only [Int.toNat_natCast] at ht2
  refine ⟨_, _, pick2k ht2, loop_run mixed EIt_ok (s_ssI _ _) (inv_ssI _ _) (me_ssI _ _) (re_ssI _ _) (rs_ssI _ _) k_ssI (fun _ => rfl) (noLoops nl_ssI) (round_ssI _ _ h2 h3 (by omega)) (x := 0) (Nat.zero_le _) (π := []) rfl ?_⟩
  refine ⟨rfl, rfl, ?_, wvs_spread' [0, 3, 4, 5] hlen rfl ?_⟩
  · repeat' (first | exact True.intro | exact rfl | exact wv_top _ _ | exact fun _ => rfl | assumption | exact Eq.symm (by assumption) | exact vI0 rfl | refine And.intro ?_ ?_)
  · rw [hpick]
    repeat' (first | exact True.intro | exact rfl | exact wv_top _ _ | exact fun _ => rfl | assumption | exact Eq.symm (by assumption) | exact vI0 rfl | refine And.intro ?_ ?_)
def ltSs : LT := fun j s k => match j with
  | 1 => e_ssI s k
  | _ => none
noncomputable def c_ssO : Code := ((loopsOf (codeOf Try.f86))[0]?).getD .skip
def k_ssO : Ex → List Nat := keeps [0, 3, 4] [(0, [])] [2]
def s_ssO (ps : List Pt) : Nat → St := fun i => ⟨(.slice (some ⟨0, 0, none⟩) ps.length ps.length :: topV :: topV :: .int .i64 ps.length :: .int .i64 i :: topV :: topV :: topV :: topV :: topV :: topV :: topV :: topV :: topV :: topV :: topV :: topV :: topV :: topV :: topV :: topV :: topV :: topV :: topV :: topV :: topV :: topV :: topV :: topV :: topV :: topV :: topV :: topV :: topV :: topV :: topV :: topV :: topV :: topV :: topV :: topV :: topV :: topV :: topV :: topV :: topV :: topV :: topV :: topV :: topV :: topV :: topV :: topV :: topV :: topV :: []), [some ⟨.view, .ints (flat ps)⟩]⟩
def re_ssO (ps : List Pt) : Nat → Ex := fun i => bif allQ (rowS ps) i (ps.length - i) then .exit 0 else .ret
def rs_ssO (ps : List Pt) : Nat → St := fun i => bif allQ (rowS ps) i (ps.length - i) then ⟨(topV :: topV :: topV :: topV :: topV :: topV :: topV :: topV :: topV :: topV :: topV :: topV :: topV :: topV :: topV :: topV :: topV :: topV :: topV :: topV :: topV :: topV :: topV :: topV :: topV :: topV :: topV :: topV :: topV :: topV :: topV :: topV :: topV :: topV :: topV :: topV :: topV :: topV :: topV :: topV :: topV :: topV :: topV :: topV :: topV :: topV :: topV :: topV :: topV :: topV :: topV :: topV :: topV :: topV :: topV :: []), [some ⟨.view, .ints (flat ps)⟩]⟩ else ⟨(topV :: topV :: .bool false :: topV :: topV :: topV :: topV :: topV :: topV :: topV :: topV :: topV :: topV :: topV :: topV :: topV :: topV :: topV :: topV :: topV :: topV :: topV :: topV :: topV :: topV :: topV :: topV :: topV :: topV :: topV :: topV :: topV :: topV :: topV :: topV :: topV :: topV :: topV :: topV :: topV :: topV :: topV :: topV :: topV :: topV :: topV :: topV :: topV :: topV :: topV :: topV :: topV :: topV :: topV :: topV :: []), [some ⟨.view, .ints (flat ps)⟩]⟩
set_option maxRecDepth 100000 in
theorem tr_ssO (ps : List Pt) (i : Nat) : bodyL Try.prog EIt 30 12 ltSs 1 c_ssO k_ssO 1 (s_ssO ps i) = brT (decide ((↑i : Int) < (↑ps.length : Int))) (.need ((0 : Int) = (0 : Int)) (.need ((↑ps.length : Int) = (↑ps.length : Int)) (.need ((flat ps).length = ps.length * (2 : Nat)) (.need (ps.length ≤ (20 : Nat)) (.need (allV (ptsA ps.length (flat ps)) = true) (.need ((0 : Int) ≤ (↑i : Int)) (.need ((↑i : Int) < (↑ps.length : Int)) (brT (allQ (okS (ptsA ps.length (flat ps)) (↑i : Int).toNat) 0 (↑i : Int).toNat) (.leaf .normal ⟨(.slice (some ⟨0, 0, none⟩) (ps.length) (ps.length) :: topV :: topV :: .int .i64 ((↑ps.length : Int)) :: .int .i64 (IntKind.i64.wrap ((↑i : Int) + 1)) :: topV :: topV :: topV :: topV :: topV :: topV :: topV :: topV :: topV :: topV :: topV :: topV :: topV :: topV :: topV :: topV :: topV :: topV :: topV :: topV :: topV :: topV :: topV :: topV :: topV :: topV :: topV :: topV :: topV :: topV :: topV :: topV :: topV :: topV :: topV :: topV :: topV :: topV :: topV :: topV :: topV :: topV :: topV :: topV :: topV :: topV :: topV :: topV :: topV :: topV :: []), [some ⟨.view, .ints (flat ps)⟩]⟩) (.leaf .ret ⟨(topV :: topV :: .bool (false) :: topV :: topV :: topV :: topV :: topV :: topV :: topV :: topV :: topV :: topV :: topV :: topV :: topV :: topV :: topV :: topV :: topV :: topV :: topV :: topV :: topV :: topV :: topV :: topV :: topV :: topV :: topV :: topV :: topV :: topV :: topV :: topV :: topV :: topV :: topV :: topV :: topV :: topV :: topV :: topV :: topV :: topV :: topV :: topV :: topV :: topV :: topV :: topV :: topV :: topV :: topV :: topV :: []), [some ⟨.view, .ints (flat ps)⟩]⟩))))))))) (.leaf (.exit 0) ⟨(topV :: topV :: topV :: topV :: topV :: topV :: topV :: topV :: topV :: topV :: topV :: topV :: topV :: topV :: topV :: topV :: topV :: topV :: topV :: topV :: topV :: topV :: topV :: topV :: topV :: topV :: topV :: topV :: topV :: topV :: topV :: topV :: topV :: topV :: topV :: topV :: topV :: topV :: topV :: topV :: topV :: topV :: topV :: topV :: topV :: topV :: topV :: topV :: topV :: topV :: topV :: topV :: topV :: topV :: topV :: []), [some ⟨.view, .ints (flat ps)⟩]⟩) := by kernel_rfl
def inv_ssO (ps : List Pt) : Nat → Prop := fun i => i ≤ ps.length
def me_ssO (ps : List Pt) : Nat → Nat := fun i => ps.length - i
/-- A round of this loop. -/
def Round_ssO (ps : List Pt) : Prop := ∀ xx : Nat, inv_ssO ps xx → (bodyL Try.prog EIt 30 12 ltSs 1 c_ssO k_ssO 1 (s_ssO ps xx)).ok (RoundEnd 1 (s_ssO ps) (inv_ssO ps) (me_ssO ps) (re_ssO ps) (rs_ssO ps) xx) (fun _ _ => False)
def e_ssO (s : St) (k : Ex → St → Tree) : Option Tree := match Nat.beq s.tmps.length 55, pickL s.tmps [0, 3, 4], s.mem with
  | true, [.slice (some ⟨0, 0, none⟩) n _, .int .i64 l, .int .i64 ii], [some ⟨.view, .ints xs⟩] => some (needs [ii = 0, l = n, xs.length = n * 2, n ≤ 20, allV (ptsA n xs) = true] (brT (simS (ptsA n xs)) (k (.exit 0) ⟨(topV :: topV :: topV :: topV :: topV :: topV :: topV :: topV :: topV :: topV :: topV :: topV :: topV :: topV :: topV :: topV :: topV :: topV :: topV :: topV :: topV :: topV :: topV :: topV :: topV :: topV :: topV :: topV :: topV :: topV :: topV :: topV :: topV :: topV :: topV :: topV :: topV :: topV :: topV :: topV :: topV :: topV :: topV :: topV :: topV :: topV :: topV :: topV :: topV :: topV :: topV :: topV :: topV :: topV :: topV :: []), [some ⟨.view, .ints xs⟩]⟩) (k .ret ⟨(topV :: topV :: .bool false :: topV :: topV :: topV :: topV :: topV :: topV :: topV :: topV :: topV :: topV :: topV :: topV :: topV :: topV :: topV :: topV :: topV :: topV :: topV :: topV :: topV :: topV :: topV :: topV :: topV :: topV :: topV :: topV :: topV :: topV :: topV :: topV :: topV :: topV :: topV :: topV :: topV :: topV :: topV :: topV :: topV :: topV :: topV :: topV :: topV :: topV :: topV :: topV :: topV :: topV :: topV :: topV :: []), [some ⟨.view, .ints xs⟩]⟩)))
  | _, _, _ => none
set_option maxRecDepth 100000 in
theorem in_ssO : loopsOf c_ssO = [c_ssI] := by kernel_rfl
theorem ltSs_good : LoopsGood Try.prog ltSs 1 c_ssO := by
  intro i d hd s k t F H hlt ht
  rw [in_ssO] at hd
  cases i with
  | zero =>
    obtain rfl : c_ssI = d := by simpa using hd
    exact lg_ssI s k t F H hlt ht
  | succ i => simp at hd
set_option maxRecDepth 100000 in
theorem round_ssO (ps : List Pt) (h : ps.length ≤ 20) (hv : allV ps = true) : Round_ssO ps := by
  intro i h1
  have h1 : i ≤ ps.length := h1
  rw [tr_ssO]
  simp only [Int.toNat_natCast, Nat.zero_add, flat_length, flat_get0, flat_get1, ptsA_flat]
  refine brT_ok.2 ⟨fun hlt => ?_, fun hge => ?_⟩
  · have hlt := of_decide_eq_true hlt
    have hi : i < ps.length := by omega
    have step : allQ (rowS ps) i (ps.length - i) = (rowS ps i && allQ (rowS ps) (i + 1) (ps.length - (i + 1))) := allQ_step (by omega)
    refine ⟨by first | exact True.intro | rfl, by first | exact True.intro | rfl, by first | exact True.intro | rfl, h, hv, by omega, by omega, ?_⟩
    refine brT_ok.2 ⟨fun hq => ?_, fun hq => ?_⟩
    · have hq : rowS ps i = true := hq
      have e : allQ (rowS ps) i (ps.length - i) = allQ (rowS ps) (i + 1) (ps.length - (i + 1)) := by rw [step, hq, Bool.true_and]
      rw [wsucc (n := ps.length) hi (by omega)]
      refine ⟨i + 1, [], ?_, ?_, by simp only [re_ssO, e], by simp only [rs_ssO, e], ?_⟩
      · show i + 1 ≤ ps.length; omega
      · show ps.length - (i + 1) < ps.length - i; omega
      · refine ⟨rfl, rfl, ?_, ?_⟩ <;> repeat' (first | exact True.intro | exact rfl | exact wv_top _ _ | exact fun _ => rfl | refine And.intro ?_ ?_)
    · have hq : rowS ps i = false := hq
      have e : allQ (rowS ps) i (ps.length - i) = false := by rw [step, hq, Bool.false_and]
      refine ⟨by simp only [re_ssO, e, cond_false], [], ?_⟩
      simp only [rs_ssO, e, cond_false]
      refine ⟨rfl, rfl, ?_, ?_⟩ <;> repeat' (first | exact True.intro | exact rfl | exact wv_top _ _ | exact fun _ => rfl | refine And.intro ?_ ?_)
  · have hge := of_decide_eq_false hge
    obtain rfl : i = ps.length := by omega
    have e : allQ (rowS ps) ps.length (ps.length - ps.length) = true := allQ_end (by omega)
    refine ⟨by simp only [re_ssO, e, cond_true], [], ?_⟩
    simp only [rs_ssO, e, cond_true]
    refine ⟨rfl, rfl, ?_, ?_⟩ <;> repeat' (first | exact True.intro | exact rfl | exact wv_top _ _ | exact fun _ => rfl | refine And.intro ?_ ?_)
set_option maxRecDepth 100000 in
theorem lg_ssO : LoopE Try.prog e_ssO c_ssO := by
  intro s k t F H hlt ht
  unfold e_ssO at hlt
  split at hlt
  rotate_left
  · cases hlt
  rename_i hlen hpick hmem
  obtain ⟨tmps, mem⟩ := s
  simp only at hlen hpick hmem
  subst hmem
  obtain rfl := Option.some.inj hlt
  obtain ⟨⟨rfl, rfl, h1, h2, h3, _⟩, ht2⟩ := needs_ok ht
  clear ht hlt
  obtain ⟨ps, rfl, rfl⟩ := even_flat h1
  rw [ptsA_flat] at ht2 h3
  refine ⟨_, _, pick2k ht2, loop_run mixed EIt_ok (s_ssO _) (inv_ssO _) (me_ssO _) (re_ssO _) (rs_ssO _) k_ssO (fun _ => rfl) ltSs_good (round_ssO _ h2 h3) (x := 0) (Nat.zero_le _) (π := []) rfl ?_⟩
  refine ⟨rfl, rfl, ?_, wvs_spread' [0, 3, 4] hlen rfl ?_⟩
  · repeat' (first | exact True.intro | exact rfl | exact wv_top _ _ | exact fun _ => rfl | assumption | exact Eq.symm (by assumption) | exact vI0 rfl | refine And.intro ?_ ?_)
  · rw [hpick]
    repeat' (first | exact True.intro | exact rfl | exact wv_top _ _ | exact fun _ => rfl | assumption | exact Eq.symm (by assumption) | exact vI0 rfl | refine And.intro ?_ ?_)
theorem Lr_ssO {fn : Func} (hf : Try.prog.funcs[86]? = some fn) : LoopsGood Try.prog (lt1 e_ssO) 0 (codeOf fn) := by
  obtain rfl := fn_is Try.func86 hf
  exact lt1_good lg_ssO
/-- With a common end, two segments touch or overlap. -/
theorem relA_end {a b c d e f g h : Int} {z : Pt} (h1 : z = (a, b) ∨ z = (c, d)) (h2 : z = (e, f) ∨ z = (g, h)) : relA a b c d e f g h = 1 ∨ relA a b c d e f g h = 3 := by
  have hm : z ∈ ceS a b c d e f g h := by
    rw [ce_mem]
    refine ⟨?_, by rcases h1 with h1 | h1 <;> simp [h1]⟩
    unfold onB
    have k1 : hasB a b c d z.1 z.2 = true := by
      rcases h1 with rfl | rfl
      · exact hasB_a ..
      · exact hasB_b ..
    have k2 : hasB e f g h z.1 z.2 = true := by
      rcases h2 with rfl | rfl
      · exact hasB_a ..
      · exact hasB_b ..
    rw [k1, k2]
    rfl
  have hl : 0 < (ceS a b c d e f g h).length := List.length_pos_of_mem hm
  unfold relA relN
  split
  · exact .inr rfl
  · rw [if_pos (by omega)]
    exact .inl rfl
theorem edX_comm (ps : List Pt) (i k : Nat) : edX ps i k = edX ps k i := relA_comm ..
theorem edX_end {ps : List Pt} {i k : Nat} {z : Pt} (h1 : z = ps.getD i (0, 0) ∨ z = nxP ps i) (h2 : z = ps.getD k (0, 0) ∨ z = nxP ps k) : edX ps i k = 1 ∨ edX ps i k = 3 := relA_end h1 h2
/-- Is an edge a segment? -/
def sgQ (ps : List Pt) (i : Nat) : Bool := segB (ps.getD i (0, 0)).1 (ps.getD i (0, 0)).2 (nxP ps i).1 (nxP ps i).2
theorem edR_is (ps : List Pt) (i k : Nat) : edR ps i k = bif sgQ ps i && sgQ ps k then edX ps i k else -1 := rfl
theorem sgQ_iff {ps : List Pt} (h : allV ps = true) {i : Nat} (hi : i < ps.length) : sgQ ps i = true ↔ ps.getD i (0, 0) ≠ nxP ps i := by
  unfold sgQ segB
  have h1 := pt_get h hi
  have h2 : ptB (nxP ps i).1 (nxP ps i).2 = true := pt_get h (nx_lt hi)
  rw [h1, h2]
  simp only [eqB, Bool.true_and, Bool.not_eq_true', ne_eq]
  generalize ps.getD i (0, 0) = p
  generalize nxP ps i = q
  obtain ⟨a, b⟩ := p
  obtain ⟨c, d⟩ := q
  simp
theorem nx_of {ps : List Pt} {i k : Nat} (hk : k < ps.length) (h : nbS ps i k = true) (hi : i < ps.length) : (nxP ps k = ps.getD i (0, 0)) ∨ (nxP ps i = ps.getD k (0, 0)) := by
  unfold nbS at h
  simp only [Bool.or_eq_true, decide_eq_true_eq] at h
  unfold nxP
  rcases h with h | h
  · left
    rw [h, Nat.mod_eq_of_lt hi]
  · right
    rw [h]
theorem nb_end {ps : List Pt} {i k : Nat} (hi : i < ps.length) (hk : k < ps.length) (h : nbS ps i k = true) : edX ps i k = 1 ∨ edX ps i k = 3 := by
  rcases nx_of hk h hi with e | e
  · exact edX_end (z := ps.getD i (0, 0)) (.inl rfl) (.inr e.symm)
  · exact edX_end (z := ps.getD k (0, 0)) (.inr e.symm) (.inl rfl)
theorem nbQ_is (ps : List Pt) (i k : Nat) : nbQ ps i k = nbS ps k i := by
  unfold nbQ nbS
  congr 1
  exact decide_eq_decide.2 eq_comm
theorem nodup_get {ps : List Pt} : ps.Nodup ↔ ∀ i j, i < j → j < ps.length → ps.getD i (0, 0) ≠ ps.getD j (0, 0) := by
  unfold List.Nodup
  rw [List.pairwise_iff_getElem]
  constructor
  · intro h i j hij hj
    have := h i j (by omega) hj hij
    simpa [List.getD_eq_getElem?_getD, hj, show i < ps.length by omega] using this
  · intro h i j hi hj hij
    have := h i j hij hj
    simpa [List.getD_eq_getElem?_getD, hj, hi] using this
theorem next_ne {n i : Nat} (h : 3 ≤ n) (hi : i < n) : (i + 1) % n ≠ i := by
  rcases Nat.lt_or_ge (i + 1) n with h1 | h1
  · rw [Nat.mod_eq_of_lt h1]; omega
  · have : i + 1 = n := by omega
    rw [this, Nat.mod_self]
    omega
theorem sim_is {ps : List Pt} (hv : allV ps = true) (h3 : 3 ≤ ps.length) : simQ ps = (((srtL ps).length == ps.length) && simS ps) := by
  rw [Bool.eq_iff_iff]
  simp only [Bool.and_eq_true, beq_iff_eq, srtL_len]
  constructor
  · intro h
    have hE : ∀ i k, i < k → k < ps.length → edR ps i k = bif nbQ ps i k then 1 else 0 := fun i k h1 h2 => by
      have r := allQ_get _ _ h i (Nat.zero_le _) (by omega)
      have r2 := allQ_get _ _ r k (Nat.zero_le _) (by omega)
      unfold okE at r2
      rw [decide_eq_true h1] at r2
      simpa using r2
    have hne : ∀ i k, i < k → k < ps.length → sgQ ps i = true ∧ sgQ ps k = true := fun i k h1 h2 => by
      have := hE i k h1 h2
      rw [edR_is] at this
      rcases q : (sgQ ps i && sgQ ps k) with _ | _
      · rw [q] at this
        rcases q3 : nbQ ps i k with _ | _ <;> rw [q3] at this <;> simp at this
      · simpa using q
    have sg : ∀ i, i < ps.length → sgQ ps i = true := fun i hi => by
      rcases Nat.eq_zero_or_pos i with rfl | h0
      · exact (hne 0 1 (by omega) (by omega)).1
      · exact (hne 0 i h0 hi).2
    have hX : ∀ i k, i < k → k < ps.length → edX ps i k = bif nbQ ps i k then 1 else 0 := fun i k h1 h2 => by
      have := hE i k h1 h2
      rw [edR_is, sg i (by omega), sg k h2] at this
      exact this
    constructor
    · rw [nodup_get]
      intro i j hij hj e
      have hi : i < ps.length := by omega
      rcases q : nbQ ps i j with _ | _
      · have := hX i j hij hj
        rw [q] at this
        have k := edX_end (ps := ps) (i := i) (k := j) (z := ps.getD i (0, 0)) (.inl rfl) (.inl e)
        simp at this
        omega
      · rw [nbQ_is] at q
        rcases nx_of hi q hj with e2 | e2
        · exact (sgQ_iff hv hi).1 (sg i hi) (e.trans e2.symm)
        · exact (sgQ_iff hv hj).1 (sg j hj) (e.symm.trans e2.symm)
    · refine allQ_all _ _ fun i _ hi => allQ_all _ _ fun k _ hk => ?_
      have hi : i < ps.length := by omega
      have hk : k < i := by omega
      have := hX k i hk hi
      rw [nbQ_is, edX_comm] at this
      unfold okS
      rw [this]
      cases nbS ps i k <;> rfl
  · rintro ⟨hn, h⟩
    rw [nodup_get] at hn
    have sg : ∀ i, i < ps.length → sgQ ps i = true := fun i hi => by
      rw [sgQ_iff hv hi]
      have h1 := next_ne h3 hi
      have h2 := nx_lt hi
      unfold nxP
      rcases Nat.lt_or_ge i ((i + 1) % ps.length) with h4 | h4
      · exact hn _ _ h4 h2
      · exact fun e => hn _ _ (by omega) hi e.symm
    refine allQ_all _ _ fun i _ hi => allQ_all _ _ fun k _ hk => ?_
    unfold okE
    rcases q : decide (i < k) with _ | _
    · rfl
    have q := of_decide_eq_true q
    have hi : i < ps.length := by omega
    have hk : k < ps.length := by omega
    have r := allQ_get _ _ h k (Nat.zero_le _) (by omega)
    have r2 := allQ_get _ _ r i (Nat.zero_le _) (by omega)
    rw [edR_is, sg i hi, sg k hk, nbQ_is, edX_comm]
    unfold okS at r2
    rcases q2 : nbS ps k i with _ | _
    · rw [q2] at r2
      simpa using r2
    · rw [q2] at r2
      have k2 := nb_end hk hi q2
      simp at r2
      have e : edX ps k i = 1 := by omega
      simp [e]
/-- Is a polygon simple, as the model finds it? -/
def issS (ps : List Pt) : Bool := rngQ ps && simS ps
theorem iss_same (ps : List Pt) : issI ps = issS ps := by
  unfold issI issS rngQ
  rcases ho : okL ps with _ | _
  · simp
  by_cases h3 : 3 ≤ ps.length
  · have hv : allV ps = true := by
      unfold okL at ho
      simp only [Bool.and_eq_true] at ho
      exact ho.1
    rw [sim_is hv h3]
    simp [h3]
  · simp [h3]
def LSs : FuncId → LT := fun f => match f with
  | 86 => lt1 e_ssO
  | _ => noL
def ESs : Env := mkE TIt RCe LSs
theorem ESs_ok : EnvOk Try.prog ESs := mkEOk TIt_ok RCe_ok (by
  intro f fn hf
  unfold LSs
  split
  all_goals first | with_reducible exact Lr_ssO hf | exact noL_good)
set_option maxRecDepth 100000 in
theorem tr_sSim (ps : List Pt) : bodyV Try.prog ESs 30 12 86 [.row ps.length (.ints (flat ps))] = .need (ps.length * (2 : Nat) ≤ (List.drop (0 : Nat) (flat ps)).length) (.need (ps.length ≤ (1000000000 : Nat)) (brT (!rngQ (ptsA ps.length (List.drop 0 (flat ps)))) (.fin (.bool (false)) []) (.need ((0 : Int) = (0 : Int)) (.need ((↑ps.length : Int) = (↑ps.length : Int)) (.need ((flat ps).length = ps.length * (2 : Nat)) (.need (ps.length ≤ (20 : Nat)) (.need (allV (ptsA ps.length (flat ps)) = true) (brT (simS (ptsA ps.length (flat ps))) (.fin (.bool (true)) []) (.fin (.bool (false)) []))))))))) := by kernel_rfl
theorem res_sSim (ps : List Pt) (h : Big ps) : Res Try.prog 86 [.row ps.length (.ints (flat ps))] (.bool (issI ps)) := by
  rw [iss_same]
  refine bodyV_res mixed ESs_ok (m := 30) (n := 12) rfl ?_
  rw [tr_sSim]
  unfold Big at h
  simp only [List.drop_zero, ptsA_flat, flat_length]
  unfold issS
  rcases hr : rngQ ps with _ | _
  · simp [brT_ok, Tree.ok, h]
  · have hl : ps.length ≤ 20 ∧ allV ps = true := by
      unfold rngQ okL at hr
      simp only [Bool.and_eq_true, decide_eq_true_eq] at hr
      exact ⟨hr.1.1.2, hr.1.1.1⟩
    rcases hs : simS ps with _ | _ <;> simp [brT_ok, Tree.ok, h, hl.1, hl.2]
def pIss : List DArg → Option (Value × List Prop)
  | [.row m (.ints xs)] => some (.bool (issI (ptsA m xs)), [m * 2 ≤ xs.length, m ≤ 1000000000])
  | _ => none
theorem pIss_i {ds : List DArg} {v : Value} {C : List Prop} (h : pIss ds = some (v, C)) (hC : AllP C) : Res Try.prog 39 ds v := by
  unfold pIss at h
  split at h
  · rename_i m xs
    obtain ⟨rfl, rfl⟩ : _ ∧ _ := by simpa using h
    obtain ⟨_, h2⟩ := ptsA_spec hC.1
    exact res_pts1 (pre := []) (post := []) hC.1 (res_iIss (ptsA m xs) (by unfold Big; rw [h2]; exact hC.2.1))
  · cases h
theorem pIss_s {ds : List DArg} {v : Value} {C : List Prop} (h : pIss ds = some (v, C)) (hC : AllP C) : Res Try.prog 86 ds v := by
  unfold pIss at h
  split at h
  · rename_i m xs
    obtain ⟨rfl, rfl⟩ : _ ∧ _ := by simpa using h
    obtain ⟨_, h2⟩ := ptsA_spec hC.1
    exact res_pts1 (pre := []) (post := []) hC.1 (res_sSim (ptsA m xs) (by unfold Big; rw [h2]; exact hC.2.1))
  · cases h
def TSm : Tab := fun f ds => match f with
  | 39 => pIss ds
  | 86 => pIss ds
  | f => TIt f ds
theorem TSm_ok : TabOk Try.prog TSm := by
  intro f ds v C h hC
  unfold TSm at h
  (try split at h)
  all_goals first | with_reducible exact pIss_i h hC | with_reducible exact pIss_s h hC | exact TIt_ok _ _ _ _ h hC
end Go.Proofs.Ytpjdnplpiamjcaa
namespace Go.Proofs.Ytpjdnplpiamjcaa
set_option linter.all false
open Go.RowKit
/-- Has an edge a point? -/
def hsE (ps : List Pt) (x y : Int) (j : Nat) : Bool := hasB (ps.getD j (0, 0)).1 (ps.getD j (0, 0)).2 (nxP ps j).1 (nxP ps j).2 x y
/-- Is an edge right of a point? -/
def rtE (ps : List Pt) (x y : Int) (j : Nat) : Bool :=
  !((decide (y < (ps.getD j (0, 0)).2)) == (decide (y < (nxP ps j).2))) && ((decide (y < (nxP ps j).2)) == decide (0 < crossI (ps.getD j (0, 0)).1 (ps.getD j (0, 0)).2 (nxP ps j).1 (nxP ps j).2 x y))
/-- The side after so many edges. -/
def plA (ps : List Pt) (x y : Int) : Nat → Int
  | 0 => -1
  | i + 1 => bif rtE ps x y i then 0 - plA ps x y i else plA ps x y i
theorem plA_one (ps : List Pt) (x y : Int) : ∀ i, plA ps x y i = -1 ∨ plA ps x y i = 1
  | 0 => .inl rfl
  | i + 1 => by
    have := plA_one ps x y i
    simp only [plA]
    cases rtE ps x y i <;> simp <;> omega
def noE (ps : List Pt) (x y : Int) : Bool := allQ (fun j => !(hsE ps x y j)) 0 ps.length
def locA (ps : List Pt) (x y : Int) : Int := bif noE ps x y then plA ps x y ps.length else 0
def ELo : Env := mkE TSm R4 (fun _ => noL)
theorem ELo_ok : EnvOk Try.prog ELo := mkEOk TSm_ok R4_ok (fun _ _ _ => noL_good)
noncomputable def gc_loc : Code := (rangesOf (codeOf Try.f91)).getD 0 .skip
def k_loc : Ex → List Nat := keeps [3, 4, 5, 9] [] [4]
def s_loc (ps : List Pt) (x y : Int) : Nat → St := fun i => ⟨[topV, topV, topV, .pointer (some ⟨2, 0, none⟩), .pointer (some ⟨3, 0, none⟩), .pointer (some ⟨4, 0, none⟩), topV, topV, topV, .func (.func 139) #[] #[.pointer (some ⟨5, 0, none⟩)], topV, topV, topV, topV, topV, topV, topV, topV, topV, topV, topV], [some ⟨.view, .ints (flat ps)⟩, none, some ⟨.box, .vals [.int .i64 x, .int .i64 y]⟩, some ⟨.box, .vals [.int .i64 0]⟩, some ⟨.box, .vals [.int .i64 (plA ps x y i)]⟩, some ⟨.view, .vals [.slice (some ⟨0, 0, none⟩) ps.length ps.length]⟩]⟩
def g_loc (ps : List Pt) (x y : Int) : Nat → Prop := fun i => i ≤ ps.length ∧ ∀ k, k < i → hsE ps x y k = false
def re_loc (ps : List Pt) (x y : Int) : Ex := bif noE ps x y then .normal else .ret
def rs_loc (ps : List Pt) (x y : Int) : St := bif noE ps x y then ⟨[topV, topV, topV, .pointer (some ⟨2, 0, none⟩), .pointer (some ⟨3, 0, none⟩), .pointer (some ⟨4, 0, none⟩), topV, topV, topV, topV, topV, topV, topV, topV, topV, topV, topV, topV, topV, topV, topV], [some ⟨.view, .ints (flat ps)⟩, none, some ⟨.box, .vals [.int .i64 x, .int .i64 y]⟩, some ⟨.box, .vals [.int .i64 0]⟩, some ⟨.box, .vals [.int .i64 (plA ps x y ps.length)]⟩, some ⟨.view, .vals [.slice (some ⟨0, 0, none⟩) ps.length ps.length]⟩]⟩ else ⟨[topV, topV, topV, topV, .pointer (some ⟨3, 0, none⟩), topV, topV, topV, topV, topV, topV, topV, topV, topV, topV, topV, topV, topV, topV, topV, topV], [some ⟨.view, .ints (flat ps)⟩, none, some ⟨.box, .vals [.int .i64 x, .int .i64 y]⟩, some ⟨.box, .vals [.int .i64 0]⟩, some ⟨.dead, .vals []⟩, some ⟨.view, .vals [.slice (some ⟨0, 0, none⟩) ps.length ps.length]⟩]⟩
set_option maxRecDepth 100000 in
theorem tr_loc (ps : List Pt) (x y : Int) (i : Nat) : bodyR Try.prog ELo 30 12 noL noR (asgOf gc_loc) (bodOf gc_loc) ([10, 11].zip (encE ps i)) k_loc 6 (s_loc ps x y i) = .need (ptB (ps.getD i ((0 : Int), (0 : Int))).1 (ps.getD i ((0 : Int), (0 : Int))).2 = true) (.need (ptB (ps.getD ((i + (1 : Nat)) % ps.length) ((0 : Int), (0 : Int))).1 (ps.getD ((i + (1 : Nat)) % ps.length) ((0 : Int), (0 : Int))).2 = true) (.need (ptB x y = true) (brT (hasB (ps.getD i (0, 0)).1 (ps.getD i (0, 0)).2 (ps.getD ((i + 1) % ps.length) (0, 0)).1 (ps.getD ((i + 1) % ps.length) (0, 0)).2 x y) (.leaf .ret ⟨[topV, topV, topV, topV, .pointer (some ⟨3, 0, none⟩), topV, topV, topV, topV, topV, topV, topV, topV, topV, topV, topV, topV, topV, topV, topV, topV], [some ⟨.view, .ints (flat ps)⟩, none, some ⟨.box, .vals [.int .i64 (x), .int .i64 (y)]⟩, some ⟨.box, .vals [.int .i64 (0)]⟩, some ⟨.box, .vals [.int .i64 (plA ps x y i)]⟩, some ⟨.view, .vals [.slice (some ⟨0, 0, none⟩) (ps.length) (ps.length)]⟩]⟩) (brT (!decide (y < (ps.getD i (0, 0)).2) == decide (y < (ps.getD ((i + 1) % ps.length) (0, 0)).2)) (.need (ptB (ps.getD i ((0 : Int), (0 : Int))).1 (ps.getD i ((0 : Int), (0 : Int))).2 = true) (.need (ptB (ps.getD ((i + (1 : Nat)) % ps.length) ((0 : Int), (0 : Int))).1 (ps.getD ((i + (1 : Nat)) % ps.length) ((0 : Int), (0 : Int))).2 = true) (.need (ptB x y = true) (brT (decide (y < (ps.getD ((i + 1) % ps.length) (0, 0)).2) == decide (0 < crossI (ps.getD i (0, 0)).1 (ps.getD i (0, 0)).2 (ps.getD ((i + 1) % ps.length) (0, 0)).1 (ps.getD ((i + 1) % ps.length) (0, 0)).2 x y)) (.leaf .normal ⟨[topV, topV, topV, .pointer (some ⟨2, 0, none⟩), .pointer (some ⟨3, 0, none⟩), .pointer (some ⟨4, 0, none⟩), topV, topV, topV, .func (Fn.func 139) #[] #[.pointer (some ⟨5, 0, none⟩)], topV, topV, topV, topV, topV, topV, topV, topV, topV, topV, topV], [some ⟨.view, .ints (flat ps)⟩, none, some ⟨.box, .vals [.int .i64 (x), .int .i64 (y)]⟩, some ⟨.box, .vals [.int .i64 (0)]⟩, some ⟨.box, .vals [.int .i64 (IntKind.i64.wrap (0 - plA ps x y i))]⟩, some ⟨.view, .vals [.slice (some ⟨0, 0, none⟩) (ps.length) (ps.length)]⟩]⟩) (.leaf .normal ⟨[topV, topV, topV, .pointer (some ⟨2, 0, none⟩), .pointer (some ⟨3, 0, none⟩), .pointer (some ⟨4, 0, none⟩), topV, topV, topV, .func (Fn.func 139) #[] #[.pointer (some ⟨5, 0, none⟩)], topV, topV, topV, topV, topV, topV, topV, topV, topV, topV, topV], [some ⟨.view, .ints (flat ps)⟩, none, some ⟨.box, .vals [.int .i64 (x), .int .i64 (y)]⟩, some ⟨.box, .vals [.int .i64 (0)]⟩, some ⟨.box, .vals [.int .i64 (plA ps x y i)]⟩, some ⟨.view, .vals [.slice (some ⟨0, 0, none⟩) (ps.length) (ps.length)]⟩]⟩))))) (.leaf .normal ⟨[topV, topV, topV, .pointer (some ⟨2, 0, none⟩), .pointer (some ⟨3, 0, none⟩), .pointer (some ⟨4, 0, none⟩), topV, topV, topV, .func (Fn.func 139) #[] #[.pointer (some ⟨5, 0, none⟩)], topV, topV, topV, topV, topV, topV, topV, topV, topV, topV, topV], [some ⟨.view, .ints (flat ps)⟩, none, some ⟨.box, .vals [.int .i64 (x), .int .i64 (y)]⟩, some ⟨.box, .vals [.int .i64 (0)]⟩, some ⟨.box, .vals [.int .i64 (plA ps x y i)]⟩, some ⟨.view, .vals [.slice (some ⟨0, 0, none⟩) (ps.length) (ps.length)]⟩]⟩))))) := by kernel_rfl
/-- A round of this loop. -/
def Round_loc (ps : List Pt) (x y : Int) : Prop := ∀ i : Nat, g_loc ps x y i → i < (ps).length → (bodyR Try.prog ELo 30 12 noL noR (asgOf gc_loc) (bodOf gc_loc) ([10, 11].zip (encE ps i)) k_loc 6 (s_loc ps x y i)).ok (RoundEndR 6 (s_loc ps x y) (g_loc ps x y) (re_loc ps x y) (rs_loc ps x y) i) (fun _ _ => False)
set_option maxRecDepth 100000 in
theorem gcode_loc : gc_loc = .rangeFunc (.tmp 9) ([10, 11] : List Nat).toArray (asgOf gc_loc) (bodOf gc_loc) := by kernel_rfl
def e_loc (s : St) (k : Ex → St → Tree) : Option Tree := match Nat.beq s.tmps.length 21, pickL s.tmps [3, 4, 5, 9], s.mem with
  | true, [.pointer (some ⟨2, 0, none⟩), .pointer (some ⟨3, 0, none⟩), .pointer (some ⟨4, 0, none⟩), .func (.func 139) ⟨[]⟩ ⟨[.pointer (some ⟨5, 0, none⟩)]⟩], [some ⟨.view, .ints xs⟩, none, some ⟨.box, .vals [.int .i64 x, .int .i64 y]⟩, some ⟨.box, .vals [.int .i64 0]⟩, some ⟨.box, .vals [.int .i64 p0]⟩, some ⟨.box, .vals [.slice (some ⟨0, 0, none⟩) n _]⟩] => some (needs [p0 = -1, xs.length = n * 2, allV (ptsA n xs) = true, n ≤ 20, ptB x y = true] (brT (noE (ptsA n xs) x y) (k .normal ⟨[topV, topV, topV, .pointer (some ⟨2, 0, none⟩), .pointer (some ⟨3, 0, none⟩), .pointer (some ⟨4, 0, none⟩), topV, topV, topV, topV, topV, topV, topV, topV, topV, topV, topV, topV, topV, topV, topV], [some ⟨.view, .ints xs⟩, none, some ⟨.box, .vals [.int .i64 x, .int .i64 y]⟩, some ⟨.box, .vals [.int .i64 0]⟩, some ⟨.box, .vals [.int .i64 (plA (ptsA n xs) x y n)]⟩, some ⟨.view, .vals [.slice (some ⟨0, 0, none⟩) n n]⟩]⟩) (k .ret ⟨[topV, topV, topV, topV, .pointer (some ⟨3, 0, none⟩), topV, topV, topV, topV, topV, topV, topV, topV, topV, topV, topV, topV, topV, topV, topV, topV], [some ⟨.view, .ints xs⟩, none, some ⟨.box, .vals [.int .i64 x, .int .i64 y]⟩, some ⟨.box, .vals [.int .i64 0]⟩, some ⟨.dead, .vals []⟩, some ⟨.view, .vals [.slice (some ⟨0, 0, none⟩) n n]⟩]⟩)))
  | _, _, _ => none
theorem loc_all {ps : List Pt} {x y : Int} (h : g_loc ps x y ps.length) : noE ps x y = true := allQ_all _ _ fun k _ h2 => by rw [h.2 k (by omega)]; rfl
set_option maxRecDepth 100000 in
theorem round_loc (ps : List Pt) (x y : Int) (hv : allV ps = true) (h : ps.length ≤ 20) (hp : ptB x y = true) : Round_loc ps x y := by
  rintro i ⟨_, hg⟩ hi
  rw [tr_loc]
  have nxt : hsE ps x y i = false → g_loc ps x y (i + 1) := fun ho => ⟨by omega, fun k hk => by
    rcases Nat.lt_or_ge k i with h1 | h1
    · exact hg k h1
    · obtain rfl : k = i := by omega
      exact ho⟩
  have hm := nx_lt hi
  have w : IntKind.i64.wrap (0 - plA ps x y i) = 0 - plA ps x y i := wr (by have := plA_one ps x y i; omega)
  rw [w]
  refine ⟨pt_get hv hi, pt_get hv hm, hp, brT_ok.2 ⟨fun q => ?_, fun q => ?_⟩⟩
  · have q : hsE ps x y i = true := q
    have hs : noE ps x y = false := allQ_no hi (by show (!(hsE ps x y i)) = false; rw [q]; rfl)
    refine ⟨by unfold re_loc; rw [hs]; rfl, [], ?_⟩
    unfold rs_loc
    rw [hs]
    refine ⟨rfl, rfl, ?_, ?_⟩ <;> repeat' (first | exact True.intro | exact rfl | exact wv_top _ _ | exact fun _ => rfl | refine And.intro ?_ ?_)
  · have q : hsE ps x y i = false := q
    have yes : rtE ps x y i = true → plA ps x y (i + 1) = 0 - plA ps x y i := fun hr => by simp only [plA]; rw [hr]; rfl
    have no : rtE ps x y i = false → plA ps x y (i + 1) = plA ps x y i := fun hr => by simp only [plA]; rw [hr]; rfl
    refine brT_ok.2 ⟨fun q2 => ⟨pt_get hv hi, pt_get hv hm, hp, brT_ok.2 ⟨fun q3 => ?_, fun q3 => ?_⟩⟩, fun q2 => ?_⟩
    · have e := yes (by unfold rtE nxP; rw [q2, q3]; rfl)
      refine ⟨nxt q, [], ?_⟩
      unfold s_loc
      simp only [e]
      refine ⟨rfl, rfl, ?_, ?_⟩ <;> repeat' (first | exact True.intro | exact rfl | exact wv_top _ _ | exact fun _ => rfl | refine And.intro ?_ ?_)
    · have e := no (by unfold rtE nxP; rw [q2, q3]; rfl)
      refine ⟨nxt q, [], ?_⟩
      unfold s_loc
      simp only [e]
      refine ⟨rfl, rfl, ?_, ?_⟩ <;> repeat' (first | exact True.intro | exact rfl | exact wv_top _ _ | exact fun _ => rfl | refine And.intro ?_ ?_)
    · have e := no (by unfold rtE nxP; rw [q2]; rfl)
      refine ⟨nxt q, [], ?_⟩
      unfold s_loc
      simp only [e]
      refine ⟨rfl, rfl, ?_, ?_⟩ <;> repeat' (first | exact True.intro | exact rfl | exact wv_top _ _ | exact fun _ => rfl | refine And.intro ?_ ?_)
set_option maxRecDepth 100000 in
theorem lg_loc : RangeE Try.prog e_loc gc_loc := by
  intro s k t F H hlt ht
  unfold e_loc at hlt
  split at hlt
  rotate_left
  · cases hlt
  rename_i hlen hpick hmem
  obtain ⟨tmps, mem⟩ := s
  simp only at hlen hpick hmem
  subst hmem
  obtain rfl := Option.some.inj hlt
  obtain ⟨⟨rfl, h1, h2, h3, h4, _⟩, ht2⟩ := needs_ok ht
  clear ht hlt
  obtain ⟨ps, rfl, rfl⟩ := even_flat h1
  rw [ptsA_flat] at ht2 h2
  refine ⟨re_loc ps _ _, rs_loc ps _ _, pick2k ht2, ?_⟩
  rw [gcode_loc]
  refine range_det (enc := encE ps) (len := (ps).length) (St_of := s_loc ps _ _) (Good := g_loc ps _ _) (N := 6) (M := 6) (Kn := [0, 5]) (cap := [.pointer (some ⟨5, 0, none⟩)]) (kf := (k_loc .normal)) (π := []) (fun _ => rfl) (fun _ => rfl) (fun i hg hlt => bodyR_ok mixed ELo_ok (noL_good) (noR_good) (round_loc ps _ _ h2 h3 h4 i hg hlt)) (entersB_res (by kernel_rfl)).1 rfl ?_ (fun ρ0 ρ B w lb h1 h2 => ed_iter ps (by omega) (s := (s_loc ps _ _ 0).fs) (nb := 5) (nr := 0) (c := (ps).length) (Kn := [0, 5]) rfl rfl (by decide) (by decide) ρ0 ρ B w lb h1 h2) ?_ rfl (by decide) ?_ ⟨Nat.zero_le _, fun k hk => by omega⟩
  · intro n hn b hb
    simp only [List.mem_cons, List.not_mem_nil, or_false] at hn
    rcases hn with rfl | rfl <;> (obtain rfl := Option.some.inj hb; rfl)
  · intro hg
    have hq := loc_all hg
    refine ⟨by unfold re_loc; rw [hq]; rfl, [], ?_⟩
    unfold rs_loc
    rw [hq]
    refine ⟨rfl, rfl, ?_, ?_⟩ <;> repeat' (first | exact True.intro | exact rfl | exact wv_top _ _ | exact fun _ => rfl | refine And.intro ?_ ?_)
  · refine ⟨rfl, rfl, ?_, wvs_spread' [3, 4, 5, 9] hlen rfl ?_⟩
    · repeat' (first | exact True.intro | exact rfl | exact wv_top _ _ | exact fun _ => rfl | assumption | exact Eq.symm (by assumption) | exact vI0 rfl | refine And.intro ?_ ?_)
    · rw [show pickL (viewS [0, 5] ⟨tmps, _⟩).tmps [3, 4, 5, 9] = pickL tmps [3, 4, 5, 9] from rfl, hpick]
      repeat' (first | exact True.intro | exact rfl | exact wv_top _ _ | exact fun _ => rfl | assumption | exact Eq.symm (by assumption) | exact vI0 rfl | refine And.intro ?_ ?_)
theorem Gr_loc {fn : Func} (hf : Try.prog.funcs[91]? = some fn) : RangesGood Try.prog (rt1 9 e_loc) (codeOf fn) := by
  obtain rfl := fn_is Try.func91 hf
  exact rt1_good (by kernel_rfl) lg_loc
def GLo : FuncId → RT := fun f => match f with
  | 91 => rt1 9 e_loc
  | _ => noR
def ELg : Env := withG ELo GLo
theorem ELg_ok : EnvOk Try.prog ELg := withG_ok ELo_ok (by
  intro f fn hf
  unfold GLo
  split
  all_goals first | with_reducible exact Gr_loc hf | exact noR_good)
set_option maxRecDepth 100000 in
theorem tr_iLoc (ps : List Pt) (x y : Int) : bodyV Try.prog ELg 30 12 91 [.row ps.length (.ints (flat ps)), .v (.agg #[iv x, iv y])] = .need ((-1 : Int) = (-1 : Int)) (.need ((flat ps).length = ps.length * (2 : Nat)) (.need (allV (ptsA ps.length (flat ps)) = true) (.need (ps.length ≤ (20 : Nat)) (.need (ptB x y = true) (brT (noE (ptsA ps.length (flat ps)) x y) (.fin (.int .i64 (plA (ptsA ps.length (flat ps)) x y ps.length)) []) (.fin (.int .i64 (0)) [])))))) := by kernel_rfl
theorem res_iLoc {ps : List Pt} {x y : Int} (hv : allV ps = true) (h : ps.length ≤ 20) (hp : ptB x y = true) : Res Try.prog 91 [.row ps.length (.ints (flat ps)), .v (.agg #[iv x, iv y])] (iv (locA ps x y)) := by
  refine bodyV_res mixed ELg_ok (m := 30) (n := 12) rfl ?_
  rw [tr_iLoc]
  simp only [ptsA_flat]
  unfold locA
  rcases hn : noE ps x y with _ | _
  all_goals exact ⟨trivial, flat_length ps, hv, h, hp, rfl⟩
/-- Is an edge right of a point, as the model tests it? -/
def rtS (ps : List Pt) (x y : Int) (j : Nat) : Bool :=
  bif decide ((nxP ps j).2 < (ps.getD j (0, 0)).2) then decide ((nxP ps j).2 ≤ y) && decide (y < (ps.getD j (0, 0)).2) && decide (0 < crossI (nxP ps j).1 (nxP ps j).2 (ps.getD j (0, 0)).1 (ps.getD j (0, 0)).2 x y)
  else decide ((ps.getD j (0, 0)).2 ≤ y) && decide (y < (nxP ps j).2) && decide (0 < crossI (ps.getD j (0, 0)).1 (ps.getD j (0, 0)).2 (nxP ps j).1 (nxP ps j).2 x y)
def insA (ps : List Pt) (x y : Int) : Nat → Bool
  | 0 => false
  | i + 1 => bif rtS ps x y i then !(insA ps x y i) else insA ps x y i
/-- On the line of a segment and between its ends in height: on the segment. -/
theorem has_of {a b c d x y : Int} (h0 : crossI a b c d x y = 0) (h1 : d ≤ y) (h2 : y < b) : hasB a b c d x y = true := by
  unfold hasB
  have e : (a - x) * (d - y) - (b - y) * (c - x) = crossI a b c d x y := by unfold crossI; grind
  rw [e, h0]
  simp only [Bool.and_eq_true, beq_self_eq_true, decide_eq_true_eq, true_and]
  have hu : 0 < b - y := by omega
  have hw : d - y ≤ 0 := by omega
  generalize b - y = u at *
  generalize d - y = w at *
  have e2 : (a - x) * w = u * (c - x) := by rw [h0] at e; omega
  generalize a - x = s at *
  generalize c - x = t at *
  have p1 : u * w ≤ 0 := Int.mul_nonpos_of_nonneg_of_nonpos (by omega) hw
  have p2 : s * t ≤ 0 := by
    have k1 : u * (s * t) = (s * s) * w := by
      have : u * (s * t) = s * (u * t) := by grind
      rw [this, ← e2]
      grind
    have k2 : (s * s) * w ≤ 0 := Int.mul_nonpos_of_nonneg_of_nonpos (by rcases Int.le_total 0 s with h | h; exact Int.mul_nonneg h h; exact Int.mul_nonneg_of_nonpos_of_nonpos h h) hw
    by_cases h : 0 < s * t
    · have := Int.mul_pos hu h
      omega
    · omega
  omega
theorem rt_same {ps : List Pt} {x y : Int} {j : Nat} (h : hsE ps x y j = false) : rtS ps x y j = rtE ps x y j := by
  unfold rtS rtE
  unfold hsE at h
  generalize nxP ps j = n at *
  generalize ps.getD j (0, 0) = p at *
  obtain ⟨a, b⟩ := p
  obtain ⟨c, d⟩ := n
  simp only at *
  have hc : crossI c d a b x y = -(crossI a b c d x y) := by unfold crossI; grind
  rw [hc]
  have h0 : d ≤ y → y < b → crossI a b c d x y ≠ 0 := fun h1 h2 e => by
    rw [has_of e h1 h2] at h
    cases h
  generalize crossI a b c d x y = z at *
  rcases q1 : decide (d < b) with _ | _
  all_goals
    rw [Bool.eq_iff_iff]
    simp only [cond_true, cond_false, Bool.and_eq_true, decide_eq_true_eq, Bool.not_eq_true', beq_eq_false_iff_ne, ne_eq, beq_iff_eq, decide_eq_decide, decide_eq_true_eq, decide_eq_false_iff_not] at q1 ⊢
    by_cases k1 : d ≤ y <;> by_cases k2 : y < b
    all_goals
      try have := h0 k1 k2
      omega
theorem ins_is {ps : List Pt} {x y : Int} (h : noE ps x y = true) : ∀ i, i ≤ ps.length → plA ps x y i = if insA ps x y i = true then 1 else -1
  | 0, _ => rfl
  | i + 1, hi => by
    have ih := ins_is h i (by omega)
    have hn : hsE ps x y i = false := by
      have := allQ_get _ _ h i (Nat.zero_le _) (by omega)
      simpa using this
    simp only [plA, insA, rt_same hn]
    cases rtE ps x y i
    · simpa using ih
    · simp only [cond_true]
      rw [ih]
      cases insA ps x y i <;> rfl
noncomputable def c_slo : Code := ((loopsOf (codeOf Try.f87))[0]?).getD .skip
def k_slo : Ex → List Nat := keeps [0, 3, 5, 6] [(0, [5])] [4]
def s_slo (ps : List Pt) (x y : Int) : Nat → St := fun i => ⟨(.slice (some ⟨0, 0, none⟩) ps.length ps.length :: topV :: topV :: .pointer (some ⟨2, 0, none⟩) :: topV :: .bool (insA ps x y i) :: .int .i64 i :: topV :: topV :: topV :: topV :: topV :: topV :: topV :: topV :: topV :: topV :: topV :: topV :: topV :: topV :: topV :: topV :: topV :: topV :: topV :: topV :: topV :: topV :: topV :: topV :: topV :: topV :: topV :: topV :: topV :: topV :: topV :: topV :: topV :: topV :: topV :: topV :: topV :: topV :: topV :: topV :: topV :: topV :: topV :: topV :: topV :: topV :: topV :: topV :: topV :: topV :: topV :: []), [some ⟨.view, .ints (flat ps)⟩, none, some ⟨.box, .vals [.int .i64 x, .int .i64 y]⟩]⟩
def re_slo (ps : List Pt) (x y : Int) : Nat → Ex := fun i => bif allQ (fun j => !(hsE ps x y j)) i (ps.length - i) then .exit 0 else .ret
def rs_slo (ps : List Pt) (x y : Int) : Nat → St := fun i => bif allQ (fun j => !(hsE ps x y j)) i (ps.length - i) then ⟨(topV :: topV :: topV :: topV :: topV :: .bool (insA ps x y ps.length) :: topV :: topV :: topV :: topV :: topV :: topV :: topV :: topV :: topV :: topV :: topV :: topV :: topV :: topV :: topV :: topV :: topV :: topV :: topV :: topV :: topV :: topV :: topV :: topV :: topV :: topV :: topV :: topV :: topV :: topV :: topV :: topV :: topV :: topV :: topV :: topV :: topV :: topV :: topV :: topV :: topV :: topV :: topV :: topV :: topV :: topV :: topV :: topV :: topV :: topV :: topV :: topV :: []), [some ⟨.view, .ints (flat ps)⟩, none, some ⟨.box, .vals [.int .i64 x, .int .i64 y]⟩]⟩ else ⟨(topV :: topV :: topV :: topV :: .int .i64 0 :: topV :: topV :: topV :: topV :: topV :: topV :: topV :: topV :: topV :: topV :: topV :: topV :: topV :: topV :: topV :: topV :: topV :: topV :: topV :: topV :: topV :: topV :: topV :: topV :: topV :: topV :: topV :: topV :: topV :: topV :: topV :: topV :: topV :: topV :: topV :: topV :: topV :: topV :: topV :: topV :: topV :: topV :: topV :: topV :: topV :: topV :: topV :: topV :: topV :: topV :: topV :: topV :: topV :: []), [some ⟨.view, .ints (flat ps)⟩, none, some ⟨.box, .vals [.int .i64 x, .int .i64 y]⟩]⟩
set_option maxRecDepth 100000 in
theorem tr_slo (ps : List Pt) (x y : Int) (i : Nat) : bodyL Try.prog ELo 30 12 noL 1 c_slo k_slo 3 (s_slo ps x y i) = brT (decide ((↑i : Int) < (↑ps.length : Int))) (.need ((0 : Int) ≤ (↑i : Int) ∧ (↑i : Int) < (↑ps.length : Int)) (.need ((0 : Nat) + (↑i : Int).toNat * (2 : Nat) + (2 : Nat) ≤ (flat ps).length) (.need (¬(↑ps.length : Int) = (0 : Int)) (.need ((0 : Int) ≤ (IntKind.i64.wrap ((↑i : Int) + (1 : Int))).tmod (↑ps.length : Int) ∧ (IntKind.i64.wrap ((↑i : Int) + (1 : Int))).tmod (↑ps.length : Int) < (↑ps.length : Int)) (.need ((0 : Nat) + ((IntKind.i64.wrap ((↑i : Int) + (1 : Int))).tmod (↑ps.length : Int)).toNat * (2 : Nat) + (2 : Nat) ≤ (flat ps).length) (.need (ptB ((flat ps).getD ((0 : Nat) + (↑i : Int).toNat * (2 : Nat)) (0 : Int)) ((flat ps).getD ((0 : Nat) + (↑i : Int).toNat * (2 : Nat) + (1 : Nat)) (0 : Int)) = true) (.need (ptB ((flat ps).getD ((0 : Nat) + ((IntKind.i64.wrap ((↑i : Int) + (1 : Int))).tmod (↑ps.length : Int)).toNat * (2 : Nat)) (0 : Int)) ((flat ps).getD ((0 : Nat) + ((IntKind.i64.wrap ((↑i : Int) + (1 : Int))).tmod (↑ps.length : Int)).toNat * (2 : Nat) + (1 : Nat)) (0 : Int)) = true) (.need (ptB x y = true) (brT (hasB ((flat ps).getD (0 + (↑i : Int).toNat * 2) 0) ((flat ps).getD (0 + (↑i : Int).toNat * 2 + 1) 0) ((flat ps).getD (0 + ((IntKind.i64.wrap ((↑i : Int) + 1)).tmod (↑ps.length : Int)).toNat * 2) 0) ((flat ps).getD (0 + ((IntKind.i64.wrap ((↑i : Int) + 1)).tmod (↑ps.length : Int)).toNat * 2 + 1) 0) x y) (.leaf .ret ⟨(topV :: topV :: topV :: topV :: .int .i64 (0) :: topV :: topV :: topV :: topV :: topV :: topV :: topV :: topV :: topV :: topV :: topV :: topV :: topV :: topV :: topV :: topV :: topV :: topV :: topV :: topV :: topV :: topV :: topV :: topV :: topV :: topV :: topV :: topV :: topV :: topV :: topV :: topV :: topV :: topV :: topV :: topV :: topV :: topV :: topV :: topV :: topV :: topV :: topV :: topV :: topV :: topV :: topV :: topV :: topV :: topV :: topV :: topV :: topV :: []), [some ⟨.view, .ints (flat ps)⟩, none, some ⟨.box, .vals [.int .i64 (x), .int .i64 (y)]⟩]⟩) (brT (decide ((flat ps).getD (0 + ((IntKind.i64.wrap ((↑i : Int) + 1)).tmod (↑ps.length : Int)).toNat * 2 + 1) 0 < (flat ps).getD (0 + (↑i : Int).toNat * 2 + 1) 0)) (brT (decide ((flat ps).getD (0 + ((IntKind.i64.wrap ((↑i : Int) + 1)).tmod (↑ps.length : Int)).toNat * 2 + 1) 0 ≤ y)) (brT (decide (y < (flat ps).getD (0 + (↑i : Int).toNat * 2 + 1) 0)) (.need (ptB ((flat ps).getD ((0 : Nat) + ((IntKind.i64.wrap ((↑i : Int) + (1 : Int))).tmod (↑ps.length : Int)).toNat * (2 : Nat)) (0 : Int)) ((flat ps).getD ((0 : Nat) + ((IntKind.i64.wrap ((↑i : Int) + (1 : Int))).tmod (↑ps.length : Int)).toNat * (2 : Nat) + (1 : Nat)) (0 : Int)) = true) (.need (ptB ((flat ps).getD ((0 : Nat) + (↑i : Int).toNat * (2 : Nat)) (0 : Int)) ((flat ps).getD ((0 : Nat) + (↑i : Int).toNat * (2 : Nat) + (1 : Nat)) (0 : Int)) = true) (.need (ptB x y = true) (brT (decide (0 < crossI ((flat ps).getD (0 + ((IntKind.i64.wrap ((↑i : Int) + 1)).tmod (↑ps.length : Int)).toNat * 2) 0) ((flat ps).getD (0 + ((IntKind.i64.wrap ((↑i : Int) + 1)).tmod (↑ps.length : Int)).toNat * 2 + 1) 0) ((flat ps).getD (0 + (↑i : Int).toNat * 2) 0) ((flat ps).getD (0 + (↑i : Int).toNat * 2 + 1) 0) x y)) (.leaf .normal ⟨(.slice (some ⟨0, 0, none⟩) (ps.length) (ps.length) :: topV :: topV :: .pointer (some ⟨2, 0, none⟩) :: topV :: .bool (!insA ps x y i) :: .int .i64 (IntKind.i64.wrap ((↑i : Int) + 1)) :: topV :: topV :: topV :: topV :: topV :: topV :: topV :: topV :: topV :: topV :: topV :: topV :: topV :: topV :: topV :: topV :: topV :: topV :: topV :: topV :: topV :: topV :: topV :: topV :: topV :: topV :: topV :: topV :: topV :: topV :: topV :: topV :: topV :: topV :: topV :: topV :: topV :: topV :: topV :: topV :: topV :: topV :: topV :: topV :: topV :: topV :: topV :: topV :: topV :: topV :: topV :: []), [some ⟨.view, .ints (flat ps)⟩, none, some ⟨.box, .vals [.int .i64 (x), .int .i64 (y)]⟩]⟩) (.leaf .normal ⟨(.slice (some ⟨0, 0, none⟩) (ps.length) (ps.length) :: topV :: topV :: .pointer (some ⟨2, 0, none⟩) :: topV :: .bool (insA ps x y i) :: .int .i64 (IntKind.i64.wrap ((↑i : Int) + 1)) :: topV :: topV :: topV :: topV :: topV :: topV :: topV :: topV :: topV :: topV :: topV :: topV :: topV :: topV :: topV :: topV :: topV :: topV :: topV :: topV :: topV :: topV :: topV :: topV :: topV :: topV :: topV :: topV :: topV :: topV :: topV :: topV :: topV :: topV :: topV :: topV :: topV :: topV :: topV :: topV :: topV :: topV :: topV :: topV :: topV :: topV :: topV :: topV :: topV :: topV :: topV :: []), [some ⟨.view, .ints (flat ps)⟩, none, some ⟨.box, .vals [.int .i64 (x), .int .i64 (y)]⟩]⟩))))) (.leaf .normal ⟨(.slice (some ⟨0, 0, none⟩) (ps.length) (ps.length) :: topV :: topV :: .pointer (some ⟨2, 0, none⟩) :: topV :: .bool (insA ps x y i) :: .int .i64 (IntKind.i64.wrap ((↑i : Int) + 1)) :: topV :: topV :: topV :: topV :: topV :: topV :: topV :: topV :: topV :: topV :: topV :: topV :: topV :: topV :: topV :: topV :: topV :: topV :: topV :: topV :: topV :: topV :: topV :: topV :: topV :: topV :: topV :: topV :: topV :: topV :: topV :: topV :: topV :: topV :: topV :: topV :: topV :: topV :: topV :: topV :: topV :: topV :: topV :: topV :: topV :: topV :: topV :: topV :: topV :: topV :: topV :: []), [some ⟨.view, .ints (flat ps)⟩, none, some ⟨.box, .vals [.int .i64 (x), .int .i64 (y)]⟩]⟩)) (.leaf .normal ⟨(.slice (some ⟨0, 0, none⟩) (ps.length) (ps.length) :: topV :: topV :: .pointer (some ⟨2, 0, none⟩) :: topV :: .bool (insA ps x y i) :: .int .i64 (IntKind.i64.wrap ((↑i : Int) + 1)) :: topV :: topV :: topV :: topV :: topV :: topV :: topV :: topV :: topV :: topV :: topV :: topV :: topV :: topV :: topV :: topV :: topV :: topV :: topV :: topV :: topV :: topV :: topV :: topV :: topV :: topV :: topV :: topV :: topV :: topV :: topV :: topV :: topV :: topV :: topV :: topV :: topV :: topV :: topV :: topV :: topV :: topV :: topV :: topV :: topV :: topV :: topV :: topV :: topV :: topV :: topV :: []), [some ⟨.view, .ints (flat ps)⟩, none, some ⟨.box, .vals [.int .i64 (x), .int .i64 (y)]⟩]⟩)) (brT (decide ((flat ps).getD (0 + (↑i : Int).toNat * 2 + 1) 0 ≤ y)) (brT (decide (y < (flat ps).getD (0 + ((IntKind.i64.wrap ((↑i : Int) + 1)).tmod (↑ps.length : Int)).toNat * 2 + 1) 0)) (.need (ptB ((flat ps).getD ((0 : Nat) + (↑i : Int).toNat * (2 : Nat)) (0 : Int)) ((flat ps).getD ((0 : Nat) + (↑i : Int).toNat * (2 : Nat) + (1 : Nat)) (0 : Int)) = true) (.need (ptB ((flat ps).getD ((0 : Nat) + ((IntKind.i64.wrap ((↑i : Int) + (1 : Int))).tmod (↑ps.length : Int)).toNat * (2 : Nat)) (0 : Int)) ((flat ps).getD ((0 : Nat) + ((IntKind.i64.wrap ((↑i : Int) + (1 : Int))).tmod (↑ps.length : Int)).toNat * (2 : Nat) + (1 : Nat)) (0 : Int)) = true) (.need (ptB x y = true) (brT (decide (0 < crossI ((flat ps).getD (0 + (↑i : Int).toNat * 2) 0) ((flat ps).getD (0 + (↑i : Int).toNat * 2 + 1) 0) ((flat ps).getD (0 + ((IntKind.i64.wrap ((↑i : Int) + 1)).tmod (↑ps.length : Int)).toNat * 2) 0) ((flat ps).getD (0 + ((IntKind.i64.wrap ((↑i : Int) + 1)).tmod (↑ps.length : Int)).toNat * 2 + 1) 0) x y)) (.leaf .normal ⟨(.slice (some ⟨0, 0, none⟩) (ps.length) (ps.length) :: topV :: topV :: .pointer (some ⟨2, 0, none⟩) :: topV :: .bool (!insA ps x y i) :: .int .i64 (IntKind.i64.wrap ((↑i : Int) + 1)) :: topV :: topV :: topV :: topV :: topV :: topV :: topV :: topV :: topV :: topV :: topV :: topV :: topV :: topV :: topV :: topV :: topV :: topV :: topV :: topV :: topV :: topV :: topV :: topV :: topV :: topV :: topV :: topV :: topV :: topV :: topV :: topV :: topV :: topV :: topV :: topV :: topV :: topV :: topV :: topV :: topV :: topV :: topV :: topV :: topV :: topV :: topV :: topV :: topV :: topV :: topV :: []), [some ⟨.view, .ints (flat ps)⟩, none, some ⟨.box, .vals [.int .i64 (x), .int .i64 (y)]⟩]⟩) (.leaf .normal ⟨(.slice (some ⟨0, 0, none⟩) (ps.length) (ps.length) :: topV :: topV :: .pointer (some ⟨2, 0, none⟩) :: topV :: .bool (insA ps x y i) :: .int .i64 (IntKind.i64.wrap ((↑i : Int) + 1)) :: topV :: topV :: topV :: topV :: topV :: topV :: topV :: topV :: topV :: topV :: topV :: topV :: topV :: topV :: topV :: topV :: topV :: topV :: topV :: topV :: topV :: topV :: topV :: topV :: topV :: topV :: topV :: topV :: topV :: topV :: topV :: topV :: topV :: topV :: topV :: topV :: topV :: topV :: topV :: topV :: topV :: topV :: topV :: topV :: topV :: topV :: topV :: topV :: topV :: topV :: topV :: []), [some ⟨.view, .ints (flat ps)⟩, none, some ⟨.box, .vals [.int .i64 (x), .int .i64 (y)]⟩]⟩))))) (.leaf .normal ⟨(.slice (some ⟨0, 0, none⟩) (ps.length) (ps.length) :: topV :: topV :: .pointer (some ⟨2, 0, none⟩) :: topV :: .bool (insA ps x y i) :: .int .i64 (IntKind.i64.wrap ((↑i : Int) + 1)) :: topV :: topV :: topV :: topV :: topV :: topV :: topV :: topV :: topV :: topV :: topV :: topV :: topV :: topV :: topV :: topV :: topV :: topV :: topV :: topV :: topV :: topV :: topV :: topV :: topV :: topV :: topV :: topV :: topV :: topV :: topV :: topV :: topV :: topV :: topV :: topV :: topV :: topV :: topV :: topV :: topV :: topV :: topV :: topV :: topV :: topV :: topV :: topV :: topV :: topV :: topV :: []), [some ⟨.view, .ints (flat ps)⟩, none, some ⟨.box, .vals [.int .i64 (x), .int .i64 (y)]⟩]⟩)) (.leaf .normal ⟨(.slice (some ⟨0, 0, none⟩) (ps.length) (ps.length) :: topV :: topV :: .pointer (some ⟨2, 0, none⟩) :: topV :: .bool (insA ps x y i) :: .int .i64 (IntKind.i64.wrap ((↑i : Int) + 1)) :: topV :: topV :: topV :: topV :: topV :: topV :: topV :: topV :: topV :: topV :: topV :: topV :: topV :: topV :: topV :: topV :: topV :: topV :: topV :: topV :: topV :: topV :: topV :: topV :: topV :: topV :: topV :: topV :: topV :: topV :: topV :: topV :: topV :: topV :: topV :: topV :: topV :: topV :: topV :: topV :: topV :: topV :: topV :: topV :: topV :: topV :: topV :: topV :: topV :: topV :: topV :: []), [some ⟨.view, .ints (flat ps)⟩, none, some ⟨.box, .vals [.int .i64 (x), .int .i64 (y)]⟩]⟩)))))))))))) (.leaf (.exit 0) ⟨(topV :: topV :: topV :: topV :: topV :: .bool (insA ps x y i) :: topV :: topV :: topV :: topV :: topV :: topV :: topV :: topV :: topV :: topV :: topV :: topV :: topV :: topV :: topV :: topV :: topV :: topV :: topV :: topV :: topV :: topV :: topV :: topV :: topV :: topV :: topV :: topV :: topV :: topV :: topV :: topV :: topV :: topV :: topV :: topV :: topV :: topV :: topV :: topV :: topV :: topV :: topV :: topV :: topV :: topV :: topV :: topV :: topV :: topV :: topV :: topV :: []), [some ⟨.view, .ints (flat ps)⟩, none, some ⟨.box, .vals [.int .i64 (x), .int .i64 (y)]⟩]⟩) := by kernel_rfl
set_option maxRecDepth 100000 in
theorem nl_slo : loopsOf c_slo = [] := by kernel_rfl
def inv_slo (ps : List Pt) (x y : Int) : Nat → Prop := fun i => i ≤ ps.length
def me_slo (ps : List Pt) (x y : Int) : Nat → Nat := fun i => ps.length - i
/-- A round of this loop. -/
def Round_slo (ps : List Pt) (x y : Int) : Prop := ∀ xx : Nat, inv_slo ps x y xx → (bodyL Try.prog ELo 30 12 noL 1 c_slo k_slo 3 (s_slo ps x y xx)).ok (RoundEnd 3 (s_slo ps x y) (inv_slo ps x y) (me_slo ps x y) (re_slo ps x y) (rs_slo ps x y) xx) (fun _ _ => False)
def e_slo (s : St) (k : Ex → St → Tree) : Option Tree := match Nat.beq s.tmps.length 58, pickL s.tmps [0, 3, 5, 6], s.mem with
  | true, [.slice (some ⟨0, 0, none⟩) n _, .pointer (some ⟨2, 0, none⟩), .bool false, .int .i64 i], [some ⟨.view, .ints xs⟩, none, some ⟨.box, .vals [.int .i64 x, .int .i64 y]⟩] => some (needs [i = 0, xs.length = n * 2, allV (ptsA n xs) = true, n ≤ 20, ptB x y = true] (brT (noE (ptsA n xs) x y) (k (.exit 0) ⟨(topV :: topV :: topV :: topV :: topV :: .bool (insA (ptsA n xs) x y n) :: topV :: topV :: topV :: topV :: topV :: topV :: topV :: topV :: topV :: topV :: topV :: topV :: topV :: topV :: topV :: topV :: topV :: topV :: topV :: topV :: topV :: topV :: topV :: topV :: topV :: topV :: topV :: topV :: topV :: topV :: topV :: topV :: topV :: topV :: topV :: topV :: topV :: topV :: topV :: topV :: topV :: topV :: topV :: topV :: topV :: topV :: topV :: topV :: topV :: topV :: topV :: topV :: []), [some ⟨.view, .ints xs⟩, none, some ⟨.box, .vals [.int .i64 x, .int .i64 y]⟩]⟩) (k .ret ⟨(topV :: topV :: topV :: topV :: .int .i64 0 :: topV :: topV :: topV :: topV :: topV :: topV :: topV :: topV :: topV :: topV :: topV :: topV :: topV :: topV :: topV :: topV :: topV :: topV :: topV :: topV :: topV :: topV :: topV :: topV :: topV :: topV :: topV :: topV :: topV :: topV :: topV :: topV :: topV :: topV :: topV :: topV :: topV :: topV :: topV :: topV :: topV :: topV :: topV :: topV :: topV :: topV :: topV :: topV :: topV :: topV :: topV :: topV :: topV :: []), [some ⟨.view, .ints xs⟩, none, some ⟨.box, .vals [.int .i64 x, .int .i64 y]⟩]⟩)))
  | _, _, _ => none
set_option maxRecDepth 100000 in
theorem round_slo (ps : List Pt) (x y : Int) (hv : allV ps = true) (h : ps.length ≤ 20) (hp : ptB x y = true) : Round_slo ps x y := by
  intro i h1
  have h1 : i ≤ ps.length := h1
  rw [tr_slo]
  simp only [Int.toNat_natCast, Nat.zero_add, flat_length, flat_get0, flat_get1]
  refine brT_ok.2 ⟨fun hlt => ?_, fun hge => ?_⟩
  · have hlt := of_decide_eq_true hlt
    have hi : i < ps.length := by omega
    have hm := nx_lt hi
    simp only [nx_mod hi (by omega), Int.toNat_natCast, flat_get0, flat_get1]
    simp only [wsucc (n := ps.length) hi (by omega)]
    have step : allQ (fun j => !(hsE ps x y j)) i (ps.length - i) = (!(hsE ps x y i) && allQ (fun j => !(hsE ps x y j)) (i + 1) (ps.length - (i + 1))) := allQ_step (by omega)
    refine ⟨by omega, by omega, by omega, by omega, by omega, pt_get hv hi, pt_get hv hm, hp, brT_ok.2 ⟨fun q => ?_, fun q => ?_⟩⟩
    · have q : hsE ps x y i = true := q
      have e : allQ (fun j => !(hsE ps x y j)) i (ps.length - i) = false := by rw [step, q]; rfl
      refine ⟨by simp only [re_slo, e, cond_false], [], ?_⟩
      simp only [rs_slo, e, cond_false]
      refine ⟨rfl, rfl, ?_, ?_⟩ <;> repeat' (first | exact True.intro | exact rfl | exact wv_top _ _ | exact fun _ => rfl | refine And.intro ?_ ?_)
    · have q : hsE ps x y i = false := q
      have e0 : allQ (fun j => !(hsE ps x y j)) i (ps.length - i) = allQ (fun j => !(hsE ps x y j)) (i + 1) (ps.length - (i + 1)) := by rw [step, q]; rfl
      have yes : rtS ps x y i = true → insA ps x y (i + 1) = !(insA ps x y i) := fun hr => by simp only [insA]; rw [hr]; rfl
      have no : rtS ps x y i = false → insA ps x y (i + 1) = insA ps x y i := fun hr => by simp only [insA]; rw [hr]; rfl
      have hpi := pt_get hv hi
      have hpm := pt_get hv hm
      repeat' (first | refine brT_ok.2 ⟨fun _ => ?_, fun _ => ?_⟩ | refine And.intro hpm ?_ | refine And.intro hpi ?_ | refine And.intro hp ?_ | fail)
      all_goals first
        | (have e := yes (by unfold rtS nxP; simp only [*]; rfl)
           refine ⟨i + 1, [], ?_, ?_, by simp only [re_slo, e0], by simp only [rs_slo, e0], ?_⟩
           · show i + 1 ≤ ps.length; omega
           · show ps.length - (i + 1) < ps.length - i; omega
           · unfold s_slo
             simp only [e]
             refine ⟨rfl, rfl, ?_, ?_⟩ <;> repeat' (first | exact True.intro | exact rfl | exact wv_top _ _ | exact fun _ => rfl | refine And.intro ?_ ?_))
        | (have e := no (by unfold rtS nxP; simp only [*]; rfl)
           refine ⟨i + 1, [], ?_, ?_, by simp only [re_slo, e0], by simp only [rs_slo, e0], ?_⟩
           · show i + 1 ≤ ps.length; omega
           · show ps.length - (i + 1) < ps.length - i; omega
           · unfold s_slo
             simp only [e]
             refine ⟨rfl, rfl, ?_, ?_⟩ <;> repeat' (first | exact True.intro | exact rfl | exact wv_top _ _ | exact fun _ => rfl | refine And.intro ?_ ?_))
  · have hge := of_decide_eq_false hge
    obtain rfl : i = ps.length := by omega
    have e : allQ (fun j => !(hsE ps x y j)) ps.length (ps.length - ps.length) = true := allQ_end (by omega)
    refine ⟨by simp only [re_slo, e, cond_true], [], ?_⟩
    simp only [rs_slo, e, cond_true]
    refine ⟨rfl, rfl, ?_, ?_⟩ <;> repeat' (first | exact True.intro | exact rfl | exact wv_top _ _ | exact fun _ => rfl | refine And.intro ?_ ?_)
set_option maxRecDepth 100000 in
theorem lg_slo : LoopE Try.prog e_slo c_slo := by
  intro s k t F H hlt ht
  unfold e_slo at hlt
  split at hlt
  rotate_left
  · cases hlt
  rename_i hlen hpick hmem
  obtain ⟨tmps, mem⟩ := s
  simp only at hlen hpick hmem
  subst hmem
  obtain rfl := Option.some.inj hlt
  obtain ⟨⟨rfl, h1, h2, h3, h4, _⟩, ht2⟩ := needs_ok ht
  clear ht hlt
  obtain ⟨ps, rfl, rfl⟩ := even_flat h1
  rw [ptsA_flat] at ht2 h2
  refine ⟨_, _, pick2k ht2, loop_run mixed ELo_ok (s_slo ps _ _) (inv_slo ps _ _) (me_slo ps _ _) (re_slo ps _ _) (rs_slo ps _ _) k_slo (fun _ => rfl) (noLoops nl_slo) (round_slo ps _ _ h2 h3 h4) (x := 0) (Nat.zero_le _) (π := []) rfl ?_⟩
  refine ⟨rfl, rfl, ?_, wvs_spread' [0, 3, 5, 6] hlen rfl ?_⟩
  · repeat' (first | exact True.intro | exact rfl | exact wv_top _ _ | exact fun _ => rfl | assumption | exact Eq.symm (by assumption) | exact vI0 rfl | refine And.intro ?_ ?_)
  · rw [hpick]
    repeat' (first | exact True.intro | exact rfl | exact wv_top _ _ | exact fun _ => rfl | assumption | exact Eq.symm (by assumption) | exact vI0 rfl | refine And.intro ?_ ?_)
theorem Lr_slo {fn : Func} (hf : Try.prog.funcs[87]? = some fn) : LoopsGood Try.prog (lt1 e_slo) 0 (codeOf fn) := by
  obtain rfl := fn_is Try.func87 hf
  exact lt1_good lg_slo
def LLo : FuncId → LT := fun f => match f with
  | 87 => lt1 e_slo
  | _ => noL
def ELs : Env := mkE TSm R4 LLo
theorem ELs_ok : EnvOk Try.prog ELs := mkEOk TSm_ok R4_ok (by
  intro f fn hf
  unfold LLo
  split
  all_goals first | with_reducible exact Lr_slo hf | exact noL_good)
set_option maxRecDepth 100000 in
theorem tr_sLoc (ps : List Pt) (x y : Int) : bodyV Try.prog ELs 30 12 87 [.row ps.length (.ints (flat ps)), .v (.agg #[iv x, iv y])] = .need ((0 : Int) = (0 : Int)) (.need ((flat ps).length = ps.length * (2 : Nat)) (.need (allV (ptsA ps.length (flat ps)) = true) (.need (ps.length ≤ (20 : Nat)) (.need (ptB x y = true) (brT (noE (ptsA ps.length (flat ps)) x y) (brT (insA (ptsA ps.length (flat ps)) x y ps.length) (.fin (.int .i64 (1)) []) (.fin (.int .i64 (-1)) [])) (.fin (.int .i64 (0)) [])))))) := by kernel_rfl
theorem res_sLoc {ps : List Pt} {x y : Int} (hv : allV ps = true) (h : ps.length ≤ 20) (hp : ptB x y = true) : Res Try.prog 87 [.row ps.length (.ints (flat ps)), .v (.agg #[iv x, iv y])] (iv (locA ps x y)) := by
  refine bodyV_res mixed ELs_ok (m := 30) (n := 12) rfl ?_
  rw [tr_sLoc]
  simp only [ptsA_flat]
  unfold locA
  rcases hn : noE ps x y with _ | _
  · exact ⟨trivial, flat_length ps, hv, h, hp, rfl⟩
  · rw [ins_is hn _ (Nat.le_refl _)]
    rcases hi : insA ps x y ps.length with _ | _
    all_goals exact ⟨trivial, flat_length ps, hv, h, hp, rfl⟩
def pLcA : List DArg → Option (Value × List Prop)
  | [.row m (.ints xs), .v (.agg ⟨[.int .i64 x, .int .i64 y]⟩)] => some (iv (locA (ptsA m xs) x y), [m * 2 ≤ xs.length, allV (ptsA m xs) = true, m ≤ 20, ptB x y = true])
  | _ => none
theorem pLcA_ok {f : FuncId} (H : ∀ {ps : List Pt} {x y : Int}, allV ps = true → ps.length ≤ 20 → ptB x y = true → Res Try.prog f [.row ps.length (.ints (flat ps)), .v (.agg #[iv x, iv y])] (iv (locA ps x y))) {ds : List DArg} {v : Value} {C : List Prop} (h : pLcA ds = some (v, C)) (hC : AllP C) : Res Try.prog f ds v := by
  unfold pLcA at h
  split at h
  · rename_i m xs x y
    obtain ⟨rfl, rfl⟩ : _ ∧ _ := by simpa using h
    obtain ⟨_, h2⟩ := ptsA_spec hC.1
    exact res_pts1 (pre := []) (post := [_]) hC.1 (H (ps := ptsA m xs) hC.2.1 (by rw [h2]; exact hC.2.2.1) hC.2.2.2.1)
  · cases h
def TLc : Tab := fun f ds => match f with
  | 91 => pLcA ds
  | 87 => pLcA ds
  | f => TSm f ds
theorem TLc_ok : TabOk Try.prog TLc := by
  intro f ds v C h hC
  unfold TLc at h
  (try split at h)
  all_goals first | with_reducible exact pLcA_ok res_iLoc h hC | with_reducible exact pLcA_ok res_sLoc h hC | exact TSm_ok _ _ _ _ h hC
def ELc : Env := mkE TLc R4 (fun _ => noL)
theorem ELc_ok : EnvOk Try.prog ELc := mkEOk TLc_ok R4_ok (fun _ _ _ => noL_good)
theorem issI_ok2 {ps : List Pt} (h : issI ps = true) : allV ps = true ∧ ps.length ≤ 20 := by
  unfold issI okL at h
  simp only [Bool.and_eq_true, decide_eq_true_eq] at h
  exact ⟨h.1.2.1, h.1.2.2⟩
end Go.Proofs.Ytpjdnplpiamjcaa
namespace Go.Proofs.Ytpjdnplpiamjcaa
set_option linter.all false
open Go.RowKit
/-- The box around so many vertices. -/
def bxA (ps : List Pt) : Nat → Int
  | 0 => (ps.getD 0 (0, 0)).1
  | i + 1 => if (ps.getD i (0, 0)).1 < bxA ps i then (ps.getD i (0, 0)).1 else bxA ps i
def bxB (ps : List Pt) : Nat → Int
  | 0 => (ps.getD 0 (0, 0)).2
  | i + 1 => if (ps.getD i (0, 0)).2 < bxB ps i then (ps.getD i (0, 0)).2 else bxB ps i
def bxC (ps : List Pt) : Nat → Int
  | 0 => (ps.getD 0 (0, 0)).1
  | i + 1 => if bxC ps i < (ps.getD i (0, 0)).1 then (ps.getD i (0, 0)).1 else bxC ps i
def bxD (ps : List Pt) : Nat → Int
  | 0 => (ps.getD 0 (0, 0)).2
  | i + 1 => if bxD ps i < (ps.getD i (0, 0)).2 then (ps.getD i (0, 0)).2 else bxD ps i
noncomputable def c_bxa : Code := ((loopsOf (codeOf Try.f89))[0]?).getD .skip
def k_bxa : Ex → List Nat := keeps [2, 3, 13, 14, 15] [(0, [2, 3])] []
def s_bxa (ps : List Pt) : Nat → St := fun i => ⟨(topV :: topV :: .pointer (some ⟨1, 0, none⟩) :: .pointer (some ⟨2, 0, none⟩) :: topV :: topV :: topV :: topV :: topV :: topV :: topV :: topV :: topV :: .slice (some ⟨0, 0, none⟩) ps.length ps.length :: .int .i64 ps.length :: .int .i64 i :: topV :: topV :: topV :: topV :: topV :: topV :: topV :: topV :: topV :: topV :: topV :: topV :: topV :: topV :: topV :: topV :: topV :: topV :: topV :: topV :: topV :: topV :: topV :: topV :: topV :: topV :: topV :: topV :: topV :: topV :: topV :: topV :: topV :: []), [some ⟨.view, .ints (flat ps)⟩, some ⟨.box, .vals [.int .i64 0, .int .i64 0, .int .i64 0, .int .i64 0]⟩, some ⟨.box, .vals [.int .i64 (bxA ps i), .int .i64 (bxB ps i), .int .i64 (bxC ps i), .int .i64 (bxD ps i)]⟩]⟩
def re_bxa : Nat → Ex := fun _ => .exit 0
def rs_bxa (ps : List Pt) : Nat → St := fun i => ⟨(topV :: topV :: .pointer (some ⟨1, 0, none⟩) :: .pointer (some ⟨2, 0, none⟩) :: topV :: topV :: topV :: topV :: topV :: topV :: topV :: topV :: topV :: topV :: topV :: topV :: topV :: topV :: topV :: topV :: topV :: topV :: topV :: topV :: topV :: topV :: topV :: topV :: topV :: topV :: topV :: topV :: topV :: topV :: topV :: topV :: topV :: topV :: topV :: topV :: topV :: topV :: topV :: topV :: topV :: topV :: topV :: topV :: topV :: []), [some ⟨.view, .ints (flat ps)⟩, some ⟨.box, .vals [.int .i64 0, .int .i64 0, .int .i64 0, .int .i64 0]⟩, some ⟨.box, .vals [.int .i64 (bxA ps ps.length), .int .i64 (bxB ps ps.length), .int .i64 (bxC ps ps.length), .int .i64 (bxD ps ps.length)]⟩]⟩
set_option maxRecDepth 100000 in
theorem tr_bxa (ps : List Pt) (i : Nat) : bodyL Try.prog ELc 30 12 noL 1 c_bxa k_bxa 3 (s_bxa ps i) = brT (decide ((↑i : Int) < (↑ps.length : Int))) (.need ((0 : Int) ≤ (↑i : Int) ∧ (↑i : Int) < (↑ps.length : Int)) (.need ((0 : Nat) + (↑i : Int).toNat * (2 : Nat) + (2 : Nat) ≤ (flat ps).length) (.leaf .normal ⟨(topV :: topV :: .pointer (some ⟨1, 0, none⟩) :: .pointer (some ⟨2, 0, none⟩) :: topV :: topV :: topV :: topV :: topV :: topV :: topV :: topV :: topV :: .slice (some ⟨0, 0, none⟩) (ps.length) (ps.length) :: .int .i64 ((↑ps.length : Int)) :: .int .i64 (IntKind.i64.wrap ((↑i : Int) + 1)) :: topV :: topV :: topV :: topV :: topV :: topV :: topV :: topV :: topV :: topV :: topV :: topV :: topV :: topV :: topV :: topV :: topV :: topV :: topV :: topV :: topV :: topV :: topV :: topV :: topV :: topV :: topV :: topV :: topV :: topV :: topV :: topV :: topV :: []), [some ⟨.view, .ints (flat ps)⟩, some ⟨.box, .vals [.int .i64 (0), .int .i64 (0), .int .i64 (0), .int .i64 (0)]⟩, some ⟨.box, .vals [.int .i64 (if (flat ps).getD (0 + (↑i : Int).toNat * 2) 0 < bxA ps i then (flat ps).getD (0 + (↑i : Int).toNat * 2) 0 else bxA ps i), .int .i64 (if (flat ps).getD (0 + (↑i : Int).toNat * 2 + 1) 0 < bxB ps i then (flat ps).getD (0 + (↑i : Int).toNat * 2 + 1) 0 else bxB ps i), .int .i64 (if bxC ps i < (flat ps).getD (0 + (↑i : Int).toNat * 2) 0 then (flat ps).getD (0 + (↑i : Int).toNat * 2) 0 else bxC ps i), .int .i64 (if bxD ps i < (flat ps).getD (0 + (↑i : Int).toNat * 2 + 1) 0 then (flat ps).getD (0 + (↑i : Int).toNat * 2 + 1) 0 else bxD ps i)]⟩]⟩))) (.leaf (.exit 0) ⟨(topV :: topV :: .pointer (some ⟨1, 0, none⟩) :: .pointer (some ⟨2, 0, none⟩) :: topV :: topV :: topV :: topV :: topV :: topV :: topV :: topV :: topV :: topV :: topV :: topV :: topV :: topV :: topV :: topV :: topV :: topV :: topV :: topV :: topV :: topV :: topV :: topV :: topV :: topV :: topV :: topV :: topV :: topV :: topV :: topV :: topV :: topV :: topV :: topV :: topV :: topV :: topV :: topV :: topV :: topV :: topV :: topV :: topV :: []), [some ⟨.view, .ints (flat ps)⟩, some ⟨.box, .vals [.int .i64 (0), .int .i64 (0), .int .i64 (0), .int .i64 (0)]⟩, some ⟨.box, .vals [.int .i64 (bxA ps i), .int .i64 (bxB ps i), .int .i64 (bxC ps i), .int .i64 (bxD ps i)]⟩]⟩) := by kernel_rfl
set_option maxRecDepth 100000 in
theorem nl_bxa : loopsOf c_bxa = [] := by kernel_rfl
def inv_bxa (ps : List Pt) : Nat → Prop := fun i => i ≤ ps.length
def me_bxa (ps : List Pt) : Nat → Nat := fun i => ps.length - i
/-- A round of this loop. -/
def Round_bxa (ps : List Pt) : Prop := ∀ xx : Nat, inv_bxa ps xx → (bodyL Try.prog ELc 30 12 noL 1 c_bxa k_bxa 3 (s_bxa ps xx)).ok (RoundEnd 3 (s_bxa ps) (inv_bxa ps) (me_bxa ps) re_bxa (rs_bxa ps) xx) (fun _ _ => False)
def e_bxa (s : St) (k : Ex → St → Tree) : Option Tree := match Nat.beq s.tmps.length 49, pickL s.tmps [2, 3, 13, 14, 15], s.mem with
  | true, [.pointer (some ⟨1, 0, none⟩), .pointer (some ⟨2, 0, none⟩), .slice (some ⟨0, 0, none⟩) n _, .int .i64 l, .int .i64 ii], [some ⟨.view, .ints xs⟩, some ⟨.box, .vals [.int .i64 z0, .int .i64 z1, .int .i64 z2, .int .i64 z3]⟩, some ⟨.box, .vals [.int .i64 a, .int .i64 b, .int .i64 c, .int .i64 d]⟩] => some (needs [ii = 0, l = n, z0 = 0, z1 = 0, z2 = 0, z3 = 0, xs.length = n * 2, n ≤ 20, a = xs.getD 0 0, b = xs.getD 1 0, c = xs.getD 0 0, d = xs.getD 1 0] (k (.exit 0) ⟨(topV :: topV :: .pointer (some ⟨1, 0, none⟩) :: .pointer (some ⟨2, 0, none⟩) :: topV :: topV :: topV :: topV :: topV :: topV :: topV :: topV :: topV :: topV :: topV :: topV :: topV :: topV :: topV :: topV :: topV :: topV :: topV :: topV :: topV :: topV :: topV :: topV :: topV :: topV :: topV :: topV :: topV :: topV :: topV :: topV :: topV :: topV :: topV :: topV :: topV :: topV :: topV :: topV :: topV :: topV :: topV :: topV :: topV :: []), [some ⟨.view, .ints xs⟩, some ⟨.box, .vals [.int .i64 0, .int .i64 0, .int .i64 0, .int .i64 0]⟩, some ⟨.box, .vals [.int .i64 (bxA (ptsA n xs) n), .int .i64 (bxB (ptsA n xs) n), .int .i64 (bxC (ptsA n xs) n), .int .i64 (bxD (ptsA n xs) n)]⟩]⟩))
  | _, _, _ => none
set_option maxRecDepth 100000 in
theorem round_bxa (ps : List Pt) (h : ps.length ≤ 20) : Round_bxa ps := by
  intro i h1
  have h1 : i ≤ ps.length := h1
  rw [tr_bxa]
  simp only [Int.toNat_natCast, Nat.zero_add, Nat.add_zero, flat_length, flat_get0, flat_get1]
  refine brT_ok.2 ⟨fun hlt => ?_, fun hge => ?_⟩
  · have hlt := of_decide_eq_true hlt
    have hi : i < ps.length := by omega
    rw [wsucc (n := ps.length) hi (by omega)]
    refine ⟨by omega, by omega, i + 1, [], ?_, ?_, rfl, rfl, ?_⟩
    · show i + 1 ≤ ps.length; omega
    · show ps.length - (i + 1) < ps.length - i; omega
    · repeat' (first | exact True.intro | exact rfl | exact fun _ => rfl | refine And.intro ?_ ?_)
  · have hge := of_decide_eq_false hge
    obtain rfl : i = ps.length := by omega
    refine ⟨rfl, [], ?_⟩
    repeat' (first | exact True.intro | exact rfl | exact fun _ => rfl | refine And.intro ?_ ?_)
set_option maxRecDepth 100000 in
theorem lg_bxa : LoopE Try.prog e_bxa c_bxa := by
  intro s k t F H hlt ht
  unfold e_bxa at hlt
  split at hlt
  rotate_left
  · cases hlt
  rename_i hlen hpick hmem
  obtain ⟨tmps, mem⟩ := s
  simp only at hlen hpick hmem
  subst hmem
  obtain rfl := Option.some.inj hlt
  obtain ⟨⟨rfl, rfl, rfl, rfl, rfl, rfl, h1, h2, e1, e2, e3, e4, _⟩, ht2⟩ := needs_ok ht
  clear ht hlt
  obtain ⟨ps, rfl, rfl⟩ := even_flat h1
  rw [ptsA_flat] at ht2
  have k1 := flat_get0 ps 0
  have k2 := flat_get1 ps 0
  simp only [Nat.zero_mul, Nat.zero_add] at k1 k2
  rw [k1] at e1 e3
  rw [k2] at e2 e4
  subst e1 e2 e3 e4
  refine ⟨_, _, ht2, loop_run mixed ELc_ok (s_bxa ps) (inv_bxa ps) (me_bxa ps) re_bxa (rs_bxa ps) k_bxa (fun _ => rfl) (noLoops nl_bxa) (round_bxa ps h2) (x := 0) (Nat.zero_le _) (π := []) rfl ?_⟩
  refine ⟨rfl, rfl, ?_, wvs_spread' [2, 3, 13, 14, 15] hlen rfl ?_⟩
  · repeat' (first | exact True.intro | exact rfl | exact wv_top _ _ | exact fun _ => rfl | assumption | exact Eq.symm (by assumption) | exact vI0 rfl | refine And.intro ?_ ?_)
  · rw [hpick]
    repeat' (first | exact True.intro | exact rfl | exact wv_top _ _ | exact fun _ => rfl | assumption | exact Eq.symm (by assumption) | exact vI0 rfl | refine And.intro ?_ ?_)
theorem Lr_bxa {fn : Func} (hf : Try.prog.funcs[89]? = some fn) : LoopsGood Try.prog (lt1 e_bxa) 0 (codeOf fn) := by
  obtain rfl := fn_is Try.func89 hf
  exact lt1_good lg_bxa
noncomputable def c_bxb : Code := ((loopsOf (codeOf Try.f42))[0]?).getD .skip
def k_bxb : Ex → List Nat := keeps [0, 3, 4, 5, 6] [(0, [0, 3, 4, 5])] [2]
def s_bxb (ps : List Pt) : Nat → St := fun i => ⟨(.slice (some ⟨0, 0, none⟩) ps.length ps.length :: topV :: topV :: .slice (some ⟨1, 0, none⟩) 0 0 :: .pointer (some ⟨2, 0, none⟩) :: .pointer (some ⟨3, 0, none⟩) :: .int .i64 i :: topV :: topV :: topV :: topV :: topV :: topV :: topV :: topV :: topV :: topV :: topV :: topV :: topV :: topV :: topV :: topV :: topV :: topV :: topV :: topV :: topV :: topV :: topV :: topV :: topV :: topV :: topV :: topV :: topV :: topV :: topV :: topV :: topV :: topV :: topV :: topV :: topV :: topV :: topV :: topV :: topV :: topV :: topV :: topV :: topV :: topV :: topV :: topV :: topV :: topV :: topV :: topV :: topV :: topV :: topV :: topV :: topV :: topV :: topV :: topV :: topV :: topV :: topV :: topV :: topV :: topV :: topV :: topV :: topV :: topV :: topV :: topV :: topV :: topV :: topV :: topV :: topV :: topV :: topV :: topV :: topV :: topV :: topV :: topV :: topV :: topV :: topV :: topV :: topV :: topV :: topV :: topV :: topV :: topV :: topV :: []), [some ⟨.view, .ints (flat ps)⟩, some ⟨.row 37 2, .vals []⟩, some ⟨.box, .vals [.int .i64 (bxA ps i), .int .i64 (bxB ps i)]⟩, some ⟨.box, .vals [.int .i64 (bxC ps i), .int .i64 (bxD ps i)]⟩]⟩
def re_bxb : Nat → Ex := fun _ => .exit 0
def rs_bxb (ps : List Pt) : Nat → St := fun i => ⟨(.slice (some ⟨0, 0, none⟩) ps.length ps.length :: topV :: topV :: .slice (some ⟨1, 0, none⟩) 0 0 :: .pointer (some ⟨2, 0, none⟩) :: .pointer (some ⟨3, 0, none⟩) :: topV :: topV :: topV :: topV :: topV :: topV :: topV :: topV :: topV :: topV :: topV :: topV :: topV :: topV :: topV :: topV :: topV :: topV :: topV :: topV :: topV :: topV :: topV :: topV :: topV :: topV :: topV :: topV :: topV :: topV :: topV :: topV :: topV :: topV :: topV :: topV :: topV :: topV :: topV :: topV :: topV :: topV :: topV :: topV :: topV :: topV :: topV :: topV :: topV :: topV :: topV :: topV :: topV :: topV :: topV :: topV :: topV :: topV :: topV :: topV :: topV :: topV :: topV :: topV :: topV :: topV :: topV :: topV :: topV :: topV :: topV :: topV :: topV :: topV :: topV :: topV :: topV :: topV :: topV :: topV :: topV :: topV :: topV :: topV :: topV :: topV :: topV :: topV :: topV :: topV :: topV :: topV :: topV :: topV :: topV :: topV :: []), [some ⟨.view, .ints (flat ps)⟩, some ⟨.row 37 2, .vals []⟩, some ⟨.box, .vals [.int .i64 (bxA ps ps.length), .int .i64 (bxB ps ps.length)]⟩, some ⟨.box, .vals [.int .i64 (bxC ps ps.length), .int .i64 (bxD ps ps.length)]⟩]⟩
set_option maxRecDepth 100000 in
theorem tr_bxb (ps : List Pt) (i : Nat) : bodyL Try.prog ELc 30 12 noL 1 c_bxb k_bxb 4 (s_bxb ps i) = brT (decide ((↑i : Int) < (↑ps.length : Int))) (.need ((0 : Int) ≤ (↑i : Int) ∧ (↑i : Int) < (↑ps.length : Int)) (.need ((0 : Nat) + (↑i : Int).toNat * (2 : Nat) + (0 : Nat) < (flat ps).length) (.need ((0 : Int) ≤ (↑i : Int) ∧ (↑i : Int) < (↑ps.length : Int)) (.need ((0 : Nat) + (↑i : Int).toNat * (2 : Nat) + (1 : Nat) < (flat ps).length) (.need ((0 : Int) ≤ (↑i : Int) ∧ (↑i : Int) < (↑ps.length : Int)) (.need ((0 : Nat) + (↑i : Int).toNat * (2 : Nat) + (0 : Nat) < (flat ps).length) (.need ((0 : Int) ≤ (↑i : Int) ∧ (↑i : Int) < (↑ps.length : Int)) (.need ((0 : Nat) + (↑i : Int).toNat * (2 : Nat) + (1 : Nat) < (flat ps).length) (.leaf .normal ⟨(.slice (some ⟨0, 0, none⟩) (ps.length) (ps.length) :: topV :: topV :: .slice (some ⟨1, 0, none⟩) (0) (0) :: .pointer (some ⟨2, 0, none⟩) :: .pointer (some ⟨3, 0, none⟩) :: .int .i64 (IntKind.i64.wrap ((↑i : Int) + 1)) :: topV :: topV :: topV :: topV :: topV :: topV :: topV :: topV :: topV :: topV :: topV :: topV :: topV :: topV :: topV :: topV :: topV :: topV :: topV :: topV :: topV :: topV :: topV :: topV :: topV :: topV :: topV :: topV :: topV :: topV :: topV :: topV :: topV :: topV :: topV :: topV :: topV :: topV :: topV :: topV :: topV :: topV :: topV :: topV :: topV :: topV :: topV :: topV :: topV :: topV :: topV :: topV :: topV :: topV :: topV :: topV :: topV :: topV :: topV :: topV :: topV :: topV :: topV :: topV :: topV :: topV :: topV :: topV :: topV :: topV :: topV :: topV :: topV :: topV :: topV :: topV :: topV :: topV :: topV :: topV :: topV :: topV :: topV :: topV :: topV :: topV :: topV :: topV :: topV :: topV :: topV :: topV :: topV :: topV :: topV :: []), [some ⟨.view, .ints (flat ps)⟩, some ⟨.row 37 2, .vals []⟩, some ⟨.box, .vals [.int .i64 (if (flat ps).getD (0 + (↑i : Int).toNat * 2 + 0) 0 < bxA ps i then (flat ps).getD (0 + (↑i : Int).toNat * 2 + 0) 0 else bxA ps i), .int .i64 (if (flat ps).getD (0 + (↑i : Int).toNat * 2 + 1) 0 < bxB ps i then (flat ps).getD (0 + (↑i : Int).toNat * 2 + 1) 0 else bxB ps i)]⟩, some ⟨.box, .vals [.int .i64 (if bxC ps i < (flat ps).getD (0 + (↑i : Int).toNat * 2 + 0) 0 then (flat ps).getD (0 + (↑i : Int).toNat * 2 + 0) 0 else bxC ps i), .int .i64 (if bxD ps i < (flat ps).getD (0 + (↑i : Int).toNat * 2 + 1) 0 then (flat ps).getD (0 + (↑i : Int).toNat * 2 + 1) 0 else bxD ps i)]⟩]⟩))))))))) (.leaf (.exit 0) ⟨(.slice (some ⟨0, 0, none⟩) (ps.length) (ps.length) :: topV :: topV :: .slice (some ⟨1, 0, none⟩) (0) (0) :: .pointer (some ⟨2, 0, none⟩) :: .pointer (some ⟨3, 0, none⟩) :: topV :: topV :: topV :: topV :: topV :: topV :: topV :: topV :: topV :: topV :: topV :: topV :: topV :: topV :: topV :: topV :: topV :: topV :: topV :: topV :: topV :: topV :: topV :: topV :: topV :: topV :: topV :: topV :: topV :: topV :: topV :: topV :: topV :: topV :: topV :: topV :: topV :: topV :: topV :: topV :: topV :: topV :: topV :: topV :: topV :: topV :: topV :: topV :: topV :: topV :: topV :: topV :: topV :: topV :: topV :: topV :: topV :: topV :: topV :: topV :: topV :: topV :: topV :: topV :: topV :: topV :: topV :: topV :: topV :: topV :: topV :: topV :: topV :: topV :: topV :: topV :: topV :: topV :: topV :: topV :: topV :: topV :: topV :: topV :: topV :: topV :: topV :: topV :: topV :: topV :: topV :: topV :: topV :: topV :: topV :: topV :: []), [some ⟨.view, .ints (flat ps)⟩, some ⟨.row 37 2, .vals []⟩, some ⟨.box, .vals [.int .i64 (bxA ps i), .int .i64 (bxB ps i)]⟩, some ⟨.box, .vals [.int .i64 (bxC ps i), .int .i64 (bxD ps i)]⟩]⟩) := by kernel_rfl
set_option maxRecDepth 100000 in
theorem nl_bxb : loopsOf c_bxb = [] := by kernel_rfl
def inv_bxb (ps : List Pt) : Nat → Prop := fun i => i ≤ ps.length
def me_bxb (ps : List Pt) : Nat → Nat := fun i => ps.length - i
/-- A round of this loop. -/
def Round_bxb (ps : List Pt) : Prop := ∀ xx : Nat, inv_bxb ps xx → (bodyL Try.prog ELc 30 12 noL 1 c_bxb k_bxb 4 (s_bxb ps xx)).ok (RoundEnd 4 (s_bxb ps) (inv_bxb ps) (me_bxb ps) re_bxb (rs_bxb ps) xx) (fun _ _ => False)
def e_bxb (s : St) (k : Ex → St → Tree) : Option Tree := match Nat.beq s.tmps.length 102, pickL s.tmps [0, 3, 4, 5, 6], s.mem with
  | true, [.slice (some ⟨0, 0, none⟩) n _, .slice (some ⟨1, 0, none⟩) z _, .pointer (some ⟨2, 0, none⟩), .pointer (some ⟨3, 0, none⟩), .int .i64 ii], [some ⟨.view, .ints xs⟩, some ⟨.row 37 2, .vals []⟩, some ⟨.box, .vals [.int .i64 a, .int .i64 b]⟩, some ⟨.box, .vals [.int .i64 c, .int .i64 d]⟩] => some (needs [ii = 0, z = 0, xs.length = n * 2, n ≤ 20, a = xs.getD 0 0, b = xs.getD 1 0, c = xs.getD 0 0, d = xs.getD 1 0] (k (.exit 0) ⟨(.slice (some ⟨0, 0, none⟩) n n :: topV :: topV :: .slice (some ⟨1, 0, none⟩) 0 0 :: .pointer (some ⟨2, 0, none⟩) :: .pointer (some ⟨3, 0, none⟩) :: topV :: topV :: topV :: topV :: topV :: topV :: topV :: topV :: topV :: topV :: topV :: topV :: topV :: topV :: topV :: topV :: topV :: topV :: topV :: topV :: topV :: topV :: topV :: topV :: topV :: topV :: topV :: topV :: topV :: topV :: topV :: topV :: topV :: topV :: topV :: topV :: topV :: topV :: topV :: topV :: topV :: topV :: topV :: topV :: topV :: topV :: topV :: topV :: topV :: topV :: topV :: topV :: topV :: topV :: topV :: topV :: topV :: topV :: topV :: topV :: topV :: topV :: topV :: topV :: topV :: topV :: topV :: topV :: topV :: topV :: topV :: topV :: topV :: topV :: topV :: topV :: topV :: topV :: topV :: topV :: topV :: topV :: topV :: topV :: topV :: topV :: topV :: topV :: topV :: topV :: topV :: topV :: topV :: topV :: topV :: topV :: []), [some ⟨.view, .ints xs⟩, some ⟨.row 37 2, .vals []⟩, some ⟨.box, .vals [.int .i64 (bxA (ptsA n xs) n), .int .i64 (bxB (ptsA n xs) n)]⟩, some ⟨.box, .vals [.int .i64 (bxC (ptsA n xs) n), .int .i64 (bxD (ptsA n xs) n)]⟩]⟩))
  | _, _, _ => none
set_option maxRecDepth 100000 in
theorem round_bxb (ps : List Pt) (h : ps.length ≤ 20) : Round_bxb ps := by
  intro i h1
  have h1 : i ≤ ps.length := h1
  rw [tr_bxb]
  simp only [Int.toNat_natCast, Nat.zero_add, Nat.add_zero, flat_length, flat_get0, flat_get1]
  refine brT_ok.2 ⟨fun hlt => ?_, fun hge => ?_⟩
  · have hlt := of_decide_eq_true hlt
    have hi : i < ps.length := by omega
    rw [wsucc (n := ps.length) hi (by omega)]
    simp only [Tree.ok]
    repeat (refine And.intro (by omega) ?_)
    refine ⟨i + 1, [], ?_, ?_, rfl, rfl, ?_⟩
    · show i + 1 ≤ ps.length; omega
    · show ps.length - (i + 1) < ps.length - i; omega
    · repeat' (first | exact True.intro | exact rfl | exact fun _ => rfl | refine And.intro ?_ ?_)
  · have hge := of_decide_eq_false hge
    obtain rfl : i = ps.length := by omega
    refine ⟨rfl, [], ?_⟩
    repeat' (first | exact True.intro | exact rfl | exact fun _ => rfl | refine And.intro ?_ ?_)
set_option maxRecDepth 100000 in
theorem lg_bxb : LoopE Try.prog e_bxb c_bxb := by
  intro s k t F H hlt ht
  unfold e_bxb at hlt
  split at hlt
  rotate_left
  · cases hlt
  rename_i hlen hpick hmem
  obtain ⟨tmps, mem⟩ := s
  simp only at hlen hpick hmem
  subst hmem
  obtain rfl := Option.some.inj hlt
  obtain ⟨⟨rfl, rfl, h1, h2, e1, e2, e3, e4, _⟩, ht2⟩ := needs_ok ht
  clear ht hlt
  obtain ⟨ps, rfl, rfl⟩ := even_flat h1
  rw [ptsA_flat] at ht2
  have k1 := flat_get0 ps 0
  have k2 := flat_get1 ps 0
  simp only [Nat.zero_mul, Nat.zero_add] at k1 k2
  rw [k1] at e1 e3
  rw [k2] at e2 e4
  subst e1 e2 e3 e4
  refine ⟨_, _, ht2, loop_run mixed ELc_ok (s_bxb ps) (inv_bxb ps) (me_bxb ps) re_bxb (rs_bxb ps) k_bxb (fun _ => rfl) (noLoops nl_bxb) (round_bxb ps h2) (x := 0) (Nat.zero_le _) (π := []) rfl ?_⟩
  refine ⟨rfl, rfl, ?_, wvs_spread' [0, 3, 4, 5, 6] hlen rfl ?_⟩
  · repeat' (first | exact True.intro | exact rfl | exact wv_top _ _ | exact fun _ => rfl | assumption | exact Eq.symm (by assumption) | exact vI0 rfl | refine And.intro ?_ ?_)
  · rw [hpick]
    repeat' (first | exact True.intro | exact rfl | exact wv_top _ _ | exact fun _ => rfl | assumption | exact Eq.symm (by assumption) | exact vI0 rfl | refine And.intro ?_ ?_)
end Go.Proofs.Ytpjdnplpiamjcaa
namespace Go.Proofs.Ytpjdnplpiamjcaa
set_option linter.all false
open Go.RowKit
/-- Those of so many points above one another that are inside. -/
def lcL (ps : List Pt) (x : Int) : Nat → Int → List Pt
  | 0, _ => []
  | m + 1, y => (bif (locA ps x y == 1) then [(x, y)] else []) ++ lcL ps x m (y + 1)
theorem lcL_len (ps : List Pt) (x : Int) : ∀ (m : Nat) (y : Int), (lcL ps x m y).length ≤ m
  | 0, _ => Nat.le_refl _
  | m + 1, y => by
    have := lcL_len ps x m (y + 1)
    simp only [lcL, List.length_append]
    cases locA ps x y == 1 <;> simp <;> omega
theorem lcL_step {ps : List Pt} {x y d : Int} (h : y < d) : lcL ps x (d - y).toNat y = (bif (locA ps x y == 1) then [(x, y)] else []) ++ lcL ps x (d - (y + 1)).toNat (y + 1) := by
  rw [show (d - y).toNat = (d - (y + 1)).toNat + 1 by omega]
  rfl
theorem lcL_end {ps : List Pt} {x y d : Int} (h : d ≤ y) : lcL ps x (d - y).toNat y = [] := by
  rw [show (d - y).toNat = 0 by omega]
  rfl
theorem flatC (o : List Pt) : List.take (o.length * 2) (List.drop 0 (flat o)) = flat o := by rw [List.drop_zero, flat_all]
noncomputable def c_lai : Code := ((loopsOf (codeOf Try.f44))[1]?).getD .skip
def k_lai : Ex → List Nat := keeps [0, 3, 5, 6, 7] [(2, [0, 3, 5, 6])] []
def s_lai (ps : List Pt) (a b c d x : Int) : Int × (List Pt) → St := fun (y, o) => ⟨(.slice (some ⟨0, 0, none⟩) ps.length ps.length :: topV :: topV :: .pointer (some ⟨1, 0, none⟩) :: topV :: .slice (some ⟨7, 0, none⟩) o.length o.length :: .int .i64 x :: .int .i64 y :: topV :: topV :: topV :: topV :: topV :: topV :: topV :: topV :: topV :: topV :: topV :: topV :: topV :: topV :: topV :: topV :: topV :: topV :: topV :: topV :: topV :: topV :: topV :: topV :: topV :: topV :: topV :: topV :: topV :: topV :: topV :: topV :: topV :: topV :: topV :: topV :: topV :: topV :: topV :: topV :: topV :: topV :: topV :: topV :: topV :: topV :: topV :: topV :: topV :: topV :: topV :: topV :: topV :: []), [some ⟨.view, .ints (flat ps)⟩, some ⟨.box, .vals [.int .i64 a, .int .i64 b, .int .i64 c, .int .i64 d]⟩, some ⟨.dead, .vals []⟩, some ⟨.dead, .vals []⟩, some ⟨.dead, .vals []⟩, some ⟨.dead, .vals []⟩, some ⟨.dead, .vals []⟩, some ⟨.row 37 2, .ints (flat o)⟩]⟩
def re_lai : Int × (List Pt) → Ex := fun _ => .exit 2
def rs_lai (ps : List Pt) (a b c d x : Int) : Int × (List Pt) → St := fun (y, o) => ⟨(.slice (some ⟨0, 0, none⟩) ps.length ps.length :: topV :: topV :: .pointer (some ⟨1, 0, none⟩) :: topV :: .slice (some ⟨7, 0, none⟩) (o ++ lcL ps x (d - y).toNat y).length (o ++ lcL ps x (d - y).toNat y).length :: .int .i64 x :: topV :: topV :: topV :: topV :: topV :: topV :: topV :: topV :: topV :: topV :: topV :: topV :: topV :: topV :: topV :: topV :: topV :: topV :: topV :: topV :: topV :: topV :: topV :: topV :: topV :: topV :: topV :: topV :: topV :: topV :: topV :: topV :: topV :: topV :: topV :: topV :: topV :: topV :: topV :: topV :: topV :: topV :: topV :: topV :: topV :: topV :: topV :: topV :: topV :: topV :: topV :: topV :: topV :: topV :: []), [some ⟨.view, .ints (flat ps)⟩, some ⟨.box, .vals [.int .i64 a, .int .i64 b, .int .i64 c, .int .i64 d]⟩, some ⟨.dead, .vals []⟩, some ⟨.dead, .vals []⟩, some ⟨.dead, .vals []⟩, some ⟨.dead, .vals []⟩, some ⟨.dead, .vals []⟩, some ⟨.row 37 2, .ints (flat (o ++ lcL ps x (d - y).toNat y))⟩]⟩
set_option maxRecDepth 100000 in
theorem tr_lai (ps : List Pt) (a b c d x : Int) (y : Int) (o : List Pt) : bodyL Try.prog ELc 30 12 noL 2 c_lai k_lai 24 (s_lai ps a b c d x (y, o)) = brT (decide (y < d)) (.need (ps.length * (2 : Nat) ≤ (List.drop (0 : Nat) (flat ps)).length) (.need (allV (ptsA ps.length (List.drop (0 : Nat) (flat ps))) = true) (.need (ps.length ≤ (20 : Nat)) (.need (ptB x y = true) (brT (locA (ptsA ps.length (List.drop 0 (flat ps))) x y == 1) (.need ((o.length + (1 : Nat)) * (16 : Nat) ≤ (140737488355328 : Nat) ∧ o.length + (1 : Nat) ≤ (1000000 : Nat)) (.need ((0 : Nat) + o.length * (2 : Nat) ≤ (flat o).length) (.leaf .normal ⟨(.slice (some ⟨0, 0, none⟩) (ps.length) (ps.length) :: topV :: topV :: .pointer (some ⟨1, 0, none⟩) :: topV :: .slice (some ⟨10, 0, none⟩) (o.length + 1) (o.length + 1) :: .int .i64 (x) :: .int .i64 (IntKind.i64.wrap (y + 1)) :: topV :: topV :: topV :: topV :: topV :: topV :: topV :: topV :: topV :: topV :: topV :: topV :: topV :: topV :: topV :: topV :: topV :: topV :: topV :: topV :: topV :: topV :: topV :: topV :: topV :: topV :: topV :: topV :: topV :: topV :: topV :: topV :: topV :: topV :: topV :: topV :: topV :: topV :: topV :: topV :: topV :: topV :: topV :: topV :: topV :: topV :: topV :: topV :: topV :: topV :: topV :: topV :: topV :: []), [some ⟨.view, .ints (flat ps)⟩, some ⟨.box, .vals [.int .i64 (a), .int .i64 (b), .int .i64 (c), .int .i64 (d)]⟩, some deadB, some deadB, some deadB, some deadB, some deadB, some deadB, some ⟨.box, .vals [.int .i64 (x), .int .i64 (y)]⟩, some ⟨.row 37 2, .vals [.int .i64 (x), .int .i64 (y)]⟩, some ⟨.row 37 2, .ints (List.take (o.length * 2) (List.drop 0 (flat o)) ++ [x, y])⟩]⟩))) (.leaf .normal ⟨(.slice (some ⟨0, 0, none⟩) (ps.length) (ps.length) :: topV :: topV :: .pointer (some ⟨1, 0, none⟩) :: topV :: .slice (some ⟨7, 0, none⟩) (o.length) (o.length) :: .int .i64 (x) :: .int .i64 (IntKind.i64.wrap (y + 1)) :: topV :: topV :: topV :: topV :: topV :: topV :: topV :: topV :: topV :: topV :: topV :: topV :: topV :: topV :: topV :: topV :: topV :: topV :: topV :: topV :: topV :: topV :: topV :: topV :: topV :: topV :: topV :: topV :: topV :: topV :: topV :: topV :: topV :: topV :: topV :: topV :: topV :: topV :: topV :: topV :: topV :: topV :: topV :: topV :: topV :: topV :: topV :: topV :: topV :: topV :: topV :: topV :: topV :: []), [some ⟨.view, .ints (flat ps)⟩, some ⟨.box, .vals [.int .i64 (a), .int .i64 (b), .int .i64 (c), .int .i64 (d)]⟩, some deadB, some deadB, some deadB, some deadB, some deadB, some ⟨.row 37 2, .ints (flat o)⟩, some ⟨.box, .vals [.int .i64 (x), .int .i64 (y)]⟩]⟩)))))) (.leaf (.exit 2) ⟨(.slice (some ⟨0, 0, none⟩) (ps.length) (ps.length) :: topV :: topV :: .pointer (some ⟨1, 0, none⟩) :: topV :: .slice (some ⟨7, 0, none⟩) (o.length) (o.length) :: .int .i64 (x) :: topV :: topV :: topV :: topV :: topV :: topV :: topV :: topV :: topV :: topV :: topV :: topV :: topV :: topV :: topV :: topV :: topV :: topV :: topV :: topV :: topV :: topV :: topV :: topV :: topV :: topV :: topV :: topV :: topV :: topV :: topV :: topV :: topV :: topV :: topV :: topV :: topV :: topV :: topV :: topV :: topV :: topV :: topV :: topV :: topV :: topV :: topV :: topV :: topV :: topV :: topV :: topV :: topV :: topV :: []), [some ⟨.view, .ints (flat ps)⟩, some ⟨.box, .vals [.int .i64 (a), .int .i64 (b), .int .i64 (c), .int .i64 (d)]⟩, some deadB, some deadB, some deadB, some deadB, some deadB, some ⟨.row 37 2, .ints (flat o)⟩]⟩) := by kernel_rfl
set_option maxRecDepth 100000 in
theorem nl_lai : loopsOf c_lai = [] := by kernel_rfl
def inv_lai (ps : List Pt) (a b c d x : Int) : Int × (List Pt) → Prop := fun (y, o) => -1000 ≤ y ∧ (y ≤ d ∨ o = o) ∧ (o.length : Int) + (d - y).toNat ≤ 900000
def me_lai (ps : List Pt) (a b c d x : Int) : Int × (List Pt) → Nat := fun (y, o) => (d - y).toNat
/-- A round of this loop. -/
def Round_lai (ps : List Pt) (a b c d x : Int) : Prop := ∀ xx : Int × (List Pt), inv_lai ps a b c d x xx → (bodyL Try.prog ELc 30 12 noL 2 c_lai k_lai 24 (s_lai ps a b c d x xx)).ok (RoundEnd 7 (s_lai ps a b c d x) (inv_lai ps a b c d x) (me_lai ps a b c d x) re_lai (rs_lai ps a b c d x) xx) (fun _ _ => False)
def e_lai (s : St) (k : Ex → St → Tree) : Option Tree := match Nat.beq s.tmps.length 61, pickL s.tmps [0, 3, 5, 6, 7], s.mem with
  | true, [.slice (some ⟨0, 0, none⟩) n _, .pointer (some ⟨1, 0, none⟩), .slice (some ⟨6, 0, none⟩) z _, .int .i64 x, .int .i64 y], [some ⟨.view, .ints xs⟩, some ⟨.box, .vals [.int .i64 a, .int .i64 b, .int .i64 c, .int .i64 d]⟩, some ⟨.dead, .vals []⟩, some ⟨.dead, .vals []⟩, some ⟨.dead, .vals []⟩, some ⟨.dead, .vals []⟩, some ⟨.row 37 2, .ints ys⟩] => some (needs [xs.length = n * 2, n ≤ 20, allV (ptsA n xs) = true, -1000 ≤ x ∧ x ≤ 1000, -1000 ≤ y ∧ d ≤ 1000, ys.length = z * 2, z ≤ 800000] (k (.exit 2) ⟨(.slice (some ⟨0, 0, none⟩) n n :: topV :: topV :: .pointer (some ⟨1, 0, none⟩) :: topV :: .slice (some ⟨7, 0, none⟩) (ptsA z ys ++ lcL (ptsA n xs) x (d - y).toNat y).length (ptsA z ys ++ lcL (ptsA n xs) x (d - y).toNat y).length :: .int .i64 x :: topV :: topV :: topV :: topV :: topV :: topV :: topV :: topV :: topV :: topV :: topV :: topV :: topV :: topV :: topV :: topV :: topV :: topV :: topV :: topV :: topV :: topV :: topV :: topV :: topV :: topV :: topV :: topV :: topV :: topV :: topV :: topV :: topV :: topV :: topV :: topV :: topV :: topV :: topV :: topV :: topV :: topV :: topV :: topV :: topV :: topV :: topV :: topV :: topV :: topV :: topV :: topV :: topV :: topV :: []), [some ⟨.view, .ints xs⟩, some ⟨.box, .vals [.int .i64 a, .int .i64 b, .int .i64 c, .int .i64 d]⟩, some ⟨.dead, .vals []⟩, some ⟨.dead, .vals []⟩, some ⟨.dead, .vals []⟩, some ⟨.dead, .vals []⟩, some ⟨.dead, .vals []⟩, some ⟨.row 37 2, .ints (flat (ptsA z ys ++ lcL (ptsA n xs) x (d - y).toNat y))⟩]⟩))
  | _, _, _ => none
set_option maxRecDepth 100000 in
theorem round_lai (ps : List Pt) (a b c d x : Int) (h : ps.length ≤ 20) (hv : allV ps = true) (hx : -1000 ≤ x ∧ x ≤ 1000) (hd : d ≤ 1000) : Round_lai ps a b c d x := by
  rintro ⟨y, o⟩ ⟨h1, _, h2⟩
  rw [tr_lai]
  simp only [Int.toNat_natCast, Nat.zero_add, Nat.add_zero, flat_length, flatC, ptsA_flat]
  refine brT_ok.2 ⟨fun hlt => ?_, fun hge => ?_⟩
  · have hlt := of_decide_eq_true hlt
    have w : IntKind.i64.wrap (y + 1) = y + 1 := wr (by omega)
    have st := lcL_step (ps := ps) (x := x) hlt
    have hp : ptB x y = true := decide_eq_true (by omega)
    rw [w]
    simp only [List.drop_zero, ptsA_flat, flat_length, Tree.ok]
    refine ⟨Nat.le_refl _, hv, h, hp, brT_ok.2 ⟨fun g => ?_, fun g => ?_⟩⟩
    · rw [g, cond_true] at st
      rw [flat_snoc]
      refine ⟨⟨by omega, by omega⟩, Nat.le_refl _, (y + 1, o ++ [(x, y)]), [some 10], ⟨by omega, .inr rfl, by simp; omega⟩, ?_, rfl, ?_, ?_⟩
      · show (d - (y + 1)).toNat < (d - y).toNat; omega
      · simp only [rs_lai, st, List.append_assoc]
      · repeat' (first | exact True.intro | exact rfl | exact fun _ => rfl | (simp; done) | refine And.intro ?_ ?_)
    · rw [g, cond_false, List.nil_append] at st
      refine ⟨(y + 1, o), [some 7], ⟨by omega, .inr rfl, by omega⟩, ?_, rfl, ?_, ?_⟩
      · show (d - (y + 1)).toNat < (d - y).toNat; omega
      · simp only [rs_lai, st]
      · repeat' (first | exact True.intro | exact rfl | exact fun _ => rfl | (simp; done) | refine And.intro ?_ ?_)
  · have hge := of_decide_eq_false hge
    refine ⟨rfl, [some 7], ?_⟩
    simp only [rs_lai, lcL_end (ps := ps) (x := x) (y := y) (d := d) (by omega), List.append_nil]
    repeat' (first | exact True.intro | exact rfl | exact fun _ => rfl | (simp; done) | refine And.intro ?_ ?_)
set_option maxRecDepth 100000 in
theorem lg_lai : LoopE Try.prog e_lai c_lai := by
  intro s k t F H hlt ht
  unfold e_lai at hlt
  split at hlt
  rotate_left
  · cases hlt
  rename_i hlen hpick hmem
  obtain ⟨tmps, mem⟩ := s
  simp only at hlen hpick hmem
  subst hmem
  obtain rfl := Option.some.inj hlt
  obtain ⟨⟨h1, h2, h3, h4, h5, g1, g2, _⟩, ht2⟩ := needs_ok ht
  clear ht hlt
  obtain ⟨ps, rfl, rfl⟩ := even_flat h1
  obtain ⟨o, rfl, rfl⟩ := even_flat g1
  rw [ptsA_flat, ptsA_flat] at ht2
  rw [ptsA_flat] at h3
  refine ⟨_, _, ht2, loop_run2 mixed ELc_ok (s_lai ps _ _ _ _ _) (inv_lai ps _ _ _ _ _) (me_lai ps _ _ _ _ _) re_lai (rs_lai ps _ _ _ _ _) k_lai (fun _ => rfl) (noLoops nl_lai) (round_lai ps _ _ _ _ _ h2 h3 h4 h5.2) (x := (_, o)) ⟨h5.1, .inr rfl, by omega⟩ (π := [some 6]) rfl ?_⟩
  refine ⟨rfl, rfl, ?_, wvs_spread' [0, 3, 5, 6, 7] hlen rfl ?_⟩
  · repeat' (first | exact True.intro | exact rfl | exact wv_top _ _ | exact fun _ => rfl | assumption | exact Eq.symm (by assumption) | exact vI0 rfl | refine And.intro ?_ ?_)
  · rw [hpick]
    repeat' (first | exact True.intro | exact rfl | exact wv_top _ _ | exact fun _ => rfl | assumption | exact Eq.symm (by assumption) | exact vI0 rfl | refine And.intro ?_ ?_)
/-- Those of so many columns that are inside. -/
def lrL (ps : List Pt) (y0 d : Int) : Nat → Int → List Pt
  | 0, _ => []
  | m + 1, x => lcL ps x (d - y0).toNat y0 ++ lrL ps y0 d m (x + 1)
theorem lrL_step {ps : List Pt} {y0 d x c : Int} (h : x < c) : lrL ps y0 d (c - x).toNat x = lcL ps x (d - y0).toNat y0 ++ lrL ps y0 d (c - (x + 1)).toNat (x + 1) := by
  rw [show (c - x).toNat = (c - (x + 1)).toNat + 1 by omega]
  rfl
theorem lrL_end {ps : List Pt} {y0 d x c : Int} (h : c ≤ x) : lrL ps y0 d (c - x).toNat x = [] := by
  rw [show (c - x).toNat = 0 by omega]
  rfl
def ltLa : LT := fun j s k => match j with
  | 1 => e_lai s k
  | _ => none
noncomputable def c_lao : Code := ((loopsOf (codeOf Try.f44))[0]?).getD .skip
def k_lao : Ex → List Nat := keeps [0, 3, 5, 6] [(0, [5])] []
def s_lao (ps : List Pt) (a b c d : Int) : Int × (List Pt) → St := fun (x, o) => ⟨(.slice (some ⟨0, 0, none⟩) ps.length ps.length :: topV :: topV :: .pointer (some ⟨1, 0, none⟩) :: topV :: .slice (some ⟨6, 0, none⟩) o.length o.length :: .int .i64 x :: topV :: topV :: topV :: topV :: topV :: topV :: topV :: topV :: topV :: topV :: topV :: topV :: topV :: topV :: topV :: topV :: topV :: topV :: topV :: topV :: topV :: topV :: topV :: topV :: topV :: topV :: topV :: topV :: topV :: topV :: topV :: topV :: topV :: topV :: topV :: topV :: topV :: topV :: topV :: topV :: topV :: topV :: topV :: topV :: topV :: topV :: topV :: topV :: topV :: topV :: topV :: topV :: topV :: topV :: []), [some ⟨.view, .ints (flat ps)⟩, some ⟨.box, .vals [.int .i64 a, .int .i64 b, .int .i64 c, .int .i64 d]⟩, some ⟨.dead, .vals []⟩, some ⟨.dead, .vals []⟩, some ⟨.dead, .vals []⟩, some ⟨.dead, .vals []⟩, some ⟨.row 37 2, .ints (flat o)⟩]⟩
def re_lao : Int × (List Pt) → Ex := fun _ => .exit 0
def rs_lao (ps : List Pt) (a b c d : Int) : Int × (List Pt) → St := fun (x, o) => ⟨(topV :: topV :: topV :: topV :: topV :: .slice (some ⟨6, 0, none⟩) (o ++ lrL ps (b + 1) d (c - x).toNat x).length (o ++ lrL ps (b + 1) d (c - x).toNat x).length :: topV :: topV :: topV :: topV :: topV :: topV :: topV :: topV :: topV :: topV :: topV :: topV :: topV :: topV :: topV :: topV :: topV :: topV :: topV :: topV :: topV :: topV :: topV :: topV :: topV :: topV :: topV :: topV :: topV :: topV :: topV :: topV :: topV :: topV :: topV :: topV :: topV :: topV :: topV :: topV :: topV :: topV :: topV :: topV :: topV :: topV :: topV :: topV :: topV :: topV :: topV :: topV :: topV :: topV :: topV :: []), [some ⟨.view, .ints (flat ps)⟩, some ⟨.box, .vals [.int .i64 a, .int .i64 b, .int .i64 c, .int .i64 d]⟩, some ⟨.dead, .vals []⟩, some ⟨.dead, .vals []⟩, some ⟨.dead, .vals []⟩, some ⟨.dead, .vals []⟩, some ⟨.row 37 2, .ints (flat (o ++ lrL ps (b + 1) d (c - x).toNat x))⟩]⟩
set_option maxRecDepth 100000 in
theorem tr_lao (ps : List Pt) (a b c d : Int) (x : Int) (o : List Pt) : bodyL Try.prog ELc 30 12 ltLa 1 c_lao k_lao 24 (s_lao ps a b c d (x, o)) = brT (decide (x < c)) (.need ((flat ps).length = ps.length * (2 : Nat)) (.need (ps.length ≤ (20 : Nat)) (.need (allV (ptsA ps.length (flat ps)) = true) (.need ((-1000 : Int) ≤ x ∧ x ≤ (1000 : Int)) (.need ((-1000 : Int) ≤ IntKind.i64.wrap (b + (1 : Int)) ∧ d ≤ (1000 : Int)) (.need ((flat o).length = o.length * (2 : Nat)) (.need (o.length ≤ (800000 : Nat)) (.leaf .normal ⟨(.slice (some ⟨0, 0, none⟩) (ps.length) (ps.length) :: topV :: topV :: .pointer (some ⟨1, 0, none⟩) :: topV :: .slice (some ⟨7, 0, none⟩) ((ptsA o.length (flat o) ++ lcL (ptsA ps.length (flat ps)) x (d - IntKind.i64.wrap (b + 1)).toNat (IntKind.i64.wrap (b + 1))).length) ((ptsA o.length (flat o) ++ lcL (ptsA ps.length (flat ps)) x (d - IntKind.i64.wrap (b + 1)).toNat (IntKind.i64.wrap (b + 1))).length) :: .int .i64 (IntKind.i64.wrap (x + 1)) :: topV :: topV :: topV :: topV :: topV :: topV :: topV :: topV :: topV :: topV :: topV :: topV :: topV :: topV :: topV :: topV :: topV :: topV :: topV :: topV :: topV :: topV :: topV :: topV :: topV :: topV :: topV :: topV :: topV :: topV :: topV :: topV :: topV :: topV :: topV :: topV :: topV :: topV :: topV :: topV :: topV :: topV :: topV :: topV :: topV :: topV :: topV :: topV :: topV :: topV :: topV :: topV :: topV :: topV :: []), [some ⟨.view, .ints (flat ps)⟩, some ⟨.box, .vals [.int .i64 (a), .int .i64 (b), .int .i64 (c), .int .i64 (d)]⟩, some deadB, some deadB, some deadB, some deadB, some deadB, some ⟨.row 37 2, .ints (flat (ptsA o.length (flat o) ++ lcL (ptsA ps.length (flat ps)) x (d - IntKind.i64.wrap (b + 1)).toNat (IntKind.i64.wrap (b + 1))))⟩]⟩)))))))) (.leaf (.exit 0) ⟨(topV :: topV :: topV :: topV :: topV :: .slice (some ⟨6, 0, none⟩) (o.length) (o.length) :: topV :: topV :: topV :: topV :: topV :: topV :: topV :: topV :: topV :: topV :: topV :: topV :: topV :: topV :: topV :: topV :: topV :: topV :: topV :: topV :: topV :: topV :: topV :: topV :: topV :: topV :: topV :: topV :: topV :: topV :: topV :: topV :: topV :: topV :: topV :: topV :: topV :: topV :: topV :: topV :: topV :: topV :: topV :: topV :: topV :: topV :: topV :: topV :: topV :: topV :: topV :: topV :: topV :: topV :: topV :: []), [some ⟨.view, .ints (flat ps)⟩, some ⟨.box, .vals [.int .i64 (a), .int .i64 (b), .int .i64 (c), .int .i64 (d)]⟩, some deadB, some deadB, some deadB, some deadB, some ⟨.row 37 2, .ints (flat o)⟩]⟩) := by kernel_rfl
def inv_lao (ps : List Pt) (a b c d : Int) : Int × (List Pt) → Prop := fun (x, o) => -1000 ≤ x ∧ o.length + (c - x).toNat * (d - (b + 1)).toNat ≤ 1000
def me_lao (ps : List Pt) (a b c d : Int) : Int × (List Pt) → Nat := fun (x, o) => (c - x).toNat
/-- A round of this loop. -/
def Round_lao (ps : List Pt) (a b c d : Int) : Prop := ∀ xx : Int × (List Pt), inv_lao ps a b c d xx → (bodyL Try.prog ELc 30 12 ltLa 1 c_lao k_lao 24 (s_lao ps a b c d xx)).ok (RoundEnd 6 (s_lao ps a b c d) (inv_lao ps a b c d) (me_lao ps a b c d) re_lao (rs_lao ps a b c d) xx) (fun _ _ => False)
def e_lao (s : St) (k : Ex → St → Tree) : Option Tree := match Nat.beq s.tmps.length 61, pickL s.tmps [0, 3, 5, 6], s.mem with
  | true, [.slice (some ⟨0, 0, none⟩) n _, .pointer (some ⟨1, 0, none⟩), .slice none 0 0, .int .i64 x], [some ⟨.view, .ints xs⟩, some ⟨.box, .vals [.int .i64 a, .int .i64 b, .int .i64 c, .int .i64 d]⟩, some ⟨.box, .vals q1⟩, some ⟨.box, .vals q2⟩, some ⟨.box, .vals q3⟩, some ⟨.box, .vals q4⟩] => some (needs [xs.length = n * 2, n ≤ 20, allV (ptsA n xs) = true, -1000 ≤ x ∧ c ≤ 1000, -1001 ≤ b ∧ b ≤ 1000 ∧ d ≤ 1000, (c - x).toNat * (d - (b + 1)).toNat ≤ 1000] (k (.exit 0) ⟨(topV :: topV :: topV :: topV :: topV :: .slice (some ⟨6, 0, none⟩) (lrL (ptsA n xs) (b + 1) d (c - x).toNat x).length (lrL (ptsA n xs) (b + 1) d (c - x).toNat x).length :: topV :: topV :: topV :: topV :: topV :: topV :: topV :: topV :: topV :: topV :: topV :: topV :: topV :: topV :: topV :: topV :: topV :: topV :: topV :: topV :: topV :: topV :: topV :: topV :: topV :: topV :: topV :: topV :: topV :: topV :: topV :: topV :: topV :: topV :: topV :: topV :: topV :: topV :: topV :: topV :: topV :: topV :: topV :: topV :: topV :: topV :: topV :: topV :: topV :: topV :: topV :: topV :: topV :: topV :: topV :: []), [some ⟨.view, .ints xs⟩, some ⟨.box, .vals [.int .i64 a, .int .i64 b, .int .i64 c, .int .i64 d]⟩, some ⟨.dead, .vals []⟩, some ⟨.dead, .vals []⟩, some ⟨.dead, .vals []⟩, some ⟨.dead, .vals []⟩, some ⟨.row 37 2, .ints (flat (lrL (ptsA n xs) (b + 1) d (c - x).toNat x))⟩]⟩))
  | _, _, _ => none
set_option maxRecDepth 100000 in
theorem in_lao : loopsOf c_lao = [c_lai] := by kernel_rfl
theorem ltLa_good : LoopsGood Try.prog ltLa 1 c_lao := by
  intro i d hd s k t F H hlt ht
  rw [in_lao] at hd
  cases i with
  | zero =>
    obtain rfl : c_lai = d := by simpa using hd
    exact lg_lai s k t F H hlt ht
  | succ i => simp at hd
set_option maxRecDepth 100000 in
theorem round_lao (ps : List Pt) (a b c d : Int) (h : ps.length ≤ 20) (hv : allV ps = true) (hc : c ≤ 1000) (hb : -1001 ≤ b ∧ b ≤ 1000 ∧ d ≤ 1000) : Round_lao ps a b c d := by
  rintro ⟨x, o⟩ ⟨h1, h2⟩
  rw [tr_lao]
  simp only [Int.toNat_natCast, Nat.zero_add, Nat.add_zero, flat_length, flatC, ptsA_flat]
  refine brT_ok.2 ⟨fun hlt => ?_, fun hge => ?_⟩
  · have hlt := of_decide_eq_true hlt
    have w1 : IntKind.i64.wrap (x + 1) = x + 1 := wr (by omega)
    have w2 : IntKind.i64.wrap (b + 1) = b + 1 := wr (by omega)
    have st := lrL_step (ps := ps) (y0 := b + 1) (d := d) hlt
    have hl := lcL_len ps x (d - (b + 1)).toNat (b + 1)
    have e : (c - x).toNat = (c - (x + 1)).toNat + 1 := by omega
    rw [e, Nat.add_mul, Nat.one_mul] at h2
    rw [w1, w2]
    simp only [Tree.ok]
    refine ⟨trivial, h, hv, by omega, by omega, trivial, by omega, (x + 1, o ++ lcL ps x (d - (b + 1)).toNat (b + 1)), [some 7], ⟨by omega, ?_⟩, ?_, rfl, ?_, ?_⟩
    · rw [List.length_append]
      omega
    · show (c - (x + 1)).toNat < (c - x).toNat; omega
    · simp only [rs_lao, st, List.append_assoc]
    · repeat' (first | exact True.intro | exact rfl | exact fun _ => rfl | (simp; done) | refine And.intro ?_ ?_)
  · have hge := of_decide_eq_false hge
    refine ⟨rfl, [some 6], ?_⟩
    simp only [rs_lao, lrL_end (ps := ps) (y0 := b + 1) (d := d) (x := x) (c := c) (by omega), List.append_nil]
    repeat' (first | exact True.intro | exact rfl | exact fun _ => rfl | (simp; done) | refine And.intro ?_ ?_)
set_option maxRecDepth 100000 in
theorem lg_lao : LoopE Try.prog e_lao c_lao := by
  intro s k t F H hlt ht
  unfold e_lao at hlt
  split at hlt
  rotate_left
  · cases hlt
  rename_i hlen hpick hmem
  obtain ⟨tmps, mem⟩ := s
  simp only at hlen hpick hmem
  subst hmem
  obtain rfl := Option.some.inj hlt
  obtain ⟨⟨h1, h2, h3, h4, h5, h6, _⟩, ht2⟩ := needs_ok ht
  clear ht hlt
  obtain ⟨ps, rfl, rfl⟩ := even_flat h1
  rw [ptsA_flat] at ht2 h3
  refine ⟨_, _, ht2, loop_run2 mixed ELc_ok (s_lao ps _ _ _ _) (inv_lao ps _ _ _ _) (me_lao ps _ _ _ _) re_lao (rs_lao ps _ _ _ _) k_lao (fun _ => rfl) ltLa_good (round_lao ps _ _ _ _ h2 h3 h4.2 h5) (x := (_, [])) ⟨h4.1, by simpa using h6⟩ (π := [none]) rfl ?_⟩
  refine ⟨rfl, rfl, ?_, wvs_spread' [0, 3, 5, 6] hlen rfl ?_⟩
  · repeat' (first | exact True.intro | exact rfl | exact wv_top _ _ | exact fun _ => rfl | assumption | exact Eq.symm (by assumption) | exact vI0 rfl | refine And.intro ?_ ?_)
  · rw [hpick]
    repeat' (first | exact True.intro | exact rfl | exact wv_top _ _ | exact fun _ => rfl | assumption | exact Eq.symm (by assumption) | exact vI0 rfl | refine And.intro ?_ ?_)
end Go.Proofs.Ytpjdnplpiamjcaa
namespace Go.Proofs.Ytpjdnplpiamjcaa
set_option linter.all false
open Go.RowKit
def crP (a b c : Pt) : Int := crossI a.1 a.2 b.1 b.2 c.1 c.2
end Go.Proofs.Ytpjdnplpiamjcaa
namespace Go.Proofs.Ytpjdnplpiamjcaa
set_option linter.all false
open Go.RowKit
/-- A vector that leads on in the order of points. -/
def posV (u : Pt) : Prop := 0 < u.1 ∨ u.1 = 0 ∧ 0 < u.2
def cr2 (u v : Pt) : Int := u.1 * v.2 - u.2 * v.1
def dif (b a : Pt) : Pt := (b.1 - a.1, b.2 - a.2)
theorem cr_tr {u v w : Pt} (hu : posV u) (hv : posV v) (hw : posV w) (h1 : 0 ≤ cr2 u v) (h2 : 0 ≤ cr2 v w) : 0 ≤ cr2 u w ∧ (0 < cr2 u v ∨ 0 < cr2 v w → 0 < cr2 u w) := by
  obtain ⟨a, b⟩ := u
  obtain ⟨c, d⟩ := v
  obtain ⟨e, f⟩ := w
  unfold posV cr2 at *
  simp only at *
  rcases hv with hc | ⟨rfl, hd⟩
  · have ha : 0 < a := by
      rcases hu with h | ⟨rfl, hb⟩
      · exact h
      · have := Int.mul_pos hb hc
        omega
    rcases hw with he | ⟨rfl, hf⟩
    · have id : c * (a * f - b * e) = a * (c * f - d * e) + e * (a * d - b * c) := by grind
      have n1 := Int.mul_nonneg (Int.le_of_lt ha) h2
      have n2 := Int.mul_nonneg (Int.le_of_lt he) h1
      generalize a * f - b * e = X at *
      refine ⟨?_, fun h => ?_⟩
      · rcases Int.lt_or_le X 0 with h | h
        · have := Int.mul_neg_of_pos_of_neg hc h
          omega
        · exact h
      · rcases Int.lt_or_le 0 X with h' | h'
        · exact h'
        · have := Int.mul_nonpos_of_nonneg_of_nonpos (Int.le_of_lt hc) h'
          rcases h with h | h
          · have := Int.mul_pos he h
            omega
          · have := Int.mul_pos ha h
            omega
    · have := Int.mul_pos ha hf
      omega
  · have he : e = 0 ∧ 0 < f := by
      rcases hw with h | h
      · have := Int.mul_pos hd h
        omega
      · exact h
    obtain ⟨rfl, hf⟩ := he
    have ha : 0 ≤ a := by omega
    have n1 := Int.mul_nonneg ha (Int.le_of_lt hf)
    refine ⟨by omega, fun h => ?_⟩
    have : 0 < a := by
      rcases Int.lt_or_le 0 a with h' | h'
      · exact h'
      · obtain rfl : a = 0 := by omega
        omega
    have := Int.mul_pos this hf
    omega
theorem plt_pos {a b : Pt} : pltB a b = true ↔ posV (dif b a) := by
  rw [pltB_iff]
  unfold posV dif
  simp only
  omega
theorem oP_tri (a b : Pt) : a = b ∨ pltB a b = true ∨ pltB b a = true := by
  obtain ⟨a1, a2⟩ := a
  obtain ⟨b1, b2⟩ := b
  simp only [pltB_iff, Prod.mk.injEq]
  omega
theorem oP_trans {a b c : Pt} (h1 : pltB a b = true) (h2 : pltB b c = true) : pltB a c = true := by
  rw [pltB_iff] at *
  omega
theorem oP_irr {a : Pt} (h : pltB a a = true) : False := by
  rw [pltB_iff] at h
  omega
theorem oP_asym {a b : Pt} (h1 : pltB a b = true) (h2 : pltB b a = true) : False := oP_irr (oP_trans h1 h2)
def Dsc (R : List Pt) : Prop := R.Pairwise fun a b => pltB b a = true
def Cvx : List Pt → Prop
  | c :: b :: a :: r => 0 < crP a b c ∧ Cvx (b :: a :: r)
  | _ => True
def Lft (S : Pt → Prop) : List Pt → Prop
  | b :: a :: r => (∀ q, S q → 0 ≤ crP a b q) ∧ Lft S (a :: r)
  | _ => True
def Bot (S : Pt → Prop) (R : List Pt) : Prop := ∃ m, R.getLast? = some m ∧ ∀ q, S q → q = m ∨ pltB m q = true
def Top (S : Pt → Prop) (R : List Pt) : Prop := ∃ m, R.head? = some m ∧ ∀ q, S q → q = m ∨ pltB q m = true
/-- The chain of a set of points. -/
structure ChI (S : Pt → Prop) (R : List Pt) : Prop where
  mem : ∀ z ∈ R, S z
  dsc : Dsc R
  cvx : Cvx R
  lft : Lft S R
  bot : Bot S R
  top : Top S R
theorem Cvx.tail {b : Pt} {R : List Pt} (h : Cvx (b :: R)) : Cvx R := by
  match R, h with
  | [], _ => trivial
  | [_], _ => trivial
  | _ :: _ :: _, h => exact h.2
theorem Lft.tail {S : Pt → Prop} {b : Pt} {R : List Pt} (h : Lft S (b :: R)) : Lft S R := by
  match R, h with
  | [], _ => trivial
  | _ :: _, h => exact h.2
theorem Dsc.tail {b : Pt} {R : List Pt} (h : Dsc (b :: R)) : Dsc R := (List.pairwise_cons.1 h).2
theorem Dsc.lt {b a : Pt} {R : List Pt} (h : Dsc (b :: R)) (ha : a ∈ R) : pltB a b = true := (List.pairwise_cons.1 h).1 a ha
theorem ChI.ext {S T : Pt → Prop} {R : List Pt} (h : ChI S R) (e : ∀ q, S q ↔ T q) : ChI T R := by
  have : S = T := funext fun q => propext (e q)
  rw [← this]
  exact h
/-- The last of a chain, the least of all. -/
theorem ChI.tail {S : Pt → Prop} {b a : Pt} {R : List Pt} (h : ChI S (b :: a :: R)) : (∀ z ∈ a :: R, S z) ∧ Dsc (a :: R) ∧ Cvx (a :: R) ∧ Lft S (a :: R) ∧ Bot S (a :: R) := by
  refine ⟨fun z hz => h.mem z (List.mem_cons_of_mem _ hz), h.dsc.tail, h.cvx.tail, h.lft.tail, ?_⟩
  obtain ⟨m, h1, h2⟩ := h.bot
  exact ⟨m, by rw [List.getLast?_cons_cons] at h1; exact h1, h2⟩
/-- Two chains with the same top: the next is the same. -/
theorem next_le {S : Pt → Prop} {b a a' : Pt} {r' : List Pt} (ha : S a) (hd : pltB a b = true) (hl : ∀ q, S q → 0 ≤ crP a b q) (hm' : ∀ z ∈ b :: a' :: r', S z) (hd' : Dsc (b :: a' :: r')) (hc' : Cvx (b :: a' :: r')) (hl' : Lft S (b :: a' :: r')) (hb' : Bot S (b :: a' :: r')) : ¬ pltB a a' = true := by
  intro hlt
  have hab' : pltB a' b = true := hd'.lt (by simp)
  have k1 := hl a' (hm' a' (by simp))
  have k2 := hl'.1 a ha
  have e1 : crP a b a' = cr2 (dif b a') (dif a' a) := by unfold crP crossI cr2 dif; simp only; grind
  have e2 : crP a' b a = -cr2 (dif b a') (dif a' a) := by unfold crP crossI cr2 dif; simp only; grind
  match r', hm', hd', hc', hl', hb' with
  | [], hm', hd', hc', hl', hb' =>
    obtain ⟨m, h1, h2⟩ := hb'
    obtain rfl : a' = m := by simpa using h1
    rcases h2 a ha with rfl | h
    · exact oP_irr hlt
    · exact oP_asym hlt h
  | c :: t, hm', hd', hc', hl', hb' =>
    have hca : pltB c a' = true := hd'.tail.lt (by simp)
    have k3 := hc'.1
    have k4 := hl'.2.1 a ha
    have e3 : crP c a' b = cr2 (dif a' c) (dif b a') := by unfold crP crossI cr2 dif; simp only; grind
    have e4 : crP c a' a = cr2 (dif a' a) (dif a' c) := by unfold crP crossI cr2 dif; simp only; grind
    have := (cr_tr (plt_pos.1 hlt) (plt_pos.1 hca) (plt_pos.1 hab') (by omega) (by omega)).2 (.inr (by omega))
    have e5 : cr2 (dif b a') (dif a' a) = -cr2 (dif a' a) (dif b a') := by unfold cr2 dif; simp only; grind
    omega
theorem chain_eq {S : Pt → Prop} : ∀ {r r' : List Pt} {b : Pt}, (∀ z ∈ b :: r, S z) → Dsc (b :: r) → Cvx (b :: r) → Lft S (b :: r) → Bot S (b :: r) → (∀ z ∈ b :: r', S z) → Dsc (b :: r') → Cvx (b :: r') → Lft S (b :: r') → Bot S (b :: r') → r = r'
  | [], [], _, _, _, _, _, _, _, _, _, _, _ => rfl
  | [], a' :: r', b, hm, hd, hc, hl, hb, hm', hd', hc', hl', hb' => by
    obtain ⟨m, h1, h2⟩ := hb
    obtain rfl : b = m := by simpa using h1
    have h3 : pltB a' b = true := hd'.lt (by simp)
    rcases h2 a' (hm' a' (by simp)) with rfl | h
    · exact (oP_irr h3).elim
    · exact (oP_asym h3 h).elim
  | a :: r, [], b, hm, hd, hc, hl, hb, hm', hd', hc', hl', hb' => by
    obtain ⟨m, h1, h2⟩ := hb'
    obtain rfl : b = m := by simpa using h1
    have h3 : pltB a b = true := hd.lt (by simp)
    rcases h2 a (hm a (by simp)) with rfl | h
    · exact (oP_irr h3).elim
    · exact (oP_asym h3 h).elim
  | a :: r, a' :: r', b, hm, hd, hc, hl, hb, hm', hd', hc', hl', hb' => by
    have h1 := next_le (hm a (by simp)) (hd.lt (by simp)) hl.1 hm' hd' hc' hl' hb'
    have h2 := next_le (hm' a' (by simp)) (hd'.lt (by simp)) hl'.1 hm hd hc hl hb
    have e : a = a' := by
      rcases oP_tri a a' with h | h | h
      · exact h
      · exact absurd h h1
      · exact absurd h h2
    subst e
    have bt : ∀ {t : List Pt}, Bot S (b :: a :: t) → Bot S (a :: t) := fun {t} h => by
      obtain ⟨m, q1, q2⟩ := h
      exact ⟨m, by rw [List.getLast?_cons_cons] at q1; exact q1, q2⟩
    rw [chain_eq (fun z hz => hm z (List.mem_cons_of_mem _ hz)) hd.tail hc.tail hl.2 (bt hb) (fun z hz => hm' z (List.mem_cons_of_mem _ hz)) hd'.tail hc'.tail hl'.2 (bt hb')]
/-- A chain of a set is the only one. -/
theorem ChI.uniq {S : Pt → Prop} {R R' : List Pt} (h : ChI S R) (h' : ChI S R') : R = R' := by
  obtain ⟨m, h1, h2⟩ := h.top
  obtain ⟨m', h1', h2'⟩ := h'.top
  match R, R', h, h', h1, h1' with
  | b :: r, b' :: r', h, h', h1, h1' =>
    obtain rfl : b = m := by simpa using h1
    obtain rfl : b' = m' := by simpa using h1'
    have e : b = b' := by
      rcases h2 b' (h'.mem b' (by simp)) with e | e
      · exact e.symm
      · rcases h2' b (h.mem b (by simp)) with e' | e'
        · exact e'
        · exact (oP_asym e e').elim
    subst e
    rw [chain_eq h.mem h.dsc h.cvx h.lft h.bot h'.mem h'.dsc h'.cvx h'.lft h'.bot]
end Go.Proofs.Ytpjdnplpiamjcaa
namespace Go.Proofs.Ytpjdnplpiamjcaa
set_option linter.all false
open Go.RowKit
theorem allQ_iff {P : Nat → Bool} {n : Nat} : allQ P 0 n = true ↔ ∀ j, j < n → P j = true := by
  constructor
  · intro h j hj
    rcases hp : P j with _ | _
    · rw [allQ_no hj hp] at h
      cases h
    · rfl
  · exact fun h => allQ_all _ _ fun j _ h2 => h j (by omega)
end Go.Proofs.Ytpjdnplpiamjcaa
namespace Go.Proofs.Ytpjdnplpiamjcaa
set_option linter.all false
open Go.RowKit
theorem issI_ok {ps : List Pt} (h : issI ps = true) : allV ps = true ∧ ps.length ≤ 20 ∧ 3 ≤ ps.length := by
  unfold issI okL at h
  simp only [Bool.and_eq_true, decide_eq_true_eq] at h
  exact ⟨h.1.2.1, h.1.2.2, h.1.1⟩
end Go.Proofs.Ytpjdnplpiamjcaa
namespace Go.Proofs.Ytpjdnplpiamjcaa
set_option linter.all false
open Go.RowKit
theorem noE_iff {ps : List Pt} {x y : Int} : noE ps x y = true ↔ ∀ j, j < ps.length → hsE ps x y j = false := by
  unfold noE
  rw [allQ_iff]
  exact ⟨fun h j hj => by simpa using h j hj, fun h j hj => by simpa using h j hj⟩
end Go.Proofs.Ytpjdnplpiamjcaa
namespace Go.Proofs.Ytpjdnplpiamjcaa
set_option linter.all false
open Go.RowKit
theorem pl_cycle {ps : List Pt} {x y : Int} {f : Nat → Bool} (h0 : 0 < ps.length) (h : ∀ j, j < ps.length → rtE ps x y j = (f j != f ((j + 1) % ps.length))) : plA ps x y ps.length = -1 := by
  have key : ∀ i, i < ps.length → plA ps x y i = bif f 0 != f i then 1 else -1 := by
    intro i
    induction i with
    | zero => intro _; simp [plA]
    | succ i ih =>
      intro hi
      have e := h i (by omega)
      rw [Nat.mod_eq_of_lt hi] at e
      simp only [plA]
      rw [ih (by omega), e]
      cases f 0 <;> cases f i <;> cases f (i + 1) <;> rfl
  obtain ⟨m, hm⟩ : ∃ m, ps.length = m + 1 := ⟨ps.length - 1, by omega⟩
  have e := h m (by omega)
  have k := key m (by omega)
  rw [hm, Nat.mod_self] at e
  rw [hm]
  simp only [plA]
  rw [k, e]
  cases f 0 <;> cases f m <;> rfl
theorem lt_of_ne0 {x : Int} (h : 0 ≤ x) (hn : x ≠ 0) : 0 < x := by omega
theorem hasB_at {a b : Pt} {x y : Int} (h : hasB a.1 a.2 b.1 b.2 x y = false) (hc : (a.1 - x) * (b.2 - y) - (a.2 - y) * (b.1 - x) = 0) : 0 < (a.1 - x) * (b.1 - x) + (a.2 - y) * (b.2 - y) := by
  unfold hasB at h
  rw [hc] at h
  simp only [beq_self_eq_true, Bool.true_and, decide_eq_false_iff_not] at h
  omega
theorem cr_at (a b : Pt) (x y : Int) : crossI a.1 a.2 b.1 b.2 x y = (a.1 - x) * (b.2 - y) - (a.2 - y) * (b.1 - x) := by unfold crossI; grind
/-- Above all. -/
theorem bord_top {ps : List Pt} {x y : Int} (h0 : 0 < ps.length) (h : ∀ p ∈ ps, p.2 ≤ y) : plA ps x y ps.length = -1 := by
  refine pl_cycle (f := fun _ => false) h0 fun j hj => ?_
  have a := h (ps.getD j (0, 0)) (by simp [hj])
  have b := h (nxP ps j) (by unfold nxP; simp [Nat.mod_lt _ h0])
  unfold rtE
  rw [decide_eq_false (show ¬ y < (ps.getD j (0, 0)).2 by omega), decide_eq_false (show ¬ y < (nxP ps j).2 by omega)]
  rfl
/-- Left of all. -/
theorem bord_left {ps : List Pt} {x y : Int} (h0 : 0 < ps.length) (hn : noE ps x y = true) (h : ∀ p ∈ ps, x ≤ p.1) : plA ps x y ps.length = -1 := by
  refine pl_cycle (f := fun j => decide (y < (ps.getD j (0, 0)).2)) h0 fun j hj => ?_
  have a := h (ps.getD j (0, 0)) (by simp [hj])
  have b := h (nxP ps j) (by unfold nxP; simp [Nat.mod_lt _ h0])
  have hs := noE_iff.1 hn j hj
  unfold hsE at hs
  show rtE ps x y j = (decide (y < (ps.getD j (0, 0)).2) != decide (y < (nxP ps j).2))
  unfold rtE
  rw [cr_at]
  generalize ps.getD j (0, 0) = p at *
  generalize nxP ps j = q at *
  by_cases c1 : y < p.2 <;> by_cases c2 : y < q.2
  · rw [decide_eq_true c1, decide_eq_true c2]; rfl
  · have m1 : (p.1 - x) * (q.2 - y) ≤ 0 := Int.mul_nonpos_of_nonneg_of_nonpos (by omega) (by omega)
    have m2 : 0 ≤ (p.2 - y) * (q.1 - x) := Int.mul_nonneg (by omega) (by omega)
    rw [decide_eq_true c1, decide_eq_false c2, decide_eq_false (show ¬ 0 < (p.1 - x) * (q.2 - y) - (p.2 - y) * (q.1 - x) by omega)]
    rfl
  · have m1 : 0 ≤ (p.1 - x) * (q.2 - y) := Int.mul_nonneg (by omega) (by omega)
    have m2 : (p.2 - y) * (q.1 - x) ≤ 0 := Int.mul_nonpos_of_nonpos_of_nonneg (by omega) (by omega)
    have m3 : 0 < (p.1 - x) * (q.2 - y) - (p.2 - y) * (q.1 - x) := by
      refine lt_of_ne0 (by omega) fun e => ?_
      have hd := hasB_at hs e
      have z1 : (p.1 - x) * (q.2 - y) = 0 := by omega
      have z2 : p.1 - x = 0 := (Int.mul_eq_zero.1 z1).resolve_right (by omega)
      have m4 : (p.2 - y) * (q.2 - y) ≤ 0 := Int.mul_nonpos_of_nonpos_of_nonneg (by omega) (by omega)
      rw [z2, Int.zero_mul] at hd
      omega
    rw [decide_eq_false c1, decide_eq_true c2, decide_eq_true m3]
    rfl
  · rw [decide_eq_false c1, decide_eq_false c2]; rfl
/-- Right of all. -/
theorem bord_right {ps : List Pt} {x y : Int} (h0 : 0 < ps.length) (hn : noE ps x y = true) (h : ∀ p ∈ ps, p.1 ≤ x) : plA ps x y ps.length = -1 := by
  refine pl_cycle (f := fun _ => false) h0 fun j hj => ?_
  have a := h (ps.getD j (0, 0)) (by simp [hj])
  have b := h (nxP ps j) (by unfold nxP; simp [Nat.mod_lt _ h0])
  have hs := noE_iff.1 hn j hj
  unfold hsE at hs
  show rtE ps x y j = false
  unfold rtE
  rw [cr_at]
  generalize ps.getD j (0, 0) = p at *
  generalize nxP ps j = q at *
  by_cases c1 : y < p.2 <;> by_cases c2 : y < q.2
  · rw [decide_eq_true c1, decide_eq_true c2]; rfl
  · have m1 : 0 ≤ (p.1 - x) * (q.2 - y) := Int.mul_nonneg_of_nonpos_of_nonpos (by omega) (by omega)
    have m2 : (p.2 - y) * (q.1 - x) ≤ 0 := Int.mul_nonpos_of_nonneg_of_nonpos (by omega) (by omega)
    have m3 : 0 < (p.1 - x) * (q.2 - y) - (p.2 - y) * (q.1 - x) := by
      refine lt_of_ne0 (by omega) fun e => ?_
      have hd := hasB_at hs e
      have z1 : (p.2 - y) * (q.1 - x) = 0 := by omega
      have z2 : q.1 - x = 0 := (Int.mul_eq_zero.1 z1).resolve_left (by omega)
      have m4 : (p.2 - y) * (q.2 - y) ≤ 0 := Int.mul_nonpos_of_nonneg_of_nonpos (by omega) (by omega)
      rw [z2, Int.mul_zero] at hd
      omega
    rw [decide_eq_true c1, decide_eq_false c2, decide_eq_true m3]
    rfl
  · have m1 : (p.1 - x) * (q.2 - y) ≤ 0 := Int.mul_nonpos_of_nonpos_of_nonneg (by omega) (by omega)
    have m2 : 0 ≤ (p.2 - y) * (q.1 - x) := Int.mul_nonneg_of_nonpos_of_nonpos (by omega) (by omega)
    rw [decide_eq_false c1, decide_eq_true c2, decide_eq_false (show ¬ 0 < (p.1 - x) * (q.2 - y) - (p.2 - y) * (q.1 - x) by omega)]
    rfl
  · rw [decide_eq_false c1, decide_eq_false c2]; rfl
/-- Under all. -/
theorem bord_bottom {ps : List Pt} {x y : Int} (h0 : 0 < ps.length) (hn : noE ps x y = true) (h : ∀ p ∈ ps, y ≤ p.2) : plA ps x y ps.length = -1 := by
  refine pl_cycle (f := fun j => decide ((ps.getD j (0, 0)).2 = y) && decide (x < (ps.getD j (0, 0)).1)) h0 fun j hj => ?_
  have a := h (ps.getD j (0, 0)) (by simp [hj])
  have b := h (nxP ps j) (by unfold nxP; simp [Nat.mod_lt _ h0])
  have hs := noE_iff.1 hn j hj
  unfold hsE at hs
  show rtE ps x y j = ((decide ((ps.getD j (0, 0)).2 = y) && decide (x < (ps.getD j (0, 0)).1)) != (decide ((nxP ps j).2 = y) && decide (x < (nxP ps j).1)))
  unfold rtE
  rw [cr_at]
  generalize ps.getD j (0, 0) = p at *
  generalize nxP ps j = q at *
  by_cases c1 : p.2 = y <;> by_cases c2 : q.2 = y
  · rw [decide_eq_false (show ¬ y < p.2 by omega), decide_eq_false (show ¬ y < q.2 by omega), decide_eq_true c1, decide_eq_true c2]
    have hd := hasB_at hs (by rw [c1, c2]; simp)
    rw [c1, c2, Int.sub_self, Int.zero_mul, Int.add_zero] at hd
    have : (x < p.1) ↔ (x < q.1) := by
      constructor
      · intro g
        rcases Int.lt_or_le x q.1 with g2 | g2
        · exact g2
        · have := Int.mul_nonpos_of_nonneg_of_nonpos (a := p.1 - x) (b := q.1 - x) (by omega) (by omega)
          omega
      · intro g
        rcases Int.lt_or_le x p.1 with g2 | g2
        · exact g2
        · have := Int.mul_nonpos_of_nonpos_of_nonneg (a := p.1 - x) (b := q.1 - x) (by omega) (by omega)
          omega
    simp only [this]
    cases decide (x < q.1) <;> rfl
  · have e : (p.1 - x) * (q.2 - y) - (p.2 - y) * (q.1 - x) = (p.1 - x) * (q.2 - y) := by rw [c1]; simp
    rw [e, decide_eq_false (show ¬ y < p.2 by omega), decide_eq_true (show y < q.2 by omega), decide_eq_true c1, decide_eq_false c2]
    have : (0 < (p.1 - x) * (q.2 - y)) ↔ x < p.1 := by
      constructor
      · intro g
        rcases Int.lt_or_le x p.1 with g2 | g2
        · exact g2
        · have := Int.mul_nonpos_of_nonpos_of_nonneg (a := p.1 - x) (b := q.2 - y) (by omega) (by omega)
          omega
      · intro g
        exact Int.mul_pos (by omega) (by omega)
    simp only [this]
    cases decide (x < p.1) <;> rfl
  · have e : (p.1 - x) * (q.2 - y) - (p.2 - y) * (q.1 - x) = -((p.2 - y) * (q.1 - x)) := by rw [c2]; simp
    have hne : q.1 ≠ x := by
      intro g
      have hd := hasB_at hs (by rw [c2, g]; simp)
      rw [c2, g] at hd
      simp at hd
    rw [e, decide_eq_true (show y < p.2 by omega), decide_eq_false (show ¬ y < q.2 by omega), decide_eq_false c1, decide_eq_true c2]
    have : (0 < -((p.2 - y) * (q.1 - x))) ↔ ¬ x < q.1 := by
      constructor
      · intro g g2
        have := Int.mul_pos (a := p.2 - y) (b := q.1 - x) (by omega) (by omega)
        omega
      · intro g
        have := Int.mul_neg_of_pos_of_neg (a := p.2 - y) (b := q.1 - x) (by omega) (by omega)
        omega
    simp only [this]
    by_cases g : x < q.1
    · rw [decide_eq_true g, decide_eq_false (by omega)]; rfl
    · rw [decide_eq_false g, decide_eq_true (by omega)]; rfl
  · rw [decide_eq_true (show y < p.2 by omega), decide_eq_true (show y < q.2 by omega), decide_eq_false c1, decide_eq_false c2]; rfl
/-- No point on the border of the box is inside. -/
theorem bord_no {ps : List Pt} {x y : Int} (h0 : 0 < ps.length) (h : (∀ p ∈ ps, x ≤ p.1) ∨ (∀ p ∈ ps, p.1 ≤ x) ∨ (∀ p ∈ ps, y ≤ p.2) ∨ (∀ p ∈ ps, p.2 ≤ y)) : (locA ps x y == 1) = false := by
  unfold locA
  rcases hn : noE ps x y with _ | _
  · rfl
  · rw [cond_true]
    rcases h with h | h | h | h
    · rw [bord_left h0 hn h]; rfl
    · rw [bord_right h0 hn h]; rfl
    · rw [bord_bottom h0 hn h]; rfl
    · rw [bord_top h0 h]; rfl
end Go.Proofs.Ytpjdnplpiamjcaa
