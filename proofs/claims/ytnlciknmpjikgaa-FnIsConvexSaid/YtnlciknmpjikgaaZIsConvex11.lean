/-
  Texts that the proof needs, merged. Written by an AI agent.
-/
import Derived.Orders
import Derived.Below
import Derived.OrdersIn
import Derived.Deep.LoopGhost
import Derived.WalkKit
import Derived.Laws.CopyRow
import Derived.Laws.AppendOwn
import Derived.Laws.Slices
import Derived.Laws.MakeOwn
import Derived.Test.YtnlciknmpjikgaaRows
import Derived.ProofKit
import Derived.OpenShut
import Derived.Carry
import Derived.IntWalk
import Derived.Test.YtnlciknmpjikgaaProg
import Derived.WalkSpells
import Derived.WalkLawsBesides
import Derived.Lib.Hide
import Derived.Deep.QuietTactic
import Derived.BigQuiet
import Derived.KernelRfl
import Derived.Deep.RegionHeld3
import Derived.LoopTactic
import Derived.Laws.StructEq
import Derived.Laws.Tables
import Derived.RangeFuncNested
import Derived.RangeFuncLeaves
import Derived.Deep.Slices
import Derived.Deep.Fields
import Derived.ChangeSame
import Derived.Shelf.SlSortCmp.WholeK
import Derived.Sort.Grow
import Derived.Deep.DeepCutAuto
import Derived.Shelf.SlSortCmp.NoneTotal
import Derived.Test.YtnlciknmpjikgaaZIsConvex10
set_option linter.all false
namespace Go.Proofs.Ytnlciknmpjikgaa
open Go.RowKit
def RIc : TabR := fun f ds => match f, ds with
  | 13, [.row m (.ints xs)] => some (rowP (canV (ptsA m xs)), blkP (canV (ptsA m xs)), [m * 2 ≤ xs.length, m ≤ 1000000000])
  | f, ds => RDc f ds
theorem RIc_ok : TabROk Try.prog RIc := by
  intro f ds v b C h hC
  unfold RIc at h
  split at h
  · obtain ⟨rfl, rfl, rfl⟩ : _ ∧ _ ∧ _ := by simpa using h
    obtain ⟨_, h2⟩ := ptsA_spec hC.1
    have h1 := resR_pts1 (pre := []) (post := []) hC.1 (resR_iCan (ptsA _ _) (by unfold Big; rw [h2]; exact hC.2.1))
    simp only [List.nil_append, List.append_nil] at h1
    exact h1
  · exact RDc_ok _ _ _ _ _ h hC
def TIc : Tab := fun f ds => match f with
  | 12 => pEq2 ds
  | 11 => pV daV ds
  | 10 => pIss ds
  | f => TCx f ds
theorem TIc_ok : TabOk Try.prog TIc := by
  intro f ds v C h hC
  unfold TIc at h
  (try split at h)
  all_goals first | with_reducible exact pEqW_ok h hC | with_reducible exact pV_ok res_iDa h hC | with_reducible exact pIss_i h hC | exact TCx_ok _ _ _ _ h hC
def EIc : Env := mkE TIc RIc (fun _ => noL)
theorem EIc_ok : EnvOk Try.prog EIc := mkEOk TIc_ok RIc_ok (fun _ _ _ => noL_good)
set_option maxRecDepth 100000 in
theorem tr_lIc (bs : List Int) : bodyV Try.prog EIc 30 12 3 [.row bs.length (.bytes bs)] = brT (decide (1048576 < (↑bs.length : Int))) (.fin (.bool (true)) []) (.need (Bytes (List.drop 0 bs)) (.need (bs.length ≤ (List.drop 0 bs).length) (.need ((dcL0 (List.drop 0 bs) (rdL bs.length)).length * (2 : Nat) ≤ (List.drop 0 (flat (dcL0 (List.drop 0 bs) (rdL bs.length)))).length) (.need ((dcL0 (List.drop 0 bs) (rdL bs.length)).length ≤ (1000000000 : Nat)) (.need ((dcL0 (List.drop 0 bs) (rdL bs.length)).length * (2 : Nat) ≤ (List.drop 0 (flat (dcL0 (List.drop 0 bs) (rdL bs.length)))).length) (.need ((dcL0 (List.drop 0 bs) (rdL bs.length)).length ≤ (1000000000 : Nat)) (brT (!cvxI (ptsA (dcL0 (List.drop 0 bs) (rdL bs.length)).length (List.drop 0 (flat (dcL0 (List.drop 0 bs) (rdL bs.length))))) == cvxI (ptsA (dcL0 (List.drop 0 bs) (rdL bs.length)).length (List.drop 0 (flat (dcL0 (List.drop 0 bs) (rdL bs.length)))))) (.need ((dcL0 (List.drop 0 bs) (rdL bs.length)).length * (2 : Nat) ≤ (List.drop 0 (flat (dcL0 (List.drop 0 bs) (rdL bs.length)))).length) (.need ((dcL0 (List.drop 0 bs) (rdL bs.length)).length ≤ (1000000000 : Nat)) (brT (cvxI (ptsA (dcL0 (List.drop 0 bs) (rdL bs.length)).length (List.drop 0 (flat (dcL0 (List.drop 0 bs) (rdL bs.length))))) == cvxI (ptsA (dcL0 (List.drop 0 bs) (rdL bs.length)).length (List.drop 0 (flat (dcL0 (List.drop 0 bs) (rdL bs.length)))))) (brT (!cvxI (ptsA (dcL0 (List.drop 0 bs) (rdL bs.length)).length (List.drop 0 (flat (dcL0 (List.drop 0 bs) (rdL bs.length)))))) (.fin (.bool (true)) []) (.need ((dcL0 (List.drop 0 bs) (rdL bs.length)).length * (2 : Nat) ≤ (List.drop 0 (flat (dcL0 (List.drop 0 bs) (rdL bs.length)))).length) (.need ((dcL0 (List.drop 0 bs) (rdL bs.length)).length ≤ (1000000000 : Nat)) (.fin (.bool (issI (ptsA (dcL0 (List.drop 0 bs) (rdL bs.length)).length (List.drop 0 (flat (dcL0 (List.drop 0 bs) (rdL bs.length))))))) [])))) (.fin (.bool (false)) [])))) (.need ((dcL0 (List.drop 0 bs) (rdL bs.length)).length * (2 : Nat) ≤ (List.drop 0 (flat (dcL0 (List.drop 0 bs) (rdL bs.length)))).length) (.need ((dcL0 (List.drop 0 bs) (rdL bs.length)).length ≤ (1000000000 : Nat)) (brT (!issI (ptsA (dcL0 (List.drop 0 bs) (rdL bs.length)).length (List.drop 0 (flat (dcL0 (List.drop 0 bs) (rdL bs.length)))))) (.need ((dcL0 (List.drop 0 bs) (rdL bs.length)).length * (2 : Nat) ≤ (List.drop 0 (flat (dcL0 (List.drop 0 bs) (rdL bs.length)))).length) (.need ((dcL0 (List.drop 0 bs) (rdL bs.length)).length ≤ (1000000000 : Nat)) (brT (cvxI (ptsA (dcL0 (List.drop 0 bs) (rdL bs.length)).length (List.drop 0 (flat (dcL0 (List.drop 0 bs) (rdL bs.length))))) == cvxI (ptsA (dcL0 (List.drop 0 bs) (rdL bs.length)).length (List.drop 0 (flat (dcL0 (List.drop 0 bs) (rdL bs.length)))))) (brT (!cvxI (ptsA (dcL0 (List.drop 0 bs) (rdL bs.length)).length (List.drop 0 (flat (dcL0 (List.drop 0 bs) (rdL bs.length)))))) (.fin (.bool (true)) []) (.need ((dcL0 (List.drop 0 bs) (rdL bs.length)).length * (2 : Nat) ≤ (List.drop 0 (flat (dcL0 (List.drop 0 bs) (rdL bs.length)))).length) (.need ((dcL0 (List.drop 0 bs) (rdL bs.length)).length ≤ (1000000000 : Nat)) (.fin (.bool (issI (ptsA (dcL0 (List.drop 0 bs) (rdL bs.length)).length (List.drop 0 (flat (dcL0 (List.drop 0 bs) (rdL bs.length))))))) [])))) (.fin (.bool (false)) [])))) (.need ((dcL0 (List.drop 0 bs) (rdL bs.length)).length * (2 : Nat) ≤ (List.drop 0 (flat (dcL0 (List.drop 0 bs) (rdL bs.length)))).length) (.need ((dcL0 (List.drop 0 bs) (rdL bs.length)).length ≤ (1000000000 : Nat)) (brT (decide (0 < daV (ptsA (dcL0 (List.drop 0 bs) (rdL bs.length)).length (List.drop 0 (flat (dcL0 (List.drop 0 bs) (rdL bs.length))))))) (.need ((dcL0 (List.drop 0 bs) (rdL bs.length)).length * (2 : Nat) ≤ (List.drop 0 (flat (dcL0 (List.drop 0 bs) (rdL bs.length)))).length) (.need ((dcL0 (List.drop 0 bs) (rdL bs.length)).length ≤ (1000000000 : Nat)) (.need ((dcL0 (List.drop 0 bs) (rdL bs.length)).length * (2 : Nat) ≤ (List.drop 0 (flat (dcL0 (List.drop 0 bs) (rdL bs.length)))).length) (.need ((dcL0 (List.drop 0 bs) (rdL bs.length)).length ≤ (1000000000 : Nat)) (.need ((canV (ptsA (dcL0 (List.drop 0 bs) (rdL bs.length)).length (List.drop 0 (flat (dcL0 (List.drop 0 bs) (rdL bs.length)))))).length * (2 : Nat) ≤ (List.drop 0 (flat (canV (ptsA (dcL0 (List.drop 0 bs) (rdL bs.length)).length (List.drop 0 (flat (dcL0 (List.drop 0 bs) (rdL bs.length)))))))).length) (.need ((hulV (ptsA (dcL0 (List.drop 0 bs) (rdL bs.length)).length (List.drop 0 (flat (dcL0 (List.drop 0 bs) (rdL bs.length)))))).length * (2 : Nat) ≤ (List.drop 0 (flat (hulV (ptsA (dcL0 (List.drop 0 bs) (rdL bs.length)).length (List.drop 0 (flat (dcL0 (List.drop 0 bs) (rdL bs.length)))))))).length) (.need ((canV (ptsA (dcL0 (List.drop 0 bs) (rdL bs.length)).length (List.drop 0 (flat (dcL0 (List.drop 0 bs) (rdL bs.length)))))).length ≤ (1000000000 : Nat)) (.fin (.bool (cvxI (ptsA (dcL0 (List.drop 0 bs) (rdL bs.length)).length (List.drop 0 (flat (dcL0 (List.drop 0 bs) (rdL bs.length))))) == eqL (ptsA (canV (ptsA (dcL0 (List.drop 0 bs) (rdL bs.length)).length (List.drop 0 (flat (dcL0 (List.drop 0 bs) (rdL bs.length)))))).length (List.drop 0 (flat (canV (ptsA (dcL0 (List.drop 0 bs) (rdL bs.length)).length (List.drop 0 (flat (dcL0 (List.drop 0 bs) (rdL bs.length))))))))) (ptsA (hulV (ptsA (dcL0 (List.drop 0 bs) (rdL bs.length)).length (List.drop 0 (flat (dcL0 (List.drop 0 bs) (rdL bs.length)))))).length (List.drop 0 (flat (hulV (ptsA (dcL0 (List.drop 0 bs) (rdL bs.length)).length (List.drop 0 (flat (dcL0 (List.drop 0 bs) (rdL bs.length))))))))))) [])))))))) (.fin (.bool (cvxI (ptsA (dcL0 (List.drop 0 bs) (rdL bs.length)).length (List.drop 0 (flat (dcL0 (List.drop 0 bs) (rdL bs.length))))) == false)) [])))))))))))))) := by kernel_rfl
theorem canL_lenC (ps : List Pt) : (canL ps).length = ps.length := by
  unfold canL
  split
  · rw [canW_len, revP_len]
  · exact canW_len ps
theorem canV_le (ps : List Pt) : (canV ps).length ≤ ps.length := by
  unfold canV
  rcases issI ps with _ | _
  · exact Nat.zero_le _
  · exact Nat.le_of_eq (canL_lenC ps)
set_option maxRecDepth 100000 in
theorem law_lic (bs : List Int) (hb : Bytes bs) (_ : bs.length ≤ maxLen) : Res Try.prog 3 [.row bs.length (.bytes bs)] (.bool true) := by
  refine bodyV_res mixed EIc_ok (m := 30) (n := 12) rfl ?_
  rw [tr_lIc]
  simp only [List.drop_zero, ptsA_flat, flat_length]
  have hl := dcL0_len hb (l := rdL bs.length) (by unfold rdL; omega) (by unfold rdL; omega)
  generalize dcL0 bs (rdL bs.length) = p at *
  have hc1 := canV_le p
  have hV := hulV_len p
  refine brT_ok.2 ⟨fun _ => rfl, fun _ => ?_⟩
  rcases hs : issI p with _ | _
  · have hc : cvxI p = false := by unfold cvxI; rw [hs]; rfl
    simp only [hc, hs, beq_self_eq_true, Bool.not_true, Bool.not_false, brT_t, brT_f]
    repeat' (first | exact True.intro | assumption | omega | exact rfl | refine And.intro ?_ ?_)
  · have e := cvx_iff hs
    have hd : daV p = sgA p p.length := by unfold daV; rw [hs]; rfl
    rw [hd]
    by_cases ha : 0 < sgA p p.length
    · rcases hq : eqL (canV p) (hulV p) with _ | _
      · have hc : cvxI p = false := by
          unfold eqL at hq
          rw [e, hq, Bool.and_false]
        simp only [hs, hc, hq, decide_eq_true ha, beq_self_eq_true, Bool.not_true, Bool.not_false, brT_t, brT_f]
        repeat' (first | exact True.intro | assumption | omega | exact rfl | refine And.intro ?_ ?_)
      · have hc : cvxI p = true := by
          unfold eqL at hq
          rw [e, hq, decide_eq_true ha]
          rfl
        simp only [hs, hc, hq, decide_eq_true ha, beq_self_eq_true, Bool.not_true, Bool.not_false, brT_t, brT_f]
        repeat' (first | exact True.intro | assumption | omega | exact rfl | refine And.intro ?_ ?_)
    · have hc : cvxI p = false := by rw [e, decide_eq_false ha, Bool.false_and]
      simp only [hs, hc, decide_eq_false ha, beq_self_eq_true, Bool.not_true, Bool.not_false, brT_t, brT_f]
      repeat' (first | exact True.intro | assumption | omega | exact rfl | refine And.intro ?_ ?_)
end Go.Proofs.Ytnlciknmpjikgaa
