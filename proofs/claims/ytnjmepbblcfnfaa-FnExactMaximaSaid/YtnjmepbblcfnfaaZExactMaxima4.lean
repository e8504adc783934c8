/-
  Texts that the proof needs, merged. Written by an AI agent.
-/
import Derived.Orders
import Derived.Below
import Derived.OrdersIn
import Derived.Deep.LoopGhost
import Derived.WalkKit
import Derived.Laws.CopyRow
import Derived.Laws.AppendOwn
import Derived.Laws.Slices
import Derived.Laws.MakeOwn
import Derived.Test.YtnjmepbblcfnfaaRows
import Derived.ProofKit
import Derived.OpenShut
import Derived.Carry
import Derived.IntWalk
import Derived.Test.YtnjmepbblcfnfaaProg
import Derived.WalkSpells
import Derived.WalkLawsBesides
import Derived.Lib.Hide
import Derived.Deep.QuietTactic
import Derived.BigQuiet
import Derived.KernelRfl
import Derived.Deep.RegionHeld3
import Derived.LoopTactic
import Derived.Laws.StructEq
import Derived.Laws.Tables
import Derived.RangeFuncNested
import Derived.RangeFuncLeaves
import Derived.Deep.Slices
import Derived.Deep.Fields
import Derived.ChangeSame
import Derived.Test.YtnjmepbblcfnfaaZExactMaxima3
namespace Go.Proofs.Ytnjmepbblcfnfaa
set_option linter.all false
open Go.RowKit
abbrev rowIx (xs : List Int) : Value := .slice (some ⟨0, 0, none⟩) xs.length xs.length
theorem Lr_imx {fn : Func} (hf : Try.prog.funcs[92]? = some fn) : LoopsGood Try.prog (lt1 e_imx) 0 (codeOf fn) := by
  obtain rfl := fn_is Try.func92 hf
  exact lt1_good lg_imx
theorem Lr_smo {fn : Func} (hf : Try.prog.funcs[31]? = some fn) : LoopsGood Try.prog (lt1 e_smo) 0 (codeOf fn) := by
  obtain rfl := fn_is Try.func31 hf
  exact lt1_good lg_smo
def LMx : FuncId → LT := fun f => match f with
  | 92 => lt1 e_imx
  | 31 => lt1 e_smo
  | _ => noL
def EMx : Env := mkE T2 (fun _ _ => none) LMx
theorem EMx_ok : EnvOk Try.prog EMx := mkEOk T2_ok (fun _ _ _ _ _ h => (by cases h)) (by
  intro f fn hf
  unfold LMx
  split
  all_goals first | with_reducible exact Lr_imx hf | with_reducible exact Lr_smo hf | exact noL_good)
set_option maxRecDepth 100000 in
theorem tr_sMx (ps : List Pt) : bodyX Try.prog EMx 30 12 31 [.row ps.length (.ints (flat ps))] = .need (ps.length * (2 : Nat) ≤ (List.drop (0 : Nat) (flat ps)).length) (.need (ps.length ≤ (1000000000 : Nat)) (brT (!okL (ptsA ps.length (List.drop 0 (flat ps)))) (.fin (.slice none (0) (0)) [some ⟨.view, .ints (flat ps)⟩, some ⟨.row 3 1, .vals []⟩]) (.need ((0 : Int) = (0 : Int)) (.need ((0 : Nat) = (0 : Nat)) (.need ((flat ps).length = ps.length * (2 : Nat)) (.need (ps.length ≤ (20 : Nat)) (.fin (.slice (some ⟨2, 0, none⟩) ((idxF (mxB (ptsA ps.length (flat ps))) (ptsA ps.length (flat ps)) 0).length) ((idxF (mxB (ptsA ps.length (flat ps))) (ptsA ps.length (flat ps)) 0).length)) [some ⟨.view, .ints (flat ps)⟩, some deadB, some ⟨.row 3 1, .ints (idxF (mxB (ptsA ps.length (flat ps))) (ptsA ps.length (flat ps)) 0)⟩]))))))) := by kernel_rfl
set_option maxRecDepth 100000 in
theorem tr_iMx (ps : List Pt) : bodyX Try.prog EMx 30 12 32 [.row ps.length (.ints (flat ps))] = brT (decide ((↑ps.length : Int) ≤ 20)) (.need (ps.length * (2 : Nat) ≤ (List.drop (0 : Nat) (flat ps)).length) (.need (ps.length ≤ (1000000000 : Nat)) (brT (!allV (ptsA ps.length (List.drop 0 (flat ps)))) (.fin (.slice none (0) (0)) [some ⟨.view, .ints (flat ps)⟩, some ⟨.box, .vals [.slice (some ⟨0, 0, none⟩) (ps.length) (ps.length)]⟩]) (.need ((0 : Int) = (0 : Int)) (.need ((↑ps.length : Int) = (↑ps.length : Int)) (.need (ps.length = ps.length) (.need ((flat ps).length = ps.length * (2 : Nat)) (.need (ps.length ≤ (20 : Nat)) (.fin (.slice (some ⟨2, 0, none⟩) ((idxF (mxB (ptsA ps.length (flat ps))) (ptsA ps.length (flat ps)) 0).length) ((idxF (mxB (ptsA ps.length (flat ps))) (ptsA ps.length (flat ps)) 0).length)) [some ⟨.view, .ints (flat ps)⟩, some ⟨.box, .vals [.slice (some ⟨0, 0, none⟩) (ps.length) (ps.length)]⟩, some ⟨.row 3 1, .ints (idxF (mxB (ptsA ps.length (flat ps))) (ptsA ps.length (flat ps)) 0)⟩]))))))))) (.fin (.slice none (0) (0)) [some ⟨.view, .ints (flat ps)⟩, some ⟨.box, .vals [.slice (some ⟨0, 0, none⟩) (ps.length) (ps.length)]⟩]) := by kernel_rfl
/-- What Maxima answers. -/
def mxV (ps : List Pt) : List Int := bif okL ps then idxF (mxB ps) ps 0 else []
theorem resR_sMx (ps : List Pt) (h : Big ps) : ResR Try.prog 31 [.row ps.length (.ints (flat ps))] (rowIx (mxV ps)) ⟨.row 3 1, .ints (mxV ps)⟩ := by
  refine bodyX_resR mixed EMx_ok (m := 30) (n := 12) rfl ?_
  rw [tr_sMx]
  unfold Big at h
  simp only [List.drop_zero, ptsA_flat, flat_length]
  unfold mxV
  rcases hk : okL ps with _ | _
  · exact ⟨Nat.le_refl _, h, none, ⟨rfl, rfl⟩, trivial⟩
  have hl : ps.length ≤ 20 := by simp only [okL, Bool.and_eq_true, decide_eq_true_eq] at hk; exact hk.2
  exact ⟨Nat.le_refl _, h, trivial, trivial, trivial, hl, some 2, ⟨rfl, rfl, rfl⟩, rfl, rfl, rfl⟩
theorem resR_iMx (ps : List Pt) (h : Big ps) : ResR Try.prog 32 [.row ps.length (.ints (flat ps))] (rowIx (mxV ps)) ⟨.row 3 1, .ints (mxV ps)⟩ := by
  refine bodyX_resR mixed EMx_ok (m := 30) (n := 12) rfl ?_
  rw [tr_iMx]
  unfold Big at h
  simp only [List.drop_zero, ptsA_flat, flat_length]
  unfold mxV okL
  by_cases hl : ps.length ≤ 20
  · have hl2 : (ps.length : Int) ≤ 20 := by omega
    rw [decide_eq_true hl2, decide_eq_true hl]
    rcases hk : allV ps with _ | _
    · exact ⟨Nat.le_refl _, h, none, ⟨rfl, rfl⟩, trivial⟩
    exact ⟨Nat.le_refl _, h, trivial, trivial, trivial, trivial, hl, some 2, ⟨rfl, rfl, rfl⟩, rfl, rfl, rfl⟩
  · have hl2 : ¬ (ps.length : Int) ≤ 20 := by omega
    rw [decide_eq_false hl2, decide_eq_false hl]
    simp only [Bool.and_false, cond_false]
    exact ⟨none, ⟨rfl, rfl⟩, trivial⟩
def RMx : TabR := fun f ds => match f, ds with
  | 31, [.row m (.ints xs)] => some (rowIx (mxV (ptsA m xs)), ⟨.row 3 1, .ints (mxV (ptsA m xs))⟩, [m * 2 ≤ xs.length, m ≤ 1000000000])
  | 32, [.row m (.ints xs)] => some (rowIx (mxV (ptsA m xs)), ⟨.row 3 1, .ints (mxV (ptsA m xs))⟩, [m * 2 ≤ xs.length, m ≤ 1000000000])
  | f, ds => R4 f ds
theorem RMx_ok : TabROk Try.prog RMx := by
  intro f ds v b C h hC
  unfold RMx at h
  split at h
  · obtain ⟨rfl, rfl, rfl⟩ : _ ∧ _ ∧ _ := by simpa using h
    obtain ⟨_, h2⟩ := ptsA_spec hC.1
    exact resR_pts1 (pre := []) (post := []) hC.1 (resR_sMx _ (by unfold Big; rw [h2]; exact hC.2.1))
  · obtain ⟨rfl, rfl, rfl⟩ : _ ∧ _ ∧ _ := by simpa using h
    obtain ⟨_, h2⟩ := ptsA_spec hC.1
    exact resR_pts1 (pre := []) (post := []) hC.1 (resR_iMx _ (by unfold Big; rw [h2]; exact hC.2.1))
  · exact R4_ok _ _ _ _ _ h hC
def TMl : Tab := fun f ds => match f with
  | 36 => pHeldI ds
  | 33 => pEqI ds
  | f => T3 f ds
theorem TMl_ok : TabOk Try.prog TMl := by
  intro f ds v C h hC
  unfold TMl at h
  (try split at h)
  all_goals first | with_reducible exact pHeldI_ok h hC | with_reducible exact pEqI_ok h hC | exact T3_ok _ _ _ _ h hC
def EMl : Env := withT (mkE TMl RMx (fun _ => noL)) Jmk
theorem EMl_ok : EnvOk Try.prog EMl := withT_ok (mkEOk TMl_ok RMx_ok (fun _ _ _ => noL_good)) Jmk_ok
set_option maxRecDepth 100000 in
theorem tr_exMx (ps : List Pt) : bodyV Try.prog EMl 30 12 7 [.row ps.length (.ints (flat ps))] = brT (decide (IntKind.i64.wrap (1048576 - (↑ps.length : Int)) < 0)) (.fin (.bool (true)) []) (brT (decide (IntKind.i64.wrap (1048576 - (↑ps.length : Int)) < 0)) (.fin (.bool (true)) []) (.need (ps.length * (2 : Nat) ≤ (List.drop (0 : Nat) (flat ps)).length) (.need (ps.length ≤ (1000000000 : Nat)) (.need (ps.length * (2 : Nat) ≤ (List.drop (0 : Nat) (List.take (ps.length * (2 : Nat)) (List.drop (0 : Nat) (flat ps)))).length) (.need (ps.length ≤ (1000000000 : Nat)) (.need (ps.length * (2 : Nat) ≤ (List.drop (0 : Nat) (flat ps)).length) (.need (ps.length ≤ (1000000000 : Nat)) (.need (ps.length * (2 : Nat) ≤ (List.drop (0 : Nat) (List.take (ps.length * (2 : Nat)) (List.drop (0 : Nat) (flat ps)))).length) (.need (ps.length ≤ (1000000000 : Nat)) (.need ((mxV (ptsA ps.length (List.drop (0 : Nat) (List.take (ps.length * (2 : Nat)) (List.drop (0 : Nat) (flat ps)))))).length = (mxV (ptsA ps.length (List.drop (0 : Nat) (List.take (ps.length * (2 : Nat)) (List.drop (0 : Nat) (flat ps)))))).length) (.need (List.drop (0 : Nat) (mxV (ptsA ps.length (List.drop (0 : Nat) (List.take (ps.length * (2 : Nat)) (List.drop (0 : Nat) (flat ps)))))) = List.drop (0 : Nat) (mxV (ptsA ps.length (List.drop (0 : Nat) (List.take (ps.length * (2 : Nat)) (List.drop (0 : Nat) (flat ps))))))) (.need ((mxV (ptsA ps.length (List.drop (0 : Nat) (List.take (ps.length * (2 : Nat)) (List.drop (0 : Nat) (flat ps)))))).length ≤ (List.drop (0 : Nat) (mxV (ptsA ps.length (List.drop (0 : Nat) (List.take (ps.length * (2 : Nat)) (List.drop (0 : Nat) (flat ps))))))).length) (.need (Lim (mxV (ptsA ps.length (List.drop (0 : Nat) (List.take (ps.length * (2 : Nat)) (List.drop (0 : Nat) (flat ps)))))).length) (.need (ps.length * (2 : Nat) ≤ (List.drop (0 : Nat) (flat ps)).length) (.need (ps.length ≤ (1000000000 : Nat)) (.need (ps.length * (2 : Nat) ≤ (List.drop (0 : Nat) (List.take (ps.length * (2 : Nat)) (List.drop (0 : Nat) (flat ps)))).length) (.need (ps.length * (2 : Nat) ≤ (List.drop (0 : Nat) (List.take (ps.length * (2 : Nat)) (List.drop (0 : Nat) (flat ps)))).length) (.need (ps.length ≤ (1000000000 : Nat)) (brT (!eqL (ptsA ps.length (List.drop 0 (List.take (ps.length * 2) (List.drop 0 (flat ps))))) (ptsA ps.length (List.drop 0 (List.take (ps.length * 2) (List.drop 0 (flat ps)))))) (.fin (.bool (false)) []) (.need ((List.take (ps.length * (2 : Nat)) (List.drop (0 : Nat) (flat ps))).length = ps.length * (2 : Nat)) (.need (Lim ps.length) (.need ((0 : Int) ≤ (1 : Int) ∧ (1 : Int) ≤ (1000000000 : Int)) (.need ((mxV (ptsA ps.length (List.drop (0 : Nat) (List.take (ps.length * (2 : Nat)) (List.drop (0 : Nat) (flat ps)))))).length = (mxV (ptsA ps.length (List.drop (0 : Nat) (List.take (ps.length * (2 : Nat)) (List.drop (0 : Nat) (flat ps)))))).length) (.need (List.drop (0 : Nat) (mxV (ptsA ps.length (List.drop (0 : Nat) (List.take (ps.length * (2 : Nat)) (List.drop (0 : Nat) (flat ps)))))) = List.drop (0 : Nat) (mxV (ptsA ps.length (List.drop (0 : Nat) (List.take (ps.length * (2 : Nat)) (List.drop (0 : Nat) (flat ps))))))) (.need ((mxV (ptsA ps.length (List.drop (0 : Nat) (List.take (ps.length * (2 : Nat)) (List.drop (0 : Nat) (flat ps)))))).length ≤ (List.drop (0 : Nat) (mxV (ptsA ps.length (List.drop (0 : Nat) (List.take (ps.length * (2 : Nat)) (List.drop (0 : Nat) (flat ps))))))).length) (.need (Lim (mxV (ptsA ps.length (List.drop (0 : Nat) (List.take (ps.length * (2 : Nat)) (List.drop (0 : Nat) (flat ps)))))).length) (.need ((mxV (ptsA ps.length (List.drop (0 : Nat) (List.take (ps.length * (2 : Nat)) (List.drop (0 : Nat) (flat ps)))))).length = (mxV (ptsA ps.length (List.drop (0 : Nat) (List.take (ps.length * (2 : Nat)) (List.drop (0 : Nat) (flat ps)))))).length) (.need (Lim (mxV (ptsA ps.length (List.drop (0 : Nat) (List.take (ps.length * (2 : Nat)) (List.drop (0 : Nat) (flat ps)))))).length) (.need ((0 : Int) ≤ (1 : Int) ∧ (1 : Int) ≤ (1000000000 : Int)) (.need (Lim (mxV (ptsA ps.length (List.drop (0 : Nat) (List.take (ps.length * (2 : Nat)) (List.drop (0 : Nat) (flat ps)))))).length) (.need ((0 : Int) ≤ (1 : Int) ∧ (1 : Int) ≤ (1000000000 : Int)) (.need (List.drop (0 : Nat) (marks (1 : Int) (mxV (ptsA ps.length (List.drop (0 : Nat) (List.take (ps.length * (2 : Nat)) (List.drop (0 : Nat) (flat ps)))))).length) = marks (1 : Int) (mxV (ptsA ps.length (List.drop (0 : Nat) (List.take (ps.length * (2 : Nat)) (List.drop (0 : Nat) (flat ps)))))).length) (brT (!1 + (↑(mxV (ptsA ps.length (List.drop 0 (List.take (ps.length * 2) (List.drop 0 (flat ps)))))).length : Int) == 1 + (↑(mxV (ptsA ps.length (List.drop 0 (List.take (ps.length * 2) (List.drop 0 (flat ps)))))).length : Int)) (.fin (.bool (false)) []) (.need (ps.length * (2 : Nat) ≤ (List.drop (0 : Nat) (flat ps)).length) (.need (ps.length ≤ (1000000000 : Nat)) (.need (ps.length * (2 : Nat) ≤ (List.drop (0 : Nat) (List.take (ps.length * (2 : Nat)) (List.drop (0 : Nat) (flat ps)))).length) (.need (ps.length ≤ (1000000000 : Nat)) (.need ((mxV (ptsA ps.length (List.drop (0 : Nat) (List.take (ps.length * (2 : Nat)) (List.drop (0 : Nat) (flat ps)))))).length = (mxV (ptsA ps.length (List.drop (0 : Nat) (List.take (ps.length * (2 : Nat)) (List.drop (0 : Nat) (flat ps)))))).length) (.need (List.drop (0 : Nat) (mxV (ptsA ps.length (List.drop (0 : Nat) (List.take (ps.length * (2 : Nat)) (List.drop (0 : Nat) (flat ps)))))) = List.drop (0 : Nat) (mxV (ptsA ps.length (List.drop (0 : Nat) (List.take (ps.length * (2 : Nat)) (List.drop (0 : Nat) (flat ps))))))) (.need ((mxV (ptsA ps.length (List.drop (0 : Nat) (List.take (ps.length * (2 : Nat)) (List.drop (0 : Nat) (flat ps)))))).length ≤ (List.drop (0 : Nat) (mxV (ptsA ps.length (List.drop (0 : Nat) (List.take (ps.length * (2 : Nat)) (List.drop (0 : Nat) (flat ps))))))).length) (.need (Lim (mxV (ptsA ps.length (List.drop (0 : Nat) (List.take (ps.length * (2 : Nat)) (List.drop (0 : Nat) (flat ps)))))).length) (.need (Lim (mxV (ptsA ps.length (List.drop (0 : Nat) (List.take (ps.length * (2 : Nat)) (List.drop (0 : Nat) (flat ps)))))).length) (.need ((0 : Int) ≤ (1 : Int) ∧ (1 : Int) ≤ (1000000000 : Int)) (.need (List.drop (0 : Nat) (marks (1 : Int) (mxV (ptsA ps.length (List.drop (0 : Nat) (List.take (ps.length * (2 : Nat)) (List.drop (0 : Nat) (flat ps)))))).length) = marks (1 : Int) (mxV (ptsA ps.length (List.drop (0 : Nat) (List.take (ps.length * (2 : Nat)) (List.drop (0 : Nat) (flat ps)))))).length) (brT (!1 + (↑(mxV (ptsA ps.length (List.drop 0 (List.take (ps.length * 2) (List.drop 0 (flat ps)))))).length : Int) == 1 + (↑(mxV (ptsA ps.length (List.drop 0 (List.take (ps.length * 2) (List.drop 0 (flat ps)))))).length : Int)) (.fin (.bool (false)) []) (.fin (.bool (true)) [])))))))))))))))))))))))))))))))))))))))))))))) := by kernel_rfl
theorem mxV_len (ps : List Pt) : (mxV ps).length ≤ 20 := by
  unfold mxV
  rcases hk : okL ps with _ | _
  · exact Nat.zero_le _
  · simp only [okL, Bool.and_eq_true, decide_eq_true_eq] at hk
    have := idx_len (mxB ps) ps 0
    simp only [cond_true]
    omega
theorem ExactMaxima_res (ps : List Pt) (h : (ps.length : Int) ≤ 9223372036854775807) : Res Try.prog 7 [.row ps.length (.ints (flat ps))] (.bool true) := by
  refine bodyV_res mixed EMl_ok (m := 30) (n := 12) rfl ?_
  rw [tr_exMx]
  simp only [List.drop_zero, flat_all, ptsA_flat, flat_length]
  by_cases hl : (1048576 : Int) - ps.length < 0
  · simp (disch := omega) only [wr]
    simp only [hl, decide_true, brT_t, Tree.ok]
  · have hV := mxV_len ps
    have hL : Lim (mxV ps).length := Nat.le_trans hV (by decide)
    have hP : Lim ps.length := by unfold Lim; omega
    generalize mxV ps = V at *
    have k1 : decide ((1 : Int) + V.length < 0) = false := decide_eq_false (by omega)
    have k2 : decide ((1 : Int) + (ps.length * 2 : Nat) < 0) = false := decide_eq_false (by omega)
    simp (disch := omega) only [wr]
    simp only [hl, decide_false, brT_f, Tree.ok, beq_self_eq_true, Bool.not_true, eqL, decide_true, k1, k2]
    repeat' (first | exact True.intro | assumption | omega | exact rfl | refine And.intro ?_ ?_)
end Go.Proofs.Ytnjmepbblcfnfaa
