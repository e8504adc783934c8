/-
  InteriorCount; the exact laws of DoubleArea, BoundaryCount, InteriorCount. Written by an AI agent.
-/
import Derived.Test.YtfbcbmckicmalaaBnd
namespace Go.Proofs.Ytfbcbmckicmalaa
open Go.RowKit

theorem tdiv2_bd {x M : Int} (h : -M ≤ x ∧ x ≤ M) : -M ≤ x.tdiv 2 ∧ x.tdiv 2 ≤ M := by
  have h2 : (x.tdiv 2).natAbs = x.natAbs / 2 := Int.natAbs_tdiv x 2
  omega
def icV (ps : List Pt) : Int := bif issI ps then (((sgA ps ps.length).natAbs : Int) - bcA ps ps.length + 2).tdiv 2 else -1
theorem res_sIc (ps : List Pt) (h : Big ps) : Res Try.prog 30 [.row ps.length (.ints (flat ps))] (iv (icV ps)) := by
  refine bodyV_res mixed EBo_ok (m := 30) (n := 12) rfl ?_
  rw [tr_sIc]
  unfold Big at h
  simp only [List.drop_zero, ptsA_flat, flat_length]
  unfold icV
  rcases hs : issI ps with _ | _
  · simp [brT_ok, Tree.ok, h]
  · obtain ⟨h1, h2, _⟩ := issI_ok hs
    have b1 := sgA_bd h1 _ (Nat.le_refl _)
    have b2 := bcA_bd h1 _ (Nat.le_refl _)
    have b3 : big (sgA ps ps.length) := by unfold big; omega
    rw [wr (x := ((sgA ps ps.length).natAbs : Int) - bcA ps ps.length) (by omega), wr (x := ((sgA ps ps.length).natAbs : Int) - bcA ps ps.length + 2) (by omega)]
    have b4 : -9223372036854775808 ≤ (((sgA ps ps.length).natAbs : Int) - bcA ps ps.length + 2).tdiv 2 ∧ (((sgA ps ps.length).natAbs : Int) - bcA ps ps.length + 2).tdiv 2 ≤ 9223372036854775807 := by
      have := tdiv2_bd (x := ((sgA ps ps.length).natAbs : Int) - bcA ps ps.length + 2) (M := 100000000) (by omega)
      omega
    rw [wr b4]
    simp [brT_ok, Tree.ok, h, h1, h2, b3]
theorem res_iIc (ps : List Pt) (h : Big ps) : Res Try.prog 31 [.row ps.length (.ints (flat ps))] (iv (icV ps)) := by
  refine bodyV_res mixed EBo_ok (m := 30) (n := 12) rfl ?_
  rw [tr_iIc]
  unfold Big at h
  simp only [List.drop_zero, ptsA_flat, flat_length]
  unfold icV bcV
  rcases hs : issI ps with _ | _
  · simp [brT_ok, Tree.ok, h]
  · obtain ⟨h1, h2, _⟩ := issI_ok hs
    have b1 := sgA_bd h1 _ (Nat.le_refl _)
    have b2 := bcA_bd h1 _ (Nat.le_refl _)
    rw [wr (x := 0 - sgA ps ps.length) (by omega)]
    have e : (if sgA ps ps.length < 0 - sgA ps ps.length then 0 - sgA ps ps.length else sgA ps ps.length) = ((sgA ps ps.length).natAbs : Int) := by split <;> omega
    rw [e]
    simp only [cond_true]
    rw [wr (x := ((sgA ps ps.length).natAbs : Int) - bcA ps ps.length) (by omega), wr (x := ((sgA ps ps.length).natAbs : Int) - bcA ps ps.length + 2) (by omega)]
    have b4 : -9223372036854775808 ≤ (((sgA ps ps.length).natAbs : Int) - bcA ps ps.length + 2).tdiv 2 ∧ (((sgA ps ps.length).natAbs : Int) - bcA ps ps.length + 2).tdiv 2 ≤ 9223372036854775807 := by
      have := tdiv2_bd (x := ((sgA ps ps.length).natAbs : Int) - bcA ps ps.length + 2) (M := 100000000) (by omega)
      omega
    rw [wr b4]
    simp [brT_ok, Tree.ok, h, h1, h2]
def TBp : Tab := fun f ds => match f with
  | 28 => pV bcV ds
  | 30 => pV icV ds
  | 31 => pV icV ds
  | f => TBo f ds
theorem TBp_ok : TabOk Try.prog TBp := by
  intro f ds v C h hC
  unfold TBp at h
  split at h
  all_goals first | with_reducible exact pV_ok res_sBcS h hC | with_reducible exact pV_ok res_sIc h hC | with_reducible exact pV_ok res_iIc h hC | exact TBo_ok _ _ _ _ h hC
def EBp : Env := mkE TBp R4 (fun _ => noL)
theorem EBp_ok : EnvOk Try.prog EBp := mkEOk TBp_ok R4_ok (fun _ _ _ => noL_good)
set_option maxRecDepth 100000 in
theorem tr_exDoubleArea (ps : List Pt) : bodyV Try.prog EBp 30 12 6 [.row ps.length (.ints (flat ps))] = brT (decide (IntKind.i64.wrap (1048576 - (↑ps.length : Int)) < 0)) (.fin (.bool (true)) []) (brT (decide (IntKind.i64.wrap (1048576 - (↑ps.length : Int)) < 0)) (.fin (.bool (true)) []) (.need (ps.length * (2 : Nat) ≤ (List.drop (0 : Nat) (flat ps)).length) (.need (ps.length ≤ (1000000000 : Nat)) (.need (ps.length * (2 : Nat) ≤ (List.drop (0 : Nat) (List.take (ps.length * (2 : Nat)) (List.drop (0 : Nat) (flat ps)))).length) (.need (ps.length ≤ (1000000000 : Nat)) (.need (ps.length * (2 : Nat) ≤ (List.drop (0 : Nat) (flat ps)).length) (.need (ps.length ≤ (1000000000 : Nat)) (.need (ps.length * (2 : Nat) ≤ (List.drop (0 : Nat) (List.take (ps.length * (2 : Nat)) (List.drop (0 : Nat) (flat ps)))).length) (.need (ps.length ≤ (1000000000 : Nat)) (brT (!daV (ptsA ps.length (List.drop 0 (List.take (ps.length * 2) (List.drop 0 (flat ps))))) == daV (ptsA ps.length (List.drop 0 (List.take (ps.length * 2) (List.drop 0 (flat ps)))))) (.fin (.bool (false)) []) (.need (ps.length * (2 : Nat) ≤ (List.drop (0 : Nat) (flat ps)).length) (.need (ps.length ≤ (1000000000 : Nat)) (.need (ps.length * (2 : Nat) ≤ (List.drop (0 : Nat) (List.take (ps.length * (2 : Nat)) (List.drop (0 : Nat) (flat ps)))).length) (.need (ps.length * (2 : Nat) ≤ (List.drop (0 : Nat) (List.take (ps.length * (2 : Nat)) (List.drop (0 : Nat) (flat ps)))).length) (.need (ps.length ≤ (1000000000 : Nat)) (brT (!eqL (ptsA ps.length (List.drop 0 (List.take (ps.length * 2) (List.drop 0 (flat ps))))) (ptsA ps.length (List.drop 0 (List.take (ps.length * 2) (List.drop 0 (flat ps)))))) (.fin (.bool (false)) []) (.fin (.bool (true)) []))))))))))))))))) := by kernel_rfl
theorem ExactDoubleArea_res (ps : List Pt) (h : (ps.length : Int) ≤ 9223372036854775807) : Res Try.prog 6 [.row ps.length (.ints (flat ps))] (.bool true) := by
  refine bodyV_res mixed EBp_ok (m := 30) (n := 12) rfl ?_
  rw [tr_exDoubleArea]
  simp only [List.drop_zero, flat_all, ptsA_flat, flat_length]
  by_cases hl : (1048576 : Int) - ps.length < 0
  · simp (disch := omega) only [wr]
    simp only [hl, decide_true, brT_t, Tree.ok]
  · simp (disch := omega) only [wr]
    simp only [hl, decide_false, brT_f, Tree.ok, beq_self_eq_true, Bool.not_true, eqL, decide_true]
    repeat' (first | exact True.intro | omega | exact rfl | refine And.intro ?_ ?_)
set_option maxRecDepth 100000 in
theorem tr_exBoundaryCount (ps : List Pt) : bodyV Try.prog EBp 30 12 7 [.row ps.length (.ints (flat ps))] = brT (decide (IntKind.i64.wrap (1048576 - (↑ps.length : Int)) < 0)) (.fin (.bool (true)) []) (brT (decide (IntKind.i64.wrap (1048576 - (↑ps.length : Int)) < 0)) (.fin (.bool (true)) []) (.need (ps.length * (2 : Nat) ≤ (List.drop (0 : Nat) (flat ps)).length) (.need (ps.length ≤ (1000000000 : Nat)) (.need (ps.length * (2 : Nat) ≤ (List.drop (0 : Nat) (List.take (ps.length * (2 : Nat)) (List.drop (0 : Nat) (flat ps)))).length) (.need (ps.length ≤ (1000000000 : Nat)) (.need (ps.length * (2 : Nat) ≤ (List.drop (0 : Nat) (flat ps)).length) (.need (ps.length ≤ (1000000000 : Nat)) (.need (ps.length * (2 : Nat) ≤ (List.drop (0 : Nat) (List.take (ps.length * (2 : Nat)) (List.drop (0 : Nat) (flat ps)))).length) (.need (ps.length ≤ (1000000000 : Nat)) (brT (!bcV (ptsA ps.length (List.drop 0 (List.take (ps.length * 2) (List.drop 0 (flat ps))))) == bcV (ptsA ps.length (List.drop 0 (List.take (ps.length * 2) (List.drop 0 (flat ps)))))) (.fin (.bool (false)) []) (.need (ps.length * (2 : Nat) ≤ (List.drop (0 : Nat) (flat ps)).length) (.need (ps.length ≤ (1000000000 : Nat)) (.need (ps.length * (2 : Nat) ≤ (List.drop (0 : Nat) (List.take (ps.length * (2 : Nat)) (List.drop (0 : Nat) (flat ps)))).length) (.need (ps.length * (2 : Nat) ≤ (List.drop (0 : Nat) (List.take (ps.length * (2 : Nat)) (List.drop (0 : Nat) (flat ps)))).length) (.need (ps.length ≤ (1000000000 : Nat)) (brT (!eqL (ptsA ps.length (List.drop 0 (List.take (ps.length * 2) (List.drop 0 (flat ps))))) (ptsA ps.length (List.drop 0 (List.take (ps.length * 2) (List.drop 0 (flat ps)))))) (.fin (.bool (false)) []) (.fin (.bool (true)) []))))))))))))))))) := by kernel_rfl
theorem ExactBoundaryCount_res (ps : List Pt) (h : (ps.length : Int) ≤ 9223372036854775807) : Res Try.prog 7 [.row ps.length (.ints (flat ps))] (.bool true) := by
  refine bodyV_res mixed EBp_ok (m := 30) (n := 12) rfl ?_
  rw [tr_exBoundaryCount]
  simp only [List.drop_zero, flat_all, ptsA_flat, flat_length]
  by_cases hl : (1048576 : Int) - ps.length < 0
  · simp (disch := omega) only [wr]
    simp only [hl, decide_true, brT_t, Tree.ok]
  · simp (disch := omega) only [wr]
    simp only [hl, decide_false, brT_f, Tree.ok, beq_self_eq_true, Bool.not_true, eqL, decide_true]
    repeat' (first | exact True.intro | omega | exact rfl | refine And.intro ?_ ?_)
set_option maxRecDepth 100000 in
theorem tr_exInteriorCount (ps : List Pt) : bodyV Try.prog EBp 30 12 8 [.row ps.length (.ints (flat ps))] = brT (decide (IntKind.i64.wrap (1048576 - (↑ps.length : Int)) < 0)) (.fin (.bool (true)) []) (brT (decide (IntKind.i64.wrap (1048576 - (↑ps.length : Int)) < 0)) (.fin (.bool (true)) []) (.need (ps.length * (2 : Nat) ≤ (List.drop (0 : Nat) (flat ps)).length) (.need (ps.length ≤ (1000000000 : Nat)) (.need (ps.length * (2 : Nat) ≤ (List.drop (0 : Nat) (List.take (ps.length * (2 : Nat)) (List.drop (0 : Nat) (flat ps)))).length) (.need (ps.length ≤ (1000000000 : Nat)) (.need (ps.length * (2 : Nat) ≤ (List.drop (0 : Nat) (flat ps)).length) (.need (ps.length ≤ (1000000000 : Nat)) (.need (ps.length * (2 : Nat) ≤ (List.drop (0 : Nat) (List.take (ps.length * (2 : Nat)) (List.drop (0 : Nat) (flat ps)))).length) (.need (ps.length ≤ (1000000000 : Nat)) (brT (!icV (ptsA ps.length (List.drop 0 (List.take (ps.length * 2) (List.drop 0 (flat ps))))) == icV (ptsA ps.length (List.drop 0 (List.take (ps.length * 2) (List.drop 0 (flat ps)))))) (.fin (.bool (false)) []) (.need (ps.length * (2 : Nat) ≤ (List.drop (0 : Nat) (flat ps)).length) (.need (ps.length ≤ (1000000000 : Nat)) (.need (ps.length * (2 : Nat) ≤ (List.drop (0 : Nat) (List.take (ps.length * (2 : Nat)) (List.drop (0 : Nat) (flat ps)))).length) (.need (ps.length * (2 : Nat) ≤ (List.drop (0 : Nat) (List.take (ps.length * (2 : Nat)) (List.drop (0 : Nat) (flat ps)))).length) (.need (ps.length ≤ (1000000000 : Nat)) (brT (!eqL (ptsA ps.length (List.drop 0 (List.take (ps.length * 2) (List.drop 0 (flat ps))))) (ptsA ps.length (List.drop 0 (List.take (ps.length * 2) (List.drop 0 (flat ps)))))) (.fin (.bool (false)) []) (.fin (.bool (true)) []))))))))))))))))) := by kernel_rfl
theorem ExactInteriorCount_res (ps : List Pt) (h : (ps.length : Int) ≤ 9223372036854775807) : Res Try.prog 8 [.row ps.length (.ints (flat ps))] (.bool true) := by
  refine bodyV_res mixed EBp_ok (m := 30) (n := 12) rfl ?_
  rw [tr_exInteriorCount]
  simp only [List.drop_zero, flat_all, ptsA_flat, flat_length]
  by_cases hl : (1048576 : Int) - ps.length < 0
  · simp (disch := omega) only [wr]
    simp only [hl, decide_true, brT_t, Tree.ok]
  · simp (disch := omega) only [wr]
    simp only [hl, decide_false, brT_f, Tree.ok, beq_self_eq_true, Bool.not_true, eqL, decide_true]
    repeat' (first | exact True.intro | omega | exact rfl | refine And.intro ?_ ?_)
end Go.Proofs.Ytfbcbmckicmalaa
