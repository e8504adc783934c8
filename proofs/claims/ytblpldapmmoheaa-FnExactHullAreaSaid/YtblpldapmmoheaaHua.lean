/-
  The area of a hull: both ways, the exact law. Written by an AI agent.
-/
import Derived.Test.YtblpldapmmoheaaHul
import Derived.Test.YtblpldapmmoheaaSga
namespace Go.Proofs.Ytblpldapmmoheaa
open Go.RowKit

def THa : Tab := orT TSb TMh
theorem THa_ok : TabOk Try.prog THa := orT_ok TSb_ok TMh_ok
def EHa : Env := mkE THa RHw (fun _ => noL)
theorem EHa_ok : EnvOk Try.prog EHa := mkEOk THa_ok RHw_ok (fun _ _ _ => noL_good)
set_option maxRecDepth 100000 in
theorem tr_iHa (ps : List Pt) : bodyV Try.prog EHa 30 12 25 [.row ps.length (.ints (flat ps))] = brT (decide ((↑ps.length : Int) ≤ 20)) (.need (ps.length * (2 : Nat) ≤ (List.drop (0 : Nat) (flat ps)).length) (.need (ps.length ≤ (1000000000 : Nat)) (brT (!allV (ptsA ps.length (List.drop 0 (flat ps)))) (.fin (.int .i64 (-1)) []) (.need (ps.length * (2 : Nat) ≤ (List.drop (0 : Nat) (flat ps)).length) (.need (ps.length ≤ (1000000000 : Nat)) (.need ((hulV (ptsA ps.length (List.drop (0 : Nat) (flat ps)))).length * (2 : Nat) ≤ (List.drop (0 : Nat) (flat (hulV (ptsA ps.length (List.drop (0 : Nat) (flat ps)))))).length) (.need (allV (ptsA (hulV (ptsA ps.length (List.drop (0 : Nat) (flat ps)))).length (List.drop (0 : Nat) (flat (hulV (ptsA ps.length (List.drop (0 : Nat) (flat ps))))))) = true) (.need ((hulV (ptsA ps.length (List.drop (0 : Nat) (flat ps)))).length ≤ (1000 : Nat)) (.fin (.int .i64 (sgA (ptsA (hulV (ptsA ps.length (List.drop 0 (flat ps)))).length (List.drop 0 (flat (hulV (ptsA ps.length (List.drop 0 (flat ps))))))) (hulV (ptsA ps.length (List.drop 0 (flat ps)))).length)) []))))))))) (.fin (.int .i64 (-1)) []) := by kernel_rfl
set_option maxRecDepth 100000 in
theorem tr_sHa (ps : List Pt) : bodyV Try.prog EHa 30 12 24 [.row ps.length (.ints (flat ps))] = .need (ps.length * (2 : Nat) ≤ (List.drop (0 : Nat) (flat ps)).length) (.need (ps.length ≤ (1000000000 : Nat)) (brT (!okL (ptsA ps.length (List.drop 0 (flat ps)))) (.fin (.int .i64 (-1)) []) (.need (ps.length * (2 : Nat) ≤ (List.drop (0 : Nat) (flat ps)).length) (.need (allV (ptsA ps.length (List.drop (0 : Nat) (flat ps))) = true) (.need (ps.length ≤ (1000 : Nat)) (.need ((hulL (srtL (ptsA ps.length (List.drop (0 : Nat) (flat ps))))).length * (2 : Nat) ≤ (List.drop (0 : Nat) (flat (hulL (srtL (ptsA ps.length (List.drop (0 : Nat) (flat ps))))))).length) (.need (allV (ptsA (hulL (srtL (ptsA ps.length (List.drop (0 : Nat) (flat ps))))).length (List.drop (0 : Nat) (flat (hulL (srtL (ptsA ps.length (List.drop (0 : Nat) (flat ps)))))))) = true) (.need ((hulL (srtL (ptsA ps.length (List.drop (0 : Nat) (flat ps))))).length ≤ (1000 : Nat)) (.fin (.int .i64 (sgA (ptsA (hulL (srtL (ptsA ps.length (List.drop 0 (flat ps))))).length (List.drop 0 (flat (hulL (srtL (ptsA ps.length (List.drop 0 (flat ps)))))))) (hulL (srtL (ptsA ps.length (List.drop 0 (flat ps))))).length)) []))))))))) := by kernel_rfl
def haV (ps : List Pt) : Int := bif okL ps then sgA (hulV ps) (hulV ps).length else -1
theorem okL_split {ps : List Pt} (h : okL ps = false) : ps.length ≤ 20 → allV ps = false := fun hl => by
  unfold okL at h
  simpa [hl] using h
theorem allV_hulV (ps : List Pt) : allV (hulV ps) = true := allV_hul (spV_all ps)
theorem res_iHa (ps : List Pt) (h : Big ps) : Res Try.prog 25 [.row ps.length (.ints (flat ps))] (iv (haV ps)) := by
  refine bodyV_res mixed EHa_ok (m := 30) (n := 12) rfl ?_
  rw [tr_iHa]
  unfold Big at h
  simp only [List.drop_zero, ptsA_flat, flat_length]
  have hV := hulV_len ps
  unfold haV
  rcases ho : okL ps with _ | _
  · refine brT_ok.2 ⟨fun hl => ⟨Nat.le_refl _, h, ?_⟩, fun _ => rfl⟩
    rw [okL_split ho (by have := of_decide_eq_true hl; omega)]
    exact rfl
  · obtain ⟨h1, h2⟩ := okL_20 ho
    refine brT_ok.2 ⟨fun hl => ⟨Nat.le_refl _, h, ?_⟩, fun hl => by have := of_decide_eq_false hl; omega⟩
    rw [h1]
    exact ⟨Nat.le_refl _, h, Nat.le_refl _, allV_hulV ps, by omega, rfl⟩
theorem res_sHa (ps : List Pt) (h : Big ps) : Res Try.prog 24 [.row ps.length (.ints (flat ps))] (iv (haV ps)) := by
  refine bodyV_res mixed EHa_ok (m := 30) (n := 12) rfl ?_
  rw [tr_sHa]
  unfold Big at h
  simp only [List.drop_zero, ptsA_flat, flat_length]
  have hV := hulV_len ps
  unfold haV
  rcases ho : okL ps with _ | _
  · exact ⟨Nat.le_refl _, h, rfl⟩
  · obtain ⟨h1, h2⟩ := okL_20 ho
    have ha := allV_hulV ps
    rw [hulV_yes ho] at hV ha
    rw [hulV_yes ho]
    exact ⟨Nat.le_refl _, h, Nat.le_refl _, h1, by omega, Nat.le_refl _, ha, by omega, rfl⟩
def pHa : List DArg → Option (Value × List Prop)
  | [.row m (.ints xs)] => some (iv (haV (ptsA m xs)), [m * 2 ≤ xs.length, m ≤ 1000000000])
  | _ => none
theorem pHa_i {ds : List DArg} {v : Value} {C : List Prop} (h : pHa ds = some (v, C)) (hC : AllP C) : Res Try.prog 25 ds v := by
  unfold pHa at h
  split at h
  · rename_i m xs
    obtain ⟨rfl, rfl⟩ : _ ∧ _ := by simpa using h
    obtain ⟨_, h2⟩ := ptsA_spec hC.1
    exact res_pts1 (pre := []) (post := []) hC.1 (res_iHa _ (by unfold Big; rw [h2]; exact hC.2.1))
  · cases h
theorem pHa_s {ds : List DArg} {v : Value} {C : List Prop} (h : pHa ds = some (v, C)) (hC : AllP C) : Res Try.prog 24 ds v := by
  unfold pHa at h
  split at h
  · rename_i m xs
    obtain ⟨rfl, rfl⟩ : _ ∧ _ := by simpa using h
    obtain ⟨_, h2⟩ := ptsA_spec hC.1
    exact res_pts1 (pre := []) (post := []) hC.1 (res_sHa _ (by unfold Big; rw [h2]; exact hC.2.1))
  · cases h
def THb : Tab := fun f ds => match f with
  | 25 => pHa ds
  | 24 => pHa ds
  | _ => none
theorem THb_ok : TabOk Try.prog THb := by
  intro f ds v C h hC
  unfold THb at h
  (try split at h)
  all_goals first | with_reducible exact pHa_i h hC | with_reducible exact pHa_s h hC | cases h
def EHb : Env := mkE (orT THb TMh) R4 (fun _ => noL)
theorem EHb_ok : EnvOk Try.prog EHb := mkEOk (orT_ok THb_ok TMh_ok) R4_ok (fun _ _ _ => noL_good)
set_option maxRecDepth 100000 in
theorem tr_exHa (ps : List Pt) : bodyV Try.prog EHb 30 12 5 [.row ps.length (.ints (flat ps))] = brT (decide (IntKind.i64.wrap (1048576 - (↑ps.length : Int)) < 0)) (.fin (.bool (true)) []) (brT (decide (IntKind.i64.wrap (1048576 - (↑ps.length : Int)) < 0)) (.fin (.bool (true)) []) (.need (ps.length * (2 : Nat) ≤ (List.drop (0 : Nat) (flat ps)).length) (.need (ps.length ≤ (1000000000 : Nat)) (.need (ps.length * (2 : Nat) ≤ (List.drop (0 : Nat) (List.take (ps.length * (2 : Nat)) (List.drop (0 : Nat) (flat ps)))).length) (.need (ps.length ≤ (1000000000 : Nat)) (.need (ps.length * (2 : Nat) ≤ (List.drop (0 : Nat) (flat ps)).length) (.need (ps.length ≤ (1000000000 : Nat)) (.need (ps.length * (2 : Nat) ≤ (List.drop (0 : Nat) (List.take (ps.length * (2 : Nat)) (List.drop (0 : Nat) (flat ps)))).length) (.need (ps.length ≤ (1000000000 : Nat)) (brT (!haV (ptsA ps.length (List.drop 0 (List.take (ps.length * 2) (List.drop 0 (flat ps))))) == haV (ptsA ps.length (List.drop 0 (List.take (ps.length * 2) (List.drop 0 (flat ps)))))) (.fin (.bool (false)) []) (.need (ps.length * (2 : Nat) ≤ (List.drop (0 : Nat) (flat ps)).length) (.need (ps.length ≤ (1000000000 : Nat)) (.need (ps.length * (2 : Nat) ≤ (List.drop (0 : Nat) (List.take (ps.length * (2 : Nat)) (List.drop (0 : Nat) (flat ps)))).length) (.need (ps.length * (2 : Nat) ≤ (List.drop (0 : Nat) (List.take (ps.length * (2 : Nat)) (List.drop (0 : Nat) (flat ps)))).length) (.need (ps.length ≤ (1000000000 : Nat)) (brT (!eqL (ptsA ps.length (List.drop 0 (List.take (ps.length * 2) (List.drop 0 (flat ps))))) (ptsA ps.length (List.drop 0 (List.take (ps.length * 2) (List.drop 0 (flat ps)))))) (.fin (.bool (false)) []) (.fin (.bool (true)) []))))))))))))))))) := by kernel_rfl
theorem ExactHullArea_res (ps : List Pt) (h : (ps.length : Int) ≤ 9223372036854775807) : Res Try.prog 5 [.row ps.length (.ints (flat ps))] (.bool true) := by
  refine bodyV_res mixed EHb_ok (m := 30) (n := 12) rfl ?_
  rw [tr_exHa]
  simp only [List.drop_zero, flat_all, ptsA_flat, flat_length]
  by_cases hl : (1048576 : Int) - ps.length < 0
  · simp (disch := omega) only [wr]
    simp only [hl, decide_true, brT_t, Tree.ok]
  · have k2 : decide ((1 : Int) + (ps.length * 2 : Nat) < 0) = false := decide_eq_false (by omega)
    simp (disch := omega) only [wr]
    simp only [hl, decide_false, brT_f, Tree.ok, beq_self_eq_true, Bool.not_true, eqL, decide_true, k2]
    repeat' (first | exact True.intro | assumption | omega | exact rfl | refine And.intro ?_ ?_)
end Go.Proofs.Ytblpldapmmoheaa
