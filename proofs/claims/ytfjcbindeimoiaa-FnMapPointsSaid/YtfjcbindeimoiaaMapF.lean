/-
  The exact law of MapPoints; the law of composition. Written by an AI agent.
-/
import Derived.Test.YtfjcbindeimoiaaMap
import Derived.Test.YtfjcbindeimoiaaMatE
namespace Go.Proofs.Ytfjcbindeimoiaa
open Go.RowKit

def RMp : TabR := fun f ds => match f, ds with
  | 33, [.v (.agg ⟨[.int .i64 a, .int .i64 b, .int .i64 c, .int .i64 d]⟩), .row m (.ints xs)] => some (rowP (mpB a b c d (ptsA m xs)) (mpV a b c d (ptsA m xs)), ⟨.row 36 2, .ints (flat (mpV a b c d (ptsA m xs)))⟩, [m * 2 ≤ xs.length, m ≤ 1000000000])
  | 27, [.v (.agg ⟨[.int .i64 a, .int .i64 b, .int .i64 c, .int .i64 d]⟩), .row m (.ints xs)] => some (rowP (mpB a b c d (ptsA m xs)) (mpV a b c d (ptsA m xs)), ⟨.row 36 2, .ints (flat (mpV a b c d (ptsA m xs)))⟩, [m * 2 ≤ xs.length, m ≤ 1000000000])
  | f, ds => R4 f ds
theorem RMp_ok : TabROk Try.prog RMp := by
  intro f ds v b C h hC
  unfold RMp at h
  split at h
  · obtain ⟨rfl, rfl, rfl⟩ : _ ∧ _ ∧ _ := by simpa using h
    obtain ⟨_, h2⟩ := ptsA_spec hC.1
    exact resR_pts1 (pre := [_]) (post := []) hC.1 (resR_specMap _ _ _ _ _ (by unfold Big; rw [h2]; exact hC.2.1))
  · obtain ⟨rfl, rfl, rfl⟩ : _ ∧ _ ∧ _ := by simpa using h
    obtain ⟨_, h2⟩ := ptsA_spec hC.1
    exact resR_pts1 (pre := [_]) (post := []) hC.1 (resR_implMap _ _ _ _ _ (by unfold Big; rw [h2]; exact hC.2.1))
  · exact R4_ok _ _ _ _ _ h hC
def TMl : Tab := fun f ds => match f with
  | 37 => pHeldP ds
  | f => T3 f ds
theorem TMl_ok : TabOk Try.prog TMl := by
  intro f ds v C h hC
  unfold TMl at h
  split at h
  · exact pHeldP_ok h hC
  · exact T3_ok _ _ _ _ h hC
def EMl : Env := withT (mkE TMl RMp (fun _ => noL)) JmkP
theorem EMl_ok : EnvOk Try.prog EMl := withT_ok (mkEOk TMl_ok RMp_ok (fun _ _ _ => noL_good)) JmkP_ok
set_option maxRecDepth 100000 in
theorem tr_exMap (ps : List Pt) (a b c d : Int) : bodyV Try.prog EMl 30 12 13 [.v (.agg #[iv a, iv b, iv c, iv d]), .row ps.length (.ints (flat ps))] = brT (decide (IntKind.i64.wrap (1048576 - (↑ps.length : Int)) < 0)) (.fin (.bool (true)) []) (brT (decide (IntKind.i64.wrap (1048576 - (↑ps.length : Int)) < 0)) (.fin (.bool (true)) []) (.need (ps.length * (2 : Nat) ≤ (List.drop (0 : Nat) (flat ps)).length) (.need (ps.length ≤ (1000000000 : Nat)) (.need (ps.length * (2 : Nat) ≤ (List.drop (0 : Nat) (List.take (ps.length * (2 : Nat)) (List.drop (0 : Nat) (flat ps)))).length) (.need (ps.length ≤ (1000000000 : Nat)) (.need (ps.length * (2 : Nat) ≤ (List.drop (0 : Nat) (flat ps)).length) (.need (ps.length ≤ (1000000000 : Nat)) (.need (ps.length * (2 : Nat) ≤ (List.drop (0 : Nat) (List.take (ps.length * (2 : Nat)) (List.drop (0 : Nat) (flat ps)))).length) (.need (ps.length ≤ (1000000000 : Nat)) (.need ((mpV a b c d (ptsA ps.length (List.drop (0 : Nat) (List.take (ps.length * (2 : Nat)) (List.drop (0 : Nat) (flat ps)))))).length * (2 : Nat) ≤ (List.drop (0 : Nat) (flat (mpV a b c d (ptsA ps.length (List.drop (0 : Nat) (List.take (ps.length * (2 : Nat)) (List.drop (0 : Nat) (flat ps)))))))).length) (.need ((mpV a b c d (ptsA ps.length (List.drop (0 : Nat) (List.take (ps.length * (2 : Nat)) (List.drop (0 : Nat) (flat ps)))))).length * (2 : Nat) ≤ (List.drop (0 : Nat) (flat (mpV a b c d (ptsA ps.length (List.drop (0 : Nat) (List.take (ps.length * (2 : Nat)) (List.drop (0 : Nat) (flat ps)))))))).length) (.need ((mpV a b c d (ptsA ps.length (List.drop (0 : Nat) (List.take (ps.length * (2 : Nat)) (List.drop (0 : Nat) (flat ps)))))).length ≤ (1000000000 : Nat)) (brT (!eqL (ptsA (mpV a b c d (ptsA ps.length (List.drop 0 (List.take (ps.length * 2) (List.drop 0 (flat ps)))))).length (List.drop 0 (flat (mpV a b c d (ptsA ps.length (List.drop 0 (List.take (ps.length * 2) (List.drop 0 (flat ps))))))))) (ptsA (mpV a b c d (ptsA ps.length (List.drop 0 (List.take (ps.length * 2) (List.drop 0 (flat ps)))))).length (List.drop 0 (flat (mpV a b c d (ptsA ps.length (List.drop 0 (List.take (ps.length * 2) (List.drop 0 (flat ps)))))))))) (.fin (.bool (false)) []) (brT (!mpB a b c d (ptsA ps.length (List.drop 0 (List.take (ps.length * 2) (List.drop 0 (flat ps))))) == mpB a b c d (ptsA ps.length (List.drop 0 (List.take (ps.length * 2) (List.drop 0 (flat ps)))))) (.fin (.bool (false)) []) (.need (ps.length * (2 : Nat) ≤ (List.drop (0 : Nat) (flat ps)).length) (.need (ps.length ≤ (1000000000 : Nat)) (.need (ps.length * (2 : Nat) ≤ (List.drop (0 : Nat) (List.take (ps.length * (2 : Nat)) (List.drop (0 : Nat) (flat ps)))).length) (.need (ps.length * (2 : Nat) ≤ (List.drop (0 : Nat) (List.take (ps.length * (2 : Nat)) (List.drop (0 : Nat) (flat ps)))).length) (.need (ps.length ≤ (1000000000 : Nat)) (brT (!eqL (ptsA ps.length (List.drop 0 (List.take (ps.length * 2) (List.drop 0 (flat ps))))) (ptsA ps.length (List.drop 0 (List.take (ps.length * 2) (List.drop 0 (flat ps)))))) (.fin (.bool (false)) []) (.need ((List.take (ps.length * (2 : Nat)) (List.drop (0 : Nat) (flat ps))).length = ps.length * (2 : Nat)) (.need (Lim ps.length) (.need ((0 : Int) ≤ (1 : Int) ∧ (1 : Int) ≤ (1000000000 : Int)) (.need ((mpV a b c d (ptsA ps.length (List.drop (0 : Nat) (List.take (ps.length * (2 : Nat)) (List.drop (0 : Nat) (flat ps)))))).length * (2 : Nat) ≤ (List.drop (0 : Nat) (flat (mpV a b c d (ptsA ps.length (List.drop (0 : Nat) (List.take (ps.length * (2 : Nat)) (List.drop (0 : Nat) (flat ps)))))))).length) (.need ((mpV a b c d (ptsA ps.length (List.drop (0 : Nat) (List.take (ps.length * (2 : Nat)) (List.drop (0 : Nat) (flat ps)))))).length * (2 : Nat) ≤ (List.drop (0 : Nat) (flat (mpV a b c d (ptsA ps.length (List.drop (0 : Nat) (List.take (ps.length * (2 : Nat)) (List.drop (0 : Nat) (flat ps)))))))).length) (.need ((mpV a b c d (ptsA ps.length (List.drop (0 : Nat) (List.take (ps.length * (2 : Nat)) (List.drop (0 : Nat) (flat ps)))))).length ≤ (1000000000 : Nat)) (brT (!eqL (ptsA (mpV a b c d (ptsA ps.length (List.drop 0 (List.take (ps.length * 2) (List.drop 0 (flat ps)))))).length (List.drop 0 (flat (mpV a b c d (ptsA ps.length (List.drop 0 (List.take (ps.length * 2) (List.drop 0 (flat ps))))))))) (ptsA (mpV a b c d (ptsA ps.length (List.drop 0 (List.take (ps.length * 2) (List.drop 0 (flat ps)))))).length (List.drop 0 (flat (mpV a b c d (ptsA ps.length (List.drop 0 (List.take (ps.length * 2) (List.drop 0 (flat ps)))))))))) (.fin (.bool (false)) []) (brT (!mpB a b c d (ptsA ps.length (List.drop 0 (List.take (ps.length * 2) (List.drop 0 (flat ps))))) == mpB a b c d (ptsA ps.length (List.drop 0 (List.take (ps.length * 2) (List.drop 0 (flat ps)))))) (.fin (.bool (false)) []) (.need ((flat (mpV a b c d (ptsA ps.length (List.drop (0 : Nat) (List.take (ps.length * (2 : Nat)) (List.drop (0 : Nat) (flat ps))))))).length = (mpV a b c d (ptsA ps.length (List.drop (0 : Nat) (List.take (ps.length * (2 : Nat)) (List.drop (0 : Nat) (flat ps)))))).length * (2 : Nat)) (.need (Lim (mpV a b c d (ptsA ps.length (List.drop (0 : Nat) (List.take (ps.length * (2 : Nat)) (List.drop (0 : Nat) (flat ps)))))).length) (.need ((0 : Int) ≤ (1 : Int) ∧ (1 : Int) ≤ (1000000000 : Int)) (.need (Lim (mpV a b c d (ptsA ps.length (List.drop (0 : Nat) (List.take (ps.length * (2 : Nat)) (List.drop (0 : Nat) (flat ps)))))).length) (.need ((0 : Int) ≤ (1 : Int) ∧ (1 : Int) ≤ (1000000000 : Int)) (.need (List.drop (0 : Nat) (marks (1 : Int) ((mpV a b c d (ptsA ps.length (List.drop (0 : Nat) (List.take (ps.length * (2 : Nat)) (List.drop (0 : Nat) (flat ps)))))).length * (2 : Nat))) = marks (1 : Int) ((mpV a b c d (ptsA ps.length (List.drop (0 : Nat) (List.take (ps.length * (2 : Nat)) (List.drop (0 : Nat) (flat ps)))))).length * (2 : Nat))) (brT (!1 + (↑((mpV a b c d (ptsA ps.length (List.drop 0 (List.take (ps.length * 2) (List.drop 0 (flat ps)))))).length * 2) : Int) == 1 + (↑((mpV a b c d (ptsA ps.length (List.drop 0 (List.take (ps.length * 2) (List.drop 0 (flat ps)))))).length * 2) : Int)) (.fin (.bool (false)) []) (.need (ps.length * (2 : Nat) ≤ (List.drop (0 : Nat) (flat ps)).length) (.need (ps.length ≤ (1000000000 : Nat)) (.need (ps.length * (2 : Nat) ≤ (List.drop (0 : Nat) (List.take (ps.length * (2 : Nat)) (List.drop (0 : Nat) (flat ps)))).length) (.need (ps.length ≤ (1000000000 : Nat)) (.need ((mpV a b c d (ptsA ps.length (List.drop (0 : Nat) (List.take (ps.length * (2 : Nat)) (List.drop (0 : Nat) (flat ps)))))).length * (2 : Nat) ≤ (List.drop (0 : Nat) (flat (mpV a b c d (ptsA ps.length (List.drop (0 : Nat) (List.take (ps.length * (2 : Nat)) (List.drop (0 : Nat) (flat ps)))))))).length) (.need ((mpV a b c d (ptsA ps.length (List.drop (0 : Nat) (List.take (ps.length * (2 : Nat)) (List.drop (0 : Nat) (flat ps)))))).length * (2 : Nat) ≤ (List.drop (0 : Nat) (flat (mpV a b c d (ptsA ps.length (List.drop (0 : Nat) (List.take (ps.length * (2 : Nat)) (List.drop (0 : Nat) (flat ps)))))))).length) (.need ((mpV a b c d (ptsA ps.length (List.drop (0 : Nat) (List.take (ps.length * (2 : Nat)) (List.drop (0 : Nat) (flat ps)))))).length ≤ (1000000000 : Nat)) (brT (!eqL (ptsA (mpV a b c d (ptsA ps.length (List.drop 0 (List.take (ps.length * 2) (List.drop 0 (flat ps)))))).length (List.drop 0 (flat (mpV a b c d (ptsA ps.length (List.drop 0 (List.take (ps.length * 2) (List.drop 0 (flat ps))))))))) (ptsA (mpV a b c d (ptsA ps.length (List.drop 0 (List.take (ps.length * 2) (List.drop 0 (flat ps)))))).length (List.drop 0 (flat (mpV a b c d (ptsA ps.length (List.drop 0 (List.take (ps.length * 2) (List.drop 0 (flat ps)))))))))) (.fin (.bool (false)) []) (brT (!mpB a b c d (ptsA ps.length (List.drop 0 (List.take (ps.length * 2) (List.drop 0 (flat ps))))) == mpB a b c d (ptsA ps.length (List.drop 0 (List.take (ps.length * 2) (List.drop 0 (flat ps)))))) (.fin (.bool (false)) []) (.need (Lim (mpV a b c d (ptsA ps.length (List.drop (0 : Nat) (List.take (ps.length * (2 : Nat)) (List.drop (0 : Nat) (flat ps)))))).length) (.need ((0 : Int) ≤ (1 : Int) ∧ (1 : Int) ≤ (1000000000 : Int)) (.need (List.drop (0 : Nat) (marks (1 : Int) ((mpV a b c d (ptsA ps.length (List.drop (0 : Nat) (List.take (ps.length * (2 : Nat)) (List.drop (0 : Nat) (flat ps)))))).length * (2 : Nat))) = marks (1 : Int) ((mpV a b c d (ptsA ps.length (List.drop (0 : Nat) (List.take (ps.length * (2 : Nat)) (List.drop (0 : Nat) (flat ps)))))).length * (2 : Nat))) (brT (!1 + (↑((mpV a b c d (ptsA ps.length (List.drop 0 (List.take (ps.length * 2) (List.drop 0 (flat ps)))))).length * 2) : Int) == 1 + (↑((mpV a b c d (ptsA ps.length (List.drop 0 (List.take (ps.length * 2) (List.drop 0 (flat ps)))))).length * 2) : Int)) (.fin (.bool (false)) []) (.fin (.bool (true)) []))))))))))))))))))))))))))))))))))))))))))))))))) := by kernel_rfl
theorem mpV_len (a b c d : Int) (ps : List Pt) : (mpV a b c d ps).length ≤ 20 := by
  unfold mpV
  rcases hk : mpB a b c d ps with _ | _
  · exact Nat.zero_le _
  · unfold mpB at hk
    simp only [okL, Bool.and_eq_true, decide_eq_true_eq] at hk
    have := imgs_len a b c d ps
    simp only [cond_true]
    omega
theorem ExactMapPoints_res (a b c d : Int) (ps : List Pt) (h : (ps.length : Int) ≤ 9223372036854775807) : Res Try.prog 13 [.v (.agg #[iv a, iv b, iv c, iv d]), .row ps.length (.ints (flat ps))] (.bool true) := by
  refine bodyV_res mixed EMl_ok (m := 30) (n := 12) rfl ?_
  rw [tr_exMap]
  simp only [List.drop_zero, flat_all, ptsA_flat, flat_length]
  by_cases hl : (1048576 : Int) - ps.length < 0
  · simp (disch := omega) only [wr]
    simp only [hl, decide_true, brT_t, Tree.ok]
  · have hV := mpV_len a b c d ps
    have hL : Lim (mpV a b c d ps).length := Nat.le_trans hV (by decide)
    have hP : Lim ps.length := by unfold Lim; omega
    generalize mpV a b c d ps = V at *
    generalize mpB a b c d ps = B at *
    have k1 : decide ((1 : Int) + (V.length * 2 : Nat) < 0) = false := decide_eq_false (by omega)
    have k2 : decide ((1 : Int) + (ps.length * 2 : Nat) < 0) = false := decide_eq_false (by omega)
    simp (disch := omega) only [wr]
    simp only [hl, decide_false, brT_f, Tree.ok, beq_self_eq_true, Bool.not_true, eqL, decide_true, k1, k2]
    repeat' (first | exact True.intro | assumption | omega | exact rfl | refine And.intro ?_ ?_)
end Go.Proofs.Ytfjcbindeimoiaa
