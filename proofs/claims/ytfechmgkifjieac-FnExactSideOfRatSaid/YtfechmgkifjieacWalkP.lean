/-
  Sides of lines at points with fractions: the model's SideOfRat. Written by an AI agent.
-/
import Derived.Test.YtfechmgkifjieacWalkO
namespace Go.Proofs.Ytfechmgkifjieac
open Go.RowKit

theorem specSideI_any (a b c n d m e : Int) (w : World) (hl : lineB a b c = true) (hs : solB n d m e = true) :
    Calls Try.prog 72 #[.int .i64 a, .int .i64 b, .int .i64 c, .agg #[.int .i64 n, .int .i64 d, .int .i64 m, .int .i64 e]] w fun e' w' => e' = .returned (.int .i64 (sideI a b c n d m e)) ∧ Below w.heap.size w w' := by
  have bd := sol_bd hl hs
  obtain ⟨g1, u1, v1, k1⟩ := uv_bd (d := d) (e := e) (by omega) (by omega)
  have l1 := lineB_true hl
  clear hl hs
  rw [Int.mul_comm (vI d e) n, Int.mul_comm (uI d e) m, show c * lcmI d e = c * uI d e * e by unfold lcmI; rw [Int.mul_assoc]] at bd
  have HR := Lib.hid (show sideI a b c n d m e = sgn (a * (n * e.tdiv (gI d e)) + b * (m * d.tdiv (gI d e)) - c * d.tdiv (gI d e) * e) from rfl)
  unfold uI at bd u1
  unfold vI at bd v1
  obtain ⟨d1, d2, m1, m2, m3, m4, m5, m6⟩ := bd
  have hg0 : ¬ gI d e = 0 := by omega
  clear k1
  go_enter Try.func72, Try.ntmps72
  go_wp2_with fail
  refine (specGcd_any _ _ _ (by omega) (by omega)).mono ?_; rintro e' w1 ⟨rfl, rfl⟩
  generalize gI d e = G at *
  generalize hV : e.tdiv G = V at *
  generalize hU : d.tdiv G = U at *
  have W0 : IntKind.i64.wrap V = V := IntWalk.i64_in _ (by omega)
  have W1 : IntKind.i64.wrap U = U := IntWalk.i64_in _ (by omega)
  have W2 : IntKind.i64.wrap (n * V) = n * V := IntWalk.i64_in _ (by omega)
  have W3 : IntKind.i64.wrap (m * U) = m * U := IntWalk.i64_in _ (by omega)
  have W4 : IntKind.i64.wrap (a * (n * V)) = a * (n * V) := IntWalk.i64_in _ (by omega)
  have W5 : IntKind.i64.wrap (b * (m * U)) = b * (m * U) := IntWalk.i64_in _ (by omega)
  have W6 : IntKind.i64.wrap (c * U) = c * U := IntWalk.i64_in _ (by omega)
  have W7 : IntKind.i64.wrap (c * U * e) = c * U * e := IntWalk.i64_in _ (by omega)
  have W8 : IntKind.i64.wrap (a * (n * V) + b * (m * U)) = a * (n * V) + b * (m * U) := IntWalk.i64_in _ (by omega)
  have W9 : IntKind.i64.wrap (a * (n * V) + b * (m * U) - c * U * e) = a * (n * V) + b * (m * U) - c * U * e := IntWalk.i64_in _ (by omega)
  clear m1 m2 m3 m4 m5 m6
  go_wp2_with fail
  go_quiet (fail)
  go_wp2_with fail
  go_quiet (fail)
  go_wp2_with fail
  go_quiet ((go_at_call 56; refine (specSign_any _ _).mono ?_; rintro e' w' ⟨rfl, rfl⟩; exact ⟨rfl, _, rfl⟩))
  go_wp2_with fail
  go_ret
  exact ⟨ret_int HR.out.symm, by repeat' (first | exact nr _ | apply na | apply Below.drew | apply nd | refine nt ?_ (by assumption))⟩
theorem SpecSideQ_any (a b c n d m e : Int) (w : World) :
    Calls Try.prog 36 #[.agg #[.int .i64 a, .int .i64 b, .int .i64 c], .agg #[.int .i64 n, .int .i64 d, .int .i64 m, .int .i64 e]] w fun e' w' => e' = .returned (.int .i64 (sideQ a b c n d m e)) ∧ Below w.heap.size w w' := by
  go_enter Try.func36, Try.ntmps36
  rcases va : lineB a b c with _ | _
  · have HR := Lib.hid (sideQ_no (both_no (b := solB n d m e) va))
    have VA := Lib.hid va
    clear va
    go_wp2_with fail
    refine (specLine_any a b c _).mono ?_; rw [VA.out]; rintro e' w1 ⟨rfl, hb1⟩; obtain ⟨hc1, hf1, hz1⟩ := bc2 w.heap.size hb1 (by simp)
    go_wp2
    go_ret
    exact ⟨ret_int HR.out.symm, by repeat' (first | exact nr _ | apply na | apply Below.drew | apply nd | refine nt ?_ (by assumption))⟩
  rcases vb : solB n d m e with _ | _
  · have HR := Lib.hid (sideQ_no (both_no' (a := lineB a b c) vb))
    have VA := Lib.hid va
    have VB := Lib.hid vb
    clear va vb
    go_wp2_with fail
    refine (specLine_any a b c _).mono ?_; rw [VA.out]; rintro e' w1 ⟨rfl, hb1⟩; obtain ⟨hc1, hf1, hz1⟩ := bc2 w.heap.size hb1 (by simp)
    go_wp2_with fail
    refine (specSol_any n d m e _).mono ?_; rw [VB.out]; rintro e' w2 ⟨rfl, hb2⟩; obtain ⟨hc2, hf2, hz2⟩ := bc2 w.heap.size hb2 (by omega)
    go_wp2
    go_ret
    exact ⟨ret_int HR.out.symm, by repeat' (first | exact nr _ | apply na | apply Below.drew | apply nd | refine nt ?_ (by assumption))⟩
  have HR := Lib.hid (sideQ_yes (both_yes va vb))
  have VA := Lib.hid va
  have VB := Lib.hid vb
  clear va vb
  go_wp2_with fail
  refine (specLine_any a b c _).mono ?_; rw [VA.out]; rintro e' w1 ⟨rfl, hb1⟩; obtain ⟨hc1, hf1, hz1⟩ := bc2 w.heap.size hb1 (by simp)
  go_wp2_with fail
  refine (specSol_any n d m e _).mono ?_; rw [VB.out]; rintro e' w2 ⟨rfl, hb2⟩; obtain ⟨hc2, hf2, hz2⟩ := bc2 w.heap.size hb2 (by omega)
  go_wp2_with fail
  refine (specSideI_any _ _ _ _ _ _ _ _ VA.out VB.out).mono ?_; rintro e' w3 ⟨rfl, hb3⟩
  go_wp2_with fail
  go_ret
  exact ⟨ret_int HR.out.symm, by repeat' (first | exact nr _ | apply na | apply Below.drew | apply nd | refine nt ?_ (by assumption))⟩
theorem reach_any (n d : Int) (w : World) (hd : 1 ≤ d ∧ d ≤ 20000000) :
    Calls Try.prog 75 #[.agg #[.int .i64 n, .int .i64 d]] w fun e' w' => e' = .returned (.bool (reachB n d)) ∧ Below w.heap.size w w' := by
  go_enter Try.func75, Try.ntmps75
  go_wp2_with (go_at_call 63; refine (within_any _ _ _ (by omega) (by omega)).mono ?_; rintro e' w' ⟨rfl, rfl⟩)
  go_ret
  exact ⟨rfl, by repeat' (first | exact nr _ | apply na | apply Below.drew | apply nd | refine nt ?_ (by assumption))⟩
end Go.Proofs.Ytfechmgkifjieac
