/-
  Sides of lines at points with fractions: the model's functions. Written by an AI agent.
-/
import Derived.Test.YtfechmgkifjieacWalkN
namespace Go.Proofs.Ytfechmgkifjieac
open Go.RowKit

theorem solB_a {n d m e : Int} (h : ratB n d = false) : solB n d m e = false := by unfold solB; rw [h]; rfl
theorem solB_b {n d m e : Int} (h : ratB n d = true) (k : ratB m e = false) : solB n d m e = false := by unfold solB; rw [h, k]; rfl
theorem solB_c {n d m e : Int} (h : ratB n d = true) (k : ratB m e = true) : solB n d m e = (reachB n d && reachB m e && decide (lcmI d e ≤ 20000000)) := by unfold solB; rw [h, k]; rfl
theorem specSol_any (n d m e : Int) (w : World) :
    Calls Try.prog 71 #[.agg #[.int .i64 n, .int .i64 d, .int .i64 m, .int .i64 e]] w fun e' w' => e' = .returned (.bool (solB n d m e)) ∧ Below w.heap.size w w' := by
  go_enter Try.func71, Try.ntmps71
  rcases va : ratB n d with _ | _
  · have HR := Lib.hid (solB_a (m := m) (e := e) va)
    have VA := Lib.hid va
    clear va
    go_wp2_with fail
    refine (specRat_any n d _).mono ?_; rw [VA.out]; rintro e' w1 ⟨rfl, hb1⟩; obtain ⟨hc1, hf1, hz1⟩ := bc1 w.heap.size hb1 (by simp)
    go_wp2_with fail
    go_ret
    exact ⟨ret_bool HR.out.symm, by repeat' (first | exact nr _ | apply na | apply Below.drew | apply nd | refine nt ?_ (by assumption))⟩
  rcases vb : ratB m e with _ | _
  · have HR := Lib.hid (solB_b va vb)
    have VA := Lib.hid va
    have VB := Lib.hid vb
    clear va vb
    go_wp2_with fail
    refine (specRat_any n d _).mono ?_; rw [VA.out]; rintro e' w1 ⟨rfl, hb1⟩; obtain ⟨hc1, hf1, hz1⟩ := bc1 w.heap.size hb1 (by simp)
    go_wp2_with fail
    refine (specRat_any m e _).mono ?_; rw [VB.out]; rintro e' w2 ⟨rfl, hb2⟩; obtain ⟨hc2, hf2, hz2⟩ := bc1 w.heap.size hb2 (by omega)
    go_wp2_with fail
    go_ret
    exact ⟨ret_bool HR.out.symm, by repeat' (first | exact nr _ | apply na | apply Below.drew | apply nd | refine nt ?_ (by assumption))⟩
  have r1 := ratB_true va
  have r2 := ratB_true vb
  obtain ⟨g1, u1, v1, k1⟩ := uv_bd (d := d) (e := e) (by omega) (by omega)
  have HR := Lib.hid (solB_c va vb)
  have A1 := Lib.hid (reachB_abs n d)
  have A2 := Lib.hid (reachB_abs m e)
  have VA := Lib.hid va
  have VB := Lib.hid vb
  unfold lcmI uI at k1
  unfold uI at u1
  clear va vb
  have b1 : -2000000000000 ≤ 10000 * d ∧ 10000 * d ≤ 2000000000000 := by omega
  have b2 : -2000000000000 ≤ 10000 * e ∧ 10000 * e ≤ 2000000000000 := by omega
  go_wp2_with fail
  refine (specRat_any n d _).mono ?_; rw [VA.out]; rintro e' w1 ⟨rfl, hb1⟩; obtain ⟨hc1, hf1, hz1⟩ := bc1 w.heap.size hb1 (by simp)
  go_wp2_with fail
  refine (specRat_any m e _).mono ?_; rw [VB.out]; rintro e' w2 ⟨rfl, hb2⟩; obtain ⟨hc2, hf2, hz2⟩ := bc1 w.heap.size hb2 (by omega)
  go_wp2_with fail
  have hb : Below w.heap.size w w2 := by repeat' (first | exact nr _ | apply na | apply Below.drew | apply nd | refine nt ?_ (by assumption))
  have W0 : IntKind.i64.wrap (d.tdiv (gI d e)) = d.tdiv (gI d e) := IntWalk.i64_in _ (by omega)
  have W1 : IntKind.i64.wrap (d.tdiv (gI d e) * e) = d.tdiv (gI d e) * e := IntWalk.i64_in _ (by omega)
  have W2 : IntKind.i64.wrap (10000 * d) = 10000 * d := IntWalk.i64_in _ (by omega)
  have W3 : IntKind.i64.wrap (10000 * e) = 10000 * e := IntWalk.i64_in _ (by omega)
  have hg0 : ¬ gI d e = 0 := by omega
  by_cases hL : d.tdiv (gI d e) * e ≤ 20000000
  · have hl : decide (d.tdiv (gI d e) * e ≤ 20000000) = true := decide_eq_true hL
    rcases hA : decide ((n.natAbs : Int) ≤ 10000 * d) with _ | _
    · have HQ := Lib.hid (show solB n d m e = false by rw [HR.out, ← A1.out, hA]; rfl)
      go_quiet (first
      | (go_at_call 87; exact Calls.quiet_of_same (q0 (specGcd_any _ _ _ (by omega) (by omega))))
      | (go_at_call 88; exact Calls.quiet_of_same (q0 (abs_any _ _ (by omega)))))
      go_wp2_with fail
      go_ret
      exact ⟨ret_bool HQ.out.symm, nd hb _⟩
    · have HQ := Lib.hid (show solB n d m e = decide ((m.natAbs : Int) ≤ 10000 * e) by rw [HR.out, ← A1.out, hA, ← A2.out, decide_eq_true (show lcmI d e ≤ 20000000 from hL)]; simp)
      go_quiet (first
      | (go_at_call 87; exact Calls.quiet_of_same (q0 (specGcd_any _ _ _ (by omega) (by omega))))
      | (go_at_call 88; exact Calls.quiet_of_same (q0 (abs_any _ _ (by omega)))))
      go_wp2_with fail
      go_ret
      exact ⟨ret_bool HQ.out.symm, nd hb _⟩
  · have hl : decide (d.tdiv (gI d e) * e ≤ 20000000) = false := decide_eq_false hL
    have HQ := Lib.hid (show solB n d m e = false by rw [HR.out, decide_eq_false (show ¬ lcmI d e ≤ 20000000 from hL)]; simp)
    go_quiet (first
      | (go_at_call 87; exact Calls.quiet_of_same (q0 (specGcd_any _ _ _ (by omega) (by omega))))
      | (go_at_call 88; exact Calls.quiet_of_same (q0 (abs_any _ _ (by omega)))))
    go_wp2_with fail
    go_ret
    exact ⟨ret_bool HQ.out.symm, nd hb _⟩
end Go.Proofs.Ytfechmgkifjieac
