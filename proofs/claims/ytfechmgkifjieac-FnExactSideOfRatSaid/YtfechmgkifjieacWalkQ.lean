/-
  Sides of lines at points with fractions: the program's SideOfRat. Written by an AI agent.
-/
import Derived.Test.YtfechmgkifjieacWalkP
import Derived.Deep.DeepCutAuto
namespace Go.Proofs.Ytfechmgkifjieac
open Go.RowKit

theorem solB_of {n d m e : Int} (h : ratB n d = true) (k : ratB m e = true) (r : reachB n d = true) (s : reachB m e = true) : solB n d m e = decide (lcmI d e ≤ 20000000) := by unfold solB; rw [h, k, r, s]; rfl
theorem keepD {W : World} {a : Addr} {v : Value} (n : Nat) (h : W.cell? a = some v) : (W.drewN n).cell? a = some v := h
theorem keepDr {W : World} {a : Addr} {v : Value} (h : W.cell? a = some v) : W.drew.cell? a = some v := h
set_option maxRecDepth 100000 in
set_option maxHeartbeats 6400000 in
theorem implSideQ_any (a b c n d m e : Int) (w : World) :
    Calls Try.prog 38 #[.agg #[.int .i64 a, .int .i64 b, .int .i64 c], .agg #[.int .i64 n, .int .i64 d, .int .i64 m, .int .i64 e]] w fun e' w' => e' = .returned (.int .i64 (sideQ a b c n d m e)) ∧ Below w.heap.size w w' := by
  go_enter Try.func38, Try.ntmps38
  rcases v0 : lineB a b c with _ | _
  · have HR := Lib.hid (sideQ_no (both_no (b := solB n d m e) v0))
    have V0 := Lib.hid v0
    clear v0
    go_wp2_with fail
    refine (implLine_any a b c _).mono ?_; rw [V0.out]; rintro e' w1 ⟨rfl, hb1⟩; obtain ⟨hc1, hf1, hz1⟩ := bc2 w.heap.size hb1 (by simp)
    go_wp2_with fail
    go_ret
    exact ⟨ret_int HR.out.symm, by repeat' (first | exact nr _ | apply na | apply Below.drew | apply nd | refine nt ?_ (by assumption))⟩
  rcases v1 : ratB n d with _ | _
  · have HR := Lib.hid (sideQ_no (both_no' (a := lineB a b c) (solB_a (m := m) (e := e) v1)))
    have V0 := Lib.hid v0
    have V1 := Lib.hid v1
    clear v0 v1
    go_wp2_with fail
    refine (implLine_any a b c _).mono ?_; rw [V0.out]; rintro e' w1 ⟨rfl, hb1⟩; obtain ⟨hc1, hf1, hz1⟩ := bc2 w.heap.size hb1 (by simp)
    go_wp2_with fail
    refine (implRat_any n d _).mono ?_; rw [V1.out]; rintro e' w2 ⟨rfl, hb2⟩; obtain ⟨hc2, hf2, hz2⟩ := bc2 w.heap.size hb2 (by omega)
    go_wp2_with fail
    go_ret
    exact ⟨ret_int HR.out.symm, by repeat' (first | exact nr _ | apply na | apply Below.drew | apply nd | refine nt ?_ (by assumption))⟩
  rcases v2 : ratB m e with _ | _
  · have HR := Lib.hid (sideQ_no (both_no' (a := lineB a b c) (solB_b v1 v2)))
    have V0 := Lib.hid v0
    have V1 := Lib.hid v1
    have V2 := Lib.hid v2
    clear v0 v1 v2
    go_wp2_with fail
    refine (implLine_any a b c _).mono ?_; rw [V0.out]; rintro e' w1 ⟨rfl, hb1⟩; obtain ⟨hc1, hf1, hz1⟩ := bc2 w.heap.size hb1 (by simp)
    go_wp2_with fail
    refine (implRat_any n d _).mono ?_; rw [V1.out]; rintro e' w2 ⟨rfl, hb2⟩; obtain ⟨hc2, hf2, hz2⟩ := bc2 w.heap.size hb2 (by omega)
    go_wp2_with fail
    refine (implRat_any m e _).mono ?_; rw [V2.out]; rintro e' w3 ⟨rfl, hb3⟩; obtain ⟨hc3, hf3, hz3⟩ := bc2 w.heap.size hb3 (by omega)
    go_wp2_with fail
    go_ret
    exact ⟨ret_int HR.out.symm, by repeat' (first | exact nr _ | apply na | apply Below.drew | apply nd | refine nt ?_ (by assumption))⟩
  rcases v3 : reachB n d with _ | _
  · have HR := Lib.hid (sideQ_no (both_no' (a := lineB a b c) (show solB n d m e = false by rw [solB_c v1 v2, v3]; rfl)))
    have r1 := ratB_true v1
    have r2 := ratB_true v2
    have V0 := Lib.hid v0
    have V1 := Lib.hid v1
    have V2 := Lib.hid v2
    have V3 := Lib.hid v3
    clear v0 v1 v2 v3
    go_wp2_with fail
    refine (implLine_any a b c _).mono ?_; rw [V0.out]; rintro e' w1 ⟨rfl, hb1⟩; obtain ⟨hc1, hf1, hz1⟩ := bc2 w.heap.size hb1 (by simp)
    go_wp2_with fail
    refine (implRat_any n d _).mono ?_; rw [V1.out]; rintro e' w2 ⟨rfl, hb2⟩; obtain ⟨hc2, hf2, hz2⟩ := bc2 w.heap.size hb2 (by omega)
    go_wp2_with fail
    refine (implRat_any m e _).mono ?_; rw [V2.out]; rintro e' w3 ⟨rfl, hb3⟩; obtain ⟨hc3, hf3, hz3⟩ := bc2 w.heap.size hb3 (by omega)
    go_wp2_with fail
    refine (reach_any n d _ (by omega)).mono ?_; rw [V3.out]; rintro e' w4 ⟨rfl, hb4⟩; obtain ⟨hc4, hf4, hz4⟩ := bc2 w.heap.size hb4 (by omega)
    go_wp2_with fail
    go_ret
    exact ⟨ret_int HR.out.symm, by repeat' (first | exact nr _ | apply na | apply Below.drew | apply nd | refine nt ?_ (by assumption))⟩
  rcases v4 : reachB m e with _ | _
  · have HR := Lib.hid (sideQ_no (both_no' (a := lineB a b c) (show solB n d m e = false by rw [solB_c v1 v2, v3, v4]; rfl)))
    have r1 := ratB_true v1
    have r2 := ratB_true v2
    have V0 := Lib.hid v0
    have V1 := Lib.hid v1
    have V2 := Lib.hid v2
    have V3 := Lib.hid v3
    have V4 := Lib.hid v4
    clear v0 v1 v2 v3 v4
    go_wp2_with fail
    refine (implLine_any a b c _).mono ?_; rw [V0.out]; rintro e' w1 ⟨rfl, hb1⟩; obtain ⟨hc1, hf1, hz1⟩ := bc2 w.heap.size hb1 (by simp)
    go_wp2_with fail
    refine (implRat_any n d _).mono ?_; rw [V1.out]; rintro e' w2 ⟨rfl, hb2⟩; obtain ⟨hc2, hf2, hz2⟩ := bc2 w.heap.size hb2 (by omega)
    go_wp2_with fail
    refine (implRat_any m e _).mono ?_; rw [V2.out]; rintro e' w3 ⟨rfl, hb3⟩; obtain ⟨hc3, hf3, hz3⟩ := bc2 w.heap.size hb3 (by omega)
    go_wp2_with fail
    refine (reach_any n d _ (by omega)).mono ?_; rw [V3.out]; rintro e' w4 ⟨rfl, hb4⟩; obtain ⟨hc4, hf4, hz4⟩ := bc2 w.heap.size hb4 (by omega)
    go_wp2_with fail
    refine (reach_any m e _ (by omega)).mono ?_; rw [V4.out]; rintro e' w5 ⟨rfl, hb5⟩; obtain ⟨hc5, hf5, hz5⟩ := bc2 w.heap.size hb5 (by omega)
    go_wp2_with fail
    go_ret
    exact ⟨ret_int HR.out.symm, by repeat' (first | exact nr _ | apply na | apply Below.drew | apply nd | refine nt ?_ (by assumption))⟩
  have r1 := ratB_true v1
  have r2 := ratB_true v2
  obtain ⟨g1, u1, w1', k1⟩ := uv_bd (d := d) (e := e) (by omega) (by omega)
  have HS := Lib.hid (solB_of v1 v2 v3 v4)
  have V0 := Lib.hid v0
  have V1 := Lib.hid v1
  have V2 := Lib.hid v2
  have V3 := Lib.hid v3
  have V4 := Lib.hid v4
  clear v0 v1 v2 v3 v4
  unfold lcmI uI at k1
  unfold uI at u1
  go_wp2_with fail
  refine (implLine_any a b c _).mono ?_; rw [V0.out]; rintro e' w1 ⟨rfl, hb1⟩; obtain ⟨hc1, hf1, hz1⟩ := bc2 w.heap.size hb1 (by simp)
  go_wp2_with fail
  refine (implRat_any n d _).mono ?_; rw [V1.out]; rintro e' w2 ⟨rfl, hb2⟩; obtain ⟨hc2, hf2, hz2⟩ := bc2 w.heap.size hb2 (by omega)
  go_wp2_with fail
  refine (implRat_any m e _).mono ?_; rw [V2.out]; rintro e' w3 ⟨rfl, hb3⟩; obtain ⟨hc3, hf3, hz3⟩ := bc2 w.heap.size hb3 (by omega)
  go_wp2_with fail
  refine (reach_any n d _ (by omega)).mono ?_; rw [V3.out]; rintro e' w4 ⟨rfl, hb4⟩; obtain ⟨hc4, hf4, hz4⟩ := bc2 w.heap.size hb4 (by omega)
  go_wp2_with fail
  refine (reach_any m e _ (by omega)).mono ?_; rw [V4.out]; rintro e' w5 ⟨rfl, hb5⟩; obtain ⟨hc5, hf5, hz5⟩ := bc2 w.heap.size hb5 (by omega)
  go_wp2_with fail
  have c0 : w5.cell? ⟨w.heap.size, 0, none⟩ = some (.int .i64 a) := keep1 hb5 (keep1 hb4 (keep1 hb3 (keep1 hb2 (keep1 hb1 (by simp [go_sem])))))
  have c1 : w5.cell? ⟨w.heap.size, 1, none⟩ = some (.int .i64 b) := keep1 hb5 (keep1 hb4 (keep1 hb3 (keep1 hb2 (keep1 hb1 (by simp [go_sem])))))
  have c2 : w5.cell? ⟨w.heap.size, 2, none⟩ = some (.int .i64 c) := keep1 hb5 (keep1 hb4 (keep1 hb3 (keep1 hb2 (keep1 hb1 (by simp [go_sem])))))
  have c3 : w5.cell? ⟨w.heap.size + 1, 0, none⟩ = some (.int .i64 n) := keep1 hb5 (keep1 hb4 (keep1 hb3 (keep1 hb2 (keep1 hb1 (by simp [go_sem])))))
  have c4 : w5.cell? ⟨w.heap.size + 1, 1, none⟩ = some (.int .i64 d) := keep1 hb5 (keep1 hb4 (keep1 hb3 (keep1 hb2 (keep1 hb1 (by simp [go_sem])))))
  have c5 : w5.cell? ⟨w.heap.size + 1, 2, none⟩ = some (.int .i64 m) := keep1 hb5 (keep1 hb4 (keep1 hb3 (keep1 hb2 (keep1 hb1 (by simp [go_sem])))))
  have c6 : w5.cell? ⟨w.heap.size + 1, 3, none⟩ = some (.int .i64 e) := keep1 hb5 (keep1 hb4 (keep1 hb3 (keep1 hb2 (keep1 hb1 (by simp [go_sem])))))
  have HN := Lib.hid (show Below w.heap.size w w5 from by repeat' (first | exact nr _ | apply na | apply Below.drew | apply nd | refine nt ?_ (by assumption)))
  have y0 : w.heap.size < w5.heap.size := hz5.1
  have y1 : w.heap.size + 1 < w5.heap.size := hz5.2
  clear hb1 hb2 hb3 hb4 hb5 hc1 hc2 hc3 hc4 hc5 hf1 hf2 hf3 hf4 hf5 hz1 hz2 hz3 hz4 hz5
  have W0 : IntKind.i64.wrap (d.tdiv (gI d e)) = d.tdiv (gI d e) := IntWalk.i64_in _ (by omega)
  have W1 : IntKind.i64.wrap (d.tdiv (gI d e) * e) = d.tdiv (gI d e) * e := IntWalk.i64_in _ (by omega)
  have hg0 : ¬ gI d e = 0 := by omega
  go_cut [5] (fun s5 w' => s5 = .int .i64 (d.tdiv (gI d e) * e) ∧ w'.cell? ⟨w.heap.size, 0, none⟩ = some (.int .i64 a) ∧ w'.cell? ⟨w.heap.size, 1, none⟩ = some (.int .i64 b) ∧ w'.cell? ⟨w.heap.size, 2, none⟩ = some (.int .i64 c) ∧ w'.cell? ⟨w.heap.size + 1, 0, none⟩ = some (.int .i64 n) ∧ w'.cell? ⟨w.heap.size + 1, 1, none⟩ = some (.int .i64 d) ∧ w'.cell? ⟨w.heap.size + 1, 2, none⟩ = some (.int .i64 m) ∧ w'.cell? ⟨w.heap.size + 1, 3, none⟩ = some (.int .i64 e) ∧ Below w5.heap.size w5 w')
  case first =>
    go_region_held3 (fun w' => w'.cell? ⟨w.heap.size, 0, none⟩ = some (.int .i64 a) ∧ w'.cell? ⟨w.heap.size, 1, none⟩ = some (.int .i64 b) ∧ w'.cell? ⟨w.heap.size, 2, none⟩ = some (.int .i64 c) ∧ w'.cell? ⟨w.heap.size + 1, 0, none⟩ = some (.int .i64 n) ∧ w'.cell? ⟨w.heap.size + 1, 1, none⟩ = some (.int .i64 d) ∧ w'.cell? ⟨w.heap.size + 1, 2, none⟩ = some (.int .i64 m) ∧ w'.cell? ⟨w.heap.size + 1, 3, none⟩ = some (.int .i64 e))
      (first | (refine ⟨?_, ?_, ?_, ?_, ?_, ?_, ?_⟩ <;> ((repeat (first | assumption | (with_reducible refine keepA _ ?_) | (with_reducible refine keepD _ ?_) | (with_reducible refine keepDr ?_))); done)) | (simp [*, go_sem]; done) | (go_split_ands; refine ⟨?_, ?_, ?_, ?_, ?_, ?_, ?_⟩ <;> exact keep1 (by assumption) (by assumption)))
      (first
        | (go_at_call 64; refine (implGcd2_any _ _ d e _ (by omega) (by omega) (by simp) (by simp [go_sem]) (by simp [go_sem])).mono ?_; rintro e' w6 ⟨rfl, hx6⟩))
    all_goals (go_wp2_with fail; go_meet)
    all_goals go_split_ands
    all_goals refine ⟨rfl, by assumption, by assumption, by assumption, by assumption, by assumption, by assumption, by assumption, by repeat' (first | exact nr _ | apply na | apply Below.drew | apply nd | refine nt ?_ (by assumption))⟩
  case rest =>
    obtain ⟨rfl, k0, k1', k2, k3, k4, k5, k6, hbx⟩ := hcut
    have z0 : w.heap.size < wc.heap.size := World.block_lt_of_cell? _ _ k0
    have z1 : w.heap.size + 1 < wc.heap.size := World.block_lt_of_cell? _ _ k3
    have HB := Lib.hid (nt HN.out hbx)
    clear hbx W0 W1
    by_cases hL : d.tdiv (gI d e) * e ≤ 20000000
    rotate_left
    · have HR := Lib.hid (sideQ_no (both_no' (a := lineB a b c) (show solB n d m e = false by rw [HS.out, decide_eq_false (show ¬ lcmI d e ≤ 20000000 from hL)])))
      go_wp2_with fail
      go_ret
      exact ⟨ret_int HR.out.symm, HB.out⟩
    have hs : solB n d m e = true := by rw [HS.out, decide_eq_true (show lcmI d e ≤ 20000000 from hL)]
    have HR := Lib.hid (sideQ_yes (both_yes V0.out hs))
    have HT := Lib.hid (show sideI a b c n d m e = sgn (a * (e.tdiv (gI d e) * n) + b * (d.tdiv (gI d e) * m) - c * (d.tdiv (gI d e) * e)) by
      rw [Int.mul_comm (e.tdiv (gI d e)) n, Int.mul_comm (d.tdiv (gI d e)) m, ← Int.mul_assoc c]; rfl)
    have bd := sol_bd V0.out hs
    have hx : (d.tdiv (gI d e) * e).tdiv d = e.tdiv (gI d e) := lcm_v (by omega) (by omega)
    have hy : (d.tdiv (gI d e) * e).tdiv e = d.tdiv (gI d e) := lcm_u (by omega)
    have l1 := lineB_true V0.out
    clear hs
    unfold lcmI uI at bd
    unfold vI at bd w1'
    obtain ⟨d1, d2, m1, m2, m3, m4, m5, m6⟩ := bd
    generalize e.tdiv (gI d e) = V at *
    generalize d.tdiv (gI d e) = U at *
    have hd0 : ¬ d = 0 := by omega
    have he0 : ¬ e = 0 := by omega
    have X0 : IntKind.i64.wrap V = V := IntWalk.i64_in _ (by omega)
    have X1 : IntKind.i64.wrap U = U := IntWalk.i64_in _ (by omega)
    have X2 : IntKind.i64.wrap (V * n) = V * n := IntWalk.i64_in _ (by omega)
    have X3 : IntKind.i64.wrap (U * m) = U * m := IntWalk.i64_in _ (by omega)
    have X4 : IntKind.i64.wrap (a * (V * n)) = a * (V * n) := IntWalk.i64_in _ (by omega)
    have X5 : IntKind.i64.wrap (b * (U * m)) = b * (U * m) := IntWalk.i64_in _ (by omega)
    have X6 : IntKind.i64.wrap (c * (U * e)) = c * (U * e) := IntWalk.i64_in _ (by omega)
    have X7 : IntKind.i64.wrap (a * (V * n) + b * (U * m)) = a * (V * n) + b * (U * m) := IntWalk.i64_in _ (by omega)
    clear m1 m2 m3 m4 m5 m6 k1 l1 r1 r2
    go_wp2_with fail
    go_quiet (fail)
    go_wp2_with fail
    refine (compare_any _ _ _).mono ?_; rintro e' w' ⟨rfl, rfl⟩
    go_wp2_with fail
    go_ret
    exact ⟨ret_int (HR.out.trans HT.out).symm, nd HB.out _⟩
end Go.Proofs.Ytfechmgkifjieac
