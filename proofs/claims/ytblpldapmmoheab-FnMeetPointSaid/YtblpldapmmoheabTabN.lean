/-
  Sides of lines at points with fractions: the law of SideOfRat. Written by an AI agent.
-/
import Derived.Test.YtblpldapmmoheabTabM
namespace Go.Proofs.Ytblpldapmmoheab
set_option linter.all false
open Go.RowKit


theorem solB_a {n d m e : Int} (h : ratB n d = false) : solB n d m e = false := by unfold solB; rw [h]; rfl
theorem solB_b {n d m e : Int} (h : ratB n d = true) (k : ratB m e = false) : solB n d m e = false := by unfold solB; rw [h, k]; rfl
theorem solB_c {n d m e : Int} (h : ratB n d = true) (k : ratB m e = true) : solB n d m e = (reachB n d && reachB m e && decide (lcmI d e ≤ 20000000)) := by unfold solB; rw [h, k]; rfl
theorem specSol_any (n d m e : Int) (w : World) :
    Calls Try.prog 77 #[.agg #[.int .i64 n, .int .i64 d, .int .i64 m, .int .i64 e]] w fun e' w' => e' = .returned (.bool (solB n d m e)) ∧ Below w.heap.size w w' := by
  go_enter Try.func77, Try.ntmps77
  rcases va : ratB n d with _ | _
  · have HR := Lib.hid (solB_a (m := m) (e := e) va)
    have VA := Lib.hid va
    clear va
    go_wp2_with fail
    refine (specRat_any n d _).mono ?_; rw [VA.out]; rintro e' w1 ⟨rfl, hb1⟩; obtain ⟨hc1, hf1, hz1⟩ := bc1 w.heap.size hb1 (by simp)
    go_wp2_with fail
    go_ret
    exact ⟨ret_bool HR.out.symm, by repeat' (first | exact nr _ | apply na | apply Below.drew | apply nd | refine nt ?_ (by assumption))⟩
  rcases vb : ratB m e with _ | _
  · have HR := Lib.hid (solB_b va vb)
    have VA := Lib.hid va
    have VB := Lib.hid vb
    clear va vb
    go_wp2_with fail
    refine (specRat_any n d _).mono ?_; rw [VA.out]; rintro e' w1 ⟨rfl, hb1⟩; obtain ⟨hc1, hf1, hz1⟩ := bc1 w.heap.size hb1 (by simp)
    go_wp2_with fail
    refine (specRat_any m e _).mono ?_; rw [VB.out]; rintro e' w2 ⟨rfl, hb2⟩; obtain ⟨hc2, hf2, hz2⟩ := bc1 w.heap.size hb2 (by omega)
    go_wp2_with fail
    go_ret
    exact ⟨ret_bool HR.out.symm, by repeat' (first | exact nr _ | apply na | apply Below.drew | apply nd | refine nt ?_ (by assumption))⟩
  have r1 := ratB_true va
  have r2 := ratB_true vb
  obtain ⟨g1, u1, v1, k1⟩ := uv_bd (d := d) (e := e) (by omega) (by omega)
  have HR := Lib.hid (solB_c va vb)
  have A1 := Lib.hid (reachB_abs n d)
  have A2 := Lib.hid (reachB_abs m e)
  have VA := Lib.hid va
  have VB := Lib.hid vb
  unfold lcmI uI at k1
  unfold uI at u1
  clear va vb
  have b1 : -2000000000000 ≤ 10000 * d ∧ 10000 * d ≤ 2000000000000 := by omega
  have b2 : -2000000000000 ≤ 10000 * e ∧ 10000 * e ≤ 2000000000000 := by omega
  go_wp2_with fail
  refine (specRat_any n d _).mono ?_; rw [VA.out]; rintro e' w1 ⟨rfl, hb1⟩; obtain ⟨hc1, hf1, hz1⟩ := bc1 w.heap.size hb1 (by simp)
  go_wp2_with fail
  refine (specRat_any m e _).mono ?_; rw [VB.out]; rintro e' w2 ⟨rfl, hb2⟩; obtain ⟨hc2, hf2, hz2⟩ := bc1 w.heap.size hb2 (by omega)
  go_wp2_with fail
  have hb : Below w.heap.size w w2 := by repeat' (first | exact nr _ | apply na | apply Below.drew | apply nd | refine nt ?_ (by assumption))
  have W0 : IntKind.i64.wrap (d.tdiv (gI d e)) = d.tdiv (gI d e) := IntWalk.i64_in _ (by omega)
  have W1 : IntKind.i64.wrap (d.tdiv (gI d e) * e) = d.tdiv (gI d e) * e := IntWalk.i64_in _ (by omega)
  have W2 : IntKind.i64.wrap (10000 * d) = 10000 * d := IntWalk.i64_in _ (by omega)
  have W3 : IntKind.i64.wrap (10000 * e) = 10000 * e := IntWalk.i64_in _ (by omega)
  have hg0 : ¬ gI d e = 0 := by omega
  by_cases hL : d.tdiv (gI d e) * e ≤ 20000000
  · have hl : decide (d.tdiv (gI d e) * e ≤ 20000000) = true := decide_eq_true hL
    rcases hA : decide ((n.natAbs : Int) ≤ 10000 * d) with _ | _
    · have HQ := Lib.hid (show solB n d m e = false by rw [HR.out, ← A1.out, hA]; rfl)
      go_quiet (first
      | (go_at_call 126; exact Calls.quiet_of_same (q0 (specGcd_any _ _ _ (by omega) (by omega))))
      | (go_at_call 127; exact Calls.quiet_of_same (q0 (abs_any _ _ (by omega)))))
      go_wp2_with fail
      go_ret
      exact ⟨ret_bool HQ.out.symm, nd hb _⟩
    · have HQ := Lib.hid (show solB n d m e = decide ((m.natAbs : Int) ≤ 10000 * e) by rw [HR.out, ← A1.out, hA, ← A2.out, decide_eq_true (show lcmI d e ≤ 20000000 from hL)]; simp)
      go_quiet (first
      | (go_at_call 126; exact Calls.quiet_of_same (q0 (specGcd_any _ _ _ (by omega) (by omega))))
      | (go_at_call 127; exact Calls.quiet_of_same (q0 (abs_any _ _ (by omega)))))
      go_wp2_with fail
      go_ret
      exact ⟨ret_bool HQ.out.symm, nd hb _⟩
  · have hl : decide (d.tdiv (gI d e) * e ≤ 20000000) = false := decide_eq_false hL
    have HQ := Lib.hid (show solB n d m e = false by rw [HR.out, decide_eq_false (show ¬ lcmI d e ≤ 20000000 from hL)]; simp)
    go_quiet (first
      | (go_at_call 126; exact Calls.quiet_of_same (q0 (specGcd_any _ _ _ (by omega) (by omega))))
      | (go_at_call 127; exact Calls.quiet_of_same (q0 (abs_any _ _ (by omega)))))
    go_wp2_with fail
    go_ret
    exact ⟨ret_bool HQ.out.symm, nd hb _⟩
theorem res_validSol (n d m e : Int) : Res Try.prog 77 [.v (.agg #[iv n, iv d, iv m, iv e])] (.bool (solB n d m e)) := res_calls (args := [.agg #[iv n, iv d, iv m, iv e]]) (by kernel_rfl) rfl rfl fun w => specSol_any n d m e w
set_option maxRecDepth 100000 in
theorem tr_sideO (a b c n d m e : Int) : runX Try.prog (tabE U5) 30 12 78 [.v (iv a), .v (iv b), .v (iv c), .v (.agg #[iv n, iv d, iv m, iv e])] (fun u => .fin u []) = .need (big0 d) (.need (big0 e) (.need (¬gI d e = (0 : Int)) (.need (¬gI d e = (0 : Int)) (.need (¬gI d e = (0 : Int)) (.fin (.int .i64 (cmpI (IntKind.i64.wrap (IntKind.i64.wrap (IntKind.i64.wrap (a * IntKind.i64.wrap (n * IntKind.i64.wrap (e.tdiv (gI d e)))) + IntKind.i64.wrap (b * IntKind.i64.wrap (m * IntKind.i64.wrap (d.tdiv (gI d e))))) - IntKind.i64.wrap (IntKind.i64.wrap (c * IntKind.i64.wrap (d.tdiv (gI d e))) * e))) 0)) []))))) := by kernel_rfl
set_option maxRecDepth 100000 in
theorem tr_sideAt (a b c n d m e : Int) : runX Try.prog (tabE U5) 30 12 71 [.v (.agg #[iv a, iv b, iv c]), .v (.agg #[iv n, iv d, iv m, iv e])] (fun u => .fin u []) = .need ((1 : Int) ≤ d ∧ d ≤ (20000000 : Int)) (.need ((1 : Int) ≤ e ∧ e ≤ (20000000 : Int)) (.need (¬d = (0 : Int)) (.need (¬e = (0 : Int)) (.fin (.int .i64 (cmpI (IntKind.i64.wrap (IntKind.i64.wrap (a * IntKind.i64.wrap (IntKind.i64.wrap ((lcmI d e).tdiv d) * n)) + IntKind.i64.wrap (b * IntKind.i64.wrap (IntKind.i64.wrap ((lcmI d e).tdiv e) * m)))) (IntKind.i64.wrap (c * lcmI d e)))) [])))) := by kernel_rfl
theorem res_sideO (a b c n d m e : Int) (hl : lineBL a b c = true) (hs : solB n d m e = true) : Res Try.prog 78 [.v (iv a), .v (iv b), .v (iv c), .v (.agg #[iv n, iv d, iv m, iv e])] (iv (sideJ a b c n d m e)) := by
  refine res_of mixed (tabE_ok U5_ok) (m := 30) (n := 12) ?_
  rw [tr_sideO]
  have bd := sol_bd hl hs
  have hd : (1 ≤ d ∧ d ≤ 20000000) ∧ (1 ≤ e ∧ e ≤ 20000000) := ⟨bd.1, bd.2.1⟩
  obtain ⟨g1, u1, v1, k1⟩ := uv_bd hd.1 hd.2
  rw [Int.mul_comm (vI d e) n, Int.mul_comm (uI d e) m, show c * lcmI d e = c * uI d e * e by unfold lcmI; rw [Int.mul_assoc]] at bd
  obtain ⟨_, _, m1, m2, m3, m4, m5, m6⟩ := bd
  unfold sideJ
  clear k1
  unfold uI vI at *
  simp (disch := omega) only [wrL]
  simp only [Tree.ok, big0]
  repeat' (first | apply And.intro | intro _)
  all_goals first | exact True.intro | omega | rfl
theorem res_sideAt (a b c n d m e : Int) (hl : lineBL a b c = true) (hs : solB n d m e = true) : Res Try.prog 71 [.v (.agg #[iv a, iv b, iv c]), .v (.agg #[iv n, iv d, iv m, iv e])] (iv (sideJ a b c n d m e)) := by
  refine res_of mixed (tabE_ok U5_ok) (m := 30) (n := 12) ?_
  rw [tr_sideAt]
  obtain ⟨hd, he, m1, m2, m3, m4, m5, m6⟩ := sol_bd hl hs
  obtain ⟨g1, u1, v1, k1⟩ := uv_bd hd he
  have q : sideJ a b c n d m e = cmpI (a * (vI d e * n) + b * (uI d e * m)) (c * lcmI d e) := by
    unfold sideJ
    rw [cmpI_sub, Int.mul_comm n, Int.mul_comm m]
    unfold lcmI
    rw [Int.mul_assoc]
  rw [q, lcm_u he.1, lcm_v hd.1 he.1]
  simp (disch := omega) only [wrL]
  simp only [Tree.ok]
  repeat' (first | apply And.intro | intro _)
  all_goals first | exact True.intro | omega | rfl
def pSol : List DArg → Option (Value × List Prop)
  | [.v (.agg ⟨[.int .i64 n, .int .i64 d, .int .i64 m, .int .i64 e]⟩)] => some (.bool (solB n d m e), [])
  | _ => none
def pSideO : List DArg → Option (Value × List Prop)
  | [.v (.int .i64 a), .v (.int .i64 b), .v (.int .i64 c), .v (.agg ⟨[.int .i64 n, .int .i64 d, .int .i64 m, .int .i64 e]⟩)] => some (iv (sideJ a b c n d m e), [lineBL a b c = true, solB n d m e = true])
  | _ => none
def pSideAt : List DArg → Option (Value × List Prop)
  | [.v (.agg ⟨[.int .i64 a, .int .i64 b, .int .i64 c]⟩), .v (.agg ⟨[.int .i64 n, .int .i64 d, .int .i64 m, .int .i64 e]⟩)] => some (iv (sideJ a b c n d m e), [lineBL a b c = true, solB n d m e = true])
  | _ => none
def U6 : Tab := fun f ds => match f with
  | 77 => pSol ds
  | 78 => pSideO ds
  | 71 => pSideAt ds
  | f => U5 f ds
theorem U6_r0 {ds : List DArg} {v : Value} {C : List Prop} (h : pSol ds = some (v, C)) (hC : AllP C) : Res Try.prog 77 ds v := by
  unfold pSol at h
  split at h
  · obtain ⟨rfl, rfl⟩ : _ ∧ _ := by simpa using h
    exact res_validSol _ _ _ _
  · cases h
theorem U6_r1 {ds : List DArg} {v : Value} {C : List Prop} (h : pSideO ds = some (v, C)) (hC : AllP C) : Res Try.prog 78 ds v := by
  unfold pSideO at h
  split at h
  · obtain ⟨rfl, rfl⟩ : _ ∧ _ := by simpa using h
    exact res_sideO _ _ _ _ _ _ _ hC.1 hC.2.1
  · cases h
theorem U6_r2 {ds : List DArg} {v : Value} {C : List Prop} (h : pSideAt ds = some (v, C)) (hC : AllP C) : Res Try.prog 71 ds v := by
  unfold pSideAt at h
  split at h
  · obtain ⟨rfl, rfl⟩ : _ ∧ _ := by simpa using h
    exact res_sideAt _ _ _ _ _ _ _ hC.1 hC.2.1
  · cases h
theorem U6_ok : TabOk Try.prog U6 := by
  intro f ds v C h hC
  unfold U6 at h
  (try split at h)
  all_goals first | with_reducible exact U6_r0 h hC | with_reducible exact U6_r1 h hC | with_reducible exact U6_r2 h hC | exact U5_ok _ _ _ _ h hC | cases h
end Go.Proofs.Ytblpldapmmoheab
