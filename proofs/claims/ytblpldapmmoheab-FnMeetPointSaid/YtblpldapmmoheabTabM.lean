/-
  Sides of lines at points with fractions: the law of SideOfRat. Written by an AI agent.
-/
import Derived.Test.YtblpldapmmoheabTabL
namespace Go.Proofs.Ytblpldapmmoheab
set_option linter.all false
open Go.RowKit
def uI (d e : Int) : Int := d.tdiv (gI d e)
def vI (d e : Int) : Int := e.tdiv (gI d e)
def lcmI (d e : Int) : Int := uI d e * e
theorem uv_mul {d e : Int} (he : 1 ≤ e) : gI d e * uI d e = d ∧ gI d e * vI d e = e ∧ 0 < gI d e := by
  have h := gI_pos d e (by omega)
  exact ⟨Int.mul_tdiv_cancel' (gI_dvd_left d e), Int.mul_tdiv_cancel' (gI_dvd_right d e), h⟩
theorem lcm_eq {d e : Int} (he : 1 ≤ e) : lcmI d e = vI d e * d := by
  obtain ⟨h1, h2, _⟩ := uv_mul (d := d) he
  unfold lcmI
  rw [show uI d e * e = uI d e * (gI d e * vI d e) by rw [h2], show vI d e * d = vI d e * (gI d e * uI d e) by rw [h1]]
  rw [Int.mul_left_comm, Int.mul_left_comm (vI d e), Int.mul_comm (uI d e)]
theorem lcm_u {d e : Int} (he : 1 ≤ e) : (lcmI d e).tdiv e = uI d e := by
  unfold lcmI
  exact Int.mul_tdiv_cancel _ (by omega)
theorem lcm_v {d e : Int} (hd : 1 ≤ d) (he : 1 ≤ e) : (lcmI d e).tdiv d = vI d e := by
  rw [lcm_eq he]
  exact Int.mul_tdiv_cancel _ (by omega)
theorem pos_of_mul {g u d : Int} (h : g * u = d) (hg : 0 < g) (hd : 1 ≤ d) : 1 ≤ u ∧ u ≤ d := by
  have h1 : 0 < u := by
    rcases Int.lt_or_le 0 u with h2 | h2
    · exact h2
    · have := Int.mul_nonpos_of_nonneg_of_nonpos (Int.le_of_lt hg) h2
      omega
  refine ⟨by omega, ?_⟩
  have := Int.mul_le_mul_of_nonneg_right (show 1 ≤ g by omega) (Int.le_of_lt h1)
  omega
theorem uv_bd {d e : Int} (hd : 1 ≤ d ∧ d ≤ 20000000) (he : 1 ≤ e ∧ e ≤ 20000000) : (1 ≤ gI d e ∧ gI d e ≤ 20000000) ∧ (1 ≤ uI d e ∧ uI d e ≤ 20000000) ∧ (1 ≤ vI d e ∧ vI d e ≤ 20000000) ∧ (1 ≤ lcmI d e ∧ lcmI d e ≤ 400000000000000) := by
  obtain ⟨h1, h2, h3⟩ := uv_mul (d := d) he.1
  have hu := pos_of_mul h1 h3 hd.1
  have hv := pos_of_mul h2 h3 he.1
  have hg := gI_le d e (by omega)
  have hl := prod_bd (x := uI d e) (y := e) 20000000 20000000 (by omega) (by omega)
  have hp := Int.mul_pos (show 0 < uI d e by omega) (show 0 < e by omega)
  unfold lcmI
  omega
def reachB (n d : Int) : Bool := decide (-(10000 * d) ≤ n) && decide (n ≤ 10000 * d)
theorem reachB_true {n d : Int} (h : reachB n d = true) : -(10000 * d) ≤ n ∧ n ≤ 10000 * d := by
  unfold reachB at h
  simpa using h
theorem reachB_abs (n d : Int) : decide ((n.natAbs : Int) ≤ 10000 * d) = reachB n d := by
  unfold reachB
  rw [Bool.eq_iff_iff]
  simp
  omega
theorem scaled_bd {v d n l : Int} (hl : l = v * d) (h0 : 1 ≤ l ∧ l ≤ 20000000) (hv : 1 ≤ v) (hn : -(10000 * d) ≤ n ∧ n ≤ 10000 * d) : -200000000000 ≤ v * n ∧ v * n ≤ 200000000000 := by
  have h1 : v * n ≤ v * (10000 * d) := Int.mul_le_mul_of_nonneg_left hn.2 (by omega)
  have h2 : v * (-(10000 * d)) ≤ v * n := Int.mul_le_mul_of_nonneg_left hn.1 (by omega)
  have h3 : v * (10000 * d) = 10000 * (v * d) := Int.mul_left_comm ..
  rw [Int.mul_neg] at h2
  omega
def solB (n d m e : Int) : Bool := ratB n d && ratB m e && (reachB n d && reachB m e && decide (lcmI d e ≤ 20000000))
theorem solB_true {n d m e : Int} (h : solB n d m e = true) : ratB n d = true ∧ ratB m e = true ∧ reachB n d = true ∧ reachB m e = true ∧ lcmI d e ≤ 20000000 := by
  unfold solB at h
  simpa [and_assoc] using h
/-- What the products of a valid line and a valid point need. -/
theorem sol_bd {a b c n d m e : Int} (hl : lineBL a b c = true) (h : solB n d m e = true) :
    (1 ≤ d ∧ d ≤ 20000000) ∧ (1 ≤ e ∧ e ≤ 20000000) ∧ (-200000000000 ≤ vI d e * n ∧ vI d e * n ≤ 200000000000) ∧ (-200000000000 ≤ uI d e * m ∧ uI d e * m ≤ 200000000000) ∧
    (-400000000000000 ≤ a * (vI d e * n) ∧ a * (vI d e * n) ≤ 400000000000000) ∧ (-400000000000000 ≤ b * (uI d e * m) ∧ b * (uI d e * m) ≤ 400000000000000) ∧ (-80000000000000 ≤ c * lcmI d e ∧ c * lcmI d e ≤ 80000000000000) ∧
    (-80000000000000 ≤ c * uI d e ∧ c * uI d e ≤ 80000000000000) := by
  obtain ⟨h1, h2, h3, h4, h5⟩ := solB_true h
  have r1 := ratB_true h1
  have r2 := ratB_true h2
  have l1 := lineB_trueL hl
  obtain ⟨g1, u1, v1, k1⟩ := uv_bd (d := d) (e := e) (by omega) (by omega)
  have x1 := scaled_bd (lcm_eq (d := d) (e := e) (by omega)) (by omega) (by omega) (reachB_true h3)
  have x2 := scaled_bd (v := uI d e) (d := e) (n := m) rfl (by unfold lcmI at k1 h5; omega) (by omega) (reachB_true h4)
  have x3 := prod_bd (x := a) (y := vI d e * n) 2000 200000000000 (by omega) (by omega)
  have x4 := prod_bd (x := b) (y := uI d e * m) 2000 200000000000 (by omega) (by omega)
  have x5 := prod_bd (x := c) (y := lcmI d e) 4000000 20000000 (by omega) (by omega)
  have x6 := prod_bd (x := c) (y := uI d e) 4000000 20000000 (by omega) (by omega)
  exact ⟨by omega, by omega, by omega, by omega, by omega, by omega, by omega, by omega⟩
theorem cmpI_sub (x y : Int) : cmpI (x - y) 0 = cmpI x y := by
  unfold cmpI
  split <;> split <;> (try split) <;> (try split) <;> omega
def sideJ (a b c n d m e : Int) : Int := cmpI (a * (n * vI d e) + b * (m * uI d e) - c * uI d e * e) 0
def sideRL (a b c n d m e : Int) : Int := if lineBL a b c && solB n d m e then sideJ a b c n d m e else 2
theorem w11 : IntKind.i64.wrap (0 - 100000000000) = -100000000000 := by decide
set_option maxRecDepth 100000 in
theorem tr_implRat (n d : Int) : runX Try.prog (tabE T4) 30 12 19 [.v (.agg #[iv n, iv d])] (fun u => .fin u []) = brT (decide (IntKind.i64.wrap (0 - 100000000000) ≤ n)) (brT (decide (n ≤ 100000000000)) (brT (decide (1 ≤ d)) (brT (decide (d ≤ 20000000)) (.need (big n) (.need (big d) (.fin (.bool (gI n d == 1)) []))) (.fin (.bool (false)) [])) (.fin (.bool (false)) [])) (.fin (.bool (false)) [])) (.fin (.bool (false)) []) := by kernel_rfl
set_option maxRecDepth 100000 in
theorem tr_reach (n d : Int) : runX Try.prog (tabE T4) 30 12 69 [.v (.agg #[iv n, iv d])] (fun u => .fin u []) = brT (decide (IntKind.i64.wrap (0 - IntKind.i64.wrap (10000 * d)) ≤ n)) (.fin (.bool (decide (n ≤ IntKind.i64.wrap (10000 * d)))) []) (.fin (.bool (false)) []) := by kernel_rfl
set_option maxRecDepth 100000 in
theorem tr_common (n d m e : Int) : runX Try.prog (tabE T4) 30 12 70 [.v (.agg #[iv n, iv d, iv m, iv e])] (fun u => .fin u []) = .need (big d) (.need (big e) (.need (¬gI d e = (0 : Int)) (.fin (.int .i64 (IntKind.i64.wrap (IntKind.i64.wrap (d.tdiv (gI d e)) * e))) []))) := by kernel_rfl
theorem res_specRat (n d : Int) : Res Try.prog 132 [.v (.agg #[iv n, iv d])] (.bool (ratB n d)) := res_calls (args := [.agg #[iv n, iv d]]) (by kernel_rfl) rfl rfl fun w => specRat_any n d w
theorem res_implRat (n d : Int) : Res Try.prog 19 [.v (.agg #[iv n, iv d])] (.bool (ratB n d)) := by
  refine res_of mixed (tabE_ok T4_ok) (m := 30) (n := 12) ?_
  rw [tr_implRat]
  by_cases h : -100000000000 ≤ n ∧ n ≤ 100000000000 ∧ 1 ≤ d ∧ d ≤ 20000000
  · rw [ratB_mk h.1 h.2.1 h.2.2.1 h.2.2.2]
    obtain ⟨h1, h2, h3, h4⟩ := h
    simp only [brT_ok, Tree.ok, decide_eq_true_eq, decide_eq_false_iff_not, big, Bool.not_eq_true', Bool.not_eq_false', beq_iff_eq, beq_eq_false_iff_ne, w11]
    repeat' (first | apply And.intro | intro _)
    all_goals first | exact True.intro | omega | rfl
  · rw [ratB_no h]
    simp only [brT_ok, Tree.ok, decide_eq_true_eq, decide_eq_false_iff_not, big, Bool.not_eq_true', Bool.not_eq_false', beq_iff_eq, beq_eq_false_iff_ne, w11]
    repeat' (first | apply And.intro | intro _)
    all_goals first | exact True.intro | omega | rfl
theorem res_reach (n d : Int) (h : 1 ≤ d ∧ d ≤ 20000000) : Res Try.prog 69 [.v (.agg #[iv n, iv d])] (.bool (reachB n d)) := by
  refine res_of mixed (tabE_ok T4_ok) (m := 30) (n := 12) ?_
  rw [tr_reach]
  simp (disch := omega) only [wrL]
  unfold reachB
  by_cases h1 : -(10000 * d) ≤ n
  · simp [brT, Tree.ok, h1]
  · simp [brT, Tree.ok, h1]
theorem res_common (n d m e : Int) (hd : 1 ≤ d ∧ d ≤ 20000000) (he : 1 ≤ e ∧ e ≤ 20000000) : Res Try.prog 70 [.v (.agg #[iv n, iv d, iv m, iv e])] (iv (lcmI d e)) := by
  refine res_of mixed (tabE_ok T4_ok) (m := 30) (n := 12) ?_
  rw [tr_common]
  obtain ⟨g1, u1, v1, k1⟩ := uv_bd hd he
  unfold lcmI uI at *
  simp (disch := omega) only [wrL]
  simp only [Tree.ok, big]
  repeat' (first | apply And.intro | intro _)
  all_goals first | exact True.intro | omega | rfl
def pReach : List DArg → Option (Value × List Prop)
  | [.v (.agg ⟨[.int .i64 n, .int .i64 d]⟩)] => some (.bool (reachB n d), [1 ≤ d ∧ d ≤ 20000000])
  | _ => none
def pCommon : List DArg → Option (Value × List Prop)
  | [.v (.agg ⟨[.int .i64 _, .int .i64 d, .int .i64 _, .int .i64 e]⟩)] => some (iv (lcmI d e), [1 ≤ d ∧ d ≤ 20000000, 1 ≤ e ∧ e ≤ 20000000])
  | _ => none
def U5 : Tab := fun f ds => match f with
  | 132 => pRat ds
  | 19 => pRat ds
  | 69 => pReach ds
  | 70 => pCommon ds
  | f => T4 f ds
theorem U5_r0 {ds : List DArg} {v : Value} {C : List Prop} (h : pRat ds = some (v, C)) (hC : AllP C) : Res Try.prog 132 ds v := by
  unfold pRat at h
  split at h
  · obtain ⟨rfl, rfl⟩ : _ ∧ _ := by simpa using h
    exact res_specRat _ _
  · cases h
theorem U5_r1 {ds : List DArg} {v : Value} {C : List Prop} (h : pRat ds = some (v, C)) (hC : AllP C) : Res Try.prog 19 ds v := by
  unfold pRat at h
  split at h
  · obtain ⟨rfl, rfl⟩ : _ ∧ _ := by simpa using h
    exact res_implRat _ _
  · cases h
theorem U5_r2 {ds : List DArg} {v : Value} {C : List Prop} (h : pReach ds = some (v, C)) (hC : AllP C) : Res Try.prog 69 ds v := by
  unfold pReach at h
  split at h
  · obtain ⟨rfl, rfl⟩ : _ ∧ _ := by simpa using h
    exact res_reach _ _ hC.1
  · cases h
theorem U5_r3 {ds : List DArg} {v : Value} {C : List Prop} (h : pCommon ds = some (v, C)) (hC : AllP C) : Res Try.prog 70 ds v := by
  unfold pCommon at h
  split at h
  · obtain ⟨rfl, rfl⟩ : _ ∧ _ := by simpa using h
    exact res_common _ _ _ _ hC.1 hC.2.1
  · cases h
theorem U5_ok : TabOk Try.prog U5 := by
  intro f ds v C h hC
  unfold U5 at h
  (try split at h)
  all_goals first | with_reducible exact U5_r0 h hC | with_reducible exact U5_r1 h hC | with_reducible exact U5_r2 h hC | with_reducible exact U5_r3 h hC | exact T4_ok _ _ _ _ h hC | cases h
end Go.Proofs.Ytblpldapmmoheab
