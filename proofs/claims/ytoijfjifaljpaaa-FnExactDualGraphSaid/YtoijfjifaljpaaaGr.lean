/-
  Graphs and duality: both ways, the exact laws. Written by an AI agent.
-/
import Derived.Test.YtoijfjifaljpaaaTabB
import Derived.Test.YtoijfjifaljpaaaAbsV
namespace Go.Proofs.Ytoijfjifaljpaaa
open Go.RowKit

theorem wrG {x : Int} (h : -9223372036854775808 ≤ x ∧ x ≤ 9223372036854775807) : IntKind.i64.wrap x = x := by
  rw [IntKind.wrap_i64]
  omega
theorem ptG_is {x y : Int} (h : ptB x y = true) : -1000 ≤ x ∧ x ≤ 1000 ∧ -1000 ≤ y ∧ y ≤ 1000 := by simpa [ptB, and_assoc] using h
def onG (b : Bool) (x : Int) : Int := bif b then x else 0
set_option maxRecDepth 100000 in
theorem tr_sVg (x y : Int) : bodyV Try.prog (tabE B0) 30 8 47 [.v (.agg #[iv x, iv y])] = brT (decide (-1000 ≤ x)) (brT (decide (x ≤ 1000)) (brT (decide (-1000 ≤ y)) (.fin (.bool (decide (y ≤ 1000))) []) (.fin (.bool (false)) [])) (.fin (.bool (false)) [])) (.fin (.bool (false)) []) := by kernel_rfl
set_option maxRecDepth 100000 in
theorem tr_SVg (x y : Int) : bodyV Try.prog (tabE B0) 30 8 15 [.v (.agg #[iv x, iv y])] = brT (decide (-1000 ≤ x)) (brT (decide (x ≤ 1000)) (brT (decide (-1000 ≤ y)) (.fin (.bool (decide (y ≤ 1000))) []) (.fin (.bool (false)) [])) (.fin (.bool (false)) [])) (.fin (.bool (false)) []) := by kernel_rfl
set_option maxRecDepth 100000 in
theorem tr_IVg (x y : Int) : bodyV Try.prog (tabE B0) 30 8 17 [.v (.agg #[iv x, iv y])] = brT (decide (IntKind.i64.wrap (0 - 1000) ≤ x)) (brT (decide (x ≤ 1000)) (brT (decide (IntKind.i64.wrap (0 - 1000) ≤ y)) (.fin (.bool (decide (y ≤ 1000))) []) (.fin (.bool (false)) [])) (.fin (.bool (false)) [])) (.fin (.bool (false)) []) := by kernel_rfl
theorem res_sVg (x y : Int) : Res Try.prog 47 [.v (.agg #[iv x, iv y])] (.bool (ptB x y)) := by
  refine bodyV_res mixed (tabE_ok B0_ok) (m := 30) (n := 8) rfl ?_
  rw [tr_sVg]
  simp only [brT_ok, Tree.ok, decide_eq_true_eq, decide_eq_false_iff_not]
  repeat' (first | apply And.intro | intro _)
  all_goals (refine vbool_eq ?_; unfold ptB; rw [Bool.eq_iff_iff]; simp; try omega)
theorem res_SVg (x y : Int) : Res Try.prog 15 [.v (.agg #[iv x, iv y])] (.bool (ptB x y)) := by
  refine bodyV_res mixed (tabE_ok B0_ok) (m := 30) (n := 8) rfl ?_
  rw [tr_SVg]
  simp only [brT_ok, Tree.ok, decide_eq_true_eq, decide_eq_false_iff_not]
  repeat' (first | apply And.intro | intro _)
  all_goals (refine vbool_eq ?_; unfold ptB; rw [Bool.eq_iff_iff]; simp; try omega)
theorem res_IVg (x y : Int) : Res Try.prog 17 [.v (.agg #[iv x, iv y])] (.bool (ptB x y)) := by
  refine bodyV_res mixed (tabE_ok B0_ok) (m := 30) (n := 8) rfl ?_
  rw [tr_IVg]
  simp only [brT_ok, Tree.ok, decide_eq_true_eq, decide_eq_false_iff_not, w1000]
  repeat' (first | apply And.intro | intro _)
  all_goals (refine vbool_eq ?_; unfold ptB; rw [Bool.eq_iff_iff]; simp; try omega)
def TG1 : Tab := fun f ds => match f with
  | 47 => pPt ds
  | 15 => pPt ds
  | 17 => pPt ds
  | _ => T1 f ds
theorem pPt_ok {f : FuncId} (h : ∀ x y : Int, Res Try.prog f [.v (.agg #[iv x, iv y])] (.bool (ptB x y))) {ds : List DArg} {v : Value} {C : List Prop} (hd : pPt ds = some (v, C)) : Res Try.prog f ds v := by
  unfold pPt at hd
  split at hd
  · obtain ⟨rfl, rfl⟩ : _ ∧ _ := by simpa using hd
    exact h _ _
  · cases hd
theorem TG1_ok : TabOk Try.prog TG1 := by
  intro f ds v C h hC
  unfold TG1 at h
  split at h
  all_goals first | with_reducible exact pPt_ok res_sVg h | with_reducible exact pPt_ok res_SVg h | with_reducible exact pPt_ok res_IVg h | exact T1_ok _ _ _ _ h hC
set_option maxRecDepth 100000 in
theorem tr_sDg (x y : Int) : bodyV Try.prog (tabE TG1) 30 12 18 [.v (.agg #[iv x, iv y])] = brT (!ptB x y) (.fin (.agg #[.int .i64 (0), .int .i64 (0)]) []) (.fin (.agg #[.int .i64 (x), .int .i64 (y)]) []) := by kernel_rfl
set_option maxRecDepth 100000 in
theorem tr_iDg (x y : Int) : bodyV Try.prog (tabE TG1) 30 12 20 [.v (.agg #[iv x, iv y])] = brT (!ptB x y) (.fin (.agg #[.int .i64 (0), .int .i64 (0)]) []) (.fin (.agg #[.int .i64 (x), .int .i64 (y)]) []) := by kernel_rfl
set_option maxRecDepth 100000 in
theorem tr_sDp (x y : Int) : bodyV Try.prog (tabE TG1) 30 12 22 [.v (.agg #[iv x, iv y])] = brT (!ptB x y) (.fin (.agg #[.int .i64 (0), .int .i64 (0)]) []) (.fin (.agg #[.int .i64 (x), .int .i64 (y)]) []) := by kernel_rfl
set_option maxRecDepth 100000 in
theorem tr_iDp (x y : Int) : bodyV Try.prog (tabE TG1) 30 12 23 [.v (.agg #[iv x, iv y])] = brT (!ptB x y) (.fin (.agg #[.int .i64 (0), .int .i64 (0)]) []) (.fin (.agg #[.int .i64 (x), .int .i64 (y)]) []) := by kernel_rfl
set_option maxRecDepth 100000 in
theorem tr_sHo (x y m b : Int) : bodyV Try.prog (tabE TG1) 30 12 25 [.v (.agg #[iv x, iv y]), .v (.agg #[iv m, iv b])] = brT (!ptB x y) (.fin (.int .i64 (2)) []) (brT (!ptB m b) (.fin (.int .i64 (2)) []) (.fin (.int .i64 (cmpI (IntKind.i64.wrap (y - IntKind.i64.wrap (IntKind.i64.wrap (m * x) - b))) 0)) [])) := by kernel_rfl
set_option maxRecDepth 100000 in
theorem tr_iHo (x y m b : Int) : bodyV Try.prog (tabE TG1) 30 12 26 [.v (.agg #[iv x, iv y]), .v (.agg #[iv m, iv b])] = brT (!ptB x y) (.fin (.int .i64 (2)) []) (brT (!ptB m b) (.fin (.int .i64 (2)) []) (.fin (.int .i64 (cmpI y (IntKind.i64.wrap (IntKind.i64.wrap (m * x) - b)))) [])) := by kernel_rfl
/-- What DualGraph and DualPoint answer. -/
def dlV (x y : Int) : Value := .agg #[iv (onG (ptB x y) x), iv (onG (ptB x y) y)]
theorem res_sDg (x y : Int) : Res Try.prog 18 [.v (.agg #[iv x, iv y])] (dlV x y) := by
  refine bodyV_res mixed (tabE_ok TG1_ok) (m := 30) (n := 12) rfl ?_
  rw [tr_sDg]
  unfold dlV
  cases ptB x y <;> simp [brT, Tree.ok, onG]
theorem res_iDg (x y : Int) : Res Try.prog 20 [.v (.agg #[iv x, iv y])] (dlV x y) := by
  refine bodyV_res mixed (tabE_ok TG1_ok) (m := 30) (n := 12) rfl ?_
  rw [tr_iDg]
  unfold dlV
  cases ptB x y <;> simp [brT, Tree.ok, onG]
theorem res_sDp (x y : Int) : Res Try.prog 22 [.v (.agg #[iv x, iv y])] (dlV x y) := by
  refine bodyV_res mixed (tabE_ok TG1_ok) (m := 30) (n := 12) rfl ?_
  rw [tr_sDp]
  unfold dlV
  cases ptB x y <;> simp [brT, Tree.ok, onG]
theorem res_iDp (x y : Int) : Res Try.prog 23 [.v (.agg #[iv x, iv y])] (dlV x y) := by
  refine bodyV_res mixed (tabE_ok TG1_ok) (m := 30) (n := 12) rfl ?_
  rw [tr_iDp]
  unfold dlV
  cases ptB x y <;> simp [brT, Tree.ok, onG]
/-- What HeightOver answers. -/
def hoI (x y m b : Int) : Int := bif ptB x y && ptB m b then cmpI y (m * x - b) else 2
theorem res_sHo (x y m b : Int) : Res Try.prog 25 [.v (.agg #[iv x, iv y]), .v (.agg #[iv m, iv b])] (iv (hoI x y m b)) := by
  refine bodyV_res mixed (tabE_ok TG1_ok) (m := 30) (n := 12) rfl ?_
  rw [tr_sHo]
  unfold hoI
  rcases h1 : ptB x y with _ | _
  · simp [brT, Tree.ok]
  rcases h2 : ptB m b with _ | _
  · simp [brT, Tree.ok]
  have a1 := ptG_is h1
  have a2 := ptG_is h2
  have m1 := mul_bd (x := m) (y := x) 1000 1000 (by omega) (by omega)
  simp (disch := omega) only [wrG]
  have e : cmpI (y - (m * x - b)) 0 = cmpI y (m * x - b) := by unfold cmpI; split <;> split <;> (try split) <;> (try split) <;> omega
  simp [brT, Tree.ok, e]
theorem res_iHo (x y m b : Int) : Res Try.prog 26 [.v (.agg #[iv x, iv y]), .v (.agg #[iv m, iv b])] (iv (hoI x y m b)) := by
  refine bodyV_res mixed (tabE_ok TG1_ok) (m := 30) (n := 12) rfl ?_
  rw [tr_iHo]
  unfold hoI
  rcases h1 : ptB x y with _ | _
  · simp [brT, Tree.ok]
  rcases h2 : ptB m b with _ | _
  · simp [brT, Tree.ok]
  have a1 := ptG_is h1
  have a2 := ptG_is h2
  have m1 := mul_bd (x := m) (y := x) 1000 1000 (by omega) (by omega)
  simp (disch := omega) only [wrG]
  simp [brT, Tree.ok]
def pDl : List DArg → Option (Value × List Prop)
  | [.v (.agg ⟨[.int .i64 x, .int .i64 y]⟩)] => some (dlV x y, [])
  | _ => none
def pHo : List DArg → Option (Value × List Prop)
  | [.v (.agg ⟨[.int .i64 x, .int .i64 y]⟩), .v (.agg ⟨[.int .i64 m, .int .i64 b]⟩)] => some (iv (hoI x y m b), [])
  | _ => none
def TG2 : Tab := fun f ds => match f with
  | 18 => pDl ds
  | 20 => pDl ds
  | 22 => pDl ds
  | 23 => pDl ds
  | 25 => pHo ds
  | 26 => pHo ds
  | _ => TG1 f ds
theorem pDl_ok {f : FuncId} (h : ∀ x y : Int, Res Try.prog f [.v (.agg #[iv x, iv y])] (dlV x y)) {ds : List DArg} {v : Value} {C : List Prop} (hd : pDl ds = some (v, C)) : Res Try.prog f ds v := by
  unfold pDl at hd
  split at hd
  · obtain ⟨rfl, rfl⟩ : _ ∧ _ := by simpa using hd
    exact h _ _
  · cases hd
theorem pHo_ok {f : FuncId} (h : ∀ x y m b : Int, Res Try.prog f [.v (.agg #[iv x, iv y]), .v (.agg #[iv m, iv b])] (iv (hoI x y m b))) {ds : List DArg} {v : Value} {C : List Prop} (hd : pHo ds = some (v, C)) : Res Try.prog f ds v := by
  unfold pHo at hd
  split at hd
  · obtain ⟨rfl, rfl⟩ : _ ∧ _ := by simpa using hd
    exact h _ _ _ _
  · cases hd
theorem TG2_ok : TabOk Try.prog TG2 := by
  intro f ds v C h hC
  unfold TG2 at h
  split at h
  all_goals first | with_reducible exact pDl_ok res_sDg h | with_reducible exact pDl_ok res_iDg h | with_reducible exact pDl_ok res_sDp h | with_reducible exact pDl_ok res_iDp h | with_reducible exact pHo_ok res_sHo h | with_reducible exact pHo_ok res_iHo h | exact TG1_ok _ _ _ _ h hC
set_option maxRecDepth 100000 in
theorem tr_exVg (x y : Int) : bodyV Try.prog (tabE TG2) 30 12 3 [.v (.agg #[iv x, iv y])] = brT (!ptB x y == ptB x y) (.fin (.bool (false)) []) (.fin (.bool (true)) []) := by kernel_rfl
set_option maxRecDepth 100000 in
theorem tr_exDg (x y : Int) : bodyV Try.prog (tabE TG2) 30 12 4 [.v (.agg #[iv x, iv y])] = brT (!onG (ptB x y) x == onG (ptB x y) x) (.fin (.bool (false)) []) (brT (!onG (ptB x y) y == onG (ptB x y) y) (.fin (.bool (false)) []) (.fin (.bool (true)) [])) := by kernel_rfl
set_option maxRecDepth 100000 in
theorem tr_exDp (x y : Int) : bodyV Try.prog (tabE TG2) 30 12 5 [.v (.agg #[iv x, iv y])] = brT (!onG (ptB x y) x == onG (ptB x y) x) (.fin (.bool (false)) []) (brT (!onG (ptB x y) y == onG (ptB x y) y) (.fin (.bool (false)) []) (.fin (.bool (true)) [])) := by kernel_rfl
set_option maxRecDepth 100000 in
theorem tr_exHo (x y m b : Int) : bodyV Try.prog (tabE TG2) 30 12 6 [.v (.agg #[iv x, iv y]), .v (.agg #[iv m, iv b])] = brT (!hoI x y m b == hoI x y m b) (.fin (.bool (false)) []) (.fin (.bool (true)) []) := by kernel_rfl
theorem ExactValidGraph_res (x y : Int) : Res Try.prog 3 [.v (.agg #[iv x, iv y])] (.bool true) := by
  refine bodyV_res mixed (tabE_ok TG2_ok) (m := 30) (n := 12) rfl ?_
  rw [tr_exVg]
  simp [brT_ok, Tree.ok]
theorem ExactDualGraph_res (x y : Int) : Res Try.prog 4 [.v (.agg #[iv x, iv y])] (.bool true) := by
  refine bodyV_res mixed (tabE_ok TG2_ok) (m := 30) (n := 12) rfl ?_
  rw [tr_exDg]
  simp [brT_ok, Tree.ok]
theorem ExactDualPoint_res (x y : Int) : Res Try.prog 5 [.v (.agg #[iv x, iv y])] (.bool true) := by
  refine bodyV_res mixed (tabE_ok TG2_ok) (m := 30) (n := 12) rfl ?_
  rw [tr_exDp]
  simp [brT_ok, Tree.ok]
theorem ExactHeightOver_res (x y m b : Int) : Res Try.prog 6 [.v (.agg #[iv x, iv y]), .v (.agg #[iv m, iv b])] (.bool true) := by
  refine bodyV_res mixed (tabE_ok TG2_ok) (m := 30) (n := 12) rfl ?_
  rw [tr_exHo]
  simp [brT_ok, Tree.ok]
end Go.Proofs.Ytoijfjifaljpaaa
