/-
  How two segments meet: both ways. Written by an AI agent.
-/
import Derived.Test.YtieibbdfdepmbaaTabB
import Derived.Test.YtieibbdfdepmbaaBc
import Derived.Test.YtieibbdfdepmbaaCsI
import Derived.Test.YtieibbdfdepmbaaLst
import Derived.Test.YtieibbdfdepmbaaSeg
namespace Go.Proofs.Ytieibbdfdepmbaa
set_option linter.all false
open Go.RowKit

def pHas : List DArg → Option (Value × List Prop)
  | [.v (.agg ⟨[.int .i64 ax, .int .i64 ay, .int .i64 bx, .int .i64 b_y]⟩), .v (.agg ⟨[.int .i64 px, .int .i64 py]⟩)] => some (.bool (hasB ax ay bx b_y px py), [ptB ax ay = true, ptB bx b_y = true, ptB px py = true])
  | _ => none
def pSgS : List DArg → Option (Value × List Prop)
  | [.v (.agg ⟨[.int .i64 a, .int .i64 b, .int .i64 c, .int .i64 d]⟩)] => some (.bool (segB a b c d), [])
  | _ => none
def pTrn : List DArg → Option (Value × List Prop)
  | [.v (.agg ⟨[.int .i64 ax, .int .i64 ay]⟩), .v (.agg ⟨[.int .i64 bx, .int .i64 b_y]⟩), .v (.agg ⟨[.int .i64 cx, .int .i64 cy]⟩)] => some (iv (crossI ax ay bx b_y cx cy), [ptB ax ay = true, ptB bx b_y = true, ptB cx cy = true])
  | _ => none
set_option maxRecDepth 100000 in
theorem tr_sCross (ax ay bx b_y cx cy : Int) : bodyV Try.prog (tabE B0) 30 12 88 [.v (.agg #[iv ax, iv ay]), .v (.agg #[iv bx, iv b_y]), .v (.agg #[iv cx, iv cy])] = .fin (.int .i64 (IntKind.i64.wrap (IntKind.i64.wrap (IntKind.i64.wrap (bx - ax) * IntKind.i64.wrap (cy - ay)) - IntKind.i64.wrap (IntKind.i64.wrap (b_y - ay) * IntKind.i64.wrap (cx - ax))))) [] := by kernel_rfl
set_option maxRecDepth 100000 in
theorem tr_iTurn (ax ay bx b_y cx cy : Int) : bodyV Try.prog (tabE B0) 30 12 56 [.v (.agg #[iv ax, iv ay]), .v (.agg #[iv bx, iv b_y]), .v (.agg #[iv cx, iv cy])] = .fin (.int .i64 (IntKind.i64.wrap (IntKind.i64.wrap (IntKind.i64.wrap (bx - ax) * IntKind.i64.wrap (cy - ay)) - IntKind.i64.wrap (IntKind.i64.wrap (b_y - ay) * IntKind.i64.wrap (cx - ax))))) [] := by kernel_rfl
theorem crs_bd {ax ay bx b_y cx cy : Int} (h1 : ptB ax ay = true) (h2 : ptB bx b_y = true) (h3 : ptB cx cy = true) : (-(2000 * 2000) ≤ (bx - ax) * (cy - ay) ∧ (bx - ax) * (cy - ay) ≤ 2000 * 2000) ∧ (-(2000 * 2000) ≤ (b_y - ay) * (cx - ax) ∧ (b_y - ay) * (cx - ax) ≤ 2000 * 2000) := by
  have a1 := ptB_true h1
  have a2 := ptB_true h2
  have a3 := ptB_true h3
  exact ⟨mul_bd 2000 2000 (by omega) (by omega), mul_bd 2000 2000 (by omega) (by omega)⟩
theorem res_sCross {ax ay bx b_y cx cy : Int} (h1 : ptB ax ay = true) (h2 : ptB bx b_y = true) (h3 : ptB cx cy = true) : Res Try.prog 88 [.v (.agg #[iv ax, iv ay]), .v (.agg #[iv bx, iv b_y]), .v (.agg #[iv cx, iv cy])] (iv (crossI ax ay bx b_y cx cy)) := by
  refine bodyV_res mixed (tabE_ok B0_ok) (m := 30) (n := 12) rfl ?_
  rw [tr_sCross]
  have a1 := ptB_true h1
  have a2 := ptB_true h2
  have a3 := ptB_true h3
  obtain ⟨b1, b2⟩ := crs_bd h1 h2 h3
  simp (disch := omega) only [wr]
  rfl
theorem res_iTurn {ax ay bx b_y cx cy : Int} (h1 : ptB ax ay = true) (h2 : ptB bx b_y = true) (h3 : ptB cx cy = true) : Res Try.prog 56 [.v (.agg #[iv ax, iv ay]), .v (.agg #[iv bx, iv b_y]), .v (.agg #[iv cx, iv cy])] (iv (crossI ax ay bx b_y cx cy)) := by
  refine bodyV_res mixed (tabE_ok B0_ok) (m := 30) (n := 12) rfl ?_
  rw [tr_iTurn]
  have a1 := ptB_true h1
  have a2 := ptB_true h2
  have a3 := ptB_true h3
  obtain ⟨b1, b2⟩ := crs_bd h1 h2 h3
  simp (disch := omega) only [wr]
  rfl
set_option maxRecDepth 100000 in
theorem tr_iVsg (a b c d : Int) : bodyV Try.prog (tabE T1) 30 12 113 [.v (.agg #[iv a, iv b, iv c, iv d])] = brT (ptB a b && ptB c d) (.fin (.bool (negB true (a == c && (b == d && true)))) []) (.fin (.bool (false)) []) := by kernel_rfl
theorem res_iVsg (a b c d : Int) : Res Try.prog 113 [.v (.agg #[iv a, iv b, iv c, iv d])] (.bool (segB a b c d)) := by
  refine bodyV_res mixed (tabE_ok T1_ok) (m := 30) (n := 12) rfl ?_
  rw [tr_iVsg]
  unfold segB eqB negB
  cases ptB a b <;> cases ptB c d <;> simp [brT, Tree.ok]
def TRl : Tab := fun f ds => match f with
  | 128 => pHas ds
  | 130 => pHas ds
  | 113 => pSgS ds
  | 88 => pTrn ds
  | 56 => pTrn ds
  | _ => T1 f ds
theorem pHas_i {ds : List DArg} {v : Value} {C : List Prop} (h : pHas ds = some (v, C)) (hC : AllP C) : Res Try.prog 128 ds v := by
  unfold pHas at h
  split at h
  · obtain ⟨rfl, rfl⟩ : _ ∧ _ := by simpa using h
    exact res_calls (by kernel_rfl) rfl rfl fun w => has_any _ _ _ _ _ _ w hC.1 hC.2.1 hC.2.2.1
  · cases h
theorem pHas_s {ds : List DArg} {v : Value} {C : List Prop} (h : pHas ds = some (v, C)) (hC : AllP C) : Res Try.prog 130 ds v := by
  unfold pHas at h
  split at h
  · obtain ⟨rfl, rfl⟩ : _ ∧ _ := by simpa using h
    exact res_calls (by kernel_rfl) rfl rfl fun w => specHas_any _ _ _ _ _ _ w hC.1 hC.2.1 hC.2.2.1
  · cases h
theorem pSgS_i {ds : List DArg} {v : Value} {C : List Prop} (h : pSgS ds = some (v, C)) : Res Try.prog 113 ds v := by
  unfold pSgS at h
  split at h
  · obtain ⟨rfl, rfl⟩ : _ ∧ _ := by simpa using h
    exact res_iVsg _ _ _ _
  · cases h
theorem pTrn_s {ds : List DArg} {v : Value} {C : List Prop} (h : pTrn ds = some (v, C)) (hC : AllP C) : Res Try.prog 88 ds v := by
  unfold pTrn at h
  split at h
  · obtain ⟨rfl, rfl⟩ : _ ∧ _ := by simpa using h
    exact res_sCross hC.1 hC.2.1 hC.2.2.1
  · cases h
theorem pTrn_i {ds : List DArg} {v : Value} {C : List Prop} (h : pTrn ds = some (v, C)) (hC : AllP C) : Res Try.prog 56 ds v := by
  unfold pTrn at h
  split at h
  · obtain ⟨rfl, rfl⟩ : _ ∧ _ := by simpa using h
    exact res_iTurn hC.1 hC.2.1 hC.2.2.1
  · cases h
theorem TRl_ok : TabOk Try.prog TRl := by
  intro f ds v C h hC
  unfold TRl at h
  (try split at h)
  all_goals first | with_reducible exact pHas_i h hC | with_reducible exact pHas_s h hC | with_reducible exact pSgS_i h | with_reducible exact pSgS_s h | with_reducible exact pTrn_s h hC | with_reducible exact pTrn_i h hC | exact T1_ok _ _ _ _ h hC
end Go.Proofs.Ytieibbdfdepmbaa
