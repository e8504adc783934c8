/-
  FnExactMeetPoint: MeetPoint answers as its model does at every two segments
  No conditions: every argument, every world, every order that the model lets a run take. Written by an AI agent.
-/
import Derived.Test.YtfbcbmckicmalaaBc
import Derived.Test.YtfbcbmckicmalaaMptF
namespace Go.Proofs.Ytfbcbmckicmalaa.fnExactMeetPoint
open Go.ChangeShapes Go.WideShapes Go.ChangeAt Go.RowKit

set_option maxRecDepth 100000 in
theorem lifted (os : Os) (started : os.Started) (H : Type) (enc : TypeId × Value → H) :
    ReturnsInHanded {} Try.checked os 4 .any (Rows.fnExactMeetPointSpec.pre6 enc Try.prog Try.f4 Rows.fnExactMeetPointRow.domain false) (Rows.fnExactMeetPointSpec.post enc Try.prog Try.f4 false true false false) := by
  refine returnsInHanded_of_change (C := Try.checked) own started (by kernel_rfl) Try.func4
    (ChangeSpec.witness6 (enc := enc) (C := Try.checked) false ⟨#[], #[.agg #[.int .i64 0, .int .i64 0, .int .i64 0, .int .i64 0], .agg #[.int .i64 0, .int .i64 0, .int .i64 0, .int .i64 0]], []⟩ 8 (by kernel_rfl) (by kernel_rfl) (by kernel_rfl) (by kernel_rfl)) ?_
  intro W base args ds gs before hval0 hW _ _
  have hval : ∀ (j : Nat) t v, Try.f4.params[j]? = some t → args[j]? = some v → Value.okWide Try.prog W .any base t v := hval0
  have hW0 := hW
  obtain ⟨p, q, hA, hV, rfl, _, _⟩ := hW0
  rw [Try.params4] at hA hval
  obtain ⟨v0, vs0, d0, ds0, p0, q0, hargs, rfl, rfl, h0, r0⟩ := trodAll_cons hA
  obtain ⟨v1, vs1, d1, ds1, p1, q1, rfl, rfl, rfl, h1, r1⟩ := trodAll_cons r0
  obtain ⟨rfl, rfl, rfl⟩ := trodAll_nil r1
  obtain rfl : args = #[v0, v1] := by cases args; simp_all
  obtain ⟨rfl, rfl⟩ := trodVars_none hV
  obtain ⟨xs0, hl0, rfl, hi0⟩ := val_agg 4 (by omega) Try.underlying25 (by kernel_rfl) (by kernel_rfl) (hval 0 25 v0 rfl rfl)
  obtain ⟨a0_0, a0_1, a0_2, a0_3, rfl⟩ := four hl0
  obtain ⟨xs1, hl1, rfl, hi1⟩ := val_agg 4 (by omega) Try.underlying25 (by kernel_rfl) (by kernel_rfl) (hval 1 25 v1 rfl rfl)
  obtain ⟨a1_0, a1_1, a1_2, a1_3, rfl⟩ := four hl1
  refine ((ExactMeetPoint_res a0_0 a0_1 a0_2 a0_3 a1_0 a1_1 a1_2 a1_3).2.2.2.2 W _ (doks_cons ⟨rfl, rfl⟩ (doks_cons ⟨rfl, rfl⟩ doks_nil))).mono fun e W' ⟨he, hb⟩ => ?_
  subst he
  exact ⟨_, rfl, law_post laid_out u4 rfl rfl (by rw [Try.params4]; exact of_decide_eq_true (by kernel_rfl)) ⟨rfl, rfl, rfl⟩ hW hb⟩

theorem proved : Rows.FnExactMeetPointSaid :=
  OpenClaim.holds_of_wide 4 Try.f4 rfl rfl rfl rfl rfl rfl rfl ⟨rfl, rfl, rfl, rfl, rfl⟩ rfl rfl rfl rfl rfl (by kernel_rfl) Try.func4 (by kernel_rfl)
    (of_decide_eq_true (by kernel_rfl)) (by unfold Func.isWrapper; rw [if_neg (of_decide_eq_false (by kernel_rfl))]; exact ⟨rfl, rfl⟩)
    (fun os started H enc _ => lifted os started H enc)
end Go.Proofs.Ytfbcbmckicmalaa.fnExactMeetPoint
