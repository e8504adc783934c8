/-
  FnExactInTriangle: InTriangle answers as its model does at all points
  No conditions: every argument, every world, every order that the model lets a run take. Written by an AI agent.
-/
import Derived.Test.YtblpldapmmoheabBc
import Derived.Test.YtblpldapmmoheabItr
namespace Go.Proofs.Ytblpldapmmoheab.fnExactInTriangle
set_option linter.all false
open Go.ChangeShapes Go.WideShapes Go.ChangeAt Go.RowKit

set_option maxRecDepth 100000 in
theorem lifted (os : Os) (started : os.Started) (H : Type) (enc : TypeId × Value → H) :
    ReturnsInHanded {} Try.checked os 8 .any (Rows.fnExactInTriangleSpec.pre6 enc Try.prog Try.f8 Rows.fnExactInTriangleRow.domain false) (Rows.fnExactInTriangleSpec.post enc Try.prog Try.f8 false true false false) := by
  refine returnsInHanded_of_change (C := Try.checked) own started (by kernel_rfl) Try.func8
    (ChangeSpec.witness6 (enc := enc) (C := Try.checked) false ⟨#[], #[.agg #[.int .i64 0, .int .i64 0], .agg #[.int .i64 0, .int .i64 0], .agg #[.int .i64 0, .int .i64 0], .agg #[.int .i64 0, .int .i64 0]], []⟩ 8 (by kernel_rfl) (by kernel_rfl) (by kernel_rfl) (by kernel_rfl)) ?_
  intro W base args ds gs before hval0 hW _ _
  have hval : ∀ (j : Nat) t v, Try.f8.params[j]? = some t → args[j]? = some v → Value.okWide Try.prog W .any base t v := hval0
  have hW0 := hW
  obtain ⟨p, q, hA, hV, rfl, _, _⟩ := hW0
  rw [Try.params8] at hA hval
  obtain ⟨v0, vs0, d0, ds0, p0, q0, hargs, rfl, rfl, h0, r0⟩ := trodAll_cons hA
  obtain ⟨v1, vs1, d1, ds1, p1, q1, rfl, rfl, rfl, h1, r1⟩ := trodAll_cons r0
  obtain ⟨v2, vs2, d2, ds2, p2, q2, rfl, rfl, rfl, h2, r2⟩ := trodAll_cons r1
  obtain ⟨v3, vs3, d3, ds3, p3, q3, rfl, rfl, rfl, h3, r3⟩ := trodAll_cons r2
  obtain ⟨rfl, rfl, rfl⟩ := trodAll_nil r3
  obtain rfl : args = #[v0, v1, v2, v3] := by cases args; simp_all
  obtain ⟨rfl, rfl⟩ := trodVars_none hV
  obtain ⟨xs0, hl0, rfl, hi0⟩ := val_agg 2 (by omega) Try.underlying58 (by kernel_rfl) (by kernel_rfl) (hval 0 58 v0 rfl rfl)
  obtain ⟨a0_0, a0_1, rfl⟩ := two hl0
  obtain ⟨xs1, hl1, rfl, hi1⟩ := val_agg 2 (by omega) Try.underlying58 (by kernel_rfl) (by kernel_rfl) (hval 1 58 v1 rfl rfl)
  obtain ⟨a1_0, a1_1, rfl⟩ := two hl1
  obtain ⟨xs2, hl2, rfl, hi2⟩ := val_agg 2 (by omega) Try.underlying58 (by kernel_rfl) (by kernel_rfl) (hval 2 58 v2 rfl rfl)
  obtain ⟨a2_0, a2_1, rfl⟩ := two hl2
  obtain ⟨xs3, hl3, rfl, hi3⟩ := val_agg 2 (by omega) Try.underlying58 (by kernel_rfl) (by kernel_rfl) (hval 3 58 v3 rfl rfl)
  obtain ⟨a3_0, a3_1, rfl⟩ := two hl3
  refine ((ExactInTriangle_res a0_0 a0_1 a1_0 a1_1 a2_0 a2_1 a3_0 a3_1).2.2.2.2 W _ (doks_cons ⟨rfl, rfl⟩ (doks_cons ⟨rfl, rfl⟩ (doks_cons ⟨rfl, rfl⟩ (doks_cons ⟨rfl, rfl⟩ doks_nil))))).mono fun e W' ⟨he, hb⟩ => ?_
  subst he
  exact ⟨_, rfl, law_post laid_out u4 rfl rfl (by rw [Try.params8]; exact of_decide_eq_true (by kernel_rfl)) ⟨rfl, rfl, rfl⟩ hW hb⟩

theorem proved : Rows.FnExactInTriangleSaid :=
  OpenClaim.holds_of_wide 8 Try.f8 rfl rfl rfl rfl rfl rfl rfl ⟨rfl, rfl, rfl, rfl, rfl⟩ rfl rfl rfl rfl rfl (by kernel_rfl) Try.func8 (by kernel_rfl)
    (of_decide_eq_true (by kernel_rfl)) (by unfold Func.isWrapper; rw [if_neg (of_decide_eq_false (by kernel_rfl))]; exact ⟨rfl, rfl⟩)
    (fun os started H enc _ => lifted os started H enc)
end Go.Proofs.Ytblpldapmmoheab.fnExactInTriangle
