/-
  FnDistribute: Products with sums: at every three drawn fractions
  No conditions: every argument, every world, every order that the model lets a run take. Written by an AI agent.
-/
import Derived.Test.YtoleenohcidegaaRowB
import Derived.Test.YtoleenohcidegaaLawK
namespace Go.Proofs.Ytoleenohcidegaa.fnDistribute
open Go.ChangeShapes Go.WideShapes Go.ChangeAt Go.RowKit

set_option maxRecDepth 100000 in
theorem lifted (os : Os) (started : os.Started) (H : Type) (enc : TypeId × Value → H) :
    ReturnsInHanded {} Try.checked os 5 .any (Rows.fnDistributeSpec.pre6 enc Try.prog Try.f5 Rows.fnDistributeRow.domain false) (Rows.fnDistributeSpec.post enc Try.prog Try.f5 false true false false) := by
  refine returnsInHanded_of_change (C := Try.checked) own started (by kernel_rfl) Try.func5
    (ChangeSpec.witness6 (enc := enc) (C := Try.checked) false ⟨#[], #[.slice none 0 0, .slice none 0 0], []⟩ 8 (by kernel_rfl) (by kernel_rfl) (by kernel_rfl) (by kernel_rfl)) ?_
  intro W base args ds gs before hval0 hW _ _
  have hval : ∀ (j : Nat) t v, Try.f5.params[j]? = some t → args[j]? = some v → Value.okWide Try.prog W .any base t v := hval0
  have hW0 := hW
  obtain ⟨p, q, hA, hV, rfl, _, _⟩ := hW0
  rw [Try.params5] at hA hval
  obtain ⟨v0, vs0, d0, ds0, p0, q0, hargs, rfl, rfl, h0, r0⟩ := trodAll_cons hA
  obtain ⟨v1, vs1, d1, ds1, p1, q1, rfl, rfl, rfl, h1, r1⟩ := trodAll_cons r0
  obtain ⟨rfl, rfl, rfl⟩ := trodAll_nil r1
  obtain rfl : args = #[v0, v1] := by cases args; simp_all
  obtain ⟨rfl, rfl⟩ := trodVars_none hV
  obtain ⟨bs0, hm0, hx0, hd0⟩ := arg_bytes Try.underlying22 Try.underlying5 (by kernel_rfl) (hval 0 22 v0 rfl rfl) h0
  obtain ⟨bs1, hm1, hx1, hd1⟩ := arg_bytes Try.underlying22 Try.underlying5 (by kernel_rfl) (hval 1 22 v1 rfl rfl) h1
  refine ((law_dist bs0 bs1 hx0 hm0 hx1 hm1).2.2.2.2 W _ (doks_cons hd0 (doks_cons hd1 doks_nil))).mono fun e W' ⟨he, hb⟩ => ?_
  subst he
  exact ⟨_, rfl, law_post laid_out u4 rfl rfl (by rw [Try.params5]; exact of_decide_eq_true (by kernel_rfl)) ⟨rfl, rfl, rfl⟩ hW hb⟩

theorem c1 : (Rows.fnDistributeRow.inPlace == Try.pinned.checked.prog.inPlace 5) = true := by kernel_rfl
theorem c2 : (Rows.fnDistributeRow.unfollowed == Try.pinned.checked.prog.unfollowed 5) = true := by kernel_rfl
theorem c3 : (Rows.fnDistributeRow.recurses == Try.pinned.checked.prog.recurses 5) = true := by kernel_rfl
theorem c4 : (Rows.fnDistributeRow.named == Try.pinned.checked.prog.varsNamed 5) = true := by kernel_rfl
theorem c5 : mapsRowed Try.pinned.checked.prog = true := by kernel_rfl
theorem c6 : (Try.pinned.checked.prog.stops == []) = true := by kernel_rfl
theorem c7 : Try.pinned.checked.prog.funcNamed Rows.fnDistributeRow.func = some 5 := by kernel_rfl
theorem facts : joinedFacts Try.pinned.checked.prog 5 Try.f5 Rows.fnDistributeSpec Rows.fnDistributeRow = true := by
  unfold joinedFacts
  rw [c1, c2, c3, c4, c5, c6]
  kernel_rfl
theorem inst : Try.f5.isInstance Try.pinned.checked.prog Rows.fnDistributeRow.origin Rows.fnDistributeRow.targs := of_decide_eq_true (by kernel_rfl)
theorem wrap : Try.f5.isWrapper Try.pinned.checked.prog Rows.fnDistributeRow.wrapper Rows.fnDistributeRow.mainSum := by unfold Func.isWrapper; rw [if_neg (of_decide_eq_false (by kernel_rfl))]; exact ⟨rfl, rfl⟩
theorem proved : Rows.FnDistributeSaid :=
  OpenClaim.holds_of_wide 5 Try.f5 rfl rfl rfl rfl rfl rfl rfl ⟨rfl, rfl, rfl, rfl, rfl⟩ rfl rfl rfl rfl rfl c7 Try.func5 facts inst wrap
    (fun os started H enc _ => lifted os started H enc)
end Go.Proofs.Ytoleenohcidegaa.fnDistribute
