/-
  FnExactCheckSpanning: whether edges are a spanning tree with the smallest total length is told as the model tells it: the law holds
  No conditions: every argument, every world, every order that the model lets a run take. Written by an AI agent.
-/
import Derived.Orders
import Derived.Below
import Derived.OrdersIn
import Derived.Deep.LoopGhost
import Derived.WalkKit
import Derived.Laws.CopyRow
import Derived.Laws.AppendOwn
import Derived.Laws.Slices
import Derived.Laws.MakeOwn
import Derived.Test.YtnlciknmpjikgaaRows
import Derived.ProofKit
import Derived.OpenShut
import Derived.Carry
import Derived.IntWalk
import Derived.Test.YtnlciknmpjikgaaProg
import Derived.WalkSpells
import Derived.WalkLawsBesides
import Derived.Lib.Hide
import Derived.Deep.QuietTactic
import Derived.BigQuiet
import Derived.KernelRfl
import Derived.Deep.RegionHeld3
import Derived.LoopTactic
import Derived.Laws.StructEq
import Derived.Laws.Tables
import Derived.RangeFuncNested
import Derived.RangeFuncLeaves
import Derived.Deep.Slices
import Derived.Deep.Fields
import Derived.ChangeSame
import Derived.Test.YtnlciknmpjikgaaZExactCheckSpanning5
namespace Go.Proofs.Ytnlciknmpjikgaa.fnExactCheckSpanning
set_option linter.all false
open Go.ChangeShapes Go.WideShapes Go.ChangeAt Go.RowKit
set_option maxRecDepth 100000 in
theorem lifted (os : Os) (started : os.Started) (H : Type) (enc : TypeId × Value → H) :
    ReturnsInHanded {} Try.checked os 6 .any (Rows.fnExactCheckSpanningSpec.pre6 enc Try.prog Try.f6 Rows.fnExactCheckSpanningRow.domain false) (Rows.fnExactCheckSpanningSpec.post enc Try.prog Try.f6 false true false false) := by
  refine returnsInHanded_of_change (C := Try.checked) own started (by kernel_rfl) Try.func6
    (ChangeSpec.witness6 (enc := enc) (C := Try.checked) false ⟨#[], #[.slice none 0 0, .slice none 0 0], []⟩ 8 (by kernel_rfl) (by kernel_rfl) (by kernel_rfl) (by kernel_rfl)) ?_
  intro W base args ds gs before hval0 hW _ _
  have hval : ∀ (j : Nat) t v, Try.f6.params[j]? = some t → args[j]? = some v → Value.okWide Try.prog W .any base t v := hval0
  have hW0 := hW
  obtain ⟨p, q, hA, hV, rfl, _, _⟩ := hW0
  rw [Try.params6] at hA hval
  obtain ⟨v0, vs0, d0, ds0, p0, q0, hargs, rfl, rfl, h0, r0⟩ := trodAll_cons hA
  obtain ⟨v1, vs1, d1, ds1, p1, q1, rfl, rfl, rfl, h1, r1⟩ := trodAll_cons r0
  obtain ⟨rfl, rfl, rfl⟩ := trodAll_nil r1
  obtain rfl : args = #[v0, v1] := by cases args; simp_all
  obtain ⟨rfl, rfl⟩ := trodVars_none hV
  obtain ⟨n0, xs0, hm0, hx0, hd0⟩ := arg_rows (k := 2) (by omega) Try.underlying39 Try.underlying75 (by kernel_rfl) (by kernel_rfl) rfl (fields_int (by kernel_rfl)) (hval 0 39 v0 rfl rfl) h0
  obtain ⟨ps0, rfl, rfl⟩ := even_flat hx0
  obtain ⟨n1, xs1, hm1, hx1, hd1⟩ := arg_rows (k := 2) (by omega) Try.underlying40 Try.underlying77 (by kernel_rfl) (by kernel_rfl) rfl (fields_int (by kernel_rfl)) (hval 1 40 v1 rfl rfl) h1
  obtain ⟨ps1, rfl, rfl⟩ := even_flat hx1
  refine ((ExactCheckSpanning_res ps0 ps1 (len_fits hm0) (len_fits hm1)).2.2.2.2 W _ (doks_cons hd0 (doks_cons hd1 doks_nil))).mono fun e W' ⟨he, hb⟩ => ?_
  subst he
  exact ⟨_, rfl, law_post laid_out u4 rfl rfl (by rw [Try.params6]; exact of_decide_eq_true (by kernel_rfl)) ⟨rfl, rfl, rfl⟩ hW hb⟩
theorem c1 : (Rows.fnExactCheckSpanningRow.inPlace == Try.pinned.checked.prog.inPlace 6) = true := by kernel_rfl
theorem c2 : (Rows.fnExactCheckSpanningRow.unfollowed == Try.pinned.checked.prog.unfollowed 6) = true := by kernel_rfl
theorem c3 : (Rows.fnExactCheckSpanningRow.recurses == Try.pinned.checked.prog.recurses 6) = true := by kernel_rfl
theorem c4 : (Rows.fnExactCheckSpanningRow.named == Try.pinned.checked.prog.varsNamed 6) = true := by kernel_rfl
theorem c5 : mapsRowed Try.pinned.checked.prog = true := by kernel_rfl
theorem c6 : (Try.pinned.checked.prog.stops == []) = true := by kernel_rfl
theorem c7 : Try.pinned.checked.prog.funcNamed Rows.fnExactCheckSpanningRow.func = some 6 := by kernel_rfl
theorem facts : joinedFacts Try.pinned.checked.prog 6 Try.f6 Rows.fnExactCheckSpanningSpec Rows.fnExactCheckSpanningRow = true := by
  unfold joinedFacts
  rw [c1, c2, c3, c4, c5, c6]
  kernel_rfl
theorem inst : Try.f6.isInstance Try.pinned.checked.prog Rows.fnExactCheckSpanningRow.origin Rows.fnExactCheckSpanningRow.targs := of_decide_eq_true (by kernel_rfl)
theorem wrap : Try.f6.isWrapper Try.pinned.checked.prog Rows.fnExactCheckSpanningRow.wrapper Rows.fnExactCheckSpanningRow.mainSum := by unfold Func.isWrapper; rw [if_neg (of_decide_eq_false (by kernel_rfl))]; exact ⟨rfl, rfl⟩
theorem proved : Rows.FnExactCheckSpanningSaid :=
  OpenClaim.holds_of_wide 6 Try.f6 rfl rfl rfl rfl rfl rfl rfl ⟨rfl, rfl, rfl, rfl, rfl⟩ rfl rfl rfl rfl rfl c7 Try.func6 facts inst wrap
    (fun os started H enc _ => lifted os started H enc)
end Go.Proofs.Ytnlciknmpjikgaa.fnExactCheckSpanning
