/-
  The common ends of two segments, in any order. Written by an AI agent.
-/
import Derived.Test.YtieibbdfdepmbaaRelC
namespace Go.Proofs.Ytieibbdfdepmbaa
set_option linter.all false
open Go.RowKit

theorem addT_mem {o : List Pt} {p z : Pt} {b : Bool} : z ∈ addT o p b ↔ z ∈ o ∨ (b = true ∧ z = p) := by
  unfold addT
  cases b
  · simp
  · simp [insP_mem]
theorem addT_asc {o : List Pt} (h : Asc o) (p : Pt) (b : Bool) : Asc (addT o p b) := by
  unfold addT
  cases b
  · exact h
  · exact insP_asc p h
theorem ce_asc (a b c d e f g h : Int) : Asc (ceS a b c d e f g h) := addT_asc (addT_asc (addT_asc (addT_asc List.Pairwise.nil _ _) _ _) _ _) _ _
theorem ce_mem {a b c d e f g h : Int} {z : Pt} : z ∈ ceS a b c d e f g h ↔ onB a b c d e f g h z.1 z.2 = true ∧ (z = (a, b) ∨ z = (c, d) ∨ z = (e, f) ∨ z = (g, h)) := by
  unfold ceS
  simp only [addT_mem, List.not_mem_nil, false_or]
  constructor
  · rintro (((⟨h1, rfl⟩ | ⟨h1, rfl⟩) | ⟨h1, rfl⟩) | ⟨h1, rfl⟩)
    · exact ⟨h1, .inl rfl⟩
    · exact ⟨h1, .inr (.inl rfl)⟩
    · exact ⟨h1, .inr (.inr (.inl rfl))⟩
    · exact ⟨h1, .inr (.inr (.inr rfl))⟩
  · rintro ⟨h1, rfl | rfl | rfl | rfl⟩
    · exact .inl (.inl (.inl ⟨h1, rfl⟩))
    · exact .inl (.inl (.inr ⟨h1, rfl⟩))
    · exact .inl (.inr ⟨h1, rfl⟩)
    · exact .inr ⟨h1, rfl⟩
theorem onB_comm (a b c d e f g h x y : Int) : onB a b c d e f g h x y = onB e f g h a b c d x y := Bool.and_comm ..
theorem ce_comm (a b c d e f g h : Int) : ceS a b c d e f g h = ceS e f g h a b c d := by
  refine asc_ext (ce_asc ..) (ce_asc ..) fun z => ?_
  rw [ce_mem, ce_mem, onB_comm]
  refine and_congr_right fun _ => ?_
  constructor
  · rintro (h | h | h | h) <;> simp [h]
  · rintro (h | h | h | h) <;> simp [h]
theorem relA_comm (a b c d e f g h : Int) : relA a b c d e f g h = relA e f g h a b c d := by
  unfold relA
  rw [ce_comm a b c d e f g h, Bool.and_comm]
theorem hasB_a (a b c d : Int) : hasB a b c d a b = true := by
  unfold hasB
  simp
theorem hasB_b (a b c d : Int) : hasB a b c d c d = true := by
  unfold hasB
  simp
end Go.Proofs.Ytieibbdfdepmbaa
