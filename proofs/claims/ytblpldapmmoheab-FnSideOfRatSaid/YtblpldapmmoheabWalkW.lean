/-
  Points on segments: the program's and the model's OnSegment, and the law's walk. Written by an AI agent.
-/
import Derived.Test.YtblpldapmmoheabWalkV
namespace Go.Proofs.Ytblpldapmmoheab
open Go.RowKit

def onB (ax ay bx b_y px py : Int) : Bool := segB ax ay bx b_y && ptB px py && hasB ax ay bx b_y px py
theorem onB_no {ax ay bx b_y px py : Int} (h : (segB ax ay bx b_y && ptB px py) = false) : onB ax ay bx b_y px py = false := by unfold onB; rw [h]; rfl
theorem onB_yes {ax ay bx b_y px py : Int} (h : (segB ax ay bx b_y && ptB px py) = true) : onB ax ay bx b_y px py = hasB ax ay bx b_y px py := by unfold onB; rw [h]; rfl
theorem SpecOn_any (ax ay bx b_y px py : Int) (w : World) :
    Calls Try.prog 32 #[.agg #[.int .i64 ax, .int .i64 ay, .int .i64 bx, .int .i64 b_y], .agg #[.int .i64 px, .int .i64 py]] w fun e w' => e = .returned (.bool (onB ax ay bx b_y px py)) ∧ Below w.heap.size w w' := by
  go_enter Try.func32, Try.ntmps32
  rcases va : segB ax ay bx b_y with _ | _
  · have HR := Lib.hid (onB_no (both_no (b := ptB px py) va))
    have VA := Lib.hid va
    clear va
    go_wp2_with fail
    refine (specSeg_any ax ay bx b_y _).mono ?_; rw [VA.out]; rintro e w1 ⟨rfl, hb1⟩
    go_wp2_with fail
    go_ret
    exact ⟨ret_bool HR.out.symm, by repeat' (first | exact nr _ | apply na | apply Below.drew | apply nd | refine nt ?_ (by assumption))⟩
  rcases vb : ptB px py with _ | _
  · have HR := Lib.hid (onB_no (both_no' (a := segB ax ay bx b_y) vb))
    have VA := Lib.hid va
    have VB := Lib.hid vb
    clear va vb
    go_wp2_with fail
    refine (specSeg_any ax ay bx b_y _).mono ?_; rw [VA.out]; rintro e w1 ⟨rfl, hb1⟩; obtain ⟨hc1, hf1, hz1⟩ := bc2 w.heap.size hb1 (by simp)
    go_wp2_with fail
    refine (specValid_any px py _).mono ?_; rw [VB.out]; rintro e w2 ⟨rfl, hb2⟩
    go_wp2_with fail
    go_ret
    exact ⟨ret_bool HR.out.symm, by repeat' (first | exact nr _ | apply na | apply Below.drew | apply nd | refine nt ?_ (by assumption))⟩
  have HR := Lib.hid (onB_yes (both_yes va vb))
  have VS := Lib.hid (segB_true va)
  have VA := Lib.hid va
  have VB := Lib.hid vb
  clear va vb
  go_wp2_with fail
  refine (specSeg_any ax ay bx b_y _).mono ?_; rw [VA.out]; rintro e w1 ⟨rfl, hb1⟩; obtain ⟨hc1, hf1, hz1⟩ := bc2 w.heap.size hb1 (by simp)
  go_wp2_with fail
  refine (specValid_any px py _).mono ?_; rw [VB.out]; rintro e w2 ⟨rfl, hb2⟩; obtain ⟨hc2, hf2, hz2⟩ := bc2 w.heap.size hb2 (by omega)
  go_wp2_with fail
  refine (specHas_any _ _ _ _ _ _ _ VS.out.1 VS.out.2.1 VB.out).mono ?_; rintro e w3 ⟨rfl, hb3⟩
  go_wp2_with fail
  go_ret
  exact ⟨ret_bool HR.out.symm, by repeat' (first | exact nr _ | apply na | apply Below.drew | apply nd | refine nt ?_ (by assumption))⟩
theorem implOn_any (ax ay bx b_y px py : Int) (w : World) :
    Calls Try.prog 31 #[.agg #[.int .i64 ax, .int .i64 ay, .int .i64 bx, .int .i64 b_y], .agg #[.int .i64 px, .int .i64 py]] w fun e w' => e = .returned (.bool (onB ax ay bx b_y px py)) ∧ Below w.heap.size w w' := by
  go_enter Try.func31, Try.ntmps31
  rcases va : segB ax ay bx b_y with _ | _
  · have HR := Lib.hid (onB_no (both_no (b := ptB px py) va))
    have VA := Lib.hid va
    clear va
    go_wp2_with fail
    refine (implSeg_any ax ay bx b_y _).mono ?_; rw [VA.out]; rintro e w1 ⟨rfl, hb1⟩
    go_wp2_with fail
    go_ret
    exact ⟨ret_bool HR.out.symm, by repeat' (first | exact nr _ | apply na | apply Below.drew | apply nd | refine nt ?_ (by assumption))⟩
  rcases vb : ptB px py with _ | _
  · have HR := Lib.hid (onB_no (both_no' (a := segB ax ay bx b_y) vb))
    have VA := Lib.hid va
    have VB := Lib.hid vb
    clear va vb
    go_wp2_with fail
    refine (implSeg_any ax ay bx b_y _).mono ?_; rw [VA.out]; rintro e w1 ⟨rfl, hb1⟩; obtain ⟨hc1, hf1, hz1⟩ := bc2 w.heap.size hb1 (by simp)
    go_wp2_with fail
    refine (implValid_any px py _).mono ?_; rw [VB.out]; rintro e w2 ⟨rfl, hb2⟩
    go_wp2_with fail
    go_ret
    exact ⟨ret_bool HR.out.symm, by repeat' (first | exact nr _ | apply na | apply Below.drew | apply nd | refine nt ?_ (by assumption))⟩
  have HR := Lib.hid (onB_yes (both_yes va vb))
  have VS := Lib.hid (segB_true va)
  have VA := Lib.hid va
  have VB := Lib.hid vb
  clear va vb
  go_wp2_with fail
  refine (implSeg_any ax ay bx b_y _).mono ?_; rw [VA.out]; rintro e w1 ⟨rfl, hb1⟩; obtain ⟨hc1, hf1, hz1⟩ := bc2 w.heap.size hb1 (by simp)
  go_wp2_with fail
  refine (implValid_any px py _).mono ?_; rw [VB.out]; rintro e w2 ⟨rfl, hb2⟩; obtain ⟨hc2, hf2, hz2⟩ := bc2 w.heap.size hb2 (by omega)
  go_wp2_with fail
  refine (has_any _ _ _ _ _ _ _ VS.out.1 VS.out.2.1 VB.out).mono ?_; rintro e w3 ⟨rfl, hb3⟩
  go_wp2_with fail
  go_ret
  exact ⟨ret_bool HR.out.symm, by repeat' (first | exact nr _ | apply na | apply Below.drew | apply nd | refine nt ?_ (by assumption))⟩
end Go.Proofs.Ytblpldapmmoheab
