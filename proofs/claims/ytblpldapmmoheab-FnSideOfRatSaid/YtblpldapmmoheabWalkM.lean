/-
  Sides of lines: the program's and the model's SideOf, and the law's walk. Written by an AI agent.
-/
import Derived.Test.YtblpldapmmoheabWalkL
import Derived.Deep.RegionHeld3
namespace Go.Proofs.Ytblpldapmmoheab
open Go.RowKit

def sideR (a b c x y : Int) : Int := if lineB a b c && ptB x y then sgn (a * x + b * y - c) else 2
theorem sideR_no {a b c x y : Int} (h : (lineB a b c && ptB x y) = false) : sideR a b c x y = 2 := by unfold sideR; rw [h]; rfl
theorem sideR_yes {a b c x y : Int} (h : (lineB a b c && ptB x y) = true) : sideR a b c x y = sgn (a * x + b * y - c) := by unfold sideR; rw [h]; rfl
theorem side_bd {a b c x y : Int} (hl : lineB a b c = true) (hp : ptB x y = true) : (-2000000 ≤ a * x ∧ a * x ≤ 2000000) ∧ (-2000000 ≤ b * y ∧ b * y ≤ 2000000) ∧ (-4000000 ≤ c ∧ c ≤ 4000000) := by
  have h1 := lineB_true hl
  have h2 := ptB_true hp
  refine ⟨?_, ?_, by omega⟩
  · have := prod_bd (x := a) (y := x) 2000 1000 (by omega) (by omega)
    omega
  · have := prod_bd (x := b) (y := y) 2000 1000 (by omega) (by omega)
    omega
theorem implSide_any (a b c x y : Int) (w : World) :
    Calls Try.prog 24 #[.agg #[.int .i64 a, .int .i64 b, .int .i64 c], .agg #[.int .i64 x, .int .i64 y]] w fun e w' => e = .returned (.int .i64 (sideR a b c x y)) ∧ Below w.heap.size w w' := by
  go_enter Try.func24, Try.ntmps24
  rcases va : lineB a b c with _ | _
  · have HR := Lib.hid (sideR_no (both_no (b := ptB x y) va))
    have VA := Lib.hid va
    clear va
    go_wp2_with fail
    refine (implLine_any a b c _).mono ?_; rw [VA.out]; rintro e w1 ⟨rfl, hb1⟩; obtain ⟨hc1, hf1, hz1⟩ := bc2 w.heap.size hb1 (by simp)
    go_wp2
    go_ret
    exact ⟨ret_int HR.out.symm, by repeat' (first | exact nr _ | apply na | apply Below.drew | apply nd | refine nt ?_ (by assumption))⟩
  rcases vb : ptB x y with _ | _
  · have HR := Lib.hid (sideR_no (both_no' (a := lineB a b c) vb))
    have VA := Lib.hid va
    have VB := Lib.hid vb
    clear va vb
    go_wp2_with fail
    refine (implLine_any a b c _).mono ?_; rw [VA.out]; rintro e w1 ⟨rfl, hb1⟩; obtain ⟨hc1, hf1, hz1⟩ := bc2 w.heap.size hb1 (by simp)
    go_wp2_with fail
    refine (implValid_any x y _).mono ?_; rw [VB.out]; rintro e w2 ⟨rfl, hb2⟩; obtain ⟨hc2, hf2, hz2⟩ := bc2 w.heap.size hb2 (by omega)
    go_wp2
    go_ret
    exact ⟨ret_int HR.out.symm, by repeat' (first | exact nr _ | apply na | apply Below.drew | apply nd | refine nt ?_ (by assumption))⟩
  have bd := side_bd va vb
  have HR := Lib.hid (sideR_yes (both_yes va vb))
  have VA := Lib.hid va
  have VB := Lib.hid vb
  clear va vb
  go_wp2_with fail
  refine (implLine_any a b c _).mono ?_; rw [VA.out]; rintro e w1 ⟨rfl, hb1⟩; obtain ⟨hc1, hf1, hz1⟩ := bc2 w.heap.size hb1 (by simp)
  go_wp2_with fail
  refine (implValid_any x y _).mono ?_; rw [VB.out]; rintro e w2 ⟨rfl, hb2⟩; obtain ⟨hc2, hf2, hz2⟩ := bc2 w.heap.size hb2 (by omega)
  go_wp2_with (go_at_call 79; refine (compare_any _ _ _).mono ?_; rintro e w' ⟨rfl, rfl⟩)
  go_ret
  exact ⟨ret_int HR.out.symm, by repeat' (first | exact nr _ | apply na | apply Below.drew | apply nd | refine nt ?_ (by assumption))⟩
end Go.Proofs.Ytblpldapmmoheab
