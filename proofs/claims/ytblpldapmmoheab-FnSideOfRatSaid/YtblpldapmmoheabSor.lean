/-
  The law of SideOfRat over drawn lines and points. Written by an AI agent.
-/
import Derived.Test.YtblpldapmmoheabRdH
import Derived.Test.YtblpldapmmoheabTabO
namespace Go.Proofs.Ytblpldapmmoheab
open Go.RowKit
def JSr : List (FuncId × RSpec) := (76, aratS) :: JL2
theorem JSr_ok : JOk Try.prog JSr := JL2_ok.cons (entersB_res (by kernel_rfl)).1 aratS_ok
def ESr : Env := withJ (tabE U7) JSr
theorem ESr_ok : EnvOk Try.prog ESr := withJ_ok mixed (tabE_ok U7_ok) JSr_ok
theorem rl_line {bs : List Int} {l : Nat} {p : Int} (h1 : rdK bs l p) (h2 : rdK bs l (p + 2)) : lineB (rlI bs l p 0) (rlI bs l p 1) (rlI bs l p 2) = true := by
  have r0 := h1.at (q := p) (by omega) (by omega)
  have r1 := h1.at (q := p + 1) (by omega) (by omega)
  have r2 := h1.at (q := p + 2) (by omega) (by omega)
  have r3 := h1.at (q := p + 3) (by omega) (by omega)
  have b0 := pickI_bd (k := 9) r0 (by omega)
  have b1 := pickI_bd (k := 9) r1 (by omega)
  have b2 := pickI_bd (k := 9) r2 (by omega)
  have b3 := pickI_bd (k := 9) r3 (by omega)
  have ho : thO (pickI bs l p 9 - 2) (pickI bs l (p + 1) 9 - 2) (pickI bs l (p + 2) 9 - 2) (rlY bs l p) = true := by
    rw [thO_is]
    unfold rlY
    generalize pickI bs l p 9 = x at *
    generalize pickI bs l (p + 1) 9 = y at *
    generalize pickI bs l (p + 2) 9 = u at *
    generalize pickI bs l (p + 3) 9 = w at *
    have q1 : ptB (x - 2) (y - 2) = true := decide_eq_true (by omega)
    split
    · rename_i h
      have q3 : ptB (u - 2) (w - 2 + 1) = true := decide_eq_true (by omega)
      have q4 : eqB (x - 2) (y - 2) (u - 2) (w - 2 + 1) = false := by
        unfold eqB
        simp
        omega
      rw [q1, q3, q4]
      rfl
    · rename_i h
      have q3 : ptB (u - 2) (w - 2) = true := decide_eq_true (by omega)
      have q4 : eqB (x - 2) (y - 2) (u - 2) (w - 2) = false := by
        unfold eqB
        simp
        omega
      rw [q1, q3, q4]
      rfl
  obtain ⟨_, _, _, _, _, _, _, hl, _, _⟩ := th_spec ho
  exact hl
set_option maxRecDepth 100000 in
theorem tr_dSor (bs : List Int) (n : Nat) : bodyV Try.prog ESr 30 12 20 [.row n (.bytes bs)] = brT (decide (2000 < (↑n : Int))) (.need ((0 : Int) ≤ bndI none (0 : Int) ∧ bndI none (0 : Int) ≤ bndI (some (IntKind.i64, (2000 : Int))) (↑n : Int) ∧ bndI (some (IntKind.i64, (2000 : Int))) (↑n : Int) ≤ (↑n : Int)) (.need (rdK bs (2000 : Nat) (0 : Int)) (.need (rdK bs (2000 : Nat) ((0 : Int) + (2 : Int))) (.need (rdC bs (2000 : Nat) (alP bs (2000 : Nat) (0 : Int))) (brT (pickI bs 2000 (alP bs 2000 0) 3 == 0) (.need (rdK bs (2000 : Nat) (alP bs (2000 : Nat) (0 : Int) + (1 : Int))) (.need (rdK bs (2000 : Nat) (alP bs (2000 : Nat) (0 : Int) + (1 : Int) + (2 : Int))) (brT (lineBL (alI bs 2000 0 0) (alI bs 2000 0 1) (alI bs 2000 0 2)) (brT (!IntKind.i64.wrap (alI bs 2000 0 0 * rlI bs 2000 (alP bs 2000 0 + 1) 1) == IntKind.i64.wrap (rlI bs 2000 (alP bs 2000 0 + 1) 0 * alI bs 2000 0 1)) (.need (big (IntKind.i64.wrap (IntKind.i64.wrap (alI bs (2000 : Nat) (0 : Int) (2 : Nat) * rlI bs (2000 : Nat) (alP bs (2000 : Nat) (0 : Int) + (1 : Int)) (1 : Nat)) - IntKind.i64.wrap (rlI bs (2000 : Nat) (alP bs (2000 : Nat) (0 : Int) + (1 : Int)) (2 : Nat) * alI bs (2000 : Nat) (0 : Int) (1 : Nat))))) (.need (big (IntKind.i64.wrap (IntKind.i64.wrap (alI bs (2000 : Nat) (0 : Int) (0 : Nat) * rlI bs (2000 : Nat) (alP bs (2000 : Nat) (0 : Int) + (1 : Int)) (1 : Nat)) - IntKind.i64.wrap (rlI bs (2000 : Nat) (alP bs (2000 : Nat) (0 : Int) + (1 : Int)) (0 : Nat) * alI bs (2000 : Nat) (0 : Int) (1 : Nat))))) (.need (¬IntKind.i64.wrap (IntKind.i64.wrap (alI bs (2000 : Nat) (0 : Int) (0 : Nat) * rlI bs (2000 : Nat) (alP bs (2000 : Nat) (0 : Int) + (1 : Int)) (1 : Nat)) - IntKind.i64.wrap (rlI bs (2000 : Nat) (alP bs (2000 : Nat) (0 : Int) + (1 : Int)) (0 : Nat) * alI bs (2000 : Nat) (0 : Int) (1 : Nat))) = (0 : Int)) (.need (big (IntKind.i64.wrap (IntKind.i64.wrap (alI bs (2000 : Nat) (0 : Int) (0 : Nat) * rlI bs (2000 : Nat) (alP bs (2000 : Nat) (0 : Int) + (1 : Int)) (2 : Nat)) - IntKind.i64.wrap (rlI bs (2000 : Nat) (alP bs (2000 : Nat) (0 : Int) + (1 : Int)) (0 : Nat) * alI bs (2000 : Nat) (0 : Int) (2 : Nat))))) (.need (big (IntKind.i64.wrap (IntKind.i64.wrap (alI bs (2000 : Nat) (0 : Int) (0 : Nat) * rlI bs (2000 : Nat) (alP bs (2000 : Nat) (0 : Int) + (1 : Int)) (1 : Nat)) - IntKind.i64.wrap (rlI bs (2000 : Nat) (alP bs (2000 : Nat) (0 : Int) + (1 : Int)) (0 : Nat) * alI bs (2000 : Nat) (0 : Int) (1 : Nat))))) (.need (¬IntKind.i64.wrap (IntKind.i64.wrap (alI bs (2000 : Nat) (0 : Int) (0 : Nat) * rlI bs (2000 : Nat) (alP bs (2000 : Nat) (0 : Int) + (1 : Int)) (1 : Nat)) - IntKind.i64.wrap (rlI bs (2000 : Nat) (alP bs (2000 : Nat) (0 : Int) + (1 : Int)) (0 : Nat) * alI bs (2000 : Nat) (0 : Int) (1 : Nat))) = (0 : Int)) (.fin (.tuple #[.agg #[.int .i64 (alI bs 2000 0 0), .int .i64 (alI bs 2000 0 1), .int .i64 (alI bs 2000 0 2)], .agg #[.int .i64 (qN (IntKind.i64.wrap (IntKind.i64.wrap (alI bs 2000 0 2 * rlI bs 2000 (alP bs 2000 0 + 1) 1) - IntKind.i64.wrap (rlI bs 2000 (alP bs 2000 0 + 1) 2 * alI bs 2000 0 1))) (IntKind.i64.wrap (IntKind.i64.wrap (alI bs 2000 0 0 * rlI bs 2000 (alP bs 2000 0 + 1) 1) - IntKind.i64.wrap (rlI bs 2000 (alP bs 2000 0 + 1) 0 * alI bs 2000 0 1)))), .int .i64 (qD (IntKind.i64.wrap (IntKind.i64.wrap (alI bs 2000 0 2 * rlI bs 2000 (alP bs 2000 0 + 1) 1) - IntKind.i64.wrap (rlI bs 2000 (alP bs 2000 0 + 1) 2 * alI bs 2000 0 1))) (IntKind.i64.wrap (IntKind.i64.wrap (alI bs 2000 0 0 * rlI bs 2000 (alP bs 2000 0 + 1) 1) - IntKind.i64.wrap (rlI bs 2000 (alP bs 2000 0 + 1) 0 * alI bs 2000 0 1)))), .int .i64 (qN (IntKind.i64.wrap (IntKind.i64.wrap (alI bs 2000 0 0 * rlI bs 2000 (alP bs 2000 0 + 1) 2) - IntKind.i64.wrap (rlI bs 2000 (alP bs 2000 0 + 1) 0 * alI bs 2000 0 2))) (IntKind.i64.wrap (IntKind.i64.wrap (alI bs 2000 0 0 * rlI bs 2000 (alP bs 2000 0 + 1) 1) - IntKind.i64.wrap (rlI bs 2000 (alP bs 2000 0 + 1) 0 * alI bs 2000 0 1)))), .int .i64 (qD (IntKind.i64.wrap (IntKind.i64.wrap (alI bs 2000 0 0 * rlI bs 2000 (alP bs 2000 0 + 1) 2) - IntKind.i64.wrap (rlI bs 2000 (alP bs 2000 0 + 1) 0 * alI bs 2000 0 2))) (IntKind.i64.wrap (IntKind.i64.wrap (alI bs 2000 0 0 * rlI bs 2000 (alP bs 2000 0 + 1) 1) - IntKind.i64.wrap (rlI bs 2000 (alP bs 2000 0 + 1) 0 * alI bs 2000 0 1))))]]) []))))))) (.need (rdK bs (2000 : Nat) (alP bs (2000 : Nat) (0 : Int) + (1 : Int) + (4 : Int))) (.need (rdK bs (2000 : Nat) (arP bs (2000 : Nat) (alP bs (2000 : Nat) (0 : Int) + (1 : Int) + (4 : Int)))) (.fin (.tuple #[.agg #[.int .i64 (alI bs 2000 0 0), .int .i64 (alI bs 2000 0 1), .int .i64 (alI bs 2000 0 2)], .agg #[.int .i64 (arN bs 2000 (alP bs 2000 0 + 1 + 4)), .int .i64 (arD bs 2000 (alP bs 2000 0 + 1 + 4)), .int .i64 (arN bs 2000 (arP bs 2000 (alP bs 2000 0 + 1 + 4))), .int .i64 (arD bs 2000 (arP bs 2000 (alP bs 2000 0 + 1 + 4)))]]) [])))) (brT (!IntKind.i64.wrap (1 * rlI bs 2000 (alP bs 2000 0 + 1) 1) == IntKind.i64.wrap (rlI bs 2000 (alP bs 2000 0 + 1) 0 * 1)) (.need (big (IntKind.i64.wrap (IntKind.i64.wrap ((0 : Int) * rlI bs (2000 : Nat) (alP bs (2000 : Nat) (0 : Int) + (1 : Int)) (1 : Nat)) - IntKind.i64.wrap (rlI bs (2000 : Nat) (alP bs (2000 : Nat) (0 : Int) + (1 : Int)) (2 : Nat) * (1 : Int))))) (.need (big (IntKind.i64.wrap (IntKind.i64.wrap ((1 : Int) * rlI bs (2000 : Nat) (alP bs (2000 : Nat) (0 : Int) + (1 : Int)) (1 : Nat)) - IntKind.i64.wrap (rlI bs (2000 : Nat) (alP bs (2000 : Nat) (0 : Int) + (1 : Int)) (0 : Nat) * (1 : Int))))) (.need (¬IntKind.i64.wrap (IntKind.i64.wrap ((1 : Int) * rlI bs (2000 : Nat) (alP bs (2000 : Nat) (0 : Int) + (1 : Int)) (1 : Nat)) - IntKind.i64.wrap (rlI bs (2000 : Nat) (alP bs (2000 : Nat) (0 : Int) + (1 : Int)) (0 : Nat) * (1 : Int))) = (0 : Int)) (.need (big (IntKind.i64.wrap (IntKind.i64.wrap ((1 : Int) * rlI bs (2000 : Nat) (alP bs (2000 : Nat) (0 : Int) + (1 : Int)) (2 : Nat)) - IntKind.i64.wrap (rlI bs (2000 : Nat) (alP bs (2000 : Nat) (0 : Int) + (1 : Int)) (0 : Nat) * (0 : Int))))) (.need (big (IntKind.i64.wrap (IntKind.i64.wrap ((1 : Int) * rlI bs (2000 : Nat) (alP bs (2000 : Nat) (0 : Int) + (1 : Int)) (1 : Nat)) - IntKind.i64.wrap (rlI bs (2000 : Nat) (alP bs (2000 : Nat) (0 : Int) + (1 : Int)) (0 : Nat) * (1 : Int))))) (.need (¬IntKind.i64.wrap (IntKind.i64.wrap ((1 : Int) * rlI bs (2000 : Nat) (alP bs (2000 : Nat) (0 : Int) + (1 : Int)) (1 : Nat)) - IntKind.i64.wrap (rlI bs (2000 : Nat) (alP bs (2000 : Nat) (0 : Int) + (1 : Int)) (0 : Nat) * (1 : Int))) = (0 : Int)) (.fin (.tuple #[.agg #[.int .i64 (alI bs 2000 0 0), .int .i64 (alI bs 2000 0 1), .int .i64 (alI bs 2000 0 2)], .agg #[.int .i64 (qN (IntKind.i64.wrap (IntKind.i64.wrap (0 * rlI bs 2000 (alP bs 2000 0 + 1) 1) - IntKind.i64.wrap (rlI bs 2000 (alP bs 2000 0 + 1) 2 * 1))) (IntKind.i64.wrap (IntKind.i64.wrap (1 * rlI bs 2000 (alP bs 2000 0 + 1) 1) - IntKind.i64.wrap (rlI bs 2000 (alP bs 2000 0 + 1) 0 * 1)))), .int .i64 (qD (IntKind.i64.wrap (IntKind.i64.wrap (0 * rlI bs 2000 (alP bs 2000 0 + 1) 1) - IntKind.i64.wrap (rlI bs 2000 (alP bs 2000 0 + 1) 2 * 1))) (IntKind.i64.wrap (IntKind.i64.wrap (1 * rlI bs 2000 (alP bs 2000 0 + 1) 1) - IntKind.i64.wrap (rlI bs 2000 (alP bs 2000 0 + 1) 0 * 1)))), .int .i64 (qN (IntKind.i64.wrap (IntKind.i64.wrap (1 * rlI bs 2000 (alP bs 2000 0 + 1) 2) - IntKind.i64.wrap (rlI bs 2000 (alP bs 2000 0 + 1) 0 * 0))) (IntKind.i64.wrap (IntKind.i64.wrap (1 * rlI bs 2000 (alP bs 2000 0 + 1) 1) - IntKind.i64.wrap (rlI bs 2000 (alP bs 2000 0 + 1) 0 * 1)))), .int .i64 (qD (IntKind.i64.wrap (IntKind.i64.wrap (1 * rlI bs 2000 (alP bs 2000 0 + 1) 2) - IntKind.i64.wrap (rlI bs 2000 (alP bs 2000 0 + 1) 0 * 0))) (IntKind.i64.wrap (IntKind.i64.wrap (1 * rlI bs 2000 (alP bs 2000 0 + 1) 1) - IntKind.i64.wrap (rlI bs 2000 (alP bs 2000 0 + 1) 0 * 1))))]]) []))))))) (.need (rdK bs (2000 : Nat) (alP bs (2000 : Nat) (0 : Int) + (1 : Int) + (4 : Int))) (.need (rdK bs (2000 : Nat) (arP bs (2000 : Nat) (alP bs (2000 : Nat) (0 : Int) + (1 : Int) + (4 : Int)))) (.fin (.tuple #[.agg #[.int .i64 (alI bs 2000 0 0), .int .i64 (alI bs 2000 0 1), .int .i64 (alI bs 2000 0 2)], .agg #[.int .i64 (arN bs 2000 (alP bs 2000 0 + 1 + 4)), .int .i64 (arD bs 2000 (alP bs 2000 0 + 1 + 4)), .int .i64 (arN bs 2000 (arP bs 2000 (alP bs 2000 0 + 1 + 4))), .int .i64 (arD bs 2000 (arP bs 2000 (alP bs 2000 0 + 1 + 4)))]]) []))))))) (.need (rdK bs (2000 : Nat) (alP bs (2000 : Nat) (0 : Int) + (1 : Int))) (.need (rdK bs (2000 : Nat) (arP bs (2000 : Nat) (alP bs (2000 : Nat) (0 : Int) + (1 : Int)))) (.fin (.tuple #[.agg #[.int .i64 (alI bs 2000 0 0), .int .i64 (alI bs 2000 0 1), .int .i64 (alI bs 2000 0 2)], .agg #[.int .i64 (arN bs 2000 (alP bs 2000 0 + 1)), .int .i64 (arD bs 2000 (alP bs 2000 0 + 1)), .int .i64 (arN bs 2000 (arP bs 2000 (alP bs 2000 0 + 1))), .int .i64 (arD bs 2000 (arP bs 2000 (alP bs 2000 0 + 1)))]]) [])))))))) (.need (rdK bs n (0 : Int)) (.need (rdK bs n ((0 : Int) + (2 : Int))) (.need (rdC bs n (alP bs n (0 : Int))) (brT (pickI bs n (alP bs n 0) 3 == 0) (.need (rdK bs n (alP bs n (0 : Int) + (1 : Int))) (.need (rdK bs n (alP bs n (0 : Int) + (1 : Int) + (2 : Int))) (brT (lineBL (alI bs n 0 0) (alI bs n 0 1) (alI bs n 0 2)) (brT (!IntKind.i64.wrap (alI bs n 0 0 * rlI bs n (alP bs n 0 + 1) 1) == IntKind.i64.wrap (rlI bs n (alP bs n 0 + 1) 0 * alI bs n 0 1)) (.need (big (IntKind.i64.wrap (IntKind.i64.wrap (alI bs n (0 : Int) (2 : Nat) * rlI bs n (alP bs n (0 : Int) + (1 : Int)) (1 : Nat)) - IntKind.i64.wrap (rlI bs n (alP bs n (0 : Int) + (1 : Int)) (2 : Nat) * alI bs n (0 : Int) (1 : Nat))))) (.need (big (IntKind.i64.wrap (IntKind.i64.wrap (alI bs n (0 : Int) (0 : Nat) * rlI bs n (alP bs n (0 : Int) + (1 : Int)) (1 : Nat)) - IntKind.i64.wrap (rlI bs n (alP bs n (0 : Int) + (1 : Int)) (0 : Nat) * alI bs n (0 : Int) (1 : Nat))))) (.need (¬IntKind.i64.wrap (IntKind.i64.wrap (alI bs n (0 : Int) (0 : Nat) * rlI bs n (alP bs n (0 : Int) + (1 : Int)) (1 : Nat)) - IntKind.i64.wrap (rlI bs n (alP bs n (0 : Int) + (1 : Int)) (0 : Nat) * alI bs n (0 : Int) (1 : Nat))) = (0 : Int)) (.need (big (IntKind.i64.wrap (IntKind.i64.wrap (alI bs n (0 : Int) (0 : Nat) * rlI bs n (alP bs n (0 : Int) + (1 : Int)) (2 : Nat)) - IntKind.i64.wrap (rlI bs n (alP bs n (0 : Int) + (1 : Int)) (0 : Nat) * alI bs n (0 : Int) (2 : Nat))))) (.need (big (IntKind.i64.wrap (IntKind.i64.wrap (alI bs n (0 : Int) (0 : Nat) * rlI bs n (alP bs n (0 : Int) + (1 : Int)) (1 : Nat)) - IntKind.i64.wrap (rlI bs n (alP bs n (0 : Int) + (1 : Int)) (0 : Nat) * alI bs n (0 : Int) (1 : Nat))))) (.need (¬IntKind.i64.wrap (IntKind.i64.wrap (alI bs n (0 : Int) (0 : Nat) * rlI bs n (alP bs n (0 : Int) + (1 : Int)) (1 : Nat)) - IntKind.i64.wrap (rlI bs n (alP bs n (0 : Int) + (1 : Int)) (0 : Nat) * alI bs n (0 : Int) (1 : Nat))) = (0 : Int)) (.fin (.tuple #[.agg #[.int .i64 (alI bs n 0 0), .int .i64 (alI bs n 0 1), .int .i64 (alI bs n 0 2)], .agg #[.int .i64 (qN (IntKind.i64.wrap (IntKind.i64.wrap (alI bs n 0 2 * rlI bs n (alP bs n 0 + 1) 1) - IntKind.i64.wrap (rlI bs n (alP bs n 0 + 1) 2 * alI bs n 0 1))) (IntKind.i64.wrap (IntKind.i64.wrap (alI bs n 0 0 * rlI bs n (alP bs n 0 + 1) 1) - IntKind.i64.wrap (rlI bs n (alP bs n 0 + 1) 0 * alI bs n 0 1)))), .int .i64 (qD (IntKind.i64.wrap (IntKind.i64.wrap (alI bs n 0 2 * rlI bs n (alP bs n 0 + 1) 1) - IntKind.i64.wrap (rlI bs n (alP bs n 0 + 1) 2 * alI bs n 0 1))) (IntKind.i64.wrap (IntKind.i64.wrap (alI bs n 0 0 * rlI bs n (alP bs n 0 + 1) 1) - IntKind.i64.wrap (rlI bs n (alP bs n 0 + 1) 0 * alI bs n 0 1)))), .int .i64 (qN (IntKind.i64.wrap (IntKind.i64.wrap (alI bs n 0 0 * rlI bs n (alP bs n 0 + 1) 2) - IntKind.i64.wrap (rlI bs n (alP bs n 0 + 1) 0 * alI bs n 0 2))) (IntKind.i64.wrap (IntKind.i64.wrap (alI bs n 0 0 * rlI bs n (alP bs n 0 + 1) 1) - IntKind.i64.wrap (rlI bs n (alP bs n 0 + 1) 0 * alI bs n 0 1)))), .int .i64 (qD (IntKind.i64.wrap (IntKind.i64.wrap (alI bs n 0 0 * rlI bs n (alP bs n 0 + 1) 2) - IntKind.i64.wrap (rlI bs n (alP bs n 0 + 1) 0 * alI bs n 0 2))) (IntKind.i64.wrap (IntKind.i64.wrap (alI bs n 0 0 * rlI bs n (alP bs n 0 + 1) 1) - IntKind.i64.wrap (rlI bs n (alP bs n 0 + 1) 0 * alI bs n 0 1))))]]) []))))))) (.need (rdK bs n (alP bs n (0 : Int) + (1 : Int) + (4 : Int))) (.need (rdK bs n (arP bs n (alP bs n (0 : Int) + (1 : Int) + (4 : Int)))) (.fin (.tuple #[.agg #[.int .i64 (alI bs n 0 0), .int .i64 (alI bs n 0 1), .int .i64 (alI bs n 0 2)], .agg #[.int .i64 (arN bs n (alP bs n 0 + 1 + 4)), .int .i64 (arD bs n (alP bs n 0 + 1 + 4)), .int .i64 (arN bs n (arP bs n (alP bs n 0 + 1 + 4))), .int .i64 (arD bs n (arP bs n (alP bs n 0 + 1 + 4)))]]) [])))) (brT (!IntKind.i64.wrap (1 * rlI bs n (alP bs n 0 + 1) 1) == IntKind.i64.wrap (rlI bs n (alP bs n 0 + 1) 0 * 1)) (.need (big (IntKind.i64.wrap (IntKind.i64.wrap ((0 : Int) * rlI bs n (alP bs n (0 : Int) + (1 : Int)) (1 : Nat)) - IntKind.i64.wrap (rlI bs n (alP bs n (0 : Int) + (1 : Int)) (2 : Nat) * (1 : Int))))) (.need (big (IntKind.i64.wrap (IntKind.i64.wrap ((1 : Int) * rlI bs n (alP bs n (0 : Int) + (1 : Int)) (1 : Nat)) - IntKind.i64.wrap (rlI bs n (alP bs n (0 : Int) + (1 : Int)) (0 : Nat) * (1 : Int))))) (.need (¬IntKind.i64.wrap (IntKind.i64.wrap ((1 : Int) * rlI bs n (alP bs n (0 : Int) + (1 : Int)) (1 : Nat)) - IntKind.i64.wrap (rlI bs n (alP bs n (0 : Int) + (1 : Int)) (0 : Nat) * (1 : Int))) = (0 : Int)) (.need (big (IntKind.i64.wrap (IntKind.i64.wrap ((1 : Int) * rlI bs n (alP bs n (0 : Int) + (1 : Int)) (2 : Nat)) - IntKind.i64.wrap (rlI bs n (alP bs n (0 : Int) + (1 : Int)) (0 : Nat) * (0 : Int))))) (.need (big (IntKind.i64.wrap (IntKind.i64.wrap ((1 : Int) * rlI bs n (alP bs n (0 : Int) + (1 : Int)) (1 : Nat)) - IntKind.i64.wrap (rlI bs n (alP bs n (0 : Int) + (1 : Int)) (0 : Nat) * (1 : Int))))) (.need (¬IntKind.i64.wrap (IntKind.i64.wrap ((1 : Int) * rlI bs n (alP bs n (0 : Int) + (1 : Int)) (1 : Nat)) - IntKind.i64.wrap (rlI bs n (alP bs n (0 : Int) + (1 : Int)) (0 : Nat) * (1 : Int))) = (0 : Int)) (.fin (.tuple #[.agg #[.int .i64 (alI bs n 0 0), .int .i64 (alI bs n 0 1), .int .i64 (alI bs n 0 2)], .agg #[.int .i64 (qN (IntKind.i64.wrap (IntKind.i64.wrap (0 * rlI bs n (alP bs n 0 + 1) 1) - IntKind.i64.wrap (rlI bs n (alP bs n 0 + 1) 2 * 1))) (IntKind.i64.wrap (IntKind.i64.wrap (1 * rlI bs n (alP bs n 0 + 1) 1) - IntKind.i64.wrap (rlI bs n (alP bs n 0 + 1) 0 * 1)))), .int .i64 (qD (IntKind.i64.wrap (IntKind.i64.wrap (0 * rlI bs n (alP bs n 0 + 1) 1) - IntKind.i64.wrap (rlI bs n (alP bs n 0 + 1) 2 * 1))) (IntKind.i64.wrap (IntKind.i64.wrap (1 * rlI bs n (alP bs n 0 + 1) 1) - IntKind.i64.wrap (rlI bs n (alP bs n 0 + 1) 0 * 1)))), .int .i64 (qN (IntKind.i64.wrap (IntKind.i64.wrap (1 * rlI bs n (alP bs n 0 + 1) 2) - IntKind.i64.wrap (rlI bs n (alP bs n 0 + 1) 0 * 0))) (IntKind.i64.wrap (IntKind.i64.wrap (1 * rlI bs n (alP bs n 0 + 1) 1) - IntKind.i64.wrap (rlI bs n (alP bs n 0 + 1) 0 * 1)))), .int .i64 (qD (IntKind.i64.wrap (IntKind.i64.wrap (1 * rlI bs n (alP bs n 0 + 1) 2) - IntKind.i64.wrap (rlI bs n (alP bs n 0 + 1) 0 * 0))) (IntKind.i64.wrap (IntKind.i64.wrap (1 * rlI bs n (alP bs n 0 + 1) 1) - IntKind.i64.wrap (rlI bs n (alP bs n 0 + 1) 0 * 1))))]]) []))))))) (.need (rdK bs n (alP bs n (0 : Int) + (1 : Int) + (4 : Int))) (.need (rdK bs n (arP bs n (alP bs n (0 : Int) + (1 : Int) + (4 : Int)))) (.fin (.tuple #[.agg #[.int .i64 (alI bs n 0 0), .int .i64 (alI bs n 0 1), .int .i64 (alI bs n 0 2)], .agg #[.int .i64 (arN bs n (alP bs n 0 + 1 + 4)), .int .i64 (arD bs n (alP bs n 0 + 1 + 4)), .int .i64 (arN bs n (arP bs n (alP bs n 0 + 1 + 4))), .int .i64 (arD bs n (arP bs n (alP bs n 0 + 1 + 4)))]]) []))))))) (.need (rdK bs n (alP bs n (0 : Int) + (1 : Int))) (.need (rdK bs n (arP bs n (alP bs n (0 : Int) + (1 : Int)))) (.fin (.tuple #[.agg #[.int .i64 (alI bs n 0 0), .int .i64 (alI bs n 0 1), .int .i64 (alI bs n 0 2)], .agg #[.int .i64 (arN bs n (alP bs n 0 + 1)), .int .i64 (arD bs n (alP bs n 0 + 1)), .int .i64 (arN bs n (arP bs n (alP bs n 0 + 1))), .int .i64 (arD bs n (arP bs n (alP bs n 0 + 1)))]]) []))))))) := by kernel_rfl
/-- The line that the drawn point lies on. -/
def srK (bs : List Int) (l : Nat) (k : Nat) : Int := if lineBL (alI bs l 0 0) (alI bs l 0 1) (alI bs l 0 2) then alI bs l 0 k else if k = 2 then 0 else 1
def srM (bs : List Int) (l : Nat) (k : Nat) : Int := rlI bs l (alP bs l 0 + 1) k
def srD (bs : List Int) (l : Nat) : Int := srK bs l 0 * srM bs l 1 - srM bs l 0 * srK bs l 1
def srX (bs : List Int) (l : Nat) : Int := srK bs l 2 * srM bs l 1 - srM bs l 2 * srK bs l 1
def srY (bs : List Int) (l : Nat) : Int := srK bs l 0 * srM bs l 2 - srM bs l 0 * srK bs l 2
def srA (bs : List Int) (l : Nat) : Int := if pickI bs l (alP bs l 0) 3 = 0 then alP bs l 0 + 1 + 4 else alP bs l 0 + 1
def srP (bs : List Int) (l : Nat) (k : Nat) : Int :=
  if pickI bs l (alP bs l 0) 3 = 0 ∧ srD bs l ≠ 0 then
    match k with
    | 0 => qN (srX bs l) (srD bs l)
    | 1 => qD (srX bs l) (srD bs l)
    | 2 => qN (srY bs l) (srD bs l)
    | _ => qD (srY bs l) (srD bs l)
  else
    match k with
    | 0 => arN bs l (srA bs l)
    | 1 => arD bs l (srA bs l)
    | 2 => arN bs l (arP bs l (srA bs l))
    | _ => arD bs l (arP bs l (srA bs l))
def srV (bs : List Int) (n : Nat) : Value := .tuple #[agg3 (alI bs (rdL n) 0 0) (alI bs (rdL n) 0 1) (alI bs (rdL n) 0 2), .agg #[iv (srP bs (rdL n) 0), iv (srP bs (rdL n) 1), iv (srP bs (rdL n) 2), iv (srP bs (rdL n) 3)]]
theorem fin_srV {bs : List Int} {l : Nat} {a b c d : Int} (h0 : srP bs l 0 = a) (h1 : srP bs l 1 = b) (h2 : srP bs l 2 = c) (h3 : srP bs l 3 = d) : Value.tuple #[.agg #[.int .i64 (alI bs l 0 0), .int .i64 (alI bs l 0 1), .int .i64 (alI bs l 0 2)], .agg #[.int .i64 a, .int .i64 b, .int .i64 c, .int .i64 d]] =
    .tuple #[agg3 (alI bs l 0 0) (alI bs l 0 1) (alI bs l 0 2), .agg #[iv (srP bs l 0), iv (srP bs l 1), iv (srP bs l 2), iv (srP bs l 3)]] := by rw [h0, h1, h2, h3]
theorem sr_tail {k0 k1 k2 m0 m1 m2 : Int} {V : Value} {L : Value} {Y : Tree} (a0 : -2000 ≤ k0 ∧ k0 ≤ 2000) (a1 : -2000 ≤ k1 ∧ k1 ≤ 2000) (a2 : -4000000 ≤ k2 ∧ k2 ≤ 4000000) (c0 : -2000 ≤ m0 ∧ m0 ≤ 2000) (c1 : -2000 ≤ m1 ∧ m1 ≤ 2000) (c2 : -4000000 ≤ m2 ∧ m2 ≤ 4000000)
    (h1 : k0 * m1 - m0 * k1 ≠ 0 → Value.tuple #[L, Value.agg #[Value.int IntKind.i64 (qN (k2 * m1 - m2 * k1) (k0 * m1 - m0 * k1)), Value.int IntKind.i64 (qD (k2 * m1 - m2 * k1) (k0 * m1 - m0 * k1)), Value.int IntKind.i64 (qN (k0 * m2 - m0 * k2) (k0 * m1 - m0 * k1)), Value.int IntKind.i64 (qD (k0 * m2 - m0 * k2) (k0 * m1 - m0 * k1))]] = V)
    (h2 : k0 * m1 - m0 * k1 = 0 → Tree.ok (fun _ _ => False) (fun u _ => u = V) Y) : Tree.ok (fun _ _ => False) (fun u _ => u = V)
      (brT (!IntKind.i64.wrap (k0 * m1) == IntKind.i64.wrap (m0 * k1))
        (Tree.need (big (IntKind.i64.wrap (IntKind.i64.wrap (k2 * m1) - IntKind.i64.wrap (m2 * k1))))
          (Tree.need (big (IntKind.i64.wrap (IntKind.i64.wrap (k0 * m1) - IntKind.i64.wrap (m0 * k1))))
            (Tree.need (¬IntKind.i64.wrap (IntKind.i64.wrap (k0 * m1) - IntKind.i64.wrap (m0 * k1)) = 0)
              (Tree.need (big (IntKind.i64.wrap (IntKind.i64.wrap (k0 * m2) - IntKind.i64.wrap (m0 * k2))))
                (Tree.need (big (IntKind.i64.wrap (IntKind.i64.wrap (k0 * m1) - IntKind.i64.wrap (m0 * k1))))
                  (Tree.need (¬IntKind.i64.wrap (IntKind.i64.wrap (k0 * m1) - IntKind.i64.wrap (m0 * k1)) = 0)
                    (Tree.fin (Value.tuple #[L, Value.agg #[Value.int IntKind.i64 (qN (IntKind.i64.wrap (IntKind.i64.wrap (k2 * m1) - IntKind.i64.wrap (m2 * k1))) (IntKind.i64.wrap (IntKind.i64.wrap (k0 * m1) - IntKind.i64.wrap (m0 * k1)))), Value.int IntKind.i64 (qD (IntKind.i64.wrap (IntKind.i64.wrap (k2 * m1) - IntKind.i64.wrap (m2 * k1))) (IntKind.i64.wrap (IntKind.i64.wrap (k0 * m1) - IntKind.i64.wrap (m0 * k1)))),
                      Value.int IntKind.i64 (qN (IntKind.i64.wrap (IntKind.i64.wrap (k0 * m2) - IntKind.i64.wrap (m0 * k2))) (IntKind.i64.wrap (IntKind.i64.wrap (k0 * m1) - IntKind.i64.wrap (m0 * k1)))), Value.int IntKind.i64 (qD (IntKind.i64.wrap (IntKind.i64.wrap (k0 * m2) - IntKind.i64.wrap (m0 * k2))) (IntKind.i64.wrap (IntKind.i64.wrap (k0 * m1) - IntKind.i64.wrap (m0 * k1))))]]) []))))))) Y) := by
  have p1 := mul_bd (x := k0) (y := m1) 2000 2000 (by omega) (by omega)
  have p2 := mul_bd (x := m0) (y := k1) 2000 2000 (by omega) (by omega)
  have p3 := mul_bd (x := k2) (y := m1) 4000000 2000 (by omega) (by omega)
  have p4 := mul_bd (x := m2) (y := k1) 4000000 2000 (by omega) (by omega)
  have p5 := mul_bd (x := k0) (y := m2) 2000 4000000 (by omega) (by omega)
  have p6 := mul_bd (x := m0) (y := k2) 2000 4000000 (by omega) (by omega)
  simp (disch := omega) only [wr]
  generalize k0 * m1 = x1 at *
  generalize m0 * k1 = x2 at *
  generalize k2 * m1 = x3 at *
  generalize m2 * k1 = x4 at *
  generalize k0 * m2 = x5 at *
  generalize m0 * k2 = x6 at *
  refine brT_ok.2 ⟨fun h => ?_, fun h => ?_⟩
  · have h : x1 ≠ x2 := by simpa using h
    exact ⟨by unfold big; omega, by unfold big; omega, by omega, by unfold big; omega, by unfold big; omega, by omega, h1 (by omega)⟩
  · have h : x1 = x2 := by simpa using h
    exact h2 (by omega)
theorem res_dSor (bs : List Int) (n : Nat) (hb : Bytes bs) (hn : n ≤ bs.length) : Res Try.prog 20 [.row n (.bytes bs)] (srV bs n) := by
  refine bodyV_res mixed ESr_ok (m := 30) (n := 12) rfl ?_
  rw [tr_dSor]
  unfold srV
  refine brT_ok.2 ⟨fun h => ?_, fun h => ?_⟩
  have h := of_decide_eq_true h
  rw [rdL_of h]
  refine ⟨bnd2000 h, ?_⟩
  have hl : 2000 ≤ bs.length := by omega
  clear h hn
  have h2 : (2000 : Nat) < 2001 := by omega
  revert hl h2
  generalize (2000 : Nat) = l
  intro hl h2
  rotate_left
  have h := of_decide_eq_false h
  rw [rdL_no h]
  obtain ⟨l, rfl⟩ : ∃ l, l = n := ⟨n, rfl⟩
  have hl := hn
  have h2 : l < 2001 := by omega
  clear h hn
  all_goals
    have b1 := alP_bd bs l 0
    have b2 := arP_bd bs l (alP bs l 0 + 1 + 4)
    have b3 := arP_bd bs l (alP bs l 0 + 1)
    have key : ∀ p, 0 ≤ p → p ≤ 1000 → rdK bs l p := fun p h3 h4 => rdK0 hb (Nat.le_refl _) hl (by omega) h3 (by omega)
    refine ⟨key _ (by omega) (by omega), key _ (by omega) (by omega), (key _ (by omega) (by omega)).1, brT_ok.2 ⟨fun hq => ?_, fun hq => ?_⟩⟩
    · have hq := beq_iff_eq.1 hq
      have eA : srA bs l = alP bs l 0 + 1 + 4 := by unfold srA; rw [if_pos hq]
      have m := lineB_true (rl_line (key (alP bs l 0 + 1) (by omega) (by omega)) (key (alP bs l 0 + 1 + 2) (by omega) (by omega)))
      have no : srD bs l = 0 → Value.tuple #[.agg #[.int .i64 (alI bs l 0 0), .int .i64 (alI bs l 0 1), .int .i64 (alI bs l 0 2)], .agg #[.int .i64 (arN bs l (alP bs l 0 + 1 + 4)), .int .i64 (arD bs l (alP bs l 0 + 1 + 4)), .int .i64 (arN bs l (arP bs l (alP bs l 0 + 1 + 4))), .int .i64 (arD bs l (arP bs l (alP bs l 0 + 1 + 4)))]] =
          .tuple #[agg3 (alI bs l 0 0) (alI bs l 0 1) (alI bs l 0 2), .agg #[iv (srP bs l 0), iv (srP bs l 1), iv (srP bs l 2), iv (srP bs l 3)]] := fun hd => by
        have hc : ¬ (pickI bs l (alP bs l 0) 3 = 0 ∧ srD bs l ≠ 0) := fun c => c.2 hd
        refine fin_srV ?_ ?_ ?_ ?_ <;> (unfold srP; rw [if_neg hc, eA]) <;> rfl
      have yes : srD bs l ≠ 0 → Value.tuple #[.agg #[.int .i64 (alI bs l 0 0), .int .i64 (alI bs l 0 1), .int .i64 (alI bs l 0 2)], .agg #[.int .i64 (qN (srX bs l) (srD bs l)), .int .i64 (qD (srX bs l) (srD bs l)), .int .i64 (qN (srY bs l) (srD bs l)), .int .i64 (qD (srY bs l) (srD bs l))]] =
          .tuple #[agg3 (alI bs l 0 0) (alI bs l 0 1) (alI bs l 0 2), .agg #[iv (srP bs l 0), iv (srP bs l 1), iv (srP bs l 2), iv (srP bs l 3)]] := fun hd => by
        have hc : pickI bs l (alP bs l 0) 3 = 0 ∧ srD bs l ≠ 0 := ⟨hq, hd⟩
        refine fin_srV ?_ ?_ ?_ ?_ <;> (unfold srP; rw [if_pos hc]) <;> rfl
      refine ⟨key _ (by omega) (by omega), key _ (by omega) (by omega), ?_⟩
      unfold srD srX srY srK srM at yes
      unfold srD srK srM at no
      rcases hv : lineBL (alI bs l 0 0) (alI bs l 0 1) (alI bs l 0 2) with _ | _
      · rw [hv] at yes no
        refine sr_tail (by omega) (by omega) (by omega) (by omega) (by omega) (by omega) yes fun hd => ⟨key _ (by omega) (by omega), key _ (by omega) (by omega), no hd⟩
      · rw [hv] at yes no
        have k := lineB_trueL hv
        refine sr_tail (by omega) (by omega) (by omega) (by omega) (by omega) (by omega) yes fun hd => ⟨key _ (by omega) (by omega), key _ (by omega) (by omega), no hd⟩
    · have hq := beq_eq_false_iff_ne.1 hq
      have eA : srA bs l = alP bs l 0 + 1 := by unfold srA; rw [if_neg hq]
      have hc : ¬ (pickI bs l (alP bs l 0) 3 = 0 ∧ srD bs l ≠ 0) := fun c => hq c.1
      refine ⟨key _ (by omega) (by omega), key _ (by omega) (by omega), ?_⟩
      refine fin_srV ?_ ?_ ?_ ?_ <;> (unfold srP; rw [if_neg hc, eA]) <;> rfl
def pDSr : List DArg → Option (Value × List Prop)
  | [.row n (.bytes bs)] => some (srV bs n, [Bytes bs, n ≤ bs.length])
  | _ => none
def pSd : List DArg → Option (Value × List Prop)
  | [.v (.agg ⟨[.int .i64 a, .int .i64 b, .int .i64 c]⟩), .v (.agg ⟨[.int .i64 x, .int .i64 y]⟩)] => some (iv (sideR a b c x y), [])
  | _ => none
def USr : Tab := fun f ds => match f with
  | 20 => pDSr ds
  | 24 => pSd ds
  | f => U7 f ds
theorem USr_r0 {ds : List DArg} {v : Value} {C : List Prop} (h : pDSr ds = some (v, C)) (hC : AllP C) : Res Try.prog 20 ds v := by
  unfold pDSr at h
  split at h
  · obtain ⟨rfl, rfl⟩ : _ ∧ _ := by simpa using h
    exact res_dSor _ _ hC.1 hC.2.1
  · cases h
theorem USr_r1 {ds : List DArg} {v : Value} {C : List Prop} (h : pSd ds = some (v, C)) (hC : AllP C) : Res Try.prog 24 ds v := by
  unfold pSd at h
  split at h
  · obtain ⟨rfl, rfl⟩ : _ ∧ _ := by simpa using h
    exact res_calls (by kernel_rfl) rfl rfl fun w => implSide_any _ _ _ _ _ w
  · cases h
theorem USr_ok : TabOk Try.prog USr := by
  intro f ds v C h hC
  unfold USr at h
  (try split at h)
  all_goals first | with_reducible exact USr_r0 h hC | with_reducible exact USr_r1 h hC | exact U7_ok _ _ _ _ h hC | cases h
set_option maxRecDepth 100000 in
theorem tr_lSor (bs xs : List Int) : bodyV Try.prog (tabE USr) 30 12 4 [.row bs.length (.bytes bs), .row xs.length (.bytes xs)] = brT (decide (1048576 < (↑bs.length : Int))) (.fin (.bool (true)) []) (brT (decide (1048576 < (↑xs.length : Int))) (.fin (.bool (true)) []) (.need (Bytes (List.drop (0 : Nat) bs)) (.need (bs.length ≤ (List.drop (0 : Nat) bs).length) (brT (!sideRL (alI (List.drop 0 bs) (rdL bs.length) 0 0) (alI (List.drop 0 bs) (rdL bs.length) 0 1) (alI (List.drop 0 bs) (rdL bs.length) 0 2) (srP (List.drop 0 bs) (rdL bs.length) 0) (srP (List.drop 0 bs) (rdL bs.length) 1) (srP (List.drop 0 bs) (rdL bs.length) 2) (srP (List.drop 0 bs) (rdL bs.length) 3) == sideRL (alI (List.drop 0 bs) (rdL bs.length) 0 0) (alI (List.drop 0 bs) (rdL bs.length) 0 1) (alI (List.drop 0 bs) (rdL bs.length) 0 2) (srP (List.drop 0 bs) (rdL bs.length) 0) (srP (List.drop 0 bs) (rdL bs.length) 1) (srP (List.drop 0 bs) (rdL bs.length) 2) (srP (List.drop 0 bs) (rdL bs.length) 3)) (.fin (.bool (sideRL (alI (List.drop 0 bs) (rdL bs.length) 0 0) (alI (List.drop 0 bs) (rdL bs.length) 0 1) (alI (List.drop 0 bs) (rdL bs.length) 0 2) (srP (List.drop 0 bs) (rdL bs.length) 0) (srP (List.drop 0 bs) (rdL bs.length) 1) (srP (List.drop 0 bs) (rdL bs.length) 2) (srP (List.drop 0 bs) (rdL bs.length) 3) == sideRL (alI (List.drop 0 bs) (rdL bs.length) 0 0) (alI (List.drop 0 bs) (rdL bs.length) 0 1) (alI (List.drop 0 bs) (rdL bs.length) 0 2) (srP (List.drop 0 bs) (rdL bs.length) 0) (srP (List.drop 0 bs) (rdL bs.length) 1) (srP (List.drop 0 bs) (rdL bs.length) 2) (srP (List.drop 0 bs) (rdL bs.length) 3))) []) (brT (!lineBL (alI (List.drop 0 bs) (rdL bs.length) 0 0) (alI (List.drop 0 bs) (rdL bs.length) 0 1) (alI (List.drop 0 bs) (rdL bs.length) 0 2)) (.fin (.bool (sideRL (alI (List.drop 0 bs) (rdL bs.length) 0 0) (alI (List.drop 0 bs) (rdL bs.length) 0 1) (alI (List.drop 0 bs) (rdL bs.length) 0 2) (srP (List.drop 0 bs) (rdL bs.length) 0) (srP (List.drop 0 bs) (rdL bs.length) 1) (srP (List.drop 0 bs) (rdL bs.length) 2) (srP (List.drop 0 bs) (rdL bs.length) 3) == sideRL (alI (List.drop 0 bs) (rdL bs.length) 0 0) (alI (List.drop 0 bs) (rdL bs.length) 0 1) (alI (List.drop 0 bs) (rdL bs.length) 0 2) (srP (List.drop 0 bs) (rdL bs.length) 0) (srP (List.drop 0 bs) (rdL bs.length) 1) (srP (List.drop 0 bs) (rdL bs.length) 2) (srP (List.drop 0 bs) (rdL bs.length) 3))) []) (.need (¬(50 : Int) = (0 : Int)) (.need (¬(7 : Int) = (0 : Int)) (.need (¬(50 : Int) = (0 : Int)) (.fin (.bool (sideRL (alI (List.drop 0 bs) (rdL bs.length) 0 0) (alI (List.drop 0 bs) (rdL bs.length) 0 1) (alI (List.drop 0 bs) (rdL bs.length) 0 2) (IntKind.i64.wrap ((↑xs.length : Int).tmod 50 - 20)) 1 (IntKind.i64.wrap ((IntKind.i64.wrap ((↑xs.length : Int).tdiv 7)).tmod 50 - 20)) 1 == sideR (alI (List.drop 0 bs) (rdL bs.length) 0 0) (alI (List.drop 0 bs) (rdL bs.length) 0 1) (alI (List.drop 0 bs) (rdL bs.length) 0 2) (IntKind.i64.wrap ((↑xs.length : Int).tmod 50 - 20)) (IntKind.i64.wrap ((IntKind.i64.wrap ((↑xs.length : Int).tdiv 7)).tmod 50 - 20)))) []))))))))) := by kernel_rfl
theorem lineB_of {a b c : Int} (h : lineBL a b c = true) : lineB a b c = true := by
  have k := lineB_trueL h
  rw [lineB_mk k]
  rw [lineB_mkL k] at h
  exact h
theorem gI_one (n : Int) : gI n 1 = 1 := by unfold gI; simp
/-- A whole point as fractions has the side of the point. -/
theorem sr_whole {a b c x y : Int} (h : lineBL a b c = true) (hx : -50 ≤ x ∧ x ≤ 50) (hy : -50 ≤ y ∧ y ≤ 50) : sideRL a b c x 1 y 1 = sideR a b c x y := by
  have r : ∀ z : Int, -50 ≤ z ∧ z ≤ 50 → ratB z 1 = true ∧ reachB z 1 = true := fun z hz => by
    refine ⟨?_, ?_⟩
    · rw [ratB_mk (by omega) (by omega) (by omega) (by omega), gI_one]
      rfl
    · unfold reachB
      simp
      omega
  have u1 : uI 1 1 = 1 := by decide
  have v1 : vI 1 1 = 1 := by decide
  have l1 : lcmI 1 1 = 1 := by decide
  have hs : solB x 1 y 1 = true := by
    unfold solB
    rw [(r x hx).1, (r x hx).2, (r y hy).1, (r y hy).2, l1]
    rfl
  have hp : ptB x y = true := decide_eq_true (by omega)
  unfold sideRL sideR sideJ
  rw [h, hs, lineB_of h, hp, u1, v1]
  simp only [Bool.and_self, if_true, Int.mul_one]
  unfold cmpI sgn
  split <;> (try split) <;> (try split) <;> (try split) <;> first | rfl | omega
theorem law_sideOfRat (bs xs : List Int) (hb : Bytes bs) (_ : bs.length ≤ maxLen) (_ : Bytes xs) (_ : xs.length ≤ maxLen) : Res Try.prog 4 [.row bs.length (.bytes bs), .row xs.length (.bytes xs)] (.bool true) := by
  refine bodyV_res mixed (tabE_ok USr_ok) (m := 30) (n := 12) rfl ?_
  rw [tr_lSor]
  simp only [List.drop_zero]
  have hx : ¬ 1048576 < (xs.length : Int) → (-50 ≤ IntKind.i64.wrap ((xs.length : Int).tmod 50 - 20) ∧ IntKind.i64.wrap ((xs.length : Int).tmod 50 - 20) ≤ 50) ∧ (-50 ≤ IntKind.i64.wrap ((IntKind.i64.wrap ((xs.length : Int).tdiv 7)).tmod 50 - 20) ∧ IntKind.i64.wrap ((IntKind.i64.wrap ((xs.length : Int).tdiv 7)).tmod 50 - 20) ≤ 50) := fun hn => by
    have e1 : (xs.length : Int).tmod 50 = (xs.length : Int) % 50 := Int.tmod_eq_emod_of_nonneg (by omega)
    have e2 : (xs.length : Int).tdiv 7 = (xs.length : Int) / 7 := Int.tdiv_eq_ediv_of_nonneg (by omega)
    have w1 : IntKind.i64.wrap ((xs.length : Int) / 7) = (xs.length : Int) / 7 := wr (by omega)
    have e3 : ((xs.length : Int) / 7).tmod 50 = ((xs.length : Int) / 7) % 50 := Int.tmod_eq_emod_of_nonneg (by omega)
    rw [e1, e2, w1, e3, wr (x := (xs.length : Int) % 50 - 20) (by omega), wr (x := (xs.length : Int) / 7 % 50 - 20) (by omega)]
    omega
  generalize IntKind.i64.wrap ((xs.length : Int).tmod 50 - 20) = x at *
  generalize IntKind.i64.wrap ((IntKind.i64.wrap ((xs.length : Int).tdiv 7)).tmod 50 - 20) = y at *
  generalize alI bs (rdL bs.length) 0 0 = a
  generalize alI bs (rdL bs.length) 0 1 = b
  generalize alI bs (rdL bs.length) 0 2 = c
  refine brT_ok.2 ⟨fun _ => rfl, fun _ => brT_ok.2 ⟨fun _ => rfl, fun hn => ?_⟩⟩
  obtain ⟨h1, h2⟩ := hx (of_decide_eq_false hn)
  rcases hl : lineBL a b c with _ | _
  · simp [brT_ok, Tree.ok, hb]
  · have k := sr_whole hl h1 h2
    simp [brT_ok, Tree.ok, hb, k]
end Go.Proofs.Ytblpldapmmoheab
