/-
  Three drawn points, as a table's entry. Written by an AI agent.
-/
import Derived.Test.YtieibbdfdepmbaaRdB
namespace Go.Proofs.Ytieibbdfdepmbaa
set_option linter.all false
open Go.RowKit

/-- How many bytes are read. -/
def rdL (n : Nat) : Nat := min n 2000
theorem rdL_of {n : Nat} (h : 2000 < (n : Int)) : rdL n = 2000 := by unfold rdL; omega
theorem rdL_no {n : Nat} (h : ¬ 2000 < (n : Int)) : rdL n = n := by unfold rdL; omega
theorem rdK0 {bs : List Int} {n : Nat} (h : Bytes bs) (hn : n ≤ bs.length) {l : Nat} (hl : l ≤ n) (h2 : l ≤ 2000) {p : Int} (h3 : 0 ≤ p) (h4 : p ≤ 900000) : rdK bs l p :=
  ⟨⟨by omega, h2, h3, by omega, h⟩, h4⟩
theorem bnd2000 {n : Nat} (h : 2000 < (n : Int)) : (0 : Int) ≤ bndI none (0 : Int) ∧ bndI none (0 : Int) ≤ bndI (some (IntKind.i64, (2000 : Int))) (↑n : Int) ∧ bndI (some (IntKind.i64, (2000 : Int))) (↑n : Int) ≤ (↑n : Int) := by
  refine ⟨Int.le_refl _, ?_, ?_⟩
  · show (0 : Int) ≤ 2000; omega
  · show (2000 : Int) ≤ n; omega
abbrev agg2 (x y : Int) : Value := .agg #[.int .i64 x, .int .i64 y]
/-- The coordinates of the three points. -/
def d3 (bs : List Int) (n : Nat) : Nat → Int
  | 0 => apX bs (rdL n) 0
  | 1 => apY bs (rdL n) 0
  | 2 => apX bs (rdL n) (apP bs (rdL n) 0)
  | 3 => apY bs (rdL n) (apP bs (rdL n) 0)
  | 4 => apX bs (rdL n) (apP bs (rdL n) (apP bs (rdL n) 0))
  | _ => apY bs (rdL n) (apP bs (rdL n) (apP bs (rdL n) 0))
/-- The three points. -/
def d3V (bs : List Int) (n : Nat) : Value := .tuple #[agg2 (d3 bs n 0) (d3 bs n 1), agg2 (d3 bs n 2) (d3 bs n 3), agg2 (d3 bs n 4) (d3 bs n 5)]
theorem res_three (bs : List Int) (n : Nat) (hb : Bytes bs) (hn : n ≤ bs.length) : Res Try.prog 87 [.row n (.bytes bs)] (d3V bs n) := by
  refine bodyX_res mixed ER3_ok (m := 30) (n := 12) rfl ?_
  rw [tr_three]
  have key : ∀ l, l ≤ n → l ≤ 2000 → rdK bs l 0 ∧ rdK bs l (apP bs l 0) ∧ rdK bs l (apP bs l (apP bs l 0)) := fun l h1 h2 => by
    have b1 := apP_bd bs l 0
    have b2 := apP_bd bs l (apP bs l 0)
    exact ⟨rdK0 hb hn h1 h2 (by omega) (by omega), rdK0 hb hn h1 h2 (by omega) (by omega), rdK0 hb hn h1 h2 (by omega) (by omega)⟩
  refine brT_ok.2 ⟨fun h => ?_, fun h => ?_⟩
  · have h := of_decide_eq_true h
    obtain ⟨k1, k2, k3⟩ := key 2000 (by omega) (by omega)
    exact ⟨bnd2000 h, k1, k2, k3, by show _ = d3V bs n; unfold d3V; simp only [d3]; rw [rdL_of h]⟩
  · have h := of_decide_eq_false h
    obtain ⟨k1, k2, k3⟩ := key n (by omega) (by omega)
    exact ⟨k1, k2, k3, by show _ = d3V bs n; unfold d3V; simp only [d3]; rw [rdL_no h]⟩
def pThree : List DArg → Option (Value × List Prop)
  | [.row n (.bytes bs)] => some (d3V bs n, [Bytes bs, n ≤ bs.length])
  | _ => none
end Go.Proofs.Ytieibbdfdepmbaa
