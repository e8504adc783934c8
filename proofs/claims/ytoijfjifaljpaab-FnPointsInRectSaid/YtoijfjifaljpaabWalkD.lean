/-
  Contracts: the greatest common divisor, the program's over a row of numbers and the model's over two. Written by an AI agent.
-/
import Derived.Test.YtoijfjifaljpaabWalkC
import Derived.Test.YtoijfjifaljpaabMath
import Derived.LoopTactic
namespace Go.Proofs.Ytoijfjifaljpaab
open Go.RowKit

/-- The slice's places hold the numbers Z k. -/
def Ints (w : World) (B : Nat) (A : Option Addr) (n : Nat) (Z : Nat → Int) : Prop :=
  ∀ k, k < n → ∃ b off, A = some ⟨b, off, none⟩ ∧ b < B ∧ w.cell? ⟨b, off + k, none⟩ = some (.int .i64 (Z k))
theorem Ints.below {w w' : World} {B : Nat} {A : Option Addr} {n : Nat} {Z : Nat → Int} (h : Ints w B A n Z) (hb : Below B w w') : Ints w' B A n Z := by
  intro k hk
  obtain ⟨b, off, hA, hB, h0⟩ := h k hk
  exact ⟨b, off, hA, hB, (hb.cell (p := ⟨b, _, none⟩) hB).trans h0⟩

/-- What the rounds of Euclid's loop leave alone. -/
def GI (a b G : Int) : Prop := gI a b = G
def GA (a G : Int) : Prop := (a.natAbs : Int) = G
theorem GI.next {a b G : Int} (h : GI a b G) : GI b (a.tmod b) G := (gI_step a b).trans h
theorem GI.last {a G : Int} (h : GI a 0 G) : GA a G := (gI_zero a).symm.trans h

theorem ints2 {w : World} {g : Nat} {a b : Int} (hg : g < w.heap.size) (h0 : w.cell? ⟨g, 0, none⟩ = some (.int .i64 a)) (h1 : w.cell? ⟨g, 1, none⟩ = some (.int .i64 b)) : Ints w w.heap.size (some ⟨g, 0, none⟩) 2 (pick2 a b) := by
  intro k hk
  match k, hk with
  | 0, _ => exact ⟨g, 0, rfl, hg, h0⟩
  | 1, _ => exact ⟨g, 0, rfl, hg, h1⟩
theorem gL2 (a b : Int) : gL (pick2 a b) 2 = gI a b := by
  show gI (gI 0 a) b = gI a b
  rw [gI_zero_left, gI_abs]
theorem GI.step {a b G : Int} (h : GI a b G) (h0 : 0 ≤ a) : GI b (a % b) G := by
  rw [← Int.tmod_eq_emod_of_nonneg h0]
  exact h.next
theorem abs_any (n : Int) (w : World) (h : -9223372036854775807 ≤ n) :
    Calls Try.prog 121 #[.int .i64 n] w fun e w' => e = .returned (.int .i64 (n.natAbs : Int)) ∧ w = w' := by
  by_cases h1 : n < 0
  · go_enter Try.func121, Try.ntmps121
    go_wp2
    go_ret
    exact ⟨ret_int (by omega), rfl⟩
  · go_enter Try.func121, Try.ntmps121
    go_wp2
    go_ret
    exact ⟨ret_int (by omega), rfl⟩
end Go.Proofs.Ytoijfjifaljpaab
