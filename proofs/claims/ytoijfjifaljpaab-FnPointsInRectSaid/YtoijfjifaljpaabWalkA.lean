/-
  Contracts of the small functions on points: in range, valid, Cross, Orient, SquaredDistance, the program's and the model's. Written by an AI agent.
-/
import Derived.Test.YtoijfjifaljpaabProg
import Derived.WalkKit
import Derived.WalkSpells
import Derived.WalkLawsBesides
import Derived.Lib.Hide
import Derived.Deep.QuietTactic
import Derived.BigQuiet
import Derived.KernelRfl
namespace Go.Proofs.Ytoijfjifaljpaab
open Go.RowKit

/-- A value in place of another one that is equal. -/
theorem ret_of {v v' : Value} (h : v = v') : Ending.returned v = .returned v' := by rw [h]
theorem ret_bool {a b : Bool} (h : a = b) : Ending.returned (.bool a) = .returned (.bool b) := by rw [h]
theorem ret_int {k : IntKind} {a b : Int} (h : a = b) : Ending.returned (.int k a) = .returned (.int k b) := by rw [h]

/-- What was there is as it was, behind a callee of which that alone is known. -/
theorem bcell {W w1 : World} (hb : Below W.heap.size W w1) : (∀ b o, b < W.heap.size → w1.cell? ⟨b, o, none⟩ = W.cell? ⟨b, o, none⟩) ∧ (∀ b o, b < W.heap.size → w1.frozen? ⟨b, o, none⟩ = W.frozen? ⟨b, o, none⟩) :=
  ⟨fun b o h => hb.cell (p := ⟨b, o, none⟩) h, fun b o h => hb.frozen (p := ⟨b, o, none⟩) h⟩
theorem bt {B : Nat} {a b c : World} (h : Below B a b) (k : Below b.heap.size b c) (hB : B ≤ b.heap.size) : Below B a c := h.trans (k.mono hB)

theorem na {a w : World} (h : Below a.heap.size a w) (o : Obj) : Below a.heap.size a (w.alloc o) := h.alloc h.size o
theorem nt {a b c : World} (h : Below a.heap.size a b) (k : Below b.heap.size b c) : Below a.heap.size a c := h.trans (k.mono h.size)
theorem nd {a w : World} (h : Below a.heap.size a w) (n : Nat) : Below a.heap.size a (w.drewN n) := ⟨h.os, h.tape, h.output, h.size, h.block⟩
theorem nr (a : World) : Below a.heap.size a a := Below.refl _ _

/-- A cell that is there is as it was, behind a callee that leaves alone what was there. -/
theorem keep1 {W W' : World} {a : Addr} {v : Value} (hx : Below W.heap.size W W') (h : W.cell? a = some v) : W'.cell? a = some v :=
  (hx.cell (World.block_lt_of_cell? W a h)).trans h

theorem keepA {W : World} {a : Addr} {v : Value} (o : Obj) (h : W.cell? a = some v) : (W.alloc o).cell? a = some v :=
  (World.cell?_alloc_lt W o a (World.block_lt_of_cell? W a h)).trans h

/-- The same, and that the first blocks from n on are still there. -/
theorem bc1 {W w1 : World} (n : Nat) (hb : Below W.heap.size W w1) (hn : n + 1 ≤ W.heap.size) : (∀ b o, b < W.heap.size → w1.cell? ⟨b, o, none⟩ = W.cell? ⟨b, o, none⟩) ∧ (∀ b o, b < W.heap.size → w1.frozen? ⟨b, o, none⟩ = W.frozen? ⟨b, o, none⟩) ∧ n < w1.heap.size :=
  ⟨(bcell hb).1, (bcell hb).2, by have := hb.size; omega⟩
theorem bc2 {W w1 : World} (n : Nat) (hb : Below W.heap.size W w1) (hn : n + 2 ≤ W.heap.size) : (∀ b o, b < W.heap.size → w1.cell? ⟨b, o, none⟩ = W.cell? ⟨b, o, none⟩) ∧ (∀ b o, b < W.heap.size → w1.frozen? ⟨b, o, none⟩ = W.frozen? ⟨b, o, none⟩) ∧ n < w1.heap.size ∧ n + 1 < w1.heap.size :=
  ⟨(bcell hb).1, (bcell hb).2, by have := hb.size; omega, by have := hb.size; omega⟩
theorem bc3 {W w1 : World} (n : Nat) (hb : Below W.heap.size W w1) (hn : n + 3 ≤ W.heap.size) : (∀ b o, b < W.heap.size → w1.cell? ⟨b, o, none⟩ = W.cell? ⟨b, o, none⟩) ∧ (∀ b o, b < W.heap.size → w1.frozen? ⟨b, o, none⟩ = W.frozen? ⟨b, o, none⟩) ∧ n < w1.heap.size ∧ n + 1 < w1.heap.size ∧ n + 1 + 1 < w1.heap.size :=
  ⟨(bcell hb).1, (bcell hb).2, by have := hb.size; omega, by have := hb.size; omega, by have := hb.size; omega⟩

/-- Both coordinates are in range. -/
def ptB (x y : Int) : Bool := decide (-1000 ≤ x ∧ x ≤ 1000 ∧ -1000 ≤ y ∧ y ≤ 1000)
theorem ptB_true {x y : Int} (h : ptB x y = true) : -1000 ≤ x ∧ x ≤ 1000 ∧ -1000 ≤ y ∧ y ≤ 1000 := of_decide_eq_true h
theorem ptB_of {x y : Int} : ptB x y = (decide (-1000 ≤ x) && decide (x ≤ 1000) && (decide (-1000 ≤ y) && decide (y ≤ 1000))) := by
  unfold ptB
  rw [Bool.eq_iff_iff]
  simp
  omega

theorem inRange_any (n lo hi : Int) (w : World) :
    Calls Try.prog 88 #[.int .i64 n, .int .i64 lo, .int .i64 hi] w fun e w' => e = .returned (.bool (decide (lo ≤ n) && decide (n ≤ hi))) ∧ w = w' := by
  go_enter Try.func88, Try.ntmps88
  go_wp2
  all_goals go_ret
  all_goals simp
  all_goals omega
theorem within_any (n hi : Int) (w : World) (h0 : -4611686018427387904 ≤ hi) (h1 : hi ≤ 4611686018427387904) :
    Calls Try.prog 66 #[.int .i64 n, .int .i64 hi] w fun e w' => e = .returned (.bool (decide (-hi ≤ n) && decide (n ≤ hi))) ∧ w = w' := by
  go_enter Try.func66, Try.ntmps66
  go_wp2
  all_goals go_ret
  all_goals simp
  all_goals omega
theorem specValid_any (x y : Int) (w : World) :
    Calls Try.prog 102 #[.agg #[.int .i64 x, .int .i64 y]] w fun e w' => e = .returned (.bool (ptB x y)) ∧ Below w.heap.size w w' := by
  have ha : Below w.heap.size w (w.alloc (.cells #[.int .i64 x, .int .i64 y] 25)) := (Below.refl _ _).alloc (Nat.le_refl _) _
  rw [ptB_of]
  go_enter Try.func102, Try.ntmps102
  go_wp2_with (go_at_call 88; refine (inRange_any _ _ _ _).mono ?_; rintro e w' ⟨rfl, rfl⟩)
  all_goals go_ret
  all_goals refine ⟨ret_bool ?_, ha⟩
  all_goals simp
  all_goals omega
theorem implValid_any (x y : Int) (w : World) :
    Calls Try.prog 20 #[.agg #[.int .i64 x, .int .i64 y]] w fun e w' => e = .returned (.bool (ptB x y)) ∧ Below w.heap.size w w' := by
  have ha : Below w.heap.size w (w.alloc (.cells #[.int .i64 x, .int .i64 y] 25)) := (Below.refl _ _).alloc (Nat.le_refl _) _
  rw [ptB_of]
  go_enter Try.func20, Try.ntmps20
  go_wp2_with (go_at_call 66; refine (within_any _ _ _ (by omega) (by omega)).mono ?_; rintro e w' ⟨rfl, rfl⟩)
  all_goals go_ret
  all_goals refine ⟨ret_bool ?_, ha⟩
  all_goals simp
  all_goals omega
theorem toPoint_any (x y : Int) (w : World) :
    Calls Try.prog 43 #[.agg #[.int .i64 x, .int .i64 y]] w fun e w' => e = .returned (.agg #[.int .i64 x, .int .i64 y]) ∧ Below w.heap.size w w' := by
  go_enter Try.func43, Try.ntmps43
  go_wp2
  exact bodyPost_ret (v := .agg #[.int .i64 x, .int .i64 y]) (by simp [results, Try.results43, go_sem]) rfl ⟨rfl, (((Below.refl _ _).alloc (by simp) _).alloc (by simp) _).alloc (by simp; omega) _⟩
end Go.Proofs.Ytoijfjifaljpaab
