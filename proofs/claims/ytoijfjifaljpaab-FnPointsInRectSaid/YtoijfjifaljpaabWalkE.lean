/-
  Contracts: fractions in lowest terms, valid fractions, the program's and the model's. Written by an AI agent.
-/
import Derived.Test.YtoijfjifaljpaabWalkD
namespace Go.Proofs.Ytoijfjifaljpaab
open Go.RowKit

theorem q0 {P : Program} {f : FuncId} {args : Array Value} {w : World} {v : Value} (h : Calls P f args w fun e w' => e = .returned v ∧ w = w') : Calls P f args w fun e w' => e = .returned v ∧ w' = w :=
  h.mono fun _ _ ⟨a, b⟩ => ⟨a, b.symm⟩
/-- A cell that was just written. -/
theorem set_same {w : World} {a : Addr} {u : Value} (v : Value) (c : w.cell? a = some u) : (w.setCell a v).cell? a = some v := World.cell?_setCell_same w a v c
theorem set_next {w : World} {g : Nat} {u : Value} (v : Value) (c : w.cell? ⟨g, 1, none⟩ = some u) : (w.setCell ⟨g, 0, none⟩ v).cell? ⟨g, 1, none⟩ = some u :=
  (World.cell?_setCell_other w ⟨g, 0, none⟩ ⟨g, 1, none⟩ v (by simp)).trans c
theorem inRange_is (b : Bool) (n lo hi : Int) (w : World) (h : (decide (lo ≤ n) && decide (n ≤ hi)) = b) :
    Calls Try.prog 88 #[.int .i64 n, .int .i64 lo, .int .i64 hi] w fun e w' => e = .returned (.bool b) ∧ w = w' := by
  subst h
  exact inRange_any n lo hi w
theorem within_is (b : Bool) (n hi : Int) (w : World) (h0 : -4611686018427387904 ≤ hi) (h1 : hi ≤ 4611686018427387904) (h : (decide (-hi ≤ n) && decide (n ≤ hi)) = b) :
    Calls Try.prog 66 #[.int .i64 n, .int .i64 hi] w fun e w' => e = .returned (.bool b) ∧ w = w' := by
  subst h
  exact within_any n hi w h0 h1
theorem in_yes {n lo hi : Int} (h : lo ≤ n ∧ n ≤ hi) : (decide (lo ≤ n) && decide (n ≤ hi)) = true := by simp [h.1, h.2]
theorem in_no {n lo hi : Int} (h : ¬ (lo ≤ n ∧ n ≤ hi)) : (decide (lo ≤ n) && decide (n ≤ hi)) = false := by
  simp
  omega

theorem keepS {W : World} {b i : Nat} {v : Value} {o o' : Obj} (hb : b < W.heap.size) (h : (W.alloc o).cell? ⟨b, i, none⟩ = some v) : (W.alloc o').cell? ⟨b, i, none⟩ = some v := by
  rw [World.cell?_alloc_lt W _ ⟨b, i, none⟩ hb] at h ⊢
  exact h
theorem keepF {W : World} {b i g j : Nat} {u v : Value} (hb : b < g) (h : W.cell? ⟨b, i, none⟩ = some v) : (W.setCell ⟨g, j, none⟩ u).cell? ⟨b, i, none⟩ = some v :=
  (World.cell?_setCell_other _ ⟨g, j, none⟩ ⟨b, i, none⟩ u (fun e => by injection e; omega)).trans h
theorem pair_0 {w : World} {g : Nat} {u : Value} (v0 v1 : Value) (c : w.cell? ⟨g, 0, none⟩ = some u) : ((w.setCell ⟨g, 0, none⟩ v0).setCell ⟨g, 1, none⟩ v1).cell? ⟨g, 0, none⟩ = some v0 :=
  (World.cell?_setCell_other _ ⟨g, 1, none⟩ ⟨g, 0, none⟩ v1 (by simp)).trans (set_same v0 c)
theorem pair_1 {w : World} {g : Nat} {u : Value} (v0 v1 : Value) (c : w.cell? ⟨g, 1, none⟩ = some u) : ((w.setCell ⟨g, 0, none⟩ v0).setCell ⟨g, 1, none⟩ v1).cell? ⟨g, 1, none⟩ = some v1 :=
  set_same v1 (set_next v0 c)
theorem pair_far {w : World} {g b o : Nat} {u : Value} (v0 v1 : Value) (h : b < g ∨ g < b) (c : w.cell? ⟨b, o, none⟩ = some u) : ((w.setCell ⟨g, 0, none⟩ v0).setCell ⟨g, 1, none⟩ v1).cell? ⟨b, o, none⟩ = some u :=
  (World.cell?_setCell_other _ ⟨g, 1, none⟩ ⟨b, o, none⟩ v1 (fun e => by injection e; omega)).trans ((World.cell?_setCell_other _ ⟨g, 0, none⟩ ⟨b, o, none⟩ v0 (fun e => by injection e; omega)).trans c)
theorem pair_below {a w : World} {g : Nat} (v0 v1 : Value) (h : a.heap.size ≤ g) (hb : Below a.heap.size a w) : Below a.heap.size a ((w.setCell ⟨g, 0, none⟩ v0).setCell ⟨g, 1, none⟩ v1) :=
  (hb.setCell (p := ⟨g, 0, none⟩) h v0).setCell (p := ⟨g, 1, none⟩) h v1
end Go.Proofs.Ytoijfjifaljpaab
