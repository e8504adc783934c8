/-
  Segments: valid segments, points on segments; the program's and the model's. Written by an AI agent.
-/
import Derived.Test.YtblpldapmmoheabBa
import Derived.Deep.RegionHeld3
import Derived.Laws.StructEq
namespace Go.Proofs.Ytblpldapmmoheab
open Go.RowKit

theorem quad_0 {W : World} {g : Nat} {u : Value} (v0 : Value) (c : W.cell? ⟨g, 0, none⟩ = some u) : (W.setCell ⟨g, 0, none⟩ v0).cell? ⟨g, 0, none⟩ = some v0 := set_same v0 c
theorem quad_1 {W : World} {g : Nat} {u : Value} (v0 v1 : Value) (c : W.cell? ⟨g, 1, none⟩ = some u) : ((W.setCell ⟨g, 0, none⟩ v0).setCell ⟨g, 1, none⟩ v1).cell? ⟨g, 1, none⟩ = some v1 :=
  set_same v1 (set_next v0 c)
theorem quad_2 {W : World} {g : Nat} {u : Value} (v0 v1 v2 : Value) (c : W.cell? ⟨g, 2, none⟩ = some u) : (((W.setCell ⟨g, 0, none⟩ v0).setCell ⟨g, 1, none⟩ v1).setCell ⟨g, 2, none⟩ v2).cell? ⟨g, 2, none⟩ = some v2 :=
  set_same v2 ((World.cell?_setCell_other _ ⟨g, 1, none⟩ ⟨g, 2, none⟩ v1 (by simp)).trans ((World.cell?_setCell_other _ ⟨g, 0, none⟩ ⟨g, 2, none⟩ v0 (by simp)).trans c))
theorem quad_3 {W : World} {g : Nat} {u : Value} (v0 v1 v2 v3 : Value) (c : W.cell? ⟨g, 3, none⟩ = some u) : ((((W.setCell ⟨g, 0, none⟩ v0).setCell ⟨g, 1, none⟩ v1).setCell ⟨g, 2, none⟩ v2).setCell ⟨g, 3, none⟩ v3).cell? ⟨g, 3, none⟩ = some v3 :=
  set_same v3 ((World.cell?_setCell_other _ ⟨g, 2, none⟩ ⟨g, 3, none⟩ v2 (by simp)).trans ((World.cell?_setCell_other _ ⟨g, 1, none⟩ ⟨g, 3, none⟩ v1 (by simp)).trans ((World.cell?_setCell_other _ ⟨g, 0, none⟩ ⟨g, 3, none⟩ v0 (by simp)).trans c)))
theorem quad_below {a W : World} {g : Nat} (v0 v1 v2 v3 : Value) (h : a.heap.size ≤ g) (hb : Below a.heap.size a W) : Below a.heap.size a ((((W.setCell ⟨g, 0, none⟩ v0).setCell ⟨g, 1, none⟩ v1).setCell ⟨g, 2, none⟩ v2).setCell ⟨g, 3, none⟩ v3) :=
  (((hb.setCell (p := ⟨g, 0, none⟩) h v0).setCell (p := ⟨g, 1, none⟩) h v1).setCell (p := ⟨g, 2, none⟩) h v2).setCell (p := ⟨g, 3, none⟩) h v3
/-- Two points are equal. -/
def eqB (ax ay bx b_y : Int) : Bool := ax == bx && ay == b_y
theorem run_neq_pt (ax ay bx b_y : Int) (w : World) : (binOp .neq 40 (.agg #[.int .i64 ax, .int .i64 ay]) (.agg #[.int .i64 bx, .int .i64 b_y])).run Try.prog w = .ok (.bool (!(eqB ax ay bx b_y))) w := by
  have hS : Try.prog.underlying 40 = some (.struct (Try.prog.fieldsOf 40)) := by kernel_rfl
  have hp : Try.prog.stoodInHeld 40 = false := by kernel_rfl
  have u3 := Try.underlying3
  rw [run_neq_struct, show (10000 : Nat) = 9999 + 1 from rfl, run_equalIn_agg w 9999 40 _ _ hS hp]
  simp only [Program.fieldsOf, Try.underlying40, eqB]
  go_simp
  by_cases h1 : ax = bx <;> by_cases h2 : ay = b_y <;> simp [h1, h2]
theorem guard_pt (op : BinOp) (x y : Operand) (xs ys : Array Value) (w : World) : (eqGuard op 40 x y (.agg xs) (.agg ys)).run Try.prog w = .ok () w :=
  run_eqGuard_agg w op 40 x y xs ys (by kernel_rfl)

def segB (ax ay bx b_y : Int) : Bool := ptB ax ay && ptB bx b_y && !(eqB ax ay bx b_y)
theorem segB_true {ax ay bx b_y : Int} (h : segB ax ay bx b_y = true) : ptB ax ay = true ∧ ptB bx b_y = true ∧ eqB ax ay bx b_y = false := by
  unfold segB at h
  obtain ⟨h1, h2, h3⟩ := and3 h
  exact ⟨h1, h2, by simpa using h3⟩
theorem segB_no {ax ay bx b_y : Int} (h : (ptB ax ay && ptB bx b_y) = false) : segB ax ay bx b_y = false := by unfold segB; rw [h]; rfl
theorem segB_yes {ax ay bx b_y : Int} (h : (ptB ax ay && ptB bx b_y) = true) : segB ax ay bx b_y = !(eqB ax ay bx b_y) := by unfold segB; rw [h]; rfl
theorem implSeg_any (ax ay bx b_y : Int) (w : World) :
    Calls Try.prog 88 #[.agg #[.int .i64 ax, .int .i64 ay, .int .i64 bx, .int .i64 b_y]] w fun e w' => e = .returned (.bool (segB ax ay bx b_y)) ∧ Below w.heap.size w w' := by
  have hg := fun x y xs ys w => guard_pt .neq x y xs ys w
  have he := fun w => run_neq_pt ax ay bx b_y w
  go_enter Try.func88, Try.ntmps88
  go_wp2_with fail
  refine (allValid2_any _ _ ax ay bx b_y _ ?_ ?_ ?_ ?_ ?_).mono ?_
  all_goals (try (simp [go_sem]; done))
  rintro e w1 ⟨rfl, hb1⟩; obtain ⟨hc1, hf1, hz1⟩ := bc1 w.heap.size hb1 (by simp)
  have hn : Below w.heap.size w w1 := nt (na (na (nr _) _) _) hb1
  rcases hv : (ptB ax ay && ptB bx b_y) with _ | _
  · have HR := Lib.hid (segB_no hv)
    clear hv
    go_wp2
    go_ret
    exact ⟨ret_bool HR.out.symm, hn⟩
  · have HR := Lib.hid (segB_yes hv)
    clear hv
    generalize eqB ax ay bx b_y = q at *
    go_wp2
    go_ret
    exact ⟨ret_bool HR.out.symm, hn⟩
theorem specSeg_any (ax ay bx b_y : Int) (w : World) :
    Calls Try.prog 96 #[.agg #[.int .i64 ax, .int .i64 ay, .int .i64 bx, .int .i64 b_y]] w fun e w' => e = .returned (.bool (segB ax ay bx b_y)) ∧ Below w.heap.size w w' := by
  have hg := fun x y xs ys w => guard_pt .neq x y xs ys w
  have he := fun w => run_neq_pt ax ay bx b_y w
  go_enter Try.func96, Try.ntmps96
  rcases va : ptB ax ay with _ | _
  · have HR := Lib.hid (segB_no (ax := ax) (ay := ay) (bx := bx) (b_y := b_y) (by simp [va]))
    have VA := Lib.hid va
    clear va
    go_wp2_with fail
    refine (specValid_any ax ay _).mono ?_; rw [VA.out]; rintro e w1 ⟨rfl, hb1⟩
    go_wp2_with fail
    go_ret
    exact ⟨ret_bool HR.out.symm, by repeat' (first | exact nr _ | apply na | apply Below.drew | apply nd | refine nt ?_ (by assumption))⟩
  rcases vb : ptB bx b_y with _ | _
  · have HR := Lib.hid (segB_no (ax := ax) (ay := ay) (bx := bx) (b_y := b_y) (by simp [vb]))
    have VA := Lib.hid va
    have VB := Lib.hid vb
    clear va vb
    go_wp2_with fail
    refine (specValid_any ax ay _).mono ?_; rw [VA.out]; rintro e w1 ⟨rfl, hb1⟩; obtain ⟨hc1, hf1, hz1⟩ := bc1 w.heap.size hb1 (by simp)
    go_wp2_with fail
    refine (specValid_any bx b_y _).mono ?_; rw [VB.out]; rintro e w2 ⟨rfl, hb2⟩
    go_wp2_with fail
    go_ret
    exact ⟨ret_bool HR.out.symm, by repeat' (first | exact nr _ | apply na | apply Below.drew | apply nd | refine nt ?_ (by assumption))⟩
  have HR := Lib.hid (segB_yes (ax := ax) (ay := ay) (bx := bx) (b_y := b_y) (by rw [va, vb]; rfl))
  have VA := Lib.hid va
  have VB := Lib.hid vb
  clear va vb
  generalize eqB ax ay bx b_y = q at *
  go_wp2_with fail
  refine (specValid_any ax ay _).mono ?_; rw [VA.out]; rintro e w1 ⟨rfl, hb1⟩; obtain ⟨hc1, hf1, hz1⟩ := bc1 w.heap.size hb1 (by simp)
  go_wp2_with fail
  refine (specValid_any bx b_y _).mono ?_; rw [VB.out]; rintro e w2 ⟨rfl, hb2⟩; obtain ⟨hc2, hf2, hz2⟩ := bc1 w.heap.size hb2 (by omega)
  go_wp2_with fail
  go_ret
  exact ⟨ret_bool HR.out.symm, by repeat' (first | exact nr _ | apply na | apply Below.drew | apply nd | refine nt ?_ (by assumption))⟩
theorem toSegment_any (ax ay bx b_y : Int) (w : World) :
    Calls Try.prog 108 #[.agg #[.int .i64 ax, .int .i64 ay, .int .i64 bx, .int .i64 b_y]] w fun e w' => e = .returned (.agg #[.int .i64 ax, .int .i64 ay, .int .i64 bx, .int .i64 b_y]) ∧ Below w.heap.size w w' := by
  go_enter Try.func108, Try.ntmps108
  go_wp2_with fail
  refine (toPoint_any _ _ _).mono ?_; rintro e w1 ⟨rfl, hb1⟩; obtain ⟨hc1, hf1, hz1⟩ := bc3 w.heap.size hb1 (by simp)
  go_wp2_with fail
  have g0 : ∀ j, j < 4 → w1.cell? ⟨w.heap.size + 1 + 1, j, none⟩ = some (.int .i64 0) := fun j hj => keep1 hb1 (by match j, hj with | 0, _ | 1, _ | 2, _ | 3, _ => simp [go_sem])
  have h0 : ∀ j, j < 4 → w1.cell? ⟨w.heap.size + 1, j, none⟩ = some (.int .i64 0) := fun j hj => keep1 hb1 (by match j, hj with | 0, _ | 1, _ | 2, _ | 3, _ => simp [go_sem])
  have g00 := g0 0 (by decide)
  have g01 := g0 1 (by decide)
  have g02 := g0 2 (by decide)
  have g03 := g0 3 (by decide)
  have h00 := h0 0 (by decide)
  have h01 := h0 1 (by decide)
  have h02 := h0 2 (by decide)
  have h03 := h0 3 (by decide)
  clear g0 h0
  refine (toPoint_any _ _ _).mono ?_; rintro e w2 ⟨rfl, hb2⟩; obtain ⟨hc2, hf2, hz2⟩ := bc3 w.heap.size hb2 (by simp; omega)
  have k0 : w2.cell? ⟨w.heap.size + 1 + 1, 0, none⟩ = some (.int .i64 ax) := keep1 hb2 (pair_0 _ _ g00)
  have k1 : w2.cell? ⟨w.heap.size + 1 + 1, 1, none⟩ = some (.int .i64 ay) := keep1 hb2 (pair_1 _ _ g01)
  have k2 : w2.cell? ⟨w.heap.size + 1 + 1, 2, none⟩ = some (.int .i64 0) := keep1 hb2 (by simp [go_sem, g02])
  have k3 : w2.cell? ⟨w.heap.size + 1 + 1, 3, none⟩ = some (.int .i64 0) := keep1 hb2 (by simp [go_sem, g03])
  have m0 : w2.cell? ⟨w.heap.size + 1, 0, none⟩ = some (.int .i64 0) := keep1 hb2 (by simp [go_sem, h00])
  have m1 : w2.cell? ⟨w.heap.size + 1, 1, none⟩ = some (.int .i64 0) := keep1 hb2 (by simp [go_sem, h01])
  have m2 : w2.cell? ⟨w.heap.size + 1, 2, none⟩ = some (.int .i64 0) := keep1 hb2 (by simp [go_sem, h02])
  have m3 : w2.cell? ⟨w.heap.size + 1, 3, none⟩ = some (.int .i64 0) := keep1 hb2 (by simp [go_sem, h03])
  have s2 := set_same (.int .i64 bx) k2
  have s3 : ((w2.setCell ⟨w.heap.size + 1 + 1, 2, none⟩ (.int .i64 bx)).setCell ⟨w.heap.size + 1 + 1, 3, none⟩ (.int .i64 b_y)).cell? ⟨w.heap.size + 1 + 1, 3, none⟩ = some (.int .i64 b_y) := set_same _ (u := .int .i64 0) (by simp [go_sem, k3])
  have f0 : w2.frozen? ⟨w.heap.size + 1, 0, none⟩ = false := by rw [hf2 _ _ (by simp; omega)]; simp [go_sem, hf1]
  have f1 : w2.frozen? ⟨w.heap.size + 1, 1, none⟩ = false := by rw [hf2 _ _ (by simp; omega)]; simp [go_sem, hf1]
  have f2 : w2.frozen? ⟨w.heap.size + 1, 2, none⟩ = false := by rw [hf2 _ _ (by simp; omega)]; simp [go_sem, hf1]
  have f3 : w2.frozen? ⟨w.heap.size + 1, 3, none⟩ = false := by rw [hf2 _ _ (by simp; omega)]; simp [go_sem, hf1]
  have f4 : w2.frozen? ⟨w.heap.size + 1 + 1, 2, none⟩ = false := by rw [hf2 _ _ (by simp; omega)]; simp [go_sem, hf1]
  have f5 : w2.frozen? ⟨w.heap.size + 1 + 1, 3, none⟩ = false := by rw [hf2 _ _ (by simp; omega)]; simp [go_sem, hf1]
  have hn : Below w.heap.size w w2 := nt (pair_below _ _ (by omega) (nt (na (na (na (nr _) _) _) _) hb1)) hb2
  clear hc1 hc2 hf1 hf2 hb1 hb2 g00 g01 g02 g03 h00 h01 h02 h03
  go_wp2
  have n0 : ((w2.setCell ⟨w.heap.size + 1 + 1, 2, none⟩ (.int .i64 bx)).setCell ⟨w.heap.size + 1 + 1, 3, none⟩ (.int .i64 b_y)).cell? ⟨w.heap.size + 1, 0, none⟩ = some (.int .i64 0) := by simp [go_sem, m0]
  have n1 : ((w2.setCell ⟨w.heap.size + 1 + 1, 2, none⟩ (.int .i64 bx)).setCell ⟨w.heap.size + 1 + 1, 3, none⟩ (.int .i64 b_y)).cell? ⟨w.heap.size + 1, 1, none⟩ = some (.int .i64 0) := by simp [go_sem, m1]
  have n2 : ((w2.setCell ⟨w.heap.size + 1 + 1, 2, none⟩ (.int .i64 bx)).setCell ⟨w.heap.size + 1 + 1, 3, none⟩ (.int .i64 b_y)).cell? ⟨w.heap.size + 1, 2, none⟩ = some (.int .i64 0) := by simp [go_sem, m2]
  have n3 : ((w2.setCell ⟨w.heap.size + 1 + 1, 2, none⟩ (.int .i64 bx)).setCell ⟨w.heap.size + 1 + 1, 3, none⟩ (.int .i64 b_y)).cell? ⟨w.heap.size + 1, 3, none⟩ = some (.int .i64 0) := by simp [go_sem, m3]
  have hW : Below w.heap.size w ((w2.setCell ⟨w.heap.size + 1 + 1, 2, none⟩ (.int .i64 bx)).setCell ⟨w.heap.size + 1 + 1, 3, none⟩ (.int .i64 b_y)) := (hn.setCell (by show _ ≤ w.heap.size + 1 + 1; omega) _).setCell (by show _ ≤ w.heap.size + 1 + 1; omega) _
  generalize ((w2.setCell ⟨w.heap.size + 1 + 1, 2, none⟩ (.int .i64 bx)).setCell ⟨w.heap.size + 1 + 1, 3, none⟩ (.int .i64 b_y)) = W at *
  refine bodyPost_ret (v := .agg #[.int .i64 ax, .int .i64 ay, .int .i64 bx, .int .i64 b_y]) (by simp [results, Try.results108, go_sem, quad_0 (.int .i64 ax) n0, quad_1 (.int .i64 ax) (.int .i64 ay) n1, quad_2 (.int .i64 ax) (.int .i64 ay) (.int .i64 bx) n2, quad_3 (.int .i64 ax) (.int .i64 ay) (.int .i64 bx) (.int .i64 b_y) n3]) rfl ⟨rfl, quad_below _ _ _ _ (by omega) hW⟩
end Go.Proofs.Ytblpldapmmoheab
