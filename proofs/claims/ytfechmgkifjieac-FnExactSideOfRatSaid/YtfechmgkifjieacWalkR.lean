/-
  Sides of lines at points with fractions: the law's walk. Written by an AI agent.
-/
import Derived.Test.YtfechmgkifjieacWalkQ
import Derived.Test.YtfechmgkifjieacWalkS
namespace Go.Proofs.Ytfechmgkifjieac
open Go.RowKit

theorem toRat_any (x y : Int) (w : World) :
    Calls Try.prog 73 #[.agg #[.int .i64 x, .int .i64 y]] w fun e w' => e = .returned (.agg #[.int .i64 x, .int .i64 y]) ∧ Below w.heap.size w w' := by
  go_enter Try.func73, Try.ntmps73
  go_wp2
  exact bodyPost_ret (v := .agg #[.int .i64 x, .int .i64 y]) (by simp [results, Try.results73, go_sem]) rfl ⟨rfl, na (na (na (nr _) _) _) _⟩
theorem toRatPoint_any (ax ay bx b_y : Int) (w : World) :
    Calls Try.prog 37 #[.agg #[.int .i64 ax, .int .i64 ay, .int .i64 bx, .int .i64 b_y]] w fun e w' => e = .returned (.agg #[.int .i64 ax, .int .i64 ay, .int .i64 bx, .int .i64 b_y]) ∧ Below w.heap.size w w' := by
  go_enter Try.func37, Try.ntmps37
  go_wp2_with fail
  refine (toRat_any _ _ _).mono ?_; rintro e w1 ⟨rfl, hb1⟩; obtain ⟨hc1, hf1, hz1⟩ := bc3 w.heap.size hb1 (by simp)
  go_wp2_with fail
  have g0 : ∀ j, j < 4 → w1.cell? ⟨w.heap.size + 1 + 1, j, none⟩ = some (.int .i64 0) := fun j hj => keep1 hb1 (by match j, hj with | 0, _ | 1, _ | 2, _ | 3, _ => simp [go_sem])
  have h0 : ∀ j, j < 4 → w1.cell? ⟨w.heap.size + 1, j, none⟩ = some (.int .i64 0) := fun j hj => keep1 hb1 (by match j, hj with | 0, _ | 1, _ | 2, _ | 3, _ => simp [go_sem])
  have g00 := g0 0 (by decide)
  have g01 := g0 1 (by decide)
  have g02 := g0 2 (by decide)
  have g03 := g0 3 (by decide)
  have h00 := h0 0 (by decide)
  have h01 := h0 1 (by decide)
  have h02 := h0 2 (by decide)
  have h03 := h0 3 (by decide)
  clear g0 h0
  refine (toRat_any _ _ _).mono ?_; rintro e w2 ⟨rfl, hb2⟩; obtain ⟨hc2, hf2, hz2⟩ := bc3 w.heap.size hb2 (by simp; omega)
  have k0 : w2.cell? ⟨w.heap.size + 1 + 1, 0, none⟩ = some (.int .i64 ax) := keep1 hb2 (pair_0 _ _ g00)
  have k1 : w2.cell? ⟨w.heap.size + 1 + 1, 1, none⟩ = some (.int .i64 ay) := keep1 hb2 (pair_1 _ _ g01)
  have k2 : w2.cell? ⟨w.heap.size + 1 + 1, 2, none⟩ = some (.int .i64 0) := keep1 hb2 (by simp [go_sem, g02])
  have k3 : w2.cell? ⟨w.heap.size + 1 + 1, 3, none⟩ = some (.int .i64 0) := keep1 hb2 (by simp [go_sem, g03])
  have m0 : w2.cell? ⟨w.heap.size + 1, 0, none⟩ = some (.int .i64 0) := keep1 hb2 (by simp [go_sem, h00])
  have m1 : w2.cell? ⟨w.heap.size + 1, 1, none⟩ = some (.int .i64 0) := keep1 hb2 (by simp [go_sem, h01])
  have m2 : w2.cell? ⟨w.heap.size + 1, 2, none⟩ = some (.int .i64 0) := keep1 hb2 (by simp [go_sem, h02])
  have m3 : w2.cell? ⟨w.heap.size + 1, 3, none⟩ = some (.int .i64 0) := keep1 hb2 (by simp [go_sem, h03])
  have s2 := set_same (.int .i64 bx) k2
  have s3 : ((w2.setCell ⟨w.heap.size + 1 + 1, 2, none⟩ (.int .i64 bx)).setCell ⟨w.heap.size + 1 + 1, 3, none⟩ (.int .i64 b_y)).cell? ⟨w.heap.size + 1 + 1, 3, none⟩ = some (.int .i64 b_y) := set_same _ (u := .int .i64 0) (by simp [go_sem, k3])
  have f0 : w2.frozen? ⟨w.heap.size + 1, 0, none⟩ = false := by rw [hf2 _ _ (by simp; omega)]; simp [go_sem, hf1]
  have f1 : w2.frozen? ⟨w.heap.size + 1, 1, none⟩ = false := by rw [hf2 _ _ (by simp; omega)]; simp [go_sem, hf1]
  have f2 : w2.frozen? ⟨w.heap.size + 1, 2, none⟩ = false := by rw [hf2 _ _ (by simp; omega)]; simp [go_sem, hf1]
  have f3 : w2.frozen? ⟨w.heap.size + 1, 3, none⟩ = false := by rw [hf2 _ _ (by simp; omega)]; simp [go_sem, hf1]
  have f4 : w2.frozen? ⟨w.heap.size + 1 + 1, 2, none⟩ = false := by rw [hf2 _ _ (by simp; omega)]; simp [go_sem, hf1]
  have f5 : w2.frozen? ⟨w.heap.size + 1 + 1, 3, none⟩ = false := by rw [hf2 _ _ (by simp; omega)]; simp [go_sem, hf1]
  have hn : Below w.heap.size w w2 := nt (pair_below _ _ (by omega) (nt (na (na (na (nr _) _) _) _) hb1)) hb2
  clear hc1 hc2 hf1 hf2 hb1 hb2 g00 g01 g02 g03 h00 h01 h02 h03
  go_wp2
  have n0 : ((w2.setCell ⟨w.heap.size + 1 + 1, 2, none⟩ (.int .i64 bx)).setCell ⟨w.heap.size + 1 + 1, 3, none⟩ (.int .i64 b_y)).cell? ⟨w.heap.size + 1, 0, none⟩ = some (.int .i64 0) := by simp [go_sem, m0]
  have n1 : ((w2.setCell ⟨w.heap.size + 1 + 1, 2, none⟩ (.int .i64 bx)).setCell ⟨w.heap.size + 1 + 1, 3, none⟩ (.int .i64 b_y)).cell? ⟨w.heap.size + 1, 1, none⟩ = some (.int .i64 0) := by simp [go_sem, m1]
  have n2 : ((w2.setCell ⟨w.heap.size + 1 + 1, 2, none⟩ (.int .i64 bx)).setCell ⟨w.heap.size + 1 + 1, 3, none⟩ (.int .i64 b_y)).cell? ⟨w.heap.size + 1, 2, none⟩ = some (.int .i64 0) := by simp [go_sem, m2]
  have n3 : ((w2.setCell ⟨w.heap.size + 1 + 1, 2, none⟩ (.int .i64 bx)).setCell ⟨w.heap.size + 1 + 1, 3, none⟩ (.int .i64 b_y)).cell? ⟨w.heap.size + 1, 3, none⟩ = some (.int .i64 0) := by simp [go_sem, m3]
  have hW : Below w.heap.size w ((w2.setCell ⟨w.heap.size + 1 + 1, 2, none⟩ (.int .i64 bx)).setCell ⟨w.heap.size + 1 + 1, 3, none⟩ (.int .i64 b_y)) := (hn.setCell (by show _ ≤ w.heap.size + 1 + 1; omega) _).setCell (by show _ ≤ w.heap.size + 1 + 1; omega) _
  generalize ((w2.setCell ⟨w.heap.size + 1 + 1, 2, none⟩ (.int .i64 bx)).setCell ⟨w.heap.size + 1 + 1, 3, none⟩ (.int .i64 b_y)) = W at *
  refine bodyPost_ret (v := .agg #[.int .i64 ax, .int .i64 ay, .int .i64 bx, .int .i64 b_y]) (by simp [results, Try.results37, go_sem, quad_0 (.int .i64 ax) n0, quad_1 (.int .i64 ax) (.int .i64 ay) n1, quad_2 (.int .i64 ax) (.int .i64 ay) (.int .i64 bx) n2, quad_3 (.int .i64 ax) (.int .i64 ay) (.int .i64 bx) (.int .i64 b_y) n3]) rfl ⟨rfl, quad_below _ _ _ _ (by omega) hW⟩
theorem ExactSideOfRat_walk (a b c n d m e : Int) (w : World) :
    Calls Try.prog 12 #[.agg #[.int .i64 a, .int .i64 b, .int .i64 c], .agg #[.int .i64 n, .int .i64 d, .int .i64 m, .int .i64 e]] w fun e' w' => e' = .returned (.bool true) ∧ Below w.heap.size w w' := by
  go_enter Try.func12, Try.ntmps12
  go_wp2_with fail
  go_region_held3 (fun w' => w'.cell? ⟨w.heap.size, 0, none⟩ = some (.int .i64 a) ∧ w'.cell? ⟨w.heap.size, 1, none⟩ = some (.int .i64 b) ∧ w'.cell? ⟨w.heap.size, 2, none⟩ = some (.int .i64 c) ∧ w'.cell? ⟨w.heap.size + 1, 0, none⟩ = some (.int .i64 n) ∧ w'.cell? ⟨w.heap.size + 1, 1, none⟩ = some (.int .i64 d) ∧ w'.cell? ⟨w.heap.size + 1, 2, none⟩ = some (.int .i64 m) ∧ w'.cell? ⟨w.heap.size + 1, 3, none⟩ = some (.int .i64 e))
    (first | (simp [*, go_sem]; done) | (go_split_ands; refine ⟨?_, ?_, ?_, ?_, ?_, ?_, ?_⟩ <;> exact keep1 (by assumption) (by assumption)))
    (first
      | (go_at_call 27; refine (toLine_any _ _ _ _).mono ?_; rintro e' wx ⟨rfl, hx⟩)
      | (go_at_call 37; refine (toRatPoint_any _ _ _ _ _).mono ?_; rintro e' wx ⟨rfl, hx⟩)
      | (go_at_call 36; refine (SpecSideQ_any _ _ _ _ _ _ _ _).mono ?_; rintro e' wx ⟨rfl, hx⟩))
  go_wp2_with fail
  go_region_held3 (fun w' => w'.cell? ⟨w.heap.size, 0, none⟩ = some (.int .i64 a) ∧ w'.cell? ⟨w.heap.size, 1, none⟩ = some (.int .i64 b) ∧ w'.cell? ⟨w.heap.size, 2, none⟩ = some (.int .i64 c) ∧ w'.cell? ⟨w.heap.size + 1, 0, none⟩ = some (.int .i64 n) ∧ w'.cell? ⟨w.heap.size + 1, 1, none⟩ = some (.int .i64 d) ∧ w'.cell? ⟨w.heap.size + 1, 2, none⟩ = some (.int .i64 m) ∧ w'.cell? ⟨w.heap.size + 1, 3, none⟩ = some (.int .i64 e))
    (first | (simp [*, go_sem]; done) | (go_split_ands; refine ⟨?_, ?_, ?_, ?_, ?_, ?_, ?_⟩ <;> exact keep1 (by assumption) (by assumption)))
    (first
      | (go_at_call 27; refine (toLine_any _ _ _ _).mono ?_; rintro e' wx ⟨rfl, hx⟩)
      | (go_at_call 37; refine (toRatPoint_any _ _ _ _ _).mono ?_; rintro e' wx ⟨rfl, hx⟩)
      | (go_at_call 38; refine (implSideQ_any _ _ _ _ _ _ _ _).mono ?_; rintro e' wx ⟨rfl, hx⟩))
  go_wp2_with fail
  go_ret
  exact ⟨rfl, by repeat' (first | exact nr _ | apply na | apply Below.drew | apply nd | refine nt ?_ (by assumption))⟩
end Go.Proofs.Ytfechmgkifjieac
