/-
  Segments: valid segments, points on segments; the program's and the model's. Written by an AI agent.
-/
import Derived.Test.YtieibbdfdepmbaaBa
import Derived.Deep.RegionHeld3
import Derived.Laws.StructEq
import Derived.Deep.DeepCutAuto
namespace Go.Proofs.Ytieibbdfdepmbaa
set_option linter.all false
open Go.RowKit

theorem quad_0 {W : World} {g : Nat} {u : Value} (v0 : Value) (c : W.cell? ⟨g, 0, none⟩ = some u) : (W.setCell ⟨g, 0, none⟩ v0).cell? ⟨g, 0, none⟩ = some v0 := set_same v0 c
theorem quad_1 {W : World} {g : Nat} {u : Value} (v0 v1 : Value) (c : W.cell? ⟨g, 1, none⟩ = some u) : ((W.setCell ⟨g, 0, none⟩ v0).setCell ⟨g, 1, none⟩ v1).cell? ⟨g, 1, none⟩ = some v1 :=
  set_same v1 (set_next v0 c)
theorem quad_2 {W : World} {g : Nat} {u : Value} (v0 v1 v2 : Value) (c : W.cell? ⟨g, 2, none⟩ = some u) : (((W.setCell ⟨g, 0, none⟩ v0).setCell ⟨g, 1, none⟩ v1).setCell ⟨g, 2, none⟩ v2).cell? ⟨g, 2, none⟩ = some v2 :=
  set_same v2 ((World.cell?_setCell_other _ ⟨g, 1, none⟩ ⟨g, 2, none⟩ v1 (by simp)).trans ((World.cell?_setCell_other _ ⟨g, 0, none⟩ ⟨g, 2, none⟩ v0 (by simp)).trans c))
theorem quad_3 {W : World} {g : Nat} {u : Value} (v0 v1 v2 v3 : Value) (c : W.cell? ⟨g, 3, none⟩ = some u) : ((((W.setCell ⟨g, 0, none⟩ v0).setCell ⟨g, 1, none⟩ v1).setCell ⟨g, 2, none⟩ v2).setCell ⟨g, 3, none⟩ v3).cell? ⟨g, 3, none⟩ = some v3 :=
  set_same v3 ((World.cell?_setCell_other _ ⟨g, 2, none⟩ ⟨g, 3, none⟩ v2 (by simp)).trans ((World.cell?_setCell_other _ ⟨g, 1, none⟩ ⟨g, 3, none⟩ v1 (by simp)).trans ((World.cell?_setCell_other _ ⟨g, 0, none⟩ ⟨g, 3, none⟩ v0 (by simp)).trans c)))
theorem quad_below {a W : World} {g : Nat} (v0 v1 v2 v3 : Value) (h : a.heap.size ≤ g) (hb : Below a.heap.size a W) : Below a.heap.size a ((((W.setCell ⟨g, 0, none⟩ v0).setCell ⟨g, 1, none⟩ v1).setCell ⟨g, 2, none⟩ v2).setCell ⟨g, 3, none⟩ v3) :=
  (((hb.setCell (p := ⟨g, 0, none⟩) h v0).setCell (p := ⟨g, 1, none⟩) h v1).setCell (p := ⟨g, 2, none⟩) h v2).setCell (p := ⟨g, 3, none⟩) h v3
/-- Two points are equal. -/
def eqB (ax ay bx b_y : Int) : Bool := ax == bx && ay == b_y
theorem run_neq_pt (ax ay bx b_y : Int) (w : World) : (binOp .neq 32 (.agg #[.int .i64 ax, .int .i64 ay]) (.agg #[.int .i64 bx, .int .i64 b_y])).run Try.prog w = .ok (.bool (!(eqB ax ay bx b_y))) w := by
  have hS : Try.prog.underlying 32 = some (.struct (Try.prog.fieldsOf 32)) := by kernel_rfl
  have hp : Try.prog.stoodInHeld 32 = false := by kernel_rfl
  have u3 := Try.underlying3
  rw [run_neq_struct, show (10000 : Nat) = 9999 + 1 from rfl, run_equalIn_agg w 9999 32 _ _ hS hp]
  simp only [Program.fieldsOf, Try.underlying32, eqB]
  go_simp
  by_cases h1 : ax = bx <;> by_cases h2 : ay = b_y <;> simp [h1, h2]
theorem guard_pt (op : BinOp) (x y : Operand) (xs ys : Array Value) (w : World) : (eqGuard op 32 x y (.agg xs) (.agg ys)).run Try.prog w = .ok () w :=
  run_eqGuard_agg w op 32 x y xs ys (by kernel_rfl)

def segB (ax ay bx b_y : Int) : Bool := ptB ax ay && ptB bx b_y && !(eqB ax ay bx b_y)
theorem segB_true {ax ay bx b_y : Int} (h : segB ax ay bx b_y = true) : ptB ax ay = true ∧ ptB bx b_y = true ∧ eqB ax ay bx b_y = false := by
  unfold segB at h
  obtain ⟨h1, h2, h3⟩ := and3 h
  exact ⟨h1, h2, by simpa using h3⟩
theorem segB_no {ax ay bx b_y : Int} (h : (ptB ax ay && ptB bx b_y) = false) : segB ax ay bx b_y = false := by unfold segB; rw [h]; rfl
theorem segB_yes {ax ay bx b_y : Int} (h : (ptB ax ay && ptB bx b_y) = true) : segB ax ay bx b_y = !(eqB ax ay bx b_y) := by unfold segB; rw [h]; rfl
theorem implSeg_any (ax ay bx b_y : Int) (w : World) :
    Calls Try.prog 113 #[.agg #[.int .i64 ax, .int .i64 ay, .int .i64 bx, .int .i64 b_y]] w fun e w' => e = .returned (.bool (segB ax ay bx b_y)) ∧ Below w.heap.size w w' := by
  have hg := fun x y xs ys w => guard_pt .neq x y xs ys w
  have he := fun w => run_neq_pt ax ay bx b_y w
  go_enter Try.func113, Try.ntmps113
  go_wp2_with fail
  refine (allValid2_any _ _ ax ay bx b_y _ ?_ ?_ ?_ ?_ ?_).mono ?_
  all_goals (try (simp [go_sem]; done))
  rintro e w1 ⟨rfl, hb1⟩; obtain ⟨hc1, hf1, hz1⟩ := bc1 w.heap.size hb1 (by simp)
  have hn : Below w.heap.size w w1 := nt (na (na (nr _) _) _) hb1
  rcases hv : (ptB ax ay && ptB bx b_y) with _ | _
  · have HR := Lib.hid (segB_no hv)
    clear hv
    go_wp2
    go_ret
    exact ⟨ret_bool HR.out.symm, hn⟩
  · have HR := Lib.hid (segB_yes hv)
    clear hv
    generalize eqB ax ay bx b_y = q at *
    go_wp2
    go_ret
    exact ⟨ret_bool HR.out.symm, hn⟩
theorem set_is {W : World} {a : Addr} (v : Value) (h : (W.cell? a).isSome = true) : (W.setCell a v).cell? a = some v := by
  obtain ⟨u, hu⟩ := Option.isSome_iff_exists.mp h
  exact set_same v hu
theorem set_blk {W : World} {b g i j : Nat} (v : Value) (h : ¬ b = g) : (W.setCell ⟨g, i, none⟩ v).cell? ⟨b, j, none⟩ = W.cell? ⟨b, j, none⟩ :=
  World.cell?_setCell_other _ ⟨g, i, none⟩ ⟨b, j, none⟩ v (fun e => h (by cases e; rfl))
theorem set_off {W : World} {g i j : Nat} (v : Value) (h : ¬ j = i) : (W.setCell ⟨g, i, none⟩ v).cell? ⟨g, j, none⟩ = W.cell? ⟨g, j, none⟩ :=
  World.cell?_setCell_other _ ⟨g, i, none⟩ ⟨g, j, none⟩ v (fun e => h (by cases e; rfl))
theorem keepD {W : World} {a : Addr} {v : Value} (n : Nat) (h : W.cell? a = some v) : (W.drewN n).cell? a = some v := h
/-- A point that needs no check is on a segment: by the product and the scalar product of the vectors to the ends. -/
def hasB (ax ay bx b_y px py : Int) : Bool := ((ax - px) * (b_y - py) - (ay - py) * (bx - px) == 0) && decide ((ax - px) * (bx - px) + (ay - py) * (b_y - py) ≤ 0)
theorem hasB_no {ax ay bx b_y px py : Int} (h : ((ax - px) * (b_y - py) - (ay - py) * (bx - px) == 0) = false) : hasB ax ay bx b_y px py = false := by unfold hasB; rw [h]; rfl
theorem hasB_yes {ax ay bx b_y px py : Int} (h : ((ax - px) * (b_y - py) - (ay - py) * (bx - px) == 0) = true) : hasB ax ay bx b_y px py = decide ((ax - px) * (bx - px) + (ay - py) * (b_y - py) ≤ 0) := by unfold hasB; rw [h]; rfl
set_option maxHeartbeats 6400000 in
theorem has_any (ax ay bx b_y px py : Int) (w : World) (ha : ptB ax ay = true) (hb : ptB bx b_y = true) (hp : ptB px py = true) :
    Calls Try.prog 128 #[.agg #[.int .i64 ax, .int .i64 ay, .int .i64 bx, .int .i64 b_y], .agg #[.int .i64 px, .int .i64 py]] w fun e w' => e = .returned (.bool (hasB ax ay bx b_y px py)) ∧ Below w.heap.size w w' := by
  have h1 := ptB_true ha
  have h2 := ptB_true hb
  have h3 := ptB_true hp
  clear ha hb hp
  have p1 := prod_bd (x := ax - px) (y := b_y - py) 2000 2000 (by omega) (by omega)
  have p2 := prod_bd (x := ay - py) (y := bx - px) 2000 2000 (by omega) (by omega)
  have p3 := prod_bd (x := ax - px) (y := bx - px) 2000 2000 (by omega) (by omega)
  have p4 := prod_bd (x := ay - py) (y := b_y - py) 2000 2000 (by omega) (by omega)
  go_enter Try.func128, Try.ntmps128
  go_upto_region 1 with fail
  go_cut [5, 6] (fun s5 s6 wx => ∃ g h : Nat, s5 = .pointer (some ⟨g, 0, none⟩) ∧ s6 = .pointer (some ⟨h, 0, none⟩) ∧ wx.cell? ⟨g, 0, none⟩ = some (.int .i64 (ax - px)) ∧ wx.cell? ⟨g, 1, none⟩ = some (.int .i64 (ay - py)) ∧ wx.cell? ⟨h, 0, none⟩ = some (.int .i64 (bx - px)) ∧ wx.cell? ⟨h, 1, none⟩ = some (.int .i64 (b_y - py)) ∧ Below w.heap.size w wx)
  case first =>
    go_region_held3 (fun wx => wx.cell? ⟨w.heap.size, 0, none⟩ = some (.int .i64 ax) ∧ wx.cell? ⟨w.heap.size, 1, none⟩ = some (.int .i64 ay) ∧ wx.cell? ⟨w.heap.size, 2, none⟩ = some (.int .i64 bx) ∧ wx.cell? ⟨w.heap.size, 3, none⟩ = some (.int .i64 b_y) ∧ wx.cell? ⟨w.heap.size + 1, 0, none⟩ = some (.int .i64 px) ∧ wx.cell? ⟨w.heap.size + 1, 1, none⟩ = some (.int .i64 py))
      (first | (simp [*, go_sem]; done) | (go_split_ands; refine ⟨?_, ?_, ?_, ?_, ?_, ?_⟩ <;> ((repeat (with_reducible refine keepF (by assumption) ?_)); first | assumption | exact keep1 (by assumption) (by assumption) | exact keepA _ (by assumption) | exact keepS (by assumption) (by assumption))))
      (first
        | (go_at_call_of 91 (Value.agg #[.int .i64 ax, .int .i64 ay]); refine (minus_any _ _ _ _ _ (by omega) (by omega)).mono ?_; rintro e w1 ⟨rfl, hx1⟩; obtain ⟨hc1, hf1⟩ := bcell hx1; have y1 := hx1.size; (try simp at y1); (try have q10 : w.heap.size < w1.heap.size ∧ w.heap.size < w1.heap.size + 1 ∧ ¬ (w1.heap.size = w.heap.size) ∧ ¬ (w.heap.size = w1.heap.size) := (by omega)); (try have q11 : w.heap.size + 1 < w1.heap.size ∧ w.heap.size + 1 < w1.heap.size + 1 ∧ ¬ (w1.heap.size = w.heap.size + 1) ∧ ¬ (w.heap.size + 1 = w1.heap.size) := (by omega)); (try have q12 : w.heap.size + 1 + 1 < w1.heap.size ∧ w.heap.size + 1 + 1 < w1.heap.size + 1 ∧ ¬ (w1.heap.size = w.heap.size + 1 + 1) ∧ ¬ (w.heap.size + 1 + 1 = w1.heap.size) := (by omega)); (try have q13 : w.heap.size + 1 + 1 + 1 < w1.heap.size ∧ w.heap.size + 1 + 1 + 1 < w1.heap.size + 1 ∧ ¬ (w1.heap.size = w.heap.size + 1 + 1 + 1) ∧ ¬ (w.heap.size + 1 + 1 + 1 = w1.heap.size) := (by omega)))
        | (go_at_call_of 91 (Value.agg #[.int .i64 bx, .int .i64 b_y]); refine (minus_any _ _ _ _ _ (by omega) (by omega)).mono ?_; rintro e w2 ⟨rfl, hx2⟩; obtain ⟨hc2, hf2⟩ := bcell hx2; have y2 := hx2.size; (try simp at y2); (try have q20 : w.heap.size < w2.heap.size ∧ w.heap.size < w2.heap.size + 1 ∧ ¬ (w2.heap.size = w.heap.size) ∧ ¬ (w.heap.size = w2.heap.size) := (by omega)); (try have q21 : w.heap.size + 1 < w2.heap.size ∧ w.heap.size + 1 < w2.heap.size + 1 ∧ ¬ (w2.heap.size = w.heap.size + 1) ∧ ¬ (w.heap.size + 1 = w2.heap.size) := (by omega)); (try have q22 : w.heap.size + 1 + 1 < w2.heap.size ∧ w.heap.size + 1 + 1 < w2.heap.size + 1 ∧ ¬ (w2.heap.size = w.heap.size + 1 + 1) ∧ ¬ (w.heap.size + 1 + 1 = w2.heap.size) := (by omega)); (try have q23 : w.heap.size + 1 + 1 + 1 < w2.heap.size ∧ w.heap.size + 1 + 1 + 1 < w2.heap.size + 1 ∧ ¬ (w2.heap.size = w.heap.size + 1 + 1 + 1) ∧ ¬ (w.heap.size + 1 + 1 + 1 = w2.heap.size) := (by omega)); (try have q24 : w1.heap.size < w2.heap.size ∧ w1.heap.size < w2.heap.size + 1 ∧ ¬ (w2.heap.size = w1.heap.size) ∧ ¬ (w1.heap.size = w2.heap.size) := (by omega)); (try have q25 : w1.heap.size + 1 < w2.heap.size ∧ w1.heap.size + 1 < w2.heap.size + 1 ∧ ¬ (w2.heap.size = w1.heap.size + 1) ∧ ¬ (w1.heap.size + 1 = w2.heap.size) := (by omega))))
    all_goals (go_wp2_with fail; go_meet)
    all_goals refine ⟨_, _, rfl, rfl, ?_, ?_, ?_, ?_, ?_⟩
    all_goals (try (simp [*, go_sem, set_is, set_blk, set_off]; done))
    all_goals (try (rw [set_blk _ (by omega), set_blk _ (by omega)]; first | (refine pair_0 (u := .int .i64 0) _ _ (keep1 (by assumption) (keepA _ (by simp [go_sem]))); done) | (refine pair_1 (u := .int .i64 0) _ _ (keep1 (by assumption) (keepA _ (by simp [go_sem]))); done)))
    all_goals (try ((first | refine pair_0 (u := .int .i64 0) _ _ ?_ | refine pair_1 (u := .int .i64 0) _ _ ?_); rw [set_blk _ (by omega), set_blk _ (by omega)]; exact keep1 (by assumption) (keepA _ (by simp [go_sem]))))
    all_goals (try (repeat' (first | exact nr _ | apply na | apply Below.drew | apply nd | refine pair_below _ _ (by omega) ?_ | refine nt ?_ (by assumption))))
  case rest =>
    obtain ⟨g, h, rfl, rfl, k0, k1, k2, k3, hbx⟩ := hcut
    have z0 : g < wc.heap.size := World.block_lt_of_cell? _ _ k0
    have z1 : h < wc.heap.size := World.block_lt_of_cell? _ _ k2
    have HB := Lib.hid hbx
    clear hbx
    rcases hq : ((ax - px) * (b_y - py) - (ay - py) * (bx - px) == 0) with _ | _
    · have HR := Lib.hid (hasB_no hq)
      have HQ : ((ax - px) * (b_y - py) - (ay - py) * (bx - px) = 0) = False := by simpa using hq
      clear hq
      go_wp2_with fail
      refine (pcross_any _ _ _ _ _ (by omega) (by omega)).mono ?_; rintro e w3 ⟨rfl, hx3⟩
      go_wp2_with fail
      go_ret
      exact ⟨ret_bool HR.out.symm, nt HB.out hx3⟩
    · have HR := Lib.hid (hasB_yes hq)
      have HQ : ((ax - px) * (b_y - py) - (ay - py) * (bx - px) = 0) = True := by simpa using hq
      clear hq
      go_wp2_with fail
      refine (pcross_any _ _ _ _ _ (by omega) (by omega)).mono ?_; rintro e w3 ⟨rfl, hx3⟩; obtain ⟨hc3, hf3⟩ := bcell hx3
      go_wp2_with fail
      refine (pdot_any _ _ _ _ _ (by omega) (by omega)).mono ?_; rintro e w4 ⟨rfl, hx4⟩
      go_wp2_with fail
      go_ret
      exact ⟨rfl, nt (nt HB.out hx3) hx4⟩
theorem mul_sq (a : Int) : 0 ≤ a * a := by
  rw [← Int.natAbs_mul_self]
  omega
theorem same_side {u v s t : Int} (h : u * t = s * v) (hd : u * v + s * t ≤ 0) : u * v ≤ 0 := by
  rcases Int.lt_or_le 0 (u * v) with hp | hp
  · have hn : s * t < 0 := by omega
    have h1 : (u * v) * (s * t) < 0 := Int.mul_neg_of_pos_of_neg hp hn
    have h2 : (u * v) * (s * t) = (s * v) * (s * v) := by
      rw [show (u * v) * (s * t) = (u * t) * (s * v) by rw [Int.mul_assoc, Int.mul_assoc, Int.mul_left_comm v s t, Int.mul_comm v t, Int.mul_left_comm s t v], h]
    have h3 := mul_sq (s * v)
    omega
  · exact hp
theorem apart_of {u v : Int} (h : u * v ≤ 0) : (u ≤ 0 ∧ 0 ≤ v) ∨ (v ≤ 0 ∧ 0 ≤ u) := by
  rcases Int.lt_or_le 0 u with h1 | h1
  · rcases Int.lt_or_le 0 v with h2 | h2
    · have := Int.mul_pos h1 h2
      omega
    · omega
  · rcases Int.lt_or_le v 0 with h2 | h2
    · rcases Int.lt_or_le u 0 with h3 | h3
      · have := Int.mul_pos_of_neg_of_neg h3 h2
        omega
      · omega
    · omega
theorem apart_mul {u v : Int} (h : (u ≤ 0 ∧ 0 ≤ v) ∨ (v ≤ 0 ∧ 0 ≤ u)) : u * v ≤ 0 := by
  rcases h with ⟨h1, h2⟩ | ⟨h1, h2⟩
  · exact Int.mul_nonpos_of_nonpos_of_nonneg h1 h2
  · exact Int.mul_nonpos_of_nonneg_of_nonpos h2 h1
def btwB (ax ay bx b_y px py : Int) : Bool := decide ((ax ≤ px ∧ px ≤ bx ∨ bx ≤ px ∧ px ≤ ax) ∧ (ay ≤ py ∧ py ≤ b_y ∨ b_y ≤ py ∧ py ≤ ay))
theorem cross_turn (ax ay bx b_y px py : Int) : (ax - px) * (b_y - py) - (ay - py) * (bx - px) = crossI ax ay bx b_y px py := by
  unfold crossI
  simp only [Int.sub_mul, Int.mul_sub]
  have c1 := Int.mul_comm bx ay
  have c2 := Int.mul_comm px ay
  have c3 := Int.mul_comm bx py
  have c4 := Int.mul_comm px b_y
  have c5 := Int.mul_comm ax ay
  have c6 := Int.mul_comm px py
  have c7 := Int.mul_comm b_y ax
  omega
theorem has_eq (ax ay bx b_y px py : Int) : hasB ax ay bx b_y px py = ((crossI ax ay bx b_y px py == 0) && btwB ax ay bx b_y px py) := by
  unfold hasB btwB
  rw [cross_turn]
  rcases h : (crossI ax ay bx b_y px py == 0) with _ | _
  · rfl
  simp only [Bool.true_and, decide_eq_decide]
  have h0 : (ax - px) * (b_y - py) - (ay - py) * (bx - px) = 0 := by rw [cross_turn]; simpa using h
  constructor
  · intro hd
    have h1 := apart_of (same_side (u := ax - px) (v := bx - px) (s := ay - py) (t := b_y - py) (by omega) hd)
    have h2 := apart_of (same_side (u := ay - py) (v := b_y - py) (s := ax - px) (t := bx - px) (by omega) (by omega))
    omega
  · intro hd
    have h1 := apart_mul (u := ax - px) (v := bx - px) (by omega)
    have h2 := apart_mul (u := ay - py) (v := b_y - py) (by omega)
    omega
theorem between_any (ax ay bx b_y px py : Int) (w : World) :
    Calls Try.prog 136 #[.agg #[.int .i64 ax, .int .i64 ay, .int .i64 bx, .int .i64 b_y], .agg #[.int .i64 px, .int .i64 py]] w fun e w' => e = .returned (.bool (btwB ax ay bx b_y px py)) ∧ Below w.heap.size w w' := by
  go_enter Try.func136, Try.ntmps136
  go_wp2_with (go_at_call 93; refine (inRange_any _ _ _ _).mono ?_; rintro e w' ⟨rfl, rfl⟩)
  all_goals go_ret
  all_goals refine ⟨ret_bool ?_, na (na (nr _) _) _⟩
  all_goals (unfold btwB; rw [Bool.eq_iff_iff]; simp; omega)
theorem specHas_any (ax ay bx b_y px py : Int) (w : World) (ha : ptB ax ay = true) (hb : ptB bx b_y = true) (hp : ptB px py = true) :
    Calls Try.prog 130 #[.agg #[.int .i64 ax, .int .i64 ay, .int .i64 bx, .int .i64 b_y], .agg #[.int .i64 px, .int .i64 py]] w fun e w' => e = .returned (.bool (hasB ax ay bx b_y px py)) ∧ Below w.heap.size w w' := by
  have HR := Lib.hid (has_eq ax ay bx b_y px py)
  have VA := Lib.hid ha
  have VB := Lib.hid hb
  have VP := Lib.hid hp
  clear ha hb hp
  go_enter Try.func130, Try.ntmps130
  rcases hq : (crossI ax ay bx b_y px py == 0) with _ | _
  · have HR2 := Lib.hid (show hasB ax ay bx b_y px py = false by rw [HR.out, hq]; rfl)
    have HQ : (crossI ax ay bx b_y px py = 0) = False := by simpa using hq
    clear hq
    go_wp2_with fail
    refine (specCross_any _ _ _ _ _ _ _ VA.out VB.out VP.out).mono ?_; rintro e w1 ⟨rfl, hb1⟩
    go_wp2_with fail
    go_ret
    exact ⟨ret_bool HR2.out.symm, by repeat' (first | exact nr _ | apply na | apply Below.drew | apply nd | refine nt ?_ (by assumption))⟩
  · have HQ : (crossI ax ay bx b_y px py = 0) = True := by simpa using hq
    clear hq
    go_wp2_with fail
    refine (specCross_any _ _ _ _ _ _ _ VA.out VB.out VP.out).mono ?_; rintro e w1 ⟨rfl, hb1⟩; obtain ⟨hc1, hf1, hz1⟩ := bc2 w.heap.size hb1 (by simp)
    go_wp2_with fail
    refine (between_any _ _ _ _ _ _ _).mono ?_; rintro e w2 ⟨rfl, hb2⟩
    go_wp2_with fail
    go_ret
    exact ⟨ret_bool HR.out.symm, by repeat' (first | exact nr _ | apply na | apply Below.drew | apply nd | refine nt ?_ (by assumption))⟩
end Go.Proofs.Ytieibbdfdepmbaa
