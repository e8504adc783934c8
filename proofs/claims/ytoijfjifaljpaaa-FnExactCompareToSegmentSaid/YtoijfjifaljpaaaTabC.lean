/-
  The table of segments, and the law of CompareToSegment. Written by an AI agent.
-/
import Derived.Test.YtoijfjifaljpaaaTabB
import Derived.Test.YtoijfjifaljpaaaWalkC
namespace Go.Proofs.Ytoijfjifaljpaaa
open Go.RowKit
/-- Two points are equal. -/
def eqB (ax ay bx b_y : Int) : Bool := ax == bx && ay == b_y
def segB (ax ay bx b_y : Int) : Bool := ptB ax ay && ptB bx b_y && !(eqB ax ay bx b_y)
set_option maxRecDepth 100000 in
theorem tr_specSeg (ax ay bx b_y : Int) : runX Try.prog (tabE T1) 30 12 56 [.v (.agg #[iv ax, iv ay, iv bx, iv b_y])] (fun u => .fin u []) = brT (ptB ax ay) (brT (ptB bx b_y) (.fin (.bool (negB true (ax == bx && (ay == b_y && true)))) []) (.fin (.bool (false)) [])) (.fin (.bool (false)) []) := by kernel_rfl
set_option maxRecDepth 100000 in
theorem tr_implSeg (ax ay bx b_y : Int) : runX Try.prog (tabE T1) 30 12 59 [.v (.agg #[iv ax, iv ay, iv bx, iv b_y])] (fun u => .fin u []) = brT (ptB ax ay && ptB bx b_y) (.fin (.bool (negB true (ax == bx && (ay == b_y && true)))) []) (.fin (.bool (false)) []) := by kernel_rfl
theorem brT_t (x y : Tree) : brT true x y = x := rfl
theorem brT_f (x y : Tree) : brT false x y = y := rfl
theorem res_specSeg (ax ay bx b_y : Int) : Res Try.prog 56 [.v (.agg #[iv ax, iv ay, iv bx, iv b_y])] (.bool (segB ax ay bx b_y)) := by
  refine res_of mixed (tabE_ok T1_ok) (m := 30) (n := 12) ?_
  rw [tr_specSeg]
  unfold segB eqB negB
  cases ptB ax ay <;> cases ptB bx b_y <;> simp [brT, Tree.ok]
theorem res_implSeg (ax ay bx b_y : Int) : Res Try.prog 59 [.v (.agg #[iv ax, iv ay, iv bx, iv b_y])] (.bool (segB ax ay bx b_y)) := by
  refine res_of mixed (tabE_ok T1_ok) (m := 30) (n := 12) ?_
  rw [tr_implSeg]
  unfold segB eqB negB
  cases ptB ax ay <;> cases ptB bx b_y <;> simp [brT, Tree.ok]
theorem segB_true {ax ay bx b_y : Int} (h : segB ax ay bx b_y = true) : ptB ax ay = true ∧ ptB bx b_y = true ∧ eqB ax ay bx b_y = false := by
  unfold segB at h
  obtain ⟨h1, h2, h3⟩ := and3 h
  exact ⟨h1, h2, by simpa using h3⟩
def pSeg : List DArg → Option (Value × List Prop)
  | [.v (.agg ⟨[.int .i64 ax, .int .i64 ay, .int .i64 bx, .int .i64 b_y]⟩)] => some (.bool (segB ax ay bx b_y), [])
  | _ => none
def pSqT : List DArg → Option (Value × List Prop)
  | [.v (.agg ⟨[.int .i64 ax, .int .i64 ay]⟩), .v (.agg ⟨[.int .i64 px, .int .i64 py]⟩)] => some (iv (sqR ax ay px py), [])
  | _ => none
def T2 : Tab := fun f ds => match f with
  | 35 => pSqT ds
  | 56 => pSeg ds
  | 59 => pSeg ds
  | f => T1 f ds
theorem T2_ok : TabOk Try.prog T2 := by
  intro f ds v C h hC
  unfold T2 at h
  split at h
  · unfold pSqT at h
    split at h
    · obtain ⟨rfl, rfl⟩ : _ ∧ _ := by simpa using h
      exact res_calls (by kernel_rfl) rfl rfl fun w => implSquared_any _ _ _ _ w
    · cases h
  · unfold pSeg at h
    split at h
    · obtain ⟨rfl, rfl⟩ : _ ∧ _ := by simpa using h
      exact res_specSeg _ _ _ _
    · cases h
  · unfold pSeg at h
    split at h
    · obtain ⟨rfl, rfl⟩ : _ ∧ _ := by simpa using h
      exact res_implSeg _ _ _ _
    · cases h
  · exact T1_ok _ _ _ _ h hC
set_option maxRecDepth 100000 in
theorem tr_specCmp (ax ay bx b_y px py n : Int) : runX Try.prog (tabE T2) 30 12 31 [.v (.agg #[iv ax, iv ay, iv bx, iv b_y]), .v (.agg #[iv px, iv py]), .v (iv n)] (fun u => .fin u []) = brT (!segB ax ay bx b_y) (.fin (.int .i64 (2)) []) (brT (!ptB px py) (.fin (.int .i64 (2)) []) (brT (decide (0 ≤ n)) (brT (!decide (n ≤ 8000000)) (.fin (.int .i64 (2)) []) (brT (decide (IntKind.i64.wrap (IntKind.i64.wrap (IntKind.i64.wrap (bx - ax) * IntKind.i64.wrap (px - ax)) + IntKind.i64.wrap (IntKind.i64.wrap (b_y - ay) * IntKind.i64.wrap (py - ay))) ≤ 0)) (.fin (.int .i64 (cmpI (IntKind.i64.wrap (IntKind.i64.wrap (IntKind.i64.wrap (IntKind.i64.wrap (ax - px) * IntKind.i64.wrap (ax - px)) + IntKind.i64.wrap (IntKind.i64.wrap (ay - py) * IntKind.i64.wrap (ay - py))) - IntKind.i64.wrap (n * 1))) 0)) []) (brT (decide (IntKind.i64.wrap (IntKind.i64.wrap (IntKind.i64.wrap (ax - bx) * IntKind.i64.wrap (px - bx)) + IntKind.i64.wrap (IntKind.i64.wrap (ay - b_y) * IntKind.i64.wrap (py - b_y))) ≤ 0)) (.fin (.int .i64 (cmpI (IntKind.i64.wrap (IntKind.i64.wrap (IntKind.i64.wrap (IntKind.i64.wrap (bx - px) * IntKind.i64.wrap (bx - px)) + IntKind.i64.wrap (IntKind.i64.wrap (b_y - py) * IntKind.i64.wrap (b_y - py))) - IntKind.i64.wrap (n * 1))) 0)) []) (.fin (.int .i64 (cmpI (IntKind.i64.wrap (IntKind.i64.wrap (IntKind.i64.wrap (IntKind.i64.wrap (IntKind.i64.wrap (bx - ax) * IntKind.i64.wrap (py - ay)) - IntKind.i64.wrap (IntKind.i64.wrap (b_y - ay) * IntKind.i64.wrap (px - ax))) * IntKind.i64.wrap (IntKind.i64.wrap (IntKind.i64.wrap (bx - ax) * IntKind.i64.wrap (py - ay)) - IntKind.i64.wrap (IntKind.i64.wrap (b_y - ay) * IntKind.i64.wrap (px - ax)))) - IntKind.i64.wrap (n * IntKind.i64.wrap (IntKind.i64.wrap (IntKind.i64.wrap (ax - bx) * IntKind.i64.wrap (ax - bx)) + IntKind.i64.wrap (IntKind.i64.wrap (ay - b_y) * IntKind.i64.wrap (ay - b_y)))))) 0)) [])))) (.fin (.int .i64 (2)) []))) := by kernel_rfl
set_option maxRecDepth 100000 in
theorem tr_implCmp (ax ay bx b_y px py n : Int) : runX Try.prog (tabE T2) 30 12 33 [.v (.agg #[iv ax, iv ay, iv bx, iv b_y]), .v (.agg #[iv px, iv py]), .v (iv n)] (fun u => .fin u []) = brT (!segB ax ay bx b_y) (.fin (.int .i64 (2)) []) (brT (!ptB px py) (.fin (.int .i64 (2)) []) (brT (decide (n < 0)) (.fin (.int .i64 (2)) []) (brT (decide (8000000 < n)) (.fin (.int .i64 (2)) []) (brT (decide (IntKind.i64.wrap (IntKind.i64.wrap (IntKind.i64.wrap (bx - ax) * IntKind.i64.wrap (px - ax)) + IntKind.i64.wrap (IntKind.i64.wrap (b_y - ay) * IntKind.i64.wrap (py - ay))) ≤ 0)) (.fin (.int .i64 (cmpI (IntKind.i64.wrap (sqR ax ay px py * if sqR ax ay bx b_y < 1 then 1 else sqR ax ay bx b_y)) (IntKind.i64.wrap (n * if sqR ax ay bx b_y < 1 then 1 else sqR ax ay bx b_y)))) []) (brT (decide (IntKind.i64.wrap (IntKind.i64.wrap (IntKind.i64.wrap (bx - ax) * IntKind.i64.wrap (bx - ax)) + IntKind.i64.wrap (IntKind.i64.wrap (b_y - ay) * IntKind.i64.wrap (b_y - ay))) ≤ IntKind.i64.wrap (IntKind.i64.wrap (IntKind.i64.wrap (bx - ax) * IntKind.i64.wrap (px - ax)) + IntKind.i64.wrap (IntKind.i64.wrap (b_y - ay) * IntKind.i64.wrap (py - ay))))) (.fin (.int .i64 (cmpI (IntKind.i64.wrap (sqR bx b_y px py * if sqR ax ay bx b_y < 1 then 1 else sqR ax ay bx b_y)) (IntKind.i64.wrap (n * if sqR ax ay bx b_y < 1 then 1 else sqR ax ay bx b_y)))) []) (.fin (.int .i64 (cmpI (IntKind.i64.wrap (IntKind.i64.wrap (IntKind.i64.wrap (IntKind.i64.wrap (bx - ax) * IntKind.i64.wrap (py - ay)) - IntKind.i64.wrap (IntKind.i64.wrap (b_y - ay) * IntKind.i64.wrap (px - ax))) * IntKind.i64.wrap (IntKind.i64.wrap (IntKind.i64.wrap (bx - ax) * IntKind.i64.wrap (py - ay)) - IntKind.i64.wrap (IntKind.i64.wrap (b_y - ay) * IntKind.i64.wrap (px - ax))))) (IntKind.i64.wrap (n * if sqR ax ay bx b_y < 1 then 1 else sqR ax ay bx b_y)))) [])))))) := by kernel_rfl

theorem wrT {x : Int} (h : -9223372036854775808 ≤ x ∧ x ≤ 9223372036854775807) : IntKind.i64.wrap x = x := by
  rw [IntKind.wrap_i64]
  omega
def dotI (ax ay bx b_y px py : Int) : Int := (bx - ax) * (px - ax) + (b_y - ay) * (py - ay)
def cmpS (ax ay bx b_y px py n : Int) : Int :=
  if dotI ax ay bx b_y px py ≤ 0 then cmpI (sqI ax ay px py) n else if dotI ax ay bx b_y bx b_y ≤ dotI ax ay bx b_y px py then cmpI (sqI bx b_y px py) n
  else cmpI (crossI ax ay bx b_y px py * crossI ax ay bx b_y px py) (n * dotI ax ay bx b_y bx b_y)
def cmpR (ax ay bx b_y px py n : Int) : Int := if segB ax ay bx b_y && ptB px py && decide (0 ≤ n ∧ n ≤ 8000000) then cmpS ax ay bx b_y px py n else 2
theorem cmpI_sub (x y : Int) : cmpI (x - y) 0 = cmpI x y := by
  unfold cmpI
  split <;> split <;> (try split) <;> (try split) <;> omega
structure SegBd (ax ay bx b_y px py n : Int) : Prop where
  a1 : -2000 ≤ bx - ax ∧ bx - ax ≤ 2000
  a2 : -2000 ≤ b_y - ay ∧ b_y - ay ≤ 2000
  a3 : -2000 ≤ px - ax ∧ px - ax ≤ 2000
  a4 : -2000 ≤ py - ay ∧ py - ay ≤ 2000
  a5 : -2000 ≤ px - bx ∧ px - bx ≤ 2000
  a6 : -2000 ≤ py - b_y ∧ py - b_y ≤ 2000
theorem res_specCmp (ax ay bx b_y px py n : Int) : Res Try.prog 31 [.v (.agg #[iv ax, iv ay, iv bx, iv b_y]), .v (.agg #[iv px, iv py]), .v (iv n)] (iv (cmpR ax ay bx b_y px py n)) := by
  refine res_of mixed (tabE_ok T2_ok) (m := 30) (n := 12) ?_
  rw [tr_specCmp]
  unfold cmpR
  rcases hs : segB ax ay bx b_y with _ | _
  · simp [brT, Tree.ok]
  rcases hp : ptB px py with _ | _
  · simp [brT, Tree.ok]
  by_cases hn : 0 ≤ n
  rotate_left
  · simp [brT, Tree.ok, show ¬ n ≥ 0 from hn]
  by_cases hn2 : n ≤ 8000000
  rotate_left
  · simp [brT, Tree.ok, show n ≥ 0 from hn, hn2]
  obtain ⟨h1, h2, _⟩ := segB_true hs
  have h1 := ptB_true h1
  have h2 := ptB_true h2
  have h3 := ptB_true hp
  have p1 := mul_bd (x := bx - ax) (y := px - ax) 2000 2000 (by omega) (by omega)
  have p2 := mul_bd (x := b_y - ay) (y := py - ay) 2000 2000 (by omega) (by omega)
  have p3 := mul_bd (x := ax - bx) (y := px - bx) 2000 2000 (by omega) (by omega)
  have p4 := mul_bd (x := ay - b_y) (y := py - b_y) 2000 2000 (by omega) (by omega)
  have p5 := mul_bd (x := ax - px) (y := ax - px) 2000 2000 (by omega) (by omega)
  have p6 := mul_bd (x := ay - py) (y := ay - py) 2000 2000 (by omega) (by omega)
  have p7 := mul_bd (x := bx - px) (y := bx - px) 2000 2000 (by omega) (by omega)
  have p8 := mul_bd (x := b_y - py) (y := b_y - py) 2000 2000 (by omega) (by omega)
  have p9 := mul_bd (x := bx - ax) (y := py - ay) 2000 2000 (by omega) (by omega)
  have p10 := mul_bd (x := b_y - ay) (y := px - ax) 2000 2000 (by omega) (by omega)
  have p11 := mul_bd (x := ax - bx) (y := ax - bx) 2000 2000 (by omega) (by omega)
  have p12 := mul_bd (x := ay - b_y) (y := ay - b_y) 2000 2000 (by omega) (by omega)
  have p13 := mul_bd (x := (bx - ax) * (py - ay) - (b_y - ay) * (px - ax)) (y := (bx - ax) * (py - ay) - (b_y - ay) * (px - ax)) 8000000 8000000 (by omega) (by omega)
  have p14 := mul_bd (x := n) (y := (ax - bx) * (ax - bx) + (ay - b_y) * (ay - b_y)) 8000000 8000000 (by omega) (by omega)
  simp (disch := omega) only [wrT]
  simp only [Bool.not_true, brT_f, show n ≥ 0 from hn, hn2, decide_true, brT_t, Int.mul_one, cmpI_sub, and_self, Bool.and_self, if_true]
  have i1 : (ax - bx) * (px - bx) + (ay - b_y) * (py - b_y) = dotI ax ay bx b_y bx b_y - dotI ax ay bx b_y px py := by unfold dotI; grind
  have i2 : (bx - ax) * (px - ax) + (b_y - ay) * (py - ay) = dotI ax ay bx b_y px py := rfl
  have i3 : (ax - bx) * (ax - bx) + (ay - b_y) * (ay - b_y) = dotI ax ay bx b_y bx b_y := by unfold dotI; grind
  rw [i1, i2, i3]
  unfold cmpS
  by_cases c1 : dotI ax ay bx b_y px py ≤ 0
  · rw [if_pos c1, decide_eq_true c1]
    rfl
  · rw [if_neg c1, decide_eq_false c1, brT_f]
    by_cases c2 : dotI ax ay bx b_y bx b_y ≤ dotI ax ay bx b_y px py
    · rw [if_pos c2, decide_eq_true (by omega)]
      rfl
    · rw [if_neg c2, decide_eq_false (by omega)]
      rfl
theorem cmpI_mul {x y L : Int} (h : 0 < L) : cmpI (x * L) (y * L) = cmpI x y := by
  rcases Int.lt_trichotomy x y with k | k | k
  · have := Int.mul_lt_mul_of_pos_right k h
    unfold cmpI
    rw [if_pos k, if_pos this]
  · rw [k]
    unfold cmpI
    rw [if_neg (Int.lt_irrefl _), if_neg (Int.lt_irrefl _), if_neg (Int.lt_irrefl _), if_neg (Int.lt_irrefl _)]
  · have := Int.mul_lt_mul_of_pos_right k h
    unfold cmpI
    rw [if_neg (show ¬ x * L < y * L by omega), if_pos this, if_neg (show ¬ x < y by omega), if_pos k]
theorem sq_nn (x : Int) : 0 ≤ x * x := by
  rcases Int.le_total 0 x with h | h
  · exact Int.mul_nonneg h h
  · exact Int.mul_nonneg_of_nonpos_of_nonpos h h
theorem seg_len {ax ay bx b_y : Int} (he : eqB ax ay bx b_y = false) : 1 ≤ (ax - bx) * (ax - bx) + (ay - b_y) * (ay - b_y) := by
  have z1 := sq_nn (ax - bx)
  have z2 := sq_nn (ay - b_y)
  rcases Int.lt_or_le 0 ((ax - bx) * (ax - bx) + (ay - b_y) * (ay - b_y)) with h | h
  · omega
  · exfalso
    have e1 : (ax - bx) * (ax - bx) = 0 := by omega
    have e2 : (ay - b_y) * (ay - b_y) = 0 := by omega
    have f1 : ax - bx = 0 := by rcases Int.mul_eq_zero.1 e1 with e | e <;> exact e
    have f2 : ay - b_y = 0 := by rcases Int.mul_eq_zero.1 e2 with e | e <;> exact e
    simp only [eqB, Bool.and_eq_false_iff, beq_eq_false_iff_ne, ne_eq] at he
    omega
theorem res_implCmp (ax ay bx b_y px py n : Int) : Res Try.prog 33 [.v (.agg #[iv ax, iv ay, iv bx, iv b_y]), .v (.agg #[iv px, iv py]), .v (iv n)] (iv (cmpR ax ay bx b_y px py n)) := by
  refine res_of mixed (tabE_ok T2_ok) (m := 30) (n := 12) ?_
  rw [tr_implCmp]
  unfold cmpR
  rcases hs : segB ax ay bx b_y with _ | _
  · simp [brT, Tree.ok]
  rcases hp : ptB px py with _ | _
  · simp [brT, Tree.ok]
  by_cases hn : n < 0
  · simp [brT, Tree.ok, hn, show ¬ 0 ≤ n by omega]
  by_cases hn2 : n > 8000000
  · simp [brT, Tree.ok, hn, hn2, show ¬ n ≤ 8000000 by omega]
  obtain ⟨v1, v2, he⟩ := segB_true hs
  have h1 := ptB_true v1
  have h2 := ptB_true v2
  have h3 := ptB_true hp
  have p1 := mul_bd (x := bx - ax) (y := px - ax) 2000 2000 (by omega) (by omega)
  have p2 := mul_bd (x := b_y - ay) (y := py - ay) 2000 2000 (by omega) (by omega)
  have p5 := mul_bd (x := ax - px) (y := ax - px) 2000 2000 (by omega) (by omega)
  have p6 := mul_bd (x := ay - py) (y := ay - py) 2000 2000 (by omega) (by omega)
  have p7 := mul_bd (x := bx - px) (y := bx - px) 2000 2000 (by omega) (by omega)
  have p8 := mul_bd (x := b_y - py) (y := b_y - py) 2000 2000 (by omega) (by omega)
  have p9 := mul_bd (x := bx - ax) (y := py - ay) 2000 2000 (by omega) (by omega)
  have p10 := mul_bd (x := b_y - ay) (y := px - ax) 2000 2000 (by omega) (by omega)
  have p11 := mul_bd (x := bx - ax) (y := bx - ax) 2000 2000 (by omega) (by omega)
  have p12 := mul_bd (x := b_y - ay) (y := b_y - ay) 2000 2000 (by omega) (by omega)
  have q11 := mul_bd (x := ax - bx) (y := ax - bx) 2000 2000 (by omega) (by omega)
  have q12 := mul_bd (x := ay - b_y) (y := ay - b_y) 2000 2000 (by omega) (by omega)
  have p13 := mul_bd (x := (bx - ax) * (py - ay) - (b_y - ay) * (px - ax)) (y := (bx - ax) * (py - ay) - (b_y - ay) * (px - ax)) 8000000 8000000 (by omega) (by omega)
  have sL := seg_len he
  have eL : sqR ax ay bx b_y = (ax - bx) * (ax - bx) + (ay - b_y) * (ay - b_y) := sqR_yes (by rw [v1, v2]; rfl)
  have eA : sqR ax ay px py = (ax - px) * (ax - px) + (ay - py) * (ay - py) := sqR_yes (by rw [v1, hp]; rfl)
  have eB : sqR bx b_y px py = (bx - px) * (bx - px) + (b_y - py) * (b_y - py) := sqR_yes (by rw [v2, hp]; rfl)
  rw [eL, eA, eB, show (if (ax - bx) * (ax - bx) + (ay - b_y) * (ay - b_y) < 1 then (1 : Int) else (ax - bx) * (ax - bx) + (ay - b_y) * (ay - b_y)) = (ax - bx) * (ax - bx) + (ay - b_y) * (ay - b_y) from if_neg (by omega)]
  have i3 : (ax - bx) * (ax - bx) + (ay - b_y) * (ay - b_y) = dotI ax ay bx b_y bx b_y := by unfold dotI; grind
  have hL0 : 0 < dotI ax ay bx b_y bx b_y ∧ dotI ax ay bx b_y bx b_y ≤ 8000000 := by rw [← i3]; omega
  rw [i3]
  have p14 := mul_bd (x := n) (y := dotI ax ay bx b_y bx b_y) 8000000 8000000 (by omega) (by omega)
  have p15 := mul_bd (x := (ax - px) * (ax - px) + (ay - py) * (ay - py)) (y := dotI ax ay bx b_y bx b_y) 8000000 8000000 (by omega) (by omega)
  have p16 := mul_bd (x := (bx - px) * (bx - px) + (b_y - py) * (b_y - py)) (y := dotI ax ay bx b_y bx b_y) 8000000 8000000 (by omega) (by omega)
  have i4 : (bx - ax) * (bx - ax) + (b_y - ay) * (b_y - ay) = dotI ax ay bx b_y bx b_y := rfl
  have i2 : (bx - ax) * (px - ax) + (b_y - ay) * (py - ay) = dotI ax ay bx b_y px py := rfl
  simp (disch := omega) only [wrT]
  simp only [Bool.not_true, brT_f, hn, hn2, decide_true, decide_false, Bool.and_self, if_true, show 0 ≤ n ∧ n ≤ 8000000 by omega, and_self]
  rw [i2, i4, cmpI_mul hL0.1, cmpI_mul hL0.1]
  unfold cmpS
  by_cases c1 : dotI ax ay bx b_y px py ≤ 0
  · rw [if_pos c1, decide_eq_true c1]
    rfl
  · rw [if_neg c1, decide_eq_false c1, brT_f]
    by_cases c2 : dotI ax ay bx b_y bx b_y ≤ dotI ax ay bx b_y px py
    · rw [if_pos c2, decide_eq_true c2]
      rfl
    · rw [if_neg c2, decide_eq_false c2]
      rfl
def pCmpS : List DArg → Option (Value × List Prop)
  | [.v (.agg ⟨[.int .i64 ax, .int .i64 ay, .int .i64 bx, .int .i64 b_y]⟩), .v (.agg ⟨[.int .i64 px, .int .i64 py]⟩), .v (.int .i64 n)] => some (iv (cmpR ax ay bx b_y px py n), [])
  | _ => none
def T3 : Tab := fun f ds => match f with
  | 31 => pCmpS ds
  | 33 => pCmpS ds
  | f => T2 f ds
set_option maxRecDepth 100000 in
theorem tr_lawCmp (ax ay bx b_y px py n : Int) : runX Try.prog (tabE T3) 30 12 11 [.v (.agg #[iv ax, iv ay, iv bx, iv b_y]), .v (.agg #[iv px, iv py]), .v (iv n)] (fun u => .fin u []) = brT (!cmpR ax ay bx b_y px py n == cmpR ax ay bx b_y px py n) (.fin (.bool (false)) []) (.fin (.bool (true)) []) := by kernel_rfl
theorem T3_ok : TabOk Try.prog T3 := by
  intro f ds v C h hC
  unfold T3 at h
  split at h
  · unfold pCmpS at h
    split at h
    · obtain ⟨rfl, rfl⟩ : _ ∧ _ := by simpa using h
      exact res_specCmp _ _ _ _ _ _ _
    · cases h
  · unfold pCmpS at h
    split at h
    · obtain ⟨rfl, rfl⟩ : _ ∧ _ := by simpa using h
      exact res_implCmp _ _ _ _ _ _ _
    · cases h
  · exact T2_ok _ _ _ _ h hC
theorem ExactCompareToSegment_walk (ax ay bx b_y px py n : Int) (w : World) :
    Calls Try.prog 11 #[.agg #[.int .i64 ax, .int .i64 ay, .int .i64 bx, .int .i64 b_y], .agg #[.int .i64 px, .int .i64 py], .int .i64 n] w fun e w' => e = .returned (.bool true) ∧ Below w.heap.size w w' := by
  refine Res.plain_call (args := [.agg #[iv ax, iv ay, iv bx, iv b_y], .agg #[iv px, iv py], iv n]) (res_of mixed (tabE_ok T3_ok) (m := 30) (n := 12) ?_) rfl w
  show (runX Try.prog (tabE T3) 30 12 11 [.v (.agg #[iv ax, iv ay, iv bx, iv b_y]), .v (.agg #[iv px, iv py]), .v (iv n)] (fun u => .fin u [])).ok _ _
  rw [tr_lawCmp]
  simp [brT, Tree.ok]
theorem ExactCompareToSegment_res (ax ay bx b_y px py n : Int) : Res Try.prog 11 [.v (.agg #[iv ax, iv ay, iv bx, iv b_y]), .v (.agg #[iv px, iv py]), .v (iv n)] (.bool true) := by
  refine res_of mixed (tabE_ok T3_ok) (m := 30) (n := 12) ?_
  rw [tr_lawCmp]
  simp [brT, Tree.ok]
end Go.Proofs.Ytoijfjifaljpaaa
