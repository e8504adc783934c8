/-
  The law of distances from a drawn segment. Written by an AI agent.
-/
import Derived.Test.YtoijfjifaljpaaaLawIs
namespace Go.Proofs.Ytoijfjifaljpaaa
open Go.RowKit
def pSegQ : List DArg → Option (Value × List Prop)
  | [.v (.agg ⟨[.int .i64 a, .int .i64 b, .int .i64 c, .int .i64 d]⟩)] => some (.bool (segB a b c d), [])
  | _ => none
def pSqQ : List DArg → Option (Value × List Prop)
  | [.v (.agg ⟨[.int .i64 ax, .int .i64 ay]⟩), .v (.agg ⟨[.int .i64 px, .int .i64 py]⟩)] => some (iv (sqR ax ay px py), [])
  | _ => none
def TQ2 : Tab := fun f ds => match f with
  | 35 => pSqQ ds
  | 56 => pSegQ ds
  | 59 => pSegQ ds
  | _ => T1 f ds
theorem TQ2_ok : TabOk Try.prog TQ2 := by
  intro f ds v C h hC
  unfold TQ2 at h
  split at h
  · unfold pSqQ at h
    split at h
    · obtain ⟨rfl, rfl⟩ : _ ∧ _ := by simpa using h
      exact res_calls (by kernel_rfl) rfl rfl fun w => implSquared_any _ _ _ _ w
    · cases h
  · unfold pSegQ at h
    split at h
    · obtain ⟨rfl, rfl⟩ : _ ∧ _ := by simpa using h
      exact res_calls (by kernel_rfl) rfl rfl fun w => specSeg_any _ _ _ _ w
    · cases h
  · unfold pSegQ at h
    split at h
    · obtain ⟨rfl, rfl⟩ : _ ∧ _ := by simpa using h
      exact res_calls (by kernel_rfl) rfl rfl fun w => implSeg_any _ _ _ _ w
    · cases h
  · exact T1_ok _ _ _ _ h hC
set_option maxRecDepth 100000 in
theorem tr_specCmp (ax ay bx b_y px py n : Int) : runX Try.prog (tabE TQ2) 30 12 31 [.v (.agg #[iv ax, iv ay, iv bx, iv b_y]), .v (.agg #[iv px, iv py]), .v (iv n)] (fun u => .fin u []) = brT (!segB ax ay bx b_y) (.fin (.int .i64 (2)) []) (brT (!ptB px py) (.fin (.int .i64 (2)) []) (brT (decide (0 ≤ n)) (brT (!decide (n ≤ 8000000)) (.fin (.int .i64 (2)) []) (brT (decide (IntKind.i64.wrap (IntKind.i64.wrap (IntKind.i64.wrap (bx - ax) * IntKind.i64.wrap (px - ax)) + IntKind.i64.wrap (IntKind.i64.wrap (b_y - ay) * IntKind.i64.wrap (py - ay))) ≤ 0)) (.fin (.int .i64 (cmpI (IntKind.i64.wrap (IntKind.i64.wrap (IntKind.i64.wrap (IntKind.i64.wrap (ax - px) * IntKind.i64.wrap (ax - px)) + IntKind.i64.wrap (IntKind.i64.wrap (ay - py) * IntKind.i64.wrap (ay - py))) - IntKind.i64.wrap (n * 1))) 0)) []) (brT (decide (IntKind.i64.wrap (IntKind.i64.wrap (IntKind.i64.wrap (ax - bx) * IntKind.i64.wrap (px - bx)) + IntKind.i64.wrap (IntKind.i64.wrap (ay - b_y) * IntKind.i64.wrap (py - b_y))) ≤ 0)) (.fin (.int .i64 (cmpI (IntKind.i64.wrap (IntKind.i64.wrap (IntKind.i64.wrap (IntKind.i64.wrap (bx - px) * IntKind.i64.wrap (bx - px)) + IntKind.i64.wrap (IntKind.i64.wrap (b_y - py) * IntKind.i64.wrap (b_y - py))) - IntKind.i64.wrap (n * 1))) 0)) []) (.fin (.int .i64 (cmpI (IntKind.i64.wrap (IntKind.i64.wrap (IntKind.i64.wrap (IntKind.i64.wrap (IntKind.i64.wrap (bx - ax) * IntKind.i64.wrap (py - ay)) - IntKind.i64.wrap (IntKind.i64.wrap (b_y - ay) * IntKind.i64.wrap (px - ax))) * IntKind.i64.wrap (IntKind.i64.wrap (IntKind.i64.wrap (bx - ax) * IntKind.i64.wrap (py - ay)) - IntKind.i64.wrap (IntKind.i64.wrap (b_y - ay) * IntKind.i64.wrap (px - ax)))) - IntKind.i64.wrap (n * IntKind.i64.wrap (IntKind.i64.wrap (IntKind.i64.wrap (ax - bx) * IntKind.i64.wrap (ax - bx)) + IntKind.i64.wrap (IntKind.i64.wrap (ay - b_y) * IntKind.i64.wrap (ay - b_y)))))) 0)) [])))) (.fin (.int .i64 (2)) []))) := by kernel_rfl
set_option maxRecDepth 100000 in
theorem tr_implCmp (ax ay bx b_y px py n : Int) : runX Try.prog (tabE TQ2) 30 12 33 [.v (.agg #[iv ax, iv ay, iv bx, iv b_y]), .v (.agg #[iv px, iv py]), .v (iv n)] (fun u => .fin u []) = brT (!segB ax ay bx b_y) (.fin (.int .i64 (2)) []) (brT (!ptB px py) (.fin (.int .i64 (2)) []) (brT (decide (n < 0)) (.fin (.int .i64 (2)) []) (brT (decide (8000000 < n)) (.fin (.int .i64 (2)) []) (brT (decide (IntKind.i64.wrap (IntKind.i64.wrap (IntKind.i64.wrap (bx - ax) * IntKind.i64.wrap (px - ax)) + IntKind.i64.wrap (IntKind.i64.wrap (b_y - ay) * IntKind.i64.wrap (py - ay))) ≤ 0)) (.fin (.int .i64 (cmpI (IntKind.i64.wrap (sqR ax ay px py * if sqR ax ay bx b_y < 1 then 1 else sqR ax ay bx b_y)) (IntKind.i64.wrap (n * if sqR ax ay bx b_y < 1 then 1 else sqR ax ay bx b_y)))) []) (brT (decide (IntKind.i64.wrap (IntKind.i64.wrap (IntKind.i64.wrap (bx - ax) * IntKind.i64.wrap (bx - ax)) + IntKind.i64.wrap (IntKind.i64.wrap (b_y - ay) * IntKind.i64.wrap (b_y - ay))) ≤ IntKind.i64.wrap (IntKind.i64.wrap (IntKind.i64.wrap (bx - ax) * IntKind.i64.wrap (px - ax)) + IntKind.i64.wrap (IntKind.i64.wrap (b_y - ay) * IntKind.i64.wrap (py - ay))))) (.fin (.int .i64 (cmpI (IntKind.i64.wrap (sqR bx b_y px py * if sqR ax ay bx b_y < 1 then 1 else sqR ax ay bx b_y)) (IntKind.i64.wrap (n * if sqR ax ay bx b_y < 1 then 1 else sqR ax ay bx b_y)))) []) (.fin (.int .i64 (cmpI (IntKind.i64.wrap (IntKind.i64.wrap (IntKind.i64.wrap (IntKind.i64.wrap (bx - ax) * IntKind.i64.wrap (py - ay)) - IntKind.i64.wrap (IntKind.i64.wrap (b_y - ay) * IntKind.i64.wrap (px - ax))) * IntKind.i64.wrap (IntKind.i64.wrap (IntKind.i64.wrap (bx - ax) * IntKind.i64.wrap (py - ay)) - IntKind.i64.wrap (IntKind.i64.wrap (b_y - ay) * IntKind.i64.wrap (px - ax))))) (IntKind.i64.wrap (n * if sqR ax ay bx b_y < 1 then 1 else sqR ax ay bx b_y)))) [])))))) := by kernel_rfl

def dotI (ax ay bx b_y px py : Int) : Int := (bx - ax) * (px - ax) + (b_y - ay) * (py - ay)
def cmpS (ax ay bx b_y px py n : Int) : Int :=
  if dotI ax ay bx b_y px py ≤ 0 then cmpI (sqI ax ay px py) n else if dotI ax ay bx b_y bx b_y ≤ dotI ax ay bx b_y px py then cmpI (sqI bx b_y px py) n
  else cmpI (crossI ax ay bx b_y px py * crossI ax ay bx b_y px py) (n * dotI ax ay bx b_y bx b_y)
def cmpQ (ax ay bx b_y px py n : Int) : Int := if segB ax ay bx b_y && ptB px py && decide (0 ≤ n ∧ n ≤ 8000000) then cmpS ax ay bx b_y px py n else 2
theorem cmpI_sub (x y : Int) : cmpI (x - y) 0 = cmpI x y := by
  unfold cmpI
  split <;> split <;> (try split) <;> (try split) <;> omega
structure SegBd (ax ay bx b_y px py n : Int) : Prop where
  a1 : -2000 ≤ bx - ax ∧ bx - ax ≤ 2000
  a2 : -2000 ≤ b_y - ay ∧ b_y - ay ≤ 2000
  a3 : -2000 ≤ px - ax ∧ px - ax ≤ 2000
  a4 : -2000 ≤ py - ay ∧ py - ay ≤ 2000
  a5 : -2000 ≤ px - bx ∧ px - bx ≤ 2000
  a6 : -2000 ≤ py - b_y ∧ py - b_y ≤ 2000
theorem res_specCmp (ax ay bx b_y px py n : Int) : Res Try.prog 31 [.v (.agg #[iv ax, iv ay, iv bx, iv b_y]), .v (.agg #[iv px, iv py]), .v (iv n)] (iv (cmpQ ax ay bx b_y px py n)) := by
  refine res_of mixed (tabE_ok TQ2_ok) (m := 30) (n := 12) ?_
  rw [tr_specCmp]
  unfold cmpQ
  rcases hs : segB ax ay bx b_y with _ | _
  · simp [brT, Tree.ok]
  rcases hp : ptB px py with _ | _
  · simp [brT, Tree.ok]
  by_cases hn : 0 ≤ n
  rotate_left
  · simp [brT, Tree.ok, show ¬ n ≥ 0 from hn]
  by_cases hn2 : n ≤ 8000000
  rotate_left
  · simp [brT, Tree.ok, show n ≥ 0 from hn, hn2]
  obtain ⟨h1, h2, _⟩ := segB_true hs
  have h1 := ptB_true h1
  have h2 := ptB_true h2
  have h3 := ptB_true hp
  have p1 := mul_bd (x := bx - ax) (y := px - ax) 2000 2000 (by omega) (by omega)
  have p2 := mul_bd (x := b_y - ay) (y := py - ay) 2000 2000 (by omega) (by omega)
  have p3 := mul_bd (x := ax - bx) (y := px - bx) 2000 2000 (by omega) (by omega)
  have p4 := mul_bd (x := ay - b_y) (y := py - b_y) 2000 2000 (by omega) (by omega)
  have p5 := mul_bd (x := ax - px) (y := ax - px) 2000 2000 (by omega) (by omega)
  have p6 := mul_bd (x := ay - py) (y := ay - py) 2000 2000 (by omega) (by omega)
  have p7 := mul_bd (x := bx - px) (y := bx - px) 2000 2000 (by omega) (by omega)
  have p8 := mul_bd (x := b_y - py) (y := b_y - py) 2000 2000 (by omega) (by omega)
  have p9 := mul_bd (x := bx - ax) (y := py - ay) 2000 2000 (by omega) (by omega)
  have p10 := mul_bd (x := b_y - ay) (y := px - ax) 2000 2000 (by omega) (by omega)
  have p11 := mul_bd (x := ax - bx) (y := ax - bx) 2000 2000 (by omega) (by omega)
  have p12 := mul_bd (x := ay - b_y) (y := ay - b_y) 2000 2000 (by omega) (by omega)
  have p13 := mul_bd (x := (bx - ax) * (py - ay) - (b_y - ay) * (px - ax)) (y := (bx - ax) * (py - ay) - (b_y - ay) * (px - ax)) 8000000 8000000 (by omega) (by omega)
  have p14 := mul_bd (x := n) (y := (ax - bx) * (ax - bx) + (ay - b_y) * (ay - b_y)) 8000000 8000000 (by omega) (by omega)
  simp (disch := omega) only [wr]
  simp only [Bool.not_true, brT_f, show n ≥ 0 from hn, hn2, decide_true, brT_t, Int.mul_one, cmpI_sub, and_self, Bool.and_self, if_true]
  have i1 : (ax - bx) * (px - bx) + (ay - b_y) * (py - b_y) = dotI ax ay bx b_y bx b_y - dotI ax ay bx b_y px py := by unfold dotI; grind
  have i2 : (bx - ax) * (px - ax) + (b_y - ay) * (py - ay) = dotI ax ay bx b_y px py := rfl
  have i3 : (ax - bx) * (ax - bx) + (ay - b_y) * (ay - b_y) = dotI ax ay bx b_y bx b_y := by unfold dotI; grind
  rw [i1, i2, i3]
  unfold cmpS
  by_cases c1 : dotI ax ay bx b_y px py ≤ 0
  · rw [if_pos c1, decide_eq_true c1]
    rfl
  · rw [if_neg c1, decide_eq_false c1, brT_f]
    by_cases c2 : dotI ax ay bx b_y bx b_y ≤ dotI ax ay bx b_y px py
    · rw [if_pos c2, decide_eq_true (by omega)]
      rfl
    · rw [if_neg c2, decide_eq_false (by omega)]
      rfl
theorem cmpI_mul {x y L : Int} (h : 0 < L) : cmpI (x * L) (y * L) = cmpI x y := by
  rcases Int.lt_trichotomy x y with k | k | k
  · have := Int.mul_lt_mul_of_pos_right k h
    unfold cmpI
    rw [if_pos k, if_pos this]
  · rw [k]
    unfold cmpI
    rw [if_neg (Int.lt_irrefl _), if_neg (Int.lt_irrefl _), if_neg (Int.lt_irrefl _), if_neg (Int.lt_irrefl _)]
  · have := Int.mul_lt_mul_of_pos_right k h
    unfold cmpI
    rw [if_neg (show ¬ x * L < y * L by omega), if_pos this, if_neg (show ¬ x < y by omega), if_pos k]
theorem sq_nn (x : Int) : 0 ≤ x * x := by
  rcases Int.le_total 0 x with h | h
  · exact Int.mul_nonneg h h
  · exact Int.mul_nonneg_of_nonpos_of_nonpos h h
theorem seg_len {ax ay bx b_y : Int} (he : eqB ax ay bx b_y = false) : 1 ≤ (ax - bx) * (ax - bx) + (ay - b_y) * (ay - b_y) := by
  have z1 := sq_nn (ax - bx)
  have z2 := sq_nn (ay - b_y)
  rcases Int.lt_or_le 0 ((ax - bx) * (ax - bx) + (ay - b_y) * (ay - b_y)) with h | h
  · omega
  · exfalso
    have e1 : (ax - bx) * (ax - bx) = 0 := by omega
    have e2 : (ay - b_y) * (ay - b_y) = 0 := by omega
    have f1 : ax - bx = 0 := by rcases Int.mul_eq_zero.1 e1 with e | e <;> exact e
    have f2 : ay - b_y = 0 := by rcases Int.mul_eq_zero.1 e2 with e | e <;> exact e
    simp only [eqB, Bool.and_eq_false_iff, beq_eq_false_iff_ne, ne_eq] at he
    omega
theorem res_implCmp (ax ay bx b_y px py n : Int) : Res Try.prog 33 [.v (.agg #[iv ax, iv ay, iv bx, iv b_y]), .v (.agg #[iv px, iv py]), .v (iv n)] (iv (cmpQ ax ay bx b_y px py n)) := by
  refine res_of mixed (tabE_ok TQ2_ok) (m := 30) (n := 12) ?_
  rw [tr_implCmp]
  unfold cmpQ
  rcases hs : segB ax ay bx b_y with _ | _
  · simp [brT, Tree.ok]
  rcases hp : ptB px py with _ | _
  · simp [brT, Tree.ok]
  by_cases hn : n < 0
  · simp [brT, Tree.ok, hn, show ¬ 0 ≤ n by omega]
  by_cases hn2 : n > 8000000
  · simp [brT, Tree.ok, hn, hn2, show ¬ n ≤ 8000000 by omega]
  obtain ⟨v1, v2, he⟩ := segB_true hs
  have h1 := ptB_true v1
  have h2 := ptB_true v2
  have h3 := ptB_true hp
  have p1 := mul_bd (x := bx - ax) (y := px - ax) 2000 2000 (by omega) (by omega)
  have p2 := mul_bd (x := b_y - ay) (y := py - ay) 2000 2000 (by omega) (by omega)
  have p5 := mul_bd (x := ax - px) (y := ax - px) 2000 2000 (by omega) (by omega)
  have p6 := mul_bd (x := ay - py) (y := ay - py) 2000 2000 (by omega) (by omega)
  have p7 := mul_bd (x := bx - px) (y := bx - px) 2000 2000 (by omega) (by omega)
  have p8 := mul_bd (x := b_y - py) (y := b_y - py) 2000 2000 (by omega) (by omega)
  have p9 := mul_bd (x := bx - ax) (y := py - ay) 2000 2000 (by omega) (by omega)
  have p10 := mul_bd (x := b_y - ay) (y := px - ax) 2000 2000 (by omega) (by omega)
  have p11 := mul_bd (x := bx - ax) (y := bx - ax) 2000 2000 (by omega) (by omega)
  have p12 := mul_bd (x := b_y - ay) (y := b_y - ay) 2000 2000 (by omega) (by omega)
  have q11 := mul_bd (x := ax - bx) (y := ax - bx) 2000 2000 (by omega) (by omega)
  have q12 := mul_bd (x := ay - b_y) (y := ay - b_y) 2000 2000 (by omega) (by omega)
  have p13 := mul_bd (x := (bx - ax) * (py - ay) - (b_y - ay) * (px - ax)) (y := (bx - ax) * (py - ay) - (b_y - ay) * (px - ax)) 8000000 8000000 (by omega) (by omega)
  have sL := seg_len he
  have eL : sqR ax ay bx b_y = (ax - bx) * (ax - bx) + (ay - b_y) * (ay - b_y) := sqR_yes (by rw [v1, v2]; rfl)
  have eA : sqR ax ay px py = (ax - px) * (ax - px) + (ay - py) * (ay - py) := sqR_yes (by rw [v1, hp]; rfl)
  have eB : sqR bx b_y px py = (bx - px) * (bx - px) + (b_y - py) * (b_y - py) := sqR_yes (by rw [v2, hp]; rfl)
  rw [eL, eA, eB, show (if (ax - bx) * (ax - bx) + (ay - b_y) * (ay - b_y) < 1 then (1 : Int) else (ax - bx) * (ax - bx) + (ay - b_y) * (ay - b_y)) = (ax - bx) * (ax - bx) + (ay - b_y) * (ay - b_y) from if_neg (by omega)]
  have i3 : (ax - bx) * (ax - bx) + (ay - b_y) * (ay - b_y) = dotI ax ay bx b_y bx b_y := by unfold dotI; grind
  have hL0 : 0 < dotI ax ay bx b_y bx b_y ∧ dotI ax ay bx b_y bx b_y ≤ 8000000 := by rw [← i3]; omega
  rw [i3]
  have p14 := mul_bd (x := n) (y := dotI ax ay bx b_y bx b_y) 8000000 8000000 (by omega) (by omega)
  have p15 := mul_bd (x := (ax - px) * (ax - px) + (ay - py) * (ay - py)) (y := dotI ax ay bx b_y bx b_y) 8000000 8000000 (by omega) (by omega)
  have p16 := mul_bd (x := (bx - px) * (bx - px) + (b_y - py) * (b_y - py)) (y := dotI ax ay bx b_y bx b_y) 8000000 8000000 (by omega) (by omega)
  have i4 : (bx - ax) * (bx - ax) + (b_y - ay) * (b_y - ay) = dotI ax ay bx b_y bx b_y := rfl
  have i2 : (bx - ax) * (px - ax) + (b_y - ay) * (py - ay) = dotI ax ay bx b_y px py := rfl
  simp (disch := omega) only [wr]
  simp only [Bool.not_true, brT_f, hn, hn2, decide_true, decide_false, Bool.and_self, if_true, show 0 ≤ n ∧ n ≤ 8000000 by omega, and_self]
  rw [i2, i4, cmpI_mul hL0.1, cmpI_mul hL0.1]
  unfold cmpS
  by_cases c1 : dotI ax ay bx b_y px py ≤ 0
  · rw [if_pos c1, decide_eq_true c1]
    rfl
  · rw [if_neg c1, decide_eq_false c1, brT_f]
    by_cases c2 : dotI ax ay bx b_y bx b_y ≤ dotI ax ay bx b_y px py
    · rw [if_pos c2, decide_eq_true c2]
      rfl
    · rw [if_neg c2, decide_eq_false c2]
      rfl
def pCmpQ : List DArg → Option (Value × List Prop)
  | [.v (.agg ⟨[.int .i64 ax, .int .i64 ay, .int .i64 bx, .int .i64 b_y]⟩), .v (.agg ⟨[.int .i64 px, .int .i64 py]⟩), .v (.int .i64 n)] => some (iv (cmpQ ax ay bx b_y px py n), [])
  | _ => none
set_option maxRecDepth 100000 in
theorem tr_dCq (bs : List Int) (n : Nat) : bodyV Try.prog ER6 30 12 34 [.row n (.bytes bs)] = brT (decide (2000 < (↑n : Int))) (.need ((0 : Int) ≤ bndI none (0 : Int) ∧ bndI none (0 : Int) ≤ bndI (some (IntKind.i64, (2000 : Int))) (↑n : Int) ∧ bndI (some (IntKind.i64, (2000 : Int))) (↑n : Int) ≤ (↑n : Int)) (.need (rdK bs (2000 : Nat) (0 : Int)) (.need (rdK bs (2000 : Nat) (apP bs (2000 : Nat) (0 : Int))) (.need (rdK bs (2000 : Nat) (asP bs (2000 : Nat) (0 : Int))) (.need (rdC bs (2000 : Nat) (apP bs (2000 : Nat) (asP bs (2000 : Nat) (0 : Int)))) (.need ((1 : Nat) ≤ (9 : Nat) ∧ (9 : Nat) ≤ (9 : Nat) ∧ (9 : Nat) = (9 : Nat)) (.fin (.tuple #[.agg #[.int .i64 (apX bs 2000 0), .int .i64 (apY bs 2000 0), .int .i64 (asX bs 2000 0), .int .i64 (asY bs 2000 0)], .agg #[.int .i64 (apX bs 2000 (asP bs 2000 0)), .int .i64 (apY bs 2000 (asP bs 2000 0))], .int .i64 (oneI bs 2000 (apP bs 2000 (asP bs 2000 0)) 9 [0, 1, 2, 4, 5, 9, 8000000, -1, 8000001])]) []))))))) (.need (rdK bs n (0 : Int)) (.need (rdK bs n (apP bs n (0 : Int))) (.need (rdK bs n (asP bs n (0 : Int))) (.need (rdC bs n (apP bs n (asP bs n (0 : Int)))) (.need ((1 : Nat) ≤ (9 : Nat) ∧ (9 : Nat) ≤ (9 : Nat) ∧ (9 : Nat) = (9 : Nat)) (.fin (.tuple #[.agg #[.int .i64 (apX bs n 0), .int .i64 (apY bs n 0), .int .i64 (asX bs n 0), .int .i64 (asY bs n 0)], .agg #[.int .i64 (apX bs n (asP bs n 0)), .int .i64 (apY bs n (asP bs n 0))], .int .i64 (oneI bs n (apP bs n (asP bs n 0)) 9 [0, 1, 2, 4, 5, 9, 8000000, -1, 8000001])]) [])))))) := by kernel_rfl
def cqL : List Int := [0, 1, 2, 4, 5, 9, 8000000, -1, 8000001]
def dcq (bs : List Int) (l : Nat) : Nat → Int
  | 0 => apX bs l 0
  | 1 => apY bs l 0
  | 2 => asX bs l 0
  | 3 => asY bs l 0
  | 4 => apX bs l (asP bs l 0)
  | 5 => apY bs l (asP bs l 0)
  | _ => oneI bs l (apP bs l (asP bs l 0)) 9 cqL
def dcqV (bs : List Int) (n : Nat) : Value := .tuple #[agg4 (dcq bs (rdL n) 0) (dcq bs (rdL n) 1) (dcq bs (rdL n) 2) (dcq bs (rdL n) 3), agg2 (dcq bs (rdL n) 4) (dcq bs (rdL n) 5), iv (dcq bs (rdL n) 6)]
theorem res_dCq (bs : List Int) (n : Nat) (hb : Bytes bs) (hn : n ≤ bs.length) : Res Try.prog 34 [.row n (.bytes bs)] (dcqV bs n) := by
  refine bodyV_res mixed ER6_ok (m := 30) (n := 12) rfl ?_
  rw [tr_dCq]
  unfold dcqV
  simp only [dcq]
  have key : ∀ l, l ≤ n → l ≤ 2000 → rdK bs l 0 ∧ rdK bs l (apP bs l 0) ∧ rdK bs l (asP bs l 0) ∧ rdC bs l (apP bs l (asP bs l 0)) := fun l h1 h2 => by
    have b1 := apP_bd bs l 0
    have b2 := asP_bd bs l 0
    have b3 := apP_bd bs l (asP bs l 0)
    exact ⟨rdK0 hb hn h1 h2 (by omega) (by omega), rdK0 hb hn h1 h2 (by omega) (by omega), rdK0 hb hn h1 h2 (by omega) (by omega), (rdK0 hb hn h1 h2 (by omega) (by omega) : rdK bs l (apP bs l (asP bs l 0))).1⟩
  refine brT_ok.2 ⟨fun h => ?_, fun h => ?_⟩
  · have h := of_decide_eq_true h
    obtain ⟨k1, k2, k3, k4⟩ := key 2000 (by omega) (by omega)
    rw [rdL_of h]
    exact ⟨bnd2000 h, k1, k2, k3, k4, by decide, rfl⟩
  · have h := of_decide_eq_false h
    obtain ⟨k1, k2, k3, k4⟩ := key n (by omega) (by omega)
    rw [rdL_no h]
    exact ⟨k1, k2, k3, k4, by decide, rfl⟩
def gcqV (g : Nat → Int) : Value := .tuple #[agg4 (g 0) (g 1) (g 2) (g 3), agg2 (g 4) (g 5), iv (g 6)]
def pDCq (g : List Int → Nat → Nat → Int) : List DArg → Option (Value × List Prop)
  | [.row n (.bytes bs)] => some (gcqV (g bs n), [g = (fun bs n => dcq bs (rdL n)), Bytes bs, n ≤ bs.length])
  | _ => none
def TQ3 (g : List Int → Nat → Nat → Int) : Tab := fun f ds => match f with
  | 31 => pCmpQ ds
  | 33 => pCmpQ ds
  | 34 => pDCq g ds
  | 35 => pSqQ ds
  | _ => TI0 f ds
theorem TQ3_ok (g : List Int → Nat → Nat → Int) : TabOk Try.prog (TQ3 g) := by
  intro f ds v C h hC
  unfold TQ3 at h
  split at h
  · unfold pCmpQ at h
    split at h
    · obtain ⟨rfl, rfl⟩ : _ ∧ _ := by simpa using h
      exact res_specCmp _ _ _ _ _ _ _
    · cases h
  · unfold pCmpQ at h
    split at h
    · obtain ⟨rfl, rfl⟩ : _ ∧ _ := by simpa using h
      exact res_implCmp _ _ _ _ _ _ _
    · cases h
  · unfold pDCq at h
    split at h
    · obtain ⟨rfl, rfl⟩ : _ ∧ _ := by simpa using h
      obtain ⟨rfl, h1, h2, _⟩ := hC
      exact res_dCq _ _ h1 h2
    · cases h
  · unfold pSqQ at h
    split at h
    · obtain ⟨rfl, rfl⟩ : _ ∧ _ := by simpa using h
      exact res_calls (by kernel_rfl) rfl rfl fun w => implSquared_any _ _ _ _ w
    · cases h
  · exact TI0_ok _ _ _ _ h hC
set_option maxRecDepth 100000 in
theorem tr_lCq (g : List Int → Nat → Nat → Int) (bs : List Int) : bodyV Try.prog (tabE (TQ3 g)) 30 12 12 [.row bs.length (.bytes bs)] = brT (decide (1048576 < (↑bs.length : Int))) (.fin (.bool (true)) []) (.need (g = fun bs n => dcq bs (rdL n)) (.need (Bytes (List.drop (0 : Nat) bs)) (.need (bs.length ≤ (List.drop (0 : Nat) bs).length) (brT (!cmpQ (g (List.drop 0 bs) bs.length 0) (g (List.drop 0 bs) bs.length 1) (g (List.drop 0 bs) bs.length 2) (g (List.drop 0 bs) bs.length 3) (g (List.drop 0 bs) bs.length 4) (g (List.drop 0 bs) bs.length 5) (g (List.drop 0 bs) bs.length 6) == cmpQ (g (List.drop 0 bs) bs.length 0) (g (List.drop 0 bs) bs.length 1) (g (List.drop 0 bs) bs.length 2) (g (List.drop 0 bs) bs.length 3) (g (List.drop 0 bs) bs.length 4) (g (List.drop 0 bs) bs.length 5) (g (List.drop 0 bs) bs.length 6)) (.fin (.bool (cmpQ (g (List.drop 0 bs) bs.length 0) (g (List.drop 0 bs) bs.length 1) (g (List.drop 0 bs) bs.length 2) (g (List.drop 0 bs) bs.length 3) (g (List.drop 0 bs) bs.length 4) (g (List.drop 0 bs) bs.length 5) (g (List.drop 0 bs) bs.length 6) == cmpQ (g (List.drop 0 bs) bs.length 0) (g (List.drop 0 bs) bs.length 1) (g (List.drop 0 bs) bs.length 2) (g (List.drop 0 bs) bs.length 3) (g (List.drop 0 bs) bs.length 4) (g (List.drop 0 bs) bs.length 5) (g (List.drop 0 bs) bs.length 6))) []) (brT (cmpQ (g (List.drop 0 bs) bs.length 0) (g (List.drop 0 bs) bs.length 1) (g (List.drop 0 bs) bs.length 2) (g (List.drop 0 bs) bs.length 3) (g (List.drop 0 bs) bs.length 4) (g (List.drop 0 bs) bs.length 5) (g (List.drop 0 bs) bs.length 6) == 2) (.fin (.bool (cmpQ (g (List.drop 0 bs) bs.length 0) (g (List.drop 0 bs) bs.length 1) (g (List.drop 0 bs) bs.length 2) (g (List.drop 0 bs) bs.length 3) (g (List.drop 0 bs) bs.length 4) (g (List.drop 0 bs) bs.length 5) (g (List.drop 0 bs) bs.length 6) == cmpQ (g (List.drop 0 bs) bs.length 0) (g (List.drop 0 bs) bs.length 1) (g (List.drop 0 bs) bs.length 2) (g (List.drop 0 bs) bs.length 3) (g (List.drop 0 bs) bs.length 4) (g (List.drop 0 bs) bs.length 5) (g (List.drop 0 bs) bs.length 6))) []) (brT (decide (cmpQ (g (List.drop 0 bs) bs.length 0) (g (List.drop 0 bs) bs.length 1) (g (List.drop 0 bs) bs.length 2) (g (List.drop 0 bs) bs.length 3) (g (List.drop 0 bs) bs.length 4) (g (List.drop 0 bs) bs.length 5) (sqR (g (List.drop 0 bs) bs.length 0) (g (List.drop 0 bs) bs.length 1) (g (List.drop 0 bs) bs.length 4) (g (List.drop 0 bs) bs.length 5)) ≤ 0)) (brT (decide (cmpQ (g (List.drop 0 bs) bs.length 0) (g (List.drop 0 bs) bs.length 1) (g (List.drop 0 bs) bs.length 2) (g (List.drop 0 bs) bs.length 3) (g (List.drop 0 bs) bs.length 4) (g (List.drop 0 bs) bs.length 5) (sqR (g (List.drop 0 bs) bs.length 2) (g (List.drop 0 bs) bs.length 3) (g (List.drop 0 bs) bs.length 4) (g (List.drop 0 bs) bs.length 5)) ≤ 0)) (brT ((cmpQ (g (List.drop 0 bs) bs.length 0) (g (List.drop 0 bs) bs.length 1) (g (List.drop 0 bs) bs.length 2) (g (List.drop 0 bs) bs.length 3) (g (List.drop 0 bs) bs.length 4) (g (List.drop 0 bs) bs.length 5) 0 == 0) == onB (g (List.drop 0 bs) bs.length 0) (g (List.drop 0 bs) bs.length 1) (g (List.drop 0 bs) bs.length 2) (g (List.drop 0 bs) bs.length 3) (g (List.drop 0 bs) bs.length 4) (g (List.drop 0 bs) bs.length 5)) (brT (g (List.drop 0 bs) bs.length 6 == 8000000) (.fin (.bool (true)) []) (.fin (.bool (decide (cmpQ (g (List.drop 0 bs) bs.length 0) (g (List.drop 0 bs) bs.length 1) (g (List.drop 0 bs) bs.length 2) (g (List.drop 0 bs) bs.length 3) (g (List.drop 0 bs) bs.length 4) (g (List.drop 0 bs) bs.length 5) (IntKind.i64.wrap (g (List.drop 0 bs) bs.length 6 + 1)) ≤ cmpQ (g (List.drop 0 bs) bs.length 0) (g (List.drop 0 bs) bs.length 1) (g (List.drop 0 bs) bs.length 2) (g (List.drop 0 bs) bs.length 3) (g (List.drop 0 bs) bs.length 4) (g (List.drop 0 bs) bs.length 5) (g (List.drop 0 bs) bs.length 6)))) [])) (.fin (.bool (false)) [])) (.fin (.bool (false)) [])) (.fin (.bool (false)) []))))))) := by kernel_rfl
theorem sq_nonneg (x : Int) : 0 ≤ x * x := by
  rcases Int.le_total 0 x with h | h
  · exact Int.mul_nonneg h h
  · exact Int.mul_nonneg_of_nonpos_of_nonpos h h
theorem cmpI_le {x y : Int} (h : x ≤ y) : cmpI x y ≤ 0 := by unfold cmpI; split <;> (try split) <;> omega
theorem cmpI_mono {x y z : Int} (h : y ≤ z) : cmpI x z ≤ cmpI x y := by unfold cmpI; split <;> split <;> (try split) <;> (try split) <;> omega
theorem cmpI_eq {x y : Int} : cmpI x y = 0 ↔ x = y := by unfold cmpI; split <;> (try split) <;> omega
theorem cmpI_r (x y : Int) : -1 ≤ cmpI x y ∧ cmpI x y ≤ 1 := by unfold cmpI; split <;> (try split) <;> omega
theorem sq_zero {x : Int} (h : x * x = 0) : x = 0 := by rcases Int.mul_eq_zero.1 h with e | e <;> exact e
/-- The distance from a segment, by five numbers. -/
theorem cmp_core {A B L D X : Int} (hL0 : 0 < L) (lag : A * L = D * D + X * X) (hB : B = A - D - D + L) (hA0 : 0 ≤ A) (hAz : A = 0 → X = 0) (hBz : B = 0 → X = 0) :
    let f := fun n => if D ≤ 0 then cmpI A n else if L ≤ D then cmpI B n else cmpI (X * X) (n * L)
    f A ≤ 0 ∧ f B ≤ 0 ∧ (f 0 = 0 ↔ X = 0 ∧ A ≤ D) ∧ ∀ n, (-1 ≤ f n ∧ f n ≤ 1) ∧ f (n + 1) ≤ f n := by
  intro f
  have zD := sq_nonneg D
  have zDL := sq_nonneg (D - L)
  have eDL : (D - L) * (D - L) = D * D - D * L - D * L + L * L := by grind
  have eBL : B * L = A * L - D * L - D * L + L * L := by rw [hB]; grind
  refine ⟨?_, ?_, ?_, fun n => ⟨?_, ?_⟩⟩
  · show (if D ≤ 0 then cmpI A A else if L ≤ D then cmpI B A else cmpI (X * X) (A * L)) ≤ 0
    split
    · exact cmpI_le (by omega)
    · split
      · exact cmpI_le (by omega)
      · exact cmpI_le (by omega)
  · show (if D ≤ 0 then cmpI A B else if L ≤ D then cmpI B B else cmpI (X * X) (B * L)) ≤ 0
    split
    · exact cmpI_le (by omega)
    · split
      · exact cmpI_le (by omega)
      · exact cmpI_le (by omega)
  · show (if D ≤ 0 then cmpI A 0 else if L ≤ D then cmpI B 0 else cmpI (X * X) (0 * L)) = 0 ↔ _
    split
    · rw [cmpI_eq]
      constructor
      · intro h
        have hX := hAz h
        subst hX
        rw [h] at lag
        have := sq_zero (x := D) (by omega)
        omega
      · omega
    · split
      · rw [cmpI_eq]
        constructor
        · intro h
          have hX := hBz h
          subst hX
          have := sq_zero (x := D - L) (by rw [eDL]; rw [h] at eBL; omega)
          omega
        · intro ⟨h1, h2⟩
          subst h1
          have m1 : A * L ≤ D * L := Int.mul_le_mul_of_nonneg_right h2 (by omega)
          have m2 : D * (D - L) = D * D - D * L := by grind
          have m3 : D = L := by
            rcases Int.lt_or_le L D with h | h
            · have := Int.mul_pos (a := D) (b := D - L) (by omega) (by omega)
              omega
            · omega
          have m4 : B * L = 0 := by subst m3; omega
          rcases Int.mul_eq_zero.1 m4 with e | e <;> omega
      · rw [cmpI_eq]
        constructor
        · intro h
          have hX := sq_zero (x := X) (by omega)
          subst hX
          refine ⟨rfl, ?_⟩
          rcases Int.lt_or_le D A with h | h
          · have m1 : D * L ≤ A * L := Int.mul_le_mul_of_nonneg_right (by omega) (by omega)
            have m2 := Int.mul_pos (a := D) (b := L - D) (by omega) (by omega)
            have m3 : D * (L - D) = D * L - D * D := by grind
            omega
          · exact h
        · intro ⟨h1, h2⟩
          subst h1
          omega
  · show -1 ≤ (if D ≤ 0 then cmpI A n else if L ≤ D then cmpI B n else cmpI (X * X) (n * L)) ∧ (if D ≤ 0 then cmpI A n else if L ≤ D then cmpI B n else cmpI (X * X) (n * L)) ≤ 1
    split
    · exact cmpI_r _ _
    · split <;> exact cmpI_r _ _
  · show (if D ≤ 0 then cmpI A (n + 1) else if L ≤ D then cmpI B (n + 1) else cmpI (X * X) ((n + 1) * L)) ≤ (if D ≤ 0 then cmpI A n else if L ≤ D then cmpI B n else cmpI (X * X) (n * L))
    have e : (n + 1) * L = n * L + L := by grind
    split
    · exact cmpI_mono (by omega)
    · split
      · exact cmpI_mono (by omega)
      · exact cmpI_mono (by omega)
/-- What the distance from a segment is compared with. -/
theorem cmpS_part {a b c d p q : Int} (hs : segB a b c d = true) (hp : ptB p q = true) :
    cmpS a b c d p q (sqI a b p q) ≤ 0 ∧ cmpS a b c d p q (sqI c d p q) ≤ 0 ∧ (cmpS a b c d p q 0 = 0 ↔ hasB a b c d p q = true) ∧ ∀ n, (-1 ≤ cmpS a b c d p q n ∧ cmpS a b c d p q n ≤ 1) ∧ cmpS a b c d p q (n + 1) ≤ cmpS a b c d p q n := by
  obtain ⟨_, _, s3⟩ := segB_true hs
  have hne : a ≠ c ∨ b ≠ d := by
    unfold eqB at s3
    simp at s3
    by_cases h : a = c
    · exact .inr (s3 h)
    · exact .inl h
  -- the vectors from the first end
  generalize hu : c - a = u
  generalize hv : d - b = v
  generalize hx : p - a = x
  generalize hy : q - b = y
  have hL : dotI a b c d c d = u * u + v * v := by unfold dotI; rw [← hu, ← hv]
  have hD : dotI a b c d p q = u * x + v * y := by unfold dotI; rw [← hu, ← hv, ← hx, ← hy]
  have hA : sqI a b p q = x * x + y * y := by unfold sqI; rw [← hx, ← hy]; grind
  have hB : sqI c d p q = (x - u) * (x - u) + (y - v) * (y - v) := by unfold sqI; rw [← hx, ← hy, ← hu, ← hv]; grind
  have hX : crossI a b c d p q = u * y - v * x := by unfold crossI; rw [← hx, ← hy, ← hu, ← hv]
  have hH : hasB a b c d p q = true ↔ u * y - v * x = 0 ∧ x * x + y * y ≤ u * x + v * y := by
    unfold hasB
    simp only [Bool.and_eq_true, beq_iff_eq, decide_eq_true_eq]
    have e1 : (a - p) * (d - q) - (b - q) * (c - p) = u * y - v * x := by rw [← hx, ← hy, ← hu, ← hv]; grind
    have e2 : (a - p) * (c - p) + (b - q) * (d - q) = x * x + y * y - (u * x + v * y) := by rw [← hx, ← hy, ← hu, ← hv]; grind
    rw [e1, e2]
    omega
  have hL0 : 0 < u * u + v * v := by
    have z1 := sq_nonneg u
    have z2 := sq_nonneg v
    rcases hne with h | h
    · have : u * u ≠ 0 := fun e => by rcases Int.mul_eq_zero.1 e with e | e <;> omega
      omega
    · have : v * v ≠ 0 := fun e => by rcases Int.mul_eq_zero.1 e with e | e <;> omega
      omega
  have lag : (x * x + y * y) * (u * u + v * v) = (u * x + v * y) * (u * x + v * y) + (u * y - v * x) * (u * y - v * x) := by grind
  have hB2 : (x - u) * (x - u) + (y - v) * (y - v) = x * x + y * y - (u * x + v * y) - (u * x + v * y) + (u * u + v * v) := by grind
  have z1 := sq_nonneg x
  have z2 := sq_nonneg y
  have z3 := sq_nonneg (x - u)
  have z4 := sq_nonneg (y - v)
  have z5 := sq_nonneg (u * y - v * x)
  have z6 := sq_nonneg (u * x + v * y)
  have hxy : x * x + y * y = 0 → x = 0 ∧ y = 0 := fun e => by
    have e1 : x * x = 0 := by omega
    have e2 : y * y = 0 := by omega
    exact ⟨by rcases Int.mul_eq_zero.1 e1 with e | e <;> exact e, by rcases Int.mul_eq_zero.1 e2 with e | e <;> exact e⟩
  have core := cmp_core hL0 lag (hB2.trans (by omega)) (by omega) (fun e => by obtain ⟨e1, e2⟩ := hxy e; subst e1 e2; grind) (fun e => by
    have e1 : (x - u) * (x - u) = 0 := by omega
    have e2 : (y - v) * (y - v) = 0 := by omega
    have e1 := sq_zero e1
    have e2 := sq_zero e2
    have e1 : x = u := by omega
    have e2 : y = v := by omega
    subst e1 e2
    grind)
  unfold cmpS
  rw [hL, hD, hA, hB, hX, hH]
  exact core
theorem law_cq (bs : List Int) (hb : Bytes bs) (_ : bs.length ≤ maxLen) : Res Try.prog 12 [.row bs.length (.bytes bs)] (.bool true) := by
  refine bodyV_res mixed (tabE_ok (TQ3_ok fun bs n => dcq bs (rdL n))) (m := 30) (n := 12) rfl ?_
  rw [tr_lCq]
  simp only [List.drop_zero]
  generalize dcq bs (rdL bs.length) 0 = a
  generalize dcq bs (rdL bs.length) 1 = b
  generalize dcq bs (rdL bs.length) 2 = c
  generalize dcq bs (rdL bs.length) 3 = d
  generalize dcq bs (rdL bs.length) 4 = p
  generalize dcq bs (rdL bs.length) 5 = q
  generalize dcq bs (rdL bs.length) 6 = n
  rcases hok : (segB a b c d && ptB p q && decide (0 ≤ n ∧ n ≤ 8000000)) with _ | _
  · have e : cmpQ a b c d p q n = 2 := by
      unfold cmpQ
      rw [hok]
      rfl
    simp [brT_ok, Tree.ok, hb, e]
  obtain ⟨hs, hp, hn⟩ := and3 hok
  have hn := of_decide_eq_true hn
  have hq : ∀ m, 0 ≤ m → m ≤ 8000000 → cmpQ a b c d p q m = cmpS a b c d p q m := fun m h1 h2 => by
    unfold cmpQ
    rw [hs, hp, decide_eq_true ⟨h1, h2⟩]
    rfl
  obtain ⟨k1, k2, k3, k4⟩ := cmpS_part hs hp
  obtain ⟨s1, s2, _⟩ := segB_true hs
  have sqs : ∀ x y : Int, ptB x y = true → sqR x y p q = sqI x y p q ∧ 0 ≤ sqI x y p q ∧ sqI x y p q ≤ 8000000 := fun x y h => by
    refine ⟨sqR_yes (by rw [h, hp]; rfl), ?_⟩
    have b1 := (sq_bd h hp).2
    have z1 := sq_nonneg (x - p)
    have z2 := sq_nonneg (y - q)
    unfold sqI
    omega
  obtain ⟨e1, e2, e3⟩ := sqs a b s1
  obtain ⟨e4, e5, e6⟩ := sqs c d s2
  have hO : onB a b c d p q = hasB a b c d p q := onB_yes (by rw [hs, hp]; rfl)
  have hbq : (cmpS a b c d p q 0 == 0) = hasB a b c d p q := by
    rw [Bool.eq_iff_iff]
    simpa using k3
  have hne : cmpS a b c d p q n ≠ 2 := by
    have := (k4 n).1
    omega
  rw [e1, e4, hO, hq n hn.1 hn.2, hq _ e2 e3, hq _ e5 e6, hq 0 (by omega) (by omega), hbq]
  by_cases h8 : n = 8000000
  · simp [brT_ok, Tree.ok, hb, hne, k1, k2, h8]
  · have w : IntKind.i64.wrap (n + 1) = n + 1 := wr (by omega)
    rw [w, hq (n + 1) (by omega) (by omega)]
    simp [brT_ok, Tree.ok, hb, hne, k1, k2, h8, (k4 n).2]
end Go.Proofs.Ytoijfjifaljpaaa
