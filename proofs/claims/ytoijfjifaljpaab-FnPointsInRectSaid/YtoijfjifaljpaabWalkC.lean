/-
  Contracts and walks: Orient and SquaredDistance, the program's and the model's. Written by an AI agent.
-/
import Derived.Test.YtoijfjifaljpaabWalkB
namespace Go.Proofs.Ytoijfjifaljpaab
open Go.RowKit

/-- The sign of a number. -/
def sgn (n : Int) : Int := if n < 0 then -1 else if 0 < n then 1 else 0
theorem sgn_neg {n : Int} (h : n < 0) : sgn n = -1 := by unfold sgn; rw [if_pos h]
theorem sgn_pos {n : Int} (h : 0 < n) : sgn n = 1 := by unfold sgn; rw [if_neg (by omega), if_pos h]
theorem sgn_zero {n : Int} (h : n = 0) : sgn n = 0 := by unfold sgn; rw [if_neg (by omega), if_neg (by omega)]

theorem isNaN_any (n : Int) (w : World) :
    Calls Try.prog 139 #[.int .i64 n] w fun e w' => e = .returned (.bool false) ∧ w = w' := by
  have hn : (n != n) = false := by simp
  go_enter Try.func139, Try.ntmps139
  go_wp2
  go_ret
  simp
theorem compare_any (a b : Int) (w : World) :
    Calls Try.prog 113 #[.int .i64 a, .int .i64 b] w fun e w' => e = .returned (.int .i64 (sgn (a - b))) ∧ w = w' := by

  by_cases h1 : a < b
  · have HS := Lib.hid (sgn_neg (n := a - b) (by omega))
    go_enter Try.func113, Try.ntmps113
    go_wp2_with (go_at_call 139; refine (isNaN_any _ _).mono ?_; rintro e w' ⟨rfl, rfl⟩)
    go_ret
    exact ⟨ret_int HS.out.symm, rfl⟩
  · by_cases h2 : b < a
    · have HS := Lib.hid (sgn_pos (n := a - b) (by omega))
      go_enter Try.func113, Try.ntmps113
      go_wp2_with (go_at_call 139; refine (isNaN_any _ _).mono ?_; rintro e w' ⟨rfl, rfl⟩)
      go_ret
      exact ⟨ret_int HS.out.symm, rfl⟩
    · have HS := Lib.hid (sgn_zero (n := a - b) (by omega))
      go_enter Try.func113, Try.ntmps113
      go_wp2_with (go_at_call 139; refine (isNaN_any _ _).mono ?_; rintro e w' ⟨rfl, rfl⟩)
      go_ret
      exact ⟨ret_int HS.out.symm, rfl⟩
theorem implSign_any (n : Int) (w : World) :
    Calls Try.prog 83 #[.int .i64 n] w fun e w' => e = .returned (.int .i64 (sgn n)) ∧ w = w' := by
  go_enter Try.func83, Try.ntmps83
  go_wp2_with (go_at_call 113; refine (compare_any _ _ _).mono ?_; rintro e w' ⟨rfl, rfl⟩)
  go_ret
  simp

/-- What Orient answers. -/
def orientR (ax ay bx b_y cx cy : Int) : Int := if ptB ax ay && ptB bx b_y && ptB cx cy then sgn (crossI ax ay bx b_y cx cy) else 2
theorem orientR_no {ax ay bx b_y cx cy : Int} (h : (ptB ax ay && ptB bx b_y && ptB cx cy) = false) : orientR ax ay bx b_y cx cy = 2 := by unfold orientR; rw [h]; rfl
theorem orientR_yes {ax ay bx b_y cx cy : Int} (h : (ptB ax ay && ptB bx b_y && ptB cx cy) = true) : orientR ax ay bx b_y cx cy = sgn (crossI ax ay bx b_y cx cy) := by unfold orientR; rw [h]; rfl

theorem implOrient_any (ax ay bx b_y cx cy : Int) (w : World) :
    Calls Try.prog 41 #[.agg #[.int .i64 ax, .int .i64 ay], .agg #[.int .i64 bx, .int .i64 b_y], .agg #[.int .i64 cx, .int .i64 cy]] w fun e w' => e = .returned (.int .i64 (orientR ax ay bx b_y cx cy)) ∧ Below w.heap.size w w' := by
  go_enter Try.func41, Try.ntmps41
  go_wp2_with fail
  refine (allValid3_any _ _ ax ay bx b_y cx cy _ ?_ ?_ ?_ ?_ ?_ ?_ ?_).mono ?_
  all_goals (try (simp [go_sem]; done))
  rintro e w1 ⟨rfl, hb1⟩; obtain ⟨hc1, hf1, hz1⟩ := bc3 w.heap.size hb1 (by simp)
  have hn : Below w.heap.size w w1 := nt (na (na (na (na (nr _) _) _) _) _) hb1
  rcases hv : (ptB ax ay && ptB bx b_y && ptB cx cy) with _ | _
  · have HV := Lib.hid hv
    clear hv
    go_wp2
    go_ret
    exact ⟨ret_int (orientR_no HV.out).symm, hn⟩
  · obtain ⟨va, vb, vc⟩ := and3 hv
    have HR := Lib.hid (orientR_yes hv)
    have VA := Lib.hid va
    have VB := Lib.hid vb
    have VC := Lib.hid vc
    clear hv va vb vc
    go_wp2_with (first
      | (go_at_call 80; refine (turn_any _ _ _ _ _ _ _ VA.out VB.out VC.out).mono ?_; rintro e w2 ⟨rfl, hb2⟩)
      | (go_at_call 83; refine (implSign_any _ _).mono ?_; rintro e w2 ⟨rfl, rfl⟩))
    go_ret
    exact ⟨ret_int HR.out.symm, nt hn hb2⟩
/-! ### Squared distances -/
def sqI (ax ay bx b_y : Int) : Int := (ax - bx) * (ax - bx) + (ay - b_y) * (ay - b_y)
def sqR (ax ay bx b_y : Int) : Int := if ptB ax ay && ptB bx b_y then sqI ax ay bx b_y else -1
theorem sqR_no {ax ay bx b_y : Int} (h : (ptB ax ay && ptB bx b_y) = false) : sqR ax ay bx b_y = -1 := by unfold sqR; rw [h]; rfl
theorem sqR_yes {ax ay bx b_y : Int} (h : (ptB ax ay && ptB bx b_y) = true) : sqR ax ay bx b_y = sqI ax ay bx b_y := by unfold sqR; rw [h]; rfl
theorem sq_bd {ax ay bx b_y : Int} (ha : ptB ax ay = true) (hb : ptB bx b_y = true) :
    ((-2000 ≤ ax - bx ∧ ax - bx ≤ 2000) ∧ (-2000 ≤ ay - b_y ∧ ay - b_y ≤ 2000)) ∧ (-4000000 ≤ (ax - bx) * (ax - bx) ∧ (ax - bx) * (ax - bx) ≤ 4000000) ∧ (-4000000 ≤ (ay - b_y) * (ay - b_y) ∧ (ay - b_y) * (ay - b_y) ≤ 4000000) := by
  have a1 := ptB_true ha
  have b1 := ptB_true hb
  refine ⟨by omega, ?_, ?_⟩
  · have := mul_bd (x := ax - bx) (y := ax - bx) 2000 2000 (by omega) (by omega)
    omega
  · have := mul_bd (x := ay - b_y) (y := ay - b_y) 2000 2000 (by omega) (by omega)
    omega
theorem square_any (ax ay bx b_y : Int) (w : World) (ha : ptB ax ay = true) (hb : ptB bx b_y = true) :
    Calls Try.prog 122 #[.agg #[.int .i64 ax, .int .i64 ay], .agg #[.int .i64 bx, .int .i64 b_y]] w fun e w' => e = .returned (.int .i64 (sqI ax ay bx b_y)) ∧ Below w.heap.size w w' := by
  have bd := sq_bd ha hb
  clear ha hb
  go_enter Try.func122, Try.ntmps122
  go_wp2
  go_ret
  exact ⟨rfl, na (na (nr _) _) _⟩
theorem implSquared_any (ax ay bx b_y : Int) (w : World) :
    Calls Try.prog 54 #[.agg #[.int .i64 ax, .int .i64 ay], .agg #[.int .i64 bx, .int .i64 b_y]] w fun e w' => e = .returned (.int .i64 (sqR ax ay bx b_y)) ∧ Below w.heap.size w w' := by
  go_enter Try.func54, Try.ntmps54
  go_wp2_with fail
  refine (allValid2_any _ _ ax ay bx b_y _ ?_ ?_ ?_ ?_ ?_).mono ?_
  all_goals (try (simp [go_sem]; done))
  rintro e w1 ⟨rfl, hb1⟩; obtain ⟨hc1, hf1, hz1⟩ := bc2 w.heap.size hb1 (by simp)
  have hn : Below w.heap.size w w1 := nt (na (na (na (nr _) _) _) _) hb1
  rcases hv : (ptB ax ay && ptB bx b_y) with _ | _
  · have HV := Lib.hid hv
    clear hv
    go_wp2
    go_ret
    exact ⟨ret_int (sqR_no HV.out).symm, hn⟩
  · obtain ⟨va, vb⟩ := and2 hv
    have HR := Lib.hid (sqR_yes hv)
    have bd := sq_bd va vb
    clear hv va vb
    go_wp2_with fail
    refine (minus_any _ _ _ _ _ (by omega) (by omega)).mono ?_; rintro e w2 ⟨rfl, hb2⟩
    go_wp2_with fail
    refine (pdot_any _ _ _ _ _ (by omega) (by omega)).mono ?_; rintro e w3 ⟨rfl, hb3⟩
    go_wp2_with fail
    go_ret
    exact ⟨ret_int HR.out.symm, by repeat' (first | exact nr _ | apply na | apply Below.drew | refine nt ?_ (by assumption))⟩
end Go.Proofs.Ytoijfjifaljpaab
