/-
  Lines: valid lines, sides; the program's and the model's; the walks of the laws on ValidLine and SideOf. Written by an AI agent.
-/
import Derived.Test.YtblpldapmmoheabBa
namespace Go.Proofs.Ytblpldapmmoheab
set_option linter.all false
open Go.RowKit

theorem gI_comm (a b : Int) : gI a b = gI b a := by unfold gI; rw [Int.gcd_comm]
/-- A line is valid. -/
def lineB (a b c : Int) : Bool := decide (0 ≤ a ∧ a ≤ 2000 ∧ -2000 ≤ b ∧ b ≤ 2000 ∧ -4000000 ≤ c ∧ c ≤ 4000000 ∧ (0 < a ∨ 0 < b) ∧ gI (gI a b) c = 1)
theorem lineB_true {a b c : Int} (h : lineB a b c = true) : 0 ≤ a ∧ a ≤ 2000 ∧ -2000 ≤ b ∧ b ≤ 2000 ∧ -4000000 ≤ c ∧ c ≤ 4000000 ∧ (0 < a ∨ 0 < b) ∧ gI (gI a b) c = 1 := of_decide_eq_true h
theorem lineB_no {a b c : Int} (h : ¬ (0 ≤ a ∧ a ≤ 2000 ∧ -2000 ≤ b ∧ b ≤ 2000 ∧ -4000000 ≤ c ∧ c ≤ 4000000 ∧ (0 < a ∨ 0 < b))) : lineB a b c = false :=
  decide_eq_false fun ⟨h1, h2, h3, h4, h5, h6, h7, _⟩ => h ⟨h1, h2, h3, h4, h5, h6, h7⟩
theorem lineB_mk {a b c : Int} (h : 0 ≤ a ∧ a ≤ 2000 ∧ -2000 ≤ b ∧ b ≤ 2000 ∧ -4000000 ≤ c ∧ c ≤ 4000000 ∧ (0 < a ∨ 0 < b)) : lineB a b c = (gI (gI a b) c == 1) := by
  unfold lineB
  rw [Bool.eq_iff_iff]
  simp
  omega

theorem ints3 {w : World} {g : Nat} {a b c : Int} (hg : g < w.heap.size) (h0 : w.cell? ⟨g, 0, none⟩ = some (.int .i64 a)) (h1 : w.cell? ⟨g, 1, none⟩ = some (.int .i64 b)) (h2 : w.cell? ⟨g, 2, none⟩ = some (.int .i64 c)) : Ints w w.heap.size (some ⟨g, 0, none⟩) 3 (pick3 a b c) := by
  intro k hk
  match k, hk with
  | 0, _ => exact ⟨g, 0, rfl, hg, h0⟩
  | 1, _ => exact ⟨g, 0, rfl, hg, h1⟩
  | 2, _ => exact ⟨g, 0, rfl, hg, h2⟩
theorem gL3 (a b c : Int) : gL (pick3 a b c) 3 = gI (gI a b) c := by
  show gI (gI (gI 0 a) b) c = _
  rw [gI_zero_left, gI_abs]
theorem implGcd3_any (g k : Nat) (a b c : Int) (w : World) (ha : -4500000000000000000 ≤ a ∧ a ≤ 4500000000000000000) (hb : -4500000000000000000 ≤ b ∧ b ≤ 4500000000000000000) (hc : -4500000000000000000 ≤ c ∧ c ≤ 4500000000000000000) (hg : g < w.heap.size)
    (h0 : w.cell? ⟨g, 0, none⟩ = some (.int .i64 a)) (h1 : w.cell? ⟨g, 1, none⟩ = some (.int .i64 b)) (h2 : w.cell? ⟨g, 2, none⟩ = some (.int .i64 c)) :
    Calls Try.prog 73 #[.slice (some ⟨g, 0, none⟩) 3 k] w fun e w' => e = .returned (.int .i64 (gI (gI a b) c)) ∧ Below w.heap.size w w' := by
  rw [← gL3]
  refine implGcd_any _ 3 k _ w (by omega) (ints3 hg h0 h1 h2) fun k hk => ?_
  match k, hk with
  | 0, _ => exact ha
  | 1, _ => exact hb
  | 2, _ => exact hc
theorem specLine_any (a b c : Int) (w : World) :
    Calls Try.prog 66 #[.agg #[.int .i64 a, .int .i64 b, .int .i64 c]] w fun e w' => e = .returned (.bool (lineB a b c)) ∧ Below w.heap.size w w' := by
  by_cases h1 : 0 ≤ a ∧ a ≤ 2000
  · by_cases h2 : -2000 ≤ b ∧ b ≤ 2000
    · by_cases h3 : -4000000 ≤ c ∧ c ≤ 4000000
      · have HG : Hid (gI (gI a (b.natAbs : Int)) (c.natAbs : Int) = gI (gI a b) c) := by
          show _ = _
          rw [gI_comm (gI a (b.natAbs : Int)) (c.natAbs : Int), gI_abs, gI_comm a (b.natAbs : Int), gI_abs, gI_comm b a, gI_comm c]
        have hgb := gI_bd (a := a) (b := (b.natAbs : Int)) (M := 2000) (by omega) (by omega)
        by_cases h4 : 0 < a
        · have HR := Lib.hid (lineB_mk (a := a) (b := b) (c := c) (by omega))
          go_enter Try.func66, Try.ntmps66
          go_wp2_with fail
          refine (inRange_is true _ _ _ _ (in_yes h1)).mono ?_; rintro e w1 ⟨rfl, rfl⟩; go_wp2_with fail
          refine (inRange_is true _ _ _ _ (in_yes h2)).mono ?_; rintro e w1 ⟨rfl, rfl⟩; go_wp2_with fail
          refine (inRange_is true _ _ _ _ (in_yes h3)).mono ?_; rintro e w1 ⟨rfl, rfl⟩; go_wp2_with fail
          go_quiet (first
            | (go_at_call 127; exact Calls.quiet_of_same (q0 (abs_any _ _ (by omega))))
            | (go_at_call 126; exact Calls.quiet_of_same (q0 (specGcd_any _ _ _ (by omega) (by omega)))))
          go_wp2_with fail
          go_ret
          refine ⟨ret_bool ?_, nd (na (nr _) _) _⟩
          rw [HG.out, HR.out]
        · by_cases h5 : 0 < b
          · have HR := Lib.hid (lineB_mk (a := a) (b := b) (c := c) (by omega))
            have d4 : decide (0 < a) = false := decide_eq_false h4
            have d5 : decide (0 < b) = true := decide_eq_true h5
            go_enter Try.func66, Try.ntmps66
            go_wp2_with fail
            refine (inRange_is true _ _ _ _ (in_yes h1)).mono ?_; rintro e w1 ⟨rfl, rfl⟩; go_wp2_with fail
            refine (inRange_is true _ _ _ _ (in_yes h2)).mono ?_; rintro e w1 ⟨rfl, rfl⟩; go_wp2_with fail
            refine (inRange_is true _ _ _ _ (in_yes h3)).mono ?_; rintro e w1 ⟨rfl, rfl⟩; go_wp2_with fail
            go_quiet (first
              | (go_at_call 127; exact Calls.quiet_of_same (q0 (abs_any _ _ (by omega))))
              | (go_at_call 126; exact Calls.quiet_of_same (q0 (specGcd_any _ _ _ (by omega) (by omega)))))
            go_wp2_with fail
            go_ret
            refine ⟨ret_bool ?_, nd (na (nr _) _) _⟩
            rw [HG.out, HR.out]
          · have HR := Lib.hid (lineB_no (a := a) (b := b) (c := c) (by omega))
            have d4 : decide (0 < a) = false := decide_eq_false h4
            have d5 : decide (0 < b) = false := decide_eq_false h5
            go_enter Try.func66, Try.ntmps66
            go_wp2_with fail
            refine (inRange_is true _ _ _ _ (in_yes h1)).mono ?_; rintro e w1 ⟨rfl, rfl⟩; go_wp2_with fail
            refine (inRange_is true _ _ _ _ (in_yes h2)).mono ?_; rintro e w1 ⟨rfl, rfl⟩; go_wp2_with fail
            refine (inRange_is true _ _ _ _ (in_yes h3)).mono ?_; rintro e w1 ⟨rfl, rfl⟩; go_wp2_with fail
            go_quiet (fail)
            go_wp2_with fail
            go_ret
            exact ⟨ret_bool HR.out.symm, nd (na (nr _) _) _⟩
      · have HR := Lib.hid (lineB_no (a := a) (b := b) (c := c) (by omega))
        go_enter Try.func66, Try.ntmps66
        go_wp2_with fail
        refine (inRange_is true _ _ _ _ (in_yes h1)).mono ?_; rintro e w1 ⟨rfl, rfl⟩; go_wp2_with fail
        refine (inRange_is true _ _ _ _ (in_yes h2)).mono ?_; rintro e w1 ⟨rfl, rfl⟩; go_wp2_with fail
        refine (inRange_is false _ _ _ _ (in_no h3)).mono ?_; rintro e w1 ⟨rfl, rfl⟩; go_wp2_with fail
        go_ret
        exact ⟨ret_bool HR.out.symm, na (nr _) _⟩
    · have HR := Lib.hid (lineB_no (a := a) (b := b) (c := c) (by omega))
      go_enter Try.func66, Try.ntmps66
      go_wp2_with fail
      refine (inRange_is true _ _ _ _ (in_yes h1)).mono ?_; rintro e w1 ⟨rfl, rfl⟩; go_wp2_with fail
      refine (inRange_is false _ _ _ _ (in_no h2)).mono ?_; rintro e w1 ⟨rfl, rfl⟩; go_wp2_with fail
      go_ret
      exact ⟨ret_bool HR.out.symm, na (nr _) _⟩
  · have HR := Lib.hid (lineB_no (a := a) (b := b) (c := c) (by omega))
    go_enter Try.func66, Try.ntmps66
    go_wp2_with fail
    refine (inRange_is false _ _ _ _ (in_no h1)).mono ?_; rintro e w1 ⟨rfl, rfl⟩; go_wp2_with fail
    go_ret
    exact ⟨ret_bool HR.out.symm, na (nr _) _⟩
theorem implLine_any (a b c : Int) (w : World) :
    Calls Try.prog 22 #[.agg #[.int .i64 a, .int .i64 b, .int .i64 c]] w fun e w' => e = .returned (.bool (lineB a b c)) ∧ Below w.heap.size w w' := by
  by_cases h1 : -2000 ≤ a ∧ a ≤ 2000
  · by_cases h2 : -2000 ≤ b ∧ b ≤ 2000
    · by_cases h3 : -4000000 ≤ c ∧ c ≤ 4000000
      · by_cases h4 : a < 0
        · have HR := Lib.hid (lineB_no (a := a) (b := b) (c := c) (by omega))
          go_enter Try.func22, Try.ntmps22
          go_wp2_with fail
          refine (within_is true _ _ _ (by omega) (by omega) (in_yes h1)).mono ?_; rintro e w1 ⟨rfl, rfl⟩; go_wp2_with fail
          refine (within_is true _ _ _ (by omega) (by omega) (in_yes h2)).mono ?_; rintro e w1 ⟨rfl, rfl⟩; go_wp2_with fail
          refine (within_is true _ _ _ (by omega) (by omega) (in_yes h3)).mono ?_; rintro e w1 ⟨rfl, rfl⟩; go_wp2_with fail
          go_ret
          exact ⟨ret_bool HR.out.symm, na (nr _) _⟩
        by_cases h5 : a = 0
        · subst h5
          by_cases h6 : b ≤ 0
          · have HR := Lib.hid (lineB_no (a := 0) (b := b) (c := c) (by omega))
            go_enter Try.func22, Try.ntmps22
            go_wp2_with fail
            refine (within_is true _ _ _ (by omega) (by omega) (in_yes h1)).mono ?_; rintro e w1 ⟨rfl, rfl⟩; go_wp2_with fail
            refine (within_is true _ _ _ (by omega) (by omega) (in_yes h2)).mono ?_; rintro e w1 ⟨rfl, rfl⟩; go_wp2_with fail
            refine (within_is true _ _ _ (by omega) (by omega) (in_yes h3)).mono ?_; rintro e w1 ⟨rfl, rfl⟩; go_wp2_with fail
            go_ret
            exact ⟨ret_bool HR.out.symm, na (nr _) _⟩
          · have HR := Lib.hid (lineB_mk (a := 0) (b := b) (c := c) (by omega))
            go_enter Try.func22, Try.ntmps22
            go_wp2_with fail
            refine (within_is true _ _ _ (by omega) (by omega) (in_yes h1)).mono ?_; rintro e w1 ⟨rfl, rfl⟩; go_wp2_with fail
            refine (within_is true _ _ _ (by omega) (by omega) (in_yes h2)).mono ?_; rintro e w1 ⟨rfl, rfl⟩; go_wp2_with fail
            refine (within_is true _ _ _ (by omega) (by omega) (in_yes h3)).mono ?_; rintro e w1 ⟨rfl, rfl⟩; go_wp2_with fail
            refine (implGcd3_any _ _ 0 b c _ (by omega) (by omega) (by omega) ?_ ?_ ?_ ?_).mono ?_
            all_goals (try (simp [go_sem]; done))
            rintro e w1 ⟨rfl, hb1⟩
            go_wp2_with fail
            go_ret
            exact ⟨ret_bool HR.out.symm, nt (na (na (nr _) _) _) hb1⟩
        · have HR := Lib.hid (lineB_mk (a := a) (b := b) (c := c) (by omega))
          have h5b : (a == 0) = false := by simp [h5]
          go_enter Try.func22, Try.ntmps22
          go_wp2_with fail
          refine (within_is true _ _ _ (by omega) (by omega) (in_yes h1)).mono ?_; rintro e w1 ⟨rfl, rfl⟩; go_wp2_with fail
          refine (within_is true _ _ _ (by omega) (by omega) (in_yes h2)).mono ?_; rintro e w1 ⟨rfl, rfl⟩; go_wp2_with fail
          refine (within_is true _ _ _ (by omega) (by omega) (in_yes h3)).mono ?_; rintro e w1 ⟨rfl, rfl⟩; go_wp2_with fail
          refine (implGcd3_any _ _ a b c _ (by omega) (by omega) (by omega) ?_ ?_ ?_ ?_).mono ?_
          all_goals (try (simp [go_sem]; done))
          rintro e w1 ⟨rfl, hb1⟩
          go_wp2_with fail
          go_ret
          exact ⟨ret_bool HR.out.symm, nt (na (na (nr _) _) _) hb1⟩
      · have HR := Lib.hid (lineB_no (a := a) (b := b) (c := c) (by omega))
        go_enter Try.func22, Try.ntmps22
        go_wp2_with fail
        refine (within_is true _ _ _ (by omega) (by omega) (in_yes h1)).mono ?_; rintro e w1 ⟨rfl, rfl⟩; go_wp2_with fail
        refine (within_is true _ _ _ (by omega) (by omega) (in_yes h2)).mono ?_; rintro e w1 ⟨rfl, rfl⟩; go_wp2_with fail
        refine (within_is false _ _ _ (by omega) (by omega) (in_no h3)).mono ?_; rintro e w1 ⟨rfl, rfl⟩; go_wp2_with fail
        go_ret
        exact ⟨ret_bool HR.out.symm, na (nr _) _⟩
    · have HR := Lib.hid (lineB_no (a := a) (b := b) (c := c) (by omega))
      go_enter Try.func22, Try.ntmps22
      go_wp2_with fail
      refine (within_is true _ _ _ (by omega) (by omega) (in_yes h1)).mono ?_; rintro e w1 ⟨rfl, rfl⟩; go_wp2_with fail
      refine (within_is false _ _ _ (by omega) (by omega) (in_no h2)).mono ?_; rintro e w1 ⟨rfl, rfl⟩; go_wp2_with fail
      go_ret
      exact ⟨ret_bool HR.out.symm, na (nr _) _⟩
  · have HR := Lib.hid (lineB_no (a := a) (b := b) (c := c) (by omega))
    go_enter Try.func22, Try.ntmps22
    go_wp2_with fail
    refine (within_is false _ _ _ (by omega) (by omega) (in_no h1)).mono ?_; rintro e w1 ⟨rfl, rfl⟩; go_wp2_with fail
    go_ret
    exact ⟨ret_bool HR.out.symm, na (nr _) _⟩
end Go.Proofs.Ytblpldapmmoheab
