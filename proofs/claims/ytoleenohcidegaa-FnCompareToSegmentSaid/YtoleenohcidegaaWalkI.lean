/-
  Contracts and walk of the law on FloorRat. Written by an AI agent.
-/
import Derived.Test.YtoleenohcidegaaWalkF
namespace Go.Proofs.Ytoleenohcidegaa
open Go.RowKit

theorem implFloor_any (n d : Int) (w : World) :
    Calls Try.prog 25 #[.agg #[.int .i64 n, .int .i64 d]] w fun e w' => e = .returned (.int .i64 (flR n d)) ∧ Below w.heap.size w w' := by
  go_enter Try.func25, Try.ntmps25
  go_wp2_with fail
  refine (implRat_any n d _).mono ?_; rintro e w1 ⟨rfl, hb1⟩; obtain ⟨hc1, hf1, hz1⟩ := bc1 w.heap.size hb1 (by simp)
  have hn : Below w.heap.size w w1 := nt (na (nr _) _) hb1
  rcases va : ratB n d with _ | _
  · have HR := Lib.hid (flR_no va)
    clear va
    go_wp2
    go_ret
    exact ⟨ret_int HR.out.symm, hn⟩
  · have a1 := ratB_true va
    obtain ⟨b1, b2, b3, b4, _⟩ := a1
    have c1 := tdiv_bd (b := d) (a := n) (M := 100000000000) ⟨b1, b2⟩
    have HR := Lib.hid (flR_yes va)
    have hd0 : ¬ d = 0 := by omega
    clear va
    by_cases h : n.tmod d < 0
    · have HF := Lib.hid (tdiv_floor b3 h)
      go_wp2
      go_ret
      exact ⟨ret_int (HF.out.trans HR.out.symm), hn⟩
    · have HF := Lib.hid (tdiv_exact b3 (Int.not_lt.1 h))
      go_wp2
      go_ret
      exact ⟨ret_int (HF.out.trans HR.out.symm), hn⟩
theorem specFloor_any (n d : Int) (w : World) (va : ratB n d = true) :
    Calls Try.prog 65 #[.agg #[.int .i64 n, .int .i64 d]] w fun e w' => e = .returned (.int .i64 (n / d)) ∧ Below w.heap.size w w' := by
  obtain ⟨b1, b2, b3, b4, _⟩ := ratB_true va
  have c1 := tdiv_bd (b := d) (a := n) (M := 100000000000) ⟨b1, b2⟩
  have hd0 : ¬ d = 0 := by omega
  clear va
  have c2 := prod_bd (x := n.tdiv d) (y := d) 100000000000 20000000 c1 (by omega)
  go_enter Try.func65, Try.ntmps65
  by_cases h : n < n.tdiv d * d
  · have HF := Lib.hid (tdiv_floor b3 (floor_test' (by rw [Int.mul_comm]; exact h)))
    go_wp2
    go_ret
    exact ⟨ret_int HF.out, na (nr _) _⟩
  · have HF := Lib.hid (tdiv_exact b3 (floor_test (by rw [Int.mul_comm]; exact Int.not_lt.1 h)))
    go_wp2
    go_ret
    exact ⟨ret_int HF.out, na (nr _) _⟩
theorem SpecFloor_any (n d : Int) (w : World) :
    Calls Try.prog 26 #[.agg #[.int .i64 n, .int .i64 d]] w fun e w' => e = .returned (.int .i64 (flR n d)) ∧ Below w.heap.size w w' := by
  go_enter Try.func26, Try.ntmps26
  go_wp2_with fail
  refine (specRat_any n d _).mono ?_; rintro e w1 ⟨rfl, hb1⟩; obtain ⟨hc1, hf1, hz1⟩ := bc1 w.heap.size hb1 (by simp)
  have hn : Below w.heap.size w w1 := nt (na (nr _) _) hb1
  rcases va : ratB n d with _ | _
  · have HR := Lib.hid (flR_no va)
    clear va
    go_wp2
    go_ret
    exact ⟨ret_int HR.out.symm, hn⟩
  · have HR := Lib.hid (flR_yes va)
    have VA := Lib.hid va
    clear va
    go_wp2_with fail
    refine (specFloor_any _ _ _ VA.out).mono ?_; rintro e w2 ⟨rfl, hb2⟩
    go_wp2_with fail
    go_ret
    exact ⟨ret_int HR.out.symm, nt hn hb2⟩
end Go.Proofs.Ytoleenohcidegaa
