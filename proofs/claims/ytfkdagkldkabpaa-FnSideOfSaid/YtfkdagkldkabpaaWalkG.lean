/-
  Contracts and walks of the laws on fractions: CompareRats, AddRats, FloorRat, the program's and the model's. Written by an AI agent.
-/
import Derived.Test.YtfkdagkldkabpaaWalkF
namespace Go.Proofs.Ytfkdagkldkabpaa
open Go.RowKit

def cmpR (an ad bn bd : Int) : Int := if ratB an ad && ratB bn bd then sgn (an * bd - bn * ad) else 2
theorem cmpR_no {an ad bn bd : Int} (h : (ratB an ad && ratB bn bd) = false) : cmpR an ad bn bd = 2 := by unfold cmpR; rw [h]; rfl
theorem cmpR_yes {an ad bn bd : Int} (h : (ratB an ad && ratB bn bd) = true) : cmpR an ad bn bd = sgn (an * bd - bn * ad) := by unfold cmpR; rw [h]; rfl
theorem specCompare_any (an ad bn bd : Int) (w : World) (ha : ratB an ad = true) (hb : ratB bn bd = true) :
    Calls Try.prog 67 #[.agg #[.int .i64 an, .int .i64 ad], .agg #[.int .i64 bn, .int .i64 bd]] w fun e w' => e = .returned (.int .i64 (sgn (an * bd - bn * ad))) ∧ Below w.heap.size w w' := by
  have bd' := rat_bd ha hb
  clear ha hb
  go_enter Try.func67, Try.ntmps67
  go_wp2_with (go_at_call 60; refine (specSign_any _ _).mono ?_; rintro e w' ⟨rfl, rfl⟩)
  go_ret
  exact ⟨rfl, na (na (nr _) _) _⟩
theorem SpecCompare_any (an ad bn bd : Int) (w : World) :
    Calls Try.prog 28 #[.agg #[.int .i64 an, .int .i64 ad], .agg #[.int .i64 bn, .int .i64 bd]] w fun e w' => e = .returned (.int .i64 (cmpR an ad bn bd)) ∧ Below w.heap.size w w' := by
  go_enter Try.func28, Try.ntmps28
  rcases va : ratB an ad with _ | _
  · have HR := Lib.hid (cmpR_no (both_no (b := ratB bn bd) va))
    have VA := Lib.hid va
    clear va
    go_wp2_with fail
    refine (specRat_any an ad _).mono ?_; rw [VA.out]; rintro e w1 ⟨rfl, hb1⟩; obtain ⟨hc1, hf1, hz1⟩ := bc2 w.heap.size hb1 (by simp)
    go_wp2
    go_ret
    exact ⟨ret_int HR.out.symm, by repeat' (first | exact nr _ | apply na | apply Below.drew | apply nd | refine nt ?_ (by assumption))⟩
  rcases vb : ratB bn bd with _ | _
  · have HR := Lib.hid (cmpR_no (both_no' (a := ratB an ad) vb))
    have VA := Lib.hid va
    have VB := Lib.hid vb
    clear va vb
    go_wp2_with fail
    refine (specRat_any an ad _).mono ?_; rw [VA.out]; rintro e w1 ⟨rfl, hb1⟩; obtain ⟨hc1, hf1, hz1⟩ := bc2 w.heap.size hb1 (by simp)
    go_wp2_with fail
    refine (specRat_any bn bd _).mono ?_; rw [VB.out]; rintro e w2 ⟨rfl, hb2⟩; obtain ⟨hc2, hf2, hz2⟩ := bc2 w.heap.size hb2 (by omega)
    go_wp2
    go_ret
    exact ⟨ret_int HR.out.symm, by repeat' (first | exact nr _ | apply na | apply Below.drew | apply nd | refine nt ?_ (by assumption))⟩
  have bd' := rat_bd va vb
  have HR := Lib.hid (cmpR_yes (both_yes va vb))
  have VA := Lib.hid va
  have VB := Lib.hid vb
  clear va vb
  go_wp2_with fail
  refine (specRat_any an ad _).mono ?_; rw [VA.out]; rintro e w1 ⟨rfl, hb1⟩; obtain ⟨hc1, hf1, hz1⟩ := bc2 w.heap.size hb1 (by simp)
  go_wp2_with fail
  refine (specRat_any bn bd _).mono ?_; rw [VB.out]; rintro e w2 ⟨rfl, hb2⟩; obtain ⟨hc2, hf2, hz2⟩ := bc2 w.heap.size hb2 (by omega)
  go_wp2_with fail
  refine (specCompare_any _ _ _ _ _ VA.out VB.out).mono ?_; rintro e w3 ⟨rfl, hb3⟩
  go_wp2_with fail
  go_ret
  exact ⟨ret_int HR.out.symm, by repeat' (first | exact nr _ | apply na | apply Below.drew | apply nd | refine nt ?_ (by assumption))⟩
theorem implCompare_any (an ad bn bd : Int) (w : World) :
    Calls Try.prog 27 #[.agg #[.int .i64 an, .int .i64 ad], .agg #[.int .i64 bn, .int .i64 bd]] w fun e w' => e = .returned (.int .i64 (cmpR an ad bn bd)) ∧ Below w.heap.size w w' := by
  go_enter Try.func27, Try.ntmps27
  rcases va : ratB an ad with _ | _
  · have HR := Lib.hid (cmpR_no (both_no (b := ratB bn bd) va))
    have VA := Lib.hid va
    clear va
    go_wp2_with fail
    refine (implRat_any an ad _).mono ?_; rw [VA.out]; rintro e w1 ⟨rfl, hb1⟩; obtain ⟨hc1, hf1, hz1⟩ := bc2 w.heap.size hb1 (by simp)
    go_wp2
    go_ret
    exact ⟨ret_int HR.out.symm, by repeat' (first | exact nr _ | apply na | apply Below.drew | apply nd | refine nt ?_ (by assumption))⟩
  rcases vb : ratB bn bd with _ | _
  · have HR := Lib.hid (cmpR_no (both_no' (a := ratB an ad) vb))
    have VA := Lib.hid va
    have VB := Lib.hid vb
    clear va vb
    go_wp2_with fail
    refine (implRat_any an ad _).mono ?_; rw [VA.out]; rintro e w1 ⟨rfl, hb1⟩; obtain ⟨hc1, hf1, hz1⟩ := bc2 w.heap.size hb1 (by simp)
    go_wp2_with fail
    refine (implRat_any bn bd _).mono ?_; rw [VB.out]; rintro e w2 ⟨rfl, hb2⟩; obtain ⟨hc2, hf2, hz2⟩ := bc2 w.heap.size hb2 (by omega)
    go_wp2
    go_ret
    exact ⟨ret_int HR.out.symm, by repeat' (first | exact nr _ | apply na | apply Below.drew | apply nd | refine nt ?_ (by assumption))⟩
  have bd' := rat_bd va vb
  have HR := Lib.hid (cmpR_yes (both_yes va vb))
  have VA := Lib.hid va
  have VB := Lib.hid vb
  clear va vb
  go_wp2_with fail
  refine (implRat_any an ad _).mono ?_; rw [VA.out]; rintro e w1 ⟨rfl, hb1⟩; obtain ⟨hc1, hf1, hz1⟩ := bc2 w.heap.size hb1 (by simp)
  go_wp2_with fail
  refine (implRat_any bn bd _).mono ?_; rw [VB.out]; rintro e w2 ⟨rfl, hb2⟩; obtain ⟨hc2, hf2, hz2⟩ := bc2 w.heap.size hb2 (by omega)
  go_wp2_with (go_at_call 65; refine (compare_any _ _ _).mono ?_; rintro e w' ⟨rfl, rfl⟩)
  go_ret
  exact ⟨ret_int HR.out.symm, by repeat' (first | exact nr _ | apply na | apply Below.drew | apply nd | refine nt ?_ (by assumption))⟩
end Go.Proofs.Ytfkdagkldkabpaa
