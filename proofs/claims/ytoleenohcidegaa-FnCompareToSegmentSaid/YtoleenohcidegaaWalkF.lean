/-
  Contracts and walks of the laws on fractions: checked, MakeRat, CompareRats, AddRats, FloorRat, the program's and the model's. Written by an AI agent.
-/
import Derived.Test.YtoleenohcidegaaWalkE
namespace Go.Proofs.Ytoleenohcidegaa
open Go.RowKit

theorem specChecked_any (n d : Int) (w : World) :
    Calls Try.prog 56 #[.agg #[.int .i64 n, .int .i64 d]] w fun e w' => e = .returned (.tuple #[.agg #[.int .i64 (cN n d), .int .i64 (cD n d)], .bool (ratB n d)]) ∧ Below w.heap.size w w' := by
  go_enter Try.func56, Try.ntmps56
  go_wp2_with fail
  refine (specRat_any _ _ _).mono ?_; rintro e w1 ⟨rfl, hb1⟩; obtain ⟨hc1, hf1, hz1⟩ := bc2 w.heap.size hb1 (by simp)
  have c0 := keep1 hb1 (a := ⟨w.heap.size + 1, 0, none⟩) (v := .int .i64 0) (by simp [go_sem])
  have c1 := keep1 hb1 (a := ⟨w.heap.size + 1, 1, none⟩) (v := .int .i64 0) (by simp [go_sem])
  have hn : Below w.heap.size w w1 := nt (na (na (nr _) _) _) hb1
  rcases hr : ratB n d with _ | _
  · have HN := Lib.hid (cN_no hr)
    have HD := Lib.hid (cD_no hr)
    have s0 := set_same (.int .i64 0) c0
    have s1 := set_same (.int .i64 0) (set_next (.int .i64 0) c1)
    have HR := Lib.hid hr
    clear hr
    go_wp2
    refine bodyPost_ret (v := .tuple #[.agg #[.int .i64 0, .int .i64 0], .bool false]) (by simp [results, Try.results56, go_sem, s0, s1]) rfl ⟨?_, ((hn.setCell (by simp) _).setCell (by simp) _)⟩
    rw [HN.out, HD.out, HR.out]
  · have HN := Lib.hid (cN_yes hr)
    have HD := Lib.hid (cD_yes hr)
    have s0 := set_same (.int .i64 n) c0
    have s1 := set_same (.int .i64 d) (set_next (.int .i64 n) c1)
    have HR := Lib.hid hr
    clear hr
    go_wp2
    refine bodyPost_ret (v := .tuple #[.agg #[.int .i64 n, .int .i64 d], .bool true]) (by simp [results, Try.results56, go_sem, s0, s1]) rfl ⟨?_, ((hn.setCell (by simp) _).setCell (by simp) _)⟩
    rw [HN.out, HD.out, HR.out]
theorem implChecked_any (n d : Int) (w : World) :
    Calls Try.prog 54 #[.agg #[.int .i64 n, .int .i64 d]] w fun e w' => e = .returned (.tuple #[.agg #[.int .i64 (cN n d), .int .i64 (cD n d)], .bool (ratB n d)]) ∧ Below w.heap.size w w' := by
  go_enter Try.func54, Try.ntmps54
  go_wp2_with fail
  refine (implRat_any _ _ _).mono ?_; rintro e w1 ⟨rfl, hb1⟩; obtain ⟨hc1, hf1, hz1⟩ := bc2 w.heap.size hb1 (by simp)
  have c0 := keep1 hb1 (a := ⟨w.heap.size + 1, 0, none⟩) (v := .int .i64 0) (by simp [go_sem])
  have c1 := keep1 hb1 (a := ⟨w.heap.size + 1, 1, none⟩) (v := .int .i64 0) (by simp [go_sem])
  have hn : Below w.heap.size w w1 := nt (na (na (nr _) _) _) hb1
  rcases hr : ratB n d with _ | _
  · have HN := Lib.hid (cN_no hr)
    have HD := Lib.hid (cD_no hr)
    have s0 := set_same (.int .i64 0) c0
    have s1 := set_same (.int .i64 0) (set_next (.int .i64 0) c1)
    have HR := Lib.hid hr
    clear hr
    go_wp2
    refine bodyPost_ret (v := .tuple #[.agg #[.int .i64 0, .int .i64 0], .bool false]) (by simp [results, Try.results54, go_sem, s0, s1]) rfl ⟨?_, ((hn.setCell (by simp) _).setCell (by simp) _)⟩
    rw [HN.out, HD.out, HR.out]
  · have HN := Lib.hid (cN_yes hr)
    have HD := Lib.hid (cD_yes hr)
    have s0 := set_same (.int .i64 n) c0
    have s1 := set_same (.int .i64 d) (set_next (.int .i64 n) c1)
    have HR := Lib.hid hr
    clear hr
    go_wp2
    refine bodyPost_ret (v := .tuple #[.agg #[.int .i64 n, .int .i64 d], .bool true]) (by simp [results, Try.results54, go_sem, s0, s1]) rfl ⟨?_, ((hn.setCell (by simp) _).setCell (by simp) _)⟩
    rw [HN.out, HD.out, HR.out]
theorem SpecMakeRat_any (num den : Int) (w : World) :
    Calls Try.prog 15 #[.int .i64 num, .int .i64 den] w fun e w' => e = .returned (.tuple #[.agg #[.int .i64 (mkN num den), .int .i64 (mkD num den)], .bool (mkB num den)]) ∧ Below w.heap.size w w' := by
  by_cases h0 : den = 0
  · have HM := Lib.hid (mk_no (num := num) (den := den) (by omega))
    subst h0
    go_enter Try.func15, Try.ntmps15
    go_wp2_with fail
    refine bodyPost_ret (v := .tuple #[.agg #[.int .i64 0, .int .i64 0], .bool false]) (by simp [results, Try.results15, go_sem]) rfl ⟨?_, na (nr _) _⟩
    rw [HM.out.1, HM.out.2.1, HM.out.2.2]
  have h0b : (den == 0) = false := by simp [h0]
  by_cases h1 : -2000000000000000000 ≤ num ∧ num ≤ 2000000000000000000
  · by_cases h2 : -2000000000000000000 ≤ den ∧ den ≤ 2000000000000000000
    · have HM := Lib.hid (mk_yes (num := num) (den := den) ⟨h0, h1.1, h1.2, h2.1, h2.2⟩)
      go_enter Try.func15, Try.ntmps15
      go_wp2_with fail
      refine (inRange_is true _ _ _ _ (in_yes (by omega))).mono ?_; rintro e w1 ⟨rfl, rfl⟩
      go_wp2_with fail
      refine (inRange_is true _ _ _ _ (in_yes (by omega))).mono ?_; rintro e w1 ⟨rfl, rfl⟩
      go_wp2_with fail
      refine (ratio_any _ _ _ (by omega) (by omega) h0).mono ?_; rintro e w1 ⟨rfl, hb1⟩; obtain ⟨hc1, hf1, hz1⟩ := bc1 w.heap.size hb1 (by simp)
      go_wp2_with fail
      refine (specChecked_any _ _ _).mono ?_; rintro e w2 ⟨rfl, hb2⟩; obtain ⟨hc2, hf2, hz2⟩ := bc1 w.heap.size hb2 (by omega)
      have c0 := keep1 hb2 (keep1 hb1 (a := ⟨w.heap.size, 0, none⟩) (v := .int .i64 0) (by simp [go_sem]))
      have c1 := keep1 hb2 (keep1 hb1 (a := ⟨w.heap.size, 1, none⟩) (v := .int .i64 0) (by simp [go_sem]))
      have hn : Below w.heap.size w w2 := nt (nt (na (nr _) _) hb1) hb2
      have s0 := set_same (.int .i64 (cN (qN num den) (qD num den))) c0
      have s1 := set_same (.int .i64 (cD (qN num den) (qD num den))) (set_next (.int .i64 (cN (qN num den) (qD num den))) c1)
      go_wp2
      refine bodyPost_ret (v := .tuple #[.agg #[.int .i64 (cN (qN num den) (qD num den)), .int .i64 (cD (qN num den) (qD num den))], .bool (ratB (qN num den) (qD num den))]) (by simp [results, Try.results15, go_sem, s0, s1]) rfl ⟨?_, ((hn.setCell (by simp) _).setCell (by simp) _)⟩
      rw [HM.out.1, HM.out.2.1, HM.out.2.2]
    · have HM := Lib.hid (mk_no (num := num) (den := den) (by omega))
      go_enter Try.func15, Try.ntmps15
      go_wp2_with fail
      refine (inRange_is true _ _ _ _ (in_yes (by omega))).mono ?_; rintro e w1 ⟨rfl, rfl⟩
      go_wp2_with fail
      refine (inRange_is false _ _ _ _ (in_no (by omega))).mono ?_; rintro e w1 ⟨rfl, rfl⟩
      go_wp2_with fail
      refine bodyPost_ret (v := .tuple #[.agg #[.int .i64 0, .int .i64 0], .bool false]) (by simp [results, Try.results15, go_sem]) rfl ⟨?_, na (nr _) _⟩
      rw [HM.out.1, HM.out.2.1, HM.out.2.2]
  · have HM := Lib.hid (mk_no (num := num) (den := den) (by omega))
    go_enter Try.func15, Try.ntmps15
    go_wp2_with fail
    refine (inRange_is false _ _ _ _ (in_no (by omega))).mono ?_; rintro e w1 ⟨rfl, rfl⟩
    go_wp2_with fail
    refine bodyPost_ret (v := .tuple #[.agg #[.int .i64 0, .int .i64 0], .bool false]) (by simp [results, Try.results15, go_sem]) rfl ⟨?_, na (nr _) _⟩
    rw [HM.out.1, HM.out.2.1, HM.out.2.2]
theorem implMakeRat_any (num den : Int) (w : World) :
    Calls Try.prog 14 #[.int .i64 num, .int .i64 den] w fun e w' => e = .returned (.tuple #[.agg #[.int .i64 (mkN num den), .int .i64 (mkD num den)], .bool (mkB num den)]) ∧ Below w.heap.size w w' := by
  by_cases h0 : den = 0
  · have HM := Lib.hid (mk_no (num := num) (den := den) (by omega))
    subst h0
    go_enter Try.func14, Try.ntmps14
    go_wp2_with fail
    refine bodyPost_ret (v := .tuple #[.agg #[.int .i64 0, .int .i64 0], .bool false]) (by simp [results, Try.results14, go_sem]) rfl ⟨?_, na (nr _) _⟩
    rw [HM.out.1, HM.out.2.1, HM.out.2.2]
  have h0b : (den == 0) = false := by simp [h0]
  by_cases h1 : -2000000000000000000 ≤ num ∧ num ≤ 2000000000000000000
  · by_cases h2 : -2000000000000000000 ≤ den ∧ den ≤ 2000000000000000000
    · have HM := Lib.hid (mk_yes (num := num) (den := den) ⟨h0, h1.1, h1.2, h2.1, h2.2⟩)
      go_enter Try.func14, Try.ntmps14
      go_wp2_with fail
      refine (within_is true _ _ _ (by omega) (by omega) (in_yes (by omega))).mono ?_; rintro e w1 ⟨rfl, rfl⟩
      go_wp2_with fail
      refine (within_is true _ _ _ (by omega) (by omega) (in_yes (by omega))).mono ?_; rintro e w1 ⟨rfl, rfl⟩
      go_wp2_with fail
      refine (lowest_any _ _ _ (by omega) (by omega) h0).mono ?_; rintro e w1 ⟨rfl, hb1⟩; obtain ⟨hc1, hf1, hz1⟩ := bc1 w.heap.size hb1 (by simp)
      go_wp2_with fail
      refine (implChecked_any _ _ _).mono ?_; rintro e w2 ⟨rfl, hb2⟩; obtain ⟨hc2, hf2, hz2⟩ := bc1 w.heap.size hb2 (by omega)
      have c0 := keep1 hb2 (keep1 hb1 (a := ⟨w.heap.size, 0, none⟩) (v := .int .i64 0) (by simp [go_sem]))
      have c1 := keep1 hb2 (keep1 hb1 (a := ⟨w.heap.size, 1, none⟩) (v := .int .i64 0) (by simp [go_sem]))
      have hn : Below w.heap.size w w2 := nt (nt (na (nr _) _) hb1) hb2
      have s0 := set_same (.int .i64 (cN (qN num den) (qD num den))) c0
      have s1 := set_same (.int .i64 (cD (qN num den) (qD num den))) (set_next (.int .i64 (cN (qN num den) (qD num den))) c1)
      go_wp2
      refine bodyPost_ret (v := .tuple #[.agg #[.int .i64 (cN (qN num den) (qD num den)), .int .i64 (cD (qN num den) (qD num den))], .bool (ratB (qN num den) (qD num den))]) (by simp [results, Try.results14, go_sem, s0, s1]) rfl ⟨?_, ((hn.setCell (by simp) _).setCell (by simp) _)⟩
      rw [HM.out.1, HM.out.2.1, HM.out.2.2]
    · have HM := Lib.hid (mk_no (num := num) (den := den) (by omega))
      go_enter Try.func14, Try.ntmps14
      go_wp2_with fail
      refine (within_is true _ _ _ (by omega) (by omega) (in_yes (by omega))).mono ?_; rintro e w1 ⟨rfl, rfl⟩
      go_wp2_with fail
      refine (within_is false _ _ _ (by omega) (by omega) (in_no (by omega))).mono ?_; rintro e w1 ⟨rfl, rfl⟩
      go_wp2_with fail
      refine bodyPost_ret (v := .tuple #[.agg #[.int .i64 0, .int .i64 0], .bool false]) (by simp [results, Try.results14, go_sem]) rfl ⟨?_, na (nr _) _⟩
      rw [HM.out.1, HM.out.2.1, HM.out.2.2]
  · have HM := Lib.hid (mk_no (num := num) (den := den) (by omega))
    go_enter Try.func14, Try.ntmps14
    go_wp2_with fail
    refine (within_is false _ _ _ (by omega) (by omega) (in_no (by omega))).mono ?_; rintro e w1 ⟨rfl, rfl⟩
    go_wp2_with fail
    refine bodyPost_ret (v := .tuple #[.agg #[.int .i64 0, .int .i64 0], .bool false]) (by simp [results, Try.results14, go_sem]) rfl ⟨?_, na (nr _) _⟩
    rw [HM.out.1, HM.out.2.1, HM.out.2.2]
end Go.Proofs.Ytoleenohcidegaa
