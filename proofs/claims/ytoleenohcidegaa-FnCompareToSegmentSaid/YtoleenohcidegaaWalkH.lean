/-
  Contracts and walks of the laws on fractions: AddRats, FloorRat, the program's and the model's. Written by an AI agent.
-/
import Derived.Test.YtoleenohcidegaaWalkG
import Derived.Deep.DeepCutAuto
namespace Go.Proofs.Ytoleenohcidegaa
open Go.RowKit

theorem plus_any (an ad bn bd : Int) (w : World) (ha : ratB an ad = true) (hb : ratB bn bd = true) :
    Calls Try.prog 60 #[.agg #[.int .i64 an, .int .i64 ad], .agg #[.int .i64 bn, .int .i64 bd]] w fun e w' => e = .returned (.tuple #[.agg #[.int .i64 (cN (qN (an * bd + bn * ad) (ad * bd)) (qD (an * bd + bn * ad) (ad * bd))), .int .i64 (cD (qN (an * bd + bn * ad) (ad * bd)) (qD (an * bd + bn * ad) (ad * bd)))], .bool (ratB (qN (an * bd + bn * ad) (ad * bd)) (qD (an * bd + bn * ad) (ad * bd)))]) ∧ Below w.heap.size w w' := by
  have bd' := rat_bd ha hb
  clear ha hb
  go_enter Try.func60, Try.ntmps60
  go_wp2_with fail
  refine (lowest_any _ _ _ (by omega) (by omega) (by omega)).mono ?_; rintro e w1 ⟨rfl, hb1⟩; obtain ⟨hc1, hf1, hz1⟩ := bc3 w.heap.size hb1 (by simp)
  go_wp2_with fail
  refine (implChecked_any _ _ _).mono ?_; rintro e w2 ⟨rfl, hb2⟩; obtain ⟨hc2, hf2, hz2⟩ := bc3 w.heap.size hb2 (by omega)
  have c0 := keep1 hb2 (keep1 hb1 (a := ⟨w.heap.size + 1 + 1, 0, none⟩) (v := .int .i64 0) (by simp [go_sem]))
  have c1 := keep1 hb2 (keep1 hb1 (a := ⟨w.heap.size + 1 + 1, 1, none⟩) (v := .int .i64 0) (by simp [go_sem]))
  have hn : Below w.heap.size w w2 := nt (nt (na (na (na (nr _) _) _) _) hb1) hb2
  have s0 := set_same (.int .i64 (cN (qN (an * bd + bn * ad) (ad * bd)) (qD (an * bd + bn * ad) (ad * bd)))) c0
  have s1 := set_same (.int .i64 (cD (qN (an * bd + bn * ad) (ad * bd)) (qD (an * bd + bn * ad) (ad * bd)))) (set_next (.int .i64 (cN (qN (an * bd + bn * ad) (ad * bd)) (qD (an * bd + bn * ad) (ad * bd)))) c1)
  go_wp2
  refine bodyPost_ret (v := .tuple #[.agg #[.int .i64 (cN (qN (an * bd + bn * ad) (ad * bd)) (qD (an * bd + bn * ad) (ad * bd))), .int .i64 (cD (qN (an * bd + bn * ad) (ad * bd)) (qD (an * bd + bn * ad) (ad * bd)))], .bool (ratB (qN (an * bd + bn * ad) (ad * bd)) (qD (an * bd + bn * ad) (ad * bd)))]) (by simp [results, Try.results60, go_sem, s0, s1]) rfl ⟨?_, ((hn.setCell (by show _ ≤ w.heap.size + 1 + 1; omega) _).setCell (by show _ ≤ w.heap.size + 1 + 1; omega) _)⟩
  rfl
theorem implAdd_any (an ad bn bd : Int) (w : World) :
    Calls Try.prog 18 #[.agg #[.int .i64 an, .int .i64 ad], .agg #[.int .i64 bn, .int .i64 bd]] w fun e w' => e = .returned (.tuple #[.agg #[.int .i64 (addN an ad bn bd), .int .i64 (addD an ad bn bd)], .bool (addB an ad bn bd)]) ∧ Below w.heap.size w w' := by
  go_enter Try.func18, Try.ntmps18
  rcases va : ratB an ad with _ | _
  · have HR := Lib.hid (add_no (both_no (b := ratB bn bd) va))
    have VA := Lib.hid va
    clear va
    go_wp2_with fail
    refine (implRat_any an ad _).mono ?_; rw [VA.out]; rintro e w1 ⟨rfl, hb1⟩; obtain ⟨hc1, hf1, hz1⟩ := bc3 w.heap.size hb1 (by simp)
    have c0 := keep1 hb1 (a := ⟨w.heap.size + 1 + 1, 0, none⟩) (v := .int .i64 0) (by simp [go_sem])
    have c1 := keep1 hb1 (a := ⟨w.heap.size + 1 + 1, 1, none⟩) (v := .int .i64 0) (by simp [go_sem])
    have hn : Below w.heap.size w w1 := nt (na (na (na (nr _) _) _) _) hb1
    have s0 := set_same (.int .i64 0) c0
    have s1 := set_same (.int .i64 0) (set_next (.int .i64 0) c1)
    go_wp2
    refine bodyPost_ret (v := .tuple #[.agg #[.int .i64 0, .int .i64 0], .bool false]) (by simp [results, Try.results18, go_sem, s0, s1]) rfl ⟨?_, ((hn.setCell (by show _ ≤ w.heap.size + 1 + 1; omega) _).setCell (by show _ ≤ w.heap.size + 1 + 1; omega) _)⟩
    rw [HR.out.1, HR.out.2.1, HR.out.2.2]
  rcases vb : ratB bn bd with _ | _
  · have HR := Lib.hid (add_no (both_no' (a := ratB an ad) vb))
    have VA := Lib.hid va
    have VB := Lib.hid vb
    clear va vb
    go_wp2_with fail
    refine (implRat_any an ad _).mono ?_; rw [VA.out]; rintro e w1 ⟨rfl, hb1⟩; obtain ⟨hc1, hf1, hz1⟩ := bc3 w.heap.size hb1 (by simp)
    go_wp2_with fail
    refine (implRat_any bn bd _).mono ?_; rw [VB.out]; rintro e w2 ⟨rfl, hb2⟩; obtain ⟨hc2, hf2, hz2⟩ := bc3 w.heap.size hb2 (by omega)
    have c0 := keep1 hb2 (keep1 hb1 (a := ⟨w.heap.size + 1 + 1, 0, none⟩) (v := .int .i64 0) (by simp [go_sem]))
    have c1 := keep1 hb2 (keep1 hb1 (a := ⟨w.heap.size + 1 + 1, 1, none⟩) (v := .int .i64 0) (by simp [go_sem]))
    have hn : Below w.heap.size w w2 := nt (nt (na (na (na (nr _) _) _) _) hb1) hb2
    have s0 := set_same (.int .i64 0) c0
    have s1 := set_same (.int .i64 0) (set_next (.int .i64 0) c1)
    go_wp2
    refine bodyPost_ret (v := .tuple #[.agg #[.int .i64 0, .int .i64 0], .bool false]) (by simp [results, Try.results18, go_sem, s0, s1]) rfl ⟨?_, ((hn.setCell (by show _ ≤ w.heap.size + 1 + 1; omega) _).setCell (by show _ ≤ w.heap.size + 1 + 1; omega) _)⟩
    rw [HR.out.1, HR.out.2.1, HR.out.2.2]
  have bd' := rat_bd va vb
  have HR := Lib.hid (add_yes (both_yes va vb))
  have VA := Lib.hid va
  have VB := Lib.hid vb
  clear va vb
  go_wp2_with fail
  refine (implRat_any an ad _).mono ?_; rw [VA.out]; rintro e w1 ⟨rfl, hb1⟩; obtain ⟨hc1, hf1, hz1⟩ := bc3 w.heap.size hb1 (by simp)
  go_wp2_with fail
  refine (implRat_any bn bd _).mono ?_; rw [VB.out]; rintro e w2 ⟨rfl, hb2⟩; obtain ⟨hc2, hf2, hz2⟩ := bc3 w.heap.size hb2 (by omega)
  go_wp2_with fail
  refine (plus_any _ _ _ _ _ VA.out VB.out).mono ?_; rintro e w3 ⟨rfl, hb3⟩; obtain ⟨hc3, hf3, hz3⟩ := bc3 w.heap.size hb3 (by omega)
  have c0 := keep1 hb3 (keep1 hb2 (keep1 hb1 (a := ⟨w.heap.size + 1 + 1, 0, none⟩) (v := .int .i64 0) (by simp [go_sem])))
  have c1 := keep1 hb3 (keep1 hb2 (keep1 hb1 (a := ⟨w.heap.size + 1 + 1, 1, none⟩) (v := .int .i64 0) (by simp [go_sem])))
  have hn : Below w.heap.size w w3 := nt (nt (nt (na (na (na (nr _) _) _) _) hb1) hb2) hb3
  have s0 := set_same (.int .i64 (cN (qN (an * bd + bn * ad) (ad * bd)) (qD (an * bd + bn * ad) (ad * bd)))) c0
  have s1 := set_same (.int .i64 (cD (qN (an * bd + bn * ad) (ad * bd)) (qD (an * bd + bn * ad) (ad * bd)))) (set_next (.int .i64 (cN (qN (an * bd + bn * ad) (ad * bd)) (qD (an * bd + bn * ad) (ad * bd)))) c1)
  go_wp2
  refine bodyPost_ret (v := .tuple #[.agg #[.int .i64 (cN (qN (an * bd + bn * ad) (ad * bd)) (qD (an * bd + bn * ad) (ad * bd))), .int .i64 (cD (qN (an * bd + bn * ad) (ad * bd)) (qD (an * bd + bn * ad) (ad * bd)))], .bool (ratB (qN (an * bd + bn * ad) (ad * bd)) (qD (an * bd + bn * ad) (ad * bd)))]) (by simp [results, Try.results18, go_sem, s0, s1]) rfl ⟨?_, ((hn.setCell (by show _ ≤ w.heap.size + 1 + 1; omega) _).setCell (by show _ ≤ w.heap.size + 1 + 1; omega) _)⟩
  rw [HR.out.1, HR.out.2.1, HR.out.2.2]
theorem SpecAdd_any (an ad bn bd : Int) (w : World) :
    Calls Try.prog 19 #[.agg #[.int .i64 an, .int .i64 ad], .agg #[.int .i64 bn, .int .i64 bd]] w fun e w' => e = .returned (.tuple #[.agg #[.int .i64 (addN an ad bn bd), .int .i64 (addD an ad bn bd)], .bool (addB an ad bn bd)]) ∧ Below w.heap.size w w' := by
  go_enter Try.func19, Try.ntmps19
  rcases va : ratB an ad with _ | _
  · have HR := Lib.hid (add_no (both_no (b := ratB bn bd) va))
    have VA := Lib.hid va
    clear va
    go_wp2_with fail
    refine (specRat_any an ad _).mono ?_; rw [VA.out]; rintro e w1 ⟨rfl, hb1⟩; obtain ⟨hc1, hf1, hz1⟩ := bc3 w.heap.size hb1 (by simp)
    have c0 := keep1 hb1 (a := ⟨w.heap.size + 1 + 1, 0, none⟩) (v := .int .i64 0) (by simp [go_sem])
    have c1 := keep1 hb1 (a := ⟨w.heap.size + 1 + 1, 1, none⟩) (v := .int .i64 0) (by simp [go_sem])
    have hn : Below w.heap.size w w1 := nt (na (na (na (nr _) _) _) _) hb1
    have s0 := set_same (.int .i64 0) c0
    have s1 := set_same (.int .i64 0) (set_next (.int .i64 0) c1)
    go_wp2
    refine bodyPost_ret (v := .tuple #[.agg #[.int .i64 0, .int .i64 0], .bool false]) (by simp [results, Try.results19, go_sem, s0, s1]) rfl ⟨?_, ((hn.setCell (by show _ ≤ w.heap.size + 1 + 1; omega) _).setCell (by show _ ≤ w.heap.size + 1 + 1; omega) _)⟩
    rw [HR.out.1, HR.out.2.1, HR.out.2.2]
  rcases vb : ratB bn bd with _ | _
  · have HR := Lib.hid (add_no (both_no' (a := ratB an ad) vb))
    have VA := Lib.hid va
    have VB := Lib.hid vb
    clear va vb
    go_wp2_with fail
    refine (specRat_any an ad _).mono ?_; rw [VA.out]; rintro e w1 ⟨rfl, hb1⟩; obtain ⟨hc1, hf1, hz1⟩ := bc3 w.heap.size hb1 (by simp)
    go_wp2_with fail
    refine (specRat_any bn bd _).mono ?_; rw [VB.out]; rintro e w2 ⟨rfl, hb2⟩; obtain ⟨hc2, hf2, hz2⟩ := bc3 w.heap.size hb2 (by omega)
    have c0 := keep1 hb2 (keep1 hb1 (a := ⟨w.heap.size + 1 + 1, 0, none⟩) (v := .int .i64 0) (by simp [go_sem]))
    have c1 := keep1 hb2 (keep1 hb1 (a := ⟨w.heap.size + 1 + 1, 1, none⟩) (v := .int .i64 0) (by simp [go_sem]))
    have hn : Below w.heap.size w w2 := nt (nt (na (na (na (nr _) _) _) _) hb1) hb2
    have s0 := set_same (.int .i64 0) c0
    have s1 := set_same (.int .i64 0) (set_next (.int .i64 0) c1)
    go_wp2
    refine bodyPost_ret (v := .tuple #[.agg #[.int .i64 0, .int .i64 0], .bool false]) (by simp [results, Try.results19, go_sem, s0, s1]) rfl ⟨?_, ((hn.setCell (by show _ ≤ w.heap.size + 1 + 1; omega) _).setCell (by show _ ≤ w.heap.size + 1 + 1; omega) _)⟩
    rw [HR.out.1, HR.out.2.1, HR.out.2.2]
  have bd' := rat_bd va vb
  have HR := Lib.hid (add_yes (both_yes va vb))
  have VA := Lib.hid va
  have VB := Lib.hid vb
  clear va vb
  go_wp2_with fail
  refine (specRat_any an ad _).mono ?_; rw [VA.out]; rintro e w1 ⟨rfl, hb1⟩; obtain ⟨hc1, hf1, hz1⟩ := bc3 w.heap.size hb1 (by simp)
  go_wp2_with fail
  refine (specRat_any bn bd _).mono ?_; rw [VB.out]; rintro e w2 ⟨rfl, hb2⟩; obtain ⟨hc2, hf2, hz2⟩ := bc3 w.heap.size hb2 (by omega)
  go_wp2_with fail
  refine (ratio_any _ _ _ (by omega) (by omega) (by omega)).mono ?_; rintro e w3 ⟨rfl, hb3⟩; obtain ⟨hc3, hf3, hz3⟩ := bc3 w.heap.size hb3 (by omega)
  go_wp2_with fail
  refine (specChecked_any _ _ _).mono ?_; rintro e w4 ⟨rfl, hb4⟩; obtain ⟨hc4, hf4, hz4⟩ := bc3 w.heap.size hb4 (by omega)
  have c0 := keep1 hb4 (keep1 hb3 (keep1 hb2 (keep1 hb1 (a := ⟨w.heap.size + 1 + 1, 0, none⟩) (v := .int .i64 0) (by simp [go_sem]))))
  have c1 := keep1 hb4 (keep1 hb3 (keep1 hb2 (keep1 hb1 (a := ⟨w.heap.size + 1 + 1, 1, none⟩) (v := .int .i64 0) (by simp [go_sem]))))
  have hn : Below w.heap.size w w4 := nt (nt (nt (nt (na (na (na (nr _) _) _) _) hb1) hb2) hb3) hb4
  have s0 := set_same (.int .i64 (cN (qN (an * bd + bn * ad) (ad * bd)) (qD (an * bd + bn * ad) (ad * bd)))) c0
  have s1 := set_same (.int .i64 (cD (qN (an * bd + bn * ad) (ad * bd)) (qD (an * bd + bn * ad) (ad * bd)))) (set_next (.int .i64 (cN (qN (an * bd + bn * ad) (ad * bd)) (qD (an * bd + bn * ad) (ad * bd)))) c1)
  go_wp2
  refine bodyPost_ret (v := .tuple #[.agg #[.int .i64 (cN (qN (an * bd + bn * ad) (ad * bd)) (qD (an * bd + bn * ad) (ad * bd))), .int .i64 (cD (qN (an * bd + bn * ad) (ad * bd)) (qD (an * bd + bn * ad) (ad * bd)))], .bool (ratB (qN (an * bd + bn * ad) (ad * bd)) (qD (an * bd + bn * ad) (ad * bd)))]) (by simp [results, Try.results19, go_sem, s0, s1]) rfl ⟨?_, ((hn.setCell (by show _ ≤ w.heap.size + 1 + 1; omega) _).setCell (by show _ ≤ w.heap.size + 1 + 1; omega) _)⟩
  rw [HR.out.1, HR.out.2.1, HR.out.2.2]
end Go.Proofs.Ytoleenohcidegaa
