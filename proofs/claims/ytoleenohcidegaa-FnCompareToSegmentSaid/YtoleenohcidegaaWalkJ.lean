/-
  Contracts and walk of the law on MulRats. Written by an AI agent.
-/
import Derived.Test.YtoleenohcidegaaWalkH
import Derived.Test.YtoleenohcidegaaMath2
namespace Go.Proofs.Ytoleenohcidegaa
open Go.RowKit

set_option maxHeartbeats 1600000 in
theorem times_any (an ad bn bd : Int) (w : World) (ha : ratB an ad = true) (hb : ratB bn bd = true) :
    Calls Try.prog 62 #[.agg #[.int .i64 an, .int .i64 ad], .agg #[.int .i64 bn, .int .i64 bd]] w fun e w' => e = .returned (.tuple #[.agg #[.int .i64 (mulN an ad bn bd), .int .i64 (mulD an ad bn bd)], .bool (mulB an ad bn bd)]) ∧ Below w.heap.size w w' := by
  have a1 := ratB_true ha
  have b1 := ratB_true hb
  have hA := mulA_yes (both_yes ha hb)
  have bds := mul_bds ha hb
  clear ha hb
  have hm : Hid ((mulA an ad bn bd = true → mulN an ad bn bd = cN (qN an bd * qN bn ad) (qD an bd * qD bn ad) ∧ mulD an ad bn bd = cD (qN an bd * qN bn ad) (qD an bd * qD bn ad) ∧ mulB an ad bn bd = ratB (qN an bd * qN bn ad) (qD an bd * qD bn ad)) ∧
    (mulA an ad bn bd = false → mulN an ad bn bd = 0 ∧ mulD an ad bn bd = 0 ∧ mulB an ad bn bd = false)) := ⟨mul_yes, mul_no⟩
  have HA := Lib.hid hA
  clear hA
  go_enter Try.func62, Try.ntmps62
  go_wp2_with fail
  refine (lowest_any an bd _ (by omega) (by omega) (by omega)).mono ?_; rintro e w1 ⟨rfl, hb1⟩; obtain ⟨hc1, hf1, hz1⟩ := bc3 w.heap.size hb1 (by simp)
  go_wp2_with fail
  refine (lowest_any bn ad _ (by omega) (by omega) (by omega)).mono ?_; rintro e w2 ⟨rfl, hb2⟩; obtain ⟨hc2, hf2, hz2⟩ := bc3 w.heap.size hb2 (by simp; omega)
  have y2 := hb2.size
  simp at y2
  have y3 : w1.heap.size < w2.heap.size := by omega
  generalize qN an bd = xn at *
  generalize qN bn ad = yn at *
  generalize qD an bd = xd at *
  generalize qD bn ad = yd at *
  by_cases hx : xn = 0
  · have HM : Hid (mulN an ad bn bd = cN 0 (xd * yd) ∧ mulD an ad bn bd = cD 0 (xd * yd) ∧ mulB an ad bn bd = ratB 0 (xd * yd)) := by
      have h := hm.out.1 (by rw [HA.out]; exact mulC_zero hx)
      rw [hx, Int.zero_mul] at h
      exact h
    subst hx
    go_wp2_with fail
    go_quiet (fail)
    go_wp2_with fail
    refine (implChecked_any _ _ _).mono ?_; rintro e w5 ⟨rfl, hb5⟩; obtain ⟨hc5, hf5, hz5⟩ := bc3 w.heap.size hb5 (by first | omega | (simp; omega))
    have c0 := keep1 hb5 (a := ⟨w.heap.size + 1 + 1, 0, none⟩) (v := .int .i64 0) (by simp [*, go_sem])
    have c1 := keep1 hb5 (a := ⟨w.heap.size + 1 + 1, 1, none⟩) (v := .int .i64 0) (by simp [*, go_sem])
    have hn : Below w.heap.size w w5 := nt (nd (na (nt (na (nt (na (na (na (nr _) _) _) _) hb1) _) hb2) _) _) hb5
    have s0 := set_same (.int .i64 (cN (0) (xd * yd))) c0
    have s1 := set_same (.int .i64 (cD (0) (xd * yd))) (set_next (.int .i64 (cN (0) (xd * yd))) c1)
    go_wp2
    refine bodyPost_ret (v := .tuple #[.agg #[.int .i64 (cN (0) (xd * yd)), .int .i64 (cD (0) (xd * yd))], .bool (ratB (0) (xd * yd))]) (by simp [results, Try.results62, go_sem, s0, s1]) rfl ⟨?_, pair_below _ _ (by omega) hn⟩
    rw [HM.out.1, HM.out.2.1, HM.out.2.2]
  · have hxb : (xn != 0) = true := by simp [hx]
    have qb := quo_bd xn
    have hyn : Hid (mulC xn yn = true → -100000000000 ≤ xn * yn ∧ xn * yn ≤ 100000000000) := fun h => by
      rcases of_decide_eq_true h with h | h
      · exact absurd h hx
      · exact mulC_bd hx h
    have hyes : Hid (-(100000000000 / (xn.natAbs : Int)) ≤ yn ∧ yn ≤ 100000000000 / (xn.natAbs : Int) → mulC xn yn = true) := mulC_yes
    have hno : Hid (¬ (-(100000000000 / (xn.natAbs : Int)) ≤ yn ∧ yn ≤ 100000000000 / (xn.natAbs : Int)) → mulC xn yn = false) := mulC_no hx
    generalize hM : 100000000000 / (xn.natAbs : Int) = M at *
    by_cases hy : -M ≤ yn ∧ yn ≤ M
    · have HM := Lib.hid (hm.out.1 (by rw [HA.out]; exact hyes.out hy))
      have pb := hyn.out (hyes.out hy)
      have HY := Lib.hid hy
      by_cases hs : xn < 0
      · have hw1 : IntKind.i64.wrap (-xn) = -xn := IntWalk.i64_in _ (by omega)
        have hw2 : IntKind.i64.wrap (-(100000000000 : Int).tdiv xn) = M := by
          rw [← Int.tdiv_neg, Int.tdiv_eq_ediv_of_nonneg (by omega), show -xn = (xn.natAbs : Int) by omega, hM]
          exact IntWalk.i64_in _ (by omega)
        have hlt : xn < -xn := by omega
        clear hM
        go_wp2_with fail
        go_quiet ((go_at_call 52; exact Calls.quiet_of_same (q0 (within_is true _ _ _ (by omega) (by omega) (in_yes HY.out)))))
        clear hw1 hw2 hxb
        go_wp2_with fail
        refine (implChecked_any _ _ _).mono ?_; rintro e w5 ⟨rfl, hb5⟩; obtain ⟨hc5, hf5, hz5⟩ := bc3 w.heap.size hb5 (by first | omega | (simp; omega))
        have c0 := keep1 hb5 (a := ⟨w.heap.size + 1 + 1, 0, none⟩) (v := .int .i64 0) (by simp [*, go_sem])
        have c1 := keep1 hb5 (a := ⟨w.heap.size + 1 + 1, 1, none⟩) (v := .int .i64 0) (by simp [*, go_sem])
        have hn : Below w.heap.size w w5 := nt (nd (na (nt (na (nt (na (na (na (nr _) _) _) _) hb1) _) hb2) _) _) hb5
        have s0 := set_same (.int .i64 (cN (xn * yn) (xd * yd))) c0
        have s1 := set_same (.int .i64 (cD (xn * yn) (xd * yd))) (set_next (.int .i64 (cN (xn * yn) (xd * yd))) c1)
        go_wp2
        refine bodyPost_ret (v := .tuple #[.agg #[.int .i64 (cN (xn * yn) (xd * yd)), .int .i64 (cD (xn * yn) (xd * yd))], .bool (ratB (xn * yn) (xd * yd))]) (by simp [results, Try.results62, go_sem, s0, s1]) rfl ⟨?_, pair_below _ _ (by omega) hn⟩
        rw [HM.out.1, HM.out.2.1, HM.out.2.2]
      · have hw1 : IntKind.i64.wrap (-xn) = -xn := IntWalk.i64_in _ (by omega)
        have hw2 : IntKind.i64.wrap ((100000000000 : Int).tdiv xn) = M := by
          rw [Int.tdiv_eq_ediv_of_nonneg (by omega)]
          have he : xn = (xn.natAbs : Int) := by omega
          rw [show (100000000000 : Int) / xn = 100000000000 / (xn.natAbs : Int) by rw [← he], hM]
          exact IntWalk.i64_in _ (by omega)
        have hlt : ¬ xn < -xn := by omega
        clear hM
        go_wp2_with fail
        go_quiet ((go_at_call 52; exact Calls.quiet_of_same (q0 (within_is true _ _ _ (by omega) (by omega) (in_yes HY.out)))))
        clear hw1 hw2 hxb
        go_wp2_with fail
        refine (implChecked_any _ _ _).mono ?_; rintro e w5 ⟨rfl, hb5⟩; obtain ⟨hc5, hf5, hz5⟩ := bc3 w.heap.size hb5 (by first | omega | (simp; omega))
        have c0 := keep1 hb5 (a := ⟨w.heap.size + 1 + 1, 0, none⟩) (v := .int .i64 0) (by simp [*, go_sem])
        have c1 := keep1 hb5 (a := ⟨w.heap.size + 1 + 1, 1, none⟩) (v := .int .i64 0) (by simp [*, go_sem])
        have hn : Below w.heap.size w w5 := nt (nd (na (nt (na (nt (na (na (na (nr _) _) _) _) hb1) _) hb2) _) _) hb5
        have s0 := set_same (.int .i64 (cN (xn * yn) (xd * yd))) c0
        have s1 := set_same (.int .i64 (cD (xn * yn) (xd * yd))) (set_next (.int .i64 (cN (xn * yn) (xd * yd))) c1)
        go_wp2
        refine bodyPost_ret (v := .tuple #[.agg #[.int .i64 (cN (xn * yn) (xd * yd)), .int .i64 (cD (xn * yn) (xd * yd))], .bool (ratB (xn * yn) (xd * yd))]) (by simp [results, Try.results62, go_sem, s0, s1]) rfl ⟨?_, pair_below _ _ (by omega) hn⟩
        rw [HM.out.1, HM.out.2.1, HM.out.2.2]
    · have HM := Lib.hid (hm.out.2 (by rw [HA.out]; exact hno.out hy))
      have HY := Lib.hid hy
      clear hy
      by_cases hs : xn < 0
      · have hw1 : IntKind.i64.wrap (-xn) = -xn := IntWalk.i64_in _ (by omega)
        have hw2 : IntKind.i64.wrap (-(100000000000 : Int).tdiv xn) = M := by
          rw [← Int.tdiv_neg, Int.tdiv_eq_ediv_of_nonneg (by omega), show -xn = (xn.natAbs : Int) by omega, hM]
          exact IntWalk.i64_in _ (by omega)
        have hlt : xn < -xn := by omega
        clear hM
        go_wp2_with fail
        go_quiet ((go_at_call 52; exact Calls.quiet_of_same (q0 (within_is false _ _ _ (by omega) (by omega) (in_no HY.out)))))
        clear hw1 hw2 hxb
        have c0 : ((w2.alloc (.cells #[.int .i64 yn, .int .i64 yd] 26))).cell? ⟨w.heap.size + 1 + 1, 0, none⟩ = some (.int .i64 0) := by simp [*, go_sem]
        have c1 : ((w2.alloc (.cells #[.int .i64 yn, .int .i64 yd] 26))).cell? ⟨w.heap.size + 1 + 1, 1, none⟩ = some (.int .i64 0) := by simp [*, go_sem]
        have s0 := fun q : Nat => set_same (w := (w2.alloc (.cells #[.int .i64 yn, .int .i64 yd] 26)).drewN q) (.int .i64 0) c0
        have s1 := fun q : Nat => set_same (.int .i64 0) (set_next (w := (w2.alloc (.cells #[.int .i64 yn, .int .i64 yd] 26)).drewN q) (.int .i64 0) c1)
        go_wp2
        refine bodyPost_ret (v := .tuple #[.agg #[.int .i64 0, .int .i64 0], .bool false]) (by simp [results, Try.results62, go_sem, s0, s1]) rfl ⟨?_, pair_below _ _ (by omega) (nd (na (nt (na (nt (na (na (na (nr _) _) _) _) hb1) _) hb2) _) _)⟩
        rw [HM.out.1, HM.out.2.1, HM.out.2.2]
      · have hw1 : IntKind.i64.wrap (-xn) = -xn := IntWalk.i64_in _ (by omega)
        have hw2 : IntKind.i64.wrap ((100000000000 : Int).tdiv xn) = M := by
          rw [Int.tdiv_eq_ediv_of_nonneg (by omega)]
          have he : xn = (xn.natAbs : Int) := by omega
          rw [show (100000000000 : Int) / xn = 100000000000 / (xn.natAbs : Int) by rw [← he], hM]
          exact IntWalk.i64_in _ (by omega)
        have hlt : ¬ xn < -xn := by omega
        clear hM
        go_wp2_with fail
        go_quiet ((go_at_call 52; exact Calls.quiet_of_same (q0 (within_is false _ _ _ (by omega) (by omega) (in_no HY.out)))))
        clear hw1 hw2 hxb
        have c0 : ((w2.alloc (.cells #[.int .i64 yn, .int .i64 yd] 26))).cell? ⟨w.heap.size + 1 + 1, 0, none⟩ = some (.int .i64 0) := by simp [*, go_sem]
        have c1 : ((w2.alloc (.cells #[.int .i64 yn, .int .i64 yd] 26))).cell? ⟨w.heap.size + 1 + 1, 1, none⟩ = some (.int .i64 0) := by simp [*, go_sem]
        have s0 := fun q : Nat => set_same (w := (w2.alloc (.cells #[.int .i64 yn, .int .i64 yd] 26)).drewN q) (.int .i64 0) c0
        have s1 := fun q : Nat => set_same (.int .i64 0) (set_next (w := (w2.alloc (.cells #[.int .i64 yn, .int .i64 yd] 26)).drewN q) (.int .i64 0) c1)
        go_wp2
        refine bodyPost_ret (v := .tuple #[.agg #[.int .i64 0, .int .i64 0], .bool false]) (by simp [results, Try.results62, go_sem, s0, s1]) rfl ⟨?_, pair_below _ _ (by omega) (nd (na (nt (na (nt (na (na (na (nr _) _) _) _) hb1) _) hb2) _) _)⟩
        rw [HM.out.1, HM.out.2.1, HM.out.2.2]
theorem implMul_any (an ad bn bd : Int) (w : World) :
    Calls Try.prog 21 #[.agg #[.int .i64 an, .int .i64 ad], .agg #[.int .i64 bn, .int .i64 bd]] w fun e w' => e = .returned (.tuple #[.agg #[.int .i64 (mulN an ad bn bd), .int .i64 (mulD an ad bn bd)], .bool (mulB an ad bn bd)]) ∧ Below w.heap.size w w' := by
  go_enter Try.func21, Try.ntmps21
  rcases va : ratB an ad with _ | _
  · have HR := Lib.hid (mul_no (mulA_no (both_no (b := ratB bn bd) va)))
    have VA := Lib.hid va
    clear va
    go_wp2_with fail
    refine (implRat_any an ad _).mono ?_; rw [VA.out]; rintro e w1 ⟨rfl, hb1⟩; obtain ⟨hc1, hf1, hz1⟩ := bc3 w.heap.size hb1 (by simp)
    have c0 := keep1 hb1 (a := ⟨w.heap.size + 1 + 1, 0, none⟩) (v := .int .i64 0) (by simp [go_sem])
    have c1 := keep1 hb1 (a := ⟨w.heap.size + 1 + 1, 1, none⟩) (v := .int .i64 0) (by simp [go_sem])
    have hn : Below w.heap.size w w1 := nt (na (na (na (nr _) _) _) _) hb1
    have s0 := set_same (.int .i64 0) c0
    have s1 := set_same (.int .i64 0) (set_next (.int .i64 0) c1)
    go_wp2
    refine bodyPost_ret (v := .tuple #[.agg #[.int .i64 0, .int .i64 0], .bool false]) (by simp [results, Try.results21, go_sem, s0, s1]) rfl ⟨?_, pair_below _ _ (by omega) hn⟩
    rw [HR.out.1, HR.out.2.1, HR.out.2.2]
  rcases vb : ratB bn bd with _ | _
  · have HR := Lib.hid (mul_no (mulA_no (both_no' (a := ratB an ad) vb)))
    have VA := Lib.hid va
    have VB := Lib.hid vb
    clear va vb
    go_wp2_with fail
    refine (implRat_any an ad _).mono ?_; rw [VA.out]; rintro e w1 ⟨rfl, hb1⟩; obtain ⟨hc1, hf1, hz1⟩ := bc3 w.heap.size hb1 (by simp)
    go_wp2_with fail
    refine (implRat_any bn bd _).mono ?_; rw [VB.out]; rintro e w2 ⟨rfl, hb2⟩; obtain ⟨hc2, hf2, hz2⟩ := bc3 w.heap.size hb2 (by omega)
    have c0 := keep1 hb2 (keep1 hb1 (a := ⟨w.heap.size + 1 + 1, 0, none⟩) (v := .int .i64 0) (by simp [go_sem]))
    have c1 := keep1 hb2 (keep1 hb1 (a := ⟨w.heap.size + 1 + 1, 1, none⟩) (v := .int .i64 0) (by simp [go_sem]))
    have hn : Below w.heap.size w w2 := nt (nt (na (na (na (nr _) _) _) _) hb1) hb2
    have s0 := set_same (.int .i64 0) c0
    have s1 := set_same (.int .i64 0) (set_next (.int .i64 0) c1)
    go_wp2
    refine bodyPost_ret (v := .tuple #[.agg #[.int .i64 0, .int .i64 0], .bool false]) (by simp [results, Try.results21, go_sem, s0, s1]) rfl ⟨?_, pair_below _ _ (by omega) hn⟩
    rw [HR.out.1, HR.out.2.1, HR.out.2.2]
  have VA := Lib.hid va
  have VB := Lib.hid vb
  clear va vb
  go_wp2_with fail
  refine (implRat_any an ad _).mono ?_; rw [VA.out]; rintro e w1 ⟨rfl, hb1⟩; obtain ⟨hc1, hf1, hz1⟩ := bc3 w.heap.size hb1 (by simp)
  go_wp2_with fail
  refine (implRat_any bn bd _).mono ?_; rw [VB.out]; rintro e w2 ⟨rfl, hb2⟩; obtain ⟨hc2, hf2, hz2⟩ := bc3 w.heap.size hb2 (by omega)
  go_wp2_with fail
  refine (times_any _ _ _ _ _ VA.out VB.out).mono ?_; rintro e w3 ⟨rfl, hb3⟩; obtain ⟨hc3, hf3, hz3⟩ := bc3 w.heap.size hb3 (by omega)
  have c0 := keep1 hb3 (keep1 hb2 (keep1 hb1 (a := ⟨w.heap.size + 1 + 1, 0, none⟩) (v := .int .i64 0) (by simp [go_sem])))
  have c1 := keep1 hb3 (keep1 hb2 (keep1 hb1 (a := ⟨w.heap.size + 1 + 1, 1, none⟩) (v := .int .i64 0) (by simp [go_sem])))
  have hn : Below w.heap.size w w3 := nt (nt (nt (na (na (na (nr _) _) _) _) hb1) hb2) hb3
  have s0 := set_same (.int .i64 (mulN an ad bn bd)) c0
  have s1 := set_same (.int .i64 (mulD an ad bn bd)) (set_next (.int .i64 (mulN an ad bn bd)) c1)
  go_wp2
  exact bodyPost_ret (v := .tuple #[.agg #[.int .i64 (mulN an ad bn bd), .int .i64 (mulD an ad bn bd)], .bool (mulB an ad bn bd)]) (by simp [results, Try.results21, go_sem, s0, s1]) rfl ⟨rfl, pair_below _ _ (by omega) hn⟩
end Go.Proofs.Ytoleenohcidegaa
