/-
  Contract of the model's MulRats, and the law's walk. Written by an AI agent.
-/
import Derived.Test.YtoleenohcidegaaWalkJ
import Derived.Deep.DeepCutAuto
namespace Go.Proofs.Ytoleenohcidegaa
open Go.RowKit

set_option maxHeartbeats 3200000 in
theorem SpecMul_any (an ad bn bd : Int) (w : World) :
    Calls Try.prog 22 #[.agg #[.int .i64 an, .int .i64 ad], .agg #[.int .i64 bn, .int .i64 bd]] w fun e w' => e = .returned (.tuple #[.agg #[.int .i64 (mulN an ad bn bd), .int .i64 (mulD an ad bn bd)], .bool (mulB an ad bn bd)]) ∧ Below w.heap.size w w' := by
  go_enter Try.func22, Try.ntmps22
  rcases va : ratB an ad with _ | _
  · have HR := Lib.hid (mul_no (mulA_no (both_no (b := ratB bn bd) va)))
    have VA := Lib.hid va
    clear va
    go_wp2_with fail
    refine (specRat_any an ad _).mono ?_; rw [VA.out]; rintro e w1 ⟨rfl, hb1⟩; obtain ⟨hc1, hf1, hz1⟩ := bc3 w.heap.size hb1 (by simp)
    have c0 := keep1 hb1 (a := ⟨w.heap.size + 1 + 1, 0, none⟩) (v := .int .i64 0) (by simp [go_sem])
    have c1 := keep1 hb1 (a := ⟨w.heap.size + 1 + 1, 1, none⟩) (v := .int .i64 0) (by simp [go_sem])
    have hn : Below w.heap.size w w1 := nt (na (na (na (nr _) _) _) _) hb1
    have s0 := set_same (.int .i64 0) c0
    have s1 := set_same (.int .i64 0) (set_next (.int .i64 0) c1)
    go_wp2
    refine bodyPost_ret (v := .tuple #[.agg #[.int .i64 0, .int .i64 0], .bool false]) (by simp [results, Try.results22, go_sem, s0, s1]) rfl ⟨?_, pair_below _ _ (by omega) hn⟩
    rw [HR.out.1, HR.out.2.1, HR.out.2.2]
  rcases vb : ratB bn bd with _ | _
  · have HR := Lib.hid (mul_no (mulA_no (both_no' (a := ratB an ad) vb)))
    have VA := Lib.hid va
    have VB := Lib.hid vb
    clear va vb
    go_wp2_with fail
    refine (specRat_any an ad _).mono ?_; rw [VA.out]; rintro e w1 ⟨rfl, hb1⟩; obtain ⟨hc1, hf1, hz1⟩ := bc3 w.heap.size hb1 (by simp)
    go_wp2_with fail
    refine (specRat_any bn bd _).mono ?_; rw [VB.out]; rintro e w2 ⟨rfl, hb2⟩; obtain ⟨hc2, hf2, hz2⟩ := bc3 w.heap.size hb2 (by omega)
    have c0 := keep1 hb2 (keep1 hb1 (a := ⟨w.heap.size + 1 + 1, 0, none⟩) (v := .int .i64 0) (by simp [go_sem]))
    have c1 := keep1 hb2 (keep1 hb1 (a := ⟨w.heap.size + 1 + 1, 1, none⟩) (v := .int .i64 0) (by simp [go_sem]))
    have hn : Below w.heap.size w w2 := nt (nt (na (na (na (nr _) _) _) _) hb1) hb2
    have s0 := set_same (.int .i64 0) c0
    have s1 := set_same (.int .i64 0) (set_next (.int .i64 0) c1)
    go_wp2
    refine bodyPost_ret (v := .tuple #[.agg #[.int .i64 0, .int .i64 0], .bool false]) (by simp [results, Try.results22, go_sem, s0, s1]) rfl ⟨?_, pair_below _ _ (by omega) hn⟩
    rw [HR.out.1, HR.out.2.1, HR.out.2.2]
  have VA := Lib.hid va
  have VB := Lib.hid vb
  clear va vb
  go_wp2_with fail
  refine (specRat_any an ad _).mono ?_; rw [VA.out]; rintro e w1 ⟨rfl, hb1⟩; obtain ⟨hc1, hf1, hz1⟩ := bc3 w.heap.size hb1 (by simp)
  go_wp2_with fail
  refine (specRat_any bn bd _).mono ?_; rw [VB.out]; rintro e w2 ⟨rfl, hb2⟩; obtain ⟨hc2, hf2, hz2⟩ := bc3 w.heap.size hb2 (by omega)
  have a1 := ratB_true VA.out
  have b1 := ratB_true VB.out
  have bds := mul_bds VA.out VB.out
  have HA := Lib.hid (mulA_yes (both_yes VA.out VB.out))
  have hm : Hid ((mulA an ad bn bd = true → mulN an ad bn bd = cN (qN an bd * qN bn ad) (qD an bd * qD bn ad) ∧ mulD an ad bn bd = cD (qN an bd * qN bn ad) (qD an bd * qD bn ad) ∧ mulB an ad bn bd = ratB (qN an bd * qN bn ad) (qD an bd * qD bn ad)) ∧
    (mulA an ad bn bd = false → mulN an ad bn bd = 0 ∧ mulD an ad bn bd = 0 ∧ mulB an ad bn bd = false)) := ⟨mul_yes, mul_no⟩
  have hn2 : Below w.heap.size w w2 := nt (nt (na (na (na (nr _) _) _) _) hb1) hb2
  have c0 := keep1 hb2 (keep1 hb1 (a := ⟨w.heap.size + 1 + 1, 0, none⟩) (v := .int .i64 0) (by simp [go_sem]))
  have c1 := keep1 hb2 (keep1 hb1 (a := ⟨w.heap.size + 1 + 1, 1, none⟩) (v := .int .i64 0) (by simp [go_sem]))
  have k0 := keep1 hb2 (keep1 hb1 (a := ⟨w.heap.size, 0, none⟩) (v := .int .i64 an) (by simp [go_sem]))
  have k1 := keep1 hb2 (keep1 hb1 (a := ⟨w.heap.size, 1, none⟩) (v := .int .i64 ad) (by simp [go_sem]))
  have k2 := keep1 hb2 (keep1 hb1 (a := ⟨w.heap.size + 1, 0, none⟩) (v := .int .i64 bn) (by simp [go_sem]))
  have k3 := keep1 hb2 (keep1 hb1 (a := ⟨w.heap.size + 1, 1, none⟩) (v := .int .i64 bd) (by simp [go_sem]))
  have f0 : w2.frozen? ⟨w.heap.size + 1 + 1, 0, none⟩ = false := by rw [hf2 _ _ (by omega), hf1 _ _ (by simp)]; simp [go_sem]
  have f1 : w2.frozen? ⟨w.heap.size + 1 + 1, 1, none⟩ = false := by rw [hf2 _ _ (by omega), hf1 _ _ (by simp)]; simp [go_sem]
  have HN2 := Lib.hid hn2
  clear hn2 hb1 hb2 hc1 hf1 hz1 hc2 hf2
  go_wp2_with fail
  refine (ratio_any an bd _ (by omega) (by omega) (by omega)).mono ?_; rintro e w3 ⟨rfl, hb3⟩; obtain ⟨hc3, hf3, hz3⟩ := bc3 w.heap.size hb3 (by omega)
  go_wp2_with fail
  refine (ratio_any bn ad _ (by omega) (by omega) (by omega)).mono ?_; rintro e w4 ⟨rfl, hb4⟩; obtain ⟨hc4, hf4, hz4⟩ := bc3 w.heap.size hb4 (by simp; omega)
  have y4 := hb4.size
  simp at y4
  have y5 : w3.heap.size < w4.heap.size := by omega
  generalize qN an bd = xn at *
  generalize qN bn ad = yn at *
  generalize qD an bd = xd at *
  generalize qD bn ad = yd at *
  by_cases hx : xn = 0
  · have HM : Hid (mulN an ad bn bd = cN 0 (xd * yd) ∧ mulD an ad bn bd = cD 0 (xd * yd) ∧ mulB an ad bn bd = ratB 0 (xd * yd)) := by
      have h := hm.out.1 (by rw [HA.out]; exact mulC_zero hx)
      rw [hx, Int.zero_mul] at h
      exact h
    subst hx
    go_wp2_with fail
    go_quiet (fail)
    go_wp2_with fail
    refine (specChecked_any _ _ _).mono ?_; rintro e w5 ⟨rfl, hb5⟩; obtain ⟨hc5, hf5, hz5⟩ := bc3 w.heap.size hb5 (by first | omega | (simp; omega))
    have d0 := keep1 hb5 (a := ⟨w.heap.size + 1 + 1, 0, none⟩) (v := .int .i64 0) (by simp [*, go_sem])
    have d1 := keep1 hb5 (a := ⟨w.heap.size + 1 + 1, 1, none⟩) (v := .int .i64 0) (by simp [*, go_sem])
    have hn : Below w.heap.size w w5 := nt (nd (na (nt (na (nt HN2.out hb3) _) hb4) _) _) hb5
    have s0 := set_same (.int .i64 (cN (0) (xd * yd))) d0
    have s1 := set_same (.int .i64 (cD (0) (xd * yd))) (set_next (.int .i64 (cN (0) (xd * yd))) d1)
    go_wp2
    refine bodyPost_ret (v := .tuple #[.agg #[.int .i64 (cN (0) (xd * yd)), .int .i64 (cD (0) (xd * yd))], .bool (ratB (0) (xd * yd))]) (by simp [results, Try.results22, go_sem, s0, s1]) rfl ⟨?_, pair_below _ _ (by omega) hn⟩
    rw [HM.out.1, HM.out.2.1, HM.out.2.2]
  · have hxb : (xn != 0) = true := by simp [hx]
    have qb := quo_bd xn
    have hyn : Hid (mulC xn yn = true → -100000000000 ≤ xn * yn ∧ xn * yn ≤ 100000000000) := fun h => by
      rcases of_decide_eq_true h with h | h
      · exact absurd h hx
      · exact mulC_bd hx h
    have hyes : Hid (-(100000000000 / (xn.natAbs : Int)) ≤ yn ∧ yn ≤ 100000000000 / (xn.natAbs : Int) → mulC xn yn = true) := mulC_yes
    have hno : Hid (¬ (-(100000000000 / (xn.natAbs : Int)) ≤ yn ∧ yn ≤ 100000000000 / (xn.natAbs : Int)) → mulC xn yn = false) := mulC_no hx
    have hw : IntKind.i64.wrap ((100000000000 : Int).tdiv (xn.natAbs : Int)) = 100000000000 / (xn.natAbs : Int) := by
      rw [Int.tdiv_eq_ediv_of_nonneg (by omega)]
      exact IntWalk.i64_in _ (by omega)
    generalize 100000000000 / (xn.natAbs : Int) = M at *
    by_cases hy : M < (yn.natAbs : Int)
    · have HM := Lib.hid (hm.out.2 (by rw [HA.out]; exact hno.out (by omega)))
      go_wp2_with fail
      go_quiet ((go_at_call 63; exact Calls.quiet_of_same (q0 (abs_any _ _ (by omega)))))
      clear hw hxb
      have d0 : ((w4.alloc (.cells #[.int .i64 yn, .int .i64 yd] 26))).cell? ⟨w.heap.size + 1 + 1, 0, none⟩ = some (.int .i64 0) := by simp [*, go_sem]
      have d1 : ((w4.alloc (.cells #[.int .i64 yn, .int .i64 yd] 26))).cell? ⟨w.heap.size + 1 + 1, 1, none⟩ = some (.int .i64 0) := by simp [*, go_sem]
      have s0 := fun q : Nat => set_same (w := (w4.alloc (.cells #[.int .i64 yn, .int .i64 yd] 26)).drewN q) (.int .i64 0) d0
      have s1 := fun q : Nat => set_same (.int .i64 0) (set_next (w := (w4.alloc (.cells #[.int .i64 yn, .int .i64 yd] 26)).drewN q) (.int .i64 0) d1)
      go_wp2
      refine bodyPost_ret (v := .tuple #[.agg #[.int .i64 0, .int .i64 0], .bool false]) (by simp [results, Try.results22, go_sem, s0, s1]) rfl ⟨?_, pair_below _ _ (by omega) (nd (na (nt (na (nt HN2.out hb3) _) hb4) _) _)⟩
      rw [HM.out.1, HM.out.2.1, HM.out.2.2]
    · have hy2 : -M ≤ yn ∧ yn ≤ M := by omega
      have HM := Lib.hid (hm.out.1 (by rw [HA.out]; exact hyes.out hy2))
      have pb := hyn.out (hyes.out hy2)
      go_wp2_with fail
      go_quiet ((go_at_call 63; exact Calls.quiet_of_same (q0 (abs_any _ _ (by omega)))))
      clear hw hxb
      go_wp2_with fail
      refine (specChecked_any _ _ _).mono ?_; rintro e w5 ⟨rfl, hb5⟩; obtain ⟨hc5, hf5, hz5⟩ := bc3 w.heap.size hb5 (by first | omega | (simp; omega))
      have d0 := keep1 hb5 (a := ⟨w.heap.size + 1 + 1, 0, none⟩) (v := .int .i64 0) (by simp [*, go_sem])
      have d1 := keep1 hb5 (a := ⟨w.heap.size + 1 + 1, 1, none⟩) (v := .int .i64 0) (by simp [*, go_sem])
      have hn : Below w.heap.size w w5 := nt (nd (na (nt (na (nt HN2.out hb3) _) hb4) _) _) hb5
      have s0 := set_same (.int .i64 (cN (xn * yn) (xd * yd))) d0
      have s1 := set_same (.int .i64 (cD (xn * yn) (xd * yd))) (set_next (.int .i64 (cN (xn * yn) (xd * yd))) d1)
      go_wp2
      refine bodyPost_ret (v := .tuple #[.agg #[.int .i64 (cN (xn * yn) (xd * yd)), .int .i64 (cD (xn * yn) (xd * yd))], .bool (ratB (xn * yn) (xd * yd))]) (by simp [results, Try.results22, go_sem, s0, s1]) rfl ⟨?_, pair_below _ _ (by omega) hn⟩
      rw [HM.out.1, HM.out.2.1, HM.out.2.2]

end Go.Proofs.Ytoleenohcidegaa
