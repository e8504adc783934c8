/-
  Contracts: fractions in lowest terms, valid fractions, the program's and the model's. Written by an AI agent.
-/
import Derived.Test.YtoijfjifaljpaaaWalkD
namespace Go.Proofs.Ytoijfjifaljpaaa
open Go.RowKit

theorem q0 {P : Program} {f : FuncId} {args : Array Value} {w : World} {v : Value} (h : Calls P f args w fun e w' => e = .returned v ∧ w = w') : Calls P f args w fun e w' => e = .returned v ∧ w' = w :=
  h.mono fun _ _ ⟨a, b⟩ => ⟨a, b.symm⟩
/-- A cell that was just written. -/
theorem set_same {w : World} {a : Addr} {u : Value} (v : Value) (c : w.cell? a = some u) : (w.setCell a v).cell? a = some v := World.cell?_setCell_same w a v c
theorem set_next {w : World} {g : Nat} {u : Value} (v : Value) (c : w.cell? ⟨g, 1, none⟩ = some u) : (w.setCell ⟨g, 0, none⟩ v).cell? ⟨g, 1, none⟩ = some u :=
  (World.cell?_setCell_other w ⟨g, 0, none⟩ ⟨g, 1, none⟩ v (by simp)).trans c
theorem inRange_is (b : Bool) (n lo hi : Int) (w : World) (h : (decide (lo ≤ n) && decide (n ≤ hi)) = b) :
    Calls Try.prog 57 #[.int .i64 n, .int .i64 lo, .int .i64 hi] w fun e w' => e = .returned (.bool b) ∧ w = w' := by
  subst h
  exact inRange_any n lo hi w
theorem within_is (b : Bool) (n hi : Int) (w : World) (h0 : -4611686018427387904 ≤ hi) (h1 : hi ≤ 4611686018427387904) (h : (decide (-hi ≤ n) && decide (n ≤ hi)) = b) :
    Calls Try.prog 48 #[.int .i64 n, .int .i64 hi] w fun e w' => e = .returned (.bool b) ∧ w = w' := by
  subst h
  exact within_any n hi w h0 h1
theorem in_yes {n lo hi : Int} (h : lo ≤ n ∧ n ≤ hi) : (decide (lo ≤ n) && decide (n ≤ hi)) = true := by simp [h.1, h.2]
theorem in_no {n lo hi : Int} (h : ¬ (lo ≤ n ∧ n ≤ hi)) : (decide (lo ≤ n) && decide (n ≤ hi)) = false := by
  simp
  omega

set_option maxHeartbeats 1000000 in
theorem ratio_any (num den : Int) (w : World) (hn : -4500000000000000000 ≤ num ∧ num ≤ 4500000000000000000) (hd : -4500000000000000000 ≤ den ∧ den ≤ 4500000000000000000) (h0 : den ≠ 0) :
    Calls Try.prog 93 #[.int .i64 num, .int .i64 den] w fun e w' => e = .returned (.agg #[.int .i64 (qN num den), .int .i64 (qD num den)]) ∧ Below w.heap.size w w' := by
  have hg := gI_pos num den h0
  have b1 := tdiv_bd (b := gI num den) hn
  have b2 := tdiv_bd (b := gI num den) hd
  by_cases hneg : den < 0
  · have HN : Hid (-num.tdiv (gI num den) = qN num den) := by show _ = _; rw [qN_neg hneg, Int.neg_tdiv]
    have HD : Hid (-den.tdiv (gI num den) = qD num den) := by show _ = _; rw [qD_neg hneg, Int.neg_tdiv]
    have HG : Hid (gI (num.natAbs : Int) (-den) = gI num den) := by
      show gI _ _ = _
      rw [gI_abs, gI_neg_right]
    go_enter Try.func93, Try.ntmps93
    go_wp2_with fail
    refine (abs_any _ _ (by omega)).mono ?_; rintro e w1 ⟨rfl, rfl⟩
    go_wp2_with fail
    refine (specGcd_any _ _ _ (by omega) (by omega)).mono ?_; rw [HG.out]; rintro e w1 ⟨rfl, rfl⟩
    go_wp2_with fail
    generalize gI num den = g at *
    have hg0 : ¬ g = 0 := by omega
    go_region
    go_wp2
    refine bodyPost_ret (v := .agg #[.int .i64 (-num.tdiv g), .int .i64 (-den.tdiv g)]) (by simp [results, Try.results93, go_sem]) rfl ⟨?_, (na (nr _) _).drew⟩
    rw [HN.out, HD.out]
  · have HN : Hid (num.tdiv (gI num den) = qN num den) := by show _ = _; rw [qN_pos hneg]
    have HD : Hid (den.tdiv (gI num den) = qD num den) := by show _ = _; rw [qD_pos hneg]
    have HG : Hid (gI (num.natAbs : Int) den = gI num den) := by
      show gI _ _ = _
      rw [gI_abs]
    go_enter Try.func93, Try.ntmps93
    go_wp2_with fail
    refine (abs_any _ _ (by omega)).mono ?_; rintro e w1 ⟨rfl, rfl⟩
    go_wp2_with fail
    refine (specGcd_any _ _ _ (by omega) (by omega)).mono ?_; rw [HG.out]; rintro e w1 ⟨rfl, rfl⟩
    go_wp2_with fail
    generalize gI num den = g at *
    have hg0 : ¬ g = 0 := by omega
    go_region
    go_wp2
    refine bodyPost_ret (v := .agg #[.int .i64 (num.tdiv g), .int .i64 (den.tdiv g)]) (by simp [results, Try.results93, go_sem]) rfl ⟨?_, (na (nr _) _).drew⟩
    rw [HN.out, HD.out]

set_option maxHeartbeats 1000000 in
theorem lowest_any (num den : Int) (w : World) (hn : -4500000000000000000 ≤ num ∧ num ≤ 4500000000000000000) (hd : -4500000000000000000 ≤ den ∧ den ≤ 4500000000000000000) (h0 : den ≠ 0) :
    Calls Try.prog 90 #[.int .i64 num, .int .i64 den] w fun e w' => e = .returned (.agg #[.int .i64 (qN num den), .int .i64 (qD num den)]) ∧ Below w.heap.size w w' := by
  have hg := gI_pos num den h0
  have b1 := tdiv_bd (b := gI num den) hn
  have b2 := tdiv_bd (b := gI num den) hd
  have bg := gI_bd hn hd
  by_cases hneg : den < 0
  · have HN : Hid (-num.tdiv (gI num den) = qN num den) := by show _ = _; rw [qN_neg hneg, Int.neg_tdiv]
    have HD : Hid (-den.tdiv (gI num den) = qD num den) := by show _ = _; rw [qD_neg hneg, Int.neg_tdiv]
    have HS := Lib.hid (sgn_neg hneg)
    go_enter Try.func90, Try.ntmps90
    go_wp2_with fail
    refine (implGcd2_any _ _ num den _ hn hd ?_ ?_ ?_).mono ?_
    all_goals (try (simp [go_sem]; done))
    rintro e w1 ⟨rfl, hb1⟩; obtain ⟨hc1, hf1, hz1⟩ := bc2 w.heap.size hb1 (by simp)
    go_wp2_with fail
    refine (implSign_any _ _).mono ?_; rw [HS.out]; rintro e w2 ⟨rfl, rfl⟩
    go_wp2_with fail
    generalize gI num den = g at *
    have hg0 : ¬ g = 0 := by omega
    have c0 := keep1 hb1 (a := ⟨w.heap.size, 0, none⟩) (v := .int .i64 0) (by simp [go_sem])
    have c1 := keep1 hb1 (a := ⟨w.heap.size, 1, none⟩) (v := .int .i64 0) (by simp [go_sem])
    go_region
    go_wp2
    refine bodyPost_ret (v := .agg #[.int .i64 (-num.tdiv g), .int .i64 (-den.tdiv g)]) (by simp [results, Try.results90, go_sem, set_same (.int .i64 (-num.tdiv g)) c0, set_same (.int .i64 (-den.tdiv g)) (set_next (.int .i64 (-num.tdiv g)) c1)]) rfl ⟨?_, ?_⟩
    · rw [HN.out, HD.out]
    · exact (((nt (na (na (nr _) _) _) hb1).setCell (by simp) _).setCell (by simp) _).drew
  · have HN : Hid (num.tdiv (gI num den) = qN num den) := by show _ = _; rw [qN_pos hneg]
    have HD : Hid (den.tdiv (gI num den) = qD num den) := by show _ = _; rw [qD_pos hneg]
    have HS := Lib.hid (sgn_pos (n := den) (by omega))
    go_enter Try.func90, Try.ntmps90
    go_wp2_with fail
    refine (implGcd2_any _ _ num den _ hn hd ?_ ?_ ?_).mono ?_
    all_goals (try (simp [go_sem]; done))
    rintro e w1 ⟨rfl, hb1⟩; obtain ⟨hc1, hf1, hz1⟩ := bc2 w.heap.size hb1 (by simp)
    go_wp2_with fail
    refine (implSign_any _ _).mono ?_; rw [HS.out]; rintro e w2 ⟨rfl, rfl⟩
    go_wp2_with fail
    generalize gI num den = g at *
    have hg0 : ¬ g = 0 := by omega
    have c0 := keep1 hb1 (a := ⟨w.heap.size, 0, none⟩) (v := .int .i64 0) (by simp [go_sem])
    have c1 := keep1 hb1 (a := ⟨w.heap.size, 1, none⟩) (v := .int .i64 0) (by simp [go_sem])
    go_region
    go_wp2
    refine bodyPost_ret (v := .agg #[.int .i64 (num.tdiv g), .int .i64 (den.tdiv g)]) (by simp [results, Try.results90, go_sem, set_same (.int .i64 (num.tdiv g)) c0, set_same (.int .i64 (den.tdiv g)) (set_next (.int .i64 (num.tdiv g)) c1)]) rfl ⟨?_, ?_⟩
    · rw [HN.out, HD.out]
    · exact (((nt (na (na (nr _) _) _) hb1).setCell (by simp) _).setCell (by simp) _).drew

/-- The model's and the program's ValidRat. -/
theorem specRat_any (n d : Int) (w : World) :
    Calls Try.prog 96 #[.agg #[.int .i64 n, .int .i64 d]] w fun e w' => e = .returned (.bool (ratB n d)) ∧ Below w.heap.size w w' := by
  by_cases h1 : -100000000000 ≤ n ∧ n ≤ 100000000000
  · by_cases h2 : 1 ≤ d ∧ d ≤ 20000000
    · have HR := Lib.hid (ratB_mk h1.1 h1.2 h2.1 h2.2)
      have HG : Hid (gI (n.natAbs : Int) d = gI n d) := gI_abs n d
      go_enter Try.func96, Try.ntmps96
      go_wp2_with fail
      go_quiet (first
        | (go_at_call_of 57 (Value.int .i64 n); exact Calls.quiet_of_same (q0 (inRange_is true _ _ _ _ (in_yes h1))))
        | (go_at_call_of 57 (Value.int .i64 d); exact Calls.quiet_of_same (q0 (inRange_is true _ _ _ _ (in_yes h2))))
        | (go_at_call 92; exact Calls.quiet_of_same (q0 (abs_any _ _ (by omega))))
        | (go_at_call 91; exact Calls.quiet_of_same (q0 (specGcd_any _ _ _ (by omega) (by omega)))))
      go_wp2_with fail
      go_ret
      refine ⟨ret_bool ?_, nd (na (nr _) _) _⟩
      rw [HG.out, HR.out]
      rfl
    · have HR := Lib.hid (ratB_no (n := n) (d := d) (by omega))
      go_enter Try.func96, Try.ntmps96
      go_wp2_with fail
      go_quiet (first
        | (go_at_call_of 57 (Value.int .i64 n); exact Calls.quiet_of_same (q0 (inRange_is true _ _ _ _ (in_yes h1))))
        | (go_at_call_of 57 (Value.int .i64 d); exact Calls.quiet_of_same (q0 (inRange_is false _ _ _ _ (in_no h2)))))
      go_wp2_with fail
      go_ret
      exact ⟨ret_bool HR.out.symm, nd (na (nr _) _) _⟩
  · have HR := Lib.hid (ratB_no (n := n) (d := d) (by omega))
    go_enter Try.func96, Try.ntmps96
    go_wp2_with fail
    go_quiet ((go_at_call_of 57 (Value.int .i64 n); exact Calls.quiet_of_same (q0 (inRange_is false _ _ _ _ (in_no h1)))))
    go_wp2_with fail
    go_ret
    exact ⟨ret_bool HR.out.symm, nd (na (nr _) _) _⟩
theorem implRat_any (n d : Int) (w : World) :
    Calls Try.prog 41 #[.agg #[.int .i64 n, .int .i64 d]] w fun e w' => e = .returned (.bool (ratB n d)) ∧ Below w.heap.size w w' := by
  by_cases h1 : -100000000000 ≤ n ∧ n ≤ 100000000000
  · by_cases h2 : 1 ≤ d
    · by_cases h3 : d ≤ 20000000
      · have HR := Lib.hid (ratB_mk h1.1 h1.2 h2 h3)
        go_enter Try.func41, Try.ntmps41
        go_wp2_with fail
        refine (within_is true _ _ _ (by omega) (by omega) (in_yes (by omega))).mono ?_; rintro e w1 ⟨rfl, rfl⟩
        go_wp2_with fail
        refine (implGcd2_any _ _ n d _ (by omega) (by omega) ?_ ?_ ?_).mono ?_
        all_goals (try (simp [go_sem]; done))
        rintro e w1 ⟨rfl, hb1⟩
        go_wp2_with fail
        go_ret
        refine ⟨ret_bool ?_, nt (na (na (nr _) _) _) hb1⟩
        rw [HR.out]
        rfl
      · have HR := Lib.hid (ratB_no (n := n) (d := d) (by omega))
        go_enter Try.func41, Try.ntmps41
        go_wp2_with fail
        refine (within_is true _ _ _ (by omega) (by omega) (in_yes (by omega))).mono ?_; rintro e w1 ⟨rfl, rfl⟩
        go_wp2_with fail
        go_ret
        exact ⟨ret_bool HR.out.symm, na (nr _) _⟩
    · have HR := Lib.hid (ratB_no (n := n) (d := d) (by omega))
      go_enter Try.func41, Try.ntmps41
      go_wp2_with fail
      refine (within_is true _ _ _ (by omega) (by omega) (in_yes (by omega))).mono ?_; rintro e w1 ⟨rfl, rfl⟩
      go_wp2_with fail
      go_ret
      exact ⟨ret_bool HR.out.symm, na (nr _) _⟩
  · have HR := Lib.hid (ratB_no (n := n) (d := d) (by omega))
    go_enter Try.func41, Try.ntmps41
    go_wp2_with fail
    refine (within_is false _ _ _ (by omega) (by omega) (in_no (by omega))).mono ?_; rintro e w1 ⟨rfl, rfl⟩
    go_wp2_with fail
    go_ret
    exact ⟨ret_bool HR.out.symm, na (nr _) _⟩

theorem keepS {W : World} {b i : Nat} {v : Value} {o o' : Obj} (hb : b < W.heap.size) (h : (W.alloc o).cell? ⟨b, i, none⟩ = some v) : (W.alloc o').cell? ⟨b, i, none⟩ = some v := by
  rw [World.cell?_alloc_lt W _ ⟨b, i, none⟩ hb] at h ⊢
  exact h
theorem keepF {W : World} {b i g j : Nat} {u v : Value} (hb : b < g) (h : W.cell? ⟨b, i, none⟩ = some v) : (W.setCell ⟨g, j, none⟩ u).cell? ⟨b, i, none⟩ = some v :=
  (World.cell?_setCell_other _ ⟨g, j, none⟩ ⟨b, i, none⟩ u (fun e => by injection e; omega)).trans h
theorem pair_0 {w : World} {g : Nat} {u : Value} (v0 v1 : Value) (c : w.cell? ⟨g, 0, none⟩ = some u) : ((w.setCell ⟨g, 0, none⟩ v0).setCell ⟨g, 1, none⟩ v1).cell? ⟨g, 0, none⟩ = some v0 :=
  (World.cell?_setCell_other _ ⟨g, 1, none⟩ ⟨g, 0, none⟩ v1 (by simp)).trans (set_same v0 c)
theorem pair_1 {w : World} {g : Nat} {u : Value} (v0 v1 : Value) (c : w.cell? ⟨g, 1, none⟩ = some u) : ((w.setCell ⟨g, 0, none⟩ v0).setCell ⟨g, 1, none⟩ v1).cell? ⟨g, 1, none⟩ = some v1 :=
  set_same v1 (set_next v0 c)
theorem pair_far {w : World} {g b o : Nat} {u : Value} (v0 v1 : Value) (h : b < g ∨ g < b) (c : w.cell? ⟨b, o, none⟩ = some u) : ((w.setCell ⟨g, 0, none⟩ v0).setCell ⟨g, 1, none⟩ v1).cell? ⟨b, o, none⟩ = some u :=
  (World.cell?_setCell_other _ ⟨g, 1, none⟩ ⟨b, o, none⟩ v1 (fun e => by injection e; omega)).trans ((World.cell?_setCell_other _ ⟨g, 0, none⟩ ⟨b, o, none⟩ v0 (fun e => by injection e; omega)).trans c)
theorem pair_below {a w : World} {g : Nat} (v0 v1 : Value) (h : a.heap.size ≤ g) (hb : Below a.heap.size a w) : Below a.heap.size a ((w.setCell ⟨g, 0, none⟩ v0).setCell ⟨g, 1, none⟩ v1) :=
  (hb.setCell (p := ⟨g, 0, none⟩) h v0).setCell (p := ⟨g, 1, none⟩) h v1
end Go.Proofs.Ytoijfjifaljpaaa
