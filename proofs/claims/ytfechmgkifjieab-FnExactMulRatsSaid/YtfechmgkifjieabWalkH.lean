/-
  Contracts and walks of the laws on fractions: AddRats, FloorRat, the program's and the model's. Written by an AI agent.
-/
import Derived.Test.YtfechmgkifjieabWalkG
import Derived.Deep.DeepCutAuto
namespace Go.Proofs.Ytfechmgkifjieab
open Go.RowKit

theorem plus_any (an ad bn bd : Int) (w : World) (ha : ratB an ad = true) (hb : ratB bn bd = true) :
    Calls Try.prog 77 #[.agg #[.int .i64 an, .int .i64 ad], .agg #[.int .i64 bn, .int .i64 bd]] w fun e w' => e = .returned (.tuple #[.agg #[.int .i64 (cN (qN (an * bd + bn * ad) (ad * bd)) (qD (an * bd + bn * ad) (ad * bd))), .int .i64 (cD (qN (an * bd + bn * ad) (ad * bd)) (qD (an * bd + bn * ad) (ad * bd)))], .bool (ratB (qN (an * bd + bn * ad) (ad * bd)) (qD (an * bd + bn * ad) (ad * bd)))]) ∧ Below w.heap.size w w' := by
  have bd' := rat_bd ha hb
  clear ha hb
  go_enter Try.func77, Try.ntmps77
  go_wp2_with fail
  refine (lowest_any _ _ _ (by omega) (by omega) (by omega)).mono ?_; rintro e w1 ⟨rfl, hb1⟩; obtain ⟨hc1, hf1, hz1⟩ := bc3 w.heap.size hb1 (by simp)
  go_wp2_with fail
  refine (implChecked_any _ _ _).mono ?_; rintro e w2 ⟨rfl, hb2⟩; obtain ⟨hc2, hf2, hz2⟩ := bc3 w.heap.size hb2 (by omega)
  have c0 := keep1 hb2 (keep1 hb1 (a := ⟨w.heap.size + 1 + 1, 0, none⟩) (v := .int .i64 0) (by simp [go_sem]))
  have c1 := keep1 hb2 (keep1 hb1 (a := ⟨w.heap.size + 1 + 1, 1, none⟩) (v := .int .i64 0) (by simp [go_sem]))
  have hn : Below w.heap.size w w2 := nt (nt (na (na (na (nr _) _) _) _) hb1) hb2
  have s0 := set_same (.int .i64 (cN (qN (an * bd + bn * ad) (ad * bd)) (qD (an * bd + bn * ad) (ad * bd)))) c0
  have s1 := set_same (.int .i64 (cD (qN (an * bd + bn * ad) (ad * bd)) (qD (an * bd + bn * ad) (ad * bd)))) (set_next (.int .i64 (cN (qN (an * bd + bn * ad) (ad * bd)) (qD (an * bd + bn * ad) (ad * bd)))) c1)
  go_wp2
  refine bodyPost_ret (v := .tuple #[.agg #[.int .i64 (cN (qN (an * bd + bn * ad) (ad * bd)) (qD (an * bd + bn * ad) (ad * bd))), .int .i64 (cD (qN (an * bd + bn * ad) (ad * bd)) (qD (an * bd + bn * ad) (ad * bd)))], .bool (ratB (qN (an * bd + bn * ad) (ad * bd)) (qD (an * bd + bn * ad) (ad * bd)))]) (by simp [results, Try.results77, go_sem, s0, s1]) rfl ⟨?_, ((hn.setCell (by show _ ≤ w.heap.size + 1 + 1; omega) _).setCell (by show _ ≤ w.heap.size + 1 + 1; omega) _)⟩
  rfl
theorem implAdd_any (an ad bn bd : Int) (w : World) :
    Calls Try.prog 42 #[.agg #[.int .i64 an, .int .i64 ad], .agg #[.int .i64 bn, .int .i64 bd]] w fun e w' => e = .returned (.tuple #[.agg #[.int .i64 (addN an ad bn bd), .int .i64 (addD an ad bn bd)], .bool (addB an ad bn bd)]) ∧ Below w.heap.size w w' := by
  go_enter Try.func42, Try.ntmps42
  rcases va : ratB an ad with _ | _
  · have HR := Lib.hid (add_no (both_no (b := ratB bn bd) va))
    have VA := Lib.hid va
    clear va
    go_wp2_with fail
    refine (implRat_any an ad _).mono ?_; rw [VA.out]; rintro e w1 ⟨rfl, hb1⟩; obtain ⟨hc1, hf1, hz1⟩ := bc3 w.heap.size hb1 (by simp)
    have c0 := keep1 hb1 (a := ⟨w.heap.size + 1 + 1, 0, none⟩) (v := .int .i64 0) (by simp [go_sem])
    have c1 := keep1 hb1 (a := ⟨w.heap.size + 1 + 1, 1, none⟩) (v := .int .i64 0) (by simp [go_sem])
    have hn : Below w.heap.size w w1 := nt (na (na (na (nr _) _) _) _) hb1
    have s0 := set_same (.int .i64 0) c0
    have s1 := set_same (.int .i64 0) (set_next (.int .i64 0) c1)
    go_wp2
    refine bodyPost_ret (v := .tuple #[.agg #[.int .i64 0, .int .i64 0], .bool false]) (by simp [results, Try.results42, go_sem, s0, s1]) rfl ⟨?_, ((hn.setCell (by show _ ≤ w.heap.size + 1 + 1; omega) _).setCell (by show _ ≤ w.heap.size + 1 + 1; omega) _)⟩
    rw [HR.out.1, HR.out.2.1, HR.out.2.2]
  rcases vb : ratB bn bd with _ | _
  · have HR := Lib.hid (add_no (both_no' (a := ratB an ad) vb))
    have VA := Lib.hid va
    have VB := Lib.hid vb
    clear va vb
    go_wp2_with fail
    refine (implRat_any an ad _).mono ?_; rw [VA.out]; rintro e w1 ⟨rfl, hb1⟩; obtain ⟨hc1, hf1, hz1⟩ := bc3 w.heap.size hb1 (by simp)
    go_wp2_with fail
    refine (implRat_any bn bd _).mono ?_; rw [VB.out]; rintro e w2 ⟨rfl, hb2⟩; obtain ⟨hc2, hf2, hz2⟩ := bc3 w.heap.size hb2 (by omega)
    have c0 := keep1 hb2 (keep1 hb1 (a := ⟨w.heap.size + 1 + 1, 0, none⟩) (v := .int .i64 0) (by simp [go_sem]))
    have c1 := keep1 hb2 (keep1 hb1 (a := ⟨w.heap.size + 1 + 1, 1, none⟩) (v := .int .i64 0) (by simp [go_sem]))
    have hn : Below w.heap.size w w2 := nt (nt (na (na (na (nr _) _) _) _) hb1) hb2
    have s0 := set_same (.int .i64 0) c0
    have s1 := set_same (.int .i64 0) (set_next (.int .i64 0) c1)
    go_wp2
    refine bodyPost_ret (v := .tuple #[.agg #[.int .i64 0, .int .i64 0], .bool false]) (by simp [results, Try.results42, go_sem, s0, s1]) rfl ⟨?_, ((hn.setCell (by show _ ≤ w.heap.size + 1 + 1; omega) _).setCell (by show _ ≤ w.heap.size + 1 + 1; omega) _)⟩
    rw [HR.out.1, HR.out.2.1, HR.out.2.2]
  have bd' := rat_bd va vb
  have HR := Lib.hid (add_yes (both_yes va vb))
  have VA := Lib.hid va
  have VB := Lib.hid vb
  clear va vb
  go_wp2_with fail
  refine (implRat_any an ad _).mono ?_; rw [VA.out]; rintro e w1 ⟨rfl, hb1⟩; obtain ⟨hc1, hf1, hz1⟩ := bc3 w.heap.size hb1 (by simp)
  go_wp2_with fail
  refine (implRat_any bn bd _).mono ?_; rw [VB.out]; rintro e w2 ⟨rfl, hb2⟩; obtain ⟨hc2, hf2, hz2⟩ := bc3 w.heap.size hb2 (by omega)
  go_wp2_with fail
  refine (plus_any _ _ _ _ _ VA.out VB.out).mono ?_; rintro e w3 ⟨rfl, hb3⟩; obtain ⟨hc3, hf3, hz3⟩ := bc3 w.heap.size hb3 (by omega)
  have c0 := keep1 hb3 (keep1 hb2 (keep1 hb1 (a := ⟨w.heap.size + 1 + 1, 0, none⟩) (v := .int .i64 0) (by simp [go_sem])))
  have c1 := keep1 hb3 (keep1 hb2 (keep1 hb1 (a := ⟨w.heap.size + 1 + 1, 1, none⟩) (v := .int .i64 0) (by simp [go_sem])))
  have hn : Below w.heap.size w w3 := nt (nt (nt (na (na (na (nr _) _) _) _) hb1) hb2) hb3
  have s0 := set_same (.int .i64 (cN (qN (an * bd + bn * ad) (ad * bd)) (qD (an * bd + bn * ad) (ad * bd)))) c0
  have s1 := set_same (.int .i64 (cD (qN (an * bd + bn * ad) (ad * bd)) (qD (an * bd + bn * ad) (ad * bd)))) (set_next (.int .i64 (cN (qN (an * bd + bn * ad) (ad * bd)) (qD (an * bd + bn * ad) (ad * bd)))) c1)
  go_wp2
  refine bodyPost_ret (v := .tuple #[.agg #[.int .i64 (cN (qN (an * bd + bn * ad) (ad * bd)) (qD (an * bd + bn * ad) (ad * bd))), .int .i64 (cD (qN (an * bd + bn * ad) (ad * bd)) (qD (an * bd + bn * ad) (ad * bd)))], .bool (ratB (qN (an * bd + bn * ad) (ad * bd)) (qD (an * bd + bn * ad) (ad * bd)))]) (by simp [results, Try.results42, go_sem, s0, s1]) rfl ⟨?_, ((hn.setCell (by show _ ≤ w.heap.size + 1 + 1; omega) _).setCell (by show _ ≤ w.heap.size + 1 + 1; omega) _)⟩
  rw [HR.out.1, HR.out.2.1, HR.out.2.2]
theorem SpecAdd_any (an ad bn bd : Int) (w : World) :
    Calls Try.prog 41 #[.agg #[.int .i64 an, .int .i64 ad], .agg #[.int .i64 bn, .int .i64 bd]] w fun e w' => e = .returned (.tuple #[.agg #[.int .i64 (addN an ad bn bd), .int .i64 (addD an ad bn bd)], .bool (addB an ad bn bd)]) ∧ Below w.heap.size w w' := by
  go_enter Try.func41, Try.ntmps41
  rcases va : ratB an ad with _ | _
  · have HR := Lib.hid (add_no (both_no (b := ratB bn bd) va))
    have VA := Lib.hid va
    clear va
    go_wp2_with fail
    refine (specRat_any an ad _).mono ?_; rw [VA.out]; rintro e w1 ⟨rfl, hb1⟩; obtain ⟨hc1, hf1, hz1⟩ := bc3 w.heap.size hb1 (by simp)
    have c0 := keep1 hb1 (a := ⟨w.heap.size + 1 + 1, 0, none⟩) (v := .int .i64 0) (by simp [go_sem])
    have c1 := keep1 hb1 (a := ⟨w.heap.size + 1 + 1, 1, none⟩) (v := .int .i64 0) (by simp [go_sem])
    have hn : Below w.heap.size w w1 := nt (na (na (na (nr _) _) _) _) hb1
    have s0 := set_same (.int .i64 0) c0
    have s1 := set_same (.int .i64 0) (set_next (.int .i64 0) c1)
    go_wp2
    refine bodyPost_ret (v := .tuple #[.agg #[.int .i64 0, .int .i64 0], .bool false]) (by simp [results, Try.results41, go_sem, s0, s1]) rfl ⟨?_, ((hn.setCell (by show _ ≤ w.heap.size + 1 + 1; omega) _).setCell (by show _ ≤ w.heap.size + 1 + 1; omega) _)⟩
    rw [HR.out.1, HR.out.2.1, HR.out.2.2]
  rcases vb : ratB bn bd with _ | _
  · have HR := Lib.hid (add_no (both_no' (a := ratB an ad) vb))
    have VA := Lib.hid va
    have VB := Lib.hid vb
    clear va vb
    go_wp2_with fail
    refine (specRat_any an ad _).mono ?_; rw [VA.out]; rintro e w1 ⟨rfl, hb1⟩; obtain ⟨hc1, hf1, hz1⟩ := bc3 w.heap.size hb1 (by simp)
    go_wp2_with fail
    refine (specRat_any bn bd _).mono ?_; rw [VB.out]; rintro e w2 ⟨rfl, hb2⟩; obtain ⟨hc2, hf2, hz2⟩ := bc3 w.heap.size hb2 (by omega)
    have c0 := keep1 hb2 (keep1 hb1 (a := ⟨w.heap.size + 1 + 1, 0, none⟩) (v := .int .i64 0) (by simp [go_sem]))
    have c1 := keep1 hb2 (keep1 hb1 (a := ⟨w.heap.size + 1 + 1, 1, none⟩) (v := .int .i64 0) (by simp [go_sem]))
    have hn : Below w.heap.size w w2 := nt (nt (na (na (na (nr _) _) _) _) hb1) hb2
    have s0 := set_same (.int .i64 0) c0
    have s1 := set_same (.int .i64 0) (set_next (.int .i64 0) c1)
    go_wp2
    refine bodyPost_ret (v := .tuple #[.agg #[.int .i64 0, .int .i64 0], .bool false]) (by simp [results, Try.results41, go_sem, s0, s1]) rfl ⟨?_, ((hn.setCell (by show _ ≤ w.heap.size + 1 + 1; omega) _).setCell (by show _ ≤ w.heap.size + 1 + 1; omega) _)⟩
    rw [HR.out.1, HR.out.2.1, HR.out.2.2]
  have bd' := rat_bd va vb
  have HR := Lib.hid (add_yes (both_yes va vb))
  have VA := Lib.hid va
  have VB := Lib.hid vb
  clear va vb
  go_wp2_with fail
  refine (specRat_any an ad _).mono ?_; rw [VA.out]; rintro e w1 ⟨rfl, hb1⟩; obtain ⟨hc1, hf1, hz1⟩ := bc3 w.heap.size hb1 (by simp)
  go_wp2_with fail
  refine (specRat_any bn bd _).mono ?_; rw [VB.out]; rintro e w2 ⟨rfl, hb2⟩; obtain ⟨hc2, hf2, hz2⟩ := bc3 w.heap.size hb2 (by omega)
  go_wp2_with fail
  refine (ratio_any _ _ _ (by omega) (by omega) (by omega)).mono ?_; rintro e w3 ⟨rfl, hb3⟩; obtain ⟨hc3, hf3, hz3⟩ := bc3 w.heap.size hb3 (by omega)
  go_wp2_with fail
  refine (specChecked_any _ _ _).mono ?_; rintro e w4 ⟨rfl, hb4⟩; obtain ⟨hc4, hf4, hz4⟩ := bc3 w.heap.size hb4 (by omega)
  have c0 := keep1 hb4 (keep1 hb3 (keep1 hb2 (keep1 hb1 (a := ⟨w.heap.size + 1 + 1, 0, none⟩) (v := .int .i64 0) (by simp [go_sem]))))
  have c1 := keep1 hb4 (keep1 hb3 (keep1 hb2 (keep1 hb1 (a := ⟨w.heap.size + 1 + 1, 1, none⟩) (v := .int .i64 0) (by simp [go_sem]))))
  have hn : Below w.heap.size w w4 := nt (nt (nt (nt (na (na (na (nr _) _) _) _) hb1) hb2) hb3) hb4
  have s0 := set_same (.int .i64 (cN (qN (an * bd + bn * ad) (ad * bd)) (qD (an * bd + bn * ad) (ad * bd)))) c0
  have s1 := set_same (.int .i64 (cD (qN (an * bd + bn * ad) (ad * bd)) (qD (an * bd + bn * ad) (ad * bd)))) (set_next (.int .i64 (cN (qN (an * bd + bn * ad) (ad * bd)) (qD (an * bd + bn * ad) (ad * bd)))) c1)
  go_wp2
  refine bodyPost_ret (v := .tuple #[.agg #[.int .i64 (cN (qN (an * bd + bn * ad) (ad * bd)) (qD (an * bd + bn * ad) (ad * bd))), .int .i64 (cD (qN (an * bd + bn * ad) (ad * bd)) (qD (an * bd + bn * ad) (ad * bd)))], .bool (ratB (qN (an * bd + bn * ad) (ad * bd)) (qD (an * bd + bn * ad) (ad * bd)))]) (by simp [results, Try.results41, go_sem, s0, s1]) rfl ⟨?_, ((hn.setCell (by show _ ≤ w.heap.size + 1 + 1; omega) _).setCell (by show _ ≤ w.heap.size + 1 + 1; omega) _)⟩
  rw [HR.out.1, HR.out.2.1, HR.out.2.2]
theorem keepS {W : World} {b i : Nat} {v : Value} {o o' : Obj} (hb : b < W.heap.size) (h : (W.alloc o).cell? ⟨b, i, none⟩ = some v) : (W.alloc o').cell? ⟨b, i, none⟩ = some v := by
  rw [World.cell?_alloc_lt W _ ⟨b, i, none⟩ hb] at h ⊢
  exact h
theorem keepF {W : World} {b i g j : Nat} {u v : Value} (hb : b < g) (h : W.cell? ⟨b, i, none⟩ = some v) : (W.setCell ⟨g, j, none⟩ u).cell? ⟨b, i, none⟩ = some v :=
  (World.cell?_setCell_other _ ⟨g, j, none⟩ ⟨b, i, none⟩ u (fun e => by injection e; omega)).trans h
theorem pair_0 {w : World} {g : Nat} {u : Value} (v0 v1 : Value) (c : w.cell? ⟨g, 0, none⟩ = some u) : ((w.setCell ⟨g, 0, none⟩ v0).setCell ⟨g, 1, none⟩ v1).cell? ⟨g, 0, none⟩ = some v0 :=
  (World.cell?_setCell_other _ ⟨g, 1, none⟩ ⟨g, 0, none⟩ v1 (by simp)).trans (set_same v0 c)
theorem pair_1 {w : World} {g : Nat} {u : Value} (v0 v1 : Value) (c : w.cell? ⟨g, 1, none⟩ = some u) : ((w.setCell ⟨g, 0, none⟩ v0).setCell ⟨g, 1, none⟩ v1).cell? ⟨g, 1, none⟩ = some v1 :=
  set_same v1 (set_next v0 c)
theorem pair_far {w : World} {g b o : Nat} {u : Value} (v0 v1 : Value) (h : b < g ∨ g < b) (c : w.cell? ⟨b, o, none⟩ = some u) : ((w.setCell ⟨g, 0, none⟩ v0).setCell ⟨g, 1, none⟩ v1).cell? ⟨b, o, none⟩ = some u :=
  (World.cell?_setCell_other _ ⟨g, 1, none⟩ ⟨b, o, none⟩ v1 (fun e => by injection e; omega)).trans ((World.cell?_setCell_other _ ⟨g, 0, none⟩ ⟨b, o, none⟩ v0 (fun e => by injection e; omega)).trans c)
theorem pair_below {a w : World} {g : Nat} (v0 v1 : Value) (h : a.heap.size ≤ g) (hb : Below a.heap.size a w) : Below a.heap.size a ((w.setCell ⟨g, 0, none⟩ v0).setCell ⟨g, 1, none⟩ v1) :=
  (hb.setCell (p := ⟨g, 0, none⟩) h v0).setCell (p := ⟨g, 1, none⟩) h v1
set_option maxHeartbeats 6400000 in
theorem ExactAddRats_walk (an ad bn bd : Int) (w : World) :
    Calls Try.prog 12 #[.agg #[.int .i64 an, .int .i64 ad], .agg #[.int .i64 bn, .int .i64 bd]] w fun e w' => e = .returned (.bool true) ∧ Below w.heap.size w w' := by
  go_enter Try.func12, Try.ntmps12
  go_upto_region 1 with fail
  go_cut [5, 6] (fun s5 s6 wx => ∃ g : Nat, s5 = .pointer (some ⟨g, 0, none⟩) ∧ s6 = .bool (addB an ad bn bd) ∧ wx.cell? ⟨g, 0, none⟩ = some (.int .i64 (addN an ad bn bd)) ∧ wx.cell? ⟨g, 1, none⟩ = some (.int .i64 (addD an ad bn bd)) ∧ wx.cell? ⟨w.heap.size, 0, none⟩ = some (.int .i64 an) ∧ wx.cell? ⟨w.heap.size, 1, none⟩ = some (.int .i64 ad) ∧ wx.cell? ⟨w.heap.size + 1, 0, none⟩ = some (.int .i64 bn) ∧ wx.cell? ⟨w.heap.size + 1, 1, none⟩ = some (.int .i64 bd) ∧ Below w.heap.size w wx)
  case first =>
    go_region_held3 (fun wx => wx.cell? ⟨w.heap.size, 0, none⟩ = some (.int .i64 an) ∧ wx.cell? ⟨w.heap.size, 1, none⟩ = some (.int .i64 ad) ∧ wx.cell? ⟨w.heap.size + 1, 0, none⟩ = some (.int .i64 bn) ∧ wx.cell? ⟨w.heap.size + 1, 1, none⟩ = some (.int .i64 bd))
      (first | (simp [*, go_sem]; done) | (go_split_ands; refine ⟨?_, ?_, ?_, ?_⟩ <;> ((repeat (with_reducible refine keepF (by assumption) ?_)); first | assumption | exact keep1 (by assumption) (by assumption) | exact keepA _ (by assumption) | exact keepS (by assumption) (by assumption))))
      (first
        | (go_at_call_of 34 (Value.agg #[.int .i64 an, .int .i64 ad]); refine (toRat_any _ _ _).mono ?_; rintro e w1 ⟨rfl, hx1⟩; obtain ⟨hc1, hf1⟩ := bcell hx1; have y1 := hx1.size; (try simp at y1); have p10 : w.heap.size < w1.heap.size := (by omega); have p11 : w.heap.size + 1 < w1.heap.size := (by omega); have r10 : w.heap.size < w1.heap.size + 1 := (by omega); have r11 : w.heap.size + 1 < w1.heap.size + 1 := (by omega); (try have q10 : w.heap.size + 1 + 1 < w1.heap.size := (by omega)))
        | (go_at_call_of 34 (Value.agg #[.int .i64 bn, .int .i64 bd]); refine (toRat_any _ _ _).mono ?_; rintro e w2 ⟨rfl, hx2⟩; obtain ⟨hc2, hf2⟩ := bcell hx2; have y2 := hx2.size; (try simp at y2); have p20 : w.heap.size < w2.heap.size := (by omega); have p21 : w.heap.size + 1 < w2.heap.size := (by omega); have r20 : w.heap.size < w2.heap.size + 1 := (by omega); have r21 : w.heap.size + 1 < w2.heap.size + 1 := (by omega); (try have q20 : w.heap.size + 1 + 1 < w2.heap.size := (by omega)); (try have q21 : w1.heap.size < w2.heap.size := (by omega)))
        | (go_at_call 41; refine (SpecAdd_any _ _ _ _ _).mono ?_; rintro e w3 ⟨rfl, hx3⟩; obtain ⟨hc3, hf3⟩ := bcell hx3; have y3 := hx3.size; (try simp at y3); have p30 : w.heap.size < w3.heap.size := (by omega); have p31 : w.heap.size + 1 < w3.heap.size := (by omega); have r30 : w.heap.size < w3.heap.size + 1 := (by omega); have r31 : w.heap.size + 1 < w3.heap.size + 1 := (by omega); (try have q30 : w.heap.size + 1 + 1 < w3.heap.size := (by omega)); (try have q31 : w1.heap.size < w3.heap.size := (by omega)); (try have q32 : w2.heap.size < w3.heap.size := (by omega))))
    all_goals (go_wp2_with fail; go_meet)
    · exact ⟨w3.heap.size, rfl, rfl, by simp [go_sem], by simp [go_sem], by simp [*, go_sem], by simp [*, go_sem], by simp [*, go_sem], by simp [*, go_sem], by repeat' (first | exact nr _ | apply na | apply Below.drew | apply nd | refine nt ?_ (by assumption))⟩
    · refine ⟨w2.heap.size, rfl, rfl, pair_0 (u := .int .i64 0) _ _ (by simp [*, go_sem]), pair_1 (u := .int .i64 0) _ _ (by simp [*, go_sem]), pair_far _ _ (by omega) (by simp [*, go_sem]), pair_far _ _ (by omega) (by simp [*, go_sem]), pair_far _ _ (by omega) (by simp [*, go_sem]), pair_far _ _ (by omega) (by simp [*, go_sem]), pair_below _ _ (by omega) (by repeat' (first | exact nr _ | apply na | apply Below.drew | apply nd | refine nt ?_ (by assumption)))⟩
    · refine ⟨w1.heap.size, rfl, rfl, pair_0 (u := .int .i64 0) _ _ (by simp [*, go_sem]), pair_1 (u := .int .i64 0) _ _ (by simp [*, go_sem]), pair_far _ _ (by omega) (by simp [*, go_sem]), pair_far _ _ (by omega) (by simp [*, go_sem]), pair_far _ _ (by omega) (by simp [*, go_sem]), pair_far _ _ (by omega) (by simp [*, go_sem]), pair_below _ _ (by omega) (by repeat' (first | exact nr _ | apply na | apply Below.drew | apply nd | refine nt ?_ (by assumption)))⟩
    · refine ⟨w.heap.size + 1 + 1, rfl, rfl, pair_0 (u := .int .i64 0) _ _ (by simp [*, go_sem]), pair_1 (u := .int .i64 0) _ _ (by simp [*, go_sem]), pair_far _ _ (by omega) (by simp [*, go_sem]), pair_far _ _ (by omega) (by simp [*, go_sem]), pair_far _ _ (by omega) (by simp [*, go_sem]), pair_far _ _ (by omega) (by simp [*, go_sem]), pair_below _ _ (by omega) (by repeat' (first | exact nr _ | apply na | apply Below.drew | apply nd | refine nt ?_ (by assumption)))⟩
  case rest =>
    obtain ⟨g, rfl, rfl, k0, k1, k2, k3, k4, k5, hbx⟩ := hcut
    have z0 : w.heap.size < wc.heap.size := World.block_lt_of_cell? _ _ k2
    have z1 : w.heap.size + 1 < wc.heap.size := World.block_lt_of_cell? _ _ k4
    have z2 : g < wc.heap.size := World.block_lt_of_cell? _ _ k0
    have z3 : w.heap.size < wc.heap.size + 1 := by omega
    have z4 : w.heap.size + 1 < wc.heap.size + 1 := by omega
    have z5 : g < wc.heap.size + 1 := by omega
    have HB := Lib.hid hbx
    clear hbx
    go_wp2_with fail
    go_cut [7, 8] (fun s7 s8 wx => ∃ h : Nat, s7 = .pointer (some ⟨h, 0, none⟩) ∧ s8 = .bool (addB an ad bn bd) ∧ wx.cell? ⟨h, 0, none⟩ = some (.int .i64 (addN an ad bn bd)) ∧ wx.cell? ⟨h, 1, none⟩ = some (.int .i64 (addD an ad bn bd)) ∧ wx.cell? ⟨g, 0, none⟩ = some (.int .i64 (addN an ad bn bd)) ∧ wx.cell? ⟨g, 1, none⟩ = some (.int .i64 (addD an ad bn bd)) ∧ Below w.heap.size w wx)
    case first =>
      go_region_held3 (fun wx => wx.cell? ⟨w.heap.size, 0, none⟩ = some (.int .i64 an) ∧ wx.cell? ⟨w.heap.size, 1, none⟩ = some (.int .i64 ad) ∧ wx.cell? ⟨w.heap.size + 1, 0, none⟩ = some (.int .i64 bn) ∧ wx.cell? ⟨w.heap.size + 1, 1, none⟩ = some (.int .i64 bd) ∧ wx.cell? ⟨g, 0, none⟩ = some (.int .i64 (addN an ad bn bd)) ∧ wx.cell? ⟨g, 1, none⟩ = some (.int .i64 (addD an ad bn bd)))
        (first | (simp [*, go_sem]; done) | (go_split_ands; refine ⟨?_, ?_, ?_, ?_, ?_, ?_⟩ <;> ((repeat (with_reducible refine keepF (by assumption) ?_)); first | assumption | exact keep1 (by assumption) (by assumption) | exact keepA _ (by assumption) | exact keepS (by assumption) (by assumption))))
        (first
        | (go_at_call_of 34 (Value.agg #[.int .i64 an, .int .i64 ad]); refine (toRat_any _ _ _).mono ?_; rintro e w1 ⟨rfl, hx1⟩; obtain ⟨hc1, hf1⟩ := bcell hx1; have y1 := hx1.size; (try simp at y1); have p10 : w.heap.size < w1.heap.size := (by omega); have p11 : w.heap.size + 1 < w1.heap.size := (by omega); have p12 : g < w1.heap.size := (by omega); have r10 : w.heap.size < w1.heap.size + 1 := (by omega); have r11 : w.heap.size + 1 < w1.heap.size + 1 := (by omega); have r12 : g < w1.heap.size + 1 := (by omega); (try have q10 : wc.heap.size < w1.heap.size := (by omega)))
        | (go_at_call_of 34 (Value.agg #[.int .i64 bn, .int .i64 bd]); refine (toRat_any _ _ _).mono ?_; rintro e w2 ⟨rfl, hx2⟩; obtain ⟨hc2, hf2⟩ := bcell hx2; have y2 := hx2.size; (try simp at y2); have p20 : w.heap.size < w2.heap.size := (by omega); have p21 : w.heap.size + 1 < w2.heap.size := (by omega); have p22 : g < w2.heap.size := (by omega); have r20 : w.heap.size < w2.heap.size + 1 := (by omega); have r21 : w.heap.size + 1 < w2.heap.size + 1 := (by omega); have r22 : g < w2.heap.size + 1 := (by omega); (try have q20 : wc.heap.size < w2.heap.size := (by omega)); (try have q21 : w1.heap.size < w2.heap.size := (by omega)))
        | (go_at_call 42; refine (implAdd_any _ _ _ _ _).mono ?_; rintro e w3 ⟨rfl, hx3⟩; obtain ⟨hc3, hf3⟩ := bcell hx3; have y3 := hx3.size; (try simp at y3); have p30 : w.heap.size < w3.heap.size := (by omega); have p31 : w.heap.size + 1 < w3.heap.size := (by omega); have p32 : g < w3.heap.size := (by omega); have r30 : w.heap.size < w3.heap.size + 1 := (by omega); have r31 : w.heap.size + 1 < w3.heap.size + 1 := (by omega); have r32 : g < w3.heap.size + 1 := (by omega); (try have q30 : wc.heap.size < w3.heap.size := (by omega)); (try have q31 : w1.heap.size < w3.heap.size := (by omega)); (try have q32 : w2.heap.size < w3.heap.size := (by omega))))
      all_goals (go_wp2_with fail; go_meet)
      all_goals go_split_ands
      all_goals have hbx := HB.out
      · exact ⟨w3.heap.size, rfl, rfl, by simp [go_sem], by simp [go_sem], by assumption, by assumption, by repeat' (first | exact nr _ | apply na | apply Below.drew | apply nd | refine nt ?_ (by assumption))⟩
      · exact ⟨w2.heap.size, rfl, rfl, pair_0 (u := .int .i64 0) _ _ (by simp [*, go_sem]), pair_1 (u := .int .i64 0) _ _ (by simp [*, go_sem]), by assumption, by assumption, pair_below _ _ (by omega) (by repeat' (first | exact nr _ | apply na | apply Below.drew | apply nd | refine nt ?_ (by assumption)))⟩
      · exact ⟨w1.heap.size, rfl, rfl, pair_0 (u := .int .i64 0) _ _ (by simp [*, go_sem]), pair_1 (u := .int .i64 0) _ _ (by simp [*, go_sem]), by assumption, by assumption, pair_below _ _ (by omega) (by repeat' (first | exact nr _ | apply na | apply Below.drew | apply nd | refine nt ?_ (by assumption)))⟩
      · exact ⟨wc.heap.size, rfl, rfl, pair_0 (u := .int .i64 0) _ _ (by simp [*, go_sem]), pair_1 (u := .int .i64 0) _ _ (by simp [*, go_sem]), by assumption, by assumption, pair_below _ _ (by omega) (by repeat' (first | exact nr _ | apply na | apply Below.drew | apply nd | refine nt ?_ (by assumption)))⟩
    case rest =>
      clear k0 k1 k2 k3 k4 k5 z0 z1 z2 z3 z4 z5 HB
      obtain ⟨h, rfl, rfl, m0, m1, m2, m3, hbd⟩ := hcut
      have HD := Lib.hid hbd
      clear hbd
      go_wp2_with fail
      refine (eqRat_same _ _ _).mono ?_; rintro e w5 ⟨rfl, hx5⟩
      go_wp2_with fail
      go_ret
      exact ⟨rfl, nt HD.out hx5⟩
end Go.Proofs.Ytfechmgkifjieab
