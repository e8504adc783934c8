/-
  The law of SupportValue over drawn lists: values of the hull. Written by an AI agent.
-/
import Derived.Test.YtieibbdfdepmbaaHtm
import Derived.Test.YtieibbdfdepmbaaHul
import Derived.Test.YtieibbdfdepmbaaSup
import Derived.Test.YtieibbdfdepmbaaDrwA
namespace Go.Proofs.Ytieibbdfdepmbaa
set_option linter.all false
open Go.RowKit

theorem ag_mx {f : Pt → Int} {ps : List Pt} : ∀ (n i b : Nat), b < ps.length → i + n ≤ ps.length → ag f ps n i b < ps.length ∧ f (ps.getD b (0, 0)) ≤ f (ps.getD (ag f ps n i b) (0, 0)) ∧ ∀ j, i ≤ j → j < i + n → f (ps.getD j (0, 0)) ≤ f (ps.getD (ag f ps n i b) (0, 0))
  | 0, i, b, hb, _ => ⟨hb, Int.le_refl _, fun j h1 h2 => by omega⟩
  | n + 1, i, b, hb, hi => by
    have hb' : (if f (ps.getD b (0, 0)) < f (ps.getD i (0, 0)) then i else b) < ps.length := by split <;> omega
    obtain ⟨h1, h2, h3⟩ := ag_mx n (i + 1) (if f (ps.getD b (0, 0)) < f (ps.getD i (0, 0)) then i else b) hb' (by omega)
    show ag f ps n (i + 1) (if f (ps.getD b (0, 0)) < f (ps.getD i (0, 0)) then i else b) < ps.length ∧ f (ps.getD b (0, 0)) ≤ f (ps.getD (ag f ps n (i + 1) (if f (ps.getD b (0, 0)) < f (ps.getD i (0, 0)) then i else b)) (0, 0)) ∧ ∀ j, i ≤ j → j < i + (n + 1) → f (ps.getD j (0, 0)) ≤ f (ps.getD (ag f ps n (i + 1) (if f (ps.getD b (0, 0)) < f (ps.getD i (0, 0)) then i else b)) (0, 0))
    refine ⟨h1, ?_, fun j hj1 hj2 => ?_⟩
    · refine Int.le_trans ?_ h2
      split <;> omega
    · rcases Nat.lt_or_ge i j with h | h
      · exact h3 j (by omega) (by omega)
      · obtain rfl : j = i := by omega
        refine Int.le_trans ?_ h2
        split <;> omega
/-- The place that Extreme finds. -/
theorem ext_spec {ps : List Pt} {x y : Int} (h1 : okL ps = true) (h2 : ptB x y = true) (h0 : 0 < ps.length) : ∃ k : Nat, extV ps x y = k ∧ k < ps.length ∧ ∀ q ∈ ps, dirV x y q ≤ dirV x y (ps.getD k (0, 0)) := by
  unfold extV flV
  rw [h1, h2]
  simp only [Bool.and_self, cond_true]
  rw [fl_ag h0]
  obtain ⟨a, b, c⟩ := ag_mx (f := fE (x, y)) (ps := ps) ps.length 0 0 h0 (by omega)
  refine ⟨_, rfl, a, fun q hq => ?_⟩
  obtain ⟨j, hj, hjq⟩ := List.getElem_of_mem hq
  have e : ps.getD j (0, 0) = q := by simp [hj, hjq]
  have := c j (Nat.zero_le _) (by omega)
  rw [e] at this
  exact this
theorem sup_spec {ps : List Pt} {x y : Int} (h1 : okL ps = true) (h2 : ptB x y = true) (h0 : 0 < ps.length) : (∃ v ∈ ps, supV ps x y = dirV x y v) ∧ ∀ q ∈ ps, dirV x y q ≤ supV ps x y := by
  obtain ⟨k, k1, k2, k3⟩ := ext_spec h1 h2 h0
  have e : supV ps x y = dirV x y (ps.getD k (0, 0)) := by
    unfold supV
    rw [k1, if_neg (by omega), Int.toNat_natCast]
    rfl
  rw [e]
  exact ⟨⟨_, getD_mem' k2, rfl⟩, k3⟩
theorem okL_hul {ps : List Pt} (h : okL ps = true) : okL (hulV ps) = true := by
  obtain ⟨h1, h2⟩ := okL_20 h
  rw [hulV_yes h]
  have l := hul_le (srtL_asc ps)
  have l2 := srtL_le ps
  unfold okL
  rw [allV_hul (allV_srt h1), decide_eq_true (by omega)]
  rfl
theorem srtL_ne {ps : List Pt} (h : 0 < ps.length) : 0 < (srtL ps).length := List.length_pos_of_mem ((srtL_mem _ _).2 (getD_mem' (k := 0) h))
theorem hul_ne {s : List Pt} (hs : Asc s) (h : 0 < s.length) : 0 < (hulL s).length := by
  by_cases h2 : 2 ≤ s.length
  · obtain ⟨x, _, hx, _, _⟩ := hul_two_mem hs h2
    exact List.length_pos_of_mem hx
  · unfold hulL
    rw [if_pos (by omega)]
    exact h
theorem hulV_ne {ps : List Pt} (h1 : okL ps = true) (h : 0 < ps.length) : 0 < (hulV ps).length := by
  rw [hulV_yes h1]
  exact hul_ne (srtL_asc _) (srtL_ne h)
theorem hulV_sub {ps : List Pt} (h1 : okL ps = true) {v : Pt} (hv : v ∈ hulV ps) : v ∈ ps := by
  rw [hulV_yes h1] at hv
  exact (srtL_mem _ _).1 (hul_in (srtL_asc _) hv)
theorem hulV_max {ps : List Pt} (h1 : okL ps = true) {dx dy M : Int} (hM : ∀ v ∈ hulV ps, dirV dx dy v ≤ M) {q : Pt} (hq : q ∈ ps) : dirV dx dy q ≤ M := by
  rw [hulV_yes h1] at hM
  exact hul_max (srtL_asc _) hM q ((srtL_mem _ _).2 hq)
theorem sup_hul {ps : List Pt} {x y : Int} (h1 : okL ps = true) (h2 : ptB x y = true) (h0 : 0 < ps.length) : supV (hulV ps) x y = supV ps x y := by
  obtain ⟨⟨v, v1, v2⟩, v3⟩ := sup_spec h1 h2 h0
  obtain ⟨⟨u, u1, u2⟩, u3⟩ := sup_spec (okL_hul h1) h2 (hulV_ne h1 h0)
  have a := v3 u (hulV_sub h1 u1)
  have b := hulV_max h1 u3 v1
  omega
theorem pt_neg {x y : Int} (h : ptB x y = true) : ptB (-x) (-y) = true := by
  have := ptB_true h
  exact decide_eq_true (by omega)
theorem sup_opp {ps : List Pt} {x y : Int} (h1 : okL ps = true) (h2 : ptB x y = true) (h0 : 0 < ps.length) : 0 ≤ supV ps x y + supV ps (-x) (-y) := by
  obtain ⟨⟨v, v1, v2⟩, _⟩ := sup_spec h1 h2 h0
  obtain ⟨_, u3⟩ := sup_spec h1 (pt_neg h2) h0
  have := u3 v v1
  have e : dirV (-x) (-y) v = -dirV x y v := by unfold dirV; grind
  omega
def RLa : TabR := fun f ds => match f, ds with
  | 39, [.row n (.bytes bs)] => some (dExL bs (rdL n), dRow bs (rdL n) 8, [Bytes bs, n ≤ bs.length])
  | f, ds => RHw f ds
theorem RLa_ok : TabROk Try.prog RLa := by
  intro f ds v b C h hC
  unfold RLa at h
  split at h
  · obtain ⟨rfl, rfl, rfl⟩ : _ ∧ _ ∧ _ := by simpa using h
    exact resR_dExt _ _ hC.1 hC.2.1
  · exact RHw_ok _ _ _ _ _ h hC
def ELa : Env := mkE TSu RLa (fun _ => noL)
theorem ELa_ok : EnvOk Try.prog ELa := mkEOk TSu_ok RLa_ok (fun _ _ _ => noL_good)
set_option maxRecDepth 100000 in
theorem tr_dSup (bs : List Int) (n : Nat) : bodyX Try.prog ELa 30 12 42 [.row n (.bytes bs)] = .need (Bytes (List.drop (0 : Nat) bs)) (.need (n ≤ (List.drop (0 : Nat) bs).length) (.fin (.tuple #[.slice (some ⟨2, 0, none⟩) ((apsL (List.drop 0 bs) (rdL n) 0 8).length) ((apsL (List.drop 0 bs) (rdL n) 0 8).length), .agg #[.int .i64 (apX (List.drop 0 bs) (rdL n) (apsP (List.drop 0 bs) (rdL n) 0 8)), .int .i64 (apY (List.drop 0 bs) (rdL n) (apsP (List.drop 0 bs) (rdL n) 0 8))]]) [some ⟨.view, .bytes (bs)⟩, some ⟨.box, .vals [.int .i64 (apX (List.drop 0 bs) (rdL n) (apsP (List.drop 0 bs) (rdL n) 0 8)), .int .i64 (apY (List.drop 0 bs) (rdL n) (apsP (List.drop 0 bs) (rdL n) 0 8))]⟩, some ⟨.row 32 2, .ints (flat (apsL (List.drop 0 bs) (rdL n) 0 8))⟩])) := by kernel_rfl
theorem resR_dSup (bs : List Int) (n : Nat) (hb : Bytes bs) (hn : n ≤ bs.length) : ResR Try.prog 42 [.row n (.bytes bs)] (dExL bs (rdL n)) (dRow bs (rdL n) 8) := by
  refine bodyX_resR mixed ELa_ok (m := 30) (n := 12) rfl ?_
  rw [tr_dSup]
  simp only [List.drop_zero]
  exact ⟨hb, hn, some 2, ⟨⟨rfl, rfl, rfl⟩, ⟨rfl, rfl⟩, trivial⟩, rfl, rfl, rfl⟩
def RLb : TabR := fun f ds => match f, ds with
  | 42, [.row n (.bytes bs)] => some (dExL bs (rdL n), dRow bs (rdL n) 8, [Bytes bs, n ≤ bs.length])
  | f, ds => RLa f ds
theorem RLb_ok : TabROk Try.prog RLb := by
  intro f ds v b C h hC
  unfold RLb at h
  split at h
  · obtain ⟨rfl, rfl, rfl⟩ : _ ∧ _ ∧ _ := by simpa using h
    exact resR_dSup _ _ hC.1 hC.2.1
  · exact RLa_ok _ _ _ _ _ h hC
def ELb : Env := mkE TSu RLb (fun _ => noL)
theorem ELb_ok : EnvOk Try.prog ELb := mkEOk TSu_ok RLb_ok (fun _ _ _ => noL_good)
set_option maxRecDepth 100000 in
theorem tr_lSup (bs : List Int) : bodyV Try.prog ELb 30 12 11 [.row bs.length (.bytes bs)] = brT (decide (1048576 < (↑bs.length : Int))) (.fin (.bool (true)) []) (.need (Bytes (List.drop (0 : Nat) bs)) (.need (bs.length ≤ (List.drop (0 : Nat) bs).length) (.need ((apsL (List.drop (0 : Nat) bs) (rdL bs.length) (0 : Int) (8 : Int)).length * (2 : Nat) ≤ (List.drop (0 : Nat) (flat (apsL (List.drop (0 : Nat) bs) (rdL bs.length) (0 : Int) (8 : Int)))).length) (.need ((apsL (List.drop (0 : Nat) bs) (rdL bs.length) (0 : Int) (8 : Int)).length ≤ (1000000000 : Nat)) (.need ((apsL (List.drop (0 : Nat) bs) (rdL bs.length) (0 : Int) (8 : Int)).length * (2 : Nat) ≤ (List.drop (0 : Nat) (flat (apsL (List.drop (0 : Nat) bs) (rdL bs.length) (0 : Int) (8 : Int)))).length) (.need ((apsL (List.drop (0 : Nat) bs) (rdL bs.length) (0 : Int) (8 : Int)).length ≤ (1000000000 : Nat)) (brT (!supV (ptsA (apsL (List.drop 0 bs) (rdL bs.length) 0 8).length (List.drop 0 (flat (apsL (List.drop 0 bs) (rdL bs.length) 0 8)))) (apX (List.drop 0 bs) (rdL bs.length) (apsP (List.drop 0 bs) (rdL bs.length) 0 8)) (apY (List.drop 0 bs) (rdL bs.length) (apsP (List.drop 0 bs) (rdL bs.length) 0 8)) == supV (ptsA (apsL (List.drop 0 bs) (rdL bs.length) 0 8).length (List.drop 0 (flat (apsL (List.drop 0 bs) (rdL bs.length) 0 8)))) (apX (List.drop 0 bs) (rdL bs.length) (apsP (List.drop 0 bs) (rdL bs.length) 0 8)) (apY (List.drop 0 bs) (rdL bs.length) (apsP (List.drop 0 bs) (rdL bs.length) 0 8))) (.need ((apsL (List.drop (0 : Nat) bs) (rdL bs.length) (0 : Int) (8 : Int)).length * (2 : Nat) ≤ (List.drop (0 : Nat) (flat (apsL (List.drop (0 : Nat) bs) (rdL bs.length) (0 : Int) (8 : Int)))).length) (.need ((apsL (List.drop (0 : Nat) bs) (rdL bs.length) (0 : Int) (8 : Int)).length ≤ (1000000000 : Nat)) (.fin (.bool (supV (ptsA (apsL (List.drop 0 bs) (rdL bs.length) 0 8).length (List.drop 0 (flat (apsL (List.drop 0 bs) (rdL bs.length) 0 8)))) (apX (List.drop 0 bs) (rdL bs.length) (apsP (List.drop 0 bs) (rdL bs.length) 0 8)) (apY (List.drop 0 bs) (rdL bs.length) (apsP (List.drop 0 bs) (rdL bs.length) 0 8)) == supV (ptsA (apsL (List.drop 0 bs) (rdL bs.length) 0 8).length (List.drop 0 (flat (apsL (List.drop 0 bs) (rdL bs.length) 0 8)))) (apX (List.drop 0 bs) (rdL bs.length) (apsP (List.drop 0 bs) (rdL bs.length) 0 8)) (apY (List.drop 0 bs) (rdL bs.length) (apsP (List.drop 0 bs) (rdL bs.length) 0 8)))) []))) (.need ((apsL (List.drop (0 : Nat) bs) (rdL bs.length) (0 : Int) (8 : Int)).length * (2 : Nat) ≤ (List.drop (0 : Nat) (flat (apsL (List.drop (0 : Nat) bs) (rdL bs.length) (0 : Int) (8 : Int)))).length) (.need ((apsL (List.drop (0 : Nat) bs) (rdL bs.length) (0 : Int) (8 : Int)).length ≤ (1000000000 : Nat)) (brT (decide (extV (ptsA (apsL (List.drop 0 bs) (rdL bs.length) 0 8).length (List.drop 0 (flat (apsL (List.drop 0 bs) (rdL bs.length) 0 8)))) (apX (List.drop 0 bs) (rdL bs.length) (apsP (List.drop 0 bs) (rdL bs.length) 0 8)) (apY (List.drop 0 bs) (rdL bs.length) (apsP (List.drop 0 bs) (rdL bs.length) 0 8)) < 0)) (.need ((apsL (List.drop (0 : Nat) bs) (rdL bs.length) (0 : Int) (8 : Int)).length * (2 : Nat) ≤ (List.drop (0 : Nat) (flat (apsL (List.drop (0 : Nat) bs) (rdL bs.length) (0 : Int) (8 : Int)))).length) (.need ((apsL (List.drop (0 : Nat) bs) (rdL bs.length) (0 : Int) (8 : Int)).length ≤ (1000000000 : Nat)) (.fin (.bool (supV (ptsA (apsL (List.drop 0 bs) (rdL bs.length) 0 8).length (List.drop 0 (flat (apsL (List.drop 0 bs) (rdL bs.length) 0 8)))) (apX (List.drop 0 bs) (rdL bs.length) (apsP (List.drop 0 bs) (rdL bs.length) 0 8)) (apY (List.drop 0 bs) (rdL bs.length) (apsP (List.drop 0 bs) (rdL bs.length) 0 8)) == supV (ptsA (apsL (List.drop 0 bs) (rdL bs.length) 0 8).length (List.drop 0 (flat (apsL (List.drop 0 bs) (rdL bs.length) 0 8)))) (apX (List.drop 0 bs) (rdL bs.length) (apsP (List.drop 0 bs) (rdL bs.length) 0 8)) (apY (List.drop 0 bs) (rdL bs.length) (apsP (List.drop 0 bs) (rdL bs.length) 0 8)))) []))) (.need ((apsL (List.drop (0 : Nat) bs) (rdL bs.length) (0 : Int) (8 : Int)).length * (2 : Nat) ≤ (List.drop (0 : Nat) (flat (apsL (List.drop (0 : Nat) bs) (rdL bs.length) (0 : Int) (8 : Int)))).length) (.need ((apsL (List.drop (0 : Nat) bs) (rdL bs.length) (0 : Int) (8 : Int)).length ≤ (1000000000 : Nat)) (.need ((hulV (ptsA (apsL (List.drop (0 : Nat) bs) (rdL bs.length) (0 : Int) (8 : Int)).length (List.drop (0 : Nat) (flat (apsL (List.drop (0 : Nat) bs) (rdL bs.length) (0 : Int) (8 : Int)))))).length * (2 : Nat) ≤ (List.drop (0 : Nat) (flat (hulV (ptsA (apsL (List.drop (0 : Nat) bs) (rdL bs.length) (0 : Int) (8 : Int)).length (List.drop (0 : Nat) (flat (apsL (List.drop (0 : Nat) bs) (rdL bs.length) (0 : Int) (8 : Int)))))))).length) (.need ((hulV (ptsA (apsL (List.drop (0 : Nat) bs) (rdL bs.length) (0 : Int) (8 : Int)).length (List.drop (0 : Nat) (flat (apsL (List.drop (0 : Nat) bs) (rdL bs.length) (0 : Int) (8 : Int)))))).length ≤ (1000000000 : Nat)) (brT (supV (ptsA (hulV (ptsA (apsL (List.drop 0 bs) (rdL bs.length) 0 8).length (List.drop 0 (flat (apsL (List.drop 0 bs) (rdL bs.length) 0 8))))).length (List.drop 0 (flat (hulV (ptsA (apsL (List.drop 0 bs) (rdL bs.length) 0 8).length (List.drop 0 (flat (apsL (List.drop 0 bs) (rdL bs.length) 0 8)))))))) (apX (List.drop 0 bs) (rdL bs.length) (apsP (List.drop 0 bs) (rdL bs.length) 0 8)) (apY (List.drop 0 bs) (rdL bs.length) (apsP (List.drop 0 bs) (rdL bs.length) 0 8)) == supV (ptsA (apsL (List.drop 0 bs) (rdL bs.length) 0 8).length (List.drop 0 (flat (apsL (List.drop 0 bs) (rdL bs.length) 0 8)))) (apX (List.drop 0 bs) (rdL bs.length) (apsP (List.drop 0 bs) (rdL bs.length) 0 8)) (apY (List.drop 0 bs) (rdL bs.length) (apsP (List.drop 0 bs) (rdL bs.length) 0 8))) (.need ((apsL (List.drop (0 : Nat) bs) (rdL bs.length) (0 : Int) (8 : Int)).length * (2 : Nat) ≤ (List.drop (0 : Nat) (flat (apsL (List.drop (0 : Nat) bs) (rdL bs.length) (0 : Int) (8 : Int)))).length) (.need ((apsL (List.drop (0 : Nat) bs) (rdL bs.length) (0 : Int) (8 : Int)).length ≤ (1000000000 : Nat)) (.fin (.bool (decide (0 ≤ IntKind.i64.wrap (supV (ptsA (apsL (List.drop 0 bs) (rdL bs.length) 0 8).length (List.drop 0 (flat (apsL (List.drop 0 bs) (rdL bs.length) 0 8)))) (apX (List.drop 0 bs) (rdL bs.length) (apsP (List.drop 0 bs) (rdL bs.length) 0 8)) (apY (List.drop 0 bs) (rdL bs.length) (apsP (List.drop 0 bs) (rdL bs.length) 0 8)) + supV (ptsA (apsL (List.drop 0 bs) (rdL bs.length) 0 8).length (List.drop 0 (flat (apsL (List.drop 0 bs) (rdL bs.length) 0 8)))) (IntKind.i64.wrap (0 - apX (List.drop 0 bs) (rdL bs.length) (apsP (List.drop 0 bs) (rdL bs.length) 0 8))) (IntKind.i64.wrap (0 - apY (List.drop 0 bs) (rdL bs.length) (apsP (List.drop 0 bs) (rdL bs.length) 0 8))))))) []))) (.fin (.bool (false)) [])))))))))))))))) := by kernel_rfl
theorem ext_ok {ps : List Pt} {x y : Int} (k : ¬ extV ps x y < 0) : okL ps = true ∧ ptB x y = true ∧ 0 < ps.length := by
  rcases ext_part ps x y with e | ⟨h1, h2, j, hj, _⟩
  · omega
  · exact ⟨h1, h2, by omega⟩
theorem sup_sm {ps : List Pt} {x y : Int} (h1 : okL ps = true) (h2 : ptB x y = true) (h0 : 0 < ps.length) : -2000000 ≤ supV ps x y ∧ supV ps x y ≤ 2000000 := by
  obtain ⟨⟨v, v1, v2⟩, _⟩ := sup_spec h1 h2 h0
  rw [v2]
  have a := ptB_true (List.all_eq_true.1 (okL_20 h1).1 v v1 : ptB v.1 v.2 = true)
  have b := ptB_true h2
  have m1 := mul_bd (x := v.1) (y := x) 1000 1000 (by omega) (by omega)
  have m2 := mul_bd (x := v.2) (y := y) 1000 1000 (by omega) (by omega)
  unfold dirV
  omega
theorem law_sup (bs : List Int) (hb : Bytes bs) (_ : bs.length ≤ maxLen) : Res Try.prog 11 [.row bs.length (.bytes bs)] (.bool true) := by
  refine bodyV_res mixed ELb_ok (m := 30) (n := 12) rfl ?_
  rw [tr_lSup]
  simp only [List.drop_zero, ptsA_flat, flat_length]
  obtain ⟨_, _, _, hL⟩ := drKey hb (Nat.le_refl _) (l := rdL bs.length) (by unfold rdL; omega) (by unfold rdL; omega) (m := 8) (by omega)
  generalize apsL bs (rdL bs.length) 0 8 = ps at *
  generalize apX bs (rdL bs.length) (apsP bs (rdL bs.length) 0 8) = x
  generalize apY bs (rdL bs.length) (apsP bs (rdL bs.length) 0 8) = y
  have hl : ps.length ≤ 1000000000 := by omega
  have hh : (hulV ps).length ≤ 1000000000 := Nat.le_trans (hulV_len ps) (by decide)
  by_cases k : extV ps x y < 0
  · simp [brT_ok, Tree.ok, hb, hl, k]
  · obtain ⟨h1, h2, h0⟩ := ext_ok k
    have e1 := sup_hul h1 h2 h0
    have e2 := sup_opp h1 h2 h0
    have b1 := sup_sm h1 h2 h0
    have b2 := sup_sm h1 (pt_neg h2) h0
    have p := ptB_true h2
    have w1 : IntKind.i64.wrap (0 - x) = -x := by rw [wr (by omega)]; omega
    have w2 : IntKind.i64.wrap (0 - y) = -y := by rw [wr (by omega)]; omega
    rw [w1, w2, e1, wr (x := supV ps x y + supV ps (-x) (-y)) (by omega)]
    simp [brT_ok, Tree.ok, hb, hl, hh, k, e2]
end Go.Proofs.Ytieibbdfdepmbaa
