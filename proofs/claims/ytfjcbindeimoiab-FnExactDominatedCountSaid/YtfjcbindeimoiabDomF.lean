/-
  DominatedCount, both ways; the exact law. Written by an AI agent.
-/
import Derived.Test.YtfjcbindeimoiabDom
import Derived.Test.YtfjcbindeimoiabPirF
namespace Go.Proofs.Ytfjcbindeimoiab
open Go.RowKit

theorem cE_far {i : Nat} {p : Pt} : ∀ (l : List Pt) (k : Nat), i < k → cE i p l k = ((idxF (domB p) l k).length : Int)
  | [], _, _ => rfl
  | q :: r, k, h => by
    have ih := cE_far (i := i) (p := p) r (k + 1) (by omega)
    have hk : decide (k = i) = false := decide_eq_false (by omega)
    simp only [cE, idxF, hk, Bool.not_false, Bool.true_and, ih]
    cases domB p q
    · simp
    · simp; omega
theorem cE_at {i : Nat} {p : Pt} (hp : domB p p = true) : ∀ (l : List Pt) (k : Nat), k ≤ i → i - k < l.length → l.getD (i - k) (0, 0) = p → cE i p l k = ((idxF (domB p) l k).length : Int) - 1
  | [], _, _, h, _ => by simp at h
  | q :: r, k, h1, h2, h3 => by
    rcases Nat.lt_or_ge k i with h | h
    · have e : i - k = (i - (k + 1)) + 1 := by omega
      rw [e] at h2 h3
      have ih := cE_at (i := i) (p := p) hp r (k + 1) (by omega) (by simpa using h2) (by simpa using h3)
      have hk : decide (k = i) = false := decide_eq_false (by omega)
      simp only [cE, idxF, hk, Bool.not_false, Bool.true_and, ih]
      cases domB p q
      · simp
      · simp; omega
    · obtain rfl : k = i := by omega
      have hq : q = p := by simpa using h3
      subst hq
      have hf := cE_far (i := k) (p := q) r (k + 1) (by omega)
      simp only [cE, idxF, hp, decide_true, Bool.not_true, Bool.false_and, cond_false, cond_true, hf]
      simp
theorem dc_same (ps : List Pt) : ∀ (m i : Nat), i + m ≤ ps.length → dcS ps m i = dcI ps m i
  | 0, _, _ => rfl
  | m + 1, i, h => by
    have e := cE_at (i := i) (p := ps.getD i (0, 0)) (by unfold domB; simp) ps 0 (Nat.zero_le _) (by omega) rfl
    simp only [dcS, dcI, e, dc_same ps m (i + 1) (by omega)]
theorem Lr_iDo {fn : Func} (hf : Try.prog.funcs[26]? = some fn) : LoopsGood Try.prog (lt1 e_iDo) 0 (codeOf fn) := by
  obtain rfl := fn_is Try.func26 hf
  exact lt1_good lg_iDo
theorem Lr_sDo' {fn : Func} (hf : Try.prog.funcs[25]? = some fn) : LoopsGood Try.prog (lt1 e_sDo) 0 (codeOf fn) := by
  obtain rfl := fn_is Try.func25 hf
  exact lt1_good lg_sDo
def LDc : FuncId → LT := fun f => match f with
  | 25 => lt1 e_sDo
  | 26 => lt1 e_iDo
  | _ => noL
def EDc : Env := mkE T2 (fun _ _ => none) LDc
theorem EDc_ok : EnvOk Try.prog EDc := mkEOk T2_ok (fun _ _ _ _ _ h => (by cases h)) (by
  intro f fn hf
  unfold LDc
  split
  all_goals first | with_reducible exact Lr_sDo' hf | with_reducible exact Lr_iDo hf | exact noL_good)
set_option maxRecDepth 100000 in
theorem tr_sDc (ps : List Pt) : bodyX Try.prog EDc 30 12 25 [.row ps.length (.ints (flat ps))] = .need (ps.length * (2 : Nat) ≤ (List.drop (0 : Nat) (flat ps)).length) (.need (ps.length ≤ (1000000000 : Nat)) (brT (!okL (ptsA ps.length (List.drop 0 (flat ps)))) (.fin (.slice none (0) (0)) [some ⟨.view, .ints (flat ps)⟩, some ⟨.row 3 1, .vals []⟩]) (.need ((0 : Int) = (0 : Int)) (.need ((0 : Nat) = (0 : Nat)) (.need ((flat ps).length = ps.length * (2 : Nat)) (.need (ps.length ≤ (20 : Nat)) (.fin (.slice (some ⟨2, 0, none⟩) ((dcS (ptsA ps.length (flat ps)) ps.length 0).length) ((dcS (ptsA ps.length (flat ps)) ps.length 0).length)) [some ⟨.view, .ints (flat ps)⟩, some deadB, some ⟨.row 3 1, .ints (dcS (ptsA ps.length (flat ps)) ps.length 0)⟩]))))))) := by kernel_rfl
set_option maxRecDepth 100000 in
theorem tr_iDc (ps : List Pt) : bodyX Try.prog EDc 30 12 26 [.row ps.length (.ints (flat ps))] = brT (decide ((↑ps.length : Int) ≤ 20)) (.need (ps.length * (2 : Nat) ≤ (List.drop (0 : Nat) (flat ps)).length) (.need (ps.length ≤ (1000000000 : Nat)) (brT (!allV (ptsA ps.length (List.drop 0 (flat ps)))) (.fin (.slice none (0) (0)) [some ⟨.view, .ints (flat ps)⟩]) (.need ((0 : Int) = (0 : Int)) (.need (ps.length = ps.length) (.need ((↑ps.length : Int) = (↑ps.length : Int)) (.need ((flat ps).length = ps.length * (2 : Nat)) (.need (ps.length ≤ (20 : Nat)) (.fin (.slice (some ⟨1, 0, none⟩) ((dcI (ptsA ps.length (flat ps)) ps.length 0).length) ((dcI (ptsA ps.length (flat ps)) ps.length 0).length)) [some ⟨.view, .ints (flat ps)⟩, some ⟨.row 3 1, .ints (dcI (ptsA ps.length (flat ps)) ps.length 0)⟩]))))))))) (.fin (.slice none (0) (0)) [some ⟨.view, .ints (flat ps)⟩]) := by kernel_rfl
/-- What DominatedCount answers. -/
def dcV (ps : List Pt) : List Int := bif okL ps then dcI ps ps.length 0 else []
theorem resR_sDc (ps : List Pt) (h : Big ps) : ResR Try.prog 25 [.row ps.length (.ints (flat ps))] (rowI (dcV ps)) ⟨.row 3 1, .ints (dcV ps)⟩ := by
  refine bodyX_resR mixed EDc_ok (m := 30) (n := 12) rfl ?_
  rw [tr_sDc]
  unfold Big at h
  simp only [List.drop_zero, ptsA_flat, flat_length]
  unfold dcV
  rcases hk : okL ps with _ | _
  · exact ⟨Nat.le_refl _, h, none, ⟨rfl, rfl⟩, trivial⟩
  have hl : ps.length ≤ 20 := by simp only [okL, Bool.and_eq_true, decide_eq_true_eq] at hk; exact hk.2
  rw [dc_same ps ps.length 0 (by omega)]
  exact ⟨Nat.le_refl _, h, trivial, trivial, trivial, hl, some 2, ⟨rfl, rfl, rfl⟩, rfl, rfl, rfl⟩
theorem resR_iDc (ps : List Pt) (h : Big ps) : ResR Try.prog 26 [.row ps.length (.ints (flat ps))] (rowI (dcV ps)) ⟨.row 3 1, .ints (dcV ps)⟩ := by
  refine bodyX_resR mixed EDc_ok (m := 30) (n := 12) rfl ?_
  rw [tr_iDc]
  unfold Big at h
  simp only [List.drop_zero, ptsA_flat, flat_length]
  unfold dcV okL
  by_cases hl : ps.length ≤ 20
  · have hl2 : (ps.length : Int) ≤ 20 := by omega
    rw [decide_eq_true hl2, decide_eq_true hl]
    rcases hk : allV ps with _ | _
    · exact ⟨Nat.le_refl _, h, none, ⟨rfl, rfl⟩, trivial⟩
    exact ⟨Nat.le_refl _, h, trivial, trivial, trivial, trivial, hl, some 1, ⟨rfl, rfl, rfl⟩, rfl, rfl, rfl⟩
  · have hl2 : ¬ (ps.length : Int) ≤ 20 := by omega
    rw [decide_eq_false hl2, decide_eq_false hl]
    simp only [Bool.and_false, cond_false]
    exact ⟨none, ⟨rfl, rfl⟩, trivial⟩
def RDc : TabR := fun f ds => match f, ds with
  | 25, [.row m (.ints xs)] => some (rowI (dcV (ptsA m xs)), ⟨.row 3 1, .ints (dcV (ptsA m xs))⟩, [m * 2 ≤ xs.length, m ≤ 1000000000])
  | 26, [.row m (.ints xs)] => some (rowI (dcV (ptsA m xs)), ⟨.row 3 1, .ints (dcV (ptsA m xs))⟩, [m * 2 ≤ xs.length, m ≤ 1000000000])
  | f, ds => R4 f ds
theorem RDc_ok : TabROk Try.prog RDc := by
  intro f ds v b C h hC
  unfold RDc at h
  split at h
  · obtain ⟨rfl, rfl, rfl⟩ : _ ∧ _ ∧ _ := by simpa using h
    obtain ⟨_, h2⟩ := ptsA_spec hC.1
    exact resR_pts1 (pre := []) (post := []) hC.1 (resR_sDc _ (by unfold Big; rw [h2]; exact hC.2.1))
  · obtain ⟨rfl, rfl, rfl⟩ : _ ∧ _ ∧ _ := by simpa using h
    obtain ⟨_, h2⟩ := ptsA_spec hC.1
    exact resR_pts1 (pre := []) (post := []) hC.1 (resR_iDc _ (by unfold Big; rw [h2]; exact hC.2.1))
  · exact R4_ok _ _ _ _ _ h hC
def EDl : Env := withT (mkE TPl RDc (fun _ => noL)) Jmk
theorem EDl_ok : EnvOk Try.prog EDl := withT_ok (mkEOk TPl_ok RDc_ok (fun _ _ _ => noL_good)) Jmk_ok
set_option maxRecDepth 100000 in
theorem tr_exDc (ps : List Pt) : bodyV Try.prog EDl 30 12 4 [.row ps.length (.ints (flat ps))] = brT (decide (IntKind.i64.wrap (1048576 - (↑ps.length : Int)) < 0)) (.fin (.bool (true)) []) (brT (decide (IntKind.i64.wrap (1048576 - (↑ps.length : Int)) < 0)) (.fin (.bool (true)) []) (.need (ps.length * (2 : Nat) ≤ (List.drop (0 : Nat) (flat ps)).length) (.need (ps.length ≤ (1000000000 : Nat)) (.need (ps.length * (2 : Nat) ≤ (List.drop (0 : Nat) (List.take (ps.length * (2 : Nat)) (List.drop (0 : Nat) (flat ps)))).length) (.need (ps.length ≤ (1000000000 : Nat)) (.need (ps.length * (2 : Nat) ≤ (List.drop (0 : Nat) (flat ps)).length) (.need (ps.length ≤ (1000000000 : Nat)) (.need (ps.length * (2 : Nat) ≤ (List.drop (0 : Nat) (List.take (ps.length * (2 : Nat)) (List.drop (0 : Nat) (flat ps)))).length) (.need (ps.length ≤ (1000000000 : Nat)) (.need ((dcV (ptsA ps.length (List.drop (0 : Nat) (List.take (ps.length * (2 : Nat)) (List.drop (0 : Nat) (flat ps)))))).length = (dcV (ptsA ps.length (List.drop (0 : Nat) (List.take (ps.length * (2 : Nat)) (List.drop (0 : Nat) (flat ps)))))).length) (.need (List.drop (0 : Nat) (dcV (ptsA ps.length (List.drop (0 : Nat) (List.take (ps.length * (2 : Nat)) (List.drop (0 : Nat) (flat ps)))))) = List.drop (0 : Nat) (dcV (ptsA ps.length (List.drop (0 : Nat) (List.take (ps.length * (2 : Nat)) (List.drop (0 : Nat) (flat ps))))))) (.need ((dcV (ptsA ps.length (List.drop (0 : Nat) (List.take (ps.length * (2 : Nat)) (List.drop (0 : Nat) (flat ps)))))).length ≤ (List.drop (0 : Nat) (dcV (ptsA ps.length (List.drop (0 : Nat) (List.take (ps.length * (2 : Nat)) (List.drop (0 : Nat) (flat ps))))))).length) (.need (Lim (dcV (ptsA ps.length (List.drop (0 : Nat) (List.take (ps.length * (2 : Nat)) (List.drop (0 : Nat) (flat ps)))))).length) (.need (ps.length * (2 : Nat) ≤ (List.drop (0 : Nat) (flat ps)).length) (.need (ps.length ≤ (1000000000 : Nat)) (.need (ps.length * (2 : Nat) ≤ (List.drop (0 : Nat) (List.take (ps.length * (2 : Nat)) (List.drop (0 : Nat) (flat ps)))).length) (.need (ps.length * (2 : Nat) ≤ (List.drop (0 : Nat) (List.take (ps.length * (2 : Nat)) (List.drop (0 : Nat) (flat ps)))).length) (.need (ps.length ≤ (1000000000 : Nat)) (brT (!eqL (ptsA ps.length (List.drop 0 (List.take (ps.length * 2) (List.drop 0 (flat ps))))) (ptsA ps.length (List.drop 0 (List.take (ps.length * 2) (List.drop 0 (flat ps)))))) (.fin (.bool (false)) []) (.need ((List.take (ps.length * (2 : Nat)) (List.drop (0 : Nat) (flat ps))).length = ps.length * (2 : Nat)) (.need (Lim ps.length) (.need ((0 : Int) ≤ (1 : Int) ∧ (1 : Int) ≤ (1000000000 : Int)) (.need ((dcV (ptsA ps.length (List.drop (0 : Nat) (List.take (ps.length * (2 : Nat)) (List.drop (0 : Nat) (flat ps)))))).length = (dcV (ptsA ps.length (List.drop (0 : Nat) (List.take (ps.length * (2 : Nat)) (List.drop (0 : Nat) (flat ps)))))).length) (.need (List.drop (0 : Nat) (dcV (ptsA ps.length (List.drop (0 : Nat) (List.take (ps.length * (2 : Nat)) (List.drop (0 : Nat) (flat ps)))))) = List.drop (0 : Nat) (dcV (ptsA ps.length (List.drop (0 : Nat) (List.take (ps.length * (2 : Nat)) (List.drop (0 : Nat) (flat ps))))))) (.need ((dcV (ptsA ps.length (List.drop (0 : Nat) (List.take (ps.length * (2 : Nat)) (List.drop (0 : Nat) (flat ps)))))).length ≤ (List.drop (0 : Nat) (dcV (ptsA ps.length (List.drop (0 : Nat) (List.take (ps.length * (2 : Nat)) (List.drop (0 : Nat) (flat ps))))))).length) (.need (Lim (dcV (ptsA ps.length (List.drop (0 : Nat) (List.take (ps.length * (2 : Nat)) (List.drop (0 : Nat) (flat ps)))))).length) (.need ((dcV (ptsA ps.length (List.drop (0 : Nat) (List.take (ps.length * (2 : Nat)) (List.drop (0 : Nat) (flat ps)))))).length = (dcV (ptsA ps.length (List.drop (0 : Nat) (List.take (ps.length * (2 : Nat)) (List.drop (0 : Nat) (flat ps)))))).length) (.need (Lim (dcV (ptsA ps.length (List.drop (0 : Nat) (List.take (ps.length * (2 : Nat)) (List.drop (0 : Nat) (flat ps)))))).length) (.need ((0 : Int) ≤ (1 : Int) ∧ (1 : Int) ≤ (1000000000 : Int)) (.need (Lim (dcV (ptsA ps.length (List.drop (0 : Nat) (List.take (ps.length * (2 : Nat)) (List.drop (0 : Nat) (flat ps)))))).length) (.need ((0 : Int) ≤ (1 : Int) ∧ (1 : Int) ≤ (1000000000 : Int)) (.need (List.drop (0 : Nat) (marks (1 : Int) (dcV (ptsA ps.length (List.drop (0 : Nat) (List.take (ps.length * (2 : Nat)) (List.drop (0 : Nat) (flat ps)))))).length) = marks (1 : Int) (dcV (ptsA ps.length (List.drop (0 : Nat) (List.take (ps.length * (2 : Nat)) (List.drop (0 : Nat) (flat ps)))))).length) (brT (!1 + (↑(dcV (ptsA ps.length (List.drop 0 (List.take (ps.length * 2) (List.drop 0 (flat ps)))))).length : Int) == 1 + (↑(dcV (ptsA ps.length (List.drop 0 (List.take (ps.length * 2) (List.drop 0 (flat ps)))))).length : Int)) (.fin (.bool (false)) []) (.need (ps.length * (2 : Nat) ≤ (List.drop (0 : Nat) (flat ps)).length) (.need (ps.length ≤ (1000000000 : Nat)) (.need (ps.length * (2 : Nat) ≤ (List.drop (0 : Nat) (List.take (ps.length * (2 : Nat)) (List.drop (0 : Nat) (flat ps)))).length) (.need (ps.length ≤ (1000000000 : Nat)) (.need ((dcV (ptsA ps.length (List.drop (0 : Nat) (List.take (ps.length * (2 : Nat)) (List.drop (0 : Nat) (flat ps)))))).length = (dcV (ptsA ps.length (List.drop (0 : Nat) (List.take (ps.length * (2 : Nat)) (List.drop (0 : Nat) (flat ps)))))).length) (.need (List.drop (0 : Nat) (dcV (ptsA ps.length (List.drop (0 : Nat) (List.take (ps.length * (2 : Nat)) (List.drop (0 : Nat) (flat ps)))))) = List.drop (0 : Nat) (dcV (ptsA ps.length (List.drop (0 : Nat) (List.take (ps.length * (2 : Nat)) (List.drop (0 : Nat) (flat ps))))))) (.need ((dcV (ptsA ps.length (List.drop (0 : Nat) (List.take (ps.length * (2 : Nat)) (List.drop (0 : Nat) (flat ps)))))).length ≤ (List.drop (0 : Nat) (dcV (ptsA ps.length (List.drop (0 : Nat) (List.take (ps.length * (2 : Nat)) (List.drop (0 : Nat) (flat ps))))))).length) (.need (Lim (dcV (ptsA ps.length (List.drop (0 : Nat) (List.take (ps.length * (2 : Nat)) (List.drop (0 : Nat) (flat ps)))))).length) (.need (Lim (dcV (ptsA ps.length (List.drop (0 : Nat) (List.take (ps.length * (2 : Nat)) (List.drop (0 : Nat) (flat ps)))))).length) (.need ((0 : Int) ≤ (1 : Int) ∧ (1 : Int) ≤ (1000000000 : Int)) (.need (List.drop (0 : Nat) (marks (1 : Int) (dcV (ptsA ps.length (List.drop (0 : Nat) (List.take (ps.length * (2 : Nat)) (List.drop (0 : Nat) (flat ps)))))).length) = marks (1 : Int) (dcV (ptsA ps.length (List.drop (0 : Nat) (List.take (ps.length * (2 : Nat)) (List.drop (0 : Nat) (flat ps)))))).length) (brT (!1 + (↑(dcV (ptsA ps.length (List.drop 0 (List.take (ps.length * 2) (List.drop 0 (flat ps)))))).length : Int) == 1 + (↑(dcV (ptsA ps.length (List.drop 0 (List.take (ps.length * 2) (List.drop 0 (flat ps)))))).length : Int)) (.fin (.bool (false)) []) (.fin (.bool (true)) [])))))))))))))))))))))))))))))))))))))))))))))) := by kernel_rfl
theorem dcI_len (ps : List Pt) : ∀ (m i : Nat), (dcI ps m i).length = m
  | 0, _ => rfl
  | m + 1, i => by simp [dcI, dcI_len ps m]
theorem dcV_len (ps : List Pt) : (dcV ps).length ≤ 20 := by
  unfold dcV
  rcases hk : okL ps with _ | _
  · exact Nat.zero_le _
  · simp only [okL, Bool.and_eq_true, decide_eq_true_eq] at hk
    simp only [cond_true]
    rw [dcI_len]
    exact hk.2
theorem ExactDominatedCount_res (ps : List Pt) (h : (ps.length : Int) ≤ 9223372036854775807) : Res Try.prog 4 [.row ps.length (.ints (flat ps))] (.bool true) := by
  refine bodyV_res mixed EDl_ok (m := 30) (n := 12) rfl ?_
  rw [tr_exDc]
  simp only [List.drop_zero, flat_all, ptsA_flat, flat_length]
  by_cases hl : (1048576 : Int) - ps.length < 0
  · simp (disch := omega) only [wr]
    simp only [hl, decide_true, brT_t, Tree.ok]
  · have hV := dcV_len ps
    have hL : Lim (dcV ps).length := Nat.le_trans hV (by decide)
    have hP : Lim ps.length := by unfold Lim; omega
    generalize dcV ps = V at *
    have k1 : decide ((1 : Int) + V.length < 0) = false := decide_eq_false (by omega)
    have k2 : decide ((1 : Int) + (ps.length * 2 : Nat) < 0) = false := decide_eq_false (by omega)
    simp (disch := omega) only [wr]
    simp only [hl, decide_false, brT_f, Tree.ok, beq_self_eq_true, Bool.not_true, eqL, decide_true, k1, k2]
    repeat' (first | exact True.intro | assumption | omega | exact rfl | refine And.intro ?_ ?_)
end Go.Proofs.Ytfjcbindeimoiab
