/-
  PointsInRect, both ways; the exact law. Written by an AI agent.
-/
import Derived.Test.YtoijfjifaljpaabPir
namespace Go.Proofs.Ytoijfjifaljpaab
open Go.RowKit

theorem Lr_specPir {fn : Func} (hf : Try.prog.funcs[18]? = some fn) : LoopsGood Try.prog (lt1 e_specPir) 0 (codeOf fn) := by
  obtain rfl := fn_is Try.func18 hf
  exact lt1_good lg_specPir
theorem Lr_implPir {fn : Func} (hf : Try.prog.funcs[61]? = some fn) : LoopsGood Try.prog (lt1 e_implPir) 0 (codeOf fn) := by
  obtain rfl := fn_is Try.func61 hf
  exact lt1_good lg_implPir
def LPir : FuncId → LT := fun f => match f with
  | 18 => lt1 e_specPir
  | 61 => lt1 e_implPir
  | _ => noL
def EP1 : Env := mkE TP (fun _ _ => none) LPir
theorem EP1_ok : EnvOk Try.prog EP1 := mkEOk TP_ok (fun _ _ _ _ _ h => (by cases h)) (by
  intro f fn hf
  unfold LPir
  split
  all_goals first | with_reducible exact Lr_specPir hf | with_reducible exact Lr_implPir hf | exact noL_good)
set_option maxRecDepth 100000 in
theorem tr_specPirF (ps : List Pt) (a b c d : Int) : bodyX Try.prog EP1 30 12 18 [.row ps.length (.ints (flat ps)), .v (.agg #[iv a, iv b, iv c, iv d])] = .need (ps.length * (2 : Nat) ≤ (List.drop (0 : Nat) (flat ps)).length) (.need (ps.length ≤ (1000000000 : Nat)) (brT (!okL (ptsA ps.length (List.drop 0 (flat ps)))) (.fin (.slice none (0) (0)) [some ⟨.view, .ints (flat ps)⟩, none, some ⟨.box, .vals [.int .i64 (a), .int .i64 (b), .int .i64 (c), .int .i64 (d)]⟩, some ⟨.row 3 1, .vals []⟩]) (brT (!rcB a b c d) (.fin (.slice none (0) (0)) [some ⟨.view, .ints (flat ps)⟩, none, some ⟨.box, .vals [.int .i64 (a), .int .i64 (b), .int .i64 (c), .int .i64 (d)]⟩, some ⟨.row 3 1, .vals []⟩]) (.need ((0 : Int) = (0 : Int)) (.need ((0 : Nat) = (0 : Nat)) (.need ((flat ps).length = ps.length * (2 : Nat)) (.need (ps.length ≤ (20 : Nat)) (.fin (.slice (some ⟨4, 0, none⟩) ((idxF (inR a b c d) (ptsA ps.length (flat ps)) 0).length) ((idxF (inR a b c d) (ptsA ps.length (flat ps)) 0).length)) [some ⟨.view, .ints (flat ps)⟩, none, some ⟨.box, .vals [.int .i64 (a), .int .i64 (b), .int .i64 (c), .int .i64 (d)]⟩, some deadB, some ⟨.row 3 1, .ints (idxF (inR a b c d) (ptsA ps.length (flat ps)) 0)⟩])))))))) := by kernel_rfl
set_option maxRecDepth 100000 in
theorem tr_implPirF (ps : List Pt) (a b c d : Int) : bodyX Try.prog EP1 30 12 16 [.row ps.length (.ints (flat ps)), .v (.agg #[iv a, iv b, iv c, iv d])] = brT (decide ((↑ps.length : Int) ≤ 20)) (.need (ps.length * (2 : Nat) ≤ (List.drop (0 : Nat) (flat ps)).length) (.need (ps.length ≤ (1000000000 : Nat)) (brT (!allV (ptsA ps.length (List.drop 0 (flat ps)))) (.fin (.slice none (0) (0)) [some ⟨.view, .ints (flat ps)⟩, none, some ⟨.box, .vals [.int .i64 (a), .int .i64 (b), .int .i64 (c), .int .i64 (d)]⟩]) (brT (!rcB a b c d) (.fin (.slice none (0) (0)) [some ⟨.view, .ints (flat ps)⟩, none, some ⟨.box, .vals [.int .i64 (a), .int .i64 (b), .int .i64 (c), .int .i64 (d)]⟩]) (.need ((0 : Int) = (0 : Int)) (.need ((↑ps.length : Int) = (↑ps.length : Int)) (.need (a = a) (.need (b = b) (.need (c = c) (.need (d = d) (.need ((flat ps).length = ps.length * (2 : Nat)) (.need (ps.length ≤ (20 : Nat)) (.fin (.slice (some ⟨3, 0, none⟩) ((idxF (inR a b c d) (ptsA ps.length (flat ps)) 0).length) ((idxF (inR a b c d) (ptsA ps.length (flat ps)) 0).length)) [some ⟨.view, .ints (flat ps)⟩, none, some ⟨.box, .vals [.int .i64 (a), .int .i64 (b), .int .i64 (c), .int .i64 (d)]⟩, some ⟨.row 3 1, .ints (idxF (inR a b c d) (ptsA ps.length (flat ps)) 0)⟩]))))))))))))) (.fin (.slice none (0) (0)) [some ⟨.view, .ints (flat ps)⟩, none, some ⟨.box, .vals [.int .i64 (a), .int .i64 (b), .int .i64 (c), .int .i64 (d)]⟩]) := by kernel_rfl
abbrev rowI (xs : List Int) : Value := .slice (some ⟨0, 0, none⟩) xs.length xs.length
/-- What PointsInRect answers. -/
def pirV (ps : List Pt) (a b c d : Int) : List Int := bif okL ps && rcB a b c d then idxF (inR a b c d) ps 0 else []
theorem resR_specPir (ps : List Pt) (a b c d : Int) (h : Big ps) : ResR Try.prog 18 [.row ps.length (.ints (flat ps)), .v (.agg #[iv a, iv b, iv c, iv d])] (rowI (pirV ps a b c d)) ⟨.row 3 1, .ints (pirV ps a b c d)⟩ := by
  refine bodyX_resR mixed EP1_ok (m := 30) (n := 12) rfl ?_
  rw [tr_specPirF]
  unfold Big at h
  simp only [List.drop_zero, ptsA_flat, flat_length]
  unfold pirV
  rcases hk : okL ps with _ | _
  · simp only [brT_t, brT_f, Bool.not_true, Bool.not_false, Tree.ok]
    repeat' (first | exact True.intro | exact rfl | assumption | exact ⟨none, ⟨rfl, rfl⟩, trivial⟩ | exact ⟨some 3, ⟨rfl, rfl, rfl⟩, rfl, rfl, rfl⟩ | exact ⟨some 4, ⟨rfl, rfl, rfl⟩, rfl, rfl, rfl⟩ | refine And.intro ?_ ?_ | omega)
  rcases hr : rcB a b c d with _ | _
  · simp only [brT_t, brT_f, Bool.not_true, Bool.not_false, Tree.ok]
    repeat' (first | exact True.intro | exact rfl | assumption | exact ⟨none, ⟨rfl, rfl⟩, trivial⟩ | exact ⟨some 3, ⟨rfl, rfl, rfl⟩, rfl, rfl, rfl⟩ | exact ⟨some 4, ⟨rfl, rfl, rfl⟩, rfl, rfl, rfl⟩ | refine And.intro ?_ ?_ | omega)
  have hl : ps.length ≤ 20 := by simp only [okL, Bool.and_eq_true, decide_eq_true_eq] at hk; exact hk.2
  simp only [brT_t, brT_f, Bool.not_true, Bool.not_false, Tree.ok]
  repeat' (first | exact True.intro | exact rfl | assumption | exact ⟨none, ⟨rfl, rfl⟩, trivial⟩ | exact ⟨some 3, ⟨rfl, rfl, rfl⟩, rfl, rfl, rfl⟩ | exact ⟨some 4, ⟨rfl, rfl, rfl⟩, rfl, rfl, rfl⟩ | refine And.intro ?_ ?_ | omega)
theorem resR_implPir (ps : List Pt) (a b c d : Int) (h : Big ps) : ResR Try.prog 16 [.row ps.length (.ints (flat ps)), .v (.agg #[iv a, iv b, iv c, iv d])] (rowI (pirV ps a b c d)) ⟨.row 3 1, .ints (pirV ps a b c d)⟩ := by
  refine bodyX_resR mixed EP1_ok (m := 30) (n := 12) rfl ?_
  rw [tr_implPirF]
  unfold Big at h
  simp only [List.drop_zero, ptsA_flat, flat_length]
  unfold pirV okL
  by_cases hl : ps.length ≤ 20
  · have hl2 : (ps.length : Int) ≤ 20 := by omega
    rw [decide_eq_true hl2, decide_eq_true hl]
    rcases hk : allV ps with _ | _
    · simp only [brT_t, brT_f, Bool.not_true, Bool.not_false, Tree.ok]
      repeat' (first | exact True.intro | exact rfl | assumption | exact ⟨none, ⟨rfl, rfl⟩, trivial⟩ | exact ⟨some 3, ⟨rfl, rfl, rfl⟩, rfl, rfl, rfl⟩ | exact ⟨some 4, ⟨rfl, rfl, rfl⟩, rfl, rfl, rfl⟩ | refine And.intro ?_ ?_ | omega)
    rcases hr : rcB a b c d with _ | _
    · simp only [brT_t, brT_f, Bool.not_true, Bool.not_false, Tree.ok]
      repeat' (first | exact True.intro | exact rfl | assumption | exact ⟨none, ⟨rfl, rfl⟩, trivial⟩ | exact ⟨some 3, ⟨rfl, rfl, rfl⟩, rfl, rfl, rfl⟩ | exact ⟨some 4, ⟨rfl, rfl, rfl⟩, rfl, rfl, rfl⟩ | refine And.intro ?_ ?_ | omega)
    simp only [brT_t, brT_f, Bool.not_true, Bool.not_false, Tree.ok]
    repeat' (first | exact True.intro | exact rfl | assumption | exact ⟨none, ⟨rfl, rfl⟩, trivial⟩ | exact ⟨some 3, ⟨rfl, rfl, rfl⟩, rfl, rfl, rfl⟩ | exact ⟨some 4, ⟨rfl, rfl, rfl⟩, rfl, rfl, rfl⟩ | refine And.intro ?_ ?_ | omega)
  · have hl2 : ¬ (ps.length : Int) ≤ 20 := by omega
    rw [decide_eq_false hl2, decide_eq_false hl]
    simp only [Bool.and_false, Bool.false_and, cond_false]
    simp only [brT_t, brT_f, Bool.not_true, Bool.not_false, Tree.ok]
    repeat' (first | exact True.intro | exact rfl | assumption | exact ⟨none, ⟨rfl, rfl⟩, trivial⟩ | exact ⟨some 3, ⟨rfl, rfl, rfl⟩, rfl, rfl, rfl⟩ | exact ⟨some 4, ⟨rfl, rfl, rfl⟩, rfl, rfl, rfl⟩ | refine And.intro ?_ ?_ | omega)
def RPir : TabR := fun f ds => match f, ds with
  | 18, [.row m (.ints xs), .v (.agg ⟨[.int .i64 a, .int .i64 b, .int .i64 c, .int .i64 d]⟩)] => some (rowI (pirV (ptsA m xs) a b c d), ⟨.row 3 1, .ints (pirV (ptsA m xs) a b c d)⟩, [m * 2 ≤ xs.length, m ≤ 1000000000])
  | 16, [.row m (.ints xs), .v (.agg ⟨[.int .i64 a, .int .i64 b, .int .i64 c, .int .i64 d]⟩)] => some (rowI (pirV (ptsA m xs) a b c d), ⟨.row 3 1, .ints (pirV (ptsA m xs) a b c d)⟩, [m * 2 ≤ xs.length, m ≤ 1000000000])
  | f, ds => R4 f ds
theorem RPir_ok : TabROk Try.prog RPir := by
  intro f ds v b C h hC
  unfold RPir at h
  split at h
  · obtain ⟨rfl, rfl, rfl⟩ : _ ∧ _ ∧ _ := by simpa using h
    obtain ⟨_, h2⟩ := ptsA_spec hC.1
    exact resR_pts1 (pre := []) (post := [_]) hC.1 (resR_specPir _ _ _ _ _ (by unfold Big; rw [h2]; exact hC.2.1))
  · obtain ⟨rfl, rfl, rfl⟩ : _ ∧ _ ∧ _ := by simpa using h
    obtain ⟨_, h2⟩ := ptsA_spec hC.1
    exact resR_pts1 (pre := []) (post := [_]) hC.1 (resR_implPir _ _ _ _ _ (by unfold Big; rw [h2]; exact hC.2.1))
  · exact R4_ok _ _ _ _ _ h hC
def TPl : Tab := fun f ds => match f with
  | 35 => pHeldI ds
  | 31 => pEqI ds
  | f => T3 f ds
theorem TPl_ok : TabOk Try.prog TPl := by
  intro f ds v C h hC
  unfold TPl at h
  split at h
  · exact pHeldI_ok h hC
  · exact pEqI_ok h hC
  · exact T3_ok _ _ _ _ h hC
def EPl : Env := withT (mkE TPl RPir (fun _ => noL)) Jmk
theorem EPl_ok : EnvOk Try.prog EPl := withT_ok (mkEOk TPl_ok RPir_ok (fun _ _ _ => noL_good)) Jmk_ok
theorem pirV_len (ps : List Pt) (a b c d : Int) : (pirV ps a b c d).length ≤ 20 := by
  unfold pirV
  rcases hk : (okL ps && rcB a b c d) with _ | _
  · exact Nat.zero_le _
  · simp only [okL, Bool.and_eq_true, decide_eq_true_eq] at hk
    have := idx_len (inR a b c d) ps 0
    simp only [cond_true]
    omega
end Go.Proofs.Ytoijfjifaljpaab
