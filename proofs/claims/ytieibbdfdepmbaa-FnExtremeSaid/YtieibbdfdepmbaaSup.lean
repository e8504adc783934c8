/-
  SupportValue: both ways, the exact law. Written by an AI agent.
-/
import Derived.Test.YtieibbdfdepmbaaFnX
import Derived.Test.YtieibbdfdepmbaaBc
namespace Go.Proofs.Ytieibbdfdepmbaa
set_option linter.all false
open Go.RowKit

theorem ag_lt {f : Pt → Int} {ps : List Pt} : ∀ (n i b : Nat), b < ps.length → i + n ≤ ps.length → ag f ps n i b < ps.length
  | 0, _, _, h, _ => h
  | n + 1, i, b, h, h2 => ag_lt n (i + 1) _ (by split <;> omega) (by omega)
theorem ext_part (ps : List Pt) (x y : Int) : extV ps x y = -1 ∨ (okL ps = true ∧ ptB x y = true ∧ ∃ k : Nat, k < ps.length ∧ extV ps x y = k) := by
  unfold extV flV
  rcases h : (okL ps && ptB x y) with _ | _
  · exact .inl rfl
  · simp only [Bool.and_eq_true] at h
    rcases Nat.eq_zero_or_pos ps.length with h0 | h0
    · exact .inl (fl_nil h0)
    · exact .inr ⟨h.1, h.2, _, ag_lt ps.length 0 0 h0 (by omega), fl_ag h0⟩
theorem ok_get {ps : List Pt} (h : okL ps = true) {k : Nat} (hk : k < ps.length) : ptB (ps.getD k (0, 0)).1 (ps.getD k (0, 0)).2 = true ∧ ps.length ≤ 20 := by
  simp only [okL, Bool.and_eq_true, decide_eq_true_eq] at h
  refine ⟨?_, h.2⟩
  have := List.all_eq_true.1 h.1 (ps.getD k (0, 0)) (by simp [hk])
  exact this
/-- What SupportValue answers. -/
def supV (ps : List Pt) (x y : Int) : Int := if extV ps x y < 0 then 0 else fE (x, y) (ps.getD (extV ps x y).toNat (0, 0))
set_option maxRecDepth 100000 in
theorem tr_sSup (ps : List Pt) (x y : Int) : bodyV Try.prog E7 30 12 44 [.row ps.length (.ints (flat ps)), .v (.agg #[iv x, iv y])] = .need (ps.length * (2 : Nat) ≤ (List.drop (0 : Nat) (flat ps)).length) (.need (ps.length ≤ (1000000000 : Nat)) (brT (decide (extV (ptsA ps.length (List.drop 0 (flat ps))) x y < 0)) (.fin (.int .i64 (0)) []) (.need ((0 : Int) ≤ extV (ptsA ps.length (List.drop (0 : Nat) (flat ps))) x y ∧ extV (ptsA ps.length (List.drop (0 : Nat) (flat ps))) x y < (↑ps.length : Int)) (.need ((0 : Nat) + (extV (ptsA ps.length (List.drop (0 : Nat) (flat ps))) x y).toNat * (2 : Nat) + (0 : Nat) < (flat ps).length) (.need ((0 : Int) ≤ extV (ptsA ps.length (List.drop (0 : Nat) (flat ps))) x y ∧ extV (ptsA ps.length (List.drop (0 : Nat) (flat ps))) x y < (↑ps.length : Int)) (.need ((0 : Nat) + (extV (ptsA ps.length (List.drop (0 : Nat) (flat ps))) x y).toNat * (2 : Nat) + (1 : Nat) < (flat ps).length) (.fin (.int .i64 (IntKind.i64.wrap (IntKind.i64.wrap ((flat ps).getD (0 + (extV (ptsA ps.length (List.drop 0 (flat ps))) x y).toNat * 2 + 0) 0 * x) + IntKind.i64.wrap ((flat ps).getD (0 + (extV (ptsA ps.length (List.drop 0 (flat ps))) x y).toNat * 2 + 1) 0 * y)))) []))))))) := by kernel_rfl
set_option maxRecDepth 100000 in
theorem tr_iSup (ps : List Pt) (x y : Int) : bodyV Try.prog E7 30 12 43 [.row ps.length (.ints (flat ps)), .v (.agg #[iv x, iv y])] = .need (ps.length * (2 : Nat) ≤ (List.drop (0 : Nat) (flat ps)).length) (.need (ps.length ≤ (1000000000 : Nat)) (brT (decide (extV (ptsA ps.length (List.drop 0 (flat ps))) x y < 0)) (.fin (.int .i64 (0)) []) (.need ((0 : Int) ≤ extV (ptsA ps.length (List.drop (0 : Nat) (flat ps))) x y ∧ extV (ptsA ps.length (List.drop (0 : Nat) (flat ps))) x y < (↑ps.length : Int)) (.need ((0 : Nat) + (extV (ptsA ps.length (List.drop (0 : Nat) (flat ps))) x y).toNat * (2 : Nat) + (2 : Nat) ≤ (flat ps).length) (.fin (.int .i64 (IntKind.i64.wrap (IntKind.i64.wrap ((flat ps).getD (0 + (extV (ptsA ps.length (List.drop 0 (flat ps))) x y).toNat * 2) 0 * x) + IntKind.i64.wrap ((flat ps).getD (0 + (extV (ptsA ps.length (List.drop 0 (flat ps))) x y).toNat * 2 + 1) 0 * y)))) []))))) := by kernel_rfl
theorem sup_bd {ps : List Pt} {x y : Int} (h1 : okL ps = true) (h2 : ptB x y = true) {k : Nat} (hk : k < ps.length) : (-(1000 * 1000) ≤ (ps.getD k (0, 0)).1 * x ∧ (ps.getD k (0, 0)).1 * x ≤ 1000 * 1000) ∧ (-(1000 * 1000) ≤ (ps.getD k (0, 0)).2 * y ∧ (ps.getD k (0, 0)).2 * y ≤ 1000 * 1000) := by
  have a1 := ptB_true (ok_get h1 hk).1
  have a2 := ptB_true h2
  exact ⟨mul_bd 1000 1000 (by omega) (by omega), mul_bd 1000 1000 (by omega) (by omega)⟩
theorem res_sSup (ps : List Pt) (x y : Int) (h : Big ps) : Res Try.prog 44 [.row ps.length (.ints (flat ps)), .v (.agg #[iv x, iv y])] (iv (supV ps x y)) := by
  refine bodyV_res mixed E7_ok (m := 30) (n := 12) rfl ?_
  rw [tr_sSup]
  unfold Big at h
  simp only [List.drop_zero, ptsA_flat, flat_length]
  unfold supV
  rcases ext_part ps x y with e | ⟨h1, h2, k, hk, e⟩
  · rw [e]
    simp [brT, Tree.ok, h]
  · obtain ⟨b1, b2⟩ := sup_bd h1 h2 hk
    have hn : ¬ (k : Int) < 0 := by omega
    rw [e, if_neg hn, decide_eq_false hn]
    simp only [Int.toNat_natCast, Nat.zero_add, Nat.add_zero, flat_get0, flat_get1, brT_f]
    simp (disch := omega) only [wr]
    simp only [Tree.ok]
    repeat' (first | exact True.intro | exact rfl | assumption | omega | refine And.intro ?_ ?_)
theorem res_iSup (ps : List Pt) (x y : Int) (h : Big ps) : Res Try.prog 43 [.row ps.length (.ints (flat ps)), .v (.agg #[iv x, iv y])] (iv (supV ps x y)) := by
  refine bodyV_res mixed E7_ok (m := 30) (n := 12) rfl ?_
  rw [tr_iSup]
  unfold Big at h
  simp only [List.drop_zero, ptsA_flat, flat_length]
  unfold supV
  rcases ext_part ps x y with e | ⟨h1, h2, k, hk, e⟩
  · rw [e]
    simp [brT, Tree.ok, h]
  · obtain ⟨b1, b2⟩ := sup_bd h1 h2 hk
    have hn : ¬ (k : Int) < 0 := by omega
    rw [e, if_neg hn, decide_eq_false hn]
    simp only [Int.toNat_natCast, Nat.zero_add, Nat.add_zero, flat_get0, flat_get1, brT_f]
    simp (disch := omega) only [wr]
    simp only [Tree.ok]
    repeat' (first | exact True.intro | exact rfl | assumption | omega | refine And.intro ?_ ?_)
def TSu : Tab := fun f ds => match f with
  | 44 => pPP supV ds
  | 43 => pPP supV ds
  | f => T4' f ds
theorem TSu_ok : TabOk Try.prog TSu := by
  intro f ds v C h hC
  unfold TSu at h
  split at h
  · exact pPP_ok res_sSup h hC
  · exact pPP_ok res_iSup h hC
  · exact T4'_ok _ _ _ _ h hC
def ESu : Env := mkE TSu R4 (fun _ => noL)
theorem ESu_ok : EnvOk Try.prog ESu := mkEOk TSu_ok R4_ok (fun _ _ _ => noL_good)
end Go.Proofs.Ytieibbdfdepmbaa
