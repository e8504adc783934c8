/-
  The law of a drawn segment and a point. Written by an AI agent.
-/
import Derived.Test.YtfkdagkldkabpaaPubC
import Derived.Test.YtfkdagkldkabpaaAbsV
namespace Go.Proofs.Ytfkdagkldkabpaa
open Go.RowKit
set_option maxRecDepth 100000 in
theorem tr_dOn (bs : List Int) (n : Nat) : bodyV Try.prog ER6 30 12 39 [.row n (.bytes bs)] = brT (decide (2000 < (↑n : Int))) (.need ((0 : Int) ≤ bndI none (0 : Int) ∧ bndI none (0 : Int) ≤ bndI (some (IntKind.i64, (2000 : Int))) (↑n : Int) ∧ bndI (some (IntKind.i64, (2000 : Int))) (↑n : Int) ≤ (↑n : Int)) (.need (rdK bs (2000 : Nat) (0 : Int)) (.need (rdK bs (2000 : Nat) (apP bs (2000 : Nat) (0 : Int))) (.need (rdC bs (2000 : Nat) (asP bs (2000 : Nat) (0 : Int))) (brT (pickI bs 2000 (asP bs 2000 0) 2 == 0) (.need (¬(2 : Int) = (0 : Int)) (.need (¬(2 : Int) = (0 : Int)) (.fin (.tuple #[.agg #[.int .i64 (apX bs 2000 0), .int .i64 (apY bs 2000 0), .int .i64 (asX bs 2000 0), .int .i64 (asY bs 2000 0)], .agg #[.int .i64 (IntKind.i64.wrap ((IntKind.i64.wrap (apX bs 2000 0 + asX bs 2000 0)).tdiv 2)), .int .i64 (IntKind.i64.wrap ((IntKind.i64.wrap (apY bs 2000 0 + asY bs 2000 0)).tdiv 2))]]) []))) (.need (rdK bs (2000 : Nat) (asP bs (2000 : Nat) (0 : Int) + (1 : Int))) (.fin (.tuple #[.agg #[.int .i64 (apX bs 2000 0), .int .i64 (apY bs 2000 0), .int .i64 (asX bs 2000 0), .int .i64 (asY bs 2000 0)], .agg #[.int .i64 (apX bs 2000 (asP bs 2000 0 + 1)), .int .i64 (apY bs 2000 (asP bs 2000 0 + 1))]]) []))))))) (.need (rdK bs n (0 : Int)) (.need (rdK bs n (apP bs n (0 : Int))) (.need (rdC bs n (asP bs n (0 : Int))) (brT (pickI bs n (asP bs n 0) 2 == 0) (.need (¬(2 : Int) = (0 : Int)) (.need (¬(2 : Int) = (0 : Int)) (.fin (.tuple #[.agg #[.int .i64 (apX bs n 0), .int .i64 (apY bs n 0), .int .i64 (asX bs n 0), .int .i64 (asY bs n 0)], .agg #[.int .i64 (IntKind.i64.wrap ((IntKind.i64.wrap (apX bs n 0 + asX bs n 0)).tdiv 2)), .int .i64 (IntKind.i64.wrap ((IntKind.i64.wrap (apY bs n 0 + asY bs n 0)).tdiv 2))]]) []))) (.need (rdK bs n (asP bs n (0 : Int) + (1 : Int))) (.fin (.tuple #[.agg #[.int .i64 (apX bs n 0), .int .i64 (apY bs n 0), .int .i64 (asX bs n 0), .int .i64 (asY bs n 0)], .agg #[.int .i64 (apX bs n (asP bs n 0 + 1)), .int .i64 (apY bs n (asP bs n 0 + 1))]]) [])))))) := by kernel_rfl
def osQ (bs : List Int) (l : Nat) : Int := pickI bs l (asP bs l 0) 2
/-- A drawn segment and a point. -/
def dos (bs : List Int) (l : Nat) : Nat → Int
  | 0 => apX bs l 0
  | 1 => apY bs l 0
  | 2 => asX bs l 0
  | 3 => asY bs l 0
  | 4 => if osQ bs l = 0 then IntKind.i64.wrap ((IntKind.i64.wrap (apX bs l 0 + asX bs l 0)).tdiv 2) else apX bs l (asP bs l 0 + 1)
  | _ => if osQ bs l = 0 then IntKind.i64.wrap ((IntKind.i64.wrap (apY bs l 0 + asY bs l 0)).tdiv 2) else apY bs l (asP bs l 0 + 1)
abbrev agg4 (a b c d : Int) : Value := .agg #[.int .i64 a, .int .i64 b, .int .i64 c, .int .i64 d]
def dosV (bs : List Int) (n : Nat) : Value := .tuple #[agg4 (dos bs (rdL n) 0) (dos bs (rdL n) 1) (dos bs (rdL n) 2) (dos bs (rdL n) 3), agg2 (dos bs (rdL n) 4) (dos bs (rdL n) 5)]
theorem res_dOn (bs : List Int) (n : Nat) (hb : Bytes bs) (hn : n ≤ bs.length) : Res Try.prog 39 [.row n (.bytes bs)] (dosV bs n) := by
  refine bodyV_res mixed ER6_ok (m := 30) (n := 12) rfl ?_
  rw [tr_dOn]
  have key : ∀ l, l ≤ n → l ≤ 2000 → rdK bs l 0 ∧ rdK bs l (apP bs l 0) ∧ rdC bs l (asP bs l 0) ∧ rdK bs l (asP bs l 0 + 1) := fun l h1 h2 => by
    have b1 := apP_bd bs l 0
    have b2 := asP_bd bs l 0
    exact ⟨rdK0 hb hn h1 h2 (by omega) (by omega), rdK0 hb hn h1 h2 (by omega) (by omega), (rdK0 hb hn h1 h2 (by omega) (by omega) : rdK bs l (asP bs l 0)).1, rdK0 hb hn h1 h2 (by omega) (by omega)⟩
  unfold dosV
  refine brT_ok.2 ⟨fun h => ?_, fun h => ?_⟩
  · have h := of_decide_eq_true h
    obtain ⟨k1, k2, k3, k4⟩ := key 2000 (by omega) (by omega)
    rw [rdL_of h]
    refine ⟨bnd2000 h, k1, k2, k3, brT_ok.2 ⟨fun hq => ?_, fun hq => ?_⟩⟩
    · have hq : osQ bs 2000 = 0 := by simpa [osQ] using hq
      exact ⟨by omega, by omega, by simp only [dos, if_pos hq]; rfl⟩
    · have hq : ¬ osQ bs 2000 = 0 := by simpa [osQ] using hq
      exact ⟨k4, by simp only [dos, if_neg hq]; rfl⟩
  · have h := of_decide_eq_false h
    obtain ⟨k1, k2, k3, k4⟩ := key n (by omega) (by omega)
    rw [rdL_no h]
    refine ⟨k1, k2, k3, brT_ok.2 ⟨fun hq => ?_, fun hq => ?_⟩⟩
    · have hq : osQ bs n = 0 := by simpa [osQ] using hq
      exact ⟨by omega, by omega, by simp only [dos, if_pos hq]; rfl⟩
    · have hq : ¬ osQ bs n = 0 := by simpa [osQ] using hq
      exact ⟨k4, by simp only [dos, if_neg hq]; rfl⟩
def pDOn : List DArg → Option (Value × List Prop)
  | [.row n (.bytes bs)] => some (dosV bs n, [Bytes bs, n ≤ bs.length])
  | _ => none
def TC2 : Tab := fun f ds => match f with
  | 39 => pDOn ds
  | _ => TC f ds
theorem TC2_ok : TabOk Try.prog TC2 := by
  intro f ds v C h hC
  unfold TC2 at h
  split at h
  · unfold pDOn at h
    split at h
    · obtain ⟨rfl, rfl⟩ : _ ∧ _ := by simpa using h
      exact res_dOn _ _ hC.1 hC.2.1
    · cases h
  · exact TC_ok _ _ _ _ h hC
set_option maxRecDepth 100000 in
theorem tr_lOn (bs : List Int) : bodyV Try.prog (tabE TC2) 30 12 11 [.row bs.length (.bytes bs)] = brT (decide (1048576 < (↑bs.length : Int))) (.fin (.bool (true)) []) (.need (Bytes (List.drop (0 : Nat) bs)) (.need (bs.length ≤ (List.drop (0 : Nat) bs).length) (brT (!onB (dos (List.drop 0 bs) (rdL bs.length) 0) (dos (List.drop 0 bs) (rdL bs.length) 1) (dos (List.drop 0 bs) (rdL bs.length) 2) (dos (List.drop 0 bs) (rdL bs.length) 3) (dos (List.drop 0 bs) (rdL bs.length) 4) (dos (List.drop 0 bs) (rdL bs.length) 5) == onB (dos (List.drop 0 bs) (rdL bs.length) 0) (dos (List.drop 0 bs) (rdL bs.length) 1) (dos (List.drop 0 bs) (rdL bs.length) 2) (dos (List.drop 0 bs) (rdL bs.length) 3) (dos (List.drop 0 bs) (rdL bs.length) 4) (dos (List.drop 0 bs) (rdL bs.length) 5)) (.fin (.bool (onB (dos (List.drop 0 bs) (rdL bs.length) 0) (dos (List.drop 0 bs) (rdL bs.length) 1) (dos (List.drop 0 bs) (rdL bs.length) 2) (dos (List.drop 0 bs) (rdL bs.length) 3) (dos (List.drop 0 bs) (rdL bs.length) 4) (dos (List.drop 0 bs) (rdL bs.length) 5) == onB (dos (List.drop 0 bs) (rdL bs.length) 0) (dos (List.drop 0 bs) (rdL bs.length) 1) (dos (List.drop 0 bs) (rdL bs.length) 2) (dos (List.drop 0 bs) (rdL bs.length) 3) (dos (List.drop 0 bs) (rdL bs.length) 4) (dos (List.drop 0 bs) (rdL bs.length) 5))) []) (brT (!segB (dos (List.drop 0 bs) (rdL bs.length) 0) (dos (List.drop 0 bs) (rdL bs.length) 1) (dos (List.drop 0 bs) (rdL bs.length) 2) (dos (List.drop 0 bs) (rdL bs.length) 3)) (.fin (.bool (onB (dos (List.drop 0 bs) (rdL bs.length) 0) (dos (List.drop 0 bs) (rdL bs.length) 1) (dos (List.drop 0 bs) (rdL bs.length) 2) (dos (List.drop 0 bs) (rdL bs.length) 3) (dos (List.drop 0 bs) (rdL bs.length) 4) (dos (List.drop 0 bs) (rdL bs.length) 5) == onB (dos (List.drop 0 bs) (rdL bs.length) 0) (dos (List.drop 0 bs) (rdL bs.length) 1) (dos (List.drop 0 bs) (rdL bs.length) 2) (dos (List.drop 0 bs) (rdL bs.length) 3) (dos (List.drop 0 bs) (rdL bs.length) 4) (dos (List.drop 0 bs) (rdL bs.length) 5))) []) (brT (onB (dos (List.drop 0 bs) (rdL bs.length) 0) (dos (List.drop 0 bs) (rdL bs.length) 1) (dos (List.drop 0 bs) (rdL bs.length) 2) (dos (List.drop 0 bs) (rdL bs.length) 3) (dos (List.drop 0 bs) (rdL bs.length) 0) (dos (List.drop 0 bs) (rdL bs.length) 1)) (brT (onB (dos (List.drop 0 bs) (rdL bs.length) 0) (dos (List.drop 0 bs) (rdL bs.length) 1) (dos (List.drop 0 bs) (rdL bs.length) 2) (dos (List.drop 0 bs) (rdL bs.length) 3) (dos (List.drop 0 bs) (rdL bs.length) 2) (dos (List.drop 0 bs) (rdL bs.length) 3)) (brT (onB (dos (List.drop 0 bs) (rdL bs.length) 2) (dos (List.drop 0 bs) (rdL bs.length) 3) (dos (List.drop 0 bs) (rdL bs.length) 0) (dos (List.drop 0 bs) (rdL bs.length) 1) (dos (List.drop 0 bs) (rdL bs.length) 4) (dos (List.drop 0 bs) (rdL bs.length) 5) == onB (dos (List.drop 0 bs) (rdL bs.length) 0) (dos (List.drop 0 bs) (rdL bs.length) 1) (dos (List.drop 0 bs) (rdL bs.length) 2) (dos (List.drop 0 bs) (rdL bs.length) 3) (dos (List.drop 0 bs) (rdL bs.length) 4) (dos (List.drop 0 bs) (rdL bs.length) 5)) (brT (!onB (dos (List.drop 0 bs) (rdL bs.length) 0) (dos (List.drop 0 bs) (rdL bs.length) 1) (dos (List.drop 0 bs) (rdL bs.length) 2) (dos (List.drop 0 bs) (rdL bs.length) 3) (dos (List.drop 0 bs) (rdL bs.length) 4) (dos (List.drop 0 bs) (rdL bs.length) 5)) (.fin (.bool (true)) []) (.fin (.bool (orientR (dos (List.drop 0 bs) (rdL bs.length) 0) (dos (List.drop 0 bs) (rdL bs.length) 1) (dos (List.drop 0 bs) (rdL bs.length) 2) (dos (List.drop 0 bs) (rdL bs.length) 3) (dos (List.drop 0 bs) (rdL bs.length) 4) (dos (List.drop 0 bs) (rdL bs.length) 5) == 0)) [])) (.fin (.bool (false)) [])) (.fin (.bool (false)) [])) (.fin (.bool (false)) [])))))) := by kernel_rfl
theorem eqB_comm (a b c d : Int) : eqB c d a b = eqB a b c d := by
  unfold eqB
  rw [Bool.eq_iff_iff]
  simp
  grind
theorem segB_comm (a b c d : Int) : segB c d a b = segB a b c d := by
  unfold segB
  rw [eqB_comm, Bool.and_comm (ptB c d)]
theorem hasB_comm (a b c d p q : Int) : hasB c d a b p q = hasB a b c d p q := by
  unfold hasB
  have e1 : (c - p) * (b - q) - (d - q) * (a - p) = -((a - p) * (d - q) - (b - q) * (c - p)) := by grind
  have e2 : (c - p) * (a - p) + (d - q) * (b - q) = (a - p) * (c - p) + (b - q) * (d - q) := by grind
  rw [e1, e2]
  generalize (a - p) * (d - q) - (b - q) * (c - p) = x
  have : (-x == 0) = (x == 0) := by rw [Bool.eq_iff_iff]; simp
  rw [this]
theorem onB_comm (a b c d p q : Int) : onB c d a b p q = onB a b c d p q := by unfold onB; rw [segB_comm, hasB_comm]
theorem onB_ends {a b c d : Int} (h : segB a b c d = true) : onB a b c d a b = true ∧ onB a b c d c d = true := by
  obtain ⟨h1, h2, _⟩ := segB_true h
  rw [onB_yes (by rw [h, h1]; rfl), onB_yes (by rw [h, h2]; rfl)]
  unfold hasB
  constructor
  · simp
  · simp
theorem onB_line {a b c d p q : Int} (h : onB a b c d p q = true) : orientR a b c d p q = 0 := by
  unfold onB at h
  simp only [Bool.and_eq_true] at h
  obtain ⟨⟨h1, h2⟩, h3⟩ := h
  obtain ⟨s1, s2, _⟩ := segB_true h1
  rw [orientR_yes (by rw [s1, s2, h2]; rfl)]
  unfold hasB at h3
  simp only [Bool.and_eq_true, beq_iff_eq] at h3
  refine sgn_zero ?_
  have e : crossI a b c d p q = (a - p) * (d - q) - (b - q) * (c - p) := by unfold crossI; grind
  rw [e]
  exact h3.1
theorem law_on (bs : List Int) (hb : Bytes bs) (_ : bs.length ≤ maxLen) : Res Try.prog 11 [.row bs.length (.bytes bs)] (.bool true) := by
  refine bodyV_res mixed (tabE_ok TC2_ok) (m := 30) (n := 12) rfl ?_
  rw [tr_lOn]
  simp only [List.drop_zero]
  generalize dos bs (rdL bs.length) 0 = a
  generalize dos bs (rdL bs.length) 1 = b
  generalize dos bs (rdL bs.length) 2 = c
  generalize dos bs (rdL bs.length) 3 = d
  generalize dos bs (rdL bs.length) 4 = p
  generalize dos bs (rdL bs.length) 5 = q
  rcases hs : segB a b c d with _ | _
  · simp [brT_ok, Tree.ok, hb]
  · obtain ⟨k1, k2⟩ := onB_ends hs
    have k3 := onB_comm a b c d p q
    rcases ho : onB a b c d p q with _ | _
    · simp [brT_ok, Tree.ok, hb, k1, k2, k3, ho]
    · have k4 := onB_line ho
      simp [brT_ok, Tree.ok, hb, k1, k2, k3, ho, k4]
end Go.Proofs.Ytfkdagkldkabpaa
