/-
  The law of the parts of a drawn segment. Written by an AI agent.
-/
import Derived.Test.YtblpldapmmoheabItr
import Derived.Test.YtblpldapmmoheabTsd
import Derived.Test.YtblpldapmmoheabPubA
namespace Go.Proofs.Ytblpldapmmoheab
set_option linter.all false
open Go.RowKit
set_option maxRecDepth 100000 in
theorem tr_dgs (bs : List Int) (n : Nat) : bodyV Try.prog ETs 30 12 30 [.row n (.bytes bs)] = brT (decide (2000 < (↑n : Int))) (.need ((0 : Int) ≤ bndI none (0 : Int) ∧ bndI none (0 : Int) ≤ bndI (some (IntKind.i64, (2000 : Int))) (↑n : Int) ∧ bndI (some (IntKind.i64, (2000 : Int))) (↑n : Int) ≤ (↑n : Int)) (.need (rdK bs (2000 : Nat) (0 : Int)) (.need (rdK bs (2000 : Nat) (apP bs (2000 : Nat) (0 : Int))) (.need (rdC bs (2000 : Nat) (asP bs (2000 : Nat) (0 : Int))) (brT (pickI bs 2000 (asP bs 2000 0) 2 == 0) (.need (¬(2 : Int) = (0 : Int)) (.need (¬(2 : Int) = (0 : Int)) (.fin (.tuple #[.agg #[.int .i64 (apX bs 2000 0), .int .i64 (apY bs 2000 0), .int .i64 (asX bs 2000 0), .int .i64 (asY bs 2000 0)], .agg #[.int .i64 (IntKind.i64.wrap ((IntKind.i64.wrap (apX bs 2000 0 + asX bs 2000 0)).tdiv 2)), .int .i64 (IntKind.i64.wrap ((IntKind.i64.wrap (apY bs 2000 0 + asY bs 2000 0)).tdiv 2))]]) []))) (.need (rdK bs (2000 : Nat) (asP bs (2000 : Nat) (0 : Int) + (1 : Int))) (.fin (.tuple #[.agg #[.int .i64 (apX bs 2000 0), .int .i64 (apY bs 2000 0), .int .i64 (asX bs 2000 0), .int .i64 (asY bs 2000 0)], .agg #[.int .i64 (apX bs 2000 (asP bs 2000 0 + 1)), .int .i64 (apY bs 2000 (asP bs 2000 0 + 1))]]) []))))))) (.need (rdK bs n (0 : Int)) (.need (rdK bs n (apP bs n (0 : Int))) (.need (rdC bs n (asP bs n (0 : Int))) (brT (pickI bs n (asP bs n 0) 2 == 0) (.need (¬(2 : Int) = (0 : Int)) (.need (¬(2 : Int) = (0 : Int)) (.fin (.tuple #[.agg #[.int .i64 (apX bs n 0), .int .i64 (apY bs n 0), .int .i64 (asX bs n 0), .int .i64 (asY bs n 0)], .agg #[.int .i64 (IntKind.i64.wrap ((IntKind.i64.wrap (apX bs n 0 + asX bs n 0)).tdiv 2)), .int .i64 (IntKind.i64.wrap ((IntKind.i64.wrap (apY bs n 0 + asY bs n 0)).tdiv 2))]]) []))) (.need (rdK bs n (asP bs n (0 : Int) + (1 : Int))) (.fin (.tuple #[.agg #[.int .i64 (apX bs n 0), .int .i64 (apY bs n 0), .int .i64 (asX bs n 0), .int .i64 (asY bs n 0)], .agg #[.int .i64 (apX bs n (asP bs n 0 + 1)), .int .i64 (apY bs n (asP bs n 0 + 1))]]) [])))))) := by kernel_rfl
def dgQ (bs : List Int) (l : Nat) : Int := pickI bs l (asP bs l 0) 2
/-- A drawn segment and a point. -/
def dgs (bs : List Int) (l : Nat) : Nat → Int
  | 0 => apX bs l 0
  | 1 => apY bs l 0
  | 2 => asX bs l 0
  | 3 => asY bs l 0
  | 4 => if dgQ bs l = 0 then IntKind.i64.wrap ((IntKind.i64.wrap (apX bs l 0 + asX bs l 0)).tdiv 2) else apX bs l (asP bs l 0 + 1)
  | _ => if dgQ bs l = 0 then IntKind.i64.wrap ((IntKind.i64.wrap (apY bs l 0 + asY bs l 0)).tdiv 2) else apY bs l (asP bs l 0 + 1)
abbrev dagg (a b c d : Int) : Value := .agg #[.int .i64 a, .int .i64 b, .int .i64 c, .int .i64 d]
def dgV (bs : List Int) (n : Nat) : Value := .tuple #[dagg (dgs bs (rdL n) 0) (dgs bs (rdL n) 1) (dgs bs (rdL n) 2) (dgs bs (rdL n) 3), agg2 (dgs bs (rdL n) 4) (dgs bs (rdL n) 5)]
theorem res_dgs (bs : List Int) (n : Nat) (hb : Bytes bs) (hn : n ≤ bs.length) : Res Try.prog 30 [.row n (.bytes bs)] (dgV bs n) := by
  refine bodyV_res mixed ETs_ok (m := 30) (n := 12) rfl ?_
  rw [tr_dgs]
  have key : ∀ l, l ≤ n → l ≤ 2000 → rdK bs l 0 ∧ rdK bs l (apP bs l 0) ∧ rdC bs l (asP bs l 0) ∧ rdK bs l (asP bs l 0 + 1) := fun l h1 h2 => by
    have b1 := apP_bd bs l 0
    have b2 := asP_bd bs l 0
    exact ⟨rdK0 hb hn h1 h2 (by omega) (by omega), rdK0 hb hn h1 h2 (by omega) (by omega), (rdK0 hb hn h1 h2 (by omega) (by omega) : rdK bs l (asP bs l 0)).1, rdK0 hb hn h1 h2 (by omega) (by omega)⟩
  unfold dgV
  refine brT_ok.2 ⟨fun h => ?_, fun h => ?_⟩
  · have h := of_decide_eq_true h
    obtain ⟨k1, k2, k3, k4⟩ := key 2000 (by omega) (by omega)
    rw [rdL_of h]
    refine ⟨bnd2000 h, k1, k2, k3, brT_ok.2 ⟨fun hq => ?_, fun hq => ?_⟩⟩
    · have hq : dgQ bs 2000 = 0 := by simpa [dgQ] using hq
      exact ⟨by omega, by omega, by simp only [dgs, if_pos hq]; rfl⟩
    · have hq : ¬ dgQ bs 2000 = 0 := by simpa [dgQ] using hq
      exact ⟨k4, by simp only [dgs, if_neg hq]; rfl⟩
  · have h := of_decide_eq_false h
    obtain ⟨k1, k2, k3, k4⟩ := key n (by omega) (by omega)
    rw [rdL_no h]
    refine ⟨k1, k2, k3, brT_ok.2 ⟨fun hq => ?_, fun hq => ?_⟩⟩
    · have hq : dgQ bs n = 0 := by simpa [dgQ] using hq
      exact ⟨by omega, by omega, by simp only [dgs, if_pos hq]; rfl⟩
    · have hq : ¬ dgQ bs n = 0 := by simpa [dgQ] using hq
      exact ⟨k4, by simp only [dgs, if_neg hq]; rfl⟩
def pDgs : List DArg → Option (Value × List Prop)
  | [.row n (.bytes bs)] => some (dgV bs n, [Bytes bs, n ≤ bs.length])
  | _ => none
theorem pDgs_ok {ds : List DArg} {v : Value} {C : List Prop} (h : pDgs ds = some (v, C)) (hC : AllP C) : Res Try.prog 30 ds v := by
  unfold pDgs at h
  split at h
  · obtain ⟨rfl, rfl⟩ : _ ∧ _ := by simpa using h
    exact res_dgs _ _ hC.1 hC.2.1
  · cases h
set_option maxRecDepth 100000 in
theorem tr_iOnQ (a b c d x y : Int) : bodyV Try.prog (tabE TTi) 30 12 31 [.v (.agg #[iv a, iv b, iv c, iv d]), .v (.agg #[iv x, iv y])] = brT (segB a b c d) (brT (ptB x y) (.need (ptB a b = true) (.need (ptB c d = true) (.need (ptB x y = true) (.fin (.bool (hasB a b c d x y)) [])))) (.fin (.bool (false)) [])) (.fin (.bool (false)) []) := by kernel_rfl
set_option maxRecDepth 100000 in
theorem tr_sOnQ (a b c d x y : Int) : bodyV Try.prog (tabE TTi) 30 12 32 [.v (.agg #[iv a, iv b, iv c, iv d]), .v (.agg #[iv x, iv y])] = brT (segB a b c d) (brT (ptB x y) (.need (ptB a b = true) (.need (ptB c d = true) (.need (ptB x y = true) (.fin (.bool (hasB a b c d x y)) [])))) (.fin (.bool (false)) [])) (.fin (.bool (false)) []) := by kernel_rfl
def onQ (a b c d x y : Int) : Bool := segB a b c d && ptB x y && hasB a b c d x y
theorem segQ_pt {a b c d : Int} (h : segB a b c d = true) : ptB a b = true ∧ ptB c d = true := ⟨(segB_true h).1, (segB_true h).2.1⟩
theorem res_iOnQ (a b c d x y : Int) : Res Try.prog 31 [.v (.agg #[iv a, iv b, iv c, iv d]), .v (.agg #[iv x, iv y])] (.bool (onQ a b c d x y)) := by
  refine bodyV_res mixed (tabE_ok TTi_ok) (m := 30) (n := 12) rfl ?_
  rw [tr_iOnQ]
  unfold onQ
  rcases s1 : segB a b c d with _ | _
  · simp [brT_ok, Tree.ok]
  obtain ⟨h1, h2⟩ := segQ_pt s1
  rcases s2 : ptB x y with _ | _ <;> simp [brT_ok, Tree.ok, h1, h2]
theorem res_sOnQ (a b c d x y : Int) : Res Try.prog 32 [.v (.agg #[iv a, iv b, iv c, iv d]), .v (.agg #[iv x, iv y])] (.bool (onQ a b c d x y)) := by
  refine bodyV_res mixed (tabE_ok TTi_ok) (m := 30) (n := 12) rfl ?_
  rw [tr_sOnQ]
  unfold onQ
  rcases s1 : segB a b c d with _ | _
  · simp [brT_ok, Tree.ok]
  obtain ⟨h1, h2⟩ := segQ_pt s1
  rcases s2 : ptB x y with _ | _ <;> simp [brT_ok, Tree.ok, h1, h2]
def pOnQ : List DArg → Option (Value × List Prop)
  | [.v (.agg ⟨[.int .i64 a, .int .i64 b, .int .i64 c, .int .i64 d]⟩), .v (.agg ⟨[.int .i64 x, .int .i64 y]⟩)] => some (.bool (onQ a b c d x y), [])
  | _ => none
theorem pOnQ_ok {fn : FuncId} (H : ∀ (a b c d x y : Int), Res Try.prog fn [.v (.agg #[iv a, iv b, iv c, iv d]), .v (.agg #[iv x, iv y])] (.bool (onQ a b c d x y))) {ds : List DArg} {v : Value} {C : List Prop} (h : pOnQ ds = some (v, C)) : Res Try.prog fn ds v := by
  unfold pOnQ at h
  split at h
  · obtain ⟨rfl, rfl⟩ : _ ∧ _ := by simpa using h
    exact H _ _ _ _ _ _
  · cases h
def TSo : Tab := fun f ds => match f with
  | 30 => pDgs ds
  | 31 => pOnQ ds
  | 32 => pOnQ ds
  | f => TTi f ds
theorem TSo_ok : TabOk Try.prog TSo := by
  intro f ds v C h hC
  unfold TSo at h
  (try split at h)
  all_goals first | with_reducible exact pDgs_ok h hC | with_reducible exact pOnQ_ok res_iOnQ h | with_reducible exact pOnQ_ok res_sOnQ h | exact TTi_ok _ _ _ _ h hC
def TSp : Tab := fun f ds => match f with
  | 33 => q_TA_4 ds
  | 34 => pITr ds
  | f => TSo f ds
theorem TSp_ok : TabOk Try.prog TSp := by
  intro f ds v C h hC
  unfold TSp at h
  (try split at h)
  all_goals first | with_reducible exact TA_r4 h hC | with_reducible exact pITr_ok res_ITri h | exact TSo_ok _ _ _ _ h hC
theorem seg_part {a b c d p q : Int} (h : onQ a b c d p q = true) : sqR a b p q ≤ sqR a b c d ∧ sqR c d p q ≤ sqR a b c d ∧ itV a b c d c d p q = true := by
  unfold onQ at h
  simp only [Bool.and_eq_true] at h
  obtain ⟨⟨h1, h2⟩, h3⟩ := h
  obtain ⟨s1, s2, _⟩ := segB_true h1
  have e0 : crossI a b c d c d = 0 := by unfold crossI; grind
  have ht : itV a b c d c d p q = true := by
    unfold itV
    rw [s1, s2, h2, triB_zero e0]
    unfold triD
    rw [h3]
    rfl
  rw [sqR_yes (by rw [s1, h2]; rfl), sqR_yes (by rw [s1, s2]; rfl), sqR_yes (by rw [s2, h2]; rfl)]
  unfold hasB at h3
  simp only [Bool.and_eq_true, decide_eq_true_eq] at h3
  have hd := h3.2
  have p1 := it_sq (a - p)
  have p2 := it_sq (b - q)
  have p3 := it_sq (c - p)
  have p4 := it_sq (d - q)
  have e : sqI a b c d = ((a - p) * (a - p) + (b - q) * (b - q)) + ((c - p) * (c - p) + (d - q) * (d - q)) - 2 * ((a - p) * (c - p) + (b - q) * (d - q)) := by unfold sqI; grind
  refine ⟨?_, ?_, ht⟩
  · rw [e]
    unfold sqI
    omega
  · rw [e]
    unfold sqI
    omega
set_option maxRecDepth 100000 in
theorem tr_lSgp (bs : List Int) : bodyV Try.prog (tabE TSp) 30 12 7 [.row bs.length (.bytes bs)] = brT (decide (1048576 < (↑bs.length : Int))) (.fin (.bool (true)) []) (.need (Bytes (List.drop (0 : Nat) bs)) (.need (bs.length ≤ (List.drop (0 : Nat) bs).length) (brT (!onQ (dgs (List.drop 0 bs) (rdL bs.length) 0) (dgs (List.drop 0 bs) (rdL bs.length) 1) (dgs (List.drop 0 bs) (rdL bs.length) 2) (dgs (List.drop 0 bs) (rdL bs.length) 3) (dgs (List.drop 0 bs) (rdL bs.length) 4) (dgs (List.drop 0 bs) (rdL bs.length) 5) == onQ (dgs (List.drop 0 bs) (rdL bs.length) 0) (dgs (List.drop 0 bs) (rdL bs.length) 1) (dgs (List.drop 0 bs) (rdL bs.length) 2) (dgs (List.drop 0 bs) (rdL bs.length) 3) (dgs (List.drop 0 bs) (rdL bs.length) 4) (dgs (List.drop 0 bs) (rdL bs.length) 5)) (.fin (.bool (onQ (dgs (List.drop 0 bs) (rdL bs.length) 0) (dgs (List.drop 0 bs) (rdL bs.length) 1) (dgs (List.drop 0 bs) (rdL bs.length) 2) (dgs (List.drop 0 bs) (rdL bs.length) 3) (dgs (List.drop 0 bs) (rdL bs.length) 4) (dgs (List.drop 0 bs) (rdL bs.length) 5) == onQ (dgs (List.drop 0 bs) (rdL bs.length) 0) (dgs (List.drop 0 bs) (rdL bs.length) 1) (dgs (List.drop 0 bs) (rdL bs.length) 2) (dgs (List.drop 0 bs) (rdL bs.length) 3) (dgs (List.drop 0 bs) (rdL bs.length) 4) (dgs (List.drop 0 bs) (rdL bs.length) 5))) []) (brT (!onQ (dgs (List.drop 0 bs) (rdL bs.length) 0) (dgs (List.drop 0 bs) (rdL bs.length) 1) (dgs (List.drop 0 bs) (rdL bs.length) 2) (dgs (List.drop 0 bs) (rdL bs.length) 3) (dgs (List.drop 0 bs) (rdL bs.length) 4) (dgs (List.drop 0 bs) (rdL bs.length) 5)) (.fin (.bool (onQ (dgs (List.drop 0 bs) (rdL bs.length) 0) (dgs (List.drop 0 bs) (rdL bs.length) 1) (dgs (List.drop 0 bs) (rdL bs.length) 2) (dgs (List.drop 0 bs) (rdL bs.length) 3) (dgs (List.drop 0 bs) (rdL bs.length) 4) (dgs (List.drop 0 bs) (rdL bs.length) 5) == onQ (dgs (List.drop 0 bs) (rdL bs.length) 0) (dgs (List.drop 0 bs) (rdL bs.length) 1) (dgs (List.drop 0 bs) (rdL bs.length) 2) (dgs (List.drop 0 bs) (rdL bs.length) 3) (dgs (List.drop 0 bs) (rdL bs.length) 4) (dgs (List.drop 0 bs) (rdL bs.length) 5))) []) (brT (decide (sqR (dgs (List.drop 0 bs) (rdL bs.length) 0) (dgs (List.drop 0 bs) (rdL bs.length) 1) (dgs (List.drop 0 bs) (rdL bs.length) 4) (dgs (List.drop 0 bs) (rdL bs.length) 5) ≤ sqR (dgs (List.drop 0 bs) (rdL bs.length) 0) (dgs (List.drop 0 bs) (rdL bs.length) 1) (dgs (List.drop 0 bs) (rdL bs.length) 2) (dgs (List.drop 0 bs) (rdL bs.length) 3))) (brT (decide (sqR (dgs (List.drop 0 bs) (rdL bs.length) 2) (dgs (List.drop 0 bs) (rdL bs.length) 3) (dgs (List.drop 0 bs) (rdL bs.length) 4) (dgs (List.drop 0 bs) (rdL bs.length) 5) ≤ sqR (dgs (List.drop 0 bs) (rdL bs.length) 0) (dgs (List.drop 0 bs) (rdL bs.length) 1) (dgs (List.drop 0 bs) (rdL bs.length) 2) (dgs (List.drop 0 bs) (rdL bs.length) 3))) (.fin (.bool (itV (dgs (List.drop 0 bs) (rdL bs.length) 0) (dgs (List.drop 0 bs) (rdL bs.length) 1) (dgs (List.drop 0 bs) (rdL bs.length) 2) (dgs (List.drop 0 bs) (rdL bs.length) 3) (dgs (List.drop 0 bs) (rdL bs.length) 2) (dgs (List.drop 0 bs) (rdL bs.length) 3) (dgs (List.drop 0 bs) (rdL bs.length) 4) (dgs (List.drop 0 bs) (rdL bs.length) 5))) []) (.fin (.bool (false)) [])) (.fin (.bool (false)) [])))))) := by kernel_rfl
theorem law_sgp (bs : List Int) (hb : Bytes bs) (_ : bs.length ≤ maxLen) : Res Try.prog 7 [.row bs.length (.bytes bs)] (.bool true) := by
  refine bodyV_res mixed (tabE_ok TSp_ok) (m := 30) (n := 12) rfl ?_
  rw [tr_lSgp]
  simp only [List.drop_zero]
  generalize dgs bs (rdL bs.length) 0 = a
  generalize dgs bs (rdL bs.length) 1 = b
  generalize dgs bs (rdL bs.length) 2 = c
  generalize dgs bs (rdL bs.length) 3 = d
  generalize dgs bs (rdL bs.length) 4 = p
  generalize dgs bs (rdL bs.length) 5 = q
  rcases ho : onQ a b c d p q with _ | _
  · simp [brT_ok, Tree.ok, hb]
  · obtain ⟨k1, k2, k3⟩ := seg_part ho
    simp [brT_ok, Tree.ok, hb, k1, k2, k3]
end Go.Proofs.Ytblpldapmmoheab
