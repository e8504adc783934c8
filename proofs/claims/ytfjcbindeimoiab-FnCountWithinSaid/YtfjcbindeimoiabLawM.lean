/-
  The law of CountWithin over drawn lists. Written by an AI agent.
-/
import Derived.Test.YtfjcbindeimoiabDrwA
import Derived.Test.YtfjcbindeimoiabFnB
namespace Go.Proofs.Ytfjcbindeimoiab
open Go.RowKit

def RDcw : TabR := fun f ds => match f, ds with
  | 44, [.row n (.bytes bs)] => some (dCwL bs (rdL n), dRow bs (rdL n) 8, [Bytes bs, n ≤ bs.length])
  | _, _ => none
theorem RDcw_ok : TabROk Try.prog RDcw := by
  intro f ds v b C h hC
  unfold RDcw at h
  split at h
  · obtain ⟨rfl, rfl, rfl⟩ : _ ∧ _ ∧ _ := by simpa using h
    exact resR_dCW _ _ hC.1 hC.2.1
  · cases h
def ECw : Env := mkE T3 RDcw (fun _ => noL)
theorem ECw_ok : EnvOk Try.prog ECw := mkEOk T3_ok RDcw_ok (fun _ _ _ => noL_good)
set_option maxRecDepth 100000 in
theorem tr_lCW (bs cs : List Int) : bodyV Try.prog ECw 30 12 9 [.row bs.length (.bytes bs), .row cs.length (.bytes cs)] = brT (decide (1048576 < (↑bs.length : Int))) (.fin (.bool (true)) []) (brT (decide (1048576 < (↑cs.length : Int))) (.fin (.bool (true)) []) (.need (Bytes (List.drop (0 : Nat) bs)) (.need (bs.length ≤ (List.drop (0 : Nat) bs).length) (.need ((apsL (List.drop (0 : Nat) bs) (rdL bs.length) (0 : Int) (8 : Int)).length * (2 : Nat) ≤ (List.drop (0 : Nat) (flat (apsL (List.drop (0 : Nat) bs) (rdL bs.length) (0 : Int) (8 : Int)))).length) (.need ((apsL (List.drop (0 : Nat) bs) (rdL bs.length) (0 : Int) (8 : Int)).length ≤ (1000000000 : Nat)) (.need ((apsL (List.drop (0 : Nat) bs) (rdL bs.length) (0 : Int) (8 : Int)).length * (2 : Nat) ≤ (List.drop (0 : Nat) (flat (apsL (List.drop (0 : Nat) bs) (rdL bs.length) (0 : Int) (8 : Int)))).length) (.need ((apsL (List.drop (0 : Nat) bs) (rdL bs.length) (0 : Int) (8 : Int)).length ≤ (1000000000 : Nat)) (brT (!cwV (ptsA (apsL (List.drop 0 bs) (rdL bs.length) 0 8).length (List.drop 0 (flat (apsL (List.drop 0 bs) (rdL bs.length) 0 8)))) (apX (List.drop 0 bs) (rdL bs.length) (apsP (List.drop 0 bs) (rdL bs.length) 0 8)) (apY (List.drop 0 bs) (rdL bs.length) (apsP (List.drop 0 bs) (rdL bs.length) 0 8)) (oneI (List.drop 0 bs) (rdL bs.length) (apP (List.drop 0 bs) (rdL bs.length) (apsP (List.drop 0 bs) (rdL bs.length) 0 8)) 7 cwNs) == cwV (ptsA (apsL (List.drop 0 bs) (rdL bs.length) 0 8).length (List.drop 0 (flat (apsL (List.drop 0 bs) (rdL bs.length) 0 8)))) (apX (List.drop 0 bs) (rdL bs.length) (apsP (List.drop 0 bs) (rdL bs.length) 0 8)) (apY (List.drop 0 bs) (rdL bs.length) (apsP (List.drop 0 bs) (rdL bs.length) 0 8)) (oneI (List.drop 0 bs) (rdL bs.length) (apP (List.drop 0 bs) (rdL bs.length) (apsP (List.drop 0 bs) (rdL bs.length) 0 8)) 7 cwNs)) (.need ((apsL (List.drop (0 : Nat) bs) (rdL bs.length) (0 : Int) (8 : Int)).length * (2 : Nat) ≤ (List.drop (0 : Nat) (flat (apsL (List.drop (0 : Nat) bs) (rdL bs.length) (0 : Int) (8 : Int)))).length) (.need ((apsL (List.drop (0 : Nat) bs) (rdL bs.length) (0 : Int) (8 : Int)).length ≤ (1000000000 : Nat)) (.fin (.bool (cwV (ptsA (apsL (List.drop 0 bs) (rdL bs.length) 0 8).length (List.drop 0 (flat (apsL (List.drop 0 bs) (rdL bs.length) 0 8)))) (apX (List.drop 0 bs) (rdL bs.length) (apsP (List.drop 0 bs) (rdL bs.length) 0 8)) (apY (List.drop 0 bs) (rdL bs.length) (apsP (List.drop 0 bs) (rdL bs.length) 0 8)) (oneI (List.drop 0 bs) (rdL bs.length) (apP (List.drop 0 bs) (rdL bs.length) (apsP (List.drop 0 bs) (rdL bs.length) 0 8)) 7 cwNs) == cwV (ptsA (apsL (List.drop 0 bs) (rdL bs.length) 0 8).length (List.drop 0 (flat (apsL (List.drop 0 bs) (rdL bs.length) 0 8)))) (apX (List.drop 0 bs) (rdL bs.length) (apsP (List.drop 0 bs) (rdL bs.length) 0 8)) (apY (List.drop 0 bs) (rdL bs.length) (apsP (List.drop 0 bs) (rdL bs.length) 0 8)) (oneI (List.drop 0 bs) (rdL bs.length) (apP (List.drop 0 bs) (rdL bs.length) (apsP (List.drop 0 bs) (rdL bs.length) 0 8)) 7 cwNs))) []))) (brT (decide (cwV (ptsA (apsL (List.drop 0 bs) (rdL bs.length) 0 8).length (List.drop 0 (flat (apsL (List.drop 0 bs) (rdL bs.length) 0 8)))) (apX (List.drop 0 bs) (rdL bs.length) (apsP (List.drop 0 bs) (rdL bs.length) 0 8)) (apY (List.drop 0 bs) (rdL bs.length) (apsP (List.drop 0 bs) (rdL bs.length) 0 8)) (oneI (List.drop 0 bs) (rdL bs.length) (apP (List.drop 0 bs) (rdL bs.length) (apsP (List.drop 0 bs) (rdL bs.length) 0 8)) 7 cwNs) < 0)) (.need ((apsL (List.drop (0 : Nat) bs) (rdL bs.length) (0 : Int) (8 : Int)).length * (2 : Nat) ≤ (List.drop (0 : Nat) (flat (apsL (List.drop (0 : Nat) bs) (rdL bs.length) (0 : Int) (8 : Int)))).length) (.need ((apsL (List.drop (0 : Nat) bs) (rdL bs.length) (0 : Int) (8 : Int)).length ≤ (1000000000 : Nat)) (.fin (.bool (cwV (ptsA (apsL (List.drop 0 bs) (rdL bs.length) 0 8).length (List.drop 0 (flat (apsL (List.drop 0 bs) (rdL bs.length) 0 8)))) (apX (List.drop 0 bs) (rdL bs.length) (apsP (List.drop 0 bs) (rdL bs.length) 0 8)) (apY (List.drop 0 bs) (rdL bs.length) (apsP (List.drop 0 bs) (rdL bs.length) 0 8)) (oneI (List.drop 0 bs) (rdL bs.length) (apP (List.drop 0 bs) (rdL bs.length) (apsP (List.drop 0 bs) (rdL bs.length) 0 8)) 7 cwNs) == cwV (ptsA (apsL (List.drop 0 bs) (rdL bs.length) 0 8).length (List.drop 0 (flat (apsL (List.drop 0 bs) (rdL bs.length) 0 8)))) (apX (List.drop 0 bs) (rdL bs.length) (apsP (List.drop 0 bs) (rdL bs.length) 0 8)) (apY (List.drop 0 bs) (rdL bs.length) (apsP (List.drop 0 bs) (rdL bs.length) 0 8)) (oneI (List.drop 0 bs) (rdL bs.length) (apP (List.drop 0 bs) (rdL bs.length) (apsP (List.drop 0 bs) (rdL bs.length) 0 8)) 7 cwNs))) []))) (.need (¬(1000 : Int) = (0 : Int)) (.need ((apsL (List.drop (0 : Nat) bs) (rdL bs.length) (0 : Int) (8 : Int)).length * (2 : Nat) ≤ (List.drop (0 : Nat) (flat (apsL (List.drop (0 : Nat) bs) (rdL bs.length) (0 : Int) (8 : Int)))).length) (.need ((apsL (List.drop (0 : Nat) bs) (rdL bs.length) (0 : Int) (8 : Int)).length ≤ (1000000000 : Nat)) (brT (decide (cwV (ptsA (apsL (List.drop 0 bs) (rdL bs.length) 0 8).length (List.drop 0 (flat (apsL (List.drop 0 bs) (rdL bs.length) 0 8)))) (apX (List.drop 0 bs) (rdL bs.length) (apsP (List.drop 0 bs) (rdL bs.length) 0 8)) (apY (List.drop 0 bs) (rdL bs.length) (apsP (List.drop 0 bs) (rdL bs.length) 0 8)) (oneI (List.drop 0 bs) (rdL bs.length) (apP (List.drop 0 bs) (rdL bs.length) (apsP (List.drop 0 bs) (rdL bs.length) 0 8)) 7 cwNs) ≤ cwV (ptsA (apsL (List.drop 0 bs) (rdL bs.length) 0 8).length (List.drop 0 (flat (apsL (List.drop 0 bs) (rdL bs.length) 0 8)))) (apX (List.drop 0 bs) (rdL bs.length) (apsP (List.drop 0 bs) (rdL bs.length) 0 8)) (apY (List.drop 0 bs) (rdL bs.length) (apsP (List.drop 0 bs) (rdL bs.length) 0 8)) (if oneI (List.drop 0 bs) (rdL bs.length) (apP (List.drop 0 bs) (rdL bs.length) (apsP (List.drop 0 bs) (rdL bs.length) 0 8)) 7 cwNs < if 8000000 < IntKind.i64.wrap (IntKind.i64.wrap (oneI (List.drop 0 bs) (rdL bs.length) (apP (List.drop 0 bs) (rdL bs.length) (apsP (List.drop 0 bs) (rdL bs.length) 0 8)) 7 cwNs + 1) + (↑cs.length : Int).tmod 1000) then 8000000 else IntKind.i64.wrap (IntKind.i64.wrap (oneI (List.drop 0 bs) (rdL bs.length) (apP (List.drop 0 bs) (rdL bs.length) (apsP (List.drop 0 bs) (rdL bs.length) 0 8)) 7 cwNs + 1) + (↑cs.length : Int).tmod 1000) then if 8000000 < IntKind.i64.wrap (IntKind.i64.wrap (oneI (List.drop 0 bs) (rdL bs.length) (apP (List.drop 0 bs) (rdL bs.length) (apsP (List.drop 0 bs) (rdL bs.length) 0 8)) 7 cwNs + 1) + (↑cs.length : Int).tmod 1000) then 8000000 else IntKind.i64.wrap (IntKind.i64.wrap (oneI (List.drop 0 bs) (rdL bs.length) (apP (List.drop 0 bs) (rdL bs.length) (apsP (List.drop 0 bs) (rdL bs.length) 0 8)) 7 cwNs + 1) + (↑cs.length : Int).tmod 1000) else oneI (List.drop 0 bs) (rdL bs.length) (apP (List.drop 0 bs) (rdL bs.length) (apsP (List.drop 0 bs) (rdL bs.length) 0 8)) 7 cwNs))) (.need ((apsL (List.drop (0 : Nat) bs) (rdL bs.length) (0 : Int) (8 : Int)).length * (2 : Nat) ≤ (List.drop (0 : Nat) (flat (apsL (List.drop (0 : Nat) bs) (rdL bs.length) (0 : Int) (8 : Int)))).length) (.need ((apsL (List.drop (0 : Nat) bs) (rdL bs.length) (0 : Int) (8 : Int)).length ≤ (1000000000 : Nat)) (brT (cwV (ptsA (apsL (List.drop 0 bs) (rdL bs.length) 0 8).length (List.drop 0 (flat (apsL (List.drop 0 bs) (rdL bs.length) 0 8)))) (apX (List.drop 0 bs) (rdL bs.length) (apsP (List.drop 0 bs) (rdL bs.length) 0 8)) (apY (List.drop 0 bs) (rdL bs.length) (apsP (List.drop 0 bs) (rdL bs.length) 0 8)) 8000000 == (↑(apsL (List.drop 0 bs) (rdL bs.length) 0 8).length : Int)) (.need ((apsL (List.drop (0 : Nat) bs) (rdL bs.length) (0 : Int) (8 : Int)).length * (2 : Nat) ≤ (List.drop (0 : Nat) (flat (apsL (List.drop (0 : Nat) bs) (rdL bs.length) (0 : Int) (8 : Int)))).length) (.need ((apsL (List.drop (0 : Nat) bs) (rdL bs.length) (0 : Int) (8 : Int)).length ≤ (1000000000 : Nat)) (.fin (.bool (cwV (ptsA (apsL (List.drop 0 bs) (rdL bs.length) 0 8).length (List.drop 0 (flat (apsL (List.drop 0 bs) (rdL bs.length) 0 8)))) (apX (List.drop 0 bs) (rdL bs.length) (apsP (List.drop 0 bs) (rdL bs.length) 0 8)) (apY (List.drop 0 bs) (rdL bs.length) (apsP (List.drop 0 bs) (rdL bs.length) 0 8)) (-1) == 0)) []))) (.fin (.bool (false)) [])))) (.fin (.bool (false)) [])))))))))))))) := by kernel_rfl
theorem sq_nonneg (p q : Pt) : 0 ≤ sq p q := by
  unfold sq
  have h : ∀ x : Int, 0 ≤ x * x := fun x => by
    rcases Int.le_total 0 x with k | k
    · exact Int.mul_nonneg k k
    · exact Int.mul_nonneg_of_nonpos_of_nonpos k k
  have := h (p.1 - q.1)
  have := h (p.2 - q.2)
  omega
theorem sq_far {p q : Pt} (hp : vB p = true) (hq : vB q = true) : sq p q ≤ 8000000 := by
  unfold sq
  have h1 : -1000 ≤ p.1 ∧ p.1 ≤ 1000 ∧ -1000 ≤ p.2 ∧ p.2 ≤ 1000 := by simpa [vB, ptB, and_assoc] using hp
  have h2 : -1000 ≤ q.1 ∧ q.1 ≤ 1000 ∧ -1000 ≤ q.2 ∧ q.2 ≤ 1000 := by simpa [vB, ptB, and_assoc] using hq
  have m1 := mul_bd (x := p.1 - q.1) (y := p.1 - q.1) 2000 2000 (by omega) (by omega)
  have m2 := mul_bd (x := p.2 - q.2) (y := p.2 - q.2) 2000 2000 (by omega) (by omega)
  omega
theorem cw_part {ps : List Pt} {x y n n' : Int} (hn : n ≤ n') : cwV ps x y n = -1 ∨ (0 ≤ cwV ps x y n ∧ cwV ps x y n ≤ cwV ps x y n' ∧ cwV ps x y 8000000 = ps.length ∧ cwV ps x y (-1) = 0) := by
  unfold cwV
  rcases h : (okL ps && ptB x y) with _ | _
  · exact .inl rfl
  right
  simp only [cond_true]
  simp only [Bool.and_eq_true, okL] at h
  have hv : ∀ p ∈ ps, vB p = true := List.all_eq_true.1 h.1.1
  unfold cnt
  refine ⟨by omega, ?_, ?_, ?_⟩
  · have := List.countP_mono_left (l := ps) (p := fun p => decide (sq p (x, y) ≤ n)) (q := fun p => decide (sq p (x, y) ≤ n')) (fun p _ hp => by
      simp only [decide_eq_true_eq] at hp ⊢
      omega)
    omega
  · have : ps.countP (fun p => decide (sq p (x, y) ≤ 8000000)) = ps.length := List.countP_eq_length.2 fun p hp => by
      have := sq_far (hv p hp) (q := (x, y)) h.2
      simpa using this
    omega
  · have : ps.countP (fun p => decide (sq p (x, y) ≤ -1)) = 0 := List.countP_eq_zero.2 fun p _ => by
      have := sq_nonneg p (x, y)
      simp
      omega
    omega
theorem law_cw (bs cs : List Int) (hb : Bytes bs) (_ : bs.length ≤ maxLen) (_ : Bytes cs) (_ : cs.length ≤ maxLen) : Res Try.prog 9 [.row bs.length (.bytes bs), .row cs.length (.bytes cs)] (.bool true) := by
  refine bodyV_res mixed ECw_ok (m := 30) (n := 12) rfl ?_
  rw [tr_lCW]
  simp only [List.drop_zero, ptsA_flat, flat_length]
  obtain ⟨_, _, _, hL⟩ := drKey hb (Nat.le_refl _) (l := rdL bs.length) (by unfold rdL; omega) (by unfold rdL; omega) (m := 8) (by omega)
  generalize apsL bs (rdL bs.length) 0 8 = ps at *
  generalize apX bs (rdL bs.length) (apsP bs (rdL bs.length) 0 8) = x
  generalize apY bs (rdL bs.length) (apsP bs (rdL bs.length) 0 8) = y
  generalize oneI bs (rdL bs.length) (apP bs (rdL bs.length) (apsP bs (rdL bs.length) 0 8)) 7 cwNs = n
  generalize (if 8000000 < IntKind.i64.wrap (IntKind.i64.wrap (n + 1) + (cs.length : Int).tmod 1000) then 8000000 else IntKind.i64.wrap (IntKind.i64.wrap (n + 1) + (cs.length : Int).tmod 1000) : Int) = t
  have hn : n ≤ (if n < t then t else n) := by split <;> omega
  have hl : ps.length ≤ 1000000000 := by omega
  rcases cw_part (ps := ps) (x := x) (y := y) hn with h | ⟨h1, h2, h3, h4⟩
  · simp [brT_ok, Tree.ok, hb, h, hl]
  · have nn : ¬ cwV ps x y n < 0 := by omega
    simp [brT_ok, Tree.ok, hb, hl, h2, h3, h4, nn]
end Go.Proofs.Ytfjcbindeimoiab
