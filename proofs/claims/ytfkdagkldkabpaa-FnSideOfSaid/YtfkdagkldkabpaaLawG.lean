/-
  The law of the sides of a drawn line. Written by an AI agent.
-/
import Derived.Test.YtfkdagkldkabpaaRdH
namespace Go.Proofs.Ytfkdagkldkabpaa
open Go.RowKit
def TS : Tab := fun f ds => match f with
  | 48 => pDSide ds
  | _ => TT2 f ds
theorem TS_ok : TabOk Try.prog TS := by
  intro f ds v C h hC
  unfold TS at h
  split at h
  · unfold pDSide at h
    split at h
    · obtain ⟨rfl, rfl⟩ : _ ∧ _ := by simpa using h
      exact res_dSide _ _ hC.1 hC.2.1
    · cases h
  · exact TT2_ok _ _ _ _ h hC
set_option maxRecDepth 100000 in
theorem tr_lSide (bs cs : List Int) : bodyV Try.prog (tabE TS) 30 12 13 [.row bs.length (.bytes bs), .row cs.length (.bytes cs)] = brT (decide (1048576 < (↑bs.length : Int))) (.fin (.bool (true)) []) (brT (decide (1048576 < (↑cs.length : Int))) (.fin (.bool (true)) []) (.need (Bytes (List.drop (0 : Nat) bs)) (.need (bs.length ≤ (List.drop (0 : Nat) bs).length) (.need (Bytes (List.drop (0 : Nat) cs)) (.need (cs.length ≤ (List.drop (0 : Nat) cs).length) (brT (!sideR (dsd (List.drop 0 bs) (rdL bs.length) 0) (dsd (List.drop 0 bs) (rdL bs.length) 1) (dsd (List.drop 0 bs) (rdL bs.length) 2) (dsd (List.drop 0 bs) (rdL bs.length) 3) (dsd (List.drop 0 bs) (rdL bs.length) 4) == sideR (dsd (List.drop 0 bs) (rdL bs.length) 0) (dsd (List.drop 0 bs) (rdL bs.length) 1) (dsd (List.drop 0 bs) (rdL bs.length) 2) (dsd (List.drop 0 bs) (rdL bs.length) 3) (dsd (List.drop 0 bs) (rdL bs.length) 4)) (.fin (.bool (sideR (dsd (List.drop 0 bs) (rdL bs.length) 0) (dsd (List.drop 0 bs) (rdL bs.length) 1) (dsd (List.drop 0 bs) (rdL bs.length) 2) (dsd (List.drop 0 bs) (rdL bs.length) 3) (dsd (List.drop 0 bs) (rdL bs.length) 4) == sideR (dsd (List.drop 0 bs) (rdL bs.length) 0) (dsd (List.drop 0 bs) (rdL bs.length) 1) (dsd (List.drop 0 bs) (rdL bs.length) 2) (dsd (List.drop 0 bs) (rdL bs.length) 3) (dsd (List.drop 0 bs) (rdL bs.length) 4))) []) (brT (!ptB (dsd (List.drop 0 bs) (rdL bs.length) 3) (dsd (List.drop 0 bs) (rdL bs.length) 4)) (.fin (.bool (sideR (dsd (List.drop 0 bs) (rdL bs.length) 0) (dsd (List.drop 0 bs) (rdL bs.length) 1) (dsd (List.drop 0 bs) (rdL bs.length) 2) (dsd (List.drop 0 bs) (rdL bs.length) 3) (dsd (List.drop 0 bs) (rdL bs.length) 4) == sideR (dsd (List.drop 0 bs) (rdL bs.length) 0) (dsd (List.drop 0 bs) (rdL bs.length) 1) (dsd (List.drop 0 bs) (rdL bs.length) 2) (dsd (List.drop 0 bs) (rdL bs.length) 3) (dsd (List.drop 0 bs) (rdL bs.length) 4))) []) (brT (!thO (d3 (List.drop 0 cs) cs.length 0) (d3 (List.drop 0 cs) cs.length 1) (d3 (List.drop 0 cs) cs.length 2) (d3 (List.drop 0 cs) cs.length 3)) (.fin (.bool (sideR (dsd (List.drop 0 bs) (rdL bs.length) 0) (dsd (List.drop 0 bs) (rdL bs.length) 1) (dsd (List.drop 0 bs) (rdL bs.length) 2) (dsd (List.drop 0 bs) (rdL bs.length) 3) (dsd (List.drop 0 bs) (rdL bs.length) 4) == sideR (dsd (List.drop 0 bs) (rdL bs.length) 0) (dsd (List.drop 0 bs) (rdL bs.length) 1) (dsd (List.drop 0 bs) (rdL bs.length) 2) (dsd (List.drop 0 bs) (rdL bs.length) 3) (dsd (List.drop 0 bs) (rdL bs.length) 4))) []) (brT ((orientR (d3 (List.drop 0 cs) cs.length 0) (d3 (List.drop 0 cs) cs.length 1) (d3 (List.drop 0 cs) cs.length 2) (d3 (List.drop 0 cs) cs.length 3) (dsd (List.drop 0 bs) (rdL bs.length) 3) (dsd (List.drop 0 bs) (rdL bs.length) 4) == 0) == (sideR (thP (d3 (List.drop 0 cs) cs.length 0) (d3 (List.drop 0 cs) cs.length 1) (d3 (List.drop 0 cs) cs.length 2) (d3 (List.drop 0 cs) cs.length 3) 0) (thP (d3 (List.drop 0 cs) cs.length 0) (d3 (List.drop 0 cs) cs.length 1) (d3 (List.drop 0 cs) cs.length 2) (d3 (List.drop 0 cs) cs.length 3) 1) (thP (d3 (List.drop 0 cs) cs.length 0) (d3 (List.drop 0 cs) cs.length 1) (d3 (List.drop 0 cs) cs.length 2) (d3 (List.drop 0 cs) cs.length 3) 2) (dsd (List.drop 0 bs) (rdL bs.length) 3) (dsd (List.drop 0 bs) (rdL bs.length) 4) == 0)) (brT (!ptB (IntKind.i64.wrap (d3 (List.drop 0 cs) cs.length 0 - IntKind.i64.wrap (d3 (List.drop 0 cs) cs.length 3 - d3 (List.drop 0 cs) cs.length 1))) (IntKind.i64.wrap (IntKind.i64.wrap (d3 (List.drop 0 cs) cs.length 1 + d3 (List.drop 0 cs) cs.length 2) - d3 (List.drop 0 cs) cs.length 0))) (.fin (.bool (true)) []) (.fin (.bool (sideR (thP (d3 (List.drop 0 cs) cs.length 0) (d3 (List.drop 0 cs) cs.length 1) (d3 (List.drop 0 cs) cs.length 2) (d3 (List.drop 0 cs) cs.length 3) 0) (thP (d3 (List.drop 0 cs) cs.length 0) (d3 (List.drop 0 cs) cs.length 1) (d3 (List.drop 0 cs) cs.length 2) (d3 (List.drop 0 cs) cs.length 3) 1) (thP (d3 (List.drop 0 cs) cs.length 0) (d3 (List.drop 0 cs) cs.length 1) (d3 (List.drop 0 cs) cs.length 2) (d3 (List.drop 0 cs) cs.length 3) 2) (dsd (List.drop 0 bs) (rdL bs.length) 3) (dsd (List.drop 0 bs) (rdL bs.length) 4) == IntKind.i64.wrap (orientR (d3 (List.drop 0 cs) cs.length 0) (d3 (List.drop 0 cs) cs.length 1) (d3 (List.drop 0 cs) cs.length 2) (d3 (List.drop 0 cs) cs.length 3) (dsd (List.drop 0 bs) (rdL bs.length) 3) (dsd (List.drop 0 bs) (rdL bs.length) 4) * sideR (thP (d3 (List.drop 0 cs) cs.length 0) (d3 (List.drop 0 cs) cs.length 1) (d3 (List.drop 0 cs) cs.length 2) (d3 (List.drop 0 cs) cs.length 3) 0) (thP (d3 (List.drop 0 cs) cs.length 0) (d3 (List.drop 0 cs) cs.length 1) (d3 (List.drop 0 cs) cs.length 2) (d3 (List.drop 0 cs) cs.length 3) 1) (thP (d3 (List.drop 0 cs) cs.length 0) (d3 (List.drop 0 cs) cs.length 1) (d3 (List.drop 0 cs) cs.length 2) (d3 (List.drop 0 cs) cs.length 3) 2) (IntKind.i64.wrap (d3 (List.drop 0 cs) cs.length 0 - IntKind.i64.wrap (d3 (List.drop 0 cs) cs.length 3 - d3 (List.drop 0 cs) cs.length 1))) (IntKind.i64.wrap (IntKind.i64.wrap (d3 (List.drop 0 cs) cs.length 1 + d3 (List.drop 0 cs) cs.length 2) - d3 (List.drop 0 cs) cs.length 0))))) [])) (.fin (.bool (false)) [])))))))))) := by kernel_rfl
theorem sgn_eq_zero {n : Int} : sgn n = 0 ↔ n = 0 := by have := sgn_cases n; omega
theorem side_part {a b c d p q : Int} (hO : thO a b c d = true) (hp : ptB p q = true) :
    (orientR a b c d p q = 0 ↔ sideR (thP a b c d 0) (thP a b c d 1) (thP a b c d 2) p q = 0) ∧
    (-1 ≤ orientR a b c d p q ∧ orientR a b c d p q ≤ 1) ∧
    (ptB (a - (d - b)) (b + c - a) = true → sideR (thP a b c d 0) (thP a b c d 1) (thP a b c d 2) p q = orientR a b c d p q * sideR (thP a b c d 0) (thP a b c d 1) (thP a b c d 2) (a - (d - b)) (b + c - a) ∧
      (-1 ≤ sideR (thP a b c d 0) (thP a b c d 1) (thP a b c d 2) (a - (d - b)) (b + c - a) ∧ sideR (thP a b c d 0) (thP a b c d 1) (thP a b c d 2) (a - (d - b)) (b + c - a) ≤ 1)) := by
  obtain ⟨g, s, hg, hs, k1, k2, k3, k4, k5, k6⟩ := th_spec hO
  rw [thO_is] at hO
  obtain ⟨_, _, h3⟩ := and3 hO
  have h3 : eqB a b c d = false := by simpa using h3
  obtain ⟨_, _, _, _, b5⟩ := thru_bd k5 k6 h3
  rw [orientR_yes (by rw [k5, k6, hp]; rfl), sideR_yes (by rw [k4, hp]; rfl)]
  generalize thP a b c d 0 = A at *
  generalize thP a b c d 1 = B at *
  generalize thP a b c d 2 = C at *
  have e1 : (A * p + B * q - C) * g = -s * crossI a b c d p q := by unfold crossI; grind
  have t1 := tri (x := A * p + B * q - C) hg
  have c1 := sgn_cases (A * p + B * q - C)
  have c2 := sgn_cases (crossI a b c d p q)
  rw [e1] at t1
  refine ⟨?_, by omega, fun hl => ?_⟩
  · rcases hs with rfl | rfl <;> omega
  · rw [sideR_yes (by rw [k4, hl]; rfl)]
    have e2 : (A * (a - (d - b)) + B * (b + c - a) - C) * g = -s * ((d - b) * (d - b) + (a - c) * (a - c)) := by grind
    have t2 := tri (x := A * (a - (d - b)) + B * (b + c - a) - C) hg
    have c3 := sgn_cases (A * (a - (d - b)) + B * (b + c - a) - C)
    rw [e2] at t2
    have sq1 : 0 ≤ (d - b) * (d - b) := by
      rcases Int.le_total 0 (d - b) with h | h
      · exact Int.mul_nonneg h h
      · exact Int.mul_nonneg_of_nonpos_of_nonpos h h
    have sq2 : 0 ≤ (a - c) * (a - c) := by
      rcases Int.le_total 0 (a - c) with h | h
      · exact Int.mul_nonneg h h
      · exact Int.mul_nonneg_of_nonpos_of_nonpos h h
    have pos : 0 < (d - b) * (d - b) + (a - c) * (a - c) := by
      rcases b5 with h | h
      · have : (d - b) * (d - b) ≠ 0 := fun e => h (by rcases Int.mul_eq_zero.1 e with e | e <;> exact e)
        omega
      · have : (a - c) * (a - c) ≠ 0 := fun e => h (by rcases Int.mul_eq_zero.1 e with e | e <;> exact e)
        omega
    generalize (d - b) * (d - b) + (a - c) * (a - c) = z at *
    generalize crossI a b c d p q = o at *
    generalize A * p + B * q - C = u at *
    generalize A * (a - (d - b)) + B * (b + c - a) - C = v at *
    have hv : sgn v = -s := by rcases hs with rfl | rfl <;> omega
    rw [hv]
    rcases hs with rfl | rfl
    · exact ⟨by omega, by omega⟩
    · exact ⟨by omega, by omega⟩
theorem law_side (bs cs : List Int) (hb : Bytes bs) (_ : bs.length ≤ maxLen) (hc : Bytes cs) (_ : cs.length ≤ maxLen) : Res Try.prog 13 [.row bs.length (.bytes bs), .row cs.length (.bytes cs)] (.bool true) := by
  refine bodyV_res mixed (tabE_ok TS_ok) (m := 30) (n := 12) rfl ?_
  rw [tr_lSide]
  simp only [List.drop_zero]
  generalize dsd bs (rdL bs.length) 0 = l0
  generalize dsd bs (rdL bs.length) 1 = l1
  generalize dsd bs (rdL bs.length) 2 = l2
  generalize dsd bs (rdL bs.length) 3 = p
  generalize dsd bs (rdL bs.length) 4 = q
  generalize d3 cs cs.length 0 = a
  generalize d3 cs cs.length 1 = b
  generalize d3 cs cs.length 2 = c
  generalize d3 cs cs.length 3 = d
  rcases hp : ptB p q with _ | _
  · simp [brT_ok, Tree.ok, hb, hc]
  rcases hO : thO a b c d with _ | _
  · simp [brT_ok, Tree.ok, hb, hc]
  obtain ⟨_, _, _, _, _, _, _, _, k5, k6⟩ := th_spec hO
  have a1 := ptB_true k5
  have a2 := ptB_true k6
  obtain ⟨h1, h2, h3⟩ := side_part hO hp
  have w1 : IntKind.i64.wrap (d - b) = d - b := wr (by omega)
  have w2 : IntKind.i64.wrap (a - (d - b)) = a - (d - b) := wr (by omega)
  have w3 : IntKind.i64.wrap (b + c) = b + c := wr (by omega)
  have w4 : IntKind.i64.wrap (b + c - a) = b + c - a := wr (by omega)
  rcases hl : ptB (a - (d - b)) (b + c - a) with _ | _
  · simp [brT_ok, Tree.ok, hb, hc, w1, w2, w3, w4, hl]
    grind
  · obtain ⟨m1, m2⟩ := h3 hl
    generalize hz : sideR (thP a b c d 0) (thP a b c d 1) (thP a b c d 2) (a - (d - b)) (b + c - a) = z at *
    generalize orientR a b c d p q = o at *
    have m3 := prod_bd (x := o) (y := z) 1 1 (by omega) (by omega)
    have w5 : IntKind.i64.wrap (o * z) = o * z := wr (by omega)
    rw [← m1] at w5
    have hbq : (o == 0) = (sideR (thP a b c d 0) (thP a b c d 1) (thP a b c d 2) p q == 0) := by
      rw [Bool.eq_iff_iff]
      simpa using h1
    simp [brT_ok, Tree.ok, hb, hc, w1, w2, w3, w4, hl, hbq, hz, ← m1, w5]
end Go.Proofs.Ytfkdagkldkabpaa
