/-
  Laws of Manhattan. Written by an AI agent.
-/
import Derived.Test.YtfjcbindeimoiaaMatE
namespace Go.Proofs.Ytfjcbindeimoiaa
open Go.RowKit
set_option maxRecDepth 100000 in
theorem tr_lMh (bs : List Int) : bodyV Try.prog (tabE TLm) 30 12 11 [.row bs.length (.bytes bs)] = brT (decide (1048576 < (↑bs.length : Int))) (.fin (.bool (true)) []) (.need (Bytes (List.drop (0 : Nat) bs)) (.need (bs.length ≤ (List.drop (0 : Nat) bs).length) (brT (!mhR (d3 (List.drop 0 bs) bs.length 0) (d3 (List.drop 0 bs) bs.length 1) (d3 (List.drop 0 bs) bs.length 2) (d3 (List.drop 0 bs) bs.length 3) == mhR (d3 (List.drop 0 bs) bs.length 0) (d3 (List.drop 0 bs) bs.length 1) (d3 (List.drop 0 bs) bs.length 2) (d3 (List.drop 0 bs) bs.length 3)) (.fin (.bool (mhR (d3 (List.drop 0 bs) bs.length 0) (d3 (List.drop 0 bs) bs.length 1) (d3 (List.drop 0 bs) bs.length 2) (d3 (List.drop 0 bs) bs.length 3) == mhR (d3 (List.drop 0 bs) bs.length 0) (d3 (List.drop 0 bs) bs.length 1) (d3 (List.drop 0 bs) bs.length 2) (d3 (List.drop 0 bs) bs.length 3))) []) (brT (decide (mhR (d3 (List.drop 0 bs) bs.length 0) (d3 (List.drop 0 bs) bs.length 1) (d3 (List.drop 0 bs) bs.length 2) (d3 (List.drop 0 bs) bs.length 3) < 0)) (.fin (.bool (mhR (d3 (List.drop 0 bs) bs.length 0) (d3 (List.drop 0 bs) bs.length 1) (d3 (List.drop 0 bs) bs.length 2) (d3 (List.drop 0 bs) bs.length 3) == mhR (d3 (List.drop 0 bs) bs.length 0) (d3 (List.drop 0 bs) bs.length 1) (d3 (List.drop 0 bs) bs.length 2) (d3 (List.drop 0 bs) bs.length 3))) []) (brT (mhR (d3 (List.drop 0 bs) bs.length 2) (d3 (List.drop 0 bs) bs.length 3) (d3 (List.drop 0 bs) bs.length 0) (d3 (List.drop 0 bs) bs.length 1) == mhR (d3 (List.drop 0 bs) bs.length 0) (d3 (List.drop 0 bs) bs.length 1) (d3 (List.drop 0 bs) bs.length 2) (d3 (List.drop 0 bs) bs.length 3)) (brT ((mhR (d3 (List.drop 0 bs) bs.length 0) (d3 (List.drop 0 bs) bs.length 1) (d3 (List.drop 0 bs) bs.length 2) (d3 (List.drop 0 bs) bs.length 3) == 0) == negB false (d3 (List.drop 0 bs) bs.length 0 == d3 (List.drop 0 bs) bs.length 2 && (d3 (List.drop 0 bs) bs.length 1 == d3 (List.drop 0 bs) bs.length 3 && true))) (brT (decide (sqJ (d3 (List.drop 0 bs) bs.length 0) (d3 (List.drop 0 bs) bs.length 1) (d3 (List.drop 0 bs) bs.length 2) (d3 (List.drop 0 bs) bs.length 3) ≤ IntKind.i64.wrap (mhR (d3 (List.drop 0 bs) bs.length 0) (d3 (List.drop 0 bs) bs.length 1) (d3 (List.drop 0 bs) bs.length 2) (d3 (List.drop 0 bs) bs.length 3) * mhR (d3 (List.drop 0 bs) bs.length 0) (d3 (List.drop 0 bs) bs.length 1) (d3 (List.drop 0 bs) bs.length 2) (d3 (List.drop 0 bs) bs.length 3)))) (.fin (.bool (decide (IntKind.i64.wrap (mhR (d3 (List.drop 0 bs) bs.length 0) (d3 (List.drop 0 bs) bs.length 1) (d3 (List.drop 0 bs) bs.length 2) (d3 (List.drop 0 bs) bs.length 3) * mhR (d3 (List.drop 0 bs) bs.length 0) (d3 (List.drop 0 bs) bs.length 1) (d3 (List.drop 0 bs) bs.length 2) (d3 (List.drop 0 bs) bs.length 3)) ≤ IntKind.i64.wrap (2 * sqJ (d3 (List.drop 0 bs) bs.length 0) (d3 (List.drop 0 bs) bs.length 1) (d3 (List.drop 0 bs) bs.length 2) (d3 (List.drop 0 bs) bs.length 3))))) []) (.fin (.bool (false)) [])) (.fin (.bool (false)) [])) (.fin (.bool (false)) [])))))) := by kernel_rfl
set_option maxRecDepth 100000 in
theorem tr_lMt (bs cs : List Int) : bodyV Try.prog (tabE TLm) 30 12 12 [.row bs.length (.bytes bs), .row cs.length (.bytes cs)] = brT (decide (1048576 < (↑bs.length : Int))) (.fin (.bool (true)) []) (brT (decide (1048576 < (↑cs.length : Int))) (.fin (.bool (true)) []) (.need (Bytes (List.drop (0 : Nat) bs)) (.need (bs.length ≤ (List.drop (0 : Nat) bs).length) (.need (¬(40 : Int) = (0 : Int)) (.need (¬(3 : Int) = (0 : Int)) (.need (¬(40 : Int) = (0 : Int)) (brT (!mhR (d3 (List.drop 0 bs) bs.length 0) (d3 (List.drop 0 bs) bs.length 1) (d3 (List.drop 0 bs) bs.length 2) (d3 (List.drop 0 bs) bs.length 3) == mhR (d3 (List.drop 0 bs) bs.length 0) (d3 (List.drop 0 bs) bs.length 1) (d3 (List.drop 0 bs) bs.length 2) (d3 (List.drop 0 bs) bs.length 3)) (.fin (.bool (mhR (d3 (List.drop 0 bs) bs.length 0) (d3 (List.drop 0 bs) bs.length 1) (d3 (List.drop 0 bs) bs.length 2) (d3 (List.drop 0 bs) bs.length 3) == mhR (d3 (List.drop 0 bs) bs.length 0) (d3 (List.drop 0 bs) bs.length 1) (d3 (List.drop 0 bs) bs.length 2) (d3 (List.drop 0 bs) bs.length 3))) []) (brT (decide (mhR (d3 (List.drop 0 bs) bs.length 0) (d3 (List.drop 0 bs) bs.length 1) (d3 (List.drop 0 bs) bs.length 2) (d3 (List.drop 0 bs) bs.length 3) < 0)) (.fin (.bool (mhR (d3 (List.drop 0 bs) bs.length 0) (d3 (List.drop 0 bs) bs.length 1) (d3 (List.drop 0 bs) bs.length 2) (d3 (List.drop 0 bs) bs.length 3) == mhR (d3 (List.drop 0 bs) bs.length 0) (d3 (List.drop 0 bs) bs.length 1) (d3 (List.drop 0 bs) bs.length 2) (d3 (List.drop 0 bs) bs.length 3))) []) (brT (decide (mhR (d3 (List.drop 0 bs) bs.length 0) (d3 (List.drop 0 bs) bs.length 1) (d3 (List.drop 0 bs) bs.length 2) (d3 (List.drop 0 bs) bs.length 3) ≤ IntKind.i64.wrap (mhR (d3 (List.drop 0 bs) bs.length 0) (d3 (List.drop 0 bs) bs.length 1) (IntKind.i64.wrap ((↑cs.length : Int).tmod 40 - 20)) (IntKind.i64.wrap ((IntKind.i64.wrap ((↑cs.length : Int).tdiv 3)).tmod 40 - 20)) + mhR (IntKind.i64.wrap ((↑cs.length : Int).tmod 40 - 20)) (IntKind.i64.wrap ((IntKind.i64.wrap ((↑cs.length : Int).tdiv 3)).tmod 40 - 20)) (d3 (List.drop 0 bs) bs.length 2) (d3 (List.drop 0 bs) bs.length 3)))) (.fin (.bool (mhR (d3 (List.drop 0 bs) bs.length 1) (d3 (List.drop 0 bs) bs.length 0) (d3 (List.drop 0 bs) bs.length 3) (d3 (List.drop 0 bs) bs.length 2) == mhR (d3 (List.drop 0 bs) bs.length 0) (d3 (List.drop 0 bs) bs.length 1) (d3 (List.drop 0 bs) bs.length 2) (d3 (List.drop 0 bs) bs.length 3))) []) (.fin (.bool (false)) [])))))))))) := by kernel_rfl
theorem nT (b : Bool) : negB true b = !b := by cases b <;> rfl
theorem nF (b : Bool) : negB false b = b := by cases b <;> rfl
theorem mhR_no {a b c d : Int} (h : (ptB a b && ptB c d) = false) : mhR a b c d = -1 := by unfold mhR; rw [h]; rfl
theorem mhR_yes {a b c d : Int} (h : (ptB a b && ptB c d) = true) : mhR a b c d = mhI a b c d := by unfold mhR; rw [h]; rfl
theorem mh_part (a b c d : Int) : mhR a b c d = -1 ∨ (0 ≤ mhR a b c d ∧ mhR a b c d ≤ 4000 ∧ (mhR a b c d = 0 ↔ a = c ∧ b = d) ∧ mhR c d a b = mhR a b c d ∧ sqJ a b c d ≤ mhR a b c d * mhR a b c d ∧ mhR a b c d * mhR a b c d ≤ 2 * sqJ a b c d ∧ sqJ a b c d ≤ 8000000) := by
  rcases h : (ptB a b && ptB c d) with _ | _
  · exact .inl (mhR_no h)
  right
  have h' : (ptB c d && ptB a b) = true := by rw [Bool.and_comm]; exact h
  rw [mhR_yes h, mhR_yes h']
  have hs : sqJ a b c d = (a - c) * (a - c) + (b - d) * (b - d) := by unfold sqJ; rw [h]; rfl
  rw [hs]
  simp only [Bool.and_eq_true] at h
  have p1 := ptB_is h.1
  have p2 := ptB_is h.2
  unfold mhI
  have ex : (a - c) * (a - c) = ((a - c).natAbs : Int) * ((a - c).natAbs : Int) := (Int.natAbs_mul_self' (a - c)).symm
  have ey : (b - d) * (b - d) = ((b - d).natAbs : Int) * ((b - d).natAbs : Int) := (Int.natAbs_mul_self' (b - d)).symm
  rw [ex, ey]
  have c1 : ((c - a).natAbs : Int) = ((a - c).natAbs : Int) := by omega
  have c2 : ((d - b).natAbs : Int) = ((b - d).natAbs : Int) := by omega
  rw [c1, c2]
  have z1 : ((a - c).natAbs : Int) = 0 ↔ a = c := by omega
  have z2 : ((b - d).natAbs : Int) = 0 ↔ b = d := by omega
  have b1 : 0 ≤ ((a - c).natAbs : Int) ∧ ((a - c).natAbs : Int) ≤ 2000 := by omega
  have b2 : 0 ≤ ((b - d).natAbs : Int) ∧ ((b - d).natAbs : Int) ≤ 2000 := by omega
  clear ex ey c1 c2 hs
  generalize ((a - c).natAbs : Int) = x at *
  generalize ((b - d).natAbs : Int) = y at *
  have e1 : (x + y) * (x + y) = x * x + y * y + 2 * (x * y) := by grind
  have e2 : (x - y) * (x - y) = x * x + y * y - 2 * (x * y) := by grind
  have e3 : 0 ≤ (x - y) * (x - y) := by
    rcases Int.le_total 0 (x - y) with k | k
    · exact Int.mul_nonneg k k
    · exact Int.mul_nonneg_of_nonpos_of_nonpos k k
  have e4 : 0 ≤ x * y := Int.mul_nonneg b1.1 b2.1
  have m1 := mul_bd (x := x) (y := x) 2000 2000 (by omega) (by omega)
  have m2 := mul_bd (x := y) (y := y) 2000 2000 (by omega) (by omega)
  refine ⟨by omega, by omega, ⟨fun k => ⟨z1.1 (by omega), z2.1 (by omega)⟩, fun k => ?_⟩, rfl, by omega, by omega, by omega⟩
  have := z1.2 k.1
  have := z2.2 k.2
  omega
theorem law_mh (bs : List Int) (hb : Bytes bs) (_ : bs.length ≤ maxLen) : Res Try.prog 11 [.row bs.length (.bytes bs)] (.bool true) := by
  refine bodyV_res mixed (tabE_ok TLm_ok) (m := 30) (n := 12) rfl ?_
  rw [tr_lMh]
  simp only [List.drop_zero]
  generalize d3 bs bs.length 0 = a
  generalize d3 bs bs.length 1 = b
  generalize d3 bs bs.length 2 = c
  generalize d3 bs bs.length 3 = d
  rcases mh_part a b c d with h | ⟨h1, h2, h3, h4, h5, h6, h7⟩
  · simp [brT_ok, Tree.ok, hb, h]
  · have m := mul_bd (x := mhR a b c d) (y := mhR a b c d) 4000 4000 (by omega) (by omega)
    have w1 : IntKind.i64.wrap (mhR a b c d * mhR a b c d) = mhR a b c d * mhR a b c d := wr (by omega)
    have w2 : IntKind.i64.wrap (2 * sqJ a b c d) = 2 * sqJ a b c d := wr (by omega)
    have e : (mhR a b c d == 0) = (a == c && b == d) := by
      rw [Bool.eq_iff_iff]
      simpa using h3
    have nn : ¬ mhR a b c d < 0 := by omega
    simp [brT_ok, Tree.ok, nF, hb, h4, w1, w2, e, h5, h6, nn]
theorem mh_tri (a b c d x y : Int) (h : ¬ mhR a b c d < 0) (hp : ptB x y = true) : mhR a b c d ≤ mhR a b x y + mhR x y c d ∧ mhR a b x y + mhR x y c d ≤ 8000 ∧ 0 ≤ mhR a b x y + mhR x y c d ∧ mhR b a d c = mhR a b c d := by
  rcases k : (ptB a b && ptB c d) with _ | _
  · rw [mhR_no k] at h; omega
  simp only [Bool.and_eq_true] at k
  have p1 := ptB_is k.1
  have p2 := ptB_is k.2
  have p3 := ptB_is hp
  have s1 : ptB b a = true := by unfold ptB; simp; omega
  have s2 : ptB d c = true := by unfold ptB; simp; omega
  rw [mhR_yes (by rw [k.1, k.2]; rfl), mhR_yes (by rw [k.1, hp]; rfl), mhR_yes (by rw [k.2, hp]; rfl), mhR_yes (by rw [s1, s2]; rfl)]
  unfold mhI
  omega
theorem law_mt (bs cs : List Int) (hb : Bytes bs) (_ : bs.length ≤ maxLen) (_ : Bytes cs) (hl : cs.length ≤ maxLen) : Res Try.prog 12 [.row bs.length (.bytes bs), .row cs.length (.bytes cs)] (.bool true) := by
  refine bodyV_res mixed (tabE_ok TLm_ok) (m := 30) (n := 12) rfl ?_
  rw [tr_lMt]
  simp only [List.drop_zero]
  generalize d3 bs bs.length 0 = a
  generalize d3 bs bs.length 1 = b
  generalize d3 bs bs.length 2 = c
  generalize d3 bs bs.length 3 = d
  have hl : (cs.length : Int) ≤ 9223372036854775807 := by
    have : maxLen ≤ 9223372036854775807 := by decide
    omega
  have t0 : (0 : Int) ≤ (cs.length : Int).tdiv 3 ∧ (cs.length : Int).tdiv 3 ≤ cs.length := by
    rw [Int.tdiv_eq_ediv_of_nonneg (by omega)]
    omega
  have w0 : IntKind.i64.wrap ((cs.length : Int).tdiv 3) = (cs.length : Int).tdiv 3 := wr (by omega)
  rw [w0]
  have t1 : (0 : Int) ≤ (cs.length : Int).tmod 40 ∧ (cs.length : Int).tmod 40 < 40 := ⟨Int.tmod_nonneg _ (by omega), Int.tmod_lt_of_pos _ (by omega)⟩
  have t2 : (0 : Int) ≤ ((cs.length : Int).tdiv 3).tmod 40 ∧ ((cs.length : Int).tdiv 3).tmod 40 < 40 := ⟨Int.tmod_nonneg _ t0.1, Int.tmod_lt_of_pos _ (by omega)⟩
  generalize ((cs.length : Int).tdiv 3).tmod 40 = v at *
  generalize (cs.length : Int).tmod 40 = u at *
  rw [wr (x := u - 20) (by omega), wr (x := v - 20) (by omega)]
  have hp : ptB (u - 20) (v - 20) = true := by unfold ptB; simp; omega
  by_cases hn : mhR a b c d < 0
  · simp [brT_ok, Tree.ok, hb, hn]
  · obtain ⟨k1, k2, k3, k4⟩ := mh_tri a b c d _ _ hn hp
    have w : IntKind.i64.wrap (mhR a b (u - 20) (v - 20) + mhR (u - 20) (v - 20) c d) = mhR a b (u - 20) (v - 20) + mhR (u - 20) (v - 20) c d := wr (by omega)
    simp [brT_ok, Tree.ok, hb, w, k1, k4, hn]
end Go.Proofs.Ytfjcbindeimoiaa
