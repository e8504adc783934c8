/-
  The law of products with sums. Written by an AI agent.
-/
import Derived.Test.YtoleenohcidegaaLawH
namespace Go.Proofs.Ytoleenohcidegaa
open Go.RowKit
theorem cop_mul {a b c d : Int} (h1 : gI a c = 1) (h2 : gI a d = 1) (h3 : gI b c = 1) (h4 : gI b d = 1) : gI (a * b) (c * d) = 1 := by
  have k1 : Nat.Coprime a.natAbs c.natAbs := (coprime_of h1).symm
  have k2 : Nat.Coprime a.natAbs d.natAbs := (coprime_of h2).symm
  have k3 : Nat.Coprime b.natAbs c.natAbs := (coprime_of h3).symm
  have k4 : Nat.Coprime b.natAbs d.natAbs := (coprime_of h4).symm
  have k : Nat.Coprime (a.natAbs * b.natAbs) (c.natAbs * d.natAbs) := (k1.mul_right k2).mul_left (k3.mul_right k4)
  unfold gI Int.gcd
  rw [Int.natAbs_mul, Int.natAbs_mul, k]
  rfl
theorem cop_dvd {a c a' c' : Int} (h : gI a c = 1) (h1 : a' ∣ a) (h2 : c' ∣ c) : gI a' c' = 1 := by
  have k : Nat.Coprime a.natAbs c.natAbs := (coprime_of h).symm
  have k := (k.coprime_dvd_left (Int.natAbs_dvd_natAbs.2 h1)).coprime_dvd_right (Int.natAbs_dvd_natAbs.2 h2)
  unfold gI Int.gcd
  rw [k]
  rfl
/-- The product of small fractions. -/
theorem mul_val {an ad bn bd : Int} (ha : ratB an ad = true) (hb : ratB bn bd = true) (h1 : -100000000000 ≤ an * bn ∧ an * bn ≤ 100000000000) (h2 : ad * bd ≤ 20000000) :
    mulB an ad bn bd = true ∧ mulN an ad bn bd * (ad * bd) = an * bn * mulD an ad bn bd ∧ ratB (mulN an ad bn bd) (mulD an ad bn bd) = true := by
  obtain ⟨a1, a2, a3, a4, a5⟩ := ratB_true ha
  obtain ⟨b1, b2, b3, b4, b5⟩ := ratB_true hb
  obtain ⟨g1, p1, u1, v1⟩ := q_spec (n := an) (d := bd) (by omega)
  obtain ⟨g2, p2, u2, v2⟩ := q_spec (n := bn) (d := ad) (by omega)
  have l1 := q_low (n := an) (d := bd) (by omega)
  have l2 := q_low (n := bn) (d := ad) (by omega)
  generalize hx : qN an bd = x at *
  generalize hy : qN bn ad = y at *
  generalize hz : qD an bd = z at *
  generalize hw : qD bn ad = w at *
  have dx : x ∣ an := ⟨g1, u1.symm⟩
  have dy : y ∣ bn := ⟨g2, u2.symm⟩
  have dz : z ∣ bd := ⟨g1, v1.symm⟩
  have dw : w ∣ ad := ⟨g2, v2.symm⟩
  have hg : gI (x * y) (z * w) = 1 := cop_mul l1.1 (cop_dvd a5 dx dw) (cop_dvd b5 dy dz) l2.1
  have e1 : an * bn = x * y * (g1 * g2) := by rw [← u1, ← u2]; grind
  have e2 : ad * bd = z * w * (g1 * g2) := by rw [← v1, ← v2]; grind
  have hG : 0 < g1 * g2 := Int.mul_pos p1 p2
  have hzw : 0 < z * w := Int.mul_pos (by omega) (by omega)
  have hab : 0 < ad * bd := Int.mul_pos (by omega) (by omega)
  have n1 : (x * y).natAbs ≤ (an * bn).natAbs := by
    rw [e1, Int.natAbs_mul (x * y)]
    exact Nat.le_mul_of_pos_right _ (by omega)
  have n2 : (z * w).natAbs ≤ (ad * bd).natAbs := by
    rw [e2, Int.natAbs_mul (z * w)]
    exact Nat.le_mul_of_pos_right _ (by omega)
  have hxy : -100000000000 ≤ x * y ∧ x * y ≤ 100000000000 := by omega
  have hz2 : 1 ≤ z * w ∧ z * w ≤ 20000000 := by omega
  have hr : ratB (x * y) (z * w) = true := decide_eq_true ⟨hxy.1, hxy.2, hz2.1, hz2.2, hg⟩
  have hA : mulA an ad bn bd = true := by
    rw [mulA_yes (by rw [ha, hb]; rfl), hx, hy]
    by_cases hx0 : x = 0
    · exact mulC_zero hx0
    · refine mulC_yes ?_
      have q1 : (y.natAbs : Int) ≤ 100000000000 / (x.natAbs : Int) := by
        rw [Int.le_ediv_iff_mul_le (by omega)]
        have : ((x * y).natAbs : Int) = (y.natAbs : Int) * (x.natAbs : Int) := by rw [Int.natAbs_mul, Nat.mul_comm]; simp
        omega
      omega
  obtain ⟨m1, m2, m3⟩ := mul_yes hA
  rw [hx, hy, hz, hw] at m1 m2 m3
  have c1 : cN (x * y) (z * w) = x * y := by unfold cN; rw [hr]; rfl
  have c2 : cD (x * y) (z * w) = z * w := by unfold cD; rw [hr]; rfl
  rw [m1, m2, m3, c1, c2]
  exact ⟨hr, by rw [e1, e2]; grind, hr⟩
theorem add_val {an ad bn bd u v : Int} (ha : ratB an ad = true) (hb : ratB bn bd = true) (hu : ratB u v = true) (h : (an * bd + bn * ad) * v = u * (ad * bd)) : addB an ad bn bd = true ∧ addN an ad bn bd = u ∧ addD an ad bn bd = v := by
  obtain ⟨a1, a2, a3, a4, a5⟩ := ratB_true ha
  obtain ⟨b1, b2, b3, b4, b5⟩ := ratB_true hb
  obtain ⟨c1, c2, c3, c4, c5⟩ := ratB_true hu
  obtain ⟨m1, m2, m3⟩ := add_yes (an := an) (ad := ad) (bn := bn) (bd := bd) (by rw [ha, hb]; rfl)
  obtain ⟨q1, q2⟩ := q_unique (N := an * bd + bn * ad) (M := ad * bd) (Int.mul_pos (by omega) (by omega)) c3 c5 h
  rw [q1, q2] at m1 m2 m3
  have c1 : cN u v = u := by unfold cN; rw [hu]; rfl
  have c2 : cD u v = v := by unfold cD; rw [hu]; rfl
  exact ⟨by rw [m3, hu], by rw [m1, c1], by rw [m2, c2]⟩
/-- The product with a sum. -/
theorem dist_part {an ad bn bd cn cd : Int} (ha : ratB an ad = true) (hb : ratB bn bd = true) (hc : ratB cn cd = true) (a1 : -1000 ≤ an ∧ an ≤ 1000) (b1 : -1000 ≤ bn ∧ bn ≤ 1000) (c1 : -1000 ≤ cn ∧ cn ≤ 1000) (a2 : ad ≤ 100) (b2 : bd ≤ 100) (c2 : cd ≤ 100) :
    addB bn bd cn cd = true ∧ mulB an ad (addN bn bd cn cd) (addD bn bd cn cd) = true ∧ mulB an ad cn cd = true ∧ addB (mulN an ad bn bd) (mulD an ad bn bd) (mulN an ad cn cd) (mulD an ad cn cd) = true ∧
      mulN an ad (addN bn bd cn cd) (addD bn bd cn cd) = addN (mulN an ad bn bd) (mulD an ad bn bd) (mulN an ad cn cd) (mulD an ad cn cd) ∧ mulD an ad (addN bn bd cn cd) (addD bn bd cn cd) = addD (mulN an ad bn bd) (mulD an ad bn bd) (mulN an ad cn cd) (mulD an ad cn cd) := by
  obtain ⟨_, _, a3, _, _⟩ := ratB_true ha
  obtain ⟨_, _, b3, _, _⟩ := ratB_true hb
  obtain ⟨_, _, c3, _, _⟩ := ratB_true hc
  have p1 := mul_bd (x := bn) (y := cd) 1000 100 (by omega) (by omega)
  have p2 := mul_bd (x := cn) (y := bd) 1000 100 (by omega) (by omega)
  have p3 := mul_bd (x := bd) (y := cd) 100 100 (by omega) (by omega)
  have p4 := mul_bd (x := an) (y := bn) 1000 1000 (by omega) (by omega)
  have p5 := mul_bd (x := an) (y := cn) 1000 1000 (by omega) (by omega)
  have p6 := mul_bd (x := ad) (y := bd) 100 100 (by omega) (by omega)
  have p7 := mul_bd (x := ad) (y := cd) 100 100 (by omega) (by omega)
  have hM : 0 < bd * cd := Int.mul_pos (by omega) (by omega)
  obtain ⟨sg, s1, s2, s3⟩ := q_spec (n := bn * cd + cn * bd) (d := bd * cd) hM
  obtain ⟨s4, s5⟩ := q_low (n := bn * cd + cn * bd) (d := bd * cd) hM
  have s6 := qN_bd (num := bn * cd + cn * bd) (den := bd * cd) (M := 200000) (by omega)
  have s7 := qD_bd (num := bn * cd + cn * bd) (den := bd * cd) (M := 10000) (by omega)
  generalize hs : qN (bn * cd + cn * bd) (bd * cd) = s at *
  generalize ht : qD (bn * cd + cn * bd) (bd * cd) = t at *
  have hst : ratB s t = true := decide_eq_true ⟨by omega, by omega, by omega, by omega, s4⟩
  have es : (bn * cd + cn * bd) * t = s * (bd * cd) := by rw [← s2, ← s3]; grind
  obtain ⟨d1, d2, d3⟩ := add_val hb hc hst es
  rw [d2, d3]
  have p8 := mul_bd (x := an) (y := s) 1000 200000 (by omega) (by omega)
  have p9 := mul_bd (x := ad) (y := t) 100 10000 (by omega) (by omega)
  obtain ⟨x1, x2, x3⟩ := mul_val ha hb (by omega) (by omega)
  obtain ⟨y1, y2, y3⟩ := mul_val ha hc (by omega) (by omega)
  obtain ⟨l1, l2, l3⟩ := mul_val ha hst (by omega) (by omega)
  generalize mulN an ad bn bd = xn at *
  generalize mulD an ad bn bd = xd at *
  generalize mulN an ad cn cd = yn at *
  generalize mulD an ad cn cd = yd at *
  generalize mulN an ad s t = ln at *
  generalize mulD an ad s t = ld at *
  have key : (xn * yd + yn * xd) * ld = ln * (xd * yd) := by
    refine Int.eq_of_mul_eq_mul_right (a := ad * (bd * cd) * t) ?_ ?_
    · have := Int.mul_pos (Int.mul_pos (show 0 < ad by omega) hM) (show 0 < t by omega)
      omega
    · calc (xn * yd + yn * xd) * ld * (ad * (bd * cd) * t) = (xn * (ad * bd)) * (yd * cd * t * ld) + (yn * (ad * cd)) * (xd * bd * t * ld) := by grind
        _ = an * xd * yd * ld * ((bn * cd + cn * bd) * t) := by rw [x2, y2]; grind
        _ = (an * s * ld) * (xd * yd * bd * cd) := by rw [es]; grind
        _ = ln * (xd * yd) * (ad * (bd * cd) * t) := by rw [← l2]; grind
  obtain ⟨k1, k2, k3⟩ := add_val x3 y3 l3 key
  exact ⟨d1, l1, y1, k1, k2.symm, k3.symm⟩
set_option maxRecDepth 100000 in
theorem tr_lDist (bs cs : List Int) : bodyV Try.prog EF2 30 12 5 [.row bs.length (.bytes bs), .row cs.length (.bytes cs)] = brT (decide (1048576 < (↑bs.length : Int))) (.fin (.bool (true)) []) (brT (decide (1048576 < (↑cs.length : Int))) (.fin (.bool (true)) []) (.need (Bytes (List.drop (0 : Nat) bs)) (.need (bs.length ≤ (List.drop (0 : Nat) bs).length) (.need (Bytes (List.drop (0 : Nat) cs)) (.need (cs.length ≤ (List.drop (0 : Nat) cs).length) (brT (!mulB (d2r (List.drop 0 bs) bs.length 0) (d2r (List.drop 0 bs) bs.length 1) (d2r (List.drop 0 bs) bs.length 2) (d2r (List.drop 0 bs) bs.length 3) == mulB (d2r (List.drop 0 bs) bs.length 0) (d2r (List.drop 0 bs) bs.length 1) (d2r (List.drop 0 bs) bs.length 2) (d2r (List.drop 0 bs) bs.length 3)) (brT (mulB (d2r (List.drop 0 bs) bs.length 0) (d2r (List.drop 0 bs) bs.length 1) (d2r (List.drop 0 bs) bs.length 2) (d2r (List.drop 0 bs) bs.length 3) == mulB (d2r (List.drop 0 bs) bs.length 0) (d2r (List.drop 0 bs) bs.length 1) (d2r (List.drop 0 bs) bs.length 2) (d2r (List.drop 0 bs) bs.length 3)) (.fin (.bool (negB false (mulN (d2r (List.drop 0 bs) bs.length 0) (d2r (List.drop 0 bs) bs.length 1) (d2r (List.drop 0 bs) bs.length 2) (d2r (List.drop 0 bs) bs.length 3) == mulN (d2r (List.drop 0 bs) bs.length 0) (d2r (List.drop 0 bs) bs.length 1) (d2r (List.drop 0 bs) bs.length 2) (d2r (List.drop 0 bs) bs.length 3) && (mulD (d2r (List.drop 0 bs) bs.length 0) (d2r (List.drop 0 bs) bs.length 1) (d2r (List.drop 0 bs) bs.length 2) (d2r (List.drop 0 bs) bs.length 3) == mulD (d2r (List.drop 0 bs) bs.length 0) (d2r (List.drop 0 bs) bs.length 1) (d2r (List.drop 0 bs) bs.length 2) (d2r (List.drop 0 bs) bs.length 3) && true)))) []) (.fin (.bool (false)) [])) (brT (negB true (mulN (d2r (List.drop 0 bs) bs.length 0) (d2r (List.drop 0 bs) bs.length 1) (d2r (List.drop 0 bs) bs.length 2) (d2r (List.drop 0 bs) bs.length 3) == mulN (d2r (List.drop 0 bs) bs.length 0) (d2r (List.drop 0 bs) bs.length 1) (d2r (List.drop 0 bs) bs.length 2) (d2r (List.drop 0 bs) bs.length 3) && (mulD (d2r (List.drop 0 bs) bs.length 0) (d2r (List.drop 0 bs) bs.length 1) (d2r (List.drop 0 bs) bs.length 2) (d2r (List.drop 0 bs) bs.length 3) == mulD (d2r (List.drop 0 bs) bs.length 0) (d2r (List.drop 0 bs) bs.length 1) (d2r (List.drop 0 bs) bs.length 2) (d2r (List.drop 0 bs) bs.length 3) && true))) (brT (mulB (d2r (List.drop 0 bs) bs.length 0) (d2r (List.drop 0 bs) bs.length 1) (d2r (List.drop 0 bs) bs.length 2) (d2r (List.drop 0 bs) bs.length 3) == mulB (d2r (List.drop 0 bs) bs.length 0) (d2r (List.drop 0 bs) bs.length 1) (d2r (List.drop 0 bs) bs.length 2) (d2r (List.drop 0 bs) bs.length 3)) (.fin (.bool (negB false (mulN (d2r (List.drop 0 bs) bs.length 0) (d2r (List.drop 0 bs) bs.length 1) (d2r (List.drop 0 bs) bs.length 2) (d2r (List.drop 0 bs) bs.length 3) == mulN (d2r (List.drop 0 bs) bs.length 0) (d2r (List.drop 0 bs) bs.length 1) (d2r (List.drop 0 bs) bs.length 2) (d2r (List.drop 0 bs) bs.length 3) && (mulD (d2r (List.drop 0 bs) bs.length 0) (d2r (List.drop 0 bs) bs.length 1) (d2r (List.drop 0 bs) bs.length 2) (d2r (List.drop 0 bs) bs.length 3) == mulD (d2r (List.drop 0 bs) bs.length 0) (d2r (List.drop 0 bs) bs.length 1) (d2r (List.drop 0 bs) bs.length 2) (d2r (List.drop 0 bs) bs.length 3) && true)))) []) (.fin (.bool (false)) [])) (brT (!mulB (d2r (List.drop 0 bs) bs.length 0) (d2r (List.drop 0 bs) bs.length 1) (d2r (List.drop 0 bs) bs.length 2) (d2r (List.drop 0 bs) bs.length 3)) (brT (mulB (d2r (List.drop 0 bs) bs.length 0) (d2r (List.drop 0 bs) bs.length 1) (d2r (List.drop 0 bs) bs.length 2) (d2r (List.drop 0 bs) bs.length 3) == mulB (d2r (List.drop 0 bs) bs.length 0) (d2r (List.drop 0 bs) bs.length 1) (d2r (List.drop 0 bs) bs.length 2) (d2r (List.drop 0 bs) bs.length 3)) (.fin (.bool (negB false (mulN (d2r (List.drop 0 bs) bs.length 0) (d2r (List.drop 0 bs) bs.length 1) (d2r (List.drop 0 bs) bs.length 2) (d2r (List.drop 0 bs) bs.length 3) == mulN (d2r (List.drop 0 bs) bs.length 0) (d2r (List.drop 0 bs) bs.length 1) (d2r (List.drop 0 bs) bs.length 2) (d2r (List.drop 0 bs) bs.length 3) && (mulD (d2r (List.drop 0 bs) bs.length 0) (d2r (List.drop 0 bs) bs.length 1) (d2r (List.drop 0 bs) bs.length 2) (d2r (List.drop 0 bs) bs.length 3) == mulD (d2r (List.drop 0 bs) bs.length 0) (d2r (List.drop 0 bs) bs.length 1) (d2r (List.drop 0 bs) bs.length 2) (d2r (List.drop 0 bs) bs.length 3) && true)))) []) (.fin (.bool (false)) [])) (brT (!ratB (d2r (List.drop 0 cs) cs.length 0) (d2r (List.drop 0 cs) cs.length 1)) (brT (mulB (d2r (List.drop 0 bs) bs.length 0) (d2r (List.drop 0 bs) bs.length 1) (d2r (List.drop 0 bs) bs.length 2) (d2r (List.drop 0 bs) bs.length 3) == mulB (d2r (List.drop 0 bs) bs.length 0) (d2r (List.drop 0 bs) bs.length 1) (d2r (List.drop 0 bs) bs.length 2) (d2r (List.drop 0 bs) bs.length 3)) (.fin (.bool (negB false (mulN (d2r (List.drop 0 bs) bs.length 0) (d2r (List.drop 0 bs) bs.length 1) (d2r (List.drop 0 bs) bs.length 2) (d2r (List.drop 0 bs) bs.length 3) == mulN (d2r (List.drop 0 bs) bs.length 0) (d2r (List.drop 0 bs) bs.length 1) (d2r (List.drop 0 bs) bs.length 2) (d2r (List.drop 0 bs) bs.length 3) && (mulD (d2r (List.drop 0 bs) bs.length 0) (d2r (List.drop 0 bs) bs.length 1) (d2r (List.drop 0 bs) bs.length 2) (d2r (List.drop 0 bs) bs.length 3) == mulD (d2r (List.drop 0 bs) bs.length 0) (d2r (List.drop 0 bs) bs.length 1) (d2r (List.drop 0 bs) bs.length 2) (d2r (List.drop 0 bs) bs.length 3) && true)))) []) (.fin (.bool (false)) [])) (brT (decide (1000 < if d2r (List.drop 0 bs) bs.length 0 < IntKind.i64.wrap (0 - d2r (List.drop 0 bs) bs.length 0) then IntKind.i64.wrap (0 - d2r (List.drop 0 bs) bs.length 0) else d2r (List.drop 0 bs) bs.length 0)) (brT (mulB (d2r (List.drop 0 bs) bs.length 0) (d2r (List.drop 0 bs) bs.length 1) (d2r (List.drop 0 bs) bs.length 2) (d2r (List.drop 0 bs) bs.length 3) == mulB (d2r (List.drop 0 bs) bs.length 0) (d2r (List.drop 0 bs) bs.length 1) (d2r (List.drop 0 bs) bs.length 2) (d2r (List.drop 0 bs) bs.length 3)) (.fin (.bool (negB false (mulN (d2r (List.drop 0 bs) bs.length 0) (d2r (List.drop 0 bs) bs.length 1) (d2r (List.drop 0 bs) bs.length 2) (d2r (List.drop 0 bs) bs.length 3) == mulN (d2r (List.drop 0 bs) bs.length 0) (d2r (List.drop 0 bs) bs.length 1) (d2r (List.drop 0 bs) bs.length 2) (d2r (List.drop 0 bs) bs.length 3) && (mulD (d2r (List.drop 0 bs) bs.length 0) (d2r (List.drop 0 bs) bs.length 1) (d2r (List.drop 0 bs) bs.length 2) (d2r (List.drop 0 bs) bs.length 3) == mulD (d2r (List.drop 0 bs) bs.length 0) (d2r (List.drop 0 bs) bs.length 1) (d2r (List.drop 0 bs) bs.length 2) (d2r (List.drop 0 bs) bs.length 3) && true)))) []) (.fin (.bool (false)) [])) (brT (decide (1000 < if d2r (List.drop 0 bs) bs.length 2 < IntKind.i64.wrap (0 - d2r (List.drop 0 bs) bs.length 2) then IntKind.i64.wrap (0 - d2r (List.drop 0 bs) bs.length 2) else d2r (List.drop 0 bs) bs.length 2)) (brT (mulB (d2r (List.drop 0 bs) bs.length 0) (d2r (List.drop 0 bs) bs.length 1) (d2r (List.drop 0 bs) bs.length 2) (d2r (List.drop 0 bs) bs.length 3) == mulB (d2r (List.drop 0 bs) bs.length 0) (d2r (List.drop 0 bs) bs.length 1) (d2r (List.drop 0 bs) bs.length 2) (d2r (List.drop 0 bs) bs.length 3)) (.fin (.bool (negB false (mulN (d2r (List.drop 0 bs) bs.length 0) (d2r (List.drop 0 bs) bs.length 1) (d2r (List.drop 0 bs) bs.length 2) (d2r (List.drop 0 bs) bs.length 3) == mulN (d2r (List.drop 0 bs) bs.length 0) (d2r (List.drop 0 bs) bs.length 1) (d2r (List.drop 0 bs) bs.length 2) (d2r (List.drop 0 bs) bs.length 3) && (mulD (d2r (List.drop 0 bs) bs.length 0) (d2r (List.drop 0 bs) bs.length 1) (d2r (List.drop 0 bs) bs.length 2) (d2r (List.drop 0 bs) bs.length 3) == mulD (d2r (List.drop 0 bs) bs.length 0) (d2r (List.drop 0 bs) bs.length 1) (d2r (List.drop 0 bs) bs.length 2) (d2r (List.drop 0 bs) bs.length 3) && true)))) []) (.fin (.bool (false)) [])) (brT (decide (1000 < if d2r (List.drop 0 cs) cs.length 0 < IntKind.i64.wrap (0 - d2r (List.drop 0 cs) cs.length 0) then IntKind.i64.wrap (0 - d2r (List.drop 0 cs) cs.length 0) else d2r (List.drop 0 cs) cs.length 0)) (brT (mulB (d2r (List.drop 0 bs) bs.length 0) (d2r (List.drop 0 bs) bs.length 1) (d2r (List.drop 0 bs) bs.length 2) (d2r (List.drop 0 bs) bs.length 3) == mulB (d2r (List.drop 0 bs) bs.length 0) (d2r (List.drop 0 bs) bs.length 1) (d2r (List.drop 0 bs) bs.length 2) (d2r (List.drop 0 bs) bs.length 3)) (.fin (.bool (negB false (mulN (d2r (List.drop 0 bs) bs.length 0) (d2r (List.drop 0 bs) bs.length 1) (d2r (List.drop 0 bs) bs.length 2) (d2r (List.drop 0 bs) bs.length 3) == mulN (d2r (List.drop 0 bs) bs.length 0) (d2r (List.drop 0 bs) bs.length 1) (d2r (List.drop 0 bs) bs.length 2) (d2r (List.drop 0 bs) bs.length 3) && (mulD (d2r (List.drop 0 bs) bs.length 0) (d2r (List.drop 0 bs) bs.length 1) (d2r (List.drop 0 bs) bs.length 2) (d2r (List.drop 0 bs) bs.length 3) == mulD (d2r (List.drop 0 bs) bs.length 0) (d2r (List.drop 0 bs) bs.length 1) (d2r (List.drop 0 bs) bs.length 2) (d2r (List.drop 0 bs) bs.length 3) && true)))) []) (.fin (.bool (false)) [])) (brT (decide (100 < d2r (List.drop 0 bs) bs.length 1)) (brT (mulB (d2r (List.drop 0 bs) bs.length 0) (d2r (List.drop 0 bs) bs.length 1) (d2r (List.drop 0 bs) bs.length 2) (d2r (List.drop 0 bs) bs.length 3) == mulB (d2r (List.drop 0 bs) bs.length 0) (d2r (List.drop 0 bs) bs.length 1) (d2r (List.drop 0 bs) bs.length 2) (d2r (List.drop 0 bs) bs.length 3)) (.fin (.bool (negB false (mulN (d2r (List.drop 0 bs) bs.length 0) (d2r (List.drop 0 bs) bs.length 1) (d2r (List.drop 0 bs) bs.length 2) (d2r (List.drop 0 bs) bs.length 3) == mulN (d2r (List.drop 0 bs) bs.length 0) (d2r (List.drop 0 bs) bs.length 1) (d2r (List.drop 0 bs) bs.length 2) (d2r (List.drop 0 bs) bs.length 3) && (mulD (d2r (List.drop 0 bs) bs.length 0) (d2r (List.drop 0 bs) bs.length 1) (d2r (List.drop 0 bs) bs.length 2) (d2r (List.drop 0 bs) bs.length 3) == mulD (d2r (List.drop 0 bs) bs.length 0) (d2r (List.drop 0 bs) bs.length 1) (d2r (List.drop 0 bs) bs.length 2) (d2r (List.drop 0 bs) bs.length 3) && true)))) []) (.fin (.bool (false)) [])) (brT (decide (100 < d2r (List.drop 0 bs) bs.length 3)) (brT (mulB (d2r (List.drop 0 bs) bs.length 0) (d2r (List.drop 0 bs) bs.length 1) (d2r (List.drop 0 bs) bs.length 2) (d2r (List.drop 0 bs) bs.length 3) == mulB (d2r (List.drop 0 bs) bs.length 0) (d2r (List.drop 0 bs) bs.length 1) (d2r (List.drop 0 bs) bs.length 2) (d2r (List.drop 0 bs) bs.length 3)) (.fin (.bool (negB false (mulN (d2r (List.drop 0 bs) bs.length 0) (d2r (List.drop 0 bs) bs.length 1) (d2r (List.drop 0 bs) bs.length 2) (d2r (List.drop 0 bs) bs.length 3) == mulN (d2r (List.drop 0 bs) bs.length 0) (d2r (List.drop 0 bs) bs.length 1) (d2r (List.drop 0 bs) bs.length 2) (d2r (List.drop 0 bs) bs.length 3) && (mulD (d2r (List.drop 0 bs) bs.length 0) (d2r (List.drop 0 bs) bs.length 1) (d2r (List.drop 0 bs) bs.length 2) (d2r (List.drop 0 bs) bs.length 3) == mulD (d2r (List.drop 0 bs) bs.length 0) (d2r (List.drop 0 bs) bs.length 1) (d2r (List.drop 0 bs) bs.length 2) (d2r (List.drop 0 bs) bs.length 3) && true)))) []) (.fin (.bool (false)) [])) (brT (decide (100 < d2r (List.drop 0 cs) cs.length 1)) (brT (mulB (d2r (List.drop 0 bs) bs.length 0) (d2r (List.drop 0 bs) bs.length 1) (d2r (List.drop 0 bs) bs.length 2) (d2r (List.drop 0 bs) bs.length 3) == mulB (d2r (List.drop 0 bs) bs.length 0) (d2r (List.drop 0 bs) bs.length 1) (d2r (List.drop 0 bs) bs.length 2) (d2r (List.drop 0 bs) bs.length 3)) (.fin (.bool (negB false (mulN (d2r (List.drop 0 bs) bs.length 0) (d2r (List.drop 0 bs) bs.length 1) (d2r (List.drop 0 bs) bs.length 2) (d2r (List.drop 0 bs) bs.length 3) == mulN (d2r (List.drop 0 bs) bs.length 0) (d2r (List.drop 0 bs) bs.length 1) (d2r (List.drop 0 bs) bs.length 2) (d2r (List.drop 0 bs) bs.length 3) && (mulD (d2r (List.drop 0 bs) bs.length 0) (d2r (List.drop 0 bs) bs.length 1) (d2r (List.drop 0 bs) bs.length 2) (d2r (List.drop 0 bs) bs.length 3) == mulD (d2r (List.drop 0 bs) bs.length 0) (d2r (List.drop 0 bs) bs.length 1) (d2r (List.drop 0 bs) bs.length 2) (d2r (List.drop 0 bs) bs.length 3) && true)))) []) (.fin (.bool (false)) [])) (brT (addB (d2r (List.drop 0 bs) bs.length 2) (d2r (List.drop 0 bs) bs.length 3) (d2r (List.drop 0 cs) cs.length 0) (d2r (List.drop 0 cs) cs.length 1)) (brT (mulB (d2r (List.drop 0 bs) bs.length 0) (d2r (List.drop 0 bs) bs.length 1) (addN (d2r (List.drop 0 bs) bs.length 2) (d2r (List.drop 0 bs) bs.length 3) (d2r (List.drop 0 cs) cs.length 0) (d2r (List.drop 0 cs) cs.length 1)) (addD (d2r (List.drop 0 bs) bs.length 2) (d2r (List.drop 0 bs) bs.length 3) (d2r (List.drop 0 cs) cs.length 0) (d2r (List.drop 0 cs) cs.length 1))) (brT (mulB (d2r (List.drop 0 bs) bs.length 0) (d2r (List.drop 0 bs) bs.length 1) (d2r (List.drop 0 cs) cs.length 0) (d2r (List.drop 0 cs) cs.length 1)) (brT (addB (mulN (d2r (List.drop 0 bs) bs.length 0) (d2r (List.drop 0 bs) bs.length 1) (d2r (List.drop 0 bs) bs.length 2) (d2r (List.drop 0 bs) bs.length 3)) (mulD (d2r (List.drop 0 bs) bs.length 0) (d2r (List.drop 0 bs) bs.length 1) (d2r (List.drop 0 bs) bs.length 2) (d2r (List.drop 0 bs) bs.length 3)) (mulN (d2r (List.drop 0 bs) bs.length 0) (d2r (List.drop 0 bs) bs.length 1) (d2r (List.drop 0 cs) cs.length 0) (d2r (List.drop 0 cs) cs.length 1)) (mulD (d2r (List.drop 0 bs) bs.length 0) (d2r (List.drop 0 bs) bs.length 1) (d2r (List.drop 0 cs) cs.length 0) (d2r (List.drop 0 cs) cs.length 1))) (.fin (.bool (negB false (mulN (d2r (List.drop 0 bs) bs.length 0) (d2r (List.drop 0 bs) bs.length 1) (addN (d2r (List.drop 0 bs) bs.length 2) (d2r (List.drop 0 bs) bs.length 3) (d2r (List.drop 0 cs) cs.length 0) (d2r (List.drop 0 cs) cs.length 1)) (addD (d2r (List.drop 0 bs) bs.length 2) (d2r (List.drop 0 bs) bs.length 3) (d2r (List.drop 0 cs) cs.length 0) (d2r (List.drop 0 cs) cs.length 1)) == addN (mulN (d2r (List.drop 0 bs) bs.length 0) (d2r (List.drop 0 bs) bs.length 1) (d2r (List.drop 0 bs) bs.length 2) (d2r (List.drop 0 bs) bs.length 3)) (mulD (d2r (List.drop 0 bs) bs.length 0) (d2r (List.drop 0 bs) bs.length 1) (d2r (List.drop 0 bs) bs.length 2) (d2r (List.drop 0 bs) bs.length 3)) (mulN (d2r (List.drop 0 bs) bs.length 0) (d2r (List.drop 0 bs) bs.length 1) (d2r (List.drop 0 cs) cs.length 0) (d2r (List.drop 0 cs) cs.length 1)) (mulD (d2r (List.drop 0 bs) bs.length 0) (d2r (List.drop 0 bs) bs.length 1) (d2r (List.drop 0 cs) cs.length 0) (d2r (List.drop 0 cs) cs.length 1)) && (mulD (d2r (List.drop 0 bs) bs.length 0) (d2r (List.drop 0 bs) bs.length 1) (addN (d2r (List.drop 0 bs) bs.length 2) (d2r (List.drop 0 bs) bs.length 3) (d2r (List.drop 0 cs) cs.length 0) (d2r (List.drop 0 cs) cs.length 1)) (addD (d2r (List.drop 0 bs) bs.length 2) (d2r (List.drop 0 bs) bs.length 3) (d2r (List.drop 0 cs) cs.length 0) (d2r (List.drop 0 cs) cs.length 1)) == addD (mulN (d2r (List.drop 0 bs) bs.length 0) (d2r (List.drop 0 bs) bs.length 1) (d2r (List.drop 0 bs) bs.length 2) (d2r (List.drop 0 bs) bs.length 3)) (mulD (d2r (List.drop 0 bs) bs.length 0) (d2r (List.drop 0 bs) bs.length 1) (d2r (List.drop 0 bs) bs.length 2) (d2r (List.drop 0 bs) bs.length 3)) (mulN (d2r (List.drop 0 bs) bs.length 0) (d2r (List.drop 0 bs) bs.length 1) (d2r (List.drop 0 cs) cs.length 0) (d2r (List.drop 0 cs) cs.length 1)) (mulD (d2r (List.drop 0 bs) bs.length 0) (d2r (List.drop 0 bs) bs.length 1) (d2r (List.drop 0 cs) cs.length 0) (d2r (List.drop 0 cs) cs.length 1)) && true)))) []) (.fin (.bool (false)) [])) (.fin (.bool (false)) [])) (.fin (.bool (false)) [])) (.fin (.bool (false)) []))))))))))))))))) := by kernel_rfl
theorem law_dist (bs cs : List Int) (hb : Bytes bs) (_ : bs.length ≤ maxLen) (hc : Bytes cs) (_ : cs.length ≤ maxLen) : Res Try.prog 5 [.row bs.length (.bytes bs), .row cs.length (.bytes cs)] (.bool true) := by
  refine bodyV_res mixed EF2_ok (m := 30) (n := 12) rfl ?_
  rw [tr_lDist]
  simp only [List.drop_zero]
  generalize d2r bs bs.length 0 = an
  generalize d2r bs bs.length 1 = ad
  generalize d2r bs bs.length 2 = bn
  generalize d2r bs bs.length 3 = bd
  generalize d2r cs cs.length 0 = cn
  generalize d2r cs cs.length 1 = cd
  rcases hB : mulB an ad bn bd with _ | _
  · simp [brT_ok, Tree.ok, negT, negF, hb, hc]
  have ha : ratB an ad = true := (mul_part hB).1
  have hbb : ratB bn bd = true := by
    rw [← (mul_comm' an ad bn bd).2.2] at hB
    exact (mul_part hB).1
  rcases hC : ratB cn cd with _ | _
  · simp [brT_ok, Tree.ok, negT, negF, hb, hc]
  have a1 := ratB_true ha
  have b1 := ratB_true hbb
  have c1 := ratB_true hC
  have w1 : IntKind.i64.wrap (0 - an) = 0 - an := wr (by omega)
  have w2 : IntKind.i64.wrap (0 - bn) = 0 - bn := wr (by omega)
  have w3 : IntKind.i64.wrap (0 - cn) = 0 - cn := wr (by omega)
  have sz : ∀ n : Int, (1000 < if n < 0 - n then 0 - n else n) ↔ ¬ (-1000 ≤ n ∧ n ≤ 1000) := fun n => by split <;> omega
  rw [w1, w2, w3]
  simp only [sz]
  by_cases s1 : -1000 ≤ an ∧ an ≤ 1000
  rotate_left
  · simp [brT_ok, Tree.ok, negT, negF, hb, hc, s1]
  by_cases s2 : -1000 ≤ bn ∧ bn ≤ 1000
  rotate_left
  · simp [brT_ok, Tree.ok, negT, negF, hb, hc, s1, s2]
  by_cases s3 : -1000 ≤ cn ∧ cn ≤ 1000
  rotate_left
  · simp [brT_ok, Tree.ok, negT, negF, hb, hc, s1, s2, s3]
  by_cases s4 : 100 < ad
  · simp [brT_ok, Tree.ok, negT, negF, hb, hc, s1, s2, s3, s4]
  by_cases s5 : 100 < bd
  · simp [brT_ok, Tree.ok, negT, negF, hb, hc, s1, s2, s3, s4, s5]
  by_cases s6 : 100 < cd
  · simp [brT_ok, Tree.ok, negT, negF, hb, hc, s1, s2, s3, s4, s5, s6]
  obtain ⟨k1, k2, k3, k4, k5, k6⟩ := dist_part ha hbb hC s1 s2 s3 (by omega) (by omega) (by omega)
  simp [brT_ok, Tree.ok, negT, negF, hb, hc, s1, s2, s3, s4, s5, s6, k1, k2, k3, k4, k5, k6]
end Go.Proofs.Ytoleenohcidegaa
