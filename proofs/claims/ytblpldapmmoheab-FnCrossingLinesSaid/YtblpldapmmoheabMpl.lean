/-
  The laws of MeetPoint over drawn segments: on both lines; where the lines meet. Written by an AI agent.
-/
import Derived.Test.YtblpldapmmoheabCem
import Derived.Test.YtblpldapmmoheabMptF
import Derived.Test.YtblpldapmmoheabTsd
import Derived.Test.YtblpldapmmoheabThs
import Derived.Test.YtblpldapmmoheabTabO
import Derived.Test.YtblpldapmmoheabQn
namespace Go.Proofs.Ytblpldapmmoheab
set_option linter.all false
open Go.RowKit
def TMq : Tab := fun f ds => match f with
  | 80 => pTwoS ds
  | 29 => pThru ds
  | 18 => pSOR ds
  | 16 => pMeet ds
  | f => TMp f ds
theorem TMq_ok : TabOk Try.prog TMq := by
  intro f ds v C h hC
  unfold TMq at h
  (try split at h)
  all_goals first | with_reducible exact pTwoS_ok h hC | with_reducible exact TT_r1 h hC | with_reducible exact U7_r1 h hC | with_reducible exact T5_r1 h hC | exact TMp_ok _ _ _ _ h hC
theorem lcm_le {d e D : Int} (hd : 1 ≤ d) (he : 1 ≤ e) (h1 : d ∣ D) (h2 : e ∣ D) (h0 : D ≠ 0) : lcmI d e ≤ D.natAbs := by
  obtain ⟨k1, k2, k3⟩ := uv_mul (d := d) (e := e) he
  have hc : gI (uI d e) (vI d e) = 1 := gcd_one (by omega)
  obtain ⟨k, rfl⟩ := h2
  have hu : uI d e ∣ vI d e * k := by
    obtain ⟨j, hj⟩ := h1
    refine ⟨j, ?_⟩
    have : gI d e * (vI d e * k) = gI d e * (uI d e * j) := by
      rw [← Int.mul_assoc, k2, ← Int.mul_assoc, k1]
      exact hj
    exact Int.eq_of_mul_eq_mul_left (by omega) this
  have hk : uI d e ∣ k := by
    have c : Nat.Coprime (uI d e).natAbs (vI d e).natAbs := (coprime_of hc).symm
    rw [← Int.natAbs_dvd_natAbs] at hu ⊢
    rw [Int.natAbs_mul] at hu
    exact c.dvd_of_dvd_mul_left hu
  obtain ⟨j, rfl⟩ := hk
  unfold lcmI
  have : uI d e * e ∣ e * (uI d e * j) := ⟨j, by grind⟩
  have := Int.natAbs_dvd_natAbs.2 this
  have hn := Nat.le_of_dvd (by omega) this
  omega
theorem sideZ {A B C n d m e X Y D : Int} (hl : lineBL A B C = true) (hs : solB n d m e = true) (h0 : D ≠ 0) (hn : n * D = X * d) (hm : m * D = Y * e) (hXY : A * X + B * Y = C * D) : sideRL A B C n d m e = 0 := by
  unfold sideRL
  rw [hl, hs]
  obtain ⟨r1, r2, _⟩ := solB_true hs
  have b1 := ratB_true r1
  have b2 := ratB_true r2
  obtain ⟨k1, k2, k3⟩ := uv_mul (d := d) (e := e) (by omega)
  have key : (A * (n * vI d e) + B * (m * uI d e) - C * uI d e * e) * (gI d e * D) = 0 := by
    calc (A * (n * vI d e) + B * (m * uI d e) - C * uI d e * e) * (gI d e * D) = A * (n * D) * (gI d e * vI d e) + B * (m * D) * (gI d e * uI d e) - C * (gI d e * uI d e) * e * D := by grind
      _ = A * (X * d) * e + B * (Y * e) * d - C * d * e * D := by rw [hn, hm, k1, k2]
      _ = d * e * (A * X + B * Y - C * D) := by grind
      _ = 0 := by rw [hXY]; grind
  have hz : A * (n * vI d e) + B * (m * uI d e) - C * uI d e * e = 0 := by
    rcases Int.mul_eq_zero.1 key with h | h
    · exact h
    · rcases Int.mul_eq_zero.1 h with h | h <;> omega
  unfold sideJ
  rw [hz]
  rfl
theorem lineB_L {a b c : Int} (h : lineB a b c = true) : lineBL a b c = true := by
  have h := lineB_true h
  unfold lineBL
  rw [decide_eq_true (by omega), beq_iff_eq.2 h.2.2.2.2.2.2.2]
  rfl
theorem relV_cm (a b c d e f g h : Int) : relV a b c d e f g h = relV e f g h a b c d := by
  unfold relV
  rw [relA_comm, Bool.and_comm]
theorem mpV_cm (a b c d e f g h : Int) : mpV e f g h a b c d = mpV a b c d e f g h := by
  unfold mpV
  rw [relV_cm e f g h a b c d, ce_comm e f g h a b c d]
  by_cases k1 : relV a b c d e f g h = 1
  · rw [if_pos k1, if_pos k1]
  rw [if_neg k1, if_neg k1]
  by_cases k2 : relV a b c d e f g h = 2
  rotate_left
  · rw [if_neg k2, if_neg k2]
  rw [if_pos k2, if_pos k2]
  obtain ⟨h1, h2, h3, h4, hr⟩ := relV_pt (a := a) (b := b) (c := c) (d := d) (e := e) (f := f) (g := g) (h := h) (by omega)
  have hne := dvB_ne (relA_two (hr ▸ k2)).2
  have e0 : crossI a b c d e f - crossI a b c d g h = -(crossI e f g h a b - crossI e f g h c d) := by unfold crossI; grind
  have e1 : mpX e g (crossI a b c d e f) (crossI a b c d g h) = -(mpX a c (crossI e f g h a b) (crossI e f g h c d)) := by unfold mpX crossI; grind
  have e2 : mpX f h (crossI a b c d e f) (crossI a b c d g h) = -(mpX b d (crossI e f g h a b) (crossI e f g h c d)) := by unfold mpX crossI; grind
  have hD : crossI e f g h a b - crossI e f g h c d ≠ 0 := by omega
  rw [e0, e1, e2, (qs_neg2 hD).1, (qs_neg2 hD).2, (qs_neg2 hD).1, (qs_neg2 hD).2]
theorem dv_signs {a b c d e f g h : Int} (k : dvB a b c d e f g h = true) : (crossI a b c d e f < 0 ∧ 0 < crossI a b c d g h) ∨ (0 < crossI a b c d e f ∧ crossI a b c d g h < 0) := by
  unfold dvB at k
  have k := of_decide_eq_true k
  generalize crossI a b c d e f = u at *
  generalize crossI a b c d g h = v at *
  have cs : ∀ x : Int, (x < 0 ∧ cmpI x 0 = -1) ∨ (x = 0 ∧ cmpI x 0 = 0) ∨ (0 < x ∧ cmpI x 0 = 1) := fun x => by
    unfold cmpI
    split
    · left; omega
    · split
      · right; right; omega
      · right; left; omega
  rcases cs u with ⟨u1, u2⟩ | ⟨u1, u2⟩ | ⟨u1, u2⟩ <;> rcases cs v with ⟨v1, v2⟩ | ⟨v1, v2⟩ | ⟨v1, v2⟩ <;> rw [u2, v2] at k <;> first | exact .inl ⟨u1, v1⟩ | exact .inr ⟨u1, v1⟩ | exact absurd k (by decide)
/-- A weighted sum of two coordinates. -/
theorem mpX_bd {a c u v : Int} (ha : -1000 ≤ a ∧ a ≤ 1000) (hc : -1000 ≤ c ∧ c ≤ 1000) (hs : (u < 0 ∧ 0 < v) ∨ (0 < u ∧ v < 0)) : (mpX a c u v).natAbs ≤ 1000 * (u - v).natAbs := by
  have e : mpX a c u v = c * u - a * v := by unfold mpX; grind
  rw [e]
  rcases hs with ⟨h1, h2⟩ | ⟨h1, h2⟩
  · have p1 := Int.mul_le_mul_of_nonneg_left hc.2 (show 0 ≤ -u by omega)
    have p2 := Int.mul_le_mul_of_nonneg_left hc.1 (show 0 ≤ -u by omega)
    have p3 := Int.mul_le_mul_of_nonneg_left ha.2 (show 0 ≤ v by omega)
    have p4 := Int.mul_le_mul_of_nonneg_left ha.1 (show 0 ≤ v by omega)
    have q1 : -u * c = -(c * u) := by grind
    have q2 : v * a = a * v := by grind
    omega
  · have p1 := Int.mul_le_mul_of_nonneg_left hc.2 (show 0 ≤ u by omega)
    have p2 := Int.mul_le_mul_of_nonneg_left hc.1 (show 0 ≤ u by omega)
    have p3 := Int.mul_le_mul_of_nonneg_left ha.2 (show 0 ≤ -v by omega)
    have p4 := Int.mul_le_mul_of_nonneg_left ha.1 (show 0 ≤ -v by omega)
    have q1 : u * c = c * u := by grind
    have q2 : -v * a = -(a * v) := by grind
    omega
theorem reach_of {n d X D : Int} (hd : 1 ≤ d) (h0 : D ≠ 0) (h : n * D = X * d) (hX : X.natAbs ≤ 1000 * D.natAbs) : reachB n d = true := by
  have k : n.natAbs * D.natAbs = X.natAbs * d.natAbs := by rw [← Int.natAbs_mul, ← Int.natAbs_mul, h]
  have k2 : n.natAbs * D.natAbs ≤ (1000 * d.natAbs) * D.natAbs := by
    rw [k]
    calc X.natAbs * d.natAbs ≤ (1000 * D.natAbs) * d.natAbs := Nat.mul_le_mul_right _ hX
      _ = (1000 * d.natAbs) * D.natAbs := by rw [Nat.mul_assoc, Nat.mul_assoc, Nat.mul_comm D.natAbs]
  have := Nat.le_of_mul_le_mul_right k2 (by omega)
  unfold reachB
  simp only [Bool.and_eq_true, decide_eq_true_eq]
  omega
/-- What a meeting point is: on both lines. -/
theorem mp_on {a b c d e f g h : Int} (k : relV a b c d e f g h = 1 ∨ relV a b c d e f g h = 2) : mpB (mpV a b c d e f g h) = true ∧ thO a b c d = true ∧ thO e f g h = true ∧
    sideRL (thP a b c d 0) (thP a b c d 1) (thP a b c d 2) (mpN a b c d e f g h 0) (mpN a b c d e f g h 1) (mpN a b c d e f g h 2) (mpN a b c d e f g h 3) = 0 ∧
    sideRL (thP e f g h 0) (thP e f g h 1) (thP e f g h 2) (mpN a b c d e f g h 0) (mpN a b c d e f g h 1) (mpN a b c d e f g h 2) (mpN a b c d e f g h 3) = 0 := by
  have hne : relV a b c d e f g h ≠ -1 := by omega
  obtain ⟨h1, h2, h3, h4, hr⟩ := relV_pt hne
  have hs : segB a b c d = true ∧ segB e f g h = true := by
    unfold relV at hne
    cases q1 : segB a b c d <;> cases q2 : segB e f g h <;> rw [q1, q2] at hne <;> first | exact absurd rfl hne | exact ⟨rfl, rfl⟩
  have o1 : thO a b c d = true := by rw [thO_is]; exact hs.1
  have o2 : thO e f g h = true := by rw [thO_is]; exact hs.2
  obtain ⟨g1, s1, g10, s11, t10, t11, t12, l1, _, _⟩ := th_spec o1
  obtain ⟨g2, s2, g20, s21, t20, t21, t22, l2, _, _⟩ := th_spec o2
  have L1 := lineB_L l1
  have L2 := lineB_L l2
  generalize thP a b c d 0 = A at *
  generalize thP a b c d 1 = B at *
  generalize thP a b c d 2 = C at *
  generalize thP e f g h 0 = A' at *
  generalize thP e f g h 1 = B' at *
  generalize thP e f g h 2 = C' at *
  unfold mpN mpV
  rcases k with k | k
  · rw [if_pos k]
    have hl := relA_one (hr ▸ k)
    obtain ⟨z, hz⟩ := List.length_eq_one_iff.1 hl
    have hm := ce_mem.1 (show z ∈ ceS a b c d e f g h by rw [hz]; simp)
    unfold onB at hm
    simp only [Bool.and_eq_true] at hm
    have m1 := hm.1.1
    have m2 := hm.1.2
    rw [hz]
    show mpB (.tuple #[.agg #[.int .i64 z.1, .int .i64 1, .int .i64 z.2, .int .i64 1], .bool true]) = true ∧ _ ∧ _ ∧ sideRL A B C z.1 1 z.2 1 = 0 ∧ sideRL A' B' C' z.1 1 z.2 1 = 0
    unfold hasB at m1 m2
    simp only [Bool.and_eq_true, beq_iff_eq] at m1 m2
    have zb : -1000 ≤ z.1 ∧ z.1 ≤ 1000 ∧ -1000 ≤ z.2 ∧ z.2 ≤ 1000 := by
      have p1 := ptB_true h1
      have p2 := ptB_true h2
      have p3 := ptB_true h3
      have p4 := ptB_true h4
      rcases hm.2 with e | e | e | e <;> rw [e] <;> simp only <;> omega
    have hsol : solB z.1 1 z.2 1 = true := by
      have r : ∀ x : Int, -1000 ≤ x ∧ x ≤ 1000 → ratB x 1 = true ∧ reachB x 1 = true := fun x hx => ⟨decide_eq_true ⟨by omega, by omega, by omega, by omega, by unfold gI; simp⟩, by unfold reachB; simp; omega⟩
      unfold solB
      rw [(r z.1 (by omega)).1, (r z.2 (by omega)).1, (r z.1 (by omega)).2, (r z.2 (by omega)).2]
      decide
    refine ⟨rfl, o1, o2, sideZ L1 hsol (D := 1) (X := z.1) (Y := z.2) (by decide) rfl rfl ?_, sideZ L2 hsol (D := 1) (X := z.1) (Y := z.2) (by decide) rfl rfl ?_⟩
    · have : (A * z.1 + B * z.2 - C * 1) * g1 = 0 := by
        have m := m1.1
        rw [t12]
        calc (A * z.1 + B * z.2 - (A * a + B * b) * 1) * g1 = (A * g1) * (z.1 - a) + (B * g1) * (z.2 - b) := by grind
          _ = s1 * ((d - b) * (z.1 - a) + (a - c) * (z.2 - b)) := by rw [t10, t11]; grind
          _ = 0 := by
            have : (d - b) * (z.1 - a) + (a - c) * (z.2 - b) = 0 := by grind
            rw [this, Int.mul_zero]
      have := (Int.mul_eq_zero.1 this).resolve_right (by omega)
      omega
    · have : (A' * z.1 + B' * z.2 - C' * 1) * g2 = 0 := by
        have m := m2.1
        rw [t22]
        calc (A' * z.1 + B' * z.2 - (A' * e + B' * f) * 1) * g2 = (A' * g2) * (z.1 - e) + (B' * g2) * (z.2 - f) := by grind
          _ = s2 * ((h - f) * (z.1 - e) + (e - g) * (z.2 - f)) := by rw [t20, t21]; grind
          _ = 0 := by
            have : (h - f) * (z.1 - e) + (e - g) * (z.2 - f) = 0 := by grind
            rw [this, Int.mul_zero]
      have := (Int.mul_eq_zero.1 this).resolve_right (by omega)
      omega
  · rw [if_neg (by omega), if_pos k]
    have hd := (relA_two (hr ▸ k)).2
    have sg := dv_signs hd
    have hu : crossI e f g h a b = (g - e) * (b - f) - (h - f) * (a - e) := rfl
    have hv : crossI e f g h c d = (g - e) * (d - f) - (h - f) * (c - e) := rfl
    have u1 := crI_bd h3 h4 h1
    have v1 := crI_bd h3 h4 h2
    generalize crossI e f g h a b = u at *
    generalize crossI e f g h c d = v at *
    have p1 := ptB_true h1
    have p2 := ptB_true h2
    have x1 := mpX_bd (a := a) (c := c) (by omega) (by omega) sg
    have y1 := mpX_bd (a := b) (c := d) (by omega) (by omega) sg
    have hD : u - v ≠ 0 := by omega
    have eX : mpX a c u v = a * (u - v) + (c - a) * u := rfl
    have eY : mpX b d u v = b * (u - v) + (d - b) * u := rfl
    generalize mpX a c u v = X at *
    generalize mpX b d u v = Y at *
    obtain ⟨q1, q2, q3⟩ := qs_full (n := X) hD
    obtain ⟨r1, r2, r3⟩ := qs_full (n := Y) hD
    have rx := qs_rat (n := X) hD (by omega) (by omega)
    have ry := qs_rat (n := Y) hD (by omega) (by omega)
    have dx := qs_dvd (n := X) hD
    have dy := qs_dvd (n := Y) hD
    have hl := lcm_le q2 r2 dx dy hD
    have hsol : solB (qN X (u - v)) (qD X (u - v)) (qN Y (u - v)) (qD Y (u - v)) = true := by
      unfold solB
      rw [rx, ry, reach_of q2 hD q3 x1, reach_of r2 hD r3 y1, decide_eq_true (by omega)]
      rfl
    show mpB (.tuple #[.agg #[.int .i64 (qN X (u - v)), .int .i64 (qD X (u - v)), .int .i64 (qN Y (u - v)), .int .i64 (qD Y (u - v))], .bool true]) = true ∧ _ ∧ _ ∧ sideRL A B C (qN X (u - v)) (qD X (u - v)) (qN Y (u - v)) (qD Y (u - v)) = 0 ∧ sideRL A' B' C' (qN X (u - v)) (qD X (u - v)) (qN Y (u - v)) (qD Y (u - v)) = 0
    refine ⟨rfl, o1, o2, sideZ L1 hsol hD q3 r3 ?_, sideZ L2 hsol hD q3 r3 ?_⟩
    · have : (A * X + B * Y - C * (u - v)) * g1 = 0 := by
        rw [t12]
        calc (A * X + B * Y - (A * a + B * b) * (u - v)) * g1 = (A * g1) * (X - a * (u - v)) + (B * g1) * (Y - b * (u - v)) := by grind
          _ = s1 * ((d - b) * (X - a * (u - v)) + (a - c) * (Y - b * (u - v))) := by rw [t10, t11]; grind
          _ = 0 := by
            have : (d - b) * (X - a * (u - v)) + (a - c) * (Y - b * (u - v)) = 0 := by rw [eX, eY]; grind
            rw [this, Int.mul_zero]
      have := (Int.mul_eq_zero.1 this).resolve_right (by omega)
      omega
    · have : (A' * X + B' * Y - C' * (u - v)) * g2 = 0 := by
        rw [t22]
        calc (A' * X + B' * Y - (A' * e + B' * f) * (u - v)) * g2 = (A' * g2) * (X - e * (u - v)) + (B' * g2) * (Y - f * (u - v)) := by grind
          _ = s2 * ((h - f) * (X - e * (u - v)) + (e - g) * (Y - f * (u - v))) := by rw [t20, t21]; grind
          _ = 0 := by
            have : (h - f) * (X - e * (u - v)) + (e - g) * (Y - f * (u - v)) = 0 := by rw [eX, eY, hu, hv]; grind
            rw [this, Int.mul_zero]
      have := (Int.mul_eq_zero.1 this).resolve_right (by omega)
      omega
theorem mp_no {a b c d e f g h : Int} (k1 : relV a b c d e f g h ≠ 1) (k2 : relV a b c d e f g h ≠ 2) : mpB (mpV a b c d e f g h) = false := by
  unfold mpV
  rw [if_neg k1, if_neg k2]
  rfl
set_option maxRecDepth 100000 in
theorem tr_lMp (bs : List Int) : bodyV Try.prog (tabE TMq) 30 12 5 [.row bs.length (.bytes bs)] = brT (decide (1048576 < (↑bs.length : Int))) (.fin (.bool (true)) []) (.need (Bytes (List.drop (0 : Nat) bs)) (.need (bs.length ≤ (List.drop (0 : Nat) bs).length) (brT (!mpB (mpV (apX (List.drop 0 bs) (rdL bs.length) 0) (apY (List.drop 0 bs) (rdL bs.length) 0) (asX (List.drop 0 bs) (rdL bs.length) 0) (asY (List.drop 0 bs) (rdL bs.length) 0) (tsV (List.drop 0 bs) (rdL bs.length) 0) (tsV (List.drop 0 bs) (rdL bs.length) 1) (tsV (List.drop 0 bs) (rdL bs.length) 2) (tsV (List.drop 0 bs) (rdL bs.length) 3)) == mpB (mpV (apX (List.drop 0 bs) (rdL bs.length) 0) (apY (List.drop 0 bs) (rdL bs.length) 0) (asX (List.drop 0 bs) (rdL bs.length) 0) (asY (List.drop 0 bs) (rdL bs.length) 0) (tsV (List.drop 0 bs) (rdL bs.length) 0) (tsV (List.drop 0 bs) (rdL bs.length) 1) (tsV (List.drop 0 bs) (rdL bs.length) 2) (tsV (List.drop 0 bs) (rdL bs.length) 3))) (brT (mpB (mpV (apX (List.drop 0 bs) (rdL bs.length) 0) (apY (List.drop 0 bs) (rdL bs.length) 0) (asX (List.drop 0 bs) (rdL bs.length) 0) (asY (List.drop 0 bs) (rdL bs.length) 0) (tsV (List.drop 0 bs) (rdL bs.length) 0) (tsV (List.drop 0 bs) (rdL bs.length) 1) (tsV (List.drop 0 bs) (rdL bs.length) 2) (tsV (List.drop 0 bs) (rdL bs.length) 3)) == mpB (mpV (apX (List.drop 0 bs) (rdL bs.length) 0) (apY (List.drop 0 bs) (rdL bs.length) 0) (asX (List.drop 0 bs) (rdL bs.length) 0) (asY (List.drop 0 bs) (rdL bs.length) 0) (tsV (List.drop 0 bs) (rdL bs.length) 0) (tsV (List.drop 0 bs) (rdL bs.length) 1) (tsV (List.drop 0 bs) (rdL bs.length) 2) (tsV (List.drop 0 bs) (rdL bs.length) 3))) (brT (negB false (mpN (apX (List.drop 0 bs) (rdL bs.length) 0) (apY (List.drop 0 bs) (rdL bs.length) 0) (asX (List.drop 0 bs) (rdL bs.length) 0) (asY (List.drop 0 bs) (rdL bs.length) 0) (tsV (List.drop 0 bs) (rdL bs.length) 0) (tsV (List.drop 0 bs) (rdL bs.length) 1) (tsV (List.drop 0 bs) (rdL bs.length) 2) (tsV (List.drop 0 bs) (rdL bs.length) 3) 0 == mpN (apX (List.drop 0 bs) (rdL bs.length) 0) (apY (List.drop 0 bs) (rdL bs.length) 0) (asX (List.drop 0 bs) (rdL bs.length) 0) (asY (List.drop 0 bs) (rdL bs.length) 0) (tsV (List.drop 0 bs) (rdL bs.length) 0) (tsV (List.drop 0 bs) (rdL bs.length) 1) (tsV (List.drop 0 bs) (rdL bs.length) 2) (tsV (List.drop 0 bs) (rdL bs.length) 3) 0 && (mpN (apX (List.drop 0 bs) (rdL bs.length) 0) (apY (List.drop 0 bs) (rdL bs.length) 0) (asX (List.drop 0 bs) (rdL bs.length) 0) (asY (List.drop 0 bs) (rdL bs.length) 0) (tsV (List.drop 0 bs) (rdL bs.length) 0) (tsV (List.drop 0 bs) (rdL bs.length) 1) (tsV (List.drop 0 bs) (rdL bs.length) 2) (tsV (List.drop 0 bs) (rdL bs.length) 3) 1 == mpN (apX (List.drop 0 bs) (rdL bs.length) 0) (apY (List.drop 0 bs) (rdL bs.length) 0) (asX (List.drop 0 bs) (rdL bs.length) 0) (asY (List.drop 0 bs) (rdL bs.length) 0) (tsV (List.drop 0 bs) (rdL bs.length) 0) (tsV (List.drop 0 bs) (rdL bs.length) 1) (tsV (List.drop 0 bs) (rdL bs.length) 2) (tsV (List.drop 0 bs) (rdL bs.length) 3) 1 && true) && (mpN (apX (List.drop 0 bs) (rdL bs.length) 0) (apY (List.drop 0 bs) (rdL bs.length) 0) (asX (List.drop 0 bs) (rdL bs.length) 0) (asY (List.drop 0 bs) (rdL bs.length) 0) (tsV (List.drop 0 bs) (rdL bs.length) 0) (tsV (List.drop 0 bs) (rdL bs.length) 1) (tsV (List.drop 0 bs) (rdL bs.length) 2) (tsV (List.drop 0 bs) (rdL bs.length) 3) 2 == mpN (apX (List.drop 0 bs) (rdL bs.length) 0) (apY (List.drop 0 bs) (rdL bs.length) 0) (asX (List.drop 0 bs) (rdL bs.length) 0) (asY (List.drop 0 bs) (rdL bs.length) 0) (tsV (List.drop 0 bs) (rdL bs.length) 0) (tsV (List.drop 0 bs) (rdL bs.length) 1) (tsV (List.drop 0 bs) (rdL bs.length) 2) (tsV (List.drop 0 bs) (rdL bs.length) 3) 2 && (mpN (apX (List.drop 0 bs) (rdL bs.length) 0) (apY (List.drop 0 bs) (rdL bs.length) 0) (asX (List.drop 0 bs) (rdL bs.length) 0) (asY (List.drop 0 bs) (rdL bs.length) 0) (tsV (List.drop 0 bs) (rdL bs.length) 0) (tsV (List.drop 0 bs) (rdL bs.length) 1) (tsV (List.drop 0 bs) (rdL bs.length) 2) (tsV (List.drop 0 bs) (rdL bs.length) 3) 3 == mpN (apX (List.drop 0 bs) (rdL bs.length) 0) (apY (List.drop 0 bs) (rdL bs.length) 0) (asX (List.drop 0 bs) (rdL bs.length) 0) (asY (List.drop 0 bs) (rdL bs.length) 0) (tsV (List.drop 0 bs) (rdL bs.length) 0) (tsV (List.drop 0 bs) (rdL bs.length) 1) (tsV (List.drop 0 bs) (rdL bs.length) 2) (tsV (List.drop 0 bs) (rdL bs.length) 3) 3 && true) && true))) (brT (!relV (apX (List.drop 0 bs) (rdL bs.length) 0) (apY (List.drop 0 bs) (rdL bs.length) 0) (asX (List.drop 0 bs) (rdL bs.length) 0) (asY (List.drop 0 bs) (rdL bs.length) 0) (tsV (List.drop 0 bs) (rdL bs.length) 0) (tsV (List.drop 0 bs) (rdL bs.length) 1) (tsV (List.drop 0 bs) (rdL bs.length) 2) (tsV (List.drop 0 bs) (rdL bs.length) 3) == 1) (.fin (.bool (!relV (apX (List.drop 0 bs) (rdL bs.length) 0) (apY (List.drop 0 bs) (rdL bs.length) 0) (asX (List.drop 0 bs) (rdL bs.length) 0) (asY (List.drop 0 bs) (rdL bs.length) 0) (tsV (List.drop 0 bs) (rdL bs.length) 0) (tsV (List.drop 0 bs) (rdL bs.length) 1) (tsV (List.drop 0 bs) (rdL bs.length) 2) (tsV (List.drop 0 bs) (rdL bs.length) 3) == 2)) []) (.fin (.bool (false)) [])) (.fin (.bool (false)) [])) (.fin (.bool (false)) [])) (brT (negB true (mpN (apX (List.drop 0 bs) (rdL bs.length) 0) (apY (List.drop 0 bs) (rdL bs.length) 0) (asX (List.drop 0 bs) (rdL bs.length) 0) (asY (List.drop 0 bs) (rdL bs.length) 0) (tsV (List.drop 0 bs) (rdL bs.length) 0) (tsV (List.drop 0 bs) (rdL bs.length) 1) (tsV (List.drop 0 bs) (rdL bs.length) 2) (tsV (List.drop 0 bs) (rdL bs.length) 3) 0 == mpN (apX (List.drop 0 bs) (rdL bs.length) 0) (apY (List.drop 0 bs) (rdL bs.length) 0) (asX (List.drop 0 bs) (rdL bs.length) 0) (asY (List.drop 0 bs) (rdL bs.length) 0) (tsV (List.drop 0 bs) (rdL bs.length) 0) (tsV (List.drop 0 bs) (rdL bs.length) 1) (tsV (List.drop 0 bs) (rdL bs.length) 2) (tsV (List.drop 0 bs) (rdL bs.length) 3) 0 && (mpN (apX (List.drop 0 bs) (rdL bs.length) 0) (apY (List.drop 0 bs) (rdL bs.length) 0) (asX (List.drop 0 bs) (rdL bs.length) 0) (asY (List.drop 0 bs) (rdL bs.length) 0) (tsV (List.drop 0 bs) (rdL bs.length) 0) (tsV (List.drop 0 bs) (rdL bs.length) 1) (tsV (List.drop 0 bs) (rdL bs.length) 2) (tsV (List.drop 0 bs) (rdL bs.length) 3) 1 == mpN (apX (List.drop 0 bs) (rdL bs.length) 0) (apY (List.drop 0 bs) (rdL bs.length) 0) (asX (List.drop 0 bs) (rdL bs.length) 0) (asY (List.drop 0 bs) (rdL bs.length) 0) (tsV (List.drop 0 bs) (rdL bs.length) 0) (tsV (List.drop 0 bs) (rdL bs.length) 1) (tsV (List.drop 0 bs) (rdL bs.length) 2) (tsV (List.drop 0 bs) (rdL bs.length) 3) 1 && true) && (mpN (apX (List.drop 0 bs) (rdL bs.length) 0) (apY (List.drop 0 bs) (rdL bs.length) 0) (asX (List.drop 0 bs) (rdL bs.length) 0) (asY (List.drop 0 bs) (rdL bs.length) 0) (tsV (List.drop 0 bs) (rdL bs.length) 0) (tsV (List.drop 0 bs) (rdL bs.length) 1) (tsV (List.drop 0 bs) (rdL bs.length) 2) (tsV (List.drop 0 bs) (rdL bs.length) 3) 2 == mpN (apX (List.drop 0 bs) (rdL bs.length) 0) (apY (List.drop 0 bs) (rdL bs.length) 0) (asX (List.drop 0 bs) (rdL bs.length) 0) (asY (List.drop 0 bs) (rdL bs.length) 0) (tsV (List.drop 0 bs) (rdL bs.length) 0) (tsV (List.drop 0 bs) (rdL bs.length) 1) (tsV (List.drop 0 bs) (rdL bs.length) 2) (tsV (List.drop 0 bs) (rdL bs.length) 3) 2 && (mpN (apX (List.drop 0 bs) (rdL bs.length) 0) (apY (List.drop 0 bs) (rdL bs.length) 0) (asX (List.drop 0 bs) (rdL bs.length) 0) (asY (List.drop 0 bs) (rdL bs.length) 0) (tsV (List.drop 0 bs) (rdL bs.length) 0) (tsV (List.drop 0 bs) (rdL bs.length) 1) (tsV (List.drop 0 bs) (rdL bs.length) 2) (tsV (List.drop 0 bs) (rdL bs.length) 3) 3 == mpN (apX (List.drop 0 bs) (rdL bs.length) 0) (apY (List.drop 0 bs) (rdL bs.length) 0) (asX (List.drop 0 bs) (rdL bs.length) 0) (asY (List.drop 0 bs) (rdL bs.length) 0) (tsV (List.drop 0 bs) (rdL bs.length) 0) (tsV (List.drop 0 bs) (rdL bs.length) 1) (tsV (List.drop 0 bs) (rdL bs.length) 2) (tsV (List.drop 0 bs) (rdL bs.length) 3) 3 && true) && true))) (brT (mpB (mpV (apX (List.drop 0 bs) (rdL bs.length) 0) (apY (List.drop 0 bs) (rdL bs.length) 0) (asX (List.drop 0 bs) (rdL bs.length) 0) (asY (List.drop 0 bs) (rdL bs.length) 0) (tsV (List.drop 0 bs) (rdL bs.length) 0) (tsV (List.drop 0 bs) (rdL bs.length) 1) (tsV (List.drop 0 bs) (rdL bs.length) 2) (tsV (List.drop 0 bs) (rdL bs.length) 3)) == mpB (mpV (apX (List.drop 0 bs) (rdL bs.length) 0) (apY (List.drop 0 bs) (rdL bs.length) 0) (asX (List.drop 0 bs) (rdL bs.length) 0) (asY (List.drop 0 bs) (rdL bs.length) 0) (tsV (List.drop 0 bs) (rdL bs.length) 0) (tsV (List.drop 0 bs) (rdL bs.length) 1) (tsV (List.drop 0 bs) (rdL bs.length) 2) (tsV (List.drop 0 bs) (rdL bs.length) 3))) (brT (negB false (mpN (apX (List.drop 0 bs) (rdL bs.length) 0) (apY (List.drop 0 bs) (rdL bs.length) 0) (asX (List.drop 0 bs) (rdL bs.length) 0) (asY (List.drop 0 bs) (rdL bs.length) 0) (tsV (List.drop 0 bs) (rdL bs.length) 0) (tsV (List.drop 0 bs) (rdL bs.length) 1) (tsV (List.drop 0 bs) (rdL bs.length) 2) (tsV (List.drop 0 bs) (rdL bs.length) 3) 0 == mpN (apX (List.drop 0 bs) (rdL bs.length) 0) (apY (List.drop 0 bs) (rdL bs.length) 0) (asX (List.drop 0 bs) (rdL bs.length) 0) (asY (List.drop 0 bs) (rdL bs.length) 0) (tsV (List.drop 0 bs) (rdL bs.length) 0) (tsV (List.drop 0 bs) (rdL bs.length) 1) (tsV (List.drop 0 bs) (rdL bs.length) 2) (tsV (List.drop 0 bs) (rdL bs.length) 3) 0 && (mpN (apX (List.drop 0 bs) (rdL bs.length) 0) (apY (List.drop 0 bs) (rdL bs.length) 0) (asX (List.drop 0 bs) (rdL bs.length) 0) (asY (List.drop 0 bs) (rdL bs.length) 0) (tsV (List.drop 0 bs) (rdL bs.length) 0) (tsV (List.drop 0 bs) (rdL bs.length) 1) (tsV (List.drop 0 bs) (rdL bs.length) 2) (tsV (List.drop 0 bs) (rdL bs.length) 3) 1 == mpN (apX (List.drop 0 bs) (rdL bs.length) 0) (apY (List.drop 0 bs) (rdL bs.length) 0) (asX (List.drop 0 bs) (rdL bs.length) 0) (asY (List.drop 0 bs) (rdL bs.length) 0) (tsV (List.drop 0 bs) (rdL bs.length) 0) (tsV (List.drop 0 bs) (rdL bs.length) 1) (tsV (List.drop 0 bs) (rdL bs.length) 2) (tsV (List.drop 0 bs) (rdL bs.length) 3) 1 && true) && (mpN (apX (List.drop 0 bs) (rdL bs.length) 0) (apY (List.drop 0 bs) (rdL bs.length) 0) (asX (List.drop 0 bs) (rdL bs.length) 0) (asY (List.drop 0 bs) (rdL bs.length) 0) (tsV (List.drop 0 bs) (rdL bs.length) 0) (tsV (List.drop 0 bs) (rdL bs.length) 1) (tsV (List.drop 0 bs) (rdL bs.length) 2) (tsV (List.drop 0 bs) (rdL bs.length) 3) 2 == mpN (apX (List.drop 0 bs) (rdL bs.length) 0) (apY (List.drop 0 bs) (rdL bs.length) 0) (asX (List.drop 0 bs) (rdL bs.length) 0) (asY (List.drop 0 bs) (rdL bs.length) 0) (tsV (List.drop 0 bs) (rdL bs.length) 0) (tsV (List.drop 0 bs) (rdL bs.length) 1) (tsV (List.drop 0 bs) (rdL bs.length) 2) (tsV (List.drop 0 bs) (rdL bs.length) 3) 2 && (mpN (apX (List.drop 0 bs) (rdL bs.length) 0) (apY (List.drop 0 bs) (rdL bs.length) 0) (asX (List.drop 0 bs) (rdL bs.length) 0) (asY (List.drop 0 bs) (rdL bs.length) 0) (tsV (List.drop 0 bs) (rdL bs.length) 0) (tsV (List.drop 0 bs) (rdL bs.length) 1) (tsV (List.drop 0 bs) (rdL bs.length) 2) (tsV (List.drop 0 bs) (rdL bs.length) 3) 3 == mpN (apX (List.drop 0 bs) (rdL bs.length) 0) (apY (List.drop 0 bs) (rdL bs.length) 0) (asX (List.drop 0 bs) (rdL bs.length) 0) (asY (List.drop 0 bs) (rdL bs.length) 0) (tsV (List.drop 0 bs) (rdL bs.length) 0) (tsV (List.drop 0 bs) (rdL bs.length) 1) (tsV (List.drop 0 bs) (rdL bs.length) 2) (tsV (List.drop 0 bs) (rdL bs.length) 3) 3 && true) && true))) (brT (!relV (apX (List.drop 0 bs) (rdL bs.length) 0) (apY (List.drop 0 bs) (rdL bs.length) 0) (asX (List.drop 0 bs) (rdL bs.length) 0) (asY (List.drop 0 bs) (rdL bs.length) 0) (tsV (List.drop 0 bs) (rdL bs.length) 0) (tsV (List.drop 0 bs) (rdL bs.length) 1) (tsV (List.drop 0 bs) (rdL bs.length) 2) (tsV (List.drop 0 bs) (rdL bs.length) 3) == 1) (.fin (.bool (!relV (apX (List.drop 0 bs) (rdL bs.length) 0) (apY (List.drop 0 bs) (rdL bs.length) 0) (asX (List.drop 0 bs) (rdL bs.length) 0) (asY (List.drop 0 bs) (rdL bs.length) 0) (tsV (List.drop 0 bs) (rdL bs.length) 0) (tsV (List.drop 0 bs) (rdL bs.length) 1) (tsV (List.drop 0 bs) (rdL bs.length) 2) (tsV (List.drop 0 bs) (rdL bs.length) 3) == 2)) []) (.fin (.bool (false)) [])) (.fin (.bool (false)) [])) (.fin (.bool (false)) [])) (brT (!mpB (mpV (apX (List.drop 0 bs) (rdL bs.length) 0) (apY (List.drop 0 bs) (rdL bs.length) 0) (asX (List.drop 0 bs) (rdL bs.length) 0) (asY (List.drop 0 bs) (rdL bs.length) 0) (tsV (List.drop 0 bs) (rdL bs.length) 0) (tsV (List.drop 0 bs) (rdL bs.length) 1) (tsV (List.drop 0 bs) (rdL bs.length) 2) (tsV (List.drop 0 bs) (rdL bs.length) 3))) (brT (mpB (mpV (apX (List.drop 0 bs) (rdL bs.length) 0) (apY (List.drop 0 bs) (rdL bs.length) 0) (asX (List.drop 0 bs) (rdL bs.length) 0) (asY (List.drop 0 bs) (rdL bs.length) 0) (tsV (List.drop 0 bs) (rdL bs.length) 0) (tsV (List.drop 0 bs) (rdL bs.length) 1) (tsV (List.drop 0 bs) (rdL bs.length) 2) (tsV (List.drop 0 bs) (rdL bs.length) 3)) == mpB (mpV (apX (List.drop 0 bs) (rdL bs.length) 0) (apY (List.drop 0 bs) (rdL bs.length) 0) (asX (List.drop 0 bs) (rdL bs.length) 0) (asY (List.drop 0 bs) (rdL bs.length) 0) (tsV (List.drop 0 bs) (rdL bs.length) 0) (tsV (List.drop 0 bs) (rdL bs.length) 1) (tsV (List.drop 0 bs) (rdL bs.length) 2) (tsV (List.drop 0 bs) (rdL bs.length) 3))) (brT (negB false (mpN (apX (List.drop 0 bs) (rdL bs.length) 0) (apY (List.drop 0 bs) (rdL bs.length) 0) (asX (List.drop 0 bs) (rdL bs.length) 0) (asY (List.drop 0 bs) (rdL bs.length) 0) (tsV (List.drop 0 bs) (rdL bs.length) 0) (tsV (List.drop 0 bs) (rdL bs.length) 1) (tsV (List.drop 0 bs) (rdL bs.length) 2) (tsV (List.drop 0 bs) (rdL bs.length) 3) 0 == mpN (apX (List.drop 0 bs) (rdL bs.length) 0) (apY (List.drop 0 bs) (rdL bs.length) 0) (asX (List.drop 0 bs) (rdL bs.length) 0) (asY (List.drop 0 bs) (rdL bs.length) 0) (tsV (List.drop 0 bs) (rdL bs.length) 0) (tsV (List.drop 0 bs) (rdL bs.length) 1) (tsV (List.drop 0 bs) (rdL bs.length) 2) (tsV (List.drop 0 bs) (rdL bs.length) 3) 0 && (mpN (apX (List.drop 0 bs) (rdL bs.length) 0) (apY (List.drop 0 bs) (rdL bs.length) 0) (asX (List.drop 0 bs) (rdL bs.length) 0) (asY (List.drop 0 bs) (rdL bs.length) 0) (tsV (List.drop 0 bs) (rdL bs.length) 0) (tsV (List.drop 0 bs) (rdL bs.length) 1) (tsV (List.drop 0 bs) (rdL bs.length) 2) (tsV (List.drop 0 bs) (rdL bs.length) 3) 1 == mpN (apX (List.drop 0 bs) (rdL bs.length) 0) (apY (List.drop 0 bs) (rdL bs.length) 0) (asX (List.drop 0 bs) (rdL bs.length) 0) (asY (List.drop 0 bs) (rdL bs.length) 0) (tsV (List.drop 0 bs) (rdL bs.length) 0) (tsV (List.drop 0 bs) (rdL bs.length) 1) (tsV (List.drop 0 bs) (rdL bs.length) 2) (tsV (List.drop 0 bs) (rdL bs.length) 3) 1 && true) && (mpN (apX (List.drop 0 bs) (rdL bs.length) 0) (apY (List.drop 0 bs) (rdL bs.length) 0) (asX (List.drop 0 bs) (rdL bs.length) 0) (asY (List.drop 0 bs) (rdL bs.length) 0) (tsV (List.drop 0 bs) (rdL bs.length) 0) (tsV (List.drop 0 bs) (rdL bs.length) 1) (tsV (List.drop 0 bs) (rdL bs.length) 2) (tsV (List.drop 0 bs) (rdL bs.length) 3) 2 == mpN (apX (List.drop 0 bs) (rdL bs.length) 0) (apY (List.drop 0 bs) (rdL bs.length) 0) (asX (List.drop 0 bs) (rdL bs.length) 0) (asY (List.drop 0 bs) (rdL bs.length) 0) (tsV (List.drop 0 bs) (rdL bs.length) 0) (tsV (List.drop 0 bs) (rdL bs.length) 1) (tsV (List.drop 0 bs) (rdL bs.length) 2) (tsV (List.drop 0 bs) (rdL bs.length) 3) 2 && (mpN (apX (List.drop 0 bs) (rdL bs.length) 0) (apY (List.drop 0 bs) (rdL bs.length) 0) (asX (List.drop 0 bs) (rdL bs.length) 0) (asY (List.drop 0 bs) (rdL bs.length) 0) (tsV (List.drop 0 bs) (rdL bs.length) 0) (tsV (List.drop 0 bs) (rdL bs.length) 1) (tsV (List.drop 0 bs) (rdL bs.length) 2) (tsV (List.drop 0 bs) (rdL bs.length) 3) 3 == mpN (apX (List.drop 0 bs) (rdL bs.length) 0) (apY (List.drop 0 bs) (rdL bs.length) 0) (asX (List.drop 0 bs) (rdL bs.length) 0) (asY (List.drop 0 bs) (rdL bs.length) 0) (tsV (List.drop 0 bs) (rdL bs.length) 0) (tsV (List.drop 0 bs) (rdL bs.length) 1) (tsV (List.drop 0 bs) (rdL bs.length) 2) (tsV (List.drop 0 bs) (rdL bs.length) 3) 3 && true) && true))) (brT (!relV (apX (List.drop 0 bs) (rdL bs.length) 0) (apY (List.drop 0 bs) (rdL bs.length) 0) (asX (List.drop 0 bs) (rdL bs.length) 0) (asY (List.drop 0 bs) (rdL bs.length) 0) (tsV (List.drop 0 bs) (rdL bs.length) 0) (tsV (List.drop 0 bs) (rdL bs.length) 1) (tsV (List.drop 0 bs) (rdL bs.length) 2) (tsV (List.drop 0 bs) (rdL bs.length) 3) == 1) (.fin (.bool (!relV (apX (List.drop 0 bs) (rdL bs.length) 0) (apY (List.drop 0 bs) (rdL bs.length) 0) (asX (List.drop 0 bs) (rdL bs.length) 0) (asY (List.drop 0 bs) (rdL bs.length) 0) (tsV (List.drop 0 bs) (rdL bs.length) 0) (tsV (List.drop 0 bs) (rdL bs.length) 1) (tsV (List.drop 0 bs) (rdL bs.length) 2) (tsV (List.drop 0 bs) (rdL bs.length) 3) == 2)) []) (.fin (.bool (false)) [])) (.fin (.bool (false)) [])) (.fin (.bool (false)) [])) (brT (relV (apX (List.drop 0 bs) (rdL bs.length) 0) (apY (List.drop 0 bs) (rdL bs.length) 0) (asX (List.drop 0 bs) (rdL bs.length) 0) (asY (List.drop 0 bs) (rdL bs.length) 0) (tsV (List.drop 0 bs) (rdL bs.length) 0) (tsV (List.drop 0 bs) (rdL bs.length) 1) (tsV (List.drop 0 bs) (rdL bs.length) 2) (tsV (List.drop 0 bs) (rdL bs.length) 3) == 1) (brT (mpB (mpV (tsV (List.drop 0 bs) (rdL bs.length) 0) (tsV (List.drop 0 bs) (rdL bs.length) 1) (tsV (List.drop 0 bs) (rdL bs.length) 2) (tsV (List.drop 0 bs) (rdL bs.length) 3) (apX (List.drop 0 bs) (rdL bs.length) 0) (apY (List.drop 0 bs) (rdL bs.length) 0) (asX (List.drop 0 bs) (rdL bs.length) 0) (asY (List.drop 0 bs) (rdL bs.length) 0))) (brT (negB false (mpN (tsV (List.drop 0 bs) (rdL bs.length) 0) (tsV (List.drop 0 bs) (rdL bs.length) 1) (tsV (List.drop 0 bs) (rdL bs.length) 2) (tsV (List.drop 0 bs) (rdL bs.length) 3) (apX (List.drop 0 bs) (rdL bs.length) 0) (apY (List.drop 0 bs) (rdL bs.length) 0) (asX (List.drop 0 bs) (rdL bs.length) 0) (asY (List.drop 0 bs) (rdL bs.length) 0) 0 == mpN (apX (List.drop 0 bs) (rdL bs.length) 0) (apY (List.drop 0 bs) (rdL bs.length) 0) (asX (List.drop 0 bs) (rdL bs.length) 0) (asY (List.drop 0 bs) (rdL bs.length) 0) (tsV (List.drop 0 bs) (rdL bs.length) 0) (tsV (List.drop 0 bs) (rdL bs.length) 1) (tsV (List.drop 0 bs) (rdL bs.length) 2) (tsV (List.drop 0 bs) (rdL bs.length) 3) 0 && (mpN (tsV (List.drop 0 bs) (rdL bs.length) 0) (tsV (List.drop 0 bs) (rdL bs.length) 1) (tsV (List.drop 0 bs) (rdL bs.length) 2) (tsV (List.drop 0 bs) (rdL bs.length) 3) (apX (List.drop 0 bs) (rdL bs.length) 0) (apY (List.drop 0 bs) (rdL bs.length) 0) (asX (List.drop 0 bs) (rdL bs.length) 0) (asY (List.drop 0 bs) (rdL bs.length) 0) 1 == mpN (apX (List.drop 0 bs) (rdL bs.length) 0) (apY (List.drop 0 bs) (rdL bs.length) 0) (asX (List.drop 0 bs) (rdL bs.length) 0) (asY (List.drop 0 bs) (rdL bs.length) 0) (tsV (List.drop 0 bs) (rdL bs.length) 0) (tsV (List.drop 0 bs) (rdL bs.length) 1) (tsV (List.drop 0 bs) (rdL bs.length) 2) (tsV (List.drop 0 bs) (rdL bs.length) 3) 1 && true) && (mpN (tsV (List.drop 0 bs) (rdL bs.length) 0) (tsV (List.drop 0 bs) (rdL bs.length) 1) (tsV (List.drop 0 bs) (rdL bs.length) 2) (tsV (List.drop 0 bs) (rdL bs.length) 3) (apX (List.drop 0 bs) (rdL bs.length) 0) (apY (List.drop 0 bs) (rdL bs.length) 0) (asX (List.drop 0 bs) (rdL bs.length) 0) (asY (List.drop 0 bs) (rdL bs.length) 0) 2 == mpN (apX (List.drop 0 bs) (rdL bs.length) 0) (apY (List.drop 0 bs) (rdL bs.length) 0) (asX (List.drop 0 bs) (rdL bs.length) 0) (asY (List.drop 0 bs) (rdL bs.length) 0) (tsV (List.drop 0 bs) (rdL bs.length) 0) (tsV (List.drop 0 bs) (rdL bs.length) 1) (tsV (List.drop 0 bs) (rdL bs.length) 2) (tsV (List.drop 0 bs) (rdL bs.length) 3) 2 && (mpN (tsV (List.drop 0 bs) (rdL bs.length) 0) (tsV (List.drop 0 bs) (rdL bs.length) 1) (tsV (List.drop 0 bs) (rdL bs.length) 2) (tsV (List.drop 0 bs) (rdL bs.length) 3) (apX (List.drop 0 bs) (rdL bs.length) 0) (apY (List.drop 0 bs) (rdL bs.length) 0) (asX (List.drop 0 bs) (rdL bs.length) 0) (asY (List.drop 0 bs) (rdL bs.length) 0) 3 == mpN (apX (List.drop 0 bs) (rdL bs.length) 0) (apY (List.drop 0 bs) (rdL bs.length) 0) (asX (List.drop 0 bs) (rdL bs.length) 0) (asY (List.drop 0 bs) (rdL bs.length) 0) (tsV (List.drop 0 bs) (rdL bs.length) 0) (tsV (List.drop 0 bs) (rdL bs.length) 1) (tsV (List.drop 0 bs) (rdL bs.length) 2) (tsV (List.drop 0 bs) (rdL bs.length) 3) 3 && true) && true))) (brT (sideRL (thP (apX (List.drop 0 bs) (rdL bs.length) 0) (apY (List.drop 0 bs) (rdL bs.length) 0) (asX (List.drop 0 bs) (rdL bs.length) 0) (asY (List.drop 0 bs) (rdL bs.length) 0) 0) (thP (apX (List.drop 0 bs) (rdL bs.length) 0) (apY (List.drop 0 bs) (rdL bs.length) 0) (asX (List.drop 0 bs) (rdL bs.length) 0) (asY (List.drop 0 bs) (rdL bs.length) 0) 1) (thP (apX (List.drop 0 bs) (rdL bs.length) 0) (apY (List.drop 0 bs) (rdL bs.length) 0) (asX (List.drop 0 bs) (rdL bs.length) 0) (asY (List.drop 0 bs) (rdL bs.length) 0) 2) (mpN (apX (List.drop 0 bs) (rdL bs.length) 0) (apY (List.drop 0 bs) (rdL bs.length) 0) (asX (List.drop 0 bs) (rdL bs.length) 0) (asY (List.drop 0 bs) (rdL bs.length) 0) (tsV (List.drop 0 bs) (rdL bs.length) 0) (tsV (List.drop 0 bs) (rdL bs.length) 1) (tsV (List.drop 0 bs) (rdL bs.length) 2) (tsV (List.drop 0 bs) (rdL bs.length) 3) 0) (mpN (apX (List.drop 0 bs) (rdL bs.length) 0) (apY (List.drop 0 bs) (rdL bs.length) 0) (asX (List.drop 0 bs) (rdL bs.length) 0) (asY (List.drop 0 bs) (rdL bs.length) 0) (tsV (List.drop 0 bs) (rdL bs.length) 0) (tsV (List.drop 0 bs) (rdL bs.length) 1) (tsV (List.drop 0 bs) (rdL bs.length) 2) (tsV (List.drop 0 bs) (rdL bs.length) 3) 1) (mpN (apX (List.drop 0 bs) (rdL bs.length) 0) (apY (List.drop 0 bs) (rdL bs.length) 0) (asX (List.drop 0 bs) (rdL bs.length) 0) (asY (List.drop 0 bs) (rdL bs.length) 0) (tsV (List.drop 0 bs) (rdL bs.length) 0) (tsV (List.drop 0 bs) (rdL bs.length) 1) (tsV (List.drop 0 bs) (rdL bs.length) 2) (tsV (List.drop 0 bs) (rdL bs.length) 3) 2) (mpN (apX (List.drop 0 bs) (rdL bs.length) 0) (apY (List.drop 0 bs) (rdL bs.length) 0) (asX (List.drop 0 bs) (rdL bs.length) 0) (asY (List.drop 0 bs) (rdL bs.length) 0) (tsV (List.drop 0 bs) (rdL bs.length) 0) (tsV (List.drop 0 bs) (rdL bs.length) 1) (tsV (List.drop 0 bs) (rdL bs.length) 2) (tsV (List.drop 0 bs) (rdL bs.length) 3) 3) == 0) (.fin (.bool (sideRL (thP (tsV (List.drop 0 bs) (rdL bs.length) 0) (tsV (List.drop 0 bs) (rdL bs.length) 1) (tsV (List.drop 0 bs) (rdL bs.length) 2) (tsV (List.drop 0 bs) (rdL bs.length) 3) 0) (thP (tsV (List.drop 0 bs) (rdL bs.length) 0) (tsV (List.drop 0 bs) (rdL bs.length) 1) (tsV (List.drop 0 bs) (rdL bs.length) 2) (tsV (List.drop 0 bs) (rdL bs.length) 3) 1) (thP (tsV (List.drop 0 bs) (rdL bs.length) 0) (tsV (List.drop 0 bs) (rdL bs.length) 1) (tsV (List.drop 0 bs) (rdL bs.length) 2) (tsV (List.drop 0 bs) (rdL bs.length) 3) 2) (mpN (apX (List.drop 0 bs) (rdL bs.length) 0) (apY (List.drop 0 bs) (rdL bs.length) 0) (asX (List.drop 0 bs) (rdL bs.length) 0) (asY (List.drop 0 bs) (rdL bs.length) 0) (tsV (List.drop 0 bs) (rdL bs.length) 0) (tsV (List.drop 0 bs) (rdL bs.length) 1) (tsV (List.drop 0 bs) (rdL bs.length) 2) (tsV (List.drop 0 bs) (rdL bs.length) 3) 0) (mpN (apX (List.drop 0 bs) (rdL bs.length) 0) (apY (List.drop 0 bs) (rdL bs.length) 0) (asX (List.drop 0 bs) (rdL bs.length) 0) (asY (List.drop 0 bs) (rdL bs.length) 0) (tsV (List.drop 0 bs) (rdL bs.length) 0) (tsV (List.drop 0 bs) (rdL bs.length) 1) (tsV (List.drop 0 bs) (rdL bs.length) 2) (tsV (List.drop 0 bs) (rdL bs.length) 3) 1) (mpN (apX (List.drop 0 bs) (rdL bs.length) 0) (apY (List.drop 0 bs) (rdL bs.length) 0) (asX (List.drop 0 bs) (rdL bs.length) 0) (asY (List.drop 0 bs) (rdL bs.length) 0) (tsV (List.drop 0 bs) (rdL bs.length) 0) (tsV (List.drop 0 bs) (rdL bs.length) 1) (tsV (List.drop 0 bs) (rdL bs.length) 2) (tsV (List.drop 0 bs) (rdL bs.length) 3) 2) (mpN (apX (List.drop 0 bs) (rdL bs.length) 0) (apY (List.drop 0 bs) (rdL bs.length) 0) (asX (List.drop 0 bs) (rdL bs.length) 0) (asY (List.drop 0 bs) (rdL bs.length) 0) (tsV (List.drop 0 bs) (rdL bs.length) 0) (tsV (List.drop 0 bs) (rdL bs.length) 1) (tsV (List.drop 0 bs) (rdL bs.length) 2) (tsV (List.drop 0 bs) (rdL bs.length) 3) 3) == 0)) []) (.fin (.bool (false)) [])) (.fin (.bool (false)) [])) (.fin (.bool (false)) [])) (brT (relV (apX (List.drop 0 bs) (rdL bs.length) 0) (apY (List.drop 0 bs) (rdL bs.length) 0) (asX (List.drop 0 bs) (rdL bs.length) 0) (asY (List.drop 0 bs) (rdL bs.length) 0) (tsV (List.drop 0 bs) (rdL bs.length) 0) (tsV (List.drop 0 bs) (rdL bs.length) 1) (tsV (List.drop 0 bs) (rdL bs.length) 2) (tsV (List.drop 0 bs) (rdL bs.length) 3) == 2) (brT (mpB (mpV (tsV (List.drop 0 bs) (rdL bs.length) 0) (tsV (List.drop 0 bs) (rdL bs.length) 1) (tsV (List.drop 0 bs) (rdL bs.length) 2) (tsV (List.drop 0 bs) (rdL bs.length) 3) (apX (List.drop 0 bs) (rdL bs.length) 0) (apY (List.drop 0 bs) (rdL bs.length) 0) (asX (List.drop 0 bs) (rdL bs.length) 0) (asY (List.drop 0 bs) (rdL bs.length) 0))) (brT (negB false (mpN (tsV (List.drop 0 bs) (rdL bs.length) 0) (tsV (List.drop 0 bs) (rdL bs.length) 1) (tsV (List.drop 0 bs) (rdL bs.length) 2) (tsV (List.drop 0 bs) (rdL bs.length) 3) (apX (List.drop 0 bs) (rdL bs.length) 0) (apY (List.drop 0 bs) (rdL bs.length) 0) (asX (List.drop 0 bs) (rdL bs.length) 0) (asY (List.drop 0 bs) (rdL bs.length) 0) 0 == mpN (apX (List.drop 0 bs) (rdL bs.length) 0) (apY (List.drop 0 bs) (rdL bs.length) 0) (asX (List.drop 0 bs) (rdL bs.length) 0) (asY (List.drop 0 bs) (rdL bs.length) 0) (tsV (List.drop 0 bs) (rdL bs.length) 0) (tsV (List.drop 0 bs) (rdL bs.length) 1) (tsV (List.drop 0 bs) (rdL bs.length) 2) (tsV (List.drop 0 bs) (rdL bs.length) 3) 0 && (mpN (tsV (List.drop 0 bs) (rdL bs.length) 0) (tsV (List.drop 0 bs) (rdL bs.length) 1) (tsV (List.drop 0 bs) (rdL bs.length) 2) (tsV (List.drop 0 bs) (rdL bs.length) 3) (apX (List.drop 0 bs) (rdL bs.length) 0) (apY (List.drop 0 bs) (rdL bs.length) 0) (asX (List.drop 0 bs) (rdL bs.length) 0) (asY (List.drop 0 bs) (rdL bs.length) 0) 1 == mpN (apX (List.drop 0 bs) (rdL bs.length) 0) (apY (List.drop 0 bs) (rdL bs.length) 0) (asX (List.drop 0 bs) (rdL bs.length) 0) (asY (List.drop 0 bs) (rdL bs.length) 0) (tsV (List.drop 0 bs) (rdL bs.length) 0) (tsV (List.drop 0 bs) (rdL bs.length) 1) (tsV (List.drop 0 bs) (rdL bs.length) 2) (tsV (List.drop 0 bs) (rdL bs.length) 3) 1 && true) && (mpN (tsV (List.drop 0 bs) (rdL bs.length) 0) (tsV (List.drop 0 bs) (rdL bs.length) 1) (tsV (List.drop 0 bs) (rdL bs.length) 2) (tsV (List.drop 0 bs) (rdL bs.length) 3) (apX (List.drop 0 bs) (rdL bs.length) 0) (apY (List.drop 0 bs) (rdL bs.length) 0) (asX (List.drop 0 bs) (rdL bs.length) 0) (asY (List.drop 0 bs) (rdL bs.length) 0) 2 == mpN (apX (List.drop 0 bs) (rdL bs.length) 0) (apY (List.drop 0 bs) (rdL bs.length) 0) (asX (List.drop 0 bs) (rdL bs.length) 0) (asY (List.drop 0 bs) (rdL bs.length) 0) (tsV (List.drop 0 bs) (rdL bs.length) 0) (tsV (List.drop 0 bs) (rdL bs.length) 1) (tsV (List.drop 0 bs) (rdL bs.length) 2) (tsV (List.drop 0 bs) (rdL bs.length) 3) 2 && (mpN (tsV (List.drop 0 bs) (rdL bs.length) 0) (tsV (List.drop 0 bs) (rdL bs.length) 1) (tsV (List.drop 0 bs) (rdL bs.length) 2) (tsV (List.drop 0 bs) (rdL bs.length) 3) (apX (List.drop 0 bs) (rdL bs.length) 0) (apY (List.drop 0 bs) (rdL bs.length) 0) (asX (List.drop 0 bs) (rdL bs.length) 0) (asY (List.drop 0 bs) (rdL bs.length) 0) 3 == mpN (apX (List.drop 0 bs) (rdL bs.length) 0) (apY (List.drop 0 bs) (rdL bs.length) 0) (asX (List.drop 0 bs) (rdL bs.length) 0) (asY (List.drop 0 bs) (rdL bs.length) 0) (tsV (List.drop 0 bs) (rdL bs.length) 0) (tsV (List.drop 0 bs) (rdL bs.length) 1) (tsV (List.drop 0 bs) (rdL bs.length) 2) (tsV (List.drop 0 bs) (rdL bs.length) 3) 3 && true) && true))) (brT (sideRL (thP (apX (List.drop 0 bs) (rdL bs.length) 0) (apY (List.drop 0 bs) (rdL bs.length) 0) (asX (List.drop 0 bs) (rdL bs.length) 0) (asY (List.drop 0 bs) (rdL bs.length) 0) 0) (thP (apX (List.drop 0 bs) (rdL bs.length) 0) (apY (List.drop 0 bs) (rdL bs.length) 0) (asX (List.drop 0 bs) (rdL bs.length) 0) (asY (List.drop 0 bs) (rdL bs.length) 0) 1) (thP (apX (List.drop 0 bs) (rdL bs.length) 0) (apY (List.drop 0 bs) (rdL bs.length) 0) (asX (List.drop 0 bs) (rdL bs.length) 0) (asY (List.drop 0 bs) (rdL bs.length) 0) 2) (mpN (apX (List.drop 0 bs) (rdL bs.length) 0) (apY (List.drop 0 bs) (rdL bs.length) 0) (asX (List.drop 0 bs) (rdL bs.length) 0) (asY (List.drop 0 bs) (rdL bs.length) 0) (tsV (List.drop 0 bs) (rdL bs.length) 0) (tsV (List.drop 0 bs) (rdL bs.length) 1) (tsV (List.drop 0 bs) (rdL bs.length) 2) (tsV (List.drop 0 bs) (rdL bs.length) 3) 0) (mpN (apX (List.drop 0 bs) (rdL bs.length) 0) (apY (List.drop 0 bs) (rdL bs.length) 0) (asX (List.drop 0 bs) (rdL bs.length) 0) (asY (List.drop 0 bs) (rdL bs.length) 0) (tsV (List.drop 0 bs) (rdL bs.length) 0) (tsV (List.drop 0 bs) (rdL bs.length) 1) (tsV (List.drop 0 bs) (rdL bs.length) 2) (tsV (List.drop 0 bs) (rdL bs.length) 3) 1) (mpN (apX (List.drop 0 bs) (rdL bs.length) 0) (apY (List.drop 0 bs) (rdL bs.length) 0) (asX (List.drop 0 bs) (rdL bs.length) 0) (asY (List.drop 0 bs) (rdL bs.length) 0) (tsV (List.drop 0 bs) (rdL bs.length) 0) (tsV (List.drop 0 bs) (rdL bs.length) 1) (tsV (List.drop 0 bs) (rdL bs.length) 2) (tsV (List.drop 0 bs) (rdL bs.length) 3) 2) (mpN (apX (List.drop 0 bs) (rdL bs.length) 0) (apY (List.drop 0 bs) (rdL bs.length) 0) (asX (List.drop 0 bs) (rdL bs.length) 0) (asY (List.drop 0 bs) (rdL bs.length) 0) (tsV (List.drop 0 bs) (rdL bs.length) 0) (tsV (List.drop 0 bs) (rdL bs.length) 1) (tsV (List.drop 0 bs) (rdL bs.length) 2) (tsV (List.drop 0 bs) (rdL bs.length) 3) 3) == 0) (.fin (.bool (sideRL (thP (tsV (List.drop 0 bs) (rdL bs.length) 0) (tsV (List.drop 0 bs) (rdL bs.length) 1) (tsV (List.drop 0 bs) (rdL bs.length) 2) (tsV (List.drop 0 bs) (rdL bs.length) 3) 0) (thP (tsV (List.drop 0 bs) (rdL bs.length) 0) (tsV (List.drop 0 bs) (rdL bs.length) 1) (tsV (List.drop 0 bs) (rdL bs.length) 2) (tsV (List.drop 0 bs) (rdL bs.length) 3) 1) (thP (tsV (List.drop 0 bs) (rdL bs.length) 0) (tsV (List.drop 0 bs) (rdL bs.length) 1) (tsV (List.drop 0 bs) (rdL bs.length) 2) (tsV (List.drop 0 bs) (rdL bs.length) 3) 2) (mpN (apX (List.drop 0 bs) (rdL bs.length) 0) (apY (List.drop 0 bs) (rdL bs.length) 0) (asX (List.drop 0 bs) (rdL bs.length) 0) (asY (List.drop 0 bs) (rdL bs.length) 0) (tsV (List.drop 0 bs) (rdL bs.length) 0) (tsV (List.drop 0 bs) (rdL bs.length) 1) (tsV (List.drop 0 bs) (rdL bs.length) 2) (tsV (List.drop 0 bs) (rdL bs.length) 3) 0) (mpN (apX (List.drop 0 bs) (rdL bs.length) 0) (apY (List.drop 0 bs) (rdL bs.length) 0) (asX (List.drop 0 bs) (rdL bs.length) 0) (asY (List.drop 0 bs) (rdL bs.length) 0) (tsV (List.drop 0 bs) (rdL bs.length) 0) (tsV (List.drop 0 bs) (rdL bs.length) 1) (tsV (List.drop 0 bs) (rdL bs.length) 2) (tsV (List.drop 0 bs) (rdL bs.length) 3) 1) (mpN (apX (List.drop 0 bs) (rdL bs.length) 0) (apY (List.drop 0 bs) (rdL bs.length) 0) (asX (List.drop 0 bs) (rdL bs.length) 0) (asY (List.drop 0 bs) (rdL bs.length) 0) (tsV (List.drop 0 bs) (rdL bs.length) 0) (tsV (List.drop 0 bs) (rdL bs.length) 1) (tsV (List.drop 0 bs) (rdL bs.length) 2) (tsV (List.drop 0 bs) (rdL bs.length) 3) 2) (mpN (apX (List.drop 0 bs) (rdL bs.length) 0) (apY (List.drop 0 bs) (rdL bs.length) 0) (asX (List.drop 0 bs) (rdL bs.length) 0) (asY (List.drop 0 bs) (rdL bs.length) 0) (tsV (List.drop 0 bs) (rdL bs.length) 0) (tsV (List.drop 0 bs) (rdL bs.length) 1) (tsV (List.drop 0 bs) (rdL bs.length) 2) (tsV (List.drop 0 bs) (rdL bs.length) 3) 3) == 0)) []) (.fin (.bool (false)) [])) (.fin (.bool (false)) [])) (.fin (.bool (false)) [])) (.fin (.bool (false)) [])))))))) := by kernel_rfl
set_option maxRecDepth 100000 in
theorem tr_lCl (bs : List Int) : bodyV Try.prog (tabE TMq) 30 12 6 [.row bs.length (.bytes bs)] = brT (decide (1048576 < (↑bs.length : Int))) (.fin (.bool (true)) []) (.need (Bytes (List.drop (0 : Nat) bs)) (.need (bs.length ≤ (List.drop (0 : Nat) bs).length) (brT (!mpB (mpV (apX (List.drop 0 bs) (rdL bs.length) 0) (apY (List.drop 0 bs) (rdL bs.length) 0) (asX (List.drop 0 bs) (rdL bs.length) 0) (asY (List.drop 0 bs) (rdL bs.length) 0) (tsV (List.drop 0 bs) (rdL bs.length) 0) (tsV (List.drop 0 bs) (rdL bs.length) 1) (tsV (List.drop 0 bs) (rdL bs.length) 2) (tsV (List.drop 0 bs) (rdL bs.length) 3)) == mpB (mpV (apX (List.drop 0 bs) (rdL bs.length) 0) (apY (List.drop 0 bs) (rdL bs.length) 0) (asX (List.drop 0 bs) (rdL bs.length) 0) (asY (List.drop 0 bs) (rdL bs.length) 0) (tsV (List.drop 0 bs) (rdL bs.length) 0) (tsV (List.drop 0 bs) (rdL bs.length) 1) (tsV (List.drop 0 bs) (rdL bs.length) 2) (tsV (List.drop 0 bs) (rdL bs.length) 3))) (brT (mpB (mpV (apX (List.drop 0 bs) (rdL bs.length) 0) (apY (List.drop 0 bs) (rdL bs.length) 0) (asX (List.drop 0 bs) (rdL bs.length) 0) (asY (List.drop 0 bs) (rdL bs.length) 0) (tsV (List.drop 0 bs) (rdL bs.length) 0) (tsV (List.drop 0 bs) (rdL bs.length) 1) (tsV (List.drop 0 bs) (rdL bs.length) 2) (tsV (List.drop 0 bs) (rdL bs.length) 3)) == mpB (mpV (apX (List.drop 0 bs) (rdL bs.length) 0) (apY (List.drop 0 bs) (rdL bs.length) 0) (asX (List.drop 0 bs) (rdL bs.length) 0) (asY (List.drop 0 bs) (rdL bs.length) 0) (tsV (List.drop 0 bs) (rdL bs.length) 0) (tsV (List.drop 0 bs) (rdL bs.length) 1) (tsV (List.drop 0 bs) (rdL bs.length) 2) (tsV (List.drop 0 bs) (rdL bs.length) 3))) (.fin (.bool (negB false (mpN (apX (List.drop 0 bs) (rdL bs.length) 0) (apY (List.drop 0 bs) (rdL bs.length) 0) (asX (List.drop 0 bs) (rdL bs.length) 0) (asY (List.drop 0 bs) (rdL bs.length) 0) (tsV (List.drop 0 bs) (rdL bs.length) 0) (tsV (List.drop 0 bs) (rdL bs.length) 1) (tsV (List.drop 0 bs) (rdL bs.length) 2) (tsV (List.drop 0 bs) (rdL bs.length) 3) 0 == mpN (apX (List.drop 0 bs) (rdL bs.length) 0) (apY (List.drop 0 bs) (rdL bs.length) 0) (asX (List.drop 0 bs) (rdL bs.length) 0) (asY (List.drop 0 bs) (rdL bs.length) 0) (tsV (List.drop 0 bs) (rdL bs.length) 0) (tsV (List.drop 0 bs) (rdL bs.length) 1) (tsV (List.drop 0 bs) (rdL bs.length) 2) (tsV (List.drop 0 bs) (rdL bs.length) 3) 0 && (mpN (apX (List.drop 0 bs) (rdL bs.length) 0) (apY (List.drop 0 bs) (rdL bs.length) 0) (asX (List.drop 0 bs) (rdL bs.length) 0) (asY (List.drop 0 bs) (rdL bs.length) 0) (tsV (List.drop 0 bs) (rdL bs.length) 0) (tsV (List.drop 0 bs) (rdL bs.length) 1) (tsV (List.drop 0 bs) (rdL bs.length) 2) (tsV (List.drop 0 bs) (rdL bs.length) 3) 1 == mpN (apX (List.drop 0 bs) (rdL bs.length) 0) (apY (List.drop 0 bs) (rdL bs.length) 0) (asX (List.drop 0 bs) (rdL bs.length) 0) (asY (List.drop 0 bs) (rdL bs.length) 0) (tsV (List.drop 0 bs) (rdL bs.length) 0) (tsV (List.drop 0 bs) (rdL bs.length) 1) (tsV (List.drop 0 bs) (rdL bs.length) 2) (tsV (List.drop 0 bs) (rdL bs.length) 3) 1 && true) && (mpN (apX (List.drop 0 bs) (rdL bs.length) 0) (apY (List.drop 0 bs) (rdL bs.length) 0) (asX (List.drop 0 bs) (rdL bs.length) 0) (asY (List.drop 0 bs) (rdL bs.length) 0) (tsV (List.drop 0 bs) (rdL bs.length) 0) (tsV (List.drop 0 bs) (rdL bs.length) 1) (tsV (List.drop 0 bs) (rdL bs.length) 2) (tsV (List.drop 0 bs) (rdL bs.length) 3) 2 == mpN (apX (List.drop 0 bs) (rdL bs.length) 0) (apY (List.drop 0 bs) (rdL bs.length) 0) (asX (List.drop 0 bs) (rdL bs.length) 0) (asY (List.drop 0 bs) (rdL bs.length) 0) (tsV (List.drop 0 bs) (rdL bs.length) 0) (tsV (List.drop 0 bs) (rdL bs.length) 1) (tsV (List.drop 0 bs) (rdL bs.length) 2) (tsV (List.drop 0 bs) (rdL bs.length) 3) 2 && (mpN (apX (List.drop 0 bs) (rdL bs.length) 0) (apY (List.drop 0 bs) (rdL bs.length) 0) (asX (List.drop 0 bs) (rdL bs.length) 0) (asY (List.drop 0 bs) (rdL bs.length) 0) (tsV (List.drop 0 bs) (rdL bs.length) 0) (tsV (List.drop 0 bs) (rdL bs.length) 1) (tsV (List.drop 0 bs) (rdL bs.length) 2) (tsV (List.drop 0 bs) (rdL bs.length) 3) 3 == mpN (apX (List.drop 0 bs) (rdL bs.length) 0) (apY (List.drop 0 bs) (rdL bs.length) 0) (asX (List.drop 0 bs) (rdL bs.length) 0) (asY (List.drop 0 bs) (rdL bs.length) 0) (tsV (List.drop 0 bs) (rdL bs.length) 0) (tsV (List.drop 0 bs) (rdL bs.length) 1) (tsV (List.drop 0 bs) (rdL bs.length) 2) (tsV (List.drop 0 bs) (rdL bs.length) 3) 3 && true) && true)))) []) (.fin (.bool (false)) [])) (brT (negB true (mpN (apX (List.drop 0 bs) (rdL bs.length) 0) (apY (List.drop 0 bs) (rdL bs.length) 0) (asX (List.drop 0 bs) (rdL bs.length) 0) (asY (List.drop 0 bs) (rdL bs.length) 0) (tsV (List.drop 0 bs) (rdL bs.length) 0) (tsV (List.drop 0 bs) (rdL bs.length) 1) (tsV (List.drop 0 bs) (rdL bs.length) 2) (tsV (List.drop 0 bs) (rdL bs.length) 3) 0 == mpN (apX (List.drop 0 bs) (rdL bs.length) 0) (apY (List.drop 0 bs) (rdL bs.length) 0) (asX (List.drop 0 bs) (rdL bs.length) 0) (asY (List.drop 0 bs) (rdL bs.length) 0) (tsV (List.drop 0 bs) (rdL bs.length) 0) (tsV (List.drop 0 bs) (rdL bs.length) 1) (tsV (List.drop 0 bs) (rdL bs.length) 2) (tsV (List.drop 0 bs) (rdL bs.length) 3) 0 && (mpN (apX (List.drop 0 bs) (rdL bs.length) 0) (apY (List.drop 0 bs) (rdL bs.length) 0) (asX (List.drop 0 bs) (rdL bs.length) 0) (asY (List.drop 0 bs) (rdL bs.length) 0) (tsV (List.drop 0 bs) (rdL bs.length) 0) (tsV (List.drop 0 bs) (rdL bs.length) 1) (tsV (List.drop 0 bs) (rdL bs.length) 2) (tsV (List.drop 0 bs) (rdL bs.length) 3) 1 == mpN (apX (List.drop 0 bs) (rdL bs.length) 0) (apY (List.drop 0 bs) (rdL bs.length) 0) (asX (List.drop 0 bs) (rdL bs.length) 0) (asY (List.drop 0 bs) (rdL bs.length) 0) (tsV (List.drop 0 bs) (rdL bs.length) 0) (tsV (List.drop 0 bs) (rdL bs.length) 1) (tsV (List.drop 0 bs) (rdL bs.length) 2) (tsV (List.drop 0 bs) (rdL bs.length) 3) 1 && true) && (mpN (apX (List.drop 0 bs) (rdL bs.length) 0) (apY (List.drop 0 bs) (rdL bs.length) 0) (asX (List.drop 0 bs) (rdL bs.length) 0) (asY (List.drop 0 bs) (rdL bs.length) 0) (tsV (List.drop 0 bs) (rdL bs.length) 0) (tsV (List.drop 0 bs) (rdL bs.length) 1) (tsV (List.drop 0 bs) (rdL bs.length) 2) (tsV (List.drop 0 bs) (rdL bs.length) 3) 2 == mpN (apX (List.drop 0 bs) (rdL bs.length) 0) (apY (List.drop 0 bs) (rdL bs.length) 0) (asX (List.drop 0 bs) (rdL bs.length) 0) (asY (List.drop 0 bs) (rdL bs.length) 0) (tsV (List.drop 0 bs) (rdL bs.length) 0) (tsV (List.drop 0 bs) (rdL bs.length) 1) (tsV (List.drop 0 bs) (rdL bs.length) 2) (tsV (List.drop 0 bs) (rdL bs.length) 3) 2 && (mpN (apX (List.drop 0 bs) (rdL bs.length) 0) (apY (List.drop 0 bs) (rdL bs.length) 0) (asX (List.drop 0 bs) (rdL bs.length) 0) (asY (List.drop 0 bs) (rdL bs.length) 0) (tsV (List.drop 0 bs) (rdL bs.length) 0) (tsV (List.drop 0 bs) (rdL bs.length) 1) (tsV (List.drop 0 bs) (rdL bs.length) 2) (tsV (List.drop 0 bs) (rdL bs.length) 3) 3 == mpN (apX (List.drop 0 bs) (rdL bs.length) 0) (apY (List.drop 0 bs) (rdL bs.length) 0) (asX (List.drop 0 bs) (rdL bs.length) 0) (asY (List.drop 0 bs) (rdL bs.length) 0) (tsV (List.drop 0 bs) (rdL bs.length) 0) (tsV (List.drop 0 bs) (rdL bs.length) 1) (tsV (List.drop 0 bs) (rdL bs.length) 2) (tsV (List.drop 0 bs) (rdL bs.length) 3) 3 && true) && true))) (brT (mpB (mpV (apX (List.drop 0 bs) (rdL bs.length) 0) (apY (List.drop 0 bs) (rdL bs.length) 0) (asX (List.drop 0 bs) (rdL bs.length) 0) (asY (List.drop 0 bs) (rdL bs.length) 0) (tsV (List.drop 0 bs) (rdL bs.length) 0) (tsV (List.drop 0 bs) (rdL bs.length) 1) (tsV (List.drop 0 bs) (rdL bs.length) 2) (tsV (List.drop 0 bs) (rdL bs.length) 3)) == mpB (mpV (apX (List.drop 0 bs) (rdL bs.length) 0) (apY (List.drop 0 bs) (rdL bs.length) 0) (asX (List.drop 0 bs) (rdL bs.length) 0) (asY (List.drop 0 bs) (rdL bs.length) 0) (tsV (List.drop 0 bs) (rdL bs.length) 0) (tsV (List.drop 0 bs) (rdL bs.length) 1) (tsV (List.drop 0 bs) (rdL bs.length) 2) (tsV (List.drop 0 bs) (rdL bs.length) 3))) (.fin (.bool (negB false (mpN (apX (List.drop 0 bs) (rdL bs.length) 0) (apY (List.drop 0 bs) (rdL bs.length) 0) (asX (List.drop 0 bs) (rdL bs.length) 0) (asY (List.drop 0 bs) (rdL bs.length) 0) (tsV (List.drop 0 bs) (rdL bs.length) 0) (tsV (List.drop 0 bs) (rdL bs.length) 1) (tsV (List.drop 0 bs) (rdL bs.length) 2) (tsV (List.drop 0 bs) (rdL bs.length) 3) 0 == mpN (apX (List.drop 0 bs) (rdL bs.length) 0) (apY (List.drop 0 bs) (rdL bs.length) 0) (asX (List.drop 0 bs) (rdL bs.length) 0) (asY (List.drop 0 bs) (rdL bs.length) 0) (tsV (List.drop 0 bs) (rdL bs.length) 0) (tsV (List.drop 0 bs) (rdL bs.length) 1) (tsV (List.drop 0 bs) (rdL bs.length) 2) (tsV (List.drop 0 bs) (rdL bs.length) 3) 0 && (mpN (apX (List.drop 0 bs) (rdL bs.length) 0) (apY (List.drop 0 bs) (rdL bs.length) 0) (asX (List.drop 0 bs) (rdL bs.length) 0) (asY (List.drop 0 bs) (rdL bs.length) 0) (tsV (List.drop 0 bs) (rdL bs.length) 0) (tsV (List.drop 0 bs) (rdL bs.length) 1) (tsV (List.drop 0 bs) (rdL bs.length) 2) (tsV (List.drop 0 bs) (rdL bs.length) 3) 1 == mpN (apX (List.drop 0 bs) (rdL bs.length) 0) (apY (List.drop 0 bs) (rdL bs.length) 0) (asX (List.drop 0 bs) (rdL bs.length) 0) (asY (List.drop 0 bs) (rdL bs.length) 0) (tsV (List.drop 0 bs) (rdL bs.length) 0) (tsV (List.drop 0 bs) (rdL bs.length) 1) (tsV (List.drop 0 bs) (rdL bs.length) 2) (tsV (List.drop 0 bs) (rdL bs.length) 3) 1 && true) && (mpN (apX (List.drop 0 bs) (rdL bs.length) 0) (apY (List.drop 0 bs) (rdL bs.length) 0) (asX (List.drop 0 bs) (rdL bs.length) 0) (asY (List.drop 0 bs) (rdL bs.length) 0) (tsV (List.drop 0 bs) (rdL bs.length) 0) (tsV (List.drop 0 bs) (rdL bs.length) 1) (tsV (List.drop 0 bs) (rdL bs.length) 2) (tsV (List.drop 0 bs) (rdL bs.length) 3) 2 == mpN (apX (List.drop 0 bs) (rdL bs.length) 0) (apY (List.drop 0 bs) (rdL bs.length) 0) (asX (List.drop 0 bs) (rdL bs.length) 0) (asY (List.drop 0 bs) (rdL bs.length) 0) (tsV (List.drop 0 bs) (rdL bs.length) 0) (tsV (List.drop 0 bs) (rdL bs.length) 1) (tsV (List.drop 0 bs) (rdL bs.length) 2) (tsV (List.drop 0 bs) (rdL bs.length) 3) 2 && (mpN (apX (List.drop 0 bs) (rdL bs.length) 0) (apY (List.drop 0 bs) (rdL bs.length) 0) (asX (List.drop 0 bs) (rdL bs.length) 0) (asY (List.drop 0 bs) (rdL bs.length) 0) (tsV (List.drop 0 bs) (rdL bs.length) 0) (tsV (List.drop 0 bs) (rdL bs.length) 1) (tsV (List.drop 0 bs) (rdL bs.length) 2) (tsV (List.drop 0 bs) (rdL bs.length) 3) 3 == mpN (apX (List.drop 0 bs) (rdL bs.length) 0) (apY (List.drop 0 bs) (rdL bs.length) 0) (asX (List.drop 0 bs) (rdL bs.length) 0) (asY (List.drop 0 bs) (rdL bs.length) 0) (tsV (List.drop 0 bs) (rdL bs.length) 0) (tsV (List.drop 0 bs) (rdL bs.length) 1) (tsV (List.drop 0 bs) (rdL bs.length) 2) (tsV (List.drop 0 bs) (rdL bs.length) 3) 3 && true) && true)))) []) (.fin (.bool (false)) [])) (brT (!mpB (mpV (apX (List.drop 0 bs) (rdL bs.length) 0) (apY (List.drop 0 bs) (rdL bs.length) 0) (asX (List.drop 0 bs) (rdL bs.length) 0) (asY (List.drop 0 bs) (rdL bs.length) 0) (tsV (List.drop 0 bs) (rdL bs.length) 0) (tsV (List.drop 0 bs) (rdL bs.length) 1) (tsV (List.drop 0 bs) (rdL bs.length) 2) (tsV (List.drop 0 bs) (rdL bs.length) 3))) (brT (mpB (mpV (apX (List.drop 0 bs) (rdL bs.length) 0) (apY (List.drop 0 bs) (rdL bs.length) 0) (asX (List.drop 0 bs) (rdL bs.length) 0) (asY (List.drop 0 bs) (rdL bs.length) 0) (tsV (List.drop 0 bs) (rdL bs.length) 0) (tsV (List.drop 0 bs) (rdL bs.length) 1) (tsV (List.drop 0 bs) (rdL bs.length) 2) (tsV (List.drop 0 bs) (rdL bs.length) 3)) == mpB (mpV (apX (List.drop 0 bs) (rdL bs.length) 0) (apY (List.drop 0 bs) (rdL bs.length) 0) (asX (List.drop 0 bs) (rdL bs.length) 0) (asY (List.drop 0 bs) (rdL bs.length) 0) (tsV (List.drop 0 bs) (rdL bs.length) 0) (tsV (List.drop 0 bs) (rdL bs.length) 1) (tsV (List.drop 0 bs) (rdL bs.length) 2) (tsV (List.drop 0 bs) (rdL bs.length) 3))) (.fin (.bool (negB false (mpN (apX (List.drop 0 bs) (rdL bs.length) 0) (apY (List.drop 0 bs) (rdL bs.length) 0) (asX (List.drop 0 bs) (rdL bs.length) 0) (asY (List.drop 0 bs) (rdL bs.length) 0) (tsV (List.drop 0 bs) (rdL bs.length) 0) (tsV (List.drop 0 bs) (rdL bs.length) 1) (tsV (List.drop 0 bs) (rdL bs.length) 2) (tsV (List.drop 0 bs) (rdL bs.length) 3) 0 == mpN (apX (List.drop 0 bs) (rdL bs.length) 0) (apY (List.drop 0 bs) (rdL bs.length) 0) (asX (List.drop 0 bs) (rdL bs.length) 0) (asY (List.drop 0 bs) (rdL bs.length) 0) (tsV (List.drop 0 bs) (rdL bs.length) 0) (tsV (List.drop 0 bs) (rdL bs.length) 1) (tsV (List.drop 0 bs) (rdL bs.length) 2) (tsV (List.drop 0 bs) (rdL bs.length) 3) 0 && (mpN (apX (List.drop 0 bs) (rdL bs.length) 0) (apY (List.drop 0 bs) (rdL bs.length) 0) (asX (List.drop 0 bs) (rdL bs.length) 0) (asY (List.drop 0 bs) (rdL bs.length) 0) (tsV (List.drop 0 bs) (rdL bs.length) 0) (tsV (List.drop 0 bs) (rdL bs.length) 1) (tsV (List.drop 0 bs) (rdL bs.length) 2) (tsV (List.drop 0 bs) (rdL bs.length) 3) 1 == mpN (apX (List.drop 0 bs) (rdL bs.length) 0) (apY (List.drop 0 bs) (rdL bs.length) 0) (asX (List.drop 0 bs) (rdL bs.length) 0) (asY (List.drop 0 bs) (rdL bs.length) 0) (tsV (List.drop 0 bs) (rdL bs.length) 0) (tsV (List.drop 0 bs) (rdL bs.length) 1) (tsV (List.drop 0 bs) (rdL bs.length) 2) (tsV (List.drop 0 bs) (rdL bs.length) 3) 1 && true) && (mpN (apX (List.drop 0 bs) (rdL bs.length) 0) (apY (List.drop 0 bs) (rdL bs.length) 0) (asX (List.drop 0 bs) (rdL bs.length) 0) (asY (List.drop 0 bs) (rdL bs.length) 0) (tsV (List.drop 0 bs) (rdL bs.length) 0) (tsV (List.drop 0 bs) (rdL bs.length) 1) (tsV (List.drop 0 bs) (rdL bs.length) 2) (tsV (List.drop 0 bs) (rdL bs.length) 3) 2 == mpN (apX (List.drop 0 bs) (rdL bs.length) 0) (apY (List.drop 0 bs) (rdL bs.length) 0) (asX (List.drop 0 bs) (rdL bs.length) 0) (asY (List.drop 0 bs) (rdL bs.length) 0) (tsV (List.drop 0 bs) (rdL bs.length) 0) (tsV (List.drop 0 bs) (rdL bs.length) 1) (tsV (List.drop 0 bs) (rdL bs.length) 2) (tsV (List.drop 0 bs) (rdL bs.length) 3) 2 && (mpN (apX (List.drop 0 bs) (rdL bs.length) 0) (apY (List.drop 0 bs) (rdL bs.length) 0) (asX (List.drop 0 bs) (rdL bs.length) 0) (asY (List.drop 0 bs) (rdL bs.length) 0) (tsV (List.drop 0 bs) (rdL bs.length) 0) (tsV (List.drop 0 bs) (rdL bs.length) 1) (tsV (List.drop 0 bs) (rdL bs.length) 2) (tsV (List.drop 0 bs) (rdL bs.length) 3) 3 == mpN (apX (List.drop 0 bs) (rdL bs.length) 0) (apY (List.drop 0 bs) (rdL bs.length) 0) (asX (List.drop 0 bs) (rdL bs.length) 0) (asY (List.drop 0 bs) (rdL bs.length) 0) (tsV (List.drop 0 bs) (rdL bs.length) 0) (tsV (List.drop 0 bs) (rdL bs.length) 1) (tsV (List.drop 0 bs) (rdL bs.length) 2) (tsV (List.drop 0 bs) (rdL bs.length) 3) 3 && true) && true)))) []) (.fin (.bool (false)) [])) (brT (!relV (apX (List.drop 0 bs) (rdL bs.length) 0) (apY (List.drop 0 bs) (rdL bs.length) 0) (asX (List.drop 0 bs) (rdL bs.length) 0) (asY (List.drop 0 bs) (rdL bs.length) 0) (tsV (List.drop 0 bs) (rdL bs.length) 0) (tsV (List.drop 0 bs) (rdL bs.length) 1) (tsV (List.drop 0 bs) (rdL bs.length) 2) (tsV (List.drop 0 bs) (rdL bs.length) 3) == 2) (brT (mpB (mpV (apX (List.drop 0 bs) (rdL bs.length) 0) (apY (List.drop 0 bs) (rdL bs.length) 0) (asX (List.drop 0 bs) (rdL bs.length) 0) (asY (List.drop 0 bs) (rdL bs.length) 0) (tsV (List.drop 0 bs) (rdL bs.length) 0) (tsV (List.drop 0 bs) (rdL bs.length) 1) (tsV (List.drop 0 bs) (rdL bs.length) 2) (tsV (List.drop 0 bs) (rdL bs.length) 3)) == mpB (mpV (apX (List.drop 0 bs) (rdL bs.length) 0) (apY (List.drop 0 bs) (rdL bs.length) 0) (asX (List.drop 0 bs) (rdL bs.length) 0) (asY (List.drop 0 bs) (rdL bs.length) 0) (tsV (List.drop 0 bs) (rdL bs.length) 0) (tsV (List.drop 0 bs) (rdL bs.length) 1) (tsV (List.drop 0 bs) (rdL bs.length) 2) (tsV (List.drop 0 bs) (rdL bs.length) 3))) (.fin (.bool (negB false (mpN (apX (List.drop 0 bs) (rdL bs.length) 0) (apY (List.drop 0 bs) (rdL bs.length) 0) (asX (List.drop 0 bs) (rdL bs.length) 0) (asY (List.drop 0 bs) (rdL bs.length) 0) (tsV (List.drop 0 bs) (rdL bs.length) 0) (tsV (List.drop 0 bs) (rdL bs.length) 1) (tsV (List.drop 0 bs) (rdL bs.length) 2) (tsV (List.drop 0 bs) (rdL bs.length) 3) 0 == mpN (apX (List.drop 0 bs) (rdL bs.length) 0) (apY (List.drop 0 bs) (rdL bs.length) 0) (asX (List.drop 0 bs) (rdL bs.length) 0) (asY (List.drop 0 bs) (rdL bs.length) 0) (tsV (List.drop 0 bs) (rdL bs.length) 0) (tsV (List.drop 0 bs) (rdL bs.length) 1) (tsV (List.drop 0 bs) (rdL bs.length) 2) (tsV (List.drop 0 bs) (rdL bs.length) 3) 0 && (mpN (apX (List.drop 0 bs) (rdL bs.length) 0) (apY (List.drop 0 bs) (rdL bs.length) 0) (asX (List.drop 0 bs) (rdL bs.length) 0) (asY (List.drop 0 bs) (rdL bs.length) 0) (tsV (List.drop 0 bs) (rdL bs.length) 0) (tsV (List.drop 0 bs) (rdL bs.length) 1) (tsV (List.drop 0 bs) (rdL bs.length) 2) (tsV (List.drop 0 bs) (rdL bs.length) 3) 1 == mpN (apX (List.drop 0 bs) (rdL bs.length) 0) (apY (List.drop 0 bs) (rdL bs.length) 0) (asX (List.drop 0 bs) (rdL bs.length) 0) (asY (List.drop 0 bs) (rdL bs.length) 0) (tsV (List.drop 0 bs) (rdL bs.length) 0) (tsV (List.drop 0 bs) (rdL bs.length) 1) (tsV (List.drop 0 bs) (rdL bs.length) 2) (tsV (List.drop 0 bs) (rdL bs.length) 3) 1 && true) && (mpN (apX (List.drop 0 bs) (rdL bs.length) 0) (apY (List.drop 0 bs) (rdL bs.length) 0) (asX (List.drop 0 bs) (rdL bs.length) 0) (asY (List.drop 0 bs) (rdL bs.length) 0) (tsV (List.drop 0 bs) (rdL bs.length) 0) (tsV (List.drop 0 bs) (rdL bs.length) 1) (tsV (List.drop 0 bs) (rdL bs.length) 2) (tsV (List.drop 0 bs) (rdL bs.length) 3) 2 == mpN (apX (List.drop 0 bs) (rdL bs.length) 0) (apY (List.drop 0 bs) (rdL bs.length) 0) (asX (List.drop 0 bs) (rdL bs.length) 0) (asY (List.drop 0 bs) (rdL bs.length) 0) (tsV (List.drop 0 bs) (rdL bs.length) 0) (tsV (List.drop 0 bs) (rdL bs.length) 1) (tsV (List.drop 0 bs) (rdL bs.length) 2) (tsV (List.drop 0 bs) (rdL bs.length) 3) 2 && (mpN (apX (List.drop 0 bs) (rdL bs.length) 0) (apY (List.drop 0 bs) (rdL bs.length) 0) (asX (List.drop 0 bs) (rdL bs.length) 0) (asY (List.drop 0 bs) (rdL bs.length) 0) (tsV (List.drop 0 bs) (rdL bs.length) 0) (tsV (List.drop 0 bs) (rdL bs.length) 1) (tsV (List.drop 0 bs) (rdL bs.length) 2) (tsV (List.drop 0 bs) (rdL bs.length) 3) 3 == mpN (apX (List.drop 0 bs) (rdL bs.length) 0) (apY (List.drop 0 bs) (rdL bs.length) 0) (asX (List.drop 0 bs) (rdL bs.length) 0) (asY (List.drop 0 bs) (rdL bs.length) 0) (tsV (List.drop 0 bs) (rdL bs.length) 0) (tsV (List.drop 0 bs) (rdL bs.length) 1) (tsV (List.drop 0 bs) (rdL bs.length) 2) (tsV (List.drop 0 bs) (rdL bs.length) 3) 3 && true) && true)))) []) (.fin (.bool (false)) [])) (brT (thO (apX (List.drop 0 bs) (rdL bs.length) 0) (apY (List.drop 0 bs) (rdL bs.length) 0) (asX (List.drop 0 bs) (rdL bs.length) 0) (asY (List.drop 0 bs) (rdL bs.length) 0)) (brT (thO (tsV (List.drop 0 bs) (rdL bs.length) 0) (tsV (List.drop 0 bs) (rdL bs.length) 1) (tsV (List.drop 0 bs) (rdL bs.length) 2) (tsV (List.drop 0 bs) (rdL bs.length) 3)) (brT (mtO (thP (apX (List.drop 0 bs) (rdL bs.length) 0) (apY (List.drop 0 bs) (rdL bs.length) 0) (asX (List.drop 0 bs) (rdL bs.length) 0) (asY (List.drop 0 bs) (rdL bs.length) 0) 0) (thP (apX (List.drop 0 bs) (rdL bs.length) 0) (apY (List.drop 0 bs) (rdL bs.length) 0) (asX (List.drop 0 bs) (rdL bs.length) 0) (asY (List.drop 0 bs) (rdL bs.length) 0) 1) (thP (apX (List.drop 0 bs) (rdL bs.length) 0) (apY (List.drop 0 bs) (rdL bs.length) 0) (asX (List.drop 0 bs) (rdL bs.length) 0) (asY (List.drop 0 bs) (rdL bs.length) 0) 2) (thP (tsV (List.drop 0 bs) (rdL bs.length) 0) (tsV (List.drop 0 bs) (rdL bs.length) 1) (tsV (List.drop 0 bs) (rdL bs.length) 2) (tsV (List.drop 0 bs) (rdL bs.length) 3) 0) (thP (tsV (List.drop 0 bs) (rdL bs.length) 0) (tsV (List.drop 0 bs) (rdL bs.length) 1) (tsV (List.drop 0 bs) (rdL bs.length) 2) (tsV (List.drop 0 bs) (rdL bs.length) 3) 1) (thP (tsV (List.drop 0 bs) (rdL bs.length) 0) (tsV (List.drop 0 bs) (rdL bs.length) 1) (tsV (List.drop 0 bs) (rdL bs.length) 2) (tsV (List.drop 0 bs) (rdL bs.length) 3) 2) == 1) (.fin (.bool (negB false (mtP (thP (apX (List.drop 0 bs) (rdL bs.length) 0) (apY (List.drop 0 bs) (rdL bs.length) 0) (asX (List.drop 0 bs) (rdL bs.length) 0) (asY (List.drop 0 bs) (rdL bs.length) 0) 0) (thP (apX (List.drop 0 bs) (rdL bs.length) 0) (apY (List.drop 0 bs) (rdL bs.length) 0) (asX (List.drop 0 bs) (rdL bs.length) 0) (asY (List.drop 0 bs) (rdL bs.length) 0) 1) (thP (apX (List.drop 0 bs) (rdL bs.length) 0) (apY (List.drop 0 bs) (rdL bs.length) 0) (asX (List.drop 0 bs) (rdL bs.length) 0) (asY (List.drop 0 bs) (rdL bs.length) 0) 2) (thP (tsV (List.drop 0 bs) (rdL bs.length) 0) (tsV (List.drop 0 bs) (rdL bs.length) 1) (tsV (List.drop 0 bs) (rdL bs.length) 2) (tsV (List.drop 0 bs) (rdL bs.length) 3) 0) (thP (tsV (List.drop 0 bs) (rdL bs.length) 0) (tsV (List.drop 0 bs) (rdL bs.length) 1) (tsV (List.drop 0 bs) (rdL bs.length) 2) (tsV (List.drop 0 bs) (rdL bs.length) 3) 1) (thP (tsV (List.drop 0 bs) (rdL bs.length) 0) (tsV (List.drop 0 bs) (rdL bs.length) 1) (tsV (List.drop 0 bs) (rdL bs.length) 2) (tsV (List.drop 0 bs) (rdL bs.length) 3) 2) 0 == mpN (apX (List.drop 0 bs) (rdL bs.length) 0) (apY (List.drop 0 bs) (rdL bs.length) 0) (asX (List.drop 0 bs) (rdL bs.length) 0) (asY (List.drop 0 bs) (rdL bs.length) 0) (tsV (List.drop 0 bs) (rdL bs.length) 0) (tsV (List.drop 0 bs) (rdL bs.length) 1) (tsV (List.drop 0 bs) (rdL bs.length) 2) (tsV (List.drop 0 bs) (rdL bs.length) 3) 0 && (mtP (thP (apX (List.drop 0 bs) (rdL bs.length) 0) (apY (List.drop 0 bs) (rdL bs.length) 0) (asX (List.drop 0 bs) (rdL bs.length) 0) (asY (List.drop 0 bs) (rdL bs.length) 0) 0) (thP (apX (List.drop 0 bs) (rdL bs.length) 0) (apY (List.drop 0 bs) (rdL bs.length) 0) (asX (List.drop 0 bs) (rdL bs.length) 0) (asY (List.drop 0 bs) (rdL bs.length) 0) 1) (thP (apX (List.drop 0 bs) (rdL bs.length) 0) (apY (List.drop 0 bs) (rdL bs.length) 0) (asX (List.drop 0 bs) (rdL bs.length) 0) (asY (List.drop 0 bs) (rdL bs.length) 0) 2) (thP (tsV (List.drop 0 bs) (rdL bs.length) 0) (tsV (List.drop 0 bs) (rdL bs.length) 1) (tsV (List.drop 0 bs) (rdL bs.length) 2) (tsV (List.drop 0 bs) (rdL bs.length) 3) 0) (thP (tsV (List.drop 0 bs) (rdL bs.length) 0) (tsV (List.drop 0 bs) (rdL bs.length) 1) (tsV (List.drop 0 bs) (rdL bs.length) 2) (tsV (List.drop 0 bs) (rdL bs.length) 3) 1) (thP (tsV (List.drop 0 bs) (rdL bs.length) 0) (tsV (List.drop 0 bs) (rdL bs.length) 1) (tsV (List.drop 0 bs) (rdL bs.length) 2) (tsV (List.drop 0 bs) (rdL bs.length) 3) 2) 1 == mpN (apX (List.drop 0 bs) (rdL bs.length) 0) (apY (List.drop 0 bs) (rdL bs.length) 0) (asX (List.drop 0 bs) (rdL bs.length) 0) (asY (List.drop 0 bs) (rdL bs.length) 0) (tsV (List.drop 0 bs) (rdL bs.length) 0) (tsV (List.drop 0 bs) (rdL bs.length) 1) (tsV (List.drop 0 bs) (rdL bs.length) 2) (tsV (List.drop 0 bs) (rdL bs.length) 3) 1 && true) && (mtP (thP (apX (List.drop 0 bs) (rdL bs.length) 0) (apY (List.drop 0 bs) (rdL bs.length) 0) (asX (List.drop 0 bs) (rdL bs.length) 0) (asY (List.drop 0 bs) (rdL bs.length) 0) 0) (thP (apX (List.drop 0 bs) (rdL bs.length) 0) (apY (List.drop 0 bs) (rdL bs.length) 0) (asX (List.drop 0 bs) (rdL bs.length) 0) (asY (List.drop 0 bs) (rdL bs.length) 0) 1) (thP (apX (List.drop 0 bs) (rdL bs.length) 0) (apY (List.drop 0 bs) (rdL bs.length) 0) (asX (List.drop 0 bs) (rdL bs.length) 0) (asY (List.drop 0 bs) (rdL bs.length) 0) 2) (thP (tsV (List.drop 0 bs) (rdL bs.length) 0) (tsV (List.drop 0 bs) (rdL bs.length) 1) (tsV (List.drop 0 bs) (rdL bs.length) 2) (tsV (List.drop 0 bs) (rdL bs.length) 3) 0) (thP (tsV (List.drop 0 bs) (rdL bs.length) 0) (tsV (List.drop 0 bs) (rdL bs.length) 1) (tsV (List.drop 0 bs) (rdL bs.length) 2) (tsV (List.drop 0 bs) (rdL bs.length) 3) 1) (thP (tsV (List.drop 0 bs) (rdL bs.length) 0) (tsV (List.drop 0 bs) (rdL bs.length) 1) (tsV (List.drop 0 bs) (rdL bs.length) 2) (tsV (List.drop 0 bs) (rdL bs.length) 3) 2) 2 == mpN (apX (List.drop 0 bs) (rdL bs.length) 0) (apY (List.drop 0 bs) (rdL bs.length) 0) (asX (List.drop 0 bs) (rdL bs.length) 0) (asY (List.drop 0 bs) (rdL bs.length) 0) (tsV (List.drop 0 bs) (rdL bs.length) 0) (tsV (List.drop 0 bs) (rdL bs.length) 1) (tsV (List.drop 0 bs) (rdL bs.length) 2) (tsV (List.drop 0 bs) (rdL bs.length) 3) 2 && (mtP (thP (apX (List.drop 0 bs) (rdL bs.length) 0) (apY (List.drop 0 bs) (rdL bs.length) 0) (asX (List.drop 0 bs) (rdL bs.length) 0) (asY (List.drop 0 bs) (rdL bs.length) 0) 0) (thP (apX (List.drop 0 bs) (rdL bs.length) 0) (apY (List.drop 0 bs) (rdL bs.length) 0) (asX (List.drop 0 bs) (rdL bs.length) 0) (asY (List.drop 0 bs) (rdL bs.length) 0) 1) (thP (apX (List.drop 0 bs) (rdL bs.length) 0) (apY (List.drop 0 bs) (rdL bs.length) 0) (asX (List.drop 0 bs) (rdL bs.length) 0) (asY (List.drop 0 bs) (rdL bs.length) 0) 2) (thP (tsV (List.drop 0 bs) (rdL bs.length) 0) (tsV (List.drop 0 bs) (rdL bs.length) 1) (tsV (List.drop 0 bs) (rdL bs.length) 2) (tsV (List.drop 0 bs) (rdL bs.length) 3) 0) (thP (tsV (List.drop 0 bs) (rdL bs.length) 0) (tsV (List.drop 0 bs) (rdL bs.length) 1) (tsV (List.drop 0 bs) (rdL bs.length) 2) (tsV (List.drop 0 bs) (rdL bs.length) 3) 1) (thP (tsV (List.drop 0 bs) (rdL bs.length) 0) (tsV (List.drop 0 bs) (rdL bs.length) 1) (tsV (List.drop 0 bs) (rdL bs.length) 2) (tsV (List.drop 0 bs) (rdL bs.length) 3) 2) 3 == mpN (apX (List.drop 0 bs) (rdL bs.length) 0) (apY (List.drop 0 bs) (rdL bs.length) 0) (asX (List.drop 0 bs) (rdL bs.length) 0) (asY (List.drop 0 bs) (rdL bs.length) 0) (tsV (List.drop 0 bs) (rdL bs.length) 0) (tsV (List.drop 0 bs) (rdL bs.length) 1) (tsV (List.drop 0 bs) (rdL bs.length) 2) (tsV (List.drop 0 bs) (rdL bs.length) 3) 3 && true) && true)))) []) (.fin (.bool (false)) [])) (.fin (.bool (false)) [])) (.fin (.bool (false)) [])))))))) := by kernel_rfl
theorem law_mp (bs : List Int) (hb : Bytes bs) (_ : bs.length ≤ maxLen) : Res Try.prog 5 [.row bs.length (.bytes bs)] (.bool true) := by
  refine bodyV_res mixed (tabE_ok TMq_ok) (m := 30) (n := 12) rfl ?_
  rw [tr_lMp]
  simp only [List.drop_zero]
  generalize apX bs (rdL bs.length) 0 = a
  generalize apY bs (rdL bs.length) 0 = b
  generalize asX bs (rdL bs.length) 0 = c
  generalize asY bs (rdL bs.length) 0 = d
  generalize tsV bs (rdL bs.length) 0 = e
  generalize tsV bs (rdL bs.length) 1 = f
  generalize tsV bs (rdL bs.length) 2 = g
  generalize tsV bs (rdL bs.length) 3 = h
  have cm : ∀ k, mpN e f g h a b c d k = mpN a b c d e f g h k := fun k => by unfold mpN; rw [mpV_cm]
  have cb : mpB (mpV e f g h a b c d) = mpB (mpV a b c d e f g h) := by rw [mpV_cm]
  by_cases k : relV a b c d e f g h = 1 ∨ relV a b c d e f g h = 2
  · obtain ⟨k1, k2, k3, k4, k5⟩ := mp_on k
    rcases k with k | k <;> simp [brT_ok, Tree.ok, negB, hb, cm, cb, k, k1, k2, k3, k4, k5]
  · have k1 : relV a b c d e f g h ≠ 1 := fun h => k (.inl h)
    have k2 : relV a b c d e f g h ≠ 2 := fun h => k (.inr h)
    have k3 := mp_no k1 k2
    simp [brT_ok, Tree.ok, negB, hb, cm, cb, k1, k2, k3]
theorem det_id (a b c d e f g h s1 s2 : Int) : s1 * (d - b) * (s2 * (e - g)) - s2 * (h - f) * (s1 * (a - c)) = s1 * s2 * (((g - e) * (b - f) - (h - f) * (a - e)) - ((g - e) * (d - f) - (h - f) * (c - e))) := by grind
/-- A crossing: where both lines meet. -/
theorem mp_cross {a b c d e f g h : Int} (k : relV a b c d e f g h = 2) : thO a b c d = true ∧ thO e f g h = true ∧
    mtO (thP a b c d 0) (thP a b c d 1) (thP a b c d 2) (thP e f g h 0) (thP e f g h 1) (thP e f g h 2) = 1 ∧
    ∀ j, j < 4 → mtP (thP a b c d 0) (thP a b c d 1) (thP a b c d 2) (thP e f g h 0) (thP e f g h 1) (thP e f g h 2) j = mpN a b c d e f g h j := by
  have hne : relV a b c d e f g h ≠ -1 := by omega
  obtain ⟨h1, h2, h3, h4, hr⟩ := relV_pt hne
  have hs : segB a b c d = true ∧ segB e f g h = true := by
    unfold relV at hne
    cases q1 : segB a b c d <;> cases q2 : segB e f g h <;> rw [q1, q2] at hne <;> first | exact absurd rfl hne | exact ⟨rfl, rfl⟩
  have o1 : thO a b c d = true := by rw [thO_is]; exact hs.1
  have o2 : thO e f g h = true := by rw [thO_is]; exact hs.2
  obtain ⟨g1, s1, g10, s11, t10, t11, t12, l1, _, _⟩ := th_spec o1
  obtain ⟨g2, s2, g20, s21, t20, t21, t22, l2, _, _⟩ := th_spec o2
  have L1 := lineB_L l1
  have L2 := lineB_L l2
  generalize thP a b c d 0 = A at *
  generalize thP a b c d 1 = B at *
  generalize thP a b c d 2 = C at *
  generalize thP e f g h 0 = A' at *
  generalize thP e f g h 1 = B' at *
  generalize thP e f g h 2 = C' at *
  unfold mpN mpV
  rw [if_neg (by omega), if_pos k]
  have hd := (relA_two (hr ▸ k)).2
  have sg := dv_signs hd
  have hu : crossI e f g h a b = (g - e) * (b - f) - (h - f) * (a - e) := rfl
  have hv : crossI e f g h c d = (g - e) * (d - f) - (h - f) * (c - e) := rfl
  generalize crossI e f g h a b = u at *
  generalize crossI e f g h c d = v at *
  have hD : u - v ≠ 0 := by omega
  have eX : mpX a c u v = a * (u - v) + (c - a) * u := rfl
  have eY : mpX b d u v = b * (u - v) + (d - b) * u := rfl
  generalize mpX a c u v = X at *
  generalize mpX b d u v = Y at *
  have z1 : A * X + B * Y = C * (u - v) := by
    have : (A * X + B * Y - C * (u - v)) * g1 = 0 := by
      rw [t12]
      calc (A * X + B * Y - (A * a + B * b) * (u - v)) * g1 = (A * g1) * (X - a * (u - v)) + (B * g1) * (Y - b * (u - v)) := by grind
        _ = s1 * ((d - b) * (X - a * (u - v)) + (a - c) * (Y - b * (u - v))) := by rw [t10, t11]; grind
        _ = 0 := by
          have : (d - b) * (X - a * (u - v)) + (a - c) * (Y - b * (u - v)) = 0 := by rw [eX, eY]; grind
          rw [this, Int.mul_zero]
    have := (Int.mul_eq_zero.1 this).resolve_right (by omega)
    omega
  have z2 : A' * X + B' * Y = C' * (u - v) := by
    have : (A' * X + B' * Y - C' * (u - v)) * g2 = 0 := by
      rw [t22]
      calc (A' * X + B' * Y - (A' * e + B' * f) * (u - v)) * g2 = (A' * g2) * (X - e * (u - v)) + (B' * g2) * (Y - f * (u - v)) := by grind
        _ = s2 * ((h - f) * (X - e * (u - v)) + (e - g) * (Y - f * (u - v))) := by rw [t20, t21]; grind
        _ = 0 := by
          have : (h - f) * (X - e * (u - v)) + (e - g) * (Y - f * (u - v)) = 0 := by rw [eX, eY, hu, hv]; grind
          rw [this, Int.mul_zero]
    have := (Int.mul_eq_zero.1 this).resolve_right (by omega)
    omega
  have det : A * B' - A' * B ≠ 0 := by
    intro hz
    have e1 : (A * g1) * (B' * g2) - (A' * g2) * (B * g1) = 0 := by
      have : (A * g1) * (B' * g2) - (A' * g2) * (B * g1) = (A * B' - A' * B) * (g1 * g2) := by grind
      rw [this, hz, Int.zero_mul]
    rw [t10, t11, t20, t21] at e1
    have e2 : s1 * s2 * (u - v) = 0 := by
      rw [hu, hv, ← det_id]
      exact e1
    rcases s11 with rfl | rfl <;> rcases s21 with rfl | rfl <;> omega
  have hq : eqL A B C A' B' C' = false := by
    rw [Bool.eq_false_iff]
    intro he
    unfold eqL at he
    simp only [Bool.and_eq_true, beq_iff_eq] at he
    obtain ⟨rfl, rfl, _⟩ := he
    exact det (by grind)
  have vM : mtV A B C A' B' C' = .tuple #[.agg #[iv (qN (C * B' - C' * B) (A * B' - A' * B)), iv (qD (C * B' - C' * B) (A * B' - A' * B)), iv (qN (A * C' - A' * C) (A * B' - A' * B)), iv (qD (A * C' - A' * C) (A * B' - A' * B))], iv 1] := by
    unfold mtV
    rw [L1, L2, hq]
    simp only [Bool.and_self, if_true, Bool.false_eq_true, if_false]
    rw [if_neg det]
  obtain ⟨f1, f2⟩ := qs_same (n := C * B' - C' * B) (d := A * B' - A' * B) (m := X) (e := u - v) det hD (by
    have : (C * B' - C' * B) * (u - v) = B' * (C * (u - v)) - B * (C' * (u - v)) := by grind
    rw [this, ← z1, ← z2]
    grind)
  obtain ⟨f3, f4⟩ := qs_same (n := A * C' - A' * C) (d := A * B' - A' * B) (m := Y) (e := u - v) det hD (by
    have : (A * C' - A' * C) * (u - v) = A * (C' * (u - v)) - A' * (C * (u - v)) := by grind
    rw [this, ← z1, ← z2]
    grind)
  refine ⟨o1, o2, ?_, fun j hj => ?_⟩
  · unfold mtO
    rw [vM]
    rfl
  · unfold mtP
    rw [vM]
    match j, hj with
    | 0, _ => exact f1
    | 1, _ => exact f2
    | 2, _ => exact f3
    | 3, _ => exact f4
theorem law_cl (bs : List Int) (hb : Bytes bs) (_ : bs.length ≤ maxLen) : Res Try.prog 6 [.row bs.length (.bytes bs)] (.bool true) := by
  refine bodyV_res mixed (tabE_ok TMq_ok) (m := 30) (n := 12) rfl ?_
  rw [tr_lCl]
  simp only [List.drop_zero]
  generalize apX bs (rdL bs.length) 0 = a
  generalize apY bs (rdL bs.length) 0 = b
  generalize asX bs (rdL bs.length) 0 = c
  generalize asY bs (rdL bs.length) 0 = d
  generalize tsV bs (rdL bs.length) 0 = e
  generalize tsV bs (rdL bs.length) 1 = f
  generalize tsV bs (rdL bs.length) 2 = g
  generalize tsV bs (rdL bs.length) 3 = h
  by_cases k : relV a b c d e f g h = 2
  · obtain ⟨k2, k3, k4, k5⟩ := mp_cross k
    have k1 := (mp_on (.inr k)).1
    have j0 := k5 0 (by decide)
    have j1 := k5 1 (by decide)
    have j2 := k5 2 (by decide)
    have j3 := k5 3 (by decide)
    simp [brT_ok, Tree.ok, negB, hb, k, k1, k2, k3, k4, j0, j1, j2, j3]
  · cases hm : mpB (mpV a b c d e f g h) <;> simp [brT_ok, Tree.ok, negB, hb, k, hm]
end Go.Proofs.Ytblpldapmmoheab
