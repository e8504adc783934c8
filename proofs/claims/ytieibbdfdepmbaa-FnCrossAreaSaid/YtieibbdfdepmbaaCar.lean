/-
  Triangles: simple, convex, their area and hull; the law of three drawn points. Written by an AI agent.
-/
import Derived.Test.YtieibbdfdepmbaaHtm
import Derived.Test.YtieibbdfdepmbaaHul
import Derived.Test.YtieibbdfdepmbaaCvx
import Derived.Test.YtieibbdfdepmbaaRdC
import Derived.Test.YtieibbdfdepmbaaPubA
namespace Go.Proofs.Ytieibbdfdepmbaa
set_option linter.all false
open Go.RowKit

theorem row1_ints {w : World} {l : Nat} {cs : Cs} {xs : List Int} {args : Array Value} (h : cs.list = xs.map (Value.int .i64)) (k : DOks w [.row l cs] args) : DOks w [.row l (.ints xs)] args :=
  k.ints rfl fun i d d' hd hd' => by
    match i with
    | 0 =>
      obtain rfl : DArg.row l cs = d := by simpa using hd
      obtain rfl : DArg.row l (.ints xs) = d' := by simpa using hd'
      exact .inr ⟨l, cs, xs, rfl, rfl, h⟩
    | i + 1 => simp at hd
theorem res_row1 {P : Program} {f : FuncId} {l : Nat} {cs : Cs} {xs : List Int} {v : Value} (h : cs.list = xs.map (Value.int .i64)) (k : Res P f [.row l (.ints xs)] v) : Res P f [.row l cs] v :=
  ⟨k.1, k.2.1, k.2.2.1, fun d hd => by
    obtain rfl : d = .row l cs := by simpa using hd
    exact atoms_ints h, fun w args ha => k.2.2.2.2 w args (row1_ints h ha)⟩
theorem resR_row1 {P : Program} {f : FuncId} {l : Nat} {cs : Cs} {xs : List Int} {v : Value} {b : Blk} (h : cs.list = xs.map (Value.int .i64)) (k : ResR P f [.row l (.ints xs)] v b) : ResR P f [.row l cs] v b :=
  ⟨k.1, k.2.1, k.2.2.1, fun d hd => by
    obtain rfl : d = .row l cs := by simpa using hd
    exact atoms_ints h, fun w args ha => k.2.2.2.2 w args (row1_ints h ha)⟩
def TKa : Tab := orT TSg TCx
theorem TKa_ok : TabOk Try.prog TKa := orT_ok TSg_ok TCx_ok
def EKa : Env := mkE TKa R4 (fun _ => noL)
theorem EKa_ok : EnvOk Try.prog EKa := mkEOk TKa_ok R4_ok (fun _ _ _ => noL_good)
set_option maxRecDepth 100000 in
theorem tr_kDa (ps : List Pt) : bodyV Try.prog EKa 30 12 38 [.row ps.length (.ints (flat ps))] = .need (ps.length * (2 : Nat) ≤ (List.drop (0 : Nat) (flat ps)).length) (.need (ps.length ≤ (1000000000 : Nat)) (brT (!issI (ptsA ps.length (List.drop 0 (flat ps)))) (.fin (.int .i64 (0)) []) (.need (ps.length * (2 : Nat) ≤ (List.drop (0 : Nat) (flat ps)).length) (.need (allV (ptsA ps.length (List.drop (0 : Nat) (flat ps))) = true) (.need (ps.length ≤ (20 : Nat)) (.fin (.int .i64 (sgA (ptsA ps.length (List.drop 0 (flat ps))) ps.length)) [])))))) := by kernel_rfl
def daK (ps : List Pt) : Int := bif issI ps then sgA ps ps.length else 0
theorem res_kDa (ps : List Pt) (h : Big ps) : Res Try.prog 38 [.row ps.length (.ints (flat ps))] (iv (daK ps)) := by
  refine bodyV_res mixed EKa_ok (m := 30) (n := 12) rfl ?_
  rw [tr_kDa]
  unfold Big at h
  simp only [List.drop_zero, ptsA_flat, flat_length]
  unfold daK
  rcases hs : issI ps with _ | _
  · simp [brT_ok, Tree.ok, h]
  · obtain ⟨h1, h2⟩ := cv_ok2 hs
    simp [brT_ok, Tree.ok, h, h1, h2]
def tri3 (a b c d e f : Int) : List Pt := [(a, b), (c, d), (e, f)]
theorem big3 (a b c d e f : Int) : Big (tri3 a b c d e f) := by unfold Big tri3; simp
def pK3 (g : List Pt → Value) : List DArg → Option (Value × List Prop)
  | [.row n (.vals [.int .i64 a, .int .i64 b, .int .i64 c, .int .i64 d, .int .i64 e, .int .i64 f])] => some (g (tri3 a b c d e f), [n = 3])
  | _ => none
theorem pK3_ok {fn : FuncId} {g : List Pt → Value} (H : ∀ ps : List Pt, Big ps → Res Try.prog fn [.row ps.length (.ints (flat ps))] (g ps)) {ds : List DArg} {v : Value} {C : List Prop} (h : pK3 g ds = some (v, C)) (hC : AllP C) : Res Try.prog fn ds v := by
  unfold pK3 at h
  split at h
  · rename_i n a b c d e f
    obtain ⟨rfl, rfl⟩ : _ ∧ _ := by simpa using h
    obtain ⟨rfl, _⟩ := hC
    exact res_row1 rfl (H (tri3 a b c d e f) (big3 ..))
  · cases h
def TKb : Tab := fun f ds => match f with
  | 87 => pThree ds
  | 51 => q_TA_0 ds
  | 52 => q_TA_1 ds
  | 53 => pK3 (fun ps => .bool (issI ps)) ds
  | 18 => pK3 (fun ps => .bool (cvxI ps)) ds
  | 38 => pK3 (fun ps => iv (daK ps)) ds
  | f => T1 f ds
theorem pThree_ok {ds : List DArg} {v : Value} {C : List Prop} (h : pThree ds = some (v, C)) (hC : AllP C) : Res Try.prog 87 ds v := by
  unfold pThree at h
  split at h
  · obtain ⟨rfl, rfl⟩ : _ ∧ _ := by simpa using h
    exact res_three _ _ hC.1 hC.2.1
  · cases h
theorem TKb_ok : TabOk Try.prog TKb := by
  intro f ds v C h hC
  unfold TKb at h
  (try split at h)
  all_goals first | with_reducible exact pThree_ok h hC | with_reducible exact TA_r0 h hC | with_reducible exact TA_r1 h hC | with_reducible exact pK3_ok res_iIss h hC | with_reducible exact pK3_ok res_iCvx h hC | with_reducible exact pK3_ok res_kDa h hC | exact T1_ok _ _ _ _ h hC
def RKb : TabR := fun f ds => match f, ds with
  | 28, [.row n (.vals [.int .i64 a, .int .i64 b, .int .i64 c, .int .i64 d, .int .i64 e, .int .i64 f])] => some (rowP (hulV (tri3 a b c d e f)), blkP (hulV (tri3 a b c d e f)), [n = 3])
  | _, _ => none
theorem RKb_ok : TabROk Try.prog RKb := by
  intro f ds v b C h hC
  unfold RKb at h
  split at h
  · rename_i n a b' c d e f'
    obtain ⟨rfl, rfl, rfl⟩ : _ ∧ _ ∧ _ := by simpa using h
    obtain ⟨rfl, _⟩ := hC
    exact resR_row1 rfl (resR_iHu (tri3 a b' c d e f') (big3 ..))
  · cases h
def EKb : Env := mkE TKb RKb (fun _ => noL)
theorem EKb_ok : EnvOk Try.prog EKb := mkEOk TKb_ok RKb_ok (fun _ _ _ => noL_good)
set_option maxRecDepth 100000 in
theorem tr_lCar (bs : List Int) : bodyV Try.prog EKb 30 12 14 [.row bs.length (.bytes bs)] = brT (decide (1048576 < (↑bs.length : Int))) (.fin (.bool (true)) []) (.need (Bytes (List.drop (0 : Nat) bs)) (.need (bs.length ≤ (List.drop (0 : Nat) bs).length) (brT (!crossR (d3 (List.drop 0 bs) bs.length 0) (d3 (List.drop 0 bs) bs.length 1) (d3 (List.drop 0 bs) bs.length 2) (d3 (List.drop 0 bs) bs.length 3) (d3 (List.drop 0 bs) bs.length 4) (d3 (List.drop 0 bs) bs.length 5) == crossR (d3 (List.drop 0 bs) bs.length 0) (d3 (List.drop 0 bs) bs.length 1) (d3 (List.drop 0 bs) bs.length 2) (d3 (List.drop 0 bs) bs.length 3) (d3 (List.drop 0 bs) bs.length 4) (d3 (List.drop 0 bs) bs.length 5)) (.fin (.bool (crossR (d3 (List.drop 0 bs) bs.length 0) (d3 (List.drop 0 bs) bs.length 1) (d3 (List.drop 0 bs) bs.length 2) (d3 (List.drop 0 bs) bs.length 3) (d3 (List.drop 0 bs) bs.length 4) (d3 (List.drop 0 bs) bs.length 5) == crossR (d3 (List.drop 0 bs) bs.length 0) (d3 (List.drop 0 bs) bs.length 1) (d3 (List.drop 0 bs) bs.length 2) (d3 (List.drop 0 bs) bs.length 3) (d3 (List.drop 0 bs) bs.length 4) (d3 (List.drop 0 bs) bs.length 5))) []) (brT (crossR (d3 (List.drop 0 bs) bs.length 0) (d3 (List.drop 0 bs) bs.length 1) (d3 (List.drop 0 bs) bs.length 2) (d3 (List.drop 0 bs) bs.length 3) (d3 (List.drop 0 bs) bs.length 4) (d3 (List.drop 0 bs) bs.length 5) == 0) (.fin (.bool (crossR (d3 (List.drop 0 bs) bs.length 0) (d3 (List.drop 0 bs) bs.length 1) (d3 (List.drop 0 bs) bs.length 2) (d3 (List.drop 0 bs) bs.length 3) (d3 (List.drop 0 bs) bs.length 4) (d3 (List.drop 0 bs) bs.length 5) == crossR (d3 (List.drop 0 bs) bs.length 0) (d3 (List.drop 0 bs) bs.length 1) (d3 (List.drop 0 bs) bs.length 2) (d3 (List.drop 0 bs) bs.length 3) (d3 (List.drop 0 bs) bs.length 4) (d3 (List.drop 0 bs) bs.length 5))) []) (.need ((3 : Nat) = (3 : Nat)) (brT (issI (tri3 (d3 (List.drop 0 bs) bs.length 0) (d3 (List.drop 0 bs) bs.length 1) (d3 (List.drop 0 bs) bs.length 2) (d3 (List.drop 0 bs) bs.length 3) (d3 (List.drop 0 bs) bs.length 4) (d3 (List.drop 0 bs) bs.length 5))) (.need ((3 : Nat) = (3 : Nat)) (brT (daK (tri3 (d3 (List.drop 0 bs) bs.length 0) (d3 (List.drop 0 bs) bs.length 1) (d3 (List.drop 0 bs) bs.length 2) (d3 (List.drop 0 bs) bs.length 3) (d3 (List.drop 0 bs) bs.length 4) (d3 (List.drop 0 bs) bs.length 5)) == crossR (d3 (List.drop 0 bs) bs.length 0) (d3 (List.drop 0 bs) bs.length 1) (d3 (List.drop 0 bs) bs.length 2) (d3 (List.drop 0 bs) bs.length 3) (d3 (List.drop 0 bs) bs.length 4) (d3 (List.drop 0 bs) bs.length 5)) (.need ((3 : Nat) = (3 : Nat)) (brT ((↑(hulV (tri3 (d3 (List.drop 0 bs) bs.length 0) (d3 (List.drop 0 bs) bs.length 1) (d3 (List.drop 0 bs) bs.length 2) (d3 (List.drop 0 bs) bs.length 3) (d3 (List.drop 0 bs) bs.length 4) (d3 (List.drop 0 bs) bs.length 5))).length : Int) == 3) (.need ((3 : Nat) = (3 : Nat)) (.fin (.bool (cvxI (tri3 (d3 (List.drop 0 bs) bs.length 0) (d3 (List.drop 0 bs) bs.length 1) (d3 (List.drop 0 bs) bs.length 2) (d3 (List.drop 0 bs) bs.length 3) (d3 (List.drop 0 bs) bs.length 4) (d3 (List.drop 0 bs) bs.length 5)) == decide (0 < crossR (d3 (List.drop 0 bs) bs.length 0) (d3 (List.drop 0 bs) bs.length 1) (d3 (List.drop 0 bs) bs.length 2) (d3 (List.drop 0 bs) bs.length 3) (d3 (List.drop 0 bs) bs.length 4) (d3 (List.drop 0 bs) bs.length 5)))) [])) (.fin (.bool (false)) []))) (.fin (.bool (false)) []))) (.fin (.bool (false)) []))))))) := by kernel_rfl
theorem ne_on {a b v : Pt} (h : crP a b v ≠ 0) : hasB a.1 a.2 b.1 b.2 v.1 v.2 = false := by
  refine hasB_no ?_
  rw [beq_eq_false_iff_ne]
  have e : (a.1 - v.1) * (b.2 - v.2) - (a.2 - v.2) * (b.1 - v.1) = crP a b v := by unfold crP crossI; grind
  omega
theorem ne_touch {a b d : Pt} (h1 : crP a b d ≠ 0) : relP a b b d = 1 := by
  unfold relP relA
  have h2 : crP b d a ≠ 0 := by
    have : crP b d a = crP a b d := by unfold crP crossI; grind
    omega
  have e : (ceS a.1 a.2 b.1 b.2 b.1 b.2 d.1 d.2).length = 1 := by
    refine asc_one (p := b) (ce_asc ..) (fun z hz => ?_) (ce_mem.2 ⟨by unfold onB; rw [hasB_b, hasB_a]; rfl, .inr (.inl rfl)⟩)
    obtain ⟨q1, q2⟩ := ce_mem.1 hz
    unfold onB at q1
    simp only [Bool.and_eq_true] at q1
    rcases q2 with rfl | rfl | rfl | rfl
    · rw [show hasB b.1 b.2 d.1 d.2 a.1 a.2 = false from ne_on h2] at q1; exact absurd q1.2 (by decide)
    · rfl
    · rfl
    · rw [show hasB a.1 a.2 b.1 b.2 d.1 d.2 = false from ne_on h1] at q1; exact absurd q1.1 (by decide)
  rw [e]
  rfl
theorem ne_seg {a b c : Pt} (h : crP a b c ≠ 0) : a ≠ b ∧ b ≠ c ∧ c ≠ a := by
  refine ⟨?_, ?_, ?_⟩ <;> (rintro rfl; apply h; unfold crP crossI; grind)
theorem t3_0 (a b c : Pt) : nxP [a, b, c] 0 = b := by simp [nxP]
theorem t3_1 (a b c : Pt) : nxP [a, b, c] 1 = c := by simp [nxP]
theorem t3_2 (a b c : Pt) : nxP [a, b, c] 2 = a := by simp [nxP]
/-- A triangle of valid points that are not on one line is simple. -/
theorem tri_simple {a b c : Pt} (h : crP a b c ≠ 0) (ha : ptB a.1 a.2 = true) (hb : ptB b.1 b.2 = true) (hc : ptB c.1 c.2 = true) : issI [a, b, c] = true := by
  obtain ⟨n1, n2, n3⟩ := ne_seg h
  have hv : allV [a, b, c] = true := by
    unfold allV vB
    simp [ha, hb, hc]
  have ho : okL [a, b, c] = true := by unfold okL; rw [hv]; rfl
  have h2 : crP b c a ≠ 0 := by
    have : crP b c a = crP a b c := by unfold crP crossI; grind
    omega
  have h3 : crP c a b ≠ 0 := by
    have : crP c a b = crP a b c := by unfold crP crossI; grind
    omega
  have s0 : sgQ [a, b, c] 0 = true := (sgQ_iff hv (by simp)).2 (by rw [t3_0]; exact n1)
  have s1 : sgQ [a, b, c] 1 = true := (sgQ_iff hv (by simp)).2 (by rw [t3_1]; exact n2)
  have s2 : sgQ [a, b, c] 2 = true := (sgQ_iff hv (by simp)).2 (by rw [t3_2]; exact n3)
  have r1 : edR [a, b, c] 0 1 = 1 := by
    rw [edR_P s0 s1, t3_0, t3_1]
    exact ne_touch h
  have r2 : edR [a, b, c] 1 2 = 1 := by
    rw [edR_P s1 s2, t3_1, t3_2]
    exact ne_touch h2
  have r3 : edR [a, b, c] 0 2 = 1 := by
    rw [edR_P s0 s2, t3_0, t3_2]
    unfold relP
    rw [relA_comm]
    exact ne_touch h3
  unfold issI
  rw [ho]
  have key : ∀ i k, i < 3 → k < 3 → okE [a, b, c] i k = true := fun i k hi hk => by
    have hi' : i = 0 ∨ i = 1 ∨ i = 2 := by omega
    have hk' : k = 0 ∨ k = 1 ∨ k = 2 := by omega
    have b01 : nbQ [a, b, c] 0 1 = true := by unfold nbQ; simp
    have b12 : nbQ [a, b, c] 1 2 = true := by unfold nbQ; simp
    have b02 : nbQ [a, b, c] 0 2 = true := by unfold nbQ; simp
    unfold okE
    rcases hi' with rfl | rfl | rfl <;> rcases hk' with rfl | rfl | rfl <;> simp [r1, r2, r3, b01, b12, b02]
  have hq : simQ [a, b, c] = true := allQ_all _ _ fun i _ hi => allQ_all _ _ fun k _ hk => key i k (by simpa using hi) (by simpa using hk)
  rw [hq]
  rfl
theorem tri_area (a b c : Pt) : sgA [a, b, c] 3 = crP a b c := by
  have e : sgA [a, b, c] 3 = 0 + (a.1 * b.2 - a.2 * b.1) + (b.1 * c.2 - b.2 * c.1) + (c.1 * a.2 - c.2 * a.1) := by
    simp only [sgA, sgT, t3_0, t3_1, t3_2]
    rfl
  rw [e]
  unfold crP crossI
  grind
theorem tri_cvx (a b c : Pt) : cvA [a, b, c] = decide (0 < crP a b c) := by
  have n0 : nx2 [a, b, c] 0 = c := by simp [nx2]
  have n1 : nx2 [a, b, c] 1 = a := by simp [nx2]
  have n2 : nx2 [a, b, c] 2 = b := by simp [nx2]
  have e1 : cvE [a, b, c] 0 = decide (0 < crP a b c) := by unfold cvE; rw [t3_0, n0]; rfl
  have e2 : cvE [a, b, c] 1 = decide (0 < crP b c a) := by unfold cvE; rw [t3_1, n1]; rfl
  have e3 : cvE [a, b, c] 2 = decide (0 < crP c a b) := by unfold cvE; rw [t3_2, n2]; rfl
  have r1 : crP b c a = crP a b c := by unfold crP crossI; grind
  have r2 : crP c a b = crP a b c := by unfold crP crossI; grind
  show (cvE [a, b, c] 0 && (cvE [a, b, c] 1 && (cvE [a, b, c] 2 && true))) = _
  rw [e1, e2, e3, r1, r2]
  cases decide (0 < crP a b c) <;> rfl
/-- Points whose hull has less than three vertices are on one line. -/
theorem short_line {s : List Pt} (h : Asc s) (hl : (hulL s).length < 3) {a b c : Pt} (ha : a ∈ s) (hb : b ∈ s) (hc : c ∈ s) : crP a b c = 0 := by
  by_cases h3 : 3 ≤ s.length
  · have h0 : s ≠ [] := by intro e; rw [e] at h3; simp at h3
    obtain ⟨k1, k2⟩ := hul_short h h3 hl
    obtain ⟨_, _, e1, e2, _, _⟩ := hul_ends h h0
    rw [k2] at e1
    rw [k1] at e2
    have hd := dsc_at (low_ok h h0).dsc (i := 0) (j := 1) (by omega) (by omega)
    have z : ∀ q ∈ s, crP ((lowR s).getD 1 (0, 0)) ((lowR s).getD 0 (0, 0)) q = 0 := fun q hq => by
      have g1 := lft_at (low_ok h h0).lft 0 (by omega) q hq
      have g2 := lft_at (upp_ok h h0).lft 0 (by rw [ngL_len]; omega) (ngP q) (by show ngP (ngP q) ∈ s; rw [ngP_ng]; exact hq)
      rw [ngL_at (by omega), ngL_at (by omega), crP_ng, show (0 + 1 : Nat) = 2 - 1 from rfl, ← e1, e2] at g2
      have : crP ((lowR s).getD 0 (0, 0)) ((lowR s).getD (2 - 1) (0, 0)) q = -crP ((lowR s).getD (2 - 1) (0, 0)) ((lowR s).getD 0 (0, 0)) q := by unfold crP crossI; grind
      have g1' : 0 ≤ crP ((lowR s).getD (2 - 1) (0, 0)) ((lowR s).getD 0 (0, 0)) q := g1
      show crP ((lowR s).getD (2 - 1) (0, 0)) ((lowR s).getD 0 (0, 0)) q = 0
      omega
    refine crs_line (f := (lowR s).getD 1 (0, 0)) (l := (lowR s).getD 0 (0, 0)) (fun e => ?_) (z a ha) (z b hb) (z c hc)
    rw [e] at hd
    exact oP_irr hd
  · have e0 : ∀ {x y z : Pt}, x = y → crP x y z = 0 := fun {x y z} e => by subst e; unfold crP crossI; grind
    rcases Classical.em (a = b) with e | n1
    · exact e0 e
    rcases Classical.em (b = c) with e | n2
    · subst e; exact crP_bb a b
    rcases Classical.em (c = a) with e | n3
    · subst e; exact crP_ba c b
    exfalso
    have := nodup_le (l := [a, b, c]) (m := s) (by simp only [List.nodup_cons, List.mem_cons, List.not_mem_nil, or_false, not_or, not_false_eq_true, List.nodup_nil, and_true]; exact ⟨⟨n1, fun e => n3 e.symm⟩, n2⟩) (by
      intro x hx
      simp only [List.mem_cons, List.not_mem_nil, or_false] at hx
      rcases hx with rfl | rfl | rfl
      · exact ha
      · exact hb
      · exact hc)
    simp at this
    omega
theorem tri_hull {a b c : Pt} (h : crP a b c ≠ 0) (ha : ptB a.1 a.2 = true) (hb : ptB b.1 b.2 = true) (hc : ptB c.1 c.2 = true) : (hulV [a, b, c]).length = 3 := by
  have ho : okL [a, b, c] = true := by
    unfold okL allV vB
    simp [ha, hb, hc]
  rw [hulV_yes ho]
  have l1 := hul_le (srtL_asc [a, b, c])
  have l2 := srtL_le [a, b, c]
  simp only [List.length_cons, List.length_nil] at l2
  rcases Nat.lt_or_ge (hulL (srtL [a, b, c])).length 3 with c' | c'
  · exact absurd (short_line (srtL_asc _) c' ((srtL_mem _ a).2 (by simp)) ((srtL_mem _ b).2 (by simp)) ((srtL_mem _ c).2 (by simp))) h
  · omega
theorem law_car (bs : List Int) (hb : Bytes bs) (_ : bs.length ≤ maxLen) : Res Try.prog 14 [.row bs.length (.bytes bs)] (.bool true) := by
  refine bodyV_res mixed EKb_ok (m := 30) (n := 12) rfl ?_
  rw [tr_lCar]
  simp only [List.drop_zero]
  generalize d3 bs bs.length 0 = ax
  generalize d3 bs bs.length 1 = ay
  generalize d3 bs bs.length 2 = bx
  generalize d3 bs bs.length 3 = b_y
  generalize d3 bs bs.length 4 = cx
  generalize d3 bs bs.length 5 = cy
  by_cases hn : crossR ax ay bx b_y cx cy = 0
  · simp [brT_ok, Tree.ok, hb, hn]
  · have hv : ptB ax ay = true ∧ ptB bx b_y = true ∧ ptB cx cy = true := by
      rcases h : (ptB ax ay && ptB bx b_y && ptB cx cy) with _ | _
      · exact absurd (crossR_no h) hn
      · exact and3 h
    obtain ⟨h1, h2, h3⟩ := hv
    have e : crossR ax ay bx b_y cx cy = crossI ax ay bx b_y cx cy := crossR_yes (by rw [h1, h2, h3]; rfl)
    rw [e] at hn ⊢
    have hc : crP (ax, ay) (bx, b_y) (cx, cy) ≠ 0 := hn
    have k1 : issI (tri3 ax ay bx b_y cx cy) = true := tri_simple hc h1 h2 h3
    have k2 : daK (tri3 ax ay bx b_y cx cy) = crossI ax ay bx b_y cx cy := by
      unfold daK
      rw [k1]
      exact tri_area (ax, ay) (bx, b_y) (cx, cy)
    have k3 : (hulV (tri3 ax ay bx b_y cx cy)).length = 3 := tri_hull hc h1 h2 h3
    have k4 : cvxI (tri3 ax ay bx b_y cx cy) = decide (0 < crossI ax ay bx b_y cx cy) := by
      unfold cvxI
      rw [k1]
      exact tri_cvx (ax, ay) (bx, b_y) (cx, cy)
    simp [brT_ok, Tree.ok, hb, hn, k1, k2, k3, k4]
end Go.Proofs.Ytieibbdfdepmbaa
