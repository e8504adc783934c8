/-
  Where two segments meet: both ways, the exact law. Written by an AI agent.
-/
import Derived.Test.YtblpldapmmoheabRelC
namespace Go.Proofs.Ytblpldapmmoheab
set_option linter.all false
open Go.RowKit

def EMp : Env := mkE TRb RCe (fun _ => noL)
theorem EMp_ok : EnvOk Try.prog EMp := mkEOk TRb_ok RCe_ok (fun _ _ _ => noL_good)
def mpX (a c u v : Int) : Int := a * (u - v) + (c - a) * u
/-- What MeetPoint answers. -/
def mpV (a b c d e f g h : Int) : Value :=
  if relV a b c d e f g h = 1 then .tuple #[.agg #[.int .i64 ((flat (ceS a b c d e f g h)).getD 0 0), .int .i64 1, .int .i64 ((flat (ceS a b c d e f g h)).getD 1 0), .int .i64 1], .bool true]
  else if relV a b c d e f g h = 2 then .tuple #[.agg #[.int .i64 (qN (mpX a c (crossI e f g h a b) (crossI e f g h c d)) (crossI e f g h a b - crossI e f g h c d)), .int .i64 (qD (mpX a c (crossI e f g h a b) (crossI e f g h c d)) (crossI e f g h a b - crossI e f g h c d)), .int .i64 (qN (mpX b d (crossI e f g h a b) (crossI e f g h c d)) (crossI e f g h a b - crossI e f g h c d)), .int .i64 (qD (mpX b d (crossI e f g h a b) (crossI e f g h c d)) (crossI e f g h a b - crossI e f g h c d))], .bool true]
  else .tuple #[.agg #[.int .i64 0, .int .i64 0, .int .i64 0, .int .i64 0], .bool false]
theorem relV_pt {a b c d e f g h : Int} (k : relV a b c d e f g h ≠ -1) : ptB a b = true ∧ ptB c d = true ∧ ptB e f = true ∧ ptB g h = true ∧ relV a b c d e f g h = relA a b c d e f g h := by
  unfold relV at k ⊢
  rcases s1 : segB a b c d with _ | _
  · rw [s1] at k; exact absurd rfl k
  rcases s2 : segB e f g h with _ | _
  · rw [s1, s2] at k; exact absurd rfl k
  exact ⟨(segB_pt s1).1, (segB_pt s1).2, (segB_pt s2).1, (segB_pt s2).2, rfl⟩
theorem relA_one {a b c d e f g h : Int} (k : relA a b c d e f g h = 1) : (ceS a b c d e f g h).length = 1 := by
  unfold relA relN at k
  split at k
  · omega
  · split at k
    · assumption
    · exfalso
      cases hx : (dvB a b c d e f g h && dvB e f g h a b c d) <;> rw [hx] at k <;> simp at k
theorem relA_two {a b c d e f g h : Int} (k : relA a b c d e f g h = 2) : dvB a b c d e f g h = true ∧ dvB e f g h a b c d = true := by
  unfold relA relN at k
  split at k
  · omega
  · split at k
    · omega
    · cases hx : (dvB a b c d e f g h && dvB e f g h a b c d) <;> rw [hx] at k
      · simp at k
      · simpa using hx
theorem dvB_ne {a b c d e f g h : Int} (k : dvB a b c d e f g h = true) : crossI a b c d e f ≠ crossI a b c d g h := by
  intro e1
  unfold dvB at k
  rw [e1] at k
  have k := of_decide_eq_true k
  have h3 : cmpI (crossI a b c d g h) 0 = -1 ∨ cmpI (crossI a b c d g h) 0 = 0 ∨ cmpI (crossI a b c d g h) 0 = 1 := by
    unfold cmpI
    split
    · exact .inl rfl
    · split
      · exact .inr (.inr rfl)
      · exact .inr (.inl rfl)
  rcases h3 with h3 | h3 | h3 <;> rw [h3] at k <;> revert k <;> decide
theorem crI_bd {ax ay bx b_y cx cy : Int} (h1 : ptB ax ay = true) (h2 : ptB bx b_y = true) (h3 : ptB cx cy = true) : -8000000 ≤ crossI ax ay bx b_y cx cy ∧ crossI ax ay bx b_y cx cy ≤ 8000000 := by
  obtain ⟨b1, b2⟩ := crs_bd h1 h2 h3
  unfold crossI
  omega
theorem same_one {o o' : List Pt} (h : SameP o o') (h1 : o'.length = 1) : o = o' := by
  obtain ⟨k1, _, k3⟩ := h
  obtain ⟨p, rfl⟩ := List.length_eq_one_iff.1 h1
  obtain ⟨q, rfl⟩ := List.length_eq_one_iff.1 (k1.trans h1)
  have := (k3 q).1 List.mem_cons_self
  simpa using this
set_option maxRecDepth 100000 in
theorem tr_sMp (a b c d e f g h : Int) : bodyV Try.prog EMp 30 12 27 [.v (.agg #[iv a, iv b, iv c, iv d]), .v (.agg #[iv e, iv f, iv g, iv h])] = brT (relV a b c d e f g h == 1) (.need (ptB a b = true) (.need (ptB c d = true) (.need (ptB e f = true) (.need (ptB g h = true) (.need ((0 : Int) ≤ (0 : Int) ∧ (0 : Int) < (↑(ceS a b c d e f g h).length : Int)) (.need ((2 : Nat) ≤ (flat (ceS a b c d e f g h)).length) (.fin (.tuple #[.agg #[.int .i64 ((flat (ceS a b c d e f g h)).getD 0 0), .int .i64 (1), .int .i64 ((flat (ceS a b c d e f g h)).getD 1 0), .int .i64 (1)], .bool (true)]) []))))))) (brT (relV a b c d e f g h == 2) (.need (ptB e f = true) (.need (ptB g h = true) (.need (ptB a b = true) (.need (ptB e f = true) (.need (ptB g h = true) (.need (ptB c d = true) (.need (big (IntKind.i64.wrap (IntKind.i64.wrap (a * IntKind.i64.wrap (crossI e f g h a b - crossI e f g h c d)) + IntKind.i64.wrap (IntKind.i64.wrap (c - a) * crossI e f g h a b)))) (.need (big (IntKind.i64.wrap (crossI e f g h a b - crossI e f g h c d))) (.need (¬IntKind.i64.wrap (crossI e f g h a b - crossI e f g h c d) = (0 : Int)) (.need (big (IntKind.i64.wrap (IntKind.i64.wrap (b * IntKind.i64.wrap (crossI e f g h a b - crossI e f g h c d)) + IntKind.i64.wrap (IntKind.i64.wrap (d - b) * crossI e f g h a b)))) (.need (big (IntKind.i64.wrap (crossI e f g h a b - crossI e f g h c d))) (.need (¬IntKind.i64.wrap (crossI e f g h a b - crossI e f g h c d) = (0 : Int)) (.fin (.tuple #[.agg #[.int .i64 (qN (IntKind.i64.wrap (IntKind.i64.wrap (a * IntKind.i64.wrap (crossI e f g h a b - crossI e f g h c d)) + IntKind.i64.wrap (IntKind.i64.wrap (c - a) * crossI e f g h a b))) (IntKind.i64.wrap (crossI e f g h a b - crossI e f g h c d))), .int .i64 (qD (IntKind.i64.wrap (IntKind.i64.wrap (a * IntKind.i64.wrap (crossI e f g h a b - crossI e f g h c d)) + IntKind.i64.wrap (IntKind.i64.wrap (c - a) * crossI e f g h a b))) (IntKind.i64.wrap (crossI e f g h a b - crossI e f g h c d))), .int .i64 (qN (IntKind.i64.wrap (IntKind.i64.wrap (b * IntKind.i64.wrap (crossI e f g h a b - crossI e f g h c d)) + IntKind.i64.wrap (IntKind.i64.wrap (d - b) * crossI e f g h a b))) (IntKind.i64.wrap (crossI e f g h a b - crossI e f g h c d))), .int .i64 (qD (IntKind.i64.wrap (IntKind.i64.wrap (b * IntKind.i64.wrap (crossI e f g h a b - crossI e f g h c d)) + IntKind.i64.wrap (IntKind.i64.wrap (d - b) * crossI e f g h a b))) (IntKind.i64.wrap (crossI e f g h a b - crossI e f g h c d)))], .bool (true)]) []))))))))))))) (.fin (.tuple #[.agg #[.int .i64 (0), .int .i64 (0), .int .i64 (0), .int .i64 (0)], .bool (false)]) [])) := by kernel_rfl
set_option maxRecDepth 100000 in
theorem tr_iMp (a b c d e f g h : Int) : bodyV Try.prog EMp 30 12 26 [.v (.agg #[iv a, iv b, iv c, iv d]), .v (.agg #[iv e, iv f, iv g, iv h])] = brT (relV a b c d e f g h == 1) (.need (ptB a b = true) (.need (ptB c d = true) (.need (ptB e f = true) (.need (ptB g h = true) (.need ((0 : Int) ≤ (0 : Int) ∧ (0 : Int) < (↑(ceI a b c d e f g h).length : Int)) (.need ((2 : Nat) ≤ (flat (ceI a b c d e f g h)).length) (.fin (.tuple #[.agg #[.int .i64 ((flat (ceI a b c d e f g h)).getD 0 0), .int .i64 (1), .int .i64 ((flat (ceI a b c d e f g h)).getD 1 0), .int .i64 (1)], .bool (true)]) []))))))) (brT (relV a b c d e f g h == 2) (.need (big (IntKind.i64.wrap (IntKind.i64.wrap (a * IntKind.i64.wrap (IntKind.i64.wrap (IntKind.i64.wrap (c - a) * IntKind.i64.wrap (h - f)) - IntKind.i64.wrap (IntKind.i64.wrap (d - b) * IntKind.i64.wrap (g - e)))) + IntKind.i64.wrap (IntKind.i64.wrap (c - a) * IntKind.i64.wrap (IntKind.i64.wrap (IntKind.i64.wrap (e - a) * IntKind.i64.wrap (h - f)) - IntKind.i64.wrap (IntKind.i64.wrap (f - b) * IntKind.i64.wrap (g - e))))))) (.need (big (IntKind.i64.wrap (IntKind.i64.wrap (IntKind.i64.wrap (c - a) * IntKind.i64.wrap (h - f)) - IntKind.i64.wrap (IntKind.i64.wrap (d - b) * IntKind.i64.wrap (g - e))))) (.need (¬IntKind.i64.wrap (IntKind.i64.wrap (IntKind.i64.wrap (c - a) * IntKind.i64.wrap (h - f)) - IntKind.i64.wrap (IntKind.i64.wrap (d - b) * IntKind.i64.wrap (g - e))) = (0 : Int)) (.need (big (IntKind.i64.wrap (IntKind.i64.wrap (b * IntKind.i64.wrap (IntKind.i64.wrap (IntKind.i64.wrap (c - a) * IntKind.i64.wrap (h - f)) - IntKind.i64.wrap (IntKind.i64.wrap (d - b) * IntKind.i64.wrap (g - e)))) + IntKind.i64.wrap (IntKind.i64.wrap (d - b) * IntKind.i64.wrap (IntKind.i64.wrap (IntKind.i64.wrap (e - a) * IntKind.i64.wrap (h - f)) - IntKind.i64.wrap (IntKind.i64.wrap (f - b) * IntKind.i64.wrap (g - e))))))) (.need (big (IntKind.i64.wrap (IntKind.i64.wrap (IntKind.i64.wrap (c - a) * IntKind.i64.wrap (h - f)) - IntKind.i64.wrap (IntKind.i64.wrap (d - b) * IntKind.i64.wrap (g - e))))) (.need (¬IntKind.i64.wrap (IntKind.i64.wrap (IntKind.i64.wrap (c - a) * IntKind.i64.wrap (h - f)) - IntKind.i64.wrap (IntKind.i64.wrap (d - b) * IntKind.i64.wrap (g - e))) = (0 : Int)) (.fin (.tuple #[.agg #[.int .i64 (qN (IntKind.i64.wrap (IntKind.i64.wrap (a * IntKind.i64.wrap (IntKind.i64.wrap (IntKind.i64.wrap (c - a) * IntKind.i64.wrap (h - f)) - IntKind.i64.wrap (IntKind.i64.wrap (d - b) * IntKind.i64.wrap (g - e)))) + IntKind.i64.wrap (IntKind.i64.wrap (c - a) * IntKind.i64.wrap (IntKind.i64.wrap (IntKind.i64.wrap (e - a) * IntKind.i64.wrap (h - f)) - IntKind.i64.wrap (IntKind.i64.wrap (f - b) * IntKind.i64.wrap (g - e)))))) (IntKind.i64.wrap (IntKind.i64.wrap (IntKind.i64.wrap (c - a) * IntKind.i64.wrap (h - f)) - IntKind.i64.wrap (IntKind.i64.wrap (d - b) * IntKind.i64.wrap (g - e))))), .int .i64 (qD (IntKind.i64.wrap (IntKind.i64.wrap (a * IntKind.i64.wrap (IntKind.i64.wrap (IntKind.i64.wrap (c - a) * IntKind.i64.wrap (h - f)) - IntKind.i64.wrap (IntKind.i64.wrap (d - b) * IntKind.i64.wrap (g - e)))) + IntKind.i64.wrap (IntKind.i64.wrap (c - a) * IntKind.i64.wrap (IntKind.i64.wrap (IntKind.i64.wrap (e - a) * IntKind.i64.wrap (h - f)) - IntKind.i64.wrap (IntKind.i64.wrap (f - b) * IntKind.i64.wrap (g - e)))))) (IntKind.i64.wrap (IntKind.i64.wrap (IntKind.i64.wrap (c - a) * IntKind.i64.wrap (h - f)) - IntKind.i64.wrap (IntKind.i64.wrap (d - b) * IntKind.i64.wrap (g - e))))), .int .i64 (qN (IntKind.i64.wrap (IntKind.i64.wrap (b * IntKind.i64.wrap (IntKind.i64.wrap (IntKind.i64.wrap (c - a) * IntKind.i64.wrap (h - f)) - IntKind.i64.wrap (IntKind.i64.wrap (d - b) * IntKind.i64.wrap (g - e)))) + IntKind.i64.wrap (IntKind.i64.wrap (d - b) * IntKind.i64.wrap (IntKind.i64.wrap (IntKind.i64.wrap (e - a) * IntKind.i64.wrap (h - f)) - IntKind.i64.wrap (IntKind.i64.wrap (f - b) * IntKind.i64.wrap (g - e)))))) (IntKind.i64.wrap (IntKind.i64.wrap (IntKind.i64.wrap (c - a) * IntKind.i64.wrap (h - f)) - IntKind.i64.wrap (IntKind.i64.wrap (d - b) * IntKind.i64.wrap (g - e))))), .int .i64 (qD (IntKind.i64.wrap (IntKind.i64.wrap (b * IntKind.i64.wrap (IntKind.i64.wrap (IntKind.i64.wrap (c - a) * IntKind.i64.wrap (h - f)) - IntKind.i64.wrap (IntKind.i64.wrap (d - b) * IntKind.i64.wrap (g - e)))) + IntKind.i64.wrap (IntKind.i64.wrap (d - b) * IntKind.i64.wrap (IntKind.i64.wrap (IntKind.i64.wrap (e - a) * IntKind.i64.wrap (h - f)) - IntKind.i64.wrap (IntKind.i64.wrap (f - b) * IntKind.i64.wrap (g - e)))))) (IntKind.i64.wrap (IntKind.i64.wrap (IntKind.i64.wrap (c - a) * IntKind.i64.wrap (h - f)) - IntKind.i64.wrap (IntKind.i64.wrap (d - b) * IntKind.i64.wrap (g - e)))))], .bool (true)]) []))))))) (.fin (.tuple #[.agg #[.int .i64 (0), .int .i64 (0), .int .i64 (0), .int .i64 (0)], .bool (false)]) [])) := by kernel_rfl
theorem mpV_plain (a b c d e f g h : Int) : plainV (mpV a b c d e f g h) = true := by
  unfold mpV
  split
  · rfl
  · split <;> rfl
theorem res_sMp (a b c d e f g h : Int) : Res Try.prog 27 [.v (.agg #[iv a, iv b, iv c, iv d]), .v (.agg #[iv e, iv f, iv g, iv h])] (mpV a b c d e f g h) := by
  refine bodyV_res mixed EMp_ok (m := 30) (n := 12) (mpV_plain ..) ?_
  rw [tr_sMp]
  unfold mpV
  refine brT_ok.2 ⟨fun k1 => ?_, fun k1 => brT_ok.2 ⟨fun k2 => ?_, fun k2 => ?_⟩⟩
  · have k1 := eq_of_beq k1
    obtain ⟨h1, h2, h3, h4, hr⟩ := relV_pt (a := a) (b := b) (c := c) (d := d) (e := e) (f := f) (g := g) (h := h) (by omega)
    have hl := relA_one (hr ▸ k1)
    rw [if_pos k1]
    exact ⟨h1, h2, h3, h4, by omega, by rw [flat_length]; omega, rfl⟩
  · have k2 := eq_of_beq k2
    obtain ⟨h1, h2, h3, h4, hr⟩ := relV_pt (a := a) (b := b) (c := c) (d := d) (e := e) (f := f) (g := g) (h := h) (by omega)
    have hne := dvB_ne (relA_two (hr ▸ k2)).2
    rw [if_neg (by omega), if_pos k2]
    have u1 := crI_bd h3 h4 h1
    have v1 := crI_bd h3 h4 h2
    generalize crossI e f g h a b = u at *
    generalize crossI e f g h c d = v at *
    have a1 := ptB_true h1
    have a2 := ptB_true h2
    have m1 : -(1000 * 16000000) ≤ a * (u - v) ∧ a * (u - v) ≤ 1000 * 16000000 := mul_bd 1000 16000000 (by omega) (by omega)
    have m2 : -(2000 * 8000000) ≤ (c - a) * u ∧ (c - a) * u ≤ 2000 * 8000000 := mul_bd 2000 8000000 (by omega) (by omega)
    have m3 : -(1000 * 16000000) ≤ b * (u - v) ∧ b * (u - v) ≤ 1000 * 16000000 := mul_bd 1000 16000000 (by omega) (by omega)
    have m4 : -(2000 * 8000000) ≤ (d - b) * u ∧ (d - b) * u ≤ 2000 * 8000000 := mul_bd 2000 8000000 (by omega) (by omega)
    simp (disch := omega) only [wr]
    exact ⟨h3, h4, h1, h3, h4, h2, by unfold big; omega, by unfold big; omega, by omega, by unfold big; omega, by unfold big; omega, by omega, rfl⟩
  · have k1 : ¬ relV a b c d e f g h = 1 := by simpa using k1
    have k2 : ¬ relV a b c d e f g h = 2 := by simpa using k2
    rw [if_neg k1, if_neg k2]
    rfl
theorem res_iMp (a b c d e f g h : Int) : Res Try.prog 26 [.v (.agg #[iv a, iv b, iv c, iv d]), .v (.agg #[iv e, iv f, iv g, iv h])] (mpV a b c d e f g h) := by
  refine bodyV_res mixed EMp_ok (m := 30) (n := 12) (mpV_plain ..) ?_
  rw [tr_iMp]
  unfold mpV
  refine brT_ok.2 ⟨fun k1 => ?_, fun k1 => brT_ok.2 ⟨fun k2 => ?_, fun k2 => ?_⟩⟩
  · have k1 := eq_of_beq k1
    obtain ⟨h1, h2, h3, h4, hr⟩ := relV_pt (a := a) (b := b) (c := c) (d := d) (e := e) (f := f) (g := g) (h := h) (by omega)
    have hl := relA_one (hr ▸ k1)
    rw [if_pos k1, same_one (ce_same a b c d e f g h) hl]
    exact ⟨h1, h2, h3, h4, by omega, by rw [flat_length]; omega, rfl⟩
  · have k2 := eq_of_beq k2
    obtain ⟨h1, h2, h3, h4, hr⟩ := relV_pt (a := a) (b := b) (c := c) (d := d) (e := e) (f := f) (g := g) (h := h) (by omega)
    have hne := dvB_ne (relA_two (hr ▸ k2)).2
    rw [if_neg (by omega), if_pos k2]
    have u1 := crI_bd h3 h4 h1
    have v1 := crI_bd h3 h4 h2
    have a1 := ptB_true h1
    have a2 := ptB_true h2
    have a3 := ptB_true h3
    have a4 := ptB_true h4
    have p1 : -(2000 * 2000) ≤ (c - a) * (h - f) ∧ (c - a) * (h - f) ≤ 2000 * 2000 := mul_bd 2000 2000 (by omega) (by omega)
    have p2 : -(2000 * 2000) ≤ (d - b) * (g - e) ∧ (d - b) * (g - e) ≤ 2000 * 2000 := mul_bd 2000 2000 (by omega) (by omega)
    have p3 : -(2000 * 2000) ≤ (e - a) * (h - f) ∧ (e - a) * (h - f) ≤ 2000 * 2000 := mul_bd 2000 2000 (by omega) (by omega)
    have p4 : -(2000 * 2000) ≤ (f - b) * (g - e) ∧ (f - b) * (g - e) ≤ 2000 * 2000 := mul_bd 2000 2000 (by omega) (by omega)
    have eA : (c - a) * (h - f) - (d - b) * (g - e) = crossI e f g h a b - crossI e f g h c d := by unfold crossI; grind
    have eP : (e - a) * (h - f) - (f - b) * (g - e) = crossI e f g h a b := by unfold crossI; grind
    simp (disch := omega) only [wr, eA, eP]
    generalize crossI e f g h a b = u at *
    generalize crossI e f g h c d = v at *
    have m1 : -(1000 * 16000000) ≤ a * (u - v) ∧ a * (u - v) ≤ 1000 * 16000000 := mul_bd 1000 16000000 (by omega) (by omega)
    have m2 : -(2000 * 8000000) ≤ (c - a) * u ∧ (c - a) * u ≤ 2000 * 8000000 := mul_bd 2000 8000000 (by omega) (by omega)
    have m3 : -(1000 * 16000000) ≤ b * (u - v) ∧ b * (u - v) ≤ 1000 * 16000000 := mul_bd 1000 16000000 (by omega) (by omega)
    have m4 : -(2000 * 8000000) ≤ (d - b) * u ∧ (d - b) * u ≤ 2000 * 8000000 := mul_bd 2000 8000000 (by omega) (by omega)
    simp (disch := omega) only [wr]
    exact ⟨by unfold big; omega, by unfold big; omega, by omega, by unfold big; omega, by unfold big; omega, by omega, rfl⟩
  · have k1 : ¬ relV a b c d e f g h = 1 := by simpa using k1
    have k2 : ¬ relV a b c d e f g h = 2 := by simpa using k2
    rw [if_neg k1, if_neg k2]
    rfl
end Go.Proofs.Ytblpldapmmoheab
