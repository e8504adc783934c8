/-
  DominatedCount: its loops in the model. Written by an AI agent.
-/
import Derived.Test.YtfjcbindeimoiabPir
namespace Go.Proofs.Ytfjcbindeimoiab
open Go.RowKit

def domB (p q : Pt) : Bool := decide (q.1 ≤ p.1) && decide (q.2 ≤ p.2)
/-- How many others, from place k on. -/
def cE (i : Nat) (p : Pt) : List Pt → Nat → Int
  | [], _ => 0
  | q :: r, k => (bif !(decide (k = i)) && domB p q then 1 else 0) + cE i p r (k + 1)
theorem cE_step {i : Nat} {p : Pt} {ps : List Pt} {k : Nat} (h : k < ps.length) : cE i p (ps.drop k) k = (bif !(decide (k = i)) && domB p (ps.getD k (0, 0)) then 1 else 0) + cE i p (ps.drop (k + 1)) (k + 1) := by
  rw [drop_cons h (0, 0)]
  rfl
theorem cE_end {i : Nat} {p : Pt} {ps : List Pt} {k : Nat} (h : ps.length ≤ k) : cE i p (ps.drop k) k = 0 := by
  rw [List.drop_of_length_le h]
  rfl
/-- The counts of so many points from i on. -/
def dcS (ps : List Pt) : Nat → Nat → List Int
  | 0, _ => []
  | m + 1, i => cE i (ps.getD i (0, 0)) ps 0 :: dcS ps m (i + 1)
theorem dcS_step {ps : List Pt} {i : Nat} (h : i < ps.length) (o : List Int) : o ++ dcS ps (ps.length - i) i = (o ++ [cE i (ps.getD i (0, 0)) ps 0]) ++ dcS ps (ps.length - (i + 1)) (i + 1) := by
  rw [show ps.length - i = (ps.length - (i + 1)) + 1 by omega]
  simp [dcS]
theorem dcS_end {ps : List Pt} {i : Nat} (h : ps.length ≤ i) : dcS ps (ps.length - i) i = [] := by
  rw [show ps.length - i = 0 by omega]
  rfl
theorem dcS_len (ps : List Pt) : ∀ (m i : Nat), (dcS ps m i).length = m
  | 0, _ => rfl
  | m + 1, i => by simp [dcS, dcS_len ps m]
noncomputable def c_sDi : Code := ((loopsOf (codeOf Try.f25))[1]?).getD .skip
def k_sDi : Ex → List Nat := keeps [0, 3, 4, 5, 6] [(2, [0, 3, 4, 5])] [2]
def s_sDi (ps : List Pt) (i : Nat) (o : List Int) : Nat × Int → St := fun (k, c) => ⟨(.slice (some ⟨0, 0, none⟩) ps.length ps.length :: topV :: topV :: .slice (some ⟨2, 0, none⟩) o.length o.length :: .int .i64 i :: .int .i64 c :: .int .i64 k :: topV :: topV :: topV :: topV :: topV :: topV :: topV :: topV :: topV :: topV :: topV :: topV :: topV :: topV :: topV :: topV :: topV :: topV :: topV :: topV :: topV :: topV :: topV :: topV :: topV :: topV :: topV :: topV :: topV :: topV :: topV :: topV :: topV :: topV :: topV :: topV :: topV :: topV :: topV :: topV :: topV :: topV :: topV :: topV :: topV :: topV :: topV :: topV :: topV :: topV :: topV :: topV :: []), [some ⟨.view, .ints (flat ps)⟩, some ⟨.dead, .vals []⟩, some ⟨.row 3 1, .ints o⟩]⟩
def re_sDi : Nat × Int → Ex := fun _ => .exit 2
def rs_sDi (ps : List Pt) (i : Nat) (o : List Int) : Nat × Int → St := fun (k, c) => ⟨(.slice (some ⟨0, 0, none⟩) ps.length ps.length :: topV :: topV :: .slice (some ⟨2, 0, none⟩) o.length o.length :: .int .i64 i :: .int .i64 (c + cE i (ps.getD i (0, 0)) (ps.drop k) k) :: topV :: topV :: topV :: topV :: topV :: topV :: topV :: topV :: topV :: topV :: topV :: topV :: topV :: topV :: topV :: topV :: topV :: topV :: topV :: topV :: topV :: topV :: topV :: topV :: topV :: topV :: topV :: topV :: topV :: topV :: topV :: topV :: topV :: topV :: topV :: topV :: topV :: topV :: topV :: topV :: topV :: topV :: topV :: topV :: topV :: topV :: topV :: topV :: topV :: topV :: topV :: topV :: topV :: []), [some ⟨.view, .ints (flat ps)⟩, some ⟨.dead, .vals []⟩, some ⟨.row 3 1, .ints o⟩]⟩
set_option maxRecDepth 100000 in
theorem tr_sDi (ps : List Pt) (i : Nat) (o : List Int) (k : Nat) (c : Int) : bodyL Try.prog E3 30 12 noL 2 c_sDi k_sDi 3 (s_sDi ps i o (k, c)) = brT (decide ((↑k : Int) < (↑ps.length : Int))) (brT (!(↑k : Int) == (↑i : Int)) (brT (decide ((flat ps).getD (0 + (↑k : Int).toNat * 2 + 0) 0 ≤ (flat ps).getD (0 + (↑i : Int).toNat * 2 + 0) 0)) (.need ((0 : Int) ≤ (↑k : Int) ∧ (↑k : Int) < (↑ps.length : Int)) (.need ((0 : Nat) + (↑k : Int).toNat * (2 : Nat) + (0 : Nat) < (flat ps).length) (.need ((0 : Int) ≤ (↑i : Int) ∧ (↑i : Int) < (↑ps.length : Int)) (.need ((0 : Nat) + (↑i : Int).toNat * (2 : Nat) + (0 : Nat) < (flat ps).length) (.need ((0 : Int) ≤ (↑k : Int) ∧ (↑k : Int) < (↑ps.length : Int)) (.need ((0 : Nat) + (↑k : Int).toNat * (2 : Nat) + (1 : Nat) < (flat ps).length) (.need ((0 : Int) ≤ (↑i : Int) ∧ (↑i : Int) < (↑ps.length : Int)) (.need ((0 : Nat) + (↑i : Int).toNat * (2 : Nat) + (1 : Nat) < (flat ps).length) (brT (decide ((flat ps).getD (0 + (↑k : Int).toNat * 2 + 1) 0 ≤ (flat ps).getD (0 + (↑i : Int).toNat * 2 + 1) 0)) (.leaf .normal ⟨(.slice (some ⟨0, 0, none⟩) (ps.length) (ps.length) :: topV :: topV :: .slice (some ⟨2, 0, none⟩) (o.length) (o.length) :: .int .i64 ((↑i : Int)) :: .int .i64 (IntKind.i64.wrap (c + 1)) :: .int .i64 (IntKind.i64.wrap ((↑k : Int) + 1)) :: topV :: topV :: topV :: topV :: topV :: topV :: topV :: topV :: topV :: topV :: topV :: topV :: topV :: topV :: topV :: topV :: topV :: topV :: topV :: topV :: topV :: topV :: topV :: topV :: topV :: topV :: topV :: topV :: topV :: topV :: topV :: topV :: topV :: topV :: topV :: topV :: topV :: topV :: topV :: topV :: topV :: topV :: topV :: topV :: topV :: topV :: topV :: topV :: topV :: topV :: topV :: topV :: []), [some ⟨.view, .ints (flat ps)⟩, some deadB, some ⟨.row 3 1, .ints (o)⟩]⟩) (.leaf .normal ⟨(.slice (some ⟨0, 0, none⟩) (ps.length) (ps.length) :: topV :: topV :: .slice (some ⟨2, 0, none⟩) (o.length) (o.length) :: .int .i64 ((↑i : Int)) :: .int .i64 (c) :: .int .i64 (IntKind.i64.wrap ((↑k : Int) + 1)) :: topV :: topV :: topV :: topV :: topV :: topV :: topV :: topV :: topV :: topV :: topV :: topV :: topV :: topV :: topV :: topV :: topV :: topV :: topV :: topV :: topV :: topV :: topV :: topV :: topV :: topV :: topV :: topV :: topV :: topV :: topV :: topV :: topV :: topV :: topV :: topV :: topV :: topV :: topV :: topV :: topV :: topV :: topV :: topV :: topV :: topV :: topV :: topV :: topV :: topV :: topV :: topV :: []), [some ⟨.view, .ints (flat ps)⟩, some deadB, some ⟨.row 3 1, .ints (o)⟩]⟩)))))))))) (.need ((0 : Int) ≤ (↑k : Int) ∧ (↑k : Int) < (↑ps.length : Int)) (.need ((0 : Nat) + (↑k : Int).toNat * (2 : Nat) + (0 : Nat) < (flat ps).length) (.need ((0 : Int) ≤ (↑i : Int) ∧ (↑i : Int) < (↑ps.length : Int)) (.need ((0 : Nat) + (↑i : Int).toNat * (2 : Nat) + (0 : Nat) < (flat ps).length) (.leaf .normal ⟨(.slice (some ⟨0, 0, none⟩) (ps.length) (ps.length) :: topV :: topV :: .slice (some ⟨2, 0, none⟩) (o.length) (o.length) :: .int .i64 ((↑i : Int)) :: .int .i64 (c) :: .int .i64 (IntKind.i64.wrap ((↑k : Int) + 1)) :: topV :: topV :: topV :: topV :: topV :: topV :: topV :: topV :: topV :: topV :: topV :: topV :: topV :: topV :: topV :: topV :: topV :: topV :: topV :: topV :: topV :: topV :: topV :: topV :: topV :: topV :: topV :: topV :: topV :: topV :: topV :: topV :: topV :: topV :: topV :: topV :: topV :: topV :: topV :: topV :: topV :: topV :: topV :: topV :: topV :: topV :: topV :: topV :: topV :: topV :: topV :: topV :: []), [some ⟨.view, .ints (flat ps)⟩, some deadB, some ⟨.row 3 1, .ints (o)⟩]⟩)))))) (.leaf .normal ⟨(.slice (some ⟨0, 0, none⟩) (ps.length) (ps.length) :: topV :: topV :: .slice (some ⟨2, 0, none⟩) (o.length) (o.length) :: .int .i64 ((↑i : Int)) :: .int .i64 (c) :: .int .i64 (IntKind.i64.wrap ((↑k : Int) + 1)) :: topV :: topV :: topV :: topV :: topV :: topV :: topV :: topV :: topV :: topV :: topV :: topV :: topV :: topV :: topV :: topV :: topV :: topV :: topV :: topV :: topV :: topV :: topV :: topV :: topV :: topV :: topV :: topV :: topV :: topV :: topV :: topV :: topV :: topV :: topV :: topV :: topV :: topV :: topV :: topV :: topV :: topV :: topV :: topV :: topV :: topV :: topV :: topV :: topV :: topV :: topV :: topV :: []), [some ⟨.view, .ints (flat ps)⟩, some deadB, some ⟨.row 3 1, .ints (o)⟩]⟩)) (.leaf (.exit 2) ⟨(.slice (some ⟨0, 0, none⟩) (ps.length) (ps.length) :: topV :: topV :: .slice (some ⟨2, 0, none⟩) (o.length) (o.length) :: .int .i64 ((↑i : Int)) :: .int .i64 (c) :: topV :: topV :: topV :: topV :: topV :: topV :: topV :: topV :: topV :: topV :: topV :: topV :: topV :: topV :: topV :: topV :: topV :: topV :: topV :: topV :: topV :: topV :: topV :: topV :: topV :: topV :: topV :: topV :: topV :: topV :: topV :: topV :: topV :: topV :: topV :: topV :: topV :: topV :: topV :: topV :: topV :: topV :: topV :: topV :: topV :: topV :: topV :: topV :: topV :: topV :: topV :: topV :: topV :: []), [some ⟨.view, .ints (flat ps)⟩, some deadB, some ⟨.row 3 1, .ints (o)⟩]⟩) := by kernel_rfl
set_option maxRecDepth 100000 in
theorem nl_sDi : loopsOf c_sDi = [] := by kernel_rfl
def inv_sDi (ps : List Pt) (i : Nat) (o : List Int) : Nat × Int → Prop := fun (k, c) => k ≤ ps.length ∧ 0 ≤ c ∧ c ≤ k
def me_sDi (ps : List Pt) (i : Nat) (o : List Int) : Nat × Int → Nat := fun (k, c) => ps.length - k
/-- A round of this loop. -/
def Round_sDi (ps : List Pt) (i : Nat) (o : List Int) : Prop := ∀ xx : Nat × Int, inv_sDi ps i o xx → (bodyL Try.prog E3 30 12 noL 2 c_sDi k_sDi 3 (s_sDi ps i o xx)).ok (RoundEnd 3 (s_sDi ps i o) (inv_sDi ps i o) (me_sDi ps i o) re_sDi (rs_sDi ps i o) xx) (fun _ _ => False)
def e_sDi (s : St) (k : Ex → St → Tree) : Option Tree := match Nat.beq s.tmps.length 59, pickL s.tmps [0, 3, 4, 5, 6], s.mem with
  | true, [.slice (some ⟨0, 0, none⟩) n _, .slice (some ⟨2, 0, none⟩) z _, .int .i64 i1, .int .i64 cc, .int .i64 kk], [some ⟨.view, .ints xs⟩, some ⟨.dead, .vals []⟩, some ⟨.row 3 1, .ints o⟩] => some (needs [kk = 0, cc = 0, z = o.length, xs.length = n * 2, n ≤ 20, 0 ≤ i1, i1 < n] (k (.exit 2) ⟨(.slice (some ⟨0, 0, none⟩) n n :: topV :: topV :: .slice (some ⟨2, 0, none⟩) o.length o.length :: .int .i64 i1 :: .int .i64 (0 + cE i1.toNat ((ptsA n xs).getD i1.toNat (0, 0)) (ptsA n xs) 0) :: topV :: topV :: topV :: topV :: topV :: topV :: topV :: topV :: topV :: topV :: topV :: topV :: topV :: topV :: topV :: topV :: topV :: topV :: topV :: topV :: topV :: topV :: topV :: topV :: topV :: topV :: topV :: topV :: topV :: topV :: topV :: topV :: topV :: topV :: topV :: topV :: topV :: topV :: topV :: topV :: topV :: topV :: topV :: topV :: topV :: topV :: topV :: topV :: topV :: topV :: topV :: topV :: topV :: []), [some ⟨.view, .ints xs⟩, some ⟨.dead, .vals []⟩, some ⟨.row 3 1, .ints o⟩]⟩))
  | _, _, _ => none
set_option maxRecDepth 100000 in
theorem round_sDi (ps : List Pt) (i : Nat) (o : List Int) (h : ps.length ≤ 20) (hi : i < ps.length) : Round_sDi ps i o := by
  rintro ⟨k, c⟩ ⟨h1, h2, h3⟩
  rw [tr_sDi]
  simp only [brT_ok, Tree.ok, decide_eq_true_eq, decide_eq_false_iff_not, Int.toNat_natCast, Nat.zero_add, Nat.add_zero, flat_length, flat_get0, flat_get1, beq_iff_eq, beq_eq_false_iff_ne, Bool.not_eq_true', Bool.not_eq_false', ne_eq]
  refine ⟨fun hlt => ?_, fun hge => ?_⟩
  · rw [wsucc (n := ps.length) (by omega) (by omega)]
    have w : IntKind.i64.wrap (c + 1) = c + 1 := wr (by omega)
    have st := cE_step (i := i) (p := ps.getD i (0, 0)) (ps := ps) (k := k) (by omega)
    rw [w]
    refine ⟨fun g0 => ⟨fun g1 => ?_, fun g1 => ?_⟩, fun g0 => ?_⟩
    · repeat refine And.intro (by omega) ?_
      refine ⟨fun g2 => ?_, fun g2 => ?_⟩
      · have e : cE i (ps.getD i (0, 0)) (ps.drop k) k = 1 + cE i (ps.getD i (0, 0)) (ps.drop (k + 1)) (k + 1) := by
          rw [st]
          have ht : (!(decide (k = i)) && domB (ps.getD i (0, 0)) (ps.getD k (0, 0))) = true := by
            simp only [domB, Bool.and_eq_true, decide_eq_true_eq, Bool.not_eq_true', decide_eq_false_iff_not]
            omega
          rw [ht, cond_true]
        refine ⟨(k + 1, c + 1), [], ⟨by omega, by omega, by omega⟩, ?_, rfl, by simp only [rs_sDi, e, Int.add_assoc], ?_⟩
        · show ps.length - (k + 1) < ps.length - k; omega
        · repeat' (first | exact True.intro | exact rfl | exact fun _ => rfl | (simp; done) | refine And.intro ?_ ?_)
      · have e : cE i (ps.getD i (0, 0)) (ps.drop k) k = cE i (ps.getD i (0, 0)) (ps.drop (k + 1)) (k + 1) := by
          rw [st]
          have hf : (!(decide (k = i)) && domB (ps.getD i (0, 0)) (ps.getD k (0, 0))) = false := by
            rw [Bool.eq_false_iff]
            intro hh
            simp only [domB, Bool.and_eq_true, decide_eq_true_eq, Bool.not_eq_true', decide_eq_false_iff_not] at hh
            omega
          rw [hf, cond_false, Int.zero_add]
        refine ⟨(k + 1, c), [], ⟨by omega, by omega, by omega⟩, ?_, rfl, by simp only [rs_sDi, e], ?_⟩
        · show ps.length - (k + 1) < ps.length - k; omega
        · repeat' (first | exact True.intro | exact rfl | exact fun _ => rfl | (simp; done) | refine And.intro ?_ ?_)
    · repeat refine And.intro (by omega) ?_
      have e : cE i (ps.getD i (0, 0)) (ps.drop k) k = cE i (ps.getD i (0, 0)) (ps.drop (k + 1)) (k + 1) := by
        rw [st]
        have hf : (!(decide (k = i)) && domB (ps.getD i (0, 0)) (ps.getD k (0, 0))) = false := by
          rw [Bool.eq_false_iff]
          intro hh
          simp only [domB, Bool.and_eq_true, decide_eq_true_eq, Bool.not_eq_true', decide_eq_false_iff_not] at hh
          omega
        rw [hf, cond_false, Int.zero_add]
      refine ⟨(k + 1, c), [], ⟨by omega, by omega, by omega⟩, ?_, rfl, by simp only [rs_sDi, e], ?_⟩
      · show ps.length - (k + 1) < ps.length - k; omega
      · repeat' (first | exact True.intro | exact rfl | exact fun _ => rfl | (simp; done) | refine And.intro ?_ ?_)
    · repeat refine And.intro (by omega) ?_
      have e : cE i (ps.getD i (0, 0)) (ps.drop k) k = cE i (ps.getD i (0, 0)) (ps.drop (k + 1)) (k + 1) := by
        rw [st]
        have hf : (!(decide (k = i)) && domB (ps.getD i (0, 0)) (ps.getD k (0, 0))) = false := by
          rw [Bool.eq_false_iff]
          intro hh
          simp only [domB, Bool.and_eq_true, decide_eq_true_eq, Bool.not_eq_true', decide_eq_false_iff_not] at hh
          omega
        rw [hf, cond_false, Int.zero_add]
      refine ⟨(k + 1, c), [], ⟨by omega, by omega, by omega⟩, ?_, rfl, by simp only [rs_sDi, e], ?_⟩
      · show ps.length - (k + 1) < ps.length - k; omega
      · repeat' (first | exact True.intro | exact rfl | exact fun _ => rfl | (simp; done) | refine And.intro ?_ ?_)
  · refine ⟨rfl, [], ?_⟩
    simp only [rs_sDi, cE_end (i := i) (p := ps.getD i (0, 0)) (ps := ps) (k := k) (by omega), Int.add_zero]
    repeat' (first | exact True.intro | exact rfl | exact fun _ => rfl | (simp; done) | refine And.intro ?_ ?_)
set_option maxRecDepth 100000 in
theorem lg_sDi : LoopE Try.prog e_sDi c_sDi := by
  intro s k t F H hlt ht
  unfold e_sDi at hlt
  split at hlt
  rotate_left
  · cases hlt
  rename_i hlen hpick hmem
  obtain ⟨tmps, mem⟩ := s
  simp only at hlen hpick hmem
  subst hmem
  obtain rfl := Option.some.inj hlt
  obtain ⟨⟨rfl, rfl, rfl, h1, h2, h4, h6, _⟩, ht2⟩ := needs_ok ht
  clear ht hlt
  obtain ⟨ps, rfl, rfl⟩ := even_flat h1
  obtain ⟨i, rfl⟩ := Int.eq_ofNat_of_zero_le h4
  rw [ptsA_flat] at ht2
  simp only [Int.toNat_natCast] at ht2
  refine ⟨_, _, ht2, loop_run mixed E3_ok (s_sDi _ _ _) (inv_sDi _ _ _) (me_sDi _ _ _) re_sDi (rs_sDi _ _ _) k_sDi (fun _ => rfl) (noLoops nl_sDi) (round_sDi _ _ _ h2 (by omega)) (x := (0, 0)) ⟨Nat.zero_le _, Int.le_refl _, Int.le_refl _⟩ (π := []) rfl ?_⟩
  refine ⟨rfl, rfl, ?_, wvs_spread' [0, 3, 4, 5, 6] hlen rfl ?_⟩
  · repeat' (first | exact True.intro | exact rfl | exact wv_top _ _ | exact fun _ => rfl | assumption | exact Eq.symm (by assumption) | exact vI0 rfl | refine And.intro ?_ ?_)
  · rw [hpick]
    repeat' (first | exact True.intro | exact rfl | exact wv_top _ _ | exact fun _ => rfl | assumption | exact Eq.symm (by assumption) | exact vI0 rfl | refine And.intro ?_ ?_)
def ltDi : LT := fun j s k => match j with
  | 1 => e_sDi s k
  | _ => none
noncomputable def c_sDo : Code := ((loopsOf (codeOf Try.f25))[0]?).getD .skip
def k_sDo : Ex → List Nat := keeps [0, 3, 4] [(0, [3])] [2]
def s_sDo (ps : List Pt) : Nat × (List Int) → St := fun (i, o) => ⟨(.slice (some ⟨0, 0, none⟩) ps.length ps.length :: topV :: topV :: .slice (some ⟨2, 0, none⟩) o.length o.length :: .int .i64 i :: topV :: topV :: topV :: topV :: topV :: topV :: topV :: topV :: topV :: topV :: topV :: topV :: topV :: topV :: topV :: topV :: topV :: topV :: topV :: topV :: topV :: topV :: topV :: topV :: topV :: topV :: topV :: topV :: topV :: topV :: topV :: topV :: topV :: topV :: topV :: topV :: topV :: topV :: topV :: topV :: topV :: topV :: topV :: topV :: topV :: topV :: topV :: topV :: topV :: topV :: topV :: topV :: topV :: topV :: []), [some ⟨.view, .ints (flat ps)⟩, some ⟨.dead, .vals []⟩, some ⟨.row 3 1, .ints o⟩]⟩
def re_sDo : Nat × (List Int) → Ex := fun _ => .exit 0
def rs_sDo (ps : List Pt) : Nat × (List Int) → St := fun (i, o) => ⟨(topV :: topV :: topV :: .slice (some ⟨2, 0, none⟩) (o ++ dcS ps (ps.length - i) i).length (o ++ dcS ps (ps.length - i) i).length :: topV :: topV :: topV :: topV :: topV :: topV :: topV :: topV :: topV :: topV :: topV :: topV :: topV :: topV :: topV :: topV :: topV :: topV :: topV :: topV :: topV :: topV :: topV :: topV :: topV :: topV :: topV :: topV :: topV :: topV :: topV :: topV :: topV :: topV :: topV :: topV :: topV :: topV :: topV :: topV :: topV :: topV :: topV :: topV :: topV :: topV :: topV :: topV :: topV :: topV :: topV :: topV :: topV :: topV :: topV :: []), [some ⟨.view, .ints (flat ps)⟩, some ⟨.dead, .vals []⟩, some ⟨.row 3 1, .ints (o ++ dcS ps (ps.length - i) i)⟩]⟩
set_option maxRecDepth 100000 in
theorem tr_sDo (ps : List Pt) (i : Nat) (o : List Int) : bodyL Try.prog E3 30 12 ltDi 1 c_sDo k_sDo 8 (s_sDo ps (i, o)) = brT (decide ((↑i : Int) < (↑ps.length : Int))) (.need ((0 : Int) = (0 : Int)) (.need ((0 : Int) = (0 : Int)) (.need (o.length = o.length) (.need ((flat ps).length = ps.length * (2 : Nat)) (.need (ps.length ≤ (20 : Nat)) (.need ((0 : Int) ≤ (↑i : Int)) (.need ((↑i : Int) < (↑ps.length : Int)) (.need ((o.length + (1 : Nat)) * (8 : Nat) ≤ (140737488355328 : Nat) ∧ o.length + (1 : Nat) ≤ (1000000 : Nat)) (.need ((0 : Nat) + o.length * (1 : Nat) ≤ o.length) (.leaf .normal ⟨(.slice (some ⟨0, 0, none⟩) (ps.length) (ps.length) :: topV :: topV :: .slice (some ⟨4, 0, none⟩) (o.length + 1) (o.length + 1) :: .int .i64 (IntKind.i64.wrap ((↑i : Int) + 1)) :: topV :: topV :: topV :: topV :: topV :: topV :: topV :: topV :: topV :: topV :: topV :: topV :: topV :: topV :: topV :: topV :: topV :: topV :: topV :: topV :: topV :: topV :: topV :: topV :: topV :: topV :: topV :: topV :: topV :: topV :: topV :: topV :: topV :: topV :: topV :: topV :: topV :: topV :: topV :: topV :: topV :: topV :: topV :: topV :: topV :: topV :: topV :: topV :: topV :: topV :: topV :: topV :: topV :: topV :: []), [some ⟨.view, .ints (flat ps)⟩, some deadB, some deadB, some ⟨.row 3 1, .vals [.int .i64 (0 + cE (↑i : Int).toNat ((ptsA ps.length (flat ps)).getD (↑i : Int).toNat (0, 0)) (ptsA ps.length (flat ps)) 0)]⟩, some ⟨.row 3 1, .ints (List.take (o.length * 1) (List.drop 0 o) ++ [0 + cE (↑i : Int).toNat ((ptsA ps.length (flat ps)).getD (↑i : Int).toNat (0, 0)) (ptsA ps.length (flat ps)) 0])⟩]⟩)))))))))) (.leaf (.exit 0) ⟨(topV :: topV :: topV :: .slice (some ⟨2, 0, none⟩) (o.length) (o.length) :: topV :: topV :: topV :: topV :: topV :: topV :: topV :: topV :: topV :: topV :: topV :: topV :: topV :: topV :: topV :: topV :: topV :: topV :: topV :: topV :: topV :: topV :: topV :: topV :: topV :: topV :: topV :: topV :: topV :: topV :: topV :: topV :: topV :: topV :: topV :: topV :: topV :: topV :: topV :: topV :: topV :: topV :: topV :: topV :: topV :: topV :: topV :: topV :: topV :: topV :: topV :: topV :: topV :: topV :: topV :: []), [some ⟨.view, .ints (flat ps)⟩, some deadB, some ⟨.row 3 1, .ints (o)⟩]⟩) := by kernel_rfl
def inv_sDo (ps : List Pt) : Nat × (List Int) → Prop := fun (i, o) => i ≤ ps.length ∧ o.length ≤ i
def me_sDo (ps : List Pt) : Nat × (List Int) → Nat := fun (i, o) => ps.length - i
/-- A round of this loop. -/
def Round_sDo (ps : List Pt) : Prop := ∀ xx : Nat × (List Int), inv_sDo ps xx → (bodyL Try.prog E3 30 12 ltDi 1 c_sDo k_sDo 8 (s_sDo ps xx)).ok (RoundEnd 2 (s_sDo ps) (inv_sDo ps) (me_sDo ps) re_sDo (rs_sDo ps) xx) (fun _ _ => False)
def e_sDo (s : St) (k : Ex → St → Tree) : Option Tree := match Nat.beq s.tmps.length 59, pickL s.tmps [0, 3, 4], s.mem with
  | true, [.slice (some ⟨0, 0, none⟩) n _, .slice (some ⟨1, 0, none⟩) z _, .int .i64 ii], [some ⟨.view, .ints xs⟩, some ⟨.row 3 1, .vals []⟩] => some (needs [ii = 0, z = 0, xs.length = n * 2, n ≤ 20] (k (.exit 0) ⟨(topV :: topV :: topV :: .slice (some ⟨2, 0, none⟩) (dcS (ptsA n xs) n 0).length (dcS (ptsA n xs) n 0).length :: topV :: topV :: topV :: topV :: topV :: topV :: topV :: topV :: topV :: topV :: topV :: topV :: topV :: topV :: topV :: topV :: topV :: topV :: topV :: topV :: topV :: topV :: topV :: topV :: topV :: topV :: topV :: topV :: topV :: topV :: topV :: topV :: topV :: topV :: topV :: topV :: topV :: topV :: topV :: topV :: topV :: topV :: topV :: topV :: topV :: topV :: topV :: topV :: topV :: topV :: topV :: topV :: topV :: topV :: topV :: []), [some ⟨.view, .ints xs⟩, some ⟨.dead, .vals []⟩, some ⟨.row 3 1, .ints (dcS (ptsA n xs) n 0)⟩]⟩))
  | _, _, _ => none
set_option maxRecDepth 100000 in
theorem in_sDo : loopsOf c_sDo = [c_sDi] := by kernel_rfl
theorem ltDi_good : LoopsGood Try.prog ltDi 1 c_sDo := by
  intro i d hd s k t F H hlt ht
  rw [in_sDo] at hd
  cases i with
  | zero =>
    obtain rfl : c_sDi = d := by simpa using hd
    exact lg_sDi s k t F H hlt ht
  | succ i => simp at hd
set_option maxRecDepth 100000 in
theorem round_sDo (ps : List Pt) (h : ps.length ≤ 20) : Round_sDo ps := by
  rintro ⟨i, o⟩ ⟨h1, h2⟩
  rw [tr_sDo]
  simp only [brT_ok, Tree.ok, decide_eq_true_eq, decide_eq_false_iff_not, Int.toNat_natCast, Nat.zero_add, flat_length, take_all1, ptsA_flat, Int.zero_add]
  refine ⟨fun hlt => ?_, fun hge => ?_⟩
  · rw [wsucc (n := ps.length) (by omega) (by omega)]
    have e := dcS_step (ps := ps) (i := i) (by omega) o
    refine ⟨trivial, trivial, trivial, trivial, h, by omega, by omega, by omega, by omega, (i + 1, o ++ [cE i (ps.getD i (0, 0)) ps 0]), [some 4], ⟨by omega, by simp; omega⟩, ?_, rfl, ?_, ?_⟩
    · show ps.length - (i + 1) < ps.length - i; omega
    · simp only [rs_sDo, e]
    · repeat' (first | exact True.intro | exact rfl | exact fun _ => rfl | (simp; done) | refine And.intro ?_ ?_)
  · refine ⟨rfl, [some 2], ?_⟩
    simp only [rs_sDo, dcS_end (ps := ps) (i := i) (by omega), List.append_nil]
    repeat' (first | exact True.intro | exact rfl | exact fun _ => rfl | (simp; done) | refine And.intro ?_ ?_)
set_option maxRecDepth 100000 in
theorem lg_sDo : LoopE Try.prog e_sDo c_sDo := by
  intro s k t F H hlt ht
  unfold e_sDo at hlt
  split at hlt
  rotate_left
  · cases hlt
  rename_i hlen hpick hmem
  obtain ⟨tmps, mem⟩ := s
  simp only at hlen hpick hmem
  subst hmem
  obtain rfl := Option.some.inj hlt
  obtain ⟨⟨rfl, rfl, h1, h2, _⟩, ht2⟩ := needs_ok ht
  clear ht hlt
  obtain ⟨ps, rfl, rfl⟩ := even_flat h1
  rw [ptsA_flat] at ht2
  refine ⟨_, _, ht2, loop_run2 mixed E3_ok (s_sDo _) (inv_sDo _) (me_sDo _) re_sDo (rs_sDo _) k_sDo (fun _ => rfl) ltDi_good (round_sDo _ h2) (x := (0, [])) ⟨Nat.zero_le _, Nat.le_refl _⟩ (π := [some 1]) rfl ?_⟩
  refine ⟨rfl, rfl, ?_, wvs_spread' [0, 3, 4] hlen rfl ?_⟩
  · repeat' (first | exact True.intro | exact rfl | exact wv_top _ _ | exact fun _ => rfl | assumption | exact Eq.symm (by assumption) | exact vI0 rfl | refine And.intro ?_ ?_)
  · rw [hpick]
    repeat' (first | exact True.intro | exact rfl | exact wv_top _ _ | exact fun _ => rfl | assumption | exact Eq.symm (by assumption) | exact vI0 rfl | refine And.intro ?_ ?_)
noncomputable def c_iDx : Code := ((loopsOf (codeOf Try.f72))[0]?).getD .skip
def k_iDx : Ex → List Nat := keeps [1, 5, 8, 9, 10] [(0, [5])] [4]
def s_iDx (ps : List Pt) (oo : List Int) (px py : Int) : Nat × (List Int) → St := fun (i, o) => ⟨[topV, .func (.func 75) #[.agg #[.int .i64 px, .int .i64 py]] #[], topV, topV, topV, .slice (some ⟨5, 0, none⟩) o.length o.length, topV, topV, .slice (some ⟨0, 0, none⟩) ps.length ps.length, .int .i64 ps.length, .int .i64 i, topV, topV, topV, topV, topV, topV, topV, topV, topV, topV, topV, topV, topV], [some ⟨.view, .ints (flat ps)⟩, some ⟨.row 3 1, .ints oo⟩, some ⟨.box, .vals [.int .i64 px, .int .i64 py]⟩, none, none, some ⟨.row 3 1, .ints o⟩]⟩
def re_iDx : Nat × (List Int) → Ex := fun _ => .exit 0
def rs_iDx (ps : List Pt) (oo : List Int) (px py : Int) : Nat × (List Int) → St := fun (i, o) => ⟨[topV, topV, topV, topV, topV, .slice (some ⟨5, 0, none⟩) (o ++ idxF (domB (px, py)) (ps.drop i) i).length (o ++ idxF (domB (px, py)) (ps.drop i) i).length, topV, topV, topV, topV, topV, topV, topV, topV, topV, topV, topV, topV, topV, topV, topV, topV, topV, topV], [some ⟨.view, .ints (flat ps)⟩, some ⟨.row 3 1, .ints oo⟩, some ⟨.box, .vals [.int .i64 px, .int .i64 py]⟩, none, none, some ⟨.row 3 1, .ints (o ++ idxF (domB (px, py)) (ps.drop i) i)⟩]⟩
set_option maxRecDepth 100000 in
theorem tr_iDx (ps : List Pt) (oo : List Int) (px py : Int) (i : Nat) (o : List Int) : bodyL Try.prog E3 30 12 noL 1 c_iDx k_iDx 16 (s_iDx ps oo px py (i, o)) = brT (decide ((↑i : Int) < (↑ps.length : Int))) (.need ((0 : Int) ≤ (↑i : Int) ∧ (↑i : Int) < (↑ps.length : Int)) (.need ((0 : Nat) + (↑i : Int).toNat * (2 : Nat) + (2 : Nat) ≤ (flat ps).length) (brT (decide ((flat ps).getD (0 + (↑i : Int).toNat * 2) 0 ≤ px)) (brT (decide ((flat ps).getD (0 + (↑i : Int).toNat * 2 + 1) 0 ≤ py)) (.need ((o.length + (1 : Nat)) * (8 : Nat) ≤ (140737488355328 : Nat) ∧ o.length + (1 : Nat) ≤ (1000000 : Nat)) (.need ((0 : Nat) + o.length * (1 : Nat) ≤ o.length) (.leaf .normal ⟨[topV, .func (Fn.func 75) #[.agg #[.int .i64 (px), .int .i64 (py)]] #[], topV, topV, topV, .slice (some ⟨10, 0, none⟩) (o.length + 1) (o.length + 1), topV, topV, .slice (some ⟨0, 0, none⟩) (ps.length) (ps.length), .int .i64 ((↑ps.length : Int)), .int .i64 (IntKind.i64.wrap ((↑i : Int) + 1)), topV, topV, topV, topV, topV, topV, topV, topV, topV, topV, topV, topV, topV], [some ⟨.view, .ints (flat ps)⟩, some ⟨.row 3 1, .ints (oo)⟩, some ⟨.box, .vals [.int .i64 (px), .int .i64 (py)]⟩, none, none, some deadB, some ⟨.box, .vals [.int .i64 ((flat ps).getD (0 + (↑i : Int).toNat * 2) 0), .int .i64 ((flat ps).getD (0 + (↑i : Int).toNat * 2 + 1) 0)]⟩, some ⟨.box, .vals [.int .i64 (px), .int .i64 (py)]⟩, some ⟨.box, .vals [.int .i64 ((flat ps).getD (0 + (↑i : Int).toNat * 2) 0), .int .i64 ((flat ps).getD (0 + (↑i : Int).toNat * 2 + 1) 0)]⟩, some ⟨.row 3 1, .vals [.int .i64 ((↑i : Int))]⟩, some ⟨.row 3 1, .ints (List.take (o.length * 1) (List.drop 0 o) ++ [(↑i : Int)])⟩]⟩))) (.leaf .normal ⟨[topV, .func (Fn.func 75) #[.agg #[.int .i64 (px), .int .i64 (py)]] #[], topV, topV, topV, .slice (some ⟨5, 0, none⟩) (o.length) (o.length), topV, topV, .slice (some ⟨0, 0, none⟩) (ps.length) (ps.length), .int .i64 ((↑ps.length : Int)), .int .i64 (IntKind.i64.wrap ((↑i : Int) + 1)), topV, topV, topV, topV, topV, topV, topV, topV, topV, topV, topV, topV, topV], [some ⟨.view, .ints (flat ps)⟩, some ⟨.row 3 1, .ints (oo)⟩, some ⟨.box, .vals [.int .i64 (px), .int .i64 (py)]⟩, none, none, some ⟨.row 3 1, .ints (o)⟩, some ⟨.box, .vals [.int .i64 ((flat ps).getD (0 + (↑i : Int).toNat * 2) 0), .int .i64 ((flat ps).getD (0 + (↑i : Int).toNat * 2 + 1) 0)]⟩, some ⟨.box, .vals [.int .i64 (px), .int .i64 (py)]⟩, some ⟨.box, .vals [.int .i64 ((flat ps).getD (0 + (↑i : Int).toNat * 2) 0), .int .i64 ((flat ps).getD (0 + (↑i : Int).toNat * 2 + 1) 0)]⟩]⟩)) (.leaf .normal ⟨[topV, .func (Fn.func 75) #[.agg #[.int .i64 (px), .int .i64 (py)]] #[], topV, topV, topV, .slice (some ⟨5, 0, none⟩) (o.length) (o.length), topV, topV, .slice (some ⟨0, 0, none⟩) (ps.length) (ps.length), .int .i64 ((↑ps.length : Int)), .int .i64 (IntKind.i64.wrap ((↑i : Int) + 1)), topV, topV, topV, topV, topV, topV, topV, topV, topV, topV, topV, topV, topV], [some ⟨.view, .ints (flat ps)⟩, some ⟨.row 3 1, .ints (oo)⟩, some ⟨.box, .vals [.int .i64 (px), .int .i64 (py)]⟩, none, none, some ⟨.row 3 1, .ints (o)⟩, some ⟨.box, .vals [.int .i64 ((flat ps).getD (0 + (↑i : Int).toNat * 2) 0), .int .i64 ((flat ps).getD (0 + (↑i : Int).toNat * 2 + 1) 0)]⟩, some ⟨.box, .vals [.int .i64 (px), .int .i64 (py)]⟩, some ⟨.box, .vals [.int .i64 ((flat ps).getD (0 + (↑i : Int).toNat * 2) 0), .int .i64 ((flat ps).getD (0 + (↑i : Int).toNat * 2 + 1) 0)]⟩]⟩)))) (.leaf (.exit 0) ⟨[topV, topV, topV, topV, topV, .slice (some ⟨5, 0, none⟩) (o.length) (o.length), topV, topV, topV, topV, topV, topV, topV, topV, topV, topV, topV, topV, topV, topV, topV, topV, topV, topV], [some ⟨.view, .ints (flat ps)⟩, some ⟨.row 3 1, .ints (oo)⟩, some ⟨.box, .vals [.int .i64 (px), .int .i64 (py)]⟩, none, none, some ⟨.row 3 1, .ints (o)⟩]⟩) := by kernel_rfl
set_option maxRecDepth 100000 in
theorem nl_iDx : loopsOf c_iDx = [] := by kernel_rfl
def inv_iDx (ps : List Pt) (oo : List Int) (px py : Int) : Nat × (List Int) → Prop := fun (i, o) => i ≤ ps.length ∧ o.length ≤ i
def me_iDx (ps : List Pt) (oo : List Int) (px py : Int) : Nat × (List Int) → Nat := fun (i, o) => ps.length - i
/-- A round of this loop. -/
def Round_iDx (ps : List Pt) (oo : List Int) (px py : Int) : Prop := ∀ xx : Nat × (List Int), inv_iDx ps oo px py xx → (bodyL Try.prog E3 30 12 noL 1 c_iDx k_iDx 16 (s_iDx ps oo px py xx)).ok (RoundEnd 5 (s_iDx ps oo px py) (inv_iDx ps oo px py) (me_iDx ps oo px py) re_iDx (rs_iDx ps oo px py) xx) (fun _ _ => False)
def e_iDx (s : St) (k : Ex → St → Tree) : Option Tree := match Nat.beq s.tmps.length 24, pickL s.tmps [1, 5, 8, 9, 10], s.mem with
  | true, [.func (.func 75) ⟨[.agg ⟨[.int .i64 px, .int .i64 py]⟩]⟩ ⟨[]⟩, .slice none 0 0, .slice (some ⟨0, 0, none⟩) m _, .int .i64 l, .int .i64 ii], [some ⟨.view, .ints xs⟩, some ⟨.row 3 1, .ints oo⟩, some ⟨.box, .vals [.int .i64 px2, .int .i64 py2]⟩, none, none] => some (needs [ii = 0, l = m, px2 = px, py2 = py, xs.length = m * 2, m ≤ 20] (k (.exit 0) ⟨[topV, topV, topV, topV, topV, .slice (some ⟨5, 0, none⟩) (idxF (domB (px, py)) (ptsA m xs) 0).length (idxF (domB (px, py)) (ptsA m xs) 0).length, topV, topV, topV, topV, topV, topV, topV, topV, topV, topV, topV, topV, topV, topV, topV, topV, topV, topV], [some ⟨.view, .ints xs⟩, some ⟨.row 3 1, .ints oo⟩, some ⟨.box, .vals [.int .i64 px, .int .i64 py]⟩, none, none, some ⟨.row 3 1, .ints (idxF (domB (px, py)) (ptsA m xs) 0)⟩]⟩))
  | _, _, _ => none
set_option maxRecDepth 100000 in
theorem round_iDx (ps : List Pt) (oo : List Int) (px py : Int) (h : ps.length ≤ 20) : Round_iDx ps oo px py := by
  rintro ⟨i, o⟩ ⟨h1, h2⟩
  rw [tr_iDx]
  simp only [brT_ok, Tree.ok, decide_eq_true_eq, decide_eq_false_iff_not, Int.toNat_natCast, Nat.zero_add, flat_length, flat_get0, flat_get1, take_all1]
  refine ⟨fun hlt => ?_, fun hge => ?_⟩
  · rw [wsucc (n := ps.length) (by omega) (by omega)]
    refine ⟨by omega, by omega, fun g1 => ⟨fun g2 => ⟨by omega, by omega, ?_⟩, fun g2 => ?_⟩, fun g1 => ?_⟩
    · have hP : domB (px, py) (ps.getD i (0, 0)) = true := by simp only [domB, Bool.and_eq_true, decide_eq_true_eq]; omega
      refine ⟨(i + 1, o ++ [(i : Int)]), [some 10], ⟨by omega, by simp; omega⟩, ?_, rfl, ?_, ?_⟩
      · show ps.length - (i + 1) < ps.length - i; omega
      · simp only [rs_iDx, idx_yes (P := domB (px, py)) (ps := ps) (i := i) (by omega) hP o]
      · repeat' (first | exact True.intro | exact rfl | exact fun _ => rfl | (simp; done) | refine And.intro ?_ ?_)
    all_goals
      have hP : domB (px, py) (ps.getD i (0, 0)) = false := by
        rw [Bool.eq_false_iff]
        intro hh
        simp only [domB, Bool.and_eq_true, decide_eq_true_eq] at hh
        omega
      refine ⟨(i + 1, o), [some 5], ⟨by omega, by omega⟩, ?_, rfl, ?_, ?_⟩
      · show ps.length - (i + 1) < ps.length - i; omega
      · simp only [rs_iDx, idx_no (P := domB (px, py)) (ps := ps) (i := i) (by omega) hP]
      · repeat' (first | exact True.intro | exact rfl | exact fun _ => rfl | (simp; done) | refine And.intro ?_ ?_)
  · refine ⟨rfl, [some 5], ?_⟩
    simp only [rs_iDx, idx_end (P := domB (px, py)) (ps := ps) (i := i) (by omega), List.append_nil]
    repeat' (first | exact True.intro | exact rfl | exact fun _ => rfl | (simp; done) | refine And.intro ?_ ?_)
set_option maxRecDepth 100000 in
theorem lg_iDx : LoopE Try.prog e_iDx c_iDx := by
  intro s k t F H hlt ht
  unfold e_iDx at hlt
  split at hlt
  rotate_left
  · cases hlt
  rename_i hlen hpick hmem
  obtain ⟨tmps, mem⟩ := s
  simp only at hlen hpick hmem
  subst hmem
  obtain rfl := Option.some.inj hlt
  obtain ⟨⟨rfl, rfl, rfl, rfl, h1, h3, _⟩, ht2⟩ := needs_ok ht
  clear ht hlt
  obtain ⟨ps, rfl, rfl⟩ := even_flat h1
  rw [ptsA_flat] at ht2
  refine ⟨_, _, ht2, loop_run2 mixed E3_ok (s_iDx ps _ _ _) (inv_iDx ps _ _ _) (me_iDx ps _ _ _) re_iDx (rs_iDx ps _ _ _) k_iDx (fun _ => rfl) (noLoops nl_iDx) (round_iDx ps _ _ _ h3) (x := (0, [])) ⟨Nat.zero_le _, Nat.le_refl _⟩ (π := [none]) rfl ?_⟩
  refine ⟨rfl, rfl, ?_, wvs_spread' [1, 5, 8, 9, 10] hlen rfl ?_⟩
  · repeat' (first | exact True.intro | exact rfl | exact wv_top _ _ | exact fun _ => rfl | assumption | exact Eq.symm (by assumption) | exact vI0 rfl | refine And.intro ?_ ?_)
  · rw [hpick]
    repeat' (first | exact True.intro | exact rfl | exact wv_top _ _ | exact fun _ => rfl | assumption | exact Eq.symm (by assumption) | exact vI0 rfl | refine And.intro ?_ ?_)
theorem Lr_iDx {fn : Func} (hf : Try.prog.funcs[72]? = some fn) : LoopsGood Try.prog (lt1 e_iDx) 0 (codeOf fn) := by
  obtain rfl := fn_is Try.func72 hf
  exact lt1_good lg_iDx
def LDx : FuncId → LT := fun f => match f with
  | 72 => lt1 e_iDx
  | _ => noL
def EDx : Env := mkE T2 (fun _ _ => none) LDx
theorem EDx_ok : EnvOk Try.prog EDx := mkEOk T2_ok (fun _ _ _ _ _ h => (by cases h)) (by
  intro f fn hf
  unfold LDx
  split
  all_goals first | with_reducible exact Lr_iDx hf | exact noL_good)
/-- The counts of so many points from i on, as the program finds them. -/
def dcI (ps : List Pt) : Nat → Nat → List Int
  | 0, _ => []
  | m + 1, i => (((idxF (domB (ps.getD i (0, 0))) ps 0).length : Int) - 1) :: dcI ps m (i + 1)
theorem dcI_step {ps : List Pt} {i : Nat} (h : i < ps.length) (o : List Int) : o ++ dcI ps (ps.length - i) i = (o ++ [((idxF (domB (ps.getD i (0, 0))) ps 0).length : Int) - 1]) ++ dcI ps (ps.length - (i + 1)) (i + 1) := by
  rw [show ps.length - i = (ps.length - (i + 1)) + 1 by omega]
  simp [dcI]
theorem dcI_end {ps : List Pt} {i : Nat} (h : ps.length ≤ i) : dcI ps (ps.length - i) i = [] := by
  rw [show ps.length - i = 0 by omega]
  rfl
noncomputable def c_iDo : Code := ((loopsOf (codeOf Try.f26))[0]?).getD .skip
def k_iDo : Ex → List Nat := keeps [0, 3, 9, 10, 11] [(0, [3])] [2]
def s_iDo (ps : List Pt) : Nat × (List Int) → St := fun (i, o) => ⟨[.slice (some ⟨0, 0, none⟩) ps.length ps.length, topV, topV, .slice (some ⟨1, 0, none⟩) o.length o.length, topV, topV, topV, topV, topV, .slice (some ⟨0, 0, none⟩) ps.length ps.length, .int .i64 ps.length, .int .i64 i, topV, topV, topV, topV, topV, topV, topV, topV, topV, topV, topV, topV, topV, topV], [some ⟨.view, .ints (flat ps)⟩, some ⟨.row 3 1, .ints o⟩]⟩
def re_iDo : Nat × (List Int) → Ex := fun _ => .exit 0
def rs_iDo (ps : List Pt) : Nat × (List Int) → St := fun (i, o) => ⟨[topV, topV, topV, .slice (some ⟨1, 0, none⟩) (o ++ dcI ps (ps.length - i) i).length (o ++ dcI ps (ps.length - i) i).length, topV, topV, topV, topV, topV, topV, topV, topV, topV, topV, topV, topV, topV, topV, topV, topV, topV, topV, topV, topV, topV, topV], [some ⟨.view, .ints (flat ps)⟩, some ⟨.row 3 1, .ints (o ++ dcI ps (ps.length - i) i)⟩]⟩
set_option maxRecDepth 100000 in
theorem tr_iDo (ps : List Pt) (i : Nat) (o : List Int) : bodyL Try.prog EDx 30 12 noL 1 c_iDo k_iDo 12 (s_iDo ps (i, o)) = brT (decide ((↑i : Int) < (↑ps.length : Int))) (.need ((0 : Int) ≤ (↑i : Int) ∧ (↑i : Int) < (↑ps.length : Int)) (.need ((0 : Nat) + (↑i : Int).toNat * (2 : Nat) + (2 : Nat) ≤ (flat ps).length) (.need ((0 : Int) = (0 : Int)) (.need ((↑ps.length : Int) = (↑ps.length : Int)) (.need ((flat ps).getD ((0 : Nat) + (↑i : Int).toNat * (2 : Nat)) (0 : Int) = (flat ps).getD ((0 : Nat) + (↑i : Int).toNat * (2 : Nat)) (0 : Int)) (.need ((flat ps).getD ((0 : Nat) + (↑i : Int).toNat * (2 : Nat) + (1 : Nat)) (0 : Int) = (flat ps).getD ((0 : Nat) + (↑i : Int).toNat * (2 : Nat) + (1 : Nat)) (0 : Int)) (.need ((flat ps).length = ps.length * (2 : Nat)) (.need (ps.length ≤ (20 : Nat)) (.need ((o.length + (1 : Nat)) * (8 : Nat) ≤ (140737488355328 : Nat) ∧ o.length + (1 : Nat) ≤ (1000000 : Nat)) (.need ((0 : Nat) + o.length * (1 : Nat) ≤ o.length) (.leaf .normal ⟨[.slice (some ⟨0, 0, none⟩) (ps.length) (ps.length), topV, topV, .slice (some ⟨4, 0, none⟩) (o.length + 1) (o.length + 1), topV, topV, topV, topV, topV, .slice (some ⟨0, 0, none⟩) (ps.length) (ps.length), .int .i64 ((↑ps.length : Int)), .int .i64 (IntKind.i64.wrap ((↑i : Int) + 1)), topV, topV, topV, topV, topV, topV, topV, topV, topV, topV, topV, topV, topV, topV], [some ⟨.view, .ints (flat ps)⟩, some deadB, some ⟨.box, .vals [.int .i64 ((flat ps).getD (0 + (↑i : Int).toNat * 2) 0), .int .i64 ((flat ps).getD (0 + (↑i : Int).toNat * 2 + 1) 0)]⟩, some ⟨.row 3 1, .vals [.int .i64 (IntKind.i64.wrap ((↑(idxF (domB ((flat ps).getD (0 + (↑i : Int).toNat * 2) 0, (flat ps).getD (0 + (↑i : Int).toNat * 2 + 1) 0)) (ptsA ps.length (flat ps)) 0).length : Int) - 1))]⟩, some ⟨.row 3 1, .ints (List.take (o.length * 1) (List.drop 0 o) ++ [IntKind.i64.wrap ((↑(idxF (domB ((flat ps).getD (0 + (↑i : Int).toNat * 2) 0, (flat ps).getD (0 + (↑i : Int).toNat * 2 + 1) 0)) (ptsA ps.length (flat ps)) 0).length : Int) - 1)])⟩, some ⟨.row 3 1, .ints (idxF (domB ((flat ps).getD (0 + (↑i : Int).toNat * 2) 0, (flat ps).getD (0 + (↑i : Int).toNat * 2 + 1) 0)) (ptsA ps.length (flat ps)) 0)⟩]⟩))))))))))) (.leaf (.exit 0) ⟨[topV, topV, topV, .slice (some ⟨1, 0, none⟩) (o.length) (o.length), topV, topV, topV, topV, topV, topV, topV, topV, topV, topV, topV, topV, topV, topV, topV, topV, topV, topV, topV, topV, topV, topV], [some ⟨.view, .ints (flat ps)⟩, some ⟨.row 3 1, .ints (o)⟩]⟩) := by kernel_rfl
set_option maxRecDepth 100000 in
theorem nl_iDo : loopsOf c_iDo = [] := by kernel_rfl
def inv_iDo (ps : List Pt) : Nat × (List Int) → Prop := fun (i, o) => i ≤ ps.length ∧ o.length ≤ i
def me_iDo (ps : List Pt) : Nat × (List Int) → Nat := fun (i, o) => ps.length - i
/-- A round of this loop. -/
def Round_iDo (ps : List Pt) : Prop := ∀ xx : Nat × (List Int), inv_iDo ps xx → (bodyL Try.prog EDx 30 12 noL 1 c_iDo k_iDo 12 (s_iDo ps xx)).ok (RoundEnd 1 (s_iDo ps) (inv_iDo ps) (me_iDo ps) re_iDo (rs_iDo ps) xx) (fun _ _ => False)
def e_iDo (s : St) (k : Ex → St → Tree) : Option Tree := match Nat.beq s.tmps.length 26, pickL s.tmps [0, 3, 9, 10, 11], s.mem with
  | true, [.slice (some ⟨0, 0, none⟩) n _, .slice none 0 0, .slice (some ⟨0, 0, none⟩) n2 _, .int .i64 l, .int .i64 ii], [some ⟨.view, .ints xs⟩] => some (needs [ii = 0, n2 = n, l = n, xs.length = n * 2, n ≤ 20] (k (.exit 0) ⟨[topV, topV, topV, .slice (some ⟨1, 0, none⟩) (dcI (ptsA n xs) n 0).length (dcI (ptsA n xs) n 0).length, topV, topV, topV, topV, topV, topV, topV, topV, topV, topV, topV, topV, topV, topV, topV, topV, topV, topV, topV, topV, topV, topV], [some ⟨.view, .ints xs⟩, some ⟨.row 3 1, .ints (dcI (ptsA n xs) n 0)⟩]⟩))
  | _, _, _ => none
set_option maxRecDepth 100000 in
theorem round_iDo (ps : List Pt) (h : ps.length ≤ 20) : Round_iDo ps := by
  rintro ⟨i, o⟩ ⟨h1, h2⟩
  rw [tr_iDo]
  simp only [brT_ok, Tree.ok, decide_eq_true_eq, decide_eq_false_iff_not, Int.toNat_natCast, Nat.zero_add, flat_length, flat_get0, flat_get1, take_all1, ptsA_flat]
  refine ⟨fun hlt => ?_, fun hge => ?_⟩
  · rw [wsucc (n := ps.length) (by omega) (by omega)]
    have hlen := idx_len (domB ((ps.getD i (0, 0)).1, (ps.getD i (0, 0)).2)) ps 0
    have w : IntKind.i64.wrap (((idxF (domB ((ps.getD i (0, 0)).1, (ps.getD i (0, 0)).2)) ps 0).length : Int) - 1) = ((idxF (domB ((ps.getD i (0, 0)).1, (ps.getD i (0, 0)).2)) ps 0).length : Int) - 1 := wr (by omega)
    rw [w]
    have e := dcI_step (ps := ps) (i := i) (by omega) o
    refine ⟨by omega, by omega, trivial, trivial, trivial, trivial, trivial, h, by omega, by omega, (i + 1, o ++ [((idxF (domB (ps.getD i (0, 0))) ps 0).length : Int) - 1]), [some 4], ⟨by omega, by simp; omega⟩, ?_, rfl, ?_, ?_⟩
    · show ps.length - (i + 1) < ps.length - i; omega
    · simp only [rs_iDo, e]
    · repeat' (first | exact True.intro | exact rfl | exact fun _ => rfl | (simp; done) | refine And.intro ?_ ?_)
  · refine ⟨rfl, [some 1], ?_⟩
    simp only [rs_iDo, dcI_end (ps := ps) (i := i) (by omega), List.append_nil]
    repeat' (first | exact True.intro | exact rfl | exact fun _ => rfl | (simp; done) | refine And.intro ?_ ?_)
set_option maxRecDepth 100000 in
theorem lg_iDo : LoopE Try.prog e_iDo c_iDo := by
  intro s k t F H hlt ht
  unfold e_iDo at hlt
  split at hlt
  rotate_left
  · cases hlt
  rename_i hlen hpick hmem
  obtain ⟨tmps, mem⟩ := s
  simp only at hlen hpick hmem
  subst hmem
  obtain rfl := Option.some.inj hlt
  obtain ⟨⟨rfl, rfl, rfl, h1, h2, _⟩, ht2⟩ := needs_ok ht
  clear ht hlt
  obtain ⟨ps, rfl, rfl⟩ := even_flat h1
  rw [ptsA_flat] at ht2
  refine ⟨_, _, ht2, loop_run2 mixed EDx_ok (s_iDo ps) (inv_iDo ps) (me_iDo ps) re_iDo (rs_iDo ps) k_iDo (fun _ => rfl) (noLoops nl_iDo) (round_iDo ps h2) (x := (0, [])) ⟨Nat.zero_le _, Nat.le_refl _⟩ (π := [none]) rfl ?_⟩
  refine ⟨rfl, rfl, ?_, wvs_spread' [0, 3, 9, 10, 11] hlen rfl ?_⟩
  · repeat' (first | exact True.intro | exact rfl | exact wv_top _ _ | exact fun _ => rfl | assumption | exact Eq.symm (by assumption) | exact vI0 rfl | refine And.intro ?_ ?_)
  · rw [hpick]
    repeat' (first | exact True.intro | exact rfl | exact wv_top _ _ | exact fun _ => rfl | assumption | exact Eq.symm (by assumption) | exact vI0 rfl | refine And.intro ?_ ?_)
end Go.Proofs.Ytfjcbindeimoiab
