/-
  The outer loops of the direct Collinear. Written by an AI agent.
-/
import Derived.Test.YtieibbdfdepmbaaLpE
namespace Go.Proofs.Ytieibbdfdepmbaa
set_option linter.all false
open Go.RowKit

def ltC2 : LT := fun j s k => match j with
  | 2 => e_col2 s k
  | _ => none
noncomputable def c_col1 : Code := ((loopsOf (codeOf Try.f85))[1]?).getD .skip
def k_col1 : Ex → List Nat := keeps [0, 3, 4] [(2, [0, 3])] [2]
def s_col1 (ps : List Pt) (i : Nat) : Nat → St := fun j => ⟨(.slice (some ⟨0, 0, none⟩) ps.length ps.length :: topV :: topV :: .int .i64 i :: .int .i64 j :: topV :: topV :: topV :: topV :: topV :: topV :: topV :: topV :: topV :: topV :: topV :: topV :: topV :: topV :: topV :: topV :: topV :: topV :: topV :: topV :: topV :: topV :: topV :: topV :: topV :: topV :: topV :: topV :: topV :: topV :: topV :: []), [some ⟨.view, .ints (flat ps)⟩]⟩
def re_col1 (ps : List Pt) (i : Nat) : Nat → Ex := fun j => bif col1 ps i j then .exit 2 else .ret
def rs_col1 (ps : List Pt) (i : Nat) : Nat → St := fun j => bif col1 ps i j then ⟨(.slice (some ⟨0, 0, none⟩) ps.length ps.length :: topV :: topV :: .int .i64 i :: topV :: topV :: topV :: topV :: topV :: topV :: topV :: topV :: topV :: topV :: topV :: topV :: topV :: topV :: topV :: topV :: topV :: topV :: topV :: topV :: topV :: topV :: topV :: topV :: topV :: topV :: topV :: topV :: topV :: topV :: topV :: topV :: []), [some ⟨.view, .ints (flat ps)⟩]⟩ else ⟨(topV :: topV :: .bool false :: topV :: topV :: topV :: topV :: topV :: topV :: topV :: topV :: topV :: topV :: topV :: topV :: topV :: topV :: topV :: topV :: topV :: topV :: topV :: topV :: topV :: topV :: topV :: topV :: topV :: topV :: topV :: topV :: topV :: topV :: topV :: topV :: topV :: []), [some ⟨.view, .ints (flat ps)⟩]⟩
set_option maxRecDepth 100000 in
theorem tr_col1 (ps : List Pt) (i : Nat) (j : Nat) : bodyL Try.prog E10 30 12 ltC2 2 c_col1 k_col1 1 (s_col1 ps i j) = brT (decide ((↑j : Int) < (↑i : Int))) (.need ((0 : Int) = (0 : Int)) (.need ((flat ps).length = ps.length * (2 : Nat)) (.need (ps.length ≤ (20 : Nat)) (.need (allV (ptsA ps.length (flat ps)) = true) (.need ((0 : Int) ≤ (↑j : Int)) (.need ((↑j : Int) < (↑i : Int)) (.need ((↑i : Int) < (↑ps.length : Int)) (brT (col2 (ptsA ps.length (flat ps)) (↑i : Int).toNat (↑j : Int).toNat 0) (.leaf .normal ⟨(.slice (some ⟨0, 0, none⟩) (ps.length) (ps.length) :: topV :: topV :: .int .i64 ((↑i : Int)) :: .int .i64 (IntKind.i64.wrap ((↑j : Int) + 1)) :: topV :: topV :: topV :: topV :: topV :: topV :: topV :: topV :: topV :: topV :: topV :: topV :: topV :: topV :: topV :: topV :: topV :: topV :: topV :: topV :: topV :: topV :: topV :: topV :: topV :: topV :: topV :: topV :: topV :: topV :: topV :: []), [some ⟨.view, .ints (flat ps)⟩]⟩) (.leaf .ret ⟨(topV :: topV :: .bool (false) :: topV :: topV :: topV :: topV :: topV :: topV :: topV :: topV :: topV :: topV :: topV :: topV :: topV :: topV :: topV :: topV :: topV :: topV :: topV :: topV :: topV :: topV :: topV :: topV :: topV :: topV :: topV :: topV :: topV :: topV :: topV :: topV :: topV :: []), [some ⟨.view, .ints (flat ps)⟩]⟩))))))))) (.leaf (.exit 2) ⟨(.slice (some ⟨0, 0, none⟩) (ps.length) (ps.length) :: topV :: topV :: .int .i64 ((↑i : Int)) :: topV :: topV :: topV :: topV :: topV :: topV :: topV :: topV :: topV :: topV :: topV :: topV :: topV :: topV :: topV :: topV :: topV :: topV :: topV :: topV :: topV :: topV :: topV :: topV :: topV :: topV :: topV :: topV :: topV :: topV :: topV :: topV :: []), [some ⟨.view, .ints (flat ps)⟩]⟩) := by kernel_rfl
def inv_col1 (ps : List Pt) (i : Nat) : Nat → Prop := fun j => j ≤ i
def me_col1 (ps : List Pt) (i : Nat) : Nat → Nat := fun j => i - j
/-- A round of this loop. -/
def Round_col1 (ps : List Pt) (i : Nat) : Prop := ∀ xx : Nat, inv_col1 ps i xx → (bodyL Try.prog E10 30 12 ltC2 2 c_col1 k_col1 1 (s_col1 ps i xx)).ok (RoundEnd 1 (s_col1 ps i) (inv_col1 ps i) (me_col1 ps i) (re_col1 ps i) (rs_col1 ps i) xx) (fun _ _ => False)
def e_col1 (s : St) (k : Ex → St → Tree) : Option Tree := match Nat.beq s.tmps.length 36, pickL s.tmps [0, 3, 4], s.mem with
  | true, [.slice (some ⟨0, 0, none⟩) n _, .int .i64 ii, .int .i64 jj], [some ⟨.view, .ints xs⟩] => some (needs [jj = 0, xs.length = n * 2, n ≤ 20, allV (ptsA n xs) = true, 0 ≤ ii, ii < n] (brT (col1 (ptsA n xs) ii.toNat 0) (k (.exit 2) ⟨(.slice (some ⟨0, 0, none⟩) n n :: topV :: topV :: .int .i64 ii :: topV :: topV :: topV :: topV :: topV :: topV :: topV :: topV :: topV :: topV :: topV :: topV :: topV :: topV :: topV :: topV :: topV :: topV :: topV :: topV :: topV :: topV :: topV :: topV :: topV :: topV :: topV :: topV :: topV :: topV :: topV :: topV :: []), [some ⟨.view, .ints xs⟩]⟩) (k .ret ⟨(topV :: topV :: .bool false :: topV :: topV :: topV :: topV :: topV :: topV :: topV :: topV :: topV :: topV :: topV :: topV :: topV :: topV :: topV :: topV :: topV :: topV :: topV :: topV :: topV :: topV :: topV :: topV :: topV :: topV :: topV :: topV :: topV :: topV :: topV :: topV :: topV :: []), [some ⟨.view, .ints xs⟩]⟩)))
  | _, _, _ => none
set_option maxRecDepth 100000 in
theorem in_col1 : loopsOf c_col1 = [c_col2] := by kernel_rfl
theorem ltC2_good : LoopsGood Try.prog ltC2 2 c_col1 := by
  intro i d hd s k t F H hlt ht
  rw [in_col1] at hd
  cases i with
  | zero =>
    obtain rfl : c_col2 = d := by simpa using hd
    exact lg_col2 s k t F H hlt ht
  | succ i => simp at hd
set_option maxRecDepth 100000 in
theorem round_col1 (ps : List Pt) (i : Nat) (h : ps.length ≤ 20) (hv : allV ps = true) (hi : i < ps.length) : Round_col1 ps i := by
  rintro j h1
  simp only [inv_col1] at h1
  rw [tr_col1]
  simp only [brT_ok, Tree.ok, decide_eq_true_eq, decide_eq_false_iff_not, Int.toNat_natCast, Nat.zero_add, flat_length, flat_get0, flat_get1, ptsA_flat, Bool.not_eq_true', Bool.not_eq_false', beq_iff_eq, beq_eq_false_iff_ne]
  refine ⟨fun hlt => ?_, fun hge => ?_⟩
  · repeat refine And.intro (by first | exact True.intro | exact rfl | omega | assumption) ?_
    rw [wsucc (n := ps.length) (by omega) (by omega)]
    have st : col1 ps i j = (col2 ps i j 0 && col1 ps i (j + 1)) := alF_step (by omega)
    refine ⟨fun hv => ?_, fun hv => ?_⟩
    · have e : col1 ps i j = col1 ps i (j + 1) := by rw [st, hv, Bool.true_and]
      refine ⟨j + 1, [], by show j + 1 ≤ i; omega, ?_, by simp only [re_col1, e], by simp only [rs_col1, e], ?_⟩
      · show i - (j + 1) < i - j; omega
      · repeat' (first | exact True.intro | exact rfl | exact fun _ => rfl | refine And.intro ?_ ?_)
    · have e : col1 ps i j = false := by
        rw [st, hv]
        rfl
      refine ⟨by simp only [re_col1, e, cond_false], [], ?_⟩
      simp only [rs_col1, e, cond_false]
      repeat' (first | exact True.intro | exact rfl | exact fun _ => rfl | refine And.intro ?_ ?_)
  · have e : col1 ps i j = true := alF_end (by omega)
    refine ⟨by simp only [re_col1, e, cond_true], [], ?_⟩
    simp only [rs_col1, e, cond_true]
    repeat' (first | exact True.intro | exact rfl | exact fun _ => rfl | refine And.intro ?_ ?_)
set_option maxRecDepth 100000 in
theorem lg_col1 : LoopE Try.prog e_col1 c_col1 := by
  intro s k t F H hlt ht
  unfold e_col1 at hlt
  split at hlt
  rotate_left
  · cases hlt
  rename_i hlen hpick hmem
  obtain ⟨tmps, mem⟩ := s
  simp only at hlen hpick hmem
  subst hmem
  obtain rfl := Option.some.inj hlt
  obtain ⟨⟨rfl, h1, h2, h3, h4, h6, _⟩, ht2⟩ := needs_ok ht
  clear ht hlt
  obtain ⟨ps, rfl, rfl⟩ := even_flat h1
  obtain ⟨i, rfl⟩ := Int.eq_ofNat_of_zero_le h4
  rw [ptsA_flat] at ht2 h3
  simp only [Int.toNat_natCast] at ht2
  refine ⟨_, _, pick2k ht2, loop_run mixed E10_ok (s_col1 ps i) (inv_col1 ps i) (me_col1 ps i) (re_col1 ps i) (rs_col1 ps i) k_col1 (fun _ => rfl) ltC2_good (round_col1 ps i h2 h3 (by omega)) (x := 0) (Nat.zero_le _) (π := []) rfl ?_⟩
  refine ⟨rfl, rfl, ?_, wvs_spread' [0, 3, 4] hlen rfl ?_⟩
  · repeat' (first | exact True.intro | exact rfl | exact wv_top _ _ | exact fun _ => rfl | assumption | exact Eq.symm (by assumption) | exact vI0 rfl | refine And.intro ?_ ?_)
  · rw [hpick]
    repeat' (first | exact True.intro | exact rfl | exact wv_top _ _ | exact fun _ => rfl | assumption | exact Eq.symm (by assumption) | exact vI0 rfl | refine And.intro ?_ ?_)
def ltC1 : LT := fun j s k => match j with
  | 1 => e_col1 s k
  | 2 => e_col2 s k
  | _ => none
noncomputable def c_col0 : Code := ((loopsOf (codeOf Try.f85))[0]?).getD .skip
def k_col0 : Ex → List Nat := keeps [0, 3] [(0, [])] [2]
def s_col0 (ps : List Pt) : Nat → St := fun i => ⟨(.slice (some ⟨0, 0, none⟩) ps.length ps.length :: topV :: topV :: .int .i64 i :: topV :: topV :: topV :: topV :: topV :: topV :: topV :: topV :: topV :: topV :: topV :: topV :: topV :: topV :: topV :: topV :: topV :: topV :: topV :: topV :: topV :: topV :: topV :: topV :: topV :: topV :: topV :: topV :: topV :: topV :: topV :: topV :: []), [some ⟨.view, .ints (flat ps)⟩]⟩
def re_col0 (ps : List Pt) : Nat → Ex := fun i => bif col0 ps i then .exit 0 else .ret
def rs_col0 (ps : List Pt) : Nat → St := fun i => bif col0 ps i then ⟨(topV :: topV :: topV :: topV :: topV :: topV :: topV :: topV :: topV :: topV :: topV :: topV :: topV :: topV :: topV :: topV :: topV :: topV :: topV :: topV :: topV :: topV :: topV :: topV :: topV :: topV :: topV :: topV :: topV :: topV :: topV :: topV :: topV :: topV :: topV :: topV :: []), [some ⟨.view, .ints (flat ps)⟩]⟩ else ⟨(topV :: topV :: .bool false :: topV :: topV :: topV :: topV :: topV :: topV :: topV :: topV :: topV :: topV :: topV :: topV :: topV :: topV :: topV :: topV :: topV :: topV :: topV :: topV :: topV :: topV :: topV :: topV :: topV :: topV :: topV :: topV :: topV :: topV :: topV :: topV :: topV :: []), [some ⟨.view, .ints (flat ps)⟩]⟩
set_option maxRecDepth 100000 in
theorem tr_col0 (ps : List Pt) (i : Nat) : bodyL Try.prog E10 30 12 ltC1 1 c_col0 k_col0 1 (s_col0 ps i) = brT (decide ((↑i : Int) < (↑ps.length : Int))) (.need ((0 : Int) = (0 : Int)) (.need ((flat ps).length = ps.length * (2 : Nat)) (.need (ps.length ≤ (20 : Nat)) (.need (allV (ptsA ps.length (flat ps)) = true) (.need ((0 : Int) ≤ (↑i : Int)) (.need ((↑i : Int) < (↑ps.length : Int)) (brT (col1 (ptsA ps.length (flat ps)) (↑i : Int).toNat 0) (.leaf .normal ⟨(.slice (some ⟨0, 0, none⟩) (ps.length) (ps.length) :: topV :: topV :: .int .i64 (IntKind.i64.wrap ((↑i : Int) + 1)) :: topV :: topV :: topV :: topV :: topV :: topV :: topV :: topV :: topV :: topV :: topV :: topV :: topV :: topV :: topV :: topV :: topV :: topV :: topV :: topV :: topV :: topV :: topV :: topV :: topV :: topV :: topV :: topV :: topV :: topV :: topV :: topV :: []), [some ⟨.view, .ints (flat ps)⟩]⟩) (.leaf .ret ⟨(topV :: topV :: .bool (false) :: topV :: topV :: topV :: topV :: topV :: topV :: topV :: topV :: topV :: topV :: topV :: topV :: topV :: topV :: topV :: topV :: topV :: topV :: topV :: topV :: topV :: topV :: topV :: topV :: topV :: topV :: topV :: topV :: topV :: topV :: topV :: topV :: topV :: []), [some ⟨.view, .ints (flat ps)⟩]⟩)))))))) (.leaf (.exit 0) ⟨(topV :: topV :: topV :: topV :: topV :: topV :: topV :: topV :: topV :: topV :: topV :: topV :: topV :: topV :: topV :: topV :: topV :: topV :: topV :: topV :: topV :: topV :: topV :: topV :: topV :: topV :: topV :: topV :: topV :: topV :: topV :: topV :: topV :: topV :: topV :: topV :: []), [some ⟨.view, .ints (flat ps)⟩]⟩) := by kernel_rfl
def inv_col0 (ps : List Pt) : Nat → Prop := fun i => i ≤ ps.length
def me_col0 (ps : List Pt) : Nat → Nat := fun i => ps.length - i
/-- A round of this loop. -/
def Round_col0 (ps : List Pt) : Prop := ∀ xx : Nat, inv_col0 ps xx → (bodyL Try.prog E10 30 12 ltC1 1 c_col0 k_col0 1 (s_col0 ps xx)).ok (RoundEnd 1 (s_col0 ps) (inv_col0 ps) (me_col0 ps) (re_col0 ps) (rs_col0 ps) xx) (fun _ _ => False)
def e_col0 (s : St) (k : Ex → St → Tree) : Option Tree := match Nat.beq s.tmps.length 36, pickL s.tmps [0, 3], s.mem with
  | true, [.slice (some ⟨0, 0, none⟩) n _, .int .i64 ii], [some ⟨.view, .ints xs⟩] => some (needs [ii = 0, xs.length = n * 2, n ≤ 20, allV (ptsA n xs) = true] (brT (specCol (ptsA n xs)) (k (.exit 0) ⟨(topV :: topV :: topV :: topV :: topV :: topV :: topV :: topV :: topV :: topV :: topV :: topV :: topV :: topV :: topV :: topV :: topV :: topV :: topV :: topV :: topV :: topV :: topV :: topV :: topV :: topV :: topV :: topV :: topV :: topV :: topV :: topV :: topV :: topV :: topV :: topV :: []), [some ⟨.view, .ints xs⟩]⟩) (k .ret ⟨(topV :: topV :: .bool false :: topV :: topV :: topV :: topV :: topV :: topV :: topV :: topV :: topV :: topV :: topV :: topV :: topV :: topV :: topV :: topV :: topV :: topV :: topV :: topV :: topV :: topV :: topV :: topV :: topV :: topV :: topV :: topV :: topV :: topV :: topV :: topV :: topV :: []), [some ⟨.view, .ints xs⟩]⟩)))
  | _, _, _ => none
set_option maxRecDepth 100000 in
theorem in_col0 : loopsOf c_col0 = [c_col1, c_col2] := by kernel_rfl
theorem ltC1_good : LoopsGood Try.prog ltC1 1 c_col0 := by
  intro i d hd s k t F H hlt ht
  rw [in_col0] at hd
  cases i with
  | zero =>
    obtain rfl : c_col1 = d := by simpa using hd
    exact lg_col1 s k t F H hlt ht
  | succ i =>
    cases i with
    | zero =>
      obtain rfl : c_col2 = d := by simpa using hd
      exact lg_col2 s k t F H hlt ht
    | succ i => simp at hd
set_option maxRecDepth 100000 in
theorem round_col0 (ps : List Pt) (h : ps.length ≤ 20) (hv : allV ps = true) : Round_col0 ps := by
  rintro i h1
  simp only [inv_col0] at h1
  rw [tr_col0]
  simp only [brT_ok, Tree.ok, decide_eq_true_eq, decide_eq_false_iff_not, Int.toNat_natCast, Nat.zero_add, flat_length, flat_get0, flat_get1, ptsA_flat, Bool.not_eq_true', Bool.not_eq_false', beq_iff_eq, beq_eq_false_iff_ne]
  refine ⟨fun hlt => ?_, fun hge => ?_⟩
  · repeat refine And.intro (by first | exact True.intro | exact rfl | omega | assumption) ?_
    rw [wsucc (n := ps.length) (by omega) (by omega)]
    have st : col0 ps i = (col1 ps i 0 && col0 ps (i + 1)) := alF_step (by omega)
    refine ⟨fun hv => ?_, fun hv => ?_⟩
    · have e : col0 ps i = col0 ps (i + 1) := by rw [st, hv, Bool.true_and]
      refine ⟨i + 1, [], by show i + 1 ≤ ps.length; omega, ?_, by simp only [re_col0, e], by simp only [rs_col0, e], ?_⟩
      · show ps.length - (i + 1) < ps.length - i; omega
      · repeat' (first | exact True.intro | exact rfl | exact fun _ => rfl | refine And.intro ?_ ?_)
    · have e : col0 ps i = false := by
        rw [st, hv]
        rfl
      refine ⟨by simp only [re_col0, e, cond_false], [], ?_⟩
      simp only [rs_col0, e, cond_false]
      repeat' (first | exact True.intro | exact rfl | exact fun _ => rfl | refine And.intro ?_ ?_)
  · have e : col0 ps i = true := alF_end (by omega)
    refine ⟨by simp only [re_col0, e, cond_true], [], ?_⟩
    simp only [rs_col0, e, cond_true]
    repeat' (first | exact True.intro | exact rfl | exact fun _ => rfl | refine And.intro ?_ ?_)
set_option maxRecDepth 100000 in
theorem lg_col0 : LoopE Try.prog e_col0 c_col0 := by
  intro s k t F H hlt ht
  unfold e_col0 at hlt
  split at hlt
  rotate_left
  · cases hlt
  rename_i hlen hpick hmem
  obtain ⟨tmps, mem⟩ := s
  simp only at hlen hpick hmem
  subst hmem
  obtain rfl := Option.some.inj hlt
  obtain ⟨⟨rfl, h1, h2, h3, _⟩, ht2⟩ := needs_ok ht
  clear ht hlt
  obtain ⟨ps, rfl, rfl⟩ := even_flat h1
  rw [ptsA_flat] at ht2 h3
  refine ⟨_, _, pick2k ht2, loop_run mixed E10_ok (s_col0 ps) (inv_col0 ps) (me_col0 ps) (re_col0 ps) (rs_col0 ps) k_col0 (fun _ => rfl) ltC1_good (round_col0 ps h2 h3) (x := 0) (Nat.zero_le _) (π := []) rfl ?_⟩
  refine ⟨rfl, rfl, ?_, wvs_spread' [0, 3] hlen rfl ?_⟩
  · repeat' (first | exact True.intro | exact rfl | exact wv_top _ _ | exact fun _ => rfl | assumption | exact Eq.symm (by assumption) | exact vI0 rfl | refine And.intro ?_ ?_)
  · rw [hpick]
    repeat' (first | exact True.intro | exact rfl | exact wv_top _ _ | exact fun _ => rfl | assumption | exact Eq.symm (by assumption) | exact vI0 rfl | refine And.intro ?_ ?_)
def ltC0 : LT := fun j s k => match j with
  | 0 => e_col0 s k
  | 1 => e_col1 s k
  | 2 => e_col2 s k
  | _ => none
end Go.Proofs.Ytieibbdfdepmbaa
