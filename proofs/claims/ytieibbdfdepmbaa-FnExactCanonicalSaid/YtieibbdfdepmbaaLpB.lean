/-
  Loops of the laws' own helpers over lists of points, and of CountWithin. Written by an AI agent.
-/
import Derived.Test.YtieibbdfdepmbaaFnA
namespace Go.Proofs.Ytieibbdfdepmbaa
set_option linter.all false
open Go.RowKit

def E3 : Env := mkE (T2) (fun _ _ => none) (fun _ => noL)
theorem E3_ok : EnvOk Try.prog E3 := mkEOk (T2_ok) (fun _ _ _ _ _ h => (by cases h)) (fun _ _ _ => noL_good)
theorem allV_get {ps : List Pt} (h : allV ps = true) (i : Nat) : -1000 ≤ (ps.getD i (0, 0)).1 ∧ (ps.getD i (0, 0)).1 ≤ 1000 ∧ -1000 ≤ (ps.getD i (0, 0)).2 ∧ (ps.getD i (0, 0)).2 ≤ 1000 := by
  rcases Nat.lt_or_ge i ps.length with hlt | hge
  · have := List.all_eq_true.1 h (ps.getD i (0, 0)) (by simp [hlt])
    simpa [vB, ptB] using this
  · simp [hge]
theorem brT_t (x y : Tree) : brT true x y = x := rfl
theorem brT_f (x y : Tree) : brT false x y = y := rfl
def eqL (ps qs : List Pt) : Bool := decide (ps = qs)
def sq (p q : Pt) : Int := (p.1 - q.1) * (p.1 - q.1) + (p.2 - q.2) * (p.2 - q.2)
def cnt (n : Int) (q : Pt) (ps : List Pt) : Int := (ps.countP fun p => decide (sq p q ≤ n) : Nat)
theorem cnt_yes {ps : List Pt} {i : Nat} (h : i < ps.length) (n : Int) (q : Pt) (hh : sq (ps.getD i (0, 0)) q ≤ n) : cnt n q (ps.drop i) = cnt n q (ps.drop (i + 1)) + 1 := by
  unfold cnt
  rw [drop_cons h (0, 0), List.countP_cons]
  simp only [hh, decide_true, if_true]
  omega
theorem cnt_no {ps : List Pt} {i : Nat} (h : i < ps.length) (n : Int) (q : Pt) (hh : ¬ sq (ps.getD i (0, 0)) q ≤ n) : cnt n q (ps.drop i) = cnt n q (ps.drop (i + 1)) := by
  unfold cnt
  rw [drop_cons h (0, 0), List.countP_cons]
  simp only [hh, decide_false, if_false, Bool.false_eq_true]
  omega
theorem cnt_end {ps : List Pt} {i : Nat} (h : ps.length ≤ i) (n : Int) (q : Pt) : cnt n q (ps.drop i) = 0 := by
  unfold cnt
  rw [List.drop_of_length_le h]
  rfl
noncomputable def c_toPts : Code := ((loopsOf (codeOf Try.f17))[0]?).getD .skip
def k_toPts : Ex → List Nat := keeps [0, 3, 4] [(0, [3])] [2]
def s_toPts (ps : List Pt) (n : Nat) : Nat × (List Pt) → St := fun (i, qs) => ⟨[.slice (some ⟨0, 0, none⟩) ps.length ps.length, topV, topV, .slice (some ⟨1, 0, none⟩) n n, .int .i64 i, topV, topV, topV, topV, topV, topV, topV, topV, topV, topV, topV, topV, topV, topV, topV, topV, topV, topV], [some ⟨.view, .ints (flat ps)⟩, some ⟨.row 32 2, .ints (flat qs)⟩]⟩
def re_toPts : Nat × (List Pt) → Ex := fun _ => .exit 0
def rs_toPts (ps : List Pt) (n : Nat) : Nat × (List Pt) → St := fun (i, qs) => ⟨[topV, topV, topV, .slice (some ⟨1, 0, none⟩) n n, topV, topV, topV, topV, topV, topV, topV, topV, topV, topV, topV, topV, topV, topV, topV, topV, topV, topV, topV], [some ⟨.view, .ints (flat ps)⟩, some ⟨.row 32 2, .ints (flat ps)⟩]⟩
set_option maxRecDepth 100000 in
theorem tr_toPts (ps : List Pt) (n : Nat) (i : Nat) (qs : List Pt) : bodyL Try.prog E3 30 12 noL 1 c_toPts k_toPts 2 (s_toPts ps n (i, qs)) = brT (decide ((↑i : Int) < (↑ps.length : Int))) (.need ((0 : Int) ≤ (↑i : Int) ∧ (↑i : Int) < (↑ps.length : Int)) (.need ((0 : Nat) + (↑i : Int).toNat * (2 : Nat) + (2 : Nat) ≤ (flat ps).length) (.need ((0 : Int) ≤ (↑i : Int) ∧ (↑i : Int) < (↑n : Int)) (.need ((0 : Nat) + (↑i : Int).toNat * (2 : Nat) + (2 : Nat) ≤ (flat qs).length) (.leaf .normal ⟨[.slice (some ⟨0, 0, none⟩) (ps.length) (ps.length), topV, topV, .slice (some ⟨1, 0, none⟩) (n) (n), .int .i64 (IntKind.i64.wrap ((↑i : Int) + 1)), topV, topV, topV, topV, topV, topV, topV, topV, topV, topV, topV, topV, topV, topV, topV, topV, topV, topV], [some ⟨.view, .ints (flat ps)⟩, some ⟨.row 32 2, .ints (setInts (flat qs) (0 + (↑i : Int).toNat * 2) [(flat ps).getD (0 + (↑i : Int).toNat * 2) 0, (flat ps).getD (0 + (↑i : Int).toNat * 2 + 1) 0])⟩]⟩))))) (.leaf (.exit 0) ⟨[topV, topV, topV, .slice (some ⟨1, 0, none⟩) (n) (n), topV, topV, topV, topV, topV, topV, topV, topV, topV, topV, topV, topV, topV, topV, topV, topV, topV, topV, topV], [some ⟨.view, .ints (flat ps)⟩, some ⟨.row 32 2, .ints (flat qs)⟩]⟩) := by kernel_rfl
set_option maxRecDepth 100000 in
theorem nl_toPts : loopsOf c_toPts = [] := by kernel_rfl
def inv_toPts (ps : List Pt) (n : Nat) : Nat × (List Pt) → Prop := fun (i, qs) => i ≤ ps.length ∧ ps.length = n ∧ qs.length = n ∧ qs.take i = ps.take i
def me_toPts (ps : List Pt) (n : Nat) : Nat × (List Pt) → Nat := fun (i, qs) => ps.length - i
/-- A round of this loop. -/
def Round_toPts (ps : List Pt) (n : Nat) : Prop := ∀ xx : Nat × (List Pt), inv_toPts ps n xx → (bodyL Try.prog E3 30 12 noL 1 c_toPts k_toPts 2 (s_toPts ps n xx)).ok (RoundEnd 2 (s_toPts ps n) (inv_toPts ps n) (me_toPts ps n) re_toPts (rs_toPts ps n) xx) (fun _ _ => False)
def e_toPts (s : St) (k : Ex → St → Tree) : Option Tree := match Nat.beq s.tmps.length 23, pickL s.tmps [0, 3, 4], s.mem with
  | true, [.slice (some ⟨0, 0, none⟩) n _, .slice (some ⟨1, 0, none⟩) m _, .int .i64 i], [some ⟨.view, .ints xs⟩, some ⟨.row 32 2, .ints ys⟩] => some (needs [i = 0, m = n, xs.length = n * 2, ys.length = n * 2, n ≤ 1000000000] (k (.exit 0) ⟨[topV, topV, topV, .slice (some ⟨1, 0, none⟩) m m, topV, topV, topV, topV, topV, topV, topV, topV, topV, topV, topV, topV, topV, topV, topV, topV, topV, topV, topV], [some ⟨.view, .ints xs⟩, some ⟨.row 32 2, .ints xs⟩]⟩))
  | _, _, _ => none
set_option maxRecDepth 100000 in
theorem round_toPts (ps : List Pt) (n : Nat) (h : ps.length ≤ 1000000000) : Round_toPts ps n := by
  rintro ⟨i, qs⟩ ⟨h1, h2, h3, h4⟩
  rw [tr_toPts]
  simp only [brT_ok, Tree.ok, decide_eq_true_eq, decide_eq_false_iff_not, Int.toNat_natCast, Nat.zero_add, flat_length, flat_get0, flat_get1, Cs.size]
  refine ⟨fun hlt => ⟨by omega, by omega, by omega, by omega, ?_⟩, fun hge => ?_⟩
  · rw [wsucc (n := ps.length) (by omega) h, flat_set qs i (by omega)]
    refine ⟨(i + 1, qs.set i (ps.getD i (0, 0))), [], ⟨by omega, h2, by simp [h3], ?_⟩, ?_, rfl, rfl, ?_⟩
    · exact take_set_succ (by omega) (by omega) h4 _
    · show ps.length - (i + 1) < ps.length - i; omega
    · repeat' (first | exact True.intro | exact rfl | exact fun _ => rfl | refine And.intro ?_ ?_)
  · have e : qs = ps := by
      rw [List.take_of_length_le (by omega), List.take_of_length_le (by omega)] at h4
      exact h4
    subst e
    refine ⟨rfl, [], ?_⟩
    repeat' (first | exact True.intro | exact rfl | exact fun _ => rfl | refine And.intro ?_ ?_)
set_option maxRecDepth 100000 in
theorem lg_toPts : LoopE Try.prog e_toPts c_toPts := by
  intro s k t F H hlt ht
  unfold e_toPts at hlt
  split at hlt
  rotate_left
  · cases hlt
  rename_i hlen hpick hmem
  obtain ⟨tmps, mem⟩ := s
  simp only at hlen hpick hmem
  subst hmem
  obtain rfl := Option.some.inj hlt
  obtain ⟨⟨rfl, rfl, h1, h2, h3, _⟩, ht2⟩ := needs_ok ht
  clear ht hlt
  obtain ⟨ps, rfl, rfl⟩ := even_flat h1
  obtain ⟨qs, rfl, hq⟩ := even_flat h2
  refine ⟨_, _, ht2, loop_run mixed E3_ok (s_toPts ps ps.length) (inv_toPts ps ps.length) (me_toPts ps ps.length) re_toPts (rs_toPts ps ps.length) k_toPts (fun _ => rfl) (noLoops nl_toPts) (round_toPts ps ps.length h3) (x := (0, qs)) ⟨Nat.zero_le _, rfl, hq, rfl⟩ (π := []) rfl ?_⟩
  refine ⟨rfl, rfl, ?_, wvs_spread' [0, 3, 4] hlen rfl ?_⟩
  · repeat' (first | exact True.intro | exact rfl | exact wv_top _ _ | exact fun _ => rfl | assumption | exact Eq.symm (by assumption) | exact vI0 rfl | refine And.intro ?_ ?_)
  · rw [hpick]
    repeat' (first | exact True.intro | exact rfl | exact wv_top _ _ | exact fun _ => rfl | assumption | exact Eq.symm (by assumption) | exact vI0 rfl | refine And.intro ?_ ?_)
noncomputable def c_eqPts : Code := ((loopsOf (codeOf Try.f19))[0]?).getD .skip
def k_eqPts : Ex → List Nat := keeps [0, 1, 5] [(0, [])] [4]
def s_eqPts (ps : List Pt) (qs : List Pt) : Nat → St := fun i => ⟨[.slice (some ⟨0, 0, none⟩) ps.length ps.length, .slice (some ⟨1, 0, none⟩) qs.length qs.length, topV, topV, topV, .int .i64 i, topV, topV, topV, topV, topV, topV, topV, topV, topV, topV, topV, topV, topV, topV, topV, topV, topV, topV, topV, topV, topV], [some ⟨.view, .ints (flat ps)⟩, some ⟨.view, .ints (flat qs)⟩]⟩
def re_eqPts (ps : List Pt) (qs : List Pt) : Nat → Ex := fun i => bif decide (ps.drop i = qs.drop i) then .exit 0 else .ret
def rs_eqPts (ps : List Pt) (qs : List Pt) : Nat → St := fun i => bif decide (ps.drop i = qs.drop i) then ⟨[topV, topV, topV, topV, topV, topV, topV, topV, topV, topV, topV, topV, topV, topV, topV, topV, topV, topV, topV, topV, topV, topV, topV, topV, topV, topV, topV], [some ⟨.view, .ints (flat ps)⟩, some ⟨.view, .ints (flat qs)⟩]⟩ else ⟨[topV, topV, topV, topV, .bool false, topV, topV, topV, topV, topV, topV, topV, topV, topV, topV, topV, topV, topV, topV, topV, topV, topV, topV, topV, topV, topV, topV], [some ⟨.view, .ints (flat ps)⟩, some ⟨.view, .ints (flat qs)⟩]⟩
set_option maxRecDepth 100000 in
theorem tr_eqPts (ps : List Pt) (qs : List Pt) (i : Nat) : bodyL Try.prog E3 30 12 noL 1 c_eqPts k_eqPts 2 (s_eqPts ps qs i) = brT (decide ((↑i : Int) < (↑ps.length : Int))) (brT (!(flat ps).getD (0 + (↑i : Int).toNat * 2) 0 == (flat qs).getD (0 + (↑i : Int).toNat * 2) 0) (.need ((0 : Int) ≤ (↑i : Int) ∧ (↑i : Int) < (↑ps.length : Int)) (.need ((0 : Nat) + (↑i : Int).toNat * (2 : Nat) + (2 : Nat) ≤ (flat ps).length) (.need ((0 : Int) ≤ (↑i : Int) ∧ (↑i : Int) < (↑qs.length : Int)) (.need ((0 : Nat) + (↑i : Int).toNat * (2 : Nat) + (2 : Nat) ≤ (flat qs).length) (.leaf .ret ⟨[topV, topV, topV, topV, .bool (false), topV, topV, topV, topV, topV, topV, topV, topV, topV, topV, topV, topV, topV, topV, topV, topV, topV, topV, topV, topV, topV, topV], [some ⟨.view, .ints (flat ps)⟩, some ⟨.view, .ints (flat qs)⟩]⟩))))) (brT (!(flat ps).getD (0 + (↑i : Int).toNat * 2 + 1) 0 == (flat qs).getD (0 + (↑i : Int).toNat * 2 + 1) 0) (.need ((0 : Int) ≤ (↑i : Int) ∧ (↑i : Int) < (↑ps.length : Int)) (.need ((0 : Nat) + (↑i : Int).toNat * (2 : Nat) + (2 : Nat) ≤ (flat ps).length) (.need ((0 : Int) ≤ (↑i : Int) ∧ (↑i : Int) < (↑qs.length : Int)) (.need ((0 : Nat) + (↑i : Int).toNat * (2 : Nat) + (2 : Nat) ≤ (flat qs).length) (.leaf .ret ⟨[topV, topV, topV, topV, .bool (false), topV, topV, topV, topV, topV, topV, topV, topV, topV, topV, topV, topV, topV, topV, topV, topV, topV, topV, topV, topV, topV, topV], [some ⟨.view, .ints (flat ps)⟩, some ⟨.view, .ints (flat qs)⟩]⟩))))) (.need ((0 : Int) ≤ (↑i : Int) ∧ (↑i : Int) < (↑ps.length : Int)) (.need ((0 : Nat) + (↑i : Int).toNat * (2 : Nat) + (2 : Nat) ≤ (flat ps).length) (.need ((0 : Int) ≤ (↑i : Int) ∧ (↑i : Int) < (↑qs.length : Int)) (.need ((0 : Nat) + (↑i : Int).toNat * (2 : Nat) + (2 : Nat) ≤ (flat qs).length) (.leaf .normal ⟨[.slice (some ⟨0, 0, none⟩) (ps.length) (ps.length), .slice (some ⟨1, 0, none⟩) (qs.length) (qs.length), topV, topV, topV, .int .i64 (IntKind.i64.wrap ((↑i : Int) + 1)), topV, topV, topV, topV, topV, topV, topV, topV, topV, topV, topV, topV, topV, topV, topV, topV, topV, topV, topV, topV, topV], [some ⟨.view, .ints (flat ps)⟩, some ⟨.view, .ints (flat qs)⟩]⟩))))))) (.leaf (.exit 0) ⟨[topV, topV, topV, topV, topV, topV, topV, topV, topV, topV, topV, topV, topV, topV, topV, topV, topV, topV, topV, topV, topV, topV, topV, topV, topV, topV, topV], [some ⟨.view, .ints (flat ps)⟩, some ⟨.view, .ints (flat qs)⟩]⟩) := by kernel_rfl
set_option maxRecDepth 100000 in
theorem nl_eqPts : loopsOf c_eqPts = [] := by kernel_rfl
def inv_eqPts (ps : List Pt) (qs : List Pt) : Nat → Prop := fun i => i ≤ ps.length ∧ ps.length = qs.length
def me_eqPts (ps : List Pt) (qs : List Pt) : Nat → Nat := fun i => ps.length - i
/-- A round of this loop. -/
def Round_eqPts (ps : List Pt) (qs : List Pt) : Prop := ∀ xx : Nat, inv_eqPts ps qs xx → (bodyL Try.prog E3 30 12 noL 1 c_eqPts k_eqPts 2 (s_eqPts ps qs xx)).ok (RoundEnd 2 (s_eqPts ps qs) (inv_eqPts ps qs) (me_eqPts ps qs) (re_eqPts ps qs) (rs_eqPts ps qs) xx) (fun _ _ => False)
def e_eqPts (s : St) (k : Ex → St → Tree) : Option Tree := match Nat.beq s.tmps.length 27, pickL s.tmps [0, 1, 5], s.mem with
  | true, [.slice (some ⟨0, 0, none⟩) n _, .slice (some ⟨1, 0, none⟩) m _, .int .i64 i], [some ⟨.view, .ints xs⟩, some ⟨.view, .ints ys⟩] => some (needs [i = 0, m = n, xs.length = n * 2, ys.length = n * 2, n ≤ 1000000000] (brT (eqL (ptsA n xs) (ptsA n ys)) (k (.exit 0) ⟨[topV, topV, topV, topV, topV, topV, topV, topV, topV, topV, topV, topV, topV, topV, topV, topV, topV, topV, topV, topV, topV, topV, topV, topV, topV, topV, topV], [some ⟨.view, .ints xs⟩, some ⟨.view, .ints ys⟩]⟩) (k .ret ⟨[topV, topV, topV, topV, .bool false, topV, topV, topV, topV, topV, topV, topV, topV, topV, topV, topV, topV, topV, topV, topV, topV, topV, topV, topV, topV, topV, topV], [some ⟨.view, .ints xs⟩, some ⟨.view, .ints ys⟩]⟩)))
  | _, _, _ => none
set_option maxRecDepth 100000 in
theorem round_eqPts (ps qs : List Pt) (h : ps.length ≤ 1000000000) : Round_eqPts ps qs := by
  rintro i ⟨h1, h2⟩
  rw [tr_eqPts]
  simp only [brT_ok, Tree.ok, decide_eq_true_eq, decide_eq_false_iff_not, Int.toNat_natCast, Nat.zero_add, flat_length, flat_get0, flat_get1, Bool.not_eq_true', Bool.not_eq_false', beq_iff_eq, beq_eq_false_iff_ne]
  refine ⟨fun hlt => ?_, fun hge => ?_⟩
  · have hd1 := drop_cons (l := ps) (k := i) (by omega) (0, 0)
    have hd2 := drop_cons (l := qs) (k := i) (by omega) (0, 0)
    have ne : ps.getD i (0, 0) ≠ qs.getD i (0, 0) → decide (ps.drop i = qs.drop i) = false := fun hne => by
      rw [hd1, hd2]
      simp only [List.cons.injEq, decide_eq_false_iff_not]
      exact fun h => hne h.1
    refine ⟨fun hv => ⟨by omega, by omega, by omega, by omega, ?_⟩, fun hv => ⟨fun hv2 => ⟨by omega, by omega, by omega, by omega, ?_⟩, fun hv2 => ⟨by omega, by omega, by omega, by omega, ?_⟩⟩⟩
    · have e := ne fun h => hv (by rw [h])
      refine ⟨by simp only [re_eqPts, e, cond_false], [], ?_⟩
      simp only [rs_eqPts, e, cond_false]
      repeat' (first | exact True.intro | exact rfl | exact fun _ => rfl | refine And.intro ?_ ?_)
    · have e := ne fun h => hv2 (by rw [h])
      refine ⟨by simp only [re_eqPts, e, cond_false], [], ?_⟩
      simp only [rs_eqPts, e, cond_false]
      repeat' (first | exact True.intro | exact rfl | exact fun _ => rfl | refine And.intro ?_ ?_)
    · have hp : ps.getD i (0, 0) = qs.getD i (0, 0) := Prod.ext hv hv2
      have e : decide (ps.drop i = qs.drop i) = decide (ps.drop (i + 1) = qs.drop (i + 1)) := by
        rw [hd1, hd2, hp]
        simp
      rw [wsucc (n := ps.length) (by omega) h]
      refine ⟨i + 1, [], ⟨by omega, h2⟩, ?_, by simp only [re_eqPts, e], by simp only [rs_eqPts, e], ?_⟩
      · show ps.length - (i + 1) < ps.length - i; omega
      · repeat' (first | exact True.intro | exact rfl | exact fun _ => rfl | refine And.intro ?_ ?_)
  · have e : decide (ps.drop i = qs.drop i) = true := by rw [List.drop_of_length_le (by omega), List.drop_of_length_le (by omega)]; rfl
    refine ⟨by simp only [re_eqPts, e, cond_true], [], ?_⟩
    simp only [rs_eqPts, e, cond_true]
    repeat' (first | exact True.intro | exact rfl | exact fun _ => rfl | refine And.intro ?_ ?_)
set_option maxRecDepth 100000 in
theorem lg_eqPts : LoopE Try.prog e_eqPts c_eqPts := by
  intro s k t F H hlt ht
  unfold e_eqPts at hlt
  split at hlt
  rotate_left
  · cases hlt
  rename_i hlen hpick hmem
  obtain ⟨tmps, mem⟩ := s
  simp only at hlen hpick hmem
  subst hmem
  obtain rfl := Option.some.inj hlt
  obtain ⟨⟨rfl, rfl, h1, h2, h3, _⟩, ht2⟩ := needs_ok ht
  clear ht hlt
  obtain ⟨ps, rfl, rfl⟩ := even_flat h1
  obtain ⟨qs, rfl, hq⟩ := even_flat h2
  rw [ptsA_flat, ← hq, ptsA_flat] at ht2
  refine ⟨_, _, pick2k ht2, loop_run mixed E3_ok (s_eqPts ps qs) (inv_eqPts ps qs) (me_eqPts ps qs) (re_eqPts ps qs) (rs_eqPts ps qs) k_eqPts (fun _ => rfl) (noLoops nl_eqPts) (round_eqPts ps qs h3) (x := 0) ⟨Nat.zero_le _, hq.symm⟩ (π := []) rfl ?_⟩
  refine ⟨rfl, rfl, ?_, wvs_spread' [0, 1, 5] hlen rfl ?_⟩
  · repeat' (first | exact True.intro | exact rfl | exact wv_top _ _ | exact fun _ => rfl | assumption | exact Eq.symm (by assumption) | exact vI0 rfl | refine And.intro ?_ ?_)
  · rw [hpick]
    repeat' (first | exact True.intro | exact rfl | exact wv_top _ _ | exact fun _ => rfl | assumption | exact Eq.symm (by assumption) | exact vI0 rfl | refine And.intro ?_ ?_)
end Go.Proofs.Ytieibbdfdepmbaa
