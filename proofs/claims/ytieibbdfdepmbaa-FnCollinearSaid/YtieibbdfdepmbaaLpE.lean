/-
  The loops of Collinear, both ways. Written by an AI agent.
-/
import Derived.Test.YtieibbdfdepmbaaFnD
namespace Go.Proofs.Ytieibbdfdepmbaa
set_option linter.all false
open Go.RowKit

def col2 (ps : List Pt) (i j k : Nat) : Bool := alF (fun n => decide (crs (ps.getD i (0, 0)) (ps.getD j (0, 0)) (ps.getD n (0, 0)) = 0)) k j
def col1 (ps : List Pt) (i j : Nat) : Bool := alF (fun j => col2 ps i j 0) j i
def col0 (ps : List Pt) (i : Nat) : Bool := alF (fun i => col1 ps i 0) i ps.length
def colI (ps : List Pt) (f l : Pt) (i : Nat) : Bool := (ps.drop i).all fun q => decide (crs f l q = 0)
noncomputable def c_col2 : Code := ((loopsOf (codeOf Try.f85))[2]?).getD .skip
def k_col2 : Ex → List Nat := keeps [0, 3, 4, 5] [(4, [0, 3, 4])] [2]
def s_col2 (ps : List Pt) (i j : Nat) : Nat → St := fun k => ⟨(.slice (some ⟨0, 0, none⟩) ps.length ps.length :: topV :: topV :: .int .i64 i :: .int .i64 j :: .int .i64 k :: topV :: topV :: topV :: topV :: topV :: topV :: topV :: topV :: topV :: topV :: topV :: topV :: topV :: topV :: topV :: topV :: topV :: topV :: topV :: topV :: topV :: topV :: topV :: topV :: topV :: topV :: topV :: topV :: topV :: topV :: []), [some ⟨.view, .ints (flat ps)⟩]⟩
def re_col2 (ps : List Pt) (i j : Nat) : Nat → Ex := fun k => bif col2 ps i j k then .exit 4 else .ret
def rs_col2 (ps : List Pt) (i j : Nat) : Nat → St := fun k => bif col2 ps i j k then ⟨(.slice (some ⟨0, 0, none⟩) ps.length ps.length :: topV :: topV :: .int .i64 i :: .int .i64 j :: topV :: topV :: topV :: topV :: topV :: topV :: topV :: topV :: topV :: topV :: topV :: topV :: topV :: topV :: topV :: topV :: topV :: topV :: topV :: topV :: topV :: topV :: topV :: topV :: topV :: topV :: topV :: topV :: topV :: topV :: topV :: []), [some ⟨.view, .ints (flat ps)⟩]⟩ else ⟨(topV :: topV :: .bool false :: topV :: topV :: topV :: topV :: topV :: topV :: topV :: topV :: topV :: topV :: topV :: topV :: topV :: topV :: topV :: topV :: topV :: topV :: topV :: topV :: topV :: topV :: topV :: topV :: topV :: topV :: topV :: topV :: topV :: topV :: topV :: topV :: topV :: []), [some ⟨.view, .ints (flat ps)⟩]⟩
set_option maxRecDepth 100000 in
theorem tr_col2 (ps : List Pt) (i j : Nat) (k : Nat) : bodyL Try.prog E10 30 12 noL 3 c_col2 k_col2 1 (s_col2 ps i j k) = brT (decide ((↑k : Int) < (↑j : Int))) (.need ((0 : Int) ≤ (↑i : Int) ∧ (↑i : Int) < (↑ps.length : Int)) (.need ((0 : Nat) + (↑i : Int).toNat * (2 : Nat) + (2 : Nat) ≤ (flat ps).length) (.need ((0 : Int) ≤ (↑j : Int) ∧ (↑j : Int) < (↑ps.length : Int)) (.need ((0 : Nat) + (↑j : Int).toNat * (2 : Nat) + (2 : Nat) ≤ (flat ps).length) (.need ((0 : Int) ≤ (↑k : Int) ∧ (↑k : Int) < (↑ps.length : Int)) (.need ((0 : Nat) + (↑k : Int).toNat * (2 : Nat) + (2 : Nat) ≤ (flat ps).length) (brT (!IntKind.i64.wrap (IntKind.i64.wrap (IntKind.i64.wrap ((flat ps).getD (0 + (↑j : Int).toNat * 2) 0 - (flat ps).getD (0 + (↑i : Int).toNat * 2) 0) * IntKind.i64.wrap ((flat ps).getD (0 + (↑k : Int).toNat * 2 + 1) 0 - (flat ps).getD (0 + (↑i : Int).toNat * 2 + 1) 0)) - IntKind.i64.wrap (IntKind.i64.wrap ((flat ps).getD (0 + (↑j : Int).toNat * 2 + 1) 0 - (flat ps).getD (0 + (↑i : Int).toNat * 2 + 1) 0) * IntKind.i64.wrap ((flat ps).getD (0 + (↑k : Int).toNat * 2) 0 - (flat ps).getD (0 + (↑i : Int).toNat * 2) 0))) == 0) (.leaf .ret ⟨(topV :: topV :: .bool (false) :: topV :: topV :: topV :: topV :: topV :: topV :: topV :: topV :: topV :: topV :: topV :: topV :: topV :: topV :: topV :: topV :: topV :: topV :: topV :: topV :: topV :: topV :: topV :: topV :: topV :: topV :: topV :: topV :: topV :: topV :: topV :: topV :: topV :: []), [some ⟨.view, .ints (flat ps)⟩]⟩) (.leaf .normal ⟨(.slice (some ⟨0, 0, none⟩) (ps.length) (ps.length) :: topV :: topV :: .int .i64 ((↑i : Int)) :: .int .i64 ((↑j : Int)) :: .int .i64 (IntKind.i64.wrap ((↑k : Int) + 1)) :: topV :: topV :: topV :: topV :: topV :: topV :: topV :: topV :: topV :: topV :: topV :: topV :: topV :: topV :: topV :: topV :: topV :: topV :: topV :: topV :: topV :: topV :: topV :: topV :: topV :: topV :: topV :: topV :: topV :: topV :: []), [some ⟨.view, .ints (flat ps)⟩]⟩)))))))) (.leaf (.exit 4) ⟨(.slice (some ⟨0, 0, none⟩) (ps.length) (ps.length) :: topV :: topV :: .int .i64 ((↑i : Int)) :: .int .i64 ((↑j : Int)) :: topV :: topV :: topV :: topV :: topV :: topV :: topV :: topV :: topV :: topV :: topV :: topV :: topV :: topV :: topV :: topV :: topV :: topV :: topV :: topV :: topV :: topV :: topV :: topV :: topV :: topV :: topV :: topV :: topV :: topV :: topV :: []), [some ⟨.view, .ints (flat ps)⟩]⟩) := by kernel_rfl
set_option maxRecDepth 100000 in
theorem nl_col2 : loopsOf c_col2 = [] := by kernel_rfl
def inv_col2 (ps : List Pt) (i j : Nat) : Nat → Prop := fun k => k ≤ j
def me_col2 (ps : List Pt) (i j : Nat) : Nat → Nat := fun k => j - k
/-- A round of this loop. -/
def Round_col2 (ps : List Pt) (i j : Nat) : Prop := ∀ xx : Nat, inv_col2 ps i j xx → (bodyL Try.prog E10 30 12 noL 3 c_col2 k_col2 1 (s_col2 ps i j xx)).ok (RoundEnd 1 (s_col2 ps i j) (inv_col2 ps i j) (me_col2 ps i j) (re_col2 ps i j) (rs_col2 ps i j) xx) (fun _ _ => False)
def e_col2 (s : St) (k : Ex → St → Tree) : Option Tree := match Nat.beq s.tmps.length 36, pickL s.tmps [0, 3, 4, 5], s.mem with
  | true, [.slice (some ⟨0, 0, none⟩) n _, .int .i64 ii, .int .i64 jj, .int .i64 kk], [some ⟨.view, .ints xs⟩] => some (needs [kk = 0, xs.length = n * 2, n ≤ 20, allV (ptsA n xs) = true, 0 ≤ jj, jj < ii, ii < n] (brT (col2 (ptsA n xs) ii.toNat jj.toNat 0) (k (.exit 4) ⟨(.slice (some ⟨0, 0, none⟩) n n :: topV :: topV :: .int .i64 ii :: .int .i64 jj :: topV :: topV :: topV :: topV :: topV :: topV :: topV :: topV :: topV :: topV :: topV :: topV :: topV :: topV :: topV :: topV :: topV :: topV :: topV :: topV :: topV :: topV :: topV :: topV :: topV :: topV :: topV :: topV :: topV :: topV :: topV :: []), [some ⟨.view, .ints xs⟩]⟩) (k .ret ⟨(topV :: topV :: .bool false :: topV :: topV :: topV :: topV :: topV :: topV :: topV :: topV :: topV :: topV :: topV :: topV :: topV :: topV :: topV :: topV :: topV :: topV :: topV :: topV :: topV :: topV :: topV :: topV :: topV :: topV :: topV :: topV :: topV :: topV :: topV :: topV :: topV :: []), [some ⟨.view, .ints xs⟩]⟩)))
  | _, _, _ => none
set_option maxRecDepth 100000 in
theorem round_col2 (ps : List Pt) (i j : Nat) (h : ps.length ≤ 20) (hv : allV ps = true) (hj : j < i) (hi : i < ps.length) : Round_col2 ps i j := by
  rintro k h1
  simp only [inv_col2] at h1
  rw [tr_col2]
  have bi := allV_get hv i
  have bj := allV_get hv j
  have bk := allV_get hv k
  have m1 := mul_bd (x := (ps.getD j (0, 0)).1 - (ps.getD i (0, 0)).1) (y := (ps.getD k (0, 0)).2 - (ps.getD i (0, 0)).2) 2000 2000 (by omega) (by omega)
  have m2 := mul_bd (x := (ps.getD j (0, 0)).2 - (ps.getD i (0, 0)).2) (y := (ps.getD k (0, 0)).1 - (ps.getD i (0, 0)).1) 2000 2000 (by omega) (by omega)
  simp only [brT_ok, Tree.ok, decide_eq_true_eq, decide_eq_false_iff_not, Int.toNat_natCast, Nat.zero_add, flat_length, flat_get0, flat_get1, Bool.not_eq_true', Bool.not_eq_false', beq_iff_eq, beq_eq_false_iff_ne]
  refine ⟨fun hlt => ⟨by omega, by omega, by omega, by omega, by omega, by omega, ?_⟩, fun hge => ?_⟩
  · rw [wsucc (n := ps.length) (by omega) (by omega)]
    simp (disch := omega) only [wr]
    have st : col2 ps i j k = (decide (crs (ps.getD i (0, 0)) (ps.getD j (0, 0)) (ps.getD k (0, 0)) = 0) && col2 ps i j (k + 1)) := alF_step (by omega)
    refine ⟨fun hv => ?_, fun hv => ?_⟩
    · have e : col2 ps i j k = false := by
        rw [st, decide_eq_false (show ¬ crs (ps.getD i (0, 0)) (ps.getD j (0, 0)) (ps.getD k (0, 0)) = 0 from hv)]
        rfl
      refine ⟨by simp only [re_col2, e, cond_false], [], ?_⟩
      simp only [rs_col2, e, cond_false]
      repeat' (first | exact True.intro | exact rfl | exact fun _ => rfl | refine And.intro ?_ ?_)
    · have e : col2 ps i j k = col2 ps i j (k + 1) := by
        rw [st, decide_eq_true (show crs (ps.getD i (0, 0)) (ps.getD j (0, 0)) (ps.getD k (0, 0)) = 0 from hv), Bool.true_and]
      refine ⟨k + 1, [], by show k + 1 ≤ j; omega, ?_, by simp only [re_col2, e], by simp only [rs_col2, e], ?_⟩
      · show j - (k + 1) < j - k; omega
      · repeat' (first | exact True.intro | exact rfl | exact fun _ => rfl | refine And.intro ?_ ?_)
  · have e : col2 ps i j k = true := alF_end (by omega)
    refine ⟨by simp only [re_col2, e, cond_true], [], ?_⟩
    simp only [rs_col2, e, cond_true]
    repeat' (first | exact True.intro | exact rfl | exact fun _ => rfl | refine And.intro ?_ ?_)
set_option maxRecDepth 100000 in
theorem lg_col2 : LoopE Try.prog e_col2 c_col2 := by
  intro s k t F H hlt ht
  unfold e_col2 at hlt
  split at hlt
  rotate_left
  · cases hlt
  rename_i hlen hpick hmem
  obtain ⟨tmps, mem⟩ := s
  simp only at hlen hpick hmem
  subst hmem
  obtain rfl := Option.some.inj hlt
  obtain ⟨⟨rfl, h1, h2, h3, h4, h5, h6, _⟩, ht2⟩ := needs_ok ht
  clear ht hlt
  obtain ⟨ps, rfl, rfl⟩ := even_flat h1
  obtain ⟨i, rfl⟩ := Int.eq_ofNat_of_zero_le (Int.le_of_lt (Int.lt_of_le_of_lt h4 h5))
  obtain ⟨j, rfl⟩ := Int.eq_ofNat_of_zero_le h4
  rw [ptsA_flat] at ht2 h3
  simp only [Int.toNat_natCast] at ht2
  refine ⟨_, _, pick2k ht2, loop_run mixed E10_ok (s_col2 ps i j) (inv_col2 ps i j) (me_col2 ps i j) (re_col2 ps i j) (rs_col2 ps i j) k_col2 (fun _ => rfl) (noLoops nl_col2) (round_col2 ps i j h2 h3 (by omega) (by omega)) (x := 0) (Nat.zero_le _) (π := []) rfl ?_⟩
  refine ⟨rfl, rfl, ?_, wvs_spread' [0, 3, 4, 5] hlen rfl ?_⟩
  · repeat' (first | exact True.intro | exact rfl | exact wv_top _ _ | exact fun _ => rfl | assumption | exact Eq.symm (by assumption) | exact vI0 rfl | refine And.intro ?_ ?_)
  · rw [hpick]
    repeat' (first | exact True.intro | exact rfl | exact wv_top _ _ | exact fun _ => rfl | assumption | exact Eq.symm (by assumption) | exact vI0 rfl | refine And.intro ?_ ?_)
noncomputable def c_colI : Code := ((loopsOf (codeOf Try.f31))[0]?).getD .skip
def k_colI : Ex → List Nat := keeps [3, 4, 17, 18, 19] [(0, [])] [2]
def s_colI (ps : List Pt) (f l : Pt) : Nat → St := fun i => ⟨[topV, topV, topV, .pointer (some ⟨1, 0, none⟩), .pointer (some ⟨2, 0, none⟩), topV, topV, topV, topV, topV, topV, topV, topV, topV, topV, topV, topV, .slice (some ⟨0, 0, none⟩) ps.length ps.length, .int .i64 ps.length, .int .i64 i, topV, topV, topV, topV, topV, topV, topV, topV, topV], [some ⟨.view, .ints (flat ps)⟩, some ⟨.box, .vals [.int .i64 f.1, .int .i64 f.2]⟩, some ⟨.box, .vals [.int .i64 l.1, .int .i64 l.2]⟩]⟩
def re_colI (ps : List Pt) (f l : Pt) : Nat → Ex := fun i => bif colI ps f l i then .exit 0 else .ret
def rs_colI (ps : List Pt) (f l : Pt) : Nat → St := fun i => bif colI ps f l i then ⟨[topV, topV, topV, topV, topV, topV, topV, topV, topV, topV, topV, topV, topV, topV, topV, topV, topV, topV, topV, topV, topV, topV, topV, topV, topV, topV, topV, topV, topV], [some ⟨.view, .ints (flat ps)⟩, some ⟨.box, .vals [.int .i64 f.1, .int .i64 f.2]⟩, some ⟨.box, .vals [.int .i64 l.1, .int .i64 l.2]⟩]⟩ else ⟨[topV, topV, .bool false, topV, topV, topV, topV, topV, topV, topV, topV, topV, topV, topV, topV, topV, topV, topV, topV, topV, topV, topV, topV, topV, topV, topV, topV, topV, topV], [some ⟨.view, .ints (flat ps)⟩, some ⟨.box, .vals [.int .i64 f.1, .int .i64 f.2]⟩, some ⟨.box, .vals [.int .i64 l.1, .int .i64 l.2]⟩]⟩
set_option maxRecDepth 100000 in
theorem tr_colI (ps : List Pt) (f l : Pt) (i : Nat) : bodyL Try.prog E10 30 12 noL 1 c_colI k_colI 3 (s_colI ps f l i) = brT (decide ((↑i : Int) < (↑ps.length : Int))) (.need ((0 : Int) ≤ (↑i : Int) ∧ (↑i : Int) < (↑ps.length : Int)) (.need ((0 : Nat) + (↑i : Int).toNat * (2 : Nat) + (2 : Nat) ≤ (flat ps).length) (brT (!IntKind.i64.wrap (IntKind.i64.wrap (IntKind.i64.wrap (l.1 - f.1) * IntKind.i64.wrap ((flat ps).getD (0 + (↑i : Int).toNat * 2 + 1) 0 - f.2)) - IntKind.i64.wrap (IntKind.i64.wrap (l.2 - f.2) * IntKind.i64.wrap ((flat ps).getD (0 + (↑i : Int).toNat * 2) 0 - f.1))) == 0) (.leaf .ret ⟨[topV, topV, .bool (false), topV, topV, topV, topV, topV, topV, topV, topV, topV, topV, topV, topV, topV, topV, topV, topV, topV, topV, topV, topV, topV, topV, topV, topV, topV, topV], [some ⟨.view, .ints (flat ps)⟩, some ⟨.box, .vals [.int .i64 (f.1), .int .i64 (f.2)]⟩, some ⟨.box, .vals [.int .i64 (l.1), .int .i64 (l.2)]⟩]⟩) (.leaf .normal ⟨[topV, topV, topV, .pointer (some ⟨1, 0, none⟩), .pointer (some ⟨2, 0, none⟩), topV, topV, topV, topV, topV, topV, topV, topV, topV, topV, topV, topV, .slice (some ⟨0, 0, none⟩) (ps.length) (ps.length), .int .i64 ((↑ps.length : Int)), .int .i64 (IntKind.i64.wrap ((↑i : Int) + 1)), topV, topV, topV, topV, topV, topV, topV, topV, topV], [some ⟨.view, .ints (flat ps)⟩, some ⟨.box, .vals [.int .i64 (f.1), .int .i64 (f.2)]⟩, some ⟨.box, .vals [.int .i64 (l.1), .int .i64 (l.2)]⟩]⟩)))) (.leaf (.exit 0) ⟨[topV, topV, topV, topV, topV, topV, topV, topV, topV, topV, topV, topV, topV, topV, topV, topV, topV, topV, topV, topV, topV, topV, topV, topV, topV, topV, topV, topV, topV], [some ⟨.view, .ints (flat ps)⟩, some ⟨.box, .vals [.int .i64 (f.1), .int .i64 (f.2)]⟩, some ⟨.box, .vals [.int .i64 (l.1), .int .i64 (l.2)]⟩]⟩) := by kernel_rfl
set_option maxRecDepth 100000 in
theorem nl_colI : loopsOf c_colI = [] := by kernel_rfl
def inv_colI (ps : List Pt) (f l : Pt) : Nat → Prop := fun i => i ≤ ps.length
def me_colI (ps : List Pt) (f l : Pt) : Nat → Nat := fun i => ps.length - i
/-- A round of this loop. -/
def Round_colI (ps : List Pt) (f l : Pt) : Prop := ∀ xx : Nat, inv_colI ps f l xx → (bodyL Try.prog E10 30 12 noL 1 c_colI k_colI 3 (s_colI ps f l xx)).ok (RoundEnd 3 (s_colI ps f l) (inv_colI ps f l) (me_colI ps f l) (re_colI ps f l) (rs_colI ps f l) xx) (fun _ _ => False)
def e_colI (s : St) (k : Ex → St → Tree) : Option Tree := match Nat.beq s.tmps.length 29, pickL s.tmps [3, 4, 17, 18, 19], s.mem with
  | true, [.pointer (some ⟨1, 0, none⟩), .pointer (some ⟨2, 0, none⟩), .slice (some ⟨0, 0, none⟩) n _, .int .i64 nn, .int .i64 ii], [some ⟨.view, .ints xs⟩, some ⟨.box, .vals [.int .i64 fx, .int .i64 fy]⟩, some ⟨.box, .vals [.int .i64 lx, .int .i64 ly]⟩] => some (needs [ii = 0, nn = n, xs.length = n * 2, n ≤ 20, allV (ptsA n xs) = true, ptB fx fy = true, ptB lx ly = true] (brT (colI (ptsA n xs) (fx, fy) (lx, ly) 0) (k (.exit 0) ⟨[topV, topV, topV, topV, topV, topV, topV, topV, topV, topV, topV, topV, topV, topV, topV, topV, topV, topV, topV, topV, topV, topV, topV, topV, topV, topV, topV, topV, topV], [some ⟨.view, .ints xs⟩, some ⟨.box, .vals [.int .i64 fx, .int .i64 fy]⟩, some ⟨.box, .vals [.int .i64 lx, .int .i64 ly]⟩]⟩) (k .ret ⟨[topV, topV, .bool false, topV, topV, topV, topV, topV, topV, topV, topV, topV, topV, topV, topV, topV, topV, topV, topV, topV, topV, topV, topV, topV, topV, topV, topV, topV, topV], [some ⟨.view, .ints xs⟩, some ⟨.box, .vals [.int .i64 fx, .int .i64 fy]⟩, some ⟨.box, .vals [.int .i64 lx, .int .i64 ly]⟩]⟩)))
  | _, _, _ => none
set_option maxRecDepth 100000 in
theorem round_colI (ps : List Pt) (f l : Pt) (h : ps.length ≤ 20) (hv : allV ps = true) (hf : ptB f.1 f.2 = true) (hl : ptB l.1 l.2 = true) : Round_colI ps f l := by
  rintro i h1
  simp only [inv_colI] at h1
  rw [tr_colI]
  have bi := allV_get hv i
  have bf : -1000 ≤ f.1 ∧ f.1 ≤ 1000 ∧ -1000 ≤ f.2 ∧ f.2 ≤ 1000 := by simpa [ptB] using hf
  have bl : -1000 ≤ l.1 ∧ l.1 ≤ 1000 ∧ -1000 ≤ l.2 ∧ l.2 ≤ 1000 := by simpa [ptB] using hl
  have m1 := mul_bd (x := l.1 - f.1) (y := (ps.getD i (0, 0)).2 - f.2) 2000 2000 (by omega) (by omega)
  have m2 := mul_bd (x := l.2 - f.2) (y := (ps.getD i (0, 0)).1 - f.1) 2000 2000 (by omega) (by omega)
  simp only [brT_ok, Tree.ok, decide_eq_true_eq, decide_eq_false_iff_not, Int.toNat_natCast, Nat.zero_add, flat_length, flat_get0, flat_get1, Bool.not_eq_true', Bool.not_eq_false', beq_iff_eq, beq_eq_false_iff_ne]
  refine ⟨fun hlt => ⟨by omega, by omega, ?_⟩, fun hge => ?_⟩
  · rw [wsucc (n := ps.length) (by omega) (by omega)]
    simp (disch := omega) only [wr]
    have st : colI ps f l i = (decide (crs f l (ps.getD i (0, 0)) = 0) && colI ps f l (i + 1)) := by
      unfold colI
      rw [drop_cons (l := ps) (k := i) (by omega) (0, 0)]
      rfl
    refine ⟨fun hv => ?_, fun hv => ?_⟩
    · have e : colI ps f l i = false := by
        rw [st, decide_eq_false (show ¬ crs f l (ps.getD i (0, 0)) = 0 from hv)]
        rfl
      refine ⟨by simp only [re_colI, e, cond_false], [], ?_⟩
      simp only [rs_colI, e, cond_false]
      repeat' (first | exact True.intro | exact rfl | exact fun _ => rfl | refine And.intro ?_ ?_)
    · have e : colI ps f l i = colI ps f l (i + 1) := by
        rw [st, decide_eq_true (show crs f l (ps.getD i (0, 0)) = 0 from hv), Bool.true_and]
      refine ⟨i + 1, [], by show i + 1 ≤ ps.length; omega, ?_, by simp only [re_colI, e], by simp only [rs_colI, e], ?_⟩
      · show ps.length - (i + 1) < ps.length - i; omega
      · repeat' (first | exact True.intro | exact rfl | exact fun _ => rfl | refine And.intro ?_ ?_)
  · have e : colI ps f l i = true := by
      unfold colI
      rw [List.drop_of_length_le (by omega)]
      rfl
    refine ⟨by simp only [re_colI, e, cond_true], [], ?_⟩
    simp only [rs_colI, e, cond_true]
    repeat' (first | exact True.intro | exact rfl | exact fun _ => rfl | refine And.intro ?_ ?_)
set_option maxRecDepth 100000 in
theorem lg_colI : LoopE Try.prog e_colI c_colI := by
  intro s k t F H hlt ht
  unfold e_colI at hlt
  split at hlt
  rotate_left
  · cases hlt
  rename_i hlen hpick hmem
  obtain ⟨tmps, mem⟩ := s
  simp only at hlen hpick hmem
  subst hmem
  obtain rfl := Option.some.inj hlt
  obtain ⟨⟨rfl, rfl, h1, h2, h3, h4, h5, _⟩, ht2⟩ := needs_ok ht
  clear ht hlt
  obtain ⟨ps, rfl, rfl⟩ := even_flat h1
  rw [ptsA_flat] at ht2 h3
  refine ⟨_, _, pick2k ht2, loop_run mixed E10_ok (s_colI ps (_, _) (_, _)) (inv_colI ps (_, _) (_, _)) (me_colI ps (_, _) (_, _)) (re_colI ps (_, _) (_, _)) (rs_colI ps (_, _) (_, _)) k_colI (fun _ => rfl) (noLoops nl_colI) (round_colI ps (_, _) (_, _) h2 h3 h4 h5) (x := 0) (Nat.zero_le _) (π := []) rfl ?_⟩
  refine ⟨rfl, rfl, ?_, wvs_spread' [3, 4, 17, 18, 19] hlen rfl ?_⟩
  · repeat' (first | exact True.intro | exact rfl | exact wv_top _ _ | exact fun _ => rfl | assumption | exact Eq.symm (by assumption) | exact vI0 rfl | refine And.intro ?_ ?_)
  · rw [hpick]
    repeat' (first | exact True.intro | exact rfl | exact wv_top _ _ | exact fun _ => rfl | assumption | exact Eq.symm (by assumption) | exact vI0 rfl | refine And.intro ?_ ?_)
end Go.Proofs.Ytieibbdfdepmbaa
