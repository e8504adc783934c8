/-
  Loops that look for the first largest: NearestTo, Extreme, firstLargest. Written by an AI agent.
-/
import Derived.Test.YtieibbdfdepmbaaFnB
namespace Go.Proofs.Ytieibbdfdepmbaa
set_option linter.all false
open Go.RowKit

/-- The index of the first largest among those at b and from i on, n of them. -/
def ag (f : Pt → Int) (ps : List Pt) : Nat → Nat → Nat → Nat
  | 0, _, b => b
  | n + 1, i, b => ag f ps n (i + 1) (if f (ps.getD b (0, 0)) < f (ps.getD i (0, 0)) then i else b)
theorem ag_step {f : Pt → Int} {ps : List Pt} {i : Nat} (h : i < ps.length) (b : Nat) : ag f ps (ps.length - i) i b = ag f ps (ps.length - (i + 1)) (i + 1) (if f (ps.getD b (0, 0)) < f (ps.getD i (0, 0)) then i else b) := by
  rw [show ps.length - i = (ps.length - (i + 1)) + 1 by omega]
  rfl
theorem ag_end {f : Pt → Int} {ps : List Pt} {i : Nat} (h : ps.length ≤ i) (b : Nat) : ag f ps (ps.length - i) i b = b := by
  rw [show ps.length - i = 0 by omega]
  rfl
def fl (f : Pt → Int) (ps : List Pt) (i : Nat) (b : Int) : Int :=
  if b < 0 then (if ps.length ≤ i then -1 else (ag f ps (ps.length - (i + 1)) (i + 1) i : Nat)) else (ag f ps (ps.length - i) i b.toNat : Nat)
theorem fl_first {f : Pt → Int} {ps : List Pt} {i : Nat} (h : i < ps.length) {b : Int} (hb : b < 0) : fl f ps i b = fl f ps (i + 1) i := by
  unfold fl
  rw [if_pos hb, if_neg (by omega), if_neg (by omega), Int.toNat_natCast]
theorem fl_yes {f : Pt → Int} {ps : List Pt} {i : Nat} (h : i < ps.length) {b : Int} (hb : 0 ≤ b) (hm : f (ps.getD b.toNat (0, 0)) < f (ps.getD i (0, 0))) : fl f ps i b = fl f ps (i + 1) i := by
  unfold fl
  rw [if_neg (by omega), if_neg (by omega), Int.toNat_natCast, ag_step h, if_pos hm]
theorem fl_no {f : Pt → Int} {ps : List Pt} {i : Nat} (h : i < ps.length) {b : Int} (hb : 0 ≤ b) (hm : ¬ f (ps.getD b.toNat (0, 0)) < f (ps.getD i (0, 0))) : fl f ps i b = fl f ps (i + 1) b := by
  unfold fl
  rw [if_neg (by omega), if_neg (by omega), ag_step h, if_neg hm]
theorem fl_end {f : Pt → Int} {ps : List Pt} {i : Nat} (h : ps.length ≤ i) {b : Int} (hb : b = -1 ∨ 0 ≤ b) : fl f ps i b = b := by
  unfold fl
  rcases hb with rfl | hb
  · rw [if_pos (by omega), if_pos h]
  · rw [if_neg (by omega), ag_end h]; omega
def fN (q p : Pt) : Int := -sq p q
def fE (d p : Pt) : Int := p.1 * d.1 + p.2 * d.2
noncomputable def c_specExt : Code := ((loopsOf (codeOf Try.f83))[0]?).getD .skip
def k_specExt : Ex → List Nat := keeps [0, 3, 5, 6] [(0, [5])] [4]
def s_specExt (ps : List Pt) (x y : Int) : Nat × Nat → St := fun (i, k) => ⟨(.slice (some ⟨0, 0, none⟩) ps.length ps.length :: topV :: topV :: .pointer (some ⟨2, 0, none⟩) :: topV :: .int .i64 k :: .int .i64 i :: topV :: topV :: topV :: topV :: topV :: topV :: topV :: topV :: topV :: topV :: topV :: topV :: topV :: topV :: topV :: topV :: topV :: topV :: topV :: topV :: topV :: topV :: topV :: topV :: topV :: topV :: topV :: topV :: topV :: topV :: topV :: topV :: topV :: topV :: topV :: topV :: topV :: topV :: topV :: topV :: topV :: topV :: topV :: []), [some ⟨.view, .ints (flat ps)⟩, none, some ⟨.box, .vals [.int .i64 x, .int .i64 y]⟩]⟩
def re_specExt : Nat × Nat → Ex := fun _ => .exit 0
def rs_specExt (ps : List Pt) (x y : Int) : Nat × Nat → St := fun (i, k) => ⟨(topV :: topV :: topV :: topV :: topV :: .int .i64 (ag (fE (x, y)) ps (ps.length - i) i k) :: topV :: topV :: topV :: topV :: topV :: topV :: topV :: topV :: topV :: topV :: topV :: topV :: topV :: topV :: topV :: topV :: topV :: topV :: topV :: topV :: topV :: topV :: topV :: topV :: topV :: topV :: topV :: topV :: topV :: topV :: topV :: topV :: topV :: topV :: topV :: topV :: topV :: topV :: topV :: topV :: topV :: topV :: topV :: topV :: []), [some ⟨.view, .ints (flat ps)⟩, none, some ⟨.box, .vals [.int .i64 x, .int .i64 y]⟩]⟩
set_option maxRecDepth 100000 in
theorem tr_specExt (ps : List Pt) (x y : Int) (i k : Nat) : bodyL Try.prog E3 30 12 noL 1 c_specExt k_specExt 3 (s_specExt ps x y (i, k)) = brT (decide ((↑i : Int) < (↑ps.length : Int))) (.need ((0 : Int) ≤ (↑i : Int) ∧ (↑i : Int) < (↑ps.length : Int)) (.need ((0 : Nat) + (↑i : Int).toNat * (2 : Nat) + (0 : Nat) < (flat ps).length) (.need ((0 : Int) ≤ (↑i : Int) ∧ (↑i : Int) < (↑ps.length : Int)) (.need ((0 : Nat) + (↑i : Int).toNat * (2 : Nat) + (1 : Nat) < (flat ps).length) (.need ((0 : Int) ≤ (↑k : Int) ∧ (↑k : Int) < (↑ps.length : Int)) (.need ((0 : Nat) + (↑k : Int).toNat * (2 : Nat) + (0 : Nat) < (flat ps).length) (.need ((0 : Int) ≤ (↑k : Int) ∧ (↑k : Int) < (↑ps.length : Int)) (.need ((0 : Nat) + (↑k : Int).toNat * (2 : Nat) + (1 : Nat) < (flat ps).length) (brT (decide (IntKind.i64.wrap (IntKind.i64.wrap ((flat ps).getD (0 + (↑k : Int).toNat * 2 + 0) 0 * x) + IntKind.i64.wrap ((flat ps).getD (0 + (↑k : Int).toNat * 2 + 1) 0 * y)) < IntKind.i64.wrap (IntKind.i64.wrap ((flat ps).getD (0 + (↑i : Int).toNat * 2 + 0) 0 * x) + IntKind.i64.wrap ((flat ps).getD (0 + (↑i : Int).toNat * 2 + 1) 0 * y)))) (.leaf .normal ⟨(.slice (some ⟨0, 0, none⟩) (ps.length) (ps.length) :: topV :: topV :: .pointer (some ⟨2, 0, none⟩) :: topV :: .int .i64 ((↑i : Int)) :: .int .i64 (IntKind.i64.wrap ((↑i : Int) + 1)) :: topV :: topV :: topV :: topV :: topV :: topV :: topV :: topV :: topV :: topV :: topV :: topV :: topV :: topV :: topV :: topV :: topV :: topV :: topV :: topV :: topV :: topV :: topV :: topV :: topV :: topV :: topV :: topV :: topV :: topV :: topV :: topV :: topV :: topV :: topV :: topV :: topV :: topV :: topV :: topV :: topV :: topV :: topV :: []), [some ⟨.view, .ints (flat ps)⟩, none, some ⟨.box, .vals [.int .i64 (x), .int .i64 (y)]⟩]⟩) (.leaf .normal ⟨(.slice (some ⟨0, 0, none⟩) (ps.length) (ps.length) :: topV :: topV :: .pointer (some ⟨2, 0, none⟩) :: topV :: .int .i64 ((↑k : Int)) :: .int .i64 (IntKind.i64.wrap ((↑i : Int) + 1)) :: topV :: topV :: topV :: topV :: topV :: topV :: topV :: topV :: topV :: topV :: topV :: topV :: topV :: topV :: topV :: topV :: topV :: topV :: topV :: topV :: topV :: topV :: topV :: topV :: topV :: topV :: topV :: topV :: topV :: topV :: topV :: topV :: topV :: topV :: topV :: topV :: topV :: topV :: topV :: topV :: topV :: topV :: topV :: []), [some ⟨.view, .ints (flat ps)⟩, none, some ⟨.box, .vals [.int .i64 (x), .int .i64 (y)]⟩]⟩)))))))))) (.leaf (.exit 0) ⟨(topV :: topV :: topV :: topV :: topV :: .int .i64 ((↑k : Int)) :: topV :: topV :: topV :: topV :: topV :: topV :: topV :: topV :: topV :: topV :: topV :: topV :: topV :: topV :: topV :: topV :: topV :: topV :: topV :: topV :: topV :: topV :: topV :: topV :: topV :: topV :: topV :: topV :: topV :: topV :: topV :: topV :: topV :: topV :: topV :: topV :: topV :: topV :: topV :: topV :: topV :: topV :: topV :: topV :: []), [some ⟨.view, .ints (flat ps)⟩, none, some ⟨.box, .vals [.int .i64 (x), .int .i64 (y)]⟩]⟩) := by kernel_rfl
set_option maxRecDepth 100000 in
theorem nl_specExt : loopsOf c_specExt = [] := by kernel_rfl
def inv_specExt (ps : List Pt) (x y : Int) : Nat × Nat → Prop := fun (i, k) => i ≤ ps.length ∧ k < ps.length
def me_specExt (ps : List Pt) (x y : Int) : Nat × Nat → Nat := fun (i, k) => ps.length - i
/-- A round of this loop. -/
def Round_specExt (ps : List Pt) (x y : Int) : Prop := ∀ xx : Nat × Nat, inv_specExt ps x y xx → (bodyL Try.prog E3 30 12 noL 1 c_specExt k_specExt 3 (s_specExt ps x y xx)).ok (RoundEnd 3 (s_specExt ps x y) (inv_specExt ps x y) (me_specExt ps x y) re_specExt (rs_specExt ps x y) xx) (fun _ _ => False)
def e_specExt (s : St) (k : Ex → St → Tree) : Option Tree := match Nat.beq s.tmps.length 50, pickL s.tmps [0, 3, 5, 6], s.mem with
  | true, [.slice (some ⟨0, 0, none⟩) m _, .pointer (some ⟨2, 0, none⟩), .int .i64 kk, .int .i64 i], [some ⟨.view, .ints xs⟩, none, some ⟨.box, .vals [.int .i64 x, .int .i64 y]⟩] => some (needs [i = 0, kk = 0, xs.length = m * 2, m ≤ 20, allV (ptsA m xs) = true, ptB x y = true, 0 < m] (k (.exit 0) ⟨(topV :: topV :: topV :: topV :: topV :: .int .i64 (ag (fE (x, y)) (ptsA m xs) m 0 0) :: topV :: topV :: topV :: topV :: topV :: topV :: topV :: topV :: topV :: topV :: topV :: topV :: topV :: topV :: topV :: topV :: topV :: topV :: topV :: topV :: topV :: topV :: topV :: topV :: topV :: topV :: topV :: topV :: topV :: topV :: topV :: topV :: topV :: topV :: topV :: topV :: topV :: topV :: topV :: topV :: topV :: topV :: topV :: topV :: []), [some ⟨.view, .ints xs⟩, none, some ⟨.box, .vals [.int .i64 x, .int .i64 y]⟩]⟩))
  | _, _, _ => none
set_option maxRecDepth 100000 in
theorem round_specExt (ps : List Pt) (x y : Int) (h : ps.length ≤ 20) (hv : allV ps = true) (hq : ptB x y = true) : Round_specExt ps x y := by
  rintro ⟨i, k⟩ ⟨h1, h2⟩
  rw [tr_specExt]
  have b := allV_get hv i
  have b2 := allV_get hv k
  have hq : -1000 ≤ x ∧ x ≤ 1000 ∧ -1000 ≤ y ∧ y ≤ 1000 := by simpa [ptB] using hq
  have m1 := mul_bd (x := (ps.getD i (0, 0)).1) (y := x) 1000 1000 (by omega) (by omega)
  have m2 := mul_bd (x := (ps.getD i (0, 0)).2) (y := y) 1000 1000 (by omega) (by omega)
  have m3 := mul_bd (x := (ps.getD k (0, 0)).1) (y := x) 1000 1000 (by omega) (by omega)
  have m4 := mul_bd (x := (ps.getD k (0, 0)).2) (y := y) 1000 1000 (by omega) (by omega)
  simp only [brT_ok, Tree.ok, decide_eq_true_eq, decide_eq_false_iff_not, Int.toNat_natCast, Nat.zero_add, Nat.add_zero, flat_length, flat_get0, flat_get1]
  refine ⟨fun hlt => ⟨by omega, by omega, by omega, by omega, by omega, by omega, by omega, by omega, ?_⟩, fun hge => ?_⟩
  · rw [wsucc (n := ps.length) (by omega) (by omega)]
    simp (disch := omega) only [wr]
    refine ⟨fun hle => ?_, fun hle => ?_⟩
    · have e : fE (x, y) (ps.getD k (0, 0)) < fE (x, y) (ps.getD i (0, 0)) := hle
      refine ⟨(i + 1, i), [], ⟨by omega, by omega⟩, ?_, rfl, by simp only [rs_specExt]; rw [ag_step (i := i) (by omega), if_pos e], ?_⟩
      · show ps.length - (i + 1) < ps.length - i; omega
      · repeat' (first | exact True.intro | exact rfl | exact fun _ => rfl | refine And.intro ?_ ?_)
    · have e : ¬ fE (x, y) (ps.getD k (0, 0)) < fE (x, y) (ps.getD i (0, 0)) := hle
      refine ⟨(i + 1, k), [], ⟨by omega, by omega⟩, ?_, rfl, by simp only [rs_specExt]; rw [ag_step (i := i) (by omega), if_neg e], ?_⟩
      · show ps.length - (i + 1) < ps.length - i; omega
      · repeat' (first | exact True.intro | exact rfl | exact fun _ => rfl | refine And.intro ?_ ?_)
  · refine ⟨rfl, [], ?_⟩
    simp only [rs_specExt, ag_end (i := i) (by omega : ps.length ≤ i)]
    repeat' (first | exact True.intro | exact rfl | exact fun _ => rfl | refine And.intro ?_ ?_)
set_option maxRecDepth 100000 in
theorem lg_specExt : LoopE Try.prog e_specExt c_specExt := by
  intro s k t F H hlt ht
  unfold e_specExt at hlt
  split at hlt
  rotate_left
  · cases hlt
  rename_i hlen hpick hmem
  obtain ⟨tmps, mem⟩ := s
  simp only at hlen hpick hmem
  subst hmem
  obtain rfl := Option.some.inj hlt
  obtain ⟨⟨rfl, rfl, h1, h3, h4, h5, h6, _⟩, ht2⟩ := needs_ok ht
  clear ht hlt
  obtain ⟨ps, rfl, rfl⟩ := even_flat h1
  rw [ptsA_flat] at ht2 h4
  refine ⟨_, _, ht2, loop_run mixed E3_ok (s_specExt ps _ _) (inv_specExt ps _ _) (me_specExt ps _ _) re_specExt (rs_specExt ps _ _) k_specExt (fun _ => rfl) (noLoops nl_specExt) (round_specExt ps _ _ h3 h4 h5) (x := (0, 0)) ⟨Nat.zero_le _, h6⟩ (π := []) rfl ?_⟩
  refine ⟨rfl, rfl, ?_, wvs_spread' [0, 3, 5, 6] hlen rfl ?_⟩
  · repeat' (first | exact True.intro | exact rfl | exact wv_top _ _ | exact fun _ => rfl | assumption | exact Eq.symm (by assumption) | exact vI0 rfl | refine And.intro ?_ ?_)
  · rw [hpick]
    repeat' (first | exact True.intro | exact rfl | exact wv_top _ _ | exact fun _ => rfl | assumption | exact Eq.symm (by assumption) | exact vI0 rfl | refine And.intro ?_ ?_)
noncomputable def c_flExt : Code := ((loopsOf (codeOf Try.f81))[0]?).getD .skip
def k_flExt : Ex → List Nat := keeps [1, 5, 6, 10, 11, 12] [(0, [5])] [4]
def s_flExt (ps : List Pt) (x y : Int) : Nat × Int × Int → St := fun (i, b, m) => ⟨(topV :: .func (.func 82) #[.agg #[.int .i64 x, .int .i64 y]] #[] :: topV :: topV :: topV :: .int .i64 b :: .int .i64 m :: topV :: topV :: topV :: .slice (some ⟨0, 0, none⟩) ps.length ps.length :: .int .i64 ps.length :: .int .i64 i :: topV :: topV :: topV :: topV :: topV :: topV :: topV :: topV :: topV :: topV :: topV :: topV :: topV :: topV :: topV :: topV :: topV :: topV :: []), [some ⟨.view, .ints (flat ps)⟩, none, some ⟨.box, .vals [.int .i64 x, .int .i64 y]⟩]⟩
def re_flExt : Nat × Int × Int → Ex := fun _ => .exit 0
def rs_flExt (ps : List Pt) (x y : Int) : Nat × Int × Int → St := fun (i, b, m) => ⟨(topV :: topV :: topV :: topV :: topV :: .int .i64 (fl (fE (x, y)) ps i b) :: topV :: topV :: topV :: topV :: topV :: topV :: topV :: topV :: topV :: topV :: topV :: topV :: topV :: topV :: topV :: topV :: topV :: topV :: topV :: topV :: topV :: topV :: topV :: topV :: topV :: []), [some ⟨.view, .ints (flat ps)⟩, none, some ⟨.box, .vals [.int .i64 x, .int .i64 y]⟩]⟩
set_option maxRecDepth 100000 in
theorem tr_flExt (ps : List Pt) (x y : Int) (i : Nat) (b m : Int) : bodyL Try.prog E3 30 12 noL 1 c_flExt k_flExt 3 (s_flExt ps x y (i, b, m)) = brT (decide ((↑i : Int) < (↑ps.length : Int))) (.need ((0 : Int) ≤ (↑i : Int) ∧ (↑i : Int) < (↑ps.length : Int)) (.need ((0 : Nat) + (↑i : Int).toNat * (2 : Nat) + (2 : Nat) ≤ (flat ps).length) (brT (decide (b < 0)) (.leaf .normal ⟨(topV :: .func (Fn.func 82) #[.agg #[.int .i64 (x), .int .i64 (y)]] #[] :: topV :: topV :: topV :: .int .i64 ((↑i : Int)) :: .int .i64 (IntKind.i64.wrap (IntKind.i64.wrap (x * (flat ps).getD (0 + (↑i : Int).toNat * 2) 0) + IntKind.i64.wrap (y * (flat ps).getD (0 + (↑i : Int).toNat * 2 + 1) 0))) :: topV :: topV :: topV :: .slice (some ⟨0, 0, none⟩) (ps.length) (ps.length) :: .int .i64 ((↑ps.length : Int)) :: .int .i64 (IntKind.i64.wrap ((↑i : Int) + 1)) :: topV :: topV :: topV :: topV :: topV :: topV :: topV :: topV :: topV :: topV :: topV :: topV :: topV :: topV :: topV :: topV :: topV :: topV :: []), [some ⟨.view, .ints (flat ps)⟩, none, some ⟨.box, .vals [.int .i64 (x), .int .i64 (y)]⟩]⟩) (brT (decide (m < IntKind.i64.wrap (IntKind.i64.wrap (x * (flat ps).getD (0 + (↑i : Int).toNat * 2) 0) + IntKind.i64.wrap (y * (flat ps).getD (0 + (↑i : Int).toNat * 2 + 1) 0)))) (.leaf .normal ⟨(topV :: .func (Fn.func 82) #[.agg #[.int .i64 (x), .int .i64 (y)]] #[] :: topV :: topV :: topV :: .int .i64 ((↑i : Int)) :: .int .i64 (IntKind.i64.wrap (IntKind.i64.wrap (x * (flat ps).getD (0 + (↑i : Int).toNat * 2) 0) + IntKind.i64.wrap (y * (flat ps).getD (0 + (↑i : Int).toNat * 2 + 1) 0))) :: topV :: topV :: topV :: .slice (some ⟨0, 0, none⟩) (ps.length) (ps.length) :: .int .i64 ((↑ps.length : Int)) :: .int .i64 (IntKind.i64.wrap ((↑i : Int) + 1)) :: topV :: topV :: topV :: topV :: topV :: topV :: topV :: topV :: topV :: topV :: topV :: topV :: topV :: topV :: topV :: topV :: topV :: topV :: []), [some ⟨.view, .ints (flat ps)⟩, none, some ⟨.box, .vals [.int .i64 (x), .int .i64 (y)]⟩]⟩) (.leaf .normal ⟨(topV :: .func (Fn.func 82) #[.agg #[.int .i64 (x), .int .i64 (y)]] #[] :: topV :: topV :: topV :: .int .i64 (b) :: .int .i64 (m) :: topV :: topV :: topV :: .slice (some ⟨0, 0, none⟩) (ps.length) (ps.length) :: .int .i64 ((↑ps.length : Int)) :: .int .i64 (IntKind.i64.wrap ((↑i : Int) + 1)) :: topV :: topV :: topV :: topV :: topV :: topV :: topV :: topV :: topV :: topV :: topV :: topV :: topV :: topV :: topV :: topV :: topV :: topV :: []), [some ⟨.view, .ints (flat ps)⟩, none, some ⟨.box, .vals [.int .i64 (x), .int .i64 (y)]⟩]⟩))))) (.leaf (.exit 0) ⟨(topV :: topV :: topV :: topV :: topV :: .int .i64 (b) :: topV :: topV :: topV :: topV :: topV :: topV :: topV :: topV :: topV :: topV :: topV :: topV :: topV :: topV :: topV :: topV :: topV :: topV :: topV :: topV :: topV :: topV :: topV :: topV :: topV :: []), [some ⟨.view, .ints (flat ps)⟩, none, some ⟨.box, .vals [.int .i64 (x), .int .i64 (y)]⟩]⟩) := by kernel_rfl
set_option maxRecDepth 100000 in
theorem nl_flExt : loopsOf c_flExt = [] := by kernel_rfl
def inv_flExt (ps : List Pt) (x y : Int) : Nat × Int × Int → Prop := fun (i, b, m) => i ≤ ps.length ∧ (b = -1 ∨ 0 ≤ b ∧ b < i ∧ m = fE (x, y) (ps.getD b.toNat (0, 0)))
def me_flExt (ps : List Pt) (x y : Int) : Nat × Int × Int → Nat := fun (i, b, m) => ps.length - i
/-- A round of this loop. -/
def Round_flExt (ps : List Pt) (x y : Int) : Prop := ∀ xx : Nat × Int × Int, inv_flExt ps x y xx → (bodyL Try.prog E3 30 12 noL 1 c_flExt k_flExt 3 (s_flExt ps x y xx)).ok (RoundEnd 3 (s_flExt ps x y) (inv_flExt ps x y) (me_flExt ps x y) re_flExt (rs_flExt ps x y) xx) (fun _ _ => False)
def e_flExt (s : St) (k : Ex → St → Tree) : Option Tree := match Nat.beq s.tmps.length 31, pickL s.tmps [1, 5, 6, 10, 11, 12], s.mem with
  | true, [.func (.func 82) ⟨[.agg ⟨[.int .i64 x, .int .i64 y]⟩]⟩ ⟨[]⟩, .int .i64 b, .int .i64 mm, .slice (some ⟨0, 0, none⟩) m _, .int .i64 l, .int .i64 i], [some ⟨.view, .ints xs⟩, none, some ⟨.box, .vals [.int .i64 x2, .int .i64 y2]⟩] => some (needs [i = 0, b = -1, mm = 0, l = m, xs.length = m * 2, m ≤ 20, allV (ptsA m xs) = true, ptB x y = true, x2 = x, y2 = y] (k (.exit 0) ⟨(topV :: topV :: topV :: topV :: topV :: .int .i64 (fl (fE (x, y)) (ptsA m xs) 0 (-1)) :: topV :: topV :: topV :: topV :: topV :: topV :: topV :: topV :: topV :: topV :: topV :: topV :: topV :: topV :: topV :: topV :: topV :: topV :: topV :: topV :: topV :: topV :: topV :: topV :: topV :: []), [some ⟨.view, .ints xs⟩, none, some ⟨.box, .vals [.int .i64 x2, .int .i64 y2]⟩]⟩))
  | _, _, _ => none
set_option maxRecDepth 100000 in
theorem round_flExt (ps : List Pt) (x y : Int) (h : ps.length ≤ 20) (hv : allV ps = true) (hq : ptB x y = true) : Round_flExt ps x y := by
  rintro ⟨i, b, m⟩ ⟨h1, h2⟩
  rw [tr_flExt]
  have bb := allV_get hv i
  have hq2 : -1000 ≤ x ∧ x ≤ 1000 ∧ -1000 ≤ y ∧ y ≤ 1000 := by simpa [ptB] using hq
  have m1 := mul_bd (x := x) (y := (ps.getD i (0, 0)).1) 1000 1000 (by omega) (by omega)
  have m2 := mul_bd (x := y) (y := (ps.getD i (0, 0)).2) 1000 1000 (by omega) (by omega)
  simp only [Int.toNat_natCast, Nat.zero_add, flat_length, flat_get0, flat_get1]
  simp only [brT_ok, Tree.ok, decide_eq_true_eq, decide_eq_false_iff_not]
  refine ⟨fun hlt => ⟨by omega, by omega, ?_⟩, fun hge => ?_⟩
  · rw [wsucc (n := ps.length) (by omega) (by omega)]
    simp (disch := omega) only [wr]
    have hf : fE (x, y) (ps.getD i (0, 0)) = x * (ps.getD i (0, 0)).1 + y * (ps.getD i (0, 0)).2 := by
      unfold fE
      rw [Int.mul_comm, Int.mul_comm (ps.getD i (0, 0)).2]
    rw [← hf]
    have new : fl (fE (x, y)) ps i b = fl (fE (x, y)) ps (i + 1) i → RoundEnd 3 (s_flExt ps x y) (inv_flExt ps x y) (me_flExt ps x y) re_flExt (rs_flExt ps x y) (i, b, m) .normal (s_flExt ps x y (i + 1, i, fE (x, y) (ps.getD i (0, 0)))) := fun e => by
      refine ⟨(i + 1, i, fE (x, y) (ps.getD i (0, 0))), [], ⟨by omega, .inr ⟨by omega, by omega, by rw [Int.toNat_natCast]⟩⟩, ?_, rfl, by simp only [rs_flExt]; rw [e], ?_⟩
      · show ps.length - (i + 1) < ps.length - i; omega
      · repeat' (first | exact True.intro | exact rfl | exact fun _ => rfl | refine And.intro ?_ ?_)
    refine ⟨fun hb => new (fl_first (by omega) hb), fun hb => ?_⟩
    obtain ⟨g1, g2, g3⟩ := h2.resolve_left (by omega)
    refine ⟨fun hle => new (fl_yes (by omega) g1 (by rw [← g3]; exact hle)), fun hle => ?_⟩
    refine ⟨(i + 1, b, m), [], ⟨by omega, .inr ⟨by omega, by omega, g3⟩⟩, ?_, rfl, by simp only [rs_flExt]; rw [fl_no (i := i) (by omega) g1 (by rw [← g3]; exact hle)], ?_⟩
    · show ps.length - (i + 1) < ps.length - i; omega
    · repeat' (first | exact True.intro | exact rfl | exact fun _ => rfl | refine And.intro ?_ ?_)
  · refine ⟨rfl, [], ?_⟩
    simp only [rs_flExt, fl_end (f := fE (x, y)) (ps := ps) (i := i) (by omega) (b := b) (h2.imp id fun h => h.1)]
    repeat' (first | exact True.intro | exact rfl | exact fun _ => rfl | refine And.intro ?_ ?_)
set_option maxRecDepth 100000 in
theorem lg_flExt : LoopE Try.prog e_flExt c_flExt := by
  intro s k t F H hlt ht
  unfold e_flExt at hlt
  split at hlt
  rotate_left
  · cases hlt
  rename_i hlen hpick hmem
  obtain ⟨tmps, mem⟩ := s
  simp only at hlen hpick hmem
  subst hmem
  obtain rfl := Option.some.inj hlt
  obtain ⟨⟨rfl, rfl, rfl, rfl, h1, h3, h4, h5, rfl, rfl, _⟩, ht2⟩ := needs_ok ht
  clear ht hlt
  obtain ⟨ps, rfl, rfl⟩ := even_flat h1
  rw [ptsA_flat] at ht2 h4
  refine ⟨_, _, ht2, loop_run mixed E3_ok (s_flExt ps _ _) (inv_flExt ps _ _) (me_flExt ps _ _) re_flExt (rs_flExt ps _ _) k_flExt (fun _ => rfl) (noLoops nl_flExt) (round_flExt ps _ _ h3 h4 h5) (x := (0, -1, 0)) ⟨Nat.zero_le _, .inl rfl⟩ (π := []) rfl ?_⟩
  refine ⟨rfl, rfl, ?_, wvs_spread' [1, 5, 6, 10, 11, 12] hlen rfl ?_⟩
  · repeat' (first | exact True.intro | exact rfl | exact wv_top _ _ | exact fun _ => rfl | assumption | exact Eq.symm (by assumption) | exact vI0 rfl | refine And.intro ?_ ?_)
  · rw [hpick]
    repeat' (first | exact True.intro | exact rfl | exact wv_top _ _ | exact fun _ => rfl | assumption | exact Eq.symm (by assumption) | exact vI0 rfl | refine And.intro ?_ ?_)
end Go.Proofs.Ytieibbdfdepmbaa
