/-
  Points in a region, both ways; the exact law of InRegion. Written by an AI agent.
-/
import Derived.Test.YtfjcbindeimoiabHfF
namespace Go.Proofs.Ytfjcbindeimoiab
open Go.RowKit

/-- Is a point in the half-plane at j? -/
def inQ (xs : List Int) (x y : Int) (j : Nat) : Bool := decide (xs.getD (j * 3) 0 * x + xs.getD (j * 3 + 1) 0 * y ≤ xs.getD (j * 3 + 2) 0)
noncomputable def c_sIr : Code := ((loopsOf (codeOf Try.f119))[0]?).getD .skip
def k_sIr : Ex → List Nat := keeps [0, 3, 5] [(0, [])] [4]
def s_sIr (n : Nat) (xs : List Int) (x y : Int) : Nat → St := fun i => ⟨(.slice (some ⟨0, 0, none⟩) n n :: topV :: topV :: .pointer (some ⟨2, 0, none⟩) :: topV :: .int .i64 i :: topV :: topV :: topV :: topV :: topV :: topV :: topV :: topV :: topV :: topV :: topV :: topV :: topV :: topV :: topV :: topV :: topV :: topV :: topV :: topV :: topV :: topV :: topV :: topV :: topV :: topV :: topV :: topV :: topV :: []), [some ⟨.view, .ints xs⟩, none, some ⟨.box, .vals [.int .i64 x, .int .i64 y]⟩]⟩
def re_sIr (n : Nat) (xs : List Int) (x y : Int) : Nat → Ex := fun i => bif allQ (inQ xs x y) i (n - i) then .exit 0 else .ret
def rs_sIr (n : Nat) (xs : List Int) (x y : Int) : Nat → St := fun i => bif allQ (inQ xs x y) i (n - i) then ⟨(topV :: topV :: topV :: topV :: topV :: topV :: topV :: topV :: topV :: topV :: topV :: topV :: topV :: topV :: topV :: topV :: topV :: topV :: topV :: topV :: topV :: topV :: topV :: topV :: topV :: topV :: topV :: topV :: topV :: topV :: topV :: topV :: topV :: topV :: topV :: []), [some ⟨.view, .ints xs⟩, none, some ⟨.box, .vals [.int .i64 x, .int .i64 y]⟩]⟩ else ⟨(topV :: topV :: topV :: topV :: .bool false :: topV :: topV :: topV :: topV :: topV :: topV :: topV :: topV :: topV :: topV :: topV :: topV :: topV :: topV :: topV :: topV :: topV :: topV :: topV :: topV :: topV :: topV :: topV :: topV :: topV :: topV :: topV :: topV :: topV :: topV :: []), [some ⟨.view, .ints xs⟩, none, some ⟨.box, .vals [.int .i64 x, .int .i64 y]⟩]⟩
set_option maxRecDepth 100000 in
theorem tr_sIr (n : Nat) (xs : List Int) (x y : Int) (i : Nat) : bodyL Try.prog EHf2 30 12 noL 1 c_sIr k_sIr 3 (s_sIr n xs x y i) = brT (decide ((↑i : Int) < (↑n : Int))) (.need ((0 : Int) ≤ (↑i : Int) ∧ (↑i : Int) < (↑n : Int)) (.need ((0 : Nat) + (↑i : Int).toNat * (3 : Nat) + (0 : Nat) < xs.length) (.need ((0 : Int) ≤ (↑i : Int) ∧ (↑i : Int) < (↑n : Int)) (.need ((0 : Nat) + (↑i : Int).toNat * (3 : Nat) + (1 : Nat) < xs.length) (.need ((0 : Int) ≤ (↑i : Int) ∧ (↑i : Int) < (↑n : Int)) (.need ((0 : Nat) + (↑i : Int).toNat * (3 : Nat) + (2 : Nat) < xs.length) (brT (decide (xs.getD (0 + (↑i : Int).toNat * 3 + 2) 0 < IntKind.i64.wrap (IntKind.i64.wrap (xs.getD (0 + (↑i : Int).toNat * 3 + 0) 0 * x) + IntKind.i64.wrap (xs.getD (0 + (↑i : Int).toNat * 3 + 1) 0 * y)))) (.leaf .ret ⟨(topV :: topV :: topV :: topV :: .bool (false) :: topV :: topV :: topV :: topV :: topV :: topV :: topV :: topV :: topV :: topV :: topV :: topV :: topV :: topV :: topV :: topV :: topV :: topV :: topV :: topV :: topV :: topV :: topV :: topV :: topV :: topV :: topV :: topV :: topV :: topV :: []), [some ⟨.view, .ints (xs)⟩, none, some ⟨.box, .vals [.int .i64 (x), .int .i64 (y)]⟩]⟩) (.leaf .normal ⟨(.slice (some ⟨0, 0, none⟩) (n) (n) :: topV :: topV :: .pointer (some ⟨2, 0, none⟩) :: topV :: .int .i64 (IntKind.i64.wrap ((↑i : Int) + 1)) :: topV :: topV :: topV :: topV :: topV :: topV :: topV :: topV :: topV :: topV :: topV :: topV :: topV :: topV :: topV :: topV :: topV :: topV :: topV :: topV :: topV :: topV :: topV :: topV :: topV :: topV :: topV :: topV :: topV :: []), [some ⟨.view, .ints (xs)⟩, none, some ⟨.box, .vals [.int .i64 (x), .int .i64 (y)]⟩]⟩)))))))) (.leaf (.exit 0) ⟨(topV :: topV :: topV :: topV :: topV :: topV :: topV :: topV :: topV :: topV :: topV :: topV :: topV :: topV :: topV :: topV :: topV :: topV :: topV :: topV :: topV :: topV :: topV :: topV :: topV :: topV :: topV :: topV :: topV :: topV :: topV :: topV :: topV :: topV :: topV :: []), [some ⟨.view, .ints (xs)⟩, none, some ⟨.box, .vals [.int .i64 (x), .int .i64 (y)]⟩]⟩) := by kernel_rfl
set_option maxRecDepth 100000 in
theorem nl_sIr : loopsOf c_sIr = [] := by kernel_rfl
def inv_sIr (n : Nat) (xs : List Int) (x y : Int) : Nat → Prop := fun i => i ≤ n
def me_sIr (n : Nat) (xs : List Int) (x y : Int) : Nat → Nat := fun i => n - i
/-- A round of this loop. -/
def Round_sIr (n : Nat) (xs : List Int) (x y : Int) : Prop := ∀ xx : Nat, inv_sIr n xs x y xx → (bodyL Try.prog EHf2 30 12 noL 1 c_sIr k_sIr 3 (s_sIr n xs x y xx)).ok (RoundEnd 3 (s_sIr n xs x y) (inv_sIr n xs x y) (me_sIr n xs x y) (re_sIr n xs x y) (rs_sIr n xs x y) xx) (fun _ _ => False)
def e_sIr (s : St) (k : Ex → St → Tree) : Option Tree := match Nat.beq s.tmps.length 35, pickL s.tmps [0, 3, 5], s.mem with
  | true, [.slice (some ⟨0, 0, none⟩) n _, .pointer (some ⟨2, 0, none⟩), .int .i64 i], [some ⟨.view, .ints xs⟩, none, some ⟨.box, .vals [.int .i64 x, .int .i64 y]⟩] => some (needs [i = 0, xs.length = n * 3, n ≤ 1000000000, allQ (hfQ xs) 0 n = true, ptB x y = true] (brT (allQ (inQ xs x y) 0 n) (k (.exit 0) ⟨(topV :: topV :: topV :: topV :: topV :: topV :: topV :: topV :: topV :: topV :: topV :: topV :: topV :: topV :: topV :: topV :: topV :: topV :: topV :: topV :: topV :: topV :: topV :: topV :: topV :: topV :: topV :: topV :: topV :: topV :: topV :: topV :: topV :: topV :: topV :: []), [some ⟨.view, .ints xs⟩, none, some ⟨.box, .vals [.int .i64 x, .int .i64 y]⟩]⟩) (k .ret ⟨(topV :: topV :: topV :: topV :: .bool false :: topV :: topV :: topV :: topV :: topV :: topV :: topV :: topV :: topV :: topV :: topV :: topV :: topV :: topV :: topV :: topV :: topV :: topV :: topV :: topV :: topV :: topV :: topV :: topV :: topV :: topV :: topV :: topV :: topV :: topV :: []), [some ⟨.view, .ints xs⟩, none, some ⟨.box, .vals [.int .i64 x, .int .i64 y]⟩]⟩)))
  | _, _, _ => none
set_option maxRecDepth 100000 in
theorem round_sIr (n : Nat) (xs : List Int) (x y : Int) (hx : xs.length = n * 3) (h : n ≤ 1000000000) (hv : allQ (hfQ xs) 0 n = true) (hp : ptB x y = true) : Round_sIr n xs x y := by
  intro i h1
  have h1 : i ≤ n := h1
  rw [tr_sIr]
  simp only [brT_ok, Tree.ok, decide_eq_true_eq, decide_eq_false_iff_not, Int.toNat_natCast, Nat.zero_add, Nat.add_zero]
  have bp : -1000 ≤ x ∧ x ≤ 1000 ∧ -1000 ≤ y ∧ y ≤ 1000 := by simpa [ptB, and_assoc] using hp
  refine ⟨fun hlt => ?_, fun hge => ?_⟩
  · have bq := allQ_get n 0 hv i (by omega) (by omega)
    have bq : ((-2000 ≤ xs.getD (i * 3) 0 ∧ xs.getD (i * 3) 0 ≤ 2000) ∧ (-2000 ≤ xs.getD (i * 3 + 1) 0 ∧ xs.getD (i * 3 + 1) 0 ≤ 2000)) := by
      unfold hfQ hfB at bq
      simp only [Bool.and_eq_true, decide_eq_true_eq] at bq
      omega
    have m1 := mul_bd (x := xs.getD (i * 3) 0) (y := x) 2000 1000 bq.1 (by omega)
    have m2 := mul_bd (x := xs.getD (i * 3 + 1) 0) (y := y) 2000 1000 bq.2 (by omega)
    rw [wsucc (n := n) (by omega) h]
    have w1 : IntKind.i64.wrap (xs.getD (i * 3) 0 * x) = xs.getD (i * 3) 0 * x := wr (by omega)
    have w2 : IntKind.i64.wrap (xs.getD (i * 3 + 1) 0 * y) = xs.getD (i * 3 + 1) 0 * y := wr (by omega)
    have w3 : IntKind.i64.wrap (xs.getD (i * 3) 0 * x + xs.getD (i * 3 + 1) 0 * y) = xs.getD (i * 3) 0 * x + xs.getD (i * 3 + 1) 0 * y := wr (by omega)
    simp only [w1, w2, w3, show i * 3 + 1 + 1 = i * 3 + 2 from rfl]
    refine ⟨by omega, by omega, by omega, by omega, by omega, by omega, fun hgt => ?_, fun hle => ?_⟩
    · have e : allQ (inQ xs x y) i (n - i) = false := by
        rw [allQ_step (by omega)]
        have : inQ xs x y i = false := by unfold inQ; rw [decide_eq_false_iff_not]; omega
        rw [this, Bool.false_and]
      refine ⟨by simp only [re_sIr, e, cond_false], [], ?_⟩
      simp only [rs_sIr, e, cond_false]
      repeat' (first | exact True.intro | exact rfl | exact fun _ => rfl | refine And.intro ?_ ?_)
    · have e : allQ (inQ xs x y) i (n - i) = allQ (inQ xs x y) (i + 1) (n - (i + 1)) := by
        rw [allQ_step (by omega)]
        have : inQ xs x y i = true := by unfold inQ; rw [decide_eq_true_eq]; omega
        rw [this, Bool.true_and]
      refine ⟨i + 1, [], ?_, ?_, by simp only [re_sIr, e], by simp only [rs_sIr, e], ?_⟩
      · show i + 1 ≤ n; omega
      · show n - (i + 1) < n - i; omega
      · repeat' (first | exact True.intro | exact rfl | exact fun _ => rfl | refine And.intro ?_ ?_)
  · have e : allQ (inQ xs x y) i (n - i) = true := allQ_end (by omega)
    refine ⟨by simp only [re_sIr, e, cond_true], [], ?_⟩
    simp only [rs_sIr, e, cond_true]
    repeat' (first | exact True.intro | exact rfl | exact fun _ => rfl | refine And.intro ?_ ?_)
set_option maxRecDepth 100000 in
theorem lg_sIr : LoopE Try.prog e_sIr c_sIr := by
  intro s k t F H hlt ht
  unfold e_sIr at hlt
  split at hlt
  rotate_left
  · cases hlt
  rename_i hlen hpick hmem
  obtain ⟨tmps, mem⟩ := s
  simp only at hlen hpick hmem
  subst hmem
  obtain rfl := Option.some.inj hlt
  obtain ⟨⟨rfl, h1, h2, h3, h4, _⟩, ht2⟩ := needs_ok ht
  clear ht hlt
  refine ⟨_, _, pick2k ht2, loop_run mixed EHf2_ok (s_sIr _ _ _ _) (inv_sIr _ _ _ _) (me_sIr _ _ _ _) (re_sIr _ _ _ _) (rs_sIr _ _ _ _) k_sIr (fun _ => rfl) (noLoops nl_sIr) (round_sIr _ _ _ _ h1 h2 h3 h4) (x := 0) (Nat.zero_le _) (π := []) rfl ?_⟩
  refine ⟨rfl, rfl, ?_, wvs_spread' [0, 3, 5] hlen rfl ?_⟩
  · repeat' (first | exact True.intro | exact rfl | exact wv_top _ _ | exact fun _ => rfl | assumption | exact Eq.symm (by assumption) | exact vI0 rfl | refine And.intro ?_ ?_)
  · rw [hpick]
    repeat' (first | exact True.intro | exact rfl | exact wv_top _ _ | exact fun _ => rfl | assumption | exact Eq.symm (by assumption) | exact vI0 rfl | refine And.intro ?_ ?_)
noncomputable def c_iIr : Code := ((loopsOf (codeOf Try.f58))[0]?).getD .skip
def k_iIr : Ex → List Nat := keeps [3, 15, 16, 17] [(0, [])] [4]
def s_iIr (n : Nat) (xs : List Int) (x y : Int) : Nat → St := fun i => ⟨(topV :: topV :: topV :: .pointer (some ⟨2, 0, none⟩) :: topV :: topV :: topV :: topV :: topV :: topV :: topV :: topV :: topV :: topV :: topV :: .slice (some ⟨0, 0, none⟩) n n :: .int .i64 n :: .int .i64 i :: topV :: topV :: topV :: topV :: topV :: topV :: topV :: topV :: topV :: topV :: topV :: topV :: topV :: topV :: topV :: topV :: topV :: topV :: []), [some ⟨.view, .ints xs⟩, none, some ⟨.box, .vals [.int .i64 x, .int .i64 y]⟩]⟩
def re_iIr (n : Nat) (xs : List Int) (x y : Int) : Nat → Ex := fun i => bif allQ (inQ xs x y) i (n - i) then .exit 0 else .ret
def rs_iIr (n : Nat) (xs : List Int) (x y : Int) : Nat → St := fun i => bif allQ (inQ xs x y) i (n - i) then ⟨(topV :: topV :: topV :: topV :: topV :: topV :: topV :: topV :: topV :: topV :: topV :: topV :: topV :: topV :: topV :: topV :: topV :: topV :: topV :: topV :: topV :: topV :: topV :: topV :: topV :: topV :: topV :: topV :: topV :: topV :: topV :: topV :: topV :: topV :: topV :: topV :: []), [some ⟨.view, .ints xs⟩, none, some ⟨.box, .vals [.int .i64 x, .int .i64 y]⟩]⟩ else ⟨(topV :: topV :: topV :: topV :: .bool false :: topV :: topV :: topV :: topV :: topV :: topV :: topV :: topV :: topV :: topV :: topV :: topV :: topV :: topV :: topV :: topV :: topV :: topV :: topV :: topV :: topV :: topV :: topV :: topV :: topV :: topV :: topV :: topV :: topV :: topV :: topV :: []), [some ⟨.view, .ints xs⟩, none, some ⟨.box, .vals [.int .i64 x, .int .i64 y]⟩]⟩
set_option maxRecDepth 100000 in
theorem tr_iIr (n : Nat) (xs : List Int) (x y : Int) (i : Nat) : bodyL Try.prog EHf2 30 12 noL 1 c_iIr k_iIr 3 (s_iIr n xs x y i) = brT (decide ((↑i : Int) < (↑n : Int))) (.need ((0 : Int) ≤ (↑i : Int) ∧ (↑i : Int) < (↑n : Int)) (.need ((0 : Nat) + (↑i : Int).toNat * (3 : Nat) + (3 : Nat) ≤ xs.length) (brT (decide (xs.getD (0 + (↑i : Int).toNat * 3 + 1 + 1) 0 < IntKind.i64.wrap (IntKind.i64.wrap (xs.getD (0 + (↑i : Int).toNat * 3) 0 * x) + IntKind.i64.wrap (xs.getD (0 + (↑i : Int).toNat * 3 + 1) 0 * y)))) (.leaf .ret ⟨(topV :: topV :: topV :: topV :: .bool (false) :: topV :: topV :: topV :: topV :: topV :: topV :: topV :: topV :: topV :: topV :: topV :: topV :: topV :: topV :: topV :: topV :: topV :: topV :: topV :: topV :: topV :: topV :: topV :: topV :: topV :: topV :: topV :: topV :: topV :: topV :: topV :: []), [some ⟨.view, .ints (xs)⟩, none, some ⟨.box, .vals [.int .i64 (x), .int .i64 (y)]⟩]⟩) (.leaf .normal ⟨(topV :: topV :: topV :: .pointer (some ⟨2, 0, none⟩) :: topV :: topV :: topV :: topV :: topV :: topV :: topV :: topV :: topV :: topV :: topV :: .slice (some ⟨0, 0, none⟩) (n) (n) :: .int .i64 ((↑n : Int)) :: .int .i64 (IntKind.i64.wrap ((↑i : Int) + 1)) :: topV :: topV :: topV :: topV :: topV :: topV :: topV :: topV :: topV :: topV :: topV :: topV :: topV :: topV :: topV :: topV :: topV :: topV :: []), [some ⟨.view, .ints (xs)⟩, none, some ⟨.box, .vals [.int .i64 (x), .int .i64 (y)]⟩]⟩)))) (.leaf (.exit 0) ⟨(topV :: topV :: topV :: topV :: topV :: topV :: topV :: topV :: topV :: topV :: topV :: topV :: topV :: topV :: topV :: topV :: topV :: topV :: topV :: topV :: topV :: topV :: topV :: topV :: topV :: topV :: topV :: topV :: topV :: topV :: topV :: topV :: topV :: topV :: topV :: topV :: []), [some ⟨.view, .ints (xs)⟩, none, some ⟨.box, .vals [.int .i64 (x), .int .i64 (y)]⟩]⟩) := by kernel_rfl
set_option maxRecDepth 100000 in
theorem nl_iIr : loopsOf c_iIr = [] := by kernel_rfl
def inv_iIr (n : Nat) (xs : List Int) (x y : Int) : Nat → Prop := fun i => i ≤ n
def me_iIr (n : Nat) (xs : List Int) (x y : Int) : Nat → Nat := fun i => n - i
/-- A round of this loop. -/
def Round_iIr (n : Nat) (xs : List Int) (x y : Int) : Prop := ∀ xx : Nat, inv_iIr n xs x y xx → (bodyL Try.prog EHf2 30 12 noL 1 c_iIr k_iIr 3 (s_iIr n xs x y xx)).ok (RoundEnd 3 (s_iIr n xs x y) (inv_iIr n xs x y) (me_iIr n xs x y) (re_iIr n xs x y) (rs_iIr n xs x y) xx) (fun _ _ => False)
def e_iIr (s : St) (k : Ex → St → Tree) : Option Tree := match Nat.beq s.tmps.length 36, pickL s.tmps [3, 15, 16, 17], s.mem with
  | true, [.pointer (some ⟨2, 0, none⟩), .slice (some ⟨0, 0, none⟩) n _, .int .i64 n3, .int .i64 i], [some ⟨.view, .ints xs⟩, none, some ⟨.box, .vals [.int .i64 x, .int .i64 y]⟩] => some (needs [i = 0, n3 = n, xs.length = n * 3, n ≤ 1000000000, allQ (hfQ xs) 0 n = true, ptB x y = true] (brT (allQ (inQ xs x y) 0 n) (k (.exit 0) ⟨(topV :: topV :: topV :: topV :: topV :: topV :: topV :: topV :: topV :: topV :: topV :: topV :: topV :: topV :: topV :: topV :: topV :: topV :: topV :: topV :: topV :: topV :: topV :: topV :: topV :: topV :: topV :: topV :: topV :: topV :: topV :: topV :: topV :: topV :: topV :: topV :: []), [some ⟨.view, .ints xs⟩, none, some ⟨.box, .vals [.int .i64 x, .int .i64 y]⟩]⟩) (k .ret ⟨(topV :: topV :: topV :: topV :: .bool false :: topV :: topV :: topV :: topV :: topV :: topV :: topV :: topV :: topV :: topV :: topV :: topV :: topV :: topV :: topV :: topV :: topV :: topV :: topV :: topV :: topV :: topV :: topV :: topV :: topV :: topV :: topV :: topV :: topV :: topV :: topV :: []), [some ⟨.view, .ints xs⟩, none, some ⟨.box, .vals [.int .i64 x, .int .i64 y]⟩]⟩)))
  | _, _, _ => none
set_option maxRecDepth 100000 in
theorem round_iIr (n : Nat) (xs : List Int) (x y : Int) (hx : xs.length = n * 3) (h : n ≤ 1000000000) (hv : allQ (hfQ xs) 0 n = true) (hp : ptB x y = true) : Round_iIr n xs x y := by
  intro i h1
  have h1 : i ≤ n := h1
  rw [tr_iIr]
  simp only [brT_ok, Tree.ok, decide_eq_true_eq, decide_eq_false_iff_not, Int.toNat_natCast, Nat.zero_add, Nat.add_zero]
  have bp : -1000 ≤ x ∧ x ≤ 1000 ∧ -1000 ≤ y ∧ y ≤ 1000 := by simpa [ptB, and_assoc] using hp
  refine ⟨fun hlt => ?_, fun hge => ?_⟩
  · have bq := allQ_get n 0 hv i (by omega) (by omega)
    have bq : ((-2000 ≤ xs.getD (i * 3) 0 ∧ xs.getD (i * 3) 0 ≤ 2000) ∧ (-2000 ≤ xs.getD (i * 3 + 1) 0 ∧ xs.getD (i * 3 + 1) 0 ≤ 2000)) := by
      unfold hfQ hfB at bq
      simp only [Bool.and_eq_true, decide_eq_true_eq] at bq
      omega
    have m1 := mul_bd (x := xs.getD (i * 3) 0) (y := x) 2000 1000 bq.1 (by omega)
    have m2 := mul_bd (x := xs.getD (i * 3 + 1) 0) (y := y) 2000 1000 bq.2 (by omega)
    rw [wsucc (n := n) (by omega) h]
    have w1 : IntKind.i64.wrap (xs.getD (i * 3) 0 * x) = xs.getD (i * 3) 0 * x := wr (by omega)
    have w2 : IntKind.i64.wrap (xs.getD (i * 3 + 1) 0 * y) = xs.getD (i * 3 + 1) 0 * y := wr (by omega)
    have w3 : IntKind.i64.wrap (xs.getD (i * 3) 0 * x + xs.getD (i * 3 + 1) 0 * y) = xs.getD (i * 3) 0 * x + xs.getD (i * 3 + 1) 0 * y := wr (by omega)
    simp only [w1, w2, w3, show i * 3 + 1 + 1 = i * 3 + 2 from rfl]
    refine ⟨by omega, by omega, fun hgt => ?_, fun hle => ?_⟩
    · have e : allQ (inQ xs x y) i (n - i) = false := by
        rw [allQ_step (by omega)]
        have : inQ xs x y i = false := by unfold inQ; rw [decide_eq_false_iff_not]; omega
        rw [this, Bool.false_and]
      refine ⟨by simp only [re_iIr, e, cond_false], [], ?_⟩
      simp only [rs_iIr, e, cond_false]
      repeat' (first | exact True.intro | exact rfl | exact fun _ => rfl | refine And.intro ?_ ?_)
    · have e : allQ (inQ xs x y) i (n - i) = allQ (inQ xs x y) (i + 1) (n - (i + 1)) := by
        rw [allQ_step (by omega)]
        have : inQ xs x y i = true := by unfold inQ; rw [decide_eq_true_eq]; omega
        rw [this, Bool.true_and]
      refine ⟨i + 1, [], ?_, ?_, by simp only [re_iIr, e], by simp only [rs_iIr, e], ?_⟩
      · show i + 1 ≤ n; omega
      · show n - (i + 1) < n - i; omega
      · repeat' (first | exact True.intro | exact rfl | exact fun _ => rfl | refine And.intro ?_ ?_)
  · have e : allQ (inQ xs x y) i (n - i) = true := allQ_end (by omega)
    refine ⟨by simp only [re_iIr, e, cond_true], [], ?_⟩
    simp only [rs_iIr, e, cond_true]
    repeat' (first | exact True.intro | exact rfl | exact fun _ => rfl | refine And.intro ?_ ?_)
set_option maxRecDepth 100000 in
theorem lg_iIr : LoopE Try.prog e_iIr c_iIr := by
  intro s k t F H hlt ht
  unfold e_iIr at hlt
  split at hlt
  rotate_left
  · cases hlt
  rename_i hlen hpick hmem
  obtain ⟨tmps, mem⟩ := s
  simp only at hlen hpick hmem
  subst hmem
  obtain rfl := Option.some.inj hlt
  obtain ⟨⟨rfl, rfl, h1, h2, h3, h4, _⟩, ht2⟩ := needs_ok ht
  clear ht hlt
  refine ⟨_, _, pick2k ht2, loop_run mixed EHf2_ok (s_iIr _ _ _ _) (inv_iIr _ _ _ _) (me_iIr _ _ _ _) (re_iIr _ _ _ _) (rs_iIr _ _ _ _) k_iIr (fun _ => rfl) (noLoops nl_iIr) (round_iIr _ _ _ _ h1 h2 h3 h4) (x := 0) (Nat.zero_le _) (π := []) rfl ?_⟩
  refine ⟨rfl, rfl, ?_, wvs_spread' [3, 15, 16, 17] hlen rfl ?_⟩
  · repeat' (first | exact True.intro | exact rfl | exact wv_top _ _ | exact fun _ => rfl | assumption | exact Eq.symm (by assumption) | exact vI0 rfl | refine And.intro ?_ ?_)
  · rw [hpick]
    repeat' (first | exact True.intro | exact rfl | exact wv_top _ _ | exact fun _ => rfl | assumption | exact Eq.symm (by assumption) | exact vI0 rfl | refine And.intro ?_ ?_)
theorem Lr_sIr {fn : Func} (hf : Try.prog.funcs[119]? = some fn) : LoopsGood Try.prog (lt1 e_sIr) 0 (codeOf fn) := by
  obtain rfl := fn_is Try.func119 hf
  exact lt1_good lg_sIr
theorem Lr_iIr {fn : Func} (hf : Try.prog.funcs[58]? = some fn) : LoopsGood Try.prog (lt1 e_iIr) 0 (codeOf fn) := by
  obtain rfl := fn_is Try.func58 hf
  exact lt1_good lg_iIr
def LIr : FuncId → LT := fun f => match f with
  | 119 => lt1 e_sIr
  | 58 => lt1 e_iIr
  | _ => noL
def EIr : Env := mkE THf2 (fun _ _ => none) LIr
theorem EIr_ok : EnvOk Try.prog EIr := mkEOk THf2_ok (fun _ _ _ _ _ h => (by cases h)) (by
  intro f fn hf
  unfold LIr
  split
  all_goals first | with_reducible exact Lr_sIr hf | with_reducible exact Lr_iIr hf | exact noL_good)
set_option maxRecDepth 100000 in
theorem tr_iIrF (n : Nat) (xs : List Int) (x y : Int) : bodyV Try.prog EIr 30 12 58 [.row n (.ints xs), .v (.agg #[iv x, iv y])] = .need ((List.drop (0 : Nat) xs).length = n * (3 : Nat)) (.need (Lim n) (brT (!vhB n (List.drop 0 xs)) (.fin (.bool (false)) []) (brT (!ptB x y) (.fin (.bool (false)) []) (.need ((0 : Int) = (0 : Int)) (.need ((↑n : Int) = (↑n : Int)) (.need (xs.length = n * (3 : Nat)) (.need (n ≤ (1000000000 : Nat)) (.need (allQ (hfQ xs) (0 : Nat) n = true) (.need (ptB x y = true) (brT (allQ (inQ xs x y) 0 n) (.fin (.bool (true)) []) (.fin (.bool (false)) []))))))))))) := by kernel_rfl
set_option maxRecDepth 100000 in
theorem tr_sIr0 (n : Nat) (xs : List Int) (x y : Int) : bodyV Try.prog EIr 30 12 119 [.row n (.ints xs), .v (.agg #[iv x, iv y])] = .need ((0 : Int) = (0 : Int)) (.need (xs.length = n * (3 : Nat)) (.need (n ≤ (1000000000 : Nat)) (.need (allQ (hfQ xs) (0 : Nat) n = true) (.need (ptB x y = true) (brT (allQ (inQ xs x y) 0 n) (.fin (.bool (true)) []) (.fin (.bool (false)) [])))))) := by kernel_rfl
theorem res_sIr0 (n : Nat) (xs : List Int) (x y : Int) (hx : xs.length = n * 3) (h : Lim n) (hv : allQ (hfQ xs) 0 n = true) (hp : ptB x y = true) : Res Try.prog 119 [.row n (.ints xs), .v (.agg #[iv x, iv y])] (.bool (allQ (inQ xs x y) 0 n)) := by
  refine bodyV_res mixed EIr_ok (m := 30) (n := 12) rfl ?_
  rw [tr_sIr0]
  refine ⟨rfl, hx, h, hv, hp, ?_⟩
  cases allQ (inQ xs x y) 0 n <;> rfl
def pIr0 : List DArg → Option (Value × List Prop)
  | [.row n (.ints xs), .v (.agg ⟨[.int .i64 x, .int .i64 y]⟩)] => some (.bool (allQ (inQ xs x y) 0 n), [xs.length = n * 3, Lim n, allQ (hfQ xs) 0 n = true, ptB x y = true])
  | _ => none
theorem pIr0_ok {ds : List DArg} {v : Value} {C : List Prop} (h : pIr0 ds = some (v, C)) (hC : AllP C) : Res Try.prog 119 ds v := by
  unfold pIr0 at h
  split at h
  · obtain ⟨rfl, rfl⟩ : _ ∧ _ := by simpa using h
    exact res_sIr0 _ _ _ _ hC.1 hC.2.1 hC.2.2.1 hC.2.2.2.1
  · cases h
def TIr : Tab := fun f ds => match f with
  | 119 => pIr0 ds
  | f => THf2 f ds
theorem TIr_ok : TabOk Try.prog TIr := by
  intro f ds v C h hC
  unfold TIr at h
  split at h
  all_goals first | with_reducible exact pIr0_ok h hC | exact THf2_ok _ _ _ _ h hC
set_option maxRecDepth 100000 in
theorem tr_sIrF (n : Nat) (xs : List Int) (x y : Int) : bodyV Try.prog (tabE TIr) 30 12 56 [.row n (.ints xs), .v (.agg #[iv x, iv y])] = .need ((List.drop (0 : Nat) xs).length = n * (3 : Nat)) (.need (Lim n) (brT (vhB n (List.drop 0 xs)) (brT (ptB x y) (.need ((List.drop (0 : Nat) xs).length = n * (3 : Nat)) (.need (Lim n) (.need (allQ (hfQ (List.drop (0 : Nat) xs)) (0 : Nat) n = true) (.need (ptB x y = true) (.fin (.bool (allQ (inQ (List.drop 0 xs) x y) 0 n)) []))))) (.fin (.bool (false)) [])) (.fin (.bool (false)) []))) := by kernel_rfl
/-- Is a point in the region? -/
def irB (n : Nat) (xs : List Int) (x y : Int) : Bool := vhB n xs && ptB x y && allQ (inQ xs x y) 0 n
theorem res_sIr (n : Nat) (xs : List Int) (x y : Int) (hx : xs.length = n * 3) (h : Lim n) : Res Try.prog 56 [.row n (.ints xs), .v (.agg #[iv x, iv y])] (.bool (irB n xs x y)) := by
  refine bodyV_res mixed (tabE_ok TIr_ok) (m := 30) (n := 12) rfl ?_
  rw [tr_sIrF]
  unfold irB
  simp only [List.drop_zero]
  rcases hv : vhB n xs with _ | _
  · simp [brT_ok, Tree.ok, hx, h]
  have ha : allQ (hfQ xs) 0 n = true := by unfold vhB at hv; simp only [Bool.and_eq_true] at hv; exact hv.1
  rcases hp : ptB x y with _ | _
  · simp [brT_ok, Tree.ok, hx, h]
  cases allQ (inQ xs x y) 0 n <;> simp [brT_ok, Tree.ok, hx, h, ha]
theorem res_iIr (n : Nat) (xs : List Int) (x y : Int) (hx : xs.length = n * 3) (h : Lim n) : Res Try.prog 58 [.row n (.ints xs), .v (.agg #[iv x, iv y])] (.bool (irB n xs x y)) := by
  refine bodyV_res mixed EIr_ok (m := 30) (n := 12) rfl ?_
  rw [tr_iIrF]
  unfold irB
  simp only [List.drop_zero]
  rcases hv : vhB n xs with _ | _
  · simp [brT_ok, Tree.ok, hx, h]
  have ha : allQ (hfQ xs) 0 n = true := by unfold vhB at hv; simp only [Bool.and_eq_true] at hv; exact hv.1
  rcases hp : ptB x y with _ | _
  · simp [brT_ok, Tree.ok, hx, h]
  have h' : n ≤ 1000000000 := h
  cases allQ (inQ xs x y) 0 n <;> simp [brT_ok, Tree.ok, hx, h, h', ha]
def pIr : List DArg → Option (Value × List Prop)
  | [.row n (.ints xs), .v (.agg ⟨[.int .i64 x, .int .i64 y]⟩)] => some (.bool (irB n xs x y), [xs.length = n * 3, Lim n])
  | _ => none
theorem pIrs_ok {ds : List DArg} {v : Value} {C : List Prop} (h : pIr ds = some (v, C)) (hC : AllP C) : Res Try.prog 56 ds v := by
  unfold pIr at h
  split at h
  · obtain ⟨rfl, rfl⟩ : _ ∧ _ := by simpa using h
    exact res_sIr _ _ _ _ hC.1 hC.2.1
  · cases h
theorem pIri_ok {ds : List DArg} {v : Value} {C : List Prop} (h : pIr ds = some (v, C)) (hC : AllP C) : Res Try.prog 58 ds v := by
  unfold pIr at h
  split at h
  · obtain ⟨rfl, rfl⟩ : _ ∧ _ := by simpa using h
    exact res_iIr _ _ _ _ hC.1 hC.2.1
  · cases h
def TIr2 : Tab := fun f ds => match f with
  | 56 => pIr ds
  | 58 => pIr ds
  | f => THf2 f ds
theorem TIr2_ok : TabOk Try.prog TIr2 := by
  intro f ds v C h hC
  unfold TIr2 at h
  split at h
  all_goals first | with_reducible exact pIrs_ok h hC | with_reducible exact pIri_ok h hC | exact THf2_ok _ _ _ _ h hC
def EIr2 : Env := mkE TIr2 RHf (fun _ => noL)
theorem EIr2_ok : EnvOk Try.prog EIr2 := mkEOk TIr2_ok RHf_ok (fun _ _ _ => noL_good)
set_option maxRecDepth 100000 in
theorem tr_exIr (n : Nat) (xs : List Int) (x y : Int) : bodyV Try.prog EIr2 30 12 12 [.row n (.ints xs), .v (.agg #[iv x, iv y])] = brT (decide (IntKind.i64.wrap (1048576 - (↑n : Int)) < 0)) (.fin (.bool (true)) []) (brT (decide (IntKind.i64.wrap (1048576 - (↑n : Int)) < 0)) (.fin (.bool (true)) []) (.need ((List.drop (0 : Nat) xs).length = n * (3 : Nat)) (.need (Lim n) (.need ((List.drop (0 : Nat) (List.drop (0 : Nat) xs)).length = n * (3 : Nat)) (.need (Lim n) (.need ((List.drop (0 : Nat) xs).length = n * (3 : Nat)) (.need (Lim n) (.need ((List.drop (0 : Nat) (List.drop (0 : Nat) xs)).length = n * (3 : Nat)) (.need (Lim n) (brT (!irB n (List.drop 0 (List.drop 0 xs)) x y == irB n (List.drop 0 (List.drop 0 xs)) x y) (.fin (.bool (false)) []) (.need ((List.drop (0 : Nat) xs).length = n * (3 : Nat)) (.need (Lim n) (.need (n = n) (.need (List.drop (0 : Nat) (List.drop (0 : Nat) xs) = List.drop (0 : Nat) (List.drop (0 : Nat) xs)) (.need ((List.drop (0 : Nat) (List.drop (0 : Nat) xs)).length = n * (3 : Nat)) (.need (Lim n) (.fin (.bool (true)) []))))))))))))))))) := by kernel_rfl
theorem ExactInRegion_res (n : Nat) (xs : List Int) (x y : Int) (hx : xs.length = n * 3) (h : (n : Int) ≤ 9223372036854775807) : Res Try.prog 12 [.row n (.ints xs), .v (.agg #[iv x, iv y])] (.bool true) := by
  refine bodyV_res mixed EIr2_ok (m := 30) (n := 12) rfl ?_
  rw [tr_exIr]
  simp only [List.drop_zero]
  by_cases hl : (1048576 : Int) - n < 0
  · simp (disch := omega) only [wr]
    simp only [hl, decide_true, brT_t, Tree.ok]
  · have hP : Lim n := by unfold Lim; omega
    simp (disch := omega) only [wr]
    simp only [hl, decide_false, brT_f, Tree.ok, beq_self_eq_true, Bool.not_true]
    repeat' (first | exact True.intro | assumption | omega | exact rfl | refine And.intro ?_ ?_)
end Go.Proofs.Ytfjcbindeimoiab
