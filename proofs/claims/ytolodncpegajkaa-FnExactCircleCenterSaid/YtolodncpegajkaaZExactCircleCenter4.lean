/-
  Texts that the proof needs, merged. Written by an AI agent.
-/
import Derived.Orders
import Derived.Below
import Derived.OrdersIn
import Derived.Deep.LoopGhost
import Derived.WalkKit
import Derived.Laws.CopyRow
import Derived.Laws.AppendOwn
import Derived.Laws.Slices
import Derived.Laws.MakeOwn
import Derived.Test.YtolodncpegajkaaRows
import Derived.ProofKit
import Derived.OpenShut
import Derived.Carry
import Derived.IntWalk
import Derived.Test.YtolodncpegajkaaProg
import Derived.WalkSpells
import Derived.WalkLawsBesides
import Derived.Lib.Hide
import Derived.Deep.QuietTactic
import Derived.BigQuiet
import Derived.KernelRfl
import Derived.Deep.RegionHeld3
import Derived.LoopTactic
import Derived.Laws.StructEq
import Derived.Laws.Tables
import Derived.RangeFuncNested
import Derived.RangeFuncLeaves
import Derived.Deep.Slices
import Derived.Deep.Fields
import Derived.ChangeSame
import Derived.Test.YtolodncpegajkaaZExactCircleCenter3
namespace Go.Proofs.Ytolodncpegajkaa
set_option linter.all false
open Go.RowKit
def pInS : List DArg → Option (Value × List Prop)
  | [.row n (.ints xs), .row m (.ints ks), .v (.agg ⟨[.int .i64 x, .int .i64 y]⟩)] => some (.bool (inS (ptsA n xs) ks x y), [n * 2 ≤ xs.length, ks.length = m, allV (ptsA n xs) = true, idK n ks, 1 ≤ m, m ≤ 3, ptB x y = true])
  | _ => none
theorem pInS_ok {ds : List DArg} {v : Value} {C : List Prop} (h : pInS ds = some (v, C)) (hC : AllP C) : Res Try.prog 142 ds v := by
  unfold pInS at h
  split at h
  · obtain ⟨rfl, rfl⟩ : _ ∧ _ := by simpa using h
    obtain ⟨h1, rfl, h3, h4, h5, h6, h7, _⟩ := hC
    obtain ⟨_, h2⟩ := ptsA_spec h1
    exact res_pts1 (pre := []) (post := [_, _]) h1 (res_inS _ _ _ _ h3 (by rw [h2]; exact h4) h5 h6 h7)
  · cases h
def TCc : Tab := fun f ds => match f with
  | 142 => pInS ds
  | 208 => pAen ds
  | f => TCb f ds
theorem TCc_ok : TabOk Try.prog TCc := by
  intro f ds v C h hC
  unfold TCc at h
  (try split at h)
  all_goals first | with_reducible exact pInS_ok h hC | with_reducible exact pAen_ok h hC | exact TCb_ok _ _ _ _ h hC
def cMs : List FuncId := [204, 206, 208]
theorem cMs_ok : ∀ f ∈ cMs, enters Try.prog f := by
  intro f hf
  simp only [cMs, List.mem_cons, List.not_mem_nil, or_false] at hf
  rcases hf with rfl | rfl | rfl
  · exact (res_pEn 0 0 0 0).1
  · exact (res_dEn 0 0 0 0 0 0 ⟨rfl, rfl, rfl⟩).1
  · exact (res_aEn 0 0 0 0 0 0 0 0 ⟨rfl, rfl, rfl, rfl⟩).1
def ECc0 : Env := withP cMs (mkE TCc (fun _ _ => none) (fun _ => noL))
theorem ECc0_ok : EnvOk Try.prog ECc0 := withP_ok (mkEOk TCc_ok (fun _ _ _ _ _ h => (by cases h)) (fun _ _ _ => noL_good)) cMs_ok
def pA (L : Int) (xs : List Int) (k : Nat) : Bool := decide (0 ≤ xs.getD k 0 ∧ xs.getD k 0 < L)
def pB (xs : List Int) (k : Nat) : Bool := decide (xs.getD (k - 1) 0 < xs.getD k 0)
def pC (L : Int) (xs : List Int) (k : Nat) : Bool := pA L xs k && (decide (k = 0) || pB xs k)
def pE (ps : List Pt) (ks : List Int) (k : Nat) : Bool := inS ps ks (ps.getD k (0, 0)).1 (ps.getD k (0, 0)).2
noncomputable def c_aiL : Code := ((loopsOf (codeOf Try.f137))[0]?).getD .skip
def k_aiL : Ex → List Nat := keeps [1, 7, 8, 9] [(0, [])] [4]
def s_aiL (xs : List Int) (L : Int) : Nat → St := fun i => ⟨[topV, .int .i64 L, topV, topV, topV, topV, topV, .slice (some ⟨0, 0, none⟩) xs.length xs.length, .int .i64 xs.length, .int .i64 i, topV, topV, topV, topV, topV, topV, topV, topV, topV, topV, topV], [some ⟨.view, .ints xs⟩, none]⟩
def re_aiL (xs : List Int) (L : Int) : Nat → Ex := fun i => bif aF (pA L xs) xs.length i then .exit 0 else .ret
def rs_aiL (xs : List Int) (L : Int) : Nat → St := fun i => bif aF (pA L xs) xs.length i then ⟨[topV, topV, topV, topV, topV, topV, topV, topV, topV, topV, topV, topV, topV, topV, topV, topV, topV, topV, topV, topV, topV], [some ⟨.view, .ints xs⟩, none]⟩ else ⟨[topV, topV, topV, topV, .bool false, topV, topV, topV, topV, topV, topV, topV, topV, topV, topV, topV, topV, topV, topV, topV, topV], [some ⟨.view, .ints xs⟩, none]⟩
set_option maxRecDepth 100000 in
theorem tr_aiL (xs : List Int) (L : Int) (i : Nat) : bodyL Try.prog ECc0 30 12 noL 1 c_aiL k_aiL 2 (s_aiL xs L i) = brT (decide ((↑i : Int) < (↑xs.length : Int))) (.need ((0 : Int) ≤ (↑i : Int) ∧ (↑i : Int) < (↑xs.length : Int)) (.need ((0 : Nat) + (↑i : Int).toNat * (1 : Nat) < xs.length) (brT (decide (xs.getD (0 + (↑i : Int).toNat * 1) 0 < 0)) (.leaf .ret ⟨[topV, topV, topV, topV, .bool (false), topV, topV, topV, topV, topV, topV, topV, topV, topV, topV, topV, topV, topV, topV, topV, topV], [some ⟨.view, .ints (xs)⟩, none]⟩) (brT (decide (L ≤ xs.getD (0 + (↑i : Int).toNat * 1) 0)) (.leaf .ret ⟨[topV, topV, topV, topV, .bool (false), topV, topV, topV, topV, topV, topV, topV, topV, topV, topV, topV, topV, topV, topV, topV, topV], [some ⟨.view, .ints (xs)⟩, none]⟩) (.leaf .normal ⟨[topV, .int .i64 (L), topV, topV, topV, topV, topV, .slice (some ⟨0, 0, none⟩) (xs.length) (xs.length), .int .i64 ((↑xs.length : Int)), .int .i64 (IntKind.i64.wrap ((↑i : Int) + 1)), topV, topV, topV, topV, topV, topV, topV, topV, topV, topV, topV], [some ⟨.view, .ints (xs)⟩, none]⟩))))) (.leaf (.exit 0) ⟨[topV, topV, topV, topV, topV, topV, topV, topV, topV, topV, topV, topV, topV, topV, topV, topV, topV, topV, topV, topV, topV], [some ⟨.view, .ints (xs)⟩, none]⟩) := by kernel_rfl
set_option maxRecDepth 100000 in
theorem nl_aiL : loopsOf c_aiL = [] := by kernel_rfl
def inv_aiL (xs : List Int) (L : Int) : Nat → Prop := fun i => i ≤ xs.length
def me_aiL (xs : List Int) (L : Int) : Nat → Nat := fun i => xs.length - i
/-- A round of this loop. -/
def Round_aiL (xs : List Int) (L : Int) : Prop := ∀ xx : Nat, inv_aiL xs L xx → (bodyL Try.prog ECc0 30 12 noL 1 c_aiL k_aiL 2 (s_aiL xs L xx)).ok (RoundEnd 2 (s_aiL xs L) (inv_aiL xs L) (me_aiL xs L) (re_aiL xs L) (rs_aiL xs L) xx) (fun _ _ => False)
def e_aiL (s : St) (k : Ex → St → Tree) : Option Tree := match Nat.beq s.tmps.length 21, pickL s.tmps [1, 7, 8, 9], s.mem with
  | true, [.int .i64 L, .slice (some ⟨0, 0, none⟩) n _, .int .i64 l, .int .i64 ii], [some ⟨.view, .ints xs⟩, none] => some (needs [ii = 0, l = n, xs.length = n, n ≤ 1000000000] (brT (aF (pA L xs) n 0) (k (.exit 0) ⟨[topV, topV, topV, topV, topV, topV, topV, topV, topV, topV, topV, topV, topV, topV, topV, topV, topV, topV, topV, topV, topV], [some ⟨.view, .ints xs⟩, none]⟩) (k .ret ⟨[topV, topV, topV, topV, .bool false, topV, topV, topV, topV, topV, topV, topV, topV, topV, topV, topV, topV, topV, topV, topV, topV], [some ⟨.view, .ints xs⟩, none]⟩)))
  | _, _, _ => none
set_option maxRecDepth 100000 in
theorem round_aiL (xs : List Int) (L : Int) (h : xs.length ≤ 1000000000) : Round_aiL xs L := by
  intro i h1
  have h1 : i ≤ xs.length := h1
  rw [tr_aiL]
  simp only [brT_ok, Tree.ok, decide_eq_true_eq, decide_eq_false_iff_not, Int.toNat_natCast, Nat.zero_add, Nat.add_zero, Nat.mul_one]
  refine ⟨fun hlt => ?_, fun hge => ?_⟩
  · rw [wsucc (n := xs.length) (by omega) h]
    have hs := aF_step (p := pA L xs) (n := xs.length) (i := i) (by omega)
    refine ⟨by omega, by omega, fun g0 => ?_, fun g0 => ⟨fun g1 => ?_, fun g1 => ?_⟩⟩
    · have e : aF (pA L xs) xs.length i = false := by
        rw [hs, show pA L xs i = false from decide_eq_false (by omega), Bool.false_and]
      refine ⟨by simp only [re_aiL, e, cond_false], [], ?_⟩
      simp only [rs_aiL, e, cond_false]
      repeat' (first | exact True.intro | exact rfl | exact fun _ => rfl | (simp; done) | refine And.intro ?_ ?_)
    · have e : aF (pA L xs) xs.length i = false := by
        rw [hs, show pA L xs i = false from decide_eq_false (by omega), Bool.false_and]
      refine ⟨by simp only [re_aiL, e, cond_false], [], ?_⟩
      simp only [rs_aiL, e, cond_false]
      repeat' (first | exact True.intro | exact rfl | exact fun _ => rfl | (simp; done) | refine And.intro ?_ ?_)
    · have e : aF (pA L xs) xs.length i = aF (pA L xs) xs.length (i + 1) := by
        rw [hs, show pA L xs i = true from decide_eq_true (by omega), Bool.true_and]
      refine ⟨i + 1, [], ?_, ?_, by simp only [re_aiL, e], by simp only [rs_aiL, e], ?_⟩
      · show i + 1 ≤ xs.length; omega
      · show xs.length - (i + 1) < xs.length - i; omega
      · repeat' (first | exact True.intro | exact rfl | exact fun _ => rfl | (simp; done) | refine And.intro ?_ ?_)
  · have e : aF (pA L xs) xs.length i = true := aF_end (by omega)
    refine ⟨by simp only [re_aiL, e, cond_true], [], ?_⟩
    simp only [rs_aiL, e, cond_true]
    repeat' (first | exact True.intro | exact rfl | exact fun _ => rfl | (simp; done) | refine And.intro ?_ ?_)
set_option maxRecDepth 100000 in
theorem lg_aiL : LoopE Try.prog e_aiL c_aiL := by
  intro s k t F H hlt ht
  unfold e_aiL at hlt
  split at hlt
  rotate_left
  · cases hlt
  rename_i hlen hpick hmem
  obtain ⟨tmps, mem⟩ := s
  simp only at hlen hpick hmem
  subst hmem
  obtain rfl := Option.some.inj hlt
  obtain ⟨⟨rfl, rfl, h1, h2, _⟩, ht2⟩ := needs_ok ht
  clear ht hlt
  subst h1
  refine ⟨_, _, pick2k ht2, loop_run mixed ECc0_ok (s_aiL _ _) (inv_aiL _ _) (me_aiL _ _) (re_aiL _ _) (rs_aiL _ _) k_aiL (fun _ => rfl) (noLoops nl_aiL) (round_aiL _ _ h2) (x := 0) (Nat.zero_le _) (π := []) rfl ?_⟩
  refine ⟨rfl, rfl, ?_, wvs_spread' [1, 7, 8, 9] hlen rfl ?_⟩
  · repeat' (first | exact True.intro | exact rfl | exact wv_top _ _ | exact fun _ => rfl | assumption | exact Eq.symm (by assumption) | exact vI0 rfl | refine And.intro ?_ ?_)
  · rw [hpick]
    repeat' (first | exact True.intro | exact rfl | exact wv_top _ _ | exact fun _ => rfl | assumption | exact Eq.symm (by assumption) | exact vI0 rfl | refine And.intro ?_ ?_)
noncomputable def c_aaL : Code := ((loopsOf (codeOf Try.f143))[0]?).getD .skip
def k_aaL : Ex → List Nat := keeps [0, 3] [(0, [])] [2]
def s_aaL (xs : List Int) : Nat → St := fun i => ⟨[.slice (some ⟨0, 0, none⟩) xs.length xs.length, topV, topV, .int .i64 i, topV, topV, topV, topV, topV, topV, topV, topV, topV, topV, topV, topV, topV, topV, topV, topV], [some ⟨.view, .ints xs⟩]⟩
def re_aaL (xs : List Int) : Nat → Ex := fun i => bif aF (pB xs) xs.length i then .exit 0 else .ret
def rs_aaL (xs : List Int) : Nat → St := fun i => bif aF (pB xs) xs.length i then ⟨[topV, topV, topV, topV, topV, topV, topV, topV, topV, topV, topV, topV, topV, topV, topV, topV, topV, topV, topV, topV], [some ⟨.view, .ints xs⟩]⟩ else ⟨[topV, topV, .bool false, topV, topV, topV, topV, topV, topV, topV, topV, topV, topV, topV, topV, topV, topV, topV, topV, topV], [some ⟨.view, .ints xs⟩]⟩
set_option maxRecDepth 100000 in
theorem tr_aaL (xs : List Int) (i : Nat) : bodyL Try.prog ECc0 30 12 noL 1 c_aaL k_aaL 1 (s_aaL xs i) = brT (decide ((↑i : Int) < (↑xs.length : Int))) (.need ((0 : Int) ≤ IntKind.i64.wrap ((↑i : Int) - (1 : Int)) ∧ IntKind.i64.wrap ((↑i : Int) - (1 : Int)) < (↑xs.length : Int)) (.need ((0 : Nat) + (IntKind.i64.wrap ((↑i : Int) - (1 : Int))).toNat * (1 : Nat) < xs.length) (.need ((0 : Int) ≤ (↑i : Int) ∧ (↑i : Int) < (↑xs.length : Int)) (.need ((0 : Nat) + (↑i : Int).toNat * (1 : Nat) < xs.length) (brT (decide (xs.getD (0 + (↑i : Int).toNat * 1) 0 ≤ xs.getD (0 + (IntKind.i64.wrap ((↑i : Int) - 1)).toNat * 1) 0)) (.leaf .ret ⟨[topV, topV, .bool (false), topV, topV, topV, topV, topV, topV, topV, topV, topV, topV, topV, topV, topV, topV, topV, topV, topV], [some ⟨.view, .ints (xs)⟩]⟩) (.leaf .normal ⟨[.slice (some ⟨0, 0, none⟩) (xs.length) (xs.length), topV, topV, .int .i64 (IntKind.i64.wrap ((↑i : Int) + 1)), topV, topV, topV, topV, topV, topV, topV, topV, topV, topV, topV, topV, topV, topV, topV, topV], [some ⟨.view, .ints (xs)⟩]⟩)))))) (.leaf (.exit 0) ⟨[topV, topV, topV, topV, topV, topV, topV, topV, topV, topV, topV, topV, topV, topV, topV, topV, topV, topV, topV, topV], [some ⟨.view, .ints (xs)⟩]⟩) := by kernel_rfl
set_option maxRecDepth 100000 in
theorem nl_aaL : loopsOf c_aaL = [] := by kernel_rfl
def inv_aaL (xs : List Int) : Nat → Prop := fun i => 1 ≤ i
def me_aaL (xs : List Int) : Nat → Nat := fun i => xs.length - i
/-- A round of this loop. -/
def Round_aaL (xs : List Int) : Prop := ∀ xx : Nat, inv_aaL xs xx → (bodyL Try.prog ECc0 30 12 noL 1 c_aaL k_aaL 1 (s_aaL xs xx)).ok (RoundEnd 1 (s_aaL xs) (inv_aaL xs) (me_aaL xs) (re_aaL xs) (rs_aaL xs) xx) (fun _ _ => False)
def e_aaL (s : St) (k : Ex → St → Tree) : Option Tree := match Nat.beq s.tmps.length 20, pickL s.tmps [0, 3], s.mem with
  | true, [.slice (some ⟨0, 0, none⟩) n _, .int .i64 ii], [some ⟨.view, .ints xs⟩] => some (needs [ii = 1, xs.length = n, n ≤ 1000000000] (brT (aF (pB xs) n 1) (k (.exit 0) ⟨[topV, topV, topV, topV, topV, topV, topV, topV, topV, topV, topV, topV, topV, topV, topV, topV, topV, topV, topV, topV], [some ⟨.view, .ints xs⟩]⟩) (k .ret ⟨[topV, topV, .bool false, topV, topV, topV, topV, topV, topV, topV, topV, topV, topV, topV, topV, topV, topV, topV, topV, topV], [some ⟨.view, .ints xs⟩]⟩)))
  | _, _, _ => none
set_option maxRecDepth 100000 in
theorem round_aaL (xs : List Int) (h : xs.length ≤ 1000000000) : Round_aaL xs := by
  intro i h1
  have h1 : 1 ≤ i := h1
  rw [tr_aaL]
  simp only [brT_ok, Tree.ok, decide_eq_true_eq, decide_eq_false_iff_not, Int.toNat_natCast, Nat.zero_add, Nat.add_zero, Nat.mul_one]
  refine ⟨fun hlt => ?_, fun hge => ?_⟩
  · rw [wsucc (n := xs.length) (by omega) h]
    have hs := aF_step (p := pB xs) (n := xs.length) (i := i) (by omega)
    have hi : IntKind.i64.wrap ((i : Int) - 1) = ((i - 1 : Nat) : Int) := by rw [wr (by omega)]; omega
    rw [hi]
    simp only [Int.toNat_natCast]
    refine ⟨by omega, by omega, by omega, by omega, fun g0 => ?_, fun g0 => ?_⟩
    · have e : aF (pB xs) xs.length i = false := by
        rw [hs, show pB xs i = false from decide_eq_false (by omega), Bool.false_and]
      refine ⟨by simp only [re_aaL, e, cond_false], [], ?_⟩
      simp only [rs_aaL, e, cond_false]
      repeat' (first | exact True.intro | exact rfl | exact fun _ => rfl | (simp; done) | refine And.intro ?_ ?_)
    · have e : aF (pB xs) xs.length i = aF (pB xs) xs.length (i + 1) := by
        rw [hs, show pB xs i = true from decide_eq_true (by omega), Bool.true_and]
      refine ⟨i + 1, [], ?_, ?_, by simp only [re_aaL, e], by simp only [rs_aaL, e], ?_⟩
      · show 1 ≤ i + 1; omega
      · show xs.length - (i + 1) < xs.length - i; omega
      · repeat' (first | exact True.intro | exact rfl | exact fun _ => rfl | (simp; done) | refine And.intro ?_ ?_)
  · have e : aF (pB xs) xs.length i = true := aF_end (by omega)
    refine ⟨by simp only [re_aaL, e, cond_true], [], ?_⟩
    simp only [rs_aaL, e, cond_true]
    repeat' (first | exact True.intro | exact rfl | exact fun _ => rfl | (simp; done) | refine And.intro ?_ ?_)
set_option maxRecDepth 100000 in
theorem lg_aaL : LoopE Try.prog e_aaL c_aaL := by
  intro s k t F H hlt ht
  unfold e_aaL at hlt
  split at hlt
  rotate_left
  · cases hlt
  rename_i hlen hpick hmem
  obtain ⟨tmps, mem⟩ := s
  simp only at hlen hpick hmem
  subst hmem
  obtain rfl := Option.some.inj hlt
  obtain ⟨⟨rfl, h1, h2, _⟩, ht2⟩ := needs_ok ht
  clear ht hlt
  subst h1
  refine ⟨_, _, pick2k ht2, loop_run mixed ECc0_ok (s_aaL _) (inv_aaL _) (me_aaL _) (re_aaL _) (rs_aaL _) k_aaL (fun _ => rfl) (noLoops nl_aaL) (round_aaL _ h2) (x := 1) (Nat.le_refl _) (π := []) rfl ?_⟩
  refine ⟨rfl, rfl, ?_, wvs_spread' [0, 3] hlen rfl ?_⟩
  · repeat' (first | exact True.intro | exact rfl | exact wv_top _ _ | exact fun _ => rfl | assumption | exact Eq.symm (by assumption) | exact vI0 rfl | refine And.intro ?_ ?_)
  · rw [hpick]
    repeat' (first | exact True.intro | exact rfl | exact wv_top _ _ | exact fun _ => rfl | assumption | exact Eq.symm (by assumption) | exact vI0 rfl | refine And.intro ?_ ?_)
noncomputable def c_isL : Code := ((loopsOf (codeOf Try.f94))[0]?).getD .skip
def k_isL : Ex → List Nat := keeps [0, 1, 5] [(0, [0, 1])] [4]
def s_isL (ps : List Pt) (xs : List Int) : Nat → St := fun i => ⟨(.slice (some ⟨0, 0, none⟩) ps.length ps.length :: .slice (some ⟨1, 0, none⟩) xs.length xs.length :: topV :: topV :: topV :: .int .i64 i :: topV :: topV :: topV :: topV :: topV :: topV :: topV :: topV :: topV :: topV :: topV :: topV :: topV :: topV :: topV :: topV :: topV :: topV :: topV :: topV :: topV :: topV :: topV :: topV :: topV :: topV :: topV :: topV :: topV :: topV :: topV :: topV :: topV :: topV :: topV :: topV :: topV :: topV :: topV :: topV :: topV :: topV :: topV :: topV :: topV :: topV :: topV :: topV :: topV :: topV :: topV :: topV :: topV :: topV :: topV :: topV :: topV :: topV :: topV :: topV :: topV :: topV :: topV :: topV :: topV :: topV :: topV :: topV :: topV :: topV :: topV :: topV :: topV :: topV :: topV :: topV :: topV :: topV :: topV :: topV :: topV :: topV :: topV :: topV :: topV :: topV :: topV :: topV :: topV :: topV :: topV :: topV :: topV :: topV :: topV :: topV :: topV :: topV :: topV :: []), [some ⟨.view, .ints (flat ps)⟩, some ⟨.view, .ints xs⟩]⟩
def re_isL (ps : List Pt) (xs : List Int) : Nat → Ex := fun i => bif aF (pC ps.length xs) xs.length i then .exit 0 else .ret
def rs_isL (ps : List Pt) (xs : List Int) : Nat → St := fun i => bif aF (pC ps.length xs) xs.length i then ⟨(.slice (some ⟨0, 0, none⟩) ps.length ps.length :: .slice (some ⟨1, 0, none⟩) xs.length xs.length :: topV :: topV :: topV :: topV :: topV :: topV :: topV :: topV :: topV :: topV :: topV :: topV :: topV :: topV :: topV :: topV :: topV :: topV :: topV :: topV :: topV :: topV :: topV :: topV :: topV :: topV :: topV :: topV :: topV :: topV :: topV :: topV :: topV :: topV :: topV :: topV :: topV :: topV :: topV :: topV :: topV :: topV :: topV :: topV :: topV :: topV :: topV :: topV :: topV :: topV :: topV :: topV :: topV :: topV :: topV :: topV :: topV :: topV :: topV :: topV :: topV :: topV :: topV :: topV :: topV :: topV :: topV :: topV :: topV :: topV :: topV :: topV :: topV :: topV :: topV :: topV :: topV :: topV :: topV :: topV :: topV :: topV :: topV :: topV :: topV :: topV :: topV :: topV :: topV :: topV :: topV :: topV :: topV :: topV :: topV :: topV :: topV :: topV :: topV :: topV :: topV :: topV :: topV :: []), [some ⟨.view, .ints (flat ps)⟩, some ⟨.view, .ints xs⟩]⟩ else ⟨(topV :: topV :: topV :: topV :: .bool false :: topV :: topV :: topV :: topV :: topV :: topV :: topV :: topV :: topV :: topV :: topV :: topV :: topV :: topV :: topV :: topV :: topV :: topV :: topV :: topV :: topV :: topV :: topV :: topV :: topV :: topV :: topV :: topV :: topV :: topV :: topV :: topV :: topV :: topV :: topV :: topV :: topV :: topV :: topV :: topV :: topV :: topV :: topV :: topV :: topV :: topV :: topV :: topV :: topV :: topV :: topV :: topV :: topV :: topV :: topV :: topV :: topV :: topV :: topV :: topV :: topV :: topV :: topV :: topV :: topV :: topV :: topV :: topV :: topV :: topV :: topV :: topV :: topV :: topV :: topV :: topV :: topV :: topV :: topV :: topV :: topV :: topV :: topV :: topV :: topV :: topV :: topV :: topV :: topV :: topV :: topV :: topV :: topV :: topV :: topV :: topV :: topV :: topV :: topV :: topV :: []), [some ⟨.view, .ints (flat ps)⟩, some ⟨.view, .ints xs⟩]⟩
set_option maxRecDepth 100000 in
theorem tr_isL (ps : List Pt) (xs : List Int) (i : Nat) : bodyL Try.prog ECc0 30 12 noL 1 c_isL k_isL 2 (s_isL ps xs i) = brT (decide ((↑i : Int) < (↑xs.length : Int))) (brT (decide (0 ≤ xs.getD (0 + (↑i : Int).toNat * 1) 0)) (brT (!decide (xs.getD (0 + (↑i : Int).toNat * 1) 0 ≤ IntKind.i64.wrap ((↑ps.length : Int) - 1))) (.need ((0 : Int) ≤ (↑i : Int) ∧ (↑i : Int) < (↑xs.length : Int)) (.need ((0 : Nat) + (↑i : Int).toNat * (1 : Nat) < xs.length) (.leaf .ret ⟨(topV :: topV :: topV :: topV :: .bool (false) :: topV :: topV :: topV :: topV :: topV :: topV :: topV :: topV :: topV :: topV :: topV :: topV :: topV :: topV :: topV :: topV :: topV :: topV :: topV :: topV :: topV :: topV :: topV :: topV :: topV :: topV :: topV :: topV :: topV :: topV :: topV :: topV :: topV :: topV :: topV :: topV :: topV :: topV :: topV :: topV :: topV :: topV :: topV :: topV :: topV :: topV :: topV :: topV :: topV :: topV :: topV :: topV :: topV :: topV :: topV :: topV :: topV :: topV :: topV :: topV :: topV :: topV :: topV :: topV :: topV :: topV :: topV :: topV :: topV :: topV :: topV :: topV :: topV :: topV :: topV :: topV :: topV :: topV :: topV :: topV :: topV :: topV :: topV :: topV :: topV :: topV :: topV :: topV :: topV :: topV :: topV :: topV :: topV :: topV :: topV :: topV :: topV :: topV :: topV :: topV :: []), [some ⟨.view, .ints (flat ps)⟩, some ⟨.view, .ints (xs)⟩]⟩))) (brT (decide (0 < (↑i : Int))) (.need ((0 : Int) ≤ (↑i : Int) ∧ (↑i : Int) < (↑xs.length : Int)) (.need ((0 : Nat) + (↑i : Int).toNat * (1 : Nat) < xs.length) (.need ((0 : Int) ≤ (↑i : Int) ∧ (↑i : Int) < (↑xs.length : Int)) (.need ((0 : Nat) + (↑i : Int).toNat * (1 : Nat) < xs.length) (.need ((0 : Int) ≤ IntKind.i64.wrap ((↑i : Int) - (1 : Int)) ∧ IntKind.i64.wrap ((↑i : Int) - (1 : Int)) < (↑xs.length : Int)) (.need ((0 : Nat) + (IntKind.i64.wrap ((↑i : Int) - (1 : Int))).toNat * (1 : Nat) < xs.length) (brT (decide (xs.getD (0 + (↑i : Int).toNat * 1) 0 ≤ xs.getD (0 + (IntKind.i64.wrap ((↑i : Int) - 1)).toNat * 1) 0)) (.leaf .ret ⟨(topV :: topV :: topV :: topV :: .bool (false) :: topV :: topV :: topV :: topV :: topV :: topV :: topV :: topV :: topV :: topV :: topV :: topV :: topV :: topV :: topV :: topV :: topV :: topV :: topV :: topV :: topV :: topV :: topV :: topV :: topV :: topV :: topV :: topV :: topV :: topV :: topV :: topV :: topV :: topV :: topV :: topV :: topV :: topV :: topV :: topV :: topV :: topV :: topV :: topV :: topV :: topV :: topV :: topV :: topV :: topV :: topV :: topV :: topV :: topV :: topV :: topV :: topV :: topV :: topV :: topV :: topV :: topV :: topV :: topV :: topV :: topV :: topV :: topV :: topV :: topV :: topV :: topV :: topV :: topV :: topV :: topV :: topV :: topV :: topV :: topV :: topV :: topV :: topV :: topV :: topV :: topV :: topV :: topV :: topV :: topV :: topV :: topV :: topV :: topV :: topV :: topV :: topV :: topV :: topV :: topV :: []), [some ⟨.view, .ints (flat ps)⟩, some ⟨.view, .ints (xs)⟩]⟩) (.leaf .normal ⟨(.slice (some ⟨0, 0, none⟩) (ps.length) (ps.length) :: .slice (some ⟨1, 0, none⟩) (xs.length) (xs.length) :: topV :: topV :: topV :: .int .i64 (IntKind.i64.wrap ((↑i : Int) + 1)) :: topV :: topV :: topV :: topV :: topV :: topV :: topV :: topV :: topV :: topV :: topV :: topV :: topV :: topV :: topV :: topV :: topV :: topV :: topV :: topV :: topV :: topV :: topV :: topV :: topV :: topV :: topV :: topV :: topV :: topV :: topV :: topV :: topV :: topV :: topV :: topV :: topV :: topV :: topV :: topV :: topV :: topV :: topV :: topV :: topV :: topV :: topV :: topV :: topV :: topV :: topV :: topV :: topV :: topV :: topV :: topV :: topV :: topV :: topV :: topV :: topV :: topV :: topV :: topV :: topV :: topV :: topV :: topV :: topV :: topV :: topV :: topV :: topV :: topV :: topV :: topV :: topV :: topV :: topV :: topV :: topV :: topV :: topV :: topV :: topV :: topV :: topV :: topV :: topV :: topV :: topV :: topV :: topV :: topV :: topV :: topV :: topV :: topV :: topV :: []), [some ⟨.view, .ints (flat ps)⟩, some ⟨.view, .ints (xs)⟩]⟩)))))))) (.need ((0 : Int) ≤ (↑i : Int) ∧ (↑i : Int) < (↑xs.length : Int)) (.need ((0 : Nat) + (↑i : Int).toNat * (1 : Nat) < xs.length) (.leaf .normal ⟨(.slice (some ⟨0, 0, none⟩) (ps.length) (ps.length) :: .slice (some ⟨1, 0, none⟩) (xs.length) (xs.length) :: topV :: topV :: topV :: .int .i64 (IntKind.i64.wrap ((↑i : Int) + 1)) :: topV :: topV :: topV :: topV :: topV :: topV :: topV :: topV :: topV :: topV :: topV :: topV :: topV :: topV :: topV :: topV :: topV :: topV :: topV :: topV :: topV :: topV :: topV :: topV :: topV :: topV :: topV :: topV :: topV :: topV :: topV :: topV :: topV :: topV :: topV :: topV :: topV :: topV :: topV :: topV :: topV :: topV :: topV :: topV :: topV :: topV :: topV :: topV :: topV :: topV :: topV :: topV :: topV :: topV :: topV :: topV :: topV :: topV :: topV :: topV :: topV :: topV :: topV :: topV :: topV :: topV :: topV :: topV :: topV :: topV :: topV :: topV :: topV :: topV :: topV :: topV :: topV :: topV :: topV :: topV :: topV :: topV :: topV :: topV :: topV :: topV :: topV :: topV :: topV :: topV :: topV :: topV :: topV :: topV :: topV :: topV :: topV :: topV :: topV :: []), [some ⟨.view, .ints (flat ps)⟩, some ⟨.view, .ints (xs)⟩]⟩))))) (.need ((0 : Int) ≤ (↑i : Int) ∧ (↑i : Int) < (↑xs.length : Int)) (.need ((0 : Nat) + (↑i : Int).toNat * (1 : Nat) < xs.length) (.leaf .ret ⟨(topV :: topV :: topV :: topV :: .bool (false) :: topV :: topV :: topV :: topV :: topV :: topV :: topV :: topV :: topV :: topV :: topV :: topV :: topV :: topV :: topV :: topV :: topV :: topV :: topV :: topV :: topV :: topV :: topV :: topV :: topV :: topV :: topV :: topV :: topV :: topV :: topV :: topV :: topV :: topV :: topV :: topV :: topV :: topV :: topV :: topV :: topV :: topV :: topV :: topV :: topV :: topV :: topV :: topV :: topV :: topV :: topV :: topV :: topV :: topV :: topV :: topV :: topV :: topV :: topV :: topV :: topV :: topV :: topV :: topV :: topV :: topV :: topV :: topV :: topV :: topV :: topV :: topV :: topV :: topV :: topV :: topV :: topV :: topV :: topV :: topV :: topV :: topV :: topV :: topV :: topV :: topV :: topV :: topV :: topV :: topV :: topV :: topV :: topV :: topV :: topV :: topV :: topV :: topV :: topV :: topV :: []), [some ⟨.view, .ints (flat ps)⟩, some ⟨.view, .ints (xs)⟩]⟩)))) (.leaf (.exit 0) ⟨(.slice (some ⟨0, 0, none⟩) (ps.length) (ps.length) :: .slice (some ⟨1, 0, none⟩) (xs.length) (xs.length) :: topV :: topV :: topV :: topV :: topV :: topV :: topV :: topV :: topV :: topV :: topV :: topV :: topV :: topV :: topV :: topV :: topV :: topV :: topV :: topV :: topV :: topV :: topV :: topV :: topV :: topV :: topV :: topV :: topV :: topV :: topV :: topV :: topV :: topV :: topV :: topV :: topV :: topV :: topV :: topV :: topV :: topV :: topV :: topV :: topV :: topV :: topV :: topV :: topV :: topV :: topV :: topV :: topV :: topV :: topV :: topV :: topV :: topV :: topV :: topV :: topV :: topV :: topV :: topV :: topV :: topV :: topV :: topV :: topV :: topV :: topV :: topV :: topV :: topV :: topV :: topV :: topV :: topV :: topV :: topV :: topV :: topV :: topV :: topV :: topV :: topV :: topV :: topV :: topV :: topV :: topV :: topV :: topV :: topV :: topV :: topV :: topV :: topV :: topV :: topV :: topV :: topV :: topV :: []), [some ⟨.view, .ints (flat ps)⟩, some ⟨.view, .ints (xs)⟩]⟩) := by kernel_rfl
set_option maxRecDepth 100000 in
theorem nl_isL : loopsOf c_isL = [] := by kernel_rfl
def inv_isL (ps : List Pt) (xs : List Int) : Nat → Prop := fun i => i ≤ xs.length
def me_isL (ps : List Pt) (xs : List Int) : Nat → Nat := fun i => xs.length - i
/-- A round of this loop. -/
def Round_isL (ps : List Pt) (xs : List Int) : Prop := ∀ xx : Nat, inv_isL ps xs xx → (bodyL Try.prog ECc0 30 12 noL 1 c_isL k_isL 2 (s_isL ps xs xx)).ok (RoundEnd 2 (s_isL ps xs) (inv_isL ps xs) (me_isL ps xs) (re_isL ps xs) (rs_isL ps xs) xx) (fun _ _ => False)
def e_isL (s : St) (k : Ex → St → Tree) : Option Tree := match Nat.beq s.tmps.length 105, pickL s.tmps [0, 1, 5], s.mem with
  | true, [.slice (some ⟨0, 0, none⟩) n _, .slice (some ⟨1, 0, none⟩) m _, .int .i64 ii], [some ⟨.view, .ints ys⟩, some ⟨.view, .ints xs⟩] => some (needs [ii = 0, xs.length = m, m ≤ 1000000000, ys.length = n * 2, n ≤ 1000000000] (brT (aF (pC n xs) m 0) (k (.exit 0) ⟨(.slice (some ⟨0, 0, none⟩) n n :: .slice (some ⟨1, 0, none⟩) m m :: topV :: topV :: topV :: topV :: topV :: topV :: topV :: topV :: topV :: topV :: topV :: topV :: topV :: topV :: topV :: topV :: topV :: topV :: topV :: topV :: topV :: topV :: topV :: topV :: topV :: topV :: topV :: topV :: topV :: topV :: topV :: topV :: topV :: topV :: topV :: topV :: topV :: topV :: topV :: topV :: topV :: topV :: topV :: topV :: topV :: topV :: topV :: topV :: topV :: topV :: topV :: topV :: topV :: topV :: topV :: topV :: topV :: topV :: topV :: topV :: topV :: topV :: topV :: topV :: topV :: topV :: topV :: topV :: topV :: topV :: topV :: topV :: topV :: topV :: topV :: topV :: topV :: topV :: topV :: topV :: topV :: topV :: topV :: topV :: topV :: topV :: topV :: topV :: topV :: topV :: topV :: topV :: topV :: topV :: topV :: topV :: topV :: topV :: topV :: topV :: topV :: topV :: topV :: []), [some ⟨.view, .ints ys⟩, some ⟨.view, .ints xs⟩]⟩) (k .ret ⟨(topV :: topV :: topV :: topV :: .bool false :: topV :: topV :: topV :: topV :: topV :: topV :: topV :: topV :: topV :: topV :: topV :: topV :: topV :: topV :: topV :: topV :: topV :: topV :: topV :: topV :: topV :: topV :: topV :: topV :: topV :: topV :: topV :: topV :: topV :: topV :: topV :: topV :: topV :: topV :: topV :: topV :: topV :: topV :: topV :: topV :: topV :: topV :: topV :: topV :: topV :: topV :: topV :: topV :: topV :: topV :: topV :: topV :: topV :: topV :: topV :: topV :: topV :: topV :: topV :: topV :: topV :: topV :: topV :: topV :: topV :: topV :: topV :: topV :: topV :: topV :: topV :: topV :: topV :: topV :: topV :: topV :: topV :: topV :: topV :: topV :: topV :: topV :: topV :: topV :: topV :: topV :: topV :: topV :: topV :: topV :: topV :: topV :: topV :: topV :: topV :: topV :: topV :: topV :: topV :: topV :: []), [some ⟨.view, .ints ys⟩, some ⟨.view, .ints xs⟩]⟩)))
  | _, _, _ => none
set_option maxRecDepth 100000 in
theorem round_isL (ps : List Pt) (xs : List Int) (h : xs.length ≤ 1000000000) (hb : ps.length ≤ 1000000000) : Round_isL ps xs := by
  intro i h1
  have h1 : i ≤ xs.length := h1
  rw [tr_isL]
  simp only [brT_ok, Tree.ok, decide_eq_true_eq, decide_eq_false_iff_not, Int.toNat_natCast, Nat.zero_add, Nat.add_zero, Nat.mul_one]
  refine ⟨fun hlt => ?_, fun hge => ?_⟩
  · rw [wsucc (n := xs.length) (by omega) h]
    have hs := aF_step (p := pC ps.length xs) (n := xs.length) (i := i) (by omega)
    have hl : IntKind.i64.wrap ((ps.length : Int) - 1) = (ps.length : Int) - 1 := wr (by omega)
    rw [hl]
    have no : ∀ _ : pC ps.length xs i = false, aF (pC ps.length xs) xs.length i = false := fun k => by rw [hs, k, Bool.false_and]
    have yes : ∀ _ : pC ps.length xs i = true, aF (pC ps.length xs) xs.length i = aF (pC ps.length xs) xs.length (i + 1) := fun k => by rw [hs, k, Bool.true_and]
    have hA : ∀ _ : ¬ (0 ≤ xs.getD i 0 ∧ xs.getD i 0 < ps.length), pC ps.length xs i = false := fun k => by
      unfold pC pA
      rw [decide_eq_false k, Bool.false_and]
    refine ⟨fun g0 => ⟨fun g1 => ⟨by omega, by omega, ?_⟩, fun g1 => ⟨fun g2 => ?_, fun g2 => ⟨by omega, by omega, ?_⟩⟩⟩, fun g0 => ⟨by omega, by omega, ?_⟩⟩
    · have g1' : ¬ xs.getD i 0 ≤ (ps.length : Int) - 1 := by simpa using g1
      have e := no (hA (by omega))
      refine ⟨by simp only [re_isL, e, cond_false], [], ?_⟩
      simp only [rs_isL, e, cond_false]
      repeat' (first | exact True.intro | exact rfl | exact fun _ => rfl | (simp; done) | refine And.intro ?_ ?_)
    · have g1' : xs.getD i 0 ≤ (ps.length : Int) - 1 := by simpa using g1
      have hi : IntKind.i64.wrap ((i : Int) - 1) = ((i - 1 : Nat) : Int) := by rw [wr (by omega)]; omega
      rw [hi]
      simp only [Int.toNat_natCast]
      have hAt : pA ps.length xs i = true := decide_eq_true (by omega)
      refine ⟨by omega, by omega, by omega, by omega, by omega, by omega, fun g3 => ?_, fun g3 => ?_⟩
      · have e := no (by unfold pC; rw [show pB xs i = false from decide_eq_false (by omega), decide_eq_false (p := i = 0) (by omega)]; simp)
        refine ⟨by simp only [re_isL, e, cond_false], [], ?_⟩
        simp only [rs_isL, e, cond_false]
        repeat' (first | exact True.intro | exact rfl | exact fun _ => rfl | (simp; done) | refine And.intro ?_ ?_)
      · have e := yes (by unfold pC; rw [hAt, show pB xs i = true from decide_eq_true (by omega)]; simp)
        refine ⟨i + 1, [], ?_, ?_, by simp only [re_isL, e], by simp only [rs_isL, e], ?_⟩
        · show i + 1 ≤ xs.length; omega
        · show xs.length - (i + 1) < xs.length - i; omega
        · repeat' (first | exact True.intro | exact rfl | exact fun _ => rfl | (simp; done) | refine And.intro ?_ ?_)
    · have g1' : xs.getD i 0 ≤ (ps.length : Int) - 1 := by simpa using g1
      have hAt : pA ps.length xs i = true := decide_eq_true (by omega)
      have e := yes (by unfold pC; rw [hAt, decide_eq_true (p := i = 0) (by omega)]; simp)
      refine ⟨i + 1, [], ?_, ?_, by simp only [re_isL, e], by simp only [rs_isL, e], ?_⟩
      · show i + 1 ≤ xs.length; omega
      · show xs.length - (i + 1) < xs.length - i; omega
      · repeat' (first | exact True.intro | exact rfl | exact fun _ => rfl | (simp; done) | refine And.intro ?_ ?_)
    · have e := no (hA (by omega))
      refine ⟨by simp only [re_isL, e, cond_false], [], ?_⟩
      simp only [rs_isL, e, cond_false]
      repeat' (first | exact True.intro | exact rfl | exact fun _ => rfl | (simp; done) | refine And.intro ?_ ?_)
  · have e : aF (pC ps.length xs) xs.length i = true := aF_end (by omega)
    refine ⟨by simp only [re_isL, e, cond_true], [], ?_⟩
    simp only [rs_isL, e, cond_true]
    repeat' (first | exact True.intro | exact rfl | exact fun _ => rfl | (simp; done) | refine And.intro ?_ ?_)
set_option maxRecDepth 100000 in
theorem lg_isL : LoopE Try.prog e_isL c_isL := by
  intro s k t F H hlt ht
  unfold e_isL at hlt
  split at hlt
  rotate_left
  · cases hlt
  rename_i hlen hpick hmem
  obtain ⟨tmps, mem⟩ := s
  simp only at hlen hpick hmem
  subst hmem
  obtain rfl := Option.some.inj hlt
  obtain ⟨⟨rfl, h1, h2, h3, h4, _⟩, ht2⟩ := needs_ok ht
  clear ht hlt
  obtain ⟨ps, rfl, rfl⟩ := even_flat h3
  subst h1
  refine ⟨_, _, pick2k ht2, loop_run mixed ECc0_ok (s_isL ps _) (inv_isL ps _) (me_isL ps _) (re_isL ps _) (rs_isL ps _) k_isL (fun _ => rfl) (noLoops nl_isL) (round_isL ps _ h2 h4) (x := 0) (Nat.zero_le _) (π := []) rfl ?_⟩
  refine ⟨rfl, rfl, ?_, wvs_spread' [0, 1, 5] hlen rfl ?_⟩
  · repeat' (first | exact True.intro | exact rfl | exact wv_top _ _ | exact fun _ => rfl | assumption | exact Eq.symm (by assumption) | exact vI0 rfl | refine And.intro ?_ ?_)
  · rw [hpick]
    repeat' (first | exact True.intro | exact rfl | exact wv_top _ _ | exact fun _ => rfl | assumption | exact Eq.symm (by assumption) | exact vI0 rfl | refine And.intro ?_ ?_)
noncomputable def c_enL : Code := ((loopsOf (codeOf Try.f95))[0]?).getD .skip
def k_enL : Ex → List Nat := keeps [0, 1, 5] [(0, [])] [4]
def s_enL (ps : List Pt) (ks : List Int) : Nat → St := fun i => ⟨[.slice (some ⟨0, 0, none⟩) ps.length ps.length, .slice (some ⟨1, 0, none⟩) ks.length ks.length, topV, topV, topV, .int .i64 i, topV, topV, topV, topV, topV, topV, topV, topV, topV, topV, topV, topV, topV, topV], [some ⟨.view, .ints (flat ps)⟩, some ⟨.view, .ints ks⟩]⟩
def re_enL (ps : List Pt) (ks : List Int) : Nat → Ex := fun i => bif aF (pE ps ks) ps.length i then .exit 0 else .ret
def rs_enL (ps : List Pt) (ks : List Int) : Nat → St := fun i => bif aF (pE ps ks) ps.length i then ⟨[topV, topV, topV, topV, topV, topV, topV, topV, topV, topV, topV, topV, topV, topV, topV, topV, topV, topV, topV, topV], [some ⟨.view, .ints (flat ps)⟩, some ⟨.view, .ints ks⟩]⟩ else ⟨[topV, topV, topV, topV, .bool false, topV, topV, topV, topV, topV, topV, topV, topV, topV, topV, topV, topV, topV, topV, topV], [some ⟨.view, .ints (flat ps)⟩, some ⟨.view, .ints ks⟩]⟩
set_option maxRecDepth 100000 in
theorem tr_enL (ps : List Pt) (ks : List Int) (i : Nat) : bodyL Try.prog ECc0 30 12 noL 1 c_enL k_enL 2 (s_enL ps ks i) = brT (decide ((↑i : Int) < (↑ps.length : Int))) (.need ((0 : Int) ≤ (↑i : Int) ∧ (↑i : Int) < (↑ps.length : Int)) (.need ((0 : Nat) + (↑i : Int).toNat * (2 : Nat) + (2 : Nat) ≤ (flat ps).length) (.need (ps.length * (2 : Nat) ≤ (List.drop (0 : Nat) (flat ps)).length) (.need ((List.drop (0 : Nat) ks).length = ks.length) (.need (allV (ptsA ps.length (List.drop (0 : Nat) (flat ps))) = true) (.need (idK (↑ps.length : Int) (List.drop (0 : Nat) ks)) (.need ((1 : Nat) ≤ ks.length) (.need (ks.length ≤ (3 : Nat)) (.need (ptB ((flat ps).getD ((0 : Nat) + (↑i : Int).toNat * (2 : Nat)) (0 : Int)) ((flat ps).getD ((0 : Nat) + (↑i : Int).toNat * (2 : Nat) + (1 : Nat)) (0 : Int)) = true) (brT (!inS (ptsA ps.length (List.drop 0 (flat ps))) (List.drop 0 ks) ((flat ps).getD (0 + (↑i : Int).toNat * 2) 0) ((flat ps).getD (0 + (↑i : Int).toNat * 2 + 1) 0)) (.leaf .ret ⟨[topV, topV, topV, topV, .bool (false), topV, topV, topV, topV, topV, topV, topV, topV, topV, topV, topV, topV, topV, topV, topV], [some ⟨.view, .ints (flat ps)⟩, some ⟨.view, .ints (ks)⟩]⟩) (.leaf .normal ⟨[.slice (some ⟨0, 0, none⟩) (ps.length) (ps.length), .slice (some ⟨1, 0, none⟩) (ks.length) (ks.length), topV, topV, topV, .int .i64 (IntKind.i64.wrap ((↑i : Int) + 1)), topV, topV, topV, topV, topV, topV, topV, topV, topV, topV, topV, topV, topV, topV], [some ⟨.view, .ints (flat ps)⟩, some ⟨.view, .ints (ks)⟩]⟩))))))))))) (.leaf (.exit 0) ⟨[topV, topV, topV, topV, topV, topV, topV, topV, topV, topV, topV, topV, topV, topV, topV, topV, topV, topV, topV, topV], [some ⟨.view, .ints (flat ps)⟩, some ⟨.view, .ints (ks)⟩]⟩) := by kernel_rfl
set_option maxRecDepth 100000 in
theorem nl_enL : loopsOf c_enL = [] := by kernel_rfl
def inv_enL (ps : List Pt) (ks : List Int) : Nat → Prop := fun i => i ≤ ps.length
def me_enL (ps : List Pt) (ks : List Int) : Nat → Nat := fun i => ps.length - i
/-- A round of this loop. -/
def Round_enL (ps : List Pt) (ks : List Int) : Prop := ∀ xx : Nat, inv_enL ps ks xx → (bodyL Try.prog ECc0 30 12 noL 1 c_enL k_enL 2 (s_enL ps ks xx)).ok (RoundEnd 2 (s_enL ps ks) (inv_enL ps ks) (me_enL ps ks) (re_enL ps ks) (rs_enL ps ks) xx) (fun _ _ => False)
def e_enL (s : St) (k : Ex → St → Tree) : Option Tree := match Nat.beq s.tmps.length 20, pickL s.tmps [0, 1, 5], s.mem with
  | true, [.slice (some ⟨0, 0, none⟩) n _, .slice (some ⟨1, 0, none⟩) m _, .int .i64 ii], [some ⟨.view, .ints ys⟩, some ⟨.view, .ints ks⟩] => some (needs [ii = 0, ks.length = m, n ≤ 1000000000, ys.length = n * 2, allV (ptsA n ys) = true, idK n ks, 1 ≤ m, m ≤ 3] (brT (aF (pE (ptsA n ys) ks) n 0) (k (.exit 0) ⟨[topV, topV, topV, topV, topV, topV, topV, topV, topV, topV, topV, topV, topV, topV, topV, topV, topV, topV, topV, topV], [some ⟨.view, .ints ys⟩, some ⟨.view, .ints ks⟩]⟩) (k .ret ⟨[topV, topV, topV, topV, .bool false, topV, topV, topV, topV, topV, topV, topV, topV, topV, topV, topV, topV, topV, topV, topV], [some ⟨.view, .ints ys⟩, some ⟨.view, .ints ks⟩]⟩)))
  | _, _, _ => none
set_option maxRecDepth 100000 in
theorem round_enL (ps : List Pt) (ks : List Int) (h : ps.length ≤ 1000000000) (hv : allV ps = true) (hk : idK ps.length ks) (h0 : 1 ≤ ks.length) (h3 : ks.length ≤ 3) : Round_enL ps ks := by
  intro i h1
  have h1 : i ≤ ps.length := h1
  rw [tr_enL]
  simp only [brT_ok, Tree.ok, decide_eq_true_eq, decide_eq_false_iff_not, Int.toNat_natCast, Nat.zero_add, Nat.add_zero, Nat.mul_one, List.drop_zero, ptsA_flat, flat_length, flat_get0, flat_get1]
  refine ⟨fun hlt => ?_, fun hge => ?_⟩
  · rw [wsucc (n := ps.length) (by omega) h]
    have hs := aF_step (p := pE ps ks) (n := ps.length) (i := i) (by omega)
    obtain ⟨x1, x2, x3, x4⟩ := allV_get hv i
    refine ⟨by omega, by omega, Nat.le_refl _, trivial, hv, hk, h0, h3, decide_eq_true (by omega), fun g0 => ?_, fun g0 => ?_⟩
    · have e : aF (pE ps ks) ps.length i = false := by
        rw [hs, show pE ps ks i = false by simpa [pE] using g0, Bool.false_and]
      refine ⟨by simp only [re_enL, e, cond_false], [], ?_⟩
      simp only [rs_enL, e, cond_false]
      repeat' (first | exact True.intro | exact rfl | exact fun _ => rfl | (simp; done) | refine And.intro ?_ ?_)
    · have e : aF (pE ps ks) ps.length i = aF (pE ps ks) ps.length (i + 1) := by
        rw [hs, show pE ps ks i = true by simpa [pE] using g0, Bool.true_and]
      refine ⟨i + 1, [], ?_, ?_, by simp only [re_enL, e], by simp only [rs_enL, e], ?_⟩
      · show i + 1 ≤ ps.length; omega
      · show ps.length - (i + 1) < ps.length - i; omega
      · repeat' (first | exact True.intro | exact rfl | exact fun _ => rfl | (simp; done) | refine And.intro ?_ ?_)
  · have e : aF (pE ps ks) ps.length i = true := aF_end (by omega)
    refine ⟨by simp only [re_enL, e, cond_true], [], ?_⟩
    simp only [rs_enL, e, cond_true]
    repeat' (first | exact True.intro | exact rfl | exact fun _ => rfl | (simp; done) | refine And.intro ?_ ?_)
set_option maxRecDepth 100000 in
theorem lg_enL : LoopE Try.prog e_enL c_enL := by
  intro s k t F H hlt ht
  unfold e_enL at hlt
  split at hlt
  rotate_left
  · cases hlt
  rename_i hlen hpick hmem
  obtain ⟨tmps, mem⟩ := s
  simp only at hlen hpick hmem
  subst hmem
  obtain rfl := Option.some.inj hlt
  obtain ⟨⟨rfl, h1, h2, h3, h4, h5, h6, h7, _⟩, ht2⟩ := needs_ok ht
  clear ht hlt
  obtain ⟨ps, rfl, rfl⟩ := even_flat h3
  subst h1
  rw [ptsA_flat] at h4 ht2
  refine ⟨_, _, pick2k ht2, loop_run mixed ECc0_ok (s_enL ps _) (inv_enL ps _) (me_enL ps _) (re_enL ps _) (rs_enL ps _) k_enL (fun _ => rfl) (noLoops nl_enL) (round_enL ps _ h2 h4 h5 h6 h7) (x := 0) (Nat.zero_le _) (π := []) rfl ?_⟩
  refine ⟨rfl, rfl, ?_, wvs_spread' [0, 1, 5] hlen rfl ?_⟩
  · repeat' (first | exact True.intro | exact rfl | exact wv_top _ _ | exact fun _ => rfl | assumption | exact Eq.symm (by assumption) | exact vI0 rfl | refine And.intro ?_ ?_)
  · rw [hpick]
    repeat' (first | exact True.intro | exact rfl | exact wv_top _ _ | exact fun _ => rfl | assumption | exact Eq.symm (by assumption) | exact vI0 rfl | refine And.intro ?_ ?_)
end Go.Proofs.Ytolodncpegajkaa
namespace Go.Proofs.Ytolodncpegajkaa
set_option linter.all false
open Go.RowKit
theorem Lr_aiL {fn : Func} (hf : Try.prog.funcs[137]? = some fn) : LoopsGood Try.prog (lt1 e_aiL) 0 (codeOf fn) := by
  obtain rfl := fn_is Try.func137 hf
  exact lt1_good lg_aiL
theorem Lr_aaL {fn : Func} (hf : Try.prog.funcs[143]? = some fn) : LoopsGood Try.prog (lt1 e_aaL) 0 (codeOf fn) := by
  obtain rfl := fn_is Try.func143 hf
  exact lt1_good lg_aaL
theorem Lr_isL {fn : Func} (hf : Try.prog.funcs[94]? = some fn) : LoopsGood Try.prog (lt1 e_isL) 0 (codeOf fn) := by
  obtain rfl := fn_is Try.func94 hf
  exact lt1_good lg_isL
theorem Lr_enL {fn : Func} (hf : Try.prog.funcs[95]? = some fn) : LoopsGood Try.prog (lt1 e_enL) 0 (codeOf fn) := by
  obtain rfl := fn_is Try.func95 hf
  exact lt1_good lg_enL
def LCc : FuncId → LT := fun f => match f with
  | 137 => lt1 e_aiL
  | 143 => lt1 e_aaL
  | 94 => lt1 e_isL
  | 95 => lt1 e_enL
  | _ => noL
theorem LCc_ok : ∀ f fn, Try.prog.funcs[f]? = some fn → LoopsGood Try.prog (LCc f) 0 (codeOf fn) := by
  intro f fn hf
  unfold LCc
  split
  all_goals first | with_reducible exact Lr_aiL hf | with_reducible exact Lr_aaL hf | with_reducible exact Lr_isL hf | with_reducible exact Lr_enL hf | exact noL_good
def ECc1 : Env := withP cMs (mkE TCc (fun _ _ => none) LCc)
theorem ECc1_ok : EnvOk Try.prog ECc1 := withP_ok (mkEOk TCc_ok (fun _ _ _ _ _ h => (by cases h)) LCc_ok) cMs_ok
set_option maxRecDepth 100000 in
theorem tr_aiF (n : Nat) (xs : List Int) (L : Int) : bodyV Try.prog ECc1 30 12 137 [.row n (.ints xs), .v (iv L)] = .need ((0 : Int) = (0 : Int)) (.need ((↑n : Int) = (↑n : Int)) (.need (xs.length = n) (.need (n ≤ (1000000000 : Nat)) (brT (aF (pA L xs) n 0) (.fin (.bool (true)) []) (.fin (.bool (false)) []))))) := by kernel_rfl
set_option maxRecDepth 100000 in
theorem tr_aaF (n : Nat) (xs : List Int) : bodyV Try.prog ECc1 30 12 143 [.row n (.ints xs)] = .need ((1 : Int) = (1 : Int)) (.need (xs.length = n) (.need (n ≤ (1000000000 : Nat)) (brT (aF (pB xs) n 1) (.fin (.bool (true)) []) (.fin (.bool (false)) [])))) := by kernel_rfl
set_option maxRecDepth 100000 in
theorem tr_isF (ps : List Pt) (xs : List Int) : bodyV Try.prog ECc1 30 12 94 [.row ps.length (.ints (flat ps)), .row xs.length (.ints xs)] = .need ((0 : Int) = (0 : Int)) (.need (xs.length = xs.length) (.need (xs.length ≤ (1000000000 : Nat)) (.need ((flat ps).length = ps.length * (2 : Nat)) (.need (ps.length ≤ (1000000000 : Nat)) (brT (aF (pC (↑ps.length : Int) xs) xs.length 0) (brT ((↑xs.length : Int) == 1) (.fin (.bool (true)) []) (brT ((↑xs.length : Int) == 2) (.need ((0 : Int) ≤ (0 : Int) ∧ (0 : Int) < (↑xs.length : Int)) (.need ((0 : Nat) < xs.length) (.need ((0 : Int) ≤ xs.getD (0 : Nat) (0 : Int) ∧ xs.getD (0 : Nat) (0 : Int) < (↑ps.length : Int)) (.need ((0 : Nat) + (xs.getD (0 : Nat) (0 : Int)).toNat * (2 : Nat) + (2 : Nat) ≤ (flat ps).length) (.need ((0 : Int) ≤ (1 : Int) ∧ (1 : Int) < (↑xs.length : Int)) (.need ((1 : Nat) < xs.length) (.need ((0 : Int) ≤ xs.getD (1 : Nat) (0 : Int) ∧ xs.getD (1 : Nat) (0 : Int) < (↑ps.length : Int)) (.need ((0 : Nat) + (xs.getD (1 : Nat) (0 : Int)).toNat * (2 : Nat) + (2 : Nat) ≤ (flat ps).length) (.fin (.bool (negB true ((flat ps).getD (0 + (xs.getD 0 0).toNat * 2) 0 == (flat ps).getD (0 + (xs.getD 1 0).toNat * 2) 0 && ((flat ps).getD (0 + (xs.getD 0 0).toNat * 2 + 1) 0 == (flat ps).getD (0 + (xs.getD 1 0).toNat * 2 + 1) 0 && true)))) []))))))))) (brT ((↑xs.length : Int) == 3) (.need ((0 : Int) ≤ (0 : Int) ∧ (0 : Int) < (↑xs.length : Int)) (.need ((0 : Nat) < xs.length) (.need ((0 : Int) ≤ xs.getD (0 : Nat) (0 : Int) ∧ xs.getD (0 : Nat) (0 : Int) < (↑ps.length : Int)) (.need ((0 : Nat) + (xs.getD (0 : Nat) (0 : Int)).toNat * (2 : Nat) + (2 : Nat) ≤ (flat ps).length) (.need ((0 : Int) ≤ (1 : Int) ∧ (1 : Int) < (↑xs.length : Int)) (.need ((1 : Nat) < xs.length) (.need ((0 : Int) ≤ xs.getD (1 : Nat) (0 : Int) ∧ xs.getD (1 : Nat) (0 : Int) < (↑ps.length : Int)) (.need ((0 : Nat) + (xs.getD (1 : Nat) (0 : Int)).toNat * (2 : Nat) + (2 : Nat) ≤ (flat ps).length) (.need ((0 : Int) ≤ (2 : Int) ∧ (2 : Int) < (↑xs.length : Int)) (.need ((2 : Nat) < xs.length) (.need ((0 : Int) ≤ xs.getD (2 : Nat) (0 : Int) ∧ xs.getD (2 : Nat) (0 : Int) < (↑ps.length : Int)) (.need ((0 : Nat) + (xs.getD (2 : Nat) (0 : Int)).toNat * (2 : Nat) + (2 : Nat) ≤ (flat ps).length) (.need (p3B ((flat ps).getD ((0 : Nat) + (xs.getD (0 : Nat) (0 : Int)).toNat * (2 : Nat)) (0 : Int)) ((flat ps).getD ((0 : Nat) + (xs.getD (0 : Nat) (0 : Int)).toNat * (2 : Nat) + (1 : Nat)) (0 : Int)) ((flat ps).getD ((0 : Nat) + (xs.getD (1 : Nat) (0 : Int)).toNat * (2 : Nat)) (0 : Int)) ((flat ps).getD ((0 : Nat) + (xs.getD (1 : Nat) (0 : Int)).toNat * (2 : Nat) + (1 : Nat)) (0 : Int)) ((flat ps).getD ((0 : Nat) + (xs.getD (2 : Nat) (0 : Int)).toNat * (2 : Nat)) (0 : Int)) ((flat ps).getD ((0 : Nat) + (xs.getD (2 : Nat) (0 : Int)).toNat * (2 : Nat) + (1 : Nat)) (0 : Int))) (brT (!crossI ((flat ps).getD (0 + (xs.getD 0 0).toNat * 2) 0) ((flat ps).getD (0 + (xs.getD 0 0).toNat * 2 + 1) 0) ((flat ps).getD (0 + (xs.getD 1 0).toNat * 2) 0) ((flat ps).getD (0 + (xs.getD 1 0).toNat * 2 + 1) 0) ((flat ps).getD (0 + (xs.getD 2 0).toNat * 2) 0) ((flat ps).getD (0 + (xs.getD 2 0).toNat * 2 + 1) 0) == 0) (.need (p3B ((flat ps).getD ((0 : Nat) + (xs.getD (0 : Nat) (0 : Int)).toNat * (2 : Nat)) (0 : Int)) ((flat ps).getD ((0 : Nat) + (xs.getD (0 : Nat) (0 : Int)).toNat * (2 : Nat) + (1 : Nat)) (0 : Int)) ((flat ps).getD ((0 : Nat) + (xs.getD (1 : Nat) (0 : Int)).toNat * (2 : Nat)) (0 : Int)) ((flat ps).getD ((0 : Nat) + (xs.getD (1 : Nat) (0 : Int)).toNat * (2 : Nat) + (1 : Nat)) (0 : Int)) ((flat ps).getD ((0 : Nat) + (xs.getD (2 : Nat) (0 : Int)).toNat * (2 : Nat)) (0 : Int)) ((flat ps).getD ((0 : Nat) + (xs.getD (2 : Nat) (0 : Int)).toNat * (2 : Nat) + (1 : Nat)) (0 : Int))) (brT (decide (0 < dtI ((flat ps).getD (0 + (xs.getD 0 0).toNat * 2) 0) ((flat ps).getD (0 + (xs.getD 0 0).toNat * 2 + 1) 0) ((flat ps).getD (0 + (xs.getD 1 0).toNat * 2) 0) ((flat ps).getD (0 + (xs.getD 1 0).toNat * 2 + 1) 0) ((flat ps).getD (0 + (xs.getD 2 0).toNat * 2) 0) ((flat ps).getD (0 + (xs.getD 2 0).toNat * 2 + 1) 0))) (.need (p3B ((flat ps).getD ((0 : Nat) + (xs.getD (1 : Nat) (0 : Int)).toNat * (2 : Nat)) (0 : Int)) ((flat ps).getD ((0 : Nat) + (xs.getD (1 : Nat) (0 : Int)).toNat * (2 : Nat) + (1 : Nat)) (0 : Int)) ((flat ps).getD ((0 : Nat) + (xs.getD (0 : Nat) (0 : Int)).toNat * (2 : Nat)) (0 : Int)) ((flat ps).getD ((0 : Nat) + (xs.getD (0 : Nat) (0 : Int)).toNat * (2 : Nat) + (1 : Nat)) (0 : Int)) ((flat ps).getD ((0 : Nat) + (xs.getD (2 : Nat) (0 : Int)).toNat * (2 : Nat)) (0 : Int)) ((flat ps).getD ((0 : Nat) + (xs.getD (2 : Nat) (0 : Int)).toNat * (2 : Nat) + (1 : Nat)) (0 : Int))) (brT (decide (0 < dtI ((flat ps).getD (0 + (xs.getD 1 0).toNat * 2) 0) ((flat ps).getD (0 + (xs.getD 1 0).toNat * 2 + 1) 0) ((flat ps).getD (0 + (xs.getD 0 0).toNat * 2) 0) ((flat ps).getD (0 + (xs.getD 0 0).toNat * 2 + 1) 0) ((flat ps).getD (0 + (xs.getD 2 0).toNat * 2) 0) ((flat ps).getD (0 + (xs.getD 2 0).toNat * 2 + 1) 0))) (.need (p3B ((flat ps).getD ((0 : Nat) + (xs.getD (2 : Nat) (0 : Int)).toNat * (2 : Nat)) (0 : Int)) ((flat ps).getD ((0 : Nat) + (xs.getD (2 : Nat) (0 : Int)).toNat * (2 : Nat) + (1 : Nat)) (0 : Int)) ((flat ps).getD ((0 : Nat) + (xs.getD (0 : Nat) (0 : Int)).toNat * (2 : Nat)) (0 : Int)) ((flat ps).getD ((0 : Nat) + (xs.getD (0 : Nat) (0 : Int)).toNat * (2 : Nat) + (1 : Nat)) (0 : Int)) ((flat ps).getD ((0 : Nat) + (xs.getD (1 : Nat) (0 : Int)).toNat * (2 : Nat)) (0 : Int)) ((flat ps).getD ((0 : Nat) + (xs.getD (1 : Nat) (0 : Int)).toNat * (2 : Nat) + (1 : Nat)) (0 : Int))) (.fin (.bool (decide (0 < dtI ((flat ps).getD (0 + (xs.getD 2 0).toNat * 2) 0) ((flat ps).getD (0 + (xs.getD 2 0).toNat * 2 + 1) 0) ((flat ps).getD (0 + (xs.getD 0 0).toNat * 2) 0) ((flat ps).getD (0 + (xs.getD 0 0).toNat * 2 + 1) 0) ((flat ps).getD (0 + (xs.getD 1 0).toNat * 2) 0) ((flat ps).getD (0 + (xs.getD 1 0).toNat * 2 + 1) 0)))) [])) (.fin (.bool (false)) []))) (.fin (.bool (false)) []))) (.fin (.bool (false)) []))))))))))))))) (.fin (.bool (false)) [])))) (.fin (.bool (false)) [])))))) := by kernel_rfl
set_option maxRecDepth 100000 in
theorem tr_enF (ps : List Pt) (xs : List Int) : bodyV Try.prog ECc1 30 12 95 [.row ps.length (.ints (flat ps)), .row xs.length (.ints xs)] = .need ((0 : Int) = (0 : Int)) (.need (xs.length = xs.length) (.need (ps.length ≤ (1000000000 : Nat)) (.need ((flat ps).length = ps.length * (2 : Nat)) (.need (allV (ptsA ps.length (flat ps)) = true) (.need (idK (↑ps.length : Int) xs) (.need ((1 : Nat) ≤ xs.length) (.need (xs.length ≤ (3 : Nat)) (brT (aF (pE (ptsA ps.length (flat ps)) xs) ps.length 0) (.fin (.bool (true)) []) (.fin (.bool (false)) []))))))))) := by kernel_rfl
theorem res_ai (n : Nat) (xs : List Int) (L : Int) (hx : xs.length = n) (h : n ≤ 1000000000) : Res Try.prog 137 [.row n (.ints xs), .v (iv L)] (.bool (aF (pA L xs) n 0)) := by
  refine bodyV_res mixed ECc1_ok (m := 30) (n := 12) rfl ?_
  rw [tr_aiF]
  cases hb : aF (pA L xs) n 0 <;> simp [brT_ok, Tree.ok, hb, hx, h]
theorem res_aa (n : Nat) (xs : List Int) (hx : xs.length = n) (h : n ≤ 1000000000) : Res Try.prog 143 [.row n (.ints xs)] (.bool (aF (pB xs) n 1)) := by
  refine bodyV_res mixed ECc1_ok (m := 30) (n := 12) rfl ?_
  rw [tr_aaF]
  cases hb : aF (pB xs) n 1 <;> simp [brT_ok, Tree.ok, hb, hx, h]
/-- Do indices determine a circle? -/
def spV (ps : List Pt) (ks : List Int) : Bool := aF (pC ps.length ks) ks.length 0 && (if ks.length = 1 then true else if ks.length = 2 then !eqQ (ptk ps ks 1).1 (ptk ps ks 1).2 (ptk ps ks 0).1 (ptk ps ks 0).2 else if ks.length = 3 then acB (ptk ps ks 0).1 (ptk ps ks 0).2 (ptk ps ks 1).1 (ptk ps ks 1).2 (ptk ps ks 2).1 (ptk ps ks 2).2 else false)
def pAiF : List DArg → Option (Value × List Prop)
  | [.row n (.ints xs), .v (.int .i64 L)] => some (.bool (aF (pA L xs) n 0), [xs.length = n, n ≤ 1000000000])
  | _ => none
def pAaF : List DArg → Option (Value × List Prop)
  | [.row n (.ints xs)] => some (.bool (aF (pB xs) n 1), [xs.length = n, n ≤ 1000000000])
  | _ => none
theorem pAiF_ok {ds : List DArg} {v : Value} {C : List Prop} (h : pAiF ds = some (v, C)) (hC : AllP C) : Res Try.prog 137 ds v := by
  unfold pAiF at h
  split at h
  · obtain ⟨rfl, rfl⟩ : _ ∧ _ := by simpa using h
    exact res_ai _ _ _ hC.1 hC.2.1
  · cases h
theorem pAaF_ok {ds : List DArg} {v : Value} {C : List Prop} (h : pAaF ds = some (v, C)) (hC : AllP C) : Res Try.prog 143 ds v := by
  unfold pAaF at h
  split at h
  · obtain ⟨rfl, rfl⟩ : _ ∧ _ := by simpa using h
    exact res_aa _ _ hC.1 hC.2.1
  · cases h
def TCd : Tab := fun f ds => match f with
  | 137 => pAiF ds
  | 143 => pAaF ds
  | f => TCc f ds
theorem TCd_ok : TabOk Try.prog TCd := by
  intro f ds v C h hC
  unfold TCd at h
  (try split at h)
  all_goals first | with_reducible exact pAiF_ok h hC | with_reducible exact pAaF_ok h hC | exact TCc_ok _ _ _ _ h hC
def ECd0 : Env := withP cMs (mkE TCd (fun _ _ => none) (fun _ => noL))
theorem ECd0_ok : EnvOk Try.prog ECd0 := withP_ok (mkEOk TCd_ok (fun _ _ _ _ _ h => (by cases h)) (fun _ _ _ => noL_good)) cMs_ok
end Go.Proofs.Ytolodncpegajkaa
namespace Go.Proofs.Ytolodncpegajkaa
set_option linter.all false
open Go.RowKit
theorem ac_cross {a b c d e f : Int} (h : acB a b c d e f = true) : crossI a b c d e f ≠ 0 := by
  unfold acB at h
  simp only [Bool.and_eq_true, decide_eq_true_eq] at h
  obtain ⟨h1, h2, h3⟩ := h
  intro h0
  have e2 : dtI c d a b e f = ((c - a) * (c - a) + (d - b) * (d - b)) - dtI a b c d e f := by unfold dtI; grind
  have e3 : dtI e f a b c d = ((e - a) * (e - a) + (f - b) * (f - b)) - dtI a b c d e f := by unfold dtI; grind
  have eL : crossI a b c d e f * crossI a b c d e f = ((c - a) * (c - a) + (d - b) * (d - b)) * ((e - a) * (e - a) + (f - b) * (f - b)) - dtI a b c d e f * dtI a b c d e f := by unfold crossI dtI; grind
  rw [h0] at eL
  rw [e2] at h2
  rw [e3] at h3
  generalize (c - a) * (c - a) + (d - b) * (d - b) = P at *
  generalize (e - a) * (e - a) + (f - b) * (f - b) = Q at *
  generalize dtI a b c d e f = u at *
  have k1 : (u + 1) * (u + 1) ≤ P * Q := Int.mul_le_mul (by omega) (by omega) (by omega) (by omega)
  have k2 : (u + 1) * (u + 1) = u * u + u + u + 1 := by grind
  omega
theorem pC_all {L : Int} {xs : List Int} {n : Nat} : aF (pC L xs) n 0 = (aF (pA L xs) n 0 && aF (pB xs) n 1) := by
  rw [Bool.eq_iff_iff, Bool.and_eq_true, aF_iff, aF_iff, aF_iff]
  constructor
  · intro h
    refine ⟨fun k _ h2 => ?_, fun k h1 h2 => ?_⟩
    · have := h k (Nat.zero_le _) h2
      unfold pC at this
      exact (Bool.and_eq_true _ _ ▸ this).1
    · have := h k (Nat.zero_le _) h2
      unfold pC at this
      have := (Bool.and_eq_true _ _ ▸ this).2
      rwa [decide_eq_false (show ¬ k = 0 by omega), Bool.false_or] at this
  · rintro ⟨h1, h2⟩ k _ h3
    unfold pC
    rw [h1 k (Nat.zero_le _) h3, Bool.true_and]
    rcases Nat.eq_zero_or_pos k with e | e
    · rw [decide_eq_true e]; rfl
    · rw [h2 k e h3, Bool.or_true]
theorem idK_of {L : Int} {xs : List Int} (h : aF (pA L xs) xs.length 0 = true) : idK L xs := fun k hk => by
  have := aF_iff.1 h k (Nat.zero_le _) hk
  unfold pA at this
  exact of_decide_eq_true this
theorem res_isF (ps : List Pt) (xs : List Int) (hv : allV ps = true) (hp : ps.length ≤ 1000000000) (hx : xs.length ≤ 1000000000) : Res Try.prog 94 [.row ps.length (.ints (flat ps)), .row xs.length (.ints xs)] (.bool (spV ps xs)) := by
  refine bodyV_res mixed ECc1_ok (m := 30) (n := 12) rfl ?_
  rw [tr_isF]
  simp only [Tree.ok, brT_ok, Nat.zero_add, Nat.add_zero, flat_get0, flat_get1, flat_length]
  have v0 := ptk_v hv xs 0
  have v1 := ptk_v hv xs 1
  have v2 := ptk_v hv xs 2
  unfold spV
  refine ⟨trivial, trivial, hx, trivial, hp, fun ha => ?_, fun ha => ?_⟩
  rotate_left
  · rw [ha]; rfl
  have hk := idK_of (Bool.and_eq_true _ _ ▸ (pC_all ▸ ha) : aF (pA ps.length xs) xs.length 0 = true ∧ aF (pB xs) xs.length 1 = true).1
  rw [ha, Bool.true_and]
  refine ⟨fun k1 => ?_, fun k1 => ⟨fun k2 => ?_, fun k2 => ⟨fun k3 => ?_, fun k3 => ?_⟩⟩⟩
  · have e : xs.length = 1 := by have := eq_of_beq k1; omega
    rw [if_pos e]
  · have n1 : xs.length ≠ 1 := fun h => by rw [h] at k1; cases k1
    have e : xs.length = 2 := by have := eq_of_beq k2; omega
    have g0 := idK_get hk (k := 0) (by omega)
    have g1 := idK_get hk (k := 1) (by omega)
    rw [if_neg n1, if_pos e]
    refine ⟨by omega, by omega, ⟨g0.1, g0.2.1⟩, by omega, by omega, by omega, ⟨g1.1, g1.2.1⟩, by omega, ?_⟩
    simp [eqQ, negB, ptk]
  · have n1 : xs.length ≠ 1 := fun h => by rw [h] at k1; cases k1
    have n2 : xs.length ≠ 2 := fun h => by rw [h] at k2; cases k2
    have e : xs.length = 3 := by have := eq_of_beq k3; omega
    have g0 := idK_get hk (k := 0) (by omega)
    have g1 := idK_get hk (k := 1) (by omega)
    have g2 := idK_get hk (k := 2) (by omega)
    rw [if_neg n1, if_neg n2, if_pos e]
    have hc := @ac_cross (ptk ps xs 0).1 (ptk ps xs 0).2 (ptk ps xs 1).1 (ptk ps xs 1).2 (ptk ps xs 2).1 (ptk ps xs 2).2
    refine ⟨by omega, by omega, ⟨g0.1, g0.2.1⟩, by omega, by omega, by omega, ⟨g1.1, g1.2.1⟩, by omega, by omega, by omega, ⟨g2.1, g2.2.1⟩, by omega, ?_⟩
    unfold ptk at *
    generalize ps.getD (xs.getD 0 0).toNat (0, 0) = A at *
    generalize ps.getD (xs.getD 1 0).toNat (0, 0) = B at *
    generalize ps.getD (xs.getD 2 0).toNat (0, 0) = C at *
    unfold acB at hc ⊢
    generalize crossI A.1 A.2 B.1 B.2 C.1 C.2 = X at *
    refine ⟨⟨v0, v1, v2⟩, fun q0 => ⟨⟨v0, v1, v2⟩, fun q1 => ⟨⟨v1, v0, v2⟩, fun q2 => ⟨⟨v2, v0, v1⟩, ?_⟩, fun q2 => ?_⟩, fun q1 => ?_⟩, fun q0 => ?_⟩
    · rw [q1, q2]; rfl
    · rw [q1, q2]; rfl
    · rw [q1]; rfl
    · have hX : X = 0 := by simpa using q0
      rcases hb : (decide (0 < dtI A.1 A.2 B.1 B.2 C.1 C.2) && (decide (0 < dtI B.1 B.2 A.1 A.2 C.1 C.2) && decide (0 < dtI C.1 C.2 A.1 A.2 B.1 B.2))) with _ | _
      · rfl
      · exact absurd hX (hc hb)
  · have n1 : xs.length ≠ 1 := fun h => by rw [h] at k1; cases k1
    have n2 : xs.length ≠ 2 := fun h => by rw [h] at k2; cases k2
    have n3 : xs.length ≠ 3 := fun h => by rw [h] at k3; cases k3
    rw [if_neg n1, if_neg n2, if_neg n3]
theorem res_enF (ps : List Pt) (xs : List Int) (hv : allV ps = true) (hp : ps.length ≤ 1000000000) (hk : idK ps.length xs) (h0 : 1 ≤ xs.length) (h3 : xs.length ≤ 3) : Res Try.prog 95 [.row ps.length (.ints (flat ps)), .row xs.length (.ints xs)] (.bool (aF (pE ps xs) ps.length 0)) := by
  refine bodyV_res mixed ECc1_ok (m := 30) (n := 12) rfl ?_
  rw [tr_enF]
  simp only [Tree.ok, brT_ok, ptsA_flat, flat_length]
  exact ⟨trivial, trivial, hp, trivial, hv, hk, h0, h3, fun h => by rw [h], fun h => by rw [h]⟩
/-- Is a point only one of a circle? -/
def e1P (ps : List Pt) (a b : Int) (k : Nat) : Bool := eqQ a b (ps.getD k (0, 0)).1 (ps.getD k (0, 0)).2
noncomputable def c_ce1 : Code := ((loopsOf (codeOf Try.f48))[0]?).getD .skip
def k_ce1 : Ex → List Nat := keeps [5, 17, 18, 19] [(0, [])] [4]
def s_ce1 (ps : List Pt) (ks : List Int) (a b : Int) : Nat → St := fun i => ⟨[topV, topV, topV, topV, topV, .iface 149 (.agg #[.int .i64 a, .int .i64 b]), topV, topV, topV, topV, topV, topV, topV, topV, topV, topV, topV, .slice (some ⟨0, 0, none⟩) ps.length ps.length, .int .i64 ps.length, .int .i64 i, topV, topV, topV, topV, topV, topV, topV, topV], [some ⟨.view, .ints (flat ps)⟩, some ⟨.view, .ints ks⟩]⟩
def re_ce1 (ps : List Pt) (ks : List Int) (a b : Int) : Nat → Ex := fun i => bif aF (e1P ps a b) ps.length i then .exit 0 else .ret
def rs_ce1 (ps : List Pt) (ks : List Int) (a b : Int) : Nat → St := fun i => bif aF (e1P ps a b) ps.length i then ⟨[topV, topV, topV, topV, topV, topV, topV, topV, topV, topV, topV, topV, topV, topV, topV, topV, topV, topV, topV, topV, topV, topV, topV, topV, topV, topV, topV, topV], [some ⟨.view, .ints (flat ps)⟩, some ⟨.view, .ints ks⟩]⟩ else ⟨[topV, topV, topV, topV, .bool false, topV, topV, topV, topV, topV, topV, topV, topV, topV, topV, topV, topV, topV, topV, topV, topV, topV, topV, topV, topV, topV, topV, topV], [some ⟨.view, .ints (flat ps)⟩, some ⟨.view, .ints ks⟩]⟩
set_option maxRecDepth 100000 in
theorem tr_ce1 (ps : List Pt) (ks : List Int) (a b : Int) (i : Nat) : bodyL Try.prog ECd0 30 12 noL 1 c_ce1 k_ce1 16 (s_ce1 ps ks a b i) = brT (decide ((↑i : Int) < (↑ps.length : Int))) (.need ((0 : Int) ≤ (↑i : Int) ∧ (↑i : Int) < (↑ps.length : Int)) (.need ((0 : Nat) + (↑i : Int).toNat * (2 : Nat) + (2 : Nat) ≤ (flat ps).length) (brT (!eqQ a b ((flat ps).getD (0 + (↑i : Int).toNat * 2) 0) ((flat ps).getD (0 + (↑i : Int).toNat * 2 + 1) 0)) (.leaf .ret ⟨[topV, topV, topV, topV, .bool (false), topV, topV, topV, topV, topV, topV, topV, topV, topV, topV, topV, topV, topV, topV, topV, topV, topV, topV, topV, topV, topV, topV, topV], [some ⟨.view, .ints (flat ps)⟩, some ⟨.view, .ints (ks)⟩, some ⟨.box, .vals [.int .i64 ((flat ps).getD (0 + (↑i : Int).toNat * 2) 0), .int .i64 ((flat ps).getD (0 + (↑i : Int).toNat * 2 + 1) 0)]⟩]⟩) (.leaf .normal ⟨[topV, topV, topV, topV, topV, .iface 149 (.agg #[.int .i64 (a), .int .i64 (b)]), topV, topV, topV, topV, topV, topV, topV, topV, topV, topV, topV, .slice (some ⟨0, 0, none⟩) (ps.length) (ps.length), .int .i64 ((↑ps.length : Int)), .int .i64 (IntKind.i64.wrap ((↑i : Int) + 1)), topV, topV, topV, topV, topV, topV, topV, topV], [some ⟨.view, .ints (flat ps)⟩, some ⟨.view, .ints (ks)⟩, some ⟨.box, .vals [.int .i64 ((flat ps).getD (0 + (↑i : Int).toNat * 2) 0), .int .i64 ((flat ps).getD (0 + (↑i : Int).toNat * 2 + 1) 0)]⟩]⟩)))) (.leaf (.exit 0) ⟨[topV, topV, topV, topV, topV, topV, topV, topV, topV, topV, topV, topV, topV, topV, topV, topV, topV, topV, topV, topV, topV, topV, topV, topV, topV, topV, topV, topV], [some ⟨.view, .ints (flat ps)⟩, some ⟨.view, .ints (ks)⟩]⟩) := by kernel_rfl
set_option maxRecDepth 100000 in
theorem nl_ce1 : loopsOf c_ce1 = [] := by kernel_rfl
def inv_ce1 (ps : List Pt) (ks : List Int) (a b : Int) : Nat → Prop := fun i => i ≤ ps.length
def me_ce1 (ps : List Pt) (ks : List Int) (a b : Int) : Nat → Nat := fun i => ps.length - i
/-- A round of this loop. -/
def Round_ce1 (ps : List Pt) (ks : List Int) (a b : Int) : Prop := ∀ xx : Nat, inv_ce1 ps ks a b xx → (bodyL Try.prog ECd0 30 12 noL 1 c_ce1 k_ce1 16 (s_ce1 ps ks a b xx)).ok (RoundEnd 2 (s_ce1 ps ks a b) (inv_ce1 ps ks a b) (me_ce1 ps ks a b) (re_ce1 ps ks a b) (rs_ce1 ps ks a b) xx) (fun _ _ => False)
def e_ce1 (s : St) (k : Ex → St → Tree) : Option Tree := match Nat.beq s.tmps.length 28, pickL s.tmps [5, 17, 18, 19], s.mem with
  | true, [.iface 149 (.agg ⟨[.int .i64 a, .int .i64 b]⟩), .slice (some ⟨0, 0, none⟩) n _, .int .i64 n1, .int .i64 i0], [some ⟨.view, .ints xs⟩, some ⟨.view, .ints ks⟩] => some (needs [n1 = n, i0 = 0, xs.length = n * 2, allV (ptsA n xs) = true, n ≤ 1000000000] (brT (aF (e1P (ptsA n xs) a b) n 0) (k (.exit 0) ⟨[topV, topV, topV, topV, topV, topV, topV, topV, topV, topV, topV, topV, topV, topV, topV, topV, topV, topV, topV, topV, topV, topV, topV, topV, topV, topV, topV, topV], [some ⟨.view, .ints xs⟩, some ⟨.view, .ints ks⟩]⟩) (k .ret ⟨[topV, topV, topV, topV, .bool false, topV, topV, topV, topV, topV, topV, topV, topV, topV, topV, topV, topV, topV, topV, topV, topV, topV, topV, topV, topV, topV, topV, topV], [some ⟨.view, .ints xs⟩, some ⟨.view, .ints ks⟩]⟩)))
  | _, _, _ => none
set_option maxRecDepth 100000 in
theorem round_ce1 (ps : List Pt) (ks : List Int) (a b : Int) (hv : allV ps = true) (h : ps.length ≤ 1000000000) : Round_ce1 ps ks a b := by
  intro i h1
  have h1 : i ≤ ps.length := h1
  rw [tr_ce1]
  simp only [brT_ok, Tree.ok, decide_eq_true_eq, decide_eq_false_iff_not, Int.toNat_natCast, Nat.zero_add, Nat.add_zero, flat_length, flat_get0, flat_get1]
  refine ⟨fun hlt => ?_, fun hge => ?_⟩
  · rw [wsucc (n := ps.length) (by omega) h]
    have hs := aF_step (p := e1P ps a b) (n := ps.length) (i := i) (by omega)
    obtain ⟨x1, x2, x3, x4⟩ := allV_get hv i
    refine ⟨by omega, by omega, fun g0 => ?_, fun g0 => ?_⟩
    · have e : aF (e1P ps a b) ps.length i = false := by
        rw [hs, show e1P ps a b i = false by simpa [e1P] using g0, Bool.false_and]
      refine ⟨by simp only [re_ce1, e, cond_false], [], ?_⟩
      simp only [rs_ce1, e, cond_false]
      repeat' (first | exact True.intro | exact rfl | exact fun _ => rfl | (simp; done) | refine And.intro ?_ ?_)
    · have e : aF (e1P ps a b) ps.length i = aF (e1P ps a b) ps.length (i + 1) := by
        rw [hs, show e1P ps a b i = true by simpa [e1P] using g0, Bool.true_and]
      refine ⟨i + 1, [], ?_, ?_, by simp only [re_ce1, e], by simp only [rs_ce1, e], ?_⟩
      · show i + 1 ≤ ps.length; omega
      · show ps.length - (i + 1) < ps.length - i; omega
      · repeat' (first | exact True.intro | exact rfl | exact fun _ => rfl | (simp; done) | refine And.intro ?_ ?_)
  · have e : aF (e1P ps a b) ps.length i = true := aF_end (by omega)
    refine ⟨by simp only [re_ce1, e, cond_true], [], ?_⟩
    simp only [rs_ce1, e, cond_true]
    repeat' (first | exact True.intro | exact rfl | exact fun _ => rfl | (simp; done) | refine And.intro ?_ ?_)
set_option maxRecDepth 100000 in
theorem lg_ce1 : LoopE Try.prog e_ce1 c_ce1 := by
  intro s k t F H hlt ht
  unfold e_ce1 at hlt
  split at hlt
  rotate_left
  · cases hlt
  rename_i hlen hpick hmem
  obtain ⟨tmps, mem⟩ := s
  simp only at hlen hpick hmem
  subst hmem
  obtain rfl := Option.some.inj hlt
  obtain ⟨⟨rfl, rfl, h1, h2, h3, _⟩, ht2⟩ := needs_ok ht
  clear ht hlt
  obtain ⟨ps, rfl, rfl⟩ := even_flat h1
  rw [ptsA_flat] at ht2 h2
  refine ⟨_, _, pick2k ht2, loop_run2 mixed ECd0_ok (s_ce1 ps _ _ _) (inv_ce1 ps _ _ _) (me_ce1 ps _ _ _) (re_ce1 ps _ _ _) (rs_ce1 ps _ _ _) k_ce1 (fun _ => rfl) (noLoops nl_ce1) (round_ce1 ps _ _ _ h2 h3) (x := 0) (Nat.zero_le _) (π := []) rfl ?_⟩
  refine ⟨rfl, rfl, ?_, wvs_spread' [5, 17, 18, 19] hlen rfl ?_⟩
  · repeat' (first | exact True.intro | exact rfl | exact wv_top _ _ | exact fun _ => rfl | assumption | exact Eq.symm (by assumption) | exact vI0 rfl | refine And.intro ?_ ?_)
  · rw [hpick]
    repeat' (first | exact True.intro | exact rfl | exact wv_top _ _ | exact fun _ => rfl | assumption | exact Eq.symm (by assumption) | exact vI0 rfl | refine And.intro ?_ ?_)
/-- Is a point seen under an obtuse or right angle? -/
def e2P (ps : List Pt) (a b c d : Int) (k : Nat) : Bool := decide (dtI (ps.getD k (0, 0)).1 (ps.getD k (0, 0)).2 a b c d ≤ 0)
noncomputable def c_ce2 : Code := ((loopsOf (codeOf Try.f48))[0]?).getD .skip
def k_ce2 : Ex → List Nat := keeps [5, 17, 18, 19] [(0, [])] [4]
def s_ce2 (ps : List Pt) (ks : List Int) (a b c d : Int) : Nat → St := fun i => ⟨[topV, topV, topV, topV, topV, .iface 151 (.agg #[.int .i64 a, .int .i64 b, .int .i64 c, .int .i64 d]), topV, topV, topV, topV, topV, topV, topV, topV, topV, topV, topV, .slice (some ⟨0, 0, none⟩) ps.length ps.length, .int .i64 ps.length, .int .i64 i, topV, topV, topV, topV, topV, topV, topV, topV], [some ⟨.view, .ints (flat ps)⟩, some ⟨.view, .ints ks⟩, some ⟨.dead, .vals []⟩]⟩
def re_ce2 (ps : List Pt) (ks : List Int) (a b c d : Int) : Nat → Ex := fun i => bif aF (e2P ps a b c d) ps.length i then .exit 0 else .ret
def rs_ce2 (ps : List Pt) (ks : List Int) (a b c d : Int) : Nat → St := fun i => bif aF (e2P ps a b c d) ps.length i then ⟨[topV, topV, topV, topV, topV, topV, topV, topV, topV, topV, topV, topV, topV, topV, topV, topV, topV, topV, topV, topV, topV, topV, topV, topV, topV, topV, topV, topV], [some ⟨.view, .ints (flat ps)⟩, some ⟨.view, .ints ks⟩, some ⟨.dead, .vals []⟩]⟩ else ⟨[topV, topV, topV, topV, .bool false, topV, topV, topV, topV, topV, topV, topV, topV, topV, topV, topV, topV, topV, topV, topV, topV, topV, topV, topV, topV, topV, topV, topV], [some ⟨.view, .ints (flat ps)⟩, some ⟨.view, .ints ks⟩, some ⟨.dead, .vals []⟩]⟩
set_option maxRecDepth 100000 in
theorem tr_ce2 (ps : List Pt) (ks : List Int) (a b c d : Int) (i : Nat) : bodyL Try.prog ECd0 30 12 noL 1 c_ce2 k_ce2 16 (s_ce2 ps ks a b c d i) = brT (decide ((↑i : Int) < (↑ps.length : Int))) (.need ((0 : Int) ≤ (↑i : Int) ∧ (↑i : Int) < (↑ps.length : Int)) (.need ((0 : Nat) + (↑i : Int).toNat * (2 : Nat) + (2 : Nat) ≤ (flat ps).length) (.need (p3B a b c d ((flat ps).getD ((0 : Nat) + (↑i : Int).toNat * (2 : Nat)) (0 : Int)) ((flat ps).getD ((0 : Nat) + (↑i : Int).toNat * (2 : Nat) + (1 : Nat)) (0 : Int))) (brT (!decide (dtI ((flat ps).getD (0 + (↑i : Int).toNat * 2) 0) ((flat ps).getD (0 + (↑i : Int).toNat * 2 + 1) 0) a b c d ≤ 0)) (.leaf .ret ⟨[topV, topV, topV, topV, .bool (false), topV, topV, topV, topV, topV, topV, topV, topV, topV, topV, topV, topV, topV, topV, topV, topV, topV, topV, topV, topV, topV, topV, topV], [some ⟨.view, .ints (flat ps)⟩, some ⟨.view, .ints (ks)⟩, some deadB, some ⟨.box, .vals [.int .i64 ((flat ps).getD (0 + (↑i : Int).toNat * 2) 0), .int .i64 ((flat ps).getD (0 + (↑i : Int).toNat * 2 + 1) 0)]⟩]⟩) (.leaf .normal ⟨[topV, topV, topV, topV, topV, .iface 151 (.agg #[.int .i64 (a), .int .i64 (b), .int .i64 (c), .int .i64 (d)]), topV, topV, topV, topV, topV, topV, topV, topV, topV, topV, topV, .slice (some ⟨0, 0, none⟩) (ps.length) (ps.length), .int .i64 ((↑ps.length : Int)), .int .i64 (IntKind.i64.wrap ((↑i : Int) + 1)), topV, topV, topV, topV, topV, topV, topV, topV], [some ⟨.view, .ints (flat ps)⟩, some ⟨.view, .ints (ks)⟩, some deadB, some ⟨.box, .vals [.int .i64 ((flat ps).getD (0 + (↑i : Int).toNat * 2) 0), .int .i64 ((flat ps).getD (0 + (↑i : Int).toNat * 2 + 1) 0)]⟩]⟩))))) (.leaf (.exit 0) ⟨[topV, topV, topV, topV, topV, topV, topV, topV, topV, topV, topV, topV, topV, topV, topV, topV, topV, topV, topV, topV, topV, topV, topV, topV, topV, topV, topV, topV], [some ⟨.view, .ints (flat ps)⟩, some ⟨.view, .ints (ks)⟩, some deadB]⟩) := by kernel_rfl
set_option maxRecDepth 100000 in
theorem nl_ce2 : loopsOf c_ce2 = [] := by kernel_rfl
def inv_ce2 (ps : List Pt) (ks : List Int) (a b c d : Int) : Nat → Prop := fun i => i ≤ ps.length
def me_ce2 (ps : List Pt) (ks : List Int) (a b c d : Int) : Nat → Nat := fun i => ps.length - i
/-- A round of this loop. -/
def Round_ce2 (ps : List Pt) (ks : List Int) (a b c d : Int) : Prop := ∀ xx : Nat, inv_ce2 ps ks a b c d xx → (bodyL Try.prog ECd0 30 12 noL 1 c_ce2 k_ce2 16 (s_ce2 ps ks a b c d xx)).ok (RoundEnd 3 (s_ce2 ps ks a b c d) (inv_ce2 ps ks a b c d) (me_ce2 ps ks a b c d) (re_ce2 ps ks a b c d) (rs_ce2 ps ks a b c d) xx) (fun _ _ => False)
def e_ce2 (s : St) (k : Ex → St → Tree) : Option Tree := match Nat.beq s.tmps.length 28, pickL s.tmps [5, 17, 18, 19], s.mem with
  | true, [.iface 151 (.agg ⟨[.int .i64 a, .int .i64 b, .int .i64 c, .int .i64 d]⟩), .slice (some ⟨0, 0, none⟩) n _, .int .i64 n1, .int .i64 i0], [some ⟨.view, .ints xs⟩, some ⟨.view, .ints ks⟩, _] => some (needs [n1 = n, i0 = 0, xs.length = n * 2, allV (ptsA n xs) = true, n ≤ 1000000000, ptB a b = true, ptB c d = true] (brT (aF (e2P (ptsA n xs) a b c d) n 0) (k (.exit 0) ⟨[topV, topV, topV, topV, topV, topV, topV, topV, topV, topV, topV, topV, topV, topV, topV, topV, topV, topV, topV, topV, topV, topV, topV, topV, topV, topV, topV, topV], [some ⟨.view, .ints xs⟩, some ⟨.view, .ints ks⟩, some ⟨.dead, .vals []⟩]⟩) (k .ret ⟨[topV, topV, topV, topV, .bool false, topV, topV, topV, topV, topV, topV, topV, topV, topV, topV, topV, topV, topV, topV, topV, topV, topV, topV, topV, topV, topV, topV, topV], [some ⟨.view, .ints xs⟩, some ⟨.view, .ints ks⟩, some ⟨.dead, .vals []⟩]⟩)))
  | _, _, _ => none
set_option maxRecDepth 100000 in
theorem round_ce2 (ps : List Pt) (ks : List Int) (a b c d : Int) (hv : allV ps = true) (h : ps.length ≤ 1000000000) (g0 : ptB a b = true) (g1 : ptB c d = true) : Round_ce2 ps ks a b c d := by
  intro i h1
  have h1 : i ≤ ps.length := h1
  rw [tr_ce2]
  simp only [brT_ok, Tree.ok, decide_eq_true_eq, decide_eq_false_iff_not, Int.toNat_natCast, Nat.zero_add, Nat.add_zero, flat_length, flat_get0, flat_get1]
  refine ⟨fun hlt => ?_, fun hge => ?_⟩
  · rw [wsucc (n := ps.length) (by omega) h]
    have hs := aF_step (p := e2P ps a b c d) (n := ps.length) (i := i) (by omega)
    obtain ⟨x1, x2, x3, x4⟩ := allV_get hv i
    refine ⟨by omega, by omega, ⟨g0, g1, decide_eq_true (by omega)⟩, fun g0 => ?_, fun g0 => ?_⟩
    · have e : aF (e2P ps a b c d) ps.length i = false := by
        rw [hs, show e2P ps a b c d i = false by simpa [e2P] using g0, Bool.false_and]
      refine ⟨by simp only [re_ce2, e, cond_false], [], ?_⟩
      simp only [rs_ce2, e, cond_false]
      repeat' (first | exact True.intro | exact rfl | exact fun _ => rfl | (simp; done) | refine And.intro ?_ ?_)
    · have e : aF (e2P ps a b c d) ps.length i = aF (e2P ps a b c d) ps.length (i + 1) := by
        rw [hs, show e2P ps a b c d i = true by simpa [e2P] using g0, Bool.true_and]
      refine ⟨i + 1, [], ?_, ?_, by simp only [re_ce2, e], by simp only [rs_ce2, e], ?_⟩
      · show i + 1 ≤ ps.length; omega
      · show ps.length - (i + 1) < ps.length - i; omega
      · repeat' (first | exact True.intro | exact rfl | exact fun _ => rfl | (simp; done) | refine And.intro ?_ ?_)
  · have e : aF (e2P ps a b c d) ps.length i = true := aF_end (by omega)
    refine ⟨by simp only [re_ce2, e, cond_true], [], ?_⟩
    simp only [rs_ce2, e, cond_true]
    repeat' (first | exact True.intro | exact rfl | exact fun _ => rfl | (simp; done) | refine And.intro ?_ ?_)
set_option maxRecDepth 100000 in
theorem lg_ce2 : LoopE Try.prog e_ce2 c_ce2 := by
  intro s k t F H hlt ht
  unfold e_ce2 at hlt
  split at hlt
  rotate_left
  · cases hlt
  rename_i hlen hpick hmem
  obtain ⟨tmps, mem⟩ := s
  simp only at hlen hpick hmem
  subst hmem
  obtain rfl := Option.some.inj hlt
  obtain ⟨⟨rfl, rfl, h1, h2, h3, g0, g1, _⟩, ht2⟩ := needs_ok ht
  clear ht hlt
  obtain ⟨ps, rfl, rfl⟩ := even_flat h1
  rw [ptsA_flat] at ht2 h2
  refine ⟨_, _, pick2k ht2, loop_run2 mixed ECd0_ok (s_ce2 ps _ _ _ _ _) (inv_ce2 ps _ _ _ _ _) (me_ce2 ps _ _ _ _ _) (re_ce2 ps _ _ _ _ _) (rs_ce2 ps _ _ _ _ _) k_ce2 (fun _ => rfl) (noLoops nl_ce2) (round_ce2 ps _ _ _ _ _ h2 h3 g0 g1) (x := 0) (Nat.zero_le _) (π := []) rfl ?_⟩
  refine ⟨rfl, rfl, ?_, wvs_spread' [5, 17, 18, 19] hlen rfl ?_⟩
  · repeat' (first | exact True.intro | exact rfl | exact wv_top _ _ | exact fun _ => rfl | assumption | exact Eq.symm (by assumption) | exact vI0 rfl | refine And.intro ?_ ?_)
  · rw [hpick]
    repeat' (first | exact True.intro | exact rfl | exact wv_top _ _ | exact fun _ => rfl | assumption | exact Eq.symm (by assumption) | exact vI0 rfl | refine And.intro ?_ ?_)
/-- Is a point not outside? -/
def e3P (ps : List Pt) (a b c d e f : Int) (k : Nat) : Bool := decide (0 ≤ deI a b c d e f (ps.getD k (0, 0)).1 (ps.getD k (0, 0)).2 * cmpI (crossI a b c d e f) 0)
noncomputable def c_ce3 : Code := ((loopsOf (codeOf Try.f48))[0]?).getD .skip
def k_ce3 : Ex → List Nat := keeps [5, 17, 18, 19] [(0, [])] [4]
def s_ce3 (ps : List Pt) (ks : List Int) (a b c d e f : Int) : Nat → St := fun i => ⟨[topV, topV, topV, topV, topV, .iface 153 (.agg #[.int .i64 a, .int .i64 b, .int .i64 c, .int .i64 d, .int .i64 e, .int .i64 f]), topV, topV, topV, topV, topV, topV, topV, topV, topV, topV, topV, .slice (some ⟨0, 0, none⟩) ps.length ps.length, .int .i64 ps.length, .int .i64 i, topV, topV, topV, topV, topV, topV, topV, topV], [some ⟨.view, .ints (flat ps)⟩, some ⟨.view, .ints ks⟩, some ⟨.dead, .vals []⟩, none]⟩
def re_ce3 (ps : List Pt) (ks : List Int) (a b c d e f : Int) : Nat → Ex := fun i => bif aF (e3P ps a b c d e f) ps.length i then .exit 0 else .ret
def rs_ce3 (ps : List Pt) (ks : List Int) (a b c d e f : Int) : Nat → St := fun i => bif aF (e3P ps a b c d e f) ps.length i then ⟨[topV, topV, topV, topV, topV, topV, topV, topV, topV, topV, topV, topV, topV, topV, topV, topV, topV, topV, topV, topV, topV, topV, topV, topV, topV, topV, topV, topV], [some ⟨.view, .ints (flat ps)⟩, some ⟨.view, .ints ks⟩, some ⟨.dead, .vals []⟩, none]⟩ else ⟨[topV, topV, topV, topV, .bool false, topV, topV, topV, topV, topV, topV, topV, topV, topV, topV, topV, topV, topV, topV, topV, topV, topV, topV, topV, topV, topV, topV, topV], [some ⟨.view, .ints (flat ps)⟩, some ⟨.view, .ints ks⟩, some ⟨.dead, .vals []⟩, none]⟩
set_option maxRecDepth 100000 in
theorem tr_ce3 (ps : List Pt) (ks : List Int) (a b c d e f : Int) (i : Nat) : bodyL Try.prog ECd0 30 12 noL 1 c_ce3 k_ce3 16 (s_ce3 ps ks a b c d e f i) = brT (decide ((↑i : Int) < (↑ps.length : Int))) (.need ((0 : Int) ≤ (↑i : Int) ∧ (↑i : Int) < (↑ps.length : Int)) (.need ((0 : Nat) + (↑i : Int).toNat * (2 : Nat) + (2 : Nat) ≤ (flat ps).length) (.need (p4B a b c d e f ((flat ps).getD ((0 : Nat) + (↑i : Int).toNat * (2 : Nat)) (0 : Int)) ((flat ps).getD ((0 : Nat) + (↑i : Int).toNat * (2 : Nat) + (1 : Nat)) (0 : Int))) (brT (!decide (0 ≤ deI a b c d e f ((flat ps).getD (0 + (↑i : Int).toNat * 2) 0) ((flat ps).getD (0 + (↑i : Int).toNat * 2 + 1) 0) * cmpI (crossI a b c d e f) 0)) (.leaf .ret ⟨[topV, topV, topV, topV, .bool (false), topV, topV, topV, topV, topV, topV, topV, topV, topV, topV, topV, topV, topV, topV, topV, topV, topV, topV, topV, topV, topV, topV, topV], [some ⟨.view, .ints (flat ps)⟩, some ⟨.view, .ints (ks)⟩, some deadB, none, some ⟨.box, .vals [.int .i64 ((flat ps).getD (0 + (↑i : Int).toNat * 2) 0), .int .i64 ((flat ps).getD (0 + (↑i : Int).toNat * 2 + 1) 0)]⟩]⟩) (.leaf .normal ⟨[topV, topV, topV, topV, topV, .iface 153 (.agg #[.int .i64 (a), .int .i64 (b), .int .i64 (c), .int .i64 (d), .int .i64 (e), .int .i64 (f)]), topV, topV, topV, topV, topV, topV, topV, topV, topV, topV, topV, .slice (some ⟨0, 0, none⟩) (ps.length) (ps.length), .int .i64 ((↑ps.length : Int)), .int .i64 (IntKind.i64.wrap ((↑i : Int) + 1)), topV, topV, topV, topV, topV, topV, topV, topV], [some ⟨.view, .ints (flat ps)⟩, some ⟨.view, .ints (ks)⟩, some deadB, none, some ⟨.box, .vals [.int .i64 ((flat ps).getD (0 + (↑i : Int).toNat * 2) 0), .int .i64 ((flat ps).getD (0 + (↑i : Int).toNat * 2 + 1) 0)]⟩]⟩))))) (.leaf (.exit 0) ⟨[topV, topV, topV, topV, topV, topV, topV, topV, topV, topV, topV, topV, topV, topV, topV, topV, topV, topV, topV, topV, topV, topV, topV, topV, topV, topV, topV, topV], [some ⟨.view, .ints (flat ps)⟩, some ⟨.view, .ints (ks)⟩, some deadB, none]⟩) := by kernel_rfl
set_option maxRecDepth 100000 in
theorem nl_ce3 : loopsOf c_ce3 = [] := by kernel_rfl
def inv_ce3 (ps : List Pt) (ks : List Int) (a b c d e f : Int) : Nat → Prop := fun i => i ≤ ps.length
def me_ce3 (ps : List Pt) (ks : List Int) (a b c d e f : Int) : Nat → Nat := fun i => ps.length - i
/-- A round of this loop. -/
def Round_ce3 (ps : List Pt) (ks : List Int) (a b c d e f : Int) : Prop := ∀ xx : Nat, inv_ce3 ps ks a b c d e f xx → (bodyL Try.prog ECd0 30 12 noL 1 c_ce3 k_ce3 16 (s_ce3 ps ks a b c d e f xx)).ok (RoundEnd 4 (s_ce3 ps ks a b c d e f) (inv_ce3 ps ks a b c d e f) (me_ce3 ps ks a b c d e f) (re_ce3 ps ks a b c d e f) (rs_ce3 ps ks a b c d e f) xx) (fun _ _ => False)
def e_ce3 (s : St) (k : Ex → St → Tree) : Option Tree := match Nat.beq s.tmps.length 28, pickL s.tmps [5, 17, 18, 19], s.mem with
  | true, [.iface 153 (.agg ⟨[.int .i64 a, .int .i64 b, .int .i64 c, .int .i64 d, .int .i64 e, .int .i64 f]⟩), .slice (some ⟨0, 0, none⟩) n _, .int .i64 n1, .int .i64 i0], [some ⟨.view, .ints xs⟩, some ⟨.view, .ints ks⟩, _, none] => some (needs [n1 = n, i0 = 0, xs.length = n * 2, allV (ptsA n xs) = true, n ≤ 1000000000, ptB a b = true, ptB c d = true, ptB e f = true] (brT (aF (e3P (ptsA n xs) a b c d e f) n 0) (k (.exit 0) ⟨[topV, topV, topV, topV, topV, topV, topV, topV, topV, topV, topV, topV, topV, topV, topV, topV, topV, topV, topV, topV, topV, topV, topV, topV, topV, topV, topV, topV], [some ⟨.view, .ints xs⟩, some ⟨.view, .ints ks⟩, some ⟨.dead, .vals []⟩, none]⟩) (k .ret ⟨[topV, topV, topV, topV, .bool false, topV, topV, topV, topV, topV, topV, topV, topV, topV, topV, topV, topV, topV, topV, topV, topV, topV, topV, topV, topV, topV, topV, topV], [some ⟨.view, .ints xs⟩, some ⟨.view, .ints ks⟩, some ⟨.dead, .vals []⟩, none]⟩)))
  | _, _, _ => none
set_option maxRecDepth 100000 in
theorem round_ce3 (ps : List Pt) (ks : List Int) (a b c d e f : Int) (hv : allV ps = true) (h : ps.length ≤ 1000000000) (g0 : ptB a b = true) (g1 : ptB c d = true) (g2 : ptB e f = true) : Round_ce3 ps ks a b c d e f := by
  intro i h1
  have h1 : i ≤ ps.length := h1
  rw [tr_ce3]
  simp only [brT_ok, Tree.ok, decide_eq_true_eq, decide_eq_false_iff_not, Int.toNat_natCast, Nat.zero_add, Nat.add_zero, flat_length, flat_get0, flat_get1]
  refine ⟨fun hlt => ?_, fun hge => ?_⟩
  · rw [wsucc (n := ps.length) (by omega) h]
    have hs := aF_step (p := e3P ps a b c d e f) (n := ps.length) (i := i) (by omega)
    obtain ⟨x1, x2, x3, x4⟩ := allV_get hv i
    refine ⟨by omega, by omega, ⟨g0, g1, g2, decide_eq_true (by omega)⟩, fun g0 => ?_, fun g0 => ?_⟩
    · have e : aF (e3P ps a b c d e f) ps.length i = false := by
        rw [hs, show e3P ps a b c d e f i = false by simpa [e3P] using g0, Bool.false_and]
      refine ⟨by simp only [re_ce3, e, cond_false], [], ?_⟩
      simp only [rs_ce3, e, cond_false]
      repeat' (first | exact True.intro | exact rfl | exact fun _ => rfl | (simp; done) | refine And.intro ?_ ?_)
    · have e : aF (e3P ps a b c d e f) ps.length i = aF (e3P ps a b c d e f) ps.length (i + 1) := by
        rw [hs, show e3P ps a b c d e f i = true by simpa [e3P] using g0, Bool.true_and]
      refine ⟨i + 1, [], ?_, ?_, by simp only [re_ce3, e], by simp only [rs_ce3, e], ?_⟩
      · show i + 1 ≤ ps.length; omega
      · show ps.length - (i + 1) < ps.length - i; omega
      · repeat' (first | exact True.intro | exact rfl | exact fun _ => rfl | (simp; done) | refine And.intro ?_ ?_)
  · have e : aF (e3P ps a b c d e f) ps.length i = true := aF_end (by omega)
    refine ⟨by simp only [re_ce3, e, cond_true], [], ?_⟩
    simp only [rs_ce3, e, cond_true]
    repeat' (first | exact True.intro | exact rfl | exact fun _ => rfl | (simp; done) | refine And.intro ?_ ?_)
set_option maxRecDepth 100000 in
theorem lg_ce3 : LoopE Try.prog e_ce3 c_ce3 := by
  intro s k t F H hlt ht
  unfold e_ce3 at hlt
  split at hlt
  rotate_left
  · cases hlt
  rename_i hlen hpick hmem
  obtain ⟨tmps, mem⟩ := s
  simp only at hlen hpick hmem
  subst hmem
  obtain rfl := Option.some.inj hlt
  obtain ⟨⟨rfl, rfl, h1, h2, h3, g0, g1, g2, _⟩, ht2⟩ := needs_ok ht
  clear ht hlt
  obtain ⟨ps, rfl, rfl⟩ := even_flat h1
  rw [ptsA_flat] at ht2 h2
  refine ⟨_, _, pick2k ht2, loop_run2 mixed ECd0_ok (s_ce3 ps _ _ _ _ _ _ _) (inv_ce3 ps _ _ _ _ _ _ _) (me_ce3 ps _ _ _ _ _ _ _) (re_ce3 ps _ _ _ _ _ _ _) (rs_ce3 ps _ _ _ _ _ _ _) k_ce3 (fun _ => rfl) (noLoops nl_ce3) (round_ce3 ps _ _ _ _ _ _ _ h2 h3 g0 g1 g2) (x := 0) (Nat.zero_le _) (π := []) rfl ?_⟩
  refine ⟨rfl, rfl, ?_, wvs_spread' [5, 17, 18, 19] hlen rfl ?_⟩
  · repeat' (first | exact True.intro | exact rfl | exact wv_top _ _ | exact fun _ => rfl | assumption | exact Eq.symm (by assumption) | exact vI0 rfl | refine And.intro ?_ ?_)
  · rw [hpick]
    repeat' (first | exact True.intro | exact rfl | exact wv_top _ _ | exact fun _ => rfl | assumption | exact Eq.symm (by assumption) | exact vI0 rfl | refine And.intro ?_ ?_)
end Go.Proofs.Ytolodncpegajkaa
namespace Go.Proofs.Ytolodncpegajkaa
set_option linter.all false
open Go.RowKit
theorem loopE_orC {P : Program} {e1 e2 : St → (Ex → St → Tree) → Option Tree} {c : Code} (h1 : LoopE P e1 c) (h2 : LoopE P e2 c) : LoopE P (fun s k => match e1 s k with
    | some t => some t
    | none => e2 s k) c := by
  intro s k t F H h ht
  simp only at h
  split at h
  · rename_i t' h'
    obtain rfl : t' = t := by simpa using h
    exact h1 s k _ F H h' ht
  · exact h2 s k t F H h ht
def e_ce (s : St) (k : Ex → St → Tree) : Option Tree := match e_ce1 s k with
  | some t => some t
  | none => (match e_ce2 s k with
    | some t => some t
    | none => e_ce3 s k)
theorem lg_ce : LoopE Try.prog e_ce c_ce1 := loopE_orC lg_ce1 (loopE_orC lg_ce2 lg_ce3)
theorem Lr_ce {fn : Func} (hf : Try.prog.funcs[48]? = some fn) : LoopsGood Try.prog (lt1 e_ce) 0 (codeOf fn) := by
  obtain rfl := fn_is Try.func48 hf
  exact lt1_good lg_ce
def LCe : FuncId → LT := fun f => match f with
  | 48 => lt1 e_ce
  | _ => noL
theorem LCe_ok : ∀ f fn, Try.prog.funcs[f]? = some fn → LoopsGood Try.prog (LCe f) 0 (codeOf fn) := by
  intro f fn hf
  unfold LCe
  split
  all_goals first | with_reducible exact Lr_ce hf | exact noL_good
def pIsF : List DArg → Option (Value × List Prop)
  | [.row m (.ints xs), .row n (.ints ks)] => some (.bool (spV (ptsA m xs) ks), [m * 2 ≤ xs.length, m ≤ 1000000000, allV (ptsA m xs) = true, ks.length = n, n ≤ 1000000000])
  | _ => none
def pEnF : List DArg → Option (Value × List Prop)
  | [.row m (.ints xs), .row n (.ints ks)] => some (.bool (aF (pE (ptsA m xs) ks) m 0), [m * 2 ≤ xs.length, m ≤ 1000000000, allV (ptsA m xs) = true, ks.length = n, idK m ks, 1 ≤ n, n ≤ 3])
  | _ => none
theorem pIsF_ok {ds : List DArg} {v : Value} {C : List Prop} (h : pIsF ds = some (v, C)) (hC : AllP C) : Res Try.prog 94 ds v := by
  unfold pIsF at h
  split at h
  · obtain ⟨rfl, rfl⟩ : _ ∧ _ := by simpa using h
    obtain ⟨h1, h2, h3, rfl, h5, _⟩ := hC
    obtain ⟨_, g2⟩ := ptsA_spec h1
    exact res_pts1 (pre := []) (post := [_]) h1 (res_isF _ _ h3 (by rw [g2]; exact h2) h5)
  · cases h
theorem pEnF_ok {ds : List DArg} {v : Value} {C : List Prop} (h : pEnF ds = some (v, C)) (hC : AllP C) : Res Try.prog 95 ds v := by
  unfold pEnF at h
  split at h
  · rename_i m xs n ks
    obtain ⟨rfl, rfl⟩ : _ ∧ _ := by simpa using h
    obtain ⟨h1, h2, h3, rfl, h5, h6, h7, _⟩ := hC
    obtain ⟨_, g2⟩ := ptsA_spec h1
    have h0 := res_enF (ptsA m xs) ks h3 (by rw [g2]; exact h2) (by rw [g2]; exact h5) h6 h7
    rw [show (ptsA m xs).length = m from g2] at h0
    have e1 := h0
    rw [← g2] at h0
    exact res_pts1 (pre := []) (post := [_]) h1 (by rw [g2] at h0 ⊢; exact h0)
  · cases h
def TCe : Tab := fun f ds => match f with
  | 94 => pIsF ds
  | 95 => pEnF ds
  | f => TCd f ds
theorem TCe_ok : TabOk Try.prog TCe := by
  intro f ds v C h hC
  unfold TCe at h
  (try split at h)
  all_goals first | with_reducible exact pIsF_ok h hC | with_reducible exact pEnF_ok h hC | exact TCd_ok _ _ _ _ h hC
def ECe : Env := withP cMs (mkE TCe (fun _ _ => none) LCe)
theorem ECe_ok : EnvOk Try.prog ECe := withP_ok (mkEOk TCe_ok (fun _ _ _ _ _ h => (by cases h)) LCe_ok) cMs_ok
theorem spV_in {ps : List Pt} {ks : List Int} (h : spV ps ks = true) : idK ps.length ks ∧ 1 ≤ ks.length ∧ ks.length ≤ 3 := by
  unfold spV at h
  obtain ⟨h1, h2⟩ := Bool.and_eq_true _ _ ▸ h
  refine ⟨idK_of (Bool.and_eq_true _ _ ▸ (pC_all ▸ h1) : aF (pA ps.length ks) ks.length 0 = true ∧ aF (pB ks) ks.length 1 = true).1, ?_⟩
  split at h2
  · omega
  split at h2
  · omega
  split at h2
  · omega
  · cases h2
end Go.Proofs.Ytolodncpegajkaa
namespace Go.Proofs.Ytolodncpegajkaa
set_option linter.all false
open Go.RowKit
set_option maxRecDepth 100000 in
theorem tr_cn1 (a b : Int) : bodyV Try.prog ECa0 30 12 203 [.v (.agg #[iv a, iv b])] = .fin (.agg #[.int .i64 (a), .int .i64 (1), .int .i64 (b), .int .i64 (1)]) [] := by kernel_rfl
set_option maxRecDepth 100000 in
theorem tr_cn2 (a b c d : Int) : bodyV Try.prog ECa0 30 12 205 [.v (.agg #[iv a, iv b, iv c, iv d])] = .need (big (IntKind.i64.wrap (a + c))) (.need (big (2 : Int)) (.need (¬(2 : Int) = (0 : Int)) (.need (big (IntKind.i64.wrap (b + d))) (.need (big (2 : Int)) (.need (¬(2 : Int) = (0 : Int)) (.fin (.agg #[.int .i64 (qN (IntKind.i64.wrap (a + c)) 2), .int .i64 (qD (IntKind.i64.wrap (a + c)) 2), .int .i64 (qN (IntKind.i64.wrap (b + d)) 2), .int .i64 (qD (IntKind.i64.wrap (b + d)) 2)]) [])))))) := by kernel_rfl
set_option maxRecDepth 100000 in
theorem tr_cn3 (a b c d e f : Int) : bodyV Try.prog ECa0 30 12 207 [.v (.agg #[iv a, iv b, iv c, iv d, iv e, iv f])] = .need (((-4000000 : Int) ≤ c - a ∧ c - a ≤ (4000000 : Int)) ∧ (-4000000 : Int) ≤ d - b ∧ d - b ≤ (4000000 : Int)) (.need (((-4000000 : Int) ≤ e - a ∧ e - a ≤ (4000000 : Int)) ∧ (-4000000 : Int) ≤ f - b ∧ f - b ≤ (4000000 : Int)) (.need (okP ((c - a) * (f - b)) ∧ okP ((d - b) * (e - a))) (.need (okP ((c - a) * (c - a)) ∧ okP ((d - b) * (d - b))) (.need (okP ((e - a) * (e - a)) ∧ okP ((f - b) * (f - b))) (.need (okP ((e - a) * (e - a)) ∧ okP ((f - b) * (f - b))) (.need (okP ((c - a) * (c - a)) ∧ okP ((d - b) * (d - b))) (.need (big (IntKind.i64.wrap (IntKind.i64.wrap (a * IntKind.i64.wrap ((2 : Int) * ((c - a) * (f - b) - (d - b) * (e - a)))) + IntKind.i64.wrap (IntKind.i64.wrap ((f - b) * ((c - a) * (c - a) + (d - b) * (d - b))) - IntKind.i64.wrap ((d - b) * ((e - a) * (e - a) + (f - b) * (f - b))))))) (.need (big (IntKind.i64.wrap ((2 : Int) * ((c - a) * (f - b) - (d - b) * (e - a))))) (.need (¬IntKind.i64.wrap ((2 : Int) * ((c - a) * (f - b) - (d - b) * (e - a))) = (0 : Int)) (.need (big (IntKind.i64.wrap (IntKind.i64.wrap (b * IntKind.i64.wrap ((2 : Int) * ((c - a) * (f - b) - (d - b) * (e - a)))) + IntKind.i64.wrap (IntKind.i64.wrap ((c - a) * ((e - a) * (e - a) + (f - b) * (f - b))) - IntKind.i64.wrap ((e - a) * ((c - a) * (c - a) + (d - b) * (d - b))))))) (.need (big (IntKind.i64.wrap ((2 : Int) * ((c - a) * (f - b) - (d - b) * (e - a))))) (.need (¬IntKind.i64.wrap ((2 : Int) * ((c - a) * (f - b) - (d - b) * (e - a))) = (0 : Int)) (.fin (.agg #[.int .i64 (qN (IntKind.i64.wrap (IntKind.i64.wrap (a * IntKind.i64.wrap (2 * ((c - a) * (f - b) - (d - b) * (e - a)))) + IntKind.i64.wrap (IntKind.i64.wrap ((f - b) * ((c - a) * (c - a) + (d - b) * (d - b))) - IntKind.i64.wrap ((d - b) * ((e - a) * (e - a) + (f - b) * (f - b)))))) (IntKind.i64.wrap (2 * ((c - a) * (f - b) - (d - b) * (e - a))))), .int .i64 (qD (IntKind.i64.wrap (IntKind.i64.wrap (a * IntKind.i64.wrap (2 * ((c - a) * (f - b) - (d - b) * (e - a)))) + IntKind.i64.wrap (IntKind.i64.wrap ((f - b) * ((c - a) * (c - a) + (d - b) * (d - b))) - IntKind.i64.wrap ((d - b) * ((e - a) * (e - a) + (f - b) * (f - b)))))) (IntKind.i64.wrap (2 * ((c - a) * (f - b) - (d - b) * (e - a))))), .int .i64 (qN (IntKind.i64.wrap (IntKind.i64.wrap (b * IntKind.i64.wrap (2 * ((c - a) * (f - b) - (d - b) * (e - a)))) + IntKind.i64.wrap (IntKind.i64.wrap ((c - a) * ((e - a) * (e - a) + (f - b) * (f - b))) - IntKind.i64.wrap ((e - a) * ((c - a) * (c - a) + (d - b) * (d - b)))))) (IntKind.i64.wrap (2 * ((c - a) * (f - b) - (d - b) * (e - a))))), .int .i64 (qD (IntKind.i64.wrap (IntKind.i64.wrap (b * IntKind.i64.wrap (2 * ((c - a) * (f - b) - (d - b) * (e - a)))) + IntKind.i64.wrap (IntKind.i64.wrap ((c - a) * ((e - a) * (e - a) + (f - b) * (f - b))) - IntKind.i64.wrap ((e - a) * ((c - a) * (c - a) + (d - b) * (d - b)))))) (IntKind.i64.wrap (2 * ((c - a) * (f - b) - (d - b) * (e - a)))))]) []))))))))))))) := by kernel_rfl
def ccD (a b c d e f : Int) : Int := 2 * ((c - a) * (f - b) - (d - b) * (e - a))
def ccP (a b c d e f : Int) : Int := a * ccD a b c d e f + ((f - b) * ((c - a) * (c - a) + (d - b) * (d - b)) - (d - b) * ((e - a) * (e - a) + (f - b) * (f - b)))
def ccQ (a b c d e f : Int) : Int := b * ccD a b c d e f + ((c - a) * ((e - a) * (e - a) + (f - b) * (f - b)) - (e - a) * ((c - a) * (c - a) + (d - b) * (d - b)))
def cn3V (a b c d e f : Int) : Value := .agg #[iv (qN (ccP a b c d e f) (ccD a b c d e f)), iv (qD (ccP a b c d e f) (ccD a b c d e f)), iv (qN (ccQ a b c d e f) (ccD a b c d e f)), iv (qD (ccQ a b c d e f) (ccD a b c d e f))]
def cn2V (a b c d : Int) : Value := .agg #[iv (qN (a + c) 2), iv (qD (a + c) 2), iv (qN (b + d) 2), iv (qD (b + d) 2)]
theorem res_cn1 (a b : Int) : Res Try.prog 203 [.v (.agg #[iv a, iv b])] (.agg #[iv a, iv 1, iv b, iv 1]) := by
  refine bodyV_res mixed ECa0_ok (m := 30) (n := 12) rfl ?_
  rw [tr_cn1]
  rfl
theorem res_cn2 (a b c d : Int) (h1 : ptB a b = true) (h2 : ptB c d = true) : Res Try.prog 205 [.v (.agg #[iv a, iv b, iv c, iv d])] (cn2V a b c d) := by
  refine bodyV_res mixed ECa0_ok (m := 30) (n := 12) rfl ?_
  rw [tr_cn2]
  have := ptB_true h1
  have := ptB_true h2
  simp (disch := omega) only [wr]
  unfold big
  exact ⟨by omega, by omega, by omega, by omega, by omega, by omega, rfl⟩
set_option maxHeartbeats 2000000 in
theorem res_cn3 (a b c d e f : Int) (h : p3B a b c d e f) (hx : crossI a b c d e f ≠ 0) : Res Try.prog 207 [.v (.agg #[iv a, iv b, iv c, iv d, iv e, iv f])] (cn3V a b c d e f) := by
  refine bodyV_res mixed ECa0_ok (m := 30) (n := 12) rfl ?_
  rw [tr_cn3]
  have q1 := ptB_true h.1
  have q2 := ptB_true h.2.1
  have q3 := ptB_true h.2.2
  have m1 := mul_bd (x := c - a) (y := f - b) 2000 2000 (by omega) (by omega)
  have m2 := mul_bd (x := d - b) (y := e - a) 2000 2000 (by omega) (by omega)
  have s1 := mul_bd (x := c - a) (y := c - a) 2000 2000 (by omega) (by omega)
  have s2 := mul_bd (x := d - b) (y := d - b) 2000 2000 (by omega) (by omega)
  have s3 := mul_bd (x := e - a) (y := e - a) 2000 2000 (by omega) (by omega)
  have s4 := mul_bd (x := f - b) (y := f - b) 2000 2000 (by omega) (by omega)
  have t1 := mul_bd (x := f - b) (y := (c - a) * (c - a) + (d - b) * (d - b)) 2000 8000000 (by omega) (by omega)
  have t2 := mul_bd (x := d - b) (y := (e - a) * (e - a) + (f - b) * (f - b)) 2000 8000000 (by omega) (by omega)
  have t3 := mul_bd (x := c - a) (y := (e - a) * (e - a) + (f - b) * (f - b)) 2000 8000000 (by omega) (by omega)
  have t4 := mul_bd (x := e - a) (y := (c - a) * (c - a) + (d - b) * (d - b)) 2000 8000000 (by omega) (by omega)
  have a1 := mul_bd (x := a) (y := 2 * ((c - a) * (f - b) - (d - b) * (e - a))) 1000 16000000 (by omega) (by omega)
  have a2 := mul_bd (x := b) (y := 2 * ((c - a) * (f - b) - (d - b) * (e - a))) 1000 16000000 (by omega) (by omega)
  have hx : (c - a) * (f - b) - (d - b) * (e - a) ≠ 0 := hx
  simp (disch := omega) only [wr]
  unfold big okP
  refine ⟨by omega, by omega, by omega, by omega, by omega, by omega, by omega, by omega, by omega, by omega, by omega, by omega, by omega, rfl⟩
set_option maxRecDepth 100000 in
theorem tr_sCc (ps : List Pt) (ks : List Int) : bodyV Try.prog ECe 30 12 51 [.row ps.length (.ints (flat ps)), .row ks.length (.ints ks)] = .need (ps.length * (2 : Nat) ≤ (List.drop (0 : Nat) (flat ps)).length) (.need (ps.length ≤ (1000000000 : Nat)) (brT (!okL (ptsA ps.length (List.drop 0 (flat ps)))) (.fin (.tuple #[.agg #[.int .i64 (0), .int .i64 (0), .int .i64 (0), .int .i64 (0)], .bool (false)]) []) (.need (ps.length * (2 : Nat) ≤ (List.drop (0 : Nat) (flat ps)).length) (.need (ps.length ≤ (1000000000 : Nat)) (.need (allV (ptsA ps.length (List.drop (0 : Nat) (flat ps))) = true) (.need ((List.drop (0 : Nat) ks).length = ks.length) (.need (ks.length ≤ (1000000000 : Nat)) (brT (!spV (ptsA ps.length (List.drop 0 (flat ps))) (List.drop 0 ks)) (.fin (.tuple #[.agg #[.int .i64 (0), .int .i64 (0), .int .i64 (0), .int .i64 (0)], .bool (false)]) []) (.need ((0 : Int) ≤ (0 : Int) ∧ (0 : Int) < (↑ks.length : Int)) (.need ((0 : Nat) < ks.length) (.need ((0 : Int) ≤ ks.getD (0 : Nat) (0 : Int) ∧ ks.getD (0 : Nat) (0 : Int) < (↑ps.length : Int)) (.need ((0 : Nat) + (ks.getD (0 : Nat) (0 : Int)).toNat * (2 : Nat) + (2 : Nat) ≤ (flat ps).length) (brT ((↑ks.length : Int) == 1) (.fin (.tuple #[.agg #[.int .i64 ((flat ps).getD (0 + (ks.getD 0 0).toNat * 2) 0), .int .i64 (1), .int .i64 ((flat ps).getD (0 + (ks.getD 0 0).toNat * 2 + 1) 0), .int .i64 (1)], .bool (true)]) []) (brT ((↑ks.length : Int) == 2) (.need ((0 : Int) ≤ (1 : Int) ∧ (1 : Int) < (↑ks.length : Int)) (.need ((1 : Nat) < ks.length) (.need ((0 : Int) ≤ ks.getD (1 : Nat) (0 : Int) ∧ ks.getD (1 : Nat) (0 : Int) < (↑ps.length : Int)) (.need ((0 : Nat) + (ks.getD (1 : Nat) (0 : Int)).toNat * (2 : Nat) + (2 : Nat) ≤ (flat ps).length) (.need (big (IntKind.i64.wrap ((flat ps).getD ((0 : Nat) + (ks.getD (0 : Nat) (0 : Int)).toNat * (2 : Nat)) (0 : Int) + (flat ps).getD ((0 : Nat) + (ks.getD (1 : Nat) (0 : Int)).toNat * (2 : Nat)) (0 : Int)))) (.need (big (2 : Int)) (.need (¬(2 : Int) = (0 : Int)) (.need (big (IntKind.i64.wrap ((flat ps).getD ((0 : Nat) + (ks.getD (0 : Nat) (0 : Int)).toNat * (2 : Nat) + (1 : Nat)) (0 : Int) + (flat ps).getD ((0 : Nat) + (ks.getD (1 : Nat) (0 : Int)).toNat * (2 : Nat) + (1 : Nat)) (0 : Int)))) (.need (big (2 : Int)) (.need (¬(2 : Int) = (0 : Int)) (.fin (.tuple #[.agg #[.int .i64 (qN (IntKind.i64.wrap ((flat ps).getD (0 + (ks.getD 0 0).toNat * 2) 0 + (flat ps).getD (0 + (ks.getD 1 0).toNat * 2) 0)) 2), .int .i64 (qD (IntKind.i64.wrap ((flat ps).getD (0 + (ks.getD 0 0).toNat * 2) 0 + (flat ps).getD (0 + (ks.getD 1 0).toNat * 2) 0)) 2), .int .i64 (qN (IntKind.i64.wrap ((flat ps).getD (0 + (ks.getD 0 0).toNat * 2 + 1) 0 + (flat ps).getD (0 + (ks.getD 1 0).toNat * 2 + 1) 0)) 2), .int .i64 (qD (IntKind.i64.wrap ((flat ps).getD (0 + (ks.getD 0 0).toNat * 2 + 1) 0 + (flat ps).getD (0 + (ks.getD 1 0).toNat * 2 + 1) 0)) 2)], .bool (true)]) []))))))))))) (.need ((0 : Int) ≤ (1 : Int) ∧ (1 : Int) < (↑ks.length : Int)) (.need ((1 : Nat) < ks.length) (.need ((0 : Int) ≤ ks.getD (1 : Nat) (0 : Int) ∧ ks.getD (1 : Nat) (0 : Int) < (↑ps.length : Int)) (.need ((0 : Nat) + (ks.getD (1 : Nat) (0 : Int)).toNat * (2 : Nat) + (2 : Nat) ≤ (flat ps).length) (.need ((0 : Int) ≤ (2 : Int) ∧ (2 : Int) < (↑ks.length : Int)) (.need ((2 : Nat) < ks.length) (.need ((0 : Int) ≤ ks.getD (2 : Nat) (0 : Int) ∧ ks.getD (2 : Nat) (0 : Int) < (↑ps.length : Int)) (.need ((0 : Nat) + (ks.getD (2 : Nat) (0 : Int)).toNat * (2 : Nat) + (2 : Nat) ≤ (flat ps).length) (.need (p3B ((flat ps).getD ((0 : Nat) + (ks.getD (0 : Nat) (0 : Int)).toNat * (2 : Nat)) (0 : Int)) ((flat ps).getD ((0 : Nat) + (ks.getD (0 : Nat) (0 : Int)).toNat * (2 : Nat) + (1 : Nat)) (0 : Int)) ((flat ps).getD ((0 : Nat) + (ks.getD (1 : Nat) (0 : Int)).toNat * (2 : Nat)) (0 : Int)) ((flat ps).getD ((0 : Nat) + (ks.getD (1 : Nat) (0 : Int)).toNat * (2 : Nat) + (1 : Nat)) (0 : Int)) ((flat ps).getD ((0 : Nat) + (ks.getD (2 : Nat) (0 : Int)).toNat * (2 : Nat)) (0 : Int)) ((flat ps).getD ((0 : Nat) + (ks.getD (2 : Nat) (0 : Int)).toNat * (2 : Nat) + (1 : Nat)) (0 : Int))) (.need (big (IntKind.i64.wrap (IntKind.i64.wrap (IntKind.i64.wrap (IntKind.i64.wrap (IntKind.i64.wrap (IntKind.i64.wrap ((flat ps).getD ((0 : Nat) + (ks.getD (0 : Nat) (0 : Int)).toNat * (2 : Nat)) (0 : Int) - (flat ps).getD ((0 : Nat) + (ks.getD (1 : Nat) (0 : Int)).toNat * (2 : Nat)) (0 : Int)) * IntKind.i64.wrap ((flat ps).getD ((0 : Nat) + (ks.getD (0 : Nat) (0 : Int)).toNat * (2 : Nat)) (0 : Int) - (flat ps).getD ((0 : Nat) + (ks.getD (1 : Nat) (0 : Int)).toNat * (2 : Nat)) (0 : Int))) + IntKind.i64.wrap (IntKind.i64.wrap ((flat ps).getD ((0 : Nat) + (ks.getD (0 : Nat) (0 : Int)).toNat * (2 : Nat) + (1 : Nat)) (0 : Int) - (flat ps).getD ((0 : Nat) + (ks.getD (1 : Nat) (0 : Int)).toNat * (2 : Nat) + (1 : Nat)) (0 : Int)) * IntKind.i64.wrap ((flat ps).getD ((0 : Nat) + (ks.getD (0 : Nat) (0 : Int)).toNat * (2 : Nat) + (1 : Nat)) (0 : Int) - (flat ps).getD ((0 : Nat) + (ks.getD (1 : Nat) (0 : Int)).toNat * (2 : Nat) + (1 : Nat)) (0 : Int)))) * IntKind.i64.wrap ((flat ps).getD ((0 : Nat) + (ks.getD (2 : Nat) (0 : Int)).toNat * (2 : Nat) + (1 : Nat)) (0 : Int) - (flat ps).getD ((0 : Nat) + (ks.getD (0 : Nat) (0 : Int)).toNat * (2 : Nat) + (1 : Nat)) (0 : Int))) - IntKind.i64.wrap (IntKind.i64.wrap (IntKind.i64.wrap (IntKind.i64.wrap ((flat ps).getD ((0 : Nat) + (ks.getD (0 : Nat) (0 : Int)).toNat * (2 : Nat)) (0 : Int) - (flat ps).getD ((0 : Nat) + (ks.getD (2 : Nat) (0 : Int)).toNat * (2 : Nat)) (0 : Int)) * IntKind.i64.wrap ((flat ps).getD ((0 : Nat) + (ks.getD (0 : Nat) (0 : Int)).toNat * (2 : Nat)) (0 : Int) - (flat ps).getD ((0 : Nat) + (ks.getD (2 : Nat) (0 : Int)).toNat * (2 : Nat)) (0 : Int))) + IntKind.i64.wrap (IntKind.i64.wrap ((flat ps).getD ((0 : Nat) + (ks.getD (0 : Nat) (0 : Int)).toNat * (2 : Nat) + (1 : Nat)) (0 : Int) - (flat ps).getD ((0 : Nat) + (ks.getD (2 : Nat) (0 : Int)).toNat * (2 : Nat) + (1 : Nat)) (0 : Int)) * IntKind.i64.wrap ((flat ps).getD ((0 : Nat) + (ks.getD (0 : Nat) (0 : Int)).toNat * (2 : Nat) + (1 : Nat)) (0 : Int) - (flat ps).getD ((0 : Nat) + (ks.getD (2 : Nat) (0 : Int)).toNat * (2 : Nat) + (1 : Nat)) (0 : Int)))) * IntKind.i64.wrap ((flat ps).getD ((0 : Nat) + (ks.getD (1 : Nat) (0 : Int)).toNat * (2 : Nat) + (1 : Nat)) (0 : Int) - (flat ps).getD ((0 : Nat) + (ks.getD (0 : Nat) (0 : Int)).toNat * (2 : Nat) + (1 : Nat)) (0 : Int)))) + IntKind.i64.wrap ((flat ps).getD ((0 : Nat) + (ks.getD (0 : Nat) (0 : Int)).toNat * (2 : Nat)) (0 : Int) * IntKind.i64.wrap ((2 : Int) * crossI ((flat ps).getD ((0 : Nat) + (ks.getD (0 : Nat) (0 : Int)).toNat * (2 : Nat)) (0 : Int)) ((flat ps).getD ((0 : Nat) + (ks.getD (0 : Nat) (0 : Int)).toNat * (2 : Nat) + (1 : Nat)) (0 : Int)) ((flat ps).getD ((0 : Nat) + (ks.getD (1 : Nat) (0 : Int)).toNat * (2 : Nat)) (0 : Int)) ((flat ps).getD ((0 : Nat) + (ks.getD (1 : Nat) (0 : Int)).toNat * (2 : Nat) + (1 : Nat)) (0 : Int)) ((flat ps).getD ((0 : Nat) + (ks.getD (2 : Nat) (0 : Int)).toNat * (2 : Nat)) (0 : Int)) ((flat ps).getD ((0 : Nat) + (ks.getD (2 : Nat) (0 : Int)).toNat * (2 : Nat) + (1 : Nat)) (0 : Int))))))) (.need (big (IntKind.i64.wrap ((2 : Int) * crossI ((flat ps).getD ((0 : Nat) + (ks.getD (0 : Nat) (0 : Int)).toNat * (2 : Nat)) (0 : Int)) ((flat ps).getD ((0 : Nat) + (ks.getD (0 : Nat) (0 : Int)).toNat * (2 : Nat) + (1 : Nat)) (0 : Int)) ((flat ps).getD ((0 : Nat) + (ks.getD (1 : Nat) (0 : Int)).toNat * (2 : Nat)) (0 : Int)) ((flat ps).getD ((0 : Nat) + (ks.getD (1 : Nat) (0 : Int)).toNat * (2 : Nat) + (1 : Nat)) (0 : Int)) ((flat ps).getD ((0 : Nat) + (ks.getD (2 : Nat) (0 : Int)).toNat * (2 : Nat)) (0 : Int)) ((flat ps).getD ((0 : Nat) + (ks.getD (2 : Nat) (0 : Int)).toNat * (2 : Nat) + (1 : Nat)) (0 : Int))))) (.need (¬IntKind.i64.wrap ((2 : Int) * crossI ((flat ps).getD ((0 : Nat) + (ks.getD (0 : Nat) (0 : Int)).toNat * (2 : Nat)) (0 : Int)) ((flat ps).getD ((0 : Nat) + (ks.getD (0 : Nat) (0 : Int)).toNat * (2 : Nat) + (1 : Nat)) (0 : Int)) ((flat ps).getD ((0 : Nat) + (ks.getD (1 : Nat) (0 : Int)).toNat * (2 : Nat)) (0 : Int)) ((flat ps).getD ((0 : Nat) + (ks.getD (1 : Nat) (0 : Int)).toNat * (2 : Nat) + (1 : Nat)) (0 : Int)) ((flat ps).getD ((0 : Nat) + (ks.getD (2 : Nat) (0 : Int)).toNat * (2 : Nat)) (0 : Int)) ((flat ps).getD ((0 : Nat) + (ks.getD (2 : Nat) (0 : Int)).toNat * (2 : Nat) + (1 : Nat)) (0 : Int))) = (0 : Int)) (.need (big (IntKind.i64.wrap (IntKind.i64.wrap (IntKind.i64.wrap (IntKind.i64.wrap (IntKind.i64.wrap (IntKind.i64.wrap ((flat ps).getD ((0 : Nat) + (ks.getD (0 : Nat) (0 : Int)).toNat * (2 : Nat)) (0 : Int) - (flat ps).getD ((0 : Nat) + (ks.getD (2 : Nat) (0 : Int)).toNat * (2 : Nat)) (0 : Int)) * IntKind.i64.wrap ((flat ps).getD ((0 : Nat) + (ks.getD (0 : Nat) (0 : Int)).toNat * (2 : Nat)) (0 : Int) - (flat ps).getD ((0 : Nat) + (ks.getD (2 : Nat) (0 : Int)).toNat * (2 : Nat)) (0 : Int))) + IntKind.i64.wrap (IntKind.i64.wrap ((flat ps).getD ((0 : Nat) + (ks.getD (0 : Nat) (0 : Int)).toNat * (2 : Nat) + (1 : Nat)) (0 : Int) - (flat ps).getD ((0 : Nat) + (ks.getD (2 : Nat) (0 : Int)).toNat * (2 : Nat) + (1 : Nat)) (0 : Int)) * IntKind.i64.wrap ((flat ps).getD ((0 : Nat) + (ks.getD (0 : Nat) (0 : Int)).toNat * (2 : Nat) + (1 : Nat)) (0 : Int) - (flat ps).getD ((0 : Nat) + (ks.getD (2 : Nat) (0 : Int)).toNat * (2 : Nat) + (1 : Nat)) (0 : Int)))) * IntKind.i64.wrap ((flat ps).getD ((0 : Nat) + (ks.getD (1 : Nat) (0 : Int)).toNat * (2 : Nat)) (0 : Int) - (flat ps).getD ((0 : Nat) + (ks.getD (0 : Nat) (0 : Int)).toNat * (2 : Nat)) (0 : Int))) - IntKind.i64.wrap (IntKind.i64.wrap (IntKind.i64.wrap (IntKind.i64.wrap ((flat ps).getD ((0 : Nat) + (ks.getD (0 : Nat) (0 : Int)).toNat * (2 : Nat)) (0 : Int) - (flat ps).getD ((0 : Nat) + (ks.getD (1 : Nat) (0 : Int)).toNat * (2 : Nat)) (0 : Int)) * IntKind.i64.wrap ((flat ps).getD ((0 : Nat) + (ks.getD (0 : Nat) (0 : Int)).toNat * (2 : Nat)) (0 : Int) - (flat ps).getD ((0 : Nat) + (ks.getD (1 : Nat) (0 : Int)).toNat * (2 : Nat)) (0 : Int))) + IntKind.i64.wrap (IntKind.i64.wrap ((flat ps).getD ((0 : Nat) + (ks.getD (0 : Nat) (0 : Int)).toNat * (2 : Nat) + (1 : Nat)) (0 : Int) - (flat ps).getD ((0 : Nat) + (ks.getD (1 : Nat) (0 : Int)).toNat * (2 : Nat) + (1 : Nat)) (0 : Int)) * IntKind.i64.wrap ((flat ps).getD ((0 : Nat) + (ks.getD (0 : Nat) (0 : Int)).toNat * (2 : Nat) + (1 : Nat)) (0 : Int) - (flat ps).getD ((0 : Nat) + (ks.getD (1 : Nat) (0 : Int)).toNat * (2 : Nat) + (1 : Nat)) (0 : Int)))) * IntKind.i64.wrap ((flat ps).getD ((0 : Nat) + (ks.getD (2 : Nat) (0 : Int)).toNat * (2 : Nat)) (0 : Int) - (flat ps).getD ((0 : Nat) + (ks.getD (0 : Nat) (0 : Int)).toNat * (2 : Nat)) (0 : Int)))) + IntKind.i64.wrap ((flat ps).getD ((0 : Nat) + (ks.getD (0 : Nat) (0 : Int)).toNat * (2 : Nat) + (1 : Nat)) (0 : Int) * IntKind.i64.wrap ((2 : Int) * crossI ((flat ps).getD ((0 : Nat) + (ks.getD (0 : Nat) (0 : Int)).toNat * (2 : Nat)) (0 : Int)) ((flat ps).getD ((0 : Nat) + (ks.getD (0 : Nat) (0 : Int)).toNat * (2 : Nat) + (1 : Nat)) (0 : Int)) ((flat ps).getD ((0 : Nat) + (ks.getD (1 : Nat) (0 : Int)).toNat * (2 : Nat)) (0 : Int)) ((flat ps).getD ((0 : Nat) + (ks.getD (1 : Nat) (0 : Int)).toNat * (2 : Nat) + (1 : Nat)) (0 : Int)) ((flat ps).getD ((0 : Nat) + (ks.getD (2 : Nat) (0 : Int)).toNat * (2 : Nat)) (0 : Int)) ((flat ps).getD ((0 : Nat) + (ks.getD (2 : Nat) (0 : Int)).toNat * (2 : Nat) + (1 : Nat)) (0 : Int))))))) (.need (big (IntKind.i64.wrap ((2 : Int) * crossI ((flat ps).getD ((0 : Nat) + (ks.getD (0 : Nat) (0 : Int)).toNat * (2 : Nat)) (0 : Int)) ((flat ps).getD ((0 : Nat) + (ks.getD (0 : Nat) (0 : Int)).toNat * (2 : Nat) + (1 : Nat)) (0 : Int)) ((flat ps).getD ((0 : Nat) + (ks.getD (1 : Nat) (0 : Int)).toNat * (2 : Nat)) (0 : Int)) ((flat ps).getD ((0 : Nat) + (ks.getD (1 : Nat) (0 : Int)).toNat * (2 : Nat) + (1 : Nat)) (0 : Int)) ((flat ps).getD ((0 : Nat) + (ks.getD (2 : Nat) (0 : Int)).toNat * (2 : Nat)) (0 : Int)) ((flat ps).getD ((0 : Nat) + (ks.getD (2 : Nat) (0 : Int)).toNat * (2 : Nat) + (1 : Nat)) (0 : Int))))) (.need (¬IntKind.i64.wrap ((2 : Int) * crossI ((flat ps).getD ((0 : Nat) + (ks.getD (0 : Nat) (0 : Int)).toNat * (2 : Nat)) (0 : Int)) ((flat ps).getD ((0 : Nat) + (ks.getD (0 : Nat) (0 : Int)).toNat * (2 : Nat) + (1 : Nat)) (0 : Int)) ((flat ps).getD ((0 : Nat) + (ks.getD (1 : Nat) (0 : Int)).toNat * (2 : Nat)) (0 : Int)) ((flat ps).getD ((0 : Nat) + (ks.getD (1 : Nat) (0 : Int)).toNat * (2 : Nat) + (1 : Nat)) (0 : Int)) ((flat ps).getD ((0 : Nat) + (ks.getD (2 : Nat) (0 : Int)).toNat * (2 : Nat)) (0 : Int)) ((flat ps).getD ((0 : Nat) + (ks.getD (2 : Nat) (0 : Int)).toNat * (2 : Nat) + (1 : Nat)) (0 : Int))) = (0 : Int)) (.fin (.tuple #[.agg #[.int .i64 (qN (IntKind.i64.wrap (IntKind.i64.wrap (IntKind.i64.wrap (IntKind.i64.wrap (IntKind.i64.wrap (IntKind.i64.wrap ((flat ps).getD (0 + (ks.getD 0 0).toNat * 2) 0 - (flat ps).getD (0 + (ks.getD 1 0).toNat * 2) 0) * IntKind.i64.wrap ((flat ps).getD (0 + (ks.getD 0 0).toNat * 2) 0 - (flat ps).getD (0 + (ks.getD 1 0).toNat * 2) 0)) + IntKind.i64.wrap (IntKind.i64.wrap ((flat ps).getD (0 + (ks.getD 0 0).toNat * 2 + 1) 0 - (flat ps).getD (0 + (ks.getD 1 0).toNat * 2 + 1) 0) * IntKind.i64.wrap ((flat ps).getD (0 + (ks.getD 0 0).toNat * 2 + 1) 0 - (flat ps).getD (0 + (ks.getD 1 0).toNat * 2 + 1) 0))) * IntKind.i64.wrap ((flat ps).getD (0 + (ks.getD 2 0).toNat * 2 + 1) 0 - (flat ps).getD (0 + (ks.getD 0 0).toNat * 2 + 1) 0)) - IntKind.i64.wrap (IntKind.i64.wrap (IntKind.i64.wrap (IntKind.i64.wrap ((flat ps).getD (0 + (ks.getD 0 0).toNat * 2) 0 - (flat ps).getD (0 + (ks.getD 2 0).toNat * 2) 0) * IntKind.i64.wrap ((flat ps).getD (0 + (ks.getD 0 0).toNat * 2) 0 - (flat ps).getD (0 + (ks.getD 2 0).toNat * 2) 0)) + IntKind.i64.wrap (IntKind.i64.wrap ((flat ps).getD (0 + (ks.getD 0 0).toNat * 2 + 1) 0 - (flat ps).getD (0 + (ks.getD 2 0).toNat * 2 + 1) 0) * IntKind.i64.wrap ((flat ps).getD (0 + (ks.getD 0 0).toNat * 2 + 1) 0 - (flat ps).getD (0 + (ks.getD 2 0).toNat * 2 + 1) 0))) * IntKind.i64.wrap ((flat ps).getD (0 + (ks.getD 1 0).toNat * 2 + 1) 0 - (flat ps).getD (0 + (ks.getD 0 0).toNat * 2 + 1) 0))) + IntKind.i64.wrap ((flat ps).getD (0 + (ks.getD 0 0).toNat * 2) 0 * IntKind.i64.wrap (2 * crossI ((flat ps).getD (0 + (ks.getD 0 0).toNat * 2) 0) ((flat ps).getD (0 + (ks.getD 0 0).toNat * 2 + 1) 0) ((flat ps).getD (0 + (ks.getD 1 0).toNat * 2) 0) ((flat ps).getD (0 + (ks.getD 1 0).toNat * 2 + 1) 0) ((flat ps).getD (0 + (ks.getD 2 0).toNat * 2) 0) ((flat ps).getD (0 + (ks.getD 2 0).toNat * 2 + 1) 0))))) (IntKind.i64.wrap (2 * crossI ((flat ps).getD (0 + (ks.getD 0 0).toNat * 2) 0) ((flat ps).getD (0 + (ks.getD 0 0).toNat * 2 + 1) 0) ((flat ps).getD (0 + (ks.getD 1 0).toNat * 2) 0) ((flat ps).getD (0 + (ks.getD 1 0).toNat * 2 + 1) 0) ((flat ps).getD (0 + (ks.getD 2 0).toNat * 2) 0) ((flat ps).getD (0 + (ks.getD 2 0).toNat * 2 + 1) 0)))), .int .i64 (qD (IntKind.i64.wrap (IntKind.i64.wrap (IntKind.i64.wrap (IntKind.i64.wrap (IntKind.i64.wrap (IntKind.i64.wrap ((flat ps).getD (0 + (ks.getD 0 0).toNat * 2) 0 - (flat ps).getD (0 + (ks.getD 1 0).toNat * 2) 0) * IntKind.i64.wrap ((flat ps).getD (0 + (ks.getD 0 0).toNat * 2) 0 - (flat ps).getD (0 + (ks.getD 1 0).toNat * 2) 0)) + IntKind.i64.wrap (IntKind.i64.wrap ((flat ps).getD (0 + (ks.getD 0 0).toNat * 2 + 1) 0 - (flat ps).getD (0 + (ks.getD 1 0).toNat * 2 + 1) 0) * IntKind.i64.wrap ((flat ps).getD (0 + (ks.getD 0 0).toNat * 2 + 1) 0 - (flat ps).getD (0 + (ks.getD 1 0).toNat * 2 + 1) 0))) * IntKind.i64.wrap ((flat ps).getD (0 + (ks.getD 2 0).toNat * 2 + 1) 0 - (flat ps).getD (0 + (ks.getD 0 0).toNat * 2 + 1) 0)) - IntKind.i64.wrap (IntKind.i64.wrap (IntKind.i64.wrap (IntKind.i64.wrap ((flat ps).getD (0 + (ks.getD 0 0).toNat * 2) 0 - (flat ps).getD (0 + (ks.getD 2 0).toNat * 2) 0) * IntKind.i64.wrap ((flat ps).getD (0 + (ks.getD 0 0).toNat * 2) 0 - (flat ps).getD (0 + (ks.getD 2 0).toNat * 2) 0)) + IntKind.i64.wrap (IntKind.i64.wrap ((flat ps).getD (0 + (ks.getD 0 0).toNat * 2 + 1) 0 - (flat ps).getD (0 + (ks.getD 2 0).toNat * 2 + 1) 0) * IntKind.i64.wrap ((flat ps).getD (0 + (ks.getD 0 0).toNat * 2 + 1) 0 - (flat ps).getD (0 + (ks.getD 2 0).toNat * 2 + 1) 0))) * IntKind.i64.wrap ((flat ps).getD (0 + (ks.getD 1 0).toNat * 2 + 1) 0 - (flat ps).getD (0 + (ks.getD 0 0).toNat * 2 + 1) 0))) + IntKind.i64.wrap ((flat ps).getD (0 + (ks.getD 0 0).toNat * 2) 0 * IntKind.i64.wrap (2 * crossI ((flat ps).getD (0 + (ks.getD 0 0).toNat * 2) 0) ((flat ps).getD (0 + (ks.getD 0 0).toNat * 2 + 1) 0) ((flat ps).getD (0 + (ks.getD 1 0).toNat * 2) 0) ((flat ps).getD (0 + (ks.getD 1 0).toNat * 2 + 1) 0) ((flat ps).getD (0 + (ks.getD 2 0).toNat * 2) 0) ((flat ps).getD (0 + (ks.getD 2 0).toNat * 2 + 1) 0))))) (IntKind.i64.wrap (2 * crossI ((flat ps).getD (0 + (ks.getD 0 0).toNat * 2) 0) ((flat ps).getD (0 + (ks.getD 0 0).toNat * 2 + 1) 0) ((flat ps).getD (0 + (ks.getD 1 0).toNat * 2) 0) ((flat ps).getD (0 + (ks.getD 1 0).toNat * 2 + 1) 0) ((flat ps).getD (0 + (ks.getD 2 0).toNat * 2) 0) ((flat ps).getD (0 + (ks.getD 2 0).toNat * 2 + 1) 0)))), .int .i64 (qN (IntKind.i64.wrap (IntKind.i64.wrap (IntKind.i64.wrap (IntKind.i64.wrap (IntKind.i64.wrap (IntKind.i64.wrap ((flat ps).getD (0 + (ks.getD 0 0).toNat * 2) 0 - (flat ps).getD (0 + (ks.getD 2 0).toNat * 2) 0) * IntKind.i64.wrap ((flat ps).getD (0 + (ks.getD 0 0).toNat * 2) 0 - (flat ps).getD (0 + (ks.getD 2 0).toNat * 2) 0)) + IntKind.i64.wrap (IntKind.i64.wrap ((flat ps).getD (0 + (ks.getD 0 0).toNat * 2 + 1) 0 - (flat ps).getD (0 + (ks.getD 2 0).toNat * 2 + 1) 0) * IntKind.i64.wrap ((flat ps).getD (0 + (ks.getD 0 0).toNat * 2 + 1) 0 - (flat ps).getD (0 + (ks.getD 2 0).toNat * 2 + 1) 0))) * IntKind.i64.wrap ((flat ps).getD (0 + (ks.getD 1 0).toNat * 2) 0 - (flat ps).getD (0 + (ks.getD 0 0).toNat * 2) 0)) - IntKind.i64.wrap (IntKind.i64.wrap (IntKind.i64.wrap (IntKind.i64.wrap ((flat ps).getD (0 + (ks.getD 0 0).toNat * 2) 0 - (flat ps).getD (0 + (ks.getD 1 0).toNat * 2) 0) * IntKind.i64.wrap ((flat ps).getD (0 + (ks.getD 0 0).toNat * 2) 0 - (flat ps).getD (0 + (ks.getD 1 0).toNat * 2) 0)) + IntKind.i64.wrap (IntKind.i64.wrap ((flat ps).getD (0 + (ks.getD 0 0).toNat * 2 + 1) 0 - (flat ps).getD (0 + (ks.getD 1 0).toNat * 2 + 1) 0) * IntKind.i64.wrap ((flat ps).getD (0 + (ks.getD 0 0).toNat * 2 + 1) 0 - (flat ps).getD (0 + (ks.getD 1 0).toNat * 2 + 1) 0))) * IntKind.i64.wrap ((flat ps).getD (0 + (ks.getD 2 0).toNat * 2) 0 - (flat ps).getD (0 + (ks.getD 0 0).toNat * 2) 0))) + IntKind.i64.wrap ((flat ps).getD (0 + (ks.getD 0 0).toNat * 2 + 1) 0 * IntKind.i64.wrap (2 * crossI ((flat ps).getD (0 + (ks.getD 0 0).toNat * 2) 0) ((flat ps).getD (0 + (ks.getD 0 0).toNat * 2 + 1) 0) ((flat ps).getD (0 + (ks.getD 1 0).toNat * 2) 0) ((flat ps).getD (0 + (ks.getD 1 0).toNat * 2 + 1) 0) ((flat ps).getD (0 + (ks.getD 2 0).toNat * 2) 0) ((flat ps).getD (0 + (ks.getD 2 0).toNat * 2 + 1) 0))))) (IntKind.i64.wrap (2 * crossI ((flat ps).getD (0 + (ks.getD 0 0).toNat * 2) 0) ((flat ps).getD (0 + (ks.getD 0 0).toNat * 2 + 1) 0) ((flat ps).getD (0 + (ks.getD 1 0).toNat * 2) 0) ((flat ps).getD (0 + (ks.getD 1 0).toNat * 2 + 1) 0) ((flat ps).getD (0 + (ks.getD 2 0).toNat * 2) 0) ((flat ps).getD (0 + (ks.getD 2 0).toNat * 2 + 1) 0)))), .int .i64 (qD (IntKind.i64.wrap (IntKind.i64.wrap (IntKind.i64.wrap (IntKind.i64.wrap (IntKind.i64.wrap (IntKind.i64.wrap ((flat ps).getD (0 + (ks.getD 0 0).toNat * 2) 0 - (flat ps).getD (0 + (ks.getD 2 0).toNat * 2) 0) * IntKind.i64.wrap ((flat ps).getD (0 + (ks.getD 0 0).toNat * 2) 0 - (flat ps).getD (0 + (ks.getD 2 0).toNat * 2) 0)) + IntKind.i64.wrap (IntKind.i64.wrap ((flat ps).getD (0 + (ks.getD 0 0).toNat * 2 + 1) 0 - (flat ps).getD (0 + (ks.getD 2 0).toNat * 2 + 1) 0) * IntKind.i64.wrap ((flat ps).getD (0 + (ks.getD 0 0).toNat * 2 + 1) 0 - (flat ps).getD (0 + (ks.getD 2 0).toNat * 2 + 1) 0))) * IntKind.i64.wrap ((flat ps).getD (0 + (ks.getD 1 0).toNat * 2) 0 - (flat ps).getD (0 + (ks.getD 0 0).toNat * 2) 0)) - IntKind.i64.wrap (IntKind.i64.wrap (IntKind.i64.wrap (IntKind.i64.wrap ((flat ps).getD (0 + (ks.getD 0 0).toNat * 2) 0 - (flat ps).getD (0 + (ks.getD 1 0).toNat * 2) 0) * IntKind.i64.wrap ((flat ps).getD (0 + (ks.getD 0 0).toNat * 2) 0 - (flat ps).getD (0 + (ks.getD 1 0).toNat * 2) 0)) + IntKind.i64.wrap (IntKind.i64.wrap ((flat ps).getD (0 + (ks.getD 0 0).toNat * 2 + 1) 0 - (flat ps).getD (0 + (ks.getD 1 0).toNat * 2 + 1) 0) * IntKind.i64.wrap ((flat ps).getD (0 + (ks.getD 0 0).toNat * 2 + 1) 0 - (flat ps).getD (0 + (ks.getD 1 0).toNat * 2 + 1) 0))) * IntKind.i64.wrap ((flat ps).getD (0 + (ks.getD 2 0).toNat * 2) 0 - (flat ps).getD (0 + (ks.getD 0 0).toNat * 2) 0))) + IntKind.i64.wrap ((flat ps).getD (0 + (ks.getD 0 0).toNat * 2 + 1) 0 * IntKind.i64.wrap (2 * crossI ((flat ps).getD (0 + (ks.getD 0 0).toNat * 2) 0) ((flat ps).getD (0 + (ks.getD 0 0).toNat * 2 + 1) 0) ((flat ps).getD (0 + (ks.getD 1 0).toNat * 2) 0) ((flat ps).getD (0 + (ks.getD 1 0).toNat * 2 + 1) 0) ((flat ps).getD (0 + (ks.getD 2 0).toNat * 2) 0) ((flat ps).getD (0 + (ks.getD 2 0).toNat * 2 + 1) 0))))) (IntKind.i64.wrap (2 * crossI ((flat ps).getD (0 + (ks.getD 0 0).toNat * 2) 0) ((flat ps).getD (0 + (ks.getD 0 0).toNat * 2 + 1) 0) ((flat ps).getD (0 + (ks.getD 1 0).toNat * 2) 0) ((flat ps).getD (0 + (ks.getD 1 0).toNat * 2 + 1) 0) ((flat ps).getD (0 + (ks.getD 2 0).toNat * 2) 0) ((flat ps).getD (0 + (ks.getD 2 0).toNat * 2 + 1) 0))))], .bool (true)]) [])))))))))))))))))))))))))))))) := by kernel_rfl
def zrV : Value := .agg #[iv 0, iv 0, iv 0, iv 0]
/-- The center of the circle that indices determine. -/
def cenV (ps : List Pt) (ks : List Int) : Value :=
  if ks.length = 1 then .agg #[iv (ptk ps ks 0).1, iv 1, iv (ptk ps ks 0).2, iv 1]
  else if ks.length = 2 then cn2V (ptk ps ks 0).1 (ptk ps ks 0).2 (ptk ps ks 1).1 (ptk ps ks 1).2
  else cn3V (ptk ps ks 0).1 (ptk ps ks 0).2 (ptk ps ks 1).1 (ptk ps ks 1).2 (ptk ps ks 2).1 (ptk ps ks 2).2
def ccV (ps : List Pt) (ks : List Int) : Value := .tuple #[bif okL ps && spV ps ks then cenV ps ks else zrV, .bool (okL ps && spV ps ks)]
theorem ccV_plain (ps : List Pt) (ks : List Int) : plainV (ccV ps ks) = true := by
  unfold ccV cenV
  cases okL ps && spV ps ks
  · rfl
  · simp only [cond_true]
    split
    · rfl
    split
    · rfl
    · rfl
theorem spV_ac {ps : List Pt} {ks : List Int} (h : spV ps ks = true) (h3 : ks.length = 3) : crossI (ptk ps ks 0).1 (ptk ps ks 0).2 (ptk ps ks 1).1 (ptk ps ks 1).2 (ptk ps ks 2).1 (ptk ps ks 2).2 ≠ 0 := by
  unfold spV at h
  rw [h3, if_neg (by decide), if_neg (by decide), if_pos rfl] at h
  exact ac_cross (Bool.and_eq_true _ _ ▸ h).2
set_option maxHeartbeats 4000000 in
theorem res_sCc (ps : List Pt) (ks : List Int) (h : Big ps) (hk : ks.length ≤ 1000000000) : Res Try.prog 51 [.row ps.length (.ints (flat ps)), .row ks.length (.ints ks)] (ccV ps ks) := by
  refine bodyV_res mixed ECe_ok (m := 30) (n := 12) (ccV_plain ps ks) ?_
  rw [tr_sCc]
  unfold Big at h
  simp only [Tree.ok, brT_ok, ptsA_flat, List.drop_zero, Nat.zero_add, Nat.add_zero, flat_get0, flat_get1, flat_length]
  unfold ccV
  refine ⟨Nat.le_refl _, h, fun ho => ?_, fun ho => ?_⟩
  · have ho : okL ps = false := by simpa using ho
    rw [ho]; rfl
  have ho : okL ps = true := by simpa using ho
  have hv : allV ps = true := by simp only [okL, Bool.and_eq_true] at ho; exact ho.1
  refine ⟨Nat.le_refl _, h, hv, trivial, hk, fun hs => ?_, fun hs => ?_⟩
  · have hs : spV ps ks = false := by simpa using hs
    rw [ho, hs]; rfl
  have hs : spV ps ks = true := by simpa using hs
  obtain ⟨hi, l1, l3⟩ := spV_in hs
  have hX := spV_ac hs
  rw [ho, hs]
  have v0 := ptk_v hv ks 0
  have v1 := ptk_v hv ks 1
  have v2 := ptk_v hv ks 2
  have g0 := idK_get hi (k := 0) (by omega)
  unfold cenV
  refine ⟨by omega, by omega, ⟨g0.1, g0.2.1⟩, by omega, fun k1 => ?_, fun k1 => ⟨fun k2 => ?_, fun k2 => ?_⟩⟩
  · have e : ks.length = 1 := by have := eq_of_beq k1; omega
    rw [if_pos e]
    rfl
  · have n1 : ks.length ≠ 1 := fun h => by rw [h] at k1; cases k1
    have e : ks.length = 2 := by have := eq_of_beq k2; omega
    have g1 := idK_get hi (k := 1) (by omega)
    rw [if_neg n1, if_pos e]
    unfold ptk at *
    generalize ps.getD (ks.getD 0 0).toNat (0, 0) = A at *
    generalize ps.getD (ks.getD 1 0).toNat (0, 0) = B at *
    have b0 := ptB_true v0
    have b1 := ptB_true v1
    simp (disch := omega) only [wr]
    unfold big
    exact ⟨by omega, by omega, ⟨g1.1, g1.2.1⟩, by omega, by omega, by omega, by omega, by omega, by omega, by omega, rfl⟩
  · have n1 : ks.length ≠ 1 := fun h => by rw [h] at k1; cases k1
    have n2 : ks.length ≠ 2 := fun h => by rw [h] at k2; cases k2
    have e : ks.length = 3 := by omega
    have g1 := idK_get hi (k := 1) (by omega)
    have g2 := idK_get hi (k := 2) (by omega)
    have hX := hX e
    rw [if_neg n1, if_neg n2]
    unfold ptk at *
    generalize ps.getD (ks.getD 0 0).toNat (0, 0) = A at *
    generalize ps.getD (ks.getD 1 0).toNat (0, 0) = B at *
    generalize ps.getD (ks.getD 2 0).toNat (0, 0) = C at *
    obtain ⟨a, b⟩ := A
    obtain ⟨c, d⟩ := B
    obtain ⟨e, f⟩ := C
    simp only at *
    have q1 := ptB_true v0
    have q2 := ptB_true v1
    have q3 := ptB_true v2
    have m1 := mul_bd (x := c - a) (y := f - b) 2000 2000 (by omega) (by omega)
    have m2 := mul_bd (x := d - b) (y := e - a) 2000 2000 (by omega) (by omega)
    have s1 := mul_bd (x := a - c) (y := a - c) 2000 2000 (by omega) (by omega)
    have s2 := mul_bd (x := b - d) (y := b - d) 2000 2000 (by omega) (by omega)
    have s3 := mul_bd (x := a - e) (y := a - e) 2000 2000 (by omega) (by omega)
    have s4 := mul_bd (x := b - f) (y := b - f) 2000 2000 (by omega) (by omega)
    have t1 := mul_bd (x := (a - c) * (a - c) + (b - d) * (b - d)) (y := f - b) 8000000 2000 (by omega) (by omega)
    have t2 := mul_bd (x := (a - e) * (a - e) + (b - f) * (b - f)) (y := d - b) 8000000 2000 (by omega) (by omega)
    have t3 := mul_bd (x := (a - e) * (a - e) + (b - f) * (b - f)) (y := c - a) 8000000 2000 (by omega) (by omega)
    have t4 := mul_bd (x := (a - c) * (a - c) + (b - d) * (b - d)) (y := e - a) 8000000 2000 (by omega) (by omega)
    have hc : crossI a b c d e f = (c - a) * (f - b) - (d - b) * (e - a) := rfl
    have a1 := mul_bd (x := a) (y := 2 * crossI a b c d e f) 1000 16000000 (by omega) (by omega)
    have a2 := mul_bd (x := b) (y := 2 * crossI a b c d e f) 1000 16000000 (by omega) (by omega)
    simp (disch := omega) only [wr]
    have eP : (((a - c) * (a - c) + (b - d) * (b - d)) * (f - b) - ((a - e) * (a - e) + (b - f) * (b - f)) * (d - b)) + a * (2 * crossI a b c d e f) = ccP a b c d e f := by unfold ccP ccD crossI; grind
    have eQ : (((a - e) * (a - e) + (b - f) * (b - f)) * (c - a) - ((a - c) * (a - c) + (b - d) * (b - d)) * (e - a)) + b * (2 * crossI a b c d e f) = ccQ a b c d e f := by unfold ccQ ccD crossI; grind
    rw [eP, eQ]
    have eD : 2 * crossI a b c d e f = ccD a b c d e f := rfl
    rw [eD]
    unfold big
    refine ⟨by omega, by omega, ⟨g1.1, g1.2.1⟩, by omega, by omega, by omega, ⟨g2.1, g2.2.1⟩, by omega, ⟨v0, v1, v2⟩, by omega, by omega, by omega, by omega, by omega, by omega, rfl⟩
def pCn1 : List DArg → Option (Value × List Prop)
  | [.v (.agg ⟨[.int .i64 a, .int .i64 b]⟩)] => some (.agg #[iv a, iv 1, iv b, iv 1], [])
  | _ => none
def pCn2 : List DArg → Option (Value × List Prop)
  | [.v (.agg ⟨[.int .i64 a, .int .i64 b, .int .i64 c, .int .i64 d]⟩)] => some (.agg #[iv (qN (a + c) 2), iv (qD (a + c) 2), iv (qN (b + d) 2), iv (qD (b + d) 2)], [ptB a b = true, ptB c d = true])
  | _ => none
def pCn3 : List DArg → Option (Value × List Prop)
  | [.v (.agg ⟨[.int .i64 a, .int .i64 b, .int .i64 c, .int .i64 d, .int .i64 e, .int .i64 f]⟩)] => some (.agg #[iv (qN (ccP a b c d e f) (ccD a b c d e f)), iv (qD (ccP a b c d e f) (ccD a b c d e f)), iv (qN (ccQ a b c d e f) (ccD a b c d e f)), iv (qD (ccQ a b c d e f) (ccD a b c d e f))], [p3B a b c d e f, crossI a b c d e f ≠ 0])
  | _ => none
theorem pCn1_ok {ds : List DArg} {v : Value} {C : List Prop} (h : pCn1 ds = some (v, C)) : Res Try.prog 203 ds v := by
  unfold pCn1 at h
  split at h
  · obtain ⟨rfl, rfl⟩ : _ ∧ _ := by simpa using h
    exact res_cn1 _ _
  · cases h
theorem pCn2_ok {ds : List DArg} {v : Value} {C : List Prop} (h : pCn2 ds = some (v, C)) (hC : AllP C) : Res Try.prog 205 ds v := by
  unfold pCn2 at h
  split at h
  · obtain ⟨rfl, rfl⟩ : _ ∧ _ := by simpa using h
    exact res_cn2 _ _ _ _ hC.1 hC.2.1
  · cases h
theorem pCn3_ok {ds : List DArg} {v : Value} {C : List Prop} (h : pCn3 ds = some (v, C)) (hC : AllP C) : Res Try.prog 207 ds v := by
  unfold pCn3 at h
  split at h
  · obtain ⟨rfl, rfl⟩ : _ ∧ _ := by simpa using h
    exact res_cn3 _ _ _ _ _ _ hC.1 hC.2.1
  · cases h
def TCg : Tab := fun f ds => match f with
  | 203 => pCn1 ds
  | 205 => pCn2 ds
  | 207 => pCn3 ds
  | f => TCd f ds
theorem TCg_ok : TabOk Try.prog TCg := by
  intro f ds v C h hC
  unfold TCg at h
  (try split at h)
  all_goals first | with_reducible exact pCn1_ok h | with_reducible exact pCn2_ok h hC | with_reducible exact pCn3_ok h hC | exact TCd_ok _ _ _ _ h hC
def cMc : List FuncId := [203, 205, 207]
theorem cMc_ok : ∀ f ∈ cMc, enters Try.prog f := by
  intro f hf
  simp only [cMc, List.mem_cons, List.not_mem_nil, or_false] at hf
  rcases hf with rfl | rfl | rfl
  · exact (res_cn1 0 0).1
  · exact (res_cn2 0 0 0 0 rfl rfl).1
  · exact (res_cn3 0 0 1 0 0 1 ⟨rfl, rfl, rfl⟩ (by decide)).1
def ECg : Env := withP cMc (mkE TCg (fun _ _ => none) (fun _ => noL))
theorem ECg_ok : EnvOk Try.prog ECg := withP_ok (mkEOk TCg_ok (fun _ _ _ _ _ h => (by cases h)) (fun _ _ _ => noL_good)) cMc_ok
set_option maxRecDepth 100000 in
theorem tr_iCc (ps : List Pt) (ks : List Int) : bodyV Try.prog ECg 30 12 52 [.row ps.length (.ints (flat ps)), .row ks.length (.ints ks)] = brT (decide ((↑ps.length : Int) ≤ 20)) (.need (ps.length * (2 : Nat) ≤ (List.drop (0 : Nat) (flat ps)).length) (.need (ps.length ≤ (1000000000 : Nat)) (brT (!allV (ptsA ps.length (List.drop 0 (flat ps)))) (.fin (.tuple #[.agg #[.int .i64 (0), .int .i64 (0), .int .i64 (0), .int .i64 (0)], .bool (false)]) []) (.need ((List.drop (0 : Nat) ks).length = ks.length) (.need (ks.length ≤ (1000000000 : Nat)) (brT (!aF (pA (↑ps.length : Int) (List.drop 0 ks)) ks.length 0) (.fin (.tuple #[.agg #[.int .i64 (0), .int .i64 (0), .int .i64 (0), .int .i64 (0)], .bool (false)]) []) (.need ((List.drop (0 : Nat) ks).length = ks.length) (.need (ks.length ≤ (1000000000 : Nat)) (brT (!aF (pB (List.drop 0 ks)) ks.length 1) (.fin (.tuple #[.agg #[.int .i64 (0), .int .i64 (0), .int .i64 (0), .int .i64 (0)], .bool (false)]) []) (brT ((↑ks.length : Int) == 1) (.need ((0 : Int) ≤ (0 : Int) ∧ (0 : Int) < (↑ks.length : Int)) (.need ((0 : Nat) < ks.length) (.need ((0 : Int) ≤ ks.getD (0 : Nat) (0 : Int) ∧ ks.getD (0 : Nat) (0 : Int) < (↑ps.length : Int)) (.need ((0 : Nat) + (ks.getD (0 : Nat) (0 : Int)).toNat * (2 : Nat) + (2 : Nat) ≤ (flat ps).length) (.fin (.tuple #[.agg #[.int .i64 ((flat ps).getD (0 + (ks.getD 0 0).toNat * 2) 0), .int .i64 (1), .int .i64 ((flat ps).getD (0 + (ks.getD 0 0).toNat * 2 + 1) 0), .int .i64 (1)], .bool (true)]) []))))) (brT ((↑ks.length : Int) == 2) (.need ((0 : Int) ≤ (0 : Int) ∧ (0 : Int) < (↑ks.length : Int)) (.need ((0 : Nat) < ks.length) (.need ((0 : Int) ≤ ks.getD (0 : Nat) (0 : Int) ∧ ks.getD (0 : Nat) (0 : Int) < (↑ps.length : Int)) (.need ((0 : Nat) + (ks.getD (0 : Nat) (0 : Int)).toNat * (2 : Nat) + (2 : Nat) ≤ (flat ps).length) (.need ((0 : Int) ≤ (1 : Int) ∧ (1 : Int) < (↑ks.length : Int)) (.need ((1 : Nat) < ks.length) (.need ((0 : Int) ≤ ks.getD (1 : Nat) (0 : Int) ∧ ks.getD (1 : Nat) (0 : Int) < (↑ps.length : Int)) (.need ((0 : Nat) + (ks.getD (1 : Nat) (0 : Int)).toNat * (2 : Nat) + (2 : Nat) ≤ (flat ps).length) (brT (!negB true ((flat ps).getD (0 + (ks.getD 0 0).toNat * 2) 0 == (flat ps).getD (0 + (ks.getD 1 0).toNat * 2) 0 && ((flat ps).getD (0 + (ks.getD 0 0).toNat * 2 + 1) 0 == (flat ps).getD (0 + (ks.getD 1 0).toNat * 2 + 1) 0 && true))) (.fin (.tuple #[.agg #[.int .i64 (0), .int .i64 (0), .int .i64 (0), .int .i64 (0)], .bool (false)]) []) (.need (ptB ((flat ps).getD ((0 : Nat) + (ks.getD (0 : Nat) (0 : Int)).toNat * (2 : Nat)) (0 : Int)) ((flat ps).getD ((0 : Nat) + (ks.getD (0 : Nat) (0 : Int)).toNat * (2 : Nat) + (1 : Nat)) (0 : Int)) = true) (.need (ptB ((flat ps).getD ((0 : Nat) + (ks.getD (1 : Nat) (0 : Int)).toNat * (2 : Nat)) (0 : Int)) ((flat ps).getD ((0 : Nat) + (ks.getD (1 : Nat) (0 : Int)).toNat * (2 : Nat) + (1 : Nat)) (0 : Int)) = true) (.fin (.tuple #[.agg #[.int .i64 (qN ((flat ps).getD (0 + (ks.getD 0 0).toNat * 2) 0 + (flat ps).getD (0 + (ks.getD 1 0).toNat * 2) 0) 2), .int .i64 (qD ((flat ps).getD (0 + (ks.getD 0 0).toNat * 2) 0 + (flat ps).getD (0 + (ks.getD 1 0).toNat * 2) 0) 2), .int .i64 (qN ((flat ps).getD (0 + (ks.getD 0 0).toNat * 2 + 1) 0 + (flat ps).getD (0 + (ks.getD 1 0).toNat * 2 + 1) 0) 2), .int .i64 (qD ((flat ps).getD (0 + (ks.getD 0 0).toNat * 2 + 1) 0 + (flat ps).getD (0 + (ks.getD 1 0).toNat * 2 + 1) 0) 2)], .bool (true)]) [])))))))))))) (brT ((↑ks.length : Int) == 3) (.need ((0 : Int) ≤ (0 : Int) ∧ (0 : Int) < (↑ks.length : Int)) (.need ((0 : Nat) < ks.length) (.need ((0 : Int) ≤ ks.getD (0 : Nat) (0 : Int) ∧ ks.getD (0 : Nat) (0 : Int) < (↑ps.length : Int)) (.need ((0 : Nat) + (ks.getD (0 : Nat) (0 : Int)).toNat * (2 : Nat) + (2 : Nat) ≤ (flat ps).length) (.need ((0 : Int) ≤ (1 : Int) ∧ (1 : Int) < (↑ks.length : Int)) (.need ((1 : Nat) < ks.length) (.need ((0 : Int) ≤ ks.getD (1 : Nat) (0 : Int) ∧ ks.getD (1 : Nat) (0 : Int) < (↑ps.length : Int)) (.need ((0 : Nat) + (ks.getD (1 : Nat) (0 : Int)).toNat * (2 : Nat) + (2 : Nat) ≤ (flat ps).length) (.need ((0 : Int) ≤ (2 : Int) ∧ (2 : Int) < (↑ks.length : Int)) (.need ((2 : Nat) < ks.length) (.need ((0 : Int) ≤ ks.getD (2 : Nat) (0 : Int) ∧ ks.getD (2 : Nat) (0 : Int) < (↑ps.length : Int)) (.need ((0 : Nat) + (ks.getD (2 : Nat) (0 : Int)).toNat * (2 : Nat) + (2 : Nat) ≤ (flat ps).length) (.need (p3B ((flat ps).getD ((0 : Nat) + (ks.getD (0 : Nat) (0 : Int)).toNat * (2 : Nat)) (0 : Int)) ((flat ps).getD ((0 : Nat) + (ks.getD (0 : Nat) (0 : Int)).toNat * (2 : Nat) + (1 : Nat)) (0 : Int)) ((flat ps).getD ((0 : Nat) + (ks.getD (1 : Nat) (0 : Int)).toNat * (2 : Nat)) (0 : Int)) ((flat ps).getD ((0 : Nat) + (ks.getD (1 : Nat) (0 : Int)).toNat * (2 : Nat) + (1 : Nat)) (0 : Int)) ((flat ps).getD ((0 : Nat) + (ks.getD (2 : Nat) (0 : Int)).toNat * (2 : Nat)) (0 : Int)) ((flat ps).getD ((0 : Nat) + (ks.getD (2 : Nat) (0 : Int)).toNat * (2 : Nat) + (1 : Nat)) (0 : Int))) (brT (!acB ((flat ps).getD (0 + (ks.getD 0 0).toNat * 2) 0) ((flat ps).getD (0 + (ks.getD 0 0).toNat * 2 + 1) 0) ((flat ps).getD (0 + (ks.getD 1 0).toNat * 2) 0) ((flat ps).getD (0 + (ks.getD 1 0).toNat * 2 + 1) 0) ((flat ps).getD (0 + (ks.getD 2 0).toNat * 2) 0) ((flat ps).getD (0 + (ks.getD 2 0).toNat * 2 + 1) 0)) (.fin (.tuple #[.agg #[.int .i64 (0), .int .i64 (0), .int .i64 (0), .int .i64 (0)], .bool (false)]) []) (.need (p3B ((flat ps).getD ((0 : Nat) + (ks.getD (0 : Nat) (0 : Int)).toNat * (2 : Nat)) (0 : Int)) ((flat ps).getD ((0 : Nat) + (ks.getD (0 : Nat) (0 : Int)).toNat * (2 : Nat) + (1 : Nat)) (0 : Int)) ((flat ps).getD ((0 : Nat) + (ks.getD (1 : Nat) (0 : Int)).toNat * (2 : Nat)) (0 : Int)) ((flat ps).getD ((0 : Nat) + (ks.getD (1 : Nat) (0 : Int)).toNat * (2 : Nat) + (1 : Nat)) (0 : Int)) ((flat ps).getD ((0 : Nat) + (ks.getD (2 : Nat) (0 : Int)).toNat * (2 : Nat)) (0 : Int)) ((flat ps).getD ((0 : Nat) + (ks.getD (2 : Nat) (0 : Int)).toNat * (2 : Nat) + (1 : Nat)) (0 : Int))) (.need (¬crossI ((flat ps).getD ((0 : Nat) + (ks.getD (0 : Nat) (0 : Int)).toNat * (2 : Nat)) (0 : Int)) ((flat ps).getD ((0 : Nat) + (ks.getD (0 : Nat) (0 : Int)).toNat * (2 : Nat) + (1 : Nat)) (0 : Int)) ((flat ps).getD ((0 : Nat) + (ks.getD (1 : Nat) (0 : Int)).toNat * (2 : Nat)) (0 : Int)) ((flat ps).getD ((0 : Nat) + (ks.getD (1 : Nat) (0 : Int)).toNat * (2 : Nat) + (1 : Nat)) (0 : Int)) ((flat ps).getD ((0 : Nat) + (ks.getD (2 : Nat) (0 : Int)).toNat * (2 : Nat)) (0 : Int)) ((flat ps).getD ((0 : Nat) + (ks.getD (2 : Nat) (0 : Int)).toNat * (2 : Nat) + (1 : Nat)) (0 : Int)) = (0 : Int)) (.fin (.tuple #[.agg #[.int .i64 (qN (ccP ((flat ps).getD (0 + (ks.getD 0 0).toNat * 2) 0) ((flat ps).getD (0 + (ks.getD 0 0).toNat * 2 + 1) 0) ((flat ps).getD (0 + (ks.getD 1 0).toNat * 2) 0) ((flat ps).getD (0 + (ks.getD 1 0).toNat * 2 + 1) 0) ((flat ps).getD (0 + (ks.getD 2 0).toNat * 2) 0) ((flat ps).getD (0 + (ks.getD 2 0).toNat * 2 + 1) 0)) (ccD ((flat ps).getD (0 + (ks.getD 0 0).toNat * 2) 0) ((flat ps).getD (0 + (ks.getD 0 0).toNat * 2 + 1) 0) ((flat ps).getD (0 + (ks.getD 1 0).toNat * 2) 0) ((flat ps).getD (0 + (ks.getD 1 0).toNat * 2 + 1) 0) ((flat ps).getD (0 + (ks.getD 2 0).toNat * 2) 0) ((flat ps).getD (0 + (ks.getD 2 0).toNat * 2 + 1) 0))), .int .i64 (qD (ccP ((flat ps).getD (0 + (ks.getD 0 0).toNat * 2) 0) ((flat ps).getD (0 + (ks.getD 0 0).toNat * 2 + 1) 0) ((flat ps).getD (0 + (ks.getD 1 0).toNat * 2) 0) ((flat ps).getD (0 + (ks.getD 1 0).toNat * 2 + 1) 0) ((flat ps).getD (0 + (ks.getD 2 0).toNat * 2) 0) ((flat ps).getD (0 + (ks.getD 2 0).toNat * 2 + 1) 0)) (ccD ((flat ps).getD (0 + (ks.getD 0 0).toNat * 2) 0) ((flat ps).getD (0 + (ks.getD 0 0).toNat * 2 + 1) 0) ((flat ps).getD (0 + (ks.getD 1 0).toNat * 2) 0) ((flat ps).getD (0 + (ks.getD 1 0).toNat * 2 + 1) 0) ((flat ps).getD (0 + (ks.getD 2 0).toNat * 2) 0) ((flat ps).getD (0 + (ks.getD 2 0).toNat * 2 + 1) 0))), .int .i64 (qN (ccQ ((flat ps).getD (0 + (ks.getD 0 0).toNat * 2) 0) ((flat ps).getD (0 + (ks.getD 0 0).toNat * 2 + 1) 0) ((flat ps).getD (0 + (ks.getD 1 0).toNat * 2) 0) ((flat ps).getD (0 + (ks.getD 1 0).toNat * 2 + 1) 0) ((flat ps).getD (0 + (ks.getD 2 0).toNat * 2) 0) ((flat ps).getD (0 + (ks.getD 2 0).toNat * 2 + 1) 0)) (ccD ((flat ps).getD (0 + (ks.getD 0 0).toNat * 2) 0) ((flat ps).getD (0 + (ks.getD 0 0).toNat * 2 + 1) 0) ((flat ps).getD (0 + (ks.getD 1 0).toNat * 2) 0) ((flat ps).getD (0 + (ks.getD 1 0).toNat * 2 + 1) 0) ((flat ps).getD (0 + (ks.getD 2 0).toNat * 2) 0) ((flat ps).getD (0 + (ks.getD 2 0).toNat * 2 + 1) 0))), .int .i64 (qD (ccQ ((flat ps).getD (0 + (ks.getD 0 0).toNat * 2) 0) ((flat ps).getD (0 + (ks.getD 0 0).toNat * 2 + 1) 0) ((flat ps).getD (0 + (ks.getD 1 0).toNat * 2) 0) ((flat ps).getD (0 + (ks.getD 1 0).toNat * 2 + 1) 0) ((flat ps).getD (0 + (ks.getD 2 0).toNat * 2) 0) ((flat ps).getD (0 + (ks.getD 2 0).toNat * 2 + 1) 0)) (ccD ((flat ps).getD (0 + (ks.getD 0 0).toNat * 2) 0) ((flat ps).getD (0 + (ks.getD 0 0).toNat * 2 + 1) 0) ((flat ps).getD (0 + (ks.getD 1 0).toNat * 2) 0) ((flat ps).getD (0 + (ks.getD 1 0).toNat * 2 + 1) 0) ((flat ps).getD (0 + (ks.getD 2 0).toNat * 2) 0) ((flat ps).getD (0 + (ks.getD 2 0).toNat * 2 + 1) 0)))], .bool (true)]) []))))))))))))))))) (.fin (.tuple #[.agg #[.int .i64 (0), .int .i64 (0), .int .i64 (0), .int .i64 (0)], .bool (false)]) []))))))))))))) (.fin (.tuple #[.agg #[.int .i64 (0), .int .i64 (0), .int .i64 (0), .int .i64 (0)], .bool (false)]) []) := by kernel_rfl
theorem res_iCc (ps : List Pt) (ks : List Int) (h : Big ps) (hk : ks.length ≤ 1000000000) : Res Try.prog 52 [.row ps.length (.ints (flat ps)), .row ks.length (.ints ks)] (ccV ps ks) := by
  refine bodyV_res mixed ECg_ok (m := 30) (n := 12) (ccV_plain ps ks) ?_
  rw [tr_iCc]
  unfold Big at h
  simp only [Tree.ok, brT_ok, ptsA_flat, List.drop_zero, Nat.zero_add, Nat.add_zero, flat_get0, flat_get1, flat_length]
  have oe : okL ps = (decide ((ps.length : Int) ≤ 20) && allV ps) := by
    unfold okL
    rw [Bool.and_comm]
    congr 1
    exact decide_eq_decide.2 (by omega)
  have hn : ∀ b, (!negB true b) = b := by intro b; cases b <;> rfl
  unfold ccV
  have no1 : okL ps = false → ∀ _ : Value, (Value.tuple #[zrV, .bool false]) = Value.tuple #[bif okL ps && spV ps ks then cenV ps ks else zrV, .bool (okL ps && spV ps ks)] := fun e _ => by rw [e]; rfl
  have no2 : spV ps ks = false → ∀ _ : Value, (Value.tuple #[zrV, .bool false]) = Value.tuple #[bif okL ps && spV ps ks then cenV ps ks else zrV, .bool (okL ps && spV ps ks)] := fun e _ => by rw [e, Bool.and_false]; rfl
  have yes : okL ps = true → spV ps ks = true → Value.tuple #[cenV ps ks, .bool true] = Value.tuple #[bif okL ps && spV ps ks then cenV ps ks else zrV, .bool (okL ps && spV ps ks)] := fun e1 e2 => by rw [e1, e2]; rfl
  refine ⟨fun hl => ⟨Nat.le_refl _, h, fun hv => ?_, fun hv => ⟨trivial, hk, fun ha => ?_, fun ha => ⟨trivial, hk, fun hb => ?_, fun hb => ?_⟩⟩⟩, fun hl => ?_⟩
  · exact no1 (by rw [oe, show allV ps = false by simpa using hv, Bool.and_false]) .nilIface
  · exact no2 (by unfold spV; rw [pC_all, show aF (pA ps.length ks) ks.length 0 = false by simpa using ha, Bool.false_and, Bool.false_and]) .nilIface
  · exact no2 (by unfold spV; rw [pC_all, show aF (pB ks) ks.length 1 = false by simpa using hb, Bool.and_false, Bool.false_and]) .nilIface
  rotate_left
  · exact no1 (by rw [oe, hl, Bool.false_and]) .nilIface
  have hv : allV ps = true := by simpa using hv
  have ho : okL ps = true := by rw [oe, hl, hv]; rfl
  have ha : aF (pA ps.length ks) ks.length 0 = true := by simpa using ha
  have hb : aF (pB ks) ks.length 1 = true := by simpa using hb
  have hi := idK_of ha
  have v0 := ptk_v hv ks 0
  have v1 := ptk_v hv ks 1
  have v2 := ptk_v hv ks 2
  have yes := yes ho
  refine ⟨fun k1 => ?_, fun k1 => ⟨fun k2 => ?_, fun k2 => ⟨fun k3 => ?_, fun k3 => ?_⟩⟩⟩
  · have e : ks.length = 1 := by have := eq_of_beq k1; omega
    have g0 := idK_get hi (k := 0) (by omega)
    have hs : spV ps ks = true := by unfold spV; rw [pC_all, ha, hb, if_pos e]; rfl
    have hc : cenV ps ks = .agg #[iv (ptk ps ks 0).1, iv 1, iv (ptk ps ks 0).2, iv 1] := by unfold cenV; rw [if_pos e]
    refine ⟨by omega, by omega, ⟨g0.1, g0.2.1⟩, by omega, Eq.trans ?_ (yes hs)⟩
    rw [hc]; rfl
  · have n1 : ks.length ≠ 1 := fun h => by rw [h] at k1; cases k1
    have e : ks.length = 2 := by have := eq_of_beq k2; omega
    have g0 := idK_get hi (k := 0) (by omega)
    have g1 := idK_get hi (k := 1) (by omega)
    have hq : ((ps.getD (ks.getD 0 0).toNat (0, 0)).1 == (ps.getD (ks.getD 1 0).toNat (0, 0)).1 && ((ps.getD (ks.getD 0 0).toNat (0, 0)).2 == (ps.getD (ks.getD 1 0).toNat (0, 0)).2 && true)) = eqQ (ptk ps ks 1).1 (ptk ps ks 1).2 (ptk ps ks 0).1 (ptk ps ks 0).2 := by simp [eqQ, ptk]
    have hs : spV ps ks = !eqQ (ptk ps ks 1).1 (ptk ps ks 1).2 (ptk ps ks 0).1 (ptk ps ks 0).2 := by unfold spV; rw [pC_all, ha, hb, if_neg n1, if_pos e]; rfl
    simp only [hn, hq]
    refine ⟨by omega, by omega, ⟨g0.1, g0.2.1⟩, by omega, by omega, by omega, ⟨g1.1, g1.2.1⟩, by omega, fun r => ?_, fun r => ⟨v0, v1, ?_⟩⟩
    · exact no2 (by rw [hs, r]; rfl) .nilIface
    · have hc : cenV ps ks = cn2V (ptk ps ks 0).1 (ptk ps ks 0).2 (ptk ps ks 1).1 (ptk ps ks 1).2 := by unfold cenV; rw [if_neg n1, if_pos e]
      refine Eq.trans ?_ (yes (by rw [hs, r]; rfl))
      rw [hc]; rfl
  · have n1 : ks.length ≠ 1 := fun h => by rw [h] at k1; cases k1
    have n2 : ks.length ≠ 2 := fun h => by rw [h] at k2; cases k2
    have e : ks.length = 3 := by have := eq_of_beq k3; omega
    have g0 := idK_get hi (k := 0) (by omega)
    have g1 := idK_get hi (k := 1) (by omega)
    have g2 := idK_get hi (k := 2) (by omega)
    have hs : spV ps ks = acB (ptk ps ks 0).1 (ptk ps ks 0).2 (ptk ps ks 1).1 (ptk ps ks 1).2 (ptk ps ks 2).1 (ptk ps ks 2).2 := by unfold spV; rw [pC_all, ha, hb, if_neg n1, if_neg n2, if_pos e]; rfl
    refine ⟨by omega, by omega, ⟨g0.1, g0.2.1⟩, by omega, by omega, by omega, ⟨g1.1, g1.2.1⟩, by omega, by omega, by omega, ⟨g2.1, g2.2.1⟩, by omega, ⟨v0, v1, v2⟩, fun r => ?_, fun r => ⟨⟨v0, v1, v2⟩, ?_, ?_⟩⟩
    · have r : acB (ptk ps ks 0).1 (ptk ps ks 0).2 (ptk ps ks 1).1 (ptk ps ks 1).2 (ptk ps ks 2).1 (ptk ps ks 2).2 = false := by unfold ptk; simpa using r
      exact no2 (by rw [hs, r]) .nilIface
    · have r : acB (ptk ps ks 0).1 (ptk ps ks 0).2 (ptk ps ks 1).1 (ptk ps ks 1).2 (ptk ps ks 2).1 (ptk ps ks 2).2 = true := by unfold ptk; simpa using r
      exact ac_cross r
    · have r : acB (ptk ps ks 0).1 (ptk ps ks 0).2 (ptk ps ks 1).1 (ptk ps ks 1).2 (ptk ps ks 2).1 (ptk ps ks 2).2 = true := by unfold ptk; simpa using r
      have hc : cenV ps ks = cn3V (ptk ps ks 0).1 (ptk ps ks 0).2 (ptk ps ks 1).1 (ptk ps ks 1).2 (ptk ps ks 2).1 (ptk ps ks 2).2 := by unfold cenV; rw [if_neg n1, if_neg n2]
      refine Eq.trans ?_ (yes (by rw [hs, r]))
      rw [hc]; rfl
  · have n1 : ks.length ≠ 1 := fun h => by rw [h] at k1; cases k1
    have n2 : ks.length ≠ 2 := fun h => by rw [h] at k2; cases k2
    have n3 : ks.length ≠ 3 := fun h => by rw [h] at k3; cases k3
    exact no2 (by unfold spV; rw [if_neg n1, if_neg n2, if_neg n3, Bool.and_false]) .nilIface
end Go.Proofs.Ytolodncpegajkaa
namespace Go.Proofs.Ytolodncpegajkaa
set_option linter.all false
open Go.RowKit
def czN (ps : List Pt) (ks : List Int) (j : Nat) : Int :=
  if okL ps && spV ps ks then
    (if ks.length = 1 then (if j = 0 then (ptk ps ks 0).1 else if j = 2 then (ptk ps ks 0).2 else 1)
     else if ks.length = 2 then (if j = 0 then qN ((ptk ps ks 0).1 + (ptk ps ks 1).1) 2 else if j = 1 then qD ((ptk ps ks 0).1 + (ptk ps ks 1).1) 2 else if j = 2 then qN ((ptk ps ks 0).2 + (ptk ps ks 1).2) 2 else qD ((ptk ps ks 0).2 + (ptk ps ks 1).2) 2)
     else (if j = 0 then qN (ccP (ptk ps ks 0).1 (ptk ps ks 0).2 (ptk ps ks 1).1 (ptk ps ks 1).2 (ptk ps ks 2).1 (ptk ps ks 2).2) (ccD (ptk ps ks 0).1 (ptk ps ks 0).2 (ptk ps ks 1).1 (ptk ps ks 1).2 (ptk ps ks 2).1 (ptk ps ks 2).2) else if j = 1 then qD (ccP (ptk ps ks 0).1 (ptk ps ks 0).2 (ptk ps ks 1).1 (ptk ps ks 1).2 (ptk ps ks 2).1 (ptk ps ks 2).2) (ccD (ptk ps ks 0).1 (ptk ps ks 0).2 (ptk ps ks 1).1 (ptk ps ks 1).2 (ptk ps ks 2).1 (ptk ps ks 2).2) else if j = 2 then qN (ccQ (ptk ps ks 0).1 (ptk ps ks 0).2 (ptk ps ks 1).1 (ptk ps ks 1).2 (ptk ps ks 2).1 (ptk ps ks 2).2) (ccD (ptk ps ks 0).1 (ptk ps ks 0).2 (ptk ps ks 1).1 (ptk ps ks 1).2 (ptk ps ks 2).1 (ptk ps ks 2).2) else qD (ccQ (ptk ps ks 0).1 (ptk ps ks 0).2 (ptk ps ks 1).1 (ptk ps ks 1).2 (ptk ps ks 2).1 (ptk ps ks 2).2) (ccD (ptk ps ks 0).1 (ptk ps ks 0).2 (ptk ps ks 1).1 (ptk ps ks 1).2 (ptk ps ks 2).1 (ptk ps ks 2).2))) else 0
theorem ccV_is (ps : List Pt) (ks : List Int) : ccV ps ks = .tuple #[.agg #[iv (czN ps ks 0), iv (czN ps ks 1), iv (czN ps ks 2), iv (czN ps ks 3)], .bool (okL ps && spV ps ks)] := by
  unfold ccV czN cenV
  rcases okL ps && spV ps ks with _ | _
  · rfl
  · simp only [cond_true, if_true]
    split
    · rfl
    split
    · rfl
    · rfl
def pCcV : List DArg → Option (Value × List Prop)
  | [.row m (.ints xs), .row n (.ints ks)] => some (.tuple #[.agg #[iv (czN (ptsA m xs) ks 0), iv (czN (ptsA m xs) ks 1), iv (czN (ptsA m xs) ks 2), iv (czN (ptsA m xs) ks 3)], .bool (okL (ptsA m xs) && spV (ptsA m xs) ks)], [m * 2 ≤ xs.length, m ≤ 1000000000, ks.length = n, n ≤ 1000000000])
  | _ => none
theorem pCcV_ok {f : FuncId} (h0 : ∀ (ps : List Pt) (ks : List Int), Big ps → ks.length ≤ 1000000000 → Res Try.prog f [.row ps.length (.ints (flat ps)), .row ks.length (.ints ks)] (ccV ps ks)) {ds : List DArg} {v : Value} {C : List Prop} (h : pCcV ds = some (v, C)) (hC : AllP C) : Res Try.prog f ds v := by
  unfold pCcV at h
  split at h
  · rename_i m xs n ks
    obtain ⟨rfl, rfl⟩ : _ ∧ _ := by simpa using h
    obtain ⟨h1, h2, rfl, h4, _⟩ := hC
    obtain ⟨_, g2⟩ := ptsA_spec h1
    have := h0 (ptsA m xs) ks (by unfold Big; rw [g2]; exact h2) h4
    rw [ccV_is] at this
    exact res_pts1 (pre := []) (post := [_]) h1 this
  · cases h
theorem pCcS_ok {ds : List DArg} {v : Value} {C : List Prop} (h : pCcV ds = some (v, C)) (hC : AllP C) : Res Try.prog 51 ds v := pCcV_ok res_sCc h hC
theorem pCcI_ok {ds : List DArg} {v : Value} {C : List Prop} (h : pCcV ds = some (v, C)) (hC : AllP C) : Res Try.prog 52 ds v := pCcV_ok res_iCc h hC
def TCh : Tab := fun f ds => match f with
  | 51 => pCcV ds
  | 52 => pCcV ds
  | 50 => pEqI ds
  | f => T3 f ds
theorem TCh_ok : TabOk Try.prog TCh := by
  intro f ds v C h hC
  unfold TCh at h
  (try split at h)
  all_goals first | with_reducible exact pCcS_ok h hC | with_reducible exact pCcI_ok h hC | with_reducible exact pEqI_ok h hC | exact T3_ok _ _ _ _ h hC
def ECh : Env := mkE TCh R4i (fun _ => noL)
theorem ECh_ok : EnvOk Try.prog ECh := mkEOk TCh_ok R4i_ok (fun _ _ _ => noL_good)
set_option maxRecDepth 100000 in
theorem tr_exCc (ps : List Pt) (ks : List Int) : bodyV Try.prog ECh 30 12 12 [.row ps.length (.ints (flat ps)), .row ks.length (.ints ks)] = brT (decide (1048576 < (↑ks.length : Int))) (.fin (.bool (true)) []) (brT (decide (IntKind.i64.wrap (1048576 - (↑ps.length : Int)) < 0)) (.fin (.bool (true)) []) (brT (decide (IntKind.i64.wrap (1048576 - (↑ps.length : Int)) < 0)) (.fin (.bool (true)) []) (.need (ps.length * (2 : Nat) ≤ (List.drop (0 : Nat) (flat ps)).length) (.need (ps.length ≤ (1000000000 : Nat)) (.need ((List.drop (0 : Nat) ks).length = ks.length) (.need (Lim ks.length) (.need (ps.length * (2 : Nat) ≤ (List.drop (0 : Nat) (List.take (ps.length * (2 : Nat)) (List.drop (0 : Nat) (flat ps)))).length) (.need (ps.length ≤ (1000000000 : Nat)) (.need ((List.drop (0 : Nat) (List.drop (0 : Nat) ks)).length = ks.length) (.need (ks.length ≤ (1000000000 : Nat)) (.need (ps.length * (2 : Nat) ≤ (List.drop (0 : Nat) (flat ps)).length) (.need (ps.length ≤ (1000000000 : Nat)) (.need ((List.drop (0 : Nat) ks).length = ks.length) (.need (Lim ks.length) (.need (ps.length * (2 : Nat) ≤ (List.drop (0 : Nat) (List.take (ps.length * (2 : Nat)) (List.drop (0 : Nat) (flat ps)))).length) (.need (ps.length ≤ (1000000000 : Nat)) (.need ((List.drop (0 : Nat) (List.drop (0 : Nat) ks)).length = ks.length) (.need (ks.length ≤ (1000000000 : Nat)) (brT (!czN (ptsA ps.length (List.drop 0 (List.take (ps.length * 2) (List.drop 0 (flat ps))))) (List.drop 0 (List.drop 0 ks)) 0 == czN (ptsA ps.length (List.drop 0 (List.take (ps.length * 2) (List.drop 0 (flat ps))))) (List.drop 0 (List.drop 0 ks)) 0) (.fin (.bool (false)) []) (brT (!czN (ptsA ps.length (List.drop 0 (List.take (ps.length * 2) (List.drop 0 (flat ps))))) (List.drop 0 (List.drop 0 ks)) 1 == czN (ptsA ps.length (List.drop 0 (List.take (ps.length * 2) (List.drop 0 (flat ps))))) (List.drop 0 (List.drop 0 ks)) 1) (.fin (.bool (false)) []) (brT (!czN (ptsA ps.length (List.drop 0 (List.take (ps.length * 2) (List.drop 0 (flat ps))))) (List.drop 0 (List.drop 0 ks)) 2 == czN (ptsA ps.length (List.drop 0 (List.take (ps.length * 2) (List.drop 0 (flat ps))))) (List.drop 0 (List.drop 0 ks)) 2) (.fin (.bool (false)) []) (brT (!czN (ptsA ps.length (List.drop 0 (List.take (ps.length * 2) (List.drop 0 (flat ps))))) (List.drop 0 (List.drop 0 ks)) 3 == czN (ptsA ps.length (List.drop 0 (List.take (ps.length * 2) (List.drop 0 (flat ps))))) (List.drop 0 (List.drop 0 ks)) 3) (.fin (.bool (false)) []) (brT (!(okL (ptsA ps.length (List.drop 0 (List.take (ps.length * 2) (List.drop 0 (flat ps))))) && spV (ptsA ps.length (List.drop 0 (List.take (ps.length * 2) (List.drop 0 (flat ps))))) (List.drop 0 (List.drop 0 ks))) == (okL (ptsA ps.length (List.drop 0 (List.take (ps.length * 2) (List.drop 0 (flat ps))))) && spV (ptsA ps.length (List.drop 0 (List.take (ps.length * 2) (List.drop 0 (flat ps))))) (List.drop 0 (List.drop 0 ks)))) (.fin (.bool (false)) []) (.need (ps.length * (2 : Nat) ≤ (List.drop (0 : Nat) (flat ps)).length) (.need (ps.length ≤ (1000000000 : Nat)) (.need (ps.length * (2 : Nat) ≤ (List.drop (0 : Nat) (List.take (ps.length * (2 : Nat)) (List.drop (0 : Nat) (flat ps)))).length) (.need (ps.length * (2 : Nat) ≤ (List.drop (0 : Nat) (List.take (ps.length * (2 : Nat)) (List.drop (0 : Nat) (flat ps)))).length) (.need (ps.length ≤ (1000000000 : Nat)) (brT (!eqL (ptsA ps.length (List.drop 0 (List.take (ps.length * 2) (List.drop 0 (flat ps))))) (ptsA ps.length (List.drop 0 (List.take (ps.length * 2) (List.drop 0 (flat ps)))))) (.fin (.bool (false)) []) (.need ((List.drop (0 : Nat) ks).length = ks.length) (.need (Lim ks.length) (.need (ks.length = ks.length) (.need (List.drop (0 : Nat) (List.drop (0 : Nat) ks) = List.drop (0 : Nat) (List.drop (0 : Nat) ks)) (.need (ks.length ≤ (List.drop (0 : Nat) (List.drop (0 : Nat) ks)).length) (.need (Lim ks.length) (.fin (.bool (true)) [])))))))))))))))))))))))))))))))))))) := by kernel_rfl
theorem ExactCircleCenter_res (ps : List Pt) (ks : List Int) (h : (ps.length : Int) ≤ 9223372036854775807) (hk : (ks.length : Int) ≤ 9223372036854775807) : Res Try.prog 12 [.row ps.length (.ints (flat ps)), .row ks.length (.ints ks)] (.bool true) := by
  refine bodyV_res mixed ECh_ok (m := 30) (n := 12) rfl ?_
  rw [tr_exCc]
  simp only [List.drop_zero, flat_all, ptsA_flat, flat_length, List.take_length]
  by_cases hl2 : (1048576 : Int) < ks.length
  · simp only [hl2, decide_true, brT_t, Tree.ok]
  by_cases hl : (1048576 : Int) - ps.length < 0
  · simp (disch := omega) only [wr]
    simp only [hl2, hl, decide_true, decide_false, brT_t, brT_f, Tree.ok]
  · have hP : Lim ps.length := by unfold Lim; omega
    have hL : Lim ks.length := by unfold Lim; omega
    simp (disch := omega) only [wr]
    simp only [hl2, hl, decide_false, brT_f, Tree.ok, beq_self_eq_true, Bool.not_true, eqL, decide_true, Bool.true_and, Bool.and_true, Bool.and_self]
    repeat' (first | exact True.intro | assumption | omega | exact rfl | refine And.intro ?_ ?_)
end Go.Proofs.Ytolodncpegajkaa
