/-
  Texts that the proof needs, merged. Written by an AI agent.
-/
import Derived.Orders
import Derived.Below
import Derived.OrdersIn
import Derived.Deep.LoopGhost
import Derived.WalkKit
import Derived.Laws.CopyRow
import Derived.Laws.AppendOwn
import Derived.Laws.Slices
import Derived.Laws.MakeOwn
import Derived.Test.YtnjmepbblcfnfaaRows
import Derived.ProofKit
import Derived.OpenShut
import Derived.Carry
import Derived.IntWalk
import Derived.Test.YtnjmepbblcfnfaaProg
import Derived.WalkSpells
import Derived.WalkLawsBesides
import Derived.Lib.Hide
import Derived.Deep.QuietTactic
import Derived.BigQuiet
import Derived.KernelRfl
import Derived.Deep.RegionHeld3
import Derived.LoopTactic
import Derived.Laws.StructEq
import Derived.Laws.Tables
import Derived.RangeFuncNested
import Derived.RangeFuncLeaves
import Derived.Deep.Slices
import Derived.Deep.Fields
import Derived.ChangeSame
import Derived.Deep.DeepCutAuto
import Derived.Shelf.SlSortCmp.WholeK
import Derived.Sort.Grow
import Derived.Shelf.SlSortCmp.NoneTotal
import Derived.Test.YtnjmepbblcfnfaaZDiameterHull4
namespace Go.Proofs.Ytnjmepbblcfnfaa
set_option linter.all false
open Go.RowKit
theorem flatR (o : List Pt) : List.take (o.length * 2) (List.drop 0 (flat o)) = flat o := by rw [List.drop_zero, flat_all]
def ERv : Env := tabE B0
theorem ERv_ok : EnvOk Try.prog ERv := tabE_ok B0_ok
/-- So many are exchanged at both ends. -/
def rvI (ps X : List Pt) (i : Nat) : Prop := X.length = ps.length ∧ ∀ k, k < ps.length → X.getD k (0, 0) = if k < i ∨ ps.length - 1 - k < i then ps.getD (ps.length - 1 - k) (0, 0) else ps.getD k (0, 0)
theorem rv_end {ps X : List Pt} {i : Nat} (h : rvI ps X i) (hi : ps.length ≤ 2 * i + 1) : X = ps.reverse := by
  refine ext_getD (by simp [h.1]) fun k hk => ?_
  rw [h.1] at hk
  rw [h.2 k hk, getD_rev hk]
  split
  · rfl
  · congr 1
    omega
theorem getD_set' (X : List Pt) (i k : Nat) (z : Pt) (h : i < X.length) : (X.set i z).getD k (0, 0) = if k = i then z else X.getD k (0, 0) := by
  simp only [List.getD, List.getElem?_set]
  by_cases e : i = k
  · subst e; simp [h]
  · simp [e, Ne.symm e]
theorem rv_step {ps X : List Pt} {i : Nat} (h : rvI ps X i) (hi : 2 * i + 1 < ps.length) : rvI ps ((X.set i (X.getD (ps.length - 1 - i) (0, 0))).set (ps.length - 1 - i) (X.getD i (0, 0))) (i + 1) := by
  refine ⟨by simp [h.1], fun k hk => ?_⟩
  rw [getD_set' _ _ _ _ (by simp [h.1]; omega), getD_set' _ _ _ _ (by rw [h.1]; omega)]
  have a1 := h.2 i (by omega)
  have a2 := h.2 (ps.length - 1 - i) (by omega)
  rw [if_neg (by omega)] at a1
  rw [if_neg (by omega)] at a2
  by_cases c1 : k = ps.length - 1 - i
  · subst c1
    rw [if_pos rfl, a1, if_pos (by omega)]
    congr 1
    omega
  · rw [if_neg c1]
    by_cases c2 : k = i
    · subst c2
      rw [if_pos rfl, a2, if_pos (by omega)]
    · rw [if_neg c2, h.2 k hk]
      by_cases c3 : k < i ∨ ps.length - 1 - k < i
      · rw [if_pos c3, if_pos (by omega)]
      · rw [if_neg c3, if_neg (by omega)]
noncomputable def c_rvs : Code := ((loopsOf (codeOf Try.f67))[0]?).getD .skip
def k_rvs : Ex → List Nat := keeps [0, 2, 3] [(0, [])] []
def s_rvs (ps : List Pt) : Nat × (List Pt) → St := fun (i, X) => ⟨[.slice (some ⟨0, 0, none⟩) ps.length ps.length, topV, .int .i64 i, .int .i64 ((ps.length : Int) - 1 - i), topV, topV, topV, topV, topV, topV, topV, topV, topV, topV, topV, topV, topV, topV, topV, topV, topV, topV, topV, topV, topV, topV, topV, topV], [some ⟨.row 30 2, .ints (flat X)⟩]⟩
def re_rvs : Nat × (List Pt) → Ex := fun _ => .exit 0
def rs_rvs (ps : List Pt) : Nat × (List Pt) → St := fun (i, X) => ⟨[topV, topV, topV, topV, topV, topV, topV, topV, topV, topV, topV, topV, topV, topV, topV, topV, topV, topV, topV, topV, topV, topV, topV, topV, topV, topV, topV, topV], [some ⟨.row 30 2, .ints (flat (revP ps))⟩]⟩
set_option maxRecDepth 100000 in
theorem tr_rvs (ps : List Pt) (i : Nat) (X : List Pt) : bodyL Try.prog ERv 30 12 noL 1 c_rvs k_rvs 1 (s_rvs ps (i, X)) = brT (decide ((↑i : Int) < (↑ps.length : Int) - 1 - (↑i : Int))) (.need ((0 : Int) ≤ (↑ps.length : Int) - (1 : Int) - (↑i : Int) ∧ (↑ps.length : Int) - (1 : Int) - (↑i : Int) < (↑ps.length : Int)) (.need ((0 : Nat) + ((↑ps.length : Int) - (1 : Int) - (↑i : Int)).toNat * (2 : Nat) + (2 : Nat) ≤ (flat X).length) (.need ((0 : Int) ≤ (↑i : Int) ∧ (↑i : Int) < (↑ps.length : Int)) (.need ((0 : Nat) + (↑i : Int).toNat * (2 : Nat) + (2 : Nat) ≤ (flat X).length) (.need ((0 : Int) ≤ (↑i : Int) ∧ (↑i : Int) < (↑ps.length : Int)) (.need ((0 : Nat) + (↑i : Int).toNat * (2 : Nat) + (2 : Nat) ≤ (flat X).length) (.need ((0 : Int) ≤ (↑ps.length : Int) - (1 : Int) - (↑i : Int) ∧ (↑ps.length : Int) - (1 : Int) - (↑i : Int) < (↑ps.length : Int)) (.need ((0 : Nat) + ((↑ps.length : Int) - (1 : Int) - (↑i : Int)).toNat * (2 : Nat) + (2 : Nat) ≤ (setInts (flat X) ((0 : Nat) + (↑i : Int).toNat * (2 : Nat)) [(flat X).getD ((0 : Nat) + ((↑ps.length : Int) - (1 : Int) - (↑i : Int)).toNat * (2 : Nat)) (0 : Int), (flat X).getD ((0 : Nat) + ((↑ps.length : Int) - (1 : Int) - (↑i : Int)).toNat * (2 : Nat) + (1 : Nat)) (0 : Int)]).length) (.leaf .normal ⟨[.slice (some ⟨0, 0, none⟩) (ps.length) (ps.length), topV, .int .i64 (IntKind.i64.wrap ((↑i : Int) + 1)), .int .i64 (IntKind.i64.wrap ((↑ps.length : Int) - 1 - (↑i : Int) - 1)), topV, topV, topV, topV, topV, topV, topV, topV, topV, topV, topV, topV, topV, topV, topV, topV, topV, topV, topV, topV, topV, topV, topV, topV], [some ⟨.row 30 2, .ints (setInts (setInts (flat X) (0 + (↑i : Int).toNat * 2) [(flat X).getD (0 + ((↑ps.length : Int) - 1 - (↑i : Int)).toNat * 2) 0, (flat X).getD (0 + ((↑ps.length : Int) - 1 - (↑i : Int)).toNat * 2 + 1) 0]) (0 + ((↑ps.length : Int) - 1 - (↑i : Int)).toNat * 2) [(flat X).getD (0 + (↑i : Int).toNat * 2) 0, (flat X).getD (0 + (↑i : Int).toNat * 2 + 1) 0])⟩]⟩))))))))) (.leaf (.exit 0) ⟨[topV, topV, topV, topV, topV, topV, topV, topV, topV, topV, topV, topV, topV, topV, topV, topV, topV, topV, topV, topV, topV, topV, topV, topV, topV, topV, topV, topV], [some ⟨.row 30 2, .ints (flat X)⟩]⟩) := by kernel_rfl
set_option maxRecDepth 100000 in
theorem nl_rvs : loopsOf c_rvs = [] := by kernel_rfl
def inv_rvs (ps : List Pt) : Nat × (List Pt) → Prop := fun (i, X) => 2 * i ≤ ps.length + 1 ∧ rvI ps X i
def me_rvs (ps : List Pt) : Nat × (List Pt) → Nat := fun (i, X) => ps.length + 1 - i
/-- A round of this loop. -/
def Round_rvs (ps : List Pt) : Prop := ∀ xx : Nat × (List Pt), inv_rvs ps xx → (bodyL Try.prog ERv 30 12 noL 1 c_rvs k_rvs 1 (s_rvs ps xx)).ok (RoundEnd 1 (s_rvs ps) (inv_rvs ps) (me_rvs ps) re_rvs (rs_rvs ps) xx) (fun _ _ => False)
def e_rvs (s : St) (k : Ex → St → Tree) : Option Tree := match Nat.beq s.tmps.length 28, pickL s.tmps [0, 2, 3], s.mem with
  | true, [.slice (some ⟨0, 0, none⟩) n _, .int .i64 i0, .int .i64 j0], [some ⟨.row 30 2, .ints xs⟩] => some (needs [i0 = 0, j0 = (n : Int) - 1 - (0 : Nat), xs.length = n * 2, n ≤ 1000000000] (k (.exit 0) ⟨[topV, topV, topV, topV, topV, topV, topV, topV, topV, topV, topV, topV, topV, topV, topV, topV, topV, topV, topV, topV, topV, topV, topV, topV, topV, topV, topV, topV], [some ⟨.row 30 2, .ints (flat (revP (ptsA n xs)))⟩]⟩))
  | _, _, _ => none
noncomputable def c_rvd : Code := ((loopsOf (codeOf Try.f127))[0]?).getD .skip
def k_rvd : Ex → List Nat := keeps [0, 3, 4] [(0, [3])] [2]
def s_rvd (ps : List Pt) : Nat × (List Pt) → St := fun (m, o) => ⟨[.slice (some ⟨0, 0, none⟩) ps.length ps.length, topV, topV, .slice (some ⟨2, 0, none⟩) o.length o.length, .int .i64 ((m : Int) - 1), topV, topV, topV, topV, topV, topV, topV, topV, topV, topV, topV, topV, topV, topV, topV, topV], [some ⟨.view, .ints (flat ps)⟩, some ⟨.dead, .vals []⟩, some ⟨.row 30 2, .ints (flat o)⟩]⟩
def re_rvd : Nat × (List Pt) → Ex := fun _ => .exit 0
def rs_rvd (ps : List Pt) : Nat × (List Pt) → St := fun (m, o) => ⟨[topV, topV, topV, .slice (some ⟨2, 0, none⟩) (revP ps).length (revP ps).length, topV, topV, topV, topV, topV, topV, topV, topV, topV, topV, topV, topV, topV, topV, topV, topV, topV], [some ⟨.view, .ints (flat ps)⟩, some ⟨.dead, .vals []⟩, some ⟨.row 30 2, .ints (flat (revP ps))⟩]⟩
set_option maxRecDepth 100000 in
theorem tr_rvd (ps : List Pt) (m : Nat) (o : List Pt) : bodyL Try.prog ERv 30 12 noL 1 c_rvd k_rvd 16 (s_rvd ps (m, o)) = brT (decide (0 ≤ (↑m : Int) - 1)) (.need ((0 : Int) ≤ (↑m : Int) - (1 : Int) ∧ (↑m : Int) - (1 : Int) < (↑ps.length : Int)) (.need ((0 : Nat) + ((↑m : Int) - (1 : Int)).toNat * (2 : Nat) + (2 : Nat) ≤ (flat ps).length) (.need ((o.length + (1 : Nat)) * (16 : Nat) ≤ (140737488355328 : Nat) ∧ o.length + (1 : Nat) ≤ (1000000 : Nat)) (.need ((0 : Nat) + o.length * (2 : Nat) ≤ (flat o).length) (.leaf .normal ⟨[.slice (some ⟨0, 0, none⟩) (ps.length) (ps.length), topV, topV, .slice (some ⟨4, 0, none⟩) (o.length + 1) (o.length + 1), .int .i64 (IntKind.i64.wrap ((↑m : Int) - 1 - 1)), topV, topV, topV, topV, topV, topV, topV, topV, topV, topV, topV, topV, topV, topV, topV, topV], [some ⟨.view, .ints (flat ps)⟩, some deadB, some deadB, some ⟨.row 30 2, .vals [.int .i64 ((flat ps).getD (0 + ((↑m : Int) - 1).toNat * 2) 0), .int .i64 ((flat ps).getD (0 + ((↑m : Int) - 1).toNat * 2 + 1) 0)]⟩, some ⟨.row 30 2, .ints (List.take (o.length * 2) (List.drop 0 (flat o)) ++ [(flat ps).getD (0 + ((↑m : Int) - 1).toNat * 2) 0, (flat ps).getD (0 + ((↑m : Int) - 1).toNat * 2 + 1) 0])⟩]⟩))))) (.leaf (.exit 0) ⟨[topV, topV, topV, .slice (some ⟨2, 0, none⟩) (o.length) (o.length), topV, topV, topV, topV, topV, topV, topV, topV, topV, topV, topV, topV, topV, topV, topV, topV, topV], [some ⟨.view, .ints (flat ps)⟩, some deadB, some ⟨.row 30 2, .ints (flat o)⟩]⟩) := by kernel_rfl
set_option maxRecDepth 100000 in
theorem nl_rvd : loopsOf c_rvd = [] := by kernel_rfl
def inv_rvd (ps : List Pt) : Nat × (List Pt) → Prop := fun (m, o) => m ≤ ps.length ∧ o = (ps.drop m).reverse
def me_rvd (ps : List Pt) : Nat × (List Pt) → Nat := fun (m, o) => m
/-- A round of this loop. -/
def Round_rvd (ps : List Pt) : Prop := ∀ xx : Nat × (List Pt), inv_rvd ps xx → (bodyL Try.prog ERv 30 12 noL 1 c_rvd k_rvd 16 (s_rvd ps xx)).ok (RoundEnd 2 (s_rvd ps) (inv_rvd ps) (me_rvd ps) re_rvd (rs_rvd ps) xx) (fun _ _ => False)
def e_rvd (s : St) (k : Ex → St → Tree) : Option Tree := match Nat.beq s.tmps.length 21, pickL s.tmps [0, 3, 4], s.mem with
  | true, [.slice (some ⟨0, 0, none⟩) n _, .slice (some ⟨1, 0, none⟩) z _, .int .i64 i0], [some ⟨.view, .ints xs⟩, some ⟨.row 30 2, .vals []⟩] => some (needs [i0 = (n : Int) - 1, z = 0, xs.length = n * 2, n ≤ 100000] (k (.exit 0) ⟨[topV, topV, topV, .slice (some ⟨2, 0, none⟩) (revP (ptsA n xs)).length (revP (ptsA n xs)).length, topV, topV, topV, topV, topV, topV, topV, topV, topV, topV, topV, topV, topV, topV, topV, topV, topV], [some ⟨.view, .ints xs⟩, some ⟨.dead, .vals []⟩, some ⟨.row 30 2, .ints (flat (revP (ptsA n xs)))⟩]⟩))
  | _, _, _ => none
set_option maxRecDepth 100000 in
theorem round_rvs (ps : List Pt) (h : ps.length ≤ 1000000000) : Round_rvs ps := by
  rintro ⟨i, X⟩ ⟨h1, h2⟩
  rw [tr_rvs]
  have hl := h2.1
  refine brT_ok.2 ⟨fun hlt => ?_, fun hge => ?_⟩
  · have hlt := of_decide_eq_true hlt
    have hi : 2 * i + 1 < ps.length := by omega
    have j1 : ((ps.length : Int) - 1 - (i : Int)).toNat = ps.length - 1 - i := by omega
    have w : IntKind.i64.wrap ((ps.length : Int) - 1 - (i : Int) - 1) = (ps.length : Int) - 1 - ((i + 1 : Nat) : Int) := by rw [wr (by omega)]; omega
    have f1 := flat_set X i (by omega) (X.getD (ps.length - 1 - i) (0, 0)).1 (X.getD (ps.length - 1 - i) (0, 0)).2
    have f2 := flat_set (X.set i ((X.getD (ps.length - 1 - i) (0, 0)).1, (X.getD (ps.length - 1 - i) (0, 0)).2)) (ps.length - 1 - i) (by rw [List.length_set]; omega) (X.getD i (0, 0)).1 (X.getD i (0, 0)).2
    simp only [j1, w, Int.toNat_natCast, Nat.zero_add, flat_get0, flat_get1, f1]
    simp only [f2, flat_length, List.length_set, wsucc (n := ps.length) (i := i) (by omega) h]
    refine ⟨by omega, by omega, by omega, by omega, by omega, by omega, by omega, by omega, ?_⟩
    refine ⟨(i + 1, (X.set i (X.getD (ps.length - 1 - i) (0, 0))).set (ps.length - 1 - i) (X.getD i (0, 0))), [], ⟨by omega, rv_step h2 hi⟩, ?_, rfl, by simp only [rs_rvs], ?_⟩
    · show ps.length + 1 - (i + 1) < ps.length + 1 - i; omega
    · repeat' (first | exact True.intro | exact rfl | exact fun _ => rfl | (simp; done) | refine And.intro ?_ ?_)
  · have hge := of_decide_eq_false hge
    obtain rfl := rv_end h2 (by omega)
    refine ⟨rfl, [], ?_⟩
    simp only [rs_rvs, revP]
    repeat' (first | exact True.intro | exact rfl | exact fun _ => rfl | (simp; done) | refine And.intro ?_ ?_)
set_option maxRecDepth 100000 in
theorem lg_rvs : LoopE Try.prog e_rvs c_rvs := by
  intro s k t F H hlt ht
  unfold e_rvs at hlt
  split at hlt
  rotate_left
  · cases hlt
  rename_i hlen hpick hmem
  obtain ⟨tmps, mem⟩ := s
  simp only at hlen hpick hmem
  subst hmem
  obtain rfl := Option.some.inj hlt
  obtain ⟨⟨rfl, rfl, h1, h2, _⟩, ht2⟩ := needs_ok ht
  clear ht hlt
  obtain ⟨ps, rfl, rfl⟩ := even_flat h1
  rw [ptsA_flat] at ht2
  refine ⟨_, _, ht2, loop_run mixed ERv_ok (s_rvs ps) (inv_rvs ps) (me_rvs ps) re_rvs (rs_rvs ps) k_rvs (fun _ => rfl) (noLoops nl_rvs) (round_rvs ps h2) (x := (0, ps)) ⟨by omega, rfl, fun k hk => by rw [if_neg (by omega)]⟩ (π := []) rfl ?_⟩
  refine ⟨rfl, rfl, ?_, wvs_spread' [0, 2, 3] hlen rfl ?_⟩
  · repeat' (first | exact True.intro | exact rfl | exact wv_top _ _ | exact fun _ => rfl | assumption | exact Eq.symm (by assumption) | exact vI0 rfl | refine And.intro ?_ ?_)
  · rw [hpick]
    repeat' (first | exact True.intro | exact rfl | exact wv_top _ _ | exact fun _ => rfl | assumption | exact Eq.symm (by assumption) | exact vI0 rfl | refine And.intro ?_ ?_)
theorem rvd_step {ps : List Pt} {m : Nat} (h : m < ps.length) : (ps.drop (m + 1)).reverse ++ [ps.getD m (0, 0)] = (ps.drop m).reverse := by
  rw [drop_cons h (0, 0), List.reverse_cons]
set_option maxRecDepth 100000 in
theorem round_rvd (ps : List Pt) (h : ps.length ≤ 100000) : Round_rvd ps := by
  rintro ⟨m, o⟩ ⟨h1, rfl⟩
  rw [tr_rvd]
  have hl : (ps.drop m).reverse.length = ps.length - m := by simp
  refine brT_ok.2 ⟨fun hlt => ?_, fun hge => ?_⟩
  · have hlt := of_decide_eq_true hlt
    obtain ⟨m, rfl⟩ : ∃ k, m = k + 1 := ⟨m - 1, by omega⟩
    have j1 : (((m + 1 : Nat) : Int) - 1).toNat = m := by omega
    have w : IntKind.i64.wrap (((m + 1 : Nat) : Int) - 1 - 1) = (m : Int) - 1 := by rw [wr (by omega)]; omega
    have hs := rvd_step (ps := ps) (m := m) (by omega)
    have fs : flat (ps.drop (m + 1)).reverse ++ [(ps.getD m (0, 0)).1, (ps.getD m (0, 0)).2] = flat (ps.drop m).reverse := by
      rw [flat_snoc, ← hs]
    simp only [j1, w, Nat.zero_add, flat_get0, flat_get1, flat_length, flatR, fs]
    refine ⟨by omega, by omega, ⟨by omega, by omega⟩, by omega, (m, (ps.drop m).reverse), [some 4], ⟨by omega, rfl⟩, ?_, rfl, by simp only [rs_rvd], ?_⟩
    · show m < m + 1; omega
    · have e : (ps.drop (m + 1)).reverse.length + 1 = (ps.drop m).reverse.length := by rw [← hs]; simp
      rw [e]
      repeat' (first | exact True.intro | exact rfl | exact fun _ => rfl | (simp; done) | refine And.intro ?_ ?_)
  · have hge := of_decide_eq_false hge
    obtain rfl : m = 0 := by omega
    refine ⟨rfl, [some 2], ?_⟩
    simp only [rs_rvd, revP, List.drop_zero]
    repeat' (first | exact True.intro | exact rfl | exact fun _ => rfl | (simp; done) | refine And.intro ?_ ?_)
set_option maxRecDepth 100000 in
theorem lg_rvd : LoopE Try.prog e_rvd c_rvd := by
  intro s k t F H hlt ht
  unfold e_rvd at hlt
  split at hlt
  rotate_left
  · cases hlt
  rename_i hlen hpick hmem
  obtain ⟨tmps, mem⟩ := s
  simp only at hlen hpick hmem
  subst hmem
  obtain rfl := Option.some.inj hlt
  obtain ⟨⟨rfl, rfl, h1, h3, _⟩, ht2⟩ := needs_ok ht
  clear ht hlt
  obtain ⟨ps, rfl, rfl⟩ := even_flat h1
  rw [ptsA_flat] at ht2
  refine ⟨_, _, ht2, loop_run2 mixed ERv_ok (s_rvd ps) (inv_rvd ps) (me_rvd ps) re_rvd (rs_rvd ps) k_rvd (fun _ => rfl) (noLoops nl_rvd) (round_rvd ps h3) (x := (ps.length, [])) ⟨Nat.le_refl _, by rw [List.drop_length]; rfl⟩ (π := [some 1]) rfl ?_⟩
  refine ⟨rfl, rfl, ?_, wvs_spread' [0, 3, 4] hlen rfl ?_⟩
  · repeat' (first | exact True.intro | exact rfl | exact wv_top _ _ | exact fun _ => rfl | assumption | exact Eq.symm (by assumption) | exact vI0 rfl | refine And.intro ?_ ?_)
  · rw [hpick]
    repeat' (first | exact True.intro | exact rfl | exact wv_top _ _ | exact fun _ => rfl | assumption | exact Eq.symm (by assumption) | exact vI0 rfl | refine And.intro ?_ ?_)
theorem Lr_rvs {fn : Func} (hf : Try.prog.funcs[67]? = some fn) : LoopsGood Try.prog (lt1 e_rvs) 0 (codeOf fn) := by
  obtain rfl := fn_is Try.func67 hf
  exact lt1_good lg_rvs
theorem Lr_rvd {fn : Func} (hf : Try.prog.funcs[127]? = some fn) : LoopsGood Try.prog (lt1 e_rvd) 0 (codeOf fn) := by
  obtain rfl := fn_is Try.func127 hf
  exact lt1_good lg_rvd
def LRv : FuncId → LT := fun f => match f with
  | 67 => lt1 e_rvs
  | 127 => lt1 e_rvd
  | _ => noL
def ERw : Env := mkE B0 (fun _ _ => none) LRv
theorem ERw_ok : EnvOk Try.prog ERw := mkEOk B0_ok (fun _ _ _ _ _ h => (by cases h)) (by
  intro f fn hf
  unfold LRv
  split
  all_goals first | with_reducible exact Lr_rvs hf | with_reducible exact Lr_rvd hf | exact noL_good)
set_option maxRecDepth 100000 in
theorem tr_rvF (ps : List Pt) : bodyM Try.prog ERw (runM Try.prog ERw 30 12) 30 67 [.slice (some ⟨0, 0, none⟩) ps.length ps.length] [some ⟨.row 30 2, .ints (flat ps)⟩] .fin = .need ((0 : Int) = (0 : Int)) (.need (IntKind.i64.wrap ((↑ps.length : Int) - (1 : Int)) = (↑ps.length : Int) - (1 : Int) - (↑(0 : Nat) : Int)) (.need ((flat ps).length = ps.length * (2 : Nat)) (.need (ps.length ≤ (1000000000 : Nat)) (.fin (.tuple #[]) [some ⟨.row 30 2, .ints (flat (revP (ptsA ps.length (flat ps))))⟩])))) := by kernel_rfl
set_option maxRecDepth 100000 in
theorem tr_rdF (ps : List Pt) : bodyX Try.prog ERw 30 12 127 [.row ps.length (.ints (flat ps))] = .need (IntKind.i64.wrap ((↑ps.length : Int) - (1 : Int)) = (↑ps.length : Int) - (1 : Int)) (.need ((0 : Nat) = (0 : Nat)) (.need ((flat ps).length = ps.length * (2 : Nat)) (.need (ps.length ≤ (100000 : Nat)) (.fin (.slice (some ⟨2, 0, none⟩) ((revP (ptsA ps.length (flat ps))).length) ((revP (ptsA ps.length (flat ps))).length)) [some ⟨.view, .ints (flat ps)⟩, some deadB, some ⟨.row 30 2, .ints (flat (revP (ptsA ps.length (flat ps))))⟩])))) := by kernel_rfl
def rvW : WSpec := fun e sz l xs rest => match Nat.beq e 30 && Nat.beq sz 2, rest with
  | true, [] => some (.tuple #[], flat (revP (ptsA l xs)), [xs.length = l * 2, l ≤ 1000000000])
  | _, _ => none
theorem rvW_ok : WSpecOk Try.prog 67 rvW := by
  intro e sz l xs rest v ys C h hC
  unfold rvW at h
  split at h
  rotate_left
  · cases h
  rename_i he
  simp only [Bool.and_eq_true] at he
  obtain rfl := Nat.eq_of_beq_eq_true he.1
  obtain rfl := Nat.eq_of_beq_eq_true he.2
  obtain ⟨rfl, rfl, rfl⟩ : Value.tuple #[] = v ∧ flat (revP (ptsA l xs)) = ys ∧ [xs.length = l * 2, l ≤ 1000000000] = C := by simpa using h
  obtain ⟨h1, h2, _⟩ := hC
  obtain ⟨ps, rfl, rfl⟩ := even_flat h1
  refine ⟨ERw, 30, 12, ERw_ok, rfl, ?_⟩
  rw [tr_rvF]
  simp only [ptsA_flat]
  exact ⟨trivial, by rw [wr (by omega)]; omega, flat_length ps, h2, rfl, _, rfl, rfl, rfl⟩
theorem resR_rvd {ps : List Pt} (h : ps.length ≤ 100000) : ResR Try.prog 127 [.row ps.length (.ints (flat ps))] (rowP (revP ps)) (blkP (revP ps)) := by
  refine bodyX_resR mixed ERw_ok (m := 30) (n := 12) rfl ?_
  rw [tr_rdF]
  simp only [ptsA_flat]
  exact ⟨by rw [wr (by omega)], trivial, flat_length ps, h, some 2, ⟨rfl, rfl, rfl⟩, rfl, rfl, rfl⟩
end Go.Proofs.Ytnjmepbblcfnfaa
namespace Go.Proofs.Ytnjmepbblcfnfaa
set_option linter.all false
open Go.RowKit
set_option maxRecDepth 100000 in
theorem grow_any (n : Int) (h : 0 < n ∧ n ≤ 1000) (w : World) : Calls Try.prog 124 #[.slice none 0 0, .int .i64 n] w fun e w' => ∃ v' p, e = .returned v' ∧ Below w.heap.size w w' ∧
    ∀ (ρ : Nat → Option Pl) (name : Nat), ρ name = some p → VR ρ (.slice (some ⟨name, 0, none⟩) 0 0) v' ∧ BlkOk ρ (fun k => k < w.heap.size) w' name ⟨.row 30 2, .ints []⟩ := by
  have h1 : decide (n < 0) = false := decide_eq_false (by omega)
  have h2 : decide (0 < n) = true := decide_eq_true (by omega)
  have hb : Try.t30.bytes = 16 := rfl
  have hc : Builtin.nextslicecap n.toNat 0 = n.toNat := nextslicecap_zero (by omega)
  have hge : n.toNat ≤ (Question.appendCap n.toNat 0 30).cut (w.tape w.drawn (Question.appendCap n.toNat 0 30)) := grownCap_ge w n.toNat 0 30
  have HG := Lib.hid hge
  clear hge
  go_enter Try.func124, Try.ntmps124
  go_wp2_with fail
  all_goals (try (exfalso; first | omega | (rw [hb] at *; omega) | (rw [hc, hb] at *; omega)))
  have hge := HG.out
  clear HG
  go_ret
  refine ⟨_, rfl, Below.drew (na (nr _) _), w.heap.size, 0, some ((Question.appendCap n.toNat 0 30).cut (w.tape w.drawn (Question.appendCap n.toNat 0 30))), fun ρ name hn => ⟨.slice (f := 0) hn (.inl rfl) (Nat.zero_le _) (fun k hk _ => by simpa using hk), .inr ⟨w.heap.size, _, hn, Nat.lt_irrefl _, _, heap_alloc_new w _, ?_, fun k v hk => by simp [Blk.cells, Cs.list] at hk⟩⟩⟩
  rw [Array.size_append, size_zeroCells, size_zeroCells]
  simp only [List.size_toArray, List.length_cons, List.length_nil]
  omega
set_option maxRecDepth 100000 in
theorem resR_grw (n : Int) (h : 0 < n ∧ n ≤ 1000) : ResR Try.prog 124 [.v (.slice none 0 0), .v (.int .i64 n)] (.slice (some ⟨0, 0, none⟩) 0 0) ⟨.row 30 2, .ints []⟩ := by
  refine ⟨(entersB_res (by kernel_rfl)).1, (entersB_res (by kernel_rfl)).2, rfl, fun d hd => ?_, fun w args hd => ?_⟩
  · rcases List.mem_cons.1 hd with rfl | hd
    · exact rfl
    · rw [List.mem_singleton.1 hd]
      exact rfl
  · obtain ⟨h1, h2⟩ := hd
    obtain ⟨x0, x1, rfl⟩ : ∃ x0 x1, args = #[x0, x1] := by
      have h3 : args.size = 2 := by simpa using h1.symm
      match args, h3 with
      | ⟨[x0, x1]⟩, _ => exact ⟨x0, x1, rfl⟩
    obtain ⟨_, rfl⟩ := h2 0 _ x0 rfl rfl
    obtain ⟨_, rfl⟩ := h2 1 _ x1 rfl rfl
    exact grow_any n h w
end Go.Proofs.Ytnjmepbblcfnfaa
namespace Go.Proofs.Ytnjmepbblcfnfaa
set_option linter.all false
open Go.RowKit
def RGw : TabR := fun f ds => match f, ds with
  | 124, [.v (.slice none 0 0), .v (.int .i64 n)] => some (.slice (some ⟨0, 0, none⟩) 0 0, ⟨.row 30 2, .ints []⟩, [0 < n ∧ n ≤ 1000])
  | _, _ => none
theorem RGw_ok : TabROk Try.prog RGw := by
  intro f ds v b C h hC
  unfold RGw at h
  split at h
  · obtain ⟨rfl, rfl, rfl⟩ : _ ∧ _ ∧ _ := by simpa using h
    exact resR_grw _ hC.1
  · cases h
def ECt : Env := mkE B0 RGw (fun _ => noL)
theorem ECt_ok : EnvOk Try.prog ECt := mkEOk B0_ok RGw_ok (fun _ _ _ => noL_good)
set_option maxRecDepth 100000 in
theorem tr_cat (l1 l2 : Nat) (y1 y2 : List Int) : bodyM Try.prog ECt (runM Try.prog ECt 30 12) 30 68 [.slice (some ⟨2, 0, none⟩) 2 2] [some ⟨.view, .ints y1⟩, some ⟨.view, .ints y2⟩, some ⟨.view, .vals [.slice (some ⟨0, 0, none⟩) l1 l1, .slice (some ⟨1, 0, none⟩) l2 l2]⟩] .fin = .need ((0 : Int) ≤ (0 : Int) ∧ (0 : Int) < (↑(2 : Nat) : Int)) (brT (decide (IntKind.i64.wrap (0 + (↑l1 : Int)) < 0)) (.bad) (.need ((0 : Int) ≤ IntKind.i64.wrap ((0 : Int) + (1 : Int)) ∧ IntKind.i64.wrap ((0 : Int) + (1 : Int)) < (↑(2 : Nat) : Int)) (brT (decide (IntKind.i64.wrap (IntKind.i64.wrap (0 + (↑l1 : Int)) + (↑l2 : Int)) < 0)) (.bad) (.need ((0 : Int) < IntKind.i64.wrap (IntKind.i64.wrap ((0 : Int) + (↑l1 : Int)) + (↑l2 : Int)) ∧ IntKind.i64.wrap (IntKind.i64.wrap ((0 : Int) + (↑l1 : Int)) + (↑l2 : Int)) ≤ (1000 : Int)) (.need ((0 : Int) ≤ (0 : Int) ∧ (0 : Int) < (↑(2 : Nat) : Int)) (.need (((0 : Nat) + (l1, Cs.ints (List.take (l1 * Try.prog.types[(30 : Nat)].size) (List.drop (0 : Nat) y1)), [(0 : Nat) + l1 * Try.prog.types[(30 : Nat)].size ≤ y1.length]).fst) * (16 : Nat) ≤ (140737488355328 : Nat) ∧ (0 : Nat) + (l1, Cs.ints (List.take (l1 * Try.prog.types[(30 : Nat)].size) (List.drop (0 : Nat) y1)), [(0 : Nat) + l1 * Try.prog.types[(30 : Nat)].size ≤ y1.length]).fst ≤ (1000000 : Nat)) (.need ((0 : Nat) + l1 * (2 : Nat) ≤ y1.length) (.need ((0 : Nat) ≤ (0 : Nat)) (.need ((0 : Int) ≤ IntKind.i64.wrap ((0 : Int) + (1 : Int)) ∧ IntKind.i64.wrap ((0 : Int) + (1 : Int)) < (↑(2 : Nat) : Int)) (.need (((0 : Nat) + (l1, Cs.ints (List.take (l1 * Try.prog.types[(30 : Nat)].size) (List.drop (0 : Nat) y1)), [(0 : Nat) + l1 * Try.prog.types[(30 : Nat)].size ≤ y1.length]).fst + (l2, Cs.ints (List.take (l2 * Try.prog.types[(30 : Nat)].size) (List.drop (0 : Nat) y2)), [(0 : Nat) + l2 * Try.prog.types[(30 : Nat)].size ≤ y2.length]).fst) * (16 : Nat) ≤ (140737488355328 : Nat) ∧ (0 : Nat) + (l1, Cs.ints (List.take (l1 * Try.prog.types[(30 : Nat)].size) (List.drop (0 : Nat) y1)), [(0 : Nat) + l1 * Try.prog.types[(30 : Nat)].size ≤ y1.length]).fst + (l2, Cs.ints (List.take (l2 * Try.prog.types[(30 : Nat)].size) (List.drop (0 : Nat) y2)), [(0 : Nat) + l2 * Try.prog.types[(30 : Nat)].size ≤ y2.length]).fst ≤ (1000000 : Nat)) (.need ((0 : Nat) + l2 * (2 : Nat) ≤ y2.length) (.need ((0 : Nat) + ((0 : Nat) + (l1, Cs.ints (List.take (l1 * Try.prog.types[(30 : Nat)].size) (List.drop (0 : Nat) y1)), [(0 : Nat) + l1 * Try.prog.types[(30 : Nat)].size ≤ y1.length]).fst) * (2 : Nat) ≤ (List.take (0 : Nat) (List.drop (0 : Nat) []) ++ List.take (l1 * (2 : Nat)) (List.drop (0 : Nat) y1)).length) (.fin (.slice (some ⟨5, 0, none⟩) (0 + (l1, Cs.ints (List.take (l1 * Try.prog.types[30].size) (List.drop 0 y1)), [0 + l1 * Try.prog.types[30].size ≤ y1.length]).fst + (l2, Cs.ints (List.take (l2 * Try.prog.types[30].size) (List.drop 0 y2)), [0 + l2 * Try.prog.types[30].size ≤ y2.length]).fst) (0 + (l1, Cs.ints (List.take (l1 * Try.prog.types[30].size) (List.drop 0 y1)), [0 + l1 * Try.prog.types[30].size ≤ y1.length]).fst + (l2, Cs.ints (List.take (l2 * Try.prog.types[30].size) (List.drop 0 y2)), [0 + l2 * Try.prog.types[30].size ≤ y2.length]).fst)) [some ⟨.view, .ints (y1)⟩, some ⟨.view, .ints (y2)⟩, some ⟨.view, .vals [.slice (some ⟨0, 0, none⟩) (l1) (l1), .slice (some ⟨1, 0, none⟩) (l2) (l2)]⟩, some deadB, some deadB, some ⟨.row 30 2, .ints (List.take ((0 + (l1, Cs.ints (List.take (l1 * Try.prog.types[30].size) (List.drop 0 y1)), [0 + l1 * Try.prog.types[30].size ≤ y1.length]).fst) * 2) (List.drop 0 (List.take 0 (List.drop 0 []) ++ List.take (l1 * 2) (List.drop 0 y1))) ++ List.take (l2 * 2) (List.drop 0 y2))⟩]))))))))))))) := by kernel_rfl
/-- A view of two slices, beside what they are of. -/
theorem two_open {w : World} {l1 l2 : Nat} {y1 y2 : List Int} {x1 x2 : Value} (h1 : DOk w (.row l1 (.ints y1)) x1) (h2 : DOk w (.row l2 (.ints y2)) x2) {g f : Nat} (hg : g < w.heap.size) (c1 : w.cell? ⟨g, f, none⟩ = some x1) (c2 : w.cell? ⟨g, f + 1, none⟩ = some x2) (B : Nat → Prop) :
    ∃ ρ : Nat → Option Pl, ρ 2 = some (g, f, none) ∧ MemOk (fun _ => none) ρ B (fun n => [some (⟨.view, .ints y1⟩ : Blk), some ⟨.view, .ints y2⟩, some ⟨.view, .vals [.slice (some ⟨0, 0, none⟩) l1 l1, .slice (some ⟨1, 0, none⟩) l2 l2]⟩].getD n none) w := by
  obtain ⟨ρ, ha, hm⟩ := args_open (w := w) (ds := [.row l1 (.ints y1), .row l2 (.ints y2)]) (args := #[x1, x2]) ⟨rfl, fun i d y hd hy => by
    match i, hd, hy with
    | 0, hd, hy =>
      obtain rfl : DArg.row l1 (.ints y1) = d := by simpa using hd
      obtain rfl : x1 = y := by simpa using hy
      exact h1
    | 1, hd, hy =>
      obtain rfl : DArg.row l2 (.ints y2) = d := by simpa using hd
      obtain rfl : x2 = y := by simpa using hy
      exact h2
    | i + 2, hd, hy => simp at hd⟩ B
  have hn : ρ 2 = none := hm.fresh 2 rfl
  have v0 : VR ρ (.slice (some ⟨0, 0, none⟩) l1 l1) x1 := ha.2 0 _ _ rfl rfl
  have v1 : VR ρ (.slice (some ⟨1, 0, none⟩) l2 l2) x2 := ha.2 1 _ _ rfl rfl
  have hext : Ext ρ (addPl ρ 2 (g, f, none)) := addPl_ext hn
  refine ⟨addPl ρ 2 (g, f, none), addPl_same _ _ _, fun n p hp => by simp at hp, fun n hn' => ?_, fun n b hb => ?_, fun n n' b b' p p' hb hown => ?_⟩
  · have h3 : 3 ≤ n := by
      rcases Nat.lt_or_ge n 3 with h | h
      · match n, h with
        | 0, _ => simp at hn'
        | 1, _ => simp at hn'
        | 2, _ => simp at hn'
      · exact h
    rw [addPl_ne (by omega)]
    refine hm.fresh n ?_
    match n, h3 with
    | n + 3, _ => rfl
  · match n, hb with
    | 0, hb =>
      obtain rfl : (⟨.view, .ints y1⟩ : Blk) = b := by simpa using hb
      exact (hm.ok 0 _ rfl).keep hext (Nat.le_refl _) fun _ _ _ _ => rfl
    | 1, hb =>
      obtain rfl : (⟨.view, .ints y2⟩ : Blk) = b := by simpa using hb
      exact (hm.ok 1 _ rfl).keep hext (Nat.le_refl _) fun _ _ _ _ => rfl
    | 2, hb =>
      obtain rfl : (⟨.view, .vals [.slice (some ⟨0, 0, none⟩) l1 l1, .slice (some ⟨1, 0, none⟩) l2 l2]⟩ : Blk) = b := by simpa using hb
      refine .inr ⟨g, f, none, addPl_same _ _ _, .inr rfl, hg, fun k v hk => ?_⟩
      match k, hk with
      | 0, hk =>
        obtain rfl : Value.slice (some ⟨0, 0, none⟩) l1 l1 = v := by simpa [Blk.cells, Cs.list] using hk
        exact ⟨x1, c1, v0.ext hext⟩
      | 1, hk =>
        obtain rfl : Value.slice (some ⟨1, 0, none⟩) l2 l2 = v := by simpa [Blk.cells, Cs.list] using hk
        exact ⟨x2, c2, v1.ext hext⟩
      | k + 2, hk => simp [Blk.cells, Cs.list] at hk
    | n + 3, hb => simp at hb
  · exfalso
    match n, hb with
    | 0, hb =>
      obtain rfl : (⟨.view, .ints y1⟩ : Blk) = b := by simpa using hb
      cases hown
    | 1, hb =>
      obtain rfl : (⟨.view, .ints y2⟩ : Blk) = b := by simpa using hb
      cases hown
    | 2, hb =>
      obtain rfl : (⟨.view, .vals [.slice (some ⟨0, 0, none⟩) l1 l1, .slice (some ⟨1, 0, none⟩) l2 l2]⟩ : Blk) = b := by simpa using hb
      cases hown
    | n + 3, hb => simp at hb
/-- A function of a row of two slices that answers with a fresh row. -/
theorem two_call {P : Program} (hm : P.follows .mixedOrders = true) {E : Env} (hE : EnvOk P E) {m n : Nat} {f : FuncId} {l1 l2 : Nat} {y1 y2 : List Int} {v : Value} {b : Blk} (hb : isRow b = true)
    (h : (bodyM P E (runM P E m n) m f [.slice (some ⟨2, 0, none⟩) 2 2] [some ⟨.view, .ints y1⟩, some ⟨.view, .ints y2⟩, some ⟨.view, .vals [.slice (some ⟨0, 0, none⟩) l1 l1, .slice (some ⟨1, 0, none⟩) l2 l2]⟩] .fin).ok (fun _ _ => False) (fun u mem => RowIs v b u mem))
    (w : World) {x1 x2 : Value} (h1 : DOk w (.row l1 (.ints y1)) x1) (h2 : DOk w (.row l2 (.ints y2)) x2) {g fo c : Nat} (hg : g < w.heap.size) (c1 : w.cell? ⟨g, fo, none⟩ = some x1) (c2 : w.cell? ⟨g, fo + 1, none⟩ = some x2) (hc : 2 ≤ c) :
    Calls P f #[.slice (some ⟨g, fo, none⟩) 2 c] w fun e w' => ∃ v' p, e = .returned v' ∧ Below w.heap.size w w' ∧ ∀ ρ name, ρ name = some p → VR ρ (atName name v) v' ∧ BlkOk ρ (fun k => k < w.heap.size) w' name b := by
  obtain ⟨u, mem', ⟨src, hrv, hsrc⟩, hent, hdet⟩ := bodyM_ok hE hm (runM_ok hm hE m n) m f _ _ _ _ _ h
  obtain ⟨kd, cs⟩ := b
  cases kd with
  | row e sz =>
    obtain ⟨ρ, hρ, hmem⟩ := two_open h1 h2 hg c1 c2 (fun k => k < w.heap.size)
    refine (hdet ⟨w, fun _ => none, fun k => k < w.heap.size, fun _ h => h, [], none⟩ ρ #[.slice (some ⟨g, fo, none⟩) 2 c] w ⟨rfl, fun i a x ha hx => ?_⟩ hmem (BelowK.refl _ _)).mono ?_
    · match i, ha, hx with
      | 0, ha, hx =>
        obtain rfl : Value.slice (some ⟨2, 0, none⟩) 2 2 = a := by simpa using ha
        obtain rfl : Value.slice (some ⟨g, fo, none⟩) 2 c = x := by simpa using hx
        exact .slice (o := 0) hρ (.inr rfl) hc (fun k hk => by simp at hk)
      | i + 1, ha, hx => simp at ha
    rintro e' w' ⟨v', ρ', rfl, _, g2, g3, g4⟩
    cases src with
    | none => exact ⟨v', (0, 1, some 0), rfl, g3.to, fun ρ2 name hp => ⟨rv_ok (ρ := ρ') (src := none) hp hrv g2, .inl ⟨_, hp, rfl, rfl⟩⟩⟩
    | some k =>
      simp only at hsrc
      split at hsrc
      rotate_left
      · exact hsrc.elim
      rename_i b' hb'
      obtain ⟨kd', cs'⟩ := b'
      cases kd' with
      | row e2 sz2 =>
        obtain ⟨rfl, rfl, hc⟩ := hsrc
        obtain ⟨d1, d2⟩ := rc_list hc
        rcases g4.ok k _ hb' with ⟨p, h1, h2, h3⟩ | ⟨g, cap, h1, h2, arr, h3, h4, h5⟩
        · exact ⟨v', p, rfl, g3.to, fun ρ2 name hp => ⟨rv_ok (ρ := ρ') (src := some k) (hp.trans h1.symm) hrv g2, .inl ⟨p, hp, h2, h3⟩⟩⟩
        · refine ⟨v', _, rfl, g3.to, fun ρ2 name hp => ⟨rv_ok (ρ := ρ') (src := some k) (hp.trans h1.symm) hrv g2, .inr ⟨g, cap, hp, h2, arr, h3, h4, ?_⟩⟩⟩
          intro i x hx
          obtain ⟨x', k1, k2⟩ := h5 i x (by show cs'.list[i]? = some x; rw [d1]; exact hx)
          refine ⟨x', k1, ?_⟩
          have hat := plain_of_atom (d2 x (List.mem_of_getElem? hx))
          rw [k2.plain hat]
          exact .lit hat
      | _ => exact hsrc.elim
  | _ => cases hb
abbrev catB (l1 l2 : Nat) (y1 y2 : List Int) : Blk := ⟨.row 30 2, .ints (y1.take (l1 * 2) ++ y2.take (l2 * 2))⟩
theorem cat_row {l1 l2 : Nat} {y1 y2 : List Int} (h1 : l1 * 2 ≤ y1.length) (h2 : l2 * 2 ≤ y2.length) (h0 : 0 < l1 + l2) (h3 : l1 + l2 ≤ 1000) : (bodyM Try.prog ECt (runM Try.prog ECt 30 12) 30 68 [.slice (some ⟨2, 0, none⟩) 2 2] [some ⟨.view, .ints y1⟩, some ⟨.view, .ints y2⟩, some ⟨.view, .vals [.slice (some ⟨0, 0, none⟩) l1 l1, .slice (some ⟨1, 0, none⟩) l2 l2]⟩] .fin).ok (fun _ _ => False) (fun u mem => RowIs (.slice (some ⟨0, 0, none⟩) (l1 + l2) (l1 + l2)) (catB l1 l2 y1 y2) u mem) := by
  rw [tr_cat]
  have e1 : IntKind.i64.wrap (0 + (l1 : Int)) = (l1 : Int) := by rw [wr (by omega)]; omega
  have e2 : IntKind.i64.wrap ((l1 : Int) + (l2 : Int)) = (l1 : Int) + l2 := wr (by omega)
  have e3 : IntKind.i64.wrap ((0 : Int) + 1) = 1 := by rw [wr (by omega)]; rfl
  have t1 : (y1.take (l1 * 2)).length = l1 * 2 := by rw [List.length_take]; omega
  simp only [e1, e2, e3, List.drop_zero, List.take_zero, List.nil_append, Nat.zero_add, List.take_take, Nat.min_self, t1]
  refine ⟨⟨by omega, by omega⟩, brT_ok.2 ⟨fun q => ?_, fun _ => ⟨⟨by omega, by omega⟩, brT_ok.2 ⟨fun q => ?_, fun _ => ⟨⟨by omega, by omega⟩, ⟨by omega, by omega⟩, ⟨by omega, by omega⟩, h1, by omega, ⟨by omega, by omega⟩, ⟨by omega, by omega⟩, h2, by omega, some 5, ⟨rfl, rfl, rfl⟩, rfl, rfl, rfl⟩⟩⟩⟩⟩
  · have := of_decide_eq_true q; omega
  · have := of_decide_eq_true q; omega
def rowI : DArg → Option (Nat × List Int)
  | .row l (.ints y) => some (l, y)
  | _ => none
theorem rowI_spec {d : DArg} {l : Nat} {y : List Int} (h : rowI d = some (l, y)) : d = .row l (.ints y) := by
  unfold rowI at h
  split at h
  · obtain ⟨rfl, rfl⟩ : _ ∧ _ := by simpa using h
    rfl
  · cases h
/-- Two slices of points, one behind the other. -/
def catG (name : Nat) (args : List Value) : Rd Eff := match args with
  | [.slice (some ⟨nb, 0, none⟩) 2 _] => .blk nb fun b => match b with
    | some ⟨.row _ 1, .vals [s1, s2]⟩ => (rdArg s1).bind fun d1 => (rdArg s2).bind fun d2 => (match rowI d1, rowI d2 with
      | some (l1, y1), some (l2, y2) => .ret ⟨.slice (some ⟨name, 0, none⟩) (l1 + l2) (l1 + l2), [(name, catB l1 l2 y1 y2)], [l1 * 2 ≤ y1.length, l2 * 2 ≤ y2.length, 0 < l1 + l2, l1 + l2 ≤ 1000]⟩
      | _, _ => .fail)
    | _ => .fail
  | _ => .fail
set_option maxRecDepth 100000 in
theorem catG_sound {J : TabJ} (hJ : GSound Try.prog J.g) : GSound Try.prog (consR 68 catG J).g := by
  intro h name args s eff hr hn
  simp only [consR] at hr
  split at hr
  rotate_left
  · exact hJ h name args s eff hr hn
  rename_i heq
  obtain rfl := Nat.eq_of_beq_eq_true heq
  refine ⟨(entersB_res (by kernel_rfl)).1, fun B ρ0 ρ w args' ha hm hB hcond => ?_⟩
  unfold catG at hr
  split at hr
  rotate_left
  · simp [Rd.run] at hr
  rename_i nb c
  simp only [Rd.run] at hr
  split at hr
  rotate_left
  · simp [Rd.run] at hr
  rename_i e s1 s2 hb
  obtain ⟨d1, hd1, hr1⟩ := bind_some hr
  obtain ⟨d2, hd2, hr2⟩ := bind_some hr1
  clear hr hr1
  split at hr2
  rotate_left
  · simp [Rd.run] at hr2
  rename_i l1 y1 l2 y2 r1 r2
  obtain rfl := rowI_spec r1
  obtain rfl := rowI_spec r2
  obtain rfl : (⟨.slice (some ⟨name, 0, none⟩) (l1 + l2) (l1 + l2), [(name, catB l1 l2 y1 y2)], [l1 * 2 ≤ y1.length, l2 * 2 ≤ y2.length, 0 < l1 + l2, l1 + l2 ≤ 1000]⟩ : Eff) = eff := by simpa [Rd.run] using hr2
  obtain ⟨k1, k2, k3, k4, _⟩ := hcond
  obtain ⟨hsz, hval⟩ := ha
  obtain ⟨x0, rfl⟩ : ∃ x0, args' = #[x0] := by
    have h2 : args'.size = 1 := by simpa using hsz.symm
    match args', h2 with
    | ⟨[x0]⟩, _ => exact ⟨x0, rfl⟩
  have v0 := hval 0 _ x0 rfl rfl
  rcases v0.slice_inv with ⟨g, f, cp, c', j1, jok, j2, j3, j4⟩ | ⟨hl0, _⟩ | ⟨hl0, _⟩
  rotate_left
  · omega
  · omega
  rcases hm.ok nb _ hb with ⟨p, q1, q2, q3⟩ | ⟨g2, cap, q1, q2, cs', q3, q4, q5⟩
  · rw [q1] at j1
    obtain rfl : p = (g, f, cp) := by simpa using j1
    exact absurd ⟨q2, 0, q3⟩ jok.not
  rw [q1] at j1
  obtain ⟨rfl, rfl, rfl⟩ : g2 = g ∧ 0 = f ∧ some cap = cp := by simpa using j1
  subst j2
  obtain ⟨x1, a1, a2⟩ := q5 0 s1 rfl
  obtain ⟨x2, b1, b2⟩ := q5 1 s2 rfl
  have hg : g2 < w.heap.size := (Array.getElem?_eq_some_iff.1 q3).1
  have cell : ∀ k x, cs'[k]? = some x → w.cell? ⟨g2, 0 + k, none⟩ = some x := fun k x hx => by
    simp only [World.cell?, Nat.zero_add, q3, Option.isSome_none, Bool.false_eq_true, if_false, hx]
  refine (two_call mixed ECt_ok rfl (cat_row k1 k2 k3 k4) w ((rdArg_ok hd1).2 a2 hm) ((rdArg_ok hd2).2 b2 hm) hg (cell 0 _ a1) (cell 1 _ b1) j3).mono ?_
  rintro e' w' ⟨v', p, rfl, hbel, hrow⟩
  obtain ⟨g1, g3⟩ := hrow (addPl ρ name p) name (addPl_same _ _ _)
  refine ⟨v', addPl ρ name p, rfl, addPl_ext (hm.fresh name hn), g1, BelowK.of hbel hB, ?_⟩
  rw [upd_one]
  exact hm.newRow hB hbel hn rfl g3
end Go.Proofs.Ytnjmepbblcfnfaa
namespace Go.Proofs.Ytnjmepbblcfnfaa
set_option linter.all false
open Go.RowKit
def RHu : TabR := fun f ds => match f, ds with
  | 66, [.row m (.ints xs)] => some (rowP (chn [] (ptsA m xs)), blkP (chn [] (ptsA m xs)), [m * 2 ≤ xs.length, allV (ptsA m xs) = true, m ≤ 1000])
  | 126, [.row m (.ints xs)] => some (rowP (chn [] (ptsA m xs)), blkP (chn [] (ptsA m xs)), [m * 2 ≤ xs.length, allV (ptsA m xs) = true, m ≤ 1000])
  | 127, [.row m (.ints xs)] => some (rowP (revP (ptsA m xs)), blkP (revP (ptsA m xs)), [m * 2 ≤ xs.length, m ≤ 100000])
  | f, ds => RSq f ds
theorem RHu_ok : TabROk Try.prog RHu := by
  intro f ds v b C h hC
  unfold RHu at h
  split at h
  · obtain ⟨rfl, rfl, rfl⟩ : _ ∧ _ ∧ _ := by simpa using h
    obtain ⟨_, h2⟩ := ptsA_spec hC.1
    exact resR_pts1 (pre := []) (post := []) hC.1 (resR_iCn hC.2.1 (by rw [h2]; exact hC.2.2.1))
  · obtain ⟨rfl, rfl, rfl⟩ : _ ∧ _ ∧ _ := by simpa using h
    obtain ⟨_, h2⟩ := ptsA_spec hC.1
    exact resR_pts1 (pre := []) (post := []) hC.1 (resR_sCn hC.2.1 (by rw [h2]; exact hC.2.2.1))
  · obtain ⟨rfl, rfl, rfl⟩ : _ ∧ _ ∧ _ := by simpa using h
    obtain ⟨_, h2⟩ := ptsA_spec hC.1
    exact resR_pts1 (pre := []) (post := []) hC.1 (resR_rvd (by rw [h2]; exact hC.2.1))
  · exact RSq_ok _ _ _ _ _ h hC
def JRv : TabJ := consJ 67 (fun _ => wrG rvW) noJ
theorem JRv_ok : GSound Try.prog JRv.g := consJ_wr mixed (failG_sound Try.prog) (entersB_res (by kernel_rfl)).1 rvW_ok
def JHu : TabJ := consR 68 catG JRv
theorem JHu_ok : GSound Try.prog JHu.g := catG_sound JRv_ok
def EHu : Env := withT (mkE T3 RHu (fun _ => noL)) JHu
theorem EHu_ok : EnvOk Try.prog EHu := withT_ok (mkEOk T3_ok RHu_ok (fun _ _ _ => noL_good)) JHu_ok
set_option maxRecDepth 100000 in
theorem tr_sHu (ps : List Pt) : bodyX Try.prog EHu 30 12 70 [.row ps.length (.ints (flat ps))] = .need (ps.length * (2 : Nat) ≤ (List.drop (0 : Nat) (flat ps)).length) (.need (ps.length ≤ (1000 : Nat)) (brT (decide ((↑(srtL (ptsA ps.length (List.drop 0 (flat ps)))).length : Int) < 3)) (.fin (.slice (some ⟨1, 0, none⟩) ((srtL (ptsA ps.length (List.drop 0 (flat ps)))).length) ((srtL (ptsA ps.length (List.drop 0 (flat ps)))).length)) [some ⟨.view, .ints (flat ps)⟩, some ⟨.row 30 2, .ints (flat (srtL (ptsA ps.length (List.drop 0 (flat ps)))))⟩]) (.need ((srtL (ptsA ps.length (List.drop (0 : Nat) (flat ps)))).length * (2 : Nat) ≤ (List.drop (0 : Nat) (flat (srtL (ptsA ps.length (List.drop (0 : Nat) (flat ps)))))).length) (.need (allV (ptsA (srtL (ptsA ps.length (List.drop (0 : Nat) (flat ps)))).length (List.drop (0 : Nat) (flat (srtL (ptsA ps.length (List.drop (0 : Nat) (flat ps))))))) = true) (.need ((srtL (ptsA ps.length (List.drop (0 : Nat) (flat ps)))).length ≤ (1000 : Nat)) (.need ((srtL (ptsA ps.length (List.drop (0 : Nat) (flat ps)))).length * (2 : Nat) ≤ (List.drop (0 : Nat) (flat (srtL (ptsA ps.length (List.drop (0 : Nat) (flat ps)))))).length) (.need ((srtL (ptsA ps.length (List.drop (0 : Nat) (flat ps)))).length ≤ (100000 : Nat)) (.need ((revP (ptsA (srtL (ptsA ps.length (List.drop (0 : Nat) (flat ps)))).length (List.drop (0 : Nat) (flat (srtL (ptsA ps.length (List.drop (0 : Nat) (flat ps)))))))).length * (2 : Nat) ≤ (List.drop (0 : Nat) (flat (revP (ptsA (srtL (ptsA ps.length (List.drop (0 : Nat) (flat ps)))).length (List.drop (0 : Nat) (flat (srtL (ptsA ps.length (List.drop (0 : Nat) (flat ps)))))))))).length) (.need (allV (ptsA (revP (ptsA (srtL (ptsA ps.length (List.drop (0 : Nat) (flat ps)))).length (List.drop (0 : Nat) (flat (srtL (ptsA ps.length (List.drop (0 : Nat) (flat ps)))))))).length (List.drop (0 : Nat) (flat (revP (ptsA (srtL (ptsA ps.length (List.drop (0 : Nat) (flat ps)))).length (List.drop (0 : Nat) (flat (srtL (ptsA ps.length (List.drop (0 : Nat) (flat ps))))))))))) = true) (.need ((revP (ptsA (srtL (ptsA ps.length (List.drop (0 : Nat) (flat ps)))).length (List.drop (0 : Nat) (flat (srtL (ptsA ps.length (List.drop (0 : Nat) (flat ps)))))))).length ≤ (1000 : Nat)) (.need ((0 : Int) ≤ bndI none (0 : Int) ∧ bndI none (0 : Int) ≤ bndI (some (IntKind.i64, IntKind.i64.wrap ((↑(chn [] (ptsA (srtL (ptsA ps.length (List.drop (0 : Nat) (flat ps)))).length (List.drop (0 : Nat) (flat (srtL (ptsA ps.length (List.drop (0 : Nat) (flat ps)))))))).length : Int) - (1 : Int)))) (↑(chn [] (ptsA (srtL (ptsA ps.length (List.drop (0 : Nat) (flat ps)))).length (List.drop (0 : Nat) (flat (srtL (ptsA ps.length (List.drop (0 : Nat) (flat ps)))))))).length : Int) ∧ bndI (some (IntKind.i64, IntKind.i64.wrap ((↑(chn [] (ptsA (srtL (ptsA ps.length (List.drop (0 : Nat) (flat ps)))).length (List.drop (0 : Nat) (flat (srtL (ptsA ps.length (List.drop (0 : Nat) (flat ps)))))))).length : Int) - (1 : Int)))) (↑(chn [] (ptsA (srtL (ptsA ps.length (List.drop (0 : Nat) (flat ps)))).length (List.drop (0 : Nat) (flat (srtL (ptsA ps.length (List.drop (0 : Nat) (flat ps)))))))).length : Int) ≤ (↑(chn [] (ptsA (srtL (ptsA ps.length (List.drop (0 : Nat) (flat ps)))).length (List.drop (0 : Nat) (flat (srtL (ptsA ps.length (List.drop (0 : Nat) (flat ps)))))))).length : Int)) (.need ((0 : Int) ≤ bndI none (0 : Int) ∧ bndI none (0 : Int) ≤ bndI (some (IntKind.i64, IntKind.i64.wrap ((↑(chn [] (ptsA (revP (ptsA (srtL (ptsA ps.length (List.drop (0 : Nat) (flat ps)))).length (List.drop (0 : Nat) (flat (srtL (ptsA ps.length (List.drop (0 : Nat) (flat ps)))))))).length (List.drop (0 : Nat) (flat (revP (ptsA (srtL (ptsA ps.length (List.drop (0 : Nat) (flat ps)))).length (List.drop (0 : Nat) (flat (srtL (ptsA ps.length (List.drop (0 : Nat) (flat ps)))))))))))).length : Int) - (1 : Int)))) (↑(chn [] (ptsA (revP (ptsA (srtL (ptsA ps.length (List.drop (0 : Nat) (flat ps)))).length (List.drop (0 : Nat) (flat (srtL (ptsA ps.length (List.drop (0 : Nat) (flat ps)))))))).length (List.drop (0 : Nat) (flat (revP (ptsA (srtL (ptsA ps.length (List.drop (0 : Nat) (flat ps)))).length (List.drop (0 : Nat) (flat (srtL (ptsA ps.length (List.drop (0 : Nat) (flat ps)))))))))))).length : Int) ∧ bndI (some (IntKind.i64, IntKind.i64.wrap ((↑(chn [] (ptsA (revP (ptsA (srtL (ptsA ps.length (List.drop (0 : Nat) (flat ps)))).length (List.drop (0 : Nat) (flat (srtL (ptsA ps.length (List.drop (0 : Nat) (flat ps)))))))).length (List.drop (0 : Nat) (flat (revP (ptsA (srtL (ptsA ps.length (List.drop (0 : Nat) (flat ps)))).length (List.drop (0 : Nat) (flat (srtL (ptsA ps.length (List.drop (0 : Nat) (flat ps)))))))))))).length : Int) - (1 : Int)))) (↑(chn [] (ptsA (revP (ptsA (srtL (ptsA ps.length (List.drop (0 : Nat) (flat ps)))).length (List.drop (0 : Nat) (flat (srtL (ptsA ps.length (List.drop (0 : Nat) (flat ps)))))))).length (List.drop (0 : Nat) (flat (revP (ptsA (srtL (ptsA ps.length (List.drop (0 : Nat) (flat ps)))).length (List.drop (0 : Nat) (flat (srtL (ptsA ps.length (List.drop (0 : Nat) (flat ps)))))))))))).length : Int) ≤ (↑(chn [] (ptsA (revP (ptsA (srtL (ptsA ps.length (List.drop (0 : Nat) (flat ps)))).length (List.drop (0 : Nat) (flat (srtL (ptsA ps.length (List.drop (0 : Nat) (flat ps)))))))).length (List.drop (0 : Nat) (flat (revP (ptsA (srtL (ptsA ps.length (List.drop (0 : Nat) (flat ps)))).length (List.drop (0 : Nat) (flat (srtL (ptsA ps.length (List.drop (0 : Nat) (flat ps)))))))))))).length : Int)) (.need (((bndI (some (IntKind.i64, IntKind.i64.wrap ((↑(chn [] (ptsA (srtL (ptsA ps.length (List.drop (0 : Nat) (flat ps)))).length (List.drop (0 : Nat) (flat (srtL (ptsA ps.length (List.drop (0 : Nat) (flat ps)))))))).length : Int) - (1 : Int)))) (↑(chn [] (ptsA (srtL (ptsA ps.length (List.drop (0 : Nat) (flat ps)))).length (List.drop (0 : Nat) (flat (srtL (ptsA ps.length (List.drop (0 : Nat) (flat ps)))))))).length : Int)).toNat - (0 : Nat) + ((bndI (some (IntKind.i64, IntKind.i64.wrap ((↑(chn [] (ptsA (revP (ptsA (srtL (ptsA ps.length (List.drop (0 : Nat) (flat ps)))).length (List.drop (0 : Nat) (flat (srtL (ptsA ps.length (List.drop (0 : Nat) (flat ps)))))))).length (List.drop (0 : Nat) (flat (revP (ptsA (srtL (ptsA ps.length (List.drop (0 : Nat) (flat ps)))).length (List.drop (0 : Nat) (flat (srtL (ptsA ps.length (List.drop (0 : Nat) (flat ps)))))))))))).length : Int) - (1 : Int)))) (↑(chn [] (ptsA (revP (ptsA (srtL (ptsA ps.length (List.drop (0 : Nat) (flat ps)))).length (List.drop (0 : Nat) (flat (srtL (ptsA ps.length (List.drop (0 : Nat) (flat ps)))))))).length (List.drop (0 : Nat) (flat (revP (ptsA (srtL (ptsA ps.length (List.drop (0 : Nat) (flat ps)))).length (List.drop (0 : Nat) (flat (srtL (ptsA ps.length (List.drop (0 : Nat) (flat ps)))))))))))).length : Int)).toNat - (bndI none (0 : Int)).toNat, Cs.ints (List.take (((bndI (some (IntKind.i64, IntKind.i64.wrap ((↑(chn [] (ptsA (revP (ptsA (srtL (ptsA ps.length (List.drop (0 : Nat) (flat ps)))).length (List.drop (0 : Nat) (flat (srtL (ptsA ps.length (List.drop (0 : Nat) (flat ps)))))))).length (List.drop (0 : Nat) (flat (revP (ptsA (srtL (ptsA ps.length (List.drop (0 : Nat) (flat ps)))).length (List.drop (0 : Nat) (flat (srtL (ptsA ps.length (List.drop (0 : Nat) (flat ps)))))))))))).length : Int) - (1 : Int)))) (↑(chn [] (ptsA (revP (ptsA (srtL (ptsA ps.length (List.drop (0 : Nat) (flat ps)))).length (List.drop (0 : Nat) (flat (srtL (ptsA ps.length (List.drop (0 : Nat) (flat ps)))))))).length (List.drop (0 : Nat) (flat (revP (ptsA (srtL (ptsA ps.length (List.drop (0 : Nat) (flat ps)))).length (List.drop (0 : Nat) (flat (srtL (ptsA ps.length (List.drop (0 : Nat) (flat ps)))))))))))).length : Int)).toNat - (bndI none (0 : Int)).toNat) * Try.prog.types[(30 : Nat)].size) (List.drop ((0 : Nat) + (bndI none (0 : Int)).toNat * Try.prog.types[(30 : Nat)].size) (flat (chn [] (ptsA (revP (ptsA (srtL (ptsA ps.length (List.drop (0 : Nat) (flat ps)))).length (List.drop (0 : Nat) (flat (srtL (ptsA ps.length (List.drop (0 : Nat) (flat ps)))))))).length (List.drop (0 : Nat) (flat (revP (ptsA (srtL (ptsA ps.length (List.drop (0 : Nat) (flat ps)))).length (List.drop (0 : Nat) (flat (srtL (ptsA ps.length (List.drop (0 : Nat) (flat ps))))))))))))))), [(0 : Nat) + (bndI none (0 : Int)).toNat * Try.prog.types[(30 : Nat)].size + ((bndI (some (IntKind.i64, IntKind.i64.wrap ((↑(chn [] (ptsA (revP (ptsA (srtL (ptsA ps.length (List.drop (0 : Nat) (flat ps)))).length (List.drop (0 : Nat) (flat (srtL (ptsA ps.length (List.drop (0 : Nat) (flat ps)))))))).length (List.drop (0 : Nat) (flat (revP (ptsA (srtL (ptsA ps.length (List.drop (0 : Nat) (flat ps)))).length (List.drop (0 : Nat) (flat (srtL (ptsA ps.length (List.drop (0 : Nat) (flat ps)))))))))))).length : Int) - (1 : Int)))) (↑(chn [] (ptsA (revP (ptsA (srtL (ptsA ps.length (List.drop (0 : Nat) (flat ps)))).length (List.drop (0 : Nat) (flat (srtL (ptsA ps.length (List.drop (0 : Nat) (flat ps)))))))).length (List.drop (0 : Nat) (flat (revP (ptsA (srtL (ptsA ps.length (List.drop (0 : Nat) (flat ps)))).length (List.drop (0 : Nat) (flat (srtL (ptsA ps.length (List.drop (0 : Nat) (flat ps)))))))))))).length : Int)).toNat - (bndI none (0 : Int)).toNat) * Try.prog.types[(30 : Nat)].size ≤ (flat (chn [] (ptsA (revP (ptsA (srtL (ptsA ps.length (List.drop (0 : Nat) (flat ps)))).length (List.drop (0 : Nat) (flat (srtL (ptsA ps.length (List.drop (0 : Nat) (flat ps)))))))).length (List.drop (0 : Nat) (flat (revP (ptsA (srtL (ptsA ps.length (List.drop (0 : Nat) (flat ps)))).length (List.drop (0 : Nat) (flat (srtL (ptsA ps.length (List.drop (0 : Nat) (flat ps))))))))))))).length]).fst) * (16 : Nat) ≤ (140737488355328 : Nat) ∧ (bndI (some (IntKind.i64, IntKind.i64.wrap ((↑(chn [] (ptsA (srtL (ptsA ps.length (List.drop (0 : Nat) (flat ps)))).length (List.drop (0 : Nat) (flat (srtL (ptsA ps.length (List.drop (0 : Nat) (flat ps)))))))).length : Int) - (1 : Int)))) (↑(chn [] (ptsA (srtL (ptsA ps.length (List.drop (0 : Nat) (flat ps)))).length (List.drop (0 : Nat) (flat (srtL (ptsA ps.length (List.drop (0 : Nat) (flat ps)))))))).length : Int)).toNat - (0 : Nat) + ((bndI (some (IntKind.i64, IntKind.i64.wrap ((↑(chn [] (ptsA (revP (ptsA (srtL (ptsA ps.length (List.drop (0 : Nat) (flat ps)))).length (List.drop (0 : Nat) (flat (srtL (ptsA ps.length (List.drop (0 : Nat) (flat ps)))))))).length (List.drop (0 : Nat) (flat (revP (ptsA (srtL (ptsA ps.length (List.drop (0 : Nat) (flat ps)))).length (List.drop (0 : Nat) (flat (srtL (ptsA ps.length (List.drop (0 : Nat) (flat ps)))))))))))).length : Int) - (1 : Int)))) (↑(chn [] (ptsA (revP (ptsA (srtL (ptsA ps.length (List.drop (0 : Nat) (flat ps)))).length (List.drop (0 : Nat) (flat (srtL (ptsA ps.length (List.drop (0 : Nat) (flat ps)))))))).length (List.drop (0 : Nat) (flat (revP (ptsA (srtL (ptsA ps.length (List.drop (0 : Nat) (flat ps)))).length (List.drop (0 : Nat) (flat (srtL (ptsA ps.length (List.drop (0 : Nat) (flat ps)))))))))))).length : Int)).toNat - (bndI none (0 : Int)).toNat, Cs.ints (List.take (((bndI (some (IntKind.i64, IntKind.i64.wrap ((↑(chn [] (ptsA (revP (ptsA (srtL (ptsA ps.length (List.drop (0 : Nat) (flat ps)))).length (List.drop (0 : Nat) (flat (srtL (ptsA ps.length (List.drop (0 : Nat) (flat ps)))))))).length (List.drop (0 : Nat) (flat (revP (ptsA (srtL (ptsA ps.length (List.drop (0 : Nat) (flat ps)))).length (List.drop (0 : Nat) (flat (srtL (ptsA ps.length (List.drop (0 : Nat) (flat ps)))))))))))).length : Int) - (1 : Int)))) (↑(chn [] (ptsA (revP (ptsA (srtL (ptsA ps.length (List.drop (0 : Nat) (flat ps)))).length (List.drop (0 : Nat) (flat (srtL (ptsA ps.length (List.drop (0 : Nat) (flat ps)))))))).length (List.drop (0 : Nat) (flat (revP (ptsA (srtL (ptsA ps.length (List.drop (0 : Nat) (flat ps)))).length (List.drop (0 : Nat) (flat (srtL (ptsA ps.length (List.drop (0 : Nat) (flat ps)))))))))))).length : Int)).toNat - (bndI none (0 : Int)).toNat) * Try.prog.types[(30 : Nat)].size) (List.drop ((0 : Nat) + (bndI none (0 : Int)).toNat * Try.prog.types[(30 : Nat)].size) (flat (chn [] (ptsA (revP (ptsA (srtL (ptsA ps.length (List.drop (0 : Nat) (flat ps)))).length (List.drop (0 : Nat) (flat (srtL (ptsA ps.length (List.drop (0 : Nat) (flat ps)))))))).length (List.drop (0 : Nat) (flat (revP (ptsA (srtL (ptsA ps.length (List.drop (0 : Nat) (flat ps)))).length (List.drop (0 : Nat) (flat (srtL (ptsA ps.length (List.drop (0 : Nat) (flat ps))))))))))))))), [(0 : Nat) + (bndI none (0 : Int)).toNat * Try.prog.types[(30 : Nat)].size + ((bndI (some (IntKind.i64, IntKind.i64.wrap ((↑(chn [] (ptsA (revP (ptsA (srtL (ptsA ps.length (List.drop (0 : Nat) (flat ps)))).length (List.drop (0 : Nat) (flat (srtL (ptsA ps.length (List.drop (0 : Nat) (flat ps)))))))).length (List.drop (0 : Nat) (flat (revP (ptsA (srtL (ptsA ps.length (List.drop (0 : Nat) (flat ps)))).length (List.drop (0 : Nat) (flat (srtL (ptsA ps.length (List.drop (0 : Nat) (flat ps)))))))))))).length : Int) - (1 : Int)))) (↑(chn [] (ptsA (revP (ptsA (srtL (ptsA ps.length (List.drop (0 : Nat) (flat ps)))).length (List.drop (0 : Nat) (flat (srtL (ptsA ps.length (List.drop (0 : Nat) (flat ps)))))))).length (List.drop (0 : Nat) (flat (revP (ptsA (srtL (ptsA ps.length (List.drop (0 : Nat) (flat ps)))).length (List.drop (0 : Nat) (flat (srtL (ptsA ps.length (List.drop (0 : Nat) (flat ps)))))))))))).length : Int)).toNat - (bndI none (0 : Int)).toNat) * Try.prog.types[(30 : Nat)].size ≤ (flat (chn [] (ptsA (revP (ptsA (srtL (ptsA ps.length (List.drop (0 : Nat) (flat ps)))).length (List.drop (0 : Nat) (flat (srtL (ptsA ps.length (List.drop (0 : Nat) (flat ps)))))))).length (List.drop (0 : Nat) (flat (revP (ptsA (srtL (ptsA ps.length (List.drop (0 : Nat) (flat ps)))).length (List.drop (0 : Nat) (flat (srtL (ptsA ps.length (List.drop (0 : Nat) (flat ps))))))))))))).length]).fst ≤ (1000000 : Nat)) (.need ((0 : Nat) + ((bndI (some (IntKind.i64, IntKind.i64.wrap ((↑(chn [] (ptsA (revP (ptsA (srtL (ptsA ps.length (List.drop (0 : Nat) (flat ps)))).length (List.drop (0 : Nat) (flat (srtL (ptsA ps.length (List.drop (0 : Nat) (flat ps)))))))).length (List.drop (0 : Nat) (flat (revP (ptsA (srtL (ptsA ps.length (List.drop (0 : Nat) (flat ps)))).length (List.drop (0 : Nat) (flat (srtL (ptsA ps.length (List.drop (0 : Nat) (flat ps)))))))))))).length : Int) - (1 : Int)))) (↑(chn [] (ptsA (revP (ptsA (srtL (ptsA ps.length (List.drop (0 : Nat) (flat ps)))).length (List.drop (0 : Nat) (flat (srtL (ptsA ps.length (List.drop (0 : Nat) (flat ps)))))))).length (List.drop (0 : Nat) (flat (revP (ptsA (srtL (ptsA ps.length (List.drop (0 : Nat) (flat ps)))).length (List.drop (0 : Nat) (flat (srtL (ptsA ps.length (List.drop (0 : Nat) (flat ps)))))))))))).length : Int)).toNat - (0 : Nat)) * (2 : Nat) ≤ (flat (chn [] (ptsA (revP (ptsA (srtL (ptsA ps.length (List.drop (0 : Nat) (flat ps)))).length (List.drop (0 : Nat) (flat (srtL (ptsA ps.length (List.drop (0 : Nat) (flat ps)))))))).length (List.drop (0 : Nat) (flat (revP (ptsA (srtL (ptsA ps.length (List.drop (0 : Nat) (flat ps)))).length (List.drop (0 : Nat) (flat (srtL (ptsA ps.length (List.drop (0 : Nat) (flat ps))))))))))))).length) (.need ((0 : Nat) + ((bndI (some (IntKind.i64, IntKind.i64.wrap ((↑(chn [] (ptsA (srtL (ptsA ps.length (List.drop (0 : Nat) (flat ps)))).length (List.drop (0 : Nat) (flat (srtL (ptsA ps.length (List.drop (0 : Nat) (flat ps)))))))).length : Int) - (1 : Int)))) (↑(chn [] (ptsA (srtL (ptsA ps.length (List.drop (0 : Nat) (flat ps)))).length (List.drop (0 : Nat) (flat (srtL (ptsA ps.length (List.drop (0 : Nat) (flat ps)))))))).length : Int)).toNat - (0 : Nat)) * (2 : Nat) ≤ (flat (chn [] (ptsA (srtL (ptsA ps.length (List.drop (0 : Nat) (flat ps)))).length (List.drop (0 : Nat) (flat (srtL (ptsA ps.length (List.drop (0 : Nat) (flat ps))))))))).length) (.fin (.slice (some ⟨5, 0, none⟩) ((bndI (some (IntKind.i64, IntKind.i64.wrap ((↑(chn [] (ptsA (srtL (ptsA ps.length (List.drop 0 (flat ps)))).length (List.drop 0 (flat (srtL (ptsA ps.length (List.drop 0 (flat ps)))))))).length : Int) - 1))) (↑(chn [] (ptsA (srtL (ptsA ps.length (List.drop 0 (flat ps)))).length (List.drop 0 (flat (srtL (ptsA ps.length (List.drop 0 (flat ps)))))))).length : Int)).toNat - 0 + ((bndI (some (IntKind.i64, IntKind.i64.wrap ((↑(chn [] (ptsA (revP (ptsA (srtL (ptsA ps.length (List.drop 0 (flat ps)))).length (List.drop 0 (flat (srtL (ptsA ps.length (List.drop 0 (flat ps)))))))).length (List.drop 0 (flat (revP (ptsA (srtL (ptsA ps.length (List.drop 0 (flat ps)))).length (List.drop 0 (flat (srtL (ptsA ps.length (List.drop 0 (flat ps)))))))))))).length : Int) - 1))) (↑(chn [] (ptsA (revP (ptsA (srtL (ptsA ps.length (List.drop 0 (flat ps)))).length (List.drop 0 (flat (srtL (ptsA ps.length (List.drop 0 (flat ps)))))))).length (List.drop 0 (flat (revP (ptsA (srtL (ptsA ps.length (List.drop 0 (flat ps)))).length (List.drop 0 (flat (srtL (ptsA ps.length (List.drop 0 (flat ps)))))))))))).length : Int)).toNat - (bndI none 0).toNat, Cs.ints (List.take (((bndI (some (IntKind.i64, IntKind.i64.wrap ((↑(chn [] (ptsA (revP (ptsA (srtL (ptsA ps.length (List.drop 0 (flat ps)))).length (List.drop 0 (flat (srtL (ptsA ps.length (List.drop 0 (flat ps)))))))).length (List.drop 0 (flat (revP (ptsA (srtL (ptsA ps.length (List.drop 0 (flat ps)))).length (List.drop 0 (flat (srtL (ptsA ps.length (List.drop 0 (flat ps)))))))))))).length : Int) - 1))) (↑(chn [] (ptsA (revP (ptsA (srtL (ptsA ps.length (List.drop 0 (flat ps)))).length (List.drop 0 (flat (srtL (ptsA ps.length (List.drop 0 (flat ps)))))))).length (List.drop 0 (flat (revP (ptsA (srtL (ptsA ps.length (List.drop 0 (flat ps)))).length (List.drop 0 (flat (srtL (ptsA ps.length (List.drop 0 (flat ps)))))))))))).length : Int)).toNat - (bndI none 0).toNat) * Try.prog.types[30].size) (List.drop (0 + (bndI none 0).toNat * Try.prog.types[30].size) (flat (chn [] (ptsA (revP (ptsA (srtL (ptsA ps.length (List.drop 0 (flat ps)))).length (List.drop 0 (flat (srtL (ptsA ps.length (List.drop 0 (flat ps)))))))).length (List.drop 0 (flat (revP (ptsA (srtL (ptsA ps.length (List.drop 0 (flat ps)))).length (List.drop 0 (flat (srtL (ptsA ps.length (List.drop 0 (flat ps))))))))))))))), [0 + (bndI none 0).toNat * Try.prog.types[30].size + ((bndI (some (IntKind.i64, IntKind.i64.wrap ((↑(chn [] (ptsA (revP (ptsA (srtL (ptsA ps.length (List.drop 0 (flat ps)))).length (List.drop 0 (flat (srtL (ptsA ps.length (List.drop 0 (flat ps)))))))).length (List.drop 0 (flat (revP (ptsA (srtL (ptsA ps.length (List.drop 0 (flat ps)))).length (List.drop 0 (flat (srtL (ptsA ps.length (List.drop 0 (flat ps)))))))))))).length : Int) - 1))) (↑(chn [] (ptsA (revP (ptsA (srtL (ptsA ps.length (List.drop 0 (flat ps)))).length (List.drop 0 (flat (srtL (ptsA ps.length (List.drop 0 (flat ps)))))))).length (List.drop 0 (flat (revP (ptsA (srtL (ptsA ps.length (List.drop 0 (flat ps)))).length (List.drop 0 (flat (srtL (ptsA ps.length (List.drop 0 (flat ps)))))))))))).length : Int)).toNat - (bndI none 0).toNat) * Try.prog.types[30].size ≤ (flat (chn [] (ptsA (revP (ptsA (srtL (ptsA ps.length (List.drop 0 (flat ps)))).length (List.drop 0 (flat (srtL (ptsA ps.length (List.drop 0 (flat ps)))))))).length (List.drop 0 (flat (revP (ptsA (srtL (ptsA ps.length (List.drop 0 (flat ps)))).length (List.drop 0 (flat (srtL (ptsA ps.length (List.drop 0 (flat ps))))))))))))).length]).fst) ((bndI (some (IntKind.i64, IntKind.i64.wrap ((↑(chn [] (ptsA (srtL (ptsA ps.length (List.drop 0 (flat ps)))).length (List.drop 0 (flat (srtL (ptsA ps.length (List.drop 0 (flat ps)))))))).length : Int) - 1))) (↑(chn [] (ptsA (srtL (ptsA ps.length (List.drop 0 (flat ps)))).length (List.drop 0 (flat (srtL (ptsA ps.length (List.drop 0 (flat ps)))))))).length : Int)).toNat - 0 + ((bndI (some (IntKind.i64, IntKind.i64.wrap ((↑(chn [] (ptsA (revP (ptsA (srtL (ptsA ps.length (List.drop 0 (flat ps)))).length (List.drop 0 (flat (srtL (ptsA ps.length (List.drop 0 (flat ps)))))))).length (List.drop 0 (flat (revP (ptsA (srtL (ptsA ps.length (List.drop 0 (flat ps)))).length (List.drop 0 (flat (srtL (ptsA ps.length (List.drop 0 (flat ps)))))))))))).length : Int) - 1))) (↑(chn [] (ptsA (revP (ptsA (srtL (ptsA ps.length (List.drop 0 (flat ps)))).length (List.drop 0 (flat (srtL (ptsA ps.length (List.drop 0 (flat ps)))))))).length (List.drop 0 (flat (revP (ptsA (srtL (ptsA ps.length (List.drop 0 (flat ps)))).length (List.drop 0 (flat (srtL (ptsA ps.length (List.drop 0 (flat ps)))))))))))).length : Int)).toNat - (bndI none 0).toNat, Cs.ints (List.take (((bndI (some (IntKind.i64, IntKind.i64.wrap ((↑(chn [] (ptsA (revP (ptsA (srtL (ptsA ps.length (List.drop 0 (flat ps)))).length (List.drop 0 (flat (srtL (ptsA ps.length (List.drop 0 (flat ps)))))))).length (List.drop 0 (flat (revP (ptsA (srtL (ptsA ps.length (List.drop 0 (flat ps)))).length (List.drop 0 (flat (srtL (ptsA ps.length (List.drop 0 (flat ps)))))))))))).length : Int) - 1))) (↑(chn [] (ptsA (revP (ptsA (srtL (ptsA ps.length (List.drop 0 (flat ps)))).length (List.drop 0 (flat (srtL (ptsA ps.length (List.drop 0 (flat ps)))))))).length (List.drop 0 (flat (revP (ptsA (srtL (ptsA ps.length (List.drop 0 (flat ps)))).length (List.drop 0 (flat (srtL (ptsA ps.length (List.drop 0 (flat ps)))))))))))).length : Int)).toNat - (bndI none 0).toNat) * Try.prog.types[30].size) (List.drop (0 + (bndI none 0).toNat * Try.prog.types[30].size) (flat (chn [] (ptsA (revP (ptsA (srtL (ptsA ps.length (List.drop 0 (flat ps)))).length (List.drop 0 (flat (srtL (ptsA ps.length (List.drop 0 (flat ps)))))))).length (List.drop 0 (flat (revP (ptsA (srtL (ptsA ps.length (List.drop 0 (flat ps)))).length (List.drop 0 (flat (srtL (ptsA ps.length (List.drop 0 (flat ps))))))))))))))), [0 + (bndI none 0).toNat * Try.prog.types[30].size + ((bndI (some (IntKind.i64, IntKind.i64.wrap ((↑(chn [] (ptsA (revP (ptsA (srtL (ptsA ps.length (List.drop 0 (flat ps)))).length (List.drop 0 (flat (srtL (ptsA ps.length (List.drop 0 (flat ps)))))))).length (List.drop 0 (flat (revP (ptsA (srtL (ptsA ps.length (List.drop 0 (flat ps)))).length (List.drop 0 (flat (srtL (ptsA ps.length (List.drop 0 (flat ps)))))))))))).length : Int) - 1))) (↑(chn [] (ptsA (revP (ptsA (srtL (ptsA ps.length (List.drop 0 (flat ps)))).length (List.drop 0 (flat (srtL (ptsA ps.length (List.drop 0 (flat ps)))))))).length (List.drop 0 (flat (revP (ptsA (srtL (ptsA ps.length (List.drop 0 (flat ps)))).length (List.drop 0 (flat (srtL (ptsA ps.length (List.drop 0 (flat ps)))))))))))).length : Int)).toNat - (bndI none 0).toNat) * Try.prog.types[30].size ≤ (flat (chn [] (ptsA (revP (ptsA (srtL (ptsA ps.length (List.drop 0 (flat ps)))).length (List.drop 0 (flat (srtL (ptsA ps.length (List.drop 0 (flat ps)))))))).length (List.drop 0 (flat (revP (ptsA (srtL (ptsA ps.length (List.drop 0 (flat ps)))).length (List.drop 0 (flat (srtL (ptsA ps.length (List.drop 0 (flat ps))))))))))))).length]).fst)) [some ⟨.view, .ints (flat ps)⟩, some ⟨.row 30 2, .ints (flat (srtL (ptsA ps.length (List.drop 0 (flat ps)))))⟩, some deadB, some ⟨.row 30 2, .ints (flat (revP (ptsA (srtL (ptsA ps.length (List.drop 0 (flat ps)))).length (List.drop 0 (flat (srtL (ptsA ps.length (List.drop 0 (flat ps)))))))))⟩, some ⟨.row 30 2, .ints (flat (chn [] (ptsA (revP (ptsA (srtL (ptsA ps.length (List.drop 0 (flat ps)))).length (List.drop 0 (flat (srtL (ptsA ps.length (List.drop 0 (flat ps)))))))).length (List.drop 0 (flat (revP (ptsA (srtL (ptsA ps.length (List.drop 0 (flat ps)))).length (List.drop 0 (flat (srtL (ptsA ps.length (List.drop 0 (flat ps)))))))))))))⟩, some ⟨.row 30 2, .ints (List.take (((bndI (some (IntKind.i64, IntKind.i64.wrap ((↑(chn [] (ptsA (srtL (ptsA ps.length (List.drop 0 (flat ps)))).length (List.drop 0 (flat (srtL (ptsA ps.length (List.drop 0 (flat ps)))))))).length : Int) - 1))) (↑(chn [] (ptsA (srtL (ptsA ps.length (List.drop 0 (flat ps)))).length (List.drop 0 (flat (srtL (ptsA ps.length (List.drop 0 (flat ps)))))))).length : Int)).toNat - 0) * 2) (List.drop 0 (flat (chn [] (ptsA (srtL (ptsA ps.length (List.drop 0 (flat ps)))).length (List.drop 0 (flat (srtL (ptsA ps.length (List.drop 0 (flat ps)))))))))) ++ List.take (((bndI (some (IntKind.i64, IntKind.i64.wrap ((↑(chn [] (ptsA (revP (ptsA (srtL (ptsA ps.length (List.drop 0 (flat ps)))).length (List.drop 0 (flat (srtL (ptsA ps.length (List.drop 0 (flat ps)))))))).length (List.drop 0 (flat (revP (ptsA (srtL (ptsA ps.length (List.drop 0 (flat ps)))).length (List.drop 0 (flat (srtL (ptsA ps.length (List.drop 0 (flat ps)))))))))))).length : Int) - 1))) (↑(chn [] (ptsA (revP (ptsA (srtL (ptsA ps.length (List.drop 0 (flat ps)))).length (List.drop 0 (flat (srtL (ptsA ps.length (List.drop 0 (flat ps)))))))).length (List.drop 0 (flat (revP (ptsA (srtL (ptsA ps.length (List.drop 0 (flat ps)))).length (List.drop 0 (flat (srtL (ptsA ps.length (List.drop 0 (flat ps)))))))))))).length : Int)).toNat - 0) * 2) (List.drop 0 (flat (chn [] (ptsA (revP (ptsA (srtL (ptsA ps.length (List.drop 0 (flat ps)))).length (List.drop 0 (flat (srtL (ptsA ps.length (List.drop 0 (flat ps)))))))).length (List.drop 0 (flat (revP (ptsA (srtL (ptsA ps.length (List.drop 0 (flat ps)))).length (List.drop 0 (flat (srtL (ptsA ps.length (List.drop 0 (flat ps)))))))))))))))⟩])))))))))))))))) := by kernel_rfl
set_option maxRecDepth 100000 in
theorem tr_iHu (ps : List Pt) : bodyX Try.prog EHu 30 12 16 [.row ps.length (.ints (flat ps))] = .need (ps.length * (2 : Nat) ≤ (List.drop (0 : Nat) (flat ps)).length) (.need (ps.length ≤ (1000000000 : Nat)) (brT (decide ((↑(spV (ptsA ps.length (List.drop 0 (flat ps)))).length : Int) < 2)) (.fin (.slice (some ⟨1, 0, none⟩) ((spV (ptsA ps.length (List.drop 0 (flat ps)))).length) ((spV (ptsA ps.length (List.drop 0 (flat ps)))).length)) [some ⟨.view, .ints (flat ps)⟩, some ⟨.row 30 2, .ints (flat (spV (ptsA ps.length (List.drop 0 (flat ps)))))⟩]) (.need ((spV (ptsA ps.length (List.drop (0 : Nat) (flat ps)))).length * (2 : Nat) ≤ (List.drop (0 : Nat) (flat (spV (ptsA ps.length (List.drop (0 : Nat) (flat ps)))))).length) (.need (allV (ptsA (spV (ptsA ps.length (List.drop (0 : Nat) (flat ps)))).length (List.drop (0 : Nat) (flat (spV (ptsA ps.length (List.drop (0 : Nat) (flat ps))))))) = true) (.need ((spV (ptsA ps.length (List.drop (0 : Nat) (flat ps)))).length ≤ (1000 : Nat)) (.need ((flat (spV (ptsA ps.length (List.drop (0 : Nat) (flat ps))))).length = (spV (ptsA ps.length (List.drop (0 : Nat) (flat ps)))).length * (2 : Nat)) (.need ((spV (ptsA ps.length (List.drop (0 : Nat) (flat ps)))).length ≤ (1000000000 : Nat)) (.need ((spV (ptsA ps.length (List.drop (0 : Nat) (flat ps)))).length * (2 : Nat) ≤ (List.drop (0 : Nat) (flat (revP (ptsA (spV (ptsA ps.length (List.drop (0 : Nat) (flat ps)))).length (flat (spV (ptsA ps.length (List.drop (0 : Nat) (flat ps))))))))).length) (.need (allV (ptsA (spV (ptsA ps.length (List.drop (0 : Nat) (flat ps)))).length (List.drop (0 : Nat) (flat (revP (ptsA (spV (ptsA ps.length (List.drop (0 : Nat) (flat ps)))).length (flat (spV (ptsA ps.length (List.drop (0 : Nat) (flat ps)))))))))) = true) (.need ((spV (ptsA ps.length (List.drop (0 : Nat) (flat ps)))).length ≤ (1000 : Nat)) (.need ((0 : Int) ≤ bndI none (0 : Int) ∧ bndI none (0 : Int) ≤ bndI (some (IntKind.i64, IntKind.i64.wrap ((↑(chn [] (ptsA (spV (ptsA ps.length (List.drop (0 : Nat) (flat ps)))).length (List.drop (0 : Nat) (flat (spV (ptsA ps.length (List.drop (0 : Nat) (flat ps)))))))).length : Int) - (1 : Int)))) (↑(chn [] (ptsA (spV (ptsA ps.length (List.drop (0 : Nat) (flat ps)))).length (List.drop (0 : Nat) (flat (spV (ptsA ps.length (List.drop (0 : Nat) (flat ps)))))))).length : Int) ∧ bndI (some (IntKind.i64, IntKind.i64.wrap ((↑(chn [] (ptsA (spV (ptsA ps.length (List.drop (0 : Nat) (flat ps)))).length (List.drop (0 : Nat) (flat (spV (ptsA ps.length (List.drop (0 : Nat) (flat ps)))))))).length : Int) - (1 : Int)))) (↑(chn [] (ptsA (spV (ptsA ps.length (List.drop (0 : Nat) (flat ps)))).length (List.drop (0 : Nat) (flat (spV (ptsA ps.length (List.drop (0 : Nat) (flat ps)))))))).length : Int) ≤ (↑(chn [] (ptsA (spV (ptsA ps.length (List.drop (0 : Nat) (flat ps)))).length (List.drop (0 : Nat) (flat (spV (ptsA ps.length (List.drop (0 : Nat) (flat ps)))))))).length : Int)) (.need ((0 : Int) ≤ bndI none (0 : Int) ∧ bndI none (0 : Int) ≤ bndI (some (IntKind.i64, IntKind.i64.wrap ((↑(chn [] (ptsA (spV (ptsA ps.length (List.drop (0 : Nat) (flat ps)))).length (List.drop (0 : Nat) (flat (revP (ptsA (spV (ptsA ps.length (List.drop (0 : Nat) (flat ps)))).length (flat (spV (ptsA ps.length (List.drop (0 : Nat) (flat ps))))))))))).length : Int) - (1 : Int)))) (↑(chn [] (ptsA (spV (ptsA ps.length (List.drop (0 : Nat) (flat ps)))).length (List.drop (0 : Nat) (flat (revP (ptsA (spV (ptsA ps.length (List.drop (0 : Nat) (flat ps)))).length (flat (spV (ptsA ps.length (List.drop (0 : Nat) (flat ps))))))))))).length : Int) ∧ bndI (some (IntKind.i64, IntKind.i64.wrap ((↑(chn [] (ptsA (spV (ptsA ps.length (List.drop (0 : Nat) (flat ps)))).length (List.drop (0 : Nat) (flat (revP (ptsA (spV (ptsA ps.length (List.drop (0 : Nat) (flat ps)))).length (flat (spV (ptsA ps.length (List.drop (0 : Nat) (flat ps))))))))))).length : Int) - (1 : Int)))) (↑(chn [] (ptsA (spV (ptsA ps.length (List.drop (0 : Nat) (flat ps)))).length (List.drop (0 : Nat) (flat (revP (ptsA (spV (ptsA ps.length (List.drop (0 : Nat) (flat ps)))).length (flat (spV (ptsA ps.length (List.drop (0 : Nat) (flat ps))))))))))).length : Int) ≤ (↑(chn [] (ptsA (spV (ptsA ps.length (List.drop (0 : Nat) (flat ps)))).length (List.drop (0 : Nat) (flat (revP (ptsA (spV (ptsA ps.length (List.drop (0 : Nat) (flat ps)))).length (flat (spV (ptsA ps.length (List.drop (0 : Nat) (flat ps))))))))))).length : Int)) (.need (((bndI (some (IntKind.i64, IntKind.i64.wrap ((↑(chn [] (ptsA (spV (ptsA ps.length (List.drop (0 : Nat) (flat ps)))).length (List.drop (0 : Nat) (flat (spV (ptsA ps.length (List.drop (0 : Nat) (flat ps)))))))).length : Int) - (1 : Int)))) (↑(chn [] (ptsA (spV (ptsA ps.length (List.drop (0 : Nat) (flat ps)))).length (List.drop (0 : Nat) (flat (spV (ptsA ps.length (List.drop (0 : Nat) (flat ps)))))))).length : Int)).toNat - (0 : Nat)) * (2 : Nat) ≤ (List.drop (0 : Nat) (flat (chn [] (ptsA (spV (ptsA ps.length (List.drop (0 : Nat) (flat ps)))).length (List.drop (0 : Nat) (flat (spV (ptsA ps.length (List.drop (0 : Nat) (flat ps)))))))))).length) (.need (((bndI (some (IntKind.i64, IntKind.i64.wrap ((↑(chn [] (ptsA (spV (ptsA ps.length (List.drop (0 : Nat) (flat ps)))).length (List.drop (0 : Nat) (flat (revP (ptsA (spV (ptsA ps.length (List.drop (0 : Nat) (flat ps)))).length (flat (spV (ptsA ps.length (List.drop (0 : Nat) (flat ps))))))))))).length : Int) - (1 : Int)))) (↑(chn [] (ptsA (spV (ptsA ps.length (List.drop (0 : Nat) (flat ps)))).length (List.drop (0 : Nat) (flat (revP (ptsA (spV (ptsA ps.length (List.drop (0 : Nat) (flat ps)))).length (flat (spV (ptsA ps.length (List.drop (0 : Nat) (flat ps))))))))))).length : Int)).toNat - (0 : Nat)) * (2 : Nat) ≤ (List.drop (0 : Nat) (flat (chn [] (ptsA (spV (ptsA ps.length (List.drop (0 : Nat) (flat ps)))).length (List.drop (0 : Nat) (flat (revP (ptsA (spV (ptsA ps.length (List.drop (0 : Nat) (flat ps)))).length (flat (spV (ptsA ps.length (List.drop (0 : Nat) (flat ps))))))))))))).length) (.need ((0 : Nat) < (bndI (some (IntKind.i64, IntKind.i64.wrap ((↑(chn [] (ptsA (spV (ptsA ps.length (List.drop (0 : Nat) (flat ps)))).length (List.drop (0 : Nat) (flat (spV (ptsA ps.length (List.drop (0 : Nat) (flat ps)))))))).length : Int) - (1 : Int)))) (↑(chn [] (ptsA (spV (ptsA ps.length (List.drop (0 : Nat) (flat ps)))).length (List.drop (0 : Nat) (flat (spV (ptsA ps.length (List.drop (0 : Nat) (flat ps)))))))).length : Int)).toNat - (0 : Nat) + ((bndI (some (IntKind.i64, IntKind.i64.wrap ((↑(chn [] (ptsA (spV (ptsA ps.length (List.drop (0 : Nat) (flat ps)))).length (List.drop (0 : Nat) (flat (revP (ptsA (spV (ptsA ps.length (List.drop (0 : Nat) (flat ps)))).length (flat (spV (ptsA ps.length (List.drop (0 : Nat) (flat ps))))))))))).length : Int) - (1 : Int)))) (↑(chn [] (ptsA (spV (ptsA ps.length (List.drop (0 : Nat) (flat ps)))).length (List.drop (0 : Nat) (flat (revP (ptsA (spV (ptsA ps.length (List.drop (0 : Nat) (flat ps)))).length (flat (spV (ptsA ps.length (List.drop (0 : Nat) (flat ps))))))))))).length : Int)).toNat - (0 : Nat))) (.need ((bndI (some (IntKind.i64, IntKind.i64.wrap ((↑(chn [] (ptsA (spV (ptsA ps.length (List.drop (0 : Nat) (flat ps)))).length (List.drop (0 : Nat) (flat (spV (ptsA ps.length (List.drop (0 : Nat) (flat ps)))))))).length : Int) - (1 : Int)))) (↑(chn [] (ptsA (spV (ptsA ps.length (List.drop (0 : Nat) (flat ps)))).length (List.drop (0 : Nat) (flat (spV (ptsA ps.length (List.drop (0 : Nat) (flat ps)))))))).length : Int)).toNat - (0 : Nat) + ((bndI (some (IntKind.i64, IntKind.i64.wrap ((↑(chn [] (ptsA (spV (ptsA ps.length (List.drop (0 : Nat) (flat ps)))).length (List.drop (0 : Nat) (flat (revP (ptsA (spV (ptsA ps.length (List.drop (0 : Nat) (flat ps)))).length (flat (spV (ptsA ps.length (List.drop (0 : Nat) (flat ps))))))))))).length : Int) - (1 : Int)))) (↑(chn [] (ptsA (spV (ptsA ps.length (List.drop (0 : Nat) (flat ps)))).length (List.drop (0 : Nat) (flat (revP (ptsA (spV (ptsA ps.length (List.drop (0 : Nat) (flat ps)))).length (flat (spV (ptsA ps.length (List.drop (0 : Nat) (flat ps))))))))))).length : Int)).toNat - (0 : Nat)) ≤ (1000 : Nat)) (.fin (.slice (some ⟨5, 0, none⟩) ((bndI (some (IntKind.i64, IntKind.i64.wrap ((↑(chn [] (ptsA (spV (ptsA ps.length (List.drop 0 (flat ps)))).length (List.drop 0 (flat (spV (ptsA ps.length (List.drop 0 (flat ps)))))))).length : Int) - 1))) (↑(chn [] (ptsA (spV (ptsA ps.length (List.drop 0 (flat ps)))).length (List.drop 0 (flat (spV (ptsA ps.length (List.drop 0 (flat ps)))))))).length : Int)).toNat - 0 + ((bndI (some (IntKind.i64, IntKind.i64.wrap ((↑(chn [] (ptsA (spV (ptsA ps.length (List.drop 0 (flat ps)))).length (List.drop 0 (flat (revP (ptsA (spV (ptsA ps.length (List.drop 0 (flat ps)))).length (flat (spV (ptsA ps.length (List.drop 0 (flat ps))))))))))).length : Int) - 1))) (↑(chn [] (ptsA (spV (ptsA ps.length (List.drop 0 (flat ps)))).length (List.drop 0 (flat (revP (ptsA (spV (ptsA ps.length (List.drop 0 (flat ps)))).length (flat (spV (ptsA ps.length (List.drop 0 (flat ps))))))))))).length : Int)).toNat - 0)) ((bndI (some (IntKind.i64, IntKind.i64.wrap ((↑(chn [] (ptsA (spV (ptsA ps.length (List.drop 0 (flat ps)))).length (List.drop 0 (flat (spV (ptsA ps.length (List.drop 0 (flat ps)))))))).length : Int) - 1))) (↑(chn [] (ptsA (spV (ptsA ps.length (List.drop 0 (flat ps)))).length (List.drop 0 (flat (spV (ptsA ps.length (List.drop 0 (flat ps)))))))).length : Int)).toNat - 0 + ((bndI (some (IntKind.i64, IntKind.i64.wrap ((↑(chn [] (ptsA (spV (ptsA ps.length (List.drop 0 (flat ps)))).length (List.drop 0 (flat (revP (ptsA (spV (ptsA ps.length (List.drop 0 (flat ps)))).length (flat (spV (ptsA ps.length (List.drop 0 (flat ps))))))))))).length : Int) - 1))) (↑(chn [] (ptsA (spV (ptsA ps.length (List.drop 0 (flat ps)))).length (List.drop 0 (flat (revP (ptsA (spV (ptsA ps.length (List.drop 0 (flat ps)))).length (flat (spV (ptsA ps.length (List.drop 0 (flat ps))))))))))).length : Int)).toNat - 0))) [some ⟨.view, .ints (flat ps)⟩, some ⟨.row 30 2, .ints (flat (revP (ptsA (spV (ptsA ps.length (List.drop 0 (flat ps)))).length (flat (spV (ptsA ps.length (List.drop 0 (flat ps))))))))⟩, some ⟨.row 30 2, .ints (flat (chn [] (ptsA (spV (ptsA ps.length (List.drop 0 (flat ps)))).length (List.drop 0 (flat (spV (ptsA ps.length (List.drop 0 (flat ps)))))))))⟩, some ⟨.row 30 2, .ints (flat (chn [] (ptsA (spV (ptsA ps.length (List.drop 0 (flat ps)))).length (List.drop 0 (flat (revP (ptsA (spV (ptsA ps.length (List.drop 0 (flat ps)))).length (flat (spV (ptsA ps.length (List.drop 0 (flat ps))))))))))))⟩, some ⟨.row 23 1, .vals [.slice (some ⟨2, 0, none⟩) ((bndI (some (IntKind.i64, IntKind.i64.wrap ((↑(chn [] (ptsA (spV (ptsA ps.length (List.drop 0 (flat ps)))).length (List.drop 0 (flat (spV (ptsA ps.length (List.drop 0 (flat ps)))))))).length : Int) - 1))) (↑(chn [] (ptsA (spV (ptsA ps.length (List.drop 0 (flat ps)))).length (List.drop 0 (flat (spV (ptsA ps.length (List.drop 0 (flat ps)))))))).length : Int)).toNat - 0) ((bndI (some (IntKind.i64, IntKind.i64.wrap ((↑(chn [] (ptsA (spV (ptsA ps.length (List.drop 0 (flat ps)))).length (List.drop 0 (flat (spV (ptsA ps.length (List.drop 0 (flat ps)))))))).length : Int) - 1))) (↑(chn [] (ptsA (spV (ptsA ps.length (List.drop 0 (flat ps)))).length (List.drop 0 (flat (spV (ptsA ps.length (List.drop 0 (flat ps)))))))).length : Int)).toNat - 0), .slice (some ⟨3, 0, none⟩) ((bndI (some (IntKind.i64, IntKind.i64.wrap ((↑(chn [] (ptsA (spV (ptsA ps.length (List.drop 0 (flat ps)))).length (List.drop 0 (flat (revP (ptsA (spV (ptsA ps.length (List.drop 0 (flat ps)))).length (flat (spV (ptsA ps.length (List.drop 0 (flat ps))))))))))).length : Int) - 1))) (↑(chn [] (ptsA (spV (ptsA ps.length (List.drop 0 (flat ps)))).length (List.drop 0 (flat (revP (ptsA (spV (ptsA ps.length (List.drop 0 (flat ps)))).length (flat (spV (ptsA ps.length (List.drop 0 (flat ps))))))))))).length : Int)).toNat - 0) ((bndI (some (IntKind.i64, IntKind.i64.wrap ((↑(chn [] (ptsA (spV (ptsA ps.length (List.drop 0 (flat ps)))).length (List.drop 0 (flat (revP (ptsA (spV (ptsA ps.length (List.drop 0 (flat ps)))).length (flat (spV (ptsA ps.length (List.drop 0 (flat ps))))))))))).length : Int) - 1))) (↑(chn [] (ptsA (spV (ptsA ps.length (List.drop 0 (flat ps)))).length (List.drop 0 (flat (revP (ptsA (spV (ptsA ps.length (List.drop 0 (flat ps)))).length (flat (spV (ptsA ps.length (List.drop 0 (flat ps))))))))))).length : Int)).toNat - 0)]⟩, some ⟨.row 30 2, .ints (List.take (((bndI (some (IntKind.i64, IntKind.i64.wrap ((↑(chn [] (ptsA (spV (ptsA ps.length (List.drop 0 (flat ps)))).length (List.drop 0 (flat (spV (ptsA ps.length (List.drop 0 (flat ps)))))))).length : Int) - 1))) (↑(chn [] (ptsA (spV (ptsA ps.length (List.drop 0 (flat ps)))).length (List.drop 0 (flat (spV (ptsA ps.length (List.drop 0 (flat ps)))))))).length : Int)).toNat - 0) * 2) (List.drop 0 (flat (chn [] (ptsA (spV (ptsA ps.length (List.drop 0 (flat ps)))).length (List.drop 0 (flat (spV (ptsA ps.length (List.drop 0 (flat ps)))))))))) ++ List.take (((bndI (some (IntKind.i64, IntKind.i64.wrap ((↑(chn [] (ptsA (spV (ptsA ps.length (List.drop 0 (flat ps)))).length (List.drop 0 (flat (revP (ptsA (spV (ptsA ps.length (List.drop 0 (flat ps)))).length (flat (spV (ptsA ps.length (List.drop 0 (flat ps))))))))))).length : Int) - 1))) (↑(chn [] (ptsA (spV (ptsA ps.length (List.drop 0 (flat ps)))).length (List.drop 0 (flat (revP (ptsA (spV (ptsA ps.length (List.drop 0 (flat ps)))).length (flat (spV (ptsA ps.length (List.drop 0 (flat ps))))))))))).length : Int)).toNat - 0) * 2) (List.drop 0 (flat (chn [] (ptsA (spV (ptsA ps.length (List.drop 0 (flat ps)))).length (List.drop 0 (flat (revP (ptsA (spV (ptsA ps.length (List.drop 0 (flat ps)))).length (flat (spV (ptsA ps.length (List.drop 0 (flat ps))))))))))))))⟩]))))))))))))))))) := by kernel_rfl
theorem allV_srt {ps : List Pt} (h : allV ps = true) : allV (srtL ps) = true := List.all_eq_true.2 fun z hz => List.all_eq_true.1 h z ((srtL_mem ps z).1 hz)
theorem srtL_le (ps : List Pt) : (srtL ps).length ≤ ps.length := by
  have := srtO_le ps []
  simpa [srtL] using this
theorem resR_sHu {ps : List Pt} (hv : allV ps = true) (h : ps.length ≤ 1000) : ResR Try.prog 70 [.row ps.length (.ints (flat ps))] (rowP (hulL (srtL ps))) (blkP (hulL (srtL ps))) := by
  refine bodyX_resR mixed EHu_ok (m := 30) (n := 12) rfl ?_
  rw [tr_sHu]
  have hs := allV_srt hv
  have hle := srtL_le ps
  simp only [List.drop_zero, ptsA_flat, flat_length, bnd_some, bnd_none, Int.toNat_zero, Nat.sub_zero, Nat.zero_mul, Nat.zero_add, Nat.add_zero]
  generalize srtL ps = s at *
  have c1 := chn_len s []
  have c2 := chn_len (revP s) []
  have r1 := revP_len s
  simp only [List.length_nil, Nat.zero_add] at c1 c2
  refine ⟨by omega, by omega, brT_ok.2 ⟨fun q => ?_, fun q => ?_⟩⟩
  · have q := of_decide_eq_true q
    have e : hulL s = s := by unfold hulL; rw [if_pos (by omega)]
    rw [e]
    exact ⟨some 1, ⟨rfl, rfl, rfl⟩, rfl, rfl, rfl⟩
  · have q := of_decide_eq_false q
    have p1 := chn_pos (ps := s) (st := []) (.inr (by omega))
    have p2 := chn_pos (ps := revP s) (st := []) (.inr (by omega))
    have hr := allV_rev hs
    have e : hulL s = (chn [] s).take ((chn [] s).length - 1) ++ (chn [] (revP s)).take ((chn [] (revP s)).length - 1) := by unfold hulL; rw [if_neg (by omega)]
    rw [e]
    have hr2 := r1
    generalize revP s = t at *
    generalize chn [] s = u at *
    generalize chn [] t = v at *
    have w1 : IntKind.i64.wrap ((u.length : Int) - 1) = ((u.length - 1 : Nat) : Int) := by rw [wr (by omega)]; omega
    have w2 : IntKind.i64.wrap ((v.length : Int) - 1) = ((v.length - 1 : Nat) : Int) := by rw [wr (by omega)]; omega
    simp only [w1, w2, Int.toNat_natCast]
    simp only [flat_take, ← flat_append]
    have hl : (u.take (u.length - 1) ++ v.take (v.length - 1)).length = u.length - 1 + (v.length - 1) := by simp
    refine ⟨by omega, hs, by omega, by omega, by omega, by omega, hr, by omega, ⟨by omega, by omega, by omega⟩, ⟨by omega, by omega, by omega⟩, ⟨by omega, by omega⟩, by omega, by omega, some 5, ⟨rfl, rfl, hl.symm⟩, rfl, rfl, rfl⟩
def hulV (ps : List Pt) : List Pt := hulL (spV ps)
theorem spV_all (ps : List Pt) : allV (spV ps) = true := by
  unfold spV
  rcases h : okL ps with _ | _
  · rfl
  · exact allV_srt (okL_20 h).1
theorem resR_iHu (ps : List Pt) (h : Big ps) : ResR Try.prog 16 [.row ps.length (.ints (flat ps))] (rowP (hulV ps)) (blkP (hulV ps)) := by
  refine bodyX_resR mixed EHu_ok (m := 30) (n := 12) rfl ?_
  rw [tr_iHu]
  unfold Big at h
  unfold hulV
  have hs := spV_all ps
  have hle := spV_len ps
  simp only [List.drop_zero, ptsA_flat, flat_length, bnd_some, bnd_none, Int.toNat_zero, Nat.sub_zero, Nat.zero_mul, Nat.zero_add, Nat.add_zero]
  generalize spV ps = s at *
  have c1 := chn_len s []
  have c2 := chn_len (revP s) []
  have r1 := revP_len s
  have er : ptsA s.length (flat (revP s)) = revP s := by rw [← r1, ptsA_flat]
  simp only [List.length_nil, Nat.zero_add] at c1 c2
  simp only [er]
  refine ⟨by omega, by omega, brT_ok.2 ⟨fun q => ?_, fun q => ?_⟩⟩
  · have q := of_decide_eq_true q
    have e : hulL s = s := by unfold hulL; rw [if_pos (by omega)]
    rw [e]
    exact ⟨some 1, ⟨rfl, rfl, rfl⟩, rfl, rfl, rfl⟩
  · have q := of_decide_eq_false q
    have p1 := chn_pos (ps := s) (st := []) (.inr (by omega))
    have p2 := chn_pos (ps := revP s) (st := []) (.inr (by omega))
    have hr := allV_rev hs
    have e : hulL s = (chn [] s).take ((chn [] s).length - 1) ++ (chn [] (revP s)).take ((chn [] (revP s)).length - 1) := by
      unfold hulL
      split
      · exact (hul_two (by omega)).symm
      · rfl
    have hpos : 0 < (chn [] s).length - 1 + ((chn [] (revP s)).length - 1) := by
      have := chn_ge (s := s) (by omega)
      omega
    rw [e]
    generalize revP s = t at *
    generalize chn [] s = u at *
    generalize chn [] t = v at *
    have w1 : IntKind.i64.wrap ((u.length : Int) - 1) = ((u.length - 1 : Nat) : Int) := by rw [wr (by omega)]; omega
    have w2 : IntKind.i64.wrap ((v.length : Int) - 1) = ((v.length - 1 : Nat) : Int) := by rw [wr (by omega)]; omega
    simp only [w1, w2, Int.toNat_natCast]
    simp only [flat_take, ← flat_append]
    have hl : (u.take (u.length - 1) ++ v.take (v.length - 1)).length = u.length - 1 + (v.length - 1) := by simp
    refine ⟨by omega, hs, by omega, trivial, by omega, by omega, hr, by omega, ⟨by omega, by omega, by omega⟩, ⟨by omega, by omega, by omega⟩, by omega, by omega, hpos, by omega, some 5, ⟨rfl, rfl, hl.symm⟩, rfl, rfl, rfl⟩
def RHv : TabR := fun f ds => match f, ds with
  | 70, [.row m (.ints xs)] => some (rowP (hulL (srtL (ptsA m xs))), blkP (hulL (srtL (ptsA m xs))), [m * 2 ≤ xs.length, allV (ptsA m xs) = true, m ≤ 1000])
  | 16, [.row m (.ints xs)] => some (rowP (hulV (ptsA m xs)), blkP (hulV (ptsA m xs)), [m * 2 ≤ xs.length, m ≤ 1000000000])
  | f, ds => RSq f ds
theorem RHv_ok : TabROk Try.prog RHv := by
  intro f ds v b C h hC
  unfold RHv at h
  split at h
  · obtain ⟨rfl, rfl, rfl⟩ : _ ∧ _ ∧ _ := by simpa using h
    obtain ⟨_, h2⟩ := ptsA_spec hC.1
    exact resR_pts1 (pre := []) (post := []) hC.1 (resR_sHu hC.2.1 (by rw [h2]; exact hC.2.2.1))
  · obtain ⟨rfl, rfl, rfl⟩ : _ ∧ _ ∧ _ := by simpa using h
    obtain ⟨_, h2⟩ := ptsA_spec hC.1
    exact resR_pts1 (pre := []) (post := []) hC.1 (resR_iHu _ (by unfold Big; rw [h2]; exact hC.2.1))
  · exact RSq_ok _ _ _ _ _ h hC
def EHv : Env := mkE TMh RHv (fun _ => noL)
theorem EHv_ok : EnvOk Try.prog EHv := mkEOk TMh_ok RHv_ok (fun _ _ _ => noL_good)
set_option maxRecDepth 100000 in
theorem tr_sHv (ps : List Pt) : bodyX Try.prog EHv 30 12 18 [.row ps.length (.ints (flat ps))] = .need (ps.length * (2 : Nat) ≤ (List.drop (0 : Nat) (flat ps)).length) (.need (ps.length ≤ (1000000000 : Nat)) (brT (!okL (ptsA ps.length (List.drop 0 (flat ps)))) (.fin (.slice none (0) (0)) [some ⟨.view, .ints (flat ps)⟩]) (.need (ps.length * (2 : Nat) ≤ (List.drop (0 : Nat) (flat ps)).length) (.need (allV (ptsA ps.length (List.drop (0 : Nat) (flat ps))) = true) (.need (ps.length ≤ (1000 : Nat)) (.fin (.slice (some ⟨1, 0, none⟩) ((hulL (srtL (ptsA ps.length (List.drop 0 (flat ps))))).length) ((hulL (srtL (ptsA ps.length (List.drop 0 (flat ps))))).length)) [some ⟨.view, .ints (flat ps)⟩, some ⟨.row 30 2, .ints (flat (hulL (srtL (ptsA ps.length (List.drop 0 (flat ps))))))⟩])))))) := by kernel_rfl
theorem hulV_no {ps : List Pt} (h : okL ps = false) : hulV ps = [] := by
  unfold hulV spV
  rw [h]
  rfl
theorem hulV_yes {ps : List Pt} (h : okL ps = true) : hulV ps = hulL (srtL ps) := by
  unfold hulV spV
  rw [h]
  rfl
theorem resR_sHv (ps : List Pt) (h : Big ps) : ResR Try.prog 18 [.row ps.length (.ints (flat ps))] (rowP (hulV ps)) (blkP (hulV ps)) := by
  refine bodyX_resR mixed EHv_ok (m := 30) (n := 12) rfl ?_
  rw [tr_sHv]
  unfold Big at h
  simp only [List.drop_zero, ptsA_flat, flat_length]
  rcases ho : okL ps with _ | _
  · rw [hulV_no ho]
    simp only [Bool.not_false, brT_t, Tree.ok]
    exact ⟨by omega, h, none, ⟨rfl, rfl⟩, trivial⟩
  · obtain ⟨h1, h2⟩ := okL_20 ho
    rw [hulV_yes ho]
    simp only [Bool.not_true, brT_f, Tree.ok]
    exact ⟨by omega, h, by omega, h1, by omega, some 1, ⟨rfl, rfl, rfl⟩, rfl, rfl, rfl⟩
def RHw : TabR := fun f ds => match f, ds with
  | 18, [.row m (.ints xs)] => some (rowP (hulV (ptsA m xs)), blkP (hulV (ptsA m xs)), [m * 2 ≤ xs.length, m ≤ 1000000000])
  | f, ds => RHv f ds
theorem RHw_ok : TabROk Try.prog RHw := by
  intro f ds v b C h hC
  unfold RHw at h
  split at h
  · obtain ⟨rfl, rfl, rfl⟩ : _ ∧ _ ∧ _ := by simpa using h
    obtain ⟨_, h2⟩ := ptsA_spec hC.1
    exact resR_pts1 (pre := []) (post := []) hC.1 (resR_sHv _ (by unfold Big; rw [h2]; exact hC.2.1))
  · exact RHv_ok _ _ _ _ _ h hC
theorem hulV_len (ps : List Pt) : (hulV ps).length ≤ 40 := hulL_len (spV_len ps)
end Go.Proofs.Ytnjmepbblcfnfaa
namespace Go.Proofs.Ytnjmepbblcfnfaa
set_option linter.all false
open Go.RowKit
theorem hulV_sub {ps : List Pt} (h1 : okL ps = true) {v : Pt} (hv : v ∈ hulV ps) : v ∈ ps := by
  rw [hulV_yes h1] at hv
  exact (srtL_mem _ _).1 (hul_in (srtL_asc _) hv)
theorem hulV_max {ps : List Pt} (h1 : okL ps = true) {dx dy M : Int} (hM : ∀ v ∈ hulV ps, dirV dx dy v ≤ M) {q : Pt} (hq : q ∈ ps) : dirV dx dy q ≤ M := by
  rw [hulV_yes h1] at hM
  exact hul_max (srtL_asc _) hM q ((srtL_mem _ _).2 hq)
end Go.Proofs.Ytnjmepbblcfnfaa
namespace Go.Proofs.Ytnjmepbblcfnfaa
set_option linter.all false
open Go.RowKit
theorem far_sq (x : Int) : 0 ≤ x * x := by
  rcases Int.le_total 0 x with h | h
  · exact Int.mul_nonneg h h
  · exact Int.mul_nonneg_of_nonpos_of_nonpos h h
theorem far_pos {p v : Pt} (h : v ≠ p) : 0 < sq v p := by
  have a := far_sq (v.1 - p.1)
  have b := far_sq (v.2 - p.2)
  unfold sq
  rcases Int.lt_or_le 0 ((v.1 - p.1) * (v.1 - p.1) + (v.2 - p.2) * (v.2 - p.2)) with k | k
  · exact k
  · exfalso
    have e1 : (v.1 - p.1) * (v.1 - p.1) = 0 := by omega
    have e2 : (v.2 - p.2) * (v.2 - p.2) = 0 := by omega
    refine h (Prod.ext ?_ ?_)
    · rcases Int.mul_eq_zero.1 e1 with k | k <;> omega
    · rcases Int.mul_eq_zero.1 e2 with k | k <;> omega
theorem sq_exp (v p q : Pt) : sq v q = sq v p + 2 * (dirV (p.1 - q.1) (p.2 - q.2) v - dirV (p.1 - q.1) (p.2 - q.2) p) + sq p q := by
  unfold sq dirV
  grind
/-- The farthest from another point. -/
theorem far_vertex {ps : List Pt} (h1 : okL ps = true) {p q : Pt} (hp : p ∈ ps) (hm : ∀ u ∈ ps, sq u q ≤ sq p q) : p ∈ hulV ps := by
  by_cases hn : p ∈ hulV ps
  · exact hn
  exfalso
  have hM : ∀ v ∈ hulV ps, dirV (p.1 - q.1) (p.2 - q.2) v ≤ dirV (p.1 - q.1) (p.2 - q.2) p - 1 := fun v hv => by
    have h2 := hm v (hulV_sub h1 hv)
    have h3 := far_pos (p := p) (v := v) (fun e => hn (e ▸ hv))
    have h4 := sq_exp v p q
    omega
  have := hulV_max h1 hM hp
  omega
/-- The points of the farthest pair. -/
theorem dm_pts {ps : List Pt} (h0 : 0 < ps.length) : ∃ i k : Nat, i < ps.length ∧ k < ps.length ∧ dmP ps = ((i : Int), (k : Int)) ∧ dmV ps (dmP ps) = sq (ps.getD i (0, 0)) (ps.getD k (0, 0)) := by
  obtain ⟨h1, h2, h3⟩ := dmP_in h0
  refine ⟨(dmP ps).1.toNat, (dmP ps).2.toNat, by omega, by omega, Prod.ext (by simp only; omega) (by simp only; omega), rfl⟩
theorem dm_in_hul {ps : List Pt} (h1 : okL ps = true) {i k : Nat} (hi : i < ps.length) (hk : k < ps.length) (he : dmV ps (dmP ps) = sq (ps.getD i (0, 0)) (ps.getD k (0, 0))) : ps.getD i (0, 0) ∈ hulV ps ∧ ps.getD k (0, 0) ∈ hulV ps := by
  have hmx : ∀ u ∈ ps, ∀ j, j < ps.length → sq u (ps.getD j (0, 0)) ≤ dmV ps (dmP ps) := fun u hu j hj => by
    obtain ⟨m, hm, rfl⟩ := List.getElem_of_mem hu
    have e : ps.getD m (0, 0) = ps[m] := by simp [hm]
    rw [← e]
    exact dmP_max hm hj
  exact ⟨far_vertex h1 (getD_mem' hi) (q := ps.getD k (0, 0)) (fun u hu => by rw [← he]; exact hmx u hu k hk),
    far_vertex h1 (getD_mem' hk) (q := ps.getD i (0, 0)) (fun u hu => by rw [sq_sym (ps.getD k (0, 0)), ← he]; exact hmx u hu i hi)⟩
end Go.Proofs.Ytnjmepbblcfnfaa
namespace Go.Proofs.Ytnjmepbblcfnfaa
set_option linter.all false
open Go.RowKit
/-- The pairs of a row from k on. -/
def prK (n i k : Nat) : List Pt := prR i (n - k) k
theorem prK_step {n i k : Nat} (h : k < n) (o : List Pt) : o ++ prK n i k = (o ++ [((i : Int), (k : Int))]) ++ prK n i (k + 1) := by
  unfold prK
  rw [show n - k = (n - (k + 1)) + 1 by omega, prR_step]
  simp
theorem prK_end {n i k : Nat} (h : n ≤ k) : prK n i k = [] := by
  unfold prK
  rw [show n - k = 0 by omega]
  rfl
/-- The rows of pairs from i on. -/
def prI (n i : Nat) : List Pt := prA n (n - i) i
theorem prI_step {n i : Nat} (h : i < n) (o : List Pt) : o ++ prI n i = (o ++ prK n i i) ++ prI n (i + 1) := by
  unfold prI
  rw [show n - i = (n - (i + 1)) + 1 by omega, prA_step]
  unfold prK
  simp
theorem prI_end {n i : Nat} (h : n ≤ i) : prI n i = [] := by
  unfold prI
  rw [show n - i = 0 by omega]
  rfl
theorem prK_len (n i k : Nat) : (prK n i k).length = n - k := prR_len ..
noncomputable def c_pwi : Code := ((loopsOf (codeOf Try.f86))[1]?).getD .skip
def k_pwi : Ex → List Nat := keeps [0, 3, 4, 5, 6, 7] [(2, [0, 3, 6, 7]), (1, [0, 3, 6, 7]), (0, [3])] [2]
def s_pwi (n i : Nat) : Nat × (List Pt) → St := fun (k, o) => ⟨[.int .i64 n, topV, topV, .slice (some ⟨2, 0, none⟩) o.length o.length, .int .i64 i, .int .i64 k, .int .i64 n, .int .i64 i, topV, topV, topV, topV, topV, topV, topV, topV, topV, topV, topV, topV, topV, topV, topV, topV], [none, some ⟨.dead, .vals []⟩, some ⟨.row 88 2, .ints (flat o)⟩]⟩
def re_pwi : Nat × (List Pt) → Ex := fun _ => .exit 2
def rs_pwi (n i : Nat) : Nat × (List Pt) → St := fun (k, o) => ⟨[.int .i64 n, topV, topV, .slice (some ⟨2, 0, none⟩) (o ++ prK n i k).length (o ++ prK n i k).length, topV, topV, .int .i64 n, .int .i64 i, topV, topV, topV, topV, topV, topV, topV, topV, topV, topV, topV, topV, topV, topV, topV, topV], [none, some ⟨.dead, .vals []⟩, some ⟨.row 88 2, .ints (flat (o ++ prK n i k))⟩]⟩
set_option maxRecDepth 100000 in
theorem tr_pwi (n i : Nat) (k : Nat) (o : List Pt) : bodyL Try.prog E3 30 12 noL 2 c_pwi k_pwi 12 (s_pwi n i (k, o)) = brT (decide ((↑k : Int) < (↑n : Int))) (.need ((o.length + (1 : Nat)) * (16 : Nat) ≤ (140737488355328 : Nat) ∧ o.length + (1 : Nat) ≤ (1000000 : Nat)) (.need ((0 : Nat) + o.length * (2 : Nat) ≤ (flat o).length) (.leaf .normal ⟨[.int .i64 ((↑n : Int)), topV, topV, .slice (some ⟨4, 0, none⟩) (o.length + 1) (o.length + 1), .int .i64 ((↑i : Int)), .int .i64 (IntKind.i64.wrap ((↑k : Int) + 1)), .int .i64 ((↑n : Int)), .int .i64 ((↑i : Int)), topV, topV, topV, topV, topV, topV, topV, topV, topV, topV, topV, topV, topV, topV, topV, topV], [none, some deadB, some deadB, some ⟨.row 88 2, .vals [.int .i64 ((↑i : Int)), .int .i64 ((↑k : Int))]⟩, some ⟨.row 88 2, .ints (List.take (o.length * 2) (List.drop 0 (flat o)) ++ [(↑i : Int), (↑k : Int)])⟩]⟩))) (.leaf (.exit 2) ⟨[.int .i64 ((↑n : Int)), topV, topV, .slice (some ⟨2, 0, none⟩) (o.length) (o.length), topV, topV, .int .i64 ((↑n : Int)), .int .i64 ((↑i : Int)), topV, topV, topV, topV, topV, topV, topV, topV, topV, topV, topV, topV, topV, topV, topV, topV], [none, some deadB, some ⟨.row 88 2, .ints (flat o)⟩]⟩) := by kernel_rfl
set_option maxRecDepth 100000 in
theorem nl_pwi : loopsOf c_pwi = [] := by kernel_rfl
def inv_pwi (n i : Nat) : Nat × (List Pt) → Prop := fun (k, o) => k ≤ n ∧ o.length + (n - k) ≤ 1000
def me_pwi (n i : Nat) : Nat × (List Pt) → Nat := fun (k, o) => n - k
/-- A round of this loop. -/
def Round_pwi (n i : Nat) : Prop := ∀ xx : Nat × (List Pt), inv_pwi n i xx → (bodyL Try.prog E3 30 12 noL 2 c_pwi k_pwi 12 (s_pwi n i xx)).ok (RoundEnd 2 (s_pwi n i) (inv_pwi n i) (me_pwi n i) re_pwi (rs_pwi n i) xx) (fun _ _ => False)
def e_pwi (s : St) (k : Ex → St → Tree) : Option Tree := match Nat.beq s.tmps.length 24, pickL s.tmps [0, 3, 4, 5, 6, 7], s.mem with
  | true, [.int .i64 n1, .slice (some ⟨1, 0, none⟩) z _, .int .i64 i1, .int .i64 k1, .int .i64 n2, .int .i64 i2], [none, some ⟨.row 88 2, .ints xs⟩] => some (needs [n2 = n1, i2 = i1, k1 = i1, xs.length = z * 2, z ≤ 500, 0 ≤ i1 ∧ i1 < n1 ∧ n1 ≤ 20] (k (.exit 2) ⟨[.int .i64 n1, topV, topV, .slice (some ⟨2, 0, none⟩) (ptsA z xs ++ prK n1.toNat i1.toNat i1.toNat).length (ptsA z xs ++ prK n1.toNat i1.toNat i1.toNat).length, topV, topV, .int .i64 n1, .int .i64 i1, topV, topV, topV, topV, topV, topV, topV, topV, topV, topV, topV, topV, topV, topV, topV, topV], [none, some ⟨.dead, .vals []⟩, some ⟨.row 88 2, .ints (flat (ptsA z xs ++ prK n1.toNat i1.toNat i1.toNat))⟩]⟩))
  | _, _, _ => none
theorem flatB (o : List Pt) : List.take (o.length * 2) (List.drop 0 (flat o)) = flat o := by rw [List.drop_zero, flat_all]
set_option maxRecDepth 100000 in
theorem round_pwi (n i : Nat) (h : n ≤ 20) : Round_pwi n i := by
  rintro ⟨k, o⟩ ⟨h1, h2⟩
  rw [tr_pwi]
  simp only [brT_ok, Tree.ok, decide_eq_true_eq, decide_eq_false_iff_not, flatB, flat_length, Nat.zero_add]
  refine ⟨fun hlt => ?_, fun hge => ?_⟩
  · rw [wsucc (n := n) (by omega) (by omega), flat_snoc]
    refine ⟨by omega, by omega, (k + 1, o ++ [((i : Int), (k : Int))]), [some 4], ⟨by omega, by simp; omega⟩, ?_, rfl, ?_, ?_⟩
    · show n - (k + 1) < n - k; omega
    · simp only [rs_pwi, prK_step (n := n) (i := i) (k := k) (by omega) o]
    · repeat' (first | exact True.intro | exact rfl | exact fun _ => rfl | (simp; done) | refine And.intro ?_ ?_)
  · refine ⟨rfl, [some 2], ?_⟩
    simp only [rs_pwi, prK_end (n := n) (i := i) (k := k) (by omega), List.append_nil]
    repeat' (first | exact True.intro | exact rfl | exact fun _ => rfl | (simp; done) | refine And.intro ?_ ?_)
set_option maxRecDepth 100000 in
theorem lg_pwi : LoopE Try.prog e_pwi c_pwi := by
  intro s k t F H hlt ht
  unfold e_pwi at hlt
  split at hlt
  rotate_left
  · cases hlt
  rename_i hlen hpick hmem
  obtain ⟨tmps, mem⟩ := s
  simp only at hlen hpick hmem
  subst hmem
  obtain rfl := Option.some.inj hlt
  obtain ⟨⟨rfl, rfl, rfl, h1, h2, h3, _⟩, ht2⟩ := needs_ok ht
  clear ht hlt
  obtain ⟨o, rfl, rfl⟩ := even_flat h1
  obtain ⟨i, rfl⟩ := Int.eq_ofNat_of_zero_le h3.1
  obtain ⟨n, rfl⟩ := Int.eq_ofNat_of_zero_le (Int.le_trans h3.1 (Int.le_of_lt h3.2.1))
  rw [ptsA_flat] at ht2
  simp only [Int.toNat_natCast] at ht2
  refine ⟨_, _, ht2, loop_run2 mixed E3_ok (s_pwi n i) (inv_pwi n i) (me_pwi n i) re_pwi (rs_pwi n i) k_pwi (fun _ => rfl) (noLoops nl_pwi) (round_pwi n i (by omega)) (x := (i, o)) ⟨by omega, by omega⟩ (π := [some 1]) rfl ?_⟩
  refine ⟨rfl, rfl, ?_, wvs_spread' [0, 3, 4, 5, 6, 7] hlen rfl ?_⟩
  · repeat' (first | exact True.intro | exact rfl | exact wv_top _ _ | exact fun _ => rfl | assumption | exact Eq.symm (by assumption) | exact vI0 rfl | refine And.intro ?_ ?_)
  · rw [hpick]
    repeat' (first | exact True.intro | exact rfl | exact wv_top _ _ | exact fun _ => rfl | assumption | exact Eq.symm (by assumption) | exact vI0 rfl | refine And.intro ?_ ?_)
def ltPw : LT := fun j s k => match j with
  | 1 => e_pwi s k
  | _ => none
noncomputable def c_pwo : Code := ((loopsOf (codeOf Try.f86))[0]?).getD .skip
def k_pwo : Ex → List Nat := keeps [0, 3, 6, 7] [(0, [3])] [2]
def s_pwo (n : Nat) : Nat × (List Pt) → St := fun (i, o) => ⟨[.int .i64 n, topV, topV, .slice (some ⟨1, 0, none⟩) o.length o.length, topV, topV, .int .i64 n, .int .i64 i, topV, topV, topV, topV, topV, topV, topV, topV, topV, topV, topV, topV, topV, topV, topV, topV], [none, some ⟨.row 88 2, .ints (flat o)⟩]⟩
def re_pwo : Nat × (List Pt) → Ex := fun _ => .exit 0
def rs_pwo (n : Nat) : Nat × (List Pt) → St := fun (i, o) => ⟨[topV, topV, topV, .slice (some ⟨1, 0, none⟩) (o ++ prI n i).length (o ++ prI n i).length, topV, topV, topV, topV, topV, topV, topV, topV, topV, topV, topV, topV, topV, topV, topV, topV, topV, topV, topV, topV], [none, some ⟨.row 88 2, .ints (flat (o ++ prI n i))⟩]⟩
set_option maxRecDepth 100000 in
theorem tr_pwo (n : Nat) (i : Nat) (o : List Pt) : bodyL Try.prog E3 30 12 ltPw 1 c_pwo k_pwo 12 (s_pwo n (i, o)) = brT (decide ((↑i : Int) < (↑n : Int))) (.need ((↑n : Int) = (↑n : Int)) (.need ((↑i : Int) = (↑i : Int)) (.need ((↑i : Int) = (↑i : Int)) (.need ((flat o).length = o.length * (2 : Nat)) (.need (o.length ≤ (500 : Nat)) (.need ((0 : Int) ≤ (↑i : Int) ∧ (↑i : Int) < (↑n : Int) ∧ (↑n : Int) ≤ (20 : Int)) (.leaf .normal ⟨[.int .i64 ((↑n : Int)), topV, topV, .slice (some ⟨2, 0, none⟩) ((ptsA o.length (flat o) ++ prK (↑n : Int).toNat (↑i : Int).toNat (↑i : Int).toNat).length) ((ptsA o.length (flat o) ++ prK (↑n : Int).toNat (↑i : Int).toNat (↑i : Int).toNat).length), topV, topV, .int .i64 ((↑n : Int)), .int .i64 (IntKind.i64.wrap ((↑i : Int) + 1)), topV, topV, topV, topV, topV, topV, topV, topV, topV, topV, topV, topV, topV, topV, topV, topV], [none, some deadB, some ⟨.row 88 2, .ints (flat (ptsA o.length (flat o) ++ prK (↑n : Int).toNat (↑i : Int).toNat (↑i : Int).toNat))⟩]⟩))))))) (.leaf (.exit 0) ⟨[topV, topV, topV, .slice (some ⟨1, 0, none⟩) (o.length) (o.length), topV, topV, topV, topV, topV, topV, topV, topV, topV, topV, topV, topV, topV, topV, topV, topV, topV, topV, topV, topV], [none, some ⟨.row 88 2, .ints (flat o)⟩]⟩) := by kernel_rfl
def inv_pwo (n : Nat) : Nat × (List Pt) → Prop := fun (i, o) => i ≤ n ∧ o.length ≤ 20 * i
def me_pwo (n : Nat) : Nat × (List Pt) → Nat := fun (i, o) => n - i
/-- A round of this loop. -/
def Round_pwo (n : Nat) : Prop := ∀ xx : Nat × (List Pt), inv_pwo n xx → (bodyL Try.prog E3 30 12 ltPw 1 c_pwo k_pwo 12 (s_pwo n xx)).ok (RoundEnd 1 (s_pwo n) (inv_pwo n) (me_pwo n) re_pwo (rs_pwo n) xx) (fun _ _ => False)
def e_pwo (s : St) (k : Ex → St → Tree) : Option Tree := match Nat.beq s.tmps.length 24, pickL s.tmps [0, 3, 6, 7], s.mem with
  | true, [.int .i64 n1, .slice none 0 0, .int .i64 n2, .int .i64 i1], [none] => some (needs [n2 = n1, i1 = 0, 0 ≤ n1 ∧ n1 ≤ 20] (k (.exit 0) ⟨[topV, topV, topV, .slice (some ⟨1, 0, none⟩) (prI n1.toNat 0).length (prI n1.toNat 0).length, topV, topV, topV, topV, topV, topV, topV, topV, topV, topV, topV, topV, topV, topV, topV, topV, topV, topV, topV, topV], [none, some ⟨.row 88 2, .ints (flat (prI n1.toNat 0))⟩]⟩))
  | _, _, _ => none
set_option maxRecDepth 100000 in
theorem in_pwo : loopsOf c_pwo = [c_pwi] := by kernel_rfl
theorem ltPw_good : LoopsGood Try.prog ltPw 1 c_pwo := by
  intro i d hd s k t F H hlt ht
  rw [in_pwo] at hd
  cases i with
  | zero =>
    obtain rfl : c_pwi = d := by simpa using hd
    exact lg_pwi s k t F H hlt ht
  | succ i => simp at hd
set_option maxRecDepth 100000 in
theorem round_pwo (n : Nat) (h : n ≤ 20) : Round_pwo n := by
  rintro ⟨i, o⟩ ⟨h1, h2⟩
  rw [tr_pwo]
  simp only [brT_ok, Tree.ok, decide_eq_true_eq, decide_eq_false_iff_not, Int.toNat_natCast, Nat.zero_add, flat_length, ptsA_flat]
  refine ⟨fun hlt => ?_, fun hge => ?_⟩
  · rw [wsucc (n := n) (by omega) (by omega)]
    have e := prI_step (n := n) (i := i) (by omega) o
    have hk := prK_len n i i
    refine ⟨trivial, trivial, trivial, trivial, by omega, ⟨by omega, by omega, by omega⟩, (i + 1, o ++ prK n i i), [some 2], ⟨by omega, by simp [hk]; omega⟩, ?_, rfl, ?_, ?_⟩
    · show n - (i + 1) < n - i; omega
    · simp only [rs_pwo, e]
    · repeat' (first | exact True.intro | exact rfl | exact fun _ => rfl | (simp; done) | refine And.intro ?_ ?_)
  · refine ⟨rfl, [some 1], ?_⟩
    simp only [rs_pwo, prI_end (n := n) (i := i) (by omega), List.append_nil]
    repeat' (first | exact True.intro | exact rfl | exact fun _ => rfl | (simp; done) | refine And.intro ?_ ?_)
set_option maxRecDepth 100000 in
theorem lg_pwo : LoopE Try.prog e_pwo c_pwo := by
  intro s k t F H hlt ht
  unfold e_pwo at hlt
  split at hlt
  rotate_left
  · cases hlt
  rename_i hlen hpick hmem
  obtain ⟨tmps, mem⟩ := s
  simp only at hlen hpick hmem
  subst hmem
  obtain rfl := Option.some.inj hlt
  obtain ⟨⟨rfl, rfl, h1, _⟩, ht2⟩ := needs_ok ht
  clear ht hlt
  obtain ⟨n, rfl⟩ := Int.eq_ofNat_of_zero_le h1.1
  simp only [Int.toNat_natCast] at ht2
  refine ⟨_, _, ht2, loop_run2 mixed E3_ok (s_pwo n) (inv_pwo n) (me_pwo n) re_pwo (rs_pwo n) k_pwo (fun _ => rfl) ltPw_good (round_pwo n (by omega)) (x := (0, [])) ⟨Nat.zero_le _, Nat.le_refl _⟩ (π := [none]) rfl ?_⟩
  refine ⟨rfl, rfl, ?_, wvs_spread' [0, 3, 6, 7] hlen rfl ?_⟩
  · repeat' (first | exact True.intro | exact rfl | exact wv_top _ _ | exact fun _ => rfl | assumption | exact Eq.symm (by assumption) | exact vI0 rfl | refine And.intro ?_ ?_)
  · rw [hpick]
    repeat' (first | exact True.intro | exact rfl | exact wv_top _ _ | exact fun _ => rfl | assumption | exact Eq.symm (by assumption) | exact vI0 rfl | refine And.intro ?_ ?_)
theorem Lr_pwo {fn : Func} (hf : Try.prog.funcs[86]? = some fn) : LoopsGood Try.prog (lt1 e_pwo) 0 (codeOf fn) := by
  obtain rfl := fn_is Try.func86 hf
  exact lt1_good lg_pwo
/-- The best of a row. -/
def bsK (ps : List Pt) (i k : Nat) (q : Pt) : Pt := (prK ps.length i k).foldl (mxS (dmV ps)) q
def inI (n : Nat) (q : Pt) : Prop := 0 ≤ q.1 ∧ q.1 < n ∧ 0 ≤ q.2 ∧ q.2 < n
theorem bsK_step {ps : List Pt} {i k : Nat} (h : k < ps.length) (q : Pt) : bsK ps i k q = bsK ps i (k + 1) (mxS (dmV ps) q ((i : Int), (k : Int))) := by
  have := prK_step (i := i) h []
  simp only [List.nil_append] at this
  unfold bsK
  rw [this]
  rfl
theorem bsK_end {ps : List Pt} {i k : Nat} (h : ps.length ≤ k) (q : Pt) : bsK ps i k q = q := by
  unfold bsK
  rw [prK_end h]
  rfl
theorem bsK_in {ps : List Pt} {i k : Nat} {q : Pt} (hi : i < ps.length) (h : inI ps.length q) : inI ps.length (bsK ps i k q) := by
  unfold bsK prK
  rcases (fold_mx (dmV ps) (prR i (ps.length - k) k) q).2.2 with e | e
  · rw [e]; exact h
  · have e := prR_mem.1 e
    unfold inI
    rcases Nat.le_total ps.length k with h2 | h2 <;> omega
noncomputable def c_fai : Code := ((loopsOf (codeOf Try.f82))[1]?).getD .skip
def k_fai : Ex → List Nat := keeps [0, 4, 5, 6, 7] [(2, [0, 4, 5, 6])] [2, 3]
def s_fai (ps : List Pt) (i : Nat) : Nat × Pt → St := fun (k, q) => ⟨(.slice (some ⟨0, 0, none⟩) ps.length ps.length :: topV :: topV :: topV :: .int .i64 q.1 :: .int .i64 q.2 :: .int .i64 i :: .int .i64 k :: topV :: topV :: topV :: topV :: topV :: topV :: topV :: topV :: topV :: topV :: topV :: topV :: topV :: topV :: topV :: topV :: topV :: topV :: topV :: topV :: topV :: topV :: topV :: topV :: topV :: topV :: topV :: topV :: topV :: topV :: topV :: topV :: topV :: topV :: topV :: topV :: topV :: []), [some ⟨.view, .ints (flat ps)⟩]⟩
def re_fai : Nat × Pt → Ex := fun _ => .exit 2
def rs_fai (ps : List Pt) (i : Nat) : Nat × Pt → St := fun (k, q) => ⟨(.slice (some ⟨0, 0, none⟩) ps.length ps.length :: topV :: topV :: topV :: .int .i64 (bsK ps i k q).1 :: .int .i64 (bsK ps i k q).2 :: .int .i64 i :: topV :: topV :: topV :: topV :: topV :: topV :: topV :: topV :: topV :: topV :: topV :: topV :: topV :: topV :: topV :: topV :: topV :: topV :: topV :: topV :: topV :: topV :: topV :: topV :: topV :: topV :: topV :: topV :: topV :: topV :: topV :: topV :: topV :: topV :: topV :: topV :: topV :: topV :: []), [some ⟨.view, .ints (flat ps)⟩]⟩
set_option maxRecDepth 100000 in
theorem tr_fai (ps : List Pt) (i : Nat) (k : Nat) (q : Pt) : bodyL Try.prog E3 30 12 noL 2 c_fai k_fai 1 (s_fai ps i (k, q)) = brT (decide ((↑k : Int) < (↑ps.length : Int))) (.need ((0 : Int) ≤ (↑i : Int) ∧ (↑i : Int) < (↑ps.length : Int)) (.need ((0 : Nat) + (↑i : Int).toNat * (2 : Nat) + (2 : Nat) ≤ (flat ps).length) (.need ((0 : Int) ≤ (↑k : Int) ∧ (↑k : Int) < (↑ps.length : Int)) (.need ((0 : Nat) + (↑k : Int).toNat * (2 : Nat) + (2 : Nat) ≤ (flat ps).length) (.need ((0 : Int) ≤ q.1 ∧ q.1 < (↑ps.length : Int)) (.need ((0 : Nat) + q.1.toNat * (2 : Nat) + (2 : Nat) ≤ (flat ps).length) (.need ((0 : Int) ≤ q.2 ∧ q.2 < (↑ps.length : Int)) (.need ((0 : Nat) + q.2.toNat * (2 : Nat) + (2 : Nat) ≤ (flat ps).length) (brT (decide (IntKind.i64.wrap (IntKind.i64.wrap (IntKind.i64.wrap ((flat ps).getD (0 + q.1.toNat * 2) 0 - (flat ps).getD (0 + q.2.toNat * 2) 0) * IntKind.i64.wrap ((flat ps).getD (0 + q.1.toNat * 2) 0 - (flat ps).getD (0 + q.2.toNat * 2) 0)) + IntKind.i64.wrap (IntKind.i64.wrap ((flat ps).getD (0 + q.1.toNat * 2 + 1) 0 - (flat ps).getD (0 + q.2.toNat * 2 + 1) 0) * IntKind.i64.wrap ((flat ps).getD (0 + q.1.toNat * 2 + 1) 0 - (flat ps).getD (0 + q.2.toNat * 2 + 1) 0))) < IntKind.i64.wrap (IntKind.i64.wrap (IntKind.i64.wrap ((flat ps).getD (0 + (↑i : Int).toNat * 2) 0 - (flat ps).getD (0 + (↑k : Int).toNat * 2) 0) * IntKind.i64.wrap ((flat ps).getD (0 + (↑i : Int).toNat * 2) 0 - (flat ps).getD (0 + (↑k : Int).toNat * 2) 0)) + IntKind.i64.wrap (IntKind.i64.wrap ((flat ps).getD (0 + (↑i : Int).toNat * 2 + 1) 0 - (flat ps).getD (0 + (↑k : Int).toNat * 2 + 1) 0) * IntKind.i64.wrap ((flat ps).getD (0 + (↑i : Int).toNat * 2 + 1) 0 - (flat ps).getD (0 + (↑k : Int).toNat * 2 + 1) 0))))) (.leaf .normal ⟨(.slice (some ⟨0, 0, none⟩) (ps.length) (ps.length) :: topV :: topV :: topV :: .int .i64 ((↑i : Int)) :: .int .i64 ((↑k : Int)) :: .int .i64 ((↑i : Int)) :: .int .i64 (IntKind.i64.wrap ((↑k : Int) + 1)) :: topV :: topV :: topV :: topV :: topV :: topV :: topV :: topV :: topV :: topV :: topV :: topV :: topV :: topV :: topV :: topV :: topV :: topV :: topV :: topV :: topV :: topV :: topV :: topV :: topV :: topV :: topV :: topV :: topV :: topV :: topV :: topV :: topV :: topV :: topV :: topV :: topV :: []), [some ⟨.view, .ints (flat ps)⟩]⟩) (.leaf .normal ⟨(.slice (some ⟨0, 0, none⟩) (ps.length) (ps.length) :: topV :: topV :: topV :: .int .i64 (q.1) :: .int .i64 (q.2) :: .int .i64 ((↑i : Int)) :: .int .i64 (IntKind.i64.wrap ((↑k : Int) + 1)) :: topV :: topV :: topV :: topV :: topV :: topV :: topV :: topV :: topV :: topV :: topV :: topV :: topV :: topV :: topV :: topV :: topV :: topV :: topV :: topV :: topV :: topV :: topV :: topV :: topV :: topV :: topV :: topV :: topV :: topV :: topV :: topV :: topV :: topV :: topV :: topV :: topV :: []), [some ⟨.view, .ints (flat ps)⟩]⟩)))))))))) (.leaf (.exit 2) ⟨(.slice (some ⟨0, 0, none⟩) (ps.length) (ps.length) :: topV :: topV :: topV :: .int .i64 (q.1) :: .int .i64 (q.2) :: .int .i64 ((↑i : Int)) :: topV :: topV :: topV :: topV :: topV :: topV :: topV :: topV :: topV :: topV :: topV :: topV :: topV :: topV :: topV :: topV :: topV :: topV :: topV :: topV :: topV :: topV :: topV :: topV :: topV :: topV :: topV :: topV :: topV :: topV :: topV :: topV :: topV :: topV :: topV :: topV :: topV :: topV :: []), [some ⟨.view, .ints (flat ps)⟩]⟩) := by kernel_rfl
set_option maxRecDepth 100000 in
theorem nl_fai : loopsOf c_fai = [] := by kernel_rfl
def inv_fai (ps : List Pt) (i : Nat) : Nat × Pt → Prop := fun (k, q) => k ≤ ps.length ∧ inI ps.length q
def me_fai (ps : List Pt) (i : Nat) : Nat × Pt → Nat := fun (k, q) => ps.length - k
/-- A round of this loop. -/
def Round_fai (ps : List Pt) (i : Nat) : Prop := ∀ xx : Nat × Pt, inv_fai ps i xx → (bodyL Try.prog E3 30 12 noL 2 c_fai k_fai 1 (s_fai ps i xx)).ok (RoundEnd 1 (s_fai ps i) (inv_fai ps i) (me_fai ps i) re_fai (rs_fai ps i) xx) (fun _ _ => False)
def e_fai (s : St) (k : Ex → St → Tree) : Option Tree := match Nat.beq s.tmps.length 45, pickL s.tmps [0, 4, 5, 6, 7], s.mem with
  | true, [.slice (some ⟨0, 0, none⟩) n _, .int .i64 a, .int .i64 b, .int .i64 ii, .int .i64 kk], [some ⟨.view, .ints xs⟩] => some (needs [kk = ii + 1, xs.length = n * 2, n ≤ 20, allV (ptsA n xs) = true, 0 ≤ ii, ii < n, inI n (a, b)] (k (.exit 2) ⟨(.slice (some ⟨0, 0, none⟩) n n :: topV :: topV :: topV :: .int .i64 (bsK (ptsA n xs) ii.toNat (ii.toNat + 1) (a, b)).1 :: .int .i64 (bsK (ptsA n xs) ii.toNat (ii.toNat + 1) (a, b)).2 :: .int .i64 ii :: topV :: topV :: topV :: topV :: topV :: topV :: topV :: topV :: topV :: topV :: topV :: topV :: topV :: topV :: topV :: topV :: topV :: topV :: topV :: topV :: topV :: topV :: topV :: topV :: topV :: topV :: topV :: topV :: topV :: topV :: topV :: topV :: topV :: topV :: topV :: topV :: topV :: topV :: []), [some ⟨.view, .ints xs⟩]⟩))
  | _, _, _ => none
set_option maxRecDepth 100000 in
theorem round_fai (ps : List Pt) (i : Nat) (h : ps.length ≤ 20) (hv : allV ps = true) (hi : i < ps.length) : Round_fai ps i := by
  rintro ⟨k, q⟩ ⟨h1, h2⟩
  rw [tr_fai]
  obtain ⟨q1, q2, q3, q4⟩ := h2
  obtain ⟨a, ha⟩ := Int.eq_ofNat_of_zero_le q1
  obtain ⟨b, hb⟩ := Int.eq_ofNat_of_zero_le q3
  have b1 := allV_get hv i
  have b2 := allV_get hv k
  have b3 := allV_get hv a
  have b4 := allV_get hv b
  have m1 := mul_bd (x := (ps.getD i (0, 0)).1 - (ps.getD k (0, 0)).1) (y := (ps.getD i (0, 0)).1 - (ps.getD k (0, 0)).1) 2000 2000 (by omega) (by omega)
  have m2 := mul_bd (x := (ps.getD i (0, 0)).2 - (ps.getD k (0, 0)).2) (y := (ps.getD i (0, 0)).2 - (ps.getD k (0, 0)).2) 2000 2000 (by omega) (by omega)
  have m3 := mul_bd (x := (ps.getD a (0, 0)).1 - (ps.getD b (0, 0)).1) (y := (ps.getD a (0, 0)).1 - (ps.getD b (0, 0)).1) 2000 2000 (by omega) (by omega)
  have m4 := mul_bd (x := (ps.getD a (0, 0)).2 - (ps.getD b (0, 0)).2) (y := (ps.getD a (0, 0)).2 - (ps.getD b (0, 0)).2) 2000 2000 (by omega) (by omega)
  have hq : q = ((a : Int), (b : Int)) := Prod.ext ha hb
  subst hq
  simp only [brT_ok, Tree.ok, decide_eq_true_eq, decide_eq_false_iff_not, Int.toNat_natCast, Nat.zero_add, flat_length, flat_get0, flat_get1]
  refine ⟨fun hlt => ?_, fun hge => ?_⟩
  · have st := bsK_step (ps := ps) (i := i) (k := k) (by omega) ((a : Int), (b : Int))
    rw [wsucc (n := ps.length) (by omega) (by omega)]
    simp (disch := omega) only [wr]
    repeat refine And.intro (by first | omega | exact ⟨by omega, by omega⟩) ?_
    refine ⟨fun hle => ?_, fun hle => ?_⟩
    · have e : mxS (dmV ps) ((a : Int), (b : Int)) ((i : Int), (k : Int)) = ((i : Int), (k : Int)) := by
        unfold mxS
        rw [if_pos]
        unfold dmV sq
        simp only [Int.toNat_natCast]
        omega
      rw [e] at st
      refine ⟨(k + 1, ((i : Int), (k : Int))), [], ⟨by omega, by unfold inI; simp only; omega⟩, ?_, rfl, by simp only [rs_fai, st], ?_⟩
      · show ps.length - (k + 1) < ps.length - k; omega
      · repeat' (first | exact True.intro | exact rfl | exact fun _ => rfl | refine And.intro ?_ ?_)
    · have e : mxS (dmV ps) ((a : Int), (b : Int)) ((i : Int), (k : Int)) = ((a : Int), (b : Int)) := by
        unfold mxS
        rw [if_neg]
        unfold dmV sq
        simp only [Int.toNat_natCast]
        omega
      rw [e] at st
      refine ⟨(k + 1, ((a : Int), (b : Int))), [], ⟨by omega, by unfold inI; simp only; omega⟩, ?_, rfl, by simp only [rs_fai, st], ?_⟩
      · show ps.length - (k + 1) < ps.length - k; omega
      · repeat' (first | exact True.intro | exact rfl | exact fun _ => rfl | refine And.intro ?_ ?_)
  · refine ⟨rfl, [], ?_⟩
    simp only [rs_fai, bsK_end (ps := ps) (i := i) (k := k) (by omega)]
    repeat' (first | exact True.intro | exact rfl | exact fun _ => rfl | refine And.intro ?_ ?_)
set_option maxRecDepth 100000 in
theorem lg_fai : LoopE Try.prog e_fai c_fai := by
  intro s k t F H hlt ht
  unfold e_fai at hlt
  split at hlt
  rotate_left
  · cases hlt
  rename_i hlen hpick hmem
  obtain ⟨tmps, mem⟩ := s
  simp only at hlen hpick hmem
  subst hmem
  obtain rfl := Option.some.inj hlt
  obtain ⟨⟨rfl, h1, h2, h3, h4, h5, h6, _⟩, ht2⟩ := needs_ok ht
  clear ht hlt
  obtain ⟨ps, rfl, rfl⟩ := even_flat h1
  obtain ⟨i, rfl⟩ := Int.eq_ofNat_of_zero_le h4
  rw [ptsA_flat] at ht2 h3
  simp only [Int.toNat_natCast] at ht2
  refine ⟨_, _, ht2, loop_run mixed E3_ok (s_fai ps i) (inv_fai ps i) (me_fai ps i) re_fai (rs_fai ps i) k_fai (fun _ => rfl) (noLoops nl_fai) (round_fai ps i h2 h3 (by omega)) (x := (i + 1, (_, _))) ⟨by omega, h6⟩ (π := []) rfl ?_⟩
  refine ⟨rfl, rfl, ?_, wvs_spread' [0, 4, 5, 6, 7] hlen rfl ?_⟩
  · repeat' (first | exact True.intro | exact rfl | exact wv_top _ _ | exact fun _ => rfl | assumption | exact Eq.symm (by assumption) | exact vI0 rfl | refine And.intro ?_ ?_)
  · rw [hpick]
    repeat' (first | exact True.intro | exact rfl | exact wv_top _ _ | exact fun _ => rfl | assumption | exact Eq.symm (by assumption) | exact vI0 rfl | refine And.intro ?_ ?_)
def ltFa : LT := fun j s k => match j with
  | 1 => e_fai s k
  | _ => none
/-- The best of the rows from i on. -/
def bsI (ps : List Pt) (i : Nat) (q : Pt) : Pt := (prB ps.length (ps.length - i) i).foldl (mxS (dmV ps)) q
theorem bsI_step {ps : List Pt} {i : Nat} (h : i < ps.length) (q : Pt) : bsI ps i q = bsI ps (i + 1) (bsK ps i (i + 1) q) := by
  unfold bsI bsK prK
  rw [show ps.length - i = (ps.length - (i + 1)) + 1 by omega, prB_step, List.foldl_append]
theorem bsI_end {ps : List Pt} {i : Nat} (h : ps.length ≤ i) (q : Pt) : bsI ps i q = q := by
  unfold bsI
  rw [show ps.length - i = 0 by omega]
  rfl
noncomputable def c_fao : Code := ((loopsOf (codeOf Try.f82))[0]?).getD .skip
def k_fao : Ex → List Nat := keeps [0, 4, 5, 6] [(0, [4, 5])] [2, 3]
def s_fao (ps : List Pt) : Nat × Pt → St := fun (i, q) => ⟨(.slice (some ⟨0, 0, none⟩) ps.length ps.length :: topV :: topV :: topV :: .int .i64 q.1 :: .int .i64 q.2 :: .int .i64 i :: topV :: topV :: topV :: topV :: topV :: topV :: topV :: topV :: topV :: topV :: topV :: topV :: topV :: topV :: topV :: topV :: topV :: topV :: topV :: topV :: topV :: topV :: topV :: topV :: topV :: topV :: topV :: topV :: topV :: topV :: topV :: topV :: topV :: topV :: topV :: topV :: topV :: topV :: []), [some ⟨.view, .ints (flat ps)⟩]⟩
def re_fao : Nat × Pt → Ex := fun _ => .exit 0
def rs_fao (ps : List Pt) : Nat × Pt → St := fun (i, q) => ⟨(topV :: topV :: topV :: topV :: .int .i64 (bsI ps i q).1 :: .int .i64 (bsI ps i q).2 :: topV :: topV :: topV :: topV :: topV :: topV :: topV :: topV :: topV :: topV :: topV :: topV :: topV :: topV :: topV :: topV :: topV :: topV :: topV :: topV :: topV :: topV :: topV :: topV :: topV :: topV :: topV :: topV :: topV :: topV :: topV :: topV :: topV :: topV :: topV :: topV :: topV :: topV :: topV :: []), [some ⟨.view, .ints (flat ps)⟩]⟩
set_option maxRecDepth 100000 in
theorem tr_fao (ps : List Pt) (i : Nat) (q : Pt) : bodyL Try.prog E3 30 12 ltFa 1 c_fao k_fao 1 (s_fao ps (i, q)) = brT (decide ((↑i : Int) < (↑ps.length : Int))) (.need (IntKind.i64.wrap ((↑i : Int) + (1 : Int)) = (↑i : Int) + (1 : Int)) (.need ((flat ps).length = ps.length * (2 : Nat)) (.need (ps.length ≤ (20 : Nat)) (.need (allV (ptsA ps.length (flat ps)) = true) (.need ((0 : Int) ≤ (↑i : Int)) (.need ((↑i : Int) < (↑ps.length : Int)) (.need (inI ps.length (q.fst, q.snd)) (.leaf .normal ⟨(.slice (some ⟨0, 0, none⟩) (ps.length) (ps.length) :: topV :: topV :: topV :: .int .i64 ((bsK (ptsA ps.length (flat ps)) (↑i : Int).toNat ((↑i : Int).toNat + 1) (q.fst, q.snd)).1) :: .int .i64 ((bsK (ptsA ps.length (flat ps)) (↑i : Int).toNat ((↑i : Int).toNat + 1) (q.fst, q.snd)).2) :: .int .i64 (IntKind.i64.wrap ((↑i : Int) + 1)) :: topV :: topV :: topV :: topV :: topV :: topV :: topV :: topV :: topV :: topV :: topV :: topV :: topV :: topV :: topV :: topV :: topV :: topV :: topV :: topV :: topV :: topV :: topV :: topV :: topV :: topV :: topV :: topV :: topV :: topV :: topV :: topV :: topV :: topV :: topV :: topV :: topV :: topV :: []), [some ⟨.view, .ints (flat ps)⟩]⟩)))))))) (.leaf (.exit 0) ⟨(topV :: topV :: topV :: topV :: .int .i64 (q.1) :: .int .i64 (q.2) :: topV :: topV :: topV :: topV :: topV :: topV :: topV :: topV :: topV :: topV :: topV :: topV :: topV :: topV :: topV :: topV :: topV :: topV :: topV :: topV :: topV :: topV :: topV :: topV :: topV :: topV :: topV :: topV :: topV :: topV :: topV :: topV :: topV :: topV :: topV :: topV :: topV :: topV :: topV :: []), [some ⟨.view, .ints (flat ps)⟩]⟩) := by kernel_rfl
def inv_fao (ps : List Pt) : Nat × Pt → Prop := fun (i, q) => i ≤ ps.length ∧ inI ps.length q
def me_fao (ps : List Pt) : Nat × Pt → Nat := fun (i, q) => ps.length - i
/-- A round of this loop. -/
def Round_fao (ps : List Pt) : Prop := ∀ xx : Nat × Pt, inv_fao ps xx → (bodyL Try.prog E3 30 12 ltFa 1 c_fao k_fao 1 (s_fao ps xx)).ok (RoundEnd 1 (s_fao ps) (inv_fao ps) (me_fao ps) re_fao (rs_fao ps) xx) (fun _ _ => False)
def e_fao (s : St) (k : Ex → St → Tree) : Option Tree := match Nat.beq s.tmps.length 45, pickL s.tmps [0, 4, 5, 6], s.mem with
  | true, [.slice (some ⟨0, 0, none⟩) n _, .int .i64 a, .int .i64 b, .int .i64 ii], [some ⟨.view, .ints xs⟩] => some (needs [ii = 0, a = 0, b = 0, xs.length = n * 2, n ≤ 20, allV (ptsA n xs) = true, 0 < n] (k (.exit 0) ⟨(topV :: topV :: topV :: topV :: .int .i64 (bsI (ptsA n xs) 0 (0, 0)).1 :: .int .i64 (bsI (ptsA n xs) 0 (0, 0)).2 :: topV :: topV :: topV :: topV :: topV :: topV :: topV :: topV :: topV :: topV :: topV :: topV :: topV :: topV :: topV :: topV :: topV :: topV :: topV :: topV :: topV :: topV :: topV :: topV :: topV :: topV :: topV :: topV :: topV :: topV :: topV :: topV :: topV :: topV :: topV :: topV :: topV :: topV :: topV :: []), [some ⟨.view, .ints xs⟩]⟩))
  | _, _, _ => none
set_option maxRecDepth 100000 in
theorem in_fao : loopsOf c_fao = [c_fai] := by kernel_rfl
theorem ltFa_good : LoopsGood Try.prog ltFa 1 c_fao := by
  intro i d hd s k t F H hlt ht
  rw [in_fao] at hd
  cases i with
  | zero =>
    obtain rfl : c_fai = d := by simpa using hd
    exact lg_fai s k t F H hlt ht
  | succ i => simp at hd
set_option maxRecDepth 100000 in
theorem round_fao (ps : List Pt) (h : ps.length ≤ 20) (hv : allV ps = true) : Round_fao ps := by
  rintro ⟨i, q⟩ ⟨h1, h2⟩
  rw [tr_fao]
  simp only [brT_ok, Tree.ok, decide_eq_true_eq, decide_eq_false_iff_not, Int.toNat_natCast, Nat.zero_add, flat_length, ptsA_flat]
  refine ⟨fun hlt => ?_, fun hge => ?_⟩
  · have hi : i < ps.length := by omega
    rw [wsucc (n := ps.length) hi (by omega)]
    have st := bsI_step (ps := ps) (i := i) hi q
    refine ⟨by first | trivial | omega, trivial, h, hv, by omega, by omega, h2, (i + 1, bsK ps i (i + 1) q), [], ⟨by omega, bsK_in hi h2⟩, ?_, rfl, by simp only [rs_fao, st], ?_⟩
    · show ps.length - (i + 1) < ps.length - i; omega
    · repeat' (first | exact True.intro | exact rfl | exact fun _ => rfl | refine And.intro ?_ ?_)
  · refine ⟨rfl, [], ?_⟩
    simp only [rs_fao, bsI_end (ps := ps) (i := i) (by omega)]
    repeat' (first | exact True.intro | exact rfl | exact fun _ => rfl | refine And.intro ?_ ?_)
set_option maxRecDepth 100000 in
theorem lg_fao : LoopE Try.prog e_fao c_fao := by
  intro s k t F H hlt ht
  unfold e_fao at hlt
  split at hlt
  rotate_left
  · cases hlt
  rename_i hlen hpick hmem
  obtain ⟨tmps, mem⟩ := s
  simp only at hlen hpick hmem
  subst hmem
  obtain rfl := Option.some.inj hlt
  obtain ⟨⟨rfl, rfl, rfl, h1, h2, h3, h4, _⟩, ht2⟩ := needs_ok ht
  clear ht hlt
  obtain ⟨ps, rfl, rfl⟩ := even_flat h1
  rw [ptsA_flat] at ht2 h3
  refine ⟨_, _, ht2, loop_run mixed E3_ok (s_fao ps) (inv_fao ps) (me_fao ps) re_fao (rs_fao ps) k_fao (fun _ => rfl) ltFa_good (round_fao ps h2 h3) (x := (0, (0, 0))) ⟨Nat.zero_le _, by unfold inI; simp only; omega⟩ (π := []) rfl ?_⟩
  refine ⟨rfl, rfl, ?_, wvs_spread' [0, 4, 5, 6] hlen rfl ?_⟩
  · repeat' (first | exact True.intro | exact rfl | exact wv_top _ _ | exact fun _ => rfl | assumption | exact Eq.symm (by assumption) | exact vI0 rfl | refine And.intro ?_ ?_)
  · rw [hpick]
    repeat' (first | exact True.intro | exact rfl | exact wv_top _ _ | exact fun _ => rfl | assumption | exact Eq.symm (by assumption) | exact vI0 rfl | refine And.intro ?_ ?_)
theorem Lr_fao {fn : Func} (hf : Try.prog.funcs[82]? = some fn) : LoopsGood Try.prog (lt1 e_fao) 0 (codeOf fn) := by
  obtain rfl := fn_is Try.func82 hf
  exact lt1_good lg_fao
noncomputable def c_fld : Code := ((loopsOf (codeOf Try.f87))[0]?).getD .skip
def k_fld : Ex → List Nat := keeps [1, 5, 6, 10, 11, 12] [(0, [5])] [4]
def s_fld (ps qs : List Pt) : Nat × Int × Int → St := fun (i, b, m) => ⟨(topV :: .func (.func 85) #[] #[.pointer (some ⟨1, 0, none⟩)] :: topV :: topV :: topV :: .int .i64 b :: .int .i64 m :: topV :: topV :: topV :: .slice (some ⟨2, 0, none⟩) qs.length qs.length :: .int .i64 qs.length :: .int .i64 i :: topV :: topV :: topV :: topV :: topV :: topV :: topV :: topV :: topV :: topV :: topV :: topV :: topV :: topV :: topV :: topV :: topV :: topV :: []), [some ⟨.view, .ints (flat ps)⟩, some ⟨.box, .vals [.slice (some ⟨0, 0, none⟩) ps.length ps.length]⟩, some ⟨.row 88 2, .ints (flat qs)⟩, none]⟩
def re_fld : Nat × Int × Int → Ex := fun _ => .exit 0
def rs_fld (ps qs : List Pt) : Nat × Int × Int → St := fun (i, b, m) => ⟨(topV :: topV :: topV :: topV :: topV :: .int .i64 (fl (dmV ps) qs i b) :: topV :: topV :: topV :: topV :: topV :: topV :: topV :: topV :: topV :: topV :: topV :: topV :: topV :: topV :: topV :: topV :: topV :: topV :: topV :: topV :: topV :: topV :: topV :: topV :: topV :: []), [some ⟨.view, .ints (flat ps)⟩, some ⟨.box, .vals [.slice (some ⟨0, 0, none⟩) ps.length ps.length]⟩, some ⟨.row 88 2, .ints (flat qs)⟩, none]⟩
set_option maxRecDepth 100000 in
theorem tr_fld (ps qs : List Pt) (i : Nat) (b m : Int) : bodyL Try.prog E3 30 12 noL 1 c_fld k_fld 4 (s_fld ps qs (i, b, m)) = brT (decide ((↑i : Int) < (↑qs.length : Int))) (.need ((0 : Int) ≤ (↑i : Int) ∧ (↑i : Int) < (↑qs.length : Int)) (.need ((0 : Nat) + (↑i : Int).toNat * (2 : Nat) + (2 : Nat) ≤ (flat qs).length) (brT (!(ptB ((flat ps).getD (0 + ((flat qs).getD (0 + (↑i : Int).toNat * 2) 0).toNat * 2) 0) ((flat ps).getD (0 + ((flat qs).getD (0 + (↑i : Int).toNat * 2) 0).toNat * 2 + 1) 0) && ptB ((flat ps).getD (0 + ((flat qs).getD (0 + (↑i : Int).toNat * 2 + 1) 0).toNat * 2) 0) ((flat ps).getD (0 + ((flat qs).getD (0 + (↑i : Int).toNat * 2 + 1) 0).toNat * 2 + 1) 0))) (.need ((0 : Int) ≤ (flat qs).getD ((0 : Nat) + (↑i : Int).toNat * (2 : Nat)) (0 : Int) ∧ (flat qs).getD ((0 : Nat) + (↑i : Int).toNat * (2 : Nat)) (0 : Int) < (↑ps.length : Int)) (.need ((0 : Nat) + ((flat qs).getD ((0 : Nat) + (↑i : Int).toNat * (2 : Nat)) (0 : Int)).toNat * (2 : Nat) + (2 : Nat) ≤ (flat ps).length) (.need ((0 : Int) ≤ (flat qs).getD ((0 : Nat) + (↑i : Int).toNat * (2 : Nat) + (1 : Nat)) (0 : Int) ∧ (flat qs).getD ((0 : Nat) + (↑i : Int).toNat * (2 : Nat) + (1 : Nat)) (0 : Int) < (↑ps.length : Int)) (.need ((0 : Nat) + ((flat qs).getD ((0 : Nat) + (↑i : Int).toNat * (2 : Nat) + (1 : Nat)) (0 : Int)).toNat * (2 : Nat) + (2 : Nat) ≤ (flat ps).length) (brT (decide (b < 0)) (.leaf .normal ⟨(topV :: .func (Fn.func 85) #[] #[.pointer (some ⟨1, 0, none⟩)] :: topV :: topV :: topV :: .int .i64 ((↑i : Int)) :: .int .i64 (-1) :: topV :: topV :: topV :: .slice (some ⟨2, 0, none⟩) (qs.length) (qs.length) :: .int .i64 ((↑qs.length : Int)) :: .int .i64 (IntKind.i64.wrap ((↑i : Int) + 1)) :: topV :: topV :: topV :: topV :: topV :: topV :: topV :: topV :: topV :: topV :: topV :: topV :: topV :: topV :: topV :: topV :: topV :: topV :: []), [some ⟨.view, .ints (flat ps)⟩, some ⟨.box, .vals [.slice (some ⟨0, 0, none⟩) (ps.length) (ps.length)]⟩, some ⟨.row 88 2, .ints (flat qs)⟩, none]⟩) (brT (decide (m < -1)) (.leaf .normal ⟨(topV :: .func (Fn.func 85) #[] #[.pointer (some ⟨1, 0, none⟩)] :: topV :: topV :: topV :: .int .i64 ((↑i : Int)) :: .int .i64 (-1) :: topV :: topV :: topV :: .slice (some ⟨2, 0, none⟩) (qs.length) (qs.length) :: .int .i64 ((↑qs.length : Int)) :: .int .i64 (IntKind.i64.wrap ((↑i : Int) + 1)) :: topV :: topV :: topV :: topV :: topV :: topV :: topV :: topV :: topV :: topV :: topV :: topV :: topV :: topV :: topV :: topV :: topV :: topV :: []), [some ⟨.view, .ints (flat ps)⟩, some ⟨.box, .vals [.slice (some ⟨0, 0, none⟩) (ps.length) (ps.length)]⟩, some ⟨.row 88 2, .ints (flat qs)⟩, none]⟩) (.leaf .normal ⟨(topV :: .func (Fn.func 85) #[] #[.pointer (some ⟨1, 0, none⟩)] :: topV :: topV :: topV :: .int .i64 (b) :: .int .i64 (m) :: topV :: topV :: topV :: .slice (some ⟨2, 0, none⟩) (qs.length) (qs.length) :: .int .i64 ((↑qs.length : Int)) :: .int .i64 (IntKind.i64.wrap ((↑i : Int) + 1)) :: topV :: topV :: topV :: topV :: topV :: topV :: topV :: topV :: topV :: topV :: topV :: topV :: topV :: topV :: topV :: topV :: topV :: topV :: []), [some ⟨.view, .ints (flat ps)⟩, some ⟨.box, .vals [.slice (some ⟨0, 0, none⟩) (ps.length) (ps.length)]⟩, some ⟨.row 88 2, .ints (flat qs)⟩, none]⟩))))))) (.need ((0 : Int) ≤ (flat qs).getD ((0 : Nat) + (↑i : Int).toNat * (2 : Nat)) (0 : Int) ∧ (flat qs).getD ((0 : Nat) + (↑i : Int).toNat * (2 : Nat)) (0 : Int) < (↑ps.length : Int)) (.need ((0 : Nat) + ((flat qs).getD ((0 : Nat) + (↑i : Int).toNat * (2 : Nat)) (0 : Int)).toNat * (2 : Nat) + (2 : Nat) ≤ (flat ps).length) (.need ((0 : Int) ≤ (flat qs).getD ((0 : Nat) + (↑i : Int).toNat * (2 : Nat) + (1 : Nat)) (0 : Int) ∧ (flat qs).getD ((0 : Nat) + (↑i : Int).toNat * (2 : Nat) + (1 : Nat)) (0 : Int) < (↑ps.length : Int)) (.need ((0 : Nat) + ((flat qs).getD ((0 : Nat) + (↑i : Int).toNat * (2 : Nat) + (1 : Nat)) (0 : Int)).toNat * (2 : Nat) + (2 : Nat) ≤ (flat ps).length) (brT (decide (b < 0)) (.leaf .normal ⟨(topV :: .func (Fn.func 85) #[] #[.pointer (some ⟨1, 0, none⟩)] :: topV :: topV :: topV :: .int .i64 ((↑i : Int)) :: .int .i64 (IntKind.i64.wrap (IntKind.i64.wrap (IntKind.i64.wrap ((flat ps).getD (0 + ((flat qs).getD (0 + (↑i : Int).toNat * 2) 0).toNat * 2) 0 - (flat ps).getD (0 + ((flat qs).getD (0 + (↑i : Int).toNat * 2 + 1) 0).toNat * 2) 0) * IntKind.i64.wrap ((flat ps).getD (0 + ((flat qs).getD (0 + (↑i : Int).toNat * 2) 0).toNat * 2) 0 - (flat ps).getD (0 + ((flat qs).getD (0 + (↑i : Int).toNat * 2 + 1) 0).toNat * 2) 0)) + IntKind.i64.wrap (IntKind.i64.wrap ((flat ps).getD (0 + ((flat qs).getD (0 + (↑i : Int).toNat * 2) 0).toNat * 2 + 1) 0 - (flat ps).getD (0 + ((flat qs).getD (0 + (↑i : Int).toNat * 2 + 1) 0).toNat * 2 + 1) 0) * IntKind.i64.wrap ((flat ps).getD (0 + ((flat qs).getD (0 + (↑i : Int).toNat * 2) 0).toNat * 2 + 1) 0 - (flat ps).getD (0 + ((flat qs).getD (0 + (↑i : Int).toNat * 2 + 1) 0).toNat * 2 + 1) 0)))) :: topV :: topV :: topV :: .slice (some ⟨2, 0, none⟩) (qs.length) (qs.length) :: .int .i64 ((↑qs.length : Int)) :: .int .i64 (IntKind.i64.wrap ((↑i : Int) + 1)) :: topV :: topV :: topV :: topV :: topV :: topV :: topV :: topV :: topV :: topV :: topV :: topV :: topV :: topV :: topV :: topV :: topV :: topV :: []), [some ⟨.view, .ints (flat ps)⟩, some ⟨.box, .vals [.slice (some ⟨0, 0, none⟩) (ps.length) (ps.length)]⟩, some ⟨.row 88 2, .ints (flat qs)⟩, none]⟩) (brT (decide (m < IntKind.i64.wrap (IntKind.i64.wrap (IntKind.i64.wrap ((flat ps).getD (0 + ((flat qs).getD (0 + (↑i : Int).toNat * 2) 0).toNat * 2) 0 - (flat ps).getD (0 + ((flat qs).getD (0 + (↑i : Int).toNat * 2 + 1) 0).toNat * 2) 0) * IntKind.i64.wrap ((flat ps).getD (0 + ((flat qs).getD (0 + (↑i : Int).toNat * 2) 0).toNat * 2) 0 - (flat ps).getD (0 + ((flat qs).getD (0 + (↑i : Int).toNat * 2 + 1) 0).toNat * 2) 0)) + IntKind.i64.wrap (IntKind.i64.wrap ((flat ps).getD (0 + ((flat qs).getD (0 + (↑i : Int).toNat * 2) 0).toNat * 2 + 1) 0 - (flat ps).getD (0 + ((flat qs).getD (0 + (↑i : Int).toNat * 2 + 1) 0).toNat * 2 + 1) 0) * IntKind.i64.wrap ((flat ps).getD (0 + ((flat qs).getD (0 + (↑i : Int).toNat * 2) 0).toNat * 2 + 1) 0 - (flat ps).getD (0 + ((flat qs).getD (0 + (↑i : Int).toNat * 2 + 1) 0).toNat * 2 + 1) 0))))) (.leaf .normal ⟨(topV :: .func (Fn.func 85) #[] #[.pointer (some ⟨1, 0, none⟩)] :: topV :: topV :: topV :: .int .i64 ((↑i : Int)) :: .int .i64 (IntKind.i64.wrap (IntKind.i64.wrap (IntKind.i64.wrap ((flat ps).getD (0 + ((flat qs).getD (0 + (↑i : Int).toNat * 2) 0).toNat * 2) 0 - (flat ps).getD (0 + ((flat qs).getD (0 + (↑i : Int).toNat * 2 + 1) 0).toNat * 2) 0) * IntKind.i64.wrap ((flat ps).getD (0 + ((flat qs).getD (0 + (↑i : Int).toNat * 2) 0).toNat * 2) 0 - (flat ps).getD (0 + ((flat qs).getD (0 + (↑i : Int).toNat * 2 + 1) 0).toNat * 2) 0)) + IntKind.i64.wrap (IntKind.i64.wrap ((flat ps).getD (0 + ((flat qs).getD (0 + (↑i : Int).toNat * 2) 0).toNat * 2 + 1) 0 - (flat ps).getD (0 + ((flat qs).getD (0 + (↑i : Int).toNat * 2 + 1) 0).toNat * 2 + 1) 0) * IntKind.i64.wrap ((flat ps).getD (0 + ((flat qs).getD (0 + (↑i : Int).toNat * 2) 0).toNat * 2 + 1) 0 - (flat ps).getD (0 + ((flat qs).getD (0 + (↑i : Int).toNat * 2 + 1) 0).toNat * 2 + 1) 0)))) :: topV :: topV :: topV :: .slice (some ⟨2, 0, none⟩) (qs.length) (qs.length) :: .int .i64 ((↑qs.length : Int)) :: .int .i64 (IntKind.i64.wrap ((↑i : Int) + 1)) :: topV :: topV :: topV :: topV :: topV :: topV :: topV :: topV :: topV :: topV :: topV :: topV :: topV :: topV :: topV :: topV :: topV :: topV :: []), [some ⟨.view, .ints (flat ps)⟩, some ⟨.box, .vals [.slice (some ⟨0, 0, none⟩) (ps.length) (ps.length)]⟩, some ⟨.row 88 2, .ints (flat qs)⟩, none]⟩) (.leaf .normal ⟨(topV :: .func (Fn.func 85) #[] #[.pointer (some ⟨1, 0, none⟩)] :: topV :: topV :: topV :: .int .i64 (b) :: .int .i64 (m) :: topV :: topV :: topV :: .slice (some ⟨2, 0, none⟩) (qs.length) (qs.length) :: .int .i64 ((↑qs.length : Int)) :: .int .i64 (IntKind.i64.wrap ((↑i : Int) + 1)) :: topV :: topV :: topV :: topV :: topV :: topV :: topV :: topV :: topV :: topV :: topV :: topV :: topV :: topV :: topV :: topV :: topV :: topV :: []), [some ⟨.view, .ints (flat ps)⟩, some ⟨.box, .vals [.slice (some ⟨0, 0, none⟩) (ps.length) (ps.length)]⟩, some ⟨.row 88 2, .ints (flat qs)⟩, none]⟩)))))))))) (.leaf (.exit 0) ⟨(topV :: topV :: topV :: topV :: topV :: .int .i64 (b) :: topV :: topV :: topV :: topV :: topV :: topV :: topV :: topV :: topV :: topV :: topV :: topV :: topV :: topV :: topV :: topV :: topV :: topV :: topV :: topV :: topV :: topV :: topV :: topV :: topV :: []), [some ⟨.view, .ints (flat ps)⟩, some ⟨.box, .vals [.slice (some ⟨0, 0, none⟩) (ps.length) (ps.length)]⟩, some ⟨.row 88 2, .ints (flat qs)⟩, none]⟩) := by kernel_rfl
set_option maxRecDepth 100000 in
theorem nl_fld : loopsOf c_fld = [] := by kernel_rfl
def inv_fld (ps qs : List Pt) : Nat × Int × Int → Prop := fun (i, b, m) => i ≤ qs.length ∧ (b = -1 ∨ 0 ≤ b ∧ b < i ∧ m = dmV ps (qs.getD b.toNat (0, 0)))
def me_fld (ps qs : List Pt) : Nat × Int × Int → Nat := fun (i, b, m) => qs.length - i
/-- A round of this loop. -/
def Round_fld (ps qs : List Pt) : Prop := ∀ xx : Nat × Int × Int, inv_fld ps qs xx → (bodyL Try.prog E3 30 12 noL 1 c_fld k_fld 4 (s_fld ps qs xx)).ok (RoundEnd 4 (s_fld ps qs) (inv_fld ps qs) (me_fld ps qs) re_fld (rs_fld ps qs) xx) (fun _ _ => False)
def e_fld (s : St) (k : Ex → St → Tree) : Option Tree := match Nat.beq s.tmps.length 31, pickL s.tmps [1, 5, 6, 10, 11, 12], s.mem with
  | true, [.func (.func 85) ⟨[]⟩ ⟨[.pointer (some ⟨1, 0, none⟩)]⟩, .int .i64 b, .int .i64 mm, .slice (some ⟨2, 0, none⟩) m _, .int .i64 l, .int .i64 i], [some ⟨.view, .ints xs⟩, some ⟨.box, .vals [.slice (some ⟨0, 0, none⟩) n _]⟩, some ⟨.row 88 2, .ints ys⟩, none] => some (needs [i = 0, b = -1, mm = 0, l = m, xs.length = n * 2, n ≤ 20, allV (ptsA n xs) = true, ys.length = m * 2, m ≤ 1000000000, ∀ q ∈ ptsA m ys, inI n q] (k (.exit 0) ⟨(topV :: topV :: topV :: topV :: topV :: .int .i64 (fl (dmV (ptsA n xs)) (ptsA m ys) 0 (-1)) :: topV :: topV :: topV :: topV :: topV :: topV :: topV :: topV :: topV :: topV :: topV :: topV :: topV :: topV :: topV :: topV :: topV :: topV :: topV :: topV :: topV :: topV :: topV :: topV :: topV :: []), [some ⟨.view, .ints xs⟩, some ⟨.box, .vals [.slice (some ⟨0, 0, none⟩) n n]⟩, some ⟨.row 88 2, .ints ys⟩, none]⟩))
  | _, _, _ => none
set_option maxRecDepth 100000 in
theorem round_fld (ps qs : List Pt) (h : ps.length ≤ 20) (hv : allV ps = true) (g2 : qs.length ≤ 1000000000) (g3 : ∀ q ∈ qs, inI ps.length q) : Round_fld ps qs := by
  rintro ⟨i, b, m⟩ ⟨h1, h2⟩
  rw [tr_fld]
  simp only [Int.toNat_natCast, Nat.zero_add, flat_length, flat_get0, flat_get1]
  refine brT_ok.2 ⟨fun hlt => ?_, fun hge => ?_⟩
  · have hlt := of_decide_eq_true hlt
    have hi : i < qs.length := by omega
    have hq := g3 (qs.getD i (0, 0)) (by simp [hi])
    rw [wsucc (n := qs.length) hi g2]
    have hf0 : dmV ps (qs.getD i (0, 0)) = sq (ps.getD (qs.getD i (0, 0)).1.toNat (0, 0)) (ps.getD (qs.getD i (0, 0)).2.toNat (0, 0)) := rfl
    have new : fl (dmV ps) qs i b = fl (dmV ps) qs (i + 1) i → RoundEnd 4 (s_fld ps qs) (inv_fld ps qs) (me_fld ps qs) re_fld (rs_fld ps qs) (i, b, m) .normal (s_fld ps qs (i + 1, i, dmV ps (qs.getD i (0, 0)))) := fun e => by
      refine ⟨(i + 1, i, dmV ps (qs.getD i (0, 0))), [], ⟨by omega, .inr ⟨by omega, by omega, by rw [Int.toNat_natCast]⟩⟩, ?_, rfl, by simp only [rs_fld]; rw [e], ?_⟩
      · show qs.length - (i + 1) < qs.length - i; omega
      · repeat' (first | exact True.intro | exact rfl | exact fun _ => rfl | refine And.intro ?_ ?_)
    have f1 := fl_first (f := dmV ps) (ps := qs) (i := i) hi (b := b)
    have f2 := fl_yes (f := dmV ps) (ps := qs) (i := i) hi (b := b)
    have f3 := fl_no (f := dmV ps) (ps := qs) (i := i) hi (b := b)
    generalize qs.getD i (0, 0) = p at *
    obtain ⟨q1, q2, q3, q4⟩ := hq
    obtain ⟨x, y⟩ := p
    simp only at q1 q2 q3 q4
    obtain ⟨u, rfl⟩ := Int.eq_ofNat_of_zero_le q1
    obtain ⟨v, rfl⟩ := Int.eq_ofNat_of_zero_le q3
    simp only [Int.toNat_natCast] at hf0
    have b1 := allV_get hv u
    have b2 := allV_get hv v
    have t1 : ptB (ps.getD u (0, 0)).1 (ps.getD u (0, 0)).2 = true := by simpa [ptB] using b1
    have t2 : ptB (ps.getD v (0, 0)).1 (ps.getD v (0, 0)).2 = true := by simpa [ptB] using b2
    have m1 := mul_bd (x := (ps.getD u (0, 0)).1 - (ps.getD v (0, 0)).1) (y := (ps.getD u (0, 0)).1 - (ps.getD v (0, 0)).1) 2000 2000 (by omega) (by omega)
    have m2 := mul_bd (x := (ps.getD u (0, 0)).2 - (ps.getD v (0, 0)).2) (y := (ps.getD u (0, 0)).2 - (ps.getD v (0, 0)).2) 2000 2000 (by omega) (by omega)
    simp only [Int.toNat_natCast, flat_get0, flat_get1, t1, t2, Bool.and_self, Bool.not_true, brT_f]
    simp (disch := omega) only [wr]
    have hf : dmV ps ((u : Int), (v : Int)) = ((ps.getD u (0, 0)).1 - (ps.getD v (0, 0)).1) * ((ps.getD u (0, 0)).1 - (ps.getD v (0, 0)).1) + ((ps.getD u (0, 0)).2 - (ps.getD v (0, 0)).2) * ((ps.getD u (0, 0)).2 - (ps.getD v (0, 0)).2) := hf0
    rw [← hf]
    simp only [brT_ok, Tree.ok, decide_eq_true_eq, decide_eq_false_iff_not]
    repeat refine And.intro (by first | omega | exact ⟨by omega, by omega⟩) ?_
    refine ⟨fun hb => new (f1 hb), fun hb => ?_⟩
    obtain ⟨g1, g2, g3⟩ := h2.resolve_left (by omega)
    refine ⟨fun hle => new (f2 g1 (by rw [← g3]; exact hle)), fun hle => ?_⟩
    refine ⟨(i + 1, b, m), [], ⟨by omega, .inr ⟨by omega, by omega, g3⟩⟩, ?_, rfl, by simp only [rs_fld]; rw [f3 g1 (by rw [← g3]; exact hle)], ?_⟩
    · show qs.length - (i + 1) < qs.length - i; omega
    · repeat' (first | exact True.intro | exact rfl | exact fun _ => rfl | refine And.intro ?_ ?_)
  · have hge := of_decide_eq_false hge
    refine ⟨rfl, [], ?_⟩
    simp only [rs_fld, fl_end (f := dmV ps) (ps := qs) (i := i) (by omega) (b := b) (h2.imp id fun h => h.1)]
    repeat' (first | exact True.intro | exact rfl | exact fun _ => rfl | refine And.intro ?_ ?_)
set_option maxRecDepth 100000 in
theorem lg_fld : LoopE Try.prog e_fld c_fld := by
  intro s k t F H hlt ht
  unfold e_fld at hlt
  split at hlt
  rotate_left
  · cases hlt
  rename_i hlen hpick hmem
  obtain ⟨tmps, mem⟩ := s
  simp only at hlen hpick hmem
  subst hmem
  obtain rfl := Option.some.inj hlt
  obtain ⟨⟨rfl, rfl, rfl, rfl, h1, h3, h4, g1, g2, g3, _⟩, ht2⟩ := needs_ok ht
  clear ht hlt
  obtain ⟨ps, rfl, rfl⟩ := even_flat h1
  obtain ⟨qs, rfl, rfl⟩ := even_flat g1
  rw [ptsA_flat] at ht2 h4 g3
  rw [ptsA_flat] at ht2
  refine ⟨_, _, ht2, loop_run mixed E3_ok (s_fld ps qs) (inv_fld ps qs) (me_fld ps qs) re_fld (rs_fld ps qs) k_fld (fun _ => rfl) (noLoops nl_fld) (round_fld ps qs h3 h4 g2 g3) (x := (0, -1, 0)) ⟨Nat.zero_le _, .inl rfl⟩ (π := []) rfl ?_⟩
  refine ⟨rfl, rfl, ?_, wvs_spread' [1, 5, 6, 10, 11, 12] hlen rfl ?_⟩
  · repeat' (first | exact True.intro | exact rfl | exact wv_top _ _ | exact fun _ => rfl | assumption | exact Eq.symm (by assumption) | exact vI0 rfl | refine And.intro ?_ ?_)
  · rw [hpick]
    repeat' (first | exact True.intro | exact rfl | exact wv_top _ _ | exact fun _ => rfl | assumption | exact Eq.symm (by assumption) | exact vI0 rfl | refine And.intro ?_ ?_)
theorem Lr_fld {fn : Func} (hf : Try.prog.funcs[87]? = some fn) : LoopsGood Try.prog (lt1 e_fld) 0 (codeOf fn) := by
  obtain rfl := fn_is Try.func87 hf
  exact lt1_good lg_fld
end Go.Proofs.Ytnjmepbblcfnfaa
namespace Go.Proofs.Ytnjmepbblcfnfaa
set_option linter.all false
open Go.RowKit
/-- A value with its names counted anew. -/
def canA (ns : List Nat) : Value → Option (Value × List Nat)
  | .pointer (some ⟨n, o, none⟩) => some (.pointer (some ⟨ns.length, o, none⟩), ns ++ [n])
  | .slice (some ⟨n, 0, none⟩) l _ => some (.slice (some ⟨ns.length, 0, none⟩) l l, ns ++ [n])
  | v => match plainV v with
    | true => some (v, ns)
    | false => none
def canL (ns : List Nat) : List Value → Option (List Value × List Nat)
  | [] => some ([], ns)
  | v :: r => match canA ns v with
    | some (v', ns1) => (match canL ns1 r with
      | some (r', ns2) => some (v' :: r', ns2)
      | none => none)
    | none => none
def canV (ns : List Nat) : Value → Option (Value × List Nat)
  | .func fn ⟨[]⟩ ⟨c⟩ => match canL ns c with
    | some (c', ns1) => some (.func fn ⟨[]⟩ ⟨c'⟩, ns1)
    | none => none
  | v => canA ns v
def canVs (ns : List Nat) : List Value → Option (List Value × List Nat)
  | [] => some ([], ns)
  | v :: r => match canV ns v with
    | some (v', ns1) => (match canVs ns1 r with
      | some (r', ns2) => some (v' :: r', ns2)
      | none => none)
    | none => none
/-- The blocks of names, and of the names that lie in them. -/
def rdMem : Nat → Nat → List Nat → List Cs → Rd (List Nat × List Cs)
  | 0, _, _, _ => .fail
  | q + 1, i, ns, css => match ns[i]? with
    | none => .ret (ns, css)
    | some n => .blk n fun b => match b with
      | some b => (match b.live with
        | true => (match b.cs with
          | .vals l => (match canVs ns l with
            | some (l', ns') => rdMem q (i + 1) ns' (css ++ [.vals l'])
            | none => .fail)
          | cs => rdMem q (i + 1) ns (css ++ [cs]))
        | false => .fail)
      | none => .fail
/-- What a function answers: its arguments and the cells of the blocks that they name, counted anew. -/
abbrev PSpec := List Value → List Cs → Option (Value × List Prop)
def rfG (sp : PSpec) (args : List Value) : Rd Eff := match canVs [] args with
  | some (zs, ns) => (rdMem 20 0 ns []).bind fun r => (match sp zs r.2 with
    | some (v, C) => .ret ⟨v, [], C⟩
    | none => .fail)
  | none => .fail
def PSpecOk (P : Program) (f : FuncId) (sp : PSpec) : Prop := ∀ zs css v C, sp zs css = some (v, C) → AllP C → ∃ (E : Env) (m n : Nat), EnvOk P E ∧ plainV v = true ∧
  (bodyM P E (runM P E m n) m f zs (css.map fun cs => some ⟨.view, cs⟩) .fin).ok (fun _ _ => False) (fun u _ => u = v)
/-- The one value is the other with its names counted anew. -/
def Ren (ns : List Nat) (v v' : Value) : Prop := ∀ (ρ ρs : Nat → Option Pl) (x : Value), (∀ (k : Nat) n, ns[k]? = some n → ρs k = ρ n) → VR ρ v x → VR ρs v' x
theorem Ren.mono {ns t : List Nat} {v v' : Value} (h : Ren ns v v') : Ren (ns ++ t) v v' := fun ρ ρs x hk => h ρ ρs x fun k n hn => hk k n (by
  rw [List.getElem?_append_left (by
    have := List.getElem?_eq_some_iff.1 hn
    exact this.1)]
  exact hn)
theorem ren_plain {ns : List Nat} {v : Value} (h : plainV v = true) : Ren ns v v := fun ρ ρs x _ hx => by
  rw [hx.plain h]
  exact .lit h
theorem canA_ok {ns ns1 : List Nat} {v v' : Value} (h : canA ns v = some (v', ns1)) : ∃ t, ns1 = ns ++ t ∧ Ren ns1 v v' := by
  unfold canA at h
  split at h
  · rename_i n o
    obtain ⟨rfl, rfl⟩ : _ ∧ _ := by simpa using h
    refine ⟨[n], rfl, fun ρ ρs x hk hx => ?_⟩
    obtain ⟨g, f, cp, h1, h2, rfl⟩ := hx.ptr_inv
    exact .ptr ((hk ns.length n (by simp)).trans h1) h2
  · rename_i n l c
    obtain ⟨rfl, rfl⟩ : _ ∧ _ := by simpa using h
    exact ⟨[n], rfl, fun ρ ρs x hk hx => vr_ren (hk ns.length n (by simp)) hx⟩
  · split at h
    · rename_i hp
      obtain ⟨rfl, rfl⟩ : _ ∧ _ := by simpa using h
      exact ⟨[], by simp, ren_plain hp⟩
    · cases h
def RenL (ns : List Nat) (l l' : List Value) : Prop := l.length = l'.length ∧ ∀ (k : Nat) v v', l[k]? = some v → l'[k]? = some v' → Ren ns v v'
theorem RenL.mono {ns t : List Nat} {l l' : List Value} (h : RenL ns l l') : RenL (ns ++ t) l l' := ⟨h.1, fun k v v' h1 h2 => (h.2 k v v' h1 h2).mono⟩
theorem RenL.cons {ns : List Nat} {l l' : List Value} {v v' : Value} (hv : Ren ns v v') (h : RenL ns l l') : RenL ns (v :: l) (v' :: l') := by
  refine ⟨by simp [h.1], fun k u u' h1 h2 => ?_⟩
  cases k with
  | zero =>
    obtain rfl : v = u := by simpa using h1
    obtain rfl : v' = u' := by simpa using h2
    exact hv
  | succ k => exact h.2 k u u' (by simpa using h1) (by simpa using h2)
theorem canL_ok : ∀ {l l' : List Value} {ns ns1 : List Nat}, canL ns l = some (l', ns1) → ∃ t, ns1 = ns ++ t ∧ RenL ns1 l l'
  | [], l', ns, ns1, h => by
    obtain ⟨rfl, rfl⟩ : _ ∧ _ := by simpa [canL] using h
    exact ⟨[], by simp, rfl, fun k v v' h1 _ => by simp at h1⟩
  | v :: r, l', ns, ns1, h => by
    simp only [canL] at h
    split at h
    rotate_left
    · cases h
    rename_i v' ns2 h1
    split at h
    rotate_left
    · cases h
    rename_i r' ns3 h2
    obtain ⟨rfl, rfl⟩ : _ ∧ _ := by simpa using h
    obtain ⟨t1, rfl, k1⟩ := canA_ok h1
    obtain ⟨t2, rfl, k2⟩ := canL_ok h2
    exact ⟨t1 ++ t2, by simp, k2.cons k1.mono⟩
theorem canV_ok {ns ns1 : List Nat} {v v' : Value} (h : canV ns v = some (v', ns1)) : ∃ t, ns1 = ns ++ t ∧ Ren ns1 v v' := by
  unfold canV at h
  split at h
  · rename_i fn c
    split at h
    rotate_left
    · cases h
    rename_i c' ns2 h1
    obtain ⟨rfl, rfl⟩ : _ ∧ _ := by simpa using h
    obtain ⟨t, rfl, hl, hr⟩ := canL_ok h1
    refine ⟨t, rfl, fun ρ ρs x hk hx => ?_⟩
    obtain ⟨f', c2, rfl, hf, hc⟩ := hx.func_inv
    refine .func (by simpa using hf.1) (by simpa [← hl] using hc.1) (fun i u u' h1 _ => by simp at h1) fun i u u' h1 h2 => ?_
    have h1 : c'[i]? = some u := by simpa using h1
    have hi : i < c.length := by
      have := (List.getElem?_eq_some_iff.1 h1).1
      omega
    obtain ⟨u0, h0⟩ : ∃ u0, c[i]? = some u0 := ⟨c[i], by simp [hi]⟩
    exact hr i u0 u h0 h1 ρ ρs u' hk (hc.2 i u0 u' (by simpa using h0) h2)
  · exact canA_ok h
theorem canVs_ok : ∀ {l l' : List Value} {ns ns1 : List Nat}, canVs ns l = some (l', ns1) → ∃ t, ns1 = ns ++ t ∧ RenL ns1 l l'
  | [], l', ns, ns1, h => by
    obtain ⟨rfl, rfl⟩ : _ ∧ _ := by simpa [canVs] using h
    exact ⟨[], by simp, rfl, fun k v v' h1 _ => by simp at h1⟩
  | v :: r, l', ns, ns1, h => by
    simp only [canVs] at h
    split at h
    rotate_left
    · cases h
    rename_i v' ns2 h1
    split at h
    rotate_left
    · cases h
    rename_i r' ns3 h2
    obtain ⟨rfl, rfl⟩ : _ ∧ _ := by simpa using h
    obtain ⟨t1, rfl, k1⟩ := canV_ok h1
    obtain ⟨t2, rfl, k2⟩ := canVs_ok h2
    exact ⟨t1 ++ t2, by simp, k2.cons k1.mono⟩
/-- So many blocks have been read. -/
def Red (s : FS) (ns : List Nat) (css : List Cs) (i : Nat) : Prop := css.length = i ∧ ∀ (j : Nat) cs, css[j]? = some cs → ∃ n b, ns[j]? = some n ∧ s.blk n = some b ∧ b.live = true ∧ RenL ns b.cells cs.list
theorem Red.mono {s : FS} {ns t : List Nat} {css : List Cs} {i : Nat} (h : Red s ns css i) : Red s (ns ++ t) css i := ⟨h.1, fun j cs hj => by
  obtain ⟨n, b, h1, h2, h3, h4⟩ := h.2 j cs hj
  refine ⟨n, b, ?_, h2, h3, h4.mono⟩
  rw [List.getElem?_append_left (List.getElem?_eq_some_iff.1 h1).1]
  exact h1⟩
theorem Red.snoc {s : FS} {ns : List Nat} {css : List Cs} {i : Nat} (h : Red s ns css i) {n : Nat} {b : Blk} {cs : Cs} (h1 : ns[i]? = some n) (h2 : s.blk n = some b) (h3 : b.live = true) (h4 : RenL ns b.cells cs.list) : Red s ns (css ++ [cs]) (i + 1) := by
  refine ⟨by simp [h.1], fun j cs' hj => ?_⟩
  rw [List.getElem?_append] at hj
  split at hj
  · exact h.2 j cs' hj
  · rename_i hlt
    have hlt' : j < css.length + 1 := by
      have := (List.getElem?_eq_some_iff.1 hj).1
      simp at this
      omega
    obtain rfl : j = i := by have := h.1; omega
    have hz : j - css.length = 0 := by have := h.1; omega
    rw [hz] at hj
    obtain rfl : cs = cs' := by simpa using hj
    exact ⟨n, b, h1, h2, h3, h4⟩
theorem renL_self {ns : List Nat} {l : List Value} (h : ∀ v ∈ l, plainV v = true) : RenL ns l l := ⟨rfl, fun k v v' h1 h2 => by
  rw [h1] at h2
  obtain rfl : v = v' := by simpa using h2
  exact ren_plain (h v (List.mem_of_getElem? h1))⟩
theorem rdMem_ok {s : FS} : ∀ (q i : Nat) {ns : List Nat} {css : List Cs} {F : List Nat} {D : List Cs}, (rdMem q i ns css).run s = some (F, D) → Red s ns css i → ∃ t, F = ns ++ t ∧ Red s F D F.length
  | 0, i, ns, css, F, D, h, _ => by simp [rdMem, Rd.run] at h
  | q + 1, i, ns, css, F, D, h, hr => by
    simp only [rdMem] at h
    split at h
    · rename_i hn
      obtain ⟨rfl, rfl⟩ : _ ∧ _ := by simpa [Rd.run] using h
      refine ⟨[], by simp, ?_⟩
      have hle : ns.length ≤ i := by simpa using hn
      have hge : i ≤ ns.length := by
        rcases Nat.eq_zero_or_pos i with h0 | h0
        · omega
        · obtain ⟨n, b, h1, _⟩ := hr.2 (i - 1) (css[i - 1]'(by have := hr.1; omega)) (by simp)
          have := (List.getElem?_eq_some_iff.1 h1).1
          omega
      have e : ns.length = i := by omega
      rw [e]
      exact hr
    · rename_i n hn
      simp only [Rd.run] at h
      split at h
      rotate_left
      · simp [Rd.run] at h
      rename_i b hb
      split at h
      rotate_left
      · simp [Rd.run] at h
      rename_i hl
      split at h
      · rename_i l hcs
        split at h
        rotate_left
        · simp [Rd.run] at h
        rename_i l' ns' hc
        obtain ⟨t1, rfl, k1⟩ := canVs_ok hc
        have hn' : (ns ++ t1)[i]? = some n := by
          rw [List.getElem?_append_left (List.getElem?_eq_some_iff.1 hn).1]
          exact hn
        obtain ⟨t2, rfl, k2⟩ := rdMem_ok q (i + 1) h (hr.mono.snoc hn' hb hl (cs := .vals l') (by unfold Blk.cells; rw [hcs]; exact k1))
        exact ⟨t1 ++ t2, by simp, k2⟩
      · rename_i cs hcs
        have hp : ∀ v ∈ b.cells, plainV v = true := by
          intro v hv
          unfold Blk.cells at hv
          generalize b.cs = c at *
          cases c with
          | vals l => exact absurd rfl (hcs l)
          | ints xs =>
            obtain ⟨y, _, rfl⟩ := List.mem_map.1 hv
            rfl
          | bytes xs =>
            obtain ⟨y, _, rfl⟩ := List.mem_map.1 hv
            rfl
        obtain ⟨t2, rfl, k2⟩ := rdMem_ok q (i + 1) h (hr.snoc hn hb hl (renL_self hp))
        exact ⟨t2, rfl, k2⟩
theorem live_place {ρ : Nat → Option Pl} {B : Nat → Prop} {w : World} {n : Nat} {b : Blk} (h : BlkOk ρ B w n b) (hl : b.live = true) : (∃ p, ρ n = some p ∧ nilPl p) ∨ ∃ g f cp, ρ n = some (g, f, cp) ∧ okPl f cp := by
  obtain ⟨kd, cs⟩ := b
  cases kd with
  | dead => cases hl
  | view =>
    rcases h with h | ⟨g, f, cp, h1, h2, _⟩
    · exact .inl h
    · exact .inr ⟨g, f, cp, h1, h2⟩
  | box =>
    obtain ⟨g, h1, _⟩ := h
    exact .inr ⟨g, 0, none, h1, .inl rfl⟩
  | row e sz =>
    rcases h with ⟨p, h1, h2, h3⟩ | ⟨g, cap, h1, _⟩
    · exact .inl ⟨p, h1, h2, 0, h3⟩
    · exact .inr ⟨g, 0, some cap, h1, .inl rfl⟩
theorem rfG_calls {P : Program} (hmx : P.follows .mixedOrders = true) {f : FuncId} {sp : PSpec} (hsp : PSpecOk P f sp) {args : List Value} {s : FS} {eff : Eff} (hr : (rfG sp args).run s = some eff)
    {B : Nat → Prop} {ρ0 ρ : Nat → Option Pl} {w : World} {args' : Array Value} (ha : VRs ρ args args') (hm : MemOk ρ0 ρ B s.blk w) (hB : ∀ k, B k → k < w.heap.size) (hcond : eff.cond) :
    Calls P f args' w fun e w' => ∃ v' ρ', e = .returned v' ∧ Ext ρ ρ' ∧ VR ρ' eff.val v' ∧ BelowK B w w' ∧ MemOk ρ0 ρ' B (s.upd none eff).blk w' := by
  unfold rfG at hr
  split at hr
  rotate_left
  · simp [Rd.run] at hr
  rename_i zs ns0 hc
  obtain ⟨⟨F, D⟩, h1, h2⟩ := bind_some hr
  split at h2
  rotate_left
  · simp [Rd.run] at h2
  rename_i v C hs
  obtain rfl : (⟨v, [], C⟩ : Eff) = eff := by simpa [Rd.run] using h2
  obtain ⟨t0, e0, k0⟩ := canVs_ok hc
  obtain ⟨t1, e1, hD, hR⟩ := rdMem_ok _ _ h1 ⟨rfl, fun j cs hj => by simp at hj⟩
  have k1 : RenL F args zs := by rw [e1]; exact k0.mono
  clear h1 h2 hr hc k0
  obtain ⟨E, m, n, hE, hv, ht⟩ := hsp _ _ _ _ hs hcond
  obtain ⟨u, mem', rfl, _, hdet⟩ := bodyM_ok hE hmx (runM_ok hmx hE m n) m f _ _ _ _ _ ht
  let ρs : Nat → Option Pl := fun k => (F[k]?).bind ρ
  have hk : ∀ (k : Nat) n, F[k]? = some n → ρs k = ρ n := fun k n h => by
    show (F[k]?).bind ρ = ρ n
    rw [h]
    rfl
  have hmem : MemOk (fun _ => none) ρs (fun k => k < w.heap.size) (fun k => (D.map fun cs => some (⟨.view, cs⟩ : Blk)).getD k none) w := by
    refine ⟨fun k q hq => by simp at hq, fun k hz => ?_, fun k b hb => ?_, fun k k' b b2 q q' hz hown _ _ _ _ _ _ _ => ?_⟩
    · have hz : D.length ≤ k := by
        rcases Nat.lt_or_ge k D.length with hlt | hge
        · simp [List.getD, hlt] at hz
        · exact hge
      show (F[k]?).bind ρ = none
      rw [List.getElem?_eq_none (by omega)]
      rfl
    · have hlt : k < D.length := by
        rcases Nat.lt_or_ge k D.length with hlt | hge
        · exact hlt
        · simp [List.getD, hge] at hb
      have hb : (⟨.view, D[k]⟩ : Blk) = b := by simpa [List.getD, hlt] using hb
      obtain ⟨n0, b0, q1, q2, q3, q4⟩ := hR k D[k] (by simp [hlt])
      rw [← hb]
      have hbo := hm.ok n0 b0 q2
      rcases live_place hbo q3 with ⟨p, p1, p2⟩ | ⟨g, fo, cp, p1, p2⟩
      · exact .inl ⟨p, (hk k n0 q1).trans p1, p2⟩
      · obtain ⟨c1, c2⟩ := live_cell hbo q3 p1 p2
        refine .inr ⟨g, fo, cp, (hk k n0 q1).trans p1, p2, c1, fun j v' hj => ?_⟩
        have hj : D[k].list[j]? = some v' := hj
        have hl : j < b0.cells.length := by
          have := (List.getElem?_eq_some_iff.1 hj).1
          have := q4.1
          omega
        obtain ⟨x, d1, d2⟩ := c2 j b0.cells[j] (by simp [hl])
        exact ⟨x, d1, q4.2 j b0.cells[j] v' (by simp [hl]) hj ρ ρs x hk d2⟩
    · have hlt : k < D.length := by
        rcases Nat.lt_or_ge k D.length with hlt | hge
        · exact hlt
        · simp [List.getD, hge] at hz
      have hz : (⟨.view, D[k]⟩ : Blk) = b := by simpa [List.getD, hlt] using hz
      rw [← hz] at hown
      cases hown
  have hargs : VRs ρs zs args' := ⟨by rw [← k1.1]; exact ha.1, fun i a x hi hx => by
    have hl : i < args.length := by
      have := (List.getElem?_eq_some_iff.1 hi).1
      have := k1.1
      omega
    exact k1.2 i args[i] a (by simp [hl]) hi ρ ρs x hk (ha.2 i args[i] x (by simp [hl]) hx)⟩
  refine (hdet ⟨w, fun _ => none, fun k => k < w.heap.size, fun k h => h, [], none⟩ ρs args' w hargs hmem (BelowK.refl _ _)).mono ?_
  rintro e2 w' ⟨v', ρ', rfl, _, hvv, hbel, _⟩
  have hb := hbel.to
  refine ⟨v', ρ, rfl, Ext.refl ρ, by rw [hvv.plain hv]; exact .lit hv, ⟨hbel.os, hbel.tape, hbel.output, hbel.size, fun k hkB => hbel.block k (hB k hkB)⟩, hm.keep hb⟩
theorem consJ_rf {P : Program} (hmx : P.follows .mixedOrders = true) {J : TabJ} (hJ : GSound P J.g) {f : FuncId} {sp : PSpec} (hent : enters P f) (hsp : PSpecOk P f sp) : GSound P (consJ f (fun _ => rfG sp) J).g := by
  intro h name args s eff hr hn
  simp only [consJ] at hr
  split at hr
  rotate_left
  · exact hJ h name args s eff hr hn
  rename_i heq
  obtain rfl := Nat.eq_of_beq_eq_true heq
  exact ⟨hent, fun B ρ0 ρ w args' ha hm hB hcond => rfG_calls hmx hsp hr ha hm hB hcond⟩
end Go.Proofs.Ytnjmepbblcfnfaa
