/-
  Texts that the proof needs, merged. Written by an AI agent.
-/
import Derived.Orders
import Derived.Below
import Derived.OrdersIn
import Derived.Deep.LoopGhost
import Derived.WalkKit
import Derived.Laws.CopyRow
import Derived.Laws.AppendOwn
import Derived.Laws.Slices
import Derived.Laws.MakeOwn
import Derived.Test.YtolodncpegajkabRows
import Derived.ProofKit
import Derived.OpenShut
import Derived.Carry
import Derived.IntWalk
import Derived.Test.YtolodncpegajkabProg
import Derived.WalkSpells
import Derived.WalkLawsBesides
import Derived.Lib.Hide
import Derived.Deep.QuietTactic
import Derived.BigQuiet
import Derived.KernelRfl
import Derived.Deep.RegionHeld3
import Derived.LoopTactic
import Derived.Laws.StructEq
import Derived.Laws.Tables
import Derived.RangeFuncNested
import Derived.RangeFuncLeaves
import Derived.Deep.Slices
import Derived.Deep.Fields
import Derived.ChangeSame
import Derived.Shelf.SlSortCmp.WholeK
import Derived.Sort.Grow
import Derived.Deep.DeepCutAuto
import Derived.Shelf.SlSortCmp.NoneTotal
import Derived.Test.YtolodncpegajkabZUpperEnvelope5
namespace Go.Proofs.Ytolodncpegajkab
set_option linter.all false
open Go.RowKit
theorem flatR (o : List Pt) : List.take (o.length * 2) (List.drop 0 (flat o)) = flat o := by rw [List.drop_zero, flat_all]
def ERv : Env := tabE B0
theorem ERv_ok : EnvOk Try.prog ERv := tabE_ok B0_ok
/-- So many are exchanged at both ends. -/
def rvI (ps X : List Pt) (i : Nat) : Prop := X.length = ps.length ∧ ∀ k, k < ps.length → X.getD k (0, 0) = if k < i ∨ ps.length - 1 - k < i then ps.getD (ps.length - 1 - k) (0, 0) else ps.getD k (0, 0)
theorem rv_end {ps X : List Pt} {i : Nat} (h : rvI ps X i) (hi : ps.length ≤ 2 * i + 1) : X = ps.reverse := by
  refine ext_getD (by simp [h.1]) fun k hk => ?_
  rw [h.1] at hk
  rw [h.2 k hk, getD_rev hk]
  split
  · rfl
  · congr 1
    omega
theorem getD_set' (X : List Pt) (i k : Nat) (z : Pt) (h : i < X.length) : (X.set i z).getD k (0, 0) = if k = i then z else X.getD k (0, 0) := by
  simp only [List.getD, List.getElem?_set]
  by_cases e : i = k
  · subst e; simp [h]
  · simp [e, Ne.symm e]
theorem rv_step {ps X : List Pt} {i : Nat} (h : rvI ps X i) (hi : 2 * i + 1 < ps.length) : rvI ps ((X.set i (X.getD (ps.length - 1 - i) (0, 0))).set (ps.length - 1 - i) (X.getD i (0, 0))) (i + 1) := by
  refine ⟨by simp [h.1], fun k hk => ?_⟩
  rw [getD_set' _ _ _ _ (by simp [h.1]; omega), getD_set' _ _ _ _ (by rw [h.1]; omega)]
  have a1 := h.2 i (by omega)
  have a2 := h.2 (ps.length - 1 - i) (by omega)
  rw [if_neg (by omega)] at a1
  rw [if_neg (by omega)] at a2
  by_cases c1 : k = ps.length - 1 - i
  · subst c1
    rw [if_pos rfl, a1, if_pos (by omega)]
    congr 1
    omega
  · rw [if_neg c1]
    by_cases c2 : k = i
    · subst c2
      rw [if_pos rfl, a2, if_pos (by omega)]
    · rw [if_neg c2, h.2 k hk]
      by_cases c3 : k < i ∨ ps.length - 1 - k < i
      · rw [if_pos c3, if_pos (by omega)]
      · rw [if_neg c3, if_neg (by omega)]
noncomputable def c_rvs : Code := ((loopsOf (codeOf Try.f93))[0]?).getD .skip
def k_rvs : Ex → List Nat := keeps [0, 2, 3] [(0, [])] []
def s_rvs (ps : List Pt) : Nat × (List Pt) → St := fun (i, X) => ⟨[.slice (some ⟨0, 0, none⟩) ps.length ps.length, topV, .int .i64 i, .int .i64 ((ps.length : Int) - 1 - i), topV, topV, topV, topV, topV, topV, topV, topV, topV, topV, topV, topV, topV, topV, topV, topV, topV, topV, topV, topV, topV, topV, topV, topV], [some ⟨.row 44 2, .ints (flat X)⟩]⟩
def re_rvs : Nat × (List Pt) → Ex := fun _ => .exit 0
def rs_rvs (ps : List Pt) : Nat × (List Pt) → St := fun (i, X) => ⟨[topV, topV, topV, topV, topV, topV, topV, topV, topV, topV, topV, topV, topV, topV, topV, topV, topV, topV, topV, topV, topV, topV, topV, topV, topV, topV, topV, topV], [some ⟨.row 44 2, .ints (flat (revP ps))⟩]⟩
set_option maxRecDepth 100000 in
theorem tr_rvs (ps : List Pt) (i : Nat) (X : List Pt) : bodyL Try.prog ERv 30 12 noL 1 c_rvs k_rvs 1 (s_rvs ps (i, X)) = brT (decide ((↑i : Int) < (↑ps.length : Int) - 1 - (↑i : Int))) (.need ((0 : Int) ≤ (↑ps.length : Int) - (1 : Int) - (↑i : Int) ∧ (↑ps.length : Int) - (1 : Int) - (↑i : Int) < (↑ps.length : Int)) (.need ((0 : Nat) + ((↑ps.length : Int) - (1 : Int) - (↑i : Int)).toNat * (2 : Nat) + (2 : Nat) ≤ (flat X).length) (.need ((0 : Int) ≤ (↑i : Int) ∧ (↑i : Int) < (↑ps.length : Int)) (.need ((0 : Nat) + (↑i : Int).toNat * (2 : Nat) + (2 : Nat) ≤ (flat X).length) (.need ((0 : Int) ≤ (↑i : Int) ∧ (↑i : Int) < (↑ps.length : Int)) (.need ((0 : Nat) + (↑i : Int).toNat * (2 : Nat) + (2 : Nat) ≤ (flat X).length) (.need ((0 : Int) ≤ (↑ps.length : Int) - (1 : Int) - (↑i : Int) ∧ (↑ps.length : Int) - (1 : Int) - (↑i : Int) < (↑ps.length : Int)) (.need ((0 : Nat) + ((↑ps.length : Int) - (1 : Int) - (↑i : Int)).toNat * (2 : Nat) + (2 : Nat) ≤ (setInts (flat X) ((0 : Nat) + (↑i : Int).toNat * (2 : Nat)) [(flat X).getD ((0 : Nat) + ((↑ps.length : Int) - (1 : Int) - (↑i : Int)).toNat * (2 : Nat)) (0 : Int), (flat X).getD ((0 : Nat) + ((↑ps.length : Int) - (1 : Int) - (↑i : Int)).toNat * (2 : Nat) + (1 : Nat)) (0 : Int)]).length) (.leaf .normal ⟨[.slice (some ⟨0, 0, none⟩) (ps.length) (ps.length), topV, .int .i64 (IntKind.i64.wrap ((↑i : Int) + 1)), .int .i64 (IntKind.i64.wrap ((↑ps.length : Int) - 1 - (↑i : Int) - 1)), topV, topV, topV, topV, topV, topV, topV, topV, topV, topV, topV, topV, topV, topV, topV, topV, topV, topV, topV, topV, topV, topV, topV, topV], [some ⟨.row 44 2, .ints (setInts (setInts (flat X) (0 + (↑i : Int).toNat * 2) [(flat X).getD (0 + ((↑ps.length : Int) - 1 - (↑i : Int)).toNat * 2) 0, (flat X).getD (0 + ((↑ps.length : Int) - 1 - (↑i : Int)).toNat * 2 + 1) 0]) (0 + ((↑ps.length : Int) - 1 - (↑i : Int)).toNat * 2) [(flat X).getD (0 + (↑i : Int).toNat * 2) 0, (flat X).getD (0 + (↑i : Int).toNat * 2 + 1) 0])⟩]⟩))))))))) (.leaf (.exit 0) ⟨[topV, topV, topV, topV, topV, topV, topV, topV, topV, topV, topV, topV, topV, topV, topV, topV, topV, topV, topV, topV, topV, topV, topV, topV, topV, topV, topV, topV], [some ⟨.row 44 2, .ints (flat X)⟩]⟩) := by kernel_rfl
set_option maxRecDepth 100000 in
theorem nl_rvs : loopsOf c_rvs = [] := by kernel_rfl
def inv_rvs (ps : List Pt) : Nat × (List Pt) → Prop := fun (i, X) => 2 * i ≤ ps.length + 1 ∧ rvI ps X i
def me_rvs (ps : List Pt) : Nat × (List Pt) → Nat := fun (i, X) => ps.length + 1 - i
/-- A round of this loop. -/
def Round_rvs (ps : List Pt) : Prop := ∀ xx : Nat × (List Pt), inv_rvs ps xx → (bodyL Try.prog ERv 30 12 noL 1 c_rvs k_rvs 1 (s_rvs ps xx)).ok (RoundEnd 1 (s_rvs ps) (inv_rvs ps) (me_rvs ps) re_rvs (rs_rvs ps) xx) (fun _ _ => False)
def e_rvs (s : St) (k : Ex → St → Tree) : Option Tree := match Nat.beq s.tmps.length 28, pickL s.tmps [0, 2, 3], s.mem with
  | true, [.slice (some ⟨0, 0, none⟩) n _, .int .i64 i0, .int .i64 j0], [some ⟨.row 44 2, .ints xs⟩] => some (needs [i0 = 0, j0 = (n : Int) - 1 - (0 : Nat), xs.length = n * 2, n ≤ 1000000000] (k (.exit 0) ⟨[topV, topV, topV, topV, topV, topV, topV, topV, topV, topV, topV, topV, topV, topV, topV, topV, topV, topV, topV, topV, topV, topV, topV, topV, topV, topV, topV, topV], [some ⟨.row 44 2, .ints (flat (revP (ptsA n xs)))⟩]⟩))
  | _, _, _ => none
noncomputable def c_rvd : Code := ((loopsOf (codeOf Try.f129))[0]?).getD .skip
def k_rvd : Ex → List Nat := keeps [0, 3, 4] [(0, [3])] [2]
def s_rvd (ps : List Pt) : Nat × (List Pt) → St := fun (m, o) => ⟨[.slice (some ⟨0, 0, none⟩) ps.length ps.length, topV, topV, .slice (some ⟨2, 0, none⟩) o.length o.length, .int .i64 ((m : Int) - 1), topV, topV, topV, topV, topV, topV, topV, topV, topV, topV, topV, topV, topV, topV, topV, topV], [some ⟨.view, .ints (flat ps)⟩, some ⟨.dead, .vals []⟩, some ⟨.row 44 2, .ints (flat o)⟩]⟩
def re_rvd : Nat × (List Pt) → Ex := fun _ => .exit 0
def rs_rvd (ps : List Pt) : Nat × (List Pt) → St := fun (m, o) => ⟨[topV, topV, topV, .slice (some ⟨2, 0, none⟩) (revP ps).length (revP ps).length, topV, topV, topV, topV, topV, topV, topV, topV, topV, topV, topV, topV, topV, topV, topV, topV, topV], [some ⟨.view, .ints (flat ps)⟩, some ⟨.dead, .vals []⟩, some ⟨.row 44 2, .ints (flat (revP ps))⟩]⟩
set_option maxRecDepth 100000 in
theorem tr_rvd (ps : List Pt) (m : Nat) (o : List Pt) : bodyL Try.prog ERv 30 12 noL 1 c_rvd k_rvd 16 (s_rvd ps (m, o)) = brT (decide (0 ≤ (↑m : Int) - 1)) (.need ((0 : Int) ≤ (↑m : Int) - (1 : Int) ∧ (↑m : Int) - (1 : Int) < (↑ps.length : Int)) (.need ((0 : Nat) + ((↑m : Int) - (1 : Int)).toNat * (2 : Nat) + (2 : Nat) ≤ (flat ps).length) (.need ((o.length + (1 : Nat)) * (16 : Nat) ≤ (140737488355328 : Nat) ∧ o.length + (1 : Nat) ≤ (1000000 : Nat)) (.need ((0 : Nat) + o.length * (2 : Nat) ≤ (flat o).length) (.leaf .normal ⟨[.slice (some ⟨0, 0, none⟩) (ps.length) (ps.length), topV, topV, .slice (some ⟨4, 0, none⟩) (o.length + 1) (o.length + 1), .int .i64 (IntKind.i64.wrap ((↑m : Int) - 1 - 1)), topV, topV, topV, topV, topV, topV, topV, topV, topV, topV, topV, topV, topV, topV, topV, topV], [some ⟨.view, .ints (flat ps)⟩, some deadB, some deadB, some ⟨.row 44 2, .vals [.int .i64 ((flat ps).getD (0 + ((↑m : Int) - 1).toNat * 2) 0), .int .i64 ((flat ps).getD (0 + ((↑m : Int) - 1).toNat * 2 + 1) 0)]⟩, some ⟨.row 44 2, .ints (List.take (o.length * 2) (List.drop 0 (flat o)) ++ [(flat ps).getD (0 + ((↑m : Int) - 1).toNat * 2) 0, (flat ps).getD (0 + ((↑m : Int) - 1).toNat * 2 + 1) 0])⟩]⟩))))) (.leaf (.exit 0) ⟨[topV, topV, topV, .slice (some ⟨2, 0, none⟩) (o.length) (o.length), topV, topV, topV, topV, topV, topV, topV, topV, topV, topV, topV, topV, topV, topV, topV, topV, topV], [some ⟨.view, .ints (flat ps)⟩, some deadB, some ⟨.row 44 2, .ints (flat o)⟩]⟩) := by kernel_rfl
set_option maxRecDepth 100000 in
theorem nl_rvd : loopsOf c_rvd = [] := by kernel_rfl
def inv_rvd (ps : List Pt) : Nat × (List Pt) → Prop := fun (m, o) => m ≤ ps.length ∧ o = (ps.drop m).reverse
def me_rvd (ps : List Pt) : Nat × (List Pt) → Nat := fun (m, o) => m
/-- A round of this loop. -/
def Round_rvd (ps : List Pt) : Prop := ∀ xx : Nat × (List Pt), inv_rvd ps xx → (bodyL Try.prog ERv 30 12 noL 1 c_rvd k_rvd 16 (s_rvd ps xx)).ok (RoundEnd 2 (s_rvd ps) (inv_rvd ps) (me_rvd ps) re_rvd (rs_rvd ps) xx) (fun _ _ => False)
def e_rvd (s : St) (k : Ex → St → Tree) : Option Tree := match Nat.beq s.tmps.length 21, pickL s.tmps [0, 3, 4], s.mem with
  | true, [.slice (some ⟨0, 0, none⟩) n _, .slice (some ⟨1, 0, none⟩) z _, .int .i64 i0], [some ⟨.view, .ints xs⟩, some ⟨.row 44 2, .vals []⟩] => some (needs [i0 = (n : Int) - 1, z = 0, xs.length = n * 2, n ≤ 100000] (k (.exit 0) ⟨[topV, topV, topV, .slice (some ⟨2, 0, none⟩) (revP (ptsA n xs)).length (revP (ptsA n xs)).length, topV, topV, topV, topV, topV, topV, topV, topV, topV, topV, topV, topV, topV, topV, topV, topV, topV], [some ⟨.view, .ints xs⟩, some ⟨.dead, .vals []⟩, some ⟨.row 44 2, .ints (flat (revP (ptsA n xs)))⟩]⟩))
  | _, _, _ => none
set_option maxRecDepth 100000 in
theorem round_rvs (ps : List Pt) (h : ps.length ≤ 1000000000) : Round_rvs ps := by
  rintro ⟨i, X⟩ ⟨h1, h2⟩
  rw [tr_rvs]
  have hl := h2.1
  refine brT_ok.2 ⟨fun hlt => ?_, fun hge => ?_⟩
  · have hlt := of_decide_eq_true hlt
    have hi : 2 * i + 1 < ps.length := by omega
    have j1 : ((ps.length : Int) - 1 - (i : Int)).toNat = ps.length - 1 - i := by omega
    have w : IntKind.i64.wrap ((ps.length : Int) - 1 - (i : Int) - 1) = (ps.length : Int) - 1 - ((i + 1 : Nat) : Int) := by rw [wr (by omega)]; omega
    have f1 := flat_set X i (by omega) (X.getD (ps.length - 1 - i) (0, 0)).1 (X.getD (ps.length - 1 - i) (0, 0)).2
    have f2 := flat_set (X.set i ((X.getD (ps.length - 1 - i) (0, 0)).1, (X.getD (ps.length - 1 - i) (0, 0)).2)) (ps.length - 1 - i) (by rw [List.length_set]; omega) (X.getD i (0, 0)).1 (X.getD i (0, 0)).2
    simp only [j1, w, Int.toNat_natCast, Nat.zero_add, flat_get0, flat_get1, f1]
    simp only [f2, flat_length, List.length_set, wsucc (n := ps.length) (i := i) (by omega) h]
    refine ⟨by omega, by omega, by omega, by omega, by omega, by omega, by omega, by omega, ?_⟩
    refine ⟨(i + 1, (X.set i (X.getD (ps.length - 1 - i) (0, 0))).set (ps.length - 1 - i) (X.getD i (0, 0))), [], ⟨by omega, rv_step h2 hi⟩, ?_, rfl, by simp only [rs_rvs], ?_⟩
    · show ps.length + 1 - (i + 1) < ps.length + 1 - i; omega
    · repeat' (first | exact True.intro | exact rfl | exact fun _ => rfl | (simp; done) | refine And.intro ?_ ?_)
  · have hge := of_decide_eq_false hge
    obtain rfl := rv_end h2 (by omega)
    refine ⟨rfl, [], ?_⟩
    simp only [rs_rvs, revP]
    repeat' (first | exact True.intro | exact rfl | exact fun _ => rfl | (simp; done) | refine And.intro ?_ ?_)
set_option maxRecDepth 100000 in
theorem lg_rvs : LoopE Try.prog e_rvs c_rvs := by
  intro s k t F H hlt ht
  unfold e_rvs at hlt
  split at hlt
  rotate_left
  · cases hlt
  rename_i hlen hpick hmem
  obtain ⟨tmps, mem⟩ := s
  simp only at hlen hpick hmem
  subst hmem
  obtain rfl := Option.some.inj hlt
  obtain ⟨⟨rfl, rfl, h1, h2, _⟩, ht2⟩ := needs_ok ht
  clear ht hlt
  obtain ⟨ps, rfl, rfl⟩ := even_flat h1
  rw [ptsA_flat] at ht2
  refine ⟨_, _, ht2, loop_run mixed ERv_ok (s_rvs ps) (inv_rvs ps) (me_rvs ps) re_rvs (rs_rvs ps) k_rvs (fun _ => rfl) (noLoops nl_rvs) (round_rvs ps h2) (x := (0, ps)) ⟨by omega, rfl, fun k hk => by rw [if_neg (by omega)]⟩ (π := []) rfl ?_⟩
  refine ⟨rfl, rfl, ?_, wvs_spread' [0, 2, 3] hlen rfl ?_⟩
  · repeat' (first | exact True.intro | exact rfl | exact wv_top _ _ | exact fun _ => rfl | assumption | exact Eq.symm (by assumption) | exact vI0 rfl | refine And.intro ?_ ?_)
  · rw [hpick]
    repeat' (first | exact True.intro | exact rfl | exact wv_top _ _ | exact fun _ => rfl | assumption | exact Eq.symm (by assumption) | exact vI0 rfl | refine And.intro ?_ ?_)
theorem rvd_step {ps : List Pt} {m : Nat} (h : m < ps.length) : (ps.drop (m + 1)).reverse ++ [ps.getD m (0, 0)] = (ps.drop m).reverse := by
  rw [drop_cons h (0, 0), List.reverse_cons]
set_option maxRecDepth 100000 in
theorem round_rvd (ps : List Pt) (h : ps.length ≤ 100000) : Round_rvd ps := by
  rintro ⟨m, o⟩ ⟨h1, rfl⟩
  rw [tr_rvd]
  have hl : (ps.drop m).reverse.length = ps.length - m := by simp
  refine brT_ok.2 ⟨fun hlt => ?_, fun hge => ?_⟩
  · have hlt := of_decide_eq_true hlt
    obtain ⟨m, rfl⟩ : ∃ k, m = k + 1 := ⟨m - 1, by omega⟩
    have j1 : (((m + 1 : Nat) : Int) - 1).toNat = m := by omega
    have w : IntKind.i64.wrap (((m + 1 : Nat) : Int) - 1 - 1) = (m : Int) - 1 := by rw [wr (by omega)]; omega
    have hs := rvd_step (ps := ps) (m := m) (by omega)
    have fs : flat (ps.drop (m + 1)).reverse ++ [(ps.getD m (0, 0)).1, (ps.getD m (0, 0)).2] = flat (ps.drop m).reverse := by
      rw [flat_snoc, ← hs]
    simp only [j1, w, Nat.zero_add, flat_get0, flat_get1, flat_length, flatR, fs]
    refine ⟨by omega, by omega, ⟨by omega, by omega⟩, by omega, (m, (ps.drop m).reverse), [some 4], ⟨by omega, rfl⟩, ?_, rfl, by simp only [rs_rvd], ?_⟩
    · show m < m + 1; omega
    · have e : (ps.drop (m + 1)).reverse.length + 1 = (ps.drop m).reverse.length := by rw [← hs]; simp
      rw [e]
      repeat' (first | exact True.intro | exact rfl | exact fun _ => rfl | (simp; done) | refine And.intro ?_ ?_)
  · have hge := of_decide_eq_false hge
    obtain rfl : m = 0 := by omega
    refine ⟨rfl, [some 2], ?_⟩
    simp only [rs_rvd, revP, List.drop_zero]
    repeat' (first | exact True.intro | exact rfl | exact fun _ => rfl | (simp; done) | refine And.intro ?_ ?_)
set_option maxRecDepth 100000 in
theorem lg_rvd : LoopE Try.prog e_rvd c_rvd := by
  intro s k t F H hlt ht
  unfold e_rvd at hlt
  split at hlt
  rotate_left
  · cases hlt
  rename_i hlen hpick hmem
  obtain ⟨tmps, mem⟩ := s
  simp only at hlen hpick hmem
  subst hmem
  obtain rfl := Option.some.inj hlt
  obtain ⟨⟨rfl, rfl, h1, h3, _⟩, ht2⟩ := needs_ok ht
  clear ht hlt
  obtain ⟨ps, rfl, rfl⟩ := even_flat h1
  rw [ptsA_flat] at ht2
  refine ⟨_, _, ht2, loop_run2 mixed ERv_ok (s_rvd ps) (inv_rvd ps) (me_rvd ps) re_rvd (rs_rvd ps) k_rvd (fun _ => rfl) (noLoops nl_rvd) (round_rvd ps h3) (x := (ps.length, [])) ⟨Nat.le_refl _, by rw [List.drop_length]; rfl⟩ (π := [some 1]) rfl ?_⟩
  refine ⟨rfl, rfl, ?_, wvs_spread' [0, 3, 4] hlen rfl ?_⟩
  · repeat' (first | exact True.intro | exact rfl | exact wv_top _ _ | exact fun _ => rfl | assumption | exact Eq.symm (by assumption) | exact vI0 rfl | refine And.intro ?_ ?_)
  · rw [hpick]
    repeat' (first | exact True.intro | exact rfl | exact wv_top _ _ | exact fun _ => rfl | assumption | exact Eq.symm (by assumption) | exact vI0 rfl | refine And.intro ?_ ?_)
theorem Lr_rvs {fn : Func} (hf : Try.prog.funcs[93]? = some fn) : LoopsGood Try.prog (lt1 e_rvs) 0 (codeOf fn) := by
  obtain rfl := fn_is Try.func93 hf
  exact lt1_good lg_rvs
theorem Lr_rvd {fn : Func} (hf : Try.prog.funcs[129]? = some fn) : LoopsGood Try.prog (lt1 e_rvd) 0 (codeOf fn) := by
  obtain rfl := fn_is Try.func129 hf
  exact lt1_good lg_rvd
def LRv : FuncId → LT := fun f => match f with
  | 93 => lt1 e_rvs
  | 129 => lt1 e_rvd
  | _ => noL
def ERw : Env := mkE B0 (fun _ _ => none) LRv
theorem ERw_ok : EnvOk Try.prog ERw := mkEOk B0_ok (fun _ _ _ _ _ h => (by cases h)) (by
  intro f fn hf
  unfold LRv
  split
  all_goals first | with_reducible exact Lr_rvs hf | with_reducible exact Lr_rvd hf | exact noL_good)
set_option maxRecDepth 100000 in
theorem tr_rdF (ps : List Pt) : bodyX Try.prog ERw 30 12 129 [.row ps.length (.ints (flat ps))] = .need (IntKind.i64.wrap ((↑ps.length : Int) - (1 : Int)) = (↑ps.length : Int) - (1 : Int)) (.need ((0 : Nat) = (0 : Nat)) (.need ((flat ps).length = ps.length * (2 : Nat)) (.need (ps.length ≤ (100000 : Nat)) (.fin (.slice (some ⟨2, 0, none⟩) ((revP (ptsA ps.length (flat ps))).length) ((revP (ptsA ps.length (flat ps))).length)) [some ⟨.view, .ints (flat ps)⟩, some deadB, some ⟨.row 44 2, .ints (flat (revP (ptsA ps.length (flat ps))))⟩])))) := by kernel_rfl
theorem resR_rvd {ps : List Pt} (h : ps.length ≤ 100000) : ResR Try.prog 129 [.row ps.length (.ints (flat ps))] (rowP (revP ps)) (blkP (revP ps)) := by
  refine bodyX_resR mixed ERw_ok (m := 30) (n := 12) rfl ?_
  rw [tr_rdF]
  simp only [ptsA_flat]
  exact ⟨by rw [wr (by omega)], trivial, flat_length ps, h, some 2, ⟨rfl, rfl, rfl⟩, rfl, rfl, rfl⟩
end Go.Proofs.Ytolodncpegajkab
namespace Go.Proofs.Ytolodncpegajkab
set_option linter.all false
open Go.RowKit
def RHu : TabR := fun f ds => match f, ds with
  | 59, [.row m (.ints xs)] => some (rowP (chn [] (ptsA m xs)), blkP (chn [] (ptsA m xs)), [m * 2 ≤ xs.length, allV (ptsA m xs) = true, m ≤ 1000])
  | 128, [.row m (.ints xs)] => some (rowP (chn [] (ptsA m xs)), blkP (chn [] (ptsA m xs)), [m * 2 ≤ xs.length, allV (ptsA m xs) = true, m ≤ 1000])
  | 129, [.row m (.ints xs)] => some (rowP (revP (ptsA m xs)), blkP (revP (ptsA m xs)), [m * 2 ≤ xs.length, m ≤ 100000])
  | f, ds => RSq f ds
theorem RHu_ok : TabROk Try.prog RHu := by
  intro f ds v b C h hC
  unfold RHu at h
  (try split at h)
  all_goals first
    | (obtain ⟨rfl, rfl, rfl⟩ : _ ∧ _ ∧ _ := by simpa using h
       obtain ⟨_, h2⟩ := ptsA_spec hC.1
       have h1 := resR_pts1 (pre := []) (post := []) hC.1 (resR_iCn hC.2.1 (by rw [h2]; exact hC.2.2.1))
       simp only [List.nil_append, List.append_nil] at h1
       with_reducible exact h1)
    | (obtain ⟨rfl, rfl, rfl⟩ : _ ∧ _ ∧ _ := by simpa using h
       obtain ⟨_, h2⟩ := ptsA_spec hC.1
       have h1 := resR_pts1 (pre := []) (post := []) hC.1 (resR_sCn hC.2.1 (by rw [h2]; exact hC.2.2.1))
       simp only [List.nil_append, List.append_nil] at h1
       with_reducible exact h1)
    | (obtain ⟨rfl, rfl, rfl⟩ : _ ∧ _ ∧ _ := by simpa using h
       obtain ⟨_, h2⟩ := ptsA_spec hC.1
       have h1 := resR_pts1 (pre := []) (post := []) hC.1 (resR_rvd (by rw [h2]; exact hC.2.1))
       simp only [List.nil_append, List.append_nil] at h1
       with_reducible exact h1)
    | exact RSq_ok _ _ _ _ _ h hC
theorem srtL_le (ps : List Pt) : (srtL ps).length ≤ ps.length := by
  have := srtO_le ps []
  simpa [srtL] using this
end Go.Proofs.Ytolodncpegajkab
namespace Go.Proofs.Ytolodncpegajkab
set_option linter.all false
open Go.RowKit
/-- The first m points, each once where equal ones stand side by side. -/
def cxN (ps : List Pt) : Nat → List Pt
  | 0 => []
  | m + 1 => if m = 0 ∨ (ps.getD m (0, 0)).1 ≠ (ps.getD (m - 1) (0, 0)).1 then cxN ps m ++ [ps.getD m (0, 0)] else cxN ps m
def cxP (ps : List Pt) : List Pt := cxN ps ps.length
def dupX (ps : List Pt) (i : Nat) : Bool := (ps.getD i (0, 0)).1 == (ps.getD (i - 1) (0, 0)).1
theorem cxN_le (ps : List Pt) : ∀ m, (cxN ps m).length ≤ m
  | 0 => Nat.le_refl _
  | m + 1 => by
    have := cxN_le ps m
    simp only [cxN]
    split
    · simp; omega
    · omega
theorem cxN_take {ps : List Pt} : ∀ m, m ≤ ps.length → (∀ j, 1 ≤ j → j < m → dupX ps j = false) → cxN ps m = ps.take m
  | 0, _, _ => rfl
  | m + 1, hm, h => by
    have ih := cxN_take m (by omega) fun j h1 h2 => h j h1 (by omega)
    simp only [cxN]
    have ht : ps.take (m + 1) = ps.take m ++ [ps.getD m (0, 0)] := by
      rw [List.take_add_one]
      simp [List.getD, show m < ps.length by omega]
    rw [ht, ← ih]
    rcases Nat.eq_zero_or_pos m with h0 | h0
    · rw [if_pos (.inl h0)]
    · have := h m h0 (by omega)
      unfold dupX at this
      rw [beq_eq_false_iff_ne] at this
      rw [if_pos (.inr this)]
end Go.Proofs.Ytolodncpegajkab
namespace Go.Proofs.Ytolodncpegajkab
set_option linter.all false
open Go.RowKit
def ECf : Env := tabE B0
theorem ECf_ok : EnvOk Try.prog ECf := tabE_ok B0_ok
noncomputable def c_cgI : Code := ((loopsOf (codeOf Try.f56))[1]?).getD .skip
def k_cgI : Ex → List Nat := keeps [0, 1, 5, 6, 7] [(2, [0, 5]), (1, [0, 1, 5]), (0, [0])] [4]
def s_cgI (ps : List Pt) (k0 : Nat) : Nat × Nat × (List Pt) → St := fun (j, q, X) => ⟨(.slice (some ⟨0, 0, none⟩) ps.length ps.length :: .func (.func 58) #[] #[] :: topV :: topV :: topV :: .int .i64 q :: .slice (some ⟨0, k0 * 2, none⟩) (ps.length - k0) (ps.length - k0) :: .int .i64 j :: topV :: topV :: topV :: topV :: topV :: topV :: topV :: topV :: topV :: topV :: topV :: topV :: topV :: topV :: topV :: topV :: topV :: topV :: topV :: topV :: topV :: topV :: topV :: topV :: topV :: topV :: topV :: topV :: topV :: topV :: topV :: topV :: topV :: topV :: topV :: topV :: topV :: topV :: topV :: topV :: topV :: topV :: topV :: topV :: topV :: topV :: topV :: topV :: topV :: topV :: topV :: topV :: topV :: topV :: topV :: topV :: topV :: topV :: []), [some ⟨.row 44 2, .ints (flat X)⟩, none]⟩
def re_cgI : Nat × Nat × (List Pt) → Ex := fun _ => .exit 2
def rs_cgI (ps : List Pt) (k0 : Nat) : Nat × Nat × (List Pt) → St := fun (j, q, X) => ⟨(.slice (some ⟨0, 0, none⟩) ps.length ps.length :: topV :: topV :: topV :: topV :: .int .i64 ((cxN ps ps.length).length : Nat) :: topV :: topV :: topV :: topV :: topV :: topV :: topV :: topV :: topV :: topV :: topV :: topV :: topV :: topV :: topV :: topV :: topV :: topV :: topV :: topV :: topV :: topV :: topV :: topV :: topV :: topV :: topV :: topV :: topV :: topV :: topV :: topV :: topV :: topV :: topV :: topV :: topV :: topV :: topV :: topV :: topV :: topV :: topV :: topV :: topV :: topV :: topV :: topV :: topV :: topV :: topV :: topV :: topV :: topV :: topV :: topV :: topV :: topV :: topV :: topV :: []), [some ⟨.row 44 2, .ints (flat (cxN ps ps.length ++ ps.drop (cxN ps ps.length).length))⟩, none]⟩
set_option maxRecDepth 100000 in
theorem tr_cgI (ps : List Pt) (k0 : Nat) (j q : Nat) (X : List Pt) : bodyL Try.prog ECf 30 12 noL 2 c_cgI k_cgI 2 (s_cgI ps k0 (j, q, X)) = brT (decide ((↑j : Int) < (↑(ps.length - k0) : Int))) (.need ((0 : Int) ≤ (↑j : Int) ∧ (↑j : Int) < (↑(ps.length - k0) : Int)) (.need (k0 * (2 : Nat) + (↑j : Int).toNat * (2 : Nat) + (2 : Nat) ≤ (flat X).length) (.need ((0 : Int) ≤ IntKind.i64.wrap ((↑j : Int) - (1 : Int)) ∧ IntKind.i64.wrap ((↑j : Int) - (1 : Int)) < (↑(ps.length - k0) : Int)) (.need (k0 * (2 : Nat) + (IntKind.i64.wrap ((↑j : Int) - (1 : Int))).toNat * (2 : Nat) + (2 : Nat) ≤ (flat X).length) (brT (!(flat X).getD (k0 * 2 + (↑j : Int).toNat * 2) 0 == (flat X).getD (k0 * 2 + (IntKind.i64.wrap ((↑j : Int) - 1)).toNat * 2) 0) (.need ((0 : Int) ≤ (↑j : Int) ∧ (↑j : Int) < (↑(ps.length - k0) : Int)) (.need (k0 * (2 : Nat) + (↑j : Int).toNat * (2 : Nat) + (2 : Nat) ≤ (flat X).length) (.need ((0 : Int) ≤ (↑q : Int) ∧ (↑q : Int) < (↑ps.length : Int)) (.need ((0 : Nat) + (↑q : Int).toNat * (2 : Nat) + (2 : Nat) ≤ (flat X).length) (.leaf .normal ⟨(.slice (some ⟨0, 0, none⟩) (ps.length) (ps.length) :: .func (Fn.func 58) #[] #[] :: topV :: topV :: topV :: .int .i64 (IntKind.i64.wrap ((↑q : Int) + 1)) :: .slice (some ⟨0, k0 * 2, none⟩) (ps.length - k0) (ps.length - k0) :: .int .i64 (IntKind.i64.wrap ((↑j : Int) + 1)) :: topV :: topV :: topV :: topV :: topV :: topV :: topV :: topV :: topV :: topV :: topV :: topV :: topV :: topV :: topV :: topV :: topV :: topV :: topV :: topV :: topV :: topV :: topV :: topV :: topV :: topV :: topV :: topV :: topV :: topV :: topV :: topV :: topV :: topV :: topV :: topV :: topV :: topV :: topV :: topV :: topV :: topV :: topV :: topV :: topV :: topV :: topV :: topV :: topV :: topV :: topV :: topV :: topV :: topV :: topV :: topV :: topV :: topV :: []), [some ⟨.row 44 2, .ints (setInts (flat X) (0 + (↑q : Int).toNat * 2) [(flat X).getD (k0 * 2 + (↑j : Int).toNat * 2) 0, (flat X).getD (k0 * 2 + (↑j : Int).toNat * 2 + 1) 0])⟩, none]⟩))))) (.leaf .normal ⟨(.slice (some ⟨0, 0, none⟩) (ps.length) (ps.length) :: .func (Fn.func 58) #[] #[] :: topV :: topV :: topV :: .int .i64 ((↑q : Int)) :: .slice (some ⟨0, k0 * 2, none⟩) (ps.length - k0) (ps.length - k0) :: .int .i64 (IntKind.i64.wrap ((↑j : Int) + 1)) :: topV :: topV :: topV :: topV :: topV :: topV :: topV :: topV :: topV :: topV :: topV :: topV :: topV :: topV :: topV :: topV :: topV :: topV :: topV :: topV :: topV :: topV :: topV :: topV :: topV :: topV :: topV :: topV :: topV :: topV :: topV :: topV :: topV :: topV :: topV :: topV :: topV :: topV :: topV :: topV :: topV :: topV :: topV :: topV :: topV :: topV :: topV :: topV :: topV :: topV :: topV :: topV :: topV :: topV :: topV :: topV :: topV :: topV :: []), [some ⟨.row 44 2, .ints (flat X)⟩, none]⟩)))))) (.leaf (.exit 2) ⟨(.slice (some ⟨0, 0, none⟩) (ps.length) (ps.length) :: topV :: topV :: topV :: topV :: .int .i64 ((↑q : Int)) :: topV :: topV :: topV :: topV :: topV :: topV :: topV :: topV :: topV :: topV :: topV :: topV :: topV :: topV :: topV :: topV :: topV :: topV :: topV :: topV :: topV :: topV :: topV :: topV :: topV :: topV :: topV :: topV :: topV :: topV :: topV :: topV :: topV :: topV :: topV :: topV :: topV :: topV :: topV :: topV :: topV :: topV :: topV :: topV :: topV :: topV :: topV :: topV :: topV :: topV :: topV :: topV :: topV :: topV :: topV :: topV :: topV :: topV :: topV :: topV :: []), [some ⟨.row 44 2, .ints (flat X)⟩, none]⟩) := by kernel_rfl
set_option maxRecDepth 100000 in
theorem nl_cgI : loopsOf c_cgI = [] := by kernel_rfl
def inv_cgI (ps : List Pt) (k0 : Nat) : Nat × Nat × (List Pt) → Prop := fun (j, q, X) => 1 ≤ j ∧ k0 + j ≤ ps.length ∧ q ≤ k0 + j - 1 ∧ q = (cxN ps (k0 + j)).length ∧ X = cxN ps (k0 + j) ++ ps.drop q
def me_cgI (ps : List Pt) (k0 : Nat) : Nat × Nat × (List Pt) → Nat := fun (j, q, X) => ps.length - (k0 + j)
/-- A round of this loop. -/
def Round_cgI (ps : List Pt) (k0 : Nat) : Prop := ∀ xx : Nat × Nat × (List Pt), inv_cgI ps k0 xx → (bodyL Try.prog ECf 30 12 noL 2 c_cgI k_cgI 2 (s_cgI ps k0 xx)).ok (RoundEnd 2 (s_cgI ps k0) (inv_cgI ps k0) (me_cgI ps k0) re_cgI (rs_cgI ps k0) xx) (fun _ _ => False)
def e_cgI (s : St) (k : Ex → St → Tree) : Option Tree := match Nat.beq s.tmps.length 66, pickL s.tmps [0, 1, 5, 6, 7], s.mem with
  | true, [.slice (some ⟨0, 0, none⟩) n _, .func (.func 58) ⟨[]⟩ ⟨[]⟩, .int .i64 kk, .slice (some ⟨0, o, none⟩) l _, .int .i64 k2], [some ⟨.row 44 2, .ints xs⟩, none] => some (needs [k2 = 1, xs.length = n * 2, 0 ≤ kk, 1 ≤ kk ∧ kk < n, o = kk.toNat * 2, l = n - kk.toNat, dupX (ptsA n xs) kk.toNat = true, (∀ j, 1 ≤ j → j < kk.toNat → dupX (ptsA n xs) j = false), n ≤ 1000000000] (k (.exit 2) ⟨(.slice (some ⟨0, 0, none⟩) n n :: topV :: topV :: topV :: topV :: .int .i64 ((cxN (ptsA n xs) n).length : Nat) :: topV :: topV :: topV :: topV :: topV :: topV :: topV :: topV :: topV :: topV :: topV :: topV :: topV :: topV :: topV :: topV :: topV :: topV :: topV :: topV :: topV :: topV :: topV :: topV :: topV :: topV :: topV :: topV :: topV :: topV :: topV :: topV :: topV :: topV :: topV :: topV :: topV :: topV :: topV :: topV :: topV :: topV :: topV :: topV :: topV :: topV :: topV :: topV :: topV :: topV :: topV :: topV :: topV :: topV :: topV :: topV :: topV :: topV :: topV :: topV :: []), [some ⟨.row 44 2, .ints (flat (cxN (ptsA n xs) n ++ (ptsA n xs).drop (cxN (ptsA n xs) n).length))⟩, none]⟩))
  | _, _, _ => none
theorem cg_dup {ps : List Pt} {m : Nat} (h : dupX ps m = true) (hm : m ≠ 0) : cxN ps (m + 1) = cxN ps m := by
  unfold dupX at h
  simp only [cxN]
  rw [if_neg]
  rintro (h1 | h1)
  · exact hm h1
  · exact h1 (by simpa using h)
theorem cg_new {ps : List Pt} {m : Nat} (h : dupX ps m = false) : cxN ps (m + 1) = cxN ps m ++ [ps.getD m (0, 0)] := by
  unfold dupX at h
  simp only [cxN]
  rw [if_pos (.inr (by simpa using h))]
theorem cg_start {ps : List Pt} {k : Nat} (h2 : 1 ≤ (k : Int) ∧ (k : Int) < (ps.length : Int)) (h3 : dupX ps k = true) (h4 : ∀ j, 1 ≤ j → j < k → dupX ps j = false) : 1 ≤ 1 ∧ k + 1 ≤ ps.length ∧ k ≤ k + 1 - 1 ∧ k = (cxN ps (k + 1)).length ∧ ps = cxN ps (k + 1) ++ ps.drop k := by
  have e := cg_dup h3 (by omega)
  rw [cxN_take k (by omega) h4] at e
  refine ⟨Nat.le_refl _, by omega, by omega, ?_, ?_⟩
  · rw [e, List.length_take]; omega
  · rw [e, List.take_append_drop]
theorem cg_get {ps : List Pt} {q : List Pt} {j : Nat} (h : q.length ≤ j) : (q ++ ps.drop q.length).getD j (0, 0) = ps.getD j (0, 0) := by
  simp only [List.getD]
  rw [List.getElem?_append_right h, List.getElem?_drop]
  congr 2
  omega
theorem cg_len {ps q : List Pt} (h : q.length ≤ ps.length) : (q ++ ps.drop q.length).length = ps.length := by
  rw [List.length_append, List.length_drop]
  omega
theorem cg_set {ps q : List Pt} (h : q.length < ps.length) (z : Pt) : (q ++ ps.drop q.length).set q.length z = (q ++ [z]) ++ ps.drop (q.length + 1) := by
  rw [List.set_append_right _ _ (Nat.le_refl _), Nat.sub_self, drop_cons h (0, 0)]
  simp
theorem dupX_is (ps : List Pt) (m : Nat) : ((ps.getD m (0, 0)).1 == (ps.getD (m - 1) (0, 0)).1) = dupX ps m := rfl
set_option maxRecDepth 100000 in
theorem round_cgI (ps : List Pt) (k0 : Nat) (h : ps.length ≤ 1000000000) : Round_cgI ps k0 := by
  rintro ⟨j, q, X⟩ ⟨h1, h2, h3, hq0, rfl⟩
  rw [tr_cgI]
  have hq : (cxN ps (k0 + j)).length ≤ ps.length := by omega
  have hX := cg_len hq
  have g1 := cg_get (ps := ps) (q := cxN ps (k0 + j)) (j := k0 + j) (by omega)
  have g2 := cg_get (ps := ps) (q := cxN ps (k0 + j)) (j := k0 + j - 1) (by omega)
  rw [← hq0] at hX g1 g2
  have a2 : IntKind.i64.wrap ((j : Int) - 1) = ((j - 1 : Nat) : Int) := by rw [wr (by omega)]; omega
  refine brT_ok.2 ⟨fun hlt => ?_, fun hge => ?_⟩
  · have hlt := of_decide_eq_true hlt
    have hm : k0 + j < ps.length := by omega
    have a1 : k0 * 2 + (j : Int).toNat * 2 = (k0 + j) * 2 := by omega
    have a3 : k0 * 2 + ((j - 1 : Nat) : Int).toNat * 2 = (k0 + j - 1) * 2 := by omega
    have a4 : 0 + (q : Int).toNat * 2 = q * 2 := by omega
    have hs := flat_set (cxN ps (k0 + j) ++ ps.drop q) q (by omega) (ps.getD (k0 + j) (0, 0)).1 (ps.getD (k0 + j) (0, 0)).2
    have hs2 := cg_set (ps := ps) (q := cxN ps (k0 + j)) (by omega) (ps.getD (k0 + j) (0, 0))
    rw [← hq0] at hs2
    rw [hs2] at hs
    simp only [a2, a1, a3, a4, wsucc (i := j) (n := ps.length) (by omega) h, wsucc (i := q) (n := ps.length) (by omega) h, flat_get0, flat_get1, flat_length, g1, g2, dupX_is, hX, hs]
    refine ⟨by omega, by omega, by omega, by omega, brT_ok.2 ⟨fun c => ⟨by omega, by omega, by omega, by omega, ?_⟩, fun c => ?_⟩⟩
    · have hd : dupX ps (k0 + j) = false := by simpa [negB] using c
      have e := cg_new hd
      have el : q + 1 = (cxN ps (k0 + j + 1)).length := by rw [e]; simp; omega
      refine ⟨(j + 1, q + 1, cxN ps (k0 + j) ++ [ps.getD (k0 + j) (0, 0)] ++ ps.drop (q + 1)), [], ⟨by omega, by omega, by omega, el, by show _ = cxN ps (k0 + j + 1) ++ _; rw [e]⟩, ?_, rfl, by simp only [rs_cgI], ?_⟩
      · show ps.length - (k0 + (j + 1)) < ps.length - (k0 + j); omega
      · repeat' (first | exact True.intro | exact rfl | exact fun _ => rfl | (simp; done) | refine And.intro ?_ ?_)
    · have hd : dupX ps (k0 + j) = true := by simpa [negB] using c
      have e := cg_dup hd (by omega)
      refine ⟨(j + 1, q, cxN ps (k0 + j) ++ ps.drop q), [], ⟨by omega, by omega, by omega, by show _ = (cxN ps (k0 + j + 1)).length; rw [e]; exact hq0, by show _ = cxN ps (k0 + j + 1) ++ _; rw [e]⟩, ?_, rfl, by simp only [rs_cgI], ?_⟩
      · show ps.length - (k0 + (j + 1)) < ps.length - (k0 + j); omega
      · repeat' (first | exact True.intro | exact rfl | exact fun _ => rfl | (simp; done) | refine And.intro ?_ ?_)
  · have hge := of_decide_eq_false hge
    have hm : k0 + j = ps.length := by omega
    refine ⟨rfl, [], ?_⟩
    rw [hm] at hq0
    simp only [rs_cgI, hm, ← hq0]
    repeat' (first | exact True.intro | exact rfl | exact fun _ => rfl | (simp; done) | refine And.intro ?_ ?_)
set_option maxRecDepth 100000 in
theorem lg_cgI : LoopE Try.prog e_cgI c_cgI := by
  intro s k t F H hlt ht
  unfold e_cgI at hlt
  split at hlt
  rotate_left
  · cases hlt
  rename_i hlen hpick hmem
  obtain ⟨tmps, mem⟩ := s
  simp only at hlen hpick hmem
  subst hmem
  obtain rfl := Option.some.inj hlt
  obtain ⟨⟨rfl, h1, h6, h2, rfl, rfl, h3, h4, h5, _⟩, ht2⟩ := needs_ok ht
  clear ht hlt
  obtain ⟨ps, rfl, rfl⟩ := even_flat h1
  obtain ⟨k, rfl⟩ := Int.eq_ofNat_of_zero_le h6
  rw [ptsA_flat] at ht2 h3 h4
  simp only [Int.toNat_natCast] at ht2 h3 h4
  refine ⟨_, _, ht2, loop_run mixed ECf_ok (s_cgI ps k) (inv_cgI ps k) (me_cgI ps k) re_cgI (rs_cgI ps k) k_cgI (fun _ => rfl) (noLoops nl_cgI) (round_cgI ps k h5) (x := (1, k, ps)) (cg_start h2 h3 h4) (π := []) rfl ?_⟩
  refine ⟨rfl, rfl, ?_, wvs_spread' [0, 1, 5, 6, 7] hlen rfl ?_⟩
  · repeat' (first | exact True.intro | exact rfl | exact wv_top _ _ | exact fun _ => rfl | assumption | exact Eq.symm (by assumption) | exact vI0 rfl | refine And.intro ?_ ?_)
  · rw [hpick]
    repeat' (first | exact True.intro | exact rfl | exact wv_top _ _ | exact fun _ => rfl | assumption | exact Eq.symm (by assumption) | exact vI0 rfl | refine And.intro ?_ ?_)
end Go.Proofs.Ytolodncpegajkab
namespace Go.Proofs.Ytolodncpegajkab
set_option linter.all false
open Go.RowKit
def ltCg : LT := fun j s k => match j with
  | 1 => e_cgI s k
  | _ => none
noncomputable def c_cgO : Code := ((loopsOf (codeOf Try.f56))[0]?).getD .skip
def k_cgO : Ex → List Nat := keeps [0, 1, 5] [(0, [0])] [4]
def s_cgO (ps : List Pt) : Nat → St := fun i => ⟨(.slice (some ⟨0, 0, none⟩) ps.length ps.length :: .func (.func 58) #[] #[] :: topV :: topV :: topV :: .int .i64 i :: topV :: topV :: topV :: topV :: topV :: topV :: topV :: topV :: topV :: topV :: topV :: topV :: topV :: topV :: topV :: topV :: topV :: topV :: topV :: topV :: topV :: topV :: topV :: topV :: topV :: topV :: topV :: topV :: topV :: topV :: topV :: topV :: topV :: topV :: topV :: topV :: topV :: topV :: topV :: topV :: topV :: topV :: topV :: topV :: topV :: topV :: topV :: topV :: topV :: topV :: topV :: topV :: topV :: topV :: topV :: topV :: topV :: topV :: topV :: topV :: []), [some ⟨.row 44 2, .ints (flat ps)⟩]⟩
def re_cgO (ps : List Pt) : Nat → Ex := fun i => bif allQ (fun j => !(dupX ps j)) i (ps.length - i) then .exit 0 else .ret
def rs_cgO (ps : List Pt) : Nat → St := fun i => bif allQ (fun j => !(dupX ps j)) i (ps.length - i) then ⟨(.slice (some ⟨0, 0, none⟩) ps.length ps.length :: topV :: topV :: topV :: topV :: topV :: topV :: topV :: topV :: topV :: topV :: topV :: topV :: topV :: topV :: topV :: topV :: topV :: topV :: topV :: topV :: topV :: topV :: topV :: topV :: topV :: topV :: topV :: topV :: topV :: topV :: topV :: topV :: topV :: topV :: topV :: topV :: topV :: topV :: topV :: topV :: topV :: topV :: topV :: topV :: topV :: topV :: topV :: topV :: topV :: topV :: topV :: topV :: topV :: topV :: topV :: topV :: topV :: topV :: topV :: topV :: topV :: topV :: topV :: topV :: topV :: []), [some ⟨.row 44 2, .ints (flat ps)⟩]⟩ else ⟨(topV :: topV :: topV :: topV :: .slice (some ⟨0, 0, none⟩) (cxP ps).length (cxP ps).length :: topV :: topV :: topV :: topV :: topV :: topV :: topV :: topV :: topV :: topV :: topV :: topV :: topV :: topV :: topV :: topV :: topV :: topV :: topV :: topV :: topV :: topV :: topV :: topV :: topV :: topV :: topV :: topV :: topV :: topV :: topV :: topV :: topV :: topV :: topV :: topV :: topV :: topV :: topV :: topV :: topV :: topV :: topV :: topV :: topV :: topV :: topV :: topV :: topV :: topV :: topV :: topV :: topV :: topV :: topV :: topV :: topV :: topV :: topV :: topV :: topV :: []), [some ⟨.row 44 2, .ints (flat (cxP ps))⟩]⟩
set_option maxRecDepth 100000 in
theorem tr_cgO (ps : List Pt) (i : Nat) : bodyL Try.prog ECf 30 12 ltCg 1 c_cgO k_cgO 1 (s_cgO ps i) = brT (decide ((↑i : Int) < (↑ps.length : Int))) (.need ((0 : Int) ≤ (↑i : Int) ∧ (↑i : Int) < (↑ps.length : Int)) (.need ((0 : Nat) + (↑i : Int).toNat * (2 : Nat) + (2 : Nat) ≤ (flat ps).length) (.need ((0 : Int) ≤ IntKind.i64.wrap ((↑i : Int) - (1 : Int)) ∧ IntKind.i64.wrap ((↑i : Int) - (1 : Int)) < (↑ps.length : Int)) (.need ((0 : Nat) + (IntKind.i64.wrap ((↑i : Int) - (1 : Int))).toNat * (2 : Nat) + (2 : Nat) ≤ (flat ps).length) (brT ((flat ps).getD (0 + (↑i : Int).toNat * 2) 0 == (flat ps).getD (0 + (IntKind.i64.wrap ((↑i : Int) - 1)).toNat * 2) 0) (.need ((0 : Int) ≤ bndI (some (IntKind.i64, (↑i : Int))) (0 : Int) ∧ bndI (some (IntKind.i64, (↑i : Int))) (0 : Int) ≤ bndI none (↑ps.length : Int) ∧ bndI none (↑ps.length : Int) ≤ (↑ps.length : Int)) (.need ((1 : Int) = (1 : Int)) (.need ((flat ps).length = ps.length * (2 : Nat)) (.need ((0 : Int) ≤ (↑i : Int)) (.need ((1 : Int) ≤ (↑i : Int) ∧ (↑i : Int) < (↑ps.length : Int)) (.need ((0 : Nat) + (bndI (some (IntKind.i64, (↑i : Int))) (0 : Int)).toNat * (2 : Nat) = (↑i : Int).toNat * (2 : Nat)) (.need ((bndI none (↑ps.length : Int)).toNat - (bndI (some (IntKind.i64, (↑i : Int))) (0 : Int)).toNat = ps.length - (↑i : Int).toNat) (.need (dupX (ptsA ps.length (flat ps)) (↑i : Int).toNat = true) (.need (∀ (j : Nat), (1 : Nat) ≤ j → j < (↑i : Int).toNat → dupX (ptsA ps.length (flat ps)) j = false) (.need (ps.length ≤ (1000000000 : Nat)) (.need ((0 : Int) ≤ bndI (some (IntKind.i64, (↑(cxN (ptsA ps.length (flat ps)) ps.length).length : Int))) (0 : Int) ∧ bndI (some (IntKind.i64, (↑(cxN (ptsA ps.length (flat ps)) ps.length).length : Int))) (0 : Int) ≤ bndI none (↑ps.length : Int) ∧ bndI none (↑ps.length : Int) ≤ (↑ps.length : Int)) (.need ((0 : Nat) + (bndI (some (IntKind.i64, (↑(cxN (ptsA ps.length (flat ps)) ps.length).length : Int))) (0 : Int)).toNat * (2 : Nat) + ((bndI none (↑ps.length : Int)).toNat - (bndI (some (IntKind.i64, (↑(cxN (ptsA ps.length (flat ps)) ps.length).length : Int))) (0 : Int)).toNat) * (2 : Nat) ≤ (flat (cxN (ptsA ps.length (flat ps)) ps.length ++ List.drop (cxN (ptsA ps.length (flat ps)) ps.length).length (ptsA ps.length (flat ps)))).length) (.need ((0 : Int) ≤ bndI none (0 : Int) ∧ bndI none (0 : Int) ≤ bndI (some (IntKind.i64, (↑(cxN (ptsA ps.length (flat ps)) ps.length).length : Int))) (↑ps.length : Int) ∧ bndI (some (IntKind.i64, (↑(cxN (ptsA ps.length (flat ps)) ps.length).length : Int))) (↑ps.length : Int) ≤ (↑ps.length : Int)) (.leaf .ret ⟨(topV :: topV :: topV :: topV :: .slice (some ⟨0, 0, none⟩) ((bndI (some (IntKind.i64, (↑(cxN (ptsA ps.length (flat ps)) ps.length).length : Int))) (↑ps.length : Int)).toNat - 0) ((bndI (some (IntKind.i64, (↑(cxN (ptsA ps.length (flat ps)) ps.length).length : Int))) (↑ps.length : Int)).toNat - 0) :: topV :: topV :: topV :: topV :: topV :: topV :: topV :: topV :: topV :: topV :: topV :: topV :: topV :: topV :: topV :: topV :: topV :: topV :: topV :: topV :: topV :: topV :: topV :: topV :: topV :: topV :: topV :: topV :: topV :: topV :: topV :: topV :: topV :: topV :: topV :: topV :: topV :: topV :: topV :: topV :: topV :: topV :: topV :: topV :: topV :: topV :: topV :: topV :: topV :: topV :: topV :: topV :: topV :: topV :: topV :: topV :: topV :: topV :: topV :: topV :: topV :: []), [some ⟨.row 44 2, .ints (List.take (0 + (bndI (some (IntKind.i64, (↑(cxN (ptsA ps.length (flat ps)) ps.length).length : Int))) 0).toNat * 2) (flat (cxN (ptsA ps.length (flat ps)) ps.length ++ List.drop (cxN (ptsA ps.length (flat ps)) ps.length).length (ptsA ps.length (flat ps)))))⟩]⟩)))))))))))))) (.leaf .normal ⟨(.slice (some ⟨0, 0, none⟩) (ps.length) (ps.length) :: .func (Fn.func 58) #[] #[] :: topV :: topV :: topV :: .int .i64 (IntKind.i64.wrap ((↑i : Int) + 1)) :: topV :: topV :: topV :: topV :: topV :: topV :: topV :: topV :: topV :: topV :: topV :: topV :: topV :: topV :: topV :: topV :: topV :: topV :: topV :: topV :: topV :: topV :: topV :: topV :: topV :: topV :: topV :: topV :: topV :: topV :: topV :: topV :: topV :: topV :: topV :: topV :: topV :: topV :: topV :: topV :: topV :: topV :: topV :: topV :: topV :: topV :: topV :: topV :: topV :: topV :: topV :: topV :: topV :: topV :: topV :: topV :: topV :: topV :: topV :: topV :: []), [some ⟨.row 44 2, .ints (flat ps)⟩]⟩)))))) (.leaf (.exit 0) ⟨(.slice (some ⟨0, 0, none⟩) (ps.length) (ps.length) :: topV :: topV :: topV :: topV :: topV :: topV :: topV :: topV :: topV :: topV :: topV :: topV :: topV :: topV :: topV :: topV :: topV :: topV :: topV :: topV :: topV :: topV :: topV :: topV :: topV :: topV :: topV :: topV :: topV :: topV :: topV :: topV :: topV :: topV :: topV :: topV :: topV :: topV :: topV :: topV :: topV :: topV :: topV :: topV :: topV :: topV :: topV :: topV :: topV :: topV :: topV :: topV :: topV :: topV :: topV :: topV :: topV :: topV :: topV :: topV :: topV :: topV :: topV :: topV :: topV :: []), [some ⟨.row 44 2, .ints (flat ps)⟩]⟩) := by kernel_rfl
def inv_cgO (ps : List Pt) : Nat → Prop := fun i => 1 ≤ i ∧ i ≤ ps.length ∧ ∀ j, 1 ≤ j → j < i → dupX ps j = false
def me_cgO (ps : List Pt) : Nat → Nat := fun i => ps.length - i
/-- A round of this loop. -/
def Round_cgO (ps : List Pt) : Prop := ∀ xx : Nat, inv_cgO ps xx → (bodyL Try.prog ECf 30 12 ltCg 1 c_cgO k_cgO 1 (s_cgO ps xx)).ok (RoundEnd 1 (s_cgO ps) (inv_cgO ps) (me_cgO ps) (re_cgO ps) (rs_cgO ps) xx) (fun _ _ => False)
def e_cgO (s : St) (k : Ex → St → Tree) : Option Tree := match Nat.beq s.tmps.length 66, pickL s.tmps [0, 1, 5], s.mem with
  | true, [.slice (some ⟨0, 0, none⟩) n _, .func (.func 58) ⟨[]⟩ ⟨[]⟩, .int .i64 i], [some ⟨.row 44 2, .ints xs⟩] => some (needs [i = 1, xs.length = n * 2, 2 ≤ n, n ≤ 1000000000] (brT (allQ (fun j => !(dupX (ptsA n xs) j)) 1 (n - 1)) (k (.exit 0) ⟨(.slice (some ⟨0, 0, none⟩) n n :: topV :: topV :: topV :: topV :: topV :: topV :: topV :: topV :: topV :: topV :: topV :: topV :: topV :: topV :: topV :: topV :: topV :: topV :: topV :: topV :: topV :: topV :: topV :: topV :: topV :: topV :: topV :: topV :: topV :: topV :: topV :: topV :: topV :: topV :: topV :: topV :: topV :: topV :: topV :: topV :: topV :: topV :: topV :: topV :: topV :: topV :: topV :: topV :: topV :: topV :: topV :: topV :: topV :: topV :: topV :: topV :: topV :: topV :: topV :: topV :: topV :: topV :: topV :: topV :: topV :: []), [some ⟨.row 44 2, .ints xs⟩]⟩) (k .ret ⟨(topV :: topV :: topV :: topV :: .slice (some ⟨0, 0, none⟩) (cxP (ptsA n xs)).length (cxP (ptsA n xs)).length :: topV :: topV :: topV :: topV :: topV :: topV :: topV :: topV :: topV :: topV :: topV :: topV :: topV :: topV :: topV :: topV :: topV :: topV :: topV :: topV :: topV :: topV :: topV :: topV :: topV :: topV :: topV :: topV :: topV :: topV :: topV :: topV :: topV :: topV :: topV :: topV :: topV :: topV :: topV :: topV :: topV :: topV :: topV :: topV :: topV :: topV :: topV :: topV :: topV :: topV :: topV :: topV :: topV :: topV :: topV :: topV :: topV :: topV :: topV :: topV :: topV :: []), [some ⟨.row 44 2, .ints (flat (cxP (ptsA n xs)))⟩]⟩)))
  | _, _, _ => none
theorem bndF_some (x d : Int) : bndI (some (IntKind.i64, x)) d = x := rfl
theorem bndF_none (d : Int) : bndI none d = d := rfl
set_option maxRecDepth 100000 in
theorem in_cgO : loopsOf c_cgO = [c_cgI] := by kernel_rfl
theorem ltCg_good : LoopsGood Try.prog ltCg 1 c_cgO := by
  intro i d hd s k t F H hlt ht
  rw [in_cgO] at hd
  cases i with
  | zero =>
    obtain rfl : c_cgI = d := by simpa using hd
    exact lg_cgI s k t F H hlt ht
  | succ i => simp at hd
set_option maxRecDepth 100000 in
theorem round_cgO (ps : List Pt) (h : ps.length ≤ 1000000000) : Round_cgO ps := by
  rintro i ⟨h1, h2, h3⟩
  rw [tr_cgO]
  simp only [ptsA_flat, bndF_some, bndF_none, Int.toNat_natCast, Nat.zero_add, Nat.sub_zero]
  refine brT_ok.2 ⟨fun hlt => ?_, fun hge => ?_⟩
  · have hi : i < ps.length := by have := of_decide_eq_true hlt; omega
    have w1 : IntKind.i64.wrap ((i : Int) - 1) = ((i - 1 : Nat) : Int) := by rw [wr (by omega)]; omega
    have step : allQ (fun j => !(dupX ps j)) i (ps.length - i) = (!(dupX ps i) && allQ (fun j => !(dupX ps j)) (i + 1) (ps.length - (i + 1))) := allQ_step hi
    have hle := cxN_le ps ps.length
    have hX := cg_len hle
    simp only [w1, Int.toNat_natCast, flat_get0, flat_get1, flat_length, dupX_is, hX, wsucc hi h]
    refine ⟨by omega, by omega, by omega, by omega, brT_ok.2 ⟨fun q => ?_, fun q => ?_⟩⟩
    · have hd : dupX ps i = true := by simpa [negB] using q
      have e : allQ (fun j => !(dupX ps j)) i (ps.length - i) = false := by rw [step, hd]; rfl
      have hf : List.take ((cxN ps ps.length).length * 2) (flat (cxN ps ps.length ++ List.drop (cxN ps ps.length).length ps)) = flat (cxP ps) := by
        rw [flat_take, List.take_left]
        rfl
      rw [hf]
      refine ⟨by omega, by first | exact True.intro | rfl, by first | exact True.intro | rfl, by omega, by omega, by first | exact True.intro | rfl, by first | exact True.intro | rfl, hd, h3, h, by omega, by omega, by omega, ?_⟩
      refine ⟨by simp only [re_cgO, e, cond_false], [], ?_⟩
      simp only [rs_cgO, e, cond_false]
      repeat' (first | exact True.intro | exact rfl | exact fun _ => rfl | (simp; done) | refine And.intro ?_ ?_)
    · have hd : dupX ps i = false := by simpa [negB] using q
      have e : allQ (fun j => !(dupX ps j)) i (ps.length - i) = allQ (fun j => !(dupX ps j)) (i + 1) (ps.length - (i + 1)) := by rw [step, hd]; rfl
      refine ⟨i + 1, [], ⟨by omega, by omega, fun j g1 g2 => ?_⟩, ?_, by simp only [re_cgO, e], by simp only [rs_cgO, e], ?_⟩
      · rcases Nat.lt_or_ge j i with g | g
        · exact h3 j g1 g
        · obtain rfl : j = i := by omega
          exact hd
      · show ps.length - (i + 1) < ps.length - i; omega
      · repeat' (first | exact True.intro | exact rfl | exact fun _ => rfl | (simp; done) | refine And.intro ?_ ?_)
  · have hge := of_decide_eq_false hge
    obtain rfl : i = ps.length := by omega
    have e : allQ (fun j => !(dupX ps j)) ps.length (ps.length - ps.length) = true := allQ_end (by omega)
    refine ⟨by simp only [re_cgO, e, cond_true], [], ?_⟩
    simp only [rs_cgO, e, cond_true]
    repeat' (first | exact True.intro | exact rfl | exact fun _ => rfl | (simp; done) | refine And.intro ?_ ?_)
set_option maxRecDepth 100000 in
theorem lg_cgO : LoopE Try.prog e_cgO c_cgO := by
  intro s k t F H hlt ht
  unfold e_cgO at hlt
  split at hlt
  rotate_left
  · cases hlt
  rename_i hlen hpick hmem
  obtain ⟨tmps, mem⟩ := s
  simp only at hlen hpick hmem
  subst hmem
  obtain rfl := Option.some.inj hlt
  obtain ⟨⟨rfl, h1, h2, h5, _⟩, ht2⟩ := needs_ok ht
  clear ht hlt
  obtain ⟨ps, rfl, rfl⟩ := even_flat h1
  rw [ptsA_flat] at ht2
  refine ⟨_, _, pick2k ht2, loop_run mixed ECf_ok (s_cgO ps) (inv_cgO ps) (me_cgO ps) (re_cgO ps) (rs_cgO ps) k_cgO (fun _ => rfl) ltCg_good (round_cgO ps h5) (x := 1) ⟨Nat.le_refl _, by omega, fun j h1 h2 => by omega⟩ (π := []) rfl ?_⟩
  refine ⟨rfl, rfl, ?_, wvs_spread' [0, 1, 5] hlen rfl ?_⟩
  · repeat' (first | exact True.intro | exact rfl | exact wv_top _ _ | exact fun _ => rfl | assumption | exact Eq.symm (by assumption) | exact vI0 rfl | refine And.intro ?_ ?_)
  · rw [hpick]
    repeat' (first | exact True.intro | exact rfl | exact wv_top _ _ | exact fun _ => rfl | assumption | exact Eq.symm (by assumption) | exact vI0 rfl | refine And.intro ?_ ?_)
theorem Lr_cgO {fn : Func} (hf : Try.prog.funcs[56]? = some fn) : LoopsGood Try.prog (lt1 e_cgO) 0 (codeOf fn) := by
  obtain rfl := fn_is Try.func56 hf
  exact lt1_good lg_cgO
def LCg : FuncId → LT := fun f => match f with
  | 56 => lt1 e_cgO
  | _ => noL
def ECg : Env := mkE B0 (fun _ _ => none) LCg
theorem ECg_ok : EnvOk Try.prog ECg := mkEOk B0_ok (fun _ _ _ _ _ h => (by cases h)) (by
  intro f fn hf
  unfold LCg
  split
  all_goals first | with_reducible exact Lr_cgO hf | exact noL_good)
set_option maxRecDepth 100000 in
theorem tr_cgF (ps : List Pt) : bodyM Try.prog ECg (runM Try.prog ECg 30 12) 30 56 [.slice (some ⟨0, 0, none⟩) ps.length ps.length, .func (.func 58) #[] #[]] [some ⟨.row 44 2, .ints (flat ps)⟩] .fin = brT (decide ((↑ps.length : Int) < 2)) (.fin (.slice (some ⟨0, 0, none⟩) (ps.length) (ps.length)) [some ⟨.row 44 2, .ints (flat ps)⟩]) (.need ((1 : Int) = (1 : Int)) (.need ((flat ps).length = ps.length * (2 : Nat)) (.need ((2 : Nat) ≤ ps.length) (.need (ps.length ≤ (1000000000 : Nat)) (brT (allQ (fun j => !dupX (ptsA ps.length (flat ps)) j) 1 (ps.length - 1)) (.fin (.slice (some ⟨0, 0, none⟩) (ps.length) (ps.length)) [some ⟨.row 44 2, .ints (flat ps)⟩]) (.fin (.slice (some ⟨0, 0, none⟩) ((cxP (ptsA ps.length (flat ps))).length) ((cxP (ptsA ps.length (flat ps))).length)) [some ⟨.row 44 2, .ints (flat (cxP (ptsA ps.length (flat ps))))⟩])))))) := by kernel_rfl
theorem cpf_row (ps : List Pt) (h : ps.length ≤ 1000000000) : (bodyM Try.prog ECg (runM Try.prog ECg 30 12) 30 56 [.slice (some ⟨0, 0, none⟩) ps.length ps.length, .func (.func 58) #[] #[]] [some ⟨.row 44 2, .ints (flat ps)⟩] .fin).ok (fun _ _ => False) (fun u mem' => RowIs (.slice (some ⟨0, 0, none⟩) (cxP ps).length (cxP ps).length) ⟨.row 44 2, .ints (flat (cxP ps))⟩ u mem') := by
  rw [tr_cgF]
  simp only [ptsA_flat]
  have same : (∀ j, 1 ≤ j → j < ps.length → dupX ps j = false) → cxP ps = ps := fun hn => by
    unfold cxP
    rw [cxN_take _ (Nat.le_refl _) hn, List.take_length]
  refine brT_ok.2 ⟨fun hlt => ?_, fun hge => ?_⟩
  · have hlt := of_decide_eq_true hlt
    rw [same fun j h1 h2 => by omega]
    exact ⟨some 0, ⟨rfl, rfl, rfl⟩, rfl, rfl, rfl⟩
  · have hge := of_decide_eq_false hge
    refine ⟨by first | exact True.intro | rfl, flat_length ps, by omega, h, brT_ok.2 ⟨fun q => ?_, fun q => ?_⟩⟩
    · have q : allQ (fun j => !(dupX ps j)) 1 (ps.length - 1) = true := q
      rw [same fun j h1 h2 => by simpa using allQ_get _ _ q j h1 (by omega)]
      exact ⟨some 0, ⟨rfl, rfl, rfl⟩, rfl, rfl, rfl⟩
    · exact ⟨some 0, ⟨rfl, rfl, rfl⟩, rfl, rfl, rfl⟩
def cpfS : OSpec := fun e sz l xs rest => match e, sz, rest with
  | 44, 2, [.func (.func 58) ⟨[]⟩ ⟨[]⟩] => some (.slice (some ⟨0, 0, none⟩) (cxP (ptsA l xs)).length (cxP (ptsA l xs)).length, ⟨.row 44 2, .ints (flat (cxP (ptsA l xs)))⟩, [xs.length = l * 2, l ≤ 1000000000])
  | _, _, _ => none
set_option maxRecDepth 100000 in
theorem cpfS_ok : OSpecOk Try.prog 56 cpfS := by
  intro e sz l xs rest v b C h hC
  unfold cpfS at h
  split at h
  rotate_left
  · cases h
  obtain ⟨rfl, rfl, rfl⟩ : _ ∧ _ ∧ _ := by simpa using h
  obtain ⟨h1, h2, _⟩ := hC
  obtain ⟨ps, rfl, rfl⟩ := even_flat h1
  rw [ptsA_flat]
  exact ⟨rfl, ECg, 30, 12, ECg_ok, cpf_row ps h2⟩
end Go.Proofs.Ytolodncpegajkab
namespace Go.Proofs.Ytolodncpegajkab
set_option linter.all false
open Go.RowKit
def ixsU (gs cs : List Pt) (i : Nat) : List Int := (cs.take i).map fun p => ixG gs p.1 p.2
theorem ixsU_snoc {gs cs : List Pt} {i : Nat} (h : i < cs.length) : ixsU gs cs (i + 1) = ixsU gs cs i ++ [ixG gs (cs.getD i (0, 0)).1 (cs.getD i (0, 0)).2] := by
  unfold ixsU
  rw [List.take_add_one, List.map_append]
  simp [List.getD, h]
theorem ixsU_len {gs cs : List Pt} {i : Nat} (h : i ≤ cs.length) : (ixsU gs cs i).length = i := by
  unfold ixsU
  rw [List.length_map, List.length_take]
  omega
noncomputable def c_iUe : Code := ((loopsOf (codeOf Try.f18))[1]?).getD .skip
def k_iUe : Ex → List Nat := keeps [0, 6, 28, 29, 30] [(2, [6])] [2]
def s_iUe (gs cs : List Pt) (x1 x3 : List Int) : Nat → St := fun i => ⟨(.slice (some ⟨0, 0, none⟩) gs.length gs.length :: topV :: topV :: topV :: topV :: topV :: .slice (some ⟨5, 0, none⟩) i i :: topV :: topV :: topV :: topV :: topV :: topV :: topV :: topV :: topV :: topV :: topV :: topV :: topV :: topV :: topV :: topV :: topV :: topV :: topV :: topV :: topV :: .slice (some ⟨4, 0, none⟩) cs.length cs.length :: .int .i64 cs.length :: .int .i64 i :: topV :: topV :: topV :: topV :: topV :: topV :: topV :: topV :: topV :: topV :: topV :: topV :: []), [some ⟨.view, .ints (flat gs)⟩, some ⟨.row 44 2, .ints x1⟩, some ⟨.dead, .vals []⟩, some ⟨.row 44 2, .ints x3⟩, some ⟨.row 44 2, .ints (flat cs)⟩, some ⟨.row 3 1, .ints (ixsU gs cs i)⟩]⟩
def re_iUe : Nat → Ex := fun _ => .exit 2
def rs_iUe (gs cs : List Pt) (x1 x3 : List Int) : Nat → St := fun i => ⟨(topV :: topV :: topV :: topV :: topV :: topV :: .slice (some ⟨5, 0, none⟩) cs.length cs.length :: topV :: topV :: topV :: topV :: topV :: topV :: topV :: topV :: topV :: topV :: topV :: topV :: topV :: topV :: topV :: topV :: topV :: topV :: topV :: topV :: topV :: topV :: topV :: topV :: topV :: topV :: topV :: topV :: topV :: topV :: topV :: topV :: topV :: topV :: topV :: topV :: []), [some ⟨.view, .ints (flat gs)⟩, some ⟨.row 44 2, .ints x1⟩, some ⟨.dead, .vals []⟩, some ⟨.row 44 2, .ints x3⟩, some ⟨.row 44 2, .ints (flat cs)⟩, some ⟨.row 3 1, .ints (ixsU gs cs cs.length)⟩]⟩
set_option maxRecDepth 100000 in
theorem tr_iUe (gs cs : List Pt) (x1 x3 : List Int) (i : Nat) : bodyL Try.prog EUe 30 12 noL 2 c_iUe k_iUe 20 (s_iUe gs cs x1 x3 i) = brT (decide ((↑i : Int) < (↑cs.length : Int))) (.need ((0 : Int) ≤ (↑i : Int) ∧ (↑i : Int) < (↑cs.length : Int)) (.need ((0 : Nat) + (↑i : Int).toNat * (2 : Nat) + (2 : Nat) ≤ (flat cs).length) (brT (!ptB ((flat cs).getD (0 + (↑i : Int).toNat * 2) 0) ((flat cs).getD (0 + (↑i : Int).toNat * 2 + 1) 0)) (.need (gs.length * (2 : Nat) ≤ (List.drop (0 : Nat) (flat gs)).length) (.need (gs.length ≤ (1000000000 : Nat)) (.need ((i + (1 : Nat)) * (8 : Nat) ≤ (140737488355328 : Nat) ∧ i + (1 : Nat) ≤ (1000000 : Nat)) (.need ((0 : Nat) + i * (1 : Nat) ≤ (ixsU gs cs i).length) (.leaf .normal ⟨(.slice (some ⟨0, 0, none⟩) (gs.length) (gs.length) :: topV :: topV :: topV :: topV :: topV :: .slice (some ⟨8, 0, none⟩) (i + 1) (i + 1) :: topV :: topV :: topV :: topV :: topV :: topV :: topV :: topV :: topV :: topV :: topV :: topV :: topV :: topV :: topV :: topV :: topV :: topV :: topV :: topV :: topV :: .slice (some ⟨4, 0, none⟩) (cs.length) (cs.length) :: .int .i64 ((↑cs.length : Int)) :: .int .i64 (IntKind.i64.wrap ((↑i : Int) + 1)) :: topV :: topV :: topV :: topV :: topV :: topV :: topV :: topV :: topV :: topV :: topV :: topV :: []), [some ⟨.view, .ints (flat gs)⟩, some ⟨.row 44 2, .ints (x1)⟩, some deadB, some ⟨.row 44 2, .ints (x3)⟩, some ⟨.row 44 2, .ints (flat cs)⟩, some deadB, some ⟨.box, .vals [.int .i64 ((flat cs).getD (0 + (↑i : Int).toNat * 2) 0), .int .i64 ((flat cs).getD (0 + (↑i : Int).toNat * 2 + 1) 0)]⟩, some ⟨.row 3 1, .vals [.int .i64 (ixG (ptsA gs.length (List.drop 0 (flat gs))) 0 0)]⟩, some ⟨.row 3 1, .ints (List.take (i * 1) (List.drop 0 (ixsU gs cs i)) ++ [ixG (ptsA gs.length (List.drop 0 (flat gs))) 0 0])⟩, some ⟨.box, .vals [.int .i64 ((flat cs).getD (0 + (↑i : Int).toNat * 2) 0), .int .i64 ((flat cs).getD (0 + (↑i : Int).toNat * 2 + 1) 0)]⟩, some ⟨.box, .vals [.int .i64 (0), .int .i64 (0)]⟩]⟩))))) (.need (gs.length * (2 : Nat) ≤ (List.drop (0 : Nat) (flat gs)).length) (.need (gs.length ≤ (1000000000 : Nat)) (.need ((i + (1 : Nat)) * (8 : Nat) ≤ (140737488355328 : Nat) ∧ i + (1 : Nat) ≤ (1000000 : Nat)) (.need ((0 : Nat) + i * (1 : Nat) ≤ (ixsU gs cs i).length) (.leaf .normal ⟨(.slice (some ⟨0, 0, none⟩) (gs.length) (gs.length) :: topV :: topV :: topV :: topV :: topV :: .slice (some ⟨8, 0, none⟩) (i + 1) (i + 1) :: topV :: topV :: topV :: topV :: topV :: topV :: topV :: topV :: topV :: topV :: topV :: topV :: topV :: topV :: topV :: topV :: topV :: topV :: topV :: topV :: topV :: .slice (some ⟨4, 0, none⟩) (cs.length) (cs.length) :: .int .i64 ((↑cs.length : Int)) :: .int .i64 (IntKind.i64.wrap ((↑i : Int) + 1)) :: topV :: topV :: topV :: topV :: topV :: topV :: topV :: topV :: topV :: topV :: topV :: topV :: []), [some ⟨.view, .ints (flat gs)⟩, some ⟨.row 44 2, .ints (x1)⟩, some deadB, some ⟨.row 44 2, .ints (x3)⟩, some ⟨.row 44 2, .ints (flat cs)⟩, some deadB, some ⟨.box, .vals [.int .i64 ((flat cs).getD (0 + (↑i : Int).toNat * 2) 0), .int .i64 ((flat cs).getD (0 + (↑i : Int).toNat * 2 + 1) 0)]⟩, some ⟨.row 3 1, .vals [.int .i64 (ixG (ptsA gs.length (List.drop 0 (flat gs))) ((flat cs).getD (0 + (↑i : Int).toNat * 2) 0) ((flat cs).getD (0 + (↑i : Int).toNat * 2 + 1) 0))]⟩, some ⟨.row 3 1, .ints (List.take (i * 1) (List.drop 0 (ixsU gs cs i)) ++ [ixG (ptsA gs.length (List.drop 0 (flat gs))) ((flat cs).getD (0 + (↑i : Int).toNat * 2) 0) ((flat cs).getD (0 + (↑i : Int).toNat * 2 + 1) 0)])⟩, some ⟨.box, .vals [.int .i64 ((flat cs).getD (0 + (↑i : Int).toNat * 2) 0), .int .i64 ((flat cs).getD (0 + (↑i : Int).toNat * 2 + 1) 0)]⟩, some ⟨.box, .vals [.int .i64 ((flat cs).getD (0 + (↑i : Int).toNat * 2) 0), .int .i64 ((flat cs).getD (0 + (↑i : Int).toNat * 2 + 1) 0)]⟩]⟩)))))))) (.leaf (.exit 2) ⟨(topV :: topV :: topV :: topV :: topV :: topV :: .slice (some ⟨5, 0, none⟩) (i) (i) :: topV :: topV :: topV :: topV :: topV :: topV :: topV :: topV :: topV :: topV :: topV :: topV :: topV :: topV :: topV :: topV :: topV :: topV :: topV :: topV :: topV :: topV :: topV :: topV :: topV :: topV :: topV :: topV :: topV :: topV :: topV :: topV :: topV :: topV :: topV :: topV :: []), [some ⟨.view, .ints (flat gs)⟩, some ⟨.row 44 2, .ints (x1)⟩, some deadB, some ⟨.row 44 2, .ints (x3)⟩, some ⟨.row 44 2, .ints (flat cs)⟩, some ⟨.row 3 1, .ints (ixsU gs cs i)⟩]⟩) := by kernel_rfl
set_option maxRecDepth 100000 in
theorem nl_iUe : loopsOf c_iUe = [] := by kernel_rfl
def inv_iUe (gs cs : List Pt) (x1 x3 : List Int) : Nat → Prop := fun i => i ≤ cs.length
def me_iUe (gs cs : List Pt) (x1 x3 : List Int) : Nat → Nat := fun i => cs.length - i
/-- A round of this loop. -/
def Round_iUe (gs cs : List Pt) (x1 x3 : List Int) : Prop := ∀ xx : Nat, inv_iUe gs cs x1 x3 xx → (bodyL Try.prog EUe 30 12 noL 2 c_iUe k_iUe 20 (s_iUe gs cs x1 x3 xx)).ok (RoundEnd 5 (s_iUe gs cs x1 x3) (inv_iUe gs cs x1 x3) (me_iUe gs cs x1 x3) re_iUe (rs_iUe gs cs x1 x3) xx) (fun _ _ => False)
def e_iUe (s : St) (k : Ex → St → Tree) : Option Tree := match Nat.beq s.tmps.length 43, pickL s.tmps [0, 6, 28, 29, 30], s.mem with
  | true, [.slice (some ⟨0, 0, none⟩) n _, .slice none 0 0, .slice (some ⟨4, 0, none⟩) m _, .int .i64 n2, .int .i64 ii], [some ⟨.view, .ints xs⟩, some ⟨.row 44 2, .ints x1⟩, some ⟨.dead, .vals []⟩, some ⟨.row 44 2, .ints x3⟩, some ⟨.row 44 2, .ints ys⟩] => some (needs [ii = 0, n2 = m, xs.length = n * 2, n ≤ 8, ys.length = m * 2, m ≤ 1000, allV (ptsA m ys) = true] (k (.exit 2) ⟨(topV :: topV :: topV :: topV :: topV :: topV :: .slice (some ⟨5, 0, none⟩) m m :: topV :: topV :: topV :: topV :: topV :: topV :: topV :: topV :: topV :: topV :: topV :: topV :: topV :: topV :: topV :: topV :: topV :: topV :: topV :: topV :: topV :: topV :: topV :: topV :: topV :: topV :: topV :: topV :: topV :: topV :: topV :: topV :: topV :: topV :: topV :: topV :: []), [some ⟨.view, .ints xs⟩, some ⟨.row 44 2, .ints x1⟩, some ⟨.dead, .vals []⟩, some ⟨.row 44 2, .ints x3⟩, some ⟨.row 44 2, .ints ys⟩, some ⟨.row 3 1, .ints (ixsU (ptsA n xs) (ptsA m ys) m)⟩]⟩))
  | _, _, _ => none
set_option maxRecDepth 100000 in
theorem round_iUe (gs cs : List Pt) (x1 x3 : List Int) (h : gs.length ≤ 8) (hm : cs.length ≤ 1000) (hv : allV cs = true) : Round_iUe gs cs x1 x3 := by
  intro i h1
  have h1 : i ≤ cs.length := h1
  rw [tr_iUe]
  have fl := flat_length cs
  have fg := flat_length gs
  have lt := ixsU_len (gs := gs) h1
  refine brT_ok.2 ⟨fun hlt => ?_, fun hge => ?_⟩
  · have hlt := of_decide_eq_true hlt
    have hi : i < cs.length := by omega
    have hv1 := allV_atU hv hi
    have tk := ixsU_snoc (gs := gs) hi
    have fk : List.take (i * 1) (ixsU gs cs i) = ixsU gs cs i := List.take_of_length_le (by omega)
    rw [wsucc (n := cs.length) hi (by omega)]
    simp only [Int.toNat_natCast, Nat.zero_add, flat_get0, flat_get1, List.drop_zero, fk, hv1, Bool.not_true, brT_f, Tree.ok, ptsA_flat]
    refine ⟨by omega, by omega, by omega, by omega, by omega, by omega, i + 1, [some 8], ?_, ?_, rfl, rfl, ?_⟩
    · show i + 1 ≤ cs.length; omega
    · show cs.length - (i + 1) < cs.length - i; omega
    · unfold s_iUe
      rw [tk]
      repeat' (first | exact True.intro | exact rfl | exact fun _ => rfl | (simp; done) | refine And.intro ?_ ?_)
  · have hge := of_decide_eq_false hge
    obtain rfl : i = cs.length := by omega
    refine ⟨rfl, [some 5], ?_⟩
    unfold rs_iUe
    repeat' (first | exact True.intro | exact rfl | exact fun _ => rfl | (simp; done) | refine And.intro ?_ ?_)
set_option maxRecDepth 100000 in
theorem lg_iUe : LoopE Try.prog e_iUe c_iUe := by
  intro s k t F H hlt ht
  unfold e_iUe at hlt
  split at hlt
  rotate_left
  · cases hlt
  rename_i hlen hpick hmem
  obtain ⟨tmps, mem⟩ := s
  simp only at hlen hpick hmem
  subst hmem
  obtain rfl := Option.some.inj hlt
  obtain ⟨⟨rfl, rfl, h1, h2, h3, h4, h5, _⟩, ht2⟩ := needs_ok ht
  clear ht hlt
  obtain ⟨gs, rfl, rfl⟩ := even_flat h1
  obtain ⟨cs, rfl, rfl⟩ := even_flat h3
  rw [ptsA_flat] at h5
  rw [ptsA_flat, ptsA_flat] at ht2
  refine ⟨_, _, ht2, loop_run2 mixed EUe_ok (s_iUe gs cs _ _) (inv_iUe gs cs _ _) (me_iUe gs cs _ _) re_iUe (rs_iUe gs cs _ _) k_iUe (fun _ => rfl) (noLoops nl_iUe) (round_iUe gs cs _ _ h2 h4 h5) (x := 0) (Nat.zero_le _) (π := [none]) rfl ?_⟩
  refine ⟨rfl, rfl, ?_, wvs_spread' [0, 6, 28, 29, 30] hlen rfl ?_⟩
  · repeat' (first | exact True.intro | exact rfl | exact wv_top _ _ | exact fun _ => rfl | assumption | exact Eq.symm (by assumption) | exact vI0 rfl | refine And.intro ?_ ?_)
  · rw [hpick]
    repeat' (first | exact True.intro | exact rfl | exact wv_top _ _ | exact fun _ => rfl | assumption | exact Eq.symm (by assumption) | exact vI0 rfl | refine And.intro ?_ ?_)
def ltUi : LT := fun j s k => match j with
  | 0 => e_iDu s k
  | 1 => e_iUe s k
  | _ => none
set_option maxRecDepth 100000 in
theorem in_Ui : loopsOf (codeOf Try.f18) = [c_iDu, c_iUe] := by kernel_rfl
theorem ltUi_good : LoopsGood Try.prog ltUi 0 (codeOf Try.f18) := by
  intro i d hd s k t F H hlt ht
  rw [in_Ui] at hd
  match i, hd with
  | 0, hd =>
    obtain rfl : c_iDu = d := by simpa using hd
    exact lg_iDu s k t F H hlt ht
  | 1, hd =>
    obtain rfl : c_iUe = d := by simpa using hd
    exact lg_iUe s k t F H hlt ht
theorem Lr_ui {fn : Func} (hf : Try.prog.funcs[18]? = some fn) : LoopsGood Try.prog ltUi 0 (codeOf fn) := by
  obtain rfl := fn_is Try.func18 hf
  exact ltUi_good
def LUi : FuncId → LT := fun f => match f with
  | 18 => ltUi
  | _ => noL
def JCf : TabJ := consR 56 (owG cpfS) noJ
theorem JCf_ok : GSound Try.prog JCf.g := consO_ok mixed (failG_sound _) (entersB_res (by kernel_rfl)).1 cpfS_ok
def EUi : Env := withT (mkE TVg RHu LUi) JCf
theorem EUi_ok : EnvOk Try.prog EUi := withT_ok (mkEOk TVg_ok RHu_ok (by
  intro f fn hf
  unfold LUi
  split
  all_goals first | with_reducible exact Lr_ui hf | exact noL_good)) JCf_ok
set_option maxRecDepth 100000 in
theorem tr_iUF (gs : List Pt) : bodyX Try.prog EUi 30 12 18 [.row gs.length (.ints (flat gs))] = .need (gs.length * (2 : Nat) ≤ (List.drop (0 : Nat) (flat gs)).length) (.need (gs.length ≤ (1000000000 : Nat)) (brT (!vgB (ptsA gs.length (List.drop 0 (flat gs)))) (.fin (.slice none (0) (0)) [some ⟨.view, .ints (flat gs)⟩]) (.need ((0 : Int) = (0 : Int)) (.need (gs.length = gs.length) (.need ((↑gs.length : Int) = (↑gs.length : Int)) (.need ((flat gs).length = gs.length * (2 : Nat)) (.need (gs.length ≤ (8 : Nat)) (.need (allV (ptsA gs.length (flat gs)) = true) (.need (gs.length * (2 : Nat) ≤ (List.drop (0 : Nat) (flat gs)).length) (.need (gs.length ≤ (1000000000 : Nat)) (.need ((flat (spV (ptsA gs.length (List.drop (0 : Nat) (flat gs))))).length = (spV (ptsA gs.length (List.drop (0 : Nat) (flat gs)))).length * (2 : Nat)) (.need ((spV (ptsA gs.length (List.drop (0 : Nat) (flat gs)))).length ≤ (1000000000 : Nat)) (.need ((cxP (ptsA (spV (ptsA gs.length (List.drop (0 : Nat) (flat gs)))).length (flat (spV (ptsA gs.length (List.drop (0 : Nat) (flat gs))))))).length * (2 : Nat) ≤ (List.drop (0 : Nat) (flat (cxP (ptsA (spV (ptsA gs.length (List.drop (0 : Nat) (flat gs)))).length (flat (spV (ptsA gs.length (List.drop (0 : Nat) (flat gs))))))))).length) (.need (allV (ptsA (cxP (ptsA (spV (ptsA gs.length (List.drop (0 : Nat) (flat gs)))).length (flat (spV (ptsA gs.length (List.drop (0 : Nat) (flat gs))))))).length (List.drop (0 : Nat) (flat (cxP (ptsA (spV (ptsA gs.length (List.drop (0 : Nat) (flat gs)))).length (flat (spV (ptsA gs.length (List.drop (0 : Nat) (flat gs)))))))))) = true) (.need ((cxP (ptsA (spV (ptsA gs.length (List.drop (0 : Nat) (flat gs)))).length (flat (spV (ptsA gs.length (List.drop (0 : Nat) (flat gs))))))).length ≤ (1000 : Nat)) (.need ((0 : Int) = (0 : Int)) (.need ((↑(chn [] (ptsA (cxP (ptsA (spV (ptsA gs.length (List.drop (0 : Nat) (flat gs)))).length (flat (spV (ptsA gs.length (List.drop (0 : Nat) (flat gs))))))).length (List.drop (0 : Nat) (flat (cxP (ptsA (spV (ptsA gs.length (List.drop (0 : Nat) (flat gs)))).length (flat (spV (ptsA gs.length (List.drop (0 : Nat) (flat gs))))))))))).length : Int) = (↑(chn [] (ptsA (cxP (ptsA (spV (ptsA gs.length (List.drop (0 : Nat) (flat gs)))).length (flat (spV (ptsA gs.length (List.drop (0 : Nat) (flat gs))))))).length (List.drop (0 : Nat) (flat (cxP (ptsA (spV (ptsA gs.length (List.drop (0 : Nat) (flat gs)))).length (flat (spV (ptsA gs.length (List.drop (0 : Nat) (flat gs))))))))))).length : Int)) (.need ((flat gs).length = gs.length * (2 : Nat)) (.need (gs.length ≤ (8 : Nat)) (.need ((flat (chn [] (ptsA (cxP (ptsA (spV (ptsA gs.length (List.drop (0 : Nat) (flat gs)))).length (flat (spV (ptsA gs.length (List.drop (0 : Nat) (flat gs))))))).length (List.drop (0 : Nat) (flat (cxP (ptsA (spV (ptsA gs.length (List.drop (0 : Nat) (flat gs)))).length (flat (spV (ptsA gs.length (List.drop (0 : Nat) (flat gs)))))))))))).length = (chn [] (ptsA (cxP (ptsA (spV (ptsA gs.length (List.drop (0 : Nat) (flat gs)))).length (flat (spV (ptsA gs.length (List.drop (0 : Nat) (flat gs))))))).length (List.drop (0 : Nat) (flat (cxP (ptsA (spV (ptsA gs.length (List.drop (0 : Nat) (flat gs)))).length (flat (spV (ptsA gs.length (List.drop (0 : Nat) (flat gs))))))))))).length * (2 : Nat)) (.need ((chn [] (ptsA (cxP (ptsA (spV (ptsA gs.length (List.drop (0 : Nat) (flat gs)))).length (flat (spV (ptsA gs.length (List.drop (0 : Nat) (flat gs))))))).length (List.drop (0 : Nat) (flat (cxP (ptsA (spV (ptsA gs.length (List.drop (0 : Nat) (flat gs)))).length (flat (spV (ptsA gs.length (List.drop (0 : Nat) (flat gs))))))))))).length ≤ (1000 : Nat)) (.need (allV (ptsA (chn [] (ptsA (cxP (ptsA (spV (ptsA gs.length (List.drop (0 : Nat) (flat gs)))).length (flat (spV (ptsA gs.length (List.drop (0 : Nat) (flat gs))))))).length (List.drop (0 : Nat) (flat (cxP (ptsA (spV (ptsA gs.length (List.drop (0 : Nat) (flat gs)))).length (flat (spV (ptsA gs.length (List.drop (0 : Nat) (flat gs))))))))))).length (flat (chn [] (ptsA (cxP (ptsA (spV (ptsA gs.length (List.drop (0 : Nat) (flat gs)))).length (flat (spV (ptsA gs.length (List.drop (0 : Nat) (flat gs))))))).length (List.drop (0 : Nat) (flat (cxP (ptsA (spV (ptsA gs.length (List.drop (0 : Nat) (flat gs)))).length (flat (spV (ptsA gs.length (List.drop (0 : Nat) (flat gs))))))))))))) = true) (.fin (.slice (some ⟨5, 0, none⟩) ((chn [] (ptsA (cxP (ptsA (spV (ptsA gs.length (List.drop 0 (flat gs)))).length (flat (spV (ptsA gs.length (List.drop 0 (flat gs))))))).length (List.drop 0 (flat (cxP (ptsA (spV (ptsA gs.length (List.drop 0 (flat gs)))).length (flat (spV (ptsA gs.length (List.drop 0 (flat gs))))))))))).length) ((chn [] (ptsA (cxP (ptsA (spV (ptsA gs.length (List.drop 0 (flat gs)))).length (flat (spV (ptsA gs.length (List.drop 0 (flat gs))))))).length (List.drop 0 (flat (cxP (ptsA (spV (ptsA gs.length (List.drop 0 (flat gs)))).length (flat (spV (ptsA gs.length (List.drop 0 (flat gs))))))))))).length)) [some ⟨.view, .ints (flat gs)⟩, some ⟨.row 44 2, .ints (flat gs)⟩, some deadB, some ⟨.row 44 2, .ints (flat (cxP (ptsA (spV (ptsA gs.length (List.drop 0 (flat gs)))).length (flat (spV (ptsA gs.length (List.drop 0 (flat gs))))))))⟩, some ⟨.row 44 2, .ints (flat (chn [] (ptsA (cxP (ptsA (spV (ptsA gs.length (List.drop 0 (flat gs)))).length (flat (spV (ptsA gs.length (List.drop 0 (flat gs))))))).length (List.drop 0 (flat (cxP (ptsA (spV (ptsA gs.length (List.drop 0 (flat gs)))).length (flat (spV (ptsA gs.length (List.drop 0 (flat gs))))))))))))⟩, some ⟨.row 3 1, .ints (ixsU (ptsA gs.length (flat gs)) (ptsA (chn [] (ptsA (cxP (ptsA (spV (ptsA gs.length (List.drop 0 (flat gs)))).length (flat (spV (ptsA gs.length (List.drop 0 (flat gs))))))).length (List.drop 0 (flat (cxP (ptsA (spV (ptsA gs.length (List.drop 0 (flat gs)))).length (flat (spV (ptsA gs.length (List.drop 0 (flat gs))))))))))).length (flat (chn [] (ptsA (cxP (ptsA (spV (ptsA gs.length (List.drop 0 (flat gs)))).length (flat (spV (ptsA gs.length (List.drop 0 (flat gs))))))).length (List.drop 0 (flat (cxP (ptsA (spV (ptsA gs.length (List.drop 0 (flat gs)))).length (flat (spV (ptsA gs.length (List.drop 0 (flat gs))))))))))))) (chn [] (ptsA (cxP (ptsA (spV (ptsA gs.length (List.drop 0 (flat gs)))).length (flat (spV (ptsA gs.length (List.drop 0 (flat gs))))))).length (List.drop 0 (flat (cxP (ptsA (spV (ptsA gs.length (List.drop 0 (flat gs)))).length (flat (spV (ptsA gs.length (List.drop 0 (flat gs))))))))))).length)⟩]))))))))))))))))))))))) := by kernel_rfl
end Go.Proofs.Ytolodncpegajkab
namespace Go.Proofs.Ytolodncpegajkab
set_option linter.all false
open Go.RowKit
/-- A vector that leads on in the order of points. -/
def posV (u : Pt) : Prop := 0 < u.1 ∨ u.1 = 0 ∧ 0 < u.2
def cr2 (u v : Pt) : Int := u.1 * v.2 - u.2 * v.1
def dif (b a : Pt) : Pt := (b.1 - a.1, b.2 - a.2)
theorem cr_tr {u v w : Pt} (hu : posV u) (hv : posV v) (hw : posV w) (h1 : 0 ≤ cr2 u v) (h2 : 0 ≤ cr2 v w) : 0 ≤ cr2 u w ∧ (0 < cr2 u v ∨ 0 < cr2 v w → 0 < cr2 u w) := by
  obtain ⟨a, b⟩ := u
  obtain ⟨c, d⟩ := v
  obtain ⟨e, f⟩ := w
  unfold posV cr2 at *
  simp only at *
  rcases hv with hc | ⟨rfl, hd⟩
  · have ha : 0 < a := by
      rcases hu with h | ⟨rfl, hb⟩
      · exact h
      · have := Int.mul_pos hb hc
        omega
    rcases hw with he | ⟨rfl, hf⟩
    · have id : c * (a * f - b * e) = a * (c * f - d * e) + e * (a * d - b * c) := by grind
      have n1 := Int.mul_nonneg (Int.le_of_lt ha) h2
      have n2 := Int.mul_nonneg (Int.le_of_lt he) h1
      generalize a * f - b * e = X at *
      refine ⟨?_, fun h => ?_⟩
      · rcases Int.lt_or_le X 0 with h | h
        · have := Int.mul_neg_of_pos_of_neg hc h
          omega
        · exact h
      · rcases Int.lt_or_le 0 X with h' | h'
        · exact h'
        · have := Int.mul_nonpos_of_nonneg_of_nonpos (Int.le_of_lt hc) h'
          rcases h with h | h
          · have := Int.mul_pos he h
            omega
          · have := Int.mul_pos ha h
            omega
    · have := Int.mul_pos ha hf
      omega
  · have he : e = 0 ∧ 0 < f := by
      rcases hw with h | h
      · have := Int.mul_pos hd h
        omega
      · exact h
    obtain ⟨rfl, hf⟩ := he
    have ha : 0 ≤ a := by omega
    have n1 := Int.mul_nonneg ha (Int.le_of_lt hf)
    refine ⟨by omega, fun h => ?_⟩
    have : 0 < a := by
      rcases Int.lt_or_le 0 a with h' | h'
      · exact h'
      · obtain rfl : a = 0 := by omega
        omega
    have := Int.mul_pos this hf
    omega
theorem plt_pos {a b : Pt} : pltB a b = true ↔ posV (dif b a) := by
  rw [pltB_iff]
  unfold posV dif
  simp only
  omega
theorem oP_tri (a b : Pt) : a = b ∨ pltB a b = true ∨ pltB b a = true := by
  obtain ⟨a1, a2⟩ := a
  obtain ⟨b1, b2⟩ := b
  simp only [pltB_iff, Prod.mk.injEq]
  omega
theorem oP_trans {a b c : Pt} (h1 : pltB a b = true) (h2 : pltB b c = true) : pltB a c = true := by
  rw [pltB_iff] at *
  omega
theorem oP_irr {a : Pt} (h : pltB a a = true) : False := by
  rw [pltB_iff] at h
  omega
theorem oP_asym {a b : Pt} (h1 : pltB a b = true) (h2 : pltB b a = true) : False := oP_irr (oP_trans h1 h2)
theorem crP_bb (a b : Pt) : crP a b b = 0 := by unfold crP crossI; grind
theorem crP_ba (a b : Pt) : crP a b a = 0 := by unfold crP crossI; grind
theorem ch_tr1 {a b p q : Pt} (h1 : pltB a b = true) (h2 : pltB a p = true) (h3 : pltB a q = true) (h4 : 0 ≤ crP a b q) (h5 : crP a b p ≤ 0) : 0 ≤ crP a p q := by
  have := cr_tr (plt_pos.1 h2) (plt_pos.1 h1) (plt_pos.1 h3) (by unfold cr2 dif; unfold crP crossI at h5; simp only; grind) h4
  exact this.1
theorem ch_tr2 {a b p q : Pt} (h1 : pltB q b = true) (h2 : pltB a b = true) (h3 : pltB b p = true) (h4 : 0 ≤ crP a b q) (h5 : 0 ≤ crP a b p) : 0 ≤ crP b p q := by
  have := cr_tr (plt_pos.1 h1) (plt_pos.1 h2) (plt_pos.1 h3) (by unfold cr2 dif; unfold crP crossI at h4; simp only; grind) (by unfold cr2 dif; unfold crP crossI at h5; simp only; grind)
  have h := this.1
  unfold cr2 dif at h
  unfold crP crossI
  simp only at h
  grind
theorem ch_tr3 {a' a b p : Pt} (h1 : pltB a' a = true) (h2 : pltB a b = true) (h3 : pltB b p = true) (h4 : 0 < crP a' a b) (h5 : 0 < crP a b p) : 0 < crP a' a p := by
  have k4 : 0 < cr2 (dif a a') (dif b a) := by unfold cr2 dif; unfold crP crossI at h4; simp only; grind
  have k5 : 0 < cr2 (dif b a) (dif p b) := by unfold cr2 dif; unfold crP crossI at h5; simp only; grind
  have := (cr_tr (plt_pos.1 h1) (plt_pos.1 h2) (plt_pos.1 h3) (Int.le_of_lt k4) (Int.le_of_lt k5)).2 (.inl k4)
  have e : crP a' a p = cr2 (dif a a') (dif b a) + cr2 (dif a a') (dif p b) := by unfold crP crossI cr2 dif; simp only; grind
  omega
/-- A point put on a stack, whose top is its head. -/
def pushR : List Pt → Pt → List Pt
  | b :: a :: r, p => if crP a b p ≤ 0 then pushR (a :: r) p else p :: b :: a :: r
  | [b], p => [p, b]
  | [], p => [p]
theorem take_rev {st : List Pt} {j : Nat} (h : j < st.length) : (st.take (j + 1)).reverse = st.getD j (0, 0) :: (st.take j).reverse := by
  rw [← List.take_append_getElem h]
  simp [h]
theorem pushP_aux (st : List Pt) (p : Pt) : ∀ j, j ≤ st.length → (st.take (popN st p j) ++ [p]).reverse = pushR (st.take j).reverse p
  | 0, _ => by simp [popN, pushR]
  | 1, h => by
    match st, h with
    | x :: t, _ => simp [popN, pushR]
  | j + 2, h => by
    have ih := pushP_aux st p (j + 1) (by omega)
    rw [take_rev (j := j + 1) (by omega)]
    rw [take_rev (j := j) (by omega)] at ih ⊢
    simp only [popN, pushR]
    split
    · exact ih
    · rw [List.reverse_append, take_rev (j := j + 1) (by omega), take_rev (j := j) (by omega)]
      rfl
theorem pushP_rev (st : List Pt) (p : Pt) : (pushP st p).reverse = pushR st.reverse p := by
  have := pushP_aux st p st.length (Nat.le_refl _)
  rw [List.take_length] at this
  exact this
/-- The stack of a chain, its top first. -/
def chnR (R ps : List Pt) : List Pt := ps.foldl pushR R
theorem chn_rev : ∀ (ps st : List Pt), (chn st ps).reverse = chnR st.reverse ps
  | [], _ => rfl
  | p :: r, st => by
    have := chn_rev r (pushP st p)
    rw [pushP_rev] at this
    exact this
def Dsc (R : List Pt) : Prop := R.Pairwise fun a b => pltB b a = true
def Cvx : List Pt → Prop
  | c :: b :: a :: r => 0 < crP a b c ∧ Cvx (b :: a :: r)
  | _ => True
def Lft (S : Pt → Prop) : List Pt → Prop
  | b :: a :: r => (∀ q, S q → 0 ≤ crP a b q) ∧ Lft S (a :: r)
  | _ => True
def Bot (S : Pt → Prop) (R : List Pt) : Prop := ∃ m, R.getLast? = some m ∧ ∀ q, S q → q = m ∨ pltB m q = true
def Top (S : Pt → Prop) (R : List Pt) : Prop := ∃ m, R.head? = some m ∧ ∀ q, S q → q = m ∨ pltB q m = true
/-- The chain of a set of points. -/
structure ChI (S : Pt → Prop) (R : List Pt) : Prop where
  mem : ∀ z ∈ R, S z
  dsc : Dsc R
  cvx : Cvx R
  lft : Lft S R
  bot : Bot S R
  top : Top S R
theorem Cvx.tail {b : Pt} {R : List Pt} (h : Cvx (b :: R)) : Cvx R := by
  match R, h with
  | [], _ => trivial
  | [_], _ => trivial
  | _ :: _ :: _, h => exact h.2
theorem Lft.tail {S : Pt → Prop} {b : Pt} {R : List Pt} (h : Lft S (b :: R)) : Lft S R := by
  match R, h with
  | [], _ => trivial
  | _ :: _, h => exact h.2
theorem Dsc.tail {b : Pt} {R : List Pt} (h : Dsc (b :: R)) : Dsc R := (List.pairwise_cons.1 h).2
theorem Dsc.lt {b a : Pt} {R : List Pt} (h : Dsc (b :: R)) (ha : a ∈ R) : pltB a b = true := (List.pairwise_cons.1 h).1 a ha
def adS (S : Pt → Prop) (p : Pt) : Pt → Prop := fun q => S q ∨ q = p
/-- What turns left stays left of a further point. -/
theorem lft_add {S : Pt → Prop} {p : Pt} : ∀ {r : List Pt} {b a : Pt}, Dsc (b :: a :: r) → Cvx (b :: a :: r) → Lft S (b :: a :: r) → pltB b p = true → 0 < crP a b p → Lft (adS S p) (b :: a :: r)
  | [], b, a, hd, hc, hl, hp, h => ⟨fun q hq => by
      rcases hq with hq | rfl
      · exact hl.1 q hq
      · exact Int.le_of_lt h, trivial⟩
  | a' :: r, b, a, hd, hc, hl, hp, h => by
    have h1 : pltB a b = true := hd.lt (by simp)
    have h2 : pltB a' a = true := hd.tail.lt (by simp)
    refine ⟨fun q hq => ?_, lft_add hd.tail hc.tail hl.2 (oP_trans h1 hp) (ch_tr3 h2 h1 hp hc.1 h)⟩
    rcases hq with hq | rfl
    · exact hl.1 q hq
    · exact Int.le_of_lt h
/-- A further point put on the stack. -/
theorem push_ok {S : Pt → Prop} {p : Pt} : ∀ {r : List Pt} {b : Pt}, (∀ z ∈ b :: r, S z) → Dsc (b :: r) → Cvx (b :: r) → Lft S (b :: r) → Bot S (b :: r) → (∀ q, S q → pltB q p = true) → (∀ q, S q → pltB b q = true → 0 ≤ crP b p q) → ChI (adS S p) (pushR (b :: r) p)
  | [], b, hm, hd, hc, hl, hb, hp, hK => by
    obtain ⟨m, h1, h2⟩ := hb
    obtain rfl : b = m := by simpa using h1
    have hbp := hp b (hm b (by simp))
    refine ⟨fun z hz => ?_, ?_, trivial, ⟨fun q hq => ?_, trivial⟩, ⟨b, rfl, fun q hq => ?_⟩, ⟨p, rfl, fun q hq => ?_⟩⟩
    · have hz : z = p ∨ z = b := by simpa [pushR] using hz
      rcases hz with rfl | rfl
      · exact .inr rfl
      · exact .inl (hm _ (by simp))
    · show List.Pairwise _ [p, b]
      simpa using hbp
    · rcases hq with hq | rfl
      · rcases h2 q hq with rfl | h
        · rw [crP_ba]; exact Int.le_refl _
        · exact hK q hq h
      · rw [crP_bb]; exact Int.le_refl _
    · rcases hq with hq | rfl
      · exact h2 q hq
      · exact .inr hbp
    · rcases hq with hq | rfl
      · exact .inr (hp q hq)
      · exact .inl rfl
  | a :: r, b, hm, hd, hc, hl, hb, hp, hK => by
    have hab : pltB a b = true := hd.lt (by simp)
    have hap := hp a (hm a (by simp))
    have hbp := hp b (hm b (by simp))
    have hb' : Bot S (a :: r) := by
      obtain ⟨m, h1, h2⟩ := hb
      exact ⟨m, by rw [List.getLast?_cons_cons] at h1; exact h1, h2⟩
    unfold pushR
    split
    · rename_i hle
      exact push_ok (fun z hz => hm z (List.mem_cons_of_mem _ hz)) hd.tail hc.tail hl.2 hb' hp fun q hq h => ch_tr1 hab hap h (hl.1 q hq) hle
    · rename_i hgt
      have hgt : 0 < crP a b p := by omega
      refine ⟨fun z hz => ?_, ?_, ⟨hgt, hc⟩, ⟨fun q hq => ?_, lft_add hd hc hl hbp hgt⟩, ?_, ⟨p, rfl, fun q hq => ?_⟩⟩
      · rcases List.mem_cons.1 hz with rfl | hz
        · exact .inr rfl
        · exact .inl (hm _ hz)
      · exact List.pairwise_cons.2 ⟨fun z hz => hp z (hm z hz), hd⟩
      · rcases hq with hq | rfl
        · rcases oP_tri b q with rfl | h | h
          · rw [crP_ba]; exact Int.le_refl _
          · exact hK q hq h
          · exact ch_tr2 h hab hbp (hl.1 q hq) (Int.le_of_lt hgt)
        · rw [crP_bb]; exact Int.le_refl _
      · obtain ⟨m, h1, h2⟩ := hb
        refine ⟨m, by rw [List.getLast?_cons_cons]; exact h1, fun q hq => ?_⟩
        rcases hq with hq | rfl
        · exact h2 q hq
        · have hm' : m ∈ b :: a :: r := List.mem_of_getLast? h1
          exact .inr (hp m (hm m hm'))
      · rcases hq with hq | rfl
        · exact .inr (hp q hq)
        · exact .inl rfl
theorem ChI.ext {S T : Pt → Prop} {R : List Pt} (h : ChI S R) (e : ∀ q, S q ↔ T q) : ChI T R := by
  have : S = T := funext fun q => propext (e q)
  rw [← this]
  exact h
theorem chnR_ok : ∀ {ps : List Pt} {S : Pt → Prop} {R : List Pt}, ChI S R → Asc ps → (∀ q, S q → ∀ p ∈ ps, pltB q p = true) → ChI (fun q => S q ∨ q ∈ ps) (chnR R ps)
  | [], S, R, h, _, _ => h.ext fun q => by simp
  | p :: r, S, R, h, ha, hS => by
    have ha' := List.pairwise_cons.1 ha
    have hp : ChI (adS S p) (pushR R p) := by
      match R, h with
      | [], h => obtain ⟨m, h1, _⟩ := h.top; cases h1
      | b :: t, h =>
        refine push_ok h.mem h.dsc h.cvx h.lft h.bot (fun q hq => hS q hq p (by simp)) fun q hq hbq => ?_
        obtain ⟨m, h1, h2⟩ := h.top
        obtain rfl : b = m := by simpa using h1
        rcases h2 q hq with rfl | h3
        · exact (oP_irr hbq).elim
        · exact (oP_asym hbq h3).elim
    have := chnR_ok hp ha'.2 fun q hq z hz => by
      rcases hq with hq | rfl
      · exact hS q hq z (List.mem_cons_of_mem _ hz)
      · exact ha'.1 z hz
    refine this.ext fun q => ?_
    unfold adS
    simp only [List.mem_cons]
    constructor
    · rintro ((h | h) | h)
      · exact .inl h
      · exact .inr (.inl h)
      · exact .inr (.inr h)
    · rintro (h | h | h)
      · exact .inl (.inl h)
      · exact .inl (.inr h)
      · exact .inr h
/-- The chain of points in order. -/
theorem chain_ok {ps : List Pt} (h : Asc ps) (h0 : ps ≠ []) : ChI (fun q => q ∈ ps) (chnR [] ps) := by
  match ps, h, h0 with
  | p :: r, h, _ =>
    have ha' := List.pairwise_cons.1 h
    have h1 : ChI (fun q => q = p) [p] := ⟨fun z hz => by simpa using hz, by unfold Dsc; simp, trivial, trivial, ⟨p, rfl, fun q hq => .inl hq⟩, ⟨p, rfl, fun q hq => .inl hq⟩⟩
    have := chnR_ok h1 ha'.2 fun q hq z hz => by rw [show q = p from hq]; exact ha'.1 z hz
    exact this.ext fun q => by simp
/-- The last of a chain, the least of all. -/
theorem ChI.tail {S : Pt → Prop} {b a : Pt} {R : List Pt} (h : ChI S (b :: a :: R)) : (∀ z ∈ a :: R, S z) ∧ Dsc (a :: R) ∧ Cvx (a :: R) ∧ Lft S (a :: R) ∧ Bot S (a :: R) := by
  refine ⟨fun z hz => h.mem z (List.mem_cons_of_mem _ hz), h.dsc.tail, h.cvx.tail, h.lft.tail, ?_⟩
  obtain ⟨m, h1, h2⟩ := h.bot
  exact ⟨m, by rw [List.getLast?_cons_cons] at h1; exact h1, h2⟩
/-- Two chains with the same top: the next is the same. -/
theorem next_le {S : Pt → Prop} {b a a' : Pt} {r' : List Pt} (ha : S a) (hd : pltB a b = true) (hl : ∀ q, S q → 0 ≤ crP a b q) (hm' : ∀ z ∈ b :: a' :: r', S z) (hd' : Dsc (b :: a' :: r')) (hc' : Cvx (b :: a' :: r')) (hl' : Lft S (b :: a' :: r')) (hb' : Bot S (b :: a' :: r')) : ¬ pltB a a' = true := by
  intro hlt
  have hab' : pltB a' b = true := hd'.lt (by simp)
  have k1 := hl a' (hm' a' (by simp))
  have k2 := hl'.1 a ha
  have e1 : crP a b a' = cr2 (dif b a') (dif a' a) := by unfold crP crossI cr2 dif; simp only; grind
  have e2 : crP a' b a = -cr2 (dif b a') (dif a' a) := by unfold crP crossI cr2 dif; simp only; grind
  match r', hm', hd', hc', hl', hb' with
  | [], hm', hd', hc', hl', hb' =>
    obtain ⟨m, h1, h2⟩ := hb'
    obtain rfl : a' = m := by simpa using h1
    rcases h2 a ha with rfl | h
    · exact oP_irr hlt
    · exact oP_asym hlt h
  | c :: t, hm', hd', hc', hl', hb' =>
    have hca : pltB c a' = true := hd'.tail.lt (by simp)
    have k3 := hc'.1
    have k4 := hl'.2.1 a ha
    have e3 : crP c a' b = cr2 (dif a' c) (dif b a') := by unfold crP crossI cr2 dif; simp only; grind
    have e4 : crP c a' a = cr2 (dif a' a) (dif a' c) := by unfold crP crossI cr2 dif; simp only; grind
    have := (cr_tr (plt_pos.1 hlt) (plt_pos.1 hca) (plt_pos.1 hab') (by omega) (by omega)).2 (.inr (by omega))
    have e5 : cr2 (dif b a') (dif a' a) = -cr2 (dif a' a) (dif b a') := by unfold cr2 dif; simp only; grind
    omega
theorem chain_eq {S : Pt → Prop} : ∀ {r r' : List Pt} {b : Pt}, (∀ z ∈ b :: r, S z) → Dsc (b :: r) → Cvx (b :: r) → Lft S (b :: r) → Bot S (b :: r) → (∀ z ∈ b :: r', S z) → Dsc (b :: r') → Cvx (b :: r') → Lft S (b :: r') → Bot S (b :: r') → r = r'
  | [], [], _, _, _, _, _, _, _, _, _, _, _ => rfl
  | [], a' :: r', b, hm, hd, hc, hl, hb, hm', hd', hc', hl', hb' => by
    obtain ⟨m, h1, h2⟩ := hb
    obtain rfl : b = m := by simpa using h1
    have h3 : pltB a' b = true := hd'.lt (by simp)
    rcases h2 a' (hm' a' (by simp)) with rfl | h
    · exact (oP_irr h3).elim
    · exact (oP_asym h3 h).elim
  | a :: r, [], b, hm, hd, hc, hl, hb, hm', hd', hc', hl', hb' => by
    obtain ⟨m, h1, h2⟩ := hb'
    obtain rfl : b = m := by simpa using h1
    have h3 : pltB a b = true := hd.lt (by simp)
    rcases h2 a (hm a (by simp)) with rfl | h
    · exact (oP_irr h3).elim
    · exact (oP_asym h3 h).elim
  | a :: r, a' :: r', b, hm, hd, hc, hl, hb, hm', hd', hc', hl', hb' => by
    have h1 := next_le (hm a (by simp)) (hd.lt (by simp)) hl.1 hm' hd' hc' hl' hb'
    have h2 := next_le (hm' a' (by simp)) (hd'.lt (by simp)) hl'.1 hm hd hc hl hb
    have e : a = a' := by
      rcases oP_tri a a' with h | h | h
      · exact h
      · exact absurd h h1
      · exact absurd h h2
    subst e
    have bt : ∀ {t : List Pt}, Bot S (b :: a :: t) → Bot S (a :: t) := fun {t} h => by
      obtain ⟨m, q1, q2⟩ := h
      exact ⟨m, by rw [List.getLast?_cons_cons] at q1; exact q1, q2⟩
    rw [chain_eq (fun z hz => hm z (List.mem_cons_of_mem _ hz)) hd.tail hc.tail hl.2 (bt hb) (fun z hz => hm' z (List.mem_cons_of_mem _ hz)) hd'.tail hc'.tail hl'.2 (bt hb')]
/-- A chain of a set is the only one. -/
theorem ChI.uniq {S : Pt → Prop} {R R' : List Pt} (h : ChI S R) (h' : ChI S R') : R = R' := by
  obtain ⟨m, h1, h2⟩ := h.top
  obtain ⟨m', h1', h2'⟩ := h'.top
  match R, R', h, h', h1, h1' with
  | b :: r, b' :: r', h, h', h1, h1' =>
    obtain rfl : b = m := by simpa using h1
    obtain rfl : b' = m' := by simpa using h1'
    have e : b = b' := by
      rcases h2 b' (h'.mem b' (by simp)) with e | e
      · exact e.symm
      · rcases h2' b (h.mem b (by simp)) with e' | e'
        · exact e'
        · exact (oP_asym e e').elim
    subst e
    rw [chain_eq h.mem h.dsc h.cvx h.lft h.bot h'.mem h'.dsc h'.cvx h'.lft h'.bot]
end Go.Proofs.Ytolodncpegajkab
namespace Go.Proofs.Ytolodncpegajkab
set_option linter.all false
open Go.RowKit
theorem getD_mem' {R : List Pt} {k : Nat} (h : k < R.length) : R.getD k (0, 0) ∈ R := by simp [h]
end Go.Proofs.Ytolodncpegajkab
namespace Go.Proofs.Ytolodncpegajkab
set_option linter.all false
open Go.RowKit
def ptU (gs : List Pt) (o : Int) : Pt := gG gs o.toNat
theorem gG_kI (gs : List Pt) {os : List Int} {k : Nat} (h : k < os.length) : gG gs (kI os k) = (os.map (ptU gs)).getD k (0, 0) := by
  simp [kI, ptU, List.getD, h]
theorem hid_cr (a b c : Pt) : hidB a b c = decide (crP a b c ≤ 0) := by
  unfold hidB
  refine decide_eq_decide.2 ?_
  have e : crP a b c = (c.2 - a.2) * (b.1 - a.1) - (b.2 - a.2) * (c.1 - a.1) := by unfold crP crossI; grind
  omega
/-- A graph put on the model's stack, whose top is the head. -/
def pushV : List Pt → Pt → List Pt
  | b :: a :: r, g => if b.1 = g.1 ∨ crP a b g ≤ 0 then pushV (a :: r) g else g :: b :: a :: r
  | [b], g => if b.1 = g.1 then [g] else [g, b]
  | [], g => [g]
theorem take_revU {gs : List Pt} {st : List Int} {j : Nat} (h : j < st.length) : ((st.take (j + 1)).map (ptU gs)).reverse = gG gs (kI st j) :: ((st.take j).map (ptU gs)).reverse := by
  have e : gG gs (kI st j) = ptU gs st[j] := by simp [kI, ptU, List.getD, h]
  have e2 : st.take (j + 1) = st.take j ++ [st[j]] := (List.take_append_getElem h).symm
  rw [e, e2, List.map_append, List.reverse_append]
  rfl
theorem pushU_aux (gs : List Pt) (st : List Int) (g : Pt) : ∀ j, j ≤ st.length → (((st.take (popU gs st g j)).map (ptU gs)) ++ [g]).reverse = pushV ((st.take j).map (ptU gs)).reverse g
  | 0, _ => by simp [popU, pushV]
  | 1, h => by
    have h0 : 0 < st.length := by omega
    rw [take_revU h0]
    simp only [popU, offB, Nat.lt_irrefl, decide_false, Bool.false_and, Bool.or_false, List.take_zero, List.map_nil, List.reverse_nil, pushV]
    by_cases c : (gG gs (kI st 0)).1 = g.1
    · simp [c]
    · rw [decide_eq_false c, if_neg c, cond_false, List.reverse_append, take_revU h0]
      simp
  | j + 2, h => by
    have ih := pushU_aux gs st g (j + 1) (by omega)
    rw [take_revU (j := j + 1) (by omega)]
    rw [take_revU (j := j) (by omega)] at ih ⊢
    have e : offB gs st g (j + 1) = decide ((gG gs (kI st (j + 1))).1 = g.1 ∨ crP (gG gs (kI st j)) (gG gs (kI st (j + 1))) g ≤ 0) := by
      unfold offB
      rw [hid_cr, decide_eq_true (Nat.succ_pos j), Bool.true_and, Nat.add_sub_cancel, Bool.decide_or]
    rw [show popU gs st g (j + 2) = bif offB gs st g (j + 1) then popU gs st g (j + 1) else j + 2 from rfl, e]
    simp only [pushV]
    split
    · rename_i c
      rw [decide_eq_true c]
      exact ih
    · rename_i c
      rw [decide_eq_false c, cond_false, List.reverse_append, take_revU (j := j + 1) (by omega), take_revU (j := j) (by omega)]
      rfl
theorem pushU_rev (gs : List Pt) (st : List Int) (o : Int) : ((pushU gs st o).map (ptU gs)).reverse = pushV (st.map (ptU gs)).reverse (ptU gs o) := by
  have := pushU_aux gs st (ptU gs o) st.length (Nat.le_refl _)
  rw [List.take_length] at this
  rw [← this]
  unfold pushU
  rw [List.map_append]
  rfl
def scnR (R L : List Pt) : List Pt := L.foldl pushV R
theorem scanU_rev (gs : List Pt) : ∀ (os st : List Int), ((scanU gs os st).map (ptU gs)).reverse = scnR (st.map (ptU gs)).reverse (os.map (ptU gs))
  | [], _ => rfl
  | o :: r, st => by
    have := scanU_rev gs r (pushU gs st o)
    rw [pushU_rev] at this
    exact this
theorem pushV_lt : ∀ {R : List Pt} {g : Pt}, (∀ q ∈ R, q.1 < g.1) → pushV R g = pushR R g
  | [], _, _ => rfl
  | [b], g, h => by
    have := h b (by simp)
    simp only [pushV, pushR]
    rw [if_neg (by omega)]
  | b :: a :: r, g, h => by
    have h1 := h b (by simp)
    have ih := pushV_lt (R := a :: r) (g := g) fun q hq => h q (List.mem_cons_of_mem _ hq)
    simp only [pushV, pushR, ih]
    by_cases c : crP a b g ≤ 0
    · rw [if_pos (.inr c), if_pos c]
    · rw [if_neg c, if_neg (by omega)]
def DscX (R : List Pt) : Prop := R.Pairwise fun a b => b.1 < a.1
theorem pushV_same : ∀ {R : List Pt} {g1 g2 : Pt}, DscX R → (∀ q ∈ R, q.1 < g1.1) → g1.1 = g2.1 → g2.2 ≤ g1.2 → pushV (pushV R g1) g2 = pushV R g2
  | [], g1, g2, _, _, e, _ => by simp only [pushV, e, if_true]
  | [b], g1, g2, _, h, e, _ => by
    have h1 := h b (by simp)
    have c : ¬ b.1 = g1.1 := by omega
    show pushV (if b.1 = g1.1 then [g1] else [g1, b]) g2 = if b.1 = g2.1 then [g2] else [g2, b]
    rw [if_neg c, if_neg (show ¬ b.1 = g2.1 by omega)]
    exact (if_pos (show g1.1 = g2.1 ∨ crP b g1 g2 ≤ 0 from .inl e)).trans (if_neg (show ¬ b.1 = g2.1 by omega))
  | b :: a :: r, g1, g2, hd, h, e, hb => by
    have h1 := h b (by simp)
    have hab : a.1 < b.1 := (List.pairwise_cons.1 hd).1 a (by simp)
    have ih := pushV_same (R := a :: r) (List.pairwise_cons.1 hd).2 (fun q hq => h q (List.mem_cons_of_mem _ hq)) e hb
    by_cases c : crP a b g1 ≤ 0
    · have c2 : crP a b g2 ≤ 0 := by
        have i1 : crP a b g2 = crP a b g1 + (b.1 - a.1) * (g2.2 - g1.2) := by unfold crP crossI; rw [← e]; grind
        have i2 := Int.mul_nonpos_of_nonneg_of_nonpos (show 0 ≤ b.1 - a.1 by omega) (show g2.2 - g1.2 ≤ 0 by omega)
        omega
      rw [show pushV (b :: a :: r) g1 = pushV (a :: r) g1 from if_pos (.inr c), show pushV (b :: a :: r) g2 = pushV (a :: r) g2 from if_pos (.inr c2)]
      exact ih
    · rw [show pushV (b :: a :: r) g1 = g1 :: b :: a :: r from if_neg (by omega)]
      exact if_pos (.inl e)
/-- The last one of each slope. -/
def lastM : List Pt → List Pt
  | [] => []
  | [g] => [g]
  | g :: h :: r => if g.1 = h.1 then lastM (h :: r) else g :: lastM (h :: r)
def OrdM (a b : Pt) : Prop := a.1 < b.1 ∨ a.1 = b.1 ∧ b.2 ≤ a.2
theorem pushR_tail : ∀ (R : List Pt) (g : Pt), ∃ R', pushR R g = g :: R' ∧ R'.Sublist R
  | [], g => ⟨[], rfl, List.Sublist.refl _⟩
  | [b], g => ⟨[b], rfl, List.Sublist.refl _⟩
  | b :: a :: r, g => by
    simp only [pushR]
    split
    · obtain ⟨R', h1, h2⟩ := pushR_tail (a :: r) g
      exact ⟨R', h1, h2.trans (List.sublist_cons_self _ _)⟩
    · exact ⟨_, rfl, List.Sublist.refl _⟩
theorem scn_last : ∀ (L R : List Pt), L.Pairwise OrdM → (∀ q ∈ R, ∀ p ∈ L, q.1 < p.1) → DscX R → scnR R L = chnR R (lastM L)
  | [], _, _, _, _ => rfl
  | [g], R, _, h, _ => pushV_lt fun q hq => h q hq g (by simp)
  | g :: h :: r, R, hL, hR, hd => by
    have hgh := (List.pairwise_cons.1 hL).1 h (by simp)
    have hL2 := (List.pairwise_cons.1 hL).2
    by_cases c : g.1 = h.1
    · have e : scnR R (g :: h :: r) = scnR R (h :: r) := by
        show scnR (pushV (pushV R g) h) r = scnR (pushV R h) r
        rw [pushV_same hd (fun q hq => hR q hq g (by simp)) c (by rcases hgh with hgh | hgh <;> omega)]
      rw [e, scn_last (h :: r) R hL2 (fun q hq p hp => hR q hq p (List.mem_cons_of_mem _ hp)) hd]
      simp only [lastM, c, if_true]
    · have c1 : g.1 < h.1 := by rcases hgh with hgh | hgh <;> omega
      have hr : ∀ p ∈ h :: r, g.1 < p.1 := fun p hp => by
        rcases List.mem_cons.1 hp with rfl | hp
        · exact c1
        · have := (List.pairwise_cons.1 hL2).1 p hp
          rcases this with h | h <;> omega
      have e : scnR R (g :: h :: r) = scnR (pushR R g) (h :: r) := by
        show scnR (pushV R g) (h :: r) = _
        rw [pushV_lt fun q hq => hR q hq g (by simp)]
      obtain ⟨R', e1, e2⟩ := pushR_tail R g
      rw [e, scn_last (h :: r) (pushR R g) hL2 ?_ ?_]
      · simp only [lastM, if_neg c]
        rfl
      · rw [e1]
        intro q hq p hp
        rcases List.mem_cons.1 hq with rfl | hq
        · exact hr p hp
        · exact hR q (e2.subset hq) p (List.mem_cons_of_mem _ hp)
      · rw [e1]
        refine List.pairwise_cons.2 ⟨fun q hq => hR q (e2.subset hq) g (by simp), hd.sublist e2⟩
theorem lastM_ok : ∀ (L : List Pt), L.Pairwise OrdM → (lastM L).Pairwise (fun a b => a.1 < b.1) ∧ ∀ z, z ∈ lastM L ↔ z ∈ L ∧ ∀ w ∈ L, w.1 = z.1 → z.2 ≤ w.2
  | [], _ => ⟨List.Pairwise.nil, fun z => by simp [lastM]⟩
  | [g], _ => ⟨List.pairwise_singleton _ _, fun z => by
      simp only [lastM, List.mem_singleton]
      constructor
      · rintro rfl
        exact ⟨rfl, fun w hw _ => by rw [hw]; exact Int.le_refl _⟩
      · exact fun h => h.1⟩
  | g :: h :: r, hL => by
    have hg := (List.pairwise_cons.1 hL).1
    have hgh := hg h (by simp)
    have hL2 := (List.pairwise_cons.1 hL).2
    have hge : ∀ p ∈ h :: r, h.1 ≤ p.1 := fun p hp => by
      rcases List.mem_cons.1 hp with rfl | hp
      · exact Int.le_refl _
      · rcases (List.pairwise_cons.1 hL2).1 p hp with h | h <;> omega
    obtain ⟨i1, i2⟩ := lastM_ok (h :: r) hL2
    by_cases c : g.1 = h.1
    · have hb : h.2 ≤ g.2 := by rcases hgh with hgh | hgh <;> omega
      simp only [lastM, if_pos c]
      refine ⟨i1, fun z => (i2 z).trans ⟨fun ⟨h1, h2⟩ => ⟨List.mem_cons_of_mem _ h1, fun w hw e => ?_⟩, fun ⟨h1, h2⟩ => ⟨?_, fun w hw e => h2 w (List.mem_cons_of_mem _ hw) e⟩⟩⟩
      · rcases List.mem_cons.1 hw with rfl | hw
        · have := h2 h (by simp) (by omega)
          omega
        · exact h2 w hw e
      · rcases List.mem_cons.1 h1 with rfl | h1
        · have := h2 h (by simp) c.symm
          have e : z = h := Prod.ext c (by omega)
          rw [e]
          simp
        · exact h1
    · have c1 : g.1 < h.1 := by rcases hgh with hgh | hgh <;> omega
      simp only [lastM, if_neg c]
      refine ⟨List.pairwise_cons.2 ⟨fun p hp => ?_, i1⟩, fun z => ?_⟩
      · have := hge p ((i2 p).1 hp).1
        omega
      · rw [List.mem_cons, i2 z]
        constructor
        · rintro (rfl | ⟨h1, h2⟩)
          · refine ⟨by simp, fun w hw e => ?_⟩
            rcases List.mem_cons.1 hw with rfl | hw
            · exact Int.le_refl _
            · have := hge w hw
              omega
          · refine ⟨List.mem_cons_of_mem _ h1, fun w hw e => ?_⟩
            rcases List.mem_cons.1 hw with rfl | hw
            · have := hge z h1
              omega
            · exact h2 w hw e
        · rintro ⟨h1, h2⟩
          rcases List.mem_cons.1 h1 with rfl | h1
          · exact .inl rfl
          · exact .inr ⟨h1, fun w hw e => h2 w (List.mem_cons_of_mem _ hw) e⟩
theorem cxN_mem (L : List Pt) : ∀ m z, z ∈ cxN L m ↔ ∃ j, j < m ∧ z = L.getD j (0, 0) ∧ (j = 0 ∨ (L.getD j (0, 0)).1 ≠ (L.getD (j - 1) (0, 0)).1)
  | 0, z => by simp [cxN]
  | m + 1, z => by
    have ih := cxN_mem L m z
    simp only [cxN]
    split
    · rename_i c
      rw [List.mem_append, ih, List.mem_singleton]
      constructor
      · rintro (⟨j, h1, h2⟩ | rfl)
        · exact ⟨j, by omega, h2⟩
        · exact ⟨m, by omega, rfl, c⟩
      · rintro ⟨j, h1, h2, h3⟩
        rcases Nat.lt_or_ge j m with h | h
        · exact .inl ⟨j, h, h2, h3⟩
        · obtain rfl : j = m := by omega
          exact .inr h2
    · rename_i c
      rw [ih]
      constructor
      · rintro ⟨j, h1, h2⟩
        exact ⟨j, by omega, h2⟩
      · rintro ⟨j, h1, h2, h3⟩
        rcases Nat.lt_or_ge j m with h | h
        · exact ⟨j, h, h2, h3⟩
        · obtain rfl : j = m := by omega
          exact absurd h3 c
theorem asc_x {L : List Pt} (h : Asc L) {i j : Nat} (hij : i < j) (hj : j < L.length) : (L.getD i (0, 0)).1 < (L.getD j (0, 0)).1 ∨ (L.getD i (0, 0)).1 = (L.getD j (0, 0)).1 ∧ (L.getD i (0, 0)).2 < (L.getD j (0, 0)).2 := by
  have := List.pairwise_iff_getElem.1 h i j (by omega) hj hij
  rw [pltB_iff] at this
  simpa [List.getD, hj, show i < L.length by omega] using this
theorem cxN_up {L : List Pt} (h : Asc L) : ∀ m, m ≤ L.length → (cxN L m).Pairwise fun a b => a.1 < b.1
  | 0, _ => List.Pairwise.nil
  | m + 1, hm => by
    have ih := cxN_up h m (by omega)
    simp only [cxN]
    split
    · rename_i c
      refine List.pairwise_append.2 ⟨ih, List.pairwise_singleton _ _, fun a ha b hb => ?_⟩
      rw [List.mem_singleton] at hb
      subst hb
      obtain ⟨j, h1, rfl, _⟩ := (cxN_mem L m a).1 ha
      have h2 := asc_x h (i := m - 1) (j := m) (by omega) (by omega)
      rcases Nat.lt_or_ge j (m - 1) with g | g
      · have h3 := asc_x h (i := j) (j := m - 1) g (by omega)
        rcases c with c | c <;> omega
      · obtain rfl : j = m - 1 := by omega
        rcases c with c | c <;> omega
    · exact ih
theorem cxP_mem {L : List Pt} (h : Asc L) (z : Pt) : z ∈ cxP L ↔ z ∈ L ∧ ∀ w ∈ L, w.1 = z.1 → z.2 ≤ w.2 := by
  refine (cxN_mem L L.length z).trans ⟨?_, ?_⟩
  · rintro ⟨j, h1, rfl, h3⟩
    refine ⟨getD_mem' h1, fun w hw e => ?_⟩
    obtain ⟨i, hi, rfl⟩ := List.getElem_of_mem hw
    have ei : L[i] = L.getD i (0, 0) := by simp [List.getD, hi]
    rw [ei] at e ⊢
    rcases Nat.lt_or_ge i j with g | g
    · have h4 := asc_x h (i := j - 1) (j := j) (by omega) h1
      rcases Nat.lt_or_ge i (j - 1) with g2 | g2
      · have := asc_x h (i := i) (j := j - 1) g2 (by omega)
        rcases h3 with h3 | h3 <;> omega
      · obtain rfl : i = j - 1 := by omega
        rcases h3 with h3 | h3 <;> omega
    · rcases Nat.lt_or_ge j i with g2 | g2
      · have := asc_x h (i := j) (j := i) g2 hi
        omega
      · obtain rfl : i = j := by omega
        exact Int.le_refl _
  · rintro ⟨h1, h2⟩
    obtain ⟨j, hj, rfl⟩ := List.getElem_of_mem h1
    have ej : L[j] = L.getD j (0, 0) := by simp [List.getD, hj]
    rw [ej] at h2 ⊢
    refine ⟨j, hj, rfl, ?_⟩
    by_cases h0 : j = 0
    · exact .inl h0
    · refine .inr fun e => ?_
      have h3 := asc_x h (i := j - 1) (j := j) (by omega) hj
      have h4 := h2 (L.getD (j - 1) (0, 0)) (getD_mem' (by omega)) e.symm
      omega
theorem up_asc {L : List Pt} (h : L.Pairwise fun a b => a.1 < b.1) : Asc L := List.Pairwise.imp (fun {a b} hab => by rw [pltB_iff]; exact .inl hab) h
/-- The model's order, where it takes a place. -/
theorem posG_spec (gs : List Pt) (os : List Int) (i : Nat) : ∀ n, (∀ m, posG gs os i n ≤ m → m < n → aftB gs os m i = true) ∧ (posG gs os i n = 0 ∨ aftB gs os (posG gs os i n - 1) i = false)
  | 0 => ⟨fun m _ h => by omega, .inl rfl⟩
  | n + 1 => by
    obtain ⟨h1, h2⟩ := posG_spec gs os i n
    simp only [posG]
    cases c : aftB gs os n i
    · rw [cond_false]
      exact ⟨fun m _ h => by omega, .inr c⟩
    · rw [cond_true]
      refine ⟨fun m g1 g2 => ?_, h2⟩
      rcases Nat.lt_or_ge m n with g | g
      · exact h1 m g1 g
      · obtain rfl : m = n := by omega
        exact c
theorem ordM_tr {a b c : Pt} (h1 : OrdM a b) (h2 : OrdM b c) : OrdM a c := by
  unfold OrdM at *
  omega
theorem ins_ord {Q : List Pt} {p : Pt} {k : Nat} (hQ : Q.Pairwise OrdM) (hk : k ≤ Q.length) (h1 : ∀ m, k ≤ m → m < Q.length → OrdM p (Q.getD m (0, 0))) (h2 : k = 0 ∨ OrdM (Q.getD (k - 1) (0, 0)) p) : (Q.take k ++ p :: Q.drop k).Pairwise OrdM := by
  have at' : ∀ {i j : Nat}, i < j → j < Q.length → OrdM (Q.getD i (0, 0)) (Q.getD j (0, 0)) := fun {i j} hij hj => by
    have := List.pairwise_iff_getElem.1 hQ i j (by omega) hj hij
    simpa [List.getD, hj, show i < Q.length by omega] using this
  have hd : ∀ b ∈ Q.drop k, ∃ m, k ≤ m ∧ m < Q.length ∧ b = Q.getD m (0, 0) := fun b hb => by
    obtain ⟨i, hi, rfl⟩ := List.getElem_of_mem hb
    rw [List.length_drop] at hi
    exact ⟨k + i, by omega, by omega, by rw [List.getElem_drop]; simp [List.getD, show k + i < Q.length by omega]⟩
  refine List.pairwise_append.2 ⟨hQ.sublist (List.take_sublist _ _), List.pairwise_cons.2 ⟨fun b hb => ?_, hQ.sublist (List.drop_sublist _ _)⟩, fun a ha b hb => ?_⟩
  · obtain ⟨m, g1, g2, rfl⟩ := hd b hb
    exact h1 m g1 g2
  · obtain ⟨i, hi, rfl⟩ := List.getElem_of_mem ha
    rw [List.length_take] at hi
    have ei : (Q.take k)[i]'(by rw [List.length_take]; exact hi) = Q.getD i (0, 0) := by rw [List.getElem_take]; simp [List.getD, show i < Q.length by omega]
    rw [ei]
    have hp : OrdM (Q.getD i (0, 0)) p := by
      rcases h2 with h2 | h2
      · omega
      · rcases Nat.lt_or_ge i (k - 1) with g | g
        · exact ordM_tr (at' g (by omega)) h2
        · obtain rfl : i = k - 1 := by omega
          exact h2
    rcases List.mem_cons.1 hb with rfl | hb
    · exact hp
    · obtain ⟨m, g1, g2, rfl⟩ := hd b hb
      exact ordM_tr hp (h1 m g1 g2)
theorem insI_map (gs : List Pt) (os : List Int) (i : Nat) : (insI gs os i).map (ptU gs) = (os.map (ptU gs)).take (posG gs os i os.length) ++ gG gs i :: (os.map (ptU gs)).drop (posG gs os i os.length) := by
  unfold insI
  rw [List.map_append, List.map_cons, List.map_take, List.map_drop]
  rfl
theorem insI_ord {gs : List Pt} {os : List Int} (i : Nat) (h : (os.map (ptU gs)).Pairwise OrdM) : ((insI gs os i).map (ptU gs)).Pairwise OrdM := by
  rw [insI_map]
  obtain ⟨h1, h2⟩ := posG_spec gs os i os.length
  have hk := posG_le gs os i os.length
  have hl : (os.map (ptU gs)).length = os.length := List.length_map _
  refine ins_ord h (by rw [hl]; exact hk) (fun m g1 g2 => ?_) ?_
  · rw [hl] at g2
    have := h1 m g1 g2
    unfold aftB at this
    rw [gG_kI gs g2] at this
    unfold OrdM
    simp only [Bool.or_eq_true, Bool.and_eq_true, decide_eq_true_eq] at this
    omega
  · rcases h2 with h2 | h2
    · exact .inl h2
    · rcases Nat.eq_zero_or_pos (posG gs os i os.length) with h0 | h0
      · exact .inl h0
      · refine .inr ?_
        unfold aftB at h2
        rw [gG_kI gs (show posG gs os i os.length - 1 < os.length by omega)] at h2
        unfold OrdM
        simp only [Bool.or_eq_false_iff, Bool.and_eq_false_imp, decide_eq_false_iff_not, decide_eq_true_eq] at h2
        omega
theorem insI_mem (gs : List Pt) (os : List Int) (i : Nat) (z : Pt) : z ∈ (insI gs os i).map (ptU gs) ↔ z = gG gs i ∨ z ∈ os.map (ptU gs) := by
  rw [insI_map, List.mem_append, List.mem_cons]
  have e : z ∈ os.map (ptU gs) ↔ z ∈ (os.map (ptU gs)).take (posG gs os i os.length) ∨ z ∈ (os.map (ptU gs)).drop (posG gs os i os.length) := by
    rw [← List.mem_append, List.take_append_drop]
  rw [e]
  constructor
  · rintro (h | h | h)
    · exact .inr (.inl h)
    · exact .inl h
    · exact .inr (.inr h)
  · rintro (h | h | h)
    · exact .inr (.inl h)
    · exact .inl h
    · exact .inr (.inr h)
theorem ordL_ok (gs : List Pt) : ∀ (m i : Nat) (os : List Int), (os.map (ptU gs)).Pairwise OrdM → ((ordL gs m i os).map (ptU gs)).Pairwise OrdM ∧ ∀ z, z ∈ (ordL gs m i os).map (ptU gs) ↔ z ∈ os.map (ptU gs) ∨ ∃ j, i ≤ j ∧ j < i + m ∧ z = gG gs j
  | 0, i, os, h => ⟨h, fun z => ⟨.inl, fun h => by
      rcases h with h | ⟨j, h1, h2, _⟩
      · exact h
      · omega⟩⟩
  | m + 1, i, os, h => by
    obtain ⟨h1, h2⟩ := ordL_ok gs m (i + 1) (insI gs os i) (insI_ord i h)
    refine ⟨h1, fun z => (h2 z).trans ?_⟩
    rw [insI_mem]
    constructor
    · rintro ((h | h) | ⟨j, g1, g2, g3⟩)
      · exact .inr ⟨i, by omega, by omega, h⟩
      · exact .inl h
      · exact .inr ⟨j, by omega, by omega, g3⟩
    · rintro (h | ⟨j, g1, g2, g3⟩)
      · exact .inl (.inr h)
      · rcases Nat.eq_or_lt_of_le g1 with g | g
        · subst g
          exact .inl (.inl g3)
        · exact .inr ⟨j, by omega, by omega, g3⟩
theorem ordG_ok (gs : List Pt) : ((ordG gs).map (ptU gs)).Pairwise OrdM ∧ ∀ z, z ∈ (ordG gs).map (ptU gs) ↔ z ∈ gs := by
  obtain ⟨h1, h2⟩ := ordL_ok gs gs.length 0 [] List.Pairwise.nil
  refine ⟨h1, fun z => (h2 z).trans ?_⟩
  constructor
  · rintro (h | ⟨j, _, g2, rfl⟩)
    · simp at h
    · exact getD_mem' (by omega)
  · intro h
    obtain ⟨j, hj, rfl⟩ := List.getElem_of_mem h
    exact .inr ⟨j, by omega, by omega, by simp [gG, List.getD, hj]⟩
theorem lowU (gs : List Pt) : lastM ((ordG gs).map (ptU gs)) = cxP (srtL gs) := by
  obtain ⟨h1, h2⟩ := ordG_ok gs
  obtain ⟨h3, h4⟩ := lastM_ok _ h1
  refine asc_ext (up_asc h3) (up_asc (cxN_up (srtL_asc gs) _ (Nat.le_refl _))) fun z => ?_
  rw [h4, cxP_mem (srtL_asc gs)]
  simp only [h2, srtL_mem]
theorem scan_pts (gs : List Pt) : (scanU gs (ordG gs) []).map (ptU gs) = chn [] (cxP (srtL gs)) := by
  have h1 := scanU_rev gs (ordG gs) []
  have h2 := chn_rev (cxP (srtL gs)) []
  rw [show ([] : List Int).map (ptU gs) = [] from rfl, show ([] : List Pt).reverse = [] from rfl, scn_last _ [] (ordG_ok gs).1 (fun q hq => by simp at hq) List.Pairwise.nil, lowU] at h1
  rw [show ([] : List Pt).reverse = [] from rfl] at h2
  exact List.reverse_inj.1 (h1.trans h2.symm)
theorem pushU_mem {gs : List Pt} {st : List Int} {o : Int} {P : Int → Prop} (h : ∀ x ∈ st, P x) (ho : P o) : ∀ x ∈ pushU gs st o, P x := fun x hx => by
  unfold pushU at hx
  rcases List.mem_append.1 hx with hx | hx
  · exact h x (List.mem_of_mem_take hx)
  · rw [List.mem_singleton] at hx
    rw [hx]
    exact ho
theorem scanU_mem {gs : List Pt} {P : Int → Prop} : ∀ {os st : List Int}, (∀ x ∈ st, P x) → (∀ x ∈ os, P x) → ∀ x ∈ scanU gs os st, P x
  | [], _, h, _ => h
  | o :: r, st, h, ho => scanU_mem (os := r) (pushU_mem h (ho o (by simp))) fun x hx => ho x (List.mem_cons_of_mem _ hx)
theorem fgN_is {ps : List Pt} {x y : Int} {k : Nat} (hk : ngQ ps x y k = false) : ∀ n i, i ≤ k → k < i + n → (∀ j, i ≤ j → j < k → ngQ ps x y j = true) → fgN ps x y i n = k
  | 0, i, h1, h2, _ => by omega
  | n + 1, i, h1, h2, h => by
    simp only [fgN]
    rcases Nat.eq_or_lt_of_le h1 with e | g
    · subst e
      rw [hk]
      rfl
    · rw [h i (Nat.le_refl _) g]
      exact fgN_is hk n (i + 1) (by omega) (by omega) fun j g1 g2 => h j (by omega) g2
theorem ixG_at {gs : List Pt} {k : Nat} (hk : k < gs.length) (h : ∀ j, j < k → gG gs j ≠ gG gs k) : ixG gs (gG gs k).1 (gG gs k).2 = (k : Int) := by
  have hkn : ngQ gs (gG gs k).1 (gG gs k).2 k = false := by
    unfold ngQ gG
    simp
  have hjn : ∀ j, 0 ≤ j → j < k → ngQ gs (gG gs k).1 (gG gs k).2 j = true := fun j _ hj => by
    have := h j hj
    unfold ngQ
    unfold gG at this ⊢
    generalize gs.getD j (0, 0) = a at *
    generalize gs.getD k (0, 0) = b at *
    obtain ⟨a1, a2⟩ := a
    obtain ⟨b1, b2⟩ := b
    rw [Ne, Prod.mk.injEq] at this
    simp only [Bool.not_eq_true', Bool.and_eq_false_imp, beq_iff_eq, beq_eq_false_iff_ne]
    exact fun e1 e2 => this ⟨e1, e2⟩
  unfold ixG
  have hne : allQ (ngQ gs (gG gs k).1 (gG gs k).2) 0 gs.length = false := by
    rcases hb : allQ (ngQ gs (gG gs k).1 (gG gs k).2) 0 gs.length with _ | _
    · rfl
    · have := allQ_get _ _ hb k (Nat.zero_le _) (by omega)
      rw [hkn] at this
      cases this
  rw [hne, fgN_is hkn gs.length 0 (Nat.zero_le _) (by omega) hjn]
  rfl
theorem vg_dist {gs : List Pt} (h : vgB gs = true) {i j : Nat} (hi : i < gs.length) (hj : j < i) : gG gs j ≠ gG gs i := by
  unfold vgB at h
  have h1 := allQ_get _ _ (Bool.and_eq_true_iff.1 h).1 i (Nat.zero_le _) (by omega)
  unfold vgQ at h1
  have h2 := allQ_get _ _ (Bool.and_eq_true_iff.1 h1).2 j (Nat.zero_le _) (by omega)
  unfold dfQ at h2
  simpa using h2
/-- What the program answers. -/
def ueI (gs : List Pt) : List Int := (chn [] (cxP (srtL gs))).map fun p => ixG gs p.1 p.2
theorem ue_is {gs : List Pt} (h : vgB gs = true) : ueI gs = ueS gs := by
  have hm : ∀ x ∈ scanU gs (ordG gs) [], ixG gs (ptU gs x).1 (ptU gs x).2 = x := scanU_mem (fun x hx => by simp at hx) fun x hx => by
    obtain ⟨k, hk, rfl⟩ := List.getElem_of_mem hx
    have h1 := (ordG_in gs).1 k hk
    have e : (ordG gs).getD k 0 = (ordG gs)[k] := by simp [List.getD, hk]
    rw [e] at h1
    have h2 := ixG_at (gs := gs) (k := ((ordG gs)[k]).toNat) (by omega) (fun j hj => vg_dist h (by omega) hj)
    rw [Int.toNat_of_nonneg h1.1] at h2
    exact h2
  unfold ueI ueS
  rw [h, cond_true, ← scan_pts, List.map_map]
  exact (List.map_congr_left hm).trans (List.map_id _)
end Go.Proofs.Ytolodncpegajkab
namespace Go.Proofs.Ytolodncpegajkab
set_option linter.all false
open Go.RowKit
/-- The height of a graph at a place. -/
def fT (t : Int) (p : Pt) : Int := p.1 * t - p.2
theorem ueS_pts {gs : List Pt} (h : vgB gs = true) : (ueS gs).map (ptU gs) = chn [] (cxP (srtL gs)) := by
  unfold ueS
  rw [h, cond_true]
  exact scan_pts gs
theorem seg_top {t : Int} {a b q : Pt} (h1 : a.1 ≤ q.1) (h2 : q.1 ≤ b.1) (h3 : a.1 < b.1) (h4 : 0 ≤ crP a b q) : fT t q ≤ fT t a ∨ fT t q ≤ fT t b := by
  rcases Int.lt_or_le (fT t a) (fT t q) with c1 | c1
  · rcases Int.lt_or_le (fT t b) (fT t q) with c2 | c2
    · exfalso
      have e : (b.1 - q.1) * (fT t q - fT t a) + (q.1 - a.1) * (fT t q - fT t b) = - crP a b q := by unfold fT crP crossI; grind
      rcases Int.lt_or_le q.1 b.1 with g | g
      · have := Int.mul_pos (show 0 < b.1 - q.1 by omega) (show 0 < fT t q - fT t a by omega)
        have := Int.mul_nonneg (show 0 ≤ q.1 - a.1 by omega) (show 0 ≤ fT t q - fT t b by omega)
        omega
      · have := Int.mul_nonneg (show 0 ≤ b.1 - q.1 by omega) (show 0 ≤ fT t q - fT t a by omega)
        have := Int.mul_pos (show 0 < q.1 - a.1 by omega) (show 0 < fT t q - fT t b by omega)
        omega
    · exact .inr c2
  · exact .inl c1
theorem lft_top {S : Pt → Prop} {t : Int} {q m : Pt} (hq : S q) : ∀ {R : List Pt}, Lft S R → Dsc R → R.getLast? = some m → (q = m ∨ pltB m q = true) → (∀ z, R.head? = some z → q = z ∨ pltB q z = true) → ∃ v ∈ R, fT t q ≤ fT t v
  | [], _, _, h, _, _ => by cases h
  | [b], _, _, h, hm, ht => by
    obtain rfl : b = m := by simpa using h
    refine ⟨b, by simp, ?_⟩
    rcases hm with rfl | hm
    · exact Int.le_refl _
    · rcases ht b rfl with rfl | ht
      · exact Int.le_refl _
      · exact (oP_asym hm ht).elim
  | b :: a :: r, hl, hd, h, hm, ht => by
    rcases oP_tri q a with rfl | c | c
    · exact ⟨q, by simp, Int.le_refl _⟩
    · obtain ⟨v, h1, h2⟩ := lft_top hq (R := a :: r) hl.2 (List.pairwise_cons.1 hd).2 (by simpa using h) hm (fun z hz => by
        obtain rfl : a = z := by simpa using hz
        exact .inr c)
      exact ⟨v, List.mem_cons_of_mem _ h1, h2⟩
    · have hab : pltB a b = true := (List.pairwise_cons.1 hd).1 a (by simp)
      have hcr := hl.1 q hq
      rw [pltB_iff] at c hab
      have hqb : q.1 ≤ b.1 := by
        rcases ht b rfl with rfl | h
        · exact Int.le_refl _
        · rw [pltB_iff] at h
          omega
      rcases Int.lt_or_le a.1 b.1 with g | g
      · rcases seg_top (t := t) (by omega) hqb g hcr with h | h
        · exact ⟨a, by simp, h⟩
        · exact ⟨b, by simp, h⟩
      · refine ⟨a, by simp, ?_⟩
        have e : q.1 = a.1 := by omega
        unfold fT
        rw [e]
        omega
theorem chain_top {ps : List Pt} (h : Asc ps) (t : Int) {q : Pt} (hq : q ∈ ps) : ∃ v ∈ chn [] ps, fT t q ≤ fT t v := by
  have h0 : ps ≠ [] := fun e => by rw [e] at hq; simp at hq
  have hc := chain_ok h h0
  obtain ⟨m, m1, m2⟩ := hc.bot
  obtain ⟨n, n1, n2⟩ := hc.top
  obtain ⟨v, h1, h2⟩ := lft_top (t := t) hq hc.lft hc.dsc m1 (m2 q hq) (fun z hz => by
    rw [n1] at hz
    obtain rfl : n = z := by simpa using hz
    exact n2 q hq)
  have e := chn_rev ps []
  refine ⟨v, ?_, h2⟩
  rw [← List.mem_reverse, e]
  exact h1
theorem cxP_low {L : List Pt} (h : Asc L) : ∀ j, j < L.length → ∃ d ∈ cxP L, d.1 = (L.getD j (0, 0)).1 ∧ d.2 ≤ (L.getD j (0, 0)).2
  | 0, hj => ⟨_, (cxN_mem L L.length _).2 ⟨0, hj, rfl, .inl rfl⟩, rfl, Int.le_refl _⟩
  | j + 1, hj => by
    by_cases e : (L.getD (j + 1) (0, 0)).1 = (L.getD j (0, 0)).1
    · obtain ⟨d, h1, h2, h3⟩ := cxP_low h j (by omega)
      have := asc_x h (i := j) (j := j + 1) (by omega) hj
      exact ⟨d, h1, by omega, by omega⟩
    · exact ⟨_, (cxN_mem L L.length _).2 ⟨j + 1, hj, rfl, .inr e⟩, rfl, Int.le_refl _⟩
theorem low_of {gs : List Pt} {z : Pt} (hz : z ∈ gs) : ∃ d ∈ cxP (srtL gs), d.1 = z.1 ∧ d.2 ≤ z.2 := by
  obtain ⟨j, hj, e⟩ := List.getElem_of_mem ((srtL_mem gs z).2 hz)
  have := cxP_low (srtL_asc gs) j hj
  rw [show (srtL gs).getD j (0, 0) = z by rw [← e]; simp [List.getD, hj]] at this
  exact this
def ueC (gs : List Pt) : List Pt := chn [] (cxP (srtL gs))
/-- No graph is higher than all of the envelope. -/
theorem ue_top (gs : List Pt) (t : Int) {z : Pt} (hz : z ∈ gs) : ∃ v ∈ ueC gs, fT t z ≤ fT t v := by
  obtain ⟨d, h1, h2, h3⟩ := low_of hz
  obtain ⟨v, h4, h5⟩ := chain_top (up_asc (cxN_up (srtL_asc gs) _ (Nat.le_refl _))) t h1
  refine ⟨v, h4, ?_⟩
  have : fT t z ≤ fT t d := by unfold fT; rw [h2]; omega
  omega
theorem ueC_up (gs : List Pt) : (ueC gs).Pairwise fun a b => a.1 < b.1 := by
  have hu := cxN_up (srtL_asc gs) _ (Nat.le_refl (srtL gs).length)
  rcases hp : cxP (srtL gs) with _ | ⟨c, r⟩
  · unfold ueC
    rw [hp]
    exact List.Pairwise.nil
  have hc := chain_ok (up_asc hu) (show cxN (srtL gs) (srtL gs).length ≠ [] by rw [show cxN (srtL gs) (srtL gs).length = _ from hp]; simp)
  have hd : (chnR [] (cxP (srtL gs))).reverse.Pairwise fun a b => pltB a b = true := List.pairwise_reverse.2 hc.dsc
  have e : ueC gs = (chnR [] (cxP (srtL gs))).reverse := by
    have := chn_rev (cxP (srtL gs)) []
    rw [show ([] : List Pt).reverse = [] from rfl] at this
    rw [← this, List.reverse_reverse]
    rfl
  have hm : ∀ z ∈ (chnR [] (cxP (srtL gs))).reverse, z ∈ cxP (srtL gs) := fun z hz => hc.mem z (List.mem_reverse.1 hz)
  rw [e]
  refine hd.imp_of_mem fun {a b} ha hb hab => ?_
  rw [pltB_iff] at hab
  rcases hab with hab | ⟨h1, h2⟩
  · exact hab
  · exfalso
    have h3 := ((cxP_mem (srtL_asc gs) b).1 (hm b hb)).2 a ((cxP_mem (srtL_asc gs) a).1 (hm a ha)).1 h1
    omega
end Go.Proofs.Ytolodncpegajkab
namespace Go.Proofs.Ytolodncpegajkab
set_option linter.all false
open Go.RowKit
theorem ixsU_all (gs : List Pt) : ixsU gs (ueC gs) (ueC gs).length = ueI gs := by
  unfold ixsU ueI
  rw [List.take_length]
  rfl
theorem vg_ok {gs : List Pt} (h : vgB gs = true) : spV gs = srtL gs := by
  obtain ⟨h1, h2⟩ := vg_iff h
  have ho : okL gs = true := by
    simp only [okL, Bool.and_eq_true, decide_eq_true_eq]
    exact ⟨h1, by omega⟩
  unfold spV
  rw [ho]
  rfl
theorem vg_cx {gs : List Pt} (h : vgB gs = true) : allV (cxP (srtL gs)) = true ∧ (cxP (srtL gs)).length ≤ 8 := by
  obtain ⟨h1, h2⟩ := vg_iff h
  constructor
  · exact List.all_eq_true.2 fun z hz => List.all_eq_true.1 h1 z ((srtL_mem _ _).1 ((cxP_mem (srtL_asc gs) z).1 hz).1)
  · have := cxN_le (srtL gs) (srtL gs).length
    have := srtL_le gs
    show (cxN _ _).length ≤ 8
    omega
theorem resR_iUe (gs : List Pt) (h : Big gs) : ResR Try.prog 18 [.row gs.length (.ints (flat gs))] (rowUe (ueS gs)) ⟨.row 3 1, .ints (ueS gs)⟩ := by
  refine bodyX_resR mixed EUi_ok (m := 30) (n := 12) rfl ?_
  rw [tr_iUF]
  unfold Big at h
  simp only [List.drop_zero, ptsA_flat, flat_length]
  rcases hv : vgB gs with _ | _
  · have e : ueS gs = [] := by unfold ueS; rw [hv]; rfl
    rw [e]
    exact ⟨Nat.le_refl _, h, none, ⟨rfl, rfl⟩, trivial⟩
  obtain ⟨v1, v2⟩ := vg_iff hv
  obtain ⟨c1, c2⟩ := vg_cx hv
  rw [vg_ok hv]
  have ec : chn [] (cxP (srtL gs)) = ueC gs := rfl
  have hl := srtL_le gs
  have hc : (ueC gs).length ≤ 8 := by
    have := chn_len (cxP (srtL gs)) []
    rw [List.length_nil, ec] at this
    omega
  have hw : allV (ueC gs) = true := allV_chn rfl c1
  have ei := ixsU_all gs
  rw [ue_is hv] at ei
  have el : (ueC gs).length = (ueS gs).length := by rw [← ue_is hv]; unfold ueI; rw [List.length_map]; rfl
  rw [ec, ei, el]
  rw [← el]
  simp only [Bool.not_true, brT_f, Tree.ok]
  repeat (refine And.intro (by first | exact True.intro | assumption | omega) ?_)
  rw [el]
  exact ⟨some 5, ⟨rfl, rfl, rfl⟩, rfl, rfl, rfl⟩
theorem ueS_len (gs : List Pt) : (ueS gs).length ≤ 8 := by
  rcases hv : vgB gs with _ | _
  · unfold ueS
    rw [hv]
    exact Nat.zero_le _
  · obtain ⟨c1, c2⟩ := vg_cx hv
    rw [← ue_is hv]
    unfold ueI
    rw [List.length_map]
    have := chn_len (cxP (srtL gs)) []
    rw [List.length_nil] at this
    omega
def RUe : TabR := fun f ds => match f, ds with
  | 16, [.row m (.ints xs)] => some (rowUe (ueS (ptsA m xs)), ⟨.row 3 1, .ints (ueS (ptsA m xs))⟩, [m * 2 ≤ xs.length, m ≤ 1000000000])
  | 18, [.row m (.ints xs)] => some (rowUe (ueS (ptsA m xs)), ⟨.row 3 1, .ints (ueS (ptsA m xs))⟩, [m * 2 ≤ xs.length, m ≤ 1000000000])
  | 17, [.row m (.ints xs)] => some (.slice (some ⟨0, 0, none⟩) m m, ⟨.row 36 2, .ints (flat (ptsA m xs))⟩, [m * 2 ≤ xs.length, m ≤ 1000000000])
  | _, _ => none
theorem RUe_ok : TabROk Try.prog RUe := by
  intro f ds v b C h hC
  unfold RUe at h
  split at h
  · obtain ⟨rfl, rfl, rfl⟩ : _ ∧ _ ∧ _ := by simpa using h
    obtain ⟨_, h2⟩ := ptsA_spec hC.1
    exact resR_pts1 (pre := []) (post := []) hC.1 (resR_sUe _ (by unfold Big; rw [h2]; exact hC.2.1))
  · obtain ⟨rfl, rfl, rfl⟩ : _ ∧ _ ∧ _ := by simpa using h
    obtain ⟨_, h2⟩ := ptsA_spec hC.1
    exact resR_pts1 (pre := []) (post := []) hC.1 (resR_iUe _ (by unfold Big; rw [h2]; exact hC.2.1))
  · rename_i m xs
    obtain ⟨rfl, rfl, rfl⟩ : _ ∧ _ ∧ _ := by simpa using h
    obtain ⟨_, h2⟩ := ptsA_spec hC.1
    have h3 := resR_toG (ptsA m xs) (by unfold Big; rw [h2]; exact hC.2.1)
    rw [h2] at h3
    have h4 := resR_pts1 (pre := []) (post := []) hC.1 (by rw [h2]; exact h3)
    exact h4
  · cases h
end Go.Proofs.Ytolodncpegajkab
namespace Go.Proofs.Ytolodncpegajkab
set_option linter.all false
open Go.RowKit
set_option maxRecDepth 100000 in
theorem tr_pick (bs : List Int) (l c : Nat) (p k : Int) : bodyM Try.prog (tabE B0) (runM Try.prog (tabE B0) 30 12) 30 76 [.pointer (some ⟨1, 0, none⟩), .int .i64 k] (memR bs l c p none) .fin = brT (decide (k < 1)) (.fin (.int .i64 (0)) [some ⟨.view, .bytes (bs)⟩, some ⟨.box, .vals [.slice (some ⟨0, 0, none⟩) (l) (c), .int .i64 (IntKind.i64.wrap (p + 1))]⟩]) (brT ((↑l : Int) == 0) (.fin (.int .i64 (0)) [some ⟨.view, .bytes (bs)⟩, some ⟨.box, .vals [.slice (some ⟨0, 0, none⟩) (l) (c), .int .i64 (IntKind.i64.wrap (p + 1))]⟩]) (brT (decide (IntKind.i64.wrap (IntKind.i64.wrap (p + 1) - 1) < (↑l : Int))) (.need ((0 : Int) ≤ IntKind.i64.wrap (IntKind.i64.wrap (p + (1 : Int)) - (1 : Int)) ∧ IntKind.i64.wrap (IntKind.i64.wrap (p + (1 : Int)) - (1 : Int)) < (↑l : Int)) (.need ((0 : Nat) + (IntKind.i64.wrap (IntKind.i64.wrap (p + (1 : Int)) - (1 : Int))).toNat * (1 : Nat) < bs.length) (.need (¬k = (0 : Int)) (.fin (.int .i64 ((IntKind.i64.wrap (bs.getD (0 + (IntKind.i64.wrap (IntKind.i64.wrap (p + 1) - 1)).toNat * 1) 0)).tmod k)) [some ⟨.view, .bytes (bs)⟩, some ⟨.box, .vals [.slice (some ⟨0, 0, none⟩) (l) (c), .int .i64 (IntKind.i64.wrap (p + 1))]⟩])))) (.need (¬(↑l : Int) = (0 : Int)) (.need ((0 : Int) ≤ (IntKind.i64.wrap (IntKind.i64.wrap (p + (1 : Int)) - (1 : Int))).tmod (↑l : Int) ∧ (IntKind.i64.wrap (IntKind.i64.wrap (p + (1 : Int)) - (1 : Int))).tmod (↑l : Int) < (↑l : Int)) (.need ((0 : Nat) + ((IntKind.i64.wrap (IntKind.i64.wrap (p + (1 : Int)) - (1 : Int))).tmod (↑l : Int)).toNat * (1 : Nat) < bs.length) (.need (¬(↑l : Int) = (0 : Int)) (.need ((0 : Int) ≤ (IntKind.i64.wrap (IntKind.i64.wrap (IntKind.i64.wrap (IntKind.i64.wrap (p + (1 : Int)) - (1 : Int)) * (7 : Int)) + (3 : Int))).tmod (↑l : Int) ∧ (IntKind.i64.wrap (IntKind.i64.wrap (IntKind.i64.wrap (IntKind.i64.wrap (p + (1 : Int)) - (1 : Int)) * (7 : Int)) + (3 : Int))).tmod (↑l : Int) < (↑l : Int)) (.need ((0 : Nat) + ((IntKind.i64.wrap (IntKind.i64.wrap (IntKind.i64.wrap (IntKind.i64.wrap (p + (1 : Int)) - (1 : Int)) * (7 : Int)) + (3 : Int))).tmod (↑l : Int)).toNat * (1 : Nat) < bs.length) (.need (¬(↑l : Int) = (0 : Int)) (.need (¬(64 : Int) = (0 : Int)) (.need (¬k = (0 : Int)) (.fin (.int .i64 ((IntKind.i64.wrap (↑(BitVec.ofInt IntKind.i64.bits (IntKind.i64.wrap (IntKind.i64.wrap (IntKind.i64.wrap (IntKind.i64.wrap (IntKind.i64.wrap (bs.getD (0 + ((IntKind.i64.wrap (IntKind.i64.wrap (p + 1) - 1)).tmod (↑l : Int)).toNat * (1 : Nat)) 0) * 131) + IntKind.i64.wrap (IntKind.i64.wrap (bs.getD (0 + ((IntKind.i64.wrap (IntKind.i64.wrap (IntKind.i64.wrap (IntKind.i64.wrap (p + 1) - 1) * 7) + 3)).tmod (↑l : Int)).toNat * (1 : Nat)) 0) * 1117)) + IntKind.i64.wrap (IntKind.i64.wrap (IntKind.i64.wrap (p + 1) - 1) * 29)) + IntKind.i64.wrap (IntKind.i64.wrap ((IntKind.i64.wrap (IntKind.i64.wrap (p + 1) - 1)).tdiv (↑l : Int)) * 53))) ^^^ BitVec.ofInt IntKind.i64.bits (IntKind.i64.wrap ((IntKind.i64.wrap (IntKind.i64.wrap (IntKind.i64.wrap (IntKind.i64.wrap (IntKind.i64.wrap (bs.getD (0 + ((IntKind.i64.wrap (IntKind.i64.wrap (p + 1) - 1)).tmod (↑l : Int)).toNat * (1 : Nat)) 0) * 131) + IntKind.i64.wrap (IntKind.i64.wrap (bs.getD (0 + ((IntKind.i64.wrap (IntKind.i64.wrap (IntKind.i64.wrap (IntKind.i64.wrap (p + 1) - 1) * 7) + 3)).tmod (↑l : Int)).toNat * (1 : Nat)) 0) * 1117)) + IntKind.i64.wrap (IntKind.i64.wrap (IntKind.i64.wrap (p + 1) - 1) * 29)) + IntKind.i64.wrap (IntKind.i64.wrap ((IntKind.i64.wrap (IntKind.i64.wrap (p + 1) - 1)).tdiv (↑l : Int)) * 53))).tdiv 64))).toNat : Int)).tmod k)) [some ⟨.view, .bytes (bs)⟩, some ⟨.box, .vals [.slice (some ⟨0, 0, none⟩) (l) (c), .int .i64 (IntKind.i64.wrap (p + 1))]⟩])))))))))))) := by kernel_rfl
def xorI (x : Int) : Int := IntKind.i64.wrap (↑(BitVec.ofInt IntKind.i64.bits x ^^^ BitVec.ofInt IntKind.i64.bits (IntKind.i64.wrap (x.tdiv 64))).toNat : Int)
def mixI (bs : List Int) (l : Nat) (p : Int) : Int := bs.getD (p.tmod l).toNat 0 * 131 + bs.getD ((p * 7 + 3).tmod l).toNat 0 * 1117 + p * 29 + p.tdiv l * 53
/-- What pick answers. -/
def pickI (bs : List Int) (l : Nat) (p k : Int) : Int := if k < 1 ∨ l = 0 then 0 else if p < l then (bs.getD p.toNat 0).tmod k else (xorI (mixI bs l p)).tmod k
/-- Is the reader in order? -/
def rdC (bs : List Int) (l : Nat) (p : Int) : Prop := l ≤ bs.length ∧ l ≤ 2000 ∧ 0 ≤ p ∧ p ≤ 1000000 ∧ Bytes bs
def pickS : RSpec := fun bs l p rest ex => match rest, ex with
  | [.int .i64 k], none => some (.int .i64 (pickI bs l p k), p + 1, [rdC bs l p])
  | _, _ => none
theorem Bytes.get {bs : List Int} (h : Bytes bs) (i : Nat) : 0 ≤ bs.getD i 0 ∧ bs.getD i 0 ≤ 255 := by
  rw [List.getD_eq_getElem?_getD]
  rcases hx : bs[i]? with _ | b
  · simp
  · simpa using h b (List.mem_of_getElem? hx)
theorem xorI_bd {x : Int} (h0 : 0 ≤ x) (h1 : x < 4611686018427387904) : 0 ≤ xorI x ∧ xorI x < 9223372036854775808 := by
  have hq : 0 ≤ x.tdiv 64 ∧ x.tdiv 64 ≤ x := by
    rw [Int.tdiv_eq_ediv_of_nonneg h0]
    omega
  unfold xorI
  rw [wr (x := x.tdiv 64) (by omega)]
  obtain ⟨a, rfl⟩ := Int.eq_ofNat_of_zero_le h0
  obtain ⟨b, hb⟩ := Int.eq_ofNat_of_zero_le hq.1
  rw [hb]
  have hb' : (b : Int) ≤ a := by rw [← hb]; exact hq.2
  have e : (BitVec.ofInt IntKind.i64.bits (a : Int) ^^^ BitVec.ofInt IntKind.i64.bits (b : Int)).toNat = a ^^^ b := by
    show (BitVec.ofInt 64 (a : Int) ^^^ BitVec.ofInt 64 (b : Int)).toNat = a ^^^ b
    rw [BitVec.toNat_xor]
    simp only [BitVec.ofInt_natCast, BitVec.toNat_ofNat]
    rw [Nat.mod_eq_of_lt (by omega), Nat.mod_eq_of_lt (by omega)]
  have hlt : a ^^^ b < 2 ^ 63 := Nat.xor_lt_two_pow (by omega) (by omega)
  rw [e, wr (by omega)]
  omega
theorem mixI_bd {bs : List Int} {l : Nat} {p : Int} (h : rdC bs l p) (hl : 0 < l) : 0 ≤ mixI bs l p ∧ mixI bs l p < 1000000000 := by
  obtain ⟨_, h2, h3, h4, h5⟩ := h
  have b1 := h5.get (p.tmod l).toNat
  have b2 := h5.get ((p * 7 + 3).tmod l).toNat
  have q : 0 ≤ p.tdiv l ∧ p.tdiv l ≤ p := by
    rw [Int.tdiv_eq_ediv_of_nonneg h3]
    exact ⟨Int.ediv_nonneg h3 (by omega), Int.ediv_le_self _ h3⟩
  unfold mixI
  omega
theorem pickI_bd {bs : List Int} {l : Nat} {p k : Int} (h : rdC bs l p) (hk : 1 ≤ k) : 0 ≤ pickI bs l p k ∧ pickI bs l p k < k := by
  unfold pickI
  split
  · omega
  rename_i hn
  have hl : 0 < l := by omega
  split
  · exact ⟨Int.tmod_nonneg _ (h.2.2.2.2.get _).1, Int.tmod_lt_of_pos _ (by omega)⟩
  · have hm := mixI_bd h hl
    exact ⟨Int.tmod_nonneg _ (xorI_bd hm.1 (by omega)).1, Int.tmod_lt_of_pos _ (by omega)⟩
theorem vk {k : IntKind} {a b : Int} (h : a = b) : Value.int k a = .int k b := by rw [h]
theorem pickS_ok : SpecOk Try.prog 76 pickS := by
  intro bs l c p rest0 ex v p' C h hC
  unfold pickS at h
  split at h
  rotate_left
  · cases h
  rename_i k
  obtain ⟨rfl, rfl, rfl⟩ : Value.int .i64 (pickI bs l p k) = v ∧ p + 1 = p' ∧ [rdC bs l p] = C := by simpa using h
  have hC := hC.1
  have hg := fun i => hC.2.2.2.2.get i
  have hC0 := hC
  obtain ⟨h1, h2, h3, h4, h5⟩ := hC
  refine ⟨tabE B0, 30, 12, tabE_ok B0_ok, rfl, ?_⟩
  rw [tr_pick]
  have e1 : IntKind.i64.wrap (p + 1) = p + 1 := wr (by omega)
  have e2 : IntKind.i64.wrap (p + 1 - 1) = p := by rw [wr (by omega)]; omega
  have e3 : IntKind.i64.wrap (p * 7) = p * 7 := wr (by omega)
  have e4 : IntKind.i64.wrap (p * 7 + 3) = p * 7 + 3 := wr (by omega)
  simp only [e1, e2, e3, e4, Nat.zero_add, Nat.mul_one]
  refine brT_ok.2 ⟨fun hk => ?_, fun hk => brT_ok.2 ⟨fun hl => ?_, fun hl => brT_ok.2 ⟨fun hp => ?_, fun hp => ?_⟩⟩⟩
  · have hk := of_decide_eq_true hk
    refine ⟨vk ?_, rfl⟩
    unfold pickI
    rw [if_pos (.inl hk)]
  · have hl : l = 0 := by simpa using hl
    refine ⟨vk ?_, rfl⟩
    unfold pickI
    rw [if_pos (.inr hl)]
  · have hk := of_decide_eq_false hk
    have hl : ¬ l = 0 := by simpa using hl
    have hp := of_decide_eq_true hp
    refine ⟨⟨h3, hp⟩, by omega, by omega, vk ?_, rfl⟩
    rw [wr (by have := hg p.toNat; omega)]
    unfold pickI
    rw [if_neg (by omega), if_pos hp]
  · have hk := of_decide_eq_false hk
    have hl : ¬ l = 0 := by simpa using hl
    have hp := of_decide_eq_false hp
    have hl0 : (0 : Int) < l := by omega
    have t1 : 0 ≤ p.tmod l ∧ p.tmod l < l := ⟨Int.tmod_nonneg _ h3, Int.tmod_lt_of_pos _ hl0⟩
    have t2 : 0 ≤ (p * 7 + 3).tmod l ∧ (p * 7 + 3).tmod l < l := ⟨Int.tmod_nonneg _ (by omega), Int.tmod_lt_of_pos _ hl0⟩
    have q : 0 ≤ p.tdiv l ∧ p.tdiv l ≤ p := by
      rw [Int.tdiv_eq_ediv_of_nonneg h3]
      exact ⟨Int.ediv_nonneg h3 (by omega), Int.ediv_le_self _ h3⟩
    have b1 := hg (p.tmod l).toNat
    have b2 := hg ((p * 7 + 3).tmod l).toNat
    have hm := mixI_bd hC0 (by omega)
    refine ⟨by omega, t1, by omega, by omega, t2, by omega, by omega, by omega, by omega, vk ?_, rfl⟩
    unfold pickI
    rw [if_neg (by omega), if_neg (by omega)]
    have em : IntKind.i64.wrap (IntKind.i64.wrap (IntKind.i64.wrap (IntKind.i64.wrap (IntKind.i64.wrap (bs.getD (p.tmod l).toNat 0) * 131) + IntKind.i64.wrap (IntKind.i64.wrap (bs.getD ((p * 7 + 3).tmod l).toNat 0) * 1117)) + IntKind.i64.wrap (p * 29)) + IntKind.i64.wrap (IntKind.i64.wrap (p.tdiv l) * 53)) = mixI bs l p := by
      clear hm
      unfold mixI
      generalize bs.getD (p.tmod l).toNat 0 = x1 at *
      generalize bs.getD ((p * 7 + 3).tmod l).toNat 0 = x2 at *
      generalize p.tdiv l = x3 at *
      simp (disch := omega) only [wr]
    rw [em]
    rfl
/-- The first table: pick. -/
def J1 : List (FuncId × RSpec) := [(76, pickS)]
theorem J1_ok : JOk Try.prog J1 := JOk.nil.cons (entersB_res (by kernel_rfl)).1 pickS_ok
def ER1 : Env := withJ (tabE B0) J1
theorem ER1_ok : EnvOk Try.prog ER1 := withJ_ok mixed (tabE_ok B0_ok) J1_ok
set_option maxRecDepth 100000 in
theorem tr_one (bs : List Int) (l c : Nat) (p : Int) (n : Nat) (xs : List Int) : bodyM Try.prog ER1 (runM Try.prog ER1 30 12) 30 66 [.pointer (some ⟨1, 0, none⟩), .slice (some ⟨2, 0, none⟩) n n] (memR bs l c p (some xs)) .fin = .need (rdC bs l p) (.need ((0 : Int) ≤ pickI bs l p (↑n : Int) ∧ pickI bs l p (↑n : Int) < (↑n : Int)) (.need ((0 : Nat) + (pickI bs l p (↑n : Int)).toNat * (1 : Nat) < xs.length) (.fin (.int .i64 (xs.getD (0 + (pickI bs l p (↑n : Int)).toNat * 1) 0)) [some ⟨.view, .bytes (bs)⟩, some ⟨.box, .vals [.slice (some ⟨0, 0, none⟩) (l) (c), .int .i64 (p + 1)]⟩, some ⟨.view, .ints (xs)⟩]))) := by kernel_rfl
set_option maxRecDepth 100000 in
theorem tr_rpt (bs : List Int) (l c : Nat) (p : Int) : bodyM Try.prog ER1 (runM Try.prog ER1 30 12) 30 109 [.pointer (some ⟨1, 0, none⟩)] (memR bs l c p none) .fin = .need (rdC bs l p) (.need (rdC bs l (p + (1 : Int))) (.fin (.agg #[.int .i64 (IntKind.i64.wrap (pickI bs l p 9 - 2)), .int .i64 (IntKind.i64.wrap (pickI bs l (p + 1) 9 - 2))]) [some ⟨.view, .bytes (bs)⟩, some ⟨.box, .vals [.slice (some ⟨0, 0, none⟩) (l) (c), .int .i64 (p + 1 + 1)]⟩, some ⟨.box, .vals [.int .i64 (IntKind.i64.wrap (pickI bs l p 9 - 2)), .int .i64 (IntKind.i64.wrap (pickI bs l (p + 1) 9 - 2))]⟩])) := by kernel_rfl
end Go.Proofs.Ytolodncpegajkab
namespace Go.Proofs.Ytolodncpegajkab
set_option linter.all false
open Go.RowKit
/-- The reader in order, with room for many more. -/
def rdK (bs : List Int) (l : Nat) (p : Int) : Prop := rdC bs l p ∧ p ≤ 900000
theorem rdK.at {bs : List Int} {l : Nat} {p : Int} (h : rdK bs l p) {q : Int} (h0 : p ≤ q) (h1 : q ≤ p + 90000) : rdC bs l q :=
  ⟨h.1.1, h.1.2.1, by have := h.1.2.2.1; omega, by have := h.2; omega, h.1.2.2.2.2⟩
def oneI (bs : List Int) (l : Nat) (p : Int) (n : Nat) (xs : List Int) : Int := xs.getD (pickI bs l p n).toNat 0
def oneS : RSpec := fun bs l p rest ex => match rest, ex with
  | [.slice (some ⟨2, 0, none⟩) n n'], some xs => some (.int .i64 (oneI bs l p n xs), p + 1, [rdC bs l p, 1 ≤ n ∧ n ≤ xs.length ∧ n' = n])
  | _, _ => none
theorem oneS_ok : SpecOk Try.prog 66 oneS := by
  intro bs l c p rest0 ex v p' C h hC
  unfold oneS at h
  split at h
  rotate_left
  · cases h
  rename_i n n' xs
  obtain ⟨rfl, rfl, rfl⟩ : Value.int .i64 (oneI bs l p n xs) = v ∧ p + 1 = p' ∧ [rdC bs l p, 1 ≤ n ∧ n ≤ xs.length ∧ n' = n] = C := by simpa using h
  obtain ⟨h1, ⟨h2, h3, rfl⟩, _⟩ := hC
  refine ⟨ER1, 30, 12, ER1_ok, rfl, ?_⟩
  rw [tr_one]
  have hb := pickI_bd (k := (n' : Int)) h1 (by omega)
  exact ⟨h1, hb, by omega, by simp only [oneI, Nat.zero_add, Nat.mul_one], rfl⟩
def rptS : RSpec := fun bs l p rest ex => match rest, ex with
  | [], none => some (.agg #[.int .i64 (pickI bs l p 9 - 2), .int .i64 (pickI bs l (p + 1) 9 - 2)], p + 2, [rdK bs l p])
  | _, _ => none
theorem box2 {bs : List Int} {l c : Nat} {p q : Int} (h : q = p) (r : List (Option Blk)) : (some ⟨.view, .bytes bs⟩ :: some ⟨.box, .vals [.slice (some ⟨0, 0, none⟩) l c, .int .i64 q]⟩ :: r : List (Option Blk)).getD 1 none = some (rdBox 0 l c p) := by rw [h]; rfl
theorem rptS_ok : SpecOk Try.prog 109 rptS := by
  intro bs l c p rest0 ex v p' C h hC
  unfold rptS at h
  split at h
  rotate_left
  · cases h
  obtain ⟨rfl, rfl, rfl⟩ : Value.agg #[.int .i64 (pickI bs l p 9 - 2), .int .i64 (pickI bs l (p + 1) 9 - 2)] = v ∧ p + 2 = p' ∧ [rdK bs l p] = C := by simpa using h
  have h1 := hC.1
  refine ⟨ER1, 30, 12, ER1_ok, rfl, ?_⟩
  rw [tr_rpt]
  have h2 := h1.at (q := p) (by omega) (by omega)
  have h3 := h1.at (q := p + 1) (by omega) (by omega)
  have b1 := pickI_bd (k := 9) h2 (by omega)
  have b2 := pickI_bd (k := 9) h3 (by omega)
  exact ⟨h2, h3, by rw [wr (by omega), wr (by omega)], box2 (by omega) _⟩
def J2 : List (FuncId × RSpec) := (66, oneS) :: (109, rptS) :: J1
theorem J2_ok : JOk Try.prog J2 := (J1_ok.cons (entersB_res (by kernel_rfl)).1 rptS_ok).cons (entersB_res (by kernel_rfl)).1 oneS_ok
def ER2 : Env := withJ (tabE B0) J2
theorem ER2_ok : EnvOk Try.prog ER2 := withJ_ok mixed (tabE_ok B0_ok) J2_ok
def farI : List Int := [1001, -1001, 1000, -1000]
def apQ (bs : List Int) (l : Nat) (p : Int) : Int := pickI bs l (p + 2) 16
def apX (bs : List Int) (l : Nat) (p : Int) : Int := if apQ bs l p = 0 then oneI bs l (p + 3) 4 farI else pickI bs l p 9 - 2
def apY (bs : List Int) (l : Nat) (p : Int) : Int := if apQ bs l p = 1 then oneI bs l (p + 3) 4 farI else pickI bs l (p + 1) 9 - 2
def apP (bs : List Int) (l : Nat) (p : Int) : Int := if apQ bs l p = 0 ∨ apQ bs l p = 1 then p + 4 else p + 3
theorem veq2 {a a' b b' : Int} (h : a = a') (k : b = b') : Value.agg #[.int .i64 a, .int .i64 b] = .agg #[.int .i64 a', .int .i64 b'] := by rw [h, k]
end Go.Proofs.Ytolodncpegajkab
namespace Go.Proofs.Ytolodncpegajkab
set_option linter.all false
open Go.RowKit
/-- How many bytes are read. -/
def rdL (n : Nat) : Nat := min n 2000
theorem rdL_of {n : Nat} (h : 2000 < (n : Int)) : rdL n = 2000 := by unfold rdL; omega
theorem rdL_no {n : Nat} (h : ¬ 2000 < (n : Int)) : rdL n = n := by unfold rdL; omega
theorem rdK0 {bs : List Int} {n : Nat} (h : Bytes bs) (hn : n ≤ bs.length) {l : Nat} (hl : l ≤ n) (h2 : l ≤ 2000) {p : Int} (h3 : 0 ≤ p) (h4 : p ≤ 900000) : rdK bs l p :=
  ⟨⟨by omega, h2, h3, by omega, h⟩, h4⟩
theorem bnd2000 {n : Nat} (h : 2000 < (n : Int)) : (0 : Int) ≤ bndI none (0 : Int) ∧ bndI none (0 : Int) ≤ bndI (some (IntKind.i64, (2000 : Int))) (↑n : Int) ∧ bndI (some (IntKind.i64, (2000 : Int))) (↑n : Int) ≤ (↑n : Int) := by
  refine ⟨Int.le_refl _, ?_, ?_⟩
  · show (0 : Int) ≤ 2000; omega
  · show (2000 : Int) ≤ n; omega
/-- The coordinates of the three points. -/
def d3 (bs : List Int) (n : Nat) : Nat → Int
  | 0 => apX bs (rdL n) 0
  | 1 => apY bs (rdL n) 0
  | 2 => apX bs (rdL n) (apP bs (rdL n) 0)
  | 3 => apY bs (rdL n) (apP bs (rdL n) 0)
  | 4 => apX bs (rdL n) (apP bs (rdL n) (apP bs (rdL n) 0))
  | _ => apY bs (rdL n) (apP bs (rdL n) (apP bs (rdL n) 0))
end Go.Proofs.Ytolodncpegajkab
namespace Go.Proofs.Ytolodncpegajkab
set_option linter.all false
open Go.RowKit
set_option maxRecDepth 100000 in
theorem tr_rgr (bs : List Int) (l c : Nat) (p : Int) : bodyM Try.prog ER2 (runM Try.prog ER2 30 12) 30 107 [.pointer (some ⟨1, 0, none⟩)] (memR bs l c p none) .fin = .need (rdC bs l p) (.need (rdC bs l (p + (1 : Int))) (.fin (.agg #[.int .i64 (IntKind.i64.wrap (pickI bs l p 7 - 3)), .int .i64 (IntKind.i64.wrap (pickI bs l (p + 1) 9 - 4))]) [some ⟨.view, .bytes (bs)⟩, some ⟨.box, .vals [.slice (some ⟨0, 0, none⟩) (l) (c), .int .i64 (p + 1 + 1)]⟩, some ⟨.box, .vals [.int .i64 (IntKind.i64.wrap (pickI bs l p 7 - 3)), .int .i64 (IntKind.i64.wrap (pickI bs l (p + 1) 9 - 4))]⟩])) := by kernel_rfl
def rgrS : RSpec := fun bs l p rest ex => match rest, ex with
  | [], none => some (.agg #[.int .i64 (pickI bs l p 7 - 3), .int .i64 (pickI bs l (p + 1) 9 - 4)], p + 2, [rdK bs l p])
  | _, _ => none
theorem rgrS_ok : SpecOk Try.prog 107 rgrS := by
  intro bs l c p rest0 ex v p' C h hC
  unfold rgrS at h
  split at h
  rotate_left
  · cases h
  obtain ⟨rfl, rfl, rfl⟩ : Value.agg #[.int .i64 (pickI bs l p 7 - 3), .int .i64 (pickI bs l (p + 1) 9 - 4)] = v ∧ p + 2 = p' ∧ [rdK bs l p] = C := by simpa using h
  have h1 := hC.1
  refine ⟨ER2, 30, 12, ER2_ok, rfl, ?_⟩
  rw [tr_rgr]
  have h2 := h1.at (q := p) (by omega) (by omega)
  have h3 := h1.at (q := p + 1) (by omega) (by omega)
  have b1 := pickI_bd (k := 7) h2 (by omega)
  have b2 := pickI_bd (k := 9) h3 (by omega)
  exact ⟨h2, h3, by rw [wr (by omega), wr (by omega)], box2 (by omega) _⟩
def JGr : List (FuncId × RSpec) := (107, rgrS) :: J2
theorem JGr_ok : JOk Try.prog JGr := J2_ok.cons (entersB_res (by kernel_rfl)).1 rgrS_ok
def ERG : Env := withJ (tabE B0) JGr
theorem ERG_ok : EnvOk Try.prog ERG := withJ_ok mixed (tabE_ok B0_ok) JGr_ok
set_option maxRecDepth 100000 in
theorem tr_agr (bs : List Int) (l c : Nat) (p : Int) : bodyM Try.prog ERG (runM Try.prog ERG 30 12) 30 108 [.pointer (some ⟨1, 0, none⟩)] (memR bs l c p none) .fin = .need (rdK bs l p) (.need (rdC bs l (p + (2 : Int))) (brT (pickI bs l (p + 2) 16 == 0) (.need (rdC bs l (p + (2 : Int) + (1 : Int))) (.need ((1 : Nat) ≤ (3 : Nat) ∧ (3 : Nat) ≤ (3 : Nat) ∧ (3 : Nat) = (3 : Nat)) (.fin (.agg #[.int .i64 (oneI bs l (p + 2 + 1) 3 [1001, -1001, 1000]), .int .i64 (pickI bs l (p + 1) 9 - 4)]) [some ⟨.view, .bytes (bs)⟩, some ⟨.box, .vals [.slice (some ⟨0, 0, none⟩) (l) (c), .int .i64 (p + 2 + 1 + 1)]⟩, some ⟨.box, .vals [.int .i64 (oneI bs l (p + 2 + 1) 3 [1001, -1001, 1000]), .int .i64 (pickI bs l (p + 1) 9 - 4)]⟩, some ⟨.box, .vals [.int .i64 (oneI bs l (p + 2 + 1) 3 [1001, -1001, 1000]), .int .i64 (pickI bs l (p + 1) 9 - 4)]⟩, some ⟨.row 3 1, .vals [.int .i64 (1001), .int .i64 (-1001), .int .i64 (1000)]⟩]))) (brT (pickI bs l (p + 2) 16 == 1) (.need (rdC bs l (p + (2 : Int) + (1 : Int))) (.need ((1 : Nat) ≤ (3 : Nat) ∧ (3 : Nat) ≤ (3 : Nat) ∧ (3 : Nat) = (3 : Nat)) (.fin (.agg #[.int .i64 (pickI bs l p 7 - 3), .int .i64 (oneI bs l (p + 2 + 1) 3 [1001, -1001, 1000])]) [some ⟨.view, .bytes (bs)⟩, some ⟨.box, .vals [.slice (some ⟨0, 0, none⟩) (l) (c), .int .i64 (p + 2 + 1 + 1)]⟩, some ⟨.box, .vals [.int .i64 (pickI bs l p 7 - 3), .int .i64 (oneI bs l (p + 2 + 1) 3 [1001, -1001, 1000])]⟩, some ⟨.box, .vals [.int .i64 (pickI bs l p 7 - 3), .int .i64 (oneI bs l (p + 2 + 1) 3 [1001, -1001, 1000])]⟩, some ⟨.row 3 1, .vals [.int .i64 (1001), .int .i64 (-1001), .int .i64 (1000)]⟩]))) (.fin (.agg #[.int .i64 (pickI bs l p 7 - 3), .int .i64 (pickI bs l (p + 1) 9 - 4)]) [some ⟨.view, .bytes (bs)⟩, some ⟨.box, .vals [.slice (some ⟨0, 0, none⟩) (l) (c), .int .i64 (p + 2 + 1)]⟩, some ⟨.box, .vals [.int .i64 (pickI bs l p 7 - 3), .int .i64 (pickI bs l (p + 1) 9 - 4)]⟩, some ⟨.box, .vals [.int .i64 (pickI bs l p 7 - 3), .int .i64 (pickI bs l (p + 1) 9 - 4)]⟩])))) := by kernel_rfl
def agL : List Int := [1001, -1001, 1000]
def agQ (bs : List Int) (l : Nat) (p : Int) : Int := pickI bs l (p + 2) 16
def agM (bs : List Int) (l : Nat) (p : Int) : Int := if agQ bs l p = 0 then oneI bs l (p + 3) 3 agL else pickI bs l p 7 - 3
def agB (bs : List Int) (l : Nat) (p : Int) : Int := if agQ bs l p = 1 then oneI bs l (p + 3) 3 agL else pickI bs l (p + 1) 9 - 4
def agP (bs : List Int) (l : Nat) (p : Int) : Int := if agQ bs l p = 0 ∨ agQ bs l p = 1 then p + 4 else p + 3
def agrS : RSpec := fun bs l p rest ex => match rest, ex with
  | [], none => some (.agg #[.int .i64 (agM bs l p), .int .i64 (agB bs l p)], agP bs l p, [rdK bs l p])
  | _, _ => none
theorem agrS_ok : SpecOk Try.prog 108 agrS := by
  intro bs l c p rest0 ex v p' C h hC
  unfold agrS at h
  split at h
  rotate_left
  · cases h
  obtain ⟨rfl, rfl, rfl⟩ : Value.agg #[.int .i64 (agM bs l p), .int .i64 (agB bs l p)] = v ∧ agP bs l p = p' ∧ [rdK bs l p] = C := by simpa using h
  have h1 := hC.1
  refine ⟨ERG, 30, 12, ERG_ok, rfl, ?_⟩
  rw [tr_agr]
  have e3 : p + 2 + 1 = p + 3 := by omega
  have e4 : p + 3 + 1 = p + 4 := by omega
  simp only [e3, e4]
  refine ⟨h1, h1.at (by omega) (by omega), brT_ok.2 ⟨fun hq => ?_, fun hq => brT_ok.2 ⟨fun hq' => ?_, fun hq' => ?_⟩⟩⟩
  · have hq : agQ bs l p = 0 := by simpa [agQ] using hq
    exact ⟨h1.at (by omega) (by omega), by decide, veq2 (by unfold agM; rw [if_pos hq]; rfl) (by unfold agB; rw [if_neg (by omega)]), box2 (by unfold agP; rw [if_pos (.inl hq)]) _⟩
  · have hq : ¬ agQ bs l p = 0 := by simpa [agQ] using hq
    have hq' : agQ bs l p = 1 := by simpa [agQ] using hq'
    exact ⟨h1.at (by omega) (by omega), by decide, veq2 (by unfold agM; rw [if_neg hq]) (by unfold agB; rw [if_pos hq']; rfl), box2 (by unfold agP; rw [if_pos (.inr hq')]) _⟩
  · have hq : ¬ agQ bs l p = 0 := by simpa [agQ] using hq
    have hq' : ¬ agQ bs l p = 1 := by simpa [agQ] using hq'
    exact ⟨veq2 (by unfold agM; rw [if_neg hq]) (by unfold agB; rw [if_neg hq']), box2 (by unfold agP; rw [if_neg (by omega)]) _⟩
def JGr2 : List (FuncId × RSpec) := (108, agrS) :: JGr
theorem JGr2_ok : JOk Try.prog JGr2 := JGr_ok.cons (entersB_res (by kernel_rfl)).1 agrS_ok
def ERG2 : Env := withJ (tabE B0) JGr2
theorem ERG2_ok : EnvOk Try.prog ERG2 := withJ_ok mixed (tabE_ok B0_ok) JGr2_ok
end Go.Proofs.Ytolodncpegajkab
namespace Go.Proofs.Ytolodncpegajkab
set_option linter.all false
open Go.RowKit
/-- Is a graph in a list? -/
def hasE (o : List Pt) (x y : Int) : Bool := !(allQ (ngQ o x y) 0 o.length)
noncomputable def c_gri : Code := ((loopsOf (codeOf Try.f63))[1]?).getD .skip
def k_gri : Ex → List Nat := keeps [0, 3, 4, 5, 6, 7] [(2, [0, 3, 4, 5, 6]), (1, [0, 3, 4]), (0, [0, 3])] [2]
def s_gri (bs : List Int) (l c : Nat) (n p : Int) (o : List Pt) (x y : Int) : Nat × Bool → St := fun (i, b) => ⟨(.pointer (some ⟨1, 0, none⟩) :: topV :: topV :: .slice (some ⟨4, 0, none⟩) o.length o.length :: .int .i64 n :: .pointer (some ⟨5, 0, none⟩) :: .bool b :: .int .i64 i :: topV :: topV :: topV :: topV :: topV :: topV :: topV :: topV :: topV :: topV :: topV :: topV :: topV :: topV :: topV :: topV :: topV :: topV :: topV :: topV :: topV :: topV :: topV :: topV :: topV :: topV :: topV :: topV :: topV :: topV :: topV :: topV :: topV :: topV :: topV :: topV :: topV :: topV :: topV :: topV :: topV :: topV :: topV :: topV :: topV :: topV :: topV :: topV :: topV :: []), [some ⟨.view, .bytes bs⟩, some ⟨.box, .vals [.slice (some ⟨0, 0, none⟩) l c, .int .i64 p]⟩, some ⟨.dead, .vals []⟩, some ⟨.dead, .vals []⟩, some ⟨.row 36 2, .ints (flat o)⟩, some ⟨.box, .vals [.int .i64 x, .int .i64 y]⟩]⟩
def re_gri : Nat × Bool → Ex := fun _ => .exit 2
def rs_gri (bs : List Int) (l c : Nat) (n p : Int) (o : List Pt) (x y : Int) : Nat × Bool → St := fun (i, b) => ⟨(.pointer (some ⟨1, 0, none⟩) :: topV :: topV :: .slice (some ⟨4, 0, none⟩) o.length o.length :: .int .i64 n :: .pointer (some ⟨5, 0, none⟩) :: .bool (hasE o x y) :: topV :: topV :: topV :: topV :: topV :: topV :: topV :: topV :: topV :: topV :: topV :: topV :: topV :: topV :: topV :: topV :: topV :: topV :: topV :: topV :: topV :: topV :: topV :: topV :: topV :: topV :: topV :: topV :: topV :: topV :: topV :: topV :: topV :: topV :: topV :: topV :: topV :: topV :: topV :: topV :: topV :: topV :: topV :: topV :: topV :: topV :: topV :: topV :: topV :: topV :: []), [some ⟨.view, .bytes bs⟩, some ⟨.box, .vals [.slice (some ⟨0, 0, none⟩) l c, .int .i64 p]⟩, some ⟨.dead, .vals []⟩, some ⟨.dead, .vals []⟩, some ⟨.row 36 2, .ints (flat o)⟩, some ⟨.box, .vals [.int .i64 x, .int .i64 y]⟩]⟩
set_option maxRecDepth 100000 in
theorem tr_gri (bs : List Int) (l c : Nat) (n p : Int) (o : List Pt) (x y : Int) (i : Nat) (b : Bool) : bodyL Try.prog ERG2 30 12 noL 2 c_gri k_gri 6 (s_gri bs l c n p o x y (i, b)) = brT (decide ((↑i : Int) < (↑o.length : Int))) (brT (b) (.leaf .normal ⟨(.pointer (some ⟨1, 0, none⟩) :: topV :: topV :: .slice (some ⟨4, 0, none⟩) (o.length) (o.length) :: .int .i64 (n) :: .pointer (some ⟨5, 0, none⟩) :: .bool (true) :: .int .i64 (IntKind.i64.wrap ((↑i : Int) + 1)) :: topV :: topV :: topV :: topV :: topV :: topV :: topV :: topV :: topV :: topV :: topV :: topV :: topV :: topV :: topV :: topV :: topV :: topV :: topV :: topV :: topV :: topV :: topV :: topV :: topV :: topV :: topV :: topV :: topV :: topV :: topV :: topV :: topV :: topV :: topV :: topV :: topV :: topV :: topV :: topV :: topV :: topV :: topV :: topV :: topV :: topV :: topV :: topV :: topV :: []), [some ⟨.view, .bytes (bs)⟩, some ⟨.box, .vals [.slice (some ⟨0, 0, none⟩) (l) (c), .int .i64 (p)]⟩, some deadB, some deadB, some ⟨.row 36 2, .ints (flat o)⟩, some ⟨.box, .vals [.int .i64 (x), .int .i64 (y)]⟩]⟩) (.need ((0 : Int) ≤ (↑i : Int) ∧ (↑i : Int) < (↑o.length : Int)) (.need ((0 : Nat) + (↑i : Int).toNat * (2 : Nat) + (2 : Nat) ≤ (flat o).length) (.leaf .normal ⟨(.pointer (some ⟨1, 0, none⟩) :: topV :: topV :: .slice (some ⟨4, 0, none⟩) (o.length) (o.length) :: .int .i64 (n) :: .pointer (some ⟨5, 0, none⟩) :: .bool (negB false ((flat o).getD (0 + (↑i : Int).toNat * 2) 0 == x && ((flat o).getD (0 + (↑i : Int).toNat * 2 + 1) 0 == y && true))) :: .int .i64 (IntKind.i64.wrap ((↑i : Int) + 1)) :: topV :: topV :: topV :: topV :: topV :: topV :: topV :: topV :: topV :: topV :: topV :: topV :: topV :: topV :: topV :: topV :: topV :: topV :: topV :: topV :: topV :: topV :: topV :: topV :: topV :: topV :: topV :: topV :: topV :: topV :: topV :: topV :: topV :: topV :: topV :: topV :: topV :: topV :: topV :: topV :: topV :: topV :: topV :: topV :: topV :: topV :: topV :: topV :: topV :: []), [some ⟨.view, .bytes (bs)⟩, some ⟨.box, .vals [.slice (some ⟨0, 0, none⟩) (l) (c), .int .i64 (p)]⟩, some deadB, some deadB, some ⟨.row 36 2, .ints (flat o)⟩, some ⟨.box, .vals [.int .i64 (x), .int .i64 (y)]⟩]⟩)))) (.leaf (.exit 2) ⟨(.pointer (some ⟨1, 0, none⟩) :: topV :: topV :: .slice (some ⟨4, 0, none⟩) (o.length) (o.length) :: .int .i64 (n) :: .pointer (some ⟨5, 0, none⟩) :: .bool (b) :: topV :: topV :: topV :: topV :: topV :: topV :: topV :: topV :: topV :: topV :: topV :: topV :: topV :: topV :: topV :: topV :: topV :: topV :: topV :: topV :: topV :: topV :: topV :: topV :: topV :: topV :: topV :: topV :: topV :: topV :: topV :: topV :: topV :: topV :: topV :: topV :: topV :: topV :: topV :: topV :: topV :: topV :: topV :: topV :: topV :: topV :: topV :: topV :: topV :: topV :: []), [some ⟨.view, .bytes (bs)⟩, some ⟨.box, .vals [.slice (some ⟨0, 0, none⟩) (l) (c), .int .i64 (p)]⟩, some deadB, some deadB, some ⟨.row 36 2, .ints (flat o)⟩, some ⟨.box, .vals [.int .i64 (x), .int .i64 (y)]⟩]⟩) := by kernel_rfl
set_option maxRecDepth 100000 in
theorem nl_gri : loopsOf c_gri = [] := by kernel_rfl
def inv_gri (bs : List Int) (l c : Nat) (n p : Int) (o : List Pt) (x y : Int) : Nat × Bool → Prop := fun (i, b) => i ≤ o.length ∧ (b || !(allQ (ngQ o x y) i (o.length - i))) = hasE o x y
def me_gri (bs : List Int) (l c : Nat) (n p : Int) (o : List Pt) (x y : Int) : Nat × Bool → Nat := fun (i, b) => o.length - i
/-- A round of this loop. -/
def Round_gri (bs : List Int) (l c : Nat) (n p : Int) (o : List Pt) (x y : Int) : Prop := ∀ xx : Nat × Bool, inv_gri bs l c n p o x y xx → (bodyL Try.prog ERG2 30 12 noL 2 c_gri k_gri 6 (s_gri bs l c n p o x y xx)).ok (RoundEnd 6 (s_gri bs l c n p o x y) (inv_gri bs l c n p o x y) (me_gri bs l c n p o x y) re_gri (rs_gri bs l c n p o x y) xx) (fun _ _ => False)
def e_gri (s : St) (k : Ex → St → Tree) : Option Tree := match Nat.beq s.tmps.length 57, pickL s.tmps [0, 3, 4, 5, 6, 7], s.mem with
  | true, [.pointer (some ⟨1, 0, none⟩), .slice (some ⟨4, 0, none⟩) z _, .int .i64 n1, .pointer (some ⟨5, 0, none⟩), .bool b0, .int .i64 ii], [some ⟨.view, .bytes bs⟩, some ⟨.box, .vals [.slice (some ⟨0, 0, none⟩) l c, .int .i64 p]⟩, some ⟨.dead, .vals []⟩, some ⟨.dead, .vals []⟩, some ⟨.row 36 2, .ints xs⟩, some ⟨.box, .vals [.int .i64 x, .int .i64 y]⟩] => some (needs [ii = 0, b0 = false, xs.length = z * 2, z ≤ 1000] (k (.exit 2) ⟨(.pointer (some ⟨1, 0, none⟩) :: topV :: topV :: .slice (some ⟨4, 0, none⟩) z z :: .int .i64 n1 :: .pointer (some ⟨5, 0, none⟩) :: .bool (hasE (ptsA z xs) x y) :: topV :: topV :: topV :: topV :: topV :: topV :: topV :: topV :: topV :: topV :: topV :: topV :: topV :: topV :: topV :: topV :: topV :: topV :: topV :: topV :: topV :: topV :: topV :: topV :: topV :: topV :: topV :: topV :: topV :: topV :: topV :: topV :: topV :: topV :: topV :: topV :: topV :: topV :: topV :: topV :: topV :: topV :: topV :: topV :: topV :: topV :: topV :: topV :: topV :: topV :: []), [some ⟨.view, .bytes bs⟩, some ⟨.box, .vals [.slice (some ⟨0, 0, none⟩) l c, .int .i64 p]⟩, some ⟨.dead, .vals []⟩, some ⟨.dead, .vals []⟩, some ⟨.row 36 2, .ints xs⟩, some ⟨.box, .vals [.int .i64 x, .int .i64 y]⟩]⟩))
  | _, _, _ => none
set_option maxRecDepth 100000 in
set_option maxHeartbeats 2000000 in
theorem round_gri (bs : List Int) (l c : Nat) (n p : Int) (o : List Pt) (x y : Int) (h : o.length ≤ 1000) : Round_gri bs l c n p o x y := by
  rintro ⟨i, b⟩ ⟨h1, h2⟩
  rw [tr_gri]
  have fl := flat_length o
  refine brT_ok.2 ⟨fun hlt => ?_, fun hge => ?_⟩
  · have hi : i < o.length := by have := of_decide_eq_true hlt; omega
    have st := allQ_step (P := ngQ o x y) (i := i) (n := o.length) hi
    rw [wsucc (n := o.length) hi (by omega)]
    simp only [Int.toNat_natCast, Nat.zero_add, flat_get0, flat_get1]
    refine brT_ok.2 ⟨fun q => ?_, fun q => ?_⟩
    · subst q
      rw [Bool.true_or] at h2
      refine ⟨(i + 1, true), [], ⟨by omega, by rw [Bool.true_or]; exact h2⟩, ?_, rfl, by simp only [rs_gri], ?_⟩
      · show o.length - (i + 1) < o.length - i; omega
      · repeat' (first | exact True.intro | exact rfl | exact fun _ => rfl | (simp; done) | refine And.intro ?_ ?_)
    · subst q
      have e : negB false ((o.getD i (0, 0)).1 == x && ((o.getD i (0, 0)).2 == y && true)) = !(ngQ o x y i) := by
        unfold ngQ
        rw [Bool.and_true, Bool.not_not]
        rfl
      rw [e]
      refine ⟨by omega, by omega, (i + 1, !(ngQ o x y i)), [], ⟨by omega, ?_⟩, ?_, rfl, by simp only [rs_gri], ?_⟩
      · rw [← h2, st, Bool.false_or, Bool.not_and]
      · show o.length - (i + 1) < o.length - i; omega
      · repeat' (first | exact True.intro | exact rfl | exact fun _ => rfl | (simp; done) | refine And.intro ?_ ?_)
  · have hge := of_decide_eq_false hge
    obtain rfl : i = o.length := by omega
    have e : b = hasE o x y := by
      rw [← h2, show allQ (ngQ o x y) o.length (o.length - o.length) = true from allQ_end (by omega)]
      simp
    refine ⟨rfl, [], ?_⟩
    simp only [rs_gri, e]
    repeat' (first | exact True.intro | exact rfl | exact fun _ => rfl | (simp; done) | refine And.intro ?_ ?_)
set_option maxRecDepth 100000 in
theorem lg_gri : LoopE Try.prog e_gri c_gri := by
  intro s k t F H hlt ht
  unfold e_gri at hlt
  split at hlt
  rotate_left
  · cases hlt
  rename_i hlen hpick hmem
  obtain ⟨tmps, mem⟩ := s
  simp only at hlen hpick hmem
  subst hmem
  obtain rfl := Option.some.inj hlt
  obtain ⟨⟨rfl, rfl, h1, h2, _⟩, ht2⟩ := needs_ok ht
  clear ht hlt
  obtain ⟨o, rfl, rfl⟩ := even_flat h1
  rw [ptsA_flat] at ht2
  refine ⟨_, _, ht2, loop_run mixed ERG2_ok (s_gri _ _ _ _ _ o _ _) (inv_gri _ _ _ _ _ o _ _) (me_gri _ _ _ _ _ o _ _) re_gri (rs_gri _ _ _ _ _ o _ _) k_gri (fun _ => rfl) (noLoops nl_gri) (round_gri _ _ _ _ _ o _ _ h2) (x := (0, false)) ⟨Nat.zero_le _, by simp [hasE]⟩ (π := []) rfl ?_⟩
  refine ⟨rfl, rfl, ?_, wvs_spread' [0, 3, 4, 5, 6, 7] hlen rfl ?_⟩
  · repeat' (first | exact True.intro | exact rfl | exact wv_top _ _ | exact fun _ => rfl | assumption | exact Eq.symm (by assumption) | exact vI0 rfl | refine And.intro ?_ ?_)
  · rw [hpick]
    repeat' (first | exact True.intro | exact rfl | exact wv_top _ _ | exact fun _ => rfl | assumption | exact Eq.symm (by assumption) | exact vI0 rfl | refine And.intro ?_ ?_)
def ltGi : LT := fun j s k => match j with
  | 1 => e_gri s k
  | _ => none
def gsQ (bs : List Int) (l : Nat) (p : Int) : Pt := (pickI bs l p 7 - 3, pickI bs l (p + 1) 9 - 4)
def gsN (bs : List Int) (l : Nat) (o : List Pt) (p : Int) : Bool := !(hasE o (gsQ bs l p).1 (gsQ bs l p).2)
def gsO (bs : List Int) (l : Nat) (o : List Pt) (p : Int) : List Pt := bif gsN bs l o p || pickI bs l (p + 2) 10 == 0 then o ++ [gsQ bs l p] else o
def gsE (bs : List Int) (l : Nat) (o : List Pt) (p : Int) : Int := bif gsN bs l o p then p + 2 else p + 3
def gsL (bs : List Int) (l : Nat) : Nat → List Pt → Int → List Pt
  | 0, o, _ => o
  | n + 1, o, p => gsL bs l n (gsO bs l o p) (gsE bs l o p)
def gsP (bs : List Int) (l : Nat) : Nat → List Pt → Int → Int
  | 0, _, p => p
  | n + 1, o, p => gsP bs l n (gsO bs l o p) (gsE bs l o p)
noncomputable def c_gro : Code := ((loopsOf (codeOf Try.f63))[0]?).getD .skip
def k_gro : Ex → List Nat := keeps [0, 3, 4] [(0, [0, 3])] [2]
def s_gro (bs : List Int) (l c : Nat) : Nat × (List Pt) × Int → St := fun (n, o, p) => ⟨(.pointer (some ⟨1, 0, none⟩) :: topV :: topV :: .slice (some ⟨4, 0, none⟩) o.length o.length :: .int .i64 n :: topV :: topV :: topV :: topV :: topV :: topV :: topV :: topV :: topV :: topV :: topV :: topV :: topV :: topV :: topV :: topV :: topV :: topV :: topV :: topV :: topV :: topV :: topV :: topV :: topV :: topV :: topV :: topV :: topV :: topV :: topV :: topV :: topV :: topV :: topV :: topV :: topV :: topV :: topV :: topV :: topV :: topV :: topV :: topV :: topV :: topV :: topV :: topV :: topV :: topV :: topV :: topV :: []), [some ⟨.view, .bytes bs⟩, some ⟨.box, .vals [.slice (some ⟨0, 0, none⟩) l c, .int .i64 p]⟩, some ⟨.dead, .vals []⟩, some ⟨.dead, .vals []⟩, some ⟨.row 36 2, .ints (flat o)⟩]⟩
def re_gro : Nat × (List Pt) × Int → Ex := fun _ => .exit 0
def rs_gro (bs : List Int) (l c : Nat) : Nat × (List Pt) × Int → St := fun (n, o, p) => ⟨(.pointer (some ⟨1, 0, none⟩) :: topV :: topV :: .slice (some ⟨4, 0, none⟩) (gsL bs l n o p).length (gsL bs l n o p).length :: topV :: topV :: topV :: topV :: topV :: topV :: topV :: topV :: topV :: topV :: topV :: topV :: topV :: topV :: topV :: topV :: topV :: topV :: topV :: topV :: topV :: topV :: topV :: topV :: topV :: topV :: topV :: topV :: topV :: topV :: topV :: topV :: topV :: topV :: topV :: topV :: topV :: topV :: topV :: topV :: topV :: topV :: topV :: topV :: topV :: topV :: topV :: topV :: topV :: topV :: topV :: topV :: topV :: []), [some ⟨.view, .bytes bs⟩, some ⟨.box, .vals [.slice (some ⟨0, 0, none⟩) l c, .int .i64 (gsP bs l n o p)]⟩, some ⟨.dead, .vals []⟩, some ⟨.dead, .vals []⟩, some ⟨.row 36 2, .ints (flat (gsL bs l n o p))⟩]⟩
set_option maxRecDepth 100000 in
theorem tr_gro (bs : List Int) (l c : Nat) (n : Nat) (o : List Pt) (p : Int) : bodyL Try.prog ERG2 30 12 ltGi 1 c_gro k_gro 16 (s_gro bs l c (n, o, p)) = brT (decide (0 < (↑n : Int))) (.need (rdK bs l p) (.need ((0 : Int) = (0 : Int)) (.need (false = false) (.need ((flat o).length = o.length * (2 : Nat)) (.need (o.length ≤ (1000 : Nat)) (brT (!hasE (ptsA o.length (flat o)) (pickI bs l p 7 - 3) (pickI bs l (p + 1) 9 - 4)) (.need ((o.length + (1 : Nat)) * (16 : Nat) ≤ (140737488355328 : Nat) ∧ o.length + (1 : Nat) ≤ (1000000 : Nat)) (.need ((0 : Nat) + o.length * (2 : Nat) ≤ (flat o).length) (.leaf .normal ⟨(.pointer (some ⟨1, 0, none⟩) :: topV :: topV :: .slice (some ⟨7, 0, none⟩) (o.length + 1) (o.length + 1) :: .int .i64 (IntKind.i64.wrap ((↑n : Int) - 1)) :: topV :: topV :: topV :: topV :: topV :: topV :: topV :: topV :: topV :: topV :: topV :: topV :: topV :: topV :: topV :: topV :: topV :: topV :: topV :: topV :: topV :: topV :: topV :: topV :: topV :: topV :: topV :: topV :: topV :: topV :: topV :: topV :: topV :: topV :: topV :: topV :: topV :: topV :: topV :: topV :: topV :: topV :: topV :: topV :: topV :: topV :: topV :: topV :: topV :: topV :: topV :: topV :: []), [some ⟨.view, .bytes (bs)⟩, some ⟨.box, .vals [.slice (some ⟨0, 0, none⟩) (l) (c), .int .i64 (p + 2)]⟩, some deadB, some deadB, some deadB, some ⟨.box, .vals [.int .i64 (pickI bs l p 7 - 3), .int .i64 (pickI bs l (p + 1) 9 - 4)]⟩, some ⟨.row 36 2, .vals [.int .i64 (pickI bs l p 7 - 3), .int .i64 (pickI bs l (p + 1) 9 - 4)]⟩, some ⟨.row 36 2, .ints (List.take (o.length * 2) (List.drop 0 (flat o)) ++ [pickI bs l p 7 - 3, pickI bs l (p + 1) 9 - 4])⟩]⟩))) (.need (rdC bs l (p + (2 : Int))) (brT (pickI bs l (p + 2) 10 == 0) (.need ((o.length + (1 : Nat)) * (16 : Nat) ≤ (140737488355328 : Nat) ∧ o.length + (1 : Nat) ≤ (1000000 : Nat)) (.need ((0 : Nat) + o.length * (2 : Nat) ≤ (flat o).length) (.leaf .normal ⟨(.pointer (some ⟨1, 0, none⟩) :: topV :: topV :: .slice (some ⟨7, 0, none⟩) (o.length + 1) (o.length + 1) :: .int .i64 (IntKind.i64.wrap ((↑n : Int) - 1)) :: topV :: topV :: topV :: topV :: topV :: topV :: topV :: topV :: topV :: topV :: topV :: topV :: topV :: topV :: topV :: topV :: topV :: topV :: topV :: topV :: topV :: topV :: topV :: topV :: topV :: topV :: topV :: topV :: topV :: topV :: topV :: topV :: topV :: topV :: topV :: topV :: topV :: topV :: topV :: topV :: topV :: topV :: topV :: topV :: topV :: topV :: topV :: topV :: topV :: topV :: topV :: topV :: []), [some ⟨.view, .bytes (bs)⟩, some ⟨.box, .vals [.slice (some ⟨0, 0, none⟩) (l) (c), .int .i64 (p + 2 + 1)]⟩, some deadB, some deadB, some deadB, some ⟨.box, .vals [.int .i64 (pickI bs l p 7 - 3), .int .i64 (pickI bs l (p + 1) 9 - 4)]⟩, some ⟨.row 36 2, .vals [.int .i64 (pickI bs l p 7 - 3), .int .i64 (pickI bs l (p + 1) 9 - 4)]⟩, some ⟨.row 36 2, .ints (List.take (o.length * 2) (List.drop 0 (flat o)) ++ [pickI bs l p 7 - 3, pickI bs l (p + 1) 9 - 4])⟩]⟩))) (.leaf .normal ⟨(.pointer (some ⟨1, 0, none⟩) :: topV :: topV :: .slice (some ⟨4, 0, none⟩) (o.length) (o.length) :: .int .i64 (IntKind.i64.wrap ((↑n : Int) - 1)) :: topV :: topV :: topV :: topV :: topV :: topV :: topV :: topV :: topV :: topV :: topV :: topV :: topV :: topV :: topV :: topV :: topV :: topV :: topV :: topV :: topV :: topV :: topV :: topV :: topV :: topV :: topV :: topV :: topV :: topV :: topV :: topV :: topV :: topV :: topV :: topV :: topV :: topV :: topV :: topV :: topV :: topV :: topV :: topV :: topV :: topV :: topV :: topV :: topV :: topV :: topV :: topV :: []), [some ⟨.view, .bytes (bs)⟩, some ⟨.box, .vals [.slice (some ⟨0, 0, none⟩) (l) (c), .int .i64 (p + 2 + 1)]⟩, some deadB, some deadB, some ⟨.row 36 2, .ints (flat o)⟩, some ⟨.box, .vals [.int .i64 (pickI bs l p 7 - 3), .int .i64 (pickI bs l (p + 1) 9 - 4)]⟩]⟩))))))))) (.leaf (.exit 0) ⟨(.pointer (some ⟨1, 0, none⟩) :: topV :: topV :: .slice (some ⟨4, 0, none⟩) (o.length) (o.length) :: topV :: topV :: topV :: topV :: topV :: topV :: topV :: topV :: topV :: topV :: topV :: topV :: topV :: topV :: topV :: topV :: topV :: topV :: topV :: topV :: topV :: topV :: topV :: topV :: topV :: topV :: topV :: topV :: topV :: topV :: topV :: topV :: topV :: topV :: topV :: topV :: topV :: topV :: topV :: topV :: topV :: topV :: topV :: topV :: topV :: topV :: topV :: topV :: topV :: topV :: topV :: topV :: topV :: []), [some ⟨.view, .bytes (bs)⟩, some ⟨.box, .vals [.slice (some ⟨0, 0, none⟩) (l) (c), .int .i64 (p)]⟩, some deadB, some deadB, some ⟨.row 36 2, .ints (flat o)⟩]⟩) := by kernel_rfl
def inv_gro (bs : List Int) (l c : Nat) : Nat × (List Pt) × Int → Prop := fun (n, o, p) => o.length + n ≤ 100 ∧ 0 ≤ p ∧ p + 6 * n ≤ 900000
def me_gro (bs : List Int) (l c : Nat) : Nat × (List Pt) × Int → Nat := fun (n, o, p) => n
/-- A round of this loop. -/
def Round_gro (bs : List Int) (l c : Nat) : Prop := ∀ xx : Nat × (List Pt) × Int, inv_gro bs l c xx → (bodyL Try.prog ERG2 30 12 ltGi 1 c_gro k_gro 16 (s_gro bs l c xx)).ok (RoundEnd 4 (s_gro bs l c) (inv_gro bs l c) (me_gro bs l c) re_gro (rs_gro bs l c) xx) (fun _ _ => False)
def e_gro (s : St) (k : Ex → St → Tree) : Option Tree := match Nat.beq s.tmps.length 57, pickL s.tmps [0, 3, 4], s.mem with
  | true, [.pointer (some ⟨1, 0, none⟩), .slice (some ⟨2, 0, none⟩) z _, .int .i64 n1], [some ⟨.view, .bytes bs⟩, some ⟨.box, .vals [.slice (some ⟨0, 0, none⟩) l c, .int .i64 p]⟩, some ⟨.row 36 2, .vals []⟩, some ⟨.row 3 1, .vals w⟩] => some (needs [z = 0, 0 ≤ n1 ∧ n1 ≤ 100, l ≤ bs.length ∧ l ≤ 2000 ∧ Bytes bs, 0 ≤ p ∧ p ≤ 800000] (k (.exit 0) ⟨(.pointer (some ⟨1, 0, none⟩) :: topV :: topV :: .slice (some ⟨4, 0, none⟩) (gsL bs l n1.toNat [] p).length (gsL bs l n1.toNat [] p).length :: topV :: topV :: topV :: topV :: topV :: topV :: topV :: topV :: topV :: topV :: topV :: topV :: topV :: topV :: topV :: topV :: topV :: topV :: topV :: topV :: topV :: topV :: topV :: topV :: topV :: topV :: topV :: topV :: topV :: topV :: topV :: topV :: topV :: topV :: topV :: topV :: topV :: topV :: topV :: topV :: topV :: topV :: topV :: topV :: topV :: topV :: topV :: topV :: topV :: topV :: topV :: topV :: topV :: []), [some ⟨.view, .bytes bs⟩, some ⟨.box, .vals [.slice (some ⟨0, 0, none⟩) l c, .int .i64 (gsP bs l n1.toNat [] p)]⟩, some ⟨.dead, .vals []⟩, some ⟨.dead, .vals []⟩, some ⟨.row 36 2, .ints (flat (gsL bs l n1.toNat [] p))⟩]⟩))
  | _, _, _ => none
set_option maxRecDepth 100000 in
theorem in_gro : loopsOf c_gro = [c_gri] := by kernel_rfl
theorem ltGi_good : LoopsGood Try.prog ltGi 1 c_gro := by
  intro i d hd s k t F H hlt ht
  rw [in_gro] at hd
  cases i with
  | zero =>
    obtain rfl : c_gri = d := by simpa using hd
    exact lg_gri s k t F H hlt ht
  | succ i => simp at hd
set_option maxRecDepth 100000 in
set_option maxHeartbeats 4000000 in
theorem round_gro (bs : List Int) (l c : Nat) (h : l ≤ bs.length ∧ l ≤ 2000 ∧ Bytes bs) : Round_gro bs l c := by
  rintro ⟨n, o, p⟩ ⟨h1, h2, h3⟩
  rw [tr_gro]
  have fl := flat_length o
  have fk : List.take (o.length * 2) (flat o) = flat o := List.take_of_length_le (by omega)
  simp only [ptsA_flat, List.drop_zero, fk, show p + 2 + 1 = p + 3 by omega]
  refine brT_ok.2 ⟨fun hlt => ?_, fun hge => ?_⟩
  · have hlt := of_decide_eq_true hlt
    obtain ⟨n, rfl⟩ : ∃ m, n = m + 1 := ⟨n - 1, by omega⟩
    have hr : rdK bs l p := ⟨⟨h.1, h.2.1, h2, by omega, h.2.2⟩, by omega⟩
    have e : IntKind.i64.wrap (((n + 1 : Nat) : Int) - 1) = (n : Int) := by rw [wr (by omega)]; omega
    rw [e]
    have sn : flat o ++ [pickI bs l p 7 - 3, pickI bs l (p + 1) 9 - 4] = flat (o ++ [gsQ bs l p]) := by rw [flat_snoc]; rfl
    rw [sn]
    have el : (o ++ [gsQ bs l p]).length = o.length + 1 := by simp
    have eN : (!hasE o (pickI bs l p 7 - 3) (pickI bs l (p + 1) 9 - 4)) = gsN bs l o p := rfl
    rw [eN]
    refine ⟨hr, trivial, trivial, fl, by omega, brT_ok.2 ⟨fun g => ?_, fun g => ?_⟩⟩
    · have eO : gsO bs l o p = o ++ [gsQ bs l p] := by unfold gsO; rw [g, Bool.true_or, cond_true]
      have eE : gsE bs l o p = p + 2 := by unfold gsE; rw [g, cond_true]
      refine ⟨by omega, by omega, (n, o ++ [gsQ bs l p], p + 2), [some 7], ⟨by rw [el]; omega, by omega, by omega⟩, ?_, rfl, ?_, ?_⟩
      · show n < n + 1; omega
      · simp only [rs_gro, gsL, gsP, eO, eE]
      · repeat' (first | exact True.intro | exact rfl | exact fun _ => rfl | (simp; done) | refine And.intro ?_ ?_)
    · refine ⟨hr.at (by omega) (by omega), brT_ok.2 ⟨fun k => ?_, fun k => ?_⟩⟩
      · have eO : gsO bs l o p = o ++ [gsQ bs l p] := by unfold gsO; rw [k, Bool.or_true, cond_true]
        have eE : gsE bs l o p = p + 3 := by unfold gsE; rw [g, cond_false]
        refine ⟨by omega, by omega, (n, o ++ [gsQ bs l p], p + 3), [some 7], ⟨by rw [el]; omega, by omega, by omega⟩, ?_, rfl, ?_, ?_⟩
        · show n < n + 1; omega
        · simp only [rs_gro, gsL, gsP, eO, eE]
        · repeat' (first | exact True.intro | exact rfl | exact fun _ => rfl | (simp; done) | refine And.intro ?_ ?_)
      · have eO : gsO bs l o p = o := by unfold gsO; rw [g, k, Bool.or_false, cond_false]
        have eE : gsE bs l o p = p + 3 := by unfold gsE; rw [g, cond_false]
        refine ⟨(n, o, p + 3), [some 4], ⟨by omega, by omega, by omega⟩, ?_, rfl, ?_, ?_⟩
        · show n < n + 1; omega
        · simp only [rs_gro, gsL, gsP, eO, eE]
        · repeat' (first | exact True.intro | exact rfl | exact fun _ => rfl | (simp; done) | refine And.intro ?_ ?_)
  · have hge := of_decide_eq_false hge
    obtain rfl : n = 0 := by omega
    refine ⟨rfl, [some 4], ?_⟩
    simp only [rs_gro, gsL, gsP]
    repeat' (first | exact True.intro | exact rfl | exact fun _ => rfl | (simp; done) | refine And.intro ?_ ?_)
set_option maxRecDepth 100000 in
theorem lg_gro : LoopE Try.prog e_gro c_gro := by
  intro s k t F H hlt ht
  unfold e_gro at hlt
  split at hlt
  rotate_left
  · cases hlt
  rename_i hlen hpick hmem
  obtain ⟨tmps, mem⟩ := s
  simp only at hlen hpick hmem
  subst hmem
  obtain rfl := Option.some.inj hlt
  obtain ⟨⟨rfl, h1, h2, h3, _⟩, ht2⟩ := needs_ok ht
  clear ht hlt
  obtain ⟨n, rfl⟩ := Int.eq_ofNat_of_zero_le h1.1
  simp only [Int.toNat_natCast] at ht2
  refine ⟨_, _, ht2, loop_run2 mixed ERG2_ok (s_gro _ _ _) (inv_gro _ _ _) (me_gro _ _ _) re_gro (rs_gro _ _ _) k_gro (fun _ => rfl) ltGi_good (round_gro _ _ _ h2) (x := (n, [], _)) ⟨by simp; omega, h3.1, by omega⟩ (π := [some 2]) rfl ?_⟩
  refine ⟨rfl, rfl, ?_, wvs_spread' [0, 3, 4] hlen rfl ?_⟩
  · repeat' (first | exact True.intro | exact rfl | exact wv_top _ _ | exact fun _ => rfl | assumption | exact Eq.symm (by assumption) | exact vI0 rfl | refine And.intro ?_ ?_)
  · rw [hpick]
    repeat' (first | exact True.intro | exact rfl | exact wv_top _ _ | exact fun _ => rfl | assumption | exact Eq.symm (by assumption) | exact vI0 rfl | refine And.intro ?_ ?_)
end Go.Proofs.Ytolodncpegajkab
