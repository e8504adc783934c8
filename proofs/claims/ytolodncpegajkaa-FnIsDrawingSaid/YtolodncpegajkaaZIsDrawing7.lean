/-
  Texts that the proof needs, merged. Written by an AI agent.
-/
import Derived.Orders
import Derived.Below
import Derived.OrdersIn
import Derived.Deep.LoopGhost
import Derived.WalkKit
import Derived.Laws.CopyRow
import Derived.Laws.AppendOwn
import Derived.Laws.Slices
import Derived.Laws.MakeOwn
import Derived.Test.YtolodncpegajkaaRows
import Derived.ProofKit
import Derived.OpenShut
import Derived.Carry
import Derived.IntWalk
import Derived.Test.YtolodncpegajkaaProg
import Derived.WalkSpells
import Derived.WalkLawsBesides
import Derived.Lib.Hide
import Derived.Deep.QuietTactic
import Derived.BigQuiet
import Derived.KernelRfl
import Derived.Deep.RegionHeld3
import Derived.LoopTactic
import Derived.Laws.StructEq
import Derived.Laws.Tables
import Derived.RangeFuncNested
import Derived.RangeFuncLeaves
import Derived.Deep.Slices
import Derived.Deep.Fields
import Derived.ChangeSame
import Derived.Deep.DeepCutAuto
import Derived.Shelf.SlSortCmp.WholeK
import Derived.Sort.Grow
import Derived.Shelf.SlSortCmp.NoneTotal
import Derived.Test.YtolodncpegajkaaZIsDrawing6
namespace Go.Proofs.Ytolodncpegajkaa
set_option linter.all false
open Go.RowKit
theorem allQ_add (P : Nat → Bool) : ∀ (m i k : Nat), allQ P i (m + k) = (allQ P i m && allQ P (i + m) k)
  | 0, i, k => by simp [allQ]
  | m + 1, i, k => by
    have ih := allQ_add P m (i + 1) k
    rw [show m + 1 + k = (m + k) + 1 by omega]
    simp only [allQ]
    rw [ih, Bool.and_assoc, show i + 1 + m = i + (m + 1) by omega]
noncomputable def c_dmI : Code := ((loopsOf (codeOf Try.f27))[1]?).getD .skip
def k_dmI : Ex → List Nat := keeps [0, 3, 4] [(2, [0, 3]), (1, [0, 3]), (0, [])] [2]
def s_dmI (xs : List Int) (n i : Nat) : Nat → St := fun j => ⟨(.slice (some ⟨0, 0, none⟩) n n :: topV :: topV :: .int .i64 i :: .int .i64 (i + 1 + j : Nat) :: topV :: topV :: topV :: topV :: topV :: topV :: topV :: topV :: topV :: topV :: topV :: topV :: topV :: topV :: topV :: topV :: topV :: topV :: topV :: topV :: topV :: topV :: topV :: topV :: topV :: topV :: topV :: topV :: topV :: topV :: topV :: topV :: topV :: topV :: topV :: topV :: topV :: topV :: topV :: topV :: topV :: topV :: topV :: topV :: topV :: []), [some ⟨.view, .ints xs⟩]⟩
def re_dmI (xs : List Int) (n i : Nat) : Nat → Ex := fun j => bif allQ (dwQ xs n) (offR n 0 i + j) (n - (i + 1 + j)) then .exit 2 else .ret
def rs_dmI (xs : List Int) (n i : Nat) : Nat → St := fun j => bif allQ (dwQ xs n) (offR n 0 i + j) (n - (i + 1 + j)) then ⟨(.slice (some ⟨0, 0, none⟩) n n :: topV :: topV :: .int .i64 i :: topV :: topV :: topV :: topV :: topV :: topV :: topV :: topV :: topV :: topV :: topV :: topV :: topV :: topV :: topV :: topV :: topV :: topV :: topV :: topV :: topV :: topV :: topV :: topV :: topV :: topV :: topV :: topV :: topV :: topV :: topV :: topV :: topV :: topV :: topV :: topV :: topV :: topV :: topV :: topV :: topV :: topV :: topV :: topV :: topV :: topV :: []), [some ⟨.view, .ints xs⟩]⟩ else ⟨(topV :: topV :: .bool false :: topV :: topV :: topV :: topV :: topV :: topV :: topV :: topV :: topV :: topV :: topV :: topV :: topV :: topV :: topV :: topV :: topV :: topV :: topV :: topV :: topV :: topV :: topV :: topV :: topV :: topV :: topV :: topV :: topV :: topV :: topV :: topV :: topV :: topV :: topV :: topV :: topV :: topV :: topV :: topV :: topV :: topV :: topV :: topV :: topV :: topV :: topV :: []), [some ⟨.view, .ints xs⟩]⟩
set_option maxRecDepth 100000 in
theorem tr_dmI (xs : List Int) (n i : Nat) (j : Nat) : bodyL Try.prog EDw0 30 12 noL 2 c_dmI k_dmI 1 (s_dmI xs n i j) = brT (decide ((↑(i + 1 + j) : Int) < (↑n : Int))) (.need (ptB (xs.getD ((0 : Nat) + (↑i : Int).toNat * (4 : Nat)) (0 : Int)) (xs.getD ((0 : Nat) + (↑i : Int).toNat * (4 : Nat) + (1 : Nat)) (0 : Int)) = true) (.need (ptB (xs.getD ((0 : Nat) + (↑i : Int).toNat * (4 : Nat) + (1 : Nat) + (1 : Nat)) (0 : Int)) (xs.getD ((0 : Nat) + (↑i : Int).toNat * (4 : Nat) + (1 : Nat) + (1 : Nat) + (1 : Nat)) (0 : Int)) = true) (.need (ptB (xs.getD ((0 : Nat) + (↑(i + (1 : Nat) + j) : Int).toNat * (4 : Nat)) (0 : Int)) (xs.getD ((0 : Nat) + (↑(i + (1 : Nat) + j) : Int).toNat * (4 : Nat) + (1 : Nat)) (0 : Int)) = true) (.need (ptB (xs.getD ((0 : Nat) + (↑(i + (1 : Nat) + j) : Int).toNat * (4 : Nat) + (1 : Nat) + (1 : Nat)) (0 : Int)) (xs.getD ((0 : Nat) + (↑(i + (1 : Nat) + j) : Int).toNat * (4 : Nat) + (1 : Nat) + (1 : Nat) + (1 : Nat)) (0 : Int)) = true) (.need ((0 : Int) ≤ (↑i : Int) ∧ (↑i : Int) < (↑n : Int)) (.need ((0 : Nat) + (↑i : Int).toNat * (4 : Nat) + (4 : Nat) ≤ xs.length) (.need ((0 : Int) ≤ (↑(i + (1 : Nat) + j) : Int) ∧ (↑(i + (1 : Nat) + j) : Int) < (↑n : Int)) (.need ((0 : Nat) + (↑(i + (1 : Nat) + j) : Int).toNat * (4 : Nat) + (4 : Nat) ≤ xs.length) (brT (!relA (xs.getD (0 + (↑i : Int).toNat * 4) 0) (xs.getD (0 + (↑i : Int).toNat * 4 + 1) 0) (xs.getD (0 + (↑i : Int).toNat * 4 + 1 + 1) 0) (xs.getD (0 + (↑i : Int).toNat * 4 + 1 + 1 + 1) 0) (xs.getD (0 + (↑(i + 1 + j) : Int).toNat * 4) 0) (xs.getD (0 + (↑(i + 1 + j) : Int).toNat * 4 + 1) 0) (xs.getD (0 + (↑(i + 1 + j) : Int).toNat * 4 + 1 + 1) 0) (xs.getD (0 + (↑(i + 1 + j) : Int).toNat * 4 + 1 + 1 + 1) 0) == 0) (brT (!relA (xs.getD (0 + (↑i : Int).toNat * 4) 0) (xs.getD (0 + (↑i : Int).toNat * 4 + 1) 0) (xs.getD (0 + (↑i : Int).toNat * 4 + 1 + 1) 0) (xs.getD (0 + (↑i : Int).toNat * 4 + 1 + 1 + 1) 0) (xs.getD (0 + (↑(i + 1 + j) : Int).toNat * 4) 0) (xs.getD (0 + (↑(i + 1 + j) : Int).toNat * 4 + 1) 0) (xs.getD (0 + (↑(i + 1 + j) : Int).toNat * 4 + 1 + 1) 0) (xs.getD (0 + (↑(i + 1 + j) : Int).toNat * 4 + 1 + 1 + 1) 0) == 1) (.leaf .ret ⟨(topV :: topV :: .bool (false) :: topV :: topV :: topV :: topV :: topV :: topV :: topV :: topV :: topV :: topV :: topV :: topV :: topV :: topV :: topV :: topV :: topV :: topV :: topV :: topV :: topV :: topV :: topV :: topV :: topV :: topV :: topV :: topV :: topV :: topV :: topV :: topV :: topV :: topV :: topV :: topV :: topV :: topV :: topV :: topV :: topV :: topV :: topV :: topV :: topV :: topV :: topV :: []), [some ⟨.view, .ints (xs)⟩]⟩) (.need ((0 : Int) ≤ (↑i : Int) ∧ (↑i : Int) < (↑n : Int)) (.need ((0 : Nat) + (↑i : Int).toNat * (4 : Nat) + (4 : Nat) ≤ xs.length) (.need ((0 : Int) ≤ (↑(i + (1 : Nat) + j) : Int) ∧ (↑(i + (1 : Nat) + j) : Int) < (↑n : Int)) (.need ((0 : Nat) + (↑(i + (1 : Nat) + j) : Int).toNat * (4 : Nat) + (4 : Nat) ≤ xs.length) (brT (!shB (xs.getD (0 + (↑i : Int).toNat * 4) 0) (xs.getD (0 + (↑i : Int).toNat * 4 + 1) 0) (xs.getD (0 + (↑i : Int).toNat * 4 + 1 + 1) 0) (xs.getD (0 + (↑i : Int).toNat * 4 + 1 + 1 + 1) 0) (xs.getD (0 + (↑(i + 1 + j) : Int).toNat * 4) 0) (xs.getD (0 + (↑(i + 1 + j) : Int).toNat * 4 + 1) 0) (xs.getD (0 + (↑(i + 1 + j) : Int).toNat * 4 + 1 + 1) 0) (xs.getD (0 + (↑(i + 1 + j) : Int).toNat * 4 + 1 + 1 + 1) 0)) (.leaf .ret ⟨(topV :: topV :: .bool (false) :: topV :: topV :: topV :: topV :: topV :: topV :: topV :: topV :: topV :: topV :: topV :: topV :: topV :: topV :: topV :: topV :: topV :: topV :: topV :: topV :: topV :: topV :: topV :: topV :: topV :: topV :: topV :: topV :: topV :: topV :: topV :: topV :: topV :: topV :: topV :: topV :: topV :: topV :: topV :: topV :: topV :: topV :: topV :: topV :: topV :: topV :: topV :: []), [some ⟨.view, .ints (xs)⟩]⟩) (.leaf .normal ⟨(.slice (some ⟨0, 0, none⟩) (n) (n) :: topV :: topV :: .int .i64 ((↑i : Int)) :: .int .i64 (IntKind.i64.wrap ((↑(i + 1 + j) : Int) + 1)) :: topV :: topV :: topV :: topV :: topV :: topV :: topV :: topV :: topV :: topV :: topV :: topV :: topV :: topV :: topV :: topV :: topV :: topV :: topV :: topV :: topV :: topV :: topV :: topV :: topV :: topV :: topV :: topV :: topV :: topV :: topV :: topV :: topV :: topV :: topV :: topV :: topV :: topV :: topV :: topV :: topV :: topV :: topV :: topV :: topV :: []), [some ⟨.view, .ints (xs)⟩]⟩))))))) (.leaf .normal ⟨(.slice (some ⟨0, 0, none⟩) (n) (n) :: topV :: topV :: .int .i64 ((↑i : Int)) :: .int .i64 (IntKind.i64.wrap ((↑(i + 1 + j) : Int) + 1)) :: topV :: topV :: topV :: topV :: topV :: topV :: topV :: topV :: topV :: topV :: topV :: topV :: topV :: topV :: topV :: topV :: topV :: topV :: topV :: topV :: topV :: topV :: topV :: topV :: topV :: topV :: topV :: topV :: topV :: topV :: topV :: topV :: topV :: topV :: topV :: topV :: topV :: topV :: topV :: topV :: topV :: topV :: topV :: topV :: topV :: []), [some ⟨.view, .ints (xs)⟩]⟩)))))))))) (.leaf (.exit 2) ⟨(.slice (some ⟨0, 0, none⟩) (n) (n) :: topV :: topV :: .int .i64 ((↑i : Int)) :: topV :: topV :: topV :: topV :: topV :: topV :: topV :: topV :: topV :: topV :: topV :: topV :: topV :: topV :: topV :: topV :: topV :: topV :: topV :: topV :: topV :: topV :: topV :: topV :: topV :: topV :: topV :: topV :: topV :: topV :: topV :: topV :: topV :: topV :: topV :: topV :: topV :: topV :: topV :: topV :: topV :: topV :: topV :: topV :: topV :: topV :: []), [some ⟨.view, .ints (xs)⟩]⟩) := by kernel_rfl
set_option maxRecDepth 100000 in
theorem nl_dmI : loopsOf c_dmI = [] := by kernel_rfl
def inv_dmI (xs : List Int) (n i : Nat) : Nat → Prop := fun j => i + 1 + j ≤ n
def me_dmI (xs : List Int) (n i : Nat) : Nat → Nat := fun j => n - (i + 1 + j)
/-- A round of this loop. -/
def Round_dmI (xs : List Int) (n i : Nat) : Prop := ∀ xx : Nat, inv_dmI xs n i xx → (bodyL Try.prog EDw0 30 12 noL 2 c_dmI k_dmI 1 (s_dmI xs n i xx)).ok (RoundEnd 1 (s_dmI xs n i) (inv_dmI xs n i) (me_dmI xs n i) (re_dmI xs n i) (rs_dmI xs n i) xx) (fun _ _ => False)
def e_dmI (s : St) (k : Ex → St → Tree) : Option Tree := match Nat.beq s.tmps.length 50, pickL s.tmps [0, 3, 4], s.mem with
  | true, [.slice (some ⟨0, 0, none⟩) n _, .int .i64 ii, .int .i64 kk], [some ⟨.view, .ints xs⟩] => some (needs [0 ≤ ii, kk = ii + 1, xs.length = n * 4, n ≤ 12, vsB n xs = true, ii < n] (brT (allQ (dwQ xs n) (offR n 0 ii.toNat) (n - (ii.toNat + 1))) (k (.exit 2) ⟨(.slice (some ⟨0, 0, none⟩) n n :: topV :: topV :: .int .i64 ii :: topV :: topV :: topV :: topV :: topV :: topV :: topV :: topV :: topV :: topV :: topV :: topV :: topV :: topV :: topV :: topV :: topV :: topV :: topV :: topV :: topV :: topV :: topV :: topV :: topV :: topV :: topV :: topV :: topV :: topV :: topV :: topV :: topV :: topV :: topV :: topV :: topV :: topV :: topV :: topV :: topV :: topV :: topV :: topV :: topV :: topV :: []), [some ⟨.view, .ints xs⟩]⟩) (k .ret ⟨(topV :: topV :: .bool false :: topV :: topV :: topV :: topV :: topV :: topV :: topV :: topV :: topV :: topV :: topV :: topV :: topV :: topV :: topV :: topV :: topV :: topV :: topV :: topV :: topV :: topV :: topV :: topV :: topV :: topV :: topV :: topV :: topV :: topV :: topV :: topV :: topV :: topV :: topV :: topV :: topV :: topV :: topV :: topV :: topV :: topV :: topV :: topV :: topV :: topV :: topV :: []), [some ⟨.view, .ints xs⟩]⟩)))
  | _, _, _ => none
set_option maxRecDepth 100000 in
theorem round_dmI (xs : List Int) (n i : Nat) (hx : xs.length = n * 4) (h : n ≤ 12) (hv : vsB n xs = true) (hi : i < n) : Round_dmI xs n i := by
  intro j h1
  have h1 : i + 1 + j ≤ n := h1
  rw [tr_dmI]
  simp only [Int.toNat_natCast, Nat.zero_add]
  refine brT_ok.2 ⟨fun hlt => ?_, fun hge => ?_⟩
  · have hlt : i + 1 + j < n := by have := of_decide_eq_true hlt; omega
    have ep : prA n (offR n 0 i + j) = (i, i + 1 + j) := by
      have := prA_at (n := n) (a := i) (b := i + 1 + j) (by omega) hlt
      rwa [show i + 1 + j - i - 1 = j by omega] at this
    have er : relA (xs.getD (i * 4) 0) (xs.getD (i * 4 + 1) 0) (xs.getD (i * 4 + 1 + 1) 0) (xs.getD (i * 4 + 1 + 1 + 1) 0) (xs.getD ((i + 1 + j) * 4) 0) (xs.getD ((i + 1 + j) * 4 + 1) 0) (xs.getD ((i + 1 + j) * 4 + 1 + 1) 0) (xs.getD ((i + 1 + j) * 4 + 1 + 1 + 1) 0) = rl4V xs i (i + 1 + j) := (rl4_A hv hi hlt).symm
    have es : shB (xs.getD (i * 4) 0) (xs.getD (i * 4 + 1) 0) (xs.getD (i * 4 + 1 + 1) 0) (xs.getD (i * 4 + 1 + 1 + 1) 0) (xs.getD ((i + 1 + j) * 4) 0) (xs.getD ((i + 1 + j) * 4 + 1) 0) (xs.getD ((i + 1 + j) * 4 + 1 + 1) 0) (xs.getD ((i + 1 + j) * 4 + 1 + 1 + 1) 0) = sh4 xs i (i + 1 + j) := rfl
    have hd : dwQ xs n (offR n 0 i + j) = (rl4V xs i (i + 1 + j) == 0 || (rl4V xs i (i + 1 + j) == 1 && sh4 xs i (i + 1 + j))) := by
      unfold dwQ
      rw [ep]
    have st : allQ (dwQ xs n) (offR n 0 i + j) (n - (i + 1 + j)) = (dwQ xs n (offR n 0 i + j) && allQ (dwQ xs n) (offR n 0 i + (j + 1)) (n - (i + 1 + (j + 1)))) := by
      rw [show n - (i + 1 + j) = (n - (i + 1 + (j + 1))) + 1 by omega]
      rfl
    obtain ⟨p1, p2⟩ := slQ_pt (vs_seg hv hi)
    obtain ⟨p3, p4⟩ := slQ_pt (vs_seg hv hlt)
    rw [er, es, wsucc (n := n) hlt (by omega)]
    generalize rl4V xs i (i + 1 + j) = r at *
    generalize sh4 xs i (i + 1 + j) = sh at *
    have no : dwQ xs n (offR n 0 i + j) = false → RoundEnd 1 (s_dmI xs n i) (inv_dmI xs n i) (me_dmI xs n i) (re_dmI xs n i) (rs_dmI xs n i) j .ret ⟨[topV, topV, .bool false, topV, topV, topV, topV, topV, topV, topV, topV, topV, topV, topV, topV, topV, topV, topV, topV, topV, topV, topV, topV, topV, topV, topV, topV, topV, topV, topV, topV, topV, topV, topV, topV, topV, topV, topV, topV, topV, topV, topV, topV, topV, topV, topV, topV, topV, topV, topV], [some ⟨.view, .ints xs⟩]⟩ := fun hb => by
      have e : allQ (dwQ xs n) (offR n 0 i + j) (n - (i + 1 + j)) = false := by rw [st, hb]; rfl
      refine ⟨by simp only [re_dmI, e, cond_false], [], ?_⟩
      simp only [rs_dmI, e, cond_false]
      repeat' (first | exact True.intro | exact rfl | exact fun _ => rfl | (simp; done) | refine And.intro ?_ ?_)
    have yes : dwQ xs n (offR n 0 i + j) = true → RoundEnd 1 (s_dmI xs n i) (inv_dmI xs n i) (me_dmI xs n i) (re_dmI xs n i) (rs_dmI xs n i) j .normal ⟨[.slice (some ⟨0, 0, none⟩) n n, topV, topV, .int .i64 i, .int .i64 (i + 1 + j + 1 : Nat), topV, topV, topV, topV, topV, topV, topV, topV, topV, topV, topV, topV, topV, topV, topV, topV, topV, topV, topV, topV, topV, topV, topV, topV, topV, topV, topV, topV, topV, topV, topV, topV, topV, topV, topV, topV, topV, topV, topV, topV, topV, topV, topV, topV, topV], [some ⟨.view, .ints xs⟩]⟩ := fun hb => by
      have e : allQ (dwQ xs n) (offR n 0 i + j) (n - (i + 1 + j)) = allQ (dwQ xs n) (offR n 0 i + (j + 1)) (n - (i + 1 + (j + 1))) := by rw [st, hb]; rfl
      refine ⟨j + 1, [], ?_, ?_, by simp only [re_dmI, e], by simp only [rs_dmI, e], ?_⟩
      · show i + 1 + (j + 1) ≤ n; omega
      · show n - (i + 1 + (j + 1)) < n - (i + 1 + j); omega
      · repeat' (first | exact True.intro | exact rfl | exact fun _ => rfl | (simp; done) | refine And.intro ?_ ?_)
    refine ⟨p1, p2, p3, p4, ⟨by omega, by omega⟩, by omega, ⟨by omega, by omega⟩, by omega, brT_ok.2 ⟨fun c2 => brT_ok.2 ⟨fun c3 => ?_, fun c3 => ⟨⟨by omega, by omega⟩, by omega, ⟨by omega, by omega⟩, by omega, brT_ok.2 ⟨fun c4 => ?_, fun c4 => ?_⟩⟩⟩, fun c2 => ?_⟩⟩
    · refine no ?_
      have c2 : (r == 0) = false := by simpa using c2
      have c3 : (r == 1) = false := by simpa using c3
      rw [hd, c2, c3]
      rfl
    · refine no ?_
      have c2 : (r == 0) = false := by simpa using c2
      have c4 : sh = false := by simpa using c4
      rw [hd, c2, c4, Bool.and_false]
      rfl
    · refine yes ?_
      have c3 : (r == 1) = true := by simpa using c3
      have c4 : sh = true := by simpa using c4
      rw [hd, c3, c4]
      simp
    · refine yes ?_
      have c2 : (r == 0) = true := by simpa using c2
      rw [hd, c2]
      rfl
  · have hge := of_decide_eq_false hge
    have e : allQ (dwQ xs n) (offR n 0 i + j) (n - (i + 1 + j)) = true := by
      rw [show n - (i + 1 + j) = 0 by omega]
      rfl
    refine ⟨by simp only [re_dmI, e, cond_true], [], ?_⟩
    simp only [rs_dmI, e, cond_true]
    repeat' (first | exact True.intro | exact rfl | exact fun _ => rfl | (simp; done) | refine And.intro ?_ ?_)
set_option maxRecDepth 100000 in
theorem lg_dmI : LoopE Try.prog e_dmI c_dmI := by
  intro s k t F H hlt ht
  unfold e_dmI at hlt
  split at hlt
  rotate_left
  · cases hlt
  rename_i hlen hpick hmem
  obtain ⟨tmps, mem⟩ := s
  simp only at hlen hpick hmem
  subst hmem
  obtain rfl := Option.some.inj hlt
  obtain ⟨⟨h0, h1, h2, h3, h4, h5, _⟩, ht2⟩ := needs_ok ht
  clear ht hlt
  obtain ⟨i, rfl⟩ := Int.eq_ofNat_of_zero_le h0
  simp only [Int.toNat_natCast] at ht2
  obtain rfl := h1
  refine ⟨_, _, pick2k ht2, loop_run mixed EDw0_ok (s_dmI _ _ i) (inv_dmI _ _ i) (me_dmI _ _ i) (re_dmI _ _ i) (rs_dmI _ _ i) k_dmI (fun _ => rfl) (noLoops nl_dmI) (round_dmI _ _ i h2 h3 h4 (by omega)) (x := 0) (by show i + 1 + 0 ≤ _; omega) (π := []) rfl ?_⟩
  refine ⟨rfl, rfl, ?_, wvs_spread' [0, 3, 4] hlen rfl ?_⟩
  · repeat' (first | exact True.intro | exact rfl | exact wv_top _ _ | exact fun _ => rfl | assumption | exact Eq.symm (by assumption) | exact vI0 rfl | refine And.intro ?_ ?_)
  · rw [hpick]
    repeat' (first | exact True.intro | exact rfl | exact wv_top _ _ | exact fun _ => rfl | assumption | exact Eq.symm (by assumption) | exact vI0 rfl | refine And.intro ?_ ?_)
def ltDm : LT := fun j s k => match j with
  | 1 => e_dmI s k
  | _ => none
noncomputable def c_dmO : Code := ((loopsOf (codeOf Try.f27))[0]?).getD .skip
def k_dmO : Ex → List Nat := keeps [0, 3] [(0, [])] [2]
def s_dmO (xs : List Int) (n : Nat) : Nat → St := fun i => ⟨(.slice (some ⟨0, 0, none⟩) n n :: topV :: topV :: .int .i64 i :: topV :: topV :: topV :: topV :: topV :: topV :: topV :: topV :: topV :: topV :: topV :: topV :: topV :: topV :: topV :: topV :: topV :: topV :: topV :: topV :: topV :: topV :: topV :: topV :: topV :: topV :: topV :: topV :: topV :: topV :: topV :: topV :: topV :: topV :: topV :: topV :: topV :: topV :: topV :: topV :: topV :: topV :: topV :: topV :: topV :: topV :: []), [some ⟨.view, .ints xs⟩]⟩
def re_dmO (xs : List Int) (n : Nat) : Nat → Ex := fun i => bif allQ (dwQ xs n) (offR n 0 i) (offR n 0 n - offR n 0 i) then .exit 0 else .ret
def rs_dmO (xs : List Int) (n : Nat) : Nat → St := fun i => bif allQ (dwQ xs n) (offR n 0 i) (offR n 0 n - offR n 0 i) then ⟨(topV :: topV :: topV :: topV :: topV :: topV :: topV :: topV :: topV :: topV :: topV :: topV :: topV :: topV :: topV :: topV :: topV :: topV :: topV :: topV :: topV :: topV :: topV :: topV :: topV :: topV :: topV :: topV :: topV :: topV :: topV :: topV :: topV :: topV :: topV :: topV :: topV :: topV :: topV :: topV :: topV :: topV :: topV :: topV :: topV :: topV :: topV :: topV :: topV :: topV :: []), [some ⟨.view, .ints xs⟩]⟩ else ⟨(topV :: topV :: .bool false :: topV :: topV :: topV :: topV :: topV :: topV :: topV :: topV :: topV :: topV :: topV :: topV :: topV :: topV :: topV :: topV :: topV :: topV :: topV :: topV :: topV :: topV :: topV :: topV :: topV :: topV :: topV :: topV :: topV :: topV :: topV :: topV :: topV :: topV :: topV :: topV :: topV :: topV :: topV :: topV :: topV :: topV :: topV :: topV :: topV :: topV :: topV :: []), [some ⟨.view, .ints xs⟩]⟩
set_option maxRecDepth 100000 in
theorem tr_dmO (xs : List Int) (n : Nat) (i : Nat) : bodyL Try.prog EDw0 30 12 ltDm 1 c_dmO k_dmO 1 (s_dmO xs n i) = brT (decide ((↑i : Int) < (↑n : Int))) (.need ((0 : Int) ≤ (↑i : Int)) (.need (IntKind.i64.wrap ((↑i : Int) + (1 : Int)) = (↑i : Int) + (1 : Int)) (.need (xs.length = n * (4 : Nat)) (.need (n ≤ (12 : Nat)) (.need (vsB n xs = true) (.need ((↑i : Int) < (↑n : Int)) (brT (allQ (dwQ xs n) (offR n 0 (↑i : Int).toNat) (n - ((↑i : Int).toNat + 1))) (.leaf .normal ⟨(.slice (some ⟨0, 0, none⟩) (n) (n) :: topV :: topV :: .int .i64 (IntKind.i64.wrap ((↑i : Int) + 1)) :: topV :: topV :: topV :: topV :: topV :: topV :: topV :: topV :: topV :: topV :: topV :: topV :: topV :: topV :: topV :: topV :: topV :: topV :: topV :: topV :: topV :: topV :: topV :: topV :: topV :: topV :: topV :: topV :: topV :: topV :: topV :: topV :: topV :: topV :: topV :: topV :: topV :: topV :: topV :: topV :: topV :: topV :: topV :: topV :: topV :: topV :: []), [some ⟨.view, .ints (xs)⟩]⟩) (.leaf .ret ⟨(topV :: topV :: .bool (false) :: topV :: topV :: topV :: topV :: topV :: topV :: topV :: topV :: topV :: topV :: topV :: topV :: topV :: topV :: topV :: topV :: topV :: topV :: topV :: topV :: topV :: topV :: topV :: topV :: topV :: topV :: topV :: topV :: topV :: topV :: topV :: topV :: topV :: topV :: topV :: topV :: topV :: topV :: topV :: topV :: topV :: topV :: topV :: topV :: topV :: topV :: topV :: []), [some ⟨.view, .ints (xs)⟩]⟩)))))))) (.leaf (.exit 0) ⟨(topV :: topV :: topV :: topV :: topV :: topV :: topV :: topV :: topV :: topV :: topV :: topV :: topV :: topV :: topV :: topV :: topV :: topV :: topV :: topV :: topV :: topV :: topV :: topV :: topV :: topV :: topV :: topV :: topV :: topV :: topV :: topV :: topV :: topV :: topV :: topV :: topV :: topV :: topV :: topV :: topV :: topV :: topV :: topV :: topV :: topV :: topV :: topV :: topV :: topV :: []), [some ⟨.view, .ints (xs)⟩]⟩) := by kernel_rfl
def inv_dmO (xs : List Int) (n : Nat) : Nat → Prop := fun i => i ≤ n
def me_dmO (xs : List Int) (n : Nat) : Nat → Nat := fun i => n - i
/-- A round of this loop. -/
def Round_dmO (xs : List Int) (n : Nat) : Prop := ∀ xx : Nat, inv_dmO xs n xx → (bodyL Try.prog EDw0 30 12 ltDm 1 c_dmO k_dmO 1 (s_dmO xs n xx)).ok (RoundEnd 1 (s_dmO xs n) (inv_dmO xs n) (me_dmO xs n) (re_dmO xs n) (rs_dmO xs n) xx) (fun _ _ => False)
def e_dmO (s : St) (k : Ex → St → Tree) : Option Tree := match Nat.beq s.tmps.length 50, pickL s.tmps [0, 3], s.mem with
  | true, [.slice (some ⟨0, 0, none⟩) n _, .int .i64 ii], [some ⟨.view, .ints xs⟩] => some (needs [ii = 0, xs.length = n * 4, n ≤ 12, vsB n xs = true] (brT (allQ (dwQ xs n) 0 (offR n 0 n)) (k (.exit 0) ⟨(topV :: topV :: topV :: topV :: topV :: topV :: topV :: topV :: topV :: topV :: topV :: topV :: topV :: topV :: topV :: topV :: topV :: topV :: topV :: topV :: topV :: topV :: topV :: topV :: topV :: topV :: topV :: topV :: topV :: topV :: topV :: topV :: topV :: topV :: topV :: topV :: topV :: topV :: topV :: topV :: topV :: topV :: topV :: topV :: topV :: topV :: topV :: topV :: topV :: topV :: []), [some ⟨.view, .ints xs⟩]⟩) (k .ret ⟨(topV :: topV :: .bool false :: topV :: topV :: topV :: topV :: topV :: topV :: topV :: topV :: topV :: topV :: topV :: topV :: topV :: topV :: topV :: topV :: topV :: topV :: topV :: topV :: topV :: topV :: topV :: topV :: topV :: topV :: topV :: topV :: topV :: topV :: topV :: topV :: topV :: topV :: topV :: topV :: topV :: topV :: topV :: topV :: topV :: topV :: topV :: topV :: topV :: topV :: topV :: []), [some ⟨.view, .ints xs⟩]⟩)))
  | _, _, _ => none
set_option maxRecDepth 100000 in
theorem in_dmO : loopsOf c_dmO = [c_dmI] := by kernel_rfl
theorem ltDm_good : LoopsGood Try.prog ltDm 1 c_dmO := by
  intro i d hd s k t F H hlt ht
  rw [in_dmO] at hd
  cases i with
  | zero =>
    obtain rfl : c_dmI = d := by simpa using hd
    exact lg_dmI s k t F H hlt ht
  | succ i => simp at hd
set_option maxRecDepth 100000 in
theorem round_dmO (xs : List Int) (n : Nat) (hx : xs.length = n * 4) (h : n ≤ 12) (hv : vsB n xs = true) : Round_dmO xs n := by
  intro i h1
  have h1 : i ≤ n := h1
  rw [tr_dmO]
  simp only [Int.toNat_natCast]
  refine brT_ok.2 ⟨fun hlt => ?_, fun hge => ?_⟩
  · have hlt : i < n := by have := of_decide_eq_true hlt; omega
    have w : IntKind.i64.wrap ((i : Int) + 1) = ((i + 1 : Nat) : Int) := wsucc (n := n) hlt (by omega)
    have o1 := offR_succ n i 0
    have o2 := offR_mono n (show i + 1 ≤ n by omega)
    have st : allQ (dwQ xs n) (offR n 0 i) (offR n 0 n - offR n 0 i) = (allQ (dwQ xs n) (offR n 0 i) (n - (i + 1)) && allQ (dwQ xs n) (offR n 0 (i + 1)) (offR n 0 n - offR n 0 (i + 1))) := by
      rw [show offR n 0 n - offR n 0 i = (n - (i + 1)) + (offR n 0 n - offR n 0 (i + 1)) by omega, allQ_add, show offR n 0 i + (n - (i + 1)) = offR n 0 (i + 1) by omega]
    rw [w]
    refine ⟨by omega, by omega, hx, h, hv, by omega, brT_ok.2 ⟨fun c => ?_, fun c => ?_⟩⟩
    · have e : allQ (dwQ xs n) (offR n 0 i) (offR n 0 n - offR n 0 i) = allQ (dwQ xs n) (offR n 0 (i + 1)) (offR n 0 n - offR n 0 (i + 1)) := by rw [st, c]; rfl
      refine ⟨i + 1, [], ?_, ?_, by simp only [re_dmO, e], by simp only [rs_dmO, e], ?_⟩
      · show i + 1 ≤ n; omega
      · show n - (i + 1) < n - i; omega
      · repeat' (first | exact True.intro | exact rfl | exact fun _ => rfl | (simp; done) | refine And.intro ?_ ?_)
    · have e : allQ (dwQ xs n) (offR n 0 i) (offR n 0 n - offR n 0 i) = false := by rw [st, c]; rfl
      refine ⟨by simp only [re_dmO, e, cond_false], [], ?_⟩
      simp only [rs_dmO, e, cond_false]
      repeat' (first | exact True.intro | exact rfl | exact fun _ => rfl | (simp; done) | refine And.intro ?_ ?_)
  · have hge := of_decide_eq_false hge
    obtain rfl : i = n := by omega
    have e : allQ (dwQ xs i) (offR i 0 i) (offR i 0 i - offR i 0 i) = true := by
      rw [Nat.sub_self]
      rfl
    refine ⟨by simp only [re_dmO, e, cond_true], [], ?_⟩
    simp only [rs_dmO, e, cond_true]
    repeat' (first | exact True.intro | exact rfl | exact fun _ => rfl | (simp; done) | refine And.intro ?_ ?_)
set_option maxRecDepth 100000 in
theorem lg_dmO : LoopE Try.prog e_dmO c_dmO := by
  intro s k t F H hlt ht
  unfold e_dmO at hlt
  split at hlt
  rotate_left
  · cases hlt
  rename_i hlen hpick hmem
  obtain ⟨tmps, mem⟩ := s
  simp only at hlen hpick hmem
  subst hmem
  obtain rfl := Option.some.inj hlt
  obtain ⟨⟨rfl, h2, h3, h4, _⟩, ht2⟩ := needs_ok ht
  clear ht hlt
  refine ⟨_, _, pick2k ht2, loop_run mixed EDw0_ok (s_dmO _ _) (inv_dmO _ _) (me_dmO _ _) (re_dmO _ _) (rs_dmO _ _) k_dmO (fun _ => rfl) ltDm_good (round_dmO _ _ h2 h3 h4) (x := 0) (Nat.zero_le _) (π := []) rfl ?_⟩
  refine ⟨rfl, rfl, ?_, wvs_spread' [0, 3] hlen rfl ?_⟩
  · repeat' (first | exact True.intro | exact rfl | exact wv_top _ _ | exact fun _ => rfl | assumption | exact Eq.symm (by assumption) | exact vI0 rfl | refine And.intro ?_ ?_)
  · rw [hpick]
    repeat' (first | exact True.intro | exact rfl | exact wv_top _ _ | exact fun _ => rfl | assumption | exact Eq.symm (by assumption) | exact vI0 rfl | refine And.intro ?_ ?_)
end Go.Proofs.Ytolodncpegajkaa
namespace Go.Proofs.Ytolodncpegajkaa
set_option linter.all false
open Go.RowKit
theorem Lr_dmO {fn : Func} (hf : Try.prog.funcs[27]? = some fn) : LoopsGood Try.prog (lt1 e_dmO) 0 (codeOf fn) := by
  obtain rfl := fn_is Try.func27 hf
  exact lt1_good lg_dmO
def LDw : FuncId → LT := fun f => match f with
  | 27 => lt1 e_dmO
  | _ => noL
theorem Gr_dwg {fn : Func} (hf : Try.prog.funcs[28]? = some fn) : RangesGood Try.prog (rt1 10 e_dwg) (codeOf fn) := by
  obtain rfl := fn_is Try.func28 hf
  exact rt1_good (by kernel_rfl) lg_dwg
def GDw : FuncId → RT := fun f => match f with
  | 28 => rt1 10 e_dwg
  | _ => noR
def EDw : Env := withG (mkE TDw RSl1 LDw) GDw
theorem EDw_ok : EnvOk Try.prog EDw := withG_ok (mkEOk TDw_ok RSl1_ok (by
  intro f fn hf
  unfold LDw
  split
  all_goals first | with_reducible exact Lr_dmO hf | exact noL_good)) (by
  intro f fn hf
  unfold GDw
  split
  all_goals first | with_reducible exact Gr_dwg hf | exact noR_good)
set_option maxRecDepth 100000 in
theorem tr_sDw (n : Nat) (xs : List Int) : bodyV Try.prog EDw 30 12 27 [.row n (.ints xs)] = .need ((List.drop (0 : Nat) xs).length = n * (4 : Nat)) (.need (Lim n) (brT (!vsB n (List.drop 0 xs)) (.fin (.bool (false)) []) (.need ((0 : Int) = (0 : Int)) (.need (xs.length = n * (4 : Nat)) (.need (n ≤ (12 : Nat)) (.need (vsB n xs = true) (brT (allQ (dwQ xs n) 0 (offR n 0 n)) (.fin (.bool (true)) []) (.fin (.bool (false)) [])))))))) := by kernel_rfl
set_option maxRecDepth 100000 in
theorem tr_iDw (n : Nat) (xs : List Int) : bodyV Try.prog EDw 30 12 28 [.row n (.ints xs)] = .need ((List.drop (0 : Nat) xs).length = n * (4 : Nat)) (.need (Lim n) (brT (!vsB n (List.drop 0 xs)) (.fin (.bool (false)) []) (.need (n = n) (.need (xs.length = n * (4 : Nat)) (.need (n ≤ (12 : Nat)) (brT (allQ (dwQ xs n) 0 (offR n 0 n)) (.fin (.bool (true)) []) (.fin (.bool (false)) []))))))) := by kernel_rfl
/-- Are the segments a planar drawing? -/
def dwB (n : Nat) (xs : List Int) : Bool := vsB n xs && allQ (dwQ xs n) 0 (offR n 0 n)
theorem res_sDw (n : Nat) (xs : List Int) (hx : xs.length = n * 4) (h : Lim n) : Res Try.prog 27 [.row n (.ints xs)] (.bool (dwB n xs)) := by
  refine bodyV_res mixed EDw_ok (m := 30) (n := 12) rfl ?_
  rw [tr_sDw]
  simp only [List.drop_zero]
  unfold dwB
  rcases hv : vsB n xs with _ | _
  · exact ⟨hx, h, rfl⟩
  · rcases allQ (dwQ xs n) 0 (offR n 0 n) with _ | _
    · exact ⟨hx, h, trivial, hx, vs_12 hv, rfl, rfl⟩
    · exact ⟨hx, h, trivial, hx, vs_12 hv, rfl, rfl⟩
theorem res_iDw (n : Nat) (xs : List Int) (hx : xs.length = n * 4) (h : Lim n) : Res Try.prog 28 [.row n (.ints xs)] (.bool (dwB n xs)) := by
  refine bodyV_res mixed EDw_ok (m := 30) (n := 12) rfl ?_
  rw [tr_iDw]
  simp only [List.drop_zero]
  unfold dwB
  rcases hv : vsB n xs with _ | _
  · exact ⟨hx, h, rfl⟩
  · rcases allQ (dwQ xs n) 0 (offR n 0 n) with _ | _
    · exact ⟨hx, h, trivial, hx, vs_12 hv, rfl⟩
    · exact ⟨hx, h, trivial, hx, vs_12 hv, rfl⟩
end Go.Proofs.Ytolodncpegajkaa
namespace Go.Proofs.Ytolodncpegajkaa
set_option linter.all false
open Go.RowKit
set_option maxRecDepth 100000 in
theorem tr_pick (bs : List Int) (l c : Nat) (p k : Int) : bodyM Try.prog (tabE B0) (runM Try.prog (tabE B0) 30 12) 30 76 [.pointer (some ⟨1, 0, none⟩), .int .i64 k] (memR bs l c p none) .fin = brT (decide (k < 1)) (.fin (.int .i64 (0)) [some ⟨.view, .bytes (bs)⟩, some ⟨.box, .vals [.slice (some ⟨0, 0, none⟩) (l) (c), .int .i64 (IntKind.i64.wrap (p + 1))]⟩]) (brT ((↑l : Int) == 0) (.fin (.int .i64 (0)) [some ⟨.view, .bytes (bs)⟩, some ⟨.box, .vals [.slice (some ⟨0, 0, none⟩) (l) (c), .int .i64 (IntKind.i64.wrap (p + 1))]⟩]) (brT (decide (IntKind.i64.wrap (IntKind.i64.wrap (p + 1) - 1) < (↑l : Int))) (.need ((0 : Int) ≤ IntKind.i64.wrap (IntKind.i64.wrap (p + (1 : Int)) - (1 : Int)) ∧ IntKind.i64.wrap (IntKind.i64.wrap (p + (1 : Int)) - (1 : Int)) < (↑l : Int)) (.need ((0 : Nat) + (IntKind.i64.wrap (IntKind.i64.wrap (p + (1 : Int)) - (1 : Int))).toNat * (1 : Nat) < bs.length) (.need (¬k = (0 : Int)) (.fin (.int .i64 ((IntKind.i64.wrap (bs.getD (0 + (IntKind.i64.wrap (IntKind.i64.wrap (p + 1) - 1)).toNat * 1) 0)).tmod k)) [some ⟨.view, .bytes (bs)⟩, some ⟨.box, .vals [.slice (some ⟨0, 0, none⟩) (l) (c), .int .i64 (IntKind.i64.wrap (p + 1))]⟩])))) (.need (¬(↑l : Int) = (0 : Int)) (.need ((0 : Int) ≤ (IntKind.i64.wrap (IntKind.i64.wrap (p + (1 : Int)) - (1 : Int))).tmod (↑l : Int) ∧ (IntKind.i64.wrap (IntKind.i64.wrap (p + (1 : Int)) - (1 : Int))).tmod (↑l : Int) < (↑l : Int)) (.need ((0 : Nat) + ((IntKind.i64.wrap (IntKind.i64.wrap (p + (1 : Int)) - (1 : Int))).tmod (↑l : Int)).toNat * (1 : Nat) < bs.length) (.need (¬(↑l : Int) = (0 : Int)) (.need ((0 : Int) ≤ (IntKind.i64.wrap (IntKind.i64.wrap (IntKind.i64.wrap (IntKind.i64.wrap (p + (1 : Int)) - (1 : Int)) * (7 : Int)) + (3 : Int))).tmod (↑l : Int) ∧ (IntKind.i64.wrap (IntKind.i64.wrap (IntKind.i64.wrap (IntKind.i64.wrap (p + (1 : Int)) - (1 : Int)) * (7 : Int)) + (3 : Int))).tmod (↑l : Int) < (↑l : Int)) (.need ((0 : Nat) + ((IntKind.i64.wrap (IntKind.i64.wrap (IntKind.i64.wrap (IntKind.i64.wrap (p + (1 : Int)) - (1 : Int)) * (7 : Int)) + (3 : Int))).tmod (↑l : Int)).toNat * (1 : Nat) < bs.length) (.need (¬(↑l : Int) = (0 : Int)) (.need (¬(64 : Int) = (0 : Int)) (.need (¬k = (0 : Int)) (.fin (.int .i64 ((IntKind.i64.wrap (↑(BitVec.ofInt IntKind.i64.bits (IntKind.i64.wrap (IntKind.i64.wrap (IntKind.i64.wrap (IntKind.i64.wrap (IntKind.i64.wrap (bs.getD (0 + ((IntKind.i64.wrap (IntKind.i64.wrap (p + 1) - 1)).tmod (↑l : Int)).toNat * (1 : Nat)) 0) * 131) + IntKind.i64.wrap (IntKind.i64.wrap (bs.getD (0 + ((IntKind.i64.wrap (IntKind.i64.wrap (IntKind.i64.wrap (IntKind.i64.wrap (p + 1) - 1) * 7) + 3)).tmod (↑l : Int)).toNat * (1 : Nat)) 0) * 1117)) + IntKind.i64.wrap (IntKind.i64.wrap (IntKind.i64.wrap (p + 1) - 1) * 29)) + IntKind.i64.wrap (IntKind.i64.wrap ((IntKind.i64.wrap (IntKind.i64.wrap (p + 1) - 1)).tdiv (↑l : Int)) * 53))) ^^^ BitVec.ofInt IntKind.i64.bits (IntKind.i64.wrap ((IntKind.i64.wrap (IntKind.i64.wrap (IntKind.i64.wrap (IntKind.i64.wrap (IntKind.i64.wrap (bs.getD (0 + ((IntKind.i64.wrap (IntKind.i64.wrap (p + 1) - 1)).tmod (↑l : Int)).toNat * (1 : Nat)) 0) * 131) + IntKind.i64.wrap (IntKind.i64.wrap (bs.getD (0 + ((IntKind.i64.wrap (IntKind.i64.wrap (IntKind.i64.wrap (IntKind.i64.wrap (p + 1) - 1) * 7) + 3)).tmod (↑l : Int)).toNat * (1 : Nat)) 0) * 1117)) + IntKind.i64.wrap (IntKind.i64.wrap (IntKind.i64.wrap (p + 1) - 1) * 29)) + IntKind.i64.wrap (IntKind.i64.wrap ((IntKind.i64.wrap (IntKind.i64.wrap (p + 1) - 1)).tdiv (↑l : Int)) * 53))).tdiv 64))).toNat : Int)).tmod k)) [some ⟨.view, .bytes (bs)⟩, some ⟨.box, .vals [.slice (some ⟨0, 0, none⟩) (l) (c), .int .i64 (IntKind.i64.wrap (p + 1))]⟩])))))))))))) := by kernel_rfl
def xorI (x : Int) : Int := IntKind.i64.wrap (↑(BitVec.ofInt IntKind.i64.bits x ^^^ BitVec.ofInt IntKind.i64.bits (IntKind.i64.wrap (x.tdiv 64))).toNat : Int)
def mixI (bs : List Int) (l : Nat) (p : Int) : Int := bs.getD (p.tmod l).toNat 0 * 131 + bs.getD ((p * 7 + 3).tmod l).toNat 0 * 1117 + p * 29 + p.tdiv l * 53
/-- What pick answers. -/
def pickI (bs : List Int) (l : Nat) (p k : Int) : Int := if k < 1 ∨ l = 0 then 0 else if p < l then (bs.getD p.toNat 0).tmod k else (xorI (mixI bs l p)).tmod k
/-- Is the reader in order? -/
def rdC (bs : List Int) (l : Nat) (p : Int) : Prop := l ≤ bs.length ∧ l ≤ 2000 ∧ 0 ≤ p ∧ p ≤ 1000000 ∧ Bytes bs
def pickS : RSpec := fun bs l p rest ex => match rest, ex with
  | [.int .i64 k], none => some (.int .i64 (pickI bs l p k), p + 1, [rdC bs l p])
  | _, _ => none
theorem Bytes.get {bs : List Int} (h : Bytes bs) (i : Nat) : 0 ≤ bs.getD i 0 ∧ bs.getD i 0 ≤ 255 := by
  rw [List.getD_eq_getElem?_getD]
  rcases hx : bs[i]? with _ | b
  · simp
  · simpa using h b (List.mem_of_getElem? hx)
theorem xorI_bd {x : Int} (h0 : 0 ≤ x) (h1 : x < 4611686018427387904) : 0 ≤ xorI x ∧ xorI x < 9223372036854775808 := by
  have hq : 0 ≤ x.tdiv 64 ∧ x.tdiv 64 ≤ x := by
    rw [Int.tdiv_eq_ediv_of_nonneg h0]
    omega
  unfold xorI
  rw [wr (x := x.tdiv 64) (by omega)]
  obtain ⟨a, rfl⟩ := Int.eq_ofNat_of_zero_le h0
  obtain ⟨b, hb⟩ := Int.eq_ofNat_of_zero_le hq.1
  rw [hb]
  have hb' : (b : Int) ≤ a := by rw [← hb]; exact hq.2
  have e : (BitVec.ofInt IntKind.i64.bits (a : Int) ^^^ BitVec.ofInt IntKind.i64.bits (b : Int)).toNat = a ^^^ b := by
    show (BitVec.ofInt 64 (a : Int) ^^^ BitVec.ofInt 64 (b : Int)).toNat = a ^^^ b
    rw [BitVec.toNat_xor]
    simp only [BitVec.ofInt_natCast, BitVec.toNat_ofNat]
    rw [Nat.mod_eq_of_lt (by omega), Nat.mod_eq_of_lt (by omega)]
  have hlt : a ^^^ b < 2 ^ 63 := Nat.xor_lt_two_pow (by omega) (by omega)
  rw [e, wr (by omega)]
  omega
theorem mixI_bd {bs : List Int} {l : Nat} {p : Int} (h : rdC bs l p) (hl : 0 < l) : 0 ≤ mixI bs l p ∧ mixI bs l p < 1000000000 := by
  obtain ⟨_, h2, h3, h4, h5⟩ := h
  have b1 := h5.get (p.tmod l).toNat
  have b2 := h5.get ((p * 7 + 3).tmod l).toNat
  have q : 0 ≤ p.tdiv l ∧ p.tdiv l ≤ p := by
    rw [Int.tdiv_eq_ediv_of_nonneg h3]
    exact ⟨Int.ediv_nonneg h3 (by omega), Int.ediv_le_self _ h3⟩
  unfold mixI
  omega
theorem pickI_bd {bs : List Int} {l : Nat} {p k : Int} (h : rdC bs l p) (hk : 1 ≤ k) : 0 ≤ pickI bs l p k ∧ pickI bs l p k < k := by
  unfold pickI
  split
  · omega
  rename_i hn
  have hl : 0 < l := by omega
  split
  · exact ⟨Int.tmod_nonneg _ (h.2.2.2.2.get _).1, Int.tmod_lt_of_pos _ (by omega)⟩
  · have hm := mixI_bd h hl
    exact ⟨Int.tmod_nonneg _ (xorI_bd hm.1 (by omega)).1, Int.tmod_lt_of_pos _ (by omega)⟩
theorem vk {k : IntKind} {a b : Int} (h : a = b) : Value.int k a = .int k b := by rw [h]
theorem pickS_ok : SpecOk Try.prog 76 pickS := by
  intro bs l c p rest0 ex v p' C h hC
  unfold pickS at h
  split at h
  rotate_left
  · cases h
  rename_i k
  obtain ⟨rfl, rfl, rfl⟩ : Value.int .i64 (pickI bs l p k) = v ∧ p + 1 = p' ∧ [rdC bs l p] = C := by simpa using h
  have hC := hC.1
  have hg := fun i => hC.2.2.2.2.get i
  have hC0 := hC
  obtain ⟨h1, h2, h3, h4, h5⟩ := hC
  refine ⟨tabE B0, 30, 12, tabE_ok B0_ok, rfl, ?_⟩
  rw [tr_pick]
  have e1 : IntKind.i64.wrap (p + 1) = p + 1 := wr (by omega)
  have e2 : IntKind.i64.wrap (p + 1 - 1) = p := by rw [wr (by omega)]; omega
  have e3 : IntKind.i64.wrap (p * 7) = p * 7 := wr (by omega)
  have e4 : IntKind.i64.wrap (p * 7 + 3) = p * 7 + 3 := wr (by omega)
  simp only [e1, e2, e3, e4, Nat.zero_add, Nat.mul_one]
  refine brT_ok.2 ⟨fun hk => ?_, fun hk => brT_ok.2 ⟨fun hl => ?_, fun hl => brT_ok.2 ⟨fun hp => ?_, fun hp => ?_⟩⟩⟩
  · have hk := of_decide_eq_true hk
    refine ⟨vk ?_, rfl⟩
    unfold pickI
    rw [if_pos (.inl hk)]
  · have hl : l = 0 := by simpa using hl
    refine ⟨vk ?_, rfl⟩
    unfold pickI
    rw [if_pos (.inr hl)]
  · have hk := of_decide_eq_false hk
    have hl : ¬ l = 0 := by simpa using hl
    have hp := of_decide_eq_true hp
    refine ⟨⟨h3, hp⟩, by omega, by omega, vk ?_, rfl⟩
    rw [wr (by have := hg p.toNat; omega)]
    unfold pickI
    rw [if_neg (by omega), if_pos hp]
  · have hk := of_decide_eq_false hk
    have hl : ¬ l = 0 := by simpa using hl
    have hp := of_decide_eq_false hp
    have hl0 : (0 : Int) < l := by omega
    have t1 : 0 ≤ p.tmod l ∧ p.tmod l < l := ⟨Int.tmod_nonneg _ h3, Int.tmod_lt_of_pos _ hl0⟩
    have t2 : 0 ≤ (p * 7 + 3).tmod l ∧ (p * 7 + 3).tmod l < l := ⟨Int.tmod_nonneg _ (by omega), Int.tmod_lt_of_pos _ hl0⟩
    have q : 0 ≤ p.tdiv l ∧ p.tdiv l ≤ p := by
      rw [Int.tdiv_eq_ediv_of_nonneg h3]
      exact ⟨Int.ediv_nonneg h3 (by omega), Int.ediv_le_self _ h3⟩
    have b1 := hg (p.tmod l).toNat
    have b2 := hg ((p * 7 + 3).tmod l).toNat
    have hm := mixI_bd hC0 (by omega)
    refine ⟨by omega, t1, by omega, by omega, t2, by omega, by omega, by omega, by omega, vk ?_, rfl⟩
    unfold pickI
    rw [if_neg (by omega), if_neg (by omega)]
    have em : IntKind.i64.wrap (IntKind.i64.wrap (IntKind.i64.wrap (IntKind.i64.wrap (IntKind.i64.wrap (bs.getD (p.tmod l).toNat 0) * 131) + IntKind.i64.wrap (IntKind.i64.wrap (bs.getD ((p * 7 + 3).tmod l).toNat 0) * 1117)) + IntKind.i64.wrap (p * 29)) + IntKind.i64.wrap (IntKind.i64.wrap (p.tdiv l) * 53)) = mixI bs l p := by
      clear hm
      unfold mixI
      generalize bs.getD (p.tmod l).toNat 0 = x1 at *
      generalize bs.getD ((p * 7 + 3).tmod l).toNat 0 = x2 at *
      generalize p.tdiv l = x3 at *
      simp (disch := omega) only [wr]
    rw [em]
    rfl
/-- The first table: pick. -/
def J1 : List (FuncId × RSpec) := [(76, pickS)]
theorem J1_ok : JOk Try.prog J1 := JOk.nil.cons (entersB_res (by kernel_rfl)).1 pickS_ok
def ER1 : Env := withJ (tabE B0) J1
theorem ER1_ok : EnvOk Try.prog ER1 := withJ_ok mixed (tabE_ok B0_ok) J1_ok
set_option maxRecDepth 100000 in
theorem tr_one (bs : List Int) (l c : Nat) (p : Int) (n : Nat) (xs : List Int) : bodyM Try.prog ER1 (runM Try.prog ER1 30 12) 30 114 [.pointer (some ⟨1, 0, none⟩), .slice (some ⟨2, 0, none⟩) n n] (memR bs l c p (some xs)) .fin = .need (rdC bs l p) (.need ((0 : Int) ≤ pickI bs l p (↑n : Int) ∧ pickI bs l p (↑n : Int) < (↑n : Int)) (.need ((0 : Nat) + (pickI bs l p (↑n : Int)).toNat * (1 : Nat) < xs.length) (.fin (.int .i64 (xs.getD (0 + (pickI bs l p (↑n : Int)).toNat * 1) 0)) [some ⟨.view, .bytes (bs)⟩, some ⟨.box, .vals [.slice (some ⟨0, 0, none⟩) (l) (c), .int .i64 (p + 1)]⟩, some ⟨.view, .ints (xs)⟩]))) := by kernel_rfl
set_option maxRecDepth 100000 in
theorem tr_rpt (bs : List Int) (l c : Nat) (p : Int) : bodyM Try.prog ER1 (runM Try.prog ER1 30 12) 30 115 [.pointer (some ⟨1, 0, none⟩)] (memR bs l c p none) .fin = .need (rdC bs l p) (.need (rdC bs l (p + (1 : Int))) (.fin (.agg #[.int .i64 (IntKind.i64.wrap (pickI bs l p 9 - 2)), .int .i64 (IntKind.i64.wrap (pickI bs l (p + 1) 9 - 2))]) [some ⟨.view, .bytes (bs)⟩, some ⟨.box, .vals [.slice (some ⟨0, 0, none⟩) (l) (c), .int .i64 (p + 1 + 1)]⟩, some ⟨.box, .vals [.int .i64 (IntKind.i64.wrap (pickI bs l p 9 - 2)), .int .i64 (IntKind.i64.wrap (pickI bs l (p + 1) 9 - 2))]⟩])) := by kernel_rfl
end Go.Proofs.Ytolodncpegajkaa
namespace Go.Proofs.Ytolodncpegajkaa
set_option linter.all false
open Go.RowKit
/-- The reader in order, with room for many more. -/
def rdK (bs : List Int) (l : Nat) (p : Int) : Prop := rdC bs l p ∧ p ≤ 900000
theorem rdK.at {bs : List Int} {l : Nat} {p : Int} (h : rdK bs l p) {q : Int} (h0 : p ≤ q) (h1 : q ≤ p + 90000) : rdC bs l q :=
  ⟨h.1.1, h.1.2.1, by have := h.1.2.2.1; omega, by have := h.2; omega, h.1.2.2.2.2⟩
def oneI (bs : List Int) (l : Nat) (p : Int) (n : Nat) (xs : List Int) : Int := xs.getD (pickI bs l p n).toNat 0
def oneS : RSpec := fun bs l p rest ex => match rest, ex with
  | [.slice (some ⟨2, 0, none⟩) n n'], some xs => some (.int .i64 (oneI bs l p n xs), p + 1, [rdC bs l p, 1 ≤ n ∧ n ≤ xs.length ∧ n' = n])
  | _, _ => none
theorem oneS_ok : SpecOk Try.prog 114 oneS := by
  intro bs l c p rest0 ex v p' C h hC
  unfold oneS at h
  split at h
  rotate_left
  · cases h
  rename_i n n' xs
  obtain ⟨rfl, rfl, rfl⟩ : Value.int .i64 (oneI bs l p n xs) = v ∧ p + 1 = p' ∧ [rdC bs l p, 1 ≤ n ∧ n ≤ xs.length ∧ n' = n] = C := by simpa using h
  obtain ⟨h1, ⟨h2, h3, rfl⟩, _⟩ := hC
  refine ⟨ER1, 30, 12, ER1_ok, rfl, ?_⟩
  rw [tr_one]
  have hb := pickI_bd (k := (n' : Int)) h1 (by omega)
  exact ⟨h1, hb, by omega, by simp only [oneI, Nat.zero_add, Nat.mul_one], rfl⟩
def rptS : RSpec := fun bs l p rest ex => match rest, ex with
  | [], none => some (.agg #[.int .i64 (pickI bs l p 9 - 2), .int .i64 (pickI bs l (p + 1) 9 - 2)], p + 2, [rdK bs l p])
  | _, _ => none
theorem box2 {bs : List Int} {l c : Nat} {p q : Int} (h : q = p) (r : List (Option Blk)) : (some ⟨.view, .bytes bs⟩ :: some ⟨.box, .vals [.slice (some ⟨0, 0, none⟩) l c, .int .i64 q]⟩ :: r : List (Option Blk)).getD 1 none = some (rdBox 0 l c p) := by rw [h]; rfl
theorem rptS_ok : SpecOk Try.prog 115 rptS := by
  intro bs l c p rest0 ex v p' C h hC
  unfold rptS at h
  split at h
  rotate_left
  · cases h
  obtain ⟨rfl, rfl, rfl⟩ : Value.agg #[.int .i64 (pickI bs l p 9 - 2), .int .i64 (pickI bs l (p + 1) 9 - 2)] = v ∧ p + 2 = p' ∧ [rdK bs l p] = C := by simpa using h
  have h1 := hC.1
  refine ⟨ER1, 30, 12, ER1_ok, rfl, ?_⟩
  rw [tr_rpt]
  have h2 := h1.at (q := p) (by omega) (by omega)
  have h3 := h1.at (q := p + 1) (by omega) (by omega)
  have b1 := pickI_bd (k := 9) h2 (by omega)
  have b2 := pickI_bd (k := 9) h3 (by omega)
  exact ⟨h2, h3, by rw [wr (by omega), wr (by omega)], box2 (by omega) _⟩
def J2 : List (FuncId × RSpec) := (114, oneS) :: (115, rptS) :: J1
theorem J2_ok : JOk Try.prog J2 := (J1_ok.cons (entersB_res (by kernel_rfl)).1 rptS_ok).cons (entersB_res (by kernel_rfl)).1 oneS_ok
def ER2 : Env := withJ (tabE B0) J2
theorem ER2_ok : EnvOk Try.prog ER2 := withJ_ok mixed (tabE_ok B0_ok) J2_ok
set_option maxRecDepth 100000 in
theorem tr_apt (bs : List Int) (l c : Nat) (p : Int) : bodyM Try.prog ER2 (runM Try.prog ER2 30 12) 30 131 [.pointer (some ⟨1, 0, none⟩)] (memR bs l c p none) .fin = .need (rdK bs l p) (.need (rdC bs l (p + (2 : Int))) (brT (pickI bs l (p + 2) 16 == 0) (.need (rdC bs l (p + (2 : Int) + (1 : Int))) (.need ((1 : Nat) ≤ (4 : Nat) ∧ (4 : Nat) ≤ (4 : Nat) ∧ (4 : Nat) = (4 : Nat)) (.fin (.agg #[.int .i64 (oneI bs l (p + 2 + 1) 4 [1001, -1001, 1000, -1000]), .int .i64 (pickI bs l (p + 1) 9 - 2)]) [some ⟨.view, .bytes (bs)⟩, some ⟨.box, .vals [.slice (some ⟨0, 0, none⟩) (l) (c), .int .i64 (p + 2 + 1 + 1)]⟩, some ⟨.box, .vals [.int .i64 (oneI bs l (p + 2 + 1) 4 [1001, -1001, 1000, -1000]), .int .i64 (pickI bs l (p + 1) 9 - 2)]⟩, some ⟨.box, .vals [.int .i64 (oneI bs l (p + 2 + 1) 4 [1001, -1001, 1000, -1000]), .int .i64 (pickI bs l (p + 1) 9 - 2)]⟩, some ⟨.row 3 1, .vals [.int .i64 (1001), .int .i64 (-1001), .int .i64 (1000), .int .i64 (-1000)]⟩]))) (brT (pickI bs l (p + 2) 16 == 1) (.need (rdC bs l (p + (2 : Int) + (1 : Int))) (.need ((1 : Nat) ≤ (4 : Nat) ∧ (4 : Nat) ≤ (4 : Nat) ∧ (4 : Nat) = (4 : Nat)) (.fin (.agg #[.int .i64 (pickI bs l p 9 - 2), .int .i64 (oneI bs l (p + 2 + 1) 4 [1001, -1001, 1000, -1000])]) [some ⟨.view, .bytes (bs)⟩, some ⟨.box, .vals [.slice (some ⟨0, 0, none⟩) (l) (c), .int .i64 (p + 2 + 1 + 1)]⟩, some ⟨.box, .vals [.int .i64 (pickI bs l p 9 - 2), .int .i64 (oneI bs l (p + 2 + 1) 4 [1001, -1001, 1000, -1000])]⟩, some ⟨.box, .vals [.int .i64 (pickI bs l p 9 - 2), .int .i64 (oneI bs l (p + 2 + 1) 4 [1001, -1001, 1000, -1000])]⟩, some ⟨.row 3 1, .vals [.int .i64 (1001), .int .i64 (-1001), .int .i64 (1000), .int .i64 (-1000)]⟩]))) (.fin (.agg #[.int .i64 (pickI bs l p 9 - 2), .int .i64 (pickI bs l (p + 1) 9 - 2)]) [some ⟨.view, .bytes (bs)⟩, some ⟨.box, .vals [.slice (some ⟨0, 0, none⟩) (l) (c), .int .i64 (p + 2 + 1)]⟩, some ⟨.box, .vals [.int .i64 (pickI bs l p 9 - 2), .int .i64 (pickI bs l (p + 1) 9 - 2)]⟩, some ⟨.box, .vals [.int .i64 (pickI bs l p 9 - 2), .int .i64 (pickI bs l (p + 1) 9 - 2)]⟩])))) := by kernel_rfl
def farI : List Int := [1001, -1001, 1000, -1000]
def apQ (bs : List Int) (l : Nat) (p : Int) : Int := pickI bs l (p + 2) 16
def apX (bs : List Int) (l : Nat) (p : Int) : Int := if apQ bs l p = 0 then oneI bs l (p + 3) 4 farI else pickI bs l p 9 - 2
def apY (bs : List Int) (l : Nat) (p : Int) : Int := if apQ bs l p = 1 then oneI bs l (p + 3) 4 farI else pickI bs l (p + 1) 9 - 2
def apP (bs : List Int) (l : Nat) (p : Int) : Int := if apQ bs l p = 0 ∨ apQ bs l p = 1 then p + 4 else p + 3
theorem apP_bd (bs : List Int) (l : Nat) (p : Int) : p + 3 ≤ apP bs l p ∧ apP bs l p ≤ p + 4 := by unfold apP; split <;> omega
def aptS : RSpec := fun bs l p rest ex => match rest, ex with
  | [], none => some (.agg #[.int .i64 (apX bs l p), .int .i64 (apY bs l p)], apP bs l p, [rdK bs l p])
  | _, _ => none
theorem veq2 {a a' b b' : Int} (h : a = a') (k : b = b') : Value.agg #[.int .i64 a, .int .i64 b] = .agg #[.int .i64 a', .int .i64 b'] := by rw [h, k]
theorem aptS_ok : SpecOk Try.prog 131 aptS := by
  intro bs l c p rest0 ex v p' C h hC
  unfold aptS at h
  split at h
  rotate_left
  · cases h
  obtain ⟨rfl, rfl, rfl⟩ : Value.agg #[.int .i64 (apX bs l p), .int .i64 (apY bs l p)] = v ∧ apP bs l p = p' ∧ [rdK bs l p] = C := by simpa using h
  have h1 := hC.1
  refine ⟨ER2, 30, 12, ER2_ok, rfl, ?_⟩
  rw [tr_apt]
  have e3 : p + 2 + 1 = p + 3 := by omega
  have e4 : p + 3 + 1 = p + 4 := by omega
  simp only [e3, e4]
  refine ⟨h1, h1.at (by omega) (by omega), brT_ok.2 ⟨fun hq => ?_, fun hq => brT_ok.2 ⟨fun hq' => ?_, fun hq' => ?_⟩⟩⟩
  · have hq : apQ bs l p = 0 := by simpa [apQ] using hq
    exact ⟨h1.at (by omega) (by omega), by decide, veq2 (by unfold apX; rw [if_pos hq]; rfl) (by unfold apY; rw [if_neg (by omega)]), box2 (by unfold apP; rw [if_pos (.inl hq)]) _⟩
  · have hq : ¬ apQ bs l p = 0 := by simpa [apQ] using hq
    have hq' : apQ bs l p = 1 := by simpa [apQ] using hq'
    exact ⟨h1.at (by omega) (by omega), by decide, veq2 (by unfold apX; rw [if_neg hq]) (by unfold apY; rw [if_pos hq']; rfl), box2 (by unfold apP; rw [if_pos (.inr hq')]) _⟩
  · have hq : ¬ apQ bs l p = 0 := by simpa [apQ] using hq
    have hq' : ¬ apQ bs l p = 1 := by simpa [apQ] using hq'
    exact ⟨veq2 (by unfold apX; rw [if_neg hq]) (by unfold apY; rw [if_neg hq']), box2 (by unfold apP; rw [if_neg (by omega)]) _⟩
def J3 : List (FuncId × RSpec) := (131, aptS) :: J2
theorem J3_ok : JOk Try.prog J3 := J2_ok.cons (entersB_res (by kernel_rfl)).1 aptS_ok
end Go.Proofs.Ytolodncpegajkaa
namespace Go.Proofs.Ytolodncpegajkaa
set_option linter.all false
open Go.RowKit
/-- How many bytes are read. -/
def rdL (n : Nat) : Nat := min n 2000
theorem rdL_of {n : Nat} (h : 2000 < (n : Int)) : rdL n = 2000 := by unfold rdL; omega
theorem rdL_no {n : Nat} (h : ¬ 2000 < (n : Int)) : rdL n = n := by unfold rdL; omega
theorem rdK0 {bs : List Int} {n : Nat} (h : Bytes bs) (hn : n ≤ bs.length) {l : Nat} (hl : l ≤ n) (h2 : l ≤ 2000) {p : Int} (h3 : 0 ≤ p) (h4 : p ≤ 900000) : rdK bs l p :=
  ⟨⟨by omega, h2, h3, by omega, h⟩, h4⟩
theorem bnd2000 {n : Nat} (h : 2000 < (n : Int)) : (0 : Int) ≤ bndI none (0 : Int) ∧ bndI none (0 : Int) ≤ bndI (some (IntKind.i64, (2000 : Int))) (↑n : Int) ∧ bndI (some (IntKind.i64, (2000 : Int))) (↑n : Int) ≤ (↑n : Int) := by
  refine ⟨Int.le_refl _, ?_, ?_⟩
  · show (0 : Int) ≤ 2000; omega
  · show (2000 : Int) ≤ n; omega
/-- The coordinates of the three points. -/
def d3 (bs : List Int) (n : Nat) : Nat → Int
  | 0 => apX bs (rdL n) 0
  | 1 => apY bs (rdL n) 0
  | 2 => apX bs (rdL n) (apP bs (rdL n) 0)
  | 3 => apY bs (rdL n) (apP bs (rdL n) 0)
  | 4 => apX bs (rdL n) (apP bs (rdL n) (apP bs (rdL n) 0))
  | _ => apY bs (rdL n) (apP bs (rdL n) (apP bs (rdL n) 0))
end Go.Proofs.Ytolodncpegajkaa
namespace Go.Proofs.Ytolodncpegajkaa
set_option linter.all false
open Go.RowKit
abbrev rowL (ps : List Pt) : Value := .slice (some ⟨0, 0, none⟩) ps.length ps.length
end Go.Proofs.Ytolodncpegajkaa
namespace Go.Proofs.Ytolodncpegajkaa
set_option linter.all false
open Go.RowKit Go.Sort
def orI (x y : Int) : Int := if x = 0 then y else x
theorem or2_any (b c : Nat) (x y : Int) (w : World) (h0 : w.cell? ⟨b, 0, none⟩ = some (.int .i64 x)) (h1 : w.cell? ⟨b, 1, none⟩ = some (.int .i64 y)) :
    Calls Try.prog 157 #[.slice (some ⟨b, 0, none⟩) 2 c] w fun e w' => e = .returned (.int .i64 (orI x y)) ∧ w = w' := by
  go_enter Try.func157, Try.ntmps157
  go_wp2
  go_loopw [8] (fun i wr => ∃ k : Nat, k ≤ 2 ∧ i = .int .i64 k ∧ (1 ≤ k → x = 0) ∧ (2 ≤ k → y = 0) ∧ w = wr) (fun i _ => 2 - (intOf i).toNat)
  case atStart => exact ⟨0, Nat.zero_le _, rfl, fun h => by omega, fun h => by omega, rfl⟩
  case round =>
    obtain ⟨k, hk, rfl, hx, hy, rfl⟩ := hrel
    by_cases k0 : k = 0
    · subst k0
      by_cases x0 : x = 0
      · subst x0
        clear hx hy
        go_wp2
        exact ⟨⟨1, by omega, rfl, fun _ => trivial, fun h => by omega, trivial⟩, by simp [intOf]⟩
      · have E := Lib.hid (show orI x y = x by unfold orI; rw [if_neg x0])
        clear hx hy
        go_wp2
        go_ret
        exact ⟨ret_int E.out.symm, rfl⟩
    · by_cases k1 : k = 1
      · subst k1
        obtain rfl := hx (by omega)
        by_cases y0 : y = 0
        · subst y0
          go_wp2
          exact ⟨⟨2, by omega, rfl, fun _ => trivial, fun _ => trivial, trivial⟩, by simp [intOf]⟩
        · have E := Lib.hid (show orI 0 y = y by unfold orI; rw [if_pos rfl])
          go_wp2
          go_ret
          exact ⟨ret_int E.out.symm, rfl⟩
      · obtain rfl : k = 2 := by omega
        obtain rfl := hx (by omega)
        obtain rfl := hy (by omega)
        have E := Lib.hid (show orI 0 0 = 0 by unfold orI; rw [if_pos rfl])
        go_wp2
        go_ret
        exact ⟨ret_int E.out.symm, rfl⟩
end Go.Proofs.Ytolodncpegajkaa
namespace Go.Proofs.Ytolodncpegajkaa
set_option linter.all false
open Go.RowKit
def revP (ps : List Pt) : List Pt := ps.reverse
end Go.Proofs.Ytolodncpegajkaa
namespace Go.Proofs.Ytolodncpegajkaa
set_option linter.all false
open Go.RowKit
theorem flatR (o : List Pt) : List.take (o.length * 2) (List.drop 0 (flat o)) = flat o := by rw [List.drop_zero, flat_all]
def ERv : Env := tabE B0
theorem ERv_ok : EnvOk Try.prog ERv := tabE_ok B0_ok
noncomputable def c_rvd : Code := ((loopsOf (codeOf Try.f122))[0]?).getD .skip
def k_rvd : Ex → List Nat := keeps [0, 3, 4] [(0, [3])] [2]
def s_rvd (ps : List Pt) : Nat × (List Pt) → St := fun (m, o) => ⟨[.slice (some ⟨0, 0, none⟩) ps.length ps.length, topV, topV, .slice (some ⟨2, 0, none⟩) o.length o.length, .int .i64 ((m : Int) - 1), topV, topV, topV, topV, topV, topV, topV, topV, topV, topV, topV, topV, topV, topV, topV, topV], [some ⟨.view, .ints (flat ps)⟩, some ⟨.dead, .vals []⟩, some ⟨.row 37 2, .ints (flat o)⟩]⟩
def re_rvd : Nat × (List Pt) → Ex := fun _ => .exit 0
def rs_rvd (ps : List Pt) : Nat × (List Pt) → St := fun (m, o) => ⟨[topV, topV, topV, .slice (some ⟨2, 0, none⟩) (revP ps).length (revP ps).length, topV, topV, topV, topV, topV, topV, topV, topV, topV, topV, topV, topV, topV, topV, topV, topV, topV], [some ⟨.view, .ints (flat ps)⟩, some ⟨.dead, .vals []⟩, some ⟨.row 37 2, .ints (flat (revP ps))⟩]⟩
set_option maxRecDepth 100000 in
theorem tr_rvd (ps : List Pt) (m : Nat) (o : List Pt) : bodyL Try.prog ERv 30 12 noL 1 c_rvd k_rvd 16 (s_rvd ps (m, o)) = brT (decide (0 ≤ (↑m : Int) - 1)) (.need ((0 : Int) ≤ (↑m : Int) - (1 : Int) ∧ (↑m : Int) - (1 : Int) < (↑ps.length : Int)) (.need ((0 : Nat) + ((↑m : Int) - (1 : Int)).toNat * (2 : Nat) + (2 : Nat) ≤ (flat ps).length) (.need ((o.length + (1 : Nat)) * (16 : Nat) ≤ (140737488355328 : Nat) ∧ o.length + (1 : Nat) ≤ (1000000 : Nat)) (.need ((0 : Nat) + o.length * (2 : Nat) ≤ (flat o).length) (.leaf .normal ⟨[.slice (some ⟨0, 0, none⟩) (ps.length) (ps.length), topV, topV, .slice (some ⟨4, 0, none⟩) (o.length + 1) (o.length + 1), .int .i64 (IntKind.i64.wrap ((↑m : Int) - 1 - 1)), topV, topV, topV, topV, topV, topV, topV, topV, topV, topV, topV, topV, topV, topV, topV, topV], [some ⟨.view, .ints (flat ps)⟩, some deadB, some deadB, some ⟨.row 37 2, .vals [.int .i64 ((flat ps).getD (0 + ((↑m : Int) - 1).toNat * 2) 0), .int .i64 ((flat ps).getD (0 + ((↑m : Int) - 1).toNat * 2 + 1) 0)]⟩, some ⟨.row 37 2, .ints (List.take (o.length * 2) (List.drop 0 (flat o)) ++ [(flat ps).getD (0 + ((↑m : Int) - 1).toNat * 2) 0, (flat ps).getD (0 + ((↑m : Int) - 1).toNat * 2 + 1) 0])⟩]⟩))))) (.leaf (.exit 0) ⟨[topV, topV, topV, .slice (some ⟨2, 0, none⟩) (o.length) (o.length), topV, topV, topV, topV, topV, topV, topV, topV, topV, topV, topV, topV, topV, topV, topV, topV, topV], [some ⟨.view, .ints (flat ps)⟩, some deadB, some ⟨.row 37 2, .ints (flat o)⟩]⟩) := by kernel_rfl
set_option maxRecDepth 100000 in
theorem nl_rvd : loopsOf c_rvd = [] := by kernel_rfl
def inv_rvd (ps : List Pt) : Nat × (List Pt) → Prop := fun (m, o) => m ≤ ps.length ∧ o = (ps.drop m).reverse
def me_rvd (ps : List Pt) : Nat × (List Pt) → Nat := fun (m, o) => m
/-- A round of this loop. -/
def Round_rvd (ps : List Pt) : Prop := ∀ xx : Nat × (List Pt), inv_rvd ps xx → (bodyL Try.prog ERv 30 12 noL 1 c_rvd k_rvd 16 (s_rvd ps xx)).ok (RoundEnd 2 (s_rvd ps) (inv_rvd ps) (me_rvd ps) re_rvd (rs_rvd ps) xx) (fun _ _ => False)
def e_rvd (s : St) (k : Ex → St → Tree) : Option Tree := match Nat.beq s.tmps.length 21, pickL s.tmps [0, 3, 4], s.mem with
  | true, [.slice (some ⟨0, 0, none⟩) n _, .slice (some ⟨1, 0, none⟩) z _, .int .i64 i0], [some ⟨.view, .ints xs⟩, some ⟨.row 37 2, .vals []⟩] => some (needs [i0 = (n : Int) - 1, z = 0, xs.length = n * 2, n ≤ 100000] (k (.exit 0) ⟨[topV, topV, topV, .slice (some ⟨2, 0, none⟩) (revP (ptsA n xs)).length (revP (ptsA n xs)).length, topV, topV, topV, topV, topV, topV, topV, topV, topV, topV, topV, topV, topV, topV, topV, topV, topV], [some ⟨.view, .ints xs⟩, some ⟨.dead, .vals []⟩, some ⟨.row 37 2, .ints (flat (revP (ptsA n xs)))⟩]⟩))
  | _, _, _ => none
theorem rvd_step {ps : List Pt} {m : Nat} (h : m < ps.length) : (ps.drop (m + 1)).reverse ++ [ps.getD m (0, 0)] = (ps.drop m).reverse := by
  rw [drop_cons h (0, 0), List.reverse_cons]
set_option maxRecDepth 100000 in
theorem round_rvd (ps : List Pt) (h : ps.length ≤ 100000) : Round_rvd ps := by
  rintro ⟨m, o⟩ ⟨h1, rfl⟩
  rw [tr_rvd]
  have hl : (ps.drop m).reverse.length = ps.length - m := by simp
  refine brT_ok.2 ⟨fun hlt => ?_, fun hge => ?_⟩
  · have hlt := of_decide_eq_true hlt
    obtain ⟨m, rfl⟩ : ∃ k, m = k + 1 := ⟨m - 1, by omega⟩
    have j1 : (((m + 1 : Nat) : Int) - 1).toNat = m := by omega
    have w : IntKind.i64.wrap (((m + 1 : Nat) : Int) - 1 - 1) = (m : Int) - 1 := by rw [wr (by omega)]; omega
    have hs := rvd_step (ps := ps) (m := m) (by omega)
    have fs : flat (ps.drop (m + 1)).reverse ++ [(ps.getD m (0, 0)).1, (ps.getD m (0, 0)).2] = flat (ps.drop m).reverse := by
      rw [flat_snoc, ← hs]
    simp only [j1, w, Nat.zero_add, flat_get0, flat_get1, flat_length, flatR, fs]
    refine ⟨by omega, by omega, ⟨by omega, by omega⟩, by omega, (m, (ps.drop m).reverse), [some 4], ⟨by omega, rfl⟩, ?_, rfl, by simp only [rs_rvd], ?_⟩
    · show m < m + 1; omega
    · have e : (ps.drop (m + 1)).reverse.length + 1 = (ps.drop m).reverse.length := by rw [← hs]; simp
      rw [e]
      repeat' (first | exact True.intro | exact rfl | exact fun _ => rfl | (simp; done) | refine And.intro ?_ ?_)
  · have hge := of_decide_eq_false hge
    obtain rfl : m = 0 := by omega
    refine ⟨rfl, [some 2], ?_⟩
    simp only [rs_rvd, revP, List.drop_zero]
    repeat' (first | exact True.intro | exact rfl | exact fun _ => rfl | (simp; done) | refine And.intro ?_ ?_)
set_option maxRecDepth 100000 in
theorem lg_rvd : LoopE Try.prog e_rvd c_rvd := by
  intro s k t F H hlt ht
  unfold e_rvd at hlt
  split at hlt
  rotate_left
  · cases hlt
  rename_i hlen hpick hmem
  obtain ⟨tmps, mem⟩ := s
  simp only at hlen hpick hmem
  subst hmem
  obtain rfl := Option.some.inj hlt
  obtain ⟨⟨rfl, rfl, h1, h3, _⟩, ht2⟩ := needs_ok ht
  clear ht hlt
  obtain ⟨ps, rfl, rfl⟩ := even_flat h1
  rw [ptsA_flat] at ht2
  refine ⟨_, _, ht2, loop_run2 mixed ERv_ok (s_rvd ps) (inv_rvd ps) (me_rvd ps) re_rvd (rs_rvd ps) k_rvd (fun _ => rfl) (noLoops nl_rvd) (round_rvd ps h3) (x := (ps.length, [])) ⟨Nat.le_refl _, by rw [List.drop_length]; rfl⟩ (π := [some 1]) rfl ?_⟩
  refine ⟨rfl, rfl, ?_, wvs_spread' [0, 3, 4] hlen rfl ?_⟩
  · repeat' (first | exact True.intro | exact rfl | exact wv_top _ _ | exact fun _ => rfl | assumption | exact Eq.symm (by assumption) | exact vI0 rfl | refine And.intro ?_ ?_)
  · rw [hpick]
    repeat' (first | exact True.intro | exact rfl | exact wv_top _ _ | exact fun _ => rfl | assumption | exact Eq.symm (by assumption) | exact vI0 rfl | refine And.intro ?_ ?_)
theorem Lr_rvd {fn : Func} (hf : Try.prog.funcs[122]? = some fn) : LoopsGood Try.prog (lt1 e_rvd) 0 (codeOf fn) := by
  obtain rfl := fn_is Try.func122 hf
  exact lt1_good lg_rvd
def LRv : FuncId → LT := fun f => match f with
  | 122 => lt1 e_rvd
  | _ => noL
def ERw : Env := mkE B0 (fun _ _ => none) LRv
theorem ERw_ok : EnvOk Try.prog ERw := mkEOk B0_ok (fun _ _ _ _ _ h => (by cases h)) (by
  intro f fn hf
  unfold LRv
  split
  all_goals first | with_reducible exact Lr_rvs hf | with_reducible exact Lr_rvd hf | exact noL_good)
set_option maxRecDepth 100000 in
theorem tr_rdF (ps : List Pt) : bodyX Try.prog ERw 30 12 122 [.row ps.length (.ints (flat ps))] = .need (IntKind.i64.wrap ((↑ps.length : Int) - (1 : Int)) = (↑ps.length : Int) - (1 : Int)) (.need ((0 : Nat) = (0 : Nat)) (.need ((flat ps).length = ps.length * (2 : Nat)) (.need (ps.length ≤ (100000 : Nat)) (.fin (.slice (some ⟨2, 0, none⟩) ((revP (ptsA ps.length (flat ps))).length) ((revP (ptsA ps.length (flat ps))).length)) [some ⟨.view, .ints (flat ps)⟩, some deadB, some ⟨.row 37 2, .ints (flat (revP (ptsA ps.length (flat ps))))⟩])))) := by kernel_rfl
theorem resR_rvd {ps : List Pt} (h : ps.length ≤ 100000) : ResR Try.prog 122 [.row ps.length (.ints (flat ps))] (rowP (revP ps)) (blkP (revP ps)) := by
  refine bodyX_resR mixed ERw_ok (m := 30) (n := 12) rfl ?_
  rw [tr_rdF]
  simp only [ptsA_flat]
  exact ⟨by rw [wr (by omega)], trivial, flat_length ps, h, some 2, ⟨rfl, rfl, rfl⟩, rfl, rfl, rfl⟩
end Go.Proofs.Ytolodncpegajkaa
