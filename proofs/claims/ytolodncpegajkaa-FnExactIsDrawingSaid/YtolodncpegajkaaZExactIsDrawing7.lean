/-
  Texts that the proof needs, merged. Written by an AI agent.
-/
import Derived.Orders
import Derived.Below
import Derived.OrdersIn
import Derived.Deep.LoopGhost
import Derived.WalkKit
import Derived.Laws.CopyRow
import Derived.Laws.AppendOwn
import Derived.Laws.Slices
import Derived.Laws.MakeOwn
import Derived.Test.YtolodncpegajkaaRows
import Derived.ProofKit
import Derived.OpenShut
import Derived.Carry
import Derived.IntWalk
import Derived.Test.YtolodncpegajkaaProg
import Derived.WalkSpells
import Derived.WalkLawsBesides
import Derived.Lib.Hide
import Derived.Deep.QuietTactic
import Derived.BigQuiet
import Derived.KernelRfl
import Derived.Deep.RegionHeld3
import Derived.LoopTactic
import Derived.Laws.StructEq
import Derived.Laws.Tables
import Derived.RangeFuncNested
import Derived.RangeFuncLeaves
import Derived.Deep.Slices
import Derived.Deep.Fields
import Derived.ChangeSame
import Derived.Deep.DeepCutAuto
import Derived.Test.YtolodncpegajkaaZExactIsDrawing6
namespace Go.Proofs.Ytolodncpegajkaa
set_option linter.all false
open Go.RowKit
theorem allQ_add (P : Nat → Bool) : ∀ (m i k : Nat), allQ P i (m + k) = (allQ P i m && allQ P (i + m) k)
  | 0, i, k => by simp [allQ]
  | m + 1, i, k => by
    have ih := allQ_add P m (i + 1) k
    rw [show m + 1 + k = (m + k) + 1 by omega]
    simp only [allQ]
    rw [ih, Bool.and_assoc, show i + 1 + m = i + (m + 1) by omega]
noncomputable def c_dmI : Code := ((loopsOf (codeOf Try.f27))[1]?).getD .skip
def k_dmI : Ex → List Nat := keeps [0, 3, 4] [(2, [0, 3]), (1, [0, 3]), (0, [])] [2]
def s_dmI (xs : List Int) (n i : Nat) : Nat → St := fun j => ⟨(.slice (some ⟨0, 0, none⟩) n n :: topV :: topV :: .int .i64 i :: .int .i64 (i + 1 + j : Nat) :: topV :: topV :: topV :: topV :: topV :: topV :: topV :: topV :: topV :: topV :: topV :: topV :: topV :: topV :: topV :: topV :: topV :: topV :: topV :: topV :: topV :: topV :: topV :: topV :: topV :: topV :: topV :: topV :: topV :: topV :: topV :: topV :: topV :: topV :: topV :: topV :: topV :: topV :: topV :: topV :: topV :: topV :: topV :: topV :: topV :: []), [some ⟨.view, .ints xs⟩]⟩
def re_dmI (xs : List Int) (n i : Nat) : Nat → Ex := fun j => bif allQ (dwQ xs n) (offR n 0 i + j) (n - (i + 1 + j)) then .exit 2 else .ret
def rs_dmI (xs : List Int) (n i : Nat) : Nat → St := fun j => bif allQ (dwQ xs n) (offR n 0 i + j) (n - (i + 1 + j)) then ⟨(.slice (some ⟨0, 0, none⟩) n n :: topV :: topV :: .int .i64 i :: topV :: topV :: topV :: topV :: topV :: topV :: topV :: topV :: topV :: topV :: topV :: topV :: topV :: topV :: topV :: topV :: topV :: topV :: topV :: topV :: topV :: topV :: topV :: topV :: topV :: topV :: topV :: topV :: topV :: topV :: topV :: topV :: topV :: topV :: topV :: topV :: topV :: topV :: topV :: topV :: topV :: topV :: topV :: topV :: topV :: topV :: []), [some ⟨.view, .ints xs⟩]⟩ else ⟨(topV :: topV :: .bool false :: topV :: topV :: topV :: topV :: topV :: topV :: topV :: topV :: topV :: topV :: topV :: topV :: topV :: topV :: topV :: topV :: topV :: topV :: topV :: topV :: topV :: topV :: topV :: topV :: topV :: topV :: topV :: topV :: topV :: topV :: topV :: topV :: topV :: topV :: topV :: topV :: topV :: topV :: topV :: topV :: topV :: topV :: topV :: topV :: topV :: topV :: topV :: []), [some ⟨.view, .ints xs⟩]⟩
set_option maxRecDepth 100000 in
theorem tr_dmI (xs : List Int) (n i : Nat) (j : Nat) : bodyL Try.prog EDw0 30 12 noL 2 c_dmI k_dmI 1 (s_dmI xs n i j) = brT (decide ((↑(i + 1 + j) : Int) < (↑n : Int))) (.need (ptB (xs.getD ((0 : Nat) + (↑i : Int).toNat * (4 : Nat)) (0 : Int)) (xs.getD ((0 : Nat) + (↑i : Int).toNat * (4 : Nat) + (1 : Nat)) (0 : Int)) = true) (.need (ptB (xs.getD ((0 : Nat) + (↑i : Int).toNat * (4 : Nat) + (1 : Nat) + (1 : Nat)) (0 : Int)) (xs.getD ((0 : Nat) + (↑i : Int).toNat * (4 : Nat) + (1 : Nat) + (1 : Nat) + (1 : Nat)) (0 : Int)) = true) (.need (ptB (xs.getD ((0 : Nat) + (↑(i + (1 : Nat) + j) : Int).toNat * (4 : Nat)) (0 : Int)) (xs.getD ((0 : Nat) + (↑(i + (1 : Nat) + j) : Int).toNat * (4 : Nat) + (1 : Nat)) (0 : Int)) = true) (.need (ptB (xs.getD ((0 : Nat) + (↑(i + (1 : Nat) + j) : Int).toNat * (4 : Nat) + (1 : Nat) + (1 : Nat)) (0 : Int)) (xs.getD ((0 : Nat) + (↑(i + (1 : Nat) + j) : Int).toNat * (4 : Nat) + (1 : Nat) + (1 : Nat) + (1 : Nat)) (0 : Int)) = true) (.need ((0 : Int) ≤ (↑i : Int) ∧ (↑i : Int) < (↑n : Int)) (.need ((0 : Nat) + (↑i : Int).toNat * (4 : Nat) + (4 : Nat) ≤ xs.length) (.need ((0 : Int) ≤ (↑(i + (1 : Nat) + j) : Int) ∧ (↑(i + (1 : Nat) + j) : Int) < (↑n : Int)) (.need ((0 : Nat) + (↑(i + (1 : Nat) + j) : Int).toNat * (4 : Nat) + (4 : Nat) ≤ xs.length) (brT (!relA (xs.getD (0 + (↑i : Int).toNat * 4) 0) (xs.getD (0 + (↑i : Int).toNat * 4 + 1) 0) (xs.getD (0 + (↑i : Int).toNat * 4 + 1 + 1) 0) (xs.getD (0 + (↑i : Int).toNat * 4 + 1 + 1 + 1) 0) (xs.getD (0 + (↑(i + 1 + j) : Int).toNat * 4) 0) (xs.getD (0 + (↑(i + 1 + j) : Int).toNat * 4 + 1) 0) (xs.getD (0 + (↑(i + 1 + j) : Int).toNat * 4 + 1 + 1) 0) (xs.getD (0 + (↑(i + 1 + j) : Int).toNat * 4 + 1 + 1 + 1) 0) == 0) (brT (!relA (xs.getD (0 + (↑i : Int).toNat * 4) 0) (xs.getD (0 + (↑i : Int).toNat * 4 + 1) 0) (xs.getD (0 + (↑i : Int).toNat * 4 + 1 + 1) 0) (xs.getD (0 + (↑i : Int).toNat * 4 + 1 + 1 + 1) 0) (xs.getD (0 + (↑(i + 1 + j) : Int).toNat * 4) 0) (xs.getD (0 + (↑(i + 1 + j) : Int).toNat * 4 + 1) 0) (xs.getD (0 + (↑(i + 1 + j) : Int).toNat * 4 + 1 + 1) 0) (xs.getD (0 + (↑(i + 1 + j) : Int).toNat * 4 + 1 + 1 + 1) 0) == 1) (.leaf .ret ⟨(topV :: topV :: .bool (false) :: topV :: topV :: topV :: topV :: topV :: topV :: topV :: topV :: topV :: topV :: topV :: topV :: topV :: topV :: topV :: topV :: topV :: topV :: topV :: topV :: topV :: topV :: topV :: topV :: topV :: topV :: topV :: topV :: topV :: topV :: topV :: topV :: topV :: topV :: topV :: topV :: topV :: topV :: topV :: topV :: topV :: topV :: topV :: topV :: topV :: topV :: topV :: []), [some ⟨.view, .ints (xs)⟩]⟩) (.need ((0 : Int) ≤ (↑i : Int) ∧ (↑i : Int) < (↑n : Int)) (.need ((0 : Nat) + (↑i : Int).toNat * (4 : Nat) + (4 : Nat) ≤ xs.length) (.need ((0 : Int) ≤ (↑(i + (1 : Nat) + j) : Int) ∧ (↑(i + (1 : Nat) + j) : Int) < (↑n : Int)) (.need ((0 : Nat) + (↑(i + (1 : Nat) + j) : Int).toNat * (4 : Nat) + (4 : Nat) ≤ xs.length) (brT (!shB (xs.getD (0 + (↑i : Int).toNat * 4) 0) (xs.getD (0 + (↑i : Int).toNat * 4 + 1) 0) (xs.getD (0 + (↑i : Int).toNat * 4 + 1 + 1) 0) (xs.getD (0 + (↑i : Int).toNat * 4 + 1 + 1 + 1) 0) (xs.getD (0 + (↑(i + 1 + j) : Int).toNat * 4) 0) (xs.getD (0 + (↑(i + 1 + j) : Int).toNat * 4 + 1) 0) (xs.getD (0 + (↑(i + 1 + j) : Int).toNat * 4 + 1 + 1) 0) (xs.getD (0 + (↑(i + 1 + j) : Int).toNat * 4 + 1 + 1 + 1) 0)) (.leaf .ret ⟨(topV :: topV :: .bool (false) :: topV :: topV :: topV :: topV :: topV :: topV :: topV :: topV :: topV :: topV :: topV :: topV :: topV :: topV :: topV :: topV :: topV :: topV :: topV :: topV :: topV :: topV :: topV :: topV :: topV :: topV :: topV :: topV :: topV :: topV :: topV :: topV :: topV :: topV :: topV :: topV :: topV :: topV :: topV :: topV :: topV :: topV :: topV :: topV :: topV :: topV :: topV :: []), [some ⟨.view, .ints (xs)⟩]⟩) (.leaf .normal ⟨(.slice (some ⟨0, 0, none⟩) (n) (n) :: topV :: topV :: .int .i64 ((↑i : Int)) :: .int .i64 (IntKind.i64.wrap ((↑(i + 1 + j) : Int) + 1)) :: topV :: topV :: topV :: topV :: topV :: topV :: topV :: topV :: topV :: topV :: topV :: topV :: topV :: topV :: topV :: topV :: topV :: topV :: topV :: topV :: topV :: topV :: topV :: topV :: topV :: topV :: topV :: topV :: topV :: topV :: topV :: topV :: topV :: topV :: topV :: topV :: topV :: topV :: topV :: topV :: topV :: topV :: topV :: topV :: topV :: []), [some ⟨.view, .ints (xs)⟩]⟩))))))) (.leaf .normal ⟨(.slice (some ⟨0, 0, none⟩) (n) (n) :: topV :: topV :: .int .i64 ((↑i : Int)) :: .int .i64 (IntKind.i64.wrap ((↑(i + 1 + j) : Int) + 1)) :: topV :: topV :: topV :: topV :: topV :: topV :: topV :: topV :: topV :: topV :: topV :: topV :: topV :: topV :: topV :: topV :: topV :: topV :: topV :: topV :: topV :: topV :: topV :: topV :: topV :: topV :: topV :: topV :: topV :: topV :: topV :: topV :: topV :: topV :: topV :: topV :: topV :: topV :: topV :: topV :: topV :: topV :: topV :: topV :: topV :: []), [some ⟨.view, .ints (xs)⟩]⟩)))))))))) (.leaf (.exit 2) ⟨(.slice (some ⟨0, 0, none⟩) (n) (n) :: topV :: topV :: .int .i64 ((↑i : Int)) :: topV :: topV :: topV :: topV :: topV :: topV :: topV :: topV :: topV :: topV :: topV :: topV :: topV :: topV :: topV :: topV :: topV :: topV :: topV :: topV :: topV :: topV :: topV :: topV :: topV :: topV :: topV :: topV :: topV :: topV :: topV :: topV :: topV :: topV :: topV :: topV :: topV :: topV :: topV :: topV :: topV :: topV :: topV :: topV :: topV :: topV :: []), [some ⟨.view, .ints (xs)⟩]⟩) := by kernel_rfl
set_option maxRecDepth 100000 in
theorem nl_dmI : loopsOf c_dmI = [] := by kernel_rfl
def inv_dmI (xs : List Int) (n i : Nat) : Nat → Prop := fun j => i + 1 + j ≤ n
def me_dmI (xs : List Int) (n i : Nat) : Nat → Nat := fun j => n - (i + 1 + j)
/-- A round of this loop. -/
def Round_dmI (xs : List Int) (n i : Nat) : Prop := ∀ xx : Nat, inv_dmI xs n i xx → (bodyL Try.prog EDw0 30 12 noL 2 c_dmI k_dmI 1 (s_dmI xs n i xx)).ok (RoundEnd 1 (s_dmI xs n i) (inv_dmI xs n i) (me_dmI xs n i) (re_dmI xs n i) (rs_dmI xs n i) xx) (fun _ _ => False)
def e_dmI (s : St) (k : Ex → St → Tree) : Option Tree := match Nat.beq s.tmps.length 50, pickL s.tmps [0, 3, 4], s.mem with
  | true, [.slice (some ⟨0, 0, none⟩) n _, .int .i64 ii, .int .i64 kk], [some ⟨.view, .ints xs⟩] => some (needs [0 ≤ ii, kk = ii + 1, xs.length = n * 4, n ≤ 12, vsB n xs = true, ii < n] (brT (allQ (dwQ xs n) (offR n 0 ii.toNat) (n - (ii.toNat + 1))) (k (.exit 2) ⟨(.slice (some ⟨0, 0, none⟩) n n :: topV :: topV :: .int .i64 ii :: topV :: topV :: topV :: topV :: topV :: topV :: topV :: topV :: topV :: topV :: topV :: topV :: topV :: topV :: topV :: topV :: topV :: topV :: topV :: topV :: topV :: topV :: topV :: topV :: topV :: topV :: topV :: topV :: topV :: topV :: topV :: topV :: topV :: topV :: topV :: topV :: topV :: topV :: topV :: topV :: topV :: topV :: topV :: topV :: topV :: topV :: []), [some ⟨.view, .ints xs⟩]⟩) (k .ret ⟨(topV :: topV :: .bool false :: topV :: topV :: topV :: topV :: topV :: topV :: topV :: topV :: topV :: topV :: topV :: topV :: topV :: topV :: topV :: topV :: topV :: topV :: topV :: topV :: topV :: topV :: topV :: topV :: topV :: topV :: topV :: topV :: topV :: topV :: topV :: topV :: topV :: topV :: topV :: topV :: topV :: topV :: topV :: topV :: topV :: topV :: topV :: topV :: topV :: topV :: topV :: []), [some ⟨.view, .ints xs⟩]⟩)))
  | _, _, _ => none
set_option maxRecDepth 100000 in
theorem round_dmI (xs : List Int) (n i : Nat) (hx : xs.length = n * 4) (h : n ≤ 12) (hv : vsB n xs = true) (hi : i < n) : Round_dmI xs n i := by
  intro j h1
  have h1 : i + 1 + j ≤ n := h1
  rw [tr_dmI]
  simp only [Int.toNat_natCast, Nat.zero_add]
  refine brT_ok.2 ⟨fun hlt => ?_, fun hge => ?_⟩
  · have hlt : i + 1 + j < n := by have := of_decide_eq_true hlt; omega
    have ep : prA n (offR n 0 i + j) = (i, i + 1 + j) := by
      have := prA_at (n := n) (a := i) (b := i + 1 + j) (by omega) hlt
      rwa [show i + 1 + j - i - 1 = j by omega] at this
    have er : relA (xs.getD (i * 4) 0) (xs.getD (i * 4 + 1) 0) (xs.getD (i * 4 + 1 + 1) 0) (xs.getD (i * 4 + 1 + 1 + 1) 0) (xs.getD ((i + 1 + j) * 4) 0) (xs.getD ((i + 1 + j) * 4 + 1) 0) (xs.getD ((i + 1 + j) * 4 + 1 + 1) 0) (xs.getD ((i + 1 + j) * 4 + 1 + 1 + 1) 0) = rl4V xs i (i + 1 + j) := (rl4_A hv hi hlt).symm
    have es : shB (xs.getD (i * 4) 0) (xs.getD (i * 4 + 1) 0) (xs.getD (i * 4 + 1 + 1) 0) (xs.getD (i * 4 + 1 + 1 + 1) 0) (xs.getD ((i + 1 + j) * 4) 0) (xs.getD ((i + 1 + j) * 4 + 1) 0) (xs.getD ((i + 1 + j) * 4 + 1 + 1) 0) (xs.getD ((i + 1 + j) * 4 + 1 + 1 + 1) 0) = sh4 xs i (i + 1 + j) := rfl
    have hd : dwQ xs n (offR n 0 i + j) = (rl4V xs i (i + 1 + j) == 0 || (rl4V xs i (i + 1 + j) == 1 && sh4 xs i (i + 1 + j))) := by
      unfold dwQ
      rw [ep]
    have st : allQ (dwQ xs n) (offR n 0 i + j) (n - (i + 1 + j)) = (dwQ xs n (offR n 0 i + j) && allQ (dwQ xs n) (offR n 0 i + (j + 1)) (n - (i + 1 + (j + 1)))) := by
      rw [show n - (i + 1 + j) = (n - (i + 1 + (j + 1))) + 1 by omega]
      rfl
    obtain ⟨p1, p2⟩ := slQ_pt (vs_seg hv hi)
    obtain ⟨p3, p4⟩ := slQ_pt (vs_seg hv hlt)
    rw [er, es, wsucc (n := n) hlt (by omega)]
    generalize rl4V xs i (i + 1 + j) = r at *
    generalize sh4 xs i (i + 1 + j) = sh at *
    have no : dwQ xs n (offR n 0 i + j) = false → RoundEnd 1 (s_dmI xs n i) (inv_dmI xs n i) (me_dmI xs n i) (re_dmI xs n i) (rs_dmI xs n i) j .ret ⟨[topV, topV, .bool false, topV, topV, topV, topV, topV, topV, topV, topV, topV, topV, topV, topV, topV, topV, topV, topV, topV, topV, topV, topV, topV, topV, topV, topV, topV, topV, topV, topV, topV, topV, topV, topV, topV, topV, topV, topV, topV, topV, topV, topV, topV, topV, topV, topV, topV, topV, topV], [some ⟨.view, .ints xs⟩]⟩ := fun hb => by
      have e : allQ (dwQ xs n) (offR n 0 i + j) (n - (i + 1 + j)) = false := by rw [st, hb]; rfl
      refine ⟨by simp only [re_dmI, e, cond_false], [], ?_⟩
      simp only [rs_dmI, e, cond_false]
      repeat' (first | exact True.intro | exact rfl | exact fun _ => rfl | (simp; done) | refine And.intro ?_ ?_)
    have yes : dwQ xs n (offR n 0 i + j) = true → RoundEnd 1 (s_dmI xs n i) (inv_dmI xs n i) (me_dmI xs n i) (re_dmI xs n i) (rs_dmI xs n i) j .normal ⟨[.slice (some ⟨0, 0, none⟩) n n, topV, topV, .int .i64 i, .int .i64 (i + 1 + j + 1 : Nat), topV, topV, topV, topV, topV, topV, topV, topV, topV, topV, topV, topV, topV, topV, topV, topV, topV, topV, topV, topV, topV, topV, topV, topV, topV, topV, topV, topV, topV, topV, topV, topV, topV, topV, topV, topV, topV, topV, topV, topV, topV, topV, topV, topV, topV], [some ⟨.view, .ints xs⟩]⟩ := fun hb => by
      have e : allQ (dwQ xs n) (offR n 0 i + j) (n - (i + 1 + j)) = allQ (dwQ xs n) (offR n 0 i + (j + 1)) (n - (i + 1 + (j + 1))) := by rw [st, hb]; rfl
      refine ⟨j + 1, [], ?_, ?_, by simp only [re_dmI, e], by simp only [rs_dmI, e], ?_⟩
      · show i + 1 + (j + 1) ≤ n; omega
      · show n - (i + 1 + (j + 1)) < n - (i + 1 + j); omega
      · repeat' (first | exact True.intro | exact rfl | exact fun _ => rfl | (simp; done) | refine And.intro ?_ ?_)
    refine ⟨p1, p2, p3, p4, ⟨by omega, by omega⟩, by omega, ⟨by omega, by omega⟩, by omega, brT_ok.2 ⟨fun c2 => brT_ok.2 ⟨fun c3 => ?_, fun c3 => ⟨⟨by omega, by omega⟩, by omega, ⟨by omega, by omega⟩, by omega, brT_ok.2 ⟨fun c4 => ?_, fun c4 => ?_⟩⟩⟩, fun c2 => ?_⟩⟩
    · refine no ?_
      have c2 : (r == 0) = false := by simpa using c2
      have c3 : (r == 1) = false := by simpa using c3
      rw [hd, c2, c3]
      rfl
    · refine no ?_
      have c2 : (r == 0) = false := by simpa using c2
      have c4 : sh = false := by simpa using c4
      rw [hd, c2, c4, Bool.and_false]
      rfl
    · refine yes ?_
      have c3 : (r == 1) = true := by simpa using c3
      have c4 : sh = true := by simpa using c4
      rw [hd, c3, c4]
      simp
    · refine yes ?_
      have c2 : (r == 0) = true := by simpa using c2
      rw [hd, c2]
      rfl
  · have hge := of_decide_eq_false hge
    have e : allQ (dwQ xs n) (offR n 0 i + j) (n - (i + 1 + j)) = true := by
      rw [show n - (i + 1 + j) = 0 by omega]
      rfl
    refine ⟨by simp only [re_dmI, e, cond_true], [], ?_⟩
    simp only [rs_dmI, e, cond_true]
    repeat' (first | exact True.intro | exact rfl | exact fun _ => rfl | (simp; done) | refine And.intro ?_ ?_)
set_option maxRecDepth 100000 in
theorem lg_dmI : LoopE Try.prog e_dmI c_dmI := by
  intro s k t F H hlt ht
  unfold e_dmI at hlt
  split at hlt
  rotate_left
  · cases hlt
  rename_i hlen hpick hmem
  obtain ⟨tmps, mem⟩ := s
  simp only at hlen hpick hmem
  subst hmem
  obtain rfl := Option.some.inj hlt
  obtain ⟨⟨h0, h1, h2, h3, h4, h5, _⟩, ht2⟩ := needs_ok ht
  clear ht hlt
  obtain ⟨i, rfl⟩ := Int.eq_ofNat_of_zero_le h0
  simp only [Int.toNat_natCast] at ht2
  obtain rfl := h1
  refine ⟨_, _, pick2k ht2, loop_run mixed EDw0_ok (s_dmI _ _ i) (inv_dmI _ _ i) (me_dmI _ _ i) (re_dmI _ _ i) (rs_dmI _ _ i) k_dmI (fun _ => rfl) (noLoops nl_dmI) (round_dmI _ _ i h2 h3 h4 (by omega)) (x := 0) (by show i + 1 + 0 ≤ _; omega) (π := []) rfl ?_⟩
  refine ⟨rfl, rfl, ?_, wvs_spread' [0, 3, 4] hlen rfl ?_⟩
  · repeat' (first | exact True.intro | exact rfl | exact wv_top _ _ | exact fun _ => rfl | assumption | exact Eq.symm (by assumption) | exact vI0 rfl | refine And.intro ?_ ?_)
  · rw [hpick]
    repeat' (first | exact True.intro | exact rfl | exact wv_top _ _ | exact fun _ => rfl | assumption | exact Eq.symm (by assumption) | exact vI0 rfl | refine And.intro ?_ ?_)
def ltDm : LT := fun j s k => match j with
  | 1 => e_dmI s k
  | _ => none
noncomputable def c_dmO : Code := ((loopsOf (codeOf Try.f27))[0]?).getD .skip
def k_dmO : Ex → List Nat := keeps [0, 3] [(0, [])] [2]
def s_dmO (xs : List Int) (n : Nat) : Nat → St := fun i => ⟨(.slice (some ⟨0, 0, none⟩) n n :: topV :: topV :: .int .i64 i :: topV :: topV :: topV :: topV :: topV :: topV :: topV :: topV :: topV :: topV :: topV :: topV :: topV :: topV :: topV :: topV :: topV :: topV :: topV :: topV :: topV :: topV :: topV :: topV :: topV :: topV :: topV :: topV :: topV :: topV :: topV :: topV :: topV :: topV :: topV :: topV :: topV :: topV :: topV :: topV :: topV :: topV :: topV :: topV :: topV :: topV :: []), [some ⟨.view, .ints xs⟩]⟩
def re_dmO (xs : List Int) (n : Nat) : Nat → Ex := fun i => bif allQ (dwQ xs n) (offR n 0 i) (offR n 0 n - offR n 0 i) then .exit 0 else .ret
def rs_dmO (xs : List Int) (n : Nat) : Nat → St := fun i => bif allQ (dwQ xs n) (offR n 0 i) (offR n 0 n - offR n 0 i) then ⟨(topV :: topV :: topV :: topV :: topV :: topV :: topV :: topV :: topV :: topV :: topV :: topV :: topV :: topV :: topV :: topV :: topV :: topV :: topV :: topV :: topV :: topV :: topV :: topV :: topV :: topV :: topV :: topV :: topV :: topV :: topV :: topV :: topV :: topV :: topV :: topV :: topV :: topV :: topV :: topV :: topV :: topV :: topV :: topV :: topV :: topV :: topV :: topV :: topV :: topV :: []), [some ⟨.view, .ints xs⟩]⟩ else ⟨(topV :: topV :: .bool false :: topV :: topV :: topV :: topV :: topV :: topV :: topV :: topV :: topV :: topV :: topV :: topV :: topV :: topV :: topV :: topV :: topV :: topV :: topV :: topV :: topV :: topV :: topV :: topV :: topV :: topV :: topV :: topV :: topV :: topV :: topV :: topV :: topV :: topV :: topV :: topV :: topV :: topV :: topV :: topV :: topV :: topV :: topV :: topV :: topV :: topV :: topV :: []), [some ⟨.view, .ints xs⟩]⟩
set_option maxRecDepth 100000 in
theorem tr_dmO (xs : List Int) (n : Nat) (i : Nat) : bodyL Try.prog EDw0 30 12 ltDm 1 c_dmO k_dmO 1 (s_dmO xs n i) = brT (decide ((↑i : Int) < (↑n : Int))) (.need ((0 : Int) ≤ (↑i : Int)) (.need (IntKind.i64.wrap ((↑i : Int) + (1 : Int)) = (↑i : Int) + (1 : Int)) (.need (xs.length = n * (4 : Nat)) (.need (n ≤ (12 : Nat)) (.need (vsB n xs = true) (.need ((↑i : Int) < (↑n : Int)) (brT (allQ (dwQ xs n) (offR n 0 (↑i : Int).toNat) (n - ((↑i : Int).toNat + 1))) (.leaf .normal ⟨(.slice (some ⟨0, 0, none⟩) (n) (n) :: topV :: topV :: .int .i64 (IntKind.i64.wrap ((↑i : Int) + 1)) :: topV :: topV :: topV :: topV :: topV :: topV :: topV :: topV :: topV :: topV :: topV :: topV :: topV :: topV :: topV :: topV :: topV :: topV :: topV :: topV :: topV :: topV :: topV :: topV :: topV :: topV :: topV :: topV :: topV :: topV :: topV :: topV :: topV :: topV :: topV :: topV :: topV :: topV :: topV :: topV :: topV :: topV :: topV :: topV :: topV :: topV :: []), [some ⟨.view, .ints (xs)⟩]⟩) (.leaf .ret ⟨(topV :: topV :: .bool (false) :: topV :: topV :: topV :: topV :: topV :: topV :: topV :: topV :: topV :: topV :: topV :: topV :: topV :: topV :: topV :: topV :: topV :: topV :: topV :: topV :: topV :: topV :: topV :: topV :: topV :: topV :: topV :: topV :: topV :: topV :: topV :: topV :: topV :: topV :: topV :: topV :: topV :: topV :: topV :: topV :: topV :: topV :: topV :: topV :: topV :: topV :: topV :: []), [some ⟨.view, .ints (xs)⟩]⟩)))))))) (.leaf (.exit 0) ⟨(topV :: topV :: topV :: topV :: topV :: topV :: topV :: topV :: topV :: topV :: topV :: topV :: topV :: topV :: topV :: topV :: topV :: topV :: topV :: topV :: topV :: topV :: topV :: topV :: topV :: topV :: topV :: topV :: topV :: topV :: topV :: topV :: topV :: topV :: topV :: topV :: topV :: topV :: topV :: topV :: topV :: topV :: topV :: topV :: topV :: topV :: topV :: topV :: topV :: topV :: []), [some ⟨.view, .ints (xs)⟩]⟩) := by kernel_rfl
def inv_dmO (xs : List Int) (n : Nat) : Nat → Prop := fun i => i ≤ n
def me_dmO (xs : List Int) (n : Nat) : Nat → Nat := fun i => n - i
/-- A round of this loop. -/
def Round_dmO (xs : List Int) (n : Nat) : Prop := ∀ xx : Nat, inv_dmO xs n xx → (bodyL Try.prog EDw0 30 12 ltDm 1 c_dmO k_dmO 1 (s_dmO xs n xx)).ok (RoundEnd 1 (s_dmO xs n) (inv_dmO xs n) (me_dmO xs n) (re_dmO xs n) (rs_dmO xs n) xx) (fun _ _ => False)
def e_dmO (s : St) (k : Ex → St → Tree) : Option Tree := match Nat.beq s.tmps.length 50, pickL s.tmps [0, 3], s.mem with
  | true, [.slice (some ⟨0, 0, none⟩) n _, .int .i64 ii], [some ⟨.view, .ints xs⟩] => some (needs [ii = 0, xs.length = n * 4, n ≤ 12, vsB n xs = true] (brT (allQ (dwQ xs n) 0 (offR n 0 n)) (k (.exit 0) ⟨(topV :: topV :: topV :: topV :: topV :: topV :: topV :: topV :: topV :: topV :: topV :: topV :: topV :: topV :: topV :: topV :: topV :: topV :: topV :: topV :: topV :: topV :: topV :: topV :: topV :: topV :: topV :: topV :: topV :: topV :: topV :: topV :: topV :: topV :: topV :: topV :: topV :: topV :: topV :: topV :: topV :: topV :: topV :: topV :: topV :: topV :: topV :: topV :: topV :: topV :: []), [some ⟨.view, .ints xs⟩]⟩) (k .ret ⟨(topV :: topV :: .bool false :: topV :: topV :: topV :: topV :: topV :: topV :: topV :: topV :: topV :: topV :: topV :: topV :: topV :: topV :: topV :: topV :: topV :: topV :: topV :: topV :: topV :: topV :: topV :: topV :: topV :: topV :: topV :: topV :: topV :: topV :: topV :: topV :: topV :: topV :: topV :: topV :: topV :: topV :: topV :: topV :: topV :: topV :: topV :: topV :: topV :: topV :: topV :: []), [some ⟨.view, .ints xs⟩]⟩)))
  | _, _, _ => none
set_option maxRecDepth 100000 in
theorem in_dmO : loopsOf c_dmO = [c_dmI] := by kernel_rfl
theorem ltDm_good : LoopsGood Try.prog ltDm 1 c_dmO := by
  intro i d hd s k t F H hlt ht
  rw [in_dmO] at hd
  cases i with
  | zero =>
    obtain rfl : c_dmI = d := by simpa using hd
    exact lg_dmI s k t F H hlt ht
  | succ i => simp at hd
set_option maxRecDepth 100000 in
theorem round_dmO (xs : List Int) (n : Nat) (hx : xs.length = n * 4) (h : n ≤ 12) (hv : vsB n xs = true) : Round_dmO xs n := by
  intro i h1
  have h1 : i ≤ n := h1
  rw [tr_dmO]
  simp only [Int.toNat_natCast]
  refine brT_ok.2 ⟨fun hlt => ?_, fun hge => ?_⟩
  · have hlt : i < n := by have := of_decide_eq_true hlt; omega
    have w : IntKind.i64.wrap ((i : Int) + 1) = ((i + 1 : Nat) : Int) := wsucc (n := n) hlt (by omega)
    have o1 := offR_succ n i 0
    have o2 := offR_mono n (show i + 1 ≤ n by omega)
    have st : allQ (dwQ xs n) (offR n 0 i) (offR n 0 n - offR n 0 i) = (allQ (dwQ xs n) (offR n 0 i) (n - (i + 1)) && allQ (dwQ xs n) (offR n 0 (i + 1)) (offR n 0 n - offR n 0 (i + 1))) := by
      rw [show offR n 0 n - offR n 0 i = (n - (i + 1)) + (offR n 0 n - offR n 0 (i + 1)) by omega, allQ_add, show offR n 0 i + (n - (i + 1)) = offR n 0 (i + 1) by omega]
    rw [w]
    refine ⟨by omega, by omega, hx, h, hv, by omega, brT_ok.2 ⟨fun c => ?_, fun c => ?_⟩⟩
    · have e : allQ (dwQ xs n) (offR n 0 i) (offR n 0 n - offR n 0 i) = allQ (dwQ xs n) (offR n 0 (i + 1)) (offR n 0 n - offR n 0 (i + 1)) := by rw [st, c]; rfl
      refine ⟨i + 1, [], ?_, ?_, by simp only [re_dmO, e], by simp only [rs_dmO, e], ?_⟩
      · show i + 1 ≤ n; omega
      · show n - (i + 1) < n - i; omega
      · repeat' (first | exact True.intro | exact rfl | exact fun _ => rfl | (simp; done) | refine And.intro ?_ ?_)
    · have e : allQ (dwQ xs n) (offR n 0 i) (offR n 0 n - offR n 0 i) = false := by rw [st, c]; rfl
      refine ⟨by simp only [re_dmO, e, cond_false], [], ?_⟩
      simp only [rs_dmO, e, cond_false]
      repeat' (first | exact True.intro | exact rfl | exact fun _ => rfl | (simp; done) | refine And.intro ?_ ?_)
  · have hge := of_decide_eq_false hge
    obtain rfl : i = n := by omega
    have e : allQ (dwQ xs i) (offR i 0 i) (offR i 0 i - offR i 0 i) = true := by
      rw [Nat.sub_self]
      rfl
    refine ⟨by simp only [re_dmO, e, cond_true], [], ?_⟩
    simp only [rs_dmO, e, cond_true]
    repeat' (first | exact True.intro | exact rfl | exact fun _ => rfl | (simp; done) | refine And.intro ?_ ?_)
set_option maxRecDepth 100000 in
theorem lg_dmO : LoopE Try.prog e_dmO c_dmO := by
  intro s k t F H hlt ht
  unfold e_dmO at hlt
  split at hlt
  rotate_left
  · cases hlt
  rename_i hlen hpick hmem
  obtain ⟨tmps, mem⟩ := s
  simp only at hlen hpick hmem
  subst hmem
  obtain rfl := Option.some.inj hlt
  obtain ⟨⟨rfl, h2, h3, h4, _⟩, ht2⟩ := needs_ok ht
  clear ht hlt
  refine ⟨_, _, pick2k ht2, loop_run mixed EDw0_ok (s_dmO _ _) (inv_dmO _ _) (me_dmO _ _) (re_dmO _ _) (rs_dmO _ _) k_dmO (fun _ => rfl) ltDm_good (round_dmO _ _ h2 h3 h4) (x := 0) (Nat.zero_le _) (π := []) rfl ?_⟩
  refine ⟨rfl, rfl, ?_, wvs_spread' [0, 3] hlen rfl ?_⟩
  · repeat' (first | exact True.intro | exact rfl | exact wv_top _ _ | exact fun _ => rfl | assumption | exact Eq.symm (by assumption) | exact vI0 rfl | refine And.intro ?_ ?_)
  · rw [hpick]
    repeat' (first | exact True.intro | exact rfl | exact wv_top _ _ | exact fun _ => rfl | assumption | exact Eq.symm (by assumption) | exact vI0 rfl | refine And.intro ?_ ?_)
end Go.Proofs.Ytolodncpegajkaa
namespace Go.Proofs.Ytolodncpegajkaa
set_option linter.all false
open Go.RowKit
theorem Lr_dmO {fn : Func} (hf : Try.prog.funcs[27]? = some fn) : LoopsGood Try.prog (lt1 e_dmO) 0 (codeOf fn) := by
  obtain rfl := fn_is Try.func27 hf
  exact lt1_good lg_dmO
def LDw : FuncId → LT := fun f => match f with
  | 27 => lt1 e_dmO
  | _ => noL
theorem Gr_dwg {fn : Func} (hf : Try.prog.funcs[28]? = some fn) : RangesGood Try.prog (rt1 10 e_dwg) (codeOf fn) := by
  obtain rfl := fn_is Try.func28 hf
  exact rt1_good (by kernel_rfl) lg_dwg
def GDw : FuncId → RT := fun f => match f with
  | 28 => rt1 10 e_dwg
  | _ => noR
def EDw : Env := withG (mkE TDw RSl1 LDw) GDw
theorem EDw_ok : EnvOk Try.prog EDw := withG_ok (mkEOk TDw_ok RSl1_ok (by
  intro f fn hf
  unfold LDw
  split
  all_goals first | with_reducible exact Lr_dmO hf | exact noL_good)) (by
  intro f fn hf
  unfold GDw
  split
  all_goals first | with_reducible exact Gr_dwg hf | exact noR_good)
set_option maxRecDepth 100000 in
theorem tr_sDw (n : Nat) (xs : List Int) : bodyV Try.prog EDw 30 12 27 [.row n (.ints xs)] = .need ((List.drop (0 : Nat) xs).length = n * (4 : Nat)) (.need (Lim n) (brT (!vsB n (List.drop 0 xs)) (.fin (.bool (false)) []) (.need ((0 : Int) = (0 : Int)) (.need (xs.length = n * (4 : Nat)) (.need (n ≤ (12 : Nat)) (.need (vsB n xs = true) (brT (allQ (dwQ xs n) 0 (offR n 0 n)) (.fin (.bool (true)) []) (.fin (.bool (false)) [])))))))) := by kernel_rfl
set_option maxRecDepth 100000 in
theorem tr_iDw (n : Nat) (xs : List Int) : bodyV Try.prog EDw 30 12 28 [.row n (.ints xs)] = .need ((List.drop (0 : Nat) xs).length = n * (4 : Nat)) (.need (Lim n) (brT (!vsB n (List.drop 0 xs)) (.fin (.bool (false)) []) (.need (n = n) (.need (xs.length = n * (4 : Nat)) (.need (n ≤ (12 : Nat)) (brT (allQ (dwQ xs n) 0 (offR n 0 n)) (.fin (.bool (true)) []) (.fin (.bool (false)) []))))))) := by kernel_rfl
/-- Are the segments a planar drawing? -/
def dwB (n : Nat) (xs : List Int) : Bool := vsB n xs && allQ (dwQ xs n) 0 (offR n 0 n)
theorem res_sDw (n : Nat) (xs : List Int) (hx : xs.length = n * 4) (h : Lim n) : Res Try.prog 27 [.row n (.ints xs)] (.bool (dwB n xs)) := by
  refine bodyV_res mixed EDw_ok (m := 30) (n := 12) rfl ?_
  rw [tr_sDw]
  simp only [List.drop_zero]
  unfold dwB
  rcases hv : vsB n xs with _ | _
  · exact ⟨hx, h, rfl⟩
  · rcases allQ (dwQ xs n) 0 (offR n 0 n) with _ | _
    · exact ⟨hx, h, trivial, hx, vs_12 hv, rfl, rfl⟩
    · exact ⟨hx, h, trivial, hx, vs_12 hv, rfl, rfl⟩
theorem res_iDw (n : Nat) (xs : List Int) (hx : xs.length = n * 4) (h : Lim n) : Res Try.prog 28 [.row n (.ints xs)] (.bool (dwB n xs)) := by
  refine bodyV_res mixed EDw_ok (m := 30) (n := 12) rfl ?_
  rw [tr_iDw]
  simp only [List.drop_zero]
  unfold dwB
  rcases hv : vsB n xs with _ | _
  · exact ⟨hx, h, rfl⟩
  · rcases allQ (dwQ xs n) 0 (offR n 0 n) with _ | _
    · exact ⟨hx, h, trivial, hx, vs_12 hv, rfl⟩
    · exact ⟨hx, h, trivial, hx, vs_12 hv, rfl⟩
def pDw : List DArg → Option (Value × List Prop)
  | [.row n (.ints xs)] => some (.bool (dwB n xs), [xs.length = n * 4, Lim n])
  | _ => none
theorem pDws_ok {ds : List DArg} {v : Value} {C : List Prop} (h : pDw ds = some (v, C)) (hC : AllP C) : Res Try.prog 27 ds v := by
  unfold pDw at h
  split at h
  · obtain ⟨rfl, rfl⟩ : _ ∧ _ := by simpa using h
    exact res_sDw _ _ hC.1 hC.2.1
  · cases h
theorem pDwi_ok {ds : List DArg} {v : Value} {C : List Prop} (h : pDw ds = some (v, C)) (hC : AllP C) : Res Try.prog 28 ds v := by
  unfold pDw at h
  split at h
  · obtain ⟨rfl, rfl⟩ : _ ∧ _ := by simpa using h
    exact res_iDw _ _ hC.1 hC.2.1
  · cases h
def TDwx : Tab := fun f ds => match f with
  | 27 => pDw ds
  | 28 => pDw ds
  | f => TSl2 f ds
theorem TDwx_ok : TabOk Try.prog TDwx := by
  intro f ds v C h hC
  unfold TDwx at h
  (try split at h)
  all_goals first | with_reducible exact pDws_ok h hC | with_reducible exact pDwi_ok h hC | exact TSl2_ok _ _ _ _ h hC
def EDwx : Env := mkE TDwx RSl1 (fun _ => noL)
theorem EDwx_ok : EnvOk Try.prog EDwx := mkEOk TDwx_ok RSl1_ok (fun _ _ _ => noL_good)
set_option maxRecDepth 100000 in
theorem tr_exDw (n : Nat) (xs : List Int) : bodyV Try.prog EDwx 30 12 5 [.row n (.ints xs)] = brT (decide (IntKind.i64.wrap (1048576 - (↑n : Int)) < 0)) (.fin (.bool (true)) []) (brT (decide (IntKind.i64.wrap (1048576 - (↑n : Int)) < 0)) (.fin (.bool (true)) []) (.need ((List.drop (0 : Nat) xs).length = n * (4 : Nat)) (.need (Lim n) (.need ((List.drop (0 : Nat) (List.drop (0 : Nat) xs)).length = n * (4 : Nat)) (.need (Lim n) (.need ((List.drop (0 : Nat) xs).length = n * (4 : Nat)) (.need (Lim n) (.need ((List.drop (0 : Nat) (List.drop (0 : Nat) xs)).length = n * (4 : Nat)) (.need (Lim n) (brT (!dwB n (List.drop 0 (List.drop 0 xs)) == dwB n (List.drop 0 (List.drop 0 xs))) (.fin (.bool (false)) []) (.need ((List.drop (0 : Nat) xs).length = n * (4 : Nat)) (.need (Lim n) (.need (n = n) (.need (List.drop (0 : Nat) (List.drop (0 : Nat) xs) = List.drop (0 : Nat) (List.drop (0 : Nat) xs)) (.need ((List.drop (0 : Nat) (List.drop (0 : Nat) xs)).length = n * (4 : Nat)) (.need (Lim n) (.fin (.bool (true)) []))))))))))))))))) := by kernel_rfl
theorem ExactIsDrawing_res (n : Nat) (xs : List Int) (hx : xs.length = n * 4) (h : (n : Int) ≤ 9223372036854775807) : Res Try.prog 5 [.row n (.ints xs)] (.bool true) := by
  refine bodyV_res mixed EDwx_ok (m := 30) (n := 12) rfl ?_
  rw [tr_exDw]
  simp only [List.drop_zero]
  by_cases hl : (1048576 : Int) - n < 0
  · simp (disch := omega) only [wr]
    simp only [hl, decide_true, brT_t, Tree.ok]
  · have hP : Lim n := by unfold Lim; omega
    generalize dwB n xs = V at *
    simp (disch := omega) only [wr]
    simp only [hl, decide_false, brT_f, Tree.ok, beq_self_eq_true, Bool.not_true]
    cases V
    all_goals repeat' (first | exact True.intro | assumption | omega | exact rfl | refine And.intro ?_ ?_)
end Go.Proofs.Ytolodncpegajkaa
