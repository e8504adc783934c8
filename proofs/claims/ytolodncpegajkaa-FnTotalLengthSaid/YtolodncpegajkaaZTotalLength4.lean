/-
  Texts that the proof needs, merged. Written by an AI agent.
-/
import Derived.Orders
import Derived.Below
import Derived.OrdersIn
import Derived.Deep.LoopGhost
import Derived.WalkKit
import Derived.Laws.CopyRow
import Derived.Laws.AppendOwn
import Derived.Laws.Slices
import Derived.Laws.MakeOwn
import Derived.Test.YtolodncpegajkaaRows
import Derived.ProofKit
import Derived.OpenShut
import Derived.Carry
import Derived.IntWalk
import Derived.Test.YtolodncpegajkaaProg
import Derived.WalkSpells
import Derived.WalkLawsBesides
import Derived.Lib.Hide
import Derived.Deep.QuietTactic
import Derived.BigQuiet
import Derived.KernelRfl
import Derived.Deep.RegionHeld3
import Derived.LoopTactic
import Derived.Laws.StructEq
import Derived.Laws.Tables
import Derived.RangeFuncNested
import Derived.RangeFuncLeaves
import Derived.Deep.Slices
import Derived.Deep.Fields
import Derived.ChangeSame
import Derived.Test.YtolodncpegajkaaZTotalLength3
namespace Go.Proofs.Ytolodncpegajkaa
set_option linter.all false
open Go.RowKit
noncomputable def c_sp0 : Code := ((loopsOf (codeOf Try.f162))[0]?).getD .skip
def k_sp0 : Ex → List Nat := keeps [0, 3, 4, 5] [(0, [0, 3, 4])] [2]
def s_sp0 (xs : List Int) (n : Nat) : Nat → St := fun i => ⟨(.slice (some ⟨0, 0, none⟩) n n :: topV :: topV :: .slice (some ⟨1, 0, none⟩) 0 0 :: .slice (some ⟨3, 0, none⟩) i i :: .int .i64 i :: topV :: topV :: topV :: topV :: topV :: topV :: topV :: topV :: topV :: topV :: topV :: topV :: topV :: topV :: topV :: topV :: topV :: topV :: topV :: topV :: topV :: topV :: topV :: topV :: topV :: topV :: topV :: topV :: topV :: topV :: topV :: topV :: topV :: topV :: topV :: topV :: topV :: topV :: topV :: topV :: topV :: topV :: topV :: topV :: topV :: topV :: topV :: topV :: topV :: topV :: topV :: topV :: topV :: topV :: topV :: topV :: topV :: topV :: topV :: topV :: topV :: topV :: topV :: topV :: topV :: topV :: topV :: topV :: topV :: topV :: topV :: topV :: topV :: topV :: topV :: topV :: topV :: topV :: topV :: topV :: topV :: topV :: topV :: topV :: topV :: topV :: topV :: topV :: topV :: topV :: topV :: topV :: topV :: topV :: topV :: topV :: topV :: topV :: topV :: topV :: topV :: topV :: topV :: topV :: topV :: topV :: topV :: topV :: []), [some ⟨.view, .ints xs⟩, some ⟨.row 41 2, .vals []⟩, some ⟨.dead, .vals []⟩, some ⟨.row 3 1, .ints (ioI i)⟩]⟩
def re_sp0 : Nat → Ex := fun _ => .exit 0
def rs_sp0 (xs : List Int) (n : Nat) : Nat → St := fun i => ⟨(.slice (some ⟨0, 0, none⟩) n n :: topV :: topV :: .slice (some ⟨1, 0, none⟩) 0 0 :: .slice (some ⟨3, 0, none⟩) n n :: topV :: topV :: topV :: topV :: topV :: topV :: topV :: topV :: topV :: topV :: topV :: topV :: topV :: topV :: topV :: topV :: topV :: topV :: topV :: topV :: topV :: topV :: topV :: topV :: topV :: topV :: topV :: topV :: topV :: topV :: topV :: topV :: topV :: topV :: topV :: topV :: topV :: topV :: topV :: topV :: topV :: topV :: topV :: topV :: topV :: topV :: topV :: topV :: topV :: topV :: topV :: topV :: topV :: topV :: topV :: topV :: topV :: topV :: topV :: topV :: topV :: topV :: topV :: topV :: topV :: topV :: topV :: topV :: topV :: topV :: topV :: topV :: topV :: topV :: topV :: topV :: topV :: topV :: topV :: topV :: topV :: topV :: topV :: topV :: topV :: topV :: topV :: topV :: topV :: topV :: topV :: topV :: topV :: topV :: topV :: topV :: topV :: topV :: topV :: topV :: topV :: topV :: topV :: topV :: topV :: topV :: topV :: topV :: topV :: []), [some ⟨.view, .ints xs⟩, some ⟨.row 41 2, .vals []⟩, some ⟨.dead, .vals []⟩, some ⟨.row 3 1, .ints (ioI n)⟩]⟩
set_option maxRecDepth 100000 in
theorem tr_sp0 (xs : List Int) (n : Nat) (i : Nat) : bodyL Try.prog ETl0 30 12 noL 1 c_sp0 k_sp0 16 (s_sp0 xs n i) = brT (decide ((↑i : Int) < (↑n : Int))) (.need ((i + (1 : Nat)) * (8 : Nat) ≤ (140737488355328 : Nat) ∧ i + (1 : Nat) ≤ (1000000 : Nat)) (.need ((0 : Nat) + i * (1 : Nat) ≤ (ioI i).length) (.leaf .normal ⟨(.slice (some ⟨0, 0, none⟩) (n) (n) :: topV :: topV :: .slice (some ⟨1, 0, none⟩) (0) (0) :: .slice (some ⟨5, 0, none⟩) (i + 1) (i + 1) :: .int .i64 (IntKind.i64.wrap ((↑i : Int) + 1)) :: topV :: topV :: topV :: topV :: topV :: topV :: topV :: topV :: topV :: topV :: topV :: topV :: topV :: topV :: topV :: topV :: topV :: topV :: topV :: topV :: topV :: topV :: topV :: topV :: topV :: topV :: topV :: topV :: topV :: topV :: topV :: topV :: topV :: topV :: topV :: topV :: topV :: topV :: topV :: topV :: topV :: topV :: topV :: topV :: topV :: topV :: topV :: topV :: topV :: topV :: topV :: topV :: topV :: topV :: topV :: topV :: topV :: topV :: topV :: topV :: topV :: topV :: topV :: topV :: topV :: topV :: topV :: topV :: topV :: topV :: topV :: topV :: topV :: topV :: topV :: topV :: topV :: topV :: topV :: topV :: topV :: topV :: topV :: topV :: topV :: topV :: topV :: topV :: topV :: topV :: topV :: topV :: topV :: topV :: topV :: topV :: topV :: topV :: topV :: topV :: topV :: topV :: topV :: topV :: topV :: topV :: topV :: topV :: []), [some ⟨.view, .ints (xs)⟩, some ⟨.row 41 2, .vals []⟩, some deadB, some deadB, some ⟨.row 3 1, .vals [.int .i64 ((↑i : Int))]⟩, some ⟨.row 3 1, .ints (List.take (i * 1) (List.drop 0 (ioI i)) ++ [(↑i : Int)])⟩]⟩))) (.leaf (.exit 0) ⟨(.slice (some ⟨0, 0, none⟩) (n) (n) :: topV :: topV :: .slice (some ⟨1, 0, none⟩) (0) (0) :: .slice (some ⟨3, 0, none⟩) (i) (i) :: topV :: topV :: topV :: topV :: topV :: topV :: topV :: topV :: topV :: topV :: topV :: topV :: topV :: topV :: topV :: topV :: topV :: topV :: topV :: topV :: topV :: topV :: topV :: topV :: topV :: topV :: topV :: topV :: topV :: topV :: topV :: topV :: topV :: topV :: topV :: topV :: topV :: topV :: topV :: topV :: topV :: topV :: topV :: topV :: topV :: topV :: topV :: topV :: topV :: topV :: topV :: topV :: topV :: topV :: topV :: topV :: topV :: topV :: topV :: topV :: topV :: topV :: topV :: topV :: topV :: topV :: topV :: topV :: topV :: topV :: topV :: topV :: topV :: topV :: topV :: topV :: topV :: topV :: topV :: topV :: topV :: topV :: topV :: topV :: topV :: topV :: topV :: topV :: topV :: topV :: topV :: topV :: topV :: topV :: topV :: topV :: topV :: topV :: topV :: topV :: topV :: topV :: topV :: topV :: topV :: topV :: topV :: topV :: topV :: []), [some ⟨.view, .ints (xs)⟩, some ⟨.row 41 2, .vals []⟩, some deadB, some ⟨.row 3 1, .ints (ioI i)⟩]⟩) := by kernel_rfl
set_option maxRecDepth 100000 in
theorem nl_sp0 : loopsOf c_sp0 = [] := by kernel_rfl
def inv_sp0 (xs : List Int) (n : Nat) : Nat → Prop := fun i => i ≤ n
def me_sp0 (xs : List Int) (n : Nat) : Nat → Nat := fun i => n - i
/-- A round of this loop. -/
def Round_sp0 (xs : List Int) (n : Nat) : Prop := ∀ xx : Nat, inv_sp0 xs n xx → (bodyL Try.prog ETl0 30 12 noL 1 c_sp0 k_sp0 16 (s_sp0 xs n xx)).ok (RoundEnd 3 (s_sp0 xs n) (inv_sp0 xs n) (me_sp0 xs n) re_sp0 (rs_sp0 xs n) xx) (fun _ _ => False)
def e_sp0 (s : St) (k : Ex → St → Tree) : Option Tree := match Nat.beq s.tmps.length 114, pickL s.tmps [0, 3, 4, 5], s.mem with
  | true, [.slice (some ⟨0, 0, none⟩) n _, .slice (some ⟨1, 0, none⟩) z1 _, .slice (some ⟨2, 0, none⟩) z2 _, .int .i64 ii], [some ⟨.view, .ints xs⟩, some ⟨.row 41 2, .vals []⟩, some ⟨.row 3 1, .vals []⟩] => some (needs [ii = 0, z1 = 0, z2 = 0, n ≤ 20] (k (.exit 0) ⟨(.slice (some ⟨0, 0, none⟩) n n :: topV :: topV :: .slice (some ⟨1, 0, none⟩) 0 0 :: .slice (some ⟨3, 0, none⟩) n n :: topV :: topV :: topV :: topV :: topV :: topV :: topV :: topV :: topV :: topV :: topV :: topV :: topV :: topV :: topV :: topV :: topV :: topV :: topV :: topV :: topV :: topV :: topV :: topV :: topV :: topV :: topV :: topV :: topV :: topV :: topV :: topV :: topV :: topV :: topV :: topV :: topV :: topV :: topV :: topV :: topV :: topV :: topV :: topV :: topV :: topV :: topV :: topV :: topV :: topV :: topV :: topV :: topV :: topV :: topV :: topV :: topV :: topV :: topV :: topV :: topV :: topV :: topV :: topV :: topV :: topV :: topV :: topV :: topV :: topV :: topV :: topV :: topV :: topV :: topV :: topV :: topV :: topV :: topV :: topV :: topV :: topV :: topV :: topV :: topV :: topV :: topV :: topV :: topV :: topV :: topV :: topV :: topV :: topV :: topV :: topV :: topV :: topV :: topV :: topV :: topV :: topV :: topV :: topV :: topV :: topV :: topV :: topV :: topV :: []), [some ⟨.view, .ints xs⟩, some ⟨.row 41 2, .vals []⟩, some ⟨.dead, .vals []⟩, some ⟨.row 3 1, .ints (ioI n)⟩]⟩))
  | _, _, _ => none
set_option maxRecDepth 100000 in
theorem round_sp0 (xs : List Int) (n : Nat) (h : n ≤ 20) : Round_sp0 xs n := by
  intro i h1
  have h1 : i ≤ n := h1
  rw [tr_sp0]
  have ul := ioI_len i
  have tk : List.take (i * 1) (List.drop 0 (ioI i)) = ioI i := by rw [List.drop_zero]; exact List.take_of_length_le (by omega)
  rw [tk]
  refine brT_ok.2 ⟨fun hlt => ?_, fun hge => ?_⟩
  · have hlt : i < n := by have := of_decide_eq_true hlt; omega
    rw [wsucc (n := n) hlt (by omega)]
    refine ⟨⟨by omega, by omega⟩, by omega, i + 1, [some 5], ?_, ?_, rfl, rfl, ?_⟩
    · show i + 1 ≤ n; omega
    · show n - (i + 1) < n - i; omega
    · unfold s_sp0
      simp only [ioI]
      repeat' (first | exact True.intro | exact rfl | exact fun _ => rfl | (simp; done) | refine And.intro ?_ ?_)
  · have hge := of_decide_eq_false hge
    obtain rfl : i = n := by omega
    refine ⟨rfl, [some 3], ?_⟩
    unfold rs_sp0
    repeat' (first | exact True.intro | exact rfl | exact fun _ => rfl | (simp; done) | refine And.intro ?_ ?_)
set_option maxRecDepth 100000 in
theorem lg_sp0 : LoopE Try.prog e_sp0 c_sp0 := by
  intro s k t F H hlt ht
  unfold e_sp0 at hlt
  split at hlt
  rotate_left
  · cases hlt
  rename_i hlen hpick hmem
  obtain ⟨tmps, mem⟩ := s
  simp only at hlen hpick hmem
  subst hmem
  obtain rfl := Option.some.inj hlt
  obtain ⟨⟨rfl, rfl, rfl, h1, _⟩, ht2⟩ := needs_ok ht
  clear ht hlt
  refine ⟨_, _, ht2, loop_run2 mixed ETl0_ok (s_sp0 _ _) (inv_sp0 _ _) (me_sp0 _ _) re_sp0 (rs_sp0 _ _) k_sp0 (fun _ => rfl) (noLoops nl_sp0) (round_sp0 _ _ h1) (x := 0) (Nat.zero_le _) (π := [some 2]) rfl ?_⟩
  refine ⟨rfl, rfl, ?_, wvs_spread' [0, 3, 4, 5] hlen rfl ?_⟩
  · repeat' (first | exact True.intro | exact rfl | exact wv_top _ _ | exact fun _ => rfl | assumption | exact Eq.symm (by assumption) | exact vI0 rfl | refine And.intro ?_ ?_)
  · rw [hpick]
    repeat' (first | exact True.intro | exact rfl | exact wv_top _ _ | exact fun _ => rfl | assumption | exact Eq.symm (by assumption) | exact vI0 rfl | refine And.intro ?_ ?_)
noncomputable def c_spR : Code := ((loopsOf (codeOf Try.f162))[4]?).getD .skip
def k_spR : Ex → List Nat := keeps [0, 3, 4, 6, 9, 10] [(8, [0, 3, 4]), (3, [0, 3, 4]), (2, [3])] [2]
def s_spR (xs gs os : List Int) (n m : Nat) (a b old : Int) : Nat × (List Int) → St := fun (i, ys) => ⟨(.slice (some ⟨0, 0, none⟩) n n :: topV :: topV :: .slice (some ⟨7, 0, none⟩) m m :: .slice (some ⟨3, 0, none⟩) n n :: topV :: .pointer (some ⟨5, 0, none⟩) :: topV :: topV :: .int .i64 old :: .int .i64 i :: topV :: topV :: topV :: topV :: topV :: topV :: topV :: topV :: topV :: topV :: topV :: topV :: topV :: topV :: topV :: topV :: topV :: topV :: topV :: topV :: topV :: topV :: topV :: topV :: topV :: topV :: topV :: topV :: topV :: topV :: topV :: topV :: topV :: topV :: topV :: topV :: topV :: topV :: topV :: topV :: topV :: topV :: topV :: topV :: topV :: topV :: topV :: topV :: topV :: topV :: topV :: topV :: topV :: topV :: topV :: topV :: topV :: topV :: topV :: topV :: topV :: topV :: topV :: topV :: topV :: topV :: topV :: topV :: topV :: topV :: topV :: topV :: topV :: topV :: topV :: topV :: topV :: topV :: topV :: topV :: topV :: topV :: topV :: topV :: topV :: topV :: topV :: topV :: topV :: topV :: topV :: topV :: topV :: topV :: topV :: topV :: topV :: topV :: topV :: topV :: topV :: topV :: topV :: []), [some ⟨.view, .ints xs⟩, some ⟨.dead, .vals []⟩, some ⟨.dead, .vals []⟩, some ⟨.row 3 1, .ints ys⟩, some ⟨.dead, .vals []⟩, some ⟨.box, .vals [.int .i64 a, .int .i64 b]⟩, some ⟨.row 41 2, .vals [.int .i64 a, .int .i64 b]⟩, some ⟨.row 41 2, .ints os⟩]⟩
def re_spR : Nat × (List Int) → Ex := fun _ => .exit 8
def rs_spR (xs gs os : List Int) (n m : Nat) (a b old : Int) : Nat × (List Int) → St := fun (i, ys) => ⟨(.slice (some ⟨0, 0, none⟩) n n :: topV :: topV :: .slice (some ⟨7, 0, none⟩) m m :: .slice (some ⟨3, 0, none⟩) n n :: topV :: topV :: topV :: topV :: topV :: topV :: topV :: topV :: topV :: topV :: topV :: topV :: topV :: topV :: topV :: topV :: topV :: topV :: topV :: topV :: topV :: topV :: topV :: topV :: topV :: topV :: topV :: topV :: topV :: topV :: topV :: topV :: topV :: topV :: topV :: topV :: topV :: topV :: topV :: topV :: topV :: topV :: topV :: topV :: topV :: topV :: topV :: topV :: topV :: topV :: topV :: topV :: topV :: topV :: topV :: topV :: topV :: topV :: topV :: topV :: topV :: topV :: topV :: topV :: topV :: topV :: topV :: topV :: topV :: topV :: topV :: topV :: topV :: topV :: topV :: topV :: topV :: topV :: topV :: topV :: topV :: topV :: topV :: topV :: topV :: topV :: topV :: topV :: topV :: topV :: topV :: topV :: topV :: topV :: topV :: topV :: topV :: topV :: topV :: topV :: topV :: topV :: topV :: topV :: topV :: topV :: topV :: topV :: topV :: []), [some ⟨.view, .ints xs⟩, some ⟨.dead, .vals []⟩, some ⟨.dead, .vals []⟩, some ⟨.row 3 1, .ints (rlF old (gs.getD a.toNat 0) gs)⟩, some ⟨.dead, .vals []⟩, some ⟨.box, .vals [.int .i64 a, .int .i64 b]⟩, some ⟨.row 41 2, .vals [.int .i64 a, .int .i64 b]⟩, some ⟨.row 41 2, .ints os⟩]⟩
set_option maxRecDepth 100000 in
theorem tr_spR (xs gs os : List Int) (n m : Nat) (a b old : Int) (i : Nat) (ys : List Int) : bodyL Try.prog ETl0 30 12 noL 5 c_spR k_spR 8 (s_spR xs gs os n m a b old (i, ys)) = brT (decide ((↑i : Int) < (↑n : Int))) (.need ((0 : Int) ≤ (↑i : Int) ∧ (↑i : Int) < (↑n : Int)) (.need ((0 : Nat) + (↑i : Int).toNat * (1 : Nat) < ys.length) (brT (ys.getD (0 + (↑i : Int).toNat * 1) 0 == old) (.need ((0 : Int) ≤ a ∧ a < (↑n : Int)) (.need ((0 : Nat) + a.toNat * (1 : Nat) < ys.length) (.need ((0 : Int) ≤ (↑i : Int) ∧ (↑i : Int) < (↑n : Int)) (.need ((0 : Nat) + (↑i : Int).toNat * (1 : Nat) + (1 : Nat) ≤ ys.length) (.leaf .normal ⟨(.slice (some ⟨0, 0, none⟩) (n) (n) :: topV :: topV :: .slice (some ⟨7, 0, none⟩) (m) (m) :: .slice (some ⟨3, 0, none⟩) (n) (n) :: topV :: .pointer (some ⟨5, 0, none⟩) :: topV :: topV :: .int .i64 (old) :: .int .i64 (IntKind.i64.wrap ((↑i : Int) + 1)) :: topV :: topV :: topV :: topV :: topV :: topV :: topV :: topV :: topV :: topV :: topV :: topV :: topV :: topV :: topV :: topV :: topV :: topV :: topV :: topV :: topV :: topV :: topV :: topV :: topV :: topV :: topV :: topV :: topV :: topV :: topV :: topV :: topV :: topV :: topV :: topV :: topV :: topV :: topV :: topV :: topV :: topV :: topV :: topV :: topV :: topV :: topV :: topV :: topV :: topV :: topV :: topV :: topV :: topV :: topV :: topV :: topV :: topV :: topV :: topV :: topV :: topV :: topV :: topV :: topV :: topV :: topV :: topV :: topV :: topV :: topV :: topV :: topV :: topV :: topV :: topV :: topV :: topV :: topV :: topV :: topV :: topV :: topV :: topV :: topV :: topV :: topV :: topV :: topV :: topV :: topV :: topV :: topV :: topV :: topV :: topV :: topV :: topV :: topV :: topV :: topV :: topV :: topV :: []), [some ⟨.view, .ints (xs)⟩, some deadB, some deadB, some ⟨.row 3 1, .ints (setInts ys (0 + (↑i : Int).toNat * 1) [ys.getD (0 + a.toNat * 1) 0])⟩, some deadB, some ⟨.box, .vals [.int .i64 (a), .int .i64 (b)]⟩, some ⟨.row 41 2, .vals [.int .i64 (a), .int .i64 (b)]⟩, some ⟨.row 41 2, .ints (os)⟩]⟩))))) (.leaf .normal ⟨(.slice (some ⟨0, 0, none⟩) (n) (n) :: topV :: topV :: .slice (some ⟨7, 0, none⟩) (m) (m) :: .slice (some ⟨3, 0, none⟩) (n) (n) :: topV :: .pointer (some ⟨5, 0, none⟩) :: topV :: topV :: .int .i64 (old) :: .int .i64 (IntKind.i64.wrap ((↑i : Int) + 1)) :: topV :: topV :: topV :: topV :: topV :: topV :: topV :: topV :: topV :: topV :: topV :: topV :: topV :: topV :: topV :: topV :: topV :: topV :: topV :: topV :: topV :: topV :: topV :: topV :: topV :: topV :: topV :: topV :: topV :: topV :: topV :: topV :: topV :: topV :: topV :: topV :: topV :: topV :: topV :: topV :: topV :: topV :: topV :: topV :: topV :: topV :: topV :: topV :: topV :: topV :: topV :: topV :: topV :: topV :: topV :: topV :: topV :: topV :: topV :: topV :: topV :: topV :: topV :: topV :: topV :: topV :: topV :: topV :: topV :: topV :: topV :: topV :: topV :: topV :: topV :: topV :: topV :: topV :: topV :: topV :: topV :: topV :: topV :: topV :: topV :: topV :: topV :: topV :: topV :: topV :: topV :: topV :: topV :: topV :: topV :: topV :: topV :: topV :: topV :: topV :: topV :: topV :: topV :: []), [some ⟨.view, .ints (xs)⟩, some deadB, some deadB, some ⟨.row 3 1, .ints (ys)⟩, some deadB, some ⟨.box, .vals [.int .i64 (a), .int .i64 (b)]⟩, some ⟨.row 41 2, .vals [.int .i64 (a), .int .i64 (b)]⟩, some ⟨.row 41 2, .ints (os)⟩]⟩)))) (.leaf (.exit 8) ⟨(.slice (some ⟨0, 0, none⟩) (n) (n) :: topV :: topV :: .slice (some ⟨7, 0, none⟩) (m) (m) :: .slice (some ⟨3, 0, none⟩) (n) (n) :: topV :: topV :: topV :: topV :: topV :: topV :: topV :: topV :: topV :: topV :: topV :: topV :: topV :: topV :: topV :: topV :: topV :: topV :: topV :: topV :: topV :: topV :: topV :: topV :: topV :: topV :: topV :: topV :: topV :: topV :: topV :: topV :: topV :: topV :: topV :: topV :: topV :: topV :: topV :: topV :: topV :: topV :: topV :: topV :: topV :: topV :: topV :: topV :: topV :: topV :: topV :: topV :: topV :: topV :: topV :: topV :: topV :: topV :: topV :: topV :: topV :: topV :: topV :: topV :: topV :: topV :: topV :: topV :: topV :: topV :: topV :: topV :: topV :: topV :: topV :: topV :: topV :: topV :: topV :: topV :: topV :: topV :: topV :: topV :: topV :: topV :: topV :: topV :: topV :: topV :: topV :: topV :: topV :: topV :: topV :: topV :: topV :: topV :: topV :: topV :: topV :: topV :: topV :: topV :: topV :: topV :: topV :: topV :: topV :: []), [some ⟨.view, .ints (xs)⟩, some deadB, some deadB, some ⟨.row 3 1, .ints (ys)⟩, some deadB, some ⟨.box, .vals [.int .i64 (a), .int .i64 (b)]⟩, some ⟨.row 41 2, .vals [.int .i64 (a), .int .i64 (b)]⟩, some ⟨.row 41 2, .ints (os)⟩]⟩) := by kernel_rfl
set_option maxRecDepth 100000 in
theorem nl_spR : loopsOf c_spR = [] := by kernel_rfl
def inv_spR (xs gs os : List Int) (n m : Nat) (a b old : Int) : Nat × (List Int) → Prop := fun (i, ys) => i ≤ n ∧ ys = (rlF old (gs.getD a.toNat 0) gs).take i ++ gs.drop i
def me_spR (xs gs os : List Int) (n m : Nat) (a b old : Int) : Nat × (List Int) → Nat := fun (i, ys) => n - i
/-- A round of this loop. -/
def Round_spR (xs gs os : List Int) (n m : Nat) (a b old : Int) : Prop := ∀ xx : Nat × (List Int), inv_spR xs gs os n m a b old xx → (bodyL Try.prog ETl0 30 12 noL 5 c_spR k_spR 8 (s_spR xs gs os n m a b old xx)).ok (RoundEnd 8 (s_spR xs gs os n m a b old) (inv_spR xs gs os n m a b old) (me_spR xs gs os n m a b old) re_spR (rs_spR xs gs os n m a b old) xx) (fun _ _ => False)
def e_spR (s : St) (k : Ex → St → Tree) : Option Tree := match Nat.beq s.tmps.length 114, pickL s.tmps [0, 3, 4, 6, 9, 10], s.mem with
  | true, [.slice (some ⟨0, 0, none⟩) n _, .slice (some ⟨7, 0, none⟩) m _, .slice (some ⟨3, 0, none⟩) n2 _, .pointer (some ⟨5, 0, none⟩), .int .i64 old, .int .i64 ii], [some ⟨.view, .ints xs⟩, some ⟨.dead, .vals []⟩, some ⟨.dead, .vals []⟩, some ⟨.row 3 1, .ints gs⟩, some ⟨.dead, .vals []⟩, some ⟨.box, .vals [.int .i64 a, .int .i64 b]⟩, some ⟨.row 41 2, .vals [.int .i64 a2, .int .i64 b2]⟩, some ⟨.row 41 2, .ints os⟩] => some (needs [ii = 0, n2 = n, a2 = a, b2 = b, gs.length = n, n ≤ 20, 0 ≤ a ∧ a < n, gs.getD a.toNat 0 ≠ old] (k (.exit 8) ⟨(.slice (some ⟨0, 0, none⟩) n n :: topV :: topV :: .slice (some ⟨7, 0, none⟩) m m :: .slice (some ⟨3, 0, none⟩) n n :: topV :: topV :: topV :: topV :: topV :: topV :: topV :: topV :: topV :: topV :: topV :: topV :: topV :: topV :: topV :: topV :: topV :: topV :: topV :: topV :: topV :: topV :: topV :: topV :: topV :: topV :: topV :: topV :: topV :: topV :: topV :: topV :: topV :: topV :: topV :: topV :: topV :: topV :: topV :: topV :: topV :: topV :: topV :: topV :: topV :: topV :: topV :: topV :: topV :: topV :: topV :: topV :: topV :: topV :: topV :: topV :: topV :: topV :: topV :: topV :: topV :: topV :: topV :: topV :: topV :: topV :: topV :: topV :: topV :: topV :: topV :: topV :: topV :: topV :: topV :: topV :: topV :: topV :: topV :: topV :: topV :: topV :: topV :: topV :: topV :: topV :: topV :: topV :: topV :: topV :: topV :: topV :: topV :: topV :: topV :: topV :: topV :: topV :: topV :: topV :: topV :: topV :: topV :: topV :: topV :: topV :: topV :: topV :: topV :: []), [some ⟨.view, .ints xs⟩, some ⟨.dead, .vals []⟩, some ⟨.dead, .vals []⟩, some ⟨.row 3 1, .ints (rlF old (gs.getD a.toNat 0) gs)⟩, some ⟨.dead, .vals []⟩, some ⟨.box, .vals [.int .i64 a, .int .i64 b]⟩, some ⟨.row 41 2, .vals [.int .i64 a, .int .i64 b]⟩, some ⟨.row 41 2, .ints os⟩]⟩))
  | _, _, _ => none
theorem rl_at {old nw : Int} {gs : List Int} {i j : Nat} (hi : i ≤ gs.length) (hj : j < gs.length) : ((rlF old nw gs).take i ++ gs.drop i).getD j 0 = if j < i then (rlF old nw gs).getD j 0 else gs.getD j 0 := by
  have hl := rlF_len old nw gs
  simp only [List.getD_eq_getElem?_getD]
  split
  · rename_i h
    rw [List.getElem?_append_left (by rw [List.length_take]; omega), List.getElem?_take_of_lt h]
  · rename_i h
    rw [List.getElem?_append_right (by rw [List.length_take]; omega), List.length_take, List.getElem?_drop]
    congr 2
    omega
theorem rl_next {old nw : Int} {gs : List Int} {i : Nat} (hi : i < gs.length) : (rlF old nw gs).take (i + 1) ++ gs.drop (i + 1) = ((rlF old nw gs).take i ++ gs.drop i).set i (if gs.getD i 0 = old then nw else gs.getD i 0) := by
  have hl := rlF_len old nw gs
  refine List.ext_getElem? fun j => ?_
  rcases Nat.lt_or_ge j gs.length with hj | hj
  · have a1 := rl_at (old := old) (nw := nw) (i := i + 1) (by omega) hj
    have a2 := rl_at (old := old) (nw := nw) (i := i) (by omega) hj
    have l1 : ((rlF old nw gs).take (i + 1) ++ gs.drop (i + 1)).length = gs.length := by simp [hl]; omega
    have l2 : ((rlF old nw gs).take i ++ gs.drop i).length = gs.length := by simp [hl]; omega
    have q1 : ((rlF old nw gs).take (i + 1) ++ gs.drop (i + 1))[j]? = some (if j < i + 1 then (rlF old nw gs).getD j 0 else gs.getD j 0) := by
      rw [← a1]; simp [List.getD, l1, hj]
    have q2 : ((rlF old nw gs).take i ++ gs.drop i)[j]? = some (if j < i then (rlF old nw gs).getD j 0 else gs.getD j 0) := by
      rw [← a2]; simp [List.getD, l2, hj]
    rw [List.getElem?_set, q1]
    by_cases e : i = j
    · subst e
      rw [if_pos rfl, if_pos (by omega), if_pos (by omega), rlF_get hi]
    · rw [if_neg e, q2]
      by_cases g : j < i
      · rw [if_pos g, if_pos (by omega)]
      · rw [if_neg g, if_neg (by omega)]
  · rw [List.getElem?_eq_none (by simp [hl]; omega), List.getElem?_eq_none (by simp [hl]; omega)]
set_option maxRecDepth 100000 in
theorem round_spR (xs gs os : List Int) (n m : Nat) (a b old : Int) (hg : gs.length = n) (h : n ≤ 20) (ha : 0 ≤ a ∧ a < n) (hne : gs.getD a.toNat 0 ≠ old) : Round_spR xs gs os n m a b old := by
  rintro ⟨i, ys⟩ ⟨h1, h2⟩
  rw [tr_spR]
  obtain ⟨a, rfl⟩ := Int.eq_ofNat_of_zero_le ha.1
  simp only [Int.toNat_natCast] at *
  have hl := rlF_len old (gs.getD a 0) gs
  have yl : ys.length = n := by rw [h2, List.length_append, List.length_take, List.length_drop, hl]; omega
  simp only [Nat.zero_add, Nat.mul_one]
  refine brT_ok.2 ⟨fun hlt => ?_, fun hge => ?_⟩
  · have hi : i < n := by have := of_decide_eq_true hlt; omega
    have yi : ys.getD i 0 = gs.getD i 0 := by rw [h2, rl_at (by omega) (by omega), if_neg (by omega)]
    have ya : ys.getD a 0 = gs.getD a 0 := by
      rw [h2, rl_at (by omega) (by omega)]
      split
      · rw [rlF_get (by omega), if_neg hne]
      · rfl
    have nx := rl_next (old := old) (nw := gs.getD a 0) (gs := gs) (i := i) (by omega)
    rw [← h2] at nx
    rw [wsucc (n := n) hi (by omega), ya]
    refine ⟨⟨by omega, by omega⟩, by omega, brT_ok.2 ⟨fun q => ?_, fun q => ?_⟩⟩
    · have q : gs.getD i 0 = old := yi.symm.trans (beq_iff_eq.1 q)
      rw [if_pos q] at nx
      refine ⟨⟨by omega, by omega⟩, by omega, ⟨by omega, by omega⟩, by omega, (i + 1, _), [], ⟨by omega, nx.symm⟩, ?_, rfl, by simp only [rs_spR], ?_⟩
      · show n - (i + 1) < n - i; omega
      · simp only [s_spR, setInts_one ys i (show i < ys.length by omega) (gs.getD a 0)]
        repeat' (first | exact True.intro | exact rfl | exact fun _ => rfl | (simp; done) | refine And.intro ?_ ?_)
    · have q : ¬ gs.getD i 0 = old := fun e => beq_eq_false_iff_ne.1 q (yi.trans e)
      rw [if_neg q] at nx
      have st : ys.set i (gs.getD i 0) = ys := by
        rw [← yi]
        have hy : i < ys.length := by omega
        simp [List.getD, hy]
      rw [st] at nx
      refine ⟨(i + 1, ys), [], ⟨by omega, nx.symm⟩, ?_, rfl, by simp only [rs_spR], ?_⟩
      · show n - (i + 1) < n - i; omega
      · repeat' (first | exact True.intro | exact rfl | exact fun _ => rfl | (simp; done) | refine And.intro ?_ ?_)
  · have hge := of_decide_eq_false hge
    obtain rfl : i = n := by omega
    have e : ys = rlF old (gs.getD a 0) gs := by
      rw [h2, List.take_of_length_le (by omega), List.drop_of_length_le (by omega), List.append_nil]
    refine ⟨rfl, [], ?_⟩
    simp only [rs_spR, Int.toNat_natCast, e]
    repeat' (first | exact True.intro | exact rfl | exact fun _ => rfl | (simp; done) | refine And.intro ?_ ?_)
set_option maxRecDepth 100000 in
theorem lg_spR : LoopE Try.prog e_spR c_spR := by
  intro s k t F H hlt ht
  unfold e_spR at hlt
  split at hlt
  rotate_left
  · cases hlt
  rename_i hlen hpick hmem
  obtain ⟨tmps, mem⟩ := s
  simp only at hlen hpick hmem
  subst hmem
  obtain rfl := Option.some.inj hlt
  obtain ⟨⟨rfl, rfl, rfl, rfl, h1, h2, h3, h4, _⟩, ht2⟩ := needs_ok ht
  clear ht hlt
  refine ⟨_, _, ht2, loop_run mixed ETl0_ok (s_spR _ _ _ _ _ _ _ _) (inv_spR _ _ _ _ _ _ _ _) (me_spR _ _ _ _ _ _ _ _) re_spR (rs_spR _ _ _ _ _ _ _ _) k_spR (fun _ => rfl) (noLoops nl_spR) (round_spR _ _ _ _ _ _ _ _ h1 h2 h3 h4) (x := (0, _)) ⟨Nat.zero_le _, rfl⟩ (π := []) rfl ?_⟩
  refine ⟨rfl, rfl, ?_, wvs_spread' [0, 3, 4, 6, 9, 10] hlen rfl ?_⟩
  · repeat' (first | exact True.intro | exact rfl | exact wv_top _ _ | exact fun _ => rfl | assumption | exact Eq.symm (by assumption) | exact vI0 rfl | refine And.intro ?_ ?_)
  · rw [hpick]
    repeat' (first | exact True.intro | exact rfl | exact wv_top _ _ | exact fun _ => rfl | assumption | exact Eq.symm (by assumption) | exact vI0 rfl | refine And.intro ?_ ?_)
def ltSpO : LT := fun j s k => match j with
  | 2 => e_spI s k
  | 3 => e_spK s k
  | 4 => e_spR s k
  | _ => none
noncomputable def c_spO1 : Code := ((loopsOf (codeOf Try.f162))[1]?).getD .skip
def k_spO1 : Ex → List Nat := keeps [0, 3, 4] [(2, [3])] [2]
def s_spO1 (ps : List Pt) : Nat → St := fun t => ⟨(.slice (some ⟨0, 0, none⟩) ps.length ps.length :: topV :: topV :: .slice (some ⟨4, 0, none⟩) (spO ps t).1.length (spO ps t).1.length :: .slice (some ⟨3, 0, none⟩) ps.length ps.length :: topV :: topV :: topV :: topV :: topV :: topV :: topV :: topV :: topV :: topV :: topV :: topV :: topV :: topV :: topV :: topV :: topV :: topV :: topV :: topV :: topV :: topV :: topV :: topV :: topV :: topV :: topV :: topV :: topV :: topV :: topV :: topV :: topV :: topV :: topV :: topV :: topV :: topV :: topV :: topV :: topV :: topV :: topV :: topV :: topV :: topV :: topV :: topV :: topV :: topV :: topV :: topV :: topV :: topV :: topV :: topV :: topV :: topV :: topV :: topV :: topV :: topV :: topV :: topV :: topV :: topV :: topV :: topV :: topV :: topV :: topV :: topV :: topV :: topV :: topV :: topV :: topV :: topV :: topV :: topV :: topV :: topV :: topV :: topV :: topV :: topV :: topV :: topV :: topV :: topV :: topV :: topV :: topV :: topV :: topV :: topV :: topV :: topV :: topV :: topV :: topV :: topV :: topV :: topV :: topV :: topV :: topV :: topV :: topV :: []), [some ⟨.view, .ints (flat ps)⟩, some ⟨.dead, .vals []⟩, some ⟨.dead, .vals []⟩, some ⟨.row 3 1, .ints (spO ps t).2⟩, some ⟨.row 41 2, .ints (flat (spO ps t).1)⟩]⟩
def re_spO1 : Nat → Ex := fun _ => .exit 2
def rs_spO1 (ps : List Pt) : Nat → St := fun t => ⟨(topV :: topV :: topV :: .slice (some ⟨4, 0, none⟩) (spO ps (ps.length - 1)).1.length (spO ps (ps.length - 1)).1.length :: topV :: topV :: topV :: topV :: topV :: topV :: topV :: topV :: topV :: topV :: topV :: topV :: topV :: topV :: topV :: topV :: topV :: topV :: topV :: topV :: topV :: topV :: topV :: topV :: topV :: topV :: topV :: topV :: topV :: topV :: topV :: topV :: topV :: topV :: topV :: topV :: topV :: topV :: topV :: topV :: topV :: topV :: topV :: topV :: topV :: topV :: topV :: topV :: topV :: topV :: topV :: topV :: topV :: topV :: topV :: topV :: topV :: topV :: topV :: topV :: topV :: topV :: topV :: topV :: topV :: topV :: topV :: topV :: topV :: topV :: topV :: topV :: topV :: topV :: topV :: topV :: topV :: topV :: topV :: topV :: topV :: topV :: topV :: topV :: topV :: topV :: topV :: topV :: topV :: topV :: topV :: topV :: topV :: topV :: topV :: topV :: topV :: topV :: topV :: topV :: topV :: topV :: topV :: topV :: topV :: topV :: topV :: topV :: topV :: topV :: []), [some ⟨.view, .ints (flat ps)⟩, some ⟨.dead, .vals []⟩, some ⟨.dead, .vals []⟩, some ⟨.row 3 1, .ints (spO ps (ps.length - 1)).2⟩, some ⟨.row 41 2, .ints (flat (spO ps (ps.length - 1)).1)⟩]⟩
set_option maxRecDepth 100000 in
theorem tr_spO1 (ps : List Pt) (t : Nat) : bodyL Try.prog ETl0 30 12 ltSpO 2 c_spO1 k_spO1 16 (s_spO1 ps t) = brT (decide (IntKind.i64.wrap ((↑(spO ps t).1.length : Int) + 1) < (↑ps.length : Int))) (.need ((0 : Int) = (0 : Int)) (.need (ps.length = ps.length) (.need ((-1 : Int) = (-1 : Int)) (.need ((0 : Int) = (0 : Int)) (.need ((flat ps).length = ps.length * (2 : Nat)) (.need (ps.length ≤ (20 : Nat)) (.need (allV (ptsA ps.length (flat ps)) = true) (.need ((spO ps t).2.length = ps.length) (.need (((spO ps t).1.length + (1 : Nat)) * (16 : Nat) ≤ (140737488355328 : Nat) ∧ (spO ps t).1.length + (1 : Nat) ≤ (1000000 : Nat)) (.need ((0 : Nat) + (spO ps t).1.length * (2 : Nat) ≤ (flat (spO ps t).1).length) (.need ((0 : Int) ≤ (scI (ptsA ps.length (flat ps)) (spO ps t).snd ps.length).2 ∧ (scI (ptsA ps.length (flat ps)) (spO ps t).snd ps.length).2 < (↑ps.length : Int)) (.need ((0 : Nat) + (scI (ptsA ps.length (flat ps)) (spO ps t).snd ps.length).2.toNat * (1 : Nat) < (spO ps t).2.length) (.need ((0 : Int) = (0 : Int)) (.need (ps.length = ps.length) (.need ((scI (ptsA ps.length (flat ps)) (spO ps t).snd ps.length).1 = (scI (ptsA ps.length (flat ps)) (spO ps t).snd ps.length).1) (.need ((scI (ptsA ps.length (flat ps)) (spO ps t).snd ps.length).2 = (scI (ptsA ps.length (flat ps)) (spO ps t).snd ps.length).2) (.need ((spO ps t).2.length = ps.length) (.need (ps.length ≤ (20 : Nat)) (.need ((0 : Int) ≤ (scI (ptsA ps.length (flat ps)) (spO ps t).snd ps.length).1 ∧ (scI (ptsA ps.length (flat ps)) (spO ps t).snd ps.length).1 < (↑ps.length : Int)) (.need (¬(spO ps t).2.getD (scI (ptsA ps.length (flat ps)) (spO ps t).snd ps.length).1.toNat (0 : Int) = (spO ps t).2.getD ((0 : Nat) + (scI (ptsA ps.length (flat ps)) (spO ps t).snd ps.length).2.toNat * (1 : Nat)) (0 : Int)) (.leaf .normal ⟨(.slice (some ⟨0, 0, none⟩) (ps.length) (ps.length) :: topV :: topV :: .slice (some ⟨7, 0, none⟩) ((spO ps t).1.length + 1) ((spO ps t).1.length + 1) :: .slice (some ⟨3, 0, none⟩) (ps.length) (ps.length) :: topV :: topV :: topV :: topV :: topV :: topV :: topV :: topV :: topV :: topV :: topV :: topV :: topV :: topV :: topV :: topV :: topV :: topV :: topV :: topV :: topV :: topV :: topV :: topV :: topV :: topV :: topV :: topV :: topV :: topV :: topV :: topV :: topV :: topV :: topV :: topV :: topV :: topV :: topV :: topV :: topV :: topV :: topV :: topV :: topV :: topV :: topV :: topV :: topV :: topV :: topV :: topV :: topV :: topV :: topV :: topV :: topV :: topV :: topV :: topV :: topV :: topV :: topV :: topV :: topV :: topV :: topV :: topV :: topV :: topV :: topV :: topV :: topV :: topV :: topV :: topV :: topV :: topV :: topV :: topV :: topV :: topV :: topV :: topV :: topV :: topV :: topV :: topV :: topV :: topV :: topV :: topV :: topV :: topV :: topV :: topV :: topV :: topV :: topV :: topV :: topV :: topV :: topV :: topV :: topV :: topV :: topV :: topV :: topV :: []), [some ⟨.view, .ints (flat ps)⟩, some deadB, some deadB, some ⟨.row 3 1, .ints (rlF ((spO ps t).2.getD (0 + (scI (ptsA ps.length (flat ps)) (spO ps t).snd ps.length).2.toNat * 1) 0) ((spO ps t).2.getD (scI (ptsA ps.length (flat ps)) (spO ps t).snd ps.length).1.toNat 0) (spO ps t).2)⟩, some deadB, some ⟨.box, .vals [.int .i64 ((scI (ptsA ps.length (flat ps)) (spO ps t).snd ps.length).1), .int .i64 ((scI (ptsA ps.length (flat ps)) (spO ps t).snd ps.length).2)]⟩, some ⟨.row 41 2, .vals [.int .i64 ((scI (ptsA ps.length (flat ps)) (spO ps t).snd ps.length).1), .int .i64 ((scI (ptsA ps.length (flat ps)) (spO ps t).snd ps.length).2)]⟩, some ⟨.row 41 2, .ints (List.take ((spO ps t).1.length * 2) (List.drop 0 (flat (spO ps t).1)) ++ [(scI (ptsA ps.length (flat ps)) (spO ps t).snd ps.length).1, (scI (ptsA ps.length (flat ps)) (spO ps t).snd ps.length).2])⟩]⟩))))))))))))))))))))) (.leaf (.exit 2) ⟨(topV :: topV :: topV :: .slice (some ⟨4, 0, none⟩) ((spO ps t).1.length) ((spO ps t).1.length) :: topV :: topV :: topV :: topV :: topV :: topV :: topV :: topV :: topV :: topV :: topV :: topV :: topV :: topV :: topV :: topV :: topV :: topV :: topV :: topV :: topV :: topV :: topV :: topV :: topV :: topV :: topV :: topV :: topV :: topV :: topV :: topV :: topV :: topV :: topV :: topV :: topV :: topV :: topV :: topV :: topV :: topV :: topV :: topV :: topV :: topV :: topV :: topV :: topV :: topV :: topV :: topV :: topV :: topV :: topV :: topV :: topV :: topV :: topV :: topV :: topV :: topV :: topV :: topV :: topV :: topV :: topV :: topV :: topV :: topV :: topV :: topV :: topV :: topV :: topV :: topV :: topV :: topV :: topV :: topV :: topV :: topV :: topV :: topV :: topV :: topV :: topV :: topV :: topV :: topV :: topV :: topV :: topV :: topV :: topV :: topV :: topV :: topV :: topV :: topV :: topV :: topV :: topV :: topV :: topV :: topV :: topV :: topV :: topV :: topV :: []), [some ⟨.view, .ints (flat ps)⟩, some deadB, some deadB, some ⟨.row 3 1, .ints ((spO ps t).2)⟩, some ⟨.row 41 2, .ints (flat (spO ps t).1)⟩]⟩) := by kernel_rfl
def inv_spO1 (ps : List Pt) : Nat → Prop := fun t => t ≤ ps.length - 1
def me_spO1 (ps : List Pt) : Nat → Nat := fun t => ps.length - t
/-- A round of this loop. -/
def Round_spO1 (ps : List Pt) : Prop := ∀ xx : Nat, inv_spO1 ps xx → (bodyL Try.prog ETl0 30 12 ltSpO 2 c_spO1 k_spO1 16 (s_spO1 ps xx)).ok (RoundEnd 4 (s_spO1 ps) (inv_spO1 ps) (me_spO1 ps) re_spO1 (rs_spO1 ps) xx) (fun _ _ => False)
def e_spO1 (s : St) (k : Ex → St → Tree) : Option Tree := match Nat.beq s.tmps.length 114, pickL s.tmps [0, 3, 4], s.mem with
  | true, [.slice (some ⟨0, 0, none⟩) n _, .slice (some ⟨1, 0, none⟩) z _, .slice (some ⟨3, 0, none⟩) n2 _], [some ⟨.view, .ints xs⟩, some ⟨.row 41 2, .vals []⟩, some ⟨.dead, .vals []⟩, some ⟨.row 3 1, .ints gs⟩] => some (needs [z = 0, n2 = n, gs = ioI n, xs.length = n * 2, n ≤ 20, allV (ptsA n xs) = true] (k (.exit 2) ⟨(topV :: topV :: topV :: .slice (some ⟨4, 0, none⟩) (spO (ptsA n xs) (n - 1)).1.length (spO (ptsA n xs) (n - 1)).1.length :: topV :: topV :: topV :: topV :: topV :: topV :: topV :: topV :: topV :: topV :: topV :: topV :: topV :: topV :: topV :: topV :: topV :: topV :: topV :: topV :: topV :: topV :: topV :: topV :: topV :: topV :: topV :: topV :: topV :: topV :: topV :: topV :: topV :: topV :: topV :: topV :: topV :: topV :: topV :: topV :: topV :: topV :: topV :: topV :: topV :: topV :: topV :: topV :: topV :: topV :: topV :: topV :: topV :: topV :: topV :: topV :: topV :: topV :: topV :: topV :: topV :: topV :: topV :: topV :: topV :: topV :: topV :: topV :: topV :: topV :: topV :: topV :: topV :: topV :: topV :: topV :: topV :: topV :: topV :: topV :: topV :: topV :: topV :: topV :: topV :: topV :: topV :: topV :: topV :: topV :: topV :: topV :: topV :: topV :: topV :: topV :: topV :: topV :: topV :: topV :: topV :: topV :: topV :: topV :: topV :: topV :: topV :: topV :: topV :: topV :: []), [some ⟨.view, .ints xs⟩, some ⟨.dead, .vals []⟩, some ⟨.dead, .vals []⟩, some ⟨.row 3 1, .ints (spO (ptsA n xs) (n - 1)).2⟩, some ⟨.row 41 2, .ints (flat (spO (ptsA n xs) (n - 1)).1)⟩]⟩))
  | _, _, _ => none
set_option maxRecDepth 100000 in
theorem in_spO1 : loopsOf c_spO1 = [c_spI, c_spK, c_spR] := by kernel_rfl
theorem ltSpO_good : LoopsGood Try.prog ltSpO 2 c_spO1 := by
  intro i d hd s k t F H hlt ht
  rw [in_spO1] at hd
  match i with
  | 0 =>
    obtain rfl : c_spI = d := by simpa using hd
    exact lg_spI s k t F H hlt ht
  | 1 =>
    obtain rfl : c_spK = d := by simpa using hd
    exact lg_spK s k t F H hlt ht
  | 2 =>
    obtain rfl : c_spR = d := by simpa using hd
    exact lg_spR s k t F H hlt ht
  | i + 3 => simp at hd
set_option maxRecDepth 100000 in
set_option maxHeartbeats 2000000 in
theorem round_spO1 (ps : List Pt) (h : ps.length ≤ 20) (hv : allV ps = true) : Round_spO1 ps := by
  intro t h1
  have h1 : t ≤ ps.length - 1 := h1
  rw [tr_spO1]
  obtain ⟨o1, o2, o3, o4⟩ := spO_ok ps t h1
  have fl := flat_length ps
  have fo := flat_length (spO ps t).1
  have tk : List.take ((spO ps t).1.length * 2) (List.drop 0 (flat (spO ps t).1)) = flat (spO ps t).1 := by rw [List.drop_zero]; exact List.take_of_length_le (by omega)
  have sn : flat (spO ps t).1 ++ [(scI ps (spO ps t).2 ps.length).1, (scI ps (spO ps t).2 ps.length).2] = flat (spO ps (t + 1)).1 := by
    simp only [spO]
    rw [flat_snoc]
  simp only [ptsA_flat, Nat.zero_add, Nat.mul_one, tk, sn]
  refine brT_ok.2 ⟨fun hlt => ?_, fun hge => ?_⟩
  · have hlt := of_decide_eq_true hlt
    rw [wr (by omega)] at hlt
    have hlt : t + 1 < ps.length := by omega
    obtain ⟨b1, b2, b3, b4, b5⟩ := spO_hit hlt
    have e1 : (spO ps (t + 1)).1.length = (spO ps t).1.length + 1 := by simp only [spO, List.length_append, List.length_cons, List.length_nil]
    refine ⟨trivial, trivial, trivial, trivial, fl, h, hv, o2, ⟨by omega, by omega⟩, by omega, ⟨b3, b4⟩, by omega, trivial, trivial, trivial, trivial, o2, h, ⟨b1, b2⟩, b5, t + 1, [some 7], ?_, ?_, rfl, rfl, ?_⟩
    · show t + 1 ≤ ps.length - 1; omega
    · show ps.length - (t + 1) < ps.length - t; omega
    · simp only [s_spO1, e1]
      repeat' (first | exact True.intro | exact rfl | exact fun _ => rfl | (simp; done) | refine And.intro ?_ ?_)
  · have hge := of_decide_eq_false hge
    rw [wr (by omega)] at hge
    obtain rfl : t = ps.length - 1 := by omega
    refine ⟨rfl, [some 4], ?_⟩
    simp only [rs_spO1]
    repeat' (first | exact True.intro | exact rfl | exact fun _ => rfl | (simp; done) | refine And.intro ?_ ?_)
set_option maxRecDepth 100000 in
theorem lg_spO1 : LoopE Try.prog e_spO1 c_spO1 := by
  intro s k t F H hlt ht
  unfold e_spO1 at hlt
  split at hlt
  rotate_left
  · cases hlt
  rename_i hlen hpick hmem
  obtain ⟨tmps, mem⟩ := s
  simp only at hlen hpick hmem
  subst hmem
  obtain rfl := Option.some.inj hlt
  obtain ⟨⟨rfl, rfl, rfl, h2, h3, h5, _⟩, ht2⟩ := needs_ok ht
  clear ht hlt
  obtain ⟨ps, rfl, rfl⟩ := even_flat h2
  rw [ptsA_flat] at h5 ht2
  refine ⟨_, _, ht2, loop_run2 mixed ETl0_ok (s_spO1 ps) (inv_spO1 ps) (me_spO1 ps) re_spO1 (rs_spO1 ps) k_spO1 (fun _ => rfl) ltSpO_good (round_spO1 ps h3 h5) (x := 0) (Nat.zero_le _) (π := [some 1]) rfl ?_⟩
  refine ⟨rfl, rfl, ?_, wvs_spread' [0, 3, 4] hlen rfl ?_⟩
  · repeat' (first | exact True.intro | exact rfl | exact wv_top _ _ | exact fun _ => rfl | assumption | exact Eq.symm (by assumption) | exact vI0 rfl | refine And.intro ?_ ?_)
  · rw [hpick]
    repeat' (first | exact True.intro | exact rfl | exact wv_top _ _ | exact fun _ => rfl | assumption | exact Eq.symm (by assumption) | exact vI0 rfl | refine And.intro ?_ ?_)
def ltSp : LT := fun j s k => match j with
  | 0 => e_sp0 s k
  | 1 => e_spO1 s k
  | _ => none
set_option maxRecDepth 100000 in
theorem in_sp : loopsOf (codeOf Try.f162) = [c_sp0, c_spO1, c_spI, c_spK, c_spR] := by kernel_rfl
theorem Lr_sp {fn : Func} (hf : Try.prog.funcs[162]? = some fn) : LoopsGood Try.prog ltSp 0 (codeOf fn) := by
  obtain rfl := fn_is Try.func162 hf
  intro i d hd s k t F H hlt ht
  rw [in_sp] at hd
  match i with
  | 0 =>
    obtain rfl : c_sp0 = d := by simpa using hd
    exact lg_sp0 s k t F H hlt ht
  | 1 =>
    obtain rfl : c_spO1 = d := by simpa using hd
    exact lg_spO1 s k t F H hlt ht
  | i + 2 => simp [ltSp] at hlt
def LSp : FuncId → LT := fun f => match f with
  | 162 => ltSp
  | _ => noL
def ESp : Env := mkE TTl (fun _ _ => none) LSp
theorem ESp_ok : EnvOk Try.prog ESp := mkEOk TTl_ok (fun _ _ _ _ _ h => (by cases h)) (by
  intro f fn hf
  unfold LSp
  split
  all_goals first | with_reducible exact Lr_sp hf | exact noL_good)
set_option maxRecDepth 100000 in
theorem tr_spF (ps : List Pt) : bodyX Try.prog ESp 30 12 136 [.row ps.length (.ints (flat ps))] = .need (ps.length * (2 : Nat) ≤ (List.drop (0 : Nat) (flat ps)).length) (.need (ps.length ≤ (1000000000 : Nat)) (brT (!okL (ptsA ps.length (List.drop 0 (flat ps)))) (.fin (.slice none (0) (0)) [some ⟨.view, .ints (flat ps)⟩]) (.need ((0 : Int) = (0 : Int)) (.need ((0 : Nat) = (0 : Nat)) (.need ((0 : Nat) = (0 : Nat)) (.need (ps.length ≤ (20 : Nat)) (.need ((0 : Nat) = (0 : Nat)) (.need (ps.length = ps.length) (.need (ioI ps.length = ioI ps.length) (.need ((flat ps).length = ps.length * (2 : Nat)) (.need (ps.length ≤ (20 : Nat)) (.need (allV (ptsA ps.length (flat ps)) = true) (.fin (.slice (some ⟨4, 0, none⟩) ((spO (ptsA ps.length (flat ps)) (ps.length - 1)).1.length) ((spO (ptsA ps.length (flat ps)) (ps.length - 1)).1.length)) [some ⟨.view, .ints (flat ps)⟩, some deadB, some deadB, some ⟨.row 3 1, .ints ((spO (ptsA ps.length (flat ps)) (ps.length - 1)).2)⟩, some ⟨.row 41 2, .ints (flat (spO (ptsA ps.length (flat ps)) (ps.length - 1)).1)⟩]))))))))))))) := by kernel_rfl
/-- The edges of the model's spanning tree. -/
def stV (ps : List Pt) : List Pt := bif okL ps then (spO ps (ps.length - 1)).1 else []
theorem resR_sp (ps : List Pt) (h : Big ps) : ResR Try.prog 136 [.row ps.length (.ints (flat ps))] (.slice (some ⟨0, 0, none⟩) (stV ps).length (stV ps).length) ⟨.row 41 2, .ints (flat (stV ps))⟩ := by
  refine bodyX_resR mixed ESp_ok (m := 30) (n := 12) rfl ?_
  rw [tr_spF]
  simp only [List.drop_zero, ptsA_flat]
  have fl := flat_length ps
  unfold stV
  rcases hv : okL ps with _ | _
  · exact ⟨by omega, h, none, ⟨rfl, rfl⟩, trivial⟩
  · have hk := hv
    unfold okL at hk
    rw [Bool.and_eq_true, decide_eq_true_eq] at hk
    exact ⟨by omega, h, trivial, trivial, trivial, hk.2, trivial, by first | trivial | rfl, by first | trivial | rfl, fl, hk.2, hk.1, some 4, ⟨rfl, rfl, rfl⟩, rfl, rfl, rfl⟩
theorem stV_len (ps : List Pt) : (stV ps).length ≤ 20 := by
  unfold stV
  rcases hv : okL ps with _ | _
  · exact Nat.zero_le _
  · unfold okL at hv
    rw [Bool.and_eq_true, decide_eq_true_eq] at hv
    have := (spO_ok ps (ps.length - 1) (Nat.le_refl _)).1
    simp only [cond_true]
    omega
def RSt : TabR := fun f ds => match f, ds with
  | 136, [.row n (.ints xs)] => some (.slice (some ⟨0, 0, none⟩) (stV (ptsA n xs)).length (stV (ptsA n xs)).length, ⟨.row 41 2, .ints (flat (stV (ptsA n xs)))⟩, [n * 2 ≤ xs.length, n ≤ 1000000000])
  | _, _ => none
theorem RSt_ok : TabROk Try.prog RSt := by
  intro f ds v b C h hC
  unfold RSt at h
  split at h
  · rename_i n xs
    obtain ⟨rfl, rfl, rfl⟩ : _ ∧ _ ∧ _ := by simpa using h
    obtain ⟨h1, h2⟩ := ptsA_spec hC.1
    exact resR_pts1 (pre := []) (post := []) hC.1 (resR_sp (ptsA n xs) (by unfold Big; rw [h2]; exact hC.2.1))
  · cases h
end Go.Proofs.Ytolodncpegajkaa
namespace Go.Proofs.Ytolodncpegajkaa
set_option linter.all false
open Go.RowKit
set_option maxRecDepth 100000 in
theorem tr_pick (bs : List Int) (l c : Nat) (p k : Int) : bodyM Try.prog (tabE B0) (runM Try.prog (tabE B0) 30 12) 30 76 [.pointer (some ⟨1, 0, none⟩), .int .i64 k] (memR bs l c p none) .fin = brT (decide (k < 1)) (.fin (.int .i64 (0)) [some ⟨.view, .bytes (bs)⟩, some ⟨.box, .vals [.slice (some ⟨0, 0, none⟩) (l) (c), .int .i64 (IntKind.i64.wrap (p + 1))]⟩]) (brT ((↑l : Int) == 0) (.fin (.int .i64 (0)) [some ⟨.view, .bytes (bs)⟩, some ⟨.box, .vals [.slice (some ⟨0, 0, none⟩) (l) (c), .int .i64 (IntKind.i64.wrap (p + 1))]⟩]) (brT (decide (IntKind.i64.wrap (IntKind.i64.wrap (p + 1) - 1) < (↑l : Int))) (.need ((0 : Int) ≤ IntKind.i64.wrap (IntKind.i64.wrap (p + (1 : Int)) - (1 : Int)) ∧ IntKind.i64.wrap (IntKind.i64.wrap (p + (1 : Int)) - (1 : Int)) < (↑l : Int)) (.need ((0 : Nat) + (IntKind.i64.wrap (IntKind.i64.wrap (p + (1 : Int)) - (1 : Int))).toNat * (1 : Nat) < bs.length) (.need (¬k = (0 : Int)) (.fin (.int .i64 ((IntKind.i64.wrap (bs.getD (0 + (IntKind.i64.wrap (IntKind.i64.wrap (p + 1) - 1)).toNat * 1) 0)).tmod k)) [some ⟨.view, .bytes (bs)⟩, some ⟨.box, .vals [.slice (some ⟨0, 0, none⟩) (l) (c), .int .i64 (IntKind.i64.wrap (p + 1))]⟩])))) (.need (¬(↑l : Int) = (0 : Int)) (.need ((0 : Int) ≤ (IntKind.i64.wrap (IntKind.i64.wrap (p + (1 : Int)) - (1 : Int))).tmod (↑l : Int) ∧ (IntKind.i64.wrap (IntKind.i64.wrap (p + (1 : Int)) - (1 : Int))).tmod (↑l : Int) < (↑l : Int)) (.need ((0 : Nat) + ((IntKind.i64.wrap (IntKind.i64.wrap (p + (1 : Int)) - (1 : Int))).tmod (↑l : Int)).toNat * (1 : Nat) < bs.length) (.need (¬(↑l : Int) = (0 : Int)) (.need ((0 : Int) ≤ (IntKind.i64.wrap (IntKind.i64.wrap (IntKind.i64.wrap (IntKind.i64.wrap (p + (1 : Int)) - (1 : Int)) * (7 : Int)) + (3 : Int))).tmod (↑l : Int) ∧ (IntKind.i64.wrap (IntKind.i64.wrap (IntKind.i64.wrap (IntKind.i64.wrap (p + (1 : Int)) - (1 : Int)) * (7 : Int)) + (3 : Int))).tmod (↑l : Int) < (↑l : Int)) (.need ((0 : Nat) + ((IntKind.i64.wrap (IntKind.i64.wrap (IntKind.i64.wrap (IntKind.i64.wrap (p + (1 : Int)) - (1 : Int)) * (7 : Int)) + (3 : Int))).tmod (↑l : Int)).toNat * (1 : Nat) < bs.length) (.need (¬(↑l : Int) = (0 : Int)) (.need (¬(64 : Int) = (0 : Int)) (.need (¬k = (0 : Int)) (.fin (.int .i64 ((IntKind.i64.wrap (↑(BitVec.ofInt IntKind.i64.bits (IntKind.i64.wrap (IntKind.i64.wrap (IntKind.i64.wrap (IntKind.i64.wrap (IntKind.i64.wrap (bs.getD (0 + ((IntKind.i64.wrap (IntKind.i64.wrap (p + 1) - 1)).tmod (↑l : Int)).toNat * (1 : Nat)) 0) * 131) + IntKind.i64.wrap (IntKind.i64.wrap (bs.getD (0 + ((IntKind.i64.wrap (IntKind.i64.wrap (IntKind.i64.wrap (IntKind.i64.wrap (p + 1) - 1) * 7) + 3)).tmod (↑l : Int)).toNat * (1 : Nat)) 0) * 1117)) + IntKind.i64.wrap (IntKind.i64.wrap (IntKind.i64.wrap (p + 1) - 1) * 29)) + IntKind.i64.wrap (IntKind.i64.wrap ((IntKind.i64.wrap (IntKind.i64.wrap (p + 1) - 1)).tdiv (↑l : Int)) * 53))) ^^^ BitVec.ofInt IntKind.i64.bits (IntKind.i64.wrap ((IntKind.i64.wrap (IntKind.i64.wrap (IntKind.i64.wrap (IntKind.i64.wrap (IntKind.i64.wrap (bs.getD (0 + ((IntKind.i64.wrap (IntKind.i64.wrap (p + 1) - 1)).tmod (↑l : Int)).toNat * (1 : Nat)) 0) * 131) + IntKind.i64.wrap (IntKind.i64.wrap (bs.getD (0 + ((IntKind.i64.wrap (IntKind.i64.wrap (IntKind.i64.wrap (IntKind.i64.wrap (p + 1) - 1) * 7) + 3)).tmod (↑l : Int)).toNat * (1 : Nat)) 0) * 1117)) + IntKind.i64.wrap (IntKind.i64.wrap (IntKind.i64.wrap (p + 1) - 1) * 29)) + IntKind.i64.wrap (IntKind.i64.wrap ((IntKind.i64.wrap (IntKind.i64.wrap (p + 1) - 1)).tdiv (↑l : Int)) * 53))).tdiv 64))).toNat : Int)).tmod k)) [some ⟨.view, .bytes (bs)⟩, some ⟨.box, .vals [.slice (some ⟨0, 0, none⟩) (l) (c), .int .i64 (IntKind.i64.wrap (p + 1))]⟩])))))))))))) := by kernel_rfl
def xorI (x : Int) : Int := IntKind.i64.wrap (↑(BitVec.ofInt IntKind.i64.bits x ^^^ BitVec.ofInt IntKind.i64.bits (IntKind.i64.wrap (x.tdiv 64))).toNat : Int)
def mixI (bs : List Int) (l : Nat) (p : Int) : Int := bs.getD (p.tmod l).toNat 0 * 131 + bs.getD ((p * 7 + 3).tmod l).toNat 0 * 1117 + p * 29 + p.tdiv l * 53
/-- What pick answers. -/
def pickI (bs : List Int) (l : Nat) (p k : Int) : Int := if k < 1 ∨ l = 0 then 0 else if p < l then (bs.getD p.toNat 0).tmod k else (xorI (mixI bs l p)).tmod k
/-- Is the reader in order? -/
def rdC (bs : List Int) (l : Nat) (p : Int) : Prop := l ≤ bs.length ∧ l ≤ 2000 ∧ 0 ≤ p ∧ p ≤ 1000000 ∧ Bytes bs
def pickS : RSpec := fun bs l p rest ex => match rest, ex with
  | [.int .i64 k], none => some (.int .i64 (pickI bs l p k), p + 1, [rdC bs l p])
  | _, _ => none
theorem Bytes.get {bs : List Int} (h : Bytes bs) (i : Nat) : 0 ≤ bs.getD i 0 ∧ bs.getD i 0 ≤ 255 := by
  rw [List.getD_eq_getElem?_getD]
  rcases hx : bs[i]? with _ | b
  · simp
  · simpa using h b (List.mem_of_getElem? hx)
theorem xorI_bd {x : Int} (h0 : 0 ≤ x) (h1 : x < 4611686018427387904) : 0 ≤ xorI x ∧ xorI x < 9223372036854775808 := by
  have hq : 0 ≤ x.tdiv 64 ∧ x.tdiv 64 ≤ x := by
    rw [Int.tdiv_eq_ediv_of_nonneg h0]
    omega
  unfold xorI
  rw [wr (x := x.tdiv 64) (by omega)]
  obtain ⟨a, rfl⟩ := Int.eq_ofNat_of_zero_le h0
  obtain ⟨b, hb⟩ := Int.eq_ofNat_of_zero_le hq.1
  rw [hb]
  have hb' : (b : Int) ≤ a := by rw [← hb]; exact hq.2
  have e : (BitVec.ofInt IntKind.i64.bits (a : Int) ^^^ BitVec.ofInt IntKind.i64.bits (b : Int)).toNat = a ^^^ b := by
    show (BitVec.ofInt 64 (a : Int) ^^^ BitVec.ofInt 64 (b : Int)).toNat = a ^^^ b
    rw [BitVec.toNat_xor]
    simp only [BitVec.ofInt_natCast, BitVec.toNat_ofNat]
    rw [Nat.mod_eq_of_lt (by omega), Nat.mod_eq_of_lt (by omega)]
  have hlt : a ^^^ b < 2 ^ 63 := Nat.xor_lt_two_pow (by omega) (by omega)
  rw [e, wr (by omega)]
  omega
theorem mixI_bd {bs : List Int} {l : Nat} {p : Int} (h : rdC bs l p) (hl : 0 < l) : 0 ≤ mixI bs l p ∧ mixI bs l p < 1000000000 := by
  obtain ⟨_, h2, h3, h4, h5⟩ := h
  have b1 := h5.get (p.tmod l).toNat
  have b2 := h5.get ((p * 7 + 3).tmod l).toNat
  have q : 0 ≤ p.tdiv l ∧ p.tdiv l ≤ p := by
    rw [Int.tdiv_eq_ediv_of_nonneg h3]
    exact ⟨Int.ediv_nonneg h3 (by omega), Int.ediv_le_self _ h3⟩
  unfold mixI
  omega
theorem pickI_bd {bs : List Int} {l : Nat} {p k : Int} (h : rdC bs l p) (hk : 1 ≤ k) : 0 ≤ pickI bs l p k ∧ pickI bs l p k < k := by
  unfold pickI
  split
  · omega
  rename_i hn
  have hl : 0 < l := by omega
  split
  · exact ⟨Int.tmod_nonneg _ (h.2.2.2.2.get _).1, Int.tmod_lt_of_pos _ (by omega)⟩
  · have hm := mixI_bd h hl
    exact ⟨Int.tmod_nonneg _ (xorI_bd hm.1 (by omega)).1, Int.tmod_lt_of_pos _ (by omega)⟩
theorem vk {k : IntKind} {a b : Int} (h : a = b) : Value.int k a = .int k b := by rw [h]
theorem pickS_ok : SpecOk Try.prog 76 pickS := by
  intro bs l c p rest0 ex v p' C h hC
  unfold pickS at h
  split at h
  rotate_left
  · cases h
  rename_i k
  obtain ⟨rfl, rfl, rfl⟩ : Value.int .i64 (pickI bs l p k) = v ∧ p + 1 = p' ∧ [rdC bs l p] = C := by simpa using h
  have hC := hC.1
  have hg := fun i => hC.2.2.2.2.get i
  have hC0 := hC
  obtain ⟨h1, h2, h3, h4, h5⟩ := hC
  refine ⟨tabE B0, 30, 12, tabE_ok B0_ok, rfl, ?_⟩
  rw [tr_pick]
  have e1 : IntKind.i64.wrap (p + 1) = p + 1 := wr (by omega)
  have e2 : IntKind.i64.wrap (p + 1 - 1) = p := by rw [wr (by omega)]; omega
  have e3 : IntKind.i64.wrap (p * 7) = p * 7 := wr (by omega)
  have e4 : IntKind.i64.wrap (p * 7 + 3) = p * 7 + 3 := wr (by omega)
  simp only [e1, e2, e3, e4, Nat.zero_add, Nat.mul_one]
  refine brT_ok.2 ⟨fun hk => ?_, fun hk => brT_ok.2 ⟨fun hl => ?_, fun hl => brT_ok.2 ⟨fun hp => ?_, fun hp => ?_⟩⟩⟩
  · have hk := of_decide_eq_true hk
    refine ⟨vk ?_, rfl⟩
    unfold pickI
    rw [if_pos (.inl hk)]
  · have hl : l = 0 := by simpa using hl
    refine ⟨vk ?_, rfl⟩
    unfold pickI
    rw [if_pos (.inr hl)]
  · have hk := of_decide_eq_false hk
    have hl : ¬ l = 0 := by simpa using hl
    have hp := of_decide_eq_true hp
    refine ⟨⟨h3, hp⟩, by omega, by omega, vk ?_, rfl⟩
    rw [wr (by have := hg p.toNat; omega)]
    unfold pickI
    rw [if_neg (by omega), if_pos hp]
  · have hk := of_decide_eq_false hk
    have hl : ¬ l = 0 := by simpa using hl
    have hp := of_decide_eq_false hp
    have hl0 : (0 : Int) < l := by omega
    have t1 : 0 ≤ p.tmod l ∧ p.tmod l < l := ⟨Int.tmod_nonneg _ h3, Int.tmod_lt_of_pos _ hl0⟩
    have t2 : 0 ≤ (p * 7 + 3).tmod l ∧ (p * 7 + 3).tmod l < l := ⟨Int.tmod_nonneg _ (by omega), Int.tmod_lt_of_pos _ hl0⟩
    have q : 0 ≤ p.tdiv l ∧ p.tdiv l ≤ p := by
      rw [Int.tdiv_eq_ediv_of_nonneg h3]
      exact ⟨Int.ediv_nonneg h3 (by omega), Int.ediv_le_self _ h3⟩
    have b1 := hg (p.tmod l).toNat
    have b2 := hg ((p * 7 + 3).tmod l).toNat
    have hm := mixI_bd hC0 (by omega)
    refine ⟨by omega, t1, by omega, by omega, t2, by omega, by omega, by omega, by omega, vk ?_, rfl⟩
    unfold pickI
    rw [if_neg (by omega), if_neg (by omega)]
    have em : IntKind.i64.wrap (IntKind.i64.wrap (IntKind.i64.wrap (IntKind.i64.wrap (IntKind.i64.wrap (bs.getD (p.tmod l).toNat 0) * 131) + IntKind.i64.wrap (IntKind.i64.wrap (bs.getD ((p * 7 + 3).tmod l).toNat 0) * 1117)) + IntKind.i64.wrap (p * 29)) + IntKind.i64.wrap (IntKind.i64.wrap (p.tdiv l) * 53)) = mixI bs l p := by
      clear hm
      unfold mixI
      generalize bs.getD (p.tmod l).toNat 0 = x1 at *
      generalize bs.getD ((p * 7 + 3).tmod l).toNat 0 = x2 at *
      generalize p.tdiv l = x3 at *
      simp (disch := omega) only [wr]
    rw [em]
    rfl
/-- The first table: pick. -/
def J1 : List (FuncId × RSpec) := [(76, pickS)]
theorem J1_ok : JOk Try.prog J1 := JOk.nil.cons (entersB_res (by kernel_rfl)).1 pickS_ok
def ER1 : Env := withJ (tabE B0) J1
theorem ER1_ok : EnvOk Try.prog ER1 := withJ_ok mixed (tabE_ok B0_ok) J1_ok
set_option maxRecDepth 100000 in
theorem tr_one (bs : List Int) (l c : Nat) (p : Int) (n : Nat) (xs : List Int) : bodyM Try.prog ER1 (runM Try.prog ER1 30 12) 30 114 [.pointer (some ⟨1, 0, none⟩), .slice (some ⟨2, 0, none⟩) n n] (memR bs l c p (some xs)) .fin = .need (rdC bs l p) (.need ((0 : Int) ≤ pickI bs l p (↑n : Int) ∧ pickI bs l p (↑n : Int) < (↑n : Int)) (.need ((0 : Nat) + (pickI bs l p (↑n : Int)).toNat * (1 : Nat) < xs.length) (.fin (.int .i64 (xs.getD (0 + (pickI bs l p (↑n : Int)).toNat * 1) 0)) [some ⟨.view, .bytes (bs)⟩, some ⟨.box, .vals [.slice (some ⟨0, 0, none⟩) (l) (c), .int .i64 (p + 1)]⟩, some ⟨.view, .ints (xs)⟩]))) := by kernel_rfl
set_option maxRecDepth 100000 in
theorem tr_rpt (bs : List Int) (l c : Nat) (p : Int) : bodyM Try.prog ER1 (runM Try.prog ER1 30 12) 30 115 [.pointer (some ⟨1, 0, none⟩)] (memR bs l c p none) .fin = .need (rdC bs l p) (.need (rdC bs l (p + (1 : Int))) (.fin (.agg #[.int .i64 (IntKind.i64.wrap (pickI bs l p 9 - 2)), .int .i64 (IntKind.i64.wrap (pickI bs l (p + 1) 9 - 2))]) [some ⟨.view, .bytes (bs)⟩, some ⟨.box, .vals [.slice (some ⟨0, 0, none⟩) (l) (c), .int .i64 (p + 1 + 1)]⟩, some ⟨.box, .vals [.int .i64 (IntKind.i64.wrap (pickI bs l p 9 - 2)), .int .i64 (IntKind.i64.wrap (pickI bs l (p + 1) 9 - 2))]⟩])) := by kernel_rfl
end Go.Proofs.Ytolodncpegajkaa
namespace Go.Proofs.Ytolodncpegajkaa
set_option linter.all false
open Go.RowKit
/-- The reader in order, with room for many more. -/
def rdK (bs : List Int) (l : Nat) (p : Int) : Prop := rdC bs l p ∧ p ≤ 900000
theorem rdK.at {bs : List Int} {l : Nat} {p : Int} (h : rdK bs l p) {q : Int} (h0 : p ≤ q) (h1 : q ≤ p + 90000) : rdC bs l q :=
  ⟨h.1.1, h.1.2.1, by have := h.1.2.2.1; omega, by have := h.2; omega, h.1.2.2.2.2⟩
def oneI (bs : List Int) (l : Nat) (p : Int) (n : Nat) (xs : List Int) : Int := xs.getD (pickI bs l p n).toNat 0
def oneS : RSpec := fun bs l p rest ex => match rest, ex with
  | [.slice (some ⟨2, 0, none⟩) n n'], some xs => some (.int .i64 (oneI bs l p n xs), p + 1, [rdC bs l p, 1 ≤ n ∧ n ≤ xs.length ∧ n' = n])
  | _, _ => none
theorem oneS_ok : SpecOk Try.prog 114 oneS := by
  intro bs l c p rest0 ex v p' C h hC
  unfold oneS at h
  split at h
  rotate_left
  · cases h
  rename_i n n' xs
  obtain ⟨rfl, rfl, rfl⟩ : Value.int .i64 (oneI bs l p n xs) = v ∧ p + 1 = p' ∧ [rdC bs l p, 1 ≤ n ∧ n ≤ xs.length ∧ n' = n] = C := by simpa using h
  obtain ⟨h1, ⟨h2, h3, rfl⟩, _⟩ := hC
  refine ⟨ER1, 30, 12, ER1_ok, rfl, ?_⟩
  rw [tr_one]
  have hb := pickI_bd (k := (n' : Int)) h1 (by omega)
  exact ⟨h1, hb, by omega, by simp only [oneI, Nat.zero_add, Nat.mul_one], rfl⟩
def rptS : RSpec := fun bs l p rest ex => match rest, ex with
  | [], none => some (.agg #[.int .i64 (pickI bs l p 9 - 2), .int .i64 (pickI bs l (p + 1) 9 - 2)], p + 2, [rdK bs l p])
  | _, _ => none
theorem box2 {bs : List Int} {l c : Nat} {p q : Int} (h : q = p) (r : List (Option Blk)) : (some ⟨.view, .bytes bs⟩ :: some ⟨.box, .vals [.slice (some ⟨0, 0, none⟩) l c, .int .i64 q]⟩ :: r : List (Option Blk)).getD 1 none = some (rdBox 0 l c p) := by rw [h]; rfl
theorem rptS_ok : SpecOk Try.prog 115 rptS := by
  intro bs l c p rest0 ex v p' C h hC
  unfold rptS at h
  split at h
  rotate_left
  · cases h
  obtain ⟨rfl, rfl, rfl⟩ : Value.agg #[.int .i64 (pickI bs l p 9 - 2), .int .i64 (pickI bs l (p + 1) 9 - 2)] = v ∧ p + 2 = p' ∧ [rdK bs l p] = C := by simpa using h
  have h1 := hC.1
  refine ⟨ER1, 30, 12, ER1_ok, rfl, ?_⟩
  rw [tr_rpt]
  have h2 := h1.at (q := p) (by omega) (by omega)
  have h3 := h1.at (q := p + 1) (by omega) (by omega)
  have b1 := pickI_bd (k := 9) h2 (by omega)
  have b2 := pickI_bd (k := 9) h3 (by omega)
  exact ⟨h2, h3, by rw [wr (by omega), wr (by omega)], box2 (by omega) _⟩
def J2 : List (FuncId × RSpec) := (114, oneS) :: (115, rptS) :: J1
theorem J2_ok : JOk Try.prog J2 := (J1_ok.cons (entersB_res (by kernel_rfl)).1 rptS_ok).cons (entersB_res (by kernel_rfl)).1 oneS_ok
def ER2 : Env := withJ (tabE B0) J2
theorem ER2_ok : EnvOk Try.prog ER2 := withJ_ok mixed (tabE_ok B0_ok) J2_ok
set_option maxRecDepth 100000 in
theorem tr_apt (bs : List Int) (l c : Nat) (p : Int) : bodyM Try.prog ER2 (runM Try.prog ER2 30 12) 30 131 [.pointer (some ⟨1, 0, none⟩)] (memR bs l c p none) .fin = .need (rdK bs l p) (.need (rdC bs l (p + (2 : Int))) (brT (pickI bs l (p + 2) 16 == 0) (.need (rdC bs l (p + (2 : Int) + (1 : Int))) (.need ((1 : Nat) ≤ (4 : Nat) ∧ (4 : Nat) ≤ (4 : Nat) ∧ (4 : Nat) = (4 : Nat)) (.fin (.agg #[.int .i64 (oneI bs l (p + 2 + 1) 4 [1001, -1001, 1000, -1000]), .int .i64 (pickI bs l (p + 1) 9 - 2)]) [some ⟨.view, .bytes (bs)⟩, some ⟨.box, .vals [.slice (some ⟨0, 0, none⟩) (l) (c), .int .i64 (p + 2 + 1 + 1)]⟩, some ⟨.box, .vals [.int .i64 (oneI bs l (p + 2 + 1) 4 [1001, -1001, 1000, -1000]), .int .i64 (pickI bs l (p + 1) 9 - 2)]⟩, some ⟨.box, .vals [.int .i64 (oneI bs l (p + 2 + 1) 4 [1001, -1001, 1000, -1000]), .int .i64 (pickI bs l (p + 1) 9 - 2)]⟩, some ⟨.row 3 1, .vals [.int .i64 (1001), .int .i64 (-1001), .int .i64 (1000), .int .i64 (-1000)]⟩]))) (brT (pickI bs l (p + 2) 16 == 1) (.need (rdC bs l (p + (2 : Int) + (1 : Int))) (.need ((1 : Nat) ≤ (4 : Nat) ∧ (4 : Nat) ≤ (4 : Nat) ∧ (4 : Nat) = (4 : Nat)) (.fin (.agg #[.int .i64 (pickI bs l p 9 - 2), .int .i64 (oneI bs l (p + 2 + 1) 4 [1001, -1001, 1000, -1000])]) [some ⟨.view, .bytes (bs)⟩, some ⟨.box, .vals [.slice (some ⟨0, 0, none⟩) (l) (c), .int .i64 (p + 2 + 1 + 1)]⟩, some ⟨.box, .vals [.int .i64 (pickI bs l p 9 - 2), .int .i64 (oneI bs l (p + 2 + 1) 4 [1001, -1001, 1000, -1000])]⟩, some ⟨.box, .vals [.int .i64 (pickI bs l p 9 - 2), .int .i64 (oneI bs l (p + 2 + 1) 4 [1001, -1001, 1000, -1000])]⟩, some ⟨.row 3 1, .vals [.int .i64 (1001), .int .i64 (-1001), .int .i64 (1000), .int .i64 (-1000)]⟩]))) (.fin (.agg #[.int .i64 (pickI bs l p 9 - 2), .int .i64 (pickI bs l (p + 1) 9 - 2)]) [some ⟨.view, .bytes (bs)⟩, some ⟨.box, .vals [.slice (some ⟨0, 0, none⟩) (l) (c), .int .i64 (p + 2 + 1)]⟩, some ⟨.box, .vals [.int .i64 (pickI bs l p 9 - 2), .int .i64 (pickI bs l (p + 1) 9 - 2)]⟩, some ⟨.box, .vals [.int .i64 (pickI bs l p 9 - 2), .int .i64 (pickI bs l (p + 1) 9 - 2)]⟩])))) := by kernel_rfl
def farI : List Int := [1001, -1001, 1000, -1000]
def apQ (bs : List Int) (l : Nat) (p : Int) : Int := pickI bs l (p + 2) 16
def apX (bs : List Int) (l : Nat) (p : Int) : Int := if apQ bs l p = 0 then oneI bs l (p + 3) 4 farI else pickI bs l p 9 - 2
def apY (bs : List Int) (l : Nat) (p : Int) : Int := if apQ bs l p = 1 then oneI bs l (p + 3) 4 farI else pickI bs l (p + 1) 9 - 2
def apP (bs : List Int) (l : Nat) (p : Int) : Int := if apQ bs l p = 0 ∨ apQ bs l p = 1 then p + 4 else p + 3
theorem apP_bd (bs : List Int) (l : Nat) (p : Int) : p + 3 ≤ apP bs l p ∧ apP bs l p ≤ p + 4 := by unfold apP; split <;> omega
def aptS : RSpec := fun bs l p rest ex => match rest, ex with
  | [], none => some (.agg #[.int .i64 (apX bs l p), .int .i64 (apY bs l p)], apP bs l p, [rdK bs l p])
  | _, _ => none
theorem veq2 {a a' b b' : Int} (h : a = a') (k : b = b') : Value.agg #[.int .i64 a, .int .i64 b] = .agg #[.int .i64 a', .int .i64 b'] := by rw [h, k]
theorem aptS_ok : SpecOk Try.prog 131 aptS := by
  intro bs l c p rest0 ex v p' C h hC
  unfold aptS at h
  split at h
  rotate_left
  · cases h
  obtain ⟨rfl, rfl, rfl⟩ : Value.agg #[.int .i64 (apX bs l p), .int .i64 (apY bs l p)] = v ∧ apP bs l p = p' ∧ [rdK bs l p] = C := by simpa using h
  have h1 := hC.1
  refine ⟨ER2, 30, 12, ER2_ok, rfl, ?_⟩
  rw [tr_apt]
  have e3 : p + 2 + 1 = p + 3 := by omega
  have e4 : p + 3 + 1 = p + 4 := by omega
  simp only [e3, e4]
  refine ⟨h1, h1.at (by omega) (by omega), brT_ok.2 ⟨fun hq => ?_, fun hq => brT_ok.2 ⟨fun hq' => ?_, fun hq' => ?_⟩⟩⟩
  · have hq : apQ bs l p = 0 := by simpa [apQ] using hq
    exact ⟨h1.at (by omega) (by omega), by decide, veq2 (by unfold apX; rw [if_pos hq]; rfl) (by unfold apY; rw [if_neg (by omega)]), box2 (by unfold apP; rw [if_pos (.inl hq)]) _⟩
  · have hq : ¬ apQ bs l p = 0 := by simpa [apQ] using hq
    have hq' : apQ bs l p = 1 := by simpa [apQ] using hq'
    exact ⟨h1.at (by omega) (by omega), by decide, veq2 (by unfold apX; rw [if_neg hq]) (by unfold apY; rw [if_pos hq']; rfl), box2 (by unfold apP; rw [if_pos (.inr hq')]) _⟩
  · have hq : ¬ apQ bs l p = 0 := by simpa [apQ] using hq
    have hq' : ¬ apQ bs l p = 1 := by simpa [apQ] using hq'
    exact ⟨veq2 (by unfold apX; rw [if_neg hq]) (by unfold apY; rw [if_neg hq']), box2 (by unfold apP; rw [if_neg (by omega)]) _⟩
def J3 : List (FuncId × RSpec) := (131, aptS) :: J2
theorem J3_ok : JOk Try.prog J3 := J2_ok.cons (entersB_res (by kernel_rfl)).1 aptS_ok
end Go.Proofs.Ytolodncpegajkaa
namespace Go.Proofs.Ytolodncpegajkaa
set_option linter.all false
open Go.RowKit
/-- How many bytes are read. -/
def rdL (n : Nat) : Nat := min n 2000
theorem rdL_of {n : Nat} (h : 2000 < (n : Int)) : rdL n = 2000 := by unfold rdL; omega
theorem rdL_no {n : Nat} (h : ¬ 2000 < (n : Int)) : rdL n = n := by unfold rdL; omega
theorem rdK0 {bs : List Int} {n : Nat} (h : Bytes bs) (hn : n ≤ bs.length) {l : Nat} (hl : l ≤ n) (h2 : l ≤ 2000) {p : Int} (h3 : 0 ≤ p) (h4 : p ≤ 900000) : rdK bs l p :=
  ⟨⟨by omega, h2, h3, by omega, h⟩, h4⟩
/-- The coordinates of the three points. -/
def d3 (bs : List Int) (n : Nat) : Nat → Int
  | 0 => apX bs (rdL n) 0
  | 1 => apY bs (rdL n) 0
  | 2 => apX bs (rdL n) (apP bs (rdL n) 0)
  | 3 => apY bs (rdL n) (apP bs (rdL n) 0)
  | 4 => apX bs (rdL n) (apP bs (rdL n) (apP bs (rdL n) 0))
  | _ => apY bs (rdL n) (apP bs (rdL n) (apP bs (rdL n) 0))
end Go.Proofs.Ytolodncpegajkaa
namespace Go.Proofs.Ytolodncpegajkaa
set_option linter.all false
open Go.RowKit
/-- One drawn point of a list of the kind k. -/
def rpt (bs : List Int) (l : Nat) (k p : Int) : Pt :=
  bif k == 0 then (pickI bs l p 9 - 2, IntKind.i64.wrap (IntKind.i64.wrap (2 * (pickI bs l p 9 - 2)) + 1))
  else bif k == 1 then (IntKind.i64.wrap ((pickI bs l p 9 - 2) * 100), IntKind.i64.wrap ((pickI bs l (p + 1) 9 - 2) * 37))
  else (pickI bs l p 9 - 2, pickI bs l (p + 1) 9 - 2)
/-- So many drawn points. -/
def rpL (bs : List Int) (l : Nat) (k : Int) : Nat → Int → List Pt
  | 0, _ => []
  | n + 1, p => rpt bs l k p :: rpL bs l k n (p + 2)
theorem rpL_len (bs : List Int) (l : Nat) (k : Int) : ∀ (n : Nat) (p : Int), (rpL bs l k n p).length = n
  | 0, _ => rfl
  | n + 1, p => by simp [rpL, rpL_len bs l k n]
theorem rpL_step (bs : List Int) (l : Nat) (k : Int) (n : Nat) (p : Int) (o : List Pt) : o ++ rpL bs l k (n + 1) p = (o ++ [rpt bs l k p]) ++ rpL bs l k n (p + 2) := by
  simp [rpL]
theorem flatA (o : List Pt) : List.take (o.length * 2) (List.drop 0 (flat o)) = flat o := by rw [List.drop_zero, flat_all]
noncomputable def c_rpts : Code := ((loopsOf (codeOf Try.f130))[0]?).getD .skip
def k_rpts : Ex → List Nat := keeps [0, 5, 6, 7] [(0, [5])] [4]
def s_rpts (bs : List Int) (l c : Nat) (k q : Int) : Nat × (List Pt) × Int → St := fun (n, o, p) => ⟨(.pointer (some ⟨1, 0, none⟩) :: topV :: topV :: topV :: topV :: .slice (some ⟨3, 0, none⟩) o.length o.length :: .int .i64 k :: .int .i64 n :: topV :: topV :: topV :: topV :: topV :: topV :: topV :: topV :: topV :: topV :: topV :: topV :: topV :: topV :: topV :: topV :: topV :: topV :: topV :: topV :: topV :: topV :: topV :: topV :: topV :: topV :: topV :: topV :: topV :: topV :: topV :: topV :: topV :: topV :: topV :: []), [some ⟨.view, .bytes bs⟩, some ⟨.box, .vals [.slice (some ⟨0, 0, none⟩) l c, .int .i64 p]⟩, some ⟨.dead, .vals []⟩, some ⟨.row 37 2, .ints (flat o)⟩]⟩
def re_rpts : Nat × (List Pt) × Int → Ex := fun _ => .exit 0
def rs_rpts (bs : List Int) (l c : Nat) (k q : Int) : Nat × (List Pt) × Int → St := fun (n, o, p) => ⟨(topV :: topV :: topV :: topV :: topV :: .slice (some ⟨3, 0, none⟩) (o ++ rpL bs l k n p).length (o ++ rpL bs l k n p).length :: topV :: topV :: topV :: topV :: topV :: topV :: topV :: topV :: topV :: topV :: topV :: topV :: topV :: topV :: topV :: topV :: topV :: topV :: topV :: topV :: topV :: topV :: topV :: topV :: topV :: topV :: topV :: topV :: topV :: topV :: topV :: topV :: topV :: topV :: topV :: topV :: topV :: []), [some ⟨.view, .bytes bs⟩, some ⟨.box, .vals [.slice (some ⟨0, 0, none⟩) l c, .int .i64 q]⟩, some ⟨.dead, .vals []⟩, some ⟨.row 37 2, .ints (flat (o ++ rpL bs l k n p))⟩]⟩
set_option maxRecDepth 100000 in
theorem tr_rpts (bs : List Int) (l c : Nat) (k q : Int) (n : Nat) (o : List Pt) (p : Int) : bodyL Try.prog ER2 30 12 noL 1 c_rpts k_rpts 16 (s_rpts bs l c k q (n, o, p)) = brT (decide (0 < (↑n : Int))) (.need (rdK bs l p) (brT (k == 0) (brT (k == 1) (.need ((o.length + (1 : Nat)) * (16 : Nat) ≤ (140737488355328 : Nat) ∧ o.length + (1 : Nat) ≤ (1000000 : Nat)) (.need ((0 : Nat) + o.length * (2 : Nat) ≤ (flat o).length) (.leaf .normal ⟨(.pointer (some ⟨1, 0, none⟩) :: topV :: topV :: topV :: topV :: .slice (some ⟨6, 0, none⟩) (o.length + 1) (o.length + 1) :: .int .i64 (k) :: .int .i64 (IntKind.i64.wrap ((↑n : Int) - 1)) :: topV :: topV :: topV :: topV :: topV :: topV :: topV :: topV :: topV :: topV :: topV :: topV :: topV :: topV :: topV :: topV :: topV :: topV :: topV :: topV :: topV :: topV :: topV :: topV :: topV :: topV :: topV :: topV :: topV :: topV :: topV :: topV :: topV :: topV :: topV :: []), [some ⟨.view, .bytes (bs)⟩, some ⟨.box, .vals [.slice (some ⟨0, 0, none⟩) (l) (c), .int .i64 (p + 2)]⟩, some deadB, some deadB, some ⟨.box, .vals [.int .i64 (IntKind.i64.wrap ((pickI bs l p 9 - 2) * 100)), .int .i64 (IntKind.i64.wrap (IntKind.i64.wrap (IntKind.i64.wrap (2 * (pickI bs l p 9 - 2)) + 1) * 37))]⟩, some ⟨.row 37 2, .vals [.int .i64 (IntKind.i64.wrap ((pickI bs l p 9 - 2) * 100)), .int .i64 (IntKind.i64.wrap (IntKind.i64.wrap (IntKind.i64.wrap (2 * (pickI bs l p 9 - 2)) + 1) * 37))]⟩, some ⟨.row 37 2, .ints (List.take (o.length * 2) (List.drop 0 (flat o)) ++ [IntKind.i64.wrap ((pickI bs l p 9 - 2) * 100), IntKind.i64.wrap (IntKind.i64.wrap (IntKind.i64.wrap (2 * (pickI bs l p 9 - 2)) + 1) * 37)])⟩]⟩))) (.need ((o.length + (1 : Nat)) * (16 : Nat) ≤ (140737488355328 : Nat) ∧ o.length + (1 : Nat) ≤ (1000000 : Nat)) (.need ((0 : Nat) + o.length * (2 : Nat) ≤ (flat o).length) (.leaf .normal ⟨(.pointer (some ⟨1, 0, none⟩) :: topV :: topV :: topV :: topV :: .slice (some ⟨6, 0, none⟩) (o.length + 1) (o.length + 1) :: .int .i64 (k) :: .int .i64 (IntKind.i64.wrap ((↑n : Int) - 1)) :: topV :: topV :: topV :: topV :: topV :: topV :: topV :: topV :: topV :: topV :: topV :: topV :: topV :: topV :: topV :: topV :: topV :: topV :: topV :: topV :: topV :: topV :: topV :: topV :: topV :: topV :: topV :: topV :: topV :: topV :: topV :: topV :: topV :: topV :: topV :: []), [some ⟨.view, .bytes (bs)⟩, some ⟨.box, .vals [.slice (some ⟨0, 0, none⟩) (l) (c), .int .i64 (p + 2)]⟩, some deadB, some deadB, some ⟨.box, .vals [.int .i64 (pickI bs l p 9 - 2), .int .i64 (IntKind.i64.wrap (IntKind.i64.wrap (2 * (pickI bs l p 9 - 2)) + 1))]⟩, some ⟨.row 37 2, .vals [.int .i64 (pickI bs l p 9 - 2), .int .i64 (IntKind.i64.wrap (IntKind.i64.wrap (2 * (pickI bs l p 9 - 2)) + 1))]⟩, some ⟨.row 37 2, .ints (List.take (o.length * 2) (List.drop 0 (flat o)) ++ [pickI bs l p 9 - 2, IntKind.i64.wrap (IntKind.i64.wrap (2 * (pickI bs l p 9 - 2)) + 1)])⟩]⟩)))) (brT (k == 1) (.need ((o.length + (1 : Nat)) * (16 : Nat) ≤ (140737488355328 : Nat) ∧ o.length + (1 : Nat) ≤ (1000000 : Nat)) (.need ((0 : Nat) + o.length * (2 : Nat) ≤ (flat o).length) (.leaf .normal ⟨(.pointer (some ⟨1, 0, none⟩) :: topV :: topV :: topV :: topV :: .slice (some ⟨6, 0, none⟩) (o.length + 1) (o.length + 1) :: .int .i64 (k) :: .int .i64 (IntKind.i64.wrap ((↑n : Int) - 1)) :: topV :: topV :: topV :: topV :: topV :: topV :: topV :: topV :: topV :: topV :: topV :: topV :: topV :: topV :: topV :: topV :: topV :: topV :: topV :: topV :: topV :: topV :: topV :: topV :: topV :: topV :: topV :: topV :: topV :: topV :: topV :: topV :: topV :: topV :: topV :: []), [some ⟨.view, .bytes (bs)⟩, some ⟨.box, .vals [.slice (some ⟨0, 0, none⟩) (l) (c), .int .i64 (p + 2)]⟩, some deadB, some deadB, some ⟨.box, .vals [.int .i64 (IntKind.i64.wrap ((pickI bs l p 9 - 2) * 100)), .int .i64 (IntKind.i64.wrap ((pickI bs l (p + 1) 9 - 2) * 37))]⟩, some ⟨.row 37 2, .vals [.int .i64 (IntKind.i64.wrap ((pickI bs l p 9 - 2) * 100)), .int .i64 (IntKind.i64.wrap ((pickI bs l (p + 1) 9 - 2) * 37))]⟩, some ⟨.row 37 2, .ints (List.take (o.length * 2) (List.drop 0 (flat o)) ++ [IntKind.i64.wrap ((pickI bs l p 9 - 2) * 100), IntKind.i64.wrap ((pickI bs l (p + 1) 9 - 2) * 37)])⟩]⟩))) (.need ((o.length + (1 : Nat)) * (16 : Nat) ≤ (140737488355328 : Nat) ∧ o.length + (1 : Nat) ≤ (1000000 : Nat)) (.need ((0 : Nat) + o.length * (2 : Nat) ≤ (flat o).length) (.leaf .normal ⟨(.pointer (some ⟨1, 0, none⟩) :: topV :: topV :: topV :: topV :: .slice (some ⟨6, 0, none⟩) (o.length + 1) (o.length + 1) :: .int .i64 (k) :: .int .i64 (IntKind.i64.wrap ((↑n : Int) - 1)) :: topV :: topV :: topV :: topV :: topV :: topV :: topV :: topV :: topV :: topV :: topV :: topV :: topV :: topV :: topV :: topV :: topV :: topV :: topV :: topV :: topV :: topV :: topV :: topV :: topV :: topV :: topV :: topV :: topV :: topV :: topV :: topV :: topV :: topV :: topV :: []), [some ⟨.view, .bytes (bs)⟩, some ⟨.box, .vals [.slice (some ⟨0, 0, none⟩) (l) (c), .int .i64 (p + 2)]⟩, some deadB, some deadB, some ⟨.box, .vals [.int .i64 (pickI bs l p 9 - 2), .int .i64 (pickI bs l (p + 1) 9 - 2)]⟩, some ⟨.row 37 2, .vals [.int .i64 (pickI bs l p 9 - 2), .int .i64 (pickI bs l (p + 1) 9 - 2)]⟩, some ⟨.row 37 2, .ints (List.take (o.length * 2) (List.drop 0 (flat o)) ++ [pickI bs l p 9 - 2, pickI bs l (p + 1) 9 - 2])⟩]⟩)))))) (.leaf (.exit 0) ⟨(topV :: topV :: topV :: topV :: topV :: .slice (some ⟨3, 0, none⟩) (o.length) (o.length) :: topV :: topV :: topV :: topV :: topV :: topV :: topV :: topV :: topV :: topV :: topV :: topV :: topV :: topV :: topV :: topV :: topV :: topV :: topV :: topV :: topV :: topV :: topV :: topV :: topV :: topV :: topV :: topV :: topV :: topV :: topV :: topV :: topV :: topV :: topV :: topV :: topV :: []), [some ⟨.view, .bytes (bs)⟩, some ⟨.box, .vals [.slice (some ⟨0, 0, none⟩) (l) (c), .int .i64 (p)]⟩, some deadB, some ⟨.row 37 2, .ints (flat o)⟩]⟩) := by kernel_rfl
set_option maxRecDepth 100000 in
theorem nl_rpts : loopsOf c_rpts = [] := by kernel_rfl
def inv_rpts (bs : List Int) (l c : Nat) (k q : Int) : Nat × (List Pt) × Int → Prop := fun (n, o, p) => o.length + n ≤ 100 ∧ q = p + 2 * n ∧ 0 ≤ p ∧ q ≤ 900000
def me_rpts (bs : List Int) (l c : Nat) (k q : Int) : Nat × (List Pt) × Int → Nat := fun (n, o, p) => n
/-- A round of this loop. -/
def Round_rpts (bs : List Int) (l c : Nat) (k q : Int) : Prop := ∀ xx : Nat × (List Pt) × Int, inv_rpts bs l c k q xx → (bodyL Try.prog ER2 30 12 noL 1 c_rpts k_rpts 16 (s_rpts bs l c k q xx)).ok (RoundEnd 3 (s_rpts bs l c k q) (inv_rpts bs l c k q) (me_rpts bs l c k q) re_rpts (rs_rpts bs l c k q) xx) (fun _ _ => False)
def e_rpts (s : St) (k : Ex → St → Tree) : Option Tree := match Nat.beq s.tmps.length 43, pickL s.tmps [0, 5, 6, 7], s.mem with
  | true, [.pointer (some ⟨1, 0, none⟩), .slice (some ⟨2, 0, none⟩) z _, .int .i64 k1, .int .i64 n1], [some ⟨.view, .bytes bs⟩, some ⟨.box, .vals [.slice (some ⟨0, 0, none⟩) l c, .int .i64 p]⟩, some ⟨.row 37 2, .vals []⟩] => some (needs [z = 0, 0 ≤ n1 ∧ n1 ≤ 100, l ≤ bs.length ∧ l ≤ 2000 ∧ Bytes bs, 0 ≤ p ∧ p ≤ 800000] (k (.exit 0) ⟨(topV :: topV :: topV :: topV :: topV :: .slice (some ⟨3, 0, none⟩) (rpL bs l k1 n1.toNat p).length (rpL bs l k1 n1.toNat p).length :: topV :: topV :: topV :: topV :: topV :: topV :: topV :: topV :: topV :: topV :: topV :: topV :: topV :: topV :: topV :: topV :: topV :: topV :: topV :: topV :: topV :: topV :: topV :: topV :: topV :: topV :: topV :: topV :: topV :: topV :: topV :: topV :: topV :: topV :: topV :: topV :: topV :: []), [some ⟨.view, .bytes bs⟩, some ⟨.box, .vals [.slice (some ⟨0, 0, none⟩) l c, .int .i64 (p + 2 * n1)]⟩, some ⟨.dead, .vals []⟩, some ⟨.row 37 2, .ints (flat (rpL bs l k1 n1.toNat p))⟩]⟩))
  | _, _, _ => none
theorem rpt0 {bs : List Int} {l : Nat} {k p : Int} (h : k = 0) : rpt bs l k p = (pickI bs l p 9 - 2, IntKind.i64.wrap (IntKind.i64.wrap (2 * (pickI bs l p 9 - 2)) + 1)) := by
  subst h; rfl
theorem rpt1 {bs : List Int} {l : Nat} {k p : Int} (h : k = 1) : rpt bs l k p = (IntKind.i64.wrap ((pickI bs l p 9 - 2) * 100), IntKind.i64.wrap ((pickI bs l (p + 1) 9 - 2) * 37)) := by
  subst h; rfl
theorem rpt2 {bs : List Int} {l : Nat} {k p : Int} (h : ¬ k = 0) (h' : ¬ k = 1) : rpt bs l k p = (pickI bs l p 9 - 2, pickI bs l (p + 1) 9 - 2) := by
  unfold rpt
  rw [beq_eq_false_iff_ne.2 h, beq_eq_false_iff_ne.2 h']
  rfl
set_option maxRecDepth 100000 in
theorem round_rpts (bs : List Int) (l c : Nat) (k q : Int) (h : l ≤ bs.length ∧ l ≤ 2000 ∧ Bytes bs) : Round_rpts bs l c k q := by
  rintro ⟨n, o, p⟩ ⟨h1, h2, h3, h4⟩
  rw [tr_rpts]
  simp only [brT_ok, Tree.ok, decide_eq_true_eq, decide_eq_false_iff_not, flatA, flat_length, Nat.zero_add, beq_iff_eq, beq_eq_false_iff_ne, ne_eq]
  have hr : rdK bs l p := ⟨⟨h.1, h.2.1, h3, by omega, h.2.2⟩, by omega⟩
  refine ⟨fun hlt => ⟨hr, ?_⟩, fun hge => ?_⟩
  · obtain ⟨n, rfl⟩ : ∃ m, n = m + 1 := ⟨n - 1, by omega⟩
    have e : IntKind.i64.wrap (((n + 1 : Nat) : Int) - 1) = (n : Int) := by rw [wr (by omega)]; omega
    rw [e]
    refine ⟨fun g0 => ⟨fun g1 => by omega, fun g1 => ?_⟩, fun g0 => ⟨fun g1 => ?_, fun g1 => ?_⟩⟩
    · rw [flat_snoc, ← rpt0 g0]
      refine ⟨by omega, by omega, (n, o ++ [rpt bs l k p], p + 2), [some 6], ⟨by simp; omega, by omega, by omega, by omega⟩, ?_, rfl, ?_, ?_⟩
      · show n < n + 1; omega
      · simp only [rs_rpts, rpL_step]
      · repeat' (first | exact True.intro | exact rfl | exact fun _ => rfl | (simp; done) | refine And.intro ?_ ?_)
    · rw [flat_snoc, ← rpt1 g1]
      refine ⟨by omega, by omega, (n, o ++ [rpt bs l k p], p + 2), [some 6], ⟨by simp; omega, by omega, by omega, by omega⟩, ?_, rfl, ?_, ?_⟩
      · show n < n + 1; omega
      · simp only [rs_rpts, rpL_step]
      · repeat' (first | exact True.intro | exact rfl | exact fun _ => rfl | (simp; done) | refine And.intro ?_ ?_)
    · rw [flat_snoc, ← rpt2 g0 g1]
      refine ⟨by omega, by omega, (n, o ++ [rpt bs l k p], p + 2), [some 6], ⟨by simp; omega, by omega, by omega, by omega⟩, ?_, rfl, ?_, ?_⟩
      · show n < n + 1; omega
      · simp only [rs_rpts, rpL_step]
      · repeat' (first | exact True.intro | exact rfl | exact fun _ => rfl | (simp; done) | refine And.intro ?_ ?_)
  · obtain rfl : n = 0 := by omega
    refine ⟨rfl, [some 3], ?_⟩
    obtain rfl : q = p := by omega
    simp only [rs_rpts, rpL, List.append_nil]
    repeat' (first | exact True.intro | exact rfl | exact fun _ => rfl | refine And.intro ?_ ?_)
set_option maxRecDepth 100000 in
theorem lg_rpts : LoopE Try.prog e_rpts c_rpts := by
  intro s k t F H hlt ht
  unfold e_rpts at hlt
  split at hlt
  rotate_left
  · cases hlt
  rename_i hlen hpick hmem
  obtain ⟨tmps, mem⟩ := s
  simp only at hlen hpick hmem
  subst hmem
  obtain rfl := Option.some.inj hlt
  obtain ⟨⟨rfl, h1, h2, h3, _⟩, ht2⟩ := needs_ok ht
  clear ht hlt
  obtain ⟨n, rfl⟩ := Int.eq_ofNat_of_zero_le h1.1
  simp only [Int.toNat_natCast] at ht2
  refine ⟨_, _, ht2, loop_run2 mixed ER2_ok (s_rpts _ _ _ _ _) (inv_rpts _ _ _ _ _) (me_rpts _ _ _ _ _) re_rpts (rs_rpts _ _ _ _ _) k_rpts (fun _ => rfl) (noLoops nl_rpts) (round_rpts _ _ _ _ _ h2) (x := (n, [], _)) ⟨by simp; omega, rfl, h3.1, by omega⟩ (π := [some 2]) rfl ?_⟩
  refine ⟨rfl, rfl, ?_, wvs_spread' [0, 5, 6, 7] hlen rfl ?_⟩
  · repeat' (first | exact True.intro | exact rfl | exact wv_top _ _ | exact fun _ => rfl | assumption | exact Eq.symm (by assumption) | exact vI0 rfl | refine And.intro ?_ ?_)
  · rw [hpick]
    repeat' (first | exact True.intro | exact rfl | exact wv_top _ _ | exact fun _ => rfl | assumption | exact Eq.symm (by assumption) | exact vI0 rfl | refine And.intro ?_ ?_)
theorem Lr_rpts {fn : Func} (hf : Try.prog.funcs[130]? = some fn) : LoopsGood Try.prog (lt1 e_rpts) 0 (codeOf fn) := by
  obtain rfl := fn_is Try.func130 hf
  exact lt1_good lg_rpts
def LRd1 : FuncId → LT := fun f => match f with
  | 130 => lt1 e_rpts
  | _ => noL
def ERL : Env := ⟨B0, fun _ _ => none, LRd1, tabJ J2, fun _ => noR⟩
theorem ERL_ok : EnvOk Try.prog ERL := ⟨B0_ok, fun _ _ _ _ _ h => (by cases h), (by
  intro f fn hf
  show LoopsGood Try.prog (LRd1 f) 0 (codeOf fn)
  unfold LRd1
  split
  all_goals first | with_reducible exact Lr_rpts hf | exact noL_good), tabJ_sound mixed J2_ok, fun _ _ _ => noR_good⟩
set_option maxRecDepth 100000 in
theorem tr_rptsF (bs : List Int) (l c : Nat) (p m : Int) : bodyM Try.prog ERL (runM Try.prog ERL 30 12) 30 130 [.pointer (some ⟨1, 0, none⟩), .int .i64 m] (memR bs l c p none) .fin = .need (rdC bs l p) (.need (rdC bs l (p + (1 : Int))) (.need ((0 : Nat) = (0 : Nat)) (.need ((0 : Int) ≤ pickI bs l (p + (1 : Int)) (IntKind.i64.wrap (m + (1 : Int))) ∧ pickI bs l (p + (1 : Int)) (IntKind.i64.wrap (m + (1 : Int))) ≤ (100 : Int)) (.need (l ≤ bs.length ∧ l ≤ (2000 : Nat) ∧ Bytes bs) (.need ((0 : Int) ≤ p + (1 : Int) + (1 : Int) ∧ p + (1 : Int) + (1 : Int) ≤ (800000 : Int)) (.fin (.slice (some ⟨3, 0, none⟩) ((rpL bs l (pickI bs l p 6) (pickI bs l (p + 1) (IntKind.i64.wrap (m + 1))).toNat (p + 1 + 1)).length) ((rpL bs l (pickI bs l p 6) (pickI bs l (p + 1) (IntKind.i64.wrap (m + 1))).toNat (p + 1 + 1)).length)) [some ⟨.view, .bytes (bs)⟩, some ⟨.box, .vals [.slice (some ⟨0, 0, none⟩) (l) (c), .int .i64 (p + 1 + 1 + 2 * pickI bs l (p + 1) (IntKind.i64.wrap (m + 1)))]⟩, some deadB, some ⟨.row 37 2, .ints (flat (rpL bs l (pickI bs l p 6) (pickI bs l (p + 1) (IntKind.i64.wrap (m + 1))).toNat (p + 1 + 1)))⟩])))))) := by kernel_rfl
def rpN (bs : List Int) (l : Nat) (p m : Int) : Int := pickI bs l (p + 1) (m + 1)
/-- A drawn list. -/
def rpsL (bs : List Int) (l : Nat) (p m : Int) : List Pt := rpL bs l (pickI bs l p 6) (rpN bs l p m).toNat (p + 2)
abbrev rowL (ps : List Pt) : Value := .slice (some ⟨0, 0, none⟩) ps.length ps.length
def rptsS : RSpecR := fun bs l p rest => match rest with
  | [.int .i64 m] => some (rowL (rpsL bs l p m), ⟨.row 37 2, .ints (flat (rpsL bs l p m))⟩, p + 2 + 2 * rpN bs l p m, [rdC bs l p, p ≤ 700000, 0 ≤ m ∧ m ≤ 90])
  | _ => none
theorem rptsS_ok : SpecROk Try.prog 130 rptsS := by
  intro bs l c p rest v b p' C h hC
  unfold rptsS at h
  split at h
  rotate_left
  · cases h
  rename_i m
  obtain ⟨rfl, rfl, rfl, rfl⟩ : rowL (rpsL bs l p m) = v ∧ (⟨.row 37 2, .ints (flat (rpsL bs l p m))⟩ : Blk) = b ∧ p + 2 + 2 * rpN bs l p m = p' ∧ [rdC bs l p, p ≤ 700000, 0 ≤ m ∧ m ≤ 90] = C := by simpa using h
  obtain ⟨h1, h2, h3, _⟩ := hC
  refine ⟨rfl, ERL, 30, 12, ERL_ok, ?_⟩
  rw [tr_rptsF]
  have w : IntKind.i64.wrap (m + 1) = m + 1 := wr (by omega)
  have r1 : rdC bs l (p + 1) := ⟨h1.1, h1.2.1, by have := h1.2.2.1; omega, by omega, h1.2.2.2.2⟩
  have b1 := pickI_bd (k := m + 1) r1 (by omega)
  have e : p + 1 + 1 = p + 2 := by omega
  have := h1.2.2.1
  rw [w, e]
  exact ⟨h1, r1, rfl, ⟨b1.1, by omega⟩, ⟨h1.1, h1.2.1, h1.2.2.2.2⟩, ⟨by omega, by omega⟩, rfl, some 3, ⟨rfl, rfl, rfl⟩, rfl, rfl, rfl⟩
def JL1 : TabJ := consR 130 (rdGR rptsS) (tabJ J2)
theorem JL1_ok : GSound Try.prog JL1.g := consR_ok mixed (tabJ_sound mixed J2_ok) (entersB_res (by kernel_rfl)).1 rptsS_ok
noncomputable def c_fill : Code := ((loopsOf (codeOf Try.f135))[0]?).getD .skip
def k_fill : Ex → List Nat := keeps [0, 5] [(1, [5]), (0, [5])] [4]
def s_fill (bs : List Int) (l c : Nat) (q : Int) : Nat × (List Pt) × Int → St := fun (n, o, p) => ⟨(.pointer (some ⟨1, 0, none⟩) :: topV :: topV :: topV :: topV :: .slice (some ⟨3, 0, none⟩) o.length o.length :: topV :: topV :: topV :: topV :: topV :: topV :: topV :: topV :: topV :: topV :: topV :: topV :: topV :: topV :: topV :: topV :: topV :: topV :: topV :: topV :: topV :: topV :: topV :: topV :: topV :: topV :: topV :: topV :: []), [some ⟨.view, .bytes bs⟩, some ⟨.box, .vals [.slice (some ⟨0, 0, none⟩) l c, .int .i64 p]⟩, some ⟨.dead, .vals []⟩, some ⟨.row 37 2, .ints (flat o)⟩]⟩
def re_fill : Nat × (List Pt) × Int → Ex := fun _ => .exit 1
def rs_fill (bs : List Int) (l c : Nat) (q : Int) : Nat × (List Pt) × Int → St := fun (n, o, p) => ⟨(topV :: topV :: topV :: topV :: topV :: .slice (some ⟨3, 0, none⟩) (o ++ rpL bs l 2 n p).length (o ++ rpL bs l 2 n p).length :: topV :: topV :: topV :: topV :: topV :: topV :: topV :: topV :: topV :: topV :: topV :: topV :: topV :: topV :: topV :: topV :: topV :: topV :: topV :: topV :: topV :: topV :: topV :: topV :: topV :: topV :: topV :: topV :: []), [some ⟨.view, .bytes bs⟩, some ⟨.box, .vals [.slice (some ⟨0, 0, none⟩) l c, .int .i64 q]⟩, some ⟨.dead, .vals []⟩, some ⟨.row 37 2, .ints (flat (o ++ rpL bs l 2 n p))⟩]⟩
set_option maxRecDepth 100000 in
theorem tr_fill (bs : List Int) (l c : Nat) (q : Int) (n : Nat) (o : List Pt) (p : Int) : bodyL Try.prog ER2 30 12 noL 1 c_fill k_fill 16 (s_fill bs l c q (n, o, p)) = brT (decide ((↑o.length : Int) < 21)) (.need (rdK bs l p) (.need ((o.length + (1 : Nat)) * (16 : Nat) ≤ (140737488355328 : Nat) ∧ o.length + (1 : Nat) ≤ (1000000 : Nat)) (.need ((0 : Nat) + o.length * (2 : Nat) ≤ (flat o).length) (.leaf .normal ⟨(.pointer (some ⟨1, 0, none⟩) :: topV :: topV :: topV :: topV :: .slice (some ⟨5, 0, none⟩) (o.length + 1) (o.length + 1) :: topV :: topV :: topV :: topV :: topV :: topV :: topV :: topV :: topV :: topV :: topV :: topV :: topV :: topV :: topV :: topV :: topV :: topV :: topV :: topV :: topV :: topV :: topV :: topV :: topV :: topV :: topV :: topV :: []), [some ⟨.view, .bytes (bs)⟩, some ⟨.box, .vals [.slice (some ⟨0, 0, none⟩) (l) (c), .int .i64 (p + 2)]⟩, some deadB, some deadB, some ⟨.row 37 2, .vals [.int .i64 (pickI bs l p 9 - 2), .int .i64 (pickI bs l (p + 1) 9 - 2)]⟩, some ⟨.row 37 2, .ints (List.take (o.length * 2) (List.drop 0 (flat o)) ++ [pickI bs l p 9 - 2, pickI bs l (p + 1) 9 - 2])⟩]⟩)))) (.leaf (.exit 1) ⟨(topV :: topV :: topV :: topV :: topV :: .slice (some ⟨3, 0, none⟩) (o.length) (o.length) :: topV :: topV :: topV :: topV :: topV :: topV :: topV :: topV :: topV :: topV :: topV :: topV :: topV :: topV :: topV :: topV :: topV :: topV :: topV :: topV :: topV :: topV :: topV :: topV :: topV :: topV :: topV :: topV :: []), [some ⟨.view, .bytes (bs)⟩, some ⟨.box, .vals [.slice (some ⟨0, 0, none⟩) (l) (c), .int .i64 (p)]⟩, some deadB, some ⟨.row 37 2, .ints (flat o)⟩]⟩) := by kernel_rfl
set_option maxRecDepth 100000 in
theorem nl_fill : loopsOf c_fill = [] := by kernel_rfl
def inv_fill (bs : List Int) (l c : Nat) (q : Int) : Nat × (List Pt) × Int → Prop := fun (n, o, p) => o.length + n = 21 ∧ q = p + 2 * n ∧ 0 ≤ p ∧ q ≤ 900000
def me_fill (bs : List Int) (l c : Nat) (q : Int) : Nat × (List Pt) × Int → Nat := fun (n, o, p) => n
/-- A round of this loop. -/
def Round_fill (bs : List Int) (l c : Nat) (q : Int) : Prop := ∀ xx : Nat × (List Pt) × Int, inv_fill bs l c q xx → (bodyL Try.prog ER2 30 12 noL 1 c_fill k_fill 16 (s_fill bs l c q xx)).ok (RoundEnd 3 (s_fill bs l c q) (inv_fill bs l c q) (me_fill bs l c q) re_fill (rs_fill bs l c q) xx) (fun _ _ => False)
def e_fill (s : St) (k : Ex → St → Tree) : Option Tree := match Nat.beq s.tmps.length 34, pickL s.tmps [0, 5], s.mem with
  | true, [.pointer (some ⟨1, 0, none⟩), .slice (some ⟨2, 0, none⟩) z _], [some ⟨.view, .bytes bs⟩, some ⟨.box, .vals [.slice (some ⟨0, 0, none⟩) l c, .int .i64 p]⟩, some ⟨.row 37 2, .ints xs⟩] => some (needs [xs.length = z * 2, z ≤ 21, l ≤ bs.length ∧ l ≤ 2000 ∧ Bytes bs, 0 ≤ p ∧ p ≤ 800000] (k (.exit 1) ⟨(topV :: topV :: topV :: topV :: topV :: .slice (some ⟨3, 0, none⟩) (ptsA z xs ++ rpL bs l 2 (21 - z) p).length (ptsA z xs ++ rpL bs l 2 (21 - z) p).length :: topV :: topV :: topV :: topV :: topV :: topV :: topV :: topV :: topV :: topV :: topV :: topV :: topV :: topV :: topV :: topV :: topV :: topV :: topV :: topV :: topV :: topV :: topV :: topV :: topV :: topV :: topV :: topV :: []), [some ⟨.view, .bytes bs⟩, some ⟨.box, .vals [.slice (some ⟨0, 0, none⟩) l c, .int .i64 (p + 2 * (21 - z : Nat))]⟩, some ⟨.dead, .vals []⟩, some ⟨.row 37 2, .ints (flat (ptsA z xs ++ rpL bs l 2 (21 - z) p))⟩]⟩))
  | _, _, _ => none
set_option maxRecDepth 100000 in
theorem round_fill (bs : List Int) (l c : Nat) (q : Int) (h : l ≤ bs.length ∧ l ≤ 2000 ∧ Bytes bs) : Round_fill bs l c q := by
  rintro ⟨n, o, p⟩ ⟨h1, h2, h3, h4⟩
  rw [tr_fill]
  simp only [brT_ok, Tree.ok, decide_eq_true_eq, decide_eq_false_iff_not, flatA, flat_length, Nat.zero_add]
  have hr : rdK bs l p := ⟨⟨h.1, h.2.1, h3, by omega, h.2.2⟩, by omega⟩
  refine ⟨fun hlt => ?_, fun hge => ?_⟩
  · obtain ⟨n, rfl⟩ : ∃ m, n = m + 1 := ⟨n - 1, by omega⟩
    rw [flat_snoc, ← rpt2 (k := 2) (by decide) (by decide)]
    refine ⟨hr, by omega, by omega, (n, o ++ [rpt bs l 2 p], p + 2), [some 5], ⟨by simp; omega, by omega, by omega, by omega⟩, ?_, rfl, ?_, ?_⟩
    · show n < n + 1; omega
    · simp only [rs_fill, rpL_step]
    · repeat' (first | exact True.intro | exact rfl | exact fun _ => rfl | (simp; done) | refine And.intro ?_ ?_)
  · obtain rfl : n = 0 := by omega
    refine ⟨rfl, [some 3], ?_⟩
    obtain rfl : q = p := by omega
    simp only [rs_fill, rpL, List.append_nil]
    repeat' (first | exact True.intro | exact rfl | exact fun _ => rfl | refine And.intro ?_ ?_)
set_option maxRecDepth 100000 in
theorem lg_fill : LoopE Try.prog e_fill c_fill := by
  intro s k t F H hlt ht
  unfold e_fill at hlt
  split at hlt
  rotate_left
  · cases hlt
  rename_i hlen hpick hmem
  obtain ⟨tmps, mem⟩ := s
  simp only at hlen hpick hmem
  subst hmem
  obtain rfl := Option.some.inj hlt
  obtain ⟨⟨h0, h1, h2, h3, _⟩, ht2⟩ := needs_ok ht
  clear ht hlt
  obtain ⟨ps, rfl, rfl⟩ := even_flat h0
  rw [ptsA_flat] at ht2
  refine ⟨_, _, ht2, loop_run2 mixed ER2_ok (s_fill _ _ _ _) (inv_fill _ _ _ _) (me_fill _ _ _ _) re_fill (rs_fill _ _ _ _) k_fill (fun _ => rfl) (noLoops nl_fill) (round_fill _ _ _ _ h2) (x := (21 - ps.length, ps, _)) ⟨by omega, rfl, h3.1, by omega⟩ (π := [some 2]) rfl ?_⟩
  refine ⟨rfl, rfl, ?_, wvs_spread' [0, 5] hlen rfl ?_⟩
  · repeat' (first | exact True.intro | exact rfl | exact wv_top _ _ | exact fun _ => rfl | assumption | exact Eq.symm (by assumption) | exact vI0 rfl | refine And.intro ?_ ?_)
  · rw [hpick]
    repeat' (first | exact True.intro | exact rfl | exact wv_top _ _ | exact fun _ => rfl | assumption | exact Eq.symm (by assumption) | exact vI0 rfl | refine And.intro ?_ ?_)
theorem Lr_fill {fn : Func} (hf : Try.prog.funcs[135]? = some fn) : LoopsGood Try.prog (lt1 e_fill) 0 (codeOf fn) := by
  obtain rfl := fn_is Try.func135 hf
  exact lt1_good lg_fill
def LRd2 : FuncId → LT := fun f => match f with
  | 135 => lt1 e_fill
  | _ => noL
def ERL2 : Env := ⟨B0, fun _ _ => none, LRd2, JL1, fun _ => noR⟩
theorem ERL2_ok : EnvOk Try.prog ERL2 := ⟨B0_ok, fun _ _ _ _ _ h => (by cases h), (by
  intro f fn hf
  show LoopsGood Try.prog (LRd2 f) 0 (codeOf fn)
  unfold LRd2
  split
  all_goals first | with_reducible exact Lr_fill hf | exact noL_good), JL1_ok, fun _ _ _ => noR_good⟩
set_option maxRecDepth 100000 in
theorem tr_aptsF (bs : List Int) (l c : Nat) (p m : Int) : bodyM Try.prog ERL2 (runM Try.prog ERL2 30 12) 30 135 [.pointer (some ⟨1, 0, none⟩), .int .i64 m] (memR bs l c p none) .fin = .need (rdC bs l p) (.need (p ≤ (700000 : Int)) (.need ((0 : Int) ≤ m ∧ m ≤ (90 : Int)) (brT (decide (0 < (↑(rpsL bs l p m).length : Int))) (.need (rdC bs l (p + (2 : Int) + (2 : Int) * rpN bs l p m)) (brT (pickI bs l (p + 2 + 2 * rpN bs l p m) 20 == 0) (.need (rdC bs l (p + (2 : Int) + (2 : Int) * rpN bs l p m + (1 : Int))) (.need ((0 : Int) ≤ pickI bs l (p + (2 : Int) + (2 : Int) * rpN bs l p m + (1 : Int)) (↑(rpsL bs l p m).length : Int) ∧ pickI bs l (p + (2 : Int) + (2 : Int) * rpN bs l p m + (1 : Int)) (↑(rpsL bs l p m).length : Int) < (↑(rpsL bs l p m).length : Int)) (.need ((0 : Nat) + (pickI bs l (p + (2 : Int) + (2 : Int) * rpN bs l p m + (1 : Int)) (↑(rpsL bs l p m).length : Int)).toNat * (2 : Nat) + (2 : Nat) ≤ (flat (rpsL bs l p m)).length) (.fin (.slice (some ⟨2, 0, none⟩) ((rpsL bs l p m).length) ((rpsL bs l p m).length)) [some ⟨.view, .bytes (bs)⟩, some ⟨.box, .vals [.slice (some ⟨0, 0, none⟩) (l) (c), .int .i64 (p + 2 + 2 * rpN bs l p m + 1 + 1)]⟩, some ⟨.row 37 2, .ints (setInts (flat (rpsL bs l p m)) (0 + (pickI bs l (p + 2 + 2 * rpN bs l p m + 1) (↑(rpsL bs l p m).length : Int)).toNat * 2) [1001, 0])⟩])))) (brT (pickI bs l (p + 2 + 2 * rpN bs l p m) 20 == 1) (.need ((flat (rpsL bs l p m)).length = (rpsL bs l p m).length * (2 : Nat)) (.need ((rpsL bs l p m).length ≤ (21 : Nat)) (.need (l ≤ bs.length ∧ l ≤ (2000 : Nat) ∧ Bytes bs) (.need ((0 : Int) ≤ p + (2 : Int) + (2 : Int) * rpN bs l p m + (1 : Int) ∧ p + (2 : Int) + (2 : Int) * rpN bs l p m + (1 : Int) ≤ (800000 : Int)) (.fin (.slice (some ⟨3, 0, none⟩) ((ptsA (rpsL bs l p m).length (flat (rpsL bs l p m)) ++ rpL bs l 2 (21 - (rpsL bs l p m).length) (p + 2 + 2 * rpN bs l p m + 1)).length) ((ptsA (rpsL bs l p m).length (flat (rpsL bs l p m)) ++ rpL bs l 2 (21 - (rpsL bs l p m).length) (p + 2 + 2 * rpN bs l p m + 1)).length)) [some ⟨.view, .bytes (bs)⟩, some ⟨.box, .vals [.slice (some ⟨0, 0, none⟩) (l) (c), .int .i64 (p + 2 + 2 * rpN bs l p m + 1 + 2 * (↑(21 - (rpsL bs l p m).length) : Int))]⟩, some deadB, some ⟨.row 37 2, .ints (flat (ptsA (rpsL bs l p m).length (flat (rpsL bs l p m)) ++ rpL bs l 2 (21 - (rpsL bs l p m).length) (p + 2 + 2 * rpN bs l p m + 1)))⟩]))))) (.fin (.slice (some ⟨2, 0, none⟩) ((rpsL bs l p m).length) ((rpsL bs l p m).length)) [some ⟨.view, .bytes (bs)⟩, some ⟨.box, .vals [.slice (some ⟨0, 0, none⟩) (l) (c), .int .i64 (p + 2 + 2 * rpN bs l p m + 1)]⟩, some ⟨.row 37 2, .ints (flat (rpsL bs l p m))⟩])))) (.fin (.slice (some ⟨2, 0, none⟩) ((rpsL bs l p m).length) ((rpsL bs l p m).length)) [some ⟨.view, .bytes (bs)⟩, some ⟨.box, .vals [.slice (some ⟨0, 0, none⟩) (l) (c), .int .i64 (p + 2 + 2 * rpN bs l p m)]⟩, some ⟨.row 37 2, .ints (flat (rpsL bs l p m))⟩])))) := by kernel_rfl
def aq1 (bs : List Int) (l : Nat) (p m : Int) : Int := p + 2 + 2 * rpN bs l p m
def aqQ (bs : List Int) (l : Nat) (p m : Int) : Int := pickI bs l (aq1 bs l p m) 20
/-- A drawn list, perhaps not valid. -/
def apsL (bs : List Int) (l : Nat) (p m : Int) : List Pt :=
  if (rpsL bs l p m).length = 0 then rpsL bs l p m
  else if aqQ bs l p m = 0 then (rpsL bs l p m).set (pickI bs l (aq1 bs l p m + 1) (rpsL bs l p m).length).toNat (1001, 0)
  else if aqQ bs l p m = 1 then rpsL bs l p m ++ rpL bs l 2 (21 - (rpsL bs l p m).length) (aq1 bs l p m + 1)
  else rpsL bs l p m
/-- The place behind it. -/
def apsP (bs : List Int) (l : Nat) (p m : Int) : Int :=
  if (rpsL bs l p m).length = 0 then aq1 bs l p m
  else if aqQ bs l p m = 0 then aq1 bs l p m + 2
  else if aqQ bs l p m = 1 then aq1 bs l p m + 1 + 2 * (21 - (rpsL bs l p m).length : Nat)
  else aq1 bs l p m + 1
theorem rpsL_len {bs : List Int} {l : Nat} {p m : Int} (h : rdC bs l (p + 1)) (hm : 0 ≤ m ∧ m ≤ 20) : (rpsL bs l p m).length ≤ 20 ∧ (rpsL bs l p m).length = (rpN bs l p m).toNat ∧ 0 ≤ rpN bs l p m ∧ rpN bs l p m ≤ 20 := by
  have b1 := pickI_bd (k := m + 1) h (by omega)
  unfold rpsL
  rw [rpL_len]
  unfold rpN
  omega
def aptsS : RSpecR := fun bs l p rest => match rest with
  | [.int .i64 m] => some (rowL (apsL bs l p m), ⟨.row 37 2, .ints (flat (apsL bs l p m))⟩, apsP bs l p m, [rdC bs l p, p ≤ 600000, 0 ≤ m ∧ m ≤ 20])
  | _ => none
theorem aptsS_ok : SpecROk Try.prog 135 aptsS := by
  intro bs l c p rest v b p' C h hC
  unfold aptsS at h
  split at h
  rotate_left
  · cases h
  rename_i m
  obtain ⟨rfl, rfl, rfl, rfl⟩ : rowL (apsL bs l p m) = v ∧ (⟨.row 37 2, .ints (flat (apsL bs l p m))⟩ : Blk) = b ∧ apsP bs l p m = p' ∧ [rdC bs l p, p ≤ 600000, 0 ≤ m ∧ m ≤ 20] = C := by simpa using h
  obtain ⟨h1, h2, h3, _⟩ := hC
  refine ⟨rfl, ERL2, 30, 12, ERL2_ok, ?_⟩
  rw [tr_aptsF]
  have h0 := h1.2.2.1
  have r1 : rdC bs l (p + 1) := ⟨h1.1, h1.2.1, by omega, by omega, h1.2.2.2.2⟩
  obtain ⟨L1, L2, L3, L4⟩ := rpsL_len (m := m) r1 h3
  have ea : p + 2 + 2 * rpN bs l p m = aq1 bs l p m := rfl
  have ba : p + 2 ≤ aq1 bs l p m ∧ aq1 bs l p m ≤ p + 42 := by unfold aq1; omega
  rw [ea]
  have ra : ∀ q : Int, aq1 bs l p m ≤ q → q ≤ p + 100 → rdC bs l q := fun q g1 g2 => ⟨h1.1, h1.2.1, by omega, by omega, h1.2.2.2.2⟩
  refine ⟨h1, by omega, ⟨by omega, by omega⟩, brT_ok.2 ⟨fun hlen => ?_, fun hlen => ?_⟩⟩
  · have hlen := of_decide_eq_true hlen
    have hne : ¬ (rpsL bs l p m).length = 0 := by omega
    refine ⟨ra _ (by omega) (by omega), brT_ok.2 ⟨fun hq => ?_, fun hq => brT_ok.2 ⟨fun hq' => ?_, fun hq' => ?_⟩⟩⟩
    · have hq : aqQ bs l p m = 0 := by simpa [aqQ] using hq
      have e1 : apsL bs l p m = (rpsL bs l p m).set (pickI bs l (aq1 bs l p m + 1) (rpsL bs l p m).length).toNat (1001, 0) := by unfold apsL; rw [if_neg hne, if_pos hq]
      have e2 : apsP bs l p m = aq1 bs l p m + 2 := by unfold apsP; rw [if_neg hne, if_pos hq]
      have rb := ra (aq1 bs l p m + 1) (by omega) (by omega)
      have pb := pickI_bd (k := ((rpsL bs l p m).length : Int)) rb (by omega)
      rw [e1, e2]
      have hs := flat_set (rpsL bs l p m) (pickI bs l (aq1 bs l p m + 1) (rpsL bs l p m).length).toNat (by omega) 1001 0
      refine ⟨rb, pb, by rw [flat_length]; omega, box2 (by omega) _, some 2, ⟨rfl, rfl, by rw [List.length_set]⟩, rfl, rfl, ?_⟩
      rw [Nat.zero_add]
      exact hs
    · have hq : ¬ aqQ bs l p m = 0 := by simpa [aqQ] using hq
      have hq' : aqQ bs l p m = 1 := by simpa [aqQ] using hq'
      have e1 : apsL bs l p m = rpsL bs l p m ++ rpL bs l 2 (21 - (rpsL bs l p m).length) (aq1 bs l p m + 1) := by unfold apsL; rw [if_neg hne, if_neg hq, if_pos hq']
      have e2 : apsP bs l p m = aq1 bs l p m + 1 + 2 * (21 - (rpsL bs l p m).length : Nat) := by unfold apsP; rw [if_neg hne, if_neg hq, if_pos hq']
      rw [e1, e2, ptsA_flat]
      exact ⟨by rw [flat_length], by omega, ⟨h1.1, h1.2.1, h1.2.2.2.2⟩, ⟨by omega, by omega⟩, rfl, some 3, ⟨rfl, rfl, rfl⟩, rfl, rfl, rfl⟩
    · have hq : ¬ aqQ bs l p m = 0 := by simpa [aqQ] using hq
      have hq' : ¬ aqQ bs l p m = 1 := by simpa [aqQ] using hq'
      have e1 : apsL bs l p m = rpsL bs l p m := by unfold apsL; rw [if_neg hne, if_neg hq, if_neg hq']
      have e2 : apsP bs l p m = aq1 bs l p m + 1 := by unfold apsP; rw [if_neg hne, if_neg hq, if_neg hq']
      rw [e1, e2]
      exact ⟨rfl, some 2, ⟨rfl, rfl, rfl⟩, rfl, rfl, rfl⟩
  · have hlen := of_decide_eq_false hlen
    have hz : (rpsL bs l p m).length = 0 := by omega
    have e1 : apsL bs l p m = rpsL bs l p m := by unfold apsL; rw [if_pos hz]
    have e2 : apsP bs l p m = aq1 bs l p m := by unfold apsP; rw [if_pos hz]
    rw [e1, e2]
    exact ⟨rfl, some 2, ⟨rfl, rfl, rfl⟩, rfl, rfl, rfl⟩
/-- The reader's operations, drawn lists of points among them, number 135, beside the draw of one point, number 131. -/
def JL2 : TabJ := consR 135 (rdGR aptsS) (tabJ J3)
theorem JL2_ok : GSound Try.prog JL2.g := consR_ok mixed (tabJ_sound mixed J3_ok) (entersB_res (by kernel_rfl)).1 aptsS_ok
theorem apsL_len {bs : List Int} {l : Nat} {p m : Int} (h : rdC bs l (p + 1)) (hm : 0 ≤ m ∧ m ≤ 20) : (apsL bs l p m).length ≤ 21 := by
  obtain ⟨L1, _⟩ := rpsL_len (m := m) h hm
  unfold apsL
  split
  · omega
  split
  · rw [List.length_set]; omega
  split
  · rw [List.length_append, rpL_len]; omega
  · omega
theorem apsP_bd {bs : List Int} {l : Nat} {p m : Int} (h : rdC bs l (p + 1)) (hm : 0 ≤ m ∧ m ≤ 20) : p + 2 ≤ apsP bs l p m ∧ apsP bs l p m ≤ p + 100 := by
  obtain ⟨L1, L2, L3, L4⟩ := rpsL_len (m := m) h hm
  unfold apsP aq1
  split
  · omega
  split
  · omega
  split <;> omega
end Go.Proofs.Ytolodncpegajkaa
namespace Go.Proofs.Ytolodncpegajkaa
set_option linter.all false
open Go.RowKit
theorem drKey {bs : List Int} {n : Nat} (hb : Bytes bs) (hn : n ≤ bs.length) {l : Nat} (h1 : l ≤ n) (h2 : l ≤ 2000) {m : Int} (hm : 0 ≤ m ∧ m ≤ 20) : rdC bs l 0 ∧ rdK bs l (apsP bs l 0 m) ∧ rdC bs l (apP bs l (apsP bs l 0 m)) ∧ (apsL bs l 0 m).length ≤ 21 := by
  have r0 : rdK bs l 0 := rdK0 hb hn h1 h2 (by omega) (by omega)
  have r1 : rdC bs l (0 + 1) := r0.at (by omega) (by omega)
  have b1 := apsP_bd (m := m) r1 hm
  have r2 : rdK bs l (apsP bs l 0 m) := rdK0 hb hn h1 h2 (by omega) (by omega)
  have b2 := apP_bd bs l (apsP bs l 0 m)
  exact ⟨r0.1, r2, r2.at (by omega) (by omega), apsL_len r1 hm⟩
end Go.Proofs.Ytolodncpegajkaa
namespace Go.Proofs.Ytolodncpegajkaa
set_option linter.all false
open Go.RowKit
/-- A value whose slices lie at two names. -/
def at2v (name nb : Nat) : Value → Value
  | .slice (some ⟨1, o, none⟩) l c => .slice (some ⟨nb, o, none⟩) l c
  | v => atName1 name v
def rv2 (s0 s1 : Option Nat) (u : Value) : Value → Prop
  | .slice (some ⟨1, o, none⟩) l c => rv1 s1 u (.slice (some ⟨0, o, none⟩) l c)
  | v => rv1 s0 u v
def rv2l (s0 s1 : Option Nat) : List Value → List Value → Prop
  | [], [] => True
  | u :: r, v :: r' => rv2 s0 s1 u v ∧ rv2l s0 s1 r r'
  | _, _ => False
def srcIs (s : Option Nat) (b : Blk) (mem : List (Option Blk)) : Prop := match s with
  | some n => (match mem.getD n none with
    | some b' => rb b' b
    | none => False)
  | none => True
/-- What a body hands back: a tuple with two rows. -/
def RowIs2 (vs : List Value) (b0 b1 : Blk) (u : Value) (mem : List (Option Blk)) : Prop :=
  ∃ s0 s1 us, u = .tuple ⟨us⟩ ∧ rv2l s0 s1 us vs ∧ srcIs s0 b0 mem ∧ srcIs s1 b1 mem ∧ (s0 = s1 → s0 = none)
abbrev placeOf (s : Option Nat) (ρ ρ' : Nat → Option Pl) (name : Nat) : Prop := match s with
  | some n => ρ' name = ρ n
  | none => ρ' name = some (0, 1, some 0)
theorem rv2_ok {s0 s1 : Option Nat} {ρ ρ' : Nat → Option Pl} {name nb : Nat} (h0 : placeOf s0 ρ ρ' name) (h1 : placeOf s1 ρ ρ' nb) {u v x : Value} (h : rv2 s0 s1 u v) (k : VR ρ u x) : VR ρ' (at2v name nb v) x := by
  unfold rv2 at h
  split at h
  · exact rv1_ok (name := nb) h1 h k
  · rename_i hne
    have e : at2v name nb v = atName1 name v := by
      unfold at2v
      split
      · exact absurd rfl (hne _ _ _)
      · rfl
    rw [e]
    exact rv1_ok h0 h k
theorem rv2l_ok {s0 s1 : Option Nat} {ρ ρ' : Nat → Option Pl} {name nb : Nat} (h0 : placeOf s0 ρ ρ' name) (h1 : placeOf s1 ρ ρ' nb) : ∀ {l l' : List Value}, rv2l s0 s1 l l' → l.length = l'.length ∧ ∀ (i : Nat) v x, (l'.map (at2v name nb))[i]? = some v → (∀ u, l[i]? = some u → VR ρ u x) → VR ρ' v x
  | [], [], _ => ⟨rfl, fun i v x h => by simp at h⟩
  | [], _ :: _, h => h.elim
  | _ :: _, [], h => h.elim
  | u :: r, v :: r', h => by
    obtain ⟨k1, k2⟩ := h
    obtain ⟨h3, h4⟩ := rv2l_ok h0 h1 k2
    refine ⟨by simp [h3], fun i y x hy hx => ?_⟩
    cases i with
    | zero =>
      obtain rfl : at2v name nb v = y := by simpa using hy
      exact rv2_ok h0 h1 k1 (hx u rfl)
    | succ i => exact h4 i y x (by simpa using hy) fun v hv => hx v (by simpa using hv)
/-- What a function that makes two rows answers. -/
def ResR2 (P : Program) (f : FuncId) (ds : List DArg) (vs : List Value) (b0 b1 : Blk) : Prop :=
  enters P f ∧ (isRow b0 = true ∧ isRow b1 = true) ∧ ∀ w args, DOks w ds args → Calls P f args w fun e w' => ∃ v' p0 p1, e = .returned v' ∧ Below w.heap.size w w' ∧ (¬ nilPl p0 → ¬ nilPl p1 → p0.1 ≠ p1.1) ∧
    (∀ ρ name nb, ρ name = some p0 → ρ nb = some p1 → VR ρ (.tuple ⟨vs.map (at2v name nb)⟩) v') ∧ (∀ ρ name, ρ name = some p0 → BlkOk ρ (fun k => k < w.heap.size) w' name b0) ∧ ∀ ρ name, ρ name = some p1 → BlkOk ρ (fun k => k < w.heap.size) w' name b1
theorem src_row {s : Option Nat} {b : Blk} {mem : List (Option Blk)} (hb : isRow b = true) (h : srcIs s b mem) {ρ0 ρ : Nat → Option Pl} {B : Nat → Prop} {w : World} (hm : MemOk ρ0 ρ B (fun k => mem.getD k none) w) :
    ∃ p, (∀ ρ2 name, ρ2 name = some p → placeOf s ρ ρ2 name ∧ BlkOk ρ2 B w name b) ∧ ∀ n, s = some n → ρ n = some p ∧ ∃ b', mem.getD n none = some b' ∧ b'.own = true := by
  obtain ⟨kd, cs⟩ := b
  cases kd with
  | row e sz =>
    cases s with
    | none => exact ⟨(0, 1, some 0), fun ρ2 name hp => ⟨hp, .inl ⟨_, hp, rfl, rfl⟩⟩, fun n hn => by cases hn⟩
    | some k =>
      unfold srcIs at h
      simp only at h
      split at h
      rotate_left
      · exact h.elim
      rename_i b' hb'
      obtain ⟨kd', cs'⟩ := b'
      cases kd' with
      | row e2 sz2 =>
        obtain ⟨rfl, rfl, hc⟩ := h
        obtain ⟨c1, c2⟩ := rc_list hc
        rcases hm.ok k _ hb' with ⟨p, h1, h2, h3⟩ | ⟨g, cap, h1, h2, arr, h3, h4, h5⟩
        · exact ⟨p, fun ρ2 name hp => ⟨hp.trans h1.symm, .inl ⟨p, hp, h2, h3⟩⟩, fun n hn => by
            obtain rfl : k = n := by simpa using hn
            exact ⟨h1, _, hb', rfl⟩⟩
        · refine ⟨_, fun ρ2 name hp => ⟨hp.trans h1.symm, .inr ⟨g, cap, hp, h2, arr, h3, h4, ?_⟩⟩, fun n hn => by
            obtain rfl : k = n := by simpa using hn
            exact ⟨h1, _, hb', rfl⟩⟩
          intro i x hx
          obtain ⟨x', k1, k2⟩ := h5 i x (by show cs'.list[i]? = some x; rw [c1]; exact hx)
          refine ⟨x', k1, ?_⟩
          have hat := plain_of_atom (c2 x (List.mem_of_getElem? hx))
          rw [k2.plain hat]
          exact .lit hat
      | _ => exact h.elim
  | _ => cases hb
theorem bodyX_resR2 {P : Program} (hm : P.follows .mixedOrders = true) {E : Env} (hE : EnvOk P E) {m n : Nat} {f : FuncId} {ds : List DArg} {vs : List Value} {b0 b1 : Blk} (hb0 : isRow b0 = true) (hb1 : isRow b1 = true)
    (h : (bodyX P E m n f ds).ok (fun _ _ => False) (fun u mem => RowIs2 vs b0 b1 u mem)) : ResR2 P f ds vs b0 b1 := by
  unfold bodyX at h
  split at h
  rotate_left
  · exact h.elim
  rename_i hg
  obtain ⟨u, mem', ⟨s0, s1, us, rfl, hrv, hs0, hs1, hne⟩, hent, hdet⟩ := bodyM_ok hE hm (runM_ok hm hE m n) m f _ _ _ _ _ h
  refine ⟨hent, ⟨hb0, hb1⟩, fun w args hargs => ?_⟩
  obtain ⟨ρ, ha, hmem⟩ := args_open hargs (fun k => k < w.heap.size)
  refine (hdet ⟨w, fun _ => none, fun k => k < w.heap.size, fun _ h => h, [], none⟩ ρ args w ha hmem (BelowK.refl _ _)).mono ?_
  rintro e' w' ⟨v', ρ', rfl, _, g2, g3, g4⟩
  obtain ⟨p0, k1, k2⟩ := src_row hb0 hs0 g4
  obtain ⟨p1, j1, j2⟩ := src_row hb1 hs1 g4
  refine ⟨v', p0, p1, rfl, g3.to, fun n0 n1 => ?_, fun ρ2 name nb h0 h1 => ?_, fun ρ2 name h0 => (k1 ρ2 name h0).2, fun ρ2 name h1 => (j1 ρ2 name h1).2⟩
  · rcases s0 with _ | a
    · have := (k1 (fun _ => some p0) 0 rfl).1
      have e : p0 = (0, 1, some 0) := by simpa [placeOf] using this
      exact absurd ⟨by rw [e], 0, by rw [e]⟩ n0
    · rcases s1 with _ | c
      · have := (j1 (fun _ => some p1) 0 rfl).1
        have e : p1 = (0, 1, some 0) := by simpa [placeOf] using this
        exact absurd ⟨by rw [e], 0, by rw [e]⟩ n1
      · obtain ⟨q1, b', q2, q3⟩ := k2 a rfl
        obtain ⟨r1, c', r2, r3⟩ := j2 c rfl
        exact g4.sep a c b' c' p0 p1 q2 q3 r2 (own_live r3) (fun e => by subst e; have := hne rfl; cases this) q1 r1 n0 n1
  · obtain ⟨a1, a2⟩ := k1 ρ2 name h0
    obtain ⟨c1, c2⟩ := j1 ρ2 nb h1
    obtain ⟨cs, rfl, z1, z2⟩ := g2.tuple_inv
    obtain ⟨h3, h4⟩ := rv2l_ok a1 c1 hrv
    exact .tuple (by simp at z1 ⊢; omega) fun i v y hv hy => h4 i v y (by simpa using hv) fun u hu => z2 i u y (by simpa using hu) hy
/-- What is told of a function that makes two rows. -/
abbrev TabR2 := List DArg → Option (List Value × Blk × Blk × List Prop)
def r2G (T : TabR2) (name : Nat) (args : List Value) : Rd Eff := (rdArgs args).bind fun ds => match T ds, name with
  | some (vs, b0, b1, C), nb + 1 => .blk nb fun b => match b with
    | none => .ret ⟨.tuple ⟨vs.map (at2v (nb + 1) nb)⟩, [(nb, b1), (nb + 1, b0)], C⟩
    | some _ => .fail
  | _, _ => .fail
def TabR2Ok (P : Program) (f : FuncId) (T : TabR2) : Prop := ∀ ds vs b0 b1 C, T ds = some (vs, b0, b1, C) → AllP C → ResR2 P f ds vs b0 b1
theorem blk_sub {ρ : Nat → Option Pl} {B B' : Nat → Prop} (hB : ∀ k, B k → B' k) {w : World} {n : Nat} {b : Blk} (hb : isRow b = true) (h : BlkOk ρ B' w n b) : BlkOk ρ B w n b := by
  obtain ⟨kd, cs⟩ := b
  cases kd with
  | row e sz =>
    rcases h with h | ⟨g, cap, h1, h2, rest⟩
    · exact .inl h
    · exact .inr ⟨g, cap, h1, fun h => h2 (hB _ h), rest⟩
  | _ => cases hb
theorem row_own {b : Blk} (h : isRow b = true) : b.own = true := by
  obtain ⟨kd, cs⟩ := b
  cases kd <;> first | rfl | cases h
theorem consR2_ok {P : Program} {J : TabJ} (hJ : GSound P J.g) {f : FuncId} {T : TabR2} (hent : enters P f) (hT : TabR2Ok P f T) : GSound P (consR f (r2G T) J).g := by
  intro h name args s eff hr hn
  simp only [consR] at hr
  split at hr
  rotate_left
  · exact hJ h name args s eff hr hn
  rename_i heq
  obtain rfl := Nat.eq_of_beq_eq_true heq
  refine ⟨hent, fun B ρ0 ρ w args' ha hm hB hcond => ?_⟩
  unfold r2G at hr
  obtain ⟨ds, hds, hr⟩ := bind_some hr
  split at hr
  rotate_left
  · simp [Rd.run] at hr
  rename_i vs b0 b1 C nb hx _
  simp only [Rd.run] at hr
  split at hr
  rotate_left
  · simp [Rd.run] at hr
  rename_i hn1
  obtain rfl : (⟨.tuple ⟨vs.map (at2v (nb + 1) nb)⟩, [(nb, b1), (nb + 1, b0)], C⟩ : Eff) = eff := by simpa [Rd.run] using hr
  obtain ⟨_, ⟨r0, r1⟩, h4⟩ := hT ds vs b0 b1 C hx hcond
  refine (h4 w args' ((rdArgs_ok hds).2 ha hm)).mono ?_
  rintro e w' ⟨v', p0, p1, rfl, hb, hsep, hv, hk0, hk1⟩
  have hf1 : addPl ρ (nb + 1) p0 nb = none := by
    rw [addPl_ne (by omega)]
    exact hm.fresh _ hn1
  have g1 := hv (addPl (addPl ρ (nb + 1) p0) nb p1) (nb + 1) nb (by rw [addPl_ne (by omega), addPl_same]) (addPl_same _ _ _)
  have g3 := hk1 (addPl (addPl ρ (nb + 1) p0) nb p1) nb (addPl_same _ _ _)
  have e1 : Ext (addPl ρ (nb + 1) p0) (addPl (addPl ρ (nb + 1) p0) nb p1) := addPl_ext hf1
  have hb0 := hk0 (addPl ρ (nb + 1) p0) (nb + 1) (addPl_same _ _ _)
  have hm1 := hm.newRow hB hb hn (row_own r0) hb0
  refine ⟨v', addPl (addPl ρ (nb + 1) p0) nb p1, rfl, (addPl_ext (hm.fresh (nb + 1) hn)).trans e1, g1, BelowK.of hb hB, ?_⟩
  rw [upd_two]
  refine hm1.addRow2 (by simp [setB, hn1]) (fun hnp k c q hk hl hq hnq => ?_) (blk_sub hB r1 g3)
  by_cases hkn : k = nb + 1
  · subst hkn
    rw [addPl_same] at hq
    obtain rfl : p0 = q := by simpa using hq
    exact hsep hnq hnp
  · rw [addPl_ne hkn] at hq
    have hk' : s.blk k = some c := by simpa [setB, hkn] using hk
    have h2 := ((hm.ok k c hk').real hl hq hnq).1
    have h3 : ¬ p1.1 < w.heap.size := (g3.real (own_live (row_own r1)) (addPl_same _ _ _) hnp).2 (row_own r1)
    omega
/-- A body run with a name laid aside, for the second row of a callee. -/
def bodyP (P : Program) (E : Env) (m n : Nat) (f : FuncId) (ds : List DArg) : Tree :=
  match ds.all DArg.goodB with
  | true => bodyM P E (runM P E m n) m f (argVals 0 ds) (ds.map argBlk ++ [none]) fun v _ => .fin v []
  | false => .bad
theorem pad_get (l : List (Option Blk)) (n : Nat) : (l ++ [none]).getD n none = l.getD n none := by
  simp only [List.getD_eq_getElem?_getD]
  rcases Nat.lt_or_ge n l.length with h | h
  · rw [List.getElem?_append_left h]
  · rw [List.getElem?_append_right h, List.getElem?_eq_none (by omega : l.length ≤ n)]
    rcases hk : n - l.length with _ | k <;> simp
theorem bodyP_res {P : Program} (hm : P.follows .mixedOrders = true) {E : Env} (hE : EnvOk P E) {m n : Nat} {f : FuncId} {ds : List DArg} {v : Value} (hv : plainV v = true)
    (h : (bodyP P E m n f ds).ok (fun _ _ => False) (fun u _ => u = v)) : Res P f ds v := by
  unfold bodyP at h
  split at h
  rotate_left
  · exact h.elim
  rename_i hg
  obtain ⟨u, mem', hk, hent, hdet⟩ := bodyM_ok hE hm (runM_ok hm hE m n) m f _ _ _ _ _ h
  obtain rfl : u = v := hk
  have hin : P.inits.idxOf? f = none := by
    unfold bodyM at h
    split at h
    rotate_left
    · exact h.elim
    rename_i fn hf hen
    exact (entersB_spec hf hen).2.1
  refine ⟨hent, hin, hv, fun d hd => goodB_good (List.all_eq_true.1 hg d hd), fun w args hargs => ?_⟩
  obtain ⟨ρ, ha, hmem⟩ := args_open hargs (fun k => k < w.heap.size)
  have hmem : MemOk (fun _ => none) ρ (fun k => k < w.heap.size) (fun n => (ds.map argBlk ++ [none]).getD n none) w := by
    have e : (fun n => (ds.map argBlk ++ [none]).getD n none) = fun n => (ds.map argBlk).getD n none := funext fun n => pad_get _ n
    rw [e]
    exact hmem
  refine (hdet ⟨w, fun _ => none, fun k => k < w.heap.size, fun _ h => h, [], none⟩ ρ args w ha hmem (BelowK.refl _ _)).mono ?_
  rintro e w' ⟨v', ρ', rfl, _, g2, g3, _⟩
  rw [g2.plain hv]
  exact ⟨rfl, g3.to⟩
end Go.Proofs.Ytolodncpegajkaa
namespace Go.Proofs.Ytolodncpegajkaa
set_option linter.all false
open Go.RowKit
/-- The model's tree of drawn points. -/
def dtV (bs : List Int) (l : Nat) : List Pt := stV (ptsA (apsL bs l 0 7).length (List.drop 0 (flat (apsL bs l 0 7))))
def dtW (bs : List Int) (l : Nat) : List Int := [] ++ List.take ((dtV bs l).length * 2) (List.drop 0 (flat (dtV bs l)))
def EDt : Env := ⟨B0, RSt, fun _ => noL, JL2, fun _ => noR⟩
theorem EDt_ok : EnvOk Try.prog EDt := ⟨B0_ok, RSt_ok, fun _ _ _ => noL_good, JL2_ok, fun _ _ _ => noR_good⟩
/-- What runs behind the reader, which keeps so many bytes. -/
def dtT (bs : List Int) (n : Nat) : Tree := (.need (rdC bs n (0 : Int)) (.need ((0 : Int) ≤ (600000 : Int)) (.need ((0 : Int) ≤ (7 : Int) ∧ (7 : Int) ≤ (20 : Int)) (.need ((apsL bs n 0 7).length * (2 : Nat) ≤ (List.drop 0 (flat (apsL bs n 0 7))).length) (.need ((apsL bs n 0 7).length ≤ (1000000000 : Nat)) (.need (((0 : Nat) + ((dtV bs n).length)) * (16 : Nat) ≤ (140737488355328 : Nat) ∧ (0 : Nat) + ((dtV bs n).length) ≤ (1000000 : Nat)) (.need ((0 : Nat) + (dtV bs n).length * (2 : Nat) ≤ (flat (dtV bs n)).length) (brT (decide (0 < (↑(0 + ((dtV bs n).length)) : Int))) (.need (rdC bs n (apsP bs n 0 7)) (.need (rdC bs n (apsP bs n 0 7 + (1 : Int))) (brT (pickI bs n (apsP bs n 0 7 + 1) 6 == 0) (.need (rdC bs n (apsP bs n 0 7 + (1 : Int) + (1 : Int))) (.need ((0 : Int) ≤ pickI bs n (apsP bs n 0 7) (↑((0 : Nat) + ((dtV bs n).length)) : Int) ∧ pickI bs n (apsP bs n 0 7) (↑((0 : Nat) + ((dtV bs n).length)) : Int) < (↑((0 : Nat) + ((dtV bs n).length)) : Int)) (.need ((0 : Nat) + (pickI bs n (apsP bs n 0 7) (↑((0 : Nat) + ((dtV bs n).length)) : Int)).toNat * (2 : Nat) + (1 : Nat) + (1 : Nat) ≤ (dtW bs n).length) (.fin (.tuple #[.slice (some ⟨2, 0, none⟩) ((apsL bs n 0 7).length) ((apsL bs n 0 7).length), .slice (some ⟨4, 0, none⟩) (0 + ((dtV bs n).length)) (0 + ((dtV bs n).length))]) [some ⟨.view, .bytes (bs)⟩, some ⟨.box, .vals [.slice (some ⟨0, 0, none⟩) (n) (n), .int .i64 (apsP bs n 0 7 + 1 + 1 + 1)]⟩, some ⟨.row 37 2, .ints (flat (apsL bs n 0 7))⟩, some deadB, some ⟨.row 41 2, .ints (setInts (dtW bs n) (0 + (pickI bs n (apsP bs n 0 7) (↑(0 + ((dtV bs n).length)) : Int)).toNat * 2 + 1) [pickI bs n (apsP bs n 0 7 + 1 + 1) (IntKind.i64.wrap ((↑(apsL bs n 0 7).length : Int) + 1))])⟩, some ⟨.row 41 2, .ints (flat (dtV bs n))⟩])))) (brT (pickI bs n (apsP bs n 0 7 + 1) 6 == 1) (.need ((0 : Int) ≤ pickI bs n (apsP bs n 0 7) (↑((0 : Nat) + ((dtV bs n).length)) : Int) ∧ pickI bs n (apsP bs n 0 7) (↑((0 : Nat) + ((dtV bs n).length)) : Int) < (↑((0 : Nat) + ((dtV bs n).length)) : Int)) (.need ((0 : Nat) + (pickI bs n (apsP bs n 0 7) (↑((0 : Nat) + ((dtV bs n).length)) : Int)).toNat * (2 : Nat) + (1 : Nat) < (dtW bs n).length) (.need ((0 : Int) ≤ pickI bs n (apsP bs n 0 7) (↑((0 : Nat) + ((dtV bs n).length)) : Int) ∧ pickI bs n (apsP bs n 0 7) (↑((0 : Nat) + ((dtV bs n).length)) : Int) < (↑((0 : Nat) + ((dtV bs n).length)) : Int)) (.need ((0 : Nat) + (pickI bs n (apsP bs n 0 7) (↑((0 : Nat) + ((dtV bs n).length)) : Int)).toNat * (2 : Nat) + (0 : Nat) < (dtW bs n).length) (.need ((0 : Int) ≤ pickI bs n (apsP bs n 0 7) (↑((0 : Nat) + ((dtV bs n).length)) : Int) ∧ pickI bs n (apsP bs n 0 7) (↑((0 : Nat) + ((dtV bs n).length)) : Int) < (↑((0 : Nat) + ((dtV bs n).length)) : Int)) (.need ((0 : Nat) + (pickI bs n (apsP bs n 0 7) (↑((0 : Nat) + ((dtV bs n).length)) : Int)).toNat * (2 : Nat) + (2 : Nat) ≤ (dtW bs n).length) (.fin (.tuple #[.slice (some ⟨2, 0, none⟩) ((apsL bs n 0 7).length) ((apsL bs n 0 7).length), .slice (some ⟨4, 0, none⟩) (0 + ((dtV bs n).length)) (0 + ((dtV bs n).length))]) [some ⟨.view, .bytes (bs)⟩, some ⟨.box, .vals [.slice (some ⟨0, 0, none⟩) (n) (n), .int .i64 (apsP bs n 0 7 + 1 + 1)]⟩, some ⟨.row 37 2, .ints (flat (apsL bs n 0 7))⟩, some deadB, some ⟨.row 41 2, .ints (setInts (dtW bs n) (0 + (pickI bs n (apsP bs n 0 7) (↑(0 + ((dtV bs n).length)) : Int)).toNat * 2) [(dtW bs n).getD (0 + (pickI bs n (apsP bs n 0 7) (↑(0 + ((dtV bs n).length)) : Int)).toNat * 2 + 1) 0, (dtW bs n).getD (0 + (pickI bs n (apsP bs n 0 7) (↑(0 + ((dtV bs n).length)) : Int)).toNat * 2 + 0) 0])⟩, some ⟨.row 41 2, .ints (flat (dtV bs n))⟩]))))))) (brT (pickI bs n (apsP bs n 0 7 + 1) 6 == 2) (.need ((0 : Int) ≤ (1 : Int) ∧ (1 : Int) ≤ (↑((0 : Nat) + ((dtV bs n).length)) : Int) ∧ (↑((0 : Nat) + ((dtV bs n).length)) : Int) ≤ (↑((0 : Nat) + ((dtV bs n).length)) : Int)) (.fin (.tuple #[.slice (some ⟨2, 0, none⟩) ((apsL bs n 0 7).length) ((apsL bs n 0 7).length), .slice (some ⟨4, 2, none⟩) (((↑(0 + ((dtV bs n).length)) : Int)).toNat - 1) (((↑(0 + ((dtV bs n).length)) : Int)).toNat - 1)]) [some ⟨.view, .bytes (bs)⟩, some ⟨.box, .vals [.slice (some ⟨0, 0, none⟩) (n) (n), .int .i64 (apsP bs n 0 7 + 1 + 1)]⟩, some ⟨.row 37 2, .ints (flat (apsL bs n 0 7))⟩, some deadB, some ⟨.row 41 2, .ints (dtW bs n)⟩, some ⟨.row 41 2, .ints (flat (dtV bs n))⟩])) (.fin (.tuple #[.slice (some ⟨2, 0, none⟩) ((apsL bs n 0 7).length) ((apsL bs n 0 7).length), .slice (some ⟨4, 0, none⟩) (0 + ((dtV bs n).length)) (0 + ((dtV bs n).length))]) [some ⟨.view, .bytes (bs)⟩, some ⟨.box, .vals [.slice (some ⟨0, 0, none⟩) (n) (n), .int .i64 (apsP bs n 0 7 + 1 + 1)]⟩, some ⟨.row 37 2, .ints (flat (apsL bs n 0 7))⟩, some deadB, some ⟨.row 41 2, .ints (dtW bs n)⟩, some ⟨.row 41 2, .ints (flat (dtV bs n))⟩])))))) (.fin (.tuple #[.slice (some ⟨2, 0, none⟩) ((apsL bs n 0 7).length) ((apsL bs n 0 7).length), .slice (some ⟨4, 0, none⟩) (0 + ((dtV bs n).length)) (0 + ((dtV bs n).length))]) [some ⟨.view, .bytes (bs)⟩, some ⟨.box, .vals [.slice (some ⟨0, 0, none⟩) (n) (n), .int .i64 (apsP bs n 0 7)]⟩, some ⟨.row 37 2, .ints (flat (apsL bs n 0 7))⟩, some deadB, some ⟨.row 41 2, .ints (dtW bs n)⟩, some ⟨.row 41 2, .ints (flat (dtV bs n))⟩])))))))))
set_option maxRecDepth 100000 in
theorem tr_dTl (bs : List Int) (n : Nat) : bodyX Try.prog EDt 30 12 41 [.row n (.bytes bs)] = brT (decide (2000 < (↑n : Int))) (.need ((0 : Int) ≤ (0 : Int) ∧ (0 : Int) ≤ (2000 : Int) ∧ (2000 : Int) ≤ (↑n : Int)) (dtT bs 2000)) (dtT bs n) := by kernel_rfl
theorem dtW_is (bs : List Int) (l : Nat) : dtW bs l = flat (dtV bs l) := by
  have := flat_length (dtV bs l)
  unfold dtW
  rw [List.nil_append, List.drop_zero, List.take_of_length_le (by omega)]
theorem dt_fin {bs : List Int} {l : Nat} (r0 : rdC bs l 0) (h : rdK bs l (apsP bs l 0 7)) (h9 : (apsL bs l 0 7).length ≤ 21) (hP : apsP bs l 0 7 ≤ 1000) : ∃ (o m : Nat) (ks : List Int), (o + m * 2 ≤ ks.length ∧ m ≤ 1000) ∧ (dtT bs l).ok (fun _ _ => False) (fun u mem => RowIs2 [.slice (some ⟨0, 0, none⟩) (apsL bs l 0 7).length (apsL bs l 0 7).length, .slice (some ⟨1, o, none⟩) m m] ⟨.row 37 2, .ints (flat (apsL bs l 0 7))⟩ ⟨.row 41 2, .ints ks⟩ u mem) := by
  have r2 : rdC bs l (apsP bs l 0 7) := h.1
  have r3 : rdC bs l (apsP bs l 0 7 + 1) := h.at (by omega) (by omega)
  have r4 : rdC bs l (apsP bs l 0 7 + 1 + 1) := h.at (by omega) (by omega)
  have vl := stV_len (ptsA (apsL bs l 0 7).length (List.drop 0 (flat (apsL bs l 0 7))))
  change (dtV bs l).length ≤ 20 at vl
  have fl := flat_length (apsL bs l 0 7)
  have fv := flat_length (dtV bs l)
  unfold dtT
  rw [dtW_is]
  have pk : 0 < (dtV bs l).length → 0 ≤ pickI bs l (apsP bs l 0 7) ((dtV bs l).length : Nat) ∧ pickI bs l (apsP bs l 0 7) ((dtV bs l).length : Nat) < ((dtV bs l).length : Nat) := fun g => pickI_bd r2 (by omega)
  simp only [Nat.zero_add, Nat.add_zero, Int.toNat_natCast, List.drop_zero]
  generalize dtV bs l = V at *
  rcases Nat.eq_zero_or_pos V.length with h0 | h0
  · have c1 : decide (0 < ((V.length : Nat) : Int)) = false := decide_eq_false (by omega)
    simp only [c1, brT_f]
    refine ⟨0, V.length, flat V, ⟨by omega, by omega⟩, ?_⟩
    repeat' (first | exact ⟨some 2, some 4, _, rfl, ⟨⟨rfl, rfl, rfl⟩, ⟨rfl, rfl, rfl⟩, trivial⟩, ⟨rfl, rfl, rfl⟩, ⟨rfl, rfl, rfl⟩, by intro h; cases h⟩ | exact True.intro | assumption | omega | refine And.intro ?_ ?_)
  · have c1 : decide (0 < ((V.length : Nat) : Int)) = true := decide_eq_true (by omega)
    obtain ⟨k1, k2⟩ := pk h0
    simp only [c1, brT_t]
    generalize pickI bs l (apsP bs l 0 7) ((V.length : Nat) : Int) = K at *
    obtain ⟨K, rfl⟩ := Int.eq_ofNat_of_zero_le k1
    simp only [Int.toNat_natCast]
    have sl : ∀ (ys : List Int) (j : Nat) (zs : List Int), j + zs.length ≤ ys.length → (setInts ys j zs).length = ys.length := fun ys j zs hz => by
      unfold setInts
      simp only [List.length_append, List.length_take, List.length_drop]
      omega
    rcases pickI bs l (apsP bs l 0 7 + 1) 6 == 0 with _ | _
    · simp only [brT_f]
      rcases pickI bs l (apsP bs l 0 7 + 1) 6 == 1 with _ | _
      · simp only [brT_f]
        rcases pickI bs l (apsP bs l 0 7 + 1) 6 == 2 with _ | _
        · simp only [brT_f]
          refine ⟨0, V.length, flat V, ⟨by omega, by omega⟩, ?_⟩
          repeat' (first | exact ⟨some 2, some 4, _, rfl, ⟨⟨rfl, rfl, rfl⟩, ⟨rfl, rfl, rfl⟩, trivial⟩, ⟨rfl, rfl, rfl⟩, ⟨rfl, rfl, rfl⟩, by intro h; cases h⟩ | exact True.intro | assumption | omega | refine And.intro ?_ ?_)
        · simp only [brT_t]
          refine ⟨2, V.length - 1, flat V, ⟨by omega, by omega⟩, ?_⟩
          repeat' (first | exact ⟨some 2, some 4, _, rfl, ⟨⟨rfl, rfl, rfl⟩, ⟨rfl, rfl, rfl⟩, trivial⟩, ⟨rfl, rfl, rfl⟩, ⟨rfl, rfl, rfl⟩, by intro h; cases h⟩ | exact True.intro | assumption | omega | refine And.intro ?_ ?_)
      · simp only [brT_t]
        refine ⟨0, V.length, setInts (flat V) (K * 2) [(flat V).getD (K * 2 + 1) 0, (flat V).getD (K * 2) 0], ⟨by rw [sl _ _ _ (by simp; omega)]; omega, by omega⟩, ?_⟩
        repeat' (first | exact ⟨some 2, some 4, _, rfl, ⟨⟨rfl, rfl, rfl⟩, ⟨rfl, rfl, rfl⟩, trivial⟩, ⟨rfl, rfl, rfl⟩, ⟨rfl, rfl, rfl⟩, by intro h; cases h⟩ | exact True.intro | assumption | omega | refine And.intro ?_ ?_)
    · simp only [brT_t]
      refine ⟨0, V.length, setInts (flat V) (K * 2 + 1) [pickI bs l (apsP bs l 0 7 + 1 + 1) (IntKind.i64.wrap (((apsL bs l 0 7).length : Int) + 1))], ⟨by rw [sl _ _ _ (by simp; omega)]; omega, by omega⟩, ?_⟩
      repeat' (first | exact ⟨some 2, some 4, _, rfl, ⟨⟨rfl, rfl, rfl⟩, ⟨rfl, rfl, rfl⟩, trivial⟩, ⟨rfl, rfl, rfl⟩, ⟨rfl, rfl, rfl⟩, by intro h; cases h⟩ | exact True.intro | assumption | omega | refine And.intro ?_ ?_)
end Go.Proofs.Ytolodncpegajkaa
namespace Go.Proofs.Ytolodncpegajkaa
set_option linter.all false
open Go.RowKit
theorem atoms_ints {cs : Cs} {xs : List Int} (h : cs.list = xs.map (Value.int .i64)) : allAtoms cs = true := by
  have key : ∀ v ∈ cs.list, atomV v = true := fun v hv => by
    rw [h] at hv
    obtain ⟨x, _, rfl⟩ := List.mem_map.1 hv
    rfl
  cases cs with
  | vals l => exact List.all_eq_true.2 key
  | ints _ => rfl
  | bytes _ => rfl
theorem DOk.ints {w : World} {l : Nat} {cs : Cs} {xs : List Int} (h : cs.list = xs.map (Value.int .i64)) {y : Value} (k : DOk w (.row l cs) y) : DOk w (.row l (.ints xs)) y := by
  obtain ⟨_, ad, c', h2, h3, h4⟩ := k
  refine ⟨rfl, ad, c', h2, h3, h4.imp id ?_⟩
  rintro ⟨g, f, h5, h6, h7⟩
  exact ⟨g, f, h5, h6, fun j v hv => h7 j v (by rw [h]; exact hv)⟩
/-- What is known for a row of ints is known for the same cells written otherwise. -/
theorem DOks.ints {w : World} : ∀ {ds ds' : List DArg} {args : Array Value}, DOks w ds args → ds.length = ds'.length → (∀ (i : Nat) d d', ds[i]? = some d → ds'[i]? = some d' → d = d' ∨ ∃ l cs xs, d = .row l cs ∧ d' = .row l (.ints xs) ∧ cs.list = xs.map (Value.int .i64)) → DOks w ds' args := by
  intro ds ds' args h hl hi
  refine ⟨by rw [← hl]; exact h.1, fun i d' y hd' hy => ?_⟩
  have hlt : i < ds.length := by rw [hl]; exact (List.getElem?_eq_some_iff.1 hd').1
  have hd : ds[i]? = some ds[i] := by simp [hlt]
  have h0 := h.2 i ds[i] y hd hy
  rcases hi i ds[i] d' hd hd' with e | ⟨l, cs, xs, e1, e2, e3⟩
  · rw [← e]; exact h0
  · rw [e1] at h0
    rw [e2]
    exact h0.ints e3
theorem row2_ints {w : World} {a : DArg} {l : Nat} {cs : Cs} {xs : List Int} {args : Array Value} (h : cs.list = xs.map (Value.int .i64)) (k : DOks w [a, .row l cs] args) : DOks w [a, .row l (.ints xs)] args :=
  k.ints rfl fun i d d' hd hd' => by
    match i with
    | 0 =>
      obtain rfl : a = d := by simpa using hd
      obtain rfl : a = d' := by simpa using hd'
      exact .inl rfl
    | 1 =>
      obtain rfl : DArg.row l cs = d := by simpa using hd
      obtain rfl : DArg.row l (.ints xs) = d' := by simpa using hd'
      exact .inr ⟨l, cs, xs, rfl, rfl, h⟩
    | i + 2 => simp at hd
end Go.Proofs.Ytolodncpegajkaa
namespace Go.Proofs.Ytolodncpegajkaa
set_option linter.all false
open Go.RowKit
/-- What is drawn: points and edges. -/
theorem dt_some (bs : List Int) (n : Nat) (hb : Bytes bs) (hn : n ≤ bs.length) : ∃ (o m : Nat) (ks : List Int), (o + m * 2 ≤ ks.length ∧ m ≤ 1000) ∧ ResR2 Try.prog 41 [.row n (.bytes bs)] [.slice (some ⟨0, 0, none⟩) (apsL bs (rdL n) 0 7).length (apsL bs (rdL n) 0 7).length, .slice (some ⟨1, o, none⟩) m m] ⟨.row 37 2, .ints (flat (apsL bs (rdL n) 0 7))⟩ ⟨.row 41 2, .ints ks⟩ := by
  have key : ∀ l, l ≤ n → l ≤ 2000 → rdL n = l → ∃ (o m : Nat) (ks : List Int), (o + m * 2 ≤ ks.length ∧ m ≤ 1000) ∧ (dtT bs l).ok (fun _ _ => False) (fun u mem => RowIs2 [.slice (some ⟨0, 0, none⟩) (apsL bs (rdL n) 0 7).length (apsL bs (rdL n) 0 7).length, .slice (some ⟨1, o, none⟩) m m] ⟨.row 37 2, .ints (flat (apsL bs (rdL n) 0 7))⟩ ⟨.row 41 2, .ints ks⟩ u mem) := fun l h1 h2 e => by
    subst e
    obtain ⟨r0, r1, _, r3⟩ := drKey hb hn h1 h2 (m := 7) (by omega)
    have rk : rdK bs (rdL n) 0 := rdK0 hb hn h1 h2 (by omega) (by omega)
    have b := apsP_bd (m := 7) (rk.at (by omega) (by omega) : rdC bs (rdL n) (0 + 1)) (by omega)
    exact dt_fin r0 r1 r3 (by omega)
  by_cases h : (2000 : Int) < n
  · obtain ⟨o, m, ks, h1, h2⟩ := key 2000 (by omega) (by omega) (rdL_of h)
    refine ⟨o, m, ks, h1, bodyX_resR2 mixed EDt_ok (m := 30) (n := 12) rfl rfl ?_⟩
    rw [tr_dTl, decide_eq_true h]
    exact ⟨⟨by omega, by omega, by omega⟩, h2⟩
  · obtain ⟨o, m, ks, h1, h2⟩ := key n (by omega) (by omega) (rdL_no h)
    refine ⟨o, m, ks, h1, bodyX_resR2 mixed EDt_ok (m := 30) (n := 12) rfl rfl ?_⟩
    rw [tr_dTl, decide_eq_false h]
    exact h2
def dtP (bs : List Int) (n : Nat) (x : Nat × Nat × List Int) : Prop := (x.1 + x.2.1 * 2 ≤ x.2.2.length ∧ x.2.1 ≤ 1000) ∧ ResR2 Try.prog 41 [.row n (.bytes bs)] [.slice (some ⟨0, 0, none⟩) (apsL bs (rdL n) 0 7).length (apsL bs (rdL n) 0 7).length, .slice (some ⟨1, x.1, none⟩) x.2.1 x.2.1] ⟨.row 37 2, .ints (flat (apsL bs (rdL n) 0 7))⟩ ⟨.row 41 2, .ints x.2.2⟩
open Classical in
noncomputable def dtX (bs : List Int) (n : Nat) : Nat × Nat × List Int := if h : ∃ x, dtP bs n x then Classical.choose h else (0, 0, [])
theorem dtX_ok {bs : List Int} {n : Nat} (hb : Bytes bs) (hn : n ≤ bs.length) : dtP bs n (dtX bs n) := by
  have h : ∃ x, dtP bs n x := by
    obtain ⟨o, m, ks, h1, h2⟩ := dt_some bs n hb hn
    exact ⟨(o, m, ks), h1, h2⟩
  unfold dtX
  rw [dif_pos h]
  exact Classical.choose_spec h
noncomputable def dtA (bs : List Int) (n : Nat) : Nat := (dtX bs n).1
noncomputable def dtB (bs : List Int) (n : Nat) : Nat := (dtX bs n).2.1
noncomputable def dtC (bs : List Int) (n : Nat) : List Int := (dtX bs n).2.2
noncomputable def T2dt : TabR2 := fun ds => match ds with
  | [.row n (.bytes bs)] => some ([.slice (some ⟨0, 0, none⟩) (apsL bs (rdL n) 0 7).length (apsL bs (rdL n) 0 7).length, .slice (some ⟨1, dtA bs n, none⟩) (dtB bs n) (dtB bs n)], ⟨.row 37 2, .ints (flat (apsL bs (rdL n) 0 7))⟩, ⟨.row 41 2, .ints (dtC bs n)⟩, [Bytes bs, n ≤ bs.length])
  | _ => none
theorem T2dt_ok : TabR2Ok Try.prog 41 T2dt := by
  intro ds vs b0 b1 C h hC
  unfold T2dt at h
  split at h
  · obtain ⟨rfl, rfl, rfl, rfl⟩ : _ ∧ _ ∧ _ ∧ _ := by simpa using h
    exact (dtX_ok hC.1 hC.2.1).2
  · cases h
noncomputable def JDt : TabJ := consR 41 (r2G T2dt) noJ
theorem JDt_ok : GSound Try.prog JDt.g := consR2_ok (failG_sound _) (entersB_res (by kernel_rfl)).1 T2dt_ok
theorem res_rowT {P : Program} {f : FuncId} {a : DArg} {l : Nat} {cs : Cs} {xs : List Int} {v : Value} (h : cs.list = xs.map (Value.int .i64)) (k : Res P f [a, .row l (.ints xs)] v) : Res P f [a, .row l cs] v :=
  ⟨k.1, k.2.1, k.2.2.1, fun d hd => by
    rcases List.mem_cons.1 hd with rfl | hd
    · exact k.2.2.2.1 _ (List.mem_cons_self ..)
    · obtain rfl : d = .row l cs := by simpa using hd
      exact atoms_ints h, fun w args ha => k.2.2.2.2 w args (row2_ints h ha)⟩
/-- TotalLength, of no edges too. -/
def pTl2 : List DArg → Option (Value × List Prop)
  | [.row n (.ints xs), .row m (.vals [])] => some (iv (tlV (ptsA n xs) []), [n * 2 ≤ xs.length, m = 0, n ≤ 1000000000])
  | ds => pTl ds
theorem pTl2_ok {f : FuncId} (h0 : ∀ {ds : List DArg} {v : Value} {C : List Prop}, pTl ds = some (v, C) → AllP C → Res Try.prog f ds v) {ds : List DArg} {v : Value} {C : List Prop} (h : pTl2 ds = some (v, C)) (hC : AllP C) : Res Try.prog f ds v := by
  unfold pTl2 at h
  split at h
  · rename_i n xs m
    obtain ⟨rfl, rfl⟩ : _ ∧ _ := by simpa using h
    obtain ⟨c1, rfl, c3, _⟩ := hC
    exact res_rowT (xs := []) rfl (h0 (ds := [.row n (.ints xs), .row 0 (.ints [])]) rfl ⟨c1, by simp, c3, trivial⟩)
  · exact h0 h hC
theorem pTl2s_ok {ds : List DArg} {v : Value} {C : List Prop} (h : pTl2 ds = some (v, C)) (hC : AllP C) : Res Try.prog 43 ds v := pTl2_ok pTls_ok h hC
theorem pTl2i_ok {ds : List DArg} {v : Value} {C : List Prop} (h : pTl2 ds = some (v, C)) (hC : AllP C) : Res Try.prog 42 ds v := pTl2_ok pTli_ok h hC
def TLt : Tab := fun f ds => match f with
  | 43 => pTl2 ds
  | 42 => pTl2 ds
  | f => T3 f ds
theorem TLt_ok : TabOk Try.prog TLt := by
  intro f ds v C h hC
  unfold TLt at h
  (try split at h)
  all_goals first | with_reducible exact pTl2s_ok h hC | with_reducible exact pTl2i_ok h hC | exact T3_ok _ _ _ _ h hC
noncomputable def ELt : Env := ⟨TLt, fun _ _ => none, fun _ => noL, JDt, fun _ => noR⟩
theorem ELt_ok : EnvOk Try.prog ELt := ⟨TLt_ok, fun _ _ _ _ _ h => (by cases h), fun _ _ _ => noL_good, JDt_ok, fun _ _ _ => noR_good⟩
theorem tlS_app (ps : List Pt) : ∀ a b : List Pt, tlS ps (a ++ b) = tlS ps a + tlS ps b
  | [], b => by simp [tlS]
  | e :: a, b => by
    have := tlS_app ps a b
    simp only [List.cons_append, tlS]
    omega
/-- Lengths add up. -/
theorem tlV_cut {ps es : List Pt} (k : Nat) (h : 0 ≤ tlV ps es) : tlV ps (es.take k) + tlV ps (es.drop k) = tlV ps es ∧ tlV ps [] = 0 ∧ 0 ≤ tlV ps (es.take k) ∧ 0 ≤ tlV ps (es.drop k) ∧ tlV ps es ≤ 80000 := by
  unfold tlV at h ⊢
  rcases hc : (okL ps && decide (es.length ≤ 20) && evA ps.length es) with _ | _
  · rw [hc] at h
    simp at h
  have hc2 := hc
  rw [Bool.and_eq_true, Bool.and_eq_true, decide_eq_true_eq] at hc2
  obtain ⟨⟨k1, k2⟩, k3⟩ := hc2
  have hv : allV ps = true := by
    unfold okL at k1
    exact (Bool.and_eq_true_iff.1 k1).1
  have ha : evA ps.length (es.take k) = true ∧ evA ps.length (es.drop k) = true := by
    have e : es = es.take k ++ es.drop k := (List.take_append_drop k es).symm
    unfold evA at k3 ⊢
    rw [e, List.all_append, Bool.and_eq_true] at k3
    exact k3
  have l1 : (es.take k).length ≤ 20 := by rw [List.length_take]; omega
  have l2 : (es.drop k).length ≤ 20 := by rw [List.length_drop]; omega
  have nn : ∀ qs : List Pt, 0 ≤ tlS ps qs ∧ tlS ps qs ≤ 4000 * qs.length := fun qs => by
    induction qs with
    | nil => simp [tlS]
    | cons q r ih =>
      have b := edL_bd hv q
      simp only [tlS, List.length_cons]
      omega
  have ap := tlS_app ps (es.take k) (es.drop k)
  rw [List.take_append_drop] at ap
  have n0 := nn es
  rw [k1, ha.1, ha.2, decide_eq_true l1, decide_eq_true l2]
  simp only [Bool.and_self, cond_true, List.length_nil, Nat.zero_le, decide_true]
  refine ⟨ap.symm, rfl, (nn _).1, (nn _).1, by omega⟩
theorem ptsA_take {m k : Nat} {xs : List Int} (hk : k ≤ m) (h : m * 2 ≤ xs.length) : ptsA k xs = (ptsA m xs).take k := by
  obtain ⟨h1, h2⟩ := ptsA_spec h
  have e : xs.take (k * 2) = flat ((ptsA m xs).take k) := by
    rw [← flat_take, ← h1, List.take_take, Nat.min_eq_left (by omega)]
  show pts (xs.take (k * 2)) = _
  rw [e, pts_flat]
theorem ptsA_drop {m k : Nat} {xs : List Int} (hk : k ≤ m) (h : m * 2 ≤ xs.length) : ptsA (m - k) (xs.drop (k * 2)) = (ptsA m xs).drop k := by
  obtain ⟨h1, h2⟩ := ptsA_spec h
  have e : (xs.drop (k * 2)).take ((m - k) * 2) = flat ((ptsA m xs).drop k) := by
    rw [← flat_drop, ← h1, List.drop_take, show m * 2 - k * 2 = (m - k) * 2 by omega]
  show pts ((xs.drop (k * 2)).take ((m - k) * 2)) = _
  rw [e, pts_flat]
set_option maxRecDepth 100000 in
theorem tr_ltl (bs ms : List Int) : bodyP Try.prog ELt 30 12 10 [.row bs.length (.bytes bs), .row ms.length (.bytes ms)] = brT (decide (1048576 < (↑bs.length : Int))) (.fin (.bool (true)) []) (brT (decide (1048576 < (↑ms.length : Int))) (.fin (.bool (true)) []) (.need (Bytes (List.drop (0 : Nat) bs)) (.need (bs.length ≤ (List.drop (0 : Nat) bs).length) (.need ((apsL (List.drop (0 : Nat) bs) (rdL bs.length) (0 : Int) (7 : Int)).length * (2 : Nat) ≤ (List.drop (0 : Nat) (flat (apsL (List.drop (0 : Nat) bs) (rdL bs.length) (0 : Int) (7 : Int)))).length) (.need (dtB (List.drop (0 : Nat) bs) bs.length * (2 : Nat) ≤ (List.drop (dtA (List.drop (0 : Nat) bs) bs.length) (dtC (List.drop (0 : Nat) bs) bs.length)).length) (.need ((apsL (List.drop (0 : Nat) bs) (rdL bs.length) (0 : Int) (7 : Int)).length ≤ (1000000000 : Nat)) (.need ((apsL (List.drop (0 : Nat) bs) (rdL bs.length) (0 : Int) (7 : Int)).length * (2 : Nat) ≤ (List.drop (0 : Nat) (flat (apsL (List.drop (0 : Nat) bs) (rdL bs.length) (0 : Int) (7 : Int)))).length) (.need (dtB (List.drop (0 : Nat) bs) bs.length * (2 : Nat) ≤ (List.drop (dtA (List.drop (0 : Nat) bs) bs.length) (dtC (List.drop (0 : Nat) bs) bs.length)).length) (.need ((apsL (List.drop (0 : Nat) bs) (rdL bs.length) (0 : Int) (7 : Int)).length ≤ (1000000000 : Nat)) (brT (!tlV (ptsA (apsL (List.drop 0 bs) (rdL bs.length) 0 7).length (List.drop 0 (flat (apsL (List.drop 0 bs) (rdL bs.length) 0 7)))) (ptsA (dtB (List.drop 0 bs) bs.length) (List.drop (dtA (List.drop 0 bs) bs.length) (dtC (List.drop 0 bs) bs.length))) == tlV (ptsA (apsL (List.drop 0 bs) (rdL bs.length) 0 7).length (List.drop 0 (flat (apsL (List.drop 0 bs) (rdL bs.length) 0 7)))) (ptsA (dtB (List.drop 0 bs) bs.length) (List.drop (dtA (List.drop 0 bs) bs.length) (dtC (List.drop 0 bs) bs.length)))) (.need ((apsL (List.drop (0 : Nat) bs) (rdL bs.length) (0 : Int) (7 : Int)).length * (2 : Nat) ≤ (List.drop (0 : Nat) (flat (apsL (List.drop (0 : Nat) bs) (rdL bs.length) (0 : Int) (7 : Int)))).length) (.need (dtB (List.drop (0 : Nat) bs) bs.length * (2 : Nat) ≤ (List.drop (dtA (List.drop (0 : Nat) bs) bs.length) (dtC (List.drop (0 : Nat) bs) bs.length)).length) (.need ((apsL (List.drop (0 : Nat) bs) (rdL bs.length) (0 : Int) (7 : Int)).length ≤ (1000000000 : Nat)) (.fin (.bool (tlV (ptsA (apsL (List.drop 0 bs) (rdL bs.length) 0 7).length (List.drop 0 (flat (apsL (List.drop 0 bs) (rdL bs.length) 0 7)))) (ptsA (dtB (List.drop 0 bs) bs.length) (List.drop (dtA (List.drop 0 bs) bs.length) (dtC (List.drop 0 bs) bs.length))) == tlV (ptsA (apsL (List.drop 0 bs) (rdL bs.length) 0 7).length (List.drop 0 (flat (apsL (List.drop 0 bs) (rdL bs.length) 0 7)))) (ptsA (dtB (List.drop 0 bs) bs.length) (List.drop (dtA (List.drop 0 bs) bs.length) (dtC (List.drop 0 bs) bs.length))))) [])))) (brT (decide (tlV (ptsA (apsL (List.drop 0 bs) (rdL bs.length) 0 7).length (List.drop 0 (flat (apsL (List.drop 0 bs) (rdL bs.length) 0 7)))) (ptsA (dtB (List.drop 0 bs) bs.length) (List.drop (dtA (List.drop 0 bs) bs.length) (dtC (List.drop 0 bs) bs.length))) < 0)) (.need ((apsL (List.drop (0 : Nat) bs) (rdL bs.length) (0 : Int) (7 : Int)).length * (2 : Nat) ≤ (List.drop (0 : Nat) (flat (apsL (List.drop (0 : Nat) bs) (rdL bs.length) (0 : Int) (7 : Int)))).length) (.need (dtB (List.drop (0 : Nat) bs) bs.length * (2 : Nat) ≤ (List.drop (dtA (List.drop (0 : Nat) bs) bs.length) (dtC (List.drop (0 : Nat) bs) bs.length)).length) (.need ((apsL (List.drop (0 : Nat) bs) (rdL bs.length) (0 : Int) (7 : Int)).length ≤ (1000000000 : Nat)) (.fin (.bool (tlV (ptsA (apsL (List.drop 0 bs) (rdL bs.length) 0 7).length (List.drop 0 (flat (apsL (List.drop 0 bs) (rdL bs.length) 0 7)))) (ptsA (dtB (List.drop 0 bs) bs.length) (List.drop (dtA (List.drop 0 bs) bs.length) (dtC (List.drop 0 bs) bs.length))) == tlV (ptsA (apsL (List.drop 0 bs) (rdL bs.length) 0 7).length (List.drop 0 (flat (apsL (List.drop 0 bs) (rdL bs.length) 0 7)))) (ptsA (dtB (List.drop 0 bs) bs.length) (List.drop (dtA (List.drop 0 bs) bs.length) (dtC (List.drop 0 bs) bs.length))))) [])))) (.need (¬IntKind.i64.wrap ((↑(dtB (List.drop (0 : Nat) bs) bs.length) : Int) + (1 : Int)) = (0 : Int)) (.need ((apsL (List.drop (0 : Nat) bs) (rdL bs.length) (0 : Int) (7 : Int)).length * (2 : Nat) ≤ (List.drop (0 : Nat) (flat (apsL (List.drop (0 : Nat) bs) (rdL bs.length) (0 : Int) (7 : Int)))).length) (.need (((bndI (some (IntKind.i64, (↑ms.length : Int).tmod (IntKind.i64.wrap ((↑(dtB (List.drop (0 : Nat) bs) bs.length) : Int) + (1 : Int))))) (↑(dtB (List.drop (0 : Nat) bs) bs.length) : Int)).toNat - (0 : Nat)) * (2 : Nat) ≤ (List.drop (dtA (List.drop (0 : Nat) bs) bs.length + (0 : Nat)) (dtC (List.drop (0 : Nat) bs) bs.length)).length) (.need ((apsL (List.drop (0 : Nat) bs) (rdL bs.length) (0 : Int) (7 : Int)).length ≤ (1000000000 : Nat)) (.need ((apsL (List.drop (0 : Nat) bs) (rdL bs.length) (0 : Int) (7 : Int)).length * (2 : Nat) ≤ (List.drop (0 : Nat) (flat (apsL (List.drop (0 : Nat) bs) (rdL bs.length) (0 : Int) (7 : Int)))).length) (.need (((bndI none (↑(dtB (List.drop (0 : Nat) bs) bs.length) : Int)).toNat - (bndI (some (IntKind.i64, (↑ms.length : Int).tmod (IntKind.i64.wrap ((↑(dtB (List.drop (0 : Nat) bs) bs.length) : Int) + (1 : Int))))) (0 : Int)).toNat) * (2 : Nat) ≤ (List.drop (dtA (List.drop (0 : Nat) bs) bs.length + (bndI (some (IntKind.i64, (↑ms.length : Int).tmod (IntKind.i64.wrap ((↑(dtB (List.drop (0 : Nat) bs) bs.length) : Int) + (1 : Int))))) (0 : Int)).toNat * (2 : Nat)) (dtC (List.drop (0 : Nat) bs) bs.length)).length) (.need ((apsL (List.drop (0 : Nat) bs) (rdL bs.length) (0 : Int) (7 : Int)).length ≤ (1000000000 : Nat)) (brT (IntKind.i64.wrap (tlV (ptsA (apsL (List.drop 0 bs) (rdL bs.length) 0 7).length (List.drop 0 (flat (apsL (List.drop 0 bs) (rdL bs.length) 0 7)))) (ptsA ((bndI (some (IntKind.i64, (↑ms.length : Int).tmod (IntKind.i64.wrap ((↑(dtB (List.drop 0 bs) bs.length) : Int) + 1)))) (↑(dtB (List.drop 0 bs) bs.length) : Int)).toNat - 0) (List.drop (dtA (List.drop 0 bs) bs.length + 0) (dtC (List.drop 0 bs) bs.length))) + tlV (ptsA (apsL (List.drop 0 bs) (rdL bs.length) 0 7).length (List.drop 0 (flat (apsL (List.drop 0 bs) (rdL bs.length) 0 7)))) (ptsA ((bndI none (↑(dtB (List.drop 0 bs) bs.length) : Int)).toNat - (bndI (some (IntKind.i64, (↑ms.length : Int).tmod (IntKind.i64.wrap ((↑(dtB (List.drop 0 bs) bs.length) : Int) + 1)))) 0).toNat) (List.drop (dtA (List.drop 0 bs) bs.length + (bndI (some (IntKind.i64, (↑ms.length : Int).tmod (IntKind.i64.wrap ((↑(dtB (List.drop 0 bs) bs.length) : Int) + 1)))) 0).toNat * 2) (dtC (List.drop 0 bs) bs.length)))) == tlV (ptsA (apsL (List.drop 0 bs) (rdL bs.length) 0 7).length (List.drop 0 (flat (apsL (List.drop 0 bs) (rdL bs.length) 0 7)))) (ptsA (dtB (List.drop 0 bs) bs.length) (List.drop (dtA (List.drop 0 bs) bs.length) (dtC (List.drop 0 bs) bs.length)))) (.need ((apsL (List.drop (0 : Nat) bs) (rdL bs.length) (0 : Int) (7 : Int)).length * (2 : Nat) ≤ (List.drop (0 : Nat) (flat (apsL (List.drop (0 : Nat) bs) (rdL bs.length) (0 : Int) (7 : Int)))).length) (.need ((0 : Nat) = (0 : Nat)) (.need ((apsL (List.drop (0 : Nat) bs) (rdL bs.length) (0 : Int) (7 : Int)).length ≤ (1000000000 : Nat)) (.need ((0 : Int) ≤ bndI none (0 : Int) ∧ bndI none (0 : Int) ≤ bndI (some (IntKind.i64, (↑ms.length : Int).tmod (IntKind.i64.wrap ((↑(dtB (List.drop (0 : Nat) bs) bs.length) : Int) + (1 : Int))))) (↑(dtB (List.drop (0 : Nat) bs) bs.length) : Int) ∧ bndI (some (IntKind.i64, (↑ms.length : Int).tmod (IntKind.i64.wrap ((↑(dtB (List.drop (0 : Nat) bs) bs.length) : Int) + (1 : Int))))) (↑(dtB (List.drop (0 : Nat) bs) bs.length) : Int) ≤ (↑(dtB (List.drop (0 : Nat) bs) bs.length) : Int)) (.need ((0 : Int) ≤ bndI (some (IntKind.i64, (↑ms.length : Int).tmod (IntKind.i64.wrap ((↑(dtB (List.drop (0 : Nat) bs) bs.length) : Int) + (1 : Int))))) (0 : Int) ∧ bndI (some (IntKind.i64, (↑ms.length : Int).tmod (IntKind.i64.wrap ((↑(dtB (List.drop (0 : Nat) bs) bs.length) : Int) + (1 : Int))))) (0 : Int) ≤ bndI none (↑(dtB (List.drop (0 : Nat) bs) bs.length) : Int) ∧ bndI none (↑(dtB (List.drop (0 : Nat) bs) bs.length) : Int) ≤ (↑(dtB (List.drop (0 : Nat) bs) bs.length) : Int)) (.fin (.bool (tlV (ptsA (apsL (List.drop 0 bs) (rdL bs.length) 0 7).length (List.drop 0 (flat (apsL (List.drop 0 bs) (rdL bs.length) 0 7)))) [] == 0)) [])))))) (.need ((0 : Int) ≤ bndI none (0 : Int) ∧ bndI none (0 : Int) ≤ bndI (some (IntKind.i64, (↑ms.length : Int).tmod (IntKind.i64.wrap ((↑(dtB (List.drop (0 : Nat) bs) bs.length) : Int) + (1 : Int))))) (↑(dtB (List.drop (0 : Nat) bs) bs.length) : Int) ∧ bndI (some (IntKind.i64, (↑ms.length : Int).tmod (IntKind.i64.wrap ((↑(dtB (List.drop (0 : Nat) bs) bs.length) : Int) + (1 : Int))))) (↑(dtB (List.drop (0 : Nat) bs) bs.length) : Int) ≤ (↑(dtB (List.drop (0 : Nat) bs) bs.length) : Int)) (.need ((0 : Int) ≤ bndI (some (IntKind.i64, (↑ms.length : Int).tmod (IntKind.i64.wrap ((↑(dtB (List.drop (0 : Nat) bs) bs.length) : Int) + (1 : Int))))) (0 : Int) ∧ bndI (some (IntKind.i64, (↑ms.length : Int).tmod (IntKind.i64.wrap ((↑(dtB (List.drop (0 : Nat) bs) bs.length) : Int) + (1 : Int))))) (0 : Int) ≤ bndI none (↑(dtB (List.drop (0 : Nat) bs) bs.length) : Int) ∧ bndI none (↑(dtB (List.drop (0 : Nat) bs) bs.length) : Int) ≤ (↑(dtB (List.drop (0 : Nat) bs) bs.length) : Int)) (.fin (.bool (false)) [])))))))))))))))))))))) := by kernel_rfl
theorem TotalLength_res (bs ms : List Int) (hb : Bytes bs) (_ : bs.length ≤ maxLen) (_ : Bytes ms) (hm : ms.length ≤ maxLen) : Res Try.prog 10 [.row bs.length (.bytes bs), .row ms.length (.bytes ms)] (.bool true) := by
  refine bodyP_res mixed ELt_ok (m := 30) (n := 12) rfl ?_
  rw [tr_ltl]
  have rb : rdL bs.length ≤ bs.length ∧ rdL bs.length ≤ 2000 := by unfold rdL; omega
  have k3 := (drKey (n := bs.length) hb (Nat.le_refl _) rb.1 rb.2 (m := 7) (by omega)).2.2.2
  obtain ⟨⟨d1, d2⟩, _⟩ := dtX_ok (n := bs.length) hb (Nat.le_refl _)
  change dtA bs bs.length + dtB bs bs.length * 2 ≤ (dtC bs bs.length).length at d1
  change dtB bs bs.length ≤ 1000 at d2
  simp only [List.drop_zero, ptsA_flat, flat_length]
  generalize apsL bs (rdL bs.length) 0 7 = ps at *
  generalize dtA bs bs.length = o at *
  generalize dtB bs bs.length = m at *
  generalize dtC bs bs.length = ks at *
  have hl : m * 2 ≤ (List.drop o ks).length := by rw [List.length_drop]; omega
  have w : IntKind.i64.wrap ((m : Int) + 1) = (m : Int) + 1 := wr (by omega)
  have hm0 : ms.length % (m + 1) < m + 1 := Nat.mod_lt _ (by omega)
  have e : (ms.length : Int).tmod ((m : Int) + 1) = ((ms.length % (m + 1) : Nat) : Int) := by
    rw [Int.tmod_eq_emod_of_nonneg (by omega), show (m : Int) + 1 = ((m + 1 : Nat) : Int) by omega, ← Int.natCast_emod]
  have bs1 : ∀ x d : Int, bndI (some (IntKind.i64, x)) d = x := fun _ _ => rfl
  have bn1 : ∀ d : Int, bndI none d = d := fun _ => rfl
  simp only [w, e, bs1, bn1, Int.toNat_natCast, Nat.sub_zero, Nat.add_zero]
  generalize ms.length % (m + 1) = k at *
  have t1 := ptsA_take (k := k) (m := m) (xs := List.drop o ks) (by omega) hl
  have t2 := ptsA_drop (k := k) (m := m) (xs := List.drop o ks) (by omega) hl
  rw [List.drop_drop] at t2
  rw [t1, t2]
  have l1 : k * 2 ≤ (List.drop o ks).length := by omega
  have l2 : (m - k) * 2 ≤ (List.drop (o + k * 2) ks).length := by rw [List.length_drop]; omega
  generalize ptsA m (List.drop o ks) = es at *
  refine brT_ok.2 ⟨fun _ => rfl, fun _ => brT_ok.2 ⟨fun _ => rfl, fun _ => ?_⟩⟩
  rcases (show tlV ps es < 0 ∨ 0 ≤ tlV ps es by omega) with g | g
  · rw [decide_eq_true g]
    simp only [beq_self_eq_true, Bool.not_true, brT_t, brT_f]
    repeat' (first | exact True.intro | assumption | omega | exact rfl | refine And.intro ?_ ?_)
  · obtain ⟨a1, a2, a3, a4, a5⟩ := tlV_cut (ps := ps) (es := es) k g
    have dg : decide (tlV ps es < 0) = false := decide_eq_false (by omega)
    have wq : IntKind.i64.wrap (tlV ps (List.take k es) + tlV ps (List.drop k es)) = tlV ps es := by rw [wr (by omega), a1]
    rw [dg]
    simp only [beq_self_eq_true, Bool.not_true, brT_t, brT_f, wq, a2]
    repeat' (first | exact True.intro | assumption | omega | exact rfl | refine And.intro ?_ ?_)
end Go.Proofs.Ytolodncpegajkaa
