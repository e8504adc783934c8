/-
  Texts that the proof needs, merged. Written by an AI agent.
-/
import Derived.Orders
import Derived.Below
import Derived.OrdersIn
import Derived.Deep.LoopGhost
import Derived.WalkKit
import Derived.Laws.CopyRow
import Derived.Laws.AppendOwn
import Derived.Laws.Slices
import Derived.Laws.MakeOwn
import Derived.Test.YtolodncpegajkaaRows
import Derived.ProofKit
import Derived.OpenShut
import Derived.Carry
import Derived.IntWalk
import Derived.Test.YtolodncpegajkaaProg
import Derived.WalkSpells
import Derived.WalkLawsBesides
import Derived.Lib.Hide
import Derived.Deep.QuietTactic
import Derived.BigQuiet
import Derived.KernelRfl
import Derived.Deep.RegionHeld3
import Derived.LoopTactic
import Derived.Laws.StructEq
import Derived.Laws.Tables
import Derived.RangeFuncNested
import Derived.RangeFuncLeaves
import Derived.Deep.Slices
import Derived.Deep.Fields
import Derived.ChangeSame
import Derived.Deep.DeepCutAuto
import Derived.Sort.Grow
import Derived.Shelf.SlSortCmp.NoneTotal
import Derived.Shelf.SlSortCmp.WholeK
import Derived.Test.YtolodncpegajkaaZCrossingPoints8
namespace Go.Proofs.Ytolodncpegajkaa
set_option linter.all false
open Go.RowKit
def ltLn : LT := fun j s k => match j with
  | 3 => e_lcN s k
  | _ => none
noncomputable def c_lcK : Code := ((loopsOf (codeOf Try.f8))[2]?).getD .skip
def k_lcK : Ex → List Nat := keeps [3, 4, 5, 7, 8] [(4, [3, 4, 5, 7]), (3, [3, 4, 5, 7]), (2, [4, 5])] [2]
def s_lcK (bs xs ys fs zs : List Int) (n m i : Nat) : Nat → St := fun j => ⟨(topV :: topV :: topV :: .slice (some ⟨1, 0, none⟩) n n :: .slice (some ⟨2, 0, none⟩) m m :: .slice (some ⟨5, 0, none⟩) n n :: topV :: .int .i64 i :: .int .i64 (i + 1 + j : Nat) :: topV :: topV :: topV :: topV :: topV :: topV :: topV :: topV :: topV :: topV :: topV :: topV :: topV :: topV :: topV :: topV :: topV :: topV :: topV :: topV :: topV :: topV :: topV :: topV :: topV :: topV :: topV :: topV :: topV :: topV :: topV :: topV :: topV :: topV :: topV :: topV :: topV :: topV :: topV :: topV :: topV :: topV :: topV :: topV :: topV :: topV :: topV :: topV :: topV :: topV :: topV :: topV :: topV :: topV :: topV :: topV :: topV :: topV :: topV :: topV :: topV :: topV :: topV :: topV :: topV :: topV :: topV :: topV :: topV :: topV :: topV :: topV :: topV :: topV :: topV :: topV :: topV :: topV :: topV :: topV :: topV :: topV :: topV :: topV :: topV :: topV :: topV :: topV :: topV :: topV :: topV :: topV :: topV :: topV :: topV :: topV :: topV :: []), [some ⟨.view, .bytes bs⟩, some ⟨.row 39 4, .ints xs⟩, some ⟨.row 52 4, .ints ys⟩, some ⟨.row 52 4, .ints fs⟩, some ⟨.dead, .vals []⟩, some ⟨.row 39 4, .ints zs⟩]⟩
def re_lcK : Nat → Ex := fun _ => .exit 4
def rs_lcK (bs xs ys fs zs : List Int) (n m i : Nat) : Nat → St := fun j => ⟨(topV :: topV :: topV :: .slice (some ⟨1, 0, none⟩) n n :: .slice (some ⟨2, 0, none⟩) m m :: .slice (some ⟨5, 0, none⟩) n n :: topV :: .int .i64 i :: topV :: topV :: topV :: topV :: topV :: topV :: topV :: topV :: topV :: topV :: topV :: topV :: topV :: topV :: topV :: topV :: topV :: topV :: topV :: topV :: topV :: topV :: topV :: topV :: topV :: topV :: topV :: topV :: topV :: topV :: topV :: topV :: topV :: topV :: topV :: topV :: topV :: topV :: topV :: topV :: topV :: topV :: topV :: topV :: topV :: topV :: topV :: topV :: topV :: topV :: topV :: topV :: topV :: topV :: topV :: topV :: topV :: topV :: topV :: topV :: topV :: topV :: topV :: topV :: topV :: topV :: topV :: topV :: topV :: topV :: topV :: topV :: topV :: topV :: topV :: topV :: topV :: topV :: topV :: topV :: topV :: topV :: topV :: topV :: topV :: topV :: topV :: topV :: topV :: topV :: topV :: topV :: topV :: topV :: topV :: topV :: topV :: topV :: []), [some ⟨.view, .bytes bs⟩, some ⟨.row 39 4, .ints xs⟩, some ⟨.row 52 4, .ints ys⟩, some ⟨.row 52 4, .ints fs⟩, some ⟨.dead, .vals []⟩, some ⟨.row 39 4, .ints zs⟩]⟩
set_option maxRecDepth 100000 in
theorem tr_lcK (bs xs ys fs zs : List Int) (n m i : Nat) (j : Nat) : bodyL Try.prog ELc 30 12 ltLn 3 c_lcK k_lcK 6 (s_lcK bs xs ys fs zs n m i j) = brT (decide ((↑(i + 1 + j) : Int) < (↑n : Int))) (.need ((0 : Int) ≤ (↑i : Int) ∧ (↑i : Int) < (↑n : Int)) (.need ((0 : Nat) + (↑i : Int).toNat * (4 : Nat) + (4 : Nat) ≤ xs.length) (.need ((0 : Int) ≤ (↑(i + (1 : Nat) + j) : Int) ∧ (↑(i + (1 : Nat) + j) : Int) < (↑n : Int)) (.need ((0 : Nat) + (↑(i + (1 : Nat) + j) : Int).toNat * (4 : Nat) + (4 : Nat) ≤ xs.length) (brT (!relV (xs.getD (0 + (↑i : Int).toNat * 4) 0) (xs.getD (0 + (↑i : Int).toNat * 4 + 1) 0) (xs.getD (0 + (↑i : Int).toNat * 4 + 1 + 1) 0) (xs.getD (0 + (↑i : Int).toNat * 4 + 1 + 1 + 1) 0) (xs.getD (0 + (↑(i + 1 + j) : Int).toNat * 4) 0) (xs.getD (0 + (↑(i + 1 + j) : Int).toNat * 4 + 1) 0) (xs.getD (0 + (↑(i + 1 + j) : Int).toNat * 4 + 1 + 1) 0) (xs.getD (0 + (↑(i + 1 + j) : Int).toNat * 4 + 1 + 1 + 1) 0) == 2) (.leaf .normal ⟨(topV :: topV :: topV :: .slice (some ⟨1, 0, none⟩) (n) (n) :: .slice (some ⟨2, 0, none⟩) (m) (m) :: .slice (some ⟨5, 0, none⟩) (n) (n) :: topV :: .int .i64 ((↑i : Int)) :: .int .i64 (IntKind.i64.wrap ((↑(i + 1 + j) : Int) + 1)) :: topV :: topV :: topV :: topV :: topV :: topV :: topV :: topV :: topV :: topV :: topV :: topV :: topV :: topV :: topV :: topV :: topV :: topV :: topV :: topV :: topV :: topV :: topV :: topV :: topV :: topV :: topV :: topV :: topV :: topV :: topV :: topV :: topV :: topV :: topV :: topV :: topV :: topV :: topV :: topV :: topV :: topV :: topV :: topV :: topV :: topV :: topV :: topV :: topV :: topV :: topV :: topV :: topV :: topV :: topV :: topV :: topV :: topV :: topV :: topV :: topV :: topV :: topV :: topV :: topV :: topV :: topV :: topV :: topV :: topV :: topV :: topV :: topV :: topV :: topV :: topV :: topV :: topV :: topV :: topV :: topV :: topV :: topV :: topV :: topV :: topV :: topV :: topV :: topV :: topV :: topV :: topV :: topV :: topV :: topV :: topV :: topV :: []), [some ⟨.view, .bytes (bs)⟩, some ⟨.row 39 4, .ints (xs)⟩, some ⟨.row 52 4, .ints (ys)⟩, some ⟨.row 52 4, .ints (fs)⟩, some deadB, some ⟨.row 39 4, .ints (zs)⟩]⟩) (.need (relV (xs.getD ((0 : Nat) + (↑i : Int).toNat * (4 : Nat)) (0 : Int)) (xs.getD ((0 : Nat) + (↑i : Int).toNat * (4 : Nat) + (1 : Nat)) (0 : Int)) (xs.getD ((0 : Nat) + (↑i : Int).toNat * (4 : Nat) + (1 : Nat) + (1 : Nat)) (0 : Int)) (xs.getD ((0 : Nat) + (↑i : Int).toNat * (4 : Nat) + (1 : Nat) + (1 : Nat) + (1 : Nat)) (0 : Int)) (xs.getD ((0 : Nat) + (↑(i + (1 : Nat) + j) : Int).toNat * (4 : Nat)) (0 : Int)) (xs.getD ((0 : Nat) + (↑(i + (1 : Nat) + j) : Int).toNat * (4 : Nat) + (1 : Nat)) (0 : Int)) (xs.getD ((0 : Nat) + (↑(i + (1 : Nat) + j) : Int).toNat * (4 : Nat) + (1 : Nat) + (1 : Nat)) (0 : Int)) (xs.getD ((0 : Nat) + (↑(i + (1 : Nat) + j) : Int).toNat * (4 : Nat) + (1 : Nat) + (1 : Nat) + (1 : Nat)) (0 : Int)) = (2 : Int)) (.need ((0 : Int) ≤ (↑i : Int) ∧ (↑i : Int) < (↑n : Int)) (.need ((0 : Nat) + (↑i : Int).toNat * (4 : Nat) + (4 : Nat) ≤ xs.length) (.need ((0 : Int) ≤ (↑(i + (1 : Nat) + j) : Int) ∧ (↑(i + (1 : Nat) + j) : Int) < (↑n : Int)) (.need ((0 : Nat) + (↑(i + (1 : Nat) + j) : Int).toNat * (4 : Nat) + (4 : Nat) ≤ xs.length) (.need ((0 : Int) = (0 : Int)) (.need (false = false) (.need (n = n) (.need (ys.length = m * (4 : Nat)) (.need (m ≤ (1000 : Nat)) (.need (hasZ (xp1 (xs.getD ((0 : Nat) + (↑i : Int).toNat * (4 : Nat)) (0 : Int)) (xs.getD ((0 : Nat) + (↑i : Int).toNat * (4 : Nat) + (1 : Nat)) (0 : Int)) (xs.getD ((0 : Nat) + (↑i : Int).toNat * (4 : Nat) + (1 : Nat) + (1 : Nat)) (0 : Int)) (xs.getD ((0 : Nat) + (↑i : Int).toNat * (4 : Nat) + (1 : Nat) + (1 : Nat) + (1 : Nat)) (0 : Int)) (xs.getD ((0 : Nat) + (↑(i + (1 : Nat) + j) : Int).toNat * (4 : Nat)) (0 : Int)) (xs.getD ((0 : Nat) + (↑(i + (1 : Nat) + j) : Int).toNat * (4 : Nat) + (1 : Nat)) (0 : Int)) (xs.getD ((0 : Nat) + (↑(i + (1 : Nat) + j) : Int).toNat * (4 : Nat) + (1 : Nat) + (1 : Nat)) (0 : Int)) (xs.getD ((0 : Nat) + (↑(i + (1 : Nat) + j) : Int).toNat * (4 : Nat) + (1 : Nat) + (1 : Nat) + (1 : Nat)) (0 : Int))) (xp2 (xs.getD ((0 : Nat) + (↑i : Int).toNat * (4 : Nat)) (0 : Int)) (xs.getD ((0 : Nat) + (↑i : Int).toNat * (4 : Nat) + (1 : Nat)) (0 : Int)) (xs.getD ((0 : Nat) + (↑i : Int).toNat * (4 : Nat) + (1 : Nat) + (1 : Nat)) (0 : Int)) (xs.getD ((0 : Nat) + (↑i : Int).toNat * (4 : Nat) + (1 : Nat) + (1 : Nat) + (1 : Nat)) (0 : Int)) (xs.getD ((0 : Nat) + (↑(i + (1 : Nat) + j) : Int).toNat * (4 : Nat)) (0 : Int)) (xs.getD ((0 : Nat) + (↑(i + (1 : Nat) + j) : Int).toNat * (4 : Nat) + (1 : Nat)) (0 : Int)) (xs.getD ((0 : Nat) + (↑(i + (1 : Nat) + j) : Int).toNat * (4 : Nat) + (1 : Nat) + (1 : Nat)) (0 : Int)) (xs.getD ((0 : Nat) + (↑(i + (1 : Nat) + j) : Int).toNat * (4 : Nat) + (1 : Nat) + (1 : Nat) + (1 : Nat)) (0 : Int))) (xp3 (xs.getD ((0 : Nat) + (↑i : Int).toNat * (4 : Nat)) (0 : Int)) (xs.getD ((0 : Nat) + (↑i : Int).toNat * (4 : Nat) + (1 : Nat)) (0 : Int)) (xs.getD ((0 : Nat) + (↑i : Int).toNat * (4 : Nat) + (1 : Nat) + (1 : Nat)) (0 : Int)) (xs.getD ((0 : Nat) + (↑i : Int).toNat * (4 : Nat) + (1 : Nat) + (1 : Nat) + (1 : Nat)) (0 : Int)) (xs.getD ((0 : Nat) + (↑(i + (1 : Nat) + j) : Int).toNat * (4 : Nat)) (0 : Int)) (xs.getD ((0 : Nat) + (↑(i + (1 : Nat) + j) : Int).toNat * (4 : Nat) + (1 : Nat)) (0 : Int)) (xs.getD ((0 : Nat) + (↑(i + (1 : Nat) + j) : Int).toNat * (4 : Nat) + (1 : Nat) + (1 : Nat)) (0 : Int)) (xs.getD ((0 : Nat) + (↑(i + (1 : Nat) + j) : Int).toNat * (4 : Nat) + (1 : Nat) + (1 : Nat) + (1 : Nat)) (0 : Int))) (xp4 (xs.getD ((0 : Nat) + (↑i : Int).toNat * (4 : Nat)) (0 : Int)) (xs.getD ((0 : Nat) + (↑i : Int).toNat * (4 : Nat) + (1 : Nat)) (0 : Int)) (xs.getD ((0 : Nat) + (↑i : Int).toNat * (4 : Nat) + (1 : Nat) + (1 : Nat)) (0 : Int)) (xs.getD ((0 : Nat) + (↑i : Int).toNat * (4 : Nat) + (1 : Nat) + (1 : Nat) + (1 : Nat)) (0 : Int)) (xs.getD ((0 : Nat) + (↑(i + (1 : Nat) + j) : Int).toNat * (4 : Nat)) (0 : Int)) (xs.getD ((0 : Nat) + (↑(i + (1 : Nat) + j) : Int).toNat * (4 : Nat) + (1 : Nat)) (0 : Int)) (xs.getD ((0 : Nat) + (↑(i + (1 : Nat) + j) : Int).toNat * (4 : Nat) + (1 : Nat) + (1 : Nat)) (0 : Int)) (xs.getD ((0 : Nat) + (↑(i + (1 : Nat) + j) : Int).toNat * (4 : Nat) + (1 : Nat) + (1 : Nat) + (1 : Nat)) (0 : Int))) m ys = true) (.leaf .normal ⟨(topV :: topV :: topV :: .slice (some ⟨1, 0, none⟩) (n) (n) :: .slice (some ⟨2, 0, none⟩) (m) (m) :: .slice (some ⟨5, 0, none⟩) (n) (n) :: topV :: .int .i64 ((↑i : Int)) :: .int .i64 (IntKind.i64.wrap ((↑(i + 1 + j) : Int) + 1)) :: topV :: topV :: topV :: topV :: topV :: topV :: topV :: topV :: topV :: topV :: topV :: topV :: topV :: topV :: topV :: topV :: topV :: topV :: topV :: topV :: topV :: topV :: topV :: topV :: topV :: topV :: topV :: topV :: topV :: topV :: topV :: topV :: topV :: topV :: topV :: topV :: topV :: topV :: topV :: topV :: topV :: topV :: topV :: topV :: topV :: topV :: topV :: topV :: topV :: topV :: topV :: topV :: topV :: topV :: topV :: topV :: topV :: topV :: topV :: topV :: topV :: topV :: topV :: topV :: topV :: topV :: topV :: topV :: topV :: topV :: topV :: topV :: topV :: topV :: topV :: topV :: topV :: topV :: topV :: topV :: topV :: topV :: topV :: topV :: topV :: topV :: topV :: topV :: topV :: topV :: topV :: topV :: topV :: topV :: topV :: topV :: topV :: []), [some ⟨.view, .bytes (bs)⟩, some ⟨.row 39 4, .ints (xs)⟩, some ⟨.row 52 4, .ints (ys)⟩, some ⟨.row 52 4, .ints (fs)⟩, some deadB, some ⟨.row 39 4, .ints (zs)⟩]⟩))))))))))))))))) (.leaf (.exit 4) ⟨(topV :: topV :: topV :: .slice (some ⟨1, 0, none⟩) (n) (n) :: .slice (some ⟨2, 0, none⟩) (m) (m) :: .slice (some ⟨5, 0, none⟩) (n) (n) :: topV :: .int .i64 ((↑i : Int)) :: topV :: topV :: topV :: topV :: topV :: topV :: topV :: topV :: topV :: topV :: topV :: topV :: topV :: topV :: topV :: topV :: topV :: topV :: topV :: topV :: topV :: topV :: topV :: topV :: topV :: topV :: topV :: topV :: topV :: topV :: topV :: topV :: topV :: topV :: topV :: topV :: topV :: topV :: topV :: topV :: topV :: topV :: topV :: topV :: topV :: topV :: topV :: topV :: topV :: topV :: topV :: topV :: topV :: topV :: topV :: topV :: topV :: topV :: topV :: topV :: topV :: topV :: topV :: topV :: topV :: topV :: topV :: topV :: topV :: topV :: topV :: topV :: topV :: topV :: topV :: topV :: topV :: topV :: topV :: topV :: topV :: topV :: topV :: topV :: topV :: topV :: topV :: topV :: topV :: topV :: topV :: topV :: topV :: topV :: topV :: topV :: topV :: topV :: []), [some ⟨.view, .bytes (bs)⟩, some ⟨.row 39 4, .ints (xs)⟩, some ⟨.row 52 4, .ints (ys)⟩, some ⟨.row 52 4, .ints (fs)⟩, some deadB, some ⟨.row 39 4, .ints (zs)⟩]⟩) := by kernel_rfl
def inv_lcK (bs xs ys fs zs : List Int) (n m i : Nat) : Nat → Prop := fun j => i + 1 + j ≤ n
def me_lcK (bs xs ys fs zs : List Int) (n m i : Nat) : Nat → Nat := fun j => n - (i + 1 + j)
/-- A round of this loop. -/
def Round_lcK (bs xs ys fs zs : List Int) (n m i : Nat) : Prop := ∀ xx : Nat, inv_lcK bs xs ys fs zs n m i xx → (bodyL Try.prog ELc 30 12 ltLn 3 c_lcK k_lcK 6 (s_lcK bs xs ys fs zs n m i xx)).ok (RoundEnd 6 (s_lcK bs xs ys fs zs n m i) (inv_lcK bs xs ys fs zs n m i) (me_lcK bs xs ys fs zs n m i) re_lcK (rs_lcK bs xs ys fs zs n m i) xx) (fun _ _ => False)
def e_lcK (s : St) (k : Ex → St → Tree) : Option Tree := match Nat.beq s.tmps.length 106, pickL s.tmps [3, 4, 5, 7, 8], s.mem with
  | true, [.slice (some ⟨1, 0, none⟩) n _, .slice (some ⟨2, 0, none⟩) m _, .slice (some ⟨5, 0, none⟩) n3 _, .int .i64 ii, .int .i64 kk], [some ⟨.view, .bytes bs⟩, some ⟨.row 39 4, .ints xs⟩, some ⟨.row 52 4, .ints ys⟩, some ⟨.row 52 4, .ints fs⟩, some ⟨.dead, .vals []⟩, some ⟨.row 39 4, .ints zs⟩] => some (needs [0 ≤ ii, kk = ii + 1, n3 = n, xs.length = n * 4, n ≤ 12, ii < n, ys.length = m * 4, m ≤ 1000, okZ n xs m ys] (k (.exit 4) ⟨(topV :: topV :: topV :: .slice (some ⟨1, 0, none⟩) n n :: .slice (some ⟨2, 0, none⟩) m m :: .slice (some ⟨5, 0, none⟩) n n :: topV :: .int .i64 ii :: topV :: topV :: topV :: topV :: topV :: topV :: topV :: topV :: topV :: topV :: topV :: topV :: topV :: topV :: topV :: topV :: topV :: topV :: topV :: topV :: topV :: topV :: topV :: topV :: topV :: topV :: topV :: topV :: topV :: topV :: topV :: topV :: topV :: topV :: topV :: topV :: topV :: topV :: topV :: topV :: topV :: topV :: topV :: topV :: topV :: topV :: topV :: topV :: topV :: topV :: topV :: topV :: topV :: topV :: topV :: topV :: topV :: topV :: topV :: topV :: topV :: topV :: topV :: topV :: topV :: topV :: topV :: topV :: topV :: topV :: topV :: topV :: topV :: topV :: topV :: topV :: topV :: topV :: topV :: topV :: topV :: topV :: topV :: topV :: topV :: topV :: topV :: topV :: topV :: topV :: topV :: topV :: topV :: topV :: topV :: topV :: topV :: topV :: []), [some ⟨.view, .bytes bs⟩, some ⟨.row 39 4, .ints xs⟩, some ⟨.row 52 4, .ints ys⟩, some ⟨.row 52 4, .ints fs⟩, some ⟨.dead, .vals []⟩, some ⟨.row 39 4, .ints zs⟩]⟩))
  | _, _, _ => none
set_option maxRecDepth 100000 in
theorem in_lcK : loopsOf c_lcK = [c_lcN] := by kernel_rfl
theorem ltLn_good : LoopsGood Try.prog ltLn 3 c_lcK := by
  intro i d hd s k t F H hlt ht
  rw [in_lcK] at hd
  cases i with
  | zero =>
    obtain rfl : c_lcN = d := by simpa using hd
    exact lg_lcN s k t F H hlt ht
  | succ i => simp at hd
set_option maxRecDepth 100000 in
set_option maxHeartbeats 2000000 in
theorem round_lcK (bs xs ys fs zs : List Int) (n m i : Nat) (hx : xs.length = n * 4) (h : n ≤ 12) (hi : i < n) (hy : ys.length = m * 4) (hm : m ≤ 1000) (hz : okZ n xs m ys) : Round_lcK bs xs ys fs zs n m i := by
  intro j h1
  have h1 : i + 1 + j ≤ n := h1
  rw [tr_lcK]
  simp only [Int.toNat_natCast, Nat.zero_add]
  refine brT_ok.2 ⟨fun hlt => ?_, fun hge => ?_⟩
  · have hlt : i + 1 + j < n := by have := of_decide_eq_true hlt; omega
    rw [wsucc (n := n) hlt (by omega)]
    refine ⟨⟨by omega, by omega⟩, by omega, ⟨by omega, by omega⟩, by omega, brT_ok.2 ⟨fun c => ?_, fun c => ?_⟩⟩
    · refine ⟨j + 1, [], ?_, ?_, rfl, rfl, ?_⟩
      · show i + 1 + (j + 1) ≤ n; omega
      · show n - (i + 1 + (j + 1)) < n - (i + 1 + j); omega
      · unfold s_lcK
        repeat' (first | exact True.intro | exact rfl | exact fun _ => rfl | (simp; done) | refine And.intro ?_ ?_)
    · have c : relV (xs.getD (i * 4) 0) (xs.getD (i * 4 + 1) 0) (xs.getD (i * 4 + 2) 0) (xs.getD (i * 4 + 3) 0) (xs.getD ((i + 1 + j) * 4) 0) (xs.getD ((i + 1 + j) * 4 + 1) 0) (xs.getD ((i + 1 + j) * 4 + 2) 0) (xs.getD ((i + 1 + j) * 4 + 3) 0) = 2 := by simpa using c
      refine ⟨c, ⟨by omega, by omega⟩, by omega, ⟨by omega, by omega⟩, by omega, trivial, trivial, trivial, hy, hm, decide_eq_true (hz i (i + 1 + j) (by omega) hlt c), j + 1, [], ?_, ?_, rfl, rfl, ?_⟩
      · show i + 1 + (j + 1) ≤ n; omega
      · show n - (i + 1 + (j + 1)) < n - (i + 1 + j); omega
      · unfold s_lcK
        repeat' (first | exact True.intro | exact rfl | exact fun _ => rfl | (simp; done) | refine And.intro ?_ ?_)
  · have hge := of_decide_eq_false hge
    refine ⟨rfl, [], ?_⟩
    unfold rs_lcK
    repeat' (first | exact True.intro | exact rfl | exact fun _ => rfl | (simp; done) | refine And.intro ?_ ?_)
set_option maxRecDepth 100000 in
theorem lg_lcK : LoopE Try.prog e_lcK c_lcK := by
  intro s k t F H hlt ht
  unfold e_lcK at hlt
  split at hlt
  rotate_left
  · cases hlt
  rename_i hlen hpick hmem
  obtain ⟨tmps, mem⟩ := s
  simp only at hlen hpick hmem
  subst hmem
  obtain rfl := Option.some.inj hlt
  obtain ⟨⟨h0, h1, rfl, h2, h3, h4, h5, h6, h7, _⟩, ht2⟩ := needs_ok ht
  clear ht hlt
  obtain ⟨i, rfl⟩ := Int.eq_ofNat_of_zero_le h0
  obtain rfl := h1
  refine ⟨_, _, ht2, loop_run mixed ELc_ok (s_lcK _ _ _ _ _ _ _ i) (inv_lcK _ _ _ _ _ _ _ i) (me_lcK _ _ _ _ _ _ _ i) re_lcK (rs_lcK _ _ _ _ _ _ _ i) k_lcK (fun _ => rfl) ltLn_good (round_lcK _ _ _ _ _ _ _ i h2 h3 (by omega) h5 h6 h7) (x := 0) (by show i + 1 + 0 ≤ _; omega) (π := []) rfl ?_⟩
  refine ⟨rfl, rfl, ?_, wvs_spread' [3, 4, 5, 7, 8] hlen rfl ?_⟩
  · repeat' (first | exact True.intro | exact rfl | exact wv_top _ _ | exact fun _ => rfl | assumption | exact Eq.symm (by assumption) | exact vI0 rfl | refine And.intro ?_ ?_)
  · rw [hpick]
    repeat' (first | exact True.intro | exact rfl | exact wv_top _ _ | exact fun _ => rfl | assumption | exact Eq.symm (by assumption) | exact vI0 rfl | refine And.intro ?_ ?_)
def ltLk : LT := fun j s k => match j with
  | 2 => e_lcK s k
  | 3 => e_lcN s k
  | _ => none
noncomputable def c_lcI : Code := ((loopsOf (codeOf Try.f8))[1]?).getD .skip
def k_lcI : Ex → List Nat := keeps [3, 4, 5, 7] [(2, [4, 5])] [2]
def s_lcI (bs xs ys fs zs : List Int) (n m : Nat) : Nat → St := fun i => ⟨(topV :: topV :: topV :: .slice (some ⟨1, 0, none⟩) n n :: .slice (some ⟨2, 0, none⟩) m m :: .slice (some ⟨5, 0, none⟩) n n :: topV :: .int .i64 i :: topV :: topV :: topV :: topV :: topV :: topV :: topV :: topV :: topV :: topV :: topV :: topV :: topV :: topV :: topV :: topV :: topV :: topV :: topV :: topV :: topV :: topV :: topV :: topV :: topV :: topV :: topV :: topV :: topV :: topV :: topV :: topV :: topV :: topV :: topV :: topV :: topV :: topV :: topV :: topV :: topV :: topV :: topV :: topV :: topV :: topV :: topV :: topV :: topV :: topV :: topV :: topV :: topV :: topV :: topV :: topV :: topV :: topV :: topV :: topV :: topV :: topV :: topV :: topV :: topV :: topV :: topV :: topV :: topV :: topV :: topV :: topV :: topV :: topV :: topV :: topV :: topV :: topV :: topV :: topV :: topV :: topV :: topV :: topV :: topV :: topV :: topV :: topV :: topV :: topV :: topV :: topV :: topV :: topV :: topV :: topV :: topV :: topV :: []), [some ⟨.view, .bytes bs⟩, some ⟨.row 39 4, .ints xs⟩, some ⟨.row 52 4, .ints ys⟩, some ⟨.row 52 4, .ints fs⟩, some ⟨.dead, .vals []⟩, some ⟨.row 39 4, .ints zs⟩]⟩
def re_lcI : Nat → Ex := fun _ => .exit 2
def rs_lcI (bs xs ys fs zs : List Int) (n m : Nat) : Nat → St := fun i => ⟨(topV :: topV :: topV :: topV :: .slice (some ⟨2, 0, none⟩) m m :: .slice (some ⟨5, 0, none⟩) n n :: topV :: topV :: topV :: topV :: topV :: topV :: topV :: topV :: topV :: topV :: topV :: topV :: topV :: topV :: topV :: topV :: topV :: topV :: topV :: topV :: topV :: topV :: topV :: topV :: topV :: topV :: topV :: topV :: topV :: topV :: topV :: topV :: topV :: topV :: topV :: topV :: topV :: topV :: topV :: topV :: topV :: topV :: topV :: topV :: topV :: topV :: topV :: topV :: topV :: topV :: topV :: topV :: topV :: topV :: topV :: topV :: topV :: topV :: topV :: topV :: topV :: topV :: topV :: topV :: topV :: topV :: topV :: topV :: topV :: topV :: topV :: topV :: topV :: topV :: topV :: topV :: topV :: topV :: topV :: topV :: topV :: topV :: topV :: topV :: topV :: topV :: topV :: topV :: topV :: topV :: topV :: topV :: topV :: topV :: topV :: topV :: topV :: topV :: topV :: topV :: []), [some ⟨.view, .bytes bs⟩, some ⟨.row 39 4, .ints xs⟩, some ⟨.row 52 4, .ints ys⟩, some ⟨.row 52 4, .ints fs⟩, some ⟨.dead, .vals []⟩, some ⟨.row 39 4, .ints zs⟩]⟩
set_option maxRecDepth 100000 in
theorem tr_lcI (bs xs ys fs zs : List Int) (n m : Nat) (i : Nat) : bodyL Try.prog ELc 30 12 ltLk 2 c_lcI k_lcI 6 (s_lcI bs xs ys fs zs n m i) = brT (decide ((↑i : Int) < (↑n : Int))) (.need ((0 : Int) ≤ (↑i : Int)) (.need (IntKind.i64.wrap ((↑i : Int) + (1 : Int)) = (↑i : Int) + (1 : Int)) (.need (n = n) (.need (xs.length = n * (4 : Nat)) (.need (n ≤ (12 : Nat)) (.need ((↑i : Int) < (↑n : Int)) (.need (ys.length = m * (4 : Nat)) (.need (m ≤ (1000 : Nat)) (.need (okZ n xs m ys) (.leaf .normal ⟨(topV :: topV :: topV :: .slice (some ⟨1, 0, none⟩) (n) (n) :: .slice (some ⟨2, 0, none⟩) (m) (m) :: .slice (some ⟨5, 0, none⟩) (n) (n) :: topV :: .int .i64 (IntKind.i64.wrap ((↑i : Int) + 1)) :: topV :: topV :: topV :: topV :: topV :: topV :: topV :: topV :: topV :: topV :: topV :: topV :: topV :: topV :: topV :: topV :: topV :: topV :: topV :: topV :: topV :: topV :: topV :: topV :: topV :: topV :: topV :: topV :: topV :: topV :: topV :: topV :: topV :: topV :: topV :: topV :: topV :: topV :: topV :: topV :: topV :: topV :: topV :: topV :: topV :: topV :: topV :: topV :: topV :: topV :: topV :: topV :: topV :: topV :: topV :: topV :: topV :: topV :: topV :: topV :: topV :: topV :: topV :: topV :: topV :: topV :: topV :: topV :: topV :: topV :: topV :: topV :: topV :: topV :: topV :: topV :: topV :: topV :: topV :: topV :: topV :: topV :: topV :: topV :: topV :: topV :: topV :: topV :: topV :: topV :: topV :: topV :: topV :: topV :: topV :: topV :: topV :: topV :: []), [some ⟨.view, .bytes (bs)⟩, some ⟨.row 39 4, .ints (xs)⟩, some ⟨.row 52 4, .ints (ys)⟩, some ⟨.row 52 4, .ints (fs)⟩, some deadB, some ⟨.row 39 4, .ints (zs)⟩]⟩)))))))))) (.leaf (.exit 2) ⟨(topV :: topV :: topV :: topV :: .slice (some ⟨2, 0, none⟩) (m) (m) :: .slice (some ⟨5, 0, none⟩) (n) (n) :: topV :: topV :: topV :: topV :: topV :: topV :: topV :: topV :: topV :: topV :: topV :: topV :: topV :: topV :: topV :: topV :: topV :: topV :: topV :: topV :: topV :: topV :: topV :: topV :: topV :: topV :: topV :: topV :: topV :: topV :: topV :: topV :: topV :: topV :: topV :: topV :: topV :: topV :: topV :: topV :: topV :: topV :: topV :: topV :: topV :: topV :: topV :: topV :: topV :: topV :: topV :: topV :: topV :: topV :: topV :: topV :: topV :: topV :: topV :: topV :: topV :: topV :: topV :: topV :: topV :: topV :: topV :: topV :: topV :: topV :: topV :: topV :: topV :: topV :: topV :: topV :: topV :: topV :: topV :: topV :: topV :: topV :: topV :: topV :: topV :: topV :: topV :: topV :: topV :: topV :: topV :: topV :: topV :: topV :: topV :: topV :: topV :: topV :: topV :: topV :: []), [some ⟨.view, .bytes (bs)⟩, some ⟨.row 39 4, .ints (xs)⟩, some ⟨.row 52 4, .ints (ys)⟩, some ⟨.row 52 4, .ints (fs)⟩, some deadB, some ⟨.row 39 4, .ints (zs)⟩]⟩) := by kernel_rfl
def inv_lcI (bs xs ys fs zs : List Int) (n m : Nat) : Nat → Prop := fun i => i ≤ n
def me_lcI (bs xs ys fs zs : List Int) (n m : Nat) : Nat → Nat := fun i => n - i
/-- A round of this loop. -/
def Round_lcI (bs xs ys fs zs : List Int) (n m : Nat) : Prop := ∀ xx : Nat, inv_lcI bs xs ys fs zs n m xx → (bodyL Try.prog ELc 30 12 ltLk 2 c_lcI k_lcI 6 (s_lcI bs xs ys fs zs n m xx)).ok (RoundEnd 6 (s_lcI bs xs ys fs zs n m) (inv_lcI bs xs ys fs zs n m) (me_lcI bs xs ys fs zs n m) re_lcI (rs_lcI bs xs ys fs zs n m) xx) (fun _ _ => False)
def e_lcI (s : St) (k : Ex → St → Tree) : Option Tree := match Nat.beq s.tmps.length 106, pickL s.tmps [3, 4, 5, 7], s.mem with
  | true, [.slice (some ⟨1, 0, none⟩) n _, .slice (some ⟨2, 0, none⟩) m _, .slice (some ⟨5, 0, none⟩) n3 _, .int .i64 i0], [some ⟨.view, .bytes bs⟩, some ⟨.row 39 4, .ints xs⟩, some ⟨.row 52 4, .ints ys⟩, some ⟨.row 52 4, .ints fs⟩, some ⟨.dead, .vals []⟩, some ⟨.row 39 4, .ints zs⟩] => some (needs [i0 = 0, n3 = n, xs.length = n * 4, n ≤ 12, ys.length = m * 4, m ≤ 1000, okZ n xs m ys] (k (.exit 2) ⟨(topV :: topV :: topV :: topV :: .slice (some ⟨2, 0, none⟩) m m :: .slice (some ⟨5, 0, none⟩) n n :: topV :: topV :: topV :: topV :: topV :: topV :: topV :: topV :: topV :: topV :: topV :: topV :: topV :: topV :: topV :: topV :: topV :: topV :: topV :: topV :: topV :: topV :: topV :: topV :: topV :: topV :: topV :: topV :: topV :: topV :: topV :: topV :: topV :: topV :: topV :: topV :: topV :: topV :: topV :: topV :: topV :: topV :: topV :: topV :: topV :: topV :: topV :: topV :: topV :: topV :: topV :: topV :: topV :: topV :: topV :: topV :: topV :: topV :: topV :: topV :: topV :: topV :: topV :: topV :: topV :: topV :: topV :: topV :: topV :: topV :: topV :: topV :: topV :: topV :: topV :: topV :: topV :: topV :: topV :: topV :: topV :: topV :: topV :: topV :: topV :: topV :: topV :: topV :: topV :: topV :: topV :: topV :: topV :: topV :: topV :: topV :: topV :: topV :: topV :: topV :: []), [some ⟨.view, .bytes bs⟩, some ⟨.row 39 4, .ints xs⟩, some ⟨.row 52 4, .ints ys⟩, some ⟨.row 52 4, .ints fs⟩, some ⟨.dead, .vals []⟩, some ⟨.row 39 4, .ints zs⟩]⟩))
  | _, _, _ => none
set_option maxRecDepth 100000 in
theorem in_lcI : loopsOf c_lcI = [c_lcK, c_lcN] := by kernel_rfl
theorem ltLk_good : LoopsGood Try.prog ltLk 2 c_lcI := by
  intro i d hd s k t F H hlt ht
  rw [in_lcI] at hd
  cases i with
  | zero =>
    obtain rfl : c_lcK = d := by simpa using hd
    exact lg_lcK s k t F H hlt ht
  | succ i => cases i with
    | zero =>
      obtain rfl : c_lcN = d := by simpa using hd
      exact lg_lcN s k t F H hlt ht
    | succ i => simp at hd
set_option maxRecDepth 100000 in
theorem round_lcI (bs xs ys fs zs : List Int) (n m : Nat) (hx : xs.length = n * 4) (h : n ≤ 12) (hy : ys.length = m * 4) (hm : m ≤ 1000) (hz : okZ n xs m ys) : Round_lcI bs xs ys fs zs n m := by
  intro i h1
  have h1 : i ≤ n := h1
  rw [tr_lcI]
  refine brT_ok.2 ⟨fun hlt => ?_, fun hge => ?_⟩
  · have hlt : i < n := by have := of_decide_eq_true hlt; omega
    have w : IntKind.i64.wrap ((i : Int) + 1) = ((i + 1 : Nat) : Int) := wsucc (n := n) hlt (by omega)
    rw [w]
    refine ⟨by omega, by omega, rfl, hx, h, by omega, hy, hm, hz, i + 1, [], ?_, ?_, rfl, rfl, ?_⟩
    · show i + 1 ≤ n; omega
    · show n - (i + 1) < n - i; omega
    · unfold s_lcI
      repeat' (first | exact True.intro | exact rfl | exact fun _ => rfl | (simp; done) | refine And.intro ?_ ?_)
  · have hge := of_decide_eq_false hge
    obtain rfl : i = n := by omega
    refine ⟨rfl, [], ?_⟩
    unfold rs_lcI
    repeat' (first | exact True.intro | exact rfl | exact fun _ => rfl | (simp; done) | refine And.intro ?_ ?_)
set_option maxRecDepth 100000 in
theorem lg_lcI : LoopE Try.prog e_lcI c_lcI := by
  intro s k t F H hlt ht
  unfold e_lcI at hlt
  split at hlt
  rotate_left
  · cases hlt
  rename_i hlen hpick hmem
  obtain ⟨tmps, mem⟩ := s
  simp only at hlen hpick hmem
  subst hmem
  obtain rfl := Option.some.inj hlt
  obtain ⟨⟨rfl, rfl, h2, h3, h5, h6, h7, _⟩, ht2⟩ := needs_ok ht
  clear ht hlt
  refine ⟨_, _, ht2, loop_run mixed ELc_ok (s_lcI _ _ _ _ _ _ _) (inv_lcI _ _ _ _ _ _ _) (me_lcI _ _ _ _ _ _ _) re_lcI (rs_lcI _ _ _ _ _ _ _) k_lcI (fun _ => rfl) ltLk_good (round_lcI _ _ _ _ _ _ _ h2 h3 h5 h6 h7) (x := 0) (Nat.zero_le _) (π := []) rfl ?_⟩
  refine ⟨rfl, rfl, ?_, wvs_spread' [3, 4, 5, 7] hlen rfl ?_⟩
  · repeat' (first | exact True.intro | exact rfl | exact wv_top _ _ | exact fun _ => rfl | assumption | exact Eq.symm (by assumption) | exact vI0 rfl | refine And.intro ?_ ?_)
  · rw [hpick]
    repeat' (first | exact True.intro | exact rfl | exact wv_top _ _ | exact fun _ => rfl | assumption | exact Eq.symm (by assumption) | exact vI0 rfl | refine And.intro ?_ ?_)
end Go.Proofs.Ytolodncpegajkaa
namespace Go.Proofs.Ytolodncpegajkaa
set_option linter.all false
open Go.RowKit
noncomputable def c_lcB : Code := ((loopsOf (codeOf Try.f8))[0]?).getD .skip
def k_lcB : Ex → List Nat := keeps [3, 4, 5, 6] [(0, [3, 4, 5])] [2]
def s_lcB (bs xs ys fs : List Int) (n m : Nat) : Nat → St := fun j => ⟨(topV :: topV :: topV :: .slice (some ⟨1, 0, none⟩) n n :: .slice (some ⟨2, 0, none⟩) m m :: .slice (some ⟨5, 0, none⟩) j j :: .int .i64 ((n : Int) - 1 - j) :: topV :: topV :: topV :: topV :: topV :: topV :: topV :: topV :: topV :: topV :: topV :: topV :: topV :: topV :: topV :: topV :: topV :: topV :: topV :: topV :: topV :: topV :: topV :: topV :: topV :: topV :: topV :: topV :: topV :: topV :: topV :: topV :: topV :: topV :: topV :: topV :: topV :: topV :: topV :: topV :: topV :: topV :: topV :: topV :: topV :: topV :: topV :: topV :: topV :: topV :: topV :: topV :: topV :: topV :: topV :: topV :: topV :: topV :: topV :: topV :: topV :: topV :: topV :: topV :: topV :: topV :: topV :: topV :: topV :: topV :: topV :: topV :: topV :: topV :: topV :: topV :: topV :: topV :: topV :: topV :: topV :: topV :: topV :: topV :: topV :: topV :: topV :: topV :: topV :: topV :: topV :: topV :: topV :: topV :: topV :: topV :: topV :: topV :: topV :: []), [some ⟨.view, .bytes bs⟩, some ⟨.row 39 4, .ints xs⟩, some ⟨.row 52 4, .ints ys⟩, some ⟨.row 52 4, .ints fs⟩, some ⟨.dead, .vals []⟩, some ⟨.row 39 4, .ints (bkL xs n j)⟩]⟩
def re_lcB : Nat → Ex := fun _ => .exit 0
def rs_lcB (bs xs ys fs : List Int) (n m : Nat) : Nat → St := fun j => ⟨(topV :: topV :: topV :: .slice (some ⟨1, 0, none⟩) n n :: .slice (some ⟨2, 0, none⟩) m m :: .slice (some ⟨5, 0, none⟩) n n :: topV :: topV :: topV :: topV :: topV :: topV :: topV :: topV :: topV :: topV :: topV :: topV :: topV :: topV :: topV :: topV :: topV :: topV :: topV :: topV :: topV :: topV :: topV :: topV :: topV :: topV :: topV :: topV :: topV :: topV :: topV :: topV :: topV :: topV :: topV :: topV :: topV :: topV :: topV :: topV :: topV :: topV :: topV :: topV :: topV :: topV :: topV :: topV :: topV :: topV :: topV :: topV :: topV :: topV :: topV :: topV :: topV :: topV :: topV :: topV :: topV :: topV :: topV :: topV :: topV :: topV :: topV :: topV :: topV :: topV :: topV :: topV :: topV :: topV :: topV :: topV :: topV :: topV :: topV :: topV :: topV :: topV :: topV :: topV :: topV :: topV :: topV :: topV :: topV :: topV :: topV :: topV :: topV :: topV :: topV :: topV :: topV :: topV :: topV :: topV :: []), [some ⟨.view, .bytes bs⟩, some ⟨.row 39 4, .ints xs⟩, some ⟨.row 52 4, .ints ys⟩, some ⟨.row 52 4, .ints fs⟩, some ⟨.dead, .vals []⟩, some ⟨.row 39 4, .ints (bkL xs n n)⟩]⟩
set_option maxRecDepth 100000 in
theorem tr_lcB (bs xs ys fs : List Int) (n m : Nat) (j : Nat) : bodyL Try.prog ELc 30 12 noL 1 c_lcB k_lcB 16 (s_lcB bs xs ys fs n m j) = brT (decide (0 ≤ (↑n : Int) - 1 - (↑j : Int))) (.need ((0 : Int) ≤ (↑n : Int) - (1 : Int) - (↑j : Int) ∧ (↑n : Int) - (1 : Int) - (↑j : Int) < (↑n : Int)) (.need ((0 : Nat) + ((↑n : Int) - (1 : Int) - (↑j : Int)).toNat * (4 : Nat) + (4 : Nat) ≤ xs.length) (.need ((j + (1 : Nat)) * (32 : Nat) ≤ (140737488355328 : Nat) ∧ j + (1 : Nat) ≤ (1000000 : Nat)) (.need ((0 : Nat) + j * (4 : Nat) ≤ (bkL xs n j).length) (.leaf .normal ⟨(topV :: topV :: topV :: .slice (some ⟨1, 0, none⟩) (n) (n) :: .slice (some ⟨2, 0, none⟩) (m) (m) :: .slice (some ⟨7, 0, none⟩) (j + 1) (j + 1) :: .int .i64 (IntKind.i64.wrap ((↑n : Int) - 1 - (↑j : Int) - 1)) :: topV :: topV :: topV :: topV :: topV :: topV :: topV :: topV :: topV :: topV :: topV :: topV :: topV :: topV :: topV :: topV :: topV :: topV :: topV :: topV :: topV :: topV :: topV :: topV :: topV :: topV :: topV :: topV :: topV :: topV :: topV :: topV :: topV :: topV :: topV :: topV :: topV :: topV :: topV :: topV :: topV :: topV :: topV :: topV :: topV :: topV :: topV :: topV :: topV :: topV :: topV :: topV :: topV :: topV :: topV :: topV :: topV :: topV :: topV :: topV :: topV :: topV :: topV :: topV :: topV :: topV :: topV :: topV :: topV :: topV :: topV :: topV :: topV :: topV :: topV :: topV :: topV :: topV :: topV :: topV :: topV :: topV :: topV :: topV :: topV :: topV :: topV :: topV :: topV :: topV :: topV :: topV :: topV :: topV :: topV :: topV :: topV :: topV :: topV :: []), [some ⟨.view, .bytes (bs)⟩, some ⟨.row 39 4, .ints (xs)⟩, some ⟨.row 52 4, .ints (ys)⟩, some ⟨.row 52 4, .ints (fs)⟩, some deadB, some deadB, some ⟨.row 39 4, .vals [.int .i64 (xs.getD (0 + ((↑n : Int) - 1 - (↑j : Int)).toNat * 4) 0), .int .i64 (xs.getD (0 + ((↑n : Int) - 1 - (↑j : Int)).toNat * 4 + 1) 0), .int .i64 (xs.getD (0 + ((↑n : Int) - 1 - (↑j : Int)).toNat * 4 + 1 + 1) 0), .int .i64 (xs.getD (0 + ((↑n : Int) - 1 - (↑j : Int)).toNat * 4 + 1 + 1 + 1) 0)]⟩, some ⟨.row 39 4, .ints (List.take (j * 4) (List.drop 0 (bkL xs n j)) ++ [xs.getD (0 + ((↑n : Int) - 1 - (↑j : Int)).toNat * 4) 0, xs.getD (0 + ((↑n : Int) - 1 - (↑j : Int)).toNat * 4 + 1) 0, xs.getD (0 + ((↑n : Int) - 1 - (↑j : Int)).toNat * 4 + 1 + 1) 0, xs.getD (0 + ((↑n : Int) - 1 - (↑j : Int)).toNat * 4 + 1 + 1 + 1) 0])⟩]⟩))))) (.leaf (.exit 0) ⟨(topV :: topV :: topV :: .slice (some ⟨1, 0, none⟩) (n) (n) :: .slice (some ⟨2, 0, none⟩) (m) (m) :: .slice (some ⟨5, 0, none⟩) (j) (j) :: topV :: topV :: topV :: topV :: topV :: topV :: topV :: topV :: topV :: topV :: topV :: topV :: topV :: topV :: topV :: topV :: topV :: topV :: topV :: topV :: topV :: topV :: topV :: topV :: topV :: topV :: topV :: topV :: topV :: topV :: topV :: topV :: topV :: topV :: topV :: topV :: topV :: topV :: topV :: topV :: topV :: topV :: topV :: topV :: topV :: topV :: topV :: topV :: topV :: topV :: topV :: topV :: topV :: topV :: topV :: topV :: topV :: topV :: topV :: topV :: topV :: topV :: topV :: topV :: topV :: topV :: topV :: topV :: topV :: topV :: topV :: topV :: topV :: topV :: topV :: topV :: topV :: topV :: topV :: topV :: topV :: topV :: topV :: topV :: topV :: topV :: topV :: topV :: topV :: topV :: topV :: topV :: topV :: topV :: topV :: topV :: topV :: topV :: topV :: topV :: []), [some ⟨.view, .bytes (bs)⟩, some ⟨.row 39 4, .ints (xs)⟩, some ⟨.row 52 4, .ints (ys)⟩, some ⟨.row 52 4, .ints (fs)⟩, some deadB, some ⟨.row 39 4, .ints (bkL xs n j)⟩]⟩) := by kernel_rfl
set_option maxRecDepth 100000 in
theorem nl_lcB : loopsOf c_lcB = [] := by kernel_rfl
def inv_lcB (bs xs ys fs : List Int) (n m : Nat) : Nat → Prop := fun j => j ≤ n
def me_lcB (bs xs ys fs : List Int) (n m : Nat) : Nat → Nat := fun j => n - j
/-- A round of this loop. -/
def Round_lcB (bs xs ys fs : List Int) (n m : Nat) : Prop := ∀ xx : Nat, inv_lcB bs xs ys fs n m xx → (bodyL Try.prog ELc 30 12 noL 1 c_lcB k_lcB 16 (s_lcB bs xs ys fs n m xx)).ok (RoundEnd 5 (s_lcB bs xs ys fs n m) (inv_lcB bs xs ys fs n m) (me_lcB bs xs ys fs n m) re_lcB (rs_lcB bs xs ys fs n m) xx) (fun _ _ => False)
def e_lcB (s : St) (k : Ex → St → Tree) : Option Tree := match Nat.beq s.tmps.length 106, pickL s.tmps [3, 4, 5, 6], s.mem with
  | true, [.slice (some ⟨1, 0, none⟩) n _, .slice (some ⟨2, 0, none⟩) m _, .slice (some ⟨4, 0, none⟩) z _, .int .i64 ii], [some ⟨.view, .bytes bs⟩, some ⟨.row 39 4, .ints xs⟩, some ⟨.row 52 4, .ints ys⟩, some ⟨.row 52 4, .ints fs⟩, some ⟨.row 39 4, .vals []⟩] => some (needs [z = 0, ii = (n : Int) - 1 - (0 : Nat), xs.length = n * 4, n ≤ 12] (k (.exit 0) ⟨(topV :: topV :: topV :: .slice (some ⟨1, 0, none⟩) n n :: .slice (some ⟨2, 0, none⟩) m m :: .slice (some ⟨5, 0, none⟩) n n :: topV :: topV :: topV :: topV :: topV :: topV :: topV :: topV :: topV :: topV :: topV :: topV :: topV :: topV :: topV :: topV :: topV :: topV :: topV :: topV :: topV :: topV :: topV :: topV :: topV :: topV :: topV :: topV :: topV :: topV :: topV :: topV :: topV :: topV :: topV :: topV :: topV :: topV :: topV :: topV :: topV :: topV :: topV :: topV :: topV :: topV :: topV :: topV :: topV :: topV :: topV :: topV :: topV :: topV :: topV :: topV :: topV :: topV :: topV :: topV :: topV :: topV :: topV :: topV :: topV :: topV :: topV :: topV :: topV :: topV :: topV :: topV :: topV :: topV :: topV :: topV :: topV :: topV :: topV :: topV :: topV :: topV :: topV :: topV :: topV :: topV :: topV :: topV :: topV :: topV :: topV :: topV :: topV :: topV :: topV :: topV :: topV :: topV :: topV :: topV :: []), [some ⟨.view, .bytes bs⟩, some ⟨.row 39 4, .ints xs⟩, some ⟨.row 52 4, .ints ys⟩, some ⟨.row 52 4, .ints fs⟩, some ⟨.dead, .vals []⟩, some ⟨.row 39 4, .ints (bkL xs n n)⟩]⟩))
  | _, _, _ => none
set_option maxRecDepth 100000 in
set_option maxHeartbeats 2000000 in
theorem round_lcB (bs xs ys fs : List Int) (n m : Nat) (hx : xs.length = n * 4) (h : n ≤ 12) : Round_lcB bs xs ys fs n m := by
  intro j h1
  have h1 : j ≤ n := h1
  rw [tr_lcB]
  have bl := bkL_len xs n j
  refine brT_ok.2 ⟨fun hlt => ?_, fun hge => ?_⟩
  · have hlt := of_decide_eq_true hlt
    have e0 : (n : Int) - 1 - (j : Int) = ((n - 1 - j : Nat) : Int) := by omega
    have e1 : IntKind.i64.wrap ((n : Int) - 1 - (j : Int) - 1) = (n : Int) - 1 - ((j + 1 : Nat) : Int) := by rw [wr (by omega)]; omega
    rw [e1, e0]
    simp only [Int.toNat_natCast, Nat.zero_add]
    have tk : List.take (j * 4) (List.drop 0 (bkL xs n j)) = bkL xs n j := by rw [List.drop_zero]; exact List.take_of_length_le (by omega)
    refine ⟨⟨by omega, by omega⟩, by omega, ⟨by omega, by omega⟩, by omega, j + 1, [some 7], ?_, ?_, rfl, rfl, ?_⟩
    · show j + 1 ≤ n; omega
    · show n - (j + 1) < n - j; omega
    · unfold s_lcB
      simp only [bkL, tk]
      repeat' (first | exact True.intro | exact rfl | exact fun _ => rfl | (simp; done) | refine And.intro ?_ ?_)
  · have hge := of_decide_eq_false hge
    obtain rfl : j = n := by omega
    refine ⟨rfl, [some 5], ?_⟩
    unfold rs_lcB
    repeat' (first | exact True.intro | exact rfl | exact fun _ => rfl | (simp; done) | refine And.intro ?_ ?_)
set_option maxRecDepth 100000 in
theorem lg_lcB : LoopE Try.prog e_lcB c_lcB := by
  intro s k t F H hlt ht
  unfold e_lcB at hlt
  split at hlt
  rotate_left
  · cases hlt
  rename_i hlen hpick hmem
  obtain ⟨tmps, mem⟩ := s
  simp only at hlen hpick hmem
  subst hmem
  obtain rfl := Option.some.inj hlt
  obtain ⟨⟨rfl, h1, h2, h3, _⟩, ht2⟩ := needs_ok ht
  clear ht hlt
  subst h1
  refine ⟨_, _, ht2, loop_run2 mixed ELc_ok (s_lcB _ _ _ _ _ _) (inv_lcB _ _ _ _ _ _) (me_lcB _ _ _ _ _ _) re_lcB (rs_lcB _ _ _ _ _ _) k_lcB (fun _ => rfl) (noLoops nl_lcB) (round_lcB _ _ _ _ _ _ h2 h3) (x := 0) (Nat.zero_le _) (π := [some 4]) rfl ?_⟩
  refine ⟨rfl, rfl, ?_, wvs_spread' [3, 4, 5, 6] hlen rfl ?_⟩
  · repeat' (first | exact True.intro | exact rfl | exact wv_top _ _ | exact fun _ => rfl | assumption | exact Eq.symm (by assumption) | exact vI0 rfl | refine And.intro ?_ ?_)
  · rw [hpick]
    repeat' (first | exact True.intro | exact rfl | exact wv_top _ _ | exact fun _ => rfl | assumption | exact Eq.symm (by assumption) | exact vI0 rfl | refine And.intro ?_ ?_)
end Go.Proofs.Ytolodncpegajkaa
namespace Go.Proofs.Ytolodncpegajkaa
set_option linter.all false
open Go.RowKit
noncomputable def ltLo : LT := fun j s k => match j with
  | 0 => e_lcB s k
  | 1 => e_lcI s k
  | _ => none
set_option maxRecDepth 100000 in
theorem in_Lc : loopsOf (codeOf Try.f8) = [c_lcB, c_lcI, c_lcK, c_lcN] := by kernel_rfl
theorem Lr_lc {fn : Func} (hf : Try.prog.funcs[8]? = some fn) : LoopsGood Try.prog ltLo 0 (codeOf fn) := by
  obtain rfl := fn_is Try.func8 hf
  intro i d hd s k t F H hlt ht
  rw [in_Lc] at hd
  match i with
  | 0 =>
    obtain rfl : c_lcB = d := by simpa using hd
    exact lg_lcB s k t F H hlt ht
  | 1 =>
    obtain rfl : c_lcI = d := by simpa using hd
    exact lg_lcI s k t F H hlt ht
  | i + 2 => simp [ltLo] at hlt
noncomputable def LLc : FuncId → LT := fun f => match f with
  | 8 => ltLo
  | _ => noL
noncomputable def ELc2 : Env := mkE TLc RLc LLc
theorem ELc2_ok : EnvOk Try.prog ELc2 := mkEOk TLc_ok RLc_ok (by
  intro f fn hf
  unfold LLc
  split
  all_goals first | with_reducible exact Lr_lc hf | exact noL_good)
set_option maxRecDepth 100000 in
theorem tr_lcp (bs : List Int) : bodyV Try.prog ELc2 30 12 8 [.row bs.length (.bytes bs)] = brT (decide (1048576 < (↑bs.length : Int))) (.fin (.bool (true)) []) (.need (Bytes (List.drop (0 : Nat) bs)) (.need (bs.length ≤ (List.drop (0 : Nat) bs).length) (.need ((List.drop (0 : Nat) (anL (List.drop (0 : Nat) bs) (rdL bs.length) (0 : Int))).length = asN (List.drop (0 : Nat) bs) (rdL bs.length) (0 : Int) * (4 : Nat)) (.need (Lim (asN (List.drop (0 : Nat) bs) (rdL bs.length) (0 : Int))) (.need ((List.drop (0 : Nat) (anL (List.drop (0 : Nat) bs) (rdL bs.length) (0 : Int))).length = asN (List.drop (0 : Nat) bs) (rdL bs.length) (0 : Int) * (4 : Nat)) (.need (Lim (asN (List.drop (0 : Nat) bs) (rdL bs.length) (0 : Int))) (.need ((cqV (asN (List.drop (0 : Nat) bs) (rdL bs.length) (0 : Int)) (List.drop (0 : Nat) (anL (List.drop (0 : Nat) bs) (rdL bs.length) (0 : Int)))).length = (cqV (asN (List.drop (0 : Nat) bs) (rdL bs.length) (0 : Int)) (List.drop (0 : Nat) (anL (List.drop (0 : Nat) bs) (rdL bs.length) (0 : Int)))).length) (.need (List.drop (0 : Nat) (fl4 (cqV (asN (List.drop (0 : Nat) bs) (rdL bs.length) (0 : Int)) (List.drop (0 : Nat) (anL (List.drop (0 : Nat) bs) (rdL bs.length) (0 : Int))))) = List.drop (0 : Nat) (fl4 (cqV (asN (List.drop (0 : Nat) bs) (rdL bs.length) (0 : Int)) (List.drop (0 : Nat) (anL (List.drop (0 : Nat) bs) (rdL bs.length) (0 : Int)))))) (.need ((List.drop (0 : Nat) (fl4 (cqV (asN (List.drop (0 : Nat) bs) (rdL bs.length) (0 : Int)) (List.drop (0 : Nat) (anL (List.drop (0 : Nat) bs) (rdL bs.length) (0 : Int)))))).length = (cqV (asN (List.drop (0 : Nat) bs) (rdL bs.length) (0 : Int)) (List.drop (0 : Nat) (anL (List.drop (0 : Nat) bs) (rdL bs.length) (0 : Int)))).length * (4 : Nat)) (.need (Lim (cqV (asN (List.drop (0 : Nat) bs) (rdL bs.length) (0 : Int)) (List.drop (0 : Nat) (anL (List.drop (0 : Nat) bs) (rdL bs.length) (0 : Int)))).length) (brT ((↑(cqV (asN (List.drop 0 bs) (rdL bs.length) 0) (List.drop 0 (anL (List.drop 0 bs) (rdL bs.length) 0))).length : Int) == 0) (.need ((List.drop (0 : Nat) (anL (List.drop (0 : Nat) bs) (rdL bs.length) (0 : Int))).length = asN (List.drop (0 : Nat) bs) (rdL bs.length) (0 : Int) * (4 : Nat)) (.need (Lim (asN (List.drop (0 : Nat) bs) (rdL bs.length) (0 : Int))) (.need ((cqV (asN (List.drop (0 : Nat) bs) (rdL bs.length) (0 : Int)) (List.drop (0 : Nat) (anL (List.drop (0 : Nat) bs) (rdL bs.length) (0 : Int)))).length = (cqV (asN (List.drop (0 : Nat) bs) (rdL bs.length) (0 : Int)) (List.drop (0 : Nat) (anL (List.drop (0 : Nat) bs) (rdL bs.length) (0 : Int)))).length) (.need (List.drop (0 : Nat) (fl4 (cqV (asN (List.drop (0 : Nat) bs) (rdL bs.length) (0 : Int)) (List.drop (0 : Nat) (anL (List.drop (0 : Nat) bs) (rdL bs.length) (0 : Int))))) = List.drop (0 : Nat) (fl4 (cqV (asN (List.drop (0 : Nat) bs) (rdL bs.length) (0 : Int)) (List.drop (0 : Nat) (anL (List.drop (0 : Nat) bs) (rdL bs.length) (0 : Int)))))) (.need ((List.drop (0 : Nat) (fl4 (cqV (asN (List.drop (0 : Nat) bs) (rdL bs.length) (0 : Int)) (List.drop (0 : Nat) (anL (List.drop (0 : Nat) bs) (rdL bs.length) (0 : Int)))))).length = (cqV (asN (List.drop (0 : Nat) bs) (rdL bs.length) (0 : Int)) (List.drop (0 : Nat) (anL (List.drop (0 : Nat) bs) (rdL bs.length) (0 : Int)))).length * (4 : Nat)) (.need (Lim (cqV (asN (List.drop (0 : Nat) bs) (rdL bs.length) (0 : Int)) (List.drop (0 : Nat) (anL (List.drop (0 : Nat) bs) (rdL bs.length) (0 : Int)))).length) (.fin (.bool (true)) []))))))) (.need ((0 : Nat) = (0 : Nat)) (.need (IntKind.i64.wrap ((↑(asN (List.drop (0 : Nat) bs) (rdL bs.length) (0 : Int)) : Int) - (1 : Int)) = (↑(asN (List.drop (0 : Nat) bs) (rdL bs.length) (0 : Int)) : Int) - (1 : Int) - (↑(0 : Nat) : Int)) (.need ((anL (List.drop (0 : Nat) bs) (rdL bs.length) (0 : Int)).length = asN (List.drop (0 : Nat) bs) (rdL bs.length) (0 : Int) * (4 : Nat)) (.need (asN (List.drop (0 : Nat) bs) (rdL bs.length) (0 : Int) ≤ (12 : Nat)) (.need ((0 : Int) = (0 : Int)) (.need (asN (List.drop (0 : Nat) bs) (rdL bs.length) (0 : Int) = asN (List.drop (0 : Nat) bs) (rdL bs.length) (0 : Int)) (.need ((anL (List.drop (0 : Nat) bs) (rdL bs.length) (0 : Int)).length = asN (List.drop (0 : Nat) bs) (rdL bs.length) (0 : Int) * (4 : Nat)) (.need (asN (List.drop (0 : Nat) bs) (rdL bs.length) (0 : Int) ≤ (12 : Nat)) (.need ((fl4 (cqV (asN (List.drop (0 : Nat) bs) (rdL bs.length) (0 : Int)) (List.drop (0 : Nat) (anL (List.drop (0 : Nat) bs) (rdL bs.length) (0 : Int))))).length = (cqV (asN (List.drop (0 : Nat) bs) (rdL bs.length) (0 : Int)) (List.drop (0 : Nat) (anL (List.drop (0 : Nat) bs) (rdL bs.length) (0 : Int)))).length * (4 : Nat)) (.need ((cqV (asN (List.drop (0 : Nat) bs) (rdL bs.length) (0 : Int)) (List.drop (0 : Nat) (anL (List.drop (0 : Nat) bs) (rdL bs.length) (0 : Int)))).length ≤ (1000 : Nat)) (.need (okZ (asN (List.drop (0 : Nat) bs) (rdL bs.length) (0 : Int)) (anL (List.drop (0 : Nat) bs) (rdL bs.length) (0 : Int)) (cqV (asN (List.drop (0 : Nat) bs) (rdL bs.length) (0 : Int)) (List.drop (0 : Nat) (anL (List.drop (0 : Nat) bs) (rdL bs.length) (0 : Int)))).length (fl4 (cqV (asN (List.drop (0 : Nat) bs) (rdL bs.length) (0 : Int)) (List.drop (0 : Nat) (anL (List.drop (0 : Nat) bs) (rdL bs.length) (0 : Int)))))) (.need ((List.drop (0 : Nat) (bkL (anL (List.drop (0 : Nat) bs) (rdL bs.length) (0 : Int)) (asN (List.drop (0 : Nat) bs) (rdL bs.length) (0 : Int)) (asN (List.drop (0 : Nat) bs) (rdL bs.length) (0 : Int)))).length = asN (List.drop (0 : Nat) bs) (rdL bs.length) (0 : Int) * (4 : Nat)) (.need (Lim (asN (List.drop (0 : Nat) bs) (rdL bs.length) (0 : Int))) (.need ((cqV (asN (List.drop (0 : Nat) bs) (rdL bs.length) (0 : Int)) (List.drop (0 : Nat) (bkL (anL (List.drop (0 : Nat) bs) (rdL bs.length) (0 : Int)) (asN (List.drop (0 : Nat) bs) (rdL bs.length) (0 : Int)) (asN (List.drop (0 : Nat) bs) (rdL bs.length) (0 : Int))))).length = (cqV (asN (List.drop (0 : Nat) bs) (rdL bs.length) (0 : Int)) (List.drop (0 : Nat) (anL (List.drop (0 : Nat) bs) (rdL bs.length) (0 : Int)))).length) (.need (List.drop (0 : Nat) (fl4 (cqV (asN (List.drop (0 : Nat) bs) (rdL bs.length) (0 : Int)) (List.drop (0 : Nat) (bkL (anL (List.drop (0 : Nat) bs) (rdL bs.length) (0 : Int)) (asN (List.drop (0 : Nat) bs) (rdL bs.length) (0 : Int)) (asN (List.drop (0 : Nat) bs) (rdL bs.length) (0 : Int)))))) = List.drop (0 : Nat) (fl4 (cqV (asN (List.drop (0 : Nat) bs) (rdL bs.length) (0 : Int)) (List.drop (0 : Nat) (anL (List.drop (0 : Nat) bs) (rdL bs.length) (0 : Int)))))) (.need ((List.drop (0 : Nat) (fl4 (cqV (asN (List.drop (0 : Nat) bs) (rdL bs.length) (0 : Int)) (List.drop (0 : Nat) (bkL (anL (List.drop (0 : Nat) bs) (rdL bs.length) (0 : Int)) (asN (List.drop (0 : Nat) bs) (rdL bs.length) (0 : Int)) (asN (List.drop (0 : Nat) bs) (rdL bs.length) (0 : Int))))))).length = (cqV (asN (List.drop (0 : Nat) bs) (rdL bs.length) (0 : Int)) (List.drop (0 : Nat) (bkL (anL (List.drop (0 : Nat) bs) (rdL bs.length) (0 : Int)) (asN (List.drop (0 : Nat) bs) (rdL bs.length) (0 : Int)) (asN (List.drop (0 : Nat) bs) (rdL bs.length) (0 : Int))))).length * (4 : Nat)) (.need (Lim (cqV (asN (List.drop (0 : Nat) bs) (rdL bs.length) (0 : Int)) (List.drop (0 : Nat) (bkL (anL (List.drop (0 : Nat) bs) (rdL bs.length) (0 : Int)) (asN (List.drop (0 : Nat) bs) (rdL bs.length) (0 : Int)) (asN (List.drop (0 : Nat) bs) (rdL bs.length) (0 : Int))))).length) (.fin (.bool (true)) []))))))))))))))))))))))))))))) := by kernel_rfl
theorem CrossingPoints_res (bs : List Int) (hb : Bytes bs) (_ : bs.length ≤ maxLen) : Res Try.prog 8 [.row bs.length (.bytes bs)] (.bool true) := by
  refine bodyV_res mixed ELc2_ok (m := 30) (n := 12) rfl ?_
  rw [tr_lcp]
  simp only [List.drop_zero]
  have hx := anL_len bs (rdL bs.length) 0
  have hn := asN_bd bs (rdL bs.length) 0
  generalize anL bs (rdL bs.length) 0 = xs at *
  generalize asN bs (rdL bs.length) 0 = n at *
  have hP : Lim n := Nat.le_trans hn (by decide)
  have hV := cqV_len n xs
  have hL : Lim (cqV n xs).length := Nat.le_trans hV (by decide)
  have fl := fl4_length (cqV n xs)
  have hk : 0 < (cqV n xs).length → n ≤ 12 ∧ okZ n xs (cqV n xs).length (fl4 (cqV n xs)) := fun h => by
    have hv : vsB n xs = true := by
      rcases hv : vsB n xs with _ | _
      · unfold cqV at h
        rw [hv] at h
        simp at h
      · rfl
    refine ⟨vs_12q hv, fun i k h1 h2 h3 => ?_⟩
    rw [q4A_fl4]
    unfold cqV
    rw [hv]
    exact meet_in h1 h2 h3
  have hbk := cq_back xs n
  have lb := bkL_len xs n n
  refine brT_ok.2 ⟨fun _ => rfl, fun hs => ?_⟩
  refine ⟨hb, Nat.le_refl _, hx, hP, hx, hP, trivial, trivial, fl, hL, brT_ok.2 ⟨fun g => ?_, fun g => ?_⟩⟩
  · exact ⟨hx, hP, trivial, trivial, fl, hL, rfl⟩
  · have g : ¬ ((cqV n xs).length : Int) = 0 := by simpa using g
    obtain ⟨k1, k2⟩ := hk (by omega)
    have w : IntKind.i64.wrap ((n : Int) - 1) = (n : Int) - 1 := wr (by omega)
    rw [w, hbk]
    refine ⟨by first | trivial | rfl, by omega, hx, k1, by first | trivial | rfl, by first | trivial | rfl, hx, k1, fl, by omega, k2, lb, hP, by first | trivial | rfl, by first | trivial | rfl, fl, hL, rfl⟩
end Go.Proofs.Ytolodncpegajkaa
