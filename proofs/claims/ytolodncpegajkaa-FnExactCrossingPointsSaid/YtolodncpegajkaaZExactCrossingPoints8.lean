/-
  Texts that the proof needs, merged. Written by an AI agent.
-/
import Derived.Orders
import Derived.Below
import Derived.OrdersIn
import Derived.Deep.LoopGhost
import Derived.WalkKit
import Derived.Laws.CopyRow
import Derived.Laws.AppendOwn
import Derived.Laws.Slices
import Derived.Laws.MakeOwn
import Derived.Test.YtolodncpegajkaaRows
import Derived.ProofKit
import Derived.OpenShut
import Derived.Carry
import Derived.IntWalk
import Derived.Test.YtolodncpegajkaaProg
import Derived.WalkSpells
import Derived.WalkLawsBesides
import Derived.Lib.Hide
import Derived.Deep.QuietTactic
import Derived.BigQuiet
import Derived.KernelRfl
import Derived.Deep.RegionHeld3
import Derived.LoopTactic
import Derived.Laws.StructEq
import Derived.Laws.Tables
import Derived.RangeFuncNested
import Derived.RangeFuncLeaves
import Derived.Deep.Slices
import Derived.Deep.Fields
import Derived.ChangeSame
import Derived.Deep.DeepCutAuto
import Derived.Sort.Grow
import Derived.Shelf.SlSortCmp.NoneTotal
import Derived.Shelf.SlSortCmp.WholeK
import Derived.Test.YtolodncpegajkaaZExactCrossingPoints7
namespace Go.Proofs.Ytolodncpegajkaa
set_option linter.all false
open Go.RowKit
/-- The points where segments cross, of so many pairs, in order. -/
def cmL (xs : List Int) (n : Nat) : Nat → List Q4
  | 0 => []
  | t + 1 => bif cpQ xs n t then inQ (xpAt xs (prA n t).1 (prA n t).2) (cmL xs n t) else cmL xs n t
theorem inQ_len (p : Q4) : ∀ ps : List Q4, (inQ p ps).length ≤ ps.length + 1
  | [] => Nat.le_refl _
  | q :: r => by
    have := inQ_len p r
    simp only [inQ]
    split
    · simp; omega
    · split <;> simp
theorem cmL_len (xs : List Int) (n : Nat) : ∀ t, (cmL xs n t).length ≤ t
  | 0 => Nat.le_refl _
  | t + 1 => by
    have := cmL_len xs n t
    have h2 := inQ_len (xpAt xs (prA n t).1 (prA n t).2) (cmL xs n t)
    simp only [cmL]
    cases cpQ xs n t <;> simp <;> omega
theorem cmL_ok {xs : List Int} {n : Nat} (hv : vsB n xs = true) : ∀ t, t ≤ offR n 0 n → ∀ q ∈ cmL xs n t, okQ q = true
  | 0, _, q, h => by simp [cmL] at h
  | t + 1, ht, q, h => by
    have ih := cmL_ok hv t (by omega)
    simp only [cmL] at h
    rcases hc : cpQ xs n t with _ | _
    · rw [hc] at h
      exact ih q h
    · rw [hc] at h
      rcases (inQ_mem _ _ q).1 h with h | rfl
      · exact ih q h
      · obtain ⟨l1, l2⟩ := prA_lt2 (n := n) (t := t) (by omega)
        exact xpAt_ok hv l1 l2 (beq_iff_eq.1 hc)
def JAq : TabJ := consR 81 (owG adqS) noJ
theorem JAq_ok : GSound Try.prog JAq.g := consO_ok mixed (failG_sound _) (entersB_res (by kernel_rfl)).1 adqS_ok
def ECm : Env := withT (mkE TCq (fun _ _ => none) (fun _ => noL)) JAq
theorem ECm_ok : EnvOk Try.prog ECm := withT_ok (mkEOk TCq_ok (fun _ _ _ _ _ h => (by cases h)) (fun _ _ _ => noL_good)) JAq_ok
noncomputable def c_ciI : Code := ((loopsOf (codeOf Try.f31))[1]?).getD .skip
def k_ciI : Ex → List Nat := keeps [0, 3, 4, 5] [(2, [0, 3, 4]), (1, [0, 3, 4]), (0, [3])] [2]
def s_ciI (xs : List Int) (n i : Nat) : Nat → St := fun j => ⟨(.slice (some ⟨0, 0, none⟩) n n :: topV :: topV :: .slice (some ⟨3, 0, none⟩) (cmL xs n (offR n 0 i + j)).length (cmL xs n (offR n 0 i + j)).length :: .int .i64 i :: .int .i64 (i + 1 + j : Nat) :: topV :: topV :: topV :: topV :: topV :: topV :: topV :: topV :: topV :: topV :: topV :: topV :: topV :: topV :: topV :: topV :: topV :: topV :: topV :: topV :: topV :: topV :: topV :: topV :: topV :: topV :: topV :: topV :: topV :: topV :: topV :: topV :: topV :: topV :: topV :: topV :: topV :: topV :: topV :: topV :: []), [some ⟨.view, .ints xs⟩, some ⟨.dead, .vals []⟩, some ⟨.dead, .vals []⟩, some ⟨.row 52 4, .ints (fl4 (cmL xs n (offR n 0 i + j)))⟩]⟩
def re_ciI : Nat → Ex := fun _ => .exit 2
def rs_ciI (xs : List Int) (n i : Nat) : Nat → St := fun j => ⟨(.slice (some ⟨0, 0, none⟩) n n :: topV :: topV :: .slice (some ⟨3, 0, none⟩) (cmL xs n (offR n 0 (i + 1))).length (cmL xs n (offR n 0 (i + 1))).length :: .int .i64 i :: topV :: topV :: topV :: topV :: topV :: topV :: topV :: topV :: topV :: topV :: topV :: topV :: topV :: topV :: topV :: topV :: topV :: topV :: topV :: topV :: topV :: topV :: topV :: topV :: topV :: topV :: topV :: topV :: topV :: topV :: topV :: topV :: topV :: topV :: topV :: topV :: topV :: topV :: topV :: topV :: topV :: []), [some ⟨.view, .ints xs⟩, some ⟨.dead, .vals []⟩, some ⟨.dead, .vals []⟩, some ⟨.row 52 4, .ints (fl4 (cmL xs n (offR n 0 (i + 1))))⟩]⟩
set_option maxRecDepth 100000 in
theorem tr_ciI (xs : List Int) (n i : Nat) (j : Nat) : bodyL Try.prog ECm 30 12 noL 2 c_ciI k_ciI 16 (s_ciI xs n i j) = brT (decide ((↑(i + 1 + j) : Int) < (↑n : Int))) (.need (ptB (xs.getD ((0 : Nat) + (↑i : Int).toNat * (4 : Nat)) (0 : Int)) (xs.getD ((0 : Nat) + (↑i : Int).toNat * (4 : Nat) + (1 : Nat)) (0 : Int)) = true) (.need (ptB (xs.getD ((0 : Nat) + (↑i : Int).toNat * (4 : Nat) + (1 : Nat) + (1 : Nat)) (0 : Int)) (xs.getD ((0 : Nat) + (↑i : Int).toNat * (4 : Nat) + (1 : Nat) + (1 : Nat) + (1 : Nat)) (0 : Int)) = true) (.need (ptB (xs.getD ((0 : Nat) + (↑(i + (1 : Nat) + j) : Int).toNat * (4 : Nat)) (0 : Int)) (xs.getD ((0 : Nat) + (↑(i + (1 : Nat) + j) : Int).toNat * (4 : Nat) + (1 : Nat)) (0 : Int)) = true) (.need (ptB (xs.getD ((0 : Nat) + (↑(i + (1 : Nat) + j) : Int).toNat * (4 : Nat) + (1 : Nat) + (1 : Nat)) (0 : Int)) (xs.getD ((0 : Nat) + (↑(i + (1 : Nat) + j) : Int).toNat * (4 : Nat) + (1 : Nat) + (1 : Nat) + (1 : Nat)) (0 : Int)) = true) (.need ((0 : Int) ≤ (↑i : Int) ∧ (↑i : Int) < (↑n : Int)) (.need ((0 : Nat) + (↑i : Int).toNat * (4 : Nat) + (4 : Nat) ≤ xs.length) (.need ((0 : Int) ≤ (↑(i + (1 : Nat) + j) : Int) ∧ (↑(i + (1 : Nat) + j) : Int) < (↑n : Int)) (.need ((0 : Nat) + (↑(i + (1 : Nat) + j) : Int).toNat * (4 : Nat) + (4 : Nat) ≤ xs.length) (brT (relA (xs.getD (0 + (↑i : Int).toNat * 4) 0) (xs.getD (0 + (↑i : Int).toNat * 4 + 1) 0) (xs.getD (0 + (↑i : Int).toNat * 4 + 1 + 1) 0) (xs.getD (0 + (↑i : Int).toNat * 4 + 1 + 1 + 1) 0) (xs.getD (0 + (↑(i + 1 + j) : Int).toNat * 4) 0) (xs.getD (0 + (↑(i + 1 + j) : Int).toNat * 4 + 1) 0) (xs.getD (0 + (↑(i + 1 + j) : Int).toNat * 4 + 1 + 1) 0) (xs.getD (0 + (↑(i + 1 + j) : Int).toNat * 4 + 1 + 1 + 1) 0) == 2) (.need (ptB (xs.getD ((0 : Nat) + (↑i : Int).toNat * (4 : Nat)) (0 : Int)) (xs.getD ((0 : Nat) + (↑i : Int).toNat * (4 : Nat) + (1 : Nat)) (0 : Int)) = true) (.need (ptB (xs.getD ((0 : Nat) + (↑i : Int).toNat * (4 : Nat) + (1 : Nat) + (1 : Nat)) (0 : Int)) (xs.getD ((0 : Nat) + (↑i : Int).toNat * (4 : Nat) + (1 : Nat) + (1 : Nat) + (1 : Nat)) (0 : Int)) = true) (.need (ptB (xs.getD ((0 : Nat) + (↑(i + (1 : Nat) + j) : Int).toNat * (4 : Nat)) (0 : Int)) (xs.getD ((0 : Nat) + (↑(i + (1 : Nat) + j) : Int).toNat * (4 : Nat) + (1 : Nat)) (0 : Int)) = true) (.need (ptB (xs.getD ((0 : Nat) + (↑(i + (1 : Nat) + j) : Int).toNat * (4 : Nat) + (1 : Nat) + (1 : Nat)) (0 : Int)) (xs.getD ((0 : Nat) + (↑(i + (1 : Nat) + j) : Int).toNat * (4 : Nat) + (1 : Nat) + (1 : Nat) + (1 : Nat)) (0 : Int)) = true) (.need (¬crossI (xs.getD ((0 : Nat) + (↑(i + (1 : Nat) + j) : Int).toNat * (4 : Nat)) (0 : Int)) (xs.getD ((0 : Nat) + (↑(i + (1 : Nat) + j) : Int).toNat * (4 : Nat) + (1 : Nat)) (0 : Int)) (xs.getD ((0 : Nat) + (↑(i + (1 : Nat) + j) : Int).toNat * (4 : Nat) + (1 : Nat) + (1 : Nat)) (0 : Int)) (xs.getD ((0 : Nat) + (↑(i + (1 : Nat) + j) : Int).toNat * (4 : Nat) + (1 : Nat) + (1 : Nat) + (1 : Nat)) (0 : Int)) (xs.getD ((0 : Nat) + (↑i : Int).toNat * (4 : Nat)) (0 : Int)) (xs.getD ((0 : Nat) + (↑i : Int).toNat * (4 : Nat) + (1 : Nat)) (0 : Int)) = crossI (xs.getD ((0 : Nat) + (↑(i + (1 : Nat) + j) : Int).toNat * (4 : Nat)) (0 : Int)) (xs.getD ((0 : Nat) + (↑(i + (1 : Nat) + j) : Int).toNat * (4 : Nat) + (1 : Nat)) (0 : Int)) (xs.getD ((0 : Nat) + (↑(i + (1 : Nat) + j) : Int).toNat * (4 : Nat) + (1 : Nat) + (1 : Nat)) (0 : Int)) (xs.getD ((0 : Nat) + (↑(i + (1 : Nat) + j) : Int).toNat * (4 : Nat) + (1 : Nat) + (1 : Nat) + (1 : Nat)) (0 : Int)) (xs.getD ((0 : Nat) + (↑i : Int).toNat * (4 : Nat) + (1 : Nat) + (1 : Nat)) (0 : Int)) (xs.getD ((0 : Nat) + (↑i : Int).toNat * (4 : Nat) + (1 : Nat) + (1 : Nat) + (1 : Nat)) (0 : Int))) (.need ((0 : Int) ≤ (↑i : Int) ∧ (↑i : Int) < (↑n : Int)) (.need ((0 : Nat) + (↑i : Int).toNat * (4 : Nat) + (4 : Nat) ≤ xs.length) (.need ((0 : Int) ≤ (↑(i + (1 : Nat) + j) : Int) ∧ (↑(i + (1 : Nat) + j) : Int) < (↑n : Int)) (.need ((0 : Nat) + (↑(i + (1 : Nat) + j) : Int).toNat * (4 : Nat) + (4 : Nat) ≤ xs.length) (.need ((fl4 (cmL xs n (offR n (0 : Nat) i + j))).length = (cmL xs n (offR n (0 : Nat) i + j)).length * (4 : Nat)) (.need ((cmL xs n (offR n (0 : Nat) i + j)).length ≤ (1000 : Nat)) (.need (allV4 (cmL xs n (offR n (0 : Nat) i + j)).length (fl4 (cmL xs n (offR n (0 : Nat) i + j)))) (.need (okB (xp1 (xs.getD ((0 : Nat) + (↑i : Int).toNat * (4 : Nat)) (0 : Int)) (xs.getD ((0 : Nat) + (↑i : Int).toNat * (4 : Nat) + (1 : Nat)) (0 : Int)) (xs.getD ((0 : Nat) + (↑i : Int).toNat * (4 : Nat) + (1 : Nat) + (1 : Nat)) (0 : Int)) (xs.getD ((0 : Nat) + (↑i : Int).toNat * (4 : Nat) + (1 : Nat) + (1 : Nat) + (1 : Nat)) (0 : Int)) (xs.getD ((0 : Nat) + (↑(i + (1 : Nat) + j) : Int).toNat * (4 : Nat)) (0 : Int)) (xs.getD ((0 : Nat) + (↑(i + (1 : Nat) + j) : Int).toNat * (4 : Nat) + (1 : Nat)) (0 : Int)) (xs.getD ((0 : Nat) + (↑(i + (1 : Nat) + j) : Int).toNat * (4 : Nat) + (1 : Nat) + (1 : Nat)) (0 : Int)) (xs.getD ((0 : Nat) + (↑(i + (1 : Nat) + j) : Int).toNat * (4 : Nat) + (1 : Nat) + (1 : Nat) + (1 : Nat)) (0 : Int))) (xp2 (xs.getD ((0 : Nat) + (↑i : Int).toNat * (4 : Nat)) (0 : Int)) (xs.getD ((0 : Nat) + (↑i : Int).toNat * (4 : Nat) + (1 : Nat)) (0 : Int)) (xs.getD ((0 : Nat) + (↑i : Int).toNat * (4 : Nat) + (1 : Nat) + (1 : Nat)) (0 : Int)) (xs.getD ((0 : Nat) + (↑i : Int).toNat * (4 : Nat) + (1 : Nat) + (1 : Nat) + (1 : Nat)) (0 : Int)) (xs.getD ((0 : Nat) + (↑(i + (1 : Nat) + j) : Int).toNat * (4 : Nat)) (0 : Int)) (xs.getD ((0 : Nat) + (↑(i + (1 : Nat) + j) : Int).toNat * (4 : Nat) + (1 : Nat)) (0 : Int)) (xs.getD ((0 : Nat) + (↑(i + (1 : Nat) + j) : Int).toNat * (4 : Nat) + (1 : Nat) + (1 : Nat)) (0 : Int)) (xs.getD ((0 : Nat) + (↑(i + (1 : Nat) + j) : Int).toNat * (4 : Nat) + (1 : Nat) + (1 : Nat) + (1 : Nat)) (0 : Int))) (xp3 (xs.getD ((0 : Nat) + (↑i : Int).toNat * (4 : Nat)) (0 : Int)) (xs.getD ((0 : Nat) + (↑i : Int).toNat * (4 : Nat) + (1 : Nat)) (0 : Int)) (xs.getD ((0 : Nat) + (↑i : Int).toNat * (4 : Nat) + (1 : Nat) + (1 : Nat)) (0 : Int)) (xs.getD ((0 : Nat) + (↑i : Int).toNat * (4 : Nat) + (1 : Nat) + (1 : Nat) + (1 : Nat)) (0 : Int)) (xs.getD ((0 : Nat) + (↑(i + (1 : Nat) + j) : Int).toNat * (4 : Nat)) (0 : Int)) (xs.getD ((0 : Nat) + (↑(i + (1 : Nat) + j) : Int).toNat * (4 : Nat) + (1 : Nat)) (0 : Int)) (xs.getD ((0 : Nat) + (↑(i + (1 : Nat) + j) : Int).toNat * (4 : Nat) + (1 : Nat) + (1 : Nat)) (0 : Int)) (xs.getD ((0 : Nat) + (↑(i + (1 : Nat) + j) : Int).toNat * (4 : Nat) + (1 : Nat) + (1 : Nat) + (1 : Nat)) (0 : Int))) (xp4 (xs.getD ((0 : Nat) + (↑i : Int).toNat * (4 : Nat)) (0 : Int)) (xs.getD ((0 : Nat) + (↑i : Int).toNat * (4 : Nat) + (1 : Nat)) (0 : Int)) (xs.getD ((0 : Nat) + (↑i : Int).toNat * (4 : Nat) + (1 : Nat) + (1 : Nat)) (0 : Int)) (xs.getD ((0 : Nat) + (↑i : Int).toNat * (4 : Nat) + (1 : Nat) + (1 : Nat) + (1 : Nat)) (0 : Int)) (xs.getD ((0 : Nat) + (↑(i + (1 : Nat) + j) : Int).toNat * (4 : Nat)) (0 : Int)) (xs.getD ((0 : Nat) + (↑(i + (1 : Nat) + j) : Int).toNat * (4 : Nat) + (1 : Nat)) (0 : Int)) (xs.getD ((0 : Nat) + (↑(i + (1 : Nat) + j) : Int).toNat * (4 : Nat) + (1 : Nat) + (1 : Nat)) (0 : Int)) (xs.getD ((0 : Nat) + (↑(i + (1 : Nat) + j) : Int).toNat * (4 : Nat) + (1 : Nat) + (1 : Nat) + (1 : Nat)) (0 : Int))) = true) (.leaf .normal ⟨(.slice (some ⟨0, 0, none⟩) (n) (n) :: topV :: topV :: .slice (some ⟨6, 0, none⟩) ((inZ (xp1 (xs.getD (0 + (↑i : Int).toNat * 4) 0) (xs.getD (0 + (↑i : Int).toNat * 4 + 1) 0) (xs.getD (0 + (↑i : Int).toNat * 4 + 1 + 1) 0) (xs.getD (0 + (↑i : Int).toNat * 4 + 1 + 1 + 1) 0) (xs.getD (0 + (↑(i + 1 + j) : Int).toNat * 4) 0) (xs.getD (0 + (↑(i + 1 + j) : Int).toNat * 4 + 1) 0) (xs.getD (0 + (↑(i + 1 + j) : Int).toNat * 4 + 1 + 1) 0) (xs.getD (0 + (↑(i + 1 + j) : Int).toNat * 4 + 1 + 1 + 1) 0)) (xp2 (xs.getD (0 + (↑i : Int).toNat * 4) 0) (xs.getD (0 + (↑i : Int).toNat * 4 + 1) 0) (xs.getD (0 + (↑i : Int).toNat * 4 + 1 + 1) 0) (xs.getD (0 + (↑i : Int).toNat * 4 + 1 + 1 + 1) 0) (xs.getD (0 + (↑(i + 1 + j) : Int).toNat * 4) 0) (xs.getD (0 + (↑(i + 1 + j) : Int).toNat * 4 + 1) 0) (xs.getD (0 + (↑(i + 1 + j) : Int).toNat * 4 + 1 + 1) 0) (xs.getD (0 + (↑(i + 1 + j) : Int).toNat * 4 + 1 + 1 + 1) 0)) (xp3 (xs.getD (0 + (↑i : Int).toNat * 4) 0) (xs.getD (0 + (↑i : Int).toNat * 4 + 1) 0) (xs.getD (0 + (↑i : Int).toNat * 4 + 1 + 1) 0) (xs.getD (0 + (↑i : Int).toNat * 4 + 1 + 1 + 1) 0) (xs.getD (0 + (↑(i + 1 + j) : Int).toNat * 4) 0) (xs.getD (0 + (↑(i + 1 + j) : Int).toNat * 4 + 1) 0) (xs.getD (0 + (↑(i + 1 + j) : Int).toNat * 4 + 1 + 1) 0) (xs.getD (0 + (↑(i + 1 + j) : Int).toNat * 4 + 1 + 1 + 1) 0)) (xp4 (xs.getD (0 + (↑i : Int).toNat * 4) 0) (xs.getD (0 + (↑i : Int).toNat * 4 + 1) 0) (xs.getD (0 + (↑i : Int).toNat * 4 + 1 + 1) 0) (xs.getD (0 + (↑i : Int).toNat * 4 + 1 + 1 + 1) 0) (xs.getD (0 + (↑(i + 1 + j) : Int).toNat * 4) 0) (xs.getD (0 + (↑(i + 1 + j) : Int).toNat * 4 + 1) 0) (xs.getD (0 + (↑(i + 1 + j) : Int).toNat * 4 + 1 + 1) 0) (xs.getD (0 + (↑(i + 1 + j) : Int).toNat * 4 + 1 + 1 + 1) 0)) (cmL xs n (offR n 0 i + j)).length (fl4 (cmL xs n (offR n 0 i + j)))).length) ((inZ (xp1 (xs.getD (0 + (↑i : Int).toNat * 4) 0) (xs.getD (0 + (↑i : Int).toNat * 4 + 1) 0) (xs.getD (0 + (↑i : Int).toNat * 4 + 1 + 1) 0) (xs.getD (0 + (↑i : Int).toNat * 4 + 1 + 1 + 1) 0) (xs.getD (0 + (↑(i + 1 + j) : Int).toNat * 4) 0) (xs.getD (0 + (↑(i + 1 + j) : Int).toNat * 4 + 1) 0) (xs.getD (0 + (↑(i + 1 + j) : Int).toNat * 4 + 1 + 1) 0) (xs.getD (0 + (↑(i + 1 + j) : Int).toNat * 4 + 1 + 1 + 1) 0)) (xp2 (xs.getD (0 + (↑i : Int).toNat * 4) 0) (xs.getD (0 + (↑i : Int).toNat * 4 + 1) 0) (xs.getD (0 + (↑i : Int).toNat * 4 + 1 + 1) 0) (xs.getD (0 + (↑i : Int).toNat * 4 + 1 + 1 + 1) 0) (xs.getD (0 + (↑(i + 1 + j) : Int).toNat * 4) 0) (xs.getD (0 + (↑(i + 1 + j) : Int).toNat * 4 + 1) 0) (xs.getD (0 + (↑(i + 1 + j) : Int).toNat * 4 + 1 + 1) 0) (xs.getD (0 + (↑(i + 1 + j) : Int).toNat * 4 + 1 + 1 + 1) 0)) (xp3 (xs.getD (0 + (↑i : Int).toNat * 4) 0) (xs.getD (0 + (↑i : Int).toNat * 4 + 1) 0) (xs.getD (0 + (↑i : Int).toNat * 4 + 1 + 1) 0) (xs.getD (0 + (↑i : Int).toNat * 4 + 1 + 1 + 1) 0) (xs.getD (0 + (↑(i + 1 + j) : Int).toNat * 4) 0) (xs.getD (0 + (↑(i + 1 + j) : Int).toNat * 4 + 1) 0) (xs.getD (0 + (↑(i + 1 + j) : Int).toNat * 4 + 1 + 1) 0) (xs.getD (0 + (↑(i + 1 + j) : Int).toNat * 4 + 1 + 1 + 1) 0)) (xp4 (xs.getD (0 + (↑i : Int).toNat * 4) 0) (xs.getD (0 + (↑i : Int).toNat * 4 + 1) 0) (xs.getD (0 + (↑i : Int).toNat * 4 + 1 + 1) 0) (xs.getD (0 + (↑i : Int).toNat * 4 + 1 + 1 + 1) 0) (xs.getD (0 + (↑(i + 1 + j) : Int).toNat * 4) 0) (xs.getD (0 + (↑(i + 1 + j) : Int).toNat * 4 + 1) 0) (xs.getD (0 + (↑(i + 1 + j) : Int).toNat * 4 + 1 + 1) 0) (xs.getD (0 + (↑(i + 1 + j) : Int).toNat * 4 + 1 + 1 + 1) 0)) (cmL xs n (offR n 0 i + j)).length (fl4 (cmL xs n (offR n 0 i + j)))).length) :: .int .i64 ((↑i : Int)) :: .int .i64 (IntKind.i64.wrap ((↑(i + 1 + j) : Int) + 1)) :: topV :: topV :: topV :: topV :: topV :: topV :: topV :: topV :: topV :: topV :: topV :: topV :: topV :: topV :: topV :: topV :: topV :: topV :: topV :: topV :: topV :: topV :: topV :: topV :: topV :: topV :: topV :: topV :: topV :: topV :: topV :: topV :: topV :: topV :: topV :: topV :: topV :: topV :: topV :: topV :: []), [some ⟨.view, .ints (xs)⟩, some deadB, some deadB, some deadB, none, none, some ⟨.row 52 4, .ints (fl4 (inZ (xp1 (xs.getD (0 + (↑i : Int).toNat * 4) 0) (xs.getD (0 + (↑i : Int).toNat * 4 + 1) 0) (xs.getD (0 + (↑i : Int).toNat * 4 + 1 + 1) 0) (xs.getD (0 + (↑i : Int).toNat * 4 + 1 + 1 + 1) 0) (xs.getD (0 + (↑(i + 1 + j) : Int).toNat * 4) 0) (xs.getD (0 + (↑(i + 1 + j) : Int).toNat * 4 + 1) 0) (xs.getD (0 + (↑(i + 1 + j) : Int).toNat * 4 + 1 + 1) 0) (xs.getD (0 + (↑(i + 1 + j) : Int).toNat * 4 + 1 + 1 + 1) 0)) (xp2 (xs.getD (0 + (↑i : Int).toNat * 4) 0) (xs.getD (0 + (↑i : Int).toNat * 4 + 1) 0) (xs.getD (0 + (↑i : Int).toNat * 4 + 1 + 1) 0) (xs.getD (0 + (↑i : Int).toNat * 4 + 1 + 1 + 1) 0) (xs.getD (0 + (↑(i + 1 + j) : Int).toNat * 4) 0) (xs.getD (0 + (↑(i + 1 + j) : Int).toNat * 4 + 1) 0) (xs.getD (0 + (↑(i + 1 + j) : Int).toNat * 4 + 1 + 1) 0) (xs.getD (0 + (↑(i + 1 + j) : Int).toNat * 4 + 1 + 1 + 1) 0)) (xp3 (xs.getD (0 + (↑i : Int).toNat * 4) 0) (xs.getD (0 + (↑i : Int).toNat * 4 + 1) 0) (xs.getD (0 + (↑i : Int).toNat * 4 + 1 + 1) 0) (xs.getD (0 + (↑i : Int).toNat * 4 + 1 + 1 + 1) 0) (xs.getD (0 + (↑(i + 1 + j) : Int).toNat * 4) 0) (xs.getD (0 + (↑(i + 1 + j) : Int).toNat * 4 + 1) 0) (xs.getD (0 + (↑(i + 1 + j) : Int).toNat * 4 + 1 + 1) 0) (xs.getD (0 + (↑(i + 1 + j) : Int).toNat * 4 + 1 + 1 + 1) 0)) (xp4 (xs.getD (0 + (↑i : Int).toNat * 4) 0) (xs.getD (0 + (↑i : Int).toNat * 4 + 1) 0) (xs.getD (0 + (↑i : Int).toNat * 4 + 1 + 1) 0) (xs.getD (0 + (↑i : Int).toNat * 4 + 1 + 1 + 1) 0) (xs.getD (0 + (↑(i + 1 + j) : Int).toNat * 4) 0) (xs.getD (0 + (↑(i + 1 + j) : Int).toNat * 4 + 1) 0) (xs.getD (0 + (↑(i + 1 + j) : Int).toNat * 4 + 1 + 1) 0) (xs.getD (0 + (↑(i + 1 + j) : Int).toNat * 4 + 1 + 1 + 1) 0)) (cmL xs n (offR n 0 i + j)).length (fl4 (cmL xs n (offR n 0 i + j)))))⟩]⟩)))))))))))))) (.leaf .normal ⟨(.slice (some ⟨0, 0, none⟩) (n) (n) :: topV :: topV :: .slice (some ⟨3, 0, none⟩) ((cmL xs n (offR n 0 i + j)).length) ((cmL xs n (offR n 0 i + j)).length) :: .int .i64 ((↑i : Int)) :: .int .i64 (IntKind.i64.wrap ((↑(i + 1 + j) : Int) + 1)) :: topV :: topV :: topV :: topV :: topV :: topV :: topV :: topV :: topV :: topV :: topV :: topV :: topV :: topV :: topV :: topV :: topV :: topV :: topV :: topV :: topV :: topV :: topV :: topV :: topV :: topV :: topV :: topV :: topV :: topV :: topV :: topV :: topV :: topV :: topV :: topV :: topV :: topV :: topV :: topV :: []), [some ⟨.view, .ints (xs)⟩, some deadB, some deadB, some ⟨.row 52 4, .ints (fl4 (cmL xs n (offR n 0 i + j)))⟩, none]⟩)))))))))) (.leaf (.exit 2) ⟨(.slice (some ⟨0, 0, none⟩) (n) (n) :: topV :: topV :: .slice (some ⟨3, 0, none⟩) ((cmL xs n (offR n 0 i + j)).length) ((cmL xs n (offR n 0 i + j)).length) :: .int .i64 ((↑i : Int)) :: topV :: topV :: topV :: topV :: topV :: topV :: topV :: topV :: topV :: topV :: topV :: topV :: topV :: topV :: topV :: topV :: topV :: topV :: topV :: topV :: topV :: topV :: topV :: topV :: topV :: topV :: topV :: topV :: topV :: topV :: topV :: topV :: topV :: topV :: topV :: topV :: topV :: topV :: topV :: topV :: topV :: []), [some ⟨.view, .ints (xs)⟩, some deadB, some deadB, some ⟨.row 52 4, .ints (fl4 (cmL xs n (offR n 0 i + j)))⟩]⟩) := by kernel_rfl
set_option maxRecDepth 100000 in
theorem nl_ciI : loopsOf c_ciI = [] := by kernel_rfl
def inv_ciI (xs : List Int) (n i : Nat) : Nat → Prop := fun j => i + 1 + j ≤ n
def me_ciI (xs : List Int) (n i : Nat) : Nat → Nat := fun j => n - (i + 1 + j)
/-- A round of this loop. -/
def Round_ciI (xs : List Int) (n i : Nat) : Prop := ∀ xx : Nat, inv_ciI xs n i xx → (bodyL Try.prog ECm 30 12 noL 2 c_ciI k_ciI 16 (s_ciI xs n i xx)).ok (RoundEnd 3 (s_ciI xs n i) (inv_ciI xs n i) (me_ciI xs n i) re_ciI (rs_ciI xs n i) xx) (fun _ _ => False)
def e_ciI (s : St) (k : Ex → St → Tree) : Option Tree := match Nat.beq s.tmps.length 46, pickL s.tmps [0, 3, 4, 5], s.mem with
  | true, [.slice (some ⟨0, 0, none⟩) n _, .slice (some ⟨2, 0, none⟩) m _, .int .i64 ii, .int .i64 kk], [some ⟨.view, .ints xs⟩, some ⟨.dead, .vals []⟩, some ⟨.row 52 4, .ints ys⟩] => some (needs [0 ≤ ii, kk = ii + 1, xs.length = n * 4, n ≤ 12, vsB n xs = true, ii < n, ys = fl4 (cmL xs n (offR n 0 ii.toNat)), m = (cmL xs n (offR n 0 ii.toNat)).length] (k (.exit 2) ⟨(.slice (some ⟨0, 0, none⟩) n n :: topV :: topV :: .slice (some ⟨3, 0, none⟩) (cmL xs n (offR n 0 (ii.toNat + 1))).length (cmL xs n (offR n 0 (ii.toNat + 1))).length :: .int .i64 ii :: topV :: topV :: topV :: topV :: topV :: topV :: topV :: topV :: topV :: topV :: topV :: topV :: topV :: topV :: topV :: topV :: topV :: topV :: topV :: topV :: topV :: topV :: topV :: topV :: topV :: topV :: topV :: topV :: topV :: topV :: topV :: topV :: topV :: topV :: topV :: topV :: topV :: topV :: topV :: topV :: topV :: []), [some ⟨.view, .ints xs⟩, some ⟨.dead, .vals []⟩, some ⟨.dead, .vals []⟩, some ⟨.row 52 4, .ints (fl4 (cmL xs n (offR n 0 (ii.toNat + 1))))⟩]⟩))
  | _, _, _ => none
theorem inZ_is (x y u v : Int) (ps : List Q4) : inZ x y u v ps.length (fl4 ps) = inQ (x, y, u, v) ps := by
  unfold inZ
  rw [q4A_fl4]
set_option maxRecDepth 100000 in
set_option maxHeartbeats 2000000 in
theorem round_ciI (xs : List Int) (n i : Nat) (hx : xs.length = n * 4) (h : n ≤ 12) (hv : vsB n xs = true) (hi : i < n) : Round_ciI xs n i := by
  intro j h1
  have h1 : i + 1 + j ≤ n := h1
  rw [tr_ciI]
  have hl := cmL_len xs n (offR n 0 i + j)
  have hb := offR_le n n 0
  have hm := offR_mono n (show i ≤ n by omega)
  have hnn : n * n ≤ 12 * 12 := Nat.mul_le_mul h h
  have fl := fl4_length (cmL xs n (offR n 0 i + j))
  simp only [Int.toNat_natCast, Nat.zero_add, fl4B, List.drop_zero, inZ_is]
  refine brT_ok.2 ⟨fun hlt => ?_, fun hge => ?_⟩
  · have hlt : i + 1 + j < n := by have := of_decide_eq_true hlt; omega
    have ep : prA n (offR n 0 i + j) = (i, i + 1 + j) := by
      have := prA_at (n := n) (a := i) (b := i + 1 + j) (by omega) hlt
      rwa [show i + 1 + j - i - 1 = j by omega] at this
    have ol : offR n 0 i + j < offR n 0 n := by
      have := off_lt (n := n) (a := i) (b := i + 1 + j) (by omega) hlt
      rwa [show i + 1 + j - i - 1 = j by omega] at this
    have eq : cpQ xs n (offR n 0 i + j) = (relA (xs.getD (i * 4) 0) (xs.getD (i * 4 + 1) 0) (xs.getD (i * 4 + 2) 0) (xs.getD (i * 4 + 3) 0) (xs.getD ((i + 1 + j) * 4) 0) (xs.getD ((i + 1 + j) * 4 + 1) 0) (xs.getD ((i + 1 + j) * 4 + 2) 0) (xs.getD ((i + 1 + j) * 4 + 3) 0) == 2) := by
      unfold cpQ
      rw [ep, rl4_A hv hi hlt]
    have ok := cmL_ok hv (offR n 0 i + j) (by omega)
    obtain ⟨p1, p2⟩ := slQ_pt (vs_seg hv hi)
    obtain ⟨p3, p4⟩ := slQ_pt (vs_seg hv hlt)
    rw [wsucc (n := n) hlt (by omega)]
    refine ⟨p1, p2, p3, p4, ⟨by omega, by omega⟩, by omega, ⟨by omega, by omega⟩, by omega, brT_ok.2 ⟨fun c => ?_, fun c => ?_⟩⟩
    · have c : cpQ xs n (offR n 0 i + j) = true := eq.trans c
      have cr := c
      unfold cpQ at cr
      rw [ep] at cr
      obtain ⟨_, _, _, _, p5⟩ := cp_yes hv hi hlt (beq_iff_eq.1 cr)
      have e : cmL xs n (offR n 0 i + (j + 1)) = inQ (xpAt xs i (i + 1 + j)) (cmL xs n (offR n 0 i + j)) := by
        show cmL xs n (offR n 0 i + j + 1) = _
        simp only [cmL, c, cond_true, ep]
      have oa : okQ (xpAt xs i (i + 1 + j)) = true := xpAt_ok hv hi hlt (beq_iff_eq.1 cr)
      refine ⟨p1, p2, p3, p4, p5, ⟨by omega, by omega⟩, by omega, ⟨by omega, by omega⟩, by omega, fl, by omega, by unfold allV4; rw [q4A_fl4]; exact ok, oa, j + 1, [some 6], ?_, ?_, rfl, rfl, ?_⟩
      · show i + 1 + (j + 1) ≤ n; omega
      · show n - (i + 1 + (j + 1)) < n - (i + 1 + j); omega
      · unfold s_ciI
        rw [e]
        repeat' (first | exact True.intro | exact rfl | exact fun _ => rfl | (simp; done) | refine And.intro ?_ ?_)
    · have e : cmL xs n (offR n 0 i + (j + 1)) = cmL xs n (offR n 0 i + j) := by
        show cmL xs n (offR n 0 i + j + 1) = _
        have c : cpQ xs n (offR n 0 i + j) = false := eq.trans c
        simp only [cmL, c, cond_false]
      refine ⟨j + 1, [some 3], ?_, ?_, rfl, rfl, ?_⟩
      · show i + 1 + (j + 1) ≤ n; omega
      · show n - (i + 1 + (j + 1)) < n - (i + 1 + j); omega
      · unfold s_ciI
        rw [e]
        repeat' (first | exact True.intro | exact rfl | exact fun _ => rfl | (simp; done) | refine And.intro ?_ ?_)
  · have hge := of_decide_eq_false hge
    have e : offR n 0 (i + 1) = offR n 0 i + j := by
      rw [offR_succ]
      omega
    refine ⟨rfl, [some 3], ?_⟩
    unfold rs_ciI
    rw [e]
    repeat' (first | exact True.intro | exact rfl | exact fun _ => rfl | (simp; done) | refine And.intro ?_ ?_)
set_option maxRecDepth 100000 in
theorem lg_ciI : LoopE Try.prog e_ciI c_ciI := by
  intro s k t F H hlt ht
  unfold e_ciI at hlt
  split at hlt
  rotate_left
  · cases hlt
  rename_i hlen hpick hmem
  obtain ⟨tmps, mem⟩ := s
  simp only at hlen hpick hmem
  subst hmem
  obtain rfl := Option.some.inj hlt
  obtain ⟨⟨h0, h1, h2, h3, h4, h5, h6, h7, _⟩, ht2⟩ := needs_ok ht
  clear ht hlt
  subst h6 h7
  obtain ⟨i, rfl⟩ := Int.eq_ofNat_of_zero_le h0
  simp only [Int.toNat_natCast] at ht2
  obtain rfl := h1
  refine ⟨_, _, ht2, loop_run2 mixed ECm_ok (s_ciI _ _ i) (inv_ciI _ _ i) (me_ciI _ _ i) re_ciI (rs_ciI _ _ i) k_ciI (fun _ => rfl) (noLoops nl_ciI) (round_ciI _ _ i h2 h3 h4 (by omega)) (x := 0) (by show i + 1 + 0 ≤ _; omega) (π := [some 2]) rfl ?_⟩
  refine ⟨rfl, rfl, ?_, wvs_spread' [0, 3, 4, 5] hlen rfl ?_⟩
  · repeat' (first | exact True.intro | exact rfl | exact wv_top _ _ | exact fun _ => rfl | assumption | exact Eq.symm (by assumption) | exact vI0 rfl | refine And.intro ?_ ?_)
  · rw [hpick]
    repeat' (first | exact True.intro | exact rfl | exact wv_top _ _ | exact fun _ => rfl | assumption | exact Eq.symm (by assumption) | exact vI0 rfl | refine And.intro ?_ ?_)
def ltCi : LT := fun j s k => match j with
  | 1 => e_ciI s k
  | _ => none
noncomputable def c_ciO : Code := ((loopsOf (codeOf Try.f31))[0]?).getD .skip
def k_ciO : Ex → List Nat := keeps [0, 3, 4] [(0, [3])] [2]
def s_ciO (xs : List Int) (n : Nat) : Nat → St := fun i => ⟨(.slice (some ⟨0, 0, none⟩) n n :: topV :: topV :: .slice (some ⟨2, 0, none⟩) (cmL xs n (offR n 0 i)).length (cmL xs n (offR n 0 i)).length :: .int .i64 i :: topV :: topV :: topV :: topV :: topV :: topV :: topV :: topV :: topV :: topV :: topV :: topV :: topV :: topV :: topV :: topV :: topV :: topV :: topV :: topV :: topV :: topV :: topV :: topV :: topV :: topV :: topV :: topV :: topV :: topV :: topV :: topV :: topV :: topV :: topV :: topV :: topV :: topV :: topV :: topV :: topV :: []), [some ⟨.view, .ints xs⟩, some ⟨.dead, .vals []⟩, some ⟨.row 52 4, .ints (fl4 (cmL xs n (offR n 0 i)))⟩]⟩
def re_ciO : Nat → Ex := fun _ => .exit 0
def rs_ciO (xs : List Int) (n : Nat) : Nat → St := fun i => ⟨(topV :: topV :: topV :: .slice (some ⟨2, 0, none⟩) (cmL xs n (offR n 0 n)).length (cmL xs n (offR n 0 n)).length :: topV :: topV :: topV :: topV :: topV :: topV :: topV :: topV :: topV :: topV :: topV :: topV :: topV :: topV :: topV :: topV :: topV :: topV :: topV :: topV :: topV :: topV :: topV :: topV :: topV :: topV :: topV :: topV :: topV :: topV :: topV :: topV :: topV :: topV :: topV :: topV :: topV :: topV :: topV :: topV :: topV :: topV :: []), [some ⟨.view, .ints xs⟩, some ⟨.dead, .vals []⟩, some ⟨.row 52 4, .ints (fl4 (cmL xs n (offR n 0 n)))⟩]⟩
set_option maxRecDepth 100000 in
theorem tr_ciO (xs : List Int) (n : Nat) (i : Nat) : bodyL Try.prog ECm 30 12 ltCi 1 c_ciO k_ciO 16 (s_ciO xs n i) = brT (decide ((↑i : Int) < (↑n : Int))) (.need ((0 : Int) ≤ (↑i : Int)) (.need (IntKind.i64.wrap ((↑i : Int) + (1 : Int)) = (↑i : Int) + (1 : Int)) (.need (xs.length = n * (4 : Nat)) (.need (n ≤ (12 : Nat)) (.need (vsB n xs = true) (.need ((↑i : Int) < (↑n : Int)) (.need (fl4 (cmL xs n (offR n (0 : Nat) i)) = fl4 (cmL xs n (offR n (0 : Nat) (↑i : Int).toNat))) (.need ((cmL xs n (offR n (0 : Nat) i)).length = (cmL xs n (offR n (0 : Nat) (↑i : Int).toNat)).length) (.leaf .normal ⟨(.slice (some ⟨0, 0, none⟩) (n) (n) :: topV :: topV :: .slice (some ⟨3, 0, none⟩) ((cmL xs n (offR n 0 ((↑i : Int).toNat + 1))).length) ((cmL xs n (offR n 0 ((↑i : Int).toNat + 1))).length) :: .int .i64 (IntKind.i64.wrap ((↑i : Int) + 1)) :: topV :: topV :: topV :: topV :: topV :: topV :: topV :: topV :: topV :: topV :: topV :: topV :: topV :: topV :: topV :: topV :: topV :: topV :: topV :: topV :: topV :: topV :: topV :: topV :: topV :: topV :: topV :: topV :: topV :: topV :: topV :: topV :: topV :: topV :: topV :: topV :: topV :: topV :: topV :: topV :: topV :: []), [some ⟨.view, .ints (xs)⟩, some deadB, some deadB, some ⟨.row 52 4, .ints (fl4 (cmL xs n (offR n 0 ((↑i : Int).toNat + 1))))⟩]⟩))))))))) (.leaf (.exit 0) ⟨(topV :: topV :: topV :: .slice (some ⟨2, 0, none⟩) ((cmL xs n (offR n 0 i)).length) ((cmL xs n (offR n 0 i)).length) :: topV :: topV :: topV :: topV :: topV :: topV :: topV :: topV :: topV :: topV :: topV :: topV :: topV :: topV :: topV :: topV :: topV :: topV :: topV :: topV :: topV :: topV :: topV :: topV :: topV :: topV :: topV :: topV :: topV :: topV :: topV :: topV :: topV :: topV :: topV :: topV :: topV :: topV :: topV :: topV :: topV :: topV :: []), [some ⟨.view, .ints (xs)⟩, some deadB, some ⟨.row 52 4, .ints (fl4 (cmL xs n (offR n 0 i)))⟩]⟩) := by kernel_rfl
def inv_ciO (xs : List Int) (n : Nat) : Nat → Prop := fun i => i ≤ n
def me_ciO (xs : List Int) (n : Nat) : Nat → Nat := fun i => n - i
/-- A round of this loop. -/
def Round_ciO (xs : List Int) (n : Nat) : Prop := ∀ xx : Nat, inv_ciO xs n xx → (bodyL Try.prog ECm 30 12 ltCi 1 c_ciO k_ciO 16 (s_ciO xs n xx)).ok (RoundEnd 2 (s_ciO xs n) (inv_ciO xs n) (me_ciO xs n) re_ciO (rs_ciO xs n) xx) (fun _ _ => False)
def e_ciO (s : St) (k : Ex → St → Tree) : Option Tree := match Nat.beq s.tmps.length 46, pickL s.tmps [0, 3, 4], s.mem with
  | true, [.slice (some ⟨0, 0, none⟩) n _, .slice (some ⟨1, 0, none⟩) z _, .int .i64 ii], [some ⟨.view, .ints xs⟩, some ⟨.row 52 4, .vals []⟩] => some (needs [ii = 0, z = 0, xs.length = n * 4, n ≤ 12, vsB n xs = true] (k (.exit 0) ⟨(topV :: topV :: topV :: .slice (some ⟨2, 0, none⟩) (cmL xs n (offR n 0 n)).length (cmL xs n (offR n 0 n)).length :: topV :: topV :: topV :: topV :: topV :: topV :: topV :: topV :: topV :: topV :: topV :: topV :: topV :: topV :: topV :: topV :: topV :: topV :: topV :: topV :: topV :: topV :: topV :: topV :: topV :: topV :: topV :: topV :: topV :: topV :: topV :: topV :: topV :: topV :: topV :: topV :: topV :: topV :: topV :: topV :: topV :: topV :: []), [some ⟨.view, .ints xs⟩, some ⟨.dead, .vals []⟩, some ⟨.row 52 4, .ints (fl4 (cmL xs n (offR n 0 n)))⟩]⟩))
  | _, _, _ => none
set_option maxRecDepth 100000 in
theorem in_ciO : loopsOf c_ciO = [c_ciI] := by kernel_rfl
theorem ltCi_good : LoopsGood Try.prog ltCi 1 c_ciO := by
  intro i d hd s k t F H hlt ht
  rw [in_ciO] at hd
  cases i with
  | zero =>
    obtain rfl : c_ciI = d := by simpa using hd
    exact lg_ciI s k t F H hlt ht
  | succ i => simp at hd
set_option maxRecDepth 100000 in
theorem round_ciO (xs : List Int) (n : Nat) (hx : xs.length = n * 4) (h : n ≤ 12) (hv : vsB n xs = true) : Round_ciO xs n := by
  intro i h1
  have h1 : i ≤ n := h1
  rw [tr_ciO]
  refine brT_ok.2 ⟨fun hlt => ?_, fun hge => ?_⟩
  · have hlt : i < n := by have := of_decide_eq_true hlt; omega
    have w : IntKind.i64.wrap ((i : Int) + 1) = ((i + 1 : Nat) : Int) := wsucc (n := n) hlt (by omega)
    rw [w]
    refine ⟨by omega, by omega, hx, h, hv, by omega, rfl, rfl, i + 1, [some 3], ?_, ?_, rfl, rfl, ?_⟩
    · show i + 1 ≤ n; omega
    · show n - (i + 1) < n - i; omega
    · unfold s_ciO
      repeat' (first | exact True.intro | exact rfl | exact fun _ => rfl | (simp; done) | refine And.intro ?_ ?_)
  · have hge := of_decide_eq_false hge
    obtain rfl : i = n := by omega
    refine ⟨rfl, [some 2], ?_⟩
    unfold rs_ciO
    repeat' (first | exact True.intro | exact rfl | exact fun _ => rfl | (simp; done) | refine And.intro ?_ ?_)
set_option maxRecDepth 100000 in
theorem lg_ciO : LoopE Try.prog e_ciO c_ciO := by
  intro s k t F H hlt ht
  unfold e_ciO at hlt
  split at hlt
  rotate_left
  · cases hlt
  rename_i hlen hpick hmem
  obtain ⟨tmps, mem⟩ := s
  simp only at hlen hpick hmem
  subst hmem
  obtain rfl := Option.some.inj hlt
  obtain ⟨⟨rfl, rfl, h2, h3, h4, _⟩, ht2⟩ := needs_ok ht
  clear ht hlt
  refine ⟨_, _, ht2, loop_run2 mixed ECm_ok (s_ciO _ _) (inv_ciO _ _) (me_ciO _ _) re_ciO (rs_ciO _ _) k_ciO (fun _ => rfl) ltCi_good (round_ciO _ _ h2 h3 h4) (x := 0) (Nat.zero_le _) (π := [some 1]) rfl ?_⟩
  refine ⟨rfl, rfl, ?_, wvs_spread' [0, 3, 4] hlen rfl ?_⟩
  · repeat' (first | exact True.intro | exact rfl | exact wv_top _ _ | exact fun _ => rfl | assumption | exact Eq.symm (by assumption) | exact vI0 rfl | refine And.intro ?_ ?_)
  · rw [hpick]
    repeat' (first | exact True.intro | exact rfl | exact wv_top _ _ | exact fun _ => rfl | assumption | exact Eq.symm (by assumption) | exact vI0 rfl | refine And.intro ?_ ?_)
end Go.Proofs.Ytolodncpegajkaa
namespace Go.Proofs.Ytolodncpegajkaa
set_option linter.all false
open Go.RowKit
noncomputable def c_markRp : Code := ((loopsOf (codeOf Try.f33))[0]?).getD .skip
def k_markRp : Ex → List Nat := keeps [0, 1, 5] [(0, [1])] [4]
def s_markRp (n : Nat) (k0 : Int) : Nat × (List Int) → St := fun (i, ys) => ⟨(.slice (some ⟨0, 0, none⟩) n n :: .int .i64 (k0 + (i * 4 : Nat)) :: topV :: topV :: topV :: .int .i64 i :: topV :: topV :: topV :: topV :: topV :: topV :: topV :: topV :: topV :: topV :: topV :: topV :: topV :: topV :: topV :: topV :: topV :: topV :: topV :: topV :: topV :: topV :: topV :: topV :: topV :: topV :: topV :: topV :: topV :: topV :: topV :: topV :: topV :: topV :: topV :: topV :: topV :: topV :: topV :: []), [some ⟨.row 52 4, .ints ys⟩]⟩
def re_markRp : Nat × (List Int) → Ex := fun _ => .exit 0
def rs_markRp (n : Nat) (k0 : Int) : Nat × (List Int) → St := fun (i, ys) => ⟨(topV :: .int .i64 (k0 + (n * 4 : Nat)) :: topV :: topV :: topV :: topV :: topV :: topV :: topV :: topV :: topV :: topV :: topV :: topV :: topV :: topV :: topV :: topV :: topV :: topV :: topV :: topV :: topV :: topV :: topV :: topV :: topV :: topV :: topV :: topV :: topV :: topV :: topV :: topV :: topV :: topV :: topV :: topV :: topV :: topV :: topV :: topV :: topV :: topV :: topV :: []), [some ⟨.row 52 4, .ints (marks k0 (n * 4))⟩]⟩
set_option maxRecDepth 100000 in
theorem tr_markRp (n : Nat) (k0 : Int) (i : Nat) (ys : List Int) : bodyL Try.prog EM 30 12 noL 1 c_markRp k_markRp 1 (s_markRp n k0 (i, ys)) = brT (decide ((↑i : Int) < (↑n : Int))) (.need ((0 : Int) ≤ (↑i : Int) ∧ (↑i : Int) < (↑n : Int)) (.need ((0 : Nat) + (↑i : Int).toNat * (4 : Nat) + (0 : Nat) + (0 : Nat) + (1 : Nat) ≤ ys.length) (.need ((0 : Int) ≤ (↑i : Int) ∧ (↑i : Int) < (↑n : Int)) (.need ((0 : Nat) + (↑i : Int).toNat * (4 : Nat) + (0 : Nat) + (1 : Nat) + (1 : Nat) ≤ (setInts ys ((0 : Nat) + (↑i : Int).toNat * (4 : Nat) + (0 : Nat) + (0 : Nat)) [k0 + (↑(i * (4 : Nat)) : Int)]).length) (.need ((0 : Int) ≤ (↑i : Int) ∧ (↑i : Int) < (↑n : Int)) (.need ((0 : Nat) + (↑i : Int).toNat * (4 : Nat) + (2 : Nat) + (0 : Nat) + (1 : Nat) ≤ (setInts (setInts ys ((0 : Nat) + (↑i : Int).toNat * (4 : Nat) + (0 : Nat) + (0 : Nat)) [k0 + (↑(i * (4 : Nat)) : Int)]) ((0 : Nat) + (↑i : Int).toNat * (4 : Nat) + (0 : Nat) + (1 : Nat)) [IntKind.i64.wrap (k0 + (↑(i * (4 : Nat)) : Int) + (1 : Int))]).length) (.need ((0 : Int) ≤ (↑i : Int) ∧ (↑i : Int) < (↑n : Int)) (.need ((0 : Nat) + (↑i : Int).toNat * (4 : Nat) + (2 : Nat) + (1 : Nat) + (1 : Nat) ≤ (setInts (setInts (setInts ys ((0 : Nat) + (↑i : Int).toNat * (4 : Nat) + (0 : Nat) + (0 : Nat)) [k0 + (↑(i * (4 : Nat)) : Int)]) ((0 : Nat) + (↑i : Int).toNat * (4 : Nat) + (0 : Nat) + (1 : Nat)) [IntKind.i64.wrap (k0 + (↑(i * (4 : Nat)) : Int) + (1 : Int))]) ((0 : Nat) + (↑i : Int).toNat * (4 : Nat) + (2 : Nat) + (0 : Nat)) [IntKind.i64.wrap (IntKind.i64.wrap (k0 + (↑(i * (4 : Nat)) : Int) + (1 : Int)) + (1 : Int))]).length) (.leaf .normal ⟨(.slice (some ⟨0, 0, none⟩) (n) (n) :: .int .i64 (IntKind.i64.wrap (IntKind.i64.wrap (IntKind.i64.wrap (IntKind.i64.wrap (k0 + (↑(i * 4) : Int) + 1) + 1) + 1) + 1)) :: topV :: topV :: topV :: .int .i64 (IntKind.i64.wrap ((↑i : Int) + 1)) :: topV :: topV :: topV :: topV :: topV :: topV :: topV :: topV :: topV :: topV :: topV :: topV :: topV :: topV :: topV :: topV :: topV :: topV :: topV :: topV :: topV :: topV :: topV :: topV :: topV :: topV :: topV :: topV :: topV :: topV :: topV :: topV :: topV :: topV :: topV :: topV :: topV :: topV :: topV :: []), [some ⟨.row 52 4, .ints (setInts (setInts (setInts (setInts ys (0 + (↑i : Int).toNat * 4 + 0 + 0) [k0 + (↑(i * 4) : Int)]) (0 + (↑i : Int).toNat * 4 + 0 + 1) [IntKind.i64.wrap (k0 + (↑(i * 4) : Int) + 1)]) (0 + (↑i : Int).toNat * 4 + 2 + 0) [IntKind.i64.wrap (IntKind.i64.wrap (k0 + (↑(i * 4) : Int) + 1) + 1)]) (0 + (↑i : Int).toNat * 4 + 2 + 1) [IntKind.i64.wrap (IntKind.i64.wrap (IntKind.i64.wrap (k0 + (↑(i * 4) : Int) + 1) + 1) + 1)])⟩]⟩))))))))) (.leaf (.exit 0) ⟨(topV :: .int .i64 (k0 + (↑(i * 4) : Int)) :: topV :: topV :: topV :: topV :: topV :: topV :: topV :: topV :: topV :: topV :: topV :: topV :: topV :: topV :: topV :: topV :: topV :: topV :: topV :: topV :: topV :: topV :: topV :: topV :: topV :: topV :: topV :: topV :: topV :: topV :: topV :: topV :: topV :: topV :: topV :: topV :: topV :: topV :: topV :: topV :: topV :: topV :: topV :: []), [some ⟨.row 52 4, .ints (ys)⟩]⟩) := by kernel_rfl
set_option maxRecDepth 100000 in
theorem nl_markRp : loopsOf c_markRp = [] := by kernel_rfl
def inv_markRp (n : Nat) (k0 : Int) : Nat × (List Int) → Prop := fun (i, ys) => i ≤ n ∧ ys.length = n * 4 ∧ ys.take (i * 4) = (marks k0 (n * 4)).take (i * 4)
def me_markRp (n : Nat) (k0 : Int) : Nat × (List Int) → Nat := fun (i, ys) => n - i
/-- A round of this loop. -/
def Round_markRp (n : Nat) (k0 : Int) : Prop := ∀ xx : Nat × (List Int), inv_markRp n k0 xx → (bodyL Try.prog EM 30 12 noL 1 c_markRp k_markRp 1 (s_markRp n k0 xx)).ok (RoundEnd 1 (s_markRp n k0) (inv_markRp n k0) (me_markRp n k0) re_markRp (rs_markRp n k0) xx) (fun _ _ => False)
def e_markRp (s : St) (k : Ex → St → Tree) : Option Tree := match Nat.beq s.tmps.length 45, pickL s.tmps [0, 1, 5], s.mem with
  | true, [.slice (some ⟨0, 0, none⟩) n _, .int .i64 k1, .int .i64 i], [some ⟨.row 52 4, .ints xs⟩] => some (needs [i = 0, xs.length = n * 4, n ≤ 1000000000, 0 ≤ k1 ∧ k1 ≤ 1000000000] (k (.exit 0) ⟨(topV :: .int .i64 (k1 + (n * 4 : Nat)) :: topV :: topV :: topV :: topV :: topV :: topV :: topV :: topV :: topV :: topV :: topV :: topV :: topV :: topV :: topV :: topV :: topV :: topV :: topV :: topV :: topV :: topV :: topV :: topV :: topV :: topV :: topV :: topV :: topV :: topV :: topV :: topV :: topV :: topV :: topV :: topV :: topV :: topV :: topV :: topV :: topV :: topV :: topV :: []), [some ⟨.row 52 4, .ints (marks k1 (n * 4))⟩]⟩))
  | _, _, _ => none
set_option maxRecDepth 100000 in
theorem round_markRp (n : Nat) (k0 : Int) (h : n ≤ 1000000000) (hk : 0 ≤ k0 ∧ k0 ≤ 1000000000) : Round_markRp n k0 := by
  rintro ⟨i, ys⟩ ⟨h1, h2, h3⟩
  rw [tr_markRp]
  simp only [brT_ok, Tree.ok, decide_eq_true_eq, decide_eq_false_iff_not, Int.toNat_natCast, Nat.zero_add, Nat.add_zero]
  refine ⟨fun hlt => ?_, fun hge => ?_⟩
  · rw [wsucc (n := n) (by omega) h, setInts_one _ _ (by omega), setInts_one _ _ (by simp; omega), setInts_one _ _ (by simp; omega), setInts_one _ _ (by simp; omega)]
    have e0 : IntKind.i64.wrap (k0 + ((i * 4 : Nat) : Int) + 1) = k0 + ((i * 4 + 1 : Nat) : Int) := by rw [wr (by omega)]; omega
    have e1 : IntKind.i64.wrap (k0 + ((i * 4 + 1 : Nat) : Int) + 1) = k0 + ((i * 4 + 2 : Nat) : Int) := by rw [wr (by omega)]; omega
    have e2 : IntKind.i64.wrap (k0 + ((i * 4 + 2 : Nat) : Int) + 1) = k0 + ((i * 4 + 3 : Nat) : Int) := by rw [wr (by omega)]; omega
    have e : IntKind.i64.wrap (k0 + ((i * 4 + 3 : Nat) : Int) + 1) = k0 + (((i + 1) * 4 : Nat) : Int) := by rw [wr (by omega)]; omega
    rw [e0, e1, e2, e]
    simp only [List.length_set]
    repeat (refine And.intro (by omega) ?_)
    refine ⟨(i + 1, (((ys.set (i * 4) (k0 + ((i * 4 : Nat) : Int))).set (i * 4 + 1) (k0 + ((i * 4 + 1 : Nat) : Int))).set (i * 4 + 2) (k0 + ((i * 4 + 2 : Nat) : Int))).set (i * 4 + 3) (k0 + ((i * 4 + 3 : Nat) : Int))), [], ⟨by omega, by simp [h2], ?_⟩, ?_, rfl, rfl, ?_⟩
    · have := take_set_four (l := ys) (m := marks k0 (n * 4)) (i := i) (by omega) (by rw [marks_length]; omega) h3
      rwa [marks_get _ _ _ (by omega), marks_get _ _ _ (by omega), marks_get _ _ _ (by omega), marks_get _ _ _ (by omega)] at this
    · show n - (i + 1) < n - i; omega
    · repeat' (first | exact True.intro | exact rfl | exact fun _ => rfl | refine And.intro ?_ ?_)
  · obtain rfl : i = n := by omega
    have e : ys = marks k0 (i * 4) := by
      rw [List.take_of_length_le (by omega), List.take_of_length_le (by rw [marks_length]; omega)] at h3
      exact h3
    subst e
    refine ⟨rfl, [], ?_⟩
    repeat' (first | exact True.intro | exact rfl | exact fun _ => rfl | refine And.intro ?_ ?_)
set_option maxRecDepth 100000 in
theorem lg_markRp : LoopE Try.prog e_markRp c_markRp := by
  intro s k t F H hlt ht
  unfold e_markRp at hlt
  split at hlt
  rotate_left
  · cases hlt
  rename_i hlen hpick hmem
  obtain ⟨tmps, mem⟩ := s
  simp only at hlen hpick hmem
  subst hmem
  obtain rfl := Option.some.inj hlt
  obtain ⟨⟨rfl, h1, h2, h3, _⟩, ht2⟩ := needs_ok ht
  clear ht hlt
  refine ⟨_, _, ht2, loop_run mixed EM_ok (s_markRp _ _) (inv_markRp _ _) (me_markRp _ _) re_markRp (rs_markRp _ _) k_markRp (fun _ => rfl) (noLoops nl_markRp) (round_markRp _ _ h2 h3) (x := (0, _)) ⟨Nat.zero_le _, h1, rfl⟩ (π := []) rfl ?_⟩
  refine ⟨rfl, rfl, ?_, wvs_spread' [0, 1, 5] hlen rfl ?_⟩
  · repeat' (first | exact True.intro | exact rfl | exact wv_top _ _ | exact fun _ => rfl | assumption | exact Eq.symm (by assumption) | exact vI0 rfl | refine And.intro ?_ ?_)
  · rw [hpick]
    repeat' (first | exact True.intro | exact rfl | exact wv_top _ _ | exact fun _ => rfl | assumption | exact Eq.symm (by assumption) | exact vI0 rfl | refine And.intro ?_ ?_)
noncomputable def c_heldRp : Code := ((loopsOf (codeOf Try.f34))[0]?).getD .skip
def k_heldRp : Ex → List Nat := keeps [0, 1, 5] [(0, [1])] [4]
def s_heldRp (n : Nat) (k0 : Int) : Nat → St := fun i => ⟨(.slice (some ⟨0, 0, none⟩) n n :: .int .i64 (k0 + (i * 4 : Nat)) :: topV :: topV :: topV :: .int .i64 i :: topV :: topV :: topV :: topV :: topV :: topV :: topV :: topV :: topV :: topV :: topV :: topV :: topV :: topV :: topV :: topV :: topV :: topV :: topV :: topV :: topV :: topV :: topV :: topV :: topV :: topV :: topV :: topV :: topV :: topV :: topV :: topV :: topV :: topV :: topV :: topV :: topV :: topV :: topV :: topV :: topV :: topV :: topV :: topV :: topV :: topV :: topV :: []), [some ⟨.view, .ints (marks k0 (n * 4))⟩, none]⟩
def re_heldRp : Nat → Ex := fun _ => .exit 0
def rs_heldRp (n : Nat) (k0 : Int) : Nat → St := fun i => ⟨(topV :: .int .i64 (k0 + (n * 4 : Nat)) :: topV :: topV :: topV :: topV :: topV :: topV :: topV :: topV :: topV :: topV :: topV :: topV :: topV :: topV :: topV :: topV :: topV :: topV :: topV :: topV :: topV :: topV :: topV :: topV :: topV :: topV :: topV :: topV :: topV :: topV :: topV :: topV :: topV :: topV :: topV :: topV :: topV :: topV :: topV :: topV :: topV :: topV :: topV :: topV :: topV :: topV :: topV :: topV :: topV :: topV :: topV :: []), [some ⟨.view, .ints (marks k0 (n * 4))⟩, none]⟩
set_option maxRecDepth 100000 in
theorem tr_heldRp (n : Nat) (k0 : Int) (i : Nat) : bodyL Try.prog EM 30 12 noL 1 c_heldRp k_heldRp 2 (s_heldRp n k0 i) = brT (decide ((↑i : Int) < (↑n : Int))) (.need ((0 : Int) ≤ (↑i : Int) ∧ (↑i : Int) < (↑n : Int)) (.need ((0 : Nat) + (↑i : Int).toNat * (4 : Nat) + (0 : Nat) + (0 : Nat) < (marks k0 (n * (4 : Nat))).length) (brT (!(marks k0 (n * 4)).getD (0 + (↑i : Int).toNat * 4 + 0 + 0) 0 == k0 + (↑(i * 4) : Int)) (.leaf .ret ⟨(topV :: topV :: topV :: topV :: .int .i64 (-1) :: topV :: topV :: topV :: topV :: topV :: topV :: topV :: topV :: topV :: topV :: topV :: topV :: topV :: topV :: topV :: topV :: topV :: topV :: topV :: topV :: topV :: topV :: topV :: topV :: topV :: topV :: topV :: topV :: topV :: topV :: topV :: topV :: topV :: topV :: topV :: topV :: topV :: topV :: topV :: topV :: topV :: topV :: topV :: topV :: topV :: topV :: topV :: topV :: []), [some ⟨.view, .ints (marks k0 (n * 4))⟩, none]⟩) (.need ((0 : Int) ≤ (↑i : Int) ∧ (↑i : Int) < (↑n : Int)) (.need ((0 : Nat) + (↑i : Int).toNat * (4 : Nat) + (0 : Nat) + (1 : Nat) < (marks k0 (n * (4 : Nat))).length) (brT (!(marks k0 (n * 4)).getD (0 + (↑i : Int).toNat * 4 + 0 + 1) 0 == IntKind.i64.wrap (k0 + (↑(i * 4) : Int) + 1)) (.leaf .ret ⟨(topV :: topV :: topV :: topV :: .int .i64 (-1) :: topV :: topV :: topV :: topV :: topV :: topV :: topV :: topV :: topV :: topV :: topV :: topV :: topV :: topV :: topV :: topV :: topV :: topV :: topV :: topV :: topV :: topV :: topV :: topV :: topV :: topV :: topV :: topV :: topV :: topV :: topV :: topV :: topV :: topV :: topV :: topV :: topV :: topV :: topV :: topV :: topV :: topV :: topV :: topV :: topV :: topV :: topV :: topV :: []), [some ⟨.view, .ints (marks k0 (n * 4))⟩, none]⟩) (.need ((0 : Int) ≤ (↑i : Int) ∧ (↑i : Int) < (↑n : Int)) (.need ((0 : Nat) + (↑i : Int).toNat * (4 : Nat) + (2 : Nat) + (0 : Nat) < (marks k0 (n * (4 : Nat))).length) (brT (!(marks k0 (n * 4)).getD (0 + (↑i : Int).toNat * 4 + 2 + 0) 0 == IntKind.i64.wrap (IntKind.i64.wrap (k0 + (↑(i * 4) : Int) + 1) + 1)) (.leaf .ret ⟨(topV :: topV :: topV :: topV :: .int .i64 (-1) :: topV :: topV :: topV :: topV :: topV :: topV :: topV :: topV :: topV :: topV :: topV :: topV :: topV :: topV :: topV :: topV :: topV :: topV :: topV :: topV :: topV :: topV :: topV :: topV :: topV :: topV :: topV :: topV :: topV :: topV :: topV :: topV :: topV :: topV :: topV :: topV :: topV :: topV :: topV :: topV :: topV :: topV :: topV :: topV :: topV :: topV :: topV :: topV :: []), [some ⟨.view, .ints (marks k0 (n * 4))⟩, none]⟩) (.need ((0 : Int) ≤ (↑i : Int) ∧ (↑i : Int) < (↑n : Int)) (.need ((0 : Nat) + (↑i : Int).toNat * (4 : Nat) + (2 : Nat) + (1 : Nat) < (marks k0 (n * (4 : Nat))).length) (brT (!(marks k0 (n * 4)).getD (0 + (↑i : Int).toNat * 4 + 2 + 1) 0 == IntKind.i64.wrap (IntKind.i64.wrap (IntKind.i64.wrap (k0 + (↑(i * 4) : Int) + 1) + 1) + 1)) (.leaf .ret ⟨(topV :: topV :: topV :: topV :: .int .i64 (-1) :: topV :: topV :: topV :: topV :: topV :: topV :: topV :: topV :: topV :: topV :: topV :: topV :: topV :: topV :: topV :: topV :: topV :: topV :: topV :: topV :: topV :: topV :: topV :: topV :: topV :: topV :: topV :: topV :: topV :: topV :: topV :: topV :: topV :: topV :: topV :: topV :: topV :: topV :: topV :: topV :: topV :: topV :: topV :: topV :: topV :: topV :: topV :: topV :: []), [some ⟨.view, .ints (marks k0 (n * 4))⟩, none]⟩) (.leaf .normal ⟨(.slice (some ⟨0, 0, none⟩) (n) (n) :: .int .i64 (IntKind.i64.wrap (IntKind.i64.wrap (IntKind.i64.wrap (IntKind.i64.wrap (k0 + (↑(i * 4) : Int) + 1) + 1) + 1) + 1)) :: topV :: topV :: topV :: .int .i64 (IntKind.i64.wrap ((↑i : Int) + 1)) :: topV :: topV :: topV :: topV :: topV :: topV :: topV :: topV :: topV :: topV :: topV :: topV :: topV :: topV :: topV :: topV :: topV :: topV :: topV :: topV :: topV :: topV :: topV :: topV :: topV :: topV :: topV :: topV :: topV :: topV :: topV :: topV :: topV :: topV :: topV :: topV :: topV :: topV :: topV :: topV :: topV :: topV :: topV :: topV :: topV :: topV :: topV :: []), [some ⟨.view, .ints (marks k0 (n * 4))⟩, none]⟩))))))))))))) (.leaf (.exit 0) ⟨(topV :: .int .i64 (k0 + (↑(i * 4) : Int)) :: topV :: topV :: topV :: topV :: topV :: topV :: topV :: topV :: topV :: topV :: topV :: topV :: topV :: topV :: topV :: topV :: topV :: topV :: topV :: topV :: topV :: topV :: topV :: topV :: topV :: topV :: topV :: topV :: topV :: topV :: topV :: topV :: topV :: topV :: topV :: topV :: topV :: topV :: topV :: topV :: topV :: topV :: topV :: topV :: topV :: topV :: topV :: topV :: topV :: topV :: topV :: []), [some ⟨.view, .ints (marks k0 (n * 4))⟩, none]⟩) := by kernel_rfl
set_option maxRecDepth 100000 in
theorem nl_heldRp : loopsOf c_heldRp = [] := by kernel_rfl
def inv_heldRp (n : Nat) (k0 : Int) : Nat → Prop := fun i => i ≤ n
def me_heldRp (n : Nat) (k0 : Int) : Nat → Nat := fun i => n - i
/-- A round of this loop. -/
def Round_heldRp (n : Nat) (k0 : Int) : Prop := ∀ xx : Nat, inv_heldRp n k0 xx → (bodyL Try.prog EM 30 12 noL 1 c_heldRp k_heldRp 2 (s_heldRp n k0 xx)).ok (RoundEnd 2 (s_heldRp n k0) (inv_heldRp n k0) (me_heldRp n k0) re_heldRp (rs_heldRp n k0) xx) (fun _ _ => False)
def e_heldRp (s : St) (k : Ex → St → Tree) : Option Tree := match Nat.beq s.tmps.length 53, pickL s.tmps [0, 1, 5], s.mem with
  | true, [.slice (some ⟨0, 0, none⟩) n _, .int .i64 k1, .int .i64 i], [some ⟨.view, .ints xs⟩, none] => some (needs [i = 0, xs = marks k1 (n * 4), n ≤ 1000000000, 0 ≤ k1 ∧ k1 ≤ 1000000000] (k (.exit 0) ⟨(topV :: .int .i64 (k1 + (n * 4 : Nat)) :: topV :: topV :: topV :: topV :: topV :: topV :: topV :: topV :: topV :: topV :: topV :: topV :: topV :: topV :: topV :: topV :: topV :: topV :: topV :: topV :: topV :: topV :: topV :: topV :: topV :: topV :: topV :: topV :: topV :: topV :: topV :: topV :: topV :: topV :: topV :: topV :: topV :: topV :: topV :: topV :: topV :: topV :: topV :: topV :: topV :: topV :: topV :: topV :: topV :: topV :: topV :: []), [some ⟨.view, .ints (marks k1 (n * 4))⟩, none]⟩))
  | _, _, _ => none
set_option maxRecDepth 100000 in
theorem round_heldRp (n : Nat) (k0 : Int) (h : n ≤ 1000000000) (hk : 0 ≤ k0 ∧ k0 ≤ 1000000000) : Round_heldRp n k0 := by
  intro i h1
  have h1 : i ≤ n := h1
  rw [tr_heldRp]
  simp only [brT_ok, Tree.ok, decide_eq_true_eq, decide_eq_false_iff_not, Int.toNat_natCast, Nat.zero_add, Nat.add_zero, Bool.not_eq_true', Bool.not_eq_false', beq_iff_eq, beq_eq_false_iff_ne]
  refine ⟨fun hlt => ?_, fun hge => ?_⟩
  · rw [marks_get _ _ _ (by omega), marks_get _ _ _ (by omega), marks_get _ _ _ (by omega), marks_get _ _ _ (by omega), wsucc (n := n) (by omega) h]
    have e0 : IntKind.i64.wrap (k0 + ((i * 4 : Nat) : Int) + 1) = k0 + ((i * 4 + 1 : Nat) : Int) := by rw [wr (by omega)]; omega
    have e1 : IntKind.i64.wrap (k0 + ((i * 4 + 1 : Nat) : Int) + 1) = k0 + ((i * 4 + 2 : Nat) : Int) := by rw [wr (by omega)]; omega
    have e2 : IntKind.i64.wrap (k0 + ((i * 4 + 2 : Nat) : Int) + 1) = k0 + ((i * 4 + 3 : Nat) : Int) := by rw [wr (by omega)]; omega
    have e : IntKind.i64.wrap (k0 + ((i * 4 + 3 : Nat) : Int) + 1) = k0 + (((i + 1) * 4 : Nat) : Int) := by rw [wr (by omega)]; omega
    simp only [marks_length, e0, e1, e2, e]
    refine ⟨by omega, by omega, fun hc => absurd rfl hc, fun _ => ⟨by omega, by omega, fun hc => absurd rfl hc, fun _ => ⟨by omega, by omega, fun hc => absurd rfl hc, fun _ => ⟨by omega, by omega, fun hc => absurd rfl hc, fun _ => ⟨i + 1, [], ?_, ?_, rfl, rfl, ?_⟩⟩⟩⟩⟩
    · show i + 1 ≤ n; omega
    · show n - (i + 1) < n - i; omega
    · repeat' (first | exact True.intro | exact rfl | exact fun _ => rfl | refine And.intro ?_ ?_)
  · obtain rfl : i = n := by omega
    refine ⟨rfl, [], ?_⟩
    repeat' (first | exact True.intro | exact rfl | exact fun _ => rfl | refine And.intro ?_ ?_)
set_option maxRecDepth 100000 in
theorem lg_heldRp : LoopE Try.prog e_heldRp c_heldRp := by
  intro s k t F H hlt ht
  unfold e_heldRp at hlt
  split at hlt
  rotate_left
  · cases hlt
  rename_i hlen hpick hmem
  obtain ⟨tmps, mem⟩ := s
  simp only at hlen hpick hmem
  subst hmem
  obtain rfl := Option.some.inj hlt
  obtain ⟨⟨rfl, rfl, h2, h3, _⟩, ht2⟩ := needs_ok ht
  clear ht hlt
  refine ⟨_, _, ht2, loop_run mixed EM_ok (s_heldRp _ _) (inv_heldRp _ _) (me_heldRp _ _) re_heldRp (rs_heldRp _ _) k_heldRp (fun _ => rfl) (noLoops nl_heldRp) (round_heldRp _ _ h2 h3) (x := 0) (Nat.zero_le _) (π := []) rfl ?_⟩
  refine ⟨rfl, rfl, ?_, wvs_spread' [0, 1, 5] hlen rfl ?_⟩
  · repeat' (first | exact True.intro | exact rfl | exact wv_top _ _ | exact fun _ => rfl | assumption | exact Eq.symm (by assumption) | exact vI0 rfl | refine And.intro ?_ ?_)
  · rw [hpick]
    repeat' (first | exact True.intro | exact rfl | exact wv_top _ _ | exact fun _ => rfl | assumption | exact Eq.symm (by assumption) | exact vI0 rfl | refine And.intro ?_ ?_)
noncomputable def c_eqRp : Code := ((loopsOf (codeOf Try.f32))[0]?).getD .skip
def k_eqRp : Ex → List Nat := keeps [0, 1, 5] [(0, [])] [4]
def s_eqRp (n : Nat) (xs : List Int) : Nat → St := fun i => ⟨[.slice (some ⟨0, 0, none⟩) n n, .slice (some ⟨1, 0, none⟩) n n, topV, topV, topV, .int .i64 i, topV, topV, topV, topV, topV, topV, topV, topV, topV, topV, topV, topV, topV, topV, topV, topV, topV, topV, topV, topV, topV], [some ⟨.view, .ints xs⟩, some ⟨.view, .ints xs⟩]⟩
def re_eqRp : Nat → Ex := fun _ => .exit 0
def rs_eqRp (n : Nat) (xs : List Int) : Nat → St := fun i => ⟨[topV, topV, topV, topV, topV, topV, topV, topV, topV, topV, topV, topV, topV, topV, topV, topV, topV, topV, topV, topV, topV, topV, topV, topV, topV, topV, topV], [some ⟨.view, .ints xs⟩, some ⟨.view, .ints xs⟩]⟩
set_option maxRecDepth 100000 in
theorem tr_eqRp (n : Nat) (xs : List Int) (i : Nat) : bodyL Try.prog EM 30 12 noL 1 c_eqRp k_eqRp 2 (s_eqRp n xs i) = brT (decide ((↑i : Int) < (↑n : Int))) (brT (!xs.getD (0 + (↑i : Int).toNat * 4) 0 == xs.getD (0 + (↑i : Int).toNat * 4) 0) (.need ((0 : Int) ≤ (↑i : Int) ∧ (↑i : Int) < (↑n : Int)) (.need ((0 : Nat) + (↑i : Int).toNat * (4 : Nat) + (4 : Nat) ≤ xs.length) (.need ((0 : Int) ≤ (↑i : Int) ∧ (↑i : Int) < (↑n : Int)) (.need ((0 : Nat) + (↑i : Int).toNat * (4 : Nat) + (4 : Nat) ≤ xs.length) (.leaf .ret ⟨[topV, topV, topV, topV, .bool (false), topV, topV, topV, topV, topV, topV, topV, topV, topV, topV, topV, topV, topV, topV, topV, topV, topV, topV, topV, topV, topV, topV], [some ⟨.view, .ints (xs)⟩, some ⟨.view, .ints (xs)⟩]⟩))))) (brT (!xs.getD (0 + (↑i : Int).toNat * 4 + 1) 0 == xs.getD (0 + (↑i : Int).toNat * 4 + 1) 0) (.need ((0 : Int) ≤ (↑i : Int) ∧ (↑i : Int) < (↑n : Int)) (.need ((0 : Nat) + (↑i : Int).toNat * (4 : Nat) + (4 : Nat) ≤ xs.length) (.need ((0 : Int) ≤ (↑i : Int) ∧ (↑i : Int) < (↑n : Int)) (.need ((0 : Nat) + (↑i : Int).toNat * (4 : Nat) + (4 : Nat) ≤ xs.length) (.leaf .ret ⟨[topV, topV, topV, topV, .bool (false), topV, topV, topV, topV, topV, topV, topV, topV, topV, topV, topV, topV, topV, topV, topV, topV, topV, topV, topV, topV, topV, topV], [some ⟨.view, .ints (xs)⟩, some ⟨.view, .ints (xs)⟩]⟩))))) (brT (!xs.getD (0 + (↑i : Int).toNat * 4 + 1 + 1) 0 == xs.getD (0 + (↑i : Int).toNat * 4 + 1 + 1) 0) (.need ((0 : Int) ≤ (↑i : Int) ∧ (↑i : Int) < (↑n : Int)) (.need ((0 : Nat) + (↑i : Int).toNat * (4 : Nat) + (4 : Nat) ≤ xs.length) (.need ((0 : Int) ≤ (↑i : Int) ∧ (↑i : Int) < (↑n : Int)) (.need ((0 : Nat) + (↑i : Int).toNat * (4 : Nat) + (4 : Nat) ≤ xs.length) (.leaf .ret ⟨[topV, topV, topV, topV, .bool (false), topV, topV, topV, topV, topV, topV, topV, topV, topV, topV, topV, topV, topV, topV, topV, topV, topV, topV, topV, topV, topV, topV], [some ⟨.view, .ints (xs)⟩, some ⟨.view, .ints (xs)⟩]⟩))))) (brT (!xs.getD (0 + (↑i : Int).toNat * 4 + 1 + 1 + 1) 0 == xs.getD (0 + (↑i : Int).toNat * 4 + 1 + 1 + 1) 0) (.need ((0 : Int) ≤ (↑i : Int) ∧ (↑i : Int) < (↑n : Int)) (.need ((0 : Nat) + (↑i : Int).toNat * (4 : Nat) + (4 : Nat) ≤ xs.length) (.need ((0 : Int) ≤ (↑i : Int) ∧ (↑i : Int) < (↑n : Int)) (.need ((0 : Nat) + (↑i : Int).toNat * (4 : Nat) + (4 : Nat) ≤ xs.length) (.leaf .ret ⟨[topV, topV, topV, topV, .bool (false), topV, topV, topV, topV, topV, topV, topV, topV, topV, topV, topV, topV, topV, topV, topV, topV, topV, topV, topV, topV, topV, topV], [some ⟨.view, .ints (xs)⟩, some ⟨.view, .ints (xs)⟩]⟩))))) (.need ((0 : Int) ≤ (↑i : Int) ∧ (↑i : Int) < (↑n : Int)) (.need ((0 : Nat) + (↑i : Int).toNat * (4 : Nat) + (4 : Nat) ≤ xs.length) (.need ((0 : Int) ≤ (↑i : Int) ∧ (↑i : Int) < (↑n : Int)) (.need ((0 : Nat) + (↑i : Int).toNat * (4 : Nat) + (4 : Nat) ≤ xs.length) (.leaf .normal ⟨[.slice (some ⟨0, 0, none⟩) (n) (n), .slice (some ⟨1, 0, none⟩) (n) (n), topV, topV, topV, .int .i64 (IntKind.i64.wrap ((↑i : Int) + 1)), topV, topV, topV, topV, topV, topV, topV, topV, topV, topV, topV, topV, topV, topV, topV, topV, topV, topV, topV, topV, topV], [some ⟨.view, .ints (xs)⟩, some ⟨.view, .ints (xs)⟩]⟩))))))))) (.leaf (.exit 0) ⟨[topV, topV, topV, topV, topV, topV, topV, topV, topV, topV, topV, topV, topV, topV, topV, topV, topV, topV, topV, topV, topV, topV, topV, topV, topV, topV, topV], [some ⟨.view, .ints (xs)⟩, some ⟨.view, .ints (xs)⟩]⟩) := by kernel_rfl
set_option maxRecDepth 100000 in
theorem nl_eqRp : loopsOf c_eqRp = [] := by kernel_rfl
def inv_eqRp (n : Nat) (xs : List Int) : Nat → Prop := fun i => i ≤ n
def me_eqRp (n : Nat) (xs : List Int) : Nat → Nat := fun i => n - i
/-- A round of this loop. -/
def Round_eqRp (n : Nat) (xs : List Int) : Prop := ∀ xx : Nat, inv_eqRp n xs xx → (bodyL Try.prog EM 30 12 noL 1 c_eqRp k_eqRp 2 (s_eqRp n xs xx)).ok (RoundEnd 2 (s_eqRp n xs) (inv_eqRp n xs) (me_eqRp n xs) re_eqRp (rs_eqRp n xs) xx) (fun _ _ => False)
def e_eqRp (s : St) (k : Ex → St → Tree) : Option Tree := match Nat.beq s.tmps.length 27, pickL s.tmps [0, 1, 5], s.mem with
  | true, [.slice (some ⟨0, 0, none⟩) n _, .slice (some ⟨1, 0, none⟩) m _, .int .i64 i], [some ⟨.view, .ints xs⟩, some ⟨.view, .ints ys⟩] => some (needs [i = 0, m = n, ys = xs, xs.length = n * 4, n ≤ 1000000000] (k (.exit 0) ⟨[topV, topV, topV, topV, topV, topV, topV, topV, topV, topV, topV, topV, topV, topV, topV, topV, topV, topV, topV, topV, topV, topV, topV, topV, topV, topV, topV], [some ⟨.view, .ints xs⟩, some ⟨.view, .ints xs⟩]⟩))
  | _, _, _ => none
set_option maxRecDepth 100000 in
theorem round_eqRp (n : Nat) (xs : List Int) (hx : xs.length = n * 4) (h : n ≤ 1000000000) : Round_eqRp n xs := by
  intro i h1
  have h1 : i ≤ n := h1
  rw [tr_eqRp]
  simp only [beq_self_eq_true, Bool.not_true, brT_f, brT_ok, Tree.ok, decide_eq_true_eq, decide_eq_false_iff_not, Int.toNat_natCast, Nat.zero_add, Nat.add_zero]
  refine ⟨fun hlt => ?_, fun hge => ?_⟩
  · rw [wsucc (n := n) (by omega) h]
    refine ⟨by omega, by omega, by omega, by omega, i + 1, [], ?_, ?_, rfl, rfl, ?_⟩
    · show i + 1 ≤ n; omega
    · show n - (i + 1) < n - i; omega
    · repeat' (first | exact True.intro | exact rfl | exact fun _ => rfl | refine And.intro ?_ ?_)
  · refine ⟨rfl, [], ?_⟩
    repeat' (first | exact True.intro | exact rfl | exact fun _ => rfl | refine And.intro ?_ ?_)
set_option maxRecDepth 100000 in
theorem lg_eqRp : LoopE Try.prog e_eqRp c_eqRp := by
  intro s k t F H hlt ht
  unfold e_eqRp at hlt
  split at hlt
  rotate_left
  · cases hlt
  rename_i hlen hpick hmem
  obtain ⟨tmps, mem⟩ := s
  simp only at hlen hpick hmem
  subst hmem
  obtain rfl := Option.some.inj hlt
  obtain ⟨⟨rfl, rfl, rfl, h1, h2, _⟩, ht2⟩ := needs_ok ht
  clear ht hlt
  refine ⟨_, _, ht2, loop_run mixed EM_ok (s_eqRp _ _) (inv_eqRp _ _) (me_eqRp _ _) re_eqRp (rs_eqRp _ _) k_eqRp (fun _ => rfl) (noLoops nl_eqRp) (round_eqRp _ _ h1 h2) (x := 0) (Nat.zero_le _) (π := []) rfl ?_⟩
  refine ⟨rfl, rfl, ?_, wvs_spread' [0, 1, 5] hlen rfl ?_⟩
  · repeat' (first | exact True.intro | exact rfl | exact wv_top _ _ | exact fun _ => rfl | assumption | exact Eq.symm (by assumption) | exact vI0 rfl | refine And.intro ?_ ?_)
  · rw [hpick]
    repeat' (first | exact True.intro | exact rfl | exact wv_top _ _ | exact fun _ => rfl | assumption | exact Eq.symm (by assumption) | exact vI0 rfl | refine And.intro ?_ ?_)
theorem Lr_markRp {fn : Func} (hf : Try.prog.funcs[33]? = some fn) : LoopsGood Try.prog (lt1 e_markRp) 0 (codeOf fn) := by
  obtain rfl := fn_is Try.func33 hf
  exact lt1_good lg_markRp
theorem Lr_heldRp {fn : Func} (hf : Try.prog.funcs[34]? = some fn) : LoopsGood Try.prog (lt1 e_heldRp) 0 (codeOf fn) := by
  obtain rfl := fn_is Try.func34 hf
  exact lt1_good lg_heldRp
theorem Lr_eqRp {fn : Func} (hf : Try.prog.funcs[32]? = some fn) : LoopsGood Try.prog (lt1 e_eqRp) 0 (codeOf fn) := by
  obtain rfl := fn_is Try.func32 hf
  exact lt1_good lg_eqRp
def LRp : FuncId → LT := fun f => match f with
  | 33 => lt1 e_markRp
  | 34 => lt1 e_heldRp
  | 32 => lt1 e_eqRp
  | _ => noL
def ERp : Env := mkE TSl (fun _ _ => none) LRp
theorem ERp_ok : EnvOk Try.prog ERp := mkEOk TSl_ok (fun _ _ _ _ _ h => (by cases h)) (by
  intro f fn hf
  unfold LRp
  split
  all_goals first | with_reducible exact Lr_markRp hf | with_reducible exact Lr_heldRp hf | with_reducible exact Lr_eqRp hf | exact noL_good)
set_option maxRecDepth 100000 in
theorem tr_mRpF (l : Nat) (xs : List Int) (k : Int) : bodyM Try.prog ERp (runM Try.prog ERp 30 12) 30 33 [.slice (some ⟨0, 0, none⟩) l l, .int .i64 k] [some ⟨.row 52 4, .ints xs⟩] .fin = .need ((0 : Int) = (0 : Int)) (.need (xs.length = l * (4 : Nat)) (.need (l ≤ (1000000000 : Nat)) (.need ((0 : Int) ≤ k ∧ k ≤ (1000000000 : Int)) (.fin (.int .i64 (k + (↑(l * 4) : Int))) [some ⟨.row 52 4, .ints (marks k (l * 4))⟩])))) := by kernel_rfl
set_option maxRecDepth 100000 in
theorem tr_heldRpF (n : Nat) (xs : List Int) (k : Int) : bodyV Try.prog ERp 30 12 34 [.row n (.ints xs), .v (.int .i64 k)] = .need ((0 : Int) = (0 : Int)) (.need (xs = marks k (n * (4 : Nat))) (.need (n ≤ (1000000000 : Nat)) (.need ((0 : Int) ≤ k ∧ k ≤ (1000000000 : Int)) (.fin (.int .i64 (k + (↑(n * 4) : Int))) [])))) := by kernel_rfl
set_option maxRecDepth 100000 in
theorem tr_eqRpF (n : Nat) (xs : List Int) : bodyV Try.prog ERp 30 12 32 [.row n (.ints xs), .row n (.ints xs)] = brT (!(↑n : Int) == (↑n : Int)) (.fin (.bool (false)) []) (.need ((0 : Int) = (0 : Int)) (.need (n = n) (.need (xs = xs) (.need (xs.length = n * (4 : Nat)) (.need (n ≤ (1000000000 : Nat)) (.fin (.bool (true)) [])))))) := by kernel_rfl
def markUW : WSpec := fun e sz l xs rest => match Nat.beq e 52 && Nat.beq sz 4, rest with
  | true, [.int .i64 k] => some (.int .i64 (k + (l * 4 : Nat)), marks k (l * 4), [xs.length = l * 4, Lim l, 0 ≤ k ∧ k ≤ 1000000000])
  | _, _ => none
theorem markUW_ok : WSpecOk Try.prog 33 markUW := by
  intro e sz l xs rest v ys C h hC
  unfold markUW at h
  split at h
  rotate_left
  · cases h
  rename_i k he
  simp only [Bool.and_eq_true] at he
  obtain rfl := Nat.eq_of_beq_eq_true he.1
  obtain rfl := Nat.eq_of_beq_eq_true he.2
  obtain ⟨rfl, rfl, rfl⟩ : Value.int .i64 (k + (l * 4 : Nat)) = v ∧ marks k (l * 4) = ys ∧ [xs.length = l * 4, Lim l, 0 ≤ k ∧ k ≤ 1000000000] = C := by simpa using h
  obtain ⟨h1, h2, h3, _⟩ := hC
  refine ⟨ERp, 30, 12, ERp_ok, rfl, ?_⟩
  rw [tr_mRpF]
  exact ⟨rfl, h1, h2, h3, rfl, _, rfl, rfl, rfl⟩
def JmU : TabJ := consJ 33 (fun _ => wrG markUW) JmT
theorem JmU_ok : GSound Try.prog JmU.g := consJ_wr mixed JmT_ok (entersB_res (by kernel_rfl)).1 markUW_ok
theorem res_heldRp (n : Nat) (k : Int) (h : Lim n) (hk : 0 ≤ k ∧ k ≤ 1000000000) (xs : List Int) (hx : xs = marks k (n * 4)) : Res Try.prog 34 [.row n (.ints xs), .v (.int .i64 k)] (iv (k + (n * 4 : Nat))) := by
  refine bodyV_res mixed ERp_ok (m := 30) (n := 12) rfl ?_
  rw [tr_heldRpF]
  exact ⟨rfl, hx, h, hk, rfl⟩
def pHeldU : List DArg → Option (Value × List Prop)
  | [.row n (.ints xs), .v (.int .i64 k)] => some (iv (k + (n * 4 : Nat)), [Lim n, 0 ≤ k ∧ k ≤ 1000000000, xs = marks k (n * 4)])
  | _ => none
theorem pHeldU_ok {ds : List DArg} {v : Value} {C : List Prop} (h : pHeldU ds = some (v, C)) (hC : AllP C) : Res Try.prog 34 ds v := by
  unfold pHeldU at h
  split at h
  · obtain ⟨rfl, rfl⟩ : _ ∧ _ := by simpa using h
    exact res_heldRp _ _ hC.1 hC.2.1 _ hC.2.2.1
  · cases h
theorem res_eqRpN (n : Nat) (xs : List Int) (h : xs.length = n * 4) (hn : Lim n) : Res Try.prog 32 [.row n (.ints xs), .row n (.ints xs)] (.bool true) := by
  refine bodyV_res mixed ERp_ok (m := 30) (n := 12) rfl ?_
  rw [tr_eqRpF]
  unfold Lim at hn
  simp [brT_ok, Tree.ok, h, hn]
def pEqU : List DArg → Option (Value × List Prop)
  | [.row n (.ints xs), .row m (.ints ys)] => some (.bool true, [n = m, xs = ys, xs.length = n * 4, Lim n])
  | _ => none
theorem pEqU_ok {ds : List DArg} {v : Value} {C : List Prop} (h : pEqU ds = some (v, C)) (hC : AllP C) : Res Try.prog 32 ds v := by
  unfold pEqU at h
  split at h
  · obtain ⟨rfl, rfl⟩ : _ ∧ _ := by simpa using h
    obtain ⟨rfl, rfl, h1, h2, _⟩ := hC
    exact res_eqRpN _ _ h1 h2
  · cases h
end Go.Proofs.Ytolodncpegajkaa
namespace Go.Proofs.Ytolodncpegajkaa
set_option linter.all false
open Go.RowKit
theorem inQ_up {p : Q4} (hp : okQ p = true) : ∀ {ps : List Q4}, (∀ q ∈ ps, okQ q = true) → ps.Pairwise (fun x y => qLt x y = true) → (inQ p ps).Pairwise fun x y => qLt x y = true
  | [], _, _ => List.pairwise_singleton _ _
  | q :: r, ho, hu => by
    obtain ⟨u1, u2⟩ := List.pairwise_cons.1 hu
    have oq := ho q (List.mem_cons_self ..)
    have or_ : ∀ z ∈ r, okQ z = true := fun z hz => ho z (List.mem_cons_of_mem _ hz)
    simp only [inQ]
    split
    · rename_i hlt
      refine List.pairwise_cons.2 ⟨fun z hz => ?_, inQ_up hp or_ u2⟩
      rcases (inQ_mem p r z).1 hz with hz | rfl
      · exact u1 z hz
      · exact hlt
    · rename_i hlt
      split
      · exact hu
      · rename_i hne
        have hpq : qLt p q = true := by
          rcases qLt_tri hp oq with h | h | h
          · exact h
          · exact absurd h.symm hne
          · exact absurd h hlt
        refine List.pairwise_cons.2 ⟨fun z hz => ?_, hu⟩
        rcases List.mem_cons.1 hz with rfl | hz
        · exact hpq
        · exact qLt_trans hp oq (or_ z hz) hpq (u1 z hz)
/-- Lists in strict order with the same points are the same. -/
theorem asc_eq : ∀ {xs ys : List Q4}, (∀ q ∈ xs, okQ q = true) → xs.Pairwise (fun x y => qLt x y = true) → ys.Pairwise (fun x y => qLt x y = true) → (∀ z, z ∈ xs ↔ z ∈ ys) → xs = ys
  | [], [], _, _, _, _ => rfl
  | [], y :: ys, _, _, _, h => by
    have := (h y).2 List.mem_cons_self
    simp at this
  | x :: xs, [], _, _, _, h => by
    have := (h x).1 List.mem_cons_self
    simp at this
  | x :: xs, y :: ys, ho, hx, hy, h => by
    obtain ⟨x1, x2⟩ := List.pairwise_cons.1 hx
    obtain ⟨y1, y2⟩ := List.pairwise_cons.1 hy
    have e : x = y := by
      rcases List.mem_cons.1 ((h x).1 List.mem_cons_self) with e | g1
      · exact e
      rcases List.mem_cons.1 ((h y).2 List.mem_cons_self) with e | g2
      · exact e.symm
      have k1 := y1 x g1
      have k2 := x1 y g2
      have := qLt_asymm (ho x List.mem_cons_self) (ho y (List.mem_cons_of_mem _ g2)) k2
      rw [this] at k1
      cases k1
    subst e
    refine congrArg (x :: ·) (asc_eq (fun q hq => ho q (List.mem_cons_of_mem _ hq)) x2 y2 fun z => ?_)
    have hz := h z
    simp only [List.mem_cons] at hz
    constructor
    · intro g
      rcases hz.1 (.inr g) with rfl | g2
      · have := x1 z g
        rw [qLt_irr] at this
        cases this
      · exact g2
    · intro g
      rcases hz.2 (.inr g) with rfl | g2
      · have := y1 z g
        rw [qLt_irr] at this
        cases this
      · exact g2
theorem stQ_up {qs : List Q4} (h : ∀ q ∈ qs, okQ q = true) : (stQ qs).Pairwise fun x y => qLt x y = true := by
  have hu := srtQ_up h
  have ho : ∀ q ∈ srtQ qs, okQ q = true := fun q hq => h q ((srtQ_mem qs q).1 hq)
  exact dmN_up ho (fun i j h1 h2 => by
    have := List.pairwise_iff_getElem.1 hu i j (by omega) h2 h1
    simpa [List.getD, h2, show i < (srtQ qs).length by omega] using this) (srtQ qs).length (Nat.le_refl _)
theorem cp_cm (xs : List Int) (n : Nat) (z : Q4) : ∀ t, z ∈ cpL xs n t ↔ z ∈ cmL xs n t
  | 0 => by simp [cpL, cmL]
  | t + 1 => by
    have ih := cp_cm xs n z t
    simp only [cpL, cmL]
    cases cpQ xs n t
    · exact ih
    · simp only [cond_true, List.mem_append, List.mem_singleton, inQ_mem, ih]
theorem cpL_ok {xs : List Int} {n : Nat} (hv : vsB n xs = true) (t : Nat) (ht : t ≤ offR n 0 n) : ∀ q ∈ cpL xs n t, okQ q = true := fun q hq => cmL_ok hv t ht q ((cp_cm xs n q t).1 hq)
theorem cmL_up {xs : List Int} {n : Nat} (hv : vsB n xs = true) : ∀ t, t ≤ offR n 0 n → (cmL xs n t).Pairwise fun x y => qLt x y = true
  | 0, _ => List.Pairwise.nil
  | t + 1, ht => by
    have ih := cmL_up hv t (by omega)
    have ho := cmL_ok hv t (by omega)
    simp only [cmL]
    rcases hc : cpQ xs n t with _ | _
    · exact ih
    · obtain ⟨l1, l2⟩ := prA_lt2 (n := n) (t := t) (by omega)
      exact inQ_up (xpAt_ok hv l1 l2 (beq_iff_eq.1 hc)) ho ih
/-- Both ways find the same list. -/
theorem st_cm {xs : List Int} {n : Nat} (hv : vsB n xs = true) : stQ (cpL xs n (offR n 0 n)) = cmL xs n (offR n 0 n) := by
  have ho := cpL_ok hv (offR n 0 n) (Nat.le_refl _)
  refine asc_eq (fun q hq => ho q ((stQ_mem _ q).1 hq)) (stQ_up ho) (cmL_up hv _ (Nat.le_refl _)) fun z => ?_
  rw [stQ_mem, cp_cm]
theorem Lr_ciO {fn : Func} (hf : Try.prog.funcs[31]? = some fn) : LoopsGood Try.prog (lt1 e_ciO) 0 (codeOf fn) := by
  obtain rfl := fn_is Try.func31 hf
  exact lt1_good lg_ciO
def LCi : FuncId → LT := fun f => match f with
  | 31 => lt1 e_ciO
  | _ => noL
theorem Gr_cpg {fn : Func} (hf : Try.prog.funcs[30]? = some fn) : RangesGood Try.prog (rt1 10 e_cpg) (codeOf fn) := by
  obtain rfl := fn_is Try.func30 hf
  exact rt1_good (by kernel_rfl) lg_cpg
def GCp : FuncId → RT := fun f => match f with
  | 30 => rt1 10 e_cpg
  | _ => noR
def ECx : Env := withG (withT (mkE TCq RSl1 LCi) JSs) GCp
theorem ECx_ok : EnvOk Try.prog ECx := withG_ok (withT_ok (mkEOk TCq_ok RSl1_ok (by
  intro f fn hf
  unfold LCi
  split
  all_goals first | with_reducible exact Lr_ciO hf | exact noL_good)) JSs_ok) (by
  intro f fn hf
  unfold GCp
  split
  all_goals first | with_reducible exact Gr_cpg hf | exact noR_good)
set_option maxRecDepth 100000 in
theorem tr_sCqF (n : Nat) (xs : List Int) : bodyX Try.prog ECx 30 12 31 [.row n (.ints xs)] = .need ((List.drop (0 : Nat) xs).length = n * (4 : Nat)) (.need (Lim n) (brT (!vsB n (List.drop 0 xs)) (.fin (.slice none (0) (0)) [some ⟨.view, .ints (xs)⟩, some ⟨.row 52 4, .vals []⟩]) (.need ((0 : Int) = (0 : Int)) (.need ((0 : Nat) = (0 : Nat)) (.need (xs.length = n * (4 : Nat)) (.need (n ≤ (12 : Nat)) (.need (vsB n xs = true) (.fin (.slice (some ⟨2, 0, none⟩) ((cmL xs n (offR n 0 n)).length) ((cmL xs n (offR n 0 n)).length)) [some ⟨.view, .ints (xs)⟩, some deadB, some ⟨.row 52 4, .ints (fl4 (cmL xs n (offR n 0 n)))⟩])))))))) := by kernel_rfl
set_option maxRecDepth 100000 in
theorem tr_iCqF (n : Nat) (xs : List Int) : bodyX Try.prog ECx 30 12 30 [.row n (.ints xs)] = .need ((List.drop (0 : Nat) xs).length = n * (4 : Nat)) (.need (Lim n) (brT (!vsB n (List.drop 0 xs)) (.fin (.slice none (0) (0)) [some ⟨.view, .ints (xs)⟩, some ⟨.box, .vals [.slice (some ⟨0, 0, none⟩) (n) (n)]⟩]) (.need (n = n) (.need (xs.length = n * (4 : Nat)) (.need (n ≤ (12 : Nat)) (.need (vsB n xs = true) (.need ((fl4 (cpL xs n (offR n (0 : Nat) n))).length = (cpL xs n (offR n (0 : Nat) n)).length * (4 : Nat)) (.need ((cpL xs n (offR n (0 : Nat) n)).length ≤ (1000000000 : Nat)) (.need (allV4 (cpL xs n (offR n (0 : Nat) n)).length (fl4 (cpL xs n (offR n (0 : Nat) n)))) (.need ((fl4 (srtQ (q4A (cpL xs n (offR n (0 : Nat) n)).length (fl4 (cpL xs n (offR n (0 : Nat) n)))))).length = (cpL xs n (offR n (0 : Nat) n)).length * (4 : Nat)) (.need ((cpL xs n (offR n (0 : Nat) n)).length ≤ (1000000000 : Nat)) (.fin (.slice (some ⟨5, 0, none⟩) ((dmP (q4A (cpL xs n (offR n 0 n)).length (fl4 (srtQ (q4A (cpL xs n (offR n 0 n)).length (fl4 (cpL xs n (offR n 0 n)))))))).length) ((dmP (q4A (cpL xs n (offR n 0 n)).length (fl4 (srtQ (q4A (cpL xs n (offR n 0 n)).length (fl4 (cpL xs n (offR n 0 n)))))))).length)) [some ⟨.view, .ints (xs)⟩, some ⟨.box, .vals [.slice (some ⟨0, 0, none⟩) (n) (n)]⟩, some ⟨.box, .vals [.slice (some ⟨4, 0, none⟩) ((cpL xs n (offR n 0 n)).length) ((cpL xs n (offR n 0 n)).length)]⟩, some ⟨.view, .vals [.slice (some ⟨0, 0, none⟩) (n) (n)]⟩, some deadB, some ⟨.row 52 4, .ints (fl4 (dmP (q4A (cpL xs n (offR n 0 n)).length (fl4 (srtQ (q4A (cpL xs n (offR n 0 n)).length (fl4 (cpL xs n (offR n 0 n)))))))))⟩])))))))))))) := by kernel_rfl
/-- The points where segments cross. -/
def cqV (n : Nat) (xs : List Int) : List Q4 := bif vsB n xs then cmL xs n (offR n 0 n) else []
abbrev rowQ (ps : List Q4) : Value := .slice (some ⟨0, 0, none⟩) ps.length ps.length
theorem vs_12q {n : Nat} {xs : List Int} (h : vsB n xs = true) : n ≤ 12 := by
  unfold vsB at h
  exact of_decide_eq_true (Bool.and_eq_true_iff.1 h).2
theorem resR_sCq (n : Nat) (xs : List Int) (hx : xs.length = n * 4) (h : Lim n) : ResR Try.prog 31 [.row n (.ints xs)] (rowQ (cqV n xs)) ⟨.row 52 4, .ints (fl4 (cqV n xs))⟩ := by
  refine bodyX_resR mixed ECx_ok (m := 30) (n := 12) rfl ?_
  rw [tr_sCqF]
  simp only [List.drop_zero]
  unfold cqV
  rcases hv : vsB n xs with _ | _
  · exact ⟨hx, h, none, ⟨rfl, rfl⟩, trivial⟩
  · exact ⟨hx, h, trivial, trivial, hx, vs_12q hv, rfl, some 2, ⟨rfl, rfl, rfl⟩, rfl, rfl, rfl⟩
theorem resR_iCq (n : Nat) (xs : List Int) (hx : xs.length = n * 4) (h : Lim n) : ResR Try.prog 30 [.row n (.ints xs)] (rowQ (cqV n xs)) ⟨.row 52 4, .ints (fl4 (cqV n xs))⟩ := by
  refine bodyX_resR mixed ECx_ok (m := 30) (n := 12) rfl ?_
  rw [tr_iCqF]
  simp only [List.drop_zero, q4A_fl4]
  unfold cqV
  rcases hv : vsB n xs with _ | _
  · exact ⟨hx, h, none, ⟨rfl, rfl⟩, trivial⟩
  · have ho := cpL_ok hv (offR n 0 n) (Nat.le_refl _)
    have hs := st_cm hv
    have l0 := cpL_len xs n (offR n 0 n)
    have hb := offR_le n n 0
    have h12 := vs_12q hv
    have hnn : n * n ≤ 12 * 12 := Nat.mul_le_mul h12 h12
    generalize cpL xs n (offR n 0 n) = L at *
    have l1 := fl4_length L
    have l2 := fl4_length (srtQ L)
    rw [srtQ_len] at l2
    have e2 : q4A L.length (fl4 (srtQ L)) = srtQ L := by
      have := q4A_fl4 (srtQ L)
      rwa [srtQ_len] at this
    have ev : dmP (srtQ L) = cmL xs n (offR n 0 n) := hs
    rw [e2, ev]
    exact ⟨hx, h, trivial, hx, h12, rfl, l1, by omega, by unfold allV4; rw [q4A_fl4]; exact ho, l2, by omega, some 5, ⟨rfl, rfl, rfl⟩, rfl, rfl, rfl⟩
theorem cqV_len (n : Nat) (xs : List Int) : (cqV n xs).length ≤ 144 := by
  unfold cqV
  rcases hv : vsB n xs with _ | _
  · exact Nat.zero_le _
  · have h1 := cmL_len xs n (offR n 0 n)
    have h2 := offR_le n n 0
    have h3 := vs_12q hv
    have h4 : n * n ≤ 12 * 12 := Nat.mul_le_mul h3 h3
    simp only [cond_true]
    omega
def RCq : TabR := fun f ds => match f, ds with
  | 31, [.row n (.ints xs)] => some (rowQ (cqV n xs), ⟨.row 52 4, .ints (fl4 (cqV n xs))⟩, [xs.length = n * 4, Lim n])
  | 30, [.row n (.ints xs)] => some (rowQ (cqV n xs), ⟨.row 52 4, .ints (fl4 (cqV n xs))⟩, [xs.length = n * 4, Lim n])
  | f, ds => RSl1 f ds
theorem RCq_ok : TabROk Try.prog RCq := by
  intro f ds v b C h hC
  unfold RCq at h
  split at h
  · obtain ⟨rfl, rfl, rfl⟩ : _ ∧ _ ∧ _ := by simpa using h
    exact resR_sCq _ _ hC.1 hC.2.1
  · obtain ⟨rfl, rfl, rfl⟩ : _ ∧ _ ∧ _ := by simpa using h
    exact resR_iCq _ _ hC.1 hC.2.1
  · exact RSl1_ok _ _ _ _ _ h hC
end Go.Proofs.Ytolodncpegajkaa
namespace Go.Proofs.Ytolodncpegajkaa
set_option linter.all false
open Go.RowKit
def TCqx : Tab := fun f ds => match f with
  | 34 => pHeldU ds
  | 32 => pEqU ds
  | f => TCq f ds
theorem TCqx_ok : TabOk Try.prog TCqx := by
  intro f ds v C h hC
  unfold TCqx at h
  (try split at h)
  all_goals first | with_reducible exact pHeldU_ok h hC | with_reducible exact pEqU_ok h hC | exact TCq_ok _ _ _ _ h hC
def ECqx : Env := withT (mkE TCqx RCq (fun _ => noL)) JmU
theorem ECqx_ok : EnvOk Try.prog ECqx := withT_ok (mkEOk TCqx_ok RCq_ok (fun _ _ _ => noL_good)) JmU_ok
set_option maxRecDepth 100000 in
theorem tr_exCq (n : Nat) (xs : List Int) : bodyV Try.prog ECqx 30 12 7 [.row n (.ints xs)] = brT (decide (IntKind.i64.wrap (1048576 - (↑n : Int)) < 0)) (.fin (.bool (true)) []) (brT (decide (IntKind.i64.wrap (1048576 - (↑n : Int)) < 0)) (.fin (.bool (true)) []) (.need ((List.drop (0 : Nat) xs).length = n * (4 : Nat)) (.need (Lim n) (.need ((List.drop (0 : Nat) (List.drop (0 : Nat) xs)).length = n * (4 : Nat)) (.need (Lim n) (.need ((List.drop (0 : Nat) xs).length = n * (4 : Nat)) (.need (Lim n) (.need ((List.drop (0 : Nat) (List.drop (0 : Nat) xs)).length = n * (4 : Nat)) (.need (Lim n) (.need ((cqV n (List.drop (0 : Nat) (List.drop (0 : Nat) xs))).length = (cqV n (List.drop (0 : Nat) (List.drop (0 : Nat) xs))).length) (.need (List.drop (0 : Nat) (fl4 (cqV n (List.drop (0 : Nat) (List.drop (0 : Nat) xs)))) = List.drop (0 : Nat) (fl4 (cqV n (List.drop (0 : Nat) (List.drop (0 : Nat) xs))))) (.need ((List.drop (0 : Nat) (fl4 (cqV n (List.drop (0 : Nat) (List.drop (0 : Nat) xs))))).length = (cqV n (List.drop (0 : Nat) (List.drop (0 : Nat) xs))).length * (4 : Nat)) (.need (Lim (cqV n (List.drop (0 : Nat) (List.drop (0 : Nat) xs))).length) (.need ((List.drop (0 : Nat) xs).length = n * (4 : Nat)) (.need (Lim n) (.need (n = n) (.need (List.drop (0 : Nat) (List.drop (0 : Nat) xs) = List.drop (0 : Nat) (List.drop (0 : Nat) xs)) (.need ((List.drop (0 : Nat) (List.drop (0 : Nat) xs)).length = n * (4 : Nat)) (.need (Lim n) (.need ((List.drop (0 : Nat) xs).length = n * (4 : Nat)) (.need (Lim n) (.need ((0 : Int) ≤ (1 : Int) ∧ (1 : Int) ≤ (1000000000 : Int)) (.need ((cqV n (List.drop (0 : Nat) (List.drop (0 : Nat) xs))).length = (cqV n (List.drop (0 : Nat) (List.drop (0 : Nat) xs))).length) (.need (List.drop (0 : Nat) (fl4 (cqV n (List.drop (0 : Nat) (List.drop (0 : Nat) xs)))) = List.drop (0 : Nat) (fl4 (cqV n (List.drop (0 : Nat) (List.drop (0 : Nat) xs))))) (.need ((List.drop (0 : Nat) (fl4 (cqV n (List.drop (0 : Nat) (List.drop (0 : Nat) xs))))).length = (cqV n (List.drop (0 : Nat) (List.drop (0 : Nat) xs))).length * (4 : Nat)) (.need (Lim (cqV n (List.drop (0 : Nat) (List.drop (0 : Nat) xs))).length) (.need ((fl4 (cqV n (List.drop (0 : Nat) (List.drop (0 : Nat) xs)))).length = (cqV n (List.drop (0 : Nat) (List.drop (0 : Nat) xs))).length * (4 : Nat)) (.need (Lim (cqV n (List.drop (0 : Nat) (List.drop (0 : Nat) xs))).length) (.need ((0 : Int) ≤ (1 : Int) ∧ (1 : Int) ≤ (1000000000 : Int)) (.need (Lim (cqV n (List.drop (0 : Nat) (List.drop (0 : Nat) xs))).length) (.need ((0 : Int) ≤ (1 : Int) ∧ (1 : Int) ≤ (1000000000 : Int)) (.need (List.drop (0 : Nat) (marks (1 : Int) ((cqV n (List.drop (0 : Nat) (List.drop (0 : Nat) xs))).length * (4 : Nat))) = marks (1 : Int) ((cqV n (List.drop (0 : Nat) (List.drop (0 : Nat) xs))).length * (4 : Nat))) (brT (!1 + (↑((cqV n (List.drop 0 (List.drop 0 xs))).length * 4) : Int) == 1 + (↑((cqV n (List.drop 0 (List.drop 0 xs))).length * 4) : Int)) (.fin (.bool (false)) []) (.need ((List.drop (0 : Nat) xs).length = n * (4 : Nat)) (.need (Lim n) (.need ((List.drop (0 : Nat) (List.drop (0 : Nat) xs)).length = n * (4 : Nat)) (.need (Lim n) (.need ((cqV n (List.drop (0 : Nat) (List.drop (0 : Nat) xs))).length = (cqV n (List.drop (0 : Nat) (List.drop (0 : Nat) xs))).length) (.need (List.drop (0 : Nat) (fl4 (cqV n (List.drop (0 : Nat) (List.drop (0 : Nat) xs)))) = List.drop (0 : Nat) (fl4 (cqV n (List.drop (0 : Nat) (List.drop (0 : Nat) xs))))) (.need ((List.drop (0 : Nat) (fl4 (cqV n (List.drop (0 : Nat) (List.drop (0 : Nat) xs))))).length = (cqV n (List.drop (0 : Nat) (List.drop (0 : Nat) xs))).length * (4 : Nat)) (.need (Lim (cqV n (List.drop (0 : Nat) (List.drop (0 : Nat) xs))).length) (.need (Lim (cqV n (List.drop (0 : Nat) (List.drop (0 : Nat) xs))).length) (.need ((0 : Int) ≤ (1 : Int) ∧ (1 : Int) ≤ (1000000000 : Int)) (.need (List.drop (0 : Nat) (marks (1 : Int) ((cqV n (List.drop (0 : Nat) (List.drop (0 : Nat) xs))).length * (4 : Nat))) = marks (1 : Int) ((cqV n (List.drop (0 : Nat) (List.drop (0 : Nat) xs))).length * (4 : Nat))) (brT (!1 + (↑((cqV n (List.drop 0 (List.drop 0 xs))).length * 4) : Int) == 1 + (↑((cqV n (List.drop 0 (List.drop 0 xs))).length * 4) : Int)) (.fin (.bool (false)) []) (.fin (.bool (true)) [])))))))))))))))))))))))))))))))))))))))))))))) := by kernel_rfl
theorem ExactCrossingPoints_res (n : Nat) (xs : List Int) (hx : xs.length = n * 4) (h : (n : Int) ≤ 9223372036854775807) : Res Try.prog 7 [.row n (.ints xs)] (.bool true) := by
  refine bodyV_res mixed ECqx_ok (m := 30) (n := 12) rfl ?_
  rw [tr_exCq]
  simp only [List.drop_zero]
  by_cases hl : (1048576 : Int) - n < 0
  · simp (disch := omega) only [wr]
    simp only [hl, decide_true, brT_t, Tree.ok]
  · have hP : Lim n := by unfold Lim; omega
    have hV := cqV_len n xs
    have hL : Lim (cqV n xs).length := Nat.le_trans hV (by decide)
    have fl := fl4_length (cqV n xs)
    generalize cqV n xs = V at *
    have k1 : decide ((1 : Int) + (V.length * 4 : Nat) < 0) = false := decide_eq_false (by omega)
    have k2 : decide ((1 : Int) + (n * 4 : Nat) < 0) = false := decide_eq_false (by omega)
    simp (disch := omega) only [wr]
    simp only [hl, decide_false, brT_f, Tree.ok, beq_self_eq_true, Bool.not_true, k1, k2]
    repeat' (first | exact True.intro | assumption | omega | exact rfl | refine And.intro ?_ ?_)
end Go.Proofs.Ytolodncpegajkaa
