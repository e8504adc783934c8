/-
  Texts that the proof needs, merged. Written by an AI agent.
-/
import Derived.Orders
import Derived.Below
import Derived.OrdersIn
import Derived.Deep.LoopGhost
import Derived.WalkKit
import Derived.Laws.CopyRow
import Derived.Laws.AppendOwn
import Derived.Laws.Slices
import Derived.Laws.MakeOwn
import Derived.Test.YtolodncpegajkaaRows
import Derived.ProofKit
import Derived.OpenShut
import Derived.Carry
import Derived.IntWalk
import Derived.Test.YtolodncpegajkaaProg
import Derived.WalkSpells
import Derived.WalkLawsBesides
import Derived.Lib.Hide
import Derived.Deep.QuietTactic
import Derived.BigQuiet
import Derived.KernelRfl
import Derived.Deep.RegionHeld3
import Derived.LoopTactic
import Derived.Laws.StructEq
import Derived.Laws.Tables
import Derived.RangeFuncNested
import Derived.RangeFuncLeaves
import Derived.Deep.Slices
import Derived.Deep.Fields
import Derived.ChangeSame
import Derived.Deep.DeepCutAuto
import Derived.Sort.Grow
import Derived.Shelf.SlSortCmp.NoneTotal
import Derived.Shelf.SlSortCmp.WholeK
import Derived.Test.YtolodncpegajkaaZCrossingPoints7
namespace Go.Proofs.Ytolodncpegajkaa
set_option linter.all false
open Go.RowKit
/-- The points where segments cross, of so many pairs, in order. -/
def cmL (xs : List Int) (n : Nat) : Nat → List Q4
  | 0 => []
  | t + 1 => bif cpQ xs n t then inQ (xpAt xs (prA n t).1 (prA n t).2) (cmL xs n t) else cmL xs n t
theorem inQ_len (p : Q4) : ∀ ps : List Q4, (inQ p ps).length ≤ ps.length + 1
  | [] => Nat.le_refl _
  | q :: r => by
    have := inQ_len p r
    simp only [inQ]
    split
    · simp; omega
    · split <;> simp
theorem cmL_len (xs : List Int) (n : Nat) : ∀ t, (cmL xs n t).length ≤ t
  | 0 => Nat.le_refl _
  | t + 1 => by
    have := cmL_len xs n t
    have h2 := inQ_len (xpAt xs (prA n t).1 (prA n t).2) (cmL xs n t)
    simp only [cmL]
    cases cpQ xs n t <;> simp <;> omega
theorem cmL_ok {xs : List Int} {n : Nat} (hv : vsB n xs = true) : ∀ t, t ≤ offR n 0 n → ∀ q ∈ cmL xs n t, okQ q = true
  | 0, _, q, h => by simp [cmL] at h
  | t + 1, ht, q, h => by
    have ih := cmL_ok hv t (by omega)
    simp only [cmL] at h
    rcases hc : cpQ xs n t with _ | _
    · rw [hc] at h
      exact ih q h
    · rw [hc] at h
      rcases (inQ_mem _ _ q).1 h with h | rfl
      · exact ih q h
      · obtain ⟨l1, l2⟩ := prA_lt2 (n := n) (t := t) (by omega)
        exact xpAt_ok hv l1 l2 (beq_iff_eq.1 hc)
def JAq : TabJ := consR 81 (owG adqS) noJ
theorem JAq_ok : GSound Try.prog JAq.g := consO_ok mixed (failG_sound _) (entersB_res (by kernel_rfl)).1 adqS_ok
def ECm : Env := withT (mkE TCq (fun _ _ => none) (fun _ => noL)) JAq
theorem ECm_ok : EnvOk Try.prog ECm := withT_ok (mkEOk TCq_ok (fun _ _ _ _ _ h => (by cases h)) (fun _ _ _ => noL_good)) JAq_ok
noncomputable def c_ciI : Code := ((loopsOf (codeOf Try.f31))[1]?).getD .skip
def k_ciI : Ex → List Nat := keeps [0, 3, 4, 5] [(2, [0, 3, 4]), (1, [0, 3, 4]), (0, [3])] [2]
def s_ciI (xs : List Int) (n i : Nat) : Nat → St := fun j => ⟨(.slice (some ⟨0, 0, none⟩) n n :: topV :: topV :: .slice (some ⟨3, 0, none⟩) (cmL xs n (offR n 0 i + j)).length (cmL xs n (offR n 0 i + j)).length :: .int .i64 i :: .int .i64 (i + 1 + j : Nat) :: topV :: topV :: topV :: topV :: topV :: topV :: topV :: topV :: topV :: topV :: topV :: topV :: topV :: topV :: topV :: topV :: topV :: topV :: topV :: topV :: topV :: topV :: topV :: topV :: topV :: topV :: topV :: topV :: topV :: topV :: topV :: topV :: topV :: topV :: topV :: topV :: topV :: topV :: topV :: topV :: []), [some ⟨.view, .ints xs⟩, some ⟨.dead, .vals []⟩, some ⟨.dead, .vals []⟩, some ⟨.row 52 4, .ints (fl4 (cmL xs n (offR n 0 i + j)))⟩]⟩
def re_ciI : Nat → Ex := fun _ => .exit 2
def rs_ciI (xs : List Int) (n i : Nat) : Nat → St := fun j => ⟨(.slice (some ⟨0, 0, none⟩) n n :: topV :: topV :: .slice (some ⟨3, 0, none⟩) (cmL xs n (offR n 0 (i + 1))).length (cmL xs n (offR n 0 (i + 1))).length :: .int .i64 i :: topV :: topV :: topV :: topV :: topV :: topV :: topV :: topV :: topV :: topV :: topV :: topV :: topV :: topV :: topV :: topV :: topV :: topV :: topV :: topV :: topV :: topV :: topV :: topV :: topV :: topV :: topV :: topV :: topV :: topV :: topV :: topV :: topV :: topV :: topV :: topV :: topV :: topV :: topV :: topV :: topV :: []), [some ⟨.view, .ints xs⟩, some ⟨.dead, .vals []⟩, some ⟨.dead, .vals []⟩, some ⟨.row 52 4, .ints (fl4 (cmL xs n (offR n 0 (i + 1))))⟩]⟩
set_option maxRecDepth 100000 in
theorem tr_ciI (xs : List Int) (n i : Nat) (j : Nat) : bodyL Try.prog ECm 30 12 noL 2 c_ciI k_ciI 16 (s_ciI xs n i j) = brT (decide ((↑(i + 1 + j) : Int) < (↑n : Int))) (.need (ptB (xs.getD ((0 : Nat) + (↑i : Int).toNat * (4 : Nat)) (0 : Int)) (xs.getD ((0 : Nat) + (↑i : Int).toNat * (4 : Nat) + (1 : Nat)) (0 : Int)) = true) (.need (ptB (xs.getD ((0 : Nat) + (↑i : Int).toNat * (4 : Nat) + (1 : Nat) + (1 : Nat)) (0 : Int)) (xs.getD ((0 : Nat) + (↑i : Int).toNat * (4 : Nat) + (1 : Nat) + (1 : Nat) + (1 : Nat)) (0 : Int)) = true) (.need (ptB (xs.getD ((0 : Nat) + (↑(i + (1 : Nat) + j) : Int).toNat * (4 : Nat)) (0 : Int)) (xs.getD ((0 : Nat) + (↑(i + (1 : Nat) + j) : Int).toNat * (4 : Nat) + (1 : Nat)) (0 : Int)) = true) (.need (ptB (xs.getD ((0 : Nat) + (↑(i + (1 : Nat) + j) : Int).toNat * (4 : Nat) + (1 : Nat) + (1 : Nat)) (0 : Int)) (xs.getD ((0 : Nat) + (↑(i + (1 : Nat) + j) : Int).toNat * (4 : Nat) + (1 : Nat) + (1 : Nat) + (1 : Nat)) (0 : Int)) = true) (.need ((0 : Int) ≤ (↑i : Int) ∧ (↑i : Int) < (↑n : Int)) (.need ((0 : Nat) + (↑i : Int).toNat * (4 : Nat) + (4 : Nat) ≤ xs.length) (.need ((0 : Int) ≤ (↑(i + (1 : Nat) + j) : Int) ∧ (↑(i + (1 : Nat) + j) : Int) < (↑n : Int)) (.need ((0 : Nat) + (↑(i + (1 : Nat) + j) : Int).toNat * (4 : Nat) + (4 : Nat) ≤ xs.length) (brT (relA (xs.getD (0 + (↑i : Int).toNat * 4) 0) (xs.getD (0 + (↑i : Int).toNat * 4 + 1) 0) (xs.getD (0 + (↑i : Int).toNat * 4 + 1 + 1) 0) (xs.getD (0 + (↑i : Int).toNat * 4 + 1 + 1 + 1) 0) (xs.getD (0 + (↑(i + 1 + j) : Int).toNat * 4) 0) (xs.getD (0 + (↑(i + 1 + j) : Int).toNat * 4 + 1) 0) (xs.getD (0 + (↑(i + 1 + j) : Int).toNat * 4 + 1 + 1) 0) (xs.getD (0 + (↑(i + 1 + j) : Int).toNat * 4 + 1 + 1 + 1) 0) == 2) (.need (ptB (xs.getD ((0 : Nat) + (↑i : Int).toNat * (4 : Nat)) (0 : Int)) (xs.getD ((0 : Nat) + (↑i : Int).toNat * (4 : Nat) + (1 : Nat)) (0 : Int)) = true) (.need (ptB (xs.getD ((0 : Nat) + (↑i : Int).toNat * (4 : Nat) + (1 : Nat) + (1 : Nat)) (0 : Int)) (xs.getD ((0 : Nat) + (↑i : Int).toNat * (4 : Nat) + (1 : Nat) + (1 : Nat) + (1 : Nat)) (0 : Int)) = true) (.need (ptB (xs.getD ((0 : Nat) + (↑(i + (1 : Nat) + j) : Int).toNat * (4 : Nat)) (0 : Int)) (xs.getD ((0 : Nat) + (↑(i + (1 : Nat) + j) : Int).toNat * (4 : Nat) + (1 : Nat)) (0 : Int)) = true) (.need (ptB (xs.getD ((0 : Nat) + (↑(i + (1 : Nat) + j) : Int).toNat * (4 : Nat) + (1 : Nat) + (1 : Nat)) (0 : Int)) (xs.getD ((0 : Nat) + (↑(i + (1 : Nat) + j) : Int).toNat * (4 : Nat) + (1 : Nat) + (1 : Nat) + (1 : Nat)) (0 : Int)) = true) (.need (¬crossI (xs.getD ((0 : Nat) + (↑(i + (1 : Nat) + j) : Int).toNat * (4 : Nat)) (0 : Int)) (xs.getD ((0 : Nat) + (↑(i + (1 : Nat) + j) : Int).toNat * (4 : Nat) + (1 : Nat)) (0 : Int)) (xs.getD ((0 : Nat) + (↑(i + (1 : Nat) + j) : Int).toNat * (4 : Nat) + (1 : Nat) + (1 : Nat)) (0 : Int)) (xs.getD ((0 : Nat) + (↑(i + (1 : Nat) + j) : Int).toNat * (4 : Nat) + (1 : Nat) + (1 : Nat) + (1 : Nat)) (0 : Int)) (xs.getD ((0 : Nat) + (↑i : Int).toNat * (4 : Nat)) (0 : Int)) (xs.getD ((0 : Nat) + (↑i : Int).toNat * (4 : Nat) + (1 : Nat)) (0 : Int)) = crossI (xs.getD ((0 : Nat) + (↑(i + (1 : Nat) + j) : Int).toNat * (4 : Nat)) (0 : Int)) (xs.getD ((0 : Nat) + (↑(i + (1 : Nat) + j) : Int).toNat * (4 : Nat) + (1 : Nat)) (0 : Int)) (xs.getD ((0 : Nat) + (↑(i + (1 : Nat) + j) : Int).toNat * (4 : Nat) + (1 : Nat) + (1 : Nat)) (0 : Int)) (xs.getD ((0 : Nat) + (↑(i + (1 : Nat) + j) : Int).toNat * (4 : Nat) + (1 : Nat) + (1 : Nat) + (1 : Nat)) (0 : Int)) (xs.getD ((0 : Nat) + (↑i : Int).toNat * (4 : Nat) + (1 : Nat) + (1 : Nat)) (0 : Int)) (xs.getD ((0 : Nat) + (↑i : Int).toNat * (4 : Nat) + (1 : Nat) + (1 : Nat) + (1 : Nat)) (0 : Int))) (.need ((0 : Int) ≤ (↑i : Int) ∧ (↑i : Int) < (↑n : Int)) (.need ((0 : Nat) + (↑i : Int).toNat * (4 : Nat) + (4 : Nat) ≤ xs.length) (.need ((0 : Int) ≤ (↑(i + (1 : Nat) + j) : Int) ∧ (↑(i + (1 : Nat) + j) : Int) < (↑n : Int)) (.need ((0 : Nat) + (↑(i + (1 : Nat) + j) : Int).toNat * (4 : Nat) + (4 : Nat) ≤ xs.length) (.need ((fl4 (cmL xs n (offR n (0 : Nat) i + j))).length = (cmL xs n (offR n (0 : Nat) i + j)).length * (4 : Nat)) (.need ((cmL xs n (offR n (0 : Nat) i + j)).length ≤ (1000 : Nat)) (.need (allV4 (cmL xs n (offR n (0 : Nat) i + j)).length (fl4 (cmL xs n (offR n (0 : Nat) i + j)))) (.need (okB (xp1 (xs.getD ((0 : Nat) + (↑i : Int).toNat * (4 : Nat)) (0 : Int)) (xs.getD ((0 : Nat) + (↑i : Int).toNat * (4 : Nat) + (1 : Nat)) (0 : Int)) (xs.getD ((0 : Nat) + (↑i : Int).toNat * (4 : Nat) + (1 : Nat) + (1 : Nat)) (0 : Int)) (xs.getD ((0 : Nat) + (↑i : Int).toNat * (4 : Nat) + (1 : Nat) + (1 : Nat) + (1 : Nat)) (0 : Int)) (xs.getD ((0 : Nat) + (↑(i + (1 : Nat) + j) : Int).toNat * (4 : Nat)) (0 : Int)) (xs.getD ((0 : Nat) + (↑(i + (1 : Nat) + j) : Int).toNat * (4 : Nat) + (1 : Nat)) (0 : Int)) (xs.getD ((0 : Nat) + (↑(i + (1 : Nat) + j) : Int).toNat * (4 : Nat) + (1 : Nat) + (1 : Nat)) (0 : Int)) (xs.getD ((0 : Nat) + (↑(i + (1 : Nat) + j) : Int).toNat * (4 : Nat) + (1 : Nat) + (1 : Nat) + (1 : Nat)) (0 : Int))) (xp2 (xs.getD ((0 : Nat) + (↑i : Int).toNat * (4 : Nat)) (0 : Int)) (xs.getD ((0 : Nat) + (↑i : Int).toNat * (4 : Nat) + (1 : Nat)) (0 : Int)) (xs.getD ((0 : Nat) + (↑i : Int).toNat * (4 : Nat) + (1 : Nat) + (1 : Nat)) (0 : Int)) (xs.getD ((0 : Nat) + (↑i : Int).toNat * (4 : Nat) + (1 : Nat) + (1 : Nat) + (1 : Nat)) (0 : Int)) (xs.getD ((0 : Nat) + (↑(i + (1 : Nat) + j) : Int).toNat * (4 : Nat)) (0 : Int)) (xs.getD ((0 : Nat) + (↑(i + (1 : Nat) + j) : Int).toNat * (4 : Nat) + (1 : Nat)) (0 : Int)) (xs.getD ((0 : Nat) + (↑(i + (1 : Nat) + j) : Int).toNat * (4 : Nat) + (1 : Nat) + (1 : Nat)) (0 : Int)) (xs.getD ((0 : Nat) + (↑(i + (1 : Nat) + j) : Int).toNat * (4 : Nat) + (1 : Nat) + (1 : Nat) + (1 : Nat)) (0 : Int))) (xp3 (xs.getD ((0 : Nat) + (↑i : Int).toNat * (4 : Nat)) (0 : Int)) (xs.getD ((0 : Nat) + (↑i : Int).toNat * (4 : Nat) + (1 : Nat)) (0 : Int)) (xs.getD ((0 : Nat) + (↑i : Int).toNat * (4 : Nat) + (1 : Nat) + (1 : Nat)) (0 : Int)) (xs.getD ((0 : Nat) + (↑i : Int).toNat * (4 : Nat) + (1 : Nat) + (1 : Nat) + (1 : Nat)) (0 : Int)) (xs.getD ((0 : Nat) + (↑(i + (1 : Nat) + j) : Int).toNat * (4 : Nat)) (0 : Int)) (xs.getD ((0 : Nat) + (↑(i + (1 : Nat) + j) : Int).toNat * (4 : Nat) + (1 : Nat)) (0 : Int)) (xs.getD ((0 : Nat) + (↑(i + (1 : Nat) + j) : Int).toNat * (4 : Nat) + (1 : Nat) + (1 : Nat)) (0 : Int)) (xs.getD ((0 : Nat) + (↑(i + (1 : Nat) + j) : Int).toNat * (4 : Nat) + (1 : Nat) + (1 : Nat) + (1 : Nat)) (0 : Int))) (xp4 (xs.getD ((0 : Nat) + (↑i : Int).toNat * (4 : Nat)) (0 : Int)) (xs.getD ((0 : Nat) + (↑i : Int).toNat * (4 : Nat) + (1 : Nat)) (0 : Int)) (xs.getD ((0 : Nat) + (↑i : Int).toNat * (4 : Nat) + (1 : Nat) + (1 : Nat)) (0 : Int)) (xs.getD ((0 : Nat) + (↑i : Int).toNat * (4 : Nat) + (1 : Nat) + (1 : Nat) + (1 : Nat)) (0 : Int)) (xs.getD ((0 : Nat) + (↑(i + (1 : Nat) + j) : Int).toNat * (4 : Nat)) (0 : Int)) (xs.getD ((0 : Nat) + (↑(i + (1 : Nat) + j) : Int).toNat * (4 : Nat) + (1 : Nat)) (0 : Int)) (xs.getD ((0 : Nat) + (↑(i + (1 : Nat) + j) : Int).toNat * (4 : Nat) + (1 : Nat) + (1 : Nat)) (0 : Int)) (xs.getD ((0 : Nat) + (↑(i + (1 : Nat) + j) : Int).toNat * (4 : Nat) + (1 : Nat) + (1 : Nat) + (1 : Nat)) (0 : Int))) = true) (.leaf .normal ⟨(.slice (some ⟨0, 0, none⟩) (n) (n) :: topV :: topV :: .slice (some ⟨6, 0, none⟩) ((inZ (xp1 (xs.getD (0 + (↑i : Int).toNat * 4) 0) (xs.getD (0 + (↑i : Int).toNat * 4 + 1) 0) (xs.getD (0 + (↑i : Int).toNat * 4 + 1 + 1) 0) (xs.getD (0 + (↑i : Int).toNat * 4 + 1 + 1 + 1) 0) (xs.getD (0 + (↑(i + 1 + j) : Int).toNat * 4) 0) (xs.getD (0 + (↑(i + 1 + j) : Int).toNat * 4 + 1) 0) (xs.getD (0 + (↑(i + 1 + j) : Int).toNat * 4 + 1 + 1) 0) (xs.getD (0 + (↑(i + 1 + j) : Int).toNat * 4 + 1 + 1 + 1) 0)) (xp2 (xs.getD (0 + (↑i : Int).toNat * 4) 0) (xs.getD (0 + (↑i : Int).toNat * 4 + 1) 0) (xs.getD (0 + (↑i : Int).toNat * 4 + 1 + 1) 0) (xs.getD (0 + (↑i : Int).toNat * 4 + 1 + 1 + 1) 0) (xs.getD (0 + (↑(i + 1 + j) : Int).toNat * 4) 0) (xs.getD (0 + (↑(i + 1 + j) : Int).toNat * 4 + 1) 0) (xs.getD (0 + (↑(i + 1 + j) : Int).toNat * 4 + 1 + 1) 0) (xs.getD (0 + (↑(i + 1 + j) : Int).toNat * 4 + 1 + 1 + 1) 0)) (xp3 (xs.getD (0 + (↑i : Int).toNat * 4) 0) (xs.getD (0 + (↑i : Int).toNat * 4 + 1) 0) (xs.getD (0 + (↑i : Int).toNat * 4 + 1 + 1) 0) (xs.getD (0 + (↑i : Int).toNat * 4 + 1 + 1 + 1) 0) (xs.getD (0 + (↑(i + 1 + j) : Int).toNat * 4) 0) (xs.getD (0 + (↑(i + 1 + j) : Int).toNat * 4 + 1) 0) (xs.getD (0 + (↑(i + 1 + j) : Int).toNat * 4 + 1 + 1) 0) (xs.getD (0 + (↑(i + 1 + j) : Int).toNat * 4 + 1 + 1 + 1) 0)) (xp4 (xs.getD (0 + (↑i : Int).toNat * 4) 0) (xs.getD (0 + (↑i : Int).toNat * 4 + 1) 0) (xs.getD (0 + (↑i : Int).toNat * 4 + 1 + 1) 0) (xs.getD (0 + (↑i : Int).toNat * 4 + 1 + 1 + 1) 0) (xs.getD (0 + (↑(i + 1 + j) : Int).toNat * 4) 0) (xs.getD (0 + (↑(i + 1 + j) : Int).toNat * 4 + 1) 0) (xs.getD (0 + (↑(i + 1 + j) : Int).toNat * 4 + 1 + 1) 0) (xs.getD (0 + (↑(i + 1 + j) : Int).toNat * 4 + 1 + 1 + 1) 0)) (cmL xs n (offR n 0 i + j)).length (fl4 (cmL xs n (offR n 0 i + j)))).length) ((inZ (xp1 (xs.getD (0 + (↑i : Int).toNat * 4) 0) (xs.getD (0 + (↑i : Int).toNat * 4 + 1) 0) (xs.getD (0 + (↑i : Int).toNat * 4 + 1 + 1) 0) (xs.getD (0 + (↑i : Int).toNat * 4 + 1 + 1 + 1) 0) (xs.getD (0 + (↑(i + 1 + j) : Int).toNat * 4) 0) (xs.getD (0 + (↑(i + 1 + j) : Int).toNat * 4 + 1) 0) (xs.getD (0 + (↑(i + 1 + j) : Int).toNat * 4 + 1 + 1) 0) (xs.getD (0 + (↑(i + 1 + j) : Int).toNat * 4 + 1 + 1 + 1) 0)) (xp2 (xs.getD (0 + (↑i : Int).toNat * 4) 0) (xs.getD (0 + (↑i : Int).toNat * 4 + 1) 0) (xs.getD (0 + (↑i : Int).toNat * 4 + 1 + 1) 0) (xs.getD (0 + (↑i : Int).toNat * 4 + 1 + 1 + 1) 0) (xs.getD (0 + (↑(i + 1 + j) : Int).toNat * 4) 0) (xs.getD (0 + (↑(i + 1 + j) : Int).toNat * 4 + 1) 0) (xs.getD (0 + (↑(i + 1 + j) : Int).toNat * 4 + 1 + 1) 0) (xs.getD (0 + (↑(i + 1 + j) : Int).toNat * 4 + 1 + 1 + 1) 0)) (xp3 (xs.getD (0 + (↑i : Int).toNat * 4) 0) (xs.getD (0 + (↑i : Int).toNat * 4 + 1) 0) (xs.getD (0 + (↑i : Int).toNat * 4 + 1 + 1) 0) (xs.getD (0 + (↑i : Int).toNat * 4 + 1 + 1 + 1) 0) (xs.getD (0 + (↑(i + 1 + j) : Int).toNat * 4) 0) (xs.getD (0 + (↑(i + 1 + j) : Int).toNat * 4 + 1) 0) (xs.getD (0 + (↑(i + 1 + j) : Int).toNat * 4 + 1 + 1) 0) (xs.getD (0 + (↑(i + 1 + j) : Int).toNat * 4 + 1 + 1 + 1) 0)) (xp4 (xs.getD (0 + (↑i : Int).toNat * 4) 0) (xs.getD (0 + (↑i : Int).toNat * 4 + 1) 0) (xs.getD (0 + (↑i : Int).toNat * 4 + 1 + 1) 0) (xs.getD (0 + (↑i : Int).toNat * 4 + 1 + 1 + 1) 0) (xs.getD (0 + (↑(i + 1 + j) : Int).toNat * 4) 0) (xs.getD (0 + (↑(i + 1 + j) : Int).toNat * 4 + 1) 0) (xs.getD (0 + (↑(i + 1 + j) : Int).toNat * 4 + 1 + 1) 0) (xs.getD (0 + (↑(i + 1 + j) : Int).toNat * 4 + 1 + 1 + 1) 0)) (cmL xs n (offR n 0 i + j)).length (fl4 (cmL xs n (offR n 0 i + j)))).length) :: .int .i64 ((↑i : Int)) :: .int .i64 (IntKind.i64.wrap ((↑(i + 1 + j) : Int) + 1)) :: topV :: topV :: topV :: topV :: topV :: topV :: topV :: topV :: topV :: topV :: topV :: topV :: topV :: topV :: topV :: topV :: topV :: topV :: topV :: topV :: topV :: topV :: topV :: topV :: topV :: topV :: topV :: topV :: topV :: topV :: topV :: topV :: topV :: topV :: topV :: topV :: topV :: topV :: topV :: topV :: []), [some ⟨.view, .ints (xs)⟩, some deadB, some deadB, some deadB, none, none, some ⟨.row 52 4, .ints (fl4 (inZ (xp1 (xs.getD (0 + (↑i : Int).toNat * 4) 0) (xs.getD (0 + (↑i : Int).toNat * 4 + 1) 0) (xs.getD (0 + (↑i : Int).toNat * 4 + 1 + 1) 0) (xs.getD (0 + (↑i : Int).toNat * 4 + 1 + 1 + 1) 0) (xs.getD (0 + (↑(i + 1 + j) : Int).toNat * 4) 0) (xs.getD (0 + (↑(i + 1 + j) : Int).toNat * 4 + 1) 0) (xs.getD (0 + (↑(i + 1 + j) : Int).toNat * 4 + 1 + 1) 0) (xs.getD (0 + (↑(i + 1 + j) : Int).toNat * 4 + 1 + 1 + 1) 0)) (xp2 (xs.getD (0 + (↑i : Int).toNat * 4) 0) (xs.getD (0 + (↑i : Int).toNat * 4 + 1) 0) (xs.getD (0 + (↑i : Int).toNat * 4 + 1 + 1) 0) (xs.getD (0 + (↑i : Int).toNat * 4 + 1 + 1 + 1) 0) (xs.getD (0 + (↑(i + 1 + j) : Int).toNat * 4) 0) (xs.getD (0 + (↑(i + 1 + j) : Int).toNat * 4 + 1) 0) (xs.getD (0 + (↑(i + 1 + j) : Int).toNat * 4 + 1 + 1) 0) (xs.getD (0 + (↑(i + 1 + j) : Int).toNat * 4 + 1 + 1 + 1) 0)) (xp3 (xs.getD (0 + (↑i : Int).toNat * 4) 0) (xs.getD (0 + (↑i : Int).toNat * 4 + 1) 0) (xs.getD (0 + (↑i : Int).toNat * 4 + 1 + 1) 0) (xs.getD (0 + (↑i : Int).toNat * 4 + 1 + 1 + 1) 0) (xs.getD (0 + (↑(i + 1 + j) : Int).toNat * 4) 0) (xs.getD (0 + (↑(i + 1 + j) : Int).toNat * 4 + 1) 0) (xs.getD (0 + (↑(i + 1 + j) : Int).toNat * 4 + 1 + 1) 0) (xs.getD (0 + (↑(i + 1 + j) : Int).toNat * 4 + 1 + 1 + 1) 0)) (xp4 (xs.getD (0 + (↑i : Int).toNat * 4) 0) (xs.getD (0 + (↑i : Int).toNat * 4 + 1) 0) (xs.getD (0 + (↑i : Int).toNat * 4 + 1 + 1) 0) (xs.getD (0 + (↑i : Int).toNat * 4 + 1 + 1 + 1) 0) (xs.getD (0 + (↑(i + 1 + j) : Int).toNat * 4) 0) (xs.getD (0 + (↑(i + 1 + j) : Int).toNat * 4 + 1) 0) (xs.getD (0 + (↑(i + 1 + j) : Int).toNat * 4 + 1 + 1) 0) (xs.getD (0 + (↑(i + 1 + j) : Int).toNat * 4 + 1 + 1 + 1) 0)) (cmL xs n (offR n 0 i + j)).length (fl4 (cmL xs n (offR n 0 i + j)))))⟩]⟩)))))))))))))) (.leaf .normal ⟨(.slice (some ⟨0, 0, none⟩) (n) (n) :: topV :: topV :: .slice (some ⟨3, 0, none⟩) ((cmL xs n (offR n 0 i + j)).length) ((cmL xs n (offR n 0 i + j)).length) :: .int .i64 ((↑i : Int)) :: .int .i64 (IntKind.i64.wrap ((↑(i + 1 + j) : Int) + 1)) :: topV :: topV :: topV :: topV :: topV :: topV :: topV :: topV :: topV :: topV :: topV :: topV :: topV :: topV :: topV :: topV :: topV :: topV :: topV :: topV :: topV :: topV :: topV :: topV :: topV :: topV :: topV :: topV :: topV :: topV :: topV :: topV :: topV :: topV :: topV :: topV :: topV :: topV :: topV :: topV :: []), [some ⟨.view, .ints (xs)⟩, some deadB, some deadB, some ⟨.row 52 4, .ints (fl4 (cmL xs n (offR n 0 i + j)))⟩, none]⟩)))))))))) (.leaf (.exit 2) ⟨(.slice (some ⟨0, 0, none⟩) (n) (n) :: topV :: topV :: .slice (some ⟨3, 0, none⟩) ((cmL xs n (offR n 0 i + j)).length) ((cmL xs n (offR n 0 i + j)).length) :: .int .i64 ((↑i : Int)) :: topV :: topV :: topV :: topV :: topV :: topV :: topV :: topV :: topV :: topV :: topV :: topV :: topV :: topV :: topV :: topV :: topV :: topV :: topV :: topV :: topV :: topV :: topV :: topV :: topV :: topV :: topV :: topV :: topV :: topV :: topV :: topV :: topV :: topV :: topV :: topV :: topV :: topV :: topV :: topV :: topV :: []), [some ⟨.view, .ints (xs)⟩, some deadB, some deadB, some ⟨.row 52 4, .ints (fl4 (cmL xs n (offR n 0 i + j)))⟩]⟩) := by kernel_rfl
set_option maxRecDepth 100000 in
theorem nl_ciI : loopsOf c_ciI = [] := by kernel_rfl
def inv_ciI (xs : List Int) (n i : Nat) : Nat → Prop := fun j => i + 1 + j ≤ n
def me_ciI (xs : List Int) (n i : Nat) : Nat → Nat := fun j => n - (i + 1 + j)
/-- A round of this loop. -/
def Round_ciI (xs : List Int) (n i : Nat) : Prop := ∀ xx : Nat, inv_ciI xs n i xx → (bodyL Try.prog ECm 30 12 noL 2 c_ciI k_ciI 16 (s_ciI xs n i xx)).ok (RoundEnd 3 (s_ciI xs n i) (inv_ciI xs n i) (me_ciI xs n i) re_ciI (rs_ciI xs n i) xx) (fun _ _ => False)
def e_ciI (s : St) (k : Ex → St → Tree) : Option Tree := match Nat.beq s.tmps.length 46, pickL s.tmps [0, 3, 4, 5], s.mem with
  | true, [.slice (some ⟨0, 0, none⟩) n _, .slice (some ⟨2, 0, none⟩) m _, .int .i64 ii, .int .i64 kk], [some ⟨.view, .ints xs⟩, some ⟨.dead, .vals []⟩, some ⟨.row 52 4, .ints ys⟩] => some (needs [0 ≤ ii, kk = ii + 1, xs.length = n * 4, n ≤ 12, vsB n xs = true, ii < n, ys = fl4 (cmL xs n (offR n 0 ii.toNat)), m = (cmL xs n (offR n 0 ii.toNat)).length] (k (.exit 2) ⟨(.slice (some ⟨0, 0, none⟩) n n :: topV :: topV :: .slice (some ⟨3, 0, none⟩) (cmL xs n (offR n 0 (ii.toNat + 1))).length (cmL xs n (offR n 0 (ii.toNat + 1))).length :: .int .i64 ii :: topV :: topV :: topV :: topV :: topV :: topV :: topV :: topV :: topV :: topV :: topV :: topV :: topV :: topV :: topV :: topV :: topV :: topV :: topV :: topV :: topV :: topV :: topV :: topV :: topV :: topV :: topV :: topV :: topV :: topV :: topV :: topV :: topV :: topV :: topV :: topV :: topV :: topV :: topV :: topV :: topV :: []), [some ⟨.view, .ints xs⟩, some ⟨.dead, .vals []⟩, some ⟨.dead, .vals []⟩, some ⟨.row 52 4, .ints (fl4 (cmL xs n (offR n 0 (ii.toNat + 1))))⟩]⟩))
  | _, _, _ => none
theorem inZ_is (x y u v : Int) (ps : List Q4) : inZ x y u v ps.length (fl4 ps) = inQ (x, y, u, v) ps := by
  unfold inZ
  rw [q4A_fl4]
set_option maxRecDepth 100000 in
set_option maxHeartbeats 2000000 in
theorem round_ciI (xs : List Int) (n i : Nat) (hx : xs.length = n * 4) (h : n ≤ 12) (hv : vsB n xs = true) (hi : i < n) : Round_ciI xs n i := by
  intro j h1
  have h1 : i + 1 + j ≤ n := h1
  rw [tr_ciI]
  have hl := cmL_len xs n (offR n 0 i + j)
  have hb := offR_le n n 0
  have hm := offR_mono n (show i ≤ n by omega)
  have hnn : n * n ≤ 12 * 12 := Nat.mul_le_mul h h
  have fl := fl4_length (cmL xs n (offR n 0 i + j))
  simp only [Int.toNat_natCast, Nat.zero_add, fl4B, List.drop_zero, inZ_is]
  refine brT_ok.2 ⟨fun hlt => ?_, fun hge => ?_⟩
  · have hlt : i + 1 + j < n := by have := of_decide_eq_true hlt; omega
    have ep : prA n (offR n 0 i + j) = (i, i + 1 + j) := by
      have := prA_at (n := n) (a := i) (b := i + 1 + j) (by omega) hlt
      rwa [show i + 1 + j - i - 1 = j by omega] at this
    have ol : offR n 0 i + j < offR n 0 n := by
      have := off_lt (n := n) (a := i) (b := i + 1 + j) (by omega) hlt
      rwa [show i + 1 + j - i - 1 = j by omega] at this
    have eq : cpQ xs n (offR n 0 i + j) = (relA (xs.getD (i * 4) 0) (xs.getD (i * 4 + 1) 0) (xs.getD (i * 4 + 2) 0) (xs.getD (i * 4 + 3) 0) (xs.getD ((i + 1 + j) * 4) 0) (xs.getD ((i + 1 + j) * 4 + 1) 0) (xs.getD ((i + 1 + j) * 4 + 2) 0) (xs.getD ((i + 1 + j) * 4 + 3) 0) == 2) := by
      unfold cpQ
      rw [ep, rl4_A hv hi hlt]
    have ok := cmL_ok hv (offR n 0 i + j) (by omega)
    obtain ⟨p1, p2⟩ := slQ_pt (vs_seg hv hi)
    obtain ⟨p3, p4⟩ := slQ_pt (vs_seg hv hlt)
    rw [wsucc (n := n) hlt (by omega)]
    refine ⟨p1, p2, p3, p4, ⟨by omega, by omega⟩, by omega, ⟨by omega, by omega⟩, by omega, brT_ok.2 ⟨fun c => ?_, fun c => ?_⟩⟩
    · have c : cpQ xs n (offR n 0 i + j) = true := eq.trans c
      have cr := c
      unfold cpQ at cr
      rw [ep] at cr
      obtain ⟨_, _, _, _, p5⟩ := cp_yes hv hi hlt (beq_iff_eq.1 cr)
      have e : cmL xs n (offR n 0 i + (j + 1)) = inQ (xpAt xs i (i + 1 + j)) (cmL xs n (offR n 0 i + j)) := by
        show cmL xs n (offR n 0 i + j + 1) = _
        simp only [cmL, c, cond_true, ep]
      have oa : okQ (xpAt xs i (i + 1 + j)) = true := xpAt_ok hv hi hlt (beq_iff_eq.1 cr)
      refine ⟨p1, p2, p3, p4, p5, ⟨by omega, by omega⟩, by omega, ⟨by omega, by omega⟩, by omega, fl, by omega, by unfold allV4; rw [q4A_fl4]; exact ok, oa, j + 1, [some 6], ?_, ?_, rfl, rfl, ?_⟩
      · show i + 1 + (j + 1) ≤ n; omega
      · show n - (i + 1 + (j + 1)) < n - (i + 1 + j); omega
      · unfold s_ciI
        rw [e]
        repeat' (first | exact True.intro | exact rfl | exact fun _ => rfl | (simp; done) | refine And.intro ?_ ?_)
    · have e : cmL xs n (offR n 0 i + (j + 1)) = cmL xs n (offR n 0 i + j) := by
        show cmL xs n (offR n 0 i + j + 1) = _
        have c : cpQ xs n (offR n 0 i + j) = false := eq.trans c
        simp only [cmL, c, cond_false]
      refine ⟨j + 1, [some 3], ?_, ?_, rfl, rfl, ?_⟩
      · show i + 1 + (j + 1) ≤ n; omega
      · show n - (i + 1 + (j + 1)) < n - (i + 1 + j); omega
      · unfold s_ciI
        rw [e]
        repeat' (first | exact True.intro | exact rfl | exact fun _ => rfl | (simp; done) | refine And.intro ?_ ?_)
  · have hge := of_decide_eq_false hge
    have e : offR n 0 (i + 1) = offR n 0 i + j := by
      rw [offR_succ]
      omega
    refine ⟨rfl, [some 3], ?_⟩
    unfold rs_ciI
    rw [e]
    repeat' (first | exact True.intro | exact rfl | exact fun _ => rfl | (simp; done) | refine And.intro ?_ ?_)
set_option maxRecDepth 100000 in
theorem lg_ciI : LoopE Try.prog e_ciI c_ciI := by
  intro s k t F H hlt ht
  unfold e_ciI at hlt
  split at hlt
  rotate_left
  · cases hlt
  rename_i hlen hpick hmem
  obtain ⟨tmps, mem⟩ := s
  simp only at hlen hpick hmem
  subst hmem
  obtain rfl := Option.some.inj hlt
  obtain ⟨⟨h0, h1, h2, h3, h4, h5, h6, h7, _⟩, ht2⟩ := needs_ok ht
  clear ht hlt
  subst h6 h7
  obtain ⟨i, rfl⟩ := Int.eq_ofNat_of_zero_le h0
  simp only [Int.toNat_natCast] at ht2
  obtain rfl := h1
  refine ⟨_, _, ht2, loop_run2 mixed ECm_ok (s_ciI _ _ i) (inv_ciI _ _ i) (me_ciI _ _ i) re_ciI (rs_ciI _ _ i) k_ciI (fun _ => rfl) (noLoops nl_ciI) (round_ciI _ _ i h2 h3 h4 (by omega)) (x := 0) (by show i + 1 + 0 ≤ _; omega) (π := [some 2]) rfl ?_⟩
  refine ⟨rfl, rfl, ?_, wvs_spread' [0, 3, 4, 5] hlen rfl ?_⟩
  · repeat' (first | exact True.intro | exact rfl | exact wv_top _ _ | exact fun _ => rfl | assumption | exact Eq.symm (by assumption) | exact vI0 rfl | refine And.intro ?_ ?_)
  · rw [hpick]
    repeat' (first | exact True.intro | exact rfl | exact wv_top _ _ | exact fun _ => rfl | assumption | exact Eq.symm (by assumption) | exact vI0 rfl | refine And.intro ?_ ?_)
def ltCi : LT := fun j s k => match j with
  | 1 => e_ciI s k
  | _ => none
noncomputable def c_ciO : Code := ((loopsOf (codeOf Try.f31))[0]?).getD .skip
def k_ciO : Ex → List Nat := keeps [0, 3, 4] [(0, [3])] [2]
def s_ciO (xs : List Int) (n : Nat) : Nat → St := fun i => ⟨(.slice (some ⟨0, 0, none⟩) n n :: topV :: topV :: .slice (some ⟨2, 0, none⟩) (cmL xs n (offR n 0 i)).length (cmL xs n (offR n 0 i)).length :: .int .i64 i :: topV :: topV :: topV :: topV :: topV :: topV :: topV :: topV :: topV :: topV :: topV :: topV :: topV :: topV :: topV :: topV :: topV :: topV :: topV :: topV :: topV :: topV :: topV :: topV :: topV :: topV :: topV :: topV :: topV :: topV :: topV :: topV :: topV :: topV :: topV :: topV :: topV :: topV :: topV :: topV :: topV :: []), [some ⟨.view, .ints xs⟩, some ⟨.dead, .vals []⟩, some ⟨.row 52 4, .ints (fl4 (cmL xs n (offR n 0 i)))⟩]⟩
def re_ciO : Nat → Ex := fun _ => .exit 0
def rs_ciO (xs : List Int) (n : Nat) : Nat → St := fun i => ⟨(topV :: topV :: topV :: .slice (some ⟨2, 0, none⟩) (cmL xs n (offR n 0 n)).length (cmL xs n (offR n 0 n)).length :: topV :: topV :: topV :: topV :: topV :: topV :: topV :: topV :: topV :: topV :: topV :: topV :: topV :: topV :: topV :: topV :: topV :: topV :: topV :: topV :: topV :: topV :: topV :: topV :: topV :: topV :: topV :: topV :: topV :: topV :: topV :: topV :: topV :: topV :: topV :: topV :: topV :: topV :: topV :: topV :: topV :: topV :: []), [some ⟨.view, .ints xs⟩, some ⟨.dead, .vals []⟩, some ⟨.row 52 4, .ints (fl4 (cmL xs n (offR n 0 n)))⟩]⟩
set_option maxRecDepth 100000 in
theorem tr_ciO (xs : List Int) (n : Nat) (i : Nat) : bodyL Try.prog ECm 30 12 ltCi 1 c_ciO k_ciO 16 (s_ciO xs n i) = brT (decide ((↑i : Int) < (↑n : Int))) (.need ((0 : Int) ≤ (↑i : Int)) (.need (IntKind.i64.wrap ((↑i : Int) + (1 : Int)) = (↑i : Int) + (1 : Int)) (.need (xs.length = n * (4 : Nat)) (.need (n ≤ (12 : Nat)) (.need (vsB n xs = true) (.need ((↑i : Int) < (↑n : Int)) (.need (fl4 (cmL xs n (offR n (0 : Nat) i)) = fl4 (cmL xs n (offR n (0 : Nat) (↑i : Int).toNat))) (.need ((cmL xs n (offR n (0 : Nat) i)).length = (cmL xs n (offR n (0 : Nat) (↑i : Int).toNat)).length) (.leaf .normal ⟨(.slice (some ⟨0, 0, none⟩) (n) (n) :: topV :: topV :: .slice (some ⟨3, 0, none⟩) ((cmL xs n (offR n 0 ((↑i : Int).toNat + 1))).length) ((cmL xs n (offR n 0 ((↑i : Int).toNat + 1))).length) :: .int .i64 (IntKind.i64.wrap ((↑i : Int) + 1)) :: topV :: topV :: topV :: topV :: topV :: topV :: topV :: topV :: topV :: topV :: topV :: topV :: topV :: topV :: topV :: topV :: topV :: topV :: topV :: topV :: topV :: topV :: topV :: topV :: topV :: topV :: topV :: topV :: topV :: topV :: topV :: topV :: topV :: topV :: topV :: topV :: topV :: topV :: topV :: topV :: topV :: []), [some ⟨.view, .ints (xs)⟩, some deadB, some deadB, some ⟨.row 52 4, .ints (fl4 (cmL xs n (offR n 0 ((↑i : Int).toNat + 1))))⟩]⟩))))))))) (.leaf (.exit 0) ⟨(topV :: topV :: topV :: .slice (some ⟨2, 0, none⟩) ((cmL xs n (offR n 0 i)).length) ((cmL xs n (offR n 0 i)).length) :: topV :: topV :: topV :: topV :: topV :: topV :: topV :: topV :: topV :: topV :: topV :: topV :: topV :: topV :: topV :: topV :: topV :: topV :: topV :: topV :: topV :: topV :: topV :: topV :: topV :: topV :: topV :: topV :: topV :: topV :: topV :: topV :: topV :: topV :: topV :: topV :: topV :: topV :: topV :: topV :: topV :: topV :: []), [some ⟨.view, .ints (xs)⟩, some deadB, some ⟨.row 52 4, .ints (fl4 (cmL xs n (offR n 0 i)))⟩]⟩) := by kernel_rfl
def inv_ciO (xs : List Int) (n : Nat) : Nat → Prop := fun i => i ≤ n
def me_ciO (xs : List Int) (n : Nat) : Nat → Nat := fun i => n - i
/-- A round of this loop. -/
def Round_ciO (xs : List Int) (n : Nat) : Prop := ∀ xx : Nat, inv_ciO xs n xx → (bodyL Try.prog ECm 30 12 ltCi 1 c_ciO k_ciO 16 (s_ciO xs n xx)).ok (RoundEnd 2 (s_ciO xs n) (inv_ciO xs n) (me_ciO xs n) re_ciO (rs_ciO xs n) xx) (fun _ _ => False)
def e_ciO (s : St) (k : Ex → St → Tree) : Option Tree := match Nat.beq s.tmps.length 46, pickL s.tmps [0, 3, 4], s.mem with
  | true, [.slice (some ⟨0, 0, none⟩) n _, .slice (some ⟨1, 0, none⟩) z _, .int .i64 ii], [some ⟨.view, .ints xs⟩, some ⟨.row 52 4, .vals []⟩] => some (needs [ii = 0, z = 0, xs.length = n * 4, n ≤ 12, vsB n xs = true] (k (.exit 0) ⟨(topV :: topV :: topV :: .slice (some ⟨2, 0, none⟩) (cmL xs n (offR n 0 n)).length (cmL xs n (offR n 0 n)).length :: topV :: topV :: topV :: topV :: topV :: topV :: topV :: topV :: topV :: topV :: topV :: topV :: topV :: topV :: topV :: topV :: topV :: topV :: topV :: topV :: topV :: topV :: topV :: topV :: topV :: topV :: topV :: topV :: topV :: topV :: topV :: topV :: topV :: topV :: topV :: topV :: topV :: topV :: topV :: topV :: topV :: topV :: []), [some ⟨.view, .ints xs⟩, some ⟨.dead, .vals []⟩, some ⟨.row 52 4, .ints (fl4 (cmL xs n (offR n 0 n)))⟩]⟩))
  | _, _, _ => none
set_option maxRecDepth 100000 in
theorem in_ciO : loopsOf c_ciO = [c_ciI] := by kernel_rfl
theorem ltCi_good : LoopsGood Try.prog ltCi 1 c_ciO := by
  intro i d hd s k t F H hlt ht
  rw [in_ciO] at hd
  cases i with
  | zero =>
    obtain rfl : c_ciI = d := by simpa using hd
    exact lg_ciI s k t F H hlt ht
  | succ i => simp at hd
set_option maxRecDepth 100000 in
theorem round_ciO (xs : List Int) (n : Nat) (hx : xs.length = n * 4) (h : n ≤ 12) (hv : vsB n xs = true) : Round_ciO xs n := by
  intro i h1
  have h1 : i ≤ n := h1
  rw [tr_ciO]
  refine brT_ok.2 ⟨fun hlt => ?_, fun hge => ?_⟩
  · have hlt : i < n := by have := of_decide_eq_true hlt; omega
    have w : IntKind.i64.wrap ((i : Int) + 1) = ((i + 1 : Nat) : Int) := wsucc (n := n) hlt (by omega)
    rw [w]
    refine ⟨by omega, by omega, hx, h, hv, by omega, rfl, rfl, i + 1, [some 3], ?_, ?_, rfl, rfl, ?_⟩
    · show i + 1 ≤ n; omega
    · show n - (i + 1) < n - i; omega
    · unfold s_ciO
      repeat' (first | exact True.intro | exact rfl | exact fun _ => rfl | (simp; done) | refine And.intro ?_ ?_)
  · have hge := of_decide_eq_false hge
    obtain rfl : i = n := by omega
    refine ⟨rfl, [some 2], ?_⟩
    unfold rs_ciO
    repeat' (first | exact True.intro | exact rfl | exact fun _ => rfl | (simp; done) | refine And.intro ?_ ?_)
set_option maxRecDepth 100000 in
theorem lg_ciO : LoopE Try.prog e_ciO c_ciO := by
  intro s k t F H hlt ht
  unfold e_ciO at hlt
  split at hlt
  rotate_left
  · cases hlt
  rename_i hlen hpick hmem
  obtain ⟨tmps, mem⟩ := s
  simp only at hlen hpick hmem
  subst hmem
  obtain rfl := Option.some.inj hlt
  obtain ⟨⟨rfl, rfl, h2, h3, h4, _⟩, ht2⟩ := needs_ok ht
  clear ht hlt
  refine ⟨_, _, ht2, loop_run2 mixed ECm_ok (s_ciO _ _) (inv_ciO _ _) (me_ciO _ _) re_ciO (rs_ciO _ _) k_ciO (fun _ => rfl) ltCi_good (round_ciO _ _ h2 h3 h4) (x := 0) (Nat.zero_le _) (π := [some 1]) rfl ?_⟩
  refine ⟨rfl, rfl, ?_, wvs_spread' [0, 3, 4] hlen rfl ?_⟩
  · repeat' (first | exact True.intro | exact rfl | exact wv_top _ _ | exact fun _ => rfl | assumption | exact Eq.symm (by assumption) | exact vI0 rfl | refine And.intro ?_ ?_)
  · rw [hpick]
    repeat' (first | exact True.intro | exact rfl | exact wv_top _ _ | exact fun _ => rfl | assumption | exact Eq.symm (by assumption) | exact vI0 rfl | refine And.intro ?_ ?_)
end Go.Proofs.Ytolodncpegajkaa
namespace Go.Proofs.Ytolodncpegajkaa
set_option linter.all false
open Go.RowKit
theorem inQ_up {p : Q4} (hp : okQ p = true) : ∀ {ps : List Q4}, (∀ q ∈ ps, okQ q = true) → ps.Pairwise (fun x y => qLt x y = true) → (inQ p ps).Pairwise fun x y => qLt x y = true
  | [], _, _ => List.pairwise_singleton _ _
  | q :: r, ho, hu => by
    obtain ⟨u1, u2⟩ := List.pairwise_cons.1 hu
    have oq := ho q (List.mem_cons_self ..)
    have or_ : ∀ z ∈ r, okQ z = true := fun z hz => ho z (List.mem_cons_of_mem _ hz)
    simp only [inQ]
    split
    · rename_i hlt
      refine List.pairwise_cons.2 ⟨fun z hz => ?_, inQ_up hp or_ u2⟩
      rcases (inQ_mem p r z).1 hz with hz | rfl
      · exact u1 z hz
      · exact hlt
    · rename_i hlt
      split
      · exact hu
      · rename_i hne
        have hpq : qLt p q = true := by
          rcases qLt_tri hp oq with h | h | h
          · exact h
          · exact absurd h.symm hne
          · exact absurd h hlt
        refine List.pairwise_cons.2 ⟨fun z hz => ?_, hu⟩
        rcases List.mem_cons.1 hz with rfl | hz
        · exact hpq
        · exact qLt_trans hp oq (or_ z hz) hpq (u1 z hz)
/-- Lists in strict order with the same points are the same. -/
theorem asc_eq : ∀ {xs ys : List Q4}, (∀ q ∈ xs, okQ q = true) → xs.Pairwise (fun x y => qLt x y = true) → ys.Pairwise (fun x y => qLt x y = true) → (∀ z, z ∈ xs ↔ z ∈ ys) → xs = ys
  | [], [], _, _, _, _ => rfl
  | [], y :: ys, _, _, _, h => by
    have := (h y).2 List.mem_cons_self
    simp at this
  | x :: xs, [], _, _, _, h => by
    have := (h x).1 List.mem_cons_self
    simp at this
  | x :: xs, y :: ys, ho, hx, hy, h => by
    obtain ⟨x1, x2⟩ := List.pairwise_cons.1 hx
    obtain ⟨y1, y2⟩ := List.pairwise_cons.1 hy
    have e : x = y := by
      rcases List.mem_cons.1 ((h x).1 List.mem_cons_self) with e | g1
      · exact e
      rcases List.mem_cons.1 ((h y).2 List.mem_cons_self) with e | g2
      · exact e.symm
      have k1 := y1 x g1
      have k2 := x1 y g2
      have := qLt_asymm (ho x List.mem_cons_self) (ho y (List.mem_cons_of_mem _ g2)) k2
      rw [this] at k1
      cases k1
    subst e
    refine congrArg (x :: ·) (asc_eq (fun q hq => ho q (List.mem_cons_of_mem _ hq)) x2 y2 fun z => ?_)
    have hz := h z
    simp only [List.mem_cons] at hz
    constructor
    · intro g
      rcases hz.1 (.inr g) with rfl | g2
      · have := x1 z g
        rw [qLt_irr] at this
        cases this
      · exact g2
    · intro g
      rcases hz.2 (.inr g) with rfl | g2
      · have := y1 z g
        rw [qLt_irr] at this
        cases this
      · exact g2
theorem stQ_up {qs : List Q4} (h : ∀ q ∈ qs, okQ q = true) : (stQ qs).Pairwise fun x y => qLt x y = true := by
  have hu := srtQ_up h
  have ho : ∀ q ∈ srtQ qs, okQ q = true := fun q hq => h q ((srtQ_mem qs q).1 hq)
  exact dmN_up ho (fun i j h1 h2 => by
    have := List.pairwise_iff_getElem.1 hu i j (by omega) h2 h1
    simpa [List.getD, h2, show i < (srtQ qs).length by omega] using this) (srtQ qs).length (Nat.le_refl _)
theorem cp_cm (xs : List Int) (n : Nat) (z : Q4) : ∀ t, z ∈ cpL xs n t ↔ z ∈ cmL xs n t
  | 0 => by simp [cpL, cmL]
  | t + 1 => by
    have ih := cp_cm xs n z t
    simp only [cpL, cmL]
    cases cpQ xs n t
    · exact ih
    · simp only [cond_true, List.mem_append, List.mem_singleton, inQ_mem, ih]
theorem cpL_ok {xs : List Int} {n : Nat} (hv : vsB n xs = true) (t : Nat) (ht : t ≤ offR n 0 n) : ∀ q ∈ cpL xs n t, okQ q = true := fun q hq => cmL_ok hv t ht q ((cp_cm xs n q t).1 hq)
theorem cmL_up {xs : List Int} {n : Nat} (hv : vsB n xs = true) : ∀ t, t ≤ offR n 0 n → (cmL xs n t).Pairwise fun x y => qLt x y = true
  | 0, _ => List.Pairwise.nil
  | t + 1, ht => by
    have ih := cmL_up hv t (by omega)
    have ho := cmL_ok hv t (by omega)
    simp only [cmL]
    rcases hc : cpQ xs n t with _ | _
    · exact ih
    · obtain ⟨l1, l2⟩ := prA_lt2 (n := n) (t := t) (by omega)
      exact inQ_up (xpAt_ok hv l1 l2 (beq_iff_eq.1 hc)) ho ih
/-- Both ways find the same list. -/
theorem st_cm {xs : List Int} {n : Nat} (hv : vsB n xs = true) : stQ (cpL xs n (offR n 0 n)) = cmL xs n (offR n 0 n) := by
  have ho := cpL_ok hv (offR n 0 n) (Nat.le_refl _)
  refine asc_eq (fun q hq => ho q ((stQ_mem _ q).1 hq)) (stQ_up ho) (cmL_up hv _ (Nat.le_refl _)) fun z => ?_
  rw [stQ_mem, cp_cm]
theorem Lr_ciO {fn : Func} (hf : Try.prog.funcs[31]? = some fn) : LoopsGood Try.prog (lt1 e_ciO) 0 (codeOf fn) := by
  obtain rfl := fn_is Try.func31 hf
  exact lt1_good lg_ciO
def LCi : FuncId → LT := fun f => match f with
  | 31 => lt1 e_ciO
  | _ => noL
theorem Gr_cpg {fn : Func} (hf : Try.prog.funcs[30]? = some fn) : RangesGood Try.prog (rt1 10 e_cpg) (codeOf fn) := by
  obtain rfl := fn_is Try.func30 hf
  exact rt1_good (by kernel_rfl) lg_cpg
def GCp : FuncId → RT := fun f => match f with
  | 30 => rt1 10 e_cpg
  | _ => noR
def ECx : Env := withG (withT (mkE TCq RSl1 LCi) JSs) GCp
theorem ECx_ok : EnvOk Try.prog ECx := withG_ok (withT_ok (mkEOk TCq_ok RSl1_ok (by
  intro f fn hf
  unfold LCi
  split
  all_goals first | with_reducible exact Lr_ciO hf | exact noL_good)) JSs_ok) (by
  intro f fn hf
  unfold GCp
  split
  all_goals first | with_reducible exact Gr_cpg hf | exact noR_good)
set_option maxRecDepth 100000 in
theorem tr_sCqF (n : Nat) (xs : List Int) : bodyX Try.prog ECx 30 12 31 [.row n (.ints xs)] = .need ((List.drop (0 : Nat) xs).length = n * (4 : Nat)) (.need (Lim n) (brT (!vsB n (List.drop 0 xs)) (.fin (.slice none (0) (0)) [some ⟨.view, .ints (xs)⟩, some ⟨.row 52 4, .vals []⟩]) (.need ((0 : Int) = (0 : Int)) (.need ((0 : Nat) = (0 : Nat)) (.need (xs.length = n * (4 : Nat)) (.need (n ≤ (12 : Nat)) (.need (vsB n xs = true) (.fin (.slice (some ⟨2, 0, none⟩) ((cmL xs n (offR n 0 n)).length) ((cmL xs n (offR n 0 n)).length)) [some ⟨.view, .ints (xs)⟩, some deadB, some ⟨.row 52 4, .ints (fl4 (cmL xs n (offR n 0 n)))⟩])))))))) := by kernel_rfl
set_option maxRecDepth 100000 in
theorem tr_iCqF (n : Nat) (xs : List Int) : bodyX Try.prog ECx 30 12 30 [.row n (.ints xs)] = .need ((List.drop (0 : Nat) xs).length = n * (4 : Nat)) (.need (Lim n) (brT (!vsB n (List.drop 0 xs)) (.fin (.slice none (0) (0)) [some ⟨.view, .ints (xs)⟩, some ⟨.box, .vals [.slice (some ⟨0, 0, none⟩) (n) (n)]⟩]) (.need (n = n) (.need (xs.length = n * (4 : Nat)) (.need (n ≤ (12 : Nat)) (.need (vsB n xs = true) (.need ((fl4 (cpL xs n (offR n (0 : Nat) n))).length = (cpL xs n (offR n (0 : Nat) n)).length * (4 : Nat)) (.need ((cpL xs n (offR n (0 : Nat) n)).length ≤ (1000000000 : Nat)) (.need (allV4 (cpL xs n (offR n (0 : Nat) n)).length (fl4 (cpL xs n (offR n (0 : Nat) n)))) (.need ((fl4 (srtQ (q4A (cpL xs n (offR n (0 : Nat) n)).length (fl4 (cpL xs n (offR n (0 : Nat) n)))))).length = (cpL xs n (offR n (0 : Nat) n)).length * (4 : Nat)) (.need ((cpL xs n (offR n (0 : Nat) n)).length ≤ (1000000000 : Nat)) (.fin (.slice (some ⟨5, 0, none⟩) ((dmP (q4A (cpL xs n (offR n 0 n)).length (fl4 (srtQ (q4A (cpL xs n (offR n 0 n)).length (fl4 (cpL xs n (offR n 0 n)))))))).length) ((dmP (q4A (cpL xs n (offR n 0 n)).length (fl4 (srtQ (q4A (cpL xs n (offR n 0 n)).length (fl4 (cpL xs n (offR n 0 n)))))))).length)) [some ⟨.view, .ints (xs)⟩, some ⟨.box, .vals [.slice (some ⟨0, 0, none⟩) (n) (n)]⟩, some ⟨.box, .vals [.slice (some ⟨4, 0, none⟩) ((cpL xs n (offR n 0 n)).length) ((cpL xs n (offR n 0 n)).length)]⟩, some ⟨.view, .vals [.slice (some ⟨0, 0, none⟩) (n) (n)]⟩, some deadB, some ⟨.row 52 4, .ints (fl4 (dmP (q4A (cpL xs n (offR n 0 n)).length (fl4 (srtQ (q4A (cpL xs n (offR n 0 n)).length (fl4 (cpL xs n (offR n 0 n)))))))))⟩])))))))))))) := by kernel_rfl
/-- The points where segments cross. -/
def cqV (n : Nat) (xs : List Int) : List Q4 := bif vsB n xs then cmL xs n (offR n 0 n) else []
abbrev rowZq (ps : List Q4) : Value := .slice (some ⟨0, 0, none⟩) ps.length ps.length
theorem vs_12q {n : Nat} {xs : List Int} (h : vsB n xs = true) : n ≤ 12 := by
  unfold vsB at h
  exact of_decide_eq_true (Bool.and_eq_true_iff.1 h).2
theorem resR_sCq (n : Nat) (xs : List Int) (hx : xs.length = n * 4) (h : Lim n) : ResR Try.prog 31 [.row n (.ints xs)] (rowZq (cqV n xs)) ⟨.row 52 4, .ints (fl4 (cqV n xs))⟩ := by
  refine bodyX_resR mixed ECx_ok (m := 30) (n := 12) rfl ?_
  rw [tr_sCqF]
  simp only [List.drop_zero]
  unfold cqV
  rcases hv : vsB n xs with _ | _
  · exact ⟨hx, h, none, ⟨rfl, rfl⟩, trivial⟩
  · exact ⟨hx, h, trivial, trivial, hx, vs_12q hv, rfl, some 2, ⟨rfl, rfl, rfl⟩, rfl, rfl, rfl⟩
theorem resR_iCq (n : Nat) (xs : List Int) (hx : xs.length = n * 4) (h : Lim n) : ResR Try.prog 30 [.row n (.ints xs)] (rowZq (cqV n xs)) ⟨.row 52 4, .ints (fl4 (cqV n xs))⟩ := by
  refine bodyX_resR mixed ECx_ok (m := 30) (n := 12) rfl ?_
  rw [tr_iCqF]
  simp only [List.drop_zero, q4A_fl4]
  unfold cqV
  rcases hv : vsB n xs with _ | _
  · exact ⟨hx, h, none, ⟨rfl, rfl⟩, trivial⟩
  · have ho := cpL_ok hv (offR n 0 n) (Nat.le_refl _)
    have hs := st_cm hv
    have l0 := cpL_len xs n (offR n 0 n)
    have hb := offR_le n n 0
    have h12 := vs_12q hv
    have hnn : n * n ≤ 12 * 12 := Nat.mul_le_mul h12 h12
    generalize cpL xs n (offR n 0 n) = L at *
    have l1 := fl4_length L
    have l2 := fl4_length (srtQ L)
    rw [srtQ_len] at l2
    have e2 : q4A L.length (fl4 (srtQ L)) = srtQ L := by
      have := q4A_fl4 (srtQ L)
      rwa [srtQ_len] at this
    have ev : dmP (srtQ L) = cmL xs n (offR n 0 n) := hs
    rw [e2, ev]
    exact ⟨hx, h, trivial, hx, h12, rfl, l1, by omega, by unfold allV4; rw [q4A_fl4]; exact ho, l2, by omega, some 5, ⟨rfl, rfl, rfl⟩, rfl, rfl, rfl⟩
theorem cqV_len (n : Nat) (xs : List Int) : (cqV n xs).length ≤ 144 := by
  unfold cqV
  rcases hv : vsB n xs with _ | _
  · exact Nat.zero_le _
  · have h1 := cmL_len xs n (offR n 0 n)
    have h2 := offR_le n n 0
    have h3 := vs_12q hv
    have h4 : n * n ≤ 12 * 12 := Nat.mul_le_mul h3 h3
    simp only [cond_true]
    omega
def RCq : TabR := fun f ds => match f, ds with
  | 31, [.row n (.ints xs)] => some (rowZq (cqV n xs), ⟨.row 52 4, .ints (fl4 (cqV n xs))⟩, [xs.length = n * 4, Lim n])
  | 30, [.row n (.ints xs)] => some (rowZq (cqV n xs), ⟨.row 52 4, .ints (fl4 (cqV n xs))⟩, [xs.length = n * 4, Lim n])
  | f, ds => RSl1 f ds
theorem RCq_ok : TabROk Try.prog RCq := by
  intro f ds v b C h hC
  unfold RCq at h
  split at h
  · obtain ⟨rfl, rfl, rfl⟩ : _ ∧ _ ∧ _ := by simpa using h
    exact resR_sCq _ _ hC.1 hC.2.1
  · obtain ⟨rfl, rfl, rfl⟩ : _ ∧ _ ∧ _ := by simpa using h
    exact resR_iCq _ _ hC.1 hC.2.1
  · exact RSl1_ok _ _ _ _ _ h hC
end Go.Proofs.Ytolodncpegajkaa
namespace Go.Proofs.Ytolodncpegajkaa
set_option linter.all false
open Go.RowKit
set_option maxRecDepth 100000 in
theorem tr_pick (bs : List Int) (l c : Nat) (p k : Int) : bodyM Try.prog (tabE B0) (runM Try.prog (tabE B0) 30 12) 30 76 [.pointer (some ⟨1, 0, none⟩), .int .i64 k] (memR bs l c p none) .fin = brT (decide (k < 1)) (.fin (.int .i64 (0)) [some ⟨.view, .bytes (bs)⟩, some ⟨.box, .vals [.slice (some ⟨0, 0, none⟩) (l) (c), .int .i64 (IntKind.i64.wrap (p + 1))]⟩]) (brT ((↑l : Int) == 0) (.fin (.int .i64 (0)) [some ⟨.view, .bytes (bs)⟩, some ⟨.box, .vals [.slice (some ⟨0, 0, none⟩) (l) (c), .int .i64 (IntKind.i64.wrap (p + 1))]⟩]) (brT (decide (IntKind.i64.wrap (IntKind.i64.wrap (p + 1) - 1) < (↑l : Int))) (.need ((0 : Int) ≤ IntKind.i64.wrap (IntKind.i64.wrap (p + (1 : Int)) - (1 : Int)) ∧ IntKind.i64.wrap (IntKind.i64.wrap (p + (1 : Int)) - (1 : Int)) < (↑l : Int)) (.need ((0 : Nat) + (IntKind.i64.wrap (IntKind.i64.wrap (p + (1 : Int)) - (1 : Int))).toNat * (1 : Nat) < bs.length) (.need (¬k = (0 : Int)) (.fin (.int .i64 ((IntKind.i64.wrap (bs.getD (0 + (IntKind.i64.wrap (IntKind.i64.wrap (p + 1) - 1)).toNat * 1) 0)).tmod k)) [some ⟨.view, .bytes (bs)⟩, some ⟨.box, .vals [.slice (some ⟨0, 0, none⟩) (l) (c), .int .i64 (IntKind.i64.wrap (p + 1))]⟩])))) (.need (¬(↑l : Int) = (0 : Int)) (.need ((0 : Int) ≤ (IntKind.i64.wrap (IntKind.i64.wrap (p + (1 : Int)) - (1 : Int))).tmod (↑l : Int) ∧ (IntKind.i64.wrap (IntKind.i64.wrap (p + (1 : Int)) - (1 : Int))).tmod (↑l : Int) < (↑l : Int)) (.need ((0 : Nat) + ((IntKind.i64.wrap (IntKind.i64.wrap (p + (1 : Int)) - (1 : Int))).tmod (↑l : Int)).toNat * (1 : Nat) < bs.length) (.need (¬(↑l : Int) = (0 : Int)) (.need ((0 : Int) ≤ (IntKind.i64.wrap (IntKind.i64.wrap (IntKind.i64.wrap (IntKind.i64.wrap (p + (1 : Int)) - (1 : Int)) * (7 : Int)) + (3 : Int))).tmod (↑l : Int) ∧ (IntKind.i64.wrap (IntKind.i64.wrap (IntKind.i64.wrap (IntKind.i64.wrap (p + (1 : Int)) - (1 : Int)) * (7 : Int)) + (3 : Int))).tmod (↑l : Int) < (↑l : Int)) (.need ((0 : Nat) + ((IntKind.i64.wrap (IntKind.i64.wrap (IntKind.i64.wrap (IntKind.i64.wrap (p + (1 : Int)) - (1 : Int)) * (7 : Int)) + (3 : Int))).tmod (↑l : Int)).toNat * (1 : Nat) < bs.length) (.need (¬(↑l : Int) = (0 : Int)) (.need (¬(64 : Int) = (0 : Int)) (.need (¬k = (0 : Int)) (.fin (.int .i64 ((IntKind.i64.wrap (↑(BitVec.ofInt IntKind.i64.bits (IntKind.i64.wrap (IntKind.i64.wrap (IntKind.i64.wrap (IntKind.i64.wrap (IntKind.i64.wrap (bs.getD (0 + ((IntKind.i64.wrap (IntKind.i64.wrap (p + 1) - 1)).tmod (↑l : Int)).toNat * (1 : Nat)) 0) * 131) + IntKind.i64.wrap (IntKind.i64.wrap (bs.getD (0 + ((IntKind.i64.wrap (IntKind.i64.wrap (IntKind.i64.wrap (IntKind.i64.wrap (p + 1) - 1) * 7) + 3)).tmod (↑l : Int)).toNat * (1 : Nat)) 0) * 1117)) + IntKind.i64.wrap (IntKind.i64.wrap (IntKind.i64.wrap (p + 1) - 1) * 29)) + IntKind.i64.wrap (IntKind.i64.wrap ((IntKind.i64.wrap (IntKind.i64.wrap (p + 1) - 1)).tdiv (↑l : Int)) * 53))) ^^^ BitVec.ofInt IntKind.i64.bits (IntKind.i64.wrap ((IntKind.i64.wrap (IntKind.i64.wrap (IntKind.i64.wrap (IntKind.i64.wrap (IntKind.i64.wrap (bs.getD (0 + ((IntKind.i64.wrap (IntKind.i64.wrap (p + 1) - 1)).tmod (↑l : Int)).toNat * (1 : Nat)) 0) * 131) + IntKind.i64.wrap (IntKind.i64.wrap (bs.getD (0 + ((IntKind.i64.wrap (IntKind.i64.wrap (IntKind.i64.wrap (IntKind.i64.wrap (p + 1) - 1) * 7) + 3)).tmod (↑l : Int)).toNat * (1 : Nat)) 0) * 1117)) + IntKind.i64.wrap (IntKind.i64.wrap (IntKind.i64.wrap (p + 1) - 1) * 29)) + IntKind.i64.wrap (IntKind.i64.wrap ((IntKind.i64.wrap (IntKind.i64.wrap (p + 1) - 1)).tdiv (↑l : Int)) * 53))).tdiv 64))).toNat : Int)).tmod k)) [some ⟨.view, .bytes (bs)⟩, some ⟨.box, .vals [.slice (some ⟨0, 0, none⟩) (l) (c), .int .i64 (IntKind.i64.wrap (p + 1))]⟩])))))))))))) := by kernel_rfl
def xorI (x : Int) : Int := IntKind.i64.wrap (↑(BitVec.ofInt IntKind.i64.bits x ^^^ BitVec.ofInt IntKind.i64.bits (IntKind.i64.wrap (x.tdiv 64))).toNat : Int)
def mixI (bs : List Int) (l : Nat) (p : Int) : Int := bs.getD (p.tmod l).toNat 0 * 131 + bs.getD ((p * 7 + 3).tmod l).toNat 0 * 1117 + p * 29 + p.tdiv l * 53
/-- What pick answers. -/
def pickI (bs : List Int) (l : Nat) (p k : Int) : Int := if k < 1 ∨ l = 0 then 0 else if p < l then (bs.getD p.toNat 0).tmod k else (xorI (mixI bs l p)).tmod k
/-- Is the reader in order? -/
def rdC (bs : List Int) (l : Nat) (p : Int) : Prop := l ≤ bs.length ∧ l ≤ 2000 ∧ 0 ≤ p ∧ p ≤ 1000000 ∧ Bytes bs
def pickS : RSpec := fun bs l p rest ex => match rest, ex with
  | [.int .i64 k], none => some (.int .i64 (pickI bs l p k), p + 1, [rdC bs l p])
  | _, _ => none
theorem Bytes.get {bs : List Int} (h : Bytes bs) (i : Nat) : 0 ≤ bs.getD i 0 ∧ bs.getD i 0 ≤ 255 := by
  rw [List.getD_eq_getElem?_getD]
  rcases hx : bs[i]? with _ | b
  · simp
  · simpa using h b (List.mem_of_getElem? hx)
theorem xorI_bd {x : Int} (h0 : 0 ≤ x) (h1 : x < 4611686018427387904) : 0 ≤ xorI x ∧ xorI x < 9223372036854775808 := by
  have hq : 0 ≤ x.tdiv 64 ∧ x.tdiv 64 ≤ x := by
    rw [Int.tdiv_eq_ediv_of_nonneg h0]
    omega
  unfold xorI
  rw [wr (x := x.tdiv 64) (by omega)]
  obtain ⟨a, rfl⟩ := Int.eq_ofNat_of_zero_le h0
  obtain ⟨b, hb⟩ := Int.eq_ofNat_of_zero_le hq.1
  rw [hb]
  have hb' : (b : Int) ≤ a := by rw [← hb]; exact hq.2
  have e : (BitVec.ofInt IntKind.i64.bits (a : Int) ^^^ BitVec.ofInt IntKind.i64.bits (b : Int)).toNat = a ^^^ b := by
    show (BitVec.ofInt 64 (a : Int) ^^^ BitVec.ofInt 64 (b : Int)).toNat = a ^^^ b
    rw [BitVec.toNat_xor]
    simp only [BitVec.ofInt_natCast, BitVec.toNat_ofNat]
    rw [Nat.mod_eq_of_lt (by omega), Nat.mod_eq_of_lt (by omega)]
  have hlt : a ^^^ b < 2 ^ 63 := Nat.xor_lt_two_pow (by omega) (by omega)
  rw [e, wr (by omega)]
  omega
theorem mixI_bd {bs : List Int} {l : Nat} {p : Int} (h : rdC bs l p) (hl : 0 < l) : 0 ≤ mixI bs l p ∧ mixI bs l p < 1000000000 := by
  obtain ⟨_, h2, h3, h4, h5⟩ := h
  have b1 := h5.get (p.tmod l).toNat
  have b2 := h5.get ((p * 7 + 3).tmod l).toNat
  have q : 0 ≤ p.tdiv l ∧ p.tdiv l ≤ p := by
    rw [Int.tdiv_eq_ediv_of_nonneg h3]
    exact ⟨Int.ediv_nonneg h3 (by omega), Int.ediv_le_self _ h3⟩
  unfold mixI
  omega
theorem pickI_bd {bs : List Int} {l : Nat} {p k : Int} (h : rdC bs l p) (hk : 1 ≤ k) : 0 ≤ pickI bs l p k ∧ pickI bs l p k < k := by
  unfold pickI
  split
  · omega
  rename_i hn
  have hl : 0 < l := by omega
  split
  · exact ⟨Int.tmod_nonneg _ (h.2.2.2.2.get _).1, Int.tmod_lt_of_pos _ (by omega)⟩
  · have hm := mixI_bd h hl
    exact ⟨Int.tmod_nonneg _ (xorI_bd hm.1 (by omega)).1, Int.tmod_lt_of_pos _ (by omega)⟩
theorem vk {k : IntKind} {a b : Int} (h : a = b) : Value.int k a = .int k b := by rw [h]
theorem pickS_ok : SpecOk Try.prog 76 pickS := by
  intro bs l c p rest0 ex v p' C h hC
  unfold pickS at h
  split at h
  rotate_left
  · cases h
  rename_i k
  obtain ⟨rfl, rfl, rfl⟩ : Value.int .i64 (pickI bs l p k) = v ∧ p + 1 = p' ∧ [rdC bs l p] = C := by simpa using h
  have hC := hC.1
  have hg := fun i => hC.2.2.2.2.get i
  have hC0 := hC
  obtain ⟨h1, h2, h3, h4, h5⟩ := hC
  refine ⟨tabE B0, 30, 12, tabE_ok B0_ok, rfl, ?_⟩
  rw [tr_pick]
  have e1 : IntKind.i64.wrap (p + 1) = p + 1 := wr (by omega)
  have e2 : IntKind.i64.wrap (p + 1 - 1) = p := by rw [wr (by omega)]; omega
  have e3 : IntKind.i64.wrap (p * 7) = p * 7 := wr (by omega)
  have e4 : IntKind.i64.wrap (p * 7 + 3) = p * 7 + 3 := wr (by omega)
  simp only [e1, e2, e3, e4, Nat.zero_add, Nat.mul_one]
  refine brT_ok.2 ⟨fun hk => ?_, fun hk => brT_ok.2 ⟨fun hl => ?_, fun hl => brT_ok.2 ⟨fun hp => ?_, fun hp => ?_⟩⟩⟩
  · have hk := of_decide_eq_true hk
    refine ⟨vk ?_, rfl⟩
    unfold pickI
    rw [if_pos (.inl hk)]
  · have hl : l = 0 := by simpa using hl
    refine ⟨vk ?_, rfl⟩
    unfold pickI
    rw [if_pos (.inr hl)]
  · have hk := of_decide_eq_false hk
    have hl : ¬ l = 0 := by simpa using hl
    have hp := of_decide_eq_true hp
    refine ⟨⟨h3, hp⟩, by omega, by omega, vk ?_, rfl⟩
    rw [wr (by have := hg p.toNat; omega)]
    unfold pickI
    rw [if_neg (by omega), if_pos hp]
  · have hk := of_decide_eq_false hk
    have hl : ¬ l = 0 := by simpa using hl
    have hp := of_decide_eq_false hp
    have hl0 : (0 : Int) < l := by omega
    have t1 : 0 ≤ p.tmod l ∧ p.tmod l < l := ⟨Int.tmod_nonneg _ h3, Int.tmod_lt_of_pos _ hl0⟩
    have t2 : 0 ≤ (p * 7 + 3).tmod l ∧ (p * 7 + 3).tmod l < l := ⟨Int.tmod_nonneg _ (by omega), Int.tmod_lt_of_pos _ hl0⟩
    have q : 0 ≤ p.tdiv l ∧ p.tdiv l ≤ p := by
      rw [Int.tdiv_eq_ediv_of_nonneg h3]
      exact ⟨Int.ediv_nonneg h3 (by omega), Int.ediv_le_self _ h3⟩
    have b1 := hg (p.tmod l).toNat
    have b2 := hg ((p * 7 + 3).tmod l).toNat
    have hm := mixI_bd hC0 (by omega)
    refine ⟨by omega, t1, by omega, by omega, t2, by omega, by omega, by omega, by omega, vk ?_, rfl⟩
    unfold pickI
    rw [if_neg (by omega), if_neg (by omega)]
    have em : IntKind.i64.wrap (IntKind.i64.wrap (IntKind.i64.wrap (IntKind.i64.wrap (IntKind.i64.wrap (bs.getD (p.tmod l).toNat 0) * 131) + IntKind.i64.wrap (IntKind.i64.wrap (bs.getD ((p * 7 + 3).tmod l).toNat 0) * 1117)) + IntKind.i64.wrap (p * 29)) + IntKind.i64.wrap (IntKind.i64.wrap (p.tdiv l) * 53)) = mixI bs l p := by
      clear hm
      unfold mixI
      generalize bs.getD (p.tmod l).toNat 0 = x1 at *
      generalize bs.getD ((p * 7 + 3).tmod l).toNat 0 = x2 at *
      generalize p.tdiv l = x3 at *
      simp (disch := omega) only [wr]
    rw [em]
    rfl
/-- The first table: pick. -/
def J1 : List (FuncId × RSpec) := [(76, pickS)]
theorem J1_ok : JOk Try.prog J1 := JOk.nil.cons (entersB_res (by kernel_rfl)).1 pickS_ok
def ER1 : Env := withJ (tabE B0) J1
theorem ER1_ok : EnvOk Try.prog ER1 := withJ_ok mixed (tabE_ok B0_ok) J1_ok
set_option maxRecDepth 100000 in
theorem tr_one (bs : List Int) (l c : Nat) (p : Int) (n : Nat) (xs : List Int) : bodyM Try.prog ER1 (runM Try.prog ER1 30 12) 30 114 [.pointer (some ⟨1, 0, none⟩), .slice (some ⟨2, 0, none⟩) n n] (memR bs l c p (some xs)) .fin = .need (rdC bs l p) (.need ((0 : Int) ≤ pickI bs l p (↑n : Int) ∧ pickI bs l p (↑n : Int) < (↑n : Int)) (.need ((0 : Nat) + (pickI bs l p (↑n : Int)).toNat * (1 : Nat) < xs.length) (.fin (.int .i64 (xs.getD (0 + (pickI bs l p (↑n : Int)).toNat * 1) 0)) [some ⟨.view, .bytes (bs)⟩, some ⟨.box, .vals [.slice (some ⟨0, 0, none⟩) (l) (c), .int .i64 (p + 1)]⟩, some ⟨.view, .ints (xs)⟩]))) := by kernel_rfl
set_option maxRecDepth 100000 in
theorem tr_rpt (bs : List Int) (l c : Nat) (p : Int) : bodyM Try.prog ER1 (runM Try.prog ER1 30 12) 30 115 [.pointer (some ⟨1, 0, none⟩)] (memR bs l c p none) .fin = .need (rdC bs l p) (.need (rdC bs l (p + (1 : Int))) (.fin (.agg #[.int .i64 (IntKind.i64.wrap (pickI bs l p 9 - 2)), .int .i64 (IntKind.i64.wrap (pickI bs l (p + 1) 9 - 2))]) [some ⟨.view, .bytes (bs)⟩, some ⟨.box, .vals [.slice (some ⟨0, 0, none⟩) (l) (c), .int .i64 (p + 1 + 1)]⟩, some ⟨.box, .vals [.int .i64 (IntKind.i64.wrap (pickI bs l p 9 - 2)), .int .i64 (IntKind.i64.wrap (pickI bs l (p + 1) 9 - 2))]⟩])) := by kernel_rfl
end Go.Proofs.Ytolodncpegajkaa
namespace Go.Proofs.Ytolodncpegajkaa
set_option linter.all false
open Go.RowKit
/-- The reader in order, with room for many more. -/
def rdK (bs : List Int) (l : Nat) (p : Int) : Prop := rdC bs l p ∧ p ≤ 900000
theorem rdK.at {bs : List Int} {l : Nat} {p : Int} (h : rdK bs l p) {q : Int} (h0 : p ≤ q) (h1 : q ≤ p + 90000) : rdC bs l q :=
  ⟨h.1.1, h.1.2.1, by have := h.1.2.2.1; omega, by have := h.2; omega, h.1.2.2.2.2⟩
def oneI (bs : List Int) (l : Nat) (p : Int) (n : Nat) (xs : List Int) : Int := xs.getD (pickI bs l p n).toNat 0
def oneS : RSpec := fun bs l p rest ex => match rest, ex with
  | [.slice (some ⟨2, 0, none⟩) n n'], some xs => some (.int .i64 (oneI bs l p n xs), p + 1, [rdC bs l p, 1 ≤ n ∧ n ≤ xs.length ∧ n' = n])
  | _, _ => none
theorem oneS_ok : SpecOk Try.prog 114 oneS := by
  intro bs l c p rest0 ex v p' C h hC
  unfold oneS at h
  split at h
  rotate_left
  · cases h
  rename_i n n' xs
  obtain ⟨rfl, rfl, rfl⟩ : Value.int .i64 (oneI bs l p n xs) = v ∧ p + 1 = p' ∧ [rdC bs l p, 1 ≤ n ∧ n ≤ xs.length ∧ n' = n] = C := by simpa using h
  obtain ⟨h1, ⟨h2, h3, rfl⟩, _⟩ := hC
  refine ⟨ER1, 30, 12, ER1_ok, rfl, ?_⟩
  rw [tr_one]
  have hb := pickI_bd (k := (n' : Int)) h1 (by omega)
  exact ⟨h1, hb, by omega, by simp only [oneI, Nat.zero_add, Nat.mul_one], rfl⟩
def rptS : RSpec := fun bs l p rest ex => match rest, ex with
  | [], none => some (.agg #[.int .i64 (pickI bs l p 9 - 2), .int .i64 (pickI bs l (p + 1) 9 - 2)], p + 2, [rdK bs l p])
  | _, _ => none
theorem box2 {bs : List Int} {l c : Nat} {p q : Int} (h : q = p) (r : List (Option Blk)) : (some ⟨.view, .bytes bs⟩ :: some ⟨.box, .vals [.slice (some ⟨0, 0, none⟩) l c, .int .i64 q]⟩ :: r : List (Option Blk)).getD 1 none = some (rdBox 0 l c p) := by rw [h]; rfl
theorem rptS_ok : SpecOk Try.prog 115 rptS := by
  intro bs l c p rest0 ex v p' C h hC
  unfold rptS at h
  split at h
  rotate_left
  · cases h
  obtain ⟨rfl, rfl, rfl⟩ : Value.agg #[.int .i64 (pickI bs l p 9 - 2), .int .i64 (pickI bs l (p + 1) 9 - 2)] = v ∧ p + 2 = p' ∧ [rdK bs l p] = C := by simpa using h
  have h1 := hC.1
  refine ⟨ER1, 30, 12, ER1_ok, rfl, ?_⟩
  rw [tr_rpt]
  have h2 := h1.at (q := p) (by omega) (by omega)
  have h3 := h1.at (q := p + 1) (by omega) (by omega)
  have b1 := pickI_bd (k := 9) h2 (by omega)
  have b2 := pickI_bd (k := 9) h3 (by omega)
  exact ⟨h2, h3, by rw [wr (by omega), wr (by omega)], box2 (by omega) _⟩
def J2 : List (FuncId × RSpec) := (114, oneS) :: (115, rptS) :: J1
theorem J2_ok : JOk Try.prog J2 := (J1_ok.cons (entersB_res (by kernel_rfl)).1 rptS_ok).cons (entersB_res (by kernel_rfl)).1 oneS_ok
def ER2 : Env := withJ (tabE B0) J2
theorem ER2_ok : EnvOk Try.prog ER2 := withJ_ok mixed (tabE_ok B0_ok) J2_ok
set_option maxRecDepth 100000 in
theorem tr_apt (bs : List Int) (l c : Nat) (p : Int) : bodyM Try.prog ER2 (runM Try.prog ER2 30 12) 30 131 [.pointer (some ⟨1, 0, none⟩)] (memR bs l c p none) .fin = .need (rdK bs l p) (.need (rdC bs l (p + (2 : Int))) (brT (pickI bs l (p + 2) 16 == 0) (.need (rdC bs l (p + (2 : Int) + (1 : Int))) (.need ((1 : Nat) ≤ (4 : Nat) ∧ (4 : Nat) ≤ (4 : Nat) ∧ (4 : Nat) = (4 : Nat)) (.fin (.agg #[.int .i64 (oneI bs l (p + 2 + 1) 4 [1001, -1001, 1000, -1000]), .int .i64 (pickI bs l (p + 1) 9 - 2)]) [some ⟨.view, .bytes (bs)⟩, some ⟨.box, .vals [.slice (some ⟨0, 0, none⟩) (l) (c), .int .i64 (p + 2 + 1 + 1)]⟩, some ⟨.box, .vals [.int .i64 (oneI bs l (p + 2 + 1) 4 [1001, -1001, 1000, -1000]), .int .i64 (pickI bs l (p + 1) 9 - 2)]⟩, some ⟨.box, .vals [.int .i64 (oneI bs l (p + 2 + 1) 4 [1001, -1001, 1000, -1000]), .int .i64 (pickI bs l (p + 1) 9 - 2)]⟩, some ⟨.row 3 1, .vals [.int .i64 (1001), .int .i64 (-1001), .int .i64 (1000), .int .i64 (-1000)]⟩]))) (brT (pickI bs l (p + 2) 16 == 1) (.need (rdC bs l (p + (2 : Int) + (1 : Int))) (.need ((1 : Nat) ≤ (4 : Nat) ∧ (4 : Nat) ≤ (4 : Nat) ∧ (4 : Nat) = (4 : Nat)) (.fin (.agg #[.int .i64 (pickI bs l p 9 - 2), .int .i64 (oneI bs l (p + 2 + 1) 4 [1001, -1001, 1000, -1000])]) [some ⟨.view, .bytes (bs)⟩, some ⟨.box, .vals [.slice (some ⟨0, 0, none⟩) (l) (c), .int .i64 (p + 2 + 1 + 1)]⟩, some ⟨.box, .vals [.int .i64 (pickI bs l p 9 - 2), .int .i64 (oneI bs l (p + 2 + 1) 4 [1001, -1001, 1000, -1000])]⟩, some ⟨.box, .vals [.int .i64 (pickI bs l p 9 - 2), .int .i64 (oneI bs l (p + 2 + 1) 4 [1001, -1001, 1000, -1000])]⟩, some ⟨.row 3 1, .vals [.int .i64 (1001), .int .i64 (-1001), .int .i64 (1000), .int .i64 (-1000)]⟩]))) (.fin (.agg #[.int .i64 (pickI bs l p 9 - 2), .int .i64 (pickI bs l (p + 1) 9 - 2)]) [some ⟨.view, .bytes (bs)⟩, some ⟨.box, .vals [.slice (some ⟨0, 0, none⟩) (l) (c), .int .i64 (p + 2 + 1)]⟩, some ⟨.box, .vals [.int .i64 (pickI bs l p 9 - 2), .int .i64 (pickI bs l (p + 1) 9 - 2)]⟩, some ⟨.box, .vals [.int .i64 (pickI bs l p 9 - 2), .int .i64 (pickI bs l (p + 1) 9 - 2)]⟩])))) := by kernel_rfl
def farI : List Int := [1001, -1001, 1000, -1000]
def apQ (bs : List Int) (l : Nat) (p : Int) : Int := pickI bs l (p + 2) 16
def apX (bs : List Int) (l : Nat) (p : Int) : Int := if apQ bs l p = 0 then oneI bs l (p + 3) 4 farI else pickI bs l p 9 - 2
def apY (bs : List Int) (l : Nat) (p : Int) : Int := if apQ bs l p = 1 then oneI bs l (p + 3) 4 farI else pickI bs l (p + 1) 9 - 2
def apP (bs : List Int) (l : Nat) (p : Int) : Int := if apQ bs l p = 0 ∨ apQ bs l p = 1 then p + 4 else p + 3
theorem apP_bd (bs : List Int) (l : Nat) (p : Int) : p + 3 ≤ apP bs l p ∧ apP bs l p ≤ p + 4 := by unfold apP; split <;> omega
def aptS : RSpec := fun bs l p rest ex => match rest, ex with
  | [], none => some (.agg #[.int .i64 (apX bs l p), .int .i64 (apY bs l p)], apP bs l p, [rdK bs l p])
  | _, _ => none
theorem veq2 {a a' b b' : Int} (h : a = a') (k : b = b') : Value.agg #[.int .i64 a, .int .i64 b] = .agg #[.int .i64 a', .int .i64 b'] := by rw [h, k]
theorem aptS_ok : SpecOk Try.prog 131 aptS := by
  intro bs l c p rest0 ex v p' C h hC
  unfold aptS at h
  split at h
  rotate_left
  · cases h
  obtain ⟨rfl, rfl, rfl⟩ : Value.agg #[.int .i64 (apX bs l p), .int .i64 (apY bs l p)] = v ∧ apP bs l p = p' ∧ [rdK bs l p] = C := by simpa using h
  have h1 := hC.1
  refine ⟨ER2, 30, 12, ER2_ok, rfl, ?_⟩
  rw [tr_apt]
  have e3 : p + 2 + 1 = p + 3 := by omega
  have e4 : p + 3 + 1 = p + 4 := by omega
  simp only [e3, e4]
  refine ⟨h1, h1.at (by omega) (by omega), brT_ok.2 ⟨fun hq => ?_, fun hq => brT_ok.2 ⟨fun hq' => ?_, fun hq' => ?_⟩⟩⟩
  · have hq : apQ bs l p = 0 := by simpa [apQ] using hq
    exact ⟨h1.at (by omega) (by omega), by decide, veq2 (by unfold apX; rw [if_pos hq]; rfl) (by unfold apY; rw [if_neg (by omega)]), box2 (by unfold apP; rw [if_pos (.inl hq)]) _⟩
  · have hq : ¬ apQ bs l p = 0 := by simpa [apQ] using hq
    have hq' : apQ bs l p = 1 := by simpa [apQ] using hq'
    exact ⟨h1.at (by omega) (by omega), by decide, veq2 (by unfold apX; rw [if_neg hq]) (by unfold apY; rw [if_pos hq']; rfl), box2 (by unfold apP; rw [if_pos (.inr hq')]) _⟩
  · have hq : ¬ apQ bs l p = 0 := by simpa [apQ] using hq
    have hq' : ¬ apQ bs l p = 1 := by simpa [apQ] using hq'
    exact ⟨veq2 (by unfold apX; rw [if_neg hq]) (by unfold apY; rw [if_neg hq']), box2 (by unfold apP; rw [if_neg (by omega)]) _⟩
def J3 : List (FuncId × RSpec) := (131, aptS) :: J2
theorem J3_ok : JOk Try.prog J3 := J2_ok.cons (entersB_res (by kernel_rfl)).1 aptS_ok
end Go.Proofs.Ytolodncpegajkaa
namespace Go.Proofs.Ytolodncpegajkaa
set_option linter.all false
open Go.RowKit
/-- How many bytes are read. -/
def rdL (n : Nat) : Nat := min n 2000
theorem rdL_of {n : Nat} (h : 2000 < (n : Int)) : rdL n = 2000 := by unfold rdL; omega
theorem rdL_no {n : Nat} (h : ¬ 2000 < (n : Int)) : rdL n = n := by unfold rdL; omega
theorem rdK0 {bs : List Int} {n : Nat} (h : Bytes bs) (hn : n ≤ bs.length) {l : Nat} (hl : l ≤ n) (h2 : l ≤ 2000) {p : Int} (h3 : 0 ≤ p) (h4 : p ≤ 900000) : rdK bs l p :=
  ⟨⟨by omega, h2, h3, by omega, h⟩, h4⟩
theorem bnd2000 {n : Nat} (h : 2000 < (n : Int)) : (0 : Int) ≤ bndI none (0 : Int) ∧ bndI none (0 : Int) ≤ bndI (some (IntKind.i64, (2000 : Int))) (↑n : Int) ∧ bndI (some (IntKind.i64, (2000 : Int))) (↑n : Int) ≤ (↑n : Int) := by
  refine ⟨Int.le_refl _, ?_, ?_⟩
  · show (0 : Int) ≤ 2000; omega
  · show (2000 : Int) ≤ n; omega
/-- The coordinates of the three points. -/
def d3 (bs : List Int) (n : Nat) : Nat → Int
  | 0 => apX bs (rdL n) 0
  | 1 => apY bs (rdL n) 0
  | 2 => apX bs (rdL n) (apP bs (rdL n) 0)
  | 3 => apY bs (rdL n) (apP bs (rdL n) 0)
  | 4 => apX bs (rdL n) (apP bs (rdL n) (apP bs (rdL n) 0))
  | _ => apY bs (rdL n) (apP bs (rdL n) (apP bs (rdL n) 0))
end Go.Proofs.Ytolodncpegajkaa
namespace Go.Proofs.Ytolodncpegajkaa
set_option linter.all false
open Go.RowKit
def ERa : Env := withJ (tabE B0) J3
theorem ERa_ok : EnvOk Try.prog ERa := withJ_ok mixed (tabE_ok B0_ok) J3_ok
set_option maxRecDepth 100000 in
theorem tr_aseg (bs : List Int) (l c : Nat) (p : Int) : bodyM Try.prog ERa (runM Try.prog ERa 30 12) 30 116 [.pointer (some ⟨1, 0, none⟩)] (memR bs l c p none) .fin = .need (rdK bs l p) (.need (rdK bs l (apP bs l p)) (brT (negB false (apX bs l p == pickI bs l (apP bs l p) 9 - 2 && (apY bs l p == pickI bs l (apP bs l p + 1) 9 - 2 && true))) (.need (rdC bs l (apP bs l p + (2 : Int))) (brT (decide (0 < pickI bs l (apP bs l p + 2) 4)) (.fin (.agg #[.int .i64 (apX bs l p), .int .i64 (apY bs l p), .int .i64 (IntKind.i64.wrap (pickI bs l (apP bs l p) 9 - 2 + 1)), .int .i64 (pickI bs l (apP bs l p + 1) 9 - 2)]) [some ⟨.view, .bytes (bs)⟩, some ⟨.box, .vals [.slice (some ⟨0, 0, none⟩) (l) (c), .int .i64 (apP bs l p + 2 + 1)]⟩, some ⟨.box, .vals [.int .i64 (apX bs l p), .int .i64 (apY bs l p), .int .i64 (IntKind.i64.wrap (pickI bs l (apP bs l p) 9 - 2 + 1)), .int .i64 (pickI bs l (apP bs l p + 1) 9 - 2)]⟩, some ⟨.box, .vals [.int .i64 (apX bs l p), .int .i64 (apY bs l p), .int .i64 (IntKind.i64.wrap (pickI bs l (apP bs l p) 9 - 2 + 1)), .int .i64 (pickI bs l (apP bs l p + 1) 9 - 2)]⟩]) (.fin (.agg #[.int .i64 (apX bs l p), .int .i64 (apY bs l p), .int .i64 (pickI bs l (apP bs l p) 9 - 2), .int .i64 (pickI bs l (apP bs l p + 1) 9 - 2)]) [some ⟨.view, .bytes (bs)⟩, some ⟨.box, .vals [.slice (some ⟨0, 0, none⟩) (l) (c), .int .i64 (apP bs l p + 2 + 1)]⟩, some ⟨.box, .vals [.int .i64 (apX bs l p), .int .i64 (apY bs l p), .int .i64 (pickI bs l (apP bs l p) 9 - 2), .int .i64 (pickI bs l (apP bs l p + 1) 9 - 2)]⟩, some ⟨.box, .vals [.int .i64 (apX bs l p), .int .i64 (apY bs l p), .int .i64 (pickI bs l (apP bs l p) 9 - 2), .int .i64 (pickI bs l (apP bs l p + 1) 9 - 2)]⟩]))) (.fin (.agg #[.int .i64 (apX bs l p), .int .i64 (apY bs l p), .int .i64 (pickI bs l (apP bs l p) 9 - 2), .int .i64 (pickI bs l (apP bs l p + 1) 9 - 2)]) [some ⟨.view, .bytes (bs)⟩, some ⟨.box, .vals [.slice (some ⟨0, 0, none⟩) (l) (c), .int .i64 (apP bs l p + 2)]⟩, some ⟨.box, .vals [.int .i64 (apX bs l p), .int .i64 (apY bs l p), .int .i64 (pickI bs l (apP bs l p) 9 - 2), .int .i64 (pickI bs l (apP bs l p + 1) 9 - 2)]⟩, some ⟨.box, .vals [.int .i64 (apX bs l p), .int .i64 (apY bs l p), .int .i64 (pickI bs l (apP bs l p) 9 - 2), .int .i64 (pickI bs l (apP bs l p + 1) 9 - 2)]⟩]))) := by kernel_rfl
def asQ (bs : List Int) (l : Nat) (p : Int) : Prop := apX bs l p = pickI bs l (apP bs l p) 9 - 2 ∧ apY bs l p = pickI bs l (apP bs l p + 1) 9 - 2
instance (bs : List Int) (l : Nat) (p : Int) : Decidable (asQ bs l p) := inferInstanceAs (Decidable (_ ∧ _))
def asX (bs : List Int) (l : Nat) (p : Int) : Int := if asQ bs l p ∧ 0 < pickI bs l (apP bs l p + 2) 4 then pickI bs l (apP bs l p) 9 - 2 + 1 else pickI bs l (apP bs l p) 9 - 2
def asY (bs : List Int) (l : Nat) (p : Int) : Int := pickI bs l (apP bs l p + 1) 9 - 2
def asP (bs : List Int) (l : Nat) (p : Int) : Int := if asQ bs l p then apP bs l p + 3 else apP bs l p + 2
def asegS : RSpec := fun bs l p rest ex => match rest, ex with
  | [], none => some (.agg #[.int .i64 (apX bs l p), .int .i64 (apY bs l p), .int .i64 (asX bs l p), .int .i64 (asY bs l p)], asP bs l p, [rdK bs l p, rdK bs l (apP bs l p)])
  | _, _ => none
theorem veq4 {a b c c' d d' : Int} (h : c = c') (k : d = d') : Value.agg #[.int .i64 a, .int .i64 b, .int .i64 c, .int .i64 d] = .agg #[.int .i64 a, .int .i64 b, .int .i64 c', .int .i64 d'] := by rw [h, k]
theorem asegS_ok : SpecOk Try.prog 116 asegS := by
  intro bs l c p rest0 ex v p' C h hC
  unfold asegS at h
  split at h
  rotate_left
  · cases h
  obtain ⟨rfl, rfl, rfl⟩ : Value.agg #[.int .i64 (apX bs l p), .int .i64 (apY bs l p), .int .i64 (asX bs l p), .int .i64 (asY bs l p)] = v ∧ asP bs l p = p' ∧ [rdK bs l p, rdK bs l (apP bs l p)] = C := by simpa using h
  obtain ⟨h1, h2, _⟩ := hC
  refine ⟨ERa, 30, 12, ERa_ok, rfl, ?_⟩
  rw [tr_aseg]
  have r1 := h2.at (q := apP bs l p) (by omega) (by omega)
  have r3 := h2.at (q := apP bs l p + 2) (by omega) (by omega)
  have b1 := pickI_bd (k := 9) r1 (by omega)
  have w : IntKind.i64.wrap (pickI bs l (apP bs l p) 9 - 2 + 1) = pickI bs l (apP bs l p) 9 - 2 + 1 := wr (by omega)
  have en : negB false (apX bs l p == pickI bs l (apP bs l p) 9 - 2 && (apY bs l p == pickI bs l (apP bs l p + 1) 9 - 2 && true)) = decide (asQ bs l p) := by
    show (apX bs l p == pickI bs l (apP bs l p) 9 - 2 && (apY bs l p == pickI bs l (apP bs l p + 1) 9 - 2 && true)) = decide (asQ bs l p)
    exact Bool.eq_iff_iff.2 ⟨fun h => decide_eq_true (by simpa [asQ] using h), fun h => by
      have := of_decide_eq_true h
      simpa [asQ] using this⟩
  rw [en, w]
  refine ⟨h1, h2, brT_ok.2 ⟨fun hq => ⟨r3, brT_ok.2 ⟨fun hz => ?_, fun hz => ?_⟩⟩, fun hq => ?_⟩⟩
  · have hq := of_decide_eq_true hq
    have hz := of_decide_eq_true hz
    exact ⟨veq4 (by unfold asX; rw [if_pos ⟨hq, hz⟩]) rfl, box2 (by unfold asP; rw [if_pos hq]; omega) _⟩
  · have hq := of_decide_eq_true hq
    have hz := of_decide_eq_false hz
    exact ⟨veq4 (by unfold asX; rw [if_neg (fun h => hz h.2)]) rfl, box2 (by unfold asP; rw [if_pos hq]; omega) _⟩
  · have hq := of_decide_eq_false hq
    exact ⟨veq4 (by unfold asX; rw [if_neg (fun h => hq h.1)]) rfl, box2 (by unfold asP; rw [if_neg hq]) _⟩
def J5a : List (FuncId × RSpec) := (116, asegS) :: J3
theorem J5a_ok : JOk Try.prog J5a := J3_ok.cons (entersB_res (by kernel_rfl)).1 asegS_ok
def ERs : Env := withJ (tabE B0) J5a
theorem ERs_ok : EnvOk Try.prog ERs := withJ_ok mixed (tabE_ok B0_ok) J5a_ok
end Go.Proofs.Ytolodncpegajkaa
namespace Go.Proofs.Ytolodncpegajkaa
set_option linter.all false
open Go.RowKit
/-- Does the next segment begin where another one ends? -/
def sjQ (bs : List Int) (l m : Nat) (p : Int) : Bool := decide (0 < m) && pickI bs l (p + 4) 3 == 0
def sjI (bs : List Int) (l m : Nat) (p : Int) : Nat := (pickI bs l (p + 5) m).toNat
def sjX (bs : List Int) (l m : Nat) (o : List Int) (p : Int) : Int := bif sjQ bs l m p then o.getD (sjI bs l m p * 4 + 2) 0 else pickI bs l p 9 - 2
def sjY (bs : List Int) (l m : Nat) (o : List Int) (p : Int) : Int := bif sjQ bs l m p then o.getD (sjI bs l m p * 4 + 3) 0 else pickI bs l (p + 1) 9 - 2
def sjP (bs : List Int) (l m : Nat) (p : Int) : Int := bif decide (0 < m) then (bif pickI bs l (p + 4) 3 == 0 then p + 6 else p + 5) else p + 4
def sjZ (bs : List Int) (l m : Nat) (o : List Int) (p : Int) : Int := bif eqB (sjX bs l m o p) (sjY bs l m o p) (pickI bs l (p + 2) 9 - 2) (pickI bs l (p + 3) 9 - 2) then pickI bs l (p + 3) 9 - 2 + 1 else pickI bs l (p + 3) 9 - 2
def sjO (bs : List Int) (l m : Nat) (o : List Int) (p : Int) : List Int := o ++ [sjX bs l m o p, sjY bs l m o p, pickI bs l (p + 2) 9 - 2, sjZ bs l m o p]
def ssL (bs : List Int) (l : Nat) : Nat → Nat → List Int → Int → List Int
  | 0, _, o, _ => o
  | n + 1, m, o, p => ssL bs l n (m + 1) (sjO bs l m o p) (sjP bs l m p)
def ssP (bs : List Int) (l : Nat) : Nat → Nat → List Int → Int → Int
  | 0, _, _, p => p
  | n + 1, m, o, p => ssP bs l n (m + 1) (sjO bs l m o p) (sjP bs l m p)
theorem eqB_v (a b c d : Int) : negB false (a == c && (b == d && true)) = eqB a b c d := by
  rw [Bool.and_true]
  rfl
noncomputable def c_ass : Code := ((loopsOf (codeOf Try.f69))[0]?).getD .skip
def k_ass : Ex → List Nat := keeps [0, 3, 4] [(0, [0, 3])] [2]
def s_ass (bs : List Int) (l c : Nat) : Nat × Nat × (List Int) × Int → St := fun (n, m, o, p) => ⟨(.pointer (some ⟨1, 0, none⟩) :: topV :: topV :: .slice (some ⟨4, 0, none⟩) m m :: .int .i64 n :: topV :: topV :: topV :: topV :: topV :: topV :: topV :: topV :: topV :: topV :: topV :: topV :: topV :: topV :: topV :: topV :: topV :: topV :: topV :: topV :: topV :: topV :: topV :: topV :: topV :: topV :: topV :: topV :: topV :: topV :: topV :: topV :: topV :: topV :: topV :: topV :: topV :: topV :: topV :: topV :: topV :: topV :: topV :: topV :: topV :: topV :: topV :: topV :: topV :: topV :: topV :: topV :: topV :: topV :: topV :: topV :: topV :: topV :: topV :: []), [some ⟨.view, .bytes bs⟩, some ⟨.box, .vals [.slice (some ⟨0, 0, none⟩) l c, .int .i64 p]⟩, some ⟨.dead, .vals []⟩, some ⟨.dead, .vals []⟩, some ⟨.row 39 4, .ints o⟩]⟩
def re_ass : Nat × Nat × (List Int) × Int → Ex := fun _ => .exit 0
def rs_ass (bs : List Int) (l c : Nat) : Nat × Nat × (List Int) × Int → St := fun (n, m, o, p) => ⟨(.pointer (some ⟨1, 0, none⟩) :: topV :: topV :: .slice (some ⟨4, 0, none⟩) (m + n) (m + n) :: topV :: topV :: topV :: topV :: topV :: topV :: topV :: topV :: topV :: topV :: topV :: topV :: topV :: topV :: topV :: topV :: topV :: topV :: topV :: topV :: topV :: topV :: topV :: topV :: topV :: topV :: topV :: topV :: topV :: topV :: topV :: topV :: topV :: topV :: topV :: topV :: topV :: topV :: topV :: topV :: topV :: topV :: topV :: topV :: topV :: topV :: topV :: topV :: topV :: topV :: topV :: topV :: topV :: topV :: topV :: topV :: topV :: topV :: topV :: topV :: []), [some ⟨.view, .bytes bs⟩, some ⟨.box, .vals [.slice (some ⟨0, 0, none⟩) l c, .int .i64 (ssP bs l n m o p)]⟩, some ⟨.dead, .vals []⟩, some ⟨.dead, .vals []⟩, some ⟨.row 39 4, .ints (ssL bs l n m o p)⟩]⟩
set_option maxRecDepth 100000 in
theorem tr_ass (bs : List Int) (l c : Nat) (n m : Nat) (o : List Int) (p : Int) : bodyL Try.prog ERs 30 12 noL 1 c_ass k_ass 16 (s_ass bs l c (n, m, o, p)) = brT (decide (0 < (↑n : Int))) (.need (rdK bs l p) (.need (rdK bs l (p + (2 : Int))) (brT (decide (0 < (↑m : Int))) (.need (rdC bs l (p + (2 : Int) + (2 : Int))) (brT (pickI bs l (p + 2 + 2) 3 == 0) (.need (rdC bs l (p + (2 : Int) + (2 : Int) + (1 : Int))) (.need ((0 : Int) ≤ pickI bs l (p + (2 : Int) + (2 : Int) + (1 : Int)) (↑m : Int) ∧ pickI bs l (p + (2 : Int) + (2 : Int) + (1 : Int)) (↑m : Int) < (↑m : Int)) (.need ((0 : Nat) + (pickI bs l (p + (2 : Int) + (2 : Int) + (1 : Int)) (↑m : Int)).toNat * (4 : Nat) + (2 : Nat) + (2 : Nat) ≤ o.length) (brT (negB false (o.getD (0 + (pickI bs l (p + 2 + 2 + 1) (↑m : Int)).toNat * 4 + 2) 0 == pickI bs l (p + 2) 9 - 2 && (o.getD (0 + (pickI bs l (p + 2 + 2 + 1) (↑m : Int)).toNat * 4 + 2 + 1) 0 == pickI bs l (p + 2 + 1) 9 - 2 && true))) (.need ((m + (1 : Nat)) * (32 : Nat) ≤ (140737488355328 : Nat) ∧ m + (1 : Nat) ≤ (1000000 : Nat)) (.need ((0 : Nat) + m * (4 : Nat) ≤ o.length) (.leaf .normal ⟨(.pointer (some ⟨1, 0, none⟩) :: topV :: topV :: .slice (some ⟨7, 0, none⟩) (m + 1) (m + 1) :: .int .i64 (IntKind.i64.wrap ((↑n : Int) - 1)) :: topV :: topV :: topV :: topV :: topV :: topV :: topV :: topV :: topV :: topV :: topV :: topV :: topV :: topV :: topV :: topV :: topV :: topV :: topV :: topV :: topV :: topV :: topV :: topV :: topV :: topV :: topV :: topV :: topV :: topV :: topV :: topV :: topV :: topV :: topV :: topV :: topV :: topV :: topV :: topV :: topV :: topV :: topV :: topV :: topV :: topV :: topV :: topV :: topV :: topV :: topV :: topV :: topV :: topV :: topV :: topV :: topV :: topV :: topV :: []), [some ⟨.view, .bytes (bs)⟩, some ⟨.box, .vals [.slice (some ⟨0, 0, none⟩) (l) (c), .int .i64 (p + 2 + 2 + 1 + 1)]⟩, some deadB, some deadB, some deadB, some ⟨.box, .vals [.int .i64 (o.getD (0 + (pickI bs l (p + 2 + 2 + 1) (↑m : Int)).toNat * 4 + 2) 0), .int .i64 (o.getD (0 + (pickI bs l (p + 2 + 2 + 1) (↑m : Int)).toNat * 4 + 2 + 1) 0), .int .i64 (pickI bs l (p + 2) 9 - 2), .int .i64 (IntKind.i64.wrap (pickI bs l (p + 2 + 1) 9 - 2 + 1))]⟩, some ⟨.row 39 4, .vals [.int .i64 (o.getD (0 + (pickI bs l (p + 2 + 2 + 1) (↑m : Int)).toNat * 4 + 2) 0), .int .i64 (o.getD (0 + (pickI bs l (p + 2 + 2 + 1) (↑m : Int)).toNat * 4 + 2 + 1) 0), .int .i64 (pickI bs l (p + 2) 9 - 2), .int .i64 (IntKind.i64.wrap (pickI bs l (p + 2 + 1) 9 - 2 + 1))]⟩, some ⟨.row 39 4, .ints (List.take (m * 4) (List.drop 0 o) ++ [o.getD (0 + (pickI bs l (p + 2 + 2 + 1) (↑m : Int)).toNat * 4 + 2) 0, o.getD (0 + (pickI bs l (p + 2 + 2 + 1) (↑m : Int)).toNat * 4 + 2 + 1) 0, pickI bs l (p + 2) 9 - 2, IntKind.i64.wrap (pickI bs l (p + 2 + 1) 9 - 2 + 1)])⟩]⟩))) (.need ((m + (1 : Nat)) * (32 : Nat) ≤ (140737488355328 : Nat) ∧ m + (1 : Nat) ≤ (1000000 : Nat)) (.need ((0 : Nat) + m * (4 : Nat) ≤ o.length) (.leaf .normal ⟨(.pointer (some ⟨1, 0, none⟩) :: topV :: topV :: .slice (some ⟨7, 0, none⟩) (m + 1) (m + 1) :: .int .i64 (IntKind.i64.wrap ((↑n : Int) - 1)) :: topV :: topV :: topV :: topV :: topV :: topV :: topV :: topV :: topV :: topV :: topV :: topV :: topV :: topV :: topV :: topV :: topV :: topV :: topV :: topV :: topV :: topV :: topV :: topV :: topV :: topV :: topV :: topV :: topV :: topV :: topV :: topV :: topV :: topV :: topV :: topV :: topV :: topV :: topV :: topV :: topV :: topV :: topV :: topV :: topV :: topV :: topV :: topV :: topV :: topV :: topV :: topV :: topV :: topV :: topV :: topV :: topV :: topV :: topV :: []), [some ⟨.view, .bytes (bs)⟩, some ⟨.box, .vals [.slice (some ⟨0, 0, none⟩) (l) (c), .int .i64 (p + 2 + 2 + 1 + 1)]⟩, some deadB, some deadB, some deadB, some ⟨.box, .vals [.int .i64 (o.getD (0 + (pickI bs l (p + 2 + 2 + 1) (↑m : Int)).toNat * 4 + 2) 0), .int .i64 (o.getD (0 + (pickI bs l (p + 2 + 2 + 1) (↑m : Int)).toNat * 4 + 2 + 1) 0), .int .i64 (pickI bs l (p + 2) 9 - 2), .int .i64 (pickI bs l (p + 2 + 1) 9 - 2)]⟩, some ⟨.row 39 4, .vals [.int .i64 (o.getD (0 + (pickI bs l (p + 2 + 2 + 1) (↑m : Int)).toNat * 4 + 2) 0), .int .i64 (o.getD (0 + (pickI bs l (p + 2 + 2 + 1) (↑m : Int)).toNat * 4 + 2 + 1) 0), .int .i64 (pickI bs l (p + 2) 9 - 2), .int .i64 (pickI bs l (p + 2 + 1) 9 - 2)]⟩, some ⟨.row 39 4, .ints (List.take (m * 4) (List.drop 0 o) ++ [o.getD (0 + (pickI bs l (p + 2 + 2 + 1) (↑m : Int)).toNat * 4 + 2) 0, o.getD (0 + (pickI bs l (p + 2 + 2 + 1) (↑m : Int)).toNat * 4 + 2 + 1) 0, pickI bs l (p + 2) 9 - 2, pickI bs l (p + 2 + 1) 9 - 2])⟩]⟩))))))) (brT (negB false (pickI bs l p 9 - 2 == pickI bs l (p + 2) 9 - 2 && (pickI bs l (p + 1) 9 - 2 == pickI bs l (p + 2 + 1) 9 - 2 && true))) (.need ((m + (1 : Nat)) * (32 : Nat) ≤ (140737488355328 : Nat) ∧ m + (1 : Nat) ≤ (1000000 : Nat)) (.need ((0 : Nat) + m * (4 : Nat) ≤ o.length) (.leaf .normal ⟨(.pointer (some ⟨1, 0, none⟩) :: topV :: topV :: .slice (some ⟨7, 0, none⟩) (m + 1) (m + 1) :: .int .i64 (IntKind.i64.wrap ((↑n : Int) - 1)) :: topV :: topV :: topV :: topV :: topV :: topV :: topV :: topV :: topV :: topV :: topV :: topV :: topV :: topV :: topV :: topV :: topV :: topV :: topV :: topV :: topV :: topV :: topV :: topV :: topV :: topV :: topV :: topV :: topV :: topV :: topV :: topV :: topV :: topV :: topV :: topV :: topV :: topV :: topV :: topV :: topV :: topV :: topV :: topV :: topV :: topV :: topV :: topV :: topV :: topV :: topV :: topV :: topV :: topV :: topV :: topV :: topV :: topV :: topV :: []), [some ⟨.view, .bytes (bs)⟩, some ⟨.box, .vals [.slice (some ⟨0, 0, none⟩) (l) (c), .int .i64 (p + 2 + 2 + 1)]⟩, some deadB, some deadB, some deadB, some ⟨.box, .vals [.int .i64 (pickI bs l p 9 - 2), .int .i64 (pickI bs l (p + 1) 9 - 2), .int .i64 (pickI bs l (p + 2) 9 - 2), .int .i64 (IntKind.i64.wrap (pickI bs l (p + 2 + 1) 9 - 2 + 1))]⟩, some ⟨.row 39 4, .vals [.int .i64 (pickI bs l p 9 - 2), .int .i64 (pickI bs l (p + 1) 9 - 2), .int .i64 (pickI bs l (p + 2) 9 - 2), .int .i64 (IntKind.i64.wrap (pickI bs l (p + 2 + 1) 9 - 2 + 1))]⟩, some ⟨.row 39 4, .ints (List.take (m * 4) (List.drop 0 o) ++ [pickI bs l p 9 - 2, pickI bs l (p + 1) 9 - 2, pickI bs l (p + 2) 9 - 2, IntKind.i64.wrap (pickI bs l (p + 2 + 1) 9 - 2 + 1)])⟩]⟩))) (.need ((m + (1 : Nat)) * (32 : Nat) ≤ (140737488355328 : Nat) ∧ m + (1 : Nat) ≤ (1000000 : Nat)) (.need ((0 : Nat) + m * (4 : Nat) ≤ o.length) (.leaf .normal ⟨(.pointer (some ⟨1, 0, none⟩) :: topV :: topV :: .slice (some ⟨7, 0, none⟩) (m + 1) (m + 1) :: .int .i64 (IntKind.i64.wrap ((↑n : Int) - 1)) :: topV :: topV :: topV :: topV :: topV :: topV :: topV :: topV :: topV :: topV :: topV :: topV :: topV :: topV :: topV :: topV :: topV :: topV :: topV :: topV :: topV :: topV :: topV :: topV :: topV :: topV :: topV :: topV :: topV :: topV :: topV :: topV :: topV :: topV :: topV :: topV :: topV :: topV :: topV :: topV :: topV :: topV :: topV :: topV :: topV :: topV :: topV :: topV :: topV :: topV :: topV :: topV :: topV :: topV :: topV :: topV :: topV :: topV :: topV :: []), [some ⟨.view, .bytes (bs)⟩, some ⟨.box, .vals [.slice (some ⟨0, 0, none⟩) (l) (c), .int .i64 (p + 2 + 2 + 1)]⟩, some deadB, some deadB, some deadB, some ⟨.box, .vals [.int .i64 (pickI bs l p 9 - 2), .int .i64 (pickI bs l (p + 1) 9 - 2), .int .i64 (pickI bs l (p + 2) 9 - 2), .int .i64 (pickI bs l (p + 2 + 1) 9 - 2)]⟩, some ⟨.row 39 4, .vals [.int .i64 (pickI bs l p 9 - 2), .int .i64 (pickI bs l (p + 1) 9 - 2), .int .i64 (pickI bs l (p + 2) 9 - 2), .int .i64 (pickI bs l (p + 2 + 1) 9 - 2)]⟩, some ⟨.row 39 4, .ints (List.take (m * 4) (List.drop 0 o) ++ [pickI bs l p 9 - 2, pickI bs l (p + 1) 9 - 2, pickI bs l (p + 2) 9 - 2, pickI bs l (p + 2 + 1) 9 - 2])⟩]⟩)))))) (brT (negB false (pickI bs l p 9 - 2 == pickI bs l (p + 2) 9 - 2 && (pickI bs l (p + 1) 9 - 2 == pickI bs l (p + 2 + 1) 9 - 2 && true))) (.need ((m + (1 : Nat)) * (32 : Nat) ≤ (140737488355328 : Nat) ∧ m + (1 : Nat) ≤ (1000000 : Nat)) (.need ((0 : Nat) + m * (4 : Nat) ≤ o.length) (.leaf .normal ⟨(.pointer (some ⟨1, 0, none⟩) :: topV :: topV :: .slice (some ⟨7, 0, none⟩) (m + 1) (m + 1) :: .int .i64 (IntKind.i64.wrap ((↑n : Int) - 1)) :: topV :: topV :: topV :: topV :: topV :: topV :: topV :: topV :: topV :: topV :: topV :: topV :: topV :: topV :: topV :: topV :: topV :: topV :: topV :: topV :: topV :: topV :: topV :: topV :: topV :: topV :: topV :: topV :: topV :: topV :: topV :: topV :: topV :: topV :: topV :: topV :: topV :: topV :: topV :: topV :: topV :: topV :: topV :: topV :: topV :: topV :: topV :: topV :: topV :: topV :: topV :: topV :: topV :: topV :: topV :: topV :: topV :: topV :: topV :: []), [some ⟨.view, .bytes (bs)⟩, some ⟨.box, .vals [.slice (some ⟨0, 0, none⟩) (l) (c), .int .i64 (p + 2 + 2)]⟩, some deadB, some deadB, some deadB, some ⟨.box, .vals [.int .i64 (pickI bs l p 9 - 2), .int .i64 (pickI bs l (p + 1) 9 - 2), .int .i64 (pickI bs l (p + 2) 9 - 2), .int .i64 (IntKind.i64.wrap (pickI bs l (p + 2 + 1) 9 - 2 + 1))]⟩, some ⟨.row 39 4, .vals [.int .i64 (pickI bs l p 9 - 2), .int .i64 (pickI bs l (p + 1) 9 - 2), .int .i64 (pickI bs l (p + 2) 9 - 2), .int .i64 (IntKind.i64.wrap (pickI bs l (p + 2 + 1) 9 - 2 + 1))]⟩, some ⟨.row 39 4, .ints (List.take (m * 4) (List.drop 0 o) ++ [pickI bs l p 9 - 2, pickI bs l (p + 1) 9 - 2, pickI bs l (p + 2) 9 - 2, IntKind.i64.wrap (pickI bs l (p + 2 + 1) 9 - 2 + 1)])⟩]⟩))) (.need ((m + (1 : Nat)) * (32 : Nat) ≤ (140737488355328 : Nat) ∧ m + (1 : Nat) ≤ (1000000 : Nat)) (.need ((0 : Nat) + m * (4 : Nat) ≤ o.length) (.leaf .normal ⟨(.pointer (some ⟨1, 0, none⟩) :: topV :: topV :: .slice (some ⟨7, 0, none⟩) (m + 1) (m + 1) :: .int .i64 (IntKind.i64.wrap ((↑n : Int) - 1)) :: topV :: topV :: topV :: topV :: topV :: topV :: topV :: topV :: topV :: topV :: topV :: topV :: topV :: topV :: topV :: topV :: topV :: topV :: topV :: topV :: topV :: topV :: topV :: topV :: topV :: topV :: topV :: topV :: topV :: topV :: topV :: topV :: topV :: topV :: topV :: topV :: topV :: topV :: topV :: topV :: topV :: topV :: topV :: topV :: topV :: topV :: topV :: topV :: topV :: topV :: topV :: topV :: topV :: topV :: topV :: topV :: topV :: topV :: topV :: []), [some ⟨.view, .bytes (bs)⟩, some ⟨.box, .vals [.slice (some ⟨0, 0, none⟩) (l) (c), .int .i64 (p + 2 + 2)]⟩, some deadB, some deadB, some deadB, some ⟨.box, .vals [.int .i64 (pickI bs l p 9 - 2), .int .i64 (pickI bs l (p + 1) 9 - 2), .int .i64 (pickI bs l (p + 2) 9 - 2), .int .i64 (pickI bs l (p + 2 + 1) 9 - 2)]⟩, some ⟨.row 39 4, .vals [.int .i64 (pickI bs l p 9 - 2), .int .i64 (pickI bs l (p + 1) 9 - 2), .int .i64 (pickI bs l (p + 2) 9 - 2), .int .i64 (pickI bs l (p + 2 + 1) 9 - 2)]⟩, some ⟨.row 39 4, .ints (List.take (m * 4) (List.drop 0 o) ++ [pickI bs l p 9 - 2, pickI bs l (p + 1) 9 - 2, pickI bs l (p + 2) 9 - 2, pickI bs l (p + 2 + 1) 9 - 2])⟩]⟩))))))) (.leaf (.exit 0) ⟨(.pointer (some ⟨1, 0, none⟩) :: topV :: topV :: .slice (some ⟨4, 0, none⟩) (m) (m) :: topV :: topV :: topV :: topV :: topV :: topV :: topV :: topV :: topV :: topV :: topV :: topV :: topV :: topV :: topV :: topV :: topV :: topV :: topV :: topV :: topV :: topV :: topV :: topV :: topV :: topV :: topV :: topV :: topV :: topV :: topV :: topV :: topV :: topV :: topV :: topV :: topV :: topV :: topV :: topV :: topV :: topV :: topV :: topV :: topV :: topV :: topV :: topV :: topV :: topV :: topV :: topV :: topV :: topV :: topV :: topV :: topV :: topV :: topV :: topV :: []), [some ⟨.view, .bytes (bs)⟩, some ⟨.box, .vals [.slice (some ⟨0, 0, none⟩) (l) (c), .int .i64 (p)]⟩, some deadB, some deadB, some ⟨.row 39 4, .ints (o)⟩]⟩) := by kernel_rfl
set_option maxRecDepth 100000 in
theorem nl_ass : loopsOf c_ass = [] := by kernel_rfl
def inv_ass (bs : List Int) (l c : Nat) : Nat × Nat × (List Int) × Int → Prop := fun (n, m, o, p) => m + n ≤ 100 ∧ o.length = m * 4 ∧ 0 ≤ p ∧ p + 6 * n ≤ 900000
def me_ass (bs : List Int) (l c : Nat) : Nat × Nat × (List Int) × Int → Nat := fun (n, m, o, p) => n
/-- A round of this loop. -/
def Round_ass (bs : List Int) (l c : Nat) : Prop := ∀ xx : Nat × Nat × (List Int) × Int, inv_ass bs l c xx → (bodyL Try.prog ERs 30 12 noL 1 c_ass k_ass 16 (s_ass bs l c xx)).ok (RoundEnd 4 (s_ass bs l c) (inv_ass bs l c) (me_ass bs l c) re_ass (rs_ass bs l c) xx) (fun _ _ => False)
def e_ass (s : St) (k : Ex → St → Tree) : Option Tree := match Nat.beq s.tmps.length 64, pickL s.tmps [0, 3, 4], s.mem with
  | true, [.pointer (some ⟨1, 0, none⟩), .slice (some ⟨2, 0, none⟩) z _, .int .i64 n1], [some ⟨.view, .bytes bs⟩, some ⟨.box, .vals [.slice (some ⟨0, 0, none⟩) l c, .int .i64 p]⟩, some ⟨.row 39 4, .vals []⟩, some ⟨.row 3 1, .vals w⟩] => some (needs [z = 0, 0 ≤ n1 ∧ n1 ≤ 100, l ≤ bs.length ∧ l ≤ 2000 ∧ Bytes bs, 0 ≤ p ∧ p ≤ 800000] (k (.exit 0) ⟨(.pointer (some ⟨1, 0, none⟩) :: topV :: topV :: .slice (some ⟨4, 0, none⟩) (0 + n1.toNat) (0 + n1.toNat) :: topV :: topV :: topV :: topV :: topV :: topV :: topV :: topV :: topV :: topV :: topV :: topV :: topV :: topV :: topV :: topV :: topV :: topV :: topV :: topV :: topV :: topV :: topV :: topV :: topV :: topV :: topV :: topV :: topV :: topV :: topV :: topV :: topV :: topV :: topV :: topV :: topV :: topV :: topV :: topV :: topV :: topV :: topV :: topV :: topV :: topV :: topV :: topV :: topV :: topV :: topV :: topV :: topV :: topV :: topV :: topV :: topV :: topV :: topV :: topV :: []), [some ⟨.view, .bytes bs⟩, some ⟨.box, .vals [.slice (some ⟨0, 0, none⟩) l c, .int .i64 (ssP bs l n1.toNat 0 [] p)]⟩, some ⟨.dead, .vals []⟩, some ⟨.dead, .vals []⟩, some ⟨.row 39 4, .ints (ssL bs l n1.toNat 0 [] p)⟩]⟩))
  | _, _, _ => none
set_option maxRecDepth 100000 in
set_option maxHeartbeats 4000000 in
theorem round_ass (bs : List Int) (l c : Nat) (h : l ≤ bs.length ∧ l ≤ 2000 ∧ Bytes bs) : Round_ass bs l c := by
  rintro ⟨n, m, o, p⟩ ⟨h1, h2, h3, h4⟩
  rw [tr_ass]
  have fk : List.take (m * 4) (List.drop 0 o) = o := by rw [List.drop_zero]; exact List.take_of_length_le (by omega)
  simp only [fk, Nat.zero_add, show p + 2 + 2 = p + 4 by omega, show p + 4 + 1 = p + 5 by omega, show p + 5 + 1 = p + 6 by omega, show p + 2 + 1 = p + 3 by omega, eqB_v]
  refine brT_ok.2 ⟨fun hlt => ?_, fun hge => ?_⟩
  · have hlt := of_decide_eq_true hlt
    obtain ⟨n, rfl⟩ : ∃ k, n = k + 1 := ⟨n - 1, by omega⟩
    have hr : rdK bs l p := ⟨⟨h.1, h.2.1, h3, by omega, h.2.2⟩, by omega⟩
    have hr2 : rdK bs l (p + 2) := ⟨⟨h.1, h.2.1, by omega, by omega, h.2.2⟩, by omega⟩
    have ra : ∀ q : Int, p ≤ q → q ≤ p + 100 → rdC bs l q := fun q g1 g2 => hr.at g1 (by omega)
    have e : IntKind.i64.wrap (((n + 1 : Nat) : Int) - 1) = (n : Int) := by rw [wr (by omega)]; omega
    have b3 := pickI_bd (k := 9) (ra (p + 3) (by omega) (by omega)) (by omega)
    have w3 : IntKind.i64.wrap (pickI bs l (p + 3) 9 - 2 + 1) = pickI bs l (p + 3) 9 - 2 + 1 := wr (by omega)
    rw [e, w3]
    have fin : ∀ x y z q, sjX bs l m o p = x → sjY bs l m o p = y → sjZ bs l m o p = z → sjP bs l m p = q → p + 4 ≤ q → q ≤ p + 6 →
        (Tree.leaf .normal ⟨[.pointer (some ⟨1, 0, none⟩), topV, topV, .slice (some ⟨7, 0, none⟩) (m + 1) (m + 1), .int .i64 n, topV, topV, topV, topV, topV, topV, topV, topV, topV, topV, topV, topV, topV, topV, topV, topV, topV, topV, topV, topV, topV, topV, topV, topV, topV, topV, topV, topV, topV, topV, topV, topV, topV, topV, topV, topV, topV, topV, topV, topV, topV, topV, topV, topV, topV, topV, topV, topV, topV, topV, topV, topV, topV, topV, topV, topV, topV, topV, topV], [some ⟨.view, .bytes bs⟩, some ⟨.box, .vals [.slice (some ⟨0, 0, none⟩) l c, .int .i64 q]⟩, some ⟨.dead, .vals []⟩, some ⟨.dead, .vals []⟩, some ⟨.dead, .vals []⟩, some ⟨.box, .vals [.int .i64 x, .int .i64 y, .int .i64 (pickI bs l (p + 2) 9 - 2), .int .i64 z]⟩, some ⟨.row 39 4, .vals [.int .i64 x, .int .i64 y, .int .i64 (pickI bs l (p + 2) 9 - 2), .int .i64 z]⟩, some ⟨.row 39 4, .ints (o ++ [x, y, pickI bs l (p + 2) 9 - 2, z])⟩]⟩).ok (RoundEnd 4 (s_ass bs l c) (inv_ass bs l c) (me_ass bs l c) re_ass (rs_ass bs l c) (n + 1, m, o, p)) (fun _ _ => False) := fun x y z q e1 e2 e3 e4 g1 g2 => by
      have eO : sjO bs l m o p = o ++ [x, y, pickI bs l (p + 2) 9 - 2, z] := by unfold sjO; rw [e1, e2, e3]
      refine ⟨(n, m + 1, o ++ [x, y, pickI bs l (p + 2) 9 - 2, z], q), [some 7], ⟨by omega, by simp; omega, by omega, by omega⟩, ?_, rfl, ?_, ?_⟩
      · show n < n + 1; omega
      · simp only [rs_ass, ssL, ssP, eO, e4]
        rw [show m + (n + 1) = m + 1 + n by omega]
      · repeat' (first | exact True.intro | exact rfl | exact fun _ => rfl | (simp; done) | refine And.intro ?_ ?_)
    refine ⟨hr, hr2, brT_ok.2 ⟨fun hm => ⟨ra _ (by omega) (by omega), brT_ok.2 ⟨fun hk => ?_, fun hk => ?_⟩⟩, fun hm => ?_⟩⟩
    · have hm := of_decide_eq_true hm
      have bm := pickI_bd (k := (m : Int)) (ra (p + 5) (by omega) (by omega)) (by omega)
      have q1 : sjQ bs l m p = true := by unfold sjQ; rw [decide_eq_true (show 0 < m by omega), hk]; rfl
      have eX : sjX bs l m o p = o.getD ((pickI bs l (p + 5) m).toNat * 4 + 2) 0 := by unfold sjX; rw [q1]; rfl
      have eY : sjY bs l m o p = o.getD ((pickI bs l (p + 5) m).toNat * 4 + 2 + 1) 0 := by unfold sjY; rw [q1]; rfl
      have eP : sjP bs l m p = p + 6 := by unfold sjP; rw [decide_eq_true (show 0 < m by omega), hk]; rfl
      refine ⟨ra _ (by omega) (by omega), ⟨by omega, by omega⟩, by omega, brT_ok.2 ⟨fun hz => ⟨by omega, by omega, ?_⟩, fun hz => ⟨by omega, by omega, ?_⟩⟩⟩
      · exact fin _ _ _ _ eX eY (by unfold sjZ; rw [eX, eY, hz]; rfl) eP (by omega) (by omega)
      · exact fin _ _ _ _ eX eY (by unfold sjZ; rw [eX, eY, hz]; rfl) eP (by omega) (by omega)
    · have hm := of_decide_eq_true hm
      have q1 : sjQ bs l m p = false := by unfold sjQ; rw [hk, Bool.and_false]
      have eX : sjX bs l m o p = pickI bs l p 9 - 2 := by unfold sjX; rw [q1]; rfl
      have eY : sjY bs l m o p = pickI bs l (p + 1) 9 - 2 := by unfold sjY; rw [q1]; rfl
      have eP : sjP bs l m p = p + 5 := by unfold sjP; rw [decide_eq_true (show 0 < m by omega), hk]; rfl
      refine brT_ok.2 ⟨fun hz => ⟨by omega, by omega, ?_⟩, fun hz => ⟨by omega, by omega, ?_⟩⟩
      · exact fin _ _ _ _ eX eY (by unfold sjZ; rw [eX, eY, hz]; rfl) eP (by omega) (by omega)
      · exact fin _ _ _ _ eX eY (by unfold sjZ; rw [eX, eY, hz]; rfl) eP (by omega) (by omega)
    · have hm := of_decide_eq_false hm
      have q1 : sjQ bs l m p = false := by unfold sjQ; rw [decide_eq_false (show ¬ 0 < m by omega)]; rfl
      have eX : sjX bs l m o p = pickI bs l p 9 - 2 := by unfold sjX; rw [q1]; rfl
      have eY : sjY bs l m o p = pickI bs l (p + 1) 9 - 2 := by unfold sjY; rw [q1]; rfl
      have eP : sjP bs l m p = p + 4 := by unfold sjP; rw [decide_eq_false (show ¬ 0 < m by omega)]; rfl
      refine brT_ok.2 ⟨fun hz => ⟨by omega, by omega, ?_⟩, fun hz => ⟨by omega, by omega, ?_⟩⟩
      · exact fin _ _ _ _ eX eY (by unfold sjZ; rw [eX, eY, hz]; rfl) eP (by omega) (by omega)
      · exact fin _ _ _ _ eX eY (by unfold sjZ; rw [eX, eY, hz]; rfl) eP (by omega) (by omega)
  · have hge := of_decide_eq_false hge
    obtain rfl : n = 0 := by omega
    refine ⟨rfl, [some 4], ?_⟩
    simp only [rs_ass, ssL, ssP]
    repeat' (first | exact True.intro | exact rfl | exact fun _ => rfl | (simp; done) | refine And.intro ?_ ?_)
set_option maxRecDepth 100000 in
theorem lg_ass : LoopE Try.prog e_ass c_ass := by
  intro s k t F H hlt ht
  unfold e_ass at hlt
  split at hlt
  rotate_left
  · cases hlt
  rename_i hlen hpick hmem
  obtain ⟨tmps, mem⟩ := s
  simp only at hlen hpick hmem
  subst hmem
  obtain rfl := Option.some.inj hlt
  obtain ⟨⟨rfl, h1, h2, h3, _⟩, ht2⟩ := needs_ok ht
  clear ht hlt
  obtain ⟨n, rfl⟩ := Int.eq_ofNat_of_zero_le h1.1
  simp only [Int.toNat_natCast] at ht2
  refine ⟨_, _, ht2, loop_run2 mixed ERs_ok (s_ass _ _ _) (inv_ass _ _ _) (me_ass _ _ _) re_ass (rs_ass _ _ _) k_ass (fun _ => rfl) (noLoops nl_ass) (round_ass _ _ _ h2) (x := (n, 0, [], _)) ⟨by omega, rfl, h3.1, by omega⟩ (π := [some 2]) rfl ?_⟩
  refine ⟨rfl, rfl, ?_, wvs_spread' [0, 3, 4] hlen rfl ?_⟩
  · repeat' (first | exact True.intro | exact rfl | exact wv_top _ _ | exact fun _ => rfl | assumption | exact Eq.symm (by assumption) | exact vI0 rfl | refine And.intro ?_ ?_)
  · rw [hpick]
    repeat' (first | exact True.intro | exact rfl | exact wv_top _ _ | exact fun _ => rfl | assumption | exact Eq.symm (by assumption) | exact vI0 rfl | refine And.intro ?_ ?_)
end Go.Proofs.Ytolodncpegajkaa
namespace Go.Proofs.Ytolodncpegajkaa
set_option linter.all false
open Go.RowKit
theorem Lr_ass {fn : Func} (hf : Try.prog.funcs[69]? = some fn) : LoopsGood Try.prog (lt1 e_ass) 0 (codeOf fn) := by
  obtain rfl := fn_is Try.func69 hf
  exact lt1_good lg_ass
def LAs : FuncId → LT := fun f => match f with
  | 69 => lt1 e_ass
  | _ => noL
def EAs : Env := ⟨B0, fun _ _ => none, LAs, tabJ J5a, fun _ => noR⟩
theorem EAs_ok : EnvOk Try.prog EAs := ⟨B0_ok, fun _ _ _ _ _ h => (by cases h), (by
  intro f fn hf
  show LoopsGood Try.prog (LAs f) 0 (codeOf fn)
  unfold LAs
  split
  all_goals first | with_reducible exact Lr_ass hf | exact noL_good), tabJ_sound mixed J5a_ok, fun _ _ _ => noR_good⟩
set_option maxRecDepth 100000 in
theorem tr_asF (bs : List Int) (l c : Nat) (p : Int) : bodyM Try.prog EAs (runM Try.prog EAs 30 12) 30 69 [.pointer (some ⟨1, 0, none⟩)] (memR bs l c p none) .fin = .need (rdC bs l p) (.need ((1 : Nat) ≤ (7 : Nat) ∧ (7 : Nat) ≤ (7 : Nat) ∧ (7 : Nat) = (7 : Nat)) (.need ((0 : Nat) = (0 : Nat)) (.need ((0 : Int) ≤ oneI bs l p (7 : Nat) [(0 : Int), (1 : Int), (2 : Int), (3 : Int), (4 : Int), (6 : Int), (13 : Int)] ∧ oneI bs l p (7 : Nat) [(0 : Int), (1 : Int), (2 : Int), (3 : Int), (4 : Int), (6 : Int), (13 : Int)] ≤ (100 : Int)) (.need (l ≤ bs.length ∧ l ≤ (2000 : Nat) ∧ Bytes bs) (.need ((0 : Int) ≤ p + (1 : Int) ∧ p + (1 : Int) ≤ (800000 : Int)) (brT (decide (0 < (↑(0 + (oneI bs l p 7 [0, 1, 2, 3, 4, 6, 13]).toNat) : Int))) (.need (rdC bs l (ssP bs l (oneI bs l p (7 : Nat) [(0 : Int), (1 : Int), (2 : Int), (3 : Int), (4 : Int), (6 : Int), (13 : Int)]).toNat (0 : Nat) [] (p + (1 : Int)))) (brT (pickI bs l (ssP bs l (oneI bs l p 7 [0, 1, 2, 3, 4, 6, 13]).toNat 0 [] (p + 1)) 12 == 0) (.need (rdK bs l (ssP bs l (oneI bs l p (7 : Nat) [(0 : Int), (1 : Int), (2 : Int), (3 : Int), (4 : Int), (6 : Int), (13 : Int)]).toNat (0 : Nat) [] (p + (1 : Int)) + (1 : Int))) (.need (rdK bs l (apP bs l (ssP bs l (oneI bs l p (7 : Nat) [(0 : Int), (1 : Int), (2 : Int), (3 : Int), (4 : Int), (6 : Int), (13 : Int)]).toNat (0 : Nat) [] (p + (1 : Int)) + (1 : Int)))) (.need ((0 : Int) ≤ (0 : Int) ∧ (0 : Int) < (↑((0 : Nat) + (oneI bs l p (7 : Nat) [(0 : Int), (1 : Int), (2 : Int), (3 : Int), (4 : Int), (6 : Int), (13 : Int)]).toNat) : Int)) (.need ((4 : Nat) ≤ (ssL bs l (oneI bs l p (7 : Nat) [(0 : Int), (1 : Int), (2 : Int), (3 : Int), (4 : Int), (6 : Int), (13 : Int)]).toNat (0 : Nat) [] (p + (1 : Int))).length) (.fin (.slice (some ⟨4, 0, none⟩) (0 + (oneI bs l p 7 [0, 1, 2, 3, 4, 6, 13]).toNat) (0 + (oneI bs l p 7 [0, 1, 2, 3, 4, 6, 13]).toNat)) [some ⟨.view, .bytes (bs)⟩, some ⟨.box, .vals [.slice (some ⟨0, 0, none⟩) (l) (c), .int .i64 (asP bs l (ssP bs l (oneI bs l p 7 [0, 1, 2, 3, 4, 6, 13]).toNat 0 [] (p + 1) + 1))]⟩, some deadB, some deadB, some ⟨.row 39 4, .ints (setInts (ssL bs l (oneI bs l p 7 [0, 1, 2, 3, 4, 6, 13]).toNat 0 [] (p + 1)) 0 [apX bs l (ssP bs l (oneI bs l p 7 [0, 1, 2, 3, 4, 6, 13]).toNat 0 [] (p + 1) + 1), apY bs l (ssP bs l (oneI bs l p 7 [0, 1, 2, 3, 4, 6, 13]).toNat 0 [] (p + 1) + 1), asX bs l (ssP bs l (oneI bs l p 7 [0, 1, 2, 3, 4, 6, 13]).toNat 0 [] (p + 1) + 1), asY bs l (ssP bs l (oneI bs l p 7 [0, 1, 2, 3, 4, 6, 13]).toNat 0 [] (p + 1) + 1)])⟩]))))) (.fin (.slice (some ⟨4, 0, none⟩) (0 + (oneI bs l p 7 [0, 1, 2, 3, 4, 6, 13]).toNat) (0 + (oneI bs l p 7 [0, 1, 2, 3, 4, 6, 13]).toNat)) [some ⟨.view, .bytes (bs)⟩, some ⟨.box, .vals [.slice (some ⟨0, 0, none⟩) (l) (c), .int .i64 (ssP bs l (oneI bs l p 7 [0, 1, 2, 3, 4, 6, 13]).toNat 0 [] (p + 1) + 1)]⟩, some deadB, some deadB, some ⟨.row 39 4, .ints (ssL bs l (oneI bs l p 7 [0, 1, 2, 3, 4, 6, 13]).toNat 0 [] (p + 1))⟩]))) (.fin (.slice (some ⟨4, 0, none⟩) (0 + (oneI bs l p 7 [0, 1, 2, 3, 4, 6, 13]).toNat) (0 + (oneI bs l p 7 [0, 1, 2, 3, 4, 6, 13]).toNat)) [some ⟨.view, .bytes (bs)⟩, some ⟨.box, .vals [.slice (some ⟨0, 0, none⟩) (l) (c), .int .i64 (ssP bs l (oneI bs l p 7 [0, 1, 2, 3, 4, 6, 13]).toNat 0 [] (p + 1))]⟩, some deadB, some deadB, some ⟨.row 39 4, .ints (ssL bs l (oneI bs l p 7 [0, 1, 2, 3, 4, 6, 13]).toNat 0 [] (p + 1))⟩]))))))) := by kernel_rfl
def asC : List Int := [0, 1, 2, 3, 4, 6, 13]
theorem asC_bd (k : Nat) : 0 ≤ asC.getD k 0 ∧ asC.getD k 0 ≤ 13 := by
  unfold asC
  match k with
  | 0 => decide
  | 1 => decide
  | 2 => decide
  | 3 => decide
  | 4 => decide
  | 5 => decide
  | 6 => decide
  | n + 7 => simp
/-- How many segments are drawn. -/
def asN (bs : List Int) (l : Nat) (p : Int) : Nat := (oneI bs l p 7 asC).toNat
def asM (bs : List Int) (l : Nat) (p : Int) : List Int := ssL bs l (asN bs l p) 0 [] (p + 1)
def asW (bs : List Int) (l : Nat) (p : Int) : Int := ssP bs l (asN bs l p) 0 [] (p + 1)
def anL (bs : List Int) (l : Nat) (p : Int) : List Int := bif decide (0 < asN bs l p) && pickI bs l (asW bs l p) 12 == 0 then setInts (asM bs l p) 0 [apX bs l (asW bs l p + 1), apY bs l (asW bs l p + 1), asX bs l (asW bs l p + 1), asY bs l (asW bs l p + 1)] else asM bs l p
def anE (bs : List Int) (l : Nat) (p : Int) : Int := bif decide (0 < asN bs l p) then (bif pickI bs l (asW bs l p) 12 == 0 then asP bs l (asW bs l p + 1) else asW bs l p + 1) else asW bs l p
theorem ss_bd (bs : List Int) (l : Nat) : ∀ (n m : Nat) (o : List Int) (p : Int), (ssL bs l n m o p).length = o.length + n * 4 ∧ p ≤ ssP bs l n m o p ∧ ssP bs l n m o p ≤ p + 6 * n
  | 0, m, o, p => ⟨rfl, Int.le_refl _, by simp [ssP]⟩
  | n + 1, m, o, p => by
    obtain ⟨h1, h2, h3⟩ := ss_bd bs l n (m + 1) (sjO bs l m o p) (sjP bs l m p)
    have k1 : (sjO bs l m o p).length = o.length + 4 := by unfold sjO; simp
    have k2 : p + 4 ≤ sjP bs l m p ∧ sjP bs l m p ≤ p + 6 := by
      unfold sjP
      cases decide (0 < m) <;> cases (pickI bs l (p + 4) 3 == 0) <;> simp only [cond_true, cond_false] <;> omega
    simp only [ssL, ssP]
    omega
theorem asN_bd (bs : List Int) (l : Nat) (p : Int) : asN bs l p ≤ 13 := by
  have := asC_bd (pickI bs l p (7 : Nat)).toNat
  unfold asN oneI
  omega
theorem anL_len (bs : List Int) (l : Nat) (p : Int) : (anL bs l p).length = asN bs l p * 4 := by
  have h := (ss_bd bs l (asN bs l p) 0 [] (p + 1)).1
  rw [List.length_nil, Nat.zero_add] at h
  have h : (asM bs l p).length = asN bs l p * 4 := h
  unfold anL
  rcases hc : (decide (0 < asN bs l p) && pickI bs l (asW bs l p) 12 == 0) with _ | _
  · exact h
  · have g := of_decide_eq_true (Bool.and_eq_true_iff.1 hc).1
    rw [cond_true]
    simp only [setInts, List.length_append, List.length_take, List.length_drop, List.length_cons, List.length_nil]
    omega
def anyS : RSpecR := fun bs l p rest => match rest with
  | [] => some (.slice (some ⟨0, 0, none⟩) (asN bs l p) (asN bs l p), ⟨.row 39 4, .ints (anL bs l p)⟩, anE bs l p, [rdC bs l p, p ≤ 700000])
  | _ => none
theorem anyS_ok : SpecROk Try.prog 69 anyS := by
  intro bs l c p rest v b p' C h hC
  unfold anyS at h
  split at h
  rotate_left
  · cases h
  obtain ⟨rfl, rfl, rfl, rfl⟩ : (.slice (some ⟨0, 0, none⟩) (asN bs l p) (asN bs l p) : Value) = v ∧ (⟨.row 39 4, .ints (anL bs l p)⟩ : Blk) = b ∧ anE bs l p = p' ∧ [rdC bs l p, p ≤ 700000] = C := by simpa using h
  obtain ⟨h1, h2, _⟩ := hC
  refine ⟨rfl, EAs, 30, 12, EAs_ok, ?_⟩
  rw [tr_asF]
  have h0 := h1.2.2.1
  have b0 := asC_bd (pickI bs l p (7 : Nat)).toNat
  have b1 : oneI bs l p 7 [0, 1, 2, 3, 4, 6, 13] = asC.getD (pickI bs l p (7 : Nat)).toNat 0 := rfl
  have bn := asN_bd bs l p
  obtain ⟨m1, m2, m3⟩ := ss_bd bs l (asN bs l p) 0 [] (p + 1)
  have eN : (oneI bs l p 7 [0, 1, 2, 3, 4, 6, 13]).toNat = asN bs l p := rfl
  rw [eN, b1]
  have eL : ssL bs l (asN bs l p) 0 [] (p + 1) = asM bs l p := rfl
  have eZ : ssP bs l (asN bs l p) 0 [] (p + 1) = asW bs l p := rfl
  rw [eL, List.length_nil] at m1
  rw [eZ] at m2 m3
  rw [eL, eZ]
  simp only [Nat.zero_add]
  have rk : ∀ q : Int, p ≤ q → q ≤ p + 1000 → rdK bs l q := fun q g1 g2 => ⟨⟨h1.1, h1.2.1, by omega, by omega, h1.2.2.2.2⟩, by omega⟩
  have ab := apP_bd bs l (asW bs l p + 1)
  refine ⟨h1, by decide, trivial, ⟨by omega, by omega⟩, ⟨h1.1, h1.2.1, h1.2.2.2.2⟩, ⟨by omega, by omega⟩, brT_ok.2 ⟨fun g => ?_, fun g => ?_⟩⟩
  · have g2 : 0 < asN bs l p := by have := of_decide_eq_true g; omega
    refine ⟨(rk _ (by omega) (by omega)).1, brT_ok.2 ⟨fun k => ?_, fun k => ?_⟩⟩
    · have eE : anE bs l p = asP bs l (asW bs l p + 1) := by unfold anE; rw [decide_eq_true g2, cond_true, k, cond_true]
      have eA : anL bs l p = setInts (asM bs l p) 0 [apX bs l (asW bs l p + 1), apY bs l (asW bs l p + 1), asX bs l (asW bs l p + 1), asY bs l (asW bs l p + 1)] := by unfold anL; rw [decide_eq_true g2, k]; rfl
      rw [eA, eE]
      exact ⟨rk _ (by omega) (by omega), rk _ (by omega) (by omega), ⟨by omega, by omega⟩, by omega, rfl, some 4, ⟨rfl, rfl, rfl⟩, rfl, rfl, rfl⟩
    · have eE : anE bs l p = asW bs l p + 1 := by unfold anE; rw [decide_eq_true g2, cond_true, k, cond_false]
      have eA : anL bs l p = asM bs l p := by unfold anL; rw [k, Bool.and_false]; rfl
      rw [eA, eE]
      exact ⟨rfl, some 4, ⟨rfl, rfl, rfl⟩, rfl, rfl, rfl⟩
  · have g2 : ¬ 0 < asN bs l p := by have := of_decide_eq_false g; omega
    have eE : anE bs l p = asW bs l p := by unfold anE; rw [decide_eq_false g2, cond_false]
    have eA : anL bs l p = asM bs l p := by unfold anL; rw [decide_eq_false g2]; rfl
    rw [eA, eE]
    exact ⟨rfl, some 4, ⟨rfl, rfl, rfl⟩, rfl, rfl, rfl⟩
def JAs : TabJ := consR 69 (rdGR anyS) (tabJ J2)
theorem JAs_ok : GSound Try.prog JAs.g := consR_ok mixed (tabJ_sound mixed J2_ok) (entersB_res (by kernel_rfl)).1 anyS_ok
def EDs : Env := ⟨B0, fun _ _ => none, fun _ => noL, JAs, fun _ => noR⟩
theorem EDs_ok : EnvOk Try.prog EDs := ⟨B0_ok, fun _ _ _ _ _ h => (by cases h), fun _ _ _ => noL_good, JAs_ok, fun _ _ _ => noR_good⟩
end Go.Proofs.Ytolodncpegajkaa
namespace Go.Proofs.Ytolodncpegajkaa
set_option linter.all false
open Go.RowKit
def EMp : Env := mkE TRb RCe (fun _ => noL)
theorem EMp_ok : EnvOk Try.prog EMp := mkEOk TRb_ok RCe_ok (fun _ _ _ => noL_good)
def mpX (a c u v : Int) : Int := a * (u - v) + (c - a) * u
/-- What MeetPoint answers. -/
def mpV (a b c d e f g h : Int) : Value :=
  if relV a b c d e f g h = 1 then .tuple #[.agg #[.int .i64 ((flat (ceS a b c d e f g h)).getD 0 0), .int .i64 1, .int .i64 ((flat (ceS a b c d e f g h)).getD 1 0), .int .i64 1], .bool true]
  else if relV a b c d e f g h = 2 then .tuple #[.agg #[.int .i64 (qN (mpX a c (crossI e f g h a b) (crossI e f g h c d)) (crossI e f g h a b - crossI e f g h c d)), .int .i64 (qD (mpX a c (crossI e f g h a b) (crossI e f g h c d)) (crossI e f g h a b - crossI e f g h c d)), .int .i64 (qN (mpX b d (crossI e f g h a b) (crossI e f g h c d)) (crossI e f g h a b - crossI e f g h c d)), .int .i64 (qD (mpX b d (crossI e f g h a b) (crossI e f g h c d)) (crossI e f g h a b - crossI e f g h c d))], .bool true]
  else .tuple #[.agg #[.int .i64 0, .int .i64 0, .int .i64 0, .int .i64 0], .bool false]
theorem relV_pt {a b c d e f g h : Int} (k : relV a b c d e f g h ≠ -1) : ptB a b = true ∧ ptB c d = true ∧ ptB e f = true ∧ ptB g h = true ∧ relV a b c d e f g h = relA a b c d e f g h := by
  unfold relV at k ⊢
  rcases s1 : segB a b c d with _ | _
  · rw [s1] at k; exact absurd rfl k
  rcases s2 : segB e f g h with _ | _
  · rw [s1, s2] at k; exact absurd rfl k
  exact ⟨(segB_pt s1).1, (segB_pt s1).2, (segB_pt s2).1, (segB_pt s2).2, rfl⟩
theorem relA_one {a b c d e f g h : Int} (k : relA a b c d e f g h = 1) : (ceS a b c d e f g h).length = 1 := by
  unfold relA relN at k
  split at k
  · omega
  · split at k
    · assumption
    · exfalso
      cases hx : (dvB a b c d e f g h && dvB e f g h a b c d) <;> rw [hx] at k <;> simp at k
theorem relA_two {a b c d e f g h : Int} (k : relA a b c d e f g h = 2) : dvB a b c d e f g h = true ∧ dvB e f g h a b c d = true := by
  unfold relA relN at k
  split at k
  · omega
  · split at k
    · omega
    · cases hx : (dvB a b c d e f g h && dvB e f g h a b c d) <;> rw [hx] at k
      · simp at k
      · simpa using hx
theorem dvB_ne {a b c d e f g h : Int} (k : dvB a b c d e f g h = true) : crossI a b c d e f ≠ crossI a b c d g h := by
  intro e1
  unfold dvB at k
  rw [e1] at k
  have k := of_decide_eq_true k
  have h3 : cmpI (crossI a b c d g h) 0 = -1 ∨ cmpI (crossI a b c d g h) 0 = 0 ∨ cmpI (crossI a b c d g h) 0 = 1 := by
    unfold cmpI
    split
    · exact .inl rfl
    · split
      · exact .inr (.inr rfl)
      · exact .inr (.inl rfl)
  rcases h3 with h3 | h3 | h3 <;> rw [h3] at k <;> revert k <;> decide
theorem crI_bd {ax ay bx b_y cx cy : Int} (h1 : ptB ax ay = true) (h2 : ptB bx b_y = true) (h3 : ptB cx cy = true) : -8000000 ≤ crossI ax ay bx b_y cx cy ∧ crossI ax ay bx b_y cx cy ≤ 8000000 := by
  obtain ⟨b1, b2⟩ := crs_bd h1 h2 h3
  unfold crossI
  omega
theorem same_one {o o' : List Pt} (h : SameP o o') (h1 : o'.length = 1) : o = o' := by
  obtain ⟨k1, _, k3⟩ := h
  obtain ⟨p, rfl⟩ := List.length_eq_one_iff.1 h1
  obtain ⟨q, rfl⟩ := List.length_eq_one_iff.1 (k1.trans h1)
  have := (k3 q).1 List.mem_cons_self
  simpa using this
set_option maxRecDepth 100000 in
theorem tr_iMp (a b c d e f g h : Int) : bodyV Try.prog EMp 30 12 37 [.v (.agg #[iv a, iv b, iv c, iv d]), .v (.agg #[iv e, iv f, iv g, iv h])] = brT (relV a b c d e f g h == 1) (.need (ptB a b = true) (.need (ptB c d = true) (.need (ptB e f = true) (.need (ptB g h = true) (.need ((0 : Int) ≤ (0 : Int) ∧ (0 : Int) < (↑(ceI a b c d e f g h).length : Int)) (.need ((2 : Nat) ≤ (flat (ceI a b c d e f g h)).length) (.fin (.tuple #[.agg #[.int .i64 ((flat (ceI a b c d e f g h)).getD 0 0), .int .i64 (1), .int .i64 ((flat (ceI a b c d e f g h)).getD 1 0), .int .i64 (1)], .bool (true)]) []))))))) (brT (relV a b c d e f g h == 2) (.need (big (IntKind.i64.wrap (IntKind.i64.wrap (a * IntKind.i64.wrap (IntKind.i64.wrap (IntKind.i64.wrap (c - a) * IntKind.i64.wrap (h - f)) - IntKind.i64.wrap (IntKind.i64.wrap (d - b) * IntKind.i64.wrap (g - e)))) + IntKind.i64.wrap (IntKind.i64.wrap (c - a) * IntKind.i64.wrap (IntKind.i64.wrap (IntKind.i64.wrap (e - a) * IntKind.i64.wrap (h - f)) - IntKind.i64.wrap (IntKind.i64.wrap (f - b) * IntKind.i64.wrap (g - e))))))) (.need (big (IntKind.i64.wrap (IntKind.i64.wrap (IntKind.i64.wrap (c - a) * IntKind.i64.wrap (h - f)) - IntKind.i64.wrap (IntKind.i64.wrap (d - b) * IntKind.i64.wrap (g - e))))) (.need (¬IntKind.i64.wrap (IntKind.i64.wrap (IntKind.i64.wrap (c - a) * IntKind.i64.wrap (h - f)) - IntKind.i64.wrap (IntKind.i64.wrap (d - b) * IntKind.i64.wrap (g - e))) = (0 : Int)) (.need (big (IntKind.i64.wrap (IntKind.i64.wrap (b * IntKind.i64.wrap (IntKind.i64.wrap (IntKind.i64.wrap (c - a) * IntKind.i64.wrap (h - f)) - IntKind.i64.wrap (IntKind.i64.wrap (d - b) * IntKind.i64.wrap (g - e)))) + IntKind.i64.wrap (IntKind.i64.wrap (d - b) * IntKind.i64.wrap (IntKind.i64.wrap (IntKind.i64.wrap (e - a) * IntKind.i64.wrap (h - f)) - IntKind.i64.wrap (IntKind.i64.wrap (f - b) * IntKind.i64.wrap (g - e))))))) (.need (big (IntKind.i64.wrap (IntKind.i64.wrap (IntKind.i64.wrap (c - a) * IntKind.i64.wrap (h - f)) - IntKind.i64.wrap (IntKind.i64.wrap (d - b) * IntKind.i64.wrap (g - e))))) (.need (¬IntKind.i64.wrap (IntKind.i64.wrap (IntKind.i64.wrap (c - a) * IntKind.i64.wrap (h - f)) - IntKind.i64.wrap (IntKind.i64.wrap (d - b) * IntKind.i64.wrap (g - e))) = (0 : Int)) (.fin (.tuple #[.agg #[.int .i64 (qN (IntKind.i64.wrap (IntKind.i64.wrap (a * IntKind.i64.wrap (IntKind.i64.wrap (IntKind.i64.wrap (c - a) * IntKind.i64.wrap (h - f)) - IntKind.i64.wrap (IntKind.i64.wrap (d - b) * IntKind.i64.wrap (g - e)))) + IntKind.i64.wrap (IntKind.i64.wrap (c - a) * IntKind.i64.wrap (IntKind.i64.wrap (IntKind.i64.wrap (e - a) * IntKind.i64.wrap (h - f)) - IntKind.i64.wrap (IntKind.i64.wrap (f - b) * IntKind.i64.wrap (g - e)))))) (IntKind.i64.wrap (IntKind.i64.wrap (IntKind.i64.wrap (c - a) * IntKind.i64.wrap (h - f)) - IntKind.i64.wrap (IntKind.i64.wrap (d - b) * IntKind.i64.wrap (g - e))))), .int .i64 (qD (IntKind.i64.wrap (IntKind.i64.wrap (a * IntKind.i64.wrap (IntKind.i64.wrap (IntKind.i64.wrap (c - a) * IntKind.i64.wrap (h - f)) - IntKind.i64.wrap (IntKind.i64.wrap (d - b) * IntKind.i64.wrap (g - e)))) + IntKind.i64.wrap (IntKind.i64.wrap (c - a) * IntKind.i64.wrap (IntKind.i64.wrap (IntKind.i64.wrap (e - a) * IntKind.i64.wrap (h - f)) - IntKind.i64.wrap (IntKind.i64.wrap (f - b) * IntKind.i64.wrap (g - e)))))) (IntKind.i64.wrap (IntKind.i64.wrap (IntKind.i64.wrap (c - a) * IntKind.i64.wrap (h - f)) - IntKind.i64.wrap (IntKind.i64.wrap (d - b) * IntKind.i64.wrap (g - e))))), .int .i64 (qN (IntKind.i64.wrap (IntKind.i64.wrap (b * IntKind.i64.wrap (IntKind.i64.wrap (IntKind.i64.wrap (c - a) * IntKind.i64.wrap (h - f)) - IntKind.i64.wrap (IntKind.i64.wrap (d - b) * IntKind.i64.wrap (g - e)))) + IntKind.i64.wrap (IntKind.i64.wrap (d - b) * IntKind.i64.wrap (IntKind.i64.wrap (IntKind.i64.wrap (e - a) * IntKind.i64.wrap (h - f)) - IntKind.i64.wrap (IntKind.i64.wrap (f - b) * IntKind.i64.wrap (g - e)))))) (IntKind.i64.wrap (IntKind.i64.wrap (IntKind.i64.wrap (c - a) * IntKind.i64.wrap (h - f)) - IntKind.i64.wrap (IntKind.i64.wrap (d - b) * IntKind.i64.wrap (g - e))))), .int .i64 (qD (IntKind.i64.wrap (IntKind.i64.wrap (b * IntKind.i64.wrap (IntKind.i64.wrap (IntKind.i64.wrap (c - a) * IntKind.i64.wrap (h - f)) - IntKind.i64.wrap (IntKind.i64.wrap (d - b) * IntKind.i64.wrap (g - e)))) + IntKind.i64.wrap (IntKind.i64.wrap (d - b) * IntKind.i64.wrap (IntKind.i64.wrap (IntKind.i64.wrap (e - a) * IntKind.i64.wrap (h - f)) - IntKind.i64.wrap (IntKind.i64.wrap (f - b) * IntKind.i64.wrap (g - e)))))) (IntKind.i64.wrap (IntKind.i64.wrap (IntKind.i64.wrap (c - a) * IntKind.i64.wrap (h - f)) - IntKind.i64.wrap (IntKind.i64.wrap (d - b) * IntKind.i64.wrap (g - e)))))], .bool (true)]) []))))))) (.fin (.tuple #[.agg #[.int .i64 (0), .int .i64 (0), .int .i64 (0), .int .i64 (0)], .bool (false)]) [])) := by kernel_rfl
theorem mpV_plain (a b c d e f g h : Int) : plainV (mpV a b c d e f g h) = true := by
  unfold mpV
  split
  · rfl
  · split <;> rfl
theorem res_iMp (a b c d e f g h : Int) : Res Try.prog 37 [.v (.agg #[iv a, iv b, iv c, iv d]), .v (.agg #[iv e, iv f, iv g, iv h])] (mpV a b c d e f g h) := by
  refine bodyV_res mixed EMp_ok (m := 30) (n := 12) (mpV_plain ..) ?_
  rw [tr_iMp]
  unfold mpV
  refine brT_ok.2 ⟨fun k1 => ?_, fun k1 => brT_ok.2 ⟨fun k2 => ?_, fun k2 => ?_⟩⟩
  · have k1 := eq_of_beq k1
    obtain ⟨h1, h2, h3, h4, hr⟩ := relV_pt (a := a) (b := b) (c := c) (d := d) (e := e) (f := f) (g := g) (h := h) (by omega)
    have hl := relA_one (hr ▸ k1)
    rw [if_pos k1, same_one (ce_same a b c d e f g h) hl]
    exact ⟨h1, h2, h3, h4, by omega, by rw [flat_length]; omega, rfl⟩
  · have k2 := eq_of_beq k2
    obtain ⟨h1, h2, h3, h4, hr⟩ := relV_pt (a := a) (b := b) (c := c) (d := d) (e := e) (f := f) (g := g) (h := h) (by omega)
    have hne := dvB_ne (relA_two (hr ▸ k2)).2
    rw [if_neg (by omega), if_pos k2]
    have u1 := crI_bd h3 h4 h1
    have v1 := crI_bd h3 h4 h2
    have a1 := ptB_true h1
    have a2 := ptB_true h2
    have a3 := ptB_true h3
    have a4 := ptB_true h4
    have p1 : -(2000 * 2000) ≤ (c - a) * (h - f) ∧ (c - a) * (h - f) ≤ 2000 * 2000 := mul_bd 2000 2000 (by omega) (by omega)
    have p2 : -(2000 * 2000) ≤ (d - b) * (g - e) ∧ (d - b) * (g - e) ≤ 2000 * 2000 := mul_bd 2000 2000 (by omega) (by omega)
    have p3 : -(2000 * 2000) ≤ (e - a) * (h - f) ∧ (e - a) * (h - f) ≤ 2000 * 2000 := mul_bd 2000 2000 (by omega) (by omega)
    have p4 : -(2000 * 2000) ≤ (f - b) * (g - e) ∧ (f - b) * (g - e) ≤ 2000 * 2000 := mul_bd 2000 2000 (by omega) (by omega)
    have eA : (c - a) * (h - f) - (d - b) * (g - e) = crossI e f g h a b - crossI e f g h c d := by unfold crossI; grind
    have eP : (e - a) * (h - f) - (f - b) * (g - e) = crossI e f g h a b := by unfold crossI; grind
    simp (disch := omega) only [wr, eA, eP]
    generalize crossI e f g h a b = u at *
    generalize crossI e f g h c d = v at *
    have m1 : -(1000 * 16000000) ≤ a * (u - v) ∧ a * (u - v) ≤ 1000 * 16000000 := mul_bd 1000 16000000 (by omega) (by omega)
    have m2 : -(2000 * 8000000) ≤ (c - a) * u ∧ (c - a) * u ≤ 2000 * 8000000 := mul_bd 2000 8000000 (by omega) (by omega)
    have m3 : -(1000 * 16000000) ≤ b * (u - v) ∧ b * (u - v) ≤ 1000 * 16000000 := mul_bd 1000 16000000 (by omega) (by omega)
    have m4 : -(2000 * 8000000) ≤ (d - b) * u ∧ (d - b) * u ≤ 2000 * 8000000 := mul_bd 2000 8000000 (by omega) (by omega)
    simp (disch := omega) only [wr]
    exact ⟨by unfold big; omega, by unfold big; omega, by omega, by unfold big; omega, by unfold big; omega, by omega, rfl⟩
  · have k1 : ¬ relV a b c d e f g h = 1 := by simpa using k1
    have k2 : ¬ relV a b c d e f g h = 2 := by simpa using k2
    rw [if_neg k1, if_neg k2]
    rfl
end Go.Proofs.Ytolodncpegajkaa
namespace Go.Proofs.Ytolodncpegajkaa
set_option linter.all false
open Go.RowKit
theorem addT_mem {o : List Pt} {p z : Pt} {b : Bool} : z ∈ addT o p b ↔ z ∈ o ∨ (b = true ∧ z = p) := by
  unfold addT
  cases b
  · simp
  · simp [insP_mem]
theorem addT_asc {o : List Pt} (h : Asc o) (p : Pt) (b : Bool) : Asc (addT o p b) := by
  unfold addT
  cases b
  · exact h
  · exact insP_asc p h
theorem ce_asc (a b c d e f g h : Int) : Asc (ceS a b c d e f g h) := addT_asc (addT_asc (addT_asc (addT_asc List.Pairwise.nil _ _) _ _) _ _) _ _
theorem ce_mem {a b c d e f g h : Int} {z : Pt} : z ∈ ceS a b c d e f g h ↔ onB a b c d e f g h z.1 z.2 = true ∧ (z = (a, b) ∨ z = (c, d) ∨ z = (e, f) ∨ z = (g, h)) := by
  unfold ceS
  simp only [addT_mem, List.not_mem_nil, false_or]
  constructor
  · rintro (((⟨h1, rfl⟩ | ⟨h1, rfl⟩) | ⟨h1, rfl⟩) | ⟨h1, rfl⟩)
    · exact ⟨h1, .inl rfl⟩
    · exact ⟨h1, .inr (.inl rfl)⟩
    · exact ⟨h1, .inr (.inr (.inl rfl))⟩
    · exact ⟨h1, .inr (.inr (.inr rfl))⟩
  · rintro ⟨h1, rfl | rfl | rfl | rfl⟩
    · exact .inl (.inl (.inl ⟨h1, rfl⟩))
    · exact .inl (.inl (.inr ⟨h1, rfl⟩))
    · exact .inl (.inr ⟨h1, rfl⟩)
    · exact .inr ⟨h1, rfl⟩
theorem onB_comm (a b c d e f g h x y : Int) : onB a b c d e f g h x y = onB e f g h a b c d x y := Bool.and_comm ..
theorem ce_comm (a b c d e f g h : Int) : ceS a b c d e f g h = ceS e f g h a b c d := by
  refine asc_ext (ce_asc ..) (ce_asc ..) fun z => ?_
  rw [ce_mem, ce_mem, onB_comm]
  refine and_congr_right fun _ => ?_
  constructor
  · rintro (h | h | h | h) <;> simp [h]
  · rintro (h | h | h | h) <;> simp [h]
theorem relA_comm (a b c d e f g h : Int) : relA a b c d e f g h = relA e f g h a b c d := by
  unfold relA
  rw [ce_comm a b c d e f g h, Bool.and_comm]
end Go.Proofs.Ytolodncpegajkaa
namespace Go.Proofs.Ytolodncpegajkaa
set_option linter.all false
open Go.RowKit
theorem relV_comm (a b c d e f g h : Int) : relV a b c d e f g h = relV e f g h a b c d := by
  unfold relV
  rw [relA_comm, Bool.and_comm]
end Go.Proofs.Ytolodncpegajkaa
namespace Go.Proofs.Ytolodncpegajkaa
set_option linter.all false
open Go.RowKit
theorem negTz (b : Bool) : negB true b = !b := by cases b <;> rfl
theorem negFz (b : Bool) : negB false b = b := by cases b <;> rfl
noncomputable def c_eqZ : Code := ((loopsOf (codeOf Try.f36))[0]?).getD .skip
def k_eqZ : Ex → List Nat := keeps [0, 1, 5] [(0, [])] [4]
def s_eqZ (ps : List Q4) : Nat → St := fun i => ⟨[.slice (some ⟨0, 0, none⟩) ps.length ps.length, .slice (some ⟨1, 0, none⟩) ps.length ps.length, topV, topV, topV, .int .i64 i, topV, topV, topV, topV, topV, topV, topV, topV, topV, topV, topV, topV, topV, topV, topV, topV, topV, topV, topV, topV], [some ⟨.view, .ints (fl4 ps)⟩, some ⟨.view, .ints (fl4 ps)⟩]⟩
def re_eqZ : Nat → Ex := fun _ => .exit 0
def rs_eqZ (ps : List Q4) : Nat → St := fun i => ⟨[topV, topV, topV, topV, topV, topV, topV, topV, topV, topV, topV, topV, topV, topV, topV, topV, topV, topV, topV, topV, topV, topV, topV, topV, topV, topV], [some ⟨.view, .ints (fl4 ps)⟩, some ⟨.view, .ints (fl4 ps)⟩]⟩
set_option maxRecDepth 100000 in
theorem tr_eqZ (ps : List Q4) (i : Nat) : bodyL Try.prog EM 30 12 noL 1 c_eqZ k_eqZ 2 (s_eqZ ps i) = brT (decide ((↑i : Int) < (↑ps.length : Int))) (.need ((0 : Int) ≤ (↑i : Int) ∧ (↑i : Int) < (↑ps.length : Int)) (.need ((0 : Nat) + (↑i : Int).toNat * (4 : Nat) + (4 : Nat) ≤ (fl4 ps).length) (.need ((0 : Int) ≤ (↑i : Int) ∧ (↑i : Int) < (↑ps.length : Int)) (.need ((0 : Nat) + (↑i : Int).toNat * (4 : Nat) + (4 : Nat) ≤ (fl4 ps).length) (brT (negB true ((fl4 ps).getD (0 + (↑i : Int).toNat * 4) 0 == (fl4 ps).getD (0 + (↑i : Int).toNat * 4) 0 && ((fl4 ps).getD (0 + (↑i : Int).toNat * 4 + 1) 0 == (fl4 ps).getD (0 + (↑i : Int).toNat * 4 + 1) 0 && true) && ((fl4 ps).getD (0 + (↑i : Int).toNat * 4 + 1 + 1) 0 == (fl4 ps).getD (0 + (↑i : Int).toNat * 4 + 1 + 1) 0 && ((fl4 ps).getD (0 + (↑i : Int).toNat * 4 + 1 + 1 + 1) 0 == (fl4 ps).getD (0 + (↑i : Int).toNat * 4 + 1 + 1 + 1) 0 && true) && true))) (.leaf .ret ⟨[topV, topV, topV, topV, .bool (false), topV, topV, topV, topV, topV, topV, topV, topV, topV, topV, topV, topV, topV, topV, topV, topV, topV, topV, topV, topV, topV], [some ⟨.view, .ints (fl4 ps)⟩, some ⟨.view, .ints (fl4 ps)⟩]⟩) (.leaf .normal ⟨[.slice (some ⟨0, 0, none⟩) (ps.length) (ps.length), .slice (some ⟨1, 0, none⟩) (ps.length) (ps.length), topV, topV, topV, .int .i64 (IntKind.i64.wrap ((↑i : Int) + 1)), topV, topV, topV, topV, topV, topV, topV, topV, topV, topV, topV, topV, topV, topV, topV, topV, topV, topV, topV, topV], [some ⟨.view, .ints (fl4 ps)⟩, some ⟨.view, .ints (fl4 ps)⟩]⟩)))))) (.leaf (.exit 0) ⟨[topV, topV, topV, topV, topV, topV, topV, topV, topV, topV, topV, topV, topV, topV, topV, topV, topV, topV, topV, topV, topV, topV, topV, topV, topV, topV], [some ⟨.view, .ints (fl4 ps)⟩, some ⟨.view, .ints (fl4 ps)⟩]⟩) := by kernel_rfl
set_option maxRecDepth 100000 in
theorem nl_eqZ : loopsOf c_eqZ = [] := by kernel_rfl
def inv_eqZ (ps : List Q4) : Nat → Prop := fun i => i ≤ ps.length
def me_eqZ (ps : List Q4) : Nat → Nat := fun i => ps.length - i
/-- A round of this loop. -/
def Round_eqZ (ps : List Q4) : Prop := ∀ xx : Nat, inv_eqZ ps xx → (bodyL Try.prog EM 30 12 noL 1 c_eqZ k_eqZ 2 (s_eqZ ps xx)).ok (RoundEnd 2 (s_eqZ ps) (inv_eqZ ps) (me_eqZ ps) re_eqZ (rs_eqZ ps) xx) (fun _ _ => False)
def e_eqZ (s : St) (k : Ex → St → Tree) : Option Tree := match Nat.beq s.tmps.length 26, pickL s.tmps [0, 1, 5], s.mem with
  | true, [.slice (some ⟨0, 0, none⟩) n _, .slice (some ⟨1, 0, none⟩) m _, .int .i64 i], [some ⟨.view, .ints xs⟩, some ⟨.view, .ints ys⟩] => some (needs [i = 0, m = n, ys = xs, xs.length = n * 4, n ≤ 1000000000] (k (.exit 0) ⟨[topV, topV, topV, topV, topV, topV, topV, topV, topV, topV, topV, topV, topV, topV, topV, topV, topV, topV, topV, topV, topV, topV, topV, topV, topV, topV], [some ⟨.view, .ints xs⟩, some ⟨.view, .ints xs⟩]⟩))
  | _, _, _ => none
set_option maxRecDepth 100000 in
theorem round_eqZ (ps : List Q4) (h : ps.length ≤ 1000000000) : Round_eqZ ps := by
  intro i h1
  have h1 : i ≤ ps.length := h1
  rw [tr_eqZ]
  have fl := fl4_length ps
  simp only [brT_ok, Tree.ok, decide_eq_true_eq, decide_eq_false_iff_not, Int.toNat_natCast, Nat.zero_add, negTz, negFz, Bool.and_true, beq_self_eq_true, Bool.and_self, Bool.not_true, Bool.false_eq_true]
  refine ⟨fun hlt => ?_, fun hge => ?_⟩
  · rw [wsucc (n := ps.length) (by omega) h]
    refine ⟨by omega, by omega, by omega, by omega, fun hc => hc.elim, fun _ => ⟨i + 1, [], ?_, ?_, rfl, rfl, ?_⟩⟩
    · show i + 1 ≤ ps.length; omega
    · show ps.length - (i + 1) < ps.length - i; omega
    · repeat' (first | exact True.intro | exact rfl | exact fun _ => rfl | refine And.intro ?_ ?_)
  · refine ⟨rfl, [], ?_⟩
    repeat' (first | exact True.intro | exact rfl | exact fun _ => rfl | refine And.intro ?_ ?_)
set_option maxRecDepth 100000 in
theorem lg_eqZ : LoopE Try.prog e_eqZ c_eqZ := by
  intro s k t F H hlt ht
  unfold e_eqZ at hlt
  split at hlt
  rotate_left
  · cases hlt
  rename_i hlen hpick hmem
  obtain ⟨tmps, mem⟩ := s
  simp only at hlen hpick hmem
  subst hmem
  obtain rfl := Option.some.inj hlt
  obtain ⟨⟨rfl, rfl, rfl, h1, h2, _⟩, ht2⟩ := needs_ok ht
  clear ht hlt
  obtain ⟨ps, rfl, rfl⟩ := four_fl4 h1
  refine ⟨_, _, ht2, loop_run mixed EM_ok (s_eqZ _) (inv_eqZ _) (me_eqZ _) re_eqZ (rs_eqZ _) k_eqZ (fun _ => rfl) (noLoops nl_eqZ) (round_eqZ _ h2) (x := 0) (Nat.zero_le _) (π := []) rfl ?_⟩
  refine ⟨rfl, rfl, ?_, wvs_spread' [0, 1, 5] hlen rfl ?_⟩
  · repeat' (first | exact True.intro | exact rfl | exact wv_top _ _ | exact fun _ => rfl | assumption | exact Eq.symm (by assumption) | exact vI0 rfl | refine And.intro ?_ ?_)
  · rw [hpick]
    repeat' (first | exact True.intro | exact rfl | exact wv_top _ _ | exact fun _ => rfl | assumption | exact Eq.symm (by assumption) | exact vI0 rfl | refine And.intro ?_ ?_)
theorem Lr_eqZ {fn : Func} (hf : Try.prog.funcs[36]? = some fn) : LoopsGood Try.prog (lt1 e_eqZ) 0 (codeOf fn) := by
  obtain rfl := fn_is Try.func36 hf
  exact lt1_good lg_eqZ
def LEz : FuncId → LT := fun f => match f with
  | 36 => lt1 e_eqZ
  | _ => noL
def EEz : Env := mkE TSl2 (fun _ _ => none) LEz
theorem EEz_ok : EnvOk Try.prog EEz := mkEOk TSl2_ok (fun _ _ _ _ _ h => (by cases h)) (by
  intro f fn hf
  unfold LEz
  split
  all_goals first | with_reducible exact Lr_eqZ hf | exact noL_good)
set_option maxRecDepth 100000 in
theorem tr_eqZF (n : Nat) (xs : List Int) : bodyV Try.prog EEz 30 12 36 [.row n (.ints xs), .row n (.ints xs)] = brT (!(↑n : Int) == (↑n : Int)) (.fin (.bool (false)) []) (.need ((0 : Int) = (0 : Int)) (.need (n = n) (.need (xs = xs) (.need (xs.length = n * (4 : Nat)) (.need (n ≤ (1000000000 : Nat)) (.fin (.bool (true)) [])))))) := by kernel_rfl
theorem res_eqZ (n : Nat) (xs : List Int) (h : xs.length = n * 4) (hn : Lim n) : Res Try.prog 36 [.row n (.ints xs), .row n (.ints xs)] (.bool true) := by
  refine bodyV_res mixed EEz_ok (m := 30) (n := 12) rfl ?_
  rw [tr_eqZF]
  unfold Lim at hn
  simp [brT_ok, Tree.ok, negTz, h, hn]
def pEqZ : List DArg → Option (Value × List Prop)
  | [.row n (.ints xs), .row m (.ints ys)] => some (.bool true, [n = m, xs = ys, xs.length = n * 4, Lim n])
  | _ => none
theorem pEqZ_ok {ds : List DArg} {v : Value} {C : List Prop} (h : pEqZ ds = some (v, C)) (hC : AllP C) : Res Try.prog 36 ds v := by
  unfold pEqZ at h
  split at h
  · obtain ⟨rfl, rfl⟩ : _ ∧ _ := by simpa using h
    obtain ⟨rfl, rfl, h1, h2, _⟩ := hC
    exact res_eqZ _ _ h1 h2
  · cases h
set_option maxRecDepth 100000 in
theorem tr_dCq (bs : List Int) (n : Nat) : bodyX Try.prog EDs 30 12 35 [.row n (.bytes bs)] = brT (decide (2000 < (↑n : Int))) (.need ((0 : Int) ≤ bndI none (0 : Int) ∧ bndI none (0 : Int) ≤ bndI (some (IntKind.i64, (2000 : Int))) (↑n : Int) ∧ bndI (some (IntKind.i64, (2000 : Int))) (↑n : Int) ≤ (↑n : Int)) (.need (rdC bs (2000 : Nat) (0 : Int)) (.need ((0 : Int) ≤ (700000 : Int)) (.fin (.slice (some ⟨2, 0, none⟩) (asN bs 2000 0) (asN bs 2000 0)) [some ⟨.view, .bytes (bs)⟩, some ⟨.box, .vals [.slice (some ⟨0, 0, none⟩) (2000) (2000), .int .i64 (anE bs 2000 0)]⟩, some ⟨.row 39 4, .ints (anL bs 2000 0)⟩])))) (.need (rdC bs n (0 : Int)) (.need ((0 : Int) ≤ (700000 : Int)) (.fin (.slice (some ⟨2, 0, none⟩) (asN bs n 0) (asN bs n 0)) [some ⟨.view, .bytes (bs)⟩, some ⟨.box, .vals [.slice (some ⟨0, 0, none⟩) (n) (n), .int .i64 (anE bs n 0)]⟩, some ⟨.row 39 4, .ints (anL bs n 0)⟩]))) := by kernel_rfl
theorem resR_dCq (bs : List Int) (n : Nat) (hb : Bytes bs) (hn : n ≤ bs.length) : ResR Try.prog 35 [.row n (.bytes bs)] (.slice (some ⟨0, 0, none⟩) (asN bs (rdL n) 0) (asN bs (rdL n) 0)) ⟨.row 39 4, .ints (anL bs (rdL n) 0)⟩ := by
  refine bodyX_resR mixed EDs_ok (m := 30) (n := 12) rfl ?_
  rw [tr_dCq]
  refine brT_ok.2 ⟨fun h => ?_, fun h => ?_⟩
  · have h := of_decide_eq_true h
    have k1 : rdC bs 2000 0 := (rdK0 hb hn (l := 2000) (by omega) (by omega) (p := 0) (by omega) (by omega)).1
    rw [rdL_of h]
    exact ⟨bnd2000 h, k1, by omega, some 2, ⟨rfl, rfl, rfl⟩, rfl, rfl, rfl⟩
  · have h := of_decide_eq_false h
    have k1 : rdC bs n 0 := (rdK0 hb hn (l := n) (by omega) (by omega) (p := 0) (by omega) (by omega)).1
    rw [rdL_no h]
    exact ⟨k1, by omega, some 2, ⟨rfl, rfl, rfl⟩, rfl, rfl, rfl⟩
/-- MeetPoint where segments cross. -/
def pMq : List DArg → Option (Value × List Prop)
  | [.v (.agg ⟨[.int .i64 a, .int .i64 b, .int .i64 c, .int .i64 d]⟩), .v (.agg ⟨[.int .i64 e, .int .i64 f, .int .i64 g, .int .i64 h]⟩)] => some (.tuple #[xpV a b c d e f g h, .bool true], [relV a b c d e f g h = 2])
  | _ => none
theorem pMq_ok {ds : List DArg} {v : Value} {C : List Prop} (h : pMq ds = some (v, C)) (hC : AllP C) : Res Try.prog 37 ds v := by
  unfold pMq at h
  split at h
  · rename_i a b c d e f g h'
    obtain ⟨rfl, rfl⟩ : _ ∧ _ := by simpa using h
    have k := hC.1
    have e : mpV a b c d e f g h' = .tuple #[xpV a b c d e f g h', .bool true] := by
      unfold mpV
      rw [if_neg (by omega), if_pos k]
      rfl
    rw [← e]
    exact res_iMp _ _ _ _ _ _ _ _
  · cases h
def TLc : Tab := fun f ds => match f with
  | 36 => pEqZ ds
  | 37 => pMq ds
  | f => TCq f ds
theorem TLc_ok : TabOk Try.prog TLc := by
  intro f ds v C h hC
  unfold TLc at h
  (try split at h)
  all_goals first | with_reducible exact pEqZ_ok h hC | with_reducible exact pMq_ok h hC | exact TCq_ok _ _ _ _ h hC
def RLc : TabR := fun f ds => match f, ds with
  | 35, [.row n (.bytes bs)] => some (.slice (some ⟨0, 0, none⟩) (asN bs (rdL n) 0) (asN bs (rdL n) 0), ⟨.row 39 4, .ints (anL bs (rdL n) 0)⟩, [Bytes bs, n ≤ bs.length])
  | f, ds => RCq f ds
theorem RLc_ok : TabROk Try.prog RLc := by
  intro f ds v b C h hC
  unfold RLc at h
  split at h
  · obtain ⟨rfl, rfl, rfl⟩ : _ ∧ _ ∧ _ := by simpa using h
    exact resR_dCq _ _ hC.1 hC.2.1
  · exact RCq_ok _ _ _ _ _ h hC
def ELc : Env := mkE TLc RLc (fun _ => noL)
theorem ELc_ok : EnvOk Try.prog ELc := mkEOk TLc_ok RLc_ok (fun _ _ _ => noL_good)
end Go.Proofs.Ytolodncpegajkaa
namespace Go.Proofs.Ytolodncpegajkaa
set_option linter.all false
open Go.RowKit
theorem prA_ord2 {n t : Nat} (h : t < offR n 0 n) : (prA n t).1 < (prA n t).2 := by
  have aux : ∀ f a t, t < offR n a f → a + f = n → (prD n f a t).1 < (prD n f a t).2 := by
    intro f
    induction f with
    | zero => intro a t h _; simp [offR] at h
    | succ f ih =>
      intro a t h ha
      have h : t < (n - 1 - a) + offR n (a + 1) f := h
      simp only [prD]
      split
      · simp only
        omega
      · exact ih (a + 1) _ (by omega) (by omega)
  exact aux n 0 t h (by omega)
theorem xp_id1 (a b c d e f g h : Int) : crossI e f g h a b - crossI e f g h c d = -(crossI a b c d e f - crossI a b c d g h) := by unfold crossI; grind
theorem xp_id2 (a b c d e f g h : Int) : cpX a c (crossI e f g h a b) (crossI e f g h c d) = -(cpX e g (crossI a b c d e f) (crossI a b c d g h)) := by unfold cpX crossI; grind
theorem xp_id3 (a b c d e f g h : Int) : cpX b d (crossI e f g h a b) (crossI e f g h c d) = -(cpX f h (crossI a b c d e f) (crossI a b c d g h)) := by unfold cpX crossI; grind
/-- Two segments cross in one point. -/
theorem xpQ_comm {a b c d e f g h : Int} (hne : crossI e f g h a b ≠ crossI e f g h c d) : xpQ a b c d e f g h = xpQ e f g h a b c d := by
  have i1 := xp_id1 a b c d e f g h
  have i2 := xp_id2 a b c d e f g h
  have i3 := xp_id3 a b c d e f g h
  have hd : crossI a b c d e f - crossI a b c d g h ≠ 0 := by omega
  unfold xpQ xp1 xp2 xp3 xp4
  rw [i1, i2, i3, (q_neg3 hd).1, (q_neg3 hd).2, (q_neg3 hd).1, (q_neg3 hd).2]
theorem xpAt_comm {xs : List Int} {n i k : Nat} (hv : vsB n xs = true) (hi : i < n) (hk : k < n) (h : rl4V xs i k = 2) : xpAt xs i k = xpAt xs k i :=
  xpQ_comm (cp_yes hv hi hk h).2.2.2.2
theorem rl4_comm (xs : List Int) (i k : Nat) : rl4V xs i k = rl4V xs k i := relV_comm ..
theorem cmL_mem (xs : List Int) (n : Nat) (z : Q4) : ∀ t, z ∈ cmL xs n t ↔ ∃ u, u < t ∧ cpQ xs n u = true ∧ z = xpAt xs (prA n u).1 (prA n u).2
  | 0 => by simp [cmL]
  | t + 1 => by
    have ih := cmL_mem xs n z t
    simp only [cmL]
    rcases hc : cpQ xs n t with _ | _
    · rw [cond_false, ih]
      constructor
      · rintro ⟨u, h1, h2⟩
        exact ⟨u, by omega, h2⟩
      · rintro ⟨u, h1, h2, h3⟩
        rcases Nat.lt_or_ge u t with g | g
        · exact ⟨u, g, h2, h3⟩
        · obtain rfl : u = t := by omega
          rw [hc] at h2
          cases h2
    · rw [cond_true, inQ_mem, ih]
      constructor
      · rintro (⟨u, h1, h2⟩ | e)
        · exact ⟨u, by omega, h2⟩
        · exact ⟨t, by omega, hc, e⟩
      · rintro ⟨u, h1, h2, h3⟩
        rcases Nat.lt_or_ge u t with g | g
        · exact .inl ⟨u, g, h2, h3⟩
        · obtain rfl : u = t := by omega
          exact .inr h3
/-- The points are those of the pairs that cross. -/
theorem cm_pair (xs : List Int) (n : Nat) (z : Q4) : z ∈ cmL xs n (offR n 0 n) ↔ ∃ i k, i < k ∧ k < n ∧ rl4V xs i k = 2 ∧ z = xpAt xs i k := by
  rw [cmL_mem]
  constructor
  · rintro ⟨u, h1, h2, h3⟩
    exact ⟨_, _, prA_ord2 h1, (prA_lt2 h1).2, beq_iff_eq.1 h2, h3⟩
  · rintro ⟨i, k, h1, h2, h3, h4⟩
    refine ⟨offR n 0 i + (k - i - 1), off_lt h1 h2, ?_, ?_⟩
    · unfold cpQ
      rw [prA_at h1 h2]
      exact beq_iff_eq.2 h3
    · rw [prA_at h1 h2]
      exact h4
/-- The segments from the last one on, so many. -/
def bkL (xs : List Int) (n : Nat) : Nat → List Int
  | 0 => []
  | j + 1 => bkL xs n j ++ [xs.getD ((n - 1 - j) * 4) 0, xs.getD ((n - 1 - j) * 4 + 1) 0, xs.getD ((n - 1 - j) * 4 + 2) 0, xs.getD ((n - 1 - j) * 4 + 3) 0]
theorem bkL_len (xs : List Int) (n : Nat) : ∀ j, (bkL xs n j).length = j * 4
  | 0 => rfl
  | j + 1 => by simp only [bkL, List.length_append, bkL_len xs n j]; simp; omega
theorem bkL_get (xs : List Int) (n : Nat) : ∀ j i m, i < j → m < 4 → (bkL xs n j).getD (i * 4 + m) 0 = xs.getD ((n - 1 - i) * 4 + m) 0
  | 0, _, _, h, _ => by omega
  | j + 1, i, m, h, hm => by
    have ih := bkL_get xs n j i m
    have hl := bkL_len xs n j
    simp only [bkL]
    rcases Nat.lt_or_ge i j with g | g
    · rw [← ih g hm]
      simp only [List.getD_eq_getElem?_getD]
      rw [List.getElem?_append_left (by omega)]
    · obtain rfl : i = j := by omega
      simp only [List.getD_eq_getElem?_getD]
      rw [List.getElem?_append_right (by omega), hl, Nat.add_sub_cancel_left]
      match m, hm with
      | 0, _ => simp
      | 1, _ => simp
      | 2, _ => simp
      | 3, _ => simp
theorem bk_g {xs : List Int} {n i : Nat} (h : i < n) : (bkL xs n n).getD (i * 4) 0 = xs.getD ((n - 1 - i) * 4) 0 ∧ (bkL xs n n).getD (i * 4 + 1) 0 = xs.getD ((n - 1 - i) * 4 + 1) 0 ∧ (bkL xs n n).getD (i * 4 + 2) 0 = xs.getD ((n - 1 - i) * 4 + 2) 0 ∧ (bkL xs n n).getD (i * 4 + 3) 0 = xs.getD ((n - 1 - i) * 4 + 3) 0 :=
  ⟨bkL_get xs n n i 0 h (by omega), bkL_get xs n n i 1 h (by omega), bkL_get xs n n i 2 h (by omega), bkL_get xs n n i 3 h (by omega)⟩
theorem bk_sl {xs : List Int} {n i : Nat} (h : i < n) : slQ (bkL xs n n) i = slQ xs (n - 1 - i) := by
  obtain ⟨e1, e2, e3, e4⟩ := bk_g (xs := xs) h
  unfold slQ
  rw [e1, e2, e3, e4]
theorem bk_rl {xs : List Int} {n i k : Nat} (h : i < n) (hk : k < n) : rl4V (bkL xs n n) i k = rl4V xs (n - 1 - i) (n - 1 - k) := by
  obtain ⟨e1, e2, e3, e4⟩ := bk_g (xs := xs) h
  obtain ⟨f1, f2, f3, f4⟩ := bk_g (xs := xs) hk
  unfold rl4V
  rw [e1, e2, e3, e4, f1, f2, f3, f4]
theorem bk_xp {xs : List Int} {n i k : Nat} (h : i < n) (hk : k < n) : xpAt (bkL xs n n) i k = xpAt xs (n - 1 - i) (n - 1 - k) := by
  obtain ⟨e1, e2, e3, e4⟩ := bk_g (xs := xs) h
  obtain ⟨f1, f2, f3, f4⟩ := bk_g (xs := xs) hk
  unfold xpAt
  rw [e1, e2, e3, e4, f1, f2, f3, f4]
theorem allQ_mk9 {P : Nat → Bool} : ∀ (m i : Nat), (∀ j, i ≤ j → j < i + m → P j = true) → allQ P i m = true
  | 0, _, _ => rfl
  | m + 1, i, h => by
    have ih := allQ_mk9 m (i + 1) fun j h1 h2 => h j (by omega) (by omega)
    simp only [allQ]
    rw [h i (Nat.le_refl _) (by omega), ih]
    rfl
theorem bk_vs (xs : List Int) (n : Nat) : vsB n (bkL xs n n) = vsB n xs := by
  have key : allQ (slQ (bkL xs n n)) 0 n = allQ (slQ xs) 0 n := by
    refine Bool.eq_iff_iff.2 ⟨fun h => allQ_mk9 _ _ fun j _ hj => ?_, fun h => allQ_mk9 _ _ fun j _ hj => ?_⟩
    · have := allQ_get _ _ h (n - 1 - j) (Nat.zero_le _) (by omega)
      rw [bk_sl (by omega), show n - 1 - (n - 1 - j) = j by omega] at this
      exact this
    · rw [bk_sl (by omega)]
      exact allQ_get _ _ h (n - 1 - j) (Nat.zero_le _) (by omega)
  unfold vsB
  rw [key]
/-- The points do not depend on the order of the segments. -/
theorem cq_back (xs : List Int) (n : Nat) : cqV n (bkL xs n n) = cqV n xs := by
  have hb := bk_vs xs n
  unfold cqV
  rw [hb]
  rcases hv : vsB n xs with _ | _
  · rfl
  have hv' : vsB n (bkL xs n n) = true := hb.trans hv
  rw [cond_true, cond_true]
  refine asc_eq (cmL_ok hv' _ (Nat.le_refl _)) (cmL_up hv' _ (Nat.le_refl _)) (cmL_up hv _ (Nat.le_refl _)) fun z => ?_
  rw [cm_pair, cm_pair]
  constructor
  · rintro ⟨i, k, h1, h2, h3, h4⟩
    rw [bk_rl (by omega) h2, rl4_comm] at h3
    rw [bk_xp (by omega) h2] at h4
    exact ⟨n - 1 - k, n - 1 - i, by omega, by omega, h3, h4.trans (xpAt_comm hv (by omega) (by omega) ((rl4_comm _ _ _).trans h3))⟩
  · rintro ⟨i, k, h1, h2, h3, h4⟩
    refine ⟨n - 1 - k, n - 1 - i, by omega, by omega, ?_, ?_⟩
    · rw [bk_rl (by omega) (by omega), show n - 1 - (n - 1 - k) = k by omega, show n - 1 - (n - 1 - i) = i by omega, rl4_comm]
      exact h3
    · rw [bk_xp (by omega) (by omega), show n - 1 - (n - 1 - k) = k by omega, show n - 1 - (n - 1 - i) = i by omega]
      exact h4.trans (xpAt_comm hv (by omega) (by omega) h3)
/-- Is a point in a row? -/
def hasZ (x y u v : Int) (m : Nat) (ys : List Int) : Bool := decide ((x, y, u, v) ∈ q4A m ys)
theorem meet_in {xs : List Int} {n i k : Nat} (hi : i < k) (hk : k < n) (h : rl4V xs i k = 2) : xpAt xs i k ∈ cmL xs n (offR n 0 n) :=
  (cm_pair xs n _).2 ⟨i, k, hi, hk, h, rfl⟩
end Go.Proofs.Ytolodncpegajkaa
namespace Go.Proofs.Ytolodncpegajkaa
set_option linter.all false
open Go.RowKit
/-- Every crossing stands in the row. -/
def okZ (n : Nat) (xs : List Int) (m : Nat) (ys : List Int) : Prop := ∀ i k, i < k → k < n → rl4V xs i k = 2 → xpAt xs i k ∈ q4A m ys
noncomputable def c_lcN : Code := ((loopsOf (codeOf Try.f8))[3]?).getD .skip
def k_lcN : Ex → List Nat := keeps [3, 4, 5, 7, 8, 9, 11, 12] [(6, [3, 4, 5, 7, 8, 11]), (5, [3, 4, 5, 7, 8]), (4, [3, 4, 5, 7]), (3, [3, 4, 5, 7]), (2, [4, 5])] [2]
def s_lcN (bs xs ys fs zs : List Int) (n m : Nat) (ii kk x y u v : Int) : Nat × Bool → St := fun (t, b) => ⟨(topV :: topV :: topV :: .slice (some ⟨1, 0, none⟩) n n :: .slice (some ⟨2, 0, none⟩) m m :: .slice (some ⟨5, 0, none⟩) n n :: topV :: .int .i64 ii :: .int .i64 kk :: .pointer (some ⟨8, 0, none⟩) :: topV :: .bool b :: .int .i64 t :: topV :: topV :: topV :: topV :: topV :: topV :: topV :: topV :: topV :: topV :: topV :: topV :: topV :: topV :: topV :: topV :: topV :: topV :: topV :: topV :: topV :: topV :: topV :: topV :: topV :: topV :: topV :: topV :: topV :: topV :: topV :: topV :: topV :: topV :: topV :: topV :: topV :: topV :: topV :: topV :: topV :: topV :: topV :: topV :: topV :: topV :: topV :: topV :: topV :: topV :: topV :: topV :: topV :: topV :: topV :: topV :: topV :: topV :: topV :: topV :: topV :: topV :: topV :: topV :: topV :: topV :: topV :: topV :: topV :: topV :: topV :: topV :: topV :: topV :: topV :: topV :: topV :: topV :: topV :: topV :: topV :: topV :: topV :: topV :: topV :: topV :: topV :: topV :: topV :: topV :: topV :: topV :: topV :: []), [some ⟨.view, .bytes bs⟩, some ⟨.row 39 4, .ints xs⟩, some ⟨.row 52 4, .ints ys⟩, some ⟨.row 52 4, .ints fs⟩, some ⟨.dead, .vals []⟩, some ⟨.row 39 4, .ints zs⟩, none, none, some ⟨.box, .vals [.int .i64 x, .int .i64 y, .int .i64 u, .int .i64 v]⟩]⟩
def re_lcN : Nat × Bool → Ex := fun _ => .exit 6
def rs_lcN (bs xs ys fs zs : List Int) (n m : Nat) (ii kk x y u v : Int) : Nat × Bool → St := fun (t, b) => ⟨(topV :: topV :: topV :: .slice (some ⟨1, 0, none⟩) n n :: .slice (some ⟨2, 0, none⟩) m m :: .slice (some ⟨5, 0, none⟩) n n :: topV :: .int .i64 ii :: .int .i64 kk :: topV :: topV :: .bool true :: topV :: topV :: topV :: topV :: topV :: topV :: topV :: topV :: topV :: topV :: topV :: topV :: topV :: topV :: topV :: topV :: topV :: topV :: topV :: topV :: topV :: topV :: topV :: topV :: topV :: topV :: topV :: topV :: topV :: topV :: topV :: topV :: topV :: topV :: topV :: topV :: topV :: topV :: topV :: topV :: topV :: topV :: topV :: topV :: topV :: topV :: topV :: topV :: topV :: topV :: topV :: topV :: topV :: topV :: topV :: topV :: topV :: topV :: topV :: topV :: topV :: topV :: topV :: topV :: topV :: topV :: topV :: topV :: topV :: topV :: topV :: topV :: topV :: topV :: topV :: topV :: topV :: topV :: topV :: topV :: topV :: topV :: topV :: topV :: topV :: topV :: topV :: topV :: topV :: topV :: topV :: topV :: topV :: topV :: []), [some ⟨.view, .bytes bs⟩, some ⟨.row 39 4, .ints xs⟩, some ⟨.row 52 4, .ints ys⟩, some ⟨.row 52 4, .ints fs⟩, some ⟨.dead, .vals []⟩, some ⟨.row 39 4, .ints zs⟩, none, none, some ⟨.box, .vals [.int .i64 x, .int .i64 y, .int .i64 u, .int .i64 v]⟩]⟩
set_option maxRecDepth 100000 in
theorem tr_lcN (bs xs ys fs zs : List Int) (n m : Nat) (ii kk x y u v : Int) (t : Nat) (b : Bool) : bodyL Try.prog ELc 30 12 noL 4 c_lcN k_lcN 9 (s_lcN bs xs ys fs zs n m ii kk x y u v (t, b)) = brT (decide ((↑t : Int) < (↑m : Int))) (brT (b) (.leaf .normal ⟨(topV :: topV :: topV :: .slice (some ⟨1, 0, none⟩) (n) (n) :: .slice (some ⟨2, 0, none⟩) (m) (m) :: .slice (some ⟨5, 0, none⟩) (n) (n) :: topV :: .int .i64 (ii) :: .int .i64 (kk) :: .pointer (some ⟨8, 0, none⟩) :: topV :: .bool (true) :: .int .i64 (IntKind.i64.wrap ((↑t : Int) + 1)) :: topV :: topV :: topV :: topV :: topV :: topV :: topV :: topV :: topV :: topV :: topV :: topV :: topV :: topV :: topV :: topV :: topV :: topV :: topV :: topV :: topV :: topV :: topV :: topV :: topV :: topV :: topV :: topV :: topV :: topV :: topV :: topV :: topV :: topV :: topV :: topV :: topV :: topV :: topV :: topV :: topV :: topV :: topV :: topV :: topV :: topV :: topV :: topV :: topV :: topV :: topV :: topV :: topV :: topV :: topV :: topV :: topV :: topV :: topV :: topV :: topV :: topV :: topV :: topV :: topV :: topV :: topV :: topV :: topV :: topV :: topV :: topV :: topV :: topV :: topV :: topV :: topV :: topV :: topV :: topV :: topV :: topV :: topV :: topV :: topV :: topV :: topV :: topV :: topV :: topV :: topV :: topV :: topV :: []), [some ⟨.view, .bytes (bs)⟩, some ⟨.row 39 4, .ints (xs)⟩, some ⟨.row 52 4, .ints (ys)⟩, some ⟨.row 52 4, .ints (fs)⟩, some deadB, some ⟨.row 39 4, .ints (zs)⟩, none, none, some ⟨.box, .vals [.int .i64 (x), .int .i64 (y), .int .i64 (u), .int .i64 (v)]⟩]⟩) (.need ((0 : Int) ≤ (↑t : Int) ∧ (↑t : Int) < (↑m : Int)) (.need ((0 : Nat) + (↑t : Int).toNat * (4 : Nat) + (4 : Nat) ≤ ys.length) (.leaf .normal ⟨(topV :: topV :: topV :: .slice (some ⟨1, 0, none⟩) (n) (n) :: .slice (some ⟨2, 0, none⟩) (m) (m) :: .slice (some ⟨5, 0, none⟩) (n) (n) :: topV :: .int .i64 (ii) :: .int .i64 (kk) :: .pointer (some ⟨8, 0, none⟩) :: topV :: .bool (negB false (ys.getD (0 + (↑t : Int).toNat * 4) 0 == x && (ys.getD (0 + (↑t : Int).toNat * 4 + 1) 0 == y && true) && (ys.getD (0 + (↑t : Int).toNat * 4 + 1 + 1) 0 == u && (ys.getD (0 + (↑t : Int).toNat * 4 + 1 + 1 + 1) 0 == v && true) && true))) :: .int .i64 (IntKind.i64.wrap ((↑t : Int) + 1)) :: topV :: topV :: topV :: topV :: topV :: topV :: topV :: topV :: topV :: topV :: topV :: topV :: topV :: topV :: topV :: topV :: topV :: topV :: topV :: topV :: topV :: topV :: topV :: topV :: topV :: topV :: topV :: topV :: topV :: topV :: topV :: topV :: topV :: topV :: topV :: topV :: topV :: topV :: topV :: topV :: topV :: topV :: topV :: topV :: topV :: topV :: topV :: topV :: topV :: topV :: topV :: topV :: topV :: topV :: topV :: topV :: topV :: topV :: topV :: topV :: topV :: topV :: topV :: topV :: topV :: topV :: topV :: topV :: topV :: topV :: topV :: topV :: topV :: topV :: topV :: topV :: topV :: topV :: topV :: topV :: topV :: topV :: topV :: topV :: topV :: topV :: topV :: topV :: topV :: topV :: topV :: topV :: topV :: []), [some ⟨.view, .bytes (bs)⟩, some ⟨.row 39 4, .ints (xs)⟩, some ⟨.row 52 4, .ints (ys)⟩, some ⟨.row 52 4, .ints (fs)⟩, some deadB, some ⟨.row 39 4, .ints (zs)⟩, none, none, some ⟨.box, .vals [.int .i64 (x), .int .i64 (y), .int .i64 (u), .int .i64 (v)]⟩]⟩)))) (.leaf (.exit 6) ⟨(topV :: topV :: topV :: .slice (some ⟨1, 0, none⟩) (n) (n) :: .slice (some ⟨2, 0, none⟩) (m) (m) :: .slice (some ⟨5, 0, none⟩) (n) (n) :: topV :: .int .i64 (ii) :: .int .i64 (kk) :: topV :: topV :: .bool (b) :: topV :: topV :: topV :: topV :: topV :: topV :: topV :: topV :: topV :: topV :: topV :: topV :: topV :: topV :: topV :: topV :: topV :: topV :: topV :: topV :: topV :: topV :: topV :: topV :: topV :: topV :: topV :: topV :: topV :: topV :: topV :: topV :: topV :: topV :: topV :: topV :: topV :: topV :: topV :: topV :: topV :: topV :: topV :: topV :: topV :: topV :: topV :: topV :: topV :: topV :: topV :: topV :: topV :: topV :: topV :: topV :: topV :: topV :: topV :: topV :: topV :: topV :: topV :: topV :: topV :: topV :: topV :: topV :: topV :: topV :: topV :: topV :: topV :: topV :: topV :: topV :: topV :: topV :: topV :: topV :: topV :: topV :: topV :: topV :: topV :: topV :: topV :: topV :: topV :: topV :: topV :: topV :: topV :: topV :: []), [some ⟨.view, .bytes (bs)⟩, some ⟨.row 39 4, .ints (xs)⟩, some ⟨.row 52 4, .ints (ys)⟩, some ⟨.row 52 4, .ints (fs)⟩, some deadB, some ⟨.row 39 4, .ints (zs)⟩, none, none, some ⟨.box, .vals [.int .i64 (x), .int .i64 (y), .int .i64 (u), .int .i64 (v)]⟩]⟩) := by kernel_rfl
set_option maxRecDepth 100000 in
theorem nl_lcN : loopsOf c_lcN = [] := by kernel_rfl
def inv_lcN (bs xs ys fs zs : List Int) (n m : Nat) (ii kk x y u v : Int) : Nat × Bool → Prop := fun (t, b) => t ≤ m ∧ (b = true ∨ ∃ j, t ≤ j ∧ j < m ∧ (q4A m ys).getD j z4 = (x, y, u, v))
def me_lcN (bs xs ys fs zs : List Int) (n m : Nat) (ii kk x y u v : Int) : Nat × Bool → Nat := fun (t, b) => m - t
/-- A round of this loop. -/
def Round_lcN (bs xs ys fs zs : List Int) (n m : Nat) (ii kk x y u v : Int) : Prop := ∀ xx : Nat × Bool, inv_lcN bs xs ys fs zs n m ii kk x y u v xx → (bodyL Try.prog ELc 30 12 noL 4 c_lcN k_lcN 9 (s_lcN bs xs ys fs zs n m ii kk x y u v xx)).ok (RoundEnd 9 (s_lcN bs xs ys fs zs n m ii kk x y u v) (inv_lcN bs xs ys fs zs n m ii kk x y u v) (me_lcN bs xs ys fs zs n m ii kk x y u v) re_lcN (rs_lcN bs xs ys fs zs n m ii kk x y u v) xx) (fun _ _ => False)
def e_lcN (s : St) (k : Ex → St → Tree) : Option Tree := match Nat.beq s.tmps.length 106, pickL s.tmps [3, 4, 5, 7, 8, 9, 11, 12], s.mem with
  | true, [.slice (some ⟨1, 0, none⟩) n _, .slice (some ⟨2, 0, none⟩) m _, .slice (some ⟨5, 0, none⟩) n3 _, .int .i64 ii, .int .i64 kk, .pointer (some ⟨8, 0, none⟩), .bool b0, .int .i64 t0], [some ⟨.view, .bytes bs⟩, some ⟨.row 39 4, .ints xs⟩, some ⟨.row 52 4, .ints ys⟩, some ⟨.row 52 4, .ints fs⟩, some ⟨.dead, .vals []⟩, some ⟨.row 39 4, .ints zs⟩, none, none, some ⟨.box, .vals [.int .i64 x, .int .i64 y, .int .i64 u, .int .i64 v]⟩] => some (needs [t0 = 0, b0 = false, n3 = n, ys.length = m * 4, m ≤ 1000, hasZ x y u v m ys = true] (k (.exit 6) ⟨(topV :: topV :: topV :: .slice (some ⟨1, 0, none⟩) n n :: .slice (some ⟨2, 0, none⟩) m m :: .slice (some ⟨5, 0, none⟩) n n :: topV :: .int .i64 ii :: .int .i64 kk :: topV :: topV :: .bool true :: topV :: topV :: topV :: topV :: topV :: topV :: topV :: topV :: topV :: topV :: topV :: topV :: topV :: topV :: topV :: topV :: topV :: topV :: topV :: topV :: topV :: topV :: topV :: topV :: topV :: topV :: topV :: topV :: topV :: topV :: topV :: topV :: topV :: topV :: topV :: topV :: topV :: topV :: topV :: topV :: topV :: topV :: topV :: topV :: topV :: topV :: topV :: topV :: topV :: topV :: topV :: topV :: topV :: topV :: topV :: topV :: topV :: topV :: topV :: topV :: topV :: topV :: topV :: topV :: topV :: topV :: topV :: topV :: topV :: topV :: topV :: topV :: topV :: topV :: topV :: topV :: topV :: topV :: topV :: topV :: topV :: topV :: topV :: topV :: topV :: topV :: topV :: topV :: topV :: topV :: topV :: topV :: topV :: topV :: []), [some ⟨.view, .bytes bs⟩, some ⟨.row 39 4, .ints xs⟩, some ⟨.row 52 4, .ints ys⟩, some ⟨.row 52 4, .ints fs⟩, some ⟨.dead, .vals []⟩, some ⟨.row 39 4, .ints zs⟩, none, none, some ⟨.box, .vals [.int .i64 x, .int .i64 y, .int .i64 u, .int .i64 v]⟩]⟩))
  | _, _, _ => none
theorem hasZ_at {x y u v : Int} {m : Nat} {ys : List Int} (h1 : ys.length = m * 4) (h : hasZ x y u v m ys = true) : ∃ j, 0 ≤ j ∧ j < m ∧ (q4A m ys).getD j z4 = (x, y, u, v) := by
  have h := of_decide_eq_true h
  obtain ⟨j, hj, e⟩ := List.mem_iff_getElem.1 h
  have hl := (q4A_spec (n := m) (xs := ys) (by omega)).2
  refine ⟨j, Nat.zero_le _, by omega, ?_⟩
  simp [List.getD, hj, e]
set_option maxRecDepth 100000 in
set_option maxHeartbeats 2000000 in
theorem round_lcN (bs xs ys fs zs : List Int) (n m : Nat) (ii kk x y u v : Int) (h1 : ys.length = m * 4) (h2 : m ≤ 1000) : Round_lcN bs xs ys fs zs n m ii kk x y u v := by
  rintro ⟨t, b⟩ ⟨g1, g2⟩
  rw [tr_lcN]
  obtain ⟨ps, rfl, rfl⟩ := four_fl4 h1
  have fl := fl4_length ps
  simp only [Int.toNat_natCast, Nat.zero_add, fl4_get0, fl4_get1, fl4_g2, fl4_g3]
  refine brT_ok.2 ⟨fun hlt => ?_, fun hge => ?_⟩
  · have hi : t < ps.length := by have := of_decide_eq_true hlt; omega
    rw [wsucc (n := ps.length) hi (by omega)]
    refine brT_ok.2 ⟨fun q => ?_, fun q => ?_⟩
    · refine ⟨(t + 1, true), [], ⟨by omega, .inl rfl⟩, ?_, rfl, by simp only [rs_lcN], ?_⟩
      · show ps.length - (t + 1) < ps.length - t; omega
      · repeat' (first | exact True.intro | exact rfl | exact fun _ => rfl | (simp; done) | refine And.intro ?_ ?_)
    · refine ⟨⟨by omega, by omega⟩, by omega, (t + 1, ps.getD t z4 == (x, y, u, v)), [], ⟨by omega, ?_⟩, ?_, rfl, by simp only [rs_lcN], ?_⟩
      · subst q
        obtain ⟨j, k1, k2, k3⟩ := g2.resolve_left (by simp)
        rw [q4A_fl4] at k3 ⊢
        rcases Nat.eq_or_lt_of_le k1 with e | e
        · subst e
          exact .inl (beq_iff_eq.2 k3)
        · exact .inr ⟨j, e, k2, k3⟩
      · show ps.length - (t + 1) < ps.length - t; omega
      · have e := eq_q4 (ps.getD t z4) (x, y, u, v)
        simp only at e
        rw [e, negFz]
        repeat' (first | exact True.intro | exact rfl | exact fun _ => rfl | (simp; done) | refine And.intro ?_ ?_)
  · have hge := of_decide_eq_false hge
    have e : b = true := by
      rcases g2 with e | ⟨j, k1, k2, _⟩
      · exact e
      · omega
    subst e
    refine ⟨rfl, [], ?_⟩
    simp only [rs_lcN]
    repeat' (first | exact True.intro | exact rfl | exact fun _ => rfl | (simp; done) | refine And.intro ?_ ?_)
set_option maxRecDepth 100000 in
theorem lg_lcN : LoopE Try.prog e_lcN c_lcN := by
  intro s k t F H hlt ht
  unfold e_lcN at hlt
  split at hlt
  rotate_left
  · cases hlt
  rename_i hlen hpick hmem
  obtain ⟨tmps, mem⟩ := s
  simp only at hlen hpick hmem
  subst hmem
  obtain rfl := Option.some.inj hlt
  obtain ⟨⟨rfl, rfl, rfl, h1, h2, h3, _⟩, ht2⟩ := needs_ok ht
  clear ht hlt
  refine ⟨_, _, ht2, loop_run mixed ELc_ok (s_lcN _ _ _ _ _ _ _ _ _ _ _ _ _) (inv_lcN _ _ _ _ _ _ _ _ _ _ _ _ _) (me_lcN _ _ _ _ _ _ _ _ _ _ _ _ _) re_lcN (rs_lcN _ _ _ _ _ _ _ _ _ _ _ _ _) k_lcN (fun _ => rfl) (noLoops nl_lcN) (round_lcN _ _ _ _ _ _ _ _ _ _ _ _ _ h1 h2) (x := (0, false)) ⟨Nat.zero_le _, .inr (hasZ_at h1 h3)⟩ (π := []) rfl ?_⟩
  refine ⟨rfl, rfl, ?_, wvs_spread' [3, 4, 5, 7, 8, 9, 11, 12] hlen rfl ?_⟩
  · repeat' (first | exact True.intro | exact rfl | exact wv_top _ _ | exact fun _ => rfl | assumption | exact Eq.symm (by assumption) | exact vI0 rfl | refine And.intro ?_ ?_)
  · rw [hpick]
    repeat' (first | exact True.intro | exact rfl | exact wv_top _ _ | exact fun _ => rfl | assumption | exact Eq.symm (by assumption) | exact vI0 rfl | refine And.intro ?_ ?_)
end Go.Proofs.Ytolodncpegajkaa
