/-
  Texts that the proof needs, merged. Written by an AI agent.
-/
import Derived.Orders
import Derived.Below
import Derived.OrdersIn
import Derived.Deep.LoopGhost
import Derived.WalkKit
import Derived.Laws.CopyRow
import Derived.Laws.AppendOwn
import Derived.Laws.Slices
import Derived.Laws.MakeOwn
import Derived.Test.YtcplfampcbekoaaRows
import Derived.ProofKit
import Derived.OpenShut
import Derived.Carry
import Derived.IntWalk
import Derived.Test.YtcplfampcbekoaaProg
import Derived.WalkSpells
import Derived.WalkLawsBesides
import Derived.Lib.Hide
import Derived.Deep.QuietTactic
import Derived.BigQuiet
import Derived.KernelRfl
import Derived.Deep.RegionHeld3
import Derived.LoopTactic
import Derived.Laws.StructEq
import Derived.Laws.Tables
import Derived.RangeFuncNested
import Derived.RangeFuncLeaves
import Derived.Deep.Slices
import Derived.Deep.Fields
import Derived.ChangeSame
import Derived.Shelf.SlSortCmp.WholeK
import Derived.Sort.Grow
import Derived.Deep.DeepCutAuto
import Derived.Shelf.SlSortCmp.NoneTotal
import Derived.Test.YtcplfampcbekoaaZHullMore7
namespace Go.Proofs.Ytcplfampcbekoaa
set_option linter.all false
open Go.RowKit
/-- How two edges of a closed path meet. -/
def edR (ps : List Pt) (i k : Nat) : Int := relV (ps.getD i (0, 0)).1 (ps.getD i (0, 0)).2 (nxP ps i).1 (nxP ps i).2 (ps.getD k (0, 0)).1 (ps.getD k (0, 0)).2 (nxP ps k).1 (nxP ps k).2
/-- Is one of two edges behind the other one? -/
def nbQ (ps : List Pt) (i k : Nat) : Bool := decide (k = i + 1) || decide ((k + 1) % ps.length = i)
def okE (ps : List Pt) (i k : Nat) : Bool := !(decide (i < k)) || (edR ps i k == (bif nbQ ps i k then 1 else 0))
def rowQ (ps : List Pt) (i : Nat) : Bool := allQ (okE ps i) 0 ps.length
def simQ (ps : List Pt) : Bool := allQ (rowQ ps) 0 ps.length
theorem allQ_all {P : Nat → Bool} : ∀ (m i : Nat), (∀ j, i ≤ j → j < i + m → P j = true) → allQ P i m = true
  | 0, _, _ => rfl
  | m + 1, i, h => by
    simp only [allQ, Bool.and_eq_true]
    exact ⟨h i (Nat.le_refl _) (by omega), allQ_all m (i + 1) fun j h1 h2 => h j (by omega) (by omega)⟩
theorem allQ_no {P : Nat → Bool} {n j : Nat} (hj : j < n) (h : P j = false) : allQ P 0 n = false := by
  rw [Bool.eq_false_iff]
  intro hh
  have := allQ_get n 0 hh j (by omega) (by omega)
  rw [h] at this
  cases this
def TIs : Tab := orT T3 TRb
theorem TIs_ok : TabOk Try.prog TIs := orT_ok T3_ok TRb_ok
def EIs : Env := mkE TIs RCe (fun _ => noL)
theorem EIs_ok : EnvOk Try.prog EIs := mkEOk TIs_ok RCe_ok (fun _ _ _ => noL_good)
noncomputable def gcIss : Code := (rangesOf (codeOf Try.f30)).getD 0 .skip
noncomputable def gc_isI : Code := (rangesOf (bodOf gcIss)).getD 0 .skip
def k_isI : Ex → List Nat := keeps [1, 2, 3, 4, 26] [] [2]
def s_isI (ps : List Pt) (j : Nat) : Nat → St := fun i => ⟨(topV :: .pointer (some ⟨1, 0, none⟩) :: .pointer (some ⟨2, 0, none⟩) :: .pointer (some ⟨4, 0, none⟩) :: .pointer (some ⟨5, 0, none⟩) :: topV :: topV :: topV :: topV :: topV :: topV :: topV :: topV :: topV :: topV :: topV :: topV :: topV :: topV :: topV :: topV :: topV :: topV :: topV :: topV :: topV :: .func (.func 48) #[] #[.pointer (some ⟨6, 0, none⟩)] :: topV :: topV :: topV :: topV :: topV :: topV :: topV :: topV :: topV :: topV :: topV :: topV :: topV :: topV :: topV :: topV :: topV :: topV :: topV :: topV :: topV :: topV :: topV :: topV :: topV :: []), [some ⟨.view, .ints (flat ps)⟩, some ⟨.box, .vals [.slice (some ⟨0, 0, none⟩) ps.length ps.length]⟩, some ⟨.box, .vals [.bool false]⟩, some ⟨.view, .vals [.slice (some ⟨0, 0, none⟩) ps.length ps.length]⟩, some ⟨.box, .vals [.int .i64 j]⟩, some ⟨.box, .vals [.int .i64 (ps.getD j (0, 0)).1, .int .i64 (ps.getD j (0, 0)).2, .int .i64 (nxP ps j).1, .int .i64 (nxP ps j).2]⟩, some ⟨.view, .vals [.slice (some ⟨0, 0, none⟩) ps.length ps.length]⟩]⟩
def g_isI (ps : List Pt) (j : Nat) : Nat → Prop := fun i => i ≤ ps.length ∧ ∀ k, k < i → okE ps j k = true
def re_isI (ps : List Pt) (j : Nat) : Ex := bif rowQ ps j then .normal else .ret
def rs_isI (ps : List Pt) (j : Nat) : St := bif rowQ ps j then ⟨(topV :: topV :: .pointer (some ⟨2, 0, none⟩) :: topV :: topV :: topV :: topV :: topV :: topV :: topV :: topV :: topV :: topV :: topV :: topV :: topV :: topV :: topV :: topV :: topV :: topV :: topV :: topV :: topV :: topV :: topV :: topV :: topV :: topV :: topV :: topV :: topV :: topV :: topV :: topV :: topV :: topV :: topV :: topV :: topV :: topV :: topV :: topV :: topV :: topV :: topV :: topV :: topV :: topV :: topV :: topV :: topV :: []), [some ⟨.view, .ints (flat ps)⟩, some ⟨.box, .vals [.slice (some ⟨0, 0, none⟩) ps.length ps.length]⟩, some ⟨.box, .vals [.bool false]⟩, some ⟨.view, .vals [.slice (some ⟨0, 0, none⟩) ps.length ps.length]⟩, some ⟨.box, .vals [.int .i64 j]⟩, some ⟨.box, .vals [.int .i64 (ps.getD j (0, 0)).1, .int .i64 (ps.getD j (0, 0)).2, .int .i64 (nxP ps j).1, .int .i64 (nxP ps j).2]⟩, some ⟨.view, .vals [.slice (some ⟨0, 0, none⟩) ps.length ps.length]⟩]⟩ else ⟨(topV :: topV :: .pointer (some ⟨2, 0, none⟩) :: topV :: topV :: topV :: topV :: topV :: topV :: topV :: topV :: topV :: topV :: topV :: topV :: topV :: topV :: topV :: topV :: topV :: topV :: topV :: topV :: topV :: topV :: topV :: topV :: topV :: topV :: topV :: topV :: topV :: topV :: topV :: topV :: topV :: topV :: topV :: topV :: topV :: topV :: topV :: topV :: topV :: topV :: topV :: topV :: topV :: topV :: topV :: topV :: topV :: []), [some ⟨.view, .ints (flat ps)⟩, some ⟨.box, .vals [.slice (some ⟨0, 0, none⟩) ps.length ps.length]⟩, some ⟨.box, .vals [.bool false]⟩, some ⟨.view, .vals [.slice (some ⟨0, 0, none⟩) ps.length ps.length]⟩, some ⟨.box, .vals [.int .i64 j]⟩, some ⟨.box, .vals [.int .i64 (ps.getD j (0, 0)).1, .int .i64 (ps.getD j (0, 0)).2, .int .i64 (nxP ps j).1, .int .i64 (nxP ps j).2]⟩, some ⟨.view, .vals [.slice (some ⟨0, 0, none⟩) ps.length ps.length]⟩]⟩
set_option maxRecDepth 100000 in
theorem tr_isI (ps : List Pt) (j : Nat) (i : Nat) : bodyR Try.prog EIs 30 12 noL noR (asgOf gc_isI) (bodOf gc_isI) ([27, 28].zip (encE ps i)) k_isI 7 (s_isI ps j i) = brT ((↑i : Int) == IntKind.i64.wrap ((↑j : Int) + 1)) (brT (decide ((↑j : Int) < (↑i : Int))) (brT (!relV (ps.getD j (0, 0)).1 (ps.getD j (0, 0)).2 (nxP ps j).1 (nxP ps j).2 (ps.getD i (0, 0)).1 (ps.getD i (0, 0)).2 (ps.getD ((i + 1) % ps.length) (0, 0)).1 (ps.getD ((i + 1) % ps.length) (0, 0)).2 == 1) (.leaf .ret ⟨(topV :: topV :: .pointer (some ⟨2, 0, none⟩) :: topV :: topV :: topV :: topV :: topV :: topV :: topV :: topV :: topV :: topV :: topV :: topV :: topV :: topV :: topV :: topV :: topV :: topV :: topV :: topV :: topV :: topV :: topV :: topV :: topV :: topV :: topV :: topV :: topV :: topV :: topV :: topV :: topV :: topV :: topV :: topV :: topV :: topV :: topV :: topV :: topV :: topV :: topV :: topV :: topV :: topV :: topV :: topV :: topV :: []), [some ⟨.view, .ints (flat ps)⟩, some ⟨.box, .vals [.slice (some ⟨0, 0, none⟩) (ps.length) (ps.length)]⟩, some ⟨.box, .vals [.bool (false)]⟩, some ⟨.view, .vals [.slice (some ⟨0, 0, none⟩) (ps.length) (ps.length)]⟩, some ⟨.box, .vals [.int .i64 ((↑j : Int))]⟩, some ⟨.box, .vals [.int .i64 ((ps.getD j (0, 0)).1), .int .i64 ((ps.getD j (0, 0)).2), .int .i64 ((nxP ps j).1), .int .i64 ((nxP ps j).2)]⟩, some ⟨.view, .vals [.slice (some ⟨0, 0, none⟩) (ps.length) (ps.length)]⟩]⟩) (.leaf .normal ⟨(topV :: .pointer (some ⟨1, 0, none⟩) :: .pointer (some ⟨2, 0, none⟩) :: .pointer (some ⟨4, 0, none⟩) :: .pointer (some ⟨5, 0, none⟩) :: topV :: topV :: topV :: topV :: topV :: topV :: topV :: topV :: topV :: topV :: topV :: topV :: topV :: topV :: topV :: topV :: topV :: topV :: topV :: topV :: topV :: .func (Fn.func 48) #[] #[.pointer (some ⟨6, 0, none⟩)] :: topV :: topV :: topV :: topV :: topV :: topV :: topV :: topV :: topV :: topV :: topV :: topV :: topV :: topV :: topV :: topV :: topV :: topV :: topV :: topV :: topV :: topV :: topV :: topV :: topV :: []), [some ⟨.view, .ints (flat ps)⟩, some ⟨.box, .vals [.slice (some ⟨0, 0, none⟩) (ps.length) (ps.length)]⟩, some ⟨.box, .vals [.bool (false)]⟩, some ⟨.view, .vals [.slice (some ⟨0, 0, none⟩) (ps.length) (ps.length)]⟩, some ⟨.box, .vals [.int .i64 ((↑j : Int))]⟩, some ⟨.box, .vals [.int .i64 ((ps.getD j (0, 0)).1), .int .i64 ((ps.getD j (0, 0)).2), .int .i64 ((nxP ps j).1), .int .i64 ((nxP ps j).2)]⟩, some ⟨.view, .vals [.slice (some ⟨0, 0, none⟩) (ps.length) (ps.length)]⟩]⟩)) (.leaf .normal ⟨(topV :: .pointer (some ⟨1, 0, none⟩) :: .pointer (some ⟨2, 0, none⟩) :: .pointer (some ⟨4, 0, none⟩) :: .pointer (some ⟨5, 0, none⟩) :: topV :: topV :: topV :: topV :: topV :: topV :: topV :: topV :: topV :: topV :: topV :: topV :: topV :: topV :: topV :: topV :: topV :: topV :: topV :: topV :: topV :: .func (Fn.func 48) #[] #[.pointer (some ⟨6, 0, none⟩)] :: topV :: topV :: topV :: topV :: topV :: topV :: topV :: topV :: topV :: topV :: topV :: topV :: topV :: topV :: topV :: topV :: topV :: topV :: topV :: topV :: topV :: topV :: topV :: topV :: topV :: []), [some ⟨.view, .ints (flat ps)⟩, some ⟨.box, .vals [.slice (some ⟨0, 0, none⟩) (ps.length) (ps.length)]⟩, some ⟨.box, .vals [.bool (false)]⟩, some ⟨.view, .vals [.slice (some ⟨0, 0, none⟩) (ps.length) (ps.length)]⟩, some ⟨.box, .vals [.int .i64 ((↑j : Int))]⟩, some ⟨.box, .vals [.int .i64 ((ps.getD j (0, 0)).1), .int .i64 ((ps.getD j (0, 0)).2), .int .i64 ((nxP ps j).1), .int .i64 ((nxP ps j).2)]⟩, some ⟨.view, .vals [.slice (some ⟨0, 0, none⟩) (ps.length) (ps.length)]⟩]⟩)) (.need (¬(↑ps.length : Int) = (0 : Int)) (brT ((IntKind.i64.wrap ((↑i : Int) + 1)).tmod (↑ps.length : Int) == (↑j : Int)) (brT (decide ((↑j : Int) < (↑i : Int))) (brT (!relV (ps.getD j (0, 0)).1 (ps.getD j (0, 0)).2 (nxP ps j).1 (nxP ps j).2 (ps.getD i (0, 0)).1 (ps.getD i (0, 0)).2 (ps.getD ((i + 1) % ps.length) (0, 0)).1 (ps.getD ((i + 1) % ps.length) (0, 0)).2 == 1) (.leaf .ret ⟨(topV :: topV :: .pointer (some ⟨2, 0, none⟩) :: topV :: topV :: topV :: topV :: topV :: topV :: topV :: topV :: topV :: topV :: topV :: topV :: topV :: topV :: topV :: topV :: topV :: topV :: topV :: topV :: topV :: topV :: topV :: topV :: topV :: topV :: topV :: topV :: topV :: topV :: topV :: topV :: topV :: topV :: topV :: topV :: topV :: topV :: topV :: topV :: topV :: topV :: topV :: topV :: topV :: topV :: topV :: topV :: topV :: []), [some ⟨.view, .ints (flat ps)⟩, some ⟨.box, .vals [.slice (some ⟨0, 0, none⟩) (ps.length) (ps.length)]⟩, some ⟨.box, .vals [.bool (false)]⟩, some ⟨.view, .vals [.slice (some ⟨0, 0, none⟩) (ps.length) (ps.length)]⟩, some ⟨.box, .vals [.int .i64 ((↑j : Int))]⟩, some ⟨.box, .vals [.int .i64 ((ps.getD j (0, 0)).1), .int .i64 ((ps.getD j (0, 0)).2), .int .i64 ((nxP ps j).1), .int .i64 ((nxP ps j).2)]⟩, some ⟨.view, .vals [.slice (some ⟨0, 0, none⟩) (ps.length) (ps.length)]⟩]⟩) (.leaf .normal ⟨(topV :: .pointer (some ⟨1, 0, none⟩) :: .pointer (some ⟨2, 0, none⟩) :: .pointer (some ⟨4, 0, none⟩) :: .pointer (some ⟨5, 0, none⟩) :: topV :: topV :: topV :: topV :: topV :: topV :: topV :: topV :: topV :: topV :: topV :: topV :: topV :: topV :: topV :: topV :: topV :: topV :: topV :: topV :: topV :: .func (Fn.func 48) #[] #[.pointer (some ⟨6, 0, none⟩)] :: topV :: topV :: topV :: topV :: topV :: topV :: topV :: topV :: topV :: topV :: topV :: topV :: topV :: topV :: topV :: topV :: topV :: topV :: topV :: topV :: topV :: topV :: topV :: topV :: topV :: []), [some ⟨.view, .ints (flat ps)⟩, some ⟨.box, .vals [.slice (some ⟨0, 0, none⟩) (ps.length) (ps.length)]⟩, some ⟨.box, .vals [.bool (false)]⟩, some ⟨.view, .vals [.slice (some ⟨0, 0, none⟩) (ps.length) (ps.length)]⟩, some ⟨.box, .vals [.int .i64 ((↑j : Int))]⟩, some ⟨.box, .vals [.int .i64 ((ps.getD j (0, 0)).1), .int .i64 ((ps.getD j (0, 0)).2), .int .i64 ((nxP ps j).1), .int .i64 ((nxP ps j).2)]⟩, some ⟨.view, .vals [.slice (some ⟨0, 0, none⟩) (ps.length) (ps.length)]⟩]⟩)) (.leaf .normal ⟨(topV :: .pointer (some ⟨1, 0, none⟩) :: .pointer (some ⟨2, 0, none⟩) :: .pointer (some ⟨4, 0, none⟩) :: .pointer (some ⟨5, 0, none⟩) :: topV :: topV :: topV :: topV :: topV :: topV :: topV :: topV :: topV :: topV :: topV :: topV :: topV :: topV :: topV :: topV :: topV :: topV :: topV :: topV :: topV :: .func (Fn.func 48) #[] #[.pointer (some ⟨6, 0, none⟩)] :: topV :: topV :: topV :: topV :: topV :: topV :: topV :: topV :: topV :: topV :: topV :: topV :: topV :: topV :: topV :: topV :: topV :: topV :: topV :: topV :: topV :: topV :: topV :: topV :: topV :: []), [some ⟨.view, .ints (flat ps)⟩, some ⟨.box, .vals [.slice (some ⟨0, 0, none⟩) (ps.length) (ps.length)]⟩, some ⟨.box, .vals [.bool (false)]⟩, some ⟨.view, .vals [.slice (some ⟨0, 0, none⟩) (ps.length) (ps.length)]⟩, some ⟨.box, .vals [.int .i64 ((↑j : Int))]⟩, some ⟨.box, .vals [.int .i64 ((ps.getD j (0, 0)).1), .int .i64 ((ps.getD j (0, 0)).2), .int .i64 ((nxP ps j).1), .int .i64 ((nxP ps j).2)]⟩, some ⟨.view, .vals [.slice (some ⟨0, 0, none⟩) (ps.length) (ps.length)]⟩]⟩)) (brT (decide ((↑j : Int) < (↑i : Int))) (brT (!relV (ps.getD j (0, 0)).1 (ps.getD j (0, 0)).2 (nxP ps j).1 (nxP ps j).2 (ps.getD i (0, 0)).1 (ps.getD i (0, 0)).2 (ps.getD ((i + 1) % ps.length) (0, 0)).1 (ps.getD ((i + 1) % ps.length) (0, 0)).2 == 0) (.leaf .ret ⟨(topV :: topV :: .pointer (some ⟨2, 0, none⟩) :: topV :: topV :: topV :: topV :: topV :: topV :: topV :: topV :: topV :: topV :: topV :: topV :: topV :: topV :: topV :: topV :: topV :: topV :: topV :: topV :: topV :: topV :: topV :: topV :: topV :: topV :: topV :: topV :: topV :: topV :: topV :: topV :: topV :: topV :: topV :: topV :: topV :: topV :: topV :: topV :: topV :: topV :: topV :: topV :: topV :: topV :: topV :: topV :: topV :: []), [some ⟨.view, .ints (flat ps)⟩, some ⟨.box, .vals [.slice (some ⟨0, 0, none⟩) (ps.length) (ps.length)]⟩, some ⟨.box, .vals [.bool (false)]⟩, some ⟨.view, .vals [.slice (some ⟨0, 0, none⟩) (ps.length) (ps.length)]⟩, some ⟨.box, .vals [.int .i64 ((↑j : Int))]⟩, some ⟨.box, .vals [.int .i64 ((ps.getD j (0, 0)).1), .int .i64 ((ps.getD j (0, 0)).2), .int .i64 ((nxP ps j).1), .int .i64 ((nxP ps j).2)]⟩, some ⟨.view, .vals [.slice (some ⟨0, 0, none⟩) (ps.length) (ps.length)]⟩]⟩) (.leaf .normal ⟨(topV :: .pointer (some ⟨1, 0, none⟩) :: .pointer (some ⟨2, 0, none⟩) :: .pointer (some ⟨4, 0, none⟩) :: .pointer (some ⟨5, 0, none⟩) :: topV :: topV :: topV :: topV :: topV :: topV :: topV :: topV :: topV :: topV :: topV :: topV :: topV :: topV :: topV :: topV :: topV :: topV :: topV :: topV :: topV :: .func (Fn.func 48) #[] #[.pointer (some ⟨6, 0, none⟩)] :: topV :: topV :: topV :: topV :: topV :: topV :: topV :: topV :: topV :: topV :: topV :: topV :: topV :: topV :: topV :: topV :: topV :: topV :: topV :: topV :: topV :: topV :: topV :: topV :: topV :: []), [some ⟨.view, .ints (flat ps)⟩, some ⟨.box, .vals [.slice (some ⟨0, 0, none⟩) (ps.length) (ps.length)]⟩, some ⟨.box, .vals [.bool (false)]⟩, some ⟨.view, .vals [.slice (some ⟨0, 0, none⟩) (ps.length) (ps.length)]⟩, some ⟨.box, .vals [.int .i64 ((↑j : Int))]⟩, some ⟨.box, .vals [.int .i64 ((ps.getD j (0, 0)).1), .int .i64 ((ps.getD j (0, 0)).2), .int .i64 ((nxP ps j).1), .int .i64 ((nxP ps j).2)]⟩, some ⟨.view, .vals [.slice (some ⟨0, 0, none⟩) (ps.length) (ps.length)]⟩]⟩)) (.leaf .normal ⟨(topV :: .pointer (some ⟨1, 0, none⟩) :: .pointer (some ⟨2, 0, none⟩) :: .pointer (some ⟨4, 0, none⟩) :: .pointer (some ⟨5, 0, none⟩) :: topV :: topV :: topV :: topV :: topV :: topV :: topV :: topV :: topV :: topV :: topV :: topV :: topV :: topV :: topV :: topV :: topV :: topV :: topV :: topV :: topV :: .func (Fn.func 48) #[] #[.pointer (some ⟨6, 0, none⟩)] :: topV :: topV :: topV :: topV :: topV :: topV :: topV :: topV :: topV :: topV :: topV :: topV :: topV :: topV :: topV :: topV :: topV :: topV :: topV :: topV :: topV :: topV :: topV :: topV :: topV :: []), [some ⟨.view, .ints (flat ps)⟩, some ⟨.box, .vals [.slice (some ⟨0, 0, none⟩) (ps.length) (ps.length)]⟩, some ⟨.box, .vals [.bool (false)]⟩, some ⟨.view, .vals [.slice (some ⟨0, 0, none⟩) (ps.length) (ps.length)]⟩, some ⟨.box, .vals [.int .i64 ((↑j : Int))]⟩, some ⟨.box, .vals [.int .i64 ((ps.getD j (0, 0)).1), .int .i64 ((ps.getD j (0, 0)).2), .int .i64 ((nxP ps j).1), .int .i64 ((nxP ps j).2)]⟩, some ⟨.view, .vals [.slice (some ⟨0, 0, none⟩) (ps.length) (ps.length)]⟩]⟩)))) := by kernel_rfl
/-- A round of this loop. -/
def Round_isI (ps : List Pt) (j : Nat) : Prop := ∀ i : Nat, g_isI ps j i → i < (ps).length → (bodyR Try.prog EIs 30 12 noL noR (asgOf gc_isI) (bodOf gc_isI) ([27, 28].zip (encE ps i)) k_isI 7 (s_isI ps j i)).ok (RoundEndR 7 (s_isI ps j) (g_isI ps j) (re_isI ps j) (rs_isI ps j) i) (fun _ _ => False)
set_option maxRecDepth 100000 in
theorem gcode_isI : gc_isI = .rangeFunc (.tmp 26) ([27, 28] : List Nat).toArray (asgOf gc_isI) (bodOf gc_isI) := by kernel_rfl
def e_isI (s : St) (k : Ex → St → Tree) : Option Tree := match Nat.beq s.tmps.length 52, pickL s.tmps [1, 2, 3, 4, 26], s.mem with
  | true, [.pointer (some ⟨1, 0, none⟩), .pointer (some ⟨2, 0, none⟩), .pointer (some ⟨4, 0, none⟩), .pointer (some ⟨5, 0, none⟩), .func (.func 48) ⟨[]⟩ ⟨[.pointer (some ⟨6, 0, none⟩)]⟩], [some ⟨.view, .ints xs⟩, some ⟨.box, .vals [.slice (some ⟨0, 0, none⟩) n _]⟩, some ⟨.box, .vals [.bool false]⟩, some ⟨.view, .vals [.slice (some ⟨0, 0, none⟩) n1 _]⟩, some ⟨.box, .vals [.int .i64 jj]⟩, some ⟨.box, .vals [.int .i64 a, .int .i64 b, .int .i64 c, .int .i64 d]⟩, some ⟨.box, .vals [.slice (some ⟨0, 0, none⟩) n2 _]⟩] => some (needs [n1 = n, n2 = n, 0 ≤ jj, xs.length = n * 2, n ≤ 20, jj < n, a = ((ptsA n xs).getD jj.toNat (0, 0)).1 ∧ b = ((ptsA n xs).getD jj.toNat (0, 0)).2 ∧ c = (nxP (ptsA n xs) jj.toNat).1 ∧ d = (nxP (ptsA n xs) jj.toNat).2] (brT (rowQ (ptsA n xs) jj.toNat) (k .normal ⟨(topV :: topV :: .pointer (some ⟨2, 0, none⟩) :: topV :: topV :: topV :: topV :: topV :: topV :: topV :: topV :: topV :: topV :: topV :: topV :: topV :: topV :: topV :: topV :: topV :: topV :: topV :: topV :: topV :: topV :: topV :: topV :: topV :: topV :: topV :: topV :: topV :: topV :: topV :: topV :: topV :: topV :: topV :: topV :: topV :: topV :: topV :: topV :: topV :: topV :: topV :: topV :: topV :: topV :: topV :: topV :: topV :: []), [some ⟨.view, .ints xs⟩, some ⟨.box, .vals [.slice (some ⟨0, 0, none⟩) n n]⟩, some ⟨.box, .vals [.bool false]⟩, some ⟨.view, .vals [.slice (some ⟨0, 0, none⟩) n n]⟩, some ⟨.box, .vals [.int .i64 jj]⟩, some ⟨.box, .vals [.int .i64 a, .int .i64 b, .int .i64 c, .int .i64 d]⟩, some ⟨.view, .vals [.slice (some ⟨0, 0, none⟩) n n]⟩]⟩) (k .ret ⟨(topV :: topV :: .pointer (some ⟨2, 0, none⟩) :: topV :: topV :: topV :: topV :: topV :: topV :: topV :: topV :: topV :: topV :: topV :: topV :: topV :: topV :: topV :: topV :: topV :: topV :: topV :: topV :: topV :: topV :: topV :: topV :: topV :: topV :: topV :: topV :: topV :: topV :: topV :: topV :: topV :: topV :: topV :: topV :: topV :: topV :: topV :: topV :: topV :: topV :: topV :: topV :: topV :: topV :: topV :: topV :: topV :: []), [some ⟨.view, .ints xs⟩, some ⟨.box, .vals [.slice (some ⟨0, 0, none⟩) n n]⟩, some ⟨.box, .vals [.bool false]⟩, some ⟨.view, .vals [.slice (some ⟨0, 0, none⟩) n n]⟩, some ⟨.box, .vals [.int .i64 jj]⟩, some ⟨.box, .vals [.int .i64 a, .int .i64 b, .int .i64 c, .int .i64 d]⟩, some ⟨.view, .vals [.slice (some ⟨0, 0, none⟩) n n]⟩]⟩)))
  | _, _, _ => none
set_option maxRecDepth 100000 in
theorem round_isI (ps : List Pt) (j : Nat) (h : ps.length ≤ 20) (hj : j < ps.length) : Round_isI ps j := by
  rintro i ⟨_, hg⟩ hi
  rw [tr_isI]
  have e1 : IntKind.i64.wrap ((j : Int) + 1) = (j : Int) + 1 := by rw [wsucc hj (by omega)]; omega
  have c1 : ((i : Int) == (j : Int) + 1) = decide (i = j + 1) := by rw [Bool.eq_iff_iff]; simp; omega
  have c2 : decide ((j : Int) < (i : Int)) = decide (j < i) := decide_eq_decide.2 (by omega)
  have c3 : ((((i + 1) % ps.length : Nat) : Int) == (j : Int)) = decide ((i + 1) % ps.length = j) := by
    generalize (i + 1) % ps.length = m
    rw [Bool.eq_iff_iff]
    simp
    omega
  have hR : relV (ps.getD j (0, 0)).1 (ps.getD j (0, 0)).2 (nxP ps j).1 (nxP ps j).2 (ps.getD i (0, 0)).1 (ps.getD i (0, 0)).2 (ps.getD ((i + 1) % ps.length) (0, 0)).1 (ps.getD ((i + 1) % ps.length) (0, 0)).2 = edR ps j i := rfl
  have nxt : okE ps j i = true → g_isI ps j (i + 1) := fun ho => ⟨by omega, fun k hk => by
    rcases Nat.lt_or_ge k i with h1 | h1
    · exact hg k h1
    · obtain rfl : k = i := by omega
      exact ho⟩
  have stp : okE ps j i = false → rowQ ps j = false := allQ_no hi
  have n0 : ¬ (ps.length : Int) = 0 := by omega
  simp only [e1, c1, c2, c3, hR, nx_mod hi (by omega)]
  rcases q1 : decide (i = j + 1) with _ | _ <;> rcases q2 : decide (j < i) with _ | _ <;> rcases q3 : decide ((i + 1) % ps.length = j) with _ | _ <;> rcases q4 : (edR ps j i == 1) with _ | _ <;> rcases q5 : (edR ps j i == 0) with _ | _
  all_goals
    simp only [brT_t, brT_f, Bool.not_true, Bool.not_false, Tree.ok, RoundEndR]
    try refine ⟨n0, ?_⟩
    first
      | (have ho : okE ps j i = true := by unfold okE nbQ; rw [q1, q2, q3]; simp [q4, q5]
         refine ⟨nxt ho, [], ?_⟩
         refine ⟨rfl, rfl, ?_, ?_⟩ <;> repeat' (first | exact True.intro | exact rfl | exact wv_top _ _ | exact fun _ => rfl | refine And.intro ?_ ?_))
      | (have ho : okE ps j i = false := by unfold okE nbQ; rw [q1, q2, q3]; simp [q4, q5]
         have hq := stp ho
         refine ⟨by unfold re_isI; rw [hq]; rfl, [], ?_⟩
         unfold rs_isI
         rw [hq]
         refine ⟨rfl, rfl, ?_, ?_⟩ <;> repeat' (first | exact True.intro | exact rfl | exact wv_top _ _ | exact fun _ => rfl | refine And.intro ?_ ?_))
set_option maxRecDepth 100000 in
theorem lg_isI : RangeE Try.prog e_isI gc_isI := by
  intro s k t F H hlt ht
  unfold e_isI at hlt
  split at hlt
  rotate_left
  · cases hlt
  rename_i hlen hpick hmem
  obtain ⟨tmps, mem⟩ := s
  simp only at hlen hpick hmem
  subst hmem
  obtain rfl := Option.some.inj hlt
  obtain ⟨⟨rfl, rfl, h4, h1, h3, h5, h6, _⟩, ht2⟩ := needs_ok ht
  clear ht hlt
  obtain ⟨ps, rfl, rfl⟩ := even_flat h1
  obtain ⟨j, rfl⟩ := Int.eq_ofNat_of_zero_le h4
  rw [ptsA_flat] at ht2 h6
  simp only [Int.toNat_natCast] at ht2 h6
  obtain ⟨rfl, rfl, rfl, rfl⟩ := h6
  refine ⟨re_isI ps j, rs_isI ps j, pick2k ht2, ?_⟩
  rw [gcode_isI]
  refine range_det (enc := encE ps) (len := (ps).length) (St_of := s_isI ps j) (Good := g_isI ps j) (N := 7) (M := 7) (Kn := [0, 6]) (cap := [.pointer (some ⟨6, 0, none⟩)]) (kf := (k_isI .normal)) (π := []) (fun _ => rfl) (fun _ => rfl) (fun i hg hlt => bodyR_ok mixed EIs_ok (noL_good) (noR_good) (round_isI ps j h3 (by omega) i hg hlt)) (entersB_res (by kernel_rfl)).1 rfl ?_ (fun ρ0 ρ B w lb h1 h2 => ed_iter ps (by omega) (s := (s_isI ps j 0).fs) (nb := 6) (nr := 0) (c := (ps).length) (Kn := [0, 6]) rfl rfl (by decide) (by decide) ρ0 ρ B w lb h1 h2) ?_ rfl (by decide) ?_ ⟨Nat.zero_le _, fun k hk => by omega⟩
  · intro n hn b hb
    simp only [List.mem_cons, List.not_mem_nil, or_false] at hn
    rcases hn with rfl | rfl <;> (obtain rfl := Option.some.inj hb; rfl)
  · rintro ⟨_, hg⟩
    have hq : rowQ ps j = true := allQ_all _ _ fun k _ h2 => hg k (by omega)
    refine ⟨by unfold re_isI; rw [hq]; rfl, [], ?_⟩
    unfold rs_isI
    rw [hq]
    refine ⟨rfl, rfl, ?_, ?_⟩ <;> repeat' (first | exact True.intro | exact rfl | exact wv_top _ _ | exact fun _ => rfl | refine And.intro ?_ ?_)
  · refine ⟨rfl, rfl, ?_, wvs_spread' [1, 2, 3, 4, 26] hlen rfl ?_⟩
    · repeat' (first | exact True.intro | exact rfl | exact wv_top _ _ | exact fun _ => rfl | assumption | exact Eq.symm (by assumption) | exact vI0 rfl | refine And.intro ?_ ?_)
    · rw [show pickL (viewS [0, 6] ⟨tmps, _⟩).tmps [1, 2, 3, 4, 26] = pickL tmps [1, 2, 3, 4, 26] from rfl, hpick]
      repeat' (first | exact True.intro | exact rfl | exact wv_top _ _ | exact fun _ => rfl | assumption | exact Eq.symm (by assumption) | exact vI0 rfl | refine And.intro ?_ ?_)
noncomputable def gc_isO : Code := gcIss
def k_isO : Ex → List Nat := keeps [1, 2, 22] [] [2]
def s_isO (ps : List Pt) : Nat → St := fun i => ⟨(topV :: .pointer (some ⟨1, 0, none⟩) :: .pointer (some ⟨2, 0, none⟩) :: topV :: topV :: topV :: topV :: topV :: topV :: topV :: topV :: topV :: topV :: topV :: topV :: topV :: topV :: topV :: topV :: topV :: topV :: topV :: .func (.func 48) #[] #[.pointer (some ⟨3, 0, none⟩)] :: topV :: topV :: topV :: topV :: topV :: topV :: topV :: topV :: topV :: topV :: topV :: topV :: topV :: topV :: topV :: topV :: topV :: topV :: topV :: topV :: topV :: topV :: topV :: topV :: topV :: topV :: topV :: topV :: topV :: []), [some ⟨.view, .ints (flat ps)⟩, some ⟨.box, .vals [.slice (some ⟨0, 0, none⟩) ps.length ps.length]⟩, some ⟨.box, .vals [.bool false]⟩, some ⟨.view, .vals [.slice (some ⟨0, 0, none⟩) ps.length ps.length]⟩]⟩
def g_isO (ps : List Pt) : Nat → Prop := fun i => i ≤ ps.length ∧ ∀ k, k < i → rowQ ps k = true
def re_isO (ps : List Pt) : Ex := bif simQ ps then .normal else .ret
def rs_isO (ps : List Pt) : St := bif simQ ps then ⟨(topV :: topV :: .pointer (some ⟨2, 0, none⟩) :: topV :: topV :: topV :: topV :: topV :: topV :: topV :: topV :: topV :: topV :: topV :: topV :: topV :: topV :: topV :: topV :: topV :: topV :: topV :: topV :: topV :: topV :: topV :: topV :: topV :: topV :: topV :: topV :: topV :: topV :: topV :: topV :: topV :: topV :: topV :: topV :: topV :: topV :: topV :: topV :: topV :: topV :: topV :: topV :: topV :: topV :: topV :: topV :: topV :: []), [some ⟨.view, .ints (flat ps)⟩, some ⟨.box, .vals [.slice (some ⟨0, 0, none⟩) ps.length ps.length]⟩, some ⟨.box, .vals [.bool false]⟩, some ⟨.view, .vals [.slice (some ⟨0, 0, none⟩) ps.length ps.length]⟩]⟩ else ⟨(topV :: topV :: .pointer (some ⟨2, 0, none⟩) :: topV :: topV :: topV :: topV :: topV :: topV :: topV :: topV :: topV :: topV :: topV :: topV :: topV :: topV :: topV :: topV :: topV :: topV :: topV :: topV :: topV :: topV :: topV :: topV :: topV :: topV :: topV :: topV :: topV :: topV :: topV :: topV :: topV :: topV :: topV :: topV :: topV :: topV :: topV :: topV :: topV :: topV :: topV :: topV :: topV :: topV :: topV :: topV :: topV :: []), [some ⟨.view, .ints (flat ps)⟩, some ⟨.box, .vals [.slice (some ⟨0, 0, none⟩) ps.length ps.length]⟩, some ⟨.box, .vals [.bool false]⟩, some ⟨.view, .vals [.slice (some ⟨0, 0, none⟩) ps.length ps.length]⟩]⟩
set_option maxRecDepth 100000 in
theorem tr_isO (ps : List Pt) (i : Nat) : bodyR Try.prog EIs 30 12 noL (rt1 26 e_isI) (asgOf gc_isO) (bodOf gc_isO) ([23, 24].zip (encE ps i)) k_isO 4 (s_isO ps i) = .need (ps.length = ps.length) (.need (ps.length = ps.length) (.need ((0 : Int) ≤ (↑i : Int)) (.need ((flat ps).length = ps.length * (2 : Nat)) (.need (ps.length ≤ (20 : Nat)) (.need ((↑i : Int) < (↑ps.length : Int)) (.need ((ps.getD i ((0 : Int), (0 : Int))).1 = ((ptsA ps.length (flat ps)).getD (↑i : Int).toNat ((0 : Int), (0 : Int))).1 ∧ (ps.getD i ((0 : Int), (0 : Int))).2 = ((ptsA ps.length (flat ps)).getD (↑i : Int).toNat ((0 : Int), (0 : Int))).2 ∧ (ps.getD ((i + (1 : Nat)) % ps.length) ((0 : Int), (0 : Int))).1 = (nxP (ptsA ps.length (flat ps)) (↑i : Int).toNat).1 ∧ (ps.getD ((i + (1 : Nat)) % ps.length) ((0 : Int), (0 : Int))).2 = (nxP (ptsA ps.length (flat ps)) (↑i : Int).toNat).2) (brT (rowQ (ptsA ps.length (flat ps)) (↑i : Int).toNat) (.leaf .normal ⟨(topV :: .pointer (some ⟨1, 0, none⟩) :: .pointer (some ⟨2, 0, none⟩) :: topV :: topV :: topV :: topV :: topV :: topV :: topV :: topV :: topV :: topV :: topV :: topV :: topV :: topV :: topV :: topV :: topV :: topV :: topV :: .func (Fn.func 48) #[] #[.pointer (some ⟨3, 0, none⟩)] :: topV :: topV :: topV :: topV :: topV :: topV :: topV :: topV :: topV :: topV :: topV :: topV :: topV :: topV :: topV :: topV :: topV :: topV :: topV :: topV :: topV :: topV :: topV :: topV :: topV :: topV :: topV :: topV :: topV :: []), [some ⟨.view, .ints (flat ps)⟩, some ⟨.box, .vals [.slice (some ⟨0, 0, none⟩) (ps.length) (ps.length)]⟩, some ⟨.box, .vals [.bool (false)]⟩, some ⟨.view, .vals [.slice (some ⟨0, 0, none⟩) (ps.length) (ps.length)]⟩]⟩) (.leaf .ret ⟨(topV :: topV :: .pointer (some ⟨2, 0, none⟩) :: topV :: topV :: topV :: topV :: topV :: topV :: topV :: topV :: topV :: topV :: topV :: topV :: topV :: topV :: topV :: topV :: topV :: topV :: topV :: topV :: topV :: topV :: topV :: topV :: topV :: topV :: topV :: topV :: topV :: topV :: topV :: topV :: topV :: topV :: topV :: topV :: topV :: topV :: topV :: topV :: topV :: topV :: topV :: topV :: topV :: topV :: topV :: topV :: topV :: []), [some ⟨.view, .ints (flat ps)⟩, some ⟨.box, .vals [.slice (some ⟨0, 0, none⟩) (ps.length) (ps.length)]⟩, some ⟨.box, .vals [.bool (false)]⟩, some ⟨.view, .vals [.slice (some ⟨0, 0, none⟩) (ps.length) (ps.length)]⟩]⟩)))))))) := by kernel_rfl
/-- A round of this loop. -/
def Round_isO (ps : List Pt) : Prop := ∀ i : Nat, g_isO ps i → i < (ps).length → (bodyR Try.prog EIs 30 12 noL (rt1 26 e_isI) (asgOf gc_isO) (bodOf gc_isO) ([23, 24].zip (encE ps i)) k_isO 4 (s_isO ps i)).ok (RoundEndR 4 (s_isO ps) (g_isO ps) (re_isO ps) (rs_isO ps) i) (fun _ _ => False)
set_option maxRecDepth 100000 in
theorem gcode_isO : gc_isO = .rangeFunc (.tmp 22) ([23, 24] : List Nat).toArray (asgOf gc_isO) (bodOf gc_isO) := by kernel_rfl
def e_isO (s : St) (k : Ex → St → Tree) : Option Tree := match Nat.beq s.tmps.length 52, pickL s.tmps [1, 2, 22], s.mem with
  | true, [.pointer (some ⟨1, 0, none⟩), .pointer (some ⟨2, 0, none⟩), .func (.func 48) ⟨[]⟩ ⟨[.pointer (some ⟨3, 0, none⟩)]⟩], [some ⟨.view, .ints xs⟩, some ⟨.box, .vals [.slice (some ⟨0, 0, none⟩) n _]⟩, some ⟨.box, .vals [.bool false]⟩, some ⟨.box, .vals [.slice (some ⟨0, 0, none⟩) n1 _]⟩] => some (needs [n1 = n, xs.length = n * 2, n ≤ 20] (brT (simQ (ptsA n xs)) (k .normal ⟨(topV :: topV :: .pointer (some ⟨2, 0, none⟩) :: topV :: topV :: topV :: topV :: topV :: topV :: topV :: topV :: topV :: topV :: topV :: topV :: topV :: topV :: topV :: topV :: topV :: topV :: topV :: topV :: topV :: topV :: topV :: topV :: topV :: topV :: topV :: topV :: topV :: topV :: topV :: topV :: topV :: topV :: topV :: topV :: topV :: topV :: topV :: topV :: topV :: topV :: topV :: topV :: topV :: topV :: topV :: topV :: topV :: []), [some ⟨.view, .ints xs⟩, some ⟨.box, .vals [.slice (some ⟨0, 0, none⟩) n n]⟩, some ⟨.box, .vals [.bool false]⟩, some ⟨.view, .vals [.slice (some ⟨0, 0, none⟩) n n]⟩]⟩) (k .ret ⟨(topV :: topV :: .pointer (some ⟨2, 0, none⟩) :: topV :: topV :: topV :: topV :: topV :: topV :: topV :: topV :: topV :: topV :: topV :: topV :: topV :: topV :: topV :: topV :: topV :: topV :: topV :: topV :: topV :: topV :: topV :: topV :: topV :: topV :: topV :: topV :: topV :: topV :: topV :: topV :: topV :: topV :: topV :: topV :: topV :: topV :: topV :: topV :: topV :: topV :: topV :: topV :: topV :: topV :: topV :: topV :: topV :: []), [some ⟨.view, .ints xs⟩, some ⟨.box, .vals [.slice (some ⟨0, 0, none⟩) n n]⟩, some ⟨.box, .vals [.bool false]⟩, some ⟨.view, .vals [.slice (some ⟨0, 0, none⟩) n n]⟩]⟩)))
  | _, _, _ => none
set_option maxRecDepth 100000 in
theorem round_isO (ps : List Pt) (h : ps.length ≤ 20) : Round_isO ps := by
  rintro i ⟨_, hg⟩ hi
  rw [tr_isO]
  simp only [ptsA_flat, Int.toNat_natCast]
  refine ⟨by first | exact True.intro | rfl, by first | exact True.intro | rfl, by omega, flat_length ps, h, by omega, ⟨by first | exact True.intro | rfl, by first | exact True.intro | rfl, rfl, rfl⟩, ?_⟩
  refine brT_ok.2 ⟨fun hq => ?_, fun hq => ?_⟩
  · refine ⟨⟨by omega, fun k hk => ?_⟩, [], ?_⟩
    · rcases Nat.lt_or_ge k i with h1 | h1
      · exact hg k h1
      · obtain rfl : k = i := by omega
        exact hq
    · refine ⟨rfl, rfl, ?_, ?_⟩ <;> repeat' (first | exact True.intro | exact rfl | exact wv_top _ _ | exact fun _ => rfl | refine And.intro ?_ ?_)
  · have hs : simQ ps = false := allQ_no hi hq
    refine ⟨by unfold re_isO; rw [hs]; rfl, [], ?_⟩
    unfold rs_isO
    rw [hs]
    refine ⟨rfl, rfl, ?_, ?_⟩ <;> repeat' (first | exact True.intro | exact rfl | exact wv_top _ _ | exact fun _ => rfl | refine And.intro ?_ ?_)
set_option maxRecDepth 100000 in
theorem lg_isO : RangeE Try.prog e_isO gc_isO := by
  intro s k t F H hlt ht
  unfold e_isO at hlt
  split at hlt
  rotate_left
  · cases hlt
  rename_i hlen hpick hmem
  obtain ⟨tmps, mem⟩ := s
  simp only at hlen hpick hmem
  subst hmem
  obtain rfl := Option.some.inj hlt
  obtain ⟨⟨rfl, h1, h3, _⟩, ht2⟩ := needs_ok ht
  clear ht hlt
  obtain ⟨ps, rfl, rfl⟩ := even_flat h1
  rw [ptsA_flat] at ht2
  refine ⟨re_isO ps, rs_isO ps, pick2k ht2, ?_⟩
  rw [gcode_isO]
  refine range_det (enc := encE ps) (len := (ps).length) (St_of := s_isO ps) (Good := g_isO ps) (N := 4) (M := 4) (Kn := [0, 3]) (cap := [.pointer (some ⟨3, 0, none⟩)]) (kf := (k_isO .normal)) (π := []) (fun _ => rfl) (fun _ => rfl) (fun i hg hlt => bodyR_ok mixed EIs_ok (noL_good) (rt1_good (by kernel_rfl) lg_isI) (round_isO ps h3 i hg hlt)) (entersB_res (by kernel_rfl)).1 rfl ?_ (fun ρ0 ρ B w lb h1 h2 => ed_iter ps (by omega) (s := (s_isO ps 0).fs) (nb := 3) (nr := 0) (c := (ps).length) (Kn := [0, 3]) rfl rfl (by decide) (by decide) ρ0 ρ B w lb h1 h2) ?_ rfl (by decide) ?_ ⟨Nat.zero_le _, fun k hk => by omega⟩
  · intro n hn b hb
    simp only [List.mem_cons, List.not_mem_nil, or_false] at hn
    rcases hn with rfl | rfl <;> (obtain rfl := Option.some.inj hb; rfl)
  · rintro ⟨_, hg⟩
    have hq : simQ ps = true := allQ_all _ _ fun k _ h2 => hg k (by omega)
    refine ⟨by unfold re_isO; rw [hq]; rfl, [], ?_⟩
    unfold rs_isO
    rw [hq]
    refine ⟨rfl, rfl, ?_, ?_⟩ <;> repeat' (first | exact True.intro | exact rfl | exact wv_top _ _ | exact fun _ => rfl | refine And.intro ?_ ?_)
  · refine ⟨rfl, rfl, ?_, wvs_spread' [1, 2, 22] hlen rfl ?_⟩
    · repeat' (first | exact True.intro | exact rfl | exact wv_top _ _ | exact fun _ => rfl | assumption | exact Eq.symm (by assumption) | exact vI0 rfl | refine And.intro ?_ ?_)
    · rw [show pickL (viewS [0, 3] ⟨tmps, _⟩).tmps [1, 2, 22] = pickL tmps [1, 2, 22] from rfl, hpick]
      repeat' (first | exact True.intro | exact rfl | exact wv_top _ _ | exact fun _ => rfl | assumption | exact Eq.symm (by assumption) | exact vI0 rfl | refine And.intro ?_ ?_)
theorem Gr_isO {fn : Func} (hf : Try.prog.funcs[30]? = some fn) : RangesGood Try.prog (rt1 22 e_isO) (codeOf fn) := by
  obtain rfl := fn_is Try.func30 hf
  exact rt1_good (by kernel_rfl) lg_isO
def GIs : FuncId → RT := fun f => match f with
  | 30 => rt1 22 e_isO
  | _ => noR
def EIo : Env := withG EIs GIs
theorem EIo_ok : EnvOk Try.prog EIo := withG_ok EIs_ok (by
  intro f fn hf
  unfold GIs
  split
  all_goals first | with_reducible exact Gr_isO hf | exact noR_good)
set_option maxRecDepth 100000 in
theorem tr_iIss (ps : List Pt) : bodyV Try.prog EIo 30 12 30 [.row ps.length (.ints (flat ps))] = brT (decide ((↑ps.length : Int) < 3)) (.fin (.bool (false)) []) (brT (decide (20 < (↑ps.length : Int))) (.fin (.bool (false)) []) (brT (decide ((↑ps.length : Int) ≤ 20)) (.need (ps.length * (2 : Nat) ≤ (List.drop (0 : Nat) (flat ps)).length) (.need (ps.length ≤ (1000000000 : Nat)) (brT (!allV (ptsA ps.length (List.drop 0 (flat ps)))) (.fin (.bool (false)) []) (.need (ps.length = ps.length) (.need ((flat ps).length = ps.length * (2 : Nat)) (.need (ps.length ≤ (20 : Nat)) (brT (simQ (ptsA ps.length (flat ps))) (.fin (.bool (true)) []) (.fin (.bool (false)) [])))))))) (.fin (.bool (false)) []))) := by kernel_rfl
/-- Is a polygon simple, as the program finds it? -/
def issI (ps : List Pt) : Bool := decide (3 ≤ ps.length) && okL ps && simQ ps
theorem res_iIss (ps : List Pt) (h : Big ps) : Res Try.prog 30 [.row ps.length (.ints (flat ps))] (.bool (issI ps)) := by
  refine bodyV_res mixed EIo_ok (m := 30) (n := 12) rfl ?_
  rw [tr_iIss]
  unfold Big at h
  simp only [List.drop_zero, ptsA_flat, flat_length]
  unfold issI okL
  by_cases h1 : 3 ≤ ps.length
  · by_cases h2 : ps.length ≤ 20
    · have a1 : ¬ (ps.length : Int) < 3 := by omega
      have a2 : ¬ (20 : Int) < ps.length := by omega
      have a3 : (ps.length : Int) ≤ 20 := by omega
      rcases hv : allV ps with _ | _ <;> rcases hs : simQ ps with _ | _ <;> simp [brT_ok, Tree.ok, h1, h2, a1, a2, a3, h]
    · have a1 : ¬ (ps.length : Int) < 3 := by omega
      have a2 : (20 : Int) < ps.length := by omega
      simp [brT_ok, Tree.ok, h2, a1, a2]
  · have a1 : (ps.length : Int) < 3 := by omega
    simp [brT_ok, Tree.ok, h1, a1]
end Go.Proofs.Ytcplfampcbekoaa
namespace Go.Proofs.Ytcplfampcbekoaa
set_option linter.all false
open Go.RowKit
def TIt : Tab := fun f ds => match f with
  | f => TIs f ds
theorem TIt_ok : TabOk Try.prog TIt := by
  intro f ds v C h hC
  unfold TIt at h
  (try split at h)
  all_goals first | with_reducible exact pRng_ok h hC | exact TIs_ok _ _ _ _ h hC
def edX (ps : List Pt) (i k : Nat) : Int := relA (ps.getD i (0, 0)).1 (ps.getD i (0, 0)).2 (nxP ps i).1 (nxP ps i).2 (ps.getD k (0, 0)).1 (ps.getD k (0, 0)).2 (nxP ps k).1 (nxP ps k).2
theorem pt_get {ps : List Pt} (h : allV ps = true) {j : Nat} (hj : j < ps.length) : ptB (ps.getD j (0, 0)).1 (ps.getD j (0, 0)).2 = true := List.all_eq_true.1 h (ps.getD j (0, 0)) (by simp [hj])
/-- Is an edge a segment? -/
def sgQ (ps : List Pt) (i : Nat) : Bool := segB (ps.getD i (0, 0)).1 (ps.getD i (0, 0)).2 (nxP ps i).1 (nxP ps i).2
theorem edR_is (ps : List Pt) (i k : Nat) : edR ps i k = bif sgQ ps i && sgQ ps k then edX ps i k else -1 := rfl
theorem sgQ_iff {ps : List Pt} (h : allV ps = true) {i : Nat} (hi : i < ps.length) : sgQ ps i = true ↔ ps.getD i (0, 0) ≠ nxP ps i := by
  unfold sgQ segB
  have h1 := pt_get h hi
  have h2 : ptB (nxP ps i).1 (nxP ps i).2 = true := pt_get h (nx_lt hi)
  rw [h1, h2]
  simp only [eqB, Bool.true_and, Bool.not_eq_true', ne_eq]
  generalize ps.getD i (0, 0) = p
  generalize nxP ps i = q
  obtain ⟨a, b⟩ := p
  obtain ⟨c, d⟩ := q
  simp
def pIss : List DArg → Option (Value × List Prop)
  | [.row m (.ints xs)] => some (.bool (issI (ptsA m xs)), [m * 2 ≤ xs.length, m ≤ 1000000000])
  | _ => none
theorem pIss_i {ds : List DArg} {v : Value} {C : List Prop} (h : pIss ds = some (v, C)) (hC : AllP C) : Res Try.prog 30 ds v := by
  unfold pIss at h
  split at h
  · rename_i m xs
    obtain ⟨rfl, rfl⟩ : _ ∧ _ := by simpa using h
    obtain ⟨_, h2⟩ := ptsA_spec hC.1
    exact res_pts1 (pre := []) (post := []) hC.1 (res_iIss (ptsA m xs) (by unfold Big; rw [h2]; exact hC.2.1))
  · cases h
def TSm : Tab := fun f ds => match f with
  | 30 => pIss ds
  | f => TIt f ds
theorem TSm_ok : TabOk Try.prog TSm := by
  intro f ds v C h hC
  unfold TSm at h
  (try split at h)
  all_goals first | with_reducible exact pIss_i h hC | with_reducible exact pIss_s h hC | exact TIt_ok _ _ _ _ h hC
end Go.Proofs.Ytcplfampcbekoaa
namespace Go.Proofs.Ytcplfampcbekoaa
set_option linter.all false
open Go.RowKit
/-- The vertex after the next. -/
def nx2 (ps : List Pt) (j : Nat) : Pt := ps.getD ((j + 2) % ps.length) (0, 0)
/-- Does the path turn left after an edge? -/
def cvE (ps : List Pt) (j : Nat) : Bool := decide (0 < crossI (ps.getD j (0, 0)).1 (ps.getD j (0, 0)).2 (nxP ps j).1 (nxP ps j).2 (nx2 ps j).1 (nx2 ps j).2)
def cvA (ps : List Pt) : Bool := allQ (cvE ps) 0 ps.length
def cvxI (ps : List Pt) : Bool := issI ps && cvA ps
def ECv : Env := mkE TSm R4 (fun _ => noL)
theorem ECv_ok : EnvOk Try.prog ECv := mkEOk TSm_ok R4_ok (fun _ _ _ => noL_good)
noncomputable def gc_cvx : Code := (rangesOf (codeOf Try.f23)).getD 0 .skip
def k_cvx : Ex → List Nat := keeps [1, 2, 9] [] [2]
def s_cvx (ps : List Pt) : Nat → St := fun i => ⟨[topV, .pointer (some ⟨1, 0, none⟩), .pointer (some ⟨2, 0, none⟩), topV, topV, topV, topV, topV, topV, .func (.func 48) #[] #[.pointer (some ⟨3, 0, none⟩)], topV, topV, topV, topV, topV, topV, topV, topV, topV, topV, topV, topV, topV, topV, topV, topV], [some ⟨.view, .ints (flat ps)⟩, some ⟨.box, .vals [.slice (some ⟨0, 0, none⟩) ps.length ps.length]⟩, some ⟨.box, .vals [.bool false]⟩, some ⟨.view, .vals [.slice (some ⟨0, 0, none⟩) ps.length ps.length]⟩]⟩
def g_cvx (ps : List Pt) : Nat → Prop := fun i => i ≤ ps.length ∧ ∀ k, k < i → cvE ps k = true
def re_cvx (ps : List Pt) : Ex := bif cvA ps then .normal else .ret
def rs_cvx (ps : List Pt) : St := bif cvA ps then ⟨[topV, topV, .pointer (some ⟨2, 0, none⟩), topV, topV, topV, topV, topV, topV, topV, topV, topV, topV, topV, topV, topV, topV, topV, topV, topV, topV, topV, topV, topV, topV, topV], [some ⟨.view, .ints (flat ps)⟩, some ⟨.box, .vals [.slice (some ⟨0, 0, none⟩) ps.length ps.length]⟩, some ⟨.box, .vals [.bool false]⟩, some ⟨.view, .vals [.slice (some ⟨0, 0, none⟩) ps.length ps.length]⟩]⟩ else ⟨[topV, topV, .pointer (some ⟨2, 0, none⟩), topV, topV, topV, topV, topV, topV, topV, topV, topV, topV, topV, topV, topV, topV, topV, topV, topV, topV, topV, topV, topV, topV, topV], [some ⟨.view, .ints (flat ps)⟩, some ⟨.box, .vals [.slice (some ⟨0, 0, none⟩) ps.length ps.length]⟩, some ⟨.box, .vals [.bool false]⟩, some ⟨.view, .vals [.slice (some ⟨0, 0, none⟩) ps.length ps.length]⟩]⟩
set_option maxRecDepth 100000 in
theorem tr_cvx (ps : List Pt) (i : Nat) : bodyR Try.prog ECv 30 12 noL noR (asgOf gc_cvx) (bodOf gc_cvx) ([10, 11].zip (encE ps i)) k_cvx 4 (s_cvx ps i) = .need (ptB (ps.getD i ((0 : Int), (0 : Int))).1 (ps.getD i ((0 : Int), (0 : Int))).2 = true) (.need (ptB (ps.getD ((i + (1 : Nat)) % ps.length) ((0 : Int), (0 : Int))).1 (ps.getD ((i + (1 : Nat)) % ps.length) ((0 : Int), (0 : Int))).2 = true) (.need (ptB ((flat ps).getD ((0 : Nat) + ((IntKind.i64.wrap ((↑i : Int) + (2 : Int))).tmod (↑ps.length : Int)).toNat * (2 : Nat)) (0 : Int)) ((flat ps).getD ((0 : Nat) + ((IntKind.i64.wrap ((↑i : Int) + (2 : Int))).tmod (↑ps.length : Int)).toNat * (2 : Nat) + (1 : Nat)) (0 : Int)) = true) (.need (¬(↑ps.length : Int) = (0 : Int)) (.need ((0 : Int) ≤ (IntKind.i64.wrap ((↑i : Int) + (2 : Int))).tmod (↑ps.length : Int) ∧ (IntKind.i64.wrap ((↑i : Int) + (2 : Int))).tmod (↑ps.length : Int) < (↑ps.length : Int)) (.need ((0 : Nat) + ((IntKind.i64.wrap ((↑i : Int) + (2 : Int))).tmod (↑ps.length : Int)).toNat * (2 : Nat) + (2 : Nat) ≤ (flat ps).length) (brT (decide (crossI (ps.getD i (0, 0)).1 (ps.getD i (0, 0)).2 (ps.getD ((i + 1) % ps.length) (0, 0)).1 (ps.getD ((i + 1) % ps.length) (0, 0)).2 ((flat ps).getD (0 + ((IntKind.i64.wrap ((↑i : Int) + 2)).tmod (↑ps.length : Int)).toNat * 2) 0) ((flat ps).getD (0 + ((IntKind.i64.wrap ((↑i : Int) + 2)).tmod (↑ps.length : Int)).toNat * 2 + 1) 0) ≤ 0)) (.leaf .ret ⟨[topV, topV, .pointer (some ⟨2, 0, none⟩), topV, topV, topV, topV, topV, topV, topV, topV, topV, topV, topV, topV, topV, topV, topV, topV, topV, topV, topV, topV, topV, topV, topV], [some ⟨.view, .ints (flat ps)⟩, some ⟨.box, .vals [.slice (some ⟨0, 0, none⟩) (ps.length) (ps.length)]⟩, some ⟨.box, .vals [.bool (false)]⟩, some ⟨.view, .vals [.slice (some ⟨0, 0, none⟩) (ps.length) (ps.length)]⟩]⟩) (.leaf .normal ⟨[topV, .pointer (some ⟨1, 0, none⟩), .pointer (some ⟨2, 0, none⟩), topV, topV, topV, topV, topV, topV, .func (Fn.func 48) #[] #[.pointer (some ⟨3, 0, none⟩)], topV, topV, topV, topV, topV, topV, topV, topV, topV, topV, topV, topV, topV, topV, topV, topV], [some ⟨.view, .ints (flat ps)⟩, some ⟨.box, .vals [.slice (some ⟨0, 0, none⟩) (ps.length) (ps.length)]⟩, some ⟨.box, .vals [.bool (false)]⟩, some ⟨.view, .vals [.slice (some ⟨0, 0, none⟩) (ps.length) (ps.length)]⟩]⟩))))))) := by kernel_rfl
/-- A round of this loop. -/
def Round_cvx (ps : List Pt) : Prop := ∀ i : Nat, g_cvx ps i → i < (ps).length → (bodyR Try.prog ECv 30 12 noL noR (asgOf gc_cvx) (bodOf gc_cvx) ([10, 11].zip (encE ps i)) k_cvx 4 (s_cvx ps i)).ok (RoundEndR 4 (s_cvx ps) (g_cvx ps) (re_cvx ps) (rs_cvx ps) i) (fun _ _ => False)
set_option maxRecDepth 100000 in
theorem gcode_cvx : gc_cvx = .rangeFunc (.tmp 9) ([10, 11] : List Nat).toArray (asgOf gc_cvx) (bodOf gc_cvx) := by kernel_rfl
def e_cvx (s : St) (k : Ex → St → Tree) : Option Tree := match Nat.beq s.tmps.length 26, pickL s.tmps [1, 2, 9], s.mem with
  | true, [.pointer (some ⟨1, 0, none⟩), .pointer (some ⟨2, 0, none⟩), .func (.func 48) ⟨[]⟩ ⟨[.pointer (some ⟨3, 0, none⟩)]⟩], [some ⟨.view, .ints xs⟩, some ⟨.box, .vals [.slice (some ⟨0, 0, none⟩) n _]⟩, some ⟨.box, .vals [.bool false]⟩, some ⟨.box, .vals [.slice (some ⟨0, 0, none⟩) n1 _]⟩] => some (needs [n1 = n, xs.length = n * 2, allV (ptsA n xs) = true, n ≤ 20] (brT (cvA (ptsA n xs)) (k .normal ⟨[topV, topV, .pointer (some ⟨2, 0, none⟩), topV, topV, topV, topV, topV, topV, topV, topV, topV, topV, topV, topV, topV, topV, topV, topV, topV, topV, topV, topV, topV, topV, topV], [some ⟨.view, .ints xs⟩, some ⟨.box, .vals [.slice (some ⟨0, 0, none⟩) n n]⟩, some ⟨.box, .vals [.bool false]⟩, some ⟨.view, .vals [.slice (some ⟨0, 0, none⟩) n n]⟩]⟩) (k .ret ⟨[topV, topV, .pointer (some ⟨2, 0, none⟩), topV, topV, topV, topV, topV, topV, topV, topV, topV, topV, topV, topV, topV, topV, topV, topV, topV, topV, topV, topV, topV, topV, topV], [some ⟨.view, .ints xs⟩, some ⟨.box, .vals [.slice (some ⟨0, 0, none⟩) n n]⟩, some ⟨.box, .vals [.bool false]⟩, some ⟨.view, .vals [.slice (some ⟨0, 0, none⟩) n n]⟩]⟩)))
  | _, _, _ => none
set_option maxRecDepth 100000 in
theorem round_cvx (ps : List Pt) (hv : allV ps = true) (h : ps.length ≤ 20) : Round_cvx ps := by
  rintro i ⟨_, hg⟩ hi
  rw [tr_cvx]
  have hm := nx_lt hi
  have e2 : (IntKind.i64.wrap ((i : Int) + 2)).tmod (ps.length : Int) = (((i + 2) % ps.length : Nat) : Int) := by
    rw [show (i : Int) + 2 = ((i + 2 : Nat) : Int) by omega, wr (by omega), Int.tmod_eq_emod_of_nonneg (by omega)]
    omega
  have h2 : (i + 2) % ps.length < ps.length := Nat.mod_lt _ (by omega)
  rw [e2]
  simp only [Int.toNat_natCast, Nat.zero_add, flat_get0, flat_get1, flat_length]
  refine ⟨pt_get hv hi, pt_get hv hm, pt_get hv h2, by omega, by omega, by omega, brT_ok.2 ⟨fun q => ?_, fun q => ?_⟩⟩
  · have q : crossI (ps.getD i (0, 0)).1 (ps.getD i (0, 0)).2 (nxP ps i).1 (nxP ps i).2 (nx2 ps i).1 (nx2 ps i).2 ≤ 0 := of_decide_eq_true q
    have hs : cvA ps = false := allQ_no hi (by unfold cvE; exact decide_eq_false (by omega))
    refine ⟨by unfold re_cvx; rw [hs]; rfl, [], ?_⟩
    unfold rs_cvx
    rw [hs]
    refine ⟨rfl, rfl, ?_, ?_⟩ <;> repeat' (first | exact True.intro | exact rfl | exact wv_top _ _ | exact fun _ => rfl | refine And.intro ?_ ?_)
  · have q : ¬ crossI (ps.getD i (0, 0)).1 (ps.getD i (0, 0)).2 (nxP ps i).1 (nxP ps i).2 (nx2 ps i).1 (nx2 ps i).2 ≤ 0 := of_decide_eq_false q
    have ho : cvE ps i = true := decide_eq_true (by omega)
    refine ⟨⟨by omega, fun k hk => ?_⟩, [], ?_⟩
    · rcases Nat.lt_or_ge k i with h1 | h1
      · exact hg k h1
      · obtain rfl : k = i := by omega
        exact ho
    · refine ⟨rfl, rfl, ?_, ?_⟩ <;> repeat' (first | exact True.intro | exact rfl | exact wv_top _ _ | exact fun _ => rfl | refine And.intro ?_ ?_)
attribute [local irreducible] bodyR
set_option maxRecDepth 100000 in
theorem lg_cvx : RangeE Try.prog e_cvx gc_cvx := by
  intro s k t F H hlt ht
  unfold e_cvx at hlt
  split at hlt
  rotate_left
  · cases hlt
  rename_i hlen hpick hmem
  obtain ⟨tmps, mem⟩ := s
  simp only at hlen hpick hmem
  subst hmem
  obtain rfl := Option.some.inj hlt
  obtain ⟨⟨rfl, h1, h2, h3, _⟩, ht2⟩ := needs_ok ht
  clear ht hlt
  obtain ⟨ps, rfl, rfl⟩ := even_flat h1
  rw [ptsA_flat] at ht2 h2
  refine ⟨re_cvx ps, rs_cvx ps, pick2k ht2, ?_⟩
  rw [gcode_cvx]
  refine range_det (enc := encE ps) (len := (ps).length) (St_of := s_cvx ps) (Good := g_cvx ps) (N := 4) (M := 4) (Kn := [0, 3]) (cap := [.pointer (some ⟨3, 0, none⟩)]) (kf := (k_cvx .normal)) (π := []) (fun _ => rfl) (fun _ => rfl) (fun i hg hlt => bodyR_ok mixed ECv_ok (noL_good) (noR_good) (round_cvx ps h2 h3 i hg hlt)) (entersB_res (by kernel_rfl)).1 rfl ?_ (fun ρ0 ρ B w lb h1 h2 => ed_iter ps (by omega) (s := (s_cvx ps 0).fs) (nb := 3) (nr := 0) (c := (ps).length) (Kn := [0, 3]) rfl rfl (by decide) (by decide) ρ0 ρ B w lb h1 h2) ?_ rfl (by decide) ?_ ⟨Nat.zero_le _, fun k hk => by omega⟩
  · intro n hn b hb
    simp only [List.mem_cons, List.not_mem_nil, or_false] at hn
    rcases hn with rfl | rfl <;> (obtain rfl := Option.some.inj hb; rfl)
  · rintro ⟨_, hg⟩
    have hq : cvA ps = true := allQ_all _ _ fun k _ h2 => hg k (by omega)
    refine ⟨by unfold re_cvx; rw [hq]; rfl, [], ?_⟩
    unfold rs_cvx
    rw [hq]
    refine ⟨rfl, rfl, ?_, ?_⟩ <;> repeat' (first | exact True.intro | exact rfl | exact wv_top _ _ | exact fun _ => rfl | refine And.intro ?_ ?_)
  · refine ⟨rfl, rfl, ?_, wvs_spread' [1, 2, 9] hlen rfl ?_⟩
    · repeat' (first | exact True.intro | exact rfl | exact wv_top _ _ | exact fun _ => rfl | assumption | exact Eq.symm (by assumption) | exact vI0 rfl | refine And.intro ?_ ?_)
    · rw [show pickL (viewS [0, 3] ⟨tmps, _⟩).tmps [1, 2, 9] = pickL tmps [1, 2, 9] from rfl, hpick]
      repeat' (first | exact True.intro | exact rfl | exact wv_top _ _ | exact fun _ => rfl | assumption | exact Eq.symm (by assumption) | exact vI0 rfl | refine And.intro ?_ ?_)
theorem Gr_cvx {fn : Func} (hf : Try.prog.funcs[23]? = some fn) : RangesGood Try.prog (rt1 9 e_cvx) (codeOf fn) := by
  obtain rfl := fn_is Try.func23 hf
  exact rt1_good (by kernel_rfl) lg_cvx
def GCv : FuncId → RT := fun f => match f with
  | 23 => rt1 9 e_cvx
  | _ => noR
def ECg : Env := withG ECv GCv
theorem ECg_ok : EnvOk Try.prog ECg := withG_ok ECv_ok (by
  intro f fn hf
  unfold GCv
  split
  all_goals first | with_reducible exact Gr_cvx hf | exact noR_good)
set_option maxRecDepth 100000 in
theorem tr_iCvx (ps : List Pt) : bodyV Try.prog ECg 30 12 23 [.row ps.length (.ints (flat ps))] = .need (ps.length * (2 : Nat) ≤ (List.drop (0 : Nat) (flat ps)).length) (.need (ps.length ≤ (1000000000 : Nat)) (brT (!issI (ptsA ps.length (List.drop 0 (flat ps)))) (.fin (.bool (false)) []) (.need (ps.length = ps.length) (.need ((flat ps).length = ps.length * (2 : Nat)) (.need (allV (ptsA ps.length (flat ps)) = true) (.need (ps.length ≤ (20 : Nat)) (brT (cvA (ptsA ps.length (flat ps))) (.fin (.bool (true)) []) (.fin (.bool (false)) [])))))))) := by kernel_rfl
theorem cv_ok2 {ps : List Pt} (h : issI ps = true) : allV ps = true ∧ ps.length ≤ 20 := by
  unfold issI okL at h
  simp only [Bool.and_eq_true, decide_eq_true_eq] at h
  exact ⟨h.1.2.1, h.1.2.2⟩
theorem res_iCvx (ps : List Pt) (h : Big ps) : Res Try.prog 23 [.row ps.length (.ints (flat ps))] (.bool (cvxI ps)) := by
  refine bodyV_res mixed ECg_ok (m := 30) (n := 12) rfl ?_
  rw [tr_iCvx]
  unfold Big at h
  simp only [List.drop_zero, ptsA_flat, flat_length]
  unfold cvxI
  rcases hs : issI ps with _ | _
  · simp [brT_ok, Tree.ok, h]
  · obtain ⟨h1, h2⟩ := cv_ok2 hs
    rcases hc : cvA ps with _ | _ <;> simp [brT_ok, Tree.ok, h, h1, h2]
def pCvx : List DArg → Option (Value × List Prop)
  | [.row m (.ints xs)] => some (.bool (cvxI (ptsA m xs)), [m * 2 ≤ xs.length, m ≤ 1000000000])
  | _ => none
theorem pCvx_ok {f : FuncId} (H : ∀ ps : List Pt, Big ps → Res Try.prog f [.row ps.length (.ints (flat ps))] (.bool (cvxI ps))) {ds : List DArg} {v : Value} {C : List Prop} (h : pCvx ds = some (v, C)) (hC : AllP C) : Res Try.prog f ds v := by
  unfold pCvx at h
  split at h
  · rename_i m xs
    obtain ⟨rfl, rfl⟩ : _ ∧ _ := by simpa using h
    obtain ⟨_, h2⟩ := ptsA_spec hC.1
    exact res_pts1 (pre := []) (post := []) hC.1 (H (ptsA m xs) (by unfold Big; rw [h2]; exact hC.2.1))
  · cases h
def TCv : Tab := fun f ds => match f with
  | 23 => pCvx ds
  | f => TSm f ds
theorem TCv_ok : TabOk Try.prog TCv := by
  intro f ds v C h hC
  unfold TCv at h
  (try split at h)
  all_goals first | with_reducible exact pCvx_ok res_iCvx h hC | with_reducible exact pCvx_ok res_sCvx h hC | exact TSm_ok _ _ _ _ h hC
def TCx : Tab := fun f ds => match f with
  | f => TCv f ds
theorem TCx_ok : TabOk Try.prog TCx := by
  intro f ds v C h hC
  unfold TCx at h
  (try split at h)
  all_goals first | with_reducible exact pCvx_ok res_SCvx h hC | exact TCv_ok _ _ _ _ h hC
end Go.Proofs.Ytcplfampcbekoaa
namespace Go.Proofs.Ytcplfampcbekoaa
set_option linter.all false
open Go.RowKit
/-- On which side of an edge is a point? -/
def lvE (ps : List Pt) (x y : Int) (j : Nat) : Int := cmpI (crossI (ps.getD j (0, 0)).1 (ps.getD j (0, 0)).2 (nxP ps j).1 (nxP ps j).2 x y) 0
/-- The least side of so many edges. -/
def lvA (ps : List Pt) (x y : Int) : Nat → Int
  | 0 => 1
  | i + 1 => if lvE ps x y i < lvA ps x y i then lvE ps x y i else lvA ps x y i
def ECl : Env := mkE TCx R4 (fun _ => noL)
theorem ECl_ok : EnvOk Try.prog ECl := mkEOk TCx_ok R4_ok (fun _ _ _ => noL_good)
noncomputable def gc_lcv : Code := (rangesOf (codeOf Try.f9)).getD 0 .skip
def k_lcv : Ex → List Nat := keeps [3, 5, 17] [] []
def s_lcv (ps : List Pt) (x y : Int) : Nat → St := fun i => ⟨[topV, topV, topV, .pointer (some ⟨2, 0, none⟩), topV, .pointer (some ⟨3, 0, none⟩), topV, topV, topV, topV, topV, topV, topV, topV, topV, topV, topV, .func (.func 48) #[] #[.pointer (some ⟨4, 0, none⟩)], topV, topV, topV, topV, topV, topV, topV, topV, topV, topV, topV, topV], [some ⟨.view, .ints (flat ps)⟩, none, some ⟨.box, .vals [.int .i64 x, .int .i64 y]⟩, some ⟨.box, .vals [.int .i64 (lvA ps x y i)]⟩, some ⟨.view, .vals [.slice (some ⟨0, 0, none⟩) ps.length ps.length]⟩]⟩
def g_lcv (ps : List Pt) (x y : Int) : Nat → Prop := fun i => i ≤ ps.length
def re_lcv (ps : List Pt) (x y : Int) : Ex := .normal
def rs_lcv (ps : List Pt) (x y : Int) : St := ⟨[topV, topV, topV, .pointer (some ⟨2, 0, none⟩), topV, .pointer (some ⟨3, 0, none⟩), topV, topV, topV, topV, topV, topV, topV, topV, topV, topV, topV, topV, topV, topV, topV, topV, topV, topV, topV, topV, topV, topV, topV, topV], [some ⟨.view, .ints (flat ps)⟩, none, some ⟨.box, .vals [.int .i64 x, .int .i64 y]⟩, some ⟨.box, .vals [.int .i64 (lvA ps x y ps.length)]⟩, some ⟨.view, .vals [.slice (some ⟨0, 0, none⟩) ps.length ps.length]⟩]⟩
set_option maxRecDepth 100000 in
theorem tr_lcv (ps : List Pt) (x y : Int) (i : Nat) : bodyR Try.prog ECl 30 12 noL noR (asgOf gc_lcv) (bodOf gc_lcv) ([18, 19].zip (encE ps i)) k_lcv 5 (s_lcv ps x y i) = .need (ptB (ps.getD i ((0 : Int), (0 : Int))).1 (ps.getD i ((0 : Int), (0 : Int))).2 = true) (.need (ptB (ps.getD ((i + (1 : Nat)) % ps.length) ((0 : Int), (0 : Int))).1 (ps.getD ((i + (1 : Nat)) % ps.length) ((0 : Int), (0 : Int))).2 = true) (.need (ptB x y = true) (.leaf .normal ⟨[topV, topV, topV, .pointer (some ⟨2, 0, none⟩), topV, .pointer (some ⟨3, 0, none⟩), topV, topV, topV, topV, topV, topV, topV, topV, topV, topV, topV, .func (Fn.func 48) #[] #[.pointer (some ⟨4, 0, none⟩)], topV, topV, topV, topV, topV, topV, topV, topV, topV, topV, topV, topV], [some ⟨.view, .ints (flat ps)⟩, none, some ⟨.box, .vals [.int .i64 (x), .int .i64 (y)]⟩, some ⟨.box, .vals [.int .i64 (if cmpI (crossI (ps.getD i (0, 0)).1 (ps.getD i (0, 0)).2 (ps.getD ((i + 1) % ps.length) (0, 0)).1 (ps.getD ((i + 1) % ps.length) (0, 0)).2 x y) 0 < lvA ps x y i then cmpI (crossI (ps.getD i (0, 0)).1 (ps.getD i (0, 0)).2 (ps.getD ((i + 1) % ps.length) (0, 0)).1 (ps.getD ((i + 1) % ps.length) (0, 0)).2 x y) 0 else lvA ps x y i)]⟩, some ⟨.view, .vals [.slice (some ⟨0, 0, none⟩) (ps.length) (ps.length)]⟩]⟩))) := by kernel_rfl
/-- A round of this loop. -/
def Round_lcv (ps : List Pt) (x y : Int) : Prop := ∀ i : Nat, g_lcv ps x y i → i < (ps).length → (bodyR Try.prog ECl 30 12 noL noR (asgOf gc_lcv) (bodOf gc_lcv) ([18, 19].zip (encE ps i)) k_lcv 5 (s_lcv ps x y i)).ok (RoundEndR 5 (s_lcv ps x y) (g_lcv ps x y) (re_lcv ps x y) (rs_lcv ps x y) i) (fun _ _ => False)
set_option maxRecDepth 100000 in
theorem gcode_lcv : gc_lcv = .rangeFunc (.tmp 17) ([18, 19] : List Nat).toArray (asgOf gc_lcv) (bodOf gc_lcv) := by kernel_rfl
def e_lcv (s : St) (k : Ex → St → Tree) : Option Tree := match Nat.beq s.tmps.length 30, pickL s.tmps [3, 5, 17], s.mem with
  | true, [.pointer (some ⟨2, 0, none⟩), .pointer (some ⟨3, 0, none⟩), .func (.func 48) ⟨[]⟩ ⟨[.pointer (some ⟨4, 0, none⟩)]⟩], [some ⟨.view, .ints xs⟩, none, some ⟨.box, .vals [.int .i64 x, .int .i64 y]⟩, some ⟨.box, .vals [.int .i64 a0]⟩, some ⟨.box, .vals [.slice (some ⟨0, 0, none⟩) n _]⟩] => some (needs [a0 = 1, xs.length = n * 2, allV (ptsA n xs) = true, n ≤ 20, ptB x y = true] (k .normal ⟨[topV, topV, topV, .pointer (some ⟨2, 0, none⟩), topV, .pointer (some ⟨3, 0, none⟩), topV, topV, topV, topV, topV, topV, topV, topV, topV, topV, topV, topV, topV, topV, topV, topV, topV, topV, topV, topV, topV, topV, topV, topV], [some ⟨.view, .ints xs⟩, none, some ⟨.box, .vals [.int .i64 x, .int .i64 y]⟩, some ⟨.box, .vals [.int .i64 (lvA (ptsA n xs) x y n)]⟩, some ⟨.view, .vals [.slice (some ⟨0, 0, none⟩) n n]⟩]⟩))
  | _, _, _ => none
set_option maxRecDepth 100000 in
theorem round_lcv (ps : List Pt) (x y : Int) (hv : allV ps = true) (h : ps.length ≤ 20) (hp : ptB x y = true) : Round_lcv ps x y := by
  intro i hg hi
  rw [tr_lcv]
  have hm := nx_lt hi
  refine ⟨pt_get hv hi, pt_get hv hm, hp, ?_⟩
  refine ⟨by show i + 1 ≤ ps.length; omega, [], ?_⟩
  refine ⟨rfl, rfl, ?_, ?_⟩ <;> repeat' (first | exact True.intro | exact rfl | exact wv_top _ _ | exact fun _ => rfl | refine And.intro ?_ ?_)
attribute [local irreducible] bodyR
set_option maxRecDepth 100000 in
theorem lg_lcv : RangeE Try.prog e_lcv gc_lcv := by
  intro s k t F H hlt ht
  unfold e_lcv at hlt
  split at hlt
  rotate_left
  · cases hlt
  rename_i hlen hpick hmem
  obtain ⟨tmps, mem⟩ := s
  simp only at hlen hpick hmem
  subst hmem
  obtain rfl := Option.some.inj hlt
  obtain ⟨⟨rfl, h1, h2, h3, h4, _⟩, ht2⟩ := needs_ok ht
  clear ht hlt
  obtain ⟨ps, rfl, rfl⟩ := even_flat h1
  rw [ptsA_flat] at ht2 h2
  rename_i px py cp0 rr
  refine ⟨re_lcv ps px py, rs_lcv ps px py, ht2, ?_⟩
  rw [gcode_lcv]
  refine range_det (enc := encE ps) (len := (ps).length) (St_of := s_lcv ps px py) (Good := g_lcv ps px py) (N := 5) (M := 5) (Kn := [0, 4]) (cap := [.pointer (some ⟨4, 0, none⟩)]) (kf := (k_lcv .normal)) (π := []) (fun _ => rfl) (fun _ => rfl) (fun i hg hlt => bodyR_ok mixed ECl_ok (noL_good) (noR_good) (round_lcv ps px py h2 h3 h4 i hg hlt)) (entersB_res (by kernel_rfl)).1 rfl ?_ (fun ρ0 ρ B w lb h1 h2 => ed_iter ps (by omega) (s := (s_lcv ps px py 0).fs) (nb := 4) (nr := 0) (c := (ps).length) (Kn := [0, 4]) rfl rfl (by decide) (by decide) ρ0 ρ B w lb h1 h2) ?_ rfl (by decide) ?_ (Nat.zero_le _)
  · intro n hn b hb
    simp only [List.mem_cons, List.not_mem_nil, or_false] at hn
    rcases hn with rfl | rfl <;> (obtain rfl := Option.some.inj hb; rfl)
  · exact fun _ => ⟨rfl, [], by refine ⟨rfl, rfl, ?_, ?_⟩ <;> repeat' (first | exact True.intro | exact rfl | exact wv_top _ _ | exact fun _ => rfl | refine And.intro ?_ ?_)⟩
  · refine ⟨rfl, rfl, ?_, wvs_spread' [3, 5, 17] hlen rfl ?_⟩
    · repeat' (first | exact True.intro | exact rfl | exact wv_top _ _ | exact fun _ => rfl | assumption | exact Eq.symm (by assumption) | exact vI0 rfl | refine And.intro ?_ ?_)
    · rw [show pickL (viewS [0, 4] ⟨tmps, _⟩).tmps [3, 5, 17] = pickL tmps [3, 5, 17] from rfl, hpick]
      repeat' (first | exact True.intro | exact rfl | exact wv_top _ _ | exact fun _ => rfl | assumption | exact Eq.symm (by assumption) | exact vI0 rfl | refine And.intro ?_ ?_)
theorem Gr_lcv {fn : Func} (hf : Try.prog.funcs[9]? = some fn) : RangesGood Try.prog (rt1 17 e_lcv) (codeOf fn) := by
  obtain rfl := fn_is Try.func9 hf
  exact rt1_good (by kernel_rfl) lg_lcv
def GCl : FuncId → RT := fun f => match f with
  | 9 => rt1 17 e_lcv
  | _ => noR
def EClg : Env := withG ECl GCl
theorem EClg_ok : EnvOk Try.prog EClg := withG_ok ECl_ok (by
  intro f fn hf
  unfold GCl
  split
  all_goals first | with_reducible exact Gr_lcv hf | exact noR_good)
/-- Where a point lies. -/
def lcvV (ps : List Pt) (x y : Int) : Int := bif cvxI ps && ptB x y then lvA ps x y ps.length else 2
theorem cvx_ok {ps : List Pt} (h : cvxI ps = true) : allV ps = true ∧ ps.length ≤ 20 := by
  unfold cvxI at h
  rw [Bool.and_eq_true] at h
  exact cv_ok2 h.1
set_option maxRecDepth 100000 in
theorem tr_iLcv (ps : List Pt) (x y : Int) : bodyV Try.prog EClg 30 12 9 [.row ps.length (.ints (flat ps)), .v (.agg ⟨[.int .i64 x, .int .i64 y]⟩)] = .need (ps.length * (2 : Nat) ≤ (List.drop (0 : Nat) (flat ps)).length) (.need (ps.length ≤ (1000000000 : Nat)) (brT (!cvxI (ptsA ps.length (List.drop 0 (flat ps)))) (.fin (.int .i64 (2)) []) (brT (!ptB x y) (.fin (.int .i64 (2)) []) (.need ((1 : Int) = (1 : Int)) (.need ((flat ps).length = ps.length * (2 : Nat)) (.need (allV (ptsA ps.length (flat ps)) = true) (.need (ps.length ≤ (20 : Nat)) (.need (ptB x y = true) (.fin (.int .i64 (lvA (ptsA ps.length (flat ps)) x y ps.length)) []))))))))) := by kernel_rfl
theorem res_iLcv (x y : Int) (ps : List Pt) (h : Big ps) : Res Try.prog 9 [.row ps.length (.ints (flat ps)), .v (.agg ⟨[.int .i64 x, .int .i64 y]⟩)] (.int .i64 (lcvV ps x y)) := by
  refine bodyV_res mixed EClg_ok (m := 30) (n := 12) rfl ?_
  rw [tr_iLcv]
  unfold Big at h
  simp only [List.drop_zero, ptsA_flat, flat_length]
  unfold lcvV
  rcases hs : cvxI ps with _ | _
  · simp [brT_ok, Tree.ok, h]
  · obtain ⟨h1, h2⟩ := cvx_ok hs
    rcases hc : ptB x y with _ | _ <;> simp [brT_ok, Tree.ok, h, h1, h2]
end Go.Proofs.Ytcplfampcbekoaa
namespace Go.Proofs.Ytcplfampcbekoaa
set_option linter.all false
open Go.RowKit
def THa : Tab := orT TSb TMh
theorem THa_ok : TabOk Try.prog THa := orT_ok TSb_ok TMh_ok
def EHa : Env := mkE THa RHw (fun _ => noL)
theorem EHa_ok : EnvOk Try.prog EHa := mkEOk THa_ok RHw_ok (fun _ _ _ => noL_good)
set_option maxRecDepth 100000 in
theorem tr_iHa (ps : List Pt) : bodyV Try.prog EHa 30 12 10 [.row ps.length (.ints (flat ps))] = brT (decide ((↑ps.length : Int) ≤ 20)) (.need (ps.length * (2 : Nat) ≤ (List.drop (0 : Nat) (flat ps)).length) (.need (ps.length ≤ (1000000000 : Nat)) (brT (!allV (ptsA ps.length (List.drop 0 (flat ps)))) (.fin (.int .i64 (-1)) []) (.need (ps.length * (2 : Nat) ≤ (List.drop (0 : Nat) (flat ps)).length) (.need (ps.length ≤ (1000000000 : Nat)) (.need ((hulV (ptsA ps.length (List.drop (0 : Nat) (flat ps)))).length * (2 : Nat) ≤ (List.drop (0 : Nat) (flat (hulV (ptsA ps.length (List.drop (0 : Nat) (flat ps)))))).length) (.need (allV (ptsA (hulV (ptsA ps.length (List.drop (0 : Nat) (flat ps)))).length (List.drop (0 : Nat) (flat (hulV (ptsA ps.length (List.drop (0 : Nat) (flat ps))))))) = true) (.need ((hulV (ptsA ps.length (List.drop (0 : Nat) (flat ps)))).length ≤ (1000 : Nat)) (.fin (.int .i64 (sgA (ptsA (hulV (ptsA ps.length (List.drop 0 (flat ps)))).length (List.drop 0 (flat (hulV (ptsA ps.length (List.drop 0 (flat ps))))))) (hulV (ptsA ps.length (List.drop 0 (flat ps)))).length)) []))))))))) (.fin (.int .i64 (-1)) []) := by kernel_rfl
def haV (ps : List Pt) : Int := bif okL ps then sgA (hulV ps) (hulV ps).length else -1
theorem okL_split {ps : List Pt} (h : okL ps = false) : ps.length ≤ 20 → allV ps = false := fun hl => by
  unfold okL at h
  simpa [hl] using h
theorem allV_hulV (ps : List Pt) : allV (hulV ps) = true := allV_hul (spV_all ps)
theorem res_iHa (ps : List Pt) (h : Big ps) : Res Try.prog 10 [.row ps.length (.ints (flat ps))] (iv (haV ps)) := by
  refine bodyV_res mixed EHa_ok (m := 30) (n := 12) rfl ?_
  rw [tr_iHa]
  unfold Big at h
  simp only [List.drop_zero, ptsA_flat, flat_length]
  have hV := hulV_len ps
  unfold haV
  rcases ho : okL ps with _ | _
  · refine brT_ok.2 ⟨fun hl => ⟨Nat.le_refl _, h, ?_⟩, fun _ => rfl⟩
    rw [okL_split ho (by have := of_decide_eq_true hl; omega)]
    exact rfl
  · obtain ⟨h1, h2⟩ := okL_20 ho
    refine brT_ok.2 ⟨fun hl => ⟨Nat.le_refl _, h, ?_⟩, fun hl => by have := of_decide_eq_false hl; omega⟩
    rw [h1]
    exact ⟨Nat.le_refl _, h, Nat.le_refl _, allV_hulV ps, by omega, rfl⟩
def pHa : List DArg → Option (Value × List Prop)
  | [.row m (.ints xs)] => some (iv (haV (ptsA m xs)), [m * 2 ≤ xs.length, m ≤ 1000000000])
  | _ => none
theorem pHa_i {ds : List DArg} {v : Value} {C : List Prop} (h : pHa ds = some (v, C)) (hC : AllP C) : Res Try.prog 10 ds v := by
  unfold pHa at h
  split at h
  · rename_i m xs
    obtain ⟨rfl, rfl⟩ : _ ∧ _ := by simpa using h
    obtain ⟨_, h2⟩ := ptsA_spec hC.1
    exact res_pts1 (pre := []) (post := []) hC.1 (res_iHa _ (by unfold Big; rw [h2]; exact hC.2.1))
  · cases h
end Go.Proofs.Ytcplfampcbekoaa
namespace Go.Proofs.Ytcplfampcbekoaa
set_option linter.all false
open Go.RowKit
theorem okL_hul {ps : List Pt} (h : okL ps = true) : okL (hulV ps) = true := by
  obtain ⟨h1, h2⟩ := okL_20 h
  rw [hulV_yes h]
  have l := hul_le (srtL_asc ps)
  have l2 := srtL_le ps
  unfold okL
  rw [allV_hul (allV_srt h1), decide_eq_true (by omega)]
  rfl
end Go.Proofs.Ytcplfampcbekoaa
namespace Go.Proofs.Ytcplfampcbekoaa
set_option linter.all false
open Go.RowKit
theorem no_on {a b v : Pt} (h : 0 < crP a b v) : hasB a.1 a.2 b.1 b.2 v.1 v.2 = false := by
  refine hasB_no ?_
  rw [beq_eq_false_iff_ne]
  have e : (a.1 - v.1) * (b.2 - v.2) - (a.2 - v.2) * (b.1 - v.1) = crP a b v := by unfold crP crossI; grind
  omega
theorem no_dv {a b c d e f g h : Int} (h1 : 0 ≤ crossI a b c d e f) (h2 : 0 ≤ crossI a b c d g h) : dvB a b c d e f g h = false := by
  unfold dvB
  have k : ∀ x : Int, 0 ≤ x → cmpI x 0 = 0 ∨ cmpI x 0 = 1 := fun x hx => by
    unfold cmpI
    split
    · omega
    · split <;> simp
  rcases k _ h1 with k1 | k1 <;> rcases k _ h2 with k2 | k2 <;> rw [k1, k2] <;> decide
theorem asc_one {l : List Pt} {p : Pt} (ha : Asc l) (h : ∀ z ∈ l, z = p) (hp : p ∈ l) : l.length = 1 := by
  match l, ha, h, hp with
  | [_], _, _, _ => rfl
  | x :: y :: r, ha, h, _ =>
    have h1 := (List.pairwise_cons.1 ha).1 y (by simp)
    rw [h x (by simp), h y (by simp)] at h1
    exact (oP_irr h1).elim
def relP (a b c d : Pt) : Int := relA a.1 a.2 b.1 b.2 c.1 c.2 d.1 d.2
/-- Two edges, each with the other on its left: apart. -/
theorem rel_apart {a b c d : Pt} (h1 : 0 < crP a b c) (h2 : 0 < crP a b d) (h3 : 0 < crP c d a) (h4 : 0 < crP c d b) : relP a b c d = 0 := by
  unfold relP relA
  have e : ceS a.1 a.2 b.1 b.2 c.1 c.2 d.1 d.2 = [] := by
    rw [List.eq_nil_iff_forall_not_mem]
    intro z hz
    obtain ⟨q1, q2⟩ := ce_mem.1 hz
    unfold onB at q1
    simp only [Bool.and_eq_true] at q1
    rcases q2 with rfl | rfl | rfl | rfl
    · rw [show hasB c.1 c.2 d.1 d.2 a.1 a.2 = false from no_on h3] at q1; exact absurd q1.2 (by decide)
    · rw [show hasB c.1 c.2 d.1 d.2 b.1 b.2 = false from no_on h4] at q1; exact absurd q1.2 (by decide)
    · rw [show hasB a.1 a.2 b.1 b.2 c.1 c.2 = false from no_on h1] at q1; exact absurd q1.1 (by decide)
    · rw [show hasB a.1 a.2 b.1 b.2 d.1 d.2 = false from no_on h2] at q1; exact absurd q1.1 (by decide)
  rw [e, no_dv (Int.le_of_lt h1) (Int.le_of_lt h2)]
  rfl
/-- Two edges, one behind the other: they touch. -/
theorem rel_touch {a b d : Pt} (h1 : 0 < crP a b d) : relP a b b d = 1 := by
  unfold relP relA
  have h2 : 0 < crP b d a := by
    have : crP b d a = crP a b d := by unfold crP crossI; grind
    omega
  have e : (ceS a.1 a.2 b.1 b.2 b.1 b.2 d.1 d.2).length = 1 := by
    refine asc_one (p := b) (ce_asc ..) (fun z hz => ?_) (ce_mem.2 ⟨by unfold onB; rw [hasB_b, hasB_a]; rfl, .inr (.inl rfl)⟩)
    obtain ⟨q1, q2⟩ := ce_mem.1 hz
    unfold onB at q1
    simp only [Bool.and_eq_true] at q1
    rcases q2 with rfl | rfl | rfl | rfl
    · rw [show hasB b.1 b.2 d.1 d.2 a.1 a.2 = false from no_on h2] at q1; exact absurd q1.2 (by decide)
    · rfl
    · rfl
    · rw [show hasB a.1 a.2 b.1 b.2 d.1 d.2 = false from no_on h1] at q1; exact absurd q1.1 (by decide)
  rw [e]
  rfl
theorem edR_P {h : List Pt} {i k : Nat} (hs : sgQ h i = true) (hk : sgQ h k = true) : edR h i k = relP (h.getD i (0, 0)) (nxP h i) (h.getD k (0, 0)) (nxP h k) := by
  rw [edR_is, hs, hk]
  rfl
/-- Strictly convex rings are simple. -/
theorem cvh_simple {h : List Pt} (H : CvH h) (ho : okL h = true) : issI h = true := by
  unfold issI
  rw [ho, decide_eq_true H.three]
  simp only [Bool.true_and]
  have hv : allV h = true := by
    unfold okL at ho
    simp only [Bool.and_eq_true] at ho
    exact ho.1
  have sg : ∀ i, i < h.length → sgQ h i = true := fun i hi => (sgQ_iff hv hi).2 fun e => (nx_ne H hi).1 (nd_inj H.nodup hi (nx_lt hi) e).symm
  refine allQ_all _ _ fun i _ hi => allQ_all _ _ fun k _ hk => ?_
  have hi : i < h.length := by omega
  have hk : k < h.length := by omega
  unfold okE
  by_cases hlt : i < k
  rotate_left
  · rw [decide_eq_false hlt]; rfl
  rw [decide_eq_true hlt, edR_P (sg i hi) (sg k hk)]
  simp only [Bool.not_true, Bool.false_or, beq_iff_eq]
  obtain ⟨p1, p2, p3⟩ := nx_ne H hi
  obtain ⟨r1, r2, r3⟩ := nx_ne H hk
  have mi := nx_lt hi
  have mk := nx_lt hk
  have ei : nxP h i = h.getD ((i + 1) % h.length) (0, 0) := rfl
  have ek : nxP h k = h.getD ((k + 1) % h.length) (0, 0) := rfl
  unfold nbQ
  by_cases c1 : k = i + 1
  · rw [decide_eq_true c1]
    have e1 : (i + 1) % h.length = k := by rw [← c1, Nat.mod_eq_of_lt hk]
    have e2 : (k + 1) % h.length = (i + 2) % h.length := by rw [c1]
    have l := cvh_left H hi mk (by rw [e2]; exact p2) (by rw [e2]; exact p3)
    rw [← ek] at l
    have e3 : h.getD k (0, 0) = nxP h i := by rw [ei, e1]
    rw [e3]
    exact rel_touch l
  · rw [decide_eq_false c1]
    by_cases c2 : (k + 1) % h.length = i
    · rw [decide_eq_true c2]
      have e1 : (i + 1) % h.length = (k + 2) % h.length := by
        rw [← c2, Nat.mod_add_mod]
      have l := cvh_left H hk mi (by rw [e1]; exact r2) (by rw [e1]; exact r3)
      rw [← ei] at l
      have e3 : nxP h k = h.getD i (0, 0) := by rw [ek, c2]
      rw [e3] at l ⊢
      have := rel_touch l
      unfold relP at this ⊢
      rw [relA_comm]
      exact this
    · rw [decide_eq_false c2]
      have e0 : (i + 1) % h.length = i + 1 := Nat.mod_eq_of_lt (by omega)
      have n1 : k ≠ (i + 1) % h.length := by omega
      have n2 : (k + 1) % h.length ≠ (i + 1) % h.length := by
        intro e
        have hk1 : (k + 1) % h.length = if k + 1 = h.length then 0 else k + 1 := by
          split
          · rename_i q; rw [q, Nat.mod_self]
          · exact Nat.mod_eq_of_lt (by omega)
        rw [e0, hk1] at e
        split at e <;> omega
      have l1 := cvh_left H hi hk (by omega) n1
      have l2 := cvh_left H hi mk c2 n2
      have l3 := cvh_left H hk hi (by omega) (by omega)
      have l4 := cvh_left H hk mi (by omega) (fun e => n2 e.symm)
      rw [← ek] at l2
      rw [← ei] at l4
      exact rel_apart l1 l2 l3 l4
end Go.Proofs.Ytcplfampcbekoaa
namespace Go.Proofs.Ytcplfampcbekoaa
set_option linter.all false
open Go.RowKit
def adP (p v : Pt) : Pt := (p.1 + v.1, p.2 + v.2)
/-- All points are on the left of a line through p. -/
def SupP (S : Pt → Prop) (d p : Pt) : Prop := ∀ q, S q → 0 ≤ cr2 d (dif q p)
def AftP (l : List Pt) (d : Pt) : Prop := ∀ x ∈ l, 0 ≤ cr2 x d
def AftS (l : List Pt) (d : Pt) : Prop := ∀ x ∈ l, 0 < cr2 x d
/-- The sides of a chain from p on, after a side. -/
def LCh (S : Pt → Prop) : List Pt → Pt → List Pt → Prop
  | l, p, [] => S p ∧ ∀ d, posV d → AftP l d → SupP S d p
  | l, p, v :: vs => S p ∧ posV v ∧ AftS l v ∧ (∀ d, posV d → AftP l d → 0 ≤ cr2 d v → SupP S d p) ∧ LCh S [v] (adP p v) vs
def cumP : Pt → List Pt → List Pt
  | p, [] => [p]
  | p, v :: vs => p :: cumP (adP p v) vs
def endP : Pt → List Pt → Pt
  | p, [] => p
  | p, v :: vs => endP (adP p v) vs
def sdL : List Pt → List Pt
  | a :: b :: t => dif b a :: sdL (b :: t)
  | _ => []
def smS (S T : Pt → Prop) : Pt → Prop := fun q => ∃ a b, S a ∧ T b ∧ q = adP a b
theorem posV_add {u v : Pt} (hu : posV u) (hv : posV v) : posV (adP u v) := by
  unfold posV adP at *
  simp only
  omega
theorem cr2_anti (u v : Pt) : cr2 u v = - cr2 v u := by unfold cr2; grind
theorem cr2_self (u : Pt) : cr2 u u = 0 := by unfold cr2; grind
theorem cr2_addr (d u v : Pt) : cr2 d (adP u v) = cr2 d u + cr2 d v := by unfold cr2 adP; simp only; grind
theorem cr2_addl (u v d : Pt) : cr2 (adP u v) d = cr2 u d + cr2 v d := by unfold cr2 adP; simp only; grind
theorem ad_dif (p q : Pt) : adP p (dif q p) = q := by unfold dif adP; ext <;> simp <;> omega
theorem LCh.at {S : Pt → Prop} : ∀ {u : List Pt} {l : List Pt} {p : Pt}, LCh S l p u → S p
  | [], _, _, h => h.1
  | _ :: _, _, _, h => h.1
theorem aft_tr {x u d : Pt} (hx : posV x) (hu : posV u) (hd : posV d) (h1 : 0 ≤ cr2 x u) (h2 : 0 ≤ cr2 u d) : 0 ≤ cr2 x d := (cr_tr hx hu hd h1 h2).1
theorem Cvx.drop : ∀ {X Y : List Pt}, Cvx (X ++ Y) → Cvx Y
  | [], _, h => h
  | _ :: _, _, h => Cvx.drop (Cvx.tail h)
theorem Lft.drop {S : Pt → Prop} : ∀ {X Y : List Pt}, Lft S (X ++ Y) → Lft S Y
  | [], _, h => h
  | _ :: _, _, h => Lft.drop (Lft.tail h)
theorem Dsc.drop : ∀ {X Y : List Pt}, Dsc (X ++ Y) → Dsc Y
  | [], _, h => h
  | _ :: _, _, h => Dsc.drop (Dsc.tail h)
def lsd : List Pt → Pt → List Pt
  | [], _ => []
  | x :: _, p => [dif p x]
theorem crP_cr2 (x p q : Pt) : crP x p q = cr2 (dif p x) (dif q p) := by unfold crP crossI cr2 dif; simp only; grind
theorem crP_cr2' (x p q : Pt) : crP x p q = cr2 (dif p x) (dif q x) := by unfold crP crossI cr2 dif; simp only
theorem cr2_neg (u a b : Pt) : cr2 u (dif a b) = cr2 (dif b a) u := by unfold cr2 dif; simp only; grind
theorem plk (u v d w : Pt) : cr2 u v * cr2 d w = cr2 d v * cr2 u w + cr2 u d * cr2 v w := by unfold cr2; grind
theorem nn_of_mul {D x : Int} (hD : 0 < D) (h : 0 ≤ D * x) : 0 ≤ x := by
  rcases Int.lt_or_le x 0 with c | c
  · have := Int.mul_neg_of_pos_of_neg hD c
    omega
  · exact c
/-- The sides of a chain. -/
theorem lch_of {S : Pt → Prop} : ∀ (l : List Pt) (p : Pt) (R0 : List Pt), ChI S ((p :: l).reverse ++ R0) → LCh S (lsd R0 p) p (sdL (p :: l))
  | [], p, [], h => by
    refine ⟨h.mem p (by simp), fun d hd ha q hq => ?_⟩
    obtain ⟨m, h1, h2⟩ := h.top
    obtain ⟨n, k1, k2⟩ := h.bot
    simp at h1 k1
    subst h1 k1
    have : q = p := by
      rcases h2 q hq with e | e
      · exact e
      · rcases k2 q hq with e' | e'
        · exact e'
        · exact (oP_asym e e').elim
    subst this
    unfold cr2 dif
    simp
  | [], p, x :: R0, h => by
    have hl := h.lft
    have hd0 := h.dsc
    simp only [List.reverse_cons, List.reverse_nil, List.nil_append, List.cons_append] at hl hd0 h
    refine ⟨h.mem p (by simp), fun d hd ha q hq => ?_⟩
    obtain ⟨m, h1, h2⟩ := h.top
    simp at h1
    subst h1
    have a1 : 0 ≤ cr2 (dif p x) d := ha _ (by simp [lsd])
    have a2 : 0 ≤ cr2 (dif p x) (dif q p) := by rw [← crP_cr2]; exact hl.1 q hq
    rw [cr2_neg] at a2 ⊢
    rcases h2 q hq with rfl | e
    · unfold cr2 dif
      simp
    · exact aft_tr (plt_pos.1 e) (plt_pos.1 (hd0.lt (by simp))) hd a2 a1
  | q :: l, p, R0, h => by
    have hS : S p := h.mem p (by simp)
    have e0 : (p :: q :: l).reverse ++ R0 = l.reverse ++ (q :: p :: R0) := by simp
    have e1 : (p :: q :: l).reverse ++ R0 = (q :: l).reverse ++ (p :: R0) := by simp
    have hd0 := h.dsc
    have hl := h.lft
    have hc := h.cvx
    have ih := lch_of l q (p :: R0) (by rw [← e1]; exact h)
    rw [e0] at hd0 hl hc
    have hd1 := hd0.drop
    have hl1 := hl.drop
    have hc1 := hc.drop
    have hv : posV (dif q p) := plt_pos.1 (hd1.lt (by simp))
    refine ⟨hS, hv, ?_, ?_, ?_⟩
    · match R0, hc1 with
      | [], _ => intro x hx; simp [lsd] at hx
      | y :: _, hc1 =>
        intro x hx
        rw [lsd, List.mem_singleton] at hx
        subst hx
        rw [← crP_cr2]
        exact hc1.1
    · intro d hd ha h0 z hz
      have a1 : 0 ≤ cr2 (dif q p) (dif z p) := by rw [← crP_cr2']; exact hl1.1 z hz
      match R0, hl1, hd1, hc1, ha, e0, h with
      | [], _, _, _, _, e0, h =>
        obtain ⟨m, h1, h2⟩ := h.bot
        rw [e0] at h1
        simp at h1
        subst h1
        rcases h2 z hz with rfl | e
        · unfold cr2 dif
          simp
        · exact aft_tr hd hv (plt_pos.1 e) h0 a1
      | x :: R1, hl1, hd1, hc1, ha, _, _ =>
        have a2 : 0 ≤ cr2 (dif p x) (dif z p) := by rw [← crP_cr2]; exact hl1.2.1 z hz
        have a3 : 0 ≤ cr2 (dif p x) d := ha _ (by simp [lsd])
        have a4 : 0 < cr2 (dif p x) (dif q p) := by rw [← crP_cr2]; exact hc1.1
        refine nn_of_mul a4 ?_
        rw [plk]
        have := Int.mul_nonneg h0 a2
        have := Int.mul_nonneg a3 a1
        omega
    · rw [ad_dif]
      exact ih
theorem cumP_sd : ∀ (l : List Pt) (p : Pt), cumP p (sdL (p :: l)) = p :: l
  | [], p => rfl
  | q :: l, p => by
    show p :: cumP (adP p (dif q p)) (sdL (q :: l)) = _
    rw [ad_dif, cumP_sd l q]
theorem cumP_cons : ∀ (vs : List Pt) (p : Pt), ∃ t, cumP p vs = p :: t
  | [], p => ⟨_, rfl⟩
  | _ :: _, p => ⟨_, rfl⟩
end Go.Proofs.Ytcplfampcbekoaa
namespace Go.Proofs.Ytcplfampcbekoaa
set_option linter.all false
open Go.RowKit
def AscV (u : List Pt) : Prop := u.Pairwise (fun x y => 0 < cr2 x y) ∧ ∀ x ∈ u, posV x
theorem AscV.tail {v : Pt} {vs : List Pt} (h : AscV (v :: vs)) : AscV vs := ⟨(List.pairwise_cons.1 h.1).2, fun x hx => h.2 x (List.mem_cons_of_mem _ hx)⟩
theorem cr2_ng (a b : Pt) : cr2 (ngP a) (ngP b) = cr2 a b := by unfold cr2 ngP; simp only; grind
theorem adP_ng (a b : Pt) : adP (ngP a) (ngP b) = ngP (adP a b) := by unfold adP ngP; ext <;> simp <;> omega
theorem dif_ng (a b : Pt) : dif (ngP a) (ngP b) = ngP (dif a b) := by unfold dif ngP; ext <;> simp <;> omega
theorem sd_ng : ∀ (l : List Pt), sdL (ngL l) = ngL (sdL l)
  | [] => rfl
  | [_] => rfl
  | a :: b :: t => by
    show dif (ngP b) (ngP a) :: sdL (ngL (b :: t)) = ngP (dif b a) :: ngL (sdL (b :: t))
    rw [dif_ng, sd_ng (b :: t)]
theorem ngL_rev (l : List Pt) : ngL l.reverse = (ngL l).reverse := by unfold ngL; rw [List.map_reverse]
section sums
variable {s t w : List Pt} (hs : Asc s) (ht : Asc t) (hw : Asc w) (s0 : s ≠ []) (t0 : t ≠ []) (w0 : w ≠ []) (e : ∀ z, z ∈ w ↔ smS (fun q => q ∈ hulL s) (fun q => q ∈ hulL t) z)
include hs ht hw s0 t0 w0 e
end sums
theorem rev_ends {R : List Pt} (h : 2 ≤ R.length) : ∃ A, R.reverse = R.getD (R.length - 1) (0, 0) :: (A ++ [R.getD 0 (0, 0)]) := by
  match R, h with
  | b :: r, h =>
    rcases List.eq_nil_or_concat r with rfl | ⟨r', l, rfl⟩
    · simp at h
    · refine ⟨r'.reverse, ?_⟩
      simp [List.getD]
theorem hul_shape {s : List Pt} (h : Asc s) (h2 : 2 ≤ s.length) : ∃ p m A U, (lowR s).reverse = p :: (A ++ [m]) ∧ (uppR s).reverse = m :: (U ++ [p]) ∧ hulL s = (p :: A) ++ (m :: U) := by
  have s0 : s ≠ [] := by intro e; rw [e] at h2; simp at h2
  obtain ⟨_, _, e1, e2, _, _⟩ := hul_ends h s0
  have l1 : 2 ≤ (lowR s).length := by rw [low_len]; exact chn_ge h2
  have l2 : 2 ≤ (uppR s).length := by rw [upp_len]; exact chn_ge (by rw [revP_len]; exact h2)
  obtain ⟨A, eA⟩ := rev_ends l1
  obtain ⟨U, eU⟩ := rev_ends l2
  rw [← e1, e2] at eU
  refine ⟨_, _, A, U, eA, eU, ?_⟩
  rw [hul_of h2, eA, eU]
  have m1 : (lowR s).length - 1 = A.length + 1 := by
    have := congrArg List.length eA
    simp at this
    omega
  have m2 : (uppR s).length - 1 = U.length + 1 := by
    have := congrArg List.length eU
    simp at this
    omega
  rw [m1, m2]
  simp
theorem sd_app : ∀ (X : List Pt) (m : Pt) (Y : List Pt), sdL (X ++ m :: Y) = sdL (X ++ [m]) ++ sdL (m :: Y)
  | [], m, Y => rfl
  | [x], m, Y => rfl
  | x :: y :: X, m, Y => by
    show dif y x :: sdL ((y :: X) ++ m :: Y) = dif y x :: (sdL ((y :: X) ++ [m]) ++ sdL (m :: Y))
    rw [sd_app (y :: X) m Y]
theorem endP_sd2 : ∀ (A : List Pt) (p m : Pt), endP p (sdL (p :: (A ++ [m]))) = m
  | [], p, m => ad_dif p m
  | a :: A, p, m => by
    show endP (adP p (dif a p)) (sdL (a :: (A ++ [m]))) = m
    rw [ad_dif]
    exact endP_sd2 A a m
/-- The sides of a hull, all around. -/
def sdC (h : List Pt) : List Pt := sdL (h ++ h.take 1)
end Go.Proofs.Ytcplfampcbekoaa
namespace Go.Proofs.Ytcplfampcbekoaa
set_option linter.all false
open Go.RowKit
theorem sdL_len : ∀ l : List Pt, (sdL l).length = l.length - 1
  | [] => rfl
  | [_] => rfl
  | a :: b :: t => by
    show (sdL (b :: t)).length + 1 = _
    rw [sdL_len (b :: t)]
    simp
end Go.Proofs.Ytcplfampcbekoaa
namespace Go.Proofs.Ytcplfampcbekoaa
set_option linter.all false
open Go.RowKit
/-- Twice the area along sides from a point on, seen from the origin. -/
def arC : Pt → List Pt → Int
  | _, [] => 0
  | p, v :: vs => cr2 p v + arC (adP p v) vs
theorem cr2_d0 (x p : Pt) : cr2 x (dif p p) = 0 := by unfold cr2 dif; simp
theorem sup_le {T : Pt → Prop} {d q b : Pt} (h : SupP T d q) (hb : T b) : cr2 b d ≤ cr2 q d := by
  have h1 := h b hb
  have h2 : cr2 d (dif b q) = cr2 q d - cr2 b d := by unfold cr2 dif; simp only; grind
  omega
theorem arC_app : ∀ (X Y : List Pt) (p : Pt), arC p (X ++ Y) = arC p X + arC (endP p X) Y
  | [], Y, p => by show arC p Y = 0 + arC p Y; omega
  | v :: vs, Y, p => by
    show cr2 p v + arC (adP p v) (vs ++ Y) = cr2 p v + arC (adP p v) vs + arC (endP (adP p v) vs) Y
    rw [arC_app vs Y]
    omega
theorem arC_ng : ∀ (vs : List Pt) (p : Pt), arC (ngP p) (ngL vs) = arC p vs
  | [], p => rfl
  | v :: vs, p => by
    show cr2 (ngP p) (ngP v) + arC (adP (ngP p) (ngP v)) (ngL vs) = cr2 p v + arC (adP p v) vs
    rw [cr2_ng, adP_ng, arC_ng vs]
theorem endP_ng : ∀ (vs : List Pt) (p : Pt), endP (ngP p) (ngL vs) = ngP (endP p vs)
  | [], p => rfl
  | v :: vs, p => by
    show endP (adP (ngP p) (ngP v)) (ngL vs) = ngP (endP (adP p v) vs)
    rw [adP_ng, endP_ng vs]
/-- Twice the area along points. -/
def shN2 (L : List Pt) : Nat → Int
  | 0 => 0
  | i + 1 => shN2 L i + cr2 (L.getD i (0, 0)) (L.getD (i + 1) (0, 0))
theorem shN2_cons (a : Pt) (L : List Pt) : ∀ i, shN2 (a :: L) (i + 1) = cr2 a (L.getD 0 (0, 0)) + shN2 L i
  | 0 => by show (0 : Int) + cr2 a (L.getD 0 (0, 0)) = cr2 a (L.getD 0 (0, 0)) + 0; omega
  | i + 1 => by
    show shN2 (a :: L) (i + 1) + cr2 (L.getD i (0, 0)) (L.getD (i + 1) (0, 0)) = cr2 a (L.getD 0 (0, 0)) + (shN2 L i + cr2 (L.getD i (0, 0)) (L.getD (i + 1) (0, 0)))
    rw [shN2_cons a L i]
    omega
theorem arC_sh : ∀ (vs : List Pt) (p : Pt), arC p vs = shN2 (cumP p vs) vs.length
  | [], p => rfl
  | v :: vs, p => by
    show cr2 p v + arC (adP p v) vs = shN2 (p :: cumP (adP p v) vs) (vs.length + 1)
    rw [shN2_cons, arC_sh vs]
    obtain ⟨t, e⟩ := cumP_cons vs (adP p v)
    rw [e]
    show _ = cr2 p (adP p v) + _
    rw [cr2_addr, cr2_self]
    omega
theorem sgA_sh (h : List Pt) (L : List Pt) (hL : L = h ++ h.take 1) : ∀ i, i ≤ h.length → sgA h i = shN2 L i
  | 0, _ => rfl
  | i + 1, hi => by
    have ih := sgA_sh h L hL i (by omega)
    show sgA h i + sgT h i = shN2 L i + cr2 (L.getD i (0, 0)) (L.getD (i + 1) (0, 0))
    rw [ih, hL, getD_append, getD_append, if_pos (by omega)]
    congr 1
    unfold sgT nxP cr2
    rcases Nat.lt_or_ge (i + 1) h.length with c | c
    · rw [if_pos c, Nat.mod_eq_of_lt c]
    · rw [if_neg (by omega)]
      have : i + 1 = h.length := by omega
      rw [this, Nat.mod_self, Nat.sub_self]
      match h, hi with
      | _ :: _, _ => rfl
/-- The area of a closed path by its sides. -/
theorem sg_arc (q : Pt) (B : List Pt) : sgA (q :: B) (q :: B).length = arC q (sdC (q :: B)) := by
  have : sdC (q :: B) = sdL (q :: (B ++ [q])) := rfl
  rw [sgA_sh (q :: B) _ rfl _ (Nat.le_refl _), arC_sh, this, cumP_sd, sdL_len]
  simp
end Go.Proofs.Ytcplfampcbekoaa
namespace Go.Proofs.Ytcplfampcbekoaa
set_option linter.all false
open Go.RowKit
/-- The area along a chain, and along that of more points. -/
theorem arc_mono {S T : Pt → Prop} (hST : ∀ z, S z → T z) : ∀ (n : Nat) (u v : List Pt), u.length + v.length ≤ n → ∀ {l k m : List Pt} {p q : Pt}, (∀ x ∈ l, posV x) → (∀ x ∈ k, posV x) → (∀ x ∈ m, posV x) → (∀ d, posV d → AftP m d → AftP l d ∧ AftP k d) →
    (∀ x t, u = x :: t → AftS m x) → (∀ x t, v = x :: t → AftS m x) → LCh S l p u → LCh T k q v → arC p u + cr2 (endP p u) (endP q v) ≤ arC q v + cr2 p q
  | n, [], [], _, l, k, m, p, q, hl, hk, hm, ha, hu, hv, h, g => by
    show (0 : Int) + cr2 p q ≤ 0 + cr2 p q
    exact Int.le_refl _
  | 0, _ :: _, _, hn, l, k, m, p, q, hl, hk, hm, ha, hu, hv, h, g => by simp at hn
  | 0, [], _ :: _, hn, l, k, m, p, q, hl, hk, hm, ha, hu, hv, h, g => by simp at hn
  | n + 1, [], v :: vs, hn, l, k, m, p, q, hl, hk, hm, ha, hu, hv, h, g => by
    obtain ⟨g1, g2, g3, g4, g5⟩ := g
    have am := hv v vs rfl
    have amp : AftP m v := fun x hx => Int.le_of_lt (am x hx)
    have ih := @arc_mono S T hST n [] vs (by simp at hn ⊢; omega) l [v] [v] p (adP q v) hl (fun x hx => by rw [List.mem_singleton.1 hx]; exact g2) (fun x hx => by rw [List.mem_singleton.1 hx]; exact g2) (fun d hd hda => ⟨fun x hx => aft_tr (hl x hx) g2 hd ((ha v g2 amp).1 x hx) (hda v (by simp)), hda⟩) (fun x t e => nomatch e) (fun x t e => by subst e; exact g5.2.2.1) h g5
    have s1 := sup_le (g4 v g2 (ha v g2 amp).2 (by rw [cr2_self]; exact Int.le_refl _)) (hST p h.at)
    show arC p [] + cr2 (endP p []) (endP (adP q v) vs) ≤ (cr2 q v + arC (adP q v) vs) + cr2 p q
    rw [cr2_addr] at ih
    omega
  | n + 1, u :: us, [], hn, l, k, m, p, q, hl, hk, hm, ha, hu, hv, h, g => by
    obtain ⟨g1, g2, g3, g4, g5⟩ := h
    have am := hu u us rfl
    have amp : AftP m u := fun x hx => Int.le_of_lt (am x hx)
    have ih := @arc_mono S T hST n us [] (by simp at hn ⊢; omega) [u] k [u] (adP p u) q (fun x hx => by rw [List.mem_singleton.1 hx]; exact g2) hk (fun x hx => by rw [List.mem_singleton.1 hx]; exact g2) (fun d hd hda => ⟨hda, fun x hx => aft_tr (hk x hx) g2 hd ((ha u g2 amp).2 x hx) (hda u (by simp))⟩) (fun x t e => by subst e; exact g5.2.2.1) (fun x t e => nomatch e) g5 g
    have s1 := sup_le (g.2 u g2 (ha u g2 amp).2) (hST p g1)
    have s2 := cr2_anti u q
    show (cr2 p u + arC (adP p u) us) + cr2 (endP (adP p u) us) (endP q []) ≤ arC q [] + cr2 p q
    rw [cr2_addl] at ih
    omega
  | n + 1, u :: us, v :: vs, hn, l, k, m, p, q, hl, hk, hm, ha, hu, hv, h, g => by
    have hu1 := hu u us rfl
    have hv1 := hv v vs rfl
    have hup : AftP m u := fun x hx => Int.le_of_lt (hu1 x hx)
    have hvp : AftP m v := fun x hx => Int.le_of_lt (hv1 x hx)
    have h' := h
    have g' := g
    obtain ⟨h1, h2, h3, h4, h5⟩ := h'
    obtain ⟨g1, g2, g3, g4, g5⟩ := g'
    have sg : ∀ w : Pt, posV w → ∀ x ∈ [w], posV x := fun w hw x hx => by rw [List.mem_singleton.1 hx]; exact hw
    have hTp := hST p h1
    have sv := sup_le (g4 v g2 (ha v g2 hvp).2 (by rw [cr2_self]; exact Int.le_refl _)) hTp
    by_cases c : 0 < cr2 u v
    · have ih := @arc_mono S T hST n us (v :: vs) (by simp at hn ⊢; omega) [u] k [u] (adP p u) q (sg u h2) hk (sg u h2) (fun d hd hda => ⟨hda, fun x hx => aft_tr (hk x hx) h2 hd ((ha u h2 hup).2 x hx) (hda u (by simp))⟩) (fun x t e => by subst e; exact h5.2.2.1) (fun x t e y hy => by rw [List.mem_singleton.1 hy, ← (List.cons.inj e).1]; exact c) h5 g
      have s1 := sup_le (g4 u h2 (ha u h2 hup).2 (Int.le_of_lt c)) hTp
      have s2 := cr2_anti u q
      show (cr2 p u + arC (adP p u) us) + cr2 (endP (adP p u) us) (endP q (v :: vs)) ≤ arC q (v :: vs) + cr2 p q
      rw [cr2_addl] at ih
      omega
    · by_cases c' : cr2 u v < 0
      · rw [cr2_anti] at c'
        have c2 : 0 < cr2 v u := by omega
        have ih := @arc_mono S T hST n (u :: us) vs (by simp at hn ⊢; omega) l [v] [v] p (adP q v) hl (sg v g2) (sg v g2) (fun d hd hda => ⟨fun x hx => aft_tr (hl x hx) g2 hd ((ha v g2 hvp).1 x hx) (hda v (by simp)), hda⟩) (fun x t e y hy => by rw [List.mem_singleton.1 hy, ← (List.cons.inj e).1]; exact c2) (fun x t e => by subst e; exact g5.2.2.1) h g5
        show arC p (u :: us) + cr2 (endP p (u :: us)) (endP (adP q v) vs) ≤ (cr2 q v + arC (adP q v) vs) + cr2 p q
        rw [cr2_addr] at ih
        omega
      · have c0 : cr2 u v = 0 := by omega
        have c1 : cr2 v u = 0 := by rw [cr2_anti, c0]; rfl
        have hw := posV_add h2 g2
        have e1 : cr2 u (adP u v) = 0 := by rw [cr2_addr, cr2_self, c0]; rfl
        have e2 : cr2 v (adP u v) = 0 := by rw [cr2_addr, cr2_self, c1]; rfl
        have e3 : cr2 (adP u v) u = 0 := by rw [cr2_addl, cr2_self, c1]; rfl
        have e4 : cr2 (adP u v) v = 0 := by rw [cr2_addl, cr2_self, c0]; rfl
        have ih := @arc_mono S T hST n us vs (by simp at hn ⊢; omega) [u] [v] [adP u v] (adP p u) (adP q v) (sg u h2) (sg v g2) (sg _ hw) (fun d hd hda => ⟨fun x hx => by rw [List.mem_singleton.1 hx]; exact aft_tr h2 hw hd (by omega) (hda _ (by simp)), fun x hx => by rw [List.mem_singleton.1 hx]; exact aft_tr g2 hw hd (by omega) (hda _ (by simp))⟩) (fun x t e y hy => by subst e; rw [List.mem_singleton.1 hy]; exact (cr_tr hw h2 h5.2.1 (by omega) (Int.le_of_lt (h5.2.2.1 u (by simp)))).2 (.inr (h5.2.2.1 u (by simp)))) (fun x t e y hy => by subst e; rw [List.mem_singleton.1 hy]; exact (cr_tr hw g2 g5.2.1 (by omega) (Int.le_of_lt (g5.2.2.1 v (by simp)))).2 (.inr (g5.2.2.1 v (by simp)))) h5 g5
        have s1 := sup_le (g4 u h2 (ha u h2 hup).2 (by omega)) hTp
        have s2 := cr2_anti u q
        show (cr2 p u + arC (adP p u) us) + cr2 (endP (adP p u) us) (endP (adP q v) vs) ≤ (cr2 q v + arC (adP q v) vs) + cr2 p q
        rw [cr2_addl, cr2_addr, cr2_addr] at ih
        omega
/-- The sides of both halves of a hull. -/
theorem hul_halves {s : List Pt} (h : Asc s) (h2 : 2 ≤ s.length) : ∃ p m UL UU, sdC (hulL s) = UL ++ UU ∧ LCh (fun q => q ∈ s) [] p UL ∧ LCh (fun q => ngP q ∈ s) [] (ngP m) (ngL UU) ∧ endP p UL = m ∧ endP m UU = p ∧ (∃ B, hulL s = p :: B) := by
  have s0 : s ≠ [] := by intro e; rw [e] at h2; simp at h2
  obtain ⟨p, m, A, U, eA, eU, eH⟩ := hul_shape h h2
  have L := low_ok h s0
  rw [← List.reverse_reverse (lowR s), eA] at L
  have L1 := lch_of (A ++ [m]) p [] (by rw [List.append_nil]; exact L)
  have V := upp_ok h s0
  rw [← List.reverse_reverse (ngL (uppR s)), ← ngL_rev, eU] at V
  have V1 := lch_of (ngL (U ++ [p])) (ngP m) [] (by rw [List.append_nil]; exact V)
  have eN1 : sdL (ngP m :: ngL (U ++ [p])) = ngL (sdL (m :: (U ++ [p]))) := sd_ng (m :: (U ++ [p]))
  rw [eN1] at V1
  refine ⟨p, m, sdL (p :: (A ++ [m])), sdL (m :: (U ++ [p])), ?_, L1, V1, endP_sd2 A p m, endP_sd2 U m p, ⟨A ++ m :: U, eH⟩⟩
  unfold sdC
  rw [eH]
  have : (p :: A ++ m :: U) ++ (p :: A ++ m :: U).take 1 = (p :: A) ++ m :: (U ++ [p]) := by simp
  rw [this, sd_app]
  rfl
theorem area_le {s t : List Pt} (hs : Asc s) (ht : Asc t) (s2 : 2 ≤ s.length) (t2 : 2 ≤ t.length) (hst : ∀ z, z ∈ s → z ∈ t) : sgA (hulL s) (hulL s).length ≤ sgA (hulL t) (hulL t).length := by
  obtain ⟨p, m, UL, UU, e1, L1, V1, a1, a2, B1, b1⟩ := hul_halves hs s2
  obtain ⟨q, n, VL, VU, f1, L2, V2, c1, c2, B2, b2⟩ := hul_halves ht t2
  have hn0 : ∀ x ∈ ([] : List Pt), posV x := fun x hx => by simp at hx
  have ns : ∀ y : Pt, AftS [] y := fun y x hx => by simp at hx
  have na : ∀ d : Pt, posV d → AftP [] d → AftP [] d ∧ AftP [] d := fun d _ h => ⟨h, h⟩
  have A1 := arc_mono (fun z hz => hst z hz) _ _ _ (Nat.le_refl _) hn0 hn0 hn0 na (fun x _ _ => ns x) (fun x _ _ => ns x) L1 L2
  have A2 := arc_mono (fun z hz => hst (ngP z) hz) _ _ _ (Nat.le_refl _) hn0 hn0 hn0 na (fun x _ _ => ns x) (fun x _ _ => ns x) V1 V2
  rw [arC_ng, arC_ng, endP_ng, endP_ng, cr2_ng, cr2_ng, a2, c2] at A2
  rw [a1, c1] at A1
  have hS : sgA (hulL s) (hulL s).length = arC p (sdC (hulL s)) := by rw [b1]; exact sg_arc p B1
  have hT : sgA (hulL t) (hulL t).length = arC q (sdC (hulL t)) := by rw [b2]; exact sg_arc q B2
  rw [hS, hT, e1, f1, arC_app, arC_app, a1, c1]
  omega
end Go.Proofs.Ytcplfampcbekoaa
namespace Go.Proofs.Ytcplfampcbekoaa
set_option linter.all false
open Go.RowKit
@[irreducible] def lcM (hs : List Pt) (x y : Int) : Int := lcvV hs x y
theorem lcM_is (hs : List Pt) (x y : Int) : lcM hs x y = lcvV hs x y := by
  unfold lcM
  rfl
/-- Are all points in the polygon? -/
structure lmOk (ps hs : List Pt) : Prop where
  ok : ∀ z ∈ ps, 0 ≤ lcM hs z.1 z.2
def pLcm : List DArg → Option (Value × List Prop)
  | [.row m (.ints xs), .v (.agg ⟨[.int .i64 x, .int .i64 y]⟩)] => some (.int .i64 (lcM (ptsA m xs) x y), [m * 2 ≤ xs.length, m ≤ 1000000000])
  | _ => none
theorem pLcm_ok {f : FuncId} (H : ∀ (x y : Int) (ps : List Pt), Big ps → Res Try.prog f [.row ps.length (.ints (flat ps)), .v (.agg ⟨[.int .i64 x, .int .i64 y]⟩)] (.int .i64 (lcvV ps x y))) {ds : List DArg} {v : Value} {C : List Prop} (h : pLcm ds = some (v, C)) (hC : AllP C) : Res Try.prog f ds v := by
  unfold pLcm at h
  split at h
  · rename_i m xs x y
    obtain ⟨rfl, rfl⟩ := Prod.mk.inj (Option.some.inj h)
    rw [lcM_is]
    obtain ⟨_, h2⟩ := ptsA_spec hC.1
    exact res_pts1 (pre := []) (post := [.v (.agg ⟨[.int .i64 x, .int .i64 y]⟩)]) hC.1 (H x y (ptsA m xs) (by unfold Big; rw [h2]; exact hC.2.1))
  · cases h
def TMa : Tab := orT TSg TCx
theorem TMa_ok : TabOk Try.prog TMa := orT_ok TSg_ok TCx_ok
def EMa : Env := mkE TMa R4 (fun _ => noL)
theorem EMa_ok : EnvOk Try.prog EMa := mkEOk TMa_ok R4_ok (fun _ _ _ => noL_good)
set_option maxRecDepth 100000 in
theorem tr_mDa (ps : List Pt) : bodyV Try.prog EMa 30 12 11 [.row ps.length (.ints (flat ps))] = .need (ps.length * (2 : Nat) ≤ (List.drop (0 : Nat) (flat ps)).length) (.need (ps.length ≤ (1000000000 : Nat)) (brT (!issI (ptsA ps.length (List.drop 0 (flat ps)))) (.fin (.int .i64 (0)) []) (.need (ps.length * (2 : Nat) ≤ (List.drop (0 : Nat) (flat ps)).length) (.need (allV (ptsA ps.length (List.drop (0 : Nat) (flat ps))) = true) (.need (ps.length ≤ (20 : Nat)) (.fin (.int .i64 (sgA (ptsA ps.length (List.drop 0 (flat ps))) ps.length)) [])))))) := by kernel_rfl
def daM (ps : List Pt) : Int := bif issI ps then sgA ps ps.length else 0
theorem res_mDa (ps : List Pt) (h : Big ps) : Res Try.prog 11 [.row ps.length (.ints (flat ps))] (iv (daM ps)) := by
  refine bodyV_res mixed EMa_ok (m := 30) (n := 12) rfl ?_
  rw [tr_mDa]
  unfold Big at h
  simp only [List.drop_zero, ptsA_flat, flat_length]
  unfold daM
  rcases hs : issI ps with _ | _
  · simp [brT_ok, Tree.ok, h]
  · obtain ⟨h1, h2⟩ := cv_ok2 hs
    simp [brT_ok, Tree.ok, h, h1, h2]
def pDam : List DArg → Option (Value × List Prop)
  | [.row m (.ints xs)] => some (iv (daM (ptsA m xs)), [m * 2 ≤ xs.length, m ≤ 1000000000])
  | _ => none
theorem pDam_ok {ds : List DArg} {v : Value} {C : List Prop} (h : pDam ds = some (v, C)) (hC : AllP C) : Res Try.prog 11 ds v := by
  unfold pDam at h
  split at h
  · obtain ⟨rfl, rfl⟩ : _ ∧ _ := by simpa using h
    obtain ⟨_, h2⟩ := ptsA_spec hC.1
    exact res_pts1 (pre := []) (post := []) hC.1 (res_mDa _ (by unfold Big; rw [h2]; exact hC.2.1))
  · cases h
def TLhp : Tab := fun f ds => match f with
  | 9 => pLcm ds
  | 10 => pHa ds
  | 11 => pDam ds
  | f => TEp f ds
theorem TLhp_ok : TabOk Try.prog TLhp := by
  intro f ds v C h hC
  unfold TLhp at h
  (try split at h)
  all_goals first | with_reducible exact pLcm_ok res_iLcv h hC | with_reducible exact pHa_i h hC | with_reducible exact pDam_ok h hC | exact TEp_ok _ _ _ _ h hC
def ELhp0 : Env := mkE TLhp RLc (fun _ => noL)
theorem ELhp0_ok : EnvOk Try.prog ELhp0 := mkEOk TLhp_ok RLc_ok (fun _ _ _ => noL_good)
end Go.Proofs.Ytcplfampcbekoaa
namespace Go.Proofs.Ytcplfampcbekoaa
set_option linter.all false
open Go.RowKit
noncomputable def c_hmo : Code := ((loopsOf (codeOf Try.f3))[0]?).getD .skip
def k_hmo : Ex → List Nat := keeps [5, 6, 7, 8, 9] [(0, [5, 6, 7])] [4]
def s_hmo (ps hs gs : List Pt) (K : Nat) : Nat → St := fun i => ⟨(topV :: topV :: topV :: topV :: topV :: .slice (some ⟨2, 0, none⟩) ps.length ps.length :: .slice (some ⟨3, 0, none⟩) hs.length hs.length :: .slice (some ⟨2, 0, none⟩) K K :: .slice (some ⟨5, 0, none⟩) gs.length gs.length :: .int .i64 i :: topV :: topV :: topV :: topV :: topV :: topV :: topV :: topV :: topV :: topV :: topV :: topV :: topV :: topV :: topV :: topV :: topV :: topV :: topV :: topV :: topV :: topV :: topV :: topV :: topV :: topV :: topV :: topV :: topV :: topV :: topV :: topV :: topV :: topV :: topV :: topV :: topV :: topV :: topV :: topV :: topV :: topV :: topV :: topV :: topV :: topV :: topV :: topV :: topV :: topV :: topV :: topV :: topV :: topV :: topV :: topV :: topV :: topV :: topV :: topV :: topV :: []), [some ⟨.dead, .vals []⟩, some ⟨.dead, .vals []⟩, some ⟨.row 29 2, .ints (flat ps)⟩, some ⟨.row 29 2, .ints (flat hs)⟩, some ⟨.dead, .vals []⟩, some ⟨.row 29 2, .ints (flat gs)⟩]⟩
def re_hmo : Nat → Ex := fun _ => .exit 0
def rs_hmo (ps hs gs : List Pt) (K : Nat) : Nat → St := fun i => ⟨(topV :: topV :: topV :: topV :: topV :: .slice (some ⟨2, 0, none⟩) ps.length ps.length :: .slice (some ⟨3, 0, none⟩) hs.length hs.length :: .slice (some ⟨2, 0, none⟩) K K :: topV :: topV :: topV :: topV :: topV :: topV :: topV :: topV :: topV :: topV :: topV :: topV :: topV :: topV :: topV :: topV :: topV :: topV :: topV :: topV :: topV :: topV :: topV :: topV :: topV :: topV :: topV :: topV :: topV :: topV :: topV :: topV :: topV :: topV :: topV :: topV :: topV :: topV :: topV :: topV :: topV :: topV :: topV :: topV :: topV :: topV :: topV :: topV :: topV :: topV :: topV :: topV :: topV :: topV :: topV :: topV :: topV :: topV :: topV :: topV :: topV :: topV :: topV :: []), [some ⟨.dead, .vals []⟩, some ⟨.dead, .vals []⟩, some ⟨.row 29 2, .ints (flat ps)⟩, some ⟨.row 29 2, .ints (flat hs)⟩, some ⟨.dead, .vals []⟩, some ⟨.row 29 2, .ints (flat gs)⟩]⟩
set_option maxRecDepth 100000 in
theorem tr_hmo (ps hs gs : List Pt) (K : Nat) (i : Nat) : bodyL Try.prog ELhp0 30 12 noL 1 c_hmo k_hmo 16 (s_hmo ps hs gs K i) = brT (decide ((↑i : Int) < (↑gs.length : Int))) (.need ((0 : Int) ≤ (↑i : Int) ∧ (↑i : Int) < (↑gs.length : Int)) (.need ((0 : Nat) + (↑i : Int).toNat * (2 : Nat) + (2 : Nat) ≤ (flat gs).length) (.need (hs.length * (2 : Nat) ≤ (List.drop (0 : Nat) (flat hs)).length) (.need (hs.length ≤ (1000000000 : Nat)) (brT (decide (lcM (ptsA hs.length (List.drop 0 (flat hs))) ((flat gs).getD (0 + (↑i : Int).toNat * 2) 0) ((flat gs).getD (0 + (↑i : Int).toNat * 2 + 1) 0) < 0)) (.leaf .ret ⟨(topV :: topV :: topV :: topV :: .bool (false) :: topV :: topV :: topV :: topV :: topV :: topV :: topV :: topV :: topV :: topV :: topV :: topV :: topV :: topV :: topV :: topV :: topV :: topV :: topV :: topV :: topV :: topV :: topV :: topV :: topV :: topV :: topV :: topV :: topV :: topV :: topV :: topV :: topV :: topV :: topV :: topV :: topV :: topV :: topV :: topV :: topV :: topV :: topV :: topV :: topV :: topV :: topV :: topV :: topV :: topV :: topV :: topV :: topV :: topV :: topV :: topV :: topV :: topV :: topV :: topV :: topV :: topV :: topV :: topV :: topV :: topV :: []), [some deadB, some deadB, some ⟨.row 29 2, .ints (flat ps)⟩, some ⟨.row 29 2, .ints (flat hs)⟩, some deadB, some ⟨.row 29 2, .ints (flat gs)⟩]⟩) (.leaf .normal ⟨(topV :: topV :: topV :: topV :: topV :: .slice (some ⟨2, 0, none⟩) (ps.length) (ps.length) :: .slice (some ⟨3, 0, none⟩) (hs.length) (hs.length) :: .slice (some ⟨2, 0, none⟩) (K) (K) :: .slice (some ⟨5, 0, none⟩) (gs.length) (gs.length) :: .int .i64 (IntKind.i64.wrap ((↑i : Int) + 1)) :: topV :: topV :: topV :: topV :: topV :: topV :: topV :: topV :: topV :: topV :: topV :: topV :: topV :: topV :: topV :: topV :: topV :: topV :: topV :: topV :: topV :: topV :: topV :: topV :: topV :: topV :: topV :: topV :: topV :: topV :: topV :: topV :: topV :: topV :: topV :: topV :: topV :: topV :: topV :: topV :: topV :: topV :: topV :: topV :: topV :: topV :: topV :: topV :: topV :: topV :: topV :: topV :: topV :: topV :: topV :: topV :: topV :: topV :: topV :: topV :: topV :: []), [some deadB, some deadB, some ⟨.row 29 2, .ints (flat ps)⟩, some ⟨.row 29 2, .ints (flat hs)⟩, some deadB, some ⟨.row 29 2, .ints (flat gs)⟩]⟩)))))) (.leaf (.exit 0) ⟨(topV :: topV :: topV :: topV :: topV :: .slice (some ⟨2, 0, none⟩) (ps.length) (ps.length) :: .slice (some ⟨3, 0, none⟩) (hs.length) (hs.length) :: .slice (some ⟨2, 0, none⟩) (K) (K) :: topV :: topV :: topV :: topV :: topV :: topV :: topV :: topV :: topV :: topV :: topV :: topV :: topV :: topV :: topV :: topV :: topV :: topV :: topV :: topV :: topV :: topV :: topV :: topV :: topV :: topV :: topV :: topV :: topV :: topV :: topV :: topV :: topV :: topV :: topV :: topV :: topV :: topV :: topV :: topV :: topV :: topV :: topV :: topV :: topV :: topV :: topV :: topV :: topV :: topV :: topV :: topV :: topV :: topV :: topV :: topV :: topV :: topV :: topV :: topV :: topV :: topV :: topV :: []), [some deadB, some deadB, some ⟨.row 29 2, .ints (flat ps)⟩, some ⟨.row 29 2, .ints (flat hs)⟩, some deadB, some ⟨.row 29 2, .ints (flat gs)⟩]⟩) := by kernel_rfl
set_option maxRecDepth 100000 in
theorem nl_hmo : loopsOf c_hmo = [] := by kernel_rfl
def inv_hmo (ps hs gs : List Pt) (K : Nat) : Nat → Prop := fun i => i ≤ gs.length
def me_hmo (ps hs gs : List Pt) (K : Nat) : Nat → Nat := fun i => gs.length - i
/-- A round of this loop. -/
def Round_hmo (ps hs gs : List Pt) (K : Nat) : Prop := ∀ xx : Nat, inv_hmo ps hs gs K xx → (bodyL Try.prog ELhp0 30 12 noL 1 c_hmo k_hmo 16 (s_hmo ps hs gs K xx)).ok (RoundEnd 6 (s_hmo ps hs gs K) (inv_hmo ps hs gs K) (me_hmo ps hs gs K) re_hmo (rs_hmo ps hs gs K) xx) (fun _ _ => False)
def e_hmo (s : St) (k : Ex → St → Tree) : Option Tree := match Nat.beq s.tmps.length 71, pickL s.tmps [5, 6, 7, 8, 9], s.mem with
  | true, [.slice (some ⟨2, 0, none⟩) m _, .slice (some ⟨3, 0, none⟩) q _, .slice (some ⟨2, 0, none⟩) kk _, .slice (some ⟨5, 0, none⟩) r _, .int .i64 i0], [_, _, some ⟨.row 29 2, .ints xs⟩, some ⟨.row 29 2, .ints ys⟩, _, some ⟨.row 29 2, .ints zs⟩] => some (needs [i0 = 0, xs.length = m * 2, ys.length = q * 2, zs.length = r * 2, q ≤ 1000000000, r ≤ 1000000000, lmOk (ptsA r zs) (ptsA q ys)] (k (.exit 0) ⟨(topV :: topV :: topV :: topV :: topV :: .slice (some ⟨2, 0, none⟩) m m :: .slice (some ⟨3, 0, none⟩) q q :: .slice (some ⟨2, 0, none⟩) kk kk :: topV :: topV :: topV :: topV :: topV :: topV :: topV :: topV :: topV :: topV :: topV :: topV :: topV :: topV :: topV :: topV :: topV :: topV :: topV :: topV :: topV :: topV :: topV :: topV :: topV :: topV :: topV :: topV :: topV :: topV :: topV :: topV :: topV :: topV :: topV :: topV :: topV :: topV :: topV :: topV :: topV :: topV :: topV :: topV :: topV :: topV :: topV :: topV :: topV :: topV :: topV :: topV :: topV :: topV :: topV :: topV :: topV :: topV :: topV :: topV :: topV :: topV :: topV :: []), [some ⟨.dead, .vals []⟩, some ⟨.dead, .vals []⟩, some ⟨.row 29 2, .ints xs⟩, some ⟨.row 29 2, .ints ys⟩, some ⟨.dead, .vals []⟩, some ⟨.row 29 2, .ints zs⟩]⟩))
  | _, _, _ => none
set_option maxRecDepth 100000 in
theorem round_hmo (ps hs gs : List Pt) (K : Nat) (h : hs.length ≤ 1000000000) (h2 : gs.length ≤ 1000000000) (h5 : lmOk gs hs) : Round_hmo ps hs gs K := by
  intro i h1
  have h1 : i ≤ gs.length := h1
  rw [tr_hmo]
  simp only [List.drop_zero, ptsA_flat, Int.toNat_natCast, Nat.zero_add, Nat.add_zero, flat_length, flat_get0, flat_get1]
  refine brT_ok.2 ⟨fun hlt => ?_, fun hge => ?_⟩
  · have hlt := of_decide_eq_true hlt
    have hi : i < gs.length := by omega
    have e := h5.ok _ (getD_mem' hi)
    rw [wsucc (n := gs.length) hi h2]
    generalize gs.getD i (0, 0) = p at *
    rw [decide_eq_false (show ¬ lcM hs p.1 p.2 < 0 by omega)]
    simp only [brT_t, brT_f, Bool.not_true, Bool.not_false, Tree.ok]
    repeat (refine And.intro (by first | omega | exact Nat.le_refl _) ?_)
    refine ⟨i + 1, [], ?_, ?_, rfl, rfl, ?_⟩
    · show i + 1 ≤ gs.length; omega
    · show gs.length - (i + 1) < gs.length - i; omega
    · repeat' (first | exact True.intro | exact rfl | exact fun _ => rfl | refine And.intro ?_ ?_)
  · refine ⟨rfl, [], ?_⟩
    repeat' (first | exact True.intro | exact rfl | exact fun _ => rfl | refine And.intro ?_ ?_)
set_option maxRecDepth 100000 in
theorem lg_hmo : LoopE Try.prog e_hmo c_hmo := by
  intro s k t F H hlt ht
  unfold e_hmo at hlt
  split at hlt
  rotate_left
  · cases hlt
  rename_i hlen hpick hmem
  obtain ⟨tmps, mem⟩ := s
  simp only at hlen hpick hmem
  subst hmem
  obtain rfl := Option.some.inj hlt
  obtain ⟨⟨rfl, h1, g1, f1, g2, f2, h5, _⟩, ht2⟩ := needs_ok ht
  clear ht hlt
  obtain ⟨ps, rfl, rfl⟩ := even_flat h1
  obtain ⟨hs, rfl, rfl⟩ := even_flat g1
  obtain ⟨gs, rfl, rfl⟩ := even_flat f1
  rw [ptsA_flat, ptsA_flat] at h5
  refine ⟨_, _, ht2, loop_run2 mixed ELhp0_ok (s_hmo ps hs gs _) (inv_hmo ps hs gs _) (me_hmo ps hs gs _) re_hmo (rs_hmo ps hs gs _) k_hmo (fun _ => rfl) (noLoops nl_hmo) (round_hmo ps hs gs _ g2 f2 h5) (x := 0) (Nat.zero_le _) (π := []) rfl ?_⟩
  refine ⟨rfl, rfl, ?_, wvs_spread' [5, 6, 7, 8, 9] hlen rfl ?_⟩
  · repeat' (first | exact True.intro | exact rfl | exact wv_top _ _ | exact fun _ => rfl | assumption | exact Eq.symm (by assumption) | exact vI0 rfl | refine And.intro ?_ ?_)
  · rw [hpick]
    repeat' (first | exact True.intro | exact rfl | exact wv_top _ _ | exact fun _ => rfl | assumption | exact Eq.symm (by assumption) | exact vI0 rfl | refine And.intro ?_ ?_)
theorem Lr_hmo {fn : Func} (hf : Try.prog.funcs[3]? = some fn) : LoopsGood Try.prog (lt1 e_hmo) 0 (codeOf fn) := by
  obtain rfl := fn_is Try.func3 hf
  exact lt1_good lg_hmo
def LHmo : FuncId → LT := fun f => match f with
  | 3 => lt1 e_hmo
  | _ => noL
def EHmo : Env := mkE TLhp RLc LHmo
theorem EHmo_ok : EnvOk Try.prog EHmo := mkEOk TLhp_ok RLc_ok (by
  intro f fn hf
  unfold LHmo
  split
  all_goals first | with_reducible exact Lr_hmo hf | exact noL_good)
set_option maxRecDepth 100000 in
theorem tr_lHp (bs cs : List Int) : bodyV Try.prog EHmo 30 12 3 [.row bs.length (.bytes bs), .row cs.length (.bytes cs)] = brT (decide (1048576 < (↑bs.length : Int))) (.fin (.bool (true)) []) (brT (decide (1048576 < (↑cs.length : Int))) (.fin (.bool (true)) []) (.need (Bytes (List.drop (0 : Nat) bs)) (.need (bs.length ≤ (List.drop (0 : Nat) bs).length) (.need ((apsL (List.drop (0 : Nat) bs) (rdL bs.length) (0 : Int) (12 : Int)).length * (2 : Nat) ≤ (List.drop (0 : Nat) (flat (apsL (List.drop (0 : Nat) bs) (rdL bs.length) (0 : Int) (12 : Int)))).length) (.need ((apsL (List.drop (0 : Nat) bs) (rdL bs.length) (0 : Int) (12 : Int)).length ≤ (1000000000 : Nat)) (.need ((apsL (List.drop (0 : Nat) bs) (rdL bs.length) (0 : Int) (12 : Int)).length * (2 : Nat) ≤ (List.drop (0 : Nat) (flat (apsL (List.drop (0 : Nat) bs) (rdL bs.length) (0 : Int) (12 : Int)))).length) (.need ((apsL (List.drop (0 : Nat) bs) (rdL bs.length) (0 : Int) (12 : Int)).length ≤ (1000000000 : Nat)) (.need ((hulV (ptsA (apsL (List.drop (0 : Nat) bs) (rdL bs.length) (0 : Int) (12 : Int)).length (List.drop (0 : Nat) (flat (apsL (List.drop (0 : Nat) bs) (rdL bs.length) (0 : Int) (12 : Int)))))).length = (hulV (ptsA (apsL (List.drop (0 : Nat) bs) (rdL bs.length) (0 : Int) (12 : Int)).length (List.drop (0 : Nat) (flat (apsL (List.drop (0 : Nat) bs) (rdL bs.length) (0 : Int) (12 : Int)))))).length) (.need (List.drop (0 : Nat) (flat (hulV (ptsA (apsL (List.drop (0 : Nat) bs) (rdL bs.length) (0 : Int) (12 : Int)).length (List.drop (0 : Nat) (flat (apsL (List.drop (0 : Nat) bs) (rdL bs.length) (0 : Int) (12 : Int))))))) = List.drop (0 : Nat) (flat (hulV (ptsA (apsL (List.drop (0 : Nat) bs) (rdL bs.length) (0 : Int) (12 : Int)).length (List.drop (0 : Nat) (flat (apsL (List.drop (0 : Nat) bs) (rdL bs.length) (0 : Int) (12 : Int)))))))) (.need ((List.drop (0 : Nat) (flat (hulV (ptsA (apsL (List.drop (0 : Nat) bs) (rdL bs.length) (0 : Int) (12 : Int)).length (List.drop (0 : Nat) (flat (apsL (List.drop (0 : Nat) bs) (rdL bs.length) (0 : Int) (12 : Int)))))))).length = (hulV (ptsA (apsL (List.drop (0 : Nat) bs) (rdL bs.length) (0 : Int) (12 : Int)).length (List.drop (0 : Nat) (flat (apsL (List.drop (0 : Nat) bs) (rdL bs.length) (0 : Int) (12 : Int)))))).length * (2 : Nat)) (.need ((hulV (ptsA (apsL (List.drop (0 : Nat) bs) (rdL bs.length) (0 : Int) (12 : Int)).length (List.drop (0 : Nat) (flat (apsL (List.drop (0 : Nat) bs) (rdL bs.length) (0 : Int) (12 : Int)))))).length ≤ (1000000000 : Nat)) (brT (decide ((↑(hulV (ptsA (apsL (List.drop 0 bs) (rdL bs.length) 0 12).length (List.drop 0 (flat (apsL (List.drop 0 bs) (rdL bs.length) 0 12))))).length : Int) < 3)) (.need ((apsL (List.drop (0 : Nat) bs) (rdL bs.length) (0 : Int) (12 : Int)).length * (2 : Nat) ≤ (List.drop (0 : Nat) (flat (apsL (List.drop (0 : Nat) bs) (rdL bs.length) (0 : Int) (12 : Int)))).length) (.need ((apsL (List.drop (0 : Nat) bs) (rdL bs.length) (0 : Int) (12 : Int)).length ≤ (1000000000 : Nat)) (.need ((hulV (ptsA (apsL (List.drop (0 : Nat) bs) (rdL bs.length) (0 : Int) (12 : Int)).length (List.drop (0 : Nat) (flat (apsL (List.drop (0 : Nat) bs) (rdL bs.length) (0 : Int) (12 : Int)))))).length = (hulV (ptsA (apsL (List.drop (0 : Nat) bs) (rdL bs.length) (0 : Int) (12 : Int)).length (List.drop (0 : Nat) (flat (apsL (List.drop (0 : Nat) bs) (rdL bs.length) (0 : Int) (12 : Int)))))).length) (.need (List.drop (0 : Nat) (flat (hulV (ptsA (apsL (List.drop (0 : Nat) bs) (rdL bs.length) (0 : Int) (12 : Int)).length (List.drop (0 : Nat) (flat (apsL (List.drop (0 : Nat) bs) (rdL bs.length) (0 : Int) (12 : Int))))))) = List.drop (0 : Nat) (flat (hulV (ptsA (apsL (List.drop (0 : Nat) bs) (rdL bs.length) (0 : Int) (12 : Int)).length (List.drop (0 : Nat) (flat (apsL (List.drop (0 : Nat) bs) (rdL bs.length) (0 : Int) (12 : Int)))))))) (.need ((List.drop (0 : Nat) (flat (hulV (ptsA (apsL (List.drop (0 : Nat) bs) (rdL bs.length) (0 : Int) (12 : Int)).length (List.drop (0 : Nat) (flat (apsL (List.drop (0 : Nat) bs) (rdL bs.length) (0 : Int) (12 : Int)))))))).length = (hulV (ptsA (apsL (List.drop (0 : Nat) bs) (rdL bs.length) (0 : Int) (12 : Int)).length (List.drop (0 : Nat) (flat (apsL (List.drop (0 : Nat) bs) (rdL bs.length) (0 : Int) (12 : Int)))))).length * (2 : Nat)) (.need ((hulV (ptsA (apsL (List.drop (0 : Nat) bs) (rdL bs.length) (0 : Int) (12 : Int)).length (List.drop (0 : Nat) (flat (apsL (List.drop (0 : Nat) bs) (rdL bs.length) (0 : Int) (12 : Int)))))).length ≤ (1000000000 : Nat)) (.fin (.bool (true)) []))))))) (.need (¬IntKind.i64.wrap ((↑(apsL (List.drop (0 : Nat) bs) (rdL bs.length) (0 : Int) (12 : Int)).length : Int) + (1 : Int)) = (0 : Int)) (.need ((0 : Int) ≤ bndI none (0 : Int) ∧ bndI none (0 : Int) ≤ bndI (some (IntKind.i64, (↑cs.length : Int).tmod (IntKind.i64.wrap ((↑(apsL (List.drop (0 : Nat) bs) (rdL bs.length) (0 : Int) (12 : Int)).length : Int) + (1 : Int))))) (↑(apsL (List.drop (0 : Nat) bs) (rdL bs.length) (0 : Int) (12 : Int)).length : Int) ∧ bndI (some (IntKind.i64, (↑cs.length : Int).tmod (IntKind.i64.wrap ((↑(apsL (List.drop (0 : Nat) bs) (rdL bs.length) (0 : Int) (12 : Int)).length : Int) + (1 : Int))))) (↑(apsL (List.drop (0 : Nat) bs) (rdL bs.length) (0 : Int) (12 : Int)).length : Int) ≤ (↑(apsL (List.drop (0 : Nat) bs) (rdL bs.length) (0 : Int) (12 : Int)).length : Int)) (.need (((bndI (some (IntKind.i64, (↑cs.length : Int).tmod (IntKind.i64.wrap ((↑(apsL (List.drop (0 : Nat) bs) (rdL bs.length) (0 : Int) (12 : Int)).length : Int) + (1 : Int))))) (↑(apsL (List.drop (0 : Nat) bs) (rdL bs.length) (0 : Int) (12 : Int)).length : Int)).toNat - (0 : Nat)) * (2 : Nat) ≤ (List.drop (0 : Nat) (flat (apsL (List.drop (0 : Nat) bs) (rdL bs.length) (0 : Int) (12 : Int)))).length) (.need ((bndI (some (IntKind.i64, (↑cs.length : Int).tmod (IntKind.i64.wrap ((↑(apsL (List.drop (0 : Nat) bs) (rdL bs.length) (0 : Int) (12 : Int)).length : Int) + (1 : Int))))) (↑(apsL (List.drop (0 : Nat) bs) (rdL bs.length) (0 : Int) (12 : Int)).length : Int)).toNat - (0 : Nat) ≤ (1000000000 : Nat)) (.need ((0 : Int) = (0 : Int)) (.need ((flat (apsL (List.drop (0 : Nat) bs) (rdL bs.length) (0 : Int) (12 : Int))).length = (apsL (List.drop (0 : Nat) bs) (rdL bs.length) (0 : Int) (12 : Int)).length * (2 : Nat)) (.need ((flat (hulV (ptsA (apsL (List.drop (0 : Nat) bs) (rdL bs.length) (0 : Int) (12 : Int)).length (List.drop (0 : Nat) (flat (apsL (List.drop (0 : Nat) bs) (rdL bs.length) (0 : Int) (12 : Int))))))).length = (hulV (ptsA (apsL (List.drop (0 : Nat) bs) (rdL bs.length) (0 : Int) (12 : Int)).length (List.drop (0 : Nat) (flat (apsL (List.drop (0 : Nat) bs) (rdL bs.length) (0 : Int) (12 : Int)))))).length * (2 : Nat)) (.need ((flat (hulV (ptsA ((bndI (some (IntKind.i64, (↑cs.length : Int).tmod (IntKind.i64.wrap ((↑(apsL (List.drop (0 : Nat) bs) (rdL bs.length) (0 : Int) (12 : Int)).length : Int) + (1 : Int))))) (↑(apsL (List.drop (0 : Nat) bs) (rdL bs.length) (0 : Int) (12 : Int)).length : Int)).toNat - (0 : Nat)) (List.drop (0 : Nat) (flat (apsL (List.drop (0 : Nat) bs) (rdL bs.length) (0 : Int) (12 : Int))))))).length = (hulV (ptsA ((bndI (some (IntKind.i64, (↑cs.length : Int).tmod (IntKind.i64.wrap ((↑(apsL (List.drop (0 : Nat) bs) (rdL bs.length) (0 : Int) (12 : Int)).length : Int) + (1 : Int))))) (↑(apsL (List.drop (0 : Nat) bs) (rdL bs.length) (0 : Int) (12 : Int)).length : Int)).toNat - (0 : Nat)) (List.drop (0 : Nat) (flat (apsL (List.drop (0 : Nat) bs) (rdL bs.length) (0 : Int) (12 : Int)))))).length * (2 : Nat)) (.need ((hulV (ptsA (apsL (List.drop (0 : Nat) bs) (rdL bs.length) (0 : Int) (12 : Int)).length (List.drop (0 : Nat) (flat (apsL (List.drop (0 : Nat) bs) (rdL bs.length) (0 : Int) (12 : Int)))))).length ≤ (1000000000 : Nat)) (.need ((hulV (ptsA ((bndI (some (IntKind.i64, (↑cs.length : Int).tmod (IntKind.i64.wrap ((↑(apsL (List.drop (0 : Nat) bs) (rdL bs.length) (0 : Int) (12 : Int)).length : Int) + (1 : Int))))) (↑(apsL (List.drop (0 : Nat) bs) (rdL bs.length) (0 : Int) (12 : Int)).length : Int)).toNat - (0 : Nat)) (List.drop (0 : Nat) (flat (apsL (List.drop (0 : Nat) bs) (rdL bs.length) (0 : Int) (12 : Int)))))).length ≤ (1000000000 : Nat)) (.need (lmOk (ptsA (hulV (ptsA ((bndI (some (IntKind.i64, (↑cs.length : Int).tmod (IntKind.i64.wrap ((↑(apsL (List.drop (0 : Nat) bs) (rdL bs.length) (0 : Int) (12 : Int)).length : Int) + (1 : Int))))) (↑(apsL (List.drop (0 : Nat) bs) (rdL bs.length) (0 : Int) (12 : Int)).length : Int)).toNat - (0 : Nat)) (List.drop (0 : Nat) (flat (apsL (List.drop (0 : Nat) bs) (rdL bs.length) (0 : Int) (12 : Int)))))).length (flat (hulV (ptsA ((bndI (some (IntKind.i64, (↑cs.length : Int).tmod (IntKind.i64.wrap ((↑(apsL (List.drop (0 : Nat) bs) (rdL bs.length) (0 : Int) (12 : Int)).length : Int) + (1 : Int))))) (↑(apsL (List.drop (0 : Nat) bs) (rdL bs.length) (0 : Int) (12 : Int)).length : Int)).toNat - (0 : Nat)) (List.drop (0 : Nat) (flat (apsL (List.drop (0 : Nat) bs) (rdL bs.length) (0 : Int) (12 : Int)))))))) (ptsA (hulV (ptsA (apsL (List.drop (0 : Nat) bs) (rdL bs.length) (0 : Int) (12 : Int)).length (List.drop (0 : Nat) (flat (apsL (List.drop (0 : Nat) bs) (rdL bs.length) (0 : Int) (12 : Int)))))).length (flat (hulV (ptsA (apsL (List.drop (0 : Nat) bs) (rdL bs.length) (0 : Int) (12 : Int)).length (List.drop (0 : Nat) (flat (apsL (List.drop (0 : Nat) bs) (rdL bs.length) (0 : Int) (12 : Int))))))))) (.need (((bndI (some (IntKind.i64, (↑cs.length : Int).tmod (IntKind.i64.wrap ((↑(apsL (List.drop (0 : Nat) bs) (rdL bs.length) (0 : Int) (12 : Int)).length : Int) + (1 : Int))))) (↑(apsL (List.drop (0 : Nat) bs) (rdL bs.length) (0 : Int) (12 : Int)).length : Int)).toNat - (0 : Nat)) * (2 : Nat) ≤ (List.drop (0 : Nat) (flat (apsL (List.drop (0 : Nat) bs) (rdL bs.length) (0 : Int) (12 : Int)))).length) (.need ((bndI (some (IntKind.i64, (↑cs.length : Int).tmod (IntKind.i64.wrap ((↑(apsL (List.drop (0 : Nat) bs) (rdL bs.length) (0 : Int) (12 : Int)).length : Int) + (1 : Int))))) (↑(apsL (List.drop (0 : Nat) bs) (rdL bs.length) (0 : Int) (12 : Int)).length : Int)).toNat - (0 : Nat) ≤ (1000000000 : Nat)) (.need ((apsL (List.drop (0 : Nat) bs) (rdL bs.length) (0 : Int) (12 : Int)).length * (2 : Nat) ≤ (List.drop (0 : Nat) (flat (apsL (List.drop (0 : Nat) bs) (rdL bs.length) (0 : Int) (12 : Int)))).length) (.need ((apsL (List.drop (0 : Nat) bs) (rdL bs.length) (0 : Int) (12 : Int)).length ≤ (1000000000 : Nat)) (brT (decide (haV (ptsA ((bndI (some (IntKind.i64, (↑cs.length : Int).tmod (IntKind.i64.wrap ((↑(apsL (List.drop 0 bs) (rdL bs.length) 0 12).length : Int) + 1)))) (↑(apsL (List.drop 0 bs) (rdL bs.length) 0 12).length : Int)).toNat - 0) (List.drop 0 (flat (apsL (List.drop 0 bs) (rdL bs.length) 0 12)))) ≤ haV (ptsA (apsL (List.drop 0 bs) (rdL bs.length) 0 12).length (List.drop 0 (flat (apsL (List.drop 0 bs) (rdL bs.length) 0 12)))))) (.need ((apsL (List.drop (0 : Nat) bs) (rdL bs.length) (0 : Int) (12 : Int)).length * (2 : Nat) ≤ (List.drop (0 : Nat) (flat (apsL (List.drop (0 : Nat) bs) (rdL bs.length) (0 : Int) (12 : Int)))).length) (.need ((apsL (List.drop (0 : Nat) bs) (rdL bs.length) (0 : Int) (12 : Int)).length ≤ (1000000000 : Nat)) (.need ((hulV (ptsA (apsL (List.drop (0 : Nat) bs) (rdL bs.length) (0 : Int) (12 : Int)).length (List.drop (0 : Nat) (flat (apsL (List.drop (0 : Nat) bs) (rdL bs.length) (0 : Int) (12 : Int)))))).length * (2 : Nat) ≤ (List.drop (0 : Nat) (flat (hulV (ptsA (apsL (List.drop (0 : Nat) bs) (rdL bs.length) (0 : Int) (12 : Int)).length (List.drop (0 : Nat) (flat (apsL (List.drop (0 : Nat) bs) (rdL bs.length) (0 : Int) (12 : Int)))))))).length) (.need ((hulV (ptsA (apsL (List.drop (0 : Nat) bs) (rdL bs.length) (0 : Int) (12 : Int)).length (List.drop (0 : Nat) (flat (apsL (List.drop (0 : Nat) bs) (rdL bs.length) (0 : Int) (12 : Int)))))).length ≤ (1000000000 : Nat)) (.fin (.bool (haV (ptsA (apsL (List.drop 0 bs) (rdL bs.length) 0 12).length (List.drop 0 (flat (apsL (List.drop 0 bs) (rdL bs.length) 0 12)))) == daM (ptsA (hulV (ptsA (apsL (List.drop 0 bs) (rdL bs.length) 0 12).length (List.drop 0 (flat (apsL (List.drop 0 bs) (rdL bs.length) 0 12))))).length (List.drop 0 (flat (hulV (ptsA (apsL (List.drop 0 bs) (rdL bs.length) 0 12).length (List.drop 0 (flat (apsL (List.drop 0 bs) (rdL bs.length) 0 12)))))))))) []))))) (.fin (.bool (false)) []))))))))))))))))))))))))))))) := by kernel_rfl
theorem cvx_hulM {h : List Pt} (H : CvH h) (ho : okL h = true) : cvxI h = true := by
  unfold cvxI
  rw [cvh_simple H ho, Bool.true_and]
  have key : ∀ (m i : Nat), i + m ≤ h.length → allQ (cvE h) i m = true := by
    intro m
    induction m with
    | zero => intro i _; rfl
    | succ m ih =>
      intro i hi
      simp only [allQ, Bool.and_eq_true]
      refine ⟨?_, ih (i + 1) (by omega)⟩
      obtain ⟨n1, n2, n3⟩ := nx_ne H (i := i) (by omega)
      unfold cvE
      rw [decide_eq_true_eq]
      exact cvh_left H (j := i) (k := (i + 2) % h.length) (by omega) (Nat.mod_lt _ (by omega)) n2 n3
  exact key _ _ (by omega)
theorem lvA_geM {h : List Pt} {x y : Int} (hl : ∀ j, j < h.length → 0 ≤ lvE h x y j) : ∀ i, i ≤ h.length → 0 ≤ lvA h x y i
  | 0, _ => by show (0 : Int) ≤ 1; decide
  | i + 1, hi => by
    have ih := lvA_geM hl i (by omega)
    have h1 := hl i (by omega)
    simp only [lvA]
    split <;> omega
theorem srt_threeM {ps : List Pt} (h1 : okL ps = true) (h3 : 3 ≤ (hulV ps).length) : 3 ≤ (srtL ps).length := by
  rw [hulV_yes h1] at h3
  exact Nat.le_trans h3 (hul_le (srtL_asc ps))
theorem cvh_hulVM {ps : List Pt} (h1 : okL ps = true) (h3 : 3 ≤ (hulV ps).length) : CvH (hulV ps) := by
  rw [hulV_yes h1] at h3 ⊢
  exact hul_cvh (srtL_asc ps) h3
theorem lm_hul {ps gs : List Pt} (h1 : okL ps = true) (h3 : 3 ≤ (hulV ps).length) (hg : ∀ z ∈ gs, z ∈ ps) : lmOk gs (hulV ps) := by
  refine ⟨fun q hq => ?_⟩
  have hq := hg q hq
  rw [lcM_is]
  unfold lcvV
  rw [cvx_hulM (cvh_hulVM h1 h3) (okL_hul h1)]
  cases ptB q.1 q.2
  · exact (by decide : (0 : Int) ≤ 2)
  · refine lvA_geM (fun j hj => ?_) _ (Nat.le_refl _)
    have h2 := srt_threeM h1 h3
    rw [hulV_yes h1] at hj ⊢
    have hl := hul_left (srtL_asc ps) h2 hj ((srtL_mem _ _).2 hq)
    unfold crP at hl
    unfold lvE cmpI
    split
    · omega
    · split <;> omega
/-- The area of the hull of some of the points. -/
theorem ha_few {ps qs : List Pt} (h1 : okL ps = true) (h3 : 3 ≤ (hulV ps).length) (hq : okL qs = true) (hs : ∀ z ∈ qs, z ∈ ps) : haV qs ≤ haV ps := by
  unfold haV
  rw [h1, hq, cond_true, cond_true, hulV_yes hq]
  rcases Nat.lt_or_ge (srtL qs).length 2 with c | c
  · have hp := cvh_area (cvh_hulVM h1 h3)
    have e : sgA (hulL (srtL qs)) (hulL (srtL qs)).length = 0 := by
      have el : hulL (srtL qs) = srtL qs := by unfold hulL; rw [if_pos (by omega)]
      rw [el]
      match srtL qs, c with
      | [], _ => rfl
      | [a], _ =>
        rw [sg_arc a []]
        show cr2 a (dif a a) + 0 = 0
        rw [cr2_d0]
        rfl
      | _ :: _ :: _, c => simp at c; omega
    omega
  · have h2 := srt_threeM h1 h3
    rw [hulV_yes h1]
    exact area_le (srtL_asc qs) (srtL_asc ps) c (by omega) fun z hz => (srtL_mem _ _).2 (hs z ((srtL_mem _ _).1 hz))
theorem da_hul {ps : List Pt} (h1 : okL ps = true) (h3 : 3 ≤ (hulV ps).length) : daM (hulV ps) = haV ps := by
  unfold daM haV
  rw [cvh_simple (cvh_hulVM h1 h3) (okL_hul h1), h1]
  rfl
set_option maxRecDepth 100000 in
theorem law_hp (bs cs : List Int) (hb : Bytes bs) (_ : bs.length ≤ maxLen) (hc : Bytes cs) (_ : cs.length ≤ maxLen) : Res Try.prog 3 [.row bs.length (.bytes bs), .row cs.length (.bytes cs)] (.bool true) := by
  refine bodyV_res mixed EHmo_ok (m := 30) (n := 12) rfl ?_
  rw [tr_lHp]
  simp only [List.drop_zero, ptsA_flat, flat_length, bnd_some, bnd_none]
  obtain ⟨_, _, _, hL⟩ := drKey hb (Nat.le_refl _) (l := rdL bs.length) (by unfold rdL; omega) (by unfold rdL; omega) (m := 12) (by omega)
  generalize apsL bs (rdL bs.length) 0 12 = ps at *
  have hl := hulV_len ps
  refine brT_ok.2 ⟨fun _ => rfl, fun _ => brT_ok.2 ⟨fun _ => rfl, fun _ => ?_⟩⟩
  have w : IntKind.i64.wrap ((ps.length : Int) + 1) = ((ps.length + 1 : Nat) : Int) := by rw [wr (by omega)]; omega
  have tm : ((cs.length : Int).tmod ((ps.length + 1 : Nat) : Int)) = ((cs.length % (ps.length + 1) : Nat) : Int) := by
    rw [Int.tmod_eq_emod_of_nonneg (by omega)]
    omega
  have hK : cs.length % (ps.length + 1) ≤ ps.length := by
    have := Nat.mod_lt cs.length (show 0 < ps.length + 1 by omega)
    omega
  rw [w, tm, Int.toNat_natCast, Nat.sub_zero]
  generalize cs.length % (ps.length + 1) = K at *
  rw [ptsA_tk hK]
  by_cases h3 : ((hulV ps).length : Int) < 3
  · simp only [decide_eq_true h3, brT_t]
    repeat' (first | exact True.intro | assumption | omega | exact rfl | refine And.intro ?_ ?_)
  · have h3' : 3 ≤ (hulV ps).length := by omega
    have h1 : okL ps = true := by
      rcases ho : okL ps with _ | _
      · rw [hulV_no ho] at h3'; simp at h3'
      · rfl
    have hs : ∀ z ∈ ps.take K, z ∈ ps := fun z hz => List.mem_of_mem_take hz
    have hl20 : ps.length ≤ 20 := (okL_20 h1).2
    have hq : okL (ps.take K) = true := okL_of h1 hs (by rw [List.length_take]; omega)
    have lq := hulV_len (ps.take K)
    have lm := lm_hul (gs := hulV (ps.take K)) h1 h3' fun z hz => by
      rw [hulV_yes hq] at hz
      exact hs z ((srtL_mem _ _).1 (hul_in (srtL_asc _) hz))
    have ha := ha_few h1 h3' hq hs
    have hd := da_hul h1 h3'
    simp only [decide_eq_false h3, decide_eq_true ha, hd, brT_t, brT_f, beq_self_eq_true]
    repeat' (first | exact True.intro | assumption | omega | exact rfl | refine And.intro ?_ ?_)
end Go.Proofs.Ytcplfampcbekoaa
