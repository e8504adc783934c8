/-
  Texts that the proof needs, merged. Written by an AI agent.
-/
import Derived.Orders
import Derived.Below
import Derived.OrdersIn
import Derived.Deep.LoopGhost
import Derived.WalkKit
import Derived.Laws.CopyRow
import Derived.Laws.AppendOwn
import Derived.Laws.Slices
import Derived.Laws.MakeOwn
import Derived.Test.YtpjdnplpiamjcaaRows
import Derived.ProofKit
import Derived.OpenShut
import Derived.Carry
import Derived.IntWalk
import Derived.Test.YtpjdnplpiamjcaaProg
import Derived.WalkSpells
import Derived.WalkLawsBesides
import Derived.Lib.Hide
import Derived.Deep.QuietTactic
import Derived.BigQuiet
import Derived.KernelRfl
import Derived.Deep.RegionHeld3
import Derived.LoopTactic
import Derived.Laws.StructEq
import Derived.Laws.Tables
import Derived.RangeFuncNested
import Derived.RangeFuncLeaves
import Derived.Deep.Slices
import Derived.Deep.Fields
import Derived.ChangeSame
import Derived.Shelf.Bits.Mul64
import Derived.Shelf.SlSortCmp.WholeK
import Derived.Sort.Grow
import Derived.Deep.DeepCutAuto
import Derived.Shelf.SlSortCmp.NoneTotal
import Derived.Test.YtpjdnplpiamjcaaZWidthEdge5
namespace Go.Proofs.Ytpjdnplpiamjcaa
set_option linter.all false
open Go.RowKit
theorem Lr_mnW {fn : Func} (hf : Try.prog.funcs[99]? = some fn) : LoopsGood Try.prog (lt1 e_mnW) 0 (codeOf fn) := by
  obtain rfl := fn_is Try.func99 hf
  exact lt1_good lg_mnW
theorem Lr_frL {fn : Func} (hf : Try.prog.funcs[96]? = some fn) : LoopsGood Try.prog (lt1 e_frL) 0 (codeOf fn) := by
  obtain rfl := fn_is Try.func96 hf
  exact lt1_good lg_frL
/-- The first place of a width. -/
def idxW (v : Pt) : List Pt → Nat
  | [] => 0
  | p :: r => if p = v then 0 else idxW v r + 1
theorem idxW_at (v : Pt) : ∀ (ws : List Pt), idxW v ws < ws.length → ws.getD (idxW v ws) (0, 0) = v
  | [], h => by simp at h
  | p :: r, h => by
    unfold idxW at h ⊢
    split
    · rename_i e; simpa using e
    · rename_i e
      rw [if_neg e] at h
      have := idxW_at v r (by simpa using h)
      simpa using this
theorem idxW_no (v : Pt) : ∀ (ws : List Pt) (j : Nat), j < idxW v ws → ws.getD j (0, 0) ≠ v
  | [], j, h => by simp [idxW] at h
  | p :: r, j, h => by
    unfold idxW at h
    split at h
    · omega
    · rename_i e
      cases j with
      | zero => simpa using e
      | succ j => simpa using idxW_no v r j (by omega)
theorem idxW_of {v : Pt} : ∀ {ws : List Pt} {k : Nat}, k < ws.length → ws.getD k (0, 0) = v → (∀ j, j < k → ws.getD j (0, 0) ≠ v) → idxW v ws = k
  | [], k, h, _, _ => by simp at h
  | p :: r, k, h, h1, h2 => by
    unfold idxW
    cases k with
    | zero => rw [if_pos (by simpa using h1)]
    | succ k =>
      rw [if_neg (by simpa using h2 0 (by omega)), idxW_of (v := v) (ws := r) (k := k) (by simpa using h) (by simpa using h1) fun j hj => by simpa using h2 (j + 1) (by omega)]
noncomputable def c_ixW : Code := ((loopsOf (codeOf Try.f98))[0]?).getD .skip
def k_ixW : Ex → List Nat := keeps [0, 3, 7, 8] [] [4]
def s_ixW (ws : List Pt) (v : Pt) : Nat → St := fun i => ⟨[.slice (some ⟨0, 0, none⟩) ws.length ws.length, topV, topV, .pointer (some ⟨2, 0, none⟩), topV, topV, topV, .int .i64 ws.length, .int .i64 i, topV, topV, topV, topV, topV, topV, topV, topV, topV, topV], [some ⟨.view, .ints (flat ws)⟩, none, some ⟨.box, .vals [.int .i64 v.1, .int .i64 v.2]⟩]⟩
def re_ixW : Nat → Ex := fun _ => .ret
def rs_ixW (ws : List Pt) (v : Pt) : Nat → St := fun i => ⟨[topV, topV, topV, topV, .int .i64 (idxW v ws), topV, topV, topV, topV, topV, topV, topV, topV, topV, topV, topV, topV, topV, topV], [some ⟨.view, .ints (flat ws)⟩, none, some ⟨.box, .vals [.int .i64 v.1, .int .i64 v.2]⟩]⟩
set_option maxRecDepth 100000 in
theorem tr_ixW (ws : List Pt) (v : Pt) (i : Nat) : bodyL Try.prog EWd 30 12 noL 1 c_ixW k_ixW 3 (s_ixW ws v i) = brT (decide ((↑i : Int) < (↑ws.length : Int))) (.need ((0 : Int) ≤ (↑i : Int) ∧ (↑i : Int) < (↑ws.length : Int)) (.need ((0 : Nat) + (↑i : Int).toNat * (2 : Nat) + (2 : Nat) ≤ (flat ws).length) (brT (negB false (v.1 == (flat ws).getD (0 + (↑i : Int).toNat * 2) 0 && (v.2 == (flat ws).getD (0 + (↑i : Int).toNat * 2 + 1) 0 && true))) (.leaf .ret ⟨[topV, topV, topV, topV, .int .i64 ((↑i : Int)), topV, topV, topV, topV, topV, topV, topV, topV, topV, topV, topV, topV, topV, topV], [some ⟨.view, .ints (flat ws)⟩, none, some ⟨.box, .vals [.int .i64 (v.1), .int .i64 (v.2)]⟩]⟩) (.leaf .normal ⟨[.slice (some ⟨0, 0, none⟩) (ws.length) (ws.length), topV, topV, .pointer (some ⟨2, 0, none⟩), topV, topV, topV, .int .i64 ((↑ws.length : Int)), .int .i64 (IntKind.i64.wrap ((↑i : Int) + 1)), topV, topV, topV, topV, topV, topV, topV, topV, topV, topV], [some ⟨.view, .ints (flat ws)⟩, none, some ⟨.box, .vals [.int .i64 (v.1), .int .i64 (v.2)]⟩]⟩)))) (.leaf (.exit 0) ⟨[topV, topV, topV, topV, topV, topV, topV, topV, topV, topV, topV, topV, topV, topV, topV, topV, topV, topV, topV], [some ⟨.view, .ints (flat ws)⟩, none, some ⟨.box, .vals [.int .i64 (v.1), .int .i64 (v.2)]⟩]⟩) := by kernel_rfl
set_option maxRecDepth 100000 in
theorem nl_ixW : loopsOf c_ixW = [] := by kernel_rfl
def inv_ixW (ws : List Pt) (v : Pt) : Nat → Prop := fun i => i ≤ idxW v ws
def me_ixW (ws : List Pt) (v : Pt) : Nat → Nat := fun i => ws.length - i
/-- A round of this loop. -/
def Round_ixW (ws : List Pt) (v : Pt) : Prop := ∀ xx : Nat, inv_ixW ws v xx → (bodyL Try.prog EWd 30 12 noL 1 c_ixW k_ixW 3 (s_ixW ws v xx)).ok (RoundEnd 3 (s_ixW ws v) (inv_ixW ws v) (me_ixW ws v) re_ixW (rs_ixW ws v) xx) (fun _ _ => False)
def e_ixW (s : St) (k : Ex → St → Tree) : Option Tree := match Nat.beq s.tmps.length 19, pickL s.tmps [0, 3, 7, 8], s.mem with
  | true, [.slice (some ⟨0, 0, none⟩) n _, .pointer (some ⟨2, 0, none⟩), .int .i64 n1, .int .i64 i], [some ⟨.view, .ints xs⟩, none, some ⟨.box, .vals [.int .i64 x, .int .i64 y]⟩] => some (needs [i = 0, n1 = n, xs.length = n * 2, n ≤ 1000, idxW (x, y) (ptsA n xs) < n] (k .ret ⟨[topV, topV, topV, topV, .int .i64 (idxW (x, y) (ptsA n xs)), topV, topV, topV, topV, topV, topV, topV, topV, topV, topV, topV, topV, topV, topV], [some ⟨.view, .ints xs⟩, none, some ⟨.box, .vals [.int .i64 x, .int .i64 y]⟩]⟩))
  | _, _, _ => none
/-- The largest area over an edge, of so many points. -/
def wdM (h : List Pt) (a b : Pt) : Nat → Int
  | 0 => 0
  | k + 1 => if wdM h a b k < crossI a.1 a.2 b.1 b.2 (h.getD k (0, 0)).1 (h.getD k (0, 0)).2 then crossI a.1 a.2 b.1 b.2 (h.getD k (0, 0)).1 (h.getD k (0, 0)).2 else wdM h a b k
noncomputable def c_wAt : Code := ((loopsOf (codeOf Try.f95))[0]?).getD .skip
def k_wAt : Ex → List Nat := keeps [0, 1, 6, 7] [(0, [0, 1, 6])] [4, 5]
def s_wAt (h : List Pt) (i : Nat) : Nat → St := fun k => ⟨(.slice (some ⟨0, 0, none⟩) h.length h.length :: .int .i64 i :: topV :: topV :: topV :: topV :: .int .i64 (wdM h (h.getD i (0, 0)) (nxP h i) k) :: .int .i64 k :: topV :: topV :: topV :: topV :: topV :: topV :: topV :: topV :: topV :: topV :: topV :: topV :: topV :: topV :: topV :: topV :: topV :: topV :: topV :: topV :: topV :: topV :: topV :: topV :: topV :: topV :: topV :: topV :: topV :: topV :: topV :: topV :: topV :: topV :: topV :: topV :: topV :: topV :: topV :: []), [some ⟨.view, .ints (flat h)⟩, none]⟩
def re_wAt : Nat → Ex := fun _ => .exit 0
def rs_wAt (h : List Pt) (i : Nat) : Nat → St := fun k => ⟨(.slice (some ⟨0, 0, none⟩) h.length h.length :: .int .i64 i :: topV :: topV :: topV :: topV :: .int .i64 (wdM h (h.getD i (0, 0)) (nxP h i) h.length) :: topV :: topV :: topV :: topV :: topV :: topV :: topV :: topV :: topV :: topV :: topV :: topV :: topV :: topV :: topV :: topV :: topV :: topV :: topV :: topV :: topV :: topV :: topV :: topV :: topV :: topV :: topV :: topV :: topV :: topV :: topV :: topV :: topV :: topV :: topV :: topV :: topV :: topV :: topV :: topV :: []), [some ⟨.view, .ints (flat h)⟩, none]⟩
set_option maxRecDepth 100000 in
theorem tr_wAt (h : List Pt) (i : Nat) (k : Nat) : bodyL Try.prog EWd 30 12 noL 1 c_wAt k_wAt 2 (s_wAt h i k) = brT (decide ((↑k : Int) < (↑h.length : Int))) (.need (ptB ((flat h).getD ((0 : Nat) + (↑i : Int).toNat * (2 : Nat)) (0 : Int)) ((flat h).getD ((0 : Nat) + (↑i : Int).toNat * (2 : Nat) + (1 : Nat)) (0 : Int)) = true) (.need (ptB ((flat h).getD ((0 : Nat) + ((IntKind.i64.wrap ((↑i : Int) + (1 : Int))).tmod (↑h.length : Int)).toNat * (2 : Nat)) (0 : Int)) ((flat h).getD ((0 : Nat) + ((IntKind.i64.wrap ((↑i : Int) + (1 : Int))).tmod (↑h.length : Int)).toNat * (2 : Nat) + (1 : Nat)) (0 : Int)) = true) (.need (ptB ((flat h).getD ((0 : Nat) + (↑k : Int).toNat * (2 : Nat)) (0 : Int)) ((flat h).getD ((0 : Nat) + (↑k : Int).toNat * (2 : Nat) + (1 : Nat)) (0 : Int)) = true) (.need ((0 : Int) ≤ (↑i : Int) ∧ (↑i : Int) < (↑h.length : Int)) (.need ((0 : Nat) + (↑i : Int).toNat * (2 : Nat) + (2 : Nat) ≤ (flat h).length) (.need (¬(↑h.length : Int) = (0 : Int)) (.need ((0 : Int) ≤ (IntKind.i64.wrap ((↑i : Int) + (1 : Int))).tmod (↑h.length : Int) ∧ (IntKind.i64.wrap ((↑i : Int) + (1 : Int))).tmod (↑h.length : Int) < (↑h.length : Int)) (.need ((0 : Nat) + ((IntKind.i64.wrap ((↑i : Int) + (1 : Int))).tmod (↑h.length : Int)).toNat * (2 : Nat) + (2 : Nat) ≤ (flat h).length) (.need ((0 : Int) ≤ (↑k : Int) ∧ (↑k : Int) < (↑h.length : Int)) (.need ((0 : Nat) + (↑k : Int).toNat * (2 : Nat) + (2 : Nat) ≤ (flat h).length) (.leaf .normal ⟨(.slice (some ⟨0, 0, none⟩) (h.length) (h.length) :: .int .i64 ((↑i : Int)) :: topV :: topV :: topV :: topV :: .int .i64 (if wdM h (h.getD i (0, 0)) (nxP h i) k < crossI ((flat h).getD (0 + (↑i : Int).toNat * 2) 0) ((flat h).getD (0 + (↑i : Int).toNat * 2 + 1) 0) ((flat h).getD (0 + ((IntKind.i64.wrap ((↑i : Int) + 1)).tmod (↑h.length : Int)).toNat * 2) 0) ((flat h).getD (0 + ((IntKind.i64.wrap ((↑i : Int) + 1)).tmod (↑h.length : Int)).toNat * 2 + 1) 0) ((flat h).getD (0 + (↑k : Int).toNat * 2) 0) ((flat h).getD (0 + (↑k : Int).toNat * 2 + 1) 0) then crossI ((flat h).getD (0 + (↑i : Int).toNat * 2) 0) ((flat h).getD (0 + (↑i : Int).toNat * 2 + 1) 0) ((flat h).getD (0 + ((IntKind.i64.wrap ((↑i : Int) + 1)).tmod (↑h.length : Int)).toNat * 2) 0) ((flat h).getD (0 + ((IntKind.i64.wrap ((↑i : Int) + 1)).tmod (↑h.length : Int)).toNat * 2 + 1) 0) ((flat h).getD (0 + (↑k : Int).toNat * 2) 0) ((flat h).getD (0 + (↑k : Int).toNat * 2 + 1) 0) else wdM h (h.getD i (0, 0)) (nxP h i) k) :: .int .i64 (IntKind.i64.wrap ((↑k : Int) + 1)) :: topV :: topV :: topV :: topV :: topV :: topV :: topV :: topV :: topV :: topV :: topV :: topV :: topV :: topV :: topV :: topV :: topV :: topV :: topV :: topV :: topV :: topV :: topV :: topV :: topV :: topV :: topV :: topV :: topV :: topV :: topV :: topV :: topV :: topV :: topV :: topV :: topV :: topV :: topV :: []), [some ⟨.view, .ints (flat h)⟩, none]⟩))))))))))) (.leaf (.exit 0) ⟨(.slice (some ⟨0, 0, none⟩) (h.length) (h.length) :: .int .i64 ((↑i : Int)) :: topV :: topV :: topV :: topV :: .int .i64 (wdM h (h.getD i (0, 0)) (nxP h i) k) :: topV :: topV :: topV :: topV :: topV :: topV :: topV :: topV :: topV :: topV :: topV :: topV :: topV :: topV :: topV :: topV :: topV :: topV :: topV :: topV :: topV :: topV :: topV :: topV :: topV :: topV :: topV :: topV :: topV :: topV :: topV :: topV :: topV :: topV :: topV :: topV :: topV :: topV :: topV :: topV :: []), [some ⟨.view, .ints (flat h)⟩, none]⟩) := by kernel_rfl
set_option maxRecDepth 100000 in
theorem nl_wAt : loopsOf c_wAt = [] := by kernel_rfl
def inv_wAt (h : List Pt) (i : Nat) : Nat → Prop := fun k => k ≤ h.length
def me_wAt (h : List Pt) (i : Nat) : Nat → Nat := fun k => h.length - k
/-- A round of this loop. -/
def Round_wAt (h : List Pt) (i : Nat) : Prop := ∀ xx : Nat, inv_wAt h i xx → (bodyL Try.prog EWd 30 12 noL 1 c_wAt k_wAt 2 (s_wAt h i xx)).ok (RoundEnd 2 (s_wAt h i) (inv_wAt h i) (me_wAt h i) re_wAt (rs_wAt h i) xx) (fun _ _ => False)
def e_wAt (s : St) (k : Ex → St → Tree) : Option Tree := match Nat.beq s.tmps.length 47, pickL s.tmps [0, 1, 6, 7], s.mem with
  | true, [.slice (some ⟨0, 0, none⟩) n _, .int .i64 ii, .int .i64 m, .int .i64 kk], [some ⟨.view, .ints xs⟩, none] => some (needs [kk = 0, m = 0, 0 ≤ ii, ii < n, xs.length = n * 2, n ≤ 1000, allV (ptsA n xs) = true] (k (.exit 0) ⟨(.slice (some ⟨0, 0, none⟩) n n :: .int .i64 ii :: topV :: topV :: topV :: topV :: .int .i64 (wdM (ptsA n xs) ((ptsA n xs).getD ii.toNat (0, 0)) (nxP (ptsA n xs) ii.toNat) n) :: topV :: topV :: topV :: topV :: topV :: topV :: topV :: topV :: topV :: topV :: topV :: topV :: topV :: topV :: topV :: topV :: topV :: topV :: topV :: topV :: topV :: topV :: topV :: topV :: topV :: topV :: topV :: topV :: topV :: topV :: topV :: topV :: topV :: topV :: topV :: topV :: topV :: topV :: topV :: topV :: []), [some ⟨.view, .ints xs⟩, none]⟩))
  | _, _, _ => none
noncomputable def c_wFr : Code := ((loopsOf (codeOf Try.f97))[0]?).getD .skip
def k_wFr : Ex → List Nat := keeps [3, 4, 5, 8, 9, 10] [(0, [3, 4, 5])] [4]
def s_wFr (h : List Pt) (a b c d : Int) : Nat → St := fun k => ⟨[topV, topV, topV, .pointer (some ⟨2, 0, none⟩), .pointer (some ⟨3, 0, none⟩), .int .i64 (wdM h (a, b) (c, d) k), topV, topV, .slice (some ⟨0, 0, none⟩) h.length h.length, .int .i64 h.length, .int .i64 k, topV, topV, topV, topV, topV, topV, topV, topV, topV, topV, topV, topV, topV, topV, topV, topV, topV, topV, topV], [some ⟨.view, .ints (flat h)⟩, none, some ⟨.box, .vals [.int .i64 a, .int .i64 b, .int .i64 c, .int .i64 d]⟩, some ⟨.box, .vals [.int .i64 0, .int .i64 0]⟩]⟩
def re_wFr : Nat → Ex := fun _ => .exit 0
def rs_wFr (h : List Pt) (a b c d : Int) : Nat → St := fun k => ⟨[topV, topV, topV, .pointer (some ⟨2, 0, none⟩), .pointer (some ⟨3, 0, none⟩), .int .i64 (wdM h (a, b) (c, d) h.length), topV, topV, topV, topV, topV, topV, topV, topV, topV, topV, topV, topV, topV, topV, topV, topV, topV, topV, topV, topV, topV, topV, topV, topV], [some ⟨.view, .ints (flat h)⟩, none, some ⟨.box, .vals [.int .i64 a, .int .i64 b, .int .i64 c, .int .i64 d]⟩, some ⟨.box, .vals [.int .i64 0, .int .i64 0]⟩]⟩
set_option maxRecDepth 100000 in
theorem tr_wFr (h : List Pt) (a b c d : Int) (k : Nat) : bodyL Try.prog EWd 30 12 noL 1 c_wFr k_wFr 4 (s_wFr h a b c d k) = brT (decide ((↑k : Int) < (↑h.length : Int))) (.need ((0 : Int) ≤ (↑k : Int) ∧ (↑k : Int) < (↑h.length : Int)) (.need ((0 : Nat) + (↑k : Int).toNat * (2 : Nat) + (2 : Nat) ≤ (flat h).length) (.need (ptB a b = true) (.need (ptB c d = true) (.need (ptB ((flat h).getD ((0 : Nat) + (↑k : Int).toNat * (2 : Nat)) (0 : Int)) ((flat h).getD ((0 : Nat) + (↑k : Int).toNat * (2 : Nat) + (1 : Nat)) (0 : Int)) = true) (.leaf .normal ⟨[topV, topV, topV, .pointer (some ⟨2, 0, none⟩), .pointer (some ⟨3, 0, none⟩), .int .i64 (if wdM h (a, b) (c, d) k < crossI a b c d ((flat h).getD (0 + (↑k : Int).toNat * 2) 0) ((flat h).getD (0 + (↑k : Int).toNat * 2 + 1) 0) then crossI a b c d ((flat h).getD (0 + (↑k : Int).toNat * 2) 0) ((flat h).getD (0 + (↑k : Int).toNat * 2 + 1) 0) else wdM h (a, b) (c, d) k), topV, topV, .slice (some ⟨0, 0, none⟩) (h.length) (h.length), .int .i64 ((↑h.length : Int)), .int .i64 (IntKind.i64.wrap ((↑k : Int) + 1)), topV, topV, topV, topV, topV, topV, topV, topV, topV, topV, topV, topV, topV, topV, topV, topV, topV, topV, topV], [some ⟨.view, .ints (flat h)⟩, none, some ⟨.box, .vals [.int .i64 (a), .int .i64 (b), .int .i64 (c), .int .i64 (d)]⟩, some ⟨.box, .vals [.int .i64 (0), .int .i64 (0)]⟩]⟩)))))) (.leaf (.exit 0) ⟨[topV, topV, topV, .pointer (some ⟨2, 0, none⟩), .pointer (some ⟨3, 0, none⟩), .int .i64 (wdM h (a, b) (c, d) k), topV, topV, topV, topV, topV, topV, topV, topV, topV, topV, topV, topV, topV, topV, topV, topV, topV, topV, topV, topV, topV, topV, topV, topV], [some ⟨.view, .ints (flat h)⟩, none, some ⟨.box, .vals [.int .i64 (a), .int .i64 (b), .int .i64 (c), .int .i64 (d)]⟩, some ⟨.box, .vals [.int .i64 (0), .int .i64 (0)]⟩]⟩) := by kernel_rfl
set_option maxRecDepth 100000 in
theorem nl_wFr : loopsOf c_wFr = [] := by kernel_rfl
def inv_wFr (h : List Pt) (a b c d : Int) : Nat → Prop := fun k => k ≤ h.length
def me_wFr (h : List Pt) (a b c d : Int) : Nat → Nat := fun k => h.length - k
/-- A round of this loop. -/
def Round_wFr (h : List Pt) (a b c d : Int) : Prop := ∀ xx : Nat, inv_wFr h a b c d xx → (bodyL Try.prog EWd 30 12 noL 1 c_wFr k_wFr 4 (s_wFr h a b c d xx)).ok (RoundEnd 4 (s_wFr h a b c d) (inv_wFr h a b c d) (me_wFr h a b c d) re_wFr (rs_wFr h a b c d) xx) (fun _ _ => False)
def e_wFr (s : St) (k : Ex → St → Tree) : Option Tree := match Nat.beq s.tmps.length 30, pickL s.tmps [3, 4, 5, 8, 9, 10], s.mem with
  | true, [.pointer (some ⟨2, 0, none⟩), .pointer (some ⟨3, 0, none⟩), .int .i64 m, .slice (some ⟨0, 0, none⟩) n _, .int .i64 n1, .int .i64 kk], [some ⟨.view, .ints xs⟩, none, some ⟨.box, .vals [.int .i64 a, .int .i64 b, .int .i64 c, .int .i64 d]⟩, some ⟨.box, .vals [.int .i64 z1, .int .i64 z2]⟩] => some (needs [kk = 0, m = 0, n1 = n, z1 = 0, z2 = 0, xs.length = n * 2, n ≤ 1000, allV (ptsA n xs) = true, ptB a b = true, ptB c d = true] (k (.exit 0) ⟨[topV, topV, topV, .pointer (some ⟨2, 0, none⟩), .pointer (some ⟨3, 0, none⟩), .int .i64 (wdM (ptsA n xs) (a, b) (c, d) n), topV, topV, topV, topV, topV, topV, topV, topV, topV, topV, topV, topV, topV, topV, topV, topV, topV, topV, topV, topV, topV, topV, topV, topV], [some ⟨.view, .ints xs⟩, none, some ⟨.box, .vals [.int .i64 a, .int .i64 b, .int .i64 c, .int .i64 d]⟩, some ⟨.box, .vals [.int .i64 0, .int .i64 0]⟩]⟩))
  | _, _, _ => none
theorem eqW_is (v p : Pt) : negB false (v.1 == p.1 && (v.2 == p.2 && true)) = decide (p = v) := by
  rw [Bool.eq_iff_iff]
  simp only [negB, Bool.and_true, Bool.and_eq_true, beq_iff_eq, decide_eq_true_eq]
  constructor
  · rintro ⟨h1, h2⟩; exact Prod.ext h1.symm h2.symm
  · rintro rfl; exact ⟨rfl, rfl⟩
set_option maxRecDepth 100000 in
theorem round_ixW (ws : List Pt) (v : Pt) (hl : ws.length ≤ 1000) (hk : idxW v ws < ws.length) : Round_ixW ws v := by
  intro i h1
  have h1 : i ≤ idxW v ws := h1
  rw [tr_ixW]
  simp only [Int.toNat_natCast, Nat.zero_add, flat_get0, flat_get1, flat_length, eqW_is]
  refine brT_ok.2 ⟨fun hlt => ?_, fun hge => ?_⟩
  · have hlt := of_decide_eq_true hlt
    simp only [Tree.ok]
    rw [wsucc (n := ws.length) (by omega) (by omega)]
    refine ⟨by omega, by omega, brT_ok.2 ⟨fun g => ?_, fun g => ?_⟩⟩
    · have g := of_decide_eq_true g
      have e : idxW v ws = i := by
        rcases Nat.lt_or_ge i (idxW v ws) with hh | hh
        · exact absurd g (idxW_no v ws i hh)
        · omega
      refine ⟨rfl, [], ?_⟩
      unfold rs_ixW
      rw [e]
      repeat' (first | exact True.intro | exact rfl | exact fun _ => rfl | refine And.intro ?_ ?_)
    · have g := of_decide_eq_false g
      have hne : i ≠ idxW v ws := fun e => g (by rw [e]; exact idxW_at v ws hk)
      refine ⟨i + 1, [], ?_, ?_, rfl, rfl, ?_⟩
      · show i + 1 ≤ idxW v ws; omega
      · show ws.length - (i + 1) < ws.length - i; omega
      · repeat' (first | exact True.intro | exact rfl | exact fun _ => rfl | refine And.intro ?_ ?_)
  · have hge := of_decide_eq_false hge
    omega
set_option maxRecDepth 100000 in
theorem lg_ixW : LoopE Try.prog e_ixW c_ixW := by
  intro s k t F H hlt ht
  unfold e_ixW at hlt
  split at hlt
  rotate_left
  · cases hlt
  rename_i hlen hpick hmem
  obtain ⟨tmps, mem⟩ := s
  simp only at hlen hpick hmem
  subst hmem
  obtain rfl := Option.some.inj hlt
  obtain ⟨⟨rfl, rfl, h1, h2, h3, _⟩, ht2⟩ := needs_ok ht
  clear ht hlt
  obtain ⟨ws, rfl, rfl⟩ := even_flat h1
  rw [ptsA_flat] at ht2 h3
  refine ⟨_, _, ht2, loop_run mixed EWd_ok (s_ixW ws (_, _)) (inv_ixW ws (_, _)) (me_ixW ws (_, _)) re_ixW (rs_ixW ws (_, _)) k_ixW (fun _ => rfl) (noLoops nl_ixW) (round_ixW ws (_, _) h2 h3) (x := 0) (Nat.zero_le _) (π := []) rfl ?_⟩
  refine ⟨rfl, rfl, ?_, wvs_spread' [0, 3, 7, 8] hlen rfl ?_⟩
  · repeat' (first | exact True.intro | exact rfl | exact wv_top _ _ | exact fun _ => rfl | assumption | exact Eq.symm (by assumption) | exact vI0 rfl | refine And.intro ?_ ?_)
  · rw [hpick]
    repeat' (first | exact True.intro | exact rfl | exact wv_top _ _ | exact fun _ => rfl | assumption | exact Eq.symm (by assumption) | exact vI0 rfl | refine And.intro ?_ ?_)
set_option maxRecDepth 100000 in
theorem round_wAt (h : List Pt) (i : Nat) (hl : h.length ≤ 1000) (hv : allV h = true) (hi : i < h.length) : Round_wAt h i := by
  intro k h1
  have h1 : k ≤ h.length := h1
  rw [tr_wAt]
  have hm := nx_lt hi
  simp only [nx_mod hi (by omega), Int.toNat_natCast, Nat.zero_add, flat_get0, flat_get1, flat_length]
  refine brT_ok.2 ⟨fun hlt => ?_, fun hge => ?_⟩
  · have hlt := of_decide_eq_true hlt
    have hk : k < h.length := by omega
    rw [wsucc (n := h.length) hk (by omega)]
    simp only [Tree.ok]
    refine ⟨allV_at hv hi, allV_at hv hm, allV_at hv hk, by omega, by omega, by omega, by omega, by omega, by omega, by omega, k + 1, [], ?_, ?_, rfl, rfl, ?_⟩
    · show k + 1 ≤ h.length; omega
    · show h.length - (k + 1) < h.length - k; omega
    · repeat' (first | exact True.intro | exact rfl | exact fun _ => rfl | refine And.intro ?_ ?_)
  · have hge := of_decide_eq_false hge
    obtain rfl : k = h.length := by omega
    refine ⟨rfl, [], ?_⟩
    repeat' (first | exact True.intro | exact rfl | exact fun _ => rfl | refine And.intro ?_ ?_)
set_option maxRecDepth 100000 in
theorem lg_wAt : LoopE Try.prog e_wAt c_wAt := by
  intro s k t F H hlt ht
  unfold e_wAt at hlt
  split at hlt
  rotate_left
  · cases hlt
  rename_i hlen hpick hmem
  obtain ⟨tmps, mem⟩ := s
  simp only at hlen hpick hmem
  subst hmem
  obtain rfl := Option.some.inj hlt
  obtain ⟨⟨rfl, rfl, h0, h3, h1, h2, h4, _⟩, ht2⟩ := needs_ok ht
  clear ht hlt
  obtain ⟨h, rfl, rfl⟩ := even_flat h1
  obtain ⟨i, rfl⟩ := Int.eq_ofNat_of_zero_le h0
  rw [ptsA_flat] at ht2 h4
  simp only [Int.toNat_natCast] at ht2
  refine ⟨_, _, ht2, loop_run mixed EWd_ok (s_wAt h i) (inv_wAt h i) (me_wAt h i) re_wAt (rs_wAt h i) k_wAt (fun _ => rfl) (noLoops nl_wAt) (round_wAt h i h2 h4 (by omega)) (x := 0) (Nat.zero_le _) (π := []) rfl ?_⟩
  refine ⟨rfl, rfl, ?_, wvs_spread' [0, 1, 6, 7] hlen rfl ?_⟩
  · repeat' (first | exact True.intro | exact rfl | exact wv_top _ _ | exact fun _ => rfl | assumption | exact Eq.symm (by assumption) | exact vI0 rfl | refine And.intro ?_ ?_)
  · rw [hpick]
    repeat' (first | exact True.intro | exact rfl | exact wv_top _ _ | exact fun _ => rfl | assumption | exact Eq.symm (by assumption) | exact vI0 rfl | refine And.intro ?_ ?_)
set_option maxRecDepth 100000 in
theorem round_wFr (h : List Pt) (a b c d : Int) (hl : h.length ≤ 1000) (hv : allV h = true) (h5 : ptB a b = true) (h6 : ptB c d = true) : Round_wFr h a b c d := by
  intro k h1
  have h1 : k ≤ h.length := h1
  rw [tr_wFr]
  simp only [Int.toNat_natCast, Nat.zero_add, flat_get0, flat_get1, flat_length]
  refine brT_ok.2 ⟨fun hlt => ?_, fun hge => ?_⟩
  · have hlt := of_decide_eq_true hlt
    have hk : k < h.length := by omega
    rw [wsucc (n := h.length) hk (by omega)]
    simp only [Tree.ok]
    refine ⟨by omega, by omega, h5, h6, allV_at hv hk, k + 1, [], ?_, ?_, rfl, rfl, ?_⟩
    · show k + 1 ≤ h.length; omega
    · show h.length - (k + 1) < h.length - k; omega
    · repeat' (first | exact True.intro | exact rfl | exact fun _ => rfl | refine And.intro ?_ ?_)
  · have hge := of_decide_eq_false hge
    obtain rfl : k = h.length := by omega
    refine ⟨rfl, [], ?_⟩
    repeat' (first | exact True.intro | exact rfl | exact fun _ => rfl | refine And.intro ?_ ?_)
set_option maxRecDepth 100000 in
theorem lg_wFr : LoopE Try.prog e_wFr c_wFr := by
  intro s k t F H hlt ht
  unfold e_wFr at hlt
  split at hlt
  rotate_left
  · cases hlt
  rename_i hlen hpick hmem
  obtain ⟨tmps, mem⟩ := s
  simp only at hlen hpick hmem
  subst hmem
  obtain rfl := Option.some.inj hlt
  obtain ⟨⟨rfl, rfl, rfl, rfl, rfl, h1, h2, h4, h5, h6, _⟩, ht2⟩ := needs_ok ht
  clear ht hlt
  obtain ⟨h, rfl, rfl⟩ := even_flat h1
  rw [ptsA_flat] at ht2 h4
  refine ⟨_, _, ht2, loop_run mixed EWd_ok (s_wFr h _ _ _ _) (inv_wFr h _ _ _ _) (me_wFr h _ _ _ _) re_wFr (rs_wFr h _ _ _ _) k_wFr (fun _ => rfl) (noLoops nl_wFr) (round_wFr h _ _ _ _ h2 h4 h5 h6) (x := 0) (Nat.zero_le _) (π := []) rfl ?_⟩
  refine ⟨rfl, rfl, ?_, wvs_spread' [3, 4, 5, 8, 9, 10] hlen rfl ?_⟩
  · repeat' (first | exact True.intro | exact rfl | exact wv_top _ _ | exact fun _ => rfl | assumption | exact Eq.symm (by assumption) | exact vI0 rfl | refine And.intro ?_ ?_)
  · rw [hpick]
    repeat' (first | exact True.intro | exact rfl | exact wv_top _ _ | exact fun _ => rfl | assumption | exact Eq.symm (by assumption) | exact vI0 rfl | refine And.intro ?_ ?_)
theorem Lr_ixW {fn : Func} (hf : Try.prog.funcs[98]? = some fn) : LoopsGood Try.prog (lt1 e_ixW) 0 (codeOf fn) := by
  obtain rfl := fn_is Try.func98 hf
  exact lt1_good lg_ixW
theorem Lr_wAt {fn : Func} (hf : Try.prog.funcs[95]? = some fn) : LoopsGood Try.prog (lt1 e_wAt) 0 (codeOf fn) := by
  obtain rfl := fn_is Try.func95 hf
  exact lt1_good lg_wAt
theorem Lr_wFr {fn : Func} (hf : Try.prog.funcs[97]? = some fn) : LoopsGood Try.prog (lt1 e_wFr) 0 (codeOf fn) := by
  obtain rfl := fn_is Try.func97 hf
  exact lt1_good lg_wFr
def LWd : FuncId → LT := fun f => match f with
  | 99 => lt1 e_mnW
  | 98 => lt1 e_ixW
  | 96 => lt1 e_frL
  | 95 => lt1 e_wAt
  | 97 => lt1 e_wFr
  | _ => noL
def EWe : Env := mkE TWd R4 LWd
theorem EWe_ok : EnvOk Try.prog EWe := mkEOk TWd_ok R4_ok (by
  intro f fn hf
  unfold LWd
  split
  all_goals first | with_reducible exact Lr_mnW hf | with_reducible exact Lr_ixW hf | with_reducible exact Lr_frL hf | with_reducible exact Lr_wAt hf | with_reducible exact Lr_wFr hf | exact noL_good)
set_option maxRecDepth 100000 in
theorem tr_mnWF (ws : List Pt) : bodyV Try.prog EWe 30 12 99 [.row ws.length (.ints (flat ws)), .v (.func (.func 100) #[] #[])] = brT (decide ((↑ws.length : Int) < 1)) (.bad) (.need ((0 : Int) ≤ (0 : Int) ∧ (0 : Int) < (↑ws.length : Int)) (.need ((2 : Nat) ≤ (flat ws).length) (.need ((1 : Int) = (1 : Int)) (.need ((0 : Int) = (0 : Int)) (.need ((0 : Int) = (0 : Int)) (.need ((flat ws).length = ws.length * (2 : Nat)) (.need (ws.length ≤ (1000 : Nat)) (.need ((0 : Nat) < ws.length) (.need (okWs (ptsA ws.length (flat ws))) (.need ((flat ws).getD (0 : Nat) (0 : Int) = ((ptsA ws.length (flat ws)).getD (0 : Nat) ((0 : Int), (0 : Int))).1 ∧ (flat ws).getD (1 : Nat) (0 : Int) = ((ptsA ws.length (flat ws)).getD (0 : Nat) ((0 : Int), (0 : Int))).2) (.fin (.agg #[.int .i64 (((ptsA ws.length (flat ws)).getD (bsN (ptsA ws.length (flat ws)) ws.length) (0, 0)).1), .int .i64 (((ptsA ws.length (flat ws)).getD (bsN (ptsA ws.length (flat ws)) ws.length) (0, 0)).2)]) []))))))))))) := by kernel_rfl
set_option maxRecDepth 100000 in
theorem tr_ixWF (ws : List Pt) (x y : Int) : bodyV Try.prog EWe 30 12 98 [.row ws.length (.ints (flat ws)), .v (.agg #[iv x, iv y])] = .need ((0 : Int) = (0 : Int)) (.need ((↑ws.length : Int) = (↑ws.length : Int)) (.need ((flat ws).length = ws.length * (2 : Nat)) (.need (ws.length ≤ (1000 : Nat)) (.need (idxW (x, y) (ptsA ws.length (flat ws)) < ws.length) (.fin (.int .i64 ((↑(idxW (x, y) (ptsA ws.length (flat ws))) : Int))) []))))) := by kernel_rfl
set_option maxRecDepth 100000 in
theorem tr_frLF (a b c d : Int) : bodyV Try.prog EWe 30 12 96 [.v (iv a), .v (iv b), .v (iv c), .v (iv d)] = .need ((0 : Int) ≤ a ∧ a ≤ (100000000000000 : Int)) (.need ((1 : Int) ≤ b ∧ b ≤ (100000000000000 : Int)) (.need ((0 : Int) ≤ c ∧ c ≤ (100000000000000 : Int)) (.need ((1 : Int) ≤ d ∧ d ≤ (100000000000000 : Int)) (.fin (.bool (decide (a * d < c * b))) [])))) := by kernel_rfl
set_option maxRecDepth 100000 in
theorem tr_wAtF (h : List Pt) (i : Int) : bodyV Try.prog EWe 30 12 95 [.row h.length (.ints (flat h)), .v (iv i)] = .need ((0 : Int) = (0 : Int)) (.need ((0 : Int) = (0 : Int)) (.need ((0 : Int) ≤ i) (.need (i < (↑h.length : Int)) (.need ((flat h).length = h.length * (2 : Nat)) (.need (h.length ≤ (1000 : Nat)) (.need (allV (ptsA h.length (flat h)) = true) (.need ((0 : Int) ≤ i ∧ i < (↑h.length : Int)) (.need ((0 : Nat) + i.toNat * (2 : Nat) + (2 : Nat) ≤ (flat h).length) (.need (¬(↑h.length : Int) = (0 : Int)) (.need ((0 : Int) ≤ (IntKind.i64.wrap (i + (1 : Int))).tmod (↑h.length : Int) ∧ (IntKind.i64.wrap (i + (1 : Int))).tmod (↑h.length : Int) < (↑h.length : Int)) (.need ((0 : Nat) + ((IntKind.i64.wrap (i + (1 : Int))).tmod (↑h.length : Int)).toNat * (2 : Nat) + (2 : Nat) ≤ (flat h).length) (.fin (.tuple #[.int .i64 (wdM (ptsA h.length (flat h)) ((ptsA h.length (flat h)).getD i.toNat (0, 0)) (nxP (ptsA h.length (flat h)) i.toNat) h.length), .int .i64 (IntKind.i64.wrap (IntKind.i64.wrap (IntKind.i64.wrap ((flat h).getD (0 + i.toNat * 2) 0 - (flat h).getD (0 + ((IntKind.i64.wrap (i + 1)).tmod (↑h.length : Int)).toNat * 2) 0) * IntKind.i64.wrap ((flat h).getD (0 + i.toNat * 2) 0 - (flat h).getD (0 + ((IntKind.i64.wrap (i + 1)).tmod (↑h.length : Int)).toNat * 2) 0)) + IntKind.i64.wrap (IntKind.i64.wrap ((flat h).getD (0 + i.toNat * 2 + 1) 0 - (flat h).getD (0 + ((IntKind.i64.wrap (i + 1)).tmod (↑h.length : Int)).toNat * 2 + 1) 0) * IntKind.i64.wrap ((flat h).getD (0 + i.toNat * 2 + 1) 0 - (flat h).getD (0 + ((IntKind.i64.wrap (i + 1)).tmod (↑h.length : Int)).toNat * 2 + 1) 0))))]) [])))))))))))) := by kernel_rfl
set_option maxRecDepth 100000 in
theorem tr_wFrF (h : List Pt) (a b c d : Int) : bodyV Try.prog EWe 30 12 97 [.row h.length (.ints (flat h)), .v (.agg #[iv a, iv b, iv c, iv d])] = .need ((0 : Int) = (0 : Int)) (.need ((0 : Int) = (0 : Int)) (.need ((↑h.length : Int) = (↑h.length : Int)) (.need ((0 : Int) = (0 : Int)) (.need ((0 : Int) = (0 : Int)) (.need ((flat h).length = h.length * (2 : Nat)) (.need (h.length ≤ (1000 : Nat)) (.need (allV (ptsA h.length (flat h)) = true) (.need (ptB a b = true) (.need (ptB c d = true) (brT (!(ptB a b && ptB c d)) (.fin (.agg #[.int .i64 (wdM (ptsA h.length (flat h)) (a, b) (c, d) h.length), .int .i64 (-1)]) []) (.fin (.agg #[.int .i64 (wdM (ptsA h.length (flat h)) (a, b) (c, d) h.length), .int .i64 (IntKind.i64.wrap (IntKind.i64.wrap (IntKind.i64.wrap (a - c) * IntKind.i64.wrap (a - c)) + IntKind.i64.wrap (IntKind.i64.wrap (b - d) * IntKind.i64.wrap (b - d))))]) []))))))))))) := by kernel_rfl
end Go.Proofs.Ytpjdnplpiamjcaa
namespace Go.Proofs.Ytpjdnplpiamjcaa
set_option linter.all false
open Go.RowKit
/-- A vector that leads on in the order of points. -/
def posV (u : Pt) : Prop := 0 < u.1 ∨ u.1 = 0 ∧ 0 < u.2
def cr2 (u v : Pt) : Int := u.1 * v.2 - u.2 * v.1
def dif (b a : Pt) : Pt := (b.1 - a.1, b.2 - a.2)
theorem cr_tr {u v w : Pt} (hu : posV u) (hv : posV v) (hw : posV w) (h1 : 0 ≤ cr2 u v) (h2 : 0 ≤ cr2 v w) : 0 ≤ cr2 u w ∧ (0 < cr2 u v ∨ 0 < cr2 v w → 0 < cr2 u w) := by
  obtain ⟨a, b⟩ := u
  obtain ⟨c, d⟩ := v
  obtain ⟨e, f⟩ := w
  unfold posV cr2 at *
  simp only at *
  rcases hv with hc | ⟨rfl, hd⟩
  · have ha : 0 < a := by
      rcases hu with h | ⟨rfl, hb⟩
      · exact h
      · have := Int.mul_pos hb hc
        omega
    rcases hw with he | ⟨rfl, hf⟩
    · have id : c * (a * f - b * e) = a * (c * f - d * e) + e * (a * d - b * c) := by grind
      have n1 := Int.mul_nonneg (Int.le_of_lt ha) h2
      have n2 := Int.mul_nonneg (Int.le_of_lt he) h1
      generalize a * f - b * e = X at *
      refine ⟨?_, fun h => ?_⟩
      · rcases Int.lt_or_le X 0 with h | h
        · have := Int.mul_neg_of_pos_of_neg hc h
          omega
        · exact h
      · rcases Int.lt_or_le 0 X with h' | h'
        · exact h'
        · have := Int.mul_nonpos_of_nonneg_of_nonpos (Int.le_of_lt hc) h'
          rcases h with h | h
          · have := Int.mul_pos he h
            omega
          · have := Int.mul_pos ha h
            omega
    · have := Int.mul_pos ha hf
      omega
  · have he : e = 0 ∧ 0 < f := by
      rcases hw with h | h
      · have := Int.mul_pos hd h
        omega
      · exact h
    obtain ⟨rfl, hf⟩ := he
    have ha : 0 ≤ a := by omega
    have n1 := Int.mul_nonneg ha (Int.le_of_lt hf)
    refine ⟨by omega, fun h => ?_⟩
    have : 0 < a := by
      rcases Int.lt_or_le 0 a with h' | h'
      · exact h'
      · obtain rfl : a = 0 := by omega
        omega
    have := Int.mul_pos this hf
    omega
theorem plt_pos {a b : Pt} : pltB a b = true ↔ posV (dif b a) := by
  rw [pltB_iff]
  unfold posV dif
  simp only
  omega
theorem oP_tri (a b : Pt) : a = b ∨ pltB a b = true ∨ pltB b a = true := by
  obtain ⟨a1, a2⟩ := a
  obtain ⟨b1, b2⟩ := b
  simp only [pltB_iff, Prod.mk.injEq]
  omega
theorem oP_trans {a b c : Pt} (h1 : pltB a b = true) (h2 : pltB b c = true) : pltB a c = true := by
  rw [pltB_iff] at *
  omega
theorem oP_irr {a : Pt} (h : pltB a a = true) : False := by
  rw [pltB_iff] at h
  omega
theorem oP_asym {a b : Pt} (h1 : pltB a b = true) (h2 : pltB b a = true) : False := oP_irr (oP_trans h1 h2)
theorem crP_bb (a b : Pt) : crP a b b = 0 := by unfold crP crossI; grind
theorem crP_ba (a b : Pt) : crP a b a = 0 := by unfold crP crossI; grind
theorem ch_tr1 {a b p q : Pt} (h1 : pltB a b = true) (h2 : pltB a p = true) (h3 : pltB a q = true) (h4 : 0 ≤ crP a b q) (h5 : crP a b p ≤ 0) : 0 ≤ crP a p q := by
  have := cr_tr (plt_pos.1 h2) (plt_pos.1 h1) (plt_pos.1 h3) (by unfold cr2 dif; unfold crP crossI at h5; simp only; grind) h4
  exact this.1
theorem ch_tr2 {a b p q : Pt} (h1 : pltB q b = true) (h2 : pltB a b = true) (h3 : pltB b p = true) (h4 : 0 ≤ crP a b q) (h5 : 0 ≤ crP a b p) : 0 ≤ crP b p q := by
  have := cr_tr (plt_pos.1 h1) (plt_pos.1 h2) (plt_pos.1 h3) (by unfold cr2 dif; unfold crP crossI at h4; simp only; grind) (by unfold cr2 dif; unfold crP crossI at h5; simp only; grind)
  have h := this.1
  unfold cr2 dif at h
  unfold crP crossI
  simp only at h
  grind
theorem ch_tr3 {a' a b p : Pt} (h1 : pltB a' a = true) (h2 : pltB a b = true) (h3 : pltB b p = true) (h4 : 0 < crP a' a b) (h5 : 0 < crP a b p) : 0 < crP a' a p := by
  have k4 : 0 < cr2 (dif a a') (dif b a) := by unfold cr2 dif; unfold crP crossI at h4; simp only; grind
  have k5 : 0 < cr2 (dif b a) (dif p b) := by unfold cr2 dif; unfold crP crossI at h5; simp only; grind
  have := (cr_tr (plt_pos.1 h1) (plt_pos.1 h2) (plt_pos.1 h3) (Int.le_of_lt k4) (Int.le_of_lt k5)).2 (.inl k4)
  have e : crP a' a p = cr2 (dif a a') (dif b a) + cr2 (dif a a') (dif p b) := by unfold crP crossI cr2 dif; simp only; grind
  omega
/-- A point put on a stack, whose top is its head. -/
def pushR : List Pt → Pt → List Pt
  | b :: a :: r, p => if crP a b p ≤ 0 then pushR (a :: r) p else p :: b :: a :: r
  | [b], p => [p, b]
  | [], p => [p]
theorem take_rev {st : List Pt} {j : Nat} (h : j < st.length) : (st.take (j + 1)).reverse = st.getD j (0, 0) :: (st.take j).reverse := by
  rw [← List.take_append_getElem h]
  simp [h]
theorem pushP_aux (st : List Pt) (p : Pt) : ∀ j, j ≤ st.length → (st.take (popN st p j) ++ [p]).reverse = pushR (st.take j).reverse p
  | 0, _ => by simp [popN, pushR]
  | 1, h => by
    match st, h with
    | x :: t, _ => simp [popN, pushR]
  | j + 2, h => by
    have ih := pushP_aux st p (j + 1) (by omega)
    rw [take_rev (j := j + 1) (by omega)]
    rw [take_rev (j := j) (by omega)] at ih ⊢
    simp only [popN, pushR]
    split
    · exact ih
    · rw [List.reverse_append, take_rev (j := j + 1) (by omega), take_rev (j := j) (by omega)]
      rfl
theorem pushP_rev (st : List Pt) (p : Pt) : (pushP st p).reverse = pushR st.reverse p := by
  have := pushP_aux st p st.length (Nat.le_refl _)
  rw [List.take_length] at this
  exact this
/-- The stack of a chain, its top first. -/
def chnR (R ps : List Pt) : List Pt := ps.foldl pushR R
theorem chn_rev : ∀ (ps st : List Pt), (chn st ps).reverse = chnR st.reverse ps
  | [], _ => rfl
  | p :: r, st => by
    have := chn_rev r (pushP st p)
    rw [pushP_rev] at this
    exact this
def Dsc (R : List Pt) : Prop := R.Pairwise fun a b => pltB b a = true
def Cvx : List Pt → Prop
  | c :: b :: a :: r => 0 < crP a b c ∧ Cvx (b :: a :: r)
  | _ => True
def Lft (S : Pt → Prop) : List Pt → Prop
  | b :: a :: r => (∀ q, S q → 0 ≤ crP a b q) ∧ Lft S (a :: r)
  | _ => True
def Bot (S : Pt → Prop) (R : List Pt) : Prop := ∃ m, R.getLast? = some m ∧ ∀ q, S q → q = m ∨ pltB m q = true
def Top (S : Pt → Prop) (R : List Pt) : Prop := ∃ m, R.head? = some m ∧ ∀ q, S q → q = m ∨ pltB q m = true
/-- The chain of a set of points. -/
structure ChI (S : Pt → Prop) (R : List Pt) : Prop where
  mem : ∀ z ∈ R, S z
  dsc : Dsc R
  cvx : Cvx R
  lft : Lft S R
  bot : Bot S R
  top : Top S R
theorem Cvx.tail {b : Pt} {R : List Pt} (h : Cvx (b :: R)) : Cvx R := by
  match R, h with
  | [], _ => trivial
  | [_], _ => trivial
  | _ :: _ :: _, h => exact h.2
theorem Lft.tail {S : Pt → Prop} {b : Pt} {R : List Pt} (h : Lft S (b :: R)) : Lft S R := by
  match R, h with
  | [], _ => trivial
  | _ :: _, h => exact h.2
theorem Dsc.tail {b : Pt} {R : List Pt} (h : Dsc (b :: R)) : Dsc R := (List.pairwise_cons.1 h).2
theorem Dsc.lt {b a : Pt} {R : List Pt} (h : Dsc (b :: R)) (ha : a ∈ R) : pltB a b = true := (List.pairwise_cons.1 h).1 a ha
def adS (S : Pt → Prop) (p : Pt) : Pt → Prop := fun q => S q ∨ q = p
/-- What turns left stays left of a further point. -/
theorem lft_add {S : Pt → Prop} {p : Pt} : ∀ {r : List Pt} {b a : Pt}, Dsc (b :: a :: r) → Cvx (b :: a :: r) → Lft S (b :: a :: r) → pltB b p = true → 0 < crP a b p → Lft (adS S p) (b :: a :: r)
  | [], b, a, hd, hc, hl, hp, h => ⟨fun q hq => by
      rcases hq with hq | rfl
      · exact hl.1 q hq
      · exact Int.le_of_lt h, trivial⟩
  | a' :: r, b, a, hd, hc, hl, hp, h => by
    have h1 : pltB a b = true := hd.lt (by simp)
    have h2 : pltB a' a = true := hd.tail.lt (by simp)
    refine ⟨fun q hq => ?_, lft_add hd.tail hc.tail hl.2 (oP_trans h1 hp) (ch_tr3 h2 h1 hp hc.1 h)⟩
    rcases hq with hq | rfl
    · exact hl.1 q hq
    · exact Int.le_of_lt h
/-- A further point put on the stack. -/
theorem push_ok {S : Pt → Prop} {p : Pt} : ∀ {r : List Pt} {b : Pt}, (∀ z ∈ b :: r, S z) → Dsc (b :: r) → Cvx (b :: r) → Lft S (b :: r) → Bot S (b :: r) → (∀ q, S q → pltB q p = true) → (∀ q, S q → pltB b q = true → 0 ≤ crP b p q) → ChI (adS S p) (pushR (b :: r) p)
  | [], b, hm, hd, hc, hl, hb, hp, hK => by
    obtain ⟨m, h1, h2⟩ := hb
    obtain rfl : b = m := by simpa using h1
    have hbp := hp b (hm b (by simp))
    refine ⟨fun z hz => ?_, ?_, trivial, ⟨fun q hq => ?_, trivial⟩, ⟨b, rfl, fun q hq => ?_⟩, ⟨p, rfl, fun q hq => ?_⟩⟩
    · have hz : z = p ∨ z = b := by simpa [pushR] using hz
      rcases hz with rfl | rfl
      · exact .inr rfl
      · exact .inl (hm _ (by simp))
    · show List.Pairwise _ [p, b]
      simpa using hbp
    · rcases hq with hq | rfl
      · rcases h2 q hq with rfl | h
        · rw [crP_ba]; exact Int.le_refl _
        · exact hK q hq h
      · rw [crP_bb]; exact Int.le_refl _
    · rcases hq with hq | rfl
      · exact h2 q hq
      · exact .inr hbp
    · rcases hq with hq | rfl
      · exact .inr (hp q hq)
      · exact .inl rfl
  | a :: r, b, hm, hd, hc, hl, hb, hp, hK => by
    have hab : pltB a b = true := hd.lt (by simp)
    have hap := hp a (hm a (by simp))
    have hbp := hp b (hm b (by simp))
    have hb' : Bot S (a :: r) := by
      obtain ⟨m, h1, h2⟩ := hb
      exact ⟨m, by rw [List.getLast?_cons_cons] at h1; exact h1, h2⟩
    unfold pushR
    split
    · rename_i hle
      exact push_ok (fun z hz => hm z (List.mem_cons_of_mem _ hz)) hd.tail hc.tail hl.2 hb' hp fun q hq h => ch_tr1 hab hap h (hl.1 q hq) hle
    · rename_i hgt
      have hgt : 0 < crP a b p := by omega
      refine ⟨fun z hz => ?_, ?_, ⟨hgt, hc⟩, ⟨fun q hq => ?_, lft_add hd hc hl hbp hgt⟩, ?_, ⟨p, rfl, fun q hq => ?_⟩⟩
      · rcases List.mem_cons.1 hz with rfl | hz
        · exact .inr rfl
        · exact .inl (hm _ hz)
      · exact List.pairwise_cons.2 ⟨fun z hz => hp z (hm z hz), hd⟩
      · rcases hq with hq | rfl
        · rcases oP_tri b q with rfl | h | h
          · rw [crP_ba]; exact Int.le_refl _
          · exact hK q hq h
          · exact ch_tr2 h hab hbp (hl.1 q hq) (Int.le_of_lt hgt)
        · rw [crP_bb]; exact Int.le_refl _
      · obtain ⟨m, h1, h2⟩ := hb
        refine ⟨m, by rw [List.getLast?_cons_cons]; exact h1, fun q hq => ?_⟩
        rcases hq with hq | rfl
        · exact h2 q hq
        · have hm' : m ∈ b :: a :: r := List.mem_of_getLast? h1
          exact .inr (hp m (hm m hm'))
      · rcases hq with hq | rfl
        · exact .inr (hp q hq)
        · exact .inl rfl
theorem ChI.ext {S T : Pt → Prop} {R : List Pt} (h : ChI S R) (e : ∀ q, S q ↔ T q) : ChI T R := by
  have : S = T := funext fun q => propext (e q)
  rw [← this]
  exact h
theorem chnR_ok : ∀ {ps : List Pt} {S : Pt → Prop} {R : List Pt}, ChI S R → Asc ps → (∀ q, S q → ∀ p ∈ ps, pltB q p = true) → ChI (fun q => S q ∨ q ∈ ps) (chnR R ps)
  | [], S, R, h, _, _ => h.ext fun q => by simp
  | p :: r, S, R, h, ha, hS => by
    have ha' := List.pairwise_cons.1 ha
    have hp : ChI (adS S p) (pushR R p) := by
      match R, h with
      | [], h => obtain ⟨m, h1, _⟩ := h.top; cases h1
      | b :: t, h =>
        refine push_ok h.mem h.dsc h.cvx h.lft h.bot (fun q hq => hS q hq p (by simp)) fun q hq hbq => ?_
        obtain ⟨m, h1, h2⟩ := h.top
        obtain rfl : b = m := by simpa using h1
        rcases h2 q hq with rfl | h3
        · exact (oP_irr hbq).elim
        · exact (oP_asym hbq h3).elim
    have := chnR_ok hp ha'.2 fun q hq z hz => by
      rcases hq with hq | rfl
      · exact hS q hq z (List.mem_cons_of_mem _ hz)
      · exact ha'.1 z hz
    refine this.ext fun q => ?_
    unfold adS
    simp only [List.mem_cons]
    constructor
    · rintro ((h | h) | h)
      · exact .inl h
      · exact .inr (.inl h)
      · exact .inr (.inr h)
    · rintro (h | h | h)
      · exact .inl (.inl h)
      · exact .inl (.inr h)
      · exact .inr h
/-- The chain of points in order. -/
theorem chain_ok {ps : List Pt} (h : Asc ps) (h0 : ps ≠ []) : ChI (fun q => q ∈ ps) (chnR [] ps) := by
  match ps, h, h0 with
  | p :: r, h, _ =>
    have ha' := List.pairwise_cons.1 h
    have h1 : ChI (fun q => q = p) [p] := ⟨fun z hz => by simpa using hz, by unfold Dsc; simp, trivial, trivial, ⟨p, rfl, fun q hq => .inl hq⟩, ⟨p, rfl, fun q hq => .inl hq⟩⟩
    have := chnR_ok h1 ha'.2 fun q hq z hz => by rw [show q = p from hq]; exact ha'.1 z hz
    exact this.ext fun q => by simp
/-- The last of a chain, the least of all. -/
theorem ChI.tail {S : Pt → Prop} {b a : Pt} {R : List Pt} (h : ChI S (b :: a :: R)) : (∀ z ∈ a :: R, S z) ∧ Dsc (a :: R) ∧ Cvx (a :: R) ∧ Lft S (a :: R) ∧ Bot S (a :: R) := by
  refine ⟨fun z hz => h.mem z (List.mem_cons_of_mem _ hz), h.dsc.tail, h.cvx.tail, h.lft.tail, ?_⟩
  obtain ⟨m, h1, h2⟩ := h.bot
  exact ⟨m, by rw [List.getLast?_cons_cons] at h1; exact h1, h2⟩
/-- Two chains with the same top: the next is the same. -/
theorem next_le {S : Pt → Prop} {b a a' : Pt} {r' : List Pt} (ha : S a) (hd : pltB a b = true) (hl : ∀ q, S q → 0 ≤ crP a b q) (hm' : ∀ z ∈ b :: a' :: r', S z) (hd' : Dsc (b :: a' :: r')) (hc' : Cvx (b :: a' :: r')) (hl' : Lft S (b :: a' :: r')) (hb' : Bot S (b :: a' :: r')) : ¬ pltB a a' = true := by
  intro hlt
  have hab' : pltB a' b = true := hd'.lt (by simp)
  have k1 := hl a' (hm' a' (by simp))
  have k2 := hl'.1 a ha
  have e1 : crP a b a' = cr2 (dif b a') (dif a' a) := by unfold crP crossI cr2 dif; simp only; grind
  have e2 : crP a' b a = -cr2 (dif b a') (dif a' a) := by unfold crP crossI cr2 dif; simp only; grind
  match r', hm', hd', hc', hl', hb' with
  | [], hm', hd', hc', hl', hb' =>
    obtain ⟨m, h1, h2⟩ := hb'
    obtain rfl : a' = m := by simpa using h1
    rcases h2 a ha with rfl | h
    · exact oP_irr hlt
    · exact oP_asym hlt h
  | c :: t, hm', hd', hc', hl', hb' =>
    have hca : pltB c a' = true := hd'.tail.lt (by simp)
    have k3 := hc'.1
    have k4 := hl'.2.1 a ha
    have e3 : crP c a' b = cr2 (dif a' c) (dif b a') := by unfold crP crossI cr2 dif; simp only; grind
    have e4 : crP c a' a = cr2 (dif a' a) (dif a' c) := by unfold crP crossI cr2 dif; simp only; grind
    have := (cr_tr (plt_pos.1 hlt) (plt_pos.1 hca) (plt_pos.1 hab') (by omega) (by omega)).2 (.inr (by omega))
    have e5 : cr2 (dif b a') (dif a' a) = -cr2 (dif a' a) (dif b a') := by unfold cr2 dif; simp only; grind
    omega
theorem chain_eq {S : Pt → Prop} : ∀ {r r' : List Pt} {b : Pt}, (∀ z ∈ b :: r, S z) → Dsc (b :: r) → Cvx (b :: r) → Lft S (b :: r) → Bot S (b :: r) → (∀ z ∈ b :: r', S z) → Dsc (b :: r') → Cvx (b :: r') → Lft S (b :: r') → Bot S (b :: r') → r = r'
  | [], [], _, _, _, _, _, _, _, _, _, _, _ => rfl
  | [], a' :: r', b, hm, hd, hc, hl, hb, hm', hd', hc', hl', hb' => by
    obtain ⟨m, h1, h2⟩ := hb
    obtain rfl : b = m := by simpa using h1
    have h3 : pltB a' b = true := hd'.lt (by simp)
    rcases h2 a' (hm' a' (by simp)) with rfl | h
    · exact (oP_irr h3).elim
    · exact (oP_asym h3 h).elim
  | a :: r, [], b, hm, hd, hc, hl, hb, hm', hd', hc', hl', hb' => by
    obtain ⟨m, h1, h2⟩ := hb'
    obtain rfl : b = m := by simpa using h1
    have h3 : pltB a b = true := hd.lt (by simp)
    rcases h2 a (hm a (by simp)) with rfl | h
    · exact (oP_irr h3).elim
    · exact (oP_asym h3 h).elim
  | a :: r, a' :: r', b, hm, hd, hc, hl, hb, hm', hd', hc', hl', hb' => by
    have h1 := next_le (hm a (by simp)) (hd.lt (by simp)) hl.1 hm' hd' hc' hl' hb'
    have h2 := next_le (hm' a' (by simp)) (hd'.lt (by simp)) hl'.1 hm hd hc hl hb
    have e : a = a' := by
      rcases oP_tri a a' with h | h | h
      · exact h
      · exact absurd h h1
      · exact absurd h h2
    subst e
    have bt : ∀ {t : List Pt}, Bot S (b :: a :: t) → Bot S (a :: t) := fun {t} h => by
      obtain ⟨m, q1, q2⟩ := h
      exact ⟨m, by rw [List.getLast?_cons_cons] at q1; exact q1, q2⟩
    rw [chain_eq (fun z hz => hm z (List.mem_cons_of_mem _ hz)) hd.tail hc.tail hl.2 (bt hb) (fun z hz => hm' z (List.mem_cons_of_mem _ hz)) hd'.tail hc'.tail hl'.2 (bt hb')]
/-- A chain of a set is the only one. -/
theorem ChI.uniq {S : Pt → Prop} {R R' : List Pt} (h : ChI S R) (h' : ChI S R') : R = R' := by
  obtain ⟨m, h1, h2⟩ := h.top
  obtain ⟨m', h1', h2'⟩ := h'.top
  match R, R', h, h', h1, h1' with
  | b :: r, b' :: r', h, h', h1, h1' =>
    obtain rfl : b = m := by simpa using h1
    obtain rfl : b' = m' := by simpa using h1'
    have e : b = b' := by
      rcases h2 b' (h'.mem b' (by simp)) with e | e
      · exact e.symm
      · rcases h2' b (h.mem b (by simp)) with e' | e'
        · exact e'
        · exact (oP_asym e e').elim
    subst e
    rw [chain_eq h.mem h.dsc h.cvx h.lft h.bot h'.mem h'.dsc h'.cvx h'.lft h'.bot]
end Go.Proofs.Ytpjdnplpiamjcaa
namespace Go.Proofs.Ytpjdnplpiamjcaa
set_option linter.all false
open Go.RowKit
def ngP (p : Pt) : Pt := (-p.1, -p.2)
def ngL (ps : List Pt) : List Pt := ps.map ngP
theorem ngP_ng (p : Pt) : ngP (ngP p) = p := by
  unfold ngP
  simp
theorem ngL_ng (ps : List Pt) : ngL (ngL ps) = ps := by
  unfold ngL
  rw [List.map_map]
  conv => rhs; rw [← List.map_id ps]
  refine List.map_congr_left fun p _ => ngP_ng p
theorem crP_ng (a b c : Pt) : crP (ngP a) (ngP b) (ngP c) = crP a b c := by unfold crP crossI ngP; simp only; grind
theorem plt_ng (a b : Pt) : pltB (ngP a) (ngP b) = pltB b a := by
  rw [Bool.eq_iff_iff, pltB_iff, pltB_iff]
  unfold ngP
  simp only
  omega
theorem pushR_ng : ∀ (R : List Pt) (p : Pt), pushR (ngL R) (ngP p) = ngL (pushR R p)
  | [], _ => rfl
  | [_], _ => rfl
  | b :: a :: r, p => by
    have ih := pushR_ng (a :: r) p
    show (if crP (ngP a) (ngP b) (ngP p) ≤ 0 then pushR (ngP a :: ngL r) (ngP p) else ngP p :: ngP b :: ngP a :: ngL r) = ngL (if crP a b p ≤ 0 then pushR (a :: r) p else p :: b :: a :: r)
    rw [crP_ng]
    split
    · exact ih
    · rfl
theorem chnR_ng : ∀ (ps R : List Pt), chnR (ngL R) (ngL ps) = ngL (chnR R ps)
  | [], _ => rfl
  | p :: r, R => by
    have := chnR_ng r (pushR R p)
    rw [← pushR_ng] at this
    exact this
theorem mem_ngL {ps : List Pt} {q : Pt} : q ∈ ngL ps ↔ ngP q ∈ ps := by
  unfold ngL
  rw [List.mem_map]
  constructor
  · rintro ⟨z, hz, rfl⟩
    rw [ngP_ng]
    exact hz
  · intro h
    exact ⟨_, h, ngP_ng q⟩
theorem asc_ng {s : List Pt} (h : Asc s) : Asc (ngL s.reverse) := by
  unfold Asc ngL
  rw [List.pairwise_map, List.pairwise_reverse]
  exact h.imp fun {a b} hab => by rw [plt_ng]; exact hab
/-- The lower and the upper half of the hull, the last point first. -/
def lowR (s : List Pt) : List Pt := chnR [] s
def uppR (s : List Pt) : List Pt := chnR [] s.reverse
theorem low_ok {s : List Pt} (h : Asc s) (h0 : s ≠ []) : ChI (fun q => q ∈ s) (lowR s) := chain_ok h h0
theorem upp_ok {s : List Pt} (h : Asc s) (h0 : s ≠ []) : ChI (fun q => ngP q ∈ s) (ngL (uppR s)) := by
  have h1 := chain_ok (asc_ng h) (by unfold ngL; simpa using h0)
  have e : ngL (uppR s) = chnR [] (ngL s.reverse) := by
    unfold uppR
    rw [← chnR_ng]
    rfl
  rw [e]
  exact h1.ext fun q => by rw [mem_ngL, List.mem_reverse]
/-- Places of a list, the last one first. -/
theorem cvx_at : ∀ {R : List Pt}, Cvx R → ∀ k, k + 2 < R.length → 0 < crP (R.getD (k + 2) (0, 0)) (R.getD (k + 1) (0, 0)) (R.getD k (0, 0))
  | [], _, k, h => by simp at h
  | [_], _, k, h => by simp at h
  | [_, _], _, k, h => absurd h (by simp only [List.length_cons, List.length_nil]; omega)
  | c :: b :: a :: r, hc, 0, _ => hc.1
  | c :: b :: a :: r, hc, k + 1, h => by
    have := cvx_at hc.2 k (by simpa using h)
    simpa using this
theorem lft_at {S : Pt → Prop} : ∀ {R : List Pt}, Lft S R → ∀ k, k + 1 < R.length → ∀ q, S q → 0 ≤ crP (R.getD (k + 1) (0, 0)) (R.getD k (0, 0)) q
  | [], _, k, h => by simp at h
  | [_], _, k, h => by simp at h
  | b :: a :: r, hl, 0, _ => hl.1
  | b :: a :: r, hl, k + 1, h => by
    have := lft_at hl.2 k (by simpa using h)
    simpa using this
theorem dsc_at {R : List Pt} (h : Dsc R) {i j : Nat} (hij : i < j) (hj : j < R.length) : pltB (R.getD j (0, 0)) (R.getD i (0, 0)) = true := by
  have := List.pairwise_iff_getElem.1 h i j (by omega) hj hij
  simpa [hj, show i < R.length by omega] using this
theorem getD_mem' {R : List Pt} {k : Nat} (h : k < R.length) : R.getD k (0, 0) ∈ R := by simp [h]
/-- On the line of an edge of a chain: between its ends. -/
theorem on_edge {S : Pt → Prop} {R : List Pt} (h : ChI S R) {k : Nat} (hk : k + 1 < R.length) {q : Pt} (hq : S q) (h0 : crP (R.getD (k + 1) (0, 0)) (R.getD k (0, 0)) q = 0) :
    ¬ pltB q (R.getD (k + 1) (0, 0)) = true ∧ ¬ pltB (R.getD k (0, 0)) q = true := by
  have hab := dsc_at h.dsc (i := k) (j := k + 1) (by omega) hk
  refine ⟨fun hlt => ?_, fun hlt => ?_⟩
  · by_cases h2 : k + 2 < R.length
    · have c := cvx_at h.cvx k h2
      have l := lft_at h.lft (k + 1) h2 q hq
      have hxa := dsc_at h.dsc (i := k + 1) (j := k + 2) (by omega) h2
      generalize R.getD k (0, 0) = b at *
      generalize R.getD (k + 1) (0, 0) = a at *
      generalize R.getD (k + 2) (0, 0) = x at *
      have e1 : crP x a b = cr2 (dif a x) (dif b a) := by unfold crP crossI cr2 dif; simp only; grind
      have e2 : crP x a q = cr2 (dif a q) (dif a x) := by unfold crP crossI cr2 dif; simp only; grind
      have e3 : crP a b q = cr2 (dif a q) (dif b a) := by unfold crP crossI cr2 dif; simp only; grind
      have := (cr_tr (plt_pos.1 hlt) (plt_pos.1 hxa) (plt_pos.1 hab) (by omega) (by omega)).2 (.inr (by omega))
      omega
    · obtain ⟨m, h1, h3⟩ := h.bot
      have hm : R.getD (k + 1) (0, 0) = m := by
        rw [List.getLast?_eq_getElem?] at h1
        have : R.length - 1 = k + 1 := by omega
        rw [this] at h1
        simp [List.getD, h1]
      rw [hm] at hlt
      rcases h3 q hq with rfl | h4
      · exact oP_irr hlt
      · exact oP_asym hlt h4
  · rcases Nat.eq_zero_or_pos k with rfl | h2
    · obtain ⟨m, h1, h3⟩ := h.top
      have hm : R.getD 0 (0, 0) = m := by
        match R, h1 with
        | _ :: _, h1 => simpa using h1
      rw [hm] at hlt
      rcases h3 q hq with rfl | h4
      · exact oP_irr hlt
      · exact oP_asym hlt h4
    · obtain ⟨k, rfl⟩ : ∃ j, k = j + 1 := ⟨k - 1, by omega⟩
      have c := cvx_at h.cvx k (by omega)
      have l := lft_at h.lft k (by omega) q hq
      have hbc := dsc_at h.dsc (i := k) (j := k + 1) (by omega) (by omega)
      generalize R.getD k (0, 0) = c' at *
      generalize R.getD (k + 1) (0, 0) = b at *
      generalize R.getD (k + 1 + 1) (0, 0) = a at *
      have e0 : crP (R.getD (k + 2) (0, 0)) b c' = crP (R.getD (k + 2) (0, 0)) b c' := rfl
      have e1 : crP a b c' = cr2 (dif b a) (dif c' b) := by unfold crP crossI cr2 dif; simp only; grind
      have e2 : crP b c' q = cr2 (dif c' b) (dif q b) := rfl
      have e3 : crP a b q = cr2 (dif b a) (dif q b) := by unfold crP crossI cr2 dif; simp only; grind
      have := (cr_tr (plt_pos.1 hab) (plt_pos.1 hbc) (plt_pos.1 hlt) (by omega) (by omega)).2 (.inl (by omega))
      omega
/-- A point of a chain on the line of an edge: an end. -/
theorem on_own {S : Pt → Prop} {R : List Pt} (h : ChI S R) {k : Nat} (hk : k + 1 < R.length) {q : Pt} (hq : q ∈ R) (h0 : crP (R.getD (k + 1) (0, 0)) (R.getD k (0, 0)) q = 0) : q = R.getD (k + 1) (0, 0) ∨ q = R.getD k (0, 0) := by
  obtain ⟨h1, h2⟩ := on_edge h hk (h.mem q hq) h0
  obtain ⟨j, hj, hjq⟩ := List.getElem_of_mem hq
  have ej : R.getD j (0, 0) = q := by simp [hj, hjq]
  rw [← ej] at h1 h2 ⊢
  rcases Nat.lt_or_ge j k with c | c
  · exact absurd (dsc_at h.dsc c (by omega)) h2
  · rcases Nat.lt_or_ge (k + 1) j with d | d
    · exact absurd (dsc_at h.dsc d hj) h1
    · have : j = k ∨ j = k + 1 := by omega
      rcases this with rfl | rfl
      · exact .inr rfl
      · exact .inl rfl
/-- A point of the other half on the line of an edge: an end. -/
theorem on_other {s : List Pt} {R U : List Pt} (h : ChI (fun q => q ∈ s) R) (g : ChI (fun q => ngP q ∈ s) (ngL U)) {k : Nat} (hk : k + 1 < R.length) {q : Pt} (hq : q ∈ U) (h0 : crP (R.getD (k + 1) (0, 0)) (R.getD k (0, 0)) q = 0) : q = R.getD (k + 1) (0, 0) ∨ q = R.getD k (0, 0) := by
  have hqs : q ∈ s := by
    have := g.mem (ngP q) (mem_ngL.2 (by rw [ngP_ng]; exact hq))
    rw [ngP_ng] at this
    exact this
  obtain ⟨h1, h2⟩ := on_edge h hk hqs h0
  rcases oP_tri q (R.getD (k + 1) (0, 0)) with e | e | ea
  · exact .inl e
  · exact absurd e h1
  rcases oP_tri q (R.getD k (0, 0)) with e | eb | e
  · exact .inr e
  rotate_left
  · exact absurd e h2
  exfalso
  have ha : R.getD (k + 1) (0, 0) ∈ s := h.mem _ (getD_mem' hk)
  have hb : R.getD k (0, 0) ∈ s := h.mem _ (getD_mem' (by omega))
  generalize R.getD (k + 1) (0, 0) = a at *
  generalize R.getD k (0, 0) = b at *
  -- the neighbours in the other half
  obtain ⟨j, hj, hjq⟩ := List.getElem_of_mem hq
  have hlen : (ngL U).length = U.length := by unfold ngL; simp
  have ej : ∀ i, i < U.length → (ngL U).getD i (0, 0) = ngP (U.getD i (0, 0)) := fun i hi => by unfold ngL; simp [hi]
  have eq' : U.getD j (0, 0) = q := by simp [hj, hjq]
  have j0 : 0 < j := by
    rcases Nat.eq_zero_or_pos j with rfl | c
    · exfalso
      obtain ⟨m, m1, m2⟩ := g.top
      have em : ngP q = m := by
        match U, hj, hjq, m1 with
        | x :: t, _, hjq, m1 =>
          have e1 : x = q := by simpa using hjq
          have e2 : ngP x = m := by simpa [ngL] using m1
          rw [← e1]
          exact e2
      rcases m2 (ngP a) (by show ngP (ngP a) ∈ s; rw [ngP_ng]; exact ha) with e | e
      · have := congrArg ngP e
        rw [← em, ngP_ng, ngP_ng] at this
        subst this
        exact oP_irr ea
      · rw [← em, plt_ng] at e
        exact oP_asym ea e
    · exact c
  have j1 : j + 1 < U.length := by
    rcases Nat.lt_or_ge (j + 1) U.length with c | c
    · exact c
    · exfalso
      obtain ⟨m, m1, m2⟩ := g.bot
      have em : ngP q = m := by
        rw [List.getLast?_eq_getElem?, hlen] at m1
        have : U.length - 1 = j := by omega
        rw [this] at m1
        have := ej j hj
        rw [eq'] at this
        rw [← this]
        simp [List.getD, m1]
      rcases m2 (ngP b) (by show ngP (ngP b) ∈ s; rw [ngP_ng]; exact hb) with e | e
      · have := congrArg ngP e
        rw [← em, ngP_ng, ngP_ng] at this
        subst this
        exact oP_irr eb
      · rw [← em, plt_ng] at e
        exact oP_asym eb e
  obtain ⟨i, rfl⟩ : ∃ i, j = i + 1 := ⟨j - 1, by omega⟩
  have c := cvx_at g.cvx i (by omega)
  have l1 := lft_at g.lft i (by omega)
  have l2 := lft_at g.lft (i + 1) (by omega)
  have d1 := dsc_at g.dsc (i := i) (j := i + 1) (by omega) (by omega)
  have d2 := dsc_at g.dsc (i := i + 1) (j := i + 2) (by omega) (by omega)
  rw [ej _ (by omega), ej _ (by omega), ej _ (by omega), crP_ng, eq'] at c
  rw [ej _ (by omega), ej _ (by omega), plt_ng, eq'] at d1 d2
  have l1a := l1 (ngP a) (by show ngP (ngP a) ∈ s; rw [ngP_ng]; exact ha)
  have l1b := l1 (ngP b) (by show ngP (ngP b) ∈ s; rw [ngP_ng]; exact hb)
  have l2a := l2 (ngP a) (by show ngP (ngP a) ∈ s; rw [ngP_ng]; exact ha)
  have l2b := l2 (ngP b) (by show ngP (ngP b) ∈ s; rw [ngP_ng]; exact hb)
  rw [ej _ (by omega), ej _ (by omega), crP_ng, eq'] at l1a l1b l2a l2b
  clear l1 l2
  generalize U.getD i (0, 0) = y at *
  generalize U.getD (i + 2) (0, 0) = z at *
  -- y before q before z
  have e1 : crP z q y = cr2 (dif z q) (dif q y) := by unfold crP crossI cr2 dif; simp only; grind
  have e2 : crP z q b = cr2 (dif b q) (dif z q) := by unfold crP crossI cr2 dif; simp only; grind
  have e3 : crP q y a = cr2 (dif q y) (dif q a) := by unfold crP crossI cr2 dif; simp only; grind
  have e4 : crP a b q = cr2 (dif b q) (dif q a) := by unfold crP crossI cr2 dif; simp only; grind
  have t1 := (cr_tr (plt_pos.1 eb) (plt_pos.1 d2) (plt_pos.1 d1) (by omega) (by omega)).2 (.inr (by omega))
  have t2 := (cr_tr (plt_pos.1 eb) (plt_pos.1 d1) (plt_pos.1 ea) (by omega) (by omega)).2 (.inl (by omega))
  omega
end Go.Proofs.Ytpjdnplpiamjcaa
namespace Go.Proofs.Ytpjdnplpiamjcaa
set_option linter.all false
open Go.RowKit
/-- Strictly convex: all other vertices are on the left of each edge. -/
structure CvH (h : List Pt) : Prop where
  three : 3 ≤ h.length
  nodup : h.Nodup
  left : ∀ j, j < h.length → ∀ v ∈ h, v ≠ h.getD j (0, 0) → v ≠ nxP h j → 0 < crP (h.getD j (0, 0)) (nxP h j) v
theorem getD_append (a b : List Pt) (k : Nat) : (a ++ b).getD k (0, 0) = if k < a.length then a.getD k (0, 0) else b.getD (k - a.length) (0, 0) := by
  simp only [List.getD, List.getElem?_append]
  split <;> rfl
theorem getD_take' (a : List Pt) {k m : Nat} (h : k < m) : (a.take m).getD k (0, 0) = a.getD k (0, 0) := by
  simp [List.getD, h]
theorem low_at (s : List Pt) {k : Nat} (h : k < (lowR s).length) : (chn [] s).getD k (0, 0) = (lowR s).getD ((lowR s).length - 1 - k) (0, 0) := by
  have e := chn_rev s []
  have e' : (lowR s) = (chn [] s).reverse := e.symm
  rw [e'] at h ⊢
  rw [getD_rev (by simp at h ⊢; omega)]
  congr 1
  simp at h ⊢
  omega
theorem upp_at (s : List Pt) {k : Nat} (h : k < (uppR s).length) : (chn [] (revP s)).getD k (0, 0) = (uppR s).getD ((uppR s).length - 1 - k) (0, 0) := low_at (revP s) h
theorem low_len (s : List Pt) : (lowR s).length = (chn [] s).length := by
  have e : (lowR s) = (chn [] s).reverse := (chn_rev s []).symm
  rw [e, List.length_reverse]
theorem upp_len (s : List Pt) : (uppR s).length = (chn [] (revP s)).length := low_len (revP s)
theorem head_at {R : List Pt} {m : Pt} (h : R.head? = some m) : R.getD 0 (0, 0) = m := by
  match R, h with
  | _ :: _, h => simpa using h
theorem last_at {R : List Pt} {m : Pt} (h : R.getLast? = some m) : R.getD (R.length - 1) (0, 0) = m := by
  rw [List.getLast?_eq_getElem?] at h
  simp [List.getD, h]
theorem ngL_len (R : List Pt) : (ngL R).length = R.length := by unfold ngL; simp
theorem ngL_at {R : List Pt} {i : Nat} (hi : i < R.length) : (ngL R).getD i (0, 0) = ngP (R.getD i (0, 0)) := by unfold ngL; simp [hi]
theorem top_uniq {S : Pt → Prop} {a b : Pt} (ha : S a) (hb : S b) (h1 : ∀ q, S q → q = a ∨ pltB q a = true) (h2 : ∀ q, S q → q = b ∨ pltB q b = true) : a = b := by
  rcases h1 b hb with e | e
  · exact e.symm
  · rcases h2 a ha with e' | e'
    · exact e'
    · exact (oP_asym e e').elim
/-- The ends of both halves: the greatest and the least point. -/
theorem hul_ends {s : List Pt} (h : Asc s) (h0 : s ≠ []) :
    0 < (lowR s).length ∧ 0 < (uppR s).length ∧ (lowR s).getD 0 (0, 0) = (uppR s).getD ((uppR s).length - 1) (0, 0) ∧ (uppR s).getD 0 (0, 0) = (lowR s).getD ((lowR s).length - 1) (0, 0) ∧
    (∀ q ∈ s, q = (lowR s).getD 0 (0, 0) ∨ pltB q ((lowR s).getD 0 (0, 0)) = true) ∧ (∀ q ∈ s, q = (uppR s).getD 0 (0, 0) ∨ pltB ((uppR s).getD 0 (0, 0)) q = true) := by
  have L := low_ok h h0
  have U := upp_ok h h0
  obtain ⟨m, m1, m2⟩ := L.top
  obtain ⟨n, n1, n2⟩ := L.bot
  obtain ⟨p, p1, p2⟩ := U.top
  obtain ⟨q, q1, q2⟩ := U.bot
  have l1 : 0 < (lowR s).length := by
    rcases Nat.eq_zero_or_pos (lowR s).length with e | e
    · rw [List.eq_nil_of_length_eq_zero e] at m1; cases m1
    · exact e
  have l2 : 0 < (uppR s).length := by
    rcases Nat.eq_zero_or_pos (uppR s).length with e | e
    · rw [List.eq_nil_of_length_eq_zero e] at p1; cases p1
    · exact e
  have e1 := head_at m1
  have e2 := last_at n1
  have e3 := head_at p1
  have e4 := last_at q1
  rw [ngL_at l2] at e3
  rw [ngL_len, ngL_at (by omega)] at e4
  have mm : ∀ {k}, k < (lowR s).length → (lowR s).getD k (0, 0) ∈ s := fun hk => L.mem _ (getD_mem' hk)
  have mu : ∀ {k}, k < (uppR s).length → (uppR s).getD k (0, 0) ∈ s := fun hk => by
    have := U.mem _ (mem_ngL.2 (by rw [ngP_ng]; exact getD_mem' hk) : ngP _ ∈ ngL (uppR s))
    rw [ngP_ng] at this
    exact this
  have k1 : ∀ q ∈ s, q = (lowR s).getD 0 (0, 0) ∨ pltB q ((lowR s).getD 0 (0, 0)) = true := fun x hx => by rw [e1]; exact m2 x hx
  have k2 : ∀ q ∈ s, q = (uppR s).getD 0 (0, 0) ∨ pltB ((uppR s).getD 0 (0, 0)) q = true := fun x hx => by
    have := p2 (ngP x) (by show ngP (ngP x) ∈ s; rw [ngP_ng]; exact hx)
    rw [← e3, plt_ng] at this
    rcases this with e | e
    · have := congrArg ngP e
      rw [ngP_ng, ngP_ng] at this
      exact .inl this
    · exact .inr e
  have k3 : ∀ q ∈ s, q = (uppR s).getD ((uppR s).length - 1) (0, 0) ∨ pltB q ((uppR s).getD ((uppR s).length - 1) (0, 0)) = true := fun x hx => by
    have := q2 (ngP x) (by show ngP (ngP x) ∈ s; rw [ngP_ng]; exact hx)
    rw [← e4, plt_ng] at this
    rcases this with e | e
    · have := congrArg ngP e
      rw [ngP_ng, ngP_ng] at this
      exact .inl this
    · exact .inr e
  refine ⟨l1, l2, top_uniq (S := fun q => q ∈ s) (mm l1) (mu (by omega)) k1 k3, ?_, k1, k2⟩
  rw [e2]
  have hn : n ∈ s := by rw [← e2]; exact mm (by omega)
  rcases k2 n hn with e | e
  · exact e.symm
  · rcases n2 _ (mu l2) with e' | e'
    · exact e'
    · exact (oP_asym e e').elim
/-- Each edge of the hull is one of its lower or of its upper half. -/
theorem hul_edge {s : List Pt} (h : Asc s) (h3 : 3 ≤ s.length) {j : Nat} (hj : j < (hulL s).length) :
    (∃ k, k + 1 < (lowR s).length ∧ (hulL s).getD j (0, 0) = (lowR s).getD (k + 1) (0, 0) ∧ nxP (hulL s) j = (lowR s).getD k (0, 0)) ∨
    (∃ k, k + 1 < (uppR s).length ∧ (hulL s).getD j (0, 0) = (uppR s).getD (k + 1) (0, 0) ∧ nxP (hulL s) j = (uppR s).getD k (0, 0)) := by
  have h0 : s ≠ [] := by intro e; rw [e] at h3; simp at h3
  obtain ⟨l1, l2, e1, e2, _, _⟩ := hul_ends h h0
  have eH : hulL s = (chn [] s).take ((chn [] s).length - 1) ++ (chn [] (revP s)).take ((chn [] (revP s)).length - 1) := by unfold hulL; rw [if_neg (by omega)]
  have q1 := low_len s
  have q2 := upp_len s
  have hl : (hulL s).length = ((lowR s).length - 1) + ((uppR s).length - 1) := by rw [eH, q1, q2]; simp
  have ga : ∀ k, k + 1 < (lowR s).length → (hulL s).getD k (0, 0) = (lowR s).getD ((lowR s).length - 1 - k) (0, 0) := fun k hk => by
    rw [eH, getD_append, if_pos (by simp; omega), getD_take' _ (by omega), low_at s (by omega)]
  have gb : ∀ k, k + 1 < (uppR s).length → (hulL s).getD ((lowR s).length - 1 + k) (0, 0) = (uppR s).getD ((uppR s).length - 1 - k) (0, 0) := fun k hk => by
    have : ((chn [] s).take ((chn [] s).length - 1)).length = (lowR s).length - 1 := by simp; omega
    rw [eH, getD_append, if_neg (by omega), this, Nat.add_sub_cancel_left, getD_take' _ (by omega), upp_at s (by omega)]
  have l1' : 2 ≤ (lowR s).length := by rw [q1]; exact chn_ge (by omega)
  have l2' : 2 ≤ (uppR s).length := by rw [q2]; exact chn_ge (by rw [revP_len]; omega)
  rw [hl] at hj
  unfold nxP
  rw [hl]
  rcases Nat.lt_or_ge j ((lowR s).length - 1) with c | c
  · refine .inl ⟨(lowR s).length - 2 - j, by omega, ?_, ?_⟩
    · rw [ga j (by omega)]
      congr 1
      omega
    · rw [Nat.mod_eq_of_lt (by omega)]
      rcases Nat.lt_or_ge (j + 1) ((lowR s).length - 1) with d | d
      · rw [ga (j + 1) (by omega)]
        congr 1
        omega
      · have : j + 1 = (lowR s).length - 1 + 0 := by omega
        rw [this, gb 0 (by omega), Nat.sub_zero, ← e1]
        congr 1
        omega
  · obtain ⟨i, rfl⟩ : ∃ i, j = (lowR s).length - 1 + i := ⟨j - ((lowR s).length - 1), by omega⟩
    refine .inr ⟨(uppR s).length - 2 - i, by omega, ?_, ?_⟩
    · rw [gb i (by omega)]
      congr 1
      omega
    · rcases Nat.lt_or_ge (i + 1) ((uppR s).length - 1) with d | d
      · rw [Nat.mod_eq_of_lt (by omega), Nat.add_assoc, gb (i + 1) (by omega)]
        congr 1
        omega
      · have : (lowR s).length - 1 + i + 1 = (lowR s).length - 1 + ((uppR s).length - 1) := by omega
        rw [this, Nat.mod_self, ga 0 (by omega), Nat.sub_zero, ← e2]
        congr 1
        omega
theorem mem_hul {s : List Pt} (h3 : 3 ≤ s.length) {v : Pt} (hv : v ∈ hulL s) : v ∈ lowR s ∨ v ∈ uppR s := by
  have eH : hulL s = (chn [] s).take ((chn [] s).length - 1) ++ (chn [] (revP s)).take ((chn [] (revP s)).length - 1) := by unfold hulL; rw [if_neg (by omega)]
  have e1 : (lowR s) = (chn [] s).reverse := (chn_rev s []).symm
  have e2 : (uppR s) = (chn [] (revP s)).reverse := (chn_rev (revP s) []).symm
  rw [eH] at hv
  rcases List.mem_append.1 hv with hv | hv
  · left
    rw [e1, List.mem_reverse]
    exact List.mem_of_mem_take hv
  · right
    rw [e2, List.mem_reverse]
    exact List.mem_of_mem_take hv
theorem low_in {s : List Pt} (h : Asc s) (h0 : s ≠ []) {v : Pt} (hv : v ∈ lowR s) : v ∈ s := (low_ok h h0).mem v hv
theorem upp_in {s : List Pt} (h : Asc s) (h0 : s ≠ []) {v : Pt} (hv : v ∈ uppR s) : v ∈ s := by
  have := (upp_ok h h0).mem _ (mem_ngL.2 (by rw [ngP_ng]; exact hv) : ngP v ∈ ngL (uppR s))
  rw [ngP_ng] at this
  exact this
theorem hul_in {s : List Pt} (h : Asc s) {v : Pt} (hv : v ∈ hulL s) : v ∈ s := by
  by_cases h3 : 3 ≤ s.length
  · have h0 : s ≠ [] := by intro e; rw [e] at h3; simp at h3
    rcases mem_hul h3 hv with q | q
    · exact low_in h h0 q
    · exact upp_in h h0 q
  · unfold hulL at hv
    rw [if_pos (by omega)] at hv
    exact hv
/-- All points are on the left of each edge of the hull. -/
theorem hul_left {s : List Pt} (h : Asc s) (h3 : 3 ≤ s.length) {j : Nat} (hj : j < (hulL s).length) {q : Pt} (hq : q ∈ s) : 0 ≤ crP ((hulL s).getD j (0, 0)) (nxP (hulL s) j) q := by
  have h0 : s ≠ [] := by intro e; rw [e] at h3; simp at h3
  rcases hul_edge h h3 hj with ⟨k, k1, k2, k3⟩ | ⟨k, k1, k2, k3⟩
  · rw [k2, k3]
    exact lft_at (low_ok h h0).lft k k1 q hq
  · rw [k2, k3]
    have := lft_at (upp_ok h h0).lft k (by rw [ngL_len]; exact k1) (ngP q) (by show ngP (ngP q) ∈ s; rw [ngP_ng]; exact hq)
    rw [ngL_at k1, ngL_at (by omega), crP_ng] at this
    exact this
/-- A vertex on the line of an edge is one of its ends. -/
theorem hul_strict {s : List Pt} (h : Asc s) (h3 : 3 ≤ s.length) {j : Nat} (hj : j < (hulL s).length) {v : Pt} (hv : v ∈ hulL s) (n1 : v ≠ (hulL s).getD j (0, 0)) (n2 : v ≠ nxP (hulL s) j) : 0 < crP ((hulL s).getD j (0, 0)) (nxP (hulL s) j) v := by
  have h0 : s ≠ [] := by intro e; rw [e] at h3; simp at h3
  have hl := hul_left h h3 hj (hul_in h hv)
  have L := low_ok h h0
  have U := upp_ok h h0
  rcases Int.lt_or_eq_of_le hl with c | c
  · exact c
  exfalso
  rcases hul_edge h h3 hj with ⟨k, k1, k2, k3⟩ | ⟨k, k1, k2, k3⟩
  · rw [k2] at c n1
    rw [k3] at c n2
    rcases mem_hul h3 hv with q | q
    · rcases on_own L k1 q c.symm with e | e
      · exact n1 e
      · exact n2 e
    · rcases on_other L U k1 q c.symm with e | e
      · exact n1 e
      · exact n2 e
  · rw [k2] at c n1
    rw [k3] at c n2
    have U' : ChI (fun q => q ∈ ngL s) (ngL (uppR s)) := U.ext fun q => mem_ngL.symm
    have L' : ChI (fun q => ngP q ∈ ngL s) (ngL (ngL (lowR s))) := by
      rw [ngL_ng]
      exact L.ext fun q => by rw [mem_ngL, ngP_ng]
    have k1' : k + 1 < (ngL (uppR s)).length := by rw [ngL_len]; exact k1
    have c' : crP ((ngL (uppR s)).getD (k + 1) (0, 0)) ((ngL (uppR s)).getD k (0, 0)) (ngP v) = 0 := by rw [ngL_at k1, ngL_at (by omega), crP_ng]; exact c.symm
    have back : ∀ x, ngP v = ngP x → v = x := fun x e => by
      have := congrArg ngP e
      rwa [ngP_ng, ngP_ng] at this
    have key : ngP v = (ngL (uppR s)).getD (k + 1) (0, 0) ∨ ngP v = (ngL (uppR s)).getD k (0, 0) := by
      rcases mem_hul h3 hv with q | q
      · exact on_other U' L' k1' (mem_ngL.2 (by rw [ngP_ng]; exact q)) c'
      · exact on_own U k1' (mem_ngL.2 (by rw [ngP_ng]; exact q)) c'
    rw [ngL_at k1, ngL_at (by omega)] at key
    rcases key with e | e
    · exact n1 (back _ e)
    · exact n2 (back _ e)
/-- A point of both halves is an end of them. -/
theorem both_end {s : List Pt} (h : Asc s) (h0 : s ≠ []) {i j : Nat} (hi : i < (lowR s).length) (hj : j < (uppR s).length) (e : (lowR s).getD i (0, 0) = (uppR s).getD j (0, 0)) : i = 0 ∨ i + 1 = (lowR s).length := by
  rcases Nat.eq_zero_or_pos i with c | c
  · exact .inl c
  right
  rcases Nat.lt_or_ge (i + 1) (lowR s).length with d | d
  rotate_left
  · omega
  exfalso
  have L := low_ok h h0
  have U := upp_ok h h0
  obtain ⟨l1, l2, e1, e2, k1, k2⟩ := hul_ends h h0
  obtain ⟨i, rfl⟩ : ∃ m, i = m + 1 := ⟨i - 1, by omega⟩
  have c1 := cvx_at L.cvx i d
  have d1 := dsc_at L.dsc (i := i) (j := i + 1) (by omega) (by omega)
  have d2 := dsc_at L.dsc (i := i + 1) (j := i + 2) (by omega) d
  have mw : (lowR s).getD i (0, 0) ∈ s := L.mem _ (getD_mem' (by omega))
  have mu : (lowR s).getD (i + 2) (0, 0) ∈ s := L.mem _ (getD_mem' d)
  have mv : (lowR s).getD (i + 1) (0, 0) ∈ s := L.mem _ (getD_mem' (by omega))
  have w1 := lft_at L.lft i (by omega)
  have w2 := lft_at L.lft (i + 1) d
  have j0 : 0 < j := by
    rcases Nat.eq_zero_or_pos j with rfl | q
    · exfalso
      rw [e] at d2
      rcases k2 _ mu with q | q
      · rw [q] at d2; exact oP_irr d2
      · exact oP_asym d2 q
    · exact q
  have j1 : j + 1 < (uppR s).length := by
    rcases Nat.lt_or_ge (j + 1) (uppR s).length with q | q
    · exact q
    · exfalso
      have ej : j = (uppR s).length - 1 := by omega
      rw [ej, ← e1] at e
      rw [e] at d1
      rcases k1 _ mw with q | q
      · rw [q] at d1; exact oP_irr d1
      · exact oP_asym d1 q
  obtain ⟨j, rfl⟩ : ∃ m, j = m + 1 := ⟨j - 1, by omega⟩
  have c2 := cvx_at U.cvx j (by rw [ngL_len]; exact j1)
  have l3 := lft_at U.lft j (by rw [ngL_len]; omega)
  have l4 := lft_at U.lft (j + 1) (by rw [ngL_len]; exact j1)
  have d3 := dsc_at U.dsc (i := j) (j := j + 1) (by omega) (by rw [ngL_len]; omega)
  have d4 := dsc_at U.dsc (i := j + 1) (j := j + 2) (by omega) (by rw [ngL_len]; exact j1)
  rw [ngL_at (by omega), ngL_at (by omega), ngL_at (by omega), crP_ng, ← e] at c2
  rw [ngL_at (by omega), ngL_at (by omega), plt_ng, ← e] at d3 d4
  have l3w := l3 (ngP ((lowR s).getD i (0, 0))) (by show ngP (ngP _) ∈ s; rw [ngP_ng]; exact mw)
  have l4w := l4 (ngP ((lowR s).getD i (0, 0))) (by show ngP (ngP _) ∈ s; rw [ngP_ng]; exact mw)
  rw [ngL_at (by omega), ngL_at (by omega), crP_ng, ← e] at l3w l4w
  have my : (uppR s).getD j (0, 0) ∈ s := upp_in h h0 (getD_mem' (by omega))
  have mz : (uppR s).getD (j + 2) (0, 0) ∈ s := upp_in h h0 (getD_mem' j1)
  have w1y := w1 _ my
  have w1z := w1 _ mz
  clear l3 l4 w1 w2
  generalize (lowR s).getD i (0, 0) = w at *
  generalize (lowR s).getD (i + 1) (0, 0) = v at *
  generalize (uppR s).getD j (0, 0) = y at *
  generalize (uppR s).getD (j + 2) (0, 0) = z at *
  -- y before v before z
  have f1 : crP z v y = cr2 (dif z v) (dif v y) := by unfold crP crossI cr2 dif; simp only; grind
  have f2 : crP v w y = cr2 (dif v y) (dif w v) := by unfold crP crossI cr2 dif; simp only; grind
  have f3 : crP v w z = -cr2 (dif z v) (dif w v) := by unfold crP crossI cr2 dif; simp only; grind
  have := (cr_tr (plt_pos.1 d4) (plt_pos.1 d3) (plt_pos.1 d1) (by omega) (by omega)).2 (.inl (by omega))
  omega
theorem dsc_nodup {R : List Pt} (h : Dsc R) : R.Nodup := List.Pairwise.imp (fun {a b} hab e => by subst e; exact oP_irr hab) h
theorem nodup_rv {R : List Pt} (h : R.reverse.Nodup) : R.Nodup := (List.pairwise_reverse.1 h).imp fun h => Ne.symm h
theorem hul_nodup {s : List Pt} (h : Asc s) : (hulL s).Nodup := by
  by_cases h3 : 3 ≤ s.length
  rotate_left
  · unfold hulL
    rw [if_pos (by omega)]
    exact List.Pairwise.imp (fun {a b} hab e => by subst e; exact oP_irr hab) h
  have h0 : s ≠ [] := by intro e; rw [e] at h3; simp at h3
  have eH : hulL s = (chn [] s).take ((chn [] s).length - 1) ++ (chn [] (revP s)).take ((chn [] (revP s)).length - 1) := by unfold hulL; rw [if_neg (by omega)]
  have e1 : (lowR s) = (chn [] s).reverse := (chn_rev s []).symm
  have e2 : (uppR s) = (chn [] (revP s)).reverse := (chn_rev (revP s) []).symm
  have n1 : (chn [] s).Nodup := by
    have := dsc_nodup (low_ok h h0).dsc
    rw [e1] at this
    exact nodup_rv this
  have n2 : (chn [] (revP s)).Nodup := by
    have := dsc_nodup (upp_ok h h0).dsc
    unfold ngL at this
    have this : (uppR s).Nodup := (List.pairwise_map.1 this).imp fun h e => h (congrArg ngP e)
    rw [e2] at this
    exact nodup_rv this
  obtain ⟨l1, l2, q1, q2, k1, k2⟩ := hul_ends h h0
  have p1 := low_len s
  have p2 := upp_len s
  have l1' : 2 ≤ (lowR s).length := by rw [p1]; exact chn_ge (by omega)
  have l2' : 2 ≤ (uppR s).length := by rw [p2]; exact chn_ge (by rw [revP_len]; omega)
  rw [eH]
  refine List.nodup_append.2 ⟨n1.sublist (List.take_sublist _ _), n2.sublist (List.take_sublist _ _), fun a ha b hb hab => ?_⟩
  obtain ⟨i, hi, rfl⟩ := List.getElem_of_mem ha
  obtain ⟨j, hj, rfl⟩ := List.getElem_of_mem hb
  have hi' : i < (chn [] s).length - 1 := by simp at hi; omega
  have hj' : j < (chn [] (revP s)).length - 1 := by simp at hj; omega
  have ea : (chn [] s).getD i (0, 0) = (chn [] (revP s)).getD j (0, 0) := by
    have a1 : i < (chn [] s).length := by omega
    have b1 : j < (chn [] (revP s)).length := by omega
    simpa [a1, b1] using hab
  rw [low_at s (by omega), upp_at s (by omega)] at ea
  rcases both_end h h0 (by omega) (by omega) ea with c | c
  · omega
  · have c' : i = 0 := by omega
    have : (lowR s).length - 1 - i = (lowR s).length - 1 := by omega
    rw [this, ← q2] at ea
    -- the least point is not ahead of the last in the upper half
    have d := dsc_at (upp_ok h h0).dsc (i := 0) (j := (uppR s).length - 1 - j) (by omega) (by rw [ngL_len]; omega)
    rw [ngL_at (by omega), ngL_at (by omega), plt_ng, ea] at d
    exact oP_irr d
theorem hul_cvh {s : List Pt} (h : Asc s) (h3 : 3 ≤ (hulL s).length) : CvH (hulL s) := by
  have hs : 3 ≤ s.length := by
    rcases Nat.lt_or_ge s.length 3 with c | c
    · unfold hulL at h3
      rw [if_pos c] at h3
      exact h3
    · exact c
  exact ⟨h3, hul_nodup h, fun j hj v hv n1 n2 => hul_strict h hs hj hv n1 n2⟩
end Go.Proofs.Ytpjdnplpiamjcaa
namespace Go.Proofs.Ytpjdnplpiamjcaa
set_option linter.all false
open Go.RowKit
theorem nd_inj {h : List Pt} (hn : h.Nodup) {i j : Nat} (hi : i < h.length) (hj : j < h.length) (e : h.getD i (0, 0) = h.getD j (0, 0)) : i = j := by
  rcases Nat.lt_trichotomy i j with c | c | c
  · exact absurd (by simpa [hi, hj] using e) (List.pairwise_iff_getElem.1 hn i j hi hj c)
  · exact c
  · exact absurd (by simpa [hi, hj] using e.symm) (List.pairwise_iff_getElem.1 hn j i hj hi c)
theorem nx_ne {h : List Pt} (H : CvH h) {i : Nat} (hi : i < h.length) : (i + 1) % h.length ≠ i ∧ (i + 2) % h.length ≠ i ∧ (i + 2) % h.length ≠ (i + 1) % h.length := by
  have h3 := H.three
  generalize h.length = n at *
  have e1 : (i + 1) % n = if i + 1 = n then 0 else i + 1 := by
    split
    · rename_i e; rw [e, Nat.mod_self]
    · exact Nat.mod_eq_of_lt (by omega)
  have e2 : (i + 2) % n = if i + 2 = n then 0 else if i + 1 = n then 1 else i + 2 := by
    split
    · rename_i e; rw [e, Nat.mod_self]
    · split
      · have : i + 2 = n + 1 := by omega
        rw [this, Nat.add_mod_left, Nat.mod_eq_of_lt (by omega)]
      · exact Nat.mod_eq_of_lt (by omega)
  rw [e1, e2]
  split <;> split <;> (try split) <;> omega
theorem low_hul {s : List Pt} (h : Asc s) (h3 : 3 ≤ s.length) {v : Pt} (hv : v ∈ lowR s) : v ∈ hulL s := by
  have h0 : s ≠ [] := by intro e; rw [e] at h3; simp at h3
  obtain ⟨l1, l2, e1, e2, _, _⟩ := hul_ends h h0
  have eH : hulL s = (chn [] s).take ((chn [] s).length - 1) ++ (chn [] (revP s)).take ((chn [] (revP s)).length - 1) := by unfold hulL; rw [if_neg (by omega)]
  have q1 := low_len s
  have q2 := upp_len s
  have l2' : 2 ≤ (uppR s).length := by rw [q2]; exact chn_ge (by rw [revP_len]; omega)
  rw [eH]
  obtain ⟨i, hi, hiv⟩ := List.getElem_of_mem hv
  have ev : (lowR s).getD i (0, 0) = v := by simp [hi, hiv]
  rcases Nat.eq_zero_or_pos i with rfl | c
  · refine List.mem_append.2 (.inr ?_)
    rw [e1] at ev
    have := upp_at s (k := 0) l2
    rw [Nat.sub_zero, ev] at this
    rw [← this]
    have m : ((chn [] (revP s)).take ((chn [] (revP s)).length - 1)).getD 0 (0, 0) ∈ (chn [] (revP s)).take ((chn [] (revP s)).length - 1) := getD_mem' (by simp; omega)
    rw [getD_take' _ (by omega)] at m
    exact m
  · refine List.mem_append.2 (.inl ?_)
    have := low_at s (k := (lowR s).length - 1 - i) (by omega)
    have e3 : (lowR s).length - 1 - ((lowR s).length - 1 - i) = i := by omega
    rw [e3, ev] at this
    rw [← this]
    have m : ((chn [] s).take ((chn [] s).length - 1)).getD ((lowR s).length - 1 - i) (0, 0) ∈ (chn [] s).take ((chn [] s).length - 1) := getD_mem' (by simp; omega)
    rw [getD_take' _ (by omega)] at m
    exact m
theorem upp_hul {s : List Pt} (h : Asc s) (h3 : 3 ≤ s.length) {v : Pt} (hv : v ∈ uppR s) : v ∈ hulL s := by
  have h0 : s ≠ [] := by intro e; rw [e] at h3; simp at h3
  obtain ⟨l1, l2, e1, e2, _, _⟩ := hul_ends h h0
  have eH : hulL s = (chn [] s).take ((chn [] s).length - 1) ++ (chn [] (revP s)).take ((chn [] (revP s)).length - 1) := by unfold hulL; rw [if_neg (by omega)]
  have q1 := low_len s
  have q2 := upp_len s
  have l1' : 2 ≤ (lowR s).length := by rw [q1]; exact chn_ge (by omega)
  rw [eH]
  obtain ⟨i, hi, hiv⟩ := List.getElem_of_mem hv
  have ev : (uppR s).getD i (0, 0) = v := by simp [hi, hiv]
  rcases Nat.eq_zero_or_pos i with rfl | c
  · refine List.mem_append.2 (.inl ?_)
    rw [e2] at ev
    have := low_at s (k := 0) l1
    rw [Nat.sub_zero, ev] at this
    rw [← this]
    have m : ((chn [] s).take ((chn [] s).length - 1)).getD 0 (0, 0) ∈ (chn [] s).take ((chn [] s).length - 1) := getD_mem' (by simp; omega)
    rw [getD_take' _ (by omega)] at m
    exact m
  · refine List.mem_append.2 (.inr ?_)
    have := upp_at s (k := (uppR s).length - 1 - i) (by omega)
    have e3 : (uppR s).length - 1 - ((uppR s).length - 1 - i) = i := by omega
    rw [e3, ev] at this
    rw [← this]
    have m : ((chn [] (revP s)).take ((chn [] (revP s)).length - 1)).getD ((uppR s).length - 1 - i) (0, 0) ∈ (chn [] (revP s)).take ((chn [] (revP s)).length - 1) := getD_mem' (by simp; omega)
    rw [getD_take' _ (by omega)] at m
    exact m
theorem Lft.sub {S T : Pt → Prop} (hST : ∀ q, T q → S q) : ∀ {R : List Pt}, Lft S R → Lft T R
  | [], _ => trivial
  | [_], _ => trivial
  | _ :: _ :: _, h => ⟨fun q hq => h.1 q (hST q hq), Lft.sub hST h.2⟩
/-- The chain of some of the points that has all of them. -/
theorem ChI.sub {S T : Pt → Prop} {R : List Pt} (h : ChI S R) (hST : ∀ q, T q → S q) (hR : ∀ z ∈ R, T z) : ChI T R := by
  refine ⟨hR, h.dsc, h.cvx, h.lft.sub hST, ?_, ?_⟩
  · obtain ⟨m, h1, h2⟩ := h.bot
    exact ⟨m, h1, fun q hq => h2 q (hST q hq)⟩
  · obtain ⟨m, h1, h2⟩ := h.top
    exact ⟨m, h1, fun q hq => h2 q (hST q hq)⟩
theorem hul_of {s : List Pt} (h : 2 ≤ s.length) : hulL s = (lowR s).reverse.take ((lowR s).length - 1) ++ (uppR s).reverse.take ((uppR s).length - 1) := by
  have e1 : (lowR s).reverse = chn [] s := by rw [show lowR s = (chn [] s).reverse from (chn_rev s []).symm, List.reverse_reverse]
  have e2 : (uppR s).reverse = chn [] (revP s) := by rw [show uppR s = (chn [] (revP s)).reverse from (chn_rev (revP s) []).symm, List.reverse_reverse]
  rw [e1, e2, low_len, upp_len]
  unfold hulL
  split
  · exact (hul_two (by omega)).symm
  · rfl
/-- Points in order with the same halves have the same hull. -/
theorem hul_same {s t : List Pt} (hs : Asc s) (ht : Asc t) (h2 : 2 ≤ s.length) (k2 : 2 ≤ t.length) (hts : ∀ q, q ∈ t → q ∈ s) (h1 : ∀ z ∈ lowR s, z ∈ t) (h3 : ∀ z ∈ uppR s, z ∈ t) : hulL t = hulL s := by
  have s0 : s ≠ [] := by intro e; rw [e] at h2; simp at h2
  have t0 : t ≠ [] := by intro e; rw [e] at k2; simp at k2
  have L : lowR t = lowR s := (low_ok ht t0).uniq ((low_ok hs s0).sub hts h1)
  have U : uppR t = uppR s := by
    have : ngL (uppR t) = ngL (uppR s) := (upp_ok ht t0).uniq ((upp_ok hs s0).sub (fun q hq => hts _ hq) fun z hz => h3 _ (mem_ngL.1 hz))
    have := congrArg ngL this
    rwa [ngL_ng, ngL_ng] at this
  rw [hul_of h2, hul_of k2, L, U]
/-- The hull of the vertices of a hull. -/
theorem hul_hul {s : List Pt} (h : Asc s) (h3 : 3 ≤ (hulL s).length) : hulL (srtL (hulL s)) = hulL s := by
  have hs : 3 ≤ s.length := by
    rcases Nat.lt_or_ge s.length 3 with c | c
    · unfold hulL at h3
      rw [if_pos c] at h3
      exact h3
    · exact c
  have hl : 2 ≤ (srtL (hulL s)).length := by
    have n := hul_nodup h
    have m1 : (hulL s).getD 0 (0, 0) ∈ srtL (hulL s) := (srtL_mem _ _).2 (getD_mem' (by omega))
    have m2 : (hulL s).getD 1 (0, 0) ∈ srtL (hulL s) := (srtL_mem _ _).2 (getD_mem' (by omega))
    have ne : (hulL s).getD 0 (0, 0) ≠ (hulL s).getD 1 (0, 0) := fun e => absurd (nd_inj n (by omega) (by omega) e) (by decide)
    match srtL (hulL s), m1, m2 with
    | [], m1, _ => cases m1
    | [x], m1, m2 => exact absurd ((List.mem_singleton.1 m1).trans (List.mem_singleton.1 m2).symm) ne
    | _ :: _ :: _, _, _ => simp
  exact hul_same h (srtL_asc _) (by omega) hl (fun q hq => hul_in h ((srtL_mem _ _).1 hq)) (fun z hz => (srtL_mem _ _).2 (low_hul h hs hz)) fun z hz => (srtL_mem _ _).2 (upp_hul h hs hz)
end Go.Proofs.Ytpjdnplpiamjcaa
namespace Go.Proofs.Ytpjdnplpiamjcaa
set_option linter.all false
open Go.RowKit
theorem nodup_le : ∀ {l m : List Pt}, l.Nodup → (∀ x ∈ l, x ∈ m) → l.length ≤ m.length
  | [], _, _, _ => Nat.zero_le _
  | x :: l, m, hn, hs => by
    have hn' := List.nodup_cons.1 hn
    have hx : x ∈ m := hs x (by simp)
    have := nodup_le (l := l) (m := m.erase x) hn'.2 fun y hy => by
      have : y ≠ x := fun e => hn'.1 (e ▸ hy)
      exact (List.mem_erase_of_ne this).2 (hs y (List.mem_cons_of_mem _ hy))
    rw [List.length_erase_of_mem hx] at this
    have hp : 0 < m.length := List.length_pos_of_mem hx
    simp only [List.length_cons]
    omega
theorem hul_le {s : List Pt} (h : Asc s) : (hulL s).length ≤ s.length := nodup_le (hul_nodup h) fun _ hx => hul_in h hx
end Go.Proofs.Ytpjdnplpiamjcaa
namespace Go.Proofs.Ytpjdnplpiamjcaa
set_option linter.all false
open Go.RowKit
theorem srtL_same {ps qs : List Pt} (h : ∀ z, z ∈ ps ↔ z ∈ qs) : srtL ps = srtL qs := asc_ext (srtL_asc _) (srtL_asc _) fun z => by rw [srtL_mem, srtL_mem, h]
end Go.Proofs.Ytpjdnplpiamjcaa
namespace Go.Proofs.Ytpjdnplpiamjcaa
set_option linter.all false
open Go.RowKit
theorem res_mnW {ws : List Pt} (h0 : 0 < ws.length) (h : ws.length ≤ 1000) (hw : okWs ws) : Res Try.prog 99 [.row ws.length (.ints (flat ws)), .v (.func (.func 100) #[] #[])] (.agg #[iv (ws.getD (bsN ws ws.length) (0, 0)).1, iv (ws.getD (bsN ws ws.length) (0, 0)).2]) := by
  refine bodyV_res mixed EWe_ok (m := 30) (n := 12) rfl ?_
  rw [tr_mnWF]
  have g0 := flat_get0 ws 0
  have g1 := flat_get1 ws 0
  simp only [Nat.zero_mul, Nat.zero_add] at g0 g1
  simp only [ptsA_flat, flat_length, g0, g1]
  refine brT_ok.2 ⟨fun q => ?_, fun _ => ?_⟩
  · have := of_decide_eq_true q; omega
  · simp only [Tree.ok]
    repeat' (first | exact True.intro | exact rfl | assumption | omega | exact ⟨rfl, rfl⟩ | refine And.intro ?_ ?_)
theorem res_ixW {ws : List Pt} {x y : Int} (h : ws.length ≤ 1000) (hk : idxW (x, y) ws < ws.length) : Res Try.prog 98 [.row ws.length (.ints (flat ws)), .v (.agg #[iv x, iv y])] (iv (idxW (x, y) ws)) := by
  refine bodyV_res mixed EWe_ok (m := 30) (n := 12) rfl ?_
  rw [tr_ixWF]
  simp only [ptsA_flat, flat_length]
  simp only [Tree.ok]
  repeat' (first | exact True.intro | exact rfl | assumption | omega | exact ⟨rfl, rfl⟩ | refine And.intro ?_ ?_)
theorem res_frL {a b c d : Int} (h1 : 0 ≤ a ∧ a ≤ 100000000000000) (h2 : 1 ≤ b ∧ b ≤ 100000000000000) (h3 : 0 ≤ c ∧ c ≤ 100000000000000) (h4 : 1 ≤ d ∧ d ≤ 100000000000000) : Res Try.prog 96 [.v (iv a), .v (iv b), .v (iv c), .v (iv d)] (.bool (decide (a * d < c * b))) := by
  refine bodyV_res mixed EWe_ok (m := 30) (n := 12) rfl ?_
  rw [tr_frLF]
  exact ⟨h1, h2, h3, h4, rfl⟩
def sqP (a b : Pt) : Int := sqI a.1 a.2 b.1 b.2
theorem sqP_bd {a b : Pt} (ha : ptB a.1 a.2 = true) (hb : ptB b.1 b.2 = true) : (0 ≤ (a.1 - b.1) * (a.1 - b.1) ∧ (a.1 - b.1) * (a.1 - b.1) ≤ 2000 * 2000) ∧ (0 ≤ (a.2 - b.2) * (a.2 - b.2) ∧ (a.2 - b.2) * (a.2 - b.2) ≤ 2000 * 2000) := by
  have h1 := ptB_true ha
  have h2 := ptB_true hb
  have m1 := mul_bd (x := a.1 - b.1) (y := a.1 - b.1) 2000 2000 (by omega) (by omega)
  have m2 := mul_bd (x := a.2 - b.2) (y := a.2 - b.2) 2000 2000 (by omega) (by omega)
  have n1 : 0 ≤ (a.1 - b.1) * (a.1 - b.1) := by rcases Int.le_total 0 (a.1 - b.1) with h | h; exact Int.mul_nonneg h h; exact Int.mul_nonneg_of_nonpos_of_nonpos h h
  have n2 : 0 ≤ (a.2 - b.2) * (a.2 - b.2) := by rcases Int.le_total 0 (a.2 - b.2) with h | h; exact Int.mul_nonneg h h; exact Int.mul_nonneg_of_nonpos_of_nonpos h h
  exact ⟨⟨n1, m1.2⟩, ⟨n2, m2.2⟩⟩
theorem res_wAt {h : List Pt} {i : Nat} (hl : h.length ≤ 1000) (hv : allV h = true) (hi : i < h.length) : Res Try.prog 95 [.row h.length (.ints (flat h)), .v (iv i)] (.tuple #[iv (wdM h (h.getD i (0, 0)) (nxP h i) h.length), iv (sqP (h.getD i (0, 0)) (nxP h i))]) := by
  refine bodyV_res mixed EWe_ok (m := 30) (n := 12) rfl ?_
  rw [tr_wAtF]
  have hm := nx_lt hi
  simp only [nx_mod hi (by omega), ptsA_flat, Int.toNat_natCast, Nat.zero_add, flat_get0, flat_get1, flat_length]
  have p1 := ptB_true (allV_at hv hi)
  have p2 := ptB_true (allV_at hv hm)
  obtain ⟨b1, b2⟩ := sqP_bd (allV_at hv hi) (allV_at hv hm)
  simp (disch := omega) only [wr]
  simp only [Tree.ok]
  repeat' (first | exact True.intro | exact rfl | assumption | omega | exact ⟨rfl, rfl⟩ | refine And.intro ?_ ?_)
theorem res_wFr {h : List Pt} {a b c d : Int} (hl : h.length ≤ 1000) (hv : allV h = true) (h5 : ptB a b = true) (h6 : ptB c d = true) : Res Try.prog 97 [.row h.length (.ints (flat h)), .v (.agg #[iv a, iv b, iv c, iv d])] (.agg #[iv (wdM h (a, b) (c, d) h.length), iv (sqP (a, b) (c, d))]) := by
  refine bodyV_res mixed EWe_ok (m := 30) (n := 12) rfl ?_
  rw [tr_wFrF]
  have p1 := ptB_true h5
  have p2 := ptB_true h6
  obtain ⟨b1, b2⟩ := sqP_bd (a := (a, b)) (b := (c, d)) h5 h6
  simp only at b1 b2
  simp only [ptsA_flat, flat_length, h5, h6, Bool.and_self, Bool.not_true, brT_f]
  simp (disch := omega) only [wr]
  simp only [Tree.ok]
  repeat' (first | exact True.intro | exact rfl | assumption | omega | exact ⟨rfl, rfl⟩ | refine And.intro ?_ ?_)
/-- The widths of a ring. -/
def wdP (h : List Pt) (i : Nat) : Pt := (wdM h (h.getD i (0, 0)) (nxP h i) h.length, sqP (h.getD i (0, 0)) (nxP h i))
def wdL (h : List Pt) : Nat → List Pt
  | 0 => []
  | i + 1 => wdL h i ++ [wdP h i]
theorem wdL_len (h : List Pt) : ∀ i, (wdL h i).length = i
  | 0 => rfl
  | i + 1 => by simp [wdL, wdL_len h i]
theorem wdL_get (h : List Pt) : ∀ (n i : Nat), i < n → (wdL h n).getD i (0, 0) = wdP h i
  | 0, i, hi => by omega
  | n + 1, i, hi => by
    have l := wdL_len h n
    rcases Nat.lt_or_ge i n with h1 | h1
    · have := wdL_get h n i h1
      rw [wdL, getD_append, if_pos (by omega)]
      exact this
    · obtain rfl : i = n := by omega
      rw [wdL, getD_append, if_neg (by omega), l, Nat.sub_self]
      rfl
theorem wdM_bd {h : List Pt} (hv : allV h = true) {a b : Pt} (ha : ptB a.1 a.2 = true) (hb : ptB b.1 b.2 = true) : ∀ k, k ≤ h.length → 0 ≤ wdM h a b k ∧ wdM h a b k ≤ 8000000
  | 0, _ => by simp [wdM]
  | k + 1, hk => by
    have ih := wdM_bd hv ha hb k (by omega)
    have cb := crs_bd ha hb (allV_at hv (j := k) (by omega))
    have e : crossI a.1 a.2 b.1 b.2 (h.getD k (0, 0)).1 (h.getD k (0, 0)).2 = (b.1 - a.1) * ((h.getD k (0, 0)).2 - a.2) - (b.2 - a.2) * ((h.getD k (0, 0)).1 - a.1) := rfl
    unfold wdM
    split <;> omega
/-- A ring in which no point is its next one. -/
def ringN (h : List Pt) : Prop := ∀ i, i < h.length → h.getD i (0, 0) ≠ nxP h i
theorem sq_pos {a b : Pt} (h : a ≠ b) : 1 ≤ sqP a b := by
  have key : ∀ x : Int, x ≠ 0 → 1 ≤ x * x := fun x hx => by
    rcases Int.lt_or_gt_of_ne hx with h | h
    · have := Int.mul_pos_of_neg_of_neg h h; omega
    · have := Int.mul_pos h h; omega
  have key0 : ∀ x : Int, 0 ≤ x * x := fun x => by
    by_cases hx : x = 0
    · subst hx; decide
    · have := key x hx; omega
  unfold sqP sqI
  have k1 := key0 (a.1 - b.1)
  have k2 := key0 (a.2 - b.2)
  by_cases h1 : a.1 = b.1
  · have : a.2 ≠ b.2 := fun h2 => h (Prod.ext h1 h2)
    have := key (a.2 - b.2) (by omega)
    omega
  · have := key (a.1 - b.1) (by omega)
    omega
theorem okW_P {h : List Pt} (hv : allV h = true) (hr : ringN h) {i : Nat} (hi : i < h.length) : okW (wdP h i) := by
  have h1 := allV_at hv hi
  have h2 : ptB (nxP h i).1 (nxP h i).2 = true := allV_at hv (nx_lt hi)
  have h3 := wdM_bd hv h1 h2 h.length (Nat.le_refl _)
  obtain ⟨b1, b2⟩ := sqP_bd h1 h2
  have h4 := sq_pos (hr i hi)
  refine ⟨h3.1, h3.2, h4, ?_⟩
  show sqP _ _ ≤ _
  unfold sqP sqI
  omega
theorem okWs_L {h : List Pt} (hv : allV h = true) (hr : ringN h) : okWs (wdL h h.length) := fun j hj => by
  rw [wdL_len] at hj
  rw [wdL_get h _ j hj]
  exact okW_P hv hr hj
theorem wlt_tr {p q r : Pt} (hp : okW p) (hq : okW q) (hr : okW r) (h1 : wlt p q = true) (h2 : wlt r q = false) : wlt p r = true := by
  unfold wlt at *
  have h1 := of_decide_eq_true h1
  have h2 := of_decide_eq_false h2
  refine decide_eq_true ?_
  obtain ⟨_, _, p3, _⟩ := hp
  obtain ⟨_, _, q3, _⟩ := hq
  obtain ⟨_, _, r3, _⟩ := hr
  generalize p.1 * p.1 = a at *
  generalize q.1 * q.1 = c at *
  generalize r.1 * r.1 = e at *
  have e1 : a * q.2 * r.2 < c * p.2 * r.2 := Int.mul_lt_mul_of_pos_right h1 (by omega)
  have e2 : c * r.2 * p.2 ≤ e * q.2 * p.2 := Int.mul_le_mul_of_nonneg_right (by omega) (by omega)
  have e3 : q.2 * (a * r.2) < q.2 * (e * p.2) := by
    have k1 : q.2 * (a * r.2) = a * q.2 * r.2 := by grind
    have k2 : q.2 * (e * p.2) = e * q.2 * p.2 := by grind
    have k3 : c * p.2 * r.2 = c * r.2 * p.2 := by grind
    omega
  exact Int.lt_of_mul_lt_mul_left e3 (by omega)
theorem bsN_st (ws : List Pt) (i : Nat) : bsN ws (i + 1) = bif wlt (ws.getD i (0, 0)) (ws.getD (bsN ws i) (0, 0)) then i else bsN ws i := rfl
theorem bs_min {ws : List Pt} (hw : okWs ws) : ∀ i, i ≤ ws.length → (∀ j, j < i → wlt (ws.getD j (0, 0)) (ws.getD (bsN ws i) (0, 0)) = false) ∧ (∀ j, j < bsN ws i → wlt (ws.getD (bsN ws i) (0, 0)) (ws.getD j (0, 0)) = true)
  | 0, _ => ⟨fun j h => by omega, fun j h => by simp [bsN] at h⟩
  | i + 1, hi => by
    obtain ⟨h1, h2⟩ := bs_min hw i (by omega)
    have hb : i = 0 ∨ bsN ws i < i := by
      rcases Nat.eq_zero_or_pos i with h | h
      · exact .inl h
      · exact .inr (bsN_lt ws i h)
    have ob : bsN ws i < ws.length := by
      rcases hb with rfl | hb
      · show 0 < _; omega
      · omega
    rcases hc : wlt (ws.getD i (0, 0)) (ws.getD (bsN ws i) (0, 0)) with _ | _
    · have e : bsN ws (i + 1) = bsN ws i := by rw [bsN_st, hc]; rfl
      rw [e]
      refine ⟨fun j hj => ?_, h2⟩
      rcases Nat.lt_or_ge j i with hji | hji
      · exact h1 j hji
      · obtain rfl : j = i := by omega
        exact hc
    · have e : bsN ws (i + 1) = i := by rw [bsN_st, hc]; rfl
      rw [e]
      have all : ∀ j, j < i → wlt (ws.getD i (0, 0)) (ws.getD j (0, 0)) = true := fun j hj => wlt_tr (hw i (by omega)) (hw _ ob) (hw j (by omega)) hc (h1 j hj)
      refine ⟨fun j hj => ?_, all⟩
      rcases Nat.lt_or_ge j i with hji | hji
      · have := all j hji
        unfold wlt at this ⊢
        have := of_decide_eq_true this
        exact decide_eq_false (by omega)
      · obtain rfl : j = i := by omega
        exact wlt_irr _
theorem idx_bs {ws : List Pt} (hw : okWs ws) (h0 : 0 < ws.length) : idxW (ws.getD (bsN ws ws.length) (0, 0)) ws = bsN ws ws.length := by
  refine idxW_of (bsN_lt ws _ h0) rfl fun j hj e => ?_
  have := (bs_min hw ws.length (Nat.le_refl _)).2 j hj
  rw [e, wlt_irr] at this
  cases this
end Go.Proofs.Ytpjdnplpiamjcaa
namespace Go.Proofs.Ytpjdnplpiamjcaa
set_option linter.all false
open Go.RowKit
def pWaT : List DArg → Option (Value × List Prop)
  | [.row m (.ints xs), .v (.int .i64 i)] => some (.tuple #[iv (wdP (ptsA m xs) i.toNat).1, iv (wdP (ptsA m xs) i.toNat).2], [m * 2 ≤ xs.length, allV (ptsA m xs) = true, m ≤ 1000, 0 ≤ i ∧ i < m])
  | _ => none
theorem pWaT_ok {ds : List DArg} {v : Value} {C : List Prop} (h : pWaT ds = some (v, C)) (hC : AllP C) : Res Try.prog 95 ds v := by
  unfold pWaT at h
  split at h
  · rename_i m xs i
    obtain ⟨rfl, rfl⟩ : _ ∧ _ := by simpa using h
    obtain ⟨c1, c2, c3, c4, _⟩ := hC
    obtain ⟨_, h2⟩ := ptsA_spec c1
    obtain ⟨j, rfl⟩ := Int.eq_ofNat_of_zero_le c4.1
    simp only [Int.toNat_natCast]
    exact res_pts1 (pre := []) (post := [_]) c1 (res_wAt (h := ptsA m xs) (i := j) (by omega) c2 (by omega))
  · cases h
def pWfR : List DArg → Option (Value × List Prop)
  | [.row m (.ints xs), .v (.agg ⟨[.int .i64 a, .int .i64 b, .int .i64 c, .int .i64 d]⟩)] => some (.agg #[iv (wdM (ptsA m xs) (a, b) (c, d) m), iv (sqP (a, b) (c, d))], [m * 2 ≤ xs.length, allV (ptsA m xs) = true, m ≤ 1000, ptB a b = true, ptB c d = true])
  | _ => none
theorem pWfR_ok {ds : List DArg} {v : Value} {C : List Prop} (h : pWfR ds = some (v, C)) (hC : AllP C) : Res Try.prog 97 ds v := by
  unfold pWfR at h
  split at h
  · rename_i m xs a b c d
    obtain ⟨rfl, rfl⟩ : _ ∧ _ := by simpa using h
    obtain ⟨c1, c2, c3, c4, c5, _⟩ := hC
    obtain ⟨_, h2⟩ := ptsA_spec c1
    have h7 := res_pts1 (pre := []) (post := [_]) c1 (res_wFr (h := ptsA m xs) (by omega) c2 c4 c5)
    rw [h2] at h7
    exact h7
  · cases h
def pFrL : List DArg → Option (Value × List Prop)
  | [.v (.int .i64 a), .v (.int .i64 b), .v (.int .i64 c), .v (.int .i64 d)] => some (.bool (decide (a * d < c * b)), [0 ≤ a ∧ a ≤ 100000000000000, 1 ≤ b ∧ b ≤ 100000000000000, 0 ≤ c ∧ c ≤ 100000000000000, 1 ≤ d ∧ d ≤ 100000000000000])
  | _ => none
theorem pFrL_ok {ds : List DArg} {v : Value} {C : List Prop} (h : pFrL ds = some (v, C)) (hC : AllP C) : Res Try.prog 96 ds v := by
  unfold pFrL at h
  split at h
  · obtain ⟨rfl, rfl⟩ : _ ∧ _ := by simpa using h
    exact res_frL hC.1 hC.2.1 hC.2.2.1 hC.2.2.2.1
  · cases h
def pMnW : List DArg → Option (Value × List Prop)
  | [.row m (.ints xs), .v (.func (.func 100) ⟨[]⟩ ⟨[]⟩)] => some (.agg #[iv ((ptsA m xs).getD (bsN (ptsA m xs) m) (0, 0)).1, iv ((ptsA m xs).getD (bsN (ptsA m xs) m) (0, 0)).2], [m * 2 ≤ xs.length, 0 < m, m ≤ 1000, okWs (ptsA m xs)])
  | _ => none
theorem pMnW_ok {ds : List DArg} {v : Value} {C : List Prop} (h : pMnW ds = some (v, C)) (hC : AllP C) : Res Try.prog 99 ds v := by
  unfold pMnW at h
  split at h
  · rename_i m xs
    obtain ⟨rfl, rfl⟩ : _ ∧ _ := by simpa using h
    obtain ⟨c1, c2, c3, c4, _⟩ := hC
    obtain ⟨_, h2⟩ := ptsA_spec c1
    have h7 := res_pts1 (pre := []) (post := [_]) c1 (res_mnW (ws := ptsA m xs) (by omega) (by omega) c4)
    rw [h2] at h7
    exact h7
  · cases h
def pIxW : List DArg → Option (Value × List Prop)
  | [.row m (.ints xs), .v (.agg ⟨[.int .i64 x, .int .i64 y]⟩)] => some (iv (idxW (x, y) (ptsA m xs)), [m * 2 ≤ xs.length, m ≤ 1000, idxW (x, y) (ptsA m xs) < m])
  | _ => none
theorem pIxW_ok {ds : List DArg} {v : Value} {C : List Prop} (h : pIxW ds = some (v, C)) (hC : AllP C) : Res Try.prog 98 ds v := by
  unfold pIxW at h
  split at h
  · rename_i m xs x y
    obtain ⟨rfl, rfl⟩ : _ ∧ _ := by simpa using h
    obtain ⟨c1, c2, c3, _⟩ := hC
    obtain ⟨_, h2⟩ := ptsA_spec c1
    exact res_pts1 (pre := []) (post := [_]) c1 (res_ixW (ws := ptsA m xs) (by omega) (by omega))
  · cases h
def TWf : Tab := fun f ds => match f with
  | 95 => pWaT ds
  | 97 => pWfR ds
  | 96 => pFrL ds
  | 99 => pMnW ds
  | 98 => pIxW ds
  | f => TMh f ds
theorem TWf_ok : TabOk Try.prog TWf := by
  intro f ds v C h hC
  unfold TWf at h
  (try split at h)
  all_goals first | with_reducible exact pWaT_ok h hC | with_reducible exact pWfR_ok h hC | with_reducible exact pFrL_ok h hC | with_reducible exact pMnW_ok h hC | with_reducible exact pIxW_ok h hC | exact TMh_ok _ _ _ _ h hC
def EWf : Env := mkE TWf RHv (fun _ => noL)
theorem EWf_ok : EnvOk Try.prog EWf := mkEOk TWf_ok RHv_ok (fun _ _ _ => noL_good)
noncomputable def c_sWe : Code := ((loopsOf (codeOf Try.f48))[0]?).getD .skip
def k_sWe : Ex → List Nat := keeps [3, 4, 5] [(0, [4])] [2]
def s_sWe (xs : List Int) (h : List Pt) : Nat → St := fun i => ⟨(topV :: topV :: topV :: .slice (some ⟨1, 0, none⟩) h.length h.length :: .int .i64 (bsN (wdL h h.length) i) :: .int .i64 i :: topV :: topV :: topV :: topV :: topV :: topV :: topV :: topV :: topV :: topV :: topV :: topV :: topV :: topV :: topV :: topV :: topV :: topV :: topV :: topV :: topV :: topV :: topV :: topV :: topV :: topV :: topV :: topV :: topV :: topV :: topV :: topV :: topV :: topV :: topV :: topV :: topV :: topV :: topV :: topV :: topV :: []), [some ⟨.view, .ints xs⟩, some ⟨.row 37 2, .ints (flat h)⟩]⟩
def re_sWe : Nat → Ex := fun _ => .exit 0
def rs_sWe (xs : List Int) (h : List Pt) : Nat → St := fun i => ⟨(topV :: topV :: topV :: topV :: .int .i64 (bsN (wdL h h.length) h.length) :: topV :: topV :: topV :: topV :: topV :: topV :: topV :: topV :: topV :: topV :: topV :: topV :: topV :: topV :: topV :: topV :: topV :: topV :: topV :: topV :: topV :: topV :: topV :: topV :: topV :: topV :: topV :: topV :: topV :: topV :: topV :: topV :: topV :: topV :: topV :: topV :: topV :: topV :: topV :: topV :: topV :: topV :: []), [some ⟨.view, .ints xs⟩, some ⟨.row 37 2, .ints (flat h)⟩]⟩
set_option maxRecDepth 100000 in
theorem tr_sWe (xs : List Int) (h : List Pt) (i : Nat) : bodyL Try.prog EWf 30 12 noL 1 c_sWe k_sWe 2 (s_sWe xs h i) = brT (decide ((↑i : Int) < (↑h.length : Int))) (.need (h.length * (2 : Nat) ≤ (List.drop (0 : Nat) (flat h)).length) (.need (allV (ptsA h.length (List.drop (0 : Nat) (flat h))) = true) (.need (h.length ≤ (1000 : Nat)) (.need ((0 : Int) ≤ (↑i : Int) ∧ (↑i : Int) < (↑h.length : Int)) (.need (h.length * (2 : Nat) ≤ (List.drop (0 : Nat) (flat h)).length) (.need (allV (ptsA h.length (List.drop (0 : Nat) (flat h))) = true) (.need (h.length ≤ (1000 : Nat)) (.need ((0 : Int) ≤ (↑(bsN (wdL h h.length) i) : Int) ∧ (↑(bsN (wdL h h.length) i) : Int) < (↑h.length : Int)) (.need ((0 : Int) ≤ IntKind.i64.wrap (wdM (ptsA h.length (List.drop (0 : Nat) (flat h))) ((ptsA h.length (List.drop (0 : Nat) (flat h))).getD (↑i : Int).toNat ((0 : Int), (0 : Int))) (nxP (ptsA h.length (List.drop (0 : Nat) (flat h))) (↑i : Int).toNat) (ptsA h.length (List.drop (0 : Nat) (flat h))).length * wdM (ptsA h.length (List.drop (0 : Nat) (flat h))) ((ptsA h.length (List.drop (0 : Nat) (flat h))).getD (↑i : Int).toNat ((0 : Int), (0 : Int))) (nxP (ptsA h.length (List.drop (0 : Nat) (flat h))) (↑i : Int).toNat) (ptsA h.length (List.drop (0 : Nat) (flat h))).length) ∧ IntKind.i64.wrap (wdM (ptsA h.length (List.drop (0 : Nat) (flat h))) ((ptsA h.length (List.drop (0 : Nat) (flat h))).getD (↑i : Int).toNat ((0 : Int), (0 : Int))) (nxP (ptsA h.length (List.drop (0 : Nat) (flat h))) (↑i : Int).toNat) (ptsA h.length (List.drop (0 : Nat) (flat h))).length * wdM (ptsA h.length (List.drop (0 : Nat) (flat h))) ((ptsA h.length (List.drop (0 : Nat) (flat h))).getD (↑i : Int).toNat ((0 : Int), (0 : Int))) (nxP (ptsA h.length (List.drop (0 : Nat) (flat h))) (↑i : Int).toNat) (ptsA h.length (List.drop (0 : Nat) (flat h))).length) ≤ (100000000000000 : Int)) (.need ((1 : Int) ≤ sqP ((ptsA h.length (List.drop (0 : Nat) (flat h))).getD (↑i : Int).toNat ((0 : Int), (0 : Int))) (nxP (ptsA h.length (List.drop (0 : Nat) (flat h))) (↑i : Int).toNat) ∧ sqP ((ptsA h.length (List.drop (0 : Nat) (flat h))).getD (↑i : Int).toNat ((0 : Int), (0 : Int))) (nxP (ptsA h.length (List.drop (0 : Nat) (flat h))) (↑i : Int).toNat) ≤ (100000000000000 : Int)) (.need ((0 : Int) ≤ IntKind.i64.wrap (wdM (ptsA h.length (List.drop (0 : Nat) (flat h))) ((ptsA h.length (List.drop (0 : Nat) (flat h))).getD (↑(bsN (wdL h h.length) i) : Int).toNat ((0 : Int), (0 : Int))) (nxP (ptsA h.length (List.drop (0 : Nat) (flat h))) (↑(bsN (wdL h h.length) i) : Int).toNat) (ptsA h.length (List.drop (0 : Nat) (flat h))).length * wdM (ptsA h.length (List.drop (0 : Nat) (flat h))) ((ptsA h.length (List.drop (0 : Nat) (flat h))).getD (↑(bsN (wdL h h.length) i) : Int).toNat ((0 : Int), (0 : Int))) (nxP (ptsA h.length (List.drop (0 : Nat) (flat h))) (↑(bsN (wdL h h.length) i) : Int).toNat) (ptsA h.length (List.drop (0 : Nat) (flat h))).length) ∧ IntKind.i64.wrap (wdM (ptsA h.length (List.drop (0 : Nat) (flat h))) ((ptsA h.length (List.drop (0 : Nat) (flat h))).getD (↑(bsN (wdL h h.length) i) : Int).toNat ((0 : Int), (0 : Int))) (nxP (ptsA h.length (List.drop (0 : Nat) (flat h))) (↑(bsN (wdL h h.length) i) : Int).toNat) (ptsA h.length (List.drop (0 : Nat) (flat h))).length * wdM (ptsA h.length (List.drop (0 : Nat) (flat h))) ((ptsA h.length (List.drop (0 : Nat) (flat h))).getD (↑(bsN (wdL h h.length) i) : Int).toNat ((0 : Int), (0 : Int))) (nxP (ptsA h.length (List.drop (0 : Nat) (flat h))) (↑(bsN (wdL h h.length) i) : Int).toNat) (ptsA h.length (List.drop (0 : Nat) (flat h))).length) ≤ (100000000000000 : Int)) (.need ((1 : Int) ≤ sqP ((ptsA h.length (List.drop (0 : Nat) (flat h))).getD (↑(bsN (wdL h h.length) i) : Int).toNat ((0 : Int), (0 : Int))) (nxP (ptsA h.length (List.drop (0 : Nat) (flat h))) (↑(bsN (wdL h h.length) i) : Int).toNat) ∧ sqP ((ptsA h.length (List.drop (0 : Nat) (flat h))).getD (↑(bsN (wdL h h.length) i) : Int).toNat ((0 : Int), (0 : Int))) (nxP (ptsA h.length (List.drop (0 : Nat) (flat h))) (↑(bsN (wdL h h.length) i) : Int).toNat) ≤ (100000000000000 : Int)) (brT (decide (IntKind.i64.wrap (wdM (ptsA h.length (List.drop 0 (flat h))) ((ptsA h.length (List.drop 0 (flat h))).getD (↑i : Int).toNat (0, 0)) (nxP (ptsA h.length (List.drop 0 (flat h))) (↑i : Int).toNat) (ptsA h.length (List.drop 0 (flat h))).length * wdM (ptsA h.length (List.drop 0 (flat h))) ((ptsA h.length (List.drop 0 (flat h))).getD (↑i : Int).toNat (0, 0)) (nxP (ptsA h.length (List.drop 0 (flat h))) (↑i : Int).toNat) (ptsA h.length (List.drop 0 (flat h))).length) * sqP ((ptsA h.length (List.drop 0 (flat h))).getD (↑(bsN (wdL h h.length) i) : Int).toNat (0, 0)) (nxP (ptsA h.length (List.drop 0 (flat h))) (↑(bsN (wdL h h.length) i) : Int).toNat) < IntKind.i64.wrap (wdM (ptsA h.length (List.drop 0 (flat h))) ((ptsA h.length (List.drop 0 (flat h))).getD (↑(bsN (wdL h h.length) i) : Int).toNat (0, 0)) (nxP (ptsA h.length (List.drop 0 (flat h))) (↑(bsN (wdL h h.length) i) : Int).toNat) (ptsA h.length (List.drop 0 (flat h))).length * wdM (ptsA h.length (List.drop 0 (flat h))) ((ptsA h.length (List.drop 0 (flat h))).getD (↑(bsN (wdL h h.length) i) : Int).toNat (0, 0)) (nxP (ptsA h.length (List.drop 0 (flat h))) (↑(bsN (wdL h h.length) i) : Int).toNat) (ptsA h.length (List.drop 0 (flat h))).length) * sqP ((ptsA h.length (List.drop 0 (flat h))).getD (↑i : Int).toNat (0, 0)) (nxP (ptsA h.length (List.drop 0 (flat h))) (↑i : Int).toNat))) (.leaf .normal ⟨(topV :: topV :: topV :: .slice (some ⟨1, 0, none⟩) (h.length) (h.length) :: .int .i64 ((↑i : Int)) :: .int .i64 (IntKind.i64.wrap ((↑i : Int) + 1)) :: topV :: topV :: topV :: topV :: topV :: topV :: topV :: topV :: topV :: topV :: topV :: topV :: topV :: topV :: topV :: topV :: topV :: topV :: topV :: topV :: topV :: topV :: topV :: topV :: topV :: topV :: topV :: topV :: topV :: topV :: topV :: topV :: topV :: topV :: topV :: topV :: topV :: topV :: topV :: topV :: topV :: []), [some ⟨.view, .ints (xs)⟩, some ⟨.row 37 2, .ints (flat h)⟩]⟩) (.leaf .normal ⟨(topV :: topV :: topV :: .slice (some ⟨1, 0, none⟩) (h.length) (h.length) :: .int .i64 ((↑(bsN (wdL h h.length) i) : Int)) :: .int .i64 (IntKind.i64.wrap ((↑i : Int) + 1)) :: topV :: topV :: topV :: topV :: topV :: topV :: topV :: topV :: topV :: topV :: topV :: topV :: topV :: topV :: topV :: topV :: topV :: topV :: topV :: topV :: topV :: topV :: topV :: topV :: topV :: topV :: topV :: topV :: topV :: topV :: topV :: topV :: topV :: topV :: topV :: topV :: topV :: topV :: topV :: topV :: topV :: []), [some ⟨.view, .ints (xs)⟩, some ⟨.row 37 2, .ints (flat h)⟩]⟩)))))))))))))) (.leaf (.exit 0) ⟨(topV :: topV :: topV :: topV :: .int .i64 ((↑(bsN (wdL h h.length) i) : Int)) :: topV :: topV :: topV :: topV :: topV :: topV :: topV :: topV :: topV :: topV :: topV :: topV :: topV :: topV :: topV :: topV :: topV :: topV :: topV :: topV :: topV :: topV :: topV :: topV :: topV :: topV :: topV :: topV :: topV :: topV :: topV :: topV :: topV :: topV :: topV :: topV :: topV :: topV :: topV :: topV :: topV :: topV :: []), [some ⟨.view, .ints (xs)⟩, some ⟨.row 37 2, .ints (flat h)⟩]⟩) := by kernel_rfl
set_option maxRecDepth 100000 in
theorem nl_sWe : loopsOf c_sWe = [] := by kernel_rfl
def inv_sWe (xs : List Int) (h : List Pt) : Nat → Prop := fun i => 0 < i ∧ i ≤ h.length
def me_sWe (xs : List Int) (h : List Pt) : Nat → Nat := fun i => h.length - i
/-- A round of this loop. -/
def Round_sWe (xs : List Int) (h : List Pt) : Prop := ∀ xx : Nat, inv_sWe xs h xx → (bodyL Try.prog EWf 30 12 noL 1 c_sWe k_sWe 2 (s_sWe xs h xx)).ok (RoundEnd 2 (s_sWe xs h) (inv_sWe xs h) (me_sWe xs h) re_sWe (rs_sWe xs h) xx) (fun _ _ => False)
def e_sWe (s : St) (k : Ex → St → Tree) : Option Tree := match Nat.beq s.tmps.length 47, pickL s.tmps [3, 4, 5], s.mem with
  | true, [.slice (some ⟨1, 0, none⟩) n _, .int .i64 m, .int .i64 i], [some ⟨.view, .ints xs⟩, some ⟨.row 37 2, .ints ys⟩] => some (needs [i = 1, m = 0, ys.length = n * 2, n ≤ 1000, 0 < n, allV (ptsA n ys) = true, ringN (ptsA n ys)] (k (.exit 0) ⟨(topV :: topV :: topV :: topV :: .int .i64 (bsN (wdL (ptsA n ys) n) n) :: topV :: topV :: topV :: topV :: topV :: topV :: topV :: topV :: topV :: topV :: topV :: topV :: topV :: topV :: topV :: topV :: topV :: topV :: topV :: topV :: topV :: topV :: topV :: topV :: topV :: topV :: topV :: topV :: topV :: topV :: topV :: topV :: topV :: topV :: topV :: topV :: topV :: topV :: topV :: topV :: topV :: topV :: []), [some ⟨.view, .ints xs⟩, some ⟨.row 37 2, .ints ys⟩]⟩))
  | _, _, _ => none
noncomputable def gc_iWe : Code := (rangesOf (codeOf Try.f49)).getD 0 .skip
def k_iWe : Ex → List Nat := keeps [3, 4, 13] [] []
def s_iWe (xs : List Int) (h : List Pt) : Nat → St := fun i => ⟨[topV, topV, topV, .pointer (some ⟨1, 0, none⟩), .pointer (some ⟨3, 0, none⟩), topV, topV, topV, topV, topV, topV, topV, topV, .func (.func 139) #[] #[.pointer (some ⟨4, 0, none⟩)], topV, topV, topV, topV, topV, topV, topV, topV, topV, topV, topV, topV], [some ⟨.view, .ints xs⟩, some ⟨.box, .vals [.slice (some ⟨2, 0, none⟩) h.length h.length]⟩, some ⟨.view, .ints (flat h)⟩, some ⟨.box, .vals [.slice (some ⟨5, 0, none⟩) (wdL h i).length (wdL h i).length]⟩, some ⟨.view, .vals [.slice (some ⟨2, 0, none⟩) h.length h.length]⟩, some ⟨.row 111 2, .ints (flat (wdL h i))⟩]⟩
def g_iWe (xs : List Int) (h : List Pt) : Nat → Prop := fun i => i ≤ h.length
def re_iWe (xs : List Int) (h : List Pt) : Ex := .normal
def rs_iWe (xs : List Int) (h : List Pt) : St := ⟨[topV, topV, topV, topV, .pointer (some ⟨3, 0, none⟩), topV, topV, topV, topV, topV, topV, topV, topV, topV, topV, topV, topV, topV, topV, topV, topV, topV, topV, topV, topV, topV], [some ⟨.view, .ints xs⟩, some ⟨.box, .vals [.slice (some ⟨2, 0, none⟩) h.length h.length]⟩, some ⟨.view, .ints (flat h)⟩, some ⟨.box, .vals [.slice (some ⟨5, 0, none⟩) (wdL h h.length).length (wdL h h.length).length]⟩, some ⟨.view, .vals [.slice (some ⟨2, 0, none⟩) h.length h.length]⟩, some ⟨.row 111 2, .ints (flat (wdL h h.length))⟩]⟩
set_option maxRecDepth 100000 in
theorem tr_iWe (xs : List Int) (h : List Pt) (i : Nat) : bodyR Try.prog EWf 30 12 noL noR (asgOf gc_iWe) (bodOf gc_iWe) ([14, 15].zip (encE h i)) k_iWe 14 (s_iWe xs h i) = .need (h.length * (2 : Nat) ≤ (List.drop (0 : Nat) (flat h)).length) (.need (allV (ptsA h.length (List.drop (0 : Nat) (flat h))) = true) (.need (h.length ≤ (1000 : Nat)) (.need (ptB (h.getD i ((0 : Int), (0 : Int))).1 (h.getD i ((0 : Int), (0 : Int))).2 = true) (.need (ptB (h.getD ((i + (1 : Nat)) % h.length) ((0 : Int), (0 : Int))).1 (h.getD ((i + (1 : Nat)) % h.length) ((0 : Int), (0 : Int))).2 = true) (.need (((wdL h i).length + (1 : Nat)) * (16 : Nat) ≤ (140737488355328 : Nat) ∧ (wdL h i).length + (1 : Nat) ≤ (1000000 : Nat)) (.need ((0 : Nat) + (wdL h i).length * (2 : Nat) ≤ (flat (wdL h i)).length) (.leaf .normal ⟨[topV, topV, topV, .pointer (some ⟨1, 0, none⟩), .pointer (some ⟨3, 0, none⟩), topV, topV, topV, topV, topV, topV, topV, topV, .func (Fn.func 139) #[] #[.pointer (some ⟨4, 0, none⟩)], topV, topV, topV, topV, topV, topV, topV, topV, topV, topV, topV, topV], [some ⟨.view, .ints (xs)⟩, some ⟨.box, .vals [.slice (some ⟨2, 0, none⟩) (h.length) (h.length)]⟩, some ⟨.view, .ints (flat h)⟩, some ⟨.box, .vals [.slice (some ⟨9, 0, none⟩) ((wdL h i).length + 1) ((wdL h i).length + 1)]⟩, some ⟨.view, .vals [.slice (some ⟨2, 0, none⟩) (h.length) (h.length)]⟩, some deadB, some ⟨.box, .vals [.int .i64 ((h.getD i (0, 0)).1), .int .i64 ((h.getD i (0, 0)).2), .int .i64 ((h.getD ((i + 1) % h.length) (0, 0)).1), .int .i64 ((h.getD ((i + 1) % h.length) (0, 0)).2)]⟩, none, some ⟨.row 111 2, .vals [.int .i64 (wdM (ptsA h.length (List.drop 0 (flat h))) ((h.getD i (0, 0)).fst, (h.getD i (0, 0)).snd) ((h.getD ((i + 1) % h.length) (0, 0)).fst, (h.getD ((i + 1) % h.length) (0, 0)).snd) h.length), .int .i64 (sqP ((h.getD i (0, 0)).fst, (h.getD i (0, 0)).snd) ((h.getD ((i + 1) % h.length) (0, 0)).fst, (h.getD ((i + 1) % h.length) (0, 0)).snd))]⟩, some ⟨.row 111 2, .ints (List.take ((wdL h i).length * 2) (List.drop 0 (flat (wdL h i))) ++ [wdM (ptsA h.length (List.drop 0 (flat h))) ((h.getD i (0, 0)).fst, (h.getD i (0, 0)).snd) ((h.getD ((i + 1) % h.length) (0, 0)).fst, (h.getD ((i + 1) % h.length) (0, 0)).snd) h.length, sqP ((h.getD i (0, 0)).fst, (h.getD i (0, 0)).snd) ((h.getD ((i + 1) % h.length) (0, 0)).fst, (h.getD ((i + 1) % h.length) (0, 0)).snd)])⟩]⟩))))))) := by kernel_rfl
/-- A round of this loop. -/
def Round_iWe (xs : List Int) (h : List Pt) : Prop := ∀ i : Nat, g_iWe xs h i → i < (h).length → (bodyR Try.prog EWf 30 12 noL noR (asgOf gc_iWe) (bodOf gc_iWe) ([14, 15].zip (encE h i)) k_iWe 14 (s_iWe xs h i)).ok (RoundEndR 5 (s_iWe xs h) (g_iWe xs h) (re_iWe xs h) (rs_iWe xs h) i) (fun _ _ => False)
set_option maxRecDepth 100000 in
theorem gcode_iWe : gc_iWe = .rangeFunc (.tmp 13) ([14, 15] : List Nat).toArray (asgOf gc_iWe) (bodOf gc_iWe) := by kernel_rfl
def e_iWe (s : St) (k : Ex → St → Tree) : Option Tree := match Nat.beq s.tmps.length 26, pickL s.tmps [3, 4, 13], s.mem with
  | true, [.pointer (some ⟨1, 0, none⟩), .pointer (some ⟨3, 0, none⟩), .func (.func 139) ⟨[]⟩ ⟨[.pointer (some ⟨4, 0, none⟩)]⟩], [some ⟨.view, .ints xs⟩, some ⟨.box, .vals [.slice (some ⟨2, 0, none⟩) n _]⟩, some ⟨.row 37 2, .ints ys⟩, some ⟨.box, .vals [.slice none 0 0]⟩, some ⟨.box, .vals [.slice (some ⟨2, 0, none⟩) n1 _]⟩] => some (needs [n1 = n, ys.length = n * 2, n ≤ 1000, allV (ptsA n ys) = true] (k .normal ⟨[topV, topV, topV, topV, .pointer (some ⟨3, 0, none⟩), topV, topV, topV, topV, topV, topV, topV, topV, topV, topV, topV, topV, topV, topV, topV, topV, topV, topV, topV, topV, topV], [some ⟨.view, .ints xs⟩, some ⟨.box, .vals [.slice (some ⟨2, 0, none⟩) n n]⟩, some ⟨.view, .ints ys⟩, some ⟨.box, .vals [.slice (some ⟨5, 0, none⟩) (wdL (ptsA n ys) n).length (wdL (ptsA n ys) n).length]⟩, some ⟨.view, .vals [.slice (some ⟨2, 0, none⟩) n n]⟩, some ⟨.row 111 2, .ints (flat (wdL (ptsA n ys) n))⟩]⟩))
  | _, _, _ => none
theorem aa_bd {a : Int} (h : 0 ≤ a ∧ a ≤ 8000000) : 0 ≤ a * a ∧ a * a ≤ 100000000000000 := by
  have m := mul_bd (x := a) (y := a) 8000000 8000000 (by omega) (by omega)
  have n := Int.mul_nonneg h.1 h.1
  omega
set_option maxRecDepth 100000 in
set_option maxHeartbeats 1000000 in
theorem round_sWe (xs : List Int) (h : List Pt) (hl : h.length ≤ 1000) (hv : allV h = true) (hr : ringN h) : Round_sWe xs h := by
  rintro i ⟨h1, h2⟩
  rw [tr_sWe]
  simp only [List.drop_zero, ptsA_flat, Int.toNat_natCast, flat_length]
  refine brT_ok.2 ⟨fun hlt => ?_, fun hge => ?_⟩
  · have hlt := of_decide_eq_true hlt
    have hi : i < h.length := by omega
    have ll := wdL_len h h.length
    have hb := bsN_lt (wdL h h.length) i h1
    have st := bsN_st (wdL h h.length) i
    have ow := okWs_L hv hr
    rw [wdL_get h _ i hi, wdL_get h _ _ (show bsN (wdL h h.length) i < h.length by omega)] at st
    generalize bsN (wdL h h.length) i = b at *
    have o1 := okW_P hv hr hi
    have o2 := okW_P hv hr (i := b) (by omega)
    unfold okW wdP at o1 o2
    unfold wlt wdP at st
    simp only at o1 o2 st
    obtain ⟨a1, a2, a3, a4⟩ := o1
    obtain ⟨c1, c2, c3, c4⟩ := o2
    have p1 := aa_bd ⟨a1, a2⟩
    have p2 := aa_bd ⟨c1, c2⟩
    generalize wdM h (h.getD i (0, 0)) (nxP h i) h.length = wa at *
    generalize wdM h (h.getD b (0, 0)) (nxP h b) h.length = wb at *
    generalize sqP (h.getD i (0, 0)) (nxP h i) = sa at *
    generalize sqP (h.getD b (0, 0)) (nxP h b) = sb at *
    rw [wr (x := wa * wa) (by omega), wr (x := wb * wb) (by omega), wsucc (n := h.length) hi (by omega)]
    simp only [Tree.ok]
    refine ⟨by omega, hv, hl, by omega, by omega, hv, hl, by omega, p1, by omega, p2, by omega, brT_ok.2 ⟨fun g => ?_, fun g => ?_⟩⟩
    · rw [g, cond_true] at st
      refine ⟨i + 1, [], ⟨by omega, by omega⟩, ?_, rfl, rfl, ?_⟩
      · show h.length - (i + 1) < h.length - i; omega
      · unfold s_sWe
        rw [st]
        repeat' (first | exact True.intro | exact rfl | exact fun _ => rfl | (simp; done) | refine And.intro ?_ ?_)
    · rw [g, cond_false] at st
      refine ⟨i + 1, [], ⟨by omega, by omega⟩, ?_, rfl, rfl, ?_⟩
      · show h.length - (i + 1) < h.length - i; omega
      · unfold s_sWe
        rw [st]
        repeat' (first | exact True.intro | exact rfl | exact fun _ => rfl | (simp; done) | refine And.intro ?_ ?_)
  · have hge := of_decide_eq_false hge
    obtain rfl : i = h.length := by omega
    refine ⟨rfl, [], ?_⟩
    repeat' (first | exact True.intro | exact rfl | exact fun _ => rfl | (simp; done) | refine And.intro ?_ ?_)
set_option maxRecDepth 100000 in
theorem lg_sWe : LoopE Try.prog e_sWe c_sWe := by
  intro s k t F H hlt ht
  unfold e_sWe at hlt
  split at hlt
  rotate_left
  · cases hlt
  rename_i hlen hpick hmem
  obtain ⟨tmps, mem⟩ := s
  simp only at hlen hpick hmem
  subst hmem
  obtain rfl := Option.some.inj hlt
  obtain ⟨⟨rfl, rfl, h1, h2, h3, h4, h5, _⟩, ht2⟩ := needs_ok ht
  clear ht hlt
  obtain ⟨h, rfl, rfl⟩ := even_flat h1
  rw [ptsA_flat] at ht2 h4 h5
  rw [show (Value.int .i64 0) = .int .i64 (bsN (wdL h h.length) 1) by rw [bsN_one]; rfl] at *
  refine ⟨_, _, ht2, loop_run mixed EWf_ok (s_sWe _ h) (inv_sWe _ h) (me_sWe _ h) re_sWe (rs_sWe _ h) k_sWe (fun _ => rfl) (noLoops nl_sWe) (round_sWe _ h h2 h4 h5) (x := 1) ⟨by decide, h3⟩ (π := []) rfl ?_⟩
  refine ⟨rfl, rfl, ?_, wvs_spread' [3, 4, 5] hlen rfl ?_⟩
  · repeat' (first | exact True.intro | exact rfl | exact wv_top _ _ | exact fun _ => rfl | assumption | exact Eq.symm (by assumption) | exact vI0 rfl | refine And.intro ?_ ?_)
  · rw [hpick]
    repeat' (first | exact True.intro | exact rfl | exact wv_top _ _ | exact fun _ => rfl | assumption | exact Eq.symm (by assumption) | exact vI0 rfl | refine And.intro ?_ ?_)
theorem wdL_next (h : List Pt) (i : Nat) : flat (wdL h (i + 1)) = flat (wdL h i) ++ [wdM h (h.getD i (0, 0)) (nxP h i) h.length, sqP (h.getD i (0, 0)) (nxP h i)] := by
  rw [wdL, flat_append]
  rfl
set_option maxRecDepth 100000 in
theorem round_iWe (xs : List Int) (h : List Pt) (hl : h.length ≤ 1000) (hv : allV h = true) : Round_iWe xs h := by
  intro i hg hi
  rw [tr_iWe]
  have ll := wdL_len h i
  have l2 := flat_length (wdL h i)
  simp only [List.drop_zero, ptsA_flat, flat_length, flat_all]
  refine ⟨Nat.le_refl _, hv, hl, allV_at hv hi, allV_at hv (nx_lt hi), by omega, by omega, ?_⟩
  refine ⟨show i + 1 ≤ h.length by omega, [some 9], ?_⟩
  unfold s_iWe
  rw [wdL_next, wdL_len, wdL_len]
  refine ⟨rfl, rfl, ?_, ?_⟩ <;> repeat' (first | exact True.intro | exact rfl | exact wv_top _ _ | exact fun _ => rfl | refine And.intro ?_ ?_)
set_option maxRecDepth 100000 in
theorem lg_iWe : RangeE Try.prog e_iWe gc_iWe := by
  intro s k t F H hlt ht
  unfold e_iWe at hlt
  split at hlt
  rotate_left
  · cases hlt
  rename_i hlen hpick hmem
  obtain ⟨tmps, mem⟩ := s
  simp only at hlen hpick hmem
  subst hmem
  obtain rfl := Option.some.inj hlt
  obtain ⟨⟨rfl, h1, h2, h4, _⟩, ht2⟩ := needs_ok ht
  clear ht hlt
  obtain ⟨h, rfl, rfl⟩ := even_flat h1
  rw [ptsA_flat] at ht2 h4
  rename_i xs c1 c2 rr
  refine ⟨re_iWe xs h, rs_iWe xs h, ht2, ?_⟩
  rw [gcode_iWe]
  refine range_det (enc := encE h) (len := (h).length) (St_of := s_iWe xs h) (Good := g_iWe xs h) (N := 5) (M := 14) (Kn := [2, 4]) (cap := [.pointer (some ⟨4, 0, none⟩)]) (kf := (k_iWe .normal)) (π := [none]) (fun _ => rfl) (fun _ => rfl) (fun i hg hlt => bodyR_ok mixed EWf_ok (noL_good) (noR_good) (round_iWe xs h h2 h4 i hg hlt)) (entersB_res (by kernel_rfl)).1 rfl ?_ (fun ρ0 ρ B w lb h1 h2 => ed_iter h (by omega) (s := (s_iWe xs h 0).fs) (nb := 4) (nr := 2) (c := (h).length) (Kn := [2, 4]) rfl rfl (by decide) (by decide) ρ0 ρ B w lb h1 h2) ?_ rfl (by decide) ?_ (Nat.zero_le _)
  · intro n hn b hb
    simp only [List.mem_cons, List.not_mem_nil, or_false] at hn
    rcases hn with rfl | rfl <;> (obtain rfl := Option.some.inj hb; rfl)
  · exact fun _ => ⟨rfl, [some 5], by refine ⟨rfl, rfl, ?_, ?_⟩ <;> repeat' (first | exact True.intro | exact rfl | exact wv_top _ _ | exact fun _ => rfl | refine And.intro ?_ ?_)⟩
  · refine ⟨rfl, rfl, ?_, wvs_spread' [3, 4, 13] hlen rfl ?_⟩
    · repeat' (first | exact True.intro | exact rfl | exact wv_top _ _ | exact fun _ => rfl | assumption | exact Eq.symm (by assumption) | exact vI0 rfl | refine And.intro ?_ ?_)
    · rw [show pickL (viewS [2, 4] ⟨tmps, _⟩).tmps [3, 4, 13] = pickL tmps [3, 4, 13] from rfl, hpick]
      repeat' (first | exact True.intro | exact rfl | exact wv_top _ _ | exact fun _ => rfl | assumption | exact Eq.symm (by assumption) | exact vI0 rfl | refine And.intro ?_ ?_)
theorem Lr_sWe {fn : Func} (hf : Try.prog.funcs[48]? = some fn) : LoopsGood Try.prog (lt1 e_sWe) 0 (codeOf fn) := by
  obtain rfl := fn_is Try.func48 hf
  exact lt1_good lg_sWe
theorem Gr_iWe {fn : Func} (hf : Try.prog.funcs[49]? = some fn) : RangesGood Try.prog (rt1 13 e_iWe) (codeOf fn) := by
  obtain rfl := fn_is Try.func49 hf
  exact rt1_good (by kernel_rfl) lg_iWe
def LWg : FuncId → LT := fun f => match f with
  | 48 => lt1 e_sWe
  | _ => noL
def GWg : FuncId → RT := fun f => match f with
  | 49 => rt1 13 e_iWe
  | _ => noR
def EWg : Env := withG (mkE TWf RHv LWg) GWg
theorem EWg_ok : EnvOk Try.prog EWg := withG_ok (mkEOk TWf_ok RHv_ok (by
  intro f fn hf
  unfold LWg
  split
  all_goals first | with_reducible exact Lr_sWe hf | exact noL_good)) (by
  intro f fn hf
  unfold GWg
  split
  all_goals first | with_reducible exact Gr_iWe hf | exact noR_good)
set_option maxRecDepth 100000 in
theorem tr_sWeF (ps : List Pt) : bodyV Try.prog EWg 30 12 48 [.row ps.length (.ints (flat ps))] = .need (ps.length * (2 : Nat) ≤ (List.drop (0 : Nat) (flat ps)).length) (.need (ps.length ≤ (1000000000 : Nat)) (brT (!okL (ptsA ps.length (List.drop 0 (flat ps)))) (.fin (.int .i64 (-1)) []) (.need (ps.length * (2 : Nat) ≤ (List.drop (0 : Nat) (flat ps)).length) (.need (allV (ptsA ps.length (List.drop (0 : Nat) (flat ps))) = true) (.need (ps.length ≤ (1000 : Nat)) (brT (decide ((↑(hulL (srtL (ptsA ps.length (List.drop 0 (flat ps))))).length : Int) < 3)) (.fin (.int .i64 (-1)) []) (.need ((1 : Int) = (1 : Int)) (.need ((0 : Int) = (0 : Int)) (.need ((flat (hulL (srtL (ptsA ps.length (List.drop (0 : Nat) (flat ps)))))).length = (hulL (srtL (ptsA ps.length (List.drop (0 : Nat) (flat ps))))).length * (2 : Nat)) (.need ((hulL (srtL (ptsA ps.length (List.drop (0 : Nat) (flat ps))))).length ≤ (1000 : Nat)) (.need ((0 : Nat) < (hulL (srtL (ptsA ps.length (List.drop (0 : Nat) (flat ps))))).length) (.need (allV (ptsA (hulL (srtL (ptsA ps.length (List.drop (0 : Nat) (flat ps))))).length (flat (hulL (srtL (ptsA ps.length (List.drop (0 : Nat) (flat ps))))))) = true) (.need (ringN (ptsA (hulL (srtL (ptsA ps.length (List.drop (0 : Nat) (flat ps))))).length (flat (hulL (srtL (ptsA ps.length (List.drop (0 : Nat) (flat ps)))))))) (.fin (.int .i64 ((↑(bsN (wdL (ptsA (hulL (srtL (ptsA ps.length (List.drop 0 (flat ps))))).length (flat (hulL (srtL (ptsA ps.length (List.drop 0 (flat ps))))))) (hulL (srtL (ptsA ps.length (List.drop 0 (flat ps))))).length) (hulL (srtL (ptsA ps.length (List.drop 0 (flat ps))))).length) : Int))) [])))))))))))))) := by kernel_rfl
set_option maxRecDepth 100000 in
theorem tr_iWeF (ps : List Pt) : bodyV Try.prog EWg 30 12 49 [.row ps.length (.ints (flat ps))] = .need (ps.length * (2 : Nat) ≤ (List.drop (0 : Nat) (flat ps)).length) (.need (ps.length ≤ (1000000000 : Nat)) (brT (decide ((↑(hulV (ptsA ps.length (List.drop 0 (flat ps)))).length : Int) < 3)) (.fin (.int .i64 (-1)) []) (.need ((hulV (ptsA ps.length (List.drop (0 : Nat) (flat ps)))).length = (hulV (ptsA ps.length (List.drop (0 : Nat) (flat ps)))).length) (.need ((flat (hulV (ptsA ps.length (List.drop (0 : Nat) (flat ps))))).length = (hulV (ptsA ps.length (List.drop (0 : Nat) (flat ps)))).length * (2 : Nat)) (.need ((hulV (ptsA ps.length (List.drop (0 : Nat) (flat ps)))).length ≤ (1000 : Nat)) (.need (allV (ptsA (hulV (ptsA ps.length (List.drop (0 : Nat) (flat ps)))).length (flat (hulV (ptsA ps.length (List.drop (0 : Nat) (flat ps)))))) = true) (.need ((wdL (ptsA (hulV (ptsA ps.length (List.drop (0 : Nat) (flat ps)))).length (flat (hulV (ptsA ps.length (List.drop (0 : Nat) (flat ps)))))) (hulV (ptsA ps.length (List.drop (0 : Nat) (flat ps)))).length).length * (2 : Nat) ≤ (List.drop (0 : Nat) (flat (wdL (ptsA (hulV (ptsA ps.length (List.drop (0 : Nat) (flat ps)))).length (flat (hulV (ptsA ps.length (List.drop (0 : Nat) (flat ps)))))) (hulV (ptsA ps.length (List.drop (0 : Nat) (flat ps)))).length))).length) (.need ((0 : Nat) < (wdL (ptsA (hulV (ptsA ps.length (List.drop (0 : Nat) (flat ps)))).length (flat (hulV (ptsA ps.length (List.drop (0 : Nat) (flat ps)))))) (hulV (ptsA ps.length (List.drop (0 : Nat) (flat ps)))).length).length) (.need ((wdL (ptsA (hulV (ptsA ps.length (List.drop (0 : Nat) (flat ps)))).length (flat (hulV (ptsA ps.length (List.drop (0 : Nat) (flat ps)))))) (hulV (ptsA ps.length (List.drop (0 : Nat) (flat ps)))).length).length ≤ (1000 : Nat)) (.need (okWs (ptsA (wdL (ptsA (hulV (ptsA ps.length (List.drop (0 : Nat) (flat ps)))).length (flat (hulV (ptsA ps.length (List.drop (0 : Nat) (flat ps)))))) (hulV (ptsA ps.length (List.drop (0 : Nat) (flat ps)))).length).length (List.drop (0 : Nat) (flat (wdL (ptsA (hulV (ptsA ps.length (List.drop (0 : Nat) (flat ps)))).length (flat (hulV (ptsA ps.length (List.drop (0 : Nat) (flat ps)))))) (hulV (ptsA ps.length (List.drop (0 : Nat) (flat ps)))).length))))) (.need ((wdL (ptsA (hulV (ptsA ps.length (List.drop (0 : Nat) (flat ps)))).length (flat (hulV (ptsA ps.length (List.drop (0 : Nat) (flat ps)))))) (hulV (ptsA ps.length (List.drop (0 : Nat) (flat ps)))).length).length * (2 : Nat) ≤ (List.drop (0 : Nat) (flat (wdL (ptsA (hulV (ptsA ps.length (List.drop (0 : Nat) (flat ps)))).length (flat (hulV (ptsA ps.length (List.drop (0 : Nat) (flat ps)))))) (hulV (ptsA ps.length (List.drop (0 : Nat) (flat ps)))).length))).length) (.need ((wdL (ptsA (hulV (ptsA ps.length (List.drop (0 : Nat) (flat ps)))).length (flat (hulV (ptsA ps.length (List.drop (0 : Nat) (flat ps)))))) (hulV (ptsA ps.length (List.drop (0 : Nat) (flat ps)))).length).length ≤ (1000 : Nat)) (.need (idxW (((ptsA (wdL (ptsA (hulV (ptsA ps.length (List.drop (0 : Nat) (flat ps)))).length (flat (hulV (ptsA ps.length (List.drop (0 : Nat) (flat ps)))))) (hulV (ptsA ps.length (List.drop (0 : Nat) (flat ps)))).length).length (List.drop (0 : Nat) (flat (wdL (ptsA (hulV (ptsA ps.length (List.drop (0 : Nat) (flat ps)))).length (flat (hulV (ptsA ps.length (List.drop (0 : Nat) (flat ps)))))) (hulV (ptsA ps.length (List.drop (0 : Nat) (flat ps)))).length)))).getD (bsN (ptsA (wdL (ptsA (hulV (ptsA ps.length (List.drop (0 : Nat) (flat ps)))).length (flat (hulV (ptsA ps.length (List.drop (0 : Nat) (flat ps)))))) (hulV (ptsA ps.length (List.drop (0 : Nat) (flat ps)))).length).length (List.drop (0 : Nat) (flat (wdL (ptsA (hulV (ptsA ps.length (List.drop (0 : Nat) (flat ps)))).length (flat (hulV (ptsA ps.length (List.drop (0 : Nat) (flat ps)))))) (hulV (ptsA ps.length (List.drop (0 : Nat) (flat ps)))).length)))) (wdL (ptsA (hulV (ptsA ps.length (List.drop (0 : Nat) (flat ps)))).length (flat (hulV (ptsA ps.length (List.drop (0 : Nat) (flat ps)))))) (hulV (ptsA ps.length (List.drop (0 : Nat) (flat ps)))).length).length) ((0 : Int), (0 : Int))).fst, ((ptsA (wdL (ptsA (hulV (ptsA ps.length (List.drop (0 : Nat) (flat ps)))).length (flat (hulV (ptsA ps.length (List.drop (0 : Nat) (flat ps)))))) (hulV (ptsA ps.length (List.drop (0 : Nat) (flat ps)))).length).length (List.drop (0 : Nat) (flat (wdL (ptsA (hulV (ptsA ps.length (List.drop (0 : Nat) (flat ps)))).length (flat (hulV (ptsA ps.length (List.drop (0 : Nat) (flat ps)))))) (hulV (ptsA ps.length (List.drop (0 : Nat) (flat ps)))).length)))).getD (bsN (ptsA (wdL (ptsA (hulV (ptsA ps.length (List.drop (0 : Nat) (flat ps)))).length (flat (hulV (ptsA ps.length (List.drop (0 : Nat) (flat ps)))))) (hulV (ptsA ps.length (List.drop (0 : Nat) (flat ps)))).length).length (List.drop (0 : Nat) (flat (wdL (ptsA (hulV (ptsA ps.length (List.drop (0 : Nat) (flat ps)))).length (flat (hulV (ptsA ps.length (List.drop (0 : Nat) (flat ps)))))) (hulV (ptsA ps.length (List.drop (0 : Nat) (flat ps)))).length)))) (wdL (ptsA (hulV (ptsA ps.length (List.drop (0 : Nat) (flat ps)))).length (flat (hulV (ptsA ps.length (List.drop (0 : Nat) (flat ps)))))) (hulV (ptsA ps.length (List.drop (0 : Nat) (flat ps)))).length).length) ((0 : Int), (0 : Int))).snd) (ptsA (wdL (ptsA (hulV (ptsA ps.length (List.drop (0 : Nat) (flat ps)))).length (flat (hulV (ptsA ps.length (List.drop (0 : Nat) (flat ps)))))) (hulV (ptsA ps.length (List.drop (0 : Nat) (flat ps)))).length).length (List.drop (0 : Nat) (flat (wdL (ptsA (hulV (ptsA ps.length (List.drop (0 : Nat) (flat ps)))).length (flat (hulV (ptsA ps.length (List.drop (0 : Nat) (flat ps)))))) (hulV (ptsA ps.length (List.drop (0 : Nat) (flat ps)))).length)))) < (wdL (ptsA (hulV (ptsA ps.length (List.drop (0 : Nat) (flat ps)))).length (flat (hulV (ptsA ps.length (List.drop (0 : Nat) (flat ps)))))) (hulV (ptsA ps.length (List.drop (0 : Nat) (flat ps)))).length).length) (.fin (.int .i64 ((↑(idxW (((ptsA (wdL (ptsA (hulV (ptsA ps.length (List.drop 0 (flat ps)))).length (flat (hulV (ptsA ps.length (List.drop 0 (flat ps)))))) (hulV (ptsA ps.length (List.drop 0 (flat ps)))).length).length (List.drop 0 (flat (wdL (ptsA (hulV (ptsA ps.length (List.drop 0 (flat ps)))).length (flat (hulV (ptsA ps.length (List.drop 0 (flat ps)))))) (hulV (ptsA ps.length (List.drop 0 (flat ps)))).length)))).getD (bsN (ptsA (wdL (ptsA (hulV (ptsA ps.length (List.drop 0 (flat ps)))).length (flat (hulV (ptsA ps.length (List.drop 0 (flat ps)))))) (hulV (ptsA ps.length (List.drop 0 (flat ps)))).length).length (List.drop 0 (flat (wdL (ptsA (hulV (ptsA ps.length (List.drop 0 (flat ps)))).length (flat (hulV (ptsA ps.length (List.drop 0 (flat ps)))))) (hulV (ptsA ps.length (List.drop 0 (flat ps)))).length)))) (wdL (ptsA (hulV (ptsA ps.length (List.drop 0 (flat ps)))).length (flat (hulV (ptsA ps.length (List.drop 0 (flat ps)))))) (hulV (ptsA ps.length (List.drop 0 (flat ps)))).length).length) (0, 0)).fst, ((ptsA (wdL (ptsA (hulV (ptsA ps.length (List.drop 0 (flat ps)))).length (flat (hulV (ptsA ps.length (List.drop 0 (flat ps)))))) (hulV (ptsA ps.length (List.drop 0 (flat ps)))).length).length (List.drop 0 (flat (wdL (ptsA (hulV (ptsA ps.length (List.drop 0 (flat ps)))).length (flat (hulV (ptsA ps.length (List.drop 0 (flat ps)))))) (hulV (ptsA ps.length (List.drop 0 (flat ps)))).length)))).getD (bsN (ptsA (wdL (ptsA (hulV (ptsA ps.length (List.drop 0 (flat ps)))).length (flat (hulV (ptsA ps.length (List.drop 0 (flat ps)))))) (hulV (ptsA ps.length (List.drop 0 (flat ps)))).length).length (List.drop 0 (flat (wdL (ptsA (hulV (ptsA ps.length (List.drop 0 (flat ps)))).length (flat (hulV (ptsA ps.length (List.drop 0 (flat ps)))))) (hulV (ptsA ps.length (List.drop 0 (flat ps)))).length)))) (wdL (ptsA (hulV (ptsA ps.length (List.drop 0 (flat ps)))).length (flat (hulV (ptsA ps.length (List.drop 0 (flat ps)))))) (hulV (ptsA ps.length (List.drop 0 (flat ps)))).length).length) (0, 0)).snd) (ptsA (wdL (ptsA (hulV (ptsA ps.length (List.drop 0 (flat ps)))).length (flat (hulV (ptsA ps.length (List.drop 0 (flat ps)))))) (hulV (ptsA ps.length (List.drop 0 (flat ps)))).length).length (List.drop 0 (flat (wdL (ptsA (hulV (ptsA ps.length (List.drop 0 (flat ps)))).length (flat (hulV (ptsA ps.length (List.drop 0 (flat ps)))))) (hulV (ptsA ps.length (List.drop 0 (flat ps)))).length))))) : Int))) [])))))))))))))) := by kernel_rfl
theorem allV_sub {s t : List Pt} (h : allV s = true) (hs : ∀ z ∈ t, z ∈ s) : allV t = true := List.all_eq_true.2 fun z hz => List.all_eq_true.1 h z (hs z hz)
theorem hulV_allV (ps : List Pt) : allV (hulV ps) = true := by
  rcases ho : okL ps with _ | _
  · rw [hulV_no ho]; rfl
  · rw [hulV_yes ho]
    exact allV_sub (okL_20 ho).1 fun z hz => (srtL_mem ps z).1 (hul_in (srtL_asc ps) hz)
theorem hulV_cvh {ps : List Pt} (h : 3 ≤ (hulV ps).length) : CvH (hulV ps) := by
  rcases ho : okL ps with _ | _
  · rw [hulV_no ho] at h; simp at h
  · rw [hulV_yes ho] at h ⊢
    exact hul_cvh (srtL_asc ps) h
theorem cvh_ring {h : List Pt} (H : CvH h) : ringN h := by
  intro i hi e
  have h1 := (nx_ne H hi).1
  have h2 := nx_lt hi
  exact h1 (nd_inj H.nodup h2 hi e.symm)
/-- What WidthEdge answers. -/
def widV (ps : List Pt) : Int := if (hulV ps).length < 3 then -1 else bsN (wdL (hulV ps) (hulV ps).length) (hulV ps).length
theorem res_sWe (ps : List Pt) (h : Big ps) : Res Try.prog 48 [.row ps.length (.ints (flat ps))] (iv (widV ps)) := by
  refine bodyV_res mixed EWg_ok (m := 30) (n := 12) rfl ?_
  rw [tr_sWeF]
  unfold Big at h
  have hl := hulV_len ps
  have hv := hulV_allV ps
  have hr := fun h3 => cvh_ring (hulV_cvh (ps := ps) h3)
  simp only [List.drop_zero, ptsA_flat, flat_length]
  unfold widV
  rcases ho : okL ps with _ | _
  · rw [hulV_no ho]
    simp [brT_ok, Tree.ok, h]
  · obtain ⟨o1, o2⟩ := okL_20 ho
    rw [hulV_yes ho] at *
    generalize hulL (srtL ps) = g at *
    simp only [Bool.not_true, brT_f, Tree.ok]
    refine ⟨Nat.le_refl _, h, Nat.le_refl _, o1, by omega, brT_ok.2 ⟨fun q => ?_, fun q => ?_⟩⟩
    · have q := of_decide_eq_true q
      rw [if_pos (by omega)]
      rfl
    · have q := of_decide_eq_false q
      rw [if_neg (by omega)]
      have hr := hr (by omega)
      repeat' (first | exact True.intro | exact rfl | assumption | omega | refine And.intro ?_ ?_)
theorem res_iWe (ps : List Pt) (h : Big ps) : Res Try.prog 49 [.row ps.length (.ints (flat ps))] (iv (widV ps)) := by
  refine bodyV_res mixed EWg_ok (m := 30) (n := 12) rfl ?_
  rw [tr_iWeF]
  unfold Big at h
  have hl := hulV_len ps
  have hv := hulV_allV ps
  have hr := fun h3 => cvh_ring (hulV_cvh (ps := ps) h3)
  simp only [List.drop_zero, ptsA_flat, flat_length]
  unfold widV
  generalize hulV ps = g at *
  have ll := wdL_len g g.length
  refine ⟨Nat.le_refl _, h, brT_ok.2 ⟨fun q => ?_, fun q => ?_⟩⟩
  · have q := of_decide_eq_true q
    rw [if_pos (by omega)]
    rfl
  · have q := of_decide_eq_false q
    rw [if_neg (by omega)]
    have hr := hr (by omega)
    have ow := okWs_L hv hr
    have hx := idx_bs ow (by omega)
    have hb := bsN_lt (wdL g g.length) _ (show 0 < g.length by omega)
    have hf := flat_length (wdL g g.length)
    rw [ll] at hx hf
    simp only [ll, hx, Prod.eta, Tree.ok]
    repeat' (first | exact True.intro | exact rfl | assumption | omega | refine And.intro ?_ ?_)
def pWdE : List DArg → Option (Value × List Prop)
  | [.row m (.ints xs)] => some (iv (widV (ptsA m xs)), [m * 2 ≤ xs.length, m ≤ 1000000000])
  | _ => none
theorem pWdE_ok {f : FuncId} (H : ∀ ps : List Pt, Big ps → Res Try.prog f [.row ps.length (.ints (flat ps))] (iv (widV ps))) {ds : List DArg} {v : Value} {C : List Prop} (h : pWdE ds = some (v, C)) (hC : AllP C) : Res Try.prog f ds v := by
  unfold pWdE at h
  split at h
  · rename_i m xs
    obtain ⟨rfl, rfl⟩ : _ ∧ _ := by simpa using h
    obtain ⟨_, h2⟩ := ptsA_spec hC.1
    exact res_pts1 (pre := []) (post := []) hC.1 (H (ptsA m xs) (by unfold Big; rw [h2]; exact hC.2.1))
  · cases h
def TWg : Tab := fun f ds => match f with
  | 48 => pWdE ds
  | 49 => pWdE ds
  | f => TMh f ds
theorem TWg_ok : TabOk Try.prog TWg := by
  intro f ds v C h hC
  unfold TWg at h
  (try split at h)
  all_goals first | with_reducible exact pWdE_ok res_sWe h hC | with_reducible exact pWdE_ok res_iWe h hC | exact TMh_ok _ _ _ _ h hC
end Go.Proofs.Ytpjdnplpiamjcaa
namespace Go.Proofs.Ytpjdnplpiamjcaa
set_option linter.all false
open Go.RowKit
set_option maxRecDepth 100000 in
theorem tr_pick (bs : List Int) (l c : Nat) (p k : Int) : bodyM Try.prog (tabE B0) (runM Try.prog (tabE B0) 30 12) 30 74 [.pointer (some ⟨1, 0, none⟩), .int .i64 k] (memR bs l c p none) .fin = brT (decide (k < 1)) (.fin (.int .i64 (0)) [some ⟨.view, .bytes (bs)⟩, some ⟨.box, .vals [.slice (some ⟨0, 0, none⟩) (l) (c), .int .i64 (IntKind.i64.wrap (p + 1))]⟩]) (brT ((↑l : Int) == 0) (.fin (.int .i64 (0)) [some ⟨.view, .bytes (bs)⟩, some ⟨.box, .vals [.slice (some ⟨0, 0, none⟩) (l) (c), .int .i64 (IntKind.i64.wrap (p + 1))]⟩]) (brT (decide (IntKind.i64.wrap (IntKind.i64.wrap (p + 1) - 1) < (↑l : Int))) (.need ((0 : Int) ≤ IntKind.i64.wrap (IntKind.i64.wrap (p + (1 : Int)) - (1 : Int)) ∧ IntKind.i64.wrap (IntKind.i64.wrap (p + (1 : Int)) - (1 : Int)) < (↑l : Int)) (.need ((0 : Nat) + (IntKind.i64.wrap (IntKind.i64.wrap (p + (1 : Int)) - (1 : Int))).toNat * (1 : Nat) < bs.length) (.need (¬k = (0 : Int)) (.fin (.int .i64 ((IntKind.i64.wrap (bs.getD (0 + (IntKind.i64.wrap (IntKind.i64.wrap (p + 1) - 1)).toNat * 1) 0)).tmod k)) [some ⟨.view, .bytes (bs)⟩, some ⟨.box, .vals [.slice (some ⟨0, 0, none⟩) (l) (c), .int .i64 (IntKind.i64.wrap (p + 1))]⟩])))) (.need (¬(↑l : Int) = (0 : Int)) (.need ((0 : Int) ≤ (IntKind.i64.wrap (IntKind.i64.wrap (p + (1 : Int)) - (1 : Int))).tmod (↑l : Int) ∧ (IntKind.i64.wrap (IntKind.i64.wrap (p + (1 : Int)) - (1 : Int))).tmod (↑l : Int) < (↑l : Int)) (.need ((0 : Nat) + ((IntKind.i64.wrap (IntKind.i64.wrap (p + (1 : Int)) - (1 : Int))).tmod (↑l : Int)).toNat * (1 : Nat) < bs.length) (.need (¬(↑l : Int) = (0 : Int)) (.need ((0 : Int) ≤ (IntKind.i64.wrap (IntKind.i64.wrap (IntKind.i64.wrap (IntKind.i64.wrap (p + (1 : Int)) - (1 : Int)) * (7 : Int)) + (3 : Int))).tmod (↑l : Int) ∧ (IntKind.i64.wrap (IntKind.i64.wrap (IntKind.i64.wrap (IntKind.i64.wrap (p + (1 : Int)) - (1 : Int)) * (7 : Int)) + (3 : Int))).tmod (↑l : Int) < (↑l : Int)) (.need ((0 : Nat) + ((IntKind.i64.wrap (IntKind.i64.wrap (IntKind.i64.wrap (IntKind.i64.wrap (p + (1 : Int)) - (1 : Int)) * (7 : Int)) + (3 : Int))).tmod (↑l : Int)).toNat * (1 : Nat) < bs.length) (.need (¬(↑l : Int) = (0 : Int)) (.need (¬(64 : Int) = (0 : Int)) (.need (¬k = (0 : Int)) (.fin (.int .i64 ((IntKind.i64.wrap (↑(BitVec.ofInt IntKind.i64.bits (IntKind.i64.wrap (IntKind.i64.wrap (IntKind.i64.wrap (IntKind.i64.wrap (IntKind.i64.wrap (bs.getD (0 + ((IntKind.i64.wrap (IntKind.i64.wrap (p + 1) - 1)).tmod (↑l : Int)).toNat * (1 : Nat)) 0) * 131) + IntKind.i64.wrap (IntKind.i64.wrap (bs.getD (0 + ((IntKind.i64.wrap (IntKind.i64.wrap (IntKind.i64.wrap (IntKind.i64.wrap (p + 1) - 1) * 7) + 3)).tmod (↑l : Int)).toNat * (1 : Nat)) 0) * 1117)) + IntKind.i64.wrap (IntKind.i64.wrap (IntKind.i64.wrap (p + 1) - 1) * 29)) + IntKind.i64.wrap (IntKind.i64.wrap ((IntKind.i64.wrap (IntKind.i64.wrap (p + 1) - 1)).tdiv (↑l : Int)) * 53))) ^^^ BitVec.ofInt IntKind.i64.bits (IntKind.i64.wrap ((IntKind.i64.wrap (IntKind.i64.wrap (IntKind.i64.wrap (IntKind.i64.wrap (IntKind.i64.wrap (bs.getD (0 + ((IntKind.i64.wrap (IntKind.i64.wrap (p + 1) - 1)).tmod (↑l : Int)).toNat * (1 : Nat)) 0) * 131) + IntKind.i64.wrap (IntKind.i64.wrap (bs.getD (0 + ((IntKind.i64.wrap (IntKind.i64.wrap (IntKind.i64.wrap (IntKind.i64.wrap (p + 1) - 1) * 7) + 3)).tmod (↑l : Int)).toNat * (1 : Nat)) 0) * 1117)) + IntKind.i64.wrap (IntKind.i64.wrap (IntKind.i64.wrap (p + 1) - 1) * 29)) + IntKind.i64.wrap (IntKind.i64.wrap ((IntKind.i64.wrap (IntKind.i64.wrap (p + 1) - 1)).tdiv (↑l : Int)) * 53))).tdiv 64))).toNat : Int)).tmod k)) [some ⟨.view, .bytes (bs)⟩, some ⟨.box, .vals [.slice (some ⟨0, 0, none⟩) (l) (c), .int .i64 (IntKind.i64.wrap (p + 1))]⟩])))))))))))) := by kernel_rfl
def xorI (x : Int) : Int := IntKind.i64.wrap (↑(BitVec.ofInt IntKind.i64.bits x ^^^ BitVec.ofInt IntKind.i64.bits (IntKind.i64.wrap (x.tdiv 64))).toNat : Int)
def mixI (bs : List Int) (l : Nat) (p : Int) : Int := bs.getD (p.tmod l).toNat 0 * 131 + bs.getD ((p * 7 + 3).tmod l).toNat 0 * 1117 + p * 29 + p.tdiv l * 53
/-- What pick answers. -/
def pickI (bs : List Int) (l : Nat) (p k : Int) : Int := if k < 1 ∨ l = 0 then 0 else if p < l then (bs.getD p.toNat 0).tmod k else (xorI (mixI bs l p)).tmod k
/-- Is the reader in order? -/
def rdC (bs : List Int) (l : Nat) (p : Int) : Prop := l ≤ bs.length ∧ l ≤ 2000 ∧ 0 ≤ p ∧ p ≤ 1000000 ∧ Bytes bs
def pickS : RSpec := fun bs l p rest ex => match rest, ex with
  | [.int .i64 k], none => some (.int .i64 (pickI bs l p k), p + 1, [rdC bs l p])
  | _, _ => none
theorem Bytes.get {bs : List Int} (h : Bytes bs) (i : Nat) : 0 ≤ bs.getD i 0 ∧ bs.getD i 0 ≤ 255 := by
  rw [List.getD_eq_getElem?_getD]
  rcases hx : bs[i]? with _ | b
  · simp
  · simpa using h b (List.mem_of_getElem? hx)
theorem xorI_bd {x : Int} (h0 : 0 ≤ x) (h1 : x < 4611686018427387904) : 0 ≤ xorI x ∧ xorI x < 9223372036854775808 := by
  have hq : 0 ≤ x.tdiv 64 ∧ x.tdiv 64 ≤ x := by
    rw [Int.tdiv_eq_ediv_of_nonneg h0]
    omega
  unfold xorI
  rw [wr (x := x.tdiv 64) (by omega)]
  obtain ⟨a, rfl⟩ := Int.eq_ofNat_of_zero_le h0
  obtain ⟨b, hb⟩ := Int.eq_ofNat_of_zero_le hq.1
  rw [hb]
  have hb' : (b : Int) ≤ a := by rw [← hb]; exact hq.2
  have e : (BitVec.ofInt IntKind.i64.bits (a : Int) ^^^ BitVec.ofInt IntKind.i64.bits (b : Int)).toNat = a ^^^ b := by
    show (BitVec.ofInt 64 (a : Int) ^^^ BitVec.ofInt 64 (b : Int)).toNat = a ^^^ b
    rw [BitVec.toNat_xor]
    simp only [BitVec.ofInt_natCast, BitVec.toNat_ofNat]
    rw [Nat.mod_eq_of_lt (by omega), Nat.mod_eq_of_lt (by omega)]
  have hlt : a ^^^ b < 2 ^ 63 := Nat.xor_lt_two_pow (by omega) (by omega)
  rw [e, wr (by omega)]
  omega
theorem mixI_bd {bs : List Int} {l : Nat} {p : Int} (h : rdC bs l p) (hl : 0 < l) : 0 ≤ mixI bs l p ∧ mixI bs l p < 1000000000 := by
  obtain ⟨_, h2, h3, h4, h5⟩ := h
  have b1 := h5.get (p.tmod l).toNat
  have b2 := h5.get ((p * 7 + 3).tmod l).toNat
  have q : 0 ≤ p.tdiv l ∧ p.tdiv l ≤ p := by
    rw [Int.tdiv_eq_ediv_of_nonneg h3]
    exact ⟨Int.ediv_nonneg h3 (by omega), Int.ediv_le_self _ h3⟩
  unfold mixI
  omega
theorem pickI_bd {bs : List Int} {l : Nat} {p k : Int} (h : rdC bs l p) (hk : 1 ≤ k) : 0 ≤ pickI bs l p k ∧ pickI bs l p k < k := by
  unfold pickI
  split
  · omega
  rename_i hn
  have hl : 0 < l := by omega
  split
  · exact ⟨Int.tmod_nonneg _ (h.2.2.2.2.get _).1, Int.tmod_lt_of_pos _ (by omega)⟩
  · have hm := mixI_bd h hl
    exact ⟨Int.tmod_nonneg _ (xorI_bd hm.1 (by omega)).1, Int.tmod_lt_of_pos _ (by omega)⟩
theorem vk {k : IntKind} {a b : Int} (h : a = b) : Value.int k a = .int k b := by rw [h]
theorem pickS_ok : SpecOk Try.prog 74 pickS := by
  intro bs l c p rest0 ex v p' C h hC
  unfold pickS at h
  split at h
  rotate_left
  · cases h
  rename_i k
  obtain ⟨rfl, rfl, rfl⟩ : Value.int .i64 (pickI bs l p k) = v ∧ p + 1 = p' ∧ [rdC bs l p] = C := by simpa using h
  have hC := hC.1
  have hg := fun i => hC.2.2.2.2.get i
  have hC0 := hC
  obtain ⟨h1, h2, h3, h4, h5⟩ := hC
  refine ⟨tabE B0, 30, 12, tabE_ok B0_ok, rfl, ?_⟩
  rw [tr_pick]
  have e1 : IntKind.i64.wrap (p + 1) = p + 1 := wr (by omega)
  have e2 : IntKind.i64.wrap (p + 1 - 1) = p := by rw [wr (by omega)]; omega
  have e3 : IntKind.i64.wrap (p * 7) = p * 7 := wr (by omega)
  have e4 : IntKind.i64.wrap (p * 7 + 3) = p * 7 + 3 := wr (by omega)
  simp only [e1, e2, e3, e4, Nat.zero_add, Nat.mul_one]
  refine brT_ok.2 ⟨fun hk => ?_, fun hk => brT_ok.2 ⟨fun hl => ?_, fun hl => brT_ok.2 ⟨fun hp => ?_, fun hp => ?_⟩⟩⟩
  · have hk := of_decide_eq_true hk
    refine ⟨vk ?_, rfl⟩
    unfold pickI
    rw [if_pos (.inl hk)]
  · have hl : l = 0 := by simpa using hl
    refine ⟨vk ?_, rfl⟩
    unfold pickI
    rw [if_pos (.inr hl)]
  · have hk := of_decide_eq_false hk
    have hl : ¬ l = 0 := by simpa using hl
    have hp := of_decide_eq_true hp
    refine ⟨⟨h3, hp⟩, by omega, by omega, vk ?_, rfl⟩
    rw [wr (by have := hg p.toNat; omega)]
    unfold pickI
    rw [if_neg (by omega), if_pos hp]
  · have hk := of_decide_eq_false hk
    have hl : ¬ l = 0 := by simpa using hl
    have hp := of_decide_eq_false hp
    have hl0 : (0 : Int) < l := by omega
    have t1 : 0 ≤ p.tmod l ∧ p.tmod l < l := ⟨Int.tmod_nonneg _ h3, Int.tmod_lt_of_pos _ hl0⟩
    have t2 : 0 ≤ (p * 7 + 3).tmod l ∧ (p * 7 + 3).tmod l < l := ⟨Int.tmod_nonneg _ (by omega), Int.tmod_lt_of_pos _ hl0⟩
    have q : 0 ≤ p.tdiv l ∧ p.tdiv l ≤ p := by
      rw [Int.tdiv_eq_ediv_of_nonneg h3]
      exact ⟨Int.ediv_nonneg h3 (by omega), Int.ediv_le_self _ h3⟩
    have b1 := hg (p.tmod l).toNat
    have b2 := hg ((p * 7 + 3).tmod l).toNat
    have hm := mixI_bd hC0 (by omega)
    refine ⟨by omega, t1, by omega, by omega, t2, by omega, by omega, by omega, by omega, vk ?_, rfl⟩
    unfold pickI
    rw [if_neg (by omega), if_neg (by omega)]
    have em : IntKind.i64.wrap (IntKind.i64.wrap (IntKind.i64.wrap (IntKind.i64.wrap (IntKind.i64.wrap (bs.getD (p.tmod l).toNat 0) * 131) + IntKind.i64.wrap (IntKind.i64.wrap (bs.getD ((p * 7 + 3).tmod l).toNat 0) * 1117)) + IntKind.i64.wrap (p * 29)) + IntKind.i64.wrap (IntKind.i64.wrap (p.tdiv l) * 53)) = mixI bs l p := by
      clear hm
      unfold mixI
      generalize bs.getD (p.tmod l).toNat 0 = x1 at *
      generalize bs.getD ((p * 7 + 3).tmod l).toNat 0 = x2 at *
      generalize p.tdiv l = x3 at *
      simp (disch := omega) only [wr]
    rw [em]
    rfl
/-- The first table: pick. -/
def J1 : List (FuncId × RSpec) := [(74, pickS)]
theorem J1_ok : JOk Try.prog J1 := JOk.nil.cons (entersB_res (by kernel_rfl)).1 pickS_ok
def ER1 : Env := withJ (tabE B0) J1
theorem ER1_ok : EnvOk Try.prog ER1 := withJ_ok mixed (tabE_ok B0_ok) J1_ok
set_option maxRecDepth 100000 in
theorem tr_one (bs : List Int) (l c : Nat) (p : Int) (n : Nat) (xs : List Int) : bodyM Try.prog ER1 (runM Try.prog ER1 30 12) 30 120 [.pointer (some ⟨1, 0, none⟩), .slice (some ⟨2, 0, none⟩) n n] (memR bs l c p (some xs)) .fin = .need (rdC bs l p) (.need ((0 : Int) ≤ pickI bs l p (↑n : Int) ∧ pickI bs l p (↑n : Int) < (↑n : Int)) (.need ((0 : Nat) + (pickI bs l p (↑n : Int)).toNat * (1 : Nat) < xs.length) (.fin (.int .i64 (xs.getD (0 + (pickI bs l p (↑n : Int)).toNat * 1) 0)) [some ⟨.view, .bytes (bs)⟩, some ⟨.box, .vals [.slice (some ⟨0, 0, none⟩) (l) (c), .int .i64 (p + 1)]⟩, some ⟨.view, .ints (xs)⟩]))) := by kernel_rfl
set_option maxRecDepth 100000 in
theorem tr_rpt (bs : List Int) (l c : Nat) (p : Int) : bodyM Try.prog ER1 (runM Try.prog ER1 30 12) 30 121 [.pointer (some ⟨1, 0, none⟩)] (memR bs l c p none) .fin = .need (rdC bs l p) (.need (rdC bs l (p + (1 : Int))) (.fin (.agg #[.int .i64 (IntKind.i64.wrap (pickI bs l p 9 - 2)), .int .i64 (IntKind.i64.wrap (pickI bs l (p + 1) 9 - 2))]) [some ⟨.view, .bytes (bs)⟩, some ⟨.box, .vals [.slice (some ⟨0, 0, none⟩) (l) (c), .int .i64 (p + 1 + 1)]⟩, some ⟨.box, .vals [.int .i64 (IntKind.i64.wrap (pickI bs l p 9 - 2)), .int .i64 (IntKind.i64.wrap (pickI bs l (p + 1) 9 - 2))]⟩])) := by kernel_rfl
end Go.Proofs.Ytpjdnplpiamjcaa
namespace Go.Proofs.Ytpjdnplpiamjcaa
set_option linter.all false
open Go.RowKit
/-- The reader in order, with room for many more. -/
def rdK (bs : List Int) (l : Nat) (p : Int) : Prop := rdC bs l p ∧ p ≤ 900000
theorem rdK.at {bs : List Int} {l : Nat} {p : Int} (h : rdK bs l p) {q : Int} (h0 : p ≤ q) (h1 : q ≤ p + 90000) : rdC bs l q :=
  ⟨h.1.1, h.1.2.1, by have := h.1.2.2.1; omega, by have := h.2; omega, h.1.2.2.2.2⟩
def oneI (bs : List Int) (l : Nat) (p : Int) (n : Nat) (xs : List Int) : Int := xs.getD (pickI bs l p n).toNat 0
def oneS : RSpec := fun bs l p rest ex => match rest, ex with
  | [.slice (some ⟨2, 0, none⟩) n n'], some xs => some (.int .i64 (oneI bs l p n xs), p + 1, [rdC bs l p, 1 ≤ n ∧ n ≤ xs.length ∧ n' = n])
  | _, _ => none
theorem oneS_ok : SpecOk Try.prog 120 oneS := by
  intro bs l c p rest0 ex v p' C h hC
  unfold oneS at h
  split at h
  rotate_left
  · cases h
  rename_i n n' xs
  obtain ⟨rfl, rfl, rfl⟩ : Value.int .i64 (oneI bs l p n xs) = v ∧ p + 1 = p' ∧ [rdC bs l p, 1 ≤ n ∧ n ≤ xs.length ∧ n' = n] = C := by simpa using h
  obtain ⟨h1, ⟨h2, h3, rfl⟩, _⟩ := hC
  refine ⟨ER1, 30, 12, ER1_ok, rfl, ?_⟩
  rw [tr_one]
  have hb := pickI_bd (k := (n' : Int)) h1 (by omega)
  exact ⟨h1, hb, by omega, by simp only [oneI, Nat.zero_add, Nat.mul_one], rfl⟩
def rptS : RSpec := fun bs l p rest ex => match rest, ex with
  | [], none => some (.agg #[.int .i64 (pickI bs l p 9 - 2), .int .i64 (pickI bs l (p + 1) 9 - 2)], p + 2, [rdK bs l p])
  | _, _ => none
theorem box2 {bs : List Int} {l c : Nat} {p q : Int} (h : q = p) (r : List (Option Blk)) : (some ⟨.view, .bytes bs⟩ :: some ⟨.box, .vals [.slice (some ⟨0, 0, none⟩) l c, .int .i64 q]⟩ :: r : List (Option Blk)).getD 1 none = some (rdBox 0 l c p) := by rw [h]; rfl
theorem rptS_ok : SpecOk Try.prog 121 rptS := by
  intro bs l c p rest0 ex v p' C h hC
  unfold rptS at h
  split at h
  rotate_left
  · cases h
  obtain ⟨rfl, rfl, rfl⟩ : Value.agg #[.int .i64 (pickI bs l p 9 - 2), .int .i64 (pickI bs l (p + 1) 9 - 2)] = v ∧ p + 2 = p' ∧ [rdK bs l p] = C := by simpa using h
  have h1 := hC.1
  refine ⟨ER1, 30, 12, ER1_ok, rfl, ?_⟩
  rw [tr_rpt]
  have h2 := h1.at (q := p) (by omega) (by omega)
  have h3 := h1.at (q := p + 1) (by omega) (by omega)
  have b1 := pickI_bd (k := 9) h2 (by omega)
  have b2 := pickI_bd (k := 9) h3 (by omega)
  exact ⟨h2, h3, by rw [wr (by omega), wr (by omega)], box2 (by omega) _⟩
def J2 : List (FuncId × RSpec) := (120, oneS) :: (121, rptS) :: J1
theorem J2_ok : JOk Try.prog J2 := (J1_ok.cons (entersB_res (by kernel_rfl)).1 rptS_ok).cons (entersB_res (by kernel_rfl)).1 oneS_ok
def ER2 : Env := withJ (tabE B0) J2
theorem ER2_ok : EnvOk Try.prog ER2 := withJ_ok mixed (tabE_ok B0_ok) J2_ok
set_option maxRecDepth 100000 in
theorem tr_apt (bs : List Int) (l c : Nat) (p : Int) : bodyM Try.prog ER2 (runM Try.prog ER2 30 12) 30 138 [.pointer (some ⟨1, 0, none⟩)] (memR bs l c p none) .fin = .need (rdK bs l p) (.need (rdC bs l (p + (2 : Int))) (brT (pickI bs l (p + 2) 16 == 0) (.need (rdC bs l (p + (2 : Int) + (1 : Int))) (.need ((1 : Nat) ≤ (4 : Nat) ∧ (4 : Nat) ≤ (4 : Nat) ∧ (4 : Nat) = (4 : Nat)) (.fin (.agg #[.int .i64 (oneI bs l (p + 2 + 1) 4 [1001, -1001, 1000, -1000]), .int .i64 (pickI bs l (p + 1) 9 - 2)]) [some ⟨.view, .bytes (bs)⟩, some ⟨.box, .vals [.slice (some ⟨0, 0, none⟩) (l) (c), .int .i64 (p + 2 + 1 + 1)]⟩, some ⟨.box, .vals [.int .i64 (oneI bs l (p + 2 + 1) 4 [1001, -1001, 1000, -1000]), .int .i64 (pickI bs l (p + 1) 9 - 2)]⟩, some ⟨.box, .vals [.int .i64 (oneI bs l (p + 2 + 1) 4 [1001, -1001, 1000, -1000]), .int .i64 (pickI bs l (p + 1) 9 - 2)]⟩, some ⟨.row 3 1, .vals [.int .i64 (1001), .int .i64 (-1001), .int .i64 (1000), .int .i64 (-1000)]⟩]))) (brT (pickI bs l (p + 2) 16 == 1) (.need (rdC bs l (p + (2 : Int) + (1 : Int))) (.need ((1 : Nat) ≤ (4 : Nat) ∧ (4 : Nat) ≤ (4 : Nat) ∧ (4 : Nat) = (4 : Nat)) (.fin (.agg #[.int .i64 (pickI bs l p 9 - 2), .int .i64 (oneI bs l (p + 2 + 1) 4 [1001, -1001, 1000, -1000])]) [some ⟨.view, .bytes (bs)⟩, some ⟨.box, .vals [.slice (some ⟨0, 0, none⟩) (l) (c), .int .i64 (p + 2 + 1 + 1)]⟩, some ⟨.box, .vals [.int .i64 (pickI bs l p 9 - 2), .int .i64 (oneI bs l (p + 2 + 1) 4 [1001, -1001, 1000, -1000])]⟩, some ⟨.box, .vals [.int .i64 (pickI bs l p 9 - 2), .int .i64 (oneI bs l (p + 2 + 1) 4 [1001, -1001, 1000, -1000])]⟩, some ⟨.row 3 1, .vals [.int .i64 (1001), .int .i64 (-1001), .int .i64 (1000), .int .i64 (-1000)]⟩]))) (.fin (.agg #[.int .i64 (pickI bs l p 9 - 2), .int .i64 (pickI bs l (p + 1) 9 - 2)]) [some ⟨.view, .bytes (bs)⟩, some ⟨.box, .vals [.slice (some ⟨0, 0, none⟩) (l) (c), .int .i64 (p + 2 + 1)]⟩, some ⟨.box, .vals [.int .i64 (pickI bs l p 9 - 2), .int .i64 (pickI bs l (p + 1) 9 - 2)]⟩, some ⟨.box, .vals [.int .i64 (pickI bs l p 9 - 2), .int .i64 (pickI bs l (p + 1) 9 - 2)]⟩])))) := by kernel_rfl
def farI : List Int := [1001, -1001, 1000, -1000]
def apQ (bs : List Int) (l : Nat) (p : Int) : Int := pickI bs l (p + 2) 16
def apX (bs : List Int) (l : Nat) (p : Int) : Int := if apQ bs l p = 0 then oneI bs l (p + 3) 4 farI else pickI bs l p 9 - 2
def apY (bs : List Int) (l : Nat) (p : Int) : Int := if apQ bs l p = 1 then oneI bs l (p + 3) 4 farI else pickI bs l (p + 1) 9 - 2
def apP (bs : List Int) (l : Nat) (p : Int) : Int := if apQ bs l p = 0 ∨ apQ bs l p = 1 then p + 4 else p + 3
theorem apP_bd (bs : List Int) (l : Nat) (p : Int) : p + 3 ≤ apP bs l p ∧ apP bs l p ≤ p + 4 := by unfold apP; split <;> omega
def aptS : RSpec := fun bs l p rest ex => match rest, ex with
  | [], none => some (.agg #[.int .i64 (apX bs l p), .int .i64 (apY bs l p)], apP bs l p, [rdK bs l p])
  | _, _ => none
theorem veq2 {a a' b b' : Int} (h : a = a') (k : b = b') : Value.agg #[.int .i64 a, .int .i64 b] = .agg #[.int .i64 a', .int .i64 b'] := by rw [h, k]
theorem aptS_ok : SpecOk Try.prog 138 aptS := by
  intro bs l c p rest0 ex v p' C h hC
  unfold aptS at h
  split at h
  rotate_left
  · cases h
  obtain ⟨rfl, rfl, rfl⟩ : Value.agg #[.int .i64 (apX bs l p), .int .i64 (apY bs l p)] = v ∧ apP bs l p = p' ∧ [rdK bs l p] = C := by simpa using h
  have h1 := hC.1
  refine ⟨ER2, 30, 12, ER2_ok, rfl, ?_⟩
  rw [tr_apt]
  have e3 : p + 2 + 1 = p + 3 := by omega
  have e4 : p + 3 + 1 = p + 4 := by omega
  simp only [e3, e4]
  refine ⟨h1, h1.at (by omega) (by omega), brT_ok.2 ⟨fun hq => ?_, fun hq => brT_ok.2 ⟨fun hq' => ?_, fun hq' => ?_⟩⟩⟩
  · have hq : apQ bs l p = 0 := by simpa [apQ] using hq
    exact ⟨h1.at (by omega) (by omega), by decide, veq2 (by unfold apX; rw [if_pos hq]; rfl) (by unfold apY; rw [if_neg (by omega)]), box2 (by unfold apP; rw [if_pos (.inl hq)]) _⟩
  · have hq : ¬ apQ bs l p = 0 := by simpa [apQ] using hq
    have hq' : apQ bs l p = 1 := by simpa [apQ] using hq'
    exact ⟨h1.at (by omega) (by omega), by decide, veq2 (by unfold apX; rw [if_neg hq]) (by unfold apY; rw [if_pos hq']; rfl), box2 (by unfold apP; rw [if_pos (.inr hq')]) _⟩
  · have hq : ¬ apQ bs l p = 0 := by simpa [apQ] using hq
    have hq' : ¬ apQ bs l p = 1 := by simpa [apQ] using hq'
    exact ⟨veq2 (by unfold apX; rw [if_neg hq]) (by unfold apY; rw [if_neg hq']), box2 (by unfold apP; rw [if_neg (by omega)]) _⟩
def J3 : List (FuncId × RSpec) := (138, aptS) :: J2
theorem J3_ok : JOk Try.prog J3 := J2_ok.cons (entersB_res (by kernel_rfl)).1 aptS_ok
end Go.Proofs.Ytpjdnplpiamjcaa
namespace Go.Proofs.Ytpjdnplpiamjcaa
set_option linter.all false
open Go.RowKit
/-- How many bytes are read. -/
def rdL (n : Nat) : Nat := min n 2000
theorem rdL_of {n : Nat} (h : 2000 < (n : Int)) : rdL n = 2000 := by unfold rdL; omega
theorem rdL_no {n : Nat} (h : ¬ 2000 < (n : Int)) : rdL n = n := by unfold rdL; omega
theorem rdK0 {bs : List Int} {n : Nat} (h : Bytes bs) (hn : n ≤ bs.length) {l : Nat} (hl : l ≤ n) (h2 : l ≤ 2000) {p : Int} (h3 : 0 ≤ p) (h4 : p ≤ 900000) : rdK bs l p :=
  ⟨⟨by omega, h2, h3, by omega, h⟩, h4⟩
theorem bnd2000 {n : Nat} (h : 2000 < (n : Int)) : (0 : Int) ≤ bndI none (0 : Int) ∧ bndI none (0 : Int) ≤ bndI (some (IntKind.i64, (2000 : Int))) (↑n : Int) ∧ bndI (some (IntKind.i64, (2000 : Int))) (↑n : Int) ≤ (↑n : Int) := by
  refine ⟨Int.le_refl _, ?_, ?_⟩
  · show (0 : Int) ≤ 2000; omega
  · show (2000 : Int) ≤ n; omega
/-- The coordinates of the three points. -/
def d3 (bs : List Int) (n : Nat) : Nat → Int
  | 0 => apX bs (rdL n) 0
  | 1 => apY bs (rdL n) 0
  | 2 => apX bs (rdL n) (apP bs (rdL n) 0)
  | 3 => apY bs (rdL n) (apP bs (rdL n) 0)
  | 4 => apX bs (rdL n) (apP bs (rdL n) (apP bs (rdL n) 0))
  | _ => apY bs (rdL n) (apP bs (rdL n) (apP bs (rdL n) 0))
end Go.Proofs.Ytpjdnplpiamjcaa
