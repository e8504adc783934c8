/-
  Texts that the proof needs, merged. Written by an AI agent.
-/
import Derived.Orders
import Derived.Below
import Derived.OrdersIn
import Derived.Deep.LoopGhost
import Derived.WalkKit
import Derived.Laws.CopyRow
import Derived.Laws.AppendOwn
import Derived.Laws.Slices
import Derived.Laws.MakeOwn
import Derived.Test.YtpjdnplpiamjcaaRows
import Derived.ProofKit
import Derived.OpenShut
import Derived.Carry
import Derived.IntWalk
import Derived.Test.YtpjdnplpiamjcaaProg
import Derived.WalkSpells
import Derived.WalkLawsBesides
import Derived.Lib.Hide
import Derived.Deep.QuietTactic
import Derived.BigQuiet
import Derived.KernelRfl
import Derived.Deep.RegionHeld3
import Derived.LoopTactic
import Derived.Laws.StructEq
import Derived.Laws.Tables
import Derived.RangeFuncNested
import Derived.RangeFuncLeaves
import Derived.Deep.Slices
import Derived.Deep.Fields
import Derived.ChangeSame
import Derived.Deep.DeepCutAuto
import Derived.Test.YtpjdnplpiamjcaaZExactLatticeInside6
namespace Go.Proofs.Ytpjdnplpiamjcaa
set_option linter.all false
open Go.RowKit
noncomputable def c_lsi : Code := ((loopsOf (codeOf Try.f42))[2]?).getD .skip
def k_lsi : Ex → List Nat := keeps [0, 3, 4, 5, 7, 8] [(4, [0, 3, 4, 5, 7])] []
def s_lsi (ps : List Pt) (a b c d x : Int) : Int × (List Pt) → St := fun (y, o) => ⟨(.slice (some ⟨0, 0, none⟩) ps.length ps.length :: topV :: topV :: .slice (some ⟨5, 0, none⟩) o.length o.length :: .pointer (some ⟨2, 0, none⟩) :: .pointer (some ⟨3, 0, none⟩) :: topV :: .int .i64 x :: .int .i64 y :: topV :: topV :: topV :: topV :: topV :: topV :: topV :: topV :: topV :: topV :: topV :: topV :: topV :: topV :: topV :: topV :: topV :: topV :: topV :: topV :: topV :: topV :: topV :: topV :: topV :: topV :: topV :: topV :: topV :: topV :: topV :: topV :: topV :: topV :: topV :: topV :: topV :: topV :: topV :: topV :: topV :: topV :: topV :: topV :: topV :: topV :: topV :: topV :: topV :: topV :: topV :: topV :: topV :: topV :: topV :: topV :: topV :: topV :: topV :: topV :: topV :: topV :: topV :: topV :: topV :: topV :: topV :: topV :: topV :: topV :: topV :: topV :: topV :: topV :: topV :: topV :: topV :: topV :: topV :: topV :: topV :: topV :: topV :: topV :: topV :: topV :: topV :: topV :: topV :: topV :: topV :: topV :: topV :: []), [some ⟨.view, .ints (flat ps)⟩, some ⟨.dead, .vals []⟩, some ⟨.box, .vals [.int .i64 a, .int .i64 b]⟩, some ⟨.box, .vals [.int .i64 c, .int .i64 d]⟩, some ⟨.dead, .vals []⟩, some ⟨.row 37 2, .ints (flat o)⟩]⟩
def re_lsi : Int × (List Pt) → Ex := fun _ => .exit 4
def rs_lsi (ps : List Pt) (a b c d x : Int) : Int × (List Pt) → St := fun (y, o) => ⟨(.slice (some ⟨0, 0, none⟩) ps.length ps.length :: topV :: topV :: .slice (some ⟨5, 0, none⟩) (o ++ lcL ps x (d + 1 - y).toNat y).length (o ++ lcL ps x (d + 1 - y).toNat y).length :: .pointer (some ⟨2, 0, none⟩) :: .pointer (some ⟨3, 0, none⟩) :: topV :: .int .i64 x :: topV :: topV :: topV :: topV :: topV :: topV :: topV :: topV :: topV :: topV :: topV :: topV :: topV :: topV :: topV :: topV :: topV :: topV :: topV :: topV :: topV :: topV :: topV :: topV :: topV :: topV :: topV :: topV :: topV :: topV :: topV :: topV :: topV :: topV :: topV :: topV :: topV :: topV :: topV :: topV :: topV :: topV :: topV :: topV :: topV :: topV :: topV :: topV :: topV :: topV :: topV :: topV :: topV :: topV :: topV :: topV :: topV :: topV :: topV :: topV :: topV :: topV :: topV :: topV :: topV :: topV :: topV :: topV :: topV :: topV :: topV :: topV :: topV :: topV :: topV :: topV :: topV :: topV :: topV :: topV :: topV :: topV :: topV :: topV :: topV :: topV :: topV :: topV :: topV :: topV :: topV :: topV :: topV :: topV :: []), [some ⟨.view, .ints (flat ps)⟩, some ⟨.dead, .vals []⟩, some ⟨.box, .vals [.int .i64 a, .int .i64 b]⟩, some ⟨.box, .vals [.int .i64 c, .int .i64 d]⟩, some ⟨.dead, .vals []⟩, some ⟨.row 37 2, .ints (flat (o ++ lcL ps x (d + 1 - y).toNat y))⟩]⟩
set_option maxRecDepth 100000 in
theorem tr_lsi (ps : List Pt) (a b c d x : Int) (y : Int) (o : List Pt) : bodyL Try.prog ELc 30 12 noL 3 c_lsi k_lsi 24 (s_lsi ps a b c d x (y, o)) = brT (decide (y ≤ d)) (.need (ps.length * (2 : Nat) ≤ (List.drop (0 : Nat) (flat ps)).length) (.need (allV (ptsA ps.length (List.drop (0 : Nat) (flat ps))) = true) (.need (ps.length ≤ (20 : Nat)) (.need (ptB x y = true) (brT (locA (ptsA ps.length (List.drop 0 (flat ps))) x y == 1) (.need ((o.length + (1 : Nat)) * (16 : Nat) ≤ (140737488355328 : Nat) ∧ o.length + (1 : Nat) ≤ (1000000 : Nat)) (.need ((0 : Nat) + o.length * (2 : Nat) ≤ (flat o).length) (.leaf .normal ⟨(.slice (some ⟨0, 0, none⟩) (ps.length) (ps.length) :: topV :: topV :: .slice (some ⟨7, 0, none⟩) (o.length + 1) (o.length + 1) :: .pointer (some ⟨2, 0, none⟩) :: .pointer (some ⟨3, 0, none⟩) :: topV :: .int .i64 (x) :: .int .i64 (IntKind.i64.wrap (y + 1)) :: topV :: topV :: topV :: topV :: topV :: topV :: topV :: topV :: topV :: topV :: topV :: topV :: topV :: topV :: topV :: topV :: topV :: topV :: topV :: topV :: topV :: topV :: topV :: topV :: topV :: topV :: topV :: topV :: topV :: topV :: topV :: topV :: topV :: topV :: topV :: topV :: topV :: topV :: topV :: topV :: topV :: topV :: topV :: topV :: topV :: topV :: topV :: topV :: topV :: topV :: topV :: topV :: topV :: topV :: topV :: topV :: topV :: topV :: topV :: topV :: topV :: topV :: topV :: topV :: topV :: topV :: topV :: topV :: topV :: topV :: topV :: topV :: topV :: topV :: topV :: topV :: topV :: topV :: topV :: topV :: topV :: topV :: topV :: topV :: topV :: topV :: topV :: topV :: topV :: topV :: topV :: topV :: topV :: []), [some ⟨.view, .ints (flat ps)⟩, some deadB, some ⟨.box, .vals [.int .i64 (a), .int .i64 (b)]⟩, some ⟨.box, .vals [.int .i64 (c), .int .i64 (d)]⟩, some deadB, some deadB, some ⟨.row 37 2, .vals [.int .i64 (x), .int .i64 (y)]⟩, some ⟨.row 37 2, .ints (List.take (o.length * 2) (List.drop 0 (flat o)) ++ [x, y])⟩]⟩))) (.leaf .normal ⟨(.slice (some ⟨0, 0, none⟩) (ps.length) (ps.length) :: topV :: topV :: .slice (some ⟨5, 0, none⟩) (o.length) (o.length) :: .pointer (some ⟨2, 0, none⟩) :: .pointer (some ⟨3, 0, none⟩) :: topV :: .int .i64 (x) :: .int .i64 (IntKind.i64.wrap (y + 1)) :: topV :: topV :: topV :: topV :: topV :: topV :: topV :: topV :: topV :: topV :: topV :: topV :: topV :: topV :: topV :: topV :: topV :: topV :: topV :: topV :: topV :: topV :: topV :: topV :: topV :: topV :: topV :: topV :: topV :: topV :: topV :: topV :: topV :: topV :: topV :: topV :: topV :: topV :: topV :: topV :: topV :: topV :: topV :: topV :: topV :: topV :: topV :: topV :: topV :: topV :: topV :: topV :: topV :: topV :: topV :: topV :: topV :: topV :: topV :: topV :: topV :: topV :: topV :: topV :: topV :: topV :: topV :: topV :: topV :: topV :: topV :: topV :: topV :: topV :: topV :: topV :: topV :: topV :: topV :: topV :: topV :: topV :: topV :: topV :: topV :: topV :: topV :: topV :: topV :: topV :: topV :: topV :: topV :: []), [some ⟨.view, .ints (flat ps)⟩, some deadB, some ⟨.box, .vals [.int .i64 (a), .int .i64 (b)]⟩, some ⟨.box, .vals [.int .i64 (c), .int .i64 (d)]⟩, some deadB, some ⟨.row 37 2, .ints (flat o)⟩]⟩)))))) (.leaf (.exit 4) ⟨(.slice (some ⟨0, 0, none⟩) (ps.length) (ps.length) :: topV :: topV :: .slice (some ⟨5, 0, none⟩) (o.length) (o.length) :: .pointer (some ⟨2, 0, none⟩) :: .pointer (some ⟨3, 0, none⟩) :: topV :: .int .i64 (x) :: topV :: topV :: topV :: topV :: topV :: topV :: topV :: topV :: topV :: topV :: topV :: topV :: topV :: topV :: topV :: topV :: topV :: topV :: topV :: topV :: topV :: topV :: topV :: topV :: topV :: topV :: topV :: topV :: topV :: topV :: topV :: topV :: topV :: topV :: topV :: topV :: topV :: topV :: topV :: topV :: topV :: topV :: topV :: topV :: topV :: topV :: topV :: topV :: topV :: topV :: topV :: topV :: topV :: topV :: topV :: topV :: topV :: topV :: topV :: topV :: topV :: topV :: topV :: topV :: topV :: topV :: topV :: topV :: topV :: topV :: topV :: topV :: topV :: topV :: topV :: topV :: topV :: topV :: topV :: topV :: topV :: topV :: topV :: topV :: topV :: topV :: topV :: topV :: topV :: topV :: topV :: topV :: topV :: topV :: []), [some ⟨.view, .ints (flat ps)⟩, some deadB, some ⟨.box, .vals [.int .i64 (a), .int .i64 (b)]⟩, some ⟨.box, .vals [.int .i64 (c), .int .i64 (d)]⟩, some deadB, some ⟨.row 37 2, .ints (flat o)⟩]⟩) := by kernel_rfl
set_option maxRecDepth 100000 in
theorem nl_lsi : loopsOf c_lsi = [] := by kernel_rfl
def inv_lsi (ps : List Pt) (a b c d x : Int) : Int × (List Pt) → Prop := fun (y, o) => -1000 ≤ y ∧ (o.length : Int) + (d + 1 - y).toNat ≤ 900000
def me_lsi (ps : List Pt) (a b c d x : Int) : Int × (List Pt) → Nat := fun (y, o) => (d + 1 - y).toNat
/-- A round of this loop. -/
def Round_lsi (ps : List Pt) (a b c d x : Int) : Prop := ∀ xx : Int × (List Pt), inv_lsi ps a b c d x xx → (bodyL Try.prog ELc 30 12 noL 3 c_lsi k_lsi 24 (s_lsi ps a b c d x xx)).ok (RoundEnd 5 (s_lsi ps a b c d x) (inv_lsi ps a b c d x) (me_lsi ps a b c d x) re_lsi (rs_lsi ps a b c d x) xx) (fun _ _ => False)
def e_lsi (s : St) (k : Ex → St → Tree) : Option Tree := match Nat.beq s.tmps.length 102, pickL s.tmps [0, 3, 4, 5, 7, 8], s.mem with
  | true, [.slice (some ⟨0, 0, none⟩) n _, .slice (some ⟨4, 0, none⟩) z _, .pointer (some ⟨2, 0, none⟩), .pointer (some ⟨3, 0, none⟩), .int .i64 x, .int .i64 y], [some ⟨.view, .ints xs⟩, some ⟨.dead, .vals []⟩, some ⟨.box, .vals [.int .i64 a, .int .i64 b]⟩, some ⟨.box, .vals [.int .i64 c, .int .i64 d]⟩, some ⟨.row 37 2, .ints ys⟩] => some (needs [xs.length = n * 2, n ≤ 20, allV (ptsA n xs) = true, -1000 ≤ x ∧ x ≤ 1000, -1000 ≤ y ∧ d ≤ 1000, ys.length = z * 2, z ≤ 800000] (k (.exit 4) ⟨(.slice (some ⟨0, 0, none⟩) n n :: topV :: topV :: .slice (some ⟨5, 0, none⟩) (ptsA z ys ++ lcL (ptsA n xs) x (d + 1 - y).toNat y).length (ptsA z ys ++ lcL (ptsA n xs) x (d + 1 - y).toNat y).length :: .pointer (some ⟨2, 0, none⟩) :: .pointer (some ⟨3, 0, none⟩) :: topV :: .int .i64 x :: topV :: topV :: topV :: topV :: topV :: topV :: topV :: topV :: topV :: topV :: topV :: topV :: topV :: topV :: topV :: topV :: topV :: topV :: topV :: topV :: topV :: topV :: topV :: topV :: topV :: topV :: topV :: topV :: topV :: topV :: topV :: topV :: topV :: topV :: topV :: topV :: topV :: topV :: topV :: topV :: topV :: topV :: topV :: topV :: topV :: topV :: topV :: topV :: topV :: topV :: topV :: topV :: topV :: topV :: topV :: topV :: topV :: topV :: topV :: topV :: topV :: topV :: topV :: topV :: topV :: topV :: topV :: topV :: topV :: topV :: topV :: topV :: topV :: topV :: topV :: topV :: topV :: topV :: topV :: topV :: topV :: topV :: topV :: topV :: topV :: topV :: topV :: topV :: topV :: topV :: topV :: topV :: topV :: topV :: []), [some ⟨.view, .ints xs⟩, some ⟨.dead, .vals []⟩, some ⟨.box, .vals [.int .i64 a, .int .i64 b]⟩, some ⟨.box, .vals [.int .i64 c, .int .i64 d]⟩, some ⟨.dead, .vals []⟩, some ⟨.row 37 2, .ints (flat (ptsA z ys ++ lcL (ptsA n xs) x (d + 1 - y).toNat y))⟩]⟩))
  | _, _, _ => none
set_option maxRecDepth 100000 in
theorem round_lsi (ps : List Pt) (a b c d x : Int) (h : ps.length ≤ 20) (hv : allV ps = true) (hx : -1000 ≤ x ∧ x ≤ 1000) (hd : d ≤ 1000) : Round_lsi ps a b c d x := by
  rintro ⟨y, o⟩ ⟨h1, h2⟩
  rw [tr_lsi]
  simp only [Int.toNat_natCast, Nat.zero_add, Nat.add_zero, flat_length, flatC, ptsA_flat]
  refine brT_ok.2 ⟨fun hlt => ?_, fun hge => ?_⟩
  · have hlt : y ≤ d := by simpa using hlt
    have w : IntKind.i64.wrap (y + 1) = y + 1 := wr (by omega)
    have st := lcL_step (ps := ps) (x := x) (y := y) (d := d + 1) (by omega)
    have hp : ptB x y = true := decide_eq_true (by omega)
    rw [w]
    simp only [List.drop_zero, ptsA_flat, flat_length, Tree.ok]
    refine ⟨Nat.le_refl _, hv, h, hp, brT_ok.2 ⟨fun g => ?_, fun g => ?_⟩⟩
    · rw [g, cond_true] at st
      rw [flat_snoc]
      refine ⟨⟨by omega, by omega⟩, Nat.le_refl _, (y + 1, o ++ [(x, y)]), [some 7], ⟨by omega, by simp; omega⟩, ?_, rfl, ?_, ?_⟩
      · show (d + 1 - (y + 1)).toNat < (d + 1 - y).toNat; omega
      · simp only [rs_lsi, st, List.append_assoc]
      · repeat' (first | exact True.intro | exact rfl | exact fun _ => rfl | (simp; done) | refine And.intro ?_ ?_)
    · rw [g, cond_false, List.nil_append] at st
      refine ⟨(y + 1, o), [some 5], ⟨by omega, by omega⟩, ?_, rfl, ?_, ?_⟩
      · show (d + 1 - (y + 1)).toNat < (d + 1 - y).toNat; omega
      · simp only [rs_lsi, st]
      · repeat' (first | exact True.intro | exact rfl | exact fun _ => rfl | (simp; done) | refine And.intro ?_ ?_)
  · have hge : d < y := by simpa using hge
    refine ⟨rfl, [some 5], ?_⟩
    simp only [rs_lsi, lcL_end (ps := ps) (x := x) (y := y) (d := d + 1) (by omega), List.append_nil]
    repeat' (first | exact True.intro | exact rfl | exact fun _ => rfl | (simp; done) | refine And.intro ?_ ?_)
set_option maxRecDepth 100000 in
theorem lg_lsi : LoopE Try.prog e_lsi c_lsi := by
  intro s k t F H hlt ht
  unfold e_lsi at hlt
  split at hlt
  rotate_left
  · cases hlt
  rename_i hlen hpick hmem
  obtain ⟨tmps, mem⟩ := s
  simp only at hlen hpick hmem
  subst hmem
  obtain rfl := Option.some.inj hlt
  obtain ⟨⟨h1, h2, h3, h4, h5, g1, g2, _⟩, ht2⟩ := needs_ok ht
  clear ht hlt
  obtain ⟨ps, rfl, rfl⟩ := even_flat h1
  obtain ⟨o, rfl, rfl⟩ := even_flat g1
  rw [ptsA_flat, ptsA_flat] at ht2
  rw [ptsA_flat] at h3
  refine ⟨_, _, ht2, loop_run2 mixed ELc_ok (s_lsi ps _ _ _ _ _) (inv_lsi ps _ _ _ _ _) (me_lsi ps _ _ _ _ _) re_lsi (rs_lsi ps _ _ _ _ _) k_lsi (fun _ => rfl) (noLoops nl_lsi) (round_lsi ps _ _ _ _ _ h2 h3 h4 h5.2) (x := (_, o)) ⟨h5.1, by omega⟩ (π := [some 4]) rfl ?_⟩
  refine ⟨rfl, rfl, ?_, wvs_spread' [0, 3, 4, 5, 7, 8] hlen rfl ?_⟩
  · repeat' (first | exact True.intro | exact rfl | exact wv_top _ _ | exact fun _ => rfl | assumption | exact Eq.symm (by assumption) | exact vI0 rfl | refine And.intro ?_ ?_)
  · rw [hpick]
    repeat' (first | exact True.intro | exact rfl | exact wv_top _ _ | exact fun _ => rfl | assumption | exact Eq.symm (by assumption) | exact vI0 rfl | refine And.intro ?_ ?_)
def ltLs : LT := fun j s k => match j with
  | 2 => e_lsi s k
  | _ => none
noncomputable def c_lso : Code := ((loopsOf (codeOf Try.f42))[1]?).getD .skip
def k_lso : Ex → List Nat := keeps [0, 3, 4, 5, 7] [(2, [3])] []
def s_lso (ps : List Pt) (a b c d : Int) : Int × (List Pt) → St := fun (x, o) => ⟨(.slice (some ⟨0, 0, none⟩) ps.length ps.length :: topV :: topV :: .slice (some ⟨4, 0, none⟩) o.length o.length :: .pointer (some ⟨2, 0, none⟩) :: .pointer (some ⟨3, 0, none⟩) :: topV :: .int .i64 x :: topV :: topV :: topV :: topV :: topV :: topV :: topV :: topV :: topV :: topV :: topV :: topV :: topV :: topV :: topV :: topV :: topV :: topV :: topV :: topV :: topV :: topV :: topV :: topV :: topV :: topV :: topV :: topV :: topV :: topV :: topV :: topV :: topV :: topV :: topV :: topV :: topV :: topV :: topV :: topV :: topV :: topV :: topV :: topV :: topV :: topV :: topV :: topV :: topV :: topV :: topV :: topV :: topV :: topV :: topV :: topV :: topV :: topV :: topV :: topV :: topV :: topV :: topV :: topV :: topV :: topV :: topV :: topV :: topV :: topV :: topV :: topV :: topV :: topV :: topV :: topV :: topV :: topV :: topV :: topV :: topV :: topV :: topV :: topV :: topV :: topV :: topV :: topV :: topV :: topV :: topV :: topV :: topV :: topV :: []), [some ⟨.view, .ints (flat ps)⟩, some ⟨.dead, .vals []⟩, some ⟨.box, .vals [.int .i64 a, .int .i64 b]⟩, some ⟨.box, .vals [.int .i64 c, .int .i64 d]⟩, some ⟨.row 37 2, .ints (flat o)⟩]⟩
def re_lso : Int × (List Pt) → Ex := fun _ => .exit 2
def rs_lso (ps : List Pt) (a b c d : Int) : Int × (List Pt) → St := fun (x, o) => ⟨(topV :: topV :: topV :: .slice (some ⟨4, 0, none⟩) (o ++ lrL ps b (d + 1) (c + 1 - x).toNat x).length (o ++ lrL ps b (d + 1) (c + 1 - x).toNat x).length :: topV :: topV :: topV :: topV :: topV :: topV :: topV :: topV :: topV :: topV :: topV :: topV :: topV :: topV :: topV :: topV :: topV :: topV :: topV :: topV :: topV :: topV :: topV :: topV :: topV :: topV :: topV :: topV :: topV :: topV :: topV :: topV :: topV :: topV :: topV :: topV :: topV :: topV :: topV :: topV :: topV :: topV :: topV :: topV :: topV :: topV :: topV :: topV :: topV :: topV :: topV :: topV :: topV :: topV :: topV :: topV :: topV :: topV :: topV :: topV :: topV :: topV :: topV :: topV :: topV :: topV :: topV :: topV :: topV :: topV :: topV :: topV :: topV :: topV :: topV :: topV :: topV :: topV :: topV :: topV :: topV :: topV :: topV :: topV :: topV :: topV :: topV :: topV :: topV :: topV :: topV :: topV :: topV :: topV :: topV :: topV :: topV :: topV :: []), [some ⟨.view, .ints (flat ps)⟩, some ⟨.dead, .vals []⟩, some ⟨.box, .vals [.int .i64 a, .int .i64 b]⟩, some ⟨.box, .vals [.int .i64 c, .int .i64 d]⟩, some ⟨.row 37 2, .ints (flat (o ++ lrL ps b (d + 1) (c + 1 - x).toNat x))⟩]⟩
set_option maxRecDepth 100000 in
theorem tr_lso (ps : List Pt) (a b c d : Int) (x : Int) (o : List Pt) : bodyL Try.prog ELc 30 12 ltLs 2 c_lso k_lso 24 (s_lso ps a b c d (x, o)) = brT (decide (x ≤ c)) (.need ((flat ps).length = ps.length * (2 : Nat)) (.need (ps.length ≤ (20 : Nat)) (.need (allV (ptsA ps.length (flat ps)) = true) (.need ((-1000 : Int) ≤ x ∧ x ≤ (1000 : Int)) (.need ((-1000 : Int) ≤ b ∧ d ≤ (1000 : Int)) (.need ((flat o).length = o.length * (2 : Nat)) (.need (o.length ≤ (800000 : Nat)) (.leaf .normal ⟨(.slice (some ⟨0, 0, none⟩) (ps.length) (ps.length) :: topV :: topV :: .slice (some ⟨5, 0, none⟩) ((ptsA o.length (flat o) ++ lcL (ptsA ps.length (flat ps)) x (d + 1 - b).toNat b).length) ((ptsA o.length (flat o) ++ lcL (ptsA ps.length (flat ps)) x (d + 1 - b).toNat b).length) :: .pointer (some ⟨2, 0, none⟩) :: .pointer (some ⟨3, 0, none⟩) :: topV :: .int .i64 (IntKind.i64.wrap (x + 1)) :: topV :: topV :: topV :: topV :: topV :: topV :: topV :: topV :: topV :: topV :: topV :: topV :: topV :: topV :: topV :: topV :: topV :: topV :: topV :: topV :: topV :: topV :: topV :: topV :: topV :: topV :: topV :: topV :: topV :: topV :: topV :: topV :: topV :: topV :: topV :: topV :: topV :: topV :: topV :: topV :: topV :: topV :: topV :: topV :: topV :: topV :: topV :: topV :: topV :: topV :: topV :: topV :: topV :: topV :: topV :: topV :: topV :: topV :: topV :: topV :: topV :: topV :: topV :: topV :: topV :: topV :: topV :: topV :: topV :: topV :: topV :: topV :: topV :: topV :: topV :: topV :: topV :: topV :: topV :: topV :: topV :: topV :: topV :: topV :: topV :: topV :: topV :: topV :: topV :: topV :: topV :: topV :: topV :: topV :: []), [some ⟨.view, .ints (flat ps)⟩, some deadB, some ⟨.box, .vals [.int .i64 (a), .int .i64 (b)]⟩, some ⟨.box, .vals [.int .i64 (c), .int .i64 (d)]⟩, some deadB, some ⟨.row 37 2, .ints (flat (ptsA o.length (flat o) ++ lcL (ptsA ps.length (flat ps)) x (d + 1 - b).toNat b))⟩]⟩)))))))) (.leaf (.exit 2) ⟨(topV :: topV :: topV :: .slice (some ⟨4, 0, none⟩) (o.length) (o.length) :: topV :: topV :: topV :: topV :: topV :: topV :: topV :: topV :: topV :: topV :: topV :: topV :: topV :: topV :: topV :: topV :: topV :: topV :: topV :: topV :: topV :: topV :: topV :: topV :: topV :: topV :: topV :: topV :: topV :: topV :: topV :: topV :: topV :: topV :: topV :: topV :: topV :: topV :: topV :: topV :: topV :: topV :: topV :: topV :: topV :: topV :: topV :: topV :: topV :: topV :: topV :: topV :: topV :: topV :: topV :: topV :: topV :: topV :: topV :: topV :: topV :: topV :: topV :: topV :: topV :: topV :: topV :: topV :: topV :: topV :: topV :: topV :: topV :: topV :: topV :: topV :: topV :: topV :: topV :: topV :: topV :: topV :: topV :: topV :: topV :: topV :: topV :: topV :: topV :: topV :: topV :: topV :: topV :: topV :: topV :: topV :: topV :: topV :: []), [some ⟨.view, .ints (flat ps)⟩, some deadB, some ⟨.box, .vals [.int .i64 (a), .int .i64 (b)]⟩, some ⟨.box, .vals [.int .i64 (c), .int .i64 (d)]⟩, some ⟨.row 37 2, .ints (flat o)⟩]⟩) := by kernel_rfl
def inv_lso (ps : List Pt) (a b c d : Int) : Int × (List Pt) → Prop := fun (x, o) => -1000 ≤ x ∧ o.length + (c + 1 - x).toNat * (d + 1 - b).toNat ≤ 1000
def me_lso (ps : List Pt) (a b c d : Int) : Int × (List Pt) → Nat := fun (x, o) => (c + 1 - x).toNat
/-- A round of this loop. -/
def Round_lso (ps : List Pt) (a b c d : Int) : Prop := ∀ xx : Int × (List Pt), inv_lso ps a b c d xx → (bodyL Try.prog ELc 30 12 ltLs 2 c_lso k_lso 24 (s_lso ps a b c d xx)).ok (RoundEnd 4 (s_lso ps a b c d) (inv_lso ps a b c d) (me_lso ps a b c d) re_lso (rs_lso ps a b c d) xx) (fun _ _ => False)
def e_lso (s : St) (k : Ex → St → Tree) : Option Tree := match Nat.beq s.tmps.length 102, pickL s.tmps [0, 3, 4, 5, 7], s.mem with
  | true, [.slice (some ⟨0, 0, none⟩) n _, .slice (some ⟨1, 0, none⟩) z _, .pointer (some ⟨2, 0, none⟩), .pointer (some ⟨3, 0, none⟩), .int .i64 x], [some ⟨.view, .ints xs⟩, some ⟨.row 37 2, .vals []⟩, some ⟨.box, .vals [.int .i64 a, .int .i64 b]⟩, some ⟨.box, .vals [.int .i64 c, .int .i64 d]⟩] => some (needs [z = 0, xs.length = n * 2, n ≤ 20, allV (ptsA n xs) = true, -1000 ≤ x ∧ c ≤ 1000, -1000 ≤ b ∧ b ≤ 1000 ∧ d ≤ 1000, (c + 1 - x).toNat * (d + 1 - b).toNat ≤ 1000] (k (.exit 2) ⟨(topV :: topV :: topV :: .slice (some ⟨4, 0, none⟩) (lrL (ptsA n xs) b (d + 1) (c + 1 - x).toNat x).length (lrL (ptsA n xs) b (d + 1) (c + 1 - x).toNat x).length :: topV :: topV :: topV :: topV :: topV :: topV :: topV :: topV :: topV :: topV :: topV :: topV :: topV :: topV :: topV :: topV :: topV :: topV :: topV :: topV :: topV :: topV :: topV :: topV :: topV :: topV :: topV :: topV :: topV :: topV :: topV :: topV :: topV :: topV :: topV :: topV :: topV :: topV :: topV :: topV :: topV :: topV :: topV :: topV :: topV :: topV :: topV :: topV :: topV :: topV :: topV :: topV :: topV :: topV :: topV :: topV :: topV :: topV :: topV :: topV :: topV :: topV :: topV :: topV :: topV :: topV :: topV :: topV :: topV :: topV :: topV :: topV :: topV :: topV :: topV :: topV :: topV :: topV :: topV :: topV :: topV :: topV :: topV :: topV :: topV :: topV :: topV :: topV :: topV :: topV :: topV :: topV :: topV :: topV :: topV :: topV :: topV :: topV :: []), [some ⟨.view, .ints xs⟩, some ⟨.dead, .vals []⟩, some ⟨.box, .vals [.int .i64 a, .int .i64 b]⟩, some ⟨.box, .vals [.int .i64 c, .int .i64 d]⟩, some ⟨.row 37 2, .ints (flat (lrL (ptsA n xs) b (d + 1) (c + 1 - x).toNat x))⟩]⟩))
  | _, _, _ => none
set_option maxRecDepth 100000 in
theorem in_lso : loopsOf c_lso = [c_lsi] := by kernel_rfl
theorem ltLs_good : LoopsGood Try.prog ltLs 2 c_lso := by
  intro i d hd s k t F H hlt ht
  rw [in_lso] at hd
  cases i with
  | zero =>
    obtain rfl : c_lsi = d := by simpa using hd
    exact lg_lsi s k t F H hlt ht
  | succ i => simp at hd
set_option maxRecDepth 100000 in
theorem round_lso (ps : List Pt) (a b c d : Int) (h : ps.length ≤ 20) (hv : allV ps = true) (hc : c ≤ 1000) (hb : -1000 ≤ b ∧ b ≤ 1000 ∧ d ≤ 1000) : Round_lso ps a b c d := by
  rintro ⟨x, o⟩ ⟨h1, h2⟩
  rw [tr_lso]
  simp only [Int.toNat_natCast, Nat.zero_add, Nat.add_zero, flat_length, flatC, ptsA_flat]
  refine brT_ok.2 ⟨fun hlt => ?_, fun hge => ?_⟩
  · have hlt : x ≤ c := by simpa using hlt
    have w1 : IntKind.i64.wrap (x + 1) = x + 1 := wr (by omega)
    have st := lrL_step (ps := ps) (y0 := b) (d := d + 1) (x := x) (c := c + 1) (by omega)
    have hl := lcL_len ps x (d + 1 - b).toNat b
    have e : (c + 1 - x).toNat = (c + 1 - (x + 1)).toNat + 1 := by omega
    rw [e, Nat.add_mul, Nat.one_mul] at h2
    rw [w1]
    simp only [Tree.ok]
    refine ⟨trivial, h, hv, by omega, by omega, trivial, by omega, (x + 1, o ++ lcL ps x (d + 1 - b).toNat b), [some 5], ⟨by omega, ?_⟩, ?_, rfl, ?_, ?_⟩
    · rw [List.length_append]
      omega
    · show (c + 1 - (x + 1)).toNat < (c + 1 - x).toNat; omega
    · simp only [rs_lso, st, List.append_assoc]
    · repeat' (first | exact True.intro | exact rfl | exact fun _ => rfl | (simp; done) | refine And.intro ?_ ?_)
  · have hge : c < x := by simpa using hge
    refine ⟨rfl, [some 4], ?_⟩
    simp only [rs_lso, lrL_end (ps := ps) (y0 := b) (d := d + 1) (x := x) (c := c + 1) (by omega), List.append_nil]
    repeat' (first | exact True.intro | exact rfl | exact fun _ => rfl | (simp; done) | refine And.intro ?_ ?_)
set_option maxRecDepth 100000 in
theorem lg_lso : LoopE Try.prog e_lso c_lso := by
  intro s k t F H hlt ht
  unfold e_lso at hlt
  split at hlt
  rotate_left
  · cases hlt
  rename_i hlen hpick hmem
  obtain ⟨tmps, mem⟩ := s
  simp only at hlen hpick hmem
  subst hmem
  obtain rfl := Option.some.inj hlt
  obtain ⟨⟨rfl, h1, h2, h3, h4, h5, h6, _⟩, ht2⟩ := needs_ok ht
  clear ht hlt
  obtain ⟨ps, rfl, rfl⟩ := even_flat h1
  rw [ptsA_flat] at ht2 h3
  refine ⟨_, _, ht2, loop_run2 mixed ELc_ok (s_lso ps _ _ _ _) (inv_lso ps _ _ _ _) (me_lso ps _ _ _ _) re_lso (rs_lso ps _ _ _ _) k_lso (fun _ => rfl) ltLs_good (round_lso ps _ _ _ _ h2 h3 h4.2 h5) (x := (_, [])) ⟨h4.1, by simpa using h6⟩ (π := [some 1]) rfl ?_⟩
  refine ⟨rfl, rfl, ?_, wvs_spread' [0, 3, 4, 5, 7] hlen rfl ?_⟩
  · repeat' (first | exact True.intro | exact rfl | exact wv_top _ _ | exact fun _ => rfl | assumption | exact Eq.symm (by assumption) | exact vI0 rfl | refine And.intro ?_ ?_)
  · rw [hpick]
    repeat' (first | exact True.intro | exact rfl | exact wv_top _ _ | exact fun _ => rfl | assumption | exact Eq.symm (by assumption) | exact vI0 rfl | refine And.intro ?_ ?_)
end Go.Proofs.Ytpjdnplpiamjcaa
namespace Go.Proofs.Ytpjdnplpiamjcaa
set_option linter.all false
open Go.RowKit
theorem lcL_snoc (ps : List Pt) (x : Int) : ∀ (m : Nat) (y : Int), lcL ps x (m + 1) y = lcL ps x m y ++ (bif (locA ps x (y + m) == 1) then [(x, y + m)] else [])
  | 0, y => by simp [lcL]
  | m + 1, y => by
    have e : y + 1 + (m : Int) = y + ((m + 1 : Nat) : Int) := by omega
    rw [lcL, lcL_snoc ps x m (y + 1), lcL, e, List.append_assoc]
theorem lcL_nil {ps : List Pt} {x : Int} : ∀ {m : Nat} {y : Int}, (∀ y' : Int, y ≤ y' → y' < y + m → (locA ps x y' == 1) = false) → lcL ps x m y = []
  | 0, _, _ => rfl
  | m + 1, y, h => by
    rw [lcL, h y (by omega) (by omega), lcL_nil fun y' h1 h2 => h y' (by omega) (by omega)]
    rfl
theorem lrL_snoc (ps : List Pt) (y0 d : Int) : ∀ (m : Nat) (x : Int), lrL ps y0 d (m + 1) x = lrL ps y0 d m x ++ lcL ps (x + m) (d - y0).toNat y0
  | 0, x => by simp [lrL]
  | m + 1, x => by
    have e : x + 1 + (m : Int) = x + ((m + 1 : Nat) : Int) := by omega
    rw [lrL, lrL_snoc ps y0 d m (x + 1), lrL, e, List.append_assoc]
/-- A column without its ends. -/
theorem lcL_cut {ps : List Pt} {x b d : Int} (hbd : b ≤ d) (h1 : (locA ps x b == 1) = false) (h2 : (locA ps x d == 1) = false) : lcL ps x (d + 1 - b).toNat b = lcL ps x (d - (b + 1)).toNat (b + 1) := by
  rw [lcL_step (ps := ps) (x := x) (y := b) (d := d + 1) (by omega), h1]
  simp only [cond_false, List.nil_append]
  rcases Int.lt_or_le b d with h | h
  · have e : (d + 1 - (b + 1)).toNat = (d - (b + 1)).toNat + 1 := by omega
    have e2 : b + 1 + ((d - (b + 1)).toNat : Int) = d := by omega
    rw [e, lcL_snoc, e2, h2]
    simp
  · rw [show (d + 1 - (b + 1)).toNat = 0 by omega, show (d - (b + 1)).toNat = 0 by omega]
theorem lrL_cols {ps : List Pt} {b d : Int} (hbd : b ≤ d) (h1 : ∀ x, (locA ps x b == 1) = false) (h2 : ∀ x, (locA ps x d == 1) = false) : ∀ (m : Nat) (x : Int), lrL ps b (d + 1) m x = lrL ps (b + 1) d m x
  | 0, _ => rfl
  | m + 1, x => by rw [lrL, lrL, lcL_cut hbd (h1 x) (h2 x), lrL_cols hbd h1 h2 m (x + 1)]
theorem lrL_cut {ps : List Pt} {y0 d a c : Int} (hac : a ≤ c) (h1 : ∀ y, (locA ps a y == 1) = false) (h2 : ∀ y, (locA ps c y == 1) = false) : lrL ps y0 d (c + 1 - a).toNat a = lrL ps y0 d (c - (a + 1)).toNat (a + 1) := by
  rw [lrL_step (ps := ps) (y0 := y0) (d := d) (x := a) (c := c + 1) (by omega), lcL_nil fun y' _ _ => h1 y', List.nil_append]
  rcases Int.lt_or_le a c with h | h
  · have e : (c + 1 - (a + 1)).toNat = (c - (a + 1)).toNat + 1 := by omega
    have e2 : a + 1 + ((c - (a + 1)).toNat : Int) = c := by omega
    rw [e, lrL_snoc, e2, lcL_nil fun y' _ _ => h2 y', List.append_nil]
  · rw [show (c + 1 - (a + 1)).toNat = 0 by omega, show (c - (a + 1)).toNat = 0 by omega]
theorem bx_get (ps : List Pt) : ∀ (i j : Nat), j < i → bxA ps i ≤ (ps.getD j (0, 0)).1 ∧ bxB ps i ≤ (ps.getD j (0, 0)).2 ∧ (ps.getD j (0, 0)).1 ≤ bxC ps i ∧ (ps.getD j (0, 0)).2 ≤ bxD ps i
  | 0, _, h => by omega
  | i + 1, j, h => by
    rcases Nat.lt_or_ge j i with hj | hj
    · have := bx_get ps i j hj
      simp only [bxA, bxB, bxC, bxD]
      refine ⟨?_, ?_, ?_, ?_⟩ <;> split <;> omega
    · obtain rfl : j = i := by omega
      simp only [bxA, bxB, bxC, bxD]
      refine ⟨?_, ?_, ?_, ?_⟩ <;> split <;> omega
theorem bx_bd {ps : List Pt} (hv : allV ps = true) : ∀ i : Nat, (-1000 ≤ bxA ps i ∧ bxA ps i ≤ 1000) ∧ (-1000 ≤ bxB ps i ∧ bxB ps i ≤ 1000) ∧ (-1000 ≤ bxC ps i ∧ bxC ps i ≤ 1000) ∧ (-1000 ≤ bxD ps i ∧ bxD ps i ≤ 1000)
  | 0 => by
    have := allV_get hv 0
    simp only [bxA, bxB, bxC, bxD]
    omega
  | i + 1 => by
    have h := allV_get hv i
    have := bx_bd hv i
    simp only [bxA, bxB, bxC, bxD]
    refine ⟨?_, ?_, ?_, ?_⟩ <;> split <;> omega
theorem bx_mem {ps : List Pt} {p : Pt} (h : p ∈ ps) : bxA ps ps.length ≤ p.1 ∧ bxB ps ps.length ≤ p.2 ∧ p.1 ≤ bxC ps ps.length ∧ p.2 ≤ bxD ps ps.length := by
  obtain ⟨j, hj, rfl⟩ := List.mem_iff_getElem.1 h
  have := bx_get ps ps.length j hj
  simpa [hj] using this
theorem bx_le {ps : List Pt} (h : 0 < ps.length) : bxA ps ps.length ≤ bxC ps ps.length ∧ bxB ps ps.length ≤ bxD ps ps.length := by
  have := bx_get ps ps.length 0 h
  omega
/-- Both ways find the same points. -/
theorem lat_same {ps : List Pt} (h : 0 < ps.length) : lrL ps (bxB ps ps.length) (bxD ps ps.length + 1) (bxC ps ps.length + 1 - bxA ps ps.length).toNat (bxA ps ps.length) = lrL ps (bxB ps ps.length + 1) (bxD ps ps.length) (bxC ps ps.length - (bxA ps ps.length + 1)).toNat (bxA ps ps.length + 1) := by
  have hb := bx_le h
  rw [lrL_cut hb.1 (fun y => bord_no h (.inl fun p hp => (bx_mem hp).1)) (fun y => bord_no h (.inr (.inl fun p hp => (bx_mem hp).2.2.1)))]
  exact lrL_cols hb.2 (fun x => bord_no h (.inr (.inr (.inl fun p hp => (bx_mem hp).2.1)))) (fun x => bord_no h (.inr (.inr (.inr fun p hp => (bx_mem hp).2.2.2)))) _ _
def LBx : FuncId → LT := fun f => match f with
  | 89 => lt1 e_bxa
  | _ => noL
def EBx : Env := mkE TLc R4 LBx
theorem EBx_ok : EnvOk Try.prog EBx := mkEOk TLc_ok R4_ok (by
  intro f fn hf
  unfold LBx
  split
  all_goals first | with_reducible exact Lr_bxa hf | exact noL_good)
set_option maxRecDepth 100000 in
theorem tr_bxF (ps : List Pt) : bodyV Try.prog EBx 30 12 89 [.row ps.length (.ints (flat ps))] = .need ((0 : Int) ≤ (0 : Int) ∧ (0 : Int) < (↑ps.length : Int)) (.need ((2 : Nat) ≤ (flat ps).length) (.need ((0 : Int) ≤ (0 : Int) ∧ (0 : Int) < (↑ps.length : Int)) (.need ((2 : Nat) ≤ (flat ps).length) (.need ((0 : Int) = (0 : Int)) (.need ((↑ps.length : Int) = (↑ps.length : Int)) (.need ((0 : Int) = (0 : Int)) (.need ((0 : Int) = (0 : Int)) (.need ((0 : Int) = (0 : Int)) (.need ((0 : Int) = (0 : Int)) (.need ((flat ps).length = ps.length * (2 : Nat)) (.need (ps.length ≤ (20 : Nat)) (.need ((flat ps).getD (0 : Nat) (0 : Int) = (flat ps).getD (0 : Nat) (0 : Int)) (.need ((flat ps).getD (1 : Nat) (0 : Int) = (flat ps).getD (1 : Nat) (0 : Int)) (.need ((flat ps).getD (0 : Nat) (0 : Int) = (flat ps).getD (0 : Nat) (0 : Int)) (.need ((flat ps).getD (1 : Nat) (0 : Int) = (flat ps).getD (1 : Nat) (0 : Int)) (.fin (.agg #[.int .i64 (bxA (ptsA ps.length (flat ps)) ps.length), .int .i64 (bxB (ptsA ps.length (flat ps)) ps.length), .int .i64 (bxC (ptsA ps.length (flat ps)) ps.length), .int .i64 (bxD (ptsA ps.length (flat ps)) ps.length)]) [])))))))))))))))) := by kernel_rfl
def bxV (ps : List Pt) : Value := .agg #[.int .i64 (bxA ps ps.length), .int .i64 (bxB ps ps.length), .int .i64 (bxC ps ps.length), .int .i64 (bxD ps ps.length)]
theorem res_bx {ps : List Pt} (h0 : 0 < ps.length) (h : ps.length ≤ 20) : Res Try.prog 89 [.row ps.length (.ints (flat ps))] (bxV ps) := by
  refine bodyV_res mixed EBx_ok (m := 30) (n := 12) rfl ?_
  rw [tr_bxF]
  have k1 := flat_get0 ps 0
  have k2 := flat_get1 ps 0
  have hl := flat_length ps
  simp only [Nat.zero_mul, Nat.zero_add] at k1 k2
  simp only [List.drop_zero, ptsA_flat, flat_length, Nat.zero_add, Nat.zero_mul, Int.toNat_zero, Tree.ok, k1, k2]
  repeat' (first | exact True.intro | exact rfl | omega | refine And.intro ?_ ?_)
def pBx : List DArg → Option (Value × List Prop)
  | [.row m (.ints xs)] => some (.agg #[.int .i64 (bxA (ptsA m xs) m), .int .i64 (bxB (ptsA m xs) m), .int .i64 (bxC (ptsA m xs) m), .int .i64 (bxD (ptsA m xs) m)], [m * 2 ≤ xs.length, 0 < m, m ≤ 20])
  | _ => none
theorem pBx_ok {ds : List DArg} {v : Value} {C : List Prop} (h : pBx ds = some (v, C)) (hC : AllP C) : Res Try.prog 89 ds v := by
  unfold pBx at h
  split at h
  · rename_i m xs
    obtain ⟨rfl, rfl⟩ : _ ∧ _ := by simpa using h
    obtain ⟨c1, c2, c3, _⟩ := hC
    obtain ⟨_, h2⟩ := ptsA_spec c1
    have h7 := res_pts1 (pre := []) (post := []) c1 (res_bx (ps := ptsA m xs) (by omega) (by omega))
    unfold bxV at h7
    rw [h2] at h7
    exact h7
  · cases h
def TBx : Tab := fun f ds => match f with
  | 89 => pBx ds
  | f => TLc f ds
theorem TBx_ok : TabOk Try.prog TBx := by
  intro f ds v C h hC
  unfold TBx at h
  (try split at h)
  all_goals first | with_reducible exact pBx_ok h hC | exact TLc_ok _ _ _ _ h hC
def ltSa : LT := fun j s k => match j with
  | 0 => e_bxb s k
  | 1 => e_lso s k
  | _ => none
set_option maxRecDepth 100000 in
theorem in_Sa : loopsOf (codeOf Try.f42) = [c_bxb, c_lso, c_lsi] := by kernel_rfl
theorem ltSa_good : LoopsGood Try.prog ltSa 0 (codeOf Try.f42) := by
  intro i d hd s k t F H hlt ht
  rw [in_Sa] at hd
  match i with
  | 0 =>
    obtain rfl : c_bxb = d := by simpa using hd
    exact lg_bxb s k t F H hlt ht
  | 1 =>
    obtain rfl : c_lso = d := by simpa using hd
    exact lg_lso s k t F H hlt ht
  | i + 2 => simp [ltSa] at hlt
theorem Lr_sa {fn : Func} (hf : Try.prog.funcs[42]? = some fn) : LoopsGood Try.prog ltSa 0 (codeOf fn) := by
  obtain rfl := fn_is Try.func42 hf
  exact ltSa_good
theorem Lr_la {fn : Func} (hf : Try.prog.funcs[44]? = some fn) : LoopsGood Try.prog (lt1 e_lao) 0 (codeOf fn) := by
  obtain rfl := fn_is Try.func44 hf
  exact lt1_good lg_lao
def LLa : FuncId → LT := fun f => match f with
  | 42 => ltSa
  | 44 => lt1 e_lao
  | _ => noL
def ELx : Env := mkE TBx R4 LLa
theorem ELx_ok : EnvOk Try.prog ELx := mkEOk TBx_ok R4_ok (by
  intro f fn hf
  unfold LLa
  split
  all_goals first | with_reducible exact Lr_sa hf | with_reducible exact Lr_la hf | exact noL_good)
set_option maxRecDepth 100000 in
theorem tr_sLa (ps : List Pt) : bodyX Try.prog ELx 30 12 42 [.row ps.length (.ints (flat ps))] = .need (ps.length * (2 : Nat) ≤ (List.drop (0 : Nat) (flat ps)).length) (.need (ps.length ≤ (1000000000 : Nat)) (brT (!issI (ptsA ps.length (List.drop 0 (flat ps)))) (.fin (.slice none (0) (0)) [some ⟨.view, .ints (flat ps)⟩, some ⟨.row 37 2, .vals []⟩]) (.need ((0 : Int) ≤ (0 : Int) ∧ (0 : Int) < (↑ps.length : Int)) (.need ((2 : Nat) ≤ (flat ps).length) (.need ((0 : Int) ≤ (0 : Int) ∧ (0 : Int) < (↑ps.length : Int)) (.need ((2 : Nat) ≤ (flat ps).length) (.need ((0 : Int) = (0 : Int)) (.need ((0 : Nat) = (0 : Nat)) (.need ((flat ps).length = ps.length * (2 : Nat)) (.need (ps.length ≤ (20 : Nat)) (.need ((flat ps).getD (0 : Nat) (0 : Int) = (flat ps).getD (0 : Nat) (0 : Int)) (.need ((flat ps).getD (1 : Nat) (0 : Int) = (flat ps).getD (1 : Nat) (0 : Int)) (.need ((flat ps).getD (0 : Nat) (0 : Int) = (flat ps).getD (0 : Nat) (0 : Int)) (.need ((flat ps).getD (1 : Nat) (0 : Int) = (flat ps).getD (1 : Nat) (0 : Int)) (brT (decide (1000 < IntKind.i64.wrap (IntKind.i64.wrap (IntKind.i64.wrap (bxC (ptsA ps.length (flat ps)) ps.length - bxA (ptsA ps.length (flat ps)) ps.length) + 1) * IntKind.i64.wrap (IntKind.i64.wrap (bxD (ptsA ps.length (flat ps)) ps.length - bxB (ptsA ps.length (flat ps)) ps.length) + 1)))) (.fin (.slice none (0) (0)) [some ⟨.view, .ints (flat ps)⟩, some ⟨.row 37 2, .vals []⟩, some ⟨.box, .vals [.int .i64 (bxA (ptsA ps.length (flat ps)) ps.length), .int .i64 (bxB (ptsA ps.length (flat ps)) ps.length)]⟩, some ⟨.box, .vals [.int .i64 (bxC (ptsA ps.length (flat ps)) ps.length), .int .i64 (bxD (ptsA ps.length (flat ps)) ps.length)]⟩]) (.need ((0 : Nat) = (0 : Nat)) (.need ((flat ps).length = ps.length * (2 : Nat)) (.need (ps.length ≤ (20 : Nat)) (.need (allV (ptsA ps.length (flat ps)) = true) (.need ((-1000 : Int) ≤ bxA (ptsA ps.length (flat ps)) ps.length ∧ bxC (ptsA ps.length (flat ps)) ps.length ≤ (1000 : Int)) (.need ((-1000 : Int) ≤ bxB (ptsA ps.length (flat ps)) ps.length ∧ bxB (ptsA ps.length (flat ps)) ps.length ≤ (1000 : Int) ∧ bxD (ptsA ps.length (flat ps)) ps.length ≤ (1000 : Int)) (.need ((bxC (ptsA ps.length (flat ps)) ps.length + (1 : Int) - bxA (ptsA ps.length (flat ps)) ps.length).toNat * (bxD (ptsA ps.length (flat ps)) ps.length + (1 : Int) - bxB (ptsA ps.length (flat ps)) ps.length).toNat ≤ (1000 : Nat)) (.fin (.slice (some ⟨4, 0, none⟩) ((lrL (ptsA ps.length (flat ps)) (bxB (ptsA ps.length (flat ps)) ps.length) (bxD (ptsA ps.length (flat ps)) ps.length + 1) (bxC (ptsA ps.length (flat ps)) ps.length + 1 - bxA (ptsA ps.length (flat ps)) ps.length).toNat (bxA (ptsA ps.length (flat ps)) ps.length)).length) ((lrL (ptsA ps.length (flat ps)) (bxB (ptsA ps.length (flat ps)) ps.length) (bxD (ptsA ps.length (flat ps)) ps.length + 1) (bxC (ptsA ps.length (flat ps)) ps.length + 1 - bxA (ptsA ps.length (flat ps)) ps.length).toNat (bxA (ptsA ps.length (flat ps)) ps.length)).length)) [some ⟨.view, .ints (flat ps)⟩, some deadB, some ⟨.box, .vals [.int .i64 (bxA (ptsA ps.length (flat ps)) ps.length), .int .i64 (bxB (ptsA ps.length (flat ps)) ps.length)]⟩, some ⟨.box, .vals [.int .i64 (bxC (ptsA ps.length (flat ps)) ps.length), .int .i64 (bxD (ptsA ps.length (flat ps)) ps.length)]⟩, some ⟨.row 37 2, .ints (flat (lrL (ptsA ps.length (flat ps)) (bxB (ptsA ps.length (flat ps)) ps.length) (bxD (ptsA ps.length (flat ps)) ps.length + 1) (bxC (ptsA ps.length (flat ps)) ps.length + 1 - bxA (ptsA ps.length (flat ps)) ps.length).toNat (bxA (ptsA ps.length (flat ps)) ps.length)))⟩]))))))))))))))))))))))) := by kernel_rfl
set_option maxRecDepth 100000 in
theorem tr_iLa (ps : List Pt) : bodyX Try.prog ELx 30 12 44 [.row ps.length (.ints (flat ps))] = .need (ps.length * (2 : Nat) ≤ (List.drop (0 : Nat) (flat ps)).length) (.need (ps.length ≤ (1000000000 : Nat)) (brT (!issI (ptsA ps.length (List.drop 0 (flat ps)))) (.fin (.slice none (0) (0)) [some ⟨.view, .ints (flat ps)⟩]) (.need (ps.length * (2 : Nat) ≤ (List.drop (0 : Nat) (flat ps)).length) (.need ((0 : Nat) < ps.length) (.need (ps.length ≤ (20 : Nat)) (brT (decide (1000 < IntKind.i64.wrap (IntKind.i64.wrap (IntKind.i64.wrap (bxC (ptsA ps.length (List.drop 0 (flat ps))) ps.length - bxA (ptsA ps.length (List.drop 0 (flat ps))) ps.length) + 1) * IntKind.i64.wrap (IntKind.i64.wrap (bxD (ptsA ps.length (List.drop 0 (flat ps))) ps.length - bxB (ptsA ps.length (List.drop 0 (flat ps))) ps.length) + 1)))) (.fin (.slice none (0) (0)) [some ⟨.view, .ints (flat ps)⟩, some ⟨.box, .vals [.int .i64 (bxA (ptsA ps.length (List.drop 0 (flat ps))) ps.length), .int .i64 (bxB (ptsA ps.length (List.drop 0 (flat ps))) ps.length), .int .i64 (bxC (ptsA ps.length (List.drop 0 (flat ps))) ps.length), .int .i64 (bxD (ptsA ps.length (List.drop 0 (flat ps))) ps.length)]⟩, some ⟨.box, .vals [.int .i64 (IntKind.i64.wrap (bxC (ptsA ps.length (List.drop 0 (flat ps))) ps.length - bxA (ptsA ps.length (List.drop 0 (flat ps))) ps.length)), .int .i64 (IntKind.i64.wrap (bxD (ptsA ps.length (List.drop 0 (flat ps))) ps.length - bxB (ptsA ps.length (List.drop 0 (flat ps))) ps.length))]⟩, some ⟨.box, .vals [.int .i64 (bxC (ptsA ps.length (List.drop 0 (flat ps))) ps.length), .int .i64 (bxD (ptsA ps.length (List.drop 0 (flat ps))) ps.length)]⟩, some ⟨.box, .vals [.int .i64 (bxA (ptsA ps.length (List.drop 0 (flat ps))) ps.length), .int .i64 (bxB (ptsA ps.length (List.drop 0 (flat ps))) ps.length)]⟩, some ⟨.box, .vals [.int .i64 (IntKind.i64.wrap (bxC (ptsA ps.length (List.drop 0 (flat ps))) ps.length - bxA (ptsA ps.length (List.drop 0 (flat ps))) ps.length)), .int .i64 (IntKind.i64.wrap (bxD (ptsA ps.length (List.drop 0 (flat ps))) ps.length - bxB (ptsA ps.length (List.drop 0 (flat ps))) ps.length))]⟩]) (.need ((flat ps).length = ps.length * (2 : Nat)) (.need (ps.length ≤ (20 : Nat)) (.need (allV (ptsA ps.length (flat ps)) = true) (.need ((-1000 : Int) ≤ IntKind.i64.wrap (bxA (ptsA ps.length (List.drop (0 : Nat) (flat ps))) ps.length + (1 : Int)) ∧ bxC (ptsA ps.length (List.drop (0 : Nat) (flat ps))) ps.length ≤ (1000 : Int)) (.need ((-1001 : Int) ≤ bxB (ptsA ps.length (List.drop (0 : Nat) (flat ps))) ps.length ∧ bxB (ptsA ps.length (List.drop (0 : Nat) (flat ps))) ps.length ≤ (1000 : Int) ∧ bxD (ptsA ps.length (List.drop (0 : Nat) (flat ps))) ps.length ≤ (1000 : Int)) (.need ((bxC (ptsA ps.length (List.drop (0 : Nat) (flat ps))) ps.length - IntKind.i64.wrap (bxA (ptsA ps.length (List.drop (0 : Nat) (flat ps))) ps.length + (1 : Int))).toNat * (bxD (ptsA ps.length (List.drop (0 : Nat) (flat ps))) ps.length - (bxB (ptsA ps.length (List.drop (0 : Nat) (flat ps))) ps.length + (1 : Int))).toNat ≤ (1000 : Nat)) (.fin (.slice (some ⟨6, 0, none⟩) ((lrL (ptsA ps.length (flat ps)) (bxB (ptsA ps.length (List.drop 0 (flat ps))) ps.length + 1) (bxD (ptsA ps.length (List.drop 0 (flat ps))) ps.length) (bxC (ptsA ps.length (List.drop 0 (flat ps))) ps.length - IntKind.i64.wrap (bxA (ptsA ps.length (List.drop 0 (flat ps))) ps.length + 1)).toNat (IntKind.i64.wrap (bxA (ptsA ps.length (List.drop 0 (flat ps))) ps.length + 1))).length) ((lrL (ptsA ps.length (flat ps)) (bxB (ptsA ps.length (List.drop 0 (flat ps))) ps.length + 1) (bxD (ptsA ps.length (List.drop 0 (flat ps))) ps.length) (bxC (ptsA ps.length (List.drop 0 (flat ps))) ps.length - IntKind.i64.wrap (bxA (ptsA ps.length (List.drop 0 (flat ps))) ps.length + 1)).toNat (IntKind.i64.wrap (bxA (ptsA ps.length (List.drop 0 (flat ps))) ps.length + 1))).length)) [some ⟨.view, .ints (flat ps)⟩, some ⟨.box, .vals [.int .i64 (bxA (ptsA ps.length (List.drop 0 (flat ps))) ps.length), .int .i64 (bxB (ptsA ps.length (List.drop 0 (flat ps))) ps.length), .int .i64 (bxC (ptsA ps.length (List.drop 0 (flat ps))) ps.length), .int .i64 (bxD (ptsA ps.length (List.drop 0 (flat ps))) ps.length)]⟩, some deadB, some deadB, some deadB, some deadB, some ⟨.row 37 2, .ints (flat (lrL (ptsA ps.length (flat ps)) (bxB (ptsA ps.length (List.drop 0 (flat ps))) ps.length + 1) (bxD (ptsA ps.length (List.drop 0 (flat ps))) ps.length) (bxC (ptsA ps.length (List.drop 0 (flat ps))) ps.length - IntKind.i64.wrap (bxA (ptsA ps.length (List.drop 0 (flat ps))) ps.length + 1)).toNat (IntKind.i64.wrap (bxA (ptsA ps.length (List.drop 0 (flat ps))) ps.length + 1))))⟩]))))))))))))) := by kernel_rfl
theorem lrL_len (ps : List Pt) (y0 d : Int) : ∀ (m : Nat) (x : Int), (lrL ps y0 d m x).length ≤ m * (d - y0).toNat
  | 0, _ => by simp [lrL]
  | m + 1, x => by
    have h1 := lrL_len ps y0 d m (x + 1)
    have h2 := lcL_len ps x (d - y0).toNat y0
    rw [lrL, List.length_append, Nat.add_mul, Nat.one_mul]
    omega
/-- What LatticeInside answers. -/
def latV (ps : List Pt) : List Pt := bif issI ps && decide ((bxC ps ps.length - bxA ps ps.length + 1) * (bxD ps ps.length - bxB ps ps.length + 1) ≤ 1000) then lrL ps (bxB ps ps.length + 1) (bxD ps ps.length) (bxC ps ps.length - (bxA ps ps.length + 1)).toNat (bxA ps ps.length + 1) else []
theorem nat_prod {a c b d : Int} (h1 : a ≤ c) (h2 : b ≤ d) (h : (c - a + 1) * (d - b + 1) ≤ 1000) : (c + 1 - a).toNat * (d + 1 - b).toNat ≤ 1000 := by
  obtain ⟨m, hm⟩ := Int.eq_ofNat_of_zero_le (show 0 ≤ c - a + 1 by omega)
  obtain ⟨k, hk⟩ := Int.eq_ofNat_of_zero_le (show 0 ≤ d - b + 1 by omega)
  rw [hm, hk] at h
  have e1 : (c + 1 - a).toNat = m := by omega
  have e2 : (d + 1 - b).toNat = k := by omega
  rw [e1, e2]
  have : ((m * k : Nat) : Int) ≤ 1000 := by rw [Int.natCast_mul]; exact h
  omega
theorem nat_prod2 {a c b d : Int} (h1 : a ≤ c) (h2 : b ≤ d) (h : (c - a + 1) * (d - b + 1) ≤ 1000) : (c - (a + 1)).toNat * (d - (b + 1)).toNat ≤ 1000 :=
  Nat.le_trans (Nat.mul_le_mul (by omega) (by omega)) (nat_prod h1 h2 h)
set_option maxHeartbeats 1000000 in
theorem resR_sLa (ps : List Pt) (h : Big ps) : ResR Try.prog 42 [.row ps.length (.ints (flat ps))] (rowP (latV ps)) (blkP (latV ps)) := by
  refine bodyX_resR mixed ELx_ok (m := 30) (n := 12) rfl ?_
  rw [tr_sLa]
  unfold Big at h
  simp only [List.drop_zero, ptsA_flat, flat_length]
  unfold latV
  rcases ho : issI ps with _ | _
  · simp only [Bool.not_false, brT_t, Tree.ok, cond_false, Bool.false_and]
    exact ⟨by omega, h, none, ⟨rfl, rfl⟩, trivial⟩
  obtain ⟨h1, h2⟩ := issI_ok2 ho
  have h3 := (issI_ok ho).2.2
  obtain ⟨b1, b2, b3, b4⟩ := bx_bd h1 ps.length
  have bl := bx_le (ps := ps) (by omega)
  have hs := lat_same (ps := ps) (by omega)
  have hm := mul_bd (x := bxC ps ps.length - bxA ps ps.length + 1) (y := bxD ps ps.length - bxB ps ps.length + 1) 2001 2001 (by omega) (by omega)
  generalize hL : lrL ps (bxB ps ps.length + 1) (bxD ps ps.length) (bxC ps ps.length - (bxA ps ps.length + 1)).toNat (bxA ps ps.length + 1) = L at *
  rw [hs]
  simp (disch := omega) only [wr]
  simp only [Bool.not_true, brT_f, Bool.true_and]
  by_cases q : 1000 < (bxC ps ps.length - bxA ps ps.length + 1) * (bxD ps ps.length - bxB ps ps.length + 1)
  · rw [decide_eq_true q, decide_eq_false (by omega : ¬ (bxC ps ps.length - bxA ps ps.length + 1) * (bxD ps ps.length - bxB ps ps.length + 1) ≤ 1000)]
    simp only [brT_t, Tree.ok, cond_false]
    repeat (refine And.intro (by first | exact trivial | omega) ?_)
    exact ⟨none, ⟨rfl, rfl⟩, trivial⟩
  · rw [decide_eq_false q, decide_eq_true (by omega : (bxC ps ps.length - bxA ps ps.length + 1) * (bxD ps ps.length - bxB ps ps.length + 1) ≤ 1000)]
    have hp := nat_prod bl.1 bl.2 (by omega)
    simp only [brT_f, Tree.ok, cond_true]
    repeat (refine And.intro (by first | exact trivial | omega | exact h1 | exact hp) ?_)
    exact ⟨some 4, ⟨rfl, rfl, rfl⟩, rfl, rfl, rfl⟩
set_option maxHeartbeats 1000000 in
theorem resR_iLa (ps : List Pt) (h : Big ps) : ResR Try.prog 44 [.row ps.length (.ints (flat ps))] (rowP (latV ps)) (blkP (latV ps)) := by
  refine bodyX_resR mixed ELx_ok (m := 30) (n := 12) rfl ?_
  rw [tr_iLa]
  unfold Big at h
  simp only [List.drop_zero, ptsA_flat, flat_length]
  unfold latV
  rcases ho : issI ps with _ | _
  · simp only [Bool.not_false, brT_t, Tree.ok, cond_false, Bool.false_and]
    exact ⟨by omega, h, none, ⟨rfl, rfl⟩, trivial⟩
  obtain ⟨h1, h2⟩ := issI_ok2 ho
  have h3 := (issI_ok ho).2.2
  obtain ⟨b1, b2, b3, b4⟩ := bx_bd h1 ps.length
  have bl := bx_le (ps := ps) (by omega)
  have hm := mul_bd (x := bxC ps ps.length - bxA ps ps.length + 1) (y := bxD ps ps.length - bxB ps ps.length + 1) 2001 2001 (by omega) (by omega)
  simp (disch := omega) only [wr]
  generalize hL : lrL ps (bxB ps ps.length + 1) (bxD ps ps.length) (bxC ps ps.length - (bxA ps ps.length + 1)).toNat (bxA ps ps.length + 1) = L at *
  simp only [Bool.not_true, brT_f, Bool.true_and]
  by_cases q : 1000 < (bxC ps ps.length - bxA ps ps.length + 1) * (bxD ps ps.length - bxB ps ps.length + 1)
  · rw [decide_eq_true q, decide_eq_false (by omega : ¬ (bxC ps ps.length - bxA ps ps.length + 1) * (bxD ps ps.length - bxB ps ps.length + 1) ≤ 1000)]
    simp only [brT_t, Tree.ok, cond_false]
    repeat (refine And.intro (by first | exact trivial | omega) ?_)
    exact ⟨none, ⟨rfl, rfl⟩, trivial⟩
  · rw [decide_eq_false q, decide_eq_true (by omega : (bxC ps ps.length - bxA ps ps.length + 1) * (bxD ps ps.length - bxB ps ps.length + 1) ≤ 1000)]
    have hp := nat_prod2 bl.1 bl.2 (by omega)
    simp only [brT_f, Tree.ok, cond_true]
    repeat (refine And.intro (by first | exact trivial | omega | exact h1 | exact hp) ?_)
    exact ⟨some 6, ⟨rfl, rfl, rfl⟩, rfl, rfl, rfl⟩
theorem latV_len (ps : List Pt) : (latV ps).length ≤ 1000 := by
  unfold latV
  rcases ho : issI ps with _ | _
  · exact Nat.zero_le _
  have h3 := (issI_ok ho).2.2
  have bl := bx_le (ps := ps) (by omega)
  by_cases q : (bxC ps ps.length - bxA ps ps.length + 1) * (bxD ps ps.length - bxB ps ps.length + 1) ≤ 1000
  · rw [decide_eq_true q]
    exact Nat.le_trans (lrL_len _ _ _ _ _) (nat_prod2 bl.1 bl.2 q)
  · rw [decide_eq_false q]
    exact Nat.zero_le _
def RLa : TabR := fun f ds => match f, ds with
  | 42, [.row m (.ints xs)] => some (rowP (latV (ptsA m xs)), blkP (latV (ptsA m xs)), [m * 2 ≤ xs.length, m ≤ 1000000000])
  | 44, [.row m (.ints xs)] => some (rowP (latV (ptsA m xs)), blkP (latV (ptsA m xs)), [m * 2 ≤ xs.length, m ≤ 1000000000])
  | f, ds => R4 f ds
theorem RLa_ok : TabROk Try.prog RLa := by
  intro f ds v b C h hC
  unfold RLa at h
  split at h
  · obtain ⟨rfl, rfl, rfl⟩ : _ ∧ _ ∧ _ := by simpa using h
    obtain ⟨_, h2⟩ := ptsA_spec hC.1
    exact resR_pts1 (pre := []) (post := []) hC.1 (resR_sLa _ (by unfold Big; rw [h2]; exact hC.2.1))
  · obtain ⟨rfl, rfl, rfl⟩ : _ ∧ _ ∧ _ := by simpa using h
    obtain ⟨_, h2⟩ := ptsA_spec hC.1
    exact resR_pts1 (pre := []) (post := []) hC.1 (resR_iLa _ (by unfold Big; rw [h2]; exact hC.2.1))
  · exact R4_ok _ _ _ _ _ h hC
def TLa : Tab := fun f ds => match f with
  | 47 => pHeldP ds
  | f => T3 f ds
theorem TLa_ok : TabOk Try.prog TLa := by
  intro f ds v C h hC
  unfold TLa at h
  (try split at h)
  all_goals first | with_reducible exact pHeldP_ok h hC | exact T3_ok _ _ _ _ h hC
def ELy : Env := withT (mkE TLa RLa (fun _ => noL)) JmkP
theorem ELy_ok : EnvOk Try.prog ELy := withT_ok (mkEOk TLa_ok RLa_ok (fun _ _ _ => noL_good)) JmkP_ok
set_option maxRecDepth 100000 in
theorem tr_exLa (ps : List Pt) : bodyV Try.prog ELy 30 12 10 [.row ps.length (.ints (flat ps))] = brT (decide (IntKind.i64.wrap (1048576 - (↑ps.length : Int)) < 0)) (.fin (.bool (true)) []) (brT (decide (IntKind.i64.wrap (1048576 - (↑ps.length : Int)) < 0)) (.fin (.bool (true)) []) (.need (ps.length * (2 : Nat) ≤ (List.drop (0 : Nat) (flat ps)).length) (.need (ps.length ≤ (1000000000 : Nat)) (.need (ps.length * (2 : Nat) ≤ (List.drop (0 : Nat) (List.take (ps.length * (2 : Nat)) (List.drop (0 : Nat) (flat ps)))).length) (.need (ps.length ≤ (1000000000 : Nat)) (.need (ps.length * (2 : Nat) ≤ (List.drop (0 : Nat) (flat ps)).length) (.need (ps.length ≤ (1000000000 : Nat)) (.need (ps.length * (2 : Nat) ≤ (List.drop (0 : Nat) (List.take (ps.length * (2 : Nat)) (List.drop (0 : Nat) (flat ps)))).length) (.need (ps.length ≤ (1000000000 : Nat)) (.need ((latV (ptsA ps.length (List.drop (0 : Nat) (List.take (ps.length * (2 : Nat)) (List.drop (0 : Nat) (flat ps)))))).length * (2 : Nat) ≤ (List.drop (0 : Nat) (flat (latV (ptsA ps.length (List.drop (0 : Nat) (List.take (ps.length * (2 : Nat)) (List.drop (0 : Nat) (flat ps)))))))).length) (.need ((latV (ptsA ps.length (List.drop (0 : Nat) (List.take (ps.length * (2 : Nat)) (List.drop (0 : Nat) (flat ps)))))).length * (2 : Nat) ≤ (List.drop (0 : Nat) (flat (latV (ptsA ps.length (List.drop (0 : Nat) (List.take (ps.length * (2 : Nat)) (List.drop (0 : Nat) (flat ps)))))))).length) (.need ((latV (ptsA ps.length (List.drop (0 : Nat) (List.take (ps.length * (2 : Nat)) (List.drop (0 : Nat) (flat ps)))))).length ≤ (1000000000 : Nat)) (brT (!eqL (ptsA (latV (ptsA ps.length (List.drop 0 (List.take (ps.length * 2) (List.drop 0 (flat ps)))))).length (List.drop 0 (flat (latV (ptsA ps.length (List.drop 0 (List.take (ps.length * 2) (List.drop 0 (flat ps))))))))) (ptsA (latV (ptsA ps.length (List.drop 0 (List.take (ps.length * 2) (List.drop 0 (flat ps)))))).length (List.drop 0 (flat (latV (ptsA ps.length (List.drop 0 (List.take (ps.length * 2) (List.drop 0 (flat ps)))))))))) (.fin (.bool (false)) []) (.need (ps.length * (2 : Nat) ≤ (List.drop (0 : Nat) (flat ps)).length) (.need (ps.length ≤ (1000000000 : Nat)) (.need (ps.length * (2 : Nat) ≤ (List.drop (0 : Nat) (List.take (ps.length * (2 : Nat)) (List.drop (0 : Nat) (flat ps)))).length) (.need (ps.length * (2 : Nat) ≤ (List.drop (0 : Nat) (List.take (ps.length * (2 : Nat)) (List.drop (0 : Nat) (flat ps)))).length) (.need (ps.length ≤ (1000000000 : Nat)) (brT (!eqL (ptsA ps.length (List.drop 0 (List.take (ps.length * 2) (List.drop 0 (flat ps))))) (ptsA ps.length (List.drop 0 (List.take (ps.length * 2) (List.drop 0 (flat ps)))))) (.fin (.bool (false)) []) (.need ((List.take (ps.length * (2 : Nat)) (List.drop (0 : Nat) (flat ps))).length = ps.length * (2 : Nat)) (.need (Lim ps.length) (.need ((0 : Int) ≤ (1 : Int) ∧ (1 : Int) ≤ (1000000000 : Int)) (.need ((latV (ptsA ps.length (List.drop (0 : Nat) (List.take (ps.length * (2 : Nat)) (List.drop (0 : Nat) (flat ps)))))).length * (2 : Nat) ≤ (List.drop (0 : Nat) (flat (latV (ptsA ps.length (List.drop (0 : Nat) (List.take (ps.length * (2 : Nat)) (List.drop (0 : Nat) (flat ps)))))))).length) (.need ((latV (ptsA ps.length (List.drop (0 : Nat) (List.take (ps.length * (2 : Nat)) (List.drop (0 : Nat) (flat ps)))))).length * (2 : Nat) ≤ (List.drop (0 : Nat) (flat (latV (ptsA ps.length (List.drop (0 : Nat) (List.take (ps.length * (2 : Nat)) (List.drop (0 : Nat) (flat ps)))))))).length) (.need ((latV (ptsA ps.length (List.drop (0 : Nat) (List.take (ps.length * (2 : Nat)) (List.drop (0 : Nat) (flat ps)))))).length ≤ (1000000000 : Nat)) (brT (!eqL (ptsA (latV (ptsA ps.length (List.drop 0 (List.take (ps.length * 2) (List.drop 0 (flat ps)))))).length (List.drop 0 (flat (latV (ptsA ps.length (List.drop 0 (List.take (ps.length * 2) (List.drop 0 (flat ps))))))))) (ptsA (latV (ptsA ps.length (List.drop 0 (List.take (ps.length * 2) (List.drop 0 (flat ps)))))).length (List.drop 0 (flat (latV (ptsA ps.length (List.drop 0 (List.take (ps.length * 2) (List.drop 0 (flat ps)))))))))) (.fin (.bool (false)) []) (.need ((flat (latV (ptsA ps.length (List.drop (0 : Nat) (List.take (ps.length * (2 : Nat)) (List.drop (0 : Nat) (flat ps))))))).length = (latV (ptsA ps.length (List.drop (0 : Nat) (List.take (ps.length * (2 : Nat)) (List.drop (0 : Nat) (flat ps)))))).length * (2 : Nat)) (.need (Lim (latV (ptsA ps.length (List.drop (0 : Nat) (List.take (ps.length * (2 : Nat)) (List.drop (0 : Nat) (flat ps)))))).length) (.need ((0 : Int) ≤ (1 : Int) ∧ (1 : Int) ≤ (1000000000 : Int)) (.need (Lim (latV (ptsA ps.length (List.drop (0 : Nat) (List.take (ps.length * (2 : Nat)) (List.drop (0 : Nat) (flat ps)))))).length) (.need ((0 : Int) ≤ (1 : Int) ∧ (1 : Int) ≤ (1000000000 : Int)) (.need (List.drop (0 : Nat) (marks (1 : Int) ((latV (ptsA ps.length (List.drop (0 : Nat) (List.take (ps.length * (2 : Nat)) (List.drop (0 : Nat) (flat ps)))))).length * (2 : Nat))) = marks (1 : Int) ((latV (ptsA ps.length (List.drop (0 : Nat) (List.take (ps.length * (2 : Nat)) (List.drop (0 : Nat) (flat ps)))))).length * (2 : Nat))) (brT (!1 + (↑((latV (ptsA ps.length (List.drop 0 (List.take (ps.length * 2) (List.drop 0 (flat ps)))))).length * 2) : Int) == 1 + (↑((latV (ptsA ps.length (List.drop 0 (List.take (ps.length * 2) (List.drop 0 (flat ps)))))).length * 2) : Int)) (.fin (.bool (false)) []) (.need (ps.length * (2 : Nat) ≤ (List.drop (0 : Nat) (flat ps)).length) (.need (ps.length ≤ (1000000000 : Nat)) (.need (ps.length * (2 : Nat) ≤ (List.drop (0 : Nat) (List.take (ps.length * (2 : Nat)) (List.drop (0 : Nat) (flat ps)))).length) (.need (ps.length ≤ (1000000000 : Nat)) (.need ((latV (ptsA ps.length (List.drop (0 : Nat) (List.take (ps.length * (2 : Nat)) (List.drop (0 : Nat) (flat ps)))))).length * (2 : Nat) ≤ (List.drop (0 : Nat) (flat (latV (ptsA ps.length (List.drop (0 : Nat) (List.take (ps.length * (2 : Nat)) (List.drop (0 : Nat) (flat ps)))))))).length) (.need ((latV (ptsA ps.length (List.drop (0 : Nat) (List.take (ps.length * (2 : Nat)) (List.drop (0 : Nat) (flat ps)))))).length * (2 : Nat) ≤ (List.drop (0 : Nat) (flat (latV (ptsA ps.length (List.drop (0 : Nat) (List.take (ps.length * (2 : Nat)) (List.drop (0 : Nat) (flat ps)))))))).length) (.need ((latV (ptsA ps.length (List.drop (0 : Nat) (List.take (ps.length * (2 : Nat)) (List.drop (0 : Nat) (flat ps)))))).length ≤ (1000000000 : Nat)) (brT (!eqL (ptsA (latV (ptsA ps.length (List.drop 0 (List.take (ps.length * 2) (List.drop 0 (flat ps)))))).length (List.drop 0 (flat (latV (ptsA ps.length (List.drop 0 (List.take (ps.length * 2) (List.drop 0 (flat ps))))))))) (ptsA (latV (ptsA ps.length (List.drop 0 (List.take (ps.length * 2) (List.drop 0 (flat ps)))))).length (List.drop 0 (flat (latV (ptsA ps.length (List.drop 0 (List.take (ps.length * 2) (List.drop 0 (flat ps)))))))))) (.fin (.bool (false)) []) (.need (Lim (latV (ptsA ps.length (List.drop (0 : Nat) (List.take (ps.length * (2 : Nat)) (List.drop (0 : Nat) (flat ps)))))).length) (.need ((0 : Int) ≤ (1 : Int) ∧ (1 : Int) ≤ (1000000000 : Int)) (.need (List.drop (0 : Nat) (marks (1 : Int) ((latV (ptsA ps.length (List.drop (0 : Nat) (List.take (ps.length * (2 : Nat)) (List.drop (0 : Nat) (flat ps)))))).length * (2 : Nat))) = marks (1 : Int) ((latV (ptsA ps.length (List.drop (0 : Nat) (List.take (ps.length * (2 : Nat)) (List.drop (0 : Nat) (flat ps)))))).length * (2 : Nat))) (brT (!1 + (↑((latV (ptsA ps.length (List.drop 0 (List.take (ps.length * 2) (List.drop 0 (flat ps)))))).length * 2) : Int) == 1 + (↑((latV (ptsA ps.length (List.drop 0 (List.take (ps.length * 2) (List.drop 0 (flat ps)))))).length * 2) : Int)) (.fin (.bool (false)) []) (.fin (.bool (true)) [])))))))))))))))))))))))))))))))))))))))))))))) := by kernel_rfl
theorem ExactLatticeInside_res (ps : List Pt) (h : (ps.length : Int) ≤ 9223372036854775807) : Res Try.prog 10 [.row ps.length (.ints (flat ps))] (.bool true) := by
  refine bodyV_res mixed ELy_ok (m := 30) (n := 12) rfl ?_
  rw [tr_exLa]
  simp only [List.drop_zero, flat_all, ptsA_flat, flat_length]
  by_cases hl : (1048576 : Int) - ps.length < 0
  · simp (disch := omega) only [wr]
    simp only [hl, decide_true, brT_t, Tree.ok]
  · have hV := latV_len ps
    have hL : Lim (latV ps).length := Nat.le_trans hV (by decide)
    have hP : Lim ps.length := by unfold Lim; omega
    generalize latV ps = V at *
    have k1 : decide ((1 : Int) + (V.length * 2 : Nat) < 0) = false := decide_eq_false (by omega)
    have k2 : decide ((1 : Int) + (ps.length * 2 : Nat) < 0) = false := decide_eq_false (by omega)
    simp (disch := omega) only [wr]
    simp only [hl, decide_false, brT_f, Tree.ok, beq_self_eq_true, Bool.not_true, eqL, decide_true, k1, k2]
    repeat' (first | exact True.intro | assumption | omega | exact rfl | refine And.intro ?_ ?_)
end Go.Proofs.Ytpjdnplpiamjcaa
