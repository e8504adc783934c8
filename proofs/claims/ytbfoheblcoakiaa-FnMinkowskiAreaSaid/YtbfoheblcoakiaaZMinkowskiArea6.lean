/-
  Texts that the proof needs, merged. Written by an AI agent.
-/
import Derived.Orders
import Derived.Below
import Derived.OrdersIn
import Derived.Deep.LoopGhost
import Derived.WalkKit
import Derived.Laws.CopyRow
import Derived.Laws.AppendOwn
import Derived.Laws.Slices
import Derived.Laws.MakeOwn
import Derived.Test.YtbfoheblcoakiaaRows
import Derived.ProofKit
import Derived.OpenShut
import Derived.Carry
import Derived.IntWalk
import Derived.Test.YtbfoheblcoakiaaProg
import Derived.WalkSpells
import Derived.WalkLawsBesides
import Derived.Lib.Hide
import Derived.Deep.QuietTactic
import Derived.BigQuiet
import Derived.KernelRfl
import Derived.Deep.RegionHeld3
import Derived.LoopTactic
import Derived.Laws.StructEq
import Derived.Laws.Tables
import Derived.RangeFuncNested
import Derived.RangeFuncLeaves
import Derived.Deep.Slices
import Derived.Deep.Fields
import Derived.ChangeSame
import Derived.Deep.DeepCutAuto
import Derived.Shelf.SlSortCmp.WholeK
import Derived.Sort.Grow
import Derived.Shelf.SlSortCmp.NoneTotal
import Derived.Test.YtbfoheblcoakiaaZMinkowskiArea5
namespace Go.Proofs.Ytbfoheblcoakiaa
set_option linter.all false
open Go.RowKit
theorem bnd_someK (x d : Int) : bndI (some (IntKind.i64, x)) d = x := rfl
theorem bnd_noneK (d : Int) : bndI none d = d := rfl
/-- So many sides of a closed path. -/
def sdN (ps : List Pt) (i : Nat) : List Pt := (List.range i).map fun j => dif (nxP ps j) (ps.getD j (0, 0))
theorem sdN_succ (ps : List Pt) (i : Nat) : sdN ps (i + 1) = sdN ps i ++ [dif (nxP ps i) (ps.getD i (0, 0))] := by unfold sdN; rw [List.range_succ, List.map_append]; rfl
theorem sdN_len (ps : List Pt) (i : Nat) : (sdN ps i).length = i := by unfold sdN; simp
noncomputable def gc_sds : Code := (rangesOf (codeOf Try.f68)).getD 0 .skip
def k_sds : Ex → List Nat := keeps [3, 7] [] [2]
def s_sds (ps : List Pt) : Nat → St := fun i => ⟨[topV, topV, topV, .pointer (some ⟨1, 0, none⟩), topV, topV, topV, .func (.func 84) #[] #[.pointer (some ⟨2, 0, none⟩)], topV, topV, topV, topV, topV, topV, topV, topV, topV, topV, topV], [some ⟨.view, .ints (flat ps)⟩, some ⟨.box, .vals [.slice (some ⟨3, 0, none⟩) i i]⟩, some ⟨.view, .vals [.slice (some ⟨0, 0, none⟩) ps.length ps.length]⟩, some ⟨.row 32 2, .ints (flat (sdN ps i))⟩]⟩
def g_sds (ps : List Pt) : Nat → Prop := fun i => i ≤ ps.length
def re_sds (ps : List Pt) : Ex := .normal
def rs_sds (ps : List Pt) : St := ⟨[topV, topV, topV, .pointer (some ⟨1, 0, none⟩), topV, topV, topV, topV, topV, topV, topV, topV, topV, topV, topV, topV, topV, topV, topV], [some ⟨.view, .ints (flat ps)⟩, some ⟨.box, .vals [.slice (some ⟨3, 0, none⟩) ps.length ps.length]⟩, some ⟨.view, .vals [.slice (some ⟨0, 0, none⟩) ps.length ps.length]⟩, some ⟨.row 32 2, .ints (flat (sdN ps ps.length))⟩]⟩
set_option maxRecDepth 100000 in
theorem tr_sds (ps : List Pt) (i : Nat) : bodyR Try.prog EGa 30 12 noL noR (asgOf gc_sds) (bodOf gc_sds) ([8, 9].zip (encE ps i)) k_sds 16 (s_sds ps i) = .need ((i + (1 : Nat)) * (16 : Nat) ≤ (140737488355328 : Nat) ∧ i + (1 : Nat) ≤ (1000000 : Nat)) (.need ((0 : Nat) + i * (2 : Nat) ≤ (flat (sdN ps i)).length) (.leaf .normal ⟨[topV, topV, topV, .pointer (some ⟨1, 0, none⟩), topV, topV, topV, .func (Fn.func 84) #[] #[.pointer (some ⟨2, 0, none⟩)], topV, topV, topV, topV, topV, topV, topV, topV, topV, topV, topV], [some ⟨.view, .ints (flat ps)⟩, some ⟨.box, .vals [.slice (some ⟨7, 0, none⟩) (i + 1) (i + 1)]⟩, some ⟨.view, .vals [.slice (some ⟨0, 0, none⟩) (ps.length) (ps.length)]⟩, some deadB, some ⟨.box, .vals [.int .i64 ((ps.getD i (0, 0)).1), .int .i64 ((ps.getD i (0, 0)).2), .int .i64 ((ps.getD ((i + 1) % ps.length) (0, 0)).1), .int .i64 ((ps.getD ((i + 1) % ps.length) (0, 0)).2)]⟩, none, some ⟨.row 32 2, .vals [.int .i64 (IntKind.i64.wrap ((ps.getD ((i + 1) % ps.length) (0, 0)).1 - (ps.getD i (0, 0)).1)), .int .i64 (IntKind.i64.wrap ((ps.getD ((i + 1) % ps.length) (0, 0)).2 - (ps.getD i (0, 0)).2))]⟩, some ⟨.row 32 2, .ints (List.take (i * 2) (List.drop 0 (flat (sdN ps i))) ++ [IntKind.i64.wrap ((ps.getD ((i + 1) % ps.length) (0, 0)).1 - (ps.getD i (0, 0)).1), IntKind.i64.wrap ((ps.getD ((i + 1) % ps.length) (0, 0)).2 - (ps.getD i (0, 0)).2)])⟩]⟩)) := by kernel_rfl
/-- A round of this loop. -/
def Round_sds (ps : List Pt) : Prop := ∀ i : Nat, g_sds ps i → i < (ps).length → (bodyR Try.prog EGa 30 12 noL noR (asgOf gc_sds) (bodOf gc_sds) ([8, 9].zip (encE ps i)) k_sds 16 (s_sds ps i)).ok (RoundEndR 3 (s_sds ps) (g_sds ps) (re_sds ps) (rs_sds ps) i) (fun _ _ => False)
set_option maxRecDepth 100000 in
theorem gcode_sds : gc_sds = .rangeFunc (.tmp 7) ([8, 9] : List Nat).toArray (asgOf gc_sds) (bodOf gc_sds) := by kernel_rfl
def e_sds (s : St) (k : Ex → St → Tree) : Option Tree := match Nat.beq s.tmps.length 19, pickL s.tmps [3, 7], s.mem with
  | true, [.pointer (some ⟨1, 0, none⟩), .func (.func 84) ⟨[]⟩ ⟨[.pointer (some ⟨2, 0, none⟩)]⟩], [some ⟨.view, .ints xs⟩, some ⟨.box, .vals [.slice none 0 0]⟩, some ⟨.box, .vals [.slice (some ⟨0, 0, none⟩) n _]⟩] => some (needs [xs.length = n * 2, allV (ptsA n xs) = true, n ≤ 1000] (k .normal ⟨[topV, topV, topV, .pointer (some ⟨1, 0, none⟩), topV, topV, topV, topV, topV, topV, topV, topV, topV, topV, topV, topV, topV, topV, topV], [some ⟨.view, .ints xs⟩, some ⟨.box, .vals [.slice (some ⟨3, 0, none⟩) n n]⟩, some ⟨.view, .vals [.slice (some ⟨0, 0, none⟩) n n]⟩, some ⟨.row 32 2, .ints (flat (sdN (ptsA n xs) n))⟩]⟩))
  | _, _, _ => none
set_option maxRecDepth 100000 in
theorem round_sds (ps : List Pt) (hv : allV ps = true) (h : ps.length ≤ 1000) : Round_sds ps := by
  intro i hg hi
  rw [tr_sds]
  have hg : i ≤ ps.length := hg
  have hl := sdN_len ps i
  have fl := flat_length (sdN ps i)
  have fk : List.take (i * 2) (List.drop 0 (flat (sdN ps i))) = flat (sdN ps i) := by rw [List.drop_zero]; exact List.take_of_length_le (by omega)
  have b1 := allV_gt hv hi
  have b2 := allV_gt hv (nx_lt hi)
  have sn : flat (sdN ps i) ++ [(ps.getD ((i + 1) % ps.length) (0, 0)).1 - (ps.getD i (0, 0)).1, (ps.getD ((i + 1) % ps.length) (0, 0)).2 - (ps.getD i (0, 0)).2] = flat (sdN ps (i + 1)) := by rw [sdN_succ, flat_snoc]; rfl
  simp (disch := omega) only [wr]
  rw [fk, sn]
  refine ⟨by omega, by omega, ?_, [some 7], ?_⟩
  · show i + 1 ≤ ps.length; omega
  · unfold s_sds
    refine ⟨rfl, rfl, ?_, ?_⟩ <;> repeat' (first | exact True.intro | exact rfl | exact wv_top _ _ | exact fun _ => rfl | (simp; done) | refine And.intro ?_ ?_)
set_option maxRecDepth 100000 in
theorem lg_sds : RangeE Try.prog e_sds gc_sds := by
  intro s k t F H hlt ht
  unfold e_sds at hlt
  split at hlt
  rotate_left
  · cases hlt
  rename_i hlen hpick hmem
  obtain ⟨tmps, mem⟩ := s
  simp only at hlen hpick hmem
  subst hmem
  obtain rfl := Option.some.inj hlt
  obtain ⟨⟨h1, h2, h3, _⟩, ht2⟩ := needs_ok ht
  clear ht hlt
  obtain ⟨ps, rfl, rfl⟩ := even_flat h1
  rw [ptsA_flat] at ht2 h2
  refine ⟨re_sds ps, rs_sds ps, ht2, ?_⟩
  rw [gcode_sds]
  refine range_det (enc := encE ps) (len := (ps).length) (St_of := s_sds ps) (Good := g_sds ps) (N := 3) (M := 16) (Kn := [0, 2]) (cap := [.pointer (some ⟨2, 0, none⟩)]) (kf := (k_sds .normal)) (π := [none]) (fun _ => rfl) (fun _ => rfl) (fun i hg hlt => bodyR_ok mixed EGa_ok (noL_good) (noR_good) (round_sds ps h2 h3 i hg hlt)) (entersB_res (by kernel_rfl)).1 rfl ?_ (fun ρ0 ρ B w lb h1 h2 => ed_iter ps (by omega) (s := (s_sds ps 0).fs) (nb := 2) (nr := 0) (c := (ps).length) (Kn := [0, 2]) rfl rfl (by decide) (by decide) ρ0 ρ B w lb h1 h2) ?_ rfl (by decide) ?_ (Nat.zero_le _)
  · intro n hn b hb
    simp only [List.mem_cons, List.not_mem_nil, or_false] at hn
    rcases hn with rfl | rfl <;> (obtain rfl := Option.some.inj hb; rfl)
  · exact fun _ => ⟨rfl, [some 3], by refine ⟨rfl, rfl, ?_, ?_⟩ <;> repeat' (first | exact True.intro | exact rfl | exact wv_top _ _ | exact fun _ => rfl | (simp; done) | refine And.intro ?_ ?_)⟩
  · refine ⟨rfl, rfl, ?_, wvs_spread' [3, 7] hlen rfl ?_⟩
    · repeat' (first | exact True.intro | exact rfl | exact wv_top _ _ | exact fun _ => rfl | assumption | exact Eq.symm (by assumption) | exact vI0 rfl | refine And.intro ?_ ?_)
    · rw [show pickL (viewS [0, 2] ⟨tmps, _⟩).tmps [3, 7] = pickL tmps [3, 7] from rfl, hpick]
      repeat' (first | exact True.intro | exact rfl | exact wv_top _ _ | exact fun _ => rfl | assumption | exact Eq.symm (by assumption) | exact vI0 rfl | refine And.intro ?_ ?_)
/-- The merge of two lists of sides, as far as both last: how many of each, and what is merged. -/
def mgE : Nat → Nat → Nat → List Pt → List Pt → List Pt → Nat × Nat × List Pt
  | 0, i, j, o, _, _ => (i, j, o)
  | f + 1, i, j, o, U, V => if i < U.length ∧ j < V.length then
      (if 0 < cr2 (U.getD i (0, 0)) (V.getD j (0, 0)) then mgE f (i + 1) j (o ++ [U.getD i (0, 0)]) U V
       else if cr2 (U.getD i (0, 0)) (V.getD j (0, 0)) < 0 then mgE f i (j + 1) (o ++ [V.getD j (0, 0)]) U V
       else mgE f (i + 1) (j + 1) (o ++ [adP (U.getD i (0, 0)) (V.getD j (0, 0))]) U V) else (i, j, o)
def mgT (us vs : List Pt) : Nat × Nat × List Pt := mgE (us.length + vs.length) 0 0 [] us vs
noncomputable def c_mgs : Code := ((loopsOf (codeOf Try.f67))[0]?).getD .skip
def k_mgs : Ex → List Nat := keeps [0, 1, 5] [(0, [0, 1, 5])] [4]
def s_mgs (us vs : List Pt) : Nat × Nat × Nat × (List Pt) → St := fun (f, i, j, o) => ⟨(.slice (some ⟨0, i * 2, none⟩) (us.length - i) (us.length - i) :: .slice (some ⟨1, j * 2, none⟩) (vs.length - j) (vs.length - j) :: topV :: topV :: topV :: .slice (some ⟨2, 0, none⟩) o.length o.length :: topV :: topV :: topV :: topV :: topV :: topV :: topV :: topV :: topV :: topV :: topV :: topV :: topV :: topV :: topV :: topV :: topV :: topV :: topV :: topV :: topV :: topV :: topV :: topV :: topV :: topV :: topV :: topV :: topV :: topV :: topV :: topV :: topV :: topV :: topV :: topV :: topV :: topV :: topV :: topV :: topV :: topV :: topV :: topV :: []), [some ⟨.view, .ints (flat us)⟩, some ⟨.view, .ints (flat vs)⟩, some ⟨.row 32 2, .ints (flat o)⟩]⟩
def re_mgs : Nat × Nat × Nat × (List Pt) → Ex := fun _ => .exit 0
def rs_mgs (us vs : List Pt) : Nat × Nat × Nat × (List Pt) → St := fun (f, i, j, o) => ⟨(.slice (some ⟨0, (mgT us vs).1 * 2, none⟩) (us.length - (mgT us vs).1) (us.length - (mgT us vs).1) :: .slice (some ⟨1, (mgT us vs).2.1 * 2, none⟩) (vs.length - (mgT us vs).2.1) (vs.length - (mgT us vs).2.1) :: topV :: topV :: topV :: .slice (some ⟨2, 0, none⟩) (mgT us vs).2.2.length (mgT us vs).2.2.length :: topV :: topV :: topV :: topV :: topV :: topV :: topV :: topV :: topV :: topV :: topV :: topV :: topV :: topV :: topV :: topV :: topV :: topV :: topV :: topV :: topV :: topV :: topV :: topV :: topV :: topV :: topV :: topV :: topV :: topV :: topV :: topV :: topV :: topV :: topV :: topV :: topV :: topV :: topV :: topV :: topV :: topV :: topV :: topV :: []), [some ⟨.view, .ints (flat us)⟩, some ⟨.view, .ints (flat vs)⟩, some ⟨.row 32 2, .ints (flat (mgT us vs).2.2)⟩]⟩
set_option maxRecDepth 100000 in
theorem tr_mgs (us vs : List Pt) (f i j : Nat) (o : List Pt) : bodyL Try.prog EGa 30 12 noL 1 c_mgs k_mgs 16 (s_mgs us vs (f, i, j, o)) = brT (decide (0 < (↑(us.length - i) : Int))) (brT (decide (0 < (↑(vs.length - j) : Int))) (.need ((0 : Int) ≤ (0 : Int) ∧ (0 : Int) < (↑(us.length - i) : Int)) (.need (i * (2 : Nat) + (0 : Nat) + (2 : Nat) ≤ (flat us).length) (.need ((0 : Int) ≤ (0 : Int) ∧ (0 : Int) < (↑(vs.length - j) : Int)) (.need (j * (2 : Nat) + (0 : Nat) + (2 : Nat) ≤ (flat vs).length) (brT (decide (0 ≤ IntKind.i64.wrap (IntKind.i64.wrap ((flat us).getD (i * 2 + 0) 0 * (flat vs).getD (j * 2 + 0 + 1) 0) - IntKind.i64.wrap ((flat us).getD (i * 2 + 0 + 1) 0 * (flat vs).getD (j * 2 + 0) 0)))) (.need ((0 : Int) ≤ (0 : Int) ∧ (0 : Int) < (↑(us.length - i) : Int)) (.need (i * (2 : Nat) + (0 : Nat) + (2 : Nat) ≤ (flat us).length) (.need ((0 : Int) ≤ bndI (some (IntKind.i64, (1 : Int))) (0 : Int) ∧ bndI (some (IntKind.i64, (1 : Int))) (0 : Int) ≤ bndI none (↑(us.length - i) : Int) ∧ bndI none (↑(us.length - i) : Int) ≤ (↑(us.length - i) : Int)) (brT (decide (IntKind.i64.wrap (IntKind.i64.wrap ((flat us).getD (i * 2 + 0) 0 * (flat vs).getD (j * 2 + 0 + 1) 0) - IntKind.i64.wrap ((flat us).getD (i * 2 + 0 + 1) 0 * (flat vs).getD (j * 2 + 0) 0)) ≤ 0)) (.need ((0 : Int) ≤ (0 : Int) ∧ (0 : Int) < (↑(vs.length - j) : Int)) (.need (j * (2 : Nat) + (0 : Nat) + (2 : Nat) ≤ (flat vs).length) (.need ((0 : Int) ≤ bndI (some (IntKind.i64, (1 : Int))) (0 : Int) ∧ bndI (some (IntKind.i64, (1 : Int))) (0 : Int) ≤ bndI none (↑(vs.length - j) : Int) ∧ bndI none (↑(vs.length - j) : Int) ≤ (↑(vs.length - j) : Int)) (.need ((o.length + (1 : Nat)) * (16 : Nat) ≤ (140737488355328 : Nat) ∧ o.length + (1 : Nat) ≤ (1000000 : Nat)) (.need ((0 : Nat) + o.length * (2 : Nat) ≤ (flat o).length) (.leaf .normal ⟨(.slice (some ⟨0, i * 2 + 2, none⟩) ((bndI none (↑(us.length - i) : Int)).toNat - 1) ((bndI none (↑(us.length - i) : Int)).toNat - 1) :: .slice (some ⟨1, j * 2 + 2, none⟩) ((bndI none (↑(vs.length - j) : Int)).toNat - 1) ((bndI none (↑(vs.length - j) : Int)).toNat - 1) :: topV :: topV :: topV :: .slice (some ⟨8, 0, none⟩) (o.length + 1) (o.length + 1) :: topV :: topV :: topV :: topV :: topV :: topV :: topV :: topV :: topV :: topV :: topV :: topV :: topV :: topV :: topV :: topV :: topV :: topV :: topV :: topV :: topV :: topV :: topV :: topV :: topV :: topV :: topV :: topV :: topV :: topV :: topV :: topV :: topV :: topV :: topV :: topV :: topV :: topV :: topV :: topV :: topV :: topV :: topV :: topV :: []), [some ⟨.view, .ints (flat us)⟩, some ⟨.view, .ints (flat vs)⟩, some deadB, none, some ⟨.box, .vals [.int .i64 (IntKind.i64.wrap (IntKind.i64.wrap (0 + (flat us).getD (i * 2 + 0) 0) + (flat vs).getD (j * 2 + 0) 0)), .int .i64 (IntKind.i64.wrap (IntKind.i64.wrap (0 + (flat us).getD (i * 2 + 0 + 1) 0) + (flat vs).getD (j * 2 + 0 + 1) 0))]⟩, none, none, some ⟨.row 32 2, .vals [.int .i64 (IntKind.i64.wrap (IntKind.i64.wrap (0 + (flat us).getD (i * 2 + 0) 0) + (flat vs).getD (j * 2 + 0) 0)), .int .i64 (IntKind.i64.wrap (IntKind.i64.wrap (0 + (flat us).getD (i * 2 + 0 + 1) 0) + (flat vs).getD (j * 2 + 0 + 1) 0))]⟩, some ⟨.row 32 2, .ints (List.take (o.length * 2) (List.drop 0 (flat o)) ++ [IntKind.i64.wrap (IntKind.i64.wrap (0 + (flat us).getD (i * 2 + 0) 0) + (flat vs).getD (j * 2 + 0) 0), IntKind.i64.wrap (IntKind.i64.wrap (0 + (flat us).getD (i * 2 + 0 + 1) 0) + (flat vs).getD (j * 2 + 0 + 1) 0)])⟩]⟩)))))) (.need ((o.length + (1 : Nat)) * (16 : Nat) ≤ (140737488355328 : Nat) ∧ o.length + (1 : Nat) ≤ (1000000 : Nat)) (.need ((0 : Nat) + o.length * (2 : Nat) ≤ (flat o).length) (.leaf .normal ⟨(.slice (some ⟨0, i * 2 + 2, none⟩) ((bndI none (↑(us.length - i) : Int)).toNat - 1) ((bndI none (↑(us.length - i) : Int)).toNat - 1) :: .slice (some ⟨1, j * 2, none⟩) (vs.length - j) (vs.length - j) :: topV :: topV :: topV :: .slice (some ⟨7, 0, none⟩) (o.length + 1) (o.length + 1) :: topV :: topV :: topV :: topV :: topV :: topV :: topV :: topV :: topV :: topV :: topV :: topV :: topV :: topV :: topV :: topV :: topV :: topV :: topV :: topV :: topV :: topV :: topV :: topV :: topV :: topV :: topV :: topV :: topV :: topV :: topV :: topV :: topV :: topV :: topV :: topV :: topV :: topV :: topV :: topV :: topV :: topV :: topV :: topV :: []), [some ⟨.view, .ints (flat us)⟩, some ⟨.view, .ints (flat vs)⟩, some deadB, none, some ⟨.box, .vals [.int .i64 (IntKind.i64.wrap (0 + (flat us).getD (i * 2 + 0) 0)), .int .i64 (IntKind.i64.wrap (0 + (flat us).getD (i * 2 + 0 + 1) 0))]⟩, none, some ⟨.row 32 2, .vals [.int .i64 (IntKind.i64.wrap (0 + (flat us).getD (i * 2 + 0) 0)), .int .i64 (IntKind.i64.wrap (0 + (flat us).getD (i * 2 + 0 + 1) 0))]⟩, some ⟨.row 32 2, .ints (List.take (o.length * 2) (List.drop 0 (flat o)) ++ [IntKind.i64.wrap (0 + (flat us).getD (i * 2 + 0) 0), IntKind.i64.wrap (0 + (flat us).getD (i * 2 + 0 + 1) 0)])⟩]⟩))))))) (brT (decide (IntKind.i64.wrap (IntKind.i64.wrap ((flat us).getD (i * 2 + 0) 0 * (flat vs).getD (j * 2 + 0 + 1) 0) - IntKind.i64.wrap ((flat us).getD (i * 2 + 0 + 1) 0 * (flat vs).getD (j * 2 + 0) 0)) ≤ 0)) (.need ((0 : Int) ≤ (0 : Int) ∧ (0 : Int) < (↑(vs.length - j) : Int)) (.need (j * (2 : Nat) + (0 : Nat) + (2 : Nat) ≤ (flat vs).length) (.need ((0 : Int) ≤ bndI (some (IntKind.i64, (1 : Int))) (0 : Int) ∧ bndI (some (IntKind.i64, (1 : Int))) (0 : Int) ≤ bndI none (↑(vs.length - j) : Int) ∧ bndI none (↑(vs.length - j) : Int) ≤ (↑(vs.length - j) : Int)) (.need ((o.length + (1 : Nat)) * (16 : Nat) ≤ (140737488355328 : Nat) ∧ o.length + (1 : Nat) ≤ (1000000 : Nat)) (.need ((0 : Nat) + o.length * (2 : Nat) ≤ (flat o).length) (.leaf .normal ⟨(.slice (some ⟨0, i * 2, none⟩) (us.length - i) (us.length - i) :: .slice (some ⟨1, j * 2 + 2, none⟩) ((bndI none (↑(vs.length - j) : Int)).toNat - 1) ((bndI none (↑(vs.length - j) : Int)).toNat - 1) :: topV :: topV :: topV :: .slice (some ⟨7, 0, none⟩) (o.length + 1) (o.length + 1) :: topV :: topV :: topV :: topV :: topV :: topV :: topV :: topV :: topV :: topV :: topV :: topV :: topV :: topV :: topV :: topV :: topV :: topV :: topV :: topV :: topV :: topV :: topV :: topV :: topV :: topV :: topV :: topV :: topV :: topV :: topV :: topV :: topV :: topV :: topV :: topV :: topV :: topV :: topV :: topV :: topV :: topV :: topV :: topV :: []), [some ⟨.view, .ints (flat us)⟩, some ⟨.view, .ints (flat vs)⟩, some deadB, none, some ⟨.box, .vals [.int .i64 (IntKind.i64.wrap (0 + (flat vs).getD (j * 2 + 0) 0)), .int .i64 (IntKind.i64.wrap (0 + (flat vs).getD (j * 2 + 0 + 1) 0))]⟩, none, some ⟨.row 32 2, .vals [.int .i64 (IntKind.i64.wrap (0 + (flat vs).getD (j * 2 + 0) 0)), .int .i64 (IntKind.i64.wrap (0 + (flat vs).getD (j * 2 + 0 + 1) 0))]⟩, some ⟨.row 32 2, .ints (List.take (o.length * 2) (List.drop 0 (flat o)) ++ [IntKind.i64.wrap (0 + (flat vs).getD (j * 2 + 0) 0), IntKind.i64.wrap (0 + (flat vs).getD (j * 2 + 0 + 1) 0)])⟩]⟩)))))) (.need ((o.length + (1 : Nat)) * (16 : Nat) ≤ (140737488355328 : Nat) ∧ o.length + (1 : Nat) ≤ (1000000 : Nat)) (.need ((0 : Nat) + o.length * (2 : Nat) ≤ (flat o).length) (.leaf .normal ⟨(.slice (some ⟨0, i * 2, none⟩) (us.length - i) (us.length - i) :: .slice (some ⟨1, j * 2, none⟩) (vs.length - j) (vs.length - j) :: topV :: topV :: topV :: .slice (some ⟨6, 0, none⟩) (o.length + 1) (o.length + 1) :: topV :: topV :: topV :: topV :: topV :: topV :: topV :: topV :: topV :: topV :: topV :: topV :: topV :: topV :: topV :: topV :: topV :: topV :: topV :: topV :: topV :: topV :: topV :: topV :: topV :: topV :: topV :: topV :: topV :: topV :: topV :: topV :: topV :: topV :: topV :: topV :: topV :: topV :: topV :: topV :: topV :: topV :: topV :: topV :: []), [some ⟨.view, .ints (flat us)⟩, some ⟨.view, .ints (flat vs)⟩, some deadB, none, some ⟨.box, .vals [.int .i64 (0), .int .i64 (0)]⟩, some ⟨.row 32 2, .vals [.int .i64 (0), .int .i64 (0)]⟩, some ⟨.row 32 2, .ints (List.take (o.length * 2) (List.drop 0 (flat o)) ++ [0, 0])⟩]⟩))))))))) (.leaf (.exit 0) ⟨(.slice (some ⟨0, i * 2, none⟩) (us.length - i) (us.length - i) :: .slice (some ⟨1, j * 2, none⟩) (vs.length - j) (vs.length - j) :: topV :: topV :: topV :: .slice (some ⟨2, 0, none⟩) (o.length) (o.length) :: topV :: topV :: topV :: topV :: topV :: topV :: topV :: topV :: topV :: topV :: topV :: topV :: topV :: topV :: topV :: topV :: topV :: topV :: topV :: topV :: topV :: topV :: topV :: topV :: topV :: topV :: topV :: topV :: topV :: topV :: topV :: topV :: topV :: topV :: topV :: topV :: topV :: topV :: topV :: topV :: topV :: topV :: topV :: topV :: []), [some ⟨.view, .ints (flat us)⟩, some ⟨.view, .ints (flat vs)⟩, some ⟨.row 32 2, .ints (flat o)⟩]⟩)) (.leaf (.exit 0) ⟨(.slice (some ⟨0, i * 2, none⟩) (us.length - i) (us.length - i) :: .slice (some ⟨1, j * 2, none⟩) (vs.length - j) (vs.length - j) :: topV :: topV :: topV :: .slice (some ⟨2, 0, none⟩) (o.length) (o.length) :: topV :: topV :: topV :: topV :: topV :: topV :: topV :: topV :: topV :: topV :: topV :: topV :: topV :: topV :: topV :: topV :: topV :: topV :: topV :: topV :: topV :: topV :: topV :: topV :: topV :: topV :: topV :: topV :: topV :: topV :: topV :: topV :: topV :: topV :: topV :: topV :: topV :: topV :: topV :: topV :: topV :: topV :: topV :: topV :: []), [some ⟨.view, .ints (flat us)⟩, some ⟨.view, .ints (flat vs)⟩, some ⟨.row 32 2, .ints (flat o)⟩]⟩) := by kernel_rfl
set_option maxRecDepth 100000 in
theorem nl_mgs : loopsOf c_mgs = [] := by kernel_rfl
def inv_mgs (us vs : List Pt) : Nat × Nat × Nat × (List Pt) → Prop := fun (f, i, j, o) => mgE f i j o us vs = mgT us vs ∧ us.length + vs.length ≤ f + i + j ∧ i ≤ us.length ∧ j ≤ vs.length ∧ o.length ≤ i + j
def me_mgs (us vs : List Pt) : Nat × Nat × Nat × (List Pt) → Nat := fun (f, i, j, o) => us.length + vs.length - i - j
/-- A round of this loop. -/
def Round_mgs (us vs : List Pt) : Prop := ∀ xx : Nat × Nat × Nat × (List Pt), inv_mgs us vs xx → (bodyL Try.prog EGa 30 12 noL 1 c_mgs k_mgs 16 (s_mgs us vs xx)).ok (RoundEnd 2 (s_mgs us vs) (inv_mgs us vs) (me_mgs us vs) re_mgs (rs_mgs us vs) xx) (fun _ _ => False)
def e_mgs (s : St) (k : Ex → St → Tree) : Option Tree := match Nat.beq s.tmps.length 50, pickL s.tmps [0, 1, 5], s.mem with
  | true, [.slice (some ⟨0, 0, none⟩) n _, .slice (some ⟨1, 0, none⟩) m _, .slice none 0 0], [some ⟨.view, .ints xs⟩, some ⟨.view, .ints ys⟩] => some (needs [xs.length = n * 2, ys.length = m * 2, allW (ptsA n xs) = true, allW (ptsA m ys) = true, n + m ≤ 1000] (k (.exit 0) ⟨(.slice (some ⟨0, (mgT (ptsA n xs) (ptsA m ys)).1 * 2, none⟩) (n - (mgT (ptsA n xs) (ptsA m ys)).1) (n - (mgT (ptsA n xs) (ptsA m ys)).1) :: .slice (some ⟨1, (mgT (ptsA n xs) (ptsA m ys)).2.1 * 2, none⟩) (m - (mgT (ptsA n xs) (ptsA m ys)).2.1) (m - (mgT (ptsA n xs) (ptsA m ys)).2.1) :: topV :: topV :: topV :: .slice (some ⟨2, 0, none⟩) (mgT (ptsA n xs) (ptsA m ys)).2.2.length (mgT (ptsA n xs) (ptsA m ys)).2.2.length :: topV :: topV :: topV :: topV :: topV :: topV :: topV :: topV :: topV :: topV :: topV :: topV :: topV :: topV :: topV :: topV :: topV :: topV :: topV :: topV :: topV :: topV :: topV :: topV :: topV :: topV :: topV :: topV :: topV :: topV :: topV :: topV :: topV :: topV :: topV :: topV :: topV :: topV :: topV :: topV :: topV :: topV :: topV :: topV :: []), [some ⟨.view, .ints xs⟩, some ⟨.view, .ints ys⟩, some ⟨.row 32 2, .ints (flat (mgT (ptsA n xs) (ptsA m ys)).2.2)⟩]⟩))
  | _, _, _ => none
set_option maxRecDepth 100000 in
theorem round_mgs (us vs : List Pt) (ha : allW us = true) (hb : allW vs = true) (h : us.length + vs.length ≤ 1000) : Round_mgs us vs := by
  rintro ⟨f, i, j, o⟩ ⟨h1, h2, h3, h4, h5⟩
  rw [tr_mgs]
  simp only [bnd_someK, bnd_noneK, Int.toNat_natCast, Nat.add_zero, Nat.zero_add, flat_get0, flat_get1, flat_length, List.drop_zero, flat_take, List.take_length]
  have fin : ¬ (i < us.length ∧ j < vs.length) → mgT us vs = (i, j, o) := fun c => by
    rw [← h1]
    cases f
    · rfl
    · rw [mgE, if_neg c]
  refine brT_ok.2 ⟨fun c1 => brT_ok.2 ⟨fun c2 => ?_, fun c2 => ?_⟩, fun c1 => ?_⟩
  · have c1 := of_decide_eq_true c1
    have c2 := of_decide_eq_true c2
    have hi : i < us.length := by omega
    have hj : j < vs.length := by omega
    obtain ⟨f, rfl⟩ : ∃ g, f = g + 1 := ⟨f - 1, by omega⟩
    rw [mgE, if_pos ⟨hi, hj⟩] at h1
    have hu := pt2_iff.1 (allW_at ha hi)
    have hv := pt2_iff.1 (allW_at hb hj)
    have p1 := mul_bd (x := (us.getD i (0, 0)).1) (y := (vs.getD j (0, 0)).2) 2000 2000 (by omega) (by omega)
    have p2 := mul_bd (x := (us.getD i (0, 0)).2) (y := (vs.getD j (0, 0)).1) 2000 2000 (by omega) (by omega)
    simp (disch := omega) only [wr]
    have e1 : i * 2 + 2 = (i + 1) * 2 := by omega
    have e2 : j * 2 + 2 = (j + 1) * 2 := by omega
    simp only [e1, e2, Nat.sub_sub, Int.zero_add]
    have ec : (us.getD i (0, 0)).1 * (vs.getD j (0, 0)).2 - (us.getD i (0, 0)).2 * (vs.getD j (0, 0)).1 = cr2 (us.getD i (0, 0)) (vs.getD j (0, 0)) := rfl
    rw [ec]
    generalize hU : us.getD i (0, 0) = u at *
    generalize hV : vs.getD j (0, 0) = v at *
    have sn1 : flat o ++ [u.1, u.2] = flat (o ++ [u]) := flat_snoc o u.1 u.2
    have sn2 : flat o ++ [v.1, v.2] = flat (o ++ [v]) := flat_snoc o v.1 v.2
    have sn3 : flat o ++ [u.1 + v.1, u.2 + v.2] = flat (o ++ [adP u v]) := flat_snoc o (adP u v).1 (adP u v).2
    rw [sn1, sn2, sn3]
    refine ⟨by omega, by omega, by omega, by omega, brT_ok.2 ⟨fun q => ⟨by omega, by omega, by omega, brT_ok.2 ⟨fun r => ?_, fun r => ?_⟩⟩, fun q => brT_ok.2 ⟨fun r => ?_, fun r => ?_⟩⟩⟩
    · have q := of_decide_eq_true q
      have r := of_decide_eq_true r
      rw [if_neg (by omega), if_neg (by omega)] at h1
      refine ⟨by omega, by omega, by omega, by omega, by omega, (f, i + 1, j + 1, o ++ [adP u v]), [some 8], ⟨h1, by omega, by omega, by omega, by simp; omega⟩, ?_, rfl, rfl, ?_⟩
      · show us.length + vs.length - (i + 1) - (j + 1) < us.length + vs.length - i - j; omega
      · repeat' (first | exact True.intro | exact rfl | exact wv_top _ _ | exact fun _ => rfl | (simp; done) | refine And.intro ?_ ?_)
    · have q := of_decide_eq_true q
      have r := of_decide_eq_false r
      rw [if_pos (by omega)] at h1
      refine ⟨by omega, by omega, (f, i + 1, j, o ++ [u]), [some 7], ⟨h1, by omega, by omega, by omega, by simp; omega⟩, ?_, rfl, rfl, ?_⟩
      · show us.length + vs.length - (i + 1) - j < us.length + vs.length - i - j; omega
      · repeat' (first | exact True.intro | exact rfl | exact wv_top _ _ | exact fun _ => rfl | (simp; done) | refine And.intro ?_ ?_)
    · have q := of_decide_eq_false q
      have r := of_decide_eq_true r
      rw [if_neg (by omega), if_pos (by omega)] at h1
      refine ⟨by omega, by omega, by omega, by omega, by omega, (f, i, j + 1, o ++ [v]), [some 7], ⟨h1, by omega, by omega, by omega, by simp; omega⟩, ?_, rfl, rfl, ?_⟩
      · show us.length + vs.length - i - (j + 1) < us.length + vs.length - i - j; omega
      · repeat' (first | exact True.intro | exact rfl | exact wv_top _ _ | exact fun _ => rfl | (simp; done) | refine And.intro ?_ ?_)
    · have q := of_decide_eq_false q
      have r := of_decide_eq_false r
      omega
  · have c2 := of_decide_eq_false c2
    have e := fin (by omega)
    refine ⟨rfl, [some 2], ?_⟩
    simp only [rs_mgs, e]
    repeat' (first | exact True.intro | exact rfl | exact wv_top _ _ | exact fun _ => rfl | (simp; done) | refine And.intro ?_ ?_)
  · have c1 := of_decide_eq_false c1
    have e := fin (by omega)
    refine ⟨rfl, [some 2], ?_⟩
    simp only [rs_mgs, e]
    repeat' (first | exact True.intro | exact rfl | exact wv_top _ _ | exact fun _ => rfl | (simp; done) | refine And.intro ?_ ?_)
set_option maxRecDepth 100000 in
theorem lg_mgs : LoopE Try.prog e_mgs c_mgs := by
  intro s k t F H hlt ht
  unfold e_mgs at hlt
  split at hlt
  rotate_left
  · cases hlt
  rename_i hlen hpick hmem
  obtain ⟨tmps, mem⟩ := s
  simp only at hlen hpick hmem
  subst hmem
  obtain rfl := Option.some.inj hlt
  obtain ⟨⟨h1, h2, h3, h4, h5, _⟩, ht2⟩ := needs_ok ht
  clear ht hlt
  obtain ⟨us, rfl, rfl⟩ := even_flat h1
  obtain ⟨vs, rfl, rfl⟩ := even_flat h2
  rw [ptsA_flat] at h3 h4
  simp only [ptsA_flat] at ht2
  refine ⟨_, _, ht2, loop_run2 mixed EGa_ok (s_mgs us vs) (inv_mgs us vs) (me_mgs us vs) re_mgs (rs_mgs us vs) k_mgs (fun _ => rfl) (noLoops nl_mgs) (round_mgs us vs h3 h4 h5) (x := (us.length + vs.length, 0, 0, [])) ⟨rfl, by omega, Nat.zero_le _, Nat.zero_le _, Nat.le_refl _⟩ (π := [none]) rfl ?_⟩
  refine ⟨rfl, rfl, ?_, wvs_spread' [0, 1, 5] hlen rfl ?_⟩
  · repeat' (first | exact True.intro | exact rfl | exact wv_top _ _ | exact fun _ => rfl | assumption | exact Eq.symm (by assumption) | exact vI0 rfl | refine And.intro ?_ ?_)
  · rw [hpick]
    repeat' (first | exact True.intro | exact rfl | exact wv_top _ _ | exact fun _ => rfl | assumption | exact Eq.symm (by assumption) | exact vI0 rfl | refine And.intro ?_ ?_)
end Go.Proofs.Ytbfoheblcoakiaa
namespace Go.Proofs.Ytbfoheblcoakiaa
set_option linter.all false
open Go.RowKit
set_option maxRecDepth 100000 in
theorem u_pts : Try.prog.underlying 23 = some (.slice 32) := by kernel_rfl
theorem nilNil_run (t e : TypeId) (w : World) (c c' : Nat) (h : Try.prog.underlying t = some (.slice e)) : (binOp .eql t (.slice none 0 c) (.slice none 0 c')).run Try.prog w = .ok (.bool true) w := by
  have he : ∀ d, (Op.equalIn (d + 1) t (.slice none 0 c) (.slice none 0 c')).run Try.prog w = .ok true w := fun d => by simp [Op.equalIn, run_underlying h]
  simp only [binOp]
  simp [Op.equal, Op.maxDepth, he 9999]
set_option maxRecDepth 100000 in
theorem cln_zero (ad : Option Addr) (c : Nat) (w : World) : Calls Try.prog 73 #[.slice ad 0 c] w fun e w' => ∃ v' p, e = .returned v' ∧ Below w.heap.size w w' ∧
    ∀ (ρ : Nat → Option Pl) (name : Nat), ρ name = some p → VR ρ (.slice (some ⟨name, 0, none⟩) 0 0) v' ∧ BlkOk ρ (fun k => k < w.heap.size) w' name ⟨.row 32 2, .ints []⟩ := by
  cases ad with
  | none =>
    have hn := fun W => nilNil_run 23 32 W c 0 u_pts
    go_enter Try.func73, Try.ntmps73
    go_wp2
    go_ret
    exact ⟨_, (0, 1, some 0), rfl, Below.refl _ _, fun ρ name h => ⟨.nil_ h ⟨rfl, 0, rfl⟩ rfl (fun _ => ⟨rfl, rfl⟩), .inl ⟨_, h, rfl, rfl⟩⟩⟩
  | some a =>
    have hn := fun W => eqNil_run (P := Try.prog) 23 32 a 0 c W u_pts false
    simp only [opB, negB] at hn
    go_enter Try.func73, Try.ntmps73
    go_wp2
    go_ret
    refine ⟨_, (w.heap.size, 0, some 0), rfl, na (nr _) _, fun ρ name h => ⟨.slice (f := 0) h (.inl rfl) (Nat.le_refl _) (fun k hk _ => by simpa using hk), .inr ⟨w.heap.size, 0, h, Nat.lt_irrefl _, #[], heap_alloc_new w _, rfl, fun k v hk => by simp [Blk.cells, Cs.list] at hk⟩⟩⟩
end Go.Proofs.Ytbfoheblcoakiaa
namespace Go.Proofs.Ytbfoheblcoakiaa
set_option linter.all false
open Go.RowKit
set_option maxRecDepth 100000 in
theorem grow_any (n : Int) (h : 0 < n ∧ n ≤ 1000) (w : World) : Calls Try.prog 77 #[.slice none 0 0, .int .i64 n] w fun e w' => ∃ v' p, e = .returned v' ∧ Below w.heap.size w w' ∧
    ∀ (ρ : Nat → Option Pl) (name : Nat), ρ name = some p → VR ρ (.slice (some ⟨name, 0, none⟩) 0 0) v' ∧ BlkOk ρ (fun k => k < w.heap.size) w' name ⟨.row 32 2, .ints []⟩ := by
  have h1 : decide (n < 0) = false := decide_eq_false (by omega)
  have h2 : decide (0 < n) = true := decide_eq_true (by omega)
  have hb : Try.t32.bytes = 16 := rfl
  have hc : Builtin.nextslicecap n.toNat 0 = n.toNat := nextslicecap_zero (by omega)
  have hge : n.toNat ≤ (Question.appendCap n.toNat 0 32).cut (w.tape w.drawn (Question.appendCap n.toNat 0 32)) := grownCap_ge w n.toNat 0 32
  have HG := Lib.hid hge
  clear hge
  go_enter Try.func77, Try.ntmps77
  go_wp2_with fail
  all_goals (try (exfalso; first | omega | (rw [hb] at *; omega) | (rw [hc, hb] at *; omega)))
  have hge := HG.out
  clear HG
  go_ret
  refine ⟨_, rfl, Below.drew (na (nr _) _), w.heap.size, 0, some ((Question.appendCap n.toNat 0 32).cut (w.tape w.drawn (Question.appendCap n.toNat 0 32))), fun ρ name hn => ⟨.slice (f := 0) hn (.inl rfl) (Nat.zero_le _) (fun k hk _ => by simpa using hk), .inr ⟨w.heap.size, _, hn, Nat.lt_irrefl _, _, heap_alloc_new w _, ?_, fun k v hk => by simp [Blk.cells, Cs.list] at hk⟩⟩⟩
  rw [Array.size_append, size_zeroCells, size_zeroCells]
  simp only [List.size_toArray, List.length_cons, List.length_nil]
  omega
set_option maxRecDepth 100000 in
theorem resR_grw (n : Int) (h : 0 < n ∧ n ≤ 1000) : ResR Try.prog 77 [.v (.slice none 0 0), .v (.int .i64 n)] (.slice (some ⟨0, 0, none⟩) 0 0) ⟨.row 32 2, .ints []⟩ := by
  refine ⟨(entersB_res (by kernel_rfl)).1, (entersB_res (by kernel_rfl)).2, rfl, fun d hd => ?_, fun w args hd => ?_⟩
  · rcases List.mem_cons.1 hd with rfl | hd
    · exact rfl
    · rw [List.mem_singleton.1 hd]
      exact rfl
  · obtain ⟨h1, h2⟩ := hd
    obtain ⟨x0, x1, rfl⟩ : ∃ x0 x1, args = #[x0, x1] := by
      have h3 : args.size = 2 := by simpa using h1.symm
      match args, h3 with
      | ⟨[x0, x1]⟩, _ => exact ⟨x0, x1, rfl⟩
    obtain ⟨_, rfl⟩ := h2 0 _ x0 rfl rfl
    obtain ⟨_, rfl⟩ := h2 1 _ x1 rfl rfl
    exact grow_any n h w
end Go.Proofs.Ytbfoheblcoakiaa
namespace Go.Proofs.Ytbfoheblcoakiaa
set_option linter.all false
open Go.Shelf
def sortPt_ren : Go.Shelf.Ren := ⟨fun | 6 => 74 | 15 => 91 | 14 => 90 | 28 => 106 | 29 => 107 | 20 => 98 | 21 => 99 | 22 => 100 | 23 => 101 | 24 => 102 | 25 => 103 | 26 => 104 | 27 => 105 | 46 => 112 | 47 => 113 | 48 => 114 | 49 => 115 | 50 => 116 | 57 => 118 | n => n, fun | 22 => 23 | 24 => 32 | 25 => 71 | 3 => 3 | 39 => 85 | 0 => 0 | 53 => 99 | 55 => 101 | 4 => 4 | 46 => 92 | 45 => 91 | 50 => 96 | 5 => 5 | 9 => 9 | 66 => 104 | 70 => 108 | 76 => 111 | 77 => 112 | n => n, fun | n => n⟩
theorem sortPt : Go.Proofs.SlLaysF0.n6 Try.prog sortPt_ren := {
  mixed := by kernel_rfl
  f6 := ⟨Try.f74.name, by decide, Try.func74.trans (congrArg some (by kernel_rfl))⟩
  f14 := ⟨Try.f90.name, by decide, Try.func90.trans (congrArg some (by kernel_rfl))⟩
  f15 := Try.func91.trans (congrArg some (by kernel_rfl))
  f20 := ⟨Try.f98.name, by decide, Try.func98.trans (congrArg some (by kernel_rfl))⟩
  f21 := ⟨Try.f99.name, by decide, Try.func99.trans (congrArg some (by kernel_rfl))⟩
  f22 := ⟨Try.f100.name, by decide, Try.func100.trans (congrArg some (by kernel_rfl))⟩
  f23 := ⟨Try.f101.name, by decide, Try.func101.trans (congrArg some (by kernel_rfl))⟩
  f24 := ⟨Try.f102.name, by decide, Try.func102.trans (congrArg some (by kernel_rfl))⟩
  f25 := ⟨Try.f103.name, by decide, Try.func103.trans (congrArg some (by kernel_rfl))⟩
  f26 := ⟨Try.f104.name, by decide, Try.func104.trans (congrArg some (by kernel_rfl))⟩
  f27 := ⟨Try.f105.name, by decide, Try.func105.trans (congrArg some (by kernel_rfl))⟩
  f28 := Try.func106.trans (congrArg some (by kernel_rfl))
  f29 := Try.func107.trans (congrArg some (by kernel_rfl))
  f46 := ⟨Try.f112.name, by decide, Try.func112.trans (congrArg some (by kernel_rfl))⟩
  f47 := Try.func113.trans (congrArg some (by kernel_rfl))
  f48 := Try.func114.trans (congrArg some (by kernel_rfl))
  f49 := ⟨Try.f115.name, by decide, Try.func115.trans (congrArg some (by kernel_rfl))⟩
  f50 := ⟨Try.f116.name, by decide, Try.func116.trans (congrArg some (by kernel_rfl))⟩
  f57 := ⟨Try.f118.name, by decide, Try.func118.trans (congrArg some (by kernel_rfl))⟩
  t0 := Try.underlying0
  a0 := Try.isAgg0
  z0 := Try.sizeOf0
  v0 := Try.zeroValue0
  t3 := Try.underlying3
  a3 := Try.isAgg3
  z3 := Try.sizeOf3
  v3 := Try.zeroValue3
  t4 := Try.underlying4
  a4 := Try.isAgg4
  z4 := Try.sizeOf4
  v4 := Try.zeroValue4
  t5 := Try.underlying5
  a5 := Try.isAgg5
  z5 := Try.sizeOf5
  v5 := Try.zeroValue5
  t9 := Try.underlying9
  a9 := Try.isAgg9
  z9 := Try.sizeOf9
  v9 := Try.zeroValue9
  t22 := Try.underlying23
  a22 := Try.isAgg23
  z22 := Try.sizeOf23
  v22 := Try.zeroValue23
  t25 := Try.underlying71
  a25 := Try.isAgg71
  z25 := Try.sizeOf71
  v25 := Try.zeroValue71
  t39 := Try.underlying85
  a39 := Try.isAgg85
  z39 := Try.sizeOf85
  v39 := Try.zeroValue85
  t45 := Try.underlying91
  a45 := Try.isAgg91
  z45 := Try.sizeOf91
  v45 := Try.zeroValue91
  t46 := Try.underlying92
  a46 := Try.isAgg92
  z46 := Try.sizeOf92
  v46 := Try.zeroValue92
  t50 := Try.underlying96
  a50 := Try.isAgg96
  z50 := Try.sizeOf96
  v50 := Try.zeroValue96
  t53 := Try.underlying99
  a53 := Try.isAgg99
  z53 := Try.sizeOf99
  v53 := Try.zeroValue99
  t55 := Try.underlying101
  a55 := Try.isAgg101
  z55 := Try.sizeOf101
  v55 := Try.zeroValue101
  t66 := Try.underlying104
  a66 := Try.isAgg104
  z66 := Try.sizeOf104
  v66 := Try.zeroValue104
  t70 := Try.underlying108
  a70 := Try.isAgg108
  z70 := Try.sizeOf108
  v70 := Try.zeroValue108
  t76 := Try.underlying111
  a76 := Try.isAgg111
  z76 := Try.sizeOf111
  v76 := Try.zeroValue111
  t77 := Try.underlying112
  a77 := Try.isAgg112
  z77 := Try.sizeOf112
  v77 := Try.zeroValue112 }
end Go.Proofs.Ytbfoheblcoakiaa
namespace Go.Proofs.Ytbfoheblcoakiaa
set_option linter.all false
open Go.RowKit Go.Sort
def orI (x y : Int) : Int := if x = 0 then y else x
theorem or2_any (b c : Nat) (x y : Int) (w : World) (h0 : w.cell? ⟨b, 0, none⟩ = some (.int .i64 x)) (h1 : w.cell? ⟨b, 1, none⟩ = some (.int .i64 y)) :
    Calls Try.prog 92 #[.slice (some ⟨b, 0, none⟩) 2 c] w fun e w' => e = .returned (.int .i64 (orI x y)) ∧ w = w' := by
  go_enter Try.func92, Try.ntmps92
  go_wp2
  go_loopw [8] (fun i wr => ∃ k : Nat, k ≤ 2 ∧ i = .int .i64 k ∧ (1 ≤ k → x = 0) ∧ (2 ≤ k → y = 0) ∧ w = wr) (fun i _ => 2 - (intOf i).toNat)
  case atStart => exact ⟨0, Nat.zero_le _, rfl, fun h => by omega, fun h => by omega, rfl⟩
  case round =>
    obtain ⟨k, hk, rfl, hx, hy, rfl⟩ := hrel
    by_cases k0 : k = 0
    · subst k0
      by_cases x0 : x = 0
      · subst x0
        clear hx hy
        go_wp2
        exact ⟨⟨1, by omega, rfl, fun _ => trivial, fun h => by omega, trivial⟩, by simp [intOf]⟩
      · have E := Lib.hid (show orI x y = x by unfold orI; rw [if_neg x0])
        clear hx hy
        go_wp2
        go_ret
        exact ⟨ret_int E.out.symm, rfl⟩
    · by_cases k1 : k = 1
      · subst k1
        obtain rfl := hx (by omega)
        by_cases y0 : y = 0
        · subst y0
          go_wp2
          exact ⟨⟨2, by omega, rfl, fun _ => trivial, fun _ => trivial, trivial⟩, by simp [intOf]⟩
        · have E := Lib.hid (show orI 0 y = y by unfold orI; rw [if_pos rfl])
          go_wp2
          go_ret
          exact ⟨ret_int E.out.symm, rfl⟩
      · obtain rfl : k = 2 := by omega
        obtain rfl := hx (by omega)
        obtain rfl := hy (by omega)
        have E := Lib.hid (show orI 0 0 = 0 by unfold orI; rw [if_pos rfl])
        go_wp2
        go_ret
        exact ⟨ret_int E.out.symm, rfl⟩
/-- Point.compare -/
def cmpQ (a b c d : Int) : Int := orI (sgn (a - c)) (sgn (b - d))
theorem cmpPt_any (a b c d : Int) (w : World) :
    Calls Try.prog 75 #[.agg #[.int .i64 a, .int .i64 b], .agg #[.int .i64 c, .int .i64 d]] w fun e w' => e = .returned (.int .i64 (cmpQ a b c d)) ∧ ∃ q os', w' = grow (w.drewN q) os' := by
  go_enter Try.func75, Try.ntmps75
  go_wp2_with fail
  go_region_held3 (fun w' => w'.cell? ⟨w.heap.size, 0, none⟩ = some (.int .i64 a) ∧ w'.cell? ⟨w.heap.size, 1, none⟩ = some (.int .i64 b) ∧ w'.cell? ⟨w.heap.size + 1, 0, none⟩ = some (.int .i64 c) ∧ w'.cell? ⟨w.heap.size + 1, 1, none⟩ = some (.int .i64 d))
    (first | (simp [*, go_sem]; done))
    (first
      | (go_at_call 85; refine (compare_any _ _ _).mono ?_; rintro e wx ⟨rfl, rfl⟩)
      | (go_at_call 92; refine (or2_any _ _ (sgn (a - c)) (sgn (b - d)) _ (by simp [go_sem]; done) (by simp [go_sem]; done)).mono ?_; rintro e wx ⟨rfl, rfl⟩))
  go_wp2
  go_ret
  refine ⟨rfl, 1, _, (?_ : _ = grow (w.drewN 1) #[.cells #[.int .i64 a, .int .i64 b] 32, .cells #[.int .i64 c, .int .i64 d] 32, .cells #[.int .i64 (sgn (a - c)), .int .i64 (sgn (b - d))] 3])⟩
  rw [alloc_eq_grow, alloc_eq_grow, alloc_eq_grow, grow_grow, grow_grow]
  rfl
end Go.Proofs.Ytbfoheblcoakiaa
namespace Go.Proofs.Ytbfoheblcoakiaa
set_option linter.all false
open Go.RowKit Go.Sort Go.Lib
def encP (p : Pt) : List Value := [.int .i64 p.1, .int .i64 p.2]
def cfP (p q : Pt) : Int := cmpQ p.1 p.2 q.1 q.2
theorem cfP_lt (p q : Pt) : ltOf cfP p q = pltB p q := by
  unfold ltOf
  rw [Bool.eq_iff_iff, pltB_iff, decide_eq_true_eq]
  unfold cfP cmpQ orI sgn
  split <;> (try split) <;> (try split) <;> (try split) <;> omega
theorem swoP : SWO (ltOf cfP) where
  irrefl x := by rw [cfP_lt]; exact plt_irr
  trans x y z h1 h2 := by rw [cfP_lt] at *; exact plt_trans h1 h2
  ntrans x y z h1 h2 := by
    rw [cfP_lt] at *
    rw [← Bool.not_eq_true, pltB_iff] at *
    omega
/-- Points in order. -/
def sortP (ps : List Pt) : List Pt := ps.mergeSort fun x y => !(pltB y x)
theorem sortP_len (ps : List Pt) : (sortP ps).length = ps.length := List.length_mergeSort _
theorem sortP_mem (ps : List Pt) (z : Pt) : z ∈ sortP ps ↔ z ∈ ps := List.mem_mergeSort
theorem sortP_up (ps : List Pt) : (sortP ps).Pairwise fun x y => pltB y x = false := by
  have := List.pairwise_mergeSort (le := fun x y => !(pltB y x)) (fun a b c h1 h2 => by
    simp only [Bool.not_eq_true', ← Bool.not_eq_true, pltB_iff] at *
    omega) (fun a b => by
    simp only [Bool.or_eq_true, Bool.not_eq_true', ← Bool.not_eq_true, pltB_iff]
    omega) ps
  exact this.imp fun h => by simpa using h
theorem sort_any (ps : List Pt) (blk cap : Nat) (w : World) (hH : HoldsK encP 2 w blk 0 ps.toArray) (hblk : blk < w.heap.size) (hsz : ps.length < 4611686018427387904) :
    Calls Try.prog 74 #[.slice (some ⟨blk, 0, none⟩) ps.length cap, .func (.func 75) #[] #[]] w fun e w' => e = .returned (.tuple #[]) ∧ ∃ n os, w' = sortWorldK encP 2 w blk 0 n (sortP ps).toArray os := by
  have eg : ∀ args w, (callFunc 75 args).run Try.prog w = .ok (.enter 75 args) w := Go.Proofs.enters_of Try.func75 (by kernel_rfl) rfl
  have h := AnyQ.slices_SortFunc_total sortPt 2 Try.isAgg32 Try.sizeOf32 encP (fun _ => rfl) (fun x v hv => by simp [encP] at hv; rcases hv with rfl | rfl <;> rfl) cfP swoP 75 #[] blk 0 cap ps.toArray w eg (fun _ _ _ _ x y => cmpPt_any _ _ _ _ _) hH hblk (by simpa using hsz) (fun x y h1 h2 => by
    rw [cfP_lt] at h1 h2
    refine Classical.byContradiction fun hne => ?_
    have := plt_tri h1 hne
    rw [h2] at this
    cases this)
  have e : (fun x y => !(ltOf cfP) y x) = fun x y => !(pltB y x) := by
    funext x y
    rw [cfP_lt]
  simp only [e] at h
  change Calls Try.prog 74 _ _ _ at h
  simpa [sortP] using h
theorem sort_none (p : Option Addr) (cap : Nat) (fv : Value) (w : World) :
    Calls Try.prog 74 #[.slice p 0 cap, fv] w fun e w' => e = .returned (.tuple #[]) ∧ w' = w := AnyF.slices_SortFunc_none sortPt p cap fv w
theorem flatK_flat (ps : List Pt) : flatK encP 2 ps.toArray = ((flat ps).map (Value.int .i64)).toArray := by
  apply Array.ext
  · simp [flat_length]
  · intro i h1 h2
    have h1' : i < ps.length * 2 := by simpa using h1
    have hq : i / 2 < ps.length := by omega
    have e := get_flatK encP 2 ps.toArray i (by simpa using h1')
    rw [getElem!_pos _ i h1] at e
    rw [e]
    have hg := flat_get ps (i / 2)
    have hd : ps.getD (i / 2) (0, 0) = ps[i / 2] := by simp [List.getD, hq]
    rw [hd] at hg
    have hp : ps.toArray[i / 2]! = ps[i / 2] := by simp [hq]
    rw [hp]
    have hl : i < (flat ps).length := by rw [flat_length]; exact h1'
    have hr : ((flat ps).map (Value.int .i64)).toArray[i] = .int .i64 ((flat ps).getD i 0) := by simp [List.getD, hl]
    rw [hr]
    rcases Nat.mod_two_eq_zero_or_one i with h | h
    · have hi : i = i / 2 * 2 := by omega
      rw [h, show (flat ps).getD i 0 = (flat ps).getD (i / 2 * 2) 0 by rw [← hi], hg.1]
      rfl
    · have hi : i = i / 2 * 2 + 1 := by omega
      rw [h, show (flat ps).getD i 0 = (flat ps).getD (i / 2 * 2 + 1) 0 by rw [← hi], hg.2]
      rfl
def soG (cf : FuncId) (args : List Value) : Rd Eff := match args with
  | [.slice (some ⟨nr, 0, none⟩) l _, .func (.func g) ⟨[]⟩ ⟨[]⟩] => .blk nr fun b => match b with
    | some ⟨.row e 2, .ints xs⟩ => (match Nat.beq g cf with
      | true => .ret ⟨.tuple #[], [(nr, ⟨.row e 2, .ints (flat (sortP (ptsA l xs)))⟩)], [xs.length = l * 2, l ≤ 1000000000]⟩
      | false => .fail)
    | _ => .fail
  | _ => .fail
theorem sw_heap (w : World) (blk n : Nat) (d : Array Pt) (os : Array Obj) : (sortWorldK encP 2 w blk 0 n d os).os = w.os ∧ (sortWorldK encP 2 w blk 0 n d os).tape = w.tape ∧ (sortWorldK encP 2 w blk 0 n d os).output = w.output ∧ w.heap.size ≤ (sortWorldK encP 2 w blk 0 n d os).heap.size ∧
    (∀ k, k < w.heap.size → k ≠ blk → (sortWorldK encP 2 w blk 0 n d os).heap[k]? = w.heap[k]?) ∧ ∀ cs e, w.heap[blk]? = some (.cells cs e (0, 0)) → (sortWorldK encP 2 w blk 0 n d os).heap[blk]? = some (.cells (putCells id 0 (flatK encP 2 d) cs) e (0, 0)) := by
  refine ⟨rfl, rfl, rfl, ?_, ?_, ?_⟩
  · simp [sortWorldK, grow, putRowK, putRow, mapBlock, ahead]
  · intro k hk hne
    simp [sortWorldK, grow, putRowK, putRow, mapBlock, ahead, Array.getElem?_append, hk]
    rw [Array.getElem_modify, if_neg (Ne.symm hne)]
  · intro cs e h
    have hk : blk < w.heap.size := (Array.getElem?_eq_some_iff.1 h).1
    have ha : (Sort.ahead w n).heap = w.heap := rfl
    simp only [sortWorldK, grow, putRowK, putRow, mapBlock, Array.getElem?_append, Array.size_modify, Array.getElem?_modify, ha, hk, if_true, h]
    rfl
theorem soG_sound {J : TabJ} (hJ : GSound Try.prog J.g) : GSound Try.prog (consJ 74 (fun _ => soG 75) J).g := by
  intro h name args s eff hr hn
  simp only [consJ] at hr
  split at hr
  rotate_left
  · exact hJ h name args s eff hr hn
  rename_i heq
  obtain rfl := Nat.eq_of_beq_eq_true heq
  refine ⟨(entersB_res (by kernel_rfl)).1, fun B ρ0 ρ w args' ha hm hB hcond => ?_⟩
  unfold soG at hr
  split at hr
  rotate_left
  · simp [Rd.run] at hr
  rename_i nr l c g
  simp only [Rd.run] at hr
  split at hr
  rotate_left
  · simp [Rd.run] at hr
  rename_i e xs hb
  split at hr
  rotate_left
  · simp [Rd.run] at hr
  rename_i hg
  obtain rfl := Nat.eq_of_beq_eq_true hg
  obtain rfl : (⟨.tuple #[], [(nr, ⟨.row e 2, .ints (flat (sortP (ptsA l xs)))⟩)], [xs.length = l * 2, l ≤ 1000000000]⟩ : Eff) = eff := by simpa [Rd.run] using hr
  obtain ⟨hxl, hl, _⟩ := hcond
  obtain ⟨ps, rfl, rfl⟩ := even_flat hxl
  rw [ptsA_flat]
  obtain ⟨hsz, hval⟩ := ha
  obtain ⟨x0, x1, rfl⟩ : ∃ x0 x1, args' = #[x0, x1] := by
    have h2 : args'.size = 2 := by simpa using hsz.symm
    match args', h2 with
    | ⟨[x0, x1]⟩, _ => exact ⟨x0, x1, rfl⟩
  have v0 := hval 0 _ x0 rfl rfl
  have v1 := hval 1 _ x1 rfl rfl
  obtain rfl := v1.plain rfl
  rw [upd_one]
  have hok := hm.ok nr _ hb
  have none_ : ∀ ad c', ps = [] → x0 = .slice ad 0 c' → Calls Try.prog 74 #[x0, .func (.func 75) #[] #[]] w fun e' w' => ∃ v' ρ', e' = .returned v' ∧ Ext ρ ρ' ∧ VR ρ' (.tuple #[]) v' ∧ BelowK B w w' ∧ MemOk ρ0 ρ' B (setB s.blk nr ⟨.row e 2, .ints (flat (sortP ps))⟩) w' := by
    rintro ad c' rfl rfl
    refine (sort_none _ _ _ _).mono ?_
    rintro e' w' ⟨rfl, rfl⟩
    refine ⟨_, ρ, rfl, Ext.refl ρ, .lit rfl, BelowK.refl _ _, ?_⟩
    have e0 : sortP [] = [] := by simp [sortP]
    rw [e0]
    rcases hok with ⟨p, k1, k2, k3⟩ | ⟨g, cap, k1, k2, cs', k3, k4, k5⟩
    · exact hm.setNil hb k1 ⟨k2, 0, k3⟩ (.inl ⟨p, k1, k2, k3⟩)
    · exact hm.set hb rfl k1 (okPl.not (.inl rfl)) (Nat.le_refl _) (fun k _ _ => rfl) (.inr ⟨g, cap, k1, k2, cs', k3, k4, k5⟩)
  rcases v0.slice_inv with ⟨g, f, cp, c', j1, jok, j2, j3, j4⟩ | ⟨hl0, _, ad, c', j2⟩ | ⟨hl0, ad, c', p, j2, _, _, _⟩
  rotate_left
  · exact none_ _ _ (List.eq_nil_of_length_eq_zero hl0) j2
  · exact none_ _ _ (List.eq_nil_of_length_eq_zero hl0) j2
  rcases hok with ⟨p, k1, k2, k3⟩ | ⟨g2, cap, k1, k2, cs', k3, k4, k5⟩
  · rw [k1] at j1
    obtain rfl : p = (g, f, cp) := by simpa using j1
    exact absurd ⟨k2, 0, k3⟩ jok.not
  rw [k1] at j1
  obtain ⟨rfl, rfl, rfl⟩ : g2 = g ∧ 0 = f ∧ some cap = cp := by simpa using j1
  subst j2
  have hcell : ∀ j, j < ps.length * 2 → cs'[j]? = some (.int .i64 ((flat ps).getD j 0)) := fun j hj => by
    have hjl : j < (flat ps).length := by rw [flat_length]; exact hj
    obtain ⟨v', h6, h7⟩ := k5 j (.int .i64 ((flat ps).getD j 0)) (by show ((flat ps).map (Value.int .i64))[j]? = _; simp [List.getD, hjl])
    rw [h7.plain rfl] at h6
    exact h6
  have hH : HoldsK encP 2 w g2 0 ps.toArray := by
    intro j hj
    have hj' : j < ps.length * 2 := by simpa using hj
    have hjl : j < (flat ps).length := by rw [flat_length]; exact hj'
    refine ⟨?_, ?_⟩
    · simp only [World.cell?, Nat.zero_add, k3, Option.isSome_none, Bool.false_eq_true, if_false, hcell j hj', flatK_flat]
      simp [List.getD, hjl]
    · simp [World.frozen?, k3]
  have hg : g2 < w.heap.size := (Array.getElem?_eq_some_iff.1 k3).1
  refine (sort_any ps g2 c' w hH hg (by omega)).mono ?_
  rintro e' w' ⟨rfl, n, os, rfl⟩
  obtain ⟨s1, s2, s3, s4, s5, s6⟩ := sw_heap w g2 n (sortP ps).toArray os
  refine ⟨_, ρ, rfl, Ext.refl ρ, .lit rfl, ⟨s1, s2, s3, s4, fun k hk => s5 k (hB k hk) fun e => k2 (e ▸ hk)⟩, ?_⟩
  refine hm.set hb rfl k1 (okPl.not (.inl rfl)) s4 (fun k hk hne => s5 k hk hne) (.inr ⟨g2, cap, k1, k2, _, s6 cs' e k3, ?_, ?_⟩)
  · simpa [putCells] using k4
  · intro k v hk
    have hk' : ((flat (sortP ps)).map (Value.int .i64))[k]? = some v := hk
    have hkl : k < ps.length * 2 := by
      have := (List.getElem?_eq_some_iff.1 hk').1
      rw [List.length_map, flat_length, sortP_len] at this
      exact this
    have hkc : k < cs'.size := (Array.getElem?_eq_some_iff.1 (hcell k hkl)).1
    refine ⟨v, ?_, ?_⟩
    · rw [flatK_flat]
      simp only [putCells, Array.getElem?_mapIdx, Array.getElem?_eq_getElem hkc, Option.map_some, Nat.zero_le, true_and, Nat.zero_add, List.size_toArray, List.length_map, flat_length, sortP_len, hkl, if_true, Nat.sub_zero, id]
      rw [← hk']
      have hkl2 : k < (flat (sortP ps)).length := by rw [flat_length, sortP_len]; exact hkl
      simp [hkl2]
    · obtain ⟨y, _, rfl⟩ := List.mem_map.1 (List.mem_of_getElem? hk')
      exact .lit rfl
end Go.Proofs.Ytbfoheblcoakiaa
namespace Go.Proofs.Ytbfoheblcoakiaa
set_option linter.all false
open Go.RowKit
/-- Of so many from i on, all. -/
def allQ (P : Nat → Bool) : Nat → Nat → Bool
  | _, 0 => true
  | i, m + 1 => P i && allQ P (i + 1) m
theorem allQ_step {P : Nat → Bool} {i n : Nat} (h : i < n) : allQ P i (n - i) = (P i && allQ P (i + 1) (n - (i + 1))) := by
  rw [show n - i = (n - (i + 1)) + 1 by omega]
  rfl
theorem allQ_end {P : Nat → Bool} {i n : Nat} (h : n ≤ i) : allQ P i (n - i) = true := by
  rw [show n - i = 0 by omega]
  rfl
theorem allQ_get {P : Nat → Bool} : ∀ (m i : Nat), allQ P i m = true → ∀ j, i ≤ j → j < i + m → P j = true
  | 0, i, _, j, h1, h2 => by omega
  | m + 1, i, h, j, h1, h2 => by
    simp only [allQ, Bool.and_eq_true] at h
    rcases Nat.lt_or_ge i j with h3 | h3
    · exact allQ_get m (i + 1) h.2 j (by omega) (by omega)
    · obtain rfl : j = i := by omega
      exact h.1
end Go.Proofs.Ytbfoheblcoakiaa
namespace Go.Proofs.Ytbfoheblcoakiaa
set_option linter.all false
open Go.RowKit
/-- The first m points, each once where equal ones stand side by side. -/
def cmN (ps : List Pt) : Nat → List Pt
  | 0 => []
  | m + 1 => if m = 0 ∨ ps.getD m (0, 0) ≠ ps.getD (m - 1) (0, 0) then cmN ps m ++ [ps.getD m (0, 0)] else cmN ps m
def cmP (ps : List Pt) : List Pt := cmN ps ps.length
def dupA (ps : List Pt) (i : Nat) : Bool := ps.getD i (0, 0) == ps.getD (i - 1) (0, 0)
theorem cmN_le (ps : List Pt) : ∀ m, (cmN ps m).length ≤ m
  | 0 => Nat.le_refl _
  | m + 1 => by
    have := cmN_le ps m
    simp only [cmN]
    split
    · simp; omega
    · omega
theorem cmN_take {ps : List Pt} : ∀ m, m ≤ ps.length → (∀ j, 1 ≤ j → j < m → dupA ps j = false) → cmN ps m = ps.take m
  | 0, _, _ => rfl
  | m + 1, hm, h => by
    have ih := cmN_take m (by omega) fun j h1 h2 => h j h1 (by omega)
    simp only [cmN]
    have ht : ps.take (m + 1) = ps.take m ++ [ps.getD m (0, 0)] := by
      rw [List.take_add_one]
      simp [List.getD, show m < ps.length by omega]
    rw [ht, ← ih]
    rcases Nat.eq_zero_or_pos m with h0 | h0
    · rw [if_pos (.inl h0)]
    · have := h m h0 (by omega)
      unfold dupA at this
      rw [beq_eq_false_iff_ne] at this
      rw [if_pos (.inr this)]
def ECp : Env := tabE B0
theorem ECp_ok : EnvOk Try.prog ECp := tabE_ok B0_ok
noncomputable def c_cpI : Code := ((loopsOf (codeOf Try.f76))[1]?).getD .skip
def k_cpI : Ex → List Nat := keeps [0, 3, 4, 5] [(2, [0, 3]), (1, [0, 3]), (0, [0])] [2]
def s_cpI (ps : List Pt) (k0 : Nat) : Nat × Nat × (List Pt) → St := fun (j, q, X) => ⟨(.slice (some ⟨0, 0, none⟩) ps.length ps.length :: topV :: topV :: .int .i64 q :: .slice (some ⟨0, k0 * 2, none⟩) (ps.length - k0) (ps.length - k0) :: .int .i64 j :: topV :: topV :: topV :: topV :: topV :: topV :: topV :: topV :: topV :: topV :: topV :: topV :: topV :: topV :: topV :: topV :: topV :: topV :: topV :: topV :: topV :: topV :: topV :: topV :: topV :: topV :: topV :: topV :: topV :: topV :: topV :: topV :: topV :: topV :: topV :: topV :: topV :: topV :: topV :: topV :: topV :: topV :: topV :: topV :: topV :: topV :: topV :: topV :: topV :: topV :: topV :: topV :: topV :: topV :: topV :: []), [some ⟨.row 32 2, .ints (flat X)⟩]⟩
def re_cpI : Nat × Nat × (List Pt) → Ex := fun _ => .exit 2
def rs_cpI (ps : List Pt) (k0 : Nat) : Nat × Nat × (List Pt) → St := fun (j, q, X) => ⟨(.slice (some ⟨0, 0, none⟩) ps.length ps.length :: topV :: topV :: .int .i64 ((cmN ps ps.length).length : Nat) :: topV :: topV :: topV :: topV :: topV :: topV :: topV :: topV :: topV :: topV :: topV :: topV :: topV :: topV :: topV :: topV :: topV :: topV :: topV :: topV :: topV :: topV :: topV :: topV :: topV :: topV :: topV :: topV :: topV :: topV :: topV :: topV :: topV :: topV :: topV :: topV :: topV :: topV :: topV :: topV :: topV :: topV :: topV :: topV :: topV :: topV :: topV :: topV :: topV :: topV :: topV :: topV :: topV :: topV :: topV :: topV :: topV :: []), [some ⟨.row 32 2, .ints (flat (cmN ps ps.length ++ ps.drop (cmN ps ps.length).length))⟩]⟩
set_option maxRecDepth 100000 in
theorem tr_cpI (ps : List Pt) (k0 : Nat) (j q : Nat) (X : List Pt) : bodyL Try.prog ECp 30 12 noL 2 c_cpI k_cpI 1 (s_cpI ps k0 (j, q, X)) = brT (decide ((↑j : Int) < (↑(ps.length - k0) : Int))) (.need ((0 : Int) ≤ (↑j : Int) ∧ (↑j : Int) < (↑(ps.length - k0) : Int)) (.need (k0 * (2 : Nat) + (↑j : Int).toNat * (2 : Nat) + (2 : Nat) ≤ (flat X).length) (.need ((0 : Int) ≤ IntKind.i64.wrap ((↑j : Int) - (1 : Int)) ∧ IntKind.i64.wrap ((↑j : Int) - (1 : Int)) < (↑(ps.length - k0) : Int)) (.need (k0 * (2 : Nat) + (IntKind.i64.wrap ((↑j : Int) - (1 : Int))).toNat * (2 : Nat) + (2 : Nat) ≤ (flat X).length) (brT (negB true ((flat X).getD (k0 * 2 + (↑j : Int).toNat * 2) 0 == (flat X).getD (k0 * 2 + (IntKind.i64.wrap ((↑j : Int) - 1)).toNat * 2) 0 && ((flat X).getD (k0 * 2 + (↑j : Int).toNat * 2 + 1) 0 == (flat X).getD (k0 * 2 + (IntKind.i64.wrap ((↑j : Int) - 1)).toNat * 2 + 1) 0 && true))) (.need ((0 : Int) ≤ (↑j : Int) ∧ (↑j : Int) < (↑(ps.length - k0) : Int)) (.need (k0 * (2 : Nat) + (↑j : Int).toNat * (2 : Nat) + (2 : Nat) ≤ (flat X).length) (.need ((0 : Int) ≤ (↑q : Int) ∧ (↑q : Int) < (↑ps.length : Int)) (.need ((0 : Nat) + (↑q : Int).toNat * (2 : Nat) + (2 : Nat) ≤ (flat X).length) (.leaf .normal ⟨(.slice (some ⟨0, 0, none⟩) (ps.length) (ps.length) :: topV :: topV :: .int .i64 (IntKind.i64.wrap ((↑q : Int) + 1)) :: .slice (some ⟨0, k0 * 2, none⟩) (ps.length - k0) (ps.length - k0) :: .int .i64 (IntKind.i64.wrap ((↑j : Int) + 1)) :: topV :: topV :: topV :: topV :: topV :: topV :: topV :: topV :: topV :: topV :: topV :: topV :: topV :: topV :: topV :: topV :: topV :: topV :: topV :: topV :: topV :: topV :: topV :: topV :: topV :: topV :: topV :: topV :: topV :: topV :: topV :: topV :: topV :: topV :: topV :: topV :: topV :: topV :: topV :: topV :: topV :: topV :: topV :: topV :: topV :: topV :: topV :: topV :: topV :: topV :: topV :: topV :: topV :: topV :: topV :: []), [some ⟨.row 32 2, .ints (setInts (flat X) (0 + (↑q : Int).toNat * 2) [(flat X).getD (k0 * 2 + (↑j : Int).toNat * 2) 0, (flat X).getD (k0 * 2 + (↑j : Int).toNat * 2 + 1) 0])⟩]⟩))))) (.leaf .normal ⟨(.slice (some ⟨0, 0, none⟩) (ps.length) (ps.length) :: topV :: topV :: .int .i64 ((↑q : Int)) :: .slice (some ⟨0, k0 * 2, none⟩) (ps.length - k0) (ps.length - k0) :: .int .i64 (IntKind.i64.wrap ((↑j : Int) + 1)) :: topV :: topV :: topV :: topV :: topV :: topV :: topV :: topV :: topV :: topV :: topV :: topV :: topV :: topV :: topV :: topV :: topV :: topV :: topV :: topV :: topV :: topV :: topV :: topV :: topV :: topV :: topV :: topV :: topV :: topV :: topV :: topV :: topV :: topV :: topV :: topV :: topV :: topV :: topV :: topV :: topV :: topV :: topV :: topV :: topV :: topV :: topV :: topV :: topV :: topV :: topV :: topV :: topV :: topV :: topV :: []), [some ⟨.row 32 2, .ints (flat X)⟩]⟩)))))) (.leaf (.exit 2) ⟨(.slice (some ⟨0, 0, none⟩) (ps.length) (ps.length) :: topV :: topV :: .int .i64 ((↑q : Int)) :: topV :: topV :: topV :: topV :: topV :: topV :: topV :: topV :: topV :: topV :: topV :: topV :: topV :: topV :: topV :: topV :: topV :: topV :: topV :: topV :: topV :: topV :: topV :: topV :: topV :: topV :: topV :: topV :: topV :: topV :: topV :: topV :: topV :: topV :: topV :: topV :: topV :: topV :: topV :: topV :: topV :: topV :: topV :: topV :: topV :: topV :: topV :: topV :: topV :: topV :: topV :: topV :: topV :: topV :: topV :: topV :: topV :: []), [some ⟨.row 32 2, .ints (flat X)⟩]⟩) := by kernel_rfl
set_option maxRecDepth 100000 in
theorem nl_cpI : loopsOf c_cpI = [] := by kernel_rfl
def inv_cpI (ps : List Pt) (k0 : Nat) : Nat × Nat × (List Pt) → Prop := fun (j, q, X) => 1 ≤ j ∧ k0 + j ≤ ps.length ∧ q ≤ k0 + j - 1 ∧ q = (cmN ps (k0 + j)).length ∧ X = cmN ps (k0 + j) ++ ps.drop q
def me_cpI (ps : List Pt) (k0 : Nat) : Nat × Nat × (List Pt) → Nat := fun (j, q, X) => ps.length - (k0 + j)
/-- A round of this loop. -/
def Round_cpI (ps : List Pt) (k0 : Nat) : Prop := ∀ xx : Nat × Nat × (List Pt), inv_cpI ps k0 xx → (bodyL Try.prog ECp 30 12 noL 2 c_cpI k_cpI 1 (s_cpI ps k0 xx)).ok (RoundEnd 1 (s_cpI ps k0) (inv_cpI ps k0) (me_cpI ps k0) re_cpI (rs_cpI ps k0) xx) (fun _ _ => False)
def e_cpI (s : St) (k : Ex → St → Tree) : Option Tree := match Nat.beq s.tmps.length 61, pickL s.tmps [0, 3, 4, 5], s.mem with
  | true, [.slice (some ⟨0, 0, none⟩) n _, .int .i64 kk, .slice (some ⟨0, o, none⟩) l _, .int .i64 k2], [some ⟨.row 32 2, .ints xs⟩] => some (needs [k2 = 1, xs.length = n * 2, 0 ≤ kk, 1 ≤ kk ∧ kk < n, o = kk.toNat * 2, l = n - kk.toNat, dupA (ptsA n xs) kk.toNat = true, (∀ j, 1 ≤ j → j < kk.toNat → dupA (ptsA n xs) j = false), n ≤ 1000000000] (k (.exit 2) ⟨(.slice (some ⟨0, 0, none⟩) n n :: topV :: topV :: .int .i64 ((cmN (ptsA n xs) n).length : Nat) :: topV :: topV :: topV :: topV :: topV :: topV :: topV :: topV :: topV :: topV :: topV :: topV :: topV :: topV :: topV :: topV :: topV :: topV :: topV :: topV :: topV :: topV :: topV :: topV :: topV :: topV :: topV :: topV :: topV :: topV :: topV :: topV :: topV :: topV :: topV :: topV :: topV :: topV :: topV :: topV :: topV :: topV :: topV :: topV :: topV :: topV :: topV :: topV :: topV :: topV :: topV :: topV :: topV :: topV :: topV :: topV :: topV :: []), [some ⟨.row 32 2, .ints (flat (cmN (ptsA n xs) n ++ (ptsA n xs).drop (cmN (ptsA n xs) n).length))⟩]⟩))
  | _, _, _ => none
theorem cp_dup {ps : List Pt} {m : Nat} (h : dupA ps m = true) (hm : m ≠ 0) : cmN ps (m + 1) = cmN ps m := by
  unfold dupA at h
  simp only [cmN]
  rw [if_neg]
  rintro (h1 | h1)
  · exact hm h1
  · exact h1 (by simpa using h)
theorem cp_new {ps : List Pt} {m : Nat} (h : dupA ps m = false) : cmN ps (m + 1) = cmN ps m ++ [ps.getD m (0, 0)] := by
  unfold dupA at h
  simp only [cmN]
  rw [if_pos (.inr (by simpa using h))]
theorem cp_start {ps : List Pt} {k : Nat} (h2 : 1 ≤ (k : Int) ∧ (k : Int) < (ps.length : Int)) (h3 : dupA ps k = true) (h4 : ∀ j, 1 ≤ j → j < k → dupA ps j = false) : 1 ≤ 1 ∧ k + 1 ≤ ps.length ∧ k ≤ k + 1 - 1 ∧ k = (cmN ps (k + 1)).length ∧ ps = cmN ps (k + 1) ++ ps.drop k := by
  have e := cp_dup h3 (by omega)
  rw [cmN_take k (by omega) h4] at e
  refine ⟨Nat.le_refl _, by omega, by omega, ?_, ?_⟩
  · rw [e, List.length_take]; omega
  · rw [e, List.take_append_drop]
theorem cp_get {ps : List Pt} {q : List Pt} {j : Nat} (h : q.length ≤ j) : (q ++ ps.drop q.length).getD j (0, 0) = ps.getD j (0, 0) := by
  simp only [List.getD]
  rw [List.getElem?_append_right h, List.getElem?_drop]
  congr 2
  omega
theorem cp_len {ps q : List Pt} (h : q.length ≤ ps.length) : (q ++ ps.drop q.length).length = ps.length := by
  rw [List.length_append, List.length_drop]
  omega
theorem cp_set {ps q : List Pt} (h : q.length < ps.length) (z : Pt) : (q ++ ps.drop q.length).set q.length z = (q ++ [z]) ++ ps.drop (q.length + 1) := by
  rw [List.set_append_right _ _ (Nat.le_refl _), Nat.sub_self, drop_cons h (0, 0)]
  simp
theorem eq_pt (a b : Pt) : (a.1 == b.1 && (a.2 == b.2 && true)) = (a == b) := by
  rw [Bool.and_true]
  rfl
theorem dup_is (ps : List Pt) (m : Nat) : ((ps.getD m (0, 0)).1 == (ps.getD (m - 1) (0, 0)).1 && ((ps.getD m (0, 0)).2 == (ps.getD (m - 1) (0, 0)).2 && true)) = dupA ps m := eq_pt _ _
set_option maxRecDepth 100000 in
theorem round_cpI (ps : List Pt) (k0 : Nat) (h : ps.length ≤ 1000000000) : Round_cpI ps k0 := by
  rintro ⟨j, q, X⟩ ⟨h1, h2, h3, hq0, rfl⟩
  rw [tr_cpI]
  have hq : (cmN ps (k0 + j)).length ≤ ps.length := by omega
  have hX := cp_len hq
  have g1 := cp_get (ps := ps) (q := cmN ps (k0 + j)) (j := k0 + j) (by omega)
  have g2 := cp_get (ps := ps) (q := cmN ps (k0 + j)) (j := k0 + j - 1) (by omega)
  rw [← hq0] at hX g1 g2
  have a2 : IntKind.i64.wrap ((j : Int) - 1) = ((j - 1 : Nat) : Int) := by rw [wr (by omega)]; omega
  refine brT_ok.2 ⟨fun hlt => ?_, fun hge => ?_⟩
  · have hlt := of_decide_eq_true hlt
    have hm : k0 + j < ps.length := by omega
    have a1 : k0 * 2 + (j : Int).toNat * 2 = (k0 + j) * 2 := by omega
    have a3 : k0 * 2 + ((j - 1 : Nat) : Int).toNat * 2 = (k0 + j - 1) * 2 := by omega
    have a4 : 0 + (q : Int).toNat * 2 = q * 2 := by omega
    have hs := flat_set (cmN ps (k0 + j) ++ ps.drop q) q (by omega) (ps.getD (k0 + j) (0, 0)).1 (ps.getD (k0 + j) (0, 0)).2
    have hs2 := cp_set (ps := ps) (q := cmN ps (k0 + j)) (by omega) (ps.getD (k0 + j) (0, 0))
    rw [← hq0] at hs2
    rw [hs2] at hs
    simp only [a2, a1, a3, a4, wsucc (i := j) (n := ps.length) (by omega) h, wsucc (i := q) (n := ps.length) (by omega) h, flat_get0, flat_get1, flat_length, g1, g2, dup_is, hX, hs]
    refine ⟨by omega, by omega, by omega, by omega, brT_ok.2 ⟨fun c => ⟨by omega, by omega, by omega, by omega, ?_⟩, fun c => ?_⟩⟩
    · have hd : dupA ps (k0 + j) = false := by simpa [negB] using c
      have e := cp_new hd
      have el : q + 1 = (cmN ps (k0 + j + 1)).length := by rw [e]; simp; omega
      refine ⟨(j + 1, q + 1, cmN ps (k0 + j) ++ [ps.getD (k0 + j) (0, 0)] ++ ps.drop (q + 1)), [], ⟨by omega, by omega, by omega, el, by show _ = cmN ps (k0 + j + 1) ++ _; rw [e]⟩, ?_, rfl, by simp only [rs_cpI], ?_⟩
      · show ps.length - (k0 + (j + 1)) < ps.length - (k0 + j); omega
      · repeat' (first | exact True.intro | exact rfl | exact fun _ => rfl | (simp; done) | refine And.intro ?_ ?_)
    · have hd : dupA ps (k0 + j) = true := by simpa [negB] using c
      have e := cp_dup hd (by omega)
      refine ⟨(j + 1, q, cmN ps (k0 + j) ++ ps.drop q), [], ⟨by omega, by omega, by omega, by show _ = (cmN ps (k0 + j + 1)).length; rw [e]; exact hq0, by show _ = cmN ps (k0 + j + 1) ++ _; rw [e]⟩, ?_, rfl, by simp only [rs_cpI], ?_⟩
      · show ps.length - (k0 + (j + 1)) < ps.length - (k0 + j); omega
      · repeat' (first | exact True.intro | exact rfl | exact fun _ => rfl | (simp; done) | refine And.intro ?_ ?_)
  · have hge := of_decide_eq_false hge
    have hm : k0 + j = ps.length := by omega
    refine ⟨rfl, [], ?_⟩
    rw [hm] at hq0
    simp only [rs_cpI, hm, ← hq0]
    repeat' (first | exact True.intro | exact rfl | exact fun _ => rfl | (simp; done) | refine And.intro ?_ ?_)
set_option maxRecDepth 100000 in
theorem lg_cpI : LoopE Try.prog e_cpI c_cpI := by
  intro s k t F H hlt ht
  unfold e_cpI at hlt
  split at hlt
  rotate_left
  · cases hlt
  rename_i hlen hpick hmem
  obtain ⟨tmps, mem⟩ := s
  simp only at hlen hpick hmem
  subst hmem
  obtain rfl := Option.some.inj hlt
  obtain ⟨⟨rfl, h1, h6, h2, rfl, rfl, h3, h4, h5, _⟩, ht2⟩ := needs_ok ht
  clear ht hlt
  obtain ⟨ps, rfl, rfl⟩ := even_flat h1
  obtain ⟨k, rfl⟩ := Int.eq_ofNat_of_zero_le h6
  rw [ptsA_flat] at ht2 h3 h4
  simp only [Int.toNat_natCast] at ht2 h3 h4
  refine ⟨_, _, ht2, loop_run mixed ECp_ok (s_cpI ps k) (inv_cpI ps k) (me_cpI ps k) re_cpI (rs_cpI ps k) k_cpI (fun _ => rfl) (noLoops nl_cpI) (round_cpI ps k h5) (x := (1, k, ps)) (cp_start h2 h3 h4) (π := []) rfl ?_⟩
  refine ⟨rfl, rfl, ?_, wvs_spread' [0, 3, 4, 5] hlen rfl ?_⟩
  · repeat' (first | exact True.intro | exact rfl | exact wv_top _ _ | exact fun _ => rfl | assumption | exact Eq.symm (by assumption) | exact vI0 rfl | refine And.intro ?_ ?_)
  · rw [hpick]
    repeat' (first | exact True.intro | exact rfl | exact wv_top _ _ | exact fun _ => rfl | assumption | exact Eq.symm (by assumption) | exact vI0 rfl | refine And.intro ?_ ?_)
def ltCp : LT := fun j s k => match j with
  | 1 => e_cpI s k
  | _ => none
noncomputable def c_cpO : Code := ((loopsOf (codeOf Try.f76))[0]?).getD .skip
def k_cpO : Ex → List Nat := keeps [0, 3] [(0, [0])] [2]
def s_cpO (ps : List Pt) : Nat → St := fun i => ⟨(.slice (some ⟨0, 0, none⟩) ps.length ps.length :: topV :: topV :: .int .i64 i :: topV :: topV :: topV :: topV :: topV :: topV :: topV :: topV :: topV :: topV :: topV :: topV :: topV :: topV :: topV :: topV :: topV :: topV :: topV :: topV :: topV :: topV :: topV :: topV :: topV :: topV :: topV :: topV :: topV :: topV :: topV :: topV :: topV :: topV :: topV :: topV :: topV :: topV :: topV :: topV :: topV :: topV :: topV :: topV :: topV :: topV :: topV :: topV :: topV :: topV :: topV :: topV :: topV :: topV :: topV :: topV :: topV :: []), [some ⟨.row 32 2, .ints (flat ps)⟩]⟩
def re_cpO (ps : List Pt) : Nat → Ex := fun i => bif allQ (fun j => !(dupA ps j)) i (ps.length - i) then .exit 0 else .ret
def rs_cpO (ps : List Pt) : Nat → St := fun i => bif allQ (fun j => !(dupA ps j)) i (ps.length - i) then ⟨(.slice (some ⟨0, 0, none⟩) ps.length ps.length :: topV :: topV :: topV :: topV :: topV :: topV :: topV :: topV :: topV :: topV :: topV :: topV :: topV :: topV :: topV :: topV :: topV :: topV :: topV :: topV :: topV :: topV :: topV :: topV :: topV :: topV :: topV :: topV :: topV :: topV :: topV :: topV :: topV :: topV :: topV :: topV :: topV :: topV :: topV :: topV :: topV :: topV :: topV :: topV :: topV :: topV :: topV :: topV :: topV :: topV :: topV :: topV :: topV :: topV :: topV :: topV :: topV :: topV :: topV :: topV :: []), [some ⟨.row 32 2, .ints (flat ps)⟩]⟩ else ⟨(topV :: topV :: .slice (some ⟨0, 0, none⟩) (cmP ps).length (cmP ps).length :: topV :: topV :: topV :: topV :: topV :: topV :: topV :: topV :: topV :: topV :: topV :: topV :: topV :: topV :: topV :: topV :: topV :: topV :: topV :: topV :: topV :: topV :: topV :: topV :: topV :: topV :: topV :: topV :: topV :: topV :: topV :: topV :: topV :: topV :: topV :: topV :: topV :: topV :: topV :: topV :: topV :: topV :: topV :: topV :: topV :: topV :: topV :: topV :: topV :: topV :: topV :: topV :: topV :: topV :: topV :: topV :: topV :: topV :: []), [some ⟨.row 32 2, .ints (flat (cmP ps))⟩]⟩
set_option maxRecDepth 100000 in
theorem tr_cpO (ps : List Pt) (i : Nat) : bodyL Try.prog ECp 30 12 ltCp 1 c_cpO k_cpO 1 (s_cpO ps i) = brT (decide ((↑i : Int) < (↑ps.length : Int))) (.need ((0 : Int) ≤ (↑i : Int) ∧ (↑i : Int) < (↑ps.length : Int)) (.need ((0 : Nat) + (↑i : Int).toNat * (2 : Nat) + (2 : Nat) ≤ (flat ps).length) (.need ((0 : Int) ≤ IntKind.i64.wrap ((↑i : Int) - (1 : Int)) ∧ IntKind.i64.wrap ((↑i : Int) - (1 : Int)) < (↑ps.length : Int)) (.need ((0 : Nat) + (IntKind.i64.wrap ((↑i : Int) - (1 : Int))).toNat * (2 : Nat) + (2 : Nat) ≤ (flat ps).length) (brT (negB false ((flat ps).getD (0 + (↑i : Int).toNat * 2) 0 == (flat ps).getD (0 + (IntKind.i64.wrap ((↑i : Int) - 1)).toNat * 2) 0 && ((flat ps).getD (0 + (↑i : Int).toNat * 2 + 1) 0 == (flat ps).getD (0 + (IntKind.i64.wrap ((↑i : Int) - 1)).toNat * 2 + 1) 0 && true))) (.need ((0 : Int) ≤ bndI (some (IntKind.i64, (↑i : Int))) (0 : Int) ∧ bndI (some (IntKind.i64, (↑i : Int))) (0 : Int) ≤ bndI none (↑ps.length : Int) ∧ bndI none (↑ps.length : Int) ≤ (↑ps.length : Int)) (.need ((1 : Int) = (1 : Int)) (.need ((flat ps).length = ps.length * (2 : Nat)) (.need ((0 : Int) ≤ (↑i : Int)) (.need ((1 : Int) ≤ (↑i : Int) ∧ (↑i : Int) < (↑ps.length : Int)) (.need ((0 : Nat) + (bndI (some (IntKind.i64, (↑i : Int))) (0 : Int)).toNat * (2 : Nat) = (↑i : Int).toNat * (2 : Nat)) (.need ((bndI none (↑ps.length : Int)).toNat - (bndI (some (IntKind.i64, (↑i : Int))) (0 : Int)).toNat = ps.length - (↑i : Int).toNat) (.need (dupA (ptsA ps.length (flat ps)) (↑i : Int).toNat = true) (.need (∀ (j : Nat), (1 : Nat) ≤ j → j < (↑i : Int).toNat → dupA (ptsA ps.length (flat ps)) j = false) (.need (ps.length ≤ (1000000000 : Nat)) (.need ((0 : Int) ≤ bndI (some (IntKind.i64, (↑(cmN (ptsA ps.length (flat ps)) ps.length).length : Int))) (0 : Int) ∧ bndI (some (IntKind.i64, (↑(cmN (ptsA ps.length (flat ps)) ps.length).length : Int))) (0 : Int) ≤ bndI none (↑ps.length : Int) ∧ bndI none (↑ps.length : Int) ≤ (↑ps.length : Int)) (.need ((0 : Nat) + (bndI (some (IntKind.i64, (↑(cmN (ptsA ps.length (flat ps)) ps.length).length : Int))) (0 : Int)).toNat * (2 : Nat) + ((bndI none (↑ps.length : Int)).toNat - (bndI (some (IntKind.i64, (↑(cmN (ptsA ps.length (flat ps)) ps.length).length : Int))) (0 : Int)).toNat) * (2 : Nat) ≤ (flat (cmN (ptsA ps.length (flat ps)) ps.length ++ List.drop (cmN (ptsA ps.length (flat ps)) ps.length).length (ptsA ps.length (flat ps)))).length) (.need ((0 : Int) ≤ bndI none (0 : Int) ∧ bndI none (0 : Int) ≤ bndI (some (IntKind.i64, (↑(cmN (ptsA ps.length (flat ps)) ps.length).length : Int))) (↑ps.length : Int) ∧ bndI (some (IntKind.i64, (↑(cmN (ptsA ps.length (flat ps)) ps.length).length : Int))) (↑ps.length : Int) ≤ (↑ps.length : Int)) (.leaf .ret ⟨(topV :: topV :: .slice (some ⟨0, 0, none⟩) ((bndI (some (IntKind.i64, (↑(cmN (ptsA ps.length (flat ps)) ps.length).length : Int))) (↑ps.length : Int)).toNat - 0) ((bndI (some (IntKind.i64, (↑(cmN (ptsA ps.length (flat ps)) ps.length).length : Int))) (↑ps.length : Int)).toNat - 0) :: topV :: topV :: topV :: topV :: topV :: topV :: topV :: topV :: topV :: topV :: topV :: topV :: topV :: topV :: topV :: topV :: topV :: topV :: topV :: topV :: topV :: topV :: topV :: topV :: topV :: topV :: topV :: topV :: topV :: topV :: topV :: topV :: topV :: topV :: topV :: topV :: topV :: topV :: topV :: topV :: topV :: topV :: topV :: topV :: topV :: topV :: topV :: topV :: topV :: topV :: topV :: topV :: topV :: topV :: topV :: topV :: topV :: topV :: []), [some ⟨.row 32 2, .ints (List.take (0 + (bndI (some (IntKind.i64, (↑(cmN (ptsA ps.length (flat ps)) ps.length).length : Int))) 0).toNat * 2) (flat (cmN (ptsA ps.length (flat ps)) ps.length ++ List.drop (cmN (ptsA ps.length (flat ps)) ps.length).length (ptsA ps.length (flat ps)))))⟩]⟩)))))))))))))) (.leaf .normal ⟨(.slice (some ⟨0, 0, none⟩) (ps.length) (ps.length) :: topV :: topV :: .int .i64 (IntKind.i64.wrap ((↑i : Int) + 1)) :: topV :: topV :: topV :: topV :: topV :: topV :: topV :: topV :: topV :: topV :: topV :: topV :: topV :: topV :: topV :: topV :: topV :: topV :: topV :: topV :: topV :: topV :: topV :: topV :: topV :: topV :: topV :: topV :: topV :: topV :: topV :: topV :: topV :: topV :: topV :: topV :: topV :: topV :: topV :: topV :: topV :: topV :: topV :: topV :: topV :: topV :: topV :: topV :: topV :: topV :: topV :: topV :: topV :: topV :: topV :: topV :: topV :: []), [some ⟨.row 32 2, .ints (flat ps)⟩]⟩)))))) (.leaf (.exit 0) ⟨(.slice (some ⟨0, 0, none⟩) (ps.length) (ps.length) :: topV :: topV :: topV :: topV :: topV :: topV :: topV :: topV :: topV :: topV :: topV :: topV :: topV :: topV :: topV :: topV :: topV :: topV :: topV :: topV :: topV :: topV :: topV :: topV :: topV :: topV :: topV :: topV :: topV :: topV :: topV :: topV :: topV :: topV :: topV :: topV :: topV :: topV :: topV :: topV :: topV :: topV :: topV :: topV :: topV :: topV :: topV :: topV :: topV :: topV :: topV :: topV :: topV :: topV :: topV :: topV :: topV :: topV :: topV :: topV :: []), [some ⟨.row 32 2, .ints (flat ps)⟩]⟩) := by kernel_rfl
def inv_cpO (ps : List Pt) : Nat → Prop := fun i => 1 ≤ i ∧ i ≤ ps.length ∧ ∀ j, 1 ≤ j → j < i → dupA ps j = false
def me_cpO (ps : List Pt) : Nat → Nat := fun i => ps.length - i
/-- A round of this loop. -/
def Round_cpO (ps : List Pt) : Prop := ∀ xx : Nat, inv_cpO ps xx → (bodyL Try.prog ECp 30 12 ltCp 1 c_cpO k_cpO 1 (s_cpO ps xx)).ok (RoundEnd 1 (s_cpO ps) (inv_cpO ps) (me_cpO ps) (re_cpO ps) (rs_cpO ps) xx) (fun _ _ => False)
def e_cpO (s : St) (k : Ex → St → Tree) : Option Tree := match Nat.beq s.tmps.length 61, pickL s.tmps [0, 3], s.mem with
  | true, [.slice (some ⟨0, 0, none⟩) n _, .int .i64 i], [some ⟨.row 32 2, .ints xs⟩] => some (needs [i = 1, xs.length = n * 2, 2 ≤ n, n ≤ 1000000000] (brT (allQ (fun j => !(dupA (ptsA n xs) j)) 1 (n - 1)) (k (.exit 0) ⟨(.slice (some ⟨0, 0, none⟩) n n :: topV :: topV :: topV :: topV :: topV :: topV :: topV :: topV :: topV :: topV :: topV :: topV :: topV :: topV :: topV :: topV :: topV :: topV :: topV :: topV :: topV :: topV :: topV :: topV :: topV :: topV :: topV :: topV :: topV :: topV :: topV :: topV :: topV :: topV :: topV :: topV :: topV :: topV :: topV :: topV :: topV :: topV :: topV :: topV :: topV :: topV :: topV :: topV :: topV :: topV :: topV :: topV :: topV :: topV :: topV :: topV :: topV :: topV :: topV :: topV :: []), [some ⟨.row 32 2, .ints xs⟩]⟩) (k .ret ⟨(topV :: topV :: .slice (some ⟨0, 0, none⟩) (cmP (ptsA n xs)).length (cmP (ptsA n xs)).length :: topV :: topV :: topV :: topV :: topV :: topV :: topV :: topV :: topV :: topV :: topV :: topV :: topV :: topV :: topV :: topV :: topV :: topV :: topV :: topV :: topV :: topV :: topV :: topV :: topV :: topV :: topV :: topV :: topV :: topV :: topV :: topV :: topV :: topV :: topV :: topV :: topV :: topV :: topV :: topV :: topV :: topV :: topV :: topV :: topV :: topV :: topV :: topV :: topV :: topV :: topV :: topV :: topV :: topV :: topV :: topV :: topV :: topV :: []), [some ⟨.row 32 2, .ints (flat (cmP (ptsA n xs)))⟩]⟩)))
  | _, _, _ => none
theorem bnd_some (x d : Int) : bndI (some (IntKind.i64, x)) d = x := rfl
theorem bnd_none (d : Int) : bndI none d = d := rfl
set_option maxRecDepth 100000 in
theorem in_cpO : loopsOf c_cpO = [c_cpI] := by kernel_rfl
theorem ltCp_good : LoopsGood Try.prog ltCp 1 c_cpO := by
  intro i d hd s k t F H hlt ht
  rw [in_cpO] at hd
  cases i with
  | zero =>
    obtain rfl : c_cpI = d := by simpa using hd
    exact lg_cpI s k t F H hlt ht
  | succ i => simp at hd
set_option maxRecDepth 100000 in
theorem round_cpO (ps : List Pt) (h : ps.length ≤ 1000000000) : Round_cpO ps := by
  rintro i ⟨h1, h2, h3⟩
  rw [tr_cpO]
  simp only [ptsA_flat, bnd_some, bnd_none, Int.toNat_natCast, Nat.zero_add, Nat.sub_zero]
  refine brT_ok.2 ⟨fun hlt => ?_, fun hge => ?_⟩
  · have hi : i < ps.length := by have := of_decide_eq_true hlt; omega
    have w1 : IntKind.i64.wrap ((i : Int) - 1) = ((i - 1 : Nat) : Int) := by rw [wr (by omega)]; omega
    have step : allQ (fun j => !(dupA ps j)) i (ps.length - i) = (!(dupA ps i) && allQ (fun j => !(dupA ps j)) (i + 1) (ps.length - (i + 1))) := allQ_step hi
    have hle := cmN_le ps ps.length
    have hX := cp_len hle
    simp only [w1, Int.toNat_natCast, flat_get0, flat_get1, flat_length, dup_is, hX, wsucc hi h]
    refine ⟨by omega, by omega, by omega, by omega, brT_ok.2 ⟨fun q => ?_, fun q => ?_⟩⟩
    · have hd : dupA ps i = true := by simpa [negB] using q
      have e : allQ (fun j => !(dupA ps j)) i (ps.length - i) = false := by rw [step, hd]; rfl
      have hf : List.take ((cmN ps ps.length).length * 2) (flat (cmN ps ps.length ++ List.drop (cmN ps ps.length).length ps)) = flat (cmP ps) := by
        rw [flat_take, List.take_left]
        rfl
      rw [hf]
      refine ⟨by omega, by first | exact True.intro | rfl, by first | exact True.intro | rfl, by omega, by omega, by first | exact True.intro | rfl, by first | exact True.intro | rfl, hd, h3, h, by omega, by omega, by omega, ?_⟩
      refine ⟨by simp only [re_cpO, e, cond_false], [], ?_⟩
      simp only [rs_cpO, e, cond_false]
      repeat' (first | exact True.intro | exact rfl | exact fun _ => rfl | (simp; done) | refine And.intro ?_ ?_)
    · have hd : dupA ps i = false := by simpa [negB] using q
      have e : allQ (fun j => !(dupA ps j)) i (ps.length - i) = allQ (fun j => !(dupA ps j)) (i + 1) (ps.length - (i + 1)) := by rw [step, hd]; rfl
      refine ⟨i + 1, [], ⟨by omega, by omega, fun j g1 g2 => ?_⟩, ?_, by simp only [re_cpO, e], by simp only [rs_cpO, e], ?_⟩
      · rcases Nat.lt_or_ge j i with g | g
        · exact h3 j g1 g
        · obtain rfl : j = i := by omega
          exact hd
      · show ps.length - (i + 1) < ps.length - i; omega
      · repeat' (first | exact True.intro | exact rfl | exact fun _ => rfl | (simp; done) | refine And.intro ?_ ?_)
  · have hge := of_decide_eq_false hge
    obtain rfl : i = ps.length := by omega
    have e : allQ (fun j => !(dupA ps j)) ps.length (ps.length - ps.length) = true := allQ_end (by omega)
    refine ⟨by simp only [re_cpO, e, cond_true], [], ?_⟩
    simp only [rs_cpO, e, cond_true]
    repeat' (first | exact True.intro | exact rfl | exact fun _ => rfl | (simp; done) | refine And.intro ?_ ?_)
set_option maxRecDepth 100000 in
theorem lg_cpO : LoopE Try.prog e_cpO c_cpO := by
  intro s k t F H hlt ht
  unfold e_cpO at hlt
  split at hlt
  rotate_left
  · cases hlt
  rename_i hlen hpick hmem
  obtain ⟨tmps, mem⟩ := s
  simp only at hlen hpick hmem
  subst hmem
  obtain rfl := Option.some.inj hlt
  obtain ⟨⟨rfl, h1, h2, h5, _⟩, ht2⟩ := needs_ok ht
  clear ht hlt
  obtain ⟨ps, rfl, rfl⟩ := even_flat h1
  rw [ptsA_flat] at ht2
  refine ⟨_, _, pick2k ht2, loop_run mixed ECp_ok (s_cpO ps) (inv_cpO ps) (me_cpO ps) (re_cpO ps) (rs_cpO ps) k_cpO (fun _ => rfl) ltCp_good (round_cpO ps h5) (x := 1) ⟨Nat.le_refl _, by omega, fun j h1 h2 => by omega⟩ (π := []) rfl ?_⟩
  refine ⟨rfl, rfl, ?_, wvs_spread' [0, 3] hlen rfl ?_⟩
  · repeat' (first | exact True.intro | exact rfl | exact wv_top _ _ | exact fun _ => rfl | assumption | exact Eq.symm (by assumption) | exact vI0 rfl | refine And.intro ?_ ?_)
  · rw [hpick]
    repeat' (first | exact True.intro | exact rfl | exact wv_top _ _ | exact fun _ => rfl | assumption | exact Eq.symm (by assumption) | exact vI0 rfl | refine And.intro ?_ ?_)
theorem Lr_cpO {fn : Func} (hf : Try.prog.funcs[76]? = some fn) : LoopsGood Try.prog (lt1 e_cpO) 0 (codeOf fn) := by
  obtain rfl := fn_is Try.func76 hf
  exact lt1_good lg_cpO
def LCp : FuncId → LT := fun f => match f with
  | 76 => lt1 e_cpO
  | _ => noL
def ECq : Env := mkE B0 (fun _ _ => none) LCp
theorem ECq_ok : EnvOk Try.prog ECq := mkEOk B0_ok (fun _ _ _ _ _ h => (by cases h)) (by
  intro f fn hf
  unfold LCp
  split
  all_goals first | with_reducible exact Lr_cpO hf | exact noL_good)
set_option maxRecDepth 100000 in
theorem tr_cpF (ps : List Pt) : bodyM Try.prog ECq (runM Try.prog ECq 30 12) 30 76 [.slice (some ⟨0, 0, none⟩) ps.length ps.length] [some ⟨.row 32 2, .ints (flat ps)⟩] .fin = brT (decide ((↑ps.length : Int) < 2)) (.fin (.slice (some ⟨0, 0, none⟩) (ps.length) (ps.length)) [some ⟨.row 32 2, .ints (flat ps)⟩]) (.need ((1 : Int) = (1 : Int)) (.need ((flat ps).length = ps.length * (2 : Nat)) (.need ((2 : Nat) ≤ ps.length) (.need (ps.length ≤ (1000000000 : Nat)) (brT (allQ (fun j => !dupA (ptsA ps.length (flat ps)) j) 1 (ps.length - 1)) (.fin (.slice (some ⟨0, 0, none⟩) (ps.length) (ps.length)) [some ⟨.row 32 2, .ints (flat ps)⟩]) (.fin (.slice (some ⟨0, 0, none⟩) ((cmP (ptsA ps.length (flat ps))).length) ((cmP (ptsA ps.length (flat ps))).length)) [some ⟨.row 32 2, .ints (flat (cmP (ptsA ps.length (flat ps))))⟩])))))) := by kernel_rfl
theorem cpt_row (ps : List Pt) (h : ps.length ≤ 1000000000) : (bodyM Try.prog ECq (runM Try.prog ECq 30 12) 30 76 [.slice (some ⟨0, 0, none⟩) ps.length ps.length] [some ⟨.row 32 2, .ints (flat ps)⟩] .fin).ok (fun _ _ => False) (fun u mem' => RowIs (.slice (some ⟨0, 0, none⟩) (cmP ps).length (cmP ps).length) ⟨.row 32 2, .ints (flat (cmP ps))⟩ u mem') := by
  rw [tr_cpF]
  simp only [ptsA_flat]
  have same : (∀ j, 1 ≤ j → j < ps.length → dupA ps j = false) → cmP ps = ps := fun hn => by
    unfold cmP
    rw [cmN_take _ (Nat.le_refl _) hn, List.take_length]
  refine brT_ok.2 ⟨fun hlt => ?_, fun hge => ?_⟩
  · have hlt := of_decide_eq_true hlt
    rw [same fun j h1 h2 => by omega]
    exact ⟨some 0, ⟨rfl, rfl, rfl⟩, rfl, rfl, rfl⟩
  · have hge := of_decide_eq_false hge
    refine ⟨by first | exact True.intro | rfl, flat_length ps, by omega, h, brT_ok.2 ⟨fun q => ?_, fun q => ?_⟩⟩
    · have q : allQ (fun j => !(dupA ps j)) 1 (ps.length - 1) = true := q
      rw [same fun j h1 h2 => by simpa using allQ_get _ _ q j h1 (by omega)]
      exact ⟨some 0, ⟨rfl, rfl, rfl⟩, rfl, rfl, rfl⟩
    · exact ⟨some 0, ⟨rfl, rfl, rfl⟩, rfl, rfl, rfl⟩
def cptS : OSpec := fun e sz l xs rest => match e, sz, rest with
  | 32, 2, [] => some (.slice (some ⟨0, 0, none⟩) (cmP (ptsA l xs)).length (cmP (ptsA l xs)).length, ⟨.row 32 2, .ints (flat (cmP (ptsA l xs)))⟩, [xs.length = l * 2, l ≤ 1000000000])
  | _, _, _ => none
set_option maxRecDepth 100000 in
theorem cptS_ok : OSpecOk Try.prog 76 cptS := by
  intro e sz l xs rest v b C h hC
  unfold cptS at h
  split at h
  rotate_left
  · cases h
  obtain ⟨rfl, rfl, rfl⟩ : _ ∧ _ ∧ _ := by simpa using h
  obtain ⟨h1, h2, _⟩ := hC
  obtain ⟨ps, rfl, rfl⟩ := even_flat h1
  rw [ptsA_flat]
  exact ⟨rfl, ECq, 30, 12, ECq_ok, cpt_row ps h2⟩
end Go.Proofs.Ytbfoheblcoakiaa
namespace Go.Proofs.Ytbfoheblcoakiaa
set_option linter.all false
open Go.RowKit
set_option maxRecDepth 100000 in
theorem tr_cln (ps : List Pt) : bodyX Try.prog (tabE B0) 30 12 73 [.row ps.length (.ints (flat ps))] = .need ((0 : Nat) < ps.length) (.need (((0 : Nat) + (ps.length, Cs.ints (List.take (ps.length * Try.prog.types[(32 : Nat)].size) (List.drop (0 : Nat) (flat ps))), [(0 : Nat) + ps.length * Try.prog.types[(32 : Nat)].size ≤ (flat ps).length]).fst) * (16 : Nat) ≤ (140737488355328 : Nat) ∧ (0 : Nat) + (ps.length, Cs.ints (List.take (ps.length * Try.prog.types[(32 : Nat)].size) (List.drop (0 : Nat) (flat ps))), [(0 : Nat) + ps.length * Try.prog.types[(32 : Nat)].size ≤ (flat ps).length]).fst ≤ (1000000 : Nat)) (.need ((0 : Nat) + ps.length * (2 : Nat) ≤ (flat ps).length) (.fin (.slice (some ⟨2, 0, none⟩) (0 + (ps.length, Cs.ints (List.take (ps.length * Try.prog.types[32].size) (List.drop 0 (flat ps))), [0 + ps.length * Try.prog.types[32].size ≤ (flat ps).length]).fst) (0 + (ps.length, Cs.ints (List.take (ps.length * Try.prog.types[32].size) (List.drop 0 (flat ps))), [0 + ps.length * Try.prog.types[32].size ≤ (flat ps).length]).fst)) [some ⟨.view, .ints (flat ps)⟩, some deadB, some ⟨.row 32 2, .ints ([] ++ List.take (ps.length * 2) (List.drop 0 (flat ps)))⟩]))) := by kernel_rfl
theorem resR_cln (ps : List Pt) (h : ps.length ≤ 1000000) : ResR Try.prog 73 [.row ps.length (.ints (flat ps))] (rowP ps) (blkP ps) := by
  rcases Nat.eq_zero_or_pos ps.length with h0 | h0
  · obtain rfl : ps = [] := List.eq_nil_of_length_eq_zero h0
    refine ⟨(entersB_res (by kernel_rfl)).1, (entersB_res (by kernel_rfl)).2, rfl, fun d hd => ?_, fun w args hd => ?_⟩
    · rw [List.mem_singleton.1 hd]
      exact rfl
    · obtain ⟨h1, h2⟩ := hd
      obtain ⟨x0, rfl⟩ : ∃ x0, args = #[x0] := by
        have h3 : args.size = 1 := by simpa using h1.symm
        match args, h3 with
        | ⟨[x0]⟩, _ => exact ⟨x0, rfl⟩
      obtain ⟨_, ad, c', rfl, _, _⟩ := h2 0 _ x0 rfl rfl
      exact cln_zero ad c' w
  · refine bodyX_resR mixed (tabE_ok B0_ok) (m := 30) (n := 12) rfl ?_
    rw [tr_cln]
    have hf : ([] : List Int) ++ List.take (ps.length * 2) (List.drop 0 (flat ps)) = flat ps := by
      rw [List.nil_append, List.drop_zero, flat_all]
    refine ⟨h0, ⟨?_, ?_⟩, ?_, some 2, ⟨?_, ?_, ?_⟩, ?_⟩
    · show (0 + ps.length) * 16 ≤ 140737488355328; omega
    · show 0 + ps.length ≤ 1000000; omega
    · rw [flat_length]; omega
    · rfl
    · rfl
    · show 0 + ps.length = ps.length; omega
    · rw [hf]; exact ⟨rfl, rfl, rfl⟩
def RCl : TabR := fun f ds => match f, ds with
  | 73, [.row m (.ints xs)] => some (rowP (ptsA m xs), blkP (ptsA m xs), [m * 2 ≤ xs.length, m ≤ 1000000])
  | f, ds => R4 f ds
theorem RCl_ok : TabROk Try.prog RCl := by
  intro f ds v b C h hC
  unfold RCl at h
  (try split at h)
  all_goals first
    | (obtain ⟨rfl, rfl, rfl⟩ : _ ∧ _ ∧ _ := by simpa using h
       obtain ⟨_, h2⟩ := ptsA_spec hC.1
       have h1 := resR_pts1 (pre := []) (post := []) hC.1 (resR_cln _ (by rw [h2]; exact hC.2.1))
       simp only [List.nil_append, List.append_nil] at h1
       with_reducible exact h1)
    | exact R4_ok _ _ _ _ _ h hC
def JSo : TabJ := consJ 74 (fun _ => soG 75) noJ
theorem JSo_ok : GSound Try.prog JSo.g := soG_sound (failG_sound _)
def JSc : TabJ := consR 76 (owG cptS) JSo
theorem JSc_ok : GSound Try.prog JSc.g := consO_ok mixed JSo_ok (entersB_res (by kernel_rfl)).1 cptS_ok
def ESp : Env := withT (mkE T3 RCl (fun _ => noL)) JSc
theorem ESp_ok : EnvOk Try.prog ESp := withT_ok (mkEOk T3_ok RCl_ok (fun _ _ _ => noL_good)) JSc_ok
set_option maxRecDepth 100000 in
theorem tr_iSp (ps : List Pt) : bodyX Try.prog ESp 30 12 41 [.row ps.length (.ints (flat ps))] = brT (decide ((↑ps.length : Int) ≤ 20)) (.need (ps.length * (2 : Nat) ≤ (List.drop (0 : Nat) (flat ps)).length) (.need (ps.length ≤ (1000000000 : Nat)) (brT (!allV (ptsA ps.length (List.drop 0 (flat ps)))) (.fin (.slice none (0) (0)) [some ⟨.view, .ints (flat ps)⟩]) (.need (ps.length * (2 : Nat) ≤ (List.drop (0 : Nat) (flat ps)).length) (.need (ps.length ≤ (1000000 : Nat)) (.need ((flat (ptsA ps.length (List.drop (0 : Nat) (flat ps)))).length = (ptsA ps.length (List.drop (0 : Nat) (flat ps))).length * (2 : Nat)) (.need ((ptsA ps.length (List.drop (0 : Nat) (flat ps))).length ≤ (1000000000 : Nat)) (.need ((flat (sortP (ptsA (ptsA ps.length (List.drop (0 : Nat) (flat ps))).length (flat (ptsA ps.length (List.drop (0 : Nat) (flat ps))))))).length = (ptsA ps.length (List.drop (0 : Nat) (flat ps))).length * (2 : Nat)) (.need ((ptsA ps.length (List.drop (0 : Nat) (flat ps))).length ≤ (1000000000 : Nat)) (.fin (.slice (some ⟨2, 0, none⟩) ((cmP (ptsA (ptsA ps.length (List.drop 0 (flat ps))).length (flat (sortP (ptsA (ptsA ps.length (List.drop 0 (flat ps))).length (flat (ptsA ps.length (List.drop 0 (flat ps))))))))).length) ((cmP (ptsA (ptsA ps.length (List.drop 0 (flat ps))).length (flat (sortP (ptsA (ptsA ps.length (List.drop 0 (flat ps))).length (flat (ptsA ps.length (List.drop 0 (flat ps))))))))).length)) [some ⟨.view, .ints (flat ps)⟩, some deadB, some ⟨.row 32 2, .ints (flat (cmP (ptsA (ptsA ps.length (List.drop 0 (flat ps))).length (flat (sortP (ptsA (ptsA ps.length (List.drop 0 (flat ps))).length (flat (ptsA ps.length (List.drop 0 (flat ps))))))))))⟩])))))))))) (.fin (.slice none (0) (0)) [some ⟨.view, .ints (flat ps)⟩]) := by kernel_rfl
/-- In order, and equal ones once: as the model has it. -/
theorem up_get {L : List Pt} (h : L.Pairwise fun x y => pltB y x = false) {i j : Nat} (hij : i < j) (hj : j < L.length) : pltB (L.getD j (0, 0)) (L.getD i (0, 0)) = false := by
  have := List.pairwise_iff_getElem.1 h i j (by omega) hj hij
  simpa [List.getD, hj, show i < L.length by omega] using this
theorem plt_le {a b c : Pt} (h1 : pltB b a = false) (h2 : pltB b c = true) : pltB a c = true := by
  rw [← Bool.not_eq_true, pltB_iff] at h1
  rw [pltB_iff] at h2 ⊢
  omega
theorem cmN_srt {L : List Pt} (h : L.Pairwise fun x y => pltB y x = false) : ∀ m, m ≤ L.length → Asc (cmN L m) ∧ (∀ z ∈ cmN L m, ∃ j, j < m ∧ z = L.getD j (0, 0)) ∧ ∀ j, j < m → L.getD j (0, 0) ∈ cmN L m
  | 0, _ => ⟨List.Pairwise.nil, fun z hz => by simp [cmN] at hz, fun j hj => by omega⟩
  | m + 1, hm => by
    obtain ⟨h1, h2, h3⟩ := cmN_srt h m (by omega)
    simp only [cmN]
    split
    · rename_i hc
      refine ⟨?_, fun z hz => ?_, fun j hj => ?_⟩
      · refine List.pairwise_append.2 ⟨h1, by simp, fun z hz y hy => ?_⟩
        obtain rfl : y = L.getD m (0, 0) := by simpa using hy
        obtain ⟨j, hj, rfl⟩ := h2 z hz
        rcases hc with hc | hc
        · omega
        · have a1 : pltB (L.getD (m - 1) (0, 0)) (L.getD m (0, 0)) = true := plt_tri (up_get h (by omega) (by omega)) hc
          rcases Nat.lt_or_ge j (m - 1) with hj1 | hj1
          · exact plt_le (up_get h hj1 (by omega)) a1
          · obtain rfl : j = m - 1 := by omega
            exact a1
      · rcases List.mem_append.1 hz with hz | hz
        · obtain ⟨j, hj, e⟩ := h2 z hz
          exact ⟨j, by omega, e⟩
        · obtain rfl : z = L.getD m (0, 0) := by simpa using hz
          exact ⟨m, by omega, rfl⟩
      · rcases Nat.lt_or_ge j m with hjm | hjm
        · exact List.mem_append.2 (.inl (h3 j hjm))
        · obtain rfl : j = m := by omega
          exact List.mem_append.2 (.inr (by simp))
    · rename_i hc
      have hc1 : ¬ m = 0 := fun e => hc (.inl e)
      have hc2 : L.getD m (0, 0) = L.getD (m - 1) (0, 0) := Classical.byContradiction fun e => hc (.inr e)
      refine ⟨h1, fun z hz => ?_, fun j hj => ?_⟩
      · obtain ⟨j, hj, e⟩ := h2 z hz
        exact ⟨j, by omega, e⟩
      · rcases Nat.lt_or_ge j m with hjm | hjm
        · exact h3 j hjm
        · obtain rfl : j = m := by omega
          rw [hc2]
          exact h3 (j - 1) (by omega)
theorem cmP_sort (ps : List Pt) : cmP (sortP ps) = srtL ps := by
  obtain ⟨h1, h2, h3⟩ := cmN_srt (sortP_up ps) (sortP ps).length (Nat.le_refl _)
  refine asc_ext h1 (srtL_asc ps) fun z => ?_
  rw [srtL_mem]
  constructor
  · intro hz
    obtain ⟨j, hj, rfl⟩ := h2 z hz
    exact (sortP_mem ps _).1 (by simp [List.getD, hj])
  · intro hz
    obtain ⟨j, hj, rfl⟩ := List.mem_iff_getElem.1 ((sortP_mem ps z).2 hz)
    have := h3 j hj
    rw [show (sortP ps).getD j (0, 0) = (sortP ps)[j] by simp [List.getD, hj]] at this
    exact this
/-- What SortPoints answers. -/
def spV (ps : List Pt) : List Pt := bif okL ps then srtL ps else []
theorem okL_20 {ps : List Pt} (h : okL ps = true) : allV ps = true ∧ ps.length ≤ 20 := by
  unfold okL at h
  simpa using h
theorem spV_len (ps : List Pt) : (spV ps).length ≤ 20 := by
  unfold spV
  rcases h : okL ps with _ | _
  · exact Nat.zero_le _
  · have := srtO_le ps []
    have h2 := (okL_20 h).2
    simp only [List.length_nil] at this
    show (srtO [] ps).length ≤ 20
    omega
theorem resR_iSp (ps : List Pt) (h : Big ps) : ResR Try.prog 41 [.row ps.length (.ints (flat ps))] (rowP (spV ps)) (blkP (spV ps)) := by
  refine bodyX_resR mixed ESp_ok (m := 30) (n := 12) rfl ?_
  rw [tr_iSp]
  unfold Big at h
  have e : ptsA ps.length (flat (sortP ps)) = sortP ps := by rw [← sortP_len ps, ptsA_flat]
  simp only [List.drop_zero, ptsA_flat, flat_length, e, cmP_sort]
  refine brT_ok.2 ⟨fun h20 => ⟨by omega, h, brT_ok.2 ⟨fun hv => ?_, fun hv => ?_⟩⟩, fun h20 => ?_⟩
  · have e2 : spV ps = [] := by
      unfold spV okL
      rw [show allV ps = false by simpa using hv]
      rfl
    rw [e2]
    exact ⟨none, ⟨rfl, rfl⟩, trivial⟩
  · have hv : allV ps = true := by simpa using hv
    have hl : ps.length ≤ 20 := by have := of_decide_eq_true h20; omega
    have e2 : spV ps = srtL ps := by
      unfold spV okL
      rw [hv, decide_eq_true hl]
      rfl
    rw [e2]
    exact ⟨by omega, by omega, trivial, by omega, by rw [sortP_len], by omega, some 2, ⟨rfl, rfl, rfl⟩, rfl, rfl, rfl⟩
  · have e2 : spV ps = [] := by
      unfold spV okL
      rw [show decide (ps.length ≤ 20) = false from decide_eq_false (by have := of_decide_eq_false h20; omega), Bool.and_false]
      rfl
    rw [e2]
    exact ⟨none, ⟨rfl, rfl⟩, trivial⟩
def RSs : TabR := fun f ds => match f, ds with
  | 69, [.row m (.ints xs)] => some (rowP (srtL (ptsA m xs)), blkP (srtL (ptsA m xs)), [m * 2 ≤ xs.length, m ≤ 1000])
  | 41, [.row m (.ints xs)] => some (rowP (spV (ptsA m xs)), blkP (spV (ptsA m xs)), [m * 2 ≤ xs.length, m ≤ 1000000000])
  | f, ds => RCl f ds
theorem RSs_ok : TabROk Try.prog RSs := by
  intro f ds v b C h hC
  unfold RSs at h
  (try split at h)
  all_goals first
    | (obtain ⟨rfl, rfl, rfl⟩ : _ ∧ _ ∧ _ := by simpa using h
       obtain ⟨_, h2⟩ := ptsA_spec hC.1
       have h1 := resR_pts1 (pre := []) (post := []) hC.1 (resR_srt _ (by rw [h2]; exact hC.2.1))
       simp only [List.nil_append, List.append_nil] at h1
       with_reducible exact h1)
    | (obtain ⟨rfl, rfl, rfl⟩ : _ ∧ _ ∧ _ := by simpa using h
       obtain ⟨_, h2⟩ := ptsA_spec hC.1
       have h1 := resR_pts1 (pre := []) (post := []) hC.1 (resR_iSp _ (by unfold Big; rw [h2]; exact hC.2.1))
       simp only [List.nil_append, List.append_nil] at h1
       with_reducible exact h1)
    | exact RCl_ok _ _ _ _ _ h hC
def RSq : TabR := fun f ds => match f, ds with
  | f, ds => RSs f ds
theorem RSq_ok : TabROk Try.prog RSq := by
  intro f ds v b C h hC
  unfold RSq at h
  (try split at h)
  all_goals first
    | (obtain ⟨rfl, rfl, rfl⟩ : _ ∧ _ ∧ _ := by simpa using h
       obtain ⟨_, h2⟩ := ptsA_spec hC.1
       have h1 := resR_pts1 (pre := []) (post := []) hC.1 (resR_sSp _ (by unfold Big; rw [h2]; exact hC.2.1))
       simp only [List.nil_append, List.append_nil] at h1
       with_reducible exact h1)
    | exact RSs_ok _ _ _ _ _ h hC
def TMh : Tab := fun f ds => match f with
  | f => T3 f ds
theorem TMh_ok : TabOk Try.prog TMh := by
  intro f ds v C h hC
  unfold TMh at h
  (try split at h)
  all_goals first | with_reducible exact pHeldP_ok h hC | exact T3_ok _ _ _ _ h hC
end Go.Proofs.Ytbfoheblcoakiaa
namespace Go.Proofs.Ytbfoheblcoakiaa
set_option linter.all false
open Go.RowKit
def RGw : TabR := fun f ds => match f, ds with
  | 77, [.v (.slice none 0 0), .v (.int .i64 n)] => some (.slice (some ⟨0, 0, none⟩) 0 0, ⟨.row 32 2, .ints []⟩, [0 < n ∧ n ≤ 1000])
  | _, _ => none
theorem RGw_ok : TabROk Try.prog RGw := by
  intro f ds v b C h hC
  unfold RGw at h
  (try split at h)
  all_goals first
    | (obtain ⟨rfl, rfl, rfl⟩ : _ ∧ _ ∧ _ := by simpa using h
       exact resR_grw _ hC.1)
    | cases h
def ECt : Env := mkE B0 RGw (fun _ => noL)
theorem ECt_ok : EnvOk Try.prog ECt := mkEOk B0_ok RGw_ok (fun _ _ _ => noL_good)
set_option maxRecDepth 100000 in
theorem tr_cat (l1 l2 : Nat) (y1 y2 : List Int) : bodyM Try.prog ECt (runM Try.prog ECt 30 12) 30 44 [.slice (some ⟨2, 0, none⟩) 2 2] [some ⟨.view, .ints y1⟩, some ⟨.view, .ints y2⟩, some ⟨.view, .vals [.slice (some ⟨0, 0, none⟩) l1 l1, .slice (some ⟨1, 0, none⟩) l2 l2]⟩] .fin = .need ((0 : Int) ≤ (0 : Int) ∧ (0 : Int) < (↑(2 : Nat) : Int)) (brT (decide (IntKind.i64.wrap (0 + (↑l1 : Int)) < 0)) (.bad) (.need ((0 : Int) ≤ IntKind.i64.wrap ((0 : Int) + (1 : Int)) ∧ IntKind.i64.wrap ((0 : Int) + (1 : Int)) < (↑(2 : Nat) : Int)) (brT (decide (IntKind.i64.wrap (IntKind.i64.wrap (0 + (↑l1 : Int)) + (↑l2 : Int)) < 0)) (.bad) (.need ((0 : Int) < IntKind.i64.wrap (IntKind.i64.wrap ((0 : Int) + (↑l1 : Int)) + (↑l2 : Int)) ∧ IntKind.i64.wrap (IntKind.i64.wrap ((0 : Int) + (↑l1 : Int)) + (↑l2 : Int)) ≤ (1000 : Int)) (.need ((0 : Int) ≤ (0 : Int) ∧ (0 : Int) < (↑(2 : Nat) : Int)) (.need (((0 : Nat) + (l1, Cs.ints (List.take (l1 * Try.prog.types[(32 : Nat)].size) (List.drop (0 : Nat) y1)), [(0 : Nat) + l1 * Try.prog.types[(32 : Nat)].size ≤ y1.length]).fst) * (16 : Nat) ≤ (140737488355328 : Nat) ∧ (0 : Nat) + (l1, Cs.ints (List.take (l1 * Try.prog.types[(32 : Nat)].size) (List.drop (0 : Nat) y1)), [(0 : Nat) + l1 * Try.prog.types[(32 : Nat)].size ≤ y1.length]).fst ≤ (1000000 : Nat)) (.need ((0 : Nat) + l1 * (2 : Nat) ≤ y1.length) (.need ((0 : Nat) ≤ (0 : Nat)) (.need ((0 : Int) ≤ IntKind.i64.wrap ((0 : Int) + (1 : Int)) ∧ IntKind.i64.wrap ((0 : Int) + (1 : Int)) < (↑(2 : Nat) : Int)) (.need (((0 : Nat) + (l1, Cs.ints (List.take (l1 * Try.prog.types[(32 : Nat)].size) (List.drop (0 : Nat) y1)), [(0 : Nat) + l1 * Try.prog.types[(32 : Nat)].size ≤ y1.length]).fst + (l2, Cs.ints (List.take (l2 * Try.prog.types[(32 : Nat)].size) (List.drop (0 : Nat) y2)), [(0 : Nat) + l2 * Try.prog.types[(32 : Nat)].size ≤ y2.length]).fst) * (16 : Nat) ≤ (140737488355328 : Nat) ∧ (0 : Nat) + (l1, Cs.ints (List.take (l1 * Try.prog.types[(32 : Nat)].size) (List.drop (0 : Nat) y1)), [(0 : Nat) + l1 * Try.prog.types[(32 : Nat)].size ≤ y1.length]).fst + (l2, Cs.ints (List.take (l2 * Try.prog.types[(32 : Nat)].size) (List.drop (0 : Nat) y2)), [(0 : Nat) + l2 * Try.prog.types[(32 : Nat)].size ≤ y2.length]).fst ≤ (1000000 : Nat)) (.need ((0 : Nat) + l2 * (2 : Nat) ≤ y2.length) (.need ((0 : Nat) + ((0 : Nat) + (l1, Cs.ints (List.take (l1 * Try.prog.types[(32 : Nat)].size) (List.drop (0 : Nat) y1)), [(0 : Nat) + l1 * Try.prog.types[(32 : Nat)].size ≤ y1.length]).fst) * (2 : Nat) ≤ (List.take (0 : Nat) (List.drop (0 : Nat) []) ++ List.take (l1 * (2 : Nat)) (List.drop (0 : Nat) y1)).length) (.fin (.slice (some ⟨5, 0, none⟩) (0 + (l1, Cs.ints (List.take (l1 * Try.prog.types[32].size) (List.drop 0 y1)), [0 + l1 * Try.prog.types[32].size ≤ y1.length]).fst + (l2, Cs.ints (List.take (l2 * Try.prog.types[32].size) (List.drop 0 y2)), [0 + l2 * Try.prog.types[32].size ≤ y2.length]).fst) (0 + (l1, Cs.ints (List.take (l1 * Try.prog.types[32].size) (List.drop 0 y1)), [0 + l1 * Try.prog.types[32].size ≤ y1.length]).fst + (l2, Cs.ints (List.take (l2 * Try.prog.types[32].size) (List.drop 0 y2)), [0 + l2 * Try.prog.types[32].size ≤ y2.length]).fst)) [some ⟨.view, .ints (y1)⟩, some ⟨.view, .ints (y2)⟩, some ⟨.view, .vals [.slice (some ⟨0, 0, none⟩) (l1) (l1), .slice (some ⟨1, 0, none⟩) (l2) (l2)]⟩, some deadB, some deadB, some ⟨.row 32 2, .ints (List.take ((0 + (l1, Cs.ints (List.take (l1 * Try.prog.types[32].size) (List.drop 0 y1)), [0 + l1 * Try.prog.types[32].size ≤ y1.length]).fst) * 2) (List.drop 0 (List.take 0 (List.drop 0 []) ++ List.take (l1 * 2) (List.drop 0 y1))) ++ List.take (l2 * 2) (List.drop 0 y2))⟩]))))))))))))) := by kernel_rfl
/-- A view of two slices, beside what they are of. -/
theorem two_open {w : World} {l1 l2 : Nat} {y1 y2 : List Int} {x1 x2 : Value} (h1 : DOk w (.row l1 (.ints y1)) x1) (h2 : DOk w (.row l2 (.ints y2)) x2) {g f : Nat} (hg : g < w.heap.size) (c1 : w.cell? ⟨g, f, none⟩ = some x1) (c2 : w.cell? ⟨g, f + 1, none⟩ = some x2) (B : Nat → Prop) :
    ∃ ρ : Nat → Option Pl, ρ 2 = some (g, f, none) ∧ MemOk (fun _ => none) ρ B (fun n => [some (⟨.view, .ints y1⟩ : Blk), some ⟨.view, .ints y2⟩, some ⟨.view, .vals [.slice (some ⟨0, 0, none⟩) l1 l1, .slice (some ⟨1, 0, none⟩) l2 l2]⟩].getD n none) w := by
  obtain ⟨ρ, ha, hm⟩ := args_open (w := w) (ds := [.row l1 (.ints y1), .row l2 (.ints y2)]) (args := #[x1, x2]) ⟨rfl, fun i d y hd hy => by
    match i, hd, hy with
    | 0, hd, hy =>
      obtain rfl : DArg.row l1 (.ints y1) = d := by simpa using hd
      obtain rfl : x1 = y := by simpa using hy
      exact h1
    | 1, hd, hy =>
      obtain rfl : DArg.row l2 (.ints y2) = d := by simpa using hd
      obtain rfl : x2 = y := by simpa using hy
      exact h2
    | i + 2, hd, hy => simp at hd⟩ B
  have hn : ρ 2 = none := hm.fresh 2 rfl
  have v0 : VR ρ (.slice (some ⟨0, 0, none⟩) l1 l1) x1 := ha.2 0 _ _ rfl rfl
  have v1 : VR ρ (.slice (some ⟨1, 0, none⟩) l2 l2) x2 := ha.2 1 _ _ rfl rfl
  have hext : Ext ρ (addPl ρ 2 (g, f, none)) := addPl_ext hn
  refine ⟨addPl ρ 2 (g, f, none), addPl_same _ _ _, fun n p hp => by simp at hp, fun n hn' => ?_, fun n b hb => ?_, fun n n' b b' p p' hb hown => ?_⟩
  · have h3 : 3 ≤ n := by
      rcases Nat.lt_or_ge n 3 with h | h
      · match n, h with
        | 0, _ => simp at hn'
        | 1, _ => simp at hn'
        | 2, _ => simp at hn'
      · exact h
    rw [addPl_ne (by omega)]
    refine hm.fresh n ?_
    match n, h3 with
    | n + 3, _ => rfl
  · match n, hb with
    | 0, hb =>
      obtain rfl : (⟨.view, .ints y1⟩ : Blk) = b := by simpa using hb
      exact (hm.ok 0 _ rfl).keep hext (Nat.le_refl _) fun _ _ _ _ => rfl
    | 1, hb =>
      obtain rfl : (⟨.view, .ints y2⟩ : Blk) = b := by simpa using hb
      exact (hm.ok 1 _ rfl).keep hext (Nat.le_refl _) fun _ _ _ _ => rfl
    | 2, hb =>
      obtain rfl : (⟨.view, .vals [.slice (some ⟨0, 0, none⟩) l1 l1, .slice (some ⟨1, 0, none⟩) l2 l2]⟩ : Blk) = b := by simpa using hb
      refine .inr ⟨g, f, none, addPl_same _ _ _, .inr rfl, hg, fun k v hk => ?_⟩
      match k, hk with
      | 0, hk =>
        obtain rfl : Value.slice (some ⟨0, 0, none⟩) l1 l1 = v := by simpa [Blk.cells, Cs.list] using hk
        exact ⟨x1, c1, v0.ext hext⟩
      | 1, hk =>
        obtain rfl : Value.slice (some ⟨1, 0, none⟩) l2 l2 = v := by simpa [Blk.cells, Cs.list] using hk
        exact ⟨x2, c2, v1.ext hext⟩
      | k + 2, hk => simp [Blk.cells, Cs.list] at hk
    | n + 3, hb => simp at hb
  · exfalso
    match n, hb with
    | 0, hb =>
      obtain rfl : (⟨.view, .ints y1⟩ : Blk) = b := by simpa using hb
      cases hown
    | 1, hb =>
      obtain rfl : (⟨.view, .ints y2⟩ : Blk) = b := by simpa using hb
      cases hown
    | 2, hb =>
      obtain rfl : (⟨.view, .vals [.slice (some ⟨0, 0, none⟩) l1 l1, .slice (some ⟨1, 0, none⟩) l2 l2]⟩ : Blk) = b := by simpa using hb
      cases hown
    | n + 3, hb => simp at hb
/-- A function of a row of two slices that answers with a fresh row. -/
theorem two_call {P : Program} (hm : P.follows .mixedOrders = true) {E : Env} (hE : EnvOk P E) {m n : Nat} {f : FuncId} {l1 l2 : Nat} {y1 y2 : List Int} {v : Value} {b : Blk} (hb : isRow b = true)
    (h : (bodyM P E (runM P E m n) m f [.slice (some ⟨2, 0, none⟩) 2 2] [some ⟨.view, .ints y1⟩, some ⟨.view, .ints y2⟩, some ⟨.view, .vals [.slice (some ⟨0, 0, none⟩) l1 l1, .slice (some ⟨1, 0, none⟩) l2 l2]⟩] .fin).ok (fun _ _ => False) (fun u mem => RowIs v b u mem))
    (w : World) {x1 x2 : Value} (h1 : DOk w (.row l1 (.ints y1)) x1) (h2 : DOk w (.row l2 (.ints y2)) x2) {g fo c : Nat} (hg : g < w.heap.size) (c1 : w.cell? ⟨g, fo, none⟩ = some x1) (c2 : w.cell? ⟨g, fo + 1, none⟩ = some x2) (hc : 2 ≤ c) :
    Calls P f #[.slice (some ⟨g, fo, none⟩) 2 c] w fun e w' => ∃ v' p, e = .returned v' ∧ Below w.heap.size w w' ∧ ∀ ρ name, ρ name = some p → VR ρ (atName name v) v' ∧ BlkOk ρ (fun k => k < w.heap.size) w' name b := by
  obtain ⟨u, mem', ⟨src, hrv, hsrc⟩, hent, hdet⟩ := bodyM_ok hE hm (runM_ok hm hE m n) m f _ _ _ _ _ h
  obtain ⟨kd, cs⟩ := b
  cases kd with
  | row e sz =>
    obtain ⟨ρ, hρ, hmem⟩ := two_open h1 h2 hg c1 c2 (fun k => k < w.heap.size)
    refine (hdet ⟨w, fun _ => none, fun k => k < w.heap.size, fun _ h => h, [], none⟩ ρ #[.slice (some ⟨g, fo, none⟩) 2 c] w ⟨rfl, fun i a x ha hx => ?_⟩ hmem (BelowK.refl _ _)).mono ?_
    · match i, ha, hx with
      | 0, ha, hx =>
        obtain rfl : Value.slice (some ⟨2, 0, none⟩) 2 2 = a := by simpa using ha
        obtain rfl : Value.slice (some ⟨g, fo, none⟩) 2 c = x := by simpa using hx
        exact .slice (o := 0) hρ (.inr rfl) hc (fun k hk => by simp at hk)
      | i + 1, ha, hx => simp at ha
    rintro e' w' ⟨v', ρ', rfl, _, g2, g3, g4⟩
    cases src with
    | none => exact ⟨v', (0, 1, some 0), rfl, g3.to, fun ρ2 name hp => ⟨rv_ok (ρ := ρ') (src := none) hp hrv g2, .inl ⟨_, hp, rfl, rfl⟩⟩⟩
    | some k =>
      simp only at hsrc
      split at hsrc
      rotate_left
      · exact hsrc.elim
      rename_i b' hb'
      obtain ⟨kd', cs'⟩ := b'
      cases kd' with
      | row e2 sz2 =>
        obtain ⟨rfl, rfl, hc⟩ := hsrc
        obtain ⟨d1, d2⟩ := rc_list hc
        rcases g4.ok k _ hb' with ⟨p, h1, h2, h3⟩ | ⟨g, cap, h1, h2, arr, h3, h4, h5⟩
        · exact ⟨v', p, rfl, g3.to, fun ρ2 name hp => ⟨rv_ok (ρ := ρ') (src := some k) (hp.trans h1.symm) hrv g2, .inl ⟨p, hp, h2, h3⟩⟩⟩
        · refine ⟨v', _, rfl, g3.to, fun ρ2 name hp => ⟨rv_ok (ρ := ρ') (src := some k) (hp.trans h1.symm) hrv g2, .inr ⟨g, cap, hp, h2, arr, h3, h4, ?_⟩⟩⟩
          intro i x hx
          obtain ⟨x', k1, k2⟩ := h5 i x (by show cs'.list[i]? = some x; rw [d1]; exact hx)
          refine ⟨x', k1, ?_⟩
          have hat := plain_of_atom (d2 x (List.mem_of_getElem? hx))
          rw [k2.plain hat]
          exact .lit hat
      | _ => exact hsrc.elim
  | _ => cases hb
abbrev catB (l1 l2 : Nat) (y1 y2 : List Int) : Blk := ⟨.row 32 2, .ints (y1.take (l1 * 2) ++ y2.take (l2 * 2))⟩
theorem cat_row {l1 l2 : Nat} {y1 y2 : List Int} (h1 : l1 * 2 ≤ y1.length) (h2 : l2 * 2 ≤ y2.length) (h0 : 0 < l1 + l2) (h3 : l1 + l2 ≤ 1000) : (bodyM Try.prog ECt (runM Try.prog ECt 30 12) 30 44 [.slice (some ⟨2, 0, none⟩) 2 2] [some ⟨.view, .ints y1⟩, some ⟨.view, .ints y2⟩, some ⟨.view, .vals [.slice (some ⟨0, 0, none⟩) l1 l1, .slice (some ⟨1, 0, none⟩) l2 l2]⟩] .fin).ok (fun _ _ => False) (fun u mem => RowIs (.slice (some ⟨0, 0, none⟩) (l1 + l2) (l1 + l2)) (catB l1 l2 y1 y2) u mem) := by
  rw [tr_cat]
  have e1 : IntKind.i64.wrap (0 + (l1 : Int)) = (l1 : Int) := by rw [wr (by omega)]; omega
  have e2 : IntKind.i64.wrap ((l1 : Int) + (l2 : Int)) = (l1 : Int) + l2 := wr (by omega)
  have e3 : IntKind.i64.wrap ((0 : Int) + 1) = 1 := by rw [wr (by omega)]; rfl
  have t1 : (y1.take (l1 * 2)).length = l1 * 2 := by rw [List.length_take]; omega
  simp only [e1, e2, e3, List.drop_zero, List.take_zero, List.nil_append, Nat.zero_add, List.take_take, Nat.min_self, t1]
  refine ⟨⟨by omega, by omega⟩, brT_ok.2 ⟨fun q => ?_, fun _ => ⟨⟨by omega, by omega⟩, brT_ok.2 ⟨fun q => ?_, fun _ => ⟨⟨by omega, by omega⟩, ⟨by omega, by omega⟩, ⟨by omega, by omega⟩, h1, by omega, ⟨by omega, by omega⟩, ⟨by omega, by omega⟩, h2, by omega, some 5, ⟨rfl, rfl, rfl⟩, rfl, rfl, rfl⟩⟩⟩⟩⟩
  · have := of_decide_eq_true q; omega
  · have := of_decide_eq_true q; omega
def rowI : DArg → Option (Nat × List Int)
  | .row l (.ints y) => some (l, y)
  | _ => none
theorem rowI_spec {d : DArg} {l : Nat} {y : List Int} (h : rowI d = some (l, y)) : d = .row l (.ints y) := by
  unfold rowI at h
  split at h
  · obtain ⟨rfl, rfl⟩ : _ ∧ _ := by simpa using h
    rfl
  · cases h
/-- Two slices of points, one behind the other. -/
def catG (name : Nat) (args : List Value) : Rd Eff := match args with
  | [.slice (some ⟨nb, 0, none⟩) 2 _] => .blk nb fun b => match b with
    | some ⟨.row _ 1, .vals [s1, s2]⟩ => (rdArg s1).bind fun d1 => (rdArg s2).bind fun d2 => (match rowI d1, rowI d2 with
      | some (l1, y1), some (l2, y2) => .ret ⟨.slice (some ⟨name, 0, none⟩) (l1 + l2) (l1 + l2), [(name, catB l1 l2 y1 y2)], [l1 * 2 ≤ y1.length, l2 * 2 ≤ y2.length, 0 < l1 + l2, l1 + l2 ≤ 1000]⟩
      | _, _ => .fail)
    | _ => .fail
  | _ => .fail
set_option maxRecDepth 100000 in
theorem catG_sound {J : TabJ} (hJ : GSound Try.prog J.g) : GSound Try.prog (consR 44 catG J).g := by
  intro h name args s eff hr hn
  simp only [consR] at hr
  split at hr
  rotate_left
  · exact hJ h name args s eff hr hn
  rename_i heq
  obtain rfl := Nat.eq_of_beq_eq_true heq
  refine ⟨(entersB_res (by kernel_rfl)).1, fun B ρ0 ρ w args' ha hm hB hcond => ?_⟩
  unfold catG at hr
  split at hr
  rotate_left
  · simp [Rd.run] at hr
  rename_i nb c
  simp only [Rd.run] at hr
  split at hr
  rotate_left
  · simp [Rd.run] at hr
  rename_i e s1 s2 hb
  obtain ⟨d1, hd1, hr1⟩ := bind_some hr
  obtain ⟨d2, hd2, hr2⟩ := bind_some hr1
  clear hr hr1
  split at hr2
  rotate_left
  · simp [Rd.run] at hr2
  rename_i l1 y1 l2 y2 r1 r2
  obtain rfl := rowI_spec r1
  obtain rfl := rowI_spec r2
  obtain rfl : (⟨.slice (some ⟨name, 0, none⟩) (l1 + l2) (l1 + l2), [(name, catB l1 l2 y1 y2)], [l1 * 2 ≤ y1.length, l2 * 2 ≤ y2.length, 0 < l1 + l2, l1 + l2 ≤ 1000]⟩ : Eff) = eff := by simpa [Rd.run] using hr2
  obtain ⟨k1, k2, k3, k4, _⟩ := hcond
  obtain ⟨hsz, hval⟩ := ha
  obtain ⟨x0, rfl⟩ : ∃ x0, args' = #[x0] := by
    have h2 : args'.size = 1 := by simpa using hsz.symm
    match args', h2 with
    | ⟨[x0]⟩, _ => exact ⟨x0, rfl⟩
  have v0 := hval 0 _ x0 rfl rfl
  rcases v0.slice_inv with ⟨g, f, cp, c', j1, jok, j2, j3, j4⟩ | ⟨hl0, _⟩ | ⟨hl0, _⟩
  rotate_left
  · omega
  · omega
  rcases hm.ok nb _ hb with ⟨p, q1, q2, q3⟩ | ⟨g2, cap, q1, q2, cs', q3, q4, q5⟩
  · rw [q1] at j1
    obtain rfl : p = (g, f, cp) := by simpa using j1
    exact absurd ⟨q2, 0, q3⟩ jok.not
  rw [q1] at j1
  obtain ⟨rfl, rfl, rfl⟩ : g2 = g ∧ 0 = f ∧ some cap = cp := by simpa using j1
  subst j2
  obtain ⟨x1, a1, a2⟩ := q5 0 s1 rfl
  obtain ⟨x2, b1, b2⟩ := q5 1 s2 rfl
  have hg : g2 < w.heap.size := (Array.getElem?_eq_some_iff.1 q3).1
  have cell : ∀ k x, cs'[k]? = some x → w.cell? ⟨g2, 0 + k, none⟩ = some x := fun k x hx => by
    simp only [World.cell?, Nat.zero_add, q3, Option.isSome_none, Bool.false_eq_true, if_false, hx]
  refine (two_call mixed ECt_ok rfl (cat_row k1 k2 k3 k4) w ((rdArg_ok hd1).2 a2 hm) ((rdArg_ok hd2).2 b2 hm) hg (cell 0 _ a1) (cell 1 _ b1) j3).mono ?_
  rintro e' w' ⟨v', p, rfl, hbel, hrow⟩
  obtain ⟨g1, g3⟩ := hrow (addPl ρ name p) name (addPl_same _ _ _)
  refine ⟨v', addPl ρ name p, rfl, addPl_ext (hm.fresh name hn), g1, BelowK.of hbel hB, ?_⟩
  rw [upd_one]
  exact hm.newRow hB hbel hn rfl g3
end Go.Proofs.Ytbfoheblcoakiaa
namespace Go.Proofs.Ytbfoheblcoakiaa
set_option linter.all false
open Go.RowKit
set_option maxRecDepth 100000 in
theorem tr_cat3 (l1 l2 l3 : Nat) (y1 y2 y3 : List Int) : bodyM Try.prog ECt (runM Try.prog ECt 30 12) 30 44 [.slice (some ⟨3, 0, none⟩) 3 3] [some ⟨.view, .ints y1⟩, some ⟨.view, .ints y2⟩, some ⟨.view, .ints y3⟩, some ⟨.view, .vals [.slice (some ⟨0, 0, none⟩) l1 l1, .slice (some ⟨1, 0, none⟩) l2 l2, .slice (some ⟨2, 0, none⟩) l3 l3]⟩] .fin = .need ((0 : Int) ≤ (0 : Int) ∧ (0 : Int) < (↑(3 : Nat) : Int)) (brT (decide (IntKind.i64.wrap (0 + (↑l1 : Int)) < 0)) (.bad) (.need ((0 : Int) ≤ IntKind.i64.wrap ((0 : Int) + (1 : Int)) ∧ IntKind.i64.wrap ((0 : Int) + (1 : Int)) < (↑(3 : Nat) : Int)) (brT (decide (IntKind.i64.wrap (IntKind.i64.wrap (0 + (↑l1 : Int)) + (↑l2 : Int)) < 0)) (.bad) (.need ((0 : Int) ≤ IntKind.i64.wrap (IntKind.i64.wrap ((0 : Int) + (1 : Int)) + (1 : Int)) ∧ IntKind.i64.wrap (IntKind.i64.wrap ((0 : Int) + (1 : Int)) + (1 : Int)) < (↑(3 : Nat) : Int)) (brT (decide (IntKind.i64.wrap (IntKind.i64.wrap (IntKind.i64.wrap (0 + (↑l1 : Int)) + (↑l2 : Int)) + (↑l3 : Int)) < 0)) (.bad) (.need ((0 : Int) < IntKind.i64.wrap (IntKind.i64.wrap (IntKind.i64.wrap ((0 : Int) + (↑l1 : Int)) + (↑l2 : Int)) + (↑l3 : Int)) ∧ IntKind.i64.wrap (IntKind.i64.wrap (IntKind.i64.wrap ((0 : Int) + (↑l1 : Int)) + (↑l2 : Int)) + (↑l3 : Int)) ≤ (1000 : Int)) (.need ((0 : Int) ≤ (0 : Int) ∧ (0 : Int) < (↑(3 : Nat) : Int)) (.need (((0 : Nat) + (l1, Cs.ints (List.take (l1 * Try.prog.types[(32 : Nat)].size) (List.drop (0 : Nat) y1)), [(0 : Nat) + l1 * Try.prog.types[(32 : Nat)].size ≤ y1.length]).fst) * (16 : Nat) ≤ (140737488355328 : Nat) ∧ (0 : Nat) + (l1, Cs.ints (List.take (l1 * Try.prog.types[(32 : Nat)].size) (List.drop (0 : Nat) y1)), [(0 : Nat) + l1 * Try.prog.types[(32 : Nat)].size ≤ y1.length]).fst ≤ (1000000 : Nat)) (.need ((0 : Nat) + l1 * (2 : Nat) ≤ y1.length) (.need ((0 : Nat) ≤ (0 : Nat)) (.need ((0 : Int) ≤ IntKind.i64.wrap ((0 : Int) + (1 : Int)) ∧ IntKind.i64.wrap ((0 : Int) + (1 : Int)) < (↑(3 : Nat) : Int)) (.need (((0 : Nat) + (l1, Cs.ints (List.take (l1 * Try.prog.types[(32 : Nat)].size) (List.drop (0 : Nat) y1)), [(0 : Nat) + l1 * Try.prog.types[(32 : Nat)].size ≤ y1.length]).fst + (l2, Cs.ints (List.take (l2 * Try.prog.types[(32 : Nat)].size) (List.drop (0 : Nat) y2)), [(0 : Nat) + l2 * Try.prog.types[(32 : Nat)].size ≤ y2.length]).fst) * (16 : Nat) ≤ (140737488355328 : Nat) ∧ (0 : Nat) + (l1, Cs.ints (List.take (l1 * Try.prog.types[(32 : Nat)].size) (List.drop (0 : Nat) y1)), [(0 : Nat) + l1 * Try.prog.types[(32 : Nat)].size ≤ y1.length]).fst + (l2, Cs.ints (List.take (l2 * Try.prog.types[(32 : Nat)].size) (List.drop (0 : Nat) y2)), [(0 : Nat) + l2 * Try.prog.types[(32 : Nat)].size ≤ y2.length]).fst ≤ (1000000 : Nat)) (.need ((0 : Nat) + l2 * (2 : Nat) ≤ y2.length) (.need ((0 : Nat) + ((0 : Nat) + (l1, Cs.ints (List.take (l1 * Try.prog.types[(32 : Nat)].size) (List.drop (0 : Nat) y1)), [(0 : Nat) + l1 * Try.prog.types[(32 : Nat)].size ≤ y1.length]).fst) * (2 : Nat) ≤ (List.take (0 : Nat) (List.drop (0 : Nat) []) ++ List.take (l1 * (2 : Nat)) (List.drop (0 : Nat) y1)).length) (.need ((0 : Int) ≤ IntKind.i64.wrap (IntKind.i64.wrap ((0 : Int) + (1 : Int)) + (1 : Int)) ∧ IntKind.i64.wrap (IntKind.i64.wrap ((0 : Int) + (1 : Int)) + (1 : Int)) < (↑(3 : Nat) : Int)) (.need (((0 : Nat) + (l1, Cs.ints (List.take (l1 * Try.prog.types[(32 : Nat)].size) (List.drop (0 : Nat) y1)), [(0 : Nat) + l1 * Try.prog.types[(32 : Nat)].size ≤ y1.length]).fst + (l2, Cs.ints (List.take (l2 * Try.prog.types[(32 : Nat)].size) (List.drop (0 : Nat) y2)), [(0 : Nat) + l2 * Try.prog.types[(32 : Nat)].size ≤ y2.length]).fst + (l3, Cs.ints (List.take (l3 * Try.prog.types[(32 : Nat)].size) (List.drop (0 : Nat) y3)), [(0 : Nat) + l3 * Try.prog.types[(32 : Nat)].size ≤ y3.length]).fst) * (16 : Nat) ≤ (140737488355328 : Nat) ∧ (0 : Nat) + (l1, Cs.ints (List.take (l1 * Try.prog.types[(32 : Nat)].size) (List.drop (0 : Nat) y1)), [(0 : Nat) + l1 * Try.prog.types[(32 : Nat)].size ≤ y1.length]).fst + (l2, Cs.ints (List.take (l2 * Try.prog.types[(32 : Nat)].size) (List.drop (0 : Nat) y2)), [(0 : Nat) + l2 * Try.prog.types[(32 : Nat)].size ≤ y2.length]).fst + (l3, Cs.ints (List.take (l3 * Try.prog.types[(32 : Nat)].size) (List.drop (0 : Nat) y3)), [(0 : Nat) + l3 * Try.prog.types[(32 : Nat)].size ≤ y3.length]).fst ≤ (1000000 : Nat)) (.need ((0 : Nat) + l3 * (2 : Nat) ≤ y3.length) (.need ((0 : Nat) + ((0 : Nat) + (l1, Cs.ints (List.take (l1 * Try.prog.types[(32 : Nat)].size) (List.drop (0 : Nat) y1)), [(0 : Nat) + l1 * Try.prog.types[(32 : Nat)].size ≤ y1.length]).fst + (l2, Cs.ints (List.take (l2 * Try.prog.types[(32 : Nat)].size) (List.drop (0 : Nat) y2)), [(0 : Nat) + l2 * Try.prog.types[(32 : Nat)].size ≤ y2.length]).fst) * (2 : Nat) ≤ (List.take (((0 : Nat) + (l1, Cs.ints (List.take (l1 * Try.prog.types[(32 : Nat)].size) (List.drop (0 : Nat) y1)), [(0 : Nat) + l1 * Try.prog.types[(32 : Nat)].size ≤ y1.length]).fst) * (2 : Nat)) (List.drop (0 : Nat) (List.take (0 : Nat) (List.drop (0 : Nat) []) ++ List.take (l1 * (2 : Nat)) (List.drop (0 : Nat) y1))) ++ List.take (l2 * (2 : Nat)) (List.drop (0 : Nat) y2)).length) (.fin (.slice (some ⟨7, 0, none⟩) (0 + (l1, Cs.ints (List.take (l1 * Try.prog.types[32].size) (List.drop 0 y1)), [0 + l1 * Try.prog.types[32].size ≤ y1.length]).fst + (l2, Cs.ints (List.take (l2 * Try.prog.types[32].size) (List.drop 0 y2)), [0 + l2 * Try.prog.types[32].size ≤ y2.length]).fst + (l3, Cs.ints (List.take (l3 * Try.prog.types[32].size) (List.drop 0 y3)), [0 + l3 * Try.prog.types[32].size ≤ y3.length]).fst) (0 + (l1, Cs.ints (List.take (l1 * Try.prog.types[32].size) (List.drop 0 y1)), [0 + l1 * Try.prog.types[32].size ≤ y1.length]).fst + (l2, Cs.ints (List.take (l2 * Try.prog.types[32].size) (List.drop 0 y2)), [0 + l2 * Try.prog.types[32].size ≤ y2.length]).fst + (l3, Cs.ints (List.take (l3 * Try.prog.types[32].size) (List.drop 0 y3)), [0 + l3 * Try.prog.types[32].size ≤ y3.length]).fst)) [some ⟨.view, .ints (y1)⟩, some ⟨.view, .ints (y2)⟩, some ⟨.view, .ints (y3)⟩, some ⟨.view, .vals [.slice (some ⟨0, 0, none⟩) (l1) (l1), .slice (some ⟨1, 0, none⟩) (l2) (l2), .slice (some ⟨2, 0, none⟩) (l3) (l3)]⟩, some deadB, some deadB, some deadB, some ⟨.row 32 2, .ints (List.take ((0 + (l1, Cs.ints (List.take (l1 * Try.prog.types[32].size) (List.drop 0 y1)), [0 + l1 * Try.prog.types[32].size ≤ y1.length]).fst + (l2, Cs.ints (List.take (l2 * Try.prog.types[32].size) (List.drop 0 y2)), [0 + l2 * Try.prog.types[32].size ≤ y2.length]).fst) * 2) (List.drop 0 (List.take ((0 + (l1, Cs.ints (List.take (l1 * Try.prog.types[32].size) (List.drop 0 y1)), [0 + l1 * Try.prog.types[32].size ≤ y1.length]).fst) * 2) (List.drop 0 (List.take 0 (List.drop 0 []) ++ List.take (l1 * 2) (List.drop 0 y1))) ++ List.take (l2 * 2) (List.drop 0 y2))) ++ List.take (l3 * 2) (List.drop 0 y3))⟩]))))))))))))))))))) := by kernel_rfl
/-- A view of three slices, beside what they are of. -/
theorem three_open {w : World} {l1 l2 l3 : Nat} {y1 y2 y3 : List Int} {x1 x2 x3 : Value} (h1 : DOk w (.row l1 (.ints y1)) x1) (h2 : DOk w (.row l2 (.ints y2)) x2) (h3 : DOk w (.row l3 (.ints y3)) x3) {g f : Nat} (hg : g < w.heap.size) (c1 : w.cell? ⟨g, f, none⟩ = some x1) (c2 : w.cell? ⟨g, f + 1, none⟩ = some x2) (c3 : w.cell? ⟨g, f + 2, none⟩ = some x3) (B : Nat → Prop) :
    ∃ ρ : Nat → Option Pl, ρ 3 = some (g, f, none) ∧ MemOk (fun _ => none) ρ B (fun n => [some (⟨.view, .ints y1⟩ : Blk), some ⟨.view, .ints y2⟩, some ⟨.view, .ints y3⟩, some ⟨.view, .vals [.slice (some ⟨0, 0, none⟩) l1 l1, .slice (some ⟨1, 0, none⟩) l2 l2, .slice (some ⟨2, 0, none⟩) l3 l3]⟩].getD n none) w := by
  obtain ⟨ρ, ha, hm⟩ := args_open (w := w) (ds := [.row l1 (.ints y1), .row l2 (.ints y2), .row l3 (.ints y3)]) (args := #[x1, x2, x3]) ⟨rfl, fun i d y hd hy => by
    match i, hd, hy with
    | 0, hd, hy =>
      obtain rfl : DArg.row l1 (.ints y1) = d := by simpa using hd
      obtain rfl : x1 = y := by simpa using hy
      exact h1
    | 1, hd, hy =>
      obtain rfl : DArg.row l2 (.ints y2) = d := by simpa using hd
      obtain rfl : x2 = y := by simpa using hy
      exact h2
    | 2, hd, hy =>
      obtain rfl : DArg.row l3 (.ints y3) = d := by simpa using hd
      obtain rfl : x3 = y := by simpa using hy
      exact h3
    | i + 3, hd, hy => simp at hd⟩ B
  have hn : ρ 3 = none := hm.fresh 3 rfl
  have v0 : VR ρ (.slice (some ⟨0, 0, none⟩) l1 l1) x1 := ha.2 0 _ _ rfl rfl
  have v1 : VR ρ (.slice (some ⟨1, 0, none⟩) l2 l2) x2 := ha.2 1 _ _ rfl rfl
  have v2 : VR ρ (.slice (some ⟨2, 0, none⟩) l3 l3) x3 := ha.2 2 _ _ rfl rfl
  have hext : Ext ρ (addPl ρ 3 (g, f, none)) := addPl_ext hn
  refine ⟨addPl ρ 3 (g, f, none), addPl_same _ _ _, fun n p hp => by simp at hp, fun n hn' => ?_, fun n b hb => ?_, fun n n' b b' p p' hb hown => ?_⟩
  · have h4 : 4 ≤ n := by
      rcases Nat.lt_or_ge n 4 with h | h
      · match n, h with
        | 0, _ => simp at hn'
        | 1, _ => simp at hn'
        | 2, _ => simp at hn'
        | 3, _ => simp at hn'
      · exact h
    rw [addPl_ne (by omega)]
    refine hm.fresh n ?_
    match n, h4 with
    | n + 4, _ => rfl
  · match n, hb with
    | 0, hb =>
      obtain rfl : (⟨.view, .ints y1⟩ : Blk) = b := by simpa using hb
      exact (hm.ok 0 _ rfl).keep hext (Nat.le_refl _) fun _ _ _ _ => rfl
    | 1, hb =>
      obtain rfl : (⟨.view, .ints y2⟩ : Blk) = b := by simpa using hb
      exact (hm.ok 1 _ rfl).keep hext (Nat.le_refl _) fun _ _ _ _ => rfl
    | 2, hb =>
      obtain rfl : (⟨.view, .ints y3⟩ : Blk) = b := by simpa using hb
      exact (hm.ok 2 _ rfl).keep hext (Nat.le_refl _) fun _ _ _ _ => rfl
    | 3, hb =>
      obtain rfl : (⟨.view, .vals [.slice (some ⟨0, 0, none⟩) l1 l1, .slice (some ⟨1, 0, none⟩) l2 l2, .slice (some ⟨2, 0, none⟩) l3 l3]⟩ : Blk) = b := by simpa using hb
      refine .inr ⟨g, f, none, addPl_same _ _ _, .inr rfl, hg, fun k v hk => ?_⟩
      match k, hk with
      | 0, hk =>
        obtain rfl : Value.slice (some ⟨0, 0, none⟩) l1 l1 = v := by simpa [Blk.cells, Cs.list] using hk
        exact ⟨x1, c1, v0.ext hext⟩
      | 1, hk =>
        obtain rfl : Value.slice (some ⟨1, 0, none⟩) l2 l2 = v := by simpa [Blk.cells, Cs.list] using hk
        exact ⟨x2, c2, v1.ext hext⟩
      | 2, hk =>
        obtain rfl : Value.slice (some ⟨2, 0, none⟩) l3 l3 = v := by simpa [Blk.cells, Cs.list] using hk
        exact ⟨x3, c3, v2.ext hext⟩
      | k + 3, hk => simp [Blk.cells, Cs.list] at hk
    | n + 4, hb => simp at hb
  · exfalso
    match n, hb with
    | 0, hb =>
      obtain rfl : (⟨.view, .ints y1⟩ : Blk) = b := by simpa using hb
      cases hown
    | 1, hb =>
      obtain rfl : (⟨.view, .ints y2⟩ : Blk) = b := by simpa using hb
      cases hown
    | 2, hb =>
      obtain rfl : (⟨.view, .ints y3⟩ : Blk) = b := by simpa using hb
      cases hown
    | 3, hb =>
      obtain rfl : (⟨.view, .vals [.slice (some ⟨0, 0, none⟩) l1 l1, .slice (some ⟨1, 0, none⟩) l2 l2, .slice (some ⟨2, 0, none⟩) l3 l3]⟩ : Blk) = b := by simpa using hb
      cases hown
    | n + 4, hb => simp at hb
/-- A function of a row of three slices that answers with a fresh row. -/
theorem three_call {P : Program} (hm : P.follows .mixedOrders = true) {E : Env} (hE : EnvOk P E) {m n : Nat} {f : FuncId} {l1 l2 l3 : Nat} {y1 y2 y3 : List Int} {v : Value} {b : Blk} (hb : isRow b = true)
    (h : (bodyM P E (runM P E m n) m f [.slice (some ⟨3, 0, none⟩) 3 3] [some ⟨.view, .ints y1⟩, some ⟨.view, .ints y2⟩, some ⟨.view, .ints y3⟩, some ⟨.view, .vals [.slice (some ⟨0, 0, none⟩) l1 l1, .slice (some ⟨1, 0, none⟩) l2 l2, .slice (some ⟨2, 0, none⟩) l3 l3]⟩] .fin).ok (fun _ _ => False) (fun u mem => RowIs v b u mem))
    (w : World) {x1 x2 x3 : Value} (h1 : DOk w (.row l1 (.ints y1)) x1) (h2 : DOk w (.row l2 (.ints y2)) x2) (h3 : DOk w (.row l3 (.ints y3)) x3) {g fo c : Nat} (hg : g < w.heap.size) (c1 : w.cell? ⟨g, fo, none⟩ = some x1) (c2 : w.cell? ⟨g, fo + 1, none⟩ = some x2) (c3 : w.cell? ⟨g, fo + 2, none⟩ = some x3) (hc : 3 ≤ c) :
    Calls P f #[.slice (some ⟨g, fo, none⟩) 3 c] w fun e w' => ∃ v' p, e = .returned v' ∧ Below w.heap.size w w' ∧ ∀ ρ name, ρ name = some p → VR ρ (atName name v) v' ∧ BlkOk ρ (fun k => k < w.heap.size) w' name b := by
  obtain ⟨u, mem', ⟨src, hrv, hsrc⟩, hent, hdet⟩ := bodyM_ok hE hm (runM_ok hm hE m n) m f _ _ _ _ _ h
  obtain ⟨kd, cs⟩ := b
  cases kd with
  | row e sz =>
    obtain ⟨ρ, hρ, hmem⟩ := three_open h1 h2 h3 hg c1 c2 c3 (fun k => k < w.heap.size)
    refine (hdet ⟨w, fun _ => none, fun k => k < w.heap.size, fun _ h => h, [], none⟩ ρ #[.slice (some ⟨g, fo, none⟩) 3 c] w ⟨rfl, fun i a x ha hx => ?_⟩ hmem (BelowK.refl _ _)).mono ?_
    · match i, ha, hx with
      | 0, ha, hx =>
        obtain rfl : Value.slice (some ⟨3, 0, none⟩) 3 3 = a := by simpa using ha
        obtain rfl : Value.slice (some ⟨g, fo, none⟩) 3 c = x := by simpa using hx
        exact .slice (o := 0) hρ (.inr rfl) hc (fun k hk => by simp at hk)
      | i + 1, ha, hx => simp at ha
    rintro e' w' ⟨v', ρ', rfl, _, g2, g3, g4⟩
    cases src with
    | none => exact ⟨v', (0, 1, some 0), rfl, g3.to, fun ρ2 name hp => ⟨rv_ok (ρ := ρ') (src := none) hp hrv g2, .inl ⟨_, hp, rfl, rfl⟩⟩⟩
    | some k =>
      simp only at hsrc
      split at hsrc
      rotate_left
      · exact hsrc.elim
      rename_i b' hb'
      obtain ⟨kd', cs'⟩ := b'
      cases kd' with
      | row e2 sz2 =>
        obtain ⟨rfl, rfl, hc⟩ := hsrc
        obtain ⟨d1, d2⟩ := rc_list hc
        rcases g4.ok k _ hb' with ⟨p, h1, h2, h3⟩ | ⟨g, cap, h1, h2, arr, h3, h4, h5⟩
        · exact ⟨v', p, rfl, g3.to, fun ρ2 name hp => ⟨rv_ok (ρ := ρ') (src := some k) (hp.trans h1.symm) hrv g2, .inl ⟨p, hp, h2, h3⟩⟩⟩
        · refine ⟨v', _, rfl, g3.to, fun ρ2 name hp => ⟨rv_ok (ρ := ρ') (src := some k) (hp.trans h1.symm) hrv g2, .inr ⟨g, cap, hp, h2, arr, h3, h4, ?_⟩⟩⟩
          intro i x hx
          obtain ⟨x', k1, k2⟩ := h5 i x (by show cs'.list[i]? = some x; rw [d1]; exact hx)
          refine ⟨x', k1, ?_⟩
          have hat := plain_of_atom (d2 x (List.mem_of_getElem? hx))
          rw [k2.plain hat]
          exact .lit hat
      | _ => exact hsrc.elim
  | _ => cases hb
abbrev catB3 (l1 l2 l3 : Nat) (y1 y2 y3 : List Int) : Blk := ⟨.row 32 2, .ints (y1.take (l1 * 2) ++ y2.take (l2 * 2) ++ y3.take (l3 * 2))⟩
theorem cat_row3 {l1 l2 l3 : Nat} {y1 y2 y3 : List Int} (h1 : l1 * 2 ≤ y1.length) (h2 : l2 * 2 ≤ y2.length) (h3 : l3 * 2 ≤ y3.length) (h0 : 0 < l1 + l2 + l3) (h4 : l1 + l2 + l3 ≤ 1000) : (bodyM Try.prog ECt (runM Try.prog ECt 30 12) 30 44 [.slice (some ⟨3, 0, none⟩) 3 3] [some ⟨.view, .ints y1⟩, some ⟨.view, .ints y2⟩, some ⟨.view, .ints y3⟩, some ⟨.view, .vals [.slice (some ⟨0, 0, none⟩) l1 l1, .slice (some ⟨1, 0, none⟩) l2 l2, .slice (some ⟨2, 0, none⟩) l3 l3]⟩] .fin).ok (fun _ _ => False) (fun u mem => RowIs (.slice (some ⟨0, 0, none⟩) (l1 + l2 + l3) (l1 + l2 + l3)) (catB3 l1 l2 l3 y1 y2 y3) u mem) := by
  rw [tr_cat3]
  have e1 : IntKind.i64.wrap (0 + (l1 : Int)) = (l1 : Int) := by rw [wr (by omega)]; omega
  have e2 : IntKind.i64.wrap ((l1 : Int) + (l2 : Int)) = (l1 : Int) + l2 := wr (by omega)
  have e4 : IntKind.i64.wrap ((l1 : Int) + (l2 : Int) + (l3 : Int)) = (l1 : Int) + l2 + l3 := wr (by omega)
  have e3 : IntKind.i64.wrap ((0 : Int) + 1) = 1 := by rw [wr (by omega)]; rfl
  have e5 : IntKind.i64.wrap ((1 : Int) + 1) = 2 := by rw [wr (by omega)]; rfl
  have t1 : (y1.take (l1 * 2)).length = l1 * 2 := by rw [List.length_take]; omega
  have t2 : (y2.take (l2 * 2)).length = l2 * 2 := by rw [List.length_take]; omega
  simp only [e1, e2, e3, e4, e5, List.drop_zero, List.take_zero, List.nil_append, Nat.zero_add, List.take_take, Nat.min_self, t1, t2]
  have t3 : List.take ((l1 + l2) * 2) (y1.take (l1 * 2) ++ y2.take (l2 * 2)) = y1.take (l1 * 2) ++ y2.take (l2 * 2) := List.take_of_length_le (by rw [List.length_append, t1, t2]; omega)
  have t4 : (l1 + l2) * 2 ≤ (y1.take (l1 * 2) ++ y2.take (l2 * 2)).length := by rw [List.length_append, t1, t2]; omega
  rw [t3]
  repeat' (first | exact True.intro | omega | exact rfl | exact t4 | refine brT_ok.2 ⟨fun q => ?_, fun _ => ?_⟩ | exact absurd (of_decide_eq_true q) (by omega) | exact ⟨some 7, ⟨rfl, rfl, rfl⟩, rfl, rfl, rfl⟩ | refine And.intro ?_ ?_)
def catG3 (name : Nat) (args : List Value) : Rd Eff := match args with
  | [.slice (some ⟨nb, 0, none⟩) 3 _] => .blk nb fun b => match b with
    | some ⟨.row _ 1, .vals [s1, s2, s3]⟩ => (rdArg s1).bind fun d1 => (rdArg s2).bind fun d2 => (rdArg s3).bind fun d3 => (match rowI d1, rowI d2, rowI d3 with
      | some (l1, y1), some (l2, y2), some (l3, y3) => .ret ⟨.slice (some ⟨name, 0, none⟩) (l1 + l2 + l3) (l1 + l2 + l3), [(name, catB3 l1 l2 l3 y1 y2 y3)], [l1 * 2 ≤ y1.length, l2 * 2 ≤ y2.length, l3 * 2 ≤ y3.length, 0 < l1 + l2 + l3, l1 + l2 + l3 ≤ 1000]⟩
      | _, _, _ => .fail)
    | _ => .fail
  | _ => .fail
set_option maxRecDepth 100000 in
theorem catG3_sound {J : TabJ} (hJ : GSound Try.prog J.g) : GSound Try.prog (consR 44 catG3 J).g := by
  intro h name args s eff hr hn
  simp only [consR] at hr
  split at hr
  rotate_left
  · exact hJ h name args s eff hr hn
  rename_i heq
  obtain rfl := Nat.eq_of_beq_eq_true heq
  refine ⟨(entersB_res (by kernel_rfl)).1, fun B ρ0 ρ w args' ha hm hB hcond => ?_⟩
  unfold catG3 at hr
  split at hr
  rotate_left
  · simp [Rd.run] at hr
  rename_i nb c
  simp only [Rd.run] at hr
  split at hr
  rotate_left
  · simp [Rd.run] at hr
  rename_i e s1 s2 s3 hb
  obtain ⟨d1, hd1, hr1⟩ := bind_some hr
  obtain ⟨d2, hd2, hr2⟩ := bind_some hr1
  obtain ⟨d3, hd3, hr3⟩ := bind_some hr2
  clear hr hr1 hr2
  split at hr3
  rotate_left
  · simp [Rd.run] at hr3
  rename_i l1 y1 l2 y2 l3 y3 r1 r2 r3
  obtain rfl := rowI_spec r1
  obtain rfl := rowI_spec r2
  obtain rfl := rowI_spec r3
  obtain rfl : (⟨.slice (some ⟨name, 0, none⟩) (l1 + l2 + l3) (l1 + l2 + l3), [(name, catB3 l1 l2 l3 y1 y2 y3)], [l1 * 2 ≤ y1.length, l2 * 2 ≤ y2.length, l3 * 2 ≤ y3.length, 0 < l1 + l2 + l3, l1 + l2 + l3 ≤ 1000]⟩ : Eff) = eff := by simpa [Rd.run] using hr3
  obtain ⟨k1, k2, k5, k3, k4, _⟩ := hcond
  obtain ⟨hsz, hval⟩ := ha
  obtain ⟨x0, rfl⟩ : ∃ x0, args' = #[x0] := by
    have h2 : args'.size = 1 := by simpa using hsz.symm
    match args', h2 with
    | ⟨[x0]⟩, _ => exact ⟨x0, rfl⟩
  have v0 := hval 0 _ x0 rfl rfl
  rcases v0.slice_inv with ⟨g, f, cp, c', j1, jok, j2, j3, j4⟩ | ⟨hl0, _⟩ | ⟨hl0, _⟩
  rotate_left
  · omega
  · omega
  rcases hm.ok nb _ hb with ⟨p, q1, q2, q3⟩ | ⟨g2, cap, q1, q2, cs', q3, q4, q5⟩
  · rw [q1] at j1
    obtain rfl : p = (g, f, cp) := by simpa using j1
    exact absurd ⟨q2, 0, q3⟩ jok.not
  rw [q1] at j1
  obtain ⟨rfl, rfl, rfl⟩ : g2 = g ∧ 0 = f ∧ some cap = cp := by simpa using j1
  subst j2
  obtain ⟨x1, a1, a2⟩ := q5 0 s1 rfl
  obtain ⟨x2, b1, b2⟩ := q5 1 s2 rfl
  obtain ⟨x3, f1, f2⟩ := q5 2 s3 rfl
  have hg : g2 < w.heap.size := (Array.getElem?_eq_some_iff.1 q3).1
  have cell : ∀ k x, cs'[k]? = some x → w.cell? ⟨g2, 0 + k, none⟩ = some x := fun k x hx => by
    simp only [World.cell?, Nat.zero_add, q3, Option.isSome_none, Bool.false_eq_true, if_false, hx]
  refine (three_call mixed ECt_ok rfl (cat_row3 k1 k2 k5 k3 k4) w ((rdArg_ok hd1).2 a2 hm) ((rdArg_ok hd2).2 b2 hm) ((rdArg_ok hd3).2 f2 hm) hg (cell 0 _ a1) (cell 1 _ b1) (cell 2 _ f1) j3).mono ?_
  rintro e' w' ⟨v', p, rfl, hbel, hrow⟩
  obtain ⟨g1, g3⟩ := hrow (addPl ρ name p) name (addPl_same _ _ _)
  refine ⟨v', addPl ρ name p, rfl, addPl_ext (hm.fresh name hn), g1, BelowK.of hbel hB, ?_⟩
  rw [upd_one]
  exact hm.newRow hB hbel hn rfl g3
end Go.Proofs.Ytbfoheblcoakiaa
namespace Go.Proofs.Ytbfoheblcoakiaa
set_option linter.all false
open Go.RowKit
theorem sdL_len : ∀ l : List Pt, (sdL l).length = l.length - 1
  | [] => rfl
  | [_] => rfl
  | a :: b :: t => by
    show (sdL (b :: t)).length + 1 = _
    rw [sdL_len (b :: t)]
    simp
theorem sdL_at : ∀ (l : List Pt) (k : Nat), k + 1 < l.length → (sdL l).getD k (0, 0) = dif (l.getD (k + 1) (0, 0)) (l.getD k (0, 0))
  | [], k, h => by simp at h
  | [_], k, h => by simp at h
  | a :: b :: t, 0, _ => rfl
  | a :: b :: t, k + 1, h => sdL_at (b :: t) k (by simpa using h)
theorem sdC_len (ps : List Pt) : (sdC ps).length = ps.length := by
  unfold sdC
  rw [sdL_len, List.length_append, List.length_take]
  cases ps <;> simp
theorem sdN_all (ps : List Pt) : sdN ps ps.length = sdC ps := by
  refine ext_getD (by rw [sdN_len, sdC_len]) fun k hk => ?_
  rw [sdN_len] at hk
  unfold sdC
  rw [sdL_at _ _ (by rw [List.length_append, List.length_take]; omega), getD_append, getD_append, if_pos hk]
  have e1 : (sdN ps ps.length).getD k (0, 0) = dif (nxP ps k) (ps.getD k (0, 0)) := by
    unfold sdN
    simp [List.getD, hk]
  rw [e1]
  unfold nxP
  rcases Nat.lt_or_ge (k + 1) ps.length with c | c
  · rw [if_pos c, Nat.mod_eq_of_lt c]
  · rw [if_neg (by omega)]
    have : k + 1 = ps.length := by omega
    rw [this, Nat.mod_self, Nat.sub_self]
    congr 1
    match ps, hk with
    | _ :: _, _ => rfl
theorem Gr_sds {fn : Func} (hf : Try.prog.funcs[68]? = some fn) : RangesGood Try.prog (rt1 7 e_sds) (codeOf fn) := by
  obtain rfl := fn_is Try.func68 hf
  exact rt1_good (by kernel_rfl) lg_sds
def GSd : FuncId → RT := fun f => match f with
  | 68 => rt1 7 e_sds
  | _ => noR
def ESd : Env := withG (tabE B0) GSd
theorem ESd_ok : EnvOk Try.prog ESd := withG_ok (tabE_ok B0_ok) (by
  intro f fn hf
  unfold GSd
  split
  all_goals first | with_reducible exact Gr_sds hf | exact noR_good)
set_option maxRecDepth 100000 in
theorem tr_iSd (ps : List Pt) : bodyX Try.prog ESd 30 12 68 [.row ps.length (.ints (flat ps))] = .need ((flat ps).length = ps.length * (2 : Nat)) (.need (allV (ptsA ps.length (flat ps)) = true) (.need (ps.length ≤ (1000 : Nat)) (.fin (.slice (some ⟨3, 0, none⟩) (ps.length) (ps.length)) [some ⟨.view, .ints (flat ps)⟩, some ⟨.box, .vals [.slice (some ⟨3, 0, none⟩) (ps.length) (ps.length)]⟩, some ⟨.view, .vals [.slice (some ⟨0, 0, none⟩) (ps.length) (ps.length)]⟩, some ⟨.row 32 2, .ints (flat (sdN (ptsA ps.length (flat ps)) ps.length))⟩]))) := by kernel_rfl
theorem resR_iSd {ps : List Pt} (hv : allV ps = true) (h : ps.length ≤ 1000) : ResR Try.prog 68 [.row ps.length (.ints (flat ps))] (rowP (sdC ps)) (blkP (sdC ps)) := by
  refine bodyX_resR mixed ESd_ok (m := 30) (n := 12) rfl ?_
  rw [tr_iSd]
  simp only [ptsA_flat, sdN_all]
  exact ⟨flat_length ps, hv, h, some 3, ⟨rfl, rfl, (sdC_len ps).symm⟩, rfl, rfl, rfl⟩
theorem drop_cons2 {l : List Pt} {i : Nat} (h : i < l.length) : l.drop i = l.getD i (0, 0) :: l.drop (i + 1) := drop_cons h (0, 0)
/-- What the merge of two lists comes to. -/
theorem mgE_is : ∀ (f i j : Nat) (o U V : List Pt), U.length + V.length ≤ f + i + j → i ≤ U.length → j ≤ V.length →
    (mgE f i j o U V).1 ≤ U.length ∧ (mgE f i j o U V).2.1 ≤ V.length ∧ (mgE f i j o U V).2.2 ++ U.drop (mgE f i j o U V).1 ++ V.drop (mgE f i j o U V).2.1 = o ++ mrg (U.drop i) (V.drop j)
  | 0, i, j, o, U, V, h, hi, hj => by
    refine ⟨hi, hj, ?_⟩
    show o ++ U.drop i ++ V.drop j = _
    rw [List.drop_of_length_le (show U.length ≤ i by omega), List.drop_of_length_le (show V.length ≤ j by omega), mrg_nl]
    simp
  | f + 1, i, j, o, U, V, h, hi, hj => by
    by_cases c : i < U.length ∧ j < V.length
    · rw [mgE, if_pos c, drop_cons2 c.1, drop_cons2 c.2, mrg_cc]
      split
      · obtain ⟨a1, a2, a3⟩ := mgE_is f (i + 1) j (o ++ [U.getD i (0, 0)]) U V (by omega) (by omega) hj
        refine ⟨a1, a2, ?_⟩
        rw [a3, drop_cons2 c.2]
        simp
      · split
        · obtain ⟨a1, a2, a3⟩ := mgE_is f i (j + 1) (o ++ [V.getD j (0, 0)]) U V (by omega) hi (by omega)
          refine ⟨a1, a2, ?_⟩
          rw [a3, drop_cons2 c.1]
          simp
        · obtain ⟨a1, a2, a3⟩ := mgE_is f (i + 1) (j + 1) (o ++ [adP (U.getD i (0, 0)) (V.getD j (0, 0))]) U V (by omega) (by omega) (by omega)
          refine ⟨a1, a2, ?_⟩
          rw [a3]
          simp
    · rw [mgE, if_neg c]
      refine ⟨hi, hj, ?_⟩
      show o ++ U.drop i ++ V.drop j = _
      rcases Nat.lt_or_ge i U.length with d | d
      · rw [List.drop_of_length_le (show V.length ≤ j by omega), mrg_nil]
        simp
      · rw [List.drop_of_length_le d, mrg_nl]
        simp
theorem mgT_is (us vs : List Pt) : (mgT us vs).1 ≤ us.length ∧ (mgT us vs).2.1 ≤ vs.length ∧ (mgT us vs).2.2 ++ us.drop (mgT us vs).1 ++ vs.drop (mgT us vs).2.1 = mrg us vs := by
  have := mgE_is (us.length + vs.length) 0 0 [] us vs (by omega) (Nat.zero_le _) (Nat.zero_le _)
  simpa [mgT] using this
theorem mrg_len : ∀ (n : Nat) (u v : List Pt), u.length + v.length ≤ n → (mrg u v).length ≤ u.length + v.length ∧ (0 < u.length + v.length → 0 < (mrg u v).length)
  | _, [], v, _ => by rw [mrg_nl]; simp
  | _, u :: us, [], _ => by rw [mrg_nil]; simp
  | 0, _ :: _, _ :: _, hn => by simp at hn
  | n + 1, u :: us, v :: vs, hn => by
    have i1 := mrg_len n us (v :: vs) (by simp at hn ⊢; omega)
    have i2 := mrg_len n (u :: us) vs (by simp at hn ⊢; omega)
    have i3 := mrg_len n us vs (by simp at hn ⊢; omega)
    rw [mrg_cc]
    split
    · simp at *; omega
    · split <;> (simp at *; omega)
theorem Lr_mgs {fn : Func} (hf : Try.prog.funcs[67]? = some fn) : LoopsGood Try.prog (lt1 e_mgs) 0 (codeOf fn) := by
  obtain rfl := fn_is Try.func67 hf
  exact lt1_good lg_mgs
def LMg : FuncId → LT := fun f => match f with
  | 67 => lt1 e_mgs
  | _ => noL
def JCt3 : TabJ := consR 44 catG3 noJ
theorem JCt3_ok : GSound Try.prog JCt3.g := catG3_sound (failG_sound Try.prog)
def EMk : Env := withT (mkE B0 (fun _ _ => none) LMg) JCt3
theorem EMk_ok : EnvOk Try.prog EMk := withT_ok (mkEOk B0_ok (fun _ _ _ _ _ h => (by cases h)) (by
  intro f fn hf
  unfold LMg
  split
  all_goals first | with_reducible exact Lr_mgs hf | exact noL_good)) JCt3_ok
set_option maxRecDepth 100000 in
theorem tr_iMg (us vs : List Pt) : bodyX Try.prog EMk 30 12 67 [.row us.length (.ints (flat us)), .row vs.length (.ints (flat vs))] = .need ((flat us).length = us.length * (2 : Nat)) (.need ((flat vs).length = vs.length * (2 : Nat)) (.need (allW (ptsA us.length (flat us)) = true) (.need (allW (ptsA vs.length (flat vs)) = true) (.need (us.length + vs.length ≤ (1000 : Nat)) (.need ((mgT (ptsA us.length (flat us)) (ptsA vs.length (flat vs))).snd.2.length * (2 : Nat) ≤ (List.drop (0 : Nat) (flat (mgT (ptsA us.length (flat us)) (ptsA vs.length (flat vs))).snd.2)).length) (.need ((us.length - (mgT (ptsA us.length (flat us)) (ptsA vs.length (flat vs))).fst) * (2 : Nat) ≤ (List.drop ((mgT (ptsA us.length (flat us)) (ptsA vs.length (flat vs))).fst * (2 : Nat)) (flat us)).length) (.need ((vs.length - (mgT (ptsA us.length (flat us)) (ptsA vs.length (flat vs))).snd.fst) * (2 : Nat) ≤ (List.drop ((mgT (ptsA us.length (flat us)) (ptsA vs.length (flat vs))).snd.fst * (2 : Nat)) (flat vs)).length) (.need ((0 : Nat) < (mgT (ptsA us.length (flat us)) (ptsA vs.length (flat vs))).snd.2.length + (us.length - (mgT (ptsA us.length (flat us)) (ptsA vs.length (flat vs))).fst) + (vs.length - (mgT (ptsA us.length (flat us)) (ptsA vs.length (flat vs))).snd.fst)) (.need ((mgT (ptsA us.length (flat us)) (ptsA vs.length (flat vs))).snd.2.length + (us.length - (mgT (ptsA us.length (flat us)) (ptsA vs.length (flat vs))).fst) + (vs.length - (mgT (ptsA us.length (flat us)) (ptsA vs.length (flat vs))).snd.fst) ≤ (1000 : Nat)) (.fin (.slice (some ⟨4, 0, none⟩) ((mgT (ptsA us.length (flat us)) (ptsA vs.length (flat vs))).snd.2.length + (us.length - (mgT (ptsA us.length (flat us)) (ptsA vs.length (flat vs))).fst) + (vs.length - (mgT (ptsA us.length (flat us)) (ptsA vs.length (flat vs))).snd.fst)) ((mgT (ptsA us.length (flat us)) (ptsA vs.length (flat vs))).snd.2.length + (us.length - (mgT (ptsA us.length (flat us)) (ptsA vs.length (flat vs))).fst) + (vs.length - (mgT (ptsA us.length (flat us)) (ptsA vs.length (flat vs))).snd.fst))) [some ⟨.view, .ints (flat us)⟩, some ⟨.view, .ints (flat vs)⟩, some ⟨.row 32 2, .ints (flat (mgT (ptsA us.length (flat us)) (ptsA vs.length (flat vs))).snd.2)⟩, some ⟨.row 23 1, .vals [.slice (some ⟨2, 0, none⟩) ((mgT (ptsA us.length (flat us)) (ptsA vs.length (flat vs))).snd.2.length) ((mgT (ptsA us.length (flat us)) (ptsA vs.length (flat vs))).snd.2.length), .slice (some ⟨0, (mgT (ptsA us.length (flat us)) (ptsA vs.length (flat vs))).fst * 2, none⟩) (us.length - (mgT (ptsA us.length (flat us)) (ptsA vs.length (flat vs))).fst) (us.length - (mgT (ptsA us.length (flat us)) (ptsA vs.length (flat vs))).fst), .slice (some ⟨1, (mgT (ptsA us.length (flat us)) (ptsA vs.length (flat vs))).snd.fst * 2, none⟩) (vs.length - (mgT (ptsA us.length (flat us)) (ptsA vs.length (flat vs))).snd.fst) (vs.length - (mgT (ptsA us.length (flat us)) (ptsA vs.length (flat vs))).snd.fst)]⟩, some ⟨.row 32 2, .ints (List.take ((mgT (ptsA us.length (flat us)) (ptsA vs.length (flat vs))).snd.2.length * 2) (List.drop 0 (flat (mgT (ptsA us.length (flat us)) (ptsA vs.length (flat vs))).snd.2)) ++ List.take ((us.length - (mgT (ptsA us.length (flat us)) (ptsA vs.length (flat vs))).fst) * 2) (List.drop ((mgT (ptsA us.length (flat us)) (ptsA vs.length (flat vs))).fst * 2) (flat us)) ++ List.take ((vs.length - (mgT (ptsA us.length (flat us)) (ptsA vs.length (flat vs))).snd.fst) * 2) (List.drop ((mgT (ptsA us.length (flat us)) (ptsA vs.length (flat vs))).snd.fst * 2) (flat vs)))⟩])))))))))) := by kernel_rfl
theorem flat_dropK (l : List Pt) (i : Nat) : (flat l).drop (i * 2) = flat (l.drop i) := by
  induction l generalizing i with
  | nil => simp [flat]
  | cons p t ih =>
    cases i with
    | zero => rfl
    | succ i =>
      rw [List.drop_succ_cons, ← ih i]
      show List.drop ((i + 1) * 2) (p.1 :: p.2 :: flat t) = _
      rw [Nat.add_mul]
      rfl
theorem resR_iMg {us vs : List Pt} (ha : allW us = true) (hb : allW vs = true) (h : us.length + vs.length ≤ 1000) (h0 : 0 < us.length + vs.length) : ResR Try.prog 67 [.row us.length (.ints (flat us)), .row vs.length (.ints (flat vs))] (rowP (mrg us vs)) (blkP (mrg us vs)) := by
  refine bodyX_resR mixed EMk_ok (m := 30) (n := 12) rfl ?_
  rw [tr_iMg]
  simp only [ptsA_flat, List.drop_zero, flat_dropK, flat_length]
  obtain ⟨m1, m2, m3⟩ := mgT_is us vs
  obtain ⟨l1, l2⟩ := mrg_len _ us vs (Nat.le_refl _)
  have l2 := l2 h0
  have ll := congrArg List.length m3
  simp only [List.length_append, List.length_drop] at ll
  generalize mgT us vs = T at *
  obtain ⟨i, j, o⟩ := T
  simp only at *
  have t1 : List.take (o.length * 2) (flat o) = flat o := List.take_of_length_le (by rw [flat_length]; omega)
  have t2 : List.take ((us.length - i) * 2) (flat (us.drop i)) = flat (us.drop i) := List.take_of_length_le (by rw [flat_length, List.length_drop]; omega)
  have t3 : List.take ((vs.length - j) * 2) (flat (vs.drop j)) = flat (vs.drop j) := List.take_of_length_le (by rw [flat_length, List.length_drop]; omega)
  rw [t1, t2, t3, ← flat_append, ← flat_append, m3, ll]
  refine ⟨trivial, trivial, ha, hb, h, ?_, ?_, ?_, ?_, ?_, some 4, ⟨rfl, rfl, rfl⟩, rfl, rfl, rfl⟩
  all_goals first | omega | (rw [List.length_drop]; omega)
end Go.Proofs.Ytbfoheblcoakiaa
namespace Go.Proofs.Ytbfoheblcoakiaa
set_option linter.all false
open Go.RowKit
def pt4 (x y : Int) : Bool := decide (-4000 ≤ x ∧ x ≤ 4000 ∧ -4000 ≤ y ∧ y ≤ 4000)
theorem pt4_iff {x y : Int} : pt4 x y = true ↔ (-4000 ≤ x ∧ x ≤ 4000 ∧ -4000 ≤ y ∧ y ≤ 4000) := by unfold pt4; exact decide_eq_true_iff
def all4 (ps : List Pt) : Bool := ps.all fun p => pt4 p.1 p.2
theorem all4_at {ps : List Pt} (h : all4 ps = true) {j : Nat} (hj : j < ps.length) : pt4 (ps.getD j (0, 0)).1 (ps.getD j (0, 0)).2 = true := List.all_eq_true.1 h (ps.getD j (0, 0)) (by simp [hj])
theorem all4_of {ps : List Pt} (h : allW ps = true) : all4 ps = true := List.all_eq_true.2 fun z hz => by
  have := pt2_iff.1 (List.all_eq_true.1 h z hz)
  exact pt4_iff.2 (by omega)
theorem all4_cons {p : Pt} {l : List Pt} : all4 (p :: l) = true ↔ pt4 p.1 p.2 = true ∧ all4 l = true := by unfold all4; simp
theorem allW_cons {p : Pt} {l : List Pt} : allW (p :: l) = true ↔ pt2 p.1 p.2 = true ∧ allW l = true := by unfold allW; simp
theorem pt4_of {p : Pt} (h : pt2 p.1 p.2 = true) : pt4 p.1 p.2 = true := by
  have := pt2_iff.1 h
  exact pt4_iff.2 (by omega)
theorem mrg_all4 : ∀ (n : Nat) (u v : List Pt), u.length + v.length ≤ n → allW u = true → allW v = true → all4 (mrg u v) = true
  | _, [], v, _, _, hv => by rw [mrg_nl]; exact all4_of hv
  | _, u :: us, [], _, hu, _ => by rw [mrg_nil]; exact all4_of hu
  | 0, _ :: _, _ :: _, hn, _, _ => by simp at hn
  | n + 1, u :: us, v :: vs, hn, hu, hv => by
    have hu' := allW_cons.1 hu
    have hv' := allW_cons.1 hv
    rw [mrg_cc]
    split
    · exact all4_cons.2 ⟨pt4_of hu'.1, mrg_all4 n us (v :: vs) (by simp at hn ⊢; omega) hu'.2 hv⟩
    · split
      · exact all4_cons.2 ⟨pt4_of hv'.1, mrg_all4 n (u :: us) vs (by simp at hn ⊢; omega) hu hv'.2⟩
      · refine all4_cons.2 ⟨?_, mrg_all4 n us vs (by simp at hn ⊢; omega) hu'.2 hv'.2⟩
        have a1 := pt2_iff.1 hu'.1
        have a2 := pt2_iff.1 hv'.1
        unfold adP
        exact pt4_iff.2 (by simp only; omega)
theorem allW_sd {ps : List Pt} (h : allV ps = true) : allW (sdC ps) = true := by
  rw [← sdN_all]
  refine List.all_eq_true.2 fun z hz => ?_
  unfold sdN at hz
  obtain ⟨j, hj, rfl⟩ := List.mem_map.1 hz
  have hj := List.mem_range.1 hj
  have b1 := allV_gt h hj
  have b2 := allV_gt h (nx_lt hj)
  unfold dif nxP
  exact pt2_iff.2 (by simp only; omega)
theorem resR_two {P : Program} {f : FuncId} {v : Value} {b : Blk} {n m : Nat} {xs ys : List Int} (hn : n * 2 ≤ xs.length) (hm : m * 2 ≤ ys.length) (h0 : ResR P f [.row (ptsA n xs).length (.ints (flat (ptsA n xs))), .row (ptsA m ys).length (.ints (flat (ptsA m ys)))] v b) : ResR P f [.row n (.ints xs), .row m (.ints ys)] v b := by
  have h1 := resR_pts1 (pre := []) (post := [.row (ptsA m ys).length (.ints (flat (ptsA m ys)))]) hn h0
  exact resR_pts1 (pre := [.row n (.ints xs)]) (post := []) hm h1
def RMg : TabR := fun f ds => match f, ds with
  | 68, [.row m (.ints xs)] => some (rowP (sdC (ptsA m xs)), blkP (sdC (ptsA m xs)), [m * 2 ≤ xs.length, allV (ptsA m xs) = true, m ≤ 1000])
  | 67, [.row m (.ints xs), .row n (.ints ys)] => some (rowP (mrg (ptsA m xs) (ptsA n ys)), blkP (mrg (ptsA m xs) (ptsA n ys)), [m * 2 ≤ xs.length, n * 2 ≤ ys.length, allW (ptsA m xs) = true, allW (ptsA n ys) = true, m + n ≤ 1000, 0 < m + n])
  | _, _ => none
theorem RMg_ok : TabROk Try.prog RMg := by
  intro f ds v b C h hC
  unfold RMg at h
  split at h
  · obtain ⟨rfl, rfl, rfl⟩ : _ ∧ _ ∧ _ := by simpa using h
    obtain ⟨_, h2⟩ := ptsA_spec hC.1
    have h1 := resR_pts1 (pre := []) (post := []) hC.1 (resR_iSd hC.2.1 (by rw [h2]; exact hC.2.2.1))
    simp only [List.nil_append] at h1
    exact h1
  · obtain ⟨rfl, rfl, rfl⟩ : _ ∧ _ ∧ _ := by simpa using h
    obtain ⟨_, h2⟩ := ptsA_spec hC.1
    obtain ⟨_, h3⟩ := ptsA_spec hC.2.1
    exact resR_two hC.1 hC.2.1 (resR_iMg hC.2.2.1 hC.2.2.2.1 (by rw [h2, h3]; exact hC.2.2.2.2.1) (by rw [h2, h3]; exact hC.2.2.2.2.2.1))
  · cases h
def EMf : Env := mkE B0 RMg (fun _ => noL)
theorem EMf_ok : EnvOk Try.prog EMf := mkEOk B0_ok RMg_ok (fun _ _ _ => noL_good)
/-- The points along sides, but where they lead back. -/
def addR (p : Pt) (ms : List Pt) : List Pt := p :: (cumP p ms).tail.filter fun z => decide (z ≠ p)
def cuF (p a : Pt) (l : List Pt) : List Pt := (cumP a l).tail.filter fun z => decide (z ≠ p)
theorem cuF_cons (p a m : Pt) (l : List Pt) : cuF p a (m :: l) = if adP a m = p then cuF p (adP a m) l else adP a m :: cuF p (adP a m) l := by
  unfold cuF
  show ((cumP (adP a m) l).filter _) = _
  obtain ⟨t, e⟩ := cumP_cons l (adP a m)
  rw [e, List.tail_cons, List.filter_cons]
  by_cases c : adP a m = p
  · rw [if_pos c, c]; simp
  · rw [if_neg c, if_pos (by simpa using c)]
noncomputable def c_adh : Code := ((loopsOf (codeOf Try.f35))[0]?).getD .skip
def k_adh : Ex → List Nat := keeps [5, 6, 22, 23, 24] [(0, [6])] []
def s_adh (ms : List Pt) (x y : Int) : Nat × Pt × (List Pt) → St := fun (i, a, o) => ⟨(topV :: topV :: topV :: topV :: topV :: .pointer (some ⟨3, 0, none⟩) :: .slice (some ⟨8, 0, none⟩) o.length o.length :: topV :: topV :: topV :: topV :: topV :: topV :: topV :: topV :: topV :: topV :: topV :: topV :: topV :: topV :: topV :: .slice (some ⟨7, 0, none⟩) ms.length ms.length :: .int .i64 ms.length :: .int .i64 i :: topV :: topV :: topV :: topV :: topV :: topV :: topV :: topV :: topV :: topV :: topV :: topV :: topV :: topV :: topV :: topV :: topV :: []), [some ⟨.dead, .vals []⟩, some ⟨.dead, .vals []⟩, none, some ⟨.box, .vals [.int .i64 a.1, .int .i64 a.2]⟩, some ⟨.dead, .vals []⟩, some ⟨.dead, .vals []⟩, some ⟨.dead, .vals []⟩, some ⟨.row 32 2, .ints (flat ms)⟩, some ⟨.row 32 2, .ints (flat o)⟩]⟩
def re_adh : Nat × Pt × (List Pt) → Ex := fun _ => .exit 0
def rs_adh (ms : List Pt) (x y : Int) : Nat × Pt × (List Pt) → St := fun (i, a, o) => ⟨(topV :: topV :: topV :: topV :: topV :: topV :: .slice (some ⟨8, 0, none⟩) (addR (x, y) ms).length (addR (x, y) ms).length :: topV :: topV :: topV :: topV :: topV :: topV :: topV :: topV :: topV :: topV :: topV :: topV :: topV :: topV :: topV :: topV :: topV :: topV :: topV :: topV :: topV :: topV :: topV :: topV :: topV :: topV :: topV :: topV :: topV :: topV :: topV :: topV :: topV :: topV :: topV :: []), [some ⟨.dead, .vals []⟩, some ⟨.dead, .vals []⟩, none, some ⟨.dead, .vals []⟩, some ⟨.dead, .vals []⟩, some ⟨.dead, .vals []⟩, some ⟨.dead, .vals []⟩, some ⟨.dead, .vals []⟩, some ⟨.row 32 2, .ints (flat (addR (x, y) ms))⟩]⟩
set_option maxRecDepth 100000 in
theorem tr_adh (ms : List Pt) (x y : Int) (i : Nat) (a : Pt) (o : List Pt) : bodyL Try.prog EMf 30 12 noL 1 c_adh k_adh 24 (s_adh ms x y (i, a, o)) = brT (decide ((↑i : Int) < (↑ms.length : Int))) (.need ((0 : Int) ≤ (↑i : Int) ∧ (↑i : Int) < (↑ms.length : Int)) (.need ((0 : Nat) + (↑i : Int).toNat * (2 : Nat) + (2 : Nat) ≤ (flat ms).length) (.need ((0 : Int) ≤ (0 : Int) ∧ (0 : Int) < (↑o.length : Int)) (.need ((2 : Nat) ≤ (flat o).length) (brT (negB true (IntKind.i64.wrap (a.1 + (flat ms).getD (0 + (↑i : Int).toNat * 2) 0) == (flat o).getD 0 0 && (IntKind.i64.wrap (a.2 + (flat ms).getD (0 + (↑i : Int).toNat * 2 + 1) 0) == (flat o).getD 1 0 && true))) (.need ((o.length + (1 : Nat)) * (16 : Nat) ≤ (140737488355328 : Nat) ∧ o.length + (1 : Nat) ≤ (1000000 : Nat)) (.need ((0 : Nat) + o.length * (2 : Nat) ≤ (flat o).length) (.leaf .normal ⟨(topV :: topV :: topV :: topV :: topV :: .pointer (some ⟨3, 0, none⟩) :: .slice (some ⟨14, 0, none⟩) (o.length + 1) (o.length + 1) :: topV :: topV :: topV :: topV :: topV :: topV :: topV :: topV :: topV :: topV :: topV :: topV :: topV :: topV :: topV :: .slice (some ⟨7, 0, none⟩) (ms.length) (ms.length) :: .int .i64 ((↑ms.length : Int)) :: .int .i64 (IntKind.i64.wrap ((↑i : Int) + 1)) :: topV :: topV :: topV :: topV :: topV :: topV :: topV :: topV :: topV :: topV :: topV :: topV :: topV :: topV :: topV :: topV :: topV :: []), [some deadB, some deadB, none, some ⟨.box, .vals [.int .i64 (IntKind.i64.wrap (a.1 + (flat ms).getD (0 + (↑i : Int).toNat * 2) 0)), .int .i64 (IntKind.i64.wrap (a.2 + (flat ms).getD (0 + (↑i : Int).toNat * 2 + 1) 0))]⟩, some deadB, some deadB, some deadB, some ⟨.row 32 2, .ints (flat ms)⟩, some deadB, some ⟨.box, .vals [.int .i64 ((flat ms).getD (0 + (↑i : Int).toNat * 2) 0), .int .i64 ((flat ms).getD (0 + (↑i : Int).toNat * 2 + 1) 0)]⟩, some ⟨.box, .vals [.int .i64 (a.1), .int .i64 (a.2)]⟩, some ⟨.box, .vals [.int .i64 ((flat ms).getD (0 + (↑i : Int).toNat * 2) 0), .int .i64 ((flat ms).getD (0 + (↑i : Int).toNat * 2 + 1) 0)]⟩, some ⟨.box, .vals [.int .i64 (IntKind.i64.wrap (a.1 + (flat ms).getD (0 + (↑i : Int).toNat * 2) 0)), .int .i64 (IntKind.i64.wrap (a.2 + (flat ms).getD (0 + (↑i : Int).toNat * 2 + 1) 0))]⟩, some ⟨.row 32 2, .vals [.int .i64 (IntKind.i64.wrap (a.1 + (flat ms).getD (0 + (↑i : Int).toNat * 2) 0)), .int .i64 (IntKind.i64.wrap (a.2 + (flat ms).getD (0 + (↑i : Int).toNat * 2 + 1) 0))]⟩, some ⟨.row 32 2, .ints (List.take (o.length * 2) (List.drop 0 (flat o)) ++ [IntKind.i64.wrap (a.1 + (flat ms).getD (0 + (↑i : Int).toNat * 2) 0), IntKind.i64.wrap (a.2 + (flat ms).getD (0 + (↑i : Int).toNat * 2 + 1) 0)])⟩]⟩))) (.leaf .normal ⟨(topV :: topV :: topV :: topV :: topV :: .pointer (some ⟨3, 0, none⟩) :: .slice (some ⟨8, 0, none⟩) (o.length) (o.length) :: topV :: topV :: topV :: topV :: topV :: topV :: topV :: topV :: topV :: topV :: topV :: topV :: topV :: topV :: topV :: .slice (some ⟨7, 0, none⟩) (ms.length) (ms.length) :: .int .i64 ((↑ms.length : Int)) :: .int .i64 (IntKind.i64.wrap ((↑i : Int) + 1)) :: topV :: topV :: topV :: topV :: topV :: topV :: topV :: topV :: topV :: topV :: topV :: topV :: topV :: topV :: topV :: topV :: topV :: []), [some deadB, some deadB, none, some ⟨.box, .vals [.int .i64 (IntKind.i64.wrap (a.1 + (flat ms).getD (0 + (↑i : Int).toNat * 2) 0)), .int .i64 (IntKind.i64.wrap (a.2 + (flat ms).getD (0 + (↑i : Int).toNat * 2 + 1) 0))]⟩, some deadB, some deadB, some deadB, some ⟨.row 32 2, .ints (flat ms)⟩, some ⟨.row 32 2, .ints (flat o)⟩, some ⟨.box, .vals [.int .i64 ((flat ms).getD (0 + (↑i : Int).toNat * 2) 0), .int .i64 ((flat ms).getD (0 + (↑i : Int).toNat * 2 + 1) 0)]⟩, some ⟨.box, .vals [.int .i64 (a.1), .int .i64 (a.2)]⟩, some ⟨.box, .vals [.int .i64 ((flat ms).getD (0 + (↑i : Int).toNat * 2) 0), .int .i64 ((flat ms).getD (0 + (↑i : Int).toNat * 2 + 1) 0)]⟩, some ⟨.box, .vals [.int .i64 (IntKind.i64.wrap (a.1 + (flat ms).getD (0 + (↑i : Int).toNat * 2) 0)), .int .i64 (IntKind.i64.wrap (a.2 + (flat ms).getD (0 + (↑i : Int).toNat * 2 + 1) 0))]⟩]⟩)))))) (.leaf (.exit 0) ⟨(topV :: topV :: topV :: topV :: topV :: topV :: .slice (some ⟨8, 0, none⟩) (o.length) (o.length) :: topV :: topV :: topV :: topV :: topV :: topV :: topV :: topV :: topV :: topV :: topV :: topV :: topV :: topV :: topV :: topV :: topV :: topV :: topV :: topV :: topV :: topV :: topV :: topV :: topV :: topV :: topV :: topV :: topV :: topV :: topV :: topV :: topV :: topV :: topV :: []), [some deadB, some deadB, none, some ⟨.box, .vals [.int .i64 (a.1), .int .i64 (a.2)]⟩, some deadB, some deadB, some deadB, some ⟨.row 32 2, .ints (flat ms)⟩, some ⟨.row 32 2, .ints (flat o)⟩]⟩) := by kernel_rfl
set_option maxRecDepth 100000 in
theorem nl_adh : loopsOf c_adh = [] := by kernel_rfl
def inv_adh (ms : List Pt) (x y : Int) : Nat × Pt × (List Pt) → Prop := fun (i, a, o) => i ≤ ms.length ∧ o.length ≤ i + 1 ∧ 0 < o.length ∧ o.getD 0 (0, 0) = (x, y) ∧ (-(2000 + 4000 * (i : Int)) ≤ a.1 ∧ a.1 ≤ 2000 + 4000 * i ∧ -(2000 + 4000 * (i : Int)) ≤ a.2 ∧ a.2 ≤ 2000 + 4000 * i) ∧ o ++ cuF (x, y) a (ms.drop i) = addR (x, y) ms
def me_adh (ms : List Pt) (x y : Int) : Nat × Pt × (List Pt) → Nat := fun (i, a, o) => ms.length - i
/-- A round of this loop. -/
def Round_adh (ms : List Pt) (x y : Int) : Prop := ∀ xx : Nat × Pt × (List Pt), inv_adh ms x y xx → (bodyL Try.prog EMf 30 12 noL 1 c_adh k_adh 24 (s_adh ms x y xx)).ok (RoundEnd 8 (s_adh ms x y) (inv_adh ms x y) (me_adh ms x y) re_adh (rs_adh ms x y) xx) (fun _ _ => False)
def e_adh (s : St) (k : Ex → St → Tree) : Option Tree := match Nat.beq s.tmps.length 42, pickL s.tmps [5, 6, 22, 23, 24], s.mem with
  | true, [.pointer (some ⟨3, 0, none⟩), .slice (some ⟨4, 0, none⟩) z _, .slice (some ⟨7, 0, none⟩) n _, .int .i64 n1, .int .i64 i0], [_, _, none, some ⟨.box, .vals [.int .i64 x, .int .i64 y]⟩, some ⟨.row 32 2, .vals [.int .i64 x1, .int .i64 y1]⟩, _, _, some ⟨.row 32 2, .ints xs⟩] => some (needs [z = 1, n1 = n, i0 = 0, x1 = x, y1 = y, xs.length = n * 2, all4 (ptsA n xs) = true, n ≤ 1000, pt2 x y = true] (k (.exit 0) ⟨(topV :: topV :: topV :: topV :: topV :: topV :: .slice (some ⟨8, 0, none⟩) (addR (x, y) (ptsA n xs)).length (addR (x, y) (ptsA n xs)).length :: topV :: topV :: topV :: topV :: topV :: topV :: topV :: topV :: topV :: topV :: topV :: topV :: topV :: topV :: topV :: topV :: topV :: topV :: topV :: topV :: topV :: topV :: topV :: topV :: topV :: topV :: topV :: topV :: topV :: topV :: topV :: topV :: topV :: topV :: topV :: []), [some ⟨.dead, .vals []⟩, some ⟨.dead, .vals []⟩, none, some ⟨.dead, .vals []⟩, some ⟨.dead, .vals []⟩, some ⟨.dead, .vals []⟩, some ⟨.dead, .vals []⟩, some ⟨.dead, .vals []⟩, some ⟨.row 32 2, .ints (flat (addR (x, y) (ptsA n xs)))⟩]⟩))
  | _, _, _ => none
theorem ad_bd {a m : Pt} {i : Nat} (h5 : -(2000 + 4000 * (i : Int)) ≤ a.1 ∧ a.1 ≤ 2000 + 4000 * i ∧ -(2000 + 4000 * (i : Int)) ≤ a.2 ∧ a.2 ≤ 2000 + 4000 * i) (hm : -4000 ≤ m.1 ∧ m.1 ≤ 4000 ∧ -4000 ≤ m.2 ∧ m.2 ≤ 4000) : -(2000 + 4000 * ((i + 1 : Nat) : Int)) ≤ (adP a m).1 ∧ (adP a m).1 ≤ 2000 + 4000 * ((i + 1 : Nat) : Int) ∧ -(2000 + 4000 * ((i + 1 : Nat) : Int)) ≤ (adP a m).2 ∧ (adP a m).2 ≤ 2000 + 4000 * ((i + 1 : Nat) : Int) := by
  unfold adP
  simp only
  omega
set_option maxRecDepth 100000 in
theorem round_adh (ms : List Pt) (x y : Int) (hm : all4 ms = true) (h : ms.length ≤ 1000) : Round_adh ms x y := by
  rintro ⟨i, a, o⟩ ⟨h1, h2, h3, h4, h5, h6⟩
  rw [tr_adh]
  have f0 : (flat o).getD 0 0 = x := by have := flat_get0 o 0; rw [h4] at this; exact this
  have f1 : (flat o).getD 1 0 = y := by have := flat_get1 o 0; rw [h4] at this; exact this
  simp only [Int.toNat_natCast, Nat.zero_add, flat_get0, flat_get1, flat_length, List.drop_zero, flat_take, List.take_length, f0, f1]
  refine brT_ok.2 ⟨fun c => ?_, fun c => ?_⟩
  · have c := of_decide_eq_true c
    have hi : i < ms.length := by omega
    have b4 := pt4_iff.1 (all4_at hm hi)
    simp (disch := omega) only [wr]
    have ek : (i : Int) + 1 = ((i + 1 : Nat) : Int) := by omega
    rw [ek]
    rw [drop_cons2 hi, cuF_cons] at h6
    have h7 := ad_bd h5 b4
    have sn := flat_snoc o (a.1 + (ms.getD i (0, 0)).1) (a.2 + (ms.getD i (0, 0)).2)
    rw [sn]
    generalize ms.getD i (0, 0) = m at *
    have eb : (a.1 + m.1 == x && (a.2 + m.2 == y && true)) = decide (adP a m = (x, y)) := by
      rw [Bool.eq_iff_iff]
      simp [adP, Prod.mk.injEq]
    rw [eb]
    refine ⟨by omega, by omega, by omega, by omega, brT_ok.2 ⟨fun q => ?_, fun q => ?_⟩⟩
    · have c : ¬ adP a m = (x, y) := by
        intro c
        rw [decide_eq_true c] at q
        exact absurd q (by decide)
      rw [if_neg c] at h6
      refine ⟨by omega, by omega, (i + 1, adP a m, o ++ [adP a m]), [some 14], ⟨by omega, by simp; omega, by simp, ?_, h7, by simpa using h6⟩, ?_, rfl, rfl, ?_⟩
      · rw [getD_append, if_pos h3, h4]
      · show ms.length - (i + 1) < ms.length - i; omega
      · repeat' (first | exact True.intro | exact rfl | exact wv_top _ _ | exact fun _ => rfl | (simp; done) | refine And.intro ?_ ?_)
    · have c : adP a m = (x, y) := by
        rcases Decidable.em (adP a m = (x, y)) with c | c
        · exact c
        · rw [decide_eq_false c] at q
          exact absurd q (by decide)
      rw [if_pos c] at h6
      refine ⟨(i + 1, adP a m, o), [some 8], ⟨by omega, by omega, h3, h4, h7, h6⟩, ?_, rfl, rfl, ?_⟩
      · show ms.length - (i + 1) < ms.length - i; omega
      · repeat' (first | exact True.intro | exact rfl | exact wv_top _ _ | exact fun _ => rfl | (simp; done) | refine And.intro ?_ ?_)
  · have c := of_decide_eq_false c
    have e : o = addR (x, y) ms := by
      rw [← h6, List.drop_of_length_le (by omega)]
      show o = o ++ []
      simp
    refine ⟨rfl, [some 8], ?_⟩
    simp only [rs_adh, ← e]
    repeat' (first | exact True.intro | exact rfl | exact wv_top _ _ | exact fun _ => rfl | (simp; done) | refine And.intro ?_ ?_)
set_option maxRecDepth 100000 in
theorem lg_adh : LoopE Try.prog e_adh c_adh := by
  intro s k t F H hlt ht
  unfold e_adh at hlt
  split at hlt
  rotate_left
  · cases hlt
  rename_i hlen hpick hmem
  obtain ⟨tmps, mem⟩ := s
  simp only at hlen hpick hmem
  subst hmem
  obtain rfl := Option.some.inj hlt
  obtain ⟨⟨rfl, rfl, rfl, rfl, rfl, h1, h2, h3, h4, _⟩, ht2⟩ := needs_ok ht
  clear ht hlt
  obtain ⟨ms, rfl, rfl⟩ := even_flat h1
  rw [ptsA_flat] at ht2 h2
  refine ⟨_, _, ht2, loop_run2 mixed EMf_ok (s_adh ms _ _) (inv_adh ms _ _) (me_adh ms _ _) re_adh (rs_adh ms _ _) k_adh (fun _ => rfl) (noLoops nl_adh) (round_adh ms _ _ h2 h3) (x := (0, (_, _), [(_, _)])) ⟨Nat.zero_le _, Nat.le_refl _, Nat.zero_lt_one, rfl, by have := pt2_iff.1 h4; simp only; omega, rfl⟩ (π := [some 4]) rfl ?_⟩
  refine ⟨rfl, rfl, ?_, wvs_spread' [5, 6, 22, 23, 24] hlen rfl ?_⟩
  · repeat' (first | exact True.intro | exact rfl | exact wv_top _ _ | exact fun _ => rfl | assumption | exact Eq.symm (by assumption) | exact vI0 rfl | refine And.intro ?_ ?_)
  · rw [hpick]
    repeat' (first | exact True.intro | exact rfl | exact wv_top _ _ | exact fun _ => rfl | assumption | exact Eq.symm (by assumption) | exact vI0 rfl | refine And.intro ?_ ?_)
theorem Lr_adh {fn : Func} (hf : Try.prog.funcs[35]? = some fn) : LoopsGood Try.prog (lt1 e_adh) 0 (codeOf fn) := by
  obtain rfl := fn_is Try.func35 hf
  exact lt1_good lg_adh
def LAh : FuncId → LT := fun f => match f with
  | 35 => lt1 e_adh
  | _ => noL
def EAh : Env := mkE B0 RMg LAh
theorem EAh_ok : EnvOk Try.prog EAh := mkEOk B0_ok RMg_ok (by
  intro f fn hf
  unfold LAh
  split
  all_goals first | with_reducible exact Lr_adh hf | exact noL_good)
set_option maxRecDepth 100000 in
theorem tr_iAh (us vs : List Pt) : bodyX Try.prog EAh 30 12 35 [.row us.length (.ints (flat us)), .row vs.length (.ints (flat vs))] = .need ((0 : Int) ≤ (0 : Int) ∧ (0 : Int) < (↑us.length : Int)) (.need ((2 : Nat) ≤ (flat us).length) (.need ((0 : Int) ≤ (0 : Int) ∧ (0 : Int) < (↑vs.length : Int)) (.need ((2 : Nat) ≤ (flat vs).length) (.need (us.length * (2 : Nat) ≤ (List.drop (0 : Nat) (flat us)).length) (.need (allV (ptsA us.length (List.drop (0 : Nat) (flat us))) = true) (.need (us.length ≤ (1000 : Nat)) (.need (vs.length * (2 : Nat) ≤ (List.drop (0 : Nat) (flat vs)).length) (.need (allV (ptsA vs.length (List.drop (0 : Nat) (flat vs))) = true) (.need (vs.length ≤ (1000 : Nat)) (.need ((sdC (ptsA us.length (List.drop (0 : Nat) (flat us)))).length * (2 : Nat) ≤ (List.drop (0 : Nat) (flat (sdC (ptsA us.length (List.drop (0 : Nat) (flat us)))))).length) (.need ((sdC (ptsA vs.length (List.drop (0 : Nat) (flat vs)))).length * (2 : Nat) ≤ (List.drop (0 : Nat) (flat (sdC (ptsA vs.length (List.drop (0 : Nat) (flat vs)))))).length) (.need (allW (ptsA (sdC (ptsA us.length (List.drop (0 : Nat) (flat us)))).length (List.drop (0 : Nat) (flat (sdC (ptsA us.length (List.drop (0 : Nat) (flat us))))))) = true) (.need (allW (ptsA (sdC (ptsA vs.length (List.drop (0 : Nat) (flat vs)))).length (List.drop (0 : Nat) (flat (sdC (ptsA vs.length (List.drop (0 : Nat) (flat vs))))))) = true) (.need ((sdC (ptsA us.length (List.drop (0 : Nat) (flat us)))).length + (sdC (ptsA vs.length (List.drop (0 : Nat) (flat vs)))).length ≤ (1000 : Nat)) (.need ((0 : Nat) < (sdC (ptsA us.length (List.drop (0 : Nat) (flat us)))).length + (sdC (ptsA vs.length (List.drop (0 : Nat) (flat vs)))).length) (.need ((1 : Nat) = (1 : Nat)) (.need ((↑(mrg (ptsA (sdC (ptsA us.length (List.drop (0 : Nat) (flat us)))).length (List.drop (0 : Nat) (flat (sdC (ptsA us.length (List.drop (0 : Nat) (flat us))))))) (ptsA (sdC (ptsA vs.length (List.drop (0 : Nat) (flat vs)))).length (List.drop (0 : Nat) (flat (sdC (ptsA vs.length (List.drop (0 : Nat) (flat vs)))))))).length : Int) = (↑(mrg (ptsA (sdC (ptsA us.length (List.drop (0 : Nat) (flat us)))).length (List.drop (0 : Nat) (flat (sdC (ptsA us.length (List.drop (0 : Nat) (flat us))))))) (ptsA (sdC (ptsA vs.length (List.drop (0 : Nat) (flat vs)))).length (List.drop (0 : Nat) (flat (sdC (ptsA vs.length (List.drop (0 : Nat) (flat vs)))))))).length : Int)) (.need ((0 : Int) = (0 : Int)) (.need (IntKind.i64.wrap ((flat us).getD (0 : Nat) (0 : Int) + (flat vs).getD (0 : Nat) (0 : Int)) = IntKind.i64.wrap ((flat us).getD (0 : Nat) (0 : Int) + (flat vs).getD (0 : Nat) (0 : Int))) (.need (IntKind.i64.wrap ((flat us).getD (1 : Nat) (0 : Int) + (flat vs).getD (1 : Nat) (0 : Int)) = IntKind.i64.wrap ((flat us).getD (1 : Nat) (0 : Int) + (flat vs).getD (1 : Nat) (0 : Int))) (.need ((flat (mrg (ptsA (sdC (ptsA us.length (List.drop (0 : Nat) (flat us)))).length (List.drop (0 : Nat) (flat (sdC (ptsA us.length (List.drop (0 : Nat) (flat us))))))) (ptsA (sdC (ptsA vs.length (List.drop (0 : Nat) (flat vs)))).length (List.drop (0 : Nat) (flat (sdC (ptsA vs.length (List.drop (0 : Nat) (flat vs))))))))).length = (mrg (ptsA (sdC (ptsA us.length (List.drop (0 : Nat) (flat us)))).length (List.drop (0 : Nat) (flat (sdC (ptsA us.length (List.drop (0 : Nat) (flat us))))))) (ptsA (sdC (ptsA vs.length (List.drop (0 : Nat) (flat vs)))).length (List.drop (0 : Nat) (flat (sdC (ptsA vs.length (List.drop (0 : Nat) (flat vs)))))))).length * (2 : Nat)) (.need (all4 (ptsA (mrg (ptsA (sdC (ptsA us.length (List.drop (0 : Nat) (flat us)))).length (List.drop (0 : Nat) (flat (sdC (ptsA us.length (List.drop (0 : Nat) (flat us))))))) (ptsA (sdC (ptsA vs.length (List.drop (0 : Nat) (flat vs)))).length (List.drop (0 : Nat) (flat (sdC (ptsA vs.length (List.drop (0 : Nat) (flat vs)))))))).length (flat (mrg (ptsA (sdC (ptsA us.length (List.drop (0 : Nat) (flat us)))).length (List.drop (0 : Nat) (flat (sdC (ptsA us.length (List.drop (0 : Nat) (flat us))))))) (ptsA (sdC (ptsA vs.length (List.drop (0 : Nat) (flat vs)))).length (List.drop (0 : Nat) (flat (sdC (ptsA vs.length (List.drop (0 : Nat) (flat vs)))))))))) = true) (.need ((mrg (ptsA (sdC (ptsA us.length (List.drop (0 : Nat) (flat us)))).length (List.drop (0 : Nat) (flat (sdC (ptsA us.length (List.drop (0 : Nat) (flat us))))))) (ptsA (sdC (ptsA vs.length (List.drop (0 : Nat) (flat vs)))).length (List.drop (0 : Nat) (flat (sdC (ptsA vs.length (List.drop (0 : Nat) (flat vs)))))))).length ≤ (1000 : Nat)) (.need (pt2 (IntKind.i64.wrap ((flat us).getD (0 : Nat) (0 : Int) + (flat vs).getD (0 : Nat) (0 : Int))) (IntKind.i64.wrap ((flat us).getD (1 : Nat) (0 : Int) + (flat vs).getD (1 : Nat) (0 : Int))) = true) (.fin (.slice (some ⟨8, 0, none⟩) ((addR (IntKind.i64.wrap ((flat us).getD (0 + Int.toNat 0 * (2 : Nat)) 0 + (flat vs).getD (0 + Int.toNat 0 * (2 : Nat)) 0), IntKind.i64.wrap ((flat us).getD (0 + Int.toNat 0 * (2 : Nat) + 1) 0 + (flat vs).getD (0 + Int.toNat 0 * (2 : Nat) + 1) 0)) (ptsA (mrg (ptsA (sdC (ptsA us.length (List.drop 0 (flat us)))).length (List.drop 0 (flat (sdC (ptsA us.length (List.drop 0 (flat us))))))) (ptsA (sdC (ptsA vs.length (List.drop 0 (flat vs)))).length (List.drop 0 (flat (sdC (ptsA vs.length (List.drop 0 (flat vs)))))))).length (flat (mrg (ptsA (sdC (ptsA us.length (List.drop 0 (flat us)))).length (List.drop 0 (flat (sdC (ptsA us.length (List.drop 0 (flat us))))))) (ptsA (sdC (ptsA vs.length (List.drop 0 (flat vs)))).length (List.drop 0 (flat (sdC (ptsA vs.length (List.drop 0 (flat vs))))))))))).length) ((addR (IntKind.i64.wrap ((flat us).getD (0 + Int.toNat 0 * (2 : Nat)) 0 + (flat vs).getD (0 + Int.toNat 0 * (2 : Nat)) 0), IntKind.i64.wrap ((flat us).getD (0 + Int.toNat 0 * (2 : Nat) + 1) 0 + (flat vs).getD (0 + Int.toNat 0 * (2 : Nat) + 1) 0)) (ptsA (mrg (ptsA (sdC (ptsA us.length (List.drop 0 (flat us)))).length (List.drop 0 (flat (sdC (ptsA us.length (List.drop 0 (flat us))))))) (ptsA (sdC (ptsA vs.length (List.drop 0 (flat vs)))).length (List.drop 0 (flat (sdC (ptsA vs.length (List.drop 0 (flat vs)))))))).length (flat (mrg (ptsA (sdC (ptsA us.length (List.drop 0 (flat us)))).length (List.drop 0 (flat (sdC (ptsA us.length (List.drop 0 (flat us))))))) (ptsA (sdC (ptsA vs.length (List.drop 0 (flat vs)))).length (List.drop 0 (flat (sdC (ptsA vs.length (List.drop 0 (flat vs))))))))))).length)) [some deadB, some deadB, none, some deadB, some deadB, some deadB, some deadB, some deadB, some ⟨.row 32 2, .ints (flat (addR (IntKind.i64.wrap ((flat us).getD (0 + Int.toNat 0 * (2 : Nat)) 0 + (flat vs).getD (0 + Int.toNat 0 * (2 : Nat)) 0), IntKind.i64.wrap ((flat us).getD (0 + Int.toNat 0 * (2 : Nat) + 1) 0 + (flat vs).getD (0 + Int.toNat 0 * (2 : Nat) + 1) 0)) (ptsA (mrg (ptsA (sdC (ptsA us.length (List.drop 0 (flat us)))).length (List.drop 0 (flat (sdC (ptsA us.length (List.drop 0 (flat us))))))) (ptsA (sdC (ptsA vs.length (List.drop 0 (flat vs)))).length (List.drop 0 (flat (sdC (ptsA vs.length (List.drop 0 (flat vs)))))))).length (flat (mrg (ptsA (sdC (ptsA us.length (List.drop 0 (flat us)))).length (List.drop 0 (flat (sdC (ptsA us.length (List.drop 0 (flat us))))))) (ptsA (sdC (ptsA vs.length (List.drop 0 (flat vs)))).length (List.drop 0 (flat (sdC (ptsA vs.length (List.drop 0 (flat vs))))))))))))⟩]))))))))))))))))))))))))) := by kernel_rfl
theorem addL_is (us vs : List Pt) : addL us vs = addR (adP (us.getD 0 (0, 0)) (vs.getD 0 (0, 0))) (mrg (sdC us) (sdC vs)) := rfl
theorem fl00 (l : List Pt) : (flat l).getD 0 0 = (l.getD 0 (0, 0)).1 := flat_get0 l 0
theorem fl01 (l : List Pt) : (flat l).getD 1 0 = (l.getD 0 (0, 0)).2 := flat_get1 l 0
theorem resR_iAh {us vs : List Pt} (hu : allV us = true) (hv : allV vs = true) (h : us.length ≤ 100) (h' : vs.length ≤ 100) (u0 : 0 < us.length) (v0 : 0 < vs.length) : ResR Try.prog 35 [.row us.length (.ints (flat us)), .row vs.length (.ints (flat vs))] (rowP (addL us vs)) (blkP (addL us vs)) := by
  refine bodyX_resR mixed EAh_ok (m := 30) (n := 12) rfl ?_
  rw [tr_iAh]
  have a1 := allV_gt hu u0
  have a2 := allV_gt hv v0
  have w1 := allW_sd hu
  have w2 := allW_sd hv
  have l1 := sdC_len us
  have l2 := sdC_len vs
  have l3 := mrg_len _ (sdC us) (sdC vs) (Nat.le_refl _)
  have w3 := mrg_all4 _ (sdC us) (sdC vs) (Nat.le_refl _) w1 w2
  have fu := flat_length us
  have fv := flat_length vs
  simp only [ptsA_flat, List.drop_zero, Int.toNat_zero, Nat.zero_mul, Nat.zero_add, Nat.add_zero, fl00, fl01, flat_length]
  simp (disch := omega) only [wr]
  have p2 : pt2 ((us.getD 0 (0, 0)).1 + (vs.getD 0 (0, 0)).1) ((us.getD 0 (0, 0)).2 + (vs.getD 0 (0, 0)).2) = true := pt2_iff.2 (by omega)
  rw [addL_is]
  have e : ((us.getD 0 (0, 0)).1 + (vs.getD 0 (0, 0)).1, (us.getD 0 (0, 0)).2 + (vs.getD 0 (0, 0)).2) = adP (us.getD 0 (0, 0)) (vs.getD 0 (0, 0)) := rfl
  rw [e]
  generalize addR (adP (us.getD 0 (0, 0)) (vs.getD 0 (0, 0))) (mrg (sdC us) (sdC vs)) = A at *
  repeat' (first | exact True.intro | assumption | omega | exact rfl | exact ⟨some 8, ⟨rfl, rfl, rfl⟩, rfl, rfl, rfl⟩ | refine And.intro ?_ ?_)
end Go.Proofs.Ytbfoheblcoakiaa
