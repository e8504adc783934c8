/-
  Texts that the proof needs, merged. Written by an AI agent.
-/
import Derived.Orders
import Derived.Below
import Derived.OrdersIn
import Derived.Deep.LoopGhost
import Derived.WalkKit
import Derived.Laws.CopyRow
import Derived.Laws.AppendOwn
import Derived.Laws.Slices
import Derived.Laws.MakeOwn
import Derived.Test.YtnjmepbblcfnfabRows
import Derived.ProofKit
import Derived.OpenShut
import Derived.Carry
import Derived.IntWalk
import Derived.Test.YtnjmepbblcfnfabProg
import Derived.WalkSpells
import Derived.WalkLawsBesides
import Derived.Lib.Hide
import Derived.Deep.QuietTactic
import Derived.BigQuiet
import Derived.KernelRfl
import Derived.Deep.RegionHeld3
import Derived.LoopTactic
import Derived.Laws.StructEq
import Derived.Laws.Tables
import Derived.RangeFuncNested
import Derived.RangeFuncLeaves
import Derived.Deep.Slices
import Derived.Deep.Fields
import Derived.ChangeSame
import Derived.Shelf.SlSortCmp.WholeK
import Derived.Sort.Grow
import Derived.Deep.DeepCutAuto
import Derived.Shelf.SlSortCmp.NoneTotal
import Derived.Test.YtnjmepbblcfnfabZMapInterior7
namespace Go.Proofs.Ytnjmepbblcfnfab
set_option linter.all false
open Go.RowKit
def imgP (a b c d : Int) (p : Pt) : Pt := (a * p.1 + b * p.2, c * p.1 + d * p.2)
def imgs (a b c d : Int) (ps : List Pt) : List Pt := ps.map (imgP a b c d)
theorem map_step {a b c d : Int} {ps : List Pt} {i : Nat} (h : i < ps.length) (o : List Pt) : o ++ imgs a b c d (ps.drop i) = (o ++ [imgP a b c d (ps.getD i (0, 0))]) ++ imgs a b c d (ps.drop (i + 1)) := by
  unfold imgs
  rw [drop_cons h (0, 0)]
  simp
theorem map_end {a b c d : Int} {ps : List Pt} {i : Nat} (h : ps.length ≤ i) : imgs a b c d (ps.drop i) = [] := by
  unfold imgs
  rw [List.drop_of_length_le h]
  rfl
theorem mtS {ds : List DArg} {v : Value} {C : List Prop} (h : pMt ds = some (v, C)) : Res Try.prog 101 ds v := by
  unfold pMt at h
  split at h
  · obtain ⟨rfl, rfl⟩ : _ ∧ _ := by simpa using h
    exact res_specMt _ _ _ _
  · cases h
theorem mtI {ds : List DArg} {v : Value} {C : List Prop} (h : pMt ds = some (v, C)) : Res Try.prog 98 ds v := by
  unfold pMt at h
  split at h
  · obtain ⟨rfl, rfl⟩ : _ ∧ _ := by simpa using h
    exact res_implMt _ _ _ _
  · cases h
def TMp : Tab := fun f ds => match f with
  | 101 => pMt ds
  | 98 => pMt ds
  | f => T2 f ds
theorem TMp_ok : TabOk Try.prog TMp := by
  intro f ds v C h hC
  unfold TMp at h
  split at h
  · exact mtS h
  · exact mtI h
  · exact T2_ok _ _ _ _ h hC
def EMp0 : Env := mkE TMp (fun _ _ => none) (fun _ => noL)
theorem EMp0_ok : EnvOk Try.prog EMp0 := mkEOk TMp_ok (fun _ _ _ _ _ h => (by cases h)) (fun _ _ _ => noL_good)
noncomputable def c_specMap : Code := ((loopsOf (codeOf Try.f49))[0]?).getD .skip
def k_specMap : Ex → List Nat := keeps [1, 2, 6, 7] [(0, [6])] [4, 5]
def s_specMap (ps : List Pt) (a b c d : Int) : Nat × (List Pt) → St := fun (i, o) => ⟨(topV :: .slice (some ⟨1, 0, none⟩) ps.length ps.length :: .pointer (some ⟨2, 0, none⟩) :: topV :: topV :: topV :: .slice (some ⟨4, 0, none⟩) o.length o.length :: .int .i64 i :: topV :: topV :: topV :: topV :: topV :: topV :: topV :: topV :: topV :: topV :: topV :: topV :: topV :: topV :: topV :: topV :: topV :: topV :: topV :: topV :: topV :: topV :: topV :: topV :: topV :: topV :: topV :: topV :: []), [none, some ⟨.view, .ints (flat ps)⟩, some ⟨.box, .vals [.int .i64 a, .int .i64 b, .int .i64 c, .int .i64 d]⟩, some ⟨.dead, .vals []⟩, some ⟨.row 31 2, .ints (flat o)⟩]⟩
def re_specMap : Nat × (List Pt) → Ex := fun _ => .exit 0
def rs_specMap (ps : List Pt) (a b c d : Int) : Nat × (List Pt) → St := fun (i, o) => ⟨(topV :: topV :: topV :: topV :: topV :: topV :: .slice (some ⟨4, 0, none⟩) (o ++ imgs a b c d (ps.drop i)).length (o ++ imgs a b c d (ps.drop i)).length :: topV :: topV :: topV :: topV :: topV :: topV :: topV :: topV :: topV :: topV :: topV :: topV :: topV :: topV :: topV :: topV :: topV :: topV :: topV :: topV :: topV :: topV :: topV :: topV :: topV :: topV :: topV :: topV :: topV :: []), [none, some ⟨.view, .ints (flat ps)⟩, some ⟨.box, .vals [.int .i64 a, .int .i64 b, .int .i64 c, .int .i64 d]⟩, some ⟨.dead, .vals []⟩, some ⟨.row 31 2, .ints (flat (o ++ imgs a b c d (ps.drop i)))⟩]⟩
set_option maxRecDepth 100000 in
theorem tr_specMap (ps : List Pt) (a b c d : Int) (i : Nat) (o : List Pt) : bodyL Try.prog EMp0 30 12 noL 1 c_specMap k_specMap 14 (s_specMap ps a b c d (i, o)) = brT (decide ((↑i : Int) < (↑ps.length : Int))) (.need ((0 : Int) ≤ (↑i : Int) ∧ (↑i : Int) < (↑ps.length : Int)) (.need ((0 : Nat) + (↑i : Int).toNat * (2 : Nat) + (2 : Nat) ≤ (flat ps).length) (.need ((o.length + (1 : Nat)) * (16 : Nat) ≤ (140737488355328 : Nat) ∧ o.length + (1 : Nat) ≤ (1000000 : Nat)) (.need ((0 : Nat) + o.length * (2 : Nat) ≤ (flat o).length) (.leaf .normal ⟨(topV :: .slice (some ⟨1, 0, none⟩) (ps.length) (ps.length) :: .pointer (some ⟨2, 0, none⟩) :: topV :: topV :: topV :: .slice (some ⟨7, 0, none⟩) (o.length + 1) (o.length + 1) :: .int .i64 (IntKind.i64.wrap ((↑i : Int) + 1)) :: topV :: topV :: topV :: topV :: topV :: topV :: topV :: topV :: topV :: topV :: topV :: topV :: topV :: topV :: topV :: topV :: topV :: topV :: topV :: topV :: topV :: topV :: topV :: topV :: topV :: topV :: topV :: topV :: []), [none, some ⟨.view, .ints (flat ps)⟩, some ⟨.box, .vals [.int .i64 (a), .int .i64 (b), .int .i64 (c), .int .i64 (d)]⟩, some deadB, some deadB, none, some ⟨.row 31 2, .vals [.int .i64 (IntKind.i64.wrap (IntKind.i64.wrap (a * (flat ps).getD (0 + (↑i : Int).toNat * 2) 0) + IntKind.i64.wrap (b * (flat ps).getD (0 + (↑i : Int).toNat * 2 + 1) 0))), .int .i64 (IntKind.i64.wrap (IntKind.i64.wrap (c * (flat ps).getD (0 + (↑i : Int).toNat * 2) 0) + IntKind.i64.wrap (d * (flat ps).getD (0 + (↑i : Int).toNat * 2 + 1) 0)))]⟩, some ⟨.row 31 2, .ints (List.take (o.length * 2) (List.drop 0 (flat o)) ++ [IntKind.i64.wrap (IntKind.i64.wrap (a * (flat ps).getD (0 + (↑i : Int).toNat * 2) 0) + IntKind.i64.wrap (b * (flat ps).getD (0 + (↑i : Int).toNat * 2 + 1) 0)), IntKind.i64.wrap (IntKind.i64.wrap (c * (flat ps).getD (0 + (↑i : Int).toNat * 2) 0) + IntKind.i64.wrap (d * (flat ps).getD (0 + (↑i : Int).toNat * 2 + 1) 0))])⟩]⟩))))) (.leaf (.exit 0) ⟨(topV :: topV :: topV :: topV :: topV :: topV :: .slice (some ⟨4, 0, none⟩) (o.length) (o.length) :: topV :: topV :: topV :: topV :: topV :: topV :: topV :: topV :: topV :: topV :: topV :: topV :: topV :: topV :: topV :: topV :: topV :: topV :: topV :: topV :: topV :: topV :: topV :: topV :: topV :: topV :: topV :: topV :: topV :: []), [none, some ⟨.view, .ints (flat ps)⟩, some ⟨.box, .vals [.int .i64 (a), .int .i64 (b), .int .i64 (c), .int .i64 (d)]⟩, some deadB, some ⟨.row 31 2, .ints (flat o)⟩]⟩) := by kernel_rfl
set_option maxRecDepth 100000 in
theorem nl_specMap : loopsOf c_specMap = [] := by kernel_rfl
def inv_specMap (ps : List Pt) (a b c d : Int) : Nat × (List Pt) → Prop := fun (i, o) => i ≤ ps.length ∧ o.length ≤ i
def me_specMap (ps : List Pt) (a b c d : Int) : Nat × (List Pt) → Nat := fun (i, o) => ps.length - i
/-- A round of this loop. -/
def Round_specMap (ps : List Pt) (a b c d : Int) : Prop := ∀ xx : Nat × (List Pt), inv_specMap ps a b c d xx → (bodyL Try.prog EMp0 30 12 noL 1 c_specMap k_specMap 14 (s_specMap ps a b c d xx)).ok (RoundEnd 4 (s_specMap ps a b c d) (inv_specMap ps a b c d) (me_specMap ps a b c d) re_specMap (rs_specMap ps a b c d) xx) (fun _ _ => False)
def e_specMap (s : St) (k : Ex → St → Tree) : Option Tree := match Nat.beq s.tmps.length 36, pickL s.tmps [1, 2, 6, 7], s.mem with
  | true, [.slice (some ⟨1, 0, none⟩) m _, .pointer (some ⟨2, 0, none⟩), .slice (some ⟨3, 0, none⟩) z _, .int .i64 i], [none, some ⟨.view, .ints xs⟩, some ⟨.box, .vals [.int .i64 a, .int .i64 b, .int .i64 c, .int .i64 d]⟩, some ⟨.row 31 2, .vals []⟩] => some (needs [i = 0, z = 0, xs.length = m * 2, m ≤ 20, allV (ptsA m xs) = true, mtB a b c d = true] (k (.exit 0) ⟨(topV :: topV :: topV :: topV :: topV :: topV :: .slice (some ⟨4, 0, none⟩) (imgs a b c d (ptsA m xs)).length (imgs a b c d (ptsA m xs)).length :: topV :: topV :: topV :: topV :: topV :: topV :: topV :: topV :: topV :: topV :: topV :: topV :: topV :: topV :: topV :: topV :: topV :: topV :: topV :: topV :: topV :: topV :: topV :: topV :: topV :: topV :: topV :: topV :: topV :: []), [none, some ⟨.view, .ints xs⟩, some ⟨.box, .vals [.int .i64 a, .int .i64 b, .int .i64 c, .int .i64 d]⟩, some ⟨.dead, .vals []⟩, some ⟨.row 31 2, .ints (flat (imgs a b c d (ptsA m xs)))⟩]⟩))
  | _, _, _ => none
noncomputable def c_implMap : Code := ((loopsOf (codeOf Try.f48))[0]?).getD .skip
def k_implMap : Ex → List Nat := keeps [2, 6, 17, 18, 19] [(0, [6])] [4, 5]
def s_implMap (ps : List Pt) (a b c d : Int) : Nat × (List Pt) → St := fun (i, o) => ⟨(topV :: topV :: .pointer (some ⟨2, 0, none⟩) :: topV :: topV :: topV :: .slice (some ⟨3, 0, none⟩) o.length o.length :: topV :: topV :: topV :: topV :: topV :: topV :: topV :: topV :: topV :: topV :: .slice (some ⟨1, 0, none⟩) ps.length ps.length :: .int .i64 ps.length :: .int .i64 i :: topV :: topV :: topV :: topV :: topV :: topV :: topV :: topV :: topV :: topV :: topV :: topV :: topV :: topV :: []), [none, some ⟨.view, .ints (flat ps)⟩, some ⟨.box, .vals [.int .i64 a, .int .i64 b, .int .i64 c, .int .i64 d]⟩, some ⟨.row 31 2, .ints (flat o)⟩]⟩
def re_implMap : Nat × (List Pt) → Ex := fun _ => .exit 0
def rs_implMap (ps : List Pt) (a b c d : Int) : Nat × (List Pt) → St := fun (i, o) => ⟨(topV :: topV :: topV :: topV :: topV :: topV :: .slice (some ⟨3, 0, none⟩) (o ++ imgs a b c d (ps.drop i)).length (o ++ imgs a b c d (ps.drop i)).length :: topV :: topV :: topV :: topV :: topV :: topV :: topV :: topV :: topV :: topV :: topV :: topV :: topV :: topV :: topV :: topV :: topV :: topV :: topV :: topV :: topV :: topV :: topV :: topV :: topV :: topV :: topV :: []), [none, some ⟨.view, .ints (flat ps)⟩, some ⟨.box, .vals [.int .i64 a, .int .i64 b, .int .i64 c, .int .i64 d]⟩, some ⟨.row 31 2, .ints (flat (o ++ imgs a b c d (ps.drop i)))⟩]⟩
set_option maxRecDepth 100000 in
theorem tr_implMap (ps : List Pt) (a b c d : Int) (i : Nat) (o : List Pt) : bodyL Try.prog EMp0 30 12 noL 1 c_implMap k_implMap 14 (s_implMap ps a b c d (i, o)) = brT (decide ((↑i : Int) < (↑ps.length : Int))) (.need ((0 : Int) ≤ (↑i : Int) ∧ (↑i : Int) < (↑ps.length : Int)) (.need ((0 : Nat) + (↑i : Int).toNat * (2 : Nat) + (2 : Nat) ≤ (flat ps).length) (.need ((o.length + (1 : Nat)) * (16 : Nat) ≤ (140737488355328 : Nat) ∧ o.length + (1 : Nat) ≤ (1000000 : Nat)) (.need ((0 : Nat) + o.length * (2 : Nat) ≤ (flat o).length) (.leaf .normal ⟨(topV :: topV :: .pointer (some ⟨2, 0, none⟩) :: topV :: topV :: topV :: .slice (some ⟨6, 0, none⟩) (o.length + 1) (o.length + 1) :: topV :: topV :: topV :: topV :: topV :: topV :: topV :: topV :: topV :: topV :: .slice (some ⟨1, 0, none⟩) (ps.length) (ps.length) :: .int .i64 ((↑ps.length : Int)) :: .int .i64 (IntKind.i64.wrap ((↑i : Int) + 1)) :: topV :: topV :: topV :: topV :: topV :: topV :: topV :: topV :: topV :: topV :: topV :: topV :: topV :: topV :: []), [none, some ⟨.view, .ints (flat ps)⟩, some ⟨.box, .vals [.int .i64 (a), .int .i64 (b), .int .i64 (c), .int .i64 (d)]⟩, some deadB, some ⟨.box, .vals [.int .i64 ((flat ps).getD (0 + (↑i : Int).toNat * 2) 0), .int .i64 ((flat ps).getD (0 + (↑i : Int).toNat * 2 + 1) 0)]⟩, some ⟨.row 31 2, .vals [.int .i64 (IntKind.i64.wrap (IntKind.i64.wrap (a * (flat ps).getD (0 + (↑i : Int).toNat * 2) 0) + IntKind.i64.wrap (b * (flat ps).getD (0 + (↑i : Int).toNat * 2 + 1) 0))), .int .i64 (IntKind.i64.wrap (IntKind.i64.wrap (c * (flat ps).getD (0 + (↑i : Int).toNat * 2) 0) + IntKind.i64.wrap (d * (flat ps).getD (0 + (↑i : Int).toNat * 2 + 1) 0)))]⟩, some ⟨.row 31 2, .ints (List.take (o.length * 2) (List.drop 0 (flat o)) ++ [IntKind.i64.wrap (IntKind.i64.wrap (a * (flat ps).getD (0 + (↑i : Int).toNat * 2) 0) + IntKind.i64.wrap (b * (flat ps).getD (0 + (↑i : Int).toNat * 2 + 1) 0)), IntKind.i64.wrap (IntKind.i64.wrap (c * (flat ps).getD (0 + (↑i : Int).toNat * 2) 0) + IntKind.i64.wrap (d * (flat ps).getD (0 + (↑i : Int).toNat * 2 + 1) 0))])⟩, some ⟨.box, .vals [.int .i64 (a), .int .i64 (b), .int .i64 (c), .int .i64 (d)]⟩, some ⟨.box, .vals [.int .i64 ((flat ps).getD (0 + (↑i : Int).toNat * 2) 0), .int .i64 ((flat ps).getD (0 + (↑i : Int).toNat * 2 + 1) 0)]⟩, some ⟨.box, .vals [.int .i64 (IntKind.i64.wrap (IntKind.i64.wrap (a * (flat ps).getD (0 + (↑i : Int).toNat * 2) 0) + IntKind.i64.wrap (b * (flat ps).getD (0 + (↑i : Int).toNat * 2 + 1) 0))), .int .i64 (IntKind.i64.wrap (IntKind.i64.wrap (c * (flat ps).getD (0 + (↑i : Int).toNat * 2) 0) + IntKind.i64.wrap (d * (flat ps).getD (0 + (↑i : Int).toNat * 2 + 1) 0)))]⟩]⟩))))) (.leaf (.exit 0) ⟨(topV :: topV :: topV :: topV :: topV :: topV :: .slice (some ⟨3, 0, none⟩) (o.length) (o.length) :: topV :: topV :: topV :: topV :: topV :: topV :: topV :: topV :: topV :: topV :: topV :: topV :: topV :: topV :: topV :: topV :: topV :: topV :: topV :: topV :: topV :: topV :: topV :: topV :: topV :: topV :: topV :: []), [none, some ⟨.view, .ints (flat ps)⟩, some ⟨.box, .vals [.int .i64 (a), .int .i64 (b), .int .i64 (c), .int .i64 (d)]⟩, some ⟨.row 31 2, .ints (flat o)⟩]⟩) := by kernel_rfl
set_option maxRecDepth 100000 in
theorem nl_implMap : loopsOf c_implMap = [] := by kernel_rfl
def inv_implMap (ps : List Pt) (a b c d : Int) : Nat × (List Pt) → Prop := fun (i, o) => i ≤ ps.length ∧ o.length ≤ i
def me_implMap (ps : List Pt) (a b c d : Int) : Nat × (List Pt) → Nat := fun (i, o) => ps.length - i
/-- A round of this loop. -/
def Round_implMap (ps : List Pt) (a b c d : Int) : Prop := ∀ xx : Nat × (List Pt), inv_implMap ps a b c d xx → (bodyL Try.prog EMp0 30 12 noL 1 c_implMap k_implMap 14 (s_implMap ps a b c d xx)).ok (RoundEnd 3 (s_implMap ps a b c d) (inv_implMap ps a b c d) (me_implMap ps a b c d) re_implMap (rs_implMap ps a b c d) xx) (fun _ _ => False)
def e_implMap (s : St) (k : Ex → St → Tree) : Option Tree := match Nat.beq s.tmps.length 34, pickL s.tmps [2, 6, 17, 18, 19], s.mem with
  | true, [.pointer (some ⟨2, 0, none⟩), .slice none 0 0, .slice (some ⟨1, 0, none⟩) m _, .int .i64 l, .int .i64 i], [none, some ⟨.view, .ints xs⟩, some ⟨.box, .vals [.int .i64 a, .int .i64 b, .int .i64 c, .int .i64 d]⟩] => some (needs [i = 0, l = m, xs.length = m * 2, m ≤ 20, allV (ptsA m xs) = true, mtB a b c d = true] (k (.exit 0) ⟨(topV :: topV :: topV :: topV :: topV :: topV :: .slice (some ⟨3, 0, none⟩) (imgs a b c d (ptsA m xs)).length (imgs a b c d (ptsA m xs)).length :: topV :: topV :: topV :: topV :: topV :: topV :: topV :: topV :: topV :: topV :: topV :: topV :: topV :: topV :: topV :: topV :: topV :: topV :: topV :: topV :: topV :: topV :: topV :: topV :: topV :: topV :: topV :: []), [none, some ⟨.view, .ints xs⟩, some ⟨.box, .vals [.int .i64 a, .int .i64 b, .int .i64 c, .int .i64 d]⟩, some ⟨.row 31 2, .ints (flat (imgs a b c d (ptsA m xs)))⟩]⟩))
  | _, _, _ => none
set_option maxRecDepth 100000 in
theorem round_specMap (ps : List Pt) (a b c d : Int) (h : ps.length ≤ 20) (hv : allV ps = true) (hm : mtB a b c d = true) : Round_specMap ps a b c d := by
  rintro ⟨i, o⟩ ⟨h1, h2⟩
  rw [tr_specMap]
  have bp := allV_get hv i
  have bm := mtB_is hm
  have m1 := mul_bd (x := a) (y := (ps.getD i (0, 0)).1) 1000 1000 bm.1 (by omega)
  have m2 := mul_bd (x := b) (y := (ps.getD i (0, 0)).2) 1000 1000 bm.2.1 (by omega)
  have m3 := mul_bd (x := c) (y := (ps.getD i (0, 0)).1) 1000 1000 bm.2.2.1 (by omega)
  have m4 := mul_bd (x := d) (y := (ps.getD i (0, 0)).2) 1000 1000 bm.2.2.2 (by omega)
  simp only [brT_ok, Tree.ok, decide_eq_true_eq, decide_eq_false_iff_not, Int.toNat_natCast, Nat.zero_add, flat_length, flat_get0, flat_get1, List.drop_zero, flat_all]
  refine ⟨fun hlt => ?_, fun hge => ?_⟩
  · rw [wsucc (n := ps.length) (by omega) (by omega)]
    simp (disch := omega) only [wr]
    rw [flat_snoc]
    have e := map_step (a := a) (b := b) (c := c) (d := d) (ps := ps) (i := i) (by omega) o
    refine ⟨by omega, by omega, by omega, by omega, (i + 1, o ++ [imgP a b c d (ps.getD i (0, 0))]), [some 7], ⟨by omega, by simp; omega⟩, ?_, rfl, ?_, ?_⟩
    · show ps.length - (i + 1) < ps.length - i; omega
    · simp only [rs_specMap, e]
    · repeat' (first | exact True.intro | exact rfl | exact fun _ => rfl | (simp; done) | refine And.intro ?_ ?_)
  · refine ⟨rfl, [some 4], ?_⟩
    simp only [rs_specMap, map_end (a := a) (b := b) (c := c) (d := d) (ps := ps) (i := i) (by omega), List.append_nil]
    repeat' (first | exact True.intro | exact rfl | exact fun _ => rfl | refine And.intro ?_ ?_)
set_option maxRecDepth 100000 in
theorem lg_specMap : LoopE Try.prog e_specMap c_specMap := by
  intro s k t F H hlt ht
  unfold e_specMap at hlt
  split at hlt
  rotate_left
  · cases hlt
  rename_i hlen hpick hmem
  obtain ⟨tmps, mem⟩ := s
  simp only at hlen hpick hmem
  subst hmem
  obtain rfl := Option.some.inj hlt
  obtain ⟨⟨rfl, rfl, h1, h3, h4, h5, _⟩, ht2⟩ := needs_ok ht
  clear ht hlt
  obtain ⟨ps, rfl, rfl⟩ := even_flat h1
  rw [ptsA_flat] at ht2 h4
  refine ⟨_, _, ht2, loop_run2 mixed EMp0_ok (s_specMap ps _ _ _ _) (inv_specMap ps _ _ _ _) (me_specMap ps _ _ _ _) re_specMap (rs_specMap ps _ _ _ _) k_specMap (fun _ => rfl) (noLoops nl_specMap) (round_specMap ps _ _ _ _ h3 h4 h5) (x := (0, [])) ⟨Nat.zero_le _, Nat.le_refl _⟩ (π := [some 3]) rfl ?_⟩
  refine ⟨rfl, rfl, ?_, wvs_spread' [1, 2, 6, 7] hlen rfl ?_⟩
  · repeat' (first | exact True.intro | exact rfl | exact wv_top _ _ | exact fun _ => rfl | assumption | exact Eq.symm (by assumption) | exact vI0 rfl | refine And.intro ?_ ?_)
  · rw [hpick]
    repeat' (first | exact True.intro | exact rfl | exact wv_top _ _ | exact fun _ => rfl | assumption | exact Eq.symm (by assumption) | exact vI0 rfl | refine And.intro ?_ ?_)
set_option maxRecDepth 100000 in
theorem round_implMap (ps : List Pt) (a b c d : Int) (h : ps.length ≤ 20) (hv : allV ps = true) (hm : mtB a b c d = true) : Round_implMap ps a b c d := by
  rintro ⟨i, o⟩ ⟨h1, h2⟩
  rw [tr_implMap]
  have bp := allV_get hv i
  have bm := mtB_is hm
  have m1 := mul_bd (x := a) (y := (ps.getD i (0, 0)).1) 1000 1000 bm.1 (by omega)
  have m2 := mul_bd (x := b) (y := (ps.getD i (0, 0)).2) 1000 1000 bm.2.1 (by omega)
  have m3 := mul_bd (x := c) (y := (ps.getD i (0, 0)).1) 1000 1000 bm.2.2.1 (by omega)
  have m4 := mul_bd (x := d) (y := (ps.getD i (0, 0)).2) 1000 1000 bm.2.2.2 (by omega)
  simp only [brT_ok, Tree.ok, decide_eq_true_eq, decide_eq_false_iff_not, Int.toNat_natCast, Nat.zero_add, flat_length, flat_get0, flat_get1, List.drop_zero, flat_all]
  refine ⟨fun hlt => ?_, fun hge => ?_⟩
  · rw [wsucc (n := ps.length) (by omega) (by omega)]
    simp (disch := omega) only [wr]
    rw [flat_snoc]
    have e := map_step (a := a) (b := b) (c := c) (d := d) (ps := ps) (i := i) (by omega) o
    refine ⟨by omega, by omega, by omega, by omega, (i + 1, o ++ [imgP a b c d (ps.getD i (0, 0))]), [some 6], ⟨by omega, by simp; omega⟩, ?_, rfl, ?_, ?_⟩
    · show ps.length - (i + 1) < ps.length - i; omega
    · simp only [rs_implMap, e]
    · repeat' (first | exact True.intro | exact rfl | exact fun _ => rfl | (simp; done) | refine And.intro ?_ ?_)
  · refine ⟨rfl, [some 3], ?_⟩
    simp only [rs_implMap, map_end (a := a) (b := b) (c := c) (d := d) (ps := ps) (i := i) (by omega), List.append_nil]
    repeat' (first | exact True.intro | exact rfl | exact fun _ => rfl | refine And.intro ?_ ?_)
set_option maxRecDepth 100000 in
theorem lg_implMap : LoopE Try.prog e_implMap c_implMap := by
  intro s k t F H hlt ht
  unfold e_implMap at hlt
  split at hlt
  rotate_left
  · cases hlt
  rename_i hlen hpick hmem
  obtain ⟨tmps, mem⟩ := s
  simp only at hlen hpick hmem
  subst hmem
  obtain rfl := Option.some.inj hlt
  obtain ⟨⟨rfl, rfl, h1, h3, h4, h5, _⟩, ht2⟩ := needs_ok ht
  clear ht hlt
  obtain ⟨ps, rfl, rfl⟩ := even_flat h1
  rw [ptsA_flat] at ht2 h4
  refine ⟨_, _, ht2, loop_run2 mixed EMp0_ok (s_implMap ps _ _ _ _) (inv_implMap ps _ _ _ _) (me_implMap ps _ _ _ _) re_implMap (rs_implMap ps _ _ _ _) k_implMap (fun _ => rfl) (noLoops nl_implMap) (round_implMap ps _ _ _ _ h3 h4 h5) (x := (0, [])) ⟨Nat.zero_le _, Nat.le_refl _⟩ (π := [none]) rfl ?_⟩
  refine ⟨rfl, rfl, ?_, wvs_spread' [2, 6, 17, 18, 19] hlen rfl ?_⟩
  · repeat' (first | exact True.intro | exact rfl | exact wv_top _ _ | exact fun _ => rfl | assumption | exact Eq.symm (by assumption) | exact vI0 rfl | refine And.intro ?_ ?_)
  · rw [hpick]
    repeat' (first | exact True.intro | exact rfl | exact wv_top _ _ | exact fun _ => rfl | assumption | exact Eq.symm (by assumption) | exact vI0 rfl | refine And.intro ?_ ?_)
theorem Lr_specMap {fn : Func} (hf : Try.prog.funcs[49]? = some fn) : LoopsGood Try.prog (lt1 e_specMap) 0 (codeOf fn) := by
  obtain rfl := fn_is Try.func49 hf
  exact lt1_good lg_specMap
theorem Lr_implMap {fn : Func} (hf : Try.prog.funcs[48]? = some fn) : LoopsGood Try.prog (lt1 e_implMap) 0 (codeOf fn) := by
  obtain rfl := fn_is Try.func48 hf
  exact lt1_good lg_implMap
def LMap : FuncId → LT := fun f => match f with
  | 49 => lt1 e_specMap
  | 48 => lt1 e_implMap
  | _ => noL
def EMp1 : Env := mkE TMp (fun _ _ => none) LMap
theorem EMp1_ok : EnvOk Try.prog EMp1 := mkEOk TMp_ok (fun _ _ _ _ _ h => (by cases h)) (by
  intro f fn hf
  unfold LMap
  split
  all_goals first | with_reducible exact Lr_specMap hf | with_reducible exact Lr_implMap hf | exact noL_good)
set_option maxRecDepth 100000 in
theorem tr_specMapF (ps : List Pt) (a b c d : Int) : bodyX Try.prog EMp1 30 12 49 [.v (.agg #[iv a, iv b, iv c, iv d]), .row ps.length (.ints (flat ps))] = brT (!mtB a b c d) (.fin (.tuple #[.slice none (0) (0), .bool (false)]) [none, some ⟨.view, .ints (flat ps)⟩, some ⟨.box, .vals [.int .i64 (a), .int .i64 (b), .int .i64 (c), .int .i64 (d)]⟩, some ⟨.row 31 2, .vals []⟩]) (.need (ps.length * (2 : Nat) ≤ (List.drop (0 : Nat) (flat ps)).length) (.need (ps.length ≤ (1000000000 : Nat)) (brT (!okL (ptsA ps.length (List.drop 0 (flat ps)))) (.fin (.tuple #[.slice none (0) (0), .bool (false)]) [none, some ⟨.view, .ints (flat ps)⟩, some ⟨.box, .vals [.int .i64 (a), .int .i64 (b), .int .i64 (c), .int .i64 (d)]⟩, some ⟨.row 31 2, .vals []⟩]) (.need ((0 : Int) = (0 : Int)) (.need ((0 : Nat) = (0 : Nat)) (.need ((flat ps).length = ps.length * (2 : Nat)) (.need (ps.length ≤ (20 : Nat)) (.need (allV (ptsA ps.length (flat ps)) = true) (.need (mtB a b c d = true) (.need ((imgs a b c d (ptsA ps.length (flat ps))).length * (2 : Nat) ≤ (List.drop (0 : Nat) (flat (imgs a b c d (ptsA ps.length (flat ps))))).length) (.need ((imgs a b c d (ptsA ps.length (flat ps))).length ≤ (1000000000 : Nat)) (brT (!okL (ptsA (imgs a b c d (ptsA ps.length (flat ps))).length (List.drop 0 (flat (imgs a b c d (ptsA ps.length (flat ps))))))) (.fin (.tuple #[.slice none (0) (0), .bool (false)]) [none, some ⟨.view, .ints (flat ps)⟩, some ⟨.box, .vals [.int .i64 (a), .int .i64 (b), .int .i64 (c), .int .i64 (d)]⟩, some deadB, some ⟨.row 31 2, .ints (flat (imgs a b c d (ptsA ps.length (flat ps))))⟩]) (.fin (.tuple #[.slice (some ⟨4, 0, none⟩) ((imgs a b c d (ptsA ps.length (flat ps))).length) ((imgs a b c d (ptsA ps.length (flat ps))).length), .bool (true)]) [none, some ⟨.view, .ints (flat ps)⟩, some ⟨.box, .vals [.int .i64 (a), .int .i64 (b), .int .i64 (c), .int .i64 (d)]⟩, some deadB, some ⟨.row 31 2, .ints (flat (imgs a b c d (ptsA ps.length (flat ps))))⟩]))))))))))))) := by kernel_rfl
set_option maxRecDepth 100000 in
theorem tr_implMapF (ps : List Pt) (a b c d : Int) : bodyX Try.prog EMp1 30 12 48 [.v (.agg #[iv a, iv b, iv c, iv d]), .row ps.length (.ints (flat ps))] = brT (!mtB a b c d) (.fin (.tuple #[.slice none (0) (0), .bool (false)]) [none, some ⟨.view, .ints (flat ps)⟩, some ⟨.box, .vals [.int .i64 (a), .int .i64 (b), .int .i64 (c), .int .i64 (d)]⟩]) (brT (decide ((↑ps.length : Int) ≤ 20)) (.need (ps.length * (2 : Nat) ≤ (List.drop (0 : Nat) (flat ps)).length) (.need (ps.length ≤ (1000000000 : Nat)) (brT (!allV (ptsA ps.length (List.drop 0 (flat ps)))) (.fin (.tuple #[.slice none (0) (0), .bool (false)]) [none, some ⟨.view, .ints (flat ps)⟩, some ⟨.box, .vals [.int .i64 (a), .int .i64 (b), .int .i64 (c), .int .i64 (d)]⟩]) (.need ((0 : Int) = (0 : Int)) (.need ((↑ps.length : Int) = (↑ps.length : Int)) (.need ((flat ps).length = ps.length * (2 : Nat)) (.need (ps.length ≤ (20 : Nat)) (.need (allV (ptsA ps.length (flat ps)) = true) (.need (mtB a b c d = true) (.need ((imgs a b c d (ptsA ps.length (flat ps))).length * (2 : Nat) ≤ (List.drop (0 : Nat) (flat (imgs a b c d (ptsA ps.length (flat ps))))).length) (.need ((imgs a b c d (ptsA ps.length (flat ps))).length ≤ (1000000000 : Nat)) (brT (!allV (ptsA (imgs a b c d (ptsA ps.length (flat ps))).length (List.drop 0 (flat (imgs a b c d (ptsA ps.length (flat ps))))))) (.fin (.tuple #[.slice none (0) (0), .bool (false)]) [none, some ⟨.view, .ints (flat ps)⟩, some ⟨.box, .vals [.int .i64 (a), .int .i64 (b), .int .i64 (c), .int .i64 (d)]⟩, some ⟨.row 31 2, .ints (flat (imgs a b c d (ptsA ps.length (flat ps))))⟩]) (.fin (.tuple #[.slice (some ⟨3, 0, none⟩) ((imgs a b c d (ptsA ps.length (flat ps))).length) ((imgs a b c d (ptsA ps.length (flat ps))).length), .bool (true)]) [none, some ⟨.view, .ints (flat ps)⟩, some ⟨.box, .vals [.int .i64 (a), .int .i64 (b), .int .i64 (c), .int .i64 (d)]⟩, some ⟨.row 31 2, .ints (flat (imgs a b c d (ptsA ps.length (flat ps))))⟩]))))))))))))) (.fin (.tuple #[.slice none (0) (0), .bool (false)]) [none, some ⟨.view, .ints (flat ps)⟩, some ⟨.box, .vals [.int .i64 (a), .int .i64 (b), .int .i64 (c), .int .i64 (d)]⟩])) := by kernel_rfl
theorem imgs_len (a b c d : Int) (ps : List Pt) : (imgs a b c d ps).length = ps.length := by
  unfold imgs
  simp
abbrev rowBP (b : Bool) (ps : List Pt) : Value := .tuple #[.slice (some ⟨0, 0, none⟩) ps.length ps.length, .bool b]
def mpB (a b c d : Int) (ps : List Pt) : Bool := mtB a b c d && okL ps && allV (imgs a b c d ps)
/-- What MapPoints answers. -/
def mpV (a b c d : Int) (ps : List Pt) : List Pt := bif mpB a b c d ps then imgs a b c d ps else []
theorem resR_specMap (ps : List Pt) (a b c d : Int) (h : Big ps) : ResR Try.prog 49 [.v (.agg #[iv a, iv b, iv c, iv d]), .row ps.length (.ints (flat ps))] (rowBP (mpB a b c d ps) (mpV a b c d ps)) ⟨.row 31 2, .ints (flat (mpV a b c d ps))⟩ := by
  refine bodyX_resR mixed EMp1_ok (m := 30) (n := 12) rfl ?_
  rw [tr_specMapF]
  unfold Big at h
  simp only [List.drop_zero, ptsA_flat, flat_length]
  unfold mpV mpB
  rcases hm : mtB a b c d with _ | _
  · exact ⟨none, ⟨⟨rfl, rfl⟩, ⟨rfl, rfl⟩, trivial⟩, trivial⟩
  rcases hk : okL ps with _ | _
  · exact ⟨Nat.le_refl _, h, none, ⟨⟨rfl, rfl⟩, ⟨rfl, rfl⟩, trivial⟩, trivial⟩
  have hl : ps.length ≤ 20 ∧ allV ps = true := by simp only [okL, Bool.and_eq_true, decide_eq_true_eq] at hk; exact ⟨hk.2, hk.1⟩
  have hi := imgs_len a b c d ps
  have ho : okL (imgs a b c d ps) = allV (imgs a b c d ps) := by unfold okL; rw [hi, decide_eq_true hl.1, Bool.and_true]
  rw [ho]
  refine ⟨Nat.le_refl _, h, trivial, trivial, trivial, hl.1, hl.2, rfl, Nat.le_refl _, by omega, ?_⟩
  rcases hv : allV (imgs a b c d ps) with _ | _
  · exact ⟨none, ⟨⟨rfl, rfl⟩, ⟨rfl, rfl⟩, trivial⟩, trivial⟩
  · exact ⟨some 4, ⟨⟨rfl, rfl, rfl⟩, ⟨rfl, rfl⟩, trivial⟩, rfl, rfl, rfl⟩
theorem resR_implMap (ps : List Pt) (a b c d : Int) (h : Big ps) : ResR Try.prog 48 [.v (.agg #[iv a, iv b, iv c, iv d]), .row ps.length (.ints (flat ps))] (rowBP (mpB a b c d ps) (mpV a b c d ps)) ⟨.row 31 2, .ints (flat (mpV a b c d ps))⟩ := by
  refine bodyX_resR mixed EMp1_ok (m := 30) (n := 12) rfl ?_
  rw [tr_implMapF]
  unfold Big at h
  simp only [List.drop_zero, ptsA_flat, flat_length]
  unfold mpV mpB okL
  rcases hm : mtB a b c d with _ | _
  · exact ⟨none, ⟨⟨rfl, rfl⟩, ⟨rfl, rfl⟩, trivial⟩, trivial⟩
  by_cases hl : ps.length ≤ 20
  · have hl2 : (ps.length : Int) ≤ 20 := by omega
    rw [decide_eq_true hl2, decide_eq_true hl]
    rcases hk : allV ps with _ | _
    · exact ⟨Nat.le_refl _, h, none, ⟨⟨rfl, rfl⟩, ⟨rfl, rfl⟩, trivial⟩, trivial⟩
    have hi := imgs_len a b c d ps
    refine ⟨Nat.le_refl _, h, trivial, trivial, trivial, hl, rfl, rfl, Nat.le_refl _, by omega, ?_⟩
    rcases hv : allV (imgs a b c d ps) with _ | _
    · exact ⟨none, ⟨⟨rfl, rfl⟩, ⟨rfl, rfl⟩, trivial⟩, trivial⟩
    · exact ⟨some 3, ⟨⟨rfl, rfl, rfl⟩, ⟨rfl, rfl⟩, trivial⟩, rfl, rfl, rfl⟩
  · have hl2 : ¬ (ps.length : Int) ≤ 20 := by omega
    rw [decide_eq_false hl2, decide_eq_false hl]
    simp only [Bool.and_false, Bool.false_and, cond_false]
    exact ⟨none, ⟨⟨rfl, rfl⟩, ⟨rfl, rfl⟩, trivial⟩, trivial⟩
end Go.Proofs.Ytnjmepbblcfnfab
namespace Go.Proofs.Ytnjmepbblcfnfab
set_option linter.all false
open Go.RowKit
set_option maxRecDepth 100000 in
theorem tr_rmat (bs : List Int) (l c : Nat) (p : Int) : bodyM Try.prog ER2 (runM Try.prog ER2 30 12) 30 97 [.pointer (some ⟨1, 0, none⟩)] (memR bs l c p none) .fin = .need (rdC bs l p) (brT (pickI bs l p 2 == 0) (.need (rdC bs l (p + (1 : Int))) (.need (rdC bs l (p + (1 : Int) + (1 : Int))) (.fin (.agg #[.int .i64 (IntKind.i64.wrap (1 + IntKind.i64.wrap (IntKind.i64.wrap (pickI bs l (p + 1) 5 - 2) * IntKind.i64.wrap (pickI bs l (p + 1 + 1) 5 - 2)))), .int .i64 (IntKind.i64.wrap (pickI bs l (p + 1) 5 - 2)), .int .i64 (IntKind.i64.wrap (pickI bs l (p + 1 + 1) 5 - 2)), .int .i64 (1)]) [some ⟨.view, .bytes (bs)⟩, some ⟨.box, .vals [.slice (some ⟨0, 0, none⟩) (l) (c), .int .i64 (p + 1 + 1 + 1)]⟩, some ⟨.box, .vals [.int .i64 (IntKind.i64.wrap (1 + IntKind.i64.wrap (IntKind.i64.wrap (pickI bs l (p + 1) 5 - 2) * IntKind.i64.wrap (pickI bs l (p + 1 + 1) 5 - 2)))), .int .i64 (IntKind.i64.wrap (pickI bs l (p + 1) 5 - 2)), .int .i64 (IntKind.i64.wrap (pickI bs l (p + 1 + 1) 5 - 2)), .int .i64 (1)]⟩]))) (.need (rdC bs l (p + (1 : Int))) (.need (rdC bs l (p + (1 : Int) + (1 : Int))) (.need (rdC bs l (p + (1 : Int) + (1 : Int) + (1 : Int))) (.need (rdC bs l (p + (1 : Int) + (1 : Int) + (1 : Int) + (1 : Int))) (.fin (.agg #[.int .i64 (IntKind.i64.wrap (pickI bs l (p + 1) 7 - 3)), .int .i64 (IntKind.i64.wrap (pickI bs l (p + 1 + 1) 7 - 3)), .int .i64 (IntKind.i64.wrap (pickI bs l (p + 1 + 1 + 1) 7 - 3)), .int .i64 (IntKind.i64.wrap (pickI bs l (p + 1 + 1 + 1 + 1) 7 - 3))]) [some ⟨.view, .bytes (bs)⟩, some ⟨.box, .vals [.slice (some ⟨0, 0, none⟩) (l) (c), .int .i64 (p + 1 + 1 + 1 + 1 + 1)]⟩, some ⟨.box, .vals [.int .i64 (IntKind.i64.wrap (pickI bs l (p + 1) 7 - 3)), .int .i64 (IntKind.i64.wrap (pickI bs l (p + 1 + 1) 7 - 3)), .int .i64 (IntKind.i64.wrap (pickI bs l (p + 1 + 1 + 1) 7 - 3)), .int .i64 (IntKind.i64.wrap (pickI bs l (p + 1 + 1 + 1 + 1) 7 - 3))]⟩])))))) := by kernel_rfl
abbrev ag4 (a b c d : Int) : Value := .agg #[.int .i64 a, .int .i64 b, .int .i64 c, .int .i64 d]
theorem vq4 {a a' b b' c c' d d' : Int} (h1 : a = a') (h2 : b = b') (h3 : c = c') (h4 : d = d') : ag4 a b c d = ag4 a' b' c' d' := by rw [h1, h2, h3, h4]
/-- The entries of a random matrix. -/
def rmE (bs : List Int) (l : Nat) (p : Int) : Nat → Int
  | 0 => if pickI bs l p 2 = 0 then IntKind.i64.wrap (1 + IntKind.i64.wrap (IntKind.i64.wrap (pickI bs l (p + 1) 5 - 2) * IntKind.i64.wrap (pickI bs l (p + 1 + 1) 5 - 2))) else IntKind.i64.wrap (pickI bs l (p + 1) 7 - 3)
  | 1 => if pickI bs l p 2 = 0 then IntKind.i64.wrap (pickI bs l (p + 1) 5 - 2) else IntKind.i64.wrap (pickI bs l (p + 1 + 1) 7 - 3)
  | 2 => if pickI bs l p 2 = 0 then IntKind.i64.wrap (pickI bs l (p + 1 + 1) 5 - 2) else IntKind.i64.wrap (pickI bs l (p + 1 + 1 + 1) 7 - 3)
  | _ => if pickI bs l p 2 = 0 then 1 else IntKind.i64.wrap (pickI bs l (p + 1 + 1 + 1 + 1) 7 - 3)
def rmP (bs : List Int) (l : Nat) (p : Int) : Int := if pickI bs l p 2 = 0 then p + 3 else p + 5
def rmatS : RSpec := fun bs l p rest ex => match rest, ex with
  | [], none => some (ag4 (rmE bs l p 0) (rmE bs l p 1) (rmE bs l p 2) (rmE bs l p 3), rmP bs l p, [rdK bs l p])
  | _, _ => none
theorem rmatS_ok : SpecOk Try.prog 97 rmatS := by
  intro bs l c p rest0 ex v p' C h hC
  unfold rmatS at h
  split at h
  rotate_left
  · cases h
  obtain ⟨rfl, rfl, rfl⟩ : ag4 (rmE bs l p 0) (rmE bs l p 1) (rmE bs l p 2) (rmE bs l p 3) = v ∧ rmP bs l p = p' ∧ [rdK bs l p] = C := by simpa using h
  have h1 := hC.1
  refine ⟨ER2, 30, 12, ER2_ok, rfl, ?_⟩
  rw [tr_rmat]
  have r0 := h1.at (q := p) (by omega) (by omega)
  have r1 := h1.at (q := p + 1) (by omega) (by omega)
  have r2 := h1.at (q := p + 1 + 1) (by omega) (by omega)
  have r3 := h1.at (q := p + 1 + 1 + 1) (by omega) (by omega)
  have r4 := h1.at (q := p + 1 + 1 + 1 + 1) (by omega) (by omega)
  refine ⟨r0, brT_ok.2 ⟨fun hq => ?_, fun hq => ?_⟩⟩
  · have hq : pickI bs l p 2 = 0 := by simpa using hq
    exact ⟨r1, r2, vq4 (by simp only [rmE]; rw [if_pos hq]) (by simp only [rmE]; rw [if_pos hq]) (by simp only [rmE]; rw [if_pos hq]) (by simp only [rmE]; rw [if_pos hq]), box2 (by unfold rmP; rw [if_pos hq]; omega) _⟩
  · have hq : ¬ pickI bs l p 2 = 0 := by simpa using hq
    exact ⟨r1, r2, r3, r4, vq4 (by simp only [rmE]; rw [if_neg hq]) (by simp only [rmE]; rw [if_neg hq]) (by simp only [rmE]; rw [if_neg hq]) (by simp only [rmE]; rw [if_neg hq]), box2 (by unfold rmP; rw [if_neg hq]; omega) _⟩
theorem rmP_bd (bs : List Int) (l : Nat) (p : Int) : p + 3 ≤ rmP bs l p ∧ rmP bs l p ≤ p + 5 := by unfold rmP; split <;> omega
def JMq0 : List (FuncId × RSpec) := (97, rmatS) :: J3
theorem JMq0_ok : JOk Try.prog JMq0 := J3_ok.cons (entersB_res (by kernel_rfl)).1 rmatS_ok
def JMq : TabJ := consR 61 (rdGR pgS) (tabJ JMq0)
theorem JMq_ok : GSound Try.prog JMq.g := consR_ok mixed (tabJ_sound mixed JMq0_ok) (entersB_res (by kernel_rfl)).1 pgS_ok
def EDq : Env := ⟨B0, fun _ _ => none, fun _ => noL, JMq, fun _ => noR⟩
theorem EDq_ok : EnvOk Try.prog EDq := ⟨B0_ok, fun _ _ _ _ _ h => (by cases h), fun _ _ _ => noL_good, JMq_ok, fun _ _ _ => noR_good⟩
set_option maxRecDepth 100000 in
theorem tr_dMd (bs : List Int) (n : Nat) : bodyX Try.prog EDq 30 12 47 [.row n (.bytes bs)] = brT (decide (2000 < (↑n : Int))) (.need ((0 : Int) ≤ bndI none (0 : Int) ∧ bndI none (0 : Int) ≤ bndI (some (IntKind.i64, (2000 : Int))) (↑n : Int) ∧ bndI (some (IntKind.i64, (2000 : Int))) (↑n : Int) ≤ (↑n : Int)) (.need (rdK bs (2000 : Nat) (0 : Int)) (.need (rdC bs (2000 : Nat) (rmP bs (2000 : Nat) (0 : Int))) (.need (rmP bs (2000 : Nat) (0 : Int) ≤ (600000 : Int)) (.fin (.tuple #[.agg #[.int .i64 (rmE bs 2000 0 0), .int .i64 (rmE bs 2000 0 1), .int .i64 (rmE bs 2000 0 2), .int .i64 (rmE bs 2000 0 3)], .slice (some ⟨4, 0, none⟩) ((pgL bs 2000 (rmP bs 2000 0)).length) ((pgL bs 2000 (rmP bs 2000 0)).length)]) [some ⟨.view, .bytes (bs)⟩, some ⟨.box, .vals [.int .i64 (rmE bs 2000 0 0), .int .i64 (rmE bs 2000 0 1), .int .i64 (rmE bs 2000 0 2), .int .i64 (rmE bs 2000 0 3)]⟩, some ⟨.box, .vals [.slice (some ⟨0, 0, none⟩) (2000) (2000), .int .i64 (pgP bs 2000 (rmP bs 2000 0))]⟩, some ⟨.box, .vals [.int .i64 (rmE bs 2000 0 0), .int .i64 (rmE bs 2000 0 1), .int .i64 (rmE bs 2000 0 2), .int .i64 (rmE bs 2000 0 3)]⟩, some ⟨.row 31 2, .ints (flat (pgL bs 2000 (rmP bs 2000 0)))⟩]))))) (.need (rdK bs n (0 : Int)) (.need (rdC bs n (rmP bs n (0 : Int))) (.need (rmP bs n (0 : Int) ≤ (600000 : Int)) (.fin (.tuple #[.agg #[.int .i64 (rmE bs n 0 0), .int .i64 (rmE bs n 0 1), .int .i64 (rmE bs n 0 2), .int .i64 (rmE bs n 0 3)], .slice (some ⟨4, 0, none⟩) ((pgL bs n (rmP bs n 0)).length) ((pgL bs n (rmP bs n 0)).length)]) [some ⟨.view, .bytes (bs)⟩, some ⟨.box, .vals [.int .i64 (rmE bs n 0 0), .int .i64 (rmE bs n 0 1), .int .i64 (rmE bs n 0 2), .int .i64 (rmE bs n 0 3)]⟩, some ⟨.box, .vals [.slice (some ⟨0, 0, none⟩) (n) (n), .int .i64 (pgP bs n (rmP bs n 0))]⟩, some ⟨.box, .vals [.int .i64 (rmE bs n 0 0), .int .i64 (rmE bs n 0 1), .int .i64 (rmE bs n 0 2), .int .i64 (rmE bs n 0 3)]⟩, some ⟨.row 31 2, .ints (flat (pgL bs n (rmP bs n 0)))⟩])))) := by kernel_rfl
def dMdL (bs : List Int) (l : Nat) : Value := .tuple #[ag4 (rmE bs l 0 0) (rmE bs l 0 1) (rmE bs l 0 2) (rmE bs l 0 3), .slice (some ⟨0, 0, none⟩) (pgL bs l (rmP bs l 0)).length (pgL bs l (rmP bs l 0)).length]
def dMdR (bs : List Int) (l : Nat) : Blk := ⟨.row 31 2, .ints (flat (pgL bs l (rmP bs l 0)))⟩
theorem dqKey {bs : List Int} {n : Nat} (hb : Bytes bs) (hn : n ≤ bs.length) {l : Nat} (h1 : l ≤ n) (h2 : l ≤ 2000) : rdK bs l 0 ∧ rdC bs l (rmP bs l 0) ∧ rmP bs l 0 ≤ 100 ∧ (pgL bs l (rmP bs l 0)).length ≤ 40 := by
  have b0 := rmP_bd bs l 0
  have r0 : rdK bs l 0 := rdK0 hb hn h1 h2 (by omega) (by omega)
  exact ⟨r0, r0.at (by omega) (by omega), by omega, pgL_len (r0.at (by omega) (by omega)) (by omega)⟩
theorem resR_dMd (bs : List Int) (n : Nat) (hb : Bytes bs) (hn : n ≤ bs.length) : ResR Try.prog 47 [.row n (.bytes bs)] (dMdL bs (rdL n)) (dMdR bs (rdL n)) := by
  refine bodyX_resR mixed EDq_ok (m := 30) (n := 12) rfl ?_
  rw [tr_dMd]
  refine brT_ok.2 ⟨fun h => ?_, fun h => ?_⟩
  · have h := of_decide_eq_true h
    obtain ⟨k1, k2, k3, k4⟩ := dqKey hb hn (l := 2000) (by omega) (by omega)
    rw [rdL_of h]
    exact ⟨bnd2000 h, k1, k2, by omega, some 4, ⟨⟨rfl, rfl⟩, ⟨rfl, rfl, rfl⟩, trivial⟩, rfl, rfl, rfl⟩
  · have h := of_decide_eq_false h
    obtain ⟨k1, k2, k3, k4⟩ := dqKey hb hn (l := n) (by omega) (by omega)
    rw [rdL_no h]
    exact ⟨k1, k2, by omega, some 4, ⟨⟨rfl, rfl⟩, ⟨rfl, rfl, rfl⟩, trivial⟩, rfl, rfl, rfl⟩
end Go.Proofs.Ytnjmepbblcfnfab
