/-
  Texts that the proof needs, merged. Written by an AI agent.
-/
import Derived.Orders
import Derived.Below
import Derived.OrdersIn
import Derived.Deep.LoopGhost
import Derived.WalkKit
import Derived.Laws.CopyRow
import Derived.Laws.AppendOwn
import Derived.Laws.Slices
import Derived.Laws.MakeOwn
import Derived.Test.YtnjmepbblcfnfabRows
import Derived.ProofKit
import Derived.OpenShut
import Derived.Carry
import Derived.IntWalk
import Derived.Test.YtnjmepbblcfnfabProg
import Derived.WalkSpells
import Derived.WalkLawsBesides
import Derived.Lib.Hide
import Derived.Deep.QuietTactic
import Derived.BigQuiet
import Derived.KernelRfl
import Derived.Deep.RegionHeld3
import Derived.LoopTactic
import Derived.Laws.StructEq
import Derived.Laws.Tables
import Derived.RangeFuncNested
import Derived.RangeFuncLeaves
import Derived.Deep.Slices
import Derived.Deep.Fields
import Derived.ChangeSame
import Derived.Shelf.SlSortCmp.WholeK
import Derived.Sort.Grow
import Derived.Deep.DeepCutAuto
import Derived.Shelf.SlSortCmp.NoneTotal
import Derived.Test.YtnjmepbblcfnfabZLocate9
namespace Go.Proofs.Ytnjmepbblcfnfab
set_option linter.all false
open Go.RowKit
noncomputable def c_bkw : Code := ((loopsOf (codeOf Try.f19))[0]?).getD .skip
def k_bkw : Ex → List Nat := keeps [0, 3, 4] [(0, [3])] [2]
def s_bkw (ps : List Pt) : Nat × (List Pt) → St := fun (m, o) => ⟨[.slice (some ⟨0, 0, none⟩) ps.length ps.length, topV, topV, .slice (some ⟨2, 0, none⟩) o.length o.length, .int .i64 ((m : Int) - 1), topV, topV, topV, topV, topV, topV, topV, topV, topV, topV, topV, topV, topV, topV, topV, topV], [some ⟨.view, .ints (flat ps)⟩, some ⟨.dead, .vals []⟩, some ⟨.row 31 2, .ints (flat o)⟩]⟩
def re_bkw : Nat × (List Pt) → Ex := fun _ => .exit 0
def rs_bkw (ps : List Pt) : Nat × (List Pt) → St := fun (m, o) => ⟨[topV, topV, topV, .slice (some ⟨2, 0, none⟩) (revP ps).length (revP ps).length, topV, topV, topV, topV, topV, topV, topV, topV, topV, topV, topV, topV, topV, topV, topV, topV, topV], [some ⟨.view, .ints (flat ps)⟩, some ⟨.dead, .vals []⟩, some ⟨.row 31 2, .ints (flat (revP ps))⟩]⟩
set_option maxRecDepth 100000 in
theorem tr_bkw (ps : List Pt) (m : Nat) (o : List Pt) : bodyL Try.prog ERv 30 12 noL 1 c_bkw k_bkw 16 (s_bkw ps (m, o)) = brT (decide (0 ≤ (↑m : Int) - 1)) (.need ((0 : Int) ≤ (↑m : Int) - (1 : Int) ∧ (↑m : Int) - (1 : Int) < (↑ps.length : Int)) (.need ((0 : Nat) + ((↑m : Int) - (1 : Int)).toNat * (2 : Nat) + (2 : Nat) ≤ (flat ps).length) (.need ((o.length + (1 : Nat)) * (16 : Nat) ≤ (140737488355328 : Nat) ∧ o.length + (1 : Nat) ≤ (1000000 : Nat)) (.need ((0 : Nat) + o.length * (2 : Nat) ≤ (flat o).length) (.leaf .normal ⟨[.slice (some ⟨0, 0, none⟩) (ps.length) (ps.length), topV, topV, .slice (some ⟨4, 0, none⟩) (o.length + 1) (o.length + 1), .int .i64 (IntKind.i64.wrap ((↑m : Int) - 1 - 1)), topV, topV, topV, topV, topV, topV, topV, topV, topV, topV, topV, topV, topV, topV, topV, topV], [some ⟨.view, .ints (flat ps)⟩, some deadB, some deadB, some ⟨.row 31 2, .vals [.int .i64 ((flat ps).getD (0 + ((↑m : Int) - 1).toNat * 2) 0), .int .i64 ((flat ps).getD (0 + ((↑m : Int) - 1).toNat * 2 + 1) 0)]⟩, some ⟨.row 31 2, .ints (List.take (o.length * 2) (List.drop 0 (flat o)) ++ [(flat ps).getD (0 + ((↑m : Int) - 1).toNat * 2) 0, (flat ps).getD (0 + ((↑m : Int) - 1).toNat * 2 + 1) 0])⟩]⟩))))) (.leaf (.exit 0) ⟨[topV, topV, topV, .slice (some ⟨2, 0, none⟩) (o.length) (o.length), topV, topV, topV, topV, topV, topV, topV, topV, topV, topV, topV, topV, topV, topV, topV, topV, topV], [some ⟨.view, .ints (flat ps)⟩, some deadB, some ⟨.row 31 2, .ints (flat o)⟩]⟩) := by kernel_rfl
set_option maxRecDepth 100000 in
theorem nl_bkw : loopsOf c_bkw = [] := by kernel_rfl
def inv_bkw (ps : List Pt) : Nat × (List Pt) → Prop := fun (m, o) => m ≤ ps.length ∧ o = (ps.drop m).reverse
def me_bkw (ps : List Pt) : Nat × (List Pt) → Nat := fun (m, o) => m
/-- A round of this loop. -/
def Round_bkw (ps : List Pt) : Prop := ∀ xx : Nat × (List Pt), inv_bkw ps xx → (bodyL Try.prog ERv 30 12 noL 1 c_bkw k_bkw 16 (s_bkw ps xx)).ok (RoundEnd 2 (s_bkw ps) (inv_bkw ps) (me_bkw ps) re_bkw (rs_bkw ps) xx) (fun _ _ => False)
def e_bkw (s : St) (k : Ex → St → Tree) : Option Tree := match Nat.beq s.tmps.length 21, pickL s.tmps [0, 3, 4], s.mem with
  | true, [.slice (some ⟨0, 0, none⟩) n _, .slice (some ⟨1, 0, none⟩) z _, .int .i64 i0], [some ⟨.view, .ints xs⟩, some ⟨.row 31 2, .vals []⟩] => some (needs [i0 = (n : Int) - 1, z = 0, xs.length = n * 2, n ≤ 100000] (k (.exit 0) ⟨[topV, topV, topV, .slice (some ⟨2, 0, none⟩) (revP (ptsA n xs)).length (revP (ptsA n xs)).length, topV, topV, topV, topV, topV, topV, topV, topV, topV, topV, topV, topV, topV, topV, topV, topV, topV], [some ⟨.view, .ints xs⟩, some ⟨.dead, .vals []⟩, some ⟨.row 31 2, .ints (flat (revP (ptsA n xs)))⟩]⟩))
  | _, _, _ => none
set_option maxRecDepth 100000 in
theorem round_bkw (ps : List Pt) (h : ps.length ≤ 100000) : Round_bkw ps := by
  rintro ⟨m, o⟩ ⟨h1, rfl⟩
  rw [tr_bkw]
  have hl : (ps.drop m).reverse.length = ps.length - m := by simp
  refine brT_ok.2 ⟨fun hlt => ?_, fun hge => ?_⟩
  · have hlt := of_decide_eq_true hlt
    obtain ⟨m, rfl⟩ : ∃ k, m = k + 1 := ⟨m - 1, by omega⟩
    have j1 : (((m + 1 : Nat) : Int) - 1).toNat = m := by omega
    have w : IntKind.i64.wrap (((m + 1 : Nat) : Int) - 1 - 1) = (m : Int) - 1 := by rw [wr (by omega)]; omega
    have hs := rvd_step (ps := ps) (m := m) (by omega)
    have fs : flat (ps.drop (m + 1)).reverse ++ [(ps.getD m (0, 0)).1, (ps.getD m (0, 0)).2] = flat (ps.drop m).reverse := by
      rw [flat_snoc, ← hs]
    simp only [j1, w, Nat.zero_add, flat_get0, flat_get1, flat_length, flatR, fs]
    refine ⟨by omega, by omega, ⟨by omega, by omega⟩, by omega, (m, (ps.drop m).reverse), [some 4], ⟨by omega, rfl⟩, ?_, rfl, by simp only [rs_bkw], ?_⟩
    · show m < m + 1; omega
    · have e : (ps.drop (m + 1)).reverse.length + 1 = (ps.drop m).reverse.length := by rw [← hs]; simp
      rw [e]
      repeat' (first | exact True.intro | exact rfl | exact fun _ => rfl | (simp; done) | refine And.intro ?_ ?_)
  · have hge := of_decide_eq_false hge
    obtain rfl : m = 0 := by omega
    refine ⟨rfl, [some 2], ?_⟩
    simp only [rs_bkw, revP, List.drop_zero]
    repeat' (first | exact True.intro | exact rfl | exact fun _ => rfl | (simp; done) | refine And.intro ?_ ?_)
set_option maxRecDepth 100000 in
theorem lg_bkw : LoopE Try.prog e_bkw c_bkw := by
  intro s k t F H hlt ht
  unfold e_bkw at hlt
  split at hlt
  rotate_left
  · cases hlt
  rename_i hlen hpick hmem
  obtain ⟨tmps, mem⟩ := s
  simp only at hlen hpick hmem
  subst hmem
  obtain rfl := Option.some.inj hlt
  obtain ⟨⟨rfl, rfl, h1, h3, _⟩, ht2⟩ := needs_ok ht
  clear ht hlt
  obtain ⟨ps, rfl, rfl⟩ := even_flat h1
  rw [ptsA_flat] at ht2
  refine ⟨_, _, ht2, loop_run2 mixed ERv_ok (s_bkw ps) (inv_bkw ps) (me_bkw ps) re_bkw (rs_bkw ps) k_bkw (fun _ => rfl) (noLoops nl_bkw) (round_bkw ps h3) (x := (ps.length, [])) ⟨Nat.le_refl _, by rw [List.drop_length]; rfl⟩ (π := [some 1]) rfl ?_⟩
  refine ⟨rfl, rfl, ?_, wvs_spread' [0, 3, 4] hlen rfl ?_⟩
  · repeat' (first | exact True.intro | exact rfl | exact wv_top _ _ | exact fun _ => rfl | assumption | exact Eq.symm (by assumption) | exact vI0 rfl | refine And.intro ?_ ?_)
  · rw [hpick]
    repeat' (first | exact True.intro | exact rfl | exact wv_top _ _ | exact fun _ => rfl | assumption | exact Eq.symm (by assumption) | exact vI0 rfl | refine And.intro ?_ ?_)
/-- Moved points, as numbers of the machine. -/
def mvW (dx dy : Int) (p : Pt) : Pt := (IntKind.i64.wrap (p.1 + dx), IntKind.i64.wrap (p.2 + dy))
def mvWL (dx dy : Int) (ps : List Pt) : List Pt := ps.map (mvW dx dy)
theorem mvWL_len (dx dy : Int) (ps : List Pt) : (mvWL dx dy ps).length = ps.length := by unfold mvWL; simp
theorem mvWL_step (dx dy : Int) {ps : List Pt} {i : Nat} (h : i < ps.length) : mvWL dx dy (ps.take i) ++ [mvW dx dy (ps.getD i (0, 0))] = mvWL dx dy (ps.take (i + 1)) := by
  rw [← List.take_append_getElem h]
  unfold mvWL
  rw [List.map_append, show ps.getD i (0, 0) = ps[i] by simp [h]]
  rfl
noncomputable def c_mvd : Code := ((loopsOf (codeOf Try.f20))[0]?).getD .skip
def k_mvd : Ex → List Nat := keeps [0, 1, 2, 7, 8] [(0, [7])] [6]
def s_mvd (ps : List Pt) (dx dy : Int) : Nat × (List Pt) → St := fun (i, o) => ⟨(.slice (some ⟨0, 0, none⟩) ps.length ps.length :: .int .i64 dx :: .int .i64 dy :: topV :: topV :: topV :: topV :: .slice (some ⟨4, 0, none⟩) o.length o.length :: .int .i64 i :: topV :: topV :: topV :: topV :: topV :: topV :: topV :: topV :: topV :: topV :: topV :: topV :: topV :: topV :: topV :: topV :: topV :: topV :: topV :: topV :: topV :: topV :: topV :: topV :: topV :: topV :: []), [some ⟨.view, .ints (flat ps)⟩, none, none, some ⟨.dead, .vals []⟩, some ⟨.row 31 2, .ints (flat o)⟩]⟩
def re_mvd : Nat × (List Pt) → Ex := fun _ => .exit 0
def rs_mvd (ps : List Pt) (dx dy : Int) : Nat × (List Pt) → St := fun (i, o) => ⟨(topV :: topV :: topV :: topV :: topV :: topV :: topV :: .slice (some ⟨4, 0, none⟩) (mvWL dx dy ps).length (mvWL dx dy ps).length :: topV :: topV :: topV :: topV :: topV :: topV :: topV :: topV :: topV :: topV :: topV :: topV :: topV :: topV :: topV :: topV :: topV :: topV :: topV :: topV :: topV :: topV :: topV :: topV :: topV :: topV :: topV :: []), [some ⟨.view, .ints (flat ps)⟩, none, none, some ⟨.dead, .vals []⟩, some ⟨.row 31 2, .ints (flat (mvWL dx dy ps))⟩]⟩
set_option maxRecDepth 100000 in
theorem tr_mvd (ps : List Pt) (dx dy : Int) (i : Nat) (o : List Pt) : bodyL Try.prog ERv 30 12 noL 1 c_mvd k_mvd 16 (s_mvd ps dx dy (i, o)) = brT (decide ((↑i : Int) < (↑ps.length : Int))) (.need ((0 : Int) ≤ (↑i : Int) ∧ (↑i : Int) < (↑ps.length : Int)) (.need ((0 : Nat) + (↑i : Int).toNat * (2 : Nat) + (0 : Nat) < (flat ps).length) (.need ((0 : Int) ≤ (↑i : Int) ∧ (↑i : Int) < (↑ps.length : Int)) (.need ((0 : Nat) + (↑i : Int).toNat * (2 : Nat) + (1 : Nat) < (flat ps).length) (.need ((o.length + (1 : Nat)) * (16 : Nat) ≤ (140737488355328 : Nat) ∧ o.length + (1 : Nat) ≤ (1000000 : Nat)) (.need ((0 : Nat) + o.length * (2 : Nat) ≤ (flat o).length) (.leaf .normal ⟨(.slice (some ⟨0, 0, none⟩) (ps.length) (ps.length) :: .int .i64 (dx) :: .int .i64 (dy) :: topV :: topV :: topV :: topV :: .slice (some ⟨6, 0, none⟩) (o.length + 1) (o.length + 1) :: .int .i64 (IntKind.i64.wrap ((↑i : Int) + 1)) :: topV :: topV :: topV :: topV :: topV :: topV :: topV :: topV :: topV :: topV :: topV :: topV :: topV :: topV :: topV :: topV :: topV :: topV :: topV :: topV :: topV :: topV :: topV :: topV :: topV :: topV :: []), [some ⟨.view, .ints (flat ps)⟩, none, none, some deadB, some deadB, some ⟨.row 31 2, .vals [.int .i64 (IntKind.i64.wrap ((flat ps).getD (0 + (↑i : Int).toNat * 2 + 0) 0 + dx)), .int .i64 (IntKind.i64.wrap ((flat ps).getD (0 + (↑i : Int).toNat * 2 + 1) 0 + dy))]⟩, some ⟨.row 31 2, .ints (List.take (o.length * 2) (List.drop 0 (flat o)) ++ [IntKind.i64.wrap ((flat ps).getD (0 + (↑i : Int).toNat * 2 + 0) 0 + dx), IntKind.i64.wrap ((flat ps).getD (0 + (↑i : Int).toNat * 2 + 1) 0 + dy)])⟩]⟩))))))) (.leaf (.exit 0) ⟨(topV :: topV :: topV :: topV :: topV :: topV :: topV :: .slice (some ⟨4, 0, none⟩) (o.length) (o.length) :: topV :: topV :: topV :: topV :: topV :: topV :: topV :: topV :: topV :: topV :: topV :: topV :: topV :: topV :: topV :: topV :: topV :: topV :: topV :: topV :: topV :: topV :: topV :: topV :: topV :: topV :: topV :: []), [some ⟨.view, .ints (flat ps)⟩, none, none, some deadB, some ⟨.row 31 2, .ints (flat o)⟩]⟩) := by kernel_rfl
set_option maxRecDepth 100000 in
theorem nl_mvd : loopsOf c_mvd = [] := by kernel_rfl
def inv_mvd (ps : List Pt) (dx dy : Int) : Nat × (List Pt) → Prop := fun (i, o) => i ≤ ps.length ∧ o = mvWL dx dy (ps.take i)
def me_mvd (ps : List Pt) (dx dy : Int) : Nat × (List Pt) → Nat := fun (i, o) => ps.length - i
/-- A round of this loop. -/
def Round_mvd (ps : List Pt) (dx dy : Int) : Prop := ∀ xx : Nat × (List Pt), inv_mvd ps dx dy xx → (bodyL Try.prog ERv 30 12 noL 1 c_mvd k_mvd 16 (s_mvd ps dx dy xx)).ok (RoundEnd 4 (s_mvd ps dx dy) (inv_mvd ps dx dy) (me_mvd ps dx dy) re_mvd (rs_mvd ps dx dy) xx) (fun _ _ => False)
def e_mvd (s : St) (k : Ex → St → Tree) : Option Tree := match Nat.beq s.tmps.length 35, pickL s.tmps [0, 1, 2, 7, 8], s.mem with
  | true, [.slice (some ⟨0, 0, none⟩) n _, .int .i64 dx, .int .i64 dy, .slice (some ⟨3, 0, none⟩) z _, .int .i64 i0], [some ⟨.view, .ints xs⟩, none, none, some ⟨.row 31 2, .vals []⟩] => some (needs [i0 = 0, z = 0, xs.length = n * 2, n ≤ 100000] (k (.exit 0) ⟨(topV :: topV :: topV :: topV :: topV :: topV :: topV :: .slice (some ⟨4, 0, none⟩) (mvWL dx dy (ptsA n xs)).length (mvWL dx dy (ptsA n xs)).length :: topV :: topV :: topV :: topV :: topV :: topV :: topV :: topV :: topV :: topV :: topV :: topV :: topV :: topV :: topV :: topV :: topV :: topV :: topV :: topV :: topV :: topV :: topV :: topV :: topV :: topV :: topV :: []), [some ⟨.view, .ints xs⟩, none, none, some ⟨.dead, .vals []⟩, some ⟨.row 31 2, .ints (flat (mvWL dx dy (ptsA n xs)))⟩]⟩))
  | _, _, _ => none
set_option maxRecDepth 100000 in
theorem round_mvd (ps : List Pt) (dx dy : Int) (h : ps.length ≤ 100000) : Round_mvd ps dx dy := by
  rintro ⟨i, o⟩ ⟨h1, rfl⟩
  rw [tr_mvd]
  have hl : (mvWL dx dy (ps.take i)).length = i := by rw [mvWL_len]; simp; omega
  refine brT_ok.2 ⟨fun hlt => ?_, fun hge => ?_⟩
  · have hlt := of_decide_eq_true hlt
    have hi : i < ps.length := by omega
    have hs := mvWL_step dx dy hi
    have fs : flat (mvWL dx dy (ps.take i)) ++ [IntKind.i64.wrap ((ps.getD i (0, 0)).1 + dx), IntKind.i64.wrap ((ps.getD i (0, 0)).2 + dy)] = flat (mvWL dx dy (ps.take (i + 1))) := by
      rw [flat_snoc, ← hs]
      rfl
    simp only [Int.toNat_natCast, Nat.zero_add, Nat.add_zero, flat_get0, flat_get1, flat_length, flatR, fs, wsucc (n := ps.length) hi (by omega)]
    refine ⟨by omega, by omega, by omega, by omega, ⟨by omega, by omega⟩, by omega, (i + 1, mvWL dx dy (ps.take (i + 1))), [some 6], ⟨by omega, rfl⟩, ?_, rfl, by simp only [rs_mvd], ?_⟩
    · show ps.length - (i + 1) < ps.length - i; omega
    · have e : (mvWL dx dy (ps.take i)).length + 1 = (mvWL dx dy (ps.take (i + 1))).length := by rw [← hs]; simp
      rw [e]
      repeat' (first | exact True.intro | exact rfl | exact fun _ => rfl | (simp; done) | refine And.intro ?_ ?_)
  · have hge := of_decide_eq_false hge
    obtain rfl : i = ps.length := by omega
    refine ⟨rfl, [some 4], ?_⟩
    simp only [rs_mvd, List.take_length]
    repeat' (first | exact True.intro | exact rfl | exact fun _ => rfl | (simp; done) | refine And.intro ?_ ?_)
set_option maxRecDepth 100000 in
theorem lg_mvd : LoopE Try.prog e_mvd c_mvd := by
  intro s k t F H hlt ht
  unfold e_mvd at hlt
  split at hlt
  rotate_left
  · cases hlt
  rename_i hlen hpick hmem
  obtain ⟨tmps, mem⟩ := s
  simp only at hlen hpick hmem
  subst hmem
  obtain rfl := Option.some.inj hlt
  obtain ⟨⟨rfl, rfl, h1, h3, _⟩, ht2⟩ := needs_ok ht
  clear ht hlt
  obtain ⟨ps, rfl, rfl⟩ := even_flat h1
  rw [ptsA_flat] at ht2
  refine ⟨_, _, ht2, loop_run2 mixed ERv_ok (s_mvd ps _ _) (inv_mvd ps _ _) (me_mvd ps _ _) re_mvd (rs_mvd ps _ _) k_mvd (fun _ => rfl) (noLoops nl_mvd) (round_mvd ps _ _ h3) (x := (0, [])) ⟨Nat.zero_le _, rfl⟩ (π := [some 3]) rfl ?_⟩
  refine ⟨rfl, rfl, ?_, wvs_spread' [0, 1, 2, 7, 8] hlen rfl ?_⟩
  · repeat' (first | exact True.intro | exact rfl | exact wv_top _ _ | exact fun _ => rfl | assumption | exact Eq.symm (by assumption) | exact vI0 rfl | refine And.intro ?_ ?_)
  · rw [hpick]
    repeat' (first | exact True.intro | exact rfl | exact wv_top _ _ | exact fun _ => rfl | assumption | exact Eq.symm (by assumption) | exact vI0 rfl | refine And.intro ?_ ?_)
theorem Lr_bkw {fn : Func} (hf : Try.prog.funcs[19]? = some fn) : LoopsGood Try.prog (lt1 e_bkw) 0 (codeOf fn) := by
  obtain rfl := fn_is Try.func19 hf
  exact lt1_good lg_bkw
theorem Lr_mvd {fn : Func} (hf : Try.prog.funcs[20]? = some fn) : LoopsGood Try.prog (lt1 e_mvd) 0 (codeOf fn) := by
  obtain rfl := fn_is Try.func20 hf
  exact lt1_good lg_mvd
def LBk : FuncId → LT := fun f => match f with
  | 19 => lt1 e_bkw
  | 20 => lt1 e_mvd
  | _ => noL
def EBk : Env := mkE B0 (fun _ _ => none) LBk
theorem EBk_ok : EnvOk Try.prog EBk := mkEOk B0_ok (fun _ _ _ _ _ h => (by cases h)) (by
  intro f fn hf
  unfold LBk
  split
  all_goals first | with_reducible exact Lr_bkw hf | with_reducible exact Lr_mvd hf | exact noL_good)
set_option maxRecDepth 100000 in
theorem tr_bkF (ps : List Pt) : bodyX Try.prog EBk 30 12 19 [.row ps.length (.ints (flat ps))] = .need (IntKind.i64.wrap ((↑ps.length : Int) - (1 : Int)) = (↑ps.length : Int) - (1 : Int)) (.need ((0 : Nat) = (0 : Nat)) (.need ((flat ps).length = ps.length * (2 : Nat)) (.need (ps.length ≤ (100000 : Nat)) (.fin (.slice (some ⟨2, 0, none⟩) ((revP (ptsA ps.length (flat ps))).length) ((revP (ptsA ps.length (flat ps))).length)) [some ⟨.view, .ints (flat ps)⟩, some deadB, some ⟨.row 31 2, .ints (flat (revP (ptsA ps.length (flat ps))))⟩])))) := by kernel_rfl
theorem resR_bkw {ps : List Pt} (h : ps.length ≤ 100000) : ResR Try.prog 19 [.row ps.length (.ints (flat ps))] (rowP (revP ps)) (blkP (revP ps)) := by
  refine bodyX_resR mixed EBk_ok (m := 30) (n := 12) rfl ?_
  rw [tr_bkF]
  simp only [ptsA_flat]
  exact ⟨by rw [wr (by omega)], trivial, flat_length ps, h, some 2, ⟨rfl, rfl, rfl⟩, rfl, rfl, rfl⟩
end Go.Proofs.Ytnjmepbblcfnfab
namespace Go.Proofs.Ytnjmepbblcfnfab
set_option linter.all false
open Go.RowKit
def RLk : TabR := fun f ds => match f, ds with
  | 19, [.row m (.ints xs)] => some (rowP (revP (ptsA m xs)), blkP (revP (ptsA m xs)), [xs.length = m * 2, m ≤ 100000])
  | f, ds => RPd f ds
theorem RLk_ok : TabROk Try.prog RLk := by
  intro f ds v b C h hC
  unfold RLk at h
  split at h
  · rename_i m xs
    obtain ⟨rfl, rfl, rfl⟩ : _ ∧ _ ∧ _ := by simpa using h
    obtain ⟨ps, rfl, rfl⟩ := even_flat hC.1
    rw [ptsA_flat]
    exact resR_bkw hC.2.1
  · exact RPd_ok _ _ _ _ _ h hC
theorem big_of {ps : List Pt} (h : ps.length ≤ 40) : ps.length ≤ 1000000000 := by omega
theorem cl_or (p : Prop) [Decidable p] : decide p = true ∨ decide p = false := by cases decide p <;> simp
end Go.Proofs.Ytnjmepbblcfnfab
namespace Go.Proofs.Ytnjmepbblcfnfab
set_option linter.all false
open Go.RowKit
set_option maxRecDepth 100000 in
theorem tr_iOn (a b c d x y : Int) : bodyV Try.prog (tabE TRb) 30 12 27 [.v (.agg #[iv a, iv b, iv c, iv d]), .v (.agg #[iv x, iv y])] = brT (segB a b c d) (brT (ptB x y) (.need (ptB a b = true) (.need (ptB c d = true) (.need (ptB x y = true) (.fin (.bool (hasB a b c d x y)) [])))) (.fin (.bool (false)) [])) (.fin (.bool (false)) []) := by kernel_rfl
def onV (a b c d x y : Int) : Bool := segB a b c d && ptB x y && hasB a b c d x y
theorem res_iOn (a b c d x y : Int) : Res Try.prog 27 [.v (.agg #[iv a, iv b, iv c, iv d]), .v (.agg #[iv x, iv y])] (.bool (onV a b c d x y)) := by
  refine bodyV_res mixed (tabE_ok TRb_ok) (m := 30) (n := 12) rfl ?_
  rw [tr_iOn]
  unfold onV
  rcases s1 : segB a b c d with _ | _
  · simp [brT_ok, Tree.ok]
  obtain ⟨h1, h2⟩ := segB_pt s1
  rcases s2 : ptB x y with _ | _
  · simp [brT_ok, Tree.ok]
  · simp [brT_ok, Tree.ok, h1, h2]
def pOnV : List DArg → Option (Value × List Prop)
  | [.v (.agg ⟨[.int .i64 a, .int .i64 b, .int .i64 c, .int .i64 d]⟩), .v (.agg ⟨[.int .i64 x, .int .i64 y]⟩)] => some (.bool (onV a b c d x y), [])
  | _ => none
theorem pOnV_ok {ds : List DArg} {v : Value} {C : List Prop} (h : pOnV ds = some (v, C)) : Res Try.prog 27 ds v := by
  unfold pOnV at h
  split at h
  · obtain ⟨rfl, rfl⟩ : _ ∧ _ := by simpa using h
    exact res_iOn _ _ _ _ _ _
  · cases h
end Go.Proofs.Ytnjmepbblcfnfab
namespace Go.Proofs.Ytnjmepbblcfnfab
set_option linter.all false
open Go.RowKit
def dlM (a b : Int) : Int := IntKind.i64.wrap ((IntKind.i64.wrap (a + b)).tdiv 2)
/-- The point that is drawn beside a polygon. -/
def dlX (bs : List Int) (l : Nat) : Int := if 1 < (pgL bs l 0).length then (if pickI bs l (pgP bs l 0) 4 = 0 then dlM ((pgL bs l 0).getD 0 (0, 0)).1 ((pgL bs l 0).getD 1 (0, 0)).1 else apX bs l (pgP bs l 0 + 1)) else apX bs l (pgP bs l 0)
def dlY (bs : List Int) (l : Nat) : Int := if 1 < (pgL bs l 0).length then (if pickI bs l (pgP bs l 0) 4 = 0 then dlM ((pgL bs l 0).getD 0 (0, 0)).2 ((pgL bs l 0).getD 1 (0, 0)).2 else apY bs l (pgP bs l 0 + 1)) else apY bs l (pgP bs l 0)
def dlV (bs : List Int) (l : Nat) : Value := .tuple #[.slice (some ⟨0, 0, none⟩) (pgL bs l 0).length (pgL bs l 0).length, .agg #[.int .i64 (dlX bs l), .int .i64 (dlY bs l)]]
set_option maxRecDepth 100000 in
theorem tr_dLo (bs : List Int) (n : Nat) : bodyX Try.prog EPd 30 12 24 [.row n (.bytes bs)] = brT (decide (2000 < (↑n : Int))) (.need ((0 : Int) ≤ bndI none (0 : Int) ∧ bndI none (0 : Int) ≤ bndI (some (IntKind.i64, (2000 : Int))) (↑n : Int) ∧ bndI (some (IntKind.i64, (2000 : Int))) (↑n : Int) ≤ (↑n : Int)) (.need (rdC bs (2000 : Nat) (0 : Int)) (.need ((0 : Int) ≤ (600000 : Int)) (brT (decide (1 < (↑(pgL bs 2000 0).length : Int))) (.need (rdC bs (2000 : Nat) (pgP bs (2000 : Nat) (0 : Int))) (brT (pickI bs 2000 (pgP bs 2000 0) 4 == 0) (.need ((0 : Int) ≤ (0 : Int) ∧ (0 : Int) < (↑(pgL bs (2000 : Nat) (0 : Int)).length : Int)) (.need ((0 : Nat) < (flat (pgL bs (2000 : Nat) (0 : Int))).length) (.need ((0 : Int) ≤ (1 : Int) ∧ (1 : Int) < (↑(pgL bs (2000 : Nat) (0 : Int)).length : Int)) (.need ((2 : Nat) < (flat (pgL bs (2000 : Nat) (0 : Int))).length) (.need (¬(2 : Int) = (0 : Int)) (.need ((0 : Int) ≤ (0 : Int) ∧ (0 : Int) < (↑(pgL bs (2000 : Nat) (0 : Int)).length : Int)) (.need ((1 : Nat) < (flat (pgL bs (2000 : Nat) (0 : Int))).length) (.need ((0 : Int) ≤ (1 : Int) ∧ (1 : Int) < (↑(pgL bs (2000 : Nat) (0 : Int)).length : Int)) (.need ((3 : Nat) < (flat (pgL bs (2000 : Nat) (0 : Int))).length) (.need (¬(2 : Int) = (0 : Int)) (.fin (.tuple #[.slice (some ⟨3, 0, none⟩) ((pgL bs 2000 0).length) ((pgL bs 2000 0).length), .agg #[.int .i64 (IntKind.i64.wrap ((IntKind.i64.wrap ((flat (pgL bs 2000 0)).getD 0 0 + (flat (pgL bs 2000 0)).getD 2 0)).tdiv 2)), .int .i64 (IntKind.i64.wrap ((IntKind.i64.wrap ((flat (pgL bs 2000 0)).getD 1 0 + (flat (pgL bs 2000 0)).getD 3 0)).tdiv 2))]]) [some ⟨.view, .bytes (bs)⟩, some ⟨.box, .vals [.int .i64 (IntKind.i64.wrap ((IntKind.i64.wrap ((flat (pgL bs 2000 0)).getD 0 0 + (flat (pgL bs 2000 0)).getD 2 0)).tdiv 2)), .int .i64 (IntKind.i64.wrap ((IntKind.i64.wrap ((flat (pgL bs 2000 0)).getD 1 0 + (flat (pgL bs 2000 0)).getD 3 0)).tdiv 2))]⟩, some ⟨.box, .vals [.slice (some ⟨0, 0, none⟩) (2000) (2000), .int .i64 (pgP bs 2000 0 + 1)]⟩, some ⟨.row 31 2, .ints (flat (pgL bs 2000 0))⟩]))))))))))) (.need (rdK bs (2000 : Nat) (pgP bs (2000 : Nat) (0 : Int) + (1 : Int))) (.fin (.tuple #[.slice (some ⟨3, 0, none⟩) ((pgL bs 2000 0).length) ((pgL bs 2000 0).length), .agg #[.int .i64 (apX bs 2000 (pgP bs 2000 0 + 1)), .int .i64 (apY bs 2000 (pgP bs 2000 0 + 1))]]) [some ⟨.view, .bytes (bs)⟩, some ⟨.box, .vals [.int .i64 (apX bs 2000 (pgP bs 2000 0 + 1)), .int .i64 (apY bs 2000 (pgP bs 2000 0 + 1))]⟩, some ⟨.box, .vals [.slice (some ⟨0, 0, none⟩) (2000) (2000), .int .i64 (apP bs 2000 (pgP bs 2000 0 + 1))]⟩, some ⟨.row 31 2, .ints (flat (pgL bs 2000 0))⟩])))) (.need (rdK bs (2000 : Nat) (pgP bs (2000 : Nat) (0 : Int))) (.fin (.tuple #[.slice (some ⟨3, 0, none⟩) ((pgL bs 2000 0).length) ((pgL bs 2000 0).length), .agg #[.int .i64 (apX bs 2000 (pgP bs 2000 0)), .int .i64 (apY bs 2000 (pgP bs 2000 0))]]) [some ⟨.view, .bytes (bs)⟩, some ⟨.box, .vals [.int .i64 (apX bs 2000 (pgP bs 2000 0)), .int .i64 (apY bs 2000 (pgP bs 2000 0))]⟩, some ⟨.box, .vals [.slice (some ⟨0, 0, none⟩) (2000) (2000), .int .i64 (apP bs 2000 (pgP bs 2000 0))]⟩, some ⟨.row 31 2, .ints (flat (pgL bs 2000 0))⟩])))))) (.need (rdC bs n (0 : Int)) (.need ((0 : Int) ≤ (600000 : Int)) (brT (decide (1 < (↑(pgL bs n 0).length : Int))) (.need (rdC bs n (pgP bs n (0 : Int))) (brT (pickI bs n (pgP bs n 0) 4 == 0) (.need ((0 : Int) ≤ (0 : Int) ∧ (0 : Int) < (↑(pgL bs n (0 : Int)).length : Int)) (.need ((0 : Nat) < (flat (pgL bs n (0 : Int))).length) (.need ((0 : Int) ≤ (1 : Int) ∧ (1 : Int) < (↑(pgL bs n (0 : Int)).length : Int)) (.need ((2 : Nat) < (flat (pgL bs n (0 : Int))).length) (.need (¬(2 : Int) = (0 : Int)) (.need ((0 : Int) ≤ (0 : Int) ∧ (0 : Int) < (↑(pgL bs n (0 : Int)).length : Int)) (.need ((1 : Nat) < (flat (pgL bs n (0 : Int))).length) (.need ((0 : Int) ≤ (1 : Int) ∧ (1 : Int) < (↑(pgL bs n (0 : Int)).length : Int)) (.need ((3 : Nat) < (flat (pgL bs n (0 : Int))).length) (.need (¬(2 : Int) = (0 : Int)) (.fin (.tuple #[.slice (some ⟨3, 0, none⟩) ((pgL bs n 0).length) ((pgL bs n 0).length), .agg #[.int .i64 (IntKind.i64.wrap ((IntKind.i64.wrap ((flat (pgL bs n 0)).getD 0 0 + (flat (pgL bs n 0)).getD 2 0)).tdiv 2)), .int .i64 (IntKind.i64.wrap ((IntKind.i64.wrap ((flat (pgL bs n 0)).getD 1 0 + (flat (pgL bs n 0)).getD 3 0)).tdiv 2))]]) [some ⟨.view, .bytes (bs)⟩, some ⟨.box, .vals [.int .i64 (IntKind.i64.wrap ((IntKind.i64.wrap ((flat (pgL bs n 0)).getD 0 0 + (flat (pgL bs n 0)).getD 2 0)).tdiv 2)), .int .i64 (IntKind.i64.wrap ((IntKind.i64.wrap ((flat (pgL bs n 0)).getD 1 0 + (flat (pgL bs n 0)).getD 3 0)).tdiv 2))]⟩, some ⟨.box, .vals [.slice (some ⟨0, 0, none⟩) (n) (n), .int .i64 (pgP bs n 0 + 1)]⟩, some ⟨.row 31 2, .ints (flat (pgL bs n 0))⟩]))))))))))) (.need (rdK bs n (pgP bs n (0 : Int) + (1 : Int))) (.fin (.tuple #[.slice (some ⟨3, 0, none⟩) ((pgL bs n 0).length) ((pgL bs n 0).length), .agg #[.int .i64 (apX bs n (pgP bs n 0 + 1)), .int .i64 (apY bs n (pgP bs n 0 + 1))]]) [some ⟨.view, .bytes (bs)⟩, some ⟨.box, .vals [.int .i64 (apX bs n (pgP bs n 0 + 1)), .int .i64 (apY bs n (pgP bs n 0 + 1))]⟩, some ⟨.box, .vals [.slice (some ⟨0, 0, none⟩) (n) (n), .int .i64 (apP bs n (pgP bs n 0 + 1))]⟩, some ⟨.row 31 2, .ints (flat (pgL bs n 0))⟩])))) (.need (rdK bs n (pgP bs n (0 : Int))) (.fin (.tuple #[.slice (some ⟨3, 0, none⟩) ((pgL bs n 0).length) ((pgL bs n 0).length), .agg #[.int .i64 (apX bs n (pgP bs n 0)), .int .i64 (apY bs n (pgP bs n 0))]]) [some ⟨.view, .bytes (bs)⟩, some ⟨.box, .vals [.int .i64 (apX bs n (pgP bs n 0)), .int .i64 (apY bs n (pgP bs n 0))]⟩, some ⟨.box, .vals [.slice (some ⟨0, 0, none⟩) (n) (n), .int .i64 (apP bs n (pgP bs n 0))]⟩, some ⟨.row 31 2, .ints (flat (pgL bs n 0))⟩]))))) := by kernel_rfl
theorem resR_dLo (bs : List Int) (n : Nat) (hb : Bytes bs) (hn : n ≤ bs.length) : ResR Try.prog 24 [.row n (.bytes bs)] (dlV bs (rdL n)) (blkP (pgL bs (rdL n) 0)) := by
  refine bodyX_resR mixed EPd_ok (m := 30) (n := 12) rfl ?_
  rw [tr_dLo]
  have key : ∀ l, l ≤ n → l ≤ 2000 → rdC bs l 0 ∧ rdC bs l (pgP bs l 0) ∧ rdK bs l (pgP bs l 0) ∧ rdK bs l (pgP bs l 0 + 1) := fun l h1 h2 => by
    obtain ⟨k1, k2, k3, k4⟩ := pgKey hb hn h1 h2
    have r0 : rdK bs l 0 := rdK0 hb hn h1 h2 (by omega) (by omega)
    exact ⟨k1, rdC_up k1 (by omega) (by omega), ⟨rdC_up k1 (by omega) (by omega), by omega⟩, ⟨rdC_up k1 (by omega) (by omega), by omega⟩⟩
  refine brT_ok.2 ⟨fun h => ?_, fun h => ?_⟩
  · have h := of_decide_eq_true h
    obtain ⟨k1, k2, k3, k4⟩ := key 2000 (by omega) (by omega)
    rw [rdL_of h]
    refine ⟨bnd2000 h, k1, by omega, brT_ok.2 ⟨fun g => ⟨k2, brT_ok.2 ⟨fun g2 => ?_, fun g2 => ?_⟩⟩, fun g => ?_⟩⟩
    · have g := of_decide_eq_true g
      have g2 : pickI bs 2000 (pgP bs 2000 0) 4 = 0 := by simpa using g2
      have e1 : dlX bs 2000 = dlM ((pgL bs 2000 0).getD 0 (0, 0)).1 ((pgL bs 2000 0).getD 1 (0, 0)).1 := by unfold dlX; rw [if_pos (by omega), if_pos g2]
      have e2 : dlY bs 2000 = dlM ((pgL bs 2000 0).getD 0 (0, 0)).2 ((pgL bs 2000 0).getD 1 (0, 0)).2 := by unfold dlY; rw [if_pos (by omega), if_pos g2]
      have c0 := flat_get0 (pgL bs 2000 0) 0
      have c1 := flat_get1 (pgL bs 2000 0) 0
      have c2 := flat_get0 (pgL bs 2000 0) 1
      have c3 := flat_get1 (pgL bs 2000 0) 1
      unfold dlV
      rw [e1, e2, ← c0, ← c1, ← c2, ← c3]
      simp only [flat_length]
      exact ⟨by omega, by omega, by omega, by omega, by omega, by omega, by omega, by omega, by omega, by omega, some 3, ⟨⟨rfl, rfl, rfl⟩, ⟨rfl, rfl⟩, trivial⟩, rfl, rfl, rfl⟩
    · have g := of_decide_eq_true g
      have g2 : ¬ pickI bs 2000 (pgP bs 2000 0) 4 = 0 := by simpa using g2
      have e1 : dlX bs 2000 = apX bs 2000 (pgP bs 2000 0 + 1) := by unfold dlX; rw [if_pos (by omega), if_neg g2]
      have e2 : dlY bs 2000 = apY bs 2000 (pgP bs 2000 0 + 1) := by unfold dlY; rw [if_pos (by omega), if_neg g2]
      unfold dlV
      rw [e1, e2]
      exact ⟨k4, some 3, ⟨⟨rfl, rfl, rfl⟩, ⟨rfl, rfl⟩, trivial⟩, rfl, rfl, rfl⟩
    · have g := of_decide_eq_false g
      have e1 : dlX bs 2000 = apX bs 2000 (pgP bs 2000 0) := by unfold dlX; rw [if_neg (by omega)]
      have e2 : dlY bs 2000 = apY bs 2000 (pgP bs 2000 0) := by unfold dlY; rw [if_neg (by omega)]
      unfold dlV
      rw [e1, e2]
      exact ⟨k3, some 3, ⟨⟨rfl, rfl, rfl⟩, ⟨rfl, rfl⟩, trivial⟩, rfl, rfl, rfl⟩
  · have h := of_decide_eq_false h
    obtain ⟨k1, k2, k3, k4⟩ := key n (by omega) (by omega)
    rw [rdL_no h]
    refine ⟨k1, by omega, brT_ok.2 ⟨fun g => ⟨k2, brT_ok.2 ⟨fun g2 => ?_, fun g2 => ?_⟩⟩, fun g => ?_⟩⟩
    · have g := of_decide_eq_true g
      have g2 : pickI bs n (pgP bs n 0) 4 = 0 := by simpa using g2
      have e1 : dlX bs n = dlM ((pgL bs n 0).getD 0 (0, 0)).1 ((pgL bs n 0).getD 1 (0, 0)).1 := by unfold dlX; rw [if_pos (by omega), if_pos g2]
      have e2 : dlY bs n = dlM ((pgL bs n 0).getD 0 (0, 0)).2 ((pgL bs n 0).getD 1 (0, 0)).2 := by unfold dlY; rw [if_pos (by omega), if_pos g2]
      have c0 := flat_get0 (pgL bs n 0) 0
      have c1 := flat_get1 (pgL bs n 0) 0
      have c2 := flat_get0 (pgL bs n 0) 1
      have c3 := flat_get1 (pgL bs n 0) 1
      unfold dlV
      rw [e1, e2, ← c0, ← c1, ← c2, ← c3]
      simp only [flat_length]
      exact ⟨by omega, by omega, by omega, by omega, by omega, by omega, by omega, by omega, by omega, by omega, some 3, ⟨⟨rfl, rfl, rfl⟩, ⟨rfl, rfl⟩, trivial⟩, rfl, rfl, rfl⟩
    · have g := of_decide_eq_true g
      have g2 : ¬ pickI bs n (pgP bs n 0) 4 = 0 := by simpa using g2
      have e1 : dlX bs n = apX bs n (pgP bs n 0 + 1) := by unfold dlX; rw [if_pos (by omega), if_neg g2]
      have e2 : dlY bs n = apY bs n (pgP bs n 0 + 1) := by unfold dlY; rw [if_pos (by omega), if_neg g2]
      unfold dlV
      rw [e1, e2]
      exact ⟨k4, some 3, ⟨⟨rfl, rfl, rfl⟩, ⟨rfl, rfl⟩, trivial⟩, rfl, rfl, rfl⟩
    · have g := of_decide_eq_false g
      have e1 : dlX bs n = apX bs n (pgP bs n 0) := by unfold dlX; rw [if_neg (by omega)]
      have e2 : dlY bs n = apY bs n (pgP bs n 0) := by unfold dlY; rw [if_neg (by omega)]
      unfold dlV
      rw [e1, e2]
      exact ⟨k3, some 3, ⟨⟨rfl, rfl, rfl⟩, ⟨rfl, rfl⟩, trivial⟩, rfl, rfl, rfl⟩
def RLo : TabR := fun f ds => match f, ds with
  | 24, [.row n (.bytes bs)] => some (dlV bs (rdL n), blkP (pgL bs (rdL n) 0), [Bytes bs, n ≤ bs.length])
  | f, ds => RLk f ds
theorem RLo_ok : TabROk Try.prog RLo := by
  intro f ds v b C h hC
  unfold RLo at h
  split at h
  · obtain ⟨rfl, rfl, rfl⟩ : _ ∧ _ ∧ _ := by simpa using h
    exact resR_dLo _ _ hC.1 hC.2.1
  · exact RLk_ok _ _ _ _ _ h hC
def TLo : Tab := fun f ds => match f with
  | 27 => pOnV ds
  | f => TLd f ds
theorem TLo_ok : TabOk Try.prog TLo := by
  intro f ds v C h hC
  unfold TLo at h
  (try split at h)
  all_goals first | with_reducible exact pOnV_ok h | exact TLd_ok _ _ _ _ h hC
end Go.Proofs.Ytnjmepbblcfnfab
namespace Go.Proofs.Ytnjmepbblcfnfab
set_option linter.all false
open Go.RowKit
/-- Is a point on one of so many edges? -/
def onA (ps : List Pt) (x y : Int) : Nat → Bool
  | 0 => false
  | i + 1 => onA ps x y i || onV (ps.getD i (0, 0)).1 (ps.getD i (0, 0)).2 (nxP ps i).1 (nxP ps i).2 x y
/-- The largest X of the first vertex and so many more. -/
def hiA (ps : List Pt) : Nat → Int
  | 0 => (ps.getD 0 (0, 0)).1
  | i + 1 => if hiA ps i < (ps.getD i (0, 0)).1 then (ps.getD i (0, 0)).1 else hiA ps i
def ELl0 : Env := mkE TLo RLo (fun _ => noL)
theorem ELl0_ok : EnvOk Try.prog ELl0 := mkEOk TLo_ok RLo_ok (fun _ _ _ => noL_good)
theorem loc_vertex {ps : List Pt} (h : issI ps = true) {i : Nat} (hi : i < ps.length) : locV ps (ps.getD i (0, 0)).1 (ps.getD i (0, 0)).2 = 0 := by
  obtain ⟨hv, h20, h3⟩ := issI_ok h
  unfold locV
  rw [h, pt_get hv hi]
  simp only [Bool.and_self, cond_true]
  unfold locA
  rcases hn : noE ps (ps.getD i (0, 0)).1 (ps.getD i (0, 0)).2 with _ | _
  · rfl
  · have := noE_iff.1 hn i hi
    unfold hsE at this
    rw [hasB_a] at this
    cases this
theorem hiA_ge {ps : List Pt} : ∀ n, (∀ j, j < n → (ps.getD j (0, 0)).1 ≤ hiA ps n) ∧ ((ps.getD 0 (0, 0)).1 ≤ hiA ps n) ∧ ∃ k, hiA ps n = (ps.getD k (0, 0)).1 ∧ (k = 0 ∨ k < n)
  | 0 => ⟨fun j hj => by omega, Int.le_refl _, 0, rfl, .inl rfl⟩
  | n + 1 => by
    obtain ⟨h1, h2, k, h3, h4⟩ := hiA_ge (ps := ps) n
    show (∀ j, j < n + 1 → (ps.getD j (0, 0)).1 ≤ if hiA ps n < (ps.getD n (0, 0)).1 then (ps.getD n (0, 0)).1 else hiA ps n) ∧ ((ps.getD 0 (0, 0)).1 ≤ if hiA ps n < (ps.getD n (0, 0)).1 then (ps.getD n (0, 0)).1 else hiA ps n) ∧ ∃ k, (if hiA ps n < (ps.getD n (0, 0)).1 then (ps.getD n (0, 0)).1 else hiA ps n) = (ps.getD k (0, 0)).1 ∧ (k = 0 ∨ k < n + 1)
    refine ⟨fun j hj => ?_, by split <;> omega, ?_⟩
    · rcases Nat.lt_or_ge j n with h | h
      · have := h1 j h
        split <;> omega
      · obtain rfl : j = n := by omega
        split <;> omega
    · split
      · exact ⟨n, rfl, .inr (by omega)⟩
      · exact ⟨k, h3, by omega⟩
theorem onA_iff {ps : List Pt} {x y : Int} : ∀ {n : Nat}, onA ps x y n = true ↔ ∃ j, j < n ∧ onV (ps.getD j (0, 0)).1 (ps.getD j (0, 0)).2 (nxP ps j).1 (nxP ps j).2 x y = true
  | 0 => ⟨fun h => (by cases h), fun ⟨j, h, _⟩ => by omega⟩
  | n + 1 => by
    show (onA ps x y n || onV _ _ _ _ x y) = true ↔ _
    rw [Bool.or_eq_true, onA_iff]
    constructor
    · rintro (⟨j, h1, h2⟩ | h)
      · exact ⟨j, by omega, h2⟩
      · exact ⟨n, by omega, h⟩
    · rintro ⟨j, h1, h2⟩
      rcases Nat.lt_or_ge j n with h | h
      · exact .inl ⟨j, h, h2⟩
      · obtain rfl : j = n := by omega
        exact .inr h2
/-- On an edge: the place is 0. -/
theorem on_loc {ps : List Pt} {x y : Int} (h : issI ps = true) (hp : ptB x y = true) : onA ps x y ps.length = (locV ps x y == 0) := by
  obtain ⟨hv, h20, h3⟩ := issI_ok h
  have on : ∀ j, j < ps.length → onV (ps.getD j (0, 0)).1 (ps.getD j (0, 0)).2 (nxP ps j).1 (nxP ps j).2 x y = hsE ps x y j := fun j hj => by
    have hs : sgQ ps j = true := (sgQ_iff hv hj).2 (iss_ne h hj)
    unfold sgQ at hs
    unfold onV hsE
    rw [hs, hp]
    rfl
  have hl : locV ps x y = locA ps x y := by unfold locV; rw [h, hp]; rfl
  rw [hl]
  unfold locA
  rcases hn : noE ps x y with _ | _
  · rw [show ((bif false then plA ps x y ps.length else 0) == (0 : Int)) = true from rfl]
    rcases ho : onA ps x y ps.length with _ | _
    · have : noE ps x y = true := noE_iff.2 fun j hj => by
        rcases hh : hsE ps x y j with _ | _
        · rfl
        · have : onA ps x y ps.length = true := onA_iff.2 ⟨j, hj, by rw [on j hj, hh]⟩
          rw [ho] at this
          cases this
      rw [hn] at this
      cases this
    · rfl
  · have h1 : ((bif true then plA ps x y ps.length else 0) == (0 : Int)) = false := by
      rcases plA_one ps x y ps.length with e | e <;> (show (plA ps x y ps.length == 0) = false; rw [e]; rfl)
    rw [h1]
    rcases ho : onA ps x y ps.length with _ | _
    · rfl
    · obtain ⟨j, hj, e⟩ := onA_iff.1 ho
      rw [on j hj, noE_iff.1 hn j hj] at e
      cases e
theorem loc_rev (ps : List Pt) (x y : Int) : locV (revP ps) x y = locV ps x y := by
  unfold locV
  rw [issI_rev, locA_rev]
theorem loc_hi {ps : List Pt} {y : Int} (h : issI ps = true) (hy : -1000 ≤ y ∧ y ≤ 1000) (hn : hiA ps ps.length ≠ 1000) : -1000 ≤ hiA ps ps.length ∧ hiA ps ps.length < 1000 ∧ locV ps (hiA ps ps.length + 1) y = -1 := by
  obtain ⟨hv, h20, h3⟩ := issI_ok h
  obtain ⟨g1, g2, k, g3, g4⟩ := hiA_ge (ps := ps) ps.length
  have b := allV_gt hv (j := k) (by omega)
  have hx : hiA ps ps.length < 1000 := by omega
  refine ⟨by omega, hx, ?_⟩
  unfold locV
  rw [h, show ptB (hiA ps ps.length + 1) y = true from decide_eq_true (by omega)]
  refine loc_out fun p hp => ?_
  obtain ⟨j, hj, rfl⟩ := List.getElem_of_mem hp
  have e := g1 j hj
  have e2 : ps.getD j (0, 0) = ps[j] := by simp [hj]
  rw [e2] at e
  omega
noncomputable def c_llo : Code := ((loopsOf (codeOf Try.f5))[0]?).getD .skip
def k_llo : Ex → List Nat := keeps [3, 4, 5, 6, 7, 8] [(0, [3, 4, 5, 6, 7])] [2]
def s_llo (bs : List Int) (ps : List Pt) (x y n : Int) : Nat → St := fun i => ⟨(topV :: topV :: topV :: .slice (some ⟨2, 0, none⟩) ps.length ps.length :: .pointer (some ⟨1, 0, none⟩) :: .int .i64 n :: .bool (onA ps x y i) :: .int .i64 (hiA ps i) :: .int .i64 i :: topV :: topV :: topV :: topV :: topV :: topV :: topV :: topV :: topV :: topV :: topV :: topV :: topV :: topV :: topV :: topV :: topV :: topV :: topV :: topV :: topV :: topV :: topV :: topV :: topV :: topV :: topV :: topV :: topV :: topV :: topV :: topV :: topV :: topV :: topV :: topV :: topV :: topV :: topV :: topV :: topV :: topV :: topV :: topV :: topV :: topV :: topV :: topV :: topV :: topV :: topV :: topV :: topV :: topV :: topV :: topV :: topV :: topV :: topV :: topV :: topV :: topV :: topV :: topV :: topV :: topV :: topV :: topV :: topV :: topV :: topV :: topV :: topV :: topV :: topV :: topV :: topV :: topV :: topV :: topV :: topV :: topV :: topV :: topV :: topV :: topV :: topV :: topV :: topV :: topV :: topV :: topV :: topV :: []), [some ⟨.view, .bytes bs⟩, some ⟨.box, .vals [.int .i64 x, .int .i64 y]⟩, some ⟨.row 31 2, .ints (flat ps)⟩]⟩
def re_llo : Nat → Ex := fun _ => .exit 0
def rs_llo (bs : List Int) (ps : List Pt) (x y n : Int) : Nat → St := fun i => ⟨(topV :: topV :: topV :: .slice (some ⟨2, 0, none⟩) ps.length ps.length :: .pointer (some ⟨1, 0, none⟩) :: .int .i64 n :: .bool (onA ps x y ps.length) :: .int .i64 (hiA ps ps.length) :: topV :: topV :: topV :: topV :: topV :: topV :: topV :: topV :: topV :: topV :: topV :: topV :: topV :: topV :: topV :: topV :: topV :: topV :: topV :: topV :: topV :: topV :: topV :: topV :: topV :: topV :: topV :: topV :: topV :: topV :: topV :: topV :: topV :: topV :: topV :: topV :: topV :: topV :: topV :: topV :: topV :: topV :: topV :: topV :: topV :: topV :: topV :: topV :: topV :: topV :: topV :: topV :: topV :: topV :: topV :: topV :: topV :: topV :: topV :: topV :: topV :: topV :: topV :: topV :: topV :: topV :: topV :: topV :: topV :: topV :: topV :: topV :: topV :: topV :: topV :: topV :: topV :: topV :: topV :: topV :: topV :: topV :: topV :: topV :: topV :: topV :: topV :: topV :: topV :: topV :: topV :: topV :: topV :: topV :: []), [some ⟨.view, .bytes bs⟩, some ⟨.box, .vals [.int .i64 x, .int .i64 y]⟩, some ⟨.row 31 2, .ints (flat ps)⟩]⟩
set_option maxRecDepth 100000 in
theorem tr_llo (bs : List Int) (ps : List Pt) (x y n : Int) (i : Nat) : bodyL Try.prog ELl0 30 12 noL 1 c_llo k_llo 3 (s_llo bs ps x y n i) = brT (decide ((↑i : Int) < (↑ps.length : Int))) (brT (onA ps x y i) (.need ((0 : Int) ≤ (↑i : Int) ∧ (↑i : Int) < (↑ps.length : Int)) (.need ((0 : Nat) + (↑i : Int).toNat * (2 : Nat) + (0 : Nat) < (flat ps).length) (.need ((0 : Int) ≤ (↑i : Int) ∧ (↑i : Int) < (↑ps.length : Int)) (.need ((0 : Nat) + (↑i : Int).toNat * (2 : Nat) + (2 : Nat) ≤ (flat ps).length) (.need (ps.length * (2 : Nat) ≤ (List.drop (0 : Nat) (flat ps)).length) (.need (ps.length ≤ (1000000000 : Nat)) (brT (!locV (ptsA ps.length (List.drop 0 (flat ps))) ((flat ps).getD (0 + (↑i : Int).toNat * 2) 0) ((flat ps).getD (0 + (↑i : Int).toNat * 2 + 1) 0) == 0) (.leaf .ret ⟨(topV :: topV :: .bool (false) :: topV :: topV :: topV :: topV :: topV :: topV :: topV :: topV :: topV :: topV :: topV :: topV :: topV :: topV :: topV :: topV :: topV :: topV :: topV :: topV :: topV :: topV :: topV :: topV :: topV :: topV :: topV :: topV :: topV :: topV :: topV :: topV :: topV :: topV :: topV :: topV :: topV :: topV :: topV :: topV :: topV :: topV :: topV :: topV :: topV :: topV :: topV :: topV :: topV :: topV :: topV :: topV :: topV :: topV :: topV :: topV :: topV :: topV :: topV :: topV :: topV :: topV :: topV :: topV :: topV :: topV :: topV :: topV :: topV :: topV :: topV :: topV :: topV :: topV :: topV :: topV :: topV :: topV :: topV :: topV :: topV :: topV :: topV :: topV :: topV :: topV :: topV :: topV :: topV :: topV :: topV :: topV :: topV :: topV :: topV :: topV :: topV :: topV :: topV :: []), [some ⟨.view, .bytes (bs)⟩, some ⟨.box, .vals [.int .i64 (x), .int .i64 (y)]⟩, some ⟨.row 31 2, .ints (flat ps)⟩]⟩) (.leaf .normal ⟨(topV :: topV :: topV :: .slice (some ⟨2, 0, none⟩) (ps.length) (ps.length) :: .pointer (some ⟨1, 0, none⟩) :: .int .i64 (n) :: .bool (true) :: .int .i64 (if hiA ps i < (flat ps).getD (0 + (↑i : Int).toNat * 2 + 0) 0 then (flat ps).getD (0 + (↑i : Int).toNat * 2 + 0) 0 else hiA ps i) :: .int .i64 (IntKind.i64.wrap ((↑i : Int) + 1)) :: topV :: topV :: topV :: topV :: topV :: topV :: topV :: topV :: topV :: topV :: topV :: topV :: topV :: topV :: topV :: topV :: topV :: topV :: topV :: topV :: topV :: topV :: topV :: topV :: topV :: topV :: topV :: topV :: topV :: topV :: topV :: topV :: topV :: topV :: topV :: topV :: topV :: topV :: topV :: topV :: topV :: topV :: topV :: topV :: topV :: topV :: topV :: topV :: topV :: topV :: topV :: topV :: topV :: topV :: topV :: topV :: topV :: topV :: topV :: topV :: topV :: topV :: topV :: topV :: topV :: topV :: topV :: topV :: topV :: topV :: topV :: topV :: topV :: topV :: topV :: topV :: topV :: topV :: topV :: topV :: topV :: topV :: topV :: topV :: topV :: topV :: topV :: topV :: topV :: topV :: topV :: topV :: topV :: []), [some ⟨.view, .bytes (bs)⟩, some ⟨.box, .vals [.int .i64 (x), .int .i64 (y)]⟩, some ⟨.row 31 2, .ints (flat ps)⟩]⟩)))))))) (.need ((0 : Int) ≤ (↑i : Int) ∧ (↑i : Int) < (↑ps.length : Int)) (.need ((0 : Nat) + (↑i : Int).toNat * (2 : Nat) + (2 : Nat) ≤ (flat ps).length) (.need (¬(↑ps.length : Int) = (0 : Int)) (.need ((0 : Int) ≤ (IntKind.i64.wrap ((↑i : Int) + (1 : Int))).tmod (↑ps.length : Int) ∧ (IntKind.i64.wrap ((↑i : Int) + (1 : Int))).tmod (↑ps.length : Int) < (↑ps.length : Int)) (.need ((0 : Nat) + ((IntKind.i64.wrap ((↑i : Int) + (1 : Int))).tmod (↑ps.length : Int)).toNat * (2 : Nat) + (2 : Nat) ≤ (flat ps).length) (.need ((0 : Int) ≤ (↑i : Int) ∧ (↑i : Int) < (↑ps.length : Int)) (.need ((0 : Nat) + (↑i : Int).toNat * (2 : Nat) + (0 : Nat) < (flat ps).length) (.need ((0 : Int) ≤ (↑i : Int) ∧ (↑i : Int) < (↑ps.length : Int)) (.need ((0 : Nat) + (↑i : Int).toNat * (2 : Nat) + (2 : Nat) ≤ (flat ps).length) (.need (ps.length * (2 : Nat) ≤ (List.drop (0 : Nat) (flat ps)).length) (.need (ps.length ≤ (1000000000 : Nat)) (brT (!locV (ptsA ps.length (List.drop 0 (flat ps))) ((flat ps).getD (0 + (↑i : Int).toNat * 2) 0) ((flat ps).getD (0 + (↑i : Int).toNat * 2 + 1) 0) == 0) (.leaf .ret ⟨(topV :: topV :: .bool (false) :: topV :: topV :: topV :: topV :: topV :: topV :: topV :: topV :: topV :: topV :: topV :: topV :: topV :: topV :: topV :: topV :: topV :: topV :: topV :: topV :: topV :: topV :: topV :: topV :: topV :: topV :: topV :: topV :: topV :: topV :: topV :: topV :: topV :: topV :: topV :: topV :: topV :: topV :: topV :: topV :: topV :: topV :: topV :: topV :: topV :: topV :: topV :: topV :: topV :: topV :: topV :: topV :: topV :: topV :: topV :: topV :: topV :: topV :: topV :: topV :: topV :: topV :: topV :: topV :: topV :: topV :: topV :: topV :: topV :: topV :: topV :: topV :: topV :: topV :: topV :: topV :: topV :: topV :: topV :: topV :: topV :: topV :: topV :: topV :: topV :: topV :: topV :: topV :: topV :: topV :: topV :: topV :: topV :: topV :: topV :: topV :: topV :: topV :: topV :: []), [some ⟨.view, .bytes (bs)⟩, some ⟨.box, .vals [.int .i64 (x), .int .i64 (y)]⟩, some ⟨.row 31 2, .ints (flat ps)⟩]⟩) (.leaf .normal ⟨(topV :: topV :: topV :: .slice (some ⟨2, 0, none⟩) (ps.length) (ps.length) :: .pointer (some ⟨1, 0, none⟩) :: .int .i64 (n) :: .bool (onV ((flat ps).getD (0 + (↑i : Int).toNat * 2) 0) ((flat ps).getD (0 + (↑i : Int).toNat * 2 + 1) 0) ((flat ps).getD (0 + ((IntKind.i64.wrap ((↑i : Int) + 1)).tmod (↑ps.length : Int)).toNat * 2) 0) ((flat ps).getD (0 + ((IntKind.i64.wrap ((↑i : Int) + 1)).tmod (↑ps.length : Int)).toNat * 2 + 1) 0) x y) :: .int .i64 (if hiA ps i < (flat ps).getD (0 + (↑i : Int).toNat * 2 + 0) 0 then (flat ps).getD (0 + (↑i : Int).toNat * 2 + 0) 0 else hiA ps i) :: .int .i64 (IntKind.i64.wrap ((↑i : Int) + 1)) :: topV :: topV :: topV :: topV :: topV :: topV :: topV :: topV :: topV :: topV :: topV :: topV :: topV :: topV :: topV :: topV :: topV :: topV :: topV :: topV :: topV :: topV :: topV :: topV :: topV :: topV :: topV :: topV :: topV :: topV :: topV :: topV :: topV :: topV :: topV :: topV :: topV :: topV :: topV :: topV :: topV :: topV :: topV :: topV :: topV :: topV :: topV :: topV :: topV :: topV :: topV :: topV :: topV :: topV :: topV :: topV :: topV :: topV :: topV :: topV :: topV :: topV :: topV :: topV :: topV :: topV :: topV :: topV :: topV :: topV :: topV :: topV :: topV :: topV :: topV :: topV :: topV :: topV :: topV :: topV :: topV :: topV :: topV :: topV :: topV :: topV :: topV :: topV :: topV :: topV :: topV :: topV :: topV :: []), [some ⟨.view, .bytes (bs)⟩, some ⟨.box, .vals [.int .i64 (x), .int .i64 (y)]⟩, some ⟨.row 31 2, .ints (flat ps)⟩]⟩)))))))))))))) (.leaf (.exit 0) ⟨(topV :: topV :: topV :: .slice (some ⟨2, 0, none⟩) (ps.length) (ps.length) :: .pointer (some ⟨1, 0, none⟩) :: .int .i64 (n) :: .bool (onA ps x y i) :: .int .i64 (hiA ps i) :: topV :: topV :: topV :: topV :: topV :: topV :: topV :: topV :: topV :: topV :: topV :: topV :: topV :: topV :: topV :: topV :: topV :: topV :: topV :: topV :: topV :: topV :: topV :: topV :: topV :: topV :: topV :: topV :: topV :: topV :: topV :: topV :: topV :: topV :: topV :: topV :: topV :: topV :: topV :: topV :: topV :: topV :: topV :: topV :: topV :: topV :: topV :: topV :: topV :: topV :: topV :: topV :: topV :: topV :: topV :: topV :: topV :: topV :: topV :: topV :: topV :: topV :: topV :: topV :: topV :: topV :: topV :: topV :: topV :: topV :: topV :: topV :: topV :: topV :: topV :: topV :: topV :: topV :: topV :: topV :: topV :: topV :: topV :: topV :: topV :: topV :: topV :: topV :: topV :: topV :: topV :: topV :: topV :: topV :: []), [some ⟨.view, .bytes (bs)⟩, some ⟨.box, .vals [.int .i64 (x), .int .i64 (y)]⟩, some ⟨.row 31 2, .ints (flat ps)⟩]⟩) := by kernel_rfl
set_option maxRecDepth 100000 in
theorem nl_llo : loopsOf c_llo = [] := by kernel_rfl
def inv_llo (bs : List Int) (ps : List Pt) (x y n : Int) : Nat → Prop := fun i => i ≤ ps.length
def me_llo (bs : List Int) (ps : List Pt) (x y n : Int) : Nat → Nat := fun i => ps.length - i
/-- A round of this loop. -/
def Round_llo (bs : List Int) (ps : List Pt) (x y n : Int) : Prop := ∀ xx : Nat, inv_llo bs ps x y n xx → (bodyL Try.prog ELl0 30 12 noL 1 c_llo k_llo 3 (s_llo bs ps x y n xx)).ok (RoundEnd 3 (s_llo bs ps x y n) (inv_llo bs ps x y n) (me_llo bs ps x y n) re_llo (rs_llo bs ps x y n) xx) (fun _ _ => False)
def e_llo (s : St) (k : Ex → St → Tree) : Option Tree := match Nat.beq s.tmps.length 102, pickL s.tmps [3, 4, 5, 6, 7, 8], s.mem with
  | true, [.slice (some ⟨2, 0, none⟩) m _, .pointer (some ⟨1, 0, none⟩), .int .i64 n, .bool b, .int .i64 hh, .int .i64 ii], [some ⟨.view, .bytes bs⟩, some ⟨.box, .vals [.int .i64 x, .int .i64 y]⟩, some ⟨.row 31 2, .ints xs⟩] => some (needs [ii = 0, b = false, xs.length = m * 2, hh = xs.getD 0 0, issI (ptsA m xs) = true] (k (.exit 0) ⟨(topV :: topV :: topV :: .slice (some ⟨2, 0, none⟩) m m :: .pointer (some ⟨1, 0, none⟩) :: .int .i64 n :: .bool (onA (ptsA m xs) x y m) :: .int .i64 (hiA (ptsA m xs) m) :: topV :: topV :: topV :: topV :: topV :: topV :: topV :: topV :: topV :: topV :: topV :: topV :: topV :: topV :: topV :: topV :: topV :: topV :: topV :: topV :: topV :: topV :: topV :: topV :: topV :: topV :: topV :: topV :: topV :: topV :: topV :: topV :: topV :: topV :: topV :: topV :: topV :: topV :: topV :: topV :: topV :: topV :: topV :: topV :: topV :: topV :: topV :: topV :: topV :: topV :: topV :: topV :: topV :: topV :: topV :: topV :: topV :: topV :: topV :: topV :: topV :: topV :: topV :: topV :: topV :: topV :: topV :: topV :: topV :: topV :: topV :: topV :: topV :: topV :: topV :: topV :: topV :: topV :: topV :: topV :: topV :: topV :: topV :: topV :: topV :: topV :: topV :: topV :: topV :: topV :: topV :: topV :: topV :: topV :: []), [some ⟨.view, .bytes bs⟩, some ⟨.box, .vals [.int .i64 x, .int .i64 y]⟩, some ⟨.row 31 2, .ints xs⟩]⟩))
  | _, _, _ => none
set_option maxRecDepth 100000 in
theorem round_llo (bs : List Int) (ps : List Pt) (x y n : Int) (h : issI ps = true) : Round_llo bs ps x y n := by
  intro i h1
  have h1 : i ≤ ps.length := h1
  rw [tr_llo]
  obtain ⟨hv, h20, h3⟩ := issI_ok h
  simp only [List.drop_zero, ptsA_flat, Int.toNat_natCast, Nat.zero_add, Nat.add_zero, flat_length, flat_get0, flat_get1]
  refine brT_ok.2 ⟨fun hlt => ?_, fun hge => ?_⟩
  · have hlt := of_decide_eq_true hlt
    have hi : i < ps.length := by omega
    have hz := loc_vertex h hi
    have n0 : ¬ (ps.length : Int) = 0 := by omega
    have hm := nx_lt hi
    have st1 : onA ps x y (i + 1) = (onA ps x y i || onV (ps.getD i (0, 0)).1 (ps.getD i (0, 0)).2 (nxP ps i).1 (nxP ps i).2 x y) := rfl
    have st2 : hiA ps (i + 1) = if hiA ps i < (ps.getD i (0, 0)).1 then (ps.getD i (0, 0)).1 else hiA ps i := rfl
    simp only [nx_mod hi (by omega), Int.toNat_natCast]
    simp only [hz, wsucc (n := ps.length) hi (by omega), beq_self_eq_true, Bool.not_true, brT_f]
    rcases ho : onA ps x y i with _ | _
    · rw [ho, Bool.false_or] at st1
      simp only [brT_f, Tree.ok]
      repeat (refine And.intro (by first | omega | exact Nat.le_refl _ | exact n0) ?_)
      refine ⟨i + 1, [], ?_, ?_, rfl, rfl, ?_⟩
      · show i + 1 ≤ ps.length; omega
      · show ps.length - (i + 1) < ps.length - i; omega
      · unfold s_llo
        simp only [st1, st2]
        repeat' (first | exact True.intro | exact rfl | exact fun _ => rfl | refine And.intro ?_ ?_)
    · rw [ho, Bool.true_or] at st1
      simp only [brT_t, Tree.ok]
      repeat (refine And.intro (by first | omega | exact Nat.le_refl _ | exact n0) ?_)
      refine ⟨i + 1, [], ?_, ?_, rfl, rfl, ?_⟩
      · show i + 1 ≤ ps.length; omega
      · show ps.length - (i + 1) < ps.length - i; omega
      · unfold s_llo
        simp only [st1, st2]
        repeat' (first | exact True.intro | exact rfl | exact fun _ => rfl | refine And.intro ?_ ?_)
  · have hge := of_decide_eq_false hge
    obtain rfl : i = ps.length := by omega
    refine ⟨rfl, [], ?_⟩
    repeat' (first | exact True.intro | exact rfl | exact fun _ => rfl | refine And.intro ?_ ?_)
set_option maxRecDepth 100000 in
theorem lg_llo : LoopE Try.prog e_llo c_llo := by
  intro s k t F H hlt ht
  unfold e_llo at hlt
  split at hlt
  rotate_left
  · cases hlt
  rename_i hlen hpick hmem
  obtain ⟨tmps, mem⟩ := s
  simp only at hlen hpick hmem
  subst hmem
  obtain rfl := Option.some.inj hlt
  obtain ⟨⟨rfl, rfl, h1, rfl, h2, _⟩, ht2⟩ := needs_ok ht
  clear ht hlt
  obtain ⟨ps, rfl, rfl⟩ := even_flat h1
  rw [ptsA_flat] at ht2 h2
  have hz := flat_get0 ps 0
  simp only [Nat.zero_mul] at hz
  rw [hz] at hpick
  refine ⟨_, _, ht2, loop_run mixed ELl0_ok (s_llo _ ps _ _ _) (inv_llo _ ps _ _ _) (me_llo _ ps _ _ _) re_llo (rs_llo _ ps _ _ _) k_llo (fun _ => rfl) (noLoops nl_llo) (round_llo _ ps _ _ _ h2) (x := 0) (Nat.zero_le _) (π := []) rfl ?_⟩
  refine ⟨rfl, rfl, ?_, wvs_spread' [3, 4, 5, 6, 7, 8] hlen rfl ?_⟩
  · repeat' (first | exact True.intro | exact rfl | exact wv_top _ _ | exact fun _ => rfl | assumption | exact Eq.symm (by assumption) | exact vI0 rfl | refine And.intro ?_ ?_)
  · rw [hpick]
    repeat' (first | exact True.intro | exact rfl | exact wv_top _ _ | exact fun _ => rfl | assumption | exact Eq.symm (by assumption) | exact vI0 rfl | refine And.intro ?_ ?_)
theorem Lr_llo {fn : Func} (hf : Try.prog.funcs[5]? = some fn) : LoopsGood Try.prog (lt1 e_llo) 0 (codeOf fn) := by
  obtain rfl := fn_is Try.func5 hf
  exact lt1_good lg_llo
def LLl : FuncId → LT := fun f => match f with
  | 5 => lt1 e_llo
  | _ => noL
def ELl : Env := mkE TLo RLo LLl
theorem ELl_ok : EnvOk Try.prog ELl := mkEOk TLo_ok RLo_ok (by
  intro f fn hf
  unfold LLl
  split
  all_goals first | with_reducible exact Lr_llo hf | exact noL_good)
set_option maxRecDepth 100000 in
theorem tr_lLo (bs : List Int) : bodyV Try.prog ELl 30 12 5 [.row bs.length (.bytes bs)] = brT (decide (1048576 < (↑bs.length : Int))) (.fin (.bool (true)) []) (.need (Bytes (List.drop (0 : Nat) bs)) (.need (bs.length ≤ (List.drop (0 : Nat) bs).length) (.need ((pgL (List.drop (0 : Nat) bs) (rdL bs.length) (0 : Int)).length * (2 : Nat) ≤ (List.drop (0 : Nat) (flat (pgL (List.drop (0 : Nat) bs) (rdL bs.length) (0 : Int)))).length) (.need ((pgL (List.drop (0 : Nat) bs) (rdL bs.length) (0 : Int)).length ≤ (1000000000 : Nat)) (.need ((pgL (List.drop (0 : Nat) bs) (rdL bs.length) (0 : Int)).length * (2 : Nat) ≤ (List.drop (0 : Nat) (flat (pgL (List.drop (0 : Nat) bs) (rdL bs.length) (0 : Int)))).length) (.need ((pgL (List.drop (0 : Nat) bs) (rdL bs.length) (0 : Int)).length ≤ (1000000000 : Nat)) (brT (!locV (ptsA (pgL (List.drop 0 bs) (rdL bs.length) 0).length (List.drop 0 (flat (pgL (List.drop 0 bs) (rdL bs.length) 0)))) (dlX (List.drop 0 bs) (rdL bs.length)) (dlY (List.drop 0 bs) (rdL bs.length)) == locV (ptsA (pgL (List.drop 0 bs) (rdL bs.length) 0).length (List.drop 0 (flat (pgL (List.drop 0 bs) (rdL bs.length) 0)))) (dlX (List.drop 0 bs) (rdL bs.length)) (dlY (List.drop 0 bs) (rdL bs.length))) (.need ((pgL (List.drop (0 : Nat) bs) (rdL bs.length) (0 : Int)).length * (2 : Nat) ≤ (List.drop (0 : Nat) (flat (pgL (List.drop (0 : Nat) bs) (rdL bs.length) (0 : Int)))).length) (.need ((pgL (List.drop (0 : Nat) bs) (rdL bs.length) (0 : Int)).length ≤ (1000000000 : Nat)) (.fin (.bool (locV (ptsA (pgL (List.drop 0 bs) (rdL bs.length) 0).length (List.drop 0 (flat (pgL (List.drop 0 bs) (rdL bs.length) 0)))) (dlX (List.drop 0 bs) (rdL bs.length)) (dlY (List.drop 0 bs) (rdL bs.length)) == locV (ptsA (pgL (List.drop 0 bs) (rdL bs.length) 0).length (List.drop 0 (flat (pgL (List.drop 0 bs) (rdL bs.length) 0)))) (dlX (List.drop 0 bs) (rdL bs.length)) (dlY (List.drop 0 bs) (rdL bs.length)))) []))) (brT (locV (ptsA (pgL (List.drop 0 bs) (rdL bs.length) 0).length (List.drop 0 (flat (pgL (List.drop 0 bs) (rdL bs.length) 0)))) (dlX (List.drop 0 bs) (rdL bs.length)) (dlY (List.drop 0 bs) (rdL bs.length)) == 2) (.need ((pgL (List.drop (0 : Nat) bs) (rdL bs.length) (0 : Int)).length * (2 : Nat) ≤ (List.drop (0 : Nat) (flat (pgL (List.drop (0 : Nat) bs) (rdL bs.length) (0 : Int)))).length) (.need ((pgL (List.drop (0 : Nat) bs) (rdL bs.length) (0 : Int)).length ≤ (1000000000 : Nat)) (.fin (.bool (locV (ptsA (pgL (List.drop 0 bs) (rdL bs.length) 0).length (List.drop 0 (flat (pgL (List.drop 0 bs) (rdL bs.length) 0)))) (dlX (List.drop 0 bs) (rdL bs.length)) (dlY (List.drop 0 bs) (rdL bs.length)) == locV (ptsA (pgL (List.drop 0 bs) (rdL bs.length) 0).length (List.drop 0 (flat (pgL (List.drop 0 bs) (rdL bs.length) 0)))) (dlX (List.drop 0 bs) (rdL bs.length)) (dlY (List.drop 0 bs) (rdL bs.length)))) []))) (.need ((0 : Int) ≤ (0 : Int) ∧ (0 : Int) < (↑(pgL (List.drop (0 : Nat) bs) (rdL bs.length) (0 : Int)).length : Int)) (.need ((0 : Nat) < (flat (pgL (List.drop (0 : Nat) bs) (rdL bs.length) (0 : Int))).length) (.need ((0 : Int) = (0 : Int)) (.need (false = false) (.need ((flat (pgL (List.drop (0 : Nat) bs) (rdL bs.length) (0 : Int))).length = (pgL (List.drop (0 : Nat) bs) (rdL bs.length) (0 : Int)).length * (2 : Nat)) (.need ((flat (pgL (List.drop (0 : Nat) bs) (rdL bs.length) (0 : Int))).getD (0 : Nat) (0 : Int) = (flat (pgL (List.drop (0 : Nat) bs) (rdL bs.length) (0 : Int))).getD (0 : Nat) (0 : Int)) (.need (issI (ptsA (pgL (List.drop (0 : Nat) bs) (rdL bs.length) (0 : Int)).length (flat (pgL (List.drop (0 : Nat) bs) (rdL bs.length) (0 : Int)))) = true) (brT (onA (ptsA (pgL (List.drop 0 bs) (rdL bs.length) 0).length (flat (pgL (List.drop 0 bs) (rdL bs.length) 0))) (dlX (List.drop 0 bs) (rdL bs.length)) (dlY (List.drop 0 bs) (rdL bs.length)) (pgL (List.drop 0 bs) (rdL bs.length) 0).length == (locV (ptsA (pgL (List.drop 0 bs) (rdL bs.length) 0).length (List.drop 0 (flat (pgL (List.drop 0 bs) (rdL bs.length) 0)))) (dlX (List.drop 0 bs) (rdL bs.length)) (dlY (List.drop 0 bs) (rdL bs.length)) == 0)) (brT (hiA (ptsA (pgL (List.drop 0 bs) (rdL bs.length) 0).length (flat (pgL (List.drop 0 bs) (rdL bs.length) 0))) (pgL (List.drop 0 bs) (rdL bs.length) 0).length == 1000) (.need ((List.drop (0 : Nat) (flat (pgL (List.drop (0 : Nat) bs) (rdL bs.length) (0 : Int)))).length = (pgL (List.drop (0 : Nat) bs) (rdL bs.length) (0 : Int)).length * (2 : Nat)) (.need ((pgL (List.drop (0 : Nat) bs) (rdL bs.length) (0 : Int)).length ≤ (100000 : Nat)) (.need ((revP (ptsA (pgL (List.drop (0 : Nat) bs) (rdL bs.length) (0 : Int)).length (List.drop (0 : Nat) (flat (pgL (List.drop (0 : Nat) bs) (rdL bs.length) (0 : Int)))))).length * (2 : Nat) ≤ (List.drop (0 : Nat) (flat (revP (ptsA (pgL (List.drop (0 : Nat) bs) (rdL bs.length) (0 : Int)).length (List.drop (0 : Nat) (flat (pgL (List.drop (0 : Nat) bs) (rdL bs.length) (0 : Int)))))))).length) (.need ((revP (ptsA (pgL (List.drop (0 : Nat) bs) (rdL bs.length) (0 : Int)).length (List.drop (0 : Nat) (flat (pgL (List.drop (0 : Nat) bs) (rdL bs.length) (0 : Int)))))).length ≤ (1000000000 : Nat)) (.fin (.bool (locV (ptsA (revP (ptsA (pgL (List.drop 0 bs) (rdL bs.length) 0).length (List.drop 0 (flat (pgL (List.drop 0 bs) (rdL bs.length) 0))))).length (List.drop 0 (flat (revP (ptsA (pgL (List.drop 0 bs) (rdL bs.length) 0).length (List.drop 0 (flat (pgL (List.drop 0 bs) (rdL bs.length) 0)))))))) (dlX (List.drop 0 bs) (rdL bs.length)) (dlY (List.drop 0 bs) (rdL bs.length)) == locV (ptsA (pgL (List.drop 0 bs) (rdL bs.length) 0).length (List.drop 0 (flat (pgL (List.drop 0 bs) (rdL bs.length) 0)))) (dlX (List.drop 0 bs) (rdL bs.length)) (dlY (List.drop 0 bs) (rdL bs.length)))) []))))) (.need ((pgL (List.drop (0 : Nat) bs) (rdL bs.length) (0 : Int)).length * (2 : Nat) ≤ (List.drop (0 : Nat) (flat (pgL (List.drop (0 : Nat) bs) (rdL bs.length) (0 : Int)))).length) (.need ((pgL (List.drop (0 : Nat) bs) (rdL bs.length) (0 : Int)).length ≤ (1000000000 : Nat)) (brT (locV (ptsA (pgL (List.drop 0 bs) (rdL bs.length) 0).length (List.drop 0 (flat (pgL (List.drop 0 bs) (rdL bs.length) 0)))) (IntKind.i64.wrap (hiA (ptsA (pgL (List.drop 0 bs) (rdL bs.length) 0).length (flat (pgL (List.drop 0 bs) (rdL bs.length) 0))) (pgL (List.drop 0 bs) (rdL bs.length) 0).length + 1)) (dlY (List.drop 0 bs) (rdL bs.length)) == -1) (.need ((List.drop (0 : Nat) (flat (pgL (List.drop (0 : Nat) bs) (rdL bs.length) (0 : Int)))).length = (pgL (List.drop (0 : Nat) bs) (rdL bs.length) (0 : Int)).length * (2 : Nat)) (.need ((pgL (List.drop (0 : Nat) bs) (rdL bs.length) (0 : Int)).length ≤ (100000 : Nat)) (.need ((revP (ptsA (pgL (List.drop (0 : Nat) bs) (rdL bs.length) (0 : Int)).length (List.drop (0 : Nat) (flat (pgL (List.drop (0 : Nat) bs) (rdL bs.length) (0 : Int)))))).length * (2 : Nat) ≤ (List.drop (0 : Nat) (flat (revP (ptsA (pgL (List.drop (0 : Nat) bs) (rdL bs.length) (0 : Int)).length (List.drop (0 : Nat) (flat (pgL (List.drop (0 : Nat) bs) (rdL bs.length) (0 : Int)))))))).length) (.need ((revP (ptsA (pgL (List.drop (0 : Nat) bs) (rdL bs.length) (0 : Int)).length (List.drop (0 : Nat) (flat (pgL (List.drop (0 : Nat) bs) (rdL bs.length) (0 : Int)))))).length ≤ (1000000000 : Nat)) (.fin (.bool (locV (ptsA (revP (ptsA (pgL (List.drop 0 bs) (rdL bs.length) 0).length (List.drop 0 (flat (pgL (List.drop 0 bs) (rdL bs.length) 0))))).length (List.drop 0 (flat (revP (ptsA (pgL (List.drop 0 bs) (rdL bs.length) 0).length (List.drop 0 (flat (pgL (List.drop 0 bs) (rdL bs.length) 0)))))))) (dlX (List.drop 0 bs) (rdL bs.length)) (dlY (List.drop 0 bs) (rdL bs.length)) == locV (ptsA (pgL (List.drop 0 bs) (rdL bs.length) 0).length (List.drop 0 (flat (pgL (List.drop 0 bs) (rdL bs.length) 0)))) (dlX (List.drop 0 bs) (rdL bs.length)) (dlY (List.drop 0 bs) (rdL bs.length)))) []))))) (.fin (.bool (false)) []))))) (.fin (.bool (false)) []))))))))))))))))) := by kernel_rfl
set_option maxRecDepth 100000 in
theorem law_lo (bs : List Int) (hb : Bytes bs) (_ : bs.length ≤ maxLen) : Res Try.prog 5 [.row bs.length (.bytes bs)] (.bool true) := by
  refine bodyV_res mixed ELl_ok (m := 30) (n := 12) rfl ?_
  rw [tr_lLo]
  simp only [List.drop_zero, ptsA_flat, flat_length]
  obtain ⟨_, hL, _⟩ := pgKey hb (Nat.le_refl _) (l := rdL bs.length) (by unfold rdL; omega) (by unfold rdL; omega)
  generalize dlX bs (rdL bs.length) = x at *
  generalize dlY bs (rdL bs.length) = y at *
  generalize pgL bs (rdL bs.length) 0 = ps at *
  have hl := big_of hL
  rcases cl_or ((1048576 : Int) < bs.length) with cl | cl
  · rw [cl]
    exact rfl
  rw [cl]
  simp only [beq_self_eq_true, Bool.not_true, brT_t, brT_f, Tree.ok]
  rcases hk : (issI ps && ptB x y) with _ | _
  · have e : locV ps x y = 2 := by unfold locV; rw [hk]; rfl
    rw [e]
    repeat' (first | exact hb | exact hl | exact rfl | exact True.intro | omega | refine And.intro ?_ ?_)
  · rw [Bool.and_eq_true] at hk
    obtain ⟨h1, h2⟩ := hk
    have b := ptB_true h2
    have e2 : (locV ps x y == 2) = false := by
      unfold locV
      rw [h1, h2]
      simp only [Bool.and_self, cond_true]
      unfold locA
      rcases noE ps x y with _ | _
      · rfl
      · rcases plA_one ps x y ps.length with e | e <;> (show (plA ps x y ps.length == 2) = false; rw [e]; rfl)
    have e3 := on_loc h1 h2
    rw [e2, e3]
    obtain ⟨hv, h20, h3⟩ := issI_ok h1
    simp only [beq_self_eq_true, brT_t, brT_f, Tree.ok, revP_len, loc_rev]
    refine ⟨hb, Nat.le_refl _, Nat.le_refl _, hl, Nat.le_refl _, hl, by omega, by omega, trivial, trivial, trivial, trivial, h1, ?_⟩
    rcases hq : hiA ps ps.length == 1000 with _ | _
    · obtain ⟨k1, k2, k3⟩ := loc_hi h1 (y := y) (by omega) (by simpa using hq)
      rw [wr (by omega), k3]
      simp only [beq_self_eq_true, brT_t, brT_f, Tree.ok]
      exact ⟨Nat.le_refl _, hl, trivial, by omega, Nat.le_refl _, hl, trivial⟩
    · simp only [brT_t, Tree.ok]
      exact ⟨trivial, by omega, Nat.le_refl _, hl, trivial⟩
end Go.Proofs.Ytnjmepbblcfnfab
