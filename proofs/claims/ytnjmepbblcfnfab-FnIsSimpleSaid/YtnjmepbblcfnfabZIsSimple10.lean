/-
  Texts that the proof needs, merged. Written by an AI agent.
-/
import Derived.Orders
import Derived.Below
import Derived.OrdersIn
import Derived.Deep.LoopGhost
import Derived.WalkKit
import Derived.Laws.CopyRow
import Derived.Laws.AppendOwn
import Derived.Laws.Slices
import Derived.Laws.MakeOwn
import Derived.Test.YtnjmepbblcfnfabRows
import Derived.ProofKit
import Derived.OpenShut
import Derived.Carry
import Derived.IntWalk
import Derived.Test.YtnjmepbblcfnfabProg
import Derived.WalkSpells
import Derived.WalkLawsBesides
import Derived.Lib.Hide
import Derived.Deep.QuietTactic
import Derived.BigQuiet
import Derived.KernelRfl
import Derived.Deep.RegionHeld3
import Derived.LoopTactic
import Derived.Laws.StructEq
import Derived.Laws.Tables
import Derived.RangeFuncNested
import Derived.RangeFuncLeaves
import Derived.Deep.Slices
import Derived.Deep.Fields
import Derived.ChangeSame
import Derived.Shelf.SlSortCmp.WholeK
import Derived.Sort.Grow
import Derived.Deep.DeepCutAuto
import Derived.Shelf.SlSortCmp.NoneTotal
import Derived.Test.YtnjmepbblcfnfabZIsSimple9
namespace Go.Proofs.Ytnjmepbblcfnfab
set_option linter.all false
open Go.RowKit
/-- The point at j is not near. -/
def nrQ (ps : List Pt) (j : Nat) : Bool := decide ((ps.getD j (0, 0)).1 ≤ 900) && decide (-900 ≤ (ps.getD j (0, 0)).1) && decide ((ps.getD j (0, 0)).2 ≤ 900) && decide (-900 ≤ (ps.getD j (0, 0)).2)
noncomputable def c_near : Code := ((loopsOf (codeOf Try.f18))[0]?).getD .skip
def k_near : Ex → List Nat := keeps [0, 3] [(0, [])] [2]
def s_near (ps : List Pt) : Nat → St := fun i => ⟨(.slice (some ⟨0, 0, none⟩) ps.length ps.length :: topV :: topV :: .int .i64 i :: topV :: topV :: topV :: topV :: topV :: topV :: topV :: topV :: topV :: topV :: topV :: topV :: topV :: topV :: topV :: topV :: topV :: topV :: topV :: topV :: topV :: topV :: topV :: topV :: topV :: topV :: topV :: topV :: topV :: topV :: topV :: topV :: topV :: topV :: topV :: topV :: []), [some ⟨.view, .ints (flat ps)⟩]⟩
def re_near (ps : List Pt) : Nat → Ex := fun i => bif allQ (nrQ ps) i (ps.length - i) then .exit 0 else .ret
def rs_near (ps : List Pt) : Nat → St := fun i => bif allQ (nrQ ps) i (ps.length - i) then ⟨(topV :: topV :: topV :: topV :: topV :: topV :: topV :: topV :: topV :: topV :: topV :: topV :: topV :: topV :: topV :: topV :: topV :: topV :: topV :: topV :: topV :: topV :: topV :: topV :: topV :: topV :: topV :: topV :: topV :: topV :: topV :: topV :: topV :: topV :: topV :: topV :: topV :: topV :: topV :: topV :: []), [some ⟨.view, .ints (flat ps)⟩]⟩ else ⟨(topV :: topV :: .bool false :: topV :: topV :: topV :: topV :: topV :: topV :: topV :: topV :: topV :: topV :: topV :: topV :: topV :: topV :: topV :: topV :: topV :: topV :: topV :: topV :: topV :: topV :: topV :: topV :: topV :: topV :: topV :: topV :: topV :: topV :: topV :: topV :: topV :: topV :: topV :: topV :: topV :: []), [some ⟨.view, .ints (flat ps)⟩]⟩
set_option maxRecDepth 100000 in
theorem tr_near (ps : List Pt) (i : Nat) : bodyL Try.prog EM 30 12 noL 1 c_near k_near 1 (s_near ps i) = brT (decide ((↑i : Int) < (↑ps.length : Int))) (.need ((0 : Int) ≤ (↑i : Int) ∧ (↑i : Int) < (↑ps.length : Int)) (.need ((0 : Nat) + (↑i : Int).toNat * (2 : Nat) + (0 : Nat) < (flat ps).length) (brT (decide (900 < (flat ps).getD (0 + (↑i : Int).toNat * 2 + 0) 0)) (.leaf .ret ⟨(topV :: topV :: .bool (false) :: topV :: topV :: topV :: topV :: topV :: topV :: topV :: topV :: topV :: topV :: topV :: topV :: topV :: topV :: topV :: topV :: topV :: topV :: topV :: topV :: topV :: topV :: topV :: topV :: topV :: topV :: topV :: topV :: topV :: topV :: topV :: topV :: topV :: topV :: topV :: topV :: topV :: []), [some ⟨.view, .ints (flat ps)⟩]⟩) (.need ((0 : Int) ≤ (↑i : Int) ∧ (↑i : Int) < (↑ps.length : Int)) (.need ((0 : Nat) + (↑i : Int).toNat * (2 : Nat) + (0 : Nat) < (flat ps).length) (brT (decide ((flat ps).getD (0 + (↑i : Int).toNat * 2 + 0) 0 < -900)) (.leaf .ret ⟨(topV :: topV :: .bool (false) :: topV :: topV :: topV :: topV :: topV :: topV :: topV :: topV :: topV :: topV :: topV :: topV :: topV :: topV :: topV :: topV :: topV :: topV :: topV :: topV :: topV :: topV :: topV :: topV :: topV :: topV :: topV :: topV :: topV :: topV :: topV :: topV :: topV :: topV :: topV :: topV :: topV :: []), [some ⟨.view, .ints (flat ps)⟩]⟩) (.need ((0 : Int) ≤ (↑i : Int) ∧ (↑i : Int) < (↑ps.length : Int)) (.need ((0 : Nat) + (↑i : Int).toNat * (2 : Nat) + (1 : Nat) < (flat ps).length) (brT (decide (900 < (flat ps).getD (0 + (↑i : Int).toNat * 2 + 1) 0)) (.leaf .ret ⟨(topV :: topV :: .bool (false) :: topV :: topV :: topV :: topV :: topV :: topV :: topV :: topV :: topV :: topV :: topV :: topV :: topV :: topV :: topV :: topV :: topV :: topV :: topV :: topV :: topV :: topV :: topV :: topV :: topV :: topV :: topV :: topV :: topV :: topV :: topV :: topV :: topV :: topV :: topV :: topV :: topV :: []), [some ⟨.view, .ints (flat ps)⟩]⟩) (.need ((0 : Int) ≤ (↑i : Int) ∧ (↑i : Int) < (↑ps.length : Int)) (.need ((0 : Nat) + (↑i : Int).toNat * (2 : Nat) + (1 : Nat) < (flat ps).length) (brT (decide ((flat ps).getD (0 + (↑i : Int).toNat * 2 + 1) 0 < -900)) (.leaf .ret ⟨(topV :: topV :: .bool (false) :: topV :: topV :: topV :: topV :: topV :: topV :: topV :: topV :: topV :: topV :: topV :: topV :: topV :: topV :: topV :: topV :: topV :: topV :: topV :: topV :: topV :: topV :: topV :: topV :: topV :: topV :: topV :: topV :: topV :: topV :: topV :: topV :: topV :: topV :: topV :: topV :: topV :: []), [some ⟨.view, .ints (flat ps)⟩]⟩) (.leaf .normal ⟨(.slice (some ⟨0, 0, none⟩) (ps.length) (ps.length) :: topV :: topV :: .int .i64 (IntKind.i64.wrap ((↑i : Int) + 1)) :: topV :: topV :: topV :: topV :: topV :: topV :: topV :: topV :: topV :: topV :: topV :: topV :: topV :: topV :: topV :: topV :: topV :: topV :: topV :: topV :: topV :: topV :: topV :: topV :: topV :: topV :: topV :: topV :: topV :: topV :: topV :: topV :: topV :: topV :: topV :: topV :: []), [some ⟨.view, .ints (flat ps)⟩]⟩))))))))))))) (.leaf (.exit 0) ⟨(topV :: topV :: topV :: topV :: topV :: topV :: topV :: topV :: topV :: topV :: topV :: topV :: topV :: topV :: topV :: topV :: topV :: topV :: topV :: topV :: topV :: topV :: topV :: topV :: topV :: topV :: topV :: topV :: topV :: topV :: topV :: topV :: topV :: topV :: topV :: topV :: topV :: topV :: topV :: topV :: []), [some ⟨.view, .ints (flat ps)⟩]⟩) := by kernel_rfl
set_option maxRecDepth 100000 in
theorem nl_near : loopsOf c_near = [] := by kernel_rfl
def inv_near (ps : List Pt) : Nat → Prop := fun i => i ≤ ps.length
def me_near (ps : List Pt) : Nat → Nat := fun i => ps.length - i
/-- A round of this loop. -/
def Round_near (ps : List Pt) : Prop := ∀ xx : Nat, inv_near ps xx → (bodyL Try.prog EM 30 12 noL 1 c_near k_near 1 (s_near ps xx)).ok (RoundEnd 1 (s_near ps) (inv_near ps) (me_near ps) (re_near ps) (rs_near ps) xx) (fun _ _ => False)
def e_near (s : St) (k : Ex → St → Tree) : Option Tree := match Nat.beq s.tmps.length 40, pickL s.tmps [0, 3], s.mem with
  | true, [.slice (some ⟨0, 0, none⟩) n _, .int .i64 i], [some ⟨.view, .ints xs⟩] => some (needs [i = 0, xs.length = n * 2, n ≤ 1000000000] (brT (allQ (nrQ (ptsA n xs)) 0 n) (k (.exit 0) ⟨(topV :: topV :: topV :: topV :: topV :: topV :: topV :: topV :: topV :: topV :: topV :: topV :: topV :: topV :: topV :: topV :: topV :: topV :: topV :: topV :: topV :: topV :: topV :: topV :: topV :: topV :: topV :: topV :: topV :: topV :: topV :: topV :: topV :: topV :: topV :: topV :: topV :: topV :: topV :: topV :: []), [some ⟨.view, .ints xs⟩]⟩) (k .ret ⟨(topV :: topV :: .bool false :: topV :: topV :: topV :: topV :: topV :: topV :: topV :: topV :: topV :: topV :: topV :: topV :: topV :: topV :: topV :: topV :: topV :: topV :: topV :: topV :: topV :: topV :: topV :: topV :: topV :: topV :: topV :: topV :: topV :: topV :: topV :: topV :: topV :: topV :: topV :: topV :: topV :: []), [some ⟨.view, .ints xs⟩]⟩)))
  | _, _, _ => none
set_option maxRecDepth 100000 in
theorem round_near (ps : List Pt) (h : ps.length ≤ 1000000000) : Round_near ps := by
  intro i h1
  have h1 : i ≤ ps.length := h1
  rw [tr_near]
  have w9 : IntKind.i64.wrap (0 - 900) = -900 := by decide
  simp only [brT_ok, Tree.ok, decide_eq_true_eq, decide_eq_false_iff_not, Int.toNat_natCast, Nat.zero_add, Nat.add_zero, flat_length, flat_get0, flat_get1, w9]
  refine ⟨fun hlt => ⟨by omega, by omega, fun g1 => ?_, fun g1 => ⟨by omega, by omega, fun g2 => ?_, fun g2 => ⟨by omega, by omega, fun g3 => ?_, fun g3 => ⟨by omega, by omega, fun g4 => ?_, fun g4 => ?_⟩⟩⟩⟩, fun hge => ?_⟩
  · have e : allQ (nrQ ps) i (ps.length - i) = false := by
      rw [allQ_step (by omega)]
      have : nrQ ps i = false := by
        rw [Bool.eq_false_iff]
        intro hh
        simp only [nrQ, Bool.and_eq_true, decide_eq_true_eq] at hh
        omega
      rw [this, Bool.false_and]
    refine ⟨by simp only [re_near, e, cond_false], [], ?_⟩
    simp only [rs_near, e, cond_false]
    repeat' (first | exact True.intro | exact rfl | exact fun _ => rfl | refine And.intro ?_ ?_)
  · have e : allQ (nrQ ps) i (ps.length - i) = false := by
      rw [allQ_step (by omega)]
      have : nrQ ps i = false := by
        rw [Bool.eq_false_iff]
        intro hh
        simp only [nrQ, Bool.and_eq_true, decide_eq_true_eq] at hh
        omega
      rw [this, Bool.false_and]
    refine ⟨by simp only [re_near, e, cond_false], [], ?_⟩
    simp only [rs_near, e, cond_false]
    repeat' (first | exact True.intro | exact rfl | exact fun _ => rfl | refine And.intro ?_ ?_)
  · have e : allQ (nrQ ps) i (ps.length - i) = false := by
      rw [allQ_step (by omega)]
      have : nrQ ps i = false := by
        rw [Bool.eq_false_iff]
        intro hh
        simp only [nrQ, Bool.and_eq_true, decide_eq_true_eq] at hh
        omega
      rw [this, Bool.false_and]
    refine ⟨by simp only [re_near, e, cond_false], [], ?_⟩
    simp only [rs_near, e, cond_false]
    repeat' (first | exact True.intro | exact rfl | exact fun _ => rfl | refine And.intro ?_ ?_)
  · have e : allQ (nrQ ps) i (ps.length - i) = false := by
      rw [allQ_step (by omega)]
      have : nrQ ps i = false := by
        rw [Bool.eq_false_iff]
        intro hh
        simp only [nrQ, Bool.and_eq_true, decide_eq_true_eq] at hh
        omega
      rw [this, Bool.false_and]
    refine ⟨by simp only [re_near, e, cond_false], [], ?_⟩
    simp only [rs_near, e, cond_false]
    repeat' (first | exact True.intro | exact rfl | exact fun _ => rfl | refine And.intro ?_ ?_)
  · have e : allQ (nrQ ps) i (ps.length - i) = allQ (nrQ ps) (i + 1) (ps.length - (i + 1)) := by
      rw [allQ_step (by omega)]
      have : nrQ ps i = true := by
        simp only [nrQ, Bool.and_eq_true, decide_eq_true_eq]
        omega
      rw [this, Bool.true_and]
    rw [wsucc (n := ps.length) (by omega) h]
    refine ⟨i + 1, [], ?_, ?_, by simp only [re_near, e], by simp only [rs_near, e], ?_⟩
    · show i + 1 ≤ ps.length; omega
    · show ps.length - (i + 1) < ps.length - i; omega
    · repeat' (first | exact True.intro | exact rfl | exact fun _ => rfl | refine And.intro ?_ ?_)
  · have e : allQ (nrQ ps) i (ps.length - i) = true := allQ_end (by omega)
    refine ⟨by simp only [re_near, e, cond_true], [], ?_⟩
    simp only [rs_near, e, cond_true]
    repeat' (first | exact True.intro | exact rfl | exact fun _ => rfl | refine And.intro ?_ ?_)
set_option maxRecDepth 100000 in
theorem lg_near : LoopE Try.prog e_near c_near := by
  intro s k t F H hlt ht
  unfold e_near at hlt
  split at hlt
  rotate_left
  · cases hlt
  rename_i hlen hpick hmem
  obtain ⟨tmps, mem⟩ := s
  simp only at hlen hpick hmem
  subst hmem
  obtain rfl := Option.some.inj hlt
  obtain ⟨⟨rfl, h1, h2, _⟩, ht2⟩ := needs_ok ht
  clear ht hlt
  obtain ⟨ps, rfl, rfl⟩ := even_flat h1
  rw [ptsA_flat] at ht2
  refine ⟨_, _, pick2k ht2, loop_run mixed EM_ok (s_near ps) (inv_near ps) (me_near ps) (re_near ps) (rs_near ps) k_near (fun _ => rfl) (noLoops nl_near) (round_near ps h2) (x := 0) (Nat.zero_le _) (π := []) rfl ?_⟩
  refine ⟨rfl, rfl, ?_, wvs_spread' [0, 3] hlen rfl ?_⟩
  · repeat' (first | exact True.intro | exact rfl | exact wv_top _ _ | exact fun _ => rfl | assumption | exact Eq.symm (by assumption) | exact vI0 rfl | refine And.intro ?_ ?_)
  · rw [hpick]
    repeat' (first | exact True.intro | exact rfl | exact wv_top _ _ | exact fun _ => rfl | assumption | exact Eq.symm (by assumption) | exact vI0 rfl | refine And.intro ?_ ?_)
theorem Lr_near {fn : Func} (hf : Try.prog.funcs[18]? = some fn) : LoopsGood Try.prog (lt1 e_near) 0 (codeOf fn) := by
  obtain rfl := fn_is Try.func18 hf
  exact lt1_good lg_near
def LNr : FuncId → LT := fun f => match f with
  | 18 => lt1 e_near
  | _ => noL
def ENr : Env := mkE B0 (fun _ _ => none) LNr
theorem ENr_ok : EnvOk Try.prog ENr := mkEOk B0_ok (fun _ _ _ _ _ h => (by cases h)) (by
  intro f fn hf
  unfold LNr
  split
  all_goals first | with_reducible exact Lr_near hf | exact noL_good)
set_option maxRecDepth 100000 in
theorem tr_nearF (ps : List Pt) : bodyV Try.prog ENr 30 12 18 [.row ps.length (.ints (flat ps))] = .need ((0 : Int) = (0 : Int)) (.need ((flat ps).length = ps.length * (2 : Nat)) (.need (ps.length ≤ (1000000000 : Nat)) (brT (allQ (nrQ (ptsA ps.length (flat ps))) 0 ps.length) (.fin (.bool (true)) []) (.fin (.bool (false)) [])))) := by kernel_rfl
theorem res_near (ps : List Pt) (h : Big ps) : Res Try.prog 18 [.row ps.length (.ints (flat ps))] (.bool (allQ (nrQ ps) 0 ps.length)) := by
  refine bodyV_res mixed ENr_ok (m := 30) (n := 12) rfl ?_
  rw [tr_nearF]
  unfold Big at h
  simp only [ptsA_flat]
  rcases hq : allQ (nrQ ps) 0 ps.length with _ | _
  all_goals exact ⟨trivial, flat_length ps, h, rfl⟩
def pNr : List DArg → Option (Value × List Prop)
  | [.row m (.ints xs)] => some (.bool (allQ (nrQ (ptsA m xs)) 0 m), [m * 2 ≤ xs.length, m ≤ 1000000000])
  | _ => none
theorem pNr_ok {ds : List DArg} {v : Value} {C : List Prop} (h : pNr ds = some (v, C)) (hC : AllP C) : Res Try.prog 18 ds v := by
  unfold pNr at h
  split at h
  · rename_i m xs
    obtain ⟨rfl, rfl⟩ : _ ∧ _ := by simpa using h
    obtain ⟨_, h2⟩ := ptsA_spec hC.1
    have h0 := res_near (ptsA m xs) (by unfold Big; rw [h2]; exact hC.2.1)
    have h7 := res_pts1 (pre := []) (post := []) hC.1 h0
    rw [h2] at h7
    exact h7
  · cases h
noncomputable def c_bkw : Code := ((loopsOf (codeOf Try.f19))[0]?).getD .skip
def k_bkw : Ex → List Nat := keeps [0, 3, 4] [(0, [3])] [2]
def s_bkw (ps : List Pt) : Nat × (List Pt) → St := fun (m, o) => ⟨[.slice (some ⟨0, 0, none⟩) ps.length ps.length, topV, topV, .slice (some ⟨2, 0, none⟩) o.length o.length, .int .i64 ((m : Int) - 1), topV, topV, topV, topV, topV, topV, topV, topV, topV, topV, topV, topV, topV, topV, topV, topV], [some ⟨.view, .ints (flat ps)⟩, some ⟨.dead, .vals []⟩, some ⟨.row 31 2, .ints (flat o)⟩]⟩
def re_bkw : Nat × (List Pt) → Ex := fun _ => .exit 0
def rs_bkw (ps : List Pt) : Nat × (List Pt) → St := fun (m, o) => ⟨[topV, topV, topV, .slice (some ⟨2, 0, none⟩) (revP ps).length (revP ps).length, topV, topV, topV, topV, topV, topV, topV, topV, topV, topV, topV, topV, topV, topV, topV, topV, topV], [some ⟨.view, .ints (flat ps)⟩, some ⟨.dead, .vals []⟩, some ⟨.row 31 2, .ints (flat (revP ps))⟩]⟩
set_option maxRecDepth 100000 in
theorem tr_bkw (ps : List Pt) (m : Nat) (o : List Pt) : bodyL Try.prog ERv 30 12 noL 1 c_bkw k_bkw 16 (s_bkw ps (m, o)) = brT (decide (0 ≤ (↑m : Int) - 1)) (.need ((0 : Int) ≤ (↑m : Int) - (1 : Int) ∧ (↑m : Int) - (1 : Int) < (↑ps.length : Int)) (.need ((0 : Nat) + ((↑m : Int) - (1 : Int)).toNat * (2 : Nat) + (2 : Nat) ≤ (flat ps).length) (.need ((o.length + (1 : Nat)) * (16 : Nat) ≤ (140737488355328 : Nat) ∧ o.length + (1 : Nat) ≤ (1000000 : Nat)) (.need ((0 : Nat) + o.length * (2 : Nat) ≤ (flat o).length) (.leaf .normal ⟨[.slice (some ⟨0, 0, none⟩) (ps.length) (ps.length), topV, topV, .slice (some ⟨4, 0, none⟩) (o.length + 1) (o.length + 1), .int .i64 (IntKind.i64.wrap ((↑m : Int) - 1 - 1)), topV, topV, topV, topV, topV, topV, topV, topV, topV, topV, topV, topV, topV, topV, topV, topV], [some ⟨.view, .ints (flat ps)⟩, some deadB, some deadB, some ⟨.row 31 2, .vals [.int .i64 ((flat ps).getD (0 + ((↑m : Int) - 1).toNat * 2) 0), .int .i64 ((flat ps).getD (0 + ((↑m : Int) - 1).toNat * 2 + 1) 0)]⟩, some ⟨.row 31 2, .ints (List.take (o.length * 2) (List.drop 0 (flat o)) ++ [(flat ps).getD (0 + ((↑m : Int) - 1).toNat * 2) 0, (flat ps).getD (0 + ((↑m : Int) - 1).toNat * 2 + 1) 0])⟩]⟩))))) (.leaf (.exit 0) ⟨[topV, topV, topV, .slice (some ⟨2, 0, none⟩) (o.length) (o.length), topV, topV, topV, topV, topV, topV, topV, topV, topV, topV, topV, topV, topV, topV, topV, topV, topV], [some ⟨.view, .ints (flat ps)⟩, some deadB, some ⟨.row 31 2, .ints (flat o)⟩]⟩) := by kernel_rfl
set_option maxRecDepth 100000 in
theorem nl_bkw : loopsOf c_bkw = [] := by kernel_rfl
def inv_bkw (ps : List Pt) : Nat × (List Pt) → Prop := fun (m, o) => m ≤ ps.length ∧ o = (ps.drop m).reverse
def me_bkw (ps : List Pt) : Nat × (List Pt) → Nat := fun (m, o) => m
/-- A round of this loop. -/
def Round_bkw (ps : List Pt) : Prop := ∀ xx : Nat × (List Pt), inv_bkw ps xx → (bodyL Try.prog ERv 30 12 noL 1 c_bkw k_bkw 16 (s_bkw ps xx)).ok (RoundEnd 2 (s_bkw ps) (inv_bkw ps) (me_bkw ps) re_bkw (rs_bkw ps) xx) (fun _ _ => False)
def e_bkw (s : St) (k : Ex → St → Tree) : Option Tree := match Nat.beq s.tmps.length 21, pickL s.tmps [0, 3, 4], s.mem with
  | true, [.slice (some ⟨0, 0, none⟩) n _, .slice (some ⟨1, 0, none⟩) z _, .int .i64 i0], [some ⟨.view, .ints xs⟩, some ⟨.row 31 2, .vals []⟩] => some (needs [i0 = (n : Int) - 1, z = 0, xs.length = n * 2, n ≤ 100000] (k (.exit 0) ⟨[topV, topV, topV, .slice (some ⟨2, 0, none⟩) (revP (ptsA n xs)).length (revP (ptsA n xs)).length, topV, topV, topV, topV, topV, topV, topV, topV, topV, topV, topV, topV, topV, topV, topV, topV, topV], [some ⟨.view, .ints xs⟩, some ⟨.dead, .vals []⟩, some ⟨.row 31 2, .ints (flat (revP (ptsA n xs)))⟩]⟩))
  | _, _, _ => none
set_option maxRecDepth 100000 in
theorem round_bkw (ps : List Pt) (h : ps.length ≤ 100000) : Round_bkw ps := by
  rintro ⟨m, o⟩ ⟨h1, rfl⟩
  rw [tr_bkw]
  have hl : (ps.drop m).reverse.length = ps.length - m := by simp
  refine brT_ok.2 ⟨fun hlt => ?_, fun hge => ?_⟩
  · have hlt := of_decide_eq_true hlt
    obtain ⟨m, rfl⟩ : ∃ k, m = k + 1 := ⟨m - 1, by omega⟩
    have j1 : (((m + 1 : Nat) : Int) - 1).toNat = m := by omega
    have w : IntKind.i64.wrap (((m + 1 : Nat) : Int) - 1 - 1) = (m : Int) - 1 := by rw [wr (by omega)]; omega
    have hs := rvd_step (ps := ps) (m := m) (by omega)
    have fs : flat (ps.drop (m + 1)).reverse ++ [(ps.getD m (0, 0)).1, (ps.getD m (0, 0)).2] = flat (ps.drop m).reverse := by
      rw [flat_snoc, ← hs]
    simp only [j1, w, Nat.zero_add, flat_get0, flat_get1, flat_length, flatR, fs]
    refine ⟨by omega, by omega, ⟨by omega, by omega⟩, by omega, (m, (ps.drop m).reverse), [some 4], ⟨by omega, rfl⟩, ?_, rfl, by simp only [rs_bkw], ?_⟩
    · show m < m + 1; omega
    · have e : (ps.drop (m + 1)).reverse.length + 1 = (ps.drop m).reverse.length := by rw [← hs]; simp
      rw [e]
      repeat' (first | exact True.intro | exact rfl | exact fun _ => rfl | (simp; done) | refine And.intro ?_ ?_)
  · have hge := of_decide_eq_false hge
    obtain rfl : m = 0 := by omega
    refine ⟨rfl, [some 2], ?_⟩
    simp only [rs_bkw, revP, List.drop_zero]
    repeat' (first | exact True.intro | exact rfl | exact fun _ => rfl | (simp; done) | refine And.intro ?_ ?_)
set_option maxRecDepth 100000 in
theorem lg_bkw : LoopE Try.prog e_bkw c_bkw := by
  intro s k t F H hlt ht
  unfold e_bkw at hlt
  split at hlt
  rotate_left
  · cases hlt
  rename_i hlen hpick hmem
  obtain ⟨tmps, mem⟩ := s
  simp only at hlen hpick hmem
  subst hmem
  obtain rfl := Option.some.inj hlt
  obtain ⟨⟨rfl, rfl, h1, h3, _⟩, ht2⟩ := needs_ok ht
  clear ht hlt
  obtain ⟨ps, rfl, rfl⟩ := even_flat h1
  rw [ptsA_flat] at ht2
  refine ⟨_, _, ht2, loop_run2 mixed ERv_ok (s_bkw ps) (inv_bkw ps) (me_bkw ps) re_bkw (rs_bkw ps) k_bkw (fun _ => rfl) (noLoops nl_bkw) (round_bkw ps h3) (x := (ps.length, [])) ⟨Nat.le_refl _, by rw [List.drop_length]; rfl⟩ (π := [some 1]) rfl ?_⟩
  refine ⟨rfl, rfl, ?_, wvs_spread' [0, 3, 4] hlen rfl ?_⟩
  · repeat' (first | exact True.intro | exact rfl | exact wv_top _ _ | exact fun _ => rfl | assumption | exact Eq.symm (by assumption) | exact vI0 rfl | refine And.intro ?_ ?_)
  · rw [hpick]
    repeat' (first | exact True.intro | exact rfl | exact wv_top _ _ | exact fun _ => rfl | assumption | exact Eq.symm (by assumption) | exact vI0 rfl | refine And.intro ?_ ?_)
/-- Moved points, as numbers of the machine. -/
def mvW (dx dy : Int) (p : Pt) : Pt := (IntKind.i64.wrap (p.1 + dx), IntKind.i64.wrap (p.2 + dy))
def mvWL (dx dy : Int) (ps : List Pt) : List Pt := ps.map (mvW dx dy)
theorem mvWL_len (dx dy : Int) (ps : List Pt) : (mvWL dx dy ps).length = ps.length := by unfold mvWL; simp
theorem mvWL_step (dx dy : Int) {ps : List Pt} {i : Nat} (h : i < ps.length) : mvWL dx dy (ps.take i) ++ [mvW dx dy (ps.getD i (0, 0))] = mvWL dx dy (ps.take (i + 1)) := by
  rw [← List.take_append_getElem h]
  unfold mvWL
  rw [List.map_append, show ps.getD i (0, 0) = ps[i] by simp [h]]
  rfl
noncomputable def c_mvd : Code := ((loopsOf (codeOf Try.f20))[0]?).getD .skip
def k_mvd : Ex → List Nat := keeps [0, 1, 2, 7, 8] [(0, [7])] [6]
def s_mvd (ps : List Pt) (dx dy : Int) : Nat × (List Pt) → St := fun (i, o) => ⟨(.slice (some ⟨0, 0, none⟩) ps.length ps.length :: .int .i64 dx :: .int .i64 dy :: topV :: topV :: topV :: topV :: .slice (some ⟨4, 0, none⟩) o.length o.length :: .int .i64 i :: topV :: topV :: topV :: topV :: topV :: topV :: topV :: topV :: topV :: topV :: topV :: topV :: topV :: topV :: topV :: topV :: topV :: topV :: topV :: topV :: topV :: topV :: topV :: topV :: topV :: topV :: []), [some ⟨.view, .ints (flat ps)⟩, none, none, some ⟨.dead, .vals []⟩, some ⟨.row 31 2, .ints (flat o)⟩]⟩
def re_mvd : Nat × (List Pt) → Ex := fun _ => .exit 0
def rs_mvd (ps : List Pt) (dx dy : Int) : Nat × (List Pt) → St := fun (i, o) => ⟨(topV :: topV :: topV :: topV :: topV :: topV :: topV :: .slice (some ⟨4, 0, none⟩) (mvWL dx dy ps).length (mvWL dx dy ps).length :: topV :: topV :: topV :: topV :: topV :: topV :: topV :: topV :: topV :: topV :: topV :: topV :: topV :: topV :: topV :: topV :: topV :: topV :: topV :: topV :: topV :: topV :: topV :: topV :: topV :: topV :: topV :: []), [some ⟨.view, .ints (flat ps)⟩, none, none, some ⟨.dead, .vals []⟩, some ⟨.row 31 2, .ints (flat (mvWL dx dy ps))⟩]⟩
set_option maxRecDepth 100000 in
theorem tr_mvd (ps : List Pt) (dx dy : Int) (i : Nat) (o : List Pt) : bodyL Try.prog ERv 30 12 noL 1 c_mvd k_mvd 16 (s_mvd ps dx dy (i, o)) = brT (decide ((↑i : Int) < (↑ps.length : Int))) (.need ((0 : Int) ≤ (↑i : Int) ∧ (↑i : Int) < (↑ps.length : Int)) (.need ((0 : Nat) + (↑i : Int).toNat * (2 : Nat) + (0 : Nat) < (flat ps).length) (.need ((0 : Int) ≤ (↑i : Int) ∧ (↑i : Int) < (↑ps.length : Int)) (.need ((0 : Nat) + (↑i : Int).toNat * (2 : Nat) + (1 : Nat) < (flat ps).length) (.need ((o.length + (1 : Nat)) * (16 : Nat) ≤ (140737488355328 : Nat) ∧ o.length + (1 : Nat) ≤ (1000000 : Nat)) (.need ((0 : Nat) + o.length * (2 : Nat) ≤ (flat o).length) (.leaf .normal ⟨(.slice (some ⟨0, 0, none⟩) (ps.length) (ps.length) :: .int .i64 (dx) :: .int .i64 (dy) :: topV :: topV :: topV :: topV :: .slice (some ⟨6, 0, none⟩) (o.length + 1) (o.length + 1) :: .int .i64 (IntKind.i64.wrap ((↑i : Int) + 1)) :: topV :: topV :: topV :: topV :: topV :: topV :: topV :: topV :: topV :: topV :: topV :: topV :: topV :: topV :: topV :: topV :: topV :: topV :: topV :: topV :: topV :: topV :: topV :: topV :: topV :: topV :: []), [some ⟨.view, .ints (flat ps)⟩, none, none, some deadB, some deadB, some ⟨.row 31 2, .vals [.int .i64 (IntKind.i64.wrap ((flat ps).getD (0 + (↑i : Int).toNat * 2 + 0) 0 + dx)), .int .i64 (IntKind.i64.wrap ((flat ps).getD (0 + (↑i : Int).toNat * 2 + 1) 0 + dy))]⟩, some ⟨.row 31 2, .ints (List.take (o.length * 2) (List.drop 0 (flat o)) ++ [IntKind.i64.wrap ((flat ps).getD (0 + (↑i : Int).toNat * 2 + 0) 0 + dx), IntKind.i64.wrap ((flat ps).getD (0 + (↑i : Int).toNat * 2 + 1) 0 + dy)])⟩]⟩))))))) (.leaf (.exit 0) ⟨(topV :: topV :: topV :: topV :: topV :: topV :: topV :: .slice (some ⟨4, 0, none⟩) (o.length) (o.length) :: topV :: topV :: topV :: topV :: topV :: topV :: topV :: topV :: topV :: topV :: topV :: topV :: topV :: topV :: topV :: topV :: topV :: topV :: topV :: topV :: topV :: topV :: topV :: topV :: topV :: topV :: topV :: []), [some ⟨.view, .ints (flat ps)⟩, none, none, some deadB, some ⟨.row 31 2, .ints (flat o)⟩]⟩) := by kernel_rfl
set_option maxRecDepth 100000 in
theorem nl_mvd : loopsOf c_mvd = [] := by kernel_rfl
def inv_mvd (ps : List Pt) (dx dy : Int) : Nat × (List Pt) → Prop := fun (i, o) => i ≤ ps.length ∧ o = mvWL dx dy (ps.take i)
def me_mvd (ps : List Pt) (dx dy : Int) : Nat × (List Pt) → Nat := fun (i, o) => ps.length - i
/-- A round of this loop. -/
def Round_mvd (ps : List Pt) (dx dy : Int) : Prop := ∀ xx : Nat × (List Pt), inv_mvd ps dx dy xx → (bodyL Try.prog ERv 30 12 noL 1 c_mvd k_mvd 16 (s_mvd ps dx dy xx)).ok (RoundEnd 4 (s_mvd ps dx dy) (inv_mvd ps dx dy) (me_mvd ps dx dy) re_mvd (rs_mvd ps dx dy) xx) (fun _ _ => False)
def e_mvd (s : St) (k : Ex → St → Tree) : Option Tree := match Nat.beq s.tmps.length 35, pickL s.tmps [0, 1, 2, 7, 8], s.mem with
  | true, [.slice (some ⟨0, 0, none⟩) n _, .int .i64 dx, .int .i64 dy, .slice (some ⟨3, 0, none⟩) z _, .int .i64 i0], [some ⟨.view, .ints xs⟩, none, none, some ⟨.row 31 2, .vals []⟩] => some (needs [i0 = 0, z = 0, xs.length = n * 2, n ≤ 100000] (k (.exit 0) ⟨(topV :: topV :: topV :: topV :: topV :: topV :: topV :: .slice (some ⟨4, 0, none⟩) (mvWL dx dy (ptsA n xs)).length (mvWL dx dy (ptsA n xs)).length :: topV :: topV :: topV :: topV :: topV :: topV :: topV :: topV :: topV :: topV :: topV :: topV :: topV :: topV :: topV :: topV :: topV :: topV :: topV :: topV :: topV :: topV :: topV :: topV :: topV :: topV :: topV :: []), [some ⟨.view, .ints xs⟩, none, none, some ⟨.dead, .vals []⟩, some ⟨.row 31 2, .ints (flat (mvWL dx dy (ptsA n xs)))⟩]⟩))
  | _, _, _ => none
set_option maxRecDepth 100000 in
theorem round_mvd (ps : List Pt) (dx dy : Int) (h : ps.length ≤ 100000) : Round_mvd ps dx dy := by
  rintro ⟨i, o⟩ ⟨h1, rfl⟩
  rw [tr_mvd]
  have hl : (mvWL dx dy (ps.take i)).length = i := by rw [mvWL_len]; simp; omega
  refine brT_ok.2 ⟨fun hlt => ?_, fun hge => ?_⟩
  · have hlt := of_decide_eq_true hlt
    have hi : i < ps.length := by omega
    have hs := mvWL_step dx dy hi
    have fs : flat (mvWL dx dy (ps.take i)) ++ [IntKind.i64.wrap ((ps.getD i (0, 0)).1 + dx), IntKind.i64.wrap ((ps.getD i (0, 0)).2 + dy)] = flat (mvWL dx dy (ps.take (i + 1))) := by
      rw [flat_snoc, ← hs]
      rfl
    simp only [Int.toNat_natCast, Nat.zero_add, Nat.add_zero, flat_get0, flat_get1, flat_length, flatR, fs, wsucc (n := ps.length) hi (by omega)]
    refine ⟨by omega, by omega, by omega, by omega, ⟨by omega, by omega⟩, by omega, (i + 1, mvWL dx dy (ps.take (i + 1))), [some 6], ⟨by omega, rfl⟩, ?_, rfl, by simp only [rs_mvd], ?_⟩
    · show ps.length - (i + 1) < ps.length - i; omega
    · have e : (mvWL dx dy (ps.take i)).length + 1 = (mvWL dx dy (ps.take (i + 1))).length := by rw [← hs]; simp
      rw [e]
      repeat' (first | exact True.intro | exact rfl | exact fun _ => rfl | (simp; done) | refine And.intro ?_ ?_)
  · have hge := of_decide_eq_false hge
    obtain rfl : i = ps.length := by omega
    refine ⟨rfl, [some 4], ?_⟩
    simp only [rs_mvd, List.take_length]
    repeat' (first | exact True.intro | exact rfl | exact fun _ => rfl | (simp; done) | refine And.intro ?_ ?_)
set_option maxRecDepth 100000 in
theorem lg_mvd : LoopE Try.prog e_mvd c_mvd := by
  intro s k t F H hlt ht
  unfold e_mvd at hlt
  split at hlt
  rotate_left
  · cases hlt
  rename_i hlen hpick hmem
  obtain ⟨tmps, mem⟩ := s
  simp only at hlen hpick hmem
  subst hmem
  obtain rfl := Option.some.inj hlt
  obtain ⟨⟨rfl, rfl, h1, h3, _⟩, ht2⟩ := needs_ok ht
  clear ht hlt
  obtain ⟨ps, rfl, rfl⟩ := even_flat h1
  rw [ptsA_flat] at ht2
  refine ⟨_, _, ht2, loop_run2 mixed ERv_ok (s_mvd ps _ _) (inv_mvd ps _ _) (me_mvd ps _ _) re_mvd (rs_mvd ps _ _) k_mvd (fun _ => rfl) (noLoops nl_mvd) (round_mvd ps _ _ h3) (x := (0, [])) ⟨Nat.zero_le _, rfl⟩ (π := [some 3]) rfl ?_⟩
  refine ⟨rfl, rfl, ?_, wvs_spread' [0, 1, 2, 7, 8] hlen rfl ?_⟩
  · repeat' (first | exact True.intro | exact rfl | exact wv_top _ _ | exact fun _ => rfl | assumption | exact Eq.symm (by assumption) | exact vI0 rfl | refine And.intro ?_ ?_)
  · rw [hpick]
    repeat' (first | exact True.intro | exact rfl | exact wv_top _ _ | exact fun _ => rfl | assumption | exact Eq.symm (by assumption) | exact vI0 rfl | refine And.intro ?_ ?_)
theorem Lr_bkw {fn : Func} (hf : Try.prog.funcs[19]? = some fn) : LoopsGood Try.prog (lt1 e_bkw) 0 (codeOf fn) := by
  obtain rfl := fn_is Try.func19 hf
  exact lt1_good lg_bkw
theorem Lr_mvd {fn : Func} (hf : Try.prog.funcs[20]? = some fn) : LoopsGood Try.prog (lt1 e_mvd) 0 (codeOf fn) := by
  obtain rfl := fn_is Try.func20 hf
  exact lt1_good lg_mvd
def LBk : FuncId → LT := fun f => match f with
  | 19 => lt1 e_bkw
  | 20 => lt1 e_mvd
  | _ => noL
def EBk : Env := mkE B0 (fun _ _ => none) LBk
theorem EBk_ok : EnvOk Try.prog EBk := mkEOk B0_ok (fun _ _ _ _ _ h => (by cases h)) (by
  intro f fn hf
  unfold LBk
  split
  all_goals first | with_reducible exact Lr_bkw hf | with_reducible exact Lr_mvd hf | exact noL_good)
set_option maxRecDepth 100000 in
theorem tr_bkF (ps : List Pt) : bodyX Try.prog EBk 30 12 19 [.row ps.length (.ints (flat ps))] = .need (IntKind.i64.wrap ((↑ps.length : Int) - (1 : Int)) = (↑ps.length : Int) - (1 : Int)) (.need ((0 : Nat) = (0 : Nat)) (.need ((flat ps).length = ps.length * (2 : Nat)) (.need (ps.length ≤ (100000 : Nat)) (.fin (.slice (some ⟨2, 0, none⟩) ((revP (ptsA ps.length (flat ps))).length) ((revP (ptsA ps.length (flat ps))).length)) [some ⟨.view, .ints (flat ps)⟩, some deadB, some ⟨.row 31 2, .ints (flat (revP (ptsA ps.length (flat ps))))⟩])))) := by kernel_rfl
set_option maxRecDepth 100000 in
theorem tr_mvF (ps : List Pt) (dx dy : Int) : bodyX Try.prog EBk 30 12 20 [.row ps.length (.ints (flat ps)), .v (.int .i64 dx), .v (.int .i64 dy)] = .need ((0 : Int) = (0 : Int)) (.need ((0 : Nat) = (0 : Nat)) (.need ((flat ps).length = ps.length * (2 : Nat)) (.need (ps.length ≤ (100000 : Nat)) (.fin (.slice (some ⟨4, 0, none⟩) ((mvWL dx dy (ptsA ps.length (flat ps))).length) ((mvWL dx dy (ptsA ps.length (flat ps))).length)) [some ⟨.view, .ints (flat ps)⟩, none, none, some deadB, some ⟨.row 31 2, .ints (flat (mvWL dx dy (ptsA ps.length (flat ps))))⟩])))) := by kernel_rfl
theorem resR_bkw {ps : List Pt} (h : ps.length ≤ 100000) : ResR Try.prog 19 [.row ps.length (.ints (flat ps))] (rowP (revP ps)) (blkP (revP ps)) := by
  refine bodyX_resR mixed EBk_ok (m := 30) (n := 12) rfl ?_
  rw [tr_bkF]
  simp only [ptsA_flat]
  exact ⟨by rw [wr (by omega)], trivial, flat_length ps, h, some 2, ⟨rfl, rfl, rfl⟩, rfl, rfl, rfl⟩
theorem resR_mvd {ps : List Pt} {dx dy : Int} (h : ps.length ≤ 100000) : ResR Try.prog 20 [.row ps.length (.ints (flat ps)), .v (.int .i64 dx), .v (.int .i64 dy)] (rowP (mvWL dx dy ps)) (blkP (mvWL dx dy ps)) := by
  refine bodyX_resR mixed EBk_ok (m := 30) (n := 12) rfl ?_
  rw [tr_mvF]
  simp only [ptsA_flat]
  exact ⟨trivial, trivial, flat_length ps, h, some 4, ⟨rfl, rfl, rfl⟩, rfl, rfl, rfl⟩
end Go.Proofs.Ytnjmepbblcfnfab
namespace Go.Proofs.Ytnjmepbblcfnfab
set_option linter.all false
open Go.RowKit
def RLk : TabR := fun f ds => match f, ds with
  | 19, [.row m (.ints xs)] => some (rowP (revP (ptsA m xs)), blkP (revP (ptsA m xs)), [xs.length = m * 2, m ≤ 100000])
  | f, ds => RPd f ds
theorem RLk_ok : TabROk Try.prog RLk := by
  intro f ds v b C h hC
  unfold RLk at h
  split at h
  · rename_i m xs
    obtain ⟨rfl, rfl, rfl⟩ : _ ∧ _ ∧ _ := by simpa using h
    obtain ⟨ps, rfl, rfl⟩ := even_flat hC.1
    rw [ptsA_flat]
    exact resR_bkw hC.2.1
  · exact RPd_ok _ _ _ _ _ h hC
theorem big_of {ps : List Pt} (h : ps.length ≤ 40) : ps.length ≤ 1000000000 := by omega
theorem cl_or (p : Prop) [Decidable p] : decide p = true ∨ decide p = false := by cases decide p <;> simp
theorem tmod_nat (a b : Nat) : (a : Int).tmod (b : Int) = ((a % b : Nat) : Int) := by
  rw [Int.tmod_eq_emod_of_nonneg (by omega)]
  omega
theorem rotS_P (r : Nat) (ps : List Pt) : rotS r ps = rotP r ps := rfl
end Go.Proofs.Ytnjmepbblcfnfab
namespace Go.Proofs.Ytnjmepbblcfnfab
set_option linter.all false
open Go.RowKit
def TLi : Tab := fun f ds => match f with
  | 18 => pNr ds
  | f => TBp f ds
theorem TLi_ok : TabOk Try.prog TLi := by
  intro f ds v C h hC
  unfold TLi at h
  (try split at h)
  all_goals first | with_reducible exact pNr_ok h hC | exact TBp_ok _ _ _ _ h hC
def RLi : TabR := fun f ds => match f, ds with
  | 20, [.row m (.ints xs), .v (.int .i64 dx), .v (.int .i64 dy)] => some (rowP (mvWL dx dy (ptsA m xs)), blkP (mvWL dx dy (ptsA m xs)), [xs.length = m * 2, m ≤ 100000])
  | f, ds => RLk f ds
theorem RLi_ok : TabROk Try.prog RLi := by
  intro f ds v b C h hC
  unfold RLi at h
  split at h
  · rename_i m xs dx dy
    obtain ⟨rfl, rfl, rfl⟩ : _ ∧ _ ∧ _ := by simpa using h
    obtain ⟨ps, rfl, rfl⟩ := even_flat hC.1
    rw [ptsA_flat]
    exact resR_mvd hC.2.1
  · exact RLk_ok _ _ _ _ _ h hC
def ELi : Env := mkE TLi RLi (fun _ => noL)
theorem ELi_ok : EnvOk Try.prog ELi := mkEOk TLi_ok RLi_ok (fun _ _ _ => noL_good)
abbrev zlSi_0 (bs : List Int) := (pgL (List.drop (0 : Nat) bs) (rdL bs.length) (0 : Int))
abbrev zlSi_1 (bs : List Int) (ms : List Int) := (some (IntKind.i64, (↑ms.length : Int).tmod (↑(zlSi_0 bs).length : Int)))
abbrev zlSi_2 (bs : List Int) (ms : List Int) := ((bndI none (↑(zlSi_0 bs).length : Int)).toNat - (bndI (zlSi_1 bs ms) (0 : Int)).toNat)
abbrev zlSi_3 (bs : List Int) := (pgL (List.drop 0 bs) (rdL bs.length) 0)
abbrev zlSi_4 (bs : List Int) (ms : List Int) := ((bndI (zlSi_1 bs ms) (↑(zlSi_0 bs).length : Int)).toNat - (bndI none (0 : Int)).toNat)
abbrev zlSi_5 (bs : List Int) (ms : List Int) := (bndI (zlSi_1 bs ms) (0 : Int))
abbrev zlSi_6 (bs : List Int) (ms : List Int) := (some (IntKind.i64, (↑ms.length : Int).tmod (↑(zlSi_3 bs).length : Int)))
abbrev zlSi_7 (bs : List Int) := (↑(zlSi_0 bs).length : Int)
abbrev zlSi_8 (bs : List Int) := (ptsA (zlSi_3 bs).length (List.drop 0 (flat (zlSi_3 bs))))
abbrev zlSi_9 (bs : List Int) := (List.drop (0 : Nat) (flat (zlSi_0 bs)))
set_option maxRecDepth 100000 in
theorem tr_lSi (bs ms : List Int) : bodyV Try.prog ELi 30 12 3 [.row bs.length (.bytes bs), .row ms.length (.bytes ms)] = brT (decide (1048576 < (↑bs.length : Int))) (.fin (.bool (true)) []) (brT (decide (1048576 < (↑ms.length : Int))) (.fin (.bool (true)) []) (.need (Bytes (List.drop (0 : Nat) bs)) (.need (bs.length ≤ (List.drop (0 : Nat) bs).length) (.need ((zlSi_0 bs).length * (2 : Nat) ≤ (zlSi_9 bs).length) (.need ((zlSi_0 bs).length ≤ (1000000000 : Nat)) (.need ((zlSi_0 bs).length * (2 : Nat) ≤ (zlSi_9 bs).length) (.need ((zlSi_0 bs).length ≤ (1000000000 : Nat)) (brT (!issI (zlSi_8 bs) == issI (zlSi_8 bs)) (.need ((zlSi_0 bs).length * (2 : Nat) ≤ (zlSi_9 bs).length) (.need ((zlSi_0 bs).length ≤ (1000000000 : Nat)) (.fin (.bool (issI (zlSi_8 bs) == issI (zlSi_8 bs))) []))) (brT ((↑(zlSi_3 bs).length : Int) == 0) (.need ((zlSi_0 bs).length * (2 : Nat) ≤ (zlSi_9 bs).length) (.need ((zlSi_0 bs).length ≤ (1000000000 : Nat)) (.fin (.bool (issI (zlSi_8 bs) == issI (zlSi_8 bs))) []))) (.need ((zlSi_0 bs).length * (2 : Nat) ≤ (zlSi_9 bs).length) (.need ((zlSi_0 bs).length ≤ (1000000000 : Nat)) (brT (!allQ (nrQ (zlSi_8 bs)) 0 (zlSi_3 bs).length) (.need ((zlSi_0 bs).length * (2 : Nat) ≤ (zlSi_9 bs).length) (.need ((zlSi_0 bs).length ≤ (1000000000 : Nat)) (.fin (.bool (issI (zlSi_8 bs) == issI (zlSi_8 bs))) []))) (.need (¬(zlSi_7 bs) = (0 : Int)) (.need (((0 : Nat) + ((bndI none (zlSi_7 bs)).toNat - (zlSi_5 bs ms).toNat, Cs.ints (List.take ((zlSi_2 bs ms) * Try.prog.types[(31 : Nat)].size) (List.drop ((0 : Nat) + (zlSi_5 bs ms).toNat * Try.prog.types[(31 : Nat)].size) (flat (zlSi_0 bs)))), [(0 : Nat) + (zlSi_5 bs ms).toNat * Try.prog.types[(31 : Nat)].size + (zlSi_2 bs ms) * Try.prog.types[(31 : Nat)].size ≤ (flat (zlSi_0 bs)).length]).fst + ((bndI (zlSi_1 bs ms) (zlSi_7 bs)).toNat - (bndI none (0 : Int)).toNat, Cs.ints (List.take ((zlSi_4 bs ms) * Try.prog.types[(31 : Nat)].size) (List.drop ((0 : Nat) + (bndI none (0 : Int)).toNat * Try.prog.types[(31 : Nat)].size) (flat (zlSi_0 bs)))), [(0 : Nat) + (bndI none (0 : Int)).toNat * Try.prog.types[(31 : Nat)].size + (zlSi_4 bs ms) * Try.prog.types[(31 : Nat)].size ≤ (flat (zlSi_0 bs)).length]).fst) * (2 : Nat) ≤ (List.drop (0 : Nat) (List.take (((0 : Nat) + ((bndI none (zlSi_7 bs)).toNat - (zlSi_5 bs ms).toNat, Cs.ints (List.take ((zlSi_2 bs ms) * Try.prog.types[(31 : Nat)].size) (List.drop ((0 : Nat) + (zlSi_5 bs ms).toNat * Try.prog.types[(31 : Nat)].size) (flat (zlSi_0 bs)))), [(0 : Nat) + (zlSi_5 bs ms).toNat * Try.prog.types[(31 : Nat)].size + (zlSi_2 bs ms) * Try.prog.types[(31 : Nat)].size ≤ (flat (zlSi_0 bs)).length]).fst) * (2 : Nat)) (List.drop (0 : Nat) ([] ++ List.take ((zlSi_2 bs ms) * (2 : Nat)) (List.drop ((0 : Nat) + (zlSi_5 bs ms).toNat * (2 : Nat)) (flat (zlSi_0 bs))))) ++ List.take (((bndI (zlSi_1 bs ms) (zlSi_7 bs)).toNat - (0 : Nat)) * (2 : Nat)) (zlSi_9 bs))).length) (.need ((0 : Nat) + ((bndI none (zlSi_7 bs)).toNat - (zlSi_5 bs ms).toNat, Cs.ints (List.take ((zlSi_2 bs ms) * Try.prog.types[(31 : Nat)].size) (List.drop ((0 : Nat) + (zlSi_5 bs ms).toNat * Try.prog.types[(31 : Nat)].size) (flat (zlSi_0 bs)))), [(0 : Nat) + (zlSi_5 bs ms).toNat * Try.prog.types[(31 : Nat)].size + (zlSi_2 bs ms) * Try.prog.types[(31 : Nat)].size ≤ (flat (zlSi_0 bs)).length]).fst + ((bndI (zlSi_1 bs ms) (zlSi_7 bs)).toNat - (bndI none (0 : Int)).toNat, Cs.ints (List.take ((zlSi_4 bs ms) * Try.prog.types[(31 : Nat)].size) (List.drop ((0 : Nat) + (bndI none (0 : Int)).toNat * Try.prog.types[(31 : Nat)].size) (flat (zlSi_0 bs)))), [(0 : Nat) + (bndI none (0 : Int)).toNat * Try.prog.types[(31 : Nat)].size + (zlSi_4 bs ms) * Try.prog.types[(31 : Nat)].size ≤ (flat (zlSi_0 bs)).length]).fst ≤ (1000000000 : Nat)) (brT (issI (ptsA (0 + ((bndI none (↑(zlSi_3 bs).length : Int)).toNat - (bndI (zlSi_6 bs ms) 0).toNat, Cs.ints (List.take (((bndI none (↑(zlSi_3 bs).length : Int)).toNat - (bndI (zlSi_6 bs ms) 0).toNat) * Try.prog.types[31].size) (List.drop (0 + (bndI (zlSi_6 bs ms) 0).toNat * Try.prog.types[31].size) (flat (zlSi_3 bs)))), [0 + (bndI (zlSi_6 bs ms) 0).toNat * Try.prog.types[31].size + ((bndI none (↑(zlSi_3 bs).length : Int)).toNat - (bndI (zlSi_6 bs ms) 0).toNat) * Try.prog.types[31].size ≤ (flat (zlSi_3 bs)).length]).fst + ((bndI (zlSi_6 bs ms) (↑(zlSi_3 bs).length : Int)).toNat - (bndI none 0).toNat, Cs.ints (List.take (((bndI (zlSi_6 bs ms) (↑(zlSi_3 bs).length : Int)).toNat - (bndI none 0).toNat) * Try.prog.types[31].size) (List.drop (0 + (bndI none 0).toNat * Try.prog.types[31].size) (flat (zlSi_3 bs)))), [0 + (bndI none 0).toNat * Try.prog.types[31].size + ((bndI (zlSi_6 bs ms) (↑(zlSi_3 bs).length : Int)).toNat - (bndI none 0).toNat) * Try.prog.types[31].size ≤ (flat (zlSi_3 bs)).length]).fst) (List.drop 0 (List.take ((0 + ((bndI none (↑(zlSi_3 bs).length : Int)).toNat - (bndI (zlSi_6 bs ms) 0).toNat, Cs.ints (List.take (((bndI none (↑(zlSi_3 bs).length : Int)).toNat - (bndI (zlSi_6 bs ms) 0).toNat) * Try.prog.types[31].size) (List.drop (0 + (bndI (zlSi_6 bs ms) 0).toNat * Try.prog.types[31].size) (flat (zlSi_3 bs)))), [0 + (bndI (zlSi_6 bs ms) 0).toNat * Try.prog.types[31].size + ((bndI none (↑(zlSi_3 bs).length : Int)).toNat - (bndI (zlSi_6 bs ms) 0).toNat) * Try.prog.types[31].size ≤ (flat (zlSi_3 bs)).length]).fst) * 2) (List.drop 0 ([] ++ List.take (((bndI none (↑(zlSi_3 bs).length : Int)).toNat - (bndI (zlSi_6 bs ms) 0).toNat) * 2) (List.drop (0 + (bndI (zlSi_6 bs ms) 0).toNat * 2) (flat (zlSi_3 bs))))) ++ List.take (((bndI (zlSi_6 bs ms) (↑(zlSi_3 bs).length : Int)).toNat - 0) * 2) (List.drop 0 (flat (zlSi_3 bs)))))) == issI (zlSi_8 bs)) (.need ((zlSi_9 bs).length = (zlSi_0 bs).length * (2 : Nat)) (.need ((zlSi_0 bs).length ≤ (100000 : Nat)) (.need ((revP (ptsA (zlSi_0 bs).length (zlSi_9 bs))).length * (2 : Nat) ≤ (List.drop (0 : Nat) (flat (revP (ptsA (zlSi_0 bs).length (zlSi_9 bs))))).length) (.need ((revP (ptsA (zlSi_0 bs).length (zlSi_9 bs))).length ≤ (1000000000 : Nat)) (brT (issI (ptsA (revP (zlSi_8 bs)).length (List.drop 0 (flat (revP (zlSi_8 bs))))) == issI (zlSi_8 bs)) (.need ((zlSi_9 bs).length = (zlSi_0 bs).length * (2 : Nat)) (.need ((zlSi_0 bs).length ≤ (100000 : Nat)) (.need ((mvWL (7 : Int) (-3 : Int) (ptsA (zlSi_0 bs).length (zlSi_9 bs))).length * (2 : Nat) ≤ (List.drop (0 : Nat) (flat (mvWL (7 : Int) (-3 : Int) (ptsA (zlSi_0 bs).length (zlSi_9 bs))))).length) (.need ((mvWL (7 : Int) (-3 : Int) (ptsA (zlSi_0 bs).length (zlSi_9 bs))).length ≤ (1000000000 : Nat)) (.need ((0 : Int) ≤ bndI (zlSi_1 bs ms) (0 : Int) ∧ bndI (zlSi_1 bs ms) (0 : Int) ≤ bndI none (zlSi_7 bs) ∧ bndI none (zlSi_7 bs) ≤ (zlSi_7 bs)) (.need (((0 : Nat) + ((bndI none (zlSi_7 bs)).toNat - (zlSi_5 bs ms).toNat, Cs.ints (List.take ((zlSi_2 bs ms) * Try.prog.types[(31 : Nat)].size) (List.drop ((0 : Nat) + (zlSi_5 bs ms).toNat * Try.prog.types[(31 : Nat)].size) (flat (zlSi_0 bs)))), [(0 : Nat) + (zlSi_5 bs ms).toNat * Try.prog.types[(31 : Nat)].size + (zlSi_2 bs ms) * Try.prog.types[(31 : Nat)].size ≤ (flat (zlSi_0 bs)).length]).fst) * (16 : Nat) ≤ (140737488355328 : Nat) ∧ (0 : Nat) + ((bndI none (zlSi_7 bs)).toNat - (zlSi_5 bs ms).toNat, Cs.ints (List.take ((zlSi_2 bs ms) * Try.prog.types[(31 : Nat)].size) (List.drop ((0 : Nat) + (zlSi_5 bs ms).toNat * Try.prog.types[(31 : Nat)].size) (flat (zlSi_0 bs)))), [(0 : Nat) + (zlSi_5 bs ms).toNat * Try.prog.types[(31 : Nat)].size + (zlSi_2 bs ms) * Try.prog.types[(31 : Nat)].size ≤ (flat (zlSi_0 bs)).length]).fst ≤ (1000000 : Nat)) (.need ((0 : Nat) + (zlSi_5 bs ms).toNat * (2 : Nat) + (zlSi_2 bs ms) * (2 : Nat) ≤ (flat (zlSi_0 bs)).length) (.need ((0 : Int) ≤ bndI none (0 : Int) ∧ bndI none (0 : Int) ≤ bndI (zlSi_1 bs ms) (zlSi_7 bs) ∧ bndI (zlSi_1 bs ms) (zlSi_7 bs) ≤ (zlSi_7 bs)) (.need (((0 : Nat) + ((bndI none (zlSi_7 bs)).toNat - (zlSi_5 bs ms).toNat, Cs.ints (List.take ((zlSi_2 bs ms) * Try.prog.types[(31 : Nat)].size) (List.drop ((0 : Nat) + (zlSi_5 bs ms).toNat * Try.prog.types[(31 : Nat)].size) (flat (zlSi_0 bs)))), [(0 : Nat) + (zlSi_5 bs ms).toNat * Try.prog.types[(31 : Nat)].size + (zlSi_2 bs ms) * Try.prog.types[(31 : Nat)].size ≤ (flat (zlSi_0 bs)).length]).fst + ((bndI (zlSi_1 bs ms) (zlSi_7 bs)).toNat - (bndI none (0 : Int)).toNat, Cs.ints (List.take ((zlSi_4 bs ms) * Try.prog.types[(31 : Nat)].size) (List.drop ((0 : Nat) + (bndI none (0 : Int)).toNat * Try.prog.types[(31 : Nat)].size) (flat (zlSi_0 bs)))), [(0 : Nat) + (bndI none (0 : Int)).toNat * Try.prog.types[(31 : Nat)].size + (zlSi_4 bs ms) * Try.prog.types[(31 : Nat)].size ≤ (flat (zlSi_0 bs)).length]).fst) * (16 : Nat) ≤ (140737488355328 : Nat) ∧ (0 : Nat) + ((bndI none (zlSi_7 bs)).toNat - (zlSi_5 bs ms).toNat, Cs.ints (List.take ((zlSi_2 bs ms) * Try.prog.types[(31 : Nat)].size) (List.drop ((0 : Nat) + (zlSi_5 bs ms).toNat * Try.prog.types[(31 : Nat)].size) (flat (zlSi_0 bs)))), [(0 : Nat) + (zlSi_5 bs ms).toNat * Try.prog.types[(31 : Nat)].size + (zlSi_2 bs ms) * Try.prog.types[(31 : Nat)].size ≤ (flat (zlSi_0 bs)).length]).fst + ((bndI (zlSi_1 bs ms) (zlSi_7 bs)).toNat - (bndI none (0 : Int)).toNat, Cs.ints (List.take ((zlSi_4 bs ms) * Try.prog.types[(31 : Nat)].size) (List.drop ((0 : Nat) + (bndI none (0 : Int)).toNat * Try.prog.types[(31 : Nat)].size) (flat (zlSi_0 bs)))), [(0 : Nat) + (bndI none (0 : Int)).toNat * Try.prog.types[(31 : Nat)].size + (zlSi_4 bs ms) * Try.prog.types[(31 : Nat)].size ≤ (flat (zlSi_0 bs)).length]).fst ≤ (1000000 : Nat)) (.need ((0 : Nat) + ((bndI (zlSi_1 bs ms) (zlSi_7 bs)).toNat - (0 : Nat)) * (2 : Nat) ≤ (flat (zlSi_0 bs)).length) (.need ((0 : Nat) + ((0 : Nat) + ((bndI none (zlSi_7 bs)).toNat - (zlSi_5 bs ms).toNat, Cs.ints (List.take ((zlSi_2 bs ms) * Try.prog.types[(31 : Nat)].size) (List.drop ((0 : Nat) + (zlSi_5 bs ms).toNat * Try.prog.types[(31 : Nat)].size) (flat (zlSi_0 bs)))), [(0 : Nat) + (zlSi_5 bs ms).toNat * Try.prog.types[(31 : Nat)].size + (zlSi_2 bs ms) * Try.prog.types[(31 : Nat)].size ≤ (flat (zlSi_0 bs)).length]).fst) * (2 : Nat) ≤ ([] ++ List.take ((zlSi_2 bs ms) * (2 : Nat)) (List.drop ((0 : Nat) + (zlSi_5 bs ms).toNat * (2 : Nat)) (flat (zlSi_0 bs)))).length) (.fin (.bool (issI (ptsA (mvWL 7 (-3) (zlSi_8 bs)).length (List.drop 0 (flat (mvWL 7 (-3) (zlSi_8 bs))))) == issI (zlSi_8 bs))) [])))))))))))) (.need ((0 : Int) ≤ bndI (zlSi_1 bs ms) (0 : Int) ∧ bndI (zlSi_1 bs ms) (0 : Int) ≤ bndI none (zlSi_7 bs) ∧ bndI none (zlSi_7 bs) ≤ (zlSi_7 bs)) (.need (((0 : Nat) + ((bndI none (zlSi_7 bs)).toNat - (zlSi_5 bs ms).toNat, Cs.ints (List.take ((zlSi_2 bs ms) * Try.prog.types[(31 : Nat)].size) (List.drop ((0 : Nat) + (zlSi_5 bs ms).toNat * Try.prog.types[(31 : Nat)].size) (flat (zlSi_0 bs)))), [(0 : Nat) + (zlSi_5 bs ms).toNat * Try.prog.types[(31 : Nat)].size + (zlSi_2 bs ms) * Try.prog.types[(31 : Nat)].size ≤ (flat (zlSi_0 bs)).length]).fst) * (16 : Nat) ≤ (140737488355328 : Nat) ∧ (0 : Nat) + ((bndI none (zlSi_7 bs)).toNat - (zlSi_5 bs ms).toNat, Cs.ints (List.take ((zlSi_2 bs ms) * Try.prog.types[(31 : Nat)].size) (List.drop ((0 : Nat) + (zlSi_5 bs ms).toNat * Try.prog.types[(31 : Nat)].size) (flat (zlSi_0 bs)))), [(0 : Nat) + (zlSi_5 bs ms).toNat * Try.prog.types[(31 : Nat)].size + (zlSi_2 bs ms) * Try.prog.types[(31 : Nat)].size ≤ (flat (zlSi_0 bs)).length]).fst ≤ (1000000 : Nat)) (.need ((0 : Nat) + (zlSi_5 bs ms).toNat * (2 : Nat) + (zlSi_2 bs ms) * (2 : Nat) ≤ (flat (zlSi_0 bs)).length) (.need ((0 : Int) ≤ bndI none (0 : Int) ∧ bndI none (0 : Int) ≤ bndI (zlSi_1 bs ms) (zlSi_7 bs) ∧ bndI (zlSi_1 bs ms) (zlSi_7 bs) ≤ (zlSi_7 bs)) (.need (((0 : Nat) + ((bndI none (zlSi_7 bs)).toNat - (zlSi_5 bs ms).toNat, Cs.ints (List.take ((zlSi_2 bs ms) * Try.prog.types[(31 : Nat)].size) (List.drop ((0 : Nat) + (zlSi_5 bs ms).toNat * Try.prog.types[(31 : Nat)].size) (flat (zlSi_0 bs)))), [(0 : Nat) + (zlSi_5 bs ms).toNat * Try.prog.types[(31 : Nat)].size + (zlSi_2 bs ms) * Try.prog.types[(31 : Nat)].size ≤ (flat (zlSi_0 bs)).length]).fst + ((bndI (zlSi_1 bs ms) (zlSi_7 bs)).toNat - (bndI none (0 : Int)).toNat, Cs.ints (List.take ((zlSi_4 bs ms) * Try.prog.types[(31 : Nat)].size) (List.drop ((0 : Nat) + (bndI none (0 : Int)).toNat * Try.prog.types[(31 : Nat)].size) (flat (zlSi_0 bs)))), [(0 : Nat) + (bndI none (0 : Int)).toNat * Try.prog.types[(31 : Nat)].size + (zlSi_4 bs ms) * Try.prog.types[(31 : Nat)].size ≤ (flat (zlSi_0 bs)).length]).fst) * (16 : Nat) ≤ (140737488355328 : Nat) ∧ (0 : Nat) + ((bndI none (zlSi_7 bs)).toNat - (zlSi_5 bs ms).toNat, Cs.ints (List.take ((zlSi_2 bs ms) * Try.prog.types[(31 : Nat)].size) (List.drop ((0 : Nat) + (zlSi_5 bs ms).toNat * Try.prog.types[(31 : Nat)].size) (flat (zlSi_0 bs)))), [(0 : Nat) + (zlSi_5 bs ms).toNat * Try.prog.types[(31 : Nat)].size + (zlSi_2 bs ms) * Try.prog.types[(31 : Nat)].size ≤ (flat (zlSi_0 bs)).length]).fst + ((bndI (zlSi_1 bs ms) (zlSi_7 bs)).toNat - (bndI none (0 : Int)).toNat, Cs.ints (List.take ((zlSi_4 bs ms) * Try.prog.types[(31 : Nat)].size) (List.drop ((0 : Nat) + (bndI none (0 : Int)).toNat * Try.prog.types[(31 : Nat)].size) (flat (zlSi_0 bs)))), [(0 : Nat) + (bndI none (0 : Int)).toNat * Try.prog.types[(31 : Nat)].size + (zlSi_4 bs ms) * Try.prog.types[(31 : Nat)].size ≤ (flat (zlSi_0 bs)).length]).fst ≤ (1000000 : Nat)) (.need ((0 : Nat) + ((bndI (zlSi_1 bs ms) (zlSi_7 bs)).toNat - (0 : Nat)) * (2 : Nat) ≤ (flat (zlSi_0 bs)).length) (.need ((0 : Nat) + ((0 : Nat) + ((bndI none (zlSi_7 bs)).toNat - (zlSi_5 bs ms).toNat, Cs.ints (List.take ((zlSi_2 bs ms) * Try.prog.types[(31 : Nat)].size) (List.drop ((0 : Nat) + (zlSi_5 bs ms).toNat * Try.prog.types[(31 : Nat)].size) (flat (zlSi_0 bs)))), [(0 : Nat) + (zlSi_5 bs ms).toNat * Try.prog.types[(31 : Nat)].size + (zlSi_2 bs ms) * Try.prog.types[(31 : Nat)].size ≤ (flat (zlSi_0 bs)).length]).fst) * (2 : Nat) ≤ ([] ++ List.take ((zlSi_2 bs ms) * (2 : Nat)) (List.drop ((0 : Nat) + (zlSi_5 bs ms).toNat * (2 : Nat)) (flat (zlSi_0 bs)))).length) (.fin (.bool (false)) []))))))))))))) (.need ((0 : Int) ≤ bndI (zlSi_1 bs ms) (0 : Int) ∧ bndI (zlSi_1 bs ms) (0 : Int) ≤ bndI none (zlSi_7 bs) ∧ bndI none (zlSi_7 bs) ≤ (zlSi_7 bs)) (.need (((0 : Nat) + ((bndI none (zlSi_7 bs)).toNat - (zlSi_5 bs ms).toNat, Cs.ints (List.take ((zlSi_2 bs ms) * Try.prog.types[(31 : Nat)].size) (List.drop ((0 : Nat) + (zlSi_5 bs ms).toNat * Try.prog.types[(31 : Nat)].size) (flat (zlSi_0 bs)))), [(0 : Nat) + (zlSi_5 bs ms).toNat * Try.prog.types[(31 : Nat)].size + (zlSi_2 bs ms) * Try.prog.types[(31 : Nat)].size ≤ (flat (zlSi_0 bs)).length]).fst) * (16 : Nat) ≤ (140737488355328 : Nat) ∧ (0 : Nat) + ((bndI none (zlSi_7 bs)).toNat - (zlSi_5 bs ms).toNat, Cs.ints (List.take ((zlSi_2 bs ms) * Try.prog.types[(31 : Nat)].size) (List.drop ((0 : Nat) + (zlSi_5 bs ms).toNat * Try.prog.types[(31 : Nat)].size) (flat (zlSi_0 bs)))), [(0 : Nat) + (zlSi_5 bs ms).toNat * Try.prog.types[(31 : Nat)].size + (zlSi_2 bs ms) * Try.prog.types[(31 : Nat)].size ≤ (flat (zlSi_0 bs)).length]).fst ≤ (1000000 : Nat)) (.need ((0 : Nat) + (zlSi_5 bs ms).toNat * (2 : Nat) + (zlSi_2 bs ms) * (2 : Nat) ≤ (flat (zlSi_0 bs)).length) (.need ((0 : Int) ≤ bndI none (0 : Int) ∧ bndI none (0 : Int) ≤ bndI (zlSi_1 bs ms) (zlSi_7 bs) ∧ bndI (zlSi_1 bs ms) (zlSi_7 bs) ≤ (zlSi_7 bs)) (.need (((0 : Nat) + ((bndI none (zlSi_7 bs)).toNat - (zlSi_5 bs ms).toNat, Cs.ints (List.take ((zlSi_2 bs ms) * Try.prog.types[(31 : Nat)].size) (List.drop ((0 : Nat) + (zlSi_5 bs ms).toNat * Try.prog.types[(31 : Nat)].size) (flat (zlSi_0 bs)))), [(0 : Nat) + (zlSi_5 bs ms).toNat * Try.prog.types[(31 : Nat)].size + (zlSi_2 bs ms) * Try.prog.types[(31 : Nat)].size ≤ (flat (zlSi_0 bs)).length]).fst + ((bndI (zlSi_1 bs ms) (zlSi_7 bs)).toNat - (bndI none (0 : Int)).toNat, Cs.ints (List.take ((zlSi_4 bs ms) * Try.prog.types[(31 : Nat)].size) (List.drop ((0 : Nat) + (bndI none (0 : Int)).toNat * Try.prog.types[(31 : Nat)].size) (flat (zlSi_0 bs)))), [(0 : Nat) + (bndI none (0 : Int)).toNat * Try.prog.types[(31 : Nat)].size + (zlSi_4 bs ms) * Try.prog.types[(31 : Nat)].size ≤ (flat (zlSi_0 bs)).length]).fst) * (16 : Nat) ≤ (140737488355328 : Nat) ∧ (0 : Nat) + ((bndI none (zlSi_7 bs)).toNat - (zlSi_5 bs ms).toNat, Cs.ints (List.take ((zlSi_2 bs ms) * Try.prog.types[(31 : Nat)].size) (List.drop ((0 : Nat) + (zlSi_5 bs ms).toNat * Try.prog.types[(31 : Nat)].size) (flat (zlSi_0 bs)))), [(0 : Nat) + (zlSi_5 bs ms).toNat * Try.prog.types[(31 : Nat)].size + (zlSi_2 bs ms) * Try.prog.types[(31 : Nat)].size ≤ (flat (zlSi_0 bs)).length]).fst + ((bndI (zlSi_1 bs ms) (zlSi_7 bs)).toNat - (bndI none (0 : Int)).toNat, Cs.ints (List.take ((zlSi_4 bs ms) * Try.prog.types[(31 : Nat)].size) (List.drop ((0 : Nat) + (bndI none (0 : Int)).toNat * Try.prog.types[(31 : Nat)].size) (flat (zlSi_0 bs)))), [(0 : Nat) + (bndI none (0 : Int)).toNat * Try.prog.types[(31 : Nat)].size + (zlSi_4 bs ms) * Try.prog.types[(31 : Nat)].size ≤ (flat (zlSi_0 bs)).length]).fst ≤ (1000000 : Nat)) (.need ((0 : Nat) + ((bndI (zlSi_1 bs ms) (zlSi_7 bs)).toNat - (0 : Nat)) * (2 : Nat) ≤ (flat (zlSi_0 bs)).length) (.need ((0 : Nat) + ((0 : Nat) + ((bndI none (zlSi_7 bs)).toNat - (zlSi_5 bs ms).toNat, Cs.ints (List.take ((zlSi_2 bs ms) * Try.prog.types[(31 : Nat)].size) (List.drop ((0 : Nat) + (zlSi_5 bs ms).toNat * Try.prog.types[(31 : Nat)].size) (flat (zlSi_0 bs)))), [(0 : Nat) + (zlSi_5 bs ms).toNat * Try.prog.types[(31 : Nat)].size + (zlSi_2 bs ms) * Try.prog.types[(31 : Nat)].size ≤ (flat (zlSi_0 bs)).length]).fst) * (2 : Nat) ≤ ([] ++ List.take ((zlSi_2 bs ms) * (2 : Nat)) (List.drop ((0 : Nat) + (zlSi_5 bs ms).toNat * (2 : Nat)) (flat (zlSi_0 bs)))).length) (.fin (.bool (false)) [])))))))))))))))))))))))) := by kernel_rfl
theorem near_pt {ps : List Pt} (h : allQ (nrQ ps) 0 ps.length = true) {p : Pt} (hp : p ∈ ps) : -900 ≤ p.1 ∧ p.1 ≤ 900 ∧ -900 ≤ p.2 ∧ p.2 ≤ 900 := by
  obtain ⟨j, hj, rfl⟩ := List.getElem_of_mem hp
  have e := allQ_iff.1 h j hj
  have g : ps.getD j (0, 0) = ps[j] := by simp [hj]
  simp only [nrQ, g, Bool.and_eq_true, decide_eq_true_eq] at e
  omega
theorem mvWL_near {ps : List Pt} (h : allQ (nrQ ps) 0 ps.length = true) {dx dy : Int} (hx : -10 ≤ dx ∧ dx ≤ 10) (hy : -10 ≤ dy ∧ dy ≤ 10) : mvWL dx dy ps = mvL dx dy ps ∧ allV ps = true ∧ allV (mvL dx dy ps) = true := by
  refine ⟨?_, List.all_eq_true.2 fun p hp => ?_, List.all_eq_true.2 fun q hq => ?_⟩
  · unfold mvWL mvL
    refine List.map_congr_left fun p hp => ?_
    obtain ⟨a, b, c, d⟩ := near_pt h hp
    show (_, _) = (_, _)
    rw [wr (by omega), wr (by omega)]
  · obtain ⟨a, b, c, d⟩ := near_pt h hp
    exact decide_eq_true (by omega)
  · obtain ⟨p, hp, rfl⟩ := List.mem_map.1 hq
    obtain ⟨a, b, c, d⟩ := near_pt h hp
    unfold mvP
    exact decide_eq_true (by simp only; omega)
set_option maxRecDepth 100000 in
theorem law_si (bs ms : List Int) (hb : Bytes bs) (_ : bs.length ≤ maxLen) (hm : Bytes ms) (_ : ms.length ≤ maxLen) : Res Try.prog 3 [.row bs.length (.bytes bs), .row ms.length (.bytes ms)] (.bool true) := by
  refine bodyV_res mixed ELi_ok (m := 30) (n := 12) rfl ?_
  rw [tr_lSi]
  try delta zB2 zB4 zR2 zI zlSi_0 zlSi_1 zlSi_2 zlSi_3 zlSi_4 zlSi_5 zlSi_6 zlSi_7 zlSi_8 zlSi_9
  have T : Try.prog.types[(31 : Nat)].size = 2 := by kernel_rfl
  have eN : ∀ n : Nat, bndI none (n : Int) = n := fun _ => rfl
  have e0 : bndI none 0 = 0 := rfl
  have eS : ∀ (i d : Int), bndI (some (IntKind.i64, i)) d = i := fun _ _ => rfl
  have z0 : Int.toNat 0 = 0 := rfl
  simp only [List.drop_zero, ptsA_flat, flat_length, T, eN, e0, eS, z0, tmod_nat, Int.toNat_natCast, Nat.zero_add, Nat.sub_zero, Nat.zero_mul, List.nil_append]
  obtain ⟨_, hL, _⟩ := pgKey hb (Nat.le_refl _) (l := rdL bs.length) (by unfold rdL; omega) (by unfold rdL; omega)
  generalize pgL bs (rdL bs.length) 0 = ps at *
  have hl := big_of hL
  rcases cl_or ((1048576 : Int) < bs.length) with cl | cl
  · rw [cl]
    exact rfl
  rw [cl]
  rcases cl_or ((1048576 : Int) < ms.length) with cm | cm
  · rw [cm]
    exact rfl
  rw [cm]
  have nb : ∀ b : Bool, negB true (b == b) = false := by decide
  have nb2 : ∀ b : Bool, negB false (b == b) = true := by decide
  simp only [beq_self_eq_true, Bool.not_true, brT_t, brT_f, Tree.ok]
  rcases Nat.eq_zero_or_pos ps.length with h0 | h0
  · simp only [h0]
    repeat' (first | exact hb | exact hl | exact rfl | exact True.intro | omega | refine And.intro ?_ ?_)
  have hz : ((ps.length : Int) == 0) = false := beq_eq_false_iff_ne.2 (by omega)
  rw [hz]
  rcases hn : allQ (nrQ ps) 0 ps.length with _ | _
  · simp only [brT_t, brT_f, Bool.not_false, Tree.ok]
    repeat' (first | exact hb | exact hl | exact rfl | exact True.intro | omega | refine And.intro ?_ ?_)
  obtain ⟨w1, w2, w3⟩ := mvWL_near hn (dx := 7) (dy := -3) (by omega) (by omega)
  have hmv := issI_mv w2 w3
  have hr : ms.length % ps.length < ps.length := Nat.mod_lt _ h0
  generalize ms.length % ps.length = r at *
  have hc := rot_cells (X := ps) (m := ps.length) (r := r) rfl (by omega)
  have hx : ps.length - r + r = ps.length := by omega
  have hq : (rotP r ps).length = ps.length := rotP_len (by omega)
  have hA : ptsA ps.length (flat (rotP r ps)) = rotP r ps := by
    have := ptsA_flat (rotP r ps)
    rwa [hq] at this
  rw [rotS_P] at hc
  simp only [hc, hx, hA, w1, mvL_len, issI_rot hr, issI_rev, hmv, revP_len, beq_self_eq_true, Bool.not_true, brT_t, brT_f, Tree.ok]
  repeat' (first | exact hb | exact hl | exact rfl | exact True.intro | omega | refine And.intro ?_ ?_ | (rw [flat_length]; omega) | (rw [List.length_take, List.length_drop, flat_length]; omega))
end Go.Proofs.Ytnjmepbblcfnfab
