/-
  Texts that the proof needs, merged. Written by an AI agent.
-/
import Derived.Orders
import Derived.Below
import Derived.OrdersIn
import Derived.Deep.LoopGhost
import Derived.WalkKit
import Derived.Laws.CopyRow
import Derived.Laws.AppendOwn
import Derived.Laws.Slices
import Derived.Laws.MakeOwn
import Derived.Test.YtnjmepbblcfnfaaRows
import Derived.ProofKit
import Derived.OpenShut
import Derived.Carry
import Derived.IntWalk
import Derived.Test.YtnjmepbblcfnfaaProg
import Derived.WalkSpells
import Derived.WalkLawsBesides
import Derived.Lib.Hide
import Derived.Deep.QuietTactic
import Derived.BigQuiet
import Derived.KernelRfl
import Derived.Deep.RegionHeld3
import Derived.LoopTactic
import Derived.Laws.StructEq
import Derived.Laws.Tables
import Derived.RangeFuncNested
import Derived.RangeFuncLeaves
import Derived.Deep.Slices
import Derived.Deep.Fields
import Derived.ChangeSame
import Derived.Shelf.SlSortCmp.WholeK
import Derived.Sort.Grow
import Derived.Deep.DeepCutAuto
import Derived.Shelf.SlSortCmp.NoneTotal
import Derived.Test.YtnjmepbblcfnfaaZHull6
namespace Go.Proofs.Ytnjmepbblcfnfaa
set_option linter.all false
open Go.RowKit
/-- The point at j is another. -/
def npQ (ps : List Pt) (x y : Int) (j : Nat) : Bool := !((ps.getD j (0, 0)).1 == x && (ps.getD j (0, 0)).2 == y)
noncomputable def c_hsp : Code := ((loopsOf (codeOf Try.f21))[0]?).getD .skip
def k_hsp : Ex → List Nat := keeps [0, 3, 5] [(0, [])] [4]
def s_hsp (ps : List Pt) (x y : Int) : Nat → St := fun i => ⟨[.slice (some ⟨0, 0, none⟩) ps.length ps.length, topV, topV, .pointer (some ⟨2, 0, none⟩), topV, .int .i64 i, topV, topV, topV, topV, topV, topV, topV, topV, topV, topV, topV, topV], [some ⟨.view, .ints (flat ps)⟩, none, some ⟨.box, .vals [.int .i64 x, .int .i64 y]⟩]⟩
def re_hsp (ps : List Pt) (x y : Int) : Nat → Ex := fun i => bif allQ (npQ ps x y) i (ps.length - i) then .exit 0 else .ret
def rs_hsp (ps : List Pt) (x y : Int) : Nat → St := fun i => bif allQ (npQ ps x y) i (ps.length - i) then ⟨[topV, topV, topV, topV, topV, topV, topV, topV, topV, topV, topV, topV, topV, topV, topV, topV, topV, topV], [some ⟨.view, .ints (flat ps)⟩, none, some ⟨.box, .vals [.int .i64 x, .int .i64 y]⟩]⟩ else ⟨[topV, topV, topV, topV, .bool true, topV, topV, topV, topV, topV, topV, topV, topV, topV, topV, topV, topV, topV], [some ⟨.view, .ints (flat ps)⟩, none, some ⟨.box, .vals [.int .i64 x, .int .i64 y]⟩]⟩
set_option maxRecDepth 100000 in
theorem tr_hsp (ps : List Pt) (x y : Int) (i : Nat) : bodyL Try.prog EM 30 12 noL 1 c_hsp k_hsp 3 (s_hsp ps x y i) = brT (decide ((↑i : Int) < (↑ps.length : Int))) (.need ((0 : Int) ≤ (↑i : Int) ∧ (↑i : Int) < (↑ps.length : Int)) (.need ((0 : Nat) + (↑i : Int).toNat * (2 : Nat) + (2 : Nat) ≤ (flat ps).length) (brT (negB false ((flat ps).getD (0 + (↑i : Int).toNat * 2) 0 == x && ((flat ps).getD (0 + (↑i : Int).toNat * 2 + 1) 0 == y && true))) (.leaf .ret ⟨[topV, topV, topV, topV, .bool (true), topV, topV, topV, topV, topV, topV, topV, topV, topV, topV, topV, topV, topV], [some ⟨.view, .ints (flat ps)⟩, none, some ⟨.box, .vals [.int .i64 (x), .int .i64 (y)]⟩]⟩) (.leaf .normal ⟨[.slice (some ⟨0, 0, none⟩) (ps.length) (ps.length), topV, topV, .pointer (some ⟨2, 0, none⟩), topV, .int .i64 (IntKind.i64.wrap ((↑i : Int) + 1)), topV, topV, topV, topV, topV, topV, topV, topV, topV, topV, topV, topV], [some ⟨.view, .ints (flat ps)⟩, none, some ⟨.box, .vals [.int .i64 (x), .int .i64 (y)]⟩]⟩)))) (.leaf (.exit 0) ⟨[topV, topV, topV, topV, topV, topV, topV, topV, topV, topV, topV, topV, topV, topV, topV, topV, topV, topV], [some ⟨.view, .ints (flat ps)⟩, none, some ⟨.box, .vals [.int .i64 (x), .int .i64 (y)]⟩]⟩) := by kernel_rfl
set_option maxRecDepth 100000 in
theorem nl_hsp : loopsOf c_hsp = [] := by kernel_rfl
def inv_hsp (ps : List Pt) (x y : Int) : Nat → Prop := fun i => i ≤ ps.length
def me_hsp (ps : List Pt) (x y : Int) : Nat → Nat := fun i => ps.length - i
/-- A round of this loop. -/
def Round_hsp (ps : List Pt) (x y : Int) : Prop := ∀ xx : Nat, inv_hsp ps x y xx → (bodyL Try.prog EM 30 12 noL 1 c_hsp k_hsp 3 (s_hsp ps x y xx)).ok (RoundEnd 3 (s_hsp ps x y) (inv_hsp ps x y) (me_hsp ps x y) (re_hsp ps x y) (rs_hsp ps x y) xx) (fun _ _ => False)
def e_hsp (s : St) (k : Ex → St → Tree) : Option Tree := match Nat.beq s.tmps.length 18, pickL s.tmps [0, 3, 5], s.mem with
  | true, [.slice (some ⟨0, 0, none⟩) n _, .pointer (some ⟨2, 0, none⟩), .int .i64 i], [some ⟨.view, .ints xs⟩, none, some ⟨.box, .vals [.int .i64 x, .int .i64 y]⟩] => some (needs [i = 0, xs.length = n * 2, n ≤ 1000000000] (brT (allQ (npQ (ptsA n xs) x y) 0 n) (k (.exit 0) ⟨[topV, topV, topV, topV, topV, topV, topV, topV, topV, topV, topV, topV, topV, topV, topV, topV, topV, topV], [some ⟨.view, .ints xs⟩, none, some ⟨.box, .vals [.int .i64 x, .int .i64 y]⟩]⟩) (k .ret ⟨[topV, topV, topV, topV, .bool true, topV, topV, topV, topV, topV, topV, topV, topV, topV, topV, topV, topV, topV], [some ⟨.view, .ints xs⟩, none, some ⟨.box, .vals [.int .i64 x, .int .i64 y]⟩]⟩)))
  | _, _, _ => none
set_option maxRecDepth 100000 in
theorem round_hsp (ps : List Pt) (x y : Int) (h : ps.length ≤ 1000000000) : Round_hsp ps x y := by
  intro i h1
  have h1 : i ≤ ps.length := h1
  rw [tr_hsp]
  simp only [Int.toNat_natCast, Nat.zero_add, Nat.add_zero, flat_length, flat_get0, flat_get1]
  refine brT_ok.2 ⟨fun hlt => ?_, fun hge => ?_⟩
  · have hlt := of_decide_eq_true hlt
    have hi : i < ps.length := by omega
    have st := allQ_step (P := npQ ps x y) (i := i) (n := ps.length) hi
    have hn : npQ ps x y i = !((ps.getD i (0, 0)).1 == x && (ps.getD i (0, 0)).2 == y) := rfl
    rw [wsucc (n := ps.length) hi h]
    generalize ps.getD i (0, 0) = p at *
    rcases g1 : p.1 == x with _ | _ <;> rcases g2 : p.2 == y with _ | _
    all_goals
      rw [g1, g2] at hn
      rw [hn] at st
      simp only [g1, g2, negT_, negF_, brT_t, brT_f, Bool.not_true, Bool.not_false, Bool.and_true, Bool.and_false, Bool.true_and, Bool.false_and, cond_true, cond_false, Tree.ok] at st ⊢
      repeat (refine And.intro (by omega) ?_)
    iterate 3
      refine ⟨i + 1, [], ?_, ?_, by simp only [re_hsp, st], by simp only [rs_hsp, st], ?_⟩
      · show i + 1 ≤ ps.length; omega
      · show ps.length - (i + 1) < ps.length - i; omega
      · repeat' (first | exact True.intro | exact rfl | exact fun _ => rfl | refine And.intro ?_ ?_)
    refine ⟨by simp only [re_hsp, st, cond_false], [], ?_⟩
    simp only [rs_hsp, st, cond_false]
    repeat' (first | exact True.intro | exact rfl | exact fun _ => rfl | refine And.intro ?_ ?_)
  · have hge := of_decide_eq_false hge
    have e : allQ (npQ ps x y) i (ps.length - i) = true := allQ_end (by omega)
    refine ⟨by simp only [re_hsp, e, cond_true], [], ?_⟩
    simp only [rs_hsp, e, cond_true]
    repeat' (first | exact True.intro | exact rfl | exact fun _ => rfl | refine And.intro ?_ ?_)
set_option maxRecDepth 100000 in
theorem lg_hsp : LoopE Try.prog e_hsp c_hsp := by
  intro s k t F H hlt ht
  unfold e_hsp at hlt
  split at hlt
  rotate_left
  · cases hlt
  rename_i hlen hpick hmem
  obtain ⟨tmps, mem⟩ := s
  simp only at hlen hpick hmem
  subst hmem
  obtain rfl := Option.some.inj hlt
  obtain ⟨⟨rfl, h1, h2, _⟩, ht2⟩ := needs_ok ht
  clear ht hlt
  obtain ⟨ps, rfl, rfl⟩ := even_flat h1
  rw [ptsA_flat] at ht2
  refine ⟨_, _, pick2k ht2, loop_run mixed EM_ok (s_hsp ps _ _) (inv_hsp ps _ _) (me_hsp ps _ _) (re_hsp ps _ _) (rs_hsp ps _ _) k_hsp (fun _ => rfl) (noLoops nl_hsp) (round_hsp ps _ _ h2) (x := 0) (Nat.zero_le _) (π := []) rfl ?_⟩
  refine ⟨rfl, rfl, ?_, wvs_spread' [0, 3, 5] hlen rfl ?_⟩
  · repeat' (first | exact True.intro | exact rfl | exact wv_top _ _ | exact fun _ => rfl | assumption | exact Eq.symm (by assumption) | exact vI0 rfl | refine And.intro ?_ ?_)
  · rw [hpick]
    repeat' (first | exact True.intro | exact rfl | exact wv_top _ _ | exact fun _ => rfl | assumption | exact Eq.symm (by assumption) | exact vI0 rfl | refine And.intro ?_ ?_)
theorem Lr_hsp {fn : Func} (hf : Try.prog.funcs[21]? = some fn) : LoopsGood Try.prog (lt1 e_hsp) 0 (codeOf fn) := by
  obtain rfl := fn_is Try.func21 hf
  exact lt1_good lg_hsp
def LHs : FuncId → LT := fun f => match f with
  | 21 => lt1 e_hsp
  | _ => noL
def EHs : Env := mkE B0 (fun _ _ => none) LHs
theorem EHs_ok : EnvOk Try.prog EHs := mkEOk B0_ok (fun _ _ _ _ _ h => (by cases h)) (by
  intro f fn hf
  unfold LHs
  split
  all_goals first | with_reducible exact Lr_hsp hf | exact noL_good)
set_option maxRecDepth 100000 in
theorem tr_hspF (ps : List Pt) (x y : Int) : bodyV Try.prog EHs 30 12 21 [.row ps.length (.ints (flat ps)), .v (.agg ⟨[.int .i64 x, .int .i64 y]⟩)] = .need ((0 : Int) = (0 : Int)) (.need ((flat ps).length = ps.length * (2 : Nat)) (.need (ps.length ≤ (1000000000 : Nat)) (brT (allQ (npQ (ptsA ps.length (flat ps)) x y) 0 ps.length) (.fin (.bool (false)) []) (.fin (.bool (true)) [])))) := by kernel_rfl
theorem res_hsp (x y : Int) (ps : List Pt) (h : Big ps) : Res Try.prog 21 [.row ps.length (.ints (flat ps)), .v (.agg ⟨[.int .i64 x, .int .i64 y]⟩)] (.bool (!allQ (npQ ps x y) 0 ps.length)) := by
  refine bodyV_res mixed EHs_ok (m := 30) (n := 12) rfl ?_
  rw [tr_hspF]
  unfold Big at h
  simp only [ptsA_flat]
  rcases hq : allQ (npQ ps x y) 0 ps.length with _ | _
  all_goals exact ⟨trivial, flat_length ps, h, rfl⟩
def pHsp : List DArg → Option (Value × List Prop)
  | [.row m (.ints xs), .v (.agg ⟨[.int .i64 x, .int .i64 y]⟩)] => some (.bool (!allQ (npQ (ptsA m xs) x y) 0 m), [m * 2 ≤ xs.length, m ≤ 1000000000])
  | _ => none
theorem pHsp_ok {ds : List DArg} {v : Value} {C : List Prop} (h : pHsp ds = some (v, C)) (hC : AllP C) : Res Try.prog 21 ds v := by
  unfold pHsp at h
  split at h
  · rename_i m xs x y
    obtain ⟨rfl, rfl⟩ : _ ∧ _ := by simpa using h
    obtain ⟨_, h2⟩ := ptsA_spec hC.1
    have h0 := res_hsp x y (ptsA m xs) (by unfold Big; rw [h2]; exact hC.2.1)
    have h7 := res_pts1 (pre := []) (post := [.v (.agg ⟨[.int .i64 x, .int .i64 y]⟩)]) hC.1 h0
    rw [h2] at h7
    exact h7
  · cases h
/-- A point that is there is found. -/
theorem np_mem {ps : List Pt} {p : Pt} (h : p ∈ ps) : allQ (npQ ps p.1 p.2) 0 ps.length = false := by
  obtain ⟨j, hj, e⟩ := List.getElem_of_mem h
  rw [Bool.eq_false_iff]
  intro hh
  have : ∀ (n i : Nat), allQ (npQ ps p.1 p.2) i n = true → i ≤ j → j < i + n → npQ ps p.1 p.2 j = true := by
    intro n
    induction n with
    | zero => intro i _ _ _; omega
    | succ n ih =>
      intro i h0 h1 h2
      have h0 : (npQ ps p.1 p.2 i && allQ (npQ ps p.1 p.2) (i + 1) n) = true := h0
      rw [Bool.and_eq_true] at h0
      rcases Nat.lt_or_ge i j with h3 | h3
      · exact ih (i + 1) h0.2 h3 (by omega)
      · obtain rfl : j = i := by omega
        exact h0.1
  have t := this _ _ hh (Nat.zero_le _) (by omega)
  have g : ps.getD j (0, 0) = p := by simp [hj, e]
  unfold npQ at t
  rw [g] at t
  simp at t
end Go.Proofs.Ytnjmepbblcfnfaa
