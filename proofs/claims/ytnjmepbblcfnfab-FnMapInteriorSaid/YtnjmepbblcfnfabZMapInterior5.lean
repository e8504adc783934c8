/-
  Texts that the proof needs, merged. Written by an AI agent.
-/
import Derived.Orders
import Derived.Below
import Derived.OrdersIn
import Derived.Deep.LoopGhost
import Derived.WalkKit
import Derived.Laws.CopyRow
import Derived.Laws.AppendOwn
import Derived.Laws.Slices
import Derived.Laws.MakeOwn
import Derived.Test.YtnjmepbblcfnfabRows
import Derived.ProofKit
import Derived.OpenShut
import Derived.Carry
import Derived.IntWalk
import Derived.Test.YtnjmepbblcfnfabProg
import Derived.WalkSpells
import Derived.WalkLawsBesides
import Derived.Lib.Hide
import Derived.Deep.QuietTactic
import Derived.BigQuiet
import Derived.KernelRfl
import Derived.Deep.RegionHeld3
import Derived.LoopTactic
import Derived.Laws.StructEq
import Derived.Laws.Tables
import Derived.RangeFuncNested
import Derived.RangeFuncLeaves
import Derived.Deep.Slices
import Derived.Deep.Fields
import Derived.ChangeSame
import Derived.Shelf.SlSortCmp.WholeK
import Derived.Sort.Grow
import Derived.Deep.DeepCutAuto
import Derived.Shelf.SlSortCmp.NoneTotal
import Derived.Test.YtnjmepbblcfnfabZMapInterior4
namespace Go.Proofs.Ytnjmepbblcfnfab
set_option linter.all false
open Go.RowKit
/-- The next place of a closed path. -/
def nxP (ps : List Pt) (j : Nat) : Pt := ps.getD ((j + 1) % ps.length) (0, 0)
def sgT (ps : List Pt) (j : Nat) : Int := (ps.getD j (0, 0)).1 * (nxP ps j).2 - (ps.getD j (0, 0)).2 * (nxP ps j).1
/-- Twice the area of so many edges. -/
def sgA (ps : List Pt) : Nat → Int
  | 0 => 0
  | i + 1 => sgA ps i + sgT ps i
theorem allV_gt {ps : List Pt} (h : allV ps = true) {j : Nat} (hj : j < ps.length) : -1000 ≤ (ps.getD j (0, 0)).1 ∧ (ps.getD j (0, 0)).1 ≤ 1000 ∧ -1000 ≤ (ps.getD j (0, 0)).2 ∧ (ps.getD j (0, 0)).2 ≤ 1000 := by
  have := List.all_eq_true.1 h (ps.getD j (0, 0)) (by simp [hj])
  have := ptB_true this
  omega
theorem nx_lt {ps : List Pt} {j : Nat} (hj : j < ps.length) : (j + 1) % ps.length < ps.length := Nat.mod_lt _ (by omega)
theorem sgP_bd {ps : List Pt} (h : allV ps = true) {j : Nat} (hj : j < ps.length) : (-(1000 * 1000) ≤ (ps.getD j (0, 0)).1 * (nxP ps j).2 ∧ (ps.getD j (0, 0)).1 * (nxP ps j).2 ≤ 1000 * 1000) ∧ (-(1000 * 1000) ≤ (ps.getD j (0, 0)).2 * (nxP ps j).1 ∧ (ps.getD j (0, 0)).2 * (nxP ps j).1 ≤ 1000 * 1000) := by
  have a1 := allV_gt h hj
  have a2 := allV_gt h (nx_lt hj)
  unfold nxP
  exact ⟨mul_bd 1000 1000 (by omega) (by omega), mul_bd 1000 1000 (by omega) (by omega)⟩
theorem sgA_bd {ps : List Pt} (h : allV ps = true) : ∀ i, i ≤ ps.length → -(2000000 * (i : Int)) ≤ sgA ps i ∧ sgA ps i ≤ 2000000 * (i : Int)
  | 0, _ => by simp [sgA]
  | i + 1, hi => by
    have ih := sgA_bd h i (by omega)
    obtain ⟨b1, b2⟩ := sgP_bd h (j := i) (by omega)
    simp only [sgA, sgT]
    omega
def EGa : Env := tabE B0
theorem EGa_ok : EnvOk Try.prog EGa := tabE_ok B0_ok
noncomputable def gc_sga : Code := (rangesOf (codeOf Try.f67)).getD 0 .skip
def k_sga : Ex → List Nat := keeps [3, 7] [] []
def s_sga (ps : List Pt) : Nat → St := fun i => ⟨[topV, topV, topV, .pointer (some ⟨1, 0, none⟩), topV, topV, topV, .func (.func 109) #[] #[.pointer (some ⟨2, 0, none⟩)], topV, topV, topV, topV, topV, topV, topV, topV, topV, topV], [some ⟨.view, .ints (flat ps)⟩, some ⟨.box, .vals [.int .i64 (sgA ps i)]⟩, some ⟨.view, .vals [.slice (some ⟨0, 0, none⟩) ps.length ps.length]⟩]⟩
def g_sga (ps : List Pt) : Nat → Prop := fun i => i ≤ ps.length
def re_sga (ps : List Pt) : Ex := .normal
def rs_sga (ps : List Pt) : St := ⟨[topV, topV, topV, .pointer (some ⟨1, 0, none⟩), topV, topV, topV, topV, topV, topV, topV, topV, topV, topV, topV, topV, topV, topV], [some ⟨.view, .ints (flat ps)⟩, some ⟨.box, .vals [.int .i64 (sgA ps ps.length)]⟩, some ⟨.view, .vals [.slice (some ⟨0, 0, none⟩) ps.length ps.length]⟩]⟩
set_option maxRecDepth 100000 in
theorem tr_sga (ps : List Pt) (i : Nat) : bodyR Try.prog EGa 30 12 noL noR (asgOf gc_sga) (bodOf gc_sga) ([8, 9].zip (encE ps i)) k_sga 3 (s_sga ps i) = .leaf .normal ⟨[topV, topV, topV, .pointer (some ⟨1, 0, none⟩), topV, topV, topV, .func (Fn.func 109) #[] #[.pointer (some ⟨2, 0, none⟩)], topV, topV, topV, topV, topV, topV, topV, topV, topV, topV], [some ⟨.view, .ints (flat ps)⟩, some ⟨.box, .vals [.int .i64 (IntKind.i64.wrap (sgA ps i + IntKind.i64.wrap (IntKind.i64.wrap ((ps.getD i (0, 0)).1 * (ps.getD ((i + 1) % ps.length) (0, 0)).2) - IntKind.i64.wrap ((ps.getD i (0, 0)).2 * (ps.getD ((i + 1) % ps.length) (0, 0)).1))))]⟩, some ⟨.view, .vals [.slice (some ⟨0, 0, none⟩) (ps.length) (ps.length)]⟩]⟩ := by kernel_rfl
/-- A round of this loop. -/
def Round_sga (ps : List Pt) : Prop := ∀ i : Nat, g_sga ps i → i < (ps).length → (bodyR Try.prog EGa 30 12 noL noR (asgOf gc_sga) (bodOf gc_sga) ([8, 9].zip (encE ps i)) k_sga 3 (s_sga ps i)).ok (RoundEndR 3 (s_sga ps) (g_sga ps) (re_sga ps) (rs_sga ps) i) (fun _ _ => False)
set_option maxRecDepth 100000 in
theorem gcode_sga : gc_sga = .rangeFunc (.tmp 7) ([8, 9] : List Nat).toArray (asgOf gc_sga) (bodOf gc_sga) := by kernel_rfl
def e_sga (s : St) (k : Ex → St → Tree) : Option Tree := match Nat.beq s.tmps.length 18, pickL s.tmps [3, 7], s.mem with
  | true, [.pointer (some ⟨1, 0, none⟩), .func (.func 109) ⟨[]⟩ ⟨[.pointer (some ⟨2, 0, none⟩)]⟩], [some ⟨.view, .ints xs⟩, some ⟨.box, .vals [.int .i64 a0]⟩, some ⟨.box, .vals [.slice (some ⟨0, 0, none⟩) n _]⟩] => some (needs [a0 = 0, xs.length = n * 2, allV (ptsA n xs) = true, n ≤ 1000] (k .normal ⟨[topV, topV, topV, .pointer (some ⟨1, 0, none⟩), topV, topV, topV, topV, topV, topV, topV, topV, topV, topV, topV, topV, topV, topV], [some ⟨.view, .ints xs⟩, some ⟨.box, .vals [.int .i64 (sgA (ptsA n xs) n)]⟩, some ⟨.view, .vals [.slice (some ⟨0, 0, none⟩) n n]⟩]⟩))
  | _, _, _ => none
set_option maxRecDepth 100000 in
theorem round_sga (ps : List Pt) (hv : allV ps = true) (h : ps.length ≤ 1000) : Round_sga ps := by
  intro i hg hi
  rw [tr_sga]
  have hb := sgA_bd hv i (by omega)
  obtain ⟨b1, b2⟩ := sgP_bd hv hi
  unfold nxP at b1 b2
  simp (disch := omega) only [wr]
  refine ⟨by show i + 1 ≤ ps.length; omega, [], ?_⟩
  refine ⟨rfl, rfl, ?_, ?_⟩ <;> repeat' (first | exact True.intro | exact rfl | exact wv_top _ _ | exact fun _ => rfl | refine And.intro ?_ ?_)
set_option maxRecDepth 100000 in
theorem lg_sga : RangeE Try.prog e_sga gc_sga := by
  intro s k t F H hlt ht
  unfold e_sga at hlt
  split at hlt
  rotate_left
  · cases hlt
  rename_i hlen hpick hmem
  obtain ⟨tmps, mem⟩ := s
  simp only at hlen hpick hmem
  subst hmem
  obtain rfl := Option.some.inj hlt
  obtain ⟨⟨rfl, h1, h2, h3, _⟩, ht2⟩ := needs_ok ht
  clear ht hlt
  obtain ⟨ps, rfl, rfl⟩ := even_flat h1
  rw [ptsA_flat] at ht2 h2
  refine ⟨re_sga ps, rs_sga ps, ht2, ?_⟩
  rw [gcode_sga]
  refine range_det (enc := encE ps) (len := (ps).length) (St_of := s_sga ps) (Good := g_sga ps) (N := 3) (M := 3) (Kn := [0, 2]) (cap := [.pointer (some ⟨2, 0, none⟩)]) (kf := (k_sga .normal)) (π := []) (fun _ => rfl) (fun _ => rfl) (fun i hg hlt => bodyR_ok mixed EGa_ok (noL_good) (noR_good) (round_sga ps h2 h3 i hg hlt)) (entersB_res (by kernel_rfl)).1 rfl ?_ (fun ρ0 ρ B w lb h1 h2 => ed_iter ps (by omega) (s := (s_sga ps 0).fs) (nb := 2) (nr := 0) (c := (ps).length) (Kn := [0, 2]) rfl rfl (by decide) (by decide) ρ0 ρ B w lb h1 h2) ?_ rfl (by decide) ?_ (Nat.zero_le _)
  · intro n hn b hb
    simp only [List.mem_cons, List.not_mem_nil, or_false] at hn
    rcases hn with rfl | rfl <;> (obtain rfl := Option.some.inj hb; rfl)
  · exact fun _ => ⟨rfl, [], by refine ⟨rfl, rfl, ?_, ?_⟩ <;> repeat' (first | exact True.intro | exact rfl | exact wv_top _ _ | exact fun _ => rfl | refine And.intro ?_ ?_)⟩
  · refine ⟨rfl, rfl, ?_, wvs_spread' [3, 7] hlen rfl ?_⟩
    · repeat' (first | exact True.intro | exact rfl | exact wv_top _ _ | exact fun _ => rfl | assumption | exact Eq.symm (by assumption) | exact vI0 rfl | refine And.intro ?_ ?_)
    · rw [show pickL (viewS [0, 2] ⟨tmps, _⟩).tmps [3, 7] = pickL tmps [3, 7] from rfl, hpick]
      repeat' (first | exact True.intro | exact rfl | exact wv_top _ _ | exact fun _ => rfl | assumption | exact Eq.symm (by assumption) | exact vI0 rfl | refine And.intro ?_ ?_)
theorem nx_mod {i n : Nat} (h : i < n) (hn : n ≤ 1000000000) : (IntKind.i64.wrap ((i : Int) + 1)).tmod (n : Int) = (((i + 1) % n : Nat) : Int) := by
  rw [wsucc h hn, Int.tmod_eq_emod_of_nonneg (by omega)]
  omega
theorem Gr_sga {fn : Func} (hf : Try.prog.funcs[67]? = some fn) : RangesGood Try.prog (rt1 7 e_sga) (codeOf fn) := by
  obtain rfl := fn_is Try.func67 hf
  exact rt1_good (by kernel_rfl) lg_sga
def GSg : FuncId → RT := fun f => match f with
  | 67 => rt1 7 e_sga
  | _ => noR
def ESg : Env := withG (tabE B0) GSg
theorem ESg_ok : EnvOk Try.prog ESg := withG_ok (tabE_ok B0_ok) (by
  intro f fn hf
  unfold GSg
  split
  all_goals first | with_reducible exact Gr_sga hf | exact noR_good)
set_option maxRecDepth 100000 in
theorem tr_iSga (ps : List Pt) : bodyV Try.prog ESg 30 12 67 [.row ps.length (.ints (flat ps))] = .need ((0 : Int) = (0 : Int)) (.need ((flat ps).length = ps.length * (2 : Nat)) (.need (allV (ptsA ps.length (flat ps)) = true) (.need (ps.length ≤ (1000 : Nat)) (.fin (.int .i64 (sgA (ptsA ps.length (flat ps)) ps.length)) [])))) := by kernel_rfl
theorem res_iSga {ps : List Pt} (hv : allV ps = true) (h : ps.length ≤ 1000) : Res Try.prog 67 [.row ps.length (.ints (flat ps))] (iv (sgA ps ps.length)) := by
  refine bodyV_res mixed ESg_ok (m := 30) (n := 12) rfl ?_
  rw [tr_iSga]
  simp only [ptsA_flat]
  exact ⟨trivial, flat_length ps, hv, h, rfl⟩
noncomputable def c_sDa : Code := ((loopsOf (codeOf Try.f68))[0]?).getD .skip
def k_sDa : Ex → List Nat := keeps [0, 3, 4] [(0, [3])] [2]
def s_sDa (ps : List Pt) : Nat → St := fun i => ⟨(.slice (some ⟨0, 0, none⟩) ps.length ps.length :: topV :: topV :: .int .i64 (sgA ps i) :: .int .i64 i :: topV :: topV :: topV :: topV :: topV :: topV :: topV :: topV :: topV :: topV :: topV :: topV :: topV :: topV :: topV :: topV :: topV :: topV :: topV :: topV :: topV :: topV :: topV :: topV :: topV :: topV :: topV :: topV :: topV :: topV :: topV :: topV :: topV :: topV :: topV :: []), [some ⟨.view, .ints (flat ps)⟩]⟩
def re_sDa : Nat → Ex := fun _ => .exit 0
def rs_sDa (ps : List Pt) : Nat → St := fun i => ⟨(topV :: topV :: topV :: .int .i64 (sgA ps ps.length) :: topV :: topV :: topV :: topV :: topV :: topV :: topV :: topV :: topV :: topV :: topV :: topV :: topV :: topV :: topV :: topV :: topV :: topV :: topV :: topV :: topV :: topV :: topV :: topV :: topV :: topV :: topV :: topV :: topV :: topV :: topV :: topV :: topV :: topV :: topV :: topV :: []), [some ⟨.view, .ints (flat ps)⟩]⟩
set_option maxRecDepth 100000 in
theorem tr_sDa (ps : List Pt) (i : Nat) : bodyL Try.prog EGa 30 12 noL 1 c_sDa k_sDa 1 (s_sDa ps i) = brT (decide ((↑i : Int) < (↑ps.length : Int))) (.need (¬(↑ps.length : Int) = (0 : Int)) (.need ((0 : Int) ≤ (IntKind.i64.wrap ((↑i : Int) + (1 : Int))).tmod (↑ps.length : Int) ∧ (IntKind.i64.wrap ((↑i : Int) + (1 : Int))).tmod (↑ps.length : Int) < (↑ps.length : Int)) (.need ((0 : Nat) + ((IntKind.i64.wrap ((↑i : Int) + (1 : Int))).tmod (↑ps.length : Int)).toNat * (2 : Nat) + (2 : Nat) ≤ (flat ps).length) (.need ((0 : Int) ≤ (↑i : Int) ∧ (↑i : Int) < (↑ps.length : Int)) (.need ((0 : Nat) + (↑i : Int).toNat * (2 : Nat) + (0 : Nat) < (flat ps).length) (.need ((0 : Int) ≤ (↑i : Int) ∧ (↑i : Int) < (↑ps.length : Int)) (.need ((0 : Nat) + (↑i : Int).toNat * (2 : Nat) + (1 : Nat) < (flat ps).length) (.leaf .normal ⟨(.slice (some ⟨0, 0, none⟩) (ps.length) (ps.length) :: topV :: topV :: .int .i64 (IntKind.i64.wrap (IntKind.i64.wrap (sgA ps i + IntKind.i64.wrap ((flat ps).getD (0 + (↑i : Int).toNat * 2 + 0) 0 * (flat ps).getD (0 + ((IntKind.i64.wrap ((↑i : Int) + 1)).tmod (↑ps.length : Int)).toNat * 2 + 1) 0)) - IntKind.i64.wrap ((flat ps).getD (0 + (↑i : Int).toNat * 2 + 1) 0 * (flat ps).getD (0 + ((IntKind.i64.wrap ((↑i : Int) + 1)).tmod (↑ps.length : Int)).toNat * 2) 0))) :: .int .i64 (IntKind.i64.wrap ((↑i : Int) + 1)) :: topV :: topV :: topV :: topV :: topV :: topV :: topV :: topV :: topV :: topV :: topV :: topV :: topV :: topV :: topV :: topV :: topV :: topV :: topV :: topV :: topV :: topV :: topV :: topV :: topV :: topV :: topV :: topV :: topV :: topV :: topV :: topV :: topV :: topV :: topV :: []), [some ⟨.view, .ints (flat ps)⟩]⟩)))))))) (.leaf (.exit 0) ⟨(topV :: topV :: topV :: .int .i64 (sgA ps i) :: topV :: topV :: topV :: topV :: topV :: topV :: topV :: topV :: topV :: topV :: topV :: topV :: topV :: topV :: topV :: topV :: topV :: topV :: topV :: topV :: topV :: topV :: topV :: topV :: topV :: topV :: topV :: topV :: topV :: topV :: topV :: topV :: topV :: topV :: topV :: topV :: []), [some ⟨.view, .ints (flat ps)⟩]⟩) := by kernel_rfl
set_option maxRecDepth 100000 in
theorem nl_sDa : loopsOf c_sDa = [] := by kernel_rfl
def inv_sDa (ps : List Pt) : Nat → Prop := fun i => i ≤ ps.length
def me_sDa (ps : List Pt) : Nat → Nat := fun i => ps.length - i
/-- A round of this loop. -/
def Round_sDa (ps : List Pt) : Prop := ∀ xx : Nat, inv_sDa ps xx → (bodyL Try.prog EGa 30 12 noL 1 c_sDa k_sDa 1 (s_sDa ps xx)).ok (RoundEnd 1 (s_sDa ps) (inv_sDa ps) (me_sDa ps) re_sDa (rs_sDa ps) xx) (fun _ _ => False)
def e_sDa (s : St) (k : Ex → St → Tree) : Option Tree := match Nat.beq s.tmps.length 40, pickL s.tmps [0, 3, 4], s.mem with
  | true, [.slice (some ⟨0, 0, none⟩) n _, .int .i64 a0, .int .i64 i], [some ⟨.view, .ints xs⟩] => some (needs [i = 0, a0 = 0, xs.length = n * 2, allV (ptsA n xs) = true, n ≤ 1000] (k (.exit 0) ⟨(topV :: topV :: topV :: .int .i64 (sgA (ptsA n xs) n) :: topV :: topV :: topV :: topV :: topV :: topV :: topV :: topV :: topV :: topV :: topV :: topV :: topV :: topV :: topV :: topV :: topV :: topV :: topV :: topV :: topV :: topV :: topV :: topV :: topV :: topV :: topV :: topV :: topV :: topV :: topV :: topV :: topV :: topV :: topV :: topV :: []), [some ⟨.view, .ints xs⟩]⟩))
  | _, _, _ => none
set_option maxRecDepth 100000 in
theorem round_sDa (ps : List Pt) (hv : allV ps = true) (h : ps.length ≤ 1000) : Round_sDa ps := by
  intro i h1
  have h1 : i ≤ ps.length := h1
  rw [tr_sDa]
  simp only [brT_ok, Tree.ok, decide_eq_true_eq, decide_eq_false_iff_not, Int.toNat_natCast, Nat.zero_add, flat_length, flat_get0, flat_get1]
  have key : ∀ g : i < ps.length, sgA ps (i + 1) = sgA ps i + sgT ps i := fun _ => rfl
  refine ⟨fun hlt => ?_, fun hge => ?_⟩
  · have hi : i < ps.length := by omega
    have hm := nx_lt hi
    rw [nx_mod hi (by omega)]
    simp only [Int.toNat_natCast, Nat.add_zero, flat_get0]
    have hb := sgA_bd hv i (by omega)
    obtain ⟨b1, b2⟩ := sgP_bd hv hi
    have ea : sgA ps (i + 1) = sgA ps i + (ps.getD i (0, 0)).1 * (nxP ps i).2 - (ps.getD i (0, 0)).2 * (nxP ps i).1 := by
      show sgA ps i + sgT ps i = _
      unfold sgT
      omega
    unfold nxP at b1 b2 ea
    rw [wsucc (n := ps.length) hi (by omega)]
    simp (disch := omega) only [wr]
    rw [← ea]
    refine ⟨by omega, by omega, by omega, by omega, by omega, by omega, by omega, i + 1, [], ?_, ?_, rfl, by simp only [rs_sDa], ?_⟩
    · show i + 1 ≤ ps.length; omega
    · show ps.length - (i + 1) < ps.length - i; omega
    · repeat' (first | exact True.intro | exact rfl | exact fun _ => rfl | refine And.intro ?_ ?_)
  · obtain rfl : i = ps.length := by omega
    refine ⟨rfl, [], ?_⟩
    simp only [rs_sDa]
    repeat' (first | exact True.intro | exact rfl | exact fun _ => rfl | refine And.intro ?_ ?_)
set_option maxRecDepth 100000 in
theorem lg_sDa : LoopE Try.prog e_sDa c_sDa := by
  intro s k t F H hlt ht
  unfold e_sDa at hlt
  split at hlt
  rotate_left
  · cases hlt
  rename_i hlen hpick hmem
  obtain ⟨tmps, mem⟩ := s
  simp only at hlen hpick hmem
  subst hmem
  obtain rfl := Option.some.inj hlt
  obtain ⟨⟨rfl, rfl, h1, h2, h3, _⟩, ht2⟩ := needs_ok ht
  clear ht hlt
  obtain ⟨ps, rfl, rfl⟩ := even_flat h1
  rw [ptsA_flat] at ht2 h2
  refine ⟨_, _, ht2, loop_run mixed EGa_ok (s_sDa ps) (inv_sDa ps) (me_sDa ps) re_sDa (rs_sDa ps) k_sDa (fun _ => rfl) (noLoops nl_sDa) (round_sDa ps h2 h3) (x := 0) (Nat.zero_le _) (π := []) rfl ?_⟩
  refine ⟨rfl, rfl, ?_, wvs_spread' [0, 3, 4] hlen rfl ?_⟩
  · repeat' (first | exact True.intro | exact rfl | exact wv_top _ _ | exact fun _ => rfl | assumption | exact Eq.symm (by assumption) | exact vI0 rfl | refine And.intro ?_ ?_)
  · rw [hpick]
    repeat' (first | exact True.intro | exact rfl | exact wv_top _ _ | exact fun _ => rfl | assumption | exact Eq.symm (by assumption) | exact vI0 rfl | refine And.intro ?_ ?_)
theorem Lr_sDa {fn : Func} (hf : Try.prog.funcs[68]? = some fn) : LoopsGood Try.prog (lt1 e_sDa) 0 (codeOf fn) := by
  obtain rfl := fn_is Try.func68 hf
  exact lt1_good lg_sDa
def LDa : FuncId → LT := fun f => match f with
  | 68 => lt1 e_sDa
  | _ => noL
def EDa : Env := mkE B0 (fun _ _ => none) LDa
theorem EDa_ok : EnvOk Try.prog EDa := mkEOk B0_ok (fun _ _ _ _ _ h => (by cases h)) (by
  intro f fn hf
  unfold LDa
  split
  all_goals first | with_reducible exact Lr_sDa hf | exact noL_good)
set_option maxRecDepth 100000 in
theorem tr_sDaF (ps : List Pt) : bodyV Try.prog EDa 30 12 68 [.row ps.length (.ints (flat ps))] = .need ((0 : Int) = (0 : Int)) (.need ((0 : Int) = (0 : Int)) (.need ((flat ps).length = ps.length * (2 : Nat)) (.need (allV (ptsA ps.length (flat ps)) = true) (.need (ps.length ≤ (1000 : Nat)) (.fin (.int .i64 (sgA (ptsA ps.length (flat ps)) ps.length)) []))))) := by kernel_rfl
theorem res_sDa {ps : List Pt} (hv : allV ps = true) (h : ps.length ≤ 1000) : Res Try.prog 68 [.row ps.length (.ints (flat ps))] (iv (sgA ps ps.length)) := by
  refine bodyV_res mixed EDa_ok (m := 30) (n := 12) rfl ?_
  rw [tr_sDaF]
  simp only [ptsA_flat]
  exact ⟨trivial, trivial, flat_length ps, hv, h, rfl⟩
def pSga : List DArg → Option (Value × List Prop)
  | [.row m (.ints xs)] => some (iv (sgA (ptsA m xs) m), [m * 2 ≤ xs.length, allV (ptsA m xs) = true, m ≤ 20])
  | _ => none
theorem pSga_i {ds : List DArg} {v : Value} {C : List Prop} (h : pSga ds = some (v, C)) (hC : AllP C) : Res Try.prog 67 ds v := by
  unfold pSga at h
  split at h
  · rename_i m xs
    obtain ⟨rfl, rfl⟩ : _ ∧ _ := by simpa using h
    obtain ⟨_, h2⟩ := ptsA_spec hC.1
    have h7 := res_pts1 (pre := []) (post := []) hC.1 (res_iSga (ps := ptsA m xs) hC.2.1 (by rw [h2]; have := hC.2.2.1; omega))
    rw [h2] at h7
    exact h7
  · cases h
theorem pSga_s {ds : List DArg} {v : Value} {C : List Prop} (h : pSga ds = some (v, C)) (hC : AllP C) : Res Try.prog 68 ds v := by
  unfold pSga at h
  split at h
  · rename_i m xs
    obtain ⟨rfl, rfl⟩ : _ ∧ _ := by simpa using h
    obtain ⟨_, h2⟩ := ptsA_spec hC.1
    have h7 := res_pts1 (pre := []) (post := []) hC.1 (res_sDa (ps := ptsA m xs) hC.2.1 (by rw [h2]; have := hC.2.2.1; omega))
    rw [h2] at h7
    exact h7
  · cases h
def TSg : Tab := fun f ds => match f with
  | 67 => pSga ds
  | 68 => pSga ds
  | _ => none
theorem TSg_ok : TabOk Try.prog TSg := by
  intro f ds v C h hC
  unfold TSg at h
  (try split at h)
  all_goals first | with_reducible exact pSga_i h hC | with_reducible exact pSga_s h hC | cases h
/-- Two tables, one after the other. -/
def orT (A B : Tab) : Tab := fun f ds => match A f ds with
  | some x => some x
  | none => B f ds
theorem orT_ok {P : Program} {A B : Tab} (hA : TabOk P A) (hB : TabOk P B) : TabOk P (orT A B) := by
  intro f ds v C h hC
  unfold orT at h
  split at h
  · rename_i x hx
    obtain rfl : x = (v, C) := by simpa using h
    exact hA _ _ _ _ hx hC
  · exact hB _ _ _ _ h hC
end Go.Proofs.Ytnjmepbblcfnfab
namespace Go.Proofs.Ytnjmepbblcfnfab
set_option linter.all false
open Go.RowKit
def crP (a b c : Pt) : Int := crossI a.1 a.2 b.1 b.2 c.1 c.2
/-- How many of so many points stay on the stack ahead of another one. -/
def popN (st : List Pt) (p : Pt) : Nat → Nat
  | 0 => 0
  | 1 => 1
  | j + 2 => if crP (st.getD j (0, 0)) (st.getD (j + 1) (0, 0)) p ≤ 0 then popN st p (j + 1) else j + 2
def pushP (st : List Pt) (p : Pt) : List Pt := st.take (popN st p st.length) ++ [p]
def chn (st ps : List Pt) : List Pt := ps.foldl pushP st
theorem popN_le (st : List Pt) (p : Pt) : ∀ j, popN st p j ≤ j
  | 0 => Nat.le_refl _
  | 1 => Nat.le_refl _
  | j + 2 => by
    have := popN_le st p (j + 1)
    simp only [popN]
    split <;> omega
theorem pushP_len (st : List Pt) (p : Pt) : (pushP st p).length ≤ st.length + 1 := by
  unfold pushP
  simp
  omega
theorem allV_at {ps : List Pt} (h : allV ps = true) {j : Nat} (hj : j < ps.length) : ptB (ps.getD j (0, 0)).1 (ps.getD j (0, 0)).2 = true := List.all_eq_true.1 h (ps.getD j (0, 0)) (by simp [hj])
theorem allV_push {st : List Pt} {p : Pt} (h : allV st = true) (hp : ptB p.1 p.2 = true) : allV (pushP st p) = true := by
  unfold pushP
  refine List.all_eq_true.2 fun z hz => ?_
  rcases List.mem_append.1 hz with hz | hz
  · exact List.all_eq_true.1 h z (List.mem_of_mem_take hz)
  · obtain rfl : z = p := by simpa using hz
    exact hp
theorem chn_len : ∀ (ps st : List Pt), (chn st ps).length ≤ st.length + ps.length
  | [], st => Nat.le_refl _
  | p :: r, st => by
    have h1 := chn_len r (pushP st p)
    have h2 := pushP_len st p
    simp only [chn, List.foldl_cons, List.length_cons] at h1 ⊢
    omega
theorem pushP_len1 (st : List Pt) (p : Pt) : (pushP st p).length = popN st p st.length + 1 := by
  have := popN_le st p st.length
  unfold pushP
  simp
  omega
def revP (ps : List Pt) : List Pt := ps.reverse
theorem getD_rev {ps : List Pt} {k : Nat} (h : k < ps.length) : ps.reverse.getD k (0, 0) = ps.getD (ps.length - 1 - k) (0, 0) := by
  simp [List.getD, h, show ps.length - 1 - k < ps.length by omega]
theorem ext_getD {a b : List Pt} (hl : a.length = b.length) (h : ∀ k, k < a.length → a.getD k (0, 0) = b.getD k (0, 0)) : a = b := by
  refine List.ext_getElem hl fun k h1 h2 => ?_
  have := h k h1
  simpa [List.getD, h1, h2] using this
end Go.Proofs.Ytnjmepbblcfnfab
namespace Go.Proofs.Ytnjmepbblcfnfab
set_option linter.all false
open Go.RowKit
theorem flatR (o : List Pt) : List.take (o.length * 2) (List.drop 0 (flat o)) = flat o := by rw [List.drop_zero, flat_all]
def ERv : Env := tabE B0
theorem ERv_ok : EnvOk Try.prog ERv := tabE_ok B0_ok
/-- So many are exchanged at both ends. -/
def rvI (ps X : List Pt) (i : Nat) : Prop := X.length = ps.length ∧ ∀ k, k < ps.length → X.getD k (0, 0) = if k < i ∨ ps.length - 1 - k < i then ps.getD (ps.length - 1 - k) (0, 0) else ps.getD k (0, 0)
theorem rv_end {ps X : List Pt} {i : Nat} (h : rvI ps X i) (hi : ps.length ≤ 2 * i + 1) : X = ps.reverse := by
  refine ext_getD (by simp [h.1]) fun k hk => ?_
  rw [h.1] at hk
  rw [h.2 k hk, getD_rev hk]
  split
  · rfl
  · congr 1
    omega
theorem getD_set' (X : List Pt) (i k : Nat) (z : Pt) (h : i < X.length) : (X.set i z).getD k (0, 0) = if k = i then z else X.getD k (0, 0) := by
  simp only [List.getD, List.getElem?_set]
  by_cases e : i = k
  · subst e; simp [h]
  · simp [e, Ne.symm e]
theorem rv_step {ps X : List Pt} {i : Nat} (h : rvI ps X i) (hi : 2 * i + 1 < ps.length) : rvI ps ((X.set i (X.getD (ps.length - 1 - i) (0, 0))).set (ps.length - 1 - i) (X.getD i (0, 0))) (i + 1) := by
  refine ⟨by simp [h.1], fun k hk => ?_⟩
  rw [getD_set' _ _ _ _ (by simp [h.1]; omega), getD_set' _ _ _ _ (by rw [h.1]; omega)]
  have a1 := h.2 i (by omega)
  have a2 := h.2 (ps.length - 1 - i) (by omega)
  rw [if_neg (by omega)] at a1
  rw [if_neg (by omega)] at a2
  by_cases c1 : k = ps.length - 1 - i
  · subst c1
    rw [if_pos rfl, a1, if_pos (by omega)]
    congr 1
    omega
  · rw [if_neg c1]
    by_cases c2 : k = i
    · subst c2
      rw [if_pos rfl, a2, if_pos (by omega)]
    · rw [if_neg c2, h.2 k hk]
      by_cases c3 : k < i ∨ ps.length - 1 - k < i
      · rw [if_pos c3, if_pos (by omega)]
      · rw [if_neg c3, if_neg (by omega)]
noncomputable def c_rvs : Code := ((loopsOf (codeOf Try.f82))[0]?).getD .skip
def k_rvs : Ex → List Nat := keeps [0, 2, 3] [(0, [])] []
def s_rvs (ps : List Pt) : Nat × (List Pt) → St := fun (i, X) => ⟨[.slice (some ⟨0, 0, none⟩) ps.length ps.length, topV, .int .i64 i, .int .i64 ((ps.length : Int) - 1 - i), topV, topV, topV, topV, topV, topV, topV, topV, topV, topV, topV, topV, topV, topV, topV, topV, topV, topV, topV, topV, topV, topV, topV, topV], [some ⟨.row 31 2, .ints (flat X)⟩]⟩
def re_rvs : Nat × (List Pt) → Ex := fun _ => .exit 0
def rs_rvs (ps : List Pt) : Nat × (List Pt) → St := fun (i, X) => ⟨[topV, topV, topV, topV, topV, topV, topV, topV, topV, topV, topV, topV, topV, topV, topV, topV, topV, topV, topV, topV, topV, topV, topV, topV, topV, topV, topV, topV], [some ⟨.row 31 2, .ints (flat (revP ps))⟩]⟩
set_option maxRecDepth 100000 in
theorem tr_rvs (ps : List Pt) (i : Nat) (X : List Pt) : bodyL Try.prog ERv 30 12 noL 1 c_rvs k_rvs 1 (s_rvs ps (i, X)) = brT (decide ((↑i : Int) < (↑ps.length : Int) - 1 - (↑i : Int))) (.need ((0 : Int) ≤ (↑ps.length : Int) - (1 : Int) - (↑i : Int) ∧ (↑ps.length : Int) - (1 : Int) - (↑i : Int) < (↑ps.length : Int)) (.need ((0 : Nat) + ((↑ps.length : Int) - (1 : Int) - (↑i : Int)).toNat * (2 : Nat) + (2 : Nat) ≤ (flat X).length) (.need ((0 : Int) ≤ (↑i : Int) ∧ (↑i : Int) < (↑ps.length : Int)) (.need ((0 : Nat) + (↑i : Int).toNat * (2 : Nat) + (2 : Nat) ≤ (flat X).length) (.need ((0 : Int) ≤ (↑i : Int) ∧ (↑i : Int) < (↑ps.length : Int)) (.need ((0 : Nat) + (↑i : Int).toNat * (2 : Nat) + (2 : Nat) ≤ (flat X).length) (.need ((0 : Int) ≤ (↑ps.length : Int) - (1 : Int) - (↑i : Int) ∧ (↑ps.length : Int) - (1 : Int) - (↑i : Int) < (↑ps.length : Int)) (.need ((0 : Nat) + ((↑ps.length : Int) - (1 : Int) - (↑i : Int)).toNat * (2 : Nat) + (2 : Nat) ≤ (setInts (flat X) ((0 : Nat) + (↑i : Int).toNat * (2 : Nat)) [(flat X).getD ((0 : Nat) + ((↑ps.length : Int) - (1 : Int) - (↑i : Int)).toNat * (2 : Nat)) (0 : Int), (flat X).getD ((0 : Nat) + ((↑ps.length : Int) - (1 : Int) - (↑i : Int)).toNat * (2 : Nat) + (1 : Nat)) (0 : Int)]).length) (.leaf .normal ⟨[.slice (some ⟨0, 0, none⟩) (ps.length) (ps.length), topV, .int .i64 (IntKind.i64.wrap ((↑i : Int) + 1)), .int .i64 (IntKind.i64.wrap ((↑ps.length : Int) - 1 - (↑i : Int) - 1)), topV, topV, topV, topV, topV, topV, topV, topV, topV, topV, topV, topV, topV, topV, topV, topV, topV, topV, topV, topV, topV, topV, topV, topV], [some ⟨.row 31 2, .ints (setInts (setInts (flat X) (0 + (↑i : Int).toNat * 2) [(flat X).getD (0 + ((↑ps.length : Int) - 1 - (↑i : Int)).toNat * 2) 0, (flat X).getD (0 + ((↑ps.length : Int) - 1 - (↑i : Int)).toNat * 2 + 1) 0]) (0 + ((↑ps.length : Int) - 1 - (↑i : Int)).toNat * 2) [(flat X).getD (0 + (↑i : Int).toNat * 2) 0, (flat X).getD (0 + (↑i : Int).toNat * 2 + 1) 0])⟩]⟩))))))))) (.leaf (.exit 0) ⟨[topV, topV, topV, topV, topV, topV, topV, topV, topV, topV, topV, topV, topV, topV, topV, topV, topV, topV, topV, topV, topV, topV, topV, topV, topV, topV, topV, topV], [some ⟨.row 31 2, .ints (flat X)⟩]⟩) := by kernel_rfl
set_option maxRecDepth 100000 in
theorem nl_rvs : loopsOf c_rvs = [] := by kernel_rfl
def inv_rvs (ps : List Pt) : Nat × (List Pt) → Prop := fun (i, X) => 2 * i ≤ ps.length + 1 ∧ rvI ps X i
def me_rvs (ps : List Pt) : Nat × (List Pt) → Nat := fun (i, X) => ps.length + 1 - i
/-- A round of this loop. -/
def Round_rvs (ps : List Pt) : Prop := ∀ xx : Nat × (List Pt), inv_rvs ps xx → (bodyL Try.prog ERv 30 12 noL 1 c_rvs k_rvs 1 (s_rvs ps xx)).ok (RoundEnd 1 (s_rvs ps) (inv_rvs ps) (me_rvs ps) re_rvs (rs_rvs ps) xx) (fun _ _ => False)
def e_rvs (s : St) (k : Ex → St → Tree) : Option Tree := match Nat.beq s.tmps.length 28, pickL s.tmps [0, 2, 3], s.mem with
  | true, [.slice (some ⟨0, 0, none⟩) n _, .int .i64 i0, .int .i64 j0], [some ⟨.row 31 2, .ints xs⟩] => some (needs [i0 = 0, j0 = (n : Int) - 1 - (0 : Nat), xs.length = n * 2, n ≤ 1000000000] (k (.exit 0) ⟨[topV, topV, topV, topV, topV, topV, topV, topV, topV, topV, topV, topV, topV, topV, topV, topV, topV, topV, topV, topV, topV, topV, topV, topV, topV, topV, topV, topV], [some ⟨.row 31 2, .ints (flat (revP (ptsA n xs)))⟩]⟩))
  | _, _, _ => none
noncomputable def c_rvd : Code := ((loopsOf (codeOf Try.f128))[0]?).getD .skip
def k_rvd : Ex → List Nat := keeps [0, 3, 4] [(0, [3])] [2]
def s_rvd (ps : List Pt) : Nat × (List Pt) → St := fun (m, o) => ⟨[.slice (some ⟨0, 0, none⟩) ps.length ps.length, topV, topV, .slice (some ⟨2, 0, none⟩) o.length o.length, .int .i64 ((m : Int) - 1), topV, topV, topV, topV, topV, topV, topV, topV, topV, topV, topV, topV, topV, topV, topV, topV], [some ⟨.view, .ints (flat ps)⟩, some ⟨.dead, .vals []⟩, some ⟨.row 31 2, .ints (flat o)⟩]⟩
def re_rvd : Nat × (List Pt) → Ex := fun _ => .exit 0
def rs_rvd (ps : List Pt) : Nat × (List Pt) → St := fun (m, o) => ⟨[topV, topV, topV, .slice (some ⟨2, 0, none⟩) (revP ps).length (revP ps).length, topV, topV, topV, topV, topV, topV, topV, topV, topV, topV, topV, topV, topV, topV, topV, topV, topV], [some ⟨.view, .ints (flat ps)⟩, some ⟨.dead, .vals []⟩, some ⟨.row 31 2, .ints (flat (revP ps))⟩]⟩
set_option maxRecDepth 100000 in
theorem tr_rvd (ps : List Pt) (m : Nat) (o : List Pt) : bodyL Try.prog ERv 30 12 noL 1 c_rvd k_rvd 16 (s_rvd ps (m, o)) = brT (decide (0 ≤ (↑m : Int) - 1)) (.need ((0 : Int) ≤ (↑m : Int) - (1 : Int) ∧ (↑m : Int) - (1 : Int) < (↑ps.length : Int)) (.need ((0 : Nat) + ((↑m : Int) - (1 : Int)).toNat * (2 : Nat) + (2 : Nat) ≤ (flat ps).length) (.need ((o.length + (1 : Nat)) * (16 : Nat) ≤ (140737488355328 : Nat) ∧ o.length + (1 : Nat) ≤ (1000000 : Nat)) (.need ((0 : Nat) + o.length * (2 : Nat) ≤ (flat o).length) (.leaf .normal ⟨[.slice (some ⟨0, 0, none⟩) (ps.length) (ps.length), topV, topV, .slice (some ⟨4, 0, none⟩) (o.length + 1) (o.length + 1), .int .i64 (IntKind.i64.wrap ((↑m : Int) - 1 - 1)), topV, topV, topV, topV, topV, topV, topV, topV, topV, topV, topV, topV, topV, topV, topV, topV], [some ⟨.view, .ints (flat ps)⟩, some deadB, some deadB, some ⟨.row 31 2, .vals [.int .i64 ((flat ps).getD (0 + ((↑m : Int) - 1).toNat * 2) 0), .int .i64 ((flat ps).getD (0 + ((↑m : Int) - 1).toNat * 2 + 1) 0)]⟩, some ⟨.row 31 2, .ints (List.take (o.length * 2) (List.drop 0 (flat o)) ++ [(flat ps).getD (0 + ((↑m : Int) - 1).toNat * 2) 0, (flat ps).getD (0 + ((↑m : Int) - 1).toNat * 2 + 1) 0])⟩]⟩))))) (.leaf (.exit 0) ⟨[topV, topV, topV, .slice (some ⟨2, 0, none⟩) (o.length) (o.length), topV, topV, topV, topV, topV, topV, topV, topV, topV, topV, topV, topV, topV, topV, topV, topV, topV], [some ⟨.view, .ints (flat ps)⟩, some deadB, some ⟨.row 31 2, .ints (flat o)⟩]⟩) := by kernel_rfl
set_option maxRecDepth 100000 in
theorem nl_rvd : loopsOf c_rvd = [] := by kernel_rfl
def inv_rvd (ps : List Pt) : Nat × (List Pt) → Prop := fun (m, o) => m ≤ ps.length ∧ o = (ps.drop m).reverse
def me_rvd (ps : List Pt) : Nat × (List Pt) → Nat := fun (m, o) => m
/-- A round of this loop. -/
def Round_rvd (ps : List Pt) : Prop := ∀ xx : Nat × (List Pt), inv_rvd ps xx → (bodyL Try.prog ERv 30 12 noL 1 c_rvd k_rvd 16 (s_rvd ps xx)).ok (RoundEnd 2 (s_rvd ps) (inv_rvd ps) (me_rvd ps) re_rvd (rs_rvd ps) xx) (fun _ _ => False)
def e_rvd (s : St) (k : Ex → St → Tree) : Option Tree := match Nat.beq s.tmps.length 21, pickL s.tmps [0, 3, 4], s.mem with
  | true, [.slice (some ⟨0, 0, none⟩) n _, .slice (some ⟨1, 0, none⟩) z _, .int .i64 i0], [some ⟨.view, .ints xs⟩, some ⟨.row 31 2, .vals []⟩] => some (needs [i0 = (n : Int) - 1, z = 0, xs.length = n * 2, n ≤ 100000] (k (.exit 0) ⟨[topV, topV, topV, .slice (some ⟨2, 0, none⟩) (revP (ptsA n xs)).length (revP (ptsA n xs)).length, topV, topV, topV, topV, topV, topV, topV, topV, topV, topV, topV, topV, topV, topV, topV, topV, topV], [some ⟨.view, .ints xs⟩, some ⟨.dead, .vals []⟩, some ⟨.row 31 2, .ints (flat (revP (ptsA n xs)))⟩]⟩))
  | _, _, _ => none
set_option maxRecDepth 100000 in
theorem round_rvs (ps : List Pt) (h : ps.length ≤ 1000000000) : Round_rvs ps := by
  rintro ⟨i, X⟩ ⟨h1, h2⟩
  rw [tr_rvs]
  have hl := h2.1
  refine brT_ok.2 ⟨fun hlt => ?_, fun hge => ?_⟩
  · have hlt := of_decide_eq_true hlt
    have hi : 2 * i + 1 < ps.length := by omega
    have j1 : ((ps.length : Int) - 1 - (i : Int)).toNat = ps.length - 1 - i := by omega
    have w : IntKind.i64.wrap ((ps.length : Int) - 1 - (i : Int) - 1) = (ps.length : Int) - 1 - ((i + 1 : Nat) : Int) := by rw [wr (by omega)]; omega
    have f1 := flat_set X i (by omega) (X.getD (ps.length - 1 - i) (0, 0)).1 (X.getD (ps.length - 1 - i) (0, 0)).2
    have f2 := flat_set (X.set i ((X.getD (ps.length - 1 - i) (0, 0)).1, (X.getD (ps.length - 1 - i) (0, 0)).2)) (ps.length - 1 - i) (by rw [List.length_set]; omega) (X.getD i (0, 0)).1 (X.getD i (0, 0)).2
    simp only [j1, w, Int.toNat_natCast, Nat.zero_add, flat_get0, flat_get1, f1]
    simp only [f2, flat_length, List.length_set, wsucc (n := ps.length) (i := i) (by omega) h]
    refine ⟨by omega, by omega, by omega, by omega, by omega, by omega, by omega, by omega, ?_⟩
    refine ⟨(i + 1, (X.set i (X.getD (ps.length - 1 - i) (0, 0))).set (ps.length - 1 - i) (X.getD i (0, 0))), [], ⟨by omega, rv_step h2 hi⟩, ?_, rfl, by simp only [rs_rvs], ?_⟩
    · show ps.length + 1 - (i + 1) < ps.length + 1 - i; omega
    · repeat' (first | exact True.intro | exact rfl | exact fun _ => rfl | (simp; done) | refine And.intro ?_ ?_)
  · have hge := of_decide_eq_false hge
    obtain rfl := rv_end h2 (by omega)
    refine ⟨rfl, [], ?_⟩
    simp only [rs_rvs, revP]
    repeat' (first | exact True.intro | exact rfl | exact fun _ => rfl | (simp; done) | refine And.intro ?_ ?_)
set_option maxRecDepth 100000 in
theorem lg_rvs : LoopE Try.prog e_rvs c_rvs := by
  intro s k t F H hlt ht
  unfold e_rvs at hlt
  split at hlt
  rotate_left
  · cases hlt
  rename_i hlen hpick hmem
  obtain ⟨tmps, mem⟩ := s
  simp only at hlen hpick hmem
  subst hmem
  obtain rfl := Option.some.inj hlt
  obtain ⟨⟨rfl, rfl, h1, h2, _⟩, ht2⟩ := needs_ok ht
  clear ht hlt
  obtain ⟨ps, rfl, rfl⟩ := even_flat h1
  rw [ptsA_flat] at ht2
  refine ⟨_, _, ht2, loop_run mixed ERv_ok (s_rvs ps) (inv_rvs ps) (me_rvs ps) re_rvs (rs_rvs ps) k_rvs (fun _ => rfl) (noLoops nl_rvs) (round_rvs ps h2) (x := (0, ps)) ⟨by omega, rfl, fun k hk => by rw [if_neg (by omega)]⟩ (π := []) rfl ?_⟩
  refine ⟨rfl, rfl, ?_, wvs_spread' [0, 2, 3] hlen rfl ?_⟩
  · repeat' (first | exact True.intro | exact rfl | exact wv_top _ _ | exact fun _ => rfl | assumption | exact Eq.symm (by assumption) | exact vI0 rfl | refine And.intro ?_ ?_)
  · rw [hpick]
    repeat' (first | exact True.intro | exact rfl | exact wv_top _ _ | exact fun _ => rfl | assumption | exact Eq.symm (by assumption) | exact vI0 rfl | refine And.intro ?_ ?_)
theorem rvd_step {ps : List Pt} {m : Nat} (h : m < ps.length) : (ps.drop (m + 1)).reverse ++ [ps.getD m (0, 0)] = (ps.drop m).reverse := by
  rw [drop_cons h (0, 0), List.reverse_cons]
set_option maxRecDepth 100000 in
theorem round_rvd (ps : List Pt) (h : ps.length ≤ 100000) : Round_rvd ps := by
  rintro ⟨m, o⟩ ⟨h1, rfl⟩
  rw [tr_rvd]
  have hl : (ps.drop m).reverse.length = ps.length - m := by simp
  refine brT_ok.2 ⟨fun hlt => ?_, fun hge => ?_⟩
  · have hlt := of_decide_eq_true hlt
    obtain ⟨m, rfl⟩ : ∃ k, m = k + 1 := ⟨m - 1, by omega⟩
    have j1 : (((m + 1 : Nat) : Int) - 1).toNat = m := by omega
    have w : IntKind.i64.wrap (((m + 1 : Nat) : Int) - 1 - 1) = (m : Int) - 1 := by rw [wr (by omega)]; omega
    have hs := rvd_step (ps := ps) (m := m) (by omega)
    have fs : flat (ps.drop (m + 1)).reverse ++ [(ps.getD m (0, 0)).1, (ps.getD m (0, 0)).2] = flat (ps.drop m).reverse := by
      rw [flat_snoc, ← hs]
    simp only [j1, w, Nat.zero_add, flat_get0, flat_get1, flat_length, flatR, fs]
    refine ⟨by omega, by omega, ⟨by omega, by omega⟩, by omega, (m, (ps.drop m).reverse), [some 4], ⟨by omega, rfl⟩, ?_, rfl, by simp only [rs_rvd], ?_⟩
    · show m < m + 1; omega
    · have e : (ps.drop (m + 1)).reverse.length + 1 = (ps.drop m).reverse.length := by rw [← hs]; simp
      rw [e]
      repeat' (first | exact True.intro | exact rfl | exact fun _ => rfl | (simp; done) | refine And.intro ?_ ?_)
  · have hge := of_decide_eq_false hge
    obtain rfl : m = 0 := by omega
    refine ⟨rfl, [some 2], ?_⟩
    simp only [rs_rvd, revP, List.drop_zero]
    repeat' (first | exact True.intro | exact rfl | exact fun _ => rfl | (simp; done) | refine And.intro ?_ ?_)
set_option maxRecDepth 100000 in
theorem lg_rvd : LoopE Try.prog e_rvd c_rvd := by
  intro s k t F H hlt ht
  unfold e_rvd at hlt
  split at hlt
  rotate_left
  · cases hlt
  rename_i hlen hpick hmem
  obtain ⟨tmps, mem⟩ := s
  simp only at hlen hpick hmem
  subst hmem
  obtain rfl := Option.some.inj hlt
  obtain ⟨⟨rfl, rfl, h1, h3, _⟩, ht2⟩ := needs_ok ht
  clear ht hlt
  obtain ⟨ps, rfl, rfl⟩ := even_flat h1
  rw [ptsA_flat] at ht2
  refine ⟨_, _, ht2, loop_run2 mixed ERv_ok (s_rvd ps) (inv_rvd ps) (me_rvd ps) re_rvd (rs_rvd ps) k_rvd (fun _ => rfl) (noLoops nl_rvd) (round_rvd ps h3) (x := (ps.length, [])) ⟨Nat.le_refl _, by rw [List.drop_length]; rfl⟩ (π := [some 1]) rfl ?_⟩
  refine ⟨rfl, rfl, ?_, wvs_spread' [0, 3, 4] hlen rfl ?_⟩
  · repeat' (first | exact True.intro | exact rfl | exact wv_top _ _ | exact fun _ => rfl | assumption | exact Eq.symm (by assumption) | exact vI0 rfl | refine And.intro ?_ ?_)
  · rw [hpick]
    repeat' (first | exact True.intro | exact rfl | exact wv_top _ _ | exact fun _ => rfl | assumption | exact Eq.symm (by assumption) | exact vI0 rfl | refine And.intro ?_ ?_)
theorem Lr_rvs {fn : Func} (hf : Try.prog.funcs[82]? = some fn) : LoopsGood Try.prog (lt1 e_rvs) 0 (codeOf fn) := by
  obtain rfl := fn_is Try.func82 hf
  exact lt1_good lg_rvs
theorem Lr_rvd {fn : Func} (hf : Try.prog.funcs[128]? = some fn) : LoopsGood Try.prog (lt1 e_rvd) 0 (codeOf fn) := by
  obtain rfl := fn_is Try.func128 hf
  exact lt1_good lg_rvd
def LRv : FuncId → LT := fun f => match f with
  | 82 => lt1 e_rvs
  | 128 => lt1 e_rvd
  | _ => noL
def ERw : Env := mkE B0 (fun _ _ => none) LRv
theorem ERw_ok : EnvOk Try.prog ERw := mkEOk B0_ok (fun _ _ _ _ _ h => (by cases h)) (by
  intro f fn hf
  unfold LRv
  split
  all_goals first | with_reducible exact Lr_rvs hf | with_reducible exact Lr_rvd hf | exact noL_good)
set_option maxRecDepth 100000 in
theorem tr_rvF (ps : List Pt) : bodyM Try.prog ERw (runM Try.prog ERw 30 12) 30 82 [.slice (some ⟨0, 0, none⟩) ps.length ps.length] [some ⟨.row 31 2, .ints (flat ps)⟩] .fin = .need ((0 : Int) = (0 : Int)) (.need (IntKind.i64.wrap ((↑ps.length : Int) - (1 : Int)) = (↑ps.length : Int) - (1 : Int) - (↑(0 : Nat) : Int)) (.need ((flat ps).length = ps.length * (2 : Nat)) (.need (ps.length ≤ (1000000000 : Nat)) (.fin (.tuple #[]) [some ⟨.row 31 2, .ints (flat (revP (ptsA ps.length (flat ps))))⟩])))) := by kernel_rfl
set_option maxRecDepth 100000 in
theorem tr_rdF (ps : List Pt) : bodyX Try.prog ERw 30 12 128 [.row ps.length (.ints (flat ps))] = .need (IntKind.i64.wrap ((↑ps.length : Int) - (1 : Int)) = (↑ps.length : Int) - (1 : Int)) (.need ((0 : Nat) = (0 : Nat)) (.need ((flat ps).length = ps.length * (2 : Nat)) (.need (ps.length ≤ (100000 : Nat)) (.fin (.slice (some ⟨2, 0, none⟩) ((revP (ptsA ps.length (flat ps))).length) ((revP (ptsA ps.length (flat ps))).length)) [some ⟨.view, .ints (flat ps)⟩, some deadB, some ⟨.row 31 2, .ints (flat (revP (ptsA ps.length (flat ps))))⟩])))) := by kernel_rfl
def rvW : WSpec := fun e sz l xs rest => match Nat.beq e 31 && Nat.beq sz 2, rest with
  | true, [] => some (.tuple #[], flat (revP (ptsA l xs)), [xs.length = l * 2, l ≤ 1000000000])
  | _, _ => none
theorem rvW_ok : WSpecOk Try.prog 82 rvW := by
  intro e sz l xs rest v ys C h hC
  unfold rvW at h
  split at h
  rotate_left
  · cases h
  rename_i he
  simp only [Bool.and_eq_true] at he
  obtain rfl := Nat.eq_of_beq_eq_true he.1
  obtain rfl := Nat.eq_of_beq_eq_true he.2
  obtain ⟨rfl, rfl, rfl⟩ : Value.tuple #[] = v ∧ flat (revP (ptsA l xs)) = ys ∧ [xs.length = l * 2, l ≤ 1000000000] = C := by simpa using h
  obtain ⟨h1, h2, _⟩ := hC
  obtain ⟨ps, rfl, rfl⟩ := even_flat h1
  refine ⟨ERw, 30, 12, ERw_ok, rfl, ?_⟩
  rw [tr_rvF]
  simp only [ptsA_flat]
  exact ⟨trivial, by rw [wr (by omega)]; omega, flat_length ps, h2, rfl, _, rfl, rfl, rfl⟩
theorem resR_rvd {ps : List Pt} (h : ps.length ≤ 100000) : ResR Try.prog 128 [.row ps.length (.ints (flat ps))] (rowP (revP ps)) (blkP (revP ps)) := by
  refine bodyX_resR mixed ERw_ok (m := 30) (n := 12) rfl ?_
  rw [tr_rdF]
  simp only [ptsA_flat]
  exact ⟨by rw [wr (by omega)], trivial, flat_length ps, h, some 2, ⟨rfl, rfl, rfl⟩, rfl, rfl, rfl⟩
end Go.Proofs.Ytnjmepbblcfnfab
