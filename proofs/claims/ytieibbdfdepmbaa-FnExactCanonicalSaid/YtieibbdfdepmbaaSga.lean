/-
  Twice the area of a closed path: both ways. Written by an AI agent.
-/
import Derived.Test.YtieibbdfdepmbaaEdg
import Derived.Test.YtieibbdfdepmbaaFnB
import Derived.Test.YtieibbdfdepmbaaBc
import Derived.Test.YtieibbdfdepmbaaMrkF
namespace Go.Proofs.Ytieibbdfdepmbaa
set_option linter.all false
open Go.RowKit

/-- The next place of a closed path. -/
def nxP (ps : List Pt) (j : Nat) : Pt := ps.getD ((j + 1) % ps.length) (0, 0)
def sgT (ps : List Pt) (j : Nat) : Int := (ps.getD j (0, 0)).1 * (nxP ps j).2 - (ps.getD j (0, 0)).2 * (nxP ps j).1
/-- Twice the area of so many edges. -/
def sgA (ps : List Pt) : Nat → Int
  | 0 => 0
  | i + 1 => sgA ps i + sgT ps i
theorem allV_gt {ps : List Pt} (h : allV ps = true) {j : Nat} (hj : j < ps.length) : -1000 ≤ (ps.getD j (0, 0)).1 ∧ (ps.getD j (0, 0)).1 ≤ 1000 ∧ -1000 ≤ (ps.getD j (0, 0)).2 ∧ (ps.getD j (0, 0)).2 ≤ 1000 := by
  have := List.all_eq_true.1 h (ps.getD j (0, 0)) (by simp [hj])
  have := ptB_true this
  omega
theorem nx_lt {ps : List Pt} {j : Nat} (hj : j < ps.length) : (j + 1) % ps.length < ps.length := Nat.mod_lt _ (by omega)
theorem sgP_bd {ps : List Pt} (h : allV ps = true) {j : Nat} (hj : j < ps.length) : (-(1000 * 1000) ≤ (ps.getD j (0, 0)).1 * (nxP ps j).2 ∧ (ps.getD j (0, 0)).1 * (nxP ps j).2 ≤ 1000 * 1000) ∧ (-(1000 * 1000) ≤ (ps.getD j (0, 0)).2 * (nxP ps j).1 ∧ (ps.getD j (0, 0)).2 * (nxP ps j).1 ≤ 1000 * 1000) := by
  have a1 := allV_gt h hj
  have a2 := allV_gt h (nx_lt hj)
  unfold nxP
  exact ⟨mul_bd 1000 1000 (by omega) (by omega), mul_bd 1000 1000 (by omega) (by omega)⟩
theorem sgA_bd {ps : List Pt} (h : allV ps = true) : ∀ i, i ≤ ps.length → -(2000000 * (i : Int)) ≤ sgA ps i ∧ sgA ps i ≤ 2000000 * (i : Int)
  | 0, _ => by simp [sgA]
  | i + 1, hi => by
    have ih := sgA_bd h i (by omega)
    obtain ⟨b1, b2⟩ := sgP_bd h (j := i) (by omega)
    simp only [sgA, sgT]
    omega
def EGa : Env := tabE B0
theorem EGa_ok : EnvOk Try.prog EGa := tabE_ok B0_ok
noncomputable def gc_sga : Code := (rangesOf (codeOf Try.f65)).getD 0 .skip
def k_sga : Ex → List Nat := keeps [3, 7] [] []
def s_sga (ps : List Pt) : Nat → St := fun i => ⟨[topV, topV, topV, .pointer (some ⟨1, 0, none⟩), topV, topV, topV, .func (.func 90) #[] #[.pointer (some ⟨2, 0, none⟩)], topV, topV, topV, topV, topV, topV, topV, topV, topV, topV], [some ⟨.view, .ints (flat ps)⟩, some ⟨.box, .vals [.int .i64 (sgA ps i)]⟩, some ⟨.view, .vals [.slice (some ⟨0, 0, none⟩) ps.length ps.length]⟩]⟩
def g_sga (ps : List Pt) : Nat → Prop := fun i => i ≤ ps.length
def re_sga (ps : List Pt) : Ex := .normal
def rs_sga (ps : List Pt) : St := ⟨[topV, topV, topV, .pointer (some ⟨1, 0, none⟩), topV, topV, topV, topV, topV, topV, topV, topV, topV, topV, topV, topV, topV, topV], [some ⟨.view, .ints (flat ps)⟩, some ⟨.box, .vals [.int .i64 (sgA ps ps.length)]⟩, some ⟨.view, .vals [.slice (some ⟨0, 0, none⟩) ps.length ps.length]⟩]⟩
set_option maxRecDepth 100000 in
theorem tr_sga (ps : List Pt) (i : Nat) : bodyR Try.prog EGa 30 12 noL noR (asgOf gc_sga) (bodOf gc_sga) ([8, 9].zip (encE ps i)) k_sga 3 (s_sga ps i) = .leaf .normal ⟨[topV, topV, topV, .pointer (some ⟨1, 0, none⟩), topV, topV, topV, .func (Fn.func 90) #[] #[.pointer (some ⟨2, 0, none⟩)], topV, topV, topV, topV, topV, topV, topV, topV, topV, topV], [some ⟨.view, .ints (flat ps)⟩, some ⟨.box, .vals [.int .i64 (IntKind.i64.wrap (sgA ps i + IntKind.i64.wrap (IntKind.i64.wrap ((ps.getD i (0, 0)).1 * (ps.getD ((i + 1) % ps.length) (0, 0)).2) - IntKind.i64.wrap ((ps.getD i (0, 0)).2 * (ps.getD ((i + 1) % ps.length) (0, 0)).1))))]⟩, some ⟨.view, .vals [.slice (some ⟨0, 0, none⟩) (ps.length) (ps.length)]⟩]⟩ := by kernel_rfl
/-- A round of this loop. -/
def Round_sga (ps : List Pt) : Prop := ∀ i : Nat, g_sga ps i → i < (ps).length → (bodyR Try.prog EGa 30 12 noL noR (asgOf gc_sga) (bodOf gc_sga) ([8, 9].zip (encE ps i)) k_sga 3 (s_sga ps i)).ok (RoundEndR 3 (s_sga ps) (g_sga ps) (re_sga ps) (rs_sga ps) i) (fun _ _ => False)
set_option maxRecDepth 100000 in
theorem gcode_sga : gc_sga = .rangeFunc (.tmp 7) ([8, 9] : List Nat).toArray (asgOf gc_sga) (bodOf gc_sga) := by kernel_rfl
def e_sga (s : St) (k : Ex → St → Tree) : Option Tree := match Nat.beq s.tmps.length 18, pickL s.tmps [3, 7], s.mem with
  | true, [.pointer (some ⟨1, 0, none⟩), .func (.func 90) ⟨[]⟩ ⟨[.pointer (some ⟨2, 0, none⟩)]⟩], [some ⟨.view, .ints xs⟩, some ⟨.box, .vals [.int .i64 a0]⟩, some ⟨.box, .vals [.slice (some ⟨0, 0, none⟩) n _]⟩] => some (needs [a0 = 0, xs.length = n * 2, allV (ptsA n xs) = true, n ≤ 1000] (k .normal ⟨[topV, topV, topV, .pointer (some ⟨1, 0, none⟩), topV, topV, topV, topV, topV, topV, topV, topV, topV, topV, topV, topV, topV, topV], [some ⟨.view, .ints xs⟩, some ⟨.box, .vals [.int .i64 (sgA (ptsA n xs) n)]⟩, some ⟨.view, .vals [.slice (some ⟨0, 0, none⟩) n n]⟩]⟩))
  | _, _, _ => none
set_option maxRecDepth 100000 in
theorem round_sga (ps : List Pt) (hv : allV ps = true) (h : ps.length ≤ 1000) : Round_sga ps := by
  intro i hg hi
  rw [tr_sga]
  have hb := sgA_bd hv i (by omega)
  obtain ⟨b1, b2⟩ := sgP_bd hv hi
  unfold nxP at b1 b2
  simp (disch := omega) only [wr]
  refine ⟨by show i + 1 ≤ ps.length; omega, [], ?_⟩
  refine ⟨rfl, rfl, ?_, ?_⟩ <;> repeat' (first | exact True.intro | exact rfl | exact wv_top _ _ | exact fun _ => rfl | refine And.intro ?_ ?_)
set_option maxRecDepth 100000 in
theorem lg_sga : RangeE Try.prog e_sga gc_sga := by
  intro s k t F H hlt ht
  unfold e_sga at hlt
  split at hlt
  rotate_left
  · cases hlt
  rename_i hlen hpick hmem
  obtain ⟨tmps, mem⟩ := s
  simp only at hlen hpick hmem
  subst hmem
  obtain rfl := Option.some.inj hlt
  obtain ⟨⟨rfl, h1, h2, h3, _⟩, ht2⟩ := needs_ok ht
  clear ht hlt
  obtain ⟨ps, rfl, rfl⟩ := even_flat h1
  rw [ptsA_flat] at ht2 h2
  refine ⟨re_sga ps, rs_sga ps, ht2, ?_⟩
  rw [gcode_sga]
  refine range_det (enc := encE ps) (len := (ps).length) (St_of := s_sga ps) (Good := g_sga ps) (N := 3) (M := 3) (Kn := [0, 2]) (cap := [.pointer (some ⟨2, 0, none⟩)]) (kf := (k_sga .normal)) (π := []) (fun _ => rfl) (fun _ => rfl) (fun i hg hlt => bodyR_ok mixed EGa_ok (noL_good) (noR_good) (round_sga ps h2 h3 i hg hlt)) (entersB_res (by kernel_rfl)).1 rfl ?_ (fun ρ0 ρ B w lb h1 h2 => ed_iter ps (by omega) (s := (s_sga ps 0).fs) (nb := 2) (nr := 0) (c := (ps).length) (Kn := [0, 2]) rfl rfl (by decide) (by decide) ρ0 ρ B w lb h1 h2) ?_ rfl (by decide) ?_ (Nat.zero_le _)
  · intro n hn b hb
    simp only [List.mem_cons, List.not_mem_nil, or_false] at hn
    rcases hn with rfl | rfl <;> (obtain rfl := Option.some.inj hb; rfl)
  · exact fun _ => ⟨rfl, [], by refine ⟨rfl, rfl, ?_, ?_⟩ <;> repeat' (first | exact True.intro | exact rfl | exact wv_top _ _ | exact fun _ => rfl | refine And.intro ?_ ?_)⟩
  · refine ⟨rfl, rfl, ?_, wvs_spread' [3, 7] hlen rfl ?_⟩
    · repeat' (first | exact True.intro | exact rfl | exact wv_top _ _ | exact fun _ => rfl | assumption | exact Eq.symm (by assumption) | exact vI0 rfl | refine And.intro ?_ ?_)
    · rw [show pickL (viewS [0, 2] ⟨tmps, _⟩).tmps [3, 7] = pickL tmps [3, 7] from rfl, hpick]
      repeat' (first | exact True.intro | exact rfl | exact wv_top _ _ | exact fun _ => rfl | assumption | exact Eq.symm (by assumption) | exact vI0 rfl | refine And.intro ?_ ?_)
theorem nx_mod {i n : Nat} (h : i < n) (hn : n ≤ 1000000000) : (IntKind.i64.wrap ((i : Int) + 1)).tmod (n : Int) = (((i + 1) % n : Nat) : Int) := by
  rw [wsucc h hn, Int.tmod_eq_emod_of_nonneg (by omega)]
  omega
theorem Gr_sga {fn : Func} (hf : Try.prog.funcs[65]? = some fn) : RangesGood Try.prog (rt1 7 e_sga) (codeOf fn) := by
  obtain rfl := fn_is Try.func65 hf
  exact rt1_good (by kernel_rfl) lg_sga
def GSg : FuncId → RT := fun f => match f with
  | 65 => rt1 7 e_sga
  | _ => noR
def ESg : Env := withG (tabE B0) GSg
theorem ESg_ok : EnvOk Try.prog ESg := withG_ok (tabE_ok B0_ok) (by
  intro f fn hf
  unfold GSg
  split
  all_goals first | with_reducible exact Gr_sga hf | exact noR_good)
set_option maxRecDepth 100000 in
theorem tr_iSga (ps : List Pt) : bodyV Try.prog ESg 30 12 65 [.row ps.length (.ints (flat ps))] = .need ((0 : Int) = (0 : Int)) (.need ((flat ps).length = ps.length * (2 : Nat)) (.need (allV (ptsA ps.length (flat ps)) = true) (.need (ps.length ≤ (1000 : Nat)) (.fin (.int .i64 (sgA (ptsA ps.length (flat ps)) ps.length)) [])))) := by kernel_rfl
theorem res_iSga {ps : List Pt} (hv : allV ps = true) (h : ps.length ≤ 1000) : Res Try.prog 65 [.row ps.length (.ints (flat ps))] (iv (sgA ps ps.length)) := by
  refine bodyV_res mixed ESg_ok (m := 30) (n := 12) rfl ?_
  rw [tr_iSga]
  simp only [ptsA_flat]
  exact ⟨trivial, flat_length ps, hv, h, rfl⟩
noncomputable def c_sDa : Code := ((loopsOf (codeOf Try.f100))[0]?).getD .skip
def k_sDa : Ex → List Nat := keeps [0, 3, 4] [(0, [3])] [2]
def s_sDa (ps : List Pt) : Nat → St := fun i => ⟨(.slice (some ⟨0, 0, none⟩) ps.length ps.length :: topV :: topV :: .int .i64 (sgA ps i) :: .int .i64 i :: topV :: topV :: topV :: topV :: topV :: topV :: topV :: topV :: topV :: topV :: topV :: topV :: topV :: topV :: topV :: topV :: topV :: topV :: topV :: topV :: topV :: topV :: topV :: topV :: topV :: topV :: topV :: topV :: topV :: topV :: topV :: topV :: topV :: topV :: topV :: []), [some ⟨.view, .ints (flat ps)⟩]⟩
def re_sDa : Nat → Ex := fun _ => .exit 0
def rs_sDa (ps : List Pt) : Nat → St := fun i => ⟨(topV :: topV :: topV :: .int .i64 (sgA ps ps.length) :: topV :: topV :: topV :: topV :: topV :: topV :: topV :: topV :: topV :: topV :: topV :: topV :: topV :: topV :: topV :: topV :: topV :: topV :: topV :: topV :: topV :: topV :: topV :: topV :: topV :: topV :: topV :: topV :: topV :: topV :: topV :: topV :: topV :: topV :: topV :: topV :: []), [some ⟨.view, .ints (flat ps)⟩]⟩
set_option maxRecDepth 100000 in
theorem tr_sDa (ps : List Pt) (i : Nat) : bodyL Try.prog EGa 30 12 noL 1 c_sDa k_sDa 1 (s_sDa ps i) = brT (decide ((↑i : Int) < (↑ps.length : Int))) (.need (¬(↑ps.length : Int) = (0 : Int)) (.need ((0 : Int) ≤ (IntKind.i64.wrap ((↑i : Int) + (1 : Int))).tmod (↑ps.length : Int) ∧ (IntKind.i64.wrap ((↑i : Int) + (1 : Int))).tmod (↑ps.length : Int) < (↑ps.length : Int)) (.need ((0 : Nat) + ((IntKind.i64.wrap ((↑i : Int) + (1 : Int))).tmod (↑ps.length : Int)).toNat * (2 : Nat) + (2 : Nat) ≤ (flat ps).length) (.need ((0 : Int) ≤ (↑i : Int) ∧ (↑i : Int) < (↑ps.length : Int)) (.need ((0 : Nat) + (↑i : Int).toNat * (2 : Nat) + (0 : Nat) < (flat ps).length) (.need ((0 : Int) ≤ (↑i : Int) ∧ (↑i : Int) < (↑ps.length : Int)) (.need ((0 : Nat) + (↑i : Int).toNat * (2 : Nat) + (1 : Nat) < (flat ps).length) (.leaf .normal ⟨(.slice (some ⟨0, 0, none⟩) (ps.length) (ps.length) :: topV :: topV :: .int .i64 (IntKind.i64.wrap (IntKind.i64.wrap (sgA ps i + IntKind.i64.wrap ((flat ps).getD (0 + (↑i : Int).toNat * 2 + 0) 0 * (flat ps).getD (0 + ((IntKind.i64.wrap ((↑i : Int) + 1)).tmod (↑ps.length : Int)).toNat * 2 + 1) 0)) - IntKind.i64.wrap ((flat ps).getD (0 + (↑i : Int).toNat * 2 + 1) 0 * (flat ps).getD (0 + ((IntKind.i64.wrap ((↑i : Int) + 1)).tmod (↑ps.length : Int)).toNat * 2) 0))) :: .int .i64 (IntKind.i64.wrap ((↑i : Int) + 1)) :: topV :: topV :: topV :: topV :: topV :: topV :: topV :: topV :: topV :: topV :: topV :: topV :: topV :: topV :: topV :: topV :: topV :: topV :: topV :: topV :: topV :: topV :: topV :: topV :: topV :: topV :: topV :: topV :: topV :: topV :: topV :: topV :: topV :: topV :: topV :: []), [some ⟨.view, .ints (flat ps)⟩]⟩)))))))) (.leaf (.exit 0) ⟨(topV :: topV :: topV :: .int .i64 (sgA ps i) :: topV :: topV :: topV :: topV :: topV :: topV :: topV :: topV :: topV :: topV :: topV :: topV :: topV :: topV :: topV :: topV :: topV :: topV :: topV :: topV :: topV :: topV :: topV :: topV :: topV :: topV :: topV :: topV :: topV :: topV :: topV :: topV :: topV :: topV :: topV :: topV :: []), [some ⟨.view, .ints (flat ps)⟩]⟩) := by kernel_rfl
set_option maxRecDepth 100000 in
theorem nl_sDa : loopsOf c_sDa = [] := by kernel_rfl
def inv_sDa (ps : List Pt) : Nat → Prop := fun i => i ≤ ps.length
def me_sDa (ps : List Pt) : Nat → Nat := fun i => ps.length - i
/-- A round of this loop. -/
def Round_sDa (ps : List Pt) : Prop := ∀ xx : Nat, inv_sDa ps xx → (bodyL Try.prog EGa 30 12 noL 1 c_sDa k_sDa 1 (s_sDa ps xx)).ok (RoundEnd 1 (s_sDa ps) (inv_sDa ps) (me_sDa ps) re_sDa (rs_sDa ps) xx) (fun _ _ => False)
def e_sDa (s : St) (k : Ex → St → Tree) : Option Tree := match Nat.beq s.tmps.length 40, pickL s.tmps [0, 3, 4], s.mem with
  | true, [.slice (some ⟨0, 0, none⟩) n _, .int .i64 a0, .int .i64 i], [some ⟨.view, .ints xs⟩] => some (needs [i = 0, a0 = 0, xs.length = n * 2, allV (ptsA n xs) = true, n ≤ 1000] (k (.exit 0) ⟨(topV :: topV :: topV :: .int .i64 (sgA (ptsA n xs) n) :: topV :: topV :: topV :: topV :: topV :: topV :: topV :: topV :: topV :: topV :: topV :: topV :: topV :: topV :: topV :: topV :: topV :: topV :: topV :: topV :: topV :: topV :: topV :: topV :: topV :: topV :: topV :: topV :: topV :: topV :: topV :: topV :: topV :: topV :: topV :: topV :: []), [some ⟨.view, .ints xs⟩]⟩))
  | _, _, _ => none
set_option maxRecDepth 100000 in
theorem round_sDa (ps : List Pt) (hv : allV ps = true) (h : ps.length ≤ 1000) : Round_sDa ps := by
  intro i h1
  have h1 : i ≤ ps.length := h1
  rw [tr_sDa]
  simp only [brT_ok, Tree.ok, decide_eq_true_eq, decide_eq_false_iff_not, Int.toNat_natCast, Nat.zero_add, flat_length, flat_get0, flat_get1]
  have key : ∀ g : i < ps.length, sgA ps (i + 1) = sgA ps i + sgT ps i := fun _ => rfl
  refine ⟨fun hlt => ?_, fun hge => ?_⟩
  · have hi : i < ps.length := by omega
    have hm := nx_lt hi
    rw [nx_mod hi (by omega)]
    simp only [Int.toNat_natCast, Nat.add_zero, flat_get0]
    have hb := sgA_bd hv i (by omega)
    obtain ⟨b1, b2⟩ := sgP_bd hv hi
    have ea : sgA ps (i + 1) = sgA ps i + (ps.getD i (0, 0)).1 * (nxP ps i).2 - (ps.getD i (0, 0)).2 * (nxP ps i).1 := by
      show sgA ps i + sgT ps i = _
      unfold sgT
      omega
    unfold nxP at b1 b2 ea
    rw [wsucc (n := ps.length) hi (by omega)]
    simp (disch := omega) only [wr]
    rw [← ea]
    refine ⟨by omega, by omega, by omega, by omega, by omega, by omega, by omega, i + 1, [], ?_, ?_, rfl, by simp only [rs_sDa], ?_⟩
    · show i + 1 ≤ ps.length; omega
    · show ps.length - (i + 1) < ps.length - i; omega
    · repeat' (first | exact True.intro | exact rfl | exact fun _ => rfl | refine And.intro ?_ ?_)
  · obtain rfl : i = ps.length := by omega
    refine ⟨rfl, [], ?_⟩
    simp only [rs_sDa]
    repeat' (first | exact True.intro | exact rfl | exact fun _ => rfl | refine And.intro ?_ ?_)
set_option maxRecDepth 100000 in
theorem lg_sDa : LoopE Try.prog e_sDa c_sDa := by
  intro s k t F H hlt ht
  unfold e_sDa at hlt
  split at hlt
  rotate_left
  · cases hlt
  rename_i hlen hpick hmem
  obtain ⟨tmps, mem⟩ := s
  simp only at hlen hpick hmem
  subst hmem
  obtain rfl := Option.some.inj hlt
  obtain ⟨⟨rfl, rfl, h1, h2, h3, _⟩, ht2⟩ := needs_ok ht
  clear ht hlt
  obtain ⟨ps, rfl, rfl⟩ := even_flat h1
  rw [ptsA_flat] at ht2 h2
  refine ⟨_, _, ht2, loop_run mixed EGa_ok (s_sDa ps) (inv_sDa ps) (me_sDa ps) re_sDa (rs_sDa ps) k_sDa (fun _ => rfl) (noLoops nl_sDa) (round_sDa ps h2 h3) (x := 0) (Nat.zero_le _) (π := []) rfl ?_⟩
  refine ⟨rfl, rfl, ?_, wvs_spread' [0, 3, 4] hlen rfl ?_⟩
  · repeat' (first | exact True.intro | exact rfl | exact wv_top _ _ | exact fun _ => rfl | assumption | exact Eq.symm (by assumption) | exact vI0 rfl | refine And.intro ?_ ?_)
  · rw [hpick]
    repeat' (first | exact True.intro | exact rfl | exact wv_top _ _ | exact fun _ => rfl | assumption | exact Eq.symm (by assumption) | exact vI0 rfl | refine And.intro ?_ ?_)
theorem Lr_sDa {fn : Func} (hf : Try.prog.funcs[100]? = some fn) : LoopsGood Try.prog (lt1 e_sDa) 0 (codeOf fn) := by
  obtain rfl := fn_is Try.func100 hf
  exact lt1_good lg_sDa
def LDa : FuncId → LT := fun f => match f with
  | 100 => lt1 e_sDa
  | _ => noL
def EDa : Env := mkE B0 (fun _ _ => none) LDa
theorem EDa_ok : EnvOk Try.prog EDa := mkEOk B0_ok (fun _ _ _ _ _ h => (by cases h)) (by
  intro f fn hf
  unfold LDa
  split
  all_goals first | with_reducible exact Lr_sDa hf | exact noL_good)
set_option maxRecDepth 100000 in
theorem tr_sDaF (ps : List Pt) : bodyV Try.prog EDa 30 12 100 [.row ps.length (.ints (flat ps))] = .need ((0 : Int) = (0 : Int)) (.need ((0 : Int) = (0 : Int)) (.need ((flat ps).length = ps.length * (2 : Nat)) (.need (allV (ptsA ps.length (flat ps)) = true) (.need (ps.length ≤ (1000 : Nat)) (.fin (.int .i64 (sgA (ptsA ps.length (flat ps)) ps.length)) []))))) := by kernel_rfl
theorem res_sDa {ps : List Pt} (hv : allV ps = true) (h : ps.length ≤ 1000) : Res Try.prog 100 [.row ps.length (.ints (flat ps))] (iv (sgA ps ps.length)) := by
  refine bodyV_res mixed EDa_ok (m := 30) (n := 12) rfl ?_
  rw [tr_sDaF]
  simp only [ptsA_flat]
  exact ⟨trivial, trivial, flat_length ps, hv, h, rfl⟩
def pSga : List DArg → Option (Value × List Prop)
  | [.row m (.ints xs)] => some (iv (sgA (ptsA m xs) m), [m * 2 ≤ xs.length, allV (ptsA m xs) = true, m ≤ 20])
  | _ => none
theorem pSga_i {ds : List DArg} {v : Value} {C : List Prop} (h : pSga ds = some (v, C)) (hC : AllP C) : Res Try.prog 65 ds v := by
  unfold pSga at h
  split at h
  · rename_i m xs
    obtain ⟨rfl, rfl⟩ : _ ∧ _ := by simpa using h
    obtain ⟨_, h2⟩ := ptsA_spec hC.1
    have h7 := res_pts1 (pre := []) (post := []) hC.1 (res_iSga (ps := ptsA m xs) hC.2.1 (by rw [h2]; have := hC.2.2.1; omega))
    rw [h2] at h7
    exact h7
  · cases h
theorem pSga_s {ds : List DArg} {v : Value} {C : List Prop} (h : pSga ds = some (v, C)) (hC : AllP C) : Res Try.prog 100 ds v := by
  unfold pSga at h
  split at h
  · rename_i m xs
    obtain ⟨rfl, rfl⟩ : _ ∧ _ := by simpa using h
    obtain ⟨_, h2⟩ := ptsA_spec hC.1
    have h7 := res_pts1 (pre := []) (post := []) hC.1 (res_sDa (ps := ptsA m xs) hC.2.1 (by rw [h2]; have := hC.2.2.1; omega))
    rw [h2] at h7
    exact h7
  · cases h
def TSg : Tab := fun f ds => match f with
  | 65 => pSga ds
  | 100 => pSga ds
  | _ => none
theorem TSg_ok : TabOk Try.prog TSg := by
  intro f ds v C h hC
  unfold TSg at h
  (try split at h)
  all_goals first | with_reducible exact pSga_i h hC | with_reducible exact pSga_s h hC | cases h
def pSgb : List DArg → Option (Value × List Prop)
  | [.row m (.ints xs)] => some (iv (sgA (ptsA m xs) m), [m * 2 ≤ xs.length, allV (ptsA m xs) = true, m ≤ 1000])
  | _ => none
theorem pSgb_i {ds : List DArg} {v : Value} {C : List Prop} (h : pSgb ds = some (v, C)) (hC : AllP C) : Res Try.prog 65 ds v := by
  unfold pSgb at h
  split at h
  · rename_i m xs
    obtain ⟨rfl, rfl⟩ : _ ∧ _ := by simpa using h
    obtain ⟨_, h2⟩ := ptsA_spec hC.1
    have h7 := res_pts1 (pre := []) (post := []) hC.1 (res_iSga (ps := ptsA m xs) hC.2.1 (by rw [h2]; exact hC.2.2.1))
    rw [h2] at h7
    exact h7
  · cases h
theorem pSgb_s {ds : List DArg} {v : Value} {C : List Prop} (h : pSgb ds = some (v, C)) (hC : AllP C) : Res Try.prog 100 ds v := by
  unfold pSgb at h
  split at h
  · rename_i m xs
    obtain ⟨rfl, rfl⟩ : _ ∧ _ := by simpa using h
    obtain ⟨_, h2⟩ := ptsA_spec hC.1
    have h7 := res_pts1 (pre := []) (post := []) hC.1 (res_sDa (ps := ptsA m xs) hC.2.1 (by rw [h2]; exact hC.2.2.1))
    rw [h2] at h7
    exact h7
  · cases h
def TSb : Tab := fun f ds => match f with
  | 65 => pSgb ds
  | 100 => pSgb ds
  | _ => none
theorem TSb_ok : TabOk Try.prog TSb := by
  intro f ds v C h hC
  unfold TSb at h
  (try split at h)
  all_goals first | with_reducible exact pSgb_i h hC | with_reducible exact pSgb_s h hC | cases h
/-- Two tables, one after the other. -/
def orT (A B : Tab) : Tab := fun f ds => match A f ds with
  | some x => some x
  | none => B f ds
theorem orT_ok {P : Program} {A B : Tab} (hA : TabOk P A) (hB : TabOk P B) : TabOk P (orT A B) := by
  intro f ds v C h hC
  unfold orT at h
  split at h
  · rename_i x hx
    obtain rfl : x = (v, C) := by simpa using h
    exact hA _ _ _ _ hx hC
  · exact hB _ _ _ _ h hC
end Go.Proofs.Ytieibbdfdepmbaa
