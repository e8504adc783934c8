/-
  LocateConvex: both ways, the exact law. Written by an AI agent.
-/
import Derived.Test.YtieibbdfdepmbaaCvx
namespace Go.Proofs.Ytieibbdfdepmbaa
set_option linter.all false
open Go.RowKit

/-- On which side of an edge is a point? -/
def lvE (ps : List Pt) (x y : Int) (j : Nat) : Int := cmpI (crossI (ps.getD j (0, 0)).1 (ps.getD j (0, 0)).2 (nxP ps j).1 (nxP ps j).2 x y) 0
/-- The least side of so many edges. -/
def lvA (ps : List Pt) (x y : Int) : Nat → Int
  | 0 => 1
  | i + 1 => if lvE ps x y i < lvA ps x y i then lvE ps x y i else lvA ps x y i
def ECl : Env := mkE TCx R4 (fun _ => noL)
theorem ECl_ok : EnvOk Try.prog ECl := mkEOk TCx_ok R4_ok (fun _ _ _ => noL_good)
noncomputable def gc_lcv : Code := (rangesOf (codeOf Try.f22)).getD 0 .skip
def k_lcv : Ex → List Nat := keeps [3, 5, 17] [] []
def s_lcv (ps : List Pt) (x y : Int) : Nat → St := fun i => ⟨[topV, topV, topV, .pointer (some ⟨2, 0, none⟩), topV, .pointer (some ⟨3, 0, none⟩), topV, topV, topV, topV, topV, topV, topV, topV, topV, topV, topV, .func (.func 90) #[] #[.pointer (some ⟨4, 0, none⟩)], topV, topV, topV, topV, topV, topV, topV, topV, topV, topV, topV, topV], [some ⟨.view, .ints (flat ps)⟩, none, some ⟨.box, .vals [.int .i64 x, .int .i64 y]⟩, some ⟨.box, .vals [.int .i64 (lvA ps x y i)]⟩, some ⟨.view, .vals [.slice (some ⟨0, 0, none⟩) ps.length ps.length]⟩]⟩
def g_lcv (ps : List Pt) (x y : Int) : Nat → Prop := fun i => i ≤ ps.length
def re_lcv (ps : List Pt) (x y : Int) : Ex := .normal
def rs_lcv (ps : List Pt) (x y : Int) : St := ⟨[topV, topV, topV, .pointer (some ⟨2, 0, none⟩), topV, .pointer (some ⟨3, 0, none⟩), topV, topV, topV, topV, topV, topV, topV, topV, topV, topV, topV, topV, topV, topV, topV, topV, topV, topV, topV, topV, topV, topV, topV, topV], [some ⟨.view, .ints (flat ps)⟩, none, some ⟨.box, .vals [.int .i64 x, .int .i64 y]⟩, some ⟨.box, .vals [.int .i64 (lvA ps x y ps.length)]⟩, some ⟨.view, .vals [.slice (some ⟨0, 0, none⟩) ps.length ps.length]⟩]⟩
set_option maxRecDepth 100000 in
theorem tr_lcv (ps : List Pt) (x y : Int) (i : Nat) : bodyR Try.prog ECl 30 12 noL noR (asgOf gc_lcv) (bodOf gc_lcv) ([18, 19].zip (encE ps i)) k_lcv 5 (s_lcv ps x y i) = .need (ptB (ps.getD i ((0 : Int), (0 : Int))).1 (ps.getD i ((0 : Int), (0 : Int))).2 = true) (.need (ptB (ps.getD ((i + (1 : Nat)) % ps.length) ((0 : Int), (0 : Int))).1 (ps.getD ((i + (1 : Nat)) % ps.length) ((0 : Int), (0 : Int))).2 = true) (.need (ptB x y = true) (.leaf .normal ⟨[topV, topV, topV, .pointer (some ⟨2, 0, none⟩), topV, .pointer (some ⟨3, 0, none⟩), topV, topV, topV, topV, topV, topV, topV, topV, topV, topV, topV, .func (Fn.func 90) #[] #[.pointer (some ⟨4, 0, none⟩)], topV, topV, topV, topV, topV, topV, topV, topV, topV, topV, topV, topV], [some ⟨.view, .ints (flat ps)⟩, none, some ⟨.box, .vals [.int .i64 (x), .int .i64 (y)]⟩, some ⟨.box, .vals [.int .i64 (if cmpI (crossI (ps.getD i (0, 0)).1 (ps.getD i (0, 0)).2 (ps.getD ((i + 1) % ps.length) (0, 0)).1 (ps.getD ((i + 1) % ps.length) (0, 0)).2 x y) 0 < lvA ps x y i then cmpI (crossI (ps.getD i (0, 0)).1 (ps.getD i (0, 0)).2 (ps.getD ((i + 1) % ps.length) (0, 0)).1 (ps.getD ((i + 1) % ps.length) (0, 0)).2 x y) 0 else lvA ps x y i)]⟩, some ⟨.view, .vals [.slice (some ⟨0, 0, none⟩) (ps.length) (ps.length)]⟩]⟩))) := by kernel_rfl
/-- A round of this loop. -/
def Round_lcv (ps : List Pt) (x y : Int) : Prop := ∀ i : Nat, g_lcv ps x y i → i < (ps).length → (bodyR Try.prog ECl 30 12 noL noR (asgOf gc_lcv) (bodOf gc_lcv) ([18, 19].zip (encE ps i)) k_lcv 5 (s_lcv ps x y i)).ok (RoundEndR 5 (s_lcv ps x y) (g_lcv ps x y) (re_lcv ps x y) (rs_lcv ps x y) i) (fun _ _ => False)
set_option maxRecDepth 100000 in
theorem gcode_lcv : gc_lcv = .rangeFunc (.tmp 17) ([18, 19] : List Nat).toArray (asgOf gc_lcv) (bodOf gc_lcv) := by kernel_rfl
def e_lcv (s : St) (k : Ex → St → Tree) : Option Tree := match Nat.beq s.tmps.length 30, pickL s.tmps [3, 5, 17], s.mem with
  | true, [.pointer (some ⟨2, 0, none⟩), .pointer (some ⟨3, 0, none⟩), .func (.func 90) ⟨[]⟩ ⟨[.pointer (some ⟨4, 0, none⟩)]⟩], [some ⟨.view, .ints xs⟩, none, some ⟨.box, .vals [.int .i64 x, .int .i64 y]⟩, some ⟨.box, .vals [.int .i64 a0]⟩, some ⟨.box, .vals [.slice (some ⟨0, 0, none⟩) n _]⟩] => some (needs [a0 = 1, xs.length = n * 2, allV (ptsA n xs) = true, n ≤ 20, ptB x y = true] (k .normal ⟨[topV, topV, topV, .pointer (some ⟨2, 0, none⟩), topV, .pointer (some ⟨3, 0, none⟩), topV, topV, topV, topV, topV, topV, topV, topV, topV, topV, topV, topV, topV, topV, topV, topV, topV, topV, topV, topV, topV, topV, topV, topV], [some ⟨.view, .ints xs⟩, none, some ⟨.box, .vals [.int .i64 x, .int .i64 y]⟩, some ⟨.box, .vals [.int .i64 (lvA (ptsA n xs) x y n)]⟩, some ⟨.view, .vals [.slice (some ⟨0, 0, none⟩) n n]⟩]⟩))
  | _, _, _ => none
set_option maxRecDepth 100000 in
theorem round_lcv (ps : List Pt) (x y : Int) (hv : allV ps = true) (h : ps.length ≤ 20) (hp : ptB x y = true) : Round_lcv ps x y := by
  intro i hg hi
  rw [tr_lcv]
  have hm := nx_lt hi
  refine ⟨pt_get hv hi, pt_get hv hm, hp, ?_⟩
  refine ⟨by show i + 1 ≤ ps.length; omega, [], ?_⟩
  refine ⟨rfl, rfl, ?_, ?_⟩ <;> repeat' (first | exact True.intro | exact rfl | exact wv_top _ _ | exact fun _ => rfl | refine And.intro ?_ ?_)
attribute [local irreducible] bodyR
set_option maxRecDepth 100000 in
theorem lg_lcv : RangeE Try.prog e_lcv gc_lcv := by
  intro s k t F H hlt ht
  unfold e_lcv at hlt
  split at hlt
  rotate_left
  · cases hlt
  rename_i hlen hpick hmem
  obtain ⟨tmps, mem⟩ := s
  simp only at hlen hpick hmem
  subst hmem
  obtain rfl := Option.some.inj hlt
  obtain ⟨⟨rfl, h1, h2, h3, h4, _⟩, ht2⟩ := needs_ok ht
  clear ht hlt
  obtain ⟨ps, rfl, rfl⟩ := even_flat h1
  rw [ptsA_flat] at ht2 h2
  rename_i px py cp0 rr
  refine ⟨re_lcv ps px py, rs_lcv ps px py, ht2, ?_⟩
  rw [gcode_lcv]
  refine range_det (enc := encE ps) (len := (ps).length) (St_of := s_lcv ps px py) (Good := g_lcv ps px py) (N := 5) (M := 5) (Kn := [0, 4]) (cap := [.pointer (some ⟨4, 0, none⟩)]) (kf := (k_lcv .normal)) (π := []) (fun _ => rfl) (fun _ => rfl) (fun i hg hlt => bodyR_ok mixed ECl_ok (noL_good) (noR_good) (round_lcv ps px py h2 h3 h4 i hg hlt)) (entersB_res (by kernel_rfl)).1 rfl ?_ (fun ρ0 ρ B w lb h1 h2 => ed_iter ps (by omega) (s := (s_lcv ps px py 0).fs) (nb := 4) (nr := 0) (c := (ps).length) (Kn := [0, 4]) rfl rfl (by decide) (by decide) ρ0 ρ B w lb h1 h2) ?_ rfl (by decide) ?_ (Nat.zero_le _)
  · intro n hn b hb
    simp only [List.mem_cons, List.not_mem_nil, or_false] at hn
    rcases hn with rfl | rfl <;> (obtain rfl := Option.some.inj hb; rfl)
  · exact fun _ => ⟨rfl, [], by refine ⟨rfl, rfl, ?_, ?_⟩ <;> repeat' (first | exact True.intro | exact rfl | exact wv_top _ _ | exact fun _ => rfl | refine And.intro ?_ ?_)⟩
  · refine ⟨rfl, rfl, ?_, wvs_spread' [3, 5, 17] hlen rfl ?_⟩
    · repeat' (first | exact True.intro | exact rfl | exact wv_top _ _ | exact fun _ => rfl | assumption | exact Eq.symm (by assumption) | exact vI0 rfl | refine And.intro ?_ ?_)
    · rw [show pickL (viewS [0, 4] ⟨tmps, _⟩).tmps [3, 5, 17] = pickL tmps [3, 5, 17] from rfl, hpick]
      repeat' (first | exact True.intro | exact rfl | exact wv_top _ _ | exact fun _ => rfl | assumption | exact Eq.symm (by assumption) | exact vI0 rfl | refine And.intro ?_ ?_)
theorem Gr_lcv {fn : Func} (hf : Try.prog.funcs[22]? = some fn) : RangesGood Try.prog (rt1 17 e_lcv) (codeOf fn) := by
  obtain rfl := fn_is Try.func22 hf
  exact rt1_good (by kernel_rfl) lg_lcv
def GCl : FuncId → RT := fun f => match f with
  | 22 => rt1 17 e_lcv
  | _ => noR
def EClg : Env := withG ECl GCl
theorem EClg_ok : EnvOk Try.prog EClg := withG_ok ECl_ok (by
  intro f fn hf
  unfold GCl
  split
  all_goals first | with_reducible exact Gr_lcv hf | exact noR_good)
/-- Where a point lies. -/
def lcvV (ps : List Pt) (x y : Int) : Int := bif cvxI ps && ptB x y then lvA ps x y ps.length else 2
theorem cvx_ok {ps : List Pt} (h : cvxI ps = true) : allV ps = true ∧ ps.length ≤ 20 := by
  unfold cvxI at h
  rw [Bool.and_eq_true] at h
  exact cv_ok2 h.1
set_option maxRecDepth 100000 in
theorem tr_iLcv (ps : List Pt) (x y : Int) : bodyV Try.prog EClg 30 12 22 [.row ps.length (.ints (flat ps)), .v (.agg ⟨[.int .i64 x, .int .i64 y]⟩)] = .need (ps.length * (2 : Nat) ≤ (List.drop (0 : Nat) (flat ps)).length) (.need (ps.length ≤ (1000000000 : Nat)) (brT (!cvxI (ptsA ps.length (List.drop 0 (flat ps)))) (.fin (.int .i64 (2)) []) (brT (!ptB x y) (.fin (.int .i64 (2)) []) (.need ((1 : Int) = (1 : Int)) (.need ((flat ps).length = ps.length * (2 : Nat)) (.need (allV (ptsA ps.length (flat ps)) = true) (.need (ps.length ≤ (20 : Nat)) (.need (ptB x y = true) (.fin (.int .i64 (lvA (ptsA ps.length (flat ps)) x y ps.length)) []))))))))) := by kernel_rfl
theorem res_iLcv (x y : Int) (ps : List Pt) (h : Big ps) : Res Try.prog 22 [.row ps.length (.ints (flat ps)), .v (.agg ⟨[.int .i64 x, .int .i64 y]⟩)] (.int .i64 (lcvV ps x y)) := by
  refine bodyV_res mixed EClg_ok (m := 30) (n := 12) rfl ?_
  rw [tr_iLcv]
  unfold Big at h
  simp only [List.drop_zero, ptsA_flat, flat_length]
  unfold lcvV
  rcases hs : cvxI ps with _ | _
  · simp [brT_ok, Tree.ok, h]
  · obtain ⟨h1, h2⟩ := cvx_ok hs
    rcases hc : ptB x y with _ | _ <;> simp [brT_ok, Tree.ok, h, h1, h2]
noncomputable def c_inh : Code := ((loopsOf (codeOf Try.f59))[0]?).getD .skip
def k_inh : Ex → List Nat := keeps [0, 3, 5, 6] [(0, [5])] []
def s_inh (ps : List Pt) (x y : Int) : Nat → St := fun i => ⟨(.slice (some ⟨0, 0, none⟩) ps.length ps.length :: topV :: topV :: .pointer (some ⟨2, 0, none⟩) :: topV :: .int .i64 (lvA ps x y i) :: .int .i64 i :: topV :: topV :: topV :: topV :: topV :: topV :: topV :: topV :: topV :: topV :: topV :: topV :: topV :: topV :: topV :: topV :: topV :: topV :: topV :: topV :: topV :: topV :: topV :: topV :: []), [some ⟨.view, .ints (flat ps)⟩, none, some ⟨.box, .vals [.int .i64 x, .int .i64 y]⟩]⟩
def re_inh : Nat → Ex := fun _ => .exit 0
def rs_inh (ps : List Pt) (x y : Int) : Nat → St := fun i => ⟨(topV :: topV :: topV :: topV :: topV :: .int .i64 (lvA ps x y ps.length) :: topV :: topV :: topV :: topV :: topV :: topV :: topV :: topV :: topV :: topV :: topV :: topV :: topV :: topV :: topV :: topV :: topV :: topV :: topV :: topV :: topV :: topV :: topV :: topV :: topV :: []), [some ⟨.view, .ints (flat ps)⟩, none, some ⟨.box, .vals [.int .i64 x, .int .i64 y]⟩]⟩
set_option maxRecDepth 100000 in
theorem tr_inh (ps : List Pt) (x y : Int) (i : Nat) : bodyL Try.prog ECl 30 12 noL 1 c_inh k_inh 3 (s_inh ps x y i) = brT (decide ((↑i : Int) < (↑ps.length : Int))) (.need (ptB ((flat ps).getD ((0 : Nat) + (↑i : Int).toNat * (2 : Nat)) (0 : Int)) ((flat ps).getD ((0 : Nat) + (↑i : Int).toNat * (2 : Nat) + (1 : Nat)) (0 : Int)) = true) (.need (ptB ((flat ps).getD ((0 : Nat) + ((IntKind.i64.wrap ((↑i : Int) + (1 : Int))).tmod (↑ps.length : Int)).toNat * (2 : Nat)) (0 : Int)) ((flat ps).getD ((0 : Nat) + ((IntKind.i64.wrap ((↑i : Int) + (1 : Int))).tmod (↑ps.length : Int)).toNat * (2 : Nat) + (1 : Nat)) (0 : Int)) = true) (.need (ptB x y = true) (.need ((0 : Int) ≤ (↑i : Int) ∧ (↑i : Int) < (↑ps.length : Int)) (.need ((0 : Nat) + (↑i : Int).toNat * (2 : Nat) + (2 : Nat) ≤ (flat ps).length) (.need (¬(↑ps.length : Int) = (0 : Int)) (.need ((0 : Int) ≤ (IntKind.i64.wrap ((↑i : Int) + (1 : Int))).tmod (↑ps.length : Int) ∧ (IntKind.i64.wrap ((↑i : Int) + (1 : Int))).tmod (↑ps.length : Int) < (↑ps.length : Int)) (.need ((0 : Nat) + ((IntKind.i64.wrap ((↑i : Int) + (1 : Int))).tmod (↑ps.length : Int)).toNat * (2 : Nat) + (2 : Nat) ≤ (flat ps).length) (.leaf .normal ⟨(.slice (some ⟨0, 0, none⟩) (ps.length) (ps.length) :: topV :: topV :: .pointer (some ⟨2, 0, none⟩) :: topV :: .int .i64 (if cmpI (crossI ((flat ps).getD (0 + (↑i : Int).toNat * 2) 0) ((flat ps).getD (0 + (↑i : Int).toNat * 2 + 1) 0) ((flat ps).getD (0 + ((IntKind.i64.wrap ((↑i : Int) + 1)).tmod (↑ps.length : Int)).toNat * 2) 0) ((flat ps).getD (0 + ((IntKind.i64.wrap ((↑i : Int) + 1)).tmod (↑ps.length : Int)).toNat * 2 + 1) 0) x y) 0 < lvA ps x y i then cmpI (crossI ((flat ps).getD (0 + (↑i : Int).toNat * 2) 0) ((flat ps).getD (0 + (↑i : Int).toNat * 2 + 1) 0) ((flat ps).getD (0 + ((IntKind.i64.wrap ((↑i : Int) + 1)).tmod (↑ps.length : Int)).toNat * 2) 0) ((flat ps).getD (0 + ((IntKind.i64.wrap ((↑i : Int) + 1)).tmod (↑ps.length : Int)).toNat * 2 + 1) 0) x y) 0 else lvA ps x y i) :: .int .i64 (IntKind.i64.wrap ((↑i : Int) + 1)) :: topV :: topV :: topV :: topV :: topV :: topV :: topV :: topV :: topV :: topV :: topV :: topV :: topV :: topV :: topV :: topV :: topV :: topV :: topV :: topV :: topV :: topV :: topV :: topV :: []), [some ⟨.view, .ints (flat ps)⟩, none, some ⟨.box, .vals [.int .i64 (x), .int .i64 (y)]⟩]⟩))))))))) (.leaf (.exit 0) ⟨(topV :: topV :: topV :: topV :: topV :: .int .i64 (lvA ps x y i) :: topV :: topV :: topV :: topV :: topV :: topV :: topV :: topV :: topV :: topV :: topV :: topV :: topV :: topV :: topV :: topV :: topV :: topV :: topV :: topV :: topV :: topV :: topV :: topV :: topV :: []), [some ⟨.view, .ints (flat ps)⟩, none, some ⟨.box, .vals [.int .i64 (x), .int .i64 (y)]⟩]⟩) := by kernel_rfl
set_option maxRecDepth 100000 in
theorem nl_inh : loopsOf c_inh = [] := by kernel_rfl
def inv_inh (ps : List Pt) (x y : Int) : Nat → Prop := fun i => i ≤ ps.length
def me_inh (ps : List Pt) (x y : Int) : Nat → Nat := fun i => ps.length - i
/-- A round of this loop. -/
def Round_inh (ps : List Pt) (x y : Int) : Prop := ∀ xx : Nat, inv_inh ps x y xx → (bodyL Try.prog ECl 30 12 noL 1 c_inh k_inh 3 (s_inh ps x y xx)).ok (RoundEnd 3 (s_inh ps x y) (inv_inh ps x y) (me_inh ps x y) re_inh (rs_inh ps x y) xx) (fun _ _ => False)
def e_inh (s : St) (k : Ex → St → Tree) : Option Tree := match Nat.beq s.tmps.length 31, pickL s.tmps [0, 3, 5, 6], s.mem with
  | true, [.slice (some ⟨0, 0, none⟩) n _, .pointer (some ⟨2, 0, none⟩), .int .i64 a0, .int .i64 i], [some ⟨.view, .ints xs⟩, none, some ⟨.box, .vals [.int .i64 x, .int .i64 y]⟩] => some (needs [i = 0, a0 = 1, xs.length = n * 2, allV (ptsA n xs) = true, n ≤ 20, ptB x y = true] (k (.exit 0) ⟨(topV :: topV :: topV :: topV :: topV :: .int .i64 (lvA (ptsA n xs) x y n) :: topV :: topV :: topV :: topV :: topV :: topV :: topV :: topV :: topV :: topV :: topV :: topV :: topV :: topV :: topV :: topV :: topV :: topV :: topV :: topV :: topV :: topV :: topV :: topV :: topV :: []), [some ⟨.view, .ints xs⟩, none, some ⟨.box, .vals [.int .i64 x, .int .i64 y]⟩]⟩))
  | _, _, _ => none
set_option maxRecDepth 100000 in
theorem round_inh (ps : List Pt) (x y : Int) (hv : allV ps = true) (h : ps.length ≤ 20) (hp : ptB x y = true) : Round_inh ps x y := by
  intro i h1
  have h1 : i ≤ ps.length := h1
  rw [tr_inh]
  simp only [Int.toNat_natCast, Nat.zero_add, flat_length, flat_get0, flat_get1]
  refine brT_ok.2 ⟨fun hlt => ?_, fun hge => ?_⟩
  · have hlt := of_decide_eq_true hlt
    have hi : i < ps.length := by omega
    have hm := nx_lt hi
    simp only [nx_mod hi (by omega), Int.toNat_natCast, flat_get0, flat_get1]
    simp only [wsucc (n := ps.length) hi (by omega)]
    refine ⟨pt_get hv hi, pt_get hv hm, hp, by omega, by omega, by omega, by omega, by omega, ?_⟩
    refine ⟨i + 1, [], ?_, ?_, rfl, rfl, ?_⟩
    · show i + 1 ≤ ps.length; omega
    · show ps.length - (i + 1) < ps.length - i; omega
    · refine ⟨rfl, rfl, ?_, ?_⟩ <;> repeat' (first | exact True.intro | exact rfl | exact wv_top _ _ | exact fun _ => rfl | refine And.intro ?_ ?_)
  · have hge := of_decide_eq_false hge
    obtain rfl : i = ps.length := by omega
    refine ⟨rfl, [], ?_⟩
    refine ⟨rfl, rfl, ?_, ?_⟩ <;> repeat' (first | exact True.intro | exact rfl | exact wv_top _ _ | exact fun _ => rfl | refine And.intro ?_ ?_)
set_option maxRecDepth 100000 in
theorem lg_inh : LoopE Try.prog e_inh c_inh := by
  intro s k t F H hlt ht
  unfold e_inh at hlt
  split at hlt
  rotate_left
  · cases hlt
  rename_i hlen hpick hmem
  obtain ⟨tmps, mem⟩ := s
  simp only at hlen hpick hmem
  subst hmem
  obtain rfl := Option.some.inj hlt
  obtain ⟨⟨rfl, rfl, h1, h2, h3, h4, _⟩, ht2⟩ := needs_ok ht
  clear ht hlt
  obtain ⟨ps, rfl, rfl⟩ := even_flat h1
  rw [ptsA_flat] at ht2 h2
  refine ⟨_, _, ht2, loop_run mixed ECl_ok (s_inh ps _ _) (inv_inh ps _ _) (me_inh ps _ _) re_inh (rs_inh ps _ _) k_inh (fun _ => rfl) (noLoops nl_inh) (round_inh ps _ _ h2 h3 h4) (x := 0) (Nat.zero_le _) (π := []) rfl ?_⟩
  refine ⟨rfl, rfl, ?_, wvs_spread' [0, 3, 5, 6] hlen rfl ?_⟩
  · repeat' (first | exact True.intro | exact rfl | exact wv_top _ _ | exact fun _ => rfl | assumption | exact Eq.symm (by assumption) | exact vI0 rfl | refine And.intro ?_ ?_)
  · rw [hpick]
    repeat' (first | exact True.intro | exact rfl | exact wv_top _ _ | exact fun _ => rfl | assumption | exact Eq.symm (by assumption) | exact vI0 rfl | refine And.intro ?_ ?_)
theorem Lr_inh {fn : Func} (hf : Try.prog.funcs[59]? = some fn) : LoopsGood Try.prog (lt1 e_inh) 0 (codeOf fn) := by
  obtain rfl := fn_is Try.func59 hf
  exact lt1_good lg_inh
def LIh : FuncId → LT := fun f => match f with
  | 59 => lt1 e_inh
  | _ => noL
def EIh : Env := mkE TCx R4 LIh
theorem EIh_ok : EnvOk Try.prog EIh := mkEOk TCx_ok R4_ok (by
  intro f fn hf
  unfold LIh
  split
  all_goals first | with_reducible exact Lr_inh hf | exact noL_good)
set_option maxRecDepth 100000 in
theorem tr_inhF (ps : List Pt) (x y : Int) : bodyV Try.prog EIh 30 12 59 [.row ps.length (.ints (flat ps)), .v (.agg ⟨[.int .i64 x, .int .i64 y]⟩)] = .need ((0 : Int) = (0 : Int)) (.need ((1 : Int) = (1 : Int)) (.need ((flat ps).length = ps.length * (2 : Nat)) (.need (allV (ptsA ps.length (flat ps)) = true) (.need (ps.length ≤ (20 : Nat)) (.need (ptB x y = true) (.fin (.int .i64 (lvA (ptsA ps.length (flat ps)) x y ps.length)) [])))))) := by kernel_rfl
theorem res_inh (x y : Int) (ps : List Pt) (h : allV ps = true) (h2 : ps.length ≤ 20) (h3 : ptB x y = true) : Res Try.prog 59 [.row ps.length (.ints (flat ps)), .v (.agg ⟨[.int .i64 x, .int .i64 y]⟩)] (.int .i64 (lvA ps x y ps.length)) := by
  refine bodyV_res mixed EIh_ok (m := 30) (n := 12) rfl ?_
  rw [tr_inhF]
  simp only [ptsA_flat]
  simp [Tree.ok, h, h2, h3, flat_length]
def pInh : List DArg → Option (Value × List Prop)
  | [.row m (.ints xs), .v (.agg ⟨[.int .i64 x, .int .i64 y]⟩)] => some (.int .i64 (lvA (ptsA m xs) x y m), [m * 2 ≤ xs.length, allV (ptsA m xs) = true, m ≤ 20, ptB x y = true])
  | _ => none
theorem pInh_ok {ds : List DArg} {v : Value} {C : List Prop} (h : pInh ds = some (v, C)) (hC : AllP C) : Res Try.prog 59 ds v := by
  unfold pInh at h
  split at h
  · rename_i m xs x y
    obtain ⟨rfl, rfl⟩ : _ ∧ _ := by simpa using h
    obtain ⟨_, h2⟩ := ptsA_spec hC.1
    have h0 := res_inh x y (ptsA m xs) hC.2.1 (by rw [h2]; exact hC.2.2.1) hC.2.2.2.1
    have h7 := res_pts1 (pre := []) (post := [.v (.agg ⟨[.int .i64 x, .int .i64 y]⟩)]) hC.1 h0
    rw [h2] at h7
    exact h7
  · cases h
def TIh : Tab := fun f ds => match f with
  | 59 => pInh ds
  | f => TCx f ds
theorem TIh_ok : TabOk Try.prog TIh := by
  intro f ds v C h hC
  unfold TIh at h
  (try split at h)
  all_goals first | with_reducible exact pInh_ok h hC | exact TCx_ok _ _ _ _ h hC
def ESl : Env := mkE TIh R4 (fun _ => noL)
theorem ESl_ok : EnvOk Try.prog ESl := mkEOk TIh_ok R4_ok (fun _ _ _ => noL_good)
set_option maxRecDepth 100000 in
theorem tr_sLcv (ps : List Pt) (x y : Int) : bodyV Try.prog ESl 30 12 20 [.row ps.length (.ints (flat ps)), .v (.agg ⟨[.int .i64 x, .int .i64 y]⟩)] = .need (ps.length * (2 : Nat) ≤ (List.drop (0 : Nat) (flat ps)).length) (.need (ps.length ≤ (1000000000 : Nat)) (brT (!cvxI (ptsA ps.length (List.drop 0 (flat ps)))) (.fin (.int .i64 (2)) []) (brT (!ptB x y) (.fin (.int .i64 (2)) []) (.need (ps.length * (2 : Nat) ≤ (List.drop (0 : Nat) (flat ps)).length) (.need (allV (ptsA ps.length (List.drop (0 : Nat) (flat ps))) = true) (.need (ps.length ≤ (20 : Nat)) (.need (ptB x y = true) (.fin (.int .i64 (lvA (ptsA ps.length (List.drop 0 (flat ps))) x y ps.length)) [])))))))) := by kernel_rfl
theorem res_sLcv (x y : Int) (ps : List Pt) (h : Big ps) : Res Try.prog 20 [.row ps.length (.ints (flat ps)), .v (.agg ⟨[.int .i64 x, .int .i64 y]⟩)] (.int .i64 (lcvV ps x y)) := by
  refine bodyV_res mixed ESl_ok (m := 30) (n := 12) rfl ?_
  rw [tr_sLcv]
  unfold Big at h
  simp only [List.drop_zero, ptsA_flat, flat_length]
  unfold lcvV
  rcases hs : cvxI ps with _ | _
  · simp [brT_ok, Tree.ok, h]
  · obtain ⟨h1, h2⟩ := cvx_ok hs
    rcases hc : ptB x y with _ | _ <;> simp [brT_ok, Tree.ok, h, h1, h2]
def pLcv : List DArg → Option (Value × List Prop)
  | [.row m (.ints xs), .v (.agg ⟨[.int .i64 x, .int .i64 y]⟩)] => some (.int .i64 (lcvV (ptsA m xs) x y), [m * 2 ≤ xs.length, m ≤ 1000000000])
  | _ => none
theorem pLcv_ok {f : FuncId} (H : ∀ (x y : Int) (ps : List Pt), Big ps → Res Try.prog f [.row ps.length (.ints (flat ps)), .v (.agg ⟨[.int .i64 x, .int .i64 y]⟩)] (.int .i64 (lcvV ps x y))) {ds : List DArg} {v : Value} {C : List Prop} (h : pLcv ds = some (v, C)) (hC : AllP C) : Res Try.prog f ds v := by
  unfold pLcv at h
  split at h
  · rename_i m xs x y
    obtain ⟨rfl, rfl⟩ : _ ∧ _ := by simpa using h
    obtain ⟨_, h2⟩ := ptsA_spec hC.1
    exact res_pts1 (pre := []) (post := [.v (.agg ⟨[.int .i64 x, .int .i64 y]⟩)]) hC.1 (H x y (ptsA m xs) (by unfold Big; rw [h2]; exact hC.2.1))
  · cases h
def TLv : Tab := fun f ds => match f with
  | 22 => pLcv ds
  | 20 => pLcv ds
  | f => TIh f ds
theorem TLv_ok : TabOk Try.prog TLv := by
  intro f ds v C h hC
  unfold TLv at h
  (try split at h)
  all_goals first | with_reducible exact pLcv_ok res_iLcv h hC | with_reducible exact pLcv_ok res_sLcv h hC | exact TIh_ok _ _ _ _ h hC
def ELv : Env := mkE TLv R4 (fun _ => noL)
theorem ELv_ok : EnvOk Try.prog ELv := mkEOk TLv_ok R4_ok (fun _ _ _ => noL_good)
set_option maxRecDepth 100000 in
theorem tr_exLcv (ps : List Pt) (x y : Int) : bodyV Try.prog ELv 30 12 4 [.row ps.length (.ints (flat ps)), .v (.agg #[iv x, iv y])] = brT (decide (IntKind.i64.wrap (1048576 - (↑ps.length : Int)) < 0)) (.fin (.bool (true)) []) (brT (decide (IntKind.i64.wrap (1048576 - (↑ps.length : Int)) < 0)) (.fin (.bool (true)) []) (.need (ps.length * (2 : Nat) ≤ (List.drop (0 : Nat) (flat ps)).length) (.need (ps.length ≤ (1000000000 : Nat)) (.need (ps.length * (2 : Nat) ≤ (List.drop (0 : Nat) (List.take (ps.length * (2 : Nat)) (List.drop (0 : Nat) (flat ps)))).length) (.need (ps.length ≤ (1000000000 : Nat)) (.need (ps.length * (2 : Nat) ≤ (List.drop (0 : Nat) (flat ps)).length) (.need (ps.length ≤ (1000000000 : Nat)) (.need (ps.length * (2 : Nat) ≤ (List.drop (0 : Nat) (List.take (ps.length * (2 : Nat)) (List.drop (0 : Nat) (flat ps)))).length) (.need (ps.length ≤ (1000000000 : Nat)) (brT (!lcvV (ptsA ps.length (List.drop 0 (List.take (ps.length * 2) (List.drop 0 (flat ps))))) x y == lcvV (ptsA ps.length (List.drop 0 (List.take (ps.length * 2) (List.drop 0 (flat ps))))) x y) (.fin (.bool (false)) []) (.need (ps.length * (2 : Nat) ≤ (List.drop (0 : Nat) (flat ps)).length) (.need (ps.length ≤ (1000000000 : Nat)) (.need (ps.length * (2 : Nat) ≤ (List.drop (0 : Nat) (List.take (ps.length * (2 : Nat)) (List.drop (0 : Nat) (flat ps)))).length) (.need (ps.length * (2 : Nat) ≤ (List.drop (0 : Nat) (List.take (ps.length * (2 : Nat)) (List.drop (0 : Nat) (flat ps)))).length) (.need (ps.length ≤ (1000000000 : Nat)) (brT (!eqL (ptsA ps.length (List.drop 0 (List.take (ps.length * 2) (List.drop 0 (flat ps))))) (ptsA ps.length (List.drop 0 (List.take (ps.length * 2) (List.drop 0 (flat ps)))))) (.fin (.bool (false)) []) (.fin (.bool (true)) []))))))))))))))))) := by kernel_rfl
theorem ExactLocateConvex_res (ps : List Pt) (x y : Int) (h : (ps.length : Int) ≤ 9223372036854775807) : Res Try.prog 4 [.row ps.length (.ints (flat ps)), .v (.agg #[iv x, iv y])] (.bool true) := by
  refine bodyV_res mixed ELv_ok (m := 30) (n := 12) rfl ?_
  rw [tr_exLcv]
  simp only [List.drop_zero, flat_all, ptsA_flat, flat_length]
  by_cases hl : (1048576 : Int) - ps.length < 0
  · simp (disch := omega) only [wr]
    simp only [hl, decide_true, brT_t, Tree.ok]
  · simp (disch := omega) only [wr]
    simp only [hl, decide_false, brT_f, Tree.ok, beq_self_eq_true, bne_self_eq_false, Bool.not_true, eqL, decide_true]
    repeat' (first | exact True.intro | omega | exact rfl | refine And.intro ?_ ?_)
end Go.Proofs.Ytieibbdfdepmbaa
