/-
  DoubleArea, BoundaryCount, InteriorCount: both ways, the exact laws. Written by an AI agent.
-/
import Derived.Test.YtfbcbmckicmalaaIsb
namespace Go.Proofs.Ytfbcbmckicmalaa
open Go.RowKit

theorem issI_ok {ps : List Pt} (h : issI ps = true) : allV ps = true ∧ ps.length ≤ 20 ∧ 3 ≤ ps.length := by
  unfold issI okL at h
  simp only [Bool.and_eq_true, decide_eq_true_eq] at h
  exact ⟨h.1.2.1, h.1.2.2, h.1.1⟩
def TBn : Tab := orT TSg TSm
theorem TBn_ok : TabOk Try.prog TBn := orT_ok TSg_ok TSm_ok
def EBn : Env := mkE TBn R4 (fun _ => noL)
theorem EBn_ok : EnvOk Try.prog EBn := mkEOk TBn_ok R4_ok (fun _ _ _ => noL_good)
def daV (ps : List Pt) : Int := bif issI ps then sgA ps ps.length else 0
set_option maxRecDepth 100000 in
theorem tr_iDa (ps : List Pt) : bodyV Try.prog EBn 30 12 27 [.row ps.length (.ints (flat ps))] = .need (ps.length * (2 : Nat) ≤ (List.drop (0 : Nat) (flat ps)).length) (.need (ps.length ≤ (1000000000 : Nat)) (brT (!issI (ptsA ps.length (List.drop 0 (flat ps)))) (.fin (.int .i64 (0)) []) (.need (ps.length * (2 : Nat) ≤ (List.drop (0 : Nat) (flat ps)).length) (.need (allV (ptsA ps.length (List.drop (0 : Nat) (flat ps))) = true) (.need (ps.length ≤ (20 : Nat)) (.fin (.int .i64 (sgA (ptsA ps.length (List.drop 0 (flat ps))) ps.length)) [])))))) := by kernel_rfl
set_option maxRecDepth 100000 in
theorem tr_sDaS (ps : List Pt) : bodyV Try.prog EBn 30 12 26 [.row ps.length (.ints (flat ps))] = .need (ps.length * (2 : Nat) ≤ (List.drop (0 : Nat) (flat ps)).length) (.need (ps.length ≤ (1000000000 : Nat)) (brT (!issI (ptsA ps.length (List.drop 0 (flat ps)))) (.fin (.int .i64 (0)) []) (.need (ps.length * (2 : Nat) ≤ (List.drop (0 : Nat) (flat ps)).length) (.need (allV (ptsA ps.length (List.drop (0 : Nat) (flat ps))) = true) (.need (ps.length ≤ (20 : Nat)) (.fin (.int .i64 (sgA (ptsA ps.length (List.drop 0 (flat ps))) ps.length)) [])))))) := by kernel_rfl
theorem res_iDa (ps : List Pt) (h : Big ps) : Res Try.prog 27 [.row ps.length (.ints (flat ps))] (iv (daV ps)) := by
  refine bodyV_res mixed EBn_ok (m := 30) (n := 12) rfl ?_
  rw [tr_iDa]
  unfold Big at h
  simp only [List.drop_zero, ptsA_flat, flat_length]
  unfold daV
  rcases hs : issI ps with _ | _
  · simp [brT_ok, Tree.ok, h]
  · obtain ⟨h1, h2, _⟩ := issI_ok hs
    simp [brT_ok, Tree.ok, h, h1, h2]
theorem res_sDaS (ps : List Pt) (h : Big ps) : Res Try.prog 26 [.row ps.length (.ints (flat ps))] (iv (daV ps)) := by
  refine bodyV_res mixed EBn_ok (m := 30) (n := 12) rfl ?_
  rw [tr_sDaS]
  unfold Big at h
  simp only [List.drop_zero, ptsA_flat, flat_length]
  unfold daV
  rcases hs : issI ps with _ | _
  · simp [brT_ok, Tree.ok, h]
  · obtain ⟨h1, h2, _⟩ := issI_ok hs
    simp [brT_ok, Tree.ok, h, h1, h2]
/-- Points with integer coordinates on an edge. -/
def bcT (ps : List Pt) (j : Nat) : Int := gI ((nxP ps j).1 - (ps.getD j (0, 0)).1) ((nxP ps j).2 - (ps.getD j (0, 0)).2)
def bcA (ps : List Pt) : Nat → Int
  | 0 => 0
  | i + 1 => bcA ps i + bcT ps i
theorem bcT_bd {ps : List Pt} (h : allV ps = true) {j : Nat} (hj : j < ps.length) : 0 ≤ bcT ps j ∧ bcT ps j ≤ 2000 := by
  have a1 := allV_gt h hj
  have a2 := allV_gt h (nx_lt hj)
  unfold bcT nxP
  exact gI_bd (by omega) (by omega)
theorem bcA_bd {ps : List Pt} (h : allV ps = true) : ∀ i, i ≤ ps.length → 0 ≤ bcA ps i ∧ bcA ps i ≤ 2000 * (i : Int)
  | 0, _ => by simp [bcA]
  | i + 1, hi => by
    have ih := bcA_bd h i (by omega)
    have b1 := bcT_bd h (j := i) (by omega)
    simp only [bcA]
    omega
noncomputable def gc_bnd : Code := (rangesOf (codeOf Try.f29)).getD 0 .skip
def k_bnd : Ex → List Nat := keeps [3, 11] [] []
def s_bnd (ps : List Pt) : Nat → St := fun i => ⟨[topV, topV, topV, .pointer (some ⟨1, 0, none⟩), topV, topV, topV, topV, topV, topV, topV, .func (.func 94) #[] #[.pointer (some ⟨2, 0, none⟩)], topV, topV, topV, topV, topV, topV, topV, topV, topV, topV, topV, topV, topV, topV, topV, topV], [some ⟨.view, .ints (flat ps)⟩, some ⟨.box, .vals [.int .i64 (bcA ps i)]⟩, some ⟨.view, .vals [.slice (some ⟨0, 0, none⟩) ps.length ps.length]⟩]⟩
def g_bnd (ps : List Pt) : Nat → Prop := fun i => i ≤ ps.length
def re_bnd (ps : List Pt) : Ex := .normal
def rs_bnd (ps : List Pt) : St := ⟨[topV, topV, topV, .pointer (some ⟨1, 0, none⟩), topV, topV, topV, topV, topV, topV, topV, topV, topV, topV, topV, topV, topV, topV, topV, topV, topV, topV, topV, topV, topV, topV, topV, topV], [some ⟨.view, .ints (flat ps)⟩, some ⟨.box, .vals [.int .i64 (bcA ps ps.length)]⟩, some ⟨.view, .vals [.slice (some ⟨0, 0, none⟩) ps.length ps.length]⟩]⟩
set_option maxRecDepth 100000 in
theorem tr_bnd (ps : List Pt) (i : Nat) : bodyR Try.prog EBn 30 12 noL noR (asgOf gc_bnd) (bodOf gc_bnd) ([12, 13].zip (encE ps i)) k_bnd 3 (s_bnd ps i) = .need (big (IntKind.i64.wrap ((ps.getD ((i + (1 : Nat)) % ps.length) ((0 : Int), (0 : Int))).1 - (ps.getD i ((0 : Int), (0 : Int))).1))) (.need (big (IntKind.i64.wrap ((ps.getD ((i + (1 : Nat)) % ps.length) ((0 : Int), (0 : Int))).2 - (ps.getD i ((0 : Int), (0 : Int))).2))) (.leaf .normal ⟨[topV, topV, topV, .pointer (some ⟨1, 0, none⟩), topV, topV, topV, topV, topV, topV, topV, .func (Fn.func 94) #[] #[.pointer (some ⟨2, 0, none⟩)], topV, topV, topV, topV, topV, topV, topV, topV, topV, topV, topV, topV, topV, topV, topV, topV], [some ⟨.view, .ints (flat ps)⟩, some ⟨.box, .vals [.int .i64 (IntKind.i64.wrap (bcA ps i + gI (IntKind.i64.wrap ((ps.getD ((i + 1) % ps.length) (0, 0)).1 - (ps.getD i (0, 0)).1)) (IntKind.i64.wrap ((ps.getD ((i + 1) % ps.length) (0, 0)).2 - (ps.getD i (0, 0)).2))))]⟩, some ⟨.view, .vals [.slice (some ⟨0, 0, none⟩) (ps.length) (ps.length)]⟩]⟩)) := by kernel_rfl
/-- A round of this loop. -/
def Round_bnd (ps : List Pt) : Prop := ∀ i : Nat, g_bnd ps i → i < (ps).length → (bodyR Try.prog EBn 30 12 noL noR (asgOf gc_bnd) (bodOf gc_bnd) ([12, 13].zip (encE ps i)) k_bnd 3 (s_bnd ps i)).ok (RoundEndR 3 (s_bnd ps) (g_bnd ps) (re_bnd ps) (rs_bnd ps) i) (fun _ _ => False)
set_option maxRecDepth 100000 in
theorem gcode_bnd : gc_bnd = .rangeFunc (.tmp 11) ([12, 13] : List Nat).toArray (asgOf gc_bnd) (bodOf gc_bnd) := by kernel_rfl
def e_bnd (s : St) (k : Ex → St → Tree) : Option Tree := match Nat.beq s.tmps.length 28, pickL s.tmps [3, 11], s.mem with
  | true, [.pointer (some ⟨1, 0, none⟩), .func (.func 94) ⟨[]⟩ ⟨[.pointer (some ⟨2, 0, none⟩)]⟩], [some ⟨.view, .ints xs⟩, some ⟨.box, .vals [.int .i64 a0]⟩, some ⟨.box, .vals [.slice (some ⟨0, 0, none⟩) n _]⟩] => some (needs [a0 = 0, xs.length = n * 2, allV (ptsA n xs) = true, n ≤ 20] (k .normal ⟨[topV, topV, topV, .pointer (some ⟨1, 0, none⟩), topV, topV, topV, topV, topV, topV, topV, topV, topV, topV, topV, topV, topV, topV, topV, topV, topV, topV, topV, topV, topV, topV, topV, topV], [some ⟨.view, .ints xs⟩, some ⟨.box, .vals [.int .i64 (bcA (ptsA n xs) n)]⟩, some ⟨.view, .vals [.slice (some ⟨0, 0, none⟩) n n]⟩]⟩))
  | _, _, _ => none
set_option maxRecDepth 100000 in
theorem round_bnd (ps : List Pt) (hv : allV ps = true) (h : ps.length ≤ 20) : Round_bnd ps := by
  intro i hg hi
  rw [tr_bnd]
  have hb := bcA_bd hv i (by omega)
  have hb2 := bcT_bd hv hi
  have a1 := allV_gt hv hi
  have a2 := allV_gt hv (nx_lt hi)
  unfold bcT nxP at hb2
  simp (disch := omega) only [wr]
  refine ⟨by unfold big; omega, by unfold big; omega, by show i + 1 ≤ ps.length; omega, [], ?_⟩
  refine ⟨rfl, rfl, ?_, ?_⟩ <;> repeat' (first | exact True.intro | exact rfl | exact wv_top _ _ | exact fun _ => rfl | refine And.intro ?_ ?_)
set_option maxRecDepth 100000 in
theorem lg_bnd : RangeE Try.prog e_bnd gc_bnd := by
  intro s k t F H hlt ht
  unfold e_bnd at hlt
  split at hlt
  rotate_left
  · cases hlt
  rename_i hlen hpick hmem
  obtain ⟨tmps, mem⟩ := s
  simp only at hlen hpick hmem
  subst hmem
  obtain rfl := Option.some.inj hlt
  obtain ⟨⟨rfl, h1, h2, h3, _⟩, ht2⟩ := needs_ok ht
  clear ht hlt
  obtain ⟨ps, rfl, rfl⟩ := even_flat h1
  rw [ptsA_flat] at ht2 h2
  refine ⟨re_bnd ps, rs_bnd ps, ht2, ?_⟩
  rw [gcode_bnd]
  refine range_det (enc := encE ps) (len := (ps).length) (St_of := s_bnd ps) (Good := g_bnd ps) (N := 3) (M := 3) (Kn := [0, 2]) (cap := [.pointer (some ⟨2, 0, none⟩)]) (kf := (k_bnd .normal)) (π := []) (fun _ => rfl) (fun _ => rfl) (fun i hg hlt => bodyR_ok mixed EBn_ok (noL_good) (noR_good) (round_bnd ps h2 h3 i hg hlt)) (entersB_res (by kernel_rfl)).1 rfl ?_ (fun ρ0 ρ B w lb h1 h2 => ed_iter ps (by omega) (s := (s_bnd ps 0).fs) (nb := 2) (nr := 0) (c := (ps).length) (Kn := [0, 2]) rfl rfl (by decide) (by decide) ρ0 ρ B w lb h1 h2) ?_ rfl (by decide) ?_ (Nat.zero_le _)
  · intro n hn b hb
    simp only [List.mem_cons, List.not_mem_nil, or_false] at hn
    rcases hn with rfl | rfl <;> (obtain rfl := Option.some.inj hb; rfl)
  · exact fun _ => ⟨rfl, [], by refine ⟨rfl, rfl, ?_, ?_⟩ <;> repeat' (first | exact True.intro | exact rfl | exact wv_top _ _ | exact fun _ => rfl | refine And.intro ?_ ?_)⟩
  · refine ⟨rfl, rfl, ?_, wvs_spread' [3, 11] hlen rfl ?_⟩
    · repeat' (first | exact True.intro | exact rfl | exact wv_top _ _ | exact fun _ => rfl | assumption | exact Eq.symm (by assumption) | exact vI0 rfl | refine And.intro ?_ ?_)
    · rw [show pickL (viewS [0, 2] ⟨tmps, _⟩).tmps [3, 11] = pickL tmps [3, 11] from rfl, hpick]
      repeat' (first | exact True.intro | exact rfl | exact wv_top _ _ | exact fun _ => rfl | assumption | exact Eq.symm (by assumption) | exact vI0 rfl | refine And.intro ?_ ?_)
theorem Gr_bnd {fn : Func} (hf : Try.prog.funcs[29]? = some fn) : RangesGood Try.prog (rt1 11 e_bnd) (codeOf fn) := by
  obtain rfl := fn_is Try.func29 hf
  exact rt1_good (by kernel_rfl) lg_bnd
def GBn : FuncId → RT := fun f => match f with
  | 29 => rt1 11 e_bnd
  | _ => noR
def EBg : Env := withG EBn GBn
theorem EBg_ok : EnvOk Try.prog EBg := withG_ok EBn_ok (by
  intro f fn hf
  unfold GBn
  split
  all_goals first | with_reducible exact Gr_bnd hf | exact noR_good)
def bcV (ps : List Pt) : Int := bif issI ps then bcA ps ps.length else -1
set_option maxRecDepth 100000 in
theorem tr_iBc (ps : List Pt) : bodyV Try.prog EBg 30 12 29 [.row ps.length (.ints (flat ps))] = .need (ps.length * (2 : Nat) ≤ (List.drop (0 : Nat) (flat ps)).length) (.need (ps.length ≤ (1000000000 : Nat)) (brT (!issI (ptsA ps.length (List.drop 0 (flat ps)))) (.fin (.int .i64 (-1)) []) (.need ((0 : Int) = (0 : Int)) (.need ((flat ps).length = ps.length * (2 : Nat)) (.need (allV (ptsA ps.length (flat ps)) = true) (.need (ps.length ≤ (20 : Nat)) (.fin (.int .i64 (bcA (ptsA ps.length (flat ps)) ps.length)) []))))))) := by kernel_rfl
theorem res_iBc (ps : List Pt) (h : Big ps) : Res Try.prog 29 [.row ps.length (.ints (flat ps))] (iv (bcV ps)) := by
  refine bodyV_res mixed EBg_ok (m := 30) (n := 12) rfl ?_
  rw [tr_iBc]
  unfold Big at h
  simp only [List.drop_zero, ptsA_flat, flat_length]
  unfold bcV
  rcases hs : issI ps with _ | _
  · simp [brT_ok, Tree.ok, h]
  · obtain ⟨h1, h2, _⟩ := issI_ok hs
    simp [brT_ok, Tree.ok, h, h1, h2]
noncomputable def c_sBc : Code := ((loopsOf (codeOf Try.f62))[0]?).getD .skip
def k_sBc : Ex → List Nat := keeps [0, 3, 4] [(0, [3])] [2]
def s_sBc (ps : List Pt) : Nat → St := fun i => ⟨(.slice (some ⟨0, 0, none⟩) ps.length ps.length :: topV :: topV :: .int .i64 (bcA ps i) :: .int .i64 i :: topV :: topV :: topV :: topV :: topV :: topV :: topV :: topV :: topV :: topV :: topV :: topV :: topV :: topV :: topV :: topV :: topV :: topV :: topV :: topV :: topV :: topV :: topV :: topV :: topV :: topV :: topV :: topV :: topV :: topV :: topV :: topV :: topV :: topV :: topV :: topV :: topV :: []), [some ⟨.view, .ints (flat ps)⟩]⟩
def re_sBc : Nat → Ex := fun _ => .exit 0
def rs_sBc (ps : List Pt) : Nat → St := fun i => ⟨(topV :: topV :: topV :: .int .i64 (bcA ps ps.length) :: topV :: topV :: topV :: topV :: topV :: topV :: topV :: topV :: topV :: topV :: topV :: topV :: topV :: topV :: topV :: topV :: topV :: topV :: topV :: topV :: topV :: topV :: topV :: topV :: topV :: topV :: topV :: topV :: topV :: topV :: topV :: topV :: topV :: topV :: topV :: topV :: topV :: topV :: []), [some ⟨.view, .ints (flat ps)⟩]⟩
set_option maxRecDepth 100000 in
theorem tr_sBc (ps : List Pt) (i : Nat) : bodyL Try.prog EBn 30 12 noL 1 c_sBc k_sBc 1 (s_sBc ps i) = brT (decide ((↑i : Int) < (↑ps.length : Int))) (.need (¬(↑ps.length : Int) = (0 : Int)) (.need ((0 : Int) ≤ (IntKind.i64.wrap ((↑i : Int) + (1 : Int))).tmod (↑ps.length : Int) ∧ (IntKind.i64.wrap ((↑i : Int) + (1 : Int))).tmod (↑ps.length : Int) < (↑ps.length : Int)) (.need ((0 : Nat) + ((IntKind.i64.wrap ((↑i : Int) + (1 : Int))).tmod (↑ps.length : Int)).toNat * (2 : Nat) + (2 : Nat) ≤ (flat ps).length) (.need (big (IntKind.i64.wrap ((flat ps).getD ((0 : Nat) + ((IntKind.i64.wrap ((↑i : Int) + (1 : Int))).tmod (↑ps.length : Int)).toNat * (2 : Nat)) (0 : Int) - (flat ps).getD ((0 : Nat) + (↑i : Int).toNat * (2 : Nat) + (0 : Nat)) (0 : Int)))) (.need (big (IntKind.i64.wrap ((flat ps).getD ((0 : Nat) + ((IntKind.i64.wrap ((↑i : Int) + (1 : Int))).tmod (↑ps.length : Int)).toNat * (2 : Nat) + (1 : Nat)) (0 : Int) - (flat ps).getD ((0 : Nat) + (↑i : Int).toNat * (2 : Nat) + (1 : Nat)) (0 : Int)))) (.need (big0 (↑(IntKind.i64.wrap ((flat ps).getD ((0 : Nat) + ((IntKind.i64.wrap ((↑i : Int) + (1 : Int))).tmod (↑ps.length : Int)).toNat * (2 : Nat)) (0 : Int) - (flat ps).getD ((0 : Nat) + (↑i : Int).toNat * (2 : Nat) + (0 : Nat)) (0 : Int))).natAbs : Int)) (.need (big0 (↑(IntKind.i64.wrap ((flat ps).getD ((0 : Nat) + ((IntKind.i64.wrap ((↑i : Int) + (1 : Int))).tmod (↑ps.length : Int)).toNat * (2 : Nat) + (1 : Nat)) (0 : Int) - (flat ps).getD ((0 : Nat) + (↑i : Int).toNat * (2 : Nat) + (1 : Nat)) (0 : Int))).natAbs : Int)) (.need ((0 : Int) ≤ (↑i : Int) ∧ (↑i : Int) < (↑ps.length : Int)) (.need ((0 : Nat) + (↑i : Int).toNat * (2 : Nat) + (0 : Nat) < (flat ps).length) (.need ((0 : Int) ≤ (↑i : Int) ∧ (↑i : Int) < (↑ps.length : Int)) (.need ((0 : Nat) + (↑i : Int).toNat * (2 : Nat) + (1 : Nat) < (flat ps).length) (.leaf .normal ⟨(.slice (some ⟨0, 0, none⟩) (ps.length) (ps.length) :: topV :: topV :: .int .i64 (IntKind.i64.wrap (bcA ps i + gI (↑(IntKind.i64.wrap ((flat ps).getD (0 + ((IntKind.i64.wrap ((↑i : Int) + 1)).tmod (↑ps.length : Int)).toNat * (2 : Nat)) 0 - (flat ps).getD (0 + (↑i : Int).toNat * (2 : Nat) + (0 : Nat)) 0)).natAbs : Int) (↑(IntKind.i64.wrap ((flat ps).getD (0 + ((IntKind.i64.wrap ((↑i : Int) + 1)).tmod (↑ps.length : Int)).toNat * (2 : Nat) + 1) 0 - (flat ps).getD (0 + (↑i : Int).toNat * (2 : Nat) + (1 : Nat)) 0)).natAbs : Int))) :: .int .i64 (IntKind.i64.wrap ((↑i : Int) + 1)) :: topV :: topV :: topV :: topV :: topV :: topV :: topV :: topV :: topV :: topV :: topV :: topV :: topV :: topV :: topV :: topV :: topV :: topV :: topV :: topV :: topV :: topV :: topV :: topV :: topV :: topV :: topV :: topV :: topV :: topV :: topV :: topV :: topV :: topV :: topV :: topV :: topV :: []), [some ⟨.view, .ints (flat ps)⟩]⟩)))))))))))) (.leaf (.exit 0) ⟨(topV :: topV :: topV :: .int .i64 (bcA ps i) :: topV :: topV :: topV :: topV :: topV :: topV :: topV :: topV :: topV :: topV :: topV :: topV :: topV :: topV :: topV :: topV :: topV :: topV :: topV :: topV :: topV :: topV :: topV :: topV :: topV :: topV :: topV :: topV :: topV :: topV :: topV :: topV :: topV :: topV :: topV :: topV :: topV :: topV :: []), [some ⟨.view, .ints (flat ps)⟩]⟩) := by kernel_rfl
set_option maxRecDepth 100000 in
theorem nl_sBc : loopsOf c_sBc = [] := by kernel_rfl
def inv_sBc (ps : List Pt) : Nat → Prop := fun i => i ≤ ps.length
def me_sBc (ps : List Pt) : Nat → Nat := fun i => ps.length - i
/-- A round of this loop. -/
def Round_sBc (ps : List Pt) : Prop := ∀ xx : Nat, inv_sBc ps xx → (bodyL Try.prog EBn 30 12 noL 1 c_sBc k_sBc 1 (s_sBc ps xx)).ok (RoundEnd 1 (s_sBc ps) (inv_sBc ps) (me_sBc ps) re_sBc (rs_sBc ps) xx) (fun _ _ => False)
def e_sBc (s : St) (k : Ex → St → Tree) : Option Tree := match Nat.beq s.tmps.length 42, pickL s.tmps [0, 3, 4], s.mem with
  | true, [.slice (some ⟨0, 0, none⟩) n _, .int .i64 a0, .int .i64 i], [some ⟨.view, .ints xs⟩] => some (needs [i = 0, a0 = 0, xs.length = n * 2, allV (ptsA n xs) = true, n ≤ 20] (k (.exit 0) ⟨(topV :: topV :: topV :: .int .i64 (bcA (ptsA n xs) n) :: topV :: topV :: topV :: topV :: topV :: topV :: topV :: topV :: topV :: topV :: topV :: topV :: topV :: topV :: topV :: topV :: topV :: topV :: topV :: topV :: topV :: topV :: topV :: topV :: topV :: topV :: topV :: topV :: topV :: topV :: topV :: topV :: topV :: topV :: topV :: topV :: topV :: topV :: []), [some ⟨.view, .ints xs⟩]⟩))
  | _, _, _ => none
set_option maxRecDepth 100000 in
theorem round_sBc (ps : List Pt) (hv : allV ps = true) (h : ps.length ≤ 20) : Round_sBc ps := by
  intro i h1
  have h1 : i ≤ ps.length := h1
  rw [tr_sBc]
  simp only [brT_ok, Tree.ok, decide_eq_true_eq, decide_eq_false_iff_not, Int.toNat_natCast, Nat.zero_add, Nat.add_zero, flat_length, flat_get0, flat_get1]
  refine ⟨fun hlt => ?_, fun hge => ?_⟩
  · have hi : i < ps.length := by omega
    have hm := nx_lt hi
    rw [nx_mod hi (by omega)]
    simp only [Int.toNat_natCast, Nat.add_zero, flat_get0]
    have hb := bcA_bd hv i (by omega)
    have hb2 := bcT_bd hv hi
    have a1 := allV_gt hv hi
    have a2 := allV_gt hv hm
    unfold bcT nxP at hb2
    rw [wsucc (n := ps.length) hi (by omega)]
    have e1 : ∀ x y : Int, gI (x.natAbs : Int) (y.natAbs : Int) = gI x y := fun x y => by
      unfold gI
      simp [Int.gcd]
    simp (disch := omega) only [wr, e1]
    refine ⟨by omega, by omega, by omega, by unfold big; omega, by unfold big; omega, by unfold big0; omega, by unfold big0; omega, by omega, by omega, by omega, by omega, i + 1, [], ?_, ?_, rfl, by simp only [rs_sBc], ?_⟩
    · show i + 1 ≤ ps.length; omega
    · show ps.length - (i + 1) < ps.length - i; omega
    · repeat' (first | exact True.intro | exact rfl | exact fun _ => rfl | refine And.intro ?_ ?_)
  · obtain rfl : i = ps.length := by omega
    refine ⟨rfl, [], ?_⟩
    simp only [rs_sBc]
    repeat' (first | exact True.intro | exact rfl | exact fun _ => rfl | refine And.intro ?_ ?_)
set_option maxRecDepth 100000 in
theorem lg_sBc : LoopE Try.prog e_sBc c_sBc := by
  intro s k t F H hlt ht
  unfold e_sBc at hlt
  split at hlt
  rotate_left
  · cases hlt
  rename_i hlen hpick hmem
  obtain ⟨tmps, mem⟩ := s
  simp only at hlen hpick hmem
  subst hmem
  obtain rfl := Option.some.inj hlt
  obtain ⟨⟨rfl, rfl, h1, h2, h3, _⟩, ht2⟩ := needs_ok ht
  clear ht hlt
  obtain ⟨ps, rfl, rfl⟩ := even_flat h1
  rw [ptsA_flat] at ht2 h2
  refine ⟨_, _, ht2, loop_run mixed EBn_ok (s_sBc ps) (inv_sBc ps) (me_sBc ps) re_sBc (rs_sBc ps) k_sBc (fun _ => rfl) (noLoops nl_sBc) (round_sBc ps h2 h3) (x := 0) (Nat.zero_le _) (π := []) rfl ?_⟩
  refine ⟨rfl, rfl, ?_, wvs_spread' [0, 3, 4] hlen rfl ?_⟩
  · repeat' (first | exact True.intro | exact rfl | exact wv_top _ _ | exact fun _ => rfl | assumption | exact Eq.symm (by assumption) | exact vI0 rfl | refine And.intro ?_ ?_)
  · rw [hpick]
    repeat' (first | exact True.intro | exact rfl | exact wv_top _ _ | exact fun _ => rfl | assumption | exact Eq.symm (by assumption) | exact vI0 rfl | refine And.intro ?_ ?_)
theorem Lr_sBc {fn : Func} (hf : Try.prog.funcs[62]? = some fn) : LoopsGood Try.prog (lt1 e_sBc) 0 (codeOf fn) := by
  obtain rfl := fn_is Try.func62 hf
  exact lt1_good lg_sBc
def LBc : FuncId → LT := fun f => match f with
  | 62 => lt1 e_sBc
  | _ => noL
def EBc : Env := mkE TBn R4 LBc
theorem EBc_ok : EnvOk Try.prog EBc := mkEOk TBn_ok R4_ok (by
  intro f fn hf
  unfold LBc
  split
  all_goals first | with_reducible exact Lr_sBc hf | exact noL_good)
set_option maxRecDepth 100000 in
theorem tr_sBcF (ps : List Pt) : bodyV Try.prog EBc 30 12 62 [.row ps.length (.ints (flat ps))] = .need ((0 : Int) = (0 : Int)) (.need ((0 : Int) = (0 : Int)) (.need ((flat ps).length = ps.length * (2 : Nat)) (.need (allV (ptsA ps.length (flat ps)) = true) (.need (ps.length ≤ (20 : Nat)) (.fin (.int .i64 (bcA (ptsA ps.length (flat ps)) ps.length)) []))))) := by kernel_rfl
theorem res_sBc {ps : List Pt} (hv : allV ps = true) (h : ps.length ≤ 20) : Res Try.prog 62 [.row ps.length (.ints (flat ps))] (iv (bcA ps ps.length)) := by
  refine bodyV_res mixed EBc_ok (m := 30) (n := 12) rfl ?_
  rw [tr_sBcF]
  simp only [ptsA_flat]
  exact ⟨trivial, trivial, flat_length ps, hv, h, rfl⟩
def pBcA : List DArg → Option (Value × List Prop)
  | [.row m (.ints xs)] => some (iv (bcA (ptsA m xs) m), [m * 2 ≤ xs.length, allV (ptsA m xs) = true, m ≤ 20])
  | _ => none
def pV (v : List Pt → Int) : List DArg → Option (Value × List Prop)
  | [.row m (.ints xs)] => some (iv (v (ptsA m xs)), [m * 2 ≤ xs.length, m ≤ 1000000000])
  | _ => none
theorem pV_ok {f : FuncId} {v : List Pt → Int} (H : ∀ ps, Big ps → Res Try.prog f [.row ps.length (.ints (flat ps))] (iv (v ps))) {ds : List DArg} {x : Value} {C : List Prop} (h : pV v ds = some (x, C)) (hC : AllP C) : Res Try.prog f ds x := by
  unfold pV at h
  split at h
  · rename_i m xs
    obtain ⟨rfl, rfl⟩ : _ ∧ _ := by simpa using h
    obtain ⟨_, h2⟩ := ptsA_spec hC.1
    exact res_pts1 (pre := []) (post := []) hC.1 (H (ptsA m xs) (by unfold Big; rw [h2]; exact hC.2.1))
  · cases h
theorem pBcA_ok {ds : List DArg} {v : Value} {C : List Prop} (h : pBcA ds = some (v, C)) (hC : AllP C) : Res Try.prog 62 ds v := by
  unfold pBcA at h
  split at h
  · rename_i m xs
    obtain ⟨rfl, rfl⟩ : _ ∧ _ := by simpa using h
    obtain ⟨_, h2⟩ := ptsA_spec hC.1
    have h7 := res_pts1 (pre := []) (post := []) hC.1 (res_sBc (ps := ptsA m xs) hC.2.1 (by rw [h2]; exact hC.2.2.1))
    rw [h2] at h7
    exact h7
  · cases h
def TBo : Tab := fun f ds => match f with
  | 62 => pBcA ds
  | 29 => pV bcV ds
  | 27 => pV daV ds
  | 26 => pV daV ds
  | f => TBn f ds
theorem TBo_ok : TabOk Try.prog TBo := by
  intro f ds v C h hC
  unfold TBo at h
  split at h
  all_goals first | with_reducible exact pBcA_ok h hC | with_reducible exact pV_ok res_iBc h hC | with_reducible exact pV_ok res_iDa h hC | with_reducible exact pV_ok res_sDaS h hC | exact TBn_ok _ _ _ _ h hC
def EBo : Env := mkE TBo R4 (fun _ => noL)
theorem EBo_ok : EnvOk Try.prog EBo := mkEOk TBo_ok R4_ok (fun _ _ _ => noL_good)
set_option maxRecDepth 100000 in
theorem tr_sBcS (ps : List Pt) : bodyV Try.prog EBo 30 12 28 [.row ps.length (.ints (flat ps))] = .need (ps.length * (2 : Nat) ≤ (List.drop (0 : Nat) (flat ps)).length) (.need (ps.length ≤ (1000000000 : Nat)) (brT (!issI (ptsA ps.length (List.drop 0 (flat ps)))) (.fin (.int .i64 (-1)) []) (.need (ps.length * (2 : Nat) ≤ (List.drop (0 : Nat) (flat ps)).length) (.need (allV (ptsA ps.length (List.drop (0 : Nat) (flat ps))) = true) (.need (ps.length ≤ (20 : Nat)) (.fin (.int .i64 (bcA (ptsA ps.length (List.drop 0 (flat ps))) ps.length)) [])))))) := by kernel_rfl
set_option maxRecDepth 100000 in
theorem tr_sIc (ps : List Pt) : bodyV Try.prog EBo 30 12 30 [.row ps.length (.ints (flat ps))] = .need (ps.length * (2 : Nat) ≤ (List.drop (0 : Nat) (flat ps)).length) (.need (ps.length ≤ (1000000000 : Nat)) (brT (!issI (ptsA ps.length (List.drop 0 (flat ps)))) (.fin (.int .i64 (-1)) []) (.need (ps.length * (2 : Nat) ≤ (List.drop (0 : Nat) (flat ps)).length) (.need (allV (ptsA ps.length (List.drop (0 : Nat) (flat ps))) = true) (.need (ps.length ≤ (20 : Nat)) (.need (big (sgA (ptsA ps.length (List.drop (0 : Nat) (flat ps))) ps.length)) (.need (ps.length * (2 : Nat) ≤ (List.drop (0 : Nat) (flat ps)).length) (.need (allV (ptsA ps.length (List.drop (0 : Nat) (flat ps))) = true) (.need (ps.length ≤ (20 : Nat)) (.need (¬(2 : Int) = (0 : Int)) (.fin (.int .i64 (IntKind.i64.wrap ((IntKind.i64.wrap (IntKind.i64.wrap ((↑(sgA (ptsA ps.length (List.drop 0 (flat ps))) ps.length).natAbs : Int) - bcA (ptsA ps.length (List.drop 0 (flat ps))) ps.length) + 2)).tdiv 2))) []))))))))))) := by kernel_rfl
set_option maxRecDepth 100000 in
theorem tr_iIc (ps : List Pt) : bodyV Try.prog EBo 30 12 31 [.row ps.length (.ints (flat ps))] = .need (ps.length * (2 : Nat) ≤ (List.drop (0 : Nat) (flat ps)).length) (.need (ps.length ≤ (1000000000 : Nat)) (brT (!issI (ptsA ps.length (List.drop 0 (flat ps)))) (.fin (.int .i64 (-1)) []) (.need (ps.length * (2 : Nat) ≤ (List.drop (0 : Nat) (flat ps)).length) (.need (allV (ptsA ps.length (List.drop (0 : Nat) (flat ps))) = true) (.need (ps.length ≤ (20 : Nat)) (.need (ps.length * (2 : Nat) ≤ (List.drop (0 : Nat) (flat ps)).length) (.need (ps.length ≤ (1000000000 : Nat)) (.need (¬(2 : Int) = (0 : Int)) (.fin (.int .i64 (IntKind.i64.wrap ((IntKind.i64.wrap (IntKind.i64.wrap ((if sgA (ptsA ps.length (List.drop 0 (flat ps))) ps.length < IntKind.i64.wrap (0 - sgA (ptsA ps.length (List.drop 0 (flat ps))) ps.length) then IntKind.i64.wrap (0 - sgA (ptsA ps.length (List.drop 0 (flat ps))) ps.length) else sgA (ptsA ps.length (List.drop 0 (flat ps))) ps.length) - bcV (ptsA ps.length (List.drop 0 (flat ps)))) + 2)).tdiv 2))) []))))))))) := by kernel_rfl
theorem res_sBcS (ps : List Pt) (h : Big ps) : Res Try.prog 28 [.row ps.length (.ints (flat ps))] (iv (bcV ps)) := by
  refine bodyV_res mixed EBo_ok (m := 30) (n := 12) rfl ?_
  rw [tr_sBcS]
  unfold Big at h
  simp only [List.drop_zero, ptsA_flat, flat_length]
  unfold bcV
  rcases hs : issI ps with _ | _
  · simp [brT_ok, Tree.ok, h]
  · obtain ⟨h1, h2, _⟩ := issI_ok hs
    simp [brT_ok, Tree.ok, h, h1, h2]
end Go.Proofs.Ytfbcbmckicmalaa
