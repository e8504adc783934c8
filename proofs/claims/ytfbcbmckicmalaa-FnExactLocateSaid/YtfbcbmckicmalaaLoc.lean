/-
  Where a point lies: both ways, the exact law. Written by an AI agent.
-/
import Derived.Test.YtfbcbmckicmalaaIsb
namespace Go.Proofs.Ytfbcbmckicmalaa
open Go.RowKit

/-- Has an edge a point? -/
def hsE (ps : List Pt) (x y : Int) (j : Nat) : Bool := hasB (ps.getD j (0, 0)).1 (ps.getD j (0, 0)).2 (nxP ps j).1 (nxP ps j).2 x y
/-- Is an edge right of a point? -/
def rtE (ps : List Pt) (x y : Int) (j : Nat) : Bool :=
  !((decide (y < (ps.getD j (0, 0)).2)) == (decide (y < (nxP ps j).2))) && ((decide (y < (nxP ps j).2)) == decide (0 < crossI (ps.getD j (0, 0)).1 (ps.getD j (0, 0)).2 (nxP ps j).1 (nxP ps j).2 x y))
/-- The side after so many edges. -/
def plA (ps : List Pt) (x y : Int) : Nat → Int
  | 0 => -1
  | i + 1 => bif rtE ps x y i then 0 - plA ps x y i else plA ps x y i
theorem plA_one (ps : List Pt) (x y : Int) : ∀ i, plA ps x y i = -1 ∨ plA ps x y i = 1
  | 0 => .inl rfl
  | i + 1 => by
    have := plA_one ps x y i
    simp only [plA]
    cases rtE ps x y i <;> simp <;> omega
def noE (ps : List Pt) (x y : Int) : Bool := allQ (fun j => !(hsE ps x y j)) 0 ps.length
def locA (ps : List Pt) (x y : Int) : Int := bif noE ps x y then plA ps x y ps.length else 0
def ELo : Env := mkE TSm R4 (fun _ => noL)
theorem ELo_ok : EnvOk Try.prog ELo := mkEOk TSm_ok R4_ok (fun _ _ _ => noL_good)
noncomputable def gc_loc : Code := (rangesOf (codeOf Try.f69)).getD 0 .skip
def k_loc : Ex → List Nat := keeps [3, 4, 5, 9] [] [4]
def s_loc (ps : List Pt) (x y : Int) : Nat → St := fun i => ⟨[topV, topV, topV, .pointer (some ⟨2, 0, none⟩), .pointer (some ⟨3, 0, none⟩), .pointer (some ⟨4, 0, none⟩), topV, topV, topV, .func (.func 94) #[] #[.pointer (some ⟨5, 0, none⟩)], topV, topV, topV, topV, topV, topV, topV, topV, topV, topV, topV], [some ⟨.view, .ints (flat ps)⟩, none, some ⟨.box, .vals [.int .i64 x, .int .i64 y]⟩, some ⟨.box, .vals [.int .i64 0]⟩, some ⟨.box, .vals [.int .i64 (plA ps x y i)]⟩, some ⟨.view, .vals [.slice (some ⟨0, 0, none⟩) ps.length ps.length]⟩]⟩
def g_loc (ps : List Pt) (x y : Int) : Nat → Prop := fun i => i ≤ ps.length ∧ ∀ k, k < i → hsE ps x y k = false
def re_loc (ps : List Pt) (x y : Int) : Ex := bif noE ps x y then .normal else .ret
def rs_loc (ps : List Pt) (x y : Int) : St := bif noE ps x y then ⟨[topV, topV, topV, .pointer (some ⟨2, 0, none⟩), .pointer (some ⟨3, 0, none⟩), .pointer (some ⟨4, 0, none⟩), topV, topV, topV, topV, topV, topV, topV, topV, topV, topV, topV, topV, topV, topV, topV], [some ⟨.view, .ints (flat ps)⟩, none, some ⟨.box, .vals [.int .i64 x, .int .i64 y]⟩, some ⟨.box, .vals [.int .i64 0]⟩, some ⟨.box, .vals [.int .i64 (plA ps x y ps.length)]⟩, some ⟨.view, .vals [.slice (some ⟨0, 0, none⟩) ps.length ps.length]⟩]⟩ else ⟨[topV, topV, topV, topV, .pointer (some ⟨3, 0, none⟩), topV, topV, topV, topV, topV, topV, topV, topV, topV, topV, topV, topV, topV, topV, topV, topV], [some ⟨.view, .ints (flat ps)⟩, none, some ⟨.box, .vals [.int .i64 x, .int .i64 y]⟩, some ⟨.box, .vals [.int .i64 0]⟩, some ⟨.dead, .vals []⟩, some ⟨.view, .vals [.slice (some ⟨0, 0, none⟩) ps.length ps.length]⟩]⟩
set_option maxRecDepth 100000 in
theorem tr_loc (ps : List Pt) (x y : Int) (i : Nat) : bodyR Try.prog ELo 30 12 noL noR (asgOf gc_loc) (bodOf gc_loc) ([10, 11].zip (encE ps i)) k_loc 6 (s_loc ps x y i) = .need (ptB (ps.getD i ((0 : Int), (0 : Int))).1 (ps.getD i ((0 : Int), (0 : Int))).2 = true) (.need (ptB (ps.getD ((i + (1 : Nat)) % ps.length) ((0 : Int), (0 : Int))).1 (ps.getD ((i + (1 : Nat)) % ps.length) ((0 : Int), (0 : Int))).2 = true) (.need (ptB x y = true) (brT (hasB (ps.getD i (0, 0)).1 (ps.getD i (0, 0)).2 (ps.getD ((i + 1) % ps.length) (0, 0)).1 (ps.getD ((i + 1) % ps.length) (0, 0)).2 x y) (.leaf .ret ⟨[topV, topV, topV, topV, .pointer (some ⟨3, 0, none⟩), topV, topV, topV, topV, topV, topV, topV, topV, topV, topV, topV, topV, topV, topV, topV, topV], [some ⟨.view, .ints (flat ps)⟩, none, some ⟨.box, .vals [.int .i64 (x), .int .i64 (y)]⟩, some ⟨.box, .vals [.int .i64 (0)]⟩, some ⟨.box, .vals [.int .i64 (plA ps x y i)]⟩, some ⟨.view, .vals [.slice (some ⟨0, 0, none⟩) (ps.length) (ps.length)]⟩]⟩) (brT (!decide (y < (ps.getD i (0, 0)).2) == decide (y < (ps.getD ((i + 1) % ps.length) (0, 0)).2)) (.need (ptB (ps.getD i ((0 : Int), (0 : Int))).1 (ps.getD i ((0 : Int), (0 : Int))).2 = true) (.need (ptB (ps.getD ((i + (1 : Nat)) % ps.length) ((0 : Int), (0 : Int))).1 (ps.getD ((i + (1 : Nat)) % ps.length) ((0 : Int), (0 : Int))).2 = true) (.need (ptB x y = true) (brT (decide (y < (ps.getD ((i + 1) % ps.length) (0, 0)).2) == decide (0 < crossI (ps.getD i (0, 0)).1 (ps.getD i (0, 0)).2 (ps.getD ((i + 1) % ps.length) (0, 0)).1 (ps.getD ((i + 1) % ps.length) (0, 0)).2 x y)) (.leaf .normal ⟨[topV, topV, topV, .pointer (some ⟨2, 0, none⟩), .pointer (some ⟨3, 0, none⟩), .pointer (some ⟨4, 0, none⟩), topV, topV, topV, .func (Fn.func 94) #[] #[.pointer (some ⟨5, 0, none⟩)], topV, topV, topV, topV, topV, topV, topV, topV, topV, topV, topV], [some ⟨.view, .ints (flat ps)⟩, none, some ⟨.box, .vals [.int .i64 (x), .int .i64 (y)]⟩, some ⟨.box, .vals [.int .i64 (0)]⟩, some ⟨.box, .vals [.int .i64 (IntKind.i64.wrap (0 - plA ps x y i))]⟩, some ⟨.view, .vals [.slice (some ⟨0, 0, none⟩) (ps.length) (ps.length)]⟩]⟩) (.leaf .normal ⟨[topV, topV, topV, .pointer (some ⟨2, 0, none⟩), .pointer (some ⟨3, 0, none⟩), .pointer (some ⟨4, 0, none⟩), topV, topV, topV, .func (Fn.func 94) #[] #[.pointer (some ⟨5, 0, none⟩)], topV, topV, topV, topV, topV, topV, topV, topV, topV, topV, topV], [some ⟨.view, .ints (flat ps)⟩, none, some ⟨.box, .vals [.int .i64 (x), .int .i64 (y)]⟩, some ⟨.box, .vals [.int .i64 (0)]⟩, some ⟨.box, .vals [.int .i64 (plA ps x y i)]⟩, some ⟨.view, .vals [.slice (some ⟨0, 0, none⟩) (ps.length) (ps.length)]⟩]⟩))))) (.leaf .normal ⟨[topV, topV, topV, .pointer (some ⟨2, 0, none⟩), .pointer (some ⟨3, 0, none⟩), .pointer (some ⟨4, 0, none⟩), topV, topV, topV, .func (Fn.func 94) #[] #[.pointer (some ⟨5, 0, none⟩)], topV, topV, topV, topV, topV, topV, topV, topV, topV, topV, topV], [some ⟨.view, .ints (flat ps)⟩, none, some ⟨.box, .vals [.int .i64 (x), .int .i64 (y)]⟩, some ⟨.box, .vals [.int .i64 (0)]⟩, some ⟨.box, .vals [.int .i64 (plA ps x y i)]⟩, some ⟨.view, .vals [.slice (some ⟨0, 0, none⟩) (ps.length) (ps.length)]⟩]⟩))))) := by kernel_rfl
/-- A round of this loop. -/
def Round_loc (ps : List Pt) (x y : Int) : Prop := ∀ i : Nat, g_loc ps x y i → i < (ps).length → (bodyR Try.prog ELo 30 12 noL noR (asgOf gc_loc) (bodOf gc_loc) ([10, 11].zip (encE ps i)) k_loc 6 (s_loc ps x y i)).ok (RoundEndR 6 (s_loc ps x y) (g_loc ps x y) (re_loc ps x y) (rs_loc ps x y) i) (fun _ _ => False)
set_option maxRecDepth 100000 in
theorem gcode_loc : gc_loc = .rangeFunc (.tmp 9) ([10, 11] : List Nat).toArray (asgOf gc_loc) (bodOf gc_loc) := by kernel_rfl
def e_loc (s : St) (k : Ex → St → Tree) : Option Tree := match Nat.beq s.tmps.length 21, pickL s.tmps [3, 4, 5, 9], s.mem with
  | true, [.pointer (some ⟨2, 0, none⟩), .pointer (some ⟨3, 0, none⟩), .pointer (some ⟨4, 0, none⟩), .func (.func 94) ⟨[]⟩ ⟨[.pointer (some ⟨5, 0, none⟩)]⟩], [some ⟨.view, .ints xs⟩, none, some ⟨.box, .vals [.int .i64 x, .int .i64 y]⟩, some ⟨.box, .vals [.int .i64 0]⟩, some ⟨.box, .vals [.int .i64 p0]⟩, some ⟨.box, .vals [.slice (some ⟨0, 0, none⟩) n _]⟩] => some (needs [p0 = -1, xs.length = n * 2, allV (ptsA n xs) = true, n ≤ 20, ptB x y = true] (brT (noE (ptsA n xs) x y) (k .normal ⟨[topV, topV, topV, .pointer (some ⟨2, 0, none⟩), .pointer (some ⟨3, 0, none⟩), .pointer (some ⟨4, 0, none⟩), topV, topV, topV, topV, topV, topV, topV, topV, topV, topV, topV, topV, topV, topV, topV], [some ⟨.view, .ints xs⟩, none, some ⟨.box, .vals [.int .i64 x, .int .i64 y]⟩, some ⟨.box, .vals [.int .i64 0]⟩, some ⟨.box, .vals [.int .i64 (plA (ptsA n xs) x y n)]⟩, some ⟨.view, .vals [.slice (some ⟨0, 0, none⟩) n n]⟩]⟩) (k .ret ⟨[topV, topV, topV, topV, .pointer (some ⟨3, 0, none⟩), topV, topV, topV, topV, topV, topV, topV, topV, topV, topV, topV, topV, topV, topV, topV, topV], [some ⟨.view, .ints xs⟩, none, some ⟨.box, .vals [.int .i64 x, .int .i64 y]⟩, some ⟨.box, .vals [.int .i64 0]⟩, some ⟨.dead, .vals []⟩, some ⟨.view, .vals [.slice (some ⟨0, 0, none⟩) n n]⟩]⟩)))
  | _, _, _ => none
theorem loc_all {ps : List Pt} {x y : Int} (h : g_loc ps x y ps.length) : noE ps x y = true := allQ_all _ _ fun k _ h2 => by rw [h.2 k (by omega)]; rfl
set_option maxRecDepth 100000 in
theorem round_loc (ps : List Pt) (x y : Int) (hv : allV ps = true) (h : ps.length ≤ 20) (hp : ptB x y = true) : Round_loc ps x y := by
  rintro i ⟨_, hg⟩ hi
  rw [tr_loc]
  have nxt : hsE ps x y i = false → g_loc ps x y (i + 1) := fun ho => ⟨by omega, fun k hk => by
    rcases Nat.lt_or_ge k i with h1 | h1
    · exact hg k h1
    · obtain rfl : k = i := by omega
      exact ho⟩
  have hm := nx_lt hi
  have w : IntKind.i64.wrap (0 - plA ps x y i) = 0 - plA ps x y i := wr (by have := plA_one ps x y i; omega)
  rw [w]
  refine ⟨pt_get hv hi, pt_get hv hm, hp, brT_ok.2 ⟨fun q => ?_, fun q => ?_⟩⟩
  · have q : hsE ps x y i = true := q
    have hs : noE ps x y = false := allQ_no hi (by show (!(hsE ps x y i)) = false; rw [q]; rfl)
    refine ⟨by unfold re_loc; rw [hs]; rfl, [], ?_⟩
    unfold rs_loc
    rw [hs]
    refine ⟨rfl, rfl, ?_, ?_⟩ <;> repeat' (first | exact True.intro | exact rfl | exact wv_top _ _ | exact fun _ => rfl | refine And.intro ?_ ?_)
  · have q : hsE ps x y i = false := q
    have yes : rtE ps x y i = true → plA ps x y (i + 1) = 0 - plA ps x y i := fun hr => by simp only [plA]; rw [hr]; rfl
    have no : rtE ps x y i = false → plA ps x y (i + 1) = plA ps x y i := fun hr => by simp only [plA]; rw [hr]; rfl
    refine brT_ok.2 ⟨fun q2 => ⟨pt_get hv hi, pt_get hv hm, hp, brT_ok.2 ⟨fun q3 => ?_, fun q3 => ?_⟩⟩, fun q2 => ?_⟩
    · have e := yes (by unfold rtE nxP; rw [q2, q3]; rfl)
      refine ⟨nxt q, [], ?_⟩
      unfold s_loc
      simp only [e]
      refine ⟨rfl, rfl, ?_, ?_⟩ <;> repeat' (first | exact True.intro | exact rfl | exact wv_top _ _ | exact fun _ => rfl | refine And.intro ?_ ?_)
    · have e := no (by unfold rtE nxP; rw [q2, q3]; rfl)
      refine ⟨nxt q, [], ?_⟩
      unfold s_loc
      simp only [e]
      refine ⟨rfl, rfl, ?_, ?_⟩ <;> repeat' (first | exact True.intro | exact rfl | exact wv_top _ _ | exact fun _ => rfl | refine And.intro ?_ ?_)
    · have e := no (by unfold rtE nxP; rw [q2]; rfl)
      refine ⟨nxt q, [], ?_⟩
      unfold s_loc
      simp only [e]
      refine ⟨rfl, rfl, ?_, ?_⟩ <;> repeat' (first | exact True.intro | exact rfl | exact wv_top _ _ | exact fun _ => rfl | refine And.intro ?_ ?_)
set_option maxRecDepth 100000 in
theorem lg_loc : RangeE Try.prog e_loc gc_loc := by
  intro s k t F H hlt ht
  unfold e_loc at hlt
  split at hlt
  rotate_left
  · cases hlt
  rename_i hlen hpick hmem
  obtain ⟨tmps, mem⟩ := s
  simp only at hlen hpick hmem
  subst hmem
  obtain rfl := Option.some.inj hlt
  obtain ⟨⟨rfl, h1, h2, h3, h4, _⟩, ht2⟩ := needs_ok ht
  clear ht hlt
  obtain ⟨ps, rfl, rfl⟩ := even_flat h1
  rw [ptsA_flat] at ht2 h2
  refine ⟨re_loc ps _ _, rs_loc ps _ _, pick2k ht2, ?_⟩
  rw [gcode_loc]
  refine range_det (enc := encE ps) (len := (ps).length) (St_of := s_loc ps _ _) (Good := g_loc ps _ _) (N := 6) (M := 6) (Kn := [0, 5]) (cap := [.pointer (some ⟨5, 0, none⟩)]) (kf := (k_loc .normal)) (π := []) (fun _ => rfl) (fun _ => rfl) (fun i hg hlt => bodyR_ok mixed ELo_ok (noL_good) (noR_good) (round_loc ps _ _ h2 h3 h4 i hg hlt)) (entersB_res (by kernel_rfl)).1 rfl ?_ (fun ρ0 ρ B w lb h1 h2 => ed_iter ps (by omega) (s := (s_loc ps _ _ 0).fs) (nb := 5) (nr := 0) (c := (ps).length) (Kn := [0, 5]) rfl rfl (by decide) (by decide) ρ0 ρ B w lb h1 h2) ?_ rfl (by decide) ?_ ⟨Nat.zero_le _, fun k hk => by omega⟩
  · intro n hn b hb
    simp only [List.mem_cons, List.not_mem_nil, or_false] at hn
    rcases hn with rfl | rfl <;> (obtain rfl := Option.some.inj hb; rfl)
  · intro hg
    have hq := loc_all hg
    refine ⟨by unfold re_loc; rw [hq]; rfl, [], ?_⟩
    unfold rs_loc
    rw [hq]
    refine ⟨rfl, rfl, ?_, ?_⟩ <;> repeat' (first | exact True.intro | exact rfl | exact wv_top _ _ | exact fun _ => rfl | refine And.intro ?_ ?_)
  · refine ⟨rfl, rfl, ?_, wvs_spread' [3, 4, 5, 9] hlen rfl ?_⟩
    · repeat' (first | exact True.intro | exact rfl | exact wv_top _ _ | exact fun _ => rfl | assumption | exact Eq.symm (by assumption) | exact vI0 rfl | refine And.intro ?_ ?_)
    · rw [show pickL (viewS [0, 5] ⟨tmps, _⟩).tmps [3, 4, 5, 9] = pickL tmps [3, 4, 5, 9] from rfl, hpick]
      repeat' (first | exact True.intro | exact rfl | exact wv_top _ _ | exact fun _ => rfl | assumption | exact Eq.symm (by assumption) | exact vI0 rfl | refine And.intro ?_ ?_)
theorem Gr_loc {fn : Func} (hf : Try.prog.funcs[69]? = some fn) : RangesGood Try.prog (rt1 9 e_loc) (codeOf fn) := by
  obtain rfl := fn_is Try.func69 hf
  exact rt1_good (by kernel_rfl) lg_loc
def GLo : FuncId → RT := fun f => match f with
  | 69 => rt1 9 e_loc
  | _ => noR
def ELg : Env := withG ELo GLo
theorem ELg_ok : EnvOk Try.prog ELg := withG_ok ELo_ok (by
  intro f fn hf
  unfold GLo
  split
  all_goals first | with_reducible exact Gr_loc hf | exact noR_good)
set_option maxRecDepth 100000 in
theorem tr_iLoc (ps : List Pt) (x y : Int) : bodyV Try.prog ELg 30 12 69 [.row ps.length (.ints (flat ps)), .v (.agg #[iv x, iv y])] = .need ((-1 : Int) = (-1 : Int)) (.need ((flat ps).length = ps.length * (2 : Nat)) (.need (allV (ptsA ps.length (flat ps)) = true) (.need (ps.length ≤ (20 : Nat)) (.need (ptB x y = true) (brT (noE (ptsA ps.length (flat ps)) x y) (.fin (.int .i64 (plA (ptsA ps.length (flat ps)) x y ps.length)) []) (.fin (.int .i64 (0)) [])))))) := by kernel_rfl
theorem res_iLoc {ps : List Pt} {x y : Int} (hv : allV ps = true) (h : ps.length ≤ 20) (hp : ptB x y = true) : Res Try.prog 69 [.row ps.length (.ints (flat ps)), .v (.agg #[iv x, iv y])] (iv (locA ps x y)) := by
  refine bodyV_res mixed ELg_ok (m := 30) (n := 12) rfl ?_
  rw [tr_iLoc]
  simp only [ptsA_flat]
  unfold locA
  rcases hn : noE ps x y with _ | _
  all_goals exact ⟨trivial, flat_length ps, hv, h, hp, rfl⟩
/-- Is an edge right of a point, as the model tests it? -/
def rtS (ps : List Pt) (x y : Int) (j : Nat) : Bool :=
  bif decide ((nxP ps j).2 < (ps.getD j (0, 0)).2) then decide ((nxP ps j).2 ≤ y) && decide (y < (ps.getD j (0, 0)).2) && decide (0 < crossI (nxP ps j).1 (nxP ps j).2 (ps.getD j (0, 0)).1 (ps.getD j (0, 0)).2 x y)
  else decide ((ps.getD j (0, 0)).2 ≤ y) && decide (y < (nxP ps j).2) && decide (0 < crossI (ps.getD j (0, 0)).1 (ps.getD j (0, 0)).2 (nxP ps j).1 (nxP ps j).2 x y)
def insA (ps : List Pt) (x y : Int) : Nat → Bool
  | 0 => false
  | i + 1 => bif rtS ps x y i then !(insA ps x y i) else insA ps x y i
/-- On the line of a segment and between its ends in height: on the segment. -/
theorem has_of {a b c d x y : Int} (h0 : crossI a b c d x y = 0) (h1 : d ≤ y) (h2 : y < b) : hasB a b c d x y = true := by
  unfold hasB
  have e : (a - x) * (d - y) - (b - y) * (c - x) = crossI a b c d x y := by unfold crossI; grind
  rw [e, h0]
  simp only [Bool.and_eq_true, beq_self_eq_true, decide_eq_true_eq, true_and]
  have hu : 0 < b - y := by omega
  have hw : d - y ≤ 0 := by omega
  generalize b - y = u at *
  generalize d - y = w at *
  have e2 : (a - x) * w = u * (c - x) := by rw [h0] at e; omega
  generalize a - x = s at *
  generalize c - x = t at *
  have p1 : u * w ≤ 0 := Int.mul_nonpos_of_nonneg_of_nonpos (by omega) hw
  have p2 : s * t ≤ 0 := by
    have k1 : u * (s * t) = (s * s) * w := by
      have : u * (s * t) = s * (u * t) := by grind
      rw [this, ← e2]
      grind
    have k2 : (s * s) * w ≤ 0 := Int.mul_nonpos_of_nonneg_of_nonpos (by rcases Int.le_total 0 s with h | h; exact Int.mul_nonneg h h; exact Int.mul_nonneg_of_nonpos_of_nonpos h h) hw
    by_cases h : 0 < s * t
    · have := Int.mul_pos hu h
      omega
    · omega
  omega
theorem rt_same {ps : List Pt} {x y : Int} {j : Nat} (h : hsE ps x y j = false) : rtS ps x y j = rtE ps x y j := by
  unfold rtS rtE
  unfold hsE at h
  generalize nxP ps j = n at *
  generalize ps.getD j (0, 0) = p at *
  obtain ⟨a, b⟩ := p
  obtain ⟨c, d⟩ := n
  simp only at *
  have hc : crossI c d a b x y = -(crossI a b c d x y) := by unfold crossI; grind
  rw [hc]
  have h0 : d ≤ y → y < b → crossI a b c d x y ≠ 0 := fun h1 h2 e => by
    rw [has_of e h1 h2] at h
    cases h
  generalize crossI a b c d x y = z at *
  rcases q1 : decide (d < b) with _ | _
  all_goals
    rw [Bool.eq_iff_iff]
    simp only [cond_true, cond_false, Bool.and_eq_true, decide_eq_true_eq, Bool.not_eq_true', beq_eq_false_iff_ne, ne_eq, beq_iff_eq, decide_eq_decide, decide_eq_true_eq, decide_eq_false_iff_not] at q1 ⊢
    by_cases k1 : d ≤ y <;> by_cases k2 : y < b
    all_goals
      try have := h0 k1 k2
      omega
theorem ins_is {ps : List Pt} {x y : Int} (h : noE ps x y = true) : ∀ i, i ≤ ps.length → plA ps x y i = if insA ps x y i = true then 1 else -1
  | 0, _ => rfl
  | i + 1, hi => by
    have ih := ins_is h i (by omega)
    have hn : hsE ps x y i = false := by
      have := allQ_get _ _ h i (Nat.zero_le _) (by omega)
      simpa using this
    simp only [plA, insA, rt_same hn]
    cases rtE ps x y i
    · simpa using ih
    · simp only [cond_true]
      rw [ih]
      cases insA ps x y i <;> rfl
noncomputable def c_slo : Code := ((loopsOf (codeOf Try.f67))[0]?).getD .skip
def k_slo : Ex → List Nat := keeps [0, 3, 5, 6] [(0, [5])] [4]
def s_slo (ps : List Pt) (x y : Int) : Nat → St := fun i => ⟨(.slice (some ⟨0, 0, none⟩) ps.length ps.length :: topV :: topV :: .pointer (some ⟨2, 0, none⟩) :: topV :: .bool (insA ps x y i) :: .int .i64 i :: topV :: topV :: topV :: topV :: topV :: topV :: topV :: topV :: topV :: topV :: topV :: topV :: topV :: topV :: topV :: topV :: topV :: topV :: topV :: topV :: topV :: topV :: topV :: topV :: topV :: topV :: topV :: topV :: topV :: topV :: topV :: topV :: topV :: topV :: topV :: topV :: topV :: topV :: topV :: topV :: topV :: topV :: topV :: topV :: topV :: topV :: topV :: topV :: topV :: topV :: topV :: []), [some ⟨.view, .ints (flat ps)⟩, none, some ⟨.box, .vals [.int .i64 x, .int .i64 y]⟩]⟩
def re_slo (ps : List Pt) (x y : Int) : Nat → Ex := fun i => bif allQ (fun j => !(hsE ps x y j)) i (ps.length - i) then .exit 0 else .ret
def rs_slo (ps : List Pt) (x y : Int) : Nat → St := fun i => bif allQ (fun j => !(hsE ps x y j)) i (ps.length - i) then ⟨(topV :: topV :: topV :: topV :: topV :: .bool (insA ps x y ps.length) :: topV :: topV :: topV :: topV :: topV :: topV :: topV :: topV :: topV :: topV :: topV :: topV :: topV :: topV :: topV :: topV :: topV :: topV :: topV :: topV :: topV :: topV :: topV :: topV :: topV :: topV :: topV :: topV :: topV :: topV :: topV :: topV :: topV :: topV :: topV :: topV :: topV :: topV :: topV :: topV :: topV :: topV :: topV :: topV :: topV :: topV :: topV :: topV :: topV :: topV :: topV :: topV :: []), [some ⟨.view, .ints (flat ps)⟩, none, some ⟨.box, .vals [.int .i64 x, .int .i64 y]⟩]⟩ else ⟨(topV :: topV :: topV :: topV :: .int .i64 0 :: topV :: topV :: topV :: topV :: topV :: topV :: topV :: topV :: topV :: topV :: topV :: topV :: topV :: topV :: topV :: topV :: topV :: topV :: topV :: topV :: topV :: topV :: topV :: topV :: topV :: topV :: topV :: topV :: topV :: topV :: topV :: topV :: topV :: topV :: topV :: topV :: topV :: topV :: topV :: topV :: topV :: topV :: topV :: topV :: topV :: topV :: topV :: topV :: topV :: topV :: topV :: topV :: topV :: []), [some ⟨.view, .ints (flat ps)⟩, none, some ⟨.box, .vals [.int .i64 x, .int .i64 y]⟩]⟩
set_option maxRecDepth 100000 in
theorem tr_slo (ps : List Pt) (x y : Int) (i : Nat) : bodyL Try.prog ELo 30 12 noL 1 c_slo k_slo 3 (s_slo ps x y i) = brT (decide ((↑i : Int) < (↑ps.length : Int))) (.need ((0 : Int) ≤ (↑i : Int) ∧ (↑i : Int) < (↑ps.length : Int)) (.need ((0 : Nat) + (↑i : Int).toNat * (2 : Nat) + (2 : Nat) ≤ (flat ps).length) (.need (¬(↑ps.length : Int) = (0 : Int)) (.need ((0 : Int) ≤ (IntKind.i64.wrap ((↑i : Int) + (1 : Int))).tmod (↑ps.length : Int) ∧ (IntKind.i64.wrap ((↑i : Int) + (1 : Int))).tmod (↑ps.length : Int) < (↑ps.length : Int)) (.need ((0 : Nat) + ((IntKind.i64.wrap ((↑i : Int) + (1 : Int))).tmod (↑ps.length : Int)).toNat * (2 : Nat) + (2 : Nat) ≤ (flat ps).length) (.need (ptB ((flat ps).getD ((0 : Nat) + (↑i : Int).toNat * (2 : Nat)) (0 : Int)) ((flat ps).getD ((0 : Nat) + (↑i : Int).toNat * (2 : Nat) + (1 : Nat)) (0 : Int)) = true) (.need (ptB ((flat ps).getD ((0 : Nat) + ((IntKind.i64.wrap ((↑i : Int) + (1 : Int))).tmod (↑ps.length : Int)).toNat * (2 : Nat)) (0 : Int)) ((flat ps).getD ((0 : Nat) + ((IntKind.i64.wrap ((↑i : Int) + (1 : Int))).tmod (↑ps.length : Int)).toNat * (2 : Nat) + (1 : Nat)) (0 : Int)) = true) (.need (ptB x y = true) (brT (hasB ((flat ps).getD (0 + (↑i : Int).toNat * 2) 0) ((flat ps).getD (0 + (↑i : Int).toNat * 2 + 1) 0) ((flat ps).getD (0 + ((IntKind.i64.wrap ((↑i : Int) + 1)).tmod (↑ps.length : Int)).toNat * 2) 0) ((flat ps).getD (0 + ((IntKind.i64.wrap ((↑i : Int) + 1)).tmod (↑ps.length : Int)).toNat * 2 + 1) 0) x y) (.leaf .ret ⟨(topV :: topV :: topV :: topV :: .int .i64 (0) :: topV :: topV :: topV :: topV :: topV :: topV :: topV :: topV :: topV :: topV :: topV :: topV :: topV :: topV :: topV :: topV :: topV :: topV :: topV :: topV :: topV :: topV :: topV :: topV :: topV :: topV :: topV :: topV :: topV :: topV :: topV :: topV :: topV :: topV :: topV :: topV :: topV :: topV :: topV :: topV :: topV :: topV :: topV :: topV :: topV :: topV :: topV :: topV :: topV :: topV :: topV :: topV :: topV :: []), [some ⟨.view, .ints (flat ps)⟩, none, some ⟨.box, .vals [.int .i64 (x), .int .i64 (y)]⟩]⟩) (brT (decide ((flat ps).getD (0 + ((IntKind.i64.wrap ((↑i : Int) + 1)).tmod (↑ps.length : Int)).toNat * 2 + 1) 0 < (flat ps).getD (0 + (↑i : Int).toNat * 2 + 1) 0)) (brT (decide ((flat ps).getD (0 + ((IntKind.i64.wrap ((↑i : Int) + 1)).tmod (↑ps.length : Int)).toNat * 2 + 1) 0 ≤ y)) (brT (decide (y < (flat ps).getD (0 + (↑i : Int).toNat * 2 + 1) 0)) (.need (ptB ((flat ps).getD ((0 : Nat) + ((IntKind.i64.wrap ((↑i : Int) + (1 : Int))).tmod (↑ps.length : Int)).toNat * (2 : Nat)) (0 : Int)) ((flat ps).getD ((0 : Nat) + ((IntKind.i64.wrap ((↑i : Int) + (1 : Int))).tmod (↑ps.length : Int)).toNat * (2 : Nat) + (1 : Nat)) (0 : Int)) = true) (.need (ptB ((flat ps).getD ((0 : Nat) + (↑i : Int).toNat * (2 : Nat)) (0 : Int)) ((flat ps).getD ((0 : Nat) + (↑i : Int).toNat * (2 : Nat) + (1 : Nat)) (0 : Int)) = true) (.need (ptB x y = true) (brT (decide (0 < crossI ((flat ps).getD (0 + ((IntKind.i64.wrap ((↑i : Int) + 1)).tmod (↑ps.length : Int)).toNat * 2) 0) ((flat ps).getD (0 + ((IntKind.i64.wrap ((↑i : Int) + 1)).tmod (↑ps.length : Int)).toNat * 2 + 1) 0) ((flat ps).getD (0 + (↑i : Int).toNat * 2) 0) ((flat ps).getD (0 + (↑i : Int).toNat * 2 + 1) 0) x y)) (.leaf .normal ⟨(.slice (some ⟨0, 0, none⟩) (ps.length) (ps.length) :: topV :: topV :: .pointer (some ⟨2, 0, none⟩) :: topV :: .bool (!insA ps x y i) :: .int .i64 (IntKind.i64.wrap ((↑i : Int) + 1)) :: topV :: topV :: topV :: topV :: topV :: topV :: topV :: topV :: topV :: topV :: topV :: topV :: topV :: topV :: topV :: topV :: topV :: topV :: topV :: topV :: topV :: topV :: topV :: topV :: topV :: topV :: topV :: topV :: topV :: topV :: topV :: topV :: topV :: topV :: topV :: topV :: topV :: topV :: topV :: topV :: topV :: topV :: topV :: topV :: topV :: topV :: topV :: topV :: topV :: topV :: topV :: []), [some ⟨.view, .ints (flat ps)⟩, none, some ⟨.box, .vals [.int .i64 (x), .int .i64 (y)]⟩]⟩) (.leaf .normal ⟨(.slice (some ⟨0, 0, none⟩) (ps.length) (ps.length) :: topV :: topV :: .pointer (some ⟨2, 0, none⟩) :: topV :: .bool (insA ps x y i) :: .int .i64 (IntKind.i64.wrap ((↑i : Int) + 1)) :: topV :: topV :: topV :: topV :: topV :: topV :: topV :: topV :: topV :: topV :: topV :: topV :: topV :: topV :: topV :: topV :: topV :: topV :: topV :: topV :: topV :: topV :: topV :: topV :: topV :: topV :: topV :: topV :: topV :: topV :: topV :: topV :: topV :: topV :: topV :: topV :: topV :: topV :: topV :: topV :: topV :: topV :: topV :: topV :: topV :: topV :: topV :: topV :: topV :: topV :: topV :: []), [some ⟨.view, .ints (flat ps)⟩, none, some ⟨.box, .vals [.int .i64 (x), .int .i64 (y)]⟩]⟩))))) (.leaf .normal ⟨(.slice (some ⟨0, 0, none⟩) (ps.length) (ps.length) :: topV :: topV :: .pointer (some ⟨2, 0, none⟩) :: topV :: .bool (insA ps x y i) :: .int .i64 (IntKind.i64.wrap ((↑i : Int) + 1)) :: topV :: topV :: topV :: topV :: topV :: topV :: topV :: topV :: topV :: topV :: topV :: topV :: topV :: topV :: topV :: topV :: topV :: topV :: topV :: topV :: topV :: topV :: topV :: topV :: topV :: topV :: topV :: topV :: topV :: topV :: topV :: topV :: topV :: topV :: topV :: topV :: topV :: topV :: topV :: topV :: topV :: topV :: topV :: topV :: topV :: topV :: topV :: topV :: topV :: topV :: topV :: []), [some ⟨.view, .ints (flat ps)⟩, none, some ⟨.box, .vals [.int .i64 (x), .int .i64 (y)]⟩]⟩)) (.leaf .normal ⟨(.slice (some ⟨0, 0, none⟩) (ps.length) (ps.length) :: topV :: topV :: .pointer (some ⟨2, 0, none⟩) :: topV :: .bool (insA ps x y i) :: .int .i64 (IntKind.i64.wrap ((↑i : Int) + 1)) :: topV :: topV :: topV :: topV :: topV :: topV :: topV :: topV :: topV :: topV :: topV :: topV :: topV :: topV :: topV :: topV :: topV :: topV :: topV :: topV :: topV :: topV :: topV :: topV :: topV :: topV :: topV :: topV :: topV :: topV :: topV :: topV :: topV :: topV :: topV :: topV :: topV :: topV :: topV :: topV :: topV :: topV :: topV :: topV :: topV :: topV :: topV :: topV :: topV :: topV :: topV :: []), [some ⟨.view, .ints (flat ps)⟩, none, some ⟨.box, .vals [.int .i64 (x), .int .i64 (y)]⟩]⟩)) (brT (decide ((flat ps).getD (0 + (↑i : Int).toNat * 2 + 1) 0 ≤ y)) (brT (decide (y < (flat ps).getD (0 + ((IntKind.i64.wrap ((↑i : Int) + 1)).tmod (↑ps.length : Int)).toNat * 2 + 1) 0)) (.need (ptB ((flat ps).getD ((0 : Nat) + (↑i : Int).toNat * (2 : Nat)) (0 : Int)) ((flat ps).getD ((0 : Nat) + (↑i : Int).toNat * (2 : Nat) + (1 : Nat)) (0 : Int)) = true) (.need (ptB ((flat ps).getD ((0 : Nat) + ((IntKind.i64.wrap ((↑i : Int) + (1 : Int))).tmod (↑ps.length : Int)).toNat * (2 : Nat)) (0 : Int)) ((flat ps).getD ((0 : Nat) + ((IntKind.i64.wrap ((↑i : Int) + (1 : Int))).tmod (↑ps.length : Int)).toNat * (2 : Nat) + (1 : Nat)) (0 : Int)) = true) (.need (ptB x y = true) (brT (decide (0 < crossI ((flat ps).getD (0 + (↑i : Int).toNat * 2) 0) ((flat ps).getD (0 + (↑i : Int).toNat * 2 + 1) 0) ((flat ps).getD (0 + ((IntKind.i64.wrap ((↑i : Int) + 1)).tmod (↑ps.length : Int)).toNat * 2) 0) ((flat ps).getD (0 + ((IntKind.i64.wrap ((↑i : Int) + 1)).tmod (↑ps.length : Int)).toNat * 2 + 1) 0) x y)) (.leaf .normal ⟨(.slice (some ⟨0, 0, none⟩) (ps.length) (ps.length) :: topV :: topV :: .pointer (some ⟨2, 0, none⟩) :: topV :: .bool (!insA ps x y i) :: .int .i64 (IntKind.i64.wrap ((↑i : Int) + 1)) :: topV :: topV :: topV :: topV :: topV :: topV :: topV :: topV :: topV :: topV :: topV :: topV :: topV :: topV :: topV :: topV :: topV :: topV :: topV :: topV :: topV :: topV :: topV :: topV :: topV :: topV :: topV :: topV :: topV :: topV :: topV :: topV :: topV :: topV :: topV :: topV :: topV :: topV :: topV :: topV :: topV :: topV :: topV :: topV :: topV :: topV :: topV :: topV :: topV :: topV :: topV :: []), [some ⟨.view, .ints (flat ps)⟩, none, some ⟨.box, .vals [.int .i64 (x), .int .i64 (y)]⟩]⟩) (.leaf .normal ⟨(.slice (some ⟨0, 0, none⟩) (ps.length) (ps.length) :: topV :: topV :: .pointer (some ⟨2, 0, none⟩) :: topV :: .bool (insA ps x y i) :: .int .i64 (IntKind.i64.wrap ((↑i : Int) + 1)) :: topV :: topV :: topV :: topV :: topV :: topV :: topV :: topV :: topV :: topV :: topV :: topV :: topV :: topV :: topV :: topV :: topV :: topV :: topV :: topV :: topV :: topV :: topV :: topV :: topV :: topV :: topV :: topV :: topV :: topV :: topV :: topV :: topV :: topV :: topV :: topV :: topV :: topV :: topV :: topV :: topV :: topV :: topV :: topV :: topV :: topV :: topV :: topV :: topV :: topV :: topV :: []), [some ⟨.view, .ints (flat ps)⟩, none, some ⟨.box, .vals [.int .i64 (x), .int .i64 (y)]⟩]⟩))))) (.leaf .normal ⟨(.slice (some ⟨0, 0, none⟩) (ps.length) (ps.length) :: topV :: topV :: .pointer (some ⟨2, 0, none⟩) :: topV :: .bool (insA ps x y i) :: .int .i64 (IntKind.i64.wrap ((↑i : Int) + 1)) :: topV :: topV :: topV :: topV :: topV :: topV :: topV :: topV :: topV :: topV :: topV :: topV :: topV :: topV :: topV :: topV :: topV :: topV :: topV :: topV :: topV :: topV :: topV :: topV :: topV :: topV :: topV :: topV :: topV :: topV :: topV :: topV :: topV :: topV :: topV :: topV :: topV :: topV :: topV :: topV :: topV :: topV :: topV :: topV :: topV :: topV :: topV :: topV :: topV :: topV :: topV :: []), [some ⟨.view, .ints (flat ps)⟩, none, some ⟨.box, .vals [.int .i64 (x), .int .i64 (y)]⟩]⟩)) (.leaf .normal ⟨(.slice (some ⟨0, 0, none⟩) (ps.length) (ps.length) :: topV :: topV :: .pointer (some ⟨2, 0, none⟩) :: topV :: .bool (insA ps x y i) :: .int .i64 (IntKind.i64.wrap ((↑i : Int) + 1)) :: topV :: topV :: topV :: topV :: topV :: topV :: topV :: topV :: topV :: topV :: topV :: topV :: topV :: topV :: topV :: topV :: topV :: topV :: topV :: topV :: topV :: topV :: topV :: topV :: topV :: topV :: topV :: topV :: topV :: topV :: topV :: topV :: topV :: topV :: topV :: topV :: topV :: topV :: topV :: topV :: topV :: topV :: topV :: topV :: topV :: topV :: topV :: topV :: topV :: topV :: topV :: []), [some ⟨.view, .ints (flat ps)⟩, none, some ⟨.box, .vals [.int .i64 (x), .int .i64 (y)]⟩]⟩)))))))))))) (.leaf (.exit 0) ⟨(topV :: topV :: topV :: topV :: topV :: .bool (insA ps x y i) :: topV :: topV :: topV :: topV :: topV :: topV :: topV :: topV :: topV :: topV :: topV :: topV :: topV :: topV :: topV :: topV :: topV :: topV :: topV :: topV :: topV :: topV :: topV :: topV :: topV :: topV :: topV :: topV :: topV :: topV :: topV :: topV :: topV :: topV :: topV :: topV :: topV :: topV :: topV :: topV :: topV :: topV :: topV :: topV :: topV :: topV :: topV :: topV :: topV :: topV :: topV :: topV :: []), [some ⟨.view, .ints (flat ps)⟩, none, some ⟨.box, .vals [.int .i64 (x), .int .i64 (y)]⟩]⟩) := by kernel_rfl
set_option maxRecDepth 100000 in
theorem nl_slo : loopsOf c_slo = [] := by kernel_rfl
def inv_slo (ps : List Pt) (x y : Int) : Nat → Prop := fun i => i ≤ ps.length
def me_slo (ps : List Pt) (x y : Int) : Nat → Nat := fun i => ps.length - i
/-- A round of this loop. -/
def Round_slo (ps : List Pt) (x y : Int) : Prop := ∀ xx : Nat, inv_slo ps x y xx → (bodyL Try.prog ELo 30 12 noL 1 c_slo k_slo 3 (s_slo ps x y xx)).ok (RoundEnd 3 (s_slo ps x y) (inv_slo ps x y) (me_slo ps x y) (re_slo ps x y) (rs_slo ps x y) xx) (fun _ _ => False)
def e_slo (s : St) (k : Ex → St → Tree) : Option Tree := match Nat.beq s.tmps.length 58, pickL s.tmps [0, 3, 5, 6], s.mem with
  | true, [.slice (some ⟨0, 0, none⟩) n _, .pointer (some ⟨2, 0, none⟩), .bool false, .int .i64 i], [some ⟨.view, .ints xs⟩, none, some ⟨.box, .vals [.int .i64 x, .int .i64 y]⟩] => some (needs [i = 0, xs.length = n * 2, allV (ptsA n xs) = true, n ≤ 20, ptB x y = true] (brT (noE (ptsA n xs) x y) (k (.exit 0) ⟨(topV :: topV :: topV :: topV :: topV :: .bool (insA (ptsA n xs) x y n) :: topV :: topV :: topV :: topV :: topV :: topV :: topV :: topV :: topV :: topV :: topV :: topV :: topV :: topV :: topV :: topV :: topV :: topV :: topV :: topV :: topV :: topV :: topV :: topV :: topV :: topV :: topV :: topV :: topV :: topV :: topV :: topV :: topV :: topV :: topV :: topV :: topV :: topV :: topV :: topV :: topV :: topV :: topV :: topV :: topV :: topV :: topV :: topV :: topV :: topV :: topV :: topV :: []), [some ⟨.view, .ints xs⟩, none, some ⟨.box, .vals [.int .i64 x, .int .i64 y]⟩]⟩) (k .ret ⟨(topV :: topV :: topV :: topV :: .int .i64 0 :: topV :: topV :: topV :: topV :: topV :: topV :: topV :: topV :: topV :: topV :: topV :: topV :: topV :: topV :: topV :: topV :: topV :: topV :: topV :: topV :: topV :: topV :: topV :: topV :: topV :: topV :: topV :: topV :: topV :: topV :: topV :: topV :: topV :: topV :: topV :: topV :: topV :: topV :: topV :: topV :: topV :: topV :: topV :: topV :: topV :: topV :: topV :: topV :: topV :: topV :: topV :: topV :: topV :: []), [some ⟨.view, .ints xs⟩, none, some ⟨.box, .vals [.int .i64 x, .int .i64 y]⟩]⟩)))
  | _, _, _ => none
set_option maxRecDepth 100000 in
theorem round_slo (ps : List Pt) (x y : Int) (hv : allV ps = true) (h : ps.length ≤ 20) (hp : ptB x y = true) : Round_slo ps x y := by
  intro i h1
  have h1 : i ≤ ps.length := h1
  rw [tr_slo]
  simp only [Int.toNat_natCast, Nat.zero_add, flat_length, flat_get0, flat_get1]
  refine brT_ok.2 ⟨fun hlt => ?_, fun hge => ?_⟩
  · have hlt := of_decide_eq_true hlt
    have hi : i < ps.length := by omega
    have hm := nx_lt hi
    simp only [nx_mod hi (by omega), Int.toNat_natCast, flat_get0, flat_get1]
    simp only [wsucc (n := ps.length) hi (by omega)]
    have step : allQ (fun j => !(hsE ps x y j)) i (ps.length - i) = (!(hsE ps x y i) && allQ (fun j => !(hsE ps x y j)) (i + 1) (ps.length - (i + 1))) := allQ_step (by omega)
    refine ⟨by omega, by omega, by omega, by omega, by omega, pt_get hv hi, pt_get hv hm, hp, brT_ok.2 ⟨fun q => ?_, fun q => ?_⟩⟩
    · have q : hsE ps x y i = true := q
      have e : allQ (fun j => !(hsE ps x y j)) i (ps.length - i) = false := by rw [step, q]; rfl
      refine ⟨by simp only [re_slo, e, cond_false], [], ?_⟩
      simp only [rs_slo, e, cond_false]
      refine ⟨rfl, rfl, ?_, ?_⟩ <;> repeat' (first | exact True.intro | exact rfl | exact wv_top _ _ | exact fun _ => rfl | refine And.intro ?_ ?_)
    · have q : hsE ps x y i = false := q
      have e0 : allQ (fun j => !(hsE ps x y j)) i (ps.length - i) = allQ (fun j => !(hsE ps x y j)) (i + 1) (ps.length - (i + 1)) := by rw [step, q]; rfl
      have yes : rtS ps x y i = true → insA ps x y (i + 1) = !(insA ps x y i) := fun hr => by simp only [insA]; rw [hr]; rfl
      have no : rtS ps x y i = false → insA ps x y (i + 1) = insA ps x y i := fun hr => by simp only [insA]; rw [hr]; rfl
      have hpi := pt_get hv hi
      have hpm := pt_get hv hm
      repeat' (first | refine brT_ok.2 ⟨fun _ => ?_, fun _ => ?_⟩ | refine And.intro hpm ?_ | refine And.intro hpi ?_ | refine And.intro hp ?_ | fail)
      all_goals first
        | (have e := yes (by unfold rtS nxP; simp only [*]; rfl)
           refine ⟨i + 1, [], ?_, ?_, by simp only [re_slo, e0], by simp only [rs_slo, e0], ?_⟩
           · show i + 1 ≤ ps.length; omega
           · show ps.length - (i + 1) < ps.length - i; omega
           · unfold s_slo
             simp only [e]
             refine ⟨rfl, rfl, ?_, ?_⟩ <;> repeat' (first | exact True.intro | exact rfl | exact wv_top _ _ | exact fun _ => rfl | refine And.intro ?_ ?_))
        | (have e := no (by unfold rtS nxP; simp only [*]; rfl)
           refine ⟨i + 1, [], ?_, ?_, by simp only [re_slo, e0], by simp only [rs_slo, e0], ?_⟩
           · show i + 1 ≤ ps.length; omega
           · show ps.length - (i + 1) < ps.length - i; omega
           · unfold s_slo
             simp only [e]
             refine ⟨rfl, rfl, ?_, ?_⟩ <;> repeat' (first | exact True.intro | exact rfl | exact wv_top _ _ | exact fun _ => rfl | refine And.intro ?_ ?_))
  · have hge := of_decide_eq_false hge
    obtain rfl : i = ps.length := by omega
    have e : allQ (fun j => !(hsE ps x y j)) ps.length (ps.length - ps.length) = true := allQ_end (by omega)
    refine ⟨by simp only [re_slo, e, cond_true], [], ?_⟩
    simp only [rs_slo, e, cond_true]
    refine ⟨rfl, rfl, ?_, ?_⟩ <;> repeat' (first | exact True.intro | exact rfl | exact wv_top _ _ | exact fun _ => rfl | refine And.intro ?_ ?_)
set_option maxRecDepth 100000 in
theorem lg_slo : LoopE Try.prog e_slo c_slo := by
  intro s k t F H hlt ht
  unfold e_slo at hlt
  split at hlt
  rotate_left
  · cases hlt
  rename_i hlen hpick hmem
  obtain ⟨tmps, mem⟩ := s
  simp only at hlen hpick hmem
  subst hmem
  obtain rfl := Option.some.inj hlt
  obtain ⟨⟨rfl, h1, h2, h3, h4, _⟩, ht2⟩ := needs_ok ht
  clear ht hlt
  obtain ⟨ps, rfl, rfl⟩ := even_flat h1
  rw [ptsA_flat] at ht2 h2
  refine ⟨_, _, pick2k ht2, loop_run mixed ELo_ok (s_slo ps _ _) (inv_slo ps _ _) (me_slo ps _ _) (re_slo ps _ _) (rs_slo ps _ _) k_slo (fun _ => rfl) (noLoops nl_slo) (round_slo ps _ _ h2 h3 h4) (x := 0) (Nat.zero_le _) (π := []) rfl ?_⟩
  refine ⟨rfl, rfl, ?_, wvs_spread' [0, 3, 5, 6] hlen rfl ?_⟩
  · repeat' (first | exact True.intro | exact rfl | exact wv_top _ _ | exact fun _ => rfl | assumption | exact Eq.symm (by assumption) | exact vI0 rfl | refine And.intro ?_ ?_)
  · rw [hpick]
    repeat' (first | exact True.intro | exact rfl | exact wv_top _ _ | exact fun _ => rfl | assumption | exact Eq.symm (by assumption) | exact vI0 rfl | refine And.intro ?_ ?_)
theorem Lr_slo {fn : Func} (hf : Try.prog.funcs[67]? = some fn) : LoopsGood Try.prog (lt1 e_slo) 0 (codeOf fn) := by
  obtain rfl := fn_is Try.func67 hf
  exact lt1_good lg_slo
def LLo : FuncId → LT := fun f => match f with
  | 67 => lt1 e_slo
  | _ => noL
def ELs : Env := mkE TSm R4 LLo
theorem ELs_ok : EnvOk Try.prog ELs := mkEOk TSm_ok R4_ok (by
  intro f fn hf
  unfold LLo
  split
  all_goals first | with_reducible exact Lr_slo hf | exact noL_good)
set_option maxRecDepth 100000 in
theorem tr_sLoc (ps : List Pt) (x y : Int) : bodyV Try.prog ELs 30 12 67 [.row ps.length (.ints (flat ps)), .v (.agg #[iv x, iv y])] = .need ((0 : Int) = (0 : Int)) (.need ((flat ps).length = ps.length * (2 : Nat)) (.need (allV (ptsA ps.length (flat ps)) = true) (.need (ps.length ≤ (20 : Nat)) (.need (ptB x y = true) (brT (noE (ptsA ps.length (flat ps)) x y) (brT (insA (ptsA ps.length (flat ps)) x y ps.length) (.fin (.int .i64 (1)) []) (.fin (.int .i64 (-1)) [])) (.fin (.int .i64 (0)) [])))))) := by kernel_rfl
theorem res_sLoc {ps : List Pt} {x y : Int} (hv : allV ps = true) (h : ps.length ≤ 20) (hp : ptB x y = true) : Res Try.prog 67 [.row ps.length (.ints (flat ps)), .v (.agg #[iv x, iv y])] (iv (locA ps x y)) := by
  refine bodyV_res mixed ELs_ok (m := 30) (n := 12) rfl ?_
  rw [tr_sLoc]
  simp only [ptsA_flat]
  unfold locA
  rcases hn : noE ps x y with _ | _
  · exact ⟨trivial, flat_length ps, hv, h, hp, rfl⟩
  · rw [ins_is hn _ (Nat.le_refl _)]
    rcases hi : insA ps x y ps.length with _ | _
    all_goals exact ⟨trivial, flat_length ps, hv, h, hp, rfl⟩
def pLcA : List DArg → Option (Value × List Prop)
  | [.row m (.ints xs), .v (.agg ⟨[.int .i64 x, .int .i64 y]⟩)] => some (iv (locA (ptsA m xs) x y), [m * 2 ≤ xs.length, allV (ptsA m xs) = true, m ≤ 20, ptB x y = true])
  | _ => none
theorem pLcA_ok {f : FuncId} (H : ∀ {ps : List Pt} {x y : Int}, allV ps = true → ps.length ≤ 20 → ptB x y = true → Res Try.prog f [.row ps.length (.ints (flat ps)), .v (.agg #[iv x, iv y])] (iv (locA ps x y))) {ds : List DArg} {v : Value} {C : List Prop} (h : pLcA ds = some (v, C)) (hC : AllP C) : Res Try.prog f ds v := by
  unfold pLcA at h
  split at h
  · rename_i m xs x y
    obtain ⟨rfl, rfl⟩ : _ ∧ _ := by simpa using h
    obtain ⟨_, h2⟩ := ptsA_spec hC.1
    exact res_pts1 (pre := []) (post := [_]) hC.1 (H (ps := ptsA m xs) hC.2.1 (by rw [h2]; exact hC.2.2.1) hC.2.2.2.1)
  · cases h
def TLc : Tab := fun f ds => match f with
  | 69 => pLcA ds
  | 67 => pLcA ds
  | f => TSm f ds
theorem TLc_ok : TabOk Try.prog TLc := by
  intro f ds v C h hC
  unfold TLc at h
  split at h
  all_goals first | with_reducible exact pLcA_ok res_iLoc h hC | with_reducible exact pLcA_ok res_sLoc h hC | exact TSm_ok _ _ _ _ h hC
def ELc : Env := mkE TLc R4 (fun _ => noL)
theorem ELc_ok : EnvOk Try.prog ELc := mkEOk TLc_ok R4_ok (fun _ _ _ => noL_good)
/-- What Locate answers. -/
def locV (ps : List Pt) (x y : Int) : Int := bif issI ps && ptB x y then locA ps x y else 2
set_option maxRecDepth 100000 in
theorem tr_iLcV (ps : List Pt) (x y : Int) : bodyV Try.prog ELc 30 12 34 [.row ps.length (.ints (flat ps)), .v (.agg #[iv x, iv y])] = .need (ps.length * (2 : Nat) ≤ (List.drop (0 : Nat) (flat ps)).length) (.need (ps.length ≤ (1000000000 : Nat)) (brT (!issI (ptsA ps.length (List.drop 0 (flat ps)))) (.fin (.int .i64 (2)) []) (brT (!ptB x y) (.fin (.int .i64 (2)) []) (.need (ps.length * (2 : Nat) ≤ (List.drop (0 : Nat) (flat ps)).length) (.need (allV (ptsA ps.length (List.drop (0 : Nat) (flat ps))) = true) (.need (ps.length ≤ (20 : Nat)) (.need (ptB x y = true) (.fin (.int .i64 (locA (ptsA ps.length (List.drop 0 (flat ps))) x y)) [])))))))) := by kernel_rfl
set_option maxRecDepth 100000 in
theorem tr_sLcV (ps : List Pt) (x y : Int) : bodyV Try.prog ELc 30 12 32 [.row ps.length (.ints (flat ps)), .v (.agg #[iv x, iv y])] = .need (ps.length * (2 : Nat) ≤ (List.drop (0 : Nat) (flat ps)).length) (.need (ps.length ≤ (1000000000 : Nat)) (brT (!issI (ptsA ps.length (List.drop 0 (flat ps)))) (.fin (.int .i64 (2)) []) (brT (!ptB x y) (.fin (.int .i64 (2)) []) (.need (ps.length * (2 : Nat) ≤ (List.drop (0 : Nat) (flat ps)).length) (.need (allV (ptsA ps.length (List.drop (0 : Nat) (flat ps))) = true) (.need (ps.length ≤ (20 : Nat)) (.need (ptB x y = true) (.fin (.int .i64 (locA (ptsA ps.length (List.drop 0 (flat ps))) x y)) [])))))))) := by kernel_rfl
theorem issI_ok2 {ps : List Pt} (h : issI ps = true) : allV ps = true ∧ ps.length ≤ 20 := by
  unfold issI okL at h
  simp only [Bool.and_eq_true, decide_eq_true_eq] at h
  exact ⟨h.1.2.1, h.1.2.2⟩
theorem res_iLcV (ps : List Pt) (x y : Int) (h : Big ps) : Res Try.prog 34 [.row ps.length (.ints (flat ps)), .v (.agg #[iv x, iv y])] (iv (locV ps x y)) := by
  refine bodyV_res mixed ELc_ok (m := 30) (n := 12) rfl ?_
  rw [tr_iLcV]
  unfold Big at h
  simp only [List.drop_zero, ptsA_flat, flat_length]
  unfold locV
  rcases hs : issI ps with _ | _
  · simp [brT_ok, Tree.ok, h]
  · obtain ⟨h1, h2⟩ := issI_ok2 hs
    rcases hp : ptB x y with _ | _ <;> simp [brT_ok, Tree.ok, h, h1, h2]
theorem res_sLcV (ps : List Pt) (x y : Int) (h : Big ps) : Res Try.prog 32 [.row ps.length (.ints (flat ps)), .v (.agg #[iv x, iv y])] (iv (locV ps x y)) := by
  refine bodyV_res mixed ELc_ok (m := 30) (n := 12) rfl ?_
  rw [tr_sLcV]
  unfold Big at h
  simp only [List.drop_zero, ptsA_flat, flat_length]
  unfold locV
  rcases hs : issI ps with _ | _
  · simp [brT_ok, Tree.ok, h]
  · obtain ⟨h1, h2⟩ := issI_ok2 hs
    rcases hp : ptB x y with _ | _ <;> simp [brT_ok, Tree.ok, h, h1, h2]
def pPz (g : List Pt → Int → Int → Int) : List DArg → Option (Value × List Prop)
  | [.row m (.ints xs), .v (.agg ⟨[.int .i64 x, .int .i64 y]⟩)] => some (iv (g (ptsA m xs) x y), [m * 2 ≤ xs.length, m ≤ 1000000000])
  | _ => none
theorem pPz_ok {f : FuncId} {g : List Pt → Int → Int → Int} (h : ∀ (ps : List Pt) (x y : Int), Big ps → Res Try.prog f [.row ps.length (.ints (flat ps)), .v (.agg #[iv x, iv y])] (iv (g ps x y))) {ds : List DArg} {v : Value} {C : List Prop} (hd : pPz g ds = some (v, C)) (hC : AllP C) : Res Try.prog f ds v := by
  unfold pPz at hd
  split at hd
  · rename_i m xs x y
    obtain ⟨rfl, rfl⟩ : _ ∧ _ := by simpa using hd
    obtain ⟨_, h2⟩ := ptsA_spec hC.1
    exact res_pts1 (pre := []) (post := [_]) hC.1 (h (ptsA m xs) x y (by unfold Big; rw [h2]; exact hC.2.1))
  · cases hd
def TLd : Tab := fun f ds => match f with
  | 34 => pPz locV ds
  | 32 => pPz locV ds
  | f => TSm f ds
theorem TLd_ok : TabOk Try.prog TLd := by
  intro f ds v C h hC
  unfold TLd at h
  split at h
  · exact pPz_ok res_iLcV h hC
  · exact pPz_ok res_sLcV h hC
  · exact TSm_ok _ _ _ _ h hC
def ELd : Env := mkE TLd R4 (fun _ => noL)
theorem ELd_ok : EnvOk Try.prog ELd := mkEOk TLd_ok R4_ok (fun _ _ _ => noL_good)
set_option maxRecDepth 100000 in
theorem tr_exLoc (ps : List Pt) (x y : Int) : bodyV Try.prog ELd 30 12 9 [.row ps.length (.ints (flat ps)), .v (.agg #[iv x, iv y])] = brT (decide (IntKind.i64.wrap (1048576 - (↑ps.length : Int)) < 0)) (.fin (.bool (true)) []) (brT (decide (IntKind.i64.wrap (1048576 - (↑ps.length : Int)) < 0)) (.fin (.bool (true)) []) (.need (ps.length * (2 : Nat) ≤ (List.drop (0 : Nat) (flat ps)).length) (.need (ps.length ≤ (1000000000 : Nat)) (.need (ps.length * (2 : Nat) ≤ (List.drop (0 : Nat) (List.take (ps.length * (2 : Nat)) (List.drop (0 : Nat) (flat ps)))).length) (.need (ps.length ≤ (1000000000 : Nat)) (.need (ps.length * (2 : Nat) ≤ (List.drop (0 : Nat) (flat ps)).length) (.need (ps.length ≤ (1000000000 : Nat)) (.need (ps.length * (2 : Nat) ≤ (List.drop (0 : Nat) (List.take (ps.length * (2 : Nat)) (List.drop (0 : Nat) (flat ps)))).length) (.need (ps.length ≤ (1000000000 : Nat)) (brT (!locV (ptsA ps.length (List.drop 0 (List.take (ps.length * 2) (List.drop 0 (flat ps))))) x y == locV (ptsA ps.length (List.drop 0 (List.take (ps.length * 2) (List.drop 0 (flat ps))))) x y) (.fin (.bool (false)) []) (.need (ps.length * (2 : Nat) ≤ (List.drop (0 : Nat) (flat ps)).length) (.need (ps.length ≤ (1000000000 : Nat)) (.need (ps.length * (2 : Nat) ≤ (List.drop (0 : Nat) (List.take (ps.length * (2 : Nat)) (List.drop (0 : Nat) (flat ps)))).length) (.need (ps.length * (2 : Nat) ≤ (List.drop (0 : Nat) (List.take (ps.length * (2 : Nat)) (List.drop (0 : Nat) (flat ps)))).length) (.need (ps.length ≤ (1000000000 : Nat)) (brT (!eqL (ptsA ps.length (List.drop 0 (List.take (ps.length * 2) (List.drop 0 (flat ps))))) (ptsA ps.length (List.drop 0 (List.take (ps.length * 2) (List.drop 0 (flat ps)))))) (.fin (.bool (false)) []) (.fin (.bool (true)) []))))))))))))))))) := by kernel_rfl
theorem ExactLocate_res (ps : List Pt) (x y : Int) (h : (ps.length : Int) ≤ 9223372036854775807) : Res Try.prog 9 [.row ps.length (.ints (flat ps)), .v (.agg #[iv x, iv y])] (.bool true) := by
  refine bodyV_res mixed ELd_ok (m := 30) (n := 12) rfl ?_
  rw [tr_exLoc]
  simp only [List.drop_zero, flat_all, ptsA_flat, flat_length]
  by_cases hl : (1048576 : Int) - ps.length < 0
  · simp (disch := omega) only [wr]
    simp only [hl, decide_true, brT_t, Tree.ok]
  · simp (disch := omega) only [wr]
    simp only [hl, decide_false, brT_f, Tree.ok, beq_self_eq_true, Bool.not_true, eqL, decide_true]
    repeat' (first | exact True.intro | omega | exact rfl | refine And.intro ?_ ?_)
end Go.Proofs.Ytfbcbmckicmalaa
