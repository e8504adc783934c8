/-
  slices.Index over points. Written by an AI agent.
-/
import Derived.Test.YtieibbdfdepmbaaHsp
namespace Go.Proofs.Ytieibbdfdepmbaa
set_option linter.all false
open Go.RowKit

/-- The first place from i on at which the point stands. -/
def fsN (ps : List Pt) (x y : Int) : Nat → Nat → Nat
  | i, 0 => i
  | i, n + 1 => bif npQ ps x y i then fsN ps x y (i + 1) n else i
theorem fsN_step {ps : List Pt} {x y : Int} {i n : Nat} (h : i < n) : fsN ps x y i (n - i) = bif npQ ps x y i then fsN ps x y (i + 1) (n - (i + 1)) else i := by
  rw [show n - i = (n - (i + 1)) + 1 by omega]
  rfl
noncomputable def c_six : Code := ((loopsOf (codeOf Try.f67))[0]?).getD .skip
def k_six : Ex → List Nat := keeps [0, 3, 7, 8] [(0, [])] [4]
def s_six (ps : List Pt) (x y : Int) : Nat → St := fun i => ⟨[.slice (some ⟨0, 0, none⟩) ps.length ps.length, topV, topV, .pointer (some ⟨2, 0, none⟩), topV, topV, topV, .int .i64 ps.length, .int .i64 i, topV, topV, topV, topV, topV, topV, topV, topV, topV, topV], [some ⟨.view, .ints (flat ps)⟩, none, some ⟨.box, .vals [.int .i64 x, .int .i64 y]⟩]⟩
def re_six (ps : List Pt) (x y : Int) : Nat → Ex := fun i => bif allQ (npQ ps x y) i (ps.length - i) then .exit 0 else .ret
def rs_six (ps : List Pt) (x y : Int) : Nat → St := fun i => bif allQ (npQ ps x y) i (ps.length - i) then ⟨[topV, topV, topV, topV, topV, topV, topV, topV, topV, topV, topV, topV, topV, topV, topV, topV, topV, topV, topV], [some ⟨.view, .ints (flat ps)⟩, none, some ⟨.box, .vals [.int .i64 x, .int .i64 y]⟩]⟩ else ⟨[topV, topV, topV, topV, .int .i64 (fsN ps x y i (ps.length - i) : Nat), topV, topV, topV, topV, topV, topV, topV, topV, topV, topV, topV, topV, topV, topV], [some ⟨.view, .ints (flat ps)⟩, none, some ⟨.box, .vals [.int .i64 x, .int .i64 y]⟩]⟩
set_option maxRecDepth 100000 in
theorem tr_six (ps : List Pt) (x y : Int) (i : Nat) : bodyL Try.prog EM 30 12 noL 1 c_six k_six 3 (s_six ps x y i) = brT (decide ((↑i : Int) < (↑ps.length : Int))) (.need ((0 : Int) ≤ (↑i : Int) ∧ (↑i : Int) < (↑ps.length : Int)) (.need ((0 : Nat) + (↑i : Int).toNat * (2 : Nat) + (2 : Nat) ≤ (flat ps).length) (brT (negB false (x == (flat ps).getD (0 + (↑i : Int).toNat * 2) 0 && (y == (flat ps).getD (0 + (↑i : Int).toNat * 2 + 1) 0 && true))) (.leaf .ret ⟨[topV, topV, topV, topV, .int .i64 ((↑i : Int)), topV, topV, topV, topV, topV, topV, topV, topV, topV, topV, topV, topV, topV, topV], [some ⟨.view, .ints (flat ps)⟩, none, some ⟨.box, .vals [.int .i64 (x), .int .i64 (y)]⟩]⟩) (.leaf .normal ⟨[.slice (some ⟨0, 0, none⟩) (ps.length) (ps.length), topV, topV, .pointer (some ⟨2, 0, none⟩), topV, topV, topV, .int .i64 ((↑ps.length : Int)), .int .i64 (IntKind.i64.wrap ((↑i : Int) + 1)), topV, topV, topV, topV, topV, topV, topV, topV, topV, topV], [some ⟨.view, .ints (flat ps)⟩, none, some ⟨.box, .vals [.int .i64 (x), .int .i64 (y)]⟩]⟩)))) (.leaf (.exit 0) ⟨[topV, topV, topV, topV, topV, topV, topV, topV, topV, topV, topV, topV, topV, topV, topV, topV, topV, topV, topV], [some ⟨.view, .ints (flat ps)⟩, none, some ⟨.box, .vals [.int .i64 (x), .int .i64 (y)]⟩]⟩) := by kernel_rfl
set_option maxRecDepth 100000 in
theorem nl_six : loopsOf c_six = [] := by kernel_rfl
def inv_six (ps : List Pt) (x y : Int) : Nat → Prop := fun i => i ≤ ps.length
def me_six (ps : List Pt) (x y : Int) : Nat → Nat := fun i => ps.length - i
/-- A round of this loop. -/
def Round_six (ps : List Pt) (x y : Int) : Prop := ∀ xx : Nat, inv_six ps x y xx → (bodyL Try.prog EM 30 12 noL 1 c_six k_six 3 (s_six ps x y xx)).ok (RoundEnd 3 (s_six ps x y) (inv_six ps x y) (me_six ps x y) (re_six ps x y) (rs_six ps x y) xx) (fun _ _ => False)
def e_six (s : St) (k : Ex → St → Tree) : Option Tree := match Nat.beq s.tmps.length 19, pickL s.tmps [0, 3, 7, 8], s.mem with
  | true, [.slice (some ⟨0, 0, none⟩) n _, .pointer (some ⟨2, 0, none⟩), .int .i64 n1, .int .i64 i], [some ⟨.view, .ints xs⟩, none, some ⟨.box, .vals [.int .i64 x, .int .i64 y]⟩] => some (needs [i = 0, n1 = (n : Int), xs.length = n * 2, n ≤ 1000000000] (brT (allQ (npQ (ptsA n xs) x y) 0 n) (k (.exit 0) ⟨[topV, topV, topV, topV, topV, topV, topV, topV, topV, topV, topV, topV, topV, topV, topV, topV, topV, topV, topV], [some ⟨.view, .ints xs⟩, none, some ⟨.box, .vals [.int .i64 x, .int .i64 y]⟩]⟩) (k .ret ⟨[topV, topV, topV, topV, .int .i64 (fsN (ptsA n xs) x y 0 n : Nat), topV, topV, topV, topV, topV, topV, topV, topV, topV, topV, topV, topV, topV, topV], [some ⟨.view, .ints xs⟩, none, some ⟨.box, .vals [.int .i64 x, .int .i64 y]⟩]⟩)))
  | _, _, _ => none
set_option maxRecDepth 100000 in
theorem round_six (ps : List Pt) (x y : Int) (h : ps.length ≤ 1000000000) : Round_six ps x y := by
  intro i h1
  have h1 : i ≤ ps.length := h1
  rw [tr_six]
  simp only [Int.toNat_natCast, Nat.zero_add, Nat.add_zero, flat_length, flat_get0, flat_get1]
  refine brT_ok.2 ⟨fun hlt => ?_, fun hge => ?_⟩
  · have hlt := of_decide_eq_true hlt
    have hi : i < ps.length := by omega
    have st := allQ_step (P := npQ ps x y) (i := i) (n := ps.length) hi
    have sf := fsN_step (ps := ps) (x := x) (y := y) (i := i) (n := ps.length) hi
    have hn : npQ ps x y i = !((ps.getD i (0, 0)).1 == x && (ps.getD i (0, 0)).2 == y) := rfl
    rw [wsucc (n := ps.length) hi h]
    have hc : npQ ps x y i = !(x == (ps.getD i (0, 0)).1 && y == (ps.getD i (0, 0)).2) := by
      rw [hn, BEq.comm (a := x), BEq.comm (a := y)]
    generalize ps.getD i (0, 0) = p at *
    rcases g1 : x == p.1 with _ | _ <;> rcases g2 : y == p.2 with _ | _
    all_goals
      rw [g1, g2] at hc
      rw [hc] at st sf
      simp only [g1, g2, negT_, negF_, brT_t, brT_f, Bool.not_true, Bool.not_false, Bool.and_true, Bool.and_false, Bool.true_and, Bool.false_and, cond_true, cond_false, Tree.ok] at st sf ⊢
      repeat (refine And.intro (by omega) ?_)
    iterate 3
      refine ⟨i + 1, [], ?_, ?_, by simp only [re_six, st], by simp only [rs_six, st, sf], ?_⟩
      · show i + 1 ≤ ps.length; omega
      · show ps.length - (i + 1) < ps.length - i; omega
      · repeat' (first | exact True.intro | exact rfl | exact fun _ => rfl | refine And.intro ?_ ?_)
    refine ⟨by simp only [re_six, st, cond_false], [], ?_⟩
    simp only [rs_six, st, sf, cond_false]
    repeat' (first | exact True.intro | exact rfl | exact fun _ => rfl | refine And.intro ?_ ?_)
  · have hge := of_decide_eq_false hge
    have e : allQ (npQ ps x y) i (ps.length - i) = true := allQ_end (by omega)
    refine ⟨by simp only [re_six, e, cond_true], [], ?_⟩
    simp only [rs_six, e, cond_true]
    repeat' (first | exact True.intro | exact rfl | exact fun _ => rfl | refine And.intro ?_ ?_)
set_option maxRecDepth 100000 in
theorem lg_six : LoopE Try.prog e_six c_six := by
  intro s k t F H hlt ht
  unfold e_six at hlt
  split at hlt
  rotate_left
  · cases hlt
  rename_i hlen hpick hmem
  obtain ⟨tmps, mem⟩ := s
  simp only at hlen hpick hmem
  subst hmem
  obtain rfl := Option.some.inj hlt
  obtain ⟨⟨rfl, rfl, h1, h2, _⟩, ht2⟩ := needs_ok ht
  clear ht hlt
  obtain ⟨ps, rfl, rfl⟩ := even_flat h1
  rw [ptsA_flat] at ht2
  refine ⟨_, _, pick2k ht2, loop_run mixed EM_ok (s_six ps _ _) (inv_six ps _ _) (me_six ps _ _) (re_six ps _ _) (rs_six ps _ _) k_six (fun _ => rfl) (noLoops nl_six) (round_six ps _ _ h2) (x := 0) (Nat.zero_le _) (π := []) rfl ?_⟩
  refine ⟨rfl, rfl, ?_, wvs_spread' [0, 3, 7, 8] hlen rfl ?_⟩
  · repeat' (first | exact True.intro | exact rfl | exact wv_top _ _ | exact fun _ => rfl | assumption | exact Eq.symm (by assumption) | exact vI0 rfl | refine And.intro ?_ ?_)
  · rw [hpick]
    repeat' (first | exact True.intro | exact rfl | exact wv_top _ _ | exact fun _ => rfl | assumption | exact Eq.symm (by assumption) | exact vI0 rfl | refine And.intro ?_ ?_)
theorem Lr_six {fn : Func} (hf : Try.prog.funcs[67]? = some fn) : LoopsGood Try.prog (lt1 e_six) 0 (codeOf fn) := by
  obtain rfl := fn_is Try.func67 hf
  exact lt1_good lg_six
def LSi : FuncId → LT := fun f => match f with
  | 67 => lt1 e_six
  | _ => noL
def ESi : Env := mkE B0 (fun _ _ => none) LSi
theorem ESi_ok : EnvOk Try.prog ESi := mkEOk B0_ok (fun _ _ _ _ _ h => (by cases h)) (by
  intro f fn hf
  unfold LSi
  split
  all_goals first | with_reducible exact Lr_six hf | exact noL_good)
set_option maxRecDepth 100000 in
theorem tr_sixF (ps : List Pt) (x y : Int) : bodyV Try.prog ESi 30 12 67 [.row ps.length (.ints (flat ps)), .v (.agg ⟨[.int .i64 x, .int .i64 y]⟩)] = .need ((0 : Int) = (0 : Int)) (.need ((↑ps.length : Int) = (↑ps.length : Int)) (.need ((flat ps).length = ps.length * (2 : Nat)) (.need (ps.length ≤ (1000000000 : Nat)) (brT (allQ (npQ (ptsA ps.length (flat ps)) x y) 0 ps.length) (.fin (.int .i64 (-1)) []) (.fin (.int .i64 ((↑(fsN (ptsA ps.length (flat ps)) x y 0 ps.length) : Int))) []))))) := by kernel_rfl
/-- Where a point stands first. -/
def idxV (ps : List Pt) (x y : Int) : Int := bif allQ (npQ ps x y) 0 ps.length then -1 else (fsN ps x y 0 ps.length : Nat)
theorem res_six (x y : Int) (ps : List Pt) (h : Big ps) : Res Try.prog 67 [.row ps.length (.ints (flat ps)), .v (.agg ⟨[.int .i64 x, .int .i64 y]⟩)] (.int .i64 (idxV ps x y)) := by
  refine bodyV_res mixed ESi_ok (m := 30) (n := 12) rfl ?_
  rw [tr_sixF]
  unfold Big at h
  simp only [ptsA_flat]
  unfold idxV
  have w9 : IntKind.i64.wrap (0 - 1) = -1 := by decide
  rcases hq : allQ (npQ ps x y) 0 ps.length with _ | _
  all_goals exact ⟨trivial, trivial, flat_length ps, h, rfl⟩
def pSix : List DArg → Option (Value × List Prop)
  | [.row m (.ints xs), .v (.agg ⟨[.int .i64 x, .int .i64 y]⟩)] => some (.int .i64 (idxV (ptsA m xs) x y), [m * 2 ≤ xs.length, m ≤ 1000000000])
  | _ => none
theorem pSix_ok {ds : List DArg} {v : Value} {C : List Prop} (h : pSix ds = some (v, C)) (hC : AllP C) : Res Try.prog 67 ds v := by
  unfold pSix at h
  split at h
  · rename_i m xs x y
    obtain ⟨rfl, rfl⟩ : _ ∧ _ := by simpa using h
    obtain ⟨_, h2⟩ := ptsA_spec hC.1
    exact res_pts1 (pre := []) (post := [.v (.agg ⟨[.int .i64 x, .int .i64 y]⟩)]) hC.1 (res_six x y (ptsA m xs) (by unfold Big; rw [h2]; exact hC.2.1))
  · cases h
end Go.Proofs.Ytieibbdfdepmbaa
