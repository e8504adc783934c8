/-
  Texts that the proof needs, merged. Written by an AI agent.
-/
import Derived.Orders
import Derived.Below
import Derived.OrdersIn
import Derived.Deep.LoopGhost
import Derived.WalkKit
import Derived.Laws.CopyRow
import Derived.Laws.AppendOwn
import Derived.Laws.Slices
import Derived.Laws.MakeOwn
import Derived.Test.YtbfoheblcoakiaaRows
import Derived.ProofKit
import Derived.OpenShut
import Derived.Carry
import Derived.IntWalk
import Derived.Test.YtbfoheblcoakiaaProg
import Derived.WalkSpells
import Derived.WalkLawsBesides
import Derived.Lib.Hide
import Derived.Deep.QuietTactic
import Derived.BigQuiet
import Derived.KernelRfl
import Derived.Deep.RegionHeld3
import Derived.LoopTactic
import Derived.Laws.StructEq
import Derived.Laws.Tables
import Derived.RangeFuncNested
import Derived.RangeFuncLeaves
import Derived.Deep.Slices
import Derived.Deep.Fields
import Derived.ChangeSame
import Derived.Deep.DeepCutAuto
import Derived.Shelf.SlSortCmp.WholeK
import Derived.Sort.Grow
import Derived.Shelf.SlSortCmp.NoneTotal
import Derived.Test.YtbfoheblcoakiaaZHullsApart6
set_option linter.all false
namespace Go.Proofs.Ytbfoheblcoakiaa
open Go.RowKit
set_option maxRecDepth 100000 in
theorem tr_cr2 (ax ay bx b_y px py : Int) : runX Try.prog (tabE B0) 30 12 89 [.v (.agg #[iv ax, iv ay]), .v (.agg #[iv bx, iv b_y]), .v (.agg #[iv px, iv py])] (fun u => .fin u []) = .fin (.int .i64 (ŵ (ŵ (ŵ (bx - ax) * ŵ (py - ay)) - ŵ (ŵ (b_y - ay) * ŵ (px - ax))))) [] := by kernel_rfl
theorem res_cr2 {ax ay bx b_y px py : Int} (h1 : pt2 ax ay = true) (h2 : pt2 bx b_y = true) (h3 : pt2 px py = true) : Res Try.prog 89 [.v (.agg #[iv ax, iv ay]), .v (.agg #[iv bx, iv b_y]), .v (.agg #[iv px, iv py])] (iv (crossI ax ay bx b_y px py)) := by
  refine res_of mixed (tabE_ok B0_ok) (m := 30) (n := 12) ?_
  rw [tr_cr2]
  have h1 := pt2_iff.1 h1
  have h2 := pt2_iff.1 h2
  have h3 := pt2_iff.1 h3
  have p9 := mul_bd (x := bx - ax) (y := py - ay) 4000 4000 (by omega) (by omega)
  have p10 := mul_bd (x := b_y - ay) (y := px - ax) 4000 4000 (by omega) (by omega)
  simp (disch := omega) only [wr]
  rfl
def pXw : List DArg → Option (Value × List Prop)
  | [.v (.agg ⟨[.int .i64 ax, .int .i64 ay]⟩), .v (.agg ⟨[.int .i64 bx, .int .i64 b_y]⟩), .v (.agg ⟨[.int .i64 px, .int .i64 py]⟩)] => some (iv (crossI ax ay bx b_y px py), [pt2 ax ay = true, pt2 bx b_y = true, pt2 px py = true])
  | _ => none
theorem pXw_ok {ds : List DArg} {v : Value} {C : List Prop} (h : pXw ds = some (v, C)) (hC : AllP C) : Res Try.prog 89 ds v := by
  unfold pXw at h
  split at h
  · obtain ⟨rfl, rfl⟩ : _ ∧ _ := by simpa using h
    exact res_cr2 hC.1 hC.2.1 hC.2.2.1
  · cases h
def TCw : Tab := fun f ds => match f with
  | 89 => pXw ds
  | f => B0 f ds
theorem TCw_ok : TabOk Try.prog TCw := by
  intro f ds v C h hC
  unfold TCw at h
  (try split at h)
  all_goals first | with_reducible exact pXw_ok h hC | exact B0_ok _ _ _ _ h hC
def ECww : Env := mkE TCw (fun _ _ => none) (fun _ => noL)
theorem ECww_ok : EnvOk Try.prog ECww := mkEOk TCw_ok (fun _ _ _ _ _ h => (by cases h)) (fun _ _ _ => noL_good)
noncomputable def c_cwS : Code := ((loopsOf (codeOf Try.f70))[1]?).getD .skip
def k_cwS : Ex → List Nat := keeps [0, 3, 4] [(2, [0, 3, 4]), (1, [0, 3, 4]), (0, [3])] [2]
def s_cwS (ps st : List Pt) (i : Nat) : Nat → St := fun j => ⟨(ß 0 ps.length ps.length :: topV :: topV :: ß 2 j j :: .int .i64 i :: ω43 []), [some ⟨.view, .ints (flat ps)⟩, some ⟨.dead, .vals []⟩, some ⟨.row 32 2, .ints (flat st)⟩]⟩
def re_cwS : Nat → Ex := fun _ => .exit 2
def rs_cwS (ps st : List Pt) (i : Nat) : Nat → St := fun j => ⟨(ß 0 ps.length ps.length :: topV :: topV :: ß 2 (popN st (ps.getD i (0, 0)) st.length) (popN st (ps.getD i (0, 0)) st.length) :: .int .i64 i :: ω43 []), [some ⟨.view, .ints (flat ps)⟩, some ⟨.dead, .vals []⟩, some ⟨.row 32 2, .ints (flat st)⟩]⟩
set_option maxRecDepth 100000 in
theorem tr_cwS (ps st : List Pt) (i : Nat) (j : Nat) : bodyL Try.prog ECww 30 12 noL 2 c_cwS k_cwS 3 (s_cwS ps st i j) = brT (decide (1 < (↑j : Int))) (.need (pt2 ((flat st).getD ((0 : Nat) + (ŵ ((↑j : Int) - (2 : Int))).toNat * (2 : Nat)) (0 : Int)) ((flat st).getD ((0 : Nat) + (ŵ ((↑j : Int) - (2 : Int))).toNat * (2 : Nat) + (1 : Nat)) (0 : Int)) = true) (.need (pt2 ((flat st).getD ((0 : Nat) + (ŵ ((↑j : Int) - (1 : Int))).toNat * (2 : Nat)) (0 : Int)) ((flat st).getD ((0 : Nat) + (ŵ ((↑j : Int) - (1 : Int))).toNat * (2 : Nat) + (1 : Nat)) (0 : Int)) = true) (.need (pt2 ((flat ps).getD ((0 : Nat) + (↑i : Int).toNat * (2 : Nat)) (0 : Int)) ((flat ps).getD ((0 : Nat) + (↑i : Int).toNat * (2 : Nat) + (1 : Nat)) (0 : Int)) = true) (.need ((0 : Int) ≤ ŵ ((↑j : Int) - (2 : Int)) ∧ ŵ ((↑j : Int) - (2 : Int)) < (↑j : Int)) (.need ((0 : Nat) + (ŵ ((↑j : Int) - (2 : Int))).toNat * (2 : Nat) + (2 : Nat) ≤ (flat st).length) (.need ((0 : Int) ≤ ŵ ((↑j : Int) - (1 : Int)) ∧ ŵ ((↑j : Int) - (1 : Int)) < (↑j : Int)) (.need ((0 : Nat) + (ŵ ((↑j : Int) - (1 : Int))).toNat * (2 : Nat) + (2 : Nat) ≤ (flat st).length) (.need ((0 : Int) ≤ (↑i : Int) ∧ (↑i : Int) < (↑ps.length : Int)) (.need ((0 : Nat) + (↑i : Int).toNat * (2 : Nat) + (2 : Nat) ≤ (flat ps).length) (brT (decide (crossI ((flat st).getD (0 + (ŵ ((↑j : Int) - 2)).toNat * 2) 0) ((flat st).getD (0 + (ŵ ((↑j : Int) - 2)).toNat * 2 + 1) 0) ((flat st).getD (0 + (ŵ ((↑j : Int) - 1)).toNat * 2) 0) ((flat st).getD (0 + (ŵ ((↑j : Int) - 1)).toNat * 2 + 1) 0) ((flat ps).getD (0 + (↑i : Int).toNat * 2) 0) ((flat ps).getD (0 + (↑i : Int).toNat * 2 + 1) 0) ≤ 0)) (.need ((0 : Int) ≤ bndI none (0 : Int) ∧ bndI none (0 : Int) ≤ bndI (some (IntKind.i64, ŵ ((↑j : Int) - (1 : Int)))) (↑j : Int) ∧ bndI (some (IntKind.i64, ŵ ((↑j : Int) - (1 : Int)))) (↑j : Int) ≤ (↑j : Int)) (.leaf .normal ⟨(ß 0 (ps.length) (ps.length) :: topV :: topV :: ß 2 ((bndI (some (IntKind.i64, ŵ ((↑j : Int) - 1))) (↑j : Int)).toNat - 0) ((bndI (some (IntKind.i64, ŵ ((↑j : Int) - 1))) (↑j : Int)).toNat - 0) :: .int .i64 ((↑i : Int)) :: ω43 []), [some ⟨.view, .ints (flat ps)⟩, some deadB, some ⟨.row 32 2, .ints (flat st)⟩]⟩)) (.leaf (.exit 2) ⟨(ß 0 (ps.length) (ps.length) :: topV :: topV :: ß 2 (j) (j) :: .int .i64 ((↑i : Int)) :: ω43 []), [some ⟨.view, .ints (flat ps)⟩, some deadB, some ⟨.row 32 2, .ints (flat st)⟩]⟩))))))))))) (.leaf (.exit 2) ⟨(ß 0 (ps.length) (ps.length) :: topV :: topV :: ß 2 (j) (j) :: .int .i64 ((↑i : Int)) :: ω43 []), [some ⟨.view, .ints (flat ps)⟩, some deadB, some ⟨.row 32 2, .ints (flat st)⟩]⟩) := by kernel_rfl
set_option maxRecDepth 100000 in
theorem nl_cwS : loopsOf c_cwS = [] := by kernel_rfl
def inv_cwS (ps st : List Pt) (i : Nat) : Nat → Prop := fun j => j ≤ st.length ∧ popN st (ps.getD i (0, 0)) j = popN st (ps.getD i (0, 0)) st.length
def me_cwS (ps st : List Pt) (i : Nat) : Nat → Nat := fun j => j
def Round_cwS (ps st : List Pt) (i : Nat) : Prop := ∀ xx : Nat, inv_cwS ps st i xx → (bodyL Try.prog ECww 30 12 noL 2 c_cwS k_cwS 3 (s_cwS ps st i xx)).ok (RoundEnd 3 (s_cwS ps st i) (inv_cwS ps st i) (me_cwS ps st i) re_cwS (rs_cwS ps st i) xx) (fun _ _ => False)
def e_cwS (s : St) (k : Ex → St → Tree) : Option Tree := match Nat.beq s.tmps.length 48, pickL s.tmps [0, 3, 4], s.mem with
  | true, [ß 0 n _, ß 2 l _, .int .i64 ii], [some ⟨.view, .ints xs⟩, some ⟨.dead, .vals []⟩, some ⟨.row 32 2, .ints ys⟩] => some (needs [xs.length = n * 2, allW (ptsA n xs) = true, 0 ≤ ii, ii < n, ys.length = l * 2, allW (ptsA l ys) = true, l ≤ 1000] (k (.exit 2) ⟨(ß 0 n n :: topV :: topV :: ß 2 (popN (ptsA l ys) ((ptsA n xs).getD ii.toNat (0, 0)) l) (popN (ptsA l ys) ((ptsA n xs).getD ii.toNat (0, 0)) l) :: .int .i64 ii :: ω43 []), [some ⟨.view, .ints xs⟩, some ⟨.dead, .vals []⟩, some ⟨.row 32 2, .ints ys⟩]⟩))
  | _, _, _ => none
set_option maxRecDepth 100000 in
theorem round_cwS (ps st : List Pt) (i : Nat) (hv : allW st = true) (hp : allW ps = true) (h : st.length ≤ 1000) (hi : i < ps.length) : Round_cwS ps st i := by
  rintro j ⟨h1, h2⟩
  rw [tr_cwS]
  refine brT_ok.2 ⟨fun hlt => ?_, fun hge => ?_⟩
  · have hlt := of_decide_eq_true hlt
    obtain ⟨m, rfl⟩ : ∃ m, j = m + 2 := ⟨j - 2, by omega⟩
    have w1 : ŵ (((m + 2 : Nat) : Int) - 2) = (m : Int) := by rw [wr (by omega)]; omega
    have w2 : ŵ (((m + 2 : Nat) : Int) - 1) = ((m + 1 : Nat) : Int) := by rw [wr (by omega)]; omega
    simp only [w1, w2, bnd_some, bnd_none, Int.toNat_natCast, flat_get0, flat_get1, flat_length, Nat.zero_add, Nat.sub_zero]
    refine ⟨allW_at hv (by omega), allW_at hv (by omega), allW_at hp hi, by omega, by omega, by omega, by omega, by omega, by omega, brT_ok.2 ⟨fun q => ⟨by omega, ?_⟩, fun q => ?_⟩⟩
    · have e := popN_yes (st := st) (p := ps.getD i (0, 0)) (m := m) (of_decide_eq_true q)
      refine ⟨m + 1, [], ⟨by omega, by rw [← e]; exact h2⟩, ?_, rfl, by simp only [rs_cwS], ?_⟩
      · show m + 1 < m + 2; omega
      · repeat' (first | exact True.intro | exact rfl | exact fun _ => rfl | (simp; done) | refine And.intro ?_ ?_)
    · have e := popN_no (st := st) (p := ps.getD i (0, 0)) (m := m) (of_decide_eq_false q)
      refine ⟨rfl, [], ?_⟩
      simp only [rs_cwS, ← h2, e]
      repeat' (first | exact True.intro | exact rfl | exact fun _ => rfl | (simp; done) | refine And.intro ?_ ?_)
  · have hge := of_decide_eq_false hge
    have e := popN_low (st := st) (p := ps.getD i (0, 0)) (j := j) (by omega)
    refine ⟨rfl, [], ?_⟩
    simp only [rs_cwS, ← h2, e]
    repeat' (first | exact True.intro | exact rfl | exact fun _ => rfl | (simp; done) | refine And.intro ?_ ?_)
set_option maxRecDepth 100000 in
theorem lg_cwS : LoopE Try.prog e_cwS c_cwS := by
  intro s k t F H hlt ht
  unfold e_cwS at hlt
  split at hlt
  rotate_left
  · cases hlt
  rename_i hlen hpick hmem
  obtain ⟨tmps, mem⟩ := s
  simp only at hlen hpick hmem
  subst hmem
  obtain rfl := Option.some.inj hlt
  obtain ⟨⟨h0, h5, h6, h7, h1, h2, h4, _⟩, ht2⟩ := needs_ok ht
  clear ht hlt
  obtain ⟨st, rfl, rfl⟩ := even_flat h1
  obtain ⟨ps, rfl, rfl⟩ := even_flat h0
  obtain ⟨i, rfl⟩ := Int.eq_ofNat_of_zero_le h6
  rw [ptsA_flat] at ht2 h2 h5
  simp only [ptsA_flat, Int.toNat_natCast] at ht2
  refine ⟨_, _, ht2, loop_run mixed ECww_ok (s_cwS ps st i) (inv_cwS ps st i) (me_cwS ps st i) re_cwS (rs_cwS ps st i) k_cwS (fun _ => rfl) (noLoops nl_cwS) (round_cwS ps st i h2 h5 h4 (by omega)) (x := st.length) ⟨Nat.le_refl _, rfl⟩ (π := []) rfl ?_⟩
  refine ⟨rfl, rfl, ?_, wvs_spread' [0, 3, 4] hlen rfl ?_⟩
  · repeat' (first | exact True.intro | exact rfl | exact wv_top _ _ | exact fun _ => rfl | assumption | exact Eq.symm (by assumption) | exact vI0 rfl | refine And.intro ?_ ?_)
  · rw [hpick]
    repeat' (first | exact True.intro | exact rfl | exact wv_top _ _ | exact fun _ => rfl | assumption | exact Eq.symm (by assumption) | exact vI0 rfl | refine And.intro ?_ ?_)
def ltCw : LT := fun j s k => match j with
  | 1 => e_cwS s k
  | _ => none
noncomputable def c_cwP : Code := ((loopsOf (codeOf Try.f70))[0]?).getD .skip
def k_cwP : Ex → List Nat := keeps [0, 3, 4] [(0, [3])] [2]
def s_cwP (ps : List Pt) : Nat × (List Pt) → St := fun (i, st) => ⟨(ß 0 ps.length ps.length :: topV :: topV :: ß 2 st.length st.length :: .int .i64 i :: ω43 []), [some ⟨.view, .ints (flat ps)⟩, some ⟨.dead, .vals []⟩, some ⟨.row 32 2, .ints (flat st)⟩]⟩
def re_cwP : Nat × (List Pt) → Ex := fun _ => .exit 0
def rs_cwP (ps : List Pt) : Nat × (List Pt) → St := fun (i, st) => ⟨(ω3 ß 2 (chn st (ps.drop i)).length (chn st (ps.drop i)).length :: ω44 []), [some ⟨.view, .ints (flat ps)⟩, some ⟨.dead, .vals []⟩, some ⟨.row 32 2, .ints (flat (chn st (ps.drop i)))⟩]⟩
set_option maxRecDepth 100000 in
theorem tr_cwP (ps : List Pt) (i : Nat) (st : List Pt) : bodyL Try.prog ECww 30 12 ltCw 1 c_cwP k_cwP 16 (s_cwP ps (i, st)) = brT (decide ((↑i : Int) < (↑ps.length : Int))) (.need ((flat ps).length = ps.length * (2 : Nat)) (.need (allW (ptsA ps.length (flat ps)) = true) (.need ((0 : Int) ≤ (↑i : Int)) (.need ((↑i : Int) < (↑ps.length : Int)) (.need ((flat st).length = st.length * (2 : Nat)) (.need (allW (ptsA st.length (flat st)) = true) (.need (st.length ≤ (1000 : Nat)) (.need ((0 : Int) ≤ (↑i : Int) ∧ (↑i : Int) < (↑ps.length : Int)) (.need ((0 : Nat) + (↑i : Int).toNat * (2 : Nat) + (2 : Nat) ≤ (flat ps).length) (.need ((popN (ptsA st.length (flat st)) ((ptsA ps.length (flat ps)).getD (↑i : Int).toNat ((0 : Int), (0 : Int))) st.length + (1 : Nat)) * (16 : Nat) ≤ (140737488355328 : Nat) ∧ popN (ptsA st.length (flat st)) ((ptsA ps.length (flat ps)).getD (↑i : Int).toNat ((0 : Int), (0 : Int))) st.length + (1 : Nat) ≤ (2000000 : Nat)) (.need ((0 : Nat) + popN (ptsA st.length (flat st)) ((ptsA ps.length (flat ps)).getD (↑i : Int).toNat ((0 : Int), (0 : Int))) st.length * (2 : Nat) ≤ (flat st).length) (.leaf .normal ⟨(ß 0 (ps.length) (ps.length) :: topV :: topV :: ß 4 (popN (ptsA st.length (flat st)) ((ptsA ps.length (flat ps)).getD (↑i : Int).toNat (0, 0)) st.length + 1) (popN (ptsA st.length (flat st)) ((ptsA ps.length (flat ps)).getD (↑i : Int).toNat (0, 0)) st.length + 1) :: .int .i64 (ŵ ((↑i : Int) + 1)) :: ω43 []), [some ⟨.view, .ints (flat ps)⟩, some deadB, some deadB, some ⟨.row 32 2, .vals [.int .i64 ((flat ps).getD (0 + (↑i : Int).toNat * 2) 0), .int .i64 ((flat ps).getD (0 + (↑i : Int).toNat * 2 + 1) 0)]⟩, some ⟨.row 32 2, .ints (List.take (popN (ptsA st.length (flat st)) ((ptsA ps.length (flat ps)).getD (↑i : Int).toNat (0, 0)) st.length * 2) (List.drop 0 (flat st)) ++ [(flat ps).getD (0 + (↑i : Int).toNat * 2) 0, (flat ps).getD (0 + (↑i : Int).toNat * 2 + 1) 0])⟩]⟩)))))))))))) (.leaf (.exit 0) ⟨(ω3 ß 2 (st.length) (st.length) :: ω44 []), [some ⟨.view, .ints (flat ps)⟩, some deadB, some ⟨.row 32 2, .ints (flat st)⟩]⟩) := by kernel_rfl
def inv_cwP (ps : List Pt) : Nat × (List Pt) → Prop := fun (i, st) => i ≤ ps.length ∧ st.length ≤ i ∧ allW st = true
def me_cwP (ps : List Pt) : Nat × (List Pt) → Nat := fun (i, st) => ps.length - i
def Round_cwP (ps : List Pt) : Prop := ∀ xx : Nat × (List Pt), inv_cwP ps xx → (bodyL Try.prog ECww 30 12 ltCw 1 c_cwP k_cwP 16 (s_cwP ps xx)).ok (RoundEnd 2 (s_cwP ps) (inv_cwP ps) (me_cwP ps) re_cwP (rs_cwP ps) xx) (fun _ _ => False)
def e_cwP (s : St) (k : Ex → St → Tree) : Option Tree := match Nat.beq s.tmps.length 48, pickL s.tmps [0, 3, 4], s.mem with
  | true, [ß 0 n _, ß 1 z _, .int .i64 i], [some ⟨.view, .ints xs⟩, some ⟨.row 32 2, .vals []⟩] => some (needs [i = 0, z = 0, xs.length = n * 2, allW (ptsA n xs) = true, n ≤ 1000] (k (.exit 0) ⟨(ω3 ß 2 (chn [] (ptsA n xs)).length (chn [] (ptsA n xs)).length :: ω44 []), [some ⟨.view, .ints xs⟩, some ⟨.dead, .vals []⟩, some ⟨.row 32 2, .ints (flat (chn [] (ptsA n xs)))⟩]⟩))
  | _, _, _ => none
set_option maxRecDepth 100000 in
theorem in_cwP : loopsOf c_cwP = [c_cwS] := by kernel_rfl
theorem ltCw_good : LoopsGood Try.prog ltCw 1 c_cwP := by
  intro i d hd s k t F H hlt ht
  rw [in_cwP] at hd
  cases i with
  | zero =>
    obtain rfl : c_cwS = d := by simpa using hd
    exact lg_cwS s k t F H hlt ht
  | succ i => simp at hd
set_option maxRecDepth 100000 in
theorem round_cwP (ps : List Pt) (hp : allW ps = true) (h : ps.length ≤ 1000) : Round_cwP ps := by
  rintro ⟨i, st⟩ ⟨h1, h2, h3⟩
  rw [tr_cwP]
  simp only [ptsA_flat, Int.toNat_natCast, Nat.zero_add, flat_get0, flat_get1, flat_length, List.drop_zero, flat_take, flat_snoc]
  refine brT_ok.2 ⟨fun hlt => ?_, fun hge => ?_⟩
  · have hi : i < ps.length := by have := of_decide_eq_true hlt; omega
    have hk : popN st (ps.getD i (0, 0)) st.length ≤ st.length := popN_le st _ _
    have el : popN st (ps.getD i (0, 0)) st.length + 1 = (pushP st (ps.getD i (0, 0))).length := (pushP_len1 st _).symm
    refine ⟨by first | exact True.intro | rfl, hp, by omega, by omega, by first | exact True.intro | rfl, h3, by omega, by omega, by omega, ⟨by omega, by omega⟩, by omega, ?_⟩
    rw [wsucc hi (by omega), el]
    refine ⟨(i + 1, pushP st (ps.getD i (0, 0))), [some 4], ⟨by omega, by omega, allW_push h3 (allW_at hp hi)⟩, ?_, rfl, by simp only [rs_cwP, chn_step hi], ?_⟩
    · show ps.length - (i + 1) < ps.length - i; omega
    · repeat' (first | exact True.intro | exact rfl | exact fun _ => rfl | (simp; done) | refine And.intro ?_ ?_)
  · have hge := of_decide_eq_false hge
    refine ⟨rfl, [some 2], ?_⟩
    simp only [rs_cwP, chn_end (ps := ps) (st := st) (i := i) (by omega)]
    repeat' (first | exact True.intro | exact rfl | exact fun _ => rfl | (simp; done) | refine And.intro ?_ ?_)
set_option maxRecDepth 100000 in
theorem lg_cwP : LoopE Try.prog e_cwP c_cwP := by
  intro s k t F H hlt ht
  unfold e_cwP at hlt
  split at hlt
  rotate_left
  · cases hlt
  rename_i hlen hpick hmem
  obtain ⟨tmps, mem⟩ := s
  simp only at hlen hpick hmem
  subst hmem
  obtain rfl := Option.some.inj hlt
  obtain ⟨⟨rfl, rfl, h1, h2, h3, _⟩, ht2⟩ := needs_ok ht
  clear ht hlt
  obtain ⟨ps, rfl, rfl⟩ := even_flat h1
  rw [ptsA_flat] at ht2 h2
  refine ⟨_, _, ht2, loop_run2 mixed ECww_ok (s_cwP ps) (inv_cwP ps) (me_cwP ps) re_cwP (rs_cwP ps) k_cwP (fun _ => rfl) ltCw_good (round_cwP ps h2 h3) (x := (0, [])) ⟨Nat.zero_le _, Nat.le_refl _, rfl⟩ (π := [some 1]) rfl ?_⟩
  refine ⟨rfl, rfl, ?_, wvs_spread' [0, 3, 4] hlen rfl ?_⟩
  · repeat' (first | exact True.intro | exact rfl | exact wv_top _ _ | exact fun _ => rfl | assumption | exact Eq.symm (by assumption) | exact vI0 rfl | refine And.intro ?_ ?_)
  · rw [hpick]
    repeat' (first | exact True.intro | exact rfl | exact wv_top _ _ | exact fun _ => rfl | assumption | exact Eq.symm (by assumption) | exact vI0 rfl | refine And.intro ?_ ?_)
theorem Lr_cwP {fn : Func} (hf : Try.prog.funcs[70]? = some fn) : LoopsGood Try.prog (lt1 e_cwP) 0 (codeOf fn) := by
  obtain rfl := fn_is Try.func70 hf
  exact lt1_good lg_cwP
def LCw : FuncId → LT := fun f => match f with
  | 70 => lt1 e_cwP
  | _ => noL
def ECxw : Env := mkE TCw (fun _ _ => none) LCw
theorem ECxw_ok : EnvOk Try.prog ECxw := mkEOk TCw_ok (fun _ _ _ _ _ h => (by cases h)) (by
  intro f fn hf
  unfold LCw
  split
  all_goals first | with_reducible exact Lr_cwP hf | exact noL_good)
set_option maxRecDepth 100000 in
theorem tr_wCn (ps : List Pt) : bodyX Try.prog ECxw 30 12 70 [.row ps.length (.ints (flat ps))] = .need ((0 : Int) = (0 : Int)) (.need ((0 : Nat) = (0 : Nat)) (.need ((flat ps).length = ps.length * (2 : Nat)) (.need (allW (ptsA ps.length (flat ps)) = true) (.need (ps.length ≤ (1000 : Nat)) (.fin (ß 2 ((chn [] (ptsA ps.length (flat ps))).length) ((chn [] (ptsA ps.length (flat ps))).length)) [some ⟨.view, .ints (flat ps)⟩, some deadB, some ⟨.row 32 2, .ints (flat (chn [] (ptsA ps.length (flat ps))))⟩]))))) := by kernel_rfl
theorem resR_wCn {ps : List Pt} (hv : allW ps = true) (h : ps.length ≤ 1000) : ResR Try.prog 70 [.row ps.length (.ints (flat ps))] (rowP (chn [] ps)) (blkP (chn [] ps)) := by
  refine bodyX_resR mixed ECxw_ok (m := 30) (n := 12) rfl ?_
  rw [tr_wCn]
  simp only [ptsA_flat]
  exact ⟨trivial, trivial, flat_length ps, hv, h, some 2, ⟨rfl, rfl, rfl⟩, rfl, rfl, rfl⟩
def RHz : TabR := fun f ds => match f, ds with
  | 70, [.row m (.ints xs)] => some (rowP (chn [] (ptsA m xs)), blkP (chn [] (ptsA m xs)), [m * 2 ≤ xs.length, allW (ptsA m xs) = true, m ≤ 1000])
  | 71, [.row m (.ints xs)] => some (rowP (revP (ptsA m xs)), blkP (revP (ptsA m xs)), [m * 2 ≤ xs.length, m ≤ 100000])
  | f, ds => RSq f ds
theorem RHz_ok : TabROk Try.prog RHz := by
  intro f ds v b C h hC
  unfold RHz at h
  (try split at h)
  all_goals first
    | (obtain ⟨rfl, rfl, rfl⟩ : _ ∧ _ ∧ _ := by simpa using h
       obtain ⟨_, h2⟩ := ptsA_spec hC.1
       have h1 := resR_pts1 (pre := []) (post := []) hC.1 (resR_wCn hC.2.1 (by rw [h2]; exact hC.2.2.1))
       simp only [List.nil_append, List.append_nil] at h1
       with_reducible exact h1)
    | (obtain ⟨rfl, rfl, rfl⟩ : _ ∧ _ ∧ _ := by simpa using h
       obtain ⟨_, h2⟩ := ptsA_spec hC.1
       have h1 := resR_pts1 (pre := []) (post := []) hC.1 (resR_rvd (by rw [h2]; exact hC.2.1))
       simp only [List.nil_append, List.append_nil] at h1
       with_reducible exact h1)
    | exact RSq_ok _ _ _ _ _ h hC
def EHw2 : Env := mkE B0 RHz (fun _ => noL)
theorem EHw2_ok : EnvOk Try.prog EHw2 := mkEOk B0_ok RHz_ok (fun _ _ _ => noL_good)
abbrev zwHu_0 (ps : List Pt) := (ptsA (srtL (ptsA ps.length (List.drop 0 (flat ps)))).length (List.drop 0 (flat (srtL (ptsA ps.length (List.drop 0 (flat ps)))))))
abbrev zwHu_1 (ps : List Pt) := (chn [] (ptsA (revP (ptsA (srtL (ptsA ps.length (List.drop 0 (flat ps)))).length (List.drop 0 (flat (srtL (ptsA ps.length (List.drop 0 (flat ps)))))))).length (List.drop 0 (flat (revP (ptsA (srtL (ptsA ps.length (List.drop 0 (flat ps)))).length (List.drop 0 (flat (srtL (ptsA ps.length (List.drop 0 (flat ps))))))))))))
abbrev zwHu_2 (ps : List Pt) := (chn [] (ptsA (revP (zwHu_0 ps)).length (List.drop 0 (flat (revP (zwHu_0 ps))))))
abbrev zwHu_3 (ps : List Pt) := (ptsA (srtL (ptsA ps.length (List.drop 0 (flat ps)))).length (List.drop 0 (flat (srtL (ptsA ps.length (List.drop 0 (flat ps)))))))
abbrev zwHu_4 (ps : List Pt) := (bndI (some (IntKind.i64, ŵ ((↑(zwHu_2 ps).length : Int) - (1 : Int)))) (↑(zwHu_2 ps).length : Int))
abbrev zwHu_5 (ps : List Pt) := (bndI (some (IntKind.i64, ŵ ((↑(zwHu_1 ps).length : Int) - 1))) (↑(zwHu_1 ps).length : Int))
set_option maxRecDepth 100000 in
theorem tr_wHu (ps : List Pt) : bodyX Try.prog EHw2 30 12 38 [.row ps.length (.ints (flat ps))] = .need (ps.length * (2 : Nat) ≤ (List.drop 0 (flat ps)).length) (.need (ps.length ≤ (1000 : Nat)) (brT (decide ((↑(srtL (ptsA ps.length (List.drop 0 (flat ps)))).length : Int) < 3)) (.fin (ß 1 ((srtL (ptsA ps.length (List.drop 0 (flat ps)))).length) ((srtL (ptsA ps.length (List.drop 0 (flat ps)))).length)) [some ⟨.view, .ints (flat ps)⟩, some ⟨.row 32 2, .ints (flat (srtL (ptsA ps.length (List.drop 0 (flat ps)))))⟩]) (.need ((srtL (ptsA ps.length (List.drop 0 (flat ps)))).length * (2 : Nat) ≤ (List.drop 0 (flat (srtL (ptsA ps.length (List.drop 0 (flat ps)))))).length) (.need (allW (zwHu_0 ps) = true) (.need ((srtL (ptsA ps.length (List.drop 0 (flat ps)))).length ≤ (1000 : Nat)) (.need ((srtL (ptsA ps.length (List.drop 0 (flat ps)))).length * (2 : Nat) ≤ (List.drop 0 (flat (srtL (ptsA ps.length (List.drop 0 (flat ps)))))).length) (.need ((srtL (ptsA ps.length (List.drop 0 (flat ps)))).length ≤ (100000 : Nat)) (.need ((revP (zwHu_0 ps)).length * (2 : Nat) ≤ (List.drop 0 (flat (revP (zwHu_0 ps)))).length) (.need (allW (ptsA (revP (zwHu_0 ps)).length (List.drop 0 (flat (revP (zwHu_0 ps))))) = true) (.need ((revP (zwHu_0 ps)).length ≤ (1000 : Nat)) (.need ((0 : Int) ≤ bndI none (0 : Int) ∧ bndI none (0 : Int) ≤ bndI (some (IntKind.i64, ŵ ((↑(chn [] (zwHu_0 ps)).length : Int) - (1 : Int)))) (↑(chn [] (zwHu_0 ps)).length : Int) ∧ bndI (some (IntKind.i64, ŵ ((↑(chn [] (zwHu_0 ps)).length : Int) - (1 : Int)))) (↑(chn [] (zwHu_0 ps)).length : Int) ≤ (↑(chn [] (zwHu_0 ps)).length : Int)) (.need ((0 : Int) ≤ bndI none (0 : Int) ∧ bndI none (0 : Int) ≤ bndI (some (IntKind.i64, ŵ ((↑(zwHu_2 ps).length : Int) - (1 : Int)))) (↑(zwHu_2 ps).length : Int) ∧ bndI (some (IntKind.i64, ŵ ((↑(zwHu_2 ps).length : Int) - (1 : Int)))) (↑(zwHu_2 ps).length : Int) ≤ (↑(zwHu_2 ps).length : Int)) (.need (((bndI (some (IntKind.i64, ŵ ((↑(chn [] (zwHu_0 ps)).length : Int) - (1 : Int)))) (↑(chn [] (zwHu_0 ps)).length : Int)).toNat - (0 : Nat) + ((zwHu_4 ps).toNat - (bndI none (0 : Int)).toNat, Cs.ints (List.take (((zwHu_4 ps).toNat - (bndI none (0 : Int)).toNat) * Try.prog.types[(32 : Nat)].size) (List.drop ((0 : Nat) + (bndI none (0 : Int)).toNat * Try.prog.types[(32 : Nat)].size) (flat (zwHu_2 ps)))), [(0 : Nat) + (bndI none (0 : Int)).toNat * Try.prog.types[(32 : Nat)].size + ((zwHu_4 ps).toNat - (bndI none (0 : Int)).toNat) * Try.prog.types[(32 : Nat)].size ≤ (flat (zwHu_2 ps)).length]).fst) * (16 : Nat) ≤ (140737488355328 : Nat) ∧ (bndI (some (IntKind.i64, ŵ ((↑(chn [] (zwHu_0 ps)).length : Int) - (1 : Int)))) (↑(chn [] (zwHu_0 ps)).length : Int)).toNat - (0 : Nat) + ((zwHu_4 ps).toNat - (bndI none (0 : Int)).toNat, Cs.ints (List.take (((zwHu_4 ps).toNat - (bndI none (0 : Int)).toNat) * Try.prog.types[(32 : Nat)].size) (List.drop ((0 : Nat) + (bndI none (0 : Int)).toNat * Try.prog.types[(32 : Nat)].size) (flat (zwHu_2 ps)))), [(0 : Nat) + (bndI none (0 : Int)).toNat * Try.prog.types[(32 : Nat)].size + ((zwHu_4 ps).toNat - (bndI none (0 : Int)).toNat) * Try.prog.types[(32 : Nat)].size ≤ (flat (zwHu_2 ps)).length]).fst ≤ (2000000 : Nat)) (.need ((0 : Nat) + ((zwHu_4 ps).toNat - (0 : Nat)) * (2 : Nat) ≤ (flat (zwHu_2 ps)).length) (.need ((0 : Nat) + ((bndI (some (IntKind.i64, ŵ ((↑(chn [] (zwHu_0 ps)).length : Int) - (1 : Int)))) (↑(chn [] (zwHu_0 ps)).length : Int)).toNat - (0 : Nat)) * (2 : Nat) ≤ (flat (chn [] (zwHu_0 ps))).length) (.fin (ß 5 ((bndI (some (IntKind.i64, ŵ ((↑(chn [] (zwHu_3 ps)).length : Int) - 1))) (↑(chn [] (zwHu_3 ps)).length : Int)).toNat - 0 + ((zwHu_5 ps).toNat - (bndI none 0).toNat, Cs.ints (List.take (((zwHu_5 ps).toNat - (bndI none 0).toNat) * Try.prog.types[32].size) (List.drop (0 + (bndI none 0).toNat * Try.prog.types[32].size) (flat (zwHu_1 ps)))), [0 + (bndI none 0).toNat * Try.prog.types[32].size + ((zwHu_5 ps).toNat - (bndI none 0).toNat) * Try.prog.types[32].size ≤ (flat (zwHu_1 ps)).length]).fst) ((bndI (some (IntKind.i64, ŵ ((↑(chn [] (zwHu_3 ps)).length : Int) - 1))) (↑(chn [] (zwHu_3 ps)).length : Int)).toNat - 0 + ((zwHu_5 ps).toNat - (bndI none 0).toNat, Cs.ints (List.take (((zwHu_5 ps).toNat - (bndI none 0).toNat) * Try.prog.types[32].size) (List.drop (0 + (bndI none 0).toNat * Try.prog.types[32].size) (flat (zwHu_1 ps)))), [0 + (bndI none 0).toNat * Try.prog.types[32].size + ((zwHu_5 ps).toNat - (bndI none 0).toNat) * Try.prog.types[32].size ≤ (flat (zwHu_1 ps)).length]).fst)) [some ⟨.view, .ints (flat ps)⟩, some ⟨.row 32 2, .ints (flat (srtL (ptsA ps.length (List.drop 0 (flat ps)))))⟩, some deadB, some ⟨.row 32 2, .ints (flat (revP (zwHu_3 ps)))⟩, some ⟨.row 32 2, .ints (flat (zwHu_1 ps))⟩, some ⟨.row 32 2, .ints (List.take (((bndI (some (IntKind.i64, ŵ ((↑(chn [] (zwHu_3 ps)).length : Int) - 1))) (↑(chn [] (zwHu_3 ps)).length : Int)).toNat - 0) * 2) (List.drop 0 (flat (chn [] (zwHu_3 ps)))) ++ List.take (((zwHu_5 ps).toNat - 0) * 2) (List.drop 0 (flat (zwHu_1 ps))))⟩])))))))))))))))) := by kernel_rfl
theorem resR_wHu {ps : List Pt} (hv : allW ps = true) (h : ps.length ≤ 1000) : ResR Try.prog 38 [.row ps.length (.ints (flat ps))] (rowP (hulL (srtL ps))) (blkP (hulL (srtL ps))) := by
  refine bodyX_resR mixed EHw2_ok (m := 30) (n := 12) rfl ?_
  rw [tr_wHu]
  try delta zB2 zB4 zR2 zI zwHu_0 zwHu_1 zwHu_2 zwHu_3 zwHu_4 zwHu_5
  have hs := allW_srt hv
  have hle := srtL_le ps
  simp only [List.drop_zero, ptsA_flat, flat_length, bnd_some, bnd_none, Int.toNat_zero, Nat.sub_zero, Nat.zero_mul, Nat.zero_add, Nat.add_zero]
  generalize srtL ps = s at *
  have c1 := chn_len s []
  have c2 := chn_len (revP s) []
  have r1 := revP_len s
  simp only [List.length_nil, Nat.zero_add] at c1 c2
  refine ⟨by omega, by omega, brT_ok.2 ⟨fun q => ?_, fun q => ?_⟩⟩
  · have q := of_decide_eq_true q
    have e : hulL s = s := by unfold hulL; rw [if_pos (by omega)]
    rw [e]
    exact ⟨some 1, ⟨rfl, rfl, rfl⟩, rfl, rfl, rfl⟩
  · have q := of_decide_eq_false q
    have p1 := chn_pos (ps := s) (st := []) (.inr (by omega))
    have p2 := chn_pos (ps := revP s) (st := []) (.inr (by omega))
    have hr := allW_rev hs
    have e : hulL s = (chn [] s).take ((chn [] s).length - 1) ++ (chn [] (revP s)).take ((chn [] (revP s)).length - 1) := by unfold hulL; rw [if_neg (by omega)]
    rw [e]
    have hr2 := r1
    generalize revP s = t at *
    generalize chn [] s = u at *
    generalize chn [] t = v at *
    have w1 : ŵ ((u.length : Int) - 1) = ((u.length - 1 : Nat) : Int) := by rw [wr (by omega)]; omega
    have w2 : ŵ ((v.length : Int) - 1) = ((v.length - 1 : Nat) : Int) := by rw [wr (by omega)]; omega
    simp only [w1, w2, Int.toNat_natCast]
    simp only [flat_take, ← flat_append]
    have hl : (u.take (u.length - 1) ++ v.take (v.length - 1)).length = u.length - 1 + (v.length - 1) := by simp
    refine ⟨by omega, hs, by omega, by omega, by omega, by omega, hr, by omega, ⟨by omega, by omega, by omega⟩, ⟨by omega, by omega, by omega⟩, ⟨by omega, by omega⟩, by omega, by omega, some 5, ⟨rfl, rfl, hl.symm⟩, rfl, rfl, rfl⟩
theorem same_sideW {u v s t : Int} (h : u * t = s * v) (hd : u * v + s * t ≤ 0) : u * v ≤ 0 := by
  rcases Int.lt_or_le 0 (u * v) with hp | hp
  · have hn : s * t < 0 := by omega
    have h1 : (u * v) * (s * t) < 0 := Int.mul_neg_of_pos_of_neg hp hn
    have h2 : (u * v) * (s * t) = (s * v) * (s * v) := by
      rw [show (u * v) * (s * t) = (u * t) * (s * v) by rw [Int.mul_assoc, Int.mul_assoc, Int.mul_left_comm v s t, Int.mul_comm v t, Int.mul_left_comm s t v], h]
    have h3 := mul_sq (s * v)
    omega
  · exact hp
theorem apart_ofW {u v : Int} (h : u * v ≤ 0) : (u ≤ 0 ∧ 0 ≤ v) ∨ (v ≤ 0 ∧ 0 ≤ u) := by
  rcases Int.lt_or_le 0 u with h1 | h1
  · rcases Int.lt_or_le 0 v with h2 | h2
    · have := Int.mul_pos h1 h2
      omega
    · omega
  · rcases Int.lt_or_le v 0 with h2 | h2
    · rcases Int.lt_or_le u 0 with h3 | h3
      · have := Int.mul_pos_of_neg_of_neg h3 h2
        omega
      · omega
    · omega
theorem apart_mulW {u v : Int} (h : (u ≤ 0 ∧ 0 ≤ v) ∨ (v ≤ 0 ∧ 0 ≤ u)) : u * v ≤ 0 := by
  rcases h with ⟨h1, h2⟩ | ⟨h1, h2⟩
  · exact Int.mul_nonpos_of_nonpos_of_nonneg h1 h2
  · exact Int.mul_nonpos_of_nonneg_of_nonpos h2 h1
def btwBW (ax ay bx b_y px py : Int) : Bool := decide ((ax ≤ px ∧ px ≤ bx ∨ bx ≤ px ∧ px ≤ ax) ∧ (ay ≤ py ∧ py ≤ b_y ∨ b_y ≤ py ∧ py ≤ ay))
theorem cross_turnW (ax ay bx b_y px py : Int) : (ax - px) * (b_y - py) - (ay - py) * (bx - px) = crossI ax ay bx b_y px py := by
  unfold crossI
  simp only [Int.sub_mul, Int.mul_sub]
  have c1 := Int.mul_comm bx ay
  have c2 := Int.mul_comm px ay
  have c3 := Int.mul_comm bx py
  have c4 := Int.mul_comm px b_y
  have c5 := Int.mul_comm ax ay
  have c6 := Int.mul_comm px py
  have c7 := Int.mul_comm b_y ax
  omega
theorem has_eqW (ax ay bx b_y px py : Int) : hasB ax ay bx b_y px py = ((crossI ax ay bx b_y px py == 0) && btwBW ax ay bx b_y px py) := by
  unfold hasB btwBW
  rw [cross_turnW]
  rcases h : (crossI ax ay bx b_y px py == 0) with _ | _
  · rfl
  simp only [Bool.true_and, decide_eq_decide]
  have h0 : (ax - px) * (b_y - py) - (ay - py) * (bx - px) = 0 := by rw [cross_turnW]; simpa using h
  constructor
  · intro hd
    have h1 := apart_ofW (same_sideW (u := ax - px) (v := bx - px) (s := ay - py) (t := b_y - py) (by omega) hd)
    have h2 := apart_ofW (same_sideW (u := ay - py) (v := b_y - py) (s := ax - px) (t := bx - px) (by omega) (by omega))
    omega
  · intro hd
    have h1 := apart_mulW (u := ax - px) (v := bx - px) (by omega)
    have h2 := apart_mulW (u := ay - py) (v := b_y - py) (by omega)
    omega
set_option maxRecDepth 100000 in
theorem tr_wOns (ax ay bx b_y px py : Int) : runX Try.prog (tabE TCw) 30 12 94 [.v (.agg #[iv ax, iv ay, iv bx, iv b_y]), .v (.agg #[iv px, iv py])] (fun u => .fin u []) = .need (pt2 ax ay = true) (.need (pt2 bx b_y = true) (.need (pt2 px py = true) (brT (crossI ax ay bx b_y px py == 0) (brT (decide ((if bx < ax then bx else ax) ≤ px)) (brT (decide (px ≤ if ax < bx then bx else ax)) (brT (decide ((if b_y < ay then b_y else ay) ≤ py)) (.fin (.bool (decide (py ≤ if ay < b_y then b_y else ay))) []) (.fin (.bool (false)) [])) (.fin (.bool (false)) [])) (.fin (.bool (false)) [])) (.fin (.bool (false)) [])))) := by kernel_rfl
theorem res_wOns {ax ay bx b_y px py : Int} (h1 : pt2 ax ay = true) (h2 : pt2 bx b_y = true) (h3 : pt2 px py = true) : Res Try.prog 94 [.v (.agg #[iv ax, iv ay, iv bx, iv b_y]), .v (.agg #[iv px, iv py])] (.bool (hasB ax ay bx b_y px py)) := by
  refine res_of mixed (tabE_ok TCw_ok) (m := 30) (n := 12) ?_
  rw [tr_wOns, has_eqW]
  refine ⟨h1, h2, h3, ?_⟩
  rcases hx : (crossI ax ay bx b_y px py == 0) with _ | _
  · simp [brT, Tree.ok]
  unfold btwBW
  simp only [brT_ok, Tree.ok, decide_eq_true_eq, decide_eq_false_iff_not, Bool.true_and]
  have key : ∀ b c : Bool, (b = true ↔ c = true) → Value.bool b = Value.bool c := fun b c h => by rw [Bool.eq_iff_iff.2 h]
  refine ⟨fun _ => ⟨fun c1 => ⟨fun c2 => ⟨fun c3 => ?_, fun c3 => ?_⟩, fun c2 => ?_⟩, fun c1 => ?_⟩, fun h => by cases h⟩
  all_goals refine key _ _ ?_
  all_goals simp only [decide_eq_true_eq, Bool.false_eq_true, false_iff]
  all_goals (split at * <;> (try split at *) <;> (try split at *) <;> (try split at *) <;> omega)
def pWo : List DArg → Option (Value × List Prop)
  | [.v (.agg ⟨[.int .i64 ax, .int .i64 ay, .int .i64 bx, .int .i64 b_y]⟩), .v (.agg ⟨[.int .i64 px, .int .i64 py]⟩)] => some (.bool (hasB ax ay bx b_y px py), [pt2 ax ay = true, pt2 bx b_y = true, pt2 px py = true])
  | _ => none
theorem pWo_ok {ds : List DArg} {v : Value} {C : List Prop} (h : pWo ds = some (v, C)) (hC : AllP C) : Res Try.prog 94 ds v := by
  unfold pWo at h
  split at h
  · obtain ⟨rfl, rfl⟩ : _ ∧ _ := by simpa using h
    exact res_wOns hC.1 hC.2.1 hC.2.2.1
  · cases h
def TWo : Tab := fun f ds => match f with
  | 94 => pWo ds
  | f => TCw f ds
theorem TWo_ok : TabOk Try.prog TWo := by
  intro f ds v C h hC
  unfold TWo at h
  (try split at h)
  all_goals first | with_reducible exact pWo_ok h hC | exact TCw_ok _ _ _ _ h hC
set_option maxRecDepth 100000 in
theorem tr_wInt (ax ay bx b_y cx cy px py : Int) : runX Try.prog (tabE TWo) 30 12 79 [.v (.agg #[iv ax, iv ay]), .v (.agg #[iv bx, iv b_y]), .v (.agg #[iv cx, iv cy]), .v (.agg #[iv px, iv py])] (fun u => .fin u []) = .need (pt2 ax ay = true) (.need (pt2 bx b_y = true) (.need (pt2 cx cy = true) (brT (decide (crossI ax ay bx b_y cx cy < 0)) (.need (pt2 ax ay = true) (.need (pt2 bx b_y = true) (.need (pt2 px py = true) (brT (decide (crossI ax ay bx b_y px py < 0)) (.need (pt2 bx b_y = true) (.need (pt2 cx cy = true) (.need (pt2 px py = true) (brT (decide (crossI bx b_y cx cy px py < 0)) (.need (pt2 cx cy = true) (.need (pt2 ax ay = true) (.need (pt2 px py = true) (brT (decide (crossI cx cy ax ay px py < 0)) (.fin (.bool (decide (0 ≤ ŵ (-1 * -1)))) []) (brT (decide (0 < crossI cx cy ax ay px py)) (.fin (.bool (decide (0 ≤ ŵ (1 * -1)))) []) (.fin (.bool (decide (0 ≤ ŵ (0 * -1)))) [])))))) (brT (decide (0 < crossI bx b_y cx cy px py)) (.fin (.bool (false)) []) (.need (pt2 cx cy = true) (.need (pt2 ax ay = true) (.need (pt2 px py = true) (brT (decide (crossI cx cy ax ay px py < 0)) (.fin (.bool (decide (0 ≤ ŵ (-1 * -1)))) []) (brT (decide (0 < crossI cx cy ax ay px py)) (.fin (.bool (decide (0 ≤ ŵ (1 * -1)))) []) (.fin (.bool (decide (0 ≤ ŵ (0 * -1)))) []))))))))))) (brT (decide (0 < crossI ax ay bx b_y px py)) (.fin (.bool (false)) []) (.need (pt2 bx b_y = true) (.need (pt2 cx cy = true) (.need (pt2 px py = true) (brT (decide (crossI bx b_y cx cy px py < 0)) (.need (pt2 cx cy = true) (.need (pt2 ax ay = true) (.need (pt2 px py = true) (brT (decide (crossI cx cy ax ay px py < 0)) (.fin (.bool (decide (0 ≤ ŵ (-1 * -1)))) []) (brT (decide (0 < crossI cx cy ax ay px py)) (.fin (.bool (decide (0 ≤ ŵ (1 * -1)))) []) (.fin (.bool (decide (0 ≤ ŵ (0 * -1)))) [])))))) (brT (decide (0 < crossI bx b_y cx cy px py)) (.fin (.bool (false)) []) (.need (pt2 cx cy = true) (.need (pt2 ax ay = true) (.need (pt2 px py = true) (brT (decide (crossI cx cy ax ay px py < 0)) (.fin (.bool (decide (0 ≤ ŵ (-1 * -1)))) []) (brT (decide (0 < crossI cx cy ax ay px py)) (.fin (.bool (decide (0 ≤ ŵ (1 * -1)))) []) (.fin (.bool (decide (0 ≤ ŵ (0 * -1)))) [])))))))))))))))) (brT (decide (0 < crossI ax ay bx b_y cx cy)) (.need (pt2 ax ay = true) (.need (pt2 bx b_y = true) (.need (pt2 px py = true) (brT (decide (crossI ax ay bx b_y px py < 0)) (.fin (.bool (false)) []) (brT (decide (0 < crossI ax ay bx b_y px py)) (.need (pt2 bx b_y = true) (.need (pt2 cx cy = true) (.need (pt2 px py = true) (brT (decide (crossI bx b_y cx cy px py < 0)) (.fin (.bool (false)) []) (brT (decide (0 < crossI bx b_y cx cy px py)) (.need (pt2 cx cy = true) (.need (pt2 ax ay = true) (.need (pt2 px py = true) (brT (decide (crossI cx cy ax ay px py < 0)) (.fin (.bool (decide (0 ≤ ŵ (-1 * 1)))) []) (brT (decide (0 < crossI cx cy ax ay px py)) (.fin (.bool (decide (0 ≤ ŵ (1 * 1)))) []) (.fin (.bool (decide (0 ≤ ŵ (0 * 1)))) [])))))) (.need (pt2 cx cy = true) (.need (pt2 ax ay = true) (.need (pt2 px py = true) (brT (decide (crossI cx cy ax ay px py < 0)) (.fin (.bool (decide (0 ≤ ŵ (-1 * 1)))) []) (brT (decide (0 < crossI cx cy ax ay px py)) (.fin (.bool (decide (0 ≤ ŵ (1 * 1)))) []) (.fin (.bool (decide (0 ≤ ŵ (0 * 1)))) []))))))))))) (.need (pt2 bx b_y = true) (.need (pt2 cx cy = true) (.need (pt2 px py = true) (brT (decide (crossI bx b_y cx cy px py < 0)) (.fin (.bool (false)) []) (brT (decide (0 < crossI bx b_y cx cy px py)) (.need (pt2 cx cy = true) (.need (pt2 ax ay = true) (.need (pt2 px py = true) (brT (decide (crossI cx cy ax ay px py < 0)) (.fin (.bool (decide (0 ≤ ŵ (-1 * 1)))) []) (brT (decide (0 < crossI cx cy ax ay px py)) (.fin (.bool (decide (0 ≤ ŵ (1 * 1)))) []) (.fin (.bool (decide (0 ≤ ŵ (0 * 1)))) [])))))) (.need (pt2 cx cy = true) (.need (pt2 ax ay = true) (.need (pt2 px py = true) (brT (decide (crossI cx cy ax ay px py < 0)) (.fin (.bool (decide (0 ≤ ŵ (-1 * 1)))) []) (brT (decide (0 < crossI cx cy ax ay px py)) (.fin (.bool (decide (0 ≤ ŵ (1 * 1)))) []) (.fin (.bool (decide (0 ≤ ŵ (0 * 1)))) [])))))))))))))))) (brT (negB false (ax == px && (ay == py && true))) (.fin (.bool (true)) []) (brT (negB true (ax == bx && (ay == b_y && true))) (.need (pt2 ax ay = true) (.need (pt2 bx b_y = true) (.need (pt2 px py = true) (brT (hasB ax ay bx b_y px py) (.fin (.bool (true)) []) (brT (negB true (bx == cx && (b_y == cy && true))) (.need (pt2 bx b_y = true) (.need (pt2 cx cy = true) (.need (pt2 px py = true) (brT (hasB bx b_y cx cy px py) (.fin (.bool (true)) []) (brT (negB true (ax == cx && (ay == cy && true))) (.need (pt2 ax ay = true) (.need (pt2 cx cy = true) (.need (pt2 px py = true) (.fin (.bool (hasB ax ay cx cy px py)) [])))) (.fin (.bool (false)) [])))))) (brT (negB true (ax == cx && (ay == cy && true))) (.need (pt2 ax ay = true) (.need (pt2 cx cy = true) (.need (pt2 px py = true) (.fin (.bool (hasB ax ay cx cy px py)) [])))) (.fin (.bool (false)) []))))))) (brT (negB true (bx == cx && (b_y == cy && true))) (.need (pt2 bx b_y = true) (.need (pt2 cx cy = true) (.need (pt2 px py = true) (brT (hasB bx b_y cx cy px py) (.fin (.bool (true)) []) (brT (negB true (ax == cx && (ay == cy && true))) (.need (pt2 ax ay = true) (.need (pt2 cx cy = true) (.need (pt2 px py = true) (.fin (.bool (hasB ax ay cx cy px py)) [])))) (.fin (.bool (false)) [])))))) (brT (negB true (ax == cx && (ay == cy && true))) (.need (pt2 ax ay = true) (.need (pt2 cx cy = true) (.need (pt2 px py = true) (.fin (.bool (hasB ax ay cx cy px py)) [])))) (.fin (.bool (false)) []))))))))) := by kernel_rfl
def itB (a b c q : Pt) : Bool := (decide (crP a b c = 0) && (decide (a = q) || ((!decide (a = b) && hsP a b q) || ((!decide (b = c) && hsP b c q) || (!decide (a = c) && hsP a c q))))) || ((decide (0 < crP a b c) && (decide (0 ≤ crP a b q) && (decide (0 ≤ crP b c q) && decide (0 ≤ crP c a q)))) || (decide (crP a b c < 0) && (decide (crP a b q ≤ 0) && (decide (crP b c q ≤ 0) && decide (crP c a q ≤ 0)))))
theorem itB_iff {a b c q : Pt} : itB a b c q = true ↔ inT a b c q := by
  unfold itB inT
  simp only [Bool.or_eq_true, Bool.and_eq_true, decide_eq_true_eq, Bool.not_eq_true', decide_eq_false_iff_not, ne_eq]
theorem itB_of {a b c q : Pt} {r : Bool} (h : r = true ↔ inT a b c q) : Value.bool r = Value.bool (itB a b c q) := by
  have e : r = itB a b c q := by
    rw [Bool.eq_iff_iff, itB_iff]
    exact h
  rw [e]
theorem inT_pos {a b c q : Pt} (s : 0 < crP a b c) : inT a b c q ↔ 0 ≤ crP a b q ∧ 0 ≤ crP b c q ∧ 0 ≤ crP c a q := by
  constructor
  · rintro (⟨h, _⟩ | ⟨_, h⟩ | ⟨h, _⟩)
    · omega
    · exact h
    · omega
  · exact fun h => .inr (.inl ⟨s, h⟩)
theorem inT_neg {a b c q : Pt} (s : crP a b c < 0) : inT a b c q ↔ crP a b q ≤ 0 ∧ crP b c q ≤ 0 ∧ crP c a q ≤ 0 := by
  constructor
  · rintro (⟨h, _⟩ | ⟨h, _⟩ | ⟨_, h⟩)
    · omega
    · omega
    · exact h
  · exact fun h => .inr (.inr ⟨s, h⟩)
theorem inT_zero {a b c q : Pt} (s : crP a b c = 0) : inT a b c q ↔ (a = q ∨ (a ≠ b ∧ hsP a b q = true) ∨ (b ≠ c ∧ hsP b c q = true) ∨ (a ≠ c ∧ hsP a c q = true)) := by
  constructor
  · rintro (⟨_, h⟩ | ⟨h, _⟩ | ⟨h, _⟩)
    · exact h
    · omega
    · omega
  · exact fun h => .inl ⟨s, h⟩
theorem eqp_iff (ax ay bx b_y : Int) : (ax == bx && (ay == b_y && true)) = decide (((ax, ay) : Pt) = (bx, b_y)) := by
  rw [Bool.eq_iff_iff]
  simp [Prod.mk.injEq]
set_option maxHeartbeats 4000000 in
theorem res_wInt {ax ay bx b_y cx cy px py : Int} (h1 : pt2 ax ay = true) (h2 : pt2 bx b_y = true) (h3 : pt2 cx cy = true) (h4 : pt2 px py = true) : Res Try.prog 79 [.v (.agg #[iv ax, iv ay]), .v (.agg #[iv bx, iv b_y]), .v (.agg #[iv cx, iv cy]), .v (.agg #[iv px, iv py])] (.bool (itB (ax, ay) (bx, b_y) (cx, cy) (px, py))) := by
  refine res_of mixed (tabE_ok TWo_ok) (m := 30) (n := 12) ?_
  rw [tr_wInt]
  have w1 : decide (0 ≤ ŵ ((-1 : Int) * -1)) = true := by decide
  have w2 : decide (0 ≤ ŵ ((1 : Int) * -1)) = false := by decide
  have w3 : decide (0 ≤ ŵ ((0 : Int) * -1)) = true := by decide
  have w4 : decide (0 ≤ ŵ ((-1 : Int) * 1)) = false := by decide
  have w5 : decide (0 ≤ ŵ ((1 : Int) * 1)) = true := by decide
  have w6 : decide (0 ≤ ŵ ((0 : Int) * 1)) = true := by decide
  rw [w1, w2, w3, w4, w5, w6]
  have eS : crossI ax ay bx b_y cx cy = crP (ax, ay) (bx, b_y) (cx, cy) := rfl
  have e1 : crossI ax ay bx b_y px py = crP (ax, ay) (bx, b_y) (px, py) := rfl
  have e2 : crossI bx b_y cx cy px py = crP (bx, b_y) (cx, cy) (px, py) := rfl
  have e3 : crossI cx cy ax ay px py = crP (cx, cy) (ax, ay) (px, py) := rfl
  have f1 : hasB ax ay bx b_y px py = hsP (ax, ay) (bx, b_y) (px, py) := rfl
  have f2 : hasB bx b_y cx cy px py = hsP (bx, b_y) (cx, cy) (px, py) := rfl
  have f3 : hasB ax ay cx cy px py = hsP (ax, ay) (cx, cy) (px, py) := rfl
  rw [eS, e1, e2, e3, f1, f2, f3, eqp_iff, eqp_iff, eqp_iff, eqp_iff]
  have n1 : ∀ b, negB true b = !b := by intro b; cases b <;> rfl
  have n2 : ∀ b, negB false b = b := by intro b; cases b <;> rfl
  simp only [n1, n2]
  generalize ((ax, ay) : Pt) = a at *
  generalize ((bx, b_y) : Pt) = b at *
  generalize ((cx, cy) : Pt) = c at *
  generalize ((px, py) : Pt) = q at *
  rcases Int.lt_trichotomy (crP a b c) 0 with s | s | s
  · simp only [decide_eq_true s, brT_t, brT_f, Tree.ok, brT_ok, decide_eq_true_eq, decide_eq_false_iff_not]
    repeat' (first | intro _ | assumption | refine And.intro ?_ ?_)
    all_goals refine itB_of ?_
    all_goals rw [inT_neg s]
    all_goals simp only [true_iff, false_iff, Bool.false_eq_true]
    all_goals omega
  · have eI : itB a b c q = (decide (a = q) || ((!decide (a = b) && hsP a b q) || ((!decide (b = c) && hsP b c q) || (!decide (a = c) && hsP a c q)))) := by
      rw [Bool.eq_iff_iff, itB_iff, inT_zero s]
      simp only [Bool.or_eq_true, Bool.and_eq_true, decide_eq_true_eq, Bool.not_eq_true', decide_eq_false_iff_not, ne_eq]
    rw [eI]
    simp only [decide_eq_false (show ¬ crP a b c < 0 by omega), decide_eq_false (show ¬ 0 < crP a b c by omega), brT_t, brT_f]
    generalize decide (a = q) = B0
    generalize decide (a = b) = B1
    generalize decide (b = c) = B2
    generalize decide (a = c) = B3
    generalize hsP a b q = H1
    generalize hsP b c q = H2
    generalize hsP a c q = H3
    cases B0 <;> cases B1 <;> cases B2 <;> cases B3 <;> cases H1 <;> cases H2 <;> cases H3
    all_goals repeat' (first | assumption | exact rfl | refine And.intro ?_ ?_)
  · simp only [decide_eq_false (show ¬ crP a b c < 0 by omega), decide_eq_true s, brT_t, brT_f, Tree.ok, brT_ok, decide_eq_true_eq, decide_eq_false_iff_not]
    repeat' (first | intro _ | assumption | refine And.intro ?_ ?_)
    all_goals refine itB_of ?_
    all_goals rw [inT_pos s]
    all_goals simp only [true_iff, false_iff, Bool.false_eq_true]
    all_goals omega
def pItw : List DArg → Option (Value × List Prop)
  | [.v (.agg ⟨[.int .i64 ax, .int .i64 ay]⟩), .v (.agg ⟨[.int .i64 bx, .int .i64 b_y]⟩), .v (.agg ⟨[.int .i64 cx, .int .i64 cy]⟩), .v (.agg ⟨[.int .i64 px, .int .i64 py]⟩)] => some (.bool (itB (ax, ay) (bx, b_y) (cx, cy) (px, py)), [pt2 ax ay = true, pt2 bx b_y = true, pt2 cx cy = true, pt2 px py = true])
  | _ => none
theorem pItw_ok {ds : List DArg} {v : Value} {C : List Prop} (h : pItw ds = some (v, C)) (hC : AllP C) : Res Try.prog 79 ds v := by
  unfold pItw at h
  split at h
  · obtain ⟨rfl, rfl⟩ : _ ∧ _ := by simpa using h
    exact res_wInt hC.1 hC.2.1 hC.2.2.1 hC.2.2.2.1
  · cases h
def TWx : Tab := fun f ds => match f with
  | 79 => pItw ds
  | f => B0 f ds
theorem TWx_ok : TabOk Try.prog TWx := by
  intro f ds v C h hC
  unfold TWx at h
  (try split at h)
  all_goals first | with_reducible exact pItw_ok h hC | exact B0_ok _ _ _ _ h hC
def EWx : Env := mkE TWx (fun _ _ => none) (fun _ => noL)
theorem EWx_ok : EnvOk Try.prog EWx := mkEOk TWx_ok (fun _ _ _ _ _ h => (by cases h)) (fun _ _ _ => noL_good)
def exF (p : Nat → Bool) (N n : Nat) : Bool := (List.range' n (N - n)).any p
theorem exF_step {p : Nat → Bool} {N n : Nat} (h : n < N) : exF p N n = (p n || exF p N (n + 1)) := by
  unfold exF
  obtain ⟨d, hd⟩ : ∃ d, N - n = d + 1 := ⟨N - n - 1, by omega⟩
  rw [hd, List.range'_succ, List.any_cons, show N - (n + 1) = d by omega]
theorem exF_end {p : Nat → Bool} {N n : Nat} (h : N ≤ n) : exF p N n = false := by
  unfold exF
  rw [show N - n = 0 by omega]
  rfl
theorem exF_iff {p : Nat → Bool} {N n : Nat} : exF p N n = true ↔ ∃ k, n ≤ k ∧ k < N ∧ p k = true := by
  unfold exF
  rw [List.any_eq_true]
  constructor
  · rintro ⟨k, hk, hp⟩
    rw [List.mem_range'_1] at hk
    exact ⟨k, hk.1, by omega, hp⟩
  · rintro ⟨k, h1, h2, hp⟩
    exact ⟨k, by rw [List.mem_range'_1]; omega, hp⟩
def fiR (p : Nat → Bool) : Nat → Nat → Nat
  | 0, n => n
  | d + 1, n => bif p n then n else fiR p d (n + 1)
def fiF (p : Nat → Bool) (N n : Nat) : Nat := fiR p (N - n) n
theorem fiF_yes {p : Nat → Bool} {N n : Nat} (h : n < N) (hp : p n = true) : fiF p N n = n := by
  unfold fiF
  obtain ⟨d, hd⟩ : ∃ d, N - n = d + 1 := ⟨N - n - 1, by omega⟩
  rw [hd]
  simp only [fiR, hp, cond_true]
theorem fiF_no {p : Nat → Bool} {N n : Nat} (h : n < N) (hp : p n = false) : fiF p N n = fiF p N (n + 1) := by
  unfold fiF
  obtain ⟨d, hd⟩ : ∃ d, N - n = d + 1 := ⟨N - n - 1, by omega⟩
  rw [hd, show N - (n + 1) = d by omega]
  simp only [fiR, hp, cond_false]
def w3 (ps : List Pt) (x y : Int) (i k n : Nat) : Bool := itB (ps.getD i (0, 0)) (ps.getD k (0, 0)) (ps.getD n (0, 0)) (x, y)
def w2 (ps : List Pt) (x y : Int) (i k : Nat) : Bool := exF (w3 ps x y i k) ps.length k
def w1 (ps : List Pt) (x y : Int) (i : Nat) : Bool := exF (w2 ps x y i) ps.length i
noncomputable def c_wtn : Code := ((loopsOf (codeOf Try.f48))[2]?).getD .skip
def k_wtn : Ex → List Nat := keeps [0, 3, 5, 6, 7] [(4, [0, 3, 5, 6])] [4]
def s_wtn (ps : List Pt) (x y : Int) (i k : Nat) : Nat → St := fun n => ⟨(ß 0 ps.length ps.length :: topV :: topV :: .pointer (some ⟨2, 0, none⟩) :: topV :: .int .i64 i :: .int .i64 k :: .int .i64 n :: ω39 []), [some ⟨.view, .ints (flat ps)⟩, none, some ⟨.box, .vals [.int .i64 x, .int .i64 y]⟩]⟩
def re_wtn (ps : List Pt) (x y : Int) (i k : Nat) : Nat → Ex := fun n => bif exF (w3 ps x y i k) ps.length n then .ret else .exit 4
def rs_wtn (ps : List Pt) (x y : Int) (i k : Nat) : Nat → St := fun n => bif exF (w3 ps x y i k) ps.length n then ⟨(ω4 ß 3 3 3 :: ω42 []), [some ⟨.view, .ints (flat ps)⟩, none, some ⟨.box, .vals [.int .i64 x, .int .i64 y]⟩, some ⟨.row 3 1, .vals [.int .i64 i, .int .i64 k, .int .i64 (fiF (w3 ps x y i k) ps.length n)]⟩]⟩ else ⟨(ß 0 ps.length ps.length :: topV :: topV :: .pointer (some ⟨2, 0, none⟩) :: topV :: .int .i64 i :: .int .i64 k :: ω40 []), [some ⟨.view, .ints (flat ps)⟩, none, some ⟨.box, .vals [.int .i64 x, .int .i64 y]⟩]⟩
set_option maxRecDepth 100000 in
theorem tr_wtn (ps : List Pt) (x y : Int) (i k : Nat) (n : Nat) : bodyL Try.prog EWx 30 12 noL 3 c_wtn k_wtn 16 (s_wtn ps x y i k n) = brT (decide ((↑n : Int) < (↑ps.length : Int))) (.need (pt2 ((flat ps).getD ((0 : Nat) + (↑i : Int).toNat * (2 : Nat)) (0 : Int)) ((flat ps).getD ((0 : Nat) + (↑i : Int).toNat * (2 : Nat) + (1 : Nat)) (0 : Int)) = true) (.need (pt2 ((flat ps).getD ((0 : Nat) + (↑k : Int).toNat * (2 : Nat)) (0 : Int)) ((flat ps).getD ((0 : Nat) + (↑k : Int).toNat * (2 : Nat) + (1 : Nat)) (0 : Int)) = true) (.need (pt2 ((flat ps).getD ((0 : Nat) + (↑n : Int).toNat * (2 : Nat)) (0 : Int)) ((flat ps).getD ((0 : Nat) + (↑n : Int).toNat * (2 : Nat) + (1 : Nat)) (0 : Int)) = true) (.need (pt2 x y = true) (.need ((0 : Int) ≤ (↑i : Int) ∧ (↑i : Int) < (↑ps.length : Int)) (.need ((0 : Nat) + (↑i : Int).toNat * (2 : Nat) + (2 : Nat) ≤ (flat ps).length) (.need ((0 : Int) ≤ (↑k : Int) ∧ (↑k : Int) < (↑ps.length : Int)) (.need ((0 : Nat) + (↑k : Int).toNat * (2 : Nat) + (2 : Nat) ≤ (flat ps).length) (.need ((0 : Int) ≤ (↑n : Int) ∧ (↑n : Int) < (↑ps.length : Int)) (.need ((0 : Nat) + (↑n : Int).toNat * (2 : Nat) + (2 : Nat) ≤ (flat ps).length) (brT (itB ((flat ps).getD (0 + (↑i : Int).toNat * (2 : Nat)) 0, (flat ps).getD (0 + (↑i : Int).toNat * (2 : Nat) + 1) 0) ((flat ps).getD (0 + (↑k : Int).toNat * (2 : Nat)) 0, (flat ps).getD (0 + (↑k : Int).toNat * (2 : Nat) + 1) 0) ((flat ps).getD (0 + (↑n : Int).toNat * (2 : Nat)) 0, (flat ps).getD (0 + (↑n : Int).toNat * (2 : Nat) + 1) 0) (x, y)) (.leaf .ret ⟨(ω4 ß 4 (3) (3) :: ω42 []), [some ⟨.view, .ints (flat ps)⟩, none, some ⟨.box, .vals [.int .i64 (x), .int .i64 (y)]⟩, none, some ⟨.row 3 1, .vals [.int .i64 ((↑i : Int)), .int .i64 ((↑k : Int)), .int .i64 ((↑n : Int))]⟩]⟩) (.leaf .normal ⟨(ß 0 (ps.length) (ps.length) :: topV :: topV :: .pointer (some ⟨2, 0, none⟩) :: topV :: .int .i64 ((↑i : Int)) :: .int .i64 ((↑k : Int)) :: .int .i64 (ŵ ((↑n : Int) + 1)) :: ω39 []), [some ⟨.view, .ints (flat ps)⟩, none, some ⟨.box, .vals [.int .i64 (x), .int .i64 (y)]⟩, none]⟩)))))))))))) (.leaf (.exit 4) ⟨(ß 0 (ps.length) (ps.length) :: topV :: topV :: .pointer (some ⟨2, 0, none⟩) :: topV :: .int .i64 ((↑i : Int)) :: .int .i64 ((↑k : Int)) :: ω40 []), [some ⟨.view, .ints (flat ps)⟩, none, some ⟨.box, .vals [.int .i64 (x), .int .i64 (y)]⟩]⟩) := by kernel_rfl
set_option maxRecDepth 100000 in
theorem nl_wtn : loopsOf c_wtn = [] := by kernel_rfl
def inv_wtn (ps : List Pt) (x y : Int) (i k : Nat) : Nat → Prop := fun n => n ≤ ps.length
def me_wtn (ps : List Pt) (x y : Int) (i k : Nat) : Nat → Nat := fun n => ps.length - n
def Round_wtn (ps : List Pt) (x y : Int) (i k : Nat) : Prop := ∀ xx : Nat, inv_wtn ps x y i k xx → (bodyL Try.prog EWx 30 12 noL 3 c_wtn k_wtn 16 (s_wtn ps x y i k xx)).ok (RoundEnd 3 (s_wtn ps x y i k) (inv_wtn ps x y i k) (me_wtn ps x y i k) (re_wtn ps x y i k) (rs_wtn ps x y i k) xx) (fun _ _ => False)
def e_wtn (s : St) (k : Ex → St → Tree) : Option Tree := match Nat.beq s.tmps.length 47, pickL s.tmps [0, 3, 5, 6, 7], s.mem with
  | true, [ß 0 N _, .pointer (some ⟨2, 0, none⟩), .int .i64 ii, .int .i64 kk, .int .i64 nn], [some ⟨.view, .ints xs⟩, none, some ⟨.box, .vals [.int .i64 x, .int .i64 y]⟩] => some (needs [nn = kk, xs.length = N * 2, allW (ptsA N xs) = true, N ≤ 1000, pt2 x y = true, 0 ≤ ii, 0 ≤ kk, ii < N, kk < N] (brT (exF (w3 (ptsA N xs) x y ii.toNat kk.toNat) N kk.toNat) (k .ret ⟨(ω4 ß 3 3 3 :: ω42 []), [some ⟨.view, .ints xs⟩, none, some ⟨.box, .vals [.int .i64 x, .int .i64 y]⟩, some ⟨.row 3 1, .vals [.int .i64 ii, .int .i64 kk, .int .i64 (fiF (w3 (ptsA N xs) x y ii.toNat kk.toNat) N kk.toNat)]⟩]⟩) (k (.exit 4) ⟨(ß 0 N N :: topV :: topV :: .pointer (some ⟨2, 0, none⟩) :: topV :: .int .i64 ii :: .int .i64 kk :: ω40 []), [some ⟨.view, .ints xs⟩, none, some ⟨.box, .vals [.int .i64 x, .int .i64 y]⟩]⟩)))
  | _, _, _ => none
set_option maxRecDepth 100000 in
theorem round_wtn (ps : List Pt) (x y : Int) (i k : Nat) (hv : allW ps = true) (h : ps.length ≤ 1000) (hq : pt2 x y = true) (hi : i < ps.length) (hk : k < ps.length) : Round_wtn ps x y i k := by
  intro n h1
  have h1 : n ≤ ps.length := h1
  rw [tr_wtn]
  simp only [Int.toNat_natCast, Nat.zero_add, Nat.add_zero, flat_get0, flat_get1, flat_length]
  refine brT_ok.2 ⟨fun c => ?_, fun c => ?_⟩
  · have c := of_decide_eq_true c
    have hn : n < ps.length := by omega
    have hs := exF_step (p := w3 ps x y i k) hn
    rw [wsucc hn (by omega)]
    refine ⟨allW_at hv hi, allW_at hv hk, allW_at hv hn, hq, by omega, by omega, by omega, by omega, by omega, by omega, brT_ok.2 ⟨fun q => ?_, fun q => ?_⟩⟩
    · have q : w3 ps x y i k n = true := q
      have e : exF (w3 ps x y i k) ps.length n = true := by rw [hs, q]; rfl
      refine ⟨by simp only [re_wtn, e, cond_true], [some 4], ?_⟩
      simp only [rs_wtn, e, cond_true, fiF_yes hn q]
      repeat' (first | exact True.intro | exact rfl | exact wv_top _ _ | exact fun _ => rfl | (simp; done) | refine And.intro ?_ ?_)
    · have q : w3 ps x y i k n = false := q
      have e : exF (w3 ps x y i k) ps.length n = exF (w3 ps x y i k) ps.length (n + 1) := by rw [hs, q, Bool.false_or]
      have g := fiF_no hn q
      refine ⟨n + 1, [], ?_, ?_, by simp only [re_wtn, e], by simp only [rs_wtn, e, g], ?_⟩
      · show n + 1 ≤ ps.length; omega
      · show ps.length - (n + 1) < ps.length - n; omega
      · repeat' (first | exact True.intro | exact rfl | exact wv_top _ _ | exact fun _ => rfl | (simp; done) | refine And.intro ?_ ?_)
  · have c := of_decide_eq_false c
    have e : exF (w3 ps x y i k) ps.length n = false := exF_end (by omega)
    refine ⟨by simp only [re_wtn, e, cond_false], [], ?_⟩
    simp only [rs_wtn, e, cond_false]
    repeat' (first | exact True.intro | exact rfl | exact wv_top _ _ | exact fun _ => rfl | (simp; done) | refine And.intro ?_ ?_)
set_option maxRecDepth 100000 in
theorem lg_wtn : LoopE Try.prog e_wtn c_wtn := by
  intro s k t F H hlt ht
  unfold e_wtn at hlt
  split at hlt
  rotate_left
  · cases hlt
  rename_i hlen hpick hmem
  obtain ⟨tmps, mem⟩ := s
  simp only at hlen hpick hmem
  subst hmem
  obtain rfl := Option.some.inj hlt
  obtain ⟨⟨rfl, h1, h2, h3, h4, h5, h6, h7, h8, _⟩, ht2⟩ := needs_ok ht
  clear ht hlt
  obtain ⟨ps, rfl, rfl⟩ := even_flat h1
  obtain ⟨i, rfl⟩ := Int.eq_ofNat_of_zero_le h5
  obtain ⟨k, rfl⟩ := Int.eq_ofNat_of_zero_le h6
  rw [ptsA_flat] at h2
  simp only [ptsA_flat, Int.toNat_natCast] at ht2
  refine ⟨_, _, pick2k ht2, loop_run2 mixed EWx_ok (s_wtn ps _ _ i k) (inv_wtn ps _ _ i k) (me_wtn ps _ _ i k) (re_wtn ps _ _ i k) (rs_wtn ps _ _ i k) k_wtn (fun _ => rfl) (noLoops nl_wtn) (round_wtn ps _ _ i k h2 h3 h4 (by omega) (by omega)) (x := k) (by have := h8; show k ≤ ps.length; omega) (π := []) rfl ?_⟩
  refine ⟨rfl, rfl, ?_, wvs_spread' [0, 3, 5, 6, 7] hlen rfl ?_⟩
  · repeat' (first | exact True.intro | exact rfl | exact wv_top _ _ | exact fun _ => rfl | assumption | exact Eq.symm (by assumption) | exact vI0 rfl | refine And.intro ?_ ?_)
  · rw [hpick]
    repeat' (first | exact True.intro | exact rfl | exact wv_top _ _ | exact fun _ => rfl | assumption | exact Eq.symm (by assumption) | exact vI0 rfl | refine And.intro ?_ ?_)
def ltWn : LT := fun j s k => match j with
  | 2 => e_wtn s k
  | _ => none
noncomputable def c_wtk : Code := ((loopsOf (codeOf Try.f48))[1]?).getD .skip
def k_wtk : Ex → List Nat := keeps [0, 3, 5, 6] [(2, [0, 3, 5])] [4]
def s_wtk (ps : List Pt) (x y : Int) (i : Nat) : Nat → St := fun k => ⟨(ß 0 ps.length ps.length :: topV :: topV :: .pointer (some ⟨2, 0, none⟩) :: topV :: .int .i64 i :: .int .i64 k :: ω40 []), [some ⟨.view, .ints (flat ps)⟩, none, some ⟨.box, .vals [.int .i64 x, .int .i64 y]⟩]⟩
def re_wtk (ps : List Pt) (x y : Int) (i : Nat) : Nat → Ex := fun k => bif exF (w2 ps x y i) ps.length k then .ret else .exit 2
def rs_wtk (ps : List Pt) (x y : Int) (i : Nat) : Nat → St := fun k => bif exF (w2 ps x y i) ps.length k then ⟨(ω4 ß 3 3 3 :: ω42 []), [some ⟨.view, .ints (flat ps)⟩, none, some ⟨.box, .vals [.int .i64 x, .int .i64 y]⟩, some ⟨.row 3 1, .vals [.int .i64 i, .int .i64 (fiF (w2 ps x y i) ps.length k), .int .i64 (fiF (w3 ps x y i (fiF (w2 ps x y i) ps.length k)) ps.length (fiF (w2 ps x y i) ps.length k))]⟩]⟩ else ⟨(ß 0 ps.length ps.length :: topV :: topV :: .pointer (some ⟨2, 0, none⟩) :: topV :: .int .i64 i :: ω41 []), [some ⟨.view, .ints (flat ps)⟩, none, some ⟨.box, .vals [.int .i64 x, .int .i64 y]⟩]⟩
set_option maxRecDepth 100000 in
theorem tr_wtk (ps : List Pt) (x y : Int) (i : Nat) (k : Nat) : bodyL Try.prog EWx 30 12 ltWn 2 c_wtk k_wtk 16 (s_wtk ps x y i k) = brT (decide ((↑k : Int) < (↑ps.length : Int))) (.need ((↑k : Int) = (↑k : Int)) (.need ((flat ps).length = ps.length * (2 : Nat)) (.need (allW (ptsA ps.length (flat ps)) = true) (.need (ps.length ≤ (1000 : Nat)) (.need (pt2 x y = true) (.need ((0 : Int) ≤ (↑i : Int)) (.need ((0 : Int) ≤ (↑k : Int)) (.need ((↑i : Int) < (↑ps.length : Int)) (.need ((↑k : Int) < (↑ps.length : Int)) (brT (exF (w3 (ptsA ps.length (flat ps)) x y (↑i : Int).toNat (↑k : Int).toNat) ps.length (↑k : Int).toNat) (.leaf .ret ⟨(ω4 ß 3 (3) (3) :: ω42 []), [some ⟨.view, .ints (flat ps)⟩, none, some ⟨.box, .vals [.int .i64 (x), .int .i64 (y)]⟩, some ⟨.row 3 1, .vals [.int .i64 ((↑i : Int)), .int .i64 ((↑k : Int)), .int .i64 ((↑(fiF (w3 (ptsA ps.length (flat ps)) x y (↑i : Int).toNat (↑k : Int).toNat) ps.length (↑k : Int).toNat) : Int))]⟩]⟩) (.leaf .normal ⟨(ß 0 (ps.length) (ps.length) :: topV :: topV :: .pointer (some ⟨2, 0, none⟩) :: topV :: .int .i64 ((↑i : Int)) :: .int .i64 (ŵ ((↑k : Int) + 1)) :: ω40 []), [some ⟨.view, .ints (flat ps)⟩, none, some ⟨.box, .vals [.int .i64 (x), .int .i64 (y)]⟩]⟩))))))))))) (.leaf (.exit 2) ⟨(ß 0 (ps.length) (ps.length) :: topV :: topV :: .pointer (some ⟨2, 0, none⟩) :: topV :: .int .i64 ((↑i : Int)) :: ω41 []), [some ⟨.view, .ints (flat ps)⟩, none, some ⟨.box, .vals [.int .i64 (x), .int .i64 (y)]⟩]⟩) := by kernel_rfl
def inv_wtk (ps : List Pt) (x y : Int) (i : Nat) : Nat → Prop := fun k => k ≤ ps.length
def me_wtk (ps : List Pt) (x y : Int) (i : Nat) : Nat → Nat := fun k => ps.length - k
def Round_wtk (ps : List Pt) (x y : Int) (i : Nat) : Prop := ∀ xx : Nat, inv_wtk ps x y i xx → (bodyL Try.prog EWx 30 12 ltWn 2 c_wtk k_wtk 16 (s_wtk ps x y i xx)).ok (RoundEnd 3 (s_wtk ps x y i) (inv_wtk ps x y i) (me_wtk ps x y i) (re_wtk ps x y i) (rs_wtk ps x y i) xx) (fun _ _ => False)
def e_wtk (s : St) (k : Ex → St → Tree) : Option Tree := match Nat.beq s.tmps.length 47, pickL s.tmps [0, 3, 5, 6], s.mem with
  | true, [ß 0 N _, .pointer (some ⟨2, 0, none⟩), .int .i64 ii, .int .i64 kk], [some ⟨.view, .ints xs⟩, none, some ⟨.box, .vals [.int .i64 x, .int .i64 y]⟩] => some (needs [kk = ii, xs.length = N * 2, allW (ptsA N xs) = true, N ≤ 1000, pt2 x y = true, 0 ≤ ii, ii < N] (brT (exF (w2 (ptsA N xs) x y ii.toNat) N ii.toNat) (k .ret ⟨(ω4 ß 3 3 3 :: ω42 []), [some ⟨.view, .ints xs⟩, none, some ⟨.box, .vals [.int .i64 x, .int .i64 y]⟩, some ⟨.row 3 1, .vals [.int .i64 ii, .int .i64 (fiF (w2 (ptsA N xs) x y ii.toNat) N ii.toNat), .int .i64 (fiF (w3 (ptsA N xs) x y ii.toNat (fiF (w2 (ptsA N xs) x y ii.toNat) N ii.toNat)) N (fiF (w2 (ptsA N xs) x y ii.toNat) N ii.toNat))]⟩]⟩) (k (.exit 2) ⟨(ß 0 N N :: topV :: topV :: .pointer (some ⟨2, 0, none⟩) :: topV :: .int .i64 ii :: ω41 []), [some ⟨.view, .ints xs⟩, none, some ⟨.box, .vals [.int .i64 x, .int .i64 y]⟩]⟩)))
  | _, _, _ => none
set_option maxRecDepth 100000 in
theorem in_wtk : loopsOf c_wtk = [c_wtn] := by kernel_rfl
theorem ltWn_good : LoopsGood Try.prog ltWn 2 c_wtk := by
  intro i d hd s k t F H hlt ht
  rw [in_wtk] at hd
  cases i with
  | zero =>
    obtain rfl : c_wtn = d := by simpa using hd
    exact lg_wtn s k t F H hlt ht
  | succ i => simp at hd
set_option maxRecDepth 100000 in
theorem round_wtk (ps : List Pt) (x y : Int) (i : Nat) (hv : allW ps = true) (h : ps.length ≤ 1000) (hq : pt2 x y = true) (hi : i < ps.length) : Round_wtk ps x y i := by
  intro k h1
  have h1 : k ≤ ps.length := h1
  rw [tr_wtk]
  simp only [Int.toNat_natCast, Nat.zero_add, Nat.add_zero, ptsA_flat, flat_length]
  refine brT_ok.2 ⟨fun c => ?_, fun c => ?_⟩
  · have c := of_decide_eq_true c
    have hn : k < ps.length := by omega
    have hs := exF_step (p := w2 ps x y i) hn
    rw [wsucc hn (by omega)]
    repeat (refine And.intro (by first | exact True.intro | assumption | omega | exact rfl) ?_)
    refine brT_ok.2 ⟨fun q => ?_, fun q => ?_⟩
    · have q : (w2 ps x y i) k = true := q
      have e : exF (w2 ps x y i) ps.length k = true := by rw [hs, q]; rfl
      refine ⟨by simp only [re_wtk, e, cond_true], [some 3], ?_⟩
      simp only [rs_wtk, e, cond_true, fiF_yes hn q]
      repeat' (first | exact True.intro | exact rfl | exact wv_top _ _ | exact fun _ => rfl | (simp; done) | refine And.intro ?_ ?_)
    · have q : (w2 ps x y i) k = false := q
      have e : exF (w2 ps x y i) ps.length k = exF (w2 ps x y i) ps.length (k + 1) := by rw [hs, q, Bool.false_or]
      have g := fiF_no hn q
      refine ⟨k + 1, [], ?_, ?_, by simp only [re_wtk, e], by simp only [rs_wtk, e, g], ?_⟩
      · show k + 1 ≤ ps.length; omega
      · show ps.length - (k + 1) < ps.length - k; omega
      · repeat' (first | exact True.intro | exact rfl | exact wv_top _ _ | exact fun _ => rfl | (simp; done) | refine And.intro ?_ ?_)
  · have c := of_decide_eq_false c
    have e : exF (w2 ps x y i) ps.length k = false := exF_end (by omega)
    refine ⟨by simp only [re_wtk, e, cond_false], [], ?_⟩
    simp only [rs_wtk, e, cond_false]
    repeat' (first | exact True.intro | exact rfl | exact wv_top _ _ | exact fun _ => rfl | (simp; done) | refine And.intro ?_ ?_)
set_option maxRecDepth 100000 in
theorem lg_wtk : LoopE Try.prog e_wtk c_wtk := by
  intro s k t F H hlt ht
  unfold e_wtk at hlt
  split at hlt
  rotate_left
  · cases hlt
  rename_i hlen hpick hmem
  obtain ⟨tmps, mem⟩ := s
  simp only at hlen hpick hmem
  subst hmem
  obtain rfl := Option.some.inj hlt
  obtain ⟨⟨rfl, h1, h2, h3, h4, h5, h7, _⟩, ht2⟩ := needs_ok ht
  clear ht hlt
  obtain ⟨ps, rfl, rfl⟩ := even_flat h1
  obtain ⟨i, rfl⟩ := Int.eq_ofNat_of_zero_le h5
  rw [ptsA_flat] at h2
  simp only [ptsA_flat, Int.toNat_natCast] at ht2
  refine ⟨_, _, pick2k ht2, loop_run2 mixed EWx_ok (s_wtk ps _ _ i) (inv_wtk ps _ _ i) (me_wtk ps _ _ i) (re_wtk ps _ _ i) (rs_wtk ps _ _ i) k_wtk (fun _ => rfl) ltWn_good (round_wtk ps _ _ i h2 h3 h4 (by omega)) (x := i) (by have := h7; show i ≤ ps.length; omega) (π := []) rfl ?_⟩
  refine ⟨rfl, rfl, ?_, wvs_spread' [0, 3, 5, 6] hlen rfl ?_⟩
  · repeat' (first | exact True.intro | exact rfl | exact wv_top _ _ | exact fun _ => rfl | assumption | exact Eq.symm (by assumption) | exact vI0 rfl | refine And.intro ?_ ?_)
  · rw [hpick]
    repeat' (first | exact True.intro | exact rfl | exact wv_top _ _ | exact fun _ => rfl | assumption | exact Eq.symm (by assumption) | exact vI0 rfl | refine And.intro ?_ ?_)
def ltWk : LT := fun j s k => match j with
  | 1 => e_wtk s k
  | _ => none
noncomputable def c_wto : Code := ((loopsOf (codeOf Try.f48))[0]?).getD .skip
def k_wto : Ex → List Nat := keeps [0, 3, 5] [(0, [])] [4]
def s_wto (ps : List Pt) (x y : Int) : Nat → St := fun i => ⟨(ß 0 ps.length ps.length :: topV :: topV :: .pointer (some ⟨2, 0, none⟩) :: topV :: .int .i64 i :: ω41 []), [some ⟨.view, .ints (flat ps)⟩, none, some ⟨.box, .vals [.int .i64 x, .int .i64 y]⟩]⟩
def re_wto (ps : List Pt) (x y : Int) : Nat → Ex := fun i => bif exF (w1 ps x y) ps.length i then .ret else .exit 0
def rs_wto (ps : List Pt) (x y : Int) : Nat → St := fun i => bif exF (w1 ps x y) ps.length i then ⟨(ω4 ß 3 3 3 :: ω42 []), [some ⟨.view, .ints (flat ps)⟩, none, some ⟨.box, .vals [.int .i64 x, .int .i64 y]⟩, some ⟨.row 3 1, .vals [.int .i64 (fiF (w1 ps x y) ps.length i), .int .i64 (fiF (w2 ps x y (fiF (w1 ps x y) ps.length i)) ps.length (fiF (w1 ps x y) ps.length i)), .int .i64 (fiF (w3 ps x y (fiF (w1 ps x y) ps.length i) (fiF (w2 ps x y (fiF (w1 ps x y) ps.length i)) ps.length (fiF (w1 ps x y) ps.length i))) ps.length (fiF (w2 ps x y (fiF (w1 ps x y) ps.length i)) ps.length (fiF (w1 ps x y) ps.length i)))]⟩]⟩ else ⟨(ω47 []), [some ⟨.view, .ints (flat ps)⟩, none, some ⟨.box, .vals [.int .i64 x, .int .i64 y]⟩]⟩
set_option maxRecDepth 100000 in
theorem tr_wto (ps : List Pt) (x y : Int) (i : Nat) : bodyL Try.prog EWx 30 12 ltWk 1 c_wto k_wto 16 (s_wto ps x y i) = brT (decide ((↑i : Int) < (↑ps.length : Int))) (.need ((↑i : Int) = (↑i : Int)) (.need ((flat ps).length = ps.length * (2 : Nat)) (.need (allW (ptsA ps.length (flat ps)) = true) (.need (ps.length ≤ (1000 : Nat)) (.need (pt2 x y = true) (.need ((0 : Int) ≤ (↑i : Int)) (.need ((↑i : Int) < (↑ps.length : Int)) (brT (exF (w2 (ptsA ps.length (flat ps)) x y (↑i : Int).toNat) ps.length (↑i : Int).toNat) (.leaf .ret ⟨(ω4 ß 3 (3) (3) :: ω42 []), [some ⟨.view, .ints (flat ps)⟩, none, some ⟨.box, .vals [.int .i64 (x), .int .i64 (y)]⟩, some ⟨.row 3 1, .vals [.int .i64 ((↑i : Int)), .int .i64 ((↑(fiF (w2 (ptsA ps.length (flat ps)) x y (↑i : Int).toNat) ps.length (↑i : Int).toNat) : Int)), .int .i64 ((↑(fiF (w3 (ptsA ps.length (flat ps)) x y (↑i : Int).toNat (fiF (w2 (ptsA ps.length (flat ps)) x y (↑i : Int).toNat) ps.length (↑i : Int).toNat)) ps.length (fiF (w2 (ptsA ps.length (flat ps)) x y (↑i : Int).toNat) ps.length (↑i : Int).toNat)) : Int))]⟩]⟩) (.leaf .normal ⟨(ß 0 (ps.length) (ps.length) :: topV :: topV :: .pointer (some ⟨2, 0, none⟩) :: topV :: .int .i64 (ŵ ((↑i : Int) + 1)) :: ω41 []), [some ⟨.view, .ints (flat ps)⟩, none, some ⟨.box, .vals [.int .i64 (x), .int .i64 (y)]⟩]⟩))))))))) (.leaf (.exit 0) ⟨(ω47 []), [some ⟨.view, .ints (flat ps)⟩, none, some ⟨.box, .vals [.int .i64 (x), .int .i64 (y)]⟩]⟩) := by kernel_rfl
def inv_wto (ps : List Pt) (x y : Int) : Nat → Prop := fun i => i ≤ ps.length
def me_wto (ps : List Pt) (x y : Int) : Nat → Nat := fun i => ps.length - i
def Round_wto (ps : List Pt) (x y : Int) : Prop := ∀ xx : Nat, inv_wto ps x y xx → (bodyL Try.prog EWx 30 12 ltWk 1 c_wto k_wto 16 (s_wto ps x y xx)).ok (RoundEnd 3 (s_wto ps x y) (inv_wto ps x y) (me_wto ps x y) (re_wto ps x y) (rs_wto ps x y) xx) (fun _ _ => False)
def e_wto (s : St) (k : Ex → St → Tree) : Option Tree := match Nat.beq s.tmps.length 47, pickL s.tmps [0, 3, 5], s.mem with
  | true, [ß 0 N _, .pointer (some ⟨2, 0, none⟩), .int .i64 ii], [some ⟨.view, .ints xs⟩, none, some ⟨.box, .vals [.int .i64 x, .int .i64 y]⟩] => some (needs [ii = 0, xs.length = N * 2, allW (ptsA N xs) = true, N ≤ 1000, pt2 x y = true] (brT (exF (w1 (ptsA N xs) x y) N 0) (k .ret ⟨(ω4 ß 3 3 3 :: ω42 []), [some ⟨.view, .ints xs⟩, none, some ⟨.box, .vals [.int .i64 x, .int .i64 y]⟩, some ⟨.row 3 1, .vals [.int .i64 (fiF (w1 (ptsA N xs) x y) N 0), .int .i64 (fiF (w2 (ptsA N xs) x y (fiF (w1 (ptsA N xs) x y) N 0)) N (fiF (w1 (ptsA N xs) x y) N 0)), .int .i64 (fiF (w3 (ptsA N xs) x y (fiF (w1 (ptsA N xs) x y) N 0) (fiF (w2 (ptsA N xs) x y (fiF (w1 (ptsA N xs) x y) N 0)) N (fiF (w1 (ptsA N xs) x y) N 0))) N (fiF (w2 (ptsA N xs) x y (fiF (w1 (ptsA N xs) x y) N 0)) N (fiF (w1 (ptsA N xs) x y) N 0)))]⟩]⟩) (k (.exit 0) ⟨(ω47 []), [some ⟨.view, .ints xs⟩, none, some ⟨.box, .vals [.int .i64 x, .int .i64 y]⟩]⟩)))
  | _, _, _ => none
set_option maxRecDepth 100000 in
theorem in_wto : loopsOf c_wto = [c_wtk, c_wtn] := by kernel_rfl
theorem ltWk_good : LoopsGood Try.prog ltWk 1 c_wto := by
  intro i d hd s k t F H hlt ht
  rw [in_wto] at hd
  cases i with
  | zero =>
    obtain rfl : c_wtk = d := by simpa using hd
    exact lg_wtk s k t F H hlt ht
  | succ i => (match i with | 0 => (obtain rfl : c_wtn = d := by simpa using hd); (cases hlt) | _ + 1 => simp at hd)
set_option maxRecDepth 100000 in
theorem round_wto (ps : List Pt) (x y : Int) (hv : allW ps = true) (h : ps.length ≤ 1000) (hq : pt2 x y = true) : Round_wto ps x y := by
  intro i h1
  have h1 : i ≤ ps.length := h1
  rw [tr_wto]
  simp only [Int.toNat_natCast, Nat.zero_add, Nat.add_zero, ptsA_flat, flat_length]
  refine brT_ok.2 ⟨fun c => ?_, fun c => ?_⟩
  · have c := of_decide_eq_true c
    have hn : i < ps.length := by omega
    have hs := exF_step (p := w1 ps x y) hn
    rw [wsucc hn (by omega)]
    repeat (refine And.intro (by first | exact True.intro | assumption | omega | exact rfl) ?_)
    refine brT_ok.2 ⟨fun q => ?_, fun q => ?_⟩
    · have q : (w1 ps x y) i = true := q
      have e : exF (w1 ps x y) ps.length i = true := by rw [hs, q]; rfl
      refine ⟨by simp only [re_wto, e, cond_true], [some 3], ?_⟩
      simp only [rs_wto, e, cond_true, fiF_yes hn q]
      repeat' (first | exact True.intro | exact rfl | exact wv_top _ _ | exact fun _ => rfl | (simp; done) | refine And.intro ?_ ?_)
    · have q : (w1 ps x y) i = false := q
      have e : exF (w1 ps x y) ps.length i = exF (w1 ps x y) ps.length (i + 1) := by rw [hs, q, Bool.false_or]
      have g := fiF_no hn q
      refine ⟨i + 1, [], ?_, ?_, by simp only [re_wto, e], by simp only [rs_wto, e, g], ?_⟩
      · show i + 1 ≤ ps.length; omega
      · show ps.length - (i + 1) < ps.length - i; omega
      · repeat' (first | exact True.intro | exact rfl | exact wv_top _ _ | exact fun _ => rfl | (simp; done) | refine And.intro ?_ ?_)
  · have c := of_decide_eq_false c
    have e : exF (w1 ps x y) ps.length i = false := exF_end (by omega)
    refine ⟨by simp only [re_wto, e, cond_false], [], ?_⟩
    simp only [rs_wto, e, cond_false]
    repeat' (first | exact True.intro | exact rfl | exact wv_top _ _ | exact fun _ => rfl | (simp; done) | refine And.intro ?_ ?_)
set_option maxRecDepth 100000 in
theorem lg_wto : LoopE Try.prog e_wto c_wto := by
  intro s k t F H hlt ht
  unfold e_wto at hlt
  split at hlt
  rotate_left
  · cases hlt
  rename_i hlen hpick hmem
  obtain ⟨tmps, mem⟩ := s
  simp only at hlen hpick hmem
  subst hmem
  obtain rfl := Option.some.inj hlt
  obtain ⟨⟨rfl, h1, h2, h3, h4, _⟩, ht2⟩ := needs_ok ht
  clear ht hlt
  obtain ⟨ps, rfl, rfl⟩ := even_flat h1
  rw [ptsA_flat] at h2
  simp only [ptsA_flat] at ht2
  refine ⟨_, _, pick2k ht2, loop_run2 mixed EWx_ok (s_wto ps _ _) (inv_wto ps _ _) (me_wto ps _ _) (re_wto ps _ _) (rs_wto ps _ _) k_wto (fun _ => rfl) ltWk_good (round_wto ps _ _ h2 h3 h4) (x := 0) (Nat.zero_le _) (π := []) rfl ?_⟩
  refine ⟨rfl, rfl, ?_, wvs_spread' [0, 3, 5] hlen rfl ?_⟩
  · repeat' (first | exact True.intro | exact rfl | exact wv_top _ _ | exact fun _ => rfl | assumption | exact Eq.symm (by assumption) | exact vI0 rfl | refine And.intro ?_ ?_)
  · rw [hpick]
    repeat' (first | exact True.intro | exact rfl | exact wv_top _ _ | exact fun _ => rfl | assumption | exact Eq.symm (by assumption) | exact vI0 rfl | refine And.intro ?_ ?_)
theorem Lr_wto {fn : Func} (hf : Try.prog.funcs[48]? = some fn) : LoopsGood Try.prog (lt1 e_wto) 0 (codeOf fn) := by
  obtain rfl := fn_is Try.func48 hf
  exact lt1_good lg_wto
def LWt : FuncId → LT := fun f => match f with
  | 48 => lt1 e_wto
  | _ => noL
def EWy : Env := mkE TWx (fun _ _ => none) LWt
theorem EWy_ok : EnvOk Try.prog EWy := mkEOk TWx_ok (fun _ _ _ _ _ h => (by cases h)) (by
  intro f fn hf
  unfold LWt
  split
  all_goals first | with_reducible exact Lr_wto hf | exact noL_good)
set_option maxRecDepth 100000 in
theorem tr_wWt (ps : List Pt) (x y : Int) : bodyX Try.prog EWy 30 12 48 [.row ps.length (.ints (flat ps)), .v (.agg #[iv x, iv y])] = .need ((0 : Int) = (0 : Int)) (.need ((flat ps).length = ps.length * (2 : Nat)) (.need (allW (ptsA ps.length (flat ps)) = true) (.need (ps.length ≤ (1000 : Nat)) (.need (pt2 x y = true) (brT (exF (w1 (ptsA ps.length (flat ps)) x y) ps.length 0) (.fin (ß 3 (3) (3)) [some ⟨.view, .ints (flat ps)⟩, none, some ⟨.box, .vals [.int .i64 (x), .int .i64 (y)]⟩, some ⟨.row 3 1, .vals [.int .i64 ((↑(fiF (w1 (ptsA ps.length (flat ps)) x y) ps.length 0) : Int)), .int .i64 ((↑(fiF (w2 (ptsA ps.length (flat ps)) x y (fiF (w1 (ptsA ps.length (flat ps)) x y) ps.length 0)) ps.length (fiF (w1 (ptsA ps.length (flat ps)) x y) ps.length 0)) : Int)), .int .i64 ((↑(fiF (w3 (ptsA ps.length (flat ps)) x y (fiF (w1 (ptsA ps.length (flat ps)) x y) ps.length 0) (fiF (w2 (ptsA ps.length (flat ps)) x y (fiF (w1 (ptsA ps.length (flat ps)) x y) ps.length 0)) ps.length (fiF (w1 (ptsA ps.length (flat ps)) x y) ps.length 0))) ps.length (fiF (w2 (ptsA ps.length (flat ps)) x y (fiF (w1 (ptsA ps.length (flat ps)) x y) ps.length 0)) ps.length (fiF (w1 (ptsA ps.length (flat ps)) x y) ps.length 0))) : Int))]⟩]) (.fin (ß 3 (0) (0)) [some ⟨.view, .ints (flat ps)⟩, none, some ⟨.box, .vals [.int .i64 (x), .int .i64 (y)]⟩, some ⟨.row 3 1, .vals []⟩])))))) := by kernel_rfl
theorem bnd_someK (x d : Int) : bndI (some (IntKind.i64, x)) d = x := rfl
theorem bnd_noneK (d : Int) : bndI none d = d := rfl
def sdN (ps : List Pt) (i : Nat) : List Pt := (List.range i).map fun j => dif (nxP ps j) (ps.getD j (0, 0))
theorem sdN_succ (ps : List Pt) (i : Nat) : sdN ps (i + 1) = sdN ps i ++ [dif (nxP ps i) (ps.getD i (0, 0))] := by unfold sdN; rw [List.range_succ, List.map_append]; rfl
theorem sdN_len (ps : List Pt) (i : Nat) : (sdN ps i).length = i := by unfold sdN; simp
noncomputable def gc_sds : Code := (rangesOf (codeOf Try.f68)).getD 0 .skip
def k_sds : Ex → List Nat := keeps [3, 7] [] [2]
def s_sds (ps : List Pt) : Nat → St := fun i => ⟨(ω3 .pointer (some ⟨1, 0, none⟩) :: ω3 .func (.func 84) #[] #[.pointer (some ⟨2, 0, none⟩)] :: ω11 []), [some ⟨.view, .ints (flat ps)⟩, some ⟨.box, .vals [ß 3 i i]⟩, some ⟨.view, .vals [ß 0 ps.length ps.length]⟩, some ⟨.row 32 2, .ints (flat (sdN ps i))⟩]⟩
def g_sds (ps : List Pt) : Nat → Prop := fun i => i ≤ ps.length
def re_sds (ps : List Pt) : Ex := .normal
def rs_sds (ps : List Pt) : St := ⟨(ω3 .pointer (some ⟨1, 0, none⟩) :: ω15 []), [some ⟨.view, .ints (flat ps)⟩, some ⟨.box, .vals [ß 3 ps.length ps.length]⟩, some ⟨.view, .vals [ß 0 ps.length ps.length]⟩, some ⟨.row 32 2, .ints (flat (sdN ps ps.length))⟩]⟩
set_option maxRecDepth 100000 in
theorem tr_sds (ps : List Pt) (i : Nat) : bodyR Try.prog EGa 30 12 noL noR (asgOf gc_sds) (bodOf gc_sds) ([8, 9].zip (encE ps i)) k_sds 16 (s_sds ps i) = .need ((i + (1 : Nat)) * (16 : Nat) ≤ (140737488355328 : Nat) ∧ i + (1 : Nat) ≤ (2000000 : Nat)) (.need ((0 : Nat) + i * (2 : Nat) ≤ (flat (sdN ps i)).length) (.leaf .normal ⟨(ω3 .pointer (some ⟨1, 0, none⟩) :: ω3 .func (Fn.func 84) #[] #[.pointer (some ⟨2, 0, none⟩)] :: ω11 []), [some ⟨.view, .ints (flat ps)⟩, some ⟨.box, .vals [ß 7 (i + 1) (i + 1)]⟩, some ⟨.view, .vals [ß 0 (ps.length) (ps.length)]⟩, some deadB, some ⟨.box, .vals [.int .i64 ((ps.getD i (0, 0)).1), .int .i64 ((ps.getD i (0, 0)).2), .int .i64 ((ps.getD ((i + 1) % ps.length) (0, 0)).1), .int .i64 ((ps.getD ((i + 1) % ps.length) (0, 0)).2)]⟩, none, some ⟨.row 32 2, .vals [.int .i64 (ŵ ((ps.getD ((i + 1) % ps.length) (0, 0)).1 - (ps.getD i (0, 0)).1)), .int .i64 (ŵ ((ps.getD ((i + 1) % ps.length) (0, 0)).2 - (ps.getD i (0, 0)).2))]⟩, some ⟨.row 32 2, .ints (List.take (i * 2) (List.drop 0 (flat (sdN ps i))) ++ [ŵ ((ps.getD ((i + 1) % ps.length) (0, 0)).1 - (ps.getD i (0, 0)).1), ŵ ((ps.getD ((i + 1) % ps.length) (0, 0)).2 - (ps.getD i (0, 0)).2)])⟩]⟩)) := by kernel_rfl
def Round_sds (ps : List Pt) : Prop := ∀ i : Nat, g_sds ps i → i < (ps).length → (bodyR Try.prog EGa 30 12 noL noR (asgOf gc_sds) (bodOf gc_sds) ([8, 9].zip (encE ps i)) k_sds 16 (s_sds ps i)).ok (RoundEndR 3 (s_sds ps) (g_sds ps) (re_sds ps) (rs_sds ps) i) (fun _ _ => False)
set_option maxRecDepth 100000 in
theorem gcode_sds : gc_sds = .rangeFunc (.tmp 7) ([8, 9] : List Nat).toArray (asgOf gc_sds) (bodOf gc_sds) := by kernel_rfl
def e_sds (s : St) (k : Ex → St → Tree) : Option Tree := match Nat.beq s.tmps.length 19, pickL s.tmps [3, 7], s.mem with
  | true, [.pointer (some ⟨1, 0, none⟩), .func (.func 84) ⟨[]⟩ ⟨[.pointer (some ⟨2, 0, none⟩)]⟩], [some ⟨.view, .ints xs⟩, some ⟨.box, .vals [.slice none 0 0]⟩, some ⟨.box, .vals [ß 0 n _]⟩] => some (needs [xs.length = n * 2, allV (ptsA n xs) = true, n ≤ 1000] (k .normal ⟨(ω3 .pointer (some ⟨1, 0, none⟩) :: ω15 []), [some ⟨.view, .ints xs⟩, some ⟨.box, .vals [ß 3 n n]⟩, some ⟨.view, .vals [ß 0 n n]⟩, some ⟨.row 32 2, .ints (flat (sdN (ptsA n xs) n))⟩]⟩))
  | _, _, _ => none
set_option maxRecDepth 100000 in
theorem round_sds (ps : List Pt) (hv : allV ps = true) (h : ps.length ≤ 1000) : Round_sds ps := by
  intro i hg hi
  rw [tr_sds]
  have hg : i ≤ ps.length := hg
  have hl := sdN_len ps i
  have fl := flat_length (sdN ps i)
  have fk : List.take (i * 2) (List.drop 0 (flat (sdN ps i))) = flat (sdN ps i) := by rw [List.drop_zero]; exact List.take_of_length_le (by omega)
  have b1 := allV_gt hv hi
  have b2 := allV_gt hv (nx_lt hi)
  have sn : flat (sdN ps i) ++ [(ps.getD ((i + 1) % ps.length) (0, 0)).1 - (ps.getD i (0, 0)).1, (ps.getD ((i + 1) % ps.length) (0, 0)).2 - (ps.getD i (0, 0)).2] = flat (sdN ps (i + 1)) := by rw [sdN_succ, flat_snoc]; rfl
  simp (disch := omega) only [wr]
  rw [fk, sn]
  refine ⟨by omega, by omega, ?_, [some 7], ?_⟩
  · show i + 1 ≤ ps.length; omega
  · unfold s_sds
    refine ⟨rfl, rfl, ?_, ?_⟩ <;> repeat' (first | exact True.intro | exact rfl | exact wv_top _ _ | exact fun _ => rfl | (simp; done) | refine And.intro ?_ ?_)
set_option maxRecDepth 100000 in
theorem lg_sds : RangeE Try.prog e_sds gc_sds := by
  intro s k t F H hlt ht
  unfold e_sds at hlt
  split at hlt
  rotate_left
  · cases hlt
  rename_i hlen hpick hmem
  obtain ⟨tmps, mem⟩ := s
  simp only at hlen hpick hmem
  subst hmem
  obtain rfl := Option.some.inj hlt
  obtain ⟨⟨h1, h2, h3, _⟩, ht2⟩ := needs_ok ht
  clear ht hlt
  obtain ⟨ps, rfl, rfl⟩ := even_flat h1
  rw [ptsA_flat] at ht2 h2
  refine ⟨re_sds ps, rs_sds ps, ht2, ?_⟩
  rw [gcode_sds]
  refine range_det (enc := encE ps) (len := (ps).length) (St_of := s_sds ps) (Good := g_sds ps) (N := 3) (M := 16) (Kn := [0, 2]) (cap := [.pointer (some ⟨2, 0, none⟩)]) (kf := (k_sds .normal)) (π := [none]) (fun _ => rfl) (fun _ => rfl) (fun i hg hlt => bodyR_ok mixed EGa_ok (noL_good) (noR_good) (round_sds ps h2 h3 i hg hlt)) (entersB_res (by kernel_rfl)).1 rfl ?_ (fun ρ0 ρ B w lb h1 h2 => ed_iter ps (by omega) (s := (s_sds ps 0).fs) (nb := 2) (nr := 0) (c := (ps).length) (Kn := [0, 2]) rfl rfl (by decide) (by decide) ρ0 ρ B w lb h1 h2) ?_ rfl (by decide) ?_ (Nat.zero_le _)
  · intro n hn b hb
    simp only [List.mem_cons, List.not_mem_nil, or_false] at hn
    rcases hn with rfl | rfl <;> (obtain rfl := Option.some.inj hb; rfl)
  · exact fun _ => ⟨rfl, [some 3], by refine ⟨rfl, rfl, ?_, ?_⟩ <;> repeat' (first | exact True.intro | exact rfl | exact wv_top _ _ | exact fun _ => rfl | (simp; done) | refine And.intro ?_ ?_)⟩
  · refine ⟨rfl, rfl, ?_, wvs_spread' [3, 7] hlen rfl ?_⟩
    · repeat' (first | exact True.intro | exact rfl | exact wv_top _ _ | exact fun _ => rfl | assumption | exact Eq.symm (by assumption) | exact vI0 rfl | refine And.intro ?_ ?_)
    · rw [show pickL (viewS [0, 2] ⟨tmps, _⟩).tmps [3, 7] = pickL tmps [3, 7] from rfl, hpick]
      repeat' (first | exact True.intro | exact rfl | exact wv_top _ _ | exact fun _ => rfl | assumption | exact Eq.symm (by assumption) | exact vI0 rfl | refine And.intro ?_ ?_)
def mgE : Nat → Nat → Nat → List Pt → List Pt → List Pt → Nat × Nat × List Pt
  | 0, i, j, o, _, _ => (i, j, o)
  | f + 1, i, j, o, U, V => if i < U.length ∧ j < V.length then
      (if 0 < cr2 (U.getD i (0, 0)) (V.getD j (0, 0)) then mgE f (i + 1) j (o ++ [U.getD i (0, 0)]) U V
       else if cr2 (U.getD i (0, 0)) (V.getD j (0, 0)) < 0 then mgE f i (j + 1) (o ++ [V.getD j (0, 0)]) U V
       else mgE f (i + 1) (j + 1) (o ++ [adP (U.getD i (0, 0)) (V.getD j (0, 0))]) U V) else (i, j, o)
def mgT (us vs : List Pt) : Nat × Nat × List Pt := mgE (us.length + vs.length) 0 0 [] us vs
noncomputable def c_mgs : Code := ((loopsOf (codeOf Try.f67))[0]?).getD .skip
def k_mgs : Ex → List Nat := keeps [0, 1, 5] [(0, [0, 1, 5])] [4]
def s_mgs (us vs : List Pt) : Nat × Nat × Nat × (List Pt) → St := fun (f, i, j, o) => ⟨(.slice (some ⟨0, i * 2, none⟩) (us.length - i) (us.length - i) :: .slice (some ⟨1, j * 2, none⟩) (vs.length - j) (vs.length - j) :: ω3 ß 2 o.length o.length :: ω44 []), [some ⟨.view, .ints (flat us)⟩, some ⟨.view, .ints (flat vs)⟩, some ⟨.row 32 2, .ints (flat o)⟩]⟩
def re_mgs : Nat × Nat × Nat × (List Pt) → Ex := fun _ => .exit 0
def rs_mgs (us vs : List Pt) : Nat × Nat × Nat × (List Pt) → St := fun (f, i, j, o) => ⟨(.slice (some ⟨0, (mgT us vs).1 * 2, none⟩) (us.length - (mgT us vs).1) (us.length - (mgT us vs).1) :: .slice (some ⟨1, (mgT us vs).2.1 * 2, none⟩) (vs.length - (mgT us vs).2.1) (vs.length - (mgT us vs).2.1) :: ω3 ß 2 (mgT us vs).2.2.length (mgT us vs).2.2.length :: ω44 []), [some ⟨.view, .ints (flat us)⟩, some ⟨.view, .ints (flat vs)⟩, some ⟨.row 32 2, .ints (flat (mgT us vs).2.2)⟩]⟩
set_option maxRecDepth 100000 in
theorem tr_mgs (us vs : List Pt) (f i j : Nat) (o : List Pt) : bodyL Try.prog EGa 30 12 noL 1 c_mgs k_mgs 16 (s_mgs us vs (f, i, j, o)) = brT (decide (0 < (↑(us.length - i) : Int))) (brT (decide (0 < (↑(vs.length - j) : Int))) (.need ((0 : Int) ≤ (0 : Int) ∧ (0 : Int) < (↑(us.length - i) : Int)) (.need (i * (2 : Nat) + (0 : Nat) + (2 : Nat) ≤ (flat us).length) (.need ((0 : Int) ≤ (0 : Int) ∧ (0 : Int) < (↑(vs.length - j) : Int)) (.need (j * (2 : Nat) + (0 : Nat) + (2 : Nat) ≤ (flat vs).length) (brT (decide (0 ≤ ŵ (ŵ ((flat us).getD (i * 2 + 0) 0 * (flat vs).getD (j * 2 + 0 + 1) 0) - ŵ ((flat us).getD (i * 2 + 0 + 1) 0 * (flat vs).getD (j * 2 + 0) 0)))) (.need ((0 : Int) ≤ (0 : Int) ∧ (0 : Int) < (↑(us.length - i) : Int)) (.need (i * (2 : Nat) + (0 : Nat) + (2 : Nat) ≤ (flat us).length) (.need ((0 : Int) ≤ bndI (some (IntKind.i64, (1 : Int))) (0 : Int) ∧ bndI (some (IntKind.i64, (1 : Int))) (0 : Int) ≤ bndI none (↑(us.length - i) : Int) ∧ bndI none (↑(us.length - i) : Int) ≤ (↑(us.length - i) : Int)) (brT (decide (ŵ (ŵ ((flat us).getD (i * 2 + 0) 0 * (flat vs).getD (j * 2 + 0 + 1) 0) - ŵ ((flat us).getD (i * 2 + 0 + 1) 0 * (flat vs).getD (j * 2 + 0) 0)) ≤ 0)) (.need ((0 : Int) ≤ (0 : Int) ∧ (0 : Int) < (↑(vs.length - j) : Int)) (.need (j * (2 : Nat) + (0 : Nat) + (2 : Nat) ≤ (flat vs).length) (.need ((0 : Int) ≤ bndI (some (IntKind.i64, (1 : Int))) (0 : Int) ∧ bndI (some (IntKind.i64, (1 : Int))) (0 : Int) ≤ bndI none (↑(vs.length - j) : Int) ∧ bndI none (↑(vs.length - j) : Int) ≤ (↑(vs.length - j) : Int)) (.need ((o.length + (1 : Nat)) * (16 : Nat) ≤ (140737488355328 : Nat) ∧ o.length + (1 : Nat) ≤ (2000000 : Nat)) (.need ((0 : Nat) + o.length * (2 : Nat) ≤ (flat o).length) (.leaf .normal ⟨(.slice (some ⟨0, i * 2 + 2, none⟩) ((bndI none (↑(us.length - i) : Int)).toNat - 1) ((bndI none (↑(us.length - i) : Int)).toNat - 1) :: .slice (some ⟨1, j * 2 + 2, none⟩) ((bndI none (↑(vs.length - j) : Int)).toNat - 1) ((bndI none (↑(vs.length - j) : Int)).toNat - 1) :: ω3 ß 8 (o.length + 1) (o.length + 1) :: ω44 []), [some ⟨.view, .ints (flat us)⟩, some ⟨.view, .ints (flat vs)⟩, some deadB, none, some ⟨.box, .vals [.int .i64 (ŵ (ŵ (0 + (flat us).getD (i * 2 + 0) 0) + (flat vs).getD (j * 2 + 0) 0)), .int .i64 (ŵ (ŵ (0 + (flat us).getD (i * 2 + 0 + 1) 0) + (flat vs).getD (j * 2 + 0 + 1) 0))]⟩, none, none, some ⟨.row 32 2, .vals [.int .i64 (ŵ (ŵ (0 + (flat us).getD (i * 2 + 0) 0) + (flat vs).getD (j * 2 + 0) 0)), .int .i64 (ŵ (ŵ (0 + (flat us).getD (i * 2 + 0 + 1) 0) + (flat vs).getD (j * 2 + 0 + 1) 0))]⟩, some ⟨.row 32 2, .ints (List.take (o.length * 2) (List.drop 0 (flat o)) ++ [ŵ (ŵ (0 + (flat us).getD (i * 2 + 0) 0) + (flat vs).getD (j * 2 + 0) 0), ŵ (ŵ (0 + (flat us).getD (i * 2 + 0 + 1) 0) + (flat vs).getD (j * 2 + 0 + 1) 0)])⟩]⟩)))))) (.need ((o.length + (1 : Nat)) * (16 : Nat) ≤ (140737488355328 : Nat) ∧ o.length + (1 : Nat) ≤ (2000000 : Nat)) (.need ((0 : Nat) + o.length * (2 : Nat) ≤ (flat o).length) (.leaf .normal ⟨(.slice (some ⟨0, i * 2 + 2, none⟩) ((bndI none (↑(us.length - i) : Int)).toNat - 1) ((bndI none (↑(us.length - i) : Int)).toNat - 1) :: .slice (some ⟨1, j * 2, none⟩) (vs.length - j) (vs.length - j) :: ω3 ß 7 (o.length + 1) (o.length + 1) :: ω44 []), [some ⟨.view, .ints (flat us)⟩, some ⟨.view, .ints (flat vs)⟩, some deadB, none, some ⟨.box, .vals [.int .i64 (ŵ (0 + (flat us).getD (i * 2 + 0) 0)), .int .i64 (ŵ (0 + (flat us).getD (i * 2 + 0 + 1) 0))]⟩, none, some ⟨.row 32 2, .vals [.int .i64 (ŵ (0 + (flat us).getD (i * 2 + 0) 0)), .int .i64 (ŵ (0 + (flat us).getD (i * 2 + 0 + 1) 0))]⟩, some ⟨.row 32 2, .ints (List.take (o.length * 2) (List.drop 0 (flat o)) ++ [ŵ (0 + (flat us).getD (i * 2 + 0) 0), ŵ (0 + (flat us).getD (i * 2 + 0 + 1) 0)])⟩]⟩))))))) (brT (decide (ŵ (ŵ ((flat us).getD (i * 2 + 0) 0 * (flat vs).getD (j * 2 + 0 + 1) 0) - ŵ ((flat us).getD (i * 2 + 0 + 1) 0 * (flat vs).getD (j * 2 + 0) 0)) ≤ 0)) (.need ((0 : Int) ≤ (0 : Int) ∧ (0 : Int) < (↑(vs.length - j) : Int)) (.need (j * (2 : Nat) + (0 : Nat) + (2 : Nat) ≤ (flat vs).length) (.need ((0 : Int) ≤ bndI (some (IntKind.i64, (1 : Int))) (0 : Int) ∧ bndI (some (IntKind.i64, (1 : Int))) (0 : Int) ≤ bndI none (↑(vs.length - j) : Int) ∧ bndI none (↑(vs.length - j) : Int) ≤ (↑(vs.length - j) : Int)) (.need ((o.length + (1 : Nat)) * (16 : Nat) ≤ (140737488355328 : Nat) ∧ o.length + (1 : Nat) ≤ (2000000 : Nat)) (.need ((0 : Nat) + o.length * (2 : Nat) ≤ (flat o).length) (.leaf .normal ⟨(.slice (some ⟨0, i * 2, none⟩) (us.length - i) (us.length - i) :: .slice (some ⟨1, j * 2 + 2, none⟩) ((bndI none (↑(vs.length - j) : Int)).toNat - 1) ((bndI none (↑(vs.length - j) : Int)).toNat - 1) :: ω3 ß 7 (o.length + 1) (o.length + 1) :: ω44 []), [some ⟨.view, .ints (flat us)⟩, some ⟨.view, .ints (flat vs)⟩, some deadB, none, some ⟨.box, .vals [.int .i64 (ŵ (0 + (flat vs).getD (j * 2 + 0) 0)), .int .i64 (ŵ (0 + (flat vs).getD (j * 2 + 0 + 1) 0))]⟩, none, some ⟨.row 32 2, .vals [.int .i64 (ŵ (0 + (flat vs).getD (j * 2 + 0) 0)), .int .i64 (ŵ (0 + (flat vs).getD (j * 2 + 0 + 1) 0))]⟩, some ⟨.row 32 2, .ints (List.take (o.length * 2) (List.drop 0 (flat o)) ++ [ŵ (0 + (flat vs).getD (j * 2 + 0) 0), ŵ (0 + (flat vs).getD (j * 2 + 0 + 1) 0)])⟩]⟩)))))) (.need ((o.length + (1 : Nat)) * (16 : Nat) ≤ (140737488355328 : Nat) ∧ o.length + (1 : Nat) ≤ (2000000 : Nat)) (.need ((0 : Nat) + o.length * (2 : Nat) ≤ (flat o).length) (.leaf .normal ⟨(.slice (some ⟨0, i * 2, none⟩) (us.length - i) (us.length - i) :: .slice (some ⟨1, j * 2, none⟩) (vs.length - j) (vs.length - j) :: ω3 ß 6 (o.length + 1) (o.length + 1) :: ω44 []), [some ⟨.view, .ints (flat us)⟩, some ⟨.view, .ints (flat vs)⟩, some deadB, none, some ⟨.box, .vals [.int .i64 (0), .int .i64 (0)]⟩, some ⟨.row 32 2, .vals [.int .i64 (0), .int .i64 (0)]⟩, some ⟨.row 32 2, .ints (List.take (o.length * 2) (List.drop 0 (flat o)) ++ [0, 0])⟩]⟩))))))))) (.leaf (.exit 0) ⟨(.slice (some ⟨0, i * 2, none⟩) (us.length - i) (us.length - i) :: .slice (some ⟨1, j * 2, none⟩) (vs.length - j) (vs.length - j) :: ω3 ß 2 (o.length) (o.length) :: ω44 []), [some ⟨.view, .ints (flat us)⟩, some ⟨.view, .ints (flat vs)⟩, some ⟨.row 32 2, .ints (flat o)⟩]⟩)) (.leaf (.exit 0) ⟨(.slice (some ⟨0, i * 2, none⟩) (us.length - i) (us.length - i) :: .slice (some ⟨1, j * 2, none⟩) (vs.length - j) (vs.length - j) :: ω3 ß 2 (o.length) (o.length) :: ω44 []), [some ⟨.view, .ints (flat us)⟩, some ⟨.view, .ints (flat vs)⟩, some ⟨.row 32 2, .ints (flat o)⟩]⟩) := by kernel_rfl
set_option maxRecDepth 100000 in
theorem nl_mgs : loopsOf c_mgs = [] := by kernel_rfl
def inv_mgs (us vs : List Pt) : Nat × Nat × Nat × (List Pt) → Prop := fun (f, i, j, o) => mgE f i j o us vs = mgT us vs ∧ us.length + vs.length ≤ f + i + j ∧ i ≤ us.length ∧ j ≤ vs.length ∧ o.length ≤ i + j
def me_mgs (us vs : List Pt) : Nat × Nat × Nat × (List Pt) → Nat := fun (f, i, j, o) => us.length + vs.length - i - j
def Round_mgs (us vs : List Pt) : Prop := ∀ xx : Nat × Nat × Nat × (List Pt), inv_mgs us vs xx → (bodyL Try.prog EGa 30 12 noL 1 c_mgs k_mgs 16 (s_mgs us vs xx)).ok (RoundEnd 2 (s_mgs us vs) (inv_mgs us vs) (me_mgs us vs) re_mgs (rs_mgs us vs) xx) (fun _ _ => False)
def e_mgs (s : St) (k : Ex → St → Tree) : Option Tree := match Nat.beq s.tmps.length 50, pickL s.tmps [0, 1, 5], s.mem with
  | true, [ß 0 n _, ß 1 m _, .slice none 0 0], [some ⟨.view, .ints xs⟩, some ⟨.view, .ints ys⟩] => some (needs [xs.length = n * 2, ys.length = m * 2, allW (ptsA n xs) = true, allW (ptsA m ys) = true, n + m ≤ 1000] (k (.exit 0) ⟨(.slice (some ⟨0, (mgT (ptsA n xs) (ptsA m ys)).1 * 2, none⟩) (n - (mgT (ptsA n xs) (ptsA m ys)).1) (n - (mgT (ptsA n xs) (ptsA m ys)).1) :: .slice (some ⟨1, (mgT (ptsA n xs) (ptsA m ys)).2.1 * 2, none⟩) (m - (mgT (ptsA n xs) (ptsA m ys)).2.1) (m - (mgT (ptsA n xs) (ptsA m ys)).2.1) :: ω3 ß 2 (mgT (ptsA n xs) (ptsA m ys)).2.2.length (mgT (ptsA n xs) (ptsA m ys)).2.2.length :: ω44 []), [some ⟨.view, .ints xs⟩, some ⟨.view, .ints ys⟩, some ⟨.row 32 2, .ints (flat (mgT (ptsA n xs) (ptsA m ys)).2.2)⟩]⟩))
  | _, _, _ => none
set_option maxRecDepth 100000 in
theorem round_mgs (us vs : List Pt) (ha : allW us = true) (hb : allW vs = true) (h : us.length + vs.length ≤ 1000) : Round_mgs us vs := by
  rintro ⟨f, i, j, o⟩ ⟨h1, h2, h3, h4, h5⟩
  rw [tr_mgs]
  simp only [bnd_someK, bnd_noneK, Int.toNat_natCast, Nat.add_zero, Nat.zero_add, flat_get0, flat_get1, flat_length, List.drop_zero, flat_take, List.take_length]
  have fin : ¬ (i < us.length ∧ j < vs.length) → mgT us vs = (i, j, o) := fun c => by
    rw [← h1]
    cases f
    · rfl
    · rw [mgE, if_neg c]
  refine brT_ok.2 ⟨fun c1 => brT_ok.2 ⟨fun c2 => ?_, fun c2 => ?_⟩, fun c1 => ?_⟩
  · have c1 := of_decide_eq_true c1
    have c2 := of_decide_eq_true c2
    have hi : i < us.length := by omega
    have hj : j < vs.length := by omega
    obtain ⟨f, rfl⟩ : ∃ g, f = g + 1 := ⟨f - 1, by omega⟩
    rw [mgE, if_pos ⟨hi, hj⟩] at h1
    have hu := pt2_iff.1 (allW_at ha hi)
    have hv := pt2_iff.1 (allW_at hb hj)
    have p1 := mul_bd (x := (us.getD i (0, 0)).1) (y := (vs.getD j (0, 0)).2) 2000 2000 (by omega) (by omega)
    have p2 := mul_bd (x := (us.getD i (0, 0)).2) (y := (vs.getD j (0, 0)).1) 2000 2000 (by omega) (by omega)
    simp (disch := omega) only [wr]
    have e1 : i * 2 + 2 = (i + 1) * 2 := by omega
    have e2 : j * 2 + 2 = (j + 1) * 2 := by omega
    simp only [e1, e2, Nat.sub_sub, Int.zero_add]
    have ec : (us.getD i (0, 0)).1 * (vs.getD j (0, 0)).2 - (us.getD i (0, 0)).2 * (vs.getD j (0, 0)).1 = cr2 (us.getD i (0, 0)) (vs.getD j (0, 0)) := rfl
    rw [ec]
    generalize hU : us.getD i (0, 0) = u at *
    generalize hV : vs.getD j (0, 0) = v at *
    have sn1 : flat o ++ [u.1, u.2] = flat (o ++ [u]) := flat_snoc o u.1 u.2
    have sn2 : flat o ++ [v.1, v.2] = flat (o ++ [v]) := flat_snoc o v.1 v.2
    have sn3 : flat o ++ [u.1 + v.1, u.2 + v.2] = flat (o ++ [adP u v]) := flat_snoc o (adP u v).1 (adP u v).2
    rw [sn1, sn2, sn3]
    refine ⟨by omega, by omega, by omega, by omega, brT_ok.2 ⟨fun q => ⟨by omega, by omega, by omega, brT_ok.2 ⟨fun r => ?_, fun r => ?_⟩⟩, fun q => brT_ok.2 ⟨fun r => ?_, fun r => ?_⟩⟩⟩
    · have q := of_decide_eq_true q
      have r := of_decide_eq_true r
      rw [if_neg (by omega), if_neg (by omega)] at h1
      refine ⟨by omega, by omega, by omega, by omega, by omega, (f, i + 1, j + 1, o ++ [adP u v]), [some 8], ⟨h1, by omega, by omega, by omega, by simp; omega⟩, ?_, rfl, rfl, ?_⟩
      · show us.length + vs.length - (i + 1) - (j + 1) < us.length + vs.length - i - j; omega
      · repeat' (first | exact True.intro | exact rfl | exact wv_top _ _ | exact fun _ => rfl | (simp; done) | refine And.intro ?_ ?_)
    · have q := of_decide_eq_true q
      have r := of_decide_eq_false r
      rw [if_pos (by omega)] at h1
      refine ⟨by omega, by omega, (f, i + 1, j, o ++ [u]), [some 7], ⟨h1, by omega, by omega, by omega, by simp; omega⟩, ?_, rfl, rfl, ?_⟩
      · show us.length + vs.length - (i + 1) - j < us.length + vs.length - i - j; omega
      · repeat' (first | exact True.intro | exact rfl | exact wv_top _ _ | exact fun _ => rfl | (simp; done) | refine And.intro ?_ ?_)
    · have q := of_decide_eq_false q
      have r := of_decide_eq_true r
      rw [if_neg (by omega), if_pos (by omega)] at h1
      refine ⟨by omega, by omega, by omega, by omega, by omega, (f, i, j + 1, o ++ [v]), [some 7], ⟨h1, by omega, by omega, by omega, by simp; omega⟩, ?_, rfl, rfl, ?_⟩
      · show us.length + vs.length - i - (j + 1) < us.length + vs.length - i - j; omega
      · repeat' (first | exact True.intro | exact rfl | exact wv_top _ _ | exact fun _ => rfl | (simp; done) | refine And.intro ?_ ?_)
    · have q := of_decide_eq_false q
      have r := of_decide_eq_false r
      omega
  · have c2 := of_decide_eq_false c2
    have e := fin (by omega)
    refine ⟨rfl, [some 2], ?_⟩
    simp only [rs_mgs, e]
    repeat' (first | exact True.intro | exact rfl | exact wv_top _ _ | exact fun _ => rfl | (simp; done) | refine And.intro ?_ ?_)
  · have c1 := of_decide_eq_false c1
    have e := fin (by omega)
    refine ⟨rfl, [some 2], ?_⟩
    simp only [rs_mgs, e]
    repeat' (first | exact True.intro | exact rfl | exact wv_top _ _ | exact fun _ => rfl | (simp; done) | refine And.intro ?_ ?_)
set_option maxRecDepth 100000 in
theorem lg_mgs : LoopE Try.prog e_mgs c_mgs := by
  intro s k t F H hlt ht
  unfold e_mgs at hlt
  split at hlt
  rotate_left
  · cases hlt
  rename_i hlen hpick hmem
  obtain ⟨tmps, mem⟩ := s
  simp only at hlen hpick hmem
  subst hmem
  obtain rfl := Option.some.inj hlt
  obtain ⟨⟨h1, h2, h3, h4, h5, _⟩, ht2⟩ := needs_ok ht
  clear ht hlt
  obtain ⟨us, rfl, rfl⟩ := even_flat h1
  obtain ⟨vs, rfl, rfl⟩ := even_flat h2
  rw [ptsA_flat] at h3 h4
  simp only [ptsA_flat] at ht2
  refine ⟨_, _, ht2, loop_run2 mixed EGa_ok (s_mgs us vs) (inv_mgs us vs) (me_mgs us vs) re_mgs (rs_mgs us vs) k_mgs (fun _ => rfl) (noLoops nl_mgs) (round_mgs us vs h3 h4 h5) (x := (us.length + vs.length, 0, 0, [])) ⟨rfl, by omega, Nat.zero_le _, Nat.zero_le _, Nat.le_refl _⟩ (π := [none]) rfl ?_⟩
  refine ⟨rfl, rfl, ?_, wvs_spread' [0, 1, 5] hlen rfl ?_⟩
  · repeat' (first | exact True.intro | exact rfl | exact wv_top _ _ | exact fun _ => rfl | assumption | exact Eq.symm (by assumption) | exact vI0 rfl | refine And.intro ?_ ?_)
  · rw [hpick]
    repeat' (first | exact True.intro | exact rfl | exact wv_top _ _ | exact fun _ => rfl | assumption | exact Eq.symm (by assumption) | exact vI0 rfl | refine And.intro ?_ ?_)
set_option maxRecDepth 100000 in
theorem tr_cat3 (l1 l2 l3 : Nat) (y1 y2 y3 : List Int) : bodyM Try.prog ECt (runM Try.prog ECt 30 12) 30 44 [ß 3 3 3] [some ⟨.view, .ints y1⟩, some ⟨.view, .ints y2⟩, some ⟨.view, .ints y3⟩, some ⟨.view, .vals [ß 0 l1 l1, ß 1 l2 l2, ß 2 l3 l3]⟩] .fin = .need ((0 : Int) ≤ (0 : Int) ∧ (0 : Int) < (↑(3 : Nat) : Int)) (brT (decide (ŵ (0 + (↑l1 : Int)) < 0)) (.bad) (.need ((0 : Int) ≤ ŵ ((0 : Int) + (1 : Int)) ∧ ŵ ((0 : Int) + (1 : Int)) < (↑(3 : Nat) : Int)) (brT (decide (ŵ (ŵ (0 + (↑l1 : Int)) + (↑l2 : Int)) < 0)) (.bad) (.need ((0 : Int) ≤ ŵ (ŵ ((0 : Int) + (1 : Int)) + (1 : Int)) ∧ ŵ (ŵ ((0 : Int) + (1 : Int)) + (1 : Int)) < (↑(3 : Nat) : Int)) (brT (decide (ŵ (ŵ (ŵ (0 + (↑l1 : Int)) + (↑l2 : Int)) + (↑l3 : Int)) < 0)) (.bad) (.need ((0 : Int) < ŵ (ŵ (ŵ ((0 : Int) + (↑l1 : Int)) + (↑l2 : Int)) + (↑l3 : Int)) ∧ ŵ (ŵ (ŵ ((0 : Int) + (↑l1 : Int)) + (↑l2 : Int)) + (↑l3 : Int)) ≤ (1000 : Int)) (.need ((0 : Int) ≤ (0 : Int) ∧ (0 : Int) < (↑(3 : Nat) : Int)) (.need (((0 : Nat) + (l1, Cs.ints (List.take (l1 * Try.prog.types[(32 : Nat)].size) (List.drop 0 y1)), [(0 : Nat) + l1 * Try.prog.types[(32 : Nat)].size ≤ y1.length]).fst) * (16 : Nat) ≤ (140737488355328 : Nat) ∧ (0 : Nat) + (l1, Cs.ints (List.take (l1 * Try.prog.types[(32 : Nat)].size) (List.drop 0 y1)), [(0 : Nat) + l1 * Try.prog.types[(32 : Nat)].size ≤ y1.length]).fst ≤ (2000000 : Nat)) (.need ((0 : Nat) + l1 * (2 : Nat) ≤ y1.length) (.need ((0 : Nat) ≤ (0 : Nat)) (.need ((0 : Int) ≤ ŵ ((0 : Int) + (1 : Int)) ∧ ŵ ((0 : Int) + (1 : Int)) < (↑(3 : Nat) : Int)) (.need (((0 : Nat) + (l1, Cs.ints (List.take (l1 * Try.prog.types[(32 : Nat)].size) (List.drop 0 y1)), [(0 : Nat) + l1 * Try.prog.types[(32 : Nat)].size ≤ y1.length]).fst + (l2, Cs.ints (List.take (l2 * Try.prog.types[(32 : Nat)].size) (List.drop 0 y2)), [(0 : Nat) + l2 * Try.prog.types[(32 : Nat)].size ≤ y2.length]).fst) * (16 : Nat) ≤ (140737488355328 : Nat) ∧ (0 : Nat) + (l1, Cs.ints (List.take (l1 * Try.prog.types[(32 : Nat)].size) (List.drop 0 y1)), [(0 : Nat) + l1 * Try.prog.types[(32 : Nat)].size ≤ y1.length]).fst + (l2, Cs.ints (List.take (l2 * Try.prog.types[(32 : Nat)].size) (List.drop 0 y2)), [(0 : Nat) + l2 * Try.prog.types[(32 : Nat)].size ≤ y2.length]).fst ≤ (2000000 : Nat)) (.need ((0 : Nat) + l2 * (2 : Nat) ≤ y2.length) (.need ((0 : Nat) + ((0 : Nat) + (l1, Cs.ints (List.take (l1 * Try.prog.types[(32 : Nat)].size) (List.drop 0 y1)), [(0 : Nat) + l1 * Try.prog.types[(32 : Nat)].size ≤ y1.length]).fst) * (2 : Nat) ≤ (List.take (0 : Nat) (List.drop 0 []) ++ List.take (l1 * (2 : Nat)) (List.drop 0 y1)).length) (.need ((0 : Int) ≤ ŵ (ŵ ((0 : Int) + (1 : Int)) + (1 : Int)) ∧ ŵ (ŵ ((0 : Int) + (1 : Int)) + (1 : Int)) < (↑(3 : Nat) : Int)) (.need (((0 : Nat) + (l1, Cs.ints (List.take (l1 * Try.prog.types[(32 : Nat)].size) (List.drop 0 y1)), [(0 : Nat) + l1 * Try.prog.types[(32 : Nat)].size ≤ y1.length]).fst + (l2, Cs.ints (List.take (l2 * Try.prog.types[(32 : Nat)].size) (List.drop 0 y2)), [(0 : Nat) + l2 * Try.prog.types[(32 : Nat)].size ≤ y2.length]).fst + (l3, Cs.ints (List.take (l3 * Try.prog.types[(32 : Nat)].size) (List.drop 0 y3)), [(0 : Nat) + l3 * Try.prog.types[(32 : Nat)].size ≤ y3.length]).fst) * (16 : Nat) ≤ (140737488355328 : Nat) ∧ (0 : Nat) + (l1, Cs.ints (List.take (l1 * Try.prog.types[(32 : Nat)].size) (List.drop 0 y1)), [(0 : Nat) + l1 * Try.prog.types[(32 : Nat)].size ≤ y1.length]).fst + (l2, Cs.ints (List.take (l2 * Try.prog.types[(32 : Nat)].size) (List.drop 0 y2)), [(0 : Nat) + l2 * Try.prog.types[(32 : Nat)].size ≤ y2.length]).fst + (l3, Cs.ints (List.take (l3 * Try.prog.types[(32 : Nat)].size) (List.drop 0 y3)), [(0 : Nat) + l3 * Try.prog.types[(32 : Nat)].size ≤ y3.length]).fst ≤ (2000000 : Nat)) (.need ((0 : Nat) + l3 * (2 : Nat) ≤ y3.length) (.need ((0 : Nat) + ((0 : Nat) + (l1, Cs.ints (List.take (l1 * Try.prog.types[(32 : Nat)].size) (List.drop 0 y1)), [(0 : Nat) + l1 * Try.prog.types[(32 : Nat)].size ≤ y1.length]).fst + (l2, Cs.ints (List.take (l2 * Try.prog.types[(32 : Nat)].size) (List.drop 0 y2)), [(0 : Nat) + l2 * Try.prog.types[(32 : Nat)].size ≤ y2.length]).fst) * (2 : Nat) ≤ (List.take (((0 : Nat) + (l1, Cs.ints (List.take (l1 * Try.prog.types[(32 : Nat)].size) (List.drop 0 y1)), [(0 : Nat) + l1 * Try.prog.types[(32 : Nat)].size ≤ y1.length]).fst) * (2 : Nat)) (List.drop 0 (List.take (0 : Nat) (List.drop 0 []) ++ List.take (l1 * (2 : Nat)) (List.drop 0 y1))) ++ List.take (l2 * (2 : Nat)) (List.drop 0 y2)).length) (.fin (ß 7 (0 + (l1, Cs.ints (List.take (l1 * Try.prog.types[32].size) (List.drop 0 y1)), [0 + l1 * Try.prog.types[32].size ≤ y1.length]).fst + (l2, Cs.ints (List.take (l2 * Try.prog.types[32].size) (List.drop 0 y2)), [0 + l2 * Try.prog.types[32].size ≤ y2.length]).fst + (l3, Cs.ints (List.take (l3 * Try.prog.types[32].size) (List.drop 0 y3)), [0 + l3 * Try.prog.types[32].size ≤ y3.length]).fst) (0 + (l1, Cs.ints (List.take (l1 * Try.prog.types[32].size) (List.drop 0 y1)), [0 + l1 * Try.prog.types[32].size ≤ y1.length]).fst + (l2, Cs.ints (List.take (l2 * Try.prog.types[32].size) (List.drop 0 y2)), [0 + l2 * Try.prog.types[32].size ≤ y2.length]).fst + (l3, Cs.ints (List.take (l3 * Try.prog.types[32].size) (List.drop 0 y3)), [0 + l3 * Try.prog.types[32].size ≤ y3.length]).fst)) [some ⟨.view, .ints (y1)⟩, some ⟨.view, .ints (y2)⟩, some ⟨.view, .ints (y3)⟩, some ⟨.view, .vals [ß 0 (l1) (l1), ß 1 (l2) (l2), ß 2 (l3) (l3)]⟩, some deadB, some deadB, some deadB, some ⟨.row 32 2, .ints (List.take ((0 + (l1, Cs.ints (List.take (l1 * Try.prog.types[32].size) (List.drop 0 y1)), [0 + l1 * Try.prog.types[32].size ≤ y1.length]).fst + (l2, Cs.ints (List.take (l2 * Try.prog.types[32].size) (List.drop 0 y2)), [0 + l2 * Try.prog.types[32].size ≤ y2.length]).fst) * 2) (List.drop 0 (List.take ((0 + (l1, Cs.ints (List.take (l1 * Try.prog.types[32].size) (List.drop 0 y1)), [0 + l1 * Try.prog.types[32].size ≤ y1.length]).fst) * 2) (List.drop 0 (List.take 0 (List.drop 0 []) ++ List.take (l1 * 2) (List.drop 0 y1))) ++ List.take (l2 * 2) (List.drop 0 y2))) ++ List.take (l3 * 2) (List.drop 0 y3))⟩]))))))))))))))))))) := by kernel_rfl
theorem three_open {w : World} {l1 l2 l3 : Nat} {y1 y2 y3 : List Int} {x1 x2 x3 : Value} (h1 : DOk w (.row l1 (.ints y1)) x1) (h2 : DOk w (.row l2 (.ints y2)) x2) (h3 : DOk w (.row l3 (.ints y3)) x3) {g f : Nat} (hg : g < w.heap.size) (c1 : w.cell? ⟨g, f, none⟩ = some x1) (c2 : w.cell? ⟨g, f + 1, none⟩ = some x2) (c3 : w.cell? ⟨g, f + 2, none⟩ = some x3) (B : Nat → Prop) :
    ∃ ρ : Nat → Option Pl, ρ 3 = some (g, f, none) ∧ MemOk (fun _ => none) ρ B (fun n => [some (⟨.view, .ints y1⟩ : Blk), some ⟨.view, .ints y2⟩, some ⟨.view, .ints y3⟩, some ⟨.view, .vals [ß 0 l1 l1, ß 1 l2 l2, ß 2 l3 l3]⟩].getD n none) w := by
  obtain ⟨ρ, ha, hm⟩ := args_open (w := w) (ds := [.row l1 (.ints y1), .row l2 (.ints y2), .row l3 (.ints y3)]) (args := #[x1, x2, x3]) ⟨rfl, fun i d y hd hy => by
    match i, hd, hy with
    | 0, hd, hy =>
      obtain rfl : DArg.row l1 (.ints y1) = d := by simpa using hd
      obtain rfl : x1 = y := by simpa using hy
      exact h1
    | 1, hd, hy =>
      obtain rfl : DArg.row l2 (.ints y2) = d := by simpa using hd
      obtain rfl : x2 = y := by simpa using hy
      exact h2
    | 2, hd, hy =>
      obtain rfl : DArg.row l3 (.ints y3) = d := by simpa using hd
      obtain rfl : x3 = y := by simpa using hy
      exact h3
    | i + 3, hd, hy => simp at hd⟩ B
  have hn : ρ 3 = none := hm.fresh 3 rfl
  have v0 : VR ρ (ß 0 l1 l1) x1 := ha.2 0 _ _ rfl rfl
  have v1 : VR ρ (ß 1 l2 l2) x2 := ha.2 1 _ _ rfl rfl
  have v2 : VR ρ (ß 2 l3 l3) x3 := ha.2 2 _ _ rfl rfl
  have hext : Ext ρ (addPl ρ 3 (g, f, none)) := addPl_ext hn
  refine ⟨addPl ρ 3 (g, f, none), addPl_same _ _ _, fun n p hp => by simp at hp, fun n hn' => ?_, fun n b hb => ?_, fun n n' b b' p p' hb hown => ?_⟩
  · have h4 : 4 ≤ n := by
      rcases Nat.lt_or_ge n 4 with h | h
      · match n, h with
        | 0, _ => simp at hn'
        | 1, _ => simp at hn'
        | 2, _ => simp at hn'
        | 3, _ => simp at hn'
      · exact h
    rw [addPl_ne (by omega)]
    refine hm.fresh n ?_
    match n, h4 with
    | n + 4, _ => rfl
  · match n, hb with
    | 0, hb =>
      obtain rfl : (⟨.view, .ints y1⟩ : Blk) = b := by simpa using hb
      exact (hm.ok 0 _ rfl).keep hext (Nat.le_refl _) fun _ _ _ _ => rfl
    | 1, hb =>
      obtain rfl : (⟨.view, .ints y2⟩ : Blk) = b := by simpa using hb
      exact (hm.ok 1 _ rfl).keep hext (Nat.le_refl _) fun _ _ _ _ => rfl
    | 2, hb =>
      obtain rfl : (⟨.view, .ints y3⟩ : Blk) = b := by simpa using hb
      exact (hm.ok 2 _ rfl).keep hext (Nat.le_refl _) fun _ _ _ _ => rfl
    | 3, hb =>
      obtain rfl : (⟨.view, .vals [ß 0 l1 l1, ß 1 l2 l2, ß 2 l3 l3]⟩ : Blk) = b := by simpa using hb
      refine .inr ⟨g, f, none, addPl_same _ _ _, .inr rfl, hg, fun k v hk => ?_⟩
      match k, hk with
      | 0, hk =>
        obtain rfl : ß 0 l1 l1 = v := by simpa [Blk.cells, Cs.list] using hk
        exact ⟨x1, c1, v0.ext hext⟩
      | 1, hk =>
        obtain rfl : ß 1 l2 l2 = v := by simpa [Blk.cells, Cs.list] using hk
        exact ⟨x2, c2, v1.ext hext⟩
      | 2, hk =>
        obtain rfl : ß 2 l3 l3 = v := by simpa [Blk.cells, Cs.list] using hk
        exact ⟨x3, c3, v2.ext hext⟩
      | k + 3, hk => simp [Blk.cells, Cs.list] at hk
    | n + 4, hb => simp at hb
  · exfalso
    match n, hb with
    | 0, hb =>
      obtain rfl : (⟨.view, .ints y1⟩ : Blk) = b := by simpa using hb
      cases hown
    | 1, hb =>
      obtain rfl : (⟨.view, .ints y2⟩ : Blk) = b := by simpa using hb
      cases hown
    | 2, hb =>
      obtain rfl : (⟨.view, .ints y3⟩ : Blk) = b := by simpa using hb
      cases hown
    | 3, hb =>
      obtain rfl : (⟨.view, .vals [ß 0 l1 l1, ß 1 l2 l2, ß 2 l3 l3]⟩ : Blk) = b := by simpa using hb
      cases hown
    | n + 4, hb => simp at hb
theorem three_call {P : Program} (hm : P.follows .mixedOrders = true) {E : Env} (hE : EnvOk P E) {m n : Nat} {f : FuncId} {l1 l2 l3 : Nat} {y1 y2 y3 : List Int} {v : Value} {b : Blk} (hb : isRow b = true)
    (h : (bodyM P E (runM P E m n) m f [ß 3 3 3] [some ⟨.view, .ints y1⟩, some ⟨.view, .ints y2⟩, some ⟨.view, .ints y3⟩, some ⟨.view, .vals [ß 0 l1 l1, ß 1 l2 l2, ß 2 l3 l3]⟩] .fin).ok (fun _ _ => False) (fun u mem => RowIs v b u mem))
    (w : World) {x1 x2 x3 : Value} (h1 : DOk w (.row l1 (.ints y1)) x1) (h2 : DOk w (.row l2 (.ints y2)) x2) (h3 : DOk w (.row l3 (.ints y3)) x3) {g fo c : Nat} (hg : g < w.heap.size) (c1 : w.cell? ⟨g, fo, none⟩ = some x1) (c2 : w.cell? ⟨g, fo + 1, none⟩ = some x2) (c3 : w.cell? ⟨g, fo + 2, none⟩ = some x3) (hc : 3 ≤ c) :
    Calls P f #[.slice (some ⟨g, fo, none⟩) 3 c] w fun e w' => ∃ v' p, e = .returned v' ∧ Below w.heap.size w w' ∧ ∀ ρ name, ρ name = some p → VR ρ (atName name v) v' ∧ BlkOk ρ (fun k => k < w.heap.size) w' name b := by
  obtain ⟨u, mem', ⟨src, hrv, hsrc⟩, hent, hdet⟩ := bodyM_ok hE hm (runM_ok hm hE m n) m f _ _ _ _ _ h
  obtain ⟨kd, cs⟩ := b
  cases kd with
  | row e sz =>
    obtain ⟨ρ, hρ, hmem⟩ := three_open h1 h2 h3 hg c1 c2 c3 (fun k => k < w.heap.size)
    refine (hdet ⟨w, fun _ => none, fun k => k < w.heap.size, fun _ h => h, [], none⟩ ρ #[.slice (some ⟨g, fo, none⟩) 3 c] w ⟨rfl, fun i a x ha hx => ?_⟩ hmem (BelowK.refl _ _)).mono ?_
    · match i, ha, hx with
      | 0, ha, hx =>
        obtain rfl : ß 3 3 3 = a := by simpa using ha
        obtain rfl : Value.slice (some ⟨g, fo, none⟩) 3 c = x := by simpa using hx
        exact .slice (o := 0) hρ (.inr rfl) hc (fun k hk => by simp at hk)
      | i + 1, ha, hx => simp at ha
    rintro e' w' ⟨v', ρ', rfl, _, g2, g3, g4⟩
    cases src with
    | none => exact ⟨v', (0, 1, some 0), rfl, g3.to, fun ρ2 name hp => ⟨rv_ok (ρ := ρ') (src := none) hp hrv g2, .inl ⟨_, hp, rfl, rfl⟩⟩⟩
    | some k =>
      simp only at hsrc
      split at hsrc
      rotate_left
      · exact hsrc.elim
      rename_i b' hb'
      obtain ⟨kd', cs'⟩ := b'
      cases kd' with
      | row e2 sz2 =>
        obtain ⟨rfl, rfl, hc⟩ := hsrc
        obtain ⟨d1, d2⟩ := rc_list hc
        rcases g4.ok k _ hb' with ⟨p, h1, h2, h3⟩ | ⟨g, cap, h1, h2, arr, h3, h4, h5⟩
        · exact ⟨v', p, rfl, g3.to, fun ρ2 name hp => ⟨rv_ok (ρ := ρ') (src := some k) (hp.trans h1.symm) hrv g2, .inl ⟨p, hp, h2, h3⟩⟩⟩
        · refine ⟨v', _, rfl, g3.to, fun ρ2 name hp => ⟨rv_ok (ρ := ρ') (src := some k) (hp.trans h1.symm) hrv g2, .inr ⟨g, cap, hp, h2, arr, h3, h4, ?_⟩⟩⟩
          intro i x hx
          obtain ⟨x', k1, k2⟩ := h5 i x (by show cs'.list[i]? = some x; rw [d1]; exact hx)
          refine ⟨x', k1, ?_⟩
          have hat := plain_of_atom (d2 x (List.mem_of_getElem? hx))
          rw [k2.plain hat]
          exact .lit hat
      | _ => exact hsrc.elim
  | _ => cases hb
abbrev catB3 (l1 l2 l3 : Nat) (y1 y2 y3 : List Int) : Blk := ⟨.row 32 2, .ints (y1.take (l1 * 2) ++ y2.take (l2 * 2) ++ y3.take (l3 * 2))⟩
theorem cat_row3 {l1 l2 l3 : Nat} {y1 y2 y3 : List Int} (h1 : l1 * 2 ≤ y1.length) (h2 : l2 * 2 ≤ y2.length) (h3 : l3 * 2 ≤ y3.length) (h0 : 0 < l1 + l2 + l3) (h4 : l1 + l2 + l3 ≤ 1000) : (bodyM Try.prog ECt (runM Try.prog ECt 30 12) 30 44 [ß 3 3 3] [some ⟨.view, .ints y1⟩, some ⟨.view, .ints y2⟩, some ⟨.view, .ints y3⟩, some ⟨.view, .vals [ß 0 l1 l1, ß 1 l2 l2, ß 2 l3 l3]⟩] .fin).ok (fun _ _ => False) (fun u mem => RowIs (ß 0 (l1 + l2 + l3) (l1 + l2 + l3)) (catB3 l1 l2 l3 y1 y2 y3) u mem) := by
  rw [tr_cat3]
  have e1 : ŵ (0 + (l1 : Int)) = (l1 : Int) := by rw [wr (by omega)]; omega
  have e2 : ŵ ((l1 : Int) + (l2 : Int)) = (l1 : Int) + l2 := wr (by omega)
  have e4 : ŵ ((l1 : Int) + (l2 : Int) + (l3 : Int)) = (l1 : Int) + l2 + l3 := wr (by omega)
  have e3 : ŵ ((0 : Int) + 1) = 1 := by rw [wr (by omega)]; rfl
  have e5 : ŵ ((1 : Int) + 1) = 2 := by rw [wr (by omega)]; rfl
  have t1 : (y1.take (l1 * 2)).length = l1 * 2 := by rw [List.length_take]; omega
  have t2 : (y2.take (l2 * 2)).length = l2 * 2 := by rw [List.length_take]; omega
  simp only [e1, e2, e3, e4, e5, List.drop_zero, List.take_zero, List.nil_append, Nat.zero_add, List.take_take, Nat.min_self, t1, t2]
  have t3 : List.take ((l1 + l2) * 2) (y1.take (l1 * 2) ++ y2.take (l2 * 2)) = y1.take (l1 * 2) ++ y2.take (l2 * 2) := List.take_of_length_le (by rw [List.length_append, t1, t2]; omega)
  have t4 : (l1 + l2) * 2 ≤ (y1.take (l1 * 2) ++ y2.take (l2 * 2)).length := by rw [List.length_append, t1, t2]; omega
  rw [t3]
  repeat' (first | exact True.intro | omega | exact rfl | exact t4 | refine brT_ok.2 ⟨fun q => ?_, fun _ => ?_⟩ | exact absurd (of_decide_eq_true q) (by omega) | exact ⟨some 7, ⟨rfl, rfl, rfl⟩, rfl, rfl, rfl⟩ | refine And.intro ?_ ?_)
def catG3 (name : Nat) (args : List Value) : Rd Eff := match args with
  | [.slice (some ⟨nb, 0, none⟩) 3 _] => .blk nb fun b => match b with
    | some ⟨.row _ 1, .vals [s1, s2, s3]⟩ => (rdArg s1).bind fun d1 => (rdArg s2).bind fun d2 => (rdArg s3).bind fun d3 => (match rowI d1, rowI d2, rowI d3 with
      | some (l1, y1), some (l2, y2), some (l3, y3) => .ret ⟨.slice (some ⟨name, 0, none⟩) (l1 + l2 + l3) (l1 + l2 + l3), [(name, catB3 l1 l2 l3 y1 y2 y3)], [l1 * 2 ≤ y1.length, l2 * 2 ≤ y2.length, l3 * 2 ≤ y3.length, 0 < l1 + l2 + l3, l1 + l2 + l3 ≤ 1000]⟩
      | _, _, _ => .fail)
    | _ => .fail
  | _ => .fail
set_option maxRecDepth 100000 in
theorem catG3_sound {J : TabJ} (hJ : GSound Try.prog J.g) : GSound Try.prog (consR 44 catG3 J).g := by
  intro h name args s eff hr hn
  simp only [consR] at hr
  split at hr
  rotate_left
  · exact hJ h name args s eff hr hn
  rename_i heq
  obtain rfl := Nat.eq_of_beq_eq_true heq
  refine ⟨(entersB_res (by kernel_rfl)).1, fun B ρ0 ρ w args' ha hm hB hcond => ?_⟩
  unfold catG3 at hr
  split at hr
  rotate_left
  · simp [Rd.run] at hr
  rename_i nb c
  simp only [Rd.run] at hr
  split at hr
  rotate_left
  · simp [Rd.run] at hr
  rename_i e s1 s2 s3 hb
  obtain ⟨d1, hd1, hr1⟩ := bind_some hr
  obtain ⟨d2, hd2, hr2⟩ := bind_some hr1
  obtain ⟨d3, hd3, hr3⟩ := bind_some hr2
  clear hr hr1 hr2
  split at hr3
  rotate_left
  · simp [Rd.run] at hr3
  rename_i l1 y1 l2 y2 l3 y3 r1 r2 r3
  obtain rfl := rowI_spec r1
  obtain rfl := rowI_spec r2
  obtain rfl := rowI_spec r3
  obtain rfl : (⟨.slice (some ⟨name, 0, none⟩) (l1 + l2 + l3) (l1 + l2 + l3), [(name, catB3 l1 l2 l3 y1 y2 y3)], [l1 * 2 ≤ y1.length, l2 * 2 ≤ y2.length, l3 * 2 ≤ y3.length, 0 < l1 + l2 + l3, l1 + l2 + l3 ≤ 1000]⟩ : Eff) = eff := by simpa [Rd.run] using hr3
  obtain ⟨k1, k2, k5, k3, k4, _⟩ := hcond
  obtain ⟨hsz, hval⟩ := ha
  obtain ⟨x0, rfl⟩ : ∃ x0, args' = #[x0] := by
    have h2 : args'.size = 1 := by simpa using hsz.symm
    match args', h2 with
    | ⟨[x0]⟩, _ => exact ⟨x0, rfl⟩
  have v0 := hval 0 _ x0 rfl rfl
  rcases v0.slice_inv with ⟨g, f, cp, c', j1, jok, j2, j3, j4⟩ | ⟨hl0, _⟩ | ⟨hl0, _⟩
  rotate_left
  · omega
  · omega
  rcases hm.ok nb _ hb with ⟨p, q1, q2, q3⟩ | ⟨g2, cap, q1, q2, cs', q3, q4, q5⟩
  · rw [q1] at j1
    obtain rfl : p = (g, f, cp) := by simpa using j1
    exact absurd ⟨q2, 0, q3⟩ jok.not
  rw [q1] at j1
  obtain ⟨rfl, rfl, rfl⟩ : g2 = g ∧ 0 = f ∧ some cap = cp := by simpa using j1
  subst j2
  obtain ⟨x1, a1, a2⟩ := q5 0 s1 rfl
  obtain ⟨x2, b1, b2⟩ := q5 1 s2 rfl
  obtain ⟨x3, f1, f2⟩ := q5 2 s3 rfl
  have hg : g2 < w.heap.size := (Array.getElem?_eq_some_iff.1 q3).1
  have cell : ∀ k x, cs'[k]? = some x → w.cell? ⟨g2, 0 + k, none⟩ = some x := fun k x hx => by
    simp only [World.cell?, Nat.zero_add, q3, Option.isSome_none, Bool.false_eq_true, if_false, hx]
  refine (three_call mixed ECt_ok rfl (cat_row3 k1 k2 k5 k3 k4) w ((rdArg_ok hd1).2 a2 hm) ((rdArg_ok hd2).2 b2 hm) ((rdArg_ok hd3).2 f2 hm) hg (cell 0 _ a1) (cell 1 _ b1) (cell 2 _ f1) j3).mono ?_
  rintro e' w' ⟨v', p, rfl, hbel, hrow⟩
  obtain ⟨g1, g3⟩ := hrow (addPl ρ name p) name (addPl_same _ _ _)
  refine ⟨v', addPl ρ name p, rfl, addPl_ext (hm.fresh name hn), g1, BelowK.of hbel hB, ?_⟩
  rw [upd_one]
  exact hm.newRow hB hbel hn rfl g3
theorem sdL_len : ∀ l : List Pt, (sdL l).length = l.length - 1
  | [] => rfl
  | [_] => rfl
  | a :: b :: t => by
    show (sdL (b :: t)).length + 1 = _
    rw [sdL_len (b :: t)]
    simp
theorem sdL_at : ∀ (l : List Pt) (k : Nat), k + 1 < l.length → (sdL l).getD k (0, 0) = dif (l.getD (k + 1) (0, 0)) (l.getD k (0, 0))
  | [], k, h => by simp at h
  | [_], k, h => by simp at h
  | a :: b :: t, 0, _ => rfl
  | a :: b :: t, k + 1, h => sdL_at (b :: t) k (by simpa using h)
theorem sdC_len (ps : List Pt) : (sdC ps).length = ps.length := by
  unfold sdC
  rw [sdL_len, List.length_append, List.length_take]
  cases ps <;> simp
theorem sdN_all (ps : List Pt) : sdN ps ps.length = sdC ps := by
  refine ext_getD (by rw [sdN_len, sdC_len]) fun k hk => ?_
  rw [sdN_len] at hk
  unfold sdC
  rw [sdL_at _ _ (by rw [List.length_append, List.length_take]; omega), getD_append, getD_append, if_pos hk]
  have e1 : (sdN ps ps.length).getD k (0, 0) = dif (nxP ps k) (ps.getD k (0, 0)) := by
    unfold sdN
    simp [List.getD, hk]
  rw [e1]
  unfold nxP
  rcases Nat.lt_or_ge (k + 1) ps.length with c | c
  · rw [if_pos c, Nat.mod_eq_of_lt c]
  · rw [if_neg (by omega)]
    have : k + 1 = ps.length := by omega
    rw [this, Nat.mod_self, Nat.sub_self]
    congr 1
    match ps, hk with
    | _ :: _, _ => rfl
theorem Gr_sds {fn : Func} (hf : Try.prog.funcs[68]? = some fn) : RangesGood Try.prog (rt1 7 e_sds) (codeOf fn) := by
  obtain rfl := fn_is Try.func68 hf
  exact rt1_good (by kernel_rfl) lg_sds
def GSd : FuncId → RT := fun f => match f with
  | 68 => rt1 7 e_sds
  | _ => noR
def ESd : Env := withG (tabE B0) GSd
theorem ESd_ok : EnvOk Try.prog ESd := withG_ok (tabE_ok B0_ok) (by
  intro f fn hf
  unfold GSd
  split
  all_goals first | with_reducible exact Gr_sds hf | exact noR_good)
set_option maxRecDepth 100000 in
theorem tr_iSd (ps : List Pt) : bodyX Try.prog ESd 30 12 68 [.row ps.length (.ints (flat ps))] = .need ((flat ps).length = ps.length * (2 : Nat)) (.need (allV (ptsA ps.length (flat ps)) = true) (.need (ps.length ≤ (1000 : Nat)) (.fin (ß 3 (ps.length) (ps.length)) [some ⟨.view, .ints (flat ps)⟩, some ⟨.box, .vals [ß 3 (ps.length) (ps.length)]⟩, some ⟨.view, .vals [ß 0 (ps.length) (ps.length)]⟩, some ⟨.row 32 2, .ints (flat (sdN (ptsA ps.length (flat ps)) ps.length))⟩]))) := by kernel_rfl
theorem resR_iSd {ps : List Pt} (hv : allV ps = true) (h : ps.length ≤ 1000) : ResR Try.prog 68 [.row ps.length (.ints (flat ps))] (rowP (sdC ps)) (blkP (sdC ps)) := by
  refine bodyX_resR mixed ESd_ok (m := 30) (n := 12) rfl ?_
  rw [tr_iSd]
  simp only [ptsA_flat, sdN_all]
  exact ⟨flat_length ps, hv, h, some 3, ⟨rfl, rfl, (sdC_len ps).symm⟩, rfl, rfl, rfl⟩
theorem drop_cons2 {l : List Pt} {i : Nat} (h : i < l.length) : l.drop i = l.getD i (0, 0) :: l.drop (i + 1) := drop_cons h (0, 0)
theorem mgE_is : ∀ (f i j : Nat) (o U V : List Pt), U.length + V.length ≤ f + i + j → i ≤ U.length → j ≤ V.length →
    (mgE f i j o U V).1 ≤ U.length ∧ (mgE f i j o U V).2.1 ≤ V.length ∧ (mgE f i j o U V).2.2 ++ U.drop (mgE f i j o U V).1 ++ V.drop (mgE f i j o U V).2.1 = o ++ mrg (U.drop i) (V.drop j)
  | 0, i, j, o, U, V, h, hi, hj => by
    refine ⟨hi, hj, ?_⟩
    show o ++ U.drop i ++ V.drop j = _
    rw [List.drop_of_length_le (show U.length ≤ i by omega), List.drop_of_length_le (show V.length ≤ j by omega), mrg_nl]
    simp
  | f + 1, i, j, o, U, V, h, hi, hj => by
    by_cases c : i < U.length ∧ j < V.length
    · rw [mgE, if_pos c, drop_cons2 c.1, drop_cons2 c.2, mrg_cc]
      split
      · obtain ⟨a1, a2, a3⟩ := mgE_is f (i + 1) j (o ++ [U.getD i (0, 0)]) U V (by omega) (by omega) hj
        refine ⟨a1, a2, ?_⟩
        rw [a3, drop_cons2 c.2]
        simp
      · split
        · obtain ⟨a1, a2, a3⟩ := mgE_is f i (j + 1) (o ++ [V.getD j (0, 0)]) U V (by omega) hi (by omega)
          refine ⟨a1, a2, ?_⟩
          rw [a3, drop_cons2 c.1]
          simp
        · obtain ⟨a1, a2, a3⟩ := mgE_is f (i + 1) (j + 1) (o ++ [adP (U.getD i (0, 0)) (V.getD j (0, 0))]) U V (by omega) (by omega) (by omega)
          refine ⟨a1, a2, ?_⟩
          rw [a3]
          simp
    · rw [mgE, if_neg c]
      refine ⟨hi, hj, ?_⟩
      show o ++ U.drop i ++ V.drop j = _
      rcases Nat.lt_or_ge i U.length with d | d
      · rw [List.drop_of_length_le (show V.length ≤ j by omega), mrg_nil]
        simp
      · rw [List.drop_of_length_le d, mrg_nl]
        simp
theorem mgT_is (us vs : List Pt) : (mgT us vs).1 ≤ us.length ∧ (mgT us vs).2.1 ≤ vs.length ∧ (mgT us vs).2.2 ++ us.drop (mgT us vs).1 ++ vs.drop (mgT us vs).2.1 = mrg us vs := by
  have := mgE_is (us.length + vs.length) 0 0 [] us vs (by omega) (Nat.zero_le _) (Nat.zero_le _)
  simpa [mgT] using this
theorem mrg_len : ∀ (n : Nat) (u v : List Pt), u.length + v.length ≤ n → (mrg u v).length ≤ u.length + v.length ∧ (0 < u.length + v.length → 0 < (mrg u v).length)
  | _, [], v, _ => by rw [mrg_nl]; simp
  | _, u :: us, [], _ => by rw [mrg_nil]; simp
  | 0, _ :: _, _ :: _, hn => by simp at hn
  | n + 1, u :: us, v :: vs, hn => by
    have i1 := mrg_len n us (v :: vs) (by simp at hn ⊢; omega)
    have i2 := mrg_len n (u :: us) vs (by simp at hn ⊢; omega)
    have i3 := mrg_len n us vs (by simp at hn ⊢; omega)
    rw [mrg_cc]
    split
    · simp at *; omega
    · split <;> (simp at *; omega)
theorem Lr_mgs {fn : Func} (hf : Try.prog.funcs[67]? = some fn) : LoopsGood Try.prog (lt1 e_mgs) 0 (codeOf fn) := by
  obtain rfl := fn_is Try.func67 hf
  exact lt1_good lg_mgs
def LMg : FuncId → LT := fun f => match f with
  | 67 => lt1 e_mgs
  | _ => noL
def JCt3 : TabJ := consR 44 catG3 noJ
theorem JCt3_ok : GSound Try.prog JCt3.g := catG3_sound (failG_sound Try.prog)
def EMk : Env := withT (mkE B0 (fun _ _ => none) LMg) JCt3
theorem EMk_ok : EnvOk Try.prog EMk := withT_ok (mkEOk B0_ok (fun _ _ _ _ _ h => (by cases h)) (by
  intro f fn hf
  unfold LMg
  split
  all_goals first | with_reducible exact Lr_mgs hf | exact noL_good)) JCt3_ok
set_option maxRecDepth 100000 in
theorem tr_iMg (us vs : List Pt) : bodyX Try.prog EMk 30 12 67 [.row us.length (.ints (flat us)), .row vs.length (.ints (flat vs))] = .need ((flat us).length = us.length * (2 : Nat)) (.need ((flat vs).length = vs.length * (2 : Nat)) (.need (allW (ptsA us.length (flat us)) = true) (.need (allW (ptsA vs.length (flat vs)) = true) (.need (us.length + vs.length ≤ (1000 : Nat)) (.need ((mgT (ptsA us.length (flat us)) (ptsA vs.length (flat vs))).snd.2.length * (2 : Nat) ≤ (List.drop 0 (flat (mgT (ptsA us.length (flat us)) (ptsA vs.length (flat vs))).snd.2)).length) (.need ((us.length - (mgT (ptsA us.length (flat us)) (ptsA vs.length (flat vs))).fst) * (2 : Nat) ≤ (List.drop ((mgT (ptsA us.length (flat us)) (ptsA vs.length (flat vs))).fst * (2 : Nat)) (flat us)).length) (.need ((vs.length - (mgT (ptsA us.length (flat us)) (ptsA vs.length (flat vs))).snd.fst) * (2 : Nat) ≤ (List.drop ((mgT (ptsA us.length (flat us)) (ptsA vs.length (flat vs))).snd.fst * (2 : Nat)) (flat vs)).length) (.need ((0 : Nat) < (mgT (ptsA us.length (flat us)) (ptsA vs.length (flat vs))).snd.2.length + (us.length - (mgT (ptsA us.length (flat us)) (ptsA vs.length (flat vs))).fst) + (vs.length - (mgT (ptsA us.length (flat us)) (ptsA vs.length (flat vs))).snd.fst)) (.need ((mgT (ptsA us.length (flat us)) (ptsA vs.length (flat vs))).snd.2.length + (us.length - (mgT (ptsA us.length (flat us)) (ptsA vs.length (flat vs))).fst) + (vs.length - (mgT (ptsA us.length (flat us)) (ptsA vs.length (flat vs))).snd.fst) ≤ (1000 : Nat)) (.fin (ß 4 ((mgT (ptsA us.length (flat us)) (ptsA vs.length (flat vs))).snd.2.length + (us.length - (mgT (ptsA us.length (flat us)) (ptsA vs.length (flat vs))).fst) + (vs.length - (mgT (ptsA us.length (flat us)) (ptsA vs.length (flat vs))).snd.fst)) ((mgT (ptsA us.length (flat us)) (ptsA vs.length (flat vs))).snd.2.length + (us.length - (mgT (ptsA us.length (flat us)) (ptsA vs.length (flat vs))).fst) + (vs.length - (mgT (ptsA us.length (flat us)) (ptsA vs.length (flat vs))).snd.fst))) [some ⟨.view, .ints (flat us)⟩, some ⟨.view, .ints (flat vs)⟩, some ⟨.row 32 2, .ints (flat (mgT (ptsA us.length (flat us)) (ptsA vs.length (flat vs))).snd.2)⟩, some ⟨.row 23 1, .vals [ß 2 ((mgT (ptsA us.length (flat us)) (ptsA vs.length (flat vs))).snd.2.length) ((mgT (ptsA us.length (flat us)) (ptsA vs.length (flat vs))).snd.2.length), .slice (some ⟨0, (mgT (ptsA us.length (flat us)) (ptsA vs.length (flat vs))).fst * 2, none⟩) (us.length - (mgT (ptsA us.length (flat us)) (ptsA vs.length (flat vs))).fst) (us.length - (mgT (ptsA us.length (flat us)) (ptsA vs.length (flat vs))).fst), .slice (some ⟨1, (mgT (ptsA us.length (flat us)) (ptsA vs.length (flat vs))).snd.fst * 2, none⟩) (vs.length - (mgT (ptsA us.length (flat us)) (ptsA vs.length (flat vs))).snd.fst) (vs.length - (mgT (ptsA us.length (flat us)) (ptsA vs.length (flat vs))).snd.fst)]⟩, some ⟨.row 32 2, .ints (List.take ((mgT (ptsA us.length (flat us)) (ptsA vs.length (flat vs))).snd.2.length * 2) (List.drop 0 (flat (mgT (ptsA us.length (flat us)) (ptsA vs.length (flat vs))).snd.2)) ++ List.take ((us.length - (mgT (ptsA us.length (flat us)) (ptsA vs.length (flat vs))).fst) * 2) (List.drop ((mgT (ptsA us.length (flat us)) (ptsA vs.length (flat vs))).fst * 2) (flat us)) ++ List.take ((vs.length - (mgT (ptsA us.length (flat us)) (ptsA vs.length (flat vs))).snd.fst) * 2) (List.drop ((mgT (ptsA us.length (flat us)) (ptsA vs.length (flat vs))).snd.fst * 2) (flat vs)))⟩])))))))))) := by kernel_rfl
theorem flat_dropK (l : List Pt) (i : Nat) : (flat l).drop (i * 2) = flat (l.drop i) := by
  induction l generalizing i with
  | nil => simp [flat]
  | cons p t ih =>
    cases i with
    | zero => rfl
    | succ i =>
      rw [List.drop_succ_cons, ← ih i]
      show List.drop ((i + 1) * 2) (p.1 :: p.2 :: flat t) = _
      rw [Nat.add_mul]
      rfl
theorem resR_iMg {us vs : List Pt} (ha : allW us = true) (hb : allW vs = true) (h : us.length + vs.length ≤ 1000) (h0 : 0 < us.length + vs.length) : ResR Try.prog 67 [.row us.length (.ints (flat us)), .row vs.length (.ints (flat vs))] (rowP (mrg us vs)) (blkP (mrg us vs)) := by
  refine bodyX_resR mixed EMk_ok (m := 30) (n := 12) rfl ?_
  rw [tr_iMg]
  simp only [ptsA_flat, List.drop_zero, flat_dropK, flat_length]
  obtain ⟨m1, m2, m3⟩ := mgT_is us vs
  obtain ⟨l1, l2⟩ := mrg_len _ us vs (Nat.le_refl _)
  have l2 := l2 h0
  have ll := congrArg List.length m3
  simp only [List.length_append, List.length_drop] at ll
  generalize mgT us vs = T at *
  obtain ⟨i, j, o⟩ := T
  simp only at *
  have t1 : List.take (o.length * 2) (flat o) = flat o := List.take_of_length_le (by rw [flat_length]; omega)
  have t2 : List.take ((us.length - i) * 2) (flat (us.drop i)) = flat (us.drop i) := List.take_of_length_le (by rw [flat_length, List.length_drop]; omega)
  have t3 : List.take ((vs.length - j) * 2) (flat (vs.drop j)) = flat (vs.drop j) := List.take_of_length_le (by rw [flat_length, List.length_drop]; omega)
  rw [t1, t2, t3, ← flat_append, ← flat_append, m3, ll]
  refine ⟨trivial, trivial, ha, hb, h, ?_, ?_, ?_, ?_, ?_, some 4, ⟨rfl, rfl, rfl⟩, rfl, rfl, rfl⟩
  all_goals first | omega | (rw [List.length_drop]; omega)
end Go.Proofs.Ytbfoheblcoakiaa
