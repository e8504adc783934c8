/-
  Texts that the proof needs, merged. Written by an AI agent.
-/
import Derived.Orders
import Derived.Below
import Derived.OrdersIn
import Derived.Deep.LoopGhost
import Derived.WalkKit
import Derived.Laws.CopyRow
import Derived.Laws.AppendOwn
import Derived.Laws.Slices
import Derived.Laws.MakeOwn
import Derived.Test.YtbfoheblcoakiaaRows
import Derived.ProofKit
import Derived.OpenShut
import Derived.Carry
import Derived.IntWalk
import Derived.Test.YtbfoheblcoakiaaProg
import Derived.WalkSpells
import Derived.WalkLawsBesides
import Derived.Lib.Hide
import Derived.Deep.QuietTactic
import Derived.BigQuiet
import Derived.KernelRfl
import Derived.Deep.RegionHeld3
import Derived.LoopTactic
import Derived.Laws.StructEq
import Derived.Laws.Tables
import Derived.RangeFuncNested
import Derived.RangeFuncLeaves
import Derived.Deep.Slices
import Derived.Deep.Fields
import Derived.ChangeSame
import Derived.Deep.DeepCutAuto
import Derived.Shelf.SlSortCmp.WholeK
import Derived.Sort.Grow
import Derived.Shelf.SlSortCmp.NoneTotal
import Derived.Test.YtbfoheblcoakiaaZMinkowskiArea7
namespace Go.Proofs.Ytbfoheblcoakiaa
set_option linter.all false
open Go.RowKit
set_option maxRecDepth 100000 in
theorem tr_cr2 (ax ay bx b_y px py : Int) : runX Try.prog (tabE B0) 30 12 89 [.v (.agg #[iv ax, iv ay]), .v (.agg #[iv bx, iv b_y]), .v (.agg #[iv px, iv py])] (fun u => .fin u []) = .fin (.int .i64 (IntKind.i64.wrap (IntKind.i64.wrap (IntKind.i64.wrap (bx - ax) * IntKind.i64.wrap (py - ay)) - IntKind.i64.wrap (IntKind.i64.wrap (b_y - ay) * IntKind.i64.wrap (px - ax))))) [] := by kernel_rfl
theorem res_cr2 {ax ay bx b_y px py : Int} (h1 : pt2 ax ay = true) (h2 : pt2 bx b_y = true) (h3 : pt2 px py = true) : Res Try.prog 89 [.v (.agg #[iv ax, iv ay]), .v (.agg #[iv bx, iv b_y]), .v (.agg #[iv px, iv py])] (iv (crossI ax ay bx b_y px py)) := by
  refine res_of mixed (tabE_ok B0_ok) (m := 30) (n := 12) ?_
  rw [tr_cr2]
  have h1 := pt2_iff.1 h1
  have h2 := pt2_iff.1 h2
  have h3 := pt2_iff.1 h3
  have p9 := mul_bd (x := bx - ax) (y := py - ay) 4000 4000 (by omega) (by omega)
  have p10 := mul_bd (x := b_y - ay) (y := px - ax) 4000 4000 (by omega) (by omega)
  simp (disch := omega) only [wr]
  rfl
def pXw : List DArg → Option (Value × List Prop)
  | [.v (.agg ⟨[.int .i64 ax, .int .i64 ay]⟩), .v (.agg ⟨[.int .i64 bx, .int .i64 b_y]⟩), .v (.agg ⟨[.int .i64 px, .int .i64 py]⟩)] => some (iv (crossI ax ay bx b_y px py), [pt2 ax ay = true, pt2 bx b_y = true, pt2 px py = true])
  | _ => none
theorem pXw_ok {ds : List DArg} {v : Value} {C : List Prop} (h : pXw ds = some (v, C)) (hC : AllP C) : Res Try.prog 89 ds v := by
  unfold pXw at h
  split at h
  · obtain ⟨rfl, rfl⟩ : _ ∧ _ := by simpa using h
    exact res_cr2 hC.1 hC.2.1 hC.2.2.1
  · cases h
def TCw : Tab := fun f ds => match f with
  | 89 => pXw ds
  | f => B0 f ds
theorem TCw_ok : TabOk Try.prog TCw := by
  intro f ds v C h hC
  unfold TCw at h
  (try split at h)
  all_goals first | with_reducible exact pXw_ok h hC | exact B0_ok _ _ _ _ h hC
def ECw : Env := mkE TCw (fun _ _ => none) (fun _ => noL)
theorem ECw_ok : EnvOk Try.prog ECw := mkEOk TCw_ok (fun _ _ _ _ _ h => (by cases h)) (fun _ _ _ => noL_good)
noncomputable def c_cwS : Code := ((loopsOf (codeOf Try.f70))[1]?).getD .skip
def k_cwS : Ex → List Nat := keeps [0, 3, 4] [(2, [0, 3, 4]), (1, [0, 3, 4]), (0, [3])] [2]
def s_cwS (ps st : List Pt) (i : Nat) : Nat → St := fun j => ⟨(.slice (some ⟨0, 0, none⟩) ps.length ps.length :: topV :: topV :: .slice (some ⟨2, 0, none⟩) j j :: .int .i64 i :: topV :: topV :: topV :: topV :: topV :: topV :: topV :: topV :: topV :: topV :: topV :: topV :: topV :: topV :: topV :: topV :: topV :: topV :: topV :: topV :: topV :: topV :: topV :: topV :: topV :: topV :: topV :: topV :: topV :: topV :: topV :: topV :: topV :: topV :: topV :: topV :: topV :: topV :: topV :: topV :: topV :: topV :: topV :: []), [some ⟨.view, .ints (flat ps)⟩, some ⟨.dead, .vals []⟩, some ⟨.row 32 2, .ints (flat st)⟩]⟩
def re_cwS : Nat → Ex := fun _ => .exit 2
def rs_cwS (ps st : List Pt) (i : Nat) : Nat → St := fun j => ⟨(.slice (some ⟨0, 0, none⟩) ps.length ps.length :: topV :: topV :: .slice (some ⟨2, 0, none⟩) (popN st (ps.getD i (0, 0)) st.length) (popN st (ps.getD i (0, 0)) st.length) :: .int .i64 i :: topV :: topV :: topV :: topV :: topV :: topV :: topV :: topV :: topV :: topV :: topV :: topV :: topV :: topV :: topV :: topV :: topV :: topV :: topV :: topV :: topV :: topV :: topV :: topV :: topV :: topV :: topV :: topV :: topV :: topV :: topV :: topV :: topV :: topV :: topV :: topV :: topV :: topV :: topV :: topV :: topV :: topV :: topV :: []), [some ⟨.view, .ints (flat ps)⟩, some ⟨.dead, .vals []⟩, some ⟨.row 32 2, .ints (flat st)⟩]⟩
set_option maxRecDepth 100000 in
theorem tr_cwS (ps st : List Pt) (i : Nat) (j : Nat) : bodyL Try.prog ECw 30 12 noL 2 c_cwS k_cwS 3 (s_cwS ps st i j) = brT (decide (1 < (↑j : Int))) (.need (pt2 ((flat st).getD ((0 : Nat) + (IntKind.i64.wrap ((↑j : Int) - (2 : Int))).toNat * (2 : Nat)) (0 : Int)) ((flat st).getD ((0 : Nat) + (IntKind.i64.wrap ((↑j : Int) - (2 : Int))).toNat * (2 : Nat) + (1 : Nat)) (0 : Int)) = true) (.need (pt2 ((flat st).getD ((0 : Nat) + (IntKind.i64.wrap ((↑j : Int) - (1 : Int))).toNat * (2 : Nat)) (0 : Int)) ((flat st).getD ((0 : Nat) + (IntKind.i64.wrap ((↑j : Int) - (1 : Int))).toNat * (2 : Nat) + (1 : Nat)) (0 : Int)) = true) (.need (pt2 ((flat ps).getD ((0 : Nat) + (↑i : Int).toNat * (2 : Nat)) (0 : Int)) ((flat ps).getD ((0 : Nat) + (↑i : Int).toNat * (2 : Nat) + (1 : Nat)) (0 : Int)) = true) (.need ((0 : Int) ≤ IntKind.i64.wrap ((↑j : Int) - (2 : Int)) ∧ IntKind.i64.wrap ((↑j : Int) - (2 : Int)) < (↑j : Int)) (.need ((0 : Nat) + (IntKind.i64.wrap ((↑j : Int) - (2 : Int))).toNat * (2 : Nat) + (2 : Nat) ≤ (flat st).length) (.need ((0 : Int) ≤ IntKind.i64.wrap ((↑j : Int) - (1 : Int)) ∧ IntKind.i64.wrap ((↑j : Int) - (1 : Int)) < (↑j : Int)) (.need ((0 : Nat) + (IntKind.i64.wrap ((↑j : Int) - (1 : Int))).toNat * (2 : Nat) + (2 : Nat) ≤ (flat st).length) (.need ((0 : Int) ≤ (↑i : Int) ∧ (↑i : Int) < (↑ps.length : Int)) (.need ((0 : Nat) + (↑i : Int).toNat * (2 : Nat) + (2 : Nat) ≤ (flat ps).length) (brT (decide (crossI ((flat st).getD (0 + (IntKind.i64.wrap ((↑j : Int) - 2)).toNat * 2) 0) ((flat st).getD (0 + (IntKind.i64.wrap ((↑j : Int) - 2)).toNat * 2 + 1) 0) ((flat st).getD (0 + (IntKind.i64.wrap ((↑j : Int) - 1)).toNat * 2) 0) ((flat st).getD (0 + (IntKind.i64.wrap ((↑j : Int) - 1)).toNat * 2 + 1) 0) ((flat ps).getD (0 + (↑i : Int).toNat * 2) 0) ((flat ps).getD (0 + (↑i : Int).toNat * 2 + 1) 0) ≤ 0)) (.need ((0 : Int) ≤ bndI none (0 : Int) ∧ bndI none (0 : Int) ≤ bndI (some (IntKind.i64, IntKind.i64.wrap ((↑j : Int) - (1 : Int)))) (↑j : Int) ∧ bndI (some (IntKind.i64, IntKind.i64.wrap ((↑j : Int) - (1 : Int)))) (↑j : Int) ≤ (↑j : Int)) (.leaf .normal ⟨(.slice (some ⟨0, 0, none⟩) (ps.length) (ps.length) :: topV :: topV :: .slice (some ⟨2, 0, none⟩) ((bndI (some (IntKind.i64, IntKind.i64.wrap ((↑j : Int) - 1))) (↑j : Int)).toNat - 0) ((bndI (some (IntKind.i64, IntKind.i64.wrap ((↑j : Int) - 1))) (↑j : Int)).toNat - 0) :: .int .i64 ((↑i : Int)) :: topV :: topV :: topV :: topV :: topV :: topV :: topV :: topV :: topV :: topV :: topV :: topV :: topV :: topV :: topV :: topV :: topV :: topV :: topV :: topV :: topV :: topV :: topV :: topV :: topV :: topV :: topV :: topV :: topV :: topV :: topV :: topV :: topV :: topV :: topV :: topV :: topV :: topV :: topV :: topV :: topV :: topV :: topV :: []), [some ⟨.view, .ints (flat ps)⟩, some deadB, some ⟨.row 32 2, .ints (flat st)⟩]⟩)) (.leaf (.exit 2) ⟨(.slice (some ⟨0, 0, none⟩) (ps.length) (ps.length) :: topV :: topV :: .slice (some ⟨2, 0, none⟩) (j) (j) :: .int .i64 ((↑i : Int)) :: topV :: topV :: topV :: topV :: topV :: topV :: topV :: topV :: topV :: topV :: topV :: topV :: topV :: topV :: topV :: topV :: topV :: topV :: topV :: topV :: topV :: topV :: topV :: topV :: topV :: topV :: topV :: topV :: topV :: topV :: topV :: topV :: topV :: topV :: topV :: topV :: topV :: topV :: topV :: topV :: topV :: topV :: topV :: []), [some ⟨.view, .ints (flat ps)⟩, some deadB, some ⟨.row 32 2, .ints (flat st)⟩]⟩))))))))))) (.leaf (.exit 2) ⟨(.slice (some ⟨0, 0, none⟩) (ps.length) (ps.length) :: topV :: topV :: .slice (some ⟨2, 0, none⟩) (j) (j) :: .int .i64 ((↑i : Int)) :: topV :: topV :: topV :: topV :: topV :: topV :: topV :: topV :: topV :: topV :: topV :: topV :: topV :: topV :: topV :: topV :: topV :: topV :: topV :: topV :: topV :: topV :: topV :: topV :: topV :: topV :: topV :: topV :: topV :: topV :: topV :: topV :: topV :: topV :: topV :: topV :: topV :: topV :: topV :: topV :: topV :: topV :: topV :: []), [some ⟨.view, .ints (flat ps)⟩, some deadB, some ⟨.row 32 2, .ints (flat st)⟩]⟩) := by kernel_rfl
set_option maxRecDepth 100000 in
theorem nl_cwS : loopsOf c_cwS = [] := by kernel_rfl
def inv_cwS (ps st : List Pt) (i : Nat) : Nat → Prop := fun j => j ≤ st.length ∧ popN st (ps.getD i (0, 0)) j = popN st (ps.getD i (0, 0)) st.length
def me_cwS (ps st : List Pt) (i : Nat) : Nat → Nat := fun j => j
/-- A round of this loop. -/
def Round_cwS (ps st : List Pt) (i : Nat) : Prop := ∀ xx : Nat, inv_cwS ps st i xx → (bodyL Try.prog ECw 30 12 noL 2 c_cwS k_cwS 3 (s_cwS ps st i xx)).ok (RoundEnd 3 (s_cwS ps st i) (inv_cwS ps st i) (me_cwS ps st i) re_cwS (rs_cwS ps st i) xx) (fun _ _ => False)
def e_cwS (s : St) (k : Ex → St → Tree) : Option Tree := match Nat.beq s.tmps.length 48, pickL s.tmps [0, 3, 4], s.mem with
  | true, [.slice (some ⟨0, 0, none⟩) n _, .slice (some ⟨2, 0, none⟩) l _, .int .i64 ii], [some ⟨.view, .ints xs⟩, some ⟨.dead, .vals []⟩, some ⟨.row 32 2, .ints ys⟩] => some (needs [xs.length = n * 2, allW (ptsA n xs) = true, 0 ≤ ii, ii < n, ys.length = l * 2, allW (ptsA l ys) = true, l ≤ 1000] (k (.exit 2) ⟨(.slice (some ⟨0, 0, none⟩) n n :: topV :: topV :: .slice (some ⟨2, 0, none⟩) (popN (ptsA l ys) ((ptsA n xs).getD ii.toNat (0, 0)) l) (popN (ptsA l ys) ((ptsA n xs).getD ii.toNat (0, 0)) l) :: .int .i64 ii :: topV :: topV :: topV :: topV :: topV :: topV :: topV :: topV :: topV :: topV :: topV :: topV :: topV :: topV :: topV :: topV :: topV :: topV :: topV :: topV :: topV :: topV :: topV :: topV :: topV :: topV :: topV :: topV :: topV :: topV :: topV :: topV :: topV :: topV :: topV :: topV :: topV :: topV :: topV :: topV :: topV :: topV :: topV :: []), [some ⟨.view, .ints xs⟩, some ⟨.dead, .vals []⟩, some ⟨.row 32 2, .ints ys⟩]⟩))
  | _, _, _ => none
set_option maxRecDepth 100000 in
theorem round_cwS (ps st : List Pt) (i : Nat) (hv : allW st = true) (hp : allW ps = true) (h : st.length ≤ 1000) (hi : i < ps.length) : Round_cwS ps st i := by
  rintro j ⟨h1, h2⟩
  rw [tr_cwS]
  refine brT_ok.2 ⟨fun hlt => ?_, fun hge => ?_⟩
  · have hlt := of_decide_eq_true hlt
    obtain ⟨m, rfl⟩ : ∃ m, j = m + 2 := ⟨j - 2, by omega⟩
    have w1 : IntKind.i64.wrap (((m + 2 : Nat) : Int) - 2) = (m : Int) := by rw [wr (by omega)]; omega
    have w2 : IntKind.i64.wrap (((m + 2 : Nat) : Int) - 1) = ((m + 1 : Nat) : Int) := by rw [wr (by omega)]; omega
    simp only [w1, w2, bnd_some, bnd_none, Int.toNat_natCast, flat_get0, flat_get1, flat_length, Nat.zero_add, Nat.sub_zero]
    refine ⟨allW_at hv (by omega), allW_at hv (by omega), allW_at hp hi, by omega, by omega, by omega, by omega, by omega, by omega, brT_ok.2 ⟨fun q => ⟨by omega, ?_⟩, fun q => ?_⟩⟩
    · have e := popN_yes (st := st) (p := ps.getD i (0, 0)) (m := m) (of_decide_eq_true q)
      refine ⟨m + 1, [], ⟨by omega, by rw [← e]; exact h2⟩, ?_, rfl, by simp only [rs_cwS], ?_⟩
      · show m + 1 < m + 2; omega
      · repeat' (first | exact True.intro | exact rfl | exact fun _ => rfl | (simp; done) | refine And.intro ?_ ?_)
    · have e := popN_no (st := st) (p := ps.getD i (0, 0)) (m := m) (of_decide_eq_false q)
      refine ⟨rfl, [], ?_⟩
      simp only [rs_cwS, ← h2, e]
      repeat' (first | exact True.intro | exact rfl | exact fun _ => rfl | (simp; done) | refine And.intro ?_ ?_)
  · have hge := of_decide_eq_false hge
    have e := popN_low (st := st) (p := ps.getD i (0, 0)) (j := j) (by omega)
    refine ⟨rfl, [], ?_⟩
    simp only [rs_cwS, ← h2, e]
    repeat' (first | exact True.intro | exact rfl | exact fun _ => rfl | (simp; done) | refine And.intro ?_ ?_)
set_option maxRecDepth 100000 in
theorem lg_cwS : LoopE Try.prog e_cwS c_cwS := by
  intro s k t F H hlt ht
  unfold e_cwS at hlt
  split at hlt
  rotate_left
  · cases hlt
  rename_i hlen hpick hmem
  obtain ⟨tmps, mem⟩ := s
  simp only at hlen hpick hmem
  subst hmem
  obtain rfl := Option.some.inj hlt
  obtain ⟨⟨h0, h5, h6, h7, h1, h2, h4, _⟩, ht2⟩ := needs_ok ht
  clear ht hlt
  obtain ⟨st, rfl, rfl⟩ := even_flat h1
  obtain ⟨ps, rfl, rfl⟩ := even_flat h0
  obtain ⟨i, rfl⟩ := Int.eq_ofNat_of_zero_le h6
  rw [ptsA_flat] at ht2 h2 h5
  simp only [ptsA_flat, Int.toNat_natCast] at ht2
  refine ⟨_, _, ht2, loop_run mixed ECw_ok (s_cwS ps st i) (inv_cwS ps st i) (me_cwS ps st i) re_cwS (rs_cwS ps st i) k_cwS (fun _ => rfl) (noLoops nl_cwS) (round_cwS ps st i h2 h5 h4 (by omega)) (x := st.length) ⟨Nat.le_refl _, rfl⟩ (π := []) rfl ?_⟩
  refine ⟨rfl, rfl, ?_, wvs_spread' [0, 3, 4] hlen rfl ?_⟩
  · repeat' (first | exact True.intro | exact rfl | exact wv_top _ _ | exact fun _ => rfl | assumption | exact Eq.symm (by assumption) | exact vI0 rfl | refine And.intro ?_ ?_)
  · rw [hpick]
    repeat' (first | exact True.intro | exact rfl | exact wv_top _ _ | exact fun _ => rfl | assumption | exact Eq.symm (by assumption) | exact vI0 rfl | refine And.intro ?_ ?_)
def ltCw : LT := fun j s k => match j with
  | 1 => e_cwS s k
  | _ => none
noncomputable def c_cwP : Code := ((loopsOf (codeOf Try.f70))[0]?).getD .skip
def k_cwP : Ex → List Nat := keeps [0, 3, 4] [(0, [3])] [2]
def s_cwP (ps : List Pt) : Nat × (List Pt) → St := fun (i, st) => ⟨(.slice (some ⟨0, 0, none⟩) ps.length ps.length :: topV :: topV :: .slice (some ⟨2, 0, none⟩) st.length st.length :: .int .i64 i :: topV :: topV :: topV :: topV :: topV :: topV :: topV :: topV :: topV :: topV :: topV :: topV :: topV :: topV :: topV :: topV :: topV :: topV :: topV :: topV :: topV :: topV :: topV :: topV :: topV :: topV :: topV :: topV :: topV :: topV :: topV :: topV :: topV :: topV :: topV :: topV :: topV :: topV :: topV :: topV :: topV :: topV :: topV :: []), [some ⟨.view, .ints (flat ps)⟩, some ⟨.dead, .vals []⟩, some ⟨.row 32 2, .ints (flat st)⟩]⟩
def re_cwP : Nat × (List Pt) → Ex := fun _ => .exit 0
def rs_cwP (ps : List Pt) : Nat × (List Pt) → St := fun (i, st) => ⟨(topV :: topV :: topV :: .slice (some ⟨2, 0, none⟩) (chn st (ps.drop i)).length (chn st (ps.drop i)).length :: topV :: topV :: topV :: topV :: topV :: topV :: topV :: topV :: topV :: topV :: topV :: topV :: topV :: topV :: topV :: topV :: topV :: topV :: topV :: topV :: topV :: topV :: topV :: topV :: topV :: topV :: topV :: topV :: topV :: topV :: topV :: topV :: topV :: topV :: topV :: topV :: topV :: topV :: topV :: topV :: topV :: topV :: topV :: topV :: []), [some ⟨.view, .ints (flat ps)⟩, some ⟨.dead, .vals []⟩, some ⟨.row 32 2, .ints (flat (chn st (ps.drop i)))⟩]⟩
set_option maxRecDepth 100000 in
theorem tr_cwP (ps : List Pt) (i : Nat) (st : List Pt) : bodyL Try.prog ECw 30 12 ltCw 1 c_cwP k_cwP 16 (s_cwP ps (i, st)) = brT (decide ((↑i : Int) < (↑ps.length : Int))) (.need ((flat ps).length = ps.length * (2 : Nat)) (.need (allW (ptsA ps.length (flat ps)) = true) (.need ((0 : Int) ≤ (↑i : Int)) (.need ((↑i : Int) < (↑ps.length : Int)) (.need ((flat st).length = st.length * (2 : Nat)) (.need (allW (ptsA st.length (flat st)) = true) (.need (st.length ≤ (1000 : Nat)) (.need ((0 : Int) ≤ (↑i : Int) ∧ (↑i : Int) < (↑ps.length : Int)) (.need ((0 : Nat) + (↑i : Int).toNat * (2 : Nat) + (2 : Nat) ≤ (flat ps).length) (.need ((popN (ptsA st.length (flat st)) ((ptsA ps.length (flat ps)).getD (↑i : Int).toNat ((0 : Int), (0 : Int))) st.length + (1 : Nat)) * (16 : Nat) ≤ (140737488355328 : Nat) ∧ popN (ptsA st.length (flat st)) ((ptsA ps.length (flat ps)).getD (↑i : Int).toNat ((0 : Int), (0 : Int))) st.length + (1 : Nat) ≤ (1000000 : Nat)) (.need ((0 : Nat) + popN (ptsA st.length (flat st)) ((ptsA ps.length (flat ps)).getD (↑i : Int).toNat ((0 : Int), (0 : Int))) st.length * (2 : Nat) ≤ (flat st).length) (.leaf .normal ⟨(.slice (some ⟨0, 0, none⟩) (ps.length) (ps.length) :: topV :: topV :: .slice (some ⟨4, 0, none⟩) (popN (ptsA st.length (flat st)) ((ptsA ps.length (flat ps)).getD (↑i : Int).toNat (0, 0)) st.length + 1) (popN (ptsA st.length (flat st)) ((ptsA ps.length (flat ps)).getD (↑i : Int).toNat (0, 0)) st.length + 1) :: .int .i64 (IntKind.i64.wrap ((↑i : Int) + 1)) :: topV :: topV :: topV :: topV :: topV :: topV :: topV :: topV :: topV :: topV :: topV :: topV :: topV :: topV :: topV :: topV :: topV :: topV :: topV :: topV :: topV :: topV :: topV :: topV :: topV :: topV :: topV :: topV :: topV :: topV :: topV :: topV :: topV :: topV :: topV :: topV :: topV :: topV :: topV :: topV :: topV :: topV :: topV :: []), [some ⟨.view, .ints (flat ps)⟩, some deadB, some deadB, some ⟨.row 32 2, .vals [.int .i64 ((flat ps).getD (0 + (↑i : Int).toNat * 2) 0), .int .i64 ((flat ps).getD (0 + (↑i : Int).toNat * 2 + 1) 0)]⟩, some ⟨.row 32 2, .ints (List.take (popN (ptsA st.length (flat st)) ((ptsA ps.length (flat ps)).getD (↑i : Int).toNat (0, 0)) st.length * 2) (List.drop 0 (flat st)) ++ [(flat ps).getD (0 + (↑i : Int).toNat * 2) 0, (flat ps).getD (0 + (↑i : Int).toNat * 2 + 1) 0])⟩]⟩)))))))))))) (.leaf (.exit 0) ⟨(topV :: topV :: topV :: .slice (some ⟨2, 0, none⟩) (st.length) (st.length) :: topV :: topV :: topV :: topV :: topV :: topV :: topV :: topV :: topV :: topV :: topV :: topV :: topV :: topV :: topV :: topV :: topV :: topV :: topV :: topV :: topV :: topV :: topV :: topV :: topV :: topV :: topV :: topV :: topV :: topV :: topV :: topV :: topV :: topV :: topV :: topV :: topV :: topV :: topV :: topV :: topV :: topV :: topV :: topV :: []), [some ⟨.view, .ints (flat ps)⟩, some deadB, some ⟨.row 32 2, .ints (flat st)⟩]⟩) := by kernel_rfl
def inv_cwP (ps : List Pt) : Nat × (List Pt) → Prop := fun (i, st) => i ≤ ps.length ∧ st.length ≤ i ∧ allW st = true
def me_cwP (ps : List Pt) : Nat × (List Pt) → Nat := fun (i, st) => ps.length - i
/-- A round of this loop. -/
def Round_cwP (ps : List Pt) : Prop := ∀ xx : Nat × (List Pt), inv_cwP ps xx → (bodyL Try.prog ECw 30 12 ltCw 1 c_cwP k_cwP 16 (s_cwP ps xx)).ok (RoundEnd 2 (s_cwP ps) (inv_cwP ps) (me_cwP ps) re_cwP (rs_cwP ps) xx) (fun _ _ => False)
def e_cwP (s : St) (k : Ex → St → Tree) : Option Tree := match Nat.beq s.tmps.length 48, pickL s.tmps [0, 3, 4], s.mem with
  | true, [.slice (some ⟨0, 0, none⟩) n _, .slice (some ⟨1, 0, none⟩) z _, .int .i64 i], [some ⟨.view, .ints xs⟩, some ⟨.row 32 2, .vals []⟩] => some (needs [i = 0, z = 0, xs.length = n * 2, allW (ptsA n xs) = true, n ≤ 1000] (k (.exit 0) ⟨(topV :: topV :: topV :: .slice (some ⟨2, 0, none⟩) (chn [] (ptsA n xs)).length (chn [] (ptsA n xs)).length :: topV :: topV :: topV :: topV :: topV :: topV :: topV :: topV :: topV :: topV :: topV :: topV :: topV :: topV :: topV :: topV :: topV :: topV :: topV :: topV :: topV :: topV :: topV :: topV :: topV :: topV :: topV :: topV :: topV :: topV :: topV :: topV :: topV :: topV :: topV :: topV :: topV :: topV :: topV :: topV :: topV :: topV :: topV :: topV :: []), [some ⟨.view, .ints xs⟩, some ⟨.dead, .vals []⟩, some ⟨.row 32 2, .ints (flat (chn [] (ptsA n xs)))⟩]⟩))
  | _, _, _ => none
set_option maxRecDepth 100000 in
theorem in_cwP : loopsOf c_cwP = [c_cwS] := by kernel_rfl
theorem ltCw_good : LoopsGood Try.prog ltCw 1 c_cwP := by
  intro i d hd s k t F H hlt ht
  rw [in_cwP] at hd
  cases i with
  | zero =>
    obtain rfl : c_cwS = d := by simpa using hd
    exact lg_cwS s k t F H hlt ht
  | succ i => simp at hd
set_option maxRecDepth 100000 in
theorem round_cwP (ps : List Pt) (hp : allW ps = true) (h : ps.length ≤ 1000) : Round_cwP ps := by
  rintro ⟨i, st⟩ ⟨h1, h2, h3⟩
  rw [tr_cwP]
  simp only [ptsA_flat, Int.toNat_natCast, Nat.zero_add, flat_get0, flat_get1, flat_length, List.drop_zero, flat_take, flat_snoc]
  refine brT_ok.2 ⟨fun hlt => ?_, fun hge => ?_⟩
  · have hi : i < ps.length := by have := of_decide_eq_true hlt; omega
    have hk : popN st (ps.getD i (0, 0)) st.length ≤ st.length := popN_le st _ _
    have el : popN st (ps.getD i (0, 0)) st.length + 1 = (pushP st (ps.getD i (0, 0))).length := (pushP_len1 st _).symm
    refine ⟨by first | exact True.intro | rfl, hp, by omega, by omega, by first | exact True.intro | rfl, h3, by omega, by omega, by omega, ⟨by omega, by omega⟩, by omega, ?_⟩
    rw [wsucc hi (by omega), el]
    refine ⟨(i + 1, pushP st (ps.getD i (0, 0))), [some 4], ⟨by omega, by omega, allW_push h3 (allW_at hp hi)⟩, ?_, rfl, by simp only [rs_cwP, chn_step hi], ?_⟩
    · show ps.length - (i + 1) < ps.length - i; omega
    · repeat' (first | exact True.intro | exact rfl | exact fun _ => rfl | (simp; done) | refine And.intro ?_ ?_)
  · have hge := of_decide_eq_false hge
    refine ⟨rfl, [some 2], ?_⟩
    simp only [rs_cwP, chn_end (ps := ps) (st := st) (i := i) (by omega)]
    repeat' (first | exact True.intro | exact rfl | exact fun _ => rfl | (simp; done) | refine And.intro ?_ ?_)
set_option maxRecDepth 100000 in
theorem lg_cwP : LoopE Try.prog e_cwP c_cwP := by
  intro s k t F H hlt ht
  unfold e_cwP at hlt
  split at hlt
  rotate_left
  · cases hlt
  rename_i hlen hpick hmem
  obtain ⟨tmps, mem⟩ := s
  simp only at hlen hpick hmem
  subst hmem
  obtain rfl := Option.some.inj hlt
  obtain ⟨⟨rfl, rfl, h1, h2, h3, _⟩, ht2⟩ := needs_ok ht
  clear ht hlt
  obtain ⟨ps, rfl, rfl⟩ := even_flat h1
  rw [ptsA_flat] at ht2 h2
  refine ⟨_, _, ht2, loop_run2 mixed ECw_ok (s_cwP ps) (inv_cwP ps) (me_cwP ps) re_cwP (rs_cwP ps) k_cwP (fun _ => rfl) ltCw_good (round_cwP ps h2 h3) (x := (0, [])) ⟨Nat.zero_le _, Nat.le_refl _, rfl⟩ (π := [some 1]) rfl ?_⟩
  refine ⟨rfl, rfl, ?_, wvs_spread' [0, 3, 4] hlen rfl ?_⟩
  · repeat' (first | exact True.intro | exact rfl | exact wv_top _ _ | exact fun _ => rfl | assumption | exact Eq.symm (by assumption) | exact vI0 rfl | refine And.intro ?_ ?_)
  · rw [hpick]
    repeat' (first | exact True.intro | exact rfl | exact wv_top _ _ | exact fun _ => rfl | assumption | exact Eq.symm (by assumption) | exact vI0 rfl | refine And.intro ?_ ?_)
theorem Lr_cwP {fn : Func} (hf : Try.prog.funcs[70]? = some fn) : LoopsGood Try.prog (lt1 e_cwP) 0 (codeOf fn) := by
  obtain rfl := fn_is Try.func70 hf
  exact lt1_good lg_cwP
def LCw : FuncId → LT := fun f => match f with
  | 70 => lt1 e_cwP
  | _ => noL
def ECx : Env := mkE TCw (fun _ _ => none) LCw
theorem ECx_ok : EnvOk Try.prog ECx := mkEOk TCw_ok (fun _ _ _ _ _ h => (by cases h)) (by
  intro f fn hf
  unfold LCw
  split
  all_goals first | with_reducible exact Lr_cwP hf | exact noL_good)
set_option maxRecDepth 100000 in
theorem tr_wCn (ps : List Pt) : bodyX Try.prog ECx 30 12 70 [.row ps.length (.ints (flat ps))] = .need ((0 : Int) = (0 : Int)) (.need ((0 : Nat) = (0 : Nat)) (.need ((flat ps).length = ps.length * (2 : Nat)) (.need (allW (ptsA ps.length (flat ps)) = true) (.need (ps.length ≤ (1000 : Nat)) (.fin (.slice (some ⟨2, 0, none⟩) ((chn [] (ptsA ps.length (flat ps))).length) ((chn [] (ptsA ps.length (flat ps))).length)) [some ⟨.view, .ints (flat ps)⟩, some deadB, some ⟨.row 32 2, .ints (flat (chn [] (ptsA ps.length (flat ps))))⟩]))))) := by kernel_rfl
theorem resR_wCn {ps : List Pt} (hv : allW ps = true) (h : ps.length ≤ 1000) : ResR Try.prog 70 [.row ps.length (.ints (flat ps))] (rowP (chn [] ps)) (blkP (chn [] ps)) := by
  refine bodyX_resR mixed ECx_ok (m := 30) (n := 12) rfl ?_
  rw [tr_wCn]
  simp only [ptsA_flat]
  exact ⟨trivial, trivial, flat_length ps, hv, h, some 2, ⟨rfl, rfl, rfl⟩, rfl, rfl, rfl⟩
def RHz : TabR := fun f ds => match f, ds with
  | 70, [.row m (.ints xs)] => some (rowP (chn [] (ptsA m xs)), blkP (chn [] (ptsA m xs)), [m * 2 ≤ xs.length, allW (ptsA m xs) = true, m ≤ 1000])
  | 71, [.row m (.ints xs)] => some (rowP (revP (ptsA m xs)), blkP (revP (ptsA m xs)), [m * 2 ≤ xs.length, m ≤ 100000])
  | f, ds => RSq f ds
theorem RHz_ok : TabROk Try.prog RHz := by
  intro f ds v b C h hC
  unfold RHz at h
  (try split at h)
  all_goals first
    | (obtain ⟨rfl, rfl, rfl⟩ : _ ∧ _ ∧ _ := by simpa using h
       obtain ⟨_, h2⟩ := ptsA_spec hC.1
       have h1 := resR_pts1 (pre := []) (post := []) hC.1 (resR_wCn hC.2.1 (by rw [h2]; exact hC.2.2.1))
       simp only [List.nil_append, List.append_nil] at h1
       with_reducible exact h1)
    | (obtain ⟨rfl, rfl, rfl⟩ : _ ∧ _ ∧ _ := by simpa using h
       obtain ⟨_, h2⟩ := ptsA_spec hC.1
       have h1 := resR_pts1 (pre := []) (post := []) hC.1 (resR_rvd (by rw [h2]; exact hC.2.1))
       simp only [List.nil_append, List.append_nil] at h1
       with_reducible exact h1)
    | exact RSq_ok _ _ _ _ _ h hC
def EHw2 : Env := mkE B0 RHz (fun _ => noL)
theorem EHw2_ok : EnvOk Try.prog EHw2 := mkEOk B0_ok RHz_ok (fun _ _ _ => noL_good)
set_option maxRecDepth 100000 in
theorem tr_wHu (ps : List Pt) : bodyX Try.prog EHw2 30 12 38 [.row ps.length (.ints (flat ps))] = .need (ps.length * (2 : Nat) ≤ (List.drop (0 : Nat) (flat ps)).length) (.need (ps.length ≤ (1000 : Nat)) (brT (decide ((↑(srtL (ptsA ps.length (List.drop 0 (flat ps)))).length : Int) < 3)) (.fin (.slice (some ⟨1, 0, none⟩) ((srtL (ptsA ps.length (List.drop 0 (flat ps)))).length) ((srtL (ptsA ps.length (List.drop 0 (flat ps)))).length)) [some ⟨.view, .ints (flat ps)⟩, some ⟨.row 32 2, .ints (flat (srtL (ptsA ps.length (List.drop 0 (flat ps)))))⟩]) (.need ((srtL (ptsA ps.length (List.drop (0 : Nat) (flat ps)))).length * (2 : Nat) ≤ (List.drop (0 : Nat) (flat (srtL (ptsA ps.length (List.drop (0 : Nat) (flat ps)))))).length) (.need (allW (ptsA (srtL (ptsA ps.length (List.drop (0 : Nat) (flat ps)))).length (List.drop (0 : Nat) (flat (srtL (ptsA ps.length (List.drop (0 : Nat) (flat ps))))))) = true) (.need ((srtL (ptsA ps.length (List.drop (0 : Nat) (flat ps)))).length ≤ (1000 : Nat)) (.need ((srtL (ptsA ps.length (List.drop (0 : Nat) (flat ps)))).length * (2 : Nat) ≤ (List.drop (0 : Nat) (flat (srtL (ptsA ps.length (List.drop (0 : Nat) (flat ps)))))).length) (.need ((srtL (ptsA ps.length (List.drop (0 : Nat) (flat ps)))).length ≤ (100000 : Nat)) (.need ((revP (ptsA (srtL (ptsA ps.length (List.drop (0 : Nat) (flat ps)))).length (List.drop (0 : Nat) (flat (srtL (ptsA ps.length (List.drop (0 : Nat) (flat ps)))))))).length * (2 : Nat) ≤ (List.drop (0 : Nat) (flat (revP (ptsA (srtL (ptsA ps.length (List.drop (0 : Nat) (flat ps)))).length (List.drop (0 : Nat) (flat (srtL (ptsA ps.length (List.drop (0 : Nat) (flat ps)))))))))).length) (.need (allW (ptsA (revP (ptsA (srtL (ptsA ps.length (List.drop (0 : Nat) (flat ps)))).length (List.drop (0 : Nat) (flat (srtL (ptsA ps.length (List.drop (0 : Nat) (flat ps)))))))).length (List.drop (0 : Nat) (flat (revP (ptsA (srtL (ptsA ps.length (List.drop (0 : Nat) (flat ps)))).length (List.drop (0 : Nat) (flat (srtL (ptsA ps.length (List.drop (0 : Nat) (flat ps))))))))))) = true) (.need ((revP (ptsA (srtL (ptsA ps.length (List.drop (0 : Nat) (flat ps)))).length (List.drop (0 : Nat) (flat (srtL (ptsA ps.length (List.drop (0 : Nat) (flat ps)))))))).length ≤ (1000 : Nat)) (.need ((0 : Int) ≤ bndI none (0 : Int) ∧ bndI none (0 : Int) ≤ bndI (some (IntKind.i64, IntKind.i64.wrap ((↑(chn [] (ptsA (srtL (ptsA ps.length (List.drop (0 : Nat) (flat ps)))).length (List.drop (0 : Nat) (flat (srtL (ptsA ps.length (List.drop (0 : Nat) (flat ps)))))))).length : Int) - (1 : Int)))) (↑(chn [] (ptsA (srtL (ptsA ps.length (List.drop (0 : Nat) (flat ps)))).length (List.drop (0 : Nat) (flat (srtL (ptsA ps.length (List.drop (0 : Nat) (flat ps)))))))).length : Int) ∧ bndI (some (IntKind.i64, IntKind.i64.wrap ((↑(chn [] (ptsA (srtL (ptsA ps.length (List.drop (0 : Nat) (flat ps)))).length (List.drop (0 : Nat) (flat (srtL (ptsA ps.length (List.drop (0 : Nat) (flat ps)))))))).length : Int) - (1 : Int)))) (↑(chn [] (ptsA (srtL (ptsA ps.length (List.drop (0 : Nat) (flat ps)))).length (List.drop (0 : Nat) (flat (srtL (ptsA ps.length (List.drop (0 : Nat) (flat ps)))))))).length : Int) ≤ (↑(chn [] (ptsA (srtL (ptsA ps.length (List.drop (0 : Nat) (flat ps)))).length (List.drop (0 : Nat) (flat (srtL (ptsA ps.length (List.drop (0 : Nat) (flat ps)))))))).length : Int)) (.need ((0 : Int) ≤ bndI none (0 : Int) ∧ bndI none (0 : Int) ≤ bndI (some (IntKind.i64, IntKind.i64.wrap ((↑(chn [] (ptsA (revP (ptsA (srtL (ptsA ps.length (List.drop (0 : Nat) (flat ps)))).length (List.drop (0 : Nat) (flat (srtL (ptsA ps.length (List.drop (0 : Nat) (flat ps)))))))).length (List.drop (0 : Nat) (flat (revP (ptsA (srtL (ptsA ps.length (List.drop (0 : Nat) (flat ps)))).length (List.drop (0 : Nat) (flat (srtL (ptsA ps.length (List.drop (0 : Nat) (flat ps)))))))))))).length : Int) - (1 : Int)))) (↑(chn [] (ptsA (revP (ptsA (srtL (ptsA ps.length (List.drop (0 : Nat) (flat ps)))).length (List.drop (0 : Nat) (flat (srtL (ptsA ps.length (List.drop (0 : Nat) (flat ps)))))))).length (List.drop (0 : Nat) (flat (revP (ptsA (srtL (ptsA ps.length (List.drop (0 : Nat) (flat ps)))).length (List.drop (0 : Nat) (flat (srtL (ptsA ps.length (List.drop (0 : Nat) (flat ps)))))))))))).length : Int) ∧ bndI (some (IntKind.i64, IntKind.i64.wrap ((↑(chn [] (ptsA (revP (ptsA (srtL (ptsA ps.length (List.drop (0 : Nat) (flat ps)))).length (List.drop (0 : Nat) (flat (srtL (ptsA ps.length (List.drop (0 : Nat) (flat ps)))))))).length (List.drop (0 : Nat) (flat (revP (ptsA (srtL (ptsA ps.length (List.drop (0 : Nat) (flat ps)))).length (List.drop (0 : Nat) (flat (srtL (ptsA ps.length (List.drop (0 : Nat) (flat ps)))))))))))).length : Int) - (1 : Int)))) (↑(chn [] (ptsA (revP (ptsA (srtL (ptsA ps.length (List.drop (0 : Nat) (flat ps)))).length (List.drop (0 : Nat) (flat (srtL (ptsA ps.length (List.drop (0 : Nat) (flat ps)))))))).length (List.drop (0 : Nat) (flat (revP (ptsA (srtL (ptsA ps.length (List.drop (0 : Nat) (flat ps)))).length (List.drop (0 : Nat) (flat (srtL (ptsA ps.length (List.drop (0 : Nat) (flat ps)))))))))))).length : Int) ≤ (↑(chn [] (ptsA (revP (ptsA (srtL (ptsA ps.length (List.drop (0 : Nat) (flat ps)))).length (List.drop (0 : Nat) (flat (srtL (ptsA ps.length (List.drop (0 : Nat) (flat ps)))))))).length (List.drop (0 : Nat) (flat (revP (ptsA (srtL (ptsA ps.length (List.drop (0 : Nat) (flat ps)))).length (List.drop (0 : Nat) (flat (srtL (ptsA ps.length (List.drop (0 : Nat) (flat ps)))))))))))).length : Int)) (.need (((bndI (some (IntKind.i64, IntKind.i64.wrap ((↑(chn [] (ptsA (srtL (ptsA ps.length (List.drop (0 : Nat) (flat ps)))).length (List.drop (0 : Nat) (flat (srtL (ptsA ps.length (List.drop (0 : Nat) (flat ps)))))))).length : Int) - (1 : Int)))) (↑(chn [] (ptsA (srtL (ptsA ps.length (List.drop (0 : Nat) (flat ps)))).length (List.drop (0 : Nat) (flat (srtL (ptsA ps.length (List.drop (0 : Nat) (flat ps)))))))).length : Int)).toNat - (0 : Nat) + ((bndI (some (IntKind.i64, IntKind.i64.wrap ((↑(chn [] (ptsA (revP (ptsA (srtL (ptsA ps.length (List.drop (0 : Nat) (flat ps)))).length (List.drop (0 : Nat) (flat (srtL (ptsA ps.length (List.drop (0 : Nat) (flat ps)))))))).length (List.drop (0 : Nat) (flat (revP (ptsA (srtL (ptsA ps.length (List.drop (0 : Nat) (flat ps)))).length (List.drop (0 : Nat) (flat (srtL (ptsA ps.length (List.drop (0 : Nat) (flat ps)))))))))))).length : Int) - (1 : Int)))) (↑(chn [] (ptsA (revP (ptsA (srtL (ptsA ps.length (List.drop (0 : Nat) (flat ps)))).length (List.drop (0 : Nat) (flat (srtL (ptsA ps.length (List.drop (0 : Nat) (flat ps)))))))).length (List.drop (0 : Nat) (flat (revP (ptsA (srtL (ptsA ps.length (List.drop (0 : Nat) (flat ps)))).length (List.drop (0 : Nat) (flat (srtL (ptsA ps.length (List.drop (0 : Nat) (flat ps)))))))))))).length : Int)).toNat - (bndI none (0 : Int)).toNat, Cs.ints (List.take (((bndI (some (IntKind.i64, IntKind.i64.wrap ((↑(chn [] (ptsA (revP (ptsA (srtL (ptsA ps.length (List.drop (0 : Nat) (flat ps)))).length (List.drop (0 : Nat) (flat (srtL (ptsA ps.length (List.drop (0 : Nat) (flat ps)))))))).length (List.drop (0 : Nat) (flat (revP (ptsA (srtL (ptsA ps.length (List.drop (0 : Nat) (flat ps)))).length (List.drop (0 : Nat) (flat (srtL (ptsA ps.length (List.drop (0 : Nat) (flat ps)))))))))))).length : Int) - (1 : Int)))) (↑(chn [] (ptsA (revP (ptsA (srtL (ptsA ps.length (List.drop (0 : Nat) (flat ps)))).length (List.drop (0 : Nat) (flat (srtL (ptsA ps.length (List.drop (0 : Nat) (flat ps)))))))).length (List.drop (0 : Nat) (flat (revP (ptsA (srtL (ptsA ps.length (List.drop (0 : Nat) (flat ps)))).length (List.drop (0 : Nat) (flat (srtL (ptsA ps.length (List.drop (0 : Nat) (flat ps)))))))))))).length : Int)).toNat - (bndI none (0 : Int)).toNat) * Try.prog.types[(32 : Nat)].size) (List.drop ((0 : Nat) + (bndI none (0 : Int)).toNat * Try.prog.types[(32 : Nat)].size) (flat (chn [] (ptsA (revP (ptsA (srtL (ptsA ps.length (List.drop (0 : Nat) (flat ps)))).length (List.drop (0 : Nat) (flat (srtL (ptsA ps.length (List.drop (0 : Nat) (flat ps)))))))).length (List.drop (0 : Nat) (flat (revP (ptsA (srtL (ptsA ps.length (List.drop (0 : Nat) (flat ps)))).length (List.drop (0 : Nat) (flat (srtL (ptsA ps.length (List.drop (0 : Nat) (flat ps))))))))))))))), [(0 : Nat) + (bndI none (0 : Int)).toNat * Try.prog.types[(32 : Nat)].size + ((bndI (some (IntKind.i64, IntKind.i64.wrap ((↑(chn [] (ptsA (revP (ptsA (srtL (ptsA ps.length (List.drop (0 : Nat) (flat ps)))).length (List.drop (0 : Nat) (flat (srtL (ptsA ps.length (List.drop (0 : Nat) (flat ps)))))))).length (List.drop (0 : Nat) (flat (revP (ptsA (srtL (ptsA ps.length (List.drop (0 : Nat) (flat ps)))).length (List.drop (0 : Nat) (flat (srtL (ptsA ps.length (List.drop (0 : Nat) (flat ps)))))))))))).length : Int) - (1 : Int)))) (↑(chn [] (ptsA (revP (ptsA (srtL (ptsA ps.length (List.drop (0 : Nat) (flat ps)))).length (List.drop (0 : Nat) (flat (srtL (ptsA ps.length (List.drop (0 : Nat) (flat ps)))))))).length (List.drop (0 : Nat) (flat (revP (ptsA (srtL (ptsA ps.length (List.drop (0 : Nat) (flat ps)))).length (List.drop (0 : Nat) (flat (srtL (ptsA ps.length (List.drop (0 : Nat) (flat ps)))))))))))).length : Int)).toNat - (bndI none (0 : Int)).toNat) * Try.prog.types[(32 : Nat)].size ≤ (flat (chn [] (ptsA (revP (ptsA (srtL (ptsA ps.length (List.drop (0 : Nat) (flat ps)))).length (List.drop (0 : Nat) (flat (srtL (ptsA ps.length (List.drop (0 : Nat) (flat ps)))))))).length (List.drop (0 : Nat) (flat (revP (ptsA (srtL (ptsA ps.length (List.drop (0 : Nat) (flat ps)))).length (List.drop (0 : Nat) (flat (srtL (ptsA ps.length (List.drop (0 : Nat) (flat ps))))))))))))).length]).fst) * (16 : Nat) ≤ (140737488355328 : Nat) ∧ (bndI (some (IntKind.i64, IntKind.i64.wrap ((↑(chn [] (ptsA (srtL (ptsA ps.length (List.drop (0 : Nat) (flat ps)))).length (List.drop (0 : Nat) (flat (srtL (ptsA ps.length (List.drop (0 : Nat) (flat ps)))))))).length : Int) - (1 : Int)))) (↑(chn [] (ptsA (srtL (ptsA ps.length (List.drop (0 : Nat) (flat ps)))).length (List.drop (0 : Nat) (flat (srtL (ptsA ps.length (List.drop (0 : Nat) (flat ps)))))))).length : Int)).toNat - (0 : Nat) + ((bndI (some (IntKind.i64, IntKind.i64.wrap ((↑(chn [] (ptsA (revP (ptsA (srtL (ptsA ps.length (List.drop (0 : Nat) (flat ps)))).length (List.drop (0 : Nat) (flat (srtL (ptsA ps.length (List.drop (0 : Nat) (flat ps)))))))).length (List.drop (0 : Nat) (flat (revP (ptsA (srtL (ptsA ps.length (List.drop (0 : Nat) (flat ps)))).length (List.drop (0 : Nat) (flat (srtL (ptsA ps.length (List.drop (0 : Nat) (flat ps)))))))))))).length : Int) - (1 : Int)))) (↑(chn [] (ptsA (revP (ptsA (srtL (ptsA ps.length (List.drop (0 : Nat) (flat ps)))).length (List.drop (0 : Nat) (flat (srtL (ptsA ps.length (List.drop (0 : Nat) (flat ps)))))))).length (List.drop (0 : Nat) (flat (revP (ptsA (srtL (ptsA ps.length (List.drop (0 : Nat) (flat ps)))).length (List.drop (0 : Nat) (flat (srtL (ptsA ps.length (List.drop (0 : Nat) (flat ps)))))))))))).length : Int)).toNat - (bndI none (0 : Int)).toNat, Cs.ints (List.take (((bndI (some (IntKind.i64, IntKind.i64.wrap ((↑(chn [] (ptsA (revP (ptsA (srtL (ptsA ps.length (List.drop (0 : Nat) (flat ps)))).length (List.drop (0 : Nat) (flat (srtL (ptsA ps.length (List.drop (0 : Nat) (flat ps)))))))).length (List.drop (0 : Nat) (flat (revP (ptsA (srtL (ptsA ps.length (List.drop (0 : Nat) (flat ps)))).length (List.drop (0 : Nat) (flat (srtL (ptsA ps.length (List.drop (0 : Nat) (flat ps)))))))))))).length : Int) - (1 : Int)))) (↑(chn [] (ptsA (revP (ptsA (srtL (ptsA ps.length (List.drop (0 : Nat) (flat ps)))).length (List.drop (0 : Nat) (flat (srtL (ptsA ps.length (List.drop (0 : Nat) (flat ps)))))))).length (List.drop (0 : Nat) (flat (revP (ptsA (srtL (ptsA ps.length (List.drop (0 : Nat) (flat ps)))).length (List.drop (0 : Nat) (flat (srtL (ptsA ps.length (List.drop (0 : Nat) (flat ps)))))))))))).length : Int)).toNat - (bndI none (0 : Int)).toNat) * Try.prog.types[(32 : Nat)].size) (List.drop ((0 : Nat) + (bndI none (0 : Int)).toNat * Try.prog.types[(32 : Nat)].size) (flat (chn [] (ptsA (revP (ptsA (srtL (ptsA ps.length (List.drop (0 : Nat) (flat ps)))).length (List.drop (0 : Nat) (flat (srtL (ptsA ps.length (List.drop (0 : Nat) (flat ps)))))))).length (List.drop (0 : Nat) (flat (revP (ptsA (srtL (ptsA ps.length (List.drop (0 : Nat) (flat ps)))).length (List.drop (0 : Nat) (flat (srtL (ptsA ps.length (List.drop (0 : Nat) (flat ps))))))))))))))), [(0 : Nat) + (bndI none (0 : Int)).toNat * Try.prog.types[(32 : Nat)].size + ((bndI (some (IntKind.i64, IntKind.i64.wrap ((↑(chn [] (ptsA (revP (ptsA (srtL (ptsA ps.length (List.drop (0 : Nat) (flat ps)))).length (List.drop (0 : Nat) (flat (srtL (ptsA ps.length (List.drop (0 : Nat) (flat ps)))))))).length (List.drop (0 : Nat) (flat (revP (ptsA (srtL (ptsA ps.length (List.drop (0 : Nat) (flat ps)))).length (List.drop (0 : Nat) (flat (srtL (ptsA ps.length (List.drop (0 : Nat) (flat ps)))))))))))).length : Int) - (1 : Int)))) (↑(chn [] (ptsA (revP (ptsA (srtL (ptsA ps.length (List.drop (0 : Nat) (flat ps)))).length (List.drop (0 : Nat) (flat (srtL (ptsA ps.length (List.drop (0 : Nat) (flat ps)))))))).length (List.drop (0 : Nat) (flat (revP (ptsA (srtL (ptsA ps.length (List.drop (0 : Nat) (flat ps)))).length (List.drop (0 : Nat) (flat (srtL (ptsA ps.length (List.drop (0 : Nat) (flat ps)))))))))))).length : Int)).toNat - (bndI none (0 : Int)).toNat) * Try.prog.types[(32 : Nat)].size ≤ (flat (chn [] (ptsA (revP (ptsA (srtL (ptsA ps.length (List.drop (0 : Nat) (flat ps)))).length (List.drop (0 : Nat) (flat (srtL (ptsA ps.length (List.drop (0 : Nat) (flat ps)))))))).length (List.drop (0 : Nat) (flat (revP (ptsA (srtL (ptsA ps.length (List.drop (0 : Nat) (flat ps)))).length (List.drop (0 : Nat) (flat (srtL (ptsA ps.length (List.drop (0 : Nat) (flat ps))))))))))))).length]).fst ≤ (1000000 : Nat)) (.need ((0 : Nat) + ((bndI (some (IntKind.i64, IntKind.i64.wrap ((↑(chn [] (ptsA (revP (ptsA (srtL (ptsA ps.length (List.drop (0 : Nat) (flat ps)))).length (List.drop (0 : Nat) (flat (srtL (ptsA ps.length (List.drop (0 : Nat) (flat ps)))))))).length (List.drop (0 : Nat) (flat (revP (ptsA (srtL (ptsA ps.length (List.drop (0 : Nat) (flat ps)))).length (List.drop (0 : Nat) (flat (srtL (ptsA ps.length (List.drop (0 : Nat) (flat ps)))))))))))).length : Int) - (1 : Int)))) (↑(chn [] (ptsA (revP (ptsA (srtL (ptsA ps.length (List.drop (0 : Nat) (flat ps)))).length (List.drop (0 : Nat) (flat (srtL (ptsA ps.length (List.drop (0 : Nat) (flat ps)))))))).length (List.drop (0 : Nat) (flat (revP (ptsA (srtL (ptsA ps.length (List.drop (0 : Nat) (flat ps)))).length (List.drop (0 : Nat) (flat (srtL (ptsA ps.length (List.drop (0 : Nat) (flat ps)))))))))))).length : Int)).toNat - (0 : Nat)) * (2 : Nat) ≤ (flat (chn [] (ptsA (revP (ptsA (srtL (ptsA ps.length (List.drop (0 : Nat) (flat ps)))).length (List.drop (0 : Nat) (flat (srtL (ptsA ps.length (List.drop (0 : Nat) (flat ps)))))))).length (List.drop (0 : Nat) (flat (revP (ptsA (srtL (ptsA ps.length (List.drop (0 : Nat) (flat ps)))).length (List.drop (0 : Nat) (flat (srtL (ptsA ps.length (List.drop (0 : Nat) (flat ps))))))))))))).length) (.need ((0 : Nat) + ((bndI (some (IntKind.i64, IntKind.i64.wrap ((↑(chn [] (ptsA (srtL (ptsA ps.length (List.drop (0 : Nat) (flat ps)))).length (List.drop (0 : Nat) (flat (srtL (ptsA ps.length (List.drop (0 : Nat) (flat ps)))))))).length : Int) - (1 : Int)))) (↑(chn [] (ptsA (srtL (ptsA ps.length (List.drop (0 : Nat) (flat ps)))).length (List.drop (0 : Nat) (flat (srtL (ptsA ps.length (List.drop (0 : Nat) (flat ps)))))))).length : Int)).toNat - (0 : Nat)) * (2 : Nat) ≤ (flat (chn [] (ptsA (srtL (ptsA ps.length (List.drop (0 : Nat) (flat ps)))).length (List.drop (0 : Nat) (flat (srtL (ptsA ps.length (List.drop (0 : Nat) (flat ps))))))))).length) (.fin (.slice (some ⟨5, 0, none⟩) ((bndI (some (IntKind.i64, IntKind.i64.wrap ((↑(chn [] (ptsA (srtL (ptsA ps.length (List.drop 0 (flat ps)))).length (List.drop 0 (flat (srtL (ptsA ps.length (List.drop 0 (flat ps)))))))).length : Int) - 1))) (↑(chn [] (ptsA (srtL (ptsA ps.length (List.drop 0 (flat ps)))).length (List.drop 0 (flat (srtL (ptsA ps.length (List.drop 0 (flat ps)))))))).length : Int)).toNat - 0 + ((bndI (some (IntKind.i64, IntKind.i64.wrap ((↑(chn [] (ptsA (revP (ptsA (srtL (ptsA ps.length (List.drop 0 (flat ps)))).length (List.drop 0 (flat (srtL (ptsA ps.length (List.drop 0 (flat ps)))))))).length (List.drop 0 (flat (revP (ptsA (srtL (ptsA ps.length (List.drop 0 (flat ps)))).length (List.drop 0 (flat (srtL (ptsA ps.length (List.drop 0 (flat ps)))))))))))).length : Int) - 1))) (↑(chn [] (ptsA (revP (ptsA (srtL (ptsA ps.length (List.drop 0 (flat ps)))).length (List.drop 0 (flat (srtL (ptsA ps.length (List.drop 0 (flat ps)))))))).length (List.drop 0 (flat (revP (ptsA (srtL (ptsA ps.length (List.drop 0 (flat ps)))).length (List.drop 0 (flat (srtL (ptsA ps.length (List.drop 0 (flat ps)))))))))))).length : Int)).toNat - (bndI none 0).toNat, Cs.ints (List.take (((bndI (some (IntKind.i64, IntKind.i64.wrap ((↑(chn [] (ptsA (revP (ptsA (srtL (ptsA ps.length (List.drop 0 (flat ps)))).length (List.drop 0 (flat (srtL (ptsA ps.length (List.drop 0 (flat ps)))))))).length (List.drop 0 (flat (revP (ptsA (srtL (ptsA ps.length (List.drop 0 (flat ps)))).length (List.drop 0 (flat (srtL (ptsA ps.length (List.drop 0 (flat ps)))))))))))).length : Int) - 1))) (↑(chn [] (ptsA (revP (ptsA (srtL (ptsA ps.length (List.drop 0 (flat ps)))).length (List.drop 0 (flat (srtL (ptsA ps.length (List.drop 0 (flat ps)))))))).length (List.drop 0 (flat (revP (ptsA (srtL (ptsA ps.length (List.drop 0 (flat ps)))).length (List.drop 0 (flat (srtL (ptsA ps.length (List.drop 0 (flat ps)))))))))))).length : Int)).toNat - (bndI none 0).toNat) * Try.prog.types[32].size) (List.drop (0 + (bndI none 0).toNat * Try.prog.types[32].size) (flat (chn [] (ptsA (revP (ptsA (srtL (ptsA ps.length (List.drop 0 (flat ps)))).length (List.drop 0 (flat (srtL (ptsA ps.length (List.drop 0 (flat ps)))))))).length (List.drop 0 (flat (revP (ptsA (srtL (ptsA ps.length (List.drop 0 (flat ps)))).length (List.drop 0 (flat (srtL (ptsA ps.length (List.drop 0 (flat ps))))))))))))))), [0 + (bndI none 0).toNat * Try.prog.types[32].size + ((bndI (some (IntKind.i64, IntKind.i64.wrap ((↑(chn [] (ptsA (revP (ptsA (srtL (ptsA ps.length (List.drop 0 (flat ps)))).length (List.drop 0 (flat (srtL (ptsA ps.length (List.drop 0 (flat ps)))))))).length (List.drop 0 (flat (revP (ptsA (srtL (ptsA ps.length (List.drop 0 (flat ps)))).length (List.drop 0 (flat (srtL (ptsA ps.length (List.drop 0 (flat ps)))))))))))).length : Int) - 1))) (↑(chn [] (ptsA (revP (ptsA (srtL (ptsA ps.length (List.drop 0 (flat ps)))).length (List.drop 0 (flat (srtL (ptsA ps.length (List.drop 0 (flat ps)))))))).length (List.drop 0 (flat (revP (ptsA (srtL (ptsA ps.length (List.drop 0 (flat ps)))).length (List.drop 0 (flat (srtL (ptsA ps.length (List.drop 0 (flat ps)))))))))))).length : Int)).toNat - (bndI none 0).toNat) * Try.prog.types[32].size ≤ (flat (chn [] (ptsA (revP (ptsA (srtL (ptsA ps.length (List.drop 0 (flat ps)))).length (List.drop 0 (flat (srtL (ptsA ps.length (List.drop 0 (flat ps)))))))).length (List.drop 0 (flat (revP (ptsA (srtL (ptsA ps.length (List.drop 0 (flat ps)))).length (List.drop 0 (flat (srtL (ptsA ps.length (List.drop 0 (flat ps))))))))))))).length]).fst) ((bndI (some (IntKind.i64, IntKind.i64.wrap ((↑(chn [] (ptsA (srtL (ptsA ps.length (List.drop 0 (flat ps)))).length (List.drop 0 (flat (srtL (ptsA ps.length (List.drop 0 (flat ps)))))))).length : Int) - 1))) (↑(chn [] (ptsA (srtL (ptsA ps.length (List.drop 0 (flat ps)))).length (List.drop 0 (flat (srtL (ptsA ps.length (List.drop 0 (flat ps)))))))).length : Int)).toNat - 0 + ((bndI (some (IntKind.i64, IntKind.i64.wrap ((↑(chn [] (ptsA (revP (ptsA (srtL (ptsA ps.length (List.drop 0 (flat ps)))).length (List.drop 0 (flat (srtL (ptsA ps.length (List.drop 0 (flat ps)))))))).length (List.drop 0 (flat (revP (ptsA (srtL (ptsA ps.length (List.drop 0 (flat ps)))).length (List.drop 0 (flat (srtL (ptsA ps.length (List.drop 0 (flat ps)))))))))))).length : Int) - 1))) (↑(chn [] (ptsA (revP (ptsA (srtL (ptsA ps.length (List.drop 0 (flat ps)))).length (List.drop 0 (flat (srtL (ptsA ps.length (List.drop 0 (flat ps)))))))).length (List.drop 0 (flat (revP (ptsA (srtL (ptsA ps.length (List.drop 0 (flat ps)))).length (List.drop 0 (flat (srtL (ptsA ps.length (List.drop 0 (flat ps)))))))))))).length : Int)).toNat - (bndI none 0).toNat, Cs.ints (List.take (((bndI (some (IntKind.i64, IntKind.i64.wrap ((↑(chn [] (ptsA (revP (ptsA (srtL (ptsA ps.length (List.drop 0 (flat ps)))).length (List.drop 0 (flat (srtL (ptsA ps.length (List.drop 0 (flat ps)))))))).length (List.drop 0 (flat (revP (ptsA (srtL (ptsA ps.length (List.drop 0 (flat ps)))).length (List.drop 0 (flat (srtL (ptsA ps.length (List.drop 0 (flat ps)))))))))))).length : Int) - 1))) (↑(chn [] (ptsA (revP (ptsA (srtL (ptsA ps.length (List.drop 0 (flat ps)))).length (List.drop 0 (flat (srtL (ptsA ps.length (List.drop 0 (flat ps)))))))).length (List.drop 0 (flat (revP (ptsA (srtL (ptsA ps.length (List.drop 0 (flat ps)))).length (List.drop 0 (flat (srtL (ptsA ps.length (List.drop 0 (flat ps)))))))))))).length : Int)).toNat - (bndI none 0).toNat) * Try.prog.types[32].size) (List.drop (0 + (bndI none 0).toNat * Try.prog.types[32].size) (flat (chn [] (ptsA (revP (ptsA (srtL (ptsA ps.length (List.drop 0 (flat ps)))).length (List.drop 0 (flat (srtL (ptsA ps.length (List.drop 0 (flat ps)))))))).length (List.drop 0 (flat (revP (ptsA (srtL (ptsA ps.length (List.drop 0 (flat ps)))).length (List.drop 0 (flat (srtL (ptsA ps.length (List.drop 0 (flat ps))))))))))))))), [0 + (bndI none 0).toNat * Try.prog.types[32].size + ((bndI (some (IntKind.i64, IntKind.i64.wrap ((↑(chn [] (ptsA (revP (ptsA (srtL (ptsA ps.length (List.drop 0 (flat ps)))).length (List.drop 0 (flat (srtL (ptsA ps.length (List.drop 0 (flat ps)))))))).length (List.drop 0 (flat (revP (ptsA (srtL (ptsA ps.length (List.drop 0 (flat ps)))).length (List.drop 0 (flat (srtL (ptsA ps.length (List.drop 0 (flat ps)))))))))))).length : Int) - 1))) (↑(chn [] (ptsA (revP (ptsA (srtL (ptsA ps.length (List.drop 0 (flat ps)))).length (List.drop 0 (flat (srtL (ptsA ps.length (List.drop 0 (flat ps)))))))).length (List.drop 0 (flat (revP (ptsA (srtL (ptsA ps.length (List.drop 0 (flat ps)))).length (List.drop 0 (flat (srtL (ptsA ps.length (List.drop 0 (flat ps)))))))))))).length : Int)).toNat - (bndI none 0).toNat) * Try.prog.types[32].size ≤ (flat (chn [] (ptsA (revP (ptsA (srtL (ptsA ps.length (List.drop 0 (flat ps)))).length (List.drop 0 (flat (srtL (ptsA ps.length (List.drop 0 (flat ps)))))))).length (List.drop 0 (flat (revP (ptsA (srtL (ptsA ps.length (List.drop 0 (flat ps)))).length (List.drop 0 (flat (srtL (ptsA ps.length (List.drop 0 (flat ps))))))))))))).length]).fst)) [some ⟨.view, .ints (flat ps)⟩, some ⟨.row 32 2, .ints (flat (srtL (ptsA ps.length (List.drop 0 (flat ps)))))⟩, some deadB, some ⟨.row 32 2, .ints (flat (revP (ptsA (srtL (ptsA ps.length (List.drop 0 (flat ps)))).length (List.drop 0 (flat (srtL (ptsA ps.length (List.drop 0 (flat ps)))))))))⟩, some ⟨.row 32 2, .ints (flat (chn [] (ptsA (revP (ptsA (srtL (ptsA ps.length (List.drop 0 (flat ps)))).length (List.drop 0 (flat (srtL (ptsA ps.length (List.drop 0 (flat ps)))))))).length (List.drop 0 (flat (revP (ptsA (srtL (ptsA ps.length (List.drop 0 (flat ps)))).length (List.drop 0 (flat (srtL (ptsA ps.length (List.drop 0 (flat ps)))))))))))))⟩, some ⟨.row 32 2, .ints (List.take (((bndI (some (IntKind.i64, IntKind.i64.wrap ((↑(chn [] (ptsA (srtL (ptsA ps.length (List.drop 0 (flat ps)))).length (List.drop 0 (flat (srtL (ptsA ps.length (List.drop 0 (flat ps)))))))).length : Int) - 1))) (↑(chn [] (ptsA (srtL (ptsA ps.length (List.drop 0 (flat ps)))).length (List.drop 0 (flat (srtL (ptsA ps.length (List.drop 0 (flat ps)))))))).length : Int)).toNat - 0) * 2) (List.drop 0 (flat (chn [] (ptsA (srtL (ptsA ps.length (List.drop 0 (flat ps)))).length (List.drop 0 (flat (srtL (ptsA ps.length (List.drop 0 (flat ps)))))))))) ++ List.take (((bndI (some (IntKind.i64, IntKind.i64.wrap ((↑(chn [] (ptsA (revP (ptsA (srtL (ptsA ps.length (List.drop 0 (flat ps)))).length (List.drop 0 (flat (srtL (ptsA ps.length (List.drop 0 (flat ps)))))))).length (List.drop 0 (flat (revP (ptsA (srtL (ptsA ps.length (List.drop 0 (flat ps)))).length (List.drop 0 (flat (srtL (ptsA ps.length (List.drop 0 (flat ps)))))))))))).length : Int) - 1))) (↑(chn [] (ptsA (revP (ptsA (srtL (ptsA ps.length (List.drop 0 (flat ps)))).length (List.drop 0 (flat (srtL (ptsA ps.length (List.drop 0 (flat ps)))))))).length (List.drop 0 (flat (revP (ptsA (srtL (ptsA ps.length (List.drop 0 (flat ps)))).length (List.drop 0 (flat (srtL (ptsA ps.length (List.drop 0 (flat ps)))))))))))).length : Int)).toNat - 0) * 2) (List.drop 0 (flat (chn [] (ptsA (revP (ptsA (srtL (ptsA ps.length (List.drop 0 (flat ps)))).length (List.drop 0 (flat (srtL (ptsA ps.length (List.drop 0 (flat ps)))))))).length (List.drop 0 (flat (revP (ptsA (srtL (ptsA ps.length (List.drop 0 (flat ps)))).length (List.drop 0 (flat (srtL (ptsA ps.length (List.drop 0 (flat ps)))))))))))))))⟩])))))))))))))))) := by kernel_rfl
theorem resR_wHu {ps : List Pt} (hv : allW ps = true) (h : ps.length ≤ 1000) : ResR Try.prog 38 [.row ps.length (.ints (flat ps))] (rowP (hulL (srtL ps))) (blkP (hulL (srtL ps))) := by
  refine bodyX_resR mixed EHw2_ok (m := 30) (n := 12) rfl ?_
  rw [tr_wHu]
  have hs := allW_srt hv
  have hle := srtL_le ps
  simp only [List.drop_zero, ptsA_flat, flat_length, bnd_some, bnd_none, Int.toNat_zero, Nat.sub_zero, Nat.zero_mul, Nat.zero_add, Nat.add_zero]
  generalize srtL ps = s at *
  have c1 := chn_len s []
  have c2 := chn_len (revP s) []
  have r1 := revP_len s
  simp only [List.length_nil, Nat.zero_add] at c1 c2
  refine ⟨by omega, by omega, brT_ok.2 ⟨fun q => ?_, fun q => ?_⟩⟩
  · have q := of_decide_eq_true q
    have e : hulL s = s := by unfold hulL; rw [if_pos (by omega)]
    rw [e]
    exact ⟨some 1, ⟨rfl, rfl, rfl⟩, rfl, rfl, rfl⟩
  · have q := of_decide_eq_false q
    have p1 := chn_pos (ps := s) (st := []) (.inr (by omega))
    have p2 := chn_pos (ps := revP s) (st := []) (.inr (by omega))
    have hr := allW_rev hs
    have e : hulL s = (chn [] s).take ((chn [] s).length - 1) ++ (chn [] (revP s)).take ((chn [] (revP s)).length - 1) := by unfold hulL; rw [if_neg (by omega)]
    rw [e]
    have hr2 := r1
    generalize revP s = t at *
    generalize chn [] s = u at *
    generalize chn [] t = v at *
    have w1 : IntKind.i64.wrap ((u.length : Int) - 1) = ((u.length - 1 : Nat) : Int) := by rw [wr (by omega)]; omega
    have w2 : IntKind.i64.wrap ((v.length : Int) - 1) = ((v.length - 1 : Nat) : Int) := by rw [wr (by omega)]; omega
    simp only [w1, w2, Int.toNat_natCast]
    simp only [flat_take, ← flat_append]
    have hl : (u.take (u.length - 1) ++ v.take (v.length - 1)).length = u.length - 1 + (v.length - 1) := by simp
    refine ⟨by omega, hs, by omega, by omega, by omega, by omega, hr, by omega, ⟨by omega, by omega, by omega⟩, ⟨by omega, by omega, by omega⟩, ⟨by omega, by omega⟩, by omega, by omega, some 5, ⟨rfl, rfl, hl.symm⟩, rfl, rfl, rfl⟩
end Go.Proofs.Ytbfoheblcoakiaa
namespace Go.Proofs.Ytbfoheblcoakiaa
set_option linter.all false
open Go.RowKit
def RAd : TabR := fun f ds => match f, ds with
  | 35, [.row m (.ints xs), .row n (.ints ys)] => some (rowP (addL (ptsA m xs) (ptsA n ys)), blkP (addL (ptsA m xs) (ptsA n ys)), [m * 2 ≤ xs.length, n * 2 ≤ ys.length, allV (ptsA m xs) = true, allV (ptsA n ys) = true, m ≤ 100 ∧ 0 < m, n ≤ 100 ∧ 0 < n])
  | f, ds => RHv f ds
theorem RAd_ok : TabROk Try.prog RAd := by
  intro f ds v b C h hC
  unfold RAd at h
  split at h
  · obtain ⟨rfl, rfl, rfl⟩ : _ ∧ _ ∧ _ := by simpa using h
    obtain ⟨_, h2⟩ := ptsA_spec hC.1
    obtain ⟨_, h3⟩ := ptsA_spec hC.2.1
    exact resR_two hC.1 hC.2.1 (resR_iAh hC.2.2.1 hC.2.2.2.1 (by rw [h2]; exact hC.2.2.2.2.1.1) (by rw [h3]; exact hC.2.2.2.2.2.1.1) (by rw [h2]; exact hC.2.2.2.2.1.2) (by rw [h3]; exact hC.2.2.2.2.2.1.2))
  · exact RHv_ok _ _ _ _ _ h hC
def EMs : Env := mkE T3 RAd (fun _ => noL)
theorem EMs_ok : EnvOk Try.prog EMs := mkEOk T3_ok RAd_ok (fun _ _ _ => noL_good)
set_option maxRecDepth 100000 in
theorem tr_iMs (us vs : List Pt) : bodyX Try.prog EMs 30 12 14 [.row us.length (.ints (flat us)), .row vs.length (.ints (flat vs))] = .need (us.length * (2 : Nat) ≤ (List.drop (0 : Nat) (flat us)).length) (.need (us.length ≤ (1000000000 : Nat)) (.need (vs.length * (2 : Nat) ≤ (List.drop (0 : Nat) (flat vs)).length) (.need (vs.length ≤ (1000000000 : Nat)) (brT ((↑(hulV (ptsA us.length (List.drop 0 (flat us)))).length : Int) == 0) (.fin (.tuple #[.slice none (0) (0), .bool (false)]) [some ⟨.view, .ints (flat us)⟩, some ⟨.view, .ints (flat vs)⟩, some ⟨.row 32 2, .ints (flat (hulV (ptsA us.length (List.drop 0 (flat us)))))⟩, some ⟨.row 32 2, .ints (flat (hulV (ptsA vs.length (List.drop 0 (flat vs)))))⟩]) (brT ((↑(hulV (ptsA vs.length (List.drop 0 (flat vs)))).length : Int) == 0) (.fin (.tuple #[.slice none (0) (0), .bool (false)]) [some ⟨.view, .ints (flat us)⟩, some ⟨.view, .ints (flat vs)⟩, some ⟨.row 32 2, .ints (flat (hulV (ptsA us.length (List.drop 0 (flat us)))))⟩, some ⟨.row 32 2, .ints (flat (hulV (ptsA vs.length (List.drop 0 (flat vs)))))⟩]) (.need ((hulV (ptsA us.length (List.drop (0 : Nat) (flat us)))).length * (2 : Nat) ≤ (List.drop (0 : Nat) (flat (hulV (ptsA us.length (List.drop (0 : Nat) (flat us)))))).length) (.need ((hulV (ptsA vs.length (List.drop (0 : Nat) (flat vs)))).length * (2 : Nat) ≤ (List.drop (0 : Nat) (flat (hulV (ptsA vs.length (List.drop (0 : Nat) (flat vs)))))).length) (.need (allV (ptsA (hulV (ptsA us.length (List.drop (0 : Nat) (flat us)))).length (List.drop (0 : Nat) (flat (hulV (ptsA us.length (List.drop (0 : Nat) (flat us))))))) = true) (.need (allV (ptsA (hulV (ptsA vs.length (List.drop (0 : Nat) (flat vs)))).length (List.drop (0 : Nat) (flat (hulV (ptsA vs.length (List.drop (0 : Nat) (flat vs))))))) = true) (.need ((hulV (ptsA us.length (List.drop (0 : Nat) (flat us)))).length ≤ (100 : Nat) ∧ (0 : Nat) < (hulV (ptsA us.length (List.drop (0 : Nat) (flat us)))).length) (.need ((hulV (ptsA vs.length (List.drop (0 : Nat) (flat vs)))).length ≤ (100 : Nat) ∧ (0 : Nat) < (hulV (ptsA vs.length (List.drop (0 : Nat) (flat vs)))).length) (.need ((addL (ptsA (hulV (ptsA us.length (List.drop (0 : Nat) (flat us)))).length (List.drop (0 : Nat) (flat (hulV (ptsA us.length (List.drop (0 : Nat) (flat us))))))) (ptsA (hulV (ptsA vs.length (List.drop (0 : Nat) (flat vs)))).length (List.drop (0 : Nat) (flat (hulV (ptsA vs.length (List.drop (0 : Nat) (flat vs)))))))).length * (2 : Nat) ≤ (List.drop (0 : Nat) (flat (addL (ptsA (hulV (ptsA us.length (List.drop (0 : Nat) (flat us)))).length (List.drop (0 : Nat) (flat (hulV (ptsA us.length (List.drop (0 : Nat) (flat us))))))) (ptsA (hulV (ptsA vs.length (List.drop (0 : Nat) (flat vs)))).length (List.drop (0 : Nat) (flat (hulV (ptsA vs.length (List.drop (0 : Nat) (flat vs)))))))))).length) (.need ((addL (ptsA (hulV (ptsA us.length (List.drop (0 : Nat) (flat us)))).length (List.drop (0 : Nat) (flat (hulV (ptsA us.length (List.drop (0 : Nat) (flat us))))))) (ptsA (hulV (ptsA vs.length (List.drop (0 : Nat) (flat vs)))).length (List.drop (0 : Nat) (flat (hulV (ptsA vs.length (List.drop (0 : Nat) (flat vs)))))))).length ≤ (1000000000 : Nat)) (brT (!allV (ptsA (addL (ptsA (hulV (ptsA us.length (List.drop 0 (flat us)))).length (List.drop 0 (flat (hulV (ptsA us.length (List.drop 0 (flat us))))))) (ptsA (hulV (ptsA vs.length (List.drop 0 (flat vs)))).length (List.drop 0 (flat (hulV (ptsA vs.length (List.drop 0 (flat vs)))))))).length (List.drop 0 (flat (addL (ptsA (hulV (ptsA us.length (List.drop 0 (flat us)))).length (List.drop 0 (flat (hulV (ptsA us.length (List.drop 0 (flat us))))))) (ptsA (hulV (ptsA vs.length (List.drop 0 (flat vs)))).length (List.drop 0 (flat (hulV (ptsA vs.length (List.drop 0 (flat vs)))))))))))) (.fin (.tuple #[.slice none (0) (0), .bool (false)]) [some ⟨.view, .ints (flat us)⟩, some ⟨.view, .ints (flat vs)⟩, some ⟨.row 32 2, .ints (flat (hulV (ptsA us.length (List.drop 0 (flat us)))))⟩, some ⟨.row 32 2, .ints (flat (hulV (ptsA vs.length (List.drop 0 (flat vs)))))⟩, some ⟨.row 32 2, .ints (flat (addL (ptsA (hulV (ptsA us.length (List.drop 0 (flat us)))).length (List.drop 0 (flat (hulV (ptsA us.length (List.drop 0 (flat us))))))) (ptsA (hulV (ptsA vs.length (List.drop 0 (flat vs)))).length (List.drop 0 (flat (hulV (ptsA vs.length (List.drop 0 (flat vs)))))))))⟩]) (.fin (.tuple #[.slice (some ⟨4, 0, none⟩) ((addL (ptsA (hulV (ptsA us.length (List.drop 0 (flat us)))).length (List.drop 0 (flat (hulV (ptsA us.length (List.drop 0 (flat us))))))) (ptsA (hulV (ptsA vs.length (List.drop 0 (flat vs)))).length (List.drop 0 (flat (hulV (ptsA vs.length (List.drop 0 (flat vs)))))))).length) ((addL (ptsA (hulV (ptsA us.length (List.drop 0 (flat us)))).length (List.drop 0 (flat (hulV (ptsA us.length (List.drop 0 (flat us))))))) (ptsA (hulV (ptsA vs.length (List.drop 0 (flat vs)))).length (List.drop 0 (flat (hulV (ptsA vs.length (List.drop 0 (flat vs)))))))).length), .bool (true)]) [some ⟨.view, .ints (flat us)⟩, some ⟨.view, .ints (flat vs)⟩, some ⟨.row 32 2, .ints (flat (hulV (ptsA us.length (List.drop 0 (flat us)))))⟩, some ⟨.row 32 2, .ints (flat (hulV (ptsA vs.length (List.drop 0 (flat vs)))))⟩, some ⟨.row 32 2, .ints (flat (addL (ptsA (hulV (ptsA us.length (List.drop 0 (flat us)))).length (List.drop 0 (flat (hulV (ptsA us.length (List.drop 0 (flat us))))))) (ptsA (hulV (ptsA vs.length (List.drop 0 (flat vs)))).length (List.drop 0 (flat (hulV (ptsA vs.length (List.drop 0 (flat vs)))))))))⟩]))))))))))))))) := by kernel_rfl
theorem Lr_smo {fn : Func} (hf : Try.prog.funcs[39]? = some fn) : LoopsGood Try.prog (lt1 e_smo) 0 (codeOf fn) := by
  obtain rfl := fn_is Try.func39 hf
  exact lt1_good lg_smo
def LSm : FuncId → LT := fun f => match f with
  | 39 => lt1 e_smo
  | _ => noL
def ESm : Env := mkE B0 (fun _ _ => none) LSm
theorem ESm_ok : EnvOk Try.prog ESm := mkEOk B0_ok (fun _ _ _ _ _ h => (by cases h)) (by
  intro f fn hf
  unfold LSm
  split
  all_goals first | with_reducible exact Lr_smo hf | exact noL_good)
set_option maxRecDepth 100000 in
theorem tr_sSm (us vs : List Pt) : bodyX Try.prog ESm 30 12 39 [.row us.length (.ints (flat us)), .row vs.length (.ints (flat vs))] = .need ((0 : Nat) = (0 : Nat)) (.need ((0 : Int) = (0 : Int)) (.need ((flat us).length = us.length * (2 : Nat)) (.need ((flat vs).length = vs.length * (2 : Nat)) (.need (allV (ptsA us.length (flat us)) = true) (.need (allV (ptsA vs.length (flat vs)) = true) (.need (us.length ≤ (100 : Nat)) (.need (vs.length ≤ (100 : Nat)) (.fin (.slice (some ⟨3, 0, none⟩) ((smL (ptsA us.length (flat us)) (ptsA vs.length (flat vs))).length) ((smL (ptsA us.length (flat us)) (ptsA vs.length (flat vs))).length)) [some ⟨.view, .ints (flat us)⟩, some ⟨.view, .ints (flat vs)⟩, some deadB, some ⟨.row 32 2, .ints (flat (smL (ptsA us.length (flat us)) (ptsA vs.length (flat vs))))⟩])))))))) := by kernel_rfl
theorem resR_sSm {us vs : List Pt} (ha : allV us = true) (hb : allV vs = true) (hn : us.length ≤ 100) (hm : vs.length ≤ 100) : ResR Try.prog 39 [.row us.length (.ints (flat us)), .row vs.length (.ints (flat vs))] (rowP (smL us vs)) (blkP (smL us vs)) := by
  refine bodyX_resR mixed ESm_ok (m := 30) (n := 12) rfl ?_
  rw [tr_sSm]
  simp only [ptsA_flat]
  have fu := flat_length us
  have fv := flat_length vs
  repeat' (first | exact True.intro | assumption | omega | exact rfl | exact ⟨some 3, ⟨rfl, rfl, rfl⟩, rfl, rfl, rfl⟩ | refine And.intro ?_ ?_)
def RSm : TabR := fun f ds => match f, ds with
  | 39, [.row m (.ints xs), .row n (.ints ys)] => some (rowP (smL (ptsA m xs) (ptsA n ys)), blkP (smL (ptsA m xs) (ptsA n ys)), [m * 2 ≤ xs.length, n * 2 ≤ ys.length, allV (ptsA m xs) = true, allV (ptsA n ys) = true, m ≤ 100, n ≤ 100])
  | 38, [.row m (.ints xs)] => some (rowP (hulL (srtL (ptsA m xs))), blkP (hulL (srtL (ptsA m xs))), [m * 2 ≤ xs.length, allW (ptsA m xs) = true, m ≤ 1000])
  | _, _ => none
theorem RSm_ok : TabROk Try.prog RSm := by
  intro f ds v b C h hC
  unfold RSm at h
  split at h
  · obtain ⟨rfl, rfl, rfl⟩ : _ ∧ _ ∧ _ := by simpa using h
    obtain ⟨_, h2⟩ := ptsA_spec hC.1
    obtain ⟨_, h3⟩ := ptsA_spec hC.2.1
    exact resR_two hC.1 hC.2.1 (resR_sSm hC.2.2.1 hC.2.2.2.1 (by rw [h2]; exact hC.2.2.2.2.1) (by rw [h3]; exact hC.2.2.2.2.2.1))
  · obtain ⟨rfl, rfl, rfl⟩ : _ ∧ _ ∧ _ := by simpa using h
    obtain ⟨_, h2⟩ := ptsA_spec hC.1
    have h1 := resR_pts1 (pre := []) (post := []) hC.1 (resR_wHu hC.2.1 (by rw [h2]; exact hC.2.2.1))
    simp only [List.nil_append] at h1
    exact h1
  · cases h
def EMz : Env := mkE T3 RSm (fun _ => noL)
theorem EMz_ok : EnvOk Try.prog EMz := mkEOk T3_ok RSm_ok (fun _ _ _ => noL_good)
noncomputable def c_mkv : Code := ((loopsOf (codeOf Try.f15))[0]?).getD .skip
def k_mkv : Ex → List Nat := keeps [6, 7] [(0, [6])] [4, 5]
def s_mkv (ps : List Pt) : Nat → St := fun i => ⟨(topV :: topV :: topV :: topV :: topV :: topV :: .slice (some ⟨5, 0, none⟩) ps.length ps.length :: .int .i64 i :: topV :: topV :: topV :: topV :: topV :: topV :: topV :: topV :: topV :: topV :: topV :: topV :: topV :: topV :: topV :: topV :: topV :: topV :: topV :: topV :: topV :: topV :: topV :: topV :: topV :: topV :: topV :: topV :: topV :: topV :: topV :: topV :: topV :: topV :: topV :: topV :: topV :: []), [some ⟨.dead, .vals []⟩, some ⟨.dead, .vals []⟩, some ⟨.dead, .vals []⟩, some ⟨.dead, .vals []⟩, some ⟨.dead, .vals []⟩, some ⟨.row 32 2, .ints (flat ps)⟩]⟩
def re_mkv (ps : List Pt) : Nat → Ex := fun i => bif allV ps then .exit 0 else .ret
def rs_mkv (ps : List Pt) : Nat → St := fun i => bif allV ps then ⟨(topV :: topV :: topV :: topV :: topV :: topV :: .slice (some ⟨5, 0, none⟩) ps.length ps.length :: topV :: topV :: topV :: topV :: topV :: topV :: topV :: topV :: topV :: topV :: topV :: topV :: topV :: topV :: topV :: topV :: topV :: topV :: topV :: topV :: topV :: topV :: topV :: topV :: topV :: topV :: topV :: topV :: topV :: topV :: topV :: topV :: topV :: topV :: topV :: topV :: topV :: topV :: []), [some ⟨.dead, .vals []⟩, some ⟨.dead, .vals []⟩, some ⟨.dead, .vals []⟩, some ⟨.dead, .vals []⟩, some ⟨.dead, .vals []⟩, some ⟨.row 32 2, .ints (flat ps)⟩]⟩ else ⟨(topV :: topV :: topV :: topV :: .slice none 0 0 :: .bool false :: topV :: topV :: topV :: topV :: topV :: topV :: topV :: topV :: topV :: topV :: topV :: topV :: topV :: topV :: topV :: topV :: topV :: topV :: topV :: topV :: topV :: topV :: topV :: topV :: topV :: topV :: topV :: topV :: topV :: topV :: topV :: topV :: topV :: topV :: topV :: topV :: topV :: topV :: topV :: []), [some ⟨.dead, .vals []⟩, some ⟨.dead, .vals []⟩, some ⟨.dead, .vals []⟩, some ⟨.dead, .vals []⟩, some ⟨.dead, .vals []⟩, some ⟨.row 32 2, .ints (flat ps)⟩]⟩
set_option maxRecDepth 100000 in
theorem tr_mkv (ps : List Pt) (i : Nat) : bodyL Try.prog EMz 30 12 noL 1 c_mkv k_mkv 16 (s_mkv ps i) = brT (decide ((↑i : Int) < (↑ps.length : Int))) (.need ((0 : Int) ≤ (↑i : Int) ∧ (↑i : Int) < (↑ps.length : Int)) (.need ((0 : Nat) + (↑i : Int).toNat * (2 : Nat) + (2 : Nat) ≤ (flat ps).length) (brT (!ptB ((flat ps).getD (0 + (↑i : Int).toNat * 2) 0) ((flat ps).getD (0 + (↑i : Int).toNat * 2 + 1) 0)) (.leaf .ret ⟨(topV :: topV :: topV :: topV :: .slice none (0) (0) :: .bool (false) :: topV :: topV :: topV :: topV :: topV :: topV :: topV :: topV :: topV :: topV :: topV :: topV :: topV :: topV :: topV :: topV :: topV :: topV :: topV :: topV :: topV :: topV :: topV :: topV :: topV :: topV :: topV :: topV :: topV :: topV :: topV :: topV :: topV :: topV :: topV :: topV :: topV :: topV :: topV :: []), [some deadB, some deadB, some deadB, some deadB, some deadB, some ⟨.row 32 2, .ints (flat ps)⟩]⟩) (.leaf .normal ⟨(topV :: topV :: topV :: topV :: topV :: topV :: .slice (some ⟨5, 0, none⟩) (ps.length) (ps.length) :: .int .i64 (IntKind.i64.wrap ((↑i : Int) + 1)) :: topV :: topV :: topV :: topV :: topV :: topV :: topV :: topV :: topV :: topV :: topV :: topV :: topV :: topV :: topV :: topV :: topV :: topV :: topV :: topV :: topV :: topV :: topV :: topV :: topV :: topV :: topV :: topV :: topV :: topV :: topV :: topV :: topV :: topV :: topV :: topV :: topV :: []), [some deadB, some deadB, some deadB, some deadB, some deadB, some ⟨.row 32 2, .ints (flat ps)⟩]⟩)))) (.leaf (.exit 0) ⟨(topV :: topV :: topV :: topV :: topV :: topV :: .slice (some ⟨5, 0, none⟩) (ps.length) (ps.length) :: topV :: topV :: topV :: topV :: topV :: topV :: topV :: topV :: topV :: topV :: topV :: topV :: topV :: topV :: topV :: topV :: topV :: topV :: topV :: topV :: topV :: topV :: topV :: topV :: topV :: topV :: topV :: topV :: topV :: topV :: topV :: topV :: topV :: topV :: topV :: topV :: topV :: topV :: []), [some deadB, some deadB, some deadB, some deadB, some deadB, some ⟨.row 32 2, .ints (flat ps)⟩]⟩) := by kernel_rfl
set_option maxRecDepth 100000 in
theorem nl_mkv : loopsOf c_mkv = [] := by kernel_rfl
def inv_mkv (ps : List Pt) : Nat → Prop := fun i => i ≤ ps.length ∧ allV (ps.drop i) = allV ps
def me_mkv (ps : List Pt) : Nat → Nat := fun i => ps.length - i
/-- A round of this loop. -/
def Round_mkv (ps : List Pt) : Prop := ∀ xx : Nat, inv_mkv ps xx → (bodyL Try.prog EMz 30 12 noL 1 c_mkv k_mkv 16 (s_mkv ps xx)).ok (RoundEnd 6 (s_mkv ps) (inv_mkv ps) (me_mkv ps) (re_mkv ps) (rs_mkv ps) xx) (fun _ _ => False)
def e_mkv (s : St) (k : Ex → St → Tree) : Option Tree := match Nat.beq s.tmps.length 45, pickL s.tmps [6, 7], s.mem with
  | true, [.slice (some ⟨5, 0, none⟩) n _, .int .i64 i0], [_, _, _, _, _, some ⟨.row 32 2, .ints xs⟩] => some (needs [i0 = 0, xs.length = n * 2, n ≤ 1000] (brT (allV (ptsA n xs)) (k (.exit 0) ⟨(topV :: topV :: topV :: topV :: topV :: topV :: .slice (some ⟨5, 0, none⟩) n n :: topV :: topV :: topV :: topV :: topV :: topV :: topV :: topV :: topV :: topV :: topV :: topV :: topV :: topV :: topV :: topV :: topV :: topV :: topV :: topV :: topV :: topV :: topV :: topV :: topV :: topV :: topV :: topV :: topV :: topV :: topV :: topV :: topV :: topV :: topV :: topV :: topV :: topV :: []), [some ⟨.dead, .vals []⟩, some ⟨.dead, .vals []⟩, some ⟨.dead, .vals []⟩, some ⟨.dead, .vals []⟩, some ⟨.dead, .vals []⟩, some ⟨.row 32 2, .ints xs⟩]⟩) (k .ret ⟨(topV :: topV :: topV :: topV :: .slice none 0 0 :: .bool false :: topV :: topV :: topV :: topV :: topV :: topV :: topV :: topV :: topV :: topV :: topV :: topV :: topV :: topV :: topV :: topV :: topV :: topV :: topV :: topV :: topV :: topV :: topV :: topV :: topV :: topV :: topV :: topV :: topV :: topV :: topV :: topV :: topV :: topV :: topV :: topV :: topV :: topV :: topV :: []), [some ⟨.dead, .vals []⟩, some ⟨.dead, .vals []⟩, some ⟨.dead, .vals []⟩, some ⟨.dead, .vals []⟩, some ⟨.dead, .vals []⟩, some ⟨.row 32 2, .ints xs⟩]⟩)))
  | _, _, _ => none
theorem allV_consK (p : Pt) (l : List Pt) : allV (p :: l) = (ptB p.1 p.2 && allV l) := rfl
set_option maxRecDepth 100000 in
theorem round_mkv (ps : List Pt) (h : ps.length ≤ 1000) : Round_mkv ps := by
  rintro i ⟨h1, h2⟩
  rw [tr_mkv]
  simp only [Int.toNat_natCast, Nat.zero_add, flat_get0, flat_get1, flat_length]
  refine brT_ok.2 ⟨fun c => ?_, fun c => ?_⟩
  · have c := of_decide_eq_true c
    have hi : i < ps.length := by omega
    rw [drop_cons2 hi, allV_consK] at h2
    rw [wsucc hi (by omega)]
    refine ⟨by omega, by omega, brT_ok.2 ⟨fun q => ?_, fun q => ?_⟩⟩
    · have q : ptB (ps.getD i (0, 0)).1 (ps.getD i (0, 0)).2 = false := by simpa using q
      rw [q, Bool.false_and] at h2
      refine ⟨by simp only [re_mkv, ← h2, cond_false], [], ?_⟩
      simp only [rs_mkv, ← h2, cond_false]
      repeat' (first | exact True.intro | exact rfl | exact wv_top _ _ | exact fun _ => rfl | (simp; done) | refine And.intro ?_ ?_)
    · have q : ptB (ps.getD i (0, 0)).1 (ps.getD i (0, 0)).2 = true := by simpa using q
      rw [q, Bool.true_and] at h2
      refine ⟨i + 1, [], ⟨by omega, h2⟩, ?_, rfl, rfl, ?_⟩
      · show ps.length - (i + 1) < ps.length - i; omega
      · repeat' (first | exact True.intro | exact rfl | exact wv_top _ _ | exact fun _ => rfl | (simp; done) | refine And.intro ?_ ?_)
  · have c := of_decide_eq_false c
    rw [List.drop_of_length_le (by omega)] at h2
    have h2 : allV ps = true := h2.symm
    refine ⟨by simp only [re_mkv, h2, cond_true], [], ?_⟩
    simp only [rs_mkv, h2, cond_true]
    repeat' (first | exact True.intro | exact rfl | exact wv_top _ _ | exact fun _ => rfl | (simp; done) | refine And.intro ?_ ?_)
set_option maxRecDepth 100000 in
theorem lg_mkv : LoopE Try.prog e_mkv c_mkv := by
  intro s k t F H hlt ht
  unfold e_mkv at hlt
  split at hlt
  rotate_left
  · cases hlt
  rename_i hlen hpick hmem
  obtain ⟨tmps, mem⟩ := s
  simp only at hlen hpick hmem
  subst hmem
  obtain rfl := Option.some.inj hlt
  obtain ⟨⟨rfl, h1, h3, _⟩, ht2⟩ := needs_ok ht
  clear ht hlt
  obtain ⟨ps, rfl, rfl⟩ := even_flat h1
  rw [ptsA_flat] at ht2
  refine ⟨_, _, pick2k ht2, loop_run2 mixed EMz_ok (s_mkv ps) (inv_mkv ps) (me_mkv ps) (re_mkv ps) (rs_mkv ps) k_mkv (fun _ => rfl) (noLoops nl_mkv) (round_mkv ps h3) (x := 0) ⟨Nat.zero_le _, rfl⟩ (π := []) rfl ?_⟩
  refine ⟨rfl, rfl, ?_, wvs_spread' [6, 7] hlen rfl ?_⟩
  · repeat' (first | exact True.intro | exact rfl | exact wv_top _ _ | exact fun _ => rfl | assumption | exact Eq.symm (by assumption) | exact vI0 rfl | refine And.intro ?_ ?_)
  · rw [hpick]
    repeat' (first | exact True.intro | exact rfl | exact wv_top _ _ | exact fun _ => rfl | assumption | exact Eq.symm (by assumption) | exact vI0 rfl | refine And.intro ?_ ?_)
theorem Lr_mkv {fn : Func} (hf : Try.prog.funcs[15]? = some fn) : LoopsGood Try.prog (lt1 e_mkv) 0 (codeOf fn) := by
  obtain rfl := fn_is Try.func15 hf
  exact lt1_good lg_mkv
def LMv : FuncId → LT := fun f => match f with
  | 15 => lt1 e_mkv
  | _ => noL
def EMv : Env := mkE T3 RSm LMv
theorem EMv_ok : EnvOk Try.prog EMv := mkEOk T3_ok RSm_ok (by
  intro f fn hf
  unfold LMv
  split
  all_goals first | with_reducible exact Lr_mkv hf | exact noL_good)
set_option maxRecDepth 100000 in
theorem tr_sMs (us vs : List Pt) : bodyX Try.prog EMv 30 12 15 [.row us.length (.ints (flat us)), .row vs.length (.ints (flat vs))] = .need (us.length * (2 : Nat) ≤ (List.drop (0 : Nat) (flat us)).length) (.need (us.length ≤ (1000000000 : Nat)) (brT (!okL (ptsA us.length (List.drop 0 (flat us)))) (.fin (.tuple #[.slice none (0) (0), .bool (false)]) [some ⟨.view, .ints (flat us)⟩, some ⟨.view, .ints (flat vs)⟩]) (.need (vs.length * (2 : Nat) ≤ (List.drop (0 : Nat) (flat vs)).length) (.need (vs.length ≤ (1000000000 : Nat)) (brT (!okL (ptsA vs.length (List.drop 0 (flat vs)))) (.fin (.tuple #[.slice none (0) (0), .bool (false)]) [some ⟨.view, .ints (flat us)⟩, some ⟨.view, .ints (flat vs)⟩]) (brT ((↑us.length : Int) == 0) (.fin (.tuple #[.slice none (0) (0), .bool (false)]) [some ⟨.view, .ints (flat us)⟩, some ⟨.view, .ints (flat vs)⟩]) (brT ((↑vs.length : Int) == 0) (.fin (.tuple #[.slice none (0) (0), .bool (false)]) [some ⟨.view, .ints (flat us)⟩, some ⟨.view, .ints (flat vs)⟩]) (.need (us.length * (2 : Nat) ≤ (List.drop (0 : Nat) (flat us)).length) (.need (allW (ptsA us.length (List.drop (0 : Nat) (flat us))) = true) (.need (us.length ≤ (1000 : Nat)) (.need (vs.length * (2 : Nat) ≤ (List.drop (0 : Nat) (flat vs)).length) (.need (allW (ptsA vs.length (List.drop (0 : Nat) (flat vs))) = true) (.need (vs.length ≤ (1000 : Nat)) (.need ((hulL (srtL (ptsA us.length (List.drop (0 : Nat) (flat us))))).length * (2 : Nat) ≤ (List.drop (0 : Nat) (flat (hulL (srtL (ptsA us.length (List.drop (0 : Nat) (flat us))))))).length) (.need ((hulL (srtL (ptsA vs.length (List.drop (0 : Nat) (flat vs))))).length * (2 : Nat) ≤ (List.drop (0 : Nat) (flat (hulL (srtL (ptsA vs.length (List.drop (0 : Nat) (flat vs))))))).length) (.need (allV (ptsA (hulL (srtL (ptsA us.length (List.drop (0 : Nat) (flat us))))).length (List.drop (0 : Nat) (flat (hulL (srtL (ptsA us.length (List.drop (0 : Nat) (flat us)))))))) = true) (.need (allV (ptsA (hulL (srtL (ptsA vs.length (List.drop (0 : Nat) (flat vs))))).length (List.drop (0 : Nat) (flat (hulL (srtL (ptsA vs.length (List.drop (0 : Nat) (flat vs)))))))) = true) (.need ((hulL (srtL (ptsA us.length (List.drop (0 : Nat) (flat us))))).length ≤ (100 : Nat)) (.need ((hulL (srtL (ptsA vs.length (List.drop (0 : Nat) (flat vs))))).length ≤ (100 : Nat)) (.need ((smL (ptsA (hulL (srtL (ptsA us.length (List.drop (0 : Nat) (flat us))))).length (List.drop (0 : Nat) (flat (hulL (srtL (ptsA us.length (List.drop (0 : Nat) (flat us)))))))) (ptsA (hulL (srtL (ptsA vs.length (List.drop (0 : Nat) (flat vs))))).length (List.drop (0 : Nat) (flat (hulL (srtL (ptsA vs.length (List.drop (0 : Nat) (flat vs))))))))).length * (2 : Nat) ≤ (List.drop (0 : Nat) (flat (smL (ptsA (hulL (srtL (ptsA us.length (List.drop (0 : Nat) (flat us))))).length (List.drop (0 : Nat) (flat (hulL (srtL (ptsA us.length (List.drop (0 : Nat) (flat us)))))))) (ptsA (hulL (srtL (ptsA vs.length (List.drop (0 : Nat) (flat vs))))).length (List.drop (0 : Nat) (flat (hulL (srtL (ptsA vs.length (List.drop (0 : Nat) (flat vs))))))))))).length) (.need (allW (ptsA (smL (ptsA (hulL (srtL (ptsA us.length (List.drop (0 : Nat) (flat us))))).length (List.drop (0 : Nat) (flat (hulL (srtL (ptsA us.length (List.drop (0 : Nat) (flat us)))))))) (ptsA (hulL (srtL (ptsA vs.length (List.drop (0 : Nat) (flat vs))))).length (List.drop (0 : Nat) (flat (hulL (srtL (ptsA vs.length (List.drop (0 : Nat) (flat vs))))))))).length (List.drop (0 : Nat) (flat (smL (ptsA (hulL (srtL (ptsA us.length (List.drop (0 : Nat) (flat us))))).length (List.drop (0 : Nat) (flat (hulL (srtL (ptsA us.length (List.drop (0 : Nat) (flat us)))))))) (ptsA (hulL (srtL (ptsA vs.length (List.drop (0 : Nat) (flat vs))))).length (List.drop (0 : Nat) (flat (hulL (srtL (ptsA vs.length (List.drop (0 : Nat) (flat vs)))))))))))) = true) (.need ((smL (ptsA (hulL (srtL (ptsA us.length (List.drop (0 : Nat) (flat us))))).length (List.drop (0 : Nat) (flat (hulL (srtL (ptsA us.length (List.drop (0 : Nat) (flat us)))))))) (ptsA (hulL (srtL (ptsA vs.length (List.drop (0 : Nat) (flat vs))))).length (List.drop (0 : Nat) (flat (hulL (srtL (ptsA vs.length (List.drop (0 : Nat) (flat vs))))))))).length ≤ (1000 : Nat)) (.need ((0 : Int) = (0 : Int)) (.need ((flat (hulL (srtL (ptsA (smL (ptsA (hulL (srtL (ptsA us.length (List.drop (0 : Nat) (flat us))))).length (List.drop (0 : Nat) (flat (hulL (srtL (ptsA us.length (List.drop (0 : Nat) (flat us)))))))) (ptsA (hulL (srtL (ptsA vs.length (List.drop (0 : Nat) (flat vs))))).length (List.drop (0 : Nat) (flat (hulL (srtL (ptsA vs.length (List.drop (0 : Nat) (flat vs))))))))).length (List.drop (0 : Nat) (flat (smL (ptsA (hulL (srtL (ptsA us.length (List.drop (0 : Nat) (flat us))))).length (List.drop (0 : Nat) (flat (hulL (srtL (ptsA us.length (List.drop (0 : Nat) (flat us)))))))) (ptsA (hulL (srtL (ptsA vs.length (List.drop (0 : Nat) (flat vs))))).length (List.drop (0 : Nat) (flat (hulL (srtL (ptsA vs.length (List.drop (0 : Nat) (flat vs))))))))))))))).length = (hulL (srtL (ptsA (smL (ptsA (hulL (srtL (ptsA us.length (List.drop (0 : Nat) (flat us))))).length (List.drop (0 : Nat) (flat (hulL (srtL (ptsA us.length (List.drop (0 : Nat) (flat us)))))))) (ptsA (hulL (srtL (ptsA vs.length (List.drop (0 : Nat) (flat vs))))).length (List.drop (0 : Nat) (flat (hulL (srtL (ptsA vs.length (List.drop (0 : Nat) (flat vs))))))))).length (List.drop (0 : Nat) (flat (smL (ptsA (hulL (srtL (ptsA us.length (List.drop (0 : Nat) (flat us))))).length (List.drop (0 : Nat) (flat (hulL (srtL (ptsA us.length (List.drop (0 : Nat) (flat us)))))))) (ptsA (hulL (srtL (ptsA vs.length (List.drop (0 : Nat) (flat vs))))).length (List.drop (0 : Nat) (flat (hulL (srtL (ptsA vs.length (List.drop (0 : Nat) (flat vs)))))))))))))).length * (2 : Nat)) (.need ((hulL (srtL (ptsA (smL (ptsA (hulL (srtL (ptsA us.length (List.drop (0 : Nat) (flat us))))).length (List.drop (0 : Nat) (flat (hulL (srtL (ptsA us.length (List.drop (0 : Nat) (flat us)))))))) (ptsA (hulL (srtL (ptsA vs.length (List.drop (0 : Nat) (flat vs))))).length (List.drop (0 : Nat) (flat (hulL (srtL (ptsA vs.length (List.drop (0 : Nat) (flat vs))))))))).length (List.drop (0 : Nat) (flat (smL (ptsA (hulL (srtL (ptsA us.length (List.drop (0 : Nat) (flat us))))).length (List.drop (0 : Nat) (flat (hulL (srtL (ptsA us.length (List.drop (0 : Nat) (flat us)))))))) (ptsA (hulL (srtL (ptsA vs.length (List.drop (0 : Nat) (flat vs))))).length (List.drop (0 : Nat) (flat (hulL (srtL (ptsA vs.length (List.drop (0 : Nat) (flat vs)))))))))))))).length ≤ (1000 : Nat)) (brT (allV (ptsA (hulL (srtL (ptsA (smL (ptsA (hulL (srtL (ptsA us.length (List.drop 0 (flat us))))).length (List.drop 0 (flat (hulL (srtL (ptsA us.length (List.drop 0 (flat us)))))))) (ptsA (hulL (srtL (ptsA vs.length (List.drop 0 (flat vs))))).length (List.drop 0 (flat (hulL (srtL (ptsA vs.length (List.drop 0 (flat vs))))))))).length (List.drop 0 (flat (smL (ptsA (hulL (srtL (ptsA us.length (List.drop 0 (flat us))))).length (List.drop 0 (flat (hulL (srtL (ptsA us.length (List.drop 0 (flat us)))))))) (ptsA (hulL (srtL (ptsA vs.length (List.drop 0 (flat vs))))).length (List.drop 0 (flat (hulL (srtL (ptsA vs.length (List.drop 0 (flat vs)))))))))))))).length (flat (hulL (srtL (ptsA (smL (ptsA (hulL (srtL (ptsA us.length (List.drop 0 (flat us))))).length (List.drop 0 (flat (hulL (srtL (ptsA us.length (List.drop 0 (flat us)))))))) (ptsA (hulL (srtL (ptsA vs.length (List.drop 0 (flat vs))))).length (List.drop 0 (flat (hulL (srtL (ptsA vs.length (List.drop 0 (flat vs))))))))).length (List.drop 0 (flat (smL (ptsA (hulL (srtL (ptsA us.length (List.drop 0 (flat us))))).length (List.drop 0 (flat (hulL (srtL (ptsA us.length (List.drop 0 (flat us)))))))) (ptsA (hulL (srtL (ptsA vs.length (List.drop 0 (flat vs))))).length (List.drop 0 (flat (hulL (srtL (ptsA vs.length (List.drop 0 (flat vs))))))))))))))))) (.fin (.tuple #[.slice (some ⟨5, 0, none⟩) ((hulL (srtL (ptsA (smL (ptsA (hulL (srtL (ptsA us.length (List.drop 0 (flat us))))).length (List.drop 0 (flat (hulL (srtL (ptsA us.length (List.drop 0 (flat us)))))))) (ptsA (hulL (srtL (ptsA vs.length (List.drop 0 (flat vs))))).length (List.drop 0 (flat (hulL (srtL (ptsA vs.length (List.drop 0 (flat vs))))))))).length (List.drop 0 (flat (smL (ptsA (hulL (srtL (ptsA us.length (List.drop 0 (flat us))))).length (List.drop 0 (flat (hulL (srtL (ptsA us.length (List.drop 0 (flat us)))))))) (ptsA (hulL (srtL (ptsA vs.length (List.drop 0 (flat vs))))).length (List.drop 0 (flat (hulL (srtL (ptsA vs.length (List.drop 0 (flat vs)))))))))))))).length) ((hulL (srtL (ptsA (smL (ptsA (hulL (srtL (ptsA us.length (List.drop 0 (flat us))))).length (List.drop 0 (flat (hulL (srtL (ptsA us.length (List.drop 0 (flat us)))))))) (ptsA (hulL (srtL (ptsA vs.length (List.drop 0 (flat vs))))).length (List.drop 0 (flat (hulL (srtL (ptsA vs.length (List.drop 0 (flat vs))))))))).length (List.drop 0 (flat (smL (ptsA (hulL (srtL (ptsA us.length (List.drop 0 (flat us))))).length (List.drop 0 (flat (hulL (srtL (ptsA us.length (List.drop 0 (flat us)))))))) (ptsA (hulL (srtL (ptsA vs.length (List.drop 0 (flat vs))))).length (List.drop 0 (flat (hulL (srtL (ptsA vs.length (List.drop 0 (flat vs)))))))))))))).length), .bool (true)]) [some deadB, some deadB, some deadB, some deadB, some deadB, some ⟨.row 32 2, .ints (flat (hulL (srtL (ptsA (smL (ptsA (hulL (srtL (ptsA us.length (List.drop 0 (flat us))))).length (List.drop 0 (flat (hulL (srtL (ptsA us.length (List.drop 0 (flat us)))))))) (ptsA (hulL (srtL (ptsA vs.length (List.drop 0 (flat vs))))).length (List.drop 0 (flat (hulL (srtL (ptsA vs.length (List.drop 0 (flat vs))))))))).length (List.drop 0 (flat (smL (ptsA (hulL (srtL (ptsA us.length (List.drop 0 (flat us))))).length (List.drop 0 (flat (hulL (srtL (ptsA us.length (List.drop 0 (flat us)))))))) (ptsA (hulL (srtL (ptsA vs.length (List.drop 0 (flat vs))))).length (List.drop 0 (flat (hulL (srtL (ptsA vs.length (List.drop 0 (flat vs)))))))))))))))⟩]) (.fin (.tuple #[.slice none (0) (0), .bool (false)]) [some deadB, some deadB, some deadB, some deadB, some deadB, some ⟨.row 32 2, .ints (flat (hulL (srtL (ptsA (smL (ptsA (hulL (srtL (ptsA us.length (List.drop 0 (flat us))))).length (List.drop 0 (flat (hulL (srtL (ptsA us.length (List.drop 0 (flat us)))))))) (ptsA (hulL (srtL (ptsA vs.length (List.drop 0 (flat vs))))).length (List.drop 0 (flat (hulL (srtL (ptsA vs.length (List.drop 0 (flat vs))))))))).length (List.drop 0 (flat (smL (ptsA (hulL (srtL (ptsA us.length (List.drop 0 (flat us))))).length (List.drop 0 (flat (hulL (srtL (ptsA us.length (List.drop 0 (flat us)))))))) (ptsA (hulL (srtL (ptsA vs.length (List.drop 0 (flat vs))))).length (List.drop 0 (flat (hulL (srtL (ptsA vs.length (List.drop 0 (flat vs)))))))))))))))⟩]))))))))))))))))))))))))))) := by kernel_rfl
abbrev rowBK (b : Bool) (ps : List Pt) : Value := .tuple #[.slice (some ⟨0, 0, none⟩) ps.length ps.length, .bool b]
/-- The hull of the sums of two hulls. -/
def mkwH (us vs : List Pt) : List Pt := hulL (srtL (smL (hulV us) (hulV vs)))
def mkwB (us vs : List Pt) : Bool := okL us && okL vs && decide (0 < us.length) && decide (0 < vs.length) && allV (mkwH us vs)
/-- What MinkowskiSum answers. -/
def mkwV (us vs : List Pt) : List Pt := bif mkwB us vs then mkwH us vs else []
theorem hulV_leK (us : List Pt) : (hulV us).length ≤ 20 := by
  rcases ho : okL us with _ | _
  · rw [hulV_no ho]; exact Nat.zero_le _
  · rw [hulV_yes ho]
    have := hul_le (srtL_asc us)
    have := srtL_le us
    have := (okL_20 ho).2
    omega
theorem hulV_all (us : List Pt) : allV (hulV us) = true := allV_hul (spV_all us)
theorem smL_le (us vs : List Pt) : (smL (hulV us) (hulV vs)).length ≤ 400 := by
  rw [smL_len]
  exact Nat.mul_le_mul (hulV_leK us) (hulV_leK vs)
theorem mkwH_le (us vs : List Pt) : (mkwH us vs).length ≤ 400 := by
  have := hul_le (srtL_asc (smL (hulV us) (hulV vs)))
  have := srtL_le (smL (hulV us) (hulV vs))
  have := smL_le us vs
  unfold mkwH
  omega
theorem allW_of {ps : List Pt} (h : allV ps = true) : allW ps = true := List.all_eq_true.2 fun z hz => by
  have := ptB_true (List.all_eq_true.1 h z hz)
  exact pt2_iff.2 (by omega)
theorem allW_sm {us vs : List Pt} (ha : allV us = true) (hb : allV vs = true) : allW (smL us vs) = true := List.all_eq_true.2 fun z hz => by
  obtain ⟨p, q, hp, hq, rfl⟩ := mem_smL.1 hz
  have := ptB_true (List.all_eq_true.1 ha p hp)
  have := ptB_true (List.all_eq_true.1 hb q hq)
  unfold adP
  exact pt2_iff.2 (by simp only; omega)
theorem srtL_neK {us : List Pt} (h : 0 < us.length) : srtL us ≠ [] := fun e => by
  match us, h, e with
  | p :: t, _, e =>
    have := (srtL_mem (p :: t) p).2 (by simp)
    rw [e] at this
    cases this
theorem hulV_pos {us : List Pt} (ho : okL us = true) (h : 0 < us.length) : 0 < (hulV us).length := by
  rw [hulV_yes ho]
  obtain ⟨q, B, e⟩ := hul_neK (srtL_neK h) (srtL_asc us)
  rw [e]
  simp
/-- What the program's merge leads to. -/
theorem add_is {us vs : List Pt} (ho : okL us = true) (hv : okL vs = true) (h : 0 < us.length) (h' : 0 < vs.length) : addL (hulV us) (hulV vs) = mkwH us vs := by
  unfold mkwH
  rw [hulV_yes ho, hulV_yes hv]
  exact add_hul (srtL_asc us) (srtL_asc vs) (srtL_asc _) (srtL_neK h) (srtL_neK h') fun z => by rw [srtL_mem, mem_smL]
theorem resR_sMs (us vs : List Pt) (h : Big us) (h' : Big vs) : ResR Try.prog 15 [.row us.length (.ints (flat us)), .row vs.length (.ints (flat vs))] (rowBK (mkwB us vs) (mkwV us vs)) ⟨.row 32 2, .ints (flat (mkwV us vs))⟩ := by
  refine bodyX_resR mixed EMv_ok (m := 30) (n := 12) rfl ?_
  rw [tr_sMs]
  unfold Big at h h'
  simp only [List.drop_zero, ptsA_flat, flat_length]
  unfold mkwV mkwB
  rcases ho : okL us with _ | _
  · exact ⟨Nat.le_refl _, h, none, ⟨⟨rfl, rfl⟩, ⟨rfl, rfl⟩, trivial⟩, trivial⟩
  rcases hv : okL vs with _ | _
  · exact ⟨Nat.le_refl _, h, Nat.le_refl _, h', none, ⟨⟨rfl, rfl⟩, ⟨rfl, rfl⟩, trivial⟩, trivial⟩
  simp only [Bool.not_true, brT_f]
  refine ⟨Nat.le_refl _, h, Nat.le_refl _, h', brT_ok.2 ⟨fun q => ?_, fun q => brT_ok.2 ⟨fun r => ?_, fun r => ?_⟩⟩⟩
  · have q : us = [] := by simpa using q
    subst q
    exact ⟨none, ⟨⟨rfl, rfl⟩, ⟨rfl, rfl⟩, trivial⟩, trivial⟩
  · have r : vs = [] := by simpa using r
    subst r
    rw [decide_eq_false (show ¬ 0 < ([] : List Pt).length by simp), Bool.and_false, Bool.false_and]
    exact ⟨none, ⟨⟨rfl, rfl⟩, ⟨rfl, rfl⟩, trivial⟩, trivial⟩
  have u0 : 0 < us.length := by
    have : ¬ us.length = 0 := fun e => by rw [e] at q; exact absurd q (by decide)
    omega
  have v0 : 0 < vs.length := by
    have : ¬ vs.length = 0 := fun e => by rw [e] at r; exact absurd r (by decide)
    omega
  have eH : hulL (srtL (smL (hulV us) (hulV vs))) = mkwH us vs := rfl
  rw [decide_eq_true u0, decide_eq_true v0]
  simp only [← hulV_yes ho, ← hulV_yes hv, eH]
  have k1 := okL_20 ho
  have k2 := okL_20 hv
  have w1 := allW_of k1.1
  have w2 := allW_of k2.1
  have a1 := hulV_all us
  have a2 := hulV_all vs
  have l1 := hulV_leK us
  have l2 := hulV_leK vs
  have a3 := allW_sm a1 a2
  have l3 := smL_le us vs
  have l4 := mkwH_le us vs
  rcases hx : allV (mkwH us vs) with _ | _
  all_goals repeat' (first | exact True.intro | assumption | omega | exact rfl | exact ⟨none, ⟨⟨rfl, rfl⟩, ⟨rfl, rfl⟩, trivial⟩, trivial⟩ | exact ⟨some 5, ⟨⟨rfl, rfl, rfl⟩, ⟨rfl, rfl⟩, trivial⟩, rfl, rfl, rfl⟩ | refine And.intro ?_ ?_)
theorem hulV_inK {us : List Pt} (h : 0 < (hulV us).length) : okL us = true ∧ 0 < us.length := by
  rcases ho : okL us with _ | _
  · rw [hulV_no ho] at h; simp at h
  · refine ⟨rfl, ?_⟩
    rw [hulV_yes ho] at h
    have := hul_le (srtL_asc us)
    have := srtL_le us
    omega
theorem mkwB_no {us vs : List Pt} (h : (hulV us).length = 0 ∨ (hulV vs).length = 0) : mkwB us vs = false := by
  rcases hb : mkwB us vs with _ | _
  · rfl
  · exfalso
    unfold mkwB at hb
    simp only [Bool.and_eq_true, decide_eq_true_eq] at hb
    have := hulV_pos hb.1.1.1.1 hb.1.1.2
    have := hulV_pos hb.1.1.1.2 hb.1.2
    omega
theorem resR_iMs (us vs : List Pt) (h : Big us) (h' : Big vs) : ResR Try.prog 14 [.row us.length (.ints (flat us)), .row vs.length (.ints (flat vs))] (rowBK (mkwB us vs) (mkwV us vs)) ⟨.row 32 2, .ints (flat (mkwV us vs))⟩ := by
  refine bodyX_resR mixed EMs_ok (m := 30) (n := 12) rfl ?_
  rw [tr_iMs]
  unfold Big at h h'
  simp only [List.drop_zero, ptsA_flat, flat_length]
  have a1 := hulV_all us
  have a2 := hulV_all vs
  have l1 := hulV_leK us
  have l2 := hulV_leK vs
  refine ⟨Nat.le_refl _, h, Nat.le_refl _, h', brT_ok.2 ⟨fun q => ?_, fun q => brT_ok.2 ⟨fun r => ?_, fun r => ?_⟩⟩⟩
  · have q : (hulV us).length = 0 := by simpa using q
    unfold mkwV
    rw [mkwB_no (.inl q)]
    exact ⟨none, ⟨⟨rfl, rfl⟩, ⟨rfl, rfl⟩, trivial⟩, trivial⟩
  · have r : (hulV vs).length = 0 := by simpa using r
    unfold mkwV
    rw [mkwB_no (.inr r)]
    exact ⟨none, ⟨⟨rfl, rfl⟩, ⟨rfl, rfl⟩, trivial⟩, trivial⟩
  have u0 : 0 < (hulV us).length := by
    have : ¬ (hulV us).length = 0 := fun e => by rw [e] at q; exact absurd q (by decide)
    omega
  have v0 : 0 < (hulV vs).length := by
    have : ¬ (hulV vs).length = 0 := fun e => by rw [e] at r; exact absurd r (by decide)
    omega
  obtain ⟨k1, k2⟩ := hulV_inK u0
  obtain ⟨k3, k4⟩ := hulV_inK v0
  rw [add_is k1 k3 k2 k4]
  have l4 := mkwH_le us vs
  unfold mkwV mkwB
  rw [k1, k3, decide_eq_true k2, decide_eq_true k4]
  rcases hx : allV (mkwH us vs) with _ | _
  all_goals repeat' (first | exact True.intro | assumption | omega | exact rfl | exact ⟨none, ⟨⟨rfl, rfl⟩, ⟨rfl, rfl⟩, trivial⟩, trivial⟩ | exact ⟨some 4, ⟨⟨rfl, rfl, rfl⟩, ⟨rfl, rfl⟩, trivial⟩, rfl, rfl, rfl⟩ | refine And.intro ?_ ?_)
end Go.Proofs.Ytbfoheblcoakiaa
namespace Go.Proofs.Ytbfoheblcoakiaa
set_option linter.all false
open Go.RowKit
def RMk : TabR := fun f ds => match f, ds with
  | 15, [.row m (.ints xs), .row n (.ints ys)] => some (rowBK (mkwB (ptsA m xs) (ptsA n ys)) (mkwV (ptsA m xs) (ptsA n ys)), ⟨.row 32 2, .ints (flat (mkwV (ptsA m xs) (ptsA n ys)))⟩, [m * 2 ≤ xs.length, n * 2 ≤ ys.length, m ≤ 1000000000, n ≤ 1000000000])
  | 14, [.row m (.ints xs), .row n (.ints ys)] => some (rowBK (mkwB (ptsA m xs) (ptsA n ys)) (mkwV (ptsA m xs) (ptsA n ys)), ⟨.row 32 2, .ints (flat (mkwV (ptsA m xs) (ptsA n ys)))⟩, [m * 2 ≤ xs.length, n * 2 ≤ ys.length, m ≤ 1000000000, n ≤ 1000000000])
  | f, ds => RHv f ds
theorem RMk_ok : TabROk Try.prog RMk := by
  intro f ds v b C h hC
  unfold RMk at h
  split at h
  · obtain ⟨rfl, rfl, rfl⟩ : _ ∧ _ ∧ _ := by simpa using h
    obtain ⟨_, h2⟩ := ptsA_spec hC.1
    obtain ⟨_, h3⟩ := ptsA_spec hC.2.1
    exact resR_two hC.1 hC.2.1 (resR_sMs _ _ (by unfold Big; rw [h2]; exact hC.2.2.1) (by unfold Big; rw [h3]; exact hC.2.2.2.1))
  · obtain ⟨rfl, rfl, rfl⟩ : _ ∧ _ ∧ _ := by simpa using h
    obtain ⟨_, h2⟩ := ptsA_spec hC.1
    obtain ⟨_, h3⟩ := ptsA_spec hC.2.1
    exact resR_two hC.1 hC.2.1 (resR_iMs _ _ (by unfold Big; rw [h2]; exact hC.2.2.1) (by unfold Big; rw [h3]; exact hC.2.2.2.1))
  · exact RHv_ok _ _ _ _ _ h hC
theorem mkwV_le (us vs : List Pt) : (mkwV us vs).length ≤ 400 := by
  unfold mkwV
  rcases mkwB us vs with _ | _
  · exact Nat.zero_le _
  · exact mkwH_le us vs
end Go.Proofs.Ytbfoheblcoakiaa
namespace Go.Proofs.Ytbfoheblcoakiaa
set_option linter.all false
open Go.RowKit
theorem negT_ (b : Bool) : negB true b = !b := by cases b <;> rfl
theorem negF_ (b : Bool) : negB false b = b := by cases b <;> rfl
noncomputable def c_eqQ : Code := ((loopsOf (codeOf Try.f16))[0]?).getD .skip
def k_eqQ : Ex → List Nat := keeps [0, 1, 5] [(0, [])] [4]
def s_eqQ (ps : List Pt) : Nat → St := fun i => ⟨[.slice (some ⟨0, 0, none⟩) ps.length ps.length, .slice (some ⟨1, 0, none⟩) ps.length ps.length, topV, topV, topV, .int .i64 i, topV, topV, topV, topV, topV, topV, topV, topV, topV, topV, topV, topV, topV, topV, topV, topV, topV, topV, topV, topV], [some ⟨.view, .ints (flat ps)⟩, some ⟨.view, .ints (flat ps)⟩]⟩
def re_eqQ : Nat → Ex := fun _ => .exit 0
def rs_eqQ (ps : List Pt) : Nat → St := fun i => ⟨[topV, topV, topV, topV, topV, topV, topV, topV, topV, topV, topV, topV, topV, topV, topV, topV, topV, topV, topV, topV, topV, topV, topV, topV, topV, topV], [some ⟨.view, .ints (flat ps)⟩, some ⟨.view, .ints (flat ps)⟩]⟩
set_option maxRecDepth 100000 in
theorem tr_eqQ (ps : List Pt) (i : Nat) : bodyL Try.prog EM 30 12 noL 1 c_eqQ k_eqQ 2 (s_eqQ ps i) = brT (decide ((↑i : Int) < (↑ps.length : Int))) (.need ((0 : Int) ≤ (↑i : Int) ∧ (↑i : Int) < (↑ps.length : Int)) (.need ((0 : Nat) + (↑i : Int).toNat * (2 : Nat) + (2 : Nat) ≤ (flat ps).length) (.need ((0 : Int) ≤ (↑i : Int) ∧ (↑i : Int) < (↑ps.length : Int)) (.need ((0 : Nat) + (↑i : Int).toNat * (2 : Nat) + (2 : Nat) ≤ (flat ps).length) (brT (negB true ((flat ps).getD (0 + (↑i : Int).toNat * 2) 0 == (flat ps).getD (0 + (↑i : Int).toNat * 2) 0 && ((flat ps).getD (0 + (↑i : Int).toNat * 2 + 1) 0 == (flat ps).getD (0 + (↑i : Int).toNat * 2 + 1) 0 && true))) (.leaf .ret ⟨[topV, topV, topV, topV, .bool (false), topV, topV, topV, topV, topV, topV, topV, topV, topV, topV, topV, topV, topV, topV, topV, topV, topV, topV, topV, topV, topV], [some ⟨.view, .ints (flat ps)⟩, some ⟨.view, .ints (flat ps)⟩]⟩) (.leaf .normal ⟨[.slice (some ⟨0, 0, none⟩) (ps.length) (ps.length), .slice (some ⟨1, 0, none⟩) (ps.length) (ps.length), topV, topV, topV, .int .i64 (IntKind.i64.wrap ((↑i : Int) + 1)), topV, topV, topV, topV, topV, topV, topV, topV, topV, topV, topV, topV, topV, topV, topV, topV, topV, topV, topV, topV], [some ⟨.view, .ints (flat ps)⟩, some ⟨.view, .ints (flat ps)⟩]⟩)))))) (.leaf (.exit 0) ⟨[topV, topV, topV, topV, topV, topV, topV, topV, topV, topV, topV, topV, topV, topV, topV, topV, topV, topV, topV, topV, topV, topV, topV, topV, topV, topV], [some ⟨.view, .ints (flat ps)⟩, some ⟨.view, .ints (flat ps)⟩]⟩) := by kernel_rfl
set_option maxRecDepth 100000 in
theorem nl_eqQ : loopsOf c_eqQ = [] := by kernel_rfl
def inv_eqQ (ps : List Pt) : Nat → Prop := fun i => i ≤ ps.length
def me_eqQ (ps : List Pt) : Nat → Nat := fun i => ps.length - i
/-- A round of this loop. -/
def Round_eqQ (ps : List Pt) : Prop := ∀ xx : Nat, inv_eqQ ps xx → (bodyL Try.prog EM 30 12 noL 1 c_eqQ k_eqQ 2 (s_eqQ ps xx)).ok (RoundEnd 2 (s_eqQ ps) (inv_eqQ ps) (me_eqQ ps) re_eqQ (rs_eqQ ps) xx) (fun _ _ => False)
def e_eqQ (s : St) (k : Ex → St → Tree) : Option Tree := match Nat.beq s.tmps.length 26, pickL s.tmps [0, 1, 5], s.mem with
  | true, [.slice (some ⟨0, 0, none⟩) n _, .slice (some ⟨1, 0, none⟩) m _, .int .i64 i], [some ⟨.view, .ints xs⟩, some ⟨.view, .ints ys⟩] => some (needs [i = 0, m = n, ys = xs, xs.length = n * 2, n ≤ 1000000000] (k (.exit 0) ⟨[topV, topV, topV, topV, topV, topV, topV, topV, topV, topV, topV, topV, topV, topV, topV, topV, topV, topV, topV, topV, topV, topV, topV, topV, topV, topV], [some ⟨.view, .ints xs⟩, some ⟨.view, .ints xs⟩]⟩))
  | _, _, _ => none
set_option maxRecDepth 100000 in
theorem round_eqQ (ps : List Pt) (h : ps.length ≤ 1000000000) : Round_eqQ ps := by
  intro i h1
  have h1 : i ≤ ps.length := h1
  rw [tr_eqQ]
  simp only [brT_ok, Tree.ok, decide_eq_true_eq, decide_eq_false_iff_not, Int.toNat_natCast, Nat.zero_add, flat_length, flat_get0, flat_get1, Bool.not_eq_true', Bool.not_eq_false', beq_iff_eq, beq_eq_false_iff_ne, negT_, negF_, Bool.and_true, Bool.and_eq_true, Bool.and_eq_false_iff, beq_self_eq_true, Bool.and_self, Bool.not_true, Bool.false_eq_true]
  refine ⟨fun hlt => ?_, fun hge => ?_⟩
  · rw [wsucc (n := ps.length) (by omega) h]
    refine ⟨by omega, by omega, by omega, by omega, fun hc => hc.elim, fun _ => ⟨i + 1, [], ?_, ?_, rfl, rfl, ?_⟩⟩
    · show i + 1 ≤ ps.length; omega
    · show ps.length - (i + 1) < ps.length - i; omega
    · repeat' (first | exact True.intro | exact rfl | exact fun _ => rfl | refine And.intro ?_ ?_)
  · refine ⟨rfl, [], ?_⟩
    repeat' (first | exact True.intro | exact rfl | exact fun _ => rfl | refine And.intro ?_ ?_)
set_option maxRecDepth 100000 in
theorem lg_eqQ : LoopE Try.prog e_eqQ c_eqQ := by
  intro s k t F H hlt ht
  unfold e_eqQ at hlt
  split at hlt
  rotate_left
  · cases hlt
  rename_i hlen hpick hmem
  obtain ⟨tmps, mem⟩ := s
  simp only at hlen hpick hmem
  subst hmem
  obtain rfl := Option.some.inj hlt
  obtain ⟨⟨rfl, rfl, rfl, h1, h2, _⟩, ht2⟩ := needs_ok ht
  clear ht hlt
  obtain ⟨ps, rfl, rfl⟩ := even_flat h1
  refine ⟨_, _, ht2, loop_run mixed EM_ok (s_eqQ _) (inv_eqQ _) (me_eqQ _) re_eqQ (rs_eqQ _) k_eqQ (fun _ => rfl) (noLoops nl_eqQ) (round_eqQ _ h2) (x := 0) (Nat.zero_le _) (π := []) rfl ?_⟩
  refine ⟨rfl, rfl, ?_, wvs_spread' [0, 1, 5] hlen rfl ?_⟩
  · repeat' (first | exact True.intro | exact rfl | exact wv_top _ _ | exact fun _ => rfl | assumption | exact Eq.symm (by assumption) | exact vI0 rfl | refine And.intro ?_ ?_)
  · rw [hpick]
    repeat' (first | exact True.intro | exact rfl | exact wv_top _ _ | exact fun _ => rfl | assumption | exact Eq.symm (by assumption) | exact vI0 rfl | refine And.intro ?_ ?_)
end Go.Proofs.Ytbfoheblcoakiaa
namespace Go.Proofs.Ytbfoheblcoakiaa
set_option linter.all false
open Go.RowKit
theorem Lr_eqQ {fn : Func} (hf : Try.prog.funcs[16]? = some fn) : LoopsGood Try.prog (lt1 e_eqQ) 0 (codeOf fn) := by
  obtain rfl := fn_is Try.func16 hf
  exact lt1_good lg_eqQ
def LEp : FuncId → LT := fun f => match f with
  | 16 => lt1 e_eqQ
  | _ => noL
def EEp : Env := mkE B0 (fun _ _ => none) LEp
theorem EEp_ok : EnvOk Try.prog EEp := mkEOk B0_ok (fun _ _ _ _ _ h => (by cases h)) (by
  intro f fn hf
  unfold LEp
  split
  all_goals first | with_reducible exact Lr_eqQ hf | exact noL_good)
set_option maxRecDepth 100000 in
theorem tr_eqPF (n m : Nat) (xs ys : List Int) : bodyV Try.prog EEp 30 12 16 [.row n (.ints xs), .row m (.ints ys)] = brT (!(↑n : Int) == (↑m : Int)) (.fin (.bool (false)) []) (.need ((0 : Int) = (0 : Int)) (.need (m = n) (.need (ys = xs) (.need (xs.length = n * (2 : Nat)) (.need (n ≤ (1000000000 : Nat)) (.fin (.bool (true)) [])))))) := by kernel_rfl
theorem res_eqP (n : Nat) (xs : List Int) (h : xs.length = n * 2) (hn : n ≤ 1000000000) : Res Try.prog 16 [.row n (.ints xs), .row n (.ints xs)] (.bool true) := by
  refine bodyV_res mixed EEp_ok (m := 30) (n := 12) rfl ?_
  rw [tr_eqPF]
  simp [brT_ok, Tree.ok, h, hn]
def pEqP : List DArg → Option (Value × List Prop)
  | [.row n (.ints xs), .row m (.ints ys)] => some (.bool true, [n = m, xs = ys, xs.length = n * 2, n ≤ 1000000000])
  | _ => none
theorem pEqP_ok {ds : List DArg} {v : Value} {C : List Prop} (h : pEqP ds = some (v, C)) (hC : AllP C) : Res Try.prog 16 ds v := by
  unfold pEqP at h
  split at h
  · obtain ⟨rfl, rfl⟩ : _ ∧ _ := by simpa using h
    obtain ⟨rfl, rfl, h1, h2, _⟩ := hC
    exact res_eqP _ _ h1 h2
  · cases h
def TEp : Tab := fun f ds => match f with
  | 16 => pEqP ds
  | f => TMh f ds
theorem TEp_ok : TabOk Try.prog TEp := by
  intro f ds v C h hC
  unfold TEp at h
  (try split at h)
  all_goals first | with_reducible exact pEqP_ok h hC | exact TMh_ok _ _ _ _ h hC
end Go.Proofs.Ytbfoheblcoakiaa
namespace Go.Proofs.Ytbfoheblcoakiaa
set_option linter.all false
open Go.RowKit
def T2ms : TabR2 := fun ds => match ds with
  | [.row n (.bytes bs)] => some ([.slice (some ⟨0, 0, none⟩) (apsL bs (rdL n) 0 5).length (apsL bs (rdL n) 0 5).length, .slice (some ⟨1, 0, none⟩) (dmQ bs (rdL n)).length (dmQ bs (rdL n)).length], ⟨.row 32 2, .ints (flat (apsL bs (rdL n) 0 5))⟩, ⟨.row 32 2, .ints (flat (dmQ bs (rdL n)))⟩, [Bytes bs, n ≤ bs.length])
  | _ => none
theorem T2ms_ok : TabR2Ok Try.prog 13 T2ms := by
  intro ds vs b0 b1 C h hC
  unfold T2ms at h
  split at h
  · obtain ⟨rfl, rfl, rfl, rfl⟩ : _ ∧ _ ∧ _ ∧ _ := by simpa using h
    exact resR_dMs _ _ hC.1 hC.2.1
  · cases h
def JDm : TabJ := consR 13 (r2G T2ms) noJ
theorem JDm_ok : GSound Try.prog JDm.g := consR2_ok (failG_sound _) (entersB_res (by kernel_rfl)).1 T2ms_ok
theorem mkwV_yes {us vs : List Pt} (h : mkwB us vs = true) : mkwV us vs = mkwH us vs ∧ allV (mkwH us vs) = true ∧ okL us = true ∧ okL vs = true ∧ 0 < us.length ∧ 0 < vs.length := by
  unfold mkwV
  have h' := h
  unfold mkwB at h'
  simp only [Bool.and_eq_true, decide_eq_true_eq] at h'
  rw [h]
  exact ⟨rfl, h'.2, h'.1.1.1.1, h'.1.1.1.2, h'.1.1.2, h'.1.2⟩
theorem mkwV_ok {us vs : List Pt} (h : mkwB us vs = true) (hl : (mkwV us vs).length ≤ 20) : okL (mkwV us vs) = true ∧ hulV (mkwV us vs) = mkwV us vs := by
  obtain ⟨e, hv, _⟩ := mkwV_yes h
  have ho : okL (mkwV us vs) = true := by
    unfold okL
    rw [decide_eq_true hl, Bool.and_true, e]
    exact hv
  refine ⟨ho, ?_⟩
  rw [hulV_yes ho, e]
  unfold mkwH
  exact hul_self (srtL_asc _)
end Go.Proofs.Ytbfoheblcoakiaa
namespace Go.Proofs.Ytbfoheblcoakiaa
set_option linter.all false
open Go.RowKit
def THa : Tab := orT TSb TMh
theorem THa_ok : TabOk Try.prog THa := orT_ok TSb_ok TMh_ok
def EHa : Env := mkE THa RHw (fun _ => noL)
theorem EHa_ok : EnvOk Try.prog EHa := mkEOk THa_ok RHw_ok (fun _ _ _ => noL_good)
set_option maxRecDepth 100000 in
theorem tr_iHa (ps : List Pt) : bodyV Try.prog EHa 30 12 21 [.row ps.length (.ints (flat ps))] = brT (decide ((↑ps.length : Int) ≤ 20)) (.need (ps.length * (2 : Nat) ≤ (List.drop (0 : Nat) (flat ps)).length) (.need (ps.length ≤ (1000000000 : Nat)) (brT (!allV (ptsA ps.length (List.drop 0 (flat ps)))) (.fin (.int .i64 (-1)) []) (.need (ps.length * (2 : Nat) ≤ (List.drop (0 : Nat) (flat ps)).length) (.need (ps.length ≤ (1000000000 : Nat)) (.need ((hulV (ptsA ps.length (List.drop (0 : Nat) (flat ps)))).length * (2 : Nat) ≤ (List.drop (0 : Nat) (flat (hulV (ptsA ps.length (List.drop (0 : Nat) (flat ps)))))).length) (.need (allV (ptsA (hulV (ptsA ps.length (List.drop (0 : Nat) (flat ps)))).length (List.drop (0 : Nat) (flat (hulV (ptsA ps.length (List.drop (0 : Nat) (flat ps))))))) = true) (.need ((hulV (ptsA ps.length (List.drop (0 : Nat) (flat ps)))).length ≤ (1000 : Nat)) (.fin (.int .i64 (sgA (ptsA (hulV (ptsA ps.length (List.drop 0 (flat ps)))).length (List.drop 0 (flat (hulV (ptsA ps.length (List.drop 0 (flat ps))))))) (hulV (ptsA ps.length (List.drop 0 (flat ps)))).length)) []))))))))) (.fin (.int .i64 (-1)) []) := by kernel_rfl
def haV (ps : List Pt) : Int := bif okL ps then sgA (hulV ps) (hulV ps).length else -1
theorem okL_split {ps : List Pt} (h : okL ps = false) : ps.length ≤ 20 → allV ps = false := fun hl => by
  unfold okL at h
  simpa [hl] using h
theorem allV_hulV (ps : List Pt) : allV (hulV ps) = true := allV_hul (spV_all ps)
theorem res_iHa (ps : List Pt) (h : Big ps) : Res Try.prog 21 [.row ps.length (.ints (flat ps))] (iv (haV ps)) := by
  refine bodyV_res mixed EHa_ok (m := 30) (n := 12) rfl ?_
  rw [tr_iHa]
  unfold Big at h
  simp only [List.drop_zero, ptsA_flat, flat_length]
  have hV := hulV_len ps
  unfold haV
  rcases ho : okL ps with _ | _
  · refine brT_ok.2 ⟨fun hl => ⟨Nat.le_refl _, h, ?_⟩, fun _ => rfl⟩
    rw [okL_split ho (by have := of_decide_eq_true hl; omega)]
    exact rfl
  · obtain ⟨h1, h2⟩ := okL_20 ho
    refine brT_ok.2 ⟨fun hl => ⟨Nat.le_refl _, h, ?_⟩, fun hl => by have := of_decide_eq_false hl; omega⟩
    rw [h1]
    exact ⟨Nat.le_refl _, h, Nat.le_refl _, allV_hulV ps, by omega, rfl⟩
def pHa : List DArg → Option (Value × List Prop)
  | [.row m (.ints xs)] => some (iv (haV (ptsA m xs)), [m * 2 ≤ xs.length, m ≤ 1000000000])
  | _ => none
theorem pHa_i {ds : List DArg} {v : Value} {C : List Prop} (h : pHa ds = some (v, C)) (hC : AllP C) : Res Try.prog 21 ds v := by
  unfold pHa at h
  split at h
  · rename_i m xs
    obtain ⟨rfl, rfl⟩ : _ ∧ _ := by simpa using h
    obtain ⟨_, h2⟩ := ptsA_spec hC.1
    exact res_pts1 (pre := []) (post := []) hC.1 (res_iHa _ (by unfold Big; rw [h2]; exact hC.2.1))
  · cases h
end Go.Proofs.Ytbfoheblcoakiaa
namespace Go.Proofs.Ytbfoheblcoakiaa
set_option linter.all false
open Go.RowKit
def TLx : Tab := fun f ds => match f with
  | 21 => pHa ds
  | f => TEp f ds
theorem TLx_ok : TabOk Try.prog TLx := by
  intro f ds v C h hC
  unfold TLx at h
  (try split at h)
  all_goals first | with_reducible exact pHa_i h hC | exact TEp_ok _ _ _ _ h hC
def ELx : Env := ⟨TLx, RMk, fun _ => noL, JDm, fun _ => noR⟩
theorem ELx_ok : EnvOk Try.prog ELx := ⟨TLx_ok, RMk_ok, fun _ _ _ => noL_good, JDm_ok, fun _ _ _ => noR_good⟩
set_option maxRecDepth 100000 in
theorem tr_lMa (bs : List Int) : bodyP Try.prog ELx 30 12 6 [.row bs.length (.bytes bs)] = brT (decide (1048576 < (↑bs.length : Int))) (.fin (.bool (true)) []) (.need (Bytes (List.drop (0 : Nat) bs)) (.need (bs.length ≤ (List.drop (0 : Nat) bs).length) (.need ((apsL (List.drop (0 : Nat) bs) (rdL bs.length) (0 : Int) (5 : Int)).length * (2 : Nat) ≤ (List.drop (0 : Nat) (flat (apsL (List.drop (0 : Nat) bs) (rdL bs.length) (0 : Int) (5 : Int)))).length) (.need ((dmQ (List.drop (0 : Nat) bs) (rdL bs.length)).length * (2 : Nat) ≤ (List.drop (0 : Nat) (flat (dmQ (List.drop (0 : Nat) bs) (rdL bs.length)))).length) (.need ((apsL (List.drop (0 : Nat) bs) (rdL bs.length) (0 : Int) (5 : Int)).length ≤ (1000000000 : Nat)) (.need ((dmQ (List.drop (0 : Nat) bs) (rdL bs.length)).length ≤ (1000000000 : Nat)) (.need ((apsL (List.drop (0 : Nat) bs) (rdL bs.length) (0 : Int) (5 : Int)).length * (2 : Nat) ≤ (List.drop (0 : Nat) (flat (apsL (List.drop (0 : Nat) bs) (rdL bs.length) (0 : Int) (5 : Int)))).length) (.need ((dmQ (List.drop (0 : Nat) bs) (rdL bs.length)).length * (2 : Nat) ≤ (List.drop (0 : Nat) (flat (dmQ (List.drop (0 : Nat) bs) (rdL bs.length)))).length) (.need ((apsL (List.drop (0 : Nat) bs) (rdL bs.length) (0 : Int) (5 : Int)).length ≤ (1000000000 : Nat)) (.need ((dmQ (List.drop (0 : Nat) bs) (rdL bs.length)).length ≤ (1000000000 : Nat)) (brT (!mkwB (ptsA (apsL (List.drop 0 bs) (rdL bs.length) 0 5).length (List.drop 0 (flat (apsL (List.drop 0 bs) (rdL bs.length) 0 5)))) (ptsA (dmQ (List.drop 0 bs) (rdL bs.length)).length (List.drop 0 (flat (dmQ (List.drop 0 bs) (rdL bs.length))))) == mkwB (ptsA (apsL (List.drop 0 bs) (rdL bs.length) 0 5).length (List.drop 0 (flat (apsL (List.drop 0 bs) (rdL bs.length) 0 5)))) (ptsA (dmQ (List.drop 0 bs) (rdL bs.length)).length (List.drop 0 (flat (dmQ (List.drop 0 bs) (rdL bs.length)))))) (brT (mkwB (ptsA (apsL (List.drop 0 bs) (rdL bs.length) 0 5).length (List.drop 0 (flat (apsL (List.drop 0 bs) (rdL bs.length) 0 5)))) (ptsA (dmQ (List.drop 0 bs) (rdL bs.length)).length (List.drop 0 (flat (dmQ (List.drop 0 bs) (rdL bs.length))))) == mkwB (ptsA (apsL (List.drop 0 bs) (rdL bs.length) 0 5).length (List.drop 0 (flat (apsL (List.drop 0 bs) (rdL bs.length) 0 5)))) (ptsA (dmQ (List.drop 0 bs) (rdL bs.length)).length (List.drop 0 (flat (dmQ (List.drop 0 bs) (rdL bs.length)))))) (.need ((mkwV (ptsA (apsL (List.drop (0 : Nat) bs) (rdL bs.length) (0 : Int) (5 : Int)).length (List.drop (0 : Nat) (flat (apsL (List.drop (0 : Nat) bs) (rdL bs.length) (0 : Int) (5 : Int))))) (ptsA (dmQ (List.drop (0 : Nat) bs) (rdL bs.length)).length (List.drop (0 : Nat) (flat (dmQ (List.drop (0 : Nat) bs) (rdL bs.length)))))).length = (mkwV (ptsA (apsL (List.drop (0 : Nat) bs) (rdL bs.length) (0 : Int) (5 : Int)).length (List.drop (0 : Nat) (flat (apsL (List.drop (0 : Nat) bs) (rdL bs.length) (0 : Int) (5 : Int))))) (ptsA (dmQ (List.drop (0 : Nat) bs) (rdL bs.length)).length (List.drop (0 : Nat) (flat (dmQ (List.drop (0 : Nat) bs) (rdL bs.length)))))).length) (.need (List.drop (0 : Nat) (flat (mkwV (ptsA (apsL (List.drop (0 : Nat) bs) (rdL bs.length) (0 : Int) (5 : Int)).length (List.drop (0 : Nat) (flat (apsL (List.drop (0 : Nat) bs) (rdL bs.length) (0 : Int) (5 : Int))))) (ptsA (dmQ (List.drop (0 : Nat) bs) (rdL bs.length)).length (List.drop (0 : Nat) (flat (dmQ (List.drop (0 : Nat) bs) (rdL bs.length))))))) = List.drop (0 : Nat) (flat (mkwV (ptsA (apsL (List.drop (0 : Nat) bs) (rdL bs.length) (0 : Int) (5 : Int)).length (List.drop (0 : Nat) (flat (apsL (List.drop (0 : Nat) bs) (rdL bs.length) (0 : Int) (5 : Int))))) (ptsA (dmQ (List.drop (0 : Nat) bs) (rdL bs.length)).length (List.drop (0 : Nat) (flat (dmQ (List.drop (0 : Nat) bs) (rdL bs.length)))))))) (.need ((List.drop (0 : Nat) (flat (mkwV (ptsA (apsL (List.drop (0 : Nat) bs) (rdL bs.length) (0 : Int) (5 : Int)).length (List.drop (0 : Nat) (flat (apsL (List.drop (0 : Nat) bs) (rdL bs.length) (0 : Int) (5 : Int))))) (ptsA (dmQ (List.drop (0 : Nat) bs) (rdL bs.length)).length (List.drop (0 : Nat) (flat (dmQ (List.drop (0 : Nat) bs) (rdL bs.length)))))))).length = (mkwV (ptsA (apsL (List.drop (0 : Nat) bs) (rdL bs.length) (0 : Int) (5 : Int)).length (List.drop (0 : Nat) (flat (apsL (List.drop (0 : Nat) bs) (rdL bs.length) (0 : Int) (5 : Int))))) (ptsA (dmQ (List.drop (0 : Nat) bs) (rdL bs.length)).length (List.drop (0 : Nat) (flat (dmQ (List.drop (0 : Nat) bs) (rdL bs.length)))))).length * (2 : Nat)) (.need ((mkwV (ptsA (apsL (List.drop (0 : Nat) bs) (rdL bs.length) (0 : Int) (5 : Int)).length (List.drop (0 : Nat) (flat (apsL (List.drop (0 : Nat) bs) (rdL bs.length) (0 : Int) (5 : Int))))) (ptsA (dmQ (List.drop (0 : Nat) bs) (rdL bs.length)).length (List.drop (0 : Nat) (flat (dmQ (List.drop (0 : Nat) bs) (rdL bs.length)))))).length ≤ (1000000000 : Nat)) (.fin (.bool (true)) []))))) (.fin (.bool (false)) [])) (.need ((mkwV (ptsA (apsL (List.drop (0 : Nat) bs) (rdL bs.length) (0 : Int) (5 : Int)).length (List.drop (0 : Nat) (flat (apsL (List.drop (0 : Nat) bs) (rdL bs.length) (0 : Int) (5 : Int))))) (ptsA (dmQ (List.drop (0 : Nat) bs) (rdL bs.length)).length (List.drop (0 : Nat) (flat (dmQ (List.drop (0 : Nat) bs) (rdL bs.length)))))).length = (mkwV (ptsA (apsL (List.drop (0 : Nat) bs) (rdL bs.length) (0 : Int) (5 : Int)).length (List.drop (0 : Nat) (flat (apsL (List.drop (0 : Nat) bs) (rdL bs.length) (0 : Int) (5 : Int))))) (ptsA (dmQ (List.drop (0 : Nat) bs) (rdL bs.length)).length (List.drop (0 : Nat) (flat (dmQ (List.drop (0 : Nat) bs) (rdL bs.length)))))).length) (.need (List.drop (0 : Nat) (flat (mkwV (ptsA (apsL (List.drop (0 : Nat) bs) (rdL bs.length) (0 : Int) (5 : Int)).length (List.drop (0 : Nat) (flat (apsL (List.drop (0 : Nat) bs) (rdL bs.length) (0 : Int) (5 : Int))))) (ptsA (dmQ (List.drop (0 : Nat) bs) (rdL bs.length)).length (List.drop (0 : Nat) (flat (dmQ (List.drop (0 : Nat) bs) (rdL bs.length))))))) = List.drop (0 : Nat) (flat (mkwV (ptsA (apsL (List.drop (0 : Nat) bs) (rdL bs.length) (0 : Int) (5 : Int)).length (List.drop (0 : Nat) (flat (apsL (List.drop (0 : Nat) bs) (rdL bs.length) (0 : Int) (5 : Int))))) (ptsA (dmQ (List.drop (0 : Nat) bs) (rdL bs.length)).length (List.drop (0 : Nat) (flat (dmQ (List.drop (0 : Nat) bs) (rdL bs.length)))))))) (.need ((List.drop (0 : Nat) (flat (mkwV (ptsA (apsL (List.drop (0 : Nat) bs) (rdL bs.length) (0 : Int) (5 : Int)).length (List.drop (0 : Nat) (flat (apsL (List.drop (0 : Nat) bs) (rdL bs.length) (0 : Int) (5 : Int))))) (ptsA (dmQ (List.drop (0 : Nat) bs) (rdL bs.length)).length (List.drop (0 : Nat) (flat (dmQ (List.drop (0 : Nat) bs) (rdL bs.length)))))))).length = (mkwV (ptsA (apsL (List.drop (0 : Nat) bs) (rdL bs.length) (0 : Int) (5 : Int)).length (List.drop (0 : Nat) (flat (apsL (List.drop (0 : Nat) bs) (rdL bs.length) (0 : Int) (5 : Int))))) (ptsA (dmQ (List.drop (0 : Nat) bs) (rdL bs.length)).length (List.drop (0 : Nat) (flat (dmQ (List.drop (0 : Nat) bs) (rdL bs.length)))))).length * (2 : Nat)) (.need ((mkwV (ptsA (apsL (List.drop (0 : Nat) bs) (rdL bs.length) (0 : Int) (5 : Int)).length (List.drop (0 : Nat) (flat (apsL (List.drop (0 : Nat) bs) (rdL bs.length) (0 : Int) (5 : Int))))) (ptsA (dmQ (List.drop (0 : Nat) bs) (rdL bs.length)).length (List.drop (0 : Nat) (flat (dmQ (List.drop (0 : Nat) bs) (rdL bs.length)))))).length ≤ (1000000000 : Nat)) (brT (!mkwB (ptsA (apsL (List.drop 0 bs) (rdL bs.length) 0 5).length (List.drop 0 (flat (apsL (List.drop 0 bs) (rdL bs.length) 0 5)))) (ptsA (dmQ (List.drop 0 bs) (rdL bs.length)).length (List.drop 0 (flat (dmQ (List.drop 0 bs) (rdL bs.length)))))) (brT (mkwB (ptsA (apsL (List.drop 0 bs) (rdL bs.length) 0 5).length (List.drop 0 (flat (apsL (List.drop 0 bs) (rdL bs.length) 0 5)))) (ptsA (dmQ (List.drop 0 bs) (rdL bs.length)).length (List.drop 0 (flat (dmQ (List.drop 0 bs) (rdL bs.length))))) == mkwB (ptsA (apsL (List.drop 0 bs) (rdL bs.length) 0 5).length (List.drop 0 (flat (apsL (List.drop 0 bs) (rdL bs.length) 0 5)))) (ptsA (dmQ (List.drop 0 bs) (rdL bs.length)).length (List.drop 0 (flat (dmQ (List.drop 0 bs) (rdL bs.length)))))) (.need ((mkwV (ptsA (apsL (List.drop (0 : Nat) bs) (rdL bs.length) (0 : Int) (5 : Int)).length (List.drop (0 : Nat) (flat (apsL (List.drop (0 : Nat) bs) (rdL bs.length) (0 : Int) (5 : Int))))) (ptsA (dmQ (List.drop (0 : Nat) bs) (rdL bs.length)).length (List.drop (0 : Nat) (flat (dmQ (List.drop (0 : Nat) bs) (rdL bs.length)))))).length = (mkwV (ptsA (apsL (List.drop (0 : Nat) bs) (rdL bs.length) (0 : Int) (5 : Int)).length (List.drop (0 : Nat) (flat (apsL (List.drop (0 : Nat) bs) (rdL bs.length) (0 : Int) (5 : Int))))) (ptsA (dmQ (List.drop (0 : Nat) bs) (rdL bs.length)).length (List.drop (0 : Nat) (flat (dmQ (List.drop (0 : Nat) bs) (rdL bs.length)))))).length) (.need (List.drop (0 : Nat) (flat (mkwV (ptsA (apsL (List.drop (0 : Nat) bs) (rdL bs.length) (0 : Int) (5 : Int)).length (List.drop (0 : Nat) (flat (apsL (List.drop (0 : Nat) bs) (rdL bs.length) (0 : Int) (5 : Int))))) (ptsA (dmQ (List.drop (0 : Nat) bs) (rdL bs.length)).length (List.drop (0 : Nat) (flat (dmQ (List.drop (0 : Nat) bs) (rdL bs.length))))))) = List.drop (0 : Nat) (flat (mkwV (ptsA (apsL (List.drop (0 : Nat) bs) (rdL bs.length) (0 : Int) (5 : Int)).length (List.drop (0 : Nat) (flat (apsL (List.drop (0 : Nat) bs) (rdL bs.length) (0 : Int) (5 : Int))))) (ptsA (dmQ (List.drop (0 : Nat) bs) (rdL bs.length)).length (List.drop (0 : Nat) (flat (dmQ (List.drop (0 : Nat) bs) (rdL bs.length)))))))) (.need ((List.drop (0 : Nat) (flat (mkwV (ptsA (apsL (List.drop (0 : Nat) bs) (rdL bs.length) (0 : Int) (5 : Int)).length (List.drop (0 : Nat) (flat (apsL (List.drop (0 : Nat) bs) (rdL bs.length) (0 : Int) (5 : Int))))) (ptsA (dmQ (List.drop (0 : Nat) bs) (rdL bs.length)).length (List.drop (0 : Nat) (flat (dmQ (List.drop (0 : Nat) bs) (rdL bs.length)))))))).length = (mkwV (ptsA (apsL (List.drop (0 : Nat) bs) (rdL bs.length) (0 : Int) (5 : Int)).length (List.drop (0 : Nat) (flat (apsL (List.drop (0 : Nat) bs) (rdL bs.length) (0 : Int) (5 : Int))))) (ptsA (dmQ (List.drop (0 : Nat) bs) (rdL bs.length)).length (List.drop (0 : Nat) (flat (dmQ (List.drop (0 : Nat) bs) (rdL bs.length)))))).length * (2 : Nat)) (.need ((mkwV (ptsA (apsL (List.drop (0 : Nat) bs) (rdL bs.length) (0 : Int) (5 : Int)).length (List.drop (0 : Nat) (flat (apsL (List.drop (0 : Nat) bs) (rdL bs.length) (0 : Int) (5 : Int))))) (ptsA (dmQ (List.drop (0 : Nat) bs) (rdL bs.length)).length (List.drop (0 : Nat) (flat (dmQ (List.drop (0 : Nat) bs) (rdL bs.length)))))).length ≤ (1000000000 : Nat)) (.fin (.bool (true)) []))))) (.fin (.bool (false)) [])) (brT (decide (20 < (↑(mkwV (ptsA (apsL (List.drop 0 bs) (rdL bs.length) 0 5).length (List.drop 0 (flat (apsL (List.drop 0 bs) (rdL bs.length) 0 5)))) (ptsA (dmQ (List.drop 0 bs) (rdL bs.length)).length (List.drop 0 (flat (dmQ (List.drop 0 bs) (rdL bs.length)))))).length : Int))) (brT (mkwB (ptsA (apsL (List.drop 0 bs) (rdL bs.length) 0 5).length (List.drop 0 (flat (apsL (List.drop 0 bs) (rdL bs.length) 0 5)))) (ptsA (dmQ (List.drop 0 bs) (rdL bs.length)).length (List.drop 0 (flat (dmQ (List.drop 0 bs) (rdL bs.length))))) == mkwB (ptsA (apsL (List.drop 0 bs) (rdL bs.length) 0 5).length (List.drop 0 (flat (apsL (List.drop 0 bs) (rdL bs.length) 0 5)))) (ptsA (dmQ (List.drop 0 bs) (rdL bs.length)).length (List.drop 0 (flat (dmQ (List.drop 0 bs) (rdL bs.length)))))) (.need ((mkwV (ptsA (apsL (List.drop (0 : Nat) bs) (rdL bs.length) (0 : Int) (5 : Int)).length (List.drop (0 : Nat) (flat (apsL (List.drop (0 : Nat) bs) (rdL bs.length) (0 : Int) (5 : Int))))) (ptsA (dmQ (List.drop (0 : Nat) bs) (rdL bs.length)).length (List.drop (0 : Nat) (flat (dmQ (List.drop (0 : Nat) bs) (rdL bs.length)))))).length = (mkwV (ptsA (apsL (List.drop (0 : Nat) bs) (rdL bs.length) (0 : Int) (5 : Int)).length (List.drop (0 : Nat) (flat (apsL (List.drop (0 : Nat) bs) (rdL bs.length) (0 : Int) (5 : Int))))) (ptsA (dmQ (List.drop (0 : Nat) bs) (rdL bs.length)).length (List.drop (0 : Nat) (flat (dmQ (List.drop (0 : Nat) bs) (rdL bs.length)))))).length) (.need (List.drop (0 : Nat) (flat (mkwV (ptsA (apsL (List.drop (0 : Nat) bs) (rdL bs.length) (0 : Int) (5 : Int)).length (List.drop (0 : Nat) (flat (apsL (List.drop (0 : Nat) bs) (rdL bs.length) (0 : Int) (5 : Int))))) (ptsA (dmQ (List.drop (0 : Nat) bs) (rdL bs.length)).length (List.drop (0 : Nat) (flat (dmQ (List.drop (0 : Nat) bs) (rdL bs.length))))))) = List.drop (0 : Nat) (flat (mkwV (ptsA (apsL (List.drop (0 : Nat) bs) (rdL bs.length) (0 : Int) (5 : Int)).length (List.drop (0 : Nat) (flat (apsL (List.drop (0 : Nat) bs) (rdL bs.length) (0 : Int) (5 : Int))))) (ptsA (dmQ (List.drop (0 : Nat) bs) (rdL bs.length)).length (List.drop (0 : Nat) (flat (dmQ (List.drop (0 : Nat) bs) (rdL bs.length)))))))) (.need ((List.drop (0 : Nat) (flat (mkwV (ptsA (apsL (List.drop (0 : Nat) bs) (rdL bs.length) (0 : Int) (5 : Int)).length (List.drop (0 : Nat) (flat (apsL (List.drop (0 : Nat) bs) (rdL bs.length) (0 : Int) (5 : Int))))) (ptsA (dmQ (List.drop (0 : Nat) bs) (rdL bs.length)).length (List.drop (0 : Nat) (flat (dmQ (List.drop (0 : Nat) bs) (rdL bs.length)))))))).length = (mkwV (ptsA (apsL (List.drop (0 : Nat) bs) (rdL bs.length) (0 : Int) (5 : Int)).length (List.drop (0 : Nat) (flat (apsL (List.drop (0 : Nat) bs) (rdL bs.length) (0 : Int) (5 : Int))))) (ptsA (dmQ (List.drop (0 : Nat) bs) (rdL bs.length)).length (List.drop (0 : Nat) (flat (dmQ (List.drop (0 : Nat) bs) (rdL bs.length)))))).length * (2 : Nat)) (.need ((mkwV (ptsA (apsL (List.drop (0 : Nat) bs) (rdL bs.length) (0 : Int) (5 : Int)).length (List.drop (0 : Nat) (flat (apsL (List.drop (0 : Nat) bs) (rdL bs.length) (0 : Int) (5 : Int))))) (ptsA (dmQ (List.drop (0 : Nat) bs) (rdL bs.length)).length (List.drop (0 : Nat) (flat (dmQ (List.drop (0 : Nat) bs) (rdL bs.length)))))).length ≤ (1000000000 : Nat)) (.fin (.bool (true)) []))))) (.fin (.bool (false)) [])) (.need ((mkwV (ptsA (apsL (List.drop (0 : Nat) bs) (rdL bs.length) (0 : Int) (5 : Int)).length (List.drop (0 : Nat) (flat (apsL (List.drop (0 : Nat) bs) (rdL bs.length) (0 : Int) (5 : Int))))) (ptsA (dmQ (List.drop (0 : Nat) bs) (rdL bs.length)).length (List.drop (0 : Nat) (flat (dmQ (List.drop (0 : Nat) bs) (rdL bs.length)))))).length * (2 : Nat) ≤ (List.drop (0 : Nat) (flat (mkwV (ptsA (apsL (List.drop (0 : Nat) bs) (rdL bs.length) (0 : Int) (5 : Int)).length (List.drop (0 : Nat) (flat (apsL (List.drop (0 : Nat) bs) (rdL bs.length) (0 : Int) (5 : Int))))) (ptsA (dmQ (List.drop (0 : Nat) bs) (rdL bs.length)).length (List.drop (0 : Nat) (flat (dmQ (List.drop (0 : Nat) bs) (rdL bs.length)))))))).length) (.need ((mkwV (ptsA (apsL (List.drop (0 : Nat) bs) (rdL bs.length) (0 : Int) (5 : Int)).length (List.drop (0 : Nat) (flat (apsL (List.drop (0 : Nat) bs) (rdL bs.length) (0 : Int) (5 : Int))))) (ptsA (dmQ (List.drop (0 : Nat) bs) (rdL bs.length)).length (List.drop (0 : Nat) (flat (dmQ (List.drop (0 : Nat) bs) (rdL bs.length)))))).length ≤ (1000000000 : Nat)) (.need ((apsL (List.drop (0 : Nat) bs) (rdL bs.length) (0 : Int) (5 : Int)).length * (2 : Nat) ≤ (List.drop (0 : Nat) (flat (apsL (List.drop (0 : Nat) bs) (rdL bs.length) (0 : Int) (5 : Int)))).length) (.need ((apsL (List.drop (0 : Nat) bs) (rdL bs.length) (0 : Int) (5 : Int)).length ≤ (1000000000 : Nat)) (.need ((dmQ (List.drop (0 : Nat) bs) (rdL bs.length)).length * (2 : Nat) ≤ (List.drop (0 : Nat) (flat (dmQ (List.drop (0 : Nat) bs) (rdL bs.length)))).length) (.need ((dmQ (List.drop (0 : Nat) bs) (rdL bs.length)).length ≤ (1000000000 : Nat)) (.fin (.bool (decide (IntKind.i64.wrap (haV (ptsA (apsL (List.drop 0 bs) (rdL bs.length) 0 5).length (List.drop 0 (flat (apsL (List.drop 0 bs) (rdL bs.length) 0 5)))) + haV (ptsA (dmQ (List.drop 0 bs) (rdL bs.length)).length (List.drop 0 (flat (dmQ (List.drop 0 bs) (rdL bs.length)))))) ≤ haV (ptsA (mkwV (ptsA (apsL (List.drop 0 bs) (rdL bs.length) 0 5).length (List.drop 0 (flat (apsL (List.drop 0 bs) (rdL bs.length) 0 5)))) (ptsA (dmQ (List.drop 0 bs) (rdL bs.length)).length (List.drop 0 (flat (dmQ (List.drop 0 bs) (rdL bs.length)))))).length (List.drop 0 (flat (mkwV (ptsA (apsL (List.drop 0 bs) (rdL bs.length) 0 5).length (List.drop 0 (flat (apsL (List.drop 0 bs) (rdL bs.length) 0 5)))) (ptsA (dmQ (List.drop 0 bs) (rdL bs.length)).length (List.drop 0 (flat (dmQ (List.drop 0 bs) (rdL bs.length)))))))))))) [])))))))))))))))))))))))) := by kernel_rfl
theorem haV_bd (us : List Pt) : -40000000 ≤ haV us ∧ haV us ≤ 40000000 := by
  unfold haV
  rcases okL us with _ | _
  · simp only [cond_false]; omega
  · have := sgA_bd (hulV_all us) (hulV us).length (Nat.le_refl _)
    have := hulV_leK us
    simp only [cond_true]
    omega
end Go.Proofs.Ytbfoheblcoakiaa
namespace Go.Proofs.Ytbfoheblcoakiaa
set_option linter.all false
open Go.RowKit
/-- Twice the area along sides from a point on, seen from the origin. -/
def arC : Pt → List Pt → Int
  | _, [] => 0
  | p, v :: vs => cr2 p v + arC (adP p v) vs
theorem cr2_d0 (x p : Pt) : cr2 x (dif p p) = 0 := by unfold cr2 dif; simp
theorem cr2_ds (b e p u : Pt) : cr2 b (dif e p) = cr2 b (dif e (adP p u)) + cr2 b u := by unfold cr2 dif adP; simp only; grind
theorem sup_le {T : Pt → Prop} {d q b : Pt} (h : SupP T d q) (hb : T b) : cr2 b d ≤ cr2 q d := by
  have h1 := h b hb
  have h2 : cr2 d (dif b q) = cr2 q d - cr2 b d := by unfold cr2 dif; simp only; grind
  omega
/-- The area of the sums along two chains. -/
theorem arc_mrg {S T : Pt → Prop} {a b : Pt} (ha0 : S a) (hb0 : T b) : ∀ (n : Nat) (u v : List Pt), u.length + v.length ≤ n → ∀ {l k m : List Pt} {p q : Pt}, (∀ x ∈ l, posV x) → (∀ x ∈ k, posV x) → (∀ x ∈ m, posV x) → (∀ d, posV d → AftP m d → AftP l d ∧ AftP k d) →
    (∀ x t, u = x :: t → AftS m x) → (∀ x t, v = x :: t → AftS m x) → LCh S l p u → LCh T k q v → arC p u + arC q v + cr2 b (dif (endP p u) p) + cr2 a (dif (endP q v) q) ≤ arC (adP p q) (mrg u v)
  | n, [], [], _, l, k, m, p, q, hl, hk, hm, ha, hu, hv, h, g => by
    rw [mrg_nl]
    show (0 : Int) + 0 + cr2 b (dif p p) + cr2 a (dif q q) ≤ 0
    rw [cr2_d0, cr2_d0]
    decide
  | 0, _ :: _, _, hn, l, k, m, p, q, hl, hk, hm, ha, hu, hv, h, g => by simp at hn
  | 0, [], _ :: _, hn, l, k, m, p, q, hl, hk, hm, ha, hu, hv, h, g => by simp at hn
  | n + 1, [], v :: vs, hn, l, k, m, p, q, hl, hk, hm, ha, hu, hv, h, g => by
    obtain ⟨g1, g2, g3, g4, g5⟩ := g
    have am := hv v vs rfl
    have amp : AftP m v := fun x hx => Int.le_of_lt (am x hx)
    have ih := @arc_mrg S T a b ha0 hb0 n [] vs (by simp at hn ⊢; omega) l [v] [v] p (adP q v) hl (fun x hx => by rw [List.mem_singleton.1 hx]; exact g2) (fun x hx => by rw [List.mem_singleton.1 hx]; exact g2) (fun d hd hda => ⟨fun x hx => aft_tr (hl x hx) g2 hd ((ha v g2 amp).1 x hx) (hda v (by simp)), hda⟩) (fun x t e => nomatch e) (fun x t e => by subst e; exact g5.2.2.1) h g5
    rw [mrg_nl] at ih ⊢
    have s1 := sup_le (h.2 v g2 (ha v g2 amp).1) ha0
    show arC p [] + (cr2 q v + arC (adP q v) vs) + cr2 b (dif (endP p []) p) + cr2 a (dif (endP (adP q v) vs) q) ≤ cr2 (adP p q) v + arC (adP (adP p q) v) vs
    rw [ad_r, cr2_ds a (endP (adP q v) vs) q v, cr2_addl]
    omega
  | n + 1, u :: us, [], hn, l, k, m, p, q, hl, hk, hm, ha, hu, hv, h, g => by
    obtain ⟨g1, g2, g3, g4, g5⟩ := h
    have am := hu u us rfl
    have amp : AftP m u := fun x hx => Int.le_of_lt (am x hx)
    have ih := @arc_mrg S T a b ha0 hb0 n us [] (by simp at hn ⊢; omega) [u] k [u] (adP p u) q (fun x hx => by rw [List.mem_singleton.1 hx]; exact g2) hk (fun x hx => by rw [List.mem_singleton.1 hx]; exact g2) (fun d hd hda => ⟨hda, fun x hx => aft_tr (hk x hx) g2 hd ((ha u g2 amp).2 x hx) (hda u (by simp))⟩) (fun x t e => by subst e; exact g5.2.2.1) (fun x t e => nomatch e) g5 g
    rw [mrg_nil] at ih ⊢
    have s1 := sup_le (g.2 u g2 (ha u g2 amp).2) hb0
    show (cr2 p u + arC (adP p u) us) + arC q [] + cr2 b (dif (endP (adP p u) us) p) + cr2 a (dif (endP q []) q) ≤ cr2 (adP p q) u + arC (adP (adP p q) u) us
    rw [ad_l, cr2_ds b (endP (adP p u) us) p u, cr2_addl]
    omega
  | n + 1, u :: us, v :: vs, hn, l, k, m, p, q, hl, hk, hm, ha, hu, hv, h, g => by
    have hu1 := hu u us rfl
    have hv1 := hv v vs rfl
    have hup : AftP m u := fun x hx => Int.le_of_lt (hu1 x hx)
    have hvp : AftP m v := fun x hx => Int.le_of_lt (hv1 x hx)
    have h' := h
    have g' := g
    obtain ⟨h1, h2, h3, h4, h5⟩ := h'
    obtain ⟨g1, g2, g3, g4, g5⟩ := g'
    have sg : ∀ w : Pt, posV w → ∀ x ∈ [w], posV x := fun w hw x hx => by rw [List.mem_singleton.1 hx]; exact hw
    rw [mrg_cc]
    split
    · rename_i c
      have ih := @arc_mrg S T a b ha0 hb0 n us (v :: vs) (by simp at hn ⊢; omega) [u] k [u] (adP p u) q (sg u h2) hk (sg u h2) (fun d hd hda => ⟨hda, fun x hx => aft_tr (hk x hx) h2 hd ((ha u h2 hup).2 x hx) (hda u (by simp))⟩) (fun x t e => by subst e; exact h5.2.2.1) (fun x t e y hy => by rw [List.mem_singleton.1 hy, ← (List.cons.inj e).1]; exact c) h5 g
      have s1 := sup_le (g4 u h2 (ha u h2 hup).2 (Int.le_of_lt c)) hb0
      show (cr2 p u + arC (adP p u) us) + arC q (v :: vs) + cr2 b (dif (endP (adP p u) us) p) + cr2 a (dif (endP q (v :: vs)) q) ≤ cr2 (adP p q) u + arC (adP (adP p q) u) (mrg us (v :: vs))
      rw [ad_l, cr2_ds b (endP (adP p u) us) p u, cr2_addl]
      omega
    · split
      · rename_i c c'
        rw [cr2_anti] at c'
        have c2 : 0 < cr2 v u := by omega
        have ih := @arc_mrg S T a b ha0 hb0 n (u :: us) vs (by simp at hn ⊢; omega) l [v] [v] p (adP q v) hl (sg v g2) (sg v g2) (fun d hd hda => ⟨fun x hx => aft_tr (hl x hx) g2 hd ((ha v g2 hvp).1 x hx) (hda v (by simp)), hda⟩) (fun x t e y hy => by rw [List.mem_singleton.1 hy, ← (List.cons.inj e).1]; exact c2) (fun x t e => by subst e; exact g5.2.2.1) h g5
        have s1 := sup_le (h4 v g2 (ha v g2 hvp).1 (Int.le_of_lt c2)) ha0
        show arC p (u :: us) + (cr2 q v + arC (adP q v) vs) + cr2 b (dif (endP p (u :: us)) p) + cr2 a (dif (endP (adP q v) vs) q) ≤ cr2 (adP p q) v + arC (adP (adP p q) v) (mrg (u :: us) vs)
        rw [ad_r, cr2_ds a (endP (adP q v) vs) q v, cr2_addl]
        omega
      · rename_i c c'
        have c0 : cr2 u v = 0 := by omega
        have c1 : cr2 v u = 0 := by rw [cr2_anti, c0]; rfl
        have hw := posV_add h2 g2
        have e1 : cr2 u (adP u v) = 0 := by rw [cr2_addr, cr2_self, c0]; rfl
        have e2 : cr2 v (adP u v) = 0 := by rw [cr2_addr, cr2_self, c1]; rfl
        have e3 : cr2 (adP u v) u = 0 := by rw [cr2_addl, cr2_self, c1]; rfl
        have e4 : cr2 (adP u v) v = 0 := by rw [cr2_addl, cr2_self, c0]; rfl
        have ih := @arc_mrg S T a b ha0 hb0 n us vs (by simp at hn ⊢; omega) [u] [v] [adP u v] (adP p u) (adP q v) (sg u h2) (sg v g2) (sg _ hw) (fun d hd hda => ⟨fun x hx => by rw [List.mem_singleton.1 hx]; exact aft_tr h2 hw hd (by omega) (hda _ (by simp)), fun x hx => by rw [List.mem_singleton.1 hx]; exact aft_tr g2 hw hd (by omega) (hda _ (by simp))⟩) (fun x t e y hy => by subst e; rw [List.mem_singleton.1 hy]; exact (cr_tr hw h2 h5.2.1 (by omega) (Int.le_of_lt (h5.2.2.1 u (by simp)))).2 (.inr (h5.2.2.1 u (by simp)))) (fun x t e y hy => by subst e; rw [List.mem_singleton.1 hy]; exact (cr_tr hw g2 g5.2.1 (by omega) (Int.le_of_lt (g5.2.2.1 v (by simp)))).2 (.inr (g5.2.2.1 v (by simp)))) h5 g5
        have s1 := sup_le (g4 u h2 (ha u h2 hup).2 (by omega)) hb0
        have s2 := sup_le (h4 v g2 (ha v g2 hvp).1 (by omega)) ha0
        show (cr2 p u + arC (adP p u) us) + (cr2 q v + arC (adP q v) vs) + cr2 b (dif (endP (adP p u) us) p) + cr2 a (dif (endP (adP q v) vs) q) ≤ cr2 (adP p q) (adP u v) + arC (adP (adP p q) (adP u v)) (mrg us vs)
        rw [ad_ad, cr2_ds b (endP (adP p u) us) p u, cr2_ds a (endP (adP q v) vs) q v, cr2_addl, cr2_addr, cr2_addr]
        omega
theorem arC_app : ∀ (X Y : List Pt) (p : Pt), arC p (X ++ Y) = arC p X + arC (endP p X) Y
  | [], Y, p => by show arC p Y = 0 + arC p Y; omega
  | v :: vs, Y, p => by
    show cr2 p v + arC (adP p v) (vs ++ Y) = cr2 p v + arC (adP p v) vs + arC (endP (adP p v) vs) Y
    rw [arC_app vs Y]
    omega
theorem arC_ng : ∀ (vs : List Pt) (p : Pt), arC (ngP p) (ngL vs) = arC p vs
  | [], p => rfl
  | v :: vs, p => by
    show cr2 (ngP p) (ngP v) + arC (adP (ngP p) (ngP v)) (ngL vs) = cr2 p v + arC (adP p v) vs
    rw [cr2_ng, adP_ng, arC_ng vs]
theorem endP_ng : ∀ (vs : List Pt) (p : Pt), endP (ngP p) (ngL vs) = ngP (endP p vs)
  | [], p => rfl
  | v :: vs, p => by
    show endP (adP (ngP p) (ngP v)) (ngL vs) = ngP (endP (adP p v) vs)
    rw [adP_ng, endP_ng vs]
theorem arC_mv : ∀ (vs : List Pt) (a p : Pt), arC (adP a p) vs = arC p vs + cr2 a (dif (endP p vs) p)
  | [], a, p => by show (0 : Int) = 0 + cr2 a (dif p p); rw [cr2_d0]; rfl
  | v :: vs, a, p => by
    show cr2 (adP a p) v + arC (adP (adP a p) v) vs = cr2 p v + arC (adP p v) vs + cr2 a (dif (endP (adP p v) vs) p)
    rw [ad_r, arC_mv vs, cr2_ds a (endP (adP p v) vs) p v, cr2_addl]
    omega
/-- Twice the area along points. -/
def shN2 (L : List Pt) : Nat → Int
  | 0 => 0
  | i + 1 => shN2 L i + cr2 (L.getD i (0, 0)) (L.getD (i + 1) (0, 0))
theorem shN2_cons (a : Pt) (L : List Pt) : ∀ i, shN2 (a :: L) (i + 1) = cr2 a (L.getD 0 (0, 0)) + shN2 L i
  | 0 => by show (0 : Int) + cr2 a (L.getD 0 (0, 0)) = cr2 a (L.getD 0 (0, 0)) + 0; omega
  | i + 1 => by
    show shN2 (a :: L) (i + 1) + cr2 (L.getD i (0, 0)) (L.getD (i + 1) (0, 0)) = cr2 a (L.getD 0 (0, 0)) + (shN2 L i + cr2 (L.getD i (0, 0)) (L.getD (i + 1) (0, 0)))
    rw [shN2_cons a L i]
    omega
theorem arC_sh : ∀ (vs : List Pt) (p : Pt), arC p vs = shN2 (cumP p vs) vs.length
  | [], p => rfl
  | v :: vs, p => by
    show cr2 p v + arC (adP p v) vs = shN2 (p :: cumP (adP p v) vs) (vs.length + 1)
    rw [shN2_cons, arC_sh vs]
    obtain ⟨t, e⟩ := cumP_cons vs (adP p v)
    rw [e]
    show _ = cr2 p (adP p v) + _
    rw [cr2_addr, cr2_self]
    omega
theorem sgA_sh (h : List Pt) (L : List Pt) (hL : L = h ++ h.take 1) : ∀ i, i ≤ h.length → sgA h i = shN2 L i
  | 0, _ => rfl
  | i + 1, hi => by
    have ih := sgA_sh h L hL i (by omega)
    show sgA h i + sgT h i = shN2 L i + cr2 (L.getD i (0, 0)) (L.getD (i + 1) (0, 0))
    rw [ih, hL, getD_append, getD_append, if_pos (by omega)]
    congr 1
    unfold sgT nxP cr2
    rcases Nat.lt_or_ge (i + 1) h.length with c | c
    · rw [if_pos c, Nat.mod_eq_of_lt c]
    · rw [if_neg (by omega)]
      have : i + 1 = h.length := by omega
      rw [this, Nat.mod_self, Nat.sub_self]
      match h, hi with
      | _ :: _, _ => rfl
/-- The area of a closed path by its sides. -/
theorem sg_arc (q : Pt) (B : List Pt) : sgA (q :: B) (q :: B).length = arC q (sdC (q :: B)) := by
  have : sdC (q :: B) = sdL (q :: (B ++ [q])) := rfl
  rw [sgA_sh (q :: B) _ rfl _ (Nat.le_refl _), arC_sh, this, cumP_sd, sdL_len]
  simp
theorem cum_arc (q : Pt) (B M : List Pt) (h : cumP q M = (q :: B) ++ [q]) : sgA (q :: B) (q :: B).length = arC q M := by
  have hl : M.length + 1 = (cumP q M).length := by
    clear h
    induction M generalizing q with
    | nil => rfl
    | cons v vs ih => show vs.length + 1 + 1 = (cumP (adP q v) vs).length + 1; rw [ih]
  rw [sgA_sh (q :: B) _ rfl _ (Nat.le_refl _), arC_sh, h]
  rw [h] at hl
  congr 1
  simp at hl ⊢
  omega
/-- The merge of the sides of two hulls has at least the areas of both. -/
theorem add_arc {s t w : List Pt} (hs : Asc s) (ht : Asc t) (hw : Asc w) (s2 : 2 ≤ s.length) (t2 : 2 ≤ t.length) (e : ∀ z, z ∈ w ↔ smS (fun q => q ∈ hulL s) (fun q => q ∈ hulL t) z) : sgA (hulL s) (hulL s).length + sgA (hulL t) (hulL t).length ≤ sgA (hulL w) (hulL w).length := by
  have s0 : s ≠ [] := by intro e; rw [e] at s2; simp at s2
  have t0 : t ≠ [] := by intro e; rw [e] at t2; simp at t2
  obtain ⟨p, m, A, U, b, U', eA, eU, eH, eb, eC, L, eE, n0, cU⟩ := hul_sides hs s2
  obtain ⟨q, n, B, V, c, V', fA, fU, fH, fb, fC, M, fE, k0, cV⟩ := hul_sides ht t2
  have w2 : 2 ≤ w.length := by
    have nd := hul_nodup hs
    rw [eH] at nd
    have hpm : p ≠ m := by
      have := (List.nodup_append.1 nd).2.2 p (by simp) m (by simp)
      exact this
    have i1 : adP p q ∈ w := (e _).2 ⟨p, q, by rw [eH]; simp, by rw [fH]; simp, rfl⟩
    have i2 : adP m q ∈ w := (e _).2 ⟨m, q, by rw [eH]; simp, by rw [fH]; simp, rfl⟩
    refine two_of i1 i2 fun h => hpm ?_
    unfold adP at h
    obtain ⟨p1, p2⟩ := p
    obtain ⟨m1, m2⟩ := m
    simp only [Prod.mk.injEq] at h ⊢
    omega
  have w0 : w ≠ [] := by intro e; rw [e] at w2; simp at w2
  obtain ⟨r, o, X, Y, g1, g2, g3⟩ := hul_shape hw w2
  have k1 := sum_low hs ht hw s0 t0 w0 e eA fA
  have k2 := sum_upp hs ht hw s0 t0 w0 e eU fU
  have x1 : mrg (sdC (hulL s)) (sdC (hulL t)) = mrg (sdL (p :: (A ++ [m]))) (sdL (q :: (B ++ [n]))) ++ mrg (sdL (m :: (U ++ [p]))) (sdL (n :: (V ++ [q]))) := by
    rw [eC, fC, eb, fb]
    refine mrg_cross _ _ _ (Nat.le_refl _) (lch_asc L) (lch_asc M) (fun h => absurd h n0) cU (fun h => absurd h k0) fun x hx w hw h0 => ?_
    have := cV x hx w hw h0
    rw [cr2_anti]
    omega
  have x2 : endP (adP p q) (mrg (sdL (p :: (A ++ [m]))) (sdL (q :: (B ++ [n])))) = adP m n := by rw [endP_mrg _ _ _ (Nat.le_refl _), eE, fE]
  have p1 : (hulL s).getD 0 (0, 0) = p := by rw [eH]; rfl
  have p2 : (hulL t).getD 0 (0, 0) = q := by rw [fH]; rfl
  have V1 := upp_g hs s0
  rw [← List.reverse_reverse (ngL (uppR s)), ← ngL_rev, eU] at V1
  have V1 := lch_of (ngL (U ++ [p])) (ngP m) [] (by rw [List.append_nil]; exact V1)
  have V2 := upp_g ht t0
  rw [← List.reverse_reverse (ngL (uppR t)), ← ngL_rev, fU] at V2
  have V2 := lch_of (ngL (V ++ [q])) (ngP n) [] (by rw [List.append_nil]; exact V2)
  have eN1 : sdL (ngP m :: ngL (U ++ [p])) = ngL (sdL (m :: (U ++ [p]))) := sd_ng (m :: (U ++ [p]))
  have eN2 : sdL (ngP n :: ngL (V ++ [q])) = ngL (sdL (n :: (V ++ [q]))) := sd_ng (n :: (V ++ [q]))
  rw [eN1] at V1
  rw [eN2] at V2
  have hn0 : ∀ x ∈ ([] : List Pt), posV x := fun x hx => by simp at hx
  have ns : ∀ y : Pt, AftS [] y := fun y x hx => by simp at hx
  have na : ∀ d : Pt, posV d → AftP [] d → AftP [] d ∧ AftP [] d := fun d _ h => ⟨h, h⟩
  have na' : ∀ d : Pt, posV d → AftP [] d → AftP (lsd [] (ngP m)) d ∧ AftP (lsd [] (ngP n)) d := fun d _ h => ⟨h, h⟩
  have hp : p ∈ hulL s := by rw [eH]; simp
  have hq : q ∈ hulL t := by rw [fH]; simp
  have A1 := arc_mrg (a := p) (b := q) hp hq _ _ _ (Nat.le_refl _) hn0 hn0 hn0 na (fun x _ _ => ns x) (fun x _ _ => ns x) L M
  have A2 := arc_mrg (S := fun z => ngP z ∈ hulL s) (T := fun z => ngP z ∈ hulL t) (a := ngP p) (b := ngP q) (by rw [ngP_ng]; exact hp) (by rw [ngP_ng]; exact hq) _ _ _ (Nat.le_refl _) (l := []) (k := []) hn0 hn0 hn0 na (fun x _ _ => ns x) (fun x _ _ => ns x) V1 V2
  have eE2 : endP m (sdL (m :: (U ++ [p]))) = p := endP_sd2 U m p
  have fE2 : endP n (sdL (n :: (V ++ [q]))) = q := endP_sd2 V n q
  rw [mrg_ng _ _ _ (Nat.le_refl _), adP_ng, arC_ng, arC_ng, arC_ng, endP_ng, endP_ng, eE2, fE2, dif_ng, dif_ng, cr2_ng, cr2_ng] at A2
  rw [eE, fE] at A1
  have z1 : cr2 q (dif m p) + cr2 q (dif p m) = 0 := by unfold cr2 dif; simp only; grind
  have z2 : cr2 p (dif n q) + cr2 p (dif q n) = 0 := by unfold cr2 dif; simp only; grind
  have hr : adP p q = r := by
    rw [g1] at k1
    obtain ⟨t', e'⟩ := cumP_cons (mrg (sdL (p :: (A ++ [m]))) (sdL (q :: (B ++ [n])))) (adP p q)
    rw [e'] at k1
    exact (List.cons.inj k1).1.symm
  have hc : cumP (adP p q) (mrg (sdC (hulL s)) (sdC (hulL t))) = (r :: (X ++ o :: Y)) ++ [r] := by
    rw [x1, cumP_app, x2, ← k1, ← k2, g1, g2, show r :: (X ++ [o]) = (r :: X) ++ [o] from rfl, List.dropLast_concat]
    simp
  rw [hr] at hc
  have hW : sgA (hulL w) (hulL w).length = arC r (mrg (sdC (hulL s)) (sdC (hulL t))) := by
    rw [g3]
    exact cum_arc r (X ++ o :: Y) _ hc
  have hS : sgA (hulL s) (hulL s).length = arC p (sdC (hulL s)) := by
    rw [eH]
    exact sg_arc p (A ++ m :: U)
  have hT : sgA (hulL t) (hulL t).length = arC q (sdC (hulL t)) := by
    rw [fH]
    exact sg_arc q (B ++ n :: V)
  rw [hW, hS, hT, x1, arC_app, ← hr, x2, eC, fC, arC_app, arC_app, eE, fE]
  omega
theorem endP_sdC (q : Pt) (B : List Pt) : endP q (sdC (q :: B)) = q := endP_sd2 B q q
theorem sdC_mv (a q : Pt) (B : List Pt) : sdC ((q :: B).map (adP a)) = sdC (q :: B) := by
  have e : ∀ l : List Pt, sdL (l.map (adP a)) = sdL l := by
    intro l
    match l with
    | [] => rfl
    | [_] => rfl
    | x :: y :: t =>
      have ih : sdL ((y :: t).map (adP a)) = sdL (y :: t) := by
        clear q B
        induction t generalizing y with
        | nil => rfl
        | cons z t ih =>
          show dif (adP a z) (adP a y) :: sdL ((z :: t).map (adP a)) = dif z y :: sdL (z :: t)
          rw [ih z, dif_add]
          congr 1
          unfold adP dif
          ext <;> simp
      show dif (adP a y) (adP a x) :: sdL ((y :: t).map (adP a)) = dif y x :: sdL (y :: t)
      rw [ih, dif_add]
      congr 1
      unfold adP dif
      ext <;> simp
  have : sdC ((q :: B).map (adP a)) = sdL ((q :: (B ++ [q])).map (adP a)) := by
    unfold sdC
    simp
  rw [this, e]
  rfl
/-- A move keeps the area. -/
theorem sg_mv (a q : Pt) (B : List Pt) : sgA ((q :: B).map (adP a)) ((q :: B).map (adP a)).length = sgA (q :: B) (q :: B).length := by
  have e1 := sg_arc (adP a q) (B.map (adP a))
  have e2 : sdC (adP a q :: B.map (adP a)) = sdC (q :: B) := sdC_mv a q B
  rw [e2, arC_mv, endP_sdC, cr2_d0] at e1
  rw [sg_arc q B]
  show sgA (adP a q :: B.map (adP a)) (adP a q :: B.map (adP a)).length = _
  rw [e1]
  omega
/-- The area of sums is at least the sum of both areas. -/
theorem area_sum {s t w : List Pt} (hs : Asc s) (ht : Asc t) (hw : Asc w) (s0 : s ≠ []) (t0 : t ≠ []) (e : ∀ z, z ∈ w ↔ smS (fun q => q ∈ hulL s) (fun q => q ∈ hulL t) z) : sgA (hulL s) (hulL s).length + sgA (hulL t) (hulL t).length ≤ sgA (hulL w) (hulL w).length := by
  have one : ∀ a : Pt, sgA [a] [a].length = 0 := fun a => by
    rw [sg_arc a []]
    show cr2 a (dif a a) + 0 = 0
    rw [cr2_d0]
    rfl
  by_cases s2 : 2 ≤ s.length
  · by_cases t2 : 2 ≤ t.length
    · exact add_arc hs ht hw s2 t2 e
    · rw [← add_hul hs ht hw s0 t0 e]
      match t, t0, t2 with
      | _ :: _ :: _, _, h => simp at h
      | [a], _, _ =>
        obtain ⟨q, B, eB⟩ := hul_neK s0 hs
        have e1 : hulL [a] = [a] := rfl
        have nd := hul_nodup hs
        rw [e1, eB, add_one', add_one a q B (by rw [← eB]; exact nd), one, sg_mv]
        omega
  · rw [← add_hul hs ht hw s0 t0 e]
    match s, s0, s2 with
    | _ :: _ :: _, _, h => simp at h
    | [a], _, _ =>
      obtain ⟨q, B, eB⟩ := hul_neK t0 ht
      have e1 : hulL [a] = [a] := rfl
      have nd := hul_nodup ht
      rw [e1, eB, add_one a q B (by rw [← eB]; exact nd), one, sg_mv]
      omega
end Go.Proofs.Ytbfoheblcoakiaa
namespace Go.Proofs.Ytbfoheblcoakiaa
set_option linter.all false
open Go.RowKit
theorem ha_sum {us vs : List Pt} (h : mkwB us vs = true) (hl : (mkwV us vs).length ≤ 20) : haV us + haV vs ≤ haV (mkwV us vs) := by
  obtain ⟨e, _, o1, o2, l1, l2⟩ := mkwV_yes h
  obtain ⟨ho, hH⟩ := mkwV_ok h hl
  unfold haV
  rw [ho, o1, o2, hH, e]
  simp only [cond_true]
  unfold mkwH
  rw [hulV_yes o1, hulV_yes o2]
  exact area_sum (srtL_asc us) (srtL_asc vs) (srtL_asc _) (srtL_neK l1) (srtL_neK l2) fun z => by rw [srtL_mem, mem_smL]
set_option maxRecDepth 100000 in
theorem law_mz (bs : List Int) (hb : Bytes bs) (_ : bs.length ≤ maxLen) : Res Try.prog 6 [.row bs.length (.bytes bs)] (.bool true) := by
  refine bodyP_res mixed ELx_ok (m := 30) (n := 12) rfl ?_
  rw [tr_lMa]
  simp only [List.drop_zero, ptsA_flat, flat_length]
  obtain ⟨_, _, _, _, k5, k6⟩ := dmKey hb (Nat.le_refl _) (l := rdL bs.length) (by unfold rdL; omega) (by unfold rdL; omega)
  rw [← dmQ_len] at k6
  generalize apsL bs (rdL bs.length) 0 5 = us at *
  generalize dmQ bs (rdL bs.length) = vs at *
  have hV := mkwV_le us vs
  simp only [beq_self_eq_true, Bool.not_true, brT_f, brT_t]
  refine brT_ok.2 ⟨fun _ => rfl, fun _ => ?_⟩
  have a1 := haV_bd us
  have a2 := haV_bd vs
  rw [wr (x := haV us + haV vs) (by omega)]
  rcases hB : mkwB us vs with _ | _
  · simp only [Bool.not_false, brT_t]
    repeat' (first | exact True.intro | assumption | omega | exact rfl | refine And.intro ?_ ?_)
  · by_cases hl : (20 : Int) < (mkwV us vs).length
    · simp only [Bool.not_true, brT_f, brT_t, decide_eq_true hl]
      repeat' (first | exact True.intro | assumption | omega | exact rfl | refine And.intro ?_ ?_)
    · have e := ha_sum hB (by omega)
      simp only [Bool.not_true, brT_f, brT_t, decide_eq_false hl, decide_eq_true e]
      repeat' (first | exact True.intro | assumption | omega | exact rfl | refine And.intro ?_ ?_)
end Go.Proofs.Ytbfoheblcoakiaa
