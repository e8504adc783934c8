/-
  Texts that the proof needs, merged. Written by an AI agent.
-/
import Derived.Orders
import Derived.Below
import Derived.OrdersIn
import Derived.Deep.LoopGhost
import Derived.WalkKit
import Derived.Laws.CopyRow
import Derived.Laws.AppendOwn
import Derived.Laws.Slices
import Derived.Laws.MakeOwn
import Derived.Test.YtbfoheblcoakiaaRows
import Derived.ProofKit
import Derived.OpenShut
import Derived.Carry
import Derived.IntWalk
import Derived.Test.YtbfoheblcoakiaaProg
import Derived.WalkSpells
import Derived.WalkLawsBesides
import Derived.Lib.Hide
import Derived.Deep.QuietTactic
import Derived.BigQuiet
import Derived.KernelRfl
import Derived.Deep.RegionHeld3
import Derived.LoopTactic
import Derived.Laws.StructEq
import Derived.Laws.Tables
import Derived.RangeFuncNested
import Derived.RangeFuncLeaves
import Derived.Deep.Slices
import Derived.Deep.Fields
import Derived.ChangeSame
import Derived.Deep.DeepCutAuto
import Derived.Shelf.SlSortCmp.WholeK
import Derived.Sort.Grow
import Derived.Shelf.SlSortCmp.NoneTotal
import Derived.Test.YtbfoheblcoakiaaZMinkowskiArea4
namespace Go.Proofs.Ytbfoheblcoakiaa
set_option linter.all false
open Go.RowKit
def E3 : Env := mkE (T2) (fun _ _ => none) (fun _ => noL)
theorem E3_ok : EnvOk Try.prog E3 := mkEOk (T2_ok) (fun _ _ _ _ _ h => (by cases h)) (fun _ _ _ => noL_good)
theorem allV_get {ps : List Pt} (h : allV ps = true) (i : Nat) : -1000 ≤ (ps.getD i (0, 0)).1 ∧ (ps.getD i (0, 0)).1 ≤ 1000 ∧ -1000 ≤ (ps.getD i (0, 0)).2 ∧ (ps.getD i (0, 0)).2 ≤ 1000 := by
  rcases Nat.lt_or_ge i ps.length with hlt | hge
  · have := List.all_eq_true.1 h (ps.getD i (0, 0)) (by simp [hlt])
    simpa [vB, ptB] using this
  · simp [hge]
theorem brT_t (x y : Tree) : brT true x y = x := rfl
theorem brT_f (x y : Tree) : brT false x y = y := rfl
def eqL (ps qs : List Pt) : Bool := decide (ps = qs)
def sq (p q : Pt) : Int := (p.1 - q.1) * (p.1 - q.1) + (p.2 - q.2) * (p.2 - q.2)
def cnt (n : Int) (q : Pt) (ps : List Pt) : Int := (ps.countP fun p => decide (sq p q ≤ n) : Nat)
theorem cnt_yes {ps : List Pt} {i : Nat} (h : i < ps.length) (n : Int) (q : Pt) (hh : sq (ps.getD i (0, 0)) q ≤ n) : cnt n q (ps.drop i) = cnt n q (ps.drop (i + 1)) + 1 := by
  unfold cnt
  rw [drop_cons h (0, 0), List.countP_cons]
  simp only [hh, decide_true, if_true]
  omega
theorem cnt_no {ps : List Pt} {i : Nat} (h : i < ps.length) (n : Int) (q : Pt) (hh : ¬ sq (ps.getD i (0, 0)) q ≤ n) : cnt n q (ps.drop i) = cnt n q (ps.drop (i + 1)) := by
  unfold cnt
  rw [drop_cons h (0, 0), List.countP_cons]
  simp only [hh, decide_false, if_false, Bool.false_eq_true]
  omega
theorem cnt_end {ps : List Pt} {i : Nat} (h : ps.length ≤ i) (n : Int) (q : Pt) : cnt n q (ps.drop i) = 0 := by
  unfold cnt
  rw [List.drop_of_length_le h]
  rfl
noncomputable def c_toPts : Code := ((loopsOf (codeOf Try.f24))[0]?).getD .skip
def k_toPts : Ex → List Nat := keeps [0, 3, 4] [(0, [3])] [2]
def s_toPts (ps : List Pt) (n : Nat) : Nat × (List Pt) → St := fun (i, qs) => ⟨[.slice (some ⟨0, 0, none⟩) ps.length ps.length, topV, topV, .slice (some ⟨1, 0, none⟩) n n, .int .i64 i, topV, topV, topV, topV, topV, topV, topV, topV, topV, topV, topV, topV, topV, topV, topV, topV, topV, topV], [some ⟨.view, .ints (flat ps)⟩, some ⟨.row 32 2, .ints (flat qs)⟩]⟩
def re_toPts : Nat × (List Pt) → Ex := fun _ => .exit 0
def rs_toPts (ps : List Pt) (n : Nat) : Nat × (List Pt) → St := fun (i, qs) => ⟨[topV, topV, topV, .slice (some ⟨1, 0, none⟩) n n, topV, topV, topV, topV, topV, topV, topV, topV, topV, topV, topV, topV, topV, topV, topV, topV, topV, topV, topV], [some ⟨.view, .ints (flat ps)⟩, some ⟨.row 32 2, .ints (flat ps)⟩]⟩
set_option maxRecDepth 100000 in
theorem tr_toPts (ps : List Pt) (n : Nat) (i : Nat) (qs : List Pt) : bodyL Try.prog E3 30 12 noL 1 c_toPts k_toPts 2 (s_toPts ps n (i, qs)) = brT (decide ((↑i : Int) < (↑ps.length : Int))) (.need ((0 : Int) ≤ (↑i : Int) ∧ (↑i : Int) < (↑ps.length : Int)) (.need ((0 : Nat) + (↑i : Int).toNat * (2 : Nat) + (2 : Nat) ≤ (flat ps).length) (.need ((0 : Int) ≤ (↑i : Int) ∧ (↑i : Int) < (↑n : Int)) (.need ((0 : Nat) + (↑i : Int).toNat * (2 : Nat) + (2 : Nat) ≤ (flat qs).length) (.leaf .normal ⟨[.slice (some ⟨0, 0, none⟩) (ps.length) (ps.length), topV, topV, .slice (some ⟨1, 0, none⟩) (n) (n), .int .i64 (IntKind.i64.wrap ((↑i : Int) + 1)), topV, topV, topV, topV, topV, topV, topV, topV, topV, topV, topV, topV, topV, topV, topV, topV, topV, topV], [some ⟨.view, .ints (flat ps)⟩, some ⟨.row 32 2, .ints (setInts (flat qs) (0 + (↑i : Int).toNat * 2) [(flat ps).getD (0 + (↑i : Int).toNat * 2) 0, (flat ps).getD (0 + (↑i : Int).toNat * 2 + 1) 0])⟩]⟩))))) (.leaf (.exit 0) ⟨[topV, topV, topV, .slice (some ⟨1, 0, none⟩) (n) (n), topV, topV, topV, topV, topV, topV, topV, topV, topV, topV, topV, topV, topV, topV, topV, topV, topV, topV, topV], [some ⟨.view, .ints (flat ps)⟩, some ⟨.row 32 2, .ints (flat qs)⟩]⟩) := by kernel_rfl
set_option maxRecDepth 100000 in
theorem nl_toPts : loopsOf c_toPts = [] := by kernel_rfl
def inv_toPts (ps : List Pt) (n : Nat) : Nat × (List Pt) → Prop := fun (i, qs) => i ≤ ps.length ∧ ps.length = n ∧ qs.length = n ∧ qs.take i = ps.take i
def me_toPts (ps : List Pt) (n : Nat) : Nat × (List Pt) → Nat := fun (i, qs) => ps.length - i
/-- A round of this loop. -/
def Round_toPts (ps : List Pt) (n : Nat) : Prop := ∀ xx : Nat × (List Pt), inv_toPts ps n xx → (bodyL Try.prog E3 30 12 noL 1 c_toPts k_toPts 2 (s_toPts ps n xx)).ok (RoundEnd 2 (s_toPts ps n) (inv_toPts ps n) (me_toPts ps n) re_toPts (rs_toPts ps n) xx) (fun _ _ => False)
def e_toPts (s : St) (k : Ex → St → Tree) : Option Tree := match Nat.beq s.tmps.length 23, pickL s.tmps [0, 3, 4], s.mem with
  | true, [.slice (some ⟨0, 0, none⟩) n _, .slice (some ⟨1, 0, none⟩) m _, .int .i64 i], [some ⟨.view, .ints xs⟩, some ⟨.row 32 2, .ints ys⟩] => some (needs [i = 0, m = n, xs.length = n * 2, ys.length = n * 2, n ≤ 1000000000] (k (.exit 0) ⟨[topV, topV, topV, .slice (some ⟨1, 0, none⟩) m m, topV, topV, topV, topV, topV, topV, topV, topV, topV, topV, topV, topV, topV, topV, topV, topV, topV, topV, topV], [some ⟨.view, .ints xs⟩, some ⟨.row 32 2, .ints xs⟩]⟩))
  | _, _, _ => none
set_option maxRecDepth 100000 in
theorem round_toPts (ps : List Pt) (n : Nat) (h : ps.length ≤ 1000000000) : Round_toPts ps n := by
  rintro ⟨i, qs⟩ ⟨h1, h2, h3, h4⟩
  rw [tr_toPts]
  simp only [brT_ok, Tree.ok, decide_eq_true_eq, decide_eq_false_iff_not, Int.toNat_natCast, Nat.zero_add, flat_length, flat_get0, flat_get1, Cs.size]
  refine ⟨fun hlt => ⟨by omega, by omega, by omega, by omega, ?_⟩, fun hge => ?_⟩
  · rw [wsucc (n := ps.length) (by omega) h, flat_set qs i (by omega)]
    refine ⟨(i + 1, qs.set i (ps.getD i (0, 0))), [], ⟨by omega, h2, by simp [h3], ?_⟩, ?_, rfl, rfl, ?_⟩
    · exact take_set_succ (by omega) (by omega) h4 _
    · show ps.length - (i + 1) < ps.length - i; omega
    · repeat' (first | exact True.intro | exact rfl | exact fun _ => rfl | refine And.intro ?_ ?_)
  · have e : qs = ps := by
      rw [List.take_of_length_le (by omega), List.take_of_length_le (by omega)] at h4
      exact h4
    subst e
    refine ⟨rfl, [], ?_⟩
    repeat' (first | exact True.intro | exact rfl | exact fun _ => rfl | refine And.intro ?_ ?_)
set_option maxRecDepth 100000 in
theorem lg_toPts : LoopE Try.prog e_toPts c_toPts := by
  intro s k t F H hlt ht
  unfold e_toPts at hlt
  split at hlt
  rotate_left
  · cases hlt
  rename_i hlen hpick hmem
  obtain ⟨tmps, mem⟩ := s
  simp only at hlen hpick hmem
  subst hmem
  obtain rfl := Option.some.inj hlt
  obtain ⟨⟨rfl, rfl, h1, h2, h3, _⟩, ht2⟩ := needs_ok ht
  clear ht hlt
  obtain ⟨ps, rfl, rfl⟩ := even_flat h1
  obtain ⟨qs, rfl, hq⟩ := even_flat h2
  refine ⟨_, _, ht2, loop_run mixed E3_ok (s_toPts ps ps.length) (inv_toPts ps ps.length) (me_toPts ps ps.length) re_toPts (rs_toPts ps ps.length) k_toPts (fun _ => rfl) (noLoops nl_toPts) (round_toPts ps ps.length h3) (x := (0, qs)) ⟨Nat.zero_le _, rfl, hq, rfl⟩ (π := []) rfl ?_⟩
  refine ⟨rfl, rfl, ?_, wvs_spread' [0, 3, 4] hlen rfl ?_⟩
  · repeat' (first | exact True.intro | exact rfl | exact wv_top _ _ | exact fun _ => rfl | assumption | exact Eq.symm (by assumption) | exact vI0 rfl | refine And.intro ?_ ?_)
  · rw [hpick]
    repeat' (first | exact True.intro | exact rfl | exact wv_top _ _ | exact fun _ => rfl | assumption | exact Eq.symm (by assumption) | exact vI0 rfl | refine And.intro ?_ ?_)
noncomputable def c_eqPts : Code := ((loopsOf (codeOf Try.f26))[0]?).getD .skip
def k_eqPts : Ex → List Nat := keeps [0, 1, 5] [(0, [])] [4]
def s_eqPts (ps : List Pt) (qs : List Pt) : Nat → St := fun i => ⟨[.slice (some ⟨0, 0, none⟩) ps.length ps.length, .slice (some ⟨1, 0, none⟩) qs.length qs.length, topV, topV, topV, .int .i64 i, topV, topV, topV, topV, topV, topV, topV, topV, topV, topV, topV, topV, topV, topV, topV, topV, topV, topV, topV, topV, topV], [some ⟨.view, .ints (flat ps)⟩, some ⟨.view, .ints (flat qs)⟩]⟩
def re_eqPts (ps : List Pt) (qs : List Pt) : Nat → Ex := fun i => bif decide (ps.drop i = qs.drop i) then .exit 0 else .ret
def rs_eqPts (ps : List Pt) (qs : List Pt) : Nat → St := fun i => bif decide (ps.drop i = qs.drop i) then ⟨[topV, topV, topV, topV, topV, topV, topV, topV, topV, topV, topV, topV, topV, topV, topV, topV, topV, topV, topV, topV, topV, topV, topV, topV, topV, topV, topV], [some ⟨.view, .ints (flat ps)⟩, some ⟨.view, .ints (flat qs)⟩]⟩ else ⟨[topV, topV, topV, topV, .bool false, topV, topV, topV, topV, topV, topV, topV, topV, topV, topV, topV, topV, topV, topV, topV, topV, topV, topV, topV, topV, topV, topV], [some ⟨.view, .ints (flat ps)⟩, some ⟨.view, .ints (flat qs)⟩]⟩
set_option maxRecDepth 100000 in
theorem tr_eqPts (ps : List Pt) (qs : List Pt) (i : Nat) : bodyL Try.prog E3 30 12 noL 1 c_eqPts k_eqPts 2 (s_eqPts ps qs i) = brT (decide ((↑i : Int) < (↑ps.length : Int))) (brT (!(flat ps).getD (0 + (↑i : Int).toNat * 2) 0 == (flat qs).getD (0 + (↑i : Int).toNat * 2) 0) (.need ((0 : Int) ≤ (↑i : Int) ∧ (↑i : Int) < (↑ps.length : Int)) (.need ((0 : Nat) + (↑i : Int).toNat * (2 : Nat) + (2 : Nat) ≤ (flat ps).length) (.need ((0 : Int) ≤ (↑i : Int) ∧ (↑i : Int) < (↑qs.length : Int)) (.need ((0 : Nat) + (↑i : Int).toNat * (2 : Nat) + (2 : Nat) ≤ (flat qs).length) (.leaf .ret ⟨[topV, topV, topV, topV, .bool (false), topV, topV, topV, topV, topV, topV, topV, topV, topV, topV, topV, topV, topV, topV, topV, topV, topV, topV, topV, topV, topV, topV], [some ⟨.view, .ints (flat ps)⟩, some ⟨.view, .ints (flat qs)⟩]⟩))))) (brT (!(flat ps).getD (0 + (↑i : Int).toNat * 2 + 1) 0 == (flat qs).getD (0 + (↑i : Int).toNat * 2 + 1) 0) (.need ((0 : Int) ≤ (↑i : Int) ∧ (↑i : Int) < (↑ps.length : Int)) (.need ((0 : Nat) + (↑i : Int).toNat * (2 : Nat) + (2 : Nat) ≤ (flat ps).length) (.need ((0 : Int) ≤ (↑i : Int) ∧ (↑i : Int) < (↑qs.length : Int)) (.need ((0 : Nat) + (↑i : Int).toNat * (2 : Nat) + (2 : Nat) ≤ (flat qs).length) (.leaf .ret ⟨[topV, topV, topV, topV, .bool (false), topV, topV, topV, topV, topV, topV, topV, topV, topV, topV, topV, topV, topV, topV, topV, topV, topV, topV, topV, topV, topV, topV], [some ⟨.view, .ints (flat ps)⟩, some ⟨.view, .ints (flat qs)⟩]⟩))))) (.need ((0 : Int) ≤ (↑i : Int) ∧ (↑i : Int) < (↑ps.length : Int)) (.need ((0 : Nat) + (↑i : Int).toNat * (2 : Nat) + (2 : Nat) ≤ (flat ps).length) (.need ((0 : Int) ≤ (↑i : Int) ∧ (↑i : Int) < (↑qs.length : Int)) (.need ((0 : Nat) + (↑i : Int).toNat * (2 : Nat) + (2 : Nat) ≤ (flat qs).length) (.leaf .normal ⟨[.slice (some ⟨0, 0, none⟩) (ps.length) (ps.length), .slice (some ⟨1, 0, none⟩) (qs.length) (qs.length), topV, topV, topV, .int .i64 (IntKind.i64.wrap ((↑i : Int) + 1)), topV, topV, topV, topV, topV, topV, topV, topV, topV, topV, topV, topV, topV, topV, topV, topV, topV, topV, topV, topV, topV], [some ⟨.view, .ints (flat ps)⟩, some ⟨.view, .ints (flat qs)⟩]⟩))))))) (.leaf (.exit 0) ⟨[topV, topV, topV, topV, topV, topV, topV, topV, topV, topV, topV, topV, topV, topV, topV, topV, topV, topV, topV, topV, topV, topV, topV, topV, topV, topV, topV], [some ⟨.view, .ints (flat ps)⟩, some ⟨.view, .ints (flat qs)⟩]⟩) := by kernel_rfl
set_option maxRecDepth 100000 in
theorem nl_eqPts : loopsOf c_eqPts = [] := by kernel_rfl
def inv_eqPts (ps : List Pt) (qs : List Pt) : Nat → Prop := fun i => i ≤ ps.length ∧ ps.length = qs.length
def me_eqPts (ps : List Pt) (qs : List Pt) : Nat → Nat := fun i => ps.length - i
/-- A round of this loop. -/
def Round_eqPts (ps : List Pt) (qs : List Pt) : Prop := ∀ xx : Nat, inv_eqPts ps qs xx → (bodyL Try.prog E3 30 12 noL 1 c_eqPts k_eqPts 2 (s_eqPts ps qs xx)).ok (RoundEnd 2 (s_eqPts ps qs) (inv_eqPts ps qs) (me_eqPts ps qs) (re_eqPts ps qs) (rs_eqPts ps qs) xx) (fun _ _ => False)
def e_eqPts (s : St) (k : Ex → St → Tree) : Option Tree := match Nat.beq s.tmps.length 27, pickL s.tmps [0, 1, 5], s.mem with
  | true, [.slice (some ⟨0, 0, none⟩) n _, .slice (some ⟨1, 0, none⟩) m _, .int .i64 i], [some ⟨.view, .ints xs⟩, some ⟨.view, .ints ys⟩] => some (needs [i = 0, m = n, xs.length = n * 2, ys.length = n * 2, n ≤ 1000000000] (brT (eqL (ptsA n xs) (ptsA n ys)) (k (.exit 0) ⟨[topV, topV, topV, topV, topV, topV, topV, topV, topV, topV, topV, topV, topV, topV, topV, topV, topV, topV, topV, topV, topV, topV, topV, topV, topV, topV, topV], [some ⟨.view, .ints xs⟩, some ⟨.view, .ints ys⟩]⟩) (k .ret ⟨[topV, topV, topV, topV, .bool false, topV, topV, topV, topV, topV, topV, topV, topV, topV, topV, topV, topV, topV, topV, topV, topV, topV, topV, topV, topV, topV, topV], [some ⟨.view, .ints xs⟩, some ⟨.view, .ints ys⟩]⟩)))
  | _, _, _ => none
set_option maxRecDepth 100000 in
theorem round_eqPts (ps qs : List Pt) (h : ps.length ≤ 1000000000) : Round_eqPts ps qs := by
  rintro i ⟨h1, h2⟩
  rw [tr_eqPts]
  simp only [brT_ok, Tree.ok, decide_eq_true_eq, decide_eq_false_iff_not, Int.toNat_natCast, Nat.zero_add, flat_length, flat_get0, flat_get1, Bool.not_eq_true', Bool.not_eq_false', beq_iff_eq, beq_eq_false_iff_ne]
  refine ⟨fun hlt => ?_, fun hge => ?_⟩
  · have hd1 := drop_cons (l := ps) (k := i) (by omega) (0, 0)
    have hd2 := drop_cons (l := qs) (k := i) (by omega) (0, 0)
    have ne : ps.getD i (0, 0) ≠ qs.getD i (0, 0) → decide (ps.drop i = qs.drop i) = false := fun hne => by
      rw [hd1, hd2]
      simp only [List.cons.injEq, decide_eq_false_iff_not]
      exact fun h => hne h.1
    refine ⟨fun hv => ⟨by omega, by omega, by omega, by omega, ?_⟩, fun hv => ⟨fun hv2 => ⟨by omega, by omega, by omega, by omega, ?_⟩, fun hv2 => ⟨by omega, by omega, by omega, by omega, ?_⟩⟩⟩
    · have e := ne fun h => hv (by rw [h])
      refine ⟨by simp only [re_eqPts, e, cond_false], [], ?_⟩
      simp only [rs_eqPts, e, cond_false]
      repeat' (first | exact True.intro | exact rfl | exact fun _ => rfl | refine And.intro ?_ ?_)
    · have e := ne fun h => hv2 (by rw [h])
      refine ⟨by simp only [re_eqPts, e, cond_false], [], ?_⟩
      simp only [rs_eqPts, e, cond_false]
      repeat' (first | exact True.intro | exact rfl | exact fun _ => rfl | refine And.intro ?_ ?_)
    · have hp : ps.getD i (0, 0) = qs.getD i (0, 0) := Prod.ext hv hv2
      have e : decide (ps.drop i = qs.drop i) = decide (ps.drop (i + 1) = qs.drop (i + 1)) := by
        rw [hd1, hd2, hp]
        simp
      rw [wsucc (n := ps.length) (by omega) h]
      refine ⟨i + 1, [], ⟨by omega, h2⟩, ?_, by simp only [re_eqPts, e], by simp only [rs_eqPts, e], ?_⟩
      · show ps.length - (i + 1) < ps.length - i; omega
      · repeat' (first | exact True.intro | exact rfl | exact fun _ => rfl | refine And.intro ?_ ?_)
  · have e : decide (ps.drop i = qs.drop i) = true := by rw [List.drop_of_length_le (by omega), List.drop_of_length_le (by omega)]; rfl
    refine ⟨by simp only [re_eqPts, e, cond_true], [], ?_⟩
    simp only [rs_eqPts, e, cond_true]
    repeat' (first | exact True.intro | exact rfl | exact fun _ => rfl | refine And.intro ?_ ?_)
set_option maxRecDepth 100000 in
theorem lg_eqPts : LoopE Try.prog e_eqPts c_eqPts := by
  intro s k t F H hlt ht
  unfold e_eqPts at hlt
  split at hlt
  rotate_left
  · cases hlt
  rename_i hlen hpick hmem
  obtain ⟨tmps, mem⟩ := s
  simp only at hlen hpick hmem
  subst hmem
  obtain rfl := Option.some.inj hlt
  obtain ⟨⟨rfl, rfl, h1, h2, h3, _⟩, ht2⟩ := needs_ok ht
  clear ht hlt
  obtain ⟨ps, rfl, rfl⟩ := even_flat h1
  obtain ⟨qs, rfl, hq⟩ := even_flat h2
  rw [ptsA_flat, ← hq, ptsA_flat] at ht2
  refine ⟨_, _, pick2k ht2, loop_run mixed E3_ok (s_eqPts ps qs) (inv_eqPts ps qs) (me_eqPts ps qs) (re_eqPts ps qs) (rs_eqPts ps qs) k_eqPts (fun _ => rfl) (noLoops nl_eqPts) (round_eqPts ps qs h3) (x := 0) ⟨Nat.zero_le _, hq.symm⟩ (π := []) rfl ?_⟩
  refine ⟨rfl, rfl, ?_, wvs_spread' [0, 1, 5] hlen rfl ?_⟩
  · repeat' (first | exact True.intro | exact rfl | exact wv_top _ _ | exact fun _ => rfl | assumption | exact Eq.symm (by assumption) | exact vI0 rfl | refine And.intro ?_ ?_)
  · rw [hpick]
    repeat' (first | exact True.intro | exact rfl | exact wv_top _ _ | exact fun _ => rfl | assumption | exact Eq.symm (by assumption) | exact vI0 rfl | refine And.intro ?_ ?_)
noncomputable def c_specCW : Code := ((loopsOf (codeOf Try.f33))[0]?).getD .skip
def k_specCW : Ex → List Nat := keeps [0, 2, 4, 7, 8] [(0, [7])] [6]
def s_specCW (ps : List Pt) (x y n : Int) : Nat × Int → St := fun (i, o) => ⟨(.slice (some ⟨0, 0, none⟩) ps.length ps.length :: topV :: .int .i64 n :: topV :: .pointer (some ⟨3, 0, none⟩) :: topV :: topV :: .int .i64 o :: .int .i64 i :: topV :: topV :: topV :: topV :: topV :: topV :: topV :: topV :: topV :: topV :: topV :: topV :: topV :: topV :: topV :: topV :: topV :: topV :: topV :: topV :: topV :: topV :: topV :: topV :: topV :: []), [some ⟨.view, .ints (flat ps)⟩, none, none, some ⟨.box, .vals [.int .i64 x, .int .i64 y]⟩]⟩
def re_specCW : Nat × Int → Ex := fun _ => .exit 0
def rs_specCW (ps : List Pt) (x y n : Int) : Nat × Int → St := fun (i, o) => ⟨(topV :: topV :: topV :: topV :: topV :: topV :: topV :: .int .i64 (o + cnt n (x, y) (ps.drop i)) :: topV :: topV :: topV :: topV :: topV :: topV :: topV :: topV :: topV :: topV :: topV :: topV :: topV :: topV :: topV :: topV :: topV :: topV :: topV :: topV :: topV :: topV :: topV :: topV :: topV :: topV :: []), [some ⟨.view, .ints (flat ps)⟩, none, none, some ⟨.box, .vals [.int .i64 x, .int .i64 y]⟩]⟩
set_option maxRecDepth 100000 in
theorem tr_specCW (ps : List Pt) (x y n : Int) (i : Nat) (o : Int) : bodyL Try.prog E3 30 12 noL 1 c_specCW k_specCW 4 (s_specCW ps x y n (i, o)) = brT (decide ((↑i : Int) < (↑ps.length : Int))) (.need ((0 : Int) ≤ (↑i : Int) ∧ (↑i : Int) < (↑ps.length : Int)) (.need ((0 : Nat) + (↑i : Int).toNat * (2 : Nat) + (2 : Nat) ≤ (flat ps).length) (brT (decide (IntKind.i64.wrap (IntKind.i64.wrap (IntKind.i64.wrap ((flat ps).getD (0 + (↑i : Int).toNat * 2) 0 - x) * IntKind.i64.wrap ((flat ps).getD (0 + (↑i : Int).toNat * 2) 0 - x)) + IntKind.i64.wrap (IntKind.i64.wrap ((flat ps).getD (0 + (↑i : Int).toNat * 2 + 1) 0 - y) * IntKind.i64.wrap ((flat ps).getD (0 + (↑i : Int).toNat * 2 + 1) 0 - y))) ≤ n)) (.leaf .normal ⟨(.slice (some ⟨0, 0, none⟩) (ps.length) (ps.length) :: topV :: .int .i64 (n) :: topV :: .pointer (some ⟨3, 0, none⟩) :: topV :: topV :: .int .i64 (IntKind.i64.wrap (o + 1)) :: .int .i64 (IntKind.i64.wrap ((↑i : Int) + 1)) :: topV :: topV :: topV :: topV :: topV :: topV :: topV :: topV :: topV :: topV :: topV :: topV :: topV :: topV :: topV :: topV :: topV :: topV :: topV :: topV :: topV :: topV :: topV :: topV :: topV :: []), [some ⟨.view, .ints (flat ps)⟩, none, none, some ⟨.box, .vals [.int .i64 (x), .int .i64 (y)]⟩]⟩) (.leaf .normal ⟨(.slice (some ⟨0, 0, none⟩) (ps.length) (ps.length) :: topV :: .int .i64 (n) :: topV :: .pointer (some ⟨3, 0, none⟩) :: topV :: topV :: .int .i64 (o) :: .int .i64 (IntKind.i64.wrap ((↑i : Int) + 1)) :: topV :: topV :: topV :: topV :: topV :: topV :: topV :: topV :: topV :: topV :: topV :: topV :: topV :: topV :: topV :: topV :: topV :: topV :: topV :: topV :: topV :: topV :: topV :: topV :: topV :: []), [some ⟨.view, .ints (flat ps)⟩, none, none, some ⟨.box, .vals [.int .i64 (x), .int .i64 (y)]⟩]⟩)))) (.leaf (.exit 0) ⟨(topV :: topV :: topV :: topV :: topV :: topV :: topV :: .int .i64 (o) :: topV :: topV :: topV :: topV :: topV :: topV :: topV :: topV :: topV :: topV :: topV :: topV :: topV :: topV :: topV :: topV :: topV :: topV :: topV :: topV :: topV :: topV :: topV :: topV :: topV :: topV :: []), [some ⟨.view, .ints (flat ps)⟩, none, none, some ⟨.box, .vals [.int .i64 (x), .int .i64 (y)]⟩]⟩) := by kernel_rfl
set_option maxRecDepth 100000 in
theorem nl_specCW : loopsOf c_specCW = [] := by kernel_rfl
def inv_specCW (ps : List Pt) (x y n : Int) : Nat × Int → Prop := fun (i, o) => i ≤ ps.length ∧ 0 ≤ o ∧ o ≤ i
def me_specCW (ps : List Pt) (x y n : Int) : Nat × Int → Nat := fun (i, o) => ps.length - i
/-- A round of this loop. -/
def Round_specCW (ps : List Pt) (x y n : Int) : Prop := ∀ xx : Nat × Int, inv_specCW ps x y n xx → (bodyL Try.prog E3 30 12 noL 1 c_specCW k_specCW 4 (s_specCW ps x y n xx)).ok (RoundEnd 4 (s_specCW ps x y n) (inv_specCW ps x y n) (me_specCW ps x y n) re_specCW (rs_specCW ps x y n) xx) (fun _ _ => False)
def e_specCW (s : St) (k : Ex → St → Tree) : Option Tree := match Nat.beq s.tmps.length 34, pickL s.tmps [0, 2, 4, 7, 8], s.mem with
  | true, [.slice (some ⟨0, 0, none⟩) m _, .int .i64 n, .pointer (some ⟨3, 0, none⟩), .int .i64 o, .int .i64 i], [some ⟨.view, .ints xs⟩, none, none, some ⟨.box, .vals [.int .i64 x, .int .i64 y]⟩] => some (needs [i = 0, o = 0, xs.length = m * 2, m ≤ 20, allV (ptsA m xs) = true, ptB x y = true] (k (.exit 0) ⟨(topV :: topV :: topV :: topV :: topV :: topV :: topV :: .int .i64 (0 + cnt n (x, y) (ptsA m xs)) :: topV :: topV :: topV :: topV :: topV :: topV :: topV :: topV :: topV :: topV :: topV :: topV :: topV :: topV :: topV :: topV :: topV :: topV :: topV :: topV :: topV :: topV :: topV :: topV :: topV :: topV :: []), [some ⟨.view, .ints xs⟩, none, none, some ⟨.box, .vals [.int .i64 x, .int .i64 y]⟩]⟩))
  | _, _, _ => none
set_option maxRecDepth 100000 in
theorem round_specCW (ps : List Pt) (x y n : Int) (h : ps.length ≤ 20) (hv : allV ps = true) (hq : ptB x y = true) : Round_specCW ps x y n := by
  rintro ⟨i, o⟩ ⟨h1, h2, h3⟩
  rw [tr_specCW]
  have b := allV_get hv i
  have hq : -1000 ≤ x ∧ x ≤ 1000 ∧ -1000 ≤ y ∧ y ≤ 1000 := by simpa [ptB] using hq
  have m1 := mul_bd (x := (ps.getD i (0, 0)).1 - x) (y := (ps.getD i (0, 0)).1 - x) 2000 2000 (by omega) (by omega)
  have m2 := mul_bd (x := (ps.getD i (0, 0)).2 - y) (y := (ps.getD i (0, 0)).2 - y) 2000 2000 (by omega) (by omega)
  simp only [brT_ok, Tree.ok, decide_eq_true_eq, decide_eq_false_iff_not, Int.toNat_natCast, Nat.zero_add, flat_length, flat_get0, flat_get1]
  refine ⟨fun hlt => ⟨by omega, by omega, ?_⟩, fun hge => ?_⟩
  · rw [wsucc (n := ps.length) (by omega) (by omega)]
    simp (disch := omega) only [wr]
    refine ⟨fun hle => ?_, fun hle => ?_⟩
    · have hc := cnt_yes (ps := ps) (i := i) (by omega) n (x, y) hle
      refine ⟨(i + 1, o + 1), [], ⟨by omega, by omega, by omega⟩, ?_, rfl, by simp only [rs_specCW, hc]; rw [show o + 1 + cnt n (x, y) (ps.drop (i + 1)) = o + (cnt n (x, y) (ps.drop (i + 1)) + 1) by omega], ?_⟩
      · show ps.length - (i + 1) < ps.length - i; omega
      · repeat' (first | exact True.intro | exact rfl | exact fun _ => rfl | refine And.intro ?_ ?_)
    · have hc := cnt_no (ps := ps) (i := i) (by omega) n (x, y) hle
      refine ⟨(i + 1, o), [], ⟨by omega, by omega, by omega⟩, ?_, rfl, by simp only [rs_specCW, hc], ?_⟩
      · show ps.length - (i + 1) < ps.length - i; omega
      · repeat' (first | exact True.intro | exact rfl | exact fun _ => rfl | refine And.intro ?_ ?_)
  · refine ⟨rfl, [], ?_⟩
    simp only [rs_specCW, cnt_end (ps := ps) (i := i) (by omega) n (x, y), Int.add_zero]
    repeat' (first | exact True.intro | exact rfl | exact fun _ => rfl | refine And.intro ?_ ?_)
set_option maxRecDepth 100000 in
theorem lg_specCW : LoopE Try.prog e_specCW c_specCW := by
  intro s k t F H hlt ht
  unfold e_specCW at hlt
  split at hlt
  rotate_left
  · cases hlt
  rename_i hlen hpick hmem
  obtain ⟨tmps, mem⟩ := s
  simp only at hlen hpick hmem
  subst hmem
  obtain rfl := Option.some.inj hlt
  obtain ⟨⟨rfl, rfl, h1, h3, h4, h5, _⟩, ht2⟩ := needs_ok ht
  clear ht hlt
  obtain ⟨ps, rfl, rfl⟩ := even_flat h1
  rw [ptsA_flat] at ht2 h4
  refine ⟨_, _, ht2, loop_run mixed E3_ok (s_specCW ps _ _ _) (inv_specCW ps _ _ _) (me_specCW ps _ _ _) re_specCW (rs_specCW ps _ _ _) k_specCW (fun _ => rfl) (noLoops nl_specCW) (round_specCW ps _ _ _ h3 h4 h5) (x := (0, 0)) ⟨Nat.zero_le _, Int.le_refl _, Int.le_refl _⟩ (π := []) rfl ?_⟩
  refine ⟨rfl, rfl, ?_, wvs_spread' [0, 2, 4, 7, 8] hlen rfl ?_⟩
  · repeat' (first | exact True.intro | exact rfl | exact wv_top _ _ | exact fun _ => rfl | assumption | exact Eq.symm (by assumption) | exact vI0 rfl | refine And.intro ?_ ?_)
  · rw [hpick]
    repeat' (first | exact True.intro | exact rfl | exact wv_top _ _ | exact fun _ => rfl | assumption | exact Eq.symm (by assumption) | exact vI0 rfl | refine And.intro ?_ ?_)
noncomputable def c_implCW : Code := ((loopsOf (codeOf Try.f32))[0]?).getD .skip
def k_implCW : Ex → List Nat := keeps [2, 4, 7, 18, 19, 20] [(0, [7])] [6]
def s_implCW (ps : List Pt) (x y n : Int) : Nat × Int → St := fun (i, o) => ⟨(topV :: topV :: .int .i64 n :: topV :: .pointer (some ⟨3, 0, none⟩) :: topV :: topV :: .int .i64 o :: topV :: topV :: topV :: topV :: topV :: topV :: topV :: topV :: topV :: topV :: .slice (some ⟨0, 0, none⟩) ps.length ps.length :: .int .i64 ps.length :: .int .i64 i :: topV :: topV :: topV :: topV :: topV :: topV :: topV :: topV :: topV :: topV :: topV :: topV :: []), [some ⟨.view, .ints (flat ps)⟩, none, none, some ⟨.box, .vals [.int .i64 x, .int .i64 y]⟩]⟩
def re_implCW : Nat × Int → Ex := fun _ => .exit 0
def rs_implCW (ps : List Pt) (x y n : Int) : Nat × Int → St := fun (i, o) => ⟨(topV :: topV :: topV :: topV :: topV :: topV :: topV :: .int .i64 (o + cnt n (x, y) (ps.drop i)) :: topV :: topV :: topV :: topV :: topV :: topV :: topV :: topV :: topV :: topV :: topV :: topV :: topV :: topV :: topV :: topV :: topV :: topV :: topV :: topV :: topV :: topV :: topV :: topV :: topV :: []), [some ⟨.view, .ints (flat ps)⟩, none, none, some ⟨.box, .vals [.int .i64 x, .int .i64 y]⟩]⟩
set_option maxRecDepth 100000 in
theorem tr_implCW (ps : List Pt) (x y n : Int) (i : Nat) (o : Int) : bodyL Try.prog E3 30 12 noL 1 c_implCW k_implCW 4 (s_implCW ps x y n (i, o)) = brT (decide ((↑i : Int) < (↑ps.length : Int))) (.need ((0 : Int) ≤ (↑i : Int) ∧ (↑i : Int) < (↑ps.length : Int)) (.need ((0 : Nat) + (↑i : Int).toNat * (2 : Nat) + (2 : Nat) ≤ (flat ps).length) (brT (!(ptB ((flat ps).getD (0 + (↑i : Int).toNat * 2) 0) ((flat ps).getD (0 + (↑i : Int).toNat * 2 + 1) 0) && ptB x y)) (brT (decide (-1 ≤ n)) (.leaf .normal ⟨(topV :: topV :: .int .i64 (n) :: topV :: .pointer (some ⟨3, 0, none⟩) :: topV :: topV :: .int .i64 (IntKind.i64.wrap (o + 1)) :: topV :: topV :: topV :: topV :: topV :: topV :: topV :: topV :: topV :: topV :: .slice (some ⟨0, 0, none⟩) (ps.length) (ps.length) :: .int .i64 ((↑ps.length : Int)) :: .int .i64 (IntKind.i64.wrap ((↑i : Int) + 1)) :: topV :: topV :: topV :: topV :: topV :: topV :: topV :: topV :: topV :: topV :: topV :: topV :: []), [some ⟨.view, .ints (flat ps)⟩, none, none, some ⟨.box, .vals [.int .i64 (x), .int .i64 (y)]⟩]⟩) (.leaf .normal ⟨(topV :: topV :: .int .i64 (n) :: topV :: .pointer (some ⟨3, 0, none⟩) :: topV :: topV :: .int .i64 (o) :: topV :: topV :: topV :: topV :: topV :: topV :: topV :: topV :: topV :: topV :: .slice (some ⟨0, 0, none⟩) (ps.length) (ps.length) :: .int .i64 ((↑ps.length : Int)) :: .int .i64 (IntKind.i64.wrap ((↑i : Int) + 1)) :: topV :: topV :: topV :: topV :: topV :: topV :: topV :: topV :: topV :: topV :: topV :: topV :: []), [some ⟨.view, .ints (flat ps)⟩, none, none, some ⟨.box, .vals [.int .i64 (x), .int .i64 (y)]⟩]⟩)) (brT (decide (IntKind.i64.wrap (IntKind.i64.wrap (IntKind.i64.wrap ((flat ps).getD (0 + (↑i : Int).toNat * 2) 0 - x) * IntKind.i64.wrap ((flat ps).getD (0 + (↑i : Int).toNat * 2) 0 - x)) + IntKind.i64.wrap (IntKind.i64.wrap ((flat ps).getD (0 + (↑i : Int).toNat * 2 + 1) 0 - y) * IntKind.i64.wrap ((flat ps).getD (0 + (↑i : Int).toNat * 2 + 1) 0 - y))) ≤ n)) (.leaf .normal ⟨(topV :: topV :: .int .i64 (n) :: topV :: .pointer (some ⟨3, 0, none⟩) :: topV :: topV :: .int .i64 (IntKind.i64.wrap (o + 1)) :: topV :: topV :: topV :: topV :: topV :: topV :: topV :: topV :: topV :: topV :: .slice (some ⟨0, 0, none⟩) (ps.length) (ps.length) :: .int .i64 ((↑ps.length : Int)) :: .int .i64 (IntKind.i64.wrap ((↑i : Int) + 1)) :: topV :: topV :: topV :: topV :: topV :: topV :: topV :: topV :: topV :: topV :: topV :: topV :: []), [some ⟨.view, .ints (flat ps)⟩, none, none, some ⟨.box, .vals [.int .i64 (x), .int .i64 (y)]⟩]⟩) (.leaf .normal ⟨(topV :: topV :: .int .i64 (n) :: topV :: .pointer (some ⟨3, 0, none⟩) :: topV :: topV :: .int .i64 (o) :: topV :: topV :: topV :: topV :: topV :: topV :: topV :: topV :: topV :: topV :: .slice (some ⟨0, 0, none⟩) (ps.length) (ps.length) :: .int .i64 ((↑ps.length : Int)) :: .int .i64 (IntKind.i64.wrap ((↑i : Int) + 1)) :: topV :: topV :: topV :: topV :: topV :: topV :: topV :: topV :: topV :: topV :: topV :: topV :: []), [some ⟨.view, .ints (flat ps)⟩, none, none, some ⟨.box, .vals [.int .i64 (x), .int .i64 (y)]⟩]⟩))))) (.leaf (.exit 0) ⟨(topV :: topV :: topV :: topV :: topV :: topV :: topV :: .int .i64 (o) :: topV :: topV :: topV :: topV :: topV :: topV :: topV :: topV :: topV :: topV :: topV :: topV :: topV :: topV :: topV :: topV :: topV :: topV :: topV :: topV :: topV :: topV :: topV :: topV :: topV :: []), [some ⟨.view, .ints (flat ps)⟩, none, none, some ⟨.box, .vals [.int .i64 (x), .int .i64 (y)]⟩]⟩) := by kernel_rfl
set_option maxRecDepth 100000 in
theorem nl_implCW : loopsOf c_implCW = [] := by kernel_rfl
def inv_implCW (ps : List Pt) (x y n : Int) : Nat × Int → Prop := fun (i, o) => i ≤ ps.length ∧ 0 ≤ o ∧ o ≤ i
def me_implCW (ps : List Pt) (x y n : Int) : Nat × Int → Nat := fun (i, o) => ps.length - i
/-- A round of this loop. -/
def Round_implCW (ps : List Pt) (x y n : Int) : Prop := ∀ xx : Nat × Int, inv_implCW ps x y n xx → (bodyL Try.prog E3 30 12 noL 1 c_implCW k_implCW 4 (s_implCW ps x y n xx)).ok (RoundEnd 4 (s_implCW ps x y n) (inv_implCW ps x y n) (me_implCW ps x y n) re_implCW (rs_implCW ps x y n) xx) (fun _ _ => False)
def e_implCW (s : St) (k : Ex → St → Tree) : Option Tree := match Nat.beq s.tmps.length 33, pickL s.tmps [2, 4, 7, 18, 19, 20], s.mem with
  | true, [.int .i64 n, .pointer (some ⟨3, 0, none⟩), .int .i64 o, .slice (some ⟨0, 0, none⟩) m _, .int .i64 l, .int .i64 i], [some ⟨.view, .ints xs⟩, none, none, some ⟨.box, .vals [.int .i64 x, .int .i64 y]⟩] => some (needs [i = 0, o = 0, l = m, xs.length = m * 2, m ≤ 20, allV (ptsA m xs) = true, ptB x y = true] (k (.exit 0) ⟨(topV :: topV :: topV :: topV :: topV :: topV :: topV :: .int .i64 (0 + cnt n (x, y) (ptsA m xs)) :: topV :: topV :: topV :: topV :: topV :: topV :: topV :: topV :: topV :: topV :: topV :: topV :: topV :: topV :: topV :: topV :: topV :: topV :: topV :: topV :: topV :: topV :: topV :: topV :: topV :: []), [some ⟨.view, .ints xs⟩, none, none, some ⟨.box, .vals [.int .i64 x, .int .i64 y]⟩]⟩))
  | _, _, _ => none
set_option maxRecDepth 100000 in
theorem round_implCW (ps : List Pt) (x y n : Int) (h : ps.length ≤ 20) (hv : allV ps = true) (hq : ptB x y = true) : Round_implCW ps x y n := by
  rintro ⟨i, o⟩ ⟨h1, h2, h3⟩
  rw [tr_implCW]
  have b := allV_get hv i
  have hpt : ptB (ps.getD i (0, 0)).1 (ps.getD i (0, 0)).2 = true := by simpa [ptB] using b
  have hq2 : -1000 ≤ x ∧ x ≤ 1000 ∧ -1000 ≤ y ∧ y ≤ 1000 := by simpa [ptB] using hq
  have m1 := mul_bd (x := (ps.getD i (0, 0)).1 - x) (y := (ps.getD i (0, 0)).1 - x) 2000 2000 (by omega) (by omega)
  have m2 := mul_bd (x := (ps.getD i (0, 0)).2 - y) (y := (ps.getD i (0, 0)).2 - y) 2000 2000 (by omega) (by omega)
  simp only [Int.toNat_natCast, Nat.zero_add, flat_length, flat_get0, flat_get1, hpt, hq, Bool.and_self, Bool.not_true, brT_f]
  simp only [brT_ok, Tree.ok, decide_eq_true_eq, decide_eq_false_iff_not]
  refine ⟨fun hlt => ⟨by omega, by omega, ?_⟩, fun hge => ?_⟩
  · rw [wsucc (n := ps.length) (by omega) (by omega)]
    simp (disch := omega) only [wr]
    refine ⟨fun hle => ?_, fun hle => ?_⟩
    · have hc := cnt_yes (ps := ps) (i := i) (by omega) n (x, y) hle
      refine ⟨(i + 1, o + 1), [], ⟨by omega, by omega, by omega⟩, ?_, rfl, by simp only [rs_implCW, hc]; rw [show o + 1 + cnt n (x, y) (ps.drop (i + 1)) = o + (cnt n (x, y) (ps.drop (i + 1)) + 1) by omega], ?_⟩
      · show ps.length - (i + 1) < ps.length - i; omega
      · repeat' (first | exact True.intro | exact rfl | exact fun _ => rfl | refine And.intro ?_ ?_)
    · have hc := cnt_no (ps := ps) (i := i) (by omega) n (x, y) hle
      refine ⟨(i + 1, o), [], ⟨by omega, by omega, by omega⟩, ?_, rfl, by simp only [rs_implCW, hc], ?_⟩
      · show ps.length - (i + 1) < ps.length - i; omega
      · repeat' (first | exact True.intro | exact rfl | exact fun _ => rfl | refine And.intro ?_ ?_)
  · refine ⟨rfl, [], ?_⟩
    simp only [rs_implCW, cnt_end (ps := ps) (i := i) (by omega) n (x, y), Int.add_zero]
    repeat' (first | exact True.intro | exact rfl | exact fun _ => rfl | refine And.intro ?_ ?_)
set_option maxRecDepth 100000 in
theorem lg_implCW : LoopE Try.prog e_implCW c_implCW := by
  intro s k t F H hlt ht
  unfold e_implCW at hlt
  split at hlt
  rotate_left
  · cases hlt
  rename_i hlen hpick hmem
  obtain ⟨tmps, mem⟩ := s
  simp only at hlen hpick hmem
  subst hmem
  obtain rfl := Option.some.inj hlt
  obtain ⟨⟨rfl, rfl, rfl, h1, h3, h4, h5, _⟩, ht2⟩ := needs_ok ht
  clear ht hlt
  obtain ⟨ps, rfl, rfl⟩ := even_flat h1
  rw [ptsA_flat] at ht2 h4
  refine ⟨_, _, ht2, loop_run mixed E3_ok (s_implCW ps _ _ _) (inv_implCW ps _ _ _) (me_implCW ps _ _ _) re_implCW (rs_implCW ps _ _ _) k_implCW (fun _ => rfl) (noLoops nl_implCW) (round_implCW ps _ _ _ h3 h4 h5) (x := (0, 0)) ⟨Nat.zero_le _, Int.le_refl _, Int.le_refl _⟩ (π := []) rfl ?_⟩
  refine ⟨rfl, rfl, ?_, wvs_spread' [2, 4, 7, 18, 19, 20] hlen rfl ?_⟩
  · repeat' (first | exact True.intro | exact rfl | exact wv_top _ _ | exact fun _ => rfl | assumption | exact Eq.symm (by assumption) | exact vI0 rfl | refine And.intro ?_ ?_)
  · rw [hpick]
    repeat' (first | exact True.intro | exact rfl | exact wv_top _ _ | exact fun _ => rfl | assumption | exact Eq.symm (by assumption) | exact vI0 rfl | refine And.intro ?_ ?_)
end Go.Proofs.Ytbfoheblcoakiaa
namespace Go.Proofs.Ytbfoheblcoakiaa
set_option linter.all false
open Go.RowKit
def L4 : FuncId → LT := fun f => match f with
  | 24 => lt1 e_toPts
  | 26 => lt1 e_eqPts
  | 33 => lt1 e_specCW
  | 32 => lt1 e_implCW
  | _ => noL
def E4 : Env := mkE (T2) (fun _ _ => none) (L4)
theorem code_of {f : FuncId} {fn g : Func} (h : Try.prog.funcs[f]? = some g) (hf : Try.prog.funcs[f]? = some fn) : g = fn := by rw [h] at hf; simpa using hf
theorem Lr_toPts {fn : Func} (hf : Try.prog.funcs[24]? = some fn) : LoopsGood Try.prog (lt1 e_toPts) 0 (codeOf fn) := by
  obtain rfl := code_of Try.func24 hf
  exact lt1_good lg_toPts
theorem Lr_eqPts {fn : Func} (hf : Try.prog.funcs[26]? = some fn) : LoopsGood Try.prog (lt1 e_eqPts) 0 (codeOf fn) := by
  obtain rfl := code_of Try.func26 hf
  exact lt1_good lg_eqPts
theorem Lr_specCW {fn : Func} (hf : Try.prog.funcs[33]? = some fn) : LoopsGood Try.prog (lt1 e_specCW) 0 (codeOf fn) := by
  obtain rfl := code_of Try.func33 hf
  exact lt1_good lg_specCW
theorem Lr_implCW {fn : Func} (hf : Try.prog.funcs[32]? = some fn) : LoopsGood Try.prog (lt1 e_implCW) 0 (codeOf fn) := by
  obtain rfl := code_of Try.func32 hf
  exact lt1_good lg_implCW
theorem L4_ok : ∀ f fn, Try.prog.funcs[f]? = some fn → LoopsGood Try.prog (L4 f) 0 (codeOf fn) := by
  intro f fn hf
  unfold L4
  split
  all_goals first | with_reducible exact Lr_toPts hf | with_reducible exact Lr_eqPts hf | with_reducible exact Lr_specCW hf | with_reducible exact Lr_implCW hf | exact noL_good
theorem E4_ok : EnvOk Try.prog E4 := mkEOk (T2_ok) (fun _ _ _ _ _ h => (by cases h)) (L4_ok)
set_option maxRecDepth 100000 in
theorem tr_toPointS (ps : List Pt) : bodyX Try.prog E4 30 12 24 [.row ps.length (.ints (flat ps))] = .need ((0 : Int) ≤ (↑ps.length : Int) ∧ (↑ps.length : Int) ≤ (↑ps.length : Int) ∧ (16 : Nat) * (↑ps.length : Int).toNat ≤ (281474976710656 : Nat) ∧ (↑ps.length : Int) ≤ (9223372036854775807 : Int)) (.need ((0 : Int) = (0 : Int)) (.need ((↑ps.length : Int).toNat = ps.length) (.need ((flat ps).length = ps.length * (2 : Nat)) (.need ((List.replicate ((↑ps.length : Int).toNat * (2 : Nat)) (0 : Int)).length = ps.length * (2 : Nat)) (.need (ps.length ≤ (1000000000 : Nat)) (.fin (.slice (some ⟨1, 0, none⟩) ((↑ps.length : Int).toNat) ((↑ps.length : Int).toNat)) [some ⟨.view, .ints (flat ps)⟩, some ⟨.row 32 2, .ints (flat ps)⟩])))))) := by kernel_rfl
set_option maxRecDepth 100000 in
theorem tr_eqPointS (ps qs : List Pt) : bodyX Try.prog E4 30 12 26 [.row ps.length (.ints (flat ps)), .row qs.length (.ints (flat qs))] = brT (!(↑ps.length : Int) == (↑qs.length : Int)) (.fin (.bool (false)) [some ⟨.view, .ints (flat ps)⟩, some ⟨.view, .ints (flat qs)⟩]) (.need ((0 : Int) = (0 : Int)) (.need (qs.length = ps.length) (.need ((flat ps).length = ps.length * (2 : Nat)) (.need ((flat qs).length = ps.length * (2 : Nat)) (.need (ps.length ≤ (1000000000 : Nat)) (brT (eqL (ptsA ps.length (flat ps)) (ptsA ps.length (flat qs))) (.fin (.bool (true)) [some ⟨.view, .ints (flat ps)⟩, some ⟨.view, .ints (flat qs)⟩]) (.fin (.bool (false)) [some ⟨.view, .ints (flat ps)⟩, some ⟨.view, .ints (flat qs)⟩]))))))) := by kernel_rfl
set_option maxRecDepth 100000 in
theorem tr_specCount (ps : List Pt) (x y n : Int) : bodyX Try.prog E4 30 12 33 [.row ps.length (.ints (flat ps)), .v (.agg #[iv x, iv y]), .v (iv n)] = .need (ps.length * (2 : Nat) ≤ (List.drop (0 : Nat) (flat ps)).length) (.need (ps.length ≤ (1000000000 : Nat)) (brT (!okL (ptsA ps.length (List.drop 0 (flat ps)))) (.fin (.int .i64 (-1)) [some ⟨.view, .ints (flat ps)⟩, none, none, some ⟨.box, .vals [.int .i64 (x), .int .i64 (y)]⟩]) (brT (!ptB x y) (.fin (.int .i64 (-1)) [some ⟨.view, .ints (flat ps)⟩, none, none, some ⟨.box, .vals [.int .i64 (x), .int .i64 (y)]⟩]) (.need ((0 : Int) = (0 : Int)) (.need ((0 : Int) = (0 : Int)) (.need ((flat ps).length = ps.length * (2 : Nat)) (.need (ps.length ≤ (20 : Nat)) (.need (allV (ptsA ps.length (flat ps)) = true) (.need (ptB x y = true) (.fin (.int .i64 (0 + cnt n (x, y) (ptsA ps.length (flat ps)))) [some ⟨.view, .ints (flat ps)⟩, none, none, some ⟨.box, .vals [.int .i64 (x), .int .i64 (y)]⟩])))))))))) := by kernel_rfl
set_option maxRecDepth 100000 in
theorem tr_implCount (ps : List Pt) (x y n : Int) : bodyX Try.prog E4 30 12 32 [.row ps.length (.ints (flat ps)), .v (.agg #[iv x, iv y]), .v (iv n)] = brT (decide ((↑ps.length : Int) ≤ 20)) (.need (ps.length * (2 : Nat) ≤ (List.drop (0 : Nat) (flat ps)).length) (.need (ps.length ≤ (1000000000 : Nat)) (brT (!allV (ptsA ps.length (List.drop 0 (flat ps)))) (.fin (.int .i64 (-1)) [some ⟨.view, .ints (flat ps)⟩, none, none, some ⟨.box, .vals [.int .i64 (x), .int .i64 (y)]⟩]) (brT (!ptB x y) (.fin (.int .i64 (-1)) [some ⟨.view, .ints (flat ps)⟩, none, none, some ⟨.box, .vals [.int .i64 (x), .int .i64 (y)]⟩]) (.need ((0 : Int) = (0 : Int)) (.need ((0 : Int) = (0 : Int)) (.need ((↑ps.length : Int) = (↑ps.length : Int)) (.need ((flat ps).length = ps.length * (2 : Nat)) (.need (ps.length ≤ (20 : Nat)) (.need (allV (ptsA ps.length (flat ps)) = true) (.need (ptB x y = true) (.fin (.int .i64 (0 + cnt n (x, y) (ptsA ps.length (flat ps)))) [some ⟨.view, .ints (flat ps)⟩, none, none, some ⟨.box, .vals [.int .i64 (x), .int .i64 (y)]⟩])))))))))))) (.fin (.int .i64 (-1)) [some ⟨.view, .ints (flat ps)⟩, none, none, some ⟨.box, .vals [.int .i64 (x), .int .i64 (y)]⟩]) := by kernel_rfl
theorem resR_toPointS (ps : List Pt) (h : Big ps) : ResR Try.prog 24 [.row ps.length (.ints (flat ps))] (.slice (some ⟨0, 0, none⟩) ps.length ps.length) ⟨.row 32 2, .ints (flat ps)⟩ := by
  refine bodyX_resR mixed E4_ok (m := 30) (n := 12) rfl ?_
  rw [tr_toPointS]
  unfold Big at h
  simp only [Tree.ok, flat_length, Int.toNat_natCast, List.length_replicate]
  exact ⟨by omega, trivial, trivial, trivial, trivial, h, some 1, ⟨rfl, rfl, rfl⟩, rfl, rfl, rfl⟩
theorem res_eqPointS (ps qs : List Pt) (h : Big ps) : Res Try.prog 26 [.row ps.length (.ints (flat ps)), .row qs.length (.ints (flat qs))] (.bool (eqL ps qs)) := by
  refine bodyX_res mixed E4_ok (m := 30) (n := 12) rfl ?_
  rw [tr_eqPointS]
  unfold Big at h
  by_cases hl : ps.length = qs.length
  · have e : ptsA ps.length (flat qs) = qs := by rw [hl, ptsA_flat]
    rw [e, ptsA_flat, show (!((ps.length : Int) == (qs.length : Int))) = false by simp [hl]]
    simp only [brT_f, Tree.ok, flat_length]
    refine ⟨trivial, hl.symm, trivial, by omega, h, ?_⟩
    cases eqL ps qs <;> rfl
  · have e : eqL ps qs = false := by
      unfold eqL
      rw [decide_eq_false_iff_not]
      rintro rfl
      exact hl rfl
    rw [show (!((ps.length : Int) == (qs.length : Int))) = true by simp; omega]
    simp only [brT_t, Tree.ok, e]
def cwV (ps : List Pt) (x y n : Int) : Int := bif okL ps && ptB x y then cnt n (x, y) ps else -1
theorem res_specCount (ps : List Pt) (x y n : Int) (h : Big ps) : Res Try.prog 33 [.row ps.length (.ints (flat ps)), .v (.agg #[iv x, iv y]), .v (iv n)] (iv (cwV ps x y n)) := by
  refine bodyX_res mixed E4_ok (m := 30) (n := 12) rfl ?_
  rw [tr_specCount]
  unfold Big at h
  simp only [List.drop_zero, ptsA_flat, flat_length, Int.zero_add]
  unfold cwV
  cases hk : okL ps
  · simp [Tree.ok, brT, h]
  · simp only [okL, Bool.and_eq_true, decide_eq_true_eq] at hk
    cases hq : ptB x y <;> simp [Tree.ok, brT, h, hk]
theorem res_implCount (ps : List Pt) (x y n : Int) (h : Big ps) : Res Try.prog 32 [.row ps.length (.ints (flat ps)), .v (.agg #[iv x, iv y]), .v (iv n)] (iv (cwV ps x y n)) := by
  refine bodyX_res mixed E4_ok (m := 30) (n := 12) rfl ?_
  rw [tr_implCount]
  unfold Big at h
  simp only [List.drop_zero, ptsA_flat, flat_length, Int.zero_add]
  unfold cwV okL
  by_cases hl : ps.length ≤ 20
  · have hl2 : (ps.length : Int) ≤ 20 := by omega
    cases hk : allV ps <;> cases hq : ptB x y <;> simp [Tree.ok, brT, h, hl, hl2]
  · have hl2 : ¬ (ps.length : Int) ≤ 20 := by omega
    simp [Tree.ok, brT, hl, hl2]
def pCW : List DArg → Option (Value × List Prop)
  | [.row m (.ints xs), .v (.agg ⟨[.int .i64 x, .int .i64 y]⟩), .v (.int .i64 n)] => some (iv (cwV (ptsA m xs) x y n), [m * 2 ≤ xs.length, m ≤ 1000000000])
  | _ => none
def pEq2 : List DArg → Option (Value × List Prop)
  | [.row m (.ints xs), .row n (.ints ys)] => some (.bool (eqL (ptsA m xs) (ptsA n ys)), [m * 2 ≤ xs.length, n * 2 ≤ ys.length, m ≤ 1000000000])
  | _ => none
def T3 : Tab := fun f ds => match f with
  | 26 => pEq2 ds
  | 33 => pCW ds
  | 32 => pCW ds
  | f => T2 f ds
theorem pCW_ok {f : FuncId} (h : ∀ (ps : List Pt) (x y n : Int), Big ps → Res Try.prog f [.row ps.length (.ints (flat ps)), .v (.agg #[iv x, iv y]), .v (iv n)] (iv (cwV ps x y n))) {ds : List DArg} {v : Value} {C : List Prop} (hd : pCW ds = some (v, C)) (hC : AllP C) : Res Try.prog f ds v := by
  unfold pCW at hd
  split at hd
  · rename_i m xs x y n
    obtain ⟨rfl, rfl⟩ : _ ∧ _ := by simpa using hd
    obtain ⟨_, h2⟩ := ptsA_spec hC.1
    exact res_pts1 (pre := []) (post := [_, _]) hC.1 (h (ptsA m xs) x y n (by unfold Big; rw [h2]; exact hC.2.1))
  · cases hd
theorem pEq2_ok {ds : List DArg} {v : Value} {C : List Prop} (h : pEq2 ds = some (v, C)) (hC : AllP C) : Res Try.prog 26 ds v := by
  unfold pEq2 at h
  split at h
  · rename_i m xs n ys
    obtain ⟨rfl, rfl⟩ : _ ∧ _ := by simpa using h
    obtain ⟨_, h2⟩ := ptsA_spec hC.1
    have h0 := res_eqPointS (ptsA m xs) (ptsA n ys) (by unfold Big; rw [h2]; exact hC.2.2.1)
    exact res_pts1 (pre := []) (post := [_]) hC.1 (res_pts1 (pre := [_]) (post := []) hC.2.1 h0)
  · cases h
theorem pCWs_ok {ds : List DArg} {v : Value} {C : List Prop} (h : pCW ds = some (v, C)) (hC : AllP C) : Res Try.prog 33 ds v := pCW_ok res_specCount h hC
theorem pCWi_ok {ds : List DArg} {v : Value} {C : List Prop} (h : pCW ds = some (v, C)) (hC : AllP C) : Res Try.prog 32 ds v := pCW_ok res_implCount h hC
theorem T3_ok : TabOk Try.prog T3 := by
  intro f ds v C h hC
  unfold T3 at h
  (try split at h)
  all_goals first | with_reducible exact pEq2_ok h hC | with_reducible exact pCWs_ok h hC | with_reducible exact pCWi_ok h hC | exact T2_ok _ _ _ _ h hC
def R4 : TabR := fun f ds => match f, ds with
  | 24, [.row n (.ints xs)] => some (.slice (some ⟨0, 0, none⟩) n n, ⟨.row 32 2, .ints (xs.take (n * 2))⟩, [n * 2 ≤ xs.length, n ≤ 1000000000])
  | _, _ => none
theorem R4_ok : TabROk Try.prog R4 := by
  intro f ds v b C h hC
  unfold R4 at h
  (try split at h)
  all_goals first
    | (rename_i n xs
       obtain ⟨rfl, rfl, rfl⟩ : _ ∧ _ ∧ _ := by simpa using h
       obtain ⟨h1, h2⟩ := ptsA_spec hC.1
       have h0 := resR_toPointS (ptsA n xs) (by unfold Big; rw [h2]; exact hC.2.1)
       have h3 := resR_pts1 (pre := []) (post := []) hC.1 h0
       rw [h2, ← h1] at h3
       exact h3)
    | cases h
end Go.Proofs.Ytbfoheblcoakiaa
namespace Go.Proofs.Ytbfoheblcoakiaa
set_option linter.all false
open Go.RowKit
/-- Two tables, one after the other. -/
def orT (A B : Tab) : Tab := fun f ds => match A f ds with
  | some x => some x
  | none => B f ds
theorem orT_ok {P : Program} {A B : Tab} (hA : TabOk P A) (hB : TabOk P B) : TabOk P (orT A B) := by
  intro f ds v C h hC
  unfold orT at h
  split at h
  · rename_i x hx
    obtain rfl : x = (v, C) := by simpa using h
    exact hA _ _ _ _ hx hC
  · exact hB _ _ _ _ h hC
end Go.Proofs.Ytbfoheblcoakiaa
namespace Go.Proofs.Ytbfoheblcoakiaa
set_option linter.all false
open Go.RowKit
/-- The next place of a closed path. -/
def nxP (ps : List Pt) (j : Nat) : Pt := ps.getD ((j + 1) % ps.length) (0, 0)
def sgT (ps : List Pt) (j : Nat) : Int := (ps.getD j (0, 0)).1 * (nxP ps j).2 - (ps.getD j (0, 0)).2 * (nxP ps j).1
/-- Twice the area of so many edges. -/
def sgA (ps : List Pt) : Nat → Int
  | 0 => 0
  | i + 1 => sgA ps i + sgT ps i
theorem allV_gt {ps : List Pt} (h : allV ps = true) {j : Nat} (hj : j < ps.length) : -1000 ≤ (ps.getD j (0, 0)).1 ∧ (ps.getD j (0, 0)).1 ≤ 1000 ∧ -1000 ≤ (ps.getD j (0, 0)).2 ∧ (ps.getD j (0, 0)).2 ≤ 1000 := by
  have := List.all_eq_true.1 h (ps.getD j (0, 0)) (by simp [hj])
  have := ptB_true this
  omega
theorem nx_lt {ps : List Pt} {j : Nat} (hj : j < ps.length) : (j + 1) % ps.length < ps.length := Nat.mod_lt _ (by omega)
theorem sgP_bd {ps : List Pt} (h : allV ps = true) {j : Nat} (hj : j < ps.length) : (-(1000 * 1000) ≤ (ps.getD j (0, 0)).1 * (nxP ps j).2 ∧ (ps.getD j (0, 0)).1 * (nxP ps j).2 ≤ 1000 * 1000) ∧ (-(1000 * 1000) ≤ (ps.getD j (0, 0)).2 * (nxP ps j).1 ∧ (ps.getD j (0, 0)).2 * (nxP ps j).1 ≤ 1000 * 1000) := by
  have a1 := allV_gt h hj
  have a2 := allV_gt h (nx_lt hj)
  unfold nxP
  exact ⟨mul_bd 1000 1000 (by omega) (by omega), mul_bd 1000 1000 (by omega) (by omega)⟩
theorem sgA_bd {ps : List Pt} (h : allV ps = true) : ∀ i, i ≤ ps.length → -(2000000 * (i : Int)) ≤ sgA ps i ∧ sgA ps i ≤ 2000000 * (i : Int)
  | 0, _ => by simp [sgA]
  | i + 1, hi => by
    have ih := sgA_bd h i (by omega)
    obtain ⟨b1, b2⟩ := sgP_bd h (j := i) (by omega)
    simp only [sgA, sgT]
    omega
def EGa : Env := tabE B0
theorem EGa_ok : EnvOk Try.prog EGa := tabE_ok B0_ok
noncomputable def gc_sga : Code := (rangesOf (codeOf Try.f47)).getD 0 .skip
def k_sga : Ex → List Nat := keeps [3, 7] [] []
def s_sga (ps : List Pt) : Nat → St := fun i => ⟨[topV, topV, topV, .pointer (some ⟨1, 0, none⟩), topV, topV, topV, .func (.func 84) #[] #[.pointer (some ⟨2, 0, none⟩)], topV, topV, topV, topV, topV, topV, topV, topV, topV, topV], [some ⟨.view, .ints (flat ps)⟩, some ⟨.box, .vals [.int .i64 (sgA ps i)]⟩, some ⟨.view, .vals [.slice (some ⟨0, 0, none⟩) ps.length ps.length]⟩]⟩
def g_sga (ps : List Pt) : Nat → Prop := fun i => i ≤ ps.length
def re_sga (ps : List Pt) : Ex := .normal
def rs_sga (ps : List Pt) : St := ⟨[topV, topV, topV, .pointer (some ⟨1, 0, none⟩), topV, topV, topV, topV, topV, topV, topV, topV, topV, topV, topV, topV, topV, topV], [some ⟨.view, .ints (flat ps)⟩, some ⟨.box, .vals [.int .i64 (sgA ps ps.length)]⟩, some ⟨.view, .vals [.slice (some ⟨0, 0, none⟩) ps.length ps.length]⟩]⟩
set_option maxRecDepth 100000 in
theorem tr_sga (ps : List Pt) (i : Nat) : bodyR Try.prog EGa 30 12 noL noR (asgOf gc_sga) (bodOf gc_sga) ([8, 9].zip (encE ps i)) k_sga 3 (s_sga ps i) = .leaf .normal ⟨[topV, topV, topV, .pointer (some ⟨1, 0, none⟩), topV, topV, topV, .func (Fn.func 84) #[] #[.pointer (some ⟨2, 0, none⟩)], topV, topV, topV, topV, topV, topV, topV, topV, topV, topV], [some ⟨.view, .ints (flat ps)⟩, some ⟨.box, .vals [.int .i64 (IntKind.i64.wrap (sgA ps i + IntKind.i64.wrap (IntKind.i64.wrap ((ps.getD i (0, 0)).1 * (ps.getD ((i + 1) % ps.length) (0, 0)).2) - IntKind.i64.wrap ((ps.getD i (0, 0)).2 * (ps.getD ((i + 1) % ps.length) (0, 0)).1))))]⟩, some ⟨.view, .vals [.slice (some ⟨0, 0, none⟩) (ps.length) (ps.length)]⟩]⟩ := by kernel_rfl
/-- A round of this loop. -/
def Round_sga (ps : List Pt) : Prop := ∀ i : Nat, g_sga ps i → i < (ps).length → (bodyR Try.prog EGa 30 12 noL noR (asgOf gc_sga) (bodOf gc_sga) ([8, 9].zip (encE ps i)) k_sga 3 (s_sga ps i)).ok (RoundEndR 3 (s_sga ps) (g_sga ps) (re_sga ps) (rs_sga ps) i) (fun _ _ => False)
set_option maxRecDepth 100000 in
theorem gcode_sga : gc_sga = .rangeFunc (.tmp 7) ([8, 9] : List Nat).toArray (asgOf gc_sga) (bodOf gc_sga) := by kernel_rfl
def e_sga (s : St) (k : Ex → St → Tree) : Option Tree := match Nat.beq s.tmps.length 18, pickL s.tmps [3, 7], s.mem with
  | true, [.pointer (some ⟨1, 0, none⟩), .func (.func 84) ⟨[]⟩ ⟨[.pointer (some ⟨2, 0, none⟩)]⟩], [some ⟨.view, .ints xs⟩, some ⟨.box, .vals [.int .i64 a0]⟩, some ⟨.box, .vals [.slice (some ⟨0, 0, none⟩) n _]⟩] => some (needs [a0 = 0, xs.length = n * 2, allV (ptsA n xs) = true, n ≤ 1000] (k .normal ⟨[topV, topV, topV, .pointer (some ⟨1, 0, none⟩), topV, topV, topV, topV, topV, topV, topV, topV, topV, topV, topV, topV, topV, topV], [some ⟨.view, .ints xs⟩, some ⟨.box, .vals [.int .i64 (sgA (ptsA n xs) n)]⟩, some ⟨.view, .vals [.slice (some ⟨0, 0, none⟩) n n]⟩]⟩))
  | _, _, _ => none
set_option maxRecDepth 100000 in
theorem round_sga (ps : List Pt) (hv : allV ps = true) (h : ps.length ≤ 1000) : Round_sga ps := by
  intro i hg hi
  rw [tr_sga]
  have hb := sgA_bd hv i (by omega)
  obtain ⟨b1, b2⟩ := sgP_bd hv hi
  unfold nxP at b1 b2
  simp (disch := omega) only [wr]
  refine ⟨by show i + 1 ≤ ps.length; omega, [], ?_⟩
  refine ⟨rfl, rfl, ?_, ?_⟩ <;> repeat' (first | exact True.intro | exact rfl | exact wv_top _ _ | exact fun _ => rfl | refine And.intro ?_ ?_)
set_option maxRecDepth 100000 in
theorem lg_sga : RangeE Try.prog e_sga gc_sga := by
  intro s k t F H hlt ht
  unfold e_sga at hlt
  split at hlt
  rotate_left
  · cases hlt
  rename_i hlen hpick hmem
  obtain ⟨tmps, mem⟩ := s
  simp only at hlen hpick hmem
  subst hmem
  obtain rfl := Option.some.inj hlt
  obtain ⟨⟨rfl, h1, h2, h3, _⟩, ht2⟩ := needs_ok ht
  clear ht hlt
  obtain ⟨ps, rfl, rfl⟩ := even_flat h1
  rw [ptsA_flat] at ht2 h2
  refine ⟨re_sga ps, rs_sga ps, ht2, ?_⟩
  rw [gcode_sga]
  refine range_det (enc := encE ps) (len := (ps).length) (St_of := s_sga ps) (Good := g_sga ps) (N := 3) (M := 3) (Kn := [0, 2]) (cap := [.pointer (some ⟨2, 0, none⟩)]) (kf := (k_sga .normal)) (π := []) (fun _ => rfl) (fun _ => rfl) (fun i hg hlt => bodyR_ok mixed EGa_ok (noL_good) (noR_good) (round_sga ps h2 h3 i hg hlt)) (entersB_res (by kernel_rfl)).1 rfl ?_ (fun ρ0 ρ B w lb h1 h2 => ed_iter ps (by omega) (s := (s_sga ps 0).fs) (nb := 2) (nr := 0) (c := (ps).length) (Kn := [0, 2]) rfl rfl (by decide) (by decide) ρ0 ρ B w lb h1 h2) ?_ rfl (by decide) ?_ (Nat.zero_le _)
  · intro n hn b hb
    simp only [List.mem_cons, List.not_mem_nil, or_false] at hn
    rcases hn with rfl | rfl <;> (obtain rfl := Option.some.inj hb; rfl)
  · exact fun _ => ⟨rfl, [], by refine ⟨rfl, rfl, ?_, ?_⟩ <;> repeat' (first | exact True.intro | exact rfl | exact wv_top _ _ | exact fun _ => rfl | refine And.intro ?_ ?_)⟩
  · refine ⟨rfl, rfl, ?_, wvs_spread' [3, 7] hlen rfl ?_⟩
    · repeat' (first | exact True.intro | exact rfl | exact wv_top _ _ | exact fun _ => rfl | assumption | exact Eq.symm (by assumption) | exact vI0 rfl | refine And.intro ?_ ?_)
    · rw [show pickL (viewS [0, 2] ⟨tmps, _⟩).tmps [3, 7] = pickL tmps [3, 7] from rfl, hpick]
      repeat' (first | exact True.intro | exact rfl | exact wv_top _ _ | exact fun _ => rfl | assumption | exact Eq.symm (by assumption) | exact vI0 rfl | refine And.intro ?_ ?_)
theorem Gr_sga {fn : Func} (hf : Try.prog.funcs[47]? = some fn) : RangesGood Try.prog (rt1 7 e_sga) (codeOf fn) := by
  obtain rfl := fn_is Try.func47 hf
  exact rt1_good (by kernel_rfl) lg_sga
def GSg : FuncId → RT := fun f => match f with
  | 47 => rt1 7 e_sga
  | _ => noR
def ESg : Env := withG (tabE B0) GSg
theorem ESg_ok : EnvOk Try.prog ESg := withG_ok (tabE_ok B0_ok) (by
  intro f fn hf
  unfold GSg
  split
  all_goals first | with_reducible exact Gr_sga hf | exact noR_good)
set_option maxRecDepth 100000 in
theorem tr_iSga (ps : List Pt) : bodyV Try.prog ESg 30 12 47 [.row ps.length (.ints (flat ps))] = .need ((0 : Int) = (0 : Int)) (.need ((flat ps).length = ps.length * (2 : Nat)) (.need (allV (ptsA ps.length (flat ps)) = true) (.need (ps.length ≤ (1000 : Nat)) (.fin (.int .i64 (sgA (ptsA ps.length (flat ps)) ps.length)) [])))) := by kernel_rfl
theorem res_iSga {ps : List Pt} (hv : allV ps = true) (h : ps.length ≤ 1000) : Res Try.prog 47 [.row ps.length (.ints (flat ps))] (iv (sgA ps ps.length)) := by
  refine bodyV_res mixed ESg_ok (m := 30) (n := 12) rfl ?_
  rw [tr_iSga]
  simp only [ptsA_flat]
  exact ⟨trivial, flat_length ps, hv, h, rfl⟩
def pSgb : List DArg → Option (Value × List Prop)
  | [.row m (.ints xs)] => some (iv (sgA (ptsA m xs) m), [m * 2 ≤ xs.length, allV (ptsA m xs) = true, m ≤ 1000])
  | _ => none
theorem pSgb_i {ds : List DArg} {v : Value} {C : List Prop} (h : pSgb ds = some (v, C)) (hC : AllP C) : Res Try.prog 47 ds v := by
  unfold pSgb at h
  split at h
  · rename_i m xs
    obtain ⟨rfl, rfl⟩ : _ ∧ _ := by simpa using h
    obtain ⟨_, h2⟩ := ptsA_spec hC.1
    have h7 := res_pts1 (pre := []) (post := []) hC.1 (res_iSga (ps := ptsA m xs) hC.2.1 (by rw [h2]; exact hC.2.2.1))
    rw [h2] at h7
    exact h7
  · cases h
def TSb : Tab := fun f ds => match f with
  | 47 => pSgb ds
  | _ => none
theorem TSb_ok : TabOk Try.prog TSb := by
  intro f ds v C h hC
  unfold TSb at h
  (try split at h)
  all_goals first | with_reducible exact pSgb_i h hC | with_reducible exact pSgb_s h hC | cases h
end Go.Proofs.Ytbfoheblcoakiaa
namespace Go.Proofs.Ytbfoheblcoakiaa
set_option linter.all false
open Go.RowKit
def crP (a b c : Pt) : Int := crossI a.1 a.2 b.1 b.2 c.1 c.2
/-- How many of so many points stay on the stack ahead of another one. -/
def popN (st : List Pt) (p : Pt) : Nat → Nat
  | 0 => 0
  | 1 => 1
  | j + 2 => if crP (st.getD j (0, 0)) (st.getD (j + 1) (0, 0)) p ≤ 0 then popN st p (j + 1) else j + 2
def pushP (st : List Pt) (p : Pt) : List Pt := st.take (popN st p st.length) ++ [p]
def chn (st ps : List Pt) : List Pt := ps.foldl pushP st
theorem popN_le (st : List Pt) (p : Pt) : ∀ j, popN st p j ≤ j
  | 0 => Nat.le_refl _
  | 1 => Nat.le_refl _
  | j + 2 => by
    have := popN_le st p (j + 1)
    simp only [popN]
    split <;> omega
theorem pushP_len (st : List Pt) (p : Pt) : (pushP st p).length ≤ st.length + 1 := by
  unfold pushP
  simp
  omega
theorem allV_at {ps : List Pt} (h : allV ps = true) {j : Nat} (hj : j < ps.length) : ptB (ps.getD j (0, 0)).1 (ps.getD j (0, 0)).2 = true := List.all_eq_true.1 h (ps.getD j (0, 0)) (by simp [hj])
theorem allV_push {st : List Pt} {p : Pt} (h : allV st = true) (hp : ptB p.1 p.2 = true) : allV (pushP st p) = true := by
  unfold pushP
  refine List.all_eq_true.2 fun z hz => ?_
  rcases List.mem_append.1 hz with hz | hz
  · exact List.all_eq_true.1 h z (List.mem_of_mem_take hz)
  · obtain rfl : z = p := by simpa using hz
    exact hp
theorem allV_chn : ∀ {ps st : List Pt}, allV st = true → allV ps = true → allV (chn st ps) = true
  | [], _, h, _ => h
  | p :: r, st, h, hp => by
    have h1 : ptB p.1 p.2 = true := List.all_eq_true.1 hp p List.mem_cons_self
    have h2 : allV r = true := List.all_eq_true.2 fun z hz => List.all_eq_true.1 hp z (List.mem_cons_of_mem _ hz)
    show allV (chn (pushP st p) r) = true
    exact allV_chn (allV_push h h1) h2
theorem chn_len : ∀ (ps st : List Pt), (chn st ps).length ≤ st.length + ps.length
  | [], st => Nat.le_refl _
  | p :: r, st => by
    have h1 := chn_len r (pushP st p)
    have h2 := pushP_len st p
    simp only [chn, List.foldl_cons, List.length_cons] at h1 ⊢
    omega
theorem pushP_len1 (st : List Pt) (p : Pt) : (pushP st p).length = popN st p st.length + 1 := by
  have := popN_le st p st.length
  unfold pushP
  simp
  omega
def revP (ps : List Pt) : List Pt := ps.reverse
theorem getD_rev {ps : List Pt} {k : Nat} (h : k < ps.length) : ps.reverse.getD k (0, 0) = ps.getD (ps.length - 1 - k) (0, 0) := by
  simp [List.getD, h, show ps.length - 1 - k < ps.length by omega]
theorem ext_getD {a b : List Pt} (hl : a.length = b.length) (h : ∀ k, k < a.length → a.getD k (0, 0) = b.getD k (0, 0)) : a = b := by
  refine List.ext_getElem hl fun k h1 h2 => ?_
  have := h k h1
  simpa [List.getD, h1, h2] using this
end Go.Proofs.Ytbfoheblcoakiaa
namespace Go.Proofs.Ytbfoheblcoakiaa
set_option linter.all false
open Go.RowKit
/-- The vertices of the hull of points in order. -/
def hulL (s : List Pt) : List Pt := if s.length < 3 then s else (chn [] s).take ((chn [] s).length - 1) ++ (chn [] (revP s)).take ((chn [] (revP s)).length - 1)
theorem chn_pos : ∀ {ps st : List Pt}, 0 < st.length ∨ 0 < ps.length → 0 < (chn st ps).length
  | [], st, h => by simpa [chn] using h
  | p :: r, st, _ => by
    have h1 := pushP_len1 st p
    have := chn_pos (ps := r) (st := pushP st p) (.inl (by omega))
    exact this
theorem allV_rev {ps : List Pt} (h : allV ps = true) : allV (revP ps) = true := List.all_eq_true.2 fun z hz => List.all_eq_true.1 h z (List.mem_reverse.1 hz)
theorem revP_len (ps : List Pt) : (revP ps).length = ps.length := List.length_reverse ..
theorem hul_two {s : List Pt} (h : s.length = 2) : (chn [] s).take ((chn [] s).length - 1) ++ (chn [] (revP s)).take ((chn [] (revP s)).length - 1) = s := by
  match s, h with
  | [a, b], _ => rfl
theorem popN_pos (st : List Pt) (p : Pt) : ∀ j, 1 ≤ j → 1 ≤ popN st p j
  | 0, h => by omega
  | 1, _ => Nat.le_refl _
  | j + 2, _ => by
    have := popN_pos st p (j + 1) (by omega)
    simp only [popN]
    split <;> omega
theorem chn_two : ∀ {ps st : List Pt}, 2 ≤ st.length ∨ (1 ≤ st.length ∧ 1 ≤ ps.length) → 2 ≤ (chn st ps).length
  | [], st, h => by
    show 2 ≤ st.length
    simpa using h
  | p :: r, st, h => by
    have h0 : 1 ≤ st.length := by omega
    have h1 := pushP_len1 st p
    have h2 := popN_pos st p st.length h0
    exact chn_two (ps := r) (st := pushP st p) (.inl (by omega))
theorem chn_ge {s : List Pt} (h : 2 ≤ s.length) : 2 ≤ (chn [] s).length := by
  match s, h with
  | a :: b :: r, _ => exact chn_two (ps := b :: r) (st := pushP [] a) (.inr ⟨by rw [pushP_len1]; exact Nat.le_add_left _ _, by simp⟩)
theorem hulL_len {s : List Pt} (h : s.length ≤ 20) : (hulL s).length ≤ 40 := by
  have c1 := chn_len s []
  have c2 := chn_len (revP s) []
  have r1 := revP_len s
  simp only [List.length_nil, Nat.zero_add] at c1 c2
  unfold hulL
  split
  · omega
  · simp only [List.length_append, List.length_take]
    omega
theorem allV_hul {s : List Pt} (h : allV s = true) : allV (hulL s) = true := by
  unfold hulL
  split
  · exact h
  · refine List.all_eq_true.2 fun z hz => ?_
    rcases List.mem_append.1 hz with hz | hz
    · exact List.all_eq_true.1 (allV_chn (ps := s) (st := []) rfl h) z (List.mem_of_mem_take hz)
    · exact List.all_eq_true.1 (allV_chn (ps := revP s) (st := []) rfl (allV_rev h)) z (List.mem_of_mem_take hz)
end Go.Proofs.Ytbfoheblcoakiaa
namespace Go.Proofs.Ytbfoheblcoakiaa
set_option linter.all false
open Go.RowKit
/-- A vector that leads on in the order of points. -/
def posV (u : Pt) : Prop := 0 < u.1 ∨ u.1 = 0 ∧ 0 < u.2
def cr2 (u v : Pt) : Int := u.1 * v.2 - u.2 * v.1
def dif (b a : Pt) : Pt := (b.1 - a.1, b.2 - a.2)
theorem cr_tr {u v w : Pt} (hu : posV u) (hv : posV v) (hw : posV w) (h1 : 0 ≤ cr2 u v) (h2 : 0 ≤ cr2 v w) : 0 ≤ cr2 u w ∧ (0 < cr2 u v ∨ 0 < cr2 v w → 0 < cr2 u w) := by
  obtain ⟨a, b⟩ := u
  obtain ⟨c, d⟩ := v
  obtain ⟨e, f⟩ := w
  unfold posV cr2 at *
  simp only at *
  rcases hv with hc | ⟨rfl, hd⟩
  · have ha : 0 < a := by
      rcases hu with h | ⟨rfl, hb⟩
      · exact h
      · have := Int.mul_pos hb hc
        omega
    rcases hw with he | ⟨rfl, hf⟩
    · have id : c * (a * f - b * e) = a * (c * f - d * e) + e * (a * d - b * c) := by grind
      have n1 := Int.mul_nonneg (Int.le_of_lt ha) h2
      have n2 := Int.mul_nonneg (Int.le_of_lt he) h1
      generalize a * f - b * e = X at *
      refine ⟨?_, fun h => ?_⟩
      · rcases Int.lt_or_le X 0 with h | h
        · have := Int.mul_neg_of_pos_of_neg hc h
          omega
        · exact h
      · rcases Int.lt_or_le 0 X with h' | h'
        · exact h'
        · have := Int.mul_nonpos_of_nonneg_of_nonpos (Int.le_of_lt hc) h'
          rcases h with h | h
          · have := Int.mul_pos he h
            omega
          · have := Int.mul_pos ha h
            omega
    · have := Int.mul_pos ha hf
      omega
  · have he : e = 0 ∧ 0 < f := by
      rcases hw with h | h
      · have := Int.mul_pos hd h
        omega
      · exact h
    obtain ⟨rfl, hf⟩ := he
    have ha : 0 ≤ a := by omega
    have n1 := Int.mul_nonneg ha (Int.le_of_lt hf)
    refine ⟨by omega, fun h => ?_⟩
    have : 0 < a := by
      rcases Int.lt_or_le 0 a with h' | h'
      · exact h'
      · obtain rfl : a = 0 := by omega
        omega
    have := Int.mul_pos this hf
    omega
theorem plt_pos {a b : Pt} : pltB a b = true ↔ posV (dif b a) := by
  rw [pltB_iff]
  unfold posV dif
  simp only
  omega
theorem oP_tri (a b : Pt) : a = b ∨ pltB a b = true ∨ pltB b a = true := by
  obtain ⟨a1, a2⟩ := a
  obtain ⟨b1, b2⟩ := b
  simp only [pltB_iff, Prod.mk.injEq]
  omega
theorem oP_trans {a b c : Pt} (h1 : pltB a b = true) (h2 : pltB b c = true) : pltB a c = true := by
  rw [pltB_iff] at *
  omega
theorem oP_irr {a : Pt} (h : pltB a a = true) : False := by
  rw [pltB_iff] at h
  omega
theorem oP_asym {a b : Pt} (h1 : pltB a b = true) (h2 : pltB b a = true) : False := oP_irr (oP_trans h1 h2)
theorem crP_bb (a b : Pt) : crP a b b = 0 := by unfold crP crossI; grind
theorem crP_ba (a b : Pt) : crP a b a = 0 := by unfold crP crossI; grind
theorem ch_tr1 {a b p q : Pt} (h1 : pltB a b = true) (h2 : pltB a p = true) (h3 : pltB a q = true) (h4 : 0 ≤ crP a b q) (h5 : crP a b p ≤ 0) : 0 ≤ crP a p q := by
  have := cr_tr (plt_pos.1 h2) (plt_pos.1 h1) (plt_pos.1 h3) (by unfold cr2 dif; unfold crP crossI at h5; simp only; grind) h4
  exact this.1
theorem ch_tr2 {a b p q : Pt} (h1 : pltB q b = true) (h2 : pltB a b = true) (h3 : pltB b p = true) (h4 : 0 ≤ crP a b q) (h5 : 0 ≤ crP a b p) : 0 ≤ crP b p q := by
  have := cr_tr (plt_pos.1 h1) (plt_pos.1 h2) (plt_pos.1 h3) (by unfold cr2 dif; unfold crP crossI at h4; simp only; grind) (by unfold cr2 dif; unfold crP crossI at h5; simp only; grind)
  have h := this.1
  unfold cr2 dif at h
  unfold crP crossI
  simp only at h
  grind
theorem ch_tr3 {a' a b p : Pt} (h1 : pltB a' a = true) (h2 : pltB a b = true) (h3 : pltB b p = true) (h4 : 0 < crP a' a b) (h5 : 0 < crP a b p) : 0 < crP a' a p := by
  have k4 : 0 < cr2 (dif a a') (dif b a) := by unfold cr2 dif; unfold crP crossI at h4; simp only; grind
  have k5 : 0 < cr2 (dif b a) (dif p b) := by unfold cr2 dif; unfold crP crossI at h5; simp only; grind
  have := (cr_tr (plt_pos.1 h1) (plt_pos.1 h2) (plt_pos.1 h3) (Int.le_of_lt k4) (Int.le_of_lt k5)).2 (.inl k4)
  have e : crP a' a p = cr2 (dif a a') (dif b a) + cr2 (dif a a') (dif p b) := by unfold crP crossI cr2 dif; simp only; grind
  omega
/-- A point put on a stack, whose top is its head. -/
def pushR : List Pt → Pt → List Pt
  | b :: a :: r, p => if crP a b p ≤ 0 then pushR (a :: r) p else p :: b :: a :: r
  | [b], p => [p, b]
  | [], p => [p]
theorem take_rev {st : List Pt} {j : Nat} (h : j < st.length) : (st.take (j + 1)).reverse = st.getD j (0, 0) :: (st.take j).reverse := by
  rw [← List.take_append_getElem h]
  simp [h]
theorem pushP_aux (st : List Pt) (p : Pt) : ∀ j, j ≤ st.length → (st.take (popN st p j) ++ [p]).reverse = pushR (st.take j).reverse p
  | 0, _ => by simp [popN, pushR]
  | 1, h => by
    match st, h with
    | x :: t, _ => simp [popN, pushR]
  | j + 2, h => by
    have ih := pushP_aux st p (j + 1) (by omega)
    rw [take_rev (j := j + 1) (by omega)]
    rw [take_rev (j := j) (by omega)] at ih ⊢
    simp only [popN, pushR]
    split
    · exact ih
    · rw [List.reverse_append, take_rev (j := j + 1) (by omega), take_rev (j := j) (by omega)]
      rfl
theorem pushP_rev (st : List Pt) (p : Pt) : (pushP st p).reverse = pushR st.reverse p := by
  have := pushP_aux st p st.length (Nat.le_refl _)
  rw [List.take_length] at this
  exact this
/-- The stack of a chain, its top first. -/
def chnR (R ps : List Pt) : List Pt := ps.foldl pushR R
theorem chn_rev : ∀ (ps st : List Pt), (chn st ps).reverse = chnR st.reverse ps
  | [], _ => rfl
  | p :: r, st => by
    have := chn_rev r (pushP st p)
    rw [pushP_rev] at this
    exact this
def Dsc (R : List Pt) : Prop := R.Pairwise fun a b => pltB b a = true
def Cvx : List Pt → Prop
  | c :: b :: a :: r => 0 < crP a b c ∧ Cvx (b :: a :: r)
  | _ => True
def Lft (S : Pt → Prop) : List Pt → Prop
  | b :: a :: r => (∀ q, S q → 0 ≤ crP a b q) ∧ Lft S (a :: r)
  | _ => True
def Bot (S : Pt → Prop) (R : List Pt) : Prop := ∃ m, R.getLast? = some m ∧ ∀ q, S q → q = m ∨ pltB m q = true
def Top (S : Pt → Prop) (R : List Pt) : Prop := ∃ m, R.head? = some m ∧ ∀ q, S q → q = m ∨ pltB q m = true
/-- The chain of a set of points. -/
structure ChI (S : Pt → Prop) (R : List Pt) : Prop where
  mem : ∀ z ∈ R, S z
  dsc : Dsc R
  cvx : Cvx R
  lft : Lft S R
  bot : Bot S R
  top : Top S R
theorem Cvx.tail {b : Pt} {R : List Pt} (h : Cvx (b :: R)) : Cvx R := by
  match R, h with
  | [], _ => trivial
  | [_], _ => trivial
  | _ :: _ :: _, h => exact h.2
theorem Lft.tail {S : Pt → Prop} {b : Pt} {R : List Pt} (h : Lft S (b :: R)) : Lft S R := by
  match R, h with
  | [], _ => trivial
  | _ :: _, h => exact h.2
theorem Dsc.tail {b : Pt} {R : List Pt} (h : Dsc (b :: R)) : Dsc R := (List.pairwise_cons.1 h).2
theorem Dsc.lt {b a : Pt} {R : List Pt} (h : Dsc (b :: R)) (ha : a ∈ R) : pltB a b = true := (List.pairwise_cons.1 h).1 a ha
def adS (S : Pt → Prop) (p : Pt) : Pt → Prop := fun q => S q ∨ q = p
/-- What turns left stays left of a further point. -/
theorem lft_add {S : Pt → Prop} {p : Pt} : ∀ {r : List Pt} {b a : Pt}, Dsc (b :: a :: r) → Cvx (b :: a :: r) → Lft S (b :: a :: r) → pltB b p = true → 0 < crP a b p → Lft (adS S p) (b :: a :: r)
  | [], b, a, hd, hc, hl, hp, h => ⟨fun q hq => by
      rcases hq with hq | rfl
      · exact hl.1 q hq
      · exact Int.le_of_lt h, trivial⟩
  | a' :: r, b, a, hd, hc, hl, hp, h => by
    have h1 : pltB a b = true := hd.lt (by simp)
    have h2 : pltB a' a = true := hd.tail.lt (by simp)
    refine ⟨fun q hq => ?_, lft_add hd.tail hc.tail hl.2 (oP_trans h1 hp) (ch_tr3 h2 h1 hp hc.1 h)⟩
    rcases hq with hq | rfl
    · exact hl.1 q hq
    · exact Int.le_of_lt h
/-- A further point put on the stack. -/
theorem push_ok {S : Pt → Prop} {p : Pt} : ∀ {r : List Pt} {b : Pt}, (∀ z ∈ b :: r, S z) → Dsc (b :: r) → Cvx (b :: r) → Lft S (b :: r) → Bot S (b :: r) → (∀ q, S q → pltB q p = true) → (∀ q, S q → pltB b q = true → 0 ≤ crP b p q) → ChI (adS S p) (pushR (b :: r) p)
  | [], b, hm, hd, hc, hl, hb, hp, hK => by
    obtain ⟨m, h1, h2⟩ := hb
    obtain rfl : b = m := by simpa using h1
    have hbp := hp b (hm b (by simp))
    refine ⟨fun z hz => ?_, ?_, trivial, ⟨fun q hq => ?_, trivial⟩, ⟨b, rfl, fun q hq => ?_⟩, ⟨p, rfl, fun q hq => ?_⟩⟩
    · have hz : z = p ∨ z = b := by simpa [pushR] using hz
      rcases hz with rfl | rfl
      · exact .inr rfl
      · exact .inl (hm _ (by simp))
    · show List.Pairwise _ [p, b]
      simpa using hbp
    · rcases hq with hq | rfl
      · rcases h2 q hq with rfl | h
        · rw [crP_ba]; exact Int.le_refl _
        · exact hK q hq h
      · rw [crP_bb]; exact Int.le_refl _
    · rcases hq with hq | rfl
      · exact h2 q hq
      · exact .inr hbp
    · rcases hq with hq | rfl
      · exact .inr (hp q hq)
      · exact .inl rfl
  | a :: r, b, hm, hd, hc, hl, hb, hp, hK => by
    have hab : pltB a b = true := hd.lt (by simp)
    have hap := hp a (hm a (by simp))
    have hbp := hp b (hm b (by simp))
    have hb' : Bot S (a :: r) := by
      obtain ⟨m, h1, h2⟩ := hb
      exact ⟨m, by rw [List.getLast?_cons_cons] at h1; exact h1, h2⟩
    unfold pushR
    split
    · rename_i hle
      exact push_ok (fun z hz => hm z (List.mem_cons_of_mem _ hz)) hd.tail hc.tail hl.2 hb' hp fun q hq h => ch_tr1 hab hap h (hl.1 q hq) hle
    · rename_i hgt
      have hgt : 0 < crP a b p := by omega
      refine ⟨fun z hz => ?_, ?_, ⟨hgt, hc⟩, ⟨fun q hq => ?_, lft_add hd hc hl hbp hgt⟩, ?_, ⟨p, rfl, fun q hq => ?_⟩⟩
      · rcases List.mem_cons.1 hz with rfl | hz
        · exact .inr rfl
        · exact .inl (hm _ hz)
      · exact List.pairwise_cons.2 ⟨fun z hz => hp z (hm z hz), hd⟩
      · rcases hq with hq | rfl
        · rcases oP_tri b q with rfl | h | h
          · rw [crP_ba]; exact Int.le_refl _
          · exact hK q hq h
          · exact ch_tr2 h hab hbp (hl.1 q hq) (Int.le_of_lt hgt)
        · rw [crP_bb]; exact Int.le_refl _
      · obtain ⟨m, h1, h2⟩ := hb
        refine ⟨m, by rw [List.getLast?_cons_cons]; exact h1, fun q hq => ?_⟩
        rcases hq with hq | rfl
        · exact h2 q hq
        · have hm' : m ∈ b :: a :: r := List.mem_of_getLast? h1
          exact .inr (hp m (hm m hm'))
      · rcases hq with hq | rfl
        · exact .inr (hp q hq)
        · exact .inl rfl
theorem ChI.ext {S T : Pt → Prop} {R : List Pt} (h : ChI S R) (e : ∀ q, S q ↔ T q) : ChI T R := by
  have : S = T := funext fun q => propext (e q)
  rw [← this]
  exact h
theorem chnR_ok : ∀ {ps : List Pt} {S : Pt → Prop} {R : List Pt}, ChI S R → Asc ps → (∀ q, S q → ∀ p ∈ ps, pltB q p = true) → ChI (fun q => S q ∨ q ∈ ps) (chnR R ps)
  | [], S, R, h, _, _ => h.ext fun q => by simp
  | p :: r, S, R, h, ha, hS => by
    have ha' := List.pairwise_cons.1 ha
    have hp : ChI (adS S p) (pushR R p) := by
      match R, h with
      | [], h => obtain ⟨m, h1, _⟩ := h.top; cases h1
      | b :: t, h =>
        refine push_ok h.mem h.dsc h.cvx h.lft h.bot (fun q hq => hS q hq p (by simp)) fun q hq hbq => ?_
        obtain ⟨m, h1, h2⟩ := h.top
        obtain rfl : b = m := by simpa using h1
        rcases h2 q hq with rfl | h3
        · exact (oP_irr hbq).elim
        · exact (oP_asym hbq h3).elim
    have := chnR_ok hp ha'.2 fun q hq z hz => by
      rcases hq with hq | rfl
      · exact hS q hq z (List.mem_cons_of_mem _ hz)
      · exact ha'.1 z hz
    refine this.ext fun q => ?_
    unfold adS
    simp only [List.mem_cons]
    constructor
    · rintro ((h | h) | h)
      · exact .inl h
      · exact .inr (.inl h)
      · exact .inr (.inr h)
    · rintro (h | h | h)
      · exact .inl (.inl h)
      · exact .inl (.inr h)
      · exact .inr h
/-- The chain of points in order. -/
theorem chain_ok {ps : List Pt} (h : Asc ps) (h0 : ps ≠ []) : ChI (fun q => q ∈ ps) (chnR [] ps) := by
  match ps, h, h0 with
  | p :: r, h, _ =>
    have ha' := List.pairwise_cons.1 h
    have h1 : ChI (fun q => q = p) [p] := ⟨fun z hz => by simpa using hz, by unfold Dsc; simp, trivial, trivial, ⟨p, rfl, fun q hq => .inl hq⟩, ⟨p, rfl, fun q hq => .inl hq⟩⟩
    have := chnR_ok h1 ha'.2 fun q hq z hz => by rw [show q = p from hq]; exact ha'.1 z hz
    exact this.ext fun q => by simp
/-- The last of a chain, the least of all. -/
theorem ChI.tail {S : Pt → Prop} {b a : Pt} {R : List Pt} (h : ChI S (b :: a :: R)) : (∀ z ∈ a :: R, S z) ∧ Dsc (a :: R) ∧ Cvx (a :: R) ∧ Lft S (a :: R) ∧ Bot S (a :: R) := by
  refine ⟨fun z hz => h.mem z (List.mem_cons_of_mem _ hz), h.dsc.tail, h.cvx.tail, h.lft.tail, ?_⟩
  obtain ⟨m, h1, h2⟩ := h.bot
  exact ⟨m, by rw [List.getLast?_cons_cons] at h1; exact h1, h2⟩
/-- Two chains with the same top: the next is the same. -/
theorem next_le {S : Pt → Prop} {b a a' : Pt} {r' : List Pt} (ha : S a) (hd : pltB a b = true) (hl : ∀ q, S q → 0 ≤ crP a b q) (hm' : ∀ z ∈ b :: a' :: r', S z) (hd' : Dsc (b :: a' :: r')) (hc' : Cvx (b :: a' :: r')) (hl' : Lft S (b :: a' :: r')) (hb' : Bot S (b :: a' :: r')) : ¬ pltB a a' = true := by
  intro hlt
  have hab' : pltB a' b = true := hd'.lt (by simp)
  have k1 := hl a' (hm' a' (by simp))
  have k2 := hl'.1 a ha
  have e1 : crP a b a' = cr2 (dif b a') (dif a' a) := by unfold crP crossI cr2 dif; simp only; grind
  have e2 : crP a' b a = -cr2 (dif b a') (dif a' a) := by unfold crP crossI cr2 dif; simp only; grind
  match r', hm', hd', hc', hl', hb' with
  | [], hm', hd', hc', hl', hb' =>
    obtain ⟨m, h1, h2⟩ := hb'
    obtain rfl : a' = m := by simpa using h1
    rcases h2 a ha with rfl | h
    · exact oP_irr hlt
    · exact oP_asym hlt h
  | c :: t, hm', hd', hc', hl', hb' =>
    have hca : pltB c a' = true := hd'.tail.lt (by simp)
    have k3 := hc'.1
    have k4 := hl'.2.1 a ha
    have e3 : crP c a' b = cr2 (dif a' c) (dif b a') := by unfold crP crossI cr2 dif; simp only; grind
    have e4 : crP c a' a = cr2 (dif a' a) (dif a' c) := by unfold crP crossI cr2 dif; simp only; grind
    have := (cr_tr (plt_pos.1 hlt) (plt_pos.1 hca) (plt_pos.1 hab') (by omega) (by omega)).2 (.inr (by omega))
    have e5 : cr2 (dif b a') (dif a' a) = -cr2 (dif a' a) (dif b a') := by unfold cr2 dif; simp only; grind
    omega
theorem chain_eq {S : Pt → Prop} : ∀ {r r' : List Pt} {b : Pt}, (∀ z ∈ b :: r, S z) → Dsc (b :: r) → Cvx (b :: r) → Lft S (b :: r) → Bot S (b :: r) → (∀ z ∈ b :: r', S z) → Dsc (b :: r') → Cvx (b :: r') → Lft S (b :: r') → Bot S (b :: r') → r = r'
  | [], [], _, _, _, _, _, _, _, _, _, _, _ => rfl
  | [], a' :: r', b, hm, hd, hc, hl, hb, hm', hd', hc', hl', hb' => by
    obtain ⟨m, h1, h2⟩ := hb
    obtain rfl : b = m := by simpa using h1
    have h3 : pltB a' b = true := hd'.lt (by simp)
    rcases h2 a' (hm' a' (by simp)) with rfl | h
    · exact (oP_irr h3).elim
    · exact (oP_asym h3 h).elim
  | a :: r, [], b, hm, hd, hc, hl, hb, hm', hd', hc', hl', hb' => by
    obtain ⟨m, h1, h2⟩ := hb'
    obtain rfl : b = m := by simpa using h1
    have h3 : pltB a b = true := hd.lt (by simp)
    rcases h2 a (hm a (by simp)) with rfl | h
    · exact (oP_irr h3).elim
    · exact (oP_asym h3 h).elim
  | a :: r, a' :: r', b, hm, hd, hc, hl, hb, hm', hd', hc', hl', hb' => by
    have h1 := next_le (hm a (by simp)) (hd.lt (by simp)) hl.1 hm' hd' hc' hl' hb'
    have h2 := next_le (hm' a' (by simp)) (hd'.lt (by simp)) hl'.1 hm hd hc hl hb
    have e : a = a' := by
      rcases oP_tri a a' with h | h | h
      · exact h
      · exact absurd h h1
      · exact absurd h h2
    subst e
    have bt : ∀ {t : List Pt}, Bot S (b :: a :: t) → Bot S (a :: t) := fun {t} h => by
      obtain ⟨m, q1, q2⟩ := h
      exact ⟨m, by rw [List.getLast?_cons_cons] at q1; exact q1, q2⟩
    rw [chain_eq (fun z hz => hm z (List.mem_cons_of_mem _ hz)) hd.tail hc.tail hl.2 (bt hb) (fun z hz => hm' z (List.mem_cons_of_mem _ hz)) hd'.tail hc'.tail hl'.2 (bt hb')]
/-- A chain of a set is the only one. -/
theorem ChI.uniq {S : Pt → Prop} {R R' : List Pt} (h : ChI S R) (h' : ChI S R') : R = R' := by
  obtain ⟨m, h1, h2⟩ := h.top
  obtain ⟨m', h1', h2'⟩ := h'.top
  match R, R', h, h', h1, h1' with
  | b :: r, b' :: r', h, h', h1, h1' =>
    obtain rfl : b = m := by simpa using h1
    obtain rfl : b' = m' := by simpa using h1'
    have e : b = b' := by
      rcases h2 b' (h'.mem b' (by simp)) with e | e
      · exact e.symm
      · rcases h2' b (h.mem b (by simp)) with e' | e'
        · exact e'
        · exact (oP_asym e e').elim
    subst e
    rw [chain_eq h.mem h.dsc h.cvx h.lft h.bot h'.mem h'.dsc h'.cvx h'.lft h'.bot]
end Go.Proofs.Ytbfoheblcoakiaa
namespace Go.Proofs.Ytbfoheblcoakiaa
set_option linter.all false
open Go.RowKit
def ngP (p : Pt) : Pt := (-p.1, -p.2)
def ngL (ps : List Pt) : List Pt := ps.map ngP
theorem ngP_ng (p : Pt) : ngP (ngP p) = p := by
  unfold ngP
  simp
theorem ngL_ng (ps : List Pt) : ngL (ngL ps) = ps := by
  unfold ngL
  rw [List.map_map]
  conv => rhs; rw [← List.map_id ps]
  refine List.map_congr_left fun p _ => ngP_ng p
theorem crP_ng (a b c : Pt) : crP (ngP a) (ngP b) (ngP c) = crP a b c := by unfold crP crossI ngP; simp only; grind
theorem plt_ng (a b : Pt) : pltB (ngP a) (ngP b) = pltB b a := by
  rw [Bool.eq_iff_iff, pltB_iff, pltB_iff]
  unfold ngP
  simp only
  omega
theorem pushR_ng : ∀ (R : List Pt) (p : Pt), pushR (ngL R) (ngP p) = ngL (pushR R p)
  | [], _ => rfl
  | [_], _ => rfl
  | b :: a :: r, p => by
    have ih := pushR_ng (a :: r) p
    show (if crP (ngP a) (ngP b) (ngP p) ≤ 0 then pushR (ngP a :: ngL r) (ngP p) else ngP p :: ngP b :: ngP a :: ngL r) = ngL (if crP a b p ≤ 0 then pushR (a :: r) p else p :: b :: a :: r)
    rw [crP_ng]
    split
    · exact ih
    · rfl
theorem chnR_ng : ∀ (ps R : List Pt), chnR (ngL R) (ngL ps) = ngL (chnR R ps)
  | [], _ => rfl
  | p :: r, R => by
    have := chnR_ng r (pushR R p)
    rw [← pushR_ng] at this
    exact this
theorem mem_ngL {ps : List Pt} {q : Pt} : q ∈ ngL ps ↔ ngP q ∈ ps := by
  unfold ngL
  rw [List.mem_map]
  constructor
  · rintro ⟨z, hz, rfl⟩
    rw [ngP_ng]
    exact hz
  · intro h
    exact ⟨_, h, ngP_ng q⟩
theorem asc_ng {s : List Pt} (h : Asc s) : Asc (ngL s.reverse) := by
  unfold Asc ngL
  rw [List.pairwise_map, List.pairwise_reverse]
  exact h.imp fun {a b} hab => by rw [plt_ng]; exact hab
/-- The lower and the upper half of the hull, the last point first. -/
def lowR (s : List Pt) : List Pt := chnR [] s
def uppR (s : List Pt) : List Pt := chnR [] s.reverse
theorem low_ok {s : List Pt} (h : Asc s) (h0 : s ≠ []) : ChI (fun q => q ∈ s) (lowR s) := chain_ok h h0
theorem upp_ok {s : List Pt} (h : Asc s) (h0 : s ≠ []) : ChI (fun q => ngP q ∈ s) (ngL (uppR s)) := by
  have h1 := chain_ok (asc_ng h) (by unfold ngL; simpa using h0)
  have e : ngL (uppR s) = chnR [] (ngL s.reverse) := by
    unfold uppR
    rw [← chnR_ng]
    rfl
  rw [e]
  exact h1.ext fun q => by rw [mem_ngL, List.mem_reverse]
/-- Places of a list, the last one first. -/
theorem cvx_at : ∀ {R : List Pt}, Cvx R → ∀ k, k + 2 < R.length → 0 < crP (R.getD (k + 2) (0, 0)) (R.getD (k + 1) (0, 0)) (R.getD k (0, 0))
  | [], _, k, h => by simp at h
  | [_], _, k, h => by simp at h
  | [_, _], _, k, h => absurd h (by simp only [List.length_cons, List.length_nil]; omega)
  | c :: b :: a :: r, hc, 0, _ => hc.1
  | c :: b :: a :: r, hc, k + 1, h => by
    have := cvx_at hc.2 k (by simpa using h)
    simpa using this
theorem lft_at {S : Pt → Prop} : ∀ {R : List Pt}, Lft S R → ∀ k, k + 1 < R.length → ∀ q, S q → 0 ≤ crP (R.getD (k + 1) (0, 0)) (R.getD k (0, 0)) q
  | [], _, k, h => by simp at h
  | [_], _, k, h => by simp at h
  | b :: a :: r, hl, 0, _ => hl.1
  | b :: a :: r, hl, k + 1, h => by
    have := lft_at hl.2 k (by simpa using h)
    simpa using this
theorem dsc_at {R : List Pt} (h : Dsc R) {i j : Nat} (hij : i < j) (hj : j < R.length) : pltB (R.getD j (0, 0)) (R.getD i (0, 0)) = true := by
  have := List.pairwise_iff_getElem.1 h i j (by omega) hj hij
  simpa [hj, show i < R.length by omega] using this
theorem getD_mem' {R : List Pt} {k : Nat} (h : k < R.length) : R.getD k (0, 0) ∈ R := by simp [h]
end Go.Proofs.Ytbfoheblcoakiaa
namespace Go.Proofs.Ytbfoheblcoakiaa
set_option linter.all false
open Go.RowKit
theorem getD_append (a b : List Pt) (k : Nat) : (a ++ b).getD k (0, 0) = if k < a.length then a.getD k (0, 0) else b.getD (k - a.length) (0, 0) := by
  simp only [List.getD, List.getElem?_append]
  split <;> rfl
theorem getD_take' (a : List Pt) {k m : Nat} (h : k < m) : (a.take m).getD k (0, 0) = a.getD k (0, 0) := by
  simp [List.getD, h]
theorem low_at (s : List Pt) {k : Nat} (h : k < (lowR s).length) : (chn [] s).getD k (0, 0) = (lowR s).getD ((lowR s).length - 1 - k) (0, 0) := by
  have e := chn_rev s []
  have e' : (lowR s) = (chn [] s).reverse := e.symm
  rw [e'] at h ⊢
  rw [getD_rev (by simp at h ⊢; omega)]
  congr 1
  simp at h ⊢
  omega
theorem upp_at (s : List Pt) {k : Nat} (h : k < (uppR s).length) : (chn [] (revP s)).getD k (0, 0) = (uppR s).getD ((uppR s).length - 1 - k) (0, 0) := low_at (revP s) h
theorem low_len (s : List Pt) : (lowR s).length = (chn [] s).length := by
  have e : (lowR s) = (chn [] s).reverse := (chn_rev s []).symm
  rw [e, List.length_reverse]
theorem upp_len (s : List Pt) : (uppR s).length = (chn [] (revP s)).length := low_len (revP s)
theorem head_at {R : List Pt} {m : Pt} (h : R.head? = some m) : R.getD 0 (0, 0) = m := by
  match R, h with
  | _ :: _, h => simpa using h
theorem last_at {R : List Pt} {m : Pt} (h : R.getLast? = some m) : R.getD (R.length - 1) (0, 0) = m := by
  rw [List.getLast?_eq_getElem?] at h
  simp [List.getD, h]
theorem ngL_len (R : List Pt) : (ngL R).length = R.length := by unfold ngL; simp
theorem ngL_at {R : List Pt} {i : Nat} (hi : i < R.length) : (ngL R).getD i (0, 0) = ngP (R.getD i (0, 0)) := by unfold ngL; simp [hi]
theorem top_uniq {S : Pt → Prop} {a b : Pt} (ha : S a) (hb : S b) (h1 : ∀ q, S q → q = a ∨ pltB q a = true) (h2 : ∀ q, S q → q = b ∨ pltB q b = true) : a = b := by
  rcases h1 b hb with e | e
  · exact e.symm
  · rcases h2 a ha with e' | e'
    · exact e'
    · exact (oP_asym e e').elim
/-- The ends of both halves: the greatest and the least point. -/
theorem hul_ends {s : List Pt} (h : Asc s) (h0 : s ≠ []) :
    0 < (lowR s).length ∧ 0 < (uppR s).length ∧ (lowR s).getD 0 (0, 0) = (uppR s).getD ((uppR s).length - 1) (0, 0) ∧ (uppR s).getD 0 (0, 0) = (lowR s).getD ((lowR s).length - 1) (0, 0) ∧
    (∀ q ∈ s, q = (lowR s).getD 0 (0, 0) ∨ pltB q ((lowR s).getD 0 (0, 0)) = true) ∧ (∀ q ∈ s, q = (uppR s).getD 0 (0, 0) ∨ pltB ((uppR s).getD 0 (0, 0)) q = true) := by
  have L := low_ok h h0
  have U := upp_ok h h0
  obtain ⟨m, m1, m2⟩ := L.top
  obtain ⟨n, n1, n2⟩ := L.bot
  obtain ⟨p, p1, p2⟩ := U.top
  obtain ⟨q, q1, q2⟩ := U.bot
  have l1 : 0 < (lowR s).length := by
    rcases Nat.eq_zero_or_pos (lowR s).length with e | e
    · rw [List.eq_nil_of_length_eq_zero e] at m1; cases m1
    · exact e
  have l2 : 0 < (uppR s).length := by
    rcases Nat.eq_zero_or_pos (uppR s).length with e | e
    · rw [List.eq_nil_of_length_eq_zero e] at p1; cases p1
    · exact e
  have e1 := head_at m1
  have e2 := last_at n1
  have e3 := head_at p1
  have e4 := last_at q1
  rw [ngL_at l2] at e3
  rw [ngL_len, ngL_at (by omega)] at e4
  have mm : ∀ {k}, k < (lowR s).length → (lowR s).getD k (0, 0) ∈ s := fun hk => L.mem _ (getD_mem' hk)
  have mu : ∀ {k}, k < (uppR s).length → (uppR s).getD k (0, 0) ∈ s := fun hk => by
    have := U.mem _ (mem_ngL.2 (by rw [ngP_ng]; exact getD_mem' hk) : ngP _ ∈ ngL (uppR s))
    rw [ngP_ng] at this
    exact this
  have k1 : ∀ q ∈ s, q = (lowR s).getD 0 (0, 0) ∨ pltB q ((lowR s).getD 0 (0, 0)) = true := fun x hx => by rw [e1]; exact m2 x hx
  have k2 : ∀ q ∈ s, q = (uppR s).getD 0 (0, 0) ∨ pltB ((uppR s).getD 0 (0, 0)) q = true := fun x hx => by
    have := p2 (ngP x) (by show ngP (ngP x) ∈ s; rw [ngP_ng]; exact hx)
    rw [← e3, plt_ng] at this
    rcases this with e | e
    · have := congrArg ngP e
      rw [ngP_ng, ngP_ng] at this
      exact .inl this
    · exact .inr e
  have k3 : ∀ q ∈ s, q = (uppR s).getD ((uppR s).length - 1) (0, 0) ∨ pltB q ((uppR s).getD ((uppR s).length - 1) (0, 0)) = true := fun x hx => by
    have := q2 (ngP x) (by show ngP (ngP x) ∈ s; rw [ngP_ng]; exact hx)
    rw [← e4, plt_ng] at this
    rcases this with e | e
    · have := congrArg ngP e
      rw [ngP_ng, ngP_ng] at this
      exact .inl this
    · exact .inr e
  refine ⟨l1, l2, top_uniq (S := fun q => q ∈ s) (mm l1) (mu (by omega)) k1 k3, ?_, k1, k2⟩
  rw [e2]
  have hn : n ∈ s := by rw [← e2]; exact mm (by omega)
  rcases k2 n hn with e | e
  · exact e.symm
  · rcases n2 _ (mu l2) with e' | e'
    · exact e'
    · exact (oP_asym e e').elim
theorem mem_hul {s : List Pt} (h3 : 3 ≤ s.length) {v : Pt} (hv : v ∈ hulL s) : v ∈ lowR s ∨ v ∈ uppR s := by
  have eH : hulL s = (chn [] s).take ((chn [] s).length - 1) ++ (chn [] (revP s)).take ((chn [] (revP s)).length - 1) := by unfold hulL; rw [if_neg (by omega)]
  have e1 : (lowR s) = (chn [] s).reverse := (chn_rev s []).symm
  have e2 : (uppR s) = (chn [] (revP s)).reverse := (chn_rev (revP s) []).symm
  rw [eH] at hv
  rcases List.mem_append.1 hv with hv | hv
  · left
    rw [e1, List.mem_reverse]
    exact List.mem_of_mem_take hv
  · right
    rw [e2, List.mem_reverse]
    exact List.mem_of_mem_take hv
theorem low_in {s : List Pt} (h : Asc s) (h0 : s ≠ []) {v : Pt} (hv : v ∈ lowR s) : v ∈ s := (low_ok h h0).mem v hv
theorem upp_in {s : List Pt} (h : Asc s) (h0 : s ≠ []) {v : Pt} (hv : v ∈ uppR s) : v ∈ s := by
  have := (upp_ok h h0).mem _ (mem_ngL.2 (by rw [ngP_ng]; exact hv) : ngP v ∈ ngL (uppR s))
  rw [ngP_ng] at this
  exact this
theorem hul_in {s : List Pt} (h : Asc s) {v : Pt} (hv : v ∈ hulL s) : v ∈ s := by
  by_cases h3 : 3 ≤ s.length
  · have h0 : s ≠ [] := by intro e; rw [e] at h3; simp at h3
    rcases mem_hul h3 hv with q | q
    · exact low_in h h0 q
    · exact upp_in h h0 q
  · unfold hulL at hv
    rw [if_pos (by omega)] at hv
    exact hv
/-- A point of both halves is an end of them. -/
theorem both_end {s : List Pt} (h : Asc s) (h0 : s ≠ []) {i j : Nat} (hi : i < (lowR s).length) (hj : j < (uppR s).length) (e : (lowR s).getD i (0, 0) = (uppR s).getD j (0, 0)) : i = 0 ∨ i + 1 = (lowR s).length := by
  rcases Nat.eq_zero_or_pos i with c | c
  · exact .inl c
  right
  rcases Nat.lt_or_ge (i + 1) (lowR s).length with d | d
  rotate_left
  · omega
  exfalso
  have L := low_ok h h0
  have U := upp_ok h h0
  obtain ⟨l1, l2, e1, e2, k1, k2⟩ := hul_ends h h0
  obtain ⟨i, rfl⟩ : ∃ m, i = m + 1 := ⟨i - 1, by omega⟩
  have c1 := cvx_at L.cvx i d
  have d1 := dsc_at L.dsc (i := i) (j := i + 1) (by omega) (by omega)
  have d2 := dsc_at L.dsc (i := i + 1) (j := i + 2) (by omega) d
  have mw : (lowR s).getD i (0, 0) ∈ s := L.mem _ (getD_mem' (by omega))
  have mu : (lowR s).getD (i + 2) (0, 0) ∈ s := L.mem _ (getD_mem' d)
  have mv : (lowR s).getD (i + 1) (0, 0) ∈ s := L.mem _ (getD_mem' (by omega))
  have w1 := lft_at L.lft i (by omega)
  have w2 := lft_at L.lft (i + 1) d
  have j0 : 0 < j := by
    rcases Nat.eq_zero_or_pos j with rfl | q
    · exfalso
      rw [e] at d2
      rcases k2 _ mu with q | q
      · rw [q] at d2; exact oP_irr d2
      · exact oP_asym d2 q
    · exact q
  have j1 : j + 1 < (uppR s).length := by
    rcases Nat.lt_or_ge (j + 1) (uppR s).length with q | q
    · exact q
    · exfalso
      have ej : j = (uppR s).length - 1 := by omega
      rw [ej, ← e1] at e
      rw [e] at d1
      rcases k1 _ mw with q | q
      · rw [q] at d1; exact oP_irr d1
      · exact oP_asym d1 q
  obtain ⟨j, rfl⟩ : ∃ m, j = m + 1 := ⟨j - 1, by omega⟩
  have c2 := cvx_at U.cvx j (by rw [ngL_len]; exact j1)
  have l3 := lft_at U.lft j (by rw [ngL_len]; omega)
  have l4 := lft_at U.lft (j + 1) (by rw [ngL_len]; exact j1)
  have d3 := dsc_at U.dsc (i := j) (j := j + 1) (by omega) (by rw [ngL_len]; omega)
  have d4 := dsc_at U.dsc (i := j + 1) (j := j + 2) (by omega) (by rw [ngL_len]; exact j1)
  rw [ngL_at (by omega), ngL_at (by omega), ngL_at (by omega), crP_ng, ← e] at c2
  rw [ngL_at (by omega), ngL_at (by omega), plt_ng, ← e] at d3 d4
  have l3w := l3 (ngP ((lowR s).getD i (0, 0))) (by show ngP (ngP _) ∈ s; rw [ngP_ng]; exact mw)
  have l4w := l4 (ngP ((lowR s).getD i (0, 0))) (by show ngP (ngP _) ∈ s; rw [ngP_ng]; exact mw)
  rw [ngL_at (by omega), ngL_at (by omega), crP_ng, ← e] at l3w l4w
  have my : (uppR s).getD j (0, 0) ∈ s := upp_in h h0 (getD_mem' (by omega))
  have mz : (uppR s).getD (j + 2) (0, 0) ∈ s := upp_in h h0 (getD_mem' j1)
  have w1y := w1 _ my
  have w1z := w1 _ mz
  clear l3 l4 w1 w2
  generalize (lowR s).getD i (0, 0) = w at *
  generalize (lowR s).getD (i + 1) (0, 0) = v at *
  generalize (uppR s).getD j (0, 0) = y at *
  generalize (uppR s).getD (j + 2) (0, 0) = z at *
  -- y before v before z
  have f1 : crP z v y = cr2 (dif z v) (dif v y) := by unfold crP crossI cr2 dif; simp only; grind
  have f2 : crP v w y = cr2 (dif v y) (dif w v) := by unfold crP crossI cr2 dif; simp only; grind
  have f3 : crP v w z = -cr2 (dif z v) (dif w v) := by unfold crP crossI cr2 dif; simp only; grind
  have := (cr_tr (plt_pos.1 d4) (plt_pos.1 d3) (plt_pos.1 d1) (by omega) (by omega)).2 (.inl (by omega))
  omega
theorem dsc_nodup {R : List Pt} (h : Dsc R) : R.Nodup := List.Pairwise.imp (fun {a b} hab e => by subst e; exact oP_irr hab) h
theorem nodup_rv {R : List Pt} (h : R.reverse.Nodup) : R.Nodup := (List.pairwise_reverse.1 h).imp fun h => Ne.symm h
theorem hul_nodup {s : List Pt} (h : Asc s) : (hulL s).Nodup := by
  by_cases h3 : 3 ≤ s.length
  rotate_left
  · unfold hulL
    rw [if_pos (by omega)]
    exact List.Pairwise.imp (fun {a b} hab e => by subst e; exact oP_irr hab) h
  have h0 : s ≠ [] := by intro e; rw [e] at h3; simp at h3
  have eH : hulL s = (chn [] s).take ((chn [] s).length - 1) ++ (chn [] (revP s)).take ((chn [] (revP s)).length - 1) := by unfold hulL; rw [if_neg (by omega)]
  have e1 : (lowR s) = (chn [] s).reverse := (chn_rev s []).symm
  have e2 : (uppR s) = (chn [] (revP s)).reverse := (chn_rev (revP s) []).symm
  have n1 : (chn [] s).Nodup := by
    have := dsc_nodup (low_ok h h0).dsc
    rw [e1] at this
    exact nodup_rv this
  have n2 : (chn [] (revP s)).Nodup := by
    have := dsc_nodup (upp_ok h h0).dsc
    unfold ngL at this
    have this : (uppR s).Nodup := (List.pairwise_map.1 this).imp fun h e => h (congrArg ngP e)
    rw [e2] at this
    exact nodup_rv this
  obtain ⟨l1, l2, q1, q2, k1, k2⟩ := hul_ends h h0
  have p1 := low_len s
  have p2 := upp_len s
  have l1' : 2 ≤ (lowR s).length := by rw [p1]; exact chn_ge (by omega)
  have l2' : 2 ≤ (uppR s).length := by rw [p2]; exact chn_ge (by rw [revP_len]; omega)
  rw [eH]
  refine List.nodup_append.2 ⟨n1.sublist (List.take_sublist _ _), n2.sublist (List.take_sublist _ _), fun a ha b hb hab => ?_⟩
  obtain ⟨i, hi, rfl⟩ := List.getElem_of_mem ha
  obtain ⟨j, hj, rfl⟩ := List.getElem_of_mem hb
  have hi' : i < (chn [] s).length - 1 := by simp at hi; omega
  have hj' : j < (chn [] (revP s)).length - 1 := by simp at hj; omega
  have ea : (chn [] s).getD i (0, 0) = (chn [] (revP s)).getD j (0, 0) := by
    have a1 : i < (chn [] s).length := by omega
    have b1 : j < (chn [] (revP s)).length := by omega
    simpa [a1, b1] using hab
  rw [low_at s (by omega), upp_at s (by omega)] at ea
  rcases both_end h h0 (by omega) (by omega) ea with c | c
  · omega
  · have c' : i = 0 := by omega
    have : (lowR s).length - 1 - i = (lowR s).length - 1 := by omega
    rw [this, ← q2] at ea
    -- the least point is not ahead of the last in the upper half
    have d := dsc_at (upp_ok h h0).dsc (i := 0) (j := (uppR s).length - 1 - j) (by omega) (by rw [ngL_len]; omega)
    rw [ngL_at (by omega), ngL_at (by omega), plt_ng, ea] at d
    exact oP_irr d
end Go.Proofs.Ytbfoheblcoakiaa
namespace Go.Proofs.Ytbfoheblcoakiaa
set_option linter.all false
open Go.RowKit
theorem nd_inj {h : List Pt} (hn : h.Nodup) {i j : Nat} (hi : i < h.length) (hj : j < h.length) (e : h.getD i (0, 0) = h.getD j (0, 0)) : i = j := by
  rcases Nat.lt_trichotomy i j with c | c | c
  · exact absurd (by simpa [hi, hj] using e) (List.pairwise_iff_getElem.1 hn i j hi hj c)
  · exact c
  · exact absurd (by simpa [hi, hj] using e.symm) (List.pairwise_iff_getElem.1 hn j i hj hi c)
theorem low_hul {s : List Pt} (h : Asc s) (h3 : 3 ≤ s.length) {v : Pt} (hv : v ∈ lowR s) : v ∈ hulL s := by
  have h0 : s ≠ [] := by intro e; rw [e] at h3; simp at h3
  obtain ⟨l1, l2, e1, e2, _, _⟩ := hul_ends h h0
  have eH : hulL s = (chn [] s).take ((chn [] s).length - 1) ++ (chn [] (revP s)).take ((chn [] (revP s)).length - 1) := by unfold hulL; rw [if_neg (by omega)]
  have q1 := low_len s
  have q2 := upp_len s
  have l2' : 2 ≤ (uppR s).length := by rw [q2]; exact chn_ge (by rw [revP_len]; omega)
  rw [eH]
  obtain ⟨i, hi, hiv⟩ := List.getElem_of_mem hv
  have ev : (lowR s).getD i (0, 0) = v := by simp [hi, hiv]
  rcases Nat.eq_zero_or_pos i with rfl | c
  · refine List.mem_append.2 (.inr ?_)
    rw [e1] at ev
    have := upp_at s (k := 0) l2
    rw [Nat.sub_zero, ev] at this
    rw [← this]
    have m : ((chn [] (revP s)).take ((chn [] (revP s)).length - 1)).getD 0 (0, 0) ∈ (chn [] (revP s)).take ((chn [] (revP s)).length - 1) := getD_mem' (by simp; omega)
    rw [getD_take' _ (by omega)] at m
    exact m
  · refine List.mem_append.2 (.inl ?_)
    have := low_at s (k := (lowR s).length - 1 - i) (by omega)
    have e3 : (lowR s).length - 1 - ((lowR s).length - 1 - i) = i := by omega
    rw [e3, ev] at this
    rw [← this]
    have m : ((chn [] s).take ((chn [] s).length - 1)).getD ((lowR s).length - 1 - i) (0, 0) ∈ (chn [] s).take ((chn [] s).length - 1) := getD_mem' (by simp; omega)
    rw [getD_take' _ (by omega)] at m
    exact m
theorem upp_hul {s : List Pt} (h : Asc s) (h3 : 3 ≤ s.length) {v : Pt} (hv : v ∈ uppR s) : v ∈ hulL s := by
  have h0 : s ≠ [] := by intro e; rw [e] at h3; simp at h3
  obtain ⟨l1, l2, e1, e2, _, _⟩ := hul_ends h h0
  have eH : hulL s = (chn [] s).take ((chn [] s).length - 1) ++ (chn [] (revP s)).take ((chn [] (revP s)).length - 1) := by unfold hulL; rw [if_neg (by omega)]
  have q1 := low_len s
  have q2 := upp_len s
  have l1' : 2 ≤ (lowR s).length := by rw [q1]; exact chn_ge (by omega)
  rw [eH]
  obtain ⟨i, hi, hiv⟩ := List.getElem_of_mem hv
  have ev : (uppR s).getD i (0, 0) = v := by simp [hi, hiv]
  rcases Nat.eq_zero_or_pos i with rfl | c
  · refine List.mem_append.2 (.inl ?_)
    rw [e2] at ev
    have := low_at s (k := 0) l1
    rw [Nat.sub_zero, ev] at this
    rw [← this]
    have m : ((chn [] s).take ((chn [] s).length - 1)).getD 0 (0, 0) ∈ (chn [] s).take ((chn [] s).length - 1) := getD_mem' (by simp; omega)
    rw [getD_take' _ (by omega)] at m
    exact m
  · refine List.mem_append.2 (.inr ?_)
    have := upp_at s (k := (uppR s).length - 1 - i) (by omega)
    have e3 : (uppR s).length - 1 - ((uppR s).length - 1 - i) = i := by omega
    rw [e3, ev] at this
    rw [← this]
    have m : ((chn [] (revP s)).take ((chn [] (revP s)).length - 1)).getD ((uppR s).length - 1 - i) (0, 0) ∈ (chn [] (revP s)).take ((chn [] (revP s)).length - 1) := getD_mem' (by simp; omega)
    rw [getD_take' _ (by omega)] at m
    exact m
theorem Lft.sub {S T : Pt → Prop} (hST : ∀ q, T q → S q) : ∀ {R : List Pt}, Lft S R → Lft T R
  | [], _ => trivial
  | [_], _ => trivial
  | _ :: _ :: _, h => ⟨fun q hq => h.1 q (hST q hq), Lft.sub hST h.2⟩
/-- The chain of some of the points that has all of them. -/
theorem ChI.sub {S T : Pt → Prop} {R : List Pt} (h : ChI S R) (hST : ∀ q, T q → S q) (hR : ∀ z ∈ R, T z) : ChI T R := by
  refine ⟨hR, h.dsc, h.cvx, h.lft.sub hST, ?_, ?_⟩
  · obtain ⟨m, h1, h2⟩ := h.bot
    exact ⟨m, h1, fun q hq => h2 q (hST q hq)⟩
  · obtain ⟨m, h1, h2⟩ := h.top
    exact ⟨m, h1, fun q hq => h2 q (hST q hq)⟩
theorem hul_of {s : List Pt} (h : 2 ≤ s.length) : hulL s = (lowR s).reverse.take ((lowR s).length - 1) ++ (uppR s).reverse.take ((uppR s).length - 1) := by
  have e1 : (lowR s).reverse = chn [] s := by rw [show lowR s = (chn [] s).reverse from (chn_rev s []).symm, List.reverse_reverse]
  have e2 : (uppR s).reverse = chn [] (revP s) := by rw [show uppR s = (chn [] (revP s)).reverse from (chn_rev (revP s) []).symm, List.reverse_reverse]
  rw [e1, e2, low_len, upp_len]
  unfold hulL
  split
  · exact (hul_two (by omega)).symm
  · rfl
/-- Points in order with the same halves have the same hull. -/
theorem hul_same {s t : List Pt} (hs : Asc s) (ht : Asc t) (h2 : 2 ≤ s.length) (k2 : 2 ≤ t.length) (hts : ∀ q, q ∈ t → q ∈ s) (h1 : ∀ z ∈ lowR s, z ∈ t) (h3 : ∀ z ∈ uppR s, z ∈ t) : hulL t = hulL s := by
  have s0 : s ≠ [] := by intro e; rw [e] at h2; simp at h2
  have t0 : t ≠ [] := by intro e; rw [e] at k2; simp at k2
  have L : lowR t = lowR s := (low_ok ht t0).uniq ((low_ok hs s0).sub hts h1)
  have U : uppR t = uppR s := by
    have : ngL (uppR t) = ngL (uppR s) := (upp_ok ht t0).uniq ((upp_ok hs s0).sub (fun q hq => hts _ hq) fun z hz => h3 _ (mem_ngL.1 hz))
    have := congrArg ngL this
    rwa [ngL_ng, ngL_ng] at this
  rw [hul_of h2, hul_of k2, L, U]
theorem asc_nodup {s : List Pt} (h : Asc s) : s.Nodup := List.Pairwise.imp (fun {a b} hab e => by subst e; exact oP_irr hab) h
end Go.Proofs.Ytbfoheblcoakiaa
namespace Go.Proofs.Ytbfoheblcoakiaa
set_option linter.all false
open Go.RowKit
theorem nodup_le : ∀ {l m : List Pt}, l.Nodup → (∀ x ∈ l, x ∈ m) → l.length ≤ m.length
  | [], _, _, _ => Nat.zero_le _
  | x :: l, m, hn, hs => by
    have hn' := List.nodup_cons.1 hn
    have hx : x ∈ m := hs x (by simp)
    have := nodup_le (l := l) (m := m.erase x) hn'.2 fun y hy => by
      have : y ≠ x := fun e => hn'.1 (e ▸ hy)
      exact (List.mem_erase_of_ne this).2 (hs y (List.mem_cons_of_mem _ hy))
    rw [List.length_erase_of_mem hx] at this
    have hp : 0 < m.length := List.length_pos_of_mem hx
    simp only [List.length_cons]
    omega
theorem hul_le {s : List Pt} (h : Asc s) : (hulL s).length ≤ s.length := nodup_le (hul_nodup h) fun _ hx => hul_in h hx
theorem two_of {l : List Pt} {x y : Pt} (hx : x ∈ l) (hy : y ∈ l) (h : x ≠ y) : 2 ≤ l.length := by
  match l, hx, hy with
  | [], hx, _ => cases hx
  | [z], hx, hy => exact absurd ((List.mem_singleton.1 hx).trans (List.mem_singleton.1 hy).symm) h
  | _ :: _ :: _, _, _ => simp
theorem hul_two_mem {s : List Pt} (h : Asc s) (h2 : 2 ≤ s.length) : ∃ x y, x ∈ hulL s ∧ y ∈ hulL s ∧ x ≠ y := by
  by_cases h3 : 3 ≤ s.length
  · have h0 : s ≠ [] := by intro e; rw [e] at h3; simp at h3
    have l1 : 2 ≤ (lowR s).length := by rw [low_len]; exact chn_ge h2
    refine ⟨_, _, low_hul h h3 (getD_mem' (k := 0) (by omega)), low_hul h h3 (getD_mem' (k := 1) (by omega)), fun e => ?_⟩
    exact absurd (nd_inj (dsc_nodup (low_ok h h0).dsc) (by omega) (by omega) e) (by decide)
  · have e : hulL s = s := by unfold hulL; rw [if_pos (by omega)]
    rw [e]
    exact ⟨_, _, getD_mem' (k := 0) (by omega), getD_mem' (k := 1) (by omega), fun e => absurd (nd_inj (asc_nodup h) (by omega) (by omega) e) (by decide)⟩
end Go.Proofs.Ytbfoheblcoakiaa
namespace Go.Proofs.Ytbfoheblcoakiaa
set_option linter.all false
open Go.RowKit
/-- The hull of points in order that are some of others and have all their vertices. -/
theorem hul_mid {s t : List Pt} (hs : Asc s) (ht : Asc t) (hts : ∀ q ∈ t, q ∈ s) (h : ∀ v ∈ hulL s, v ∈ t) : hulL t = hulL s := by
  by_cases h3 : 3 ≤ s.length
  · obtain ⟨x, y, hx, hy, hxy⟩ := hul_two_mem hs (by omega)
    exact hul_same hs ht (by omega) (two_of (h x hx) (h y hy) hxy) hts (fun z hz => h z (low_hul hs h3 hz)) fun z hz => h z (upp_hul hs h3 hz)
  · have e : hulL s = s := by unfold hulL; rw [if_pos (by omega)]
    rw [e] at h
    rw [asc_ext ht hs fun z => ⟨hts z, h z⟩]
/-- Moved points. -/
def mvP (dx dy : Int) (p : Pt) : Pt := (p.1 + dx, p.2 + dy)
def mvL (dx dy : Int) (ps : List Pt) : List Pt := ps.map (mvP dx dy)
theorem crP_mv (dx dy : Int) (a b c : Pt) : crP (mvP dx dy a) (mvP dx dy b) (mvP dx dy c) = crP a b c := by unfold crP crossI mvP; simp only; grind
theorem plt_mv (dx dy : Int) (a b : Pt) : pltB (mvP dx dy a) (mvP dx dy b) = pltB a b := by
  rw [Bool.eq_iff_iff, pltB_iff, pltB_iff]
  unfold mvP
  simp only
  omega
theorem pushR_mv (dx dy : Int) : ∀ (R : List Pt) (p : Pt), pushR (mvL dx dy R) (mvP dx dy p) = mvL dx dy (pushR R p)
  | [], _ => rfl
  | [_], _ => rfl
  | b :: a :: r, p => by
    have ih := pushR_mv dx dy (a :: r) p
    show (if crP (mvP dx dy a) (mvP dx dy b) (mvP dx dy p) ≤ 0 then pushR (mvP dx dy a :: mvL dx dy r) (mvP dx dy p) else mvP dx dy p :: mvP dx dy b :: mvP dx dy a :: mvL dx dy r) = mvL dx dy (if crP a b p ≤ 0 then pushR (a :: r) p else p :: b :: a :: r)
    rw [crP_mv]
    split
    · exact ih
    · rfl
theorem chnR_mv (dx dy : Int) : ∀ (ps R : List Pt), chnR (mvL dx dy R) (mvL dx dy ps) = mvL dx dy (chnR R ps)
  | [], _ => rfl
  | p :: r, R => by
    have := chnR_mv dx dy r (pushR R p)
    rw [← pushR_mv] at this
    exact this
theorem mvL_len (dx dy : Int) (ps : List Pt) : (mvL dx dy ps).length = ps.length := by unfold mvL; simp
theorem srtL_mv (dx dy : Int) (ps : List Pt) : srtL (mvL dx dy ps) = mvL dx dy (srtL ps) := by
  refine asc_ext (srtL_asc _) ?_ fun z => ?_
  · unfold Asc mvL
    rw [List.pairwise_map]
    exact (srtL_asc ps).imp fun {a b} hab => by rw [plt_mv]; exact hab
  · rw [srtL_mem]
    unfold mvL
    simp only [List.mem_map, srtL_mem]
/-- The hull of moved points is the moved hull. -/
theorem hul_mv (dx dy : Int) (s : List Pt) : hulL (mvL dx dy s) = mvL dx dy (hulL s) := by
  by_cases h2 : 2 ≤ s.length
  · rw [hul_of h2, hul_of (by rw [mvL_len]; exact h2)]
    have e1 : lowR (mvL dx dy s) = mvL dx dy (lowR s) := chnR_mv dx dy s []
    have e2 : uppR (mvL dx dy s) = mvL dx dy (uppR s) := by
      unfold uppR
      rw [← chnR_mv]
      unfold mvL
      rw [← List.map_reverse]
      rfl
    rw [e1, e2, mvL_len, mvL_len]
    unfold mvL
    simp only [List.map_append, List.map_take, List.map_reverse]
  · unfold hulL
    rw [if_pos (by rw [mvL_len]; omega), if_pos (by omega)]
end Go.Proofs.Ytbfoheblcoakiaa
namespace Go.Proofs.Ytbfoheblcoakiaa
set_option linter.all false
open Go.RowKit
def adP (p v : Pt) : Pt := (p.1 + v.1, p.2 + v.2)
/-- All points are on the left of a line through p. -/
def SupP (S : Pt → Prop) (d p : Pt) : Prop := ∀ q, S q → 0 ≤ cr2 d (dif q p)
def AftP (l : List Pt) (d : Pt) : Prop := ∀ x ∈ l, 0 ≤ cr2 x d
def AftS (l : List Pt) (d : Pt) : Prop := ∀ x ∈ l, 0 < cr2 x d
/-- The sides of a chain from p on, after a side. -/
def LCh (S : Pt → Prop) : List Pt → Pt → List Pt → Prop
  | l, p, [] => S p ∧ ∀ d, posV d → AftP l d → SupP S d p
  | l, p, v :: vs => S p ∧ posV v ∧ AftS l v ∧ (∀ d, posV d → AftP l d → 0 ≤ cr2 d v → SupP S d p) ∧ LCh S [v] (adP p v) vs
def mrg : List Pt → List Pt → List Pt
  | [], v => v
  | u :: us, [] => u :: us
  | u :: us, v :: vs => if 0 < cr2 u v then u :: mrg us (v :: vs) else if cr2 u v < 0 then v :: mrg (u :: us) vs else adP u v :: mrg us vs
termination_by u v => u.length + v.length
def cumP : Pt → List Pt → List Pt
  | p, [] => [p]
  | p, v :: vs => p :: cumP (adP p v) vs
def endP : Pt → List Pt → Pt
  | p, [] => p
  | p, v :: vs => endP (adP p v) vs
def sdL : List Pt → List Pt
  | a :: b :: t => dif b a :: sdL (b :: t)
  | _ => []
def smS (S T : Pt → Prop) : Pt → Prop := fun q => ∃ a b, S a ∧ T b ∧ q = adP a b
theorem posV_add {u v : Pt} (hu : posV u) (hv : posV v) : posV (adP u v) := by
  unfold posV adP at *
  simp only
  omega
theorem cr2_anti (u v : Pt) : cr2 u v = - cr2 v u := by unfold cr2; grind
theorem cr2_self (u : Pt) : cr2 u u = 0 := by unfold cr2; grind
theorem cr2_addr (d u v : Pt) : cr2 d (adP u v) = cr2 d u + cr2 d v := by unfold cr2 adP; simp only; grind
theorem cr2_addl (u v d : Pt) : cr2 (adP u v) d = cr2 u d + cr2 v d := by unfold cr2 adP; simp only; grind
theorem adP_comm (a b : Pt) : adP a b = adP b a := by unfold adP; simp only [Int.add_comm]
theorem dif_ad (p v : Pt) : dif (adP p v) p = v := by unfold dif adP; ext <;> simp <;> omega
theorem ad_dif (p q : Pt) : adP p (dif q p) = q := by unfold dif adP; ext <;> simp <;> omega
theorem dif_add (a b p q : Pt) : dif (adP a b) (adP p q) = adP (dif a p) (dif b q) := by unfold dif adP; ext <;> simp <;> omega
theorem ad_ad (p q u v : Pt) : adP (adP p q) (adP u v) = adP (adP p u) (adP q v) := by unfold adP; ext <;> simp <;> omega
theorem ad_l (p q u : Pt) : adP (adP p q) u = adP (adP p u) q := by unfold adP; ext <;> simp <;> omega
theorem ad_r (p q u : Pt) : adP (adP p q) u = adP p (adP q u) := by unfold adP; ext <;> simp <;> omega
theorem sup_add {S T : Pt → Prop} {d p q : Pt} (h : SupP S d p) (g : SupP T d q) : SupP (smS S T) d (adP p q) := by
  rintro z ⟨a, b, ha, hb, rfl⟩
  rw [dif_add, cr2_addr]
  have := h a ha
  have := g b hb
  omega
theorem LCh.at {S : Pt → Prop} : ∀ {u : List Pt} {l : List Pt} {p : Pt}, LCh S l p u → S p
  | [], _, _, h => h.1
  | _ :: _, _, _, h => h.1
theorem aft_tr {x u d : Pt} (hx : posV x) (hu : posV u) (hd : posV d) (h1 : 0 ≤ cr2 x u) (h2 : 0 ≤ cr2 u d) : 0 ≤ cr2 x d := (cr_tr hx hu hd h1 h2).1
/-- The merge of two chains of sides is that of the sums. -/
theorem lch_mrg {S T : Pt → Prop} : ∀ (n : Nat) (u v : List Pt), u.length + v.length ≤ n → ∀ {l k m : List Pt} {p q : Pt}, (∀ x ∈ l, posV x) → (∀ x ∈ k, posV x) → (∀ x ∈ m, posV x) → (∀ d, posV d → AftP m d → AftP l d ∧ AftP k d) →
    (∀ x t, u = x :: t → AftS m x) → (∀ x t, v = x :: t → AftS m x) → LCh S l p u → LCh T k q v → LCh (smS S T) m (adP p q) (mrg u v)
  | n, [], [], _, l, k, m, p, q, hl, hk, hm, ha, hu, hv, h, g => by
    rw [mrg]
    exact ⟨⟨p, q, h.1, g.1, rfl⟩, fun d hd hda => sup_add (h.2 d hd (ha d hd hda).1) (g.2 d hd (ha d hd hda).2)⟩
  | 0, _ :: _, _, hn, l, k, m, p, q, hl, hk, hm, ha, hu, hv, h, g => by simp at hn
  | 0, [], _ :: _, hn, l, k, m, p, q, hl, hk, hm, ha, hu, hv, h, g => by simp at hn
  | n + 1, [], v :: vs, hn, l, k, m, p, q, hl, hk, hm, ha, hu, hv, h, g => by
    have ih := @lch_mrg S T n [] vs (by simp at hn ⊢; omega)
    rw [mrg] at ih ⊢
    obtain ⟨g1, g2, g3, g4, g5⟩ := g
    have am := hv v vs rfl
    have amp : AftP m v := fun x hx => Int.le_of_lt (am x hx)
    refine ⟨⟨p, q, h.1, g1, rfl⟩, g2, am, fun d hd hda h0 => sup_add (h.2 d hd (ha d hd hda).1) (g4 d hd (ha d hd hda).2 h0), ?_⟩
    rw [ad_r]
    refine ih (l := l) (k := [v]) (m := [v]) hl (fun x hx => by rw [List.mem_singleton.1 hx]; exact g2) (fun x hx => by rw [List.mem_singleton.1 hx]; exact g2) (fun d hd hda => ⟨fun x hx => ?_, hda⟩) (fun x t e => nomatch e) (fun x t e => ?_) h g5
    · exact aft_tr (hl x hx) g2 hd ((ha v g2 amp).1 x hx) (hda v (by simp))
    · subst e
      exact g5.2.2.1
  | n + 1, u :: us, [], hn, l, k, m, p, q, hl, hk, hm, ha, hu, hv, h, g => by
    have ih := @lch_mrg S T n us [] (by simp at hn ⊢; omega)
    have e0 : mrg us [] = us := by cases us <;> rw [mrg]
    rw [e0] at ih
    rw [mrg]
    obtain ⟨g1, g2, g3, g4, g5⟩ := h
    have am := hu u us rfl
    have amp : AftP m u := fun x hx => Int.le_of_lt (am x hx)
    refine ⟨⟨p, q, g1, g.1, rfl⟩, g2, am, fun d hd hda h0 => sup_add (g4 d hd (ha d hd hda).1 h0) (g.2 d hd (ha d hd hda).2), ?_⟩
    rw [ad_l]
    refine ih (l := [u]) (k := k) (m := [u]) (fun x hx => by rw [List.mem_singleton.1 hx]; exact g2) hk (fun x hx => by rw [List.mem_singleton.1 hx]; exact g2) (fun d hd hda => ⟨hda, fun x hx => ?_⟩) (fun x t e => ?_) (fun x t e => nomatch e) g5 g
    · exact aft_tr (hk x hx) g2 hd ((ha u g2 amp).2 x hx) (hda u (by simp))
    · subst e
      exact g5.2.2.1
  | n + 1, u :: us, v :: vs, hn, l, k, m, p, q, hl, hk, hm, ha, hu, hv, h, g => by
    have hu1 := hu u us rfl
    have hv1 := hv v vs rfl
    have hup : AftP m u := fun x hx => Int.le_of_lt (hu1 x hx)
    have hvp : AftP m v := fun x hx => Int.le_of_lt (hv1 x hx)
    have h' := h
    have g' := g
    obtain ⟨h1, h2, h3, h4, h5⟩ := h'
    obtain ⟨g1, g2, g3, g4, g5⟩ := g'
    have sg : ∀ w : Pt, posV w → ∀ x ∈ [w], posV x := fun w hw x hx => by rw [List.mem_singleton.1 hx]; exact hw
    rw [mrg]
    split
    · rename_i c
      refine ⟨⟨p, q, h1, g1, rfl⟩, h2, hu1, fun d hd hda h0 => sup_add (h4 d hd (ha d hd hda).1 h0) (g4 d hd (ha d hd hda).2 (aft_tr hd h2 g2 h0 (Int.le_of_lt c))), ?_⟩
      rw [ad_l]
      refine lch_mrg n us (v :: vs) (by simp at hn ⊢; omega) (sg u h2) hk (sg u h2) (fun d hd hda => ⟨hda, fun x hx => aft_tr (hk x hx) h2 hd ((ha u h2 hup).2 x hx) (hda u (by simp))⟩) (fun x t e => ?_) (fun x t e y hy => ?_) h5 g
      · subst e
        exact h5.2.2.1
      · rw [List.mem_singleton.1 hy, ← (List.cons.inj e).1]
        exact c
    · split
      · rename_i c c'
        rw [cr2_anti] at c'
        have c2 : 0 < cr2 v u := by omega
        refine ⟨⟨p, q, h1, g1, rfl⟩, g2, hv1, fun d hd hda h0 => sup_add (h4 d hd (ha d hd hda).1 (aft_tr hd g2 h2 h0 (Int.le_of_lt c2))) (g4 d hd (ha d hd hda).2 h0), ?_⟩
        rw [ad_r]
        refine lch_mrg n (u :: us) vs (by simp at hn ⊢; omega) hl (sg v g2) (sg v g2) (fun d hd hda => ⟨fun x hx => aft_tr (hl x hx) g2 hd ((ha v g2 hvp).1 x hx) (hda v (by simp)), hda⟩) (fun x t e y hy => ?_) (fun x t e => ?_) h g5
        · rw [List.mem_singleton.1 hy, ← (List.cons.inj e).1]
          exact c2
        · subst e
          exact g5.2.2.1
      · rename_i c c'
        have c0 : cr2 u v = 0 := by omega
        have c1 : cr2 v u = 0 := by rw [cr2_anti, c0]; rfl
        have hw := posV_add h2 g2
        have e1 : cr2 u (adP u v) = 0 := by rw [cr2_addr, cr2_self, c0]; rfl
        have e2 : cr2 v (adP u v) = 0 := by rw [cr2_addr, cr2_self, c1]; rfl
        have e3 : cr2 (adP u v) u = 0 := by rw [cr2_addl, cr2_self, c1]; rfl
        have e4 : cr2 (adP u v) v = 0 := by rw [cr2_addl, cr2_self, c0]; rfl
        refine ⟨⟨p, q, h1, g1, rfl⟩, hw, fun x hx => by rw [cr2_addr]; have := hu1 x hx; have := hv1 x hx; omega, fun d hd hda h0 => sup_add (h4 d hd (ha d hd hda).1 (aft_tr hd hw h2 h0 (by omega))) (g4 d hd (ha d hd hda).2 (aft_tr hd hw g2 h0 (by omega))), ?_⟩
        rw [ad_ad]
        refine lch_mrg n us vs (by simp at hn ⊢; omega) (sg u h2) (sg v g2) (sg _ hw) (fun d hd hda => ⟨fun x hx => ?_, fun x hx => ?_⟩) (fun x t e y hy => ?_) (fun x t e y hy => ?_) h5 g5
        · rw [List.mem_singleton.1 hx]
          exact aft_tr h2 hw hd (by omega) (hda _ (by simp))
        · rw [List.mem_singleton.1 hx]
          exact aft_tr g2 hw hd (by omega) (hda _ (by simp))
        · subst e
          rw [List.mem_singleton.1 hy]
          exact (cr_tr hw h2 h5.2.1 (by omega) (Int.le_of_lt (h5.2.2.1 u (by simp)))).2 (.inr (h5.2.2.1 u (by simp)))
        · subst e
          rw [List.mem_singleton.1 hy]
          exact (cr_tr hw g2 g5.2.1 (by omega) (Int.le_of_lt (g5.2.2.1 v (by simp)))).2 (.inr (g5.2.2.1 v (by simp)))
theorem Cvx.drop : ∀ {X Y : List Pt}, Cvx (X ++ Y) → Cvx Y
  | [], _, h => h
  | _ :: _, _, h => Cvx.drop (Cvx.tail h)
theorem Lft.drop {S : Pt → Prop} : ∀ {X Y : List Pt}, Lft S (X ++ Y) → Lft S Y
  | [], _, h => h
  | _ :: _, _, h => Lft.drop (Lft.tail h)
theorem Dsc.drop : ∀ {X Y : List Pt}, Dsc (X ++ Y) → Dsc Y
  | [], _, h => h
  | _ :: _, _, h => Dsc.drop (Dsc.tail h)
def lsd : List Pt → Pt → List Pt
  | [], _ => []
  | x :: _, p => [dif p x]
theorem crP_cr2 (x p q : Pt) : crP x p q = cr2 (dif p x) (dif q p) := by unfold crP crossI cr2 dif; simp only; grind
theorem crP_cr2' (x p q : Pt) : crP x p q = cr2 (dif p x) (dif q x) := by unfold crP crossI cr2 dif; simp only
theorem cr2_neg (u a b : Pt) : cr2 u (dif a b) = cr2 (dif b a) u := by unfold cr2 dif; simp only; grind
theorem plk (u v d w : Pt) : cr2 u v * cr2 d w = cr2 d v * cr2 u w + cr2 u d * cr2 v w := by unfold cr2; grind
theorem nn_of_mul {D x : Int} (hD : 0 < D) (h : 0 ≤ D * x) : 0 ≤ x := by
  rcases Int.lt_or_le x 0 with c | c
  · have := Int.mul_neg_of_pos_of_neg hD c
    omega
  · exact c
/-- The sides of a chain. -/
theorem lch_of {S : Pt → Prop} : ∀ (l : List Pt) (p : Pt) (R0 : List Pt), ChI S ((p :: l).reverse ++ R0) → LCh S (lsd R0 p) p (sdL (p :: l))
  | [], p, [], h => by
    refine ⟨h.mem p (by simp), fun d hd ha q hq => ?_⟩
    obtain ⟨m, h1, h2⟩ := h.top
    obtain ⟨n, k1, k2⟩ := h.bot
    simp at h1 k1
    subst h1 k1
    have : q = p := by
      rcases h2 q hq with e | e
      · exact e
      · rcases k2 q hq with e' | e'
        · exact e'
        · exact (oP_asym e e').elim
    subst this
    unfold cr2 dif
    simp
  | [], p, x :: R0, h => by
    have hl := h.lft
    have hd0 := h.dsc
    simp only [List.reverse_cons, List.reverse_nil, List.nil_append, List.cons_append] at hl hd0 h
    refine ⟨h.mem p (by simp), fun d hd ha q hq => ?_⟩
    obtain ⟨m, h1, h2⟩ := h.top
    simp at h1
    subst h1
    have a1 : 0 ≤ cr2 (dif p x) d := ha _ (by simp [lsd])
    have a2 : 0 ≤ cr2 (dif p x) (dif q p) := by rw [← crP_cr2]; exact hl.1 q hq
    rw [cr2_neg] at a2 ⊢
    rcases h2 q hq with rfl | e
    · unfold cr2 dif
      simp
    · exact aft_tr (plt_pos.1 e) (plt_pos.1 (hd0.lt (by simp))) hd a2 a1
  | q :: l, p, R0, h => by
    have hS : S p := h.mem p (by simp)
    have e0 : (p :: q :: l).reverse ++ R0 = l.reverse ++ (q :: p :: R0) := by simp
    have e1 : (p :: q :: l).reverse ++ R0 = (q :: l).reverse ++ (p :: R0) := by simp
    have hd0 := h.dsc
    have hl := h.lft
    have hc := h.cvx
    have ih := lch_of l q (p :: R0) (by rw [← e1]; exact h)
    rw [e0] at hd0 hl hc
    have hd1 := hd0.drop
    have hl1 := hl.drop
    have hc1 := hc.drop
    have hv : posV (dif q p) := plt_pos.1 (hd1.lt (by simp))
    refine ⟨hS, hv, ?_, ?_, ?_⟩
    · match R0, hc1 with
      | [], _ => intro x hx; simp [lsd] at hx
      | y :: _, hc1 =>
        intro x hx
        rw [lsd, List.mem_singleton] at hx
        subst hx
        rw [← crP_cr2]
        exact hc1.1
    · intro d hd ha h0 z hz
      have a1 : 0 ≤ cr2 (dif q p) (dif z p) := by rw [← crP_cr2']; exact hl1.1 z hz
      match R0, hl1, hd1, hc1, ha, e0, h with
      | [], _, _, _, _, e0, h =>
        obtain ⟨m, h1, h2⟩ := h.bot
        rw [e0] at h1
        simp at h1
        subst h1
        rcases h2 z hz with rfl | e
        · unfold cr2 dif
          simp
        · exact aft_tr hd hv (plt_pos.1 e) h0 a1
      | x :: R1, hl1, hd1, hc1, ha, _, _ =>
        have a2 : 0 ≤ cr2 (dif p x) (dif z p) := by rw [← crP_cr2]; exact hl1.2.1 z hz
        have a3 : 0 ≤ cr2 (dif p x) d := ha _ (by simp [lsd])
        have a4 : 0 < cr2 (dif p x) (dif q p) := by rw [← crP_cr2]; exact hc1.1
        refine nn_of_mul a4 ?_
        rw [plk]
        have := Int.mul_nonneg h0 a2
        have := Int.mul_nonneg a3 a1
        omega
    · rw [ad_dif]
      exact ih
theorem cumP_sd : ∀ (l : List Pt) (p : Pt), cumP p (sdL (p :: l)) = p :: l
  | [], p => rfl
  | q :: l, p => by
    show p :: cumP (adP p (dif q p)) (sdL (q :: l)) = _
    rw [ad_dif, cumP_sd l q]
theorem endP_sd : ∀ (l : List Pt) (p : Pt), endP p (sdL (p :: l)) = (p :: l).getLast (by simp)
  | [], p => rfl
  | q :: l, p => by
    show endP (adP p (dif q p)) (sdL (q :: l)) = _
    rw [ad_dif, endP_sd l q]
    simp
theorem cumP_rev (p v : Pt) (vs R0 : List Pt) : (cumP p (v :: vs)).reverse ++ R0 = (cumP (adP p v) vs).reverse ++ (p :: R0) := by
  show (p :: cumP (adP p v) vs).reverse ++ R0 = _
  simp
theorem plt_ad {p v : Pt} (h : posV v) : pltB p (adP p v) = true := by rw [plt_pos, dif_ad]; exact h
theorem chi_aux {S : Pt → Prop} : ∀ (vs : List Pt) (p : Pt) (R0 : List Pt), LCh S (lsd R0 p) p vs → (∀ z ∈ p :: R0, S z) → Dsc (p :: R0) → Cvx (p :: R0) → Lft S (p :: R0) →
    (∀ z ∈ (cumP p vs).reverse ++ R0, S z) ∧ Dsc ((cumP p vs).reverse ++ R0) ∧ Cvx ((cumP p vs).reverse ++ R0) ∧ Lft S ((cumP p vs).reverse ++ R0)
  | [], p, R0, h, h1, h2, h3, h4 => ⟨h1, h2, h3, h4⟩
  | v :: vs, p, R0, h, h1, h2, h3, h4 => by
    rw [cumP_rev]
    obtain ⟨k1, k2, k3, k4, k5⟩ := h
    refine chi_aux vs (adP p v) (p :: R0) (by rw [lsd, dif_ad]; exact k5) (fun z hz => ?_) ?_ ?_ ?_
    · rcases List.mem_cons.1 hz with rfl | hz
      · exact k5.at
      · exact h1 z hz
    · refine List.pairwise_cons.2 ⟨fun z hz => ?_, h2⟩
      rcases List.mem_cons.1 hz with rfl | hz
      · exact plt_ad k2
      · exact oP_trans (h2.lt hz) (plt_ad k2)
    · match R0, k3, h3 with
      | [], _, _ => trivial
      | x :: R1, k3, h3 =>
        refine ⟨?_, h3⟩
        rw [crP_cr2, dif_ad]
        exact k3 _ (by simp [lsd])
    · refine ⟨fun q hq => ?_, h4⟩
      rw [crP_cr2', dif_ad]
      exact k4 v k2 (fun x hx => Int.le_of_lt (k3 x hx)) (by rw [cr2_self]; exact Int.le_refl _) q hq
theorem cumP_last : ∀ (vs : List Pt) (p : Pt) (R0 : List Pt), ((cumP p vs).reverse ++ R0).head? = some (endP p vs)
  | [], p, R0 => rfl
  | v :: vs, p, R0 => by
    rw [cumP_rev]
    exact cumP_last vs (adP p v) _
theorem cumP_cons : ∀ (vs : List Pt) (p : Pt), ∃ t, cumP p vs = p :: t
  | [], p => ⟨_, rfl⟩
  | _ :: _, p => ⟨_, rfl⟩
/-- A chain by its sides. -/
theorem chi_of {S : Pt → Prop} {vs : List Pt} {p : Pt} (h : LCh S [] p vs) (hb : ∀ q, S q → q = p ∨ pltB p q = true) (ht : ∀ q, S q → q = endP p vs ∨ pltB q (endP p vs) = true) : ChI S (cumP p vs).reverse := by
  have := chi_aux vs p [] h (fun z hz => by rw [List.mem_singleton.1 hz]; exact h.at) (List.pairwise_singleton _ _) trivial trivial
  rw [List.append_nil] at this
  obtain ⟨h1, h2, h3, h4⟩ := this
  refine ⟨h1, h2, h3, h4, ⟨p, ?_, hb⟩, ⟨endP p vs, ?_, ht⟩⟩
  · obtain ⟨t, e⟩ := cumP_cons vs p
    rw [e]
    simp
  · have := cumP_last vs p []
    rwa [List.append_nil] at this
theorem endP_ad : ∀ (vs : List Pt) (p q : Pt), endP (adP p q) vs = adP p (endP q vs)
  | [], _, _ => rfl
  | v :: vs, p, q => by
    show endP (adP (adP p q) v) vs = adP p (endP (adP q v) vs)
    rw [ad_r]
    exact endP_ad vs p (adP q v)
theorem mrg_nil (u : List Pt) : mrg u [] = u := by cases u <;> rw [mrg]
theorem endP_mrg : ∀ (n : Nat) (u v : List Pt), u.length + v.length ≤ n → ∀ (p q : Pt), endP (adP p q) (mrg u v) = adP (endP p u) (endP q v)
  | n, [], v, hn, p, q => by rw [mrg]; exact endP_ad v p q
  | n, u :: us, [], hn, p, q => by
    rw [mrg, adP_comm p q, adP_comm _ (endP q [])]
    exact endP_ad (u :: us) q p
  | 0, _ :: _, _ :: _, hn, p, q => by simp at hn
  | n + 1, u :: us, v :: vs, hn, p, q => by
    rw [mrg]
    split
    · show endP (adP (adP p q) u) (mrg us (v :: vs)) = _
      rw [ad_l]
      exact endP_mrg n us (v :: vs) (by simp at hn ⊢; omega) _ _
    · split
      · show endP (adP (adP p q) v) (mrg (u :: us) vs) = _
        rw [ad_r]
        exact endP_mrg n (u :: us) vs (by simp at hn ⊢; omega) _ _
      · show endP (adP (adP p q) (adP u v)) (mrg us vs) = _
        rw [ad_ad]
        exact endP_mrg n us vs (by simp at hn ⊢; omega) _ _
theorem plt_add {a b c d : Pt} (h1 : a = c ∨ pltB a c = true) (h2 : b = d ∨ pltB b d = true) : adP a b = adP c d ∨ pltB (adP a b) (adP c d) = true := by
  obtain ⟨a1, a2⟩ := a
  obtain ⟨b1, b2⟩ := b
  obtain ⟨c1, c2⟩ := c
  obtain ⟨d1, d2⟩ := d
  simp only [pltB_iff, adP, Prod.mk.injEq] at *
  omega
/-- The chain of the sums of two sets, from the chains of both. -/
theorem chi_sum {S T : Pt → Prop} {A B : List Pt} {p q : Pt} (h : ChI S (p :: A).reverse) (g : ChI T (q :: B).reverse) : ChI (smS S T) (cumP (adP p q) (mrg (sdL (p :: A)) (sdL (q :: B)))).reverse := by
  have h1 := lch_of A p [] (by rw [List.append_nil]; exact h)
  have g1 := lch_of B q [] (by rw [List.append_nil]; exact g)
  have hn : ∀ x ∈ ([] : List Pt), posV x := fun x hx => by simp at hx
  have hs : ∀ y : Pt, AftS [] y := fun y x hx => by simp at hx
  refine chi_of (lch_mrg _ _ _ (Nat.le_refl _) hn hn hn (fun d _ _ => ⟨fun x hx => by simp [lsd] at hx, fun x hx => by simp [lsd] at hx⟩) (fun x _ _ => hs x) (fun x _ _ => hs x) h1 g1) ?_ ?_
  · rintro z ⟨a, b, ha, hb, rfl⟩
    obtain ⟨m, m1, m2⟩ := h.bot
    obtain ⟨n, n1, n2⟩ := g.bot
    simp at m1 n1
    subst m1 n1
    exact (plt_add ((m2 a ha).imp Eq.symm id) ((n2 b hb).imp Eq.symm id)).imp Eq.symm id
  · rintro z ⟨a, b, ha, hb, rfl⟩
    rw [endP_mrg _ _ _ (Nat.le_refl _), endP_sd, endP_sd]
    obtain ⟨m, m1, m2⟩ := h.top
    obtain ⟨n, n1, n2⟩ := g.top
    rw [List.head?_reverse, List.getLast?_eq_some_getLast (by simp)] at m1 n1
    have m1 := Option.some.inj m1
    have n1 := Option.some.inj n1
    subst m1 n1
    exact plt_add (m2 a ha) (n2 b hb)
end Go.Proofs.Ytbfoheblcoakiaa
namespace Go.Proofs.Ytbfoheblcoakiaa
set_option linter.all false
open Go.RowKit
theorem lch_posV {S : Pt → Prop} : ∀ {u l : List Pt} {p : Pt}, LCh S l p u → ∀ x ∈ u, posV x
  | [], _, _, _, x, hx => by simp at hx
  | v :: vs, l, p, h, x, hx => by
    rcases List.mem_cons.1 hx with rfl | hx
    · exact h.2.1
    · exact lch_posV h.2.2.2.2 x hx
theorem lch_aft {S : Pt → Prop} : ∀ {u : List Pt} {v p : Pt}, posV v → LCh S [v] p u → ∀ x ∈ u, 0 < cr2 v x
  | [], _, _, _, _, x, hx => by simp at hx
  | y :: vs, v, p, hv, h, x, hx => by
    have h1 : 0 < cr2 v y := h.2.2.1 v (by simp)
    rcases List.mem_cons.1 hx with rfl | hx
    · exact h1
    · have h2 := lch_aft h.2.1 h.2.2.2.2 x hx
      exact (cr_tr hv h.2.1 (lch_posV h.2.2.2.2 x hx) (Int.le_of_lt h1) (Int.le_of_lt h2)).2 (.inl h1)
def AscV (u : List Pt) : Prop := u.Pairwise (fun x y => 0 < cr2 x y) ∧ ∀ x ∈ u, posV x
theorem lch_asc {S : Pt → Prop} : ∀ {u l : List Pt} {p : Pt}, LCh S l p u → AscV u
  | [], _, _, _ => ⟨List.Pairwise.nil, fun x hx => by simp at hx⟩
  | v :: vs, l, p, h => ⟨List.pairwise_cons.2 ⟨fun x hx => lch_aft h.2.1 h.2.2.2.2 x hx, (lch_asc h.2.2.2.2).1⟩, lch_posV h⟩
theorem AscV.tail {v : Pt} {vs : List Pt} (h : AscV (v :: vs)) : AscV vs := ⟨(List.pairwise_cons.1 h.1).2, fun x hx => h.2 x (List.mem_cons_of_mem _ hx)⟩
theorem AscV.aft {v : Pt} {vs : List Pt} (h : AscV (v :: vs)) {x : Pt} (hx : x ∈ vs) : 0 < cr2 v x := (List.pairwise_cons.1 h.1).1 x hx
theorem lch_last {S : Pt → Prop} : ∀ {u l : List Pt} {p : Pt}, LCh S l p u → ∀ x, u.getLast? = some x → SupP S x (endP p u) ∧ posV x
  | [], _, _, _, x, hx => by simp at hx
  | [v], l, p, h, x, hx => by
    simp at hx
    subst hx
    exact ⟨h.2.2.2.2.2 v h.2.1 (fun y hy => by rw [List.mem_singleton.1 hy, cr2_self]; exact Int.le_refl _), h.2.1⟩
  | v :: v' :: vs, l, p, h, x, hx => by
    rw [List.getLast?_cons_cons] at hx
    exact lch_last h.2.2.2.2 x hx
theorem mrg_cc (u v : Pt) (us vs : List Pt) : mrg (u :: us) (v :: vs) = if 0 < cr2 u v then u :: mrg us (v :: vs) else if cr2 u v < 0 then v :: mrg (u :: us) vs else adP u v :: mrg us vs := by rw [mrg]
theorem mrg_nl (v : List Pt) : mrg [] v = v := by rw [mrg]
/-- Lower sides before upper ones. -/
theorem mrg_cross {u0 v0 : Pt} {U2 V2 : List Pt} : ∀ (n : Nat) (U V : List Pt), U.length + V.length ≤ n → AscV U → AscV V →
    (U = [] → ∀ v ∈ V, cr2 u0 v < 0) → (∀ x, U.getLast? = some x → ∀ w, posV w → 0 < cr2 x w → cr2 u0 w < 0) →
    (V = [] → ∀ u ∈ U, 0 < cr2 u v0) → (∀ x, V.getLast? = some x → ∀ w, posV w → 0 < cr2 x w → 0 < cr2 w v0) →
    mrg (U ++ u0 :: U2) (V ++ v0 :: V2) = mrg U V ++ mrg (u0 :: U2) (v0 :: V2)
  | n, [], [], _, _, _, _, _, _, _ => by rw [mrg.eq_1]; rfl
  | 0, _ :: _, _, hn, _, _, _, _, _, _ => by simp at hn
  | 0, [], _ :: _, hn, _, _, _, _, _, _ => by simp at hn
  | n + 1, [], v :: vs, hn, hU, hV, h1, h2, h3, h4 => by
    have c := h1 rfl v (by simp)
    have ih := mrg_cross (u0 := u0) (v0 := v0) (U2 := U2) (V2 := V2) n [] vs (by simp at hn ⊢; omega) hU hV.tail (fun _ x hx => h1 rfl x (List.mem_cons_of_mem _ hx)) h2 (fun _ u hu => by simp at hu) (fun x hx w hw h0 => by
      match vs, hx with
      | y :: t, hx => exact h4 x (by rw [List.getLast?_cons_cons]; exact hx) w hw h0)
    rw [mrg_nl] at ih
    rw [List.nil_append, List.cons_append, mrg_cc u0 v, if_neg (by omega), if_pos c]
    rw [List.nil_append] at ih
    rw [ih, mrg_nl]
    rfl
  | n + 1, u :: us, [], hn, hU, hV, h1, h2, h3, h4 => by
    have c := h3 rfl u (by simp)
    have ih := mrg_cross (u0 := u0) (v0 := v0) (U2 := U2) (V2 := V2) n us [] (by simp at hn ⊢; omega) hU.tail hV (fun _ u hu => by simp at hu) (fun x hx w hw h0 => by
      match us, hx with
      | y :: t, hx => exact h2 x (by rw [List.getLast?_cons_cons]; exact hx) w hw h0) (fun _ x hx => h3 rfl x (List.mem_cons_of_mem _ hx)) h4
    rw [mrg_nil] at ih
    rw [List.nil_append, List.cons_append, mrg_cc u v0, if_pos c]
    rw [List.nil_append] at ih
    rw [ih, mrg_nil]
    rfl
  | n + 1, u :: us, v :: vs, hn, hU, hV, h1, h2, h3, h4 => by
    have lu : ∀ x, us.getLast? = some x → ∀ w, posV w → 0 < cr2 x w → cr2 u0 w < 0 := fun x hx w hw h0 => by
      match us, hx with
      | y :: t, hx => exact h2 x (by rw [List.getLast?_cons_cons]; exact hx) w hw h0
    have lv : ∀ x, vs.getLast? = some x → ∀ w, posV w → 0 < cr2 x w → 0 < cr2 w v0 := fun x hx w hw h0 => by
      match vs, hx with
      | y :: t, hx => exact h4 x (by rw [List.getLast?_cons_cons]; exact hx) w hw h0
    have pu : posV u := hU.2 u (by simp)
    have pv : posV v := hV.2 v (by simp)
    rw [List.cons_append, List.cons_append, mrg, mrg]
    split
    · rename_i c
      rw [← List.cons_append, mrg_cross n us (v :: vs) (by simp at hn ⊢; omega) hU.tail hV (fun e x hx => ?_) lu (fun e => nomatch e) h4]
      · rfl
      · subst e
        refine h2 u rfl x (hV.2 x hx) ?_
        rcases List.mem_cons.1 hx with rfl | hx
        · exact c
        · exact (cr_tr pu pv (hV.2 x (List.mem_cons_of_mem _ hx)) (Int.le_of_lt c) (Int.le_of_lt (hV.aft hx))).2 (.inl c)
    · split
      · rename_i c c'
        have c2 : 0 < cr2 v u := by rw [cr2_anti]; omega
        rw [← List.cons_append, mrg_cross n (u :: us) vs (by simp at hn ⊢; omega) hU hV.tail (fun e => nomatch e) h2 (fun e x hx => ?_) lv]
        · rfl
        · subst e
          refine h4 v rfl x (hU.2 x hx) ?_
          rcases List.mem_cons.1 hx with rfl | hx
          · exact c2
          · exact (cr_tr pv pu (hU.2 x (List.mem_cons_of_mem _ hx)) (Int.le_of_lt c2) (Int.le_of_lt (hU.aft hx))).2 (.inl c2)
      · rename_i c c'
        have c0 : cr2 u v = 0 := by omega
        have c1 : cr2 v u = 0 := by rw [cr2_anti, c0]; rfl
        rw [mrg_cross n us vs (by simp at hn ⊢; omega) hU.tail hV.tail (fun e x hx => ?_) lu (fun e x hx => ?_) lv]
        · rfl
        · subst e
          exact h2 u rfl x (hV.2 x (List.mem_cons_of_mem _ hx)) ((cr_tr pu pv (hV.2 x (List.mem_cons_of_mem _ hx)) (by omega) (Int.le_of_lt (hV.aft hx))).2 (.inr (hV.aft hx)))
        · subst e
          exact h4 v rfl x (hU.2 x (List.mem_cons_of_mem _ hx)) ((cr_tr pv pu (hU.2 x (List.mem_cons_of_mem _ hx)) (by omega) (Int.le_of_lt (hU.aft hx))).2 (.inr (hU.aft hx)))
theorem cr2_ng (a b : Pt) : cr2 (ngP a) (ngP b) = cr2 a b := by unfold cr2 ngP; simp only; grind
theorem adP_ng (a b : Pt) : adP (ngP a) (ngP b) = ngP (adP a b) := by unfold adP ngP; ext <;> simp <;> omega
theorem dif_ng (a b : Pt) : dif (ngP a) (ngP b) = ngP (dif a b) := by unfold dif ngP; ext <;> simp <;> omega
theorem mrg_ng : ∀ (n : Nat) (u v : List Pt), u.length + v.length ≤ n → mrg (ngL u) (ngL v) = ngL (mrg u v)
  | _, [], v, _ => by show mrg [] _ = _; rw [mrg, mrg]
  | _, u :: us, [], _ => by show mrg _ [] = _; rw [mrg_nil, mrg_nil]
  | 0, _ :: _, _ :: _, hn => by simp at hn
  | n + 1, u :: us, v :: vs, hn => by
    have i1 := mrg_ng n us (v :: vs) (by simp at hn ⊢; omega)
    have i2 := mrg_ng n (u :: us) vs (by simp at hn ⊢; omega)
    have i3 := mrg_ng n us vs (by simp at hn ⊢; omega)
    show mrg (ngP u :: ngL us) (ngP v :: ngL vs) = _
    rw [mrg, mrg, cr2_ng]
    split
    · show _ = ngP u :: ngL _
      rw [← i1]
      rfl
    · split
      · show _ = ngP v :: ngL _
        rw [← i2]
        rfl
      · show _ = ngP (adP u v) :: ngL _
        rw [← i3, adP_ng]
theorem sd_ng : ∀ (l : List Pt), sdL (ngL l) = ngL (sdL l)
  | [] => rfl
  | [_] => rfl
  | a :: b :: t => by
    show dif (ngP b) (ngP a) :: sdL (ngL (b :: t)) = ngP (dif b a) :: ngL (sdL (b :: t))
    rw [dif_ng, sd_ng (b :: t)]
theorem cumP_ng : ∀ (vs : List Pt) (p : Pt), cumP (ngP p) (ngL vs) = ngL (cumP p vs)
  | [], p => rfl
  | v :: vs, p => by
    show ngP p :: cumP (adP (ngP p) (ngP v)) (ngL vs) = ngP p :: ngL (cumP (adP p v) vs)
    rw [adP_ng, cumP_ng vs]
theorem ngL_rev (l : List Pt) : ngL l.reverse = (ngL l).reverse := by unfold ngL; rw [List.map_reverse]
theorem low_g {s : List Pt} (h : Asc s) (h0 : s ≠ []) : ChI (fun q => q ∈ hulL s) (lowR s) := by
  by_cases h3 : 3 ≤ s.length
  · exact (low_ok h h0).sub (fun q hq => hul_in h hq) fun z hz => low_hul h h3 hz
  · have e : hulL s = s := by unfold hulL; rw [if_pos (by omega)]
    rw [e]
    exact low_ok h h0
theorem upp_g {s : List Pt} (h : Asc s) (h0 : s ≠ []) : ChI (fun q => ngP q ∈ hulL s) (ngL (uppR s)) := by
  by_cases h3 : 3 ≤ s.length
  · exact (upp_ok h h0).sub (fun q hq => hul_in h hq) fun z hz => upp_hul h h3 (mem_ngL.1 hz)
  · have e : hulL s = s := by unfold hulL; rw [if_pos (by omega)]
    rw [e]
    exact upp_ok h h0
section sums
variable {s t w : List Pt} (hs : Asc s) (ht : Asc t) (hw : Asc w) (s0 : s ≠ []) (t0 : t ≠ []) (w0 : w ≠ []) (e : ∀ z, z ∈ w ↔ smS (fun q => q ∈ hulL s) (fun q => q ∈ hulL t) z)
include hs ht hw s0 t0 w0 e
theorem sum_low {p q : Pt} {A B : List Pt} (eA : (lowR s).reverse = p :: A) (eB : (lowR t).reverse = q :: B) : (lowR w).reverse = cumP (adP p q) (mrg (sdL (p :: A)) (sdL (q :: B))) := by
  have h := low_g hs s0
  have g := low_g ht t0
  rw [← List.reverse_reverse (lowR s), eA] at h
  rw [← List.reverse_reverse (lowR t), eB] at g
  have := ((chi_sum h g).ext fun z => (e z).symm).uniq (low_ok hw w0)
  rw [← this, List.reverse_reverse]
theorem sum_upp {p q : Pt} {A B : List Pt} (eA : (uppR s).reverse = p :: A) (eB : (uppR t).reverse = q :: B) : (uppR w).reverse = cumP (adP p q) (mrg (sdL (p :: A)) (sdL (q :: B))) := by
  have h := upp_g hs s0
  have g := upp_g ht t0
  rw [← List.reverse_reverse (ngL (uppR s)), ← ngL_rev, eA] at h
  rw [← List.reverse_reverse (ngL (uppR t)), ← ngL_rev, eB] at g
  have k := chi_sum (p := ngP p) (q := ngP q) (A := ngL A) (B := ngL B) h g
  have k1 : ChI (fun z => ngP z ∈ w) (cumP (adP (ngP p) (ngP q)) (mrg (sdL (ngP p :: ngL A)) (sdL (ngP q :: ngL B)))).reverse := k.ext fun z => by
    rw [e]
    constructor
    · rintro ⟨a, b, ha, hb, rfl⟩
      exact ⟨ngP a, ngP b, ha, hb, (adP_ng a b).symm⟩
    · rintro ⟨a, b, ha, hb, hz⟩
      refine ⟨ngP a, ngP b, by show ngP (ngP a) ∈ hulL s; rw [ngP_ng]; exact ha, by show ngP (ngP b) ∈ hulL t; rw [ngP_ng]; exact hb, ?_⟩
      rw [adP_ng, ← hz, ngP_ng]
  have := k1.uniq (upp_ok hw w0)
  have e1 : sdL (ngP p :: ngL A) = ngL (sdL (p :: A)) := sd_ng (p :: A)
  have e2 : sdL (ngP q :: ngL B) = ngL (sdL (q :: B)) := sd_ng (q :: B)
  rw [e1, e2, mrg_ng _ _ _ (Nat.le_refl _), adP_ng, cumP_ng, ← ngL_rev] at this
  have := congrArg ngL this
  rw [ngL_ng, ngL_ng] at this
  rw [← this, List.reverse_reverse]
end sums
theorem rev_ends {R : List Pt} (h : 2 ≤ R.length) : ∃ A, R.reverse = R.getD (R.length - 1) (0, 0) :: (A ++ [R.getD 0 (0, 0)]) := by
  match R, h with
  | b :: r, h =>
    rcases List.eq_nil_or_concat r with rfl | ⟨r', l, rfl⟩
    · simp at h
    · refine ⟨r'.reverse, ?_⟩
      simp [List.getD]
theorem hul_shape {s : List Pt} (h : Asc s) (h2 : 2 ≤ s.length) : ∃ p m A U, (lowR s).reverse = p :: (A ++ [m]) ∧ (uppR s).reverse = m :: (U ++ [p]) ∧ hulL s = (p :: A) ++ (m :: U) := by
  have s0 : s ≠ [] := by intro e; rw [e] at h2; simp at h2
  obtain ⟨_, _, e1, e2, _, _⟩ := hul_ends h s0
  have l1 : 2 ≤ (lowR s).length := by rw [low_len]; exact chn_ge h2
  have l2 : 2 ≤ (uppR s).length := by rw [upp_len]; exact chn_ge (by rw [revP_len]; exact h2)
  obtain ⟨A, eA⟩ := rev_ends l1
  obtain ⟨U, eU⟩ := rev_ends l2
  rw [← e1, e2] at eU
  refine ⟨_, _, A, U, eA, eU, ?_⟩
  rw [hul_of h2, eA, eU]
  have m1 : (lowR s).length - 1 = A.length + 1 := by
    have := congrArg List.length eA
    simp at this
    omega
  have m2 : (uppR s).length - 1 = U.length + 1 := by
    have := congrArg List.length eU
    simp at this
    omega
  rw [m1, m2]
  simp
theorem sd_app : ∀ (X : List Pt) (m : Pt) (Y : List Pt), sdL (X ++ m :: Y) = sdL (X ++ [m]) ++ sdL (m :: Y)
  | [], m, Y => rfl
  | [x], m, Y => rfl
  | x :: y :: X, m, Y => by
    show dif y x :: sdL ((y :: X) ++ m :: Y) = dif y x :: (sdL ((y :: X) ++ [m]) ++ sdL (m :: Y))
    rw [sd_app (y :: X) m Y]
theorem cumP_app : ∀ (X Y : List Pt) (p : Pt), cumP p (X ++ Y) = (cumP p X).dropLast ++ cumP (endP p X) Y
  | [], Y, p => rfl
  | v :: vs, Y, p => by
    show p :: cumP (adP p v) (vs ++ Y) = (p :: cumP (adP p v) vs).dropLast ++ cumP (endP (adP p v) vs) Y
    rw [cumP_app vs Y]
    obtain ⟨t, e⟩ := cumP_cons vs (adP p v)
    rw [e]
    rfl
theorem cumP_mv : ∀ (vs : List Pt) (a p : Pt), cumP (adP a p) vs = (cumP p vs).map (adP a)
  | [], a, p => rfl
  | v :: vs, a, p => by
    show adP a p :: cumP (adP (adP a p) v) vs = adP a p :: (cumP (adP p v) vs).map (adP a)
    rw [ad_r, cumP_mv vs]
theorem endP_sd2 : ∀ (A : List Pt) (p m : Pt), endP p (sdL (p :: (A ++ [m]))) = m
  | [], p, m => ad_dif p m
  | a :: A, p, m => by
    show endP (adP p (dif a p)) (sdL (a :: (A ++ [m]))) = m
    rw [ad_dif]
    exact endP_sd2 A a m
/-- The sides of a hull, all around. -/
def sdC (h : List Pt) : List Pt := sdL (h ++ h.take 1)
/-- The points that a merge leads to, but the first. -/
def addL (g h : List Pt) : List Pt := adP (g.getD 0 (0, 0)) (h.getD 0 (0, 0)) :: (cumP (adP (g.getD 0 (0, 0)) (h.getD 0 (0, 0))) (mrg (sdC g) (sdC h))).tail.filter fun z => decide (z ≠ adP (g.getD 0 (0, 0)) (h.getD 0 (0, 0)))
theorem cross_ok {S : Pt → Prop} {p m b : Pt} {UL : List Pt} (h : LCh S [] p UL) (e : endP p UL = m) (hb : S b) (hp : posV (ngP (dif b m))) : ∀ x, UL.getLast? = some x → ∀ w, posV w → 0 < cr2 x w → cr2 (dif b m) w < 0 := by
  intro x hx w hw h0
  obtain ⟨h1, h2⟩ := lch_last h x hx
  rw [e] at h1
  have a1 := h1 b hb
  have a2 : cr2 (ngP (dif b m)) x = cr2 x (dif b m) := by unfold cr2 ngP; simp only; grind
  have a3 := (cr_tr hp h2 hw (by omega) (Int.le_of_lt h0)).2 (.inr h0)
  have a4 : cr2 (ngP (dif b m)) w = - cr2 (dif b m) w := by unfold cr2 ngP; simp only; grind
  omega
/-- The sides of a hull with two points at least. -/
theorem hul_sides {s : List Pt} (h : Asc s) (h2 : 2 ≤ s.length) : ∃ p m A U b U', (lowR s).reverse = p :: (A ++ [m]) ∧ (uppR s).reverse = m :: (U ++ [p]) ∧ hulL s = (p :: A) ++ (m :: U) ∧ U ++ [p] = b :: U' ∧
    sdC (hulL s) = sdL (p :: (A ++ [m])) ++ sdL (m :: (U ++ [p])) ∧ LCh (fun q => q ∈ hulL s) [] p (sdL (p :: (A ++ [m]))) ∧ endP p (sdL (p :: (A ++ [m]))) = m ∧ sdL (p :: (A ++ [m])) ≠ [] ∧
    (∀ x, (sdL (p :: (A ++ [m]))).getLast? = some x → ∀ w, posV w → 0 < cr2 x w → cr2 (dif b m) w < 0) := by
  have s0 : s ≠ [] := by intro e; rw [e] at h2; simp at h2
  obtain ⟨p, m, A, U, eA, eU, eH⟩ := hul_shape h h2
  obtain ⟨b, U', eb⟩ : ∃ b U', U ++ [p] = b :: U' := by
    cases U
    · exact ⟨_, _, rfl⟩
    · exact ⟨_, _, rfl⟩
  have L := low_g h s0
  rw [← List.reverse_reverse (lowR s), eA] at L
  have L1 := lch_of (A ++ [m]) p [] (by rw [List.append_nil]; exact L)
  have V := upp_g h s0
  rw [← List.reverse_reverse (ngL (uppR s)), ← ngL_rev, eU] at V
  have V1 := lch_of (ngL (U ++ [p])) (ngP m) [] (by rw [List.append_nil]; exact V)
  have hb : b ∈ hulL s := by
    have : b ∈ U ++ [p] := by rw [eb]; simp
    rw [eH]
    rcases List.mem_append.1 this with h | h
    · simp [h]
    · simp at h
      simp [h]
  have he : endP p (sdL (p :: (A ++ [m]))) = m := endP_sd2 A p m
  refine ⟨p, m, A, U, b, U', eA, eU, eH, eb, ?_, L1, he, ?_, ?_⟩
  · unfold sdC
    rw [eH]
    have : (p :: A ++ m :: U) ++ (p :: A ++ m :: U).take 1 = (p :: A) ++ m :: (U ++ [p]) := by simp
    rw [this, sd_app]
    rfl
  · cases A <;> simp [sdL]
  · refine cross_ok L1 he hb ?_
    rw [eb] at V1
    have : LCh (fun q => ngP q ∈ hulL s) [] (ngP m) (dif (ngP b) (ngP m) :: sdL (ngP b :: ngL U')) := V1
    have := this.2.1
    rwa [dif_ng] at this
/-- The merge of the sides of two hulls leads around the hull of the sums. -/
theorem add_two {s t w : List Pt} (hs : Asc s) (ht : Asc t) (hw : Asc w) (s2 : 2 ≤ s.length) (t2 : 2 ≤ t.length) (e : ∀ z, z ∈ w ↔ smS (fun q => q ∈ hulL s) (fun q => q ∈ hulL t) z) : addL (hulL s) (hulL t) = hulL w := by
  have s0 : s ≠ [] := by intro e; rw [e] at s2; simp at s2
  have t0 : t ≠ [] := by intro e; rw [e] at t2; simp at t2
  obtain ⟨p, m, A, U, b, U', eA, eU, eH, eb, eC, L, eE, n0, cU⟩ := hul_sides hs s2
  obtain ⟨q, n, B, V, c, V', fA, fU, fH, fb, fC, M, fE, k0, cV⟩ := hul_sides ht t2
  have w2 : 2 ≤ w.length := by
    have nd := hul_nodup hs
    rw [eH] at nd
    have hpm : p ≠ m := by
      have := (List.nodup_append.1 nd).2.2 p (by simp) m (by simp)
      exact this
    have i1 : adP p q ∈ w := (e _).2 ⟨p, q, by rw [eH]; simp, by rw [fH]; simp, rfl⟩
    have i2 : adP m q ∈ w := (e _).2 ⟨m, q, by rw [eH]; simp, by rw [fH]; simp, rfl⟩
    refine two_of i1 i2 fun h => hpm ?_
    unfold adP at h
    obtain ⟨p1, p2⟩ := p
    obtain ⟨m1, m2⟩ := m
    simp only [Prod.mk.injEq] at h ⊢
    omega
  have w0 : w ≠ [] := by intro e; rw [e] at w2; simp at w2
  obtain ⟨r, o, X, Y, g1, g2, g3⟩ := hul_shape hw w2
  have k1 := sum_low hs ht hw s0 t0 w0 e eA fA
  have k2 := sum_upp hs ht hw s0 t0 w0 e eU fU
  have x1 : mrg (sdC (hulL s)) (sdC (hulL t)) = mrg (sdL (p :: (A ++ [m]))) (sdL (q :: (B ++ [n]))) ++ mrg (sdL (m :: (U ++ [p]))) (sdL (n :: (V ++ [q]))) := by
    rw [eC, fC, eb, fb]
    refine mrg_cross _ _ _ (Nat.le_refl _) (lch_asc L) (lch_asc M) (fun h => absurd h n0) cU (fun h => absurd h k0) fun x hx w hw h0 => ?_
    have := cV x hx w hw h0
    rw [cr2_anti]
    omega
  have x2 : endP (adP p q) (mrg (sdL (p :: (A ++ [m]))) (sdL (q :: (B ++ [n])))) = adP m n := by rw [endP_mrg _ _ _ (Nat.le_refl _), eE, fE]
  have p1 : (hulL s).getD 0 (0, 0) = p := by rw [eH]; rfl
  have p2 : (hulL t).getD 0 (0, 0) = q := by rw [fH]; rfl
  unfold addL
  rw [p1, p2, x1, cumP_app, x2, ← k1, ← k2, g1, g2]
  have hr : adP p q = r := by
    rw [g1] at k1
    obtain ⟨t', e'⟩ := cumP_cons (mrg (sdL (p :: (A ++ [m]))) (sdL (q :: (B ++ [n])))) (adP p q)
    rw [e'] at k1
    exact (List.cons.inj k1).1.symm
  rw [hr, g3]
  have nd := hul_nodup hw
  rw [g3] at nd
  have nd' := (List.nodup_cons.1 nd).1
  have x3 : (r :: (X ++ [o])).dropLast ++ o :: (Y ++ [r]) = r :: (X ++ o :: Y ++ [r]) := by
    rw [show r :: (X ++ [o]) = (r :: X) ++ [o] from rfl, List.dropLast_concat]
    simp
  rw [x3, List.tail_cons, List.filter_append, List.filter_eq_self.2 fun z hz => ?_]
  · simp
  · refine decide_eq_true fun h => nd' ?_
    rw [← h]
    exact hz
theorem mrg_z (v : Pt) (vs : List Pt) : mrg [(0, 0)] (v :: vs) = v :: vs := by
  have e1 : cr2 (0, 0) v = 0 := by unfold cr2; simp
  rw [mrg, if_neg (by omega), if_neg (by omega), mrg]
  unfold adP
  simp
theorem mrg_z' (v : Pt) (vs : List Pt) : mrg (v :: vs) [(0, 0)] = v :: vs := by
  have e1 : cr2 v (0, 0) = 0 := by unfold cr2; simp
  rw [mrg, if_neg (by omega), if_neg (by omega), mrg_nil]
  unfold adP
  simp
theorem sdC_cons (q : Pt) (B : List Pt) : ∃ v vs, sdC (q :: B) = v :: vs := by
  cases B
  · exact ⟨_, _, rfl⟩
  · exact ⟨_, _, rfl⟩
theorem sdC_one (a : Pt) : sdC [a] = [(0, 0)] := by
  unfold sdC
  show [dif a a] = _
  unfold dif
  simp
theorem add_one (a q : Pt) (B : List Pt) (hn : (q :: B).Nodup) : addL [a] (q :: B) = (q :: B).map (adP a) := by
  obtain ⟨v, vs, e⟩ := sdC_cons q B
  unfold addL
  rw [sdC_one, e, mrg_z, ← e]
  show adP a q :: ((cumP (adP a q) (sdC (q :: B))).tail.filter fun z => decide (z ≠ adP a q)) = _
  have : sdC (q :: B) = sdL (q :: (B ++ [q])) := rfl
  rw [this, cumP_mv, cumP_sd]
  simp only [List.map_cons, List.map_append, List.tail_cons, List.filter_append, List.map_nil]
  rw [List.filter_eq_self.2 fun z hz => ?_]
  · simp
  · obtain ⟨y, hy, rfl⟩ := List.mem_map.1 hz
    refine decide_eq_true fun h => (List.nodup_cons.1 hn).1 ?_
    have : y = q := by
      unfold adP at h
      obtain ⟨y1, y2⟩ := y
      obtain ⟨q1, q2⟩ := q
      simp only [Prod.mk.injEq] at h ⊢
      omega
    rw [← this]
    exact hy
theorem add_one' (a q : Pt) (B : List Pt) : addL (q :: B) [a] = addL [a] (q :: B) := by
  obtain ⟨v, vs, e⟩ := sdC_cons q B
  unfold addL
  rw [sdC_one, e, mrg_z, mrg_z']
  show adP q a :: ((cumP (adP q a) (v :: vs)).tail.filter fun z => decide (z ≠ adP q a)) = adP a q :: ((cumP (adP a q) (v :: vs)).tail.filter fun z => decide (z ≠ adP a q))
  rw [adP_comm]
theorem adP_mv (a : Pt) (l : List Pt) : l.map (adP a) = mvL a.1 a.2 l := by
  unfold mvL
  refine List.map_congr_left fun z _ => ?_
  unfold adP mvP
  simp only [Int.add_comm]
theorem hul_self {t : List Pt} (ht : Asc t) : hulL (srtL (hulL t)) = hulL t := hul_mid ht (srtL_asc _) (fun q hq => hul_in ht ((srtL_mem _ _).1 hq)) fun v hv => (srtL_mem _ _).2 hv
theorem hul_move {t w : List Pt} (a : Pt) (ht : Asc t) (hw : Asc w) (e : ∀ z, z ∈ w ↔ z ∈ (hulL t).map (adP a)) : (hulL t).map (adP a) = hulL w := by
  have : w = srtL (mvL a.1 a.2 (hulL t)) := asc_ext hw (srtL_asc _) fun z => by rw [srtL_mem, e, adP_mv]
  rw [this, srtL_mv, hul_mv, hul_self ht, adP_mv]
theorem hul_neK {t : List Pt} (t0 : t ≠ []) (ht : Asc t) : ∃ q B, hulL t = q :: B := by
  by_cases h2 : 2 ≤ t.length
  · obtain ⟨p, m, A, U, _, _, e⟩ := hul_shape ht h2
    exact ⟨p, _, e⟩
  · match t, t0, h2 with
    | [a], _, _ => exact ⟨a, [], rfl⟩
    | _ :: _ :: _, _, h => simp at h
/-- The points that the merge of the sides of two hulls leads to are the hull of the sums. -/
theorem add_hul {s t w : List Pt} (hs : Asc s) (ht : Asc t) (hw : Asc w) (s0 : s ≠ []) (t0 : t ≠ []) (e : ∀ z, z ∈ w ↔ smS (fun q => q ∈ hulL s) (fun q => q ∈ hulL t) z) : addL (hulL s) (hulL t) = hulL w := by
  by_cases s2 : 2 ≤ s.length
  · by_cases t2 : 2 ≤ t.length
    · exact add_two hs ht hw s2 t2 e
    · match t, t0, t2 with
      | _ :: _ :: _, _, h => simp at h
      | [a], _, _ =>
        obtain ⟨q, B, eB⟩ := hul_neK s0 hs
        have e1 : hulL [a] = [a] := rfl
        have nd := hul_nodup hs
        rw [e1, eB, add_one', add_one a q B (by rw [← eB]; exact nd), ← eB]
        refine hul_move a hs hw fun z => ?_
        rw [e, e1, List.mem_map]
        constructor
        · rintro ⟨x, y, hx, hy, rfl⟩
          rw [List.mem_singleton] at hy
          subst hy
          exact ⟨x, hx, adP_comm _ _⟩
        · rintro ⟨x, hx, rfl⟩
          exact ⟨x, a, hx, by simp, adP_comm _ _⟩
  · match s, s0, s2 with
    | _ :: _ :: _, _, h => simp at h
    | [a], _, _ =>
      obtain ⟨q, B, eB⟩ := hul_neK t0 ht
      have e1 : hulL [a] = [a] := rfl
      have nd := hul_nodup ht
      rw [e1, eB, add_one a q B (by rw [← eB]; exact nd), ← eB]
      refine hul_move a ht hw fun z => ?_
      rw [e, e1, List.mem_map]
      constructor
      · rintro ⟨x, y, hx, hy, rfl⟩
        rw [List.mem_singleton] at hx
        subst hx
        exact ⟨y, hy, rfl⟩
      · rintro ⟨y, hy, rfl⟩
        exact ⟨a, y, by simp, hy, rfl⟩
end Go.Proofs.Ytbfoheblcoakiaa
namespace Go.Proofs.Ytbfoheblcoakiaa
set_option linter.all false
open Go.RowKit
def pt2 (x y : Int) : Bool := decide (-2000 ≤ x ∧ x ≤ 2000 ∧ -2000 ≤ y ∧ y ≤ 2000)
theorem pt2_iff {x y : Int} : pt2 x y = true ↔ (-2000 ≤ x ∧ x ≤ 2000 ∧ -2000 ≤ y ∧ y ≤ 2000) := by unfold pt2; exact decide_eq_true_iff
def allW (ps : List Pt) : Bool := ps.all fun p => pt2 p.1 p.2
theorem allW_at {ps : List Pt} (h : allW ps = true) {j : Nat} (hj : j < ps.length) : pt2 (ps.getD j (0, 0)).1 (ps.getD j (0, 0)).2 = true := List.all_eq_true.1 h (ps.getD j (0, 0)) (by simp [hj])
theorem allW_push {st : List Pt} {p : Pt} (h : allW st = true) (hp : pt2 p.1 p.2 = true) : allW (pushP st p) = true := by
  unfold pushP
  refine List.all_eq_true.2 fun z hz => ?_
  rcases List.mem_append.1 hz with hz | hz
  · exact List.all_eq_true.1 h z (List.mem_of_mem_take hz)
  · rw [List.mem_singleton.1 hz]
    exact hp
theorem allW_rev {ps : List Pt} (h : allW ps = true) : allW (revP ps) = true := List.all_eq_true.2 fun z hz => List.all_eq_true.1 h z (List.mem_reverse.1 hz)
theorem allW_srt {ps : List Pt} (h : allW ps = true) : allW (srtL ps) = true := List.all_eq_true.2 fun z hz => List.all_eq_true.1 h z ((srtL_mem ps z).1 hz)
end Go.Proofs.Ytbfoheblcoakiaa
