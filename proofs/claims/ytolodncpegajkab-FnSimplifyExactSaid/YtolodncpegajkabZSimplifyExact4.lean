/-
  Texts that the proof needs, merged. Written by an AI agent.
-/
import Derived.Orders
import Derived.Below
import Derived.OrdersIn
import Derived.Deep.LoopGhost
import Derived.WalkKit
import Derived.Laws.CopyRow
import Derived.Laws.AppendOwn
import Derived.Laws.Slices
import Derived.Laws.MakeOwn
import Derived.Test.YtolodncpegajkabRows
import Derived.ProofKit
import Derived.OpenShut
import Derived.Carry
import Derived.IntWalk
import Derived.Test.YtolodncpegajkabProg
import Derived.WalkSpells
import Derived.WalkLawsBesides
import Derived.Lib.Hide
import Derived.Deep.QuietTactic
import Derived.BigQuiet
import Derived.KernelRfl
import Derived.Deep.RegionHeld3
import Derived.LoopTactic
import Derived.Laws.StructEq
import Derived.Laws.Tables
import Derived.RangeFuncNested
import Derived.RangeFuncLeaves
import Derived.Deep.Slices
import Derived.Deep.Fields
import Derived.ChangeSame
import Derived.Shelf.SlSortCmp.WholeK
import Derived.Sort.Grow
import Derived.Deep.DeepCutAuto
import Derived.Shelf.SlSortCmp.NoneTotal
import Derived.Test.YtolodncpegajkabZSimplifyExact3
namespace Go.Proofs.Ytolodncpegajkab
set_option linter.all false
open Go.RowKit
def wrK (ps : List Pt) (a b : Nat) : Nat := wrN ps a b (b - (a + 1))
theorem wrK_bd (ps : List Pt) {a b : Nat} (h : a < b) : a ≤ wrK ps a b ∧ wrK ps a b < b := by
  have := wrN_bd ps a b (b - (a + 1))
  unfold wrK
  omega
/-- Is no point between two others to be kept? -/
def stpB (ps : List Pt) (a b : Nat) (most : Int) : Bool := decide (wrK ps a b = a) || decide (dvN (gP ps a) (gP ps b) (gP ps (wrK ps a b)) ≤ most * dvD (gP ps a) (gP ps b) (gP ps (wrK ps a b)))
def mxN (f : Pt → Int) (qs : List Pt) : Nat → Nat
  | 0 => 0
  | m + 1 => if f (qs.getD (mxN f qs m) (0, 0)) < f (qs.getD m (0, 0)) then m else mxN f qs m
theorem mxN_st (f : Pt → Int) (qs : List Pt) (m : Nat) : mxN f qs (m + 1) = if f (qs.getD (mxN f qs m) (0, 0)) < f (qs.getD m (0, 0)) then m else mxN f qs m := rfl
theorem mxN_lt (f : Pt → Int) (qs : List Pt) : ∀ m, 0 < m → mxN f qs m < m
  | 0, h => by omega
  | m + 1, _ => by
    rcases Nat.eq_zero_or_pos m with rfl | h
    · rw [mxN_st]; split <;> simp [mxN]
    · have := mxN_lt f qs m h
      rw [mxN_st]; split <;> omega
theorem mxN_one (f : Pt → Int) (qs : List Pt) : mxN f qs 1 = 0 := by rw [mxN_st]; split <;> simp [mxN]
theorem ag_mxN (f : Pt → Int) (qs : List Pt) : ∀ m i, ag f qs m i (mxN f qs i) = mxN f qs (i + m)
  | 0, i => rfl
  | m + 1, i => by
    have := ag_mxN f qs m (i + 1)
    rw [show i + (m + 1) = i + 1 + m by omega, ← this]
    rfl
theorem fl_mxN {f : Pt → Int} {qs : List Pt} (h : 0 < qs.length) : fl f qs 0 (-1) = (mxN f qs qs.length : Nat) := by
  have e : ∀ n i b : Nat, i + n = qs.length → b < i → fl f qs i b = (ag f qs n i b : Nat) := by
    intro n
    induction n with
    | zero => intro i b h1 h2; rw [fl_end (by omega) (.inr (by omega))]; rfl
    | succ n ih =>
      intro i b h1 h2
      by_cases hlt : f (qs.getD b (0, 0)) < f (qs.getD i (0, 0))
      · rw [fl_yes (by omega) (by omega) (by rw [Int.toNat_natCast]; exact hlt), ih (i + 1) i (by omega) (by omega)]
        simp only [ag, hlt, if_true]
      · rw [fl_no (by omega) (by omega) (by rw [Int.toNat_natCast]; exact hlt), ih (i + 1) b (by omega) (by omega)]
        simp only [ag, hlt, if_false]
  have h1 := fl_first (f := f) (ps := qs) (i := 0) h (b := -1) (by omega)
  rw [h1]
  have := e (qs.length - 1) 1 0 (by omega) (by omega)
  rw [show (0 + 1 : Nat) = 1 from rfl, this]
  have k := ag_mxN f qs (qs.length - 1) 1
  rw [mxN_one, show 1 + (qs.length - 1) = qs.length by omega] at k
  rw [k]
theorem mul_lt_iff {x y s : Int} (h : 1 ≤ s) : x * s < y * s ↔ x < y := ⟨fun hh => Int.lt_of_mul_lt_mul_right hh (by omega), fun hh => Int.mul_lt_mul_of_pos_right hh (by omega)⟩
theorem mul_le_iff {x y s : Int} (h : 1 ≤ s) : x * s ≤ y * s ↔ x ≤ y := by
  have := mul_lt_iff (x := y) (y := x) h
  omega
theorem btr_sc {ps : List Pt} (hv : allV ps = true) (a b k j : Nat) : btr ps a b k j = decide (scS (gP ps a) (gP ps b) (gP ps j) < scS (gP ps a) (gP ps b) (gP ps k)) := by
  have e1 := sc_dv (gP ps a) (gP ps b) (gP ps j)
  have e2 := sc_dv (gP ps a) (gP ps b) (gP ps k)
  have d1 := (dv_bd (gP_v hv a) (gP_v hv b) (gP_v hv j)).2
  have d2 := (dv_bd (gP_v hv a) (gP_v hv b) (gP_v hv k)).2
  have s := scl_pos (gP ps a) (gP ps b)
  unfold btr
  refine decide_eq_decide.2 ?_
  generalize scS (gP ps a) (gP ps b) (gP ps j) = Fj at *
  generalize scS (gP ps a) (gP ps b) (gP ps k) = Fk at *
  generalize dvN (gP ps a) (gP ps b) (gP ps j) = Nj at *
  generalize dvN (gP ps a) (gP ps b) (gP ps k) = Nk at *
  generalize dvD (gP ps a) (gP ps b) (gP ps j) = Dj at *
  generalize dvD (gP ps a) (gP ps b) (gP ps k) = Dk at *
  generalize sclP (gP ps a) (gP ps b) = S at *
  rw [← mul_lt_iff (x := Nj * Dk) s, ← mul_lt_iff (x := Fj) (s := Dj * Dk) (by have := Int.mul_pos (a := Dj) (b := Dk) (by omega) (by omega); omega)]
  have k1 : Nj * Dk * S = Fj * (Dj * Dk) := by
    calc Nj * Dk * S = Nj * S * Dk := by grind
      _ = Fj * (Dj * Dk) := by rw [← e1]; grind
  have k2 : Nk * Dj * S = Fk * (Dj * Dk) := by
    calc Nk * Dj * S = Nk * S * Dj := by grind
      _ = Fk * (Dj * Dk) := by rw [← e2]; grind
  rw [k1, k2]
theorem sc_at (A B : Pt) : scS A B A = 0 := by
  have := sc_dv A B A
  rw [(dv_at A B).1, (dv_at A B).2] at this
  omega
theorem sc_nn {A B P : Pt} (ha : vP A) (hb : vP B) (hp : vP P) : 0 ≤ scS A B P := by
  have e := sc_dv A B P
  obtain ⟨n, d⟩ := dv_bd ha hb hp
  have s := scl_pos A B
  have : 0 ≤ dvN A B P * sclP A B := Int.mul_nonneg n.1 (by omega)
  rw [← e] at this
  exact Int.le_of_not_gt fun h => by
    have := Int.mul_neg_of_neg_of_pos h (show 0 < dvD A B P by omega)
    omega
theorem wr_mx {ps : List Pt} (hv : allV ps = true) {a b n : Nat} (hn : a + 1 + n ≤ ps.length) : ∀ m, 1 ≤ m → m ≤ n → wrN ps a b m = if 0 < scS (gP ps a) (gP ps b) (gP ps (a + 1 + mxN (fS (gP ps a) (gP ps b)) (subP ps (a + 1) n) m)) then a + 1 + mxN (fS (gP ps a) (gP ps b)) (subP ps (a + 1) n) m else a
  | 0, h, _ => by omega
  | m + 1, _, hm => by
    have get : ∀ i, i < n → (subP ps (a + 1) n).getD i (0, 0) = gP ps (a + 1 + i) := fun i hi => subP_get hi
    have nn := fun j => sc_nn (gP_v hv a) (gP_v hv b) (gP_v hv j)
    rw [wrN_st, btr_sc hv]
    rcases Nat.eq_zero_or_pos m with rfl | hp
    · rw [mxN_one, show wrN ps a b 0 = a from rfl, sc_at]
      by_cases h : 0 < scS (gP ps a) (gP ps b) (gP ps (a + 1 + 0))
      · rw [decide_eq_true h, cond_true, if_pos h]
      · rw [decide_eq_false h, cond_false, if_neg h]
    · have ih := wr_mx hv (b := b) hn m hp (by omega)
      have hlt := mxN_lt (fS (gP ps a) (gP ps b)) (subP ps (a + 1) n) m hp
      have st := mxN_st (fS (gP ps a) (gP ps b)) (subP ps (a + 1) n) m
      rw [get _ (by omega), get _ (by omega)] at st
      rw [ih]
      generalize mxN (fS (gP ps a) (gP ps b)) (subP ps (a + 1) n) m = i at *
      have n1 := nn (a + 1 + i)
      have n2 := nn (a + 1 + m)
      have fe : ∀ P, fS (gP ps a) (gP ps b) P = scS (gP ps a) (gP ps b) P := fun _ => rfl
      rw [fe, fe] at st
      by_cases g : scS (gP ps a) (gP ps b) (gP ps (a + 1 + i)) < scS (gP ps a) (gP ps b) (gP ps (a + 1 + m))
      · rw [if_pos g] at st
        rw [st, if_pos (show 0 < scS (gP ps a) (gP ps b) (gP ps (a + 1 + m)) by omega)]
        have : scS (gP ps a) (gP ps b) (gP ps (if 0 < scS (gP ps a) (gP ps b) (gP ps (a + 1 + i)) then a + 1 + i else a)) < scS (gP ps a) (gP ps b) (gP ps (a + 1 + m)) := by
          split
          · exact g
          · rw [sc_at]; omega
        rw [decide_eq_true this, cond_true]
      · rw [if_neg g] at st
        rw [st]
        have : ¬ scS (gP ps a) (gP ps b) (gP ps (if 0 < scS (gP ps a) (gP ps b) (gP ps (a + 1 + i)) then a + 1 + i else a)) < scS (gP ps a) (gP ps b) (gP ps (a + 1 + m)) := by
          split
          · exact g
          · rw [sc_at]; omega
        rw [decide_eq_false this, cond_false]
theorem res_wst {ps : List Pt} {a b : Nat} (hl : ps.length ≤ 1000) (hv : allV ps = true) (ha : a < ps.length) (hb : b < ps.length) : Res Try.prog 113 [.row ps.length (.ints (flat ps)), .v (iv a), .v (iv b)] (iv (wrK ps a b)) := by
  refine bodyV_res mixed ESm2_ok (m := 30) (n := 12) rfl ?_
  rw [tr_wstF]
  have w : IntKind.i64.wrap ((a : Int) + 1) = (a : Int) + 1 := wr (by omega)
  have f := flat_length ps
  simp only [ptsA_flat, Int.toNat_natCast, Tree.ok]
  repeat' (first | exact True.intro | exact rfl | assumption | omega | refine And.intro ?_ ?_)
def farV (ps : List Pt) (a b : Nat) (most : Int) : Value := .tuple #[iv (bif stpB ps a b most then 0 else wrK ps a b), .bool (!(stpB ps a b most))]
/-- When the program keeps no point. -/
theorem stp_is {ps : List Pt} (hv : allV ps = true) {a b : Nat} (hab : a < b) (hb : b < ps.length) {most : Int} (hm : 0 ≤ most) {i : Nat} (hi : i = mxN (fS (gP ps a) (gP ps b)) (subP ps (a + 1) (b - (a + 1))) (b - (a + 1))) (hn : 1 ≤ b - (a + 1)) :
    stpB ps a b most = decide (scS (gP ps a) (gP ps b) (gP ps (a + 1 + i)) ≤ most * sclP (gP ps a) (gP ps b)) ∧ (stpB ps a b most = false → wrK ps a b = a + 1 + i) := by
  have wm := wr_mx hv (a := a) (b := b) (n := b - (a + 1)) (by omega) (b - (a + 1)) hn (Nat.le_refl _)
  rw [← hi] at wm
  change wrK ps a b = _ at wm
  have s := scl_pos (gP ps a) (gP ps b)
  have nn := sc_nn (gP_v hv a) (gP_v hv b) (gP_v hv (a + 1 + i))
  have ms : 0 ≤ most * sclP (gP ps a) (gP ps b) := Int.mul_nonneg hm (by omega)
  unfold stpB
  by_cases h : 0 < scS (gP ps a) (gP ps b) (gP ps (a + 1 + i))
  · rw [if_pos h] at wm
    rw [wm, decide_eq_false (show ¬ a + 1 + i = a by omega), Bool.false_or]
    refine ⟨decide_eq_decide.2 ?_, fun _ => rfl⟩
    have e := sc_dv (gP ps a) (gP ps b) (gP ps (a + 1 + i))
    have d := (dv_bd (gP_v hv a) (gP_v hv b) (gP_v hv (a + 1 + i))).2
    generalize scS (gP ps a) (gP ps b) (gP ps (a + 1 + i)) = F at *
    generalize dvN (gP ps a) (gP ps b) (gP ps (a + 1 + i)) = N at *
    generalize dvD (gP ps a) (gP ps b) (gP ps (a + 1 + i)) = D at *
    generalize sclP (gP ps a) (gP ps b) = S at *
    rw [← mul_le_iff (x := N) s, ← mul_le_iff (x := F) (s := D) (by omega), e, show most * D * S = most * S * D by grind]
  · rw [if_neg h] at wm
    rw [wm, decide_eq_true rfl, Bool.true_or, decide_eq_true (by omega)]
    exact ⟨rfl, fun hh => by cases hh⟩
set_option maxRecDepth 100000 in
set_option maxHeartbeats 4000000 in
theorem res_far {ps : List Pt} {a b : Nat} {most : Int} (hl : ps.length ≤ 1000) (hv : allV ps = true) (hab : a < b) (hb : b < ps.length) (hm : 0 ≤ most ∧ most ≤ 8000000) : Res Try.prog 69 [.row ps.length (.ints (flat ps)), .v (iv a), .v (iv b), .v (iv most)] (farV ps a b most) := by
  refine bodyV_res mixed ESm2_ok (m := 30) (n := 12) rfl ?_
  rw [tr_farF]
  have w : IntKind.i64.wrap ((a : Int) + 1) = ((a + 1 : Nat) : Int) := by rw [wr (by omega)]; omega
  have f := flat_length ps
  have f2 : ps.length * 2 / 2 = ps.length := by omega
  have hsz : Try.prog.types[(44 : Nat)].size = 2 := by kernel_rfl
  have f3 : (a + 1) * 2 / 2 = a + 1 := by omega
  simp only [w, hsz, bnd_some, Int.toNat_natCast, Nat.zero_add, flat_length, flat_get0, flat_get1, f2, f3, ptsA_flat]
  have ql : (subP ps (a + 1) (b - (a + 1))).length = b - (a + 1) := subP_len (by omega)
  have v1 := gP_v hv a
  have v2 := gP_v hv b
  have t1 := vP_pt v1
  have t2 := vP_pt v2
  have ga : ((ps.getD a (0, 0)).1, (ps.getD a (0, 0)).2) = gP ps a := rfl
  have gb : ((ps.getD b (0, 0)).1, (ps.getD b (0, 0)).2) = gP ps b := rfl
  simp only [ga, gb]
  unfold gP at t1 t2
  simp only [Tree.ok]
  repeat (refine And.intro (by first | exact trivial | assumption | omega) ?_)
  rcases Nat.eq_zero_or_pos (b - (a + 1)) with h0 | hp
  · have e : fl (fS (gP ps a) (gP ps b)) (subP ps (a + 1) (b - (a + 1))) 0 (-1) = -1 := fl_end (by omega) (.inl rfl)
    have k : wrK ps a b = a := by unfold wrK; rw [h0]; rfl
    have sb : stpB ps a b most = true := by unfold stpB; rw [k, decide_eq_true rfl, Bool.true_or]
    unfold farV
    rw [e, sb]
    exact rfl
  · have e := fl_mxN (f := fS (gP ps a) (gP ps b)) (qs := subP ps (a + 1) (b - (a + 1))) (by omega)
    rw [ql] at e
    have hlt := mxN_lt (fS (gP ps a) (gP ps b)) (subP ps (a + 1) (b - (a + 1))) (b - (a + 1)) hp
    obtain ⟨s1, s2⟩ := stp_is hv hab hb hm.1 (i := _) rfl hp
    rw [e]
    generalize mxN (fS (gP ps a) (gP ps b)) (subP ps (a + 1) (b - (a + 1))) (b - (a + 1)) = i at *
    have nx : (a + 1) * 2 + i * 2 = (a + 1 + i) * 2 := by omega
    have v3 := gP_v hv (a + 1 + i)
    have t3 := vP_pt v3
    have gi : ((ps.getD (a + 1 + i) (0, 0)).1, (ps.getD (a + 1 + i) (0, 0)).2) = gP ps (a + 1 + i) := rfl
    unfold gP at t3
    have sb : sclP (gP ps a) (gP ps b) ≤ 8000000 := by have := sqP_bd v1 v2; unfold sclP; split <;> omega
    have sp := scl_pos (gP ps a) (gP ps b)
    have mm := mul_bd (x := most) (y := sclP (gP ps a) (gP ps b)) 8000000 8000000 (by omega) (by omega)
    rw [decide_eq_false (show ¬ (i : Int) < 0 by omega)]
    simp only [brT_f, Int.toNat_natCast, nx, flat_get0, flat_get1, gi, Tree.ok]
    rw [wr (x := most * sclP (gP ps a) (gP ps b)) (by omega)]
    repeat (refine And.intro (by first | exact trivial | assumption | omega) ?_)
    unfold farV
    rcases hs : stpB ps a b most with _ | _
    · rw [hs] at s1
      rw [← s1]
      have k := s2 hs
      have w2 : IntKind.i64.wrap (((a + 1 : Nat) : Int) + i) = ((a + 1 + i : Nat) : Int) := by rw [wr (by omega)]; omega
      rw [w2, k]
      exact rfl
    · rw [hs] at s1
      rw [← s1]
      exact rfl
end Go.Proofs.Ytolodncpegajkab
namespace Go.Proofs.Ytolodncpegajkab
set_option linter.all false
open Go.RowKit
def pWst : List DArg → Option (Value × List Prop)
  | [.row m (.ints xs), .v (.int .i64 a), .v (.int .i64 b)] => some (iv (wrK (ptsA m xs) a.toNat b.toNat), [m * 2 ≤ xs.length, m ≤ 1000, allV (ptsA m xs) = true, 0 ≤ a ∧ a < m, 0 ≤ b ∧ b < m])
  | _ => none
theorem pWst_ok {ds : List DArg} {v : Value} {C : List Prop} (h : pWst ds = some (v, C)) (hC : AllP C) : Res Try.prog 113 ds v := by
  unfold pWst at h
  split at h
  · rename_i m xs a b
    obtain ⟨rfl, rfl⟩ : _ ∧ _ := by simpa using h
    obtain ⟨c1, c2, c3, c4, c5, _⟩ := hC
    obtain ⟨_, h2⟩ := ptsA_spec c1
    obtain ⟨a, rfl⟩ := Int.eq_ofNat_of_zero_le c4.1
    obtain ⟨b, rfl⟩ := Int.eq_ofNat_of_zero_le c5.1
    simp only [Int.toNat_natCast]
    exact res_pts1 (pre := []) (post := [_, _]) c1 (res_wst (ps := ptsA m xs) (by omega) c3 (by omega) (by omega))
  · cases h
def pFar : List DArg → Option (Value × List Prop)
  | [.row m (.ints xs), .v (.int .i64 a), .v (.int .i64 b), .v (.int .i64 most)] => some (.tuple #[iv (bif stpB (ptsA m xs) a.toNat b.toNat most then 0 else wrK (ptsA m xs) a.toNat b.toNat), .bool (!(stpB (ptsA m xs) a.toNat b.toNat most))], [m * 2 ≤ xs.length, m ≤ 1000, allV (ptsA m xs) = true, 0 ≤ a ∧ a < b, b < m, 0 ≤ most ∧ most ≤ 8000000])
  | _ => none
theorem pFar_ok {ds : List DArg} {v : Value} {C : List Prop} (h : pFar ds = some (v, C)) (hC : AllP C) : Res Try.prog 69 ds v := by
  unfold pFar at h
  split at h
  · rename_i m xs a b most
    obtain ⟨rfl, rfl⟩ : _ ∧ _ := by simpa using h
    obtain ⟨c1, c2, c3, c4, c5, c6, _⟩ := hC
    obtain ⟨_, h2⟩ := ptsA_spec c1
    obtain ⟨a, rfl⟩ := Int.eq_ofNat_of_zero_le c4.1
    obtain ⟨b, rfl⟩ := Int.eq_ofNat_of_zero_le (show 0 ≤ b by omega)
    simp only [Int.toNat_natCast]
    exact res_pts1 (pre := []) (post := [_, _, _]) c1 (res_far (ps := ptsA m xs) (by omega) c3 (by omega) (by omega) c6)
  · cases h
def TSm2 : Tab := fun f ds => match f with
  | 113 => pWst ds
  | 69 => pFar ds
  | f => TSm1 f ds
theorem TSm2_ok : TabOk Try.prog TSm2 := by
  intro f ds v C h hC
  unfold TSm2 at h
  (try split at h)
  all_goals first | with_reducible exact pWst_ok h hC | with_reducible exact pFar_ok h hC | exact TSm1_ok _ _ _ _ h hC
def ESm3 : Env := mkE TSm2 R4 (fun _ => noL)
theorem ESm3_ok : EnvOk Try.prog ESm3 := mkEOk TSm2_ok R4_ok (fun _ _ _ => noL_good)
/-- Is a point different from the one before it? -/
def nePt (ps : List Pt) (i : Nat) : Bool := !(decide (gP ps i = gP ps (i - 1)))
def ascQ (ks : List Int) (i : Nat) : Bool := decide (ks.getD (i - 1) 0 < ks.getD i 0)
noncomputable def c_isP : Code := ((loopsOf (codeOf Try.f67))[0]?).getD .skip
def k_isP : Ex → List Nat := keeps [0, 3] [(0, [])] [2]
def s_isP (ps : List Pt) : Nat → St := fun i => ⟨[.slice (some ⟨0, 0, none⟩) ps.length ps.length, topV, topV, .int .i64 i, topV, topV, topV, topV, topV, topV, topV, topV, topV, topV, topV, topV, topV, topV, topV, topV, topV, topV, topV, topV, topV, topV, topV, topV], [some ⟨.view, .ints (flat ps)⟩]⟩
def re_isP (ps : List Pt) : Nat → Ex := fun i => bif allQ (nePt ps) i (ps.length - i) then .exit 0 else .ret
def rs_isP (ps : List Pt) : Nat → St := fun i => bif allQ (nePt ps) i (ps.length - i) then ⟨[topV, topV, topV, topV, topV, topV, topV, topV, topV, topV, topV, topV, topV, topV, topV, topV, topV, topV, topV, topV, topV, topV, topV, topV, topV, topV, topV, topV], [some ⟨.view, .ints (flat ps)⟩]⟩ else ⟨[topV, topV, .bool false, topV, topV, topV, topV, topV, topV, topV, topV, topV, topV, topV, topV, topV, topV, topV, topV, topV, topV, topV, topV, topV, topV, topV, topV, topV], [some ⟨.view, .ints (flat ps)⟩]⟩
set_option maxRecDepth 100000 in
theorem tr_isP (ps : List Pt) (i : Nat) : bodyL Try.prog ESm3 30 12 noL 1 c_isP k_isP 1 (s_isP ps i) = brT (decide ((↑i : Int) < (↑ps.length : Int))) (.need ((0 : Int) ≤ (↑i : Int) ∧ (↑i : Int) < (↑ps.length : Int)) (.need ((0 : Nat) + (↑i : Int).toNat * (2 : Nat) + (2 : Nat) ≤ (flat ps).length) (.need ((0 : Int) ≤ IntKind.i64.wrap ((↑i : Int) - (1 : Int)) ∧ IntKind.i64.wrap ((↑i : Int) - (1 : Int)) < (↑ps.length : Int)) (.need ((0 : Nat) + (IntKind.i64.wrap ((↑i : Int) - (1 : Int))).toNat * (2 : Nat) + (2 : Nat) ≤ (flat ps).length) (brT (negB false ((flat ps).getD (0 + (↑i : Int).toNat * 2) 0 == (flat ps).getD (0 + (IntKind.i64.wrap ((↑i : Int) - 1)).toNat * 2) 0 && ((flat ps).getD (0 + (↑i : Int).toNat * 2 + 1) 0 == (flat ps).getD (0 + (IntKind.i64.wrap ((↑i : Int) - 1)).toNat * 2 + 1) 0 && true))) (.leaf .ret ⟨[topV, topV, .bool (false), topV, topV, topV, topV, topV, topV, topV, topV, topV, topV, topV, topV, topV, topV, topV, topV, topV, topV, topV, topV, topV, topV, topV, topV, topV], [some ⟨.view, .ints (flat ps)⟩]⟩) (.leaf .normal ⟨[.slice (some ⟨0, 0, none⟩) (ps.length) (ps.length), topV, topV, .int .i64 (IntKind.i64.wrap ((↑i : Int) + 1)), topV, topV, topV, topV, topV, topV, topV, topV, topV, topV, topV, topV, topV, topV, topV, topV, topV, topV, topV, topV, topV, topV, topV, topV], [some ⟨.view, .ints (flat ps)⟩]⟩)))))) (.leaf (.exit 0) ⟨[topV, topV, topV, topV, topV, topV, topV, topV, topV, topV, topV, topV, topV, topV, topV, topV, topV, topV, topV, topV, topV, topV, topV, topV, topV, topV, topV, topV], [some ⟨.view, .ints (flat ps)⟩]⟩) := by kernel_rfl
set_option maxRecDepth 100000 in
theorem nl_isP : loopsOf c_isP = [] := by kernel_rfl
def inv_isP (ps : List Pt) : Nat → Prop := fun i => 1 ≤ i
def me_isP (ps : List Pt) : Nat → Nat := fun i => ps.length - i
/-- A round of this loop. -/
def Round_isP (ps : List Pt) : Prop := ∀ xx : Nat, inv_isP ps xx → (bodyL Try.prog ESm3 30 12 noL 1 c_isP k_isP 1 (s_isP ps xx)).ok (RoundEnd 1 (s_isP ps) (inv_isP ps) (me_isP ps) (re_isP ps) (rs_isP ps) xx) (fun _ _ => False)
def e_isP (s : St) (k : Ex → St → Tree) : Option Tree := match Nat.beq s.tmps.length 28, pickL s.tmps [0, 3], s.mem with
  | true, [.slice (some ⟨0, 0, none⟩) n _, .int .i64 ii], [some ⟨.view, .ints xs⟩] => some (needs [ii = 1, xs.length = n * 2, n ≤ 1000000000] (brT (allQ (nePt (ptsA n xs)) 1 (n - 1)) (k (.exit 0) ⟨[topV, topV, topV, topV, topV, topV, topV, topV, topV, topV, topV, topV, topV, topV, topV, topV, topV, topV, topV, topV, topV, topV, topV, topV, topV, topV, topV, topV], [some ⟨.view, .ints xs⟩]⟩) (k .ret ⟨[topV, topV, .bool false, topV, topV, topV, topV, topV, topV, topV, topV, topV, topV, topV, topV, topV, topV, topV, topV, topV, topV, topV, topV, topV, topV, topV, topV, topV], [some ⟨.view, .ints xs⟩]⟩)))
  | _, _, _ => none
noncomputable def c_vPa : Code := ((loopsOf (codeOf Try.f70))[0]?).getD .skip
def k_vPa : Ex → List Nat := keeps [0, 3] [(0, [0])] [2]
def s_vPa (ps : List Pt) : Nat → St := fun i => ⟨[.slice (some ⟨0, 0, none⟩) ps.length ps.length, topV, topV, .int .i64 i, topV, topV, topV, topV, topV, topV, topV, topV, topV, topV, topV, topV, topV, topV, topV, topV, topV, topV, topV, topV, topV, topV, topV], [some ⟨.view, .ints (flat ps)⟩]⟩
def re_vPa (ps : List Pt) : Nat → Ex := fun i => bif allQ (nePt ps) i (ps.length - i) then .exit 0 else .ret
def rs_vPa (ps : List Pt) : Nat → St := fun i => bif allQ (nePt ps) i (ps.length - i) then ⟨[.slice (some ⟨0, 0, none⟩) ps.length ps.length, topV, topV, topV, topV, topV, topV, topV, topV, topV, topV, topV, topV, topV, topV, topV, topV, topV, topV, topV, topV, topV, topV, topV, topV, topV, topV], [some ⟨.view, .ints (flat ps)⟩]⟩ else ⟨[topV, topV, .bool false, topV, topV, topV, topV, topV, topV, topV, topV, topV, topV, topV, topV, topV, topV, topV, topV, topV, topV, topV, topV, topV, topV, topV, topV], [some ⟨.view, .ints (flat ps)⟩]⟩
set_option maxRecDepth 100000 in
theorem tr_vPa (ps : List Pt) (i : Nat) : bodyL Try.prog ESm3 30 12 noL 1 c_vPa k_vPa 1 (s_vPa ps i) = brT (decide ((↑i : Int) < (↑ps.length : Int))) (.need ((0 : Int) ≤ (↑i : Int) ∧ (↑i : Int) < (↑ps.length : Int)) (.need ((0 : Nat) + (↑i : Int).toNat * (2 : Nat) + (2 : Nat) ≤ (flat ps).length) (.need ((0 : Int) ≤ IntKind.i64.wrap ((↑i : Int) - (1 : Int)) ∧ IntKind.i64.wrap ((↑i : Int) - (1 : Int)) < (↑ps.length : Int)) (.need ((0 : Nat) + (IntKind.i64.wrap ((↑i : Int) - (1 : Int))).toNat * (2 : Nat) + (2 : Nat) ≤ (flat ps).length) (brT (negB false ((flat ps).getD (0 + (↑i : Int).toNat * 2) 0 == (flat ps).getD (0 + (IntKind.i64.wrap ((↑i : Int) - 1)).toNat * 2) 0 && ((flat ps).getD (0 + (↑i : Int).toNat * 2 + 1) 0 == (flat ps).getD (0 + (IntKind.i64.wrap ((↑i : Int) - 1)).toNat * 2 + 1) 0 && true))) (.leaf .ret ⟨[topV, topV, .bool (false), topV, topV, topV, topV, topV, topV, topV, topV, topV, topV, topV, topV, topV, topV, topV, topV, topV, topV, topV, topV, topV, topV, topV, topV], [some ⟨.view, .ints (flat ps)⟩]⟩) (.leaf .normal ⟨[.slice (some ⟨0, 0, none⟩) (ps.length) (ps.length), topV, topV, .int .i64 (IntKind.i64.wrap ((↑i : Int) + 1)), topV, topV, topV, topV, topV, topV, topV, topV, topV, topV, topV, topV, topV, topV, topV, topV, topV, topV, topV, topV, topV, topV, topV], [some ⟨.view, .ints (flat ps)⟩]⟩)))))) (.leaf (.exit 0) ⟨[.slice (some ⟨0, 0, none⟩) (ps.length) (ps.length), topV, topV, topV, topV, topV, topV, topV, topV, topV, topV, topV, topV, topV, topV, topV, topV, topV, topV, topV, topV, topV, topV, topV, topV, topV, topV], [some ⟨.view, .ints (flat ps)⟩]⟩) := by kernel_rfl
set_option maxRecDepth 100000 in
theorem nl_vPa : loopsOf c_vPa = [] := by kernel_rfl
def inv_vPa (ps : List Pt) : Nat → Prop := fun i => 1 ≤ i
def me_vPa (ps : List Pt) : Nat → Nat := fun i => ps.length - i
/-- A round of this loop. -/
def Round_vPa (ps : List Pt) : Prop := ∀ xx : Nat, inv_vPa ps xx → (bodyL Try.prog ESm3 30 12 noL 1 c_vPa k_vPa 1 (s_vPa ps xx)).ok (RoundEnd 1 (s_vPa ps) (inv_vPa ps) (me_vPa ps) (re_vPa ps) (rs_vPa ps) xx) (fun _ _ => False)
def e_vPa (s : St) (k : Ex → St → Tree) : Option Tree := match Nat.beq s.tmps.length 27, pickL s.tmps [0, 3], s.mem with
  | true, [.slice (some ⟨0, 0, none⟩) n _, .int .i64 ii], [some ⟨.view, .ints xs⟩] => some (needs [ii = 1, xs.length = n * 2, n ≤ 1000000000] (brT (allQ (nePt (ptsA n xs)) 1 (n - 1)) (k (.exit 0) ⟨[.slice (some ⟨0, 0, none⟩) n n, topV, topV, topV, topV, topV, topV, topV, topV, topV, topV, topV, topV, topV, topV, topV, topV, topV, topV, topV, topV, topV, topV, topV, topV, topV, topV], [some ⟨.view, .ints xs⟩]⟩) (k .ret ⟨[topV, topV, .bool false, topV, topV, topV, topV, topV, topV, topV, topV, topV, topV, topV, topV, topV, topV, topV, topV, topV, topV, topV, topV, topV, topV, topV, topV], [some ⟨.view, .ints xs⟩]⟩)))
  | _, _, _ => none
noncomputable def c_ae2 : Code := ((loopsOf (codeOf Try.f77))[0]?).getD .skip
def k_ae2 : Ex → List Nat := keeps [0, 5, 6] [(0, [])] [4]
def s_ae2 (n : Nat) (ks : List Int) : Nat → St := fun i => ⟨(.slice (some ⟨0, 0, none⟩) n n :: topV :: topV :: topV :: topV :: .int .i64 n :: .int .i64 i :: topV :: topV :: topV :: topV :: topV :: topV :: topV :: topV :: topV :: topV :: topV :: topV :: topV :: topV :: topV :: topV :: topV :: topV :: topV :: topV :: topV :: topV :: topV :: topV :: topV :: topV :: topV :: topV :: topV :: topV :: topV :: topV :: topV :: topV :: topV :: []), [some ⟨.view, .ints ks⟩, none]⟩
def re_ae2 (n : Nat) (ks : List Int) : Nat → Ex := fun i => bif allQ (ascQ ks) i (n - i) then .exit 0 else .ret
def rs_ae2 (n : Nat) (ks : List Int) : Nat → St := fun i => bif allQ (ascQ ks) i (n - i) then ⟨(topV :: topV :: topV :: topV :: topV :: topV :: topV :: topV :: topV :: topV :: topV :: topV :: topV :: topV :: topV :: topV :: topV :: topV :: topV :: topV :: topV :: topV :: topV :: topV :: topV :: topV :: topV :: topV :: topV :: topV :: topV :: topV :: topV :: topV :: topV :: topV :: topV :: topV :: topV :: topV :: topV :: topV :: []), [some ⟨.view, .ints ks⟩, none]⟩ else ⟨(topV :: topV :: topV :: topV :: .bool false :: topV :: topV :: topV :: topV :: topV :: topV :: topV :: topV :: topV :: topV :: topV :: topV :: topV :: topV :: topV :: topV :: topV :: topV :: topV :: topV :: topV :: topV :: topV :: topV :: topV :: topV :: topV :: topV :: topV :: topV :: topV :: topV :: topV :: topV :: topV :: topV :: topV :: []), [some ⟨.view, .ints ks⟩, none]⟩
set_option maxRecDepth 100000 in
theorem tr_ae2 (n : Nat) (ks : List Int) (i : Nat) : bodyL Try.prog ESm3 30 12 noL 1 c_ae2 k_ae2 2 (s_ae2 n ks i) = brT (decide ((↑i : Int) < (↑n : Int))) (.need ((0 : Int) ≤ IntKind.i64.wrap ((↑i : Int) - (1 : Int)) ∧ IntKind.i64.wrap ((↑i : Int) - (1 : Int)) < (↑n : Int)) (.need ((0 : Nat) + (IntKind.i64.wrap ((↑i : Int) - (1 : Int))).toNat * (1 : Nat) < ks.length) (.need ((0 : Int) ≤ (↑i : Int) ∧ (↑i : Int) < (↑n : Int)) (.need ((0 : Nat) + (↑i : Int).toNat * (1 : Nat) < ks.length) (brT (decide (ks.getD (0 + (↑i : Int).toNat * 1) 0 ≤ ks.getD (0 + (IntKind.i64.wrap ((↑i : Int) - 1)).toNat * 1) 0)) (.leaf .ret ⟨(topV :: topV :: topV :: topV :: .bool (false) :: topV :: topV :: topV :: topV :: topV :: topV :: topV :: topV :: topV :: topV :: topV :: topV :: topV :: topV :: topV :: topV :: topV :: topV :: topV :: topV :: topV :: topV :: topV :: topV :: topV :: topV :: topV :: topV :: topV :: topV :: topV :: topV :: topV :: topV :: topV :: topV :: topV :: []), [some ⟨.view, .ints (ks)⟩, none]⟩) (.leaf .normal ⟨(.slice (some ⟨0, 0, none⟩) (n) (n) :: topV :: topV :: topV :: topV :: .int .i64 ((↑n : Int)) :: .int .i64 (IntKind.i64.wrap ((↑i : Int) + 1)) :: topV :: topV :: topV :: topV :: topV :: topV :: topV :: topV :: topV :: topV :: topV :: topV :: topV :: topV :: topV :: topV :: topV :: topV :: topV :: topV :: topV :: topV :: topV :: topV :: topV :: topV :: topV :: topV :: topV :: topV :: topV :: topV :: topV :: topV :: topV :: []), [some ⟨.view, .ints (ks)⟩, none]⟩)))))) (.leaf (.exit 0) ⟨(topV :: topV :: topV :: topV :: topV :: topV :: topV :: topV :: topV :: topV :: topV :: topV :: topV :: topV :: topV :: topV :: topV :: topV :: topV :: topV :: topV :: topV :: topV :: topV :: topV :: topV :: topV :: topV :: topV :: topV :: topV :: topV :: topV :: topV :: topV :: topV :: topV :: topV :: topV :: topV :: topV :: topV :: []), [some ⟨.view, .ints (ks)⟩, none]⟩) := by kernel_rfl
set_option maxRecDepth 100000 in
theorem nl_ae2 : loopsOf c_ae2 = [] := by kernel_rfl
def inv_ae2 (n : Nat) (ks : List Int) : Nat → Prop := fun i => 1 ≤ i
def me_ae2 (n : Nat) (ks : List Int) : Nat → Nat := fun i => n - i
/-- A round of this loop. -/
def Round_ae2 (n : Nat) (ks : List Int) : Prop := ∀ xx : Nat, inv_ae2 n ks xx → (bodyL Try.prog ESm3 30 12 noL 1 c_ae2 k_ae2 2 (s_ae2 n ks xx)).ok (RoundEnd 2 (s_ae2 n ks) (inv_ae2 n ks) (me_ae2 n ks) (re_ae2 n ks) (rs_ae2 n ks) xx) (fun _ _ => False)
def e_ae2 (s : St) (k : Ex → St → Tree) : Option Tree := match Nat.beq s.tmps.length 42, pickL s.tmps [0, 5, 6], s.mem with
  | true, [.slice (some ⟨0, 0, none⟩) n _, .int .i64 l, .int .i64 ii], [some ⟨.view, .ints ks⟩, none] => some (needs [ii = 1, l = n, n ≤ ks.length, n ≤ 1000000000] (brT (allQ (ascQ ks) 1 (n - 1)) (k (.exit 0) ⟨(topV :: topV :: topV :: topV :: topV :: topV :: topV :: topV :: topV :: topV :: topV :: topV :: topV :: topV :: topV :: topV :: topV :: topV :: topV :: topV :: topV :: topV :: topV :: topV :: topV :: topV :: topV :: topV :: topV :: topV :: topV :: topV :: topV :: topV :: topV :: topV :: topV :: topV :: topV :: topV :: topV :: topV :: []), [some ⟨.view, .ints ks⟩, none]⟩) (k .ret ⟨(topV :: topV :: topV :: topV :: .bool false :: topV :: topV :: topV :: topV :: topV :: topV :: topV :: topV :: topV :: topV :: topV :: topV :: topV :: topV :: topV :: topV :: topV :: topV :: topV :: topV :: topV :: topV :: topV :: topV :: topV :: topV :: topV :: topV :: topV :: topV :: topV :: topV :: topV :: topV :: topV :: topV :: topV :: []), [some ⟨.view, .ints ks⟩, none]⟩)))
  | _, _, _ => none
def kA (ks : List Int) (i : Nat) : Nat := (ks.getD i 0).toNat
def dvQ (ps : List Pt) (a b : Nat) (most : Int) (k : Nat) : Bool := decide (dvN (gP ps a) (gP ps b) (gP ps k) ≤ most * dvD (gP ps a) (gP ps b) (gP ps k))
set_option maxRecDepth 100000 in
set_option maxHeartbeats 1000000 in
theorem round_isP (ps : List Pt) (h : ps.length ≤ 1000000000) : Round_isP ps := by
  intro i h1
  have h1 : 1 ≤ i := h1
  rw [tr_isP]
  refine brT_ok.2 ⟨fun hlt => ?_, fun hge => ?_⟩
  · have hlt := of_decide_eq_true hlt
    have hi : i < ps.length := by omega
    have w : IntKind.i64.wrap ((i : Int) - 1) = ((i - 1 : Nat) : Int) := by rw [wr (by omega)]; omega
    rw [w, wsucc (n := ps.length) hi h]
    simp only [Int.toNat_natCast, Nat.zero_add, flat_get0, flat_get1, flat_length, eqP_is, Tree.ok]
    refine ⟨by omega, by omega, by omega, by omega, brT_ok.2 ⟨fun g => ?_, fun g => ?_⟩⟩
    · have e : allQ (nePt ps) i (ps.length - i) = false := by
        rw [allQ_step hi, show nePt ps i = false from by unfold nePt gP; rw [g]; rfl, Bool.false_and]
      refine ⟨by simp only [re_isP, e, cond_false], [], ?_⟩
      simp only [rs_isP, e, cond_false]
      repeat' (first | exact True.intro | exact rfl | exact fun _ => rfl | refine And.intro ?_ ?_)
    · have e : allQ (nePt ps) i (ps.length - i) = allQ (nePt ps) (i + 1) (ps.length - (i + 1)) := by
        rw [allQ_step hi, show nePt ps i = true from by unfold nePt gP; rw [g]; rfl, Bool.true_and]
      refine ⟨i + 1, [], ?_, ?_, by simp only [re_isP, e], by simp only [rs_isP, e], ?_⟩
      · show 1 ≤ i + 1; omega
      · show ps.length - (i + 1) < ps.length - i; omega
      · repeat' (first | exact True.intro | exact rfl | exact fun _ => rfl | refine And.intro ?_ ?_)
  · have hge := of_decide_eq_false hge
    have e : allQ (nePt ps) i (ps.length - i) = true := allQ_end (by omega)
    refine ⟨by simp only [re_isP, e, cond_true], [], ?_⟩
    simp only [rs_isP, e, cond_true]
    repeat' (first | exact True.intro | exact rfl | exact fun _ => rfl | refine And.intro ?_ ?_)
set_option maxRecDepth 100000 in
theorem lg_isP : LoopE Try.prog e_isP c_isP := by
  intro s k t F H hlt ht
  unfold e_isP at hlt
  split at hlt
  rotate_left
  · cases hlt
  rename_i hlen hpick hmem
  obtain ⟨tmps, mem⟩ := s
  simp only at hlen hpick hmem
  subst hmem
  obtain rfl := Option.some.inj hlt
  obtain ⟨⟨rfl, h1, h2, _⟩, ht2⟩ := needs_ok ht
  clear ht hlt
  obtain ⟨ps, rfl, rfl⟩ := even_flat h1
  rw [ptsA_flat] at ht2
  refine ⟨_, _, pick2k ht2, loop_run mixed ESm3_ok (s_isP ps) (inv_isP ps) (me_isP ps) (re_isP ps) (rs_isP ps) k_isP (fun _ => rfl) (noLoops nl_isP) (round_isP ps h2) (x := 1) (Nat.le_refl 1) (π := []) rfl ?_⟩
  refine ⟨rfl, rfl, ?_, wvs_spread' [0, 3] hlen rfl ?_⟩
  · repeat' (first | exact True.intro | exact rfl | exact wv_top _ _ | exact fun _ => rfl | assumption | exact Eq.symm (by assumption) | exact vI0 rfl | refine And.intro ?_ ?_)
  · rw [hpick]
    repeat' (first | exact True.intro | exact rfl | exact wv_top _ _ | exact fun _ => rfl | assumption | exact Eq.symm (by assumption) | exact vI0 rfl | refine And.intro ?_ ?_)
set_option maxRecDepth 100000 in
set_option maxHeartbeats 1000000 in
theorem round_vPa (ps : List Pt) (h : ps.length ≤ 1000000000) : Round_vPa ps := by
  intro i h1
  have h1 : 1 ≤ i := h1
  rw [tr_vPa]
  refine brT_ok.2 ⟨fun hlt => ?_, fun hge => ?_⟩
  · have hlt := of_decide_eq_true hlt
    have hi : i < ps.length := by omega
    have w : IntKind.i64.wrap ((i : Int) - 1) = ((i - 1 : Nat) : Int) := by rw [wr (by omega)]; omega
    rw [w, wsucc (n := ps.length) hi h]
    simp only [Int.toNat_natCast, Nat.zero_add, flat_get0, flat_get1, flat_length, eqP_is, Tree.ok]
    refine ⟨by omega, by omega, by omega, by omega, brT_ok.2 ⟨fun g => ?_, fun g => ?_⟩⟩
    · have e : allQ (nePt ps) i (ps.length - i) = false := by
        rw [allQ_step hi, show nePt ps i = false from by unfold nePt gP; rw [g]; rfl, Bool.false_and]
      refine ⟨by simp only [re_vPa, e, cond_false], [], ?_⟩
      simp only [rs_vPa, e, cond_false]
      repeat' (first | exact True.intro | exact rfl | exact fun _ => rfl | refine And.intro ?_ ?_)
    · have e : allQ (nePt ps) i (ps.length - i) = allQ (nePt ps) (i + 1) (ps.length - (i + 1)) := by
        rw [allQ_step hi, show nePt ps i = true from by unfold nePt gP; rw [g]; rfl, Bool.true_and]
      refine ⟨i + 1, [], ?_, ?_, by simp only [re_vPa, e], by simp only [rs_vPa, e], ?_⟩
      · show 1 ≤ i + 1; omega
      · show ps.length - (i + 1) < ps.length - i; omega
      · repeat' (first | exact True.intro | exact rfl | exact fun _ => rfl | refine And.intro ?_ ?_)
  · have hge := of_decide_eq_false hge
    have e : allQ (nePt ps) i (ps.length - i) = true := allQ_end (by omega)
    refine ⟨by simp only [re_vPa, e, cond_true], [], ?_⟩
    simp only [rs_vPa, e, cond_true]
    repeat' (first | exact True.intro | exact rfl | exact fun _ => rfl | refine And.intro ?_ ?_)
set_option maxRecDepth 100000 in
theorem lg_vPa : LoopE Try.prog e_vPa c_vPa := by
  intro s k t F H hlt ht
  unfold e_vPa at hlt
  split at hlt
  rotate_left
  · cases hlt
  rename_i hlen hpick hmem
  obtain ⟨tmps, mem⟩ := s
  simp only at hlen hpick hmem
  subst hmem
  obtain rfl := Option.some.inj hlt
  obtain ⟨⟨rfl, h1, h2, _⟩, ht2⟩ := needs_ok ht
  clear ht hlt
  obtain ⟨ps, rfl, rfl⟩ := even_flat h1
  rw [ptsA_flat] at ht2
  refine ⟨_, _, pick2k ht2, loop_run mixed ESm3_ok (s_vPa ps) (inv_vPa ps) (me_vPa ps) (re_vPa ps) (rs_vPa ps) k_vPa (fun _ => rfl) (noLoops nl_vPa) (round_vPa ps h2) (x := 1) (Nat.le_refl 1) (π := []) rfl ?_⟩
  refine ⟨rfl, rfl, ?_, wvs_spread' [0, 3] hlen rfl ?_⟩
  · repeat' (first | exact True.intro | exact rfl | exact wv_top _ _ | exact fun _ => rfl | assumption | exact Eq.symm (by assumption) | exact vI0 rfl | refine And.intro ?_ ?_)
  · rw [hpick]
    repeat' (first | exact True.intro | exact rfl | exact wv_top _ _ | exact fun _ => rfl | assumption | exact Eq.symm (by assumption) | exact vI0 rfl | refine And.intro ?_ ?_)
set_option maxRecDepth 100000 in
set_option maxHeartbeats 1000000 in
theorem round_ae2 (n : Nat) (ks : List Int) (hn : n ≤ ks.length) (h : n ≤ 1000000000) : Round_ae2 n ks := by
  intro i h1
  have h1 : 1 ≤ i := h1
  rw [tr_ae2]
  refine brT_ok.2 ⟨fun hlt => ?_, fun hge => ?_⟩
  · have hlt := of_decide_eq_true hlt
    have hi : i < n := by omega
    have w : IntKind.i64.wrap ((i : Int) - 1) = ((i - 1 : Nat) : Int) := by rw [wr (by omega)]; omega
    rw [w, wsucc (n := n) hi h]
    simp only [Int.toNat_natCast, Nat.zero_add, Nat.mul_one, Tree.ok]
    refine ⟨by omega, by omega, by omega, by omega, brT_ok.2 ⟨fun g => ?_, fun g => ?_⟩⟩
    · have e : allQ (ascQ ks) i (n - i) = false := by
        rw [allQ_step hi, show ascQ ks i = false from by have := of_decide_eq_true g; exact decide_eq_false (by omega), Bool.false_and]
      refine ⟨by simp only [re_ae2, e, cond_false], [], ?_⟩
      simp only [rs_ae2, e, cond_false]
      repeat' (first | exact True.intro | exact rfl | exact fun _ => rfl | refine And.intro ?_ ?_)
    · have e : allQ (ascQ ks) i (n - i) = allQ (ascQ ks) (i + 1) (n - (i + 1)) := by
        rw [allQ_step hi, show ascQ ks i = true from by have := of_decide_eq_false g; exact decide_eq_true (by omega), Bool.true_and]
      refine ⟨i + 1, [], ?_, ?_, by simp only [re_ae2, e], by simp only [rs_ae2, e], ?_⟩
      · show 1 ≤ i + 1; omega
      · show n - (i + 1) < n - i; omega
      · repeat' (first | exact True.intro | exact rfl | exact fun _ => rfl | refine And.intro ?_ ?_)
  · have hge := of_decide_eq_false hge
    have e : allQ (ascQ ks) i (n - i) = true := allQ_end (by omega)
    refine ⟨by simp only [re_ae2, e, cond_true], [], ?_⟩
    simp only [rs_ae2, e, cond_true]
    repeat' (first | exact True.intro | exact rfl | exact fun _ => rfl | refine And.intro ?_ ?_)
set_option maxRecDepth 100000 in
theorem lg_ae2 : LoopE Try.prog e_ae2 c_ae2 := by
  intro s k t F H hlt ht
  unfold e_ae2 at hlt
  split at hlt
  rotate_left
  · cases hlt
  rename_i hlen hpick hmem
  obtain ⟨tmps, mem⟩ := s
  simp only at hlen hpick hmem
  subst hmem
  obtain rfl := Option.some.inj hlt
  obtain ⟨⟨rfl, rfl, h1, h2, _⟩, ht2⟩ := needs_ok ht
  clear ht hlt
  refine ⟨_, _, pick2k ht2, loop_run mixed ESm3_ok (s_ae2 _ _) (inv_ae2 _ _) (me_ae2 _ _) (re_ae2 _ _) (rs_ae2 _ _) k_ae2 (fun _ => rfl) (noLoops nl_ae2) (round_ae2 _ _ h1 h2) (x := 1) (Nat.le_refl 1) (π := []) rfl ?_⟩
  refine ⟨rfl, rfl, ?_, wvs_spread' [0, 5, 6] hlen rfl ?_⟩
  · repeat' (first | exact True.intro | exact rfl | exact wv_top _ _ | exact fun _ => rfl | assumption | exact Eq.symm (by assumption) | exact vI0 rfl | refine And.intro ?_ ?_)
  · rw [hpick]
    repeat' (first | exact True.intro | exact rfl | exact wv_top _ _ | exact fun _ => rfl | assumption | exact Eq.symm (by assumption) | exact vI0 rfl | refine And.intro ?_ ?_)
end Go.Proofs.Ytolodncpegajkab
namespace Go.Proofs.Ytolodncpegajkab
set_option linter.all false
open Go.RowKit
theorem mxN_max {f : Pt → Int} {qs : List Pt} : ∀ m j, j < m → f (qs.getD j (0, 0)) ≤ f (qs.getD (mxN f qs m) (0, 0))
  | 0, j, h => by omega
  | m + 1, j, h => by
    rw [mxN_st]
    have ih := fun hj => mxN_max (f := f) (qs := qs) m j hj
    split
    · rcases Nat.lt_or_ge j m with hj | hj
      · have := ih hj; omega
      · obtain rfl : j = m := by omega
        exact Int.le_refl _
    · rcases Nat.lt_or_ge j m with hj | hj
      · exact ih hj
      · obtain rfl : j = m := by omega
        omega
theorem allQ_mk {P : Nat → Bool} : ∀ (m i : Nat), (∀ j, i ≤ j → j < i + m → P j = true) → allQ P i m = true
  | 0, _, _ => rfl
  | m + 1, i, h => by
    simp only [allQ, Bool.and_eq_true]
    exact ⟨h i (Nat.le_refl _) (by omega), allQ_mk m (i + 1) fun j h1 h2 => h j (by omega) (by omega)⟩
theorem dvQ_sc {ps : List Pt} (hv : allV ps = true) (a b : Nat) (most : Int) (k : Nat) : dvQ ps a b most k = decide (scS (gP ps a) (gP ps b) (gP ps k) ≤ most * sclP (gP ps a) (gP ps b)) := by
  unfold dvQ
  refine decide_eq_decide.2 ?_
  have s := scl_pos (gP ps a) (gP ps b)
  have e := sc_dv (gP ps a) (gP ps b) (gP ps k)
  have d := (dv_bd (gP_v hv a) (gP_v hv b) (gP_v hv k)).2
  generalize scS (gP ps a) (gP ps b) (gP ps k) = F at *
  generalize dvN (gP ps a) (gP ps b) (gP ps k) = N at *
  generalize dvD (gP ps a) (gP ps b) (gP ps k) = D at *
  generalize sclP (gP ps a) (gP ps b) = S at *
  rw [← mul_le_iff (x := N) s, ← mul_le_iff (x := F) (s := D) (by omega), e, show most * D * S = most * S * D by grind]
/-- No point is to be kept where none is too far. -/
theorem all_stp {ps : List Pt} (hv : allV ps = true) {a b : Nat} (hab : a < b) (hb : b < ps.length) {most : Int} (hm : 0 ≤ most) : allQ (dvQ ps a b most) a (b - a) = stpB ps a b most := by
  have at0 : dvQ ps a b most a = true := by
    unfold dvQ
    rw [(dv_at _ _).1, (dv_at _ _).2]
    exact decide_eq_true (by omega)
  rcases Nat.eq_zero_or_pos (b - (a + 1)) with h0 | hp
  · have k : wrK ps a b = a := by unfold wrK; rw [h0]; rfl
    rw [allQ_step hab, at0, h0, Bool.true_and]
    unfold stpB
    rw [k, decide_eq_true rfl, Bool.true_or]
    rfl
  · obtain ⟨s1, _⟩ := stp_is hv hab hb hm (i := _) rfl hp
    rw [s1, ← dvQ_sc hv]
    have hlt := mxN_lt (fS (gP ps a) (gP ps b)) (subP ps (a + 1) (b - (a + 1))) (b - (a + 1)) hp
    have mx := fun j hj => mxN_max (f := fS (gP ps a) (gP ps b)) (qs := subP ps (a + 1) (b - (a + 1))) (b - (a + 1)) j hj
    generalize mxN (fS (gP ps a) (gP ps b)) (subP ps (a + 1) (b - (a + 1))) (b - (a + 1)) = i at *
    rw [Bool.eq_iff_iff]
    constructor
    · intro h
      exact allQ_get _ _ h _ (by omega) (by omega)
    · intro h
      refine allQ_mk _ _ fun j h1 h2 => ?_
      rcases Nat.eq_or_lt_of_le h1 with rfl | h1
      · exact at0
      · have m := mx (j - (a + 1)) (by omega)
        rw [subP_get (by omega), subP_get hlt, show a + 1 + (j - (a + 1)) = j by omega] at m
        rw [dvQ_sc hv] at h ⊢
        have h := of_decide_eq_true h
        change scS (gP ps a) (gP ps b) (gP ps j) ≤ scS (gP ps a) (gP ps b) (gP ps (a + 1 + i)) at m
        exact decide_eq_true (by omega)
theorem Lr_isP {fn : Func} (hf : Try.prog.funcs[67]? = some fn) : LoopsGood Try.prog (lt1 e_isP) 0 (codeOf fn) := by
  obtain rfl := fn_is Try.func67 hf
  exact lt1_good lg_isP
theorem Lr_vPa {fn : Func} (hf : Try.prog.funcs[70]? = some fn) : LoopsGood Try.prog (lt1 e_vPa) 0 (codeOf fn) := by
  obtain rfl := fn_is Try.func70 hf
  exact lt1_good lg_vPa
theorem Lr_ae2 {fn : Func} (hf : Try.prog.funcs[77]? = some fn) : LoopsGood Try.prog (lt1 e_ae2) 0 (codeOf fn) := by
  obtain rfl := fn_is Try.func77 hf
  exact lt1_good lg_ae2
def LSme : FuncId → LT := fun f => match f with
  | 67 => lt1 e_isP
  | 70 => lt1 e_vPa
  | 77 => lt1 e_ae2
  | _ => noL
def ESm4 : Env := mkE TSm2 R4 LSme
theorem ESm4_ok : EnvOk Try.prog ESm4 := mkEOk TSm2_ok R4_ok (by
  intro f fn hf
  unfold LSme
  split
  all_goals first | with_reducible exact Lr_isP hf | with_reducible exact Lr_vPa hf | with_reducible exact Lr_ae2 hf | exact noL_good)
set_option maxRecDepth 100000 in
theorem tr_isPF (ps : List Pt) : bodyV Try.prog ESm4 30 12 67 [.row ps.length (.ints (flat ps))] = brT (decide ((↑ps.length : Int) ≤ 20)) (.need (ps.length * (2 : Nat) ≤ (List.drop (0 : Nat) (flat ps)).length) (.need (ps.length ≤ (1000000000 : Nat)) (brT (!allV (ptsA ps.length (List.drop 0 (flat ps)))) (.fin (.bool (false)) []) (brT (decide ((↑ps.length : Int) < 2)) (.fin (.bool (false)) []) (.need ((1 : Int) = (1 : Int)) (.need ((flat ps).length = ps.length * (2 : Nat)) (.need (ps.length ≤ (1000000000 : Nat)) (brT (allQ (nePt (ptsA ps.length (flat ps))) 1 (ps.length - 1)) (.fin (.bool (true)) []) (.fin (.bool (false)) []))))))))) (.fin (.bool (false)) []) := by kernel_rfl
set_option maxRecDepth 100000 in
theorem tr_vPaF (ps : List Pt) : bodyV Try.prog ESm4 30 12 70 [.row ps.length (.ints (flat ps))] = .need ((1 : Int) = (1 : Int)) (.need ((flat ps).length = ps.length * (2 : Nat)) (.need (ps.length ≤ (1000000000 : Nat)) (brT (allQ (nePt (ptsA ps.length (flat ps))) 1 (ps.length - 1)) (.need (ps.length * (2 : Nat) ≤ (List.drop (0 : Nat) (flat ps)).length) (.need (ps.length ≤ (1000000000 : Nat)) (brT (okL (ptsA ps.length (List.drop 0 (flat ps)))) (.fin (.bool (decide (1 < (↑ps.length : Int)))) []) (.fin (.bool (false)) [])))) (.fin (.bool (false)) [])))) := by kernel_rfl
set_option maxRecDepth 100000 in
theorem tr_ae2F (n : Nat) (ks : List Int) (m : Int) : bodyV Try.prog ESm4 30 12 77 [.row n (.ints ks), .v (iv m)] = brT ((↑n : Int) == 0) (.fin (.bool (false)) []) (.need ((0 : Int) ≤ (0 : Int) ∧ (0 : Int) < (↑n : Int)) (.need ((0 : Nat) < ks.length) (brT (!ks.getD 0 0 == 0) (.fin (.bool (false)) []) (.need ((0 : Int) ≤ IntKind.i64.wrap ((↑n : Int) - (1 : Int)) ∧ IntKind.i64.wrap ((↑n : Int) - (1 : Int)) < (↑n : Int)) (.need ((0 : Nat) + (IntKind.i64.wrap ((↑n : Int) - (1 : Int))).toNat * (1 : Nat) < ks.length) (brT (!ks.getD (0 + (IntKind.i64.wrap ((↑n : Int) - 1)).toNat * 1) 0 == IntKind.i64.wrap (m - 1)) (.fin (.bool (false)) []) (.need ((1 : Int) = (1 : Int)) (.need ((↑n : Int) = (↑n : Int)) (.need (n ≤ ks.length) (.need (n ≤ (1000000000 : Nat)) (brT (allQ (ascQ ks) 1 (n - 1)) (.fin (.bool (true)) []) (.fin (.bool (false)) [])))))))))))) := by kernel_rfl
end Go.Proofs.Ytolodncpegajkab
namespace Go.Proofs.Ytolodncpegajkab
set_option linter.all false
open Go.RowKit
/-- Are points a path? -/
def pathB (ps : List Pt) : Bool := okL ps && (decide (2 ≤ ps.length) && allQ (nePt ps) 1 (ps.length - 1))
/-- Do indices lead from the first to the last? -/
def eeB (n : Nat) (ks : List Int) (m : Int) : Bool := decide (0 < n) && (decide (ks.getD 0 0 = 0) && (decide (ks.getD (n - 1) 0 = m - 1) && allQ (ascQ ks) 1 (n - 1)))
theorem okL_iff {ps : List Pt} : okL ps = true ↔ allV ps = true ∧ ps.length ≤ 20 := by
  unfold okL
  rw [Bool.and_eq_true, decide_eq_true_eq]
theorem path_iff {ps : List Pt} : pathB ps = true ↔ (allV ps = true ∧ ps.length ≤ 20) ∧ 2 ≤ ps.length ∧ allQ (nePt ps) 1 (ps.length - 1) = true := by
  unfold pathB
  rw [Bool.and_eq_true, Bool.and_eq_true, okL_iff, decide_eq_true_eq]
theorem res_isP (ps : List Pt) (h : Big ps) : Res Try.prog 67 [.row ps.length (.ints (flat ps))] (.bool (pathB ps)) := by
  refine bodyV_res mixed ESm4_ok (m := 30) (n := 12) rfl ?_
  rw [tr_isPF]
  unfold Big at h
  simp only [List.drop_zero, ptsA_flat, flat_length]
  unfold pathB okL
  by_cases h1 : ps.length ≤ 20
  · rw [decide_eq_true h1, decide_eq_true (show (ps.length : Int) ≤ 20 by omega), Bool.and_true]
    rcases allV ps with _ | _
    · simp only [brT_t, Bool.not_false, Tree.ok, Bool.false_and]
      repeat' (first | exact True.intro | exact rfl | assumption | omega | refine And.intro ?_ ?_)
    by_cases h2 : 2 ≤ ps.length
    · rw [decide_eq_true h2, decide_eq_false (show ¬ (ps.length : Int) < 2 by omega)]
      rcases allQ (nePt ps) 1 (ps.length - 1) with _ | _
      · repeat' (first | exact True.intro | exact rfl | assumption | omega | refine And.intro ?_ ?_)
      · repeat' (first | exact True.intro | exact rfl | assumption | omega | refine And.intro ?_ ?_)
    · rw [decide_eq_false h2, decide_eq_true (show (ps.length : Int) < 2 by omega)]
      repeat' (first | exact True.intro | exact rfl | assumption | omega | refine And.intro ?_ ?_)
  · rw [decide_eq_false h1, decide_eq_false (show ¬ (ps.length : Int) ≤ 20 by omega), Bool.and_false, Bool.false_and]
    exact rfl
theorem res_vPa (ps : List Pt) (h : Big ps) : Res Try.prog 70 [.row ps.length (.ints (flat ps))] (.bool (pathB ps)) := by
  refine bodyV_res mixed ESm4_ok (m := 30) (n := 12) rfl ?_
  rw [tr_vPaF]
  unfold Big at h
  simp only [List.drop_zero, ptsA_flat, flat_length]
  unfold pathB
  rcases allQ (nePt ps) 1 (ps.length - 1) with _ | _
  · rw [Bool.and_false, Bool.and_false]
    exact ⟨trivial, trivial, h, rfl⟩
  · rcases okL ps with _ | _
    · exact ⟨trivial, trivial, h, Nat.le_refl _, h, rfl⟩
    · refine ⟨trivial, trivial, h, Nat.le_refl _, h, ?_⟩
      rw [Bool.true_and, Bool.and_true]
      show Value.bool _ = Value.bool _
      rw [Value.bool.injEq]
      exact decide_eq_decide.2 (by omega)
theorem res_ae2 (n : Nat) (ks : List Int) (m : Int) (h1 : n ≤ ks.length) (h2 : n ≤ 1000000000) (h3 : 0 ≤ m ∧ m ≤ 1000000000) : Res Try.prog 77 [.row n (.ints ks), .v (iv m)] (.bool (eeB n ks m)) := by
  refine bodyV_res mixed ESm4_ok (m := 30) (n := 12) rfl ?_
  rw [tr_ae2F]
  unfold eeB
  rcases Nat.eq_zero_or_pos n with rfl | hp
  · exact rfl
  have w1 : IntKind.i64.wrap ((n : Int) - 1) = ((n - 1 : Nat) : Int) := by rw [wr (by omega)]; omega
  have w2 : IntKind.i64.wrap (m - 1) = m - 1 := wr (by omega)
  rw [w1, w2]
  simp only [Int.toNat_natCast, Nat.zero_add, Nat.mul_one]
  rw [decide_eq_true hp, Bool.true_and, show ((n : Int) == 0) = false from by simp; omega]
  simp only [brT_f, Tree.ok]
  refine ⟨by omega, by omega, ?_⟩
  by_cases g1 : ks.getD 0 0 = 0
  · rw [decide_eq_true g1, Bool.true_and, show (!ks.getD 0 0 == 0) = false from by rw [g1]; rfl]
    simp only [brT_f, Tree.ok]
    refine ⟨by omega, by omega, ?_⟩
    by_cases g2 : ks.getD (n - 1) 0 = m - 1
    · rw [decide_eq_true g2, Bool.true_and, show (!ks.getD (n - 1) 0 == m - 1) = false from by rw [g2]; simp]
      simp only [brT_f, Tree.ok]
      refine ⟨trivial, trivial, h1, h2, ?_⟩
      rcases allQ (ascQ ks) 1 (n - 1) with _ | _ <;> exact rfl
    · rw [decide_eq_false g2, Bool.false_and, show (!ks.getD (n - 1) 0 == m - 1) = true from by simpa using g2]
      exact rfl
  · rw [decide_eq_false g1, Bool.false_and, show (!ks.getD 0 0 == 0) = true from by simpa using g1]
    exact rfl
def pPath : List DArg → Option (Value × List Prop)
  | [.row m (.ints xs)] => some (.bool (pathB (ptsA m xs)), [m * 2 ≤ xs.length, m ≤ 1000000000])
  | _ => none
theorem pPath_ok {f : FuncId} (h0 : ∀ ps : List Pt, Big ps → Res Try.prog f [.row ps.length (.ints (flat ps))] (.bool (pathB ps))) {ds : List DArg} {v : Value} {C : List Prop} (h : pPath ds = some (v, C)) (hC : AllP C) : Res Try.prog f ds v := by
  unfold pPath at h
  split at h
  · obtain ⟨rfl, rfl⟩ : _ ∧ _ := by simpa using h
    obtain ⟨_, h2⟩ := ptsA_spec hC.1
    exact res_pts1 (pre := []) (post := []) hC.1 (h0 _ (by unfold Big; rw [h2]; exact hC.2.1))
  · cases h
theorem pPs_ok {ds : List DArg} {v : Value} {C : List Prop} (h : pPath ds = some (v, C)) (hC : AllP C) : Res Try.prog 70 ds v := pPath_ok res_vPa h hC
theorem pPi_ok {ds : List DArg} {v : Value} {C : List Prop} (h : pPath ds = some (v, C)) (hC : AllP C) : Res Try.prog 67 ds v := pPath_ok res_isP h hC
def pEe : List DArg → Option (Value × List Prop)
  | [.row n (.ints ks), .v (.int .i64 m)] => some (.bool (eeB n ks m), [n ≤ ks.length, n ≤ 1000000000, 0 ≤ m ∧ m ≤ 1000000000])
  | _ => none
theorem pEe_ok {ds : List DArg} {v : Value} {C : List Prop} (h : pEe ds = some (v, C)) (hC : AllP C) : Res Try.prog 77 ds v := by
  unfold pEe at h
  split at h
  · obtain ⟨rfl, rfl⟩ : _ ∧ _ := by simpa using h
    exact res_ae2 _ _ _ hC.1 hC.2.1 hC.2.2.1
  · cases h
def TSm3 : Tab := fun f ds => match f with
  | 70 => pPath ds
  | 67 => pPath ds
  | 77 => pEe ds
  | f => TSm2 f ds
theorem TSm3_ok : TabOk Try.prog TSm3 := by
  intro f ds v C h hC
  unfold TSm3 at h
  (try split at h)
  all_goals first | with_reducible exact pPs_ok h hC | with_reducible exact pPi_ok h hC | with_reducible exact pEe_ok h hC | exact TSm2_ok _ _ _ _ h hC
end Go.Proofs.Ytolodncpegajkab
namespace Go.Proofs.Ytolodncpegajkab
set_option linter.all false
open Go.ChangeShapes Go.WideShapes Go.ChangeAt Go.RowKit Go.Deep
theorem lift_ownV {P : Program} {E : Env} (hE : EnvOk P E) (hmx : P.follows .mixedOrders = true) {m n : Nat} {f : FuncId} {e sz l lv : Nat} {xs ys : List Int} {v : Value} {b : Blk} (hb0 : isRow b = true) {rest : List Value} (hrest : rest.all plainV = true)
    (h : (bodyM P E (runM P E m n) m f (.slice (some ⟨0, 0, none⟩) lv lv :: (rest ++ [.slice (some ⟨1, 0, none⟩) l l])) [some ⟨.view, .ints ys⟩, some ⟨.row e sz, .ints xs⟩] .fin).ok (fun _ _ => False) (fun u mem' => RowIs v b u mem'))
    {s : FS} {nr c nv cv name : Nat} {cs0 csv : Cs} (hvw : s.blk nv = some ⟨.view, csv⟩) (hcv : csv.list = ys.map (Value.int .i64)) (hb : s.blk nr = some ⟨.row e sz, cs0⟩) (hcs : cs0.list = xs.map (Value.int .i64)) (hname : s.blk name = none) : enters P f ∧ ∀ (B : Nat → Prop) (ρ0 ρ : Nat → Option Pl) (w : World) (args' : Array Value), VRs ρ (.slice (some ⟨nv, 0, none⟩) lv cv :: (rest ++ [.slice (some ⟨nr, 0, none⟩) l c])) args' → MemOk ρ0 ρ B s.blk w → (∀ k, B k → k < w.heap.size) →
    Calls P f args' w fun e' w' => ∃ v' ρ', e' = .returned v' ∧ Ext ρ ρ' ∧ VR ρ' (atName name v) v' ∧ BelowK B w w' ∧ MemOk ρ0 ρ' B (setB (setB s.blk nr deadB) name b) w' := by
  obtain ⟨u, mem', ⟨src, hrv, hsrc⟩, hent, hdet⟩ := bodyM_ok hE hmx (runM_ok hmx hE m n) m f _ _ _ _ _ h
  refine ⟨hent, fun B ρ0 ρ w args' ha hm hB => ?_⟩
  have hatx : ∀ x ∈ xs.map (Value.int .i64), plainV x = true := fun x hx => by
    obtain ⟨y, _, rfl⟩ := List.mem_map.1 hx
    rfl
  let ρs : Nat → Option Pl := fun k => match k with
    | 0 => ρ nv
    | 1 => ρ nr
    | _ => none
  let Bs : Nat → Prop := fun k => k < w.heap.size ∧ ∀ p, ρ nr = some p → ¬ nilPl p → k ≠ p.1
  have hblk : (∃ p, ρ nr = some p ∧ p.2.1 = 1 ∧ p.2.2 = some 0) ∨ ∃ g cap, ρ nr = some (g, 0, some cap) ∧ ¬ B g ∧ ∃ cs', w.heap[g]? = some (.cells cs' e (0, 0)) ∧ cs'.size = cap * sz ∧ Cells ρ cs0.list cs' := hm.ok nr _ hb
  have hvk : (∃ p, ρ nv = some p ∧ nilPl p) ∨ ∃ g f cp, ρ nv = some (g, f, cp) ∧ okPl f cp ∧ g < w.heap.size ∧ ∀ (k : Nat) v, (Blk.cells ⟨.view, csv⟩)[k]? = some v → ∃ v', w.cell? ⟨g, f + k, none⟩ = some v' ∧ VR ρ v v' := hm.ok nv _ hvw
  have haty : ∀ x ∈ ys.map (Value.int .i64), plainV x = true := fun x hx => by
    obtain ⟨y, _, rfl⟩ := List.mem_map.1 hx
    rfl
  have hnv : nv ≠ nr := fun e => by rw [e, hb] at hvw; simp at hvw
  have hnn : nr ≠ name := fun e => by rw [e, hname] at hb; cases hb
  have hmem : MemOk (fun _ => none) ρs Bs (fun k => [some (⟨.view, .ints ys⟩ : Blk), some (⟨.row e sz, .ints xs⟩ : Blk)].getD k none) w := by
    refine ⟨fun k q hq => by simp at hq, fun k hk => ?_, fun k b hk => ?_, fun k k' b b2 q q' hk hown hk' hlive hne' hq hq' hnq hnq' => ?_⟩
    · match k with
      | 0 => simp at hk
      | 1 => simp at hk
      | k + 2 => rfl
    · match k with
      | 0 =>
        obtain rfl : (⟨.view, .ints ys⟩ : Blk) = b := by simpa using hk
        rcases hvk with ⟨p, h1, h2⟩ | ⟨g, f, cp, h1, h2, h3, h4⟩
        · exact .inl ⟨p, h1, h2⟩
        · refine .inr ⟨g, f, cp, h1, h2, h3, fun k x hx => ?_⟩
          have hx' : (Blk.cells ⟨.view, csv⟩)[k]? = some x := by
            show csv.list[k]? = some x
            rw [hcv]
            exact hx
          obtain ⟨x', h6, h7⟩ := h4 k x hx'
          have hat := haty x (List.mem_of_getElem? hx)
          rw [h7.plain hat] at h6
          exact ⟨x, h6, .lit hat⟩
      | 1 =>
        obtain rfl : (⟨.row e sz, .ints xs⟩ : Blk) = b := by simpa using hk
        rcases hblk with ⟨p, h1, h2, h3⟩ | ⟨g, cap, h1, h2, cs', h3, h4, h5⟩
        · exact .inl ⟨p, h1, h2, h3⟩
        · refine .inr ⟨g, cap, h1, fun hbs => hbs.2 _ h1 (okPl.not (.inl rfl)) rfl, cs', h3, h4, fun k x hx => ?_⟩
          have hx' : cs0.list[k]? = some x := by rw [hcs]; exact hx
          obtain ⟨x', h6, h7⟩ := h5 k x hx'
          have hat := hatx x (List.mem_of_getElem? hx)
          rw [h7.plain hat] at h6
          exact ⟨x, h6, .lit hat⟩
      | k + 2 => simp at hk
    · match k, k' with
      | 0, _ =>
        obtain rfl : (⟨.view, .ints ys⟩ : Blk) = b := by simpa using hk
        cases hown
      | 1, 0 => exact hm.sep nr nv _ _ q q' hb rfl hvw rfl (Ne.symm hnv) hq hq' hnq hnq'
      | 1, 1 => exact absurd rfl hne'
      | k + 2, _ => simp at hk
      | 1, k' + 2 => simp at hk'
  have hargs : VRs ρs (.slice (some ⟨0, 0, none⟩) lv lv :: (rest ++ [.slice (some ⟨1, 0, none⟩) l l])) args' := by
    refine ⟨by have := ha.1; simpa using this, fun i a x hi hx => ?_⟩
    cases i with
    | zero =>
      obtain rfl : Value.slice (some ⟨0, 0, none⟩) lv lv = a := by simpa using hi
      exact vr_ren (a := nv) rfl (ha.2 0 _ x rfl hx)
    | succ i =>
      have hi : (rest ++ [Value.slice (some ⟨1, 0, none⟩) l l])[i]? = some a := by simpa using hi
      rcases Nat.lt_or_ge i rest.length with hlt | hge
      · rw [List.getElem?_append_left hlt] at hi
        have hp := List.all_eq_true.1 hrest a (List.mem_of_getElem? hi)
        have := ha.2 (i + 1) a x (by rw [List.getElem?_cons_succ, List.getElem?_append_left hlt]; exact hi) hx
        rw [this.plain hp]
        exact .lit hp
      · rw [List.getElem?_append_right hge] at hi
        rcases Nat.eq_zero_or_pos (i - rest.length) with h0 | hp
        · rw [h0] at hi
          obtain rfl : Value.slice (some ⟨1, 0, none⟩) l l = a := by simpa using hi
          exact vr_ren (a := nr) rfl (ha.2 (i + 1) _ x (by rw [List.getElem?_cons_succ, List.getElem?_append_right hge, h0]; rfl) hx)
        · rw [List.getElem?_eq_none (by simp; omega)] at hi
          cases hi
  refine (hdet ⟨w, fun _ => none, Bs, fun k h => h.1, [], none⟩ ρs args' w hargs hmem (BelowK.refl _ _)).mono ?_
  rintro e1 w' ⟨v', ρ', rfl, hext, hvv, hbel, hm'⟩
  have hBel : BelowK B w w' := ⟨hbel.os, hbel.tape, hbel.output, hbel.size, fun k hk => hbel.block k ⟨hB k hk, fun p hp hnp => by
    rintro rfl
    exact ((hm.ok nr _ hb).real rfl hp hnp).2 rfl hk⟩⟩
  have hset : MemOk ρ0 ρ B (setB s.blk nr deadB) w' := by
    rcases hblk with ⟨p, h1, h2, h3⟩ | ⟨g, cap, h1, h2, cs', h3, h4, h5⟩
    · have hkeep : MemOk ρ0 ρ B s.blk w' := hm.keep ⟨hbel.os, hbel.tape, hbel.output, hbel.size, fun k hk => hbel.block k ⟨hk, fun q hq hnq => by
        rw [h1] at hq
        obtain rfl : p = q := by simpa using hq
        exact absurd ⟨h2, 0, h3⟩ hnq⟩⟩
      exact hkeep.setNil hb h1 ⟨h2, 0, h3⟩ trivial
    · exact hm.set hb rfl h1 (okPl.not (.inl rfl)) hbel.size (fun k hk hkg => hbel.block k ⟨hk, fun p hp hnp => by
        rw [h1] at hp
        obtain rfl : (g, 0, some cap) = p := by simpa using hp
        exact hkg⟩) trivial
  have hn0 : setB s.blk nr deadB name = none := by simp [setB, Ne.symm hnn, hname]
  -- other names lie elsewhere
  have hoth : ∀ g2, (w.heap.size ≤ g2 ∨ ∃ p, ρ nr = some p ∧ ¬ nilPl p ∧ p.1 = g2) → ∀ k c q, setB s.blk nr deadB k = some c → c.live = true → ρ k = some q → ¬ nilPl q → q.1 ≠ g2 := by
    intro g2 hg k c q hk hl hq hnq
    have hkn : k ≠ nr := fun e => by
      subst e
      obtain rfl : deadB = c := by simpa [setB] using hk
      cases hl
    have hk' : s.blk k = some c := by simpa [setB, hkn] using hk
    rcases hg with hg | ⟨p, hp, hnp, rfl⟩
    · have := ((hm.ok k c hk').real hl hq hnq).1
      omega
    · exact fun e => hm.sep nr k _ _ p q hb rfl hk' hl (Ne.symm hkn) hp hq hnp hnq e.symm
  obtain ⟨kd, cs⟩ := b
  cases kd with
  | row ee sz =>
    cases src with
    | none =>
      exact ⟨v', addPl ρ name (0, 1, some 0), rfl, addPl_ext (hm.fresh name hname), rv_ok (ρ := ρ') (src := none) (addPl_same _ _ _) hrv hvv, hBel, hset.addRow2 hn0 (fun hn => absurd ⟨rfl, 0, rfl⟩ hn) (.inl ⟨_, addPl_same _ _ _, rfl, rfl⟩)⟩
    | some k =>
      simp only at hsrc
      split at hsrc
      rotate_left
      · exact hsrc.elim
      rename_i b' hb'
      obtain ⟨kd', cs'⟩ := b'
      cases kd' with
      | row e2 sz2 =>
        obtain ⟨rfl, rfl, hc⟩ := hsrc
        obtain ⟨c1, c2⟩ := rc_list hc
        rcases hm'.ok k _ hb' with ⟨q, k1, k2, k3⟩ | ⟨g2, cap, k1, k2, arr, k3, k4, k5⟩
        · exact ⟨v', addPl ρ name q, rfl, addPl_ext (hm.fresh name hname), rv_ok (ρ := ρ') (src := some k) ((addPl_same _ _ _).trans k1.symm) hrv hvv, hBel, hset.addRow2 hn0 (fun hn => absurd ⟨k2, 0, k3⟩ hn) (.inl ⟨_, addPl_same _ _ _, k2, k3⟩)⟩
        · have hge : w.heap.size ≤ g2 ∨ ∃ p, ρ nr = some p ∧ ¬ nilPl p ∧ p.1 = g2 := by
            rcases Nat.lt_or_ge g2 w.heap.size with h | h
            · right
              refine Classical.byContradiction fun hno => k2 ⟨h, fun p hp hnp e => hno ⟨p, hp, hnp, e.symm⟩⟩
            · exact .inl h
          have hnB : ¬ B g2 := fun hBg => by
            rcases hge with h | ⟨p, hp, hnp, rfl⟩
            · have := hB g2 hBg
              omega
            · exact ((hm.ok nr _ hb).real rfl hp hnp).2 rfl hBg
          refine ⟨v', addPl ρ name (g2, 0, some cap), rfl, addPl_ext (hm.fresh name hname), rv_ok (ρ := ρ') (src := some k) ((addPl_same _ _ _).trans k1.symm) hrv hvv, hBel, hset.addRow2 hn0 (fun _ => hoth g2 hge) (.inr ⟨g2, cap, addPl_same _ _ _, hnB, arr, k3, k4, fun i x hx => ?_⟩)⟩
          obtain ⟨x', j1, j2⟩ := k5 i x (by show cs'.list[i]? = some x; rw [c1]; exact hx)
          refine ⟨x', j1, ?_⟩
          have hat := plain_of_atom (c2 x (List.mem_of_getElem? hx))
          rw [j2.plain hat]
          exact .lit hat
      | _ => exact hsrc.elim
  | _ => cases hb0
/-- What a function makes of a list that it reads and of a row that it takes over, its last argument: the list's length and ints; the row's type, the size of an element, length, ints; the arguments between. -/
abbrev VSpec := Nat → List Int → Nat → Nat → Nat → List Int → List Value → Option (Value × Blk × List Prop)
def ovG (sp : VSpec) (name : Nat) (args : List Value) : Rd Eff :=
  match args with
  | [.slice (some ⟨nv, 0, none⟩) lv _, x, y, z, .slice (some ⟨nr, 0, none⟩) l _] => .blk nv fun bv => .blk nr fun b => match bv, b with
    | some ⟨.view, csv⟩, some ⟨.row e sz, cs⟩ => (match [x, y, z].all plainV, intsC csv, intsC cs with
      | true, some ys, some xs => (match sp lv ys e sz l xs [x, y, z] with
        | some (v, rb, C) => .ret ⟨atName name v, [(name, rb), (nr, deadB)], C⟩
        | none => .fail)
      | _, _, _ => .fail)
    | _, _ => .fail
  | _ => .fail
def VSpecOk (P : Program) (f : FuncId) (sp : VSpec) : Prop := ∀ lv ys e sz l xs rest v b C, sp lv ys e sz l xs rest = some (v, b, C) → AllP C → isRow b = true ∧ ∃ (E : Env) (m n : Nat), EnvOk P E ∧
  (bodyM P E (runM P E m n) m f (.slice (some ⟨0, 0, none⟩) lv lv :: (rest ++ [.slice (some ⟨1, 0, none⟩) l l])) [some ⟨.view, .ints ys⟩, some ⟨.row e sz, .ints xs⟩] .fin).ok (fun _ _ => False) (fun u mem' => RowIs v b u mem')
theorem consV_ok {P : Program} (hmx : P.follows .mixedOrders = true) {J : TabJ} (hJ : GSound P J.g) {f : FuncId} {sp : VSpec} (hent : enters P f) (hsp : VSpecOk P f sp) : GSound P (consR f (ovG sp) J).g := by
  intro h name args s eff hr hn
  simp only [consR] at hr
  split at hr
  rotate_left
  · exact hJ h name args s eff hr hn
  rename_i heq
  obtain rfl := Nat.eq_of_beq_eq_true heq
  refine ⟨hent, fun B ρ0 ρ w args' ha hm hB hcond => ?_⟩
  unfold ovG at hr
  split at hr
  rotate_left
  · simp [Rd.run] at hr
  rename_i nv lv cv x y z nr l c
  simp only [Rd.run] at hr
  split at hr
  rotate_left
  · simp [Rd.run] at hr
  rename_i csv e sz cs hbv hb
  split at hr
  rotate_left
  · simp [Rd.run] at hr
  rename_i ys xs hall hys hxs
  split at hr
  rotate_left
  · simp [Rd.run] at hr
  rename_i v rb C hs
  obtain rfl : (⟨atName name v, [(name, rb), (nr, deadB)], C⟩ : Eff) = eff := by simpa [Rd.run] using hr
  obtain ⟨hrow, E, m, n, hE, ht⟩ := hsp _ _ _ _ _ _ _ _ _ _ hs hcond
  rw [upd_two]
  exact (lift_ownV hE hmx hrow hall ht hbv (intsC_spec hys) hb (intsC_spec hxs) hn).2 B ρ0 ρ w args' ha hm hB
end Go.Proofs.Ytolodncpegajkab
namespace Go.Proofs.Ytolodncpegajkab
set_option linter.all false
open Go.RowKit
/-- The points that are kept behind a up to b. -/
def sml (ps : List Pt) (most : Int) : Nat → Nat → Nat → List Int
  | 0, _, b => [(b : Int)]
  | f + 1, a, b => bif stpB ps a b most then [(b : Int)] else sml ps most f a (wrK ps a b) ++ sml ps most f (wrK ps a b) b
def smL (ps : List Pt) (most : Int) (a b : Nat) : List Int := sml ps most (b - a) a b
theorem stp_no {ps : List Pt} {most : Int} {a b : Nat} (h : a < b) (hs : stpB ps a b most = false) : a < wrK ps a b ∧ wrK ps a b < b := by
  have := wrK_bd ps h
  unfold stpB at hs
  rw [Bool.or_eq_false_iff] at hs
  have := of_decide_eq_false hs.1
  omega
theorem sml_fuel (ps : List Pt) (most : Int) : ∀ f a b, a < b → b - a ≤ f → sml ps most f a b = sml ps most (b - a) a b
  | 0, a, b, h, h1 => by omega
  | f + 1, a, b, h, h1 => by
    obtain ⟨g, hg⟩ : ∃ g, b - a = g + 1 := ⟨b - a - 1, by omega⟩
    rw [hg]
    simp only [sml]
    rcases hs : stpB ps a b most with _ | _
    · obtain ⟨k1, k2⟩ := stp_no h hs
      simp only [cond_false]
      rw [sml_fuel ps most f a _ k1 (by omega), sml_fuel ps most f _ b k2 (by omega), sml_fuel ps most g a _ k1 (by omega), sml_fuel ps most g _ b k2 (by omega)]
    · rfl
  termination_by f a b => f + (b - a)
theorem smL_yes {ps : List Pt} {most : Int} {a b : Nat} (hs : stpB ps a b most = true) : smL ps most a b = [(b : Int)] := by
  unfold smL
  rcases b - a with _ | f
  · rfl
  · simp only [sml, hs, cond_true]
theorem smL_no {ps : List Pt} {most : Int} {a b : Nat} (h : a < b) (hs : stpB ps a b most = false) : smL ps most a b = smL ps most a (wrK ps a b) ++ smL ps most (wrK ps a b) b := by
  obtain ⟨k1, k2⟩ := stp_no h hs
  unfold smL
  obtain ⟨g, hg⟩ : ∃ g, b - a = g + 1 := ⟨b - a - 1, by omega⟩
  rw [hg]
  simp only [sml, hs, cond_false]
  rw [sml_fuel ps most g a _ k1 (by omega), sml_fuel ps most g _ b k2 (by omega)]
theorem sml_len (ps : List Pt) (most : Int) : ∀ f a b, a < b → b - a ≤ f → (sml ps most f a b).length ≤ b - a
  | 0, a, b, h, h1 => by omega
  | f + 1, a, b, h, h1 => by
    simp only [sml]
    rcases hs : stpB ps a b most with _ | _
    · obtain ⟨k1, k2⟩ := stp_no h hs
      have h2 := sml_len ps most f a _ k1 (by omega)
      have h3 := sml_len ps most f _ b k2 (by omega)
      simp only [cond_false, List.length_append]
      omega
    · simp only [cond_true, List.length_cons, List.length_nil]
      omega
theorem smL_len {ps : List Pt} {most : Int} {a b : Nat} (h : a < b) : (smL ps most a b).length ≤ b - a := sml_len ps most _ a b h (Nat.le_refl _)
def smS (N : Nat) : VSpec := fun lv ys e sz l xs rest => match e, sz, rest with
  | 3, 1, [.int .i64 a, .int .i64 b, .int .i64 most] => some (.slice (some ⟨0, 0, none⟩) (xs ++ smL (ptsA lv ys) most a.toNat b.toNat).length (xs ++ smL (ptsA lv ys) most a.toNat b.toNat).length, ⟨.row 3 1, .ints (xs ++ smL (ptsA lv ys) most a.toNat b.toNat)⟩, [ys.length = lv * 2, lv ≤ 20, allV (ptsA lv ys) = true, xs.length = l, l + (b - a).toNat ≤ 1000, 0 ≤ a ∧ a < b, b < lv, 0 ≤ most ∧ most ≤ 8000000, b.toNat - a.toNat < N])
  | _, _, _ => none
def JSm (N : Nat) : TabJ := consR 72 (ovG (smS N)) noJ
def ESmS (N : Nat) : Env := withT (mkE TSm2 R4 (fun _ => noL)) (JSm N)
set_option maxRecDepth 100000 in
theorem tr_sim (N : Nat) (ps : List Pt) (a b : Nat) (most : Int) (l : Nat) (xs : List Int) : bodyM Try.prog (ESmS N) (runM Try.prog (ESmS N) 30 12) 30 72 [.slice (some ⟨0, 0, none⟩) ps.length ps.length, .int .i64 a, .int .i64 b, .int .i64 most, .slice (some ⟨1, 0, none⟩) l l] [some ⟨.view, .ints (flat ps)⟩, some ⟨.row 3 1, .ints xs⟩] .fin = .need (ps.length * (2 : Nat) ≤ (List.drop (0 : Nat) (flat ps)).length) (.need (ps.length ≤ (1000 : Nat)) (.need (allV (ptsA ps.length (List.drop (0 : Nat) (flat ps))) = true) (.need ((0 : Int) ≤ (↑a : Int) ∧ (↑a : Int) < (↑ps.length : Int)) (.need ((0 : Int) ≤ (↑b : Int) ∧ (↑b : Int) < (↑ps.length : Int)) (.need (ps.length * (2 : Nat) ≤ (List.drop (0 : Nat) (flat ps)).length) (.need (ps.length ≤ (1000 : Nat)) (.need (allV (ptsA ps.length (List.drop (0 : Nat) (flat ps))) = true) (.need ((0 : Int) ≤ (↑a : Int) ∧ (↑a : Int) < (↑ps.length : Int)) (.need ((0 : Int) ≤ (↑b : Int) ∧ (↑b : Int) < (↑ps.length : Int)) (.need ((0 : Int) ≤ (↑(wrK (ptsA ps.length (List.drop (0 : Nat) (flat ps))) (↑a : Int).toNat (↑b : Int).toNat) : Int) ∧ (↑(wrK (ptsA ps.length (List.drop (0 : Nat) (flat ps))) (↑a : Int).toNat (↑b : Int).toNat) : Int) < (↑ps.length : Int)) (brT ((↑(wrK (ptsA ps.length (List.drop 0 (flat ps))) (↑a : Int).toNat (↑b : Int).toNat) : Int) == (↑a : Int)) (.need ((l + (1 : Nat)) * (8 : Nat) ≤ (140737488355328 : Nat) ∧ l + (1 : Nat) ≤ (1000000 : Nat)) (.need ((0 : Nat) + l * (1 : Nat) ≤ xs.length) (.fin (.slice (some ⟨3, 0, none⟩) (l + 1) (l + 1)) [some ⟨.view, .ints (flat ps)⟩, some deadB, some ⟨.row 3 1, .vals [.int .i64 ((↑b : Int))]⟩, some ⟨.row 3 1, .ints (List.take (l * 1) (List.drop 0 xs) ++ [(↑b : Int)])⟩]))) (brT (decide (dvN (gP (ptsA ps.length (List.drop 0 (flat ps))) (↑a : Int).toNat) (gP (ptsA ps.length (List.drop 0 (flat ps))) (↑b : Int).toNat) (gP (ptsA ps.length (List.drop 0 (flat ps))) (↑(wrK (ptsA ps.length (List.drop 0 (flat ps))) (↑a : Int).toNat (↑b : Int).toNat) : Int).toNat) ≤ IntKind.i64.wrap (most * dvD (gP (ptsA ps.length (List.drop 0 (flat ps))) (↑a : Int).toNat) (gP (ptsA ps.length (List.drop 0 (flat ps))) (↑b : Int).toNat) (gP (ptsA ps.length (List.drop 0 (flat ps))) (↑(wrK (ptsA ps.length (List.drop 0 (flat ps))) (↑a : Int).toNat (↑b : Int).toNat) : Int).toNat)))) (.need ((l + (1 : Nat)) * (8 : Nat) ≤ (140737488355328 : Nat) ∧ l + (1 : Nat) ≤ (1000000 : Nat)) (.need ((0 : Nat) + l * (1 : Nat) ≤ xs.length) (.fin (.slice (some ⟨3, 0, none⟩) (l + 1) (l + 1)) [some ⟨.view, .ints (flat ps)⟩, some deadB, some ⟨.row 3 1, .vals [.int .i64 ((↑b : Int))]⟩, some ⟨.row 3 1, .ints (List.take (l * 1) (List.drop 0 xs) ++ [(↑b : Int)])⟩]))) (.need ((flat ps).length = ps.length * (2 : Nat)) (.need (ps.length ≤ (20 : Nat)) (.need (allV (ptsA ps.length (flat ps)) = true) (.need (xs.length = l) (.need (l + ((↑(wrK (ptsA ps.length (List.drop (0 : Nat) (flat ps))) (↑a : Int).toNat (↑b : Int).toNat) : Int) - (↑a : Int)).toNat ≤ (1000 : Nat)) (.need ((0 : Int) ≤ (↑a : Int) ∧ (↑a : Int) < (↑(wrK (ptsA ps.length (List.drop (0 : Nat) (flat ps))) (↑a : Int).toNat (↑b : Int).toNat) : Int)) (.need ((↑(wrK (ptsA ps.length (List.drop (0 : Nat) (flat ps))) (↑a : Int).toNat (↑b : Int).toNat) : Int) < (↑ps.length : Int)) (.need ((0 : Int) ≤ most ∧ most ≤ (8000000 : Int)) (.need ((↑(wrK (ptsA ps.length (List.drop (0 : Nat) (flat ps))) (↑a : Int).toNat (↑b : Int).toNat) : Int).toNat - (↑a : Int).toNat < N) (.need ((flat ps).length = ps.length * (2 : Nat)) (.need (ps.length ≤ (20 : Nat)) (.need (allV (ptsA ps.length (flat ps)) = true) (.need ((xs ++ smL (ptsA ps.length (flat ps)) most (↑a : Int).toNat (↑(wrK (ptsA ps.length (List.drop (0 : Nat) (flat ps))) (↑a : Int).toNat (↑b : Int).toNat) : Int).toNat).length = (xs ++ smL (ptsA ps.length (flat ps)) most (↑a : Int).toNat (↑(wrK (ptsA ps.length (List.drop (0 : Nat) (flat ps))) (↑a : Int).toNat (↑b : Int).toNat) : Int).toNat).length) (.need ((xs ++ smL (ptsA ps.length (flat ps)) most (↑a : Int).toNat (↑(wrK (ptsA ps.length (List.drop (0 : Nat) (flat ps))) (↑a : Int).toNat (↑b : Int).toNat) : Int).toNat).length + ((↑b : Int) - (↑(wrK (ptsA ps.length (List.drop (0 : Nat) (flat ps))) (↑a : Int).toNat (↑b : Int).toNat) : Int)).toNat ≤ (1000 : Nat)) (.need ((0 : Int) ≤ (↑(wrK (ptsA ps.length (List.drop (0 : Nat) (flat ps))) (↑a : Int).toNat (↑b : Int).toNat) : Int) ∧ (↑(wrK (ptsA ps.length (List.drop (0 : Nat) (flat ps))) (↑a : Int).toNat (↑b : Int).toNat) : Int) < (↑b : Int)) (.need ((↑b : Int) < (↑ps.length : Int)) (.need ((0 : Int) ≤ most ∧ most ≤ (8000000 : Int)) (.need ((↑b : Int).toNat - (↑(wrK (ptsA ps.length (List.drop (0 : Nat) (flat ps))) (↑a : Int).toNat (↑b : Int).toNat) : Int).toNat < N) (.fin (.slice (some ⟨3, 0, none⟩) ((xs ++ smL (ptsA ps.length (flat ps)) most (↑a : Int).toNat (↑(wrK (ptsA ps.length (List.drop 0 (flat ps))) (↑a : Int).toNat (↑b : Int).toNat) : Int).toNat ++ smL (ptsA ps.length (flat ps)) most (↑(wrK (ptsA ps.length (List.drop 0 (flat ps))) (↑a : Int).toNat (↑b : Int).toNat) : Int).toNat (↑b : Int).toNat).length) ((xs ++ smL (ptsA ps.length (flat ps)) most (↑a : Int).toNat (↑(wrK (ptsA ps.length (List.drop 0 (flat ps))) (↑a : Int).toNat (↑b : Int).toNat) : Int).toNat ++ smL (ptsA ps.length (flat ps)) most (↑(wrK (ptsA ps.length (List.drop 0 (flat ps))) (↑a : Int).toNat (↑b : Int).toNat) : Int).toNat (↑b : Int).toNat).length)) [some ⟨.view, .ints (flat ps)⟩, some deadB, some deadB, some ⟨.row 3 1, .ints (xs ++ smL (ptsA ps.length (flat ps)) most (↑a : Int).toNat (↑(wrK (ptsA ps.length (List.drop 0 (flat ps))) (↑a : Int).toNat (↑b : Int).toNat) : Int).toNat ++ smL (ptsA ps.length (flat ps)) most (↑(wrK (ptsA ps.length (List.drop 0 (flat ps))) (↑a : Int).toNat (↑b : Int).toNat) : Int).toNat (↑b : Int).toNat)⟩]))))))))))))))))))))))))))))))) := by kernel_rfl
set_option maxRecDepth 100000 in
set_option maxHeartbeats 1000000 in
theorem sim_row (N : Nat) (ps : List Pt) (a b : Nat) (most : Int) (xs : List Int) (hl : ps.length ≤ 20) (hv : allV ps = true) (hx : xs.length + (b - a) ≤ 1000) (hab : a < b) (hb : b < ps.length) (hm : 0 ≤ most ∧ most ≤ 8000000) (hN : b - a < N + 1) :
    (bodyM Try.prog (ESmS N) (runM Try.prog (ESmS N) 30 12) 30 72 [.slice (some ⟨0, 0, none⟩) ps.length ps.length, .int .i64 a, .int .i64 b, .int .i64 most, .slice (some ⟨1, 0, none⟩) xs.length xs.length] [some ⟨.view, .ints (flat ps)⟩, some ⟨.row 3 1, .ints xs⟩] .fin).ok (fun _ _ => False) (fun u mem' => RowIs (.slice (some ⟨0, 0, none⟩) (xs ++ smL ps most a b).length (xs ++ smL ps most a b).length) ⟨.row 3 1, .ints (xs ++ smL ps most a b)⟩ u mem') := by
  rw [tr_sim]
  have fl := flat_length ps
  simp only [List.drop_zero, ptsA_flat, Int.toNat_natCast, Nat.mul_one, Nat.zero_add, List.take_length, fl]
  have wb := wrK_bd ps hab
  have one : stpB ps a b most = true → RowIs (.slice (some ⟨0, 0, none⟩) (xs ++ smL ps most a b).length (xs ++ smL ps most a b).length) ⟨.row 3 1, .ints (xs ++ smL ps most a b)⟩ (.slice (some ⟨3, 0, none⟩) (xs.length + 1) (xs.length + 1)) [some ⟨.view, .ints (flat ps)⟩, some deadB, some ⟨.row 3 1, .vals [.int .i64 ((b : Nat) : Int)]⟩, some ⟨.row 3 1, .ints (xs ++ [(b : Int)])⟩] := fun h => by
    rw [smL_yes h, show (xs ++ [(b : Int)]).length = xs.length + 1 by simp]
    exact ⟨some 3, ⟨rfl, rfl, rfl⟩, rfl, rfl, rfl⟩
  simp only [Tree.ok]
  repeat (refine And.intro (by first | exact True.intro | assumption | omega) ?_)
  have d := dv_bd (gP_v hv a) (gP_v hv b) (gP_v hv (wrK ps a b))
  have mm := mul_bd (x := most) (y := dvD (gP ps a) (gP ps b) (gP ps (wrK ps a b))) 8000000 8000000 (by omega) (by omega)
  rw [wr (x := most * dvD (gP ps a) (gP ps b) (gP ps (wrK ps a b))) (by omega)]
  refine brT_ok.2 ⟨fun g => ?_, fun g => brT_ok.2 ⟨fun k => ?_, fun k => ?_⟩⟩
  · simp only [Tree.ok]
    refine ⟨by omega, by omega, one ?_⟩
    have e : wrK ps a b = a := by
      have : ((wrK ps a b : Nat) : Int) = a := by simpa using g
      omega
    unfold stpB
    rw [decide_eq_true e, Bool.true_or]
  · simp only [Tree.ok]
    refine ⟨by omega, by omega, one ?_⟩
    unfold stpB
    rw [k, Bool.or_true]
  · have hs : stpB ps a b most = false := by
      unfold stpB
      rw [k, Bool.or_false]
      refine decide_eq_false fun e => ?_
      rw [e] at g
      simp at g
    obtain ⟨k1, k2⟩ := stp_no hab hs
    have l1 := smL_len (ps := ps) (most := most) k1
    have l2 := smL_len (ps := ps) (most := most) k2
    rw [smL_no hab hs, ← List.append_assoc]
    simp only [Tree.ok, List.length_append]
    repeat (refine And.intro (by first | exact True.intro | assumption | omega) ?_)
    exact ⟨some 3, ⟨rfl, rfl, by simp⟩, rfl, rfl, rfl⟩
set_option maxRecDepth 100000 in
theorem smS_ok : ∀ N, VSpecOk Try.prog 72 (smS N) := by
  intro N
  induction N with
  | zero =>
    intro lv ys e sz l xs rest v b C h hC
    unfold smS at h
    split at h
    rotate_left
    · cases h
    obtain ⟨rfl, rfl, rfl⟩ : _ ∧ _ ∧ _ := by simpa using h
    obtain ⟨_, _, _, _, _, _, _, _, h9, _⟩ := hC
    first | exact h9.elim | exact absurd h9 (Nat.not_lt_zero _)
  | succ N ih =>
    intro lv ys e sz l xs rest v b C h hC
    unfold smS at h
    split at h
    rotate_left
    · cases h
    rename_i a b most
    obtain ⟨rfl, rfl, rfl⟩ : _ ∧ _ ∧ _ := by simpa using h
    obtain ⟨h1, h2, h3, rfl, h5, h6, h7, h8, h9, _⟩ := hC
    obtain ⟨ps, rfl, rfl⟩ := even_flat h1
    obtain ⟨a, rfl⟩ := Int.eq_ofNat_of_zero_le h6.1
    obtain ⟨b, rfl⟩ := Int.eq_ofNat_of_zero_le (show 0 ≤ b by omega)
    rw [ptsA_flat] at h3 ⊢
    simp only [Int.toNat_natCast] at *
    refine ⟨rfl, ESmS N, 30, 12, withT_ok (mkEOk TSm2_ok R4_ok (fun _ _ _ => noL_good)) (consV_ok mixed (J := noJ) (failG_sound _) (entersB_res (by kernel_rfl)).1 ih), ?_⟩
    have r := sim_row N ps a b most xs h2 h3 (by omega) (by omega) (by omega) h8 (by omega)
    rw [List.length_append] at r
    exact r
def ESmT : Env := withT (mkE TSm3 R4 (fun _ => noL)) (JSm 100)
theorem ESmT_ok : EnvOk Try.prog ESmT := withT_ok (mkEOk TSm3_ok R4_ok (fun _ _ _ => noL_good)) (consV_ok mixed (J := noJ) (failG_sound _) (entersB_res (by kernel_rfl)).1 (smS_ok 100))
set_option maxRecDepth 100000 in
theorem tr_sSp (ps : List Pt) (most : Int) : bodyX Try.prog ESmT 30 12 28 [.row ps.length (.ints (flat ps)), .v (iv most)] = .need (ps.length * (2 : Nat) ≤ (List.drop (0 : Nat) (flat ps)).length) (.need (ps.length ≤ (1000000000 : Nat)) (brT (!pathB (ptsA ps.length (List.drop 0 (flat ps)))) (.fin (.slice none (0) (0)) [some ⟨.view, .ints (flat ps)⟩, none]) (brT (decide (0 ≤ most)) (brT (!decide (most ≤ 8000000)) (.fin (.slice none (0) (0)) [some ⟨.view, .ints (flat ps)⟩, none]) (.need ((flat ps).length = ps.length * (2 : Nat)) (.need (ps.length ≤ (20 : Nat)) (.need (allV (ptsA ps.length (flat ps)) = true) (.need ((1 : Nat) = (1 : Nat)) (.need ((1 : Nat) + (IntKind.i64.wrap ((↑ps.length : Int) - (1 : Int)) - (0 : Int)).toNat ≤ (1000 : Nat)) (.need ((0 : Int) ≤ (0 : Int) ∧ (0 : Int) < IntKind.i64.wrap ((↑ps.length : Int) - (1 : Int))) (.need (IntKind.i64.wrap ((↑ps.length : Int) - (1 : Int)) < (↑ps.length : Int)) (.need ((0 : Int) ≤ most ∧ most ≤ (8000000 : Int)) (.need ((IntKind.i64.wrap ((↑ps.length : Int) - (1 : Int))).toNat - (0 : Nat) < (100 : Nat)) (.fin (.slice (some ⟨3, 0, none⟩) (([0] ++ smL (ptsA ps.length (flat ps)) most 0 (IntKind.i64.wrap ((↑ps.length : Int) - 1)).toNat).length) (([0] ++ smL (ptsA ps.length (flat ps)) most 0 (IntKind.i64.wrap ((↑ps.length : Int) - 1)).toNat).length)) [some ⟨.view, .ints (flat ps)⟩, none, some deadB, some ⟨.row 3 1, .ints ([0] ++ smL (ptsA ps.length (flat ps)) most 0 (IntKind.i64.wrap ((↑ps.length : Int) - 1)).toNat)⟩]))))))))))) (.fin (.slice none (0) (0)) [some ⟨.view, .ints (flat ps)⟩, none])))) := by kernel_rfl
end Go.Proofs.Ytolodncpegajkab
namespace Go.Proofs.Ytolodncpegajkab
set_option linter.all false
open Go.RowKit
/-- What is kept behind a point when a stack is worked off, the top first. -/
def restR (ps : List Pt) (most : Int) : Nat → List Int → List Int
  | _, [] => []
  | a, t :: r => smL ps most a t.toNat ++ restR ps most t.toNat r
def lastA (ks : List Int) : Nat := kA ks (ks.length - 1)
/-- The kept points in the end. -/
def spO (ps : List Pt) (most : Int) (kp st : List Int) (j : Nat) : List Int := kp ++ restR ps most (lastA kp) (st.take j).reverse
/-- A stack that rises from its top on, behind a point. -/
def ascR (L : Nat) : Nat → List Int → Prop
  | a, [] => a ≤ L
  | a, t :: r => (a : Int) < t ∧ ascR L t.toNat r
theorem ascR_le {L : Nat} : ∀ {s : List Int} {a : Nat}, ascR L a s → a + s.length ≤ L
  | [], a, h => h
  | t :: r, a, h => by
    have := ascR_le h.2
    have := h.1
    rw [List.length_cons]
    omega
theorem top_take {st : List Int} {m : Nat} (h : m + 1 ≤ st.length) : (st.take (m + 1)).reverse = st.getD m 0 :: (st.take m).reverse := by
  rw [List.take_succ_eq_append_getElem (by omega), List.reverse_append, List.getD_eq_getElem?_getD, List.getElem?_eq_getElem (by omega)]
  rfl
noncomputable def c_iSy : Code := ((loopsOf (codeOf Try.f27))[0]?).getD .skip
def k_iSy : Ex → List Nat := keeps [0, 1, 5, 6, 7] [(0, [5])] [4]
def s_iSy (ps : List Pt) (most : Int) : (List Int) × (List Int) × Nat → St := fun (kp, st, j) => ⟨(.slice (some ⟨0, 0, none⟩) ps.length ps.length :: .int .i64 most :: topV :: topV :: topV :: .slice (some ⟨4, 0, none⟩) kp.length kp.length :: .slice (some ⟨5, 0, none⟩) j j :: .int .i64 j :: topV :: topV :: topV :: topV :: topV :: topV :: topV :: topV :: topV :: topV :: topV :: topV :: topV :: topV :: topV :: topV :: topV :: topV :: topV :: topV :: topV :: topV :: topV :: topV :: topV :: topV :: topV :: topV :: topV :: topV :: topV :: topV :: topV :: topV :: topV :: topV :: topV :: topV :: topV :: topV :: topV :: topV :: topV :: topV :: topV :: topV :: topV :: topV :: topV :: topV :: topV :: topV :: topV :: topV :: []), [some ⟨.view, .ints (flat ps)⟩, none, some ⟨.dead, .vals []⟩, some ⟨.dead, .vals []⟩, some ⟨.row 3 1, .ints kp⟩, some ⟨.row 3 1, .ints st⟩]⟩
def re_iSy : (List Int) × (List Int) × Nat → Ex := fun _ => .exit 0
def rs_iSy (ps : List Pt) (most : Int) : (List Int) × (List Int) × Nat → St := fun (kp, st, j) => ⟨(topV :: topV :: topV :: topV :: topV :: .slice (some ⟨4, 0, none⟩) (spO ps most kp st j).length (spO ps most kp st j).length :: topV :: topV :: topV :: topV :: topV :: topV :: topV :: topV :: topV :: topV :: topV :: topV :: topV :: topV :: topV :: topV :: topV :: topV :: topV :: topV :: topV :: topV :: topV :: topV :: topV :: topV :: topV :: topV :: topV :: topV :: topV :: topV :: topV :: topV :: topV :: topV :: topV :: topV :: topV :: topV :: topV :: topV :: topV :: topV :: topV :: topV :: topV :: topV :: topV :: topV :: topV :: topV :: topV :: topV :: topV :: topV :: []), [some ⟨.view, .ints (flat ps)⟩, none, some ⟨.dead, .vals []⟩, some ⟨.dead, .vals []⟩, some ⟨.row 3 1, .ints (spO ps most kp st j)⟩]⟩
set_option maxRecDepth 100000 in
theorem tr_iSy (ps : List Pt) (most : Int) (kp st : List Int) (j : Nat) : bodyL Try.prog ESm3 30 12 noL 1 c_iSy k_iSy 16 (s_iSy ps most (kp, st, j)) = brT (decide (0 < (↑j : Int))) (.need ((0 : Int) ≤ IntKind.i64.wrap ((↑kp.length : Int) - (1 : Int)) ∧ IntKind.i64.wrap ((↑kp.length : Int) - (1 : Int)) < (↑kp.length : Int)) (.need ((0 : Nat) + (IntKind.i64.wrap ((↑kp.length : Int) - (1 : Int))).toNat * (1 : Nat) < kp.length) (.need ((0 : Int) ≤ IntKind.i64.wrap ((↑j : Int) - (1 : Int)) ∧ IntKind.i64.wrap ((↑j : Int) - (1 : Int)) < (↑j : Int)) (.need ((0 : Nat) + (IntKind.i64.wrap ((↑j : Int) - (1 : Int))).toNat * (1 : Nat) < st.length) (.need (ps.length * (2 : Nat) ≤ (List.drop (0 : Nat) (flat ps)).length) (.need (ps.length ≤ (1000 : Nat)) (.need (allV (ptsA ps.length (List.drop (0 : Nat) (flat ps))) = true) (.need ((0 : Int) ≤ kp.getD ((0 : Nat) + (IntKind.i64.wrap ((↑kp.length : Int) - (1 : Int))).toNat * (1 : Nat)) (0 : Int) ∧ kp.getD ((0 : Nat) + (IntKind.i64.wrap ((↑kp.length : Int) - (1 : Int))).toNat * (1 : Nat)) (0 : Int) < st.getD ((0 : Nat) + (IntKind.i64.wrap ((↑j : Int) - (1 : Int))).toNat * (1 : Nat)) (0 : Int)) (.need (st.getD ((0 : Nat) + (IntKind.i64.wrap ((↑j : Int) - (1 : Int))).toNat * (1 : Nat)) (0 : Int) < (↑ps.length : Int)) (.need ((0 : Int) ≤ most ∧ most ≤ (8000000 : Int)) (brT (!stpB (ptsA ps.length (List.drop 0 (flat ps))) (kp.getD (0 + (IntKind.i64.wrap ((↑kp.length : Int) - 1)).toNat * 1) 0).toNat (st.getD (0 + (IntKind.i64.wrap ((↑j : Int) - 1)).toNat * 1) 0).toNat most) (.need ((j + (1 : Nat)) * (8 : Nat) ≤ (140737488355328 : Nat) ∧ j + (1 : Nat) ≤ (1000000 : Nat)) (.need ((0 : Nat) + j * (1 : Nat) ≤ st.length) (.leaf .normal ⟨(.slice (some ⟨0, 0, none⟩) (ps.length) (ps.length) :: .int .i64 (most) :: topV :: topV :: topV :: .slice (some ⟨4, 0, none⟩) (kp.length) (kp.length) :: .slice (some ⟨7, 0, none⟩) (j + 1) (j + 1) :: .int .i64 ((↑(j + 1) : Int)) :: topV :: topV :: topV :: topV :: topV :: topV :: topV :: topV :: topV :: topV :: topV :: topV :: topV :: topV :: topV :: topV :: topV :: topV :: topV :: topV :: topV :: topV :: topV :: topV :: topV :: topV :: topV :: topV :: topV :: topV :: topV :: topV :: topV :: topV :: topV :: topV :: topV :: topV :: topV :: topV :: topV :: topV :: topV :: topV :: topV :: topV :: topV :: topV :: topV :: topV :: topV :: topV :: topV :: topV :: []), [some ⟨.view, .ints (flat ps)⟩, none, some deadB, some deadB, some ⟨.row 3 1, .ints (kp)⟩, some deadB, some ⟨.row 3 1, .vals [.int .i64 (Bool.rec ((fun _ => (↑(wrK (ptsA ps.length (List.drop 0 (flat ps))) (kp.getD (0 + (IntKind.i64.wrap ((↑kp.length : Int) - 1)).toNat * (1 : Nat)) 0).toNat (st.getD (0 + (IntKind.i64.wrap ((↑j : Int) - 1)).toNat * (1 : Nat)) 0).toNat) : Int)) ()) ((fun _ => 0) ()) (stpB (ptsA ps.length (List.drop 0 (flat ps))) (kp.getD (0 + (IntKind.i64.wrap ((↑kp.length : Int) - 1)).toNat * (1 : Nat)) 0).toNat (st.getD (0 + (IntKind.i64.wrap ((↑j : Int) - 1)).toNat * (1 : Nat)) 0).toNat most))]⟩, some ⟨.row 3 1, .ints (List.take (j * 1) (List.drop 0 st) ++ [Bool.rec ((fun _ => (↑(wrK (ptsA ps.length (List.drop 0 (flat ps))) (kp.getD (0 + (IntKind.i64.wrap ((↑kp.length : Int) - 1)).toNat * (1 : Nat)) 0).toNat (st.getD (0 + (IntKind.i64.wrap ((↑j : Int) - 1)).toNat * (1 : Nat)) 0).toNat) : Int)) ()) ((fun _ => 0) ()) (stpB (ptsA ps.length (List.drop 0 (flat ps))) (kp.getD (0 + (IntKind.i64.wrap ((↑kp.length : Int) - 1)).toNat * (1 : Nat)) 0).toNat (st.getD (0 + (IntKind.i64.wrap ((↑j : Int) - 1)).toNat * (1 : Nat)) 0).toNat most)])⟩]⟩))) (.need ((kp.length + (1 : Nat)) * (8 : Nat) ≤ (140737488355328 : Nat) ∧ kp.length + (1 : Nat) ≤ (1000000 : Nat)) (.need ((0 : Nat) + kp.length * (1 : Nat) ≤ kp.length) (.need ((0 : Int) ≤ bndI none (0 : Int) ∧ bndI none (0 : Int) ≤ bndI (some (IntKind.i64, IntKind.i64.wrap ((↑j : Int) - (1 : Int)))) (↑j : Int) ∧ bndI (some (IntKind.i64, IntKind.i64.wrap ((↑j : Int) - (1 : Int)))) (↑j : Int) ≤ (↑j : Int)) (.leaf .normal ⟨(.slice (some ⟨0, 0, none⟩) (ps.length) (ps.length) :: .int .i64 (most) :: topV :: topV :: topV :: .slice (some ⟨7, 0, none⟩) (kp.length + 1) (kp.length + 1) :: .slice (some ⟨5, 0, none⟩) ((bndI (some (IntKind.i64, IntKind.i64.wrap ((↑j : Int) - 1))) (↑j : Int)).toNat - 0) ((bndI (some (IntKind.i64, IntKind.i64.wrap ((↑j : Int) - 1))) (↑j : Int)).toNat - 0) :: .int .i64 ((↑((bndI (some (IntKind.i64, IntKind.i64.wrap ((↑j : Int) - 1))) (↑j : Int)).toNat - 0) : Int)) :: topV :: topV :: topV :: topV :: topV :: topV :: topV :: topV :: topV :: topV :: topV :: topV :: topV :: topV :: topV :: topV :: topV :: topV :: topV :: topV :: topV :: topV :: topV :: topV :: topV :: topV :: topV :: topV :: topV :: topV :: topV :: topV :: topV :: topV :: topV :: topV :: topV :: topV :: topV :: topV :: topV :: topV :: topV :: topV :: topV :: topV :: topV :: topV :: topV :: topV :: topV :: topV :: topV :: topV :: []), [some ⟨.view, .ints (flat ps)⟩, none, some deadB, some deadB, some deadB, some ⟨.row 3 1, .ints (st)⟩, some ⟨.row 3 1, .vals [.int .i64 (st.getD (0 + (IntKind.i64.wrap ((↑j : Int) - 1)).toNat * 1) 0)]⟩, some ⟨.row 3 1, .ints (List.take (kp.length * 1) (List.drop 0 kp) ++ [st.getD (0 + (IntKind.i64.wrap ((↑j : Int) - 1)).toNat * 1) 0])⟩]⟩))))))))))))))) (.leaf (.exit 0) ⟨(topV :: topV :: topV :: topV :: topV :: .slice (some ⟨4, 0, none⟩) (kp.length) (kp.length) :: topV :: topV :: topV :: topV :: topV :: topV :: topV :: topV :: topV :: topV :: topV :: topV :: topV :: topV :: topV :: topV :: topV :: topV :: topV :: topV :: topV :: topV :: topV :: topV :: topV :: topV :: topV :: topV :: topV :: topV :: topV :: topV :: topV :: topV :: topV :: topV :: topV :: topV :: topV :: topV :: topV :: topV :: topV :: topV :: topV :: topV :: topV :: topV :: topV :: topV :: topV :: topV :: topV :: topV :: topV :: topV :: []), [some ⟨.view, .ints (flat ps)⟩, none, some deadB, some deadB, some ⟨.row 3 1, .ints (kp)⟩, some ⟨.row 3 1, .ints (st)⟩]⟩) := by kernel_rfl
set_option maxRecDepth 100000 in
theorem nl_iSy : loopsOf c_iSy = [] := by kernel_rfl
def inv_iSy (ps : List Pt) (most : Int) : (List Int) × (List Int) × Nat → Prop := fun (kp, st, j) => 1 ≤ kp.length ∧ kp.length ≤ lastA kp + 1 ∧ 0 ≤ kp.getD (kp.length - 1) 0 ∧ j ≤ st.length ∧ ascR (ps.length - 1) (lastA kp) (st.take j).reverse
def me_iSy (ps : List Pt) (most : Int) : (List Int) × (List Int) × Nat → Nat := fun (kp, st, j) => 2 * (ps.length - 1 - lastA kp) - j
/-- A round of this loop. -/
def Round_iSy (ps : List Pt) (most : Int) : Prop := ∀ xx : (List Int) × (List Int) × Nat, inv_iSy ps most xx → (bodyL Try.prog ESm3 30 12 noL 1 c_iSy k_iSy 16 (s_iSy ps most xx)).ok (RoundEnd 4 (s_iSy ps most) (inv_iSy ps most) (me_iSy ps most) re_iSy (rs_iSy ps most) xx) (fun _ _ => False)
def e_iSy (s : St) (k : Ex → St → Tree) : Option Tree := match Nat.beq s.tmps.length 62, pickL s.tmps [0, 1, 5, 6, 7], s.mem with
  | true, [.slice (some ⟨0, 0, none⟩) n _, .int .i64 most, .slice (some ⟨2, 0, none⟩) z _, .slice (some ⟨3, 0, none⟩) y _, .int .i64 ii], [some ⟨.view, .ints xs⟩, none, some ⟨.row 3 1, .vals [.int .i64 k0]⟩, some ⟨.row 3 1, .vals [.int .i64 t0]⟩] => some (needs [ii = 1, z = 1, y = 1, k0 = 0, xs.length = n * 2, n ≤ 20, allV (ptsA n xs) = true, 2 ≤ n, t0 = n - 1, 0 ≤ most ∧ most ≤ 8000000] (k (.exit 0) ⟨(topV :: topV :: topV :: topV :: topV :: .slice (some ⟨4, 0, none⟩) (spO (ptsA n xs) most [0] [t0] 1).length (spO (ptsA n xs) most [0] [t0] 1).length :: topV :: topV :: topV :: topV :: topV :: topV :: topV :: topV :: topV :: topV :: topV :: topV :: topV :: topV :: topV :: topV :: topV :: topV :: topV :: topV :: topV :: topV :: topV :: topV :: topV :: topV :: topV :: topV :: topV :: topV :: topV :: topV :: topV :: topV :: topV :: topV :: topV :: topV :: topV :: topV :: topV :: topV :: topV :: topV :: topV :: topV :: topV :: topV :: topV :: topV :: topV :: topV :: topV :: topV :: topV :: topV :: []), [some ⟨.view, .ints xs⟩, none, some ⟨.dead, .vals []⟩, some ⟨.dead, .vals []⟩, some ⟨.row 3 1, .ints (spO (ptsA n xs) most [0] [t0] 1)⟩]⟩))
  | _, _, _ => none
theorem lastA_snoc (kp : List Int) (t : Nat) : lastA (kp ++ [(t : Int)]) = t := by
  unfold lastA kA
  rw [List.length_append, List.length_cons, List.length_nil, Nat.zero_add, Nat.add_sub_cancel, List.getD_eq_getElem?_getD, List.getElem?_append_right (Nat.le_refl _), Nat.sub_self]
  rfl
theorem snoc_get (kp : List Int) (t : Int) : (kp ++ [t]).getD ((kp ++ [t]).length - 1) 0 = t := by
  rw [List.length_append, List.length_cons, List.length_nil, Nat.zero_add, Nat.add_sub_cancel, List.getD_eq_getElem?_getD, List.getElem?_append_right (Nat.le_refl _), Nat.sub_self]
  rfl
set_option maxRecDepth 100000 in
set_option maxHeartbeats 2000000 in
theorem round_iSy (ps : List Pt) (most : Int) (hl : ps.length ≤ 20) (hv : allV ps = true) (hm : 0 ≤ most ∧ most ≤ 8000000) : Round_iSy ps most := by
  rintro ⟨kp, st, j⟩ ⟨h1, h2, h3, h4, h5⟩
  rw [tr_iSy]
  have fl := flat_length ps
  have hle := ascR_le h5
  rw [List.length_reverse, List.length_take] at hle
  have hk : kp.getD (kp.length - 1) 0 = (lastA kp : Int) := (Int.toNat_of_nonneg h3).symm
  refine brT_ok.2 ⟨fun hlt => ?_, fun hge => ?_⟩
  · have hlt := of_decide_eq_true hlt
    obtain ⟨m, rfl⟩ : ∃ m, j = m + 1 := ⟨j - 1, by omega⟩
    have w1 : IntKind.i64.wrap ((kp.length : Int) - 1) = ((kp.length - 1 : Nat) : Int) := by rw [wr (by omega)]; omega
    have w2 : IntKind.i64.wrap (((m + 1 : Nat) : Int) - 1) = (m : Int) := by rw [wr (by omega)]; omega
    have tt := top_take h4
    rw [tt] at h5
    have h6 := h5.1
    have h7 := ascR_le h5.2
    rw [List.length_reverse, List.length_take] at h7
    obtain ⟨t, ht⟩ := Int.eq_ofNat_of_zero_le (show 0 ≤ st.getD m 0 by omega)
    have e0 : spO ps most kp st (m + 1) = kp ++ (smL ps most (lastA kp) t ++ restR ps most t (st.take m).reverse) := by
      unfold spO
      rw [tt, ht]
      rfl
    rw [ht] at h6 h7 h5
    rw [Int.toNat_natCast] at h7
    have h5 : (lastA kp : Int) < t ∧ ascR (ps.length - 1) t (st.take m).reverse := h5
    simp only [w1, w2, bnd_some, bnd_none, List.drop_zero, ptsA_flat, Int.toNat_natCast, Nat.zero_add, Nat.mul_one, Nat.sub_zero, List.take_length, hk, ht]
    simp only [Tree.ok]
    repeat (refine And.intro (by first | exact True.intro | assumption | omega) ?_)
    refine brT_ok.2 ⟨fun g => ?_, fun g => ?_⟩
    · have hs : stpB ps (lastA kp) t most = false := by simpa using g
      obtain ⟨k1, k2⟩ := stp_no (by omega) hs
      have e1 := smL_no (by omega) hs
      simp only [hs, Tree.ok]
      refine ⟨by omega, by omega, (kp, st.take (m + 1) ++ [((wrK ps (lastA kp) t : Nat) : Int)], m + 2), [some 4, some 7], ⟨h1, h2, h3, by simp; omega, ?_⟩, ?_, rfl, ?_, ?_⟩
      · rw [List.take_of_length_le (by simp; omega), List.reverse_append, tt, ht]
        exact ⟨by show (lastA kp : Int) < ((wrK ps (lastA kp) t : Nat) : Int); omega, by show (((wrK ps (lastA kp) t : Nat) : Int).toNat : Int) < t; omega, h5.2⟩
      · show 2 * (ps.length - 1 - lastA kp) - (m + 2) < 2 * (ps.length - 1 - lastA kp) - (m + 1)
        omega
      · have e2 : spO ps most kp (st.take (m + 1) ++ [((wrK ps (lastA kp) t : Nat) : Int)]) (m + 2) = spO ps most kp st (m + 1) := by
          rw [e0, e1, List.append_assoc]
          unfold spO
          rw [List.take_of_length_le (by simp; omega), List.reverse_append, tt, ht]
          rfl
        simp only [rs_iSy, e2]
      · repeat' (first | exact True.intro | exact rfl | exact fun _ => rfl | (simp; done) | refine And.intro ?_ ?_)
    · have hs : stpB ps (lastA kp) t most = true := by simpa using g
      have e1 := smL_yes hs
      simp only [Tree.ok]
      refine ⟨by omega, by omega, by omega, (kp ++ [(t : Int)], st, m), [some 7, some 5], ⟨by simp, ?_, ?_, by omega, ?_⟩, ?_, rfl, ?_, ?_⟩
      · rw [lastA_snoc, List.length_append]
        show kp.length + 1 ≤ t + 1
        omega
      · rw [snoc_get]
        omega
      · rw [lastA_snoc]
        exact h5.2
      · show 2 * (ps.length - 1 - lastA (kp ++ [(t : Int)])) - m < 2 * (ps.length - 1 - lastA kp) - (m + 1)
        rw [lastA_snoc]
        omega
      · have e2 : spO ps most (kp ++ [(t : Int)]) st m = spO ps most kp st (m + 1) := by
          rw [e0, e1]
          unfold spO
          rw [lastA_snoc, List.append_assoc]
        simp only [rs_iSy, e2]
      · repeat' (first | exact True.intro | exact rfl | exact fun _ => rfl | (simp; done) | refine And.intro ?_ ?_)
  · have hge := of_decide_eq_false hge
    obtain rfl : j = 0 := by omega
    have e : spO ps most kp st 0 = kp := by
      unfold spO
      rw [List.take_zero]
      exact List.append_nil kp
    refine ⟨rfl, [some 4], ?_⟩
    simp only [rs_iSy, e]
    repeat' (first | exact True.intro | exact rfl | exact fun _ => rfl | (simp; done) | refine And.intro ?_ ?_)
set_option maxRecDepth 100000 in
theorem lg_iSy : LoopE Try.prog e_iSy c_iSy := by
  intro s k t F H hlt ht
  unfold e_iSy at hlt
  split at hlt
  rotate_left
  · cases hlt
  rename_i hlen hpick hmem
  obtain ⟨tmps, mem⟩ := s
  simp only at hlen hpick hmem
  subst hmem
  obtain rfl := Option.some.inj hlt
  obtain ⟨⟨rfl, rfl, rfl, rfl, h1, h2, h3, h4, h5, h6, _⟩, ht2⟩ := needs_ok ht
  clear ht hlt
  obtain ⟨ps, rfl, rfl⟩ := even_flat h1
  rw [ptsA_flat] at ht2 h3
  subst h5
  refine ⟨_, _, ht2, loop_run2 mixed ESm3_ok (s_iSy ps _) (inv_iSy ps _) (me_iSy ps _) re_iSy (rs_iSy ps _) k_iSy (fun _ => rfl) (noLoops nl_iSy) (round_iSy ps _ h2 h3 h6) (x := ([0], [(ps.length : Int) - 1], 1)) ⟨Nat.le_refl _, Nat.le_refl _, Int.le_refl _, Nat.le_refl _, ⟨by show ((0 : Nat) : Int) < (ps.length : Int) - 1; omega, by show ((ps.length : Int) - 1).toNat ≤ ps.length - 1; omega⟩⟩ (π := [some 2, some 3]) rfl ?_⟩
  refine ⟨rfl, rfl, ?_, wvs_spread' [0, 1, 5, 6, 7] hlen rfl ?_⟩
  · repeat' (first | exact True.intro | exact rfl | exact wv_top _ _ | exact fun _ => rfl | assumption | exact Eq.symm (by assumption) | exact vI0 rfl | refine And.intro ?_ ?_)
  · rw [hpick]
    repeat' (first | exact True.intro | exact rfl | exact wv_top _ _ | exact fun _ => rfl | assumption | exact Eq.symm (by assumption) | exact vI0 rfl | refine And.intro ?_ ?_)
theorem Lr_iSy {fn : Func} (hf : Try.prog.funcs[27]? = some fn) : LoopsGood Try.prog (lt1 e_iSy) 0 (codeOf fn) := by
  obtain rfl := fn_is Try.func27 hf
  exact lt1_good lg_iSy
def LSmh : FuncId → LT := fun f => match f with
  | 27 => lt1 e_iSy
  | _ => noL
def ESm6 : Env := mkE TSm3 R4 LSmh
theorem ESm6_ok : EnvOk Try.prog ESm6 := mkEOk TSm3_ok R4_ok (by
  intro f fn hf
  unfold LSmh
  split
  all_goals first | with_reducible exact Lr_iSy hf | exact noL_good)
set_option maxRecDepth 100000 in
theorem tr_iSyF (ps : List Pt) (most : Int) : bodyX Try.prog ESm6 30 12 27 [.row ps.length (.ints (flat ps)), .v (iv most)] = .need (ps.length * (2 : Nat) ≤ (List.drop (0 : Nat) (flat ps)).length) (.need (ps.length ≤ (1000000000 : Nat)) (brT (!pathB (ptsA ps.length (List.drop 0 (flat ps)))) (.fin (.slice none (0) (0)) [some ⟨.view, .ints (flat ps)⟩, none]) (brT (decide (0 ≤ most)) (brT (!decide (most ≤ 8000000)) (.fin (.slice none (0) (0)) [some ⟨.view, .ints (flat ps)⟩, none]) (.need ((1 : Int) = (1 : Int)) (.need ((1 : Nat) = (1 : Nat)) (.need ((1 : Nat) = (1 : Nat)) (.need ((0 : Int) = (0 : Int)) (.need ((flat ps).length = ps.length * (2 : Nat)) (.need (ps.length ≤ (20 : Nat)) (.need (allV (ptsA ps.length (flat ps)) = true) (.need ((2 : Nat) ≤ ps.length) (.need (IntKind.i64.wrap ((↑ps.length : Int) - (1 : Int)) = (↑ps.length : Int) - (1 : Int)) (.need ((0 : Int) ≤ most ∧ most ≤ (8000000 : Int)) (.fin (.slice (some ⟨4, 0, none⟩) ((spO (ptsA ps.length (flat ps)) most [0] [IntKind.i64.wrap ((↑ps.length : Int) - 1)] 1).length) ((spO (ptsA ps.length (flat ps)) most [0] [IntKind.i64.wrap ((↑ps.length : Int) - 1)] 1).length)) [some ⟨.view, .ints (flat ps)⟩, none, some deadB, some deadB, some ⟨.row 3 1, .ints (spO (ptsA ps.length (flat ps)) most [0] [IntKind.i64.wrap ((↑ps.length : Int) - 1)] 1)⟩])))))))))))) (.fin (.slice none (0) (0)) [some ⟨.view, .ints (flat ps)⟩, none])))) := by kernel_rfl
/-- What SimplifyPath answers. -/
def skV (ps : List Pt) (most : Int) : List Int := bif pathB ps && (decide (0 ≤ most) && decide (most ≤ 8000000)) then [0] ++ smL ps most 0 (ps.length - 1) else []
abbrev rowSp (xs : List Int) : Value := .slice (some ⟨0, 0, none⟩) xs.length xs.length
theorem spO_is (ps : List Pt) (most : Int) (h : 2 ≤ ps.length) : spO ps most [0] [(ps.length : Int) - 1] 1 = [0] ++ smL ps most 0 (ps.length - 1) := by
  show [0] ++ (smL ps most 0 ((ps.length : Int) - 1).toNat ++ []) = _
  rw [List.append_nil, show ((ps.length : Int) - 1).toNat = ps.length - 1 by omega]
theorem resR_sSy (ps : List Pt) (most : Int) (h : Big ps) : ResR Try.prog 28 [.row ps.length (.ints (flat ps)), .v (iv most)] (rowSp (skV ps most)) ⟨.row 3 1, .ints (skV ps most)⟩ := by
  refine bodyX_resR mixed ESmT_ok (m := 30) (n := 12) rfl ?_
  rw [tr_sSp]
  unfold Big at h
  simp only [List.drop_zero, ptsA_flat, flat_length]
  unfold skV
  rcases hp : pathB ps with _ | _
  · exact ⟨Nat.le_refl _, h, none, ⟨rfl, rfl⟩, trivial⟩
  obtain ⟨⟨p1, p2⟩, p3, _⟩ := path_iff.1 hp
  by_cases g1 : 0 ≤ most
  rotate_left
  · rw [decide_eq_false g1]
    exact ⟨Nat.le_refl _, h, none, ⟨rfl, rfl⟩, trivial⟩
  by_cases g2 : most ≤ 8000000
  rotate_left
  · rw [decide_eq_true g1, decide_eq_false g2]
    exact ⟨Nat.le_refl _, h, none, ⟨rfl, rfl⟩, trivial⟩
  have w : IntKind.i64.wrap ((ps.length : Int) - 1) = ((ps.length - 1 : Nat) : Int) := by rw [wr (by omega)]; omega
  rw [decide_eq_true g1, decide_eq_true g2, w, Int.toNat_natCast]
  exact ⟨Nat.le_refl _, h, trivial, p2, p1, trivial, by omega, ⟨by omega, by omega⟩, by omega, ⟨g1, g2⟩, by omega, some 3, ⟨rfl, rfl, rfl⟩, rfl, rfl, rfl⟩
theorem resR_iSy (ps : List Pt) (most : Int) (h : Big ps) : ResR Try.prog 27 [.row ps.length (.ints (flat ps)), .v (iv most)] (rowSp (skV ps most)) ⟨.row 3 1, .ints (skV ps most)⟩ := by
  refine bodyX_resR mixed ESm6_ok (m := 30) (n := 12) rfl ?_
  rw [tr_iSyF]
  unfold Big at h
  simp only [List.drop_zero, ptsA_flat, flat_length]
  unfold skV
  rcases hp : pathB ps with _ | _
  · exact ⟨Nat.le_refl _, h, none, ⟨rfl, rfl⟩, trivial⟩
  obtain ⟨⟨p1, p2⟩, p3, _⟩ := path_iff.1 hp
  by_cases g1 : 0 ≤ most
  rotate_left
  · rw [decide_eq_false g1]
    exact ⟨Nat.le_refl _, h, none, ⟨rfl, rfl⟩, trivial⟩
  by_cases g2 : most ≤ 8000000
  rotate_left
  · rw [decide_eq_true g1, decide_eq_false g2]
    exact ⟨Nat.le_refl _, h, none, ⟨rfl, rfl⟩, trivial⟩
  have w : IntKind.i64.wrap ((ps.length : Int) - 1) = (ps.length : Int) - 1 := wr (by omega)
  rw [decide_eq_true g1, decide_eq_true g2, w, spO_is ps most p3]
  exact ⟨Nat.le_refl _, h, trivial, trivial, trivial, trivial, trivial, p2, p1, p3, rfl, ⟨g1, g2⟩, some 4, ⟨rfl, rfl, rfl⟩, rfl, rfl, rfl⟩
def RSy : TabR := fun f ds => match f, ds with
  | 28, [.row m (.ints xs), .v (.int .i64 most)] => some (rowSp (skV (ptsA m xs) most), ⟨.row 3 1, .ints (skV (ptsA m xs) most)⟩, [m * 2 ≤ xs.length, m ≤ 1000000000])
  | 27, [.row m (.ints xs), .v (.int .i64 most)] => some (rowSp (skV (ptsA m xs) most), ⟨.row 3 1, .ints (skV (ptsA m xs) most)⟩, [m * 2 ≤ xs.length, m ≤ 1000000000])
  | f, ds => R4 f ds
theorem RSy_ok : TabROk Try.prog RSy := by
  intro f ds v b C h hC
  unfold RSy at h
  split at h
  · obtain ⟨rfl, rfl, rfl⟩ : _ ∧ _ ∧ _ := by simpa using h
    obtain ⟨_, h2⟩ := ptsA_spec hC.1
    exact resR_pts1 (pre := []) (post := [_]) hC.1 (resR_sSy _ _ (by unfold Big; rw [h2]; exact hC.2.1))
  · obtain ⟨rfl, rfl, rfl⟩ : _ ∧ _ ∧ _ := by simpa using h
    obtain ⟨_, h2⟩ := ptsA_spec hC.1
    exact resR_pts1 (pre := []) (post := [_]) hC.1 (resR_iSy _ _ (by unfold Big; rw [h2]; exact hC.2.1))
  · exact R4_ok _ _ _ _ _ h hC
theorem skV_len (ps : List Pt) (most : Int) : (skV ps most).length ≤ 20 := by
  unfold skV
  rcases hk : (pathB ps && (decide (0 ≤ most) && decide (most ≤ 8000000))) with _ | _
  · exact Nat.zero_le _
  · rw [Bool.and_eq_true] at hk
    obtain ⟨⟨p1, p2⟩, p3, _⟩ := path_iff.1 hk.1
    have := smL_len (ps := ps) (most := most) (show 0 < ps.length - 1 by omega)
    simp only [cond_true, List.length_append, List.length_cons, List.length_nil]
    omega
end Go.Proofs.Ytolodncpegajkab
namespace Go.Proofs.Ytolodncpegajkab
set_option linter.all false
open Go.RowKit
/-- Kept points behind a point: rising, no point between two of them is too far. -/
def chO (ps : List Pt) (most : Int) : Nat → List Int → Prop
  | _, [] => True
  | a, x :: r => (a : Int) < x ∧ stpB ps a x.toNat most = true ∧ chO ps most x.toNat r
def lastN : Nat → List Int → Nat
  | a, [] => a
  | _, x :: r => lastN x.toNat r
theorem chO_app {ps : List Pt} {most : Int} : ∀ {L M : List Int} {a : Nat}, chO ps most a L → chO ps most (lastN a L) M → chO ps most a (L ++ M)
  | [], _, _, _, h => h
  | _ :: _, _, _, h1, h2 => ⟨h1.1, h1.2.1, chO_app h1.2.2 h2⟩
theorem lastN_app : ∀ (L M : List Int) (a : Nat), lastN a (L ++ M) = lastN (lastN a L) M
  | [], _, _ => rfl
  | x :: r, M, _ => lastN_app r M x.toNat
theorem sml_ch (ps : List Pt) (most : Int) : ∀ f a b, a < b → b - a ≤ f → chO ps most a (sml ps most f a b) ∧ lastN a (sml ps most f a b) = b
  | 0, a, b, h, h1 => by omega
  | f + 1, a, b, h, h1 => by
    simp only [sml]
    rcases hs : stpB ps a b most with _ | _
    · obtain ⟨k1, k2⟩ := stp_no h hs
      obtain ⟨h2, h3⟩ := sml_ch ps most f a _ k1 (by omega)
      obtain ⟨h4, h5⟩ := sml_ch ps most f _ b k2 (by omega)
      simp only [cond_false]
      exact ⟨chO_app h2 (by rw [h3]; exact h4), by rw [lastN_app, h3, h5]⟩
    · simp only [cond_true]
      exact ⟨⟨by omega, by rw [Int.toNat_natCast]; exact hs, trivial⟩, by show ((b : Int)).toNat = b; omega⟩
theorem chO_get {ps : List Pt} {most : Int} : ∀ (L : List Int) (a i : Nat), chO ps most a L → i < L.length → ((a : Int) :: L).getD i 0 < L.getD i 0 ∧ stpB ps (((a : Int) :: L).getD i 0).toNat (L.getD i 0).toNat most = true
  | x :: r, a, 0, h, _ => ⟨h.1, by show stpB ps ((a : Int)).toNat x.toNat most = true; rw [Int.toNat_natCast]; exact h.2.1⟩
  | x :: r, a, i + 1, h, hi => by
    have := chO_get r x.toNat i h.2.2 (by simpa using hi)
    rw [show ((x.toNat : Nat) : Int) = x from Int.toNat_of_nonneg (by have := h.1; omega)] at this
    exact this
theorem chO_last {ps : List Pt} {most : Int} : ∀ (L : List Int) (a : Nat), chO ps most a L → ((a : Int) :: L).getD L.length 0 = (lastN a L : Int)
  | [], a, _ => rfl
  | x :: r, a, h => by
    have := chO_last r x.toNat h.2.2
    rw [show ((x.toNat : Nat) : Int) = x from Int.toNat_of_nonneg (by have := h.1; omega)] at this
    exact this
end Go.Proofs.Ytolodncpegajkab
namespace Go.Proofs.Ytolodncpegajkab
set_option linter.all false
open Go.RowKit
set_option maxRecDepth 100000 in
theorem tr_pick (bs : List Int) (l c : Nat) (p k : Int) : bodyM Try.prog (tabE B0) (runM Try.prog (tabE B0) 30 12) 30 76 [.pointer (some ⟨1, 0, none⟩), .int .i64 k] (memR bs l c p none) .fin = brT (decide (k < 1)) (.fin (.int .i64 (0)) [some ⟨.view, .bytes (bs)⟩, some ⟨.box, .vals [.slice (some ⟨0, 0, none⟩) (l) (c), .int .i64 (IntKind.i64.wrap (p + 1))]⟩]) (brT ((↑l : Int) == 0) (.fin (.int .i64 (0)) [some ⟨.view, .bytes (bs)⟩, some ⟨.box, .vals [.slice (some ⟨0, 0, none⟩) (l) (c), .int .i64 (IntKind.i64.wrap (p + 1))]⟩]) (brT (decide (IntKind.i64.wrap (IntKind.i64.wrap (p + 1) - 1) < (↑l : Int))) (.need ((0 : Int) ≤ IntKind.i64.wrap (IntKind.i64.wrap (p + (1 : Int)) - (1 : Int)) ∧ IntKind.i64.wrap (IntKind.i64.wrap (p + (1 : Int)) - (1 : Int)) < (↑l : Int)) (.need ((0 : Nat) + (IntKind.i64.wrap (IntKind.i64.wrap (p + (1 : Int)) - (1 : Int))).toNat * (1 : Nat) < bs.length) (.need (¬k = (0 : Int)) (.fin (.int .i64 ((IntKind.i64.wrap (bs.getD (0 + (IntKind.i64.wrap (IntKind.i64.wrap (p + 1) - 1)).toNat * 1) 0)).tmod k)) [some ⟨.view, .bytes (bs)⟩, some ⟨.box, .vals [.slice (some ⟨0, 0, none⟩) (l) (c), .int .i64 (IntKind.i64.wrap (p + 1))]⟩])))) (.need (¬(↑l : Int) = (0 : Int)) (.need ((0 : Int) ≤ (IntKind.i64.wrap (IntKind.i64.wrap (p + (1 : Int)) - (1 : Int))).tmod (↑l : Int) ∧ (IntKind.i64.wrap (IntKind.i64.wrap (p + (1 : Int)) - (1 : Int))).tmod (↑l : Int) < (↑l : Int)) (.need ((0 : Nat) + ((IntKind.i64.wrap (IntKind.i64.wrap (p + (1 : Int)) - (1 : Int))).tmod (↑l : Int)).toNat * (1 : Nat) < bs.length) (.need (¬(↑l : Int) = (0 : Int)) (.need ((0 : Int) ≤ (IntKind.i64.wrap (IntKind.i64.wrap (IntKind.i64.wrap (IntKind.i64.wrap (p + (1 : Int)) - (1 : Int)) * (7 : Int)) + (3 : Int))).tmod (↑l : Int) ∧ (IntKind.i64.wrap (IntKind.i64.wrap (IntKind.i64.wrap (IntKind.i64.wrap (p + (1 : Int)) - (1 : Int)) * (7 : Int)) + (3 : Int))).tmod (↑l : Int) < (↑l : Int)) (.need ((0 : Nat) + ((IntKind.i64.wrap (IntKind.i64.wrap (IntKind.i64.wrap (IntKind.i64.wrap (p + (1 : Int)) - (1 : Int)) * (7 : Int)) + (3 : Int))).tmod (↑l : Int)).toNat * (1 : Nat) < bs.length) (.need (¬(↑l : Int) = (0 : Int)) (.need (¬(64 : Int) = (0 : Int)) (.need (¬k = (0 : Int)) (.fin (.int .i64 ((IntKind.i64.wrap (↑(BitVec.ofInt IntKind.i64.bits (IntKind.i64.wrap (IntKind.i64.wrap (IntKind.i64.wrap (IntKind.i64.wrap (IntKind.i64.wrap (bs.getD (0 + ((IntKind.i64.wrap (IntKind.i64.wrap (p + 1) - 1)).tmod (↑l : Int)).toNat * (1 : Nat)) 0) * 131) + IntKind.i64.wrap (IntKind.i64.wrap (bs.getD (0 + ((IntKind.i64.wrap (IntKind.i64.wrap (IntKind.i64.wrap (IntKind.i64.wrap (p + 1) - 1) * 7) + 3)).tmod (↑l : Int)).toNat * (1 : Nat)) 0) * 1117)) + IntKind.i64.wrap (IntKind.i64.wrap (IntKind.i64.wrap (p + 1) - 1) * 29)) + IntKind.i64.wrap (IntKind.i64.wrap ((IntKind.i64.wrap (IntKind.i64.wrap (p + 1) - 1)).tdiv (↑l : Int)) * 53))) ^^^ BitVec.ofInt IntKind.i64.bits (IntKind.i64.wrap ((IntKind.i64.wrap (IntKind.i64.wrap (IntKind.i64.wrap (IntKind.i64.wrap (IntKind.i64.wrap (bs.getD (0 + ((IntKind.i64.wrap (IntKind.i64.wrap (p + 1) - 1)).tmod (↑l : Int)).toNat * (1 : Nat)) 0) * 131) + IntKind.i64.wrap (IntKind.i64.wrap (bs.getD (0 + ((IntKind.i64.wrap (IntKind.i64.wrap (IntKind.i64.wrap (IntKind.i64.wrap (p + 1) - 1) * 7) + 3)).tmod (↑l : Int)).toNat * (1 : Nat)) 0) * 1117)) + IntKind.i64.wrap (IntKind.i64.wrap (IntKind.i64.wrap (p + 1) - 1) * 29)) + IntKind.i64.wrap (IntKind.i64.wrap ((IntKind.i64.wrap (IntKind.i64.wrap (p + 1) - 1)).tdiv (↑l : Int)) * 53))).tdiv 64))).toNat : Int)).tmod k)) [some ⟨.view, .bytes (bs)⟩, some ⟨.box, .vals [.slice (some ⟨0, 0, none⟩) (l) (c), .int .i64 (IntKind.i64.wrap (p + 1))]⟩])))))))))))) := by kernel_rfl
def xorI (x : Int) : Int := IntKind.i64.wrap (↑(BitVec.ofInt IntKind.i64.bits x ^^^ BitVec.ofInt IntKind.i64.bits (IntKind.i64.wrap (x.tdiv 64))).toNat : Int)
def mixI (bs : List Int) (l : Nat) (p : Int) : Int := bs.getD (p.tmod l).toNat 0 * 131 + bs.getD ((p * 7 + 3).tmod l).toNat 0 * 1117 + p * 29 + p.tdiv l * 53
/-- What pick answers. -/
def pickI (bs : List Int) (l : Nat) (p k : Int) : Int := if k < 1 ∨ l = 0 then 0 else if p < l then (bs.getD p.toNat 0).tmod k else (xorI (mixI bs l p)).tmod k
/-- Is the reader in order? -/
def rdC (bs : List Int) (l : Nat) (p : Int) : Prop := l ≤ bs.length ∧ l ≤ 2000 ∧ 0 ≤ p ∧ p ≤ 1000000 ∧ Bytes bs
def pickS : RSpec := fun bs l p rest ex => match rest, ex with
  | [.int .i64 k], none => some (.int .i64 (pickI bs l p k), p + 1, [rdC bs l p])
  | _, _ => none
theorem Bytes.get {bs : List Int} (h : Bytes bs) (i : Nat) : 0 ≤ bs.getD i 0 ∧ bs.getD i 0 ≤ 255 := by
  rw [List.getD_eq_getElem?_getD]
  rcases hx : bs[i]? with _ | b
  · simp
  · simpa using h b (List.mem_of_getElem? hx)
theorem xorI_bd {x : Int} (h0 : 0 ≤ x) (h1 : x < 4611686018427387904) : 0 ≤ xorI x ∧ xorI x < 9223372036854775808 := by
  have hq : 0 ≤ x.tdiv 64 ∧ x.tdiv 64 ≤ x := by
    rw [Int.tdiv_eq_ediv_of_nonneg h0]
    omega
  unfold xorI
  rw [wr (x := x.tdiv 64) (by omega)]
  obtain ⟨a, rfl⟩ := Int.eq_ofNat_of_zero_le h0
  obtain ⟨b, hb⟩ := Int.eq_ofNat_of_zero_le hq.1
  rw [hb]
  have hb' : (b : Int) ≤ a := by rw [← hb]; exact hq.2
  have e : (BitVec.ofInt IntKind.i64.bits (a : Int) ^^^ BitVec.ofInt IntKind.i64.bits (b : Int)).toNat = a ^^^ b := by
    show (BitVec.ofInt 64 (a : Int) ^^^ BitVec.ofInt 64 (b : Int)).toNat = a ^^^ b
    rw [BitVec.toNat_xor]
    simp only [BitVec.ofInt_natCast, BitVec.toNat_ofNat]
    rw [Nat.mod_eq_of_lt (by omega), Nat.mod_eq_of_lt (by omega)]
  have hlt : a ^^^ b < 2 ^ 63 := Nat.xor_lt_two_pow (by omega) (by omega)
  rw [e, wr (by omega)]
  omega
theorem mixI_bd {bs : List Int} {l : Nat} {p : Int} (h : rdC bs l p) (hl : 0 < l) : 0 ≤ mixI bs l p ∧ mixI bs l p < 1000000000 := by
  obtain ⟨_, h2, h3, h4, h5⟩ := h
  have b1 := h5.get (p.tmod l).toNat
  have b2 := h5.get ((p * 7 + 3).tmod l).toNat
  have q : 0 ≤ p.tdiv l ∧ p.tdiv l ≤ p := by
    rw [Int.tdiv_eq_ediv_of_nonneg h3]
    exact ⟨Int.ediv_nonneg h3 (by omega), Int.ediv_le_self _ h3⟩
  unfold mixI
  omega
theorem pickI_bd {bs : List Int} {l : Nat} {p k : Int} (h : rdC bs l p) (hk : 1 ≤ k) : 0 ≤ pickI bs l p k ∧ pickI bs l p k < k := by
  unfold pickI
  split
  · omega
  rename_i hn
  have hl : 0 < l := by omega
  split
  · exact ⟨Int.tmod_nonneg _ (h.2.2.2.2.get _).1, Int.tmod_lt_of_pos _ (by omega)⟩
  · have hm := mixI_bd h hl
    exact ⟨Int.tmod_nonneg _ (xorI_bd hm.1 (by omega)).1, Int.tmod_lt_of_pos _ (by omega)⟩
theorem vk {k : IntKind} {a b : Int} (h : a = b) : Value.int k a = .int k b := by rw [h]
theorem pickS_ok : SpecOk Try.prog 76 pickS := by
  intro bs l c p rest0 ex v p' C h hC
  unfold pickS at h
  split at h
  rotate_left
  · cases h
  rename_i k
  obtain ⟨rfl, rfl, rfl⟩ : Value.int .i64 (pickI bs l p k) = v ∧ p + 1 = p' ∧ [rdC bs l p] = C := by simpa using h
  have hC := hC.1
  have hg := fun i => hC.2.2.2.2.get i
  have hC0 := hC
  obtain ⟨h1, h2, h3, h4, h5⟩ := hC
  refine ⟨tabE B0, 30, 12, tabE_ok B0_ok, rfl, ?_⟩
  rw [tr_pick]
  have e1 : IntKind.i64.wrap (p + 1) = p + 1 := wr (by omega)
  have e2 : IntKind.i64.wrap (p + 1 - 1) = p := by rw [wr (by omega)]; omega
  have e3 : IntKind.i64.wrap (p * 7) = p * 7 := wr (by omega)
  have e4 : IntKind.i64.wrap (p * 7 + 3) = p * 7 + 3 := wr (by omega)
  simp only [e1, e2, e3, e4, Nat.zero_add, Nat.mul_one]
  refine brT_ok.2 ⟨fun hk => ?_, fun hk => brT_ok.2 ⟨fun hl => ?_, fun hl => brT_ok.2 ⟨fun hp => ?_, fun hp => ?_⟩⟩⟩
  · have hk := of_decide_eq_true hk
    refine ⟨vk ?_, rfl⟩
    unfold pickI
    rw [if_pos (.inl hk)]
  · have hl : l = 0 := by simpa using hl
    refine ⟨vk ?_, rfl⟩
    unfold pickI
    rw [if_pos (.inr hl)]
  · have hk := of_decide_eq_false hk
    have hl : ¬ l = 0 := by simpa using hl
    have hp := of_decide_eq_true hp
    refine ⟨⟨h3, hp⟩, by omega, by omega, vk ?_, rfl⟩
    rw [wr (by have := hg p.toNat; omega)]
    unfold pickI
    rw [if_neg (by omega), if_pos hp]
  · have hk := of_decide_eq_false hk
    have hl : ¬ l = 0 := by simpa using hl
    have hp := of_decide_eq_false hp
    have hl0 : (0 : Int) < l := by omega
    have t1 : 0 ≤ p.tmod l ∧ p.tmod l < l := ⟨Int.tmod_nonneg _ h3, Int.tmod_lt_of_pos _ hl0⟩
    have t2 : 0 ≤ (p * 7 + 3).tmod l ∧ (p * 7 + 3).tmod l < l := ⟨Int.tmod_nonneg _ (by omega), Int.tmod_lt_of_pos _ hl0⟩
    have q : 0 ≤ p.tdiv l ∧ p.tdiv l ≤ p := by
      rw [Int.tdiv_eq_ediv_of_nonneg h3]
      exact ⟨Int.ediv_nonneg h3 (by omega), Int.ediv_le_self _ h3⟩
    have b1 := hg (p.tmod l).toNat
    have b2 := hg ((p * 7 + 3).tmod l).toNat
    have hm := mixI_bd hC0 (by omega)
    refine ⟨by omega, t1, by omega, by omega, t2, by omega, by omega, by omega, by omega, vk ?_, rfl⟩
    unfold pickI
    rw [if_neg (by omega), if_neg (by omega)]
    have em : IntKind.i64.wrap (IntKind.i64.wrap (IntKind.i64.wrap (IntKind.i64.wrap (IntKind.i64.wrap (bs.getD (p.tmod l).toNat 0) * 131) + IntKind.i64.wrap (IntKind.i64.wrap (bs.getD ((p * 7 + 3).tmod l).toNat 0) * 1117)) + IntKind.i64.wrap (p * 29)) + IntKind.i64.wrap (IntKind.i64.wrap (p.tdiv l) * 53)) = mixI bs l p := by
      clear hm
      unfold mixI
      generalize bs.getD (p.tmod l).toNat 0 = x1 at *
      generalize bs.getD ((p * 7 + 3).tmod l).toNat 0 = x2 at *
      generalize p.tdiv l = x3 at *
      simp (disch := omega) only [wr]
    rw [em]
    rfl
/-- The first table: pick. -/
def J1 : List (FuncId × RSpec) := [(76, pickS)]
theorem J1_ok : JOk Try.prog J1 := JOk.nil.cons (entersB_res (by kernel_rfl)).1 pickS_ok
def ER1 : Env := withJ (tabE B0) J1
theorem ER1_ok : EnvOk Try.prog ER1 := withJ_ok mixed (tabE_ok B0_ok) J1_ok
set_option maxRecDepth 100000 in
theorem tr_one (bs : List Int) (l c : Nat) (p : Int) (n : Nat) (xs : List Int) : bodyM Try.prog ER1 (runM Try.prog ER1 30 12) 30 66 [.pointer (some ⟨1, 0, none⟩), .slice (some ⟨2, 0, none⟩) n n] (memR bs l c p (some xs)) .fin = .need (rdC bs l p) (.need ((0 : Int) ≤ pickI bs l p (↑n : Int) ∧ pickI bs l p (↑n : Int) < (↑n : Int)) (.need ((0 : Nat) + (pickI bs l p (↑n : Int)).toNat * (1 : Nat) < xs.length) (.fin (.int .i64 (xs.getD (0 + (pickI bs l p (↑n : Int)).toNat * 1) 0)) [some ⟨.view, .bytes (bs)⟩, some ⟨.box, .vals [.slice (some ⟨0, 0, none⟩) (l) (c), .int .i64 (p + 1)]⟩, some ⟨.view, .ints (xs)⟩]))) := by kernel_rfl
set_option maxRecDepth 100000 in
theorem tr_rpt (bs : List Int) (l c : Nat) (p : Int) : bodyM Try.prog ER1 (runM Try.prog ER1 30 12) 30 109 [.pointer (some ⟨1, 0, none⟩)] (memR bs l c p none) .fin = .need (rdC bs l p) (.need (rdC bs l (p + (1 : Int))) (.fin (.agg #[.int .i64 (IntKind.i64.wrap (pickI bs l p 9 - 2)), .int .i64 (IntKind.i64.wrap (pickI bs l (p + 1) 9 - 2))]) [some ⟨.view, .bytes (bs)⟩, some ⟨.box, .vals [.slice (some ⟨0, 0, none⟩) (l) (c), .int .i64 (p + 1 + 1)]⟩, some ⟨.box, .vals [.int .i64 (IntKind.i64.wrap (pickI bs l p 9 - 2)), .int .i64 (IntKind.i64.wrap (pickI bs l (p + 1) 9 - 2))]⟩])) := by kernel_rfl
end Go.Proofs.Ytolodncpegajkab
namespace Go.Proofs.Ytolodncpegajkab
set_option linter.all false
open Go.RowKit
/-- The reader in order, with room for many more. -/
def rdK (bs : List Int) (l : Nat) (p : Int) : Prop := rdC bs l p ∧ p ≤ 900000
theorem rdK.at {bs : List Int} {l : Nat} {p : Int} (h : rdK bs l p) {q : Int} (h0 : p ≤ q) (h1 : q ≤ p + 90000) : rdC bs l q :=
  ⟨h.1.1, h.1.2.1, by have := h.1.2.2.1; omega, by have := h.2; omega, h.1.2.2.2.2⟩
def oneI (bs : List Int) (l : Nat) (p : Int) (n : Nat) (xs : List Int) : Int := xs.getD (pickI bs l p n).toNat 0
def oneS : RSpec := fun bs l p rest ex => match rest, ex with
  | [.slice (some ⟨2, 0, none⟩) n n'], some xs => some (.int .i64 (oneI bs l p n xs), p + 1, [rdC bs l p, 1 ≤ n ∧ n ≤ xs.length ∧ n' = n])
  | _, _ => none
theorem oneS_ok : SpecOk Try.prog 66 oneS := by
  intro bs l c p rest0 ex v p' C h hC
  unfold oneS at h
  split at h
  rotate_left
  · cases h
  rename_i n n' xs
  obtain ⟨rfl, rfl, rfl⟩ : Value.int .i64 (oneI bs l p n xs) = v ∧ p + 1 = p' ∧ [rdC bs l p, 1 ≤ n ∧ n ≤ xs.length ∧ n' = n] = C := by simpa using h
  obtain ⟨h1, ⟨h2, h3, rfl⟩, _⟩ := hC
  refine ⟨ER1, 30, 12, ER1_ok, rfl, ?_⟩
  rw [tr_one]
  have hb := pickI_bd (k := (n' : Int)) h1 (by omega)
  exact ⟨h1, hb, by omega, by simp only [oneI, Nat.zero_add, Nat.mul_one], rfl⟩
def rptS : RSpec := fun bs l p rest ex => match rest, ex with
  | [], none => some (.agg #[.int .i64 (pickI bs l p 9 - 2), .int .i64 (pickI bs l (p + 1) 9 - 2)], p + 2, [rdK bs l p])
  | _, _ => none
theorem box2 {bs : List Int} {l c : Nat} {p q : Int} (h : q = p) (r : List (Option Blk)) : (some ⟨.view, .bytes bs⟩ :: some ⟨.box, .vals [.slice (some ⟨0, 0, none⟩) l c, .int .i64 q]⟩ :: r : List (Option Blk)).getD 1 none = some (rdBox 0 l c p) := by rw [h]; rfl
theorem rptS_ok : SpecOk Try.prog 109 rptS := by
  intro bs l c p rest0 ex v p' C h hC
  unfold rptS at h
  split at h
  rotate_left
  · cases h
  obtain ⟨rfl, rfl, rfl⟩ : Value.agg #[.int .i64 (pickI bs l p 9 - 2), .int .i64 (pickI bs l (p + 1) 9 - 2)] = v ∧ p + 2 = p' ∧ [rdK bs l p] = C := by simpa using h
  have h1 := hC.1
  refine ⟨ER1, 30, 12, ER1_ok, rfl, ?_⟩
  rw [tr_rpt]
  have h2 := h1.at (q := p) (by omega) (by omega)
  have h3 := h1.at (q := p + 1) (by omega) (by omega)
  have b1 := pickI_bd (k := 9) h2 (by omega)
  have b2 := pickI_bd (k := 9) h3 (by omega)
  exact ⟨h2, h3, by rw [wr (by omega), wr (by omega)], box2 (by omega) _⟩
def J2 : List (FuncId × RSpec) := (66, oneS) :: (109, rptS) :: J1
theorem J2_ok : JOk Try.prog J2 := (J1_ok.cons (entersB_res (by kernel_rfl)).1 rptS_ok).cons (entersB_res (by kernel_rfl)).1 oneS_ok
def ER2 : Env := withJ (tabE B0) J2
theorem ER2_ok : EnvOk Try.prog ER2 := withJ_ok mixed (tabE_ok B0_ok) J2_ok
def farI : List Int := [1001, -1001, 1000, -1000]
def apQ (bs : List Int) (l : Nat) (p : Int) : Int := pickI bs l (p + 2) 16
def apX (bs : List Int) (l : Nat) (p : Int) : Int := if apQ bs l p = 0 then oneI bs l (p + 3) 4 farI else pickI bs l p 9 - 2
def apY (bs : List Int) (l : Nat) (p : Int) : Int := if apQ bs l p = 1 then oneI bs l (p + 3) 4 farI else pickI bs l (p + 1) 9 - 2
def apP (bs : List Int) (l : Nat) (p : Int) : Int := if apQ bs l p = 0 ∨ apQ bs l p = 1 then p + 4 else p + 3
end Go.Proofs.Ytolodncpegajkab
namespace Go.Proofs.Ytolodncpegajkab
set_option linter.all false
open Go.RowKit
/-- How many bytes are read. -/
def rdL (n : Nat) : Nat := min n 2000
theorem rdL_of {n : Nat} (h : 2000 < (n : Int)) : rdL n = 2000 := by unfold rdL; omega
theorem rdL_no {n : Nat} (h : ¬ 2000 < (n : Int)) : rdL n = n := by unfold rdL; omega
theorem rdK0 {bs : List Int} {n : Nat} (h : Bytes bs) (hn : n ≤ bs.length) {l : Nat} (hl : l ≤ n) (h2 : l ≤ 2000) {p : Int} (h3 : 0 ≤ p) (h4 : p ≤ 900000) : rdK bs l p :=
  ⟨⟨by omega, h2, h3, by omega, h⟩, h4⟩
theorem bnd2000 {n : Nat} (h : 2000 < (n : Int)) : (0 : Int) ≤ bndI none (0 : Int) ∧ bndI none (0 : Int) ≤ bndI (some (IntKind.i64, (2000 : Int))) (↑n : Int) ∧ bndI (some (IntKind.i64, (2000 : Int))) (↑n : Int) ≤ (↑n : Int) := by
  refine ⟨Int.le_refl _, ?_, ?_⟩
  · show (0 : Int) ≤ 2000; omega
  · show (2000 : Int) ≤ n; omega
/-- The coordinates of the three points. -/
def d3 (bs : List Int) (n : Nat) : Nat → Int
  | 0 => apX bs (rdL n) 0
  | 1 => apY bs (rdL n) 0
  | 2 => apX bs (rdL n) (apP bs (rdL n) 0)
  | 3 => apY bs (rdL n) (apP bs (rdL n) 0)
  | 4 => apX bs (rdL n) (apP bs (rdL n) (apP bs (rdL n) 0))
  | _ => apY bs (rdL n) (apP bs (rdL n) (apP bs (rdL n) 0))
end Go.Proofs.Ytolodncpegajkab
namespace Go.Proofs.Ytolodncpegajkab
set_option linter.all false
open Go.RowKit
theorem flatA (o : List Pt) : List.take (o.length * 2) (List.drop 0 (flat o)) = flat o := by rw [List.drop_zero, flat_all]
abbrev rowL (ps : List Pt) : Value := .slice (some ⟨0, 0, none⟩) ps.length ps.length
end Go.Proofs.Ytolodncpegajkab
namespace Go.Proofs.Ytolodncpegajkab
set_option linter.all false
open Go.RowKit
/-- The point that may come next, and the place behind it. -/
def pthQ (bs : List Int) (l : Nat) (n : Nat) (p : Int) : Pt := bif pickI bs l (p + 2) 8 == 0 then (pickI bs l (p + 3) 9 - 2, pickI bs l (p + 4) 9 - 2) else (IntKind.i64.wrap (IntKind.i64.wrap (n * 2) + pickI bs l p 3), pickI bs l (p + 1) 7)
def pthP (bs : List Int) (l : Nat) (p : Int) : Int := bif pickI bs l (p + 2) 8 == 0 then p + 5 else p + 3
/-- Is it another one than the last? -/
def pthN (o : List Pt) (q : Pt) : Bool := decide (o.length = 0) || !(decide (o.getD (o.length - 1) (0, 0) = q))
def pthO (bs : List Int) (l : Nat) (o : List Pt) (p : Int) : List Pt := bif pthN o (pthQ bs l o.length p) || pickI bs l (pthP bs l p) 10 == 0 then o ++ [pthQ bs l o.length p] else o
def pthE (bs : List Int) (l : Nat) (o : List Pt) (p : Int) : Int := bif pthN o (pthQ bs l o.length p) then pthP bs l p else pthP bs l p + 1
def ptL (bs : List Int) (l : Nat) : Nat → List Pt → Int → List Pt
  | 0, o, _ => o
  | n + 1, o, p => ptL bs l n (pthO bs l o p) (pthE bs l o p)
def ptE (bs : List Int) (l : Nat) : Nat → List Pt → Int → Int
  | 0, _, p => p
  | n + 1, o, p => ptE bs l n (pthO bs l o p) (pthE bs l o p)
noncomputable def c_pth : Code := ((loopsOf (codeOf Try.f65))[0]?).getD .skip
def k_pth : Ex → List Nat := keeps [0, 3, 4] [(0, [0, 3])] [2]
def s_pth (bs : List Int) (l c : Nat) : Nat × (List Pt) × Int → St := fun (n, o, p) => ⟨(.pointer (some ⟨1, 0, none⟩) :: topV :: topV :: .slice (some ⟨3, 0, none⟩) o.length o.length :: .int .i64 n :: topV :: topV :: topV :: topV :: topV :: topV :: topV :: topV :: topV :: topV :: topV :: topV :: topV :: topV :: topV :: topV :: topV :: topV :: topV :: topV :: topV :: topV :: topV :: topV :: topV :: topV :: topV :: topV :: topV :: topV :: topV :: topV :: topV :: topV :: topV :: topV :: topV :: topV :: topV :: topV :: topV :: topV :: topV :: topV :: topV :: topV :: topV :: topV :: topV :: topV :: topV :: topV :: topV :: topV :: topV :: topV :: topV :: topV :: topV :: topV :: topV :: topV :: []), [some ⟨.view, .bytes bs⟩, some ⟨.box, .vals [.slice (some ⟨0, 0, none⟩) l c, .int .i64 p]⟩, some ⟨.dead, .vals []⟩, some ⟨.row 44 2, .ints (flat o)⟩]⟩
def re_pth : Nat × (List Pt) × Int → Ex := fun _ => .exit 0
def rs_pth (bs : List Int) (l c : Nat) : Nat × (List Pt) × Int → St := fun (n, o, p) => ⟨(.pointer (some ⟨1, 0, none⟩) :: topV :: topV :: .slice (some ⟨3, 0, none⟩) (ptL bs l n o p).length (ptL bs l n o p).length :: topV :: topV :: topV :: topV :: topV :: topV :: topV :: topV :: topV :: topV :: topV :: topV :: topV :: topV :: topV :: topV :: topV :: topV :: topV :: topV :: topV :: topV :: topV :: topV :: topV :: topV :: topV :: topV :: topV :: topV :: topV :: topV :: topV :: topV :: topV :: topV :: topV :: topV :: topV :: topV :: topV :: topV :: topV :: topV :: topV :: topV :: topV :: topV :: topV :: topV :: topV :: topV :: topV :: topV :: topV :: topV :: topV :: topV :: topV :: topV :: topV :: topV :: topV :: []), [some ⟨.view, .bytes bs⟩, some ⟨.box, .vals [.slice (some ⟨0, 0, none⟩) l c, .int .i64 (ptE bs l n o p)]⟩, some ⟨.dead, .vals []⟩, some ⟨.row 44 2, .ints (flat (ptL bs l n o p))⟩]⟩
set_option maxRecDepth 100000 in
theorem tr_pth (bs : List Int) (l c : Nat) (n : Nat) (o : List Pt) (p : Int) : bodyL Try.prog ER2 30 12 noL 1 c_pth k_pth 16 (s_pth bs l c (n, o, p)) = brT (decide (0 < (↑n : Int))) (.need (rdC bs l p) (.need (rdC bs l (p + (1 : Int))) (.need (rdC bs l (p + (1 : Int) + (1 : Int))) (brT (pickI bs l (p + 1 + 1) 8 == 0) (.need (rdK bs l (p + (1 : Int) + (1 : Int) + (1 : Int))) (brT ((↑o.length : Int) == 0) (.need ((o.length + (1 : Nat)) * (16 : Nat) ≤ (140737488355328 : Nat) ∧ o.length + (1 : Nat) ≤ (1000000 : Nat)) (.need ((0 : Nat) + o.length * (2 : Nat) ≤ (flat o).length) (.leaf .normal ⟨(.pointer (some ⟨1, 0, none⟩) :: topV :: topV :: .slice (some ⟨7, 0, none⟩) (o.length + 1) (o.length + 1) :: .int .i64 (IntKind.i64.wrap ((↑n : Int) - 1)) :: topV :: topV :: topV :: topV :: topV :: topV :: topV :: topV :: topV :: topV :: topV :: topV :: topV :: topV :: topV :: topV :: topV :: topV :: topV :: topV :: topV :: topV :: topV :: topV :: topV :: topV :: topV :: topV :: topV :: topV :: topV :: topV :: topV :: topV :: topV :: topV :: topV :: topV :: topV :: topV :: topV :: topV :: topV :: topV :: topV :: topV :: topV :: topV :: topV :: topV :: topV :: topV :: topV :: topV :: topV :: topV :: topV :: topV :: topV :: topV :: topV :: topV :: []), [some ⟨.view, .bytes (bs)⟩, some ⟨.box, .vals [.slice (some ⟨0, 0, none⟩) (l) (c), .int .i64 (p + 1 + 1 + 1 + 2)]⟩, some deadB, some deadB, some ⟨.box, .vals [.int .i64 (pickI bs l (p + 1 + 1 + 1) 9 - 2), .int .i64 (pickI bs l (p + 1 + 1 + 1 + 1) 9 - 2)]⟩, none, some ⟨.row 44 2, .vals [.int .i64 (pickI bs l (p + 1 + 1 + 1) 9 - 2), .int .i64 (pickI bs l (p + 1 + 1 + 1 + 1) 9 - 2)]⟩, some ⟨.row 44 2, .ints (List.take (o.length * 2) (List.drop 0 (flat o)) ++ [pickI bs l (p + 1 + 1 + 1) 9 - 2, pickI bs l (p + 1 + 1 + 1 + 1) 9 - 2])⟩]⟩))) (brT (negB true ((flat o).getD (0 + (IntKind.i64.wrap ((↑o.length : Int) - 1)).toNat * 2) 0 == pickI bs l (p + 1 + 1 + 1) 9 - 2 && ((flat o).getD (0 + (IntKind.i64.wrap ((↑o.length : Int) - 1)).toNat * 2 + 1) 0 == pickI bs l (p + 1 + 1 + 1 + 1) 9 - 2 && true))) (.need ((0 : Int) ≤ IntKind.i64.wrap ((↑o.length : Int) - (1 : Int)) ∧ IntKind.i64.wrap ((↑o.length : Int) - (1 : Int)) < (↑o.length : Int)) (.need ((0 : Nat) + (IntKind.i64.wrap ((↑o.length : Int) - (1 : Int))).toNat * (2 : Nat) + (2 : Nat) ≤ (flat o).length) (.need ((o.length + (1 : Nat)) * (16 : Nat) ≤ (140737488355328 : Nat) ∧ o.length + (1 : Nat) ≤ (1000000 : Nat)) (.need ((0 : Nat) + o.length * (2 : Nat) ≤ (flat o).length) (.leaf .normal ⟨(.pointer (some ⟨1, 0, none⟩) :: topV :: topV :: .slice (some ⟨7, 0, none⟩) (o.length + 1) (o.length + 1) :: .int .i64 (IntKind.i64.wrap ((↑n : Int) - 1)) :: topV :: topV :: topV :: topV :: topV :: topV :: topV :: topV :: topV :: topV :: topV :: topV :: topV :: topV :: topV :: topV :: topV :: topV :: topV :: topV :: topV :: topV :: topV :: topV :: topV :: topV :: topV :: topV :: topV :: topV :: topV :: topV :: topV :: topV :: topV :: topV :: topV :: topV :: topV :: topV :: topV :: topV :: topV :: topV :: topV :: topV :: topV :: topV :: topV :: topV :: topV :: topV :: topV :: topV :: topV :: topV :: topV :: topV :: topV :: topV :: topV :: topV :: []), [some ⟨.view, .bytes (bs)⟩, some ⟨.box, .vals [.slice (some ⟨0, 0, none⟩) (l) (c), .int .i64 (p + 1 + 1 + 1 + 2)]⟩, some deadB, some deadB, some ⟨.box, .vals [.int .i64 (pickI bs l (p + 1 + 1 + 1) 9 - 2), .int .i64 (pickI bs l (p + 1 + 1 + 1 + 1) 9 - 2)]⟩, none, some ⟨.row 44 2, .vals [.int .i64 (pickI bs l (p + 1 + 1 + 1) 9 - 2), .int .i64 (pickI bs l (p + 1 + 1 + 1 + 1) 9 - 2)]⟩, some ⟨.row 44 2, .ints (List.take (o.length * 2) (List.drop 0 (flat o)) ++ [pickI bs l (p + 1 + 1 + 1) 9 - 2, pickI bs l (p + 1 + 1 + 1 + 1) 9 - 2])⟩]⟩))))) (.need ((0 : Int) ≤ IntKind.i64.wrap ((↑o.length : Int) - (1 : Int)) ∧ IntKind.i64.wrap ((↑o.length : Int) - (1 : Int)) < (↑o.length : Int)) (.need ((0 : Nat) + (IntKind.i64.wrap ((↑o.length : Int) - (1 : Int))).toNat * (2 : Nat) + (2 : Nat) ≤ (flat o).length) (.need (rdC bs l (p + (1 : Int) + (1 : Int) + (1 : Int) + (2 : Int))) (brT (pickI bs l (p + 1 + 1 + 1 + 2) 10 == 0) (.need ((o.length + (1 : Nat)) * (16 : Nat) ≤ (140737488355328 : Nat) ∧ o.length + (1 : Nat) ≤ (1000000 : Nat)) (.need ((0 : Nat) + o.length * (2 : Nat) ≤ (flat o).length) (.leaf .normal ⟨(.pointer (some ⟨1, 0, none⟩) :: topV :: topV :: .slice (some ⟨7, 0, none⟩) (o.length + 1) (o.length + 1) :: .int .i64 (IntKind.i64.wrap ((↑n : Int) - 1)) :: topV :: topV :: topV :: topV :: topV :: topV :: topV :: topV :: topV :: topV :: topV :: topV :: topV :: topV :: topV :: topV :: topV :: topV :: topV :: topV :: topV :: topV :: topV :: topV :: topV :: topV :: topV :: topV :: topV :: topV :: topV :: topV :: topV :: topV :: topV :: topV :: topV :: topV :: topV :: topV :: topV :: topV :: topV :: topV :: topV :: topV :: topV :: topV :: topV :: topV :: topV :: topV :: topV :: topV :: topV :: topV :: topV :: topV :: topV :: topV :: topV :: topV :: []), [some ⟨.view, .bytes (bs)⟩, some ⟨.box, .vals [.slice (some ⟨0, 0, none⟩) (l) (c), .int .i64 (p + 1 + 1 + 1 + 2 + 1)]⟩, some deadB, some deadB, some ⟨.box, .vals [.int .i64 (pickI bs l (p + 1 + 1 + 1) 9 - 2), .int .i64 (pickI bs l (p + 1 + 1 + 1 + 1) 9 - 2)]⟩, none, some ⟨.row 44 2, .vals [.int .i64 (pickI bs l (p + 1 + 1 + 1) 9 - 2), .int .i64 (pickI bs l (p + 1 + 1 + 1 + 1) 9 - 2)]⟩, some ⟨.row 44 2, .ints (List.take (o.length * 2) (List.drop 0 (flat o)) ++ [pickI bs l (p + 1 + 1 + 1) 9 - 2, pickI bs l (p + 1 + 1 + 1 + 1) 9 - 2])⟩]⟩))) (.leaf .normal ⟨(.pointer (some ⟨1, 0, none⟩) :: topV :: topV :: .slice (some ⟨3, 0, none⟩) (o.length) (o.length) :: .int .i64 (IntKind.i64.wrap ((↑n : Int) - 1)) :: topV :: topV :: topV :: topV :: topV :: topV :: topV :: topV :: topV :: topV :: topV :: topV :: topV :: topV :: topV :: topV :: topV :: topV :: topV :: topV :: topV :: topV :: topV :: topV :: topV :: topV :: topV :: topV :: topV :: topV :: topV :: topV :: topV :: topV :: topV :: topV :: topV :: topV :: topV :: topV :: topV :: topV :: topV :: topV :: topV :: topV :: topV :: topV :: topV :: topV :: topV :: topV :: topV :: topV :: topV :: topV :: topV :: topV :: topV :: topV :: topV :: topV :: []), [some ⟨.view, .bytes (bs)⟩, some ⟨.box, .vals [.slice (some ⟨0, 0, none⟩) (l) (c), .int .i64 (p + 1 + 1 + 1 + 2 + 1)]⟩, some deadB, some ⟨.row 44 2, .ints (flat o)⟩, some ⟨.box, .vals [.int .i64 (pickI bs l (p + 1 + 1 + 1) 9 - 2), .int .i64 (pickI bs l (p + 1 + 1 + 1 + 1) 9 - 2)]⟩, none]⟩)))))))) (brT ((↑o.length : Int) == 0) (.need ((o.length + (1 : Nat)) * (16 : Nat) ≤ (140737488355328 : Nat) ∧ o.length + (1 : Nat) ≤ (1000000 : Nat)) (.need ((0 : Nat) + o.length * (2 : Nat) ≤ (flat o).length) (.leaf .normal ⟨(.pointer (some ⟨1, 0, none⟩) :: topV :: topV :: .slice (some ⟨7, 0, none⟩) (o.length + 1) (o.length + 1) :: .int .i64 (IntKind.i64.wrap ((↑n : Int) - 1)) :: topV :: topV :: topV :: topV :: topV :: topV :: topV :: topV :: topV :: topV :: topV :: topV :: topV :: topV :: topV :: topV :: topV :: topV :: topV :: topV :: topV :: topV :: topV :: topV :: topV :: topV :: topV :: topV :: topV :: topV :: topV :: topV :: topV :: topV :: topV :: topV :: topV :: topV :: topV :: topV :: topV :: topV :: topV :: topV :: topV :: topV :: topV :: topV :: topV :: topV :: topV :: topV :: topV :: topV :: topV :: topV :: topV :: topV :: topV :: topV :: topV :: topV :: []), [some ⟨.view, .bytes (bs)⟩, some ⟨.box, .vals [.slice (some ⟨0, 0, none⟩) (l) (c), .int .i64 (p + 1 + 1 + 1)]⟩, some deadB, some deadB, some ⟨.box, .vals [.int .i64 (IntKind.i64.wrap (IntKind.i64.wrap ((↑o.length : Int) * 2) + pickI bs l p 3)), .int .i64 (pickI bs l (p + 1) 7)]⟩, none, some ⟨.row 44 2, .vals [.int .i64 (IntKind.i64.wrap (IntKind.i64.wrap ((↑o.length : Int) * 2) + pickI bs l p 3)), .int .i64 (pickI bs l (p + 1) 7)]⟩, some ⟨.row 44 2, .ints (List.take (o.length * 2) (List.drop 0 (flat o)) ++ [IntKind.i64.wrap (IntKind.i64.wrap ((↑o.length : Int) * 2) + pickI bs l p 3), pickI bs l (p + 1) 7])⟩]⟩))) (brT (negB true ((flat o).getD (0 + (IntKind.i64.wrap ((↑o.length : Int) - 1)).toNat * 2) 0 == IntKind.i64.wrap (IntKind.i64.wrap ((↑o.length : Int) * 2) + pickI bs l p 3) && ((flat o).getD (0 + (IntKind.i64.wrap ((↑o.length : Int) - 1)).toNat * 2 + 1) 0 == pickI bs l (p + 1) 7 && true))) (.need ((0 : Int) ≤ IntKind.i64.wrap ((↑o.length : Int) - (1 : Int)) ∧ IntKind.i64.wrap ((↑o.length : Int) - (1 : Int)) < (↑o.length : Int)) (.need ((0 : Nat) + (IntKind.i64.wrap ((↑o.length : Int) - (1 : Int))).toNat * (2 : Nat) + (2 : Nat) ≤ (flat o).length) (.need ((o.length + (1 : Nat)) * (16 : Nat) ≤ (140737488355328 : Nat) ∧ o.length + (1 : Nat) ≤ (1000000 : Nat)) (.need ((0 : Nat) + o.length * (2 : Nat) ≤ (flat o).length) (.leaf .normal ⟨(.pointer (some ⟨1, 0, none⟩) :: topV :: topV :: .slice (some ⟨7, 0, none⟩) (o.length + 1) (o.length + 1) :: .int .i64 (IntKind.i64.wrap ((↑n : Int) - 1)) :: topV :: topV :: topV :: topV :: topV :: topV :: topV :: topV :: topV :: topV :: topV :: topV :: topV :: topV :: topV :: topV :: topV :: topV :: topV :: topV :: topV :: topV :: topV :: topV :: topV :: topV :: topV :: topV :: topV :: topV :: topV :: topV :: topV :: topV :: topV :: topV :: topV :: topV :: topV :: topV :: topV :: topV :: topV :: topV :: topV :: topV :: topV :: topV :: topV :: topV :: topV :: topV :: topV :: topV :: topV :: topV :: topV :: topV :: topV :: topV :: topV :: topV :: []), [some ⟨.view, .bytes (bs)⟩, some ⟨.box, .vals [.slice (some ⟨0, 0, none⟩) (l) (c), .int .i64 (p + 1 + 1 + 1)]⟩, some deadB, some deadB, some ⟨.box, .vals [.int .i64 (IntKind.i64.wrap (IntKind.i64.wrap ((↑o.length : Int) * 2) + pickI bs l p 3)), .int .i64 (pickI bs l (p + 1) 7)]⟩, none, some ⟨.row 44 2, .vals [.int .i64 (IntKind.i64.wrap (IntKind.i64.wrap ((↑o.length : Int) * 2) + pickI bs l p 3)), .int .i64 (pickI bs l (p + 1) 7)]⟩, some ⟨.row 44 2, .ints (List.take (o.length * 2) (List.drop 0 (flat o)) ++ [IntKind.i64.wrap (IntKind.i64.wrap ((↑o.length : Int) * 2) + pickI bs l p 3), pickI bs l (p + 1) 7])⟩]⟩))))) (.need ((0 : Int) ≤ IntKind.i64.wrap ((↑o.length : Int) - (1 : Int)) ∧ IntKind.i64.wrap ((↑o.length : Int) - (1 : Int)) < (↑o.length : Int)) (.need ((0 : Nat) + (IntKind.i64.wrap ((↑o.length : Int) - (1 : Int))).toNat * (2 : Nat) + (2 : Nat) ≤ (flat o).length) (.need (rdC bs l (p + (1 : Int) + (1 : Int) + (1 : Int))) (brT (pickI bs l (p + 1 + 1 + 1) 10 == 0) (.need ((o.length + (1 : Nat)) * (16 : Nat) ≤ (140737488355328 : Nat) ∧ o.length + (1 : Nat) ≤ (1000000 : Nat)) (.need ((0 : Nat) + o.length * (2 : Nat) ≤ (flat o).length) (.leaf .normal ⟨(.pointer (some ⟨1, 0, none⟩) :: topV :: topV :: .slice (some ⟨7, 0, none⟩) (o.length + 1) (o.length + 1) :: .int .i64 (IntKind.i64.wrap ((↑n : Int) - 1)) :: topV :: topV :: topV :: topV :: topV :: topV :: topV :: topV :: topV :: topV :: topV :: topV :: topV :: topV :: topV :: topV :: topV :: topV :: topV :: topV :: topV :: topV :: topV :: topV :: topV :: topV :: topV :: topV :: topV :: topV :: topV :: topV :: topV :: topV :: topV :: topV :: topV :: topV :: topV :: topV :: topV :: topV :: topV :: topV :: topV :: topV :: topV :: topV :: topV :: topV :: topV :: topV :: topV :: topV :: topV :: topV :: topV :: topV :: topV :: topV :: topV :: topV :: []), [some ⟨.view, .bytes (bs)⟩, some ⟨.box, .vals [.slice (some ⟨0, 0, none⟩) (l) (c), .int .i64 (p + 1 + 1 + 1 + 1)]⟩, some deadB, some deadB, some ⟨.box, .vals [.int .i64 (IntKind.i64.wrap (IntKind.i64.wrap ((↑o.length : Int) * 2) + pickI bs l p 3)), .int .i64 (pickI bs l (p + 1) 7)]⟩, none, some ⟨.row 44 2, .vals [.int .i64 (IntKind.i64.wrap (IntKind.i64.wrap ((↑o.length : Int) * 2) + pickI bs l p 3)), .int .i64 (pickI bs l (p + 1) 7)]⟩, some ⟨.row 44 2, .ints (List.take (o.length * 2) (List.drop 0 (flat o)) ++ [IntKind.i64.wrap (IntKind.i64.wrap ((↑o.length : Int) * 2) + pickI bs l p 3), pickI bs l (p + 1) 7])⟩]⟩))) (.leaf .normal ⟨(.pointer (some ⟨1, 0, none⟩) :: topV :: topV :: .slice (some ⟨3, 0, none⟩) (o.length) (o.length) :: .int .i64 (IntKind.i64.wrap ((↑n : Int) - 1)) :: topV :: topV :: topV :: topV :: topV :: topV :: topV :: topV :: topV :: topV :: topV :: topV :: topV :: topV :: topV :: topV :: topV :: topV :: topV :: topV :: topV :: topV :: topV :: topV :: topV :: topV :: topV :: topV :: topV :: topV :: topV :: topV :: topV :: topV :: topV :: topV :: topV :: topV :: topV :: topV :: topV :: topV :: topV :: topV :: topV :: topV :: topV :: topV :: topV :: topV :: topV :: topV :: topV :: topV :: topV :: topV :: topV :: topV :: topV :: topV :: topV :: topV :: []), [some ⟨.view, .bytes (bs)⟩, some ⟨.box, .vals [.slice (some ⟨0, 0, none⟩) (l) (c), .int .i64 (p + 1 + 1 + 1 + 1)]⟩, some deadB, some ⟨.row 44 2, .ints (flat o)⟩, some ⟨.box, .vals [.int .i64 (IntKind.i64.wrap (IntKind.i64.wrap ((↑o.length : Int) * 2) + pickI bs l p 3)), .int .i64 (pickI bs l (p + 1) 7)]⟩, none]⟩))))))))))) (.leaf (.exit 0) ⟨(.pointer (some ⟨1, 0, none⟩) :: topV :: topV :: .slice (some ⟨3, 0, none⟩) (o.length) (o.length) :: topV :: topV :: topV :: topV :: topV :: topV :: topV :: topV :: topV :: topV :: topV :: topV :: topV :: topV :: topV :: topV :: topV :: topV :: topV :: topV :: topV :: topV :: topV :: topV :: topV :: topV :: topV :: topV :: topV :: topV :: topV :: topV :: topV :: topV :: topV :: topV :: topV :: topV :: topV :: topV :: topV :: topV :: topV :: topV :: topV :: topV :: topV :: topV :: topV :: topV :: topV :: topV :: topV :: topV :: topV :: topV :: topV :: topV :: topV :: topV :: topV :: topV :: topV :: []), [some ⟨.view, .bytes (bs)⟩, some ⟨.box, .vals [.slice (some ⟨0, 0, none⟩) (l) (c), .int .i64 (p)]⟩, some deadB, some ⟨.row 44 2, .ints (flat o)⟩]⟩) := by kernel_rfl
set_option maxRecDepth 100000 in
theorem nl_pth : loopsOf c_pth = [] := by kernel_rfl
def inv_pth (bs : List Int) (l c : Nat) : Nat × (List Pt) × Int → Prop := fun (n, o, p) => o.length + n ≤ 100 ∧ 0 ≤ p ∧ p + 6 * n ≤ 900000
def me_pth (bs : List Int) (l c : Nat) : Nat × (List Pt) × Int → Nat := fun (n, o, p) => n
/-- A round of this loop. -/
def Round_pth (bs : List Int) (l c : Nat) : Prop := ∀ xx : Nat × (List Pt) × Int, inv_pth bs l c xx → (bodyL Try.prog ER2 30 12 noL 1 c_pth k_pth 16 (s_pth bs l c xx)).ok (RoundEnd 3 (s_pth bs l c) (inv_pth bs l c) (me_pth bs l c) re_pth (rs_pth bs l c) xx) (fun _ _ => False)
def e_pth (s : St) (k : Ex → St → Tree) : Option Tree := match Nat.beq s.tmps.length 67, pickL s.tmps [0, 3, 4], s.mem with
  | true, [.pointer (some ⟨1, 0, none⟩), .slice (some ⟨2, 0, none⟩) z _, .int .i64 n1], [some ⟨.view, .bytes bs⟩, some ⟨.box, .vals [.slice (some ⟨0, 0, none⟩) l c, .int .i64 p]⟩, some ⟨.row 44 2, .vals []⟩] => some (needs [z = 0, 0 ≤ n1 ∧ n1 ≤ 100, l ≤ bs.length ∧ l ≤ 2000 ∧ Bytes bs, 0 ≤ p ∧ p ≤ 800000] (k (.exit 0) ⟨(.pointer (some ⟨1, 0, none⟩) :: topV :: topV :: .slice (some ⟨3, 0, none⟩) (ptL bs l n1.toNat [] p).length (ptL bs l n1.toNat [] p).length :: topV :: topV :: topV :: topV :: topV :: topV :: topV :: topV :: topV :: topV :: topV :: topV :: topV :: topV :: topV :: topV :: topV :: topV :: topV :: topV :: topV :: topV :: topV :: topV :: topV :: topV :: topV :: topV :: topV :: topV :: topV :: topV :: topV :: topV :: topV :: topV :: topV :: topV :: topV :: topV :: topV :: topV :: topV :: topV :: topV :: topV :: topV :: topV :: topV :: topV :: topV :: topV :: topV :: topV :: topV :: topV :: topV :: topV :: topV :: topV :: topV :: topV :: topV :: []), [some ⟨.view, .bytes bs⟩, some ⟨.box, .vals [.slice (some ⟨0, 0, none⟩) l c, .int .i64 (ptE bs l n1.toNat [] p)]⟩, some ⟨.dead, .vals []⟩, some ⟨.row 44 2, .ints (flat (ptL bs l n1.toNat [] p))⟩]⟩))
  | _, _, _ => none
theorem neP_is (p q : Pt) : negB true (p.1 == q.1 && (p.2 == q.2 && true)) = !(decide (p = q)) := by
  rw [Bool.eq_iff_iff]
  simp only [negB, Bool.and_true, Bool.not_eq_true', Bool.and_eq_false_iff, decide_eq_false_iff_not, beq_eq_false_iff_ne, ne_eq]
  constructor
  · rintro h rfl
    rcases h with h | h <;> exact h rfl
  · intro h
    by_cases h1 : p.1 = q.1
    · exact .inr fun h2 => h (Prod.ext h1 h2)
    · exact .inl h1
set_option maxRecDepth 100000 in
set_option maxHeartbeats 4000000 in
theorem round_pth (bs : List Int) (l c : Nat) (h : l ≤ bs.length ∧ l ≤ 2000 ∧ Bytes bs) : Round_pth bs l c := by
  rintro ⟨n, o, p⟩ ⟨h1, h2, h3⟩
  rw [tr_pth]
  simp only [show p + 1 + 1 = p + 2 by omega, show p + 2 + 1 = p + 3 by omega, show p + 3 + 1 = p + 4 by omega, show p + 3 + 2 = p + 5 by omega, show p + 5 + 1 = p + 6 by omega]
  refine brT_ok.2 ⟨fun hlt => ?_, fun hge => ?_⟩
  · have hlt := of_decide_eq_true hlt
    obtain ⟨n, rfl⟩ : ∃ m, n = m + 1 := ⟨n - 1, by omega⟩
    have hr : rdK bs l p := ⟨⟨h.1, h.2.1, h2, by omega, h.2.2⟩, by omega⟩
    have ra : ∀ q : Int, p ≤ q → q ≤ p + 100 → rdC bs l q := fun q g1 g2 => hr.at g1 (by omega)
    have e : IntKind.i64.wrap (((n + 1 : Nat) : Int) - 1) = (n : Int) := by rw [wr (by omega)]; omega
    have fl := flat_length o
    rw [e]
    refine ⟨ra _ (by omega) (by omega), ra _ (by omega) (by omega), ra _ (by omega) (by omega), brT_ok.2 ⟨fun hb => ⟨⟨ra _ (by omega) (by omega), by omega⟩, ?_⟩, fun hb => ?_⟩⟩
    · have eQ : pthQ bs l o.length p = (pickI bs l (p + 3) 9 - 2, pickI bs l (p + 4) 9 - 2) := by unfold pthQ; rw [hb]; rfl
      have eP : pthP bs l p = p + 5 := by unfold pthP; rw [hb]; rfl
      refine brT_ok.2 ⟨fun g0 => ?_, fun g0 => ?_⟩
      · have g0 : o.length = 0 := by have : (o.length : Int) = 0 := by simpa using g0
                                     omega
        have eN : pthN o (pickI bs l (p + 3) 9 - 2, pickI bs l (p + 4) 9 - 2) = true := by unfold pthN; rw [decide_eq_true g0, Bool.true_or]
        have eO : pthO bs l o p = o ++ [(pickI bs l (p + 3) 9 - 2, pickI bs l (p + 4) 9 - 2)] := by unfold pthO; rw [eQ, eN, Bool.true_or, cond_true]
        have eE : pthE bs l o p = p + 5 := by unfold pthE; rw [eQ, eN, eP, cond_true]
        simp only [flatA, flat_snoc, Tree.ok]
        refine ⟨by omega, by omega, (n, o ++ [(pickI bs l (p + 3) 9 - 2, pickI bs l (p + 4) 9 - 2)], p + 5), [some 7], ⟨by simp; omega, by omega, by omega⟩, ?_, rfl, ?_, ?_⟩
        · show n < n + 1; omega
        · simp only [rs_pth, ptL, ptE, eO, eE]
        · repeat' (first | exact True.intro | exact rfl | exact fun _ => rfl | (simp; done) | refine And.intro ?_ ?_)
      · have g0 : ¬ o.length = 0 := fun h0 => by rw [h0] at g0; simp at g0
        have w : IntKind.i64.wrap ((o.length : Int) - 1) = ((o.length - 1 : Nat) : Int) := by rw [wr (by omega)]; omega
        rw [w]
        simp only [Int.toNat_natCast, Nat.zero_add, flat_get0, flat_get1, flatA, flat_snoc, flat_length]
        rw [show negB true ((o.getD (o.length - 1) (0, 0)).1 == (pickI bs l (p + 3) 9 - 2) && ((o.getD (o.length - 1) (0, 0)).2 == (pickI bs l (p + 4) 9 - 2) && true)) = !(decide (o.getD (o.length - 1) (0, 0) = (pickI bs l (p + 3) 9 - 2, pickI bs l (p + 4) 9 - 2))) from neP_is _ (pickI bs l (p + 3) 9 - 2, pickI bs l (p + 4) 9 - 2)]
        have eN : pthN o (pickI bs l (p + 3) 9 - 2, pickI bs l (p + 4) 9 - 2) = !(decide (o.getD (o.length - 1) (0, 0) = (pickI bs l (p + 3) 9 - 2, pickI bs l (p + 4) 9 - 2))) := by unfold pthN; rw [decide_eq_false g0, Bool.false_or]
        rw [← eN]
        refine brT_ok.2 ⟨fun gn => ?_, fun gn => ?_⟩
        · have eO : pthO bs l o p = o ++ [(pickI bs l (p + 3) 9 - 2, pickI bs l (p + 4) 9 - 2)] := by unfold pthO; rw [eQ, gn, Bool.true_or, cond_true]
          have eE : pthE bs l o p = p + 5 := by unfold pthE; rw [eQ, gn, eP, cond_true]
          simp only [Tree.ok]
          refine ⟨by omega, by omega, by omega, by omega, (n, o ++ [(pickI bs l (p + 3) 9 - 2, pickI bs l (p + 4) 9 - 2)], p + 5), [some 7], ⟨by simp; omega, by omega, by omega⟩, ?_, rfl, ?_, ?_⟩
          · show n < n + 1; omega
          · simp only [rs_pth, ptL, ptE, eO, eE]
          · repeat' (first | exact True.intro | exact rfl | exact fun _ => rfl | (simp; done) | refine And.intro ?_ ?_)
        · have eE : pthE bs l o p = p + 6 := by unfold pthE; rw [eQ, gn, eP, cond_false]; omega
          simp only [Tree.ok]
          refine ⟨by omega, by omega, ra _ (by omega) (by omega), brT_ok.2 ⟨fun gk => ?_, fun gk => ?_⟩⟩
          · have eO : pthO bs l o p = o ++ [(pickI bs l (p + 3) 9 - 2, pickI bs l (p + 4) 9 - 2)] := by unfold pthO; rw [eQ, gn, eP, gk, Bool.or_true, cond_true]
            simp only [Tree.ok]
            refine ⟨by omega, by omega, (n, o ++ [(pickI bs l (p + 3) 9 - 2, pickI bs l (p + 4) 9 - 2)], p + 6), [some 7], ⟨by simp; omega, by omega, by omega⟩, ?_, rfl, ?_, ?_⟩
            · show n < n + 1; omega
            · simp only [rs_pth, ptL, ptE, eO, eE]
            · repeat' (first | exact True.intro | exact rfl | exact fun _ => rfl | (simp; done) | refine And.intro ?_ ?_)
          · have eO : pthO bs l o p = o := by unfold pthO; rw [eQ, gn, eP, gk, Bool.or_false, cond_false]
            refine ⟨(n, o, p + 6), [some 3], ⟨by omega, by omega, by omega⟩, ?_, rfl, ?_, ?_⟩
            · show n < n + 1; omega
            · simp only [rs_pth, ptL, ptE, eO, eE]
            · repeat' (first | exact True.intro | exact rfl | exact fun _ => rfl | (simp; done) | refine And.intro ?_ ?_)
    · have eQ : pthQ bs l o.length p = (IntKind.i64.wrap (IntKind.i64.wrap ((o.length : Int) * 2) + pickI bs l p 3), pickI bs l (p + 1) 7) := by unfold pthQ; rw [hb]; rfl
      have eP : pthP bs l p = p + 3 := by unfold pthP; rw [hb]; rfl
      refine brT_ok.2 ⟨fun g0 => ?_, fun g0 => ?_⟩
      · have g0 : o.length = 0 := by have : (o.length : Int) = 0 := by simpa using g0
                                     omega
        have eN : pthN o (IntKind.i64.wrap (IntKind.i64.wrap ((o.length : Int) * 2) + pickI bs l p 3), pickI bs l (p + 1) 7) = true := by unfold pthN; rw [decide_eq_true g0, Bool.true_or]
        have eO : pthO bs l o p = o ++ [(IntKind.i64.wrap (IntKind.i64.wrap ((o.length : Int) * 2) + pickI bs l p 3), pickI bs l (p + 1) 7)] := by unfold pthO; rw [eQ, eN, Bool.true_or, cond_true]
        have eE : pthE bs l o p = p + 3 := by unfold pthE; rw [eQ, eN, eP, cond_true]
        simp only [flatA, flat_snoc, Tree.ok]
        refine ⟨by omega, by omega, (n, o ++ [(IntKind.i64.wrap (IntKind.i64.wrap ((o.length : Int) * 2) + pickI bs l p 3), pickI bs l (p + 1) 7)], p + 3), [some 7], ⟨by simp; omega, by omega, by omega⟩, ?_, rfl, ?_, ?_⟩
        · show n < n + 1; omega
        · simp only [rs_pth, ptL, ptE, eO, eE]
        · repeat' (first | exact True.intro | exact rfl | exact fun _ => rfl | (simp; done) | refine And.intro ?_ ?_)
      · have g0 : ¬ o.length = 0 := fun h0 => by rw [h0] at g0; simp at g0
        have w : IntKind.i64.wrap ((o.length : Int) - 1) = ((o.length - 1 : Nat) : Int) := by rw [wr (by omega)]; omega
        rw [w]
        simp only [Int.toNat_natCast, Nat.zero_add, flat_get0, flat_get1, flatA, flat_snoc, flat_length]
        rw [show negB true ((o.getD (o.length - 1) (0, 0)).1 == (IntKind.i64.wrap (IntKind.i64.wrap ((o.length : Int) * 2) + pickI bs l p 3)) && ((o.getD (o.length - 1) (0, 0)).2 == (pickI bs l (p + 1) 7) && true)) = !(decide (o.getD (o.length - 1) (0, 0) = (IntKind.i64.wrap (IntKind.i64.wrap ((o.length : Int) * 2) + pickI bs l p 3), pickI bs l (p + 1) 7))) from neP_is _ (IntKind.i64.wrap (IntKind.i64.wrap ((o.length : Int) * 2) + pickI bs l p 3), pickI bs l (p + 1) 7)]
        have eN : pthN o (IntKind.i64.wrap (IntKind.i64.wrap ((o.length : Int) * 2) + pickI bs l p 3), pickI bs l (p + 1) 7) = !(decide (o.getD (o.length - 1) (0, 0) = (IntKind.i64.wrap (IntKind.i64.wrap ((o.length : Int) * 2) + pickI bs l p 3), pickI bs l (p + 1) 7))) := by unfold pthN; rw [decide_eq_false g0, Bool.false_or]
        rw [← eN]
        refine brT_ok.2 ⟨fun gn => ?_, fun gn => ?_⟩
        · have eO : pthO bs l o p = o ++ [(IntKind.i64.wrap (IntKind.i64.wrap ((o.length : Int) * 2) + pickI bs l p 3), pickI bs l (p + 1) 7)] := by unfold pthO; rw [eQ, gn, Bool.true_or, cond_true]
          have eE : pthE bs l o p = p + 3 := by unfold pthE; rw [eQ, gn, eP, cond_true]
          simp only [Tree.ok]
          refine ⟨by omega, by omega, by omega, by omega, (n, o ++ [(IntKind.i64.wrap (IntKind.i64.wrap ((o.length : Int) * 2) + pickI bs l p 3), pickI bs l (p + 1) 7)], p + 3), [some 7], ⟨by simp; omega, by omega, by omega⟩, ?_, rfl, ?_, ?_⟩
          · show n < n + 1; omega
          · simp only [rs_pth, ptL, ptE, eO, eE]
          · repeat' (first | exact True.intro | exact rfl | exact fun _ => rfl | (simp; done) | refine And.intro ?_ ?_)
        · have eE : pthE bs l o p = p + 4 := by unfold pthE; rw [eQ, gn, eP, cond_false]; omega
          simp only [Tree.ok]
          refine ⟨by omega, by omega, ra _ (by omega) (by omega), brT_ok.2 ⟨fun gk => ?_, fun gk => ?_⟩⟩
          · have eO : pthO bs l o p = o ++ [(IntKind.i64.wrap (IntKind.i64.wrap ((o.length : Int) * 2) + pickI bs l p 3), pickI bs l (p + 1) 7)] := by unfold pthO; rw [eQ, gn, eP, gk, Bool.or_true, cond_true]
            simp only [Tree.ok]
            refine ⟨by omega, by omega, (n, o ++ [(IntKind.i64.wrap (IntKind.i64.wrap ((o.length : Int) * 2) + pickI bs l p 3), pickI bs l (p + 1) 7)], p + 4), [some 7], ⟨by simp; omega, by omega, by omega⟩, ?_, rfl, ?_, ?_⟩
            · show n < n + 1; omega
            · simp only [rs_pth, ptL, ptE, eO, eE]
            · repeat' (first | exact True.intro | exact rfl | exact fun _ => rfl | (simp; done) | refine And.intro ?_ ?_)
          · have eO : pthO bs l o p = o := by unfold pthO; rw [eQ, gn, eP, gk, Bool.or_false, cond_false]
            refine ⟨(n, o, p + 4), [some 3], ⟨by omega, by omega, by omega⟩, ?_, rfl, ?_, ?_⟩
            · show n < n + 1; omega
            · simp only [rs_pth, ptL, ptE, eO, eE]
            · repeat' (first | exact True.intro | exact rfl | exact fun _ => rfl | (simp; done) | refine And.intro ?_ ?_)
  · have hge := of_decide_eq_false hge
    obtain rfl : n = 0 := by omega
    refine ⟨rfl, [some 3], ?_⟩
    simp only [rs_pth, ptL, ptE]
    repeat' (first | exact True.intro | exact rfl | exact fun _ => rfl | (simp; done) | refine And.intro ?_ ?_)
set_option maxRecDepth 100000 in
theorem lg_pth : LoopE Try.prog e_pth c_pth := by
  intro s k t F H hlt ht
  unfold e_pth at hlt
  split at hlt
  rotate_left
  · cases hlt
  rename_i hlen hpick hmem
  obtain ⟨tmps, mem⟩ := s
  simp only at hlen hpick hmem
  subst hmem
  obtain rfl := Option.some.inj hlt
  obtain ⟨⟨rfl, h1, h2, h3, _⟩, ht2⟩ := needs_ok ht
  clear ht hlt
  obtain ⟨n, rfl⟩ := Int.eq_ofNat_of_zero_le h1.1
  simp only [Int.toNat_natCast] at ht2
  refine ⟨_, _, ht2, loop_run2 mixed ER2_ok (s_pth _ _ _) (inv_pth _ _ _) (me_pth _ _ _) re_pth (rs_pth _ _ _) k_pth (fun _ => rfl) (noLoops nl_pth) (round_pth _ _ _ h2) (x := (n, [], _)) ⟨by simp; omega, h3.1, by omega⟩ (π := [some 2]) rfl ?_⟩
  refine ⟨rfl, rfl, ?_, wvs_spread' [0, 3, 4] hlen rfl ?_⟩
  · repeat' (first | exact True.intro | exact rfl | exact wv_top _ _ | exact fun _ => rfl | assumption | exact Eq.symm (by assumption) | exact vI0 rfl | refine And.intro ?_ ?_)
  · rw [hpick]
    repeat' (first | exact True.intro | exact rfl | exact wv_top _ _ | exact fun _ => rfl | assumption | exact Eq.symm (by assumption) | exact vI0 rfl | refine And.intro ?_ ?_)
end Go.Proofs.Ytolodncpegajkab
namespace Go.Proofs.Ytolodncpegajkab
set_option linter.all false
open Go.RowKit
theorem Lr_pth {fn : Func} (hf : Try.prog.funcs[65]? = some fn) : LoopsGood Try.prog (lt1 e_pth) 0 (codeOf fn) := by
  obtain rfl := fn_is Try.func65 hf
  exact lt1_good lg_pth
def LPt : FuncId → LT := fun f => match f with
  | 65 => lt1 e_pth
  | _ => noL
def EPt : Env := ⟨B0, fun _ _ => none, LPt, tabJ J2, fun _ => noR⟩
theorem EPt_ok : EnvOk Try.prog EPt := ⟨B0_ok, fun _ _ _ _ _ h => (by cases h), (by
  intro f fn hf
  show LoopsGood Try.prog (LPt f) 0 (codeOf fn)
  unfold LPt
  split
  all_goals first | with_reducible exact Lr_pth hf | exact noL_good), tabJ_sound mixed J2_ok, fun _ _ _ => noR_good⟩
set_option maxRecDepth 100000 in
theorem tr_ptF (bs : List Int) (l c : Nat) (p : Int) : bodyM Try.prog EPt (runM Try.prog EPt 30 12) 30 65 [.pointer (some ⟨1, 0, none⟩)] (memR bs l c p none) .fin = .need (rdC bs l p) (.need ((0 : Nat) = (0 : Nat)) (.need ((0 : Int) ≤ IntKind.i64.wrap ((1 : Int) + pickI bs l p (9 : Int)) ∧ IntKind.i64.wrap ((1 : Int) + pickI bs l p (9 : Int)) ≤ (100 : Int)) (.need (l ≤ bs.length ∧ l ≤ (2000 : Nat) ∧ Bytes bs) (.need ((0 : Int) ≤ p + (1 : Int) ∧ p + (1 : Int) ≤ (800000 : Int)) (brT (decide (2 < (↑(ptL bs l (IntKind.i64.wrap (1 + pickI bs l p 9)).toNat [] (p + 1)).length : Int))) (.need (rdC bs l (ptE bs l (IntKind.i64.wrap ((1 : Int) + pickI bs l p (9 : Int))).toNat [] (p + (1 : Int)))) (brT (pickI bs l (ptE bs l (IntKind.i64.wrap (1 + pickI bs l p 9)).toNat [] (p + 1)) 6 == 0) (.need ((0 : Int) ≤ (0 : Int) ∧ (0 : Int) < (↑(ptL bs l (IntKind.i64.wrap ((1 : Int) + pickI bs l p (9 : Int))).toNat [] (p + (1 : Int))).length : Int)) (.need ((2 : Nat) ≤ (flat (ptL bs l (IntKind.i64.wrap ((1 : Int) + pickI bs l p (9 : Int))).toNat [] (p + (1 : Int)))).length) (.need ((0 : Int) ≤ IntKind.i64.wrap ((↑(ptL bs l (IntKind.i64.wrap ((1 : Int) + pickI bs l p (9 : Int))).toNat [] (p + (1 : Int))).length : Int) - (1 : Int)) ∧ IntKind.i64.wrap ((↑(ptL bs l (IntKind.i64.wrap ((1 : Int) + pickI bs l p (9 : Int))).toNat [] (p + (1 : Int))).length : Int) - (1 : Int)) < (↑(ptL bs l (IntKind.i64.wrap ((1 : Int) + pickI bs l p (9 : Int))).toNat [] (p + (1 : Int))).length : Int)) (.need ((0 : Nat) + (IntKind.i64.wrap ((↑(ptL bs l (IntKind.i64.wrap ((1 : Int) + pickI bs l p (9 : Int))).toNat [] (p + (1 : Int))).length : Int) - (1 : Int))).toNat * (2 : Nat) + (2 : Nat) ≤ (flat (ptL bs l (IntKind.i64.wrap ((1 : Int) + pickI bs l p (9 : Int))).toNat [] (p + (1 : Int)))).length) (.fin (.slice (some ⟨3, 0, none⟩) ((ptL bs l (IntKind.i64.wrap (1 + pickI bs l p 9)).toNat [] (p + 1)).length) ((ptL bs l (IntKind.i64.wrap (1 + pickI bs l p 9)).toNat [] (p + 1)).length)) [some ⟨.view, .bytes (bs)⟩, some ⟨.box, .vals [.slice (some ⟨0, 0, none⟩) (l) (c), .int .i64 (ptE bs l (IntKind.i64.wrap (1 + pickI bs l p 9)).toNat [] (p + 1) + 1)]⟩, some deadB, some ⟨.row 44 2, .ints (setInts (flat (ptL bs l (IntKind.i64.wrap (1 + pickI bs l p 9)).toNat [] (p + 1))) (0 + (IntKind.i64.wrap ((↑(ptL bs l (IntKind.i64.wrap (1 + pickI bs l p 9)).toNat [] (p + 1)).length : Int) - 1)).toNat * 2) [(flat (ptL bs l (IntKind.i64.wrap (1 + pickI bs l p 9)).toNat [] (p + 1))).getD 0 0, (flat (ptL bs l (IntKind.i64.wrap (1 + pickI bs l p 9)).toNat [] (p + 1))).getD 1 0])⟩]))))) (.fin (.slice (some ⟨3, 0, none⟩) ((ptL bs l (IntKind.i64.wrap (1 + pickI bs l p 9)).toNat [] (p + 1)).length) ((ptL bs l (IntKind.i64.wrap (1 + pickI bs l p 9)).toNat [] (p + 1)).length)) [some ⟨.view, .bytes (bs)⟩, some ⟨.box, .vals [.slice (some ⟨0, 0, none⟩) (l) (c), .int .i64 (ptE bs l (IntKind.i64.wrap (1 + pickI bs l p 9)).toNat [] (p + 1) + 1)]⟩, some deadB, some ⟨.row 44 2, .ints (flat (ptL bs l (IntKind.i64.wrap (1 + pickI bs l p 9)).toNat [] (p + 1)))⟩]))) (.fin (.slice (some ⟨3, 0, none⟩) ((ptL bs l (IntKind.i64.wrap (1 + pickI bs l p 9)).toNat [] (p + 1)).length) ((ptL bs l (IntKind.i64.wrap (1 + pickI bs l p 9)).toNat [] (p + 1)).length)) [some ⟨.view, .bytes (bs)⟩, some ⟨.box, .vals [.slice (some ⟨0, 0, none⟩) (l) (c), .int .i64 (ptE bs l (IntKind.i64.wrap (1 + pickI bs l p 9)).toNat [] (p + 1))]⟩, some deadB, some ⟨.row 44 2, .ints (flat (ptL bs l (IntKind.i64.wrap (1 + pickI bs l p 9)).toNat [] (p + 1)))⟩])))))) := by kernel_rfl
def ptNn (bs : List Int) (l : Nat) (p : Int) : Nat := (1 + pickI bs l p 9).toNat
def ptM (bs : List Int) (l : Nat) (p : Int) : List Pt := ptL bs l (ptNn bs l p) [] (p + 1)
def ptZ (bs : List Int) (l : Nat) (p : Int) : Int := ptE bs l (ptNn bs l p) [] (p + 1)
/-- A drawn path, and the place behind it. -/
def apthL (bs : List Int) (l : Nat) (p : Int) : List Pt := bif decide (2 < (ptM bs l p).length) && pickI bs l (ptZ bs l p) 6 == 0 then (ptM bs l p).set ((ptM bs l p).length - 1) ((ptM bs l p).getD 0 (0, 0)) else ptM bs l p
def apthE (bs : List Int) (l : Nat) (p : Int) : Int := bif decide (2 < (ptM bs l p).length) then ptZ bs l p + 1 else ptZ bs l p
theorem pth_bd (bs : List Int) (l : Nat) : ∀ (n : Nat) (o : List Pt) (p : Int), (ptL bs l n o p).length ≤ o.length + n ∧ p ≤ ptE bs l n o p ∧ ptE bs l n o p ≤ p + 6 * n
  | 0, o, p => ⟨Nat.le_refl _, Int.le_refl _, by simp [ptE]⟩
  | n + 1, o, p => by
    obtain ⟨h1, h2, h3⟩ := pth_bd bs l n (pthO bs l o p) (pthE bs l o p)
    have k1 : (pthO bs l o p).length ≤ o.length + 1 := by
      unfold pthO
      cases (pthN o (pthQ bs l o.length p) || pickI bs l (pthP bs l p) 10 == 0) <;> simp
    have k2 : p + 3 ≤ pthE bs l o p ∧ pthE bs l o p ≤ p + 6 := by
      unfold pthE pthP
      cases pthN o (pthQ bs l o.length p) <;> cases (pickI bs l (p + 2) 8 == 0) <;> simp only [cond_true, cond_false] <;> omega
    simp only [ptL, ptE]
    omega
theorem ptM_bd {bs : List Int} {l : Nat} {p : Int} (h : rdC bs l p) : (ptM bs l p).length ≤ 9 ∧ p ≤ ptZ bs l p ∧ ptZ bs l p ≤ p + 55 := by
  have b := pickI_bd (k := 9) h (by omega)
  have := pth_bd bs l (ptNn bs l p) [] (p + 1)
  have e : ptNn bs l p ≤ 9 := by unfold ptNn; omega
  rw [List.length_nil] at this
  unfold ptM ptZ
  omega
theorem apthL_len {bs : List Int} {l : Nat} {p : Int} (h : rdC bs l p) : (apthL bs l p).length ≤ 9 := by
  have := (ptM_bd h).1
  unfold apthL
  cases (decide (2 < (ptM bs l p).length) && pickI bs l (ptZ bs l p) 6 == 0)
  · exact this
  · rw [cond_true, List.length_set]
    exact this
theorem apthE_bd {bs : List Int} {l : Nat} {p : Int} (h : rdC bs l p) : p ≤ apthE bs l p ∧ apthE bs l p ≤ p + 60 := by
  have := ptM_bd h
  unfold apthE
  cases decide (2 < (ptM bs l p).length) <;> simp only [cond_true, cond_false] <;> omega
def apthS : RSpecR := fun bs l p rest => match rest with
  | [] => some (rowL (apthL bs l p), ⟨.row 44 2, .ints (flat (apthL bs l p))⟩, apthE bs l p, [rdC bs l p, p ≤ 700000])
  | _ => none
theorem apthS_ok : SpecROk Try.prog 65 apthS := by
  intro bs l c p rest v b p' C h hC
  unfold apthS at h
  split at h
  rotate_left
  · cases h
  obtain ⟨rfl, rfl, rfl, rfl⟩ : rowL (apthL bs l p) = v ∧ (⟨.row 44 2, .ints (flat (apthL bs l p))⟩ : Blk) = b ∧ apthE bs l p = p' ∧ [rdC bs l p, p ≤ 700000] = C := by simpa using h
  obtain ⟨h1, h2, _⟩ := hC
  refine ⟨rfl, EPt, 30, 12, EPt_ok, ?_⟩
  rw [tr_ptF]
  have h0 := h1.2.2.1
  have b := pickI_bd (k := 9) h1 (by omega)
  obtain ⟨m1, m2, m3⟩ := ptM_bd h1
  have w : IntKind.i64.wrap (1 + pickI bs l p 9) = 1 + pickI bs l p 9 := wr (by omega)
  rw [w]
  have eL : ptL bs l (1 + pickI bs l p 9).toNat [] (p + 1) = ptM bs l p := rfl
  have eZ : ptE bs l (1 + pickI bs l p 9).toNat [] (p + 1) = ptZ bs l p := rfl
  rw [eL, eZ]
  refine ⟨h1, rfl, ⟨by omega, by omega⟩, ⟨h1.1, h1.2.1, h1.2.2.2.2⟩, ⟨by omega, by omega⟩, brT_ok.2 ⟨fun g => ?_, fun g => ?_⟩⟩
  · have g2 : 2 < (ptM bs l p).length := by have := of_decide_eq_true g; omega
    have eE : apthE bs l p = ptZ bs l p + 1 := by unfold apthE; rw [decide_eq_true g2, cond_true]
    refine ⟨⟨h1.1, h1.2.1, by omega, by omega, h1.2.2.2.2⟩, brT_ok.2 ⟨fun k => ?_, fun k => ?_⟩⟩
    · have w2 : IntKind.i64.wrap (((ptM bs l p).length : Int) - 1) = (((ptM bs l p).length - 1 : Nat) : Int) := by rw [wr (by omega)]; omega
      have eA : apthL bs l p = (ptM bs l p).set ((ptM bs l p).length - 1) ((ptM bs l p).getD 0 (0, 0)) := by unfold apthL; rw [decide_eq_true g2, k]; rfl
      have hs := flat_set (ptM bs l p) ((ptM bs l p).length - 1) (by omega) ((ptM bs l p).getD 0 (0, 0)).1 ((ptM bs l p).getD 0 (0, 0)).2
      have f0 : (flat (ptM bs l p)).getD 0 0 = ((ptM bs l p).getD 0 (0, 0)).1 := flat_get0 (ptM bs l p) 0
      have f1 : (flat (ptM bs l p)).getD 1 0 = ((ptM bs l p).getD 0 (0, 0)).2 := flat_get1 (ptM bs l p) 0
      rw [w2, eA, eE, f0, f1]
      simp only [Int.toNat_natCast, Nat.zero_add, flat_length, hs, Tree.ok]
      exact ⟨by omega, by omega, by omega, by omega, rfl, some 3, ⟨rfl, rfl, by rw [List.length_set]⟩, rfl, rfl, rfl⟩
    · have eA : apthL bs l p = ptM bs l p := by unfold apthL; rw [k, Bool.and_false]; rfl
      rw [eA, eE]
      exact ⟨rfl, some 3, ⟨rfl, rfl, rfl⟩, rfl, rfl, rfl⟩
  · have g2 : ¬ 2 < (ptM bs l p).length := by have := of_decide_eq_false g; omega
    have eE : apthE bs l p = ptZ bs l p := by unfold apthE; rw [decide_eq_false g2, cond_false]
    have eA : apthL bs l p = ptM bs l p := by unfold apthL; rw [decide_eq_false g2]; rfl
    rw [eA, eE]
    exact ⟨rfl, some 3, ⟨rfl, rfl, rfl⟩, rfl, rfl, rfl⟩
def JPt : TabJ := consR 65 (rdGR apthS) (tabJ J2)
theorem JPt_ok : GSound Try.prog JPt.g := consR_ok mixed (tabJ_sound mixed J2_ok) (entersB_res (by kernel_rfl)).1 apthS_ok
def EDp : Env := ⟨B0, fun _ _ => none, fun _ => noL, JPt, fun _ => noR⟩
theorem EDp_ok : EnvOk Try.prog EDp := ⟨B0_ok, fun _ _ _ _ _ h => (by cases h), fun _ _ _ => noL_good, JPt_ok, fun _ _ _ => noR_good⟩
set_option maxRecDepth 100000 in
theorem tr_dSp (bs : List Int) (n : Nat) : bodyX Try.prog EDp 30 12 26 [.row n (.bytes bs)] = brT (decide (2000 < (↑n : Int))) (.need ((0 : Int) ≤ bndI none (0 : Int) ∧ bndI none (0 : Int) ≤ bndI (some (IntKind.i64, (2000 : Int))) (↑n : Int) ∧ bndI (some (IntKind.i64, (2000 : Int))) (↑n : Int) ≤ (↑n : Int)) (.need (rdC bs (2000 : Nat) (0 : Int)) (.need ((0 : Int) ≤ (700000 : Int)) (.need (rdC bs (2000 : Nat) (apthE bs (2000 : Nat) (0 : Int))) (.need ((1 : Nat) ≤ (8 : Nat) ∧ (8 : Nat) ≤ (8 : Nat) ∧ (8 : Nat) = (8 : Nat)) (.fin (.tuple #[.slice (some ⟨2, 0, none⟩) ((apthL bs 2000 0).length) ((apthL bs 2000 0).length), .int .i64 (oneI bs 2000 (apthE bs 2000 0) 8 [0, 1, 2, 4, 9, 30, -1, 8000001])]) [some ⟨.view, .bytes (bs)⟩, some ⟨.box, .vals [.slice (some ⟨0, 0, none⟩) (2000) (2000), .int .i64 (apthE bs 2000 0 + 1)]⟩, some ⟨.row 44 2, .ints (flat (apthL bs 2000 0))⟩, some ⟨.row 3 1, .vals [.int .i64 (0), .int .i64 (1), .int .i64 (2), .int .i64 (4), .int .i64 (9), .int .i64 (30), .int .i64 (-1), .int .i64 (8000001)]⟩])))))) (.need (rdC bs n (0 : Int)) (.need ((0 : Int) ≤ (700000 : Int)) (.need (rdC bs n (apthE bs n (0 : Int))) (.need ((1 : Nat) ≤ (8 : Nat) ∧ (8 : Nat) ≤ (8 : Nat) ∧ (8 : Nat) = (8 : Nat)) (.fin (.tuple #[.slice (some ⟨2, 0, none⟩) ((apthL bs n 0).length) ((apthL bs n 0).length), .int .i64 (oneI bs n (apthE bs n 0) 8 [0, 1, 2, 4, 9, 30, -1, 8000001])]) [some ⟨.view, .bytes (bs)⟩, some ⟨.box, .vals [.slice (some ⟨0, 0, none⟩) (n) (n), .int .i64 (apthE bs n 0 + 1)]⟩, some ⟨.row 44 2, .ints (flat (apthL bs n 0))⟩, some ⟨.row 3 1, .vals [.int .i64 (0), .int .i64 (1), .int .i64 (2), .int .i64 (4), .int .i64 (9), .int .i64 (30), .int .i64 (-1), .int .i64 (8000001)]⟩]))))) := by kernel_rfl
def spNs : List Int := [0, 1, 2, 4, 9, 30, -1, 8000001]
def dSpL (bs : List Int) (l : Nat) : Value := .tuple #[.slice (some ⟨0, 0, none⟩) (apthL bs l 0).length (apthL bs l 0).length, .int .i64 (oneI bs l (apthE bs l 0) 8 spNs)]
theorem ptKey {bs : List Int} {n : Nat} (hb : Bytes bs) (hn : n ≤ bs.length) {l : Nat} (h1 : l ≤ n) (h2 : l ≤ 2000) : rdC bs l 0 ∧ rdC bs l (apthE bs l 0) ∧ (apthL bs l 0).length ≤ 9 := by
  have r0 : rdK bs l 0 := rdK0 hb hn h1 h2 (by omega) (by omega)
  have e := apthE_bd r0.1
  exact ⟨r0.1, r0.at e.1 (by omega), apthL_len r0.1⟩
theorem resR_dSp (bs : List Int) (n : Nat) (hb : Bytes bs) (hn : n ≤ bs.length) : ResR Try.prog 26 [.row n (.bytes bs)] (dSpL bs (rdL n)) ⟨.row 44 2, .ints (flat (apthL bs (rdL n) 0))⟩ := by
  refine bodyX_resR mixed EDp_ok (m := 30) (n := 12) rfl ?_
  rw [tr_dSp]
  refine brT_ok.2 ⟨fun h => ?_, fun h => ?_⟩
  · have h := of_decide_eq_true h
    obtain ⟨k1, k2, k3⟩ := ptKey hb hn (l := 2000) (by omega) (by omega)
    rw [rdL_of h]
    exact ⟨bnd2000 h, k1, by omega, k2, by omega, some 2, ⟨⟨rfl, rfl, rfl⟩, ⟨rfl, rfl⟩, trivial⟩, rfl, rfl, rfl⟩
  · have h := of_decide_eq_false h
    obtain ⟨k1, k2, k3⟩ := ptKey hb hn (l := n) (by omega) (by omega)
    rw [rdL_no h]
    exact ⟨k1, by omega, k2, by omega, some 2, ⟨⟨rfl, rfl, rfl⟩, ⟨rfl, rfl⟩, trivial⟩, rfl, rfl, rfl⟩
end Go.Proofs.Ytolodncpegajkab
