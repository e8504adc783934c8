/-
  Texts that the proof needs, merged. Written by an AI agent.
-/
import Derived.Orders
import Derived.Below
import Derived.OrdersIn
import Derived.Deep.LoopGhost
import Derived.WalkKit
import Derived.Laws.CopyRow
import Derived.Laws.AppendOwn
import Derived.Laws.Slices
import Derived.Laws.MakeOwn
import Derived.Test.YtbfoheblcoakiaaRows
import Derived.ProofKit
import Derived.OpenShut
import Derived.Carry
import Derived.IntWalk
import Derived.Test.YtbfoheblcoakiaaProg
import Derived.WalkSpells
import Derived.WalkLawsBesides
import Derived.Lib.Hide
import Derived.Deep.QuietTactic
import Derived.BigQuiet
import Derived.KernelRfl
import Derived.Deep.RegionHeld3
import Derived.LoopTactic
import Derived.Laws.StructEq
import Derived.Laws.Tables
import Derived.RangeFuncNested
import Derived.RangeFuncLeaves
import Derived.Deep.Slices
import Derived.Deep.Fields
import Derived.ChangeSame
import Derived.Deep.DeepCutAuto
import Derived.Shelf.SlSortCmp.WholeK
import Derived.Sort.Grow
import Derived.Shelf.SlSortCmp.NoneTotal
import Derived.Test.YtbfoheblcoakiaaZHullsApart7
set_option linter.all false
namespace Go.Proofs.Ytbfoheblcoakiaa
open Go.RowKit
def pt4 (x y : Int) : Bool := decide (-4000 ≤ x ∧ x ≤ 4000 ∧ -4000 ≤ y ∧ y ≤ 4000)
theorem pt4_iff {x y : Int} : pt4 x y = true ↔ (-4000 ≤ x ∧ x ≤ 4000 ∧ -4000 ≤ y ∧ y ≤ 4000) := by unfold pt4; exact decide_eq_true_iff
def all4 (ps : List Pt) : Bool := ps.all fun p => pt4 p.1 p.2
theorem all4_at {ps : List Pt} (h : all4 ps = true) {j : Nat} (hj : j < ps.length) : pt4 (ps.getD j (0, 0)).1 (ps.getD j (0, 0)).2 = true := List.all_eq_true.1 h (ps.getD j (0, 0)) (by simp [hj])
theorem all4_of {ps : List Pt} (h : allW ps = true) : all4 ps = true := List.all_eq_true.2 fun z hz => by
  have := pt2_iff.1 (List.all_eq_true.1 h z hz)
  exact pt4_iff.2 (by omega)
theorem all4_cons {p : Pt} {l : List Pt} : all4 (p :: l) = true ↔ pt4 p.1 p.2 = true ∧ all4 l = true := by unfold all4; simp
theorem allW_cons {p : Pt} {l : List Pt} : allW (p :: l) = true ↔ pt2 p.1 p.2 = true ∧ allW l = true := by unfold allW; simp
theorem pt4_of {p : Pt} (h : pt2 p.1 p.2 = true) : pt4 p.1 p.2 = true := by
  have := pt2_iff.1 h
  exact pt4_iff.2 (by omega)
theorem mrg_all4 : ∀ (n : Nat) (u v : List Pt), u.length + v.length ≤ n → allW u = true → allW v = true → all4 (mrg u v) = true
  | _, [], v, _, _, hv => by rw [mrg_nl]; exact all4_of hv
  | _, u :: us, [], _, hu, _ => by rw [mrg_nil]; exact all4_of hu
  | 0, _ :: _, _ :: _, hn, _, _ => by simp at hn
  | n + 1, u :: us, v :: vs, hn, hu, hv => by
    have hu' := allW_cons.1 hu
    have hv' := allW_cons.1 hv
    rw [mrg_cc]
    split
    · exact all4_cons.2 ⟨pt4_of hu'.1, mrg_all4 n us (v :: vs) (by simp at hn ⊢; omega) hu'.2 hv⟩
    · split
      · exact all4_cons.2 ⟨pt4_of hv'.1, mrg_all4 n (u :: us) vs (by simp at hn ⊢; omega) hu hv'.2⟩
      · refine all4_cons.2 ⟨?_, mrg_all4 n us vs (by simp at hn ⊢; omega) hu'.2 hv'.2⟩
        have a1 := pt2_iff.1 hu'.1
        have a2 := pt2_iff.1 hv'.1
        unfold adP
        exact pt4_iff.2 (by simp only; omega)
theorem allW_sd {ps : List Pt} (h : allV ps = true) : allW (sdC ps) = true := by
  rw [← sdN_all]
  refine List.all_eq_true.2 fun z hz => ?_
  unfold sdN at hz
  obtain ⟨j, hj, rfl⟩ := List.mem_map.1 hz
  have hj := List.mem_range.1 hj
  have b1 := allV_gt h hj
  have b2 := allV_gt h (nx_lt hj)
  unfold dif nxP
  exact pt2_iff.2 (by simp only; omega)
theorem resR_two {P : Program} {f : FuncId} {v : Value} {b : Blk} {n m : Nat} {xs ys : List Int} (hn : n * 2 ≤ xs.length) (hm : m * 2 ≤ ys.length) (h0 : ResR P f [.row (ptsA n xs).length (.ints (flat (ptsA n xs))), .row (ptsA m ys).length (.ints (flat (ptsA m ys)))] v b) : ResR P f [.row n (.ints xs), .row m (.ints ys)] v b := by
  have h1 := resR_pts1 (pre := []) (post := [.row (ptsA m ys).length (.ints (flat (ptsA m ys)))]) hn h0
  exact resR_pts1 (pre := [.row n (.ints xs)]) (post := []) hm h1
def RMg : TabR := fun f ds => match f, ds with
  | 68, [.row m (.ints xs)] => some (rowP (sdC (ptsA m xs)), blkP (sdC (ptsA m xs)), [m * 2 ≤ xs.length, allV (ptsA m xs) = true, m ≤ 1000])
  | 67, [.row m (.ints xs), .row n (.ints ys)] => some (rowP (mrg (ptsA m xs) (ptsA n ys)), blkP (mrg (ptsA m xs) (ptsA n ys)), [m * 2 ≤ xs.length, n * 2 ≤ ys.length, allW (ptsA m xs) = true, allW (ptsA n ys) = true, m + n ≤ 1000, 0 < m + n])
  | _, _ => none
theorem RMg_ok : TabROk Try.prog RMg := by
  intro f ds v b C h hC
  unfold RMg at h
  split at h
  · obtain ⟨rfl, rfl, rfl⟩ : _ ∧ _ ∧ _ := by simpa using h
    obtain ⟨_, h2⟩ := ptsA_spec hC.1
    have h1 := resR_pts1 (pre := []) (post := []) hC.1 (resR_iSd hC.2.1 (by rw [h2]; exact hC.2.2.1))
    simp only [List.nil_append] at h1
    exact h1
  · obtain ⟨rfl, rfl, rfl⟩ : _ ∧ _ ∧ _ := by simpa using h
    obtain ⟨_, h2⟩ := ptsA_spec hC.1
    obtain ⟨_, h3⟩ := ptsA_spec hC.2.1
    exact resR_two hC.1 hC.2.1 (resR_iMg hC.2.2.1 hC.2.2.2.1 (by rw [h2, h3]; exact hC.2.2.2.2.1) (by rw [h2, h3]; exact hC.2.2.2.2.2.1))
  · cases h
def EMf : Env := mkE B0 RMg (fun _ => noL)
theorem EMf_ok : EnvOk Try.prog EMf := mkEOk B0_ok RMg_ok (fun _ _ _ => noL_good)
def addR (p : Pt) (ms : List Pt) : List Pt := p :: (cumP p ms).tail.filter fun z => decide (z ≠ p)
def cuF (p a : Pt) (l : List Pt) : List Pt := (cumP a l).tail.filter fun z => decide (z ≠ p)
theorem cuF_cons (p a m : Pt) (l : List Pt) : cuF p a (m :: l) = if adP a m = p then cuF p (adP a m) l else adP a m :: cuF p (adP a m) l := by
  unfold cuF
  show ((cumP (adP a m) l).filter _) = _
  obtain ⟨t, e⟩ := cumP_cons l (adP a m)
  rw [e, List.tail_cons, List.filter_cons]
  by_cases c : adP a m = p
  · rw [if_pos c, c]; simp
  · rw [if_neg c, if_pos (by simpa using c)]
noncomputable def c_adh : Code := ((loopsOf (codeOf Try.f35))[0]?).getD .skip
def k_adh : Ex → List Nat := keeps [5, 6, 22, 23, 24] [(0, [6])] []
def s_adh (ms : List Pt) (x y : Int) : Nat × Pt × (List Pt) → St := fun (i, a, o) => ⟨(ω5 .pointer (some ⟨3, 0, none⟩) :: ß 8 o.length o.length :: ω15 ß 7 ms.length ms.length :: .int .i64 ms.length :: .int .i64 i :: ω17 []), [some ⟨.dead, .vals []⟩, some ⟨.dead, .vals []⟩, none, some ⟨.box, .vals [.int .i64 a.1, .int .i64 a.2]⟩, some ⟨.dead, .vals []⟩, some ⟨.dead, .vals []⟩, some ⟨.dead, .vals []⟩, some ⟨.row 32 2, .ints (flat ms)⟩, some ⟨.row 32 2, .ints (flat o)⟩]⟩
def re_adh : Nat × Pt × (List Pt) → Ex := fun _ => .exit 0
def rs_adh (ms : List Pt) (x y : Int) : Nat × Pt × (List Pt) → St := fun (i, a, o) => ⟨(ω6 ß 8 (addR (x, y) ms).length (addR (x, y) ms).length :: ω35 []), [some ⟨.dead, .vals []⟩, some ⟨.dead, .vals []⟩, none, some ⟨.dead, .vals []⟩, some ⟨.dead, .vals []⟩, some ⟨.dead, .vals []⟩, some ⟨.dead, .vals []⟩, some ⟨.dead, .vals []⟩, some ⟨.row 32 2, .ints (flat (addR (x, y) ms))⟩]⟩
set_option maxRecDepth 100000 in
theorem tr_adh (ms : List Pt) (x y : Int) (i : Nat) (a : Pt) (o : List Pt) : bodyL Try.prog EMf 30 12 noL 1 c_adh k_adh 24 (s_adh ms x y (i, a, o)) = brT (decide ((↑i : Int) < (↑ms.length : Int))) (.need ((0 : Int) ≤ (↑i : Int) ∧ (↑i : Int) < (↑ms.length : Int)) (.need ((0 : Nat) + (↑i : Int).toNat * (2 : Nat) + (2 : Nat) ≤ (flat ms).length) (.need ((0 : Int) ≤ (0 : Int) ∧ (0 : Int) < (↑o.length : Int)) (.need ((2 : Nat) ≤ (flat o).length) (brT (negB true (ŵ (a.1 + (flat ms).getD (0 + (↑i : Int).toNat * 2) 0) == (flat o).getD 0 0 && (ŵ (a.2 + (flat ms).getD (0 + (↑i : Int).toNat * 2 + 1) 0) == (flat o).getD 1 0 && true))) (.need ((o.length + (1 : Nat)) * (16 : Nat) ≤ (140737488355328 : Nat) ∧ o.length + (1 : Nat) ≤ (2000000 : Nat)) (.need ((0 : Nat) + o.length * (2 : Nat) ≤ (flat o).length) (.leaf .normal ⟨(ω5 .pointer (some ⟨3, 0, none⟩) :: ß 14 (o.length + 1) (o.length + 1) :: ω15 ß 7 (ms.length) (ms.length) :: .int .i64 ((↑ms.length : Int)) :: .int .i64 (ŵ ((↑i : Int) + 1)) :: ω17 []), [some deadB, some deadB, none, some ⟨.box, .vals [.int .i64 (ŵ (a.1 + (flat ms).getD (0 + (↑i : Int).toNat * 2) 0)), .int .i64 (ŵ (a.2 + (flat ms).getD (0 + (↑i : Int).toNat * 2 + 1) 0))]⟩, some deadB, some deadB, some deadB, some ⟨.row 32 2, .ints (flat ms)⟩, some deadB, some ⟨.box, .vals [.int .i64 ((flat ms).getD (0 + (↑i : Int).toNat * 2) 0), .int .i64 ((flat ms).getD (0 + (↑i : Int).toNat * 2 + 1) 0)]⟩, some ⟨.box, .vals [.int .i64 (a.1), .int .i64 (a.2)]⟩, some ⟨.box, .vals [.int .i64 ((flat ms).getD (0 + (↑i : Int).toNat * 2) 0), .int .i64 ((flat ms).getD (0 + (↑i : Int).toNat * 2 + 1) 0)]⟩, some ⟨.box, .vals [.int .i64 (ŵ (a.1 + (flat ms).getD (0 + (↑i : Int).toNat * 2) 0)), .int .i64 (ŵ (a.2 + (flat ms).getD (0 + (↑i : Int).toNat * 2 + 1) 0))]⟩, some ⟨.row 32 2, .vals [.int .i64 (ŵ (a.1 + (flat ms).getD (0 + (↑i : Int).toNat * 2) 0)), .int .i64 (ŵ (a.2 + (flat ms).getD (0 + (↑i : Int).toNat * 2 + 1) 0))]⟩, some ⟨.row 32 2, .ints (List.take (o.length * 2) (List.drop 0 (flat o)) ++ [ŵ (a.1 + (flat ms).getD (0 + (↑i : Int).toNat * 2) 0), ŵ (a.2 + (flat ms).getD (0 + (↑i : Int).toNat * 2 + 1) 0)])⟩]⟩))) (.leaf .normal ⟨(ω5 .pointer (some ⟨3, 0, none⟩) :: ß 8 (o.length) (o.length) :: ω15 ß 7 (ms.length) (ms.length) :: .int .i64 ((↑ms.length : Int)) :: .int .i64 (ŵ ((↑i : Int) + 1)) :: ω17 []), [some deadB, some deadB, none, some ⟨.box, .vals [.int .i64 (ŵ (a.1 + (flat ms).getD (0 + (↑i : Int).toNat * 2) 0)), .int .i64 (ŵ (a.2 + (flat ms).getD (0 + (↑i : Int).toNat * 2 + 1) 0))]⟩, some deadB, some deadB, some deadB, some ⟨.row 32 2, .ints (flat ms)⟩, some ⟨.row 32 2, .ints (flat o)⟩, some ⟨.box, .vals [.int .i64 ((flat ms).getD (0 + (↑i : Int).toNat * 2) 0), .int .i64 ((flat ms).getD (0 + (↑i : Int).toNat * 2 + 1) 0)]⟩, some ⟨.box, .vals [.int .i64 (a.1), .int .i64 (a.2)]⟩, some ⟨.box, .vals [.int .i64 ((flat ms).getD (0 + (↑i : Int).toNat * 2) 0), .int .i64 ((flat ms).getD (0 + (↑i : Int).toNat * 2 + 1) 0)]⟩, some ⟨.box, .vals [.int .i64 (ŵ (a.1 + (flat ms).getD (0 + (↑i : Int).toNat * 2) 0)), .int .i64 (ŵ (a.2 + (flat ms).getD (0 + (↑i : Int).toNat * 2 + 1) 0))]⟩]⟩)))))) (.leaf (.exit 0) ⟨(ω6 ß 8 (o.length) (o.length) :: ω35 []), [some deadB, some deadB, none, some ⟨.box, .vals [.int .i64 (a.1), .int .i64 (a.2)]⟩, some deadB, some deadB, some deadB, some ⟨.row 32 2, .ints (flat ms)⟩, some ⟨.row 32 2, .ints (flat o)⟩]⟩) := by kernel_rfl
set_option maxRecDepth 100000 in
theorem nl_adh : loopsOf c_adh = [] := by kernel_rfl
def inv_adh (ms : List Pt) (x y : Int) : Nat × Pt × (List Pt) → Prop := fun (i, a, o) => i ≤ ms.length ∧ o.length ≤ i + 1 ∧ 0 < o.length ∧ o.getD 0 (0, 0) = (x, y) ∧ (-(2000 + 4000 * (i : Int)) ≤ a.1 ∧ a.1 ≤ 2000 + 4000 * i ∧ -(2000 + 4000 * (i : Int)) ≤ a.2 ∧ a.2 ≤ 2000 + 4000 * i) ∧ o ++ cuF (x, y) a (ms.drop i) = addR (x, y) ms
def me_adh (ms : List Pt) (x y : Int) : Nat × Pt × (List Pt) → Nat := fun (i, a, o) => ms.length - i
def Round_adh (ms : List Pt) (x y : Int) : Prop := ∀ xx : Nat × Pt × (List Pt), inv_adh ms x y xx → (bodyL Try.prog EMf 30 12 noL 1 c_adh k_adh 24 (s_adh ms x y xx)).ok (RoundEnd 8 (s_adh ms x y) (inv_adh ms x y) (me_adh ms x y) re_adh (rs_adh ms x y) xx) (fun _ _ => False)
def e_adh (s : St) (k : Ex → St → Tree) : Option Tree := match Nat.beq s.tmps.length 42, pickL s.tmps [5, 6, 22, 23, 24], s.mem with
  | true, [.pointer (some ⟨3, 0, none⟩), ß 4 z _, ß 7 n _, .int .i64 n1, .int .i64 i0], [_, _, none, some ⟨.box, .vals [.int .i64 x, .int .i64 y]⟩, some ⟨.row 32 2, .vals [.int .i64 x1, .int .i64 y1]⟩, _, _, some ⟨.row 32 2, .ints xs⟩] => some (needs [z = 1, n1 = n, i0 = 0, x1 = x, y1 = y, xs.length = n * 2, all4 (ptsA n xs) = true, n ≤ 1000, pt2 x y = true] (k (.exit 0) ⟨(ω6 ß 8 (addR (x, y) (ptsA n xs)).length (addR (x, y) (ptsA n xs)).length :: ω35 []), [some ⟨.dead, .vals []⟩, some ⟨.dead, .vals []⟩, none, some ⟨.dead, .vals []⟩, some ⟨.dead, .vals []⟩, some ⟨.dead, .vals []⟩, some ⟨.dead, .vals []⟩, some ⟨.dead, .vals []⟩, some ⟨.row 32 2, .ints (flat (addR (x, y) (ptsA n xs)))⟩]⟩))
  | _, _, _ => none
theorem ad_bd {a m : Pt} {i : Nat} (h5 : -(2000 + 4000 * (i : Int)) ≤ a.1 ∧ a.1 ≤ 2000 + 4000 * i ∧ -(2000 + 4000 * (i : Int)) ≤ a.2 ∧ a.2 ≤ 2000 + 4000 * i) (hm : -4000 ≤ m.1 ∧ m.1 ≤ 4000 ∧ -4000 ≤ m.2 ∧ m.2 ≤ 4000) : -(2000 + 4000 * ((i + 1 : Nat) : Int)) ≤ (adP a m).1 ∧ (adP a m).1 ≤ 2000 + 4000 * ((i + 1 : Nat) : Int) ∧ -(2000 + 4000 * ((i + 1 : Nat) : Int)) ≤ (adP a m).2 ∧ (adP a m).2 ≤ 2000 + 4000 * ((i + 1 : Nat) : Int) := by
  unfold adP
  simp only
  omega
set_option maxRecDepth 100000 in
theorem round_adh (ms : List Pt) (x y : Int) (hm : all4 ms = true) (h : ms.length ≤ 1000) : Round_adh ms x y := by
  rintro ⟨i, a, o⟩ ⟨h1, h2, h3, h4, h5, h6⟩
  rw [tr_adh]
  have f0 : (flat o).getD 0 0 = x := by have := flat_get0 o 0; rw [h4] at this; exact this
  have f1 : (flat o).getD 1 0 = y := by have := flat_get1 o 0; rw [h4] at this; exact this
  simp only [Int.toNat_natCast, Nat.zero_add, flat_get0, flat_get1, flat_length, List.drop_zero, flat_take, List.take_length, f0, f1]
  refine brT_ok.2 ⟨fun c => ?_, fun c => ?_⟩
  · have c := of_decide_eq_true c
    have hi : i < ms.length := by omega
    have b4 := pt4_iff.1 (all4_at hm hi)
    simp (disch := omega) only [wr]
    have ek : (i : Int) + 1 = ((i + 1 : Nat) : Int) := by omega
    rw [ek]
    rw [drop_cons2 hi, cuF_cons] at h6
    have h7 := ad_bd h5 b4
    have sn := flat_snoc o (a.1 + (ms.getD i (0, 0)).1) (a.2 + (ms.getD i (0, 0)).2)
    rw [sn]
    generalize ms.getD i (0, 0) = m at *
    have eb : (a.1 + m.1 == x && (a.2 + m.2 == y && true)) = decide (adP a m = (x, y)) := by
      rw [Bool.eq_iff_iff]
      simp [adP, Prod.mk.injEq]
    rw [eb]
    refine ⟨by omega, by omega, by omega, by omega, brT_ok.2 ⟨fun q => ?_, fun q => ?_⟩⟩
    · have c : ¬ adP a m = (x, y) := by
        intro c
        rw [decide_eq_true c] at q
        exact absurd q (by decide)
      rw [if_neg c] at h6
      refine ⟨by omega, by omega, (i + 1, adP a m, o ++ [adP a m]), [some 14], ⟨by omega, by simp; omega, by simp, ?_, h7, by simpa using h6⟩, ?_, rfl, rfl, ?_⟩
      · rw [getD_append, if_pos h3, h4]
      · show ms.length - (i + 1) < ms.length - i; omega
      · repeat' (first | exact True.intro | exact rfl | exact wv_top _ _ | exact fun _ => rfl | (simp; done) | refine And.intro ?_ ?_)
    · have c : adP a m = (x, y) := by
        rcases Decidable.em (adP a m = (x, y)) with c | c
        · exact c
        · rw [decide_eq_false c] at q
          exact absurd q (by decide)
      rw [if_pos c] at h6
      refine ⟨(i + 1, adP a m, o), [some 8], ⟨by omega, by omega, h3, h4, h7, h6⟩, ?_, rfl, rfl, ?_⟩
      · show ms.length - (i + 1) < ms.length - i; omega
      · repeat' (first | exact True.intro | exact rfl | exact wv_top _ _ | exact fun _ => rfl | (simp; done) | refine And.intro ?_ ?_)
  · have c := of_decide_eq_false c
    have e : o = addR (x, y) ms := by
      rw [← h6, List.drop_of_length_le (by omega)]
      show o = o ++ []
      simp
    refine ⟨rfl, [some 8], ?_⟩
    simp only [rs_adh, ← e]
    repeat' (first | exact True.intro | exact rfl | exact wv_top _ _ | exact fun _ => rfl | (simp; done) | refine And.intro ?_ ?_)
set_option maxRecDepth 100000 in
theorem lg_adh : LoopE Try.prog e_adh c_adh := by
  intro s k t F H hlt ht
  unfold e_adh at hlt
  split at hlt
  rotate_left
  · cases hlt
  rename_i hlen hpick hmem
  obtain ⟨tmps, mem⟩ := s
  simp only at hlen hpick hmem
  subst hmem
  obtain rfl := Option.some.inj hlt
  obtain ⟨⟨rfl, rfl, rfl, rfl, rfl, h1, h2, h3, h4, _⟩, ht2⟩ := needs_ok ht
  clear ht hlt
  obtain ⟨ms, rfl, rfl⟩ := even_flat h1
  rw [ptsA_flat] at ht2 h2
  refine ⟨_, _, ht2, loop_run2 mixed EMf_ok (s_adh ms _ _) (inv_adh ms _ _) (me_adh ms _ _) re_adh (rs_adh ms _ _) k_adh (fun _ => rfl) (noLoops nl_adh) (round_adh ms _ _ h2 h3) (x := (0, (_, _), [(_, _)])) ⟨Nat.zero_le _, Nat.le_refl _, Nat.zero_lt_one, rfl, by have := pt2_iff.1 h4; simp only; omega, rfl⟩ (π := [some 4]) rfl ?_⟩
  refine ⟨rfl, rfl, ?_, wvs_spread' [5, 6, 22, 23, 24] hlen rfl ?_⟩
  · repeat' (first | exact True.intro | exact rfl | exact wv_top _ _ | exact fun _ => rfl | assumption | exact Eq.symm (by assumption) | exact vI0 rfl | refine And.intro ?_ ?_)
  · rw [hpick]
    repeat' (first | exact True.intro | exact rfl | exact wv_top _ _ | exact fun _ => rfl | assumption | exact Eq.symm (by assumption) | exact vI0 rfl | refine And.intro ?_ ?_)
theorem Lr_adh {fn : Func} (hf : Try.prog.funcs[35]? = some fn) : LoopsGood Try.prog (lt1 e_adh) 0 (codeOf fn) := by
  obtain rfl := fn_is Try.func35 hf
  exact lt1_good lg_adh
def LAh : FuncId → LT := fun f => match f with
  | 35 => lt1 e_adh
  | _ => noL
def EAh : Env := mkE B0 RMg LAh
theorem EAh_ok : EnvOk Try.prog EAh := mkEOk B0_ok RMg_ok (by
  intro f fn hf
  unfold LAh
  split
  all_goals first | with_reducible exact Lr_adh hf | exact noL_good)
set_option maxRecDepth 100000 in
theorem tr_iAh (us vs : List Pt) : bodyX Try.prog EAh 30 12 35 [.row us.length (.ints (flat us)), .row vs.length (.ints (flat vs))] = .need ((0 : Int) ≤ (0 : Int) ∧ (0 : Int) < (↑us.length : Int)) (.need ((2 : Nat) ≤ (flat us).length) (.need ((0 : Int) ≤ (0 : Int) ∧ (0 : Int) < (↑vs.length : Int)) (.need ((2 : Nat) ≤ (flat vs).length) (.need (us.length * (2 : Nat) ≤ (List.drop 0 (flat us)).length) (.need (allV (ptsA us.length (List.drop 0 (flat us))) = true) (.need (us.length ≤ (1000 : Nat)) (.need (vs.length * (2 : Nat) ≤ (List.drop 0 (flat vs)).length) (.need (allV (ptsA vs.length (List.drop 0 (flat vs))) = true) (.need (vs.length ≤ (1000 : Nat)) (.need ((sdC (ptsA us.length (List.drop 0 (flat us)))).length * (2 : Nat) ≤ (List.drop 0 (flat (sdC (ptsA us.length (List.drop 0 (flat us)))))).length) (.need ((sdC (ptsA vs.length (List.drop 0 (flat vs)))).length * (2 : Nat) ≤ (List.drop 0 (flat (sdC (ptsA vs.length (List.drop 0 (flat vs)))))).length) (.need (allW (ptsA (sdC (ptsA us.length (List.drop 0 (flat us)))).length (List.drop 0 (flat (sdC (ptsA us.length (List.drop 0 (flat us))))))) = true) (.need (allW (ptsA (sdC (ptsA vs.length (List.drop 0 (flat vs)))).length (List.drop 0 (flat (sdC (ptsA vs.length (List.drop 0 (flat vs))))))) = true) (.need ((sdC (ptsA us.length (List.drop 0 (flat us)))).length + (sdC (ptsA vs.length (List.drop 0 (flat vs)))).length ≤ (1000 : Nat)) (.need ((0 : Nat) < (sdC (ptsA us.length (List.drop 0 (flat us)))).length + (sdC (ptsA vs.length (List.drop 0 (flat vs)))).length) (.need ((1 : Nat) = (1 : Nat)) (.need ((↑(mrg (ptsA (sdC (ptsA us.length (List.drop 0 (flat us)))).length (List.drop 0 (flat (sdC (ptsA us.length (List.drop 0 (flat us))))))) (ptsA (sdC (ptsA vs.length (List.drop 0 (flat vs)))).length (List.drop 0 (flat (sdC (ptsA vs.length (List.drop 0 (flat vs)))))))).length : Int) = (↑(mrg (ptsA (sdC (ptsA us.length (List.drop 0 (flat us)))).length (List.drop 0 (flat (sdC (ptsA us.length (List.drop 0 (flat us))))))) (ptsA (sdC (ptsA vs.length (List.drop 0 (flat vs)))).length (List.drop 0 (flat (sdC (ptsA vs.length (List.drop 0 (flat vs)))))))).length : Int)) (.need ((0 : Int) = (0 : Int)) (.need (ŵ ((flat us).getD (0 : Nat) (0 : Int) + (flat vs).getD (0 : Nat) (0 : Int)) = ŵ ((flat us).getD (0 : Nat) (0 : Int) + (flat vs).getD (0 : Nat) (0 : Int))) (.need (ŵ ((flat us).getD (1 : Nat) (0 : Int) + (flat vs).getD (1 : Nat) (0 : Int)) = ŵ ((flat us).getD (1 : Nat) (0 : Int) + (flat vs).getD (1 : Nat) (0 : Int))) (.need ((flat (mrg (ptsA (sdC (ptsA us.length (List.drop 0 (flat us)))).length (List.drop 0 (flat (sdC (ptsA us.length (List.drop 0 (flat us))))))) (ptsA (sdC (ptsA vs.length (List.drop 0 (flat vs)))).length (List.drop 0 (flat (sdC (ptsA vs.length (List.drop 0 (flat vs))))))))).length = (mrg (ptsA (sdC (ptsA us.length (List.drop 0 (flat us)))).length (List.drop 0 (flat (sdC (ptsA us.length (List.drop 0 (flat us))))))) (ptsA (sdC (ptsA vs.length (List.drop 0 (flat vs)))).length (List.drop 0 (flat (sdC (ptsA vs.length (List.drop 0 (flat vs)))))))).length * (2 : Nat)) (.need (all4 (ptsA (mrg (ptsA (sdC (ptsA us.length (List.drop 0 (flat us)))).length (List.drop 0 (flat (sdC (ptsA us.length (List.drop 0 (flat us))))))) (ptsA (sdC (ptsA vs.length (List.drop 0 (flat vs)))).length (List.drop 0 (flat (sdC (ptsA vs.length (List.drop 0 (flat vs)))))))).length (flat (mrg (ptsA (sdC (ptsA us.length (List.drop 0 (flat us)))).length (List.drop 0 (flat (sdC (ptsA us.length (List.drop 0 (flat us))))))) (ptsA (sdC (ptsA vs.length (List.drop 0 (flat vs)))).length (List.drop 0 (flat (sdC (ptsA vs.length (List.drop 0 (flat vs)))))))))) = true) (.need ((mrg (ptsA (sdC (ptsA us.length (List.drop 0 (flat us)))).length (List.drop 0 (flat (sdC (ptsA us.length (List.drop 0 (flat us))))))) (ptsA (sdC (ptsA vs.length (List.drop 0 (flat vs)))).length (List.drop 0 (flat (sdC (ptsA vs.length (List.drop 0 (flat vs)))))))).length ≤ (1000 : Nat)) (.need (pt2 (ŵ ((flat us).getD (0 : Nat) (0 : Int) + (flat vs).getD (0 : Nat) (0 : Int))) (ŵ ((flat us).getD (1 : Nat) (0 : Int) + (flat vs).getD (1 : Nat) (0 : Int))) = true) (.fin (ß 8 ((addR (ŵ ((flat us).getD (0 + Int.toNat 0 * (2 : Nat)) 0 + (flat vs).getD (0 + Int.toNat 0 * (2 : Nat)) 0), ŵ ((flat us).getD (0 + Int.toNat 0 * (2 : Nat) + 1) 0 + (flat vs).getD (0 + Int.toNat 0 * (2 : Nat) + 1) 0)) (ptsA (mrg (ptsA (sdC (ptsA us.length (List.drop 0 (flat us)))).length (List.drop 0 (flat (sdC (ptsA us.length (List.drop 0 (flat us))))))) (ptsA (sdC (ptsA vs.length (List.drop 0 (flat vs)))).length (List.drop 0 (flat (sdC (ptsA vs.length (List.drop 0 (flat vs)))))))).length (flat (mrg (ptsA (sdC (ptsA us.length (List.drop 0 (flat us)))).length (List.drop 0 (flat (sdC (ptsA us.length (List.drop 0 (flat us))))))) (ptsA (sdC (ptsA vs.length (List.drop 0 (flat vs)))).length (List.drop 0 (flat (sdC (ptsA vs.length (List.drop 0 (flat vs))))))))))).length) ((addR (ŵ ((flat us).getD (0 + Int.toNat 0 * (2 : Nat)) 0 + (flat vs).getD (0 + Int.toNat 0 * (2 : Nat)) 0), ŵ ((flat us).getD (0 + Int.toNat 0 * (2 : Nat) + 1) 0 + (flat vs).getD (0 + Int.toNat 0 * (2 : Nat) + 1) 0)) (ptsA (mrg (ptsA (sdC (ptsA us.length (List.drop 0 (flat us)))).length (List.drop 0 (flat (sdC (ptsA us.length (List.drop 0 (flat us))))))) (ptsA (sdC (ptsA vs.length (List.drop 0 (flat vs)))).length (List.drop 0 (flat (sdC (ptsA vs.length (List.drop 0 (flat vs)))))))).length (flat (mrg (ptsA (sdC (ptsA us.length (List.drop 0 (flat us)))).length (List.drop 0 (flat (sdC (ptsA us.length (List.drop 0 (flat us))))))) (ptsA (sdC (ptsA vs.length (List.drop 0 (flat vs)))).length (List.drop 0 (flat (sdC (ptsA vs.length (List.drop 0 (flat vs))))))))))).length)) [some deadB, some deadB, none, some deadB, some deadB, some deadB, some deadB, some deadB, some ⟨.row 32 2, .ints (flat (addR (ŵ ((flat us).getD (0 + Int.toNat 0 * (2 : Nat)) 0 + (flat vs).getD (0 + Int.toNat 0 * (2 : Nat)) 0), ŵ ((flat us).getD (0 + Int.toNat 0 * (2 : Nat) + 1) 0 + (flat vs).getD (0 + Int.toNat 0 * (2 : Nat) + 1) 0)) (ptsA (mrg (ptsA (sdC (ptsA us.length (List.drop 0 (flat us)))).length (List.drop 0 (flat (sdC (ptsA us.length (List.drop 0 (flat us))))))) (ptsA (sdC (ptsA vs.length (List.drop 0 (flat vs)))).length (List.drop 0 (flat (sdC (ptsA vs.length (List.drop 0 (flat vs)))))))).length (flat (mrg (ptsA (sdC (ptsA us.length (List.drop 0 (flat us)))).length (List.drop 0 (flat (sdC (ptsA us.length (List.drop 0 (flat us))))))) (ptsA (sdC (ptsA vs.length (List.drop 0 (flat vs)))).length (List.drop 0 (flat (sdC (ptsA vs.length (List.drop 0 (flat vs))))))))))))⟩]))))))))))))))))))))))))) := by kernel_rfl
theorem addL_is (us vs : List Pt) : addL us vs = addR (adP (us.getD 0 (0, 0)) (vs.getD 0 (0, 0))) (mrg (sdC us) (sdC vs)) := rfl
theorem fl00 (l : List Pt) : (flat l).getD 0 0 = (l.getD 0 (0, 0)).1 := flat_get0 l 0
theorem fl01 (l : List Pt) : (flat l).getD 1 0 = (l.getD 0 (0, 0)).2 := flat_get1 l 0
theorem resR_iAh {us vs : List Pt} (hu : allV us = true) (hv : allV vs = true) (h : us.length ≤ 100) (h' : vs.length ≤ 100) (u0 : 0 < us.length) (v0 : 0 < vs.length) : ResR Try.prog 35 [.row us.length (.ints (flat us)), .row vs.length (.ints (flat vs))] (rowP (addL us vs)) (blkP (addL us vs)) := by
  refine bodyX_resR mixed EAh_ok (m := 30) (n := 12) rfl ?_
  rw [tr_iAh]
  have a1 := allV_gt hu u0
  have a2 := allV_gt hv v0
  have w1 := allW_sd hu
  have w2 := allW_sd hv
  have l1 := sdC_len us
  have l2 := sdC_len vs
  have l3 := mrg_len _ (sdC us) (sdC vs) (Nat.le_refl _)
  have w3 := mrg_all4 _ (sdC us) (sdC vs) (Nat.le_refl _) w1 w2
  have fu := flat_length us
  have fv := flat_length vs
  simp only [ptsA_flat, List.drop_zero, Int.toNat_zero, Nat.zero_mul, Nat.zero_add, Nat.add_zero, fl00, fl01, flat_length]
  simp (disch := omega) only [wr]
  have p2 : pt2 ((us.getD 0 (0, 0)).1 + (vs.getD 0 (0, 0)).1) ((us.getD 0 (0, 0)).2 + (vs.getD 0 (0, 0)).2) = true := pt2_iff.2 (by omega)
  rw [addL_is]
  have e : ((us.getD 0 (0, 0)).1 + (vs.getD 0 (0, 0)).1, (us.getD 0 (0, 0)).2 + (vs.getD 0 (0, 0)).2) = adP (us.getD 0 (0, 0)) (vs.getD 0 (0, 0)) := rfl
  rw [e]
  generalize addR (adP (us.getD 0 (0, 0)) (vs.getD 0 (0, 0))) (mrg (sdC us) (sdC vs)) = A at *
  repeat' (first | exact True.intro | assumption | omega | exact rfl | exact ⟨some 8, ⟨rfl, rfl, rfl⟩, rfl, rfl, rfl⟩ | refine And.intro ?_ ?_)
def ro1 (p : Pt) (vs : List Pt) : List Pt := vs.map (adP p)
def smL (us vs : List Pt) : List Pt := us.flatMap fun p => ro1 p vs
theorem ro1_step {vs : List Pt} {k : Nat} (p : Pt) (o : List Pt) (h : k < vs.length) : o ++ ro1 p (vs.drop k) = (o ++ [adP p (vs.getD k (0, 0))]) ++ ro1 p (vs.drop (k + 1)) := by
  unfold ro1
  rw [drop_cons h (0, 0)]
  simp
theorem ro1_end {vs : List Pt} {k : Nat} (p : Pt) (h : vs.length ≤ k) : ro1 p (vs.drop k) = [] := by
  unfold ro1
  rw [List.drop_of_length_le h]
  rfl
theorem smL_step {us : List Pt} {i : Nat} (vs o : List Pt) (h : i < us.length) : o ++ smL (us.drop i) vs = (o ++ ro1 (us.getD i (0, 0)) vs) ++ smL (us.drop (i + 1)) vs := by
  unfold smL
  rw [drop_cons h (0, 0)]
  simp
theorem smL_end {us : List Pt} {i : Nat} (vs : List Pt) (h : us.length ≤ i) : smL (us.drop i) vs = [] := by
  unfold smL
  rw [List.drop_of_length_le h]
  rfl
theorem ro1_len (p : Pt) (vs : List Pt) : (ro1 p vs).length = vs.length := by unfold ro1; simp
theorem smL_len : ∀ (us vs : List Pt), (smL us vs).length = us.length * vs.length
  | [], vs => by simp [smL]
  | p :: us, vs => by
    show (ro1 p vs ++ smL us vs).length = _
    rw [List.length_append, ro1_len, smL_len us vs, List.length_cons, Nat.add_mul]
    omega
theorem mem_smL {us vs : List Pt} {z : Pt} : z ∈ smL us vs ↔ smS (fun q => q ∈ us) (fun q => q ∈ vs) z := by
  unfold smL ro1 smS
  rw [List.mem_flatMap]
  constructor
  · rintro ⟨p, hp, hz⟩
    obtain ⟨q, hq, rfl⟩ := List.mem_map.1 hz
    exact ⟨p, q, hp, hq, rfl⟩
  · rintro ⟨p, q, hp, hq, rfl⟩
    exact ⟨p, hp, List.mem_map.2 ⟨q, hq, rfl⟩⟩
noncomputable def c_smi : Code := ((loopsOf (codeOf Try.f39))[1]?).getD .skip
def k_smi : Ex → List Nat := keeps [0, 1, 5, 6, 7] [(2, [0, 1, 5, 6])] []
def s_smi (us vs : List Pt) (i : Nat) : Nat × (List Pt) → St := fun (k, o) => ⟨(ß 0 us.length us.length :: ß 1 vs.length vs.length :: ω3 ß 4 o.length o.length :: .int .i64 i :: .int .i64 k :: ω40 []), [some ⟨.view, .ints (flat us)⟩, some ⟨.view, .ints (flat vs)⟩, some ⟨.dead, .vals []⟩, some ⟨.dead, .vals []⟩, some ⟨.row 32 2, .ints (flat o)⟩]⟩
def re_smi : Nat × (List Pt) → Ex := fun _ => .exit 2
def rs_smi (us vs : List Pt) (i : Nat) : Nat × (List Pt) → St := fun (k, o) => ⟨(ß 0 us.length us.length :: ß 1 vs.length vs.length :: ω3 ß 4 (o ++ ro1 (us.getD i (0, 0)) (vs.drop k)).length (o ++ ro1 (us.getD i (0, 0)) (vs.drop k)).length :: .int .i64 i :: ω41 []), [some ⟨.view, .ints (flat us)⟩, some ⟨.view, .ints (flat vs)⟩, some ⟨.dead, .vals []⟩, some ⟨.dead, .vals []⟩, some ⟨.row 32 2, .ints (flat (o ++ ro1 (us.getD i (0, 0)) (vs.drop k)))⟩]⟩
set_option maxRecDepth 100000 in
theorem tr_smi (us vs : List Pt) (i : Nat) (k : Nat) (o : List Pt) : bodyL Try.prog EGa 30 12 noL 2 c_smi k_smi 16 (s_smi us vs i (k, o)) = brT (decide ((↑k : Int) < (↑vs.length : Int))) (.need ((0 : Int) ≤ (↑i : Int) ∧ (↑i : Int) < (↑us.length : Int)) (.need ((0 : Nat) + (↑i : Int).toNat * (2 : Nat) + (0 : Nat) < (flat us).length) (.need ((0 : Int) ≤ (↑k : Int) ∧ (↑k : Int) < (↑vs.length : Int)) (.need ((0 : Nat) + (↑k : Int).toNat * (2 : Nat) + (0 : Nat) < (flat vs).length) (.need ((0 : Int) ≤ (↑i : Int) ∧ (↑i : Int) < (↑us.length : Int)) (.need ((0 : Nat) + (↑i : Int).toNat * (2 : Nat) + (1 : Nat) < (flat us).length) (.need ((0 : Int) ≤ (↑k : Int) ∧ (↑k : Int) < (↑vs.length : Int)) (.need ((0 : Nat) + (↑k : Int).toNat * (2 : Nat) + (1 : Nat) < (flat vs).length) (.need ((o.length + (1 : Nat)) * (16 : Nat) ≤ (140737488355328 : Nat) ∧ o.length + (1 : Nat) ≤ (2000000 : Nat)) (.need ((0 : Nat) + o.length * (2 : Nat) ≤ (flat o).length) (.leaf .normal ⟨(ß 0 (us.length) (us.length) :: ß 1 (vs.length) (vs.length) :: ω3 ß 6 (o.length + 1) (o.length + 1) :: .int .i64 ((↑i : Int)) :: .int .i64 (ŵ ((↑k : Int) + 1)) :: ω40 []), [some ⟨.view, .ints (flat us)⟩, some ⟨.view, .ints (flat vs)⟩, some deadB, some deadB, some deadB, some ⟨.row 32 2, .vals [.int .i64 (ŵ ((flat us).getD (0 + (↑i : Int).toNat * 2 + 0) 0 + (flat vs).getD (0 + (↑k : Int).toNat * 2 + 0) 0)), .int .i64 (ŵ ((flat us).getD (0 + (↑i : Int).toNat * 2 + 1) 0 + (flat vs).getD (0 + (↑k : Int).toNat * 2 + 1) 0))]⟩, some ⟨.row 32 2, .ints (List.take (o.length * 2) (List.drop 0 (flat o)) ++ [ŵ ((flat us).getD (0 + (↑i : Int).toNat * 2 + 0) 0 + (flat vs).getD (0 + (↑k : Int).toNat * 2 + 0) 0), ŵ ((flat us).getD (0 + (↑i : Int).toNat * 2 + 1) 0 + (flat vs).getD (0 + (↑k : Int).toNat * 2 + 1) 0)])⟩]⟩))))))))))) (.leaf (.exit 2) ⟨(ß 0 (us.length) (us.length) :: ß 1 (vs.length) (vs.length) :: ω3 ß 4 (o.length) (o.length) :: .int .i64 ((↑i : Int)) :: ω41 []), [some ⟨.view, .ints (flat us)⟩, some ⟨.view, .ints (flat vs)⟩, some deadB, some deadB, some ⟨.row 32 2, .ints (flat o)⟩]⟩) := by kernel_rfl
set_option maxRecDepth 100000 in
theorem nl_smi : loopsOf c_smi = [] := by kernel_rfl
def inv_smi (us vs : List Pt) (i : Nat) : Nat × (List Pt) → Prop := fun (k, o) => k ≤ vs.length ∧ o.length + (vs.length - k) ≤ 100000
def me_smi (us vs : List Pt) (i : Nat) : Nat × (List Pt) → Nat := fun (k, o) => vs.length - k
def Round_smi (us vs : List Pt) (i : Nat) : Prop := ∀ xx : Nat × (List Pt), inv_smi us vs i xx → (bodyL Try.prog EGa 30 12 noL 2 c_smi k_smi 16 (s_smi us vs i xx)).ok (RoundEnd 4 (s_smi us vs i) (inv_smi us vs i) (me_smi us vs i) re_smi (rs_smi us vs i) xx) (fun _ _ => False)
def e_smi (s : St) (k : Ex → St → Tree) : Option Tree := match Nat.beq s.tmps.length 48, pickL s.tmps [0, 1, 5, 6, 7], s.mem with
  | true, [ß 0 n _, ß 1 m _, ß 3 z _, .int .i64 ii, .int .i64 k0], [some ⟨.view, .ints xs⟩, some ⟨.view, .ints ys⟩, some ⟨.dead, .vals []⟩, some ⟨.row 32 2, .ints zs⟩] => some (needs [k0 = 0, 0 ≤ ii, xs.length = n * 2, ys.length = m * 2, allV (ptsA n xs) = true, allV (ptsA m ys) = true, z + m ≤ 100000, ii < n, zs.length = z * 2, n ≤ 100000, m ≤ 100000] (k (.exit 2) ⟨(ß 0 n n :: ß 1 m m :: ω3 ß 4 (ptsA z zs ++ ro1 ((ptsA n xs).getD ii.toNat (0, 0)) (ptsA m ys)).length (ptsA z zs ++ ro1 ((ptsA n xs).getD ii.toNat (0, 0)) (ptsA m ys)).length :: .int .i64 ii :: ω41 []), [some ⟨.view, .ints xs⟩, some ⟨.view, .ints ys⟩, some ⟨.dead, .vals []⟩, some ⟨.dead, .vals []⟩, some ⟨.row 32 2, .ints (flat (ptsA z zs ++ ro1 ((ptsA n xs).getD ii.toNat (0, 0)) (ptsA m ys)))⟩]⟩))
  | _, _, _ => none
set_option maxRecDepth 100000 in
theorem round_smi (us vs : List Pt) (i : Nat) (ha : allV us = true) (hb : allV vs = true) (hi : i < us.length) (hn : us.length ≤ 100000) (hm : vs.length ≤ 100000) : Round_smi us vs i := by
  rintro ⟨k, o⟩ ⟨h1, h2⟩
  rw [tr_smi]
  simp only [Int.toNat_natCast, Nat.zero_add, Nat.add_zero, flat_get0, flat_get1, flat_length, List.drop_zero, flat_take, List.take_length]
  refine brT_ok.2 ⟨fun c => ?_, fun c => ?_⟩
  · have c := of_decide_eq_true c
    have hk : k < vs.length := by omega
    have a1 := allV_gt ha hi
    have a2 := allV_gt hb hk
    simp (disch := omega) only [wr]
    have ek : (k : Int) + 1 = ((k + 1 : Nat) : Int) := by omega
    rw [ek]
    have sn := flat_snoc o ((us.getD i (0, 0)).1 + (vs.getD k (0, 0)).1) ((us.getD i (0, 0)).2 + (vs.getD k (0, 0)).2)
    rw [sn]
    refine ⟨by omega, by omega, by omega, by omega, by omega, by omega, by omega, by omega, by omega, by omega, (k + 1, o ++ [adP (us.getD i (0, 0)) (vs.getD k (0, 0))]), [some 6], ⟨by omega, by simp; omega⟩, ?_, rfl, ?_, ?_⟩
    · show vs.length - (k + 1) < vs.length - k; omega
    · simp only [rs_smi, ro1_step (us.getD i (0, 0)) o hk]
    · repeat' (first | exact True.intro | exact rfl | exact wv_top _ _ | exact fun _ => rfl | (simp; done) | refine And.intro ?_ ?_)
  · have c := of_decide_eq_false c
    refine ⟨rfl, [some 4], ?_⟩
    simp only [rs_smi, ro1_end (us.getD i (0, 0)) (show vs.length ≤ k by omega), List.append_nil]
    repeat' (first | exact True.intro | exact rfl | exact wv_top _ _ | exact fun _ => rfl | (simp; done) | refine And.intro ?_ ?_)
set_option maxRecDepth 100000 in
theorem lg_smi : LoopE Try.prog e_smi c_smi := by
  intro s k t F H hlt ht
  unfold e_smi at hlt
  split at hlt
  rotate_left
  · cases hlt
  rename_i hlen hpick hmem
  obtain ⟨tmps, mem⟩ := s
  simp only at hlen hpick hmem
  subst hmem
  obtain rfl := Option.some.inj hlt
  obtain ⟨⟨rfl, h6, h1, h2, h3, h4, h5, h7, g1, h8, h9, _⟩, ht2⟩ := needs_ok ht
  clear ht hlt
  obtain ⟨us, rfl, rfl⟩ := even_flat h1
  obtain ⟨vs, rfl, rfl⟩ := even_flat h2
  obtain ⟨o, rfl, rfl⟩ := even_flat g1
  obtain ⟨i, rfl⟩ := Int.eq_ofNat_of_zero_le h6
  rw [ptsA_flat] at h3 h4
  simp only [ptsA_flat, Int.toNat_natCast] at ht2
  refine ⟨_, _, ht2, loop_run2 mixed EGa_ok (s_smi us vs i) (inv_smi us vs i) (me_smi us vs i) re_smi (rs_smi us vs i) k_smi (fun _ => rfl) (noLoops nl_smi) (round_smi us vs i h3 h4 (by omega) h8 h9) (x := (0, o)) ⟨Nat.zero_le _, by omega⟩ (π := [some 3]) rfl ?_⟩
  refine ⟨rfl, rfl, ?_, wvs_spread' [0, 1, 5, 6, 7] hlen rfl ?_⟩
  · repeat' (first | exact True.intro | exact rfl | exact wv_top _ _ | exact fun _ => rfl | assumption | exact Eq.symm (by assumption) | exact vI0 rfl | refine And.intro ?_ ?_)
  · rw [hpick]
    repeat' (first | exact True.intro | exact rfl | exact wv_top _ _ | exact fun _ => rfl | assumption | exact Eq.symm (by assumption) | exact vI0 rfl | refine And.intro ?_ ?_)
def ltSm : LT := fun j s k => match j with
  | 1 => e_smi s k
  | _ => none
noncomputable def c_smo : Code := ((loopsOf (codeOf Try.f39))[0]?).getD .skip
def k_smo : Ex → List Nat := keeps [0, 1, 5, 6] [(0, [5])] []
def s_smo (us vs : List Pt) : Nat × (List Pt) → St := fun (i, o) => ⟨(ß 0 us.length us.length :: ß 1 vs.length vs.length :: ω3 ß 3 o.length o.length :: .int .i64 i :: ω41 []), [some ⟨.view, .ints (flat us)⟩, some ⟨.view, .ints (flat vs)⟩, some ⟨.dead, .vals []⟩, some ⟨.row 32 2, .ints (flat o)⟩]⟩
def re_smo : Nat × (List Pt) → Ex := fun _ => .exit 0
def rs_smo (us vs : List Pt) : Nat × (List Pt) → St := fun (i, o) => ⟨(ω5 ß 3 (o ++ smL (us.drop i) vs).length (o ++ smL (us.drop i) vs).length :: ω42 []), [some ⟨.view, .ints (flat us)⟩, some ⟨.view, .ints (flat vs)⟩, some ⟨.dead, .vals []⟩, some ⟨.row 32 2, .ints (flat (o ++ smL (us.drop i) vs))⟩]⟩
set_option maxRecDepth 100000 in
theorem tr_smo (us vs : List Pt) (i : Nat) (o : List Pt) : bodyL Try.prog EGa 30 12 ltSm 1 c_smo k_smo 16 (s_smo us vs (i, o)) = brT (decide ((↑i : Int) < (↑us.length : Int))) (.need ((0 : Int) = (0 : Int)) (.need ((0 : Int) ≤ (↑i : Int)) (.need ((flat us).length = us.length * (2 : Nat)) (.need ((flat vs).length = vs.length * (2 : Nat)) (.need (allV (ptsA us.length (flat us)) = true) (.need (allV (ptsA vs.length (flat vs)) = true) (.need (o.length + vs.length ≤ (100000 : Nat)) (.need ((↑i : Int) < (↑us.length : Int)) (.need ((flat o).length = o.length * (2 : Nat)) (.need (us.length ≤ (100000 : Nat)) (.need (vs.length ≤ (100000 : Nat)) (.leaf .normal ⟨(ß 0 (us.length) (us.length) :: ß 1 (vs.length) (vs.length) :: ω3 ß 4 ((ptsA o.length (flat o) ++ ro1 ((ptsA us.length (flat us)).getD (↑i : Int).toNat (0, 0)) (ptsA vs.length (flat vs))).length) ((ptsA o.length (flat o) ++ ro1 ((ptsA us.length (flat us)).getD (↑i : Int).toNat (0, 0)) (ptsA vs.length (flat vs))).length) :: .int .i64 (ŵ ((↑i : Int) + 1)) :: ω41 []), [some ⟨.view, .ints (flat us)⟩, some ⟨.view, .ints (flat vs)⟩, some deadB, some deadB, some ⟨.row 32 2, .ints (flat (ptsA o.length (flat o) ++ ro1 ((ptsA us.length (flat us)).getD (↑i : Int).toNat (0, 0)) (ptsA vs.length (flat vs))))⟩]⟩)))))))))))) (.leaf (.exit 0) ⟨(ω5 ß 3 (o.length) (o.length) :: ω42 []), [some ⟨.view, .ints (flat us)⟩, some ⟨.view, .ints (flat vs)⟩, some deadB, some ⟨.row 32 2, .ints (flat o)⟩]⟩) := by kernel_rfl
def inv_smo (us vs : List Pt) : Nat × (List Pt) → Prop := fun (i, o) => i ≤ us.length ∧ o.length = i * vs.length
def me_smo (us vs : List Pt) : Nat × (List Pt) → Nat := fun (i, o) => us.length - i
def Round_smo (us vs : List Pt) : Prop := ∀ xx : Nat × (List Pt), inv_smo us vs xx → (bodyL Try.prog EGa 30 12 ltSm 1 c_smo k_smo 16 (s_smo us vs xx)).ok (RoundEnd 3 (s_smo us vs) (inv_smo us vs) (me_smo us vs) re_smo (rs_smo us vs) xx) (fun _ _ => False)
def e_smo (s : St) (k : Ex → St → Tree) : Option Tree := match Nat.beq s.tmps.length 48, pickL s.tmps [0, 1, 5, 6], s.mem with
  | true, [ß 0 n _, ß 1 m _, ß 2 z _, .int .i64 i0], [some ⟨.view, .ints xs⟩, some ⟨.view, .ints ys⟩, some ⟨.row 32 2, .vals []⟩] => some (needs [z = 0, i0 = 0, xs.length = n * 2, ys.length = m * 2, allV (ptsA n xs) = true, allV (ptsA m ys) = true, n ≤ 100, m ≤ 100] (k (.exit 0) ⟨(ω5 ß 3 (smL (ptsA n xs) (ptsA m ys)).length (smL (ptsA n xs) (ptsA m ys)).length :: ω42 []), [some ⟨.view, .ints xs⟩, some ⟨.view, .ints ys⟩, some ⟨.dead, .vals []⟩, some ⟨.row 32 2, .ints (flat (smL (ptsA n xs) (ptsA m ys)))⟩]⟩))
  | _, _, _ => none
set_option maxRecDepth 100000 in
theorem in_smo : loopsOf c_smo = [c_smi] := by kernel_rfl
theorem ltSm_good : LoopsGood Try.prog ltSm 1 c_smo := by
  intro i d hd s k t F H hlt ht
  rw [in_smo] at hd
  cases i with
  | zero =>
    obtain rfl : c_smi = d := by simpa using hd
    exact lg_smi s k t F H hlt ht
  | succ i => simp at hd
set_option maxRecDepth 100000 in
theorem round_smo (us vs : List Pt) (ha : allV us = true) (hb : allV vs = true) (hn : us.length ≤ 100) (hm : vs.length ≤ 100) : Round_smo us vs := by
  rintro ⟨i, o⟩ ⟨h1, h2⟩
  rw [tr_smo]
  have hb1 : i * vs.length ≤ 100 * 100 := Nat.mul_le_mul (by omega) hm
  simp only [Int.toNat_natCast, ptsA_flat, flat_length]
  refine brT_ok.2 ⟨fun c => ?_, fun c => ?_⟩
  · have c := of_decide_eq_true c
    have hi : i < us.length := by omega
    rw [wsucc hi (by omega)]
    refine ⟨by first | exact True.intro | omega, by first | exact True.intro | omega, by first | exact True.intro | rfl | omega, by first | exact True.intro | rfl | omega, ha, hb, by omega, by omega, by first | exact True.intro | rfl | omega, by omega, by omega, (i + 1, o ++ ro1 (us.getD i (0, 0)) vs), [some 4], ⟨by omega, by rw [List.length_append, ro1_len, h2, Nat.add_mul]; omega⟩, ?_, rfl, ?_, ?_⟩
    · show us.length - (i + 1) < us.length - i; omega
    · simp only [rs_smo, smL_step vs o hi]
    · repeat' (first | exact True.intro | exact rfl | exact wv_top _ _ | exact fun _ => rfl | (simp; done) | refine And.intro ?_ ?_)
  · have c := of_decide_eq_false c
    refine ⟨rfl, [some 3], ?_⟩
    simp only [rs_smo, smL_end vs (show us.length ≤ i by omega), List.append_nil]
    repeat' (first | exact True.intro | exact rfl | exact wv_top _ _ | exact fun _ => rfl | (simp; done) | refine And.intro ?_ ?_)
set_option maxRecDepth 100000 in
theorem lg_smo : LoopE Try.prog e_smo c_smo := by
  intro s k t F H hlt ht
  unfold e_smo at hlt
  split at hlt
  rotate_left
  · cases hlt
  rename_i hlen hpick hmem
  obtain ⟨tmps, mem⟩ := s
  simp only at hlen hpick hmem
  subst hmem
  obtain rfl := Option.some.inj hlt
  obtain ⟨⟨rfl, rfl, h1, h2, h3, h4, h5, h6, _⟩, ht2⟩ := needs_ok ht
  clear ht hlt
  obtain ⟨us, rfl, rfl⟩ := even_flat h1
  obtain ⟨vs, rfl, rfl⟩ := even_flat h2
  rw [ptsA_flat] at h3 h4
  simp only [ptsA_flat] at ht2
  refine ⟨_, _, ht2, loop_run2 mixed EGa_ok (s_smo us vs) (inv_smo us vs) (me_smo us vs) re_smo (rs_smo us vs) k_smo (fun _ => rfl) ltSm_good (round_smo us vs h3 h4 h5 h6) (x := (0, [])) ⟨Nat.zero_le _, by simp⟩ (π := [some 2]) rfl ?_⟩
  refine ⟨rfl, rfl, ?_, wvs_spread' [0, 1, 5, 6] hlen rfl ?_⟩
  · repeat' (first | exact True.intro | exact rfl | exact wv_top _ _ | exact fun _ => rfl | assumption | exact Eq.symm (by assumption) | exact vI0 rfl | refine And.intro ?_ ?_)
  · rw [hpick]
    repeat' (first | exact True.intro | exact rfl | exact wv_top _ _ | exact fun _ => rfl | assumption | exact Eq.symm (by assumption) | exact vI0 rfl | refine And.intro ?_ ?_)
def RAd : TabR := fun f ds => match f, ds with
  | 35, [.row m (.ints xs), .row n (.ints ys)] => some (rowP (addL (ptsA m xs) (ptsA n ys)), blkP (addL (ptsA m xs) (ptsA n ys)), [m * 2 ≤ xs.length, n * 2 ≤ ys.length, allV (ptsA m xs) = true, allV (ptsA n ys) = true, m ≤ 100 ∧ 0 < m, n ≤ 100 ∧ 0 < n])
  | f, ds => RHv f ds
theorem RAd_ok : TabROk Try.prog RAd := by
  intro f ds v b C h hC
  unfold RAd at h
  split at h
  · obtain ⟨rfl, rfl, rfl⟩ : _ ∧ _ ∧ _ := by simpa using h
    obtain ⟨_, h2⟩ := ptsA_spec hC.1
    obtain ⟨_, h3⟩ := ptsA_spec hC.2.1
    exact resR_two hC.1 hC.2.1 (resR_iAh hC.2.2.1 hC.2.2.2.1 (by rw [h2]; exact hC.2.2.2.2.1.1) (by rw [h3]; exact hC.2.2.2.2.2.1.1) (by rw [h2]; exact hC.2.2.2.2.1.2) (by rw [h3]; exact hC.2.2.2.2.2.1.2))
  · exact RHv_ok _ _ _ _ _ h hC
def EMs : Env := mkE T3 RAd (fun _ => noL)
theorem EMs_ok : EnvOk Try.prog EMs := mkEOk T3_ok RAd_ok (fun _ _ _ => noL_good)
set_option maxRecDepth 100000 in
theorem tr_iMs (us vs : List Pt) : bodyX Try.prog EMs 30 12 14 [.row us.length (.ints (flat us)), .row vs.length (.ints (flat vs))] = .need (us.length * (2 : Nat) ≤ (List.drop 0 (flat us)).length) (.need (us.length ≤ (1000000000 : Nat)) (.need (vs.length * (2 : Nat) ≤ (List.drop 0 (flat vs)).length) (.need (vs.length ≤ (1000000000 : Nat)) (brT ((↑(hulV (ptsA us.length (List.drop 0 (flat us)))).length : Int) == 0) (.fin (.tuple #[.slice none (0) (0), .bool (false)]) [some ⟨.view, .ints (flat us)⟩, some ⟨.view, .ints (flat vs)⟩, some ⟨.row 32 2, .ints (flat (hulV (ptsA us.length (List.drop 0 (flat us)))))⟩, some ⟨.row 32 2, .ints (flat (hulV (ptsA vs.length (List.drop 0 (flat vs)))))⟩]) (brT ((↑(hulV (ptsA vs.length (List.drop 0 (flat vs)))).length : Int) == 0) (.fin (.tuple #[.slice none (0) (0), .bool (false)]) [some ⟨.view, .ints (flat us)⟩, some ⟨.view, .ints (flat vs)⟩, some ⟨.row 32 2, .ints (flat (hulV (ptsA us.length (List.drop 0 (flat us)))))⟩, some ⟨.row 32 2, .ints (flat (hulV (ptsA vs.length (List.drop 0 (flat vs)))))⟩]) (.need ((hulV (ptsA us.length (List.drop 0 (flat us)))).length * (2 : Nat) ≤ (List.drop 0 (flat (hulV (ptsA us.length (List.drop 0 (flat us)))))).length) (.need ((hulV (ptsA vs.length (List.drop 0 (flat vs)))).length * (2 : Nat) ≤ (List.drop 0 (flat (hulV (ptsA vs.length (List.drop 0 (flat vs)))))).length) (.need (allV (ptsA (hulV (ptsA us.length (List.drop 0 (flat us)))).length (List.drop 0 (flat (hulV (ptsA us.length (List.drop 0 (flat us))))))) = true) (.need (allV (ptsA (hulV (ptsA vs.length (List.drop 0 (flat vs)))).length (List.drop 0 (flat (hulV (ptsA vs.length (List.drop 0 (flat vs))))))) = true) (.need ((hulV (ptsA us.length (List.drop 0 (flat us)))).length ≤ (100 : Nat) ∧ (0 : Nat) < (hulV (ptsA us.length (List.drop 0 (flat us)))).length) (.need ((hulV (ptsA vs.length (List.drop 0 (flat vs)))).length ≤ (100 : Nat) ∧ (0 : Nat) < (hulV (ptsA vs.length (List.drop 0 (flat vs)))).length) (.need ((addL (ptsA (hulV (ptsA us.length (List.drop 0 (flat us)))).length (List.drop 0 (flat (hulV (ptsA us.length (List.drop 0 (flat us))))))) (ptsA (hulV (ptsA vs.length (List.drop 0 (flat vs)))).length (List.drop 0 (flat (hulV (ptsA vs.length (List.drop 0 (flat vs)))))))).length * (2 : Nat) ≤ (List.drop 0 (flat (addL (ptsA (hulV (ptsA us.length (List.drop 0 (flat us)))).length (List.drop 0 (flat (hulV (ptsA us.length (List.drop 0 (flat us))))))) (ptsA (hulV (ptsA vs.length (List.drop 0 (flat vs)))).length (List.drop 0 (flat (hulV (ptsA vs.length (List.drop 0 (flat vs)))))))))).length) (.need ((addL (ptsA (hulV (ptsA us.length (List.drop 0 (flat us)))).length (List.drop 0 (flat (hulV (ptsA us.length (List.drop 0 (flat us))))))) (ptsA (hulV (ptsA vs.length (List.drop 0 (flat vs)))).length (List.drop 0 (flat (hulV (ptsA vs.length (List.drop 0 (flat vs)))))))).length ≤ (1000000000 : Nat)) (brT (!allV (ptsA (addL (ptsA (hulV (ptsA us.length (List.drop 0 (flat us)))).length (List.drop 0 (flat (hulV (ptsA us.length (List.drop 0 (flat us))))))) (ptsA (hulV (ptsA vs.length (List.drop 0 (flat vs)))).length (List.drop 0 (flat (hulV (ptsA vs.length (List.drop 0 (flat vs)))))))).length (List.drop 0 (flat (addL (ptsA (hulV (ptsA us.length (List.drop 0 (flat us)))).length (List.drop 0 (flat (hulV (ptsA us.length (List.drop 0 (flat us))))))) (ptsA (hulV (ptsA vs.length (List.drop 0 (flat vs)))).length (List.drop 0 (flat (hulV (ptsA vs.length (List.drop 0 (flat vs)))))))))))) (.fin (.tuple #[.slice none (0) (0), .bool (false)]) [some ⟨.view, .ints (flat us)⟩, some ⟨.view, .ints (flat vs)⟩, some ⟨.row 32 2, .ints (flat (hulV (ptsA us.length (List.drop 0 (flat us)))))⟩, some ⟨.row 32 2, .ints (flat (hulV (ptsA vs.length (List.drop 0 (flat vs)))))⟩, some ⟨.row 32 2, .ints (flat (addL (ptsA (hulV (ptsA us.length (List.drop 0 (flat us)))).length (List.drop 0 (flat (hulV (ptsA us.length (List.drop 0 (flat us))))))) (ptsA (hulV (ptsA vs.length (List.drop 0 (flat vs)))).length (List.drop 0 (flat (hulV (ptsA vs.length (List.drop 0 (flat vs)))))))))⟩]) (.fin (.tuple #[ß 4 ((addL (ptsA (hulV (ptsA us.length (List.drop 0 (flat us)))).length (List.drop 0 (flat (hulV (ptsA us.length (List.drop 0 (flat us))))))) (ptsA (hulV (ptsA vs.length (List.drop 0 (flat vs)))).length (List.drop 0 (flat (hulV (ptsA vs.length (List.drop 0 (flat vs)))))))).length) ((addL (ptsA (hulV (ptsA us.length (List.drop 0 (flat us)))).length (List.drop 0 (flat (hulV (ptsA us.length (List.drop 0 (flat us))))))) (ptsA (hulV (ptsA vs.length (List.drop 0 (flat vs)))).length (List.drop 0 (flat (hulV (ptsA vs.length (List.drop 0 (flat vs)))))))).length), .bool (true)]) [some ⟨.view, .ints (flat us)⟩, some ⟨.view, .ints (flat vs)⟩, some ⟨.row 32 2, .ints (flat (hulV (ptsA us.length (List.drop 0 (flat us)))))⟩, some ⟨.row 32 2, .ints (flat (hulV (ptsA vs.length (List.drop 0 (flat vs)))))⟩, some ⟨.row 32 2, .ints (flat (addL (ptsA (hulV (ptsA us.length (List.drop 0 (flat us)))).length (List.drop 0 (flat (hulV (ptsA us.length (List.drop 0 (flat us))))))) (ptsA (hulV (ptsA vs.length (List.drop 0 (flat vs)))).length (List.drop 0 (flat (hulV (ptsA vs.length (List.drop 0 (flat vs)))))))))⟩]))))))))))))))) := by kernel_rfl
theorem Lr_smo {fn : Func} (hf : Try.prog.funcs[39]? = some fn) : LoopsGood Try.prog (lt1 e_smo) 0 (codeOf fn) := by
  obtain rfl := fn_is Try.func39 hf
  exact lt1_good lg_smo
def LSmk : FuncId → LT := fun f => match f with
  | 39 => lt1 e_smo
  | _ => noL
def ESmk : Env := mkE B0 (fun _ _ => none) LSmk
theorem ESmk_ok : EnvOk Try.prog ESmk := mkEOk B0_ok (fun _ _ _ _ _ h => (by cases h)) (by
  intro f fn hf
  unfold LSmk
  split
  all_goals first | with_reducible exact Lr_smo hf | exact noL_good)
set_option maxRecDepth 100000 in
theorem tr_sSm (us vs : List Pt) : bodyX Try.prog ESmk 30 12 39 [.row us.length (.ints (flat us)), .row vs.length (.ints (flat vs))] = .need ((0 : Nat) = (0 : Nat)) (.need ((0 : Int) = (0 : Int)) (.need ((flat us).length = us.length * (2 : Nat)) (.need ((flat vs).length = vs.length * (2 : Nat)) (.need (allV (ptsA us.length (flat us)) = true) (.need (allV (ptsA vs.length (flat vs)) = true) (.need (us.length ≤ (100 : Nat)) (.need (vs.length ≤ (100 : Nat)) (.fin (ß 3 ((smL (ptsA us.length (flat us)) (ptsA vs.length (flat vs))).length) ((smL (ptsA us.length (flat us)) (ptsA vs.length (flat vs))).length)) [some ⟨.view, .ints (flat us)⟩, some ⟨.view, .ints (flat vs)⟩, some deadB, some ⟨.row 32 2, .ints (flat (smL (ptsA us.length (flat us)) (ptsA vs.length (flat vs))))⟩])))))))) := by kernel_rfl
theorem resR_sSm {us vs : List Pt} (ha : allV us = true) (hb : allV vs = true) (hn : us.length ≤ 100) (hm : vs.length ≤ 100) : ResR Try.prog 39 [.row us.length (.ints (flat us)), .row vs.length (.ints (flat vs))] (rowP (smL us vs)) (blkP (smL us vs)) := by
  refine bodyX_resR mixed ESmk_ok (m := 30) (n := 12) rfl ?_
  rw [tr_sSm]
  simp only [ptsA_flat]
  have fu := flat_length us
  have fv := flat_length vs
  repeat' (first | exact True.intro | assumption | omega | exact rfl | exact ⟨some 3, ⟨rfl, rfl, rfl⟩, rfl, rfl, rfl⟩ | refine And.intro ?_ ?_)
def RSmk : TabR := fun f ds => match f, ds with
  | 39, [.row m (.ints xs), .row n (.ints ys)] => some (rowP (smL (ptsA m xs) (ptsA n ys)), blkP (smL (ptsA m xs) (ptsA n ys)), [m * 2 ≤ xs.length, n * 2 ≤ ys.length, allV (ptsA m xs) = true, allV (ptsA n ys) = true, m ≤ 100, n ≤ 100])
  | 38, [.row m (.ints xs)] => some (rowP (hulL (srtL (ptsA m xs))), blkP (hulL (srtL (ptsA m xs))), [m * 2 ≤ xs.length, allW (ptsA m xs) = true, m ≤ 1000])
  | _, _ => none
theorem RSmk_ok : TabROk Try.prog RSmk := by
  intro f ds v b C h hC
  unfold RSmk at h
  split at h
  · obtain ⟨rfl, rfl, rfl⟩ : _ ∧ _ ∧ _ := by simpa using h
    obtain ⟨_, h2⟩ := ptsA_spec hC.1
    obtain ⟨_, h3⟩ := ptsA_spec hC.2.1
    exact resR_two hC.1 hC.2.1 (resR_sSm hC.2.2.1 hC.2.2.2.1 (by rw [h2]; exact hC.2.2.2.2.1) (by rw [h3]; exact hC.2.2.2.2.2.1))
  · obtain ⟨rfl, rfl, rfl⟩ : _ ∧ _ ∧ _ := by simpa using h
    obtain ⟨_, h2⟩ := ptsA_spec hC.1
    have h1 := resR_pts1 (pre := []) (post := []) hC.1 (resR_wHu hC.2.1 (by rw [h2]; exact hC.2.2.1))
    simp only [List.nil_append] at h1
    exact h1
  · cases h
def EMz : Env := mkE T3 RSmk (fun _ => noL)
theorem EMz_ok : EnvOk Try.prog EMz := mkEOk T3_ok RSmk_ok (fun _ _ _ => noL_good)
noncomputable def c_mkv : Code := ((loopsOf (codeOf Try.f15))[0]?).getD .skip
def k_mkv : Ex → List Nat := keeps [6, 7] [(0, [6])] [4, 5]
def s_mkv (ps : List Pt) : Nat → St := fun i => ⟨(ω6 ß 5 ps.length ps.length :: .int .i64 i :: ω37 []), [some ⟨.dead, .vals []⟩, some ⟨.dead, .vals []⟩, some ⟨.dead, .vals []⟩, some ⟨.dead, .vals []⟩, some ⟨.dead, .vals []⟩, some ⟨.row 32 2, .ints (flat ps)⟩]⟩
def re_mkv (ps : List Pt) : Nat → Ex := fun i => bif allV ps then .exit 0 else .ret
def rs_mkv (ps : List Pt) : Nat → St := fun i => bif allV ps then ⟨(ω6 ß 5 ps.length ps.length :: ω38 []), [some ⟨.dead, .vals []⟩, some ⟨.dead, .vals []⟩, some ⟨.dead, .vals []⟩, some ⟨.dead, .vals []⟩, some ⟨.dead, .vals []⟩, some ⟨.row 32 2, .ints (flat ps)⟩]⟩ else ⟨(ω4 .slice none 0 0 :: .bool false :: ω39 []), [some ⟨.dead, .vals []⟩, some ⟨.dead, .vals []⟩, some ⟨.dead, .vals []⟩, some ⟨.dead, .vals []⟩, some ⟨.dead, .vals []⟩, some ⟨.row 32 2, .ints (flat ps)⟩]⟩
set_option maxRecDepth 100000 in
theorem tr_mkv (ps : List Pt) (i : Nat) : bodyL Try.prog EMz 30 12 noL 1 c_mkv k_mkv 16 (s_mkv ps i) = brT (decide ((↑i : Int) < (↑ps.length : Int))) (.need ((0 : Int) ≤ (↑i : Int) ∧ (↑i : Int) < (↑ps.length : Int)) (.need ((0 : Nat) + (↑i : Int).toNat * (2 : Nat) + (2 : Nat) ≤ (flat ps).length) (brT (!ptB ((flat ps).getD (0 + (↑i : Int).toNat * 2) 0) ((flat ps).getD (0 + (↑i : Int).toNat * 2 + 1) 0)) (.leaf .ret ⟨(ω4 .slice none (0) (0) :: .bool (false) :: ω39 []), [some deadB, some deadB, some deadB, some deadB, some deadB, some ⟨.row 32 2, .ints (flat ps)⟩]⟩) (.leaf .normal ⟨(ω6 ß 5 (ps.length) (ps.length) :: .int .i64 (ŵ ((↑i : Int) + 1)) :: ω37 []), [some deadB, some deadB, some deadB, some deadB, some deadB, some ⟨.row 32 2, .ints (flat ps)⟩]⟩)))) (.leaf (.exit 0) ⟨(ω6 ß 5 (ps.length) (ps.length) :: ω38 []), [some deadB, some deadB, some deadB, some deadB, some deadB, some ⟨.row 32 2, .ints (flat ps)⟩]⟩) := by kernel_rfl
set_option maxRecDepth 100000 in
theorem nl_mkv : loopsOf c_mkv = [] := by kernel_rfl
def inv_mkv (ps : List Pt) : Nat → Prop := fun i => i ≤ ps.length ∧ allV (ps.drop i) = allV ps
def me_mkv (ps : List Pt) : Nat → Nat := fun i => ps.length - i
def Round_mkv (ps : List Pt) : Prop := ∀ xx : Nat, inv_mkv ps xx → (bodyL Try.prog EMz 30 12 noL 1 c_mkv k_mkv 16 (s_mkv ps xx)).ok (RoundEnd 6 (s_mkv ps) (inv_mkv ps) (me_mkv ps) (re_mkv ps) (rs_mkv ps) xx) (fun _ _ => False)
def e_mkv (s : St) (k : Ex → St → Tree) : Option Tree := match Nat.beq s.tmps.length 45, pickL s.tmps [6, 7], s.mem with
  | true, [ß 5 n _, .int .i64 i0], [_, _, _, _, _, some ⟨.row 32 2, .ints xs⟩] => some (needs [i0 = 0, xs.length = n * 2, n ≤ 1000] (brT (allV (ptsA n xs)) (k (.exit 0) ⟨(ω6 ß 5 n n :: ω38 []), [some ⟨.dead, .vals []⟩, some ⟨.dead, .vals []⟩, some ⟨.dead, .vals []⟩, some ⟨.dead, .vals []⟩, some ⟨.dead, .vals []⟩, some ⟨.row 32 2, .ints xs⟩]⟩) (k .ret ⟨(ω4 .slice none 0 0 :: .bool false :: ω39 []), [some ⟨.dead, .vals []⟩, some ⟨.dead, .vals []⟩, some ⟨.dead, .vals []⟩, some ⟨.dead, .vals []⟩, some ⟨.dead, .vals []⟩, some ⟨.row 32 2, .ints xs⟩]⟩)))
  | _, _, _ => none
theorem allV_consK (p : Pt) (l : List Pt) : allV (p :: l) = (ptB p.1 p.2 && allV l) := rfl
set_option maxRecDepth 100000 in
theorem round_mkv (ps : List Pt) (h : ps.length ≤ 1000) : Round_mkv ps := by
  rintro i ⟨h1, h2⟩
  rw [tr_mkv]
  simp only [Int.toNat_natCast, Nat.zero_add, flat_get0, flat_get1, flat_length]
  refine brT_ok.2 ⟨fun c => ?_, fun c => ?_⟩
  · have c := of_decide_eq_true c
    have hi : i < ps.length := by omega
    rw [drop_cons2 hi, allV_consK] at h2
    rw [wsucc hi (by omega)]
    refine ⟨by omega, by omega, brT_ok.2 ⟨fun q => ?_, fun q => ?_⟩⟩
    · have q : ptB (ps.getD i (0, 0)).1 (ps.getD i (0, 0)).2 = false := by simpa using q
      rw [q, Bool.false_and] at h2
      refine ⟨by simp only [re_mkv, ← h2, cond_false], [], ?_⟩
      simp only [rs_mkv, ← h2, cond_false]
      repeat' (first | exact True.intro | exact rfl | exact wv_top _ _ | exact fun _ => rfl | (simp; done) | refine And.intro ?_ ?_)
    · have q : ptB (ps.getD i (0, 0)).1 (ps.getD i (0, 0)).2 = true := by simpa using q
      rw [q, Bool.true_and] at h2
      refine ⟨i + 1, [], ⟨by omega, h2⟩, ?_, rfl, rfl, ?_⟩
      · show ps.length - (i + 1) < ps.length - i; omega
      · repeat' (first | exact True.intro | exact rfl | exact wv_top _ _ | exact fun _ => rfl | (simp; done) | refine And.intro ?_ ?_)
  · have c := of_decide_eq_false c
    rw [List.drop_of_length_le (by omega)] at h2
    have h2 : allV ps = true := h2.symm
    refine ⟨by simp only [re_mkv, h2, cond_true], [], ?_⟩
    simp only [rs_mkv, h2, cond_true]
    repeat' (first | exact True.intro | exact rfl | exact wv_top _ _ | exact fun _ => rfl | (simp; done) | refine And.intro ?_ ?_)
set_option maxRecDepth 100000 in
theorem lg_mkv : LoopE Try.prog e_mkv c_mkv := by
  intro s k t F H hlt ht
  unfold e_mkv at hlt
  split at hlt
  rotate_left
  · cases hlt
  rename_i hlen hpick hmem
  obtain ⟨tmps, mem⟩ := s
  simp only at hlen hpick hmem
  subst hmem
  obtain rfl := Option.some.inj hlt
  obtain ⟨⟨rfl, h1, h3, _⟩, ht2⟩ := needs_ok ht
  clear ht hlt
  obtain ⟨ps, rfl, rfl⟩ := even_flat h1
  rw [ptsA_flat] at ht2
  refine ⟨_, _, pick2k ht2, loop_run2 mixed EMz_ok (s_mkv ps) (inv_mkv ps) (me_mkv ps) (re_mkv ps) (rs_mkv ps) k_mkv (fun _ => rfl) (noLoops nl_mkv) (round_mkv ps h3) (x := 0) ⟨Nat.zero_le _, rfl⟩ (π := []) rfl ?_⟩
  refine ⟨rfl, rfl, ?_, wvs_spread' [6, 7] hlen rfl ?_⟩
  · repeat' (first | exact True.intro | exact rfl | exact wv_top _ _ | exact fun _ => rfl | assumption | exact Eq.symm (by assumption) | exact vI0 rfl | refine And.intro ?_ ?_)
  · rw [hpick]
    repeat' (first | exact True.intro | exact rfl | exact wv_top _ _ | exact fun _ => rfl | assumption | exact Eq.symm (by assumption) | exact vI0 rfl | refine And.intro ?_ ?_)
theorem Lr_mkv {fn : Func} (hf : Try.prog.funcs[15]? = some fn) : LoopsGood Try.prog (lt1 e_mkv) 0 (codeOf fn) := by
  obtain rfl := fn_is Try.func15 hf
  exact lt1_good lg_mkv
def LMv : FuncId → LT := fun f => match f with
  | 15 => lt1 e_mkv
  | _ => noL
def EMv : Env := mkE T3 RSmk LMv
theorem EMv_ok : EnvOk Try.prog EMv := mkEOk T3_ok RSmk_ok (by
  intro f fn hf
  unfold LMv
  split
  all_goals first | with_reducible exact Lr_mkv hf | exact noL_good)
abbrev zsMs_0 (us : List Pt) (vs : List Pt) := (smL (ptsA (hulL (srtL (ptsA us.length (List.drop 0 (flat us))))).length (List.drop 0 (flat (hulL (srtL (ptsA us.length (List.drop 0 (flat us)))))))) (ptsA (hulL (srtL (ptsA vs.length (List.drop 0 (flat vs))))).length (List.drop 0 (flat (hulL (srtL (ptsA vs.length (List.drop 0 (flat vs)))))))))
abbrev zsMs_1 (us : List Pt) (vs : List Pt) := (hulL (srtL (ptsA (smL (ptsA (hulL (srtL (ptsA us.length (List.drop 0 (flat us))))).length (List.drop 0 (flat (hulL (srtL (ptsA us.length (List.drop 0 (flat us)))))))) (ptsA (hulL (srtL (ptsA vs.length (List.drop 0 (flat vs))))).length (List.drop 0 (flat (hulL (srtL (ptsA vs.length (List.drop 0 (flat vs))))))))).length (List.drop 0 (flat (smL (ptsA (hulL (srtL (ptsA us.length (List.drop 0 (flat us))))).length (List.drop 0 (flat (hulL (srtL (ptsA us.length (List.drop 0 (flat us)))))))) (ptsA (hulL (srtL (ptsA vs.length (List.drop 0 (flat vs))))).length (List.drop 0 (flat (hulL (srtL (ptsA vs.length (List.drop 0 (flat vs))))))))))))))
set_option maxRecDepth 100000 in
theorem tr_sMs (us vs : List Pt) : bodyX Try.prog EMv 30 12 15 [.row us.length (.ints (flat us)), .row vs.length (.ints (flat vs))] = .need (us.length * (2 : Nat) ≤ (List.drop 0 (flat us)).length) (.need (us.length ≤ (1000000000 : Nat)) (brT (!okL (ptsA us.length (List.drop 0 (flat us)))) (.fin (.tuple #[.slice none (0) (0), .bool (false)]) [some ⟨.view, .ints (flat us)⟩, some ⟨.view, .ints (flat vs)⟩]) (.need (vs.length * (2 : Nat) ≤ (List.drop 0 (flat vs)).length) (.need (vs.length ≤ (1000000000 : Nat)) (brT (!okL (ptsA vs.length (List.drop 0 (flat vs)))) (.fin (.tuple #[.slice none (0) (0), .bool (false)]) [some ⟨.view, .ints (flat us)⟩, some ⟨.view, .ints (flat vs)⟩]) (brT ((↑us.length : Int) == 0) (.fin (.tuple #[.slice none (0) (0), .bool (false)]) [some ⟨.view, .ints (flat us)⟩, some ⟨.view, .ints (flat vs)⟩]) (brT ((↑vs.length : Int) == 0) (.fin (.tuple #[.slice none (0) (0), .bool (false)]) [some ⟨.view, .ints (flat us)⟩, some ⟨.view, .ints (flat vs)⟩]) (.need (us.length * (2 : Nat) ≤ (List.drop 0 (flat us)).length) (.need (allW (ptsA us.length (List.drop 0 (flat us))) = true) (.need (us.length ≤ (1000 : Nat)) (.need (vs.length * (2 : Nat) ≤ (List.drop 0 (flat vs)).length) (.need (allW (ptsA vs.length (List.drop 0 (flat vs))) = true) (.need (vs.length ≤ (1000 : Nat)) (.need ((hulL (srtL (ptsA us.length (List.drop 0 (flat us))))).length * (2 : Nat) ≤ (List.drop 0 (flat (hulL (srtL (ptsA us.length (List.drop 0 (flat us))))))).length) (.need ((hulL (srtL (ptsA vs.length (List.drop 0 (flat vs))))).length * (2 : Nat) ≤ (List.drop 0 (flat (hulL (srtL (ptsA vs.length (List.drop 0 (flat vs))))))).length) (.need (allV (ptsA (hulL (srtL (ptsA us.length (List.drop 0 (flat us))))).length (List.drop 0 (flat (hulL (srtL (ptsA us.length (List.drop 0 (flat us)))))))) = true) (.need (allV (ptsA (hulL (srtL (ptsA vs.length (List.drop 0 (flat vs))))).length (List.drop 0 (flat (hulL (srtL (ptsA vs.length (List.drop 0 (flat vs)))))))) = true) (.need ((hulL (srtL (ptsA us.length (List.drop 0 (flat us))))).length ≤ (100 : Nat)) (.need ((hulL (srtL (ptsA vs.length (List.drop 0 (flat vs))))).length ≤ (100 : Nat)) (.need ((zsMs_0 us vs).length * (2 : Nat) ≤ (List.drop 0 (flat (zsMs_0 us vs))).length) (.need (allW (ptsA (zsMs_0 us vs).length (List.drop 0 (flat (zsMs_0 us vs)))) = true) (.need ((zsMs_0 us vs).length ≤ (1000 : Nat)) (.need ((0 : Int) = (0 : Int)) (.need ((flat (hulL (srtL (ptsA (zsMs_0 us vs).length (List.drop 0 (flat (zsMs_0 us vs))))))).length = (hulL (srtL (ptsA (zsMs_0 us vs).length (List.drop 0 (flat (zsMs_0 us vs)))))).length * (2 : Nat)) (.need ((hulL (srtL (ptsA (zsMs_0 us vs).length (List.drop 0 (flat (zsMs_0 us vs)))))).length ≤ (1000 : Nat)) (brT (allV (ptsA (zsMs_1 us vs).length (flat (zsMs_1 us vs)))) (.fin (.tuple #[ß 5 ((zsMs_1 us vs).length) ((zsMs_1 us vs).length), .bool (true)]) [some deadB, some deadB, some deadB, some deadB, some deadB, some ⟨.row 32 2, .ints (flat (zsMs_1 us vs))⟩]) (.fin (.tuple #[.slice none (0) (0), .bool (false)]) [some deadB, some deadB, some deadB, some deadB, some deadB, some ⟨.row 32 2, .ints (flat (zsMs_1 us vs))⟩]))))))))))))))))))))))))))) := by kernel_rfl
abbrev rowBK (b : Bool) (ps : List Pt) : Value := .tuple #[ß 0 ps.length ps.length, .bool b]
def mkwH (us vs : List Pt) : List Pt := hulL (srtL (smL (hulV us) (hulV vs)))
def mkwB (us vs : List Pt) : Bool := okL us && okL vs && decide (0 < us.length) && decide (0 < vs.length) && allV (mkwH us vs)
def mkwV (us vs : List Pt) : List Pt := bif mkwB us vs then mkwH us vs else []
theorem hulV_leK (us : List Pt) : (hulV us).length ≤ 20 := by
  rcases ho : okL us with _ | _
  · rw [hulV_no ho]; exact Nat.zero_le _
  · rw [hulV_yes ho]
    have := hul_le (srtL_asc us)
    have := srtL_le us
    have := (okL_20 ho).2
    omega
theorem hulV_all (us : List Pt) : allV (hulV us) = true := allV_hul (spV_all us)
theorem smL_le (us vs : List Pt) : (smL (hulV us) (hulV vs)).length ≤ 400 := by
  rw [smL_len]
  exact Nat.mul_le_mul (hulV_leK us) (hulV_leK vs)
theorem mkwH_le (us vs : List Pt) : (mkwH us vs).length ≤ 400 := by
  have := hul_le (srtL_asc (smL (hulV us) (hulV vs)))
  have := srtL_le (smL (hulV us) (hulV vs))
  have := smL_le us vs
  unfold mkwH
  omega
theorem allW_of {ps : List Pt} (h : allV ps = true) : allW ps = true := List.all_eq_true.2 fun z hz => by
  have := ptB_true (List.all_eq_true.1 h z hz)
  exact pt2_iff.2 (by omega)
theorem allW_sm {us vs : List Pt} (ha : allV us = true) (hb : allV vs = true) : allW (smL us vs) = true := List.all_eq_true.2 fun z hz => by
  obtain ⟨p, q, hp, hq, rfl⟩ := mem_smL.1 hz
  have := ptB_true (List.all_eq_true.1 ha p hp)
  have := ptB_true (List.all_eq_true.1 hb q hq)
  unfold adP
  exact pt2_iff.2 (by simp only; omega)
theorem srtL_neK {us : List Pt} (h : 0 < us.length) : srtL us ≠ [] := fun e => by
  match us, h, e with
  | p :: t, _, e =>
    have := (srtL_mem (p :: t) p).2 (by simp)
    rw [e] at this
    cases this
theorem hulV_pos {us : List Pt} (ho : okL us = true) (h : 0 < us.length) : 0 < (hulV us).length := by
  rw [hulV_yes ho]
  obtain ⟨q, B, e⟩ := hul_neK (srtL_neK h) (srtL_asc us)
  rw [e]
  simp
theorem add_is {us vs : List Pt} (ho : okL us = true) (hv : okL vs = true) (h : 0 < us.length) (h' : 0 < vs.length) : addL (hulV us) (hulV vs) = mkwH us vs := by
  unfold mkwH
  rw [hulV_yes ho, hulV_yes hv]
  exact add_hul (srtL_asc us) (srtL_asc vs) (srtL_asc _) (srtL_neK h) (srtL_neK h') fun z => by rw [srtL_mem, mem_smL]
theorem resR_sMs (us vs : List Pt) (h : Big us) (h' : Big vs) : ResR Try.prog 15 [.row us.length (.ints (flat us)), .row vs.length (.ints (flat vs))] (rowBK (mkwB us vs) (mkwV us vs)) ⟨.row 32 2, .ints (flat (mkwV us vs))⟩ := by
  refine bodyX_resR mixed EMv_ok (m := 30) (n := 12) rfl ?_
  rw [tr_sMs]
  try delta zB2 zB4 zR2 zI zsMs_0 zsMs_1
  unfold Big at h h'
  simp only [List.drop_zero, ptsA_flat, flat_length]
  unfold mkwV mkwB
  rcases ho : okL us with _ | _
  · exact ⟨Nat.le_refl _, h, none, ⟨⟨rfl, rfl⟩, ⟨rfl, rfl⟩, trivial⟩, trivial⟩
  rcases hv : okL vs with _ | _
  · exact ⟨Nat.le_refl _, h, Nat.le_refl _, h', none, ⟨⟨rfl, rfl⟩, ⟨rfl, rfl⟩, trivial⟩, trivial⟩
  simp only [Bool.not_true, brT_f]
  refine ⟨Nat.le_refl _, h, Nat.le_refl _, h', brT_ok.2 ⟨fun q => ?_, fun q => brT_ok.2 ⟨fun r => ?_, fun r => ?_⟩⟩⟩
  · have q : us = [] := by simpa using q
    subst q
    exact ⟨none, ⟨⟨rfl, rfl⟩, ⟨rfl, rfl⟩, trivial⟩, trivial⟩
  · have r : vs = [] := by simpa using r
    subst r
    rw [decide_eq_false (show ¬ 0 < ([] : List Pt).length by simp), Bool.and_false, Bool.false_and]
    exact ⟨none, ⟨⟨rfl, rfl⟩, ⟨rfl, rfl⟩, trivial⟩, trivial⟩
  have u0 : 0 < us.length := by
    have : ¬ us.length = 0 := fun e => by rw [e] at q; exact absurd q (by decide)
    omega
  have v0 : 0 < vs.length := by
    have : ¬ vs.length = 0 := fun e => by rw [e] at r; exact absurd r (by decide)
    omega
  have eH : hulL (srtL (smL (hulV us) (hulV vs))) = mkwH us vs := rfl
  rw [decide_eq_true u0, decide_eq_true v0]
  simp only [← hulV_yes ho, ← hulV_yes hv, eH]
  have k1 := okL_20 ho
  have k2 := okL_20 hv
  have w1 := allW_of k1.1
  have w2 := allW_of k2.1
  have a1 := hulV_all us
  have a2 := hulV_all vs
  have l1 := hulV_leK us
  have l2 := hulV_leK vs
  have a3 := allW_sm a1 a2
  have l3 := smL_le us vs
  have l4 := mkwH_le us vs
  rcases hx : allV (mkwH us vs) with _ | _
  all_goals repeat' (first | exact True.intro | assumption | omega | exact rfl | exact ⟨none, ⟨⟨rfl, rfl⟩, ⟨rfl, rfl⟩, trivial⟩, trivial⟩ | exact ⟨some 5, ⟨⟨rfl, rfl, rfl⟩, ⟨rfl, rfl⟩, trivial⟩, rfl, rfl, rfl⟩ | refine And.intro ?_ ?_)
theorem hulV_inK {us : List Pt} (h : 0 < (hulV us).length) : okL us = true ∧ 0 < us.length := by
  rcases ho : okL us with _ | _
  · rw [hulV_no ho] at h; simp at h
  · refine ⟨rfl, ?_⟩
    rw [hulV_yes ho] at h
    have := hul_le (srtL_asc us)
    have := srtL_le us
    omega
theorem mkwB_no {us vs : List Pt} (h : (hulV us).length = 0 ∨ (hulV vs).length = 0) : mkwB us vs = false := by
  rcases hb : mkwB us vs with _ | _
  · rfl
  · exfalso
    unfold mkwB at hb
    simp only [Bool.and_eq_true, decide_eq_true_eq] at hb
    have := hulV_pos hb.1.1.1.1 hb.1.1.2
    have := hulV_pos hb.1.1.1.2 hb.1.2
    omega
theorem resR_iMs (us vs : List Pt) (h : Big us) (h' : Big vs) : ResR Try.prog 14 [.row us.length (.ints (flat us)), .row vs.length (.ints (flat vs))] (rowBK (mkwB us vs) (mkwV us vs)) ⟨.row 32 2, .ints (flat (mkwV us vs))⟩ := by
  refine bodyX_resR mixed EMs_ok (m := 30) (n := 12) rfl ?_
  rw [tr_iMs]
  unfold Big at h h'
  simp only [List.drop_zero, ptsA_flat, flat_length]
  have a1 := hulV_all us
  have a2 := hulV_all vs
  have l1 := hulV_leK us
  have l2 := hulV_leK vs
  refine ⟨Nat.le_refl _, h, Nat.le_refl _, h', brT_ok.2 ⟨fun q => ?_, fun q => brT_ok.2 ⟨fun r => ?_, fun r => ?_⟩⟩⟩
  · have q : (hulV us).length = 0 := by simpa using q
    unfold mkwV
    rw [mkwB_no (.inl q)]
    exact ⟨none, ⟨⟨rfl, rfl⟩, ⟨rfl, rfl⟩, trivial⟩, trivial⟩
  · have r : (hulV vs).length = 0 := by simpa using r
    unfold mkwV
    rw [mkwB_no (.inr r)]
    exact ⟨none, ⟨⟨rfl, rfl⟩, ⟨rfl, rfl⟩, trivial⟩, trivial⟩
  have u0 : 0 < (hulV us).length := by
    have : ¬ (hulV us).length = 0 := fun e => by rw [e] at q; exact absurd q (by decide)
    omega
  have v0 : 0 < (hulV vs).length := by
    have : ¬ (hulV vs).length = 0 := fun e => by rw [e] at r; exact absurd r (by decide)
    omega
  obtain ⟨k1, k2⟩ := hulV_inK u0
  obtain ⟨k3, k4⟩ := hulV_inK v0
  rw [add_is k1 k3 k2 k4]
  have l4 := mkwH_le us vs
  unfold mkwV mkwB
  rw [k1, k3, decide_eq_true k2, decide_eq_true k4]
  rcases hx : allV (mkwH us vs) with _ | _
  all_goals repeat' (first | exact True.intro | assumption | omega | exact rfl | exact ⟨none, ⟨⟨rfl, rfl⟩, ⟨rfl, rfl⟩, trivial⟩, trivial⟩ | exact ⟨some 4, ⟨⟨rfl, rfl, rfl⟩, ⟨rfl, rfl⟩, trivial⟩, rfl, rfl, rfl⟩ | refine And.intro ?_ ?_)
def witL (ps : List Pt) (x y : Int) : List Int := bif exF (w1 ps x y) ps.length 0 then [((fiF (w1 ps x y) ps.length 0 : Nat) : Int), ((fiF (w2 ps x y (fiF (w1 ps x y) ps.length 0)) ps.length (fiF (w1 ps x y) ps.length 0) : Nat) : Int), ((fiF (w3 ps x y (fiF (w1 ps x y) ps.length 0) (fiF (w2 ps x y (fiF (w1 ps x y) ps.length 0)) ps.length (fiF (w1 ps x y) ps.length 0))) ps.length (fiF (w2 ps x y (fiF (w1 ps x y) ps.length 0)) ps.length (fiF (w1 ps x y) ps.length 0)) : Nat) : Int)] else []
theorem resR_wWt {ps : List Pt} {x y : Int} (hv : allW ps = true) (h : ps.length ≤ 1000) (hq : pt2 x y = true) : ResR Try.prog 48 [.row ps.length (.ints (flat ps)), .v (.agg #[iv x, iv y])] (ß 0 (witL ps x y).length (witL ps x y).length) ⟨.row 3 1, .ints (witL ps x y)⟩ := by
  refine bodyX_resR mixed EWy_ok (m := 30) (n := 12) rfl ?_
  rw [tr_wWt]
  simp only [ptsA_flat]
  unfold witL
  rcases exF (w1 ps x y) ps.length 0 with _ | _
  · exact ⟨trivial, flat_length ps, hv, h, hq, some 3, ⟨rfl, rfl, rfl⟩, rfl, rfl, rfl⟩
  · exact ⟨trivial, flat_length ps, hv, h, hq, some 3, ⟨rfl, rfl, rfl⟩, rfl, rfl, rfl⟩
def ngW (p : Pt) : Pt := (ŵ (0 - p.1), ŵ (0 - p.2))
def ngWL (ps : List Pt) : List Pt := ps.map ngW
theorem ngWL_step {ps : List Pt} {i : Nat} (h : i < ps.length) (o : List Pt) : o ++ ngWL (ps.drop i) = (o ++ [ngW (ps.getD i (0, 0))]) ++ ngWL (ps.drop (i + 1)) := by
  unfold ngWL
  rw [drop_cons h (0, 0)]
  simp
theorem ngWL_end {ps : List Pt} {i : Nat} (h : ps.length ≤ i) : ngWL (ps.drop i) = [] := by
  unfold ngWL
  rw [List.drop_of_length_le h]
  rfl
theorem ngWL_len (ps : List Pt) : (ngWL ps).length = ps.length := by unfold ngWL; simp
noncomputable def c_hmi : Code := ((loopsOf (codeOf Try.f25))[0]?).getD .skip
def k_hmi : Ex → List Nat := keeps [0, 5, 10, 11, 12] [(0, [0, 5])] [4]
def s_hmi (us vs : List Pt) : Nat × (List Pt) → St := fun (i, o) => ⟨(ß 0 us.length us.length :: ω4 ß 2 o.length o.length :: ω4 ß 1 vs.length vs.length :: .int .i64 vs.length :: .int .i64 i :: ω28 []), [some ⟨.view, .ints (flat us)⟩, some ⟨.view, .ints (flat vs)⟩, some ⟨.row 32 2, .ints (flat o)⟩]⟩
def re_hmi : Nat × (List Pt) → Ex := fun _ => .exit 0
def rs_hmi (us vs : List Pt) : Nat × (List Pt) → St := fun (i, o) => ⟨(ß 0 us.length us.length :: ω4 ß 2 (o ++ ngWL (vs.drop i)).length (o ++ ngWL (vs.drop i)).length :: ω35 []), [some ⟨.view, .ints (flat us)⟩, some ⟨.view, .ints (flat vs)⟩, some ⟨.row 32 2, .ints (flat (o ++ ngWL (vs.drop i)))⟩]⟩
set_option maxRecDepth 100000 in
theorem tr_hmi (us vs : List Pt) (i : Nat) (o : List Pt) : bodyL Try.prog EMs 30 12 noL 1 c_hmi k_hmi 16 (s_hmi us vs (i, o)) = brT (decide ((↑i : Int) < (↑vs.length : Int))) (.need ((0 : Int) ≤ (↑i : Int) ∧ (↑i : Int) < (↑vs.length : Int)) (.need ((0 : Nat) + (↑i : Int).toNat * (2 : Nat) + (2 : Nat) ≤ (flat vs).length) (.need ((o.length + (1 : Nat)) * (16 : Nat) ≤ (140737488355328 : Nat) ∧ o.length + (1 : Nat) ≤ (2000000 : Nat)) (.need ((0 : Nat) + o.length * (2 : Nat) ≤ (flat o).length) (.leaf .normal ⟨(ß 0 (us.length) (us.length) :: ω4 ß 5 (o.length + 1) (o.length + 1) :: ω4 ß 1 (vs.length) (vs.length) :: .int .i64 ((↑vs.length : Int)) :: .int .i64 (ŵ ((↑i : Int) + 1)) :: ω28 []), [some ⟨.view, .ints (flat us)⟩, some ⟨.view, .ints (flat vs)⟩, some deadB, some ⟨.box, .vals [.int .i64 ((flat vs).getD (0 + (↑i : Int).toNat * 2) 0), .int .i64 ((flat vs).getD (0 + (↑i : Int).toNat * 2 + 1) 0)]⟩, some ⟨.row 32 2, .vals [.int .i64 (ŵ (0 - (flat vs).getD (0 + (↑i : Int).toNat * 2) 0)), .int .i64 (ŵ (0 - (flat vs).getD (0 + (↑i : Int).toNat * 2 + 1) 0))]⟩, some ⟨.row 32 2, .ints (List.take (o.length * 2) (List.drop 0 (flat o)) ++ [ŵ (0 - (flat vs).getD (0 + (↑i : Int).toNat * 2) 0), ŵ (0 - (flat vs).getD (0 + (↑i : Int).toNat * 2 + 1) 0)])⟩, some ⟨.box, .vals [.int .i64 (0), .int .i64 (0)]⟩, some ⟨.box, .vals [.int .i64 ((flat vs).getD (0 + (↑i : Int).toNat * 2) 0), .int .i64 ((flat vs).getD (0 + (↑i : Int).toNat * 2 + 1) 0)]⟩, some ⟨.box, .vals [.int .i64 (ŵ (0 - (flat vs).getD (0 + (↑i : Int).toNat * 2) 0)), .int .i64 (ŵ (0 - (flat vs).getD (0 + (↑i : Int).toNat * 2 + 1) 0))]⟩]⟩))))) (.leaf (.exit 0) ⟨(ß 0 (us.length) (us.length) :: ω4 ß 2 (o.length) (o.length) :: ω35 []), [some ⟨.view, .ints (flat us)⟩, some ⟨.view, .ints (flat vs)⟩, some ⟨.row 32 2, .ints (flat o)⟩]⟩) := by kernel_rfl
set_option maxRecDepth 100000 in
theorem nl_hmi : loopsOf c_hmi = [] := by kernel_rfl
def inv_hmi (us vs : List Pt) : Nat × (List Pt) → Prop := fun (i, o) => i ≤ vs.length ∧ o.length = i
def me_hmi (us vs : List Pt) : Nat × (List Pt) → Nat := fun (i, o) => vs.length - i
def Round_hmi (us vs : List Pt) : Prop := ∀ xx : Nat × (List Pt), inv_hmi us vs xx → (bodyL Try.prog EMs 30 12 noL 1 c_hmi k_hmi 16 (s_hmi us vs xx)).ok (RoundEnd 2 (s_hmi us vs) (inv_hmi us vs) (me_hmi us vs) re_hmi (rs_hmi us vs) xx) (fun _ _ => False)
def e_hmi (s : St) (k : Ex → St → Tree) : Option Tree := match Nat.beq s.tmps.length 41, pickL s.tmps [0, 5, 10, 11, 12], s.mem with
  | true, [ß 0 n _, .slice none 0 0, ß 1 r _, .int .i64 r1, .int .i64 i0], [some ⟨.view, .ints xs⟩, some ⟨.view, .ints ys⟩] => some (needs [r1 = r, i0 = 0, xs.length = n * 2, ys.length = r * 2, r ≤ 1048576] (k (.exit 0) ⟨(ß 0 n n :: ω4 ß 2 (ngWL (ptsA r ys)).length (ngWL (ptsA r ys)).length :: ω35 []), [some ⟨.view, .ints xs⟩, some ⟨.view, .ints ys⟩, some ⟨.row 32 2, .ints (flat (ngWL (ptsA r ys)))⟩]⟩))
  | _, _, _ => none
set_option maxRecDepth 100000 in
theorem round_hmi (us vs : List Pt) (hm : vs.length ≤ 1048576) : Round_hmi us vs := by
  rintro ⟨i, o⟩ ⟨h1, h2⟩
  rw [tr_hmi]
  simp only [Int.toNat_natCast, Nat.zero_add, Nat.add_zero, flat_get0, flat_get1, flat_length, List.drop_zero, flat_take, List.take_length]
  refine brT_ok.2 ⟨fun c => ?_, fun c => ?_⟩
  · have c := of_decide_eq_true c
    have hk : i < vs.length := by omega
    have ek : ŵ ((i : Int) + 1) = ((i + 1 : Nat) : Int) := by rw [show (i : Int) + 1 = ((i + 1 : Nat) : Int) by omega]; exact wr (by omega)
    rw [ek]
    have sn := flat_snoc o (ŵ (0 - (vs.getD i (0, 0)).1)) (ŵ (0 - (vs.getD i (0, 0)).2))
    rw [sn]
    refine ⟨by omega, by omega, by omega, by omega, (i + 1, o ++ [ngW (vs.getD i (0, 0))]), [some 5], ⟨by omega, by simp; omega⟩, ?_, rfl, ?_, ?_⟩
    · show vs.length - (i + 1) < vs.length - i; omega
    · simp only [rs_hmi, ngWL_step hk o]
    · repeat' (first | exact True.intro | exact rfl | exact wv_top _ _ | exact fun _ => rfl | (simp; done) | refine And.intro ?_ ?_)
  · have c := of_decide_eq_false c
    refine ⟨rfl, [some 2], ?_⟩
    simp only [rs_hmi, ngWL_end (show vs.length ≤ i by omega), List.append_nil]
    repeat' (first | exact True.intro | exact rfl | exact wv_top _ _ | exact fun _ => rfl | (simp; done) | refine And.intro ?_ ?_)
set_option maxRecDepth 100000 in
theorem lg_hmi : LoopE Try.prog e_hmi c_hmi := by
  intro s k t F H hlt ht
  unfold e_hmi at hlt
  split at hlt
  rotate_left
  · cases hlt
  rename_i hlen hpick hmem
  obtain ⟨tmps, mem⟩ := s
  simp only at hlen hpick hmem
  subst hmem
  obtain rfl := Option.some.inj hlt
  obtain ⟨⟨rfl, rfl, h1, h2, h3, _⟩, ht2⟩ := needs_ok ht
  clear ht hlt
  obtain ⟨us, rfl, rfl⟩ := even_flat h1
  obtain ⟨vs, rfl, rfl⟩ := even_flat h2
  simp only [ptsA_flat] at ht2
  refine ⟨_, _, ht2, loop_run2 mixed EMs_ok (s_hmi us vs) (inv_hmi us vs) (me_hmi us vs) re_hmi (rs_hmi us vs) k_hmi (fun _ => rfl) (noLoops nl_hmi) (round_hmi us vs h3) (x := (0, [])) ⟨Nat.zero_le _, rfl⟩ (π := [none]) rfl ?_⟩
  refine ⟨rfl, rfl, ?_, wvs_spread' [0, 5, 10, 11, 12] hlen rfl ?_⟩
  · repeat' (first | exact True.intro | exact rfl | exact wv_top _ _ | exact fun _ => rfl | assumption | exact Eq.symm (by assumption) | exact vI0 rfl | refine And.intro ?_ ?_)
  · rw [hpick]
    repeat' (first | exact True.intro | exact rfl | exact wv_top _ _ | exact fun _ => rfl | assumption | exact Eq.symm (by assumption) | exact vI0 rfl | refine And.intro ?_ ?_)
noncomputable def c_hms : Code := ((loopsOf (codeOf Try.f23))[0]?).getD .skip
def k_hms : Ex → List Nat := keeps [0, 1, 5, 6] [(0, [0, 5])] [4]
def s_hms (us vs : List Pt) : Nat × (List Pt) → St := fun (i, o) => ⟨(ß 0 us.length us.length :: ß 1 vs.length vs.length :: ω3 ß 3 o.length o.length :: .int .i64 i :: ω53 []), [some ⟨.view, .ints (flat us)⟩, some ⟨.view, .ints (flat vs)⟩, some ⟨.dead, .vals []⟩, some ⟨.row 32 2, .ints (flat o)⟩]⟩
def re_hms : Nat × (List Pt) → Ex := fun _ => .exit 0
def rs_hms (us vs : List Pt) : Nat × (List Pt) → St := fun (i, o) => ⟨(ß 0 us.length us.length :: ω4 ß 3 (o ++ ngWL (vs.drop i)).length (o ++ ngWL (vs.drop i)).length :: ω54 []), [some ⟨.view, .ints (flat us)⟩, some ⟨.view, .ints (flat vs)⟩, some ⟨.dead, .vals []⟩, some ⟨.row 32 2, .ints (flat (o ++ ngWL (vs.drop i)))⟩]⟩
set_option maxRecDepth 100000 in
theorem tr_hms (us vs : List Pt) (i : Nat) (o : List Pt) : bodyL Try.prog EMz 30 12 noL 1 c_hms k_hms 16 (s_hms us vs (i, o)) = brT (decide ((↑i : Int) < (↑vs.length : Int))) (.need ((0 : Int) ≤ (↑i : Int) ∧ (↑i : Int) < (↑vs.length : Int)) (.need ((0 : Nat) + (↑i : Int).toNat * (2 : Nat) + (0 : Nat) < (flat vs).length) (.need ((0 : Int) ≤ (↑i : Int) ∧ (↑i : Int) < (↑vs.length : Int)) (.need ((0 : Nat) + (↑i : Int).toNat * (2 : Nat) + (1 : Nat) < (flat vs).length) (.need ((o.length + (1 : Nat)) * (16 : Nat) ≤ (140737488355328 : Nat) ∧ o.length + (1 : Nat) ≤ (2000000 : Nat)) (.need ((0 : Nat) + o.length * (2 : Nat) ≤ (flat o).length) (.leaf .normal ⟨(ß 0 (us.length) (us.length) :: ß 1 (vs.length) (vs.length) :: ω3 ß 5 (o.length + 1) (o.length + 1) :: .int .i64 (ŵ ((↑i : Int) + 1)) :: ω53 []), [some ⟨.view, .ints (flat us)⟩, some ⟨.view, .ints (flat vs)⟩, some deadB, some deadB, some ⟨.row 32 2, .vals [.int .i64 (ŵ (0 - (flat vs).getD (0 + (↑i : Int).toNat * 2 + 0) 0)), .int .i64 (ŵ (0 - (flat vs).getD (0 + (↑i : Int).toNat * 2 + 1) 0))]⟩, some ⟨.row 32 2, .ints (List.take (o.length * 2) (List.drop 0 (flat o)) ++ [ŵ (0 - (flat vs).getD (0 + (↑i : Int).toNat * 2 + 0) 0), ŵ (0 - (flat vs).getD (0 + (↑i : Int).toNat * 2 + 1) 0)])⟩]⟩))))))) (.leaf (.exit 0) ⟨(ß 0 (us.length) (us.length) :: ω4 ß 3 (o.length) (o.length) :: ω54 []), [some ⟨.view, .ints (flat us)⟩, some ⟨.view, .ints (flat vs)⟩, some deadB, some ⟨.row 32 2, .ints (flat o)⟩]⟩) := by kernel_rfl
set_option maxRecDepth 100000 in
theorem nl_hms : loopsOf c_hms = [] := by kernel_rfl
def inv_hms (us vs : List Pt) : Nat × (List Pt) → Prop := fun (i, o) => i ≤ vs.length ∧ o.length = i
def me_hms (us vs : List Pt) : Nat × (List Pt) → Nat := fun (i, o) => vs.length - i
def Round_hms (us vs : List Pt) : Prop := ∀ xx : Nat × (List Pt), inv_hms us vs xx → (bodyL Try.prog EMz 30 12 noL 1 c_hms k_hms 16 (s_hms us vs xx)).ok (RoundEnd 3 (s_hms us vs) (inv_hms us vs) (me_hms us vs) re_hms (rs_hms us vs) xx) (fun _ _ => False)
def e_hms (s : St) (k : Ex → St → Tree) : Option Tree := match Nat.beq s.tmps.length 60, pickL s.tmps [0, 1, 5, 6], s.mem with
  | true, [ß 0 n _, ß 1 r _, ß 2 z _, .int .i64 i0], [some ⟨.view, .ints xs⟩, some ⟨.view, .ints ys⟩, some ⟨.row 32 2, .vals []⟩] => some (needs [z = 0, i0 = 0, xs.length = n * 2, ys.length = r * 2, r ≤ 1048576] (k (.exit 0) ⟨(ß 0 n n :: ω4 ß 3 (ngWL (ptsA r ys)).length (ngWL (ptsA r ys)).length :: ω54 []), [some ⟨.view, .ints xs⟩, some ⟨.view, .ints ys⟩, some ⟨.dead, .vals []⟩, some ⟨.row 32 2, .ints (flat (ngWL (ptsA r ys)))⟩]⟩))
  | _, _, _ => none
set_option maxRecDepth 100000 in
theorem round_hms (us vs : List Pt) (hm : vs.length ≤ 1048576) : Round_hms us vs := by
  rintro ⟨i, o⟩ ⟨h1, h2⟩
  rw [tr_hms]
  simp only [Int.toNat_natCast, Nat.zero_add, Nat.add_zero, flat_get0, flat_get1, flat_length, List.drop_zero, flat_take, List.take_length]
  refine brT_ok.2 ⟨fun c => ?_, fun c => ?_⟩
  · have c := of_decide_eq_true c
    have hk : i < vs.length := by omega
    have ek : ŵ ((i : Int) + 1) = ((i + 1 : Nat) : Int) := by rw [show (i : Int) + 1 = ((i + 1 : Nat) : Int) by omega]; exact wr (by omega)
    rw [ek]
    have sn := flat_snoc o (ŵ (0 - (vs.getD i (0, 0)).1)) (ŵ (0 - (vs.getD i (0, 0)).2))
    rw [sn]
    refine ⟨by omega, by omega, by omega, by omega, by omega, by omega, (i + 1, o ++ [ngW (vs.getD i (0, 0))]), [some 5], ⟨by omega, by simp; omega⟩, ?_, rfl, ?_, ?_⟩
    · show vs.length - (i + 1) < vs.length - i; omega
    · simp only [rs_hms, ngWL_step hk o]
    · repeat' (first | exact True.intro | exact rfl | exact wv_top _ _ | exact fun _ => rfl | (simp; done) | refine And.intro ?_ ?_)
  · have c := of_decide_eq_false c
    refine ⟨rfl, [some 3], ?_⟩
    simp only [rs_hms, ngWL_end (show vs.length ≤ i by omega), List.append_nil]
    repeat' (first | exact True.intro | exact rfl | exact wv_top _ _ | exact fun _ => rfl | (simp; done) | refine And.intro ?_ ?_)
set_option maxRecDepth 100000 in
theorem lg_hms : LoopE Try.prog e_hms c_hms := by
  intro s k t F H hlt ht
  unfold e_hms at hlt
  split at hlt
  rotate_left
  · cases hlt
  rename_i hlen hpick hmem
  obtain ⟨tmps, mem⟩ := s
  simp only at hlen hpick hmem
  subst hmem
  obtain rfl := Option.some.inj hlt
  obtain ⟨⟨rfl, rfl, h1, h2, h3, _⟩, ht2⟩ := needs_ok ht
  clear ht hlt
  obtain ⟨us, rfl, rfl⟩ := even_flat h1
  obtain ⟨vs, rfl, rfl⟩ := even_flat h2
  simp only [ptsA_flat] at ht2
  refine ⟨_, _, ht2, loop_run2 mixed EMz_ok (s_hms us vs) (inv_hms us vs) (me_hms us vs) re_hms (rs_hms us vs) k_hms (fun _ => rfl) (noLoops nl_hms) (round_hms us vs h3) (x := (0, [])) ⟨Nat.zero_le _, rfl⟩ (π := [some 2]) rfl ?_⟩
  refine ⟨rfl, rfl, ?_, wvs_spread' [0, 1, 5, 6] hlen rfl ?_⟩
  · repeat' (first | exact True.intro | exact rfl | exact wv_top _ _ | exact fun _ => rfl | assumption | exact Eq.symm (by assumption) | exact vI0 rfl | refine And.intro ?_ ?_)
  · rw [hpick]
    repeat' (first | exact True.intro | exact rfl | exact wv_top _ _ | exact fun _ => rfl | assumption | exact Eq.symm (by assumption) | exact vI0 rfl | refine And.intro ?_ ?_)
def pLw : List DArg → Option (Value × List Prop)
  | [.row m (.ints xs), .v (.agg ⟨[.int .i64 x, .int .i64 y]⟩)] => some (iv (locF (ptsA m xs) x y), [m * 2 ≤ xs.length, allW (ptsA m xs) = true, m ≤ 1000, pt2 x y = true])
  | _ => none
def THm : Tab := fun f ds => match f with
  | 51 => pLw ds
  | f => T3 f ds
theorem pLw_ok {ds : List DArg} {v : Value} {C : List Prop} (h : pLw ds = some (v, C)) (hC : AllP C) : Res Try.prog 51 ds v := by
  unfold pLw at h
  split at h
  · rename_i m xs x y
    obtain ⟨rfl, rfl⟩ : _ ∧ _ := by simpa using h
    obtain ⟨_, h2⟩ := ptsA_spec hC.1
    exact res_pts1 (pre := []) (post := [_]) hC.1 (res_wLoc hC.2.1 (by rw [h2]; exact hC.2.2.1) hC.2.2.2.1)
  · cases h
theorem THm_ok : TabOk Try.prog THm := by
  intro f ds v C h hC
  unfold THm at h
  split at h
  · exact pLw_ok h hC
  · exact T3_ok _ _ _ _ h hC
def RWn : TabR := fun f ds => match f, ds with
  | 48, [.row m (.ints xs), .v (.agg ⟨[.int .i64 x, .int .i64 y]⟩)] => some (ß 0 (witL (ptsA m xs) x y).length (witL (ptsA m xs) x y).length, ⟨.row 3 1, .ints (witL (ptsA m xs) x y)⟩, [m * 2 ≤ xs.length, allW (ptsA m xs) = true, m ≤ 1000, pt2 x y = true])
  | f, ds => RSmk f ds
theorem RWn_ok : TabROk Try.prog RWn := by
  intro f ds v b C h hC
  unfold RWn at h
  split at h
  · obtain ⟨rfl, rfl, rfl⟩ : _ ∧ _ ∧ _ := by simpa using h
    obtain ⟨_, h2⟩ := ptsA_spec hC.1
    exact resR_pts1 (pre := []) (post := [_]) hC.1 (resR_wWt hC.2.1 (by rw [h2]; exact hC.2.2.1) hC.2.2.2.1)
  · exact RSmk_ok _ _ _ _ _ h hC
theorem Lr_hmi {fn : Func} (hf : Try.prog.funcs[25]? = some fn) : LoopsGood Try.prog (lt1 e_hmi) 0 (codeOf fn) := by
  obtain rfl := fn_is Try.func25 hf
  exact lt1_good lg_hmi
def LHi : FuncId → LT := fun f => match f with
  | 25 => lt1 e_hmi
  | _ => noL
def EHi : Env := mkE THm RAd LHi
theorem EHi_ok : EnvOk Try.prog EHi := mkEOk THm_ok RAd_ok (by
  intro f fn hf
  unfold LHi
  split
  all_goals first | with_reducible exact Lr_hmi hf | exact noL_good)
theorem Lr_hms {fn : Func} (hf : Try.prog.funcs[23]? = some fn) : LoopsGood Try.prog (lt1 e_hms) 0 (codeOf fn) := by
  obtain rfl := fn_is Try.func23 hf
  exact lt1_good lg_hms
def LHms : FuncId → LT := fun f => match f with
  | 23 => lt1 e_hms
  | _ => noL
def EHms : Env := mkE T3 RWn LHms
theorem EHms_ok : EnvOk Try.prog EHms := mkEOk T3_ok RWn_ok (by
  intro f fn hf
  unfold LHms
  split
  all_goals first | with_reducible exact Lr_hms hf | exact noL_good)
set_option maxRecDepth 100000 in
theorem tr_iHm (us vs : List Pt) : bodyV Try.prog EHi 30 12 25 [.row us.length (.ints (flat us)), .row vs.length (.ints (flat vs))] = .need ((↑vs.length : Int) = (↑vs.length : Int)) (.need ((0 : Int) = (0 : Int)) (.need ((flat us).length = us.length * (2 : Nat)) (.need ((flat vs).length = vs.length * (2 : Nat)) (.need (vs.length ≤ (1048576 : Nat)) (.need (us.length * (2 : Nat) ≤ (List.drop 0 (flat us)).length) (.need (us.length ≤ (1000000000 : Nat)) (.need ((ngWL (ptsA vs.length (flat vs))).length * (2 : Nat) ≤ (List.drop 0 (flat (ngWL (ptsA vs.length (flat vs))))).length) (.need ((ngWL (ptsA vs.length (flat vs))).length ≤ (1000000000 : Nat)) (brT ((↑(hulV (ptsA us.length (List.drop 0 (flat us)))).length : Int) == 0) (.fin (.bool (false)) []) (brT ((↑(hulV (ptsA (ngWL (ptsA vs.length (flat vs))).length (List.drop 0 (flat (ngWL (ptsA vs.length (flat vs))))))).length : Int) == 0) (.fin (.bool (false)) []) (.need ((hulV (ptsA us.length (List.drop 0 (flat us)))).length * (2 : Nat) ≤ (List.drop 0 (flat (hulV (ptsA us.length (List.drop 0 (flat us)))))).length) (.need ((hulV (ptsA (ngWL (ptsA vs.length (flat vs))).length (List.drop 0 (flat (ngWL (ptsA vs.length (flat vs))))))).length * (2 : Nat) ≤ (List.drop 0 (flat (hulV (ptsA (ngWL (ptsA vs.length (flat vs))).length (List.drop 0 (flat (ngWL (ptsA vs.length (flat vs))))))))).length) (.need (allV (ptsA (hulV (ptsA us.length (List.drop 0 (flat us)))).length (List.drop 0 (flat (hulV (ptsA us.length (List.drop 0 (flat us))))))) = true) (.need (allV (ptsA (hulV (ptsA (ngWL (ptsA vs.length (flat vs))).length (List.drop 0 (flat (ngWL (ptsA vs.length (flat vs))))))).length (List.drop 0 (flat (hulV (ptsA (ngWL (ptsA vs.length (flat vs))).length (List.drop 0 (flat (ngWL (ptsA vs.length (flat vs)))))))))) = true) (.need ((hulV (ptsA us.length (List.drop 0 (flat us)))).length ≤ (100 : Nat) ∧ (0 : Nat) < (hulV (ptsA us.length (List.drop 0 (flat us)))).length) (.need ((hulV (ptsA (ngWL (ptsA vs.length (flat vs))).length (List.drop 0 (flat (ngWL (ptsA vs.length (flat vs))))))).length ≤ (100 : Nat) ∧ (0 : Nat) < (hulV (ptsA (ngWL (ptsA vs.length (flat vs))).length (List.drop 0 (flat (ngWL (ptsA vs.length (flat vs))))))).length) (.need ((addL (ptsA (hulV (ptsA us.length (List.drop 0 (flat us)))).length (List.drop 0 (flat (hulV (ptsA us.length (List.drop 0 (flat us))))))) (ptsA (hulV (ptsA (ngWL (ptsA vs.length (flat vs))).length (List.drop 0 (flat (ngWL (ptsA vs.length (flat vs))))))).length (List.drop 0 (flat (hulV (ptsA (ngWL (ptsA vs.length (flat vs))).length (List.drop 0 (flat (ngWL (ptsA vs.length (flat vs))))))))))).length * (2 : Nat) ≤ (List.drop 0 (flat (addL (ptsA (hulV (ptsA us.length (List.drop 0 (flat us)))).length (List.drop 0 (flat (hulV (ptsA us.length (List.drop 0 (flat us))))))) (ptsA (hulV (ptsA (ngWL (ptsA vs.length (flat vs))).length (List.drop 0 (flat (ngWL (ptsA vs.length (flat vs))))))).length (List.drop 0 (flat (hulV (ptsA (ngWL (ptsA vs.length (flat vs))).length (List.drop 0 (flat (ngWL (ptsA vs.length (flat vs))))))))))))).length) (.need (allW (ptsA (addL (ptsA (hulV (ptsA us.length (List.drop 0 (flat us)))).length (List.drop 0 (flat (hulV (ptsA us.length (List.drop 0 (flat us))))))) (ptsA (hulV (ptsA (ngWL (ptsA vs.length (flat vs))).length (List.drop 0 (flat (ngWL (ptsA vs.length (flat vs))))))).length (List.drop 0 (flat (hulV (ptsA (ngWL (ptsA vs.length (flat vs))).length (List.drop 0 (flat (ngWL (ptsA vs.length (flat vs))))))))))).length (List.drop 0 (flat (addL (ptsA (hulV (ptsA us.length (List.drop 0 (flat us)))).length (List.drop 0 (flat (hulV (ptsA us.length (List.drop 0 (flat us))))))) (ptsA (hulV (ptsA (ngWL (ptsA vs.length (flat vs))).length (List.drop 0 (flat (ngWL (ptsA vs.length (flat vs))))))).length (List.drop 0 (flat (hulV (ptsA (ngWL (ptsA vs.length (flat vs))).length (List.drop 0 (flat (ngWL (ptsA vs.length (flat vs)))))))))))))) = true) (.need ((addL (ptsA (hulV (ptsA us.length (List.drop 0 (flat us)))).length (List.drop 0 (flat (hulV (ptsA us.length (List.drop 0 (flat us))))))) (ptsA (hulV (ptsA (ngWL (ptsA vs.length (flat vs))).length (List.drop 0 (flat (ngWL (ptsA vs.length (flat vs))))))).length (List.drop 0 (flat (hulV (ptsA (ngWL (ptsA vs.length (flat vs))).length (List.drop 0 (flat (ngWL (ptsA vs.length (flat vs))))))))))).length ≤ (1000 : Nat)) (.need (pt2 (0 : Int) (0 : Int) = true) (.fin (.bool (decide (0 ≤ locF (ptsA (addL (ptsA (hulV (ptsA us.length (List.drop 0 (flat us)))).length (List.drop 0 (flat (hulV (ptsA us.length (List.drop 0 (flat us))))))) (ptsA (hulV (ptsA (ngWL (ptsA vs.length (flat vs))).length (List.drop 0 (flat (ngWL (ptsA vs.length (flat vs))))))).length (List.drop 0 (flat (hulV (ptsA (ngWL (ptsA vs.length (flat vs))).length (List.drop 0 (flat (ngWL (ptsA vs.length (flat vs))))))))))).length (List.drop 0 (flat (addL (ptsA (hulV (ptsA us.length (List.drop 0 (flat us)))).length (List.drop 0 (flat (hulV (ptsA us.length (List.drop 0 (flat us))))))) (ptsA (hulV (ptsA (ngWL (ptsA vs.length (flat vs))).length (List.drop 0 (flat (ngWL (ptsA vs.length (flat vs))))))).length (List.drop 0 (flat (hulV (ptsA (ngWL (ptsA vs.length (flat vs))).length (List.drop 0 (flat (ngWL (ptsA vs.length (flat vs)))))))))))))) 0 0))) []))))))))))))))))))))) := by kernel_rfl
abbrev zsHm_0 (us : List Pt) (vs : List Pt) := (smL (ptsA (hulL (srtL (ptsA us.length (List.drop 0 (flat us))))).length (List.drop 0 (flat (hulL (srtL (ptsA us.length (List.drop 0 (flat us)))))))) (ptsA (hulL (srtL (ptsA (ngWL (ptsA vs.length (flat vs))).length (List.drop 0 (flat (ngWL (ptsA vs.length (flat vs)))))))).length (List.drop 0 (flat (hulL (srtL (ptsA (ngWL (ptsA vs.length (flat vs))).length (List.drop 0 (flat (ngWL (ptsA vs.length (flat vs))))))))))))
abbrev zsHm_1 (us : List Pt) (vs : List Pt) := (smL (ptsA (hulL (srtL (ptsA us.length (List.drop 0 (flat us))))).length (List.drop 0 (flat (hulL (srtL (ptsA us.length (List.drop 0 (flat us)))))))) (ptsA (hulL (srtL (ptsA (ngWL (ptsA vs.length (flat vs))).length (List.drop 0 (flat (ngWL (ptsA vs.length (flat vs)))))))).length (List.drop 0 (flat (hulL (srtL (ptsA (ngWL (ptsA vs.length (flat vs))).length (List.drop 0 (flat (ngWL (ptsA vs.length (flat vs))))))))))))
abbrev zsHm_2 (vs : List Pt) := (ptsA (ngWL (ptsA vs.length (flat vs))).length (List.drop 0 (flat (ngWL (ptsA vs.length (flat vs))))))
set_option maxRecDepth 100000 in
theorem tr_sHm (us vs : List Pt) : bodyV Try.prog EHms 30 12 23 [.row us.length (.ints (flat us)), .row vs.length (.ints (flat vs))] = .need (us.length * (2 : Nat) ≤ (List.drop 0 (flat us)).length) (.need (us.length ≤ (1000000000 : Nat)) (brT (!okL (ptsA us.length (List.drop 0 (flat us)))) (.fin (.bool (false)) []) (.need (vs.length * (2 : Nat) ≤ (List.drop 0 (flat vs)).length) (.need (vs.length ≤ (1000000000 : Nat)) (brT (!okL (ptsA vs.length (List.drop 0 (flat vs)))) (.fin (.bool (false)) []) (brT ((↑us.length : Int) == 0) (.fin (.bool (false)) []) (brT ((↑vs.length : Int) == 0) (.fin (.bool (false)) []) (.need ((0 : Nat) = (0 : Nat)) (.need ((0 : Int) = (0 : Int)) (.need ((flat us).length = us.length * (2 : Nat)) (.need ((flat vs).length = vs.length * (2 : Nat)) (.need (vs.length ≤ (1048576 : Nat)) (.need (us.length * (2 : Nat) ≤ (List.drop 0 (flat us)).length) (.need (allW (ptsA us.length (List.drop 0 (flat us))) = true) (.need (us.length ≤ (1000 : Nat)) (.need ((ngWL (ptsA vs.length (flat vs))).length * (2 : Nat) ≤ (List.drop 0 (flat (ngWL (ptsA vs.length (flat vs))))).length) (.need (allW (zsHm_2 vs) = true) (.need ((ngWL (ptsA vs.length (flat vs))).length ≤ (1000 : Nat)) (.need ((hulL (srtL (ptsA us.length (List.drop 0 (flat us))))).length * (2 : Nat) ≤ (List.drop 0 (flat (hulL (srtL (ptsA us.length (List.drop 0 (flat us))))))).length) (.need ((hulL (srtL (zsHm_2 vs))).length * (2 : Nat) ≤ (List.drop 0 (flat (hulL (srtL (zsHm_2 vs))))).length) (.need (allV (ptsA (hulL (srtL (ptsA us.length (List.drop 0 (flat us))))).length (List.drop 0 (flat (hulL (srtL (ptsA us.length (List.drop 0 (flat us)))))))) = true) (.need (allV (ptsA (hulL (srtL (zsHm_2 vs))).length (List.drop 0 (flat (hulL (srtL (zsHm_2 vs)))))) = true) (.need ((hulL (srtL (ptsA us.length (List.drop 0 (flat us))))).length ≤ (100 : Nat)) (.need ((hulL (srtL (zsHm_2 vs))).length ≤ (100 : Nat)) (.need ((zsHm_0 us vs).length * (2 : Nat) ≤ (List.drop 0 (flat (zsHm_0 us vs))).length) (.need (allW (ptsA (zsHm_0 us vs).length (List.drop 0 (flat (zsHm_0 us vs)))) = true) (.need ((zsHm_0 us vs).length ≤ (1000 : Nat)) (.need ((hulL (srtL (ptsA (zsHm_0 us vs).length (List.drop 0 (flat (zsHm_0 us vs)))))).length * (2 : Nat) ≤ (List.drop 0 (flat (hulL (srtL (ptsA (zsHm_0 us vs).length (List.drop 0 (flat (zsHm_0 us vs)))))))).length) (.need (allW (ptsA (hulL (srtL (ptsA (zsHm_0 us vs).length (List.drop 0 (flat (zsHm_0 us vs)))))).length (List.drop 0 (flat (hulL (srtL (ptsA (zsHm_0 us vs).length (List.drop 0 (flat (zsHm_0 us vs))))))))) = true) (.need ((hulL (srtL (ptsA (zsHm_0 us vs).length (List.drop 0 (flat (zsHm_0 us vs)))))).length ≤ (1000 : Nat)) (.need (pt2 (0 : Int) (0 : Int) = true) (.fin (.bool (decide (0 < (↑(witL (ptsA (hulL (srtL (ptsA (zsHm_1 us vs).length (List.drop 0 (flat (zsHm_1 us vs)))))).length (List.drop 0 (flat (hulL (srtL (ptsA (zsHm_1 us vs).length (List.drop 0 (flat (zsHm_1 us vs))))))))) 0 0).length : Int)))) [])))))))))))))))))))))))))))))))) := by kernel_rfl
theorem ex_wit {h : List Pt} : exF (w1 h 0 0) h.length 0 = true ↔ witP h (0, 0) := by
  rw [exF_iff]
  constructor
  · rintro ⟨i, _, hi, h1⟩
    obtain ⟨k, ik, hk, h2⟩ := exF_iff.1 h1
    obtain ⟨m, km, hm, h3⟩ := exF_iff.1 h2
    exact ⟨i, k, m, ik, km, hm, itB_iff.1 h3⟩
  · rintro ⟨i, k, m, ik, km, hm, h3⟩
    exact ⟨i, Nat.zero_le _, by omega, exF_iff.2 ⟨k, ik, by omega, exF_iff.2 ⟨m, km, hm, itB_iff.2 h3⟩⟩⟩
theorem witL_pos {h : List Pt} : decide (0 < ((witL h 0 0).length : Int)) = exF (w1 h 0 0) h.length 0 := by
  unfold witL
  rcases exF (w1 h 0 0) h.length 0 with _ | _
  · exact decide_eq_false (by simp)
  · exact decide_eq_true (by simp)
theorem witL_loc {w : List Pt} (hw : Asc w) (w0 : w ≠ []) : decide (0 < ((witL (hulL w) 0 0).length : Int)) = decide (0 ≤ locF (hulL w) 0 0) := by
  rw [witL_pos]
  have h := loc_wit hw w0 (q := (0, 0))
  rcases hx : exF (w1 (hulL w) 0 0) (hulL w).length 0 with _ | _
  · exact (decide_eq_false fun e => by
      have := ex_wit.2 (h.1 e)
      rw [hx] at this
      cases this).symm
  · exact (decide_eq_true (h.2 (ex_wit.1 hx))).symm
def fitL (ps : List Pt) : Prop := ∀ p ∈ ps, (-9223372036854775808 ≤ p.1 ∧ p.1 ≤ 9223372036854775807) ∧ (-9223372036854775808 ≤ p.2 ∧ p.2 ≤ 9223372036854775807)
theorem ng_cases {x : Int} (h : -9223372036854775808 ≤ x ∧ x ≤ 9223372036854775807) : (x = -9223372036854775808 ∧ ŵ (0 - x) = -9223372036854775808) ∨ ŵ (0 - x) = 0 - x := by
  by_cases e : x = -9223372036854775808
  · subst e
    exact .inl ⟨rfl, by rfl⟩
  · exact .inr (wr (by omega))
theorem ptB_ng {p : Pt} (h : (-9223372036854775808 ≤ p.1 ∧ p.1 ≤ 9223372036854775807) ∧ (-9223372036854775808 ≤ p.2 ∧ p.2 ≤ 9223372036854775807)) : ptB (ngW p).1 (ngW p).2 = ptB p.1 p.2 := by
  unfold ngW ptB
  simp only
  rcases ng_cases h.1 with ⟨e, f⟩ | f <;> rcases ng_cases h.2 with ⟨e', f'⟩ | f' <;> rw [f, f']
  · rw [e, e']
  all_goals exact decide_eq_decide.2 (by omega)
theorem allV_ng : ∀ {ps : List Pt}, fitL ps → allV (ngWL ps) = allV ps
  | [], _ => rfl
  | p :: t, h => by
    show (ptB (ngW p).1 (ngW p).2 && allV (ngWL t)) = (ptB p.1 p.2 && allV t)
    rw [ptB_ng (h p (by simp)), allV_ng fun z hz => h z (by simp [hz])]
theorem okL_ng {ps : List Pt} (h : fitL ps) : okL (ngWL ps) = okL ps := by
  unfold okL
  rw [allV_ng h, ngWL_len]
theorem fit_ok {ps : List Pt} (h : allV ps = true) : fitL ps := fun p hp => by
  have := ptB_true (List.all_eq_true.1 h p hp)
  omega
theorem hmH_ne {us vs : List Pt} (ho : okL us = true) (hv : okL vs = true) (h : 0 < us.length) (h' : 0 < vs.length) : srtL (smL (hulV us) (hulV vs)) ≠ [] := srtL_neK (by
  rw [smL_len]
  exact Nat.mul_pos (hulV_pos ho h) (hulV_pos hv h'))
theorem allW_hul {w : List Pt} (hw : Asc w) (h : allW w = true) : allW (hulL w) = true := List.all_eq_true.2 fun z hz => List.all_eq_true.1 h z (hul_in hw hz)
def hmB (us vs : List Pt) : Bool := okL us && okL vs && decide (0 < us.length) && decide (0 < vs.length) && decide (0 ≤ locF (mkwH us (ngWL vs)) 0 0)
theorem res_sHm (us vs : List Pt) (h : Big us) (h' : Big vs) : Res Try.prog 23 [.row us.length (.ints (flat us)), .row vs.length (.ints (flat vs))] (.bool (hmB us vs)) := by
  refine bodyV_res mixed EHms_ok (m := 30) (n := 12) rfl ?_
  rw [tr_sHm]
  try delta zB2 zB4 zR2 zI zsHm_0 zsHm_1 zsHm_2
  unfold Big at h h'
  simp only [List.drop_zero, ptsA_flat, flat_length]
  unfold hmB
  rcases ho : okL us with _ | _
  · exact ⟨Nat.le_refl _, h, rfl⟩
  rcases hv : okL vs with _ | _
  · exact ⟨Nat.le_refl _, h, Nat.le_refl _, h', rfl⟩
  simp only [Bool.not_true, brT_f]
  refine ⟨Nat.le_refl _, h, Nat.le_refl _, h', brT_ok.2 ⟨fun q => ?_, fun q => brT_ok.2 ⟨fun r => ?_, fun r => ?_⟩⟩⟩
  · have q : us = [] := by simpa using q
    subst q
    exact rfl
  · have r : vs = [] := by simpa using r
    subst r
    rw [decide_eq_false (show ¬ 0 < ([] : List Pt).length by simp), Bool.and_false, Bool.false_and]
    exact rfl
  have u0 : 0 < us.length := by
    have : ¬ us.length = 0 := fun e => by rw [e] at q; exact absurd q (by decide)
    omega
  have v0 : 0 < vs.length := by
    have : ¬ vs.length = 0 := fun e => by rw [e] at r; exact absurd r (by decide)
    omega
  have k1 := okL_20 ho
  have k2 := okL_20 hv
  have hn : okL (ngWL vs) = true := (okL_ng (fit_ok k2.1)).trans hv
  have n0 : 0 < (ngWL vs).length := by rw [ngWL_len]; exact v0
  have k3 := okL_20 hn
  have eW := witL_loc (srtL_asc (smL (hulV us) (hulV (ngWL vs)))) (hmH_ne ho hn u0 n0)
  have eH : hulL (srtL (smL (hulV us) (hulV (ngWL vs)))) = mkwH us (ngWL vs) := rfl
  rw [decide_eq_true u0, decide_eq_true v0]
  rw [eH] at eW
  simp only [← hulV_yes ho, ← hulV_yes hn, eH, eW]
  have w1 := allW_of k1.1
  have w2 := allW_of k3.1
  have a1 := hulV_all us
  have a2 := hulV_all (ngWL vs)
  have l1 := hulV_leK us
  have l2 := hulV_leK (ngWL vs)
  have a3 := allW_sm a1 a2
  have l3 := smL_le us (ngWL vs)
  have l4 := mkwH_le us (ngWL vs)
  have l5 := ngWL_len vs
  have a4 : allW (mkwH us (ngWL vs)) = true := allW_hul (srtL_asc _) (allW_srt a3)
  have a5 : pt2 0 0 = true := by decide
  have l6 := k1.2
  have l7 := k2.2
  clear eW eH hn n0 k1 k2 k3 hv ho q r
  generalize mkwH us (ngWL vs) = H at *
  generalize hulV us = G at *
  generalize hulV (ngWL vs) = G' at *
  repeat' (first | exact True.intro | assumption | omega | exact rfl | refine And.intro ?_ ?_)
theorem res_iHm (us vs : List Pt) (h : Big us) (h' : vs.length ≤ 1048576) (hf : fitL vs) : Res Try.prog 25 [.row us.length (.ints (flat us)), .row vs.length (.ints (flat vs))] (.bool (hmB us vs)) := by
  refine bodyV_res mixed EHi_ok (m := 30) (n := 12) rfl ?_
  rw [tr_iHm]
  unfold Big at h
  have l5 := ngWL_len vs
  have en := okL_ng hf
  simp only [List.drop_zero, ptsA_flat, flat_length]
  have a1 := hulV_all us
  have a2 := hulV_all (ngWL vs)
  have l1 := hulV_leK us
  have l2 := hulV_leK (ngWL vs)
  simp only [Tree.ok]
  refine ⟨trivial, trivial, trivial, trivial, h', Nat.le_refl _, h, Nat.le_refl _, by omega, brT_ok.2 ⟨fun q => ?_, fun q => brT_ok.2 ⟨fun r => ?_, fun r => ?_⟩⟩⟩
  · have q : (hulV us).length = 0 := by simpa using q
    have e : hmB us vs = false := by
      rcases hx : hmB us vs with _ | _
      · rfl
      · unfold hmB at hx
        simp only [Bool.and_eq_true, decide_eq_true_eq] at hx
        have := hulV_pos hx.1.1.1.1 hx.1.1.2
        omega
    rw [e]
    exact rfl
  · have r : (hulV (ngWL vs)).length = 0 := by simpa using r
    have e : hmB us vs = false := by
      rcases hx : hmB us vs with _ | _
      · rfl
      · unfold hmB at hx
        simp only [Bool.and_eq_true, decide_eq_true_eq] at hx
        have := hulV_pos (en.trans hx.1.1.1.2) (by rw [l5]; exact hx.1.2)
        omega
    rw [e]
    exact rfl
  have u0 : 0 < (hulV us).length := by
    have : ¬ (hulV us).length = 0 := fun e => by rw [e] at q; exact absurd q (by decide)
    omega
  have v0 : 0 < (hulV (ngWL vs)).length := by
    have : ¬ (hulV (ngWL vs)).length = 0 := fun e => by rw [e] at r; exact absurd r (by decide)
    omega
  obtain ⟨k1, k2⟩ := hulV_inK u0
  obtain ⟨k3, k4⟩ := hulV_inK v0
  rw [add_is k1 k3 k2 k4]
  have l4 := mkwH_le us (ngWL vs)
  have l3 := smL_le us (ngWL vs)
  have a4 : allW (mkwH us (ngWL vs)) = true := allW_hul (srtL_asc _) (allW_srt (allW_sm a1 a2))
  have a5 : pt2 0 0 = true := by decide
  have e : hmB us vs = decide (0 ≤ locF (mkwH us (ngWL vs)) 0 0) := by
    unfold hmB
    rw [k1, ← en, k3, decide_eq_true k2, decide_eq_true (show 0 < vs.length by rw [← l5]; exact k4)]
    rfl
  rw [e]
  clear e k1 k2 k3 k4 q r en
  generalize mkwH us (ngWL vs) = H at *
  generalize hulV us = G at *
  generalize hulV (ngWL vs) = G' at *
  repeat' (first | exact True.intro | assumption | omega | exact rfl | refine And.intro ?_ ?_)
theorem okL_hul {ps : List Pt} (h : okL ps = true) : okL (hulV ps) = true := by
  obtain ⟨h1, h2⟩ := okL_20 h
  rw [hulV_yes h]
  have l := hul_le (srtL_asc ps)
  have l2 := srtL_le ps
  unfold okL
  rw [allV_hul (allV_srt h1), decide_eq_true (by omega)]
  rfl
theorem hulV_sub {ps : List Pt} (h1 : okL ps = true) {v : Pt} (hv : v ∈ hulV ps) : v ∈ ps := by
  rw [hulV_yes h1] at hv
  exact (srtL_mem _ _).1 (hul_in (srtL_asc _) hv)
theorem hulV_max {ps : List Pt} (h1 : okL ps = true) {dx dy M : Int} (hM : ∀ v ∈ hulV ps, dirV dx dy v ≤ M) {q : Pt} (hq : q ∈ ps) : dirV dx dy q ≤ M := by
  rw [hulV_yes h1] at hM
  exact hul_max (srtL_asc _) hM q ((srtL_mem _ _).2 hq)
set_option maxRecDepth 100000 in
theorem tr_pick (bs : List Int) (l c : Nat) (p k : Int) : bodyM Try.prog (tabE B0) (runM Try.prog (tabE B0) 30 12) 30 65 [.pointer (some ⟨1, 0, none⟩), .int .i64 k] (memR bs l c p none) .fin = brT (decide (k < 1)) (.fin (.int .i64 (0)) [some ⟨.view, .bytes (bs)⟩, some ⟨.box, .vals [ß 0 (l) (c), .int .i64 (ŵ (p + 1))]⟩]) (brT ((↑l : Int) == 0) (.fin (.int .i64 (0)) [some ⟨.view, .bytes (bs)⟩, some ⟨.box, .vals [ß 0 (l) (c), .int .i64 (ŵ (p + 1))]⟩]) (brT (decide (ŵ (ŵ (p + 1) - 1) < (↑l : Int))) (.need ((0 : Int) ≤ ŵ (ŵ (p + (1 : Int)) - (1 : Int)) ∧ ŵ (ŵ (p + (1 : Int)) - (1 : Int)) < (↑l : Int)) (.need ((0 : Nat) + (ŵ (ŵ (p + (1 : Int)) - (1 : Int))).toNat * (1 : Nat) < bs.length) (.need (¬k = (0 : Int)) (.fin (.int .i64 ((ŵ (bs.getD (0 + (ŵ (ŵ (p + 1) - 1)).toNat * 1) 0)).tmod k)) [some ⟨.view, .bytes (bs)⟩, some ⟨.box, .vals [ß 0 (l) (c), .int .i64 (ŵ (p + 1))]⟩])))) (.need (¬(↑l : Int) = (0 : Int)) (.need ((0 : Int) ≤ (ŵ (ŵ (p + (1 : Int)) - (1 : Int))).tmod (↑l : Int) ∧ (ŵ (ŵ (p + (1 : Int)) - (1 : Int))).tmod (↑l : Int) < (↑l : Int)) (.need ((0 : Nat) + ((ŵ (ŵ (p + (1 : Int)) - (1 : Int))).tmod (↑l : Int)).toNat * (1 : Nat) < bs.length) (.need (¬(↑l : Int) = (0 : Int)) (.need ((0 : Int) ≤ (ŵ (ŵ (ŵ (ŵ (p + (1 : Int)) - (1 : Int)) * (7 : Int)) + (3 : Int))).tmod (↑l : Int) ∧ (ŵ (ŵ (ŵ (ŵ (p + (1 : Int)) - (1 : Int)) * (7 : Int)) + (3 : Int))).tmod (↑l : Int) < (↑l : Int)) (.need ((0 : Nat) + ((ŵ (ŵ (ŵ (ŵ (p + (1 : Int)) - (1 : Int)) * (7 : Int)) + (3 : Int))).tmod (↑l : Int)).toNat * (1 : Nat) < bs.length) (.need (¬(↑l : Int) = (0 : Int)) (.need (¬(64 : Int) = (0 : Int)) (.need (¬k = (0 : Int)) (.fin (.int .i64 ((ŵ (↑(BitVec.ofInt IntKind.i64.bits (ŵ (ŵ (ŵ (ŵ (ŵ (bs.getD (0 + ((ŵ (ŵ (p + 1) - 1)).tmod (↑l : Int)).toNat * (1 : Nat)) 0) * 131) + ŵ (ŵ (bs.getD (0 + ((ŵ (ŵ (ŵ (ŵ (p + 1) - 1) * 7) + 3)).tmod (↑l : Int)).toNat * (1 : Nat)) 0) * 1117)) + ŵ (ŵ (ŵ (p + 1) - 1) * 29)) + ŵ (ŵ ((ŵ (ŵ (p + 1) - 1)).tdiv (↑l : Int)) * 53))) ^^^ BitVec.ofInt IntKind.i64.bits (ŵ ((ŵ (ŵ (ŵ (ŵ (ŵ (bs.getD (0 + ((ŵ (ŵ (p + 1) - 1)).tmod (↑l : Int)).toNat * (1 : Nat)) 0) * 131) + ŵ (ŵ (bs.getD (0 + ((ŵ (ŵ (ŵ (ŵ (p + 1) - 1) * 7) + 3)).tmod (↑l : Int)).toNat * (1 : Nat)) 0) * 1117)) + ŵ (ŵ (ŵ (p + 1) - 1) * 29)) + ŵ (ŵ ((ŵ (ŵ (p + 1) - 1)).tdiv (↑l : Int)) * 53))).tdiv 64))).toNat : Int)).tmod k)) [some ⟨.view, .bytes (bs)⟩, some ⟨.box, .vals [ß 0 (l) (c), .int .i64 (ŵ (p + 1))]⟩])))))))))))) := by kernel_rfl
def xorI (x : Int) : Int := ŵ (↑(BitVec.ofInt IntKind.i64.bits x ^^^ BitVec.ofInt IntKind.i64.bits (ŵ (x.tdiv 64))).toNat : Int)
def mixI (bs : List Int) (l : Nat) (p : Int) : Int := bs.getD (p.tmod l).toNat 0 * 131 + bs.getD ((p * 7 + 3).tmod l).toNat 0 * 1117 + p * 29 + p.tdiv l * 53
def pickI (bs : List Int) (l : Nat) (p k : Int) : Int := if k < 1 ∨ l = 0 then 0 else if p < l then (bs.getD p.toNat 0).tmod k else (xorI (mixI bs l p)).tmod k
def rdC (bs : List Int) (l : Nat) (p : Int) : Prop := l ≤ bs.length ∧ l ≤ 2000 ∧ 0 ≤ p ∧ p ≤ 1000000 ∧ Bytes bs
def pickS : RSpec := fun bs l p rest ex => match rest, ex with
  | [.int .i64 k], none => some (.int .i64 (pickI bs l p k), p + 1, [rdC bs l p])
  | _, _ => none
theorem Bytes.get {bs : List Int} (h : Bytes bs) (i : Nat) : 0 ≤ bs.getD i 0 ∧ bs.getD i 0 ≤ 255 := by
  rw [List.getD_eq_getElem?_getD]
  rcases hx : bs[i]? with _ | b
  · simp
  · simpa using h b (List.mem_of_getElem? hx)
theorem xorI_bd {x : Int} (h0 : 0 ≤ x) (h1 : x < 4611686018427387904) : 0 ≤ xorI x ∧ xorI x < 9223372036854775808 := by
  have hq : 0 ≤ x.tdiv 64 ∧ x.tdiv 64 ≤ x := by
    rw [Int.tdiv_eq_ediv_of_nonneg h0]
    omega
  unfold xorI
  rw [wr (x := x.tdiv 64) (by omega)]
  obtain ⟨a, rfl⟩ := Int.eq_ofNat_of_zero_le h0
  obtain ⟨b, hb⟩ := Int.eq_ofNat_of_zero_le hq.1
  rw [hb]
  have hb' : (b : Int) ≤ a := by rw [← hb]; exact hq.2
  have e : (BitVec.ofInt IntKind.i64.bits (a : Int) ^^^ BitVec.ofInt IntKind.i64.bits (b : Int)).toNat = a ^^^ b := by
    show (BitVec.ofInt 64 (a : Int) ^^^ BitVec.ofInt 64 (b : Int)).toNat = a ^^^ b
    rw [BitVec.toNat_xor]
    simp only [BitVec.ofInt_natCast, BitVec.toNat_ofNat]
    rw [Nat.mod_eq_of_lt (by omega), Nat.mod_eq_of_lt (by omega)]
  have hlt : a ^^^ b < 2 ^ 63 := Nat.xor_lt_two_pow (by omega) (by omega)
  rw [e, wr (by omega)]
  omega
theorem mixI_bd {bs : List Int} {l : Nat} {p : Int} (h : rdC bs l p) (hl : 0 < l) : 0 ≤ mixI bs l p ∧ mixI bs l p < 1000000000 := by
  obtain ⟨_, h2, h3, h4, h5⟩ := h
  have b1 := h5.get (p.tmod l).toNat
  have b2 := h5.get ((p * 7 + 3).tmod l).toNat
  have q : 0 ≤ p.tdiv l ∧ p.tdiv l ≤ p := by
    rw [Int.tdiv_eq_ediv_of_nonneg h3]
    exact ⟨Int.ediv_nonneg h3 (by omega), Int.ediv_le_self _ h3⟩
  unfold mixI
  omega
theorem pickI_bd {bs : List Int} {l : Nat} {p k : Int} (h : rdC bs l p) (hk : 1 ≤ k) : 0 ≤ pickI bs l p k ∧ pickI bs l p k < k := by
  unfold pickI
  split
  · omega
  rename_i hn
  have hl : 0 < l := by omega
  split
  · exact ⟨Int.tmod_nonneg _ (h.2.2.2.2.get _).1, Int.tmod_lt_of_pos _ (by omega)⟩
  · have hm := mixI_bd h hl
    exact ⟨Int.tmod_nonneg _ (xorI_bd hm.1 (by omega)).1, Int.tmod_lt_of_pos _ (by omega)⟩
theorem vk {k : IntKind} {a b : Int} (h : a = b) : Value.int k a = .int k b := by rw [h]
theorem pickS_ok : SpecOk Try.prog 65 pickS := by
  intro bs l c p rest0 ex v p' C h hC
  unfold pickS at h
  split at h
  rotate_left
  · cases h
  rename_i k
  obtain ⟨rfl, rfl, rfl⟩ : Value.int .i64 (pickI bs l p k) = v ∧ p + 1 = p' ∧ [rdC bs l p] = C := by simpa using h
  have hC := hC.1
  have hg := fun i => hC.2.2.2.2.get i
  have hC0 := hC
  obtain ⟨h1, h2, h3, h4, h5⟩ := hC
  refine ⟨tabE B0, 30, 12, tabE_ok B0_ok, rfl, ?_⟩
  rw [tr_pick]
  have e1 : ŵ (p + 1) = p + 1 := wr (by omega)
  have e2 : ŵ (p + 1 - 1) = p := by rw [wr (by omega)]; omega
  have e3 : ŵ (p * 7) = p * 7 := wr (by omega)
  have e4 : ŵ (p * 7 + 3) = p * 7 + 3 := wr (by omega)
  simp only [e1, e2, e3, e4, Nat.zero_add, Nat.mul_one]
  refine brT_ok.2 ⟨fun hk => ?_, fun hk => brT_ok.2 ⟨fun hl => ?_, fun hl => brT_ok.2 ⟨fun hp => ?_, fun hp => ?_⟩⟩⟩
  · have hk := of_decide_eq_true hk
    refine ⟨vk ?_, rfl⟩
    unfold pickI
    rw [if_pos (.inl hk)]
  · have hl : l = 0 := by simpa using hl
    refine ⟨vk ?_, rfl⟩
    unfold pickI
    rw [if_pos (.inr hl)]
  · have hk := of_decide_eq_false hk
    have hl : ¬ l = 0 := by simpa using hl
    have hp := of_decide_eq_true hp
    refine ⟨⟨h3, hp⟩, by omega, by omega, vk ?_, rfl⟩
    rw [wr (by have := hg p.toNat; omega)]
    unfold pickI
    rw [if_neg (by omega), if_pos hp]
  · have hk := of_decide_eq_false hk
    have hl : ¬ l = 0 := by simpa using hl
    have hp := of_decide_eq_false hp
    have hl0 : (0 : Int) < l := by omega
    have t1 : 0 ≤ p.tmod l ∧ p.tmod l < l := ⟨Int.tmod_nonneg _ h3, Int.tmod_lt_of_pos _ hl0⟩
    have t2 : 0 ≤ (p * 7 + 3).tmod l ∧ (p * 7 + 3).tmod l < l := ⟨Int.tmod_nonneg _ (by omega), Int.tmod_lt_of_pos _ hl0⟩
    have q : 0 ≤ p.tdiv l ∧ p.tdiv l ≤ p := by
      rw [Int.tdiv_eq_ediv_of_nonneg h3]
      exact ⟨Int.ediv_nonneg h3 (by omega), Int.ediv_le_self _ h3⟩
    have b1 := hg (p.tmod l).toNat
    have b2 := hg ((p * 7 + 3).tmod l).toNat
    have hm := mixI_bd hC0 (by omega)
    refine ⟨by omega, t1, by omega, by omega, t2, by omega, by omega, by omega, by omega, vk ?_, rfl⟩
    unfold pickI
    rw [if_neg (by omega), if_neg (by omega)]
    have em : ŵ (ŵ (ŵ (ŵ (ŵ (bs.getD (p.tmod l).toNat 0) * 131) + ŵ (ŵ (bs.getD ((p * 7 + 3).tmod l).toNat 0) * 1117)) + ŵ (p * 29)) + ŵ (ŵ (p.tdiv l) * 53)) = mixI bs l p := by
      clear hm
      unfold mixI
      generalize bs.getD (p.tmod l).toNat 0 = x1 at *
      generalize bs.getD ((p * 7 + 3).tmod l).toNat 0 = x2 at *
      generalize p.tdiv l = x3 at *
      simp (disch := omega) only [wr]
    rw [em]
    rfl
def J1 : List (FuncId × RSpec) := [(65, pickS)]
theorem J1_ok : JOk Try.prog J1 := JOk.nil.cons (entersB_res (by kernel_rfl)).1 pickS_ok
def ER1 : Env := withJ (tabE B0) J1
theorem ER1_ok : EnvOk Try.prog ER1 := withJ_ok mixed (tabE_ok B0_ok) J1_ok
set_option maxRecDepth 100000 in
theorem tr_one (bs : List Int) (l c : Nat) (p : Int) (n : Nat) (xs : List Int) : bodyM Try.prog ER1 (runM Try.prog ER1 30 12) 30 62 [.pointer (some ⟨1, 0, none⟩), ß 2 n n] (memR bs l c p (some xs)) .fin = .need (rdC bs l p) (.need ((0 : Int) ≤ pickI bs l p (↑n : Int) ∧ pickI bs l p (↑n : Int) < (↑n : Int)) (.need ((0 : Nat) + (pickI bs l p (↑n : Int)).toNat * (1 : Nat) < xs.length) (.fin (.int .i64 (xs.getD (0 + (pickI bs l p (↑n : Int)).toNat * 1) 0)) [some ⟨.view, .bytes (bs)⟩, some ⟨.box, .vals [ß 0 (l) (c), .int .i64 (p + 1)]⟩, some ⟨.view, .ints (xs)⟩]))) := by kernel_rfl
set_option maxRecDepth 100000 in
theorem tr_rpt (bs : List Int) (l c : Nat) (p : Int) : bodyM Try.prog ER1 (runM Try.prog ER1 30 12) 30 87 [.pointer (some ⟨1, 0, none⟩)] (memR bs l c p none) .fin = .need (rdC bs l p) (.need (rdC bs l (p + (1 : Int))) (.fin (.agg #[.int .i64 (ŵ (pickI bs l p 9 - 2)), .int .i64 (ŵ (pickI bs l (p + 1) 9 - 2))]) [some ⟨.view, .bytes (bs)⟩, some ⟨.box, .vals [ß 0 (l) (c), .int .i64 (p + 1 + 1)]⟩, some ⟨.box, .vals [.int .i64 (ŵ (pickI bs l p 9 - 2)), .int .i64 (ŵ (pickI bs l (p + 1) 9 - 2))]⟩])) := by kernel_rfl
def rdK (bs : List Int) (l : Nat) (p : Int) : Prop := rdC bs l p ∧ p ≤ 900000
theorem rdK.at {bs : List Int} {l : Nat} {p : Int} (h : rdK bs l p) {q : Int} (h0 : p ≤ q) (h1 : q ≤ p + 90000) : rdC bs l q :=
  ⟨h.1.1, h.1.2.1, by have := h.1.2.2.1; omega, by have := h.2; omega, h.1.2.2.2.2⟩
def oneI (bs : List Int) (l : Nat) (p : Int) (n : Nat) (xs : List Int) : Int := xs.getD (pickI bs l p n).toNat 0
def oneS : RSpec := fun bs l p rest ex => match rest, ex with
  | [ß 2 n n'], some xs => some (.int .i64 (oneI bs l p n xs), p + 1, [rdC bs l p, 1 ≤ n ∧ n ≤ xs.length ∧ n' = n])
  | _, _ => none
theorem oneS_ok : SpecOk Try.prog 62 oneS := by
  intro bs l c p rest0 ex v p' C h hC
  unfold oneS at h
  split at h
  rotate_left
  · cases h
  rename_i n n' xs
  obtain ⟨rfl, rfl, rfl⟩ : Value.int .i64 (oneI bs l p n xs) = v ∧ p + 1 = p' ∧ [rdC bs l p, 1 ≤ n ∧ n ≤ xs.length ∧ n' = n] = C := by simpa using h
  obtain ⟨h1, ⟨h2, h3, rfl⟩, _⟩ := hC
  refine ⟨ER1, 30, 12, ER1_ok, rfl, ?_⟩
  rw [tr_one]
  have hb := pickI_bd (k := (n' : Int)) h1 (by omega)
  exact ⟨h1, hb, by omega, by simp only [oneI, Nat.zero_add, Nat.mul_one], rfl⟩
def rptS : RSpec := fun bs l p rest ex => match rest, ex with
  | [], none => some (.agg #[.int .i64 (pickI bs l p 9 - 2), .int .i64 (pickI bs l (p + 1) 9 - 2)], p + 2, [rdK bs l p])
  | _, _ => none
theorem box2 {bs : List Int} {l c : Nat} {p q : Int} (h : q = p) (r : List (Option Blk)) : (some ⟨.view, .bytes bs⟩ :: some ⟨.box, .vals [ß 0 l c, .int .i64 q]⟩ :: r : List (Option Blk)).getD 1 none = some (rdBox 0 l c p) := by rw [h]; rfl
theorem rptS_ok : SpecOk Try.prog 87 rptS := by
  intro bs l c p rest0 ex v p' C h hC
  unfold rptS at h
  split at h
  rotate_left
  · cases h
  obtain ⟨rfl, rfl, rfl⟩ : Value.agg #[.int .i64 (pickI bs l p 9 - 2), .int .i64 (pickI bs l (p + 1) 9 - 2)] = v ∧ p + 2 = p' ∧ [rdK bs l p] = C := by simpa using h
  have h1 := hC.1
  refine ⟨ER1, 30, 12, ER1_ok, rfl, ?_⟩
  rw [tr_rpt]
  have h2 := h1.at (q := p) (by omega) (by omega)
  have h3 := h1.at (q := p + 1) (by omega) (by omega)
  have b1 := pickI_bd (k := 9) h2 (by omega)
  have b2 := pickI_bd (k := 9) h3 (by omega)
  exact ⟨h2, h3, by rw [wr (by omega), wr (by omega)], box2 (by omega) _⟩
def J2 : List (FuncId × RSpec) := (62, oneS) :: (87, rptS) :: J1
theorem J2_ok : JOk Try.prog J2 := (J1_ok.cons (entersB_res (by kernel_rfl)).1 rptS_ok).cons (entersB_res (by kernel_rfl)).1 oneS_ok
def ER2 : Env := withJ (tabE B0) J2
theorem ER2_ok : EnvOk Try.prog ER2 := withJ_ok mixed (tabE_ok B0_ok) J2_ok
set_option maxRecDepth 100000 in
theorem tr_apt (bs : List Int) (l c : Nat) (p : Int) : bodyM Try.prog ER2 (runM Try.prog ER2 30 12) 30 61 [.pointer (some ⟨1, 0, none⟩)] (memR bs l c p none) .fin = .need (rdK bs l p) (.need (rdC bs l (p + (2 : Int))) (brT (pickI bs l (p + 2) 16 == 0) (.need (rdC bs l (p + (2 : Int) + (1 : Int))) (.need ((1 : Nat) ≤ (4 : Nat) ∧ (4 : Nat) ≤ (4 : Nat) ∧ (4 : Nat) = (4 : Nat)) (.fin (.agg #[.int .i64 (oneI bs l (p + 2 + 1) 4 [1001, -1001, 1000, -1000]), .int .i64 (pickI bs l (p + 1) 9 - 2)]) [some ⟨.view, .bytes (bs)⟩, some ⟨.box, .vals [ß 0 (l) (c), .int .i64 (p + 2 + 1 + 1)]⟩, some ⟨.box, .vals [.int .i64 (oneI bs l (p + 2 + 1) 4 [1001, -1001, 1000, -1000]), .int .i64 (pickI bs l (p + 1) 9 - 2)]⟩, some ⟨.box, .vals [.int .i64 (oneI bs l (p + 2 + 1) 4 [1001, -1001, 1000, -1000]), .int .i64 (pickI bs l (p + 1) 9 - 2)]⟩, some ⟨.row 3 1, .vals [.int .i64 (1001), .int .i64 (-1001), .int .i64 (1000), .int .i64 (-1000)]⟩]))) (brT (pickI bs l (p + 2) 16 == 1) (.need (rdC bs l (p + (2 : Int) + (1 : Int))) (.need ((1 : Nat) ≤ (4 : Nat) ∧ (4 : Nat) ≤ (4 : Nat) ∧ (4 : Nat) = (4 : Nat)) (.fin (.agg #[.int .i64 (pickI bs l p 9 - 2), .int .i64 (oneI bs l (p + 2 + 1) 4 [1001, -1001, 1000, -1000])]) [some ⟨.view, .bytes (bs)⟩, some ⟨.box, .vals [ß 0 (l) (c), .int .i64 (p + 2 + 1 + 1)]⟩, some ⟨.box, .vals [.int .i64 (pickI bs l p 9 - 2), .int .i64 (oneI bs l (p + 2 + 1) 4 [1001, -1001, 1000, -1000])]⟩, some ⟨.box, .vals [.int .i64 (pickI bs l p 9 - 2), .int .i64 (oneI bs l (p + 2 + 1) 4 [1001, -1001, 1000, -1000])]⟩, some ⟨.row 3 1, .vals [.int .i64 (1001), .int .i64 (-1001), .int .i64 (1000), .int .i64 (-1000)]⟩]))) (.fin (.agg #[.int .i64 (pickI bs l p 9 - 2), .int .i64 (pickI bs l (p + 1) 9 - 2)]) [some ⟨.view, .bytes (bs)⟩, some ⟨.box, .vals [ß 0 (l) (c), .int .i64 (p + 2 + 1)]⟩, some ⟨.box, .vals [.int .i64 (pickI bs l p 9 - 2), .int .i64 (pickI bs l (p + 1) 9 - 2)]⟩, some ⟨.box, .vals [.int .i64 (pickI bs l p 9 - 2), .int .i64 (pickI bs l (p + 1) 9 - 2)]⟩])))) := by kernel_rfl
def farI : List Int := [1001, -1001, 1000, -1000]
def apQ (bs : List Int) (l : Nat) (p : Int) : Int := pickI bs l (p + 2) 16
def apX (bs : List Int) (l : Nat) (p : Int) : Int := if apQ bs l p = 0 then oneI bs l (p + 3) 4 farI else pickI bs l p 9 - 2
def apY (bs : List Int) (l : Nat) (p : Int) : Int := if apQ bs l p = 1 then oneI bs l (p + 3) 4 farI else pickI bs l (p + 1) 9 - 2
def apP (bs : List Int) (l : Nat) (p : Int) : Int := if apQ bs l p = 0 ∨ apQ bs l p = 1 then p + 4 else p + 3
def aptS : RSpec := fun bs l p rest ex => match rest, ex with
  | [], none => some (.agg #[.int .i64 (apX bs l p), .int .i64 (apY bs l p)], apP bs l p, [rdK bs l p])
  | _, _ => none
theorem veq2 {a a' b b' : Int} (h : a = a') (k : b = b') : Value.agg #[.int .i64 a, .int .i64 b] = .agg #[.int .i64 a', .int .i64 b'] := by rw [h, k]
theorem aptS_ok : SpecOk Try.prog 61 aptS := by
  intro bs l c p rest0 ex v p' C h hC
  unfold aptS at h
  split at h
  rotate_left
  · cases h
  obtain ⟨rfl, rfl, rfl⟩ : Value.agg #[.int .i64 (apX bs l p), .int .i64 (apY bs l p)] = v ∧ apP bs l p = p' ∧ [rdK bs l p] = C := by simpa using h
  have h1 := hC.1
  refine ⟨ER2, 30, 12, ER2_ok, rfl, ?_⟩
  rw [tr_apt]
  have e3 : p + 2 + 1 = p + 3 := by omega
  have e4 : p + 3 + 1 = p + 4 := by omega
  simp only [e3, e4]
  refine ⟨h1, h1.at (by omega) (by omega), brT_ok.2 ⟨fun hq => ?_, fun hq => brT_ok.2 ⟨fun hq' => ?_, fun hq' => ?_⟩⟩⟩
  · have hq : apQ bs l p = 0 := by simpa [apQ] using hq
    exact ⟨h1.at (by omega) (by omega), by decide, veq2 (by unfold apX; rw [if_pos hq]; rfl) (by unfold apY; rw [if_neg (by omega)]), box2 (by unfold apP; rw [if_pos (.inl hq)]) _⟩
  · have hq : ¬ apQ bs l p = 0 := by simpa [apQ] using hq
    have hq' : apQ bs l p = 1 := by simpa [apQ] using hq'
    exact ⟨h1.at (by omega) (by omega), by decide, veq2 (by unfold apX; rw [if_neg hq]) (by unfold apY; rw [if_pos hq']; rfl), box2 (by unfold apP; rw [if_pos (.inr hq')]) _⟩
  · have hq : ¬ apQ bs l p = 0 := by simpa [apQ] using hq
    have hq' : ¬ apQ bs l p = 1 := by simpa [apQ] using hq'
    exact ⟨veq2 (by unfold apX; rw [if_neg hq]) (by unfold apY; rw [if_neg hq']), box2 (by unfold apP; rw [if_neg (by omega)]) _⟩
def J3 : List (FuncId × RSpec) := (61, aptS) :: J2
theorem J3_ok : JOk Try.prog J3 := J2_ok.cons (entersB_res (by kernel_rfl)).1 aptS_ok
def rdL (n : Nat) : Nat := min n 2000
theorem rdL_of {n : Nat} (h : 2000 < (n : Int)) : rdL n = 2000 := by unfold rdL; omega
theorem rdL_no {n : Nat} (h : ¬ 2000 < (n : Int)) : rdL n = n := by unfold rdL; omega
theorem rdK0 {bs : List Int} {n : Nat} (h : Bytes bs) (hn : n ≤ bs.length) {l : Nat} (hl : l ≤ n) (h2 : l ≤ 2000) {p : Int} (h3 : 0 ≤ p) (h4 : p ≤ 900000) : rdK bs l p :=
  ⟨⟨by omega, h2, h3, by omega, h⟩, h4⟩
theorem bnd2000 {n : Nat} (h : 2000 < (n : Int)) : (0 : Int) ≤ bndI none (0 : Int) ∧ bndI none (0 : Int) ≤ bndI (some (IntKind.i64, (2000 : Int))) (↑n : Int) ∧ bndI (some (IntKind.i64, (2000 : Int))) (↑n : Int) ≤ (↑n : Int) := by
  refine ⟨Int.le_refl _, ?_, ?_⟩
  · show (0 : Int) ≤ 2000; omega
  · show (2000 : Int) ≤ n; omega
def d3 (bs : List Int) (n : Nat) : Nat → Int
  | 0 => apX bs (rdL n) 0
  | 1 => apY bs (rdL n) 0
  | 2 => apX bs (rdL n) (apP bs (rdL n) 0)
  | 3 => apY bs (rdL n) (apP bs (rdL n) 0)
  | 4 => apX bs (rdL n) (apP bs (rdL n) (apP bs (rdL n) 0))
  | _ => apY bs (rdL n) (apP bs (rdL n) (apP bs (rdL n) 0))
end Go.Proofs.Ytbfoheblcoakiaa
