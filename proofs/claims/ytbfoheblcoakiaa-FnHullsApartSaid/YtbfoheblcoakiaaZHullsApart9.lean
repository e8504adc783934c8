/-
  Texts that the proof needs, merged. Written by an AI agent.
-/
import Derived.Orders
import Derived.Below
import Derived.OrdersIn
import Derived.Deep.LoopGhost
import Derived.WalkKit
import Derived.Laws.CopyRow
import Derived.Laws.AppendOwn
import Derived.Laws.Slices
import Derived.Laws.MakeOwn
import Derived.Test.YtbfoheblcoakiaaRows
import Derived.ProofKit
import Derived.OpenShut
import Derived.Carry
import Derived.IntWalk
import Derived.Test.YtbfoheblcoakiaaProg
import Derived.WalkSpells
import Derived.WalkLawsBesides
import Derived.Lib.Hide
import Derived.Deep.QuietTactic
import Derived.BigQuiet
import Derived.KernelRfl
import Derived.Deep.RegionHeld3
import Derived.LoopTactic
import Derived.Laws.StructEq
import Derived.Laws.Tables
import Derived.RangeFuncNested
import Derived.RangeFuncLeaves
import Derived.Deep.Slices
import Derived.Deep.Fields
import Derived.ChangeSame
import Derived.Deep.DeepCutAuto
import Derived.Shelf.SlSortCmp.WholeK
import Derived.Sort.Grow
import Derived.Shelf.SlSortCmp.NoneTotal
import Derived.Test.YtbfoheblcoakiaaZHullsApart8
set_option linter.all false
namespace Go.Proofs.Ytbfoheblcoakiaa
open Go.RowKit
def rpt (bs : List Int) (l : Nat) (k p : Int) : Pt :=
  bif k == 0 then (pickI bs l p 9 - 2, ŵ (ŵ (2 * (pickI bs l p 9 - 2)) + 1))
  else bif k == 1 then (ŵ ((pickI bs l p 9 - 2) * 100), ŵ ((pickI bs l (p + 1) 9 - 2) * 37))
  else (pickI bs l p 9 - 2, pickI bs l (p + 1) 9 - 2)
def rpL (bs : List Int) (l : Nat) (k : Int) : Nat → Int → List Pt
  | 0, _ => []
  | n + 1, p => rpt bs l k p :: rpL bs l k n (p + 2)
theorem rpL_len (bs : List Int) (l : Nat) (k : Int) : ∀ (n : Nat) (p : Int), (rpL bs l k n p).length = n
  | 0, _ => rfl
  | n + 1, p => by simp [rpL, rpL_len bs l k n]
theorem rpL_step (bs : List Int) (l : Nat) (k : Int) (n : Nat) (p : Int) (o : List Pt) : o ++ rpL bs l k (n + 1) p = (o ++ [rpt bs l k p]) ++ rpL bs l k n (p + 2) := by
  simp [rpL]
theorem flatA (o : List Pt) : List.take (o.length * 2) (List.drop 0 (flat o)) = flat o := by rw [List.drop_zero, flat_all]
noncomputable def c_rpts : Code := ((loopsOf (codeOf Try.f86))[0]?).getD .skip
def k_rpts : Ex → List Nat := keeps [0, 5, 6, 7] [(0, [5])] [4]
def s_rpts (bs : List Int) (l c : Nat) (k q : Int) : Nat × (List Pt) × Int → St := fun (n, o, p) => ⟨(.pointer (some ⟨1, 0, none⟩) :: ω4 ß 3 o.length o.length :: .int .i64 k :: .int .i64 n :: ω35 []), [some ⟨.view, .bytes bs⟩, some ⟨.box, .vals [ß 0 l c, .int .i64 p]⟩, some ⟨.dead, .vals []⟩, some ⟨.row 32 2, .ints (flat o)⟩]⟩
def re_rpts : Nat × (List Pt) × Int → Ex := fun _ => .exit 0
def rs_rpts (bs : List Int) (l c : Nat) (k q : Int) : Nat × (List Pt) × Int → St := fun (n, o, p) => ⟨(ω5 ß 3 (o ++ rpL bs l k n p).length (o ++ rpL bs l k n p).length :: ω37 []), [some ⟨.view, .bytes bs⟩, some ⟨.box, .vals [ß 0 l c, .int .i64 q]⟩, some ⟨.dead, .vals []⟩, some ⟨.row 32 2, .ints (flat (o ++ rpL bs l k n p))⟩]⟩
set_option maxRecDepth 100000 in
theorem tr_rpts (bs : List Int) (l c : Nat) (k q : Int) (n : Nat) (o : List Pt) (p : Int) : bodyL Try.prog ER2 30 12 noL 1 c_rpts k_rpts 16 (s_rpts bs l c k q (n, o, p)) = brT (decide (0 < (↑n : Int))) (.need (rdK bs l p) (brT (k == 0) (brT (k == 1) (.need ((o.length + (1 : Nat)) * (16 : Nat) ≤ (140737488355328 : Nat) ∧ o.length + (1 : Nat) ≤ (2000000 : Nat)) (.need ((0 : Nat) + o.length * (2 : Nat) ≤ (flat o).length) (.leaf .normal ⟨(.pointer (some ⟨1, 0, none⟩) :: ω4 ß 6 (o.length + 1) (o.length + 1) :: .int .i64 (k) :: .int .i64 (ŵ ((↑n : Int) - 1)) :: ω35 []), [some ⟨.view, .bytes (bs)⟩, some ⟨.box, .vals [ß 0 (l) (c), .int .i64 (p + 2)]⟩, some deadB, some deadB, some ⟨.box, .vals [.int .i64 (ŵ ((pickI bs l p 9 - 2) * 100)), .int .i64 (ŵ (ŵ (ŵ (2 * (pickI bs l p 9 - 2)) + 1) * 37))]⟩, some ⟨.row 32 2, .vals [.int .i64 (ŵ ((pickI bs l p 9 - 2) * 100)), .int .i64 (ŵ (ŵ (ŵ (2 * (pickI bs l p 9 - 2)) + 1) * 37))]⟩, some ⟨.row 32 2, .ints (List.take (o.length * 2) (List.drop 0 (flat o)) ++ [ŵ ((pickI bs l p 9 - 2) * 100), ŵ (ŵ (ŵ (2 * (pickI bs l p 9 - 2)) + 1) * 37)])⟩]⟩))) (.need ((o.length + (1 : Nat)) * (16 : Nat) ≤ (140737488355328 : Nat) ∧ o.length + (1 : Nat) ≤ (2000000 : Nat)) (.need ((0 : Nat) + o.length * (2 : Nat) ≤ (flat o).length) (.leaf .normal ⟨(.pointer (some ⟨1, 0, none⟩) :: ω4 ß 6 (o.length + 1) (o.length + 1) :: .int .i64 (k) :: .int .i64 (ŵ ((↑n : Int) - 1)) :: ω35 []), [some ⟨.view, .bytes (bs)⟩, some ⟨.box, .vals [ß 0 (l) (c), .int .i64 (p + 2)]⟩, some deadB, some deadB, some ⟨.box, .vals [.int .i64 (pickI bs l p 9 - 2), .int .i64 (ŵ (ŵ (2 * (pickI bs l p 9 - 2)) + 1))]⟩, some ⟨.row 32 2, .vals [.int .i64 (pickI bs l p 9 - 2), .int .i64 (ŵ (ŵ (2 * (pickI bs l p 9 - 2)) + 1))]⟩, some ⟨.row 32 2, .ints (List.take (o.length * 2) (List.drop 0 (flat o)) ++ [pickI bs l p 9 - 2, ŵ (ŵ (2 * (pickI bs l p 9 - 2)) + 1)])⟩]⟩)))) (brT (k == 1) (.need ((o.length + (1 : Nat)) * (16 : Nat) ≤ (140737488355328 : Nat) ∧ o.length + (1 : Nat) ≤ (2000000 : Nat)) (.need ((0 : Nat) + o.length * (2 : Nat) ≤ (flat o).length) (.leaf .normal ⟨(.pointer (some ⟨1, 0, none⟩) :: ω4 ß 6 (o.length + 1) (o.length + 1) :: .int .i64 (k) :: .int .i64 (ŵ ((↑n : Int) - 1)) :: ω35 []), [some ⟨.view, .bytes (bs)⟩, some ⟨.box, .vals [ß 0 (l) (c), .int .i64 (p + 2)]⟩, some deadB, some deadB, some ⟨.box, .vals [.int .i64 (ŵ ((pickI bs l p 9 - 2) * 100)), .int .i64 (ŵ ((pickI bs l (p + 1) 9 - 2) * 37))]⟩, some ⟨.row 32 2, .vals [.int .i64 (ŵ ((pickI bs l p 9 - 2) * 100)), .int .i64 (ŵ ((pickI bs l (p + 1) 9 - 2) * 37))]⟩, some ⟨.row 32 2, .ints (List.take (o.length * 2) (List.drop 0 (flat o)) ++ [ŵ ((pickI bs l p 9 - 2) * 100), ŵ ((pickI bs l (p + 1) 9 - 2) * 37)])⟩]⟩))) (.need ((o.length + (1 : Nat)) * (16 : Nat) ≤ (140737488355328 : Nat) ∧ o.length + (1 : Nat) ≤ (2000000 : Nat)) (.need ((0 : Nat) + o.length * (2 : Nat) ≤ (flat o).length) (.leaf .normal ⟨(.pointer (some ⟨1, 0, none⟩) :: ω4 ß 6 (o.length + 1) (o.length + 1) :: .int .i64 (k) :: .int .i64 (ŵ ((↑n : Int) - 1)) :: ω35 []), [some ⟨.view, .bytes (bs)⟩, some ⟨.box, .vals [ß 0 (l) (c), .int .i64 (p + 2)]⟩, some deadB, some deadB, some ⟨.box, .vals [.int .i64 (pickI bs l p 9 - 2), .int .i64 (pickI bs l (p + 1) 9 - 2)]⟩, some ⟨.row 32 2, .vals [.int .i64 (pickI bs l p 9 - 2), .int .i64 (pickI bs l (p + 1) 9 - 2)]⟩, some ⟨.row 32 2, .ints (List.take (o.length * 2) (List.drop 0 (flat o)) ++ [pickI bs l p 9 - 2, pickI bs l (p + 1) 9 - 2])⟩]⟩)))))) (.leaf (.exit 0) ⟨(ω5 ß 3 (o.length) (o.length) :: ω37 []), [some ⟨.view, .bytes (bs)⟩, some ⟨.box, .vals [ß 0 (l) (c), .int .i64 (p)]⟩, some deadB, some ⟨.row 32 2, .ints (flat o)⟩]⟩) := by kernel_rfl
set_option maxRecDepth 100000 in
theorem nl_rpts : loopsOf c_rpts = [] := by kernel_rfl
def inv_rpts (bs : List Int) (l c : Nat) (k q : Int) : Nat × (List Pt) × Int → Prop := fun (n, o, p) => o.length + n ≤ 100 ∧ q = p + 2 * n ∧ 0 ≤ p ∧ q ≤ 900000
def me_rpts (bs : List Int) (l c : Nat) (k q : Int) : Nat × (List Pt) × Int → Nat := fun (n, o, p) => n
def Round_rpts (bs : List Int) (l c : Nat) (k q : Int) : Prop := ∀ xx : Nat × (List Pt) × Int, inv_rpts bs l c k q xx → (bodyL Try.prog ER2 30 12 noL 1 c_rpts k_rpts 16 (s_rpts bs l c k q xx)).ok (RoundEnd 3 (s_rpts bs l c k q) (inv_rpts bs l c k q) (me_rpts bs l c k q) re_rpts (rs_rpts bs l c k q) xx) (fun _ _ => False)
def e_rpts (s : St) (k : Ex → St → Tree) : Option Tree := match Nat.beq s.tmps.length 43, pickL s.tmps [0, 5, 6, 7], s.mem with
  | true, [.pointer (some ⟨1, 0, none⟩), ß 2 z _, .int .i64 k1, .int .i64 n1], [some ⟨.view, .bytes bs⟩, some ⟨.box, .vals [ß 0 l c, .int .i64 p]⟩, some ⟨.row 32 2, .vals []⟩] => some (needs [z = 0, 0 ≤ n1 ∧ n1 ≤ 100, l ≤ bs.length ∧ l ≤ 2000 ∧ Bytes bs, 0 ≤ p ∧ p ≤ 800000] (k (.exit 0) ⟨(ω5 ß 3 (rpL bs l k1 n1.toNat p).length (rpL bs l k1 n1.toNat p).length :: ω37 []), [some ⟨.view, .bytes bs⟩, some ⟨.box, .vals [ß 0 l c, .int .i64 (p + 2 * n1)]⟩, some ⟨.dead, .vals []⟩, some ⟨.row 32 2, .ints (flat (rpL bs l k1 n1.toNat p))⟩]⟩))
  | _, _, _ => none
theorem rpt0 {bs : List Int} {l : Nat} {k p : Int} (h : k = 0) : rpt bs l k p = (pickI bs l p 9 - 2, ŵ (ŵ (2 * (pickI bs l p 9 - 2)) + 1)) := by
  subst h; rfl
theorem rpt1 {bs : List Int} {l : Nat} {k p : Int} (h : k = 1) : rpt bs l k p = (ŵ ((pickI bs l p 9 - 2) * 100), ŵ ((pickI bs l (p + 1) 9 - 2) * 37)) := by
  subst h; rfl
theorem rpt2 {bs : List Int} {l : Nat} {k p : Int} (h : ¬ k = 0) (h' : ¬ k = 1) : rpt bs l k p = (pickI bs l p 9 - 2, pickI bs l (p + 1) 9 - 2) := by
  unfold rpt
  rw [beq_eq_false_iff_ne.2 h, beq_eq_false_iff_ne.2 h']
  rfl
set_option maxRecDepth 100000 in
theorem round_rpts (bs : List Int) (l c : Nat) (k q : Int) (h : l ≤ bs.length ∧ l ≤ 2000 ∧ Bytes bs) : Round_rpts bs l c k q := by
  rintro ⟨n, o, p⟩ ⟨h1, h2, h3, h4⟩
  rw [tr_rpts]
  simp only [brT_ok, Tree.ok, decide_eq_true_eq, decide_eq_false_iff_not, flatA, flat_length, Nat.zero_add, beq_iff_eq, beq_eq_false_iff_ne, ne_eq]
  have hr : rdK bs l p := ⟨⟨h.1, h.2.1, h3, by omega, h.2.2⟩, by omega⟩
  refine ⟨fun hlt => ⟨hr, ?_⟩, fun hge => ?_⟩
  · obtain ⟨n, rfl⟩ : ∃ m, n = m + 1 := ⟨n - 1, by omega⟩
    have e : ŵ (((n + 1 : Nat) : Int) - 1) = (n : Int) := by rw [wr (by omega)]; omega
    rw [e]
    refine ⟨fun g0 => ⟨fun g1 => by omega, fun g1 => ?_⟩, fun g0 => ⟨fun g1 => ?_, fun g1 => ?_⟩⟩
    · rw [flat_snoc, ← rpt0 g0]
      refine ⟨by omega, by omega, (n, o ++ [rpt bs l k p], p + 2), [some 6], ⟨by simp; omega, by omega, by omega, by omega⟩, ?_, rfl, ?_, ?_⟩
      · show n < n + 1; omega
      · simp only [rs_rpts, rpL_step]
      · repeat' (first | exact True.intro | exact rfl | exact fun _ => rfl | (simp; done) | refine And.intro ?_ ?_)
    · rw [flat_snoc, ← rpt1 g1]
      refine ⟨by omega, by omega, (n, o ++ [rpt bs l k p], p + 2), [some 6], ⟨by simp; omega, by omega, by omega, by omega⟩, ?_, rfl, ?_, ?_⟩
      · show n < n + 1; omega
      · simp only [rs_rpts, rpL_step]
      · repeat' (first | exact True.intro | exact rfl | exact fun _ => rfl | (simp; done) | refine And.intro ?_ ?_)
    · rw [flat_snoc, ← rpt2 g0 g1]
      refine ⟨by omega, by omega, (n, o ++ [rpt bs l k p], p + 2), [some 6], ⟨by simp; omega, by omega, by omega, by omega⟩, ?_, rfl, ?_, ?_⟩
      · show n < n + 1; omega
      · simp only [rs_rpts, rpL_step]
      · repeat' (first | exact True.intro | exact rfl | exact fun _ => rfl | (simp; done) | refine And.intro ?_ ?_)
  · obtain rfl : n = 0 := by omega
    refine ⟨rfl, [some 3], ?_⟩
    obtain rfl : q = p := by omega
    simp only [rs_rpts, rpL, List.append_nil]
    repeat' (first | exact True.intro | exact rfl | exact fun _ => rfl | refine And.intro ?_ ?_)
set_option maxRecDepth 100000 in
theorem lg_rpts : LoopE Try.prog e_rpts c_rpts := by
  intro s k t F H hlt ht
  unfold e_rpts at hlt
  split at hlt
  rotate_left
  · cases hlt
  rename_i hlen hpick hmem
  obtain ⟨tmps, mem⟩ := s
  simp only at hlen hpick hmem
  subst hmem
  obtain rfl := Option.some.inj hlt
  obtain ⟨⟨rfl, h1, h2, h3, _⟩, ht2⟩ := needs_ok ht
  clear ht hlt
  obtain ⟨n, rfl⟩ := Int.eq_ofNat_of_zero_le h1.1
  simp only [Int.toNat_natCast] at ht2
  refine ⟨_, _, ht2, loop_run2 mixed ER2_ok (s_rpts _ _ _ _ _) (inv_rpts _ _ _ _ _) (me_rpts _ _ _ _ _) re_rpts (rs_rpts _ _ _ _ _) k_rpts (fun _ => rfl) (noLoops nl_rpts) (round_rpts _ _ _ _ _ h2) (x := (n, [], _)) ⟨by simp; omega, rfl, h3.1, by omega⟩ (π := [some 2]) rfl ?_⟩
  refine ⟨rfl, rfl, ?_, wvs_spread' [0, 5, 6, 7] hlen rfl ?_⟩
  · repeat' (first | exact True.intro | exact rfl | exact wv_top _ _ | exact fun _ => rfl | assumption | exact Eq.symm (by assumption) | exact vI0 rfl | refine And.intro ?_ ?_)
  · rw [hpick]
    repeat' (first | exact True.intro | exact rfl | exact wv_top _ _ | exact fun _ => rfl | assumption | exact Eq.symm (by assumption) | exact vI0 rfl | refine And.intro ?_ ?_)
theorem Lr_rpts {fn : Func} (hf : Try.prog.funcs[86]? = some fn) : LoopsGood Try.prog (lt1 e_rpts) 0 (codeOf fn) := by
  obtain rfl := fn_is Try.func86 hf
  exact lt1_good lg_rpts
def LRd1 : FuncId → LT := fun f => match f with
  | 86 => lt1 e_rpts
  | _ => noL
def ERL : Env := ⟨B0, fun _ _ => none, LRd1, tabJ J2, fun _ => noR⟩
theorem ERL_ok : EnvOk Try.prog ERL := ⟨B0_ok, fun _ _ _ _ _ h => (by cases h), (by
  intro f fn hf
  show LoopsGood Try.prog (LRd1 f) 0 (codeOf fn)
  unfold LRd1
  split
  all_goals first | with_reducible exact Lr_rpts hf | exact noL_good), tabJ_sound mixed J2_ok, fun _ _ _ => noR_good⟩
set_option maxRecDepth 100000 in
theorem tr_rptsF (bs : List Int) (l c : Nat) (p m : Int) : bodyM Try.prog ERL (runM Try.prog ERL 30 12) 30 86 [.pointer (some ⟨1, 0, none⟩), .int .i64 m] (memR bs l c p none) .fin = .need (rdC bs l p) (.need (rdC bs l (p + (1 : Int))) (.need ((0 : Nat) = (0 : Nat)) (.need ((0 : Int) ≤ pickI bs l (p + (1 : Int)) (ŵ (m + (1 : Int))) ∧ pickI bs l (p + (1 : Int)) (ŵ (m + (1 : Int))) ≤ (100 : Int)) (.need (l ≤ bs.length ∧ l ≤ (2000 : Nat) ∧ Bytes bs) (.need ((0 : Int) ≤ p + (1 : Int) + (1 : Int) ∧ p + (1 : Int) + (1 : Int) ≤ (800000 : Int)) (.fin (ß 3 ((rpL bs l (pickI bs l p 6) (pickI bs l (p + 1) (ŵ (m + 1))).toNat (p + 1 + 1)).length) ((rpL bs l (pickI bs l p 6) (pickI bs l (p + 1) (ŵ (m + 1))).toNat (p + 1 + 1)).length)) [some ⟨.view, .bytes (bs)⟩, some ⟨.box, .vals [ß 0 (l) (c), .int .i64 (p + 1 + 1 + 2 * pickI bs l (p + 1) (ŵ (m + 1)))]⟩, some deadB, some ⟨.row 32 2, .ints (flat (rpL bs l (pickI bs l p 6) (pickI bs l (p + 1) (ŵ (m + 1))).toNat (p + 1 + 1)))⟩])))))) := by kernel_rfl
def rpN (bs : List Int) (l : Nat) (p m : Int) : Int := pickI bs l (p + 1) (m + 1)
def rpsL (bs : List Int) (l : Nat) (p m : Int) : List Pt := rpL bs l (pickI bs l p 6) (rpN bs l p m).toNat (p + 2)
abbrev rowL (ps : List Pt) : Value := ß 0 ps.length ps.length
def rptsS : RSpecR := fun bs l p rest => match rest with
  | [.int .i64 m] => some (rowL (rpsL bs l p m), ⟨.row 32 2, .ints (flat (rpsL bs l p m))⟩, p + 2 + 2 * rpN bs l p m, [rdC bs l p, p ≤ 700000, 0 ≤ m ∧ m ≤ 90])
  | _ => none
theorem rptsS_ok : SpecROk Try.prog 86 rptsS := by
  intro bs l c p rest v b p' C h hC
  unfold rptsS at h
  split at h
  rotate_left
  · cases h
  rename_i m
  obtain ⟨rfl, rfl, rfl, rfl⟩ : rowL (rpsL bs l p m) = v ∧ (⟨.row 32 2, .ints (flat (rpsL bs l p m))⟩ : Blk) = b ∧ p + 2 + 2 * rpN bs l p m = p' ∧ [rdC bs l p, p ≤ 700000, 0 ≤ m ∧ m ≤ 90] = C := by simpa using h
  obtain ⟨h1, h2, h3, _⟩ := hC
  refine ⟨rfl, ERL, 30, 12, ERL_ok, ?_⟩
  rw [tr_rptsF]
  have w : ŵ (m + 1) = m + 1 := wr (by omega)
  have r1 : rdC bs l (p + 1) := ⟨h1.1, h1.2.1, by have := h1.2.2.1; omega, by omega, h1.2.2.2.2⟩
  have b1 := pickI_bd (k := m + 1) r1 (by omega)
  have e : p + 1 + 1 = p + 2 := by omega
  have := h1.2.2.1
  rw [w, e]
  exact ⟨h1, r1, rfl, ⟨b1.1, by omega⟩, ⟨h1.1, h1.2.1, h1.2.2.2.2⟩, ⟨by omega, by omega⟩, rfl, some 3, ⟨rfl, rfl, rfl⟩, rfl, rfl, rfl⟩
def JL1 : TabJ := consR 86 (rdGR rptsS) (tabJ J2)
theorem JL1_ok : GSound Try.prog JL1.g := consR_ok mixed (tabJ_sound mixed J2_ok) (entersB_res (by kernel_rfl)).1 rptsS_ok
noncomputable def c_fill : Code := ((loopsOf (codeOf Try.f60))[0]?).getD .skip
def k_fill : Ex → List Nat := keeps [0, 5] [(1, [5]), (0, [5])] [4]
def s_fill (bs : List Int) (l c : Nat) (q : Int) : Nat × (List Pt) × Int → St := fun (n, o, p) => ⟨(.pointer (some ⟨1, 0, none⟩) :: ω4 ß 3 o.length o.length :: ω28 []), [some ⟨.view, .bytes bs⟩, some ⟨.box, .vals [ß 0 l c, .int .i64 p]⟩, some ⟨.dead, .vals []⟩, some ⟨.row 32 2, .ints (flat o)⟩]⟩
def re_fill : Nat × (List Pt) × Int → Ex := fun _ => .exit 1
def rs_fill (bs : List Int) (l c : Nat) (q : Int) : Nat × (List Pt) × Int → St := fun (n, o, p) => ⟨(ω5 ß 3 (o ++ rpL bs l 2 n p).length (o ++ rpL bs l 2 n p).length :: ω28 []), [some ⟨.view, .bytes bs⟩, some ⟨.box, .vals [ß 0 l c, .int .i64 q]⟩, some ⟨.dead, .vals []⟩, some ⟨.row 32 2, .ints (flat (o ++ rpL bs l 2 n p))⟩]⟩
set_option maxRecDepth 100000 in
theorem tr_fill (bs : List Int) (l c : Nat) (q : Int) (n : Nat) (o : List Pt) (p : Int) : bodyL Try.prog ER2 30 12 noL 1 c_fill k_fill 16 (s_fill bs l c q (n, o, p)) = brT (decide ((↑o.length : Int) < 21)) (.need (rdK bs l p) (.need ((o.length + (1 : Nat)) * (16 : Nat) ≤ (140737488355328 : Nat) ∧ o.length + (1 : Nat) ≤ (2000000 : Nat)) (.need ((0 : Nat) + o.length * (2 : Nat) ≤ (flat o).length) (.leaf .normal ⟨(.pointer (some ⟨1, 0, none⟩) :: ω4 ß 5 (o.length + 1) (o.length + 1) :: ω28 []), [some ⟨.view, .bytes (bs)⟩, some ⟨.box, .vals [ß 0 (l) (c), .int .i64 (p + 2)]⟩, some deadB, some deadB, some ⟨.row 32 2, .vals [.int .i64 (pickI bs l p 9 - 2), .int .i64 (pickI bs l (p + 1) 9 - 2)]⟩, some ⟨.row 32 2, .ints (List.take (o.length * 2) (List.drop 0 (flat o)) ++ [pickI bs l p 9 - 2, pickI bs l (p + 1) 9 - 2])⟩]⟩)))) (.leaf (.exit 1) ⟨(ω5 ß 3 (o.length) (o.length) :: ω28 []), [some ⟨.view, .bytes (bs)⟩, some ⟨.box, .vals [ß 0 (l) (c), .int .i64 (p)]⟩, some deadB, some ⟨.row 32 2, .ints (flat o)⟩]⟩) := by kernel_rfl
set_option maxRecDepth 100000 in
theorem nl_fill : loopsOf c_fill = [] := by kernel_rfl
def inv_fill (bs : List Int) (l c : Nat) (q : Int) : Nat × (List Pt) × Int → Prop := fun (n, o, p) => o.length + n = 21 ∧ q = p + 2 * n ∧ 0 ≤ p ∧ q ≤ 900000
def me_fill (bs : List Int) (l c : Nat) (q : Int) : Nat × (List Pt) × Int → Nat := fun (n, o, p) => n
def Round_fill (bs : List Int) (l c : Nat) (q : Int) : Prop := ∀ xx : Nat × (List Pt) × Int, inv_fill bs l c q xx → (bodyL Try.prog ER2 30 12 noL 1 c_fill k_fill 16 (s_fill bs l c q xx)).ok (RoundEnd 3 (s_fill bs l c q) (inv_fill bs l c q) (me_fill bs l c q) re_fill (rs_fill bs l c q) xx) (fun _ _ => False)
def e_fill (s : St) (k : Ex → St → Tree) : Option Tree := match Nat.beq s.tmps.length 34, pickL s.tmps [0, 5], s.mem with
  | true, [.pointer (some ⟨1, 0, none⟩), ß 2 z _], [some ⟨.view, .bytes bs⟩, some ⟨.box, .vals [ß 0 l c, .int .i64 p]⟩, some ⟨.row 32 2, .ints xs⟩] => some (needs [xs.length = z * 2, z ≤ 21, l ≤ bs.length ∧ l ≤ 2000 ∧ Bytes bs, 0 ≤ p ∧ p ≤ 800000] (k (.exit 1) ⟨(ω5 ß 3 (ptsA z xs ++ rpL bs l 2 (21 - z) p).length (ptsA z xs ++ rpL bs l 2 (21 - z) p).length :: ω28 []), [some ⟨.view, .bytes bs⟩, some ⟨.box, .vals [ß 0 l c, .int .i64 (p + 2 * (21 - z : Nat))]⟩, some ⟨.dead, .vals []⟩, some ⟨.row 32 2, .ints (flat (ptsA z xs ++ rpL bs l 2 (21 - z) p))⟩]⟩))
  | _, _, _ => none
set_option maxRecDepth 100000 in
theorem round_fill (bs : List Int) (l c : Nat) (q : Int) (h : l ≤ bs.length ∧ l ≤ 2000 ∧ Bytes bs) : Round_fill bs l c q := by
  rintro ⟨n, o, p⟩ ⟨h1, h2, h3, h4⟩
  rw [tr_fill]
  simp only [brT_ok, Tree.ok, decide_eq_true_eq, decide_eq_false_iff_not, flatA, flat_length, Nat.zero_add]
  have hr : rdK bs l p := ⟨⟨h.1, h.2.1, h3, by omega, h.2.2⟩, by omega⟩
  refine ⟨fun hlt => ?_, fun hge => ?_⟩
  · obtain ⟨n, rfl⟩ : ∃ m, n = m + 1 := ⟨n - 1, by omega⟩
    rw [flat_snoc, ← rpt2 (k := 2) (by decide) (by decide)]
    refine ⟨hr, by omega, by omega, (n, o ++ [rpt bs l 2 p], p + 2), [some 5], ⟨by simp; omega, by omega, by omega, by omega⟩, ?_, rfl, ?_, ?_⟩
    · show n < n + 1; omega
    · simp only [rs_fill, rpL_step]
    · repeat' (first | exact True.intro | exact rfl | exact fun _ => rfl | (simp; done) | refine And.intro ?_ ?_)
  · obtain rfl : n = 0 := by omega
    refine ⟨rfl, [some 3], ?_⟩
    obtain rfl : q = p := by omega
    simp only [rs_fill, rpL, List.append_nil]
    repeat' (first | exact True.intro | exact rfl | exact fun _ => rfl | refine And.intro ?_ ?_)
set_option maxRecDepth 100000 in
theorem lg_fill : LoopE Try.prog e_fill c_fill := by
  intro s k t F H hlt ht
  unfold e_fill at hlt
  split at hlt
  rotate_left
  · cases hlt
  rename_i hlen hpick hmem
  obtain ⟨tmps, mem⟩ := s
  simp only at hlen hpick hmem
  subst hmem
  obtain rfl := Option.some.inj hlt
  obtain ⟨⟨h0, h1, h2, h3, _⟩, ht2⟩ := needs_ok ht
  clear ht hlt
  obtain ⟨ps, rfl, rfl⟩ := even_flat h0
  rw [ptsA_flat] at ht2
  refine ⟨_, _, ht2, loop_run2 mixed ER2_ok (s_fill _ _ _ _) (inv_fill _ _ _ _) (me_fill _ _ _ _) re_fill (rs_fill _ _ _ _) k_fill (fun _ => rfl) (noLoops nl_fill) (round_fill _ _ _ _ h2) (x := (21 - ps.length, ps, _)) ⟨by omega, rfl, h3.1, by omega⟩ (π := [some 2]) rfl ?_⟩
  refine ⟨rfl, rfl, ?_, wvs_spread' [0, 5] hlen rfl ?_⟩
  · repeat' (first | exact True.intro | exact rfl | exact wv_top _ _ | exact fun _ => rfl | assumption | exact Eq.symm (by assumption) | exact vI0 rfl | refine And.intro ?_ ?_)
  · rw [hpick]
    repeat' (first | exact True.intro | exact rfl | exact wv_top _ _ | exact fun _ => rfl | assumption | exact Eq.symm (by assumption) | exact vI0 rfl | refine And.intro ?_ ?_)
theorem Lr_fill {fn : Func} (hf : Try.prog.funcs[60]? = some fn) : LoopsGood Try.prog (lt1 e_fill) 0 (codeOf fn) := by
  obtain rfl := fn_is Try.func60 hf
  exact lt1_good lg_fill
def LRd2 : FuncId → LT := fun f => match f with
  | 60 => lt1 e_fill
  | _ => noL
def ERL2 : Env := ⟨B0, fun _ _ => none, LRd2, JL1, fun _ => noR⟩
theorem ERL2_ok : EnvOk Try.prog ERL2 := ⟨B0_ok, fun _ _ _ _ _ h => (by cases h), (by
  intro f fn hf
  show LoopsGood Try.prog (LRd2 f) 0 (codeOf fn)
  unfold LRd2
  split
  all_goals first | with_reducible exact Lr_fill hf | exact noL_good), JL1_ok, fun _ _ _ => noR_good⟩
set_option maxRecDepth 100000 in
theorem tr_aptsF (bs : List Int) (l c : Nat) (p m : Int) : bodyM Try.prog ERL2 (runM Try.prog ERL2 30 12) 30 60 [.pointer (some ⟨1, 0, none⟩), .int .i64 m] (memR bs l c p none) .fin = .need (rdC bs l p) (.need (p ≤ (700000 : Int)) (.need ((0 : Int) ≤ m ∧ m ≤ (90 : Int)) (brT (decide (0 < (↑(rpsL bs l p m).length : Int))) (.need (rdC bs l (p + (2 : Int) + (2 : Int) * rpN bs l p m)) (brT (pickI bs l (p + 2 + 2 * rpN bs l p m) 20 == 0) (.need (rdC bs l (p + (2 : Int) + (2 : Int) * rpN bs l p m + (1 : Int))) (.need ((0 : Int) ≤ pickI bs l (p + (2 : Int) + (2 : Int) * rpN bs l p m + (1 : Int)) (↑(rpsL bs l p m).length : Int) ∧ pickI bs l (p + (2 : Int) + (2 : Int) * rpN bs l p m + (1 : Int)) (↑(rpsL bs l p m).length : Int) < (↑(rpsL bs l p m).length : Int)) (.need ((0 : Nat) + (pickI bs l (p + (2 : Int) + (2 : Int) * rpN bs l p m + (1 : Int)) (↑(rpsL bs l p m).length : Int)).toNat * (2 : Nat) + (2 : Nat) ≤ (flat (rpsL bs l p m)).length) (.fin (ß 2 ((rpsL bs l p m).length) ((rpsL bs l p m).length)) [some ⟨.view, .bytes (bs)⟩, some ⟨.box, .vals [ß 0 (l) (c), .int .i64 (p + 2 + 2 * rpN bs l p m + 1 + 1)]⟩, some ⟨.row 32 2, .ints (setInts (flat (rpsL bs l p m)) (0 + (pickI bs l (p + 2 + 2 * rpN bs l p m + 1) (↑(rpsL bs l p m).length : Int)).toNat * 2) [1001, 0])⟩])))) (brT (pickI bs l (p + 2 + 2 * rpN bs l p m) 20 == 1) (.need ((flat (rpsL bs l p m)).length = (rpsL bs l p m).length * (2 : Nat)) (.need ((rpsL bs l p m).length ≤ (21 : Nat)) (.need (l ≤ bs.length ∧ l ≤ (2000 : Nat) ∧ Bytes bs) (.need ((0 : Int) ≤ p + (2 : Int) + (2 : Int) * rpN bs l p m + (1 : Int) ∧ p + (2 : Int) + (2 : Int) * rpN bs l p m + (1 : Int) ≤ (800000 : Int)) (.fin (ß 3 ((ptsA (rpsL bs l p m).length (flat (rpsL bs l p m)) ++ rpL bs l 2 (21 - (rpsL bs l p m).length) (p + 2 + 2 * rpN bs l p m + 1)).length) ((ptsA (rpsL bs l p m).length (flat (rpsL bs l p m)) ++ rpL bs l 2 (21 - (rpsL bs l p m).length) (p + 2 + 2 * rpN bs l p m + 1)).length)) [some ⟨.view, .bytes (bs)⟩, some ⟨.box, .vals [ß 0 (l) (c), .int .i64 (p + 2 + 2 * rpN bs l p m + 1 + 2 * (↑(21 - (rpsL bs l p m).length) : Int))]⟩, some deadB, some ⟨.row 32 2, .ints (flat (ptsA (rpsL bs l p m).length (flat (rpsL bs l p m)) ++ rpL bs l 2 (21 - (rpsL bs l p m).length) (p + 2 + 2 * rpN bs l p m + 1)))⟩]))))) (.fin (ß 2 ((rpsL bs l p m).length) ((rpsL bs l p m).length)) [some ⟨.view, .bytes (bs)⟩, some ⟨.box, .vals [ß 0 (l) (c), .int .i64 (p + 2 + 2 * rpN bs l p m + 1)]⟩, some ⟨.row 32 2, .ints (flat (rpsL bs l p m))⟩])))) (.fin (ß 2 ((rpsL bs l p m).length) ((rpsL bs l p m).length)) [some ⟨.view, .bytes (bs)⟩, some ⟨.box, .vals [ß 0 (l) (c), .int .i64 (p + 2 + 2 * rpN bs l p m)]⟩, some ⟨.row 32 2, .ints (flat (rpsL bs l p m))⟩])))) := by kernel_rfl
def aq1 (bs : List Int) (l : Nat) (p m : Int) : Int := p + 2 + 2 * rpN bs l p m
def aqQ (bs : List Int) (l : Nat) (p m : Int) : Int := pickI bs l (aq1 bs l p m) 20
def apsL (bs : List Int) (l : Nat) (p m : Int) : List Pt :=
  if (rpsL bs l p m).length = 0 then rpsL bs l p m
  else if aqQ bs l p m = 0 then (rpsL bs l p m).set (pickI bs l (aq1 bs l p m + 1) (rpsL bs l p m).length).toNat (1001, 0)
  else if aqQ bs l p m = 1 then rpsL bs l p m ++ rpL bs l 2 (21 - (rpsL bs l p m).length) (aq1 bs l p m + 1)
  else rpsL bs l p m
def apsP (bs : List Int) (l : Nat) (p m : Int) : Int :=
  if (rpsL bs l p m).length = 0 then aq1 bs l p m
  else if aqQ bs l p m = 0 then aq1 bs l p m + 2
  else if aqQ bs l p m = 1 then aq1 bs l p m + 1 + 2 * (21 - (rpsL bs l p m).length : Nat)
  else aq1 bs l p m + 1
theorem rpsL_len {bs : List Int} {l : Nat} {p m : Int} (h : rdC bs l (p + 1)) (hm : 0 ≤ m ∧ m ≤ 20) : (rpsL bs l p m).length ≤ 20 ∧ (rpsL bs l p m).length = (rpN bs l p m).toNat ∧ 0 ≤ rpN bs l p m ∧ rpN bs l p m ≤ 20 := by
  have b1 := pickI_bd (k := m + 1) h (by omega)
  unfold rpsL
  rw [rpL_len]
  unfold rpN
  omega
def aptsS : RSpecR := fun bs l p rest => match rest with
  | [.int .i64 m] => some (rowL (apsL bs l p m), ⟨.row 32 2, .ints (flat (apsL bs l p m))⟩, apsP bs l p m, [rdC bs l p, p ≤ 600000, 0 ≤ m ∧ m ≤ 20])
  | _ => none
theorem aptsS_ok : SpecROk Try.prog 60 aptsS := by
  intro bs l c p rest v b p' C h hC
  unfold aptsS at h
  split at h
  rotate_left
  · cases h
  rename_i m
  obtain ⟨rfl, rfl, rfl, rfl⟩ : rowL (apsL bs l p m) = v ∧ (⟨.row 32 2, .ints (flat (apsL bs l p m))⟩ : Blk) = b ∧ apsP bs l p m = p' ∧ [rdC bs l p, p ≤ 600000, 0 ≤ m ∧ m ≤ 20] = C := by simpa using h
  obtain ⟨h1, h2, h3, _⟩ := hC
  refine ⟨rfl, ERL2, 30, 12, ERL2_ok, ?_⟩
  rw [tr_aptsF]
  have h0 := h1.2.2.1
  have r1 : rdC bs l (p + 1) := ⟨h1.1, h1.2.1, by omega, by omega, h1.2.2.2.2⟩
  obtain ⟨L1, L2, L3, L4⟩ := rpsL_len (m := m) r1 h3
  have ea : p + 2 + 2 * rpN bs l p m = aq1 bs l p m := rfl
  have ba : p + 2 ≤ aq1 bs l p m ∧ aq1 bs l p m ≤ p + 42 := by unfold aq1; omega
  rw [ea]
  have ra : ∀ q : Int, aq1 bs l p m ≤ q → q ≤ p + 100 → rdC bs l q := fun q g1 g2 => ⟨h1.1, h1.2.1, by omega, by omega, h1.2.2.2.2⟩
  refine ⟨h1, by omega, ⟨by omega, by omega⟩, brT_ok.2 ⟨fun hlen => ?_, fun hlen => ?_⟩⟩
  · have hlen := of_decide_eq_true hlen
    have hne : ¬ (rpsL bs l p m).length = 0 := by omega
    refine ⟨ra _ (by omega) (by omega), brT_ok.2 ⟨fun hq => ?_, fun hq => brT_ok.2 ⟨fun hq' => ?_, fun hq' => ?_⟩⟩⟩
    · have hq : aqQ bs l p m = 0 := by simpa [aqQ] using hq
      have e1 : apsL bs l p m = (rpsL bs l p m).set (pickI bs l (aq1 bs l p m + 1) (rpsL bs l p m).length).toNat (1001, 0) := by unfold apsL; rw [if_neg hne, if_pos hq]
      have e2 : apsP bs l p m = aq1 bs l p m + 2 := by unfold apsP; rw [if_neg hne, if_pos hq]
      have rb := ra (aq1 bs l p m + 1) (by omega) (by omega)
      have pb := pickI_bd (k := ((rpsL bs l p m).length : Int)) rb (by omega)
      rw [e1, e2]
      have hs := flat_set (rpsL bs l p m) (pickI bs l (aq1 bs l p m + 1) (rpsL bs l p m).length).toNat (by omega) 1001 0
      refine ⟨rb, pb, by rw [flat_length]; omega, box2 (by omega) _, some 2, ⟨rfl, rfl, by rw [List.length_set]⟩, rfl, rfl, ?_⟩
      rw [Nat.zero_add]
      exact hs
    · have hq : ¬ aqQ bs l p m = 0 := by simpa [aqQ] using hq
      have hq' : aqQ bs l p m = 1 := by simpa [aqQ] using hq'
      have e1 : apsL bs l p m = rpsL bs l p m ++ rpL bs l 2 (21 - (rpsL bs l p m).length) (aq1 bs l p m + 1) := by unfold apsL; rw [if_neg hne, if_neg hq, if_pos hq']
      have e2 : apsP bs l p m = aq1 bs l p m + 1 + 2 * (21 - (rpsL bs l p m).length : Nat) := by unfold apsP; rw [if_neg hne, if_neg hq, if_pos hq']
      rw [e1, e2, ptsA_flat]
      exact ⟨by rw [flat_length], by omega, ⟨h1.1, h1.2.1, h1.2.2.2.2⟩, ⟨by omega, by omega⟩, rfl, some 3, ⟨rfl, rfl, rfl⟩, rfl, rfl, rfl⟩
    · have hq : ¬ aqQ bs l p m = 0 := by simpa [aqQ] using hq
      have hq' : ¬ aqQ bs l p m = 1 := by simpa [aqQ] using hq'
      have e1 : apsL bs l p m = rpsL bs l p m := by unfold apsL; rw [if_neg hne, if_neg hq, if_neg hq']
      have e2 : apsP bs l p m = aq1 bs l p m + 1 := by unfold apsP; rw [if_neg hne, if_neg hq, if_neg hq']
      rw [e1, e2]
      exact ⟨rfl, some 2, ⟨rfl, rfl, rfl⟩, rfl, rfl, rfl⟩
  · have hlen := of_decide_eq_false hlen
    have hz : (rpsL bs l p m).length = 0 := by omega
    have e1 : apsL bs l p m = rpsL bs l p m := by unfold apsL; rw [if_pos hz]
    have e2 : apsP bs l p m = aq1 bs l p m := by unfold apsP; rw [if_pos hz]
    rw [e1, e2]
    exact ⟨rfl, some 2, ⟨rfl, rfl, rfl⟩, rfl, rfl, rfl⟩
def JL2 : TabJ := consR 60 (rdGR aptsS) (tabJ J3)
theorem JL2_ok : GSound Try.prog JL2.g := consR_ok mixed (tabJ_sound mixed J3_ok) (entersB_res (by kernel_rfl)).1 aptsS_ok
theorem apsL_len {bs : List Int} {l : Nat} {p m : Int} (h : rdC bs l (p + 1)) (hm : 0 ≤ m ∧ m ≤ 20) : (apsL bs l p m).length ≤ 21 := by
  obtain ⟨L1, _⟩ := rpsL_len (m := m) h hm
  unfold apsL
  split
  · omega
  split
  · rw [List.length_set]; omega
  split
  · rw [List.length_append, rpL_len]; omega
  · omega
theorem apsP_bd {bs : List Int} {l : Nat} {p m : Int} (h : rdC bs l (p + 1)) (hm : 0 ≤ m ∧ m ≤ 20) : p + 2 ≤ apsP bs l p m ∧ apsP bs l p m ≤ p + 100 := by
  obtain ⟨L1, L2, L3, L4⟩ := rpsL_len (m := m) h hm
  unfold apsP aq1
  split
  · omega
  split
  · omega
  split <;> omega
def EDr : Env := ⟨B0, fun _ _ => none, fun _ => noL, JL2, fun _ => noR⟩
theorem EDr_ok : EnvOk Try.prog EDr := ⟨B0_ok, fun _ _ _ _ _ h => (by cases h), fun _ _ _ => noL_good, JL2_ok, fun _ _ _ => noR_good⟩
def at2v (name nb : Nat) : Value → Value
  | .slice (some ⟨1, o, none⟩) l c => .slice (some ⟨nb, o, none⟩) l c
  | v => atName1 name v
def rv2 (s0 s1 : Option Nat) (u : Value) : Value → Prop
  | .slice (some ⟨1, o, none⟩) l c => rv1 s1 u (.slice (some ⟨0, o, none⟩) l c)
  | v => rv1 s0 u v
def rv2l (s0 s1 : Option Nat) : List Value → List Value → Prop
  | [], [] => True
  | u :: r, v :: r' => rv2 s0 s1 u v ∧ rv2l s0 s1 r r'
  | _, _ => False
def srcIs (s : Option Nat) (b : Blk) (mem : List (Option Blk)) : Prop := match s with
  | some n => (match mem.getD n none with
    | some b' => rb b' b
    | none => False)
  | none => True
def RowIs2 (vs : List Value) (b0 b1 : Blk) (u : Value) (mem : List (Option Blk)) : Prop :=
  ∃ s0 s1 us, u = .tuple ⟨us⟩ ∧ rv2l s0 s1 us vs ∧ srcIs s0 b0 mem ∧ srcIs s1 b1 mem ∧ (s0 = s1 → s0 = none)
abbrev placeOf (s : Option Nat) (ρ ρ' : Nat → Option Pl) (name : Nat) : Prop := match s with
  | some n => ρ' name = ρ n
  | none => ρ' name = some (0, 1, some 0)
theorem rv2_ok {s0 s1 : Option Nat} {ρ ρ' : Nat → Option Pl} {name nb : Nat} (h0 : placeOf s0 ρ ρ' name) (h1 : placeOf s1 ρ ρ' nb) {u v x : Value} (h : rv2 s0 s1 u v) (k : VR ρ u x) : VR ρ' (at2v name nb v) x := by
  unfold rv2 at h
  split at h
  · exact rv1_ok (name := nb) h1 h k
  · rename_i hne
    have e : at2v name nb v = atName1 name v := by
      unfold at2v
      split
      · exact absurd rfl (hne _ _ _)
      · rfl
    rw [e]
    exact rv1_ok h0 h k
theorem rv2l_ok {s0 s1 : Option Nat} {ρ ρ' : Nat → Option Pl} {name nb : Nat} (h0 : placeOf s0 ρ ρ' name) (h1 : placeOf s1 ρ ρ' nb) : ∀ {l l' : List Value}, rv2l s0 s1 l l' → l.length = l'.length ∧ ∀ (i : Nat) v x, (l'.map (at2v name nb))[i]? = some v → (∀ u, l[i]? = some u → VR ρ u x) → VR ρ' v x
  | [], [], _ => ⟨rfl, fun i v x h => by simp at h⟩
  | [], _ :: _, h => h.elim
  | _ :: _, [], h => h.elim
  | u :: r, v :: r', h => by
    obtain ⟨k1, k2⟩ := h
    obtain ⟨h3, h4⟩ := rv2l_ok h0 h1 k2
    refine ⟨by simp [h3], fun i y x hy hx => ?_⟩
    cases i with
    | zero =>
      obtain rfl : at2v name nb v = y := by simpa using hy
      exact rv2_ok h0 h1 k1 (hx u rfl)
    | succ i => exact h4 i y x (by simpa using hy) fun v hv => hx v (by simpa using hv)
def ResR2 (P : Program) (f : FuncId) (ds : List DArg) (vs : List Value) (b0 b1 : Blk) : Prop :=
  enters P f ∧ (isRow b0 = true ∧ isRow b1 = true) ∧ ∀ w args, DOks w ds args → Calls P f args w fun e w' => ∃ v' p0 p1, e = .returned v' ∧ Below w.heap.size w w' ∧ (¬ nilPl p0 → ¬ nilPl p1 → p0.1 ≠ p1.1) ∧
    (∀ ρ name nb, ρ name = some p0 → ρ nb = some p1 → VR ρ (.tuple ⟨vs.map (at2v name nb)⟩) v') ∧ (∀ ρ name, ρ name = some p0 → BlkOk ρ (fun k => k < w.heap.size) w' name b0) ∧ ∀ ρ name, ρ name = some p1 → BlkOk ρ (fun k => k < w.heap.size) w' name b1
theorem src_row {s : Option Nat} {b : Blk} {mem : List (Option Blk)} (hb : isRow b = true) (h : srcIs s b mem) {ρ0 ρ : Nat → Option Pl} {B : Nat → Prop} {w : World} (hm : MemOk ρ0 ρ B (fun k => mem.getD k none) w) :
    ∃ p, (∀ ρ2 name, ρ2 name = some p → placeOf s ρ ρ2 name ∧ BlkOk ρ2 B w name b) ∧ ∀ n, s = some n → ρ n = some p ∧ ∃ b', mem.getD n none = some b' ∧ b'.own = true := by
  obtain ⟨kd, cs⟩ := b
  cases kd with
  | row e sz =>
    cases s with
    | none => exact ⟨(0, 1, some 0), fun ρ2 name hp => ⟨hp, .inl ⟨_, hp, rfl, rfl⟩⟩, fun n hn => by cases hn⟩
    | some k =>
      unfold srcIs at h
      simp only at h
      split at h
      rotate_left
      · exact h.elim
      rename_i b' hb'
      obtain ⟨kd', cs'⟩ := b'
      cases kd' with
      | row e2 sz2 =>
        obtain ⟨rfl, rfl, hc⟩ := h
        obtain ⟨c1, c2⟩ := rc_list hc
        rcases hm.ok k _ hb' with ⟨p, h1, h2, h3⟩ | ⟨g, cap, h1, h2, arr, h3, h4, h5⟩
        · exact ⟨p, fun ρ2 name hp => ⟨hp.trans h1.symm, .inl ⟨p, hp, h2, h3⟩⟩, fun n hn => by
            obtain rfl : k = n := by simpa using hn
            exact ⟨h1, _, hb', rfl⟩⟩
        · refine ⟨_, fun ρ2 name hp => ⟨hp.trans h1.symm, .inr ⟨g, cap, hp, h2, arr, h3, h4, ?_⟩⟩, fun n hn => by
            obtain rfl : k = n := by simpa using hn
            exact ⟨h1, _, hb', rfl⟩⟩
          intro i x hx
          obtain ⟨x', k1, k2⟩ := h5 i x (by show cs'.list[i]? = some x; rw [c1]; exact hx)
          refine ⟨x', k1, ?_⟩
          have hat := plain_of_atom (c2 x (List.mem_of_getElem? hx))
          rw [k2.plain hat]
          exact .lit hat
      | _ => exact h.elim
  | _ => cases hb
theorem bodyX_resR2 {P : Program} (hm : P.follows .mixedOrders = true) {E : Env} (hE : EnvOk P E) {m n : Nat} {f : FuncId} {ds : List DArg} {vs : List Value} {b0 b1 : Blk} (hb0 : isRow b0 = true) (hb1 : isRow b1 = true)
    (h : (bodyX P E m n f ds).ok (fun _ _ => False) (fun u mem => RowIs2 vs b0 b1 u mem)) : ResR2 P f ds vs b0 b1 := by
  unfold bodyX at h
  split at h
  rotate_left
  · exact h.elim
  rename_i hg
  obtain ⟨u, mem', ⟨s0, s1, us, rfl, hrv, hs0, hs1, hne⟩, hent, hdet⟩ := bodyM_ok hE hm (runM_ok hm hE m n) m f _ _ _ _ _ h
  refine ⟨hent, ⟨hb0, hb1⟩, fun w args hargs => ?_⟩
  obtain ⟨ρ, ha, hmem⟩ := args_open hargs (fun k => k < w.heap.size)
  refine (hdet ⟨w, fun _ => none, fun k => k < w.heap.size, fun _ h => h, [], none⟩ ρ args w ha hmem (BelowK.refl _ _)).mono ?_
  rintro e' w' ⟨v', ρ', rfl, _, g2, g3, g4⟩
  obtain ⟨p0, k1, k2⟩ := src_row hb0 hs0 g4
  obtain ⟨p1, j1, j2⟩ := src_row hb1 hs1 g4
  refine ⟨v', p0, p1, rfl, g3.to, fun n0 n1 => ?_, fun ρ2 name nb h0 h1 => ?_, fun ρ2 name h0 => (k1 ρ2 name h0).2, fun ρ2 name h1 => (j1 ρ2 name h1).2⟩
  · rcases s0 with _ | a
    · have := (k1 (fun _ => some p0) 0 rfl).1
      have e : p0 = (0, 1, some 0) := by simpa [placeOf] using this
      exact absurd ⟨by rw [e], 0, by rw [e]⟩ n0
    · rcases s1 with _ | c
      · have := (j1 (fun _ => some p1) 0 rfl).1
        have e : p1 = (0, 1, some 0) := by simpa [placeOf] using this
        exact absurd ⟨by rw [e], 0, by rw [e]⟩ n1
      · obtain ⟨q1, b', q2, q3⟩ := k2 a rfl
        obtain ⟨r1, c', r2, r3⟩ := j2 c rfl
        exact g4.sep a c b' c' p0 p1 q2 q3 r2 (own_live r3) (fun e => by subst e; have := hne rfl; cases this) q1 r1 n0 n1
  · obtain ⟨a1, a2⟩ := k1 ρ2 name h0
    obtain ⟨c1, c2⟩ := j1 ρ2 nb h1
    obtain ⟨cs, rfl, z1, z2⟩ := g2.tuple_inv
    obtain ⟨h3, h4⟩ := rv2l_ok a1 c1 hrv
    exact .tuple (by simp at z1 ⊢; omega) fun i v y hv hy => h4 i v y (by simpa using hv) fun u hu => z2 i u y (by simpa using hu) hy
abbrev TabR2 := List DArg → Option (List Value × Blk × Blk × List Prop)
def r2G (T : TabR2) (name : Nat) (args : List Value) : Rd Eff := (rdArgs args).bind fun ds => match T ds, name with
  | some (vs, b0, b1, C), nb + 1 => .blk nb fun b => match b with
    | none => .ret ⟨.tuple ⟨vs.map (at2v (nb + 1) nb)⟩, [(nb, b1), (nb + 1, b0)], C⟩
    | some _ => .fail
  | _, _ => .fail
def TabR2Ok (P : Program) (f : FuncId) (T : TabR2) : Prop := ∀ ds vs b0 b1 C, T ds = some (vs, b0, b1, C) → AllP C → ResR2 P f ds vs b0 b1
theorem blk_sub {ρ : Nat → Option Pl} {B B' : Nat → Prop} (hB : ∀ k, B k → B' k) {w : World} {n : Nat} {b : Blk} (hb : isRow b = true) (h : BlkOk ρ B' w n b) : BlkOk ρ B w n b := by
  obtain ⟨kd, cs⟩ := b
  cases kd with
  | row e sz =>
    rcases h with h | ⟨g, cap, h1, h2, rest⟩
    · exact .inl h
    · exact .inr ⟨g, cap, h1, fun h => h2 (hB _ h), rest⟩
  | _ => cases hb
theorem row_own {b : Blk} (h : isRow b = true) : b.own = true := by
  obtain ⟨kd, cs⟩ := b
  cases kd <;> first | rfl | cases h
theorem consR2_ok {P : Program} {J : TabJ} (hJ : GSound P J.g) {f : FuncId} {T : TabR2} (hent : enters P f) (hT : TabR2Ok P f T) : GSound P (consR f (r2G T) J).g := by
  intro h name args s eff hr hn
  simp only [consR] at hr
  split at hr
  rotate_left
  · exact hJ h name args s eff hr hn
  rename_i heq
  obtain rfl := Nat.eq_of_beq_eq_true heq
  refine ⟨hent, fun B ρ0 ρ w args' ha hm hB hcond => ?_⟩
  unfold r2G at hr
  obtain ⟨ds, hds, hr⟩ := bind_some hr
  split at hr
  rotate_left
  · simp [Rd.run] at hr
  rename_i vs b0 b1 C nb hx _
  simp only [Rd.run] at hr
  split at hr
  rotate_left
  · simp [Rd.run] at hr
  rename_i hn1
  obtain rfl : (⟨.tuple ⟨vs.map (at2v (nb + 1) nb)⟩, [(nb, b1), (nb + 1, b0)], C⟩ : Eff) = eff := by simpa [Rd.run] using hr
  obtain ⟨_, ⟨r0, r1⟩, h4⟩ := hT ds vs b0 b1 C hx hcond
  refine (h4 w args' ((rdArgs_ok hds).2 ha hm)).mono ?_
  rintro e w' ⟨v', p0, p1, rfl, hb, hsep, hv, hk0, hk1⟩
  have hf1 : addPl ρ (nb + 1) p0 nb = none := by
    rw [addPl_ne (by omega)]
    exact hm.fresh _ hn1
  have g1 := hv (addPl (addPl ρ (nb + 1) p0) nb p1) (nb + 1) nb (by rw [addPl_ne (by omega), addPl_same]) (addPl_same _ _ _)
  have g3 := hk1 (addPl (addPl ρ (nb + 1) p0) nb p1) nb (addPl_same _ _ _)
  have e1 : Ext (addPl ρ (nb + 1) p0) (addPl (addPl ρ (nb + 1) p0) nb p1) := addPl_ext hf1
  have hb0 := hk0 (addPl ρ (nb + 1) p0) (nb + 1) (addPl_same _ _ _)
  have hm1 := hm.newRow hB hb hn (row_own r0) hb0
  refine ⟨v', addPl (addPl ρ (nb + 1) p0) nb p1, rfl, (addPl_ext (hm.fresh (nb + 1) hn)).trans e1, g1, BelowK.of hb hB, ?_⟩
  rw [upd_two]
  refine hm1.addRow2 (by simp [setB, hn1]) (fun hnp k c q hk hl hq hnq => ?_) (blk_sub hB r1 g3)
  by_cases hkn : k = nb + 1
  · subst hkn
    rw [addPl_same] at hq
    obtain rfl : p0 = q := by simpa using hq
    exact hsep hnq hnp
  · rw [addPl_ne hkn] at hq
    have hk' : s.blk k = some c := by simpa [setB, hkn] using hk
    have h2 := ((hm.ok k c hk').real hl hq hnq).1
    have h3 : ¬ p1.1 < w.heap.size := (g3.real (own_live (row_own r1)) (addPl_same _ _ _) hnp).2 (row_own r1)
    omega
def bodyP (P : Program) (E : Env) (m n : Nat) (f : FuncId) (ds : List DArg) : Tree :=
  match ds.all DArg.goodB with
  | true => bodyM P E (runM P E m n) m f (argVals 0 ds) (ds.map argBlk ++ [none]) fun v _ => .fin v []
  | false => .bad
theorem pad_get (l : List (Option Blk)) (n : Nat) : (l ++ [none]).getD n none = l.getD n none := by
  simp only [List.getD_eq_getElem?_getD]
  rcases Nat.lt_or_ge n l.length with h | h
  · rw [List.getElem?_append_left h]
  · rw [List.getElem?_append_right h, List.getElem?_eq_none (by omega : l.length ≤ n)]
    rcases hk : n - l.length with _ | k <;> simp
theorem bodyP_res {P : Program} (hm : P.follows .mixedOrders = true) {E : Env} (hE : EnvOk P E) {m n : Nat} {f : FuncId} {ds : List DArg} {v : Value} (hv : plainV v = true)
    (h : (bodyP P E m n f ds).ok (fun _ _ => False) (fun u _ => u = v)) : Res P f ds v := by
  unfold bodyP at h
  split at h
  rotate_left
  · exact h.elim
  rename_i hg
  obtain ⟨u, mem', hk, hent, hdet⟩ := bodyM_ok hE hm (runM_ok hm hE m n) m f _ _ _ _ _ h
  obtain rfl : u = v := hk
  have hin : P.inits.idxOf? f = none := by
    unfold bodyM at h
    split at h
    rotate_left
    · exact h.elim
    rename_i fn hf hen
    exact (entersB_spec hf hen).2.1
  refine ⟨hent, hin, hv, fun d hd => goodB_good (List.all_eq_true.1 hg d hd), fun w args hargs => ?_⟩
  obtain ⟨ρ, ha, hmem⟩ := args_open hargs (fun k => k < w.heap.size)
  have hmem : MemOk (fun _ => none) ρ (fun k => k < w.heap.size) (fun n => (ds.map argBlk ++ [none]).getD n none) w := by
    have e : (fun n => (ds.map argBlk ++ [none]).getD n none) = fun n => (ds.map argBlk).getD n none := funext fun n => pad_get _ n
    rw [e]
    exact hmem
  refine (hdet ⟨w, fun _ => none, fun k => k < w.heap.size, fun _ h => h, [], none⟩ ρ args w ha hmem (BelowK.refl _ _)).mono ?_
  rintro e w' ⟨v', ρ', rfl, _, g2, g3, _⟩
  rw [g2.plain hv]
  exact ⟨rfl, g3.to⟩
def shN (qs : List Pt) : Nat → List Pt
  | 0 => qs
  | i + 1 => (shN qs i).set i (ŵ (((shN qs i).getD i (0, 0)).1 + 6), ((shN qs i).getD i (0, 0)).2)
theorem shN_len (qs : List Pt) : ∀ i, (shN qs i).length = qs.length
  | 0 => rfl
  | i + 1 => by
    show ((shN qs i).set i _).length = _
    rw [List.length_set, shN_len qs i]
theorem set_one (ps : List Pt) (k : Nat) (h : k < ps.length) (a : Int) : setInts (flat ps) (k * 2) [a] = flat (ps.set k (a, (ps.getD k (0, 0)).2)) := by
  rw [← flat_set ps k h]
  have hl := flat_length ps
  have hg := flat_get1 ps k
  unfold setInts
  simp only [List.length_cons, List.length_nil, Nat.zero_add]
  have hk : k * 2 + 1 < (flat ps).length := by omega
  have e : (flat ps).drop (k * 2 + 1) = (flat ps).getD (k * 2 + 1) 0 :: (flat ps).drop (k * 2 + 2) := drop_cons hk 0
  rw [e, hg]
  simp
noncomputable def c_twh : Code := ((loopsOf (codeOf Try.f34))[0]?).getD .skip
def k_twh : Ex → List Nat := keeps [5, 6, 7] [(0, [5, 6])] [2, 3]
def s_twh (ps qs : List Pt) : Nat → St := fun i => ⟨(ω5 ß 2 ps.length ps.length :: ß 3 qs.length qs.length :: .int .i64 i :: ω27 []), [some ⟨.dead, .vals []⟩, some ⟨.dead, .vals []⟩, some ⟨.row 32 2, .ints (flat ps)⟩, some ⟨.row 32 2, .ints (flat (shN qs i))⟩]⟩
def re_twh : Nat → Ex := fun _ => .exit 0
def rs_twh (ps qs : List Pt) : Nat → St := fun i => ⟨(ω5 ß 2 ps.length ps.length :: ß 3 qs.length qs.length :: ω28 []), [some ⟨.dead, .vals []⟩, some ⟨.dead, .vals []⟩, some ⟨.row 32 2, .ints (flat ps)⟩, some ⟨.row 32 2, .ints (flat (shN qs qs.length))⟩]⟩
set_option maxRecDepth 100000 in
theorem tr_twh (ps qs : List Pt) (i : Nat) : bodyL Try.prog EDr 30 12 noL 1 c_twh k_twh 16 (s_twh ps qs i) = brT (decide ((↑i : Int) < (↑qs.length : Int))) (.need ((0 : Int) ≤ (↑i : Int) ∧ (↑i : Int) < (↑qs.length : Int)) (.need ((0 : Nat) + (↑i : Int).toNat * (2 : Nat) + (0 : Nat) < (flat (shN qs i)).length) (.need ((0 : Int) ≤ (↑i : Int) ∧ (↑i : Int) < (↑qs.length : Int)) (.need ((0 : Nat) + (↑i : Int).toNat * (2 : Nat) + (0 : Nat) + (1 : Nat) ≤ (flat (shN qs i)).length) (.leaf .normal ⟨(ω5 ß 2 (ps.length) (ps.length) :: ß 3 (qs.length) (qs.length) :: .int .i64 (ŵ ((↑i : Int) + 1)) :: ω27 []), [some deadB, some deadB, some ⟨.row 32 2, .ints (flat ps)⟩, some ⟨.row 32 2, .ints (setInts (flat (shN qs i)) (0 + (↑i : Int).toNat * 2 + 0) [ŵ ((flat (shN qs i)).getD (0 + (↑i : Int).toNat * 2 + 0) 0 + 6)])⟩]⟩))))) (.leaf (.exit 0) ⟨(ω5 ß 2 (ps.length) (ps.length) :: ß 3 (qs.length) (qs.length) :: ω28 []), [some deadB, some deadB, some ⟨.row 32 2, .ints (flat ps)⟩, some ⟨.row 32 2, .ints (flat (shN qs i))⟩]⟩) := by kernel_rfl
set_option maxRecDepth 100000 in
theorem nl_twh : loopsOf c_twh = [] := by kernel_rfl
def inv_twh (ps qs : List Pt) : Nat → Prop := fun i => i ≤ qs.length
def me_twh (ps qs : List Pt) : Nat → Nat := fun i => qs.length - i
def Round_twh (ps qs : List Pt) : Prop := ∀ xx : Nat, inv_twh ps qs xx → (bodyL Try.prog EDr 30 12 noL 1 c_twh k_twh 16 (s_twh ps qs xx)).ok (RoundEnd 4 (s_twh ps qs) (inv_twh ps qs) (me_twh ps qs) re_twh (rs_twh ps qs) xx) (fun _ _ => False)
def e_twh (s : St) (k : Ex → St → Tree) : Option Tree := match Nat.beq s.tmps.length 35, pickL s.tmps [5, 6, 7], s.mem with
  | true, [ß 2 m _, ß 3 n _, .int .i64 i0], [_, _, some ⟨.row 32 2, .ints xs⟩, some ⟨.row 32 2, .ints ys⟩] => some (needs [i0 = 0, xs.length = m * 2, ys.length = n * 2, n ≤ 1000] (k (.exit 0) ⟨(ω5 ß 2 m m :: ß 3 n n :: ω28 []), [some ⟨.dead, .vals []⟩, some ⟨.dead, .vals []⟩, some ⟨.row 32 2, .ints xs⟩, some ⟨.row 32 2, .ints (flat (shN (ptsA n ys) n))⟩]⟩))
  | _, _, _ => none
set_option maxRecDepth 100000 in
theorem round_twh (ps qs : List Pt) (h : qs.length ≤ 1000) : Round_twh ps qs := by
  intro i h1
  have h1 : i ≤ qs.length := h1
  rw [tr_twh]
  have hl := shN_len qs i
  simp only [Int.toNat_natCast, Nat.zero_add, Nat.add_zero, flat_get0, flat_get1, flat_length, hl]
  refine brT_ok.2 ⟨fun c => ?_, fun c => ?_⟩
  · have c := of_decide_eq_true c
    have hi : i < qs.length := by omega
    rw [wsucc hi (by omega)]
    rw [set_one (shN qs i) i (by omega)]
    have e : (shN qs i).set i (ŵ (((shN qs i).getD i (0, 0)).1 + 6), ((shN qs i).getD i (0, 0)).2) = shN qs (i + 1) := rfl
    rw [e]
    refine ⟨by omega, by omega, by omega, by omega, i + 1, [], ?_, ?_, rfl, rfl, ?_⟩
    · show i + 1 ≤ qs.length; omega
    · show qs.length - (i + 1) < qs.length - i; omega
    · repeat' (first | exact True.intro | exact rfl | exact wv_top _ _ | exact fun _ => rfl | (simp; done) | refine And.intro ?_ ?_)
  · have c := of_decide_eq_false c
    have e : i = qs.length := by omega
    subst e
    refine ⟨rfl, [], ?_⟩
    simp only [rs_twh]
    repeat' (first | exact True.intro | exact rfl | exact wv_top _ _ | exact fun _ => rfl | (simp; done) | refine And.intro ?_ ?_)
set_option maxRecDepth 100000 in
theorem lg_twh : LoopE Try.prog e_twh c_twh := by
  intro s k t F H hlt ht
  unfold e_twh at hlt
  split at hlt
  rotate_left
  · cases hlt
  rename_i hlen hpick hmem
  obtain ⟨tmps, mem⟩ := s
  simp only at hlen hpick hmem
  subst hmem
  obtain rfl := Option.some.inj hlt
  obtain ⟨⟨rfl, h0, h1, h3, _⟩, ht2⟩ := needs_ok ht
  clear ht hlt
  obtain ⟨ps, rfl, rfl⟩ := even_flat h0
  obtain ⟨qs, rfl, rfl⟩ := even_flat h1
  rw [ptsA_flat] at ht2
  refine ⟨_, _, ht2, loop_run2 mixed EDr_ok (s_twh ps qs) (inv_twh ps qs) (me_twh ps qs) re_twh (rs_twh ps qs) k_twh (fun _ => rfl) (noLoops nl_twh) (round_twh ps qs h3) (x := 0) (Nat.zero_le _) (π := []) rfl ?_⟩
  refine ⟨rfl, rfl, ?_, wvs_spread' [5, 6, 7] hlen rfl ?_⟩
  · repeat' (first | exact True.intro | exact rfl | exact wv_top _ _ | exact fun _ => rfl | assumption | exact Eq.symm (by assumption) | exact vI0 rfl | refine And.intro ?_ ?_)
  · rw [hpick]
    repeat' (first | exact True.intro | exact rfl | exact wv_top _ _ | exact fun _ => rfl | assumption | exact Eq.symm (by assumption) | exact vI0 rfl | refine And.intro ?_ ?_)
theorem Lr_twh {fn : Func} (hf : Try.prog.funcs[34]? = some fn) : LoopsGood Try.prog (lt1 e_twh) 0 (codeOf fn) := by
  obtain rfl := fn_is Try.func34 hf
  exact lt1_good lg_twh
def LTw : FuncId → LT := fun f => match f with
  | 34 => lt1 e_twh
  | _ => noL
def ETw : Env := ⟨B0, fun _ _ => none, LTw, JL2, fun _ => noR⟩
theorem ETw_ok : EnvOk Try.prog ETw := ⟨B0_ok, fun _ _ _ _ _ h => (by cases h), (by
  intro f fn hf
  show LoopsGood Try.prog (LTw f) 0 (codeOf fn)
  unfold LTw
  split
  all_goals first | with_reducible exact Lr_twh hf | exact noL_good), JL2_ok, fun _ _ _ => noR_good⟩
set_option maxRecDepth 100000 in
theorem tr_dHm (bs : List Int) (n : Nat) : bodyX Try.prog ETw 30 12 27 [.row n (.bytes bs)] = brT (decide (2000 < (↑n : Int))) (.need ((0 : Int) ≤ bndI none (0 : Int) ∧ bndI none (0 : Int) ≤ bndI (some (IntKind.i64, (2000 : Int))) (↑n : Int) ∧ bndI (some (IntKind.i64, (2000 : Int))) (↑n : Int) ≤ (↑n : Int)) (.need (rdC bs (2000 : Nat) (0 : Int)) (.need ((0 : Int) ≤ (600000 : Int)) (.need ((0 : Int) ≤ (5 : Int) ∧ (5 : Int) ≤ (20 : Int)) (.need (rdC bs (2000 : Nat) (apsP bs (2000 : Nat) (0 : Int) (5 : Int))) (.need (apsP bs (2000 : Nat) (0 : Int) (5 : Int) ≤ (600000 : Int)) (.need ((0 : Int) ≤ (5 : Int) ∧ (5 : Int) ≤ (20 : Int)) (.need (rdC bs (2000 : Nat) (apsP bs (2000 : Nat) (apsP bs (2000 : Nat) (0 : Int) (5 : Int)) (5 : Int))) (brT (pickI bs 2000 (apsP bs 2000 (apsP bs 2000 0 5) 5) 3 == 0) (.need ((0 : Int) = (0 : Int)) (.need ((flat (apsL bs (2000 : Nat) (0 : Int) (5 : Int))).length = (apsL bs (2000 : Nat) (0 : Int) (5 : Int)).length * (2 : Nat)) (.need ((flat (apsL bs (2000 : Nat) (apsP bs (2000 : Nat) (0 : Int) (5 : Int)) (5 : Int))).length = (apsL bs (2000 : Nat) (apsP bs (2000 : Nat) (0 : Int) (5 : Int)) (5 : Int)).length * (2 : Nat)) (.need ((apsL bs (2000 : Nat) (apsP bs (2000 : Nat) (0 : Int) (5 : Int)) (5 : Int)).length ≤ (1000 : Nat)) (.fin (.tuple #[ß 2 ((apsL bs 2000 0 5).length) ((apsL bs 2000 0 5).length), ß 3 ((apsL bs 2000 (apsP bs 2000 0 5) 5).length) ((apsL bs 2000 (apsP bs 2000 0 5) 5).length)]) [some deadB, some deadB, some ⟨.row 32 2, .ints (flat (apsL bs 2000 0 5))⟩, some ⟨.row 32 2, .ints (flat (shN (ptsA (apsL bs 2000 (apsP bs 2000 0 5) 5).length (flat (apsL bs 2000 (apsP bs 2000 0 5) 5))) (apsL bs 2000 (apsP bs 2000 0 5) 5).length))⟩]))))) (.fin (.tuple #[ß 2 ((apsL bs 2000 0 5).length) ((apsL bs 2000 0 5).length), ß 3 ((apsL bs 2000 (apsP bs 2000 0 5) 5).length) ((apsL bs 2000 (apsP bs 2000 0 5) 5).length)]) [some ⟨.view, .bytes (bs)⟩, some ⟨.box, .vals [ß 0 (2000) (2000), .int .i64 (apsP bs 2000 (apsP bs 2000 0 5) 5 + 1)]⟩, some ⟨.row 32 2, .ints (flat (apsL bs 2000 0 5))⟩, some ⟨.row 32 2, .ints (flat (apsL bs 2000 (apsP bs 2000 0 5) 5))⟩])))))))))) (.need (rdC bs n (0 : Int)) (.need ((0 : Int) ≤ (600000 : Int)) (.need ((0 : Int) ≤ (5 : Int) ∧ (5 : Int) ≤ (20 : Int)) (.need (rdC bs n (apsP bs n (0 : Int) (5 : Int))) (.need (apsP bs n (0 : Int) (5 : Int) ≤ (600000 : Int)) (.need ((0 : Int) ≤ (5 : Int) ∧ (5 : Int) ≤ (20 : Int)) (.need (rdC bs n (apsP bs n (apsP bs n (0 : Int) (5 : Int)) (5 : Int))) (brT (pickI bs n (apsP bs n (apsP bs n 0 5) 5) 3 == 0) (.need ((0 : Int) = (0 : Int)) (.need ((flat (apsL bs n (0 : Int) (5 : Int))).length = (apsL bs n (0 : Int) (5 : Int)).length * (2 : Nat)) (.need ((flat (apsL bs n (apsP bs n (0 : Int) (5 : Int)) (5 : Int))).length = (apsL bs n (apsP bs n (0 : Int) (5 : Int)) (5 : Int)).length * (2 : Nat)) (.need ((apsL bs n (apsP bs n (0 : Int) (5 : Int)) (5 : Int)).length ≤ (1000 : Nat)) (.fin (.tuple #[ß 2 ((apsL bs n 0 5).length) ((apsL bs n 0 5).length), ß 3 ((apsL bs n (apsP bs n 0 5) 5).length) ((apsL bs n (apsP bs n 0 5) 5).length)]) [some deadB, some deadB, some ⟨.row 32 2, .ints (flat (apsL bs n 0 5))⟩, some ⟨.row 32 2, .ints (flat (shN (ptsA (apsL bs n (apsP bs n 0 5) 5).length (flat (apsL bs n (apsP bs n 0 5) 5))) (apsL bs n (apsP bs n 0 5) 5).length))⟩]))))) (.fin (.tuple #[ß 2 ((apsL bs n 0 5).length) ((apsL bs n 0 5).length), ß 3 ((apsL bs n (apsP bs n 0 5) 5).length) ((apsL bs n (apsP bs n 0 5) 5).length)]) [some ⟨.view, .bytes (bs)⟩, some ⟨.box, .vals [ß 0 (n) (n), .int .i64 (apsP bs n (apsP bs n 0 5) 5 + 1)]⟩, some ⟨.row 32 2, .ints (flat (apsL bs n 0 5))⟩, some ⟨.row 32 2, .ints (flat (apsL bs n (apsP bs n 0 5) 5))⟩]))))))))) := by kernel_rfl
def dmQ (bs : List Int) (l : Nat) : List Pt := bif pickI bs l (apsP bs l (apsP bs l 0 5) 5) 3 == 0 then shN (apsL bs l (apsP bs l 0 5) 5) (apsL bs l (apsP bs l 0 5) 5).length else apsL bs l (apsP bs l 0 5) 5
theorem dmQ_len (bs : List Int) (l : Nat) : (dmQ bs l).length = (apsL bs l (apsP bs l 0 5) 5).length := by
  unfold dmQ
  cases pickI bs l (apsP bs l (apsP bs l 0 5) 5) 3 == 0
  · rfl
  · exact shN_len _ _
theorem dmKey {bs : List Int} {n : Nat} (hb : Bytes bs) (hn : n ≤ bs.length) {l : Nat} (h1 : l ≤ n) (h2 : l ≤ 2000) : rdC bs l 0 ∧ rdC bs l (apsP bs l 0 5) ∧ apsP bs l 0 5 ≤ 600000 ∧ rdC bs l (apsP bs l (apsP bs l 0 5) 5) ∧ (apsL bs l 0 5).length ≤ 21 ∧ (apsL bs l (apsP bs l 0 5) 5).length ≤ 21 := by
  have r0 : rdK bs l 0 := rdK0 hb hn h1 h2 (by omega) (by omega)
  have r1 : rdC bs l (0 + 1) := r0.at (by omega) (by omega)
  have b1 := apsP_bd (m := 5) r1 (by omega)
  have r2 : rdK bs l (apsP bs l 0 5) := rdK0 hb hn h1 h2 (by omega) (by omega)
  have r3 : rdC bs l (apsP bs l 0 5 + 1) := r2.at (by omega) (by omega)
  have b2 := apsP_bd (m := 5) r3 (by omega)
  have r4 : rdK bs l (apsP bs l (apsP bs l 0 5) 5) := rdK0 hb hn h1 h2 (by omega) (by omega)
  exact ⟨r0.1, r2.1, by omega, r4.1, apsL_len r1 (by omega), apsL_len r3 (by omega)⟩
def dmV (bs : List Int) (l : Nat) : List Value := [ß 0 (apsL bs l 0 5).length (apsL bs l 0 5).length, ß 1 (dmQ bs l).length (dmQ bs l).length]
set_option maxHeartbeats 1000000 in
theorem resR_dHm (bs : List Int) (n : Nat) (hb : Bytes bs) (hn : n ≤ bs.length) : ResR2 Try.prog 27 [.row n (.bytes bs)] (dmV bs (rdL n)) ⟨.row 32 2, .ints (flat (apsL bs (rdL n) 0 5))⟩ ⟨.row 32 2, .ints (flat (dmQ bs (rdL n)))⟩ := by
  refine bodyX_resR2 mixed ETw_ok (m := 30) (n := 12) rfl rfl ?_
  rw [tr_dHm]
  simp only [ptsA_flat, flat_length]
  refine brT_ok.2 ⟨fun h => ?_, fun h => ?_⟩
  · have h := of_decide_eq_true h
    obtain ⟨k1, k2, k3, k4, k5, k6⟩ := dmKey hb hn (l := 2000) (by omega) (by omega)
    rw [rdL_of h]
    have ql := dmQ_len bs 2000
    unfold dmV
    rw [ql]
    unfold dmQ
    refine ⟨bnd2000 h, k1, by omega, by omega, k2, k3, by omega, k4, ?_⟩
    rcases pickI bs 2000 (apsP bs 2000 (apsP bs 2000 0 5) 5) 3 == 0 with _ | _
    · exact ⟨some 2, some 3, _, rfl, ⟨⟨rfl, rfl, rfl⟩, ⟨rfl, rfl, rfl⟩, trivial⟩, ⟨rfl, rfl, rfl⟩, ⟨rfl, rfl, rfl⟩, by intro h; cases h⟩
    · exact ⟨trivial, trivial, trivial, by omega, some 2, some 3, _, rfl, ⟨⟨rfl, rfl, rfl⟩, ⟨rfl, rfl, rfl⟩, trivial⟩, ⟨rfl, rfl, rfl⟩, ⟨rfl, rfl, rfl⟩, by intro h; cases h⟩
  · have h := of_decide_eq_false h
    obtain ⟨k1, k2, k3, k4, k5, k6⟩ := dmKey hb hn (l := n) (by omega) (by omega)
    rw [rdL_no h]
    have ql := dmQ_len bs n
    unfold dmV
    rw [ql]
    unfold dmQ
    refine ⟨k1, by omega, by omega, k2, k3, by omega, k4, ?_⟩
    rcases pickI bs n (apsP bs n (apsP bs n 0 5) 5) 3 == 0 with _ | _
    · exact ⟨some 2, some 3, _, rfl, ⟨⟨rfl, rfl, rfl⟩, ⟨rfl, rfl, rfl⟩, trivial⟩, ⟨rfl, rfl, rfl⟩, ⟨rfl, rfl, rfl⟩, by intro h; cases h⟩
    · exact ⟨trivial, trivial, trivial, by omega, some 2, some 3, _, rfl, ⟨⟨rfl, rfl, rfl⟩, ⟨rfl, rfl, rfl⟩, trivial⟩, ⟨rfl, rfl, rfl⟩, ⟨rfl, rfl, rfl⟩, by intro h; cases h⟩
theorem ex_gr (f : Pt → Int) : ∀ (l : List Pt), l ≠ [] → ∃ v ∈ l, ∀ q ∈ l, f q ≤ f v
  | [], h => absurd rfl h
  | [a], _ => ⟨a, by simp, fun q hq => by
    obtain rfl : q = a := by simpa using hq
    exact Int.le_refl _⟩
  | a :: b :: t, _ => by
    obtain ⟨v, v1, v2⟩ := ex_gr f (b :: t) (by simp)
    by_cases h : f v ≤ f a
    · refine ⟨a, by simp, fun q hq => ?_⟩
      rcases List.mem_cons.1 hq with rfl | hq
      · exact Int.le_refl _
      · exact Int.le_trans (v2 q hq) h
    · refine ⟨v, List.mem_cons_of_mem _ v1, fun q hq => ?_⟩
      rcases List.mem_cons.1 hq with rfl | hq
      · omega
      · exact v2 q hq
def meetD (us vs : List Pt) : Prop := ∀ dx dy : Int, ∃ a ∈ us, ∃ c ∈ vs, dirV dx dy c ≤ dirV dx dy a
theorem dirV_ng {p : Pt} (h : ptB p.1 p.2 = true) (dx dy : Int) : dirV dx dy (ngW p) = -dirV dx dy p := by
  have h := ptB_true h
  unfold ngW dirV
  simp only
  rw [wr (x := 0 - p.1) (by omega), wr (x := 0 - p.2) (by omega)]
  grind
theorem dirV_adK (x y : Int) (a b : Pt) : dirV x y (adP a b) = dirV x y a + dirV x y b := by unfold dirV adP; grind
theorem hm_meet {us vs : List Pt} (ho : okL us = true) (hv : okL vs = true) (h : 0 < us.length) (h' : 0 < vs.length) : 0 ≤ locF (mkwH us (ngWL vs)) 0 0 ↔ meetD us vs := by
  have k2 := okL_20 hv
  have hn : okL (ngWL vs) = true := (okL_ng (fit_ok k2.1)).trans hv
  have n0 : 0 < (ngWL vs).length := by rw [ngWL_len]; exact h'
  have w0 := hmH_ne ho hn h n0
  have hl := loc_wit (srtL_asc (smL (hulV us) (hulV (ngWL vs)))) w0 (q := (0, 0))
  have hd := wit_dir (srtL_asc (smL (hulV us) (hulV (ngWL vs)))) w0
  refine (hl.trans hd).trans ?_
  have ptc : ∀ c ∈ vs, ptB c.1 c.2 = true := fun c hc => List.all_eq_true.1 k2.1 c hc
  constructor
  · intro hA dx dy
    obtain ⟨z, hz, z1⟩ := hA dx dy
    obtain ⟨a, b, ha, hb, rfl⟩ := mem_smL.1 ((srtL_mem _ _).1 hz)
    have hb := hulV_sub hn hb
    obtain ⟨c, hc, rfl⟩ := List.mem_map.1 hb
    refine ⟨a, hulV_sub ho ha, c, hc, ?_⟩
    rw [dirV_adK, dirV_ng (ptc c hc)] at z1
    omega
  · intro hM dx dy
    obtain ⟨a, ha, c, hc, ac⟩ := hM dx dy
    obtain ⟨u, u1, u2⟩ := ex_gr (dirV dx dy) (hulV us) (fun e => by have := hulV_pos ho h; rw [e] at this; exact absurd this (by simp))
    obtain ⟨v, v1, v2⟩ := ex_gr (dirV dx dy) (hulV (ngWL vs)) (fun e => by have := hulV_pos hn n0; rw [e] at this; exact absurd this (by simp))
    have m1 := hulV_max ho u2 ha
    have m2 := hulV_max hn v2 (q := ngW c) (List.mem_map.2 ⟨c, hc, rfl⟩)
    rw [dirV_ng (ptc c hc)] at m2
    refine ⟨adP u v, (srtL_mem _ _).2 (mem_smL.2 ⟨u, v, u1, v1, rfl⟩), ?_⟩
    rw [dirV_adK]
    omega
theorem hmB_iff {us vs : List Pt} : hmB us vs = true ↔ okL us = true ∧ okL vs = true ∧ 0 < us.length ∧ 0 < vs.length ∧ meetD us vs := by
  unfold hmB
  simp only [Bool.and_eq_true, decide_eq_true_eq]
  constructor
  · rintro ⟨⟨⟨⟨a, b⟩, c⟩, d⟩, e⟩
    exact ⟨a, b, c, d, (hm_meet a b c d).1 e⟩
  · rintro ⟨a, b, c, d, e⟩
    exact ⟨⟨⟨⟨a, b⟩, c⟩, d⟩, (hm_meet a b c d).2 e⟩
theorem pick_bd (bs : List Int) (l : Nat) (p k : Int) (hk : 1 ≤ k) : -k < pickI bs l p k ∧ pickI bs l p k < k := by
  have ht : ∀ a : Int, -k < a.tmod k ∧ a.tmod k < k := fun a => by
    have h1 := Int.tmod_lt_of_pos a (show 0 < k by omega)
    have h2 := Int.tmod_lt_of_pos (-a) (show 0 < k by omega)
    rw [Int.neg_tmod] at h2
    omega
  unfold pickI
  split
  · omega
  · split
    · exact ht _
    · exact ht _
theorem wrap_in (x : Int) : -9223372036854775808 ≤ ŵ x ∧ ŵ x ≤ 9223372036854775807 := by
  unfold IntKind.wrap
  simp only [show IntKind.i64.bits = 64 by rfl, show IntKind.i64.signed = true by rfl, Bool.true_and, show (2 : Int) ^ 64 = 18446744073709551616 by rfl, show (2 : Int) ^ (64 - 1) = 9223372036854775808 by rfl]
  split <;> rename_i h <;> simp at h <;> omega
theorem shN_fit {qs : List Pt} (h : fitL qs) : ∀ i, fitL (shN qs i)
  | 0 => h
  | i + 1 => fun p hp => by
    rcases List.mem_or_eq_of_mem_set hp with hp | rfl
    · exact shN_fit h i p hp
    · refine ⟨wrap_in _, ?_⟩
      by_cases hi : i < (shN qs i).length
      · have hm : (shN qs i).getD i (0, 0) ∈ shN qs i := by simp [List.getD_eq_getElem?_getD, hi]
        exact (shN_fit h i _ hm).2
      · rw [show (shN qs i).getD i (0, 0) = (0, 0) by simp [List.getD_eq_getElem?_getD, Nat.le_of_not_lt hi]]
        omega
theorem rpt_fit (bs : List Int) (l : Nat) (k p : Int) : (-9223372036854775808 ≤ (rpt bs l k p).1 ∧ (rpt bs l k p).1 ≤ 9223372036854775807) ∧ (-9223372036854775808 ≤ (rpt bs l k p).2 ∧ (rpt bs l k p).2 ≤ 9223372036854775807) := by
  have a := pick_bd bs l p 9 (by omega)
  have b := pick_bd bs l (p + 1) 9 (by omega)
  unfold rpt
  cases k == 0
  · cases k == 1
    · simp only [cond_false]; omega
    · exact ⟨wrap_in _, wrap_in _⟩
  · refine ⟨?_, wrap_in _⟩
    simp only [cond_true]; omega
theorem rpL_fit (bs : List Int) (l : Nat) (k : Int) : ∀ (n : Nat) (p : Int), fitL (rpL bs l k n p)
  | 0, _ => fun q hq => by cases hq
  | n + 1, p => fun q hq => by
    rcases List.mem_cons.1 hq with rfl | hq
    · exact rpt_fit bs l k p
    · exact rpL_fit bs l k n (p + 2) q hq
theorem apsL_fit (bs : List Int) (l : Nat) (p m : Int) : fitL (apsL bs l p m) := by
  have h : fitL (rpsL bs l p m) := rpL_fit _ _ _ _ _
  intro q hq
  unfold apsL at hq
  split at hq
  · exact h q hq
  split at hq
  · rcases List.mem_or_eq_of_mem_set hq with hq | rfl
    · exact h q hq
    · omega
  split at hq
  · rcases List.mem_append.1 hq with hq | hq
    · exact h q hq
    · exact rpL_fit _ _ _ _ _ q hq
  · exact h q hq
theorem dmQ_fit (bs : List Int) (l : Nat) : fitL (dmQ bs l) := by
  unfold dmQ
  cases pickI bs l (apsP bs l (apsP bs l 0 5) 5) 3 == 0
  · exact apsL_fit _ _ _ _
  · exact shN_fit (apsL_fit _ _ _ _) _
theorem wit_reach {h : List Pt} {q : Pt} (hw : witP h q) (dx dy : Int) : ∃ c ∈ h, dirV dx dy c ≤ dirV dx dy q := by
  obtain ⟨i, k, m, ik, km, hm, ht⟩ := hw
  by_cases hx : ∃ c ∈ h, dirV dx dy c ≤ dirV dx dy q
  · exact hx
  · exfalso
    have far : ∀ j, j < h.length → 0 ≤ aff dx dy (-(dirV dx dy q) - 1) (h.getD j (0, 0)) := fun j hj => by
      have hc : h.getD j (0, 0) ∈ h := by simp [List.getD_eq_getElem?_getD, hj]
      have : ¬ dirV dx dy (h.getD j (0, 0)) ≤ dirV dx dy q := fun e => hx ⟨_, hc, e⟩
      unfold aff
      unfold dirV at *
      grind
    have := tri_af ht (far i (by omega)) (far k (by omega)) (far m hm)
    unfold aff dirV at this
    grind
theorem wit_meet {us vs : List Pt} (hv : okL vs = true) {q : Pt} (hq : q ∈ us) (hw : witP (hulV vs) q) : meetD us vs := fun dx dy => by
  obtain ⟨c, hc, h⟩ := wit_reach hw dx dy
  exact ⟨q, hq, c, hulV_sub hv hc, h⟩
theorem hmB_wit {us vs : List Pt} (ho : okL us = true) (hv : okL vs = true) {q : Pt} (hq : q ∈ us) (hw : witP (hulV vs) q) : hmB us vs = true := by
  have h0 : 0 < vs.length := by
    rcases Nat.eq_zero_or_pos vs.length with e | e
    · exfalso
      obtain ⟨i, k, m, ik, km, hm, ht⟩ := hw
      have hc : (hulV vs).getD m (0, 0) ∈ hulV vs := by simp [List.getD_eq_getElem?_getD, hm]
      have := List.length_pos_of_mem (hulV_sub hv hc)
      omega
    · exact e
  exact hmB_iff.2 ⟨ho, hv, List.length_pos_of_mem hq, h0, wit_meet hv hq hw⟩
end Go.Proofs.Ytbfoheblcoakiaa
