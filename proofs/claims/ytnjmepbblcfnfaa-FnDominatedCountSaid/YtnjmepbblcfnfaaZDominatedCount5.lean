/-
  Texts that the proof needs, merged. Written by an AI agent.
-/
import Derived.Orders
import Derived.Below
import Derived.OrdersIn
import Derived.Deep.LoopGhost
import Derived.WalkKit
import Derived.Laws.CopyRow
import Derived.Laws.AppendOwn
import Derived.Laws.Slices
import Derived.Laws.MakeOwn
import Derived.Test.YtnjmepbblcfnfaaRows
import Derived.ProofKit
import Derived.OpenShut
import Derived.Carry
import Derived.IntWalk
import Derived.Test.YtnjmepbblcfnfaaProg
import Derived.WalkSpells
import Derived.WalkLawsBesides
import Derived.Lib.Hide
import Derived.Deep.QuietTactic
import Derived.BigQuiet
import Derived.KernelRfl
import Derived.Deep.RegionHeld3
import Derived.LoopTactic
import Derived.Laws.StructEq
import Derived.Laws.Tables
import Derived.RangeFuncNested
import Derived.RangeFuncLeaves
import Derived.Deep.Slices
import Derived.Deep.Fields
import Derived.ChangeSame
import Derived.Shelf.SlSortCmp.WholeK
import Derived.Sort.Grow
import Derived.Deep.DeepCutAuto
import Derived.Shelf.SlSortCmp.NoneTotal
import Derived.Test.YtnjmepbblcfnfaaZDominatedCount4
namespace Go.Proofs.Ytnjmepbblcfnfaa
set_option linter.all false
open Go.RowKit
/-- One drawn point of a list of the kind k. -/
def rpt (bs : List Int) (l : Nat) (k p : Int) : Pt :=
  bif k == 0 then (pickI bs l p 9 - 2, IntKind.i64.wrap (IntKind.i64.wrap (2 * (pickI bs l p 9 - 2)) + 1))
  else bif k == 1 then (IntKind.i64.wrap ((pickI bs l p 9 - 2) * 100), IntKind.i64.wrap ((pickI bs l (p + 1) 9 - 2) * 37))
  else (pickI bs l p 9 - 2, pickI bs l (p + 1) 9 - 2)
/-- So many drawn points. -/
def rpL (bs : List Int) (l : Nat) (k : Int) : Nat → Int → List Pt
  | 0, _ => []
  | n + 1, p => rpt bs l k p :: rpL bs l k n (p + 2)
theorem rpL_len (bs : List Int) (l : Nat) (k : Int) : ∀ (n : Nat) (p : Int), (rpL bs l k n p).length = n
  | 0, _ => rfl
  | n + 1, p => by simp [rpL, rpL_len bs l k n]
theorem rpL_step (bs : List Int) (l : Nat) (k : Int) (n : Nat) (p : Int) (o : List Pt) : o ++ rpL bs l k (n + 1) p = (o ++ [rpt bs l k p]) ++ rpL bs l k n (p + 2) := by
  simp [rpL]
theorem flatA (o : List Pt) : List.take (o.length * 2) (List.drop 0 (flat o)) = flat o := by rw [List.drop_zero, flat_all]
noncomputable def c_rpts : Code := ((loopsOf (codeOf Try.f121))[0]?).getD .skip
def k_rpts : Ex → List Nat := keeps [0, 5, 6, 7] [(0, [5])] [4]
def s_rpts (bs : List Int) (l c : Nat) (k q : Int) : Nat × (List Pt) × Int → St := fun (n, o, p) => ⟨(.pointer (some ⟨1, 0, none⟩) :: topV :: topV :: topV :: topV :: .slice (some ⟨3, 0, none⟩) o.length o.length :: .int .i64 k :: .int .i64 n :: topV :: topV :: topV :: topV :: topV :: topV :: topV :: topV :: topV :: topV :: topV :: topV :: topV :: topV :: topV :: topV :: topV :: topV :: topV :: topV :: topV :: topV :: topV :: topV :: topV :: topV :: topV :: topV :: topV :: topV :: topV :: topV :: topV :: topV :: topV :: []), [some ⟨.view, .bytes bs⟩, some ⟨.box, .vals [.slice (some ⟨0, 0, none⟩) l c, .int .i64 p]⟩, some ⟨.dead, .vals []⟩, some ⟨.row 30 2, .ints (flat o)⟩]⟩
def re_rpts : Nat × (List Pt) × Int → Ex := fun _ => .exit 0
def rs_rpts (bs : List Int) (l c : Nat) (k q : Int) : Nat × (List Pt) × Int → St := fun (n, o, p) => ⟨(topV :: topV :: topV :: topV :: topV :: .slice (some ⟨3, 0, none⟩) (o ++ rpL bs l k n p).length (o ++ rpL bs l k n p).length :: topV :: topV :: topV :: topV :: topV :: topV :: topV :: topV :: topV :: topV :: topV :: topV :: topV :: topV :: topV :: topV :: topV :: topV :: topV :: topV :: topV :: topV :: topV :: topV :: topV :: topV :: topV :: topV :: topV :: topV :: topV :: topV :: topV :: topV :: topV :: topV :: topV :: []), [some ⟨.view, .bytes bs⟩, some ⟨.box, .vals [.slice (some ⟨0, 0, none⟩) l c, .int .i64 q]⟩, some ⟨.dead, .vals []⟩, some ⟨.row 30 2, .ints (flat (o ++ rpL bs l k n p))⟩]⟩
set_option maxRecDepth 100000 in
theorem tr_rpts (bs : List Int) (l c : Nat) (k q : Int) (n : Nat) (o : List Pt) (p : Int) : bodyL Try.prog ER2 30 12 noL 1 c_rpts k_rpts 16 (s_rpts bs l c k q (n, o, p)) = brT (decide (0 < (↑n : Int))) (.need (rdK bs l p) (brT (k == 0) (brT (k == 1) (.need ((o.length + (1 : Nat)) * (16 : Nat) ≤ (140737488355328 : Nat) ∧ o.length + (1 : Nat) ≤ (1000000 : Nat)) (.need ((0 : Nat) + o.length * (2 : Nat) ≤ (flat o).length) (.leaf .normal ⟨(.pointer (some ⟨1, 0, none⟩) :: topV :: topV :: topV :: topV :: .slice (some ⟨6, 0, none⟩) (o.length + 1) (o.length + 1) :: .int .i64 (k) :: .int .i64 (IntKind.i64.wrap ((↑n : Int) - 1)) :: topV :: topV :: topV :: topV :: topV :: topV :: topV :: topV :: topV :: topV :: topV :: topV :: topV :: topV :: topV :: topV :: topV :: topV :: topV :: topV :: topV :: topV :: topV :: topV :: topV :: topV :: topV :: topV :: topV :: topV :: topV :: topV :: topV :: topV :: topV :: []), [some ⟨.view, .bytes (bs)⟩, some ⟨.box, .vals [.slice (some ⟨0, 0, none⟩) (l) (c), .int .i64 (p + 2)]⟩, some deadB, some deadB, some ⟨.box, .vals [.int .i64 (IntKind.i64.wrap ((pickI bs l p 9 - 2) * 100)), .int .i64 (IntKind.i64.wrap (IntKind.i64.wrap (IntKind.i64.wrap (2 * (pickI bs l p 9 - 2)) + 1) * 37))]⟩, some ⟨.row 30 2, .vals [.int .i64 (IntKind.i64.wrap ((pickI bs l p 9 - 2) * 100)), .int .i64 (IntKind.i64.wrap (IntKind.i64.wrap (IntKind.i64.wrap (2 * (pickI bs l p 9 - 2)) + 1) * 37))]⟩, some ⟨.row 30 2, .ints (List.take (o.length * 2) (List.drop 0 (flat o)) ++ [IntKind.i64.wrap ((pickI bs l p 9 - 2) * 100), IntKind.i64.wrap (IntKind.i64.wrap (IntKind.i64.wrap (2 * (pickI bs l p 9 - 2)) + 1) * 37)])⟩]⟩))) (.need ((o.length + (1 : Nat)) * (16 : Nat) ≤ (140737488355328 : Nat) ∧ o.length + (1 : Nat) ≤ (1000000 : Nat)) (.need ((0 : Nat) + o.length * (2 : Nat) ≤ (flat o).length) (.leaf .normal ⟨(.pointer (some ⟨1, 0, none⟩) :: topV :: topV :: topV :: topV :: .slice (some ⟨6, 0, none⟩) (o.length + 1) (o.length + 1) :: .int .i64 (k) :: .int .i64 (IntKind.i64.wrap ((↑n : Int) - 1)) :: topV :: topV :: topV :: topV :: topV :: topV :: topV :: topV :: topV :: topV :: topV :: topV :: topV :: topV :: topV :: topV :: topV :: topV :: topV :: topV :: topV :: topV :: topV :: topV :: topV :: topV :: topV :: topV :: topV :: topV :: topV :: topV :: topV :: topV :: topV :: []), [some ⟨.view, .bytes (bs)⟩, some ⟨.box, .vals [.slice (some ⟨0, 0, none⟩) (l) (c), .int .i64 (p + 2)]⟩, some deadB, some deadB, some ⟨.box, .vals [.int .i64 (pickI bs l p 9 - 2), .int .i64 (IntKind.i64.wrap (IntKind.i64.wrap (2 * (pickI bs l p 9 - 2)) + 1))]⟩, some ⟨.row 30 2, .vals [.int .i64 (pickI bs l p 9 - 2), .int .i64 (IntKind.i64.wrap (IntKind.i64.wrap (2 * (pickI bs l p 9 - 2)) + 1))]⟩, some ⟨.row 30 2, .ints (List.take (o.length * 2) (List.drop 0 (flat o)) ++ [pickI bs l p 9 - 2, IntKind.i64.wrap (IntKind.i64.wrap (2 * (pickI bs l p 9 - 2)) + 1)])⟩]⟩)))) (brT (k == 1) (.need ((o.length + (1 : Nat)) * (16 : Nat) ≤ (140737488355328 : Nat) ∧ o.length + (1 : Nat) ≤ (1000000 : Nat)) (.need ((0 : Nat) + o.length * (2 : Nat) ≤ (flat o).length) (.leaf .normal ⟨(.pointer (some ⟨1, 0, none⟩) :: topV :: topV :: topV :: topV :: .slice (some ⟨6, 0, none⟩) (o.length + 1) (o.length + 1) :: .int .i64 (k) :: .int .i64 (IntKind.i64.wrap ((↑n : Int) - 1)) :: topV :: topV :: topV :: topV :: topV :: topV :: topV :: topV :: topV :: topV :: topV :: topV :: topV :: topV :: topV :: topV :: topV :: topV :: topV :: topV :: topV :: topV :: topV :: topV :: topV :: topV :: topV :: topV :: topV :: topV :: topV :: topV :: topV :: topV :: topV :: []), [some ⟨.view, .bytes (bs)⟩, some ⟨.box, .vals [.slice (some ⟨0, 0, none⟩) (l) (c), .int .i64 (p + 2)]⟩, some deadB, some deadB, some ⟨.box, .vals [.int .i64 (IntKind.i64.wrap ((pickI bs l p 9 - 2) * 100)), .int .i64 (IntKind.i64.wrap ((pickI bs l (p + 1) 9 - 2) * 37))]⟩, some ⟨.row 30 2, .vals [.int .i64 (IntKind.i64.wrap ((pickI bs l p 9 - 2) * 100)), .int .i64 (IntKind.i64.wrap ((pickI bs l (p + 1) 9 - 2) * 37))]⟩, some ⟨.row 30 2, .ints (List.take (o.length * 2) (List.drop 0 (flat o)) ++ [IntKind.i64.wrap ((pickI bs l p 9 - 2) * 100), IntKind.i64.wrap ((pickI bs l (p + 1) 9 - 2) * 37)])⟩]⟩))) (.need ((o.length + (1 : Nat)) * (16 : Nat) ≤ (140737488355328 : Nat) ∧ o.length + (1 : Nat) ≤ (1000000 : Nat)) (.need ((0 : Nat) + o.length * (2 : Nat) ≤ (flat o).length) (.leaf .normal ⟨(.pointer (some ⟨1, 0, none⟩) :: topV :: topV :: topV :: topV :: .slice (some ⟨6, 0, none⟩) (o.length + 1) (o.length + 1) :: .int .i64 (k) :: .int .i64 (IntKind.i64.wrap ((↑n : Int) - 1)) :: topV :: topV :: topV :: topV :: topV :: topV :: topV :: topV :: topV :: topV :: topV :: topV :: topV :: topV :: topV :: topV :: topV :: topV :: topV :: topV :: topV :: topV :: topV :: topV :: topV :: topV :: topV :: topV :: topV :: topV :: topV :: topV :: topV :: topV :: topV :: []), [some ⟨.view, .bytes (bs)⟩, some ⟨.box, .vals [.slice (some ⟨0, 0, none⟩) (l) (c), .int .i64 (p + 2)]⟩, some deadB, some deadB, some ⟨.box, .vals [.int .i64 (pickI bs l p 9 - 2), .int .i64 (pickI bs l (p + 1) 9 - 2)]⟩, some ⟨.row 30 2, .vals [.int .i64 (pickI bs l p 9 - 2), .int .i64 (pickI bs l (p + 1) 9 - 2)]⟩, some ⟨.row 30 2, .ints (List.take (o.length * 2) (List.drop 0 (flat o)) ++ [pickI bs l p 9 - 2, pickI bs l (p + 1) 9 - 2])⟩]⟩)))))) (.leaf (.exit 0) ⟨(topV :: topV :: topV :: topV :: topV :: .slice (some ⟨3, 0, none⟩) (o.length) (o.length) :: topV :: topV :: topV :: topV :: topV :: topV :: topV :: topV :: topV :: topV :: topV :: topV :: topV :: topV :: topV :: topV :: topV :: topV :: topV :: topV :: topV :: topV :: topV :: topV :: topV :: topV :: topV :: topV :: topV :: topV :: topV :: topV :: topV :: topV :: topV :: topV :: topV :: []), [some ⟨.view, .bytes (bs)⟩, some ⟨.box, .vals [.slice (some ⟨0, 0, none⟩) (l) (c), .int .i64 (p)]⟩, some deadB, some ⟨.row 30 2, .ints (flat o)⟩]⟩) := by kernel_rfl
set_option maxRecDepth 100000 in
theorem nl_rpts : loopsOf c_rpts = [] := by kernel_rfl
def inv_rpts (bs : List Int) (l c : Nat) (k q : Int) : Nat × (List Pt) × Int → Prop := fun (n, o, p) => o.length + n ≤ 100 ∧ q = p + 2 * n ∧ 0 ≤ p ∧ q ≤ 900000
def me_rpts (bs : List Int) (l c : Nat) (k q : Int) : Nat × (List Pt) × Int → Nat := fun (n, o, p) => n
/-- A round of this loop. -/
def Round_rpts (bs : List Int) (l c : Nat) (k q : Int) : Prop := ∀ xx : Nat × (List Pt) × Int, inv_rpts bs l c k q xx → (bodyL Try.prog ER2 30 12 noL 1 c_rpts k_rpts 16 (s_rpts bs l c k q xx)).ok (RoundEnd 3 (s_rpts bs l c k q) (inv_rpts bs l c k q) (me_rpts bs l c k q) re_rpts (rs_rpts bs l c k q) xx) (fun _ _ => False)
def e_rpts (s : St) (k : Ex → St → Tree) : Option Tree := match Nat.beq s.tmps.length 43, pickL s.tmps [0, 5, 6, 7], s.mem with
  | true, [.pointer (some ⟨1, 0, none⟩), .slice (some ⟨2, 0, none⟩) z _, .int .i64 k1, .int .i64 n1], [some ⟨.view, .bytes bs⟩, some ⟨.box, .vals [.slice (some ⟨0, 0, none⟩) l c, .int .i64 p]⟩, some ⟨.row 30 2, .vals []⟩] => some (needs [z = 0, 0 ≤ n1 ∧ n1 ≤ 100, l ≤ bs.length ∧ l ≤ 2000 ∧ Bytes bs, 0 ≤ p ∧ p ≤ 800000] (k (.exit 0) ⟨(topV :: topV :: topV :: topV :: topV :: .slice (some ⟨3, 0, none⟩) (rpL bs l k1 n1.toNat p).length (rpL bs l k1 n1.toNat p).length :: topV :: topV :: topV :: topV :: topV :: topV :: topV :: topV :: topV :: topV :: topV :: topV :: topV :: topV :: topV :: topV :: topV :: topV :: topV :: topV :: topV :: topV :: topV :: topV :: topV :: topV :: topV :: topV :: topV :: topV :: topV :: topV :: topV :: topV :: topV :: topV :: topV :: []), [some ⟨.view, .bytes bs⟩, some ⟨.box, .vals [.slice (some ⟨0, 0, none⟩) l c, .int .i64 (p + 2 * n1)]⟩, some ⟨.dead, .vals []⟩, some ⟨.row 30 2, .ints (flat (rpL bs l k1 n1.toNat p))⟩]⟩))
  | _, _, _ => none
theorem rpt0 {bs : List Int} {l : Nat} {k p : Int} (h : k = 0) : rpt bs l k p = (pickI bs l p 9 - 2, IntKind.i64.wrap (IntKind.i64.wrap (2 * (pickI bs l p 9 - 2)) + 1)) := by
  subst h; rfl
theorem rpt1 {bs : List Int} {l : Nat} {k p : Int} (h : k = 1) : rpt bs l k p = (IntKind.i64.wrap ((pickI bs l p 9 - 2) * 100), IntKind.i64.wrap ((pickI bs l (p + 1) 9 - 2) * 37)) := by
  subst h; rfl
theorem rpt2 {bs : List Int} {l : Nat} {k p : Int} (h : ¬ k = 0) (h' : ¬ k = 1) : rpt bs l k p = (pickI bs l p 9 - 2, pickI bs l (p + 1) 9 - 2) := by
  unfold rpt
  rw [beq_eq_false_iff_ne.2 h, beq_eq_false_iff_ne.2 h']
  rfl
set_option maxRecDepth 100000 in
theorem round_rpts (bs : List Int) (l c : Nat) (k q : Int) (h : l ≤ bs.length ∧ l ≤ 2000 ∧ Bytes bs) : Round_rpts bs l c k q := by
  rintro ⟨n, o, p⟩ ⟨h1, h2, h3, h4⟩
  rw [tr_rpts]
  simp only [brT_ok, Tree.ok, decide_eq_true_eq, decide_eq_false_iff_not, flatA, flat_length, Nat.zero_add, beq_iff_eq, beq_eq_false_iff_ne, ne_eq]
  have hr : rdK bs l p := ⟨⟨h.1, h.2.1, h3, by omega, h.2.2⟩, by omega⟩
  refine ⟨fun hlt => ⟨hr, ?_⟩, fun hge => ?_⟩
  · obtain ⟨n, rfl⟩ : ∃ m, n = m + 1 := ⟨n - 1, by omega⟩
    have e : IntKind.i64.wrap (((n + 1 : Nat) : Int) - 1) = (n : Int) := by rw [wr (by omega)]; omega
    rw [e]
    refine ⟨fun g0 => ⟨fun g1 => by omega, fun g1 => ?_⟩, fun g0 => ⟨fun g1 => ?_, fun g1 => ?_⟩⟩
    · rw [flat_snoc, ← rpt0 g0]
      refine ⟨by omega, by omega, (n, o ++ [rpt bs l k p], p + 2), [some 6], ⟨by simp; omega, by omega, by omega, by omega⟩, ?_, rfl, ?_, ?_⟩
      · show n < n + 1; omega
      · simp only [rs_rpts, rpL_step]
      · repeat' (first | exact True.intro | exact rfl | exact fun _ => rfl | (simp; done) | refine And.intro ?_ ?_)
    · rw [flat_snoc, ← rpt1 g1]
      refine ⟨by omega, by omega, (n, o ++ [rpt bs l k p], p + 2), [some 6], ⟨by simp; omega, by omega, by omega, by omega⟩, ?_, rfl, ?_, ?_⟩
      · show n < n + 1; omega
      · simp only [rs_rpts, rpL_step]
      · repeat' (first | exact True.intro | exact rfl | exact fun _ => rfl | (simp; done) | refine And.intro ?_ ?_)
    · rw [flat_snoc, ← rpt2 g0 g1]
      refine ⟨by omega, by omega, (n, o ++ [rpt bs l k p], p + 2), [some 6], ⟨by simp; omega, by omega, by omega, by omega⟩, ?_, rfl, ?_, ?_⟩
      · show n < n + 1; omega
      · simp only [rs_rpts, rpL_step]
      · repeat' (first | exact True.intro | exact rfl | exact fun _ => rfl | (simp; done) | refine And.intro ?_ ?_)
  · obtain rfl : n = 0 := by omega
    refine ⟨rfl, [some 3], ?_⟩
    obtain rfl : q = p := by omega
    simp only [rs_rpts, rpL, List.append_nil]
    repeat' (first | exact True.intro | exact rfl | exact fun _ => rfl | refine And.intro ?_ ?_)
set_option maxRecDepth 100000 in
theorem lg_rpts : LoopE Try.prog e_rpts c_rpts := by
  intro s k t F H hlt ht
  unfold e_rpts at hlt
  split at hlt
  rotate_left
  · cases hlt
  rename_i hlen hpick hmem
  obtain ⟨tmps, mem⟩ := s
  simp only at hlen hpick hmem
  subst hmem
  obtain rfl := Option.some.inj hlt
  obtain ⟨⟨rfl, h1, h2, h3, _⟩, ht2⟩ := needs_ok ht
  clear ht hlt
  obtain ⟨n, rfl⟩ := Int.eq_ofNat_of_zero_le h1.1
  simp only [Int.toNat_natCast] at ht2
  refine ⟨_, _, ht2, loop_run2 mixed ER2_ok (s_rpts _ _ _ _ _) (inv_rpts _ _ _ _ _) (me_rpts _ _ _ _ _) re_rpts (rs_rpts _ _ _ _ _) k_rpts (fun _ => rfl) (noLoops nl_rpts) (round_rpts _ _ _ _ _ h2) (x := (n, [], _)) ⟨by simp; omega, rfl, h3.1, by omega⟩ (π := [some 2]) rfl ?_⟩
  refine ⟨rfl, rfl, ?_, wvs_spread' [0, 5, 6, 7] hlen rfl ?_⟩
  · repeat' (first | exact True.intro | exact rfl | exact wv_top _ _ | exact fun _ => rfl | assumption | exact Eq.symm (by assumption) | exact vI0 rfl | refine And.intro ?_ ?_)
  · rw [hpick]
    repeat' (first | exact True.intro | exact rfl | exact wv_top _ _ | exact fun _ => rfl | assumption | exact Eq.symm (by assumption) | exact vI0 rfl | refine And.intro ?_ ?_)
theorem Lr_rpts {fn : Func} (hf : Try.prog.funcs[121]? = some fn) : LoopsGood Try.prog (lt1 e_rpts) 0 (codeOf fn) := by
  obtain rfl := fn_is Try.func121 hf
  exact lt1_good lg_rpts
def LRd1 : FuncId → LT := fun f => match f with
  | 121 => lt1 e_rpts
  | _ => noL
def ERL : Env := ⟨B0, fun _ _ => none, LRd1, tabJ J2, fun _ => noR⟩
theorem ERL_ok : EnvOk Try.prog ERL := ⟨B0_ok, fun _ _ _ _ _ h => (by cases h), (by
  intro f fn hf
  show LoopsGood Try.prog (LRd1 f) 0 (codeOf fn)
  unfold LRd1
  split
  all_goals first | with_reducible exact Lr_rpts hf | exact noL_good), tabJ_sound mixed J2_ok, fun _ _ _ => noR_good⟩
set_option maxRecDepth 100000 in
theorem tr_rptsF (bs : List Int) (l c : Nat) (p m : Int) : bodyM Try.prog ERL (runM Try.prog ERL 30 12) 30 121 [.pointer (some ⟨1, 0, none⟩), .int .i64 m] (memR bs l c p none) .fin = .need (rdC bs l p) (.need (rdC bs l (p + (1 : Int))) (.need ((0 : Nat) = (0 : Nat)) (.need ((0 : Int) ≤ pickI bs l (p + (1 : Int)) (IntKind.i64.wrap (m + (1 : Int))) ∧ pickI bs l (p + (1 : Int)) (IntKind.i64.wrap (m + (1 : Int))) ≤ (100 : Int)) (.need (l ≤ bs.length ∧ l ≤ (2000 : Nat) ∧ Bytes bs) (.need ((0 : Int) ≤ p + (1 : Int) + (1 : Int) ∧ p + (1 : Int) + (1 : Int) ≤ (800000 : Int)) (.fin (.slice (some ⟨3, 0, none⟩) ((rpL bs l (pickI bs l p 6) (pickI bs l (p + 1) (IntKind.i64.wrap (m + 1))).toNat (p + 1 + 1)).length) ((rpL bs l (pickI bs l p 6) (pickI bs l (p + 1) (IntKind.i64.wrap (m + 1))).toNat (p + 1 + 1)).length)) [some ⟨.view, .bytes (bs)⟩, some ⟨.box, .vals [.slice (some ⟨0, 0, none⟩) (l) (c), .int .i64 (p + 1 + 1 + 2 * pickI bs l (p + 1) (IntKind.i64.wrap (m + 1)))]⟩, some deadB, some ⟨.row 30 2, .ints (flat (rpL bs l (pickI bs l p 6) (pickI bs l (p + 1) (IntKind.i64.wrap (m + 1))).toNat (p + 1 + 1)))⟩])))))) := by kernel_rfl
def rpN (bs : List Int) (l : Nat) (p m : Int) : Int := pickI bs l (p + 1) (m + 1)
/-- A drawn list. -/
def rpsL (bs : List Int) (l : Nat) (p m : Int) : List Pt := rpL bs l (pickI bs l p 6) (rpN bs l p m).toNat (p + 2)
abbrev rowL (ps : List Pt) : Value := .slice (some ⟨0, 0, none⟩) ps.length ps.length
def rptsS : RSpecR := fun bs l p rest => match rest with
  | [.int .i64 m] => some (rowL (rpsL bs l p m), ⟨.row 30 2, .ints (flat (rpsL bs l p m))⟩, p + 2 + 2 * rpN bs l p m, [rdC bs l p, p ≤ 700000, 0 ≤ m ∧ m ≤ 90])
  | _ => none
theorem rptsS_ok : SpecROk Try.prog 121 rptsS := by
  intro bs l c p rest v b p' C h hC
  unfold rptsS at h
  split at h
  rotate_left
  · cases h
  rename_i m
  obtain ⟨rfl, rfl, rfl, rfl⟩ : rowL (rpsL bs l p m) = v ∧ (⟨.row 30 2, .ints (flat (rpsL bs l p m))⟩ : Blk) = b ∧ p + 2 + 2 * rpN bs l p m = p' ∧ [rdC bs l p, p ≤ 700000, 0 ≤ m ∧ m ≤ 90] = C := by simpa using h
  obtain ⟨h1, h2, h3, _⟩ := hC
  refine ⟨rfl, ERL, 30, 12, ERL_ok, ?_⟩
  rw [tr_rptsF]
  have w : IntKind.i64.wrap (m + 1) = m + 1 := wr (by omega)
  have r1 : rdC bs l (p + 1) := ⟨h1.1, h1.2.1, by have := h1.2.2.1; omega, by omega, h1.2.2.2.2⟩
  have b1 := pickI_bd (k := m + 1) r1 (by omega)
  have e : p + 1 + 1 = p + 2 := by omega
  have := h1.2.2.1
  rw [w, e]
  exact ⟨h1, r1, rfl, ⟨b1.1, by omega⟩, ⟨h1.1, h1.2.1, h1.2.2.2.2⟩, ⟨by omega, by omega⟩, rfl, some 3, ⟨rfl, rfl, rfl⟩, rfl, rfl, rfl⟩
def JL1 : TabJ := consR 121 (rdGR rptsS) (tabJ J2)
theorem JL1_ok : GSound Try.prog JL1.g := consR_ok mixed (tabJ_sound mixed J2_ok) (entersB_res (by kernel_rfl)).1 rptsS_ok
noncomputable def c_fill : Code := ((loopsOf (codeOf Try.f64))[0]?).getD .skip
def k_fill : Ex → List Nat := keeps [0, 5] [(1, [5]), (0, [5])] [4]
def s_fill (bs : List Int) (l c : Nat) (q : Int) : Nat × (List Pt) × Int → St := fun (n, o, p) => ⟨(.pointer (some ⟨1, 0, none⟩) :: topV :: topV :: topV :: topV :: .slice (some ⟨3, 0, none⟩) o.length o.length :: topV :: topV :: topV :: topV :: topV :: topV :: topV :: topV :: topV :: topV :: topV :: topV :: topV :: topV :: topV :: topV :: topV :: topV :: topV :: topV :: topV :: topV :: topV :: topV :: topV :: topV :: topV :: topV :: []), [some ⟨.view, .bytes bs⟩, some ⟨.box, .vals [.slice (some ⟨0, 0, none⟩) l c, .int .i64 p]⟩, some ⟨.dead, .vals []⟩, some ⟨.row 30 2, .ints (flat o)⟩]⟩
def re_fill : Nat × (List Pt) × Int → Ex := fun _ => .exit 1
def rs_fill (bs : List Int) (l c : Nat) (q : Int) : Nat × (List Pt) × Int → St := fun (n, o, p) => ⟨(topV :: topV :: topV :: topV :: topV :: .slice (some ⟨3, 0, none⟩) (o ++ rpL bs l 2 n p).length (o ++ rpL bs l 2 n p).length :: topV :: topV :: topV :: topV :: topV :: topV :: topV :: topV :: topV :: topV :: topV :: topV :: topV :: topV :: topV :: topV :: topV :: topV :: topV :: topV :: topV :: topV :: topV :: topV :: topV :: topV :: topV :: topV :: []), [some ⟨.view, .bytes bs⟩, some ⟨.box, .vals [.slice (some ⟨0, 0, none⟩) l c, .int .i64 q]⟩, some ⟨.dead, .vals []⟩, some ⟨.row 30 2, .ints (flat (o ++ rpL bs l 2 n p))⟩]⟩
set_option maxRecDepth 100000 in
theorem tr_fill (bs : List Int) (l c : Nat) (q : Int) (n : Nat) (o : List Pt) (p : Int) : bodyL Try.prog ER2 30 12 noL 1 c_fill k_fill 16 (s_fill bs l c q (n, o, p)) = brT (decide ((↑o.length : Int) < 21)) (.need (rdK bs l p) (.need ((o.length + (1 : Nat)) * (16 : Nat) ≤ (140737488355328 : Nat) ∧ o.length + (1 : Nat) ≤ (1000000 : Nat)) (.need ((0 : Nat) + o.length * (2 : Nat) ≤ (flat o).length) (.leaf .normal ⟨(.pointer (some ⟨1, 0, none⟩) :: topV :: topV :: topV :: topV :: .slice (some ⟨5, 0, none⟩) (o.length + 1) (o.length + 1) :: topV :: topV :: topV :: topV :: topV :: topV :: topV :: topV :: topV :: topV :: topV :: topV :: topV :: topV :: topV :: topV :: topV :: topV :: topV :: topV :: topV :: topV :: topV :: topV :: topV :: topV :: topV :: topV :: []), [some ⟨.view, .bytes (bs)⟩, some ⟨.box, .vals [.slice (some ⟨0, 0, none⟩) (l) (c), .int .i64 (p + 2)]⟩, some deadB, some deadB, some ⟨.row 30 2, .vals [.int .i64 (pickI bs l p 9 - 2), .int .i64 (pickI bs l (p + 1) 9 - 2)]⟩, some ⟨.row 30 2, .ints (List.take (o.length * 2) (List.drop 0 (flat o)) ++ [pickI bs l p 9 - 2, pickI bs l (p + 1) 9 - 2])⟩]⟩)))) (.leaf (.exit 1) ⟨(topV :: topV :: topV :: topV :: topV :: .slice (some ⟨3, 0, none⟩) (o.length) (o.length) :: topV :: topV :: topV :: topV :: topV :: topV :: topV :: topV :: topV :: topV :: topV :: topV :: topV :: topV :: topV :: topV :: topV :: topV :: topV :: topV :: topV :: topV :: topV :: topV :: topV :: topV :: topV :: topV :: []), [some ⟨.view, .bytes (bs)⟩, some ⟨.box, .vals [.slice (some ⟨0, 0, none⟩) (l) (c), .int .i64 (p)]⟩, some deadB, some ⟨.row 30 2, .ints (flat o)⟩]⟩) := by kernel_rfl
set_option maxRecDepth 100000 in
theorem nl_fill : loopsOf c_fill = [] := by kernel_rfl
def inv_fill (bs : List Int) (l c : Nat) (q : Int) : Nat × (List Pt) × Int → Prop := fun (n, o, p) => o.length + n = 21 ∧ q = p + 2 * n ∧ 0 ≤ p ∧ q ≤ 900000
def me_fill (bs : List Int) (l c : Nat) (q : Int) : Nat × (List Pt) × Int → Nat := fun (n, o, p) => n
/-- A round of this loop. -/
def Round_fill (bs : List Int) (l c : Nat) (q : Int) : Prop := ∀ xx : Nat × (List Pt) × Int, inv_fill bs l c q xx → (bodyL Try.prog ER2 30 12 noL 1 c_fill k_fill 16 (s_fill bs l c q xx)).ok (RoundEnd 3 (s_fill bs l c q) (inv_fill bs l c q) (me_fill bs l c q) re_fill (rs_fill bs l c q) xx) (fun _ _ => False)
def e_fill (s : St) (k : Ex → St → Tree) : Option Tree := match Nat.beq s.tmps.length 34, pickL s.tmps [0, 5], s.mem with
  | true, [.pointer (some ⟨1, 0, none⟩), .slice (some ⟨2, 0, none⟩) z _], [some ⟨.view, .bytes bs⟩, some ⟨.box, .vals [.slice (some ⟨0, 0, none⟩) l c, .int .i64 p]⟩, some ⟨.row 30 2, .ints xs⟩] => some (needs [xs.length = z * 2, z ≤ 21, l ≤ bs.length ∧ l ≤ 2000 ∧ Bytes bs, 0 ≤ p ∧ p ≤ 800000] (k (.exit 1) ⟨(topV :: topV :: topV :: topV :: topV :: .slice (some ⟨3, 0, none⟩) (ptsA z xs ++ rpL bs l 2 (21 - z) p).length (ptsA z xs ++ rpL bs l 2 (21 - z) p).length :: topV :: topV :: topV :: topV :: topV :: topV :: topV :: topV :: topV :: topV :: topV :: topV :: topV :: topV :: topV :: topV :: topV :: topV :: topV :: topV :: topV :: topV :: topV :: topV :: topV :: topV :: topV :: topV :: []), [some ⟨.view, .bytes bs⟩, some ⟨.box, .vals [.slice (some ⟨0, 0, none⟩) l c, .int .i64 (p + 2 * (21 - z : Nat))]⟩, some ⟨.dead, .vals []⟩, some ⟨.row 30 2, .ints (flat (ptsA z xs ++ rpL bs l 2 (21 - z) p))⟩]⟩))
  | _, _, _ => none
set_option maxRecDepth 100000 in
theorem round_fill (bs : List Int) (l c : Nat) (q : Int) (h : l ≤ bs.length ∧ l ≤ 2000 ∧ Bytes bs) : Round_fill bs l c q := by
  rintro ⟨n, o, p⟩ ⟨h1, h2, h3, h4⟩
  rw [tr_fill]
  simp only [brT_ok, Tree.ok, decide_eq_true_eq, decide_eq_false_iff_not, flatA, flat_length, Nat.zero_add]
  have hr : rdK bs l p := ⟨⟨h.1, h.2.1, h3, by omega, h.2.2⟩, by omega⟩
  refine ⟨fun hlt => ?_, fun hge => ?_⟩
  · obtain ⟨n, rfl⟩ : ∃ m, n = m + 1 := ⟨n - 1, by omega⟩
    rw [flat_snoc, ← rpt2 (k := 2) (by decide) (by decide)]
    refine ⟨hr, by omega, by omega, (n, o ++ [rpt bs l 2 p], p + 2), [some 5], ⟨by simp; omega, by omega, by omega, by omega⟩, ?_, rfl, ?_, ?_⟩
    · show n < n + 1; omega
    · simp only [rs_fill, rpL_step]
    · repeat' (first | exact True.intro | exact rfl | exact fun _ => rfl | (simp; done) | refine And.intro ?_ ?_)
  · obtain rfl : n = 0 := by omega
    refine ⟨rfl, [some 3], ?_⟩
    obtain rfl : q = p := by omega
    simp only [rs_fill, rpL, List.append_nil]
    repeat' (first | exact True.intro | exact rfl | exact fun _ => rfl | refine And.intro ?_ ?_)
set_option maxRecDepth 100000 in
theorem lg_fill : LoopE Try.prog e_fill c_fill := by
  intro s k t F H hlt ht
  unfold e_fill at hlt
  split at hlt
  rotate_left
  · cases hlt
  rename_i hlen hpick hmem
  obtain ⟨tmps, mem⟩ := s
  simp only at hlen hpick hmem
  subst hmem
  obtain rfl := Option.some.inj hlt
  obtain ⟨⟨h0, h1, h2, h3, _⟩, ht2⟩ := needs_ok ht
  clear ht hlt
  obtain ⟨ps, rfl, rfl⟩ := even_flat h0
  rw [ptsA_flat] at ht2
  refine ⟨_, _, ht2, loop_run2 mixed ER2_ok (s_fill _ _ _ _) (inv_fill _ _ _ _) (me_fill _ _ _ _) re_fill (rs_fill _ _ _ _) k_fill (fun _ => rfl) (noLoops nl_fill) (round_fill _ _ _ _ h2) (x := (21 - ps.length, ps, _)) ⟨by omega, rfl, h3.1, by omega⟩ (π := [some 2]) rfl ?_⟩
  refine ⟨rfl, rfl, ?_, wvs_spread' [0, 5] hlen rfl ?_⟩
  · repeat' (first | exact True.intro | exact rfl | exact wv_top _ _ | exact fun _ => rfl | assumption | exact Eq.symm (by assumption) | exact vI0 rfl | refine And.intro ?_ ?_)
  · rw [hpick]
    repeat' (first | exact True.intro | exact rfl | exact wv_top _ _ | exact fun _ => rfl | assumption | exact Eq.symm (by assumption) | exact vI0 rfl | refine And.intro ?_ ?_)
theorem Lr_fill {fn : Func} (hf : Try.prog.funcs[64]? = some fn) : LoopsGood Try.prog (lt1 e_fill) 0 (codeOf fn) := by
  obtain rfl := fn_is Try.func64 hf
  exact lt1_good lg_fill
def LRd2 : FuncId → LT := fun f => match f with
  | 64 => lt1 e_fill
  | _ => noL
def ERL2 : Env := ⟨B0, fun _ _ => none, LRd2, JL1, fun _ => noR⟩
theorem ERL2_ok : EnvOk Try.prog ERL2 := ⟨B0_ok, fun _ _ _ _ _ h => (by cases h), (by
  intro f fn hf
  show LoopsGood Try.prog (LRd2 f) 0 (codeOf fn)
  unfold LRd2
  split
  all_goals first | with_reducible exact Lr_fill hf | exact noL_good), JL1_ok, fun _ _ _ => noR_good⟩
set_option maxRecDepth 100000 in
theorem tr_aptsF (bs : List Int) (l c : Nat) (p m : Int) : bodyM Try.prog ERL2 (runM Try.prog ERL2 30 12) 30 64 [.pointer (some ⟨1, 0, none⟩), .int .i64 m] (memR bs l c p none) .fin = .need (rdC bs l p) (.need (p ≤ (700000 : Int)) (.need ((0 : Int) ≤ m ∧ m ≤ (90 : Int)) (brT (decide (0 < (↑(rpsL bs l p m).length : Int))) (.need (rdC bs l (p + (2 : Int) + (2 : Int) * rpN bs l p m)) (brT (pickI bs l (p + 2 + 2 * rpN bs l p m) 20 == 0) (.need (rdC bs l (p + (2 : Int) + (2 : Int) * rpN bs l p m + (1 : Int))) (.need ((0 : Int) ≤ pickI bs l (p + (2 : Int) + (2 : Int) * rpN bs l p m + (1 : Int)) (↑(rpsL bs l p m).length : Int) ∧ pickI bs l (p + (2 : Int) + (2 : Int) * rpN bs l p m + (1 : Int)) (↑(rpsL bs l p m).length : Int) < (↑(rpsL bs l p m).length : Int)) (.need ((0 : Nat) + (pickI bs l (p + (2 : Int) + (2 : Int) * rpN bs l p m + (1 : Int)) (↑(rpsL bs l p m).length : Int)).toNat * (2 : Nat) + (2 : Nat) ≤ (flat (rpsL bs l p m)).length) (.fin (.slice (some ⟨2, 0, none⟩) ((rpsL bs l p m).length) ((rpsL bs l p m).length)) [some ⟨.view, .bytes (bs)⟩, some ⟨.box, .vals [.slice (some ⟨0, 0, none⟩) (l) (c), .int .i64 (p + 2 + 2 * rpN bs l p m + 1 + 1)]⟩, some ⟨.row 30 2, .ints (setInts (flat (rpsL bs l p m)) (0 + (pickI bs l (p + 2 + 2 * rpN bs l p m + 1) (↑(rpsL bs l p m).length : Int)).toNat * 2) [1001, 0])⟩])))) (brT (pickI bs l (p + 2 + 2 * rpN bs l p m) 20 == 1) (.need ((flat (rpsL bs l p m)).length = (rpsL bs l p m).length * (2 : Nat)) (.need ((rpsL bs l p m).length ≤ (21 : Nat)) (.need (l ≤ bs.length ∧ l ≤ (2000 : Nat) ∧ Bytes bs) (.need ((0 : Int) ≤ p + (2 : Int) + (2 : Int) * rpN bs l p m + (1 : Int) ∧ p + (2 : Int) + (2 : Int) * rpN bs l p m + (1 : Int) ≤ (800000 : Int)) (.fin (.slice (some ⟨3, 0, none⟩) ((ptsA (rpsL bs l p m).length (flat (rpsL bs l p m)) ++ rpL bs l 2 (21 - (rpsL bs l p m).length) (p + 2 + 2 * rpN bs l p m + 1)).length) ((ptsA (rpsL bs l p m).length (flat (rpsL bs l p m)) ++ rpL bs l 2 (21 - (rpsL bs l p m).length) (p + 2 + 2 * rpN bs l p m + 1)).length)) [some ⟨.view, .bytes (bs)⟩, some ⟨.box, .vals [.slice (some ⟨0, 0, none⟩) (l) (c), .int .i64 (p + 2 + 2 * rpN bs l p m + 1 + 2 * (↑(21 - (rpsL bs l p m).length) : Int))]⟩, some deadB, some ⟨.row 30 2, .ints (flat (ptsA (rpsL bs l p m).length (flat (rpsL bs l p m)) ++ rpL bs l 2 (21 - (rpsL bs l p m).length) (p + 2 + 2 * rpN bs l p m + 1)))⟩]))))) (.fin (.slice (some ⟨2, 0, none⟩) ((rpsL bs l p m).length) ((rpsL bs l p m).length)) [some ⟨.view, .bytes (bs)⟩, some ⟨.box, .vals [.slice (some ⟨0, 0, none⟩) (l) (c), .int .i64 (p + 2 + 2 * rpN bs l p m + 1)]⟩, some ⟨.row 30 2, .ints (flat (rpsL bs l p m))⟩])))) (.fin (.slice (some ⟨2, 0, none⟩) ((rpsL bs l p m).length) ((rpsL bs l p m).length)) [some ⟨.view, .bytes (bs)⟩, some ⟨.box, .vals [.slice (some ⟨0, 0, none⟩) (l) (c), .int .i64 (p + 2 + 2 * rpN bs l p m)]⟩, some ⟨.row 30 2, .ints (flat (rpsL bs l p m))⟩])))) := by kernel_rfl
def aq1 (bs : List Int) (l : Nat) (p m : Int) : Int := p + 2 + 2 * rpN bs l p m
def aqQ (bs : List Int) (l : Nat) (p m : Int) : Int := pickI bs l (aq1 bs l p m) 20
/-- A drawn list, perhaps not valid. -/
def apsL (bs : List Int) (l : Nat) (p m : Int) : List Pt :=
  if (rpsL bs l p m).length = 0 then rpsL bs l p m
  else if aqQ bs l p m = 0 then (rpsL bs l p m).set (pickI bs l (aq1 bs l p m + 1) (rpsL bs l p m).length).toNat (1001, 0)
  else if aqQ bs l p m = 1 then rpsL bs l p m ++ rpL bs l 2 (21 - (rpsL bs l p m).length) (aq1 bs l p m + 1)
  else rpsL bs l p m
/-- The place behind it. -/
def apsP (bs : List Int) (l : Nat) (p m : Int) : Int :=
  if (rpsL bs l p m).length = 0 then aq1 bs l p m
  else if aqQ bs l p m = 0 then aq1 bs l p m + 2
  else if aqQ bs l p m = 1 then aq1 bs l p m + 1 + 2 * (21 - (rpsL bs l p m).length : Nat)
  else aq1 bs l p m + 1
theorem rpsL_len {bs : List Int} {l : Nat} {p m : Int} (h : rdC bs l (p + 1)) (hm : 0 ≤ m ∧ m ≤ 20) : (rpsL bs l p m).length ≤ 20 ∧ (rpsL bs l p m).length = (rpN bs l p m).toNat ∧ 0 ≤ rpN bs l p m ∧ rpN bs l p m ≤ 20 := by
  have b1 := pickI_bd (k := m + 1) h (by omega)
  unfold rpsL
  rw [rpL_len]
  unfold rpN
  omega
def aptsS : RSpecR := fun bs l p rest => match rest with
  | [.int .i64 m] => some (rowL (apsL bs l p m), ⟨.row 30 2, .ints (flat (apsL bs l p m))⟩, apsP bs l p m, [rdC bs l p, p ≤ 600000, 0 ≤ m ∧ m ≤ 20])
  | _ => none
theorem aptsS_ok : SpecROk Try.prog 64 aptsS := by
  intro bs l c p rest v b p' C h hC
  unfold aptsS at h
  split at h
  rotate_left
  · cases h
  rename_i m
  obtain ⟨rfl, rfl, rfl, rfl⟩ : rowL (apsL bs l p m) = v ∧ (⟨.row 30 2, .ints (flat (apsL bs l p m))⟩ : Blk) = b ∧ apsP bs l p m = p' ∧ [rdC bs l p, p ≤ 600000, 0 ≤ m ∧ m ≤ 20] = C := by simpa using h
  obtain ⟨h1, h2, h3, _⟩ := hC
  refine ⟨rfl, ERL2, 30, 12, ERL2_ok, ?_⟩
  rw [tr_aptsF]
  have h0 := h1.2.2.1
  have r1 : rdC bs l (p + 1) := ⟨h1.1, h1.2.1, by omega, by omega, h1.2.2.2.2⟩
  obtain ⟨L1, L2, L3, L4⟩ := rpsL_len (m := m) r1 h3
  have ea : p + 2 + 2 * rpN bs l p m = aq1 bs l p m := rfl
  have ba : p + 2 ≤ aq1 bs l p m ∧ aq1 bs l p m ≤ p + 42 := by unfold aq1; omega
  rw [ea]
  have ra : ∀ q : Int, aq1 bs l p m ≤ q → q ≤ p + 100 → rdC bs l q := fun q g1 g2 => ⟨h1.1, h1.2.1, by omega, by omega, h1.2.2.2.2⟩
  refine ⟨h1, by omega, ⟨by omega, by omega⟩, brT_ok.2 ⟨fun hlen => ?_, fun hlen => ?_⟩⟩
  · have hlen := of_decide_eq_true hlen
    have hne : ¬ (rpsL bs l p m).length = 0 := by omega
    refine ⟨ra _ (by omega) (by omega), brT_ok.2 ⟨fun hq => ?_, fun hq => brT_ok.2 ⟨fun hq' => ?_, fun hq' => ?_⟩⟩⟩
    · have hq : aqQ bs l p m = 0 := by simpa [aqQ] using hq
      have e1 : apsL bs l p m = (rpsL bs l p m).set (pickI bs l (aq1 bs l p m + 1) (rpsL bs l p m).length).toNat (1001, 0) := by unfold apsL; rw [if_neg hne, if_pos hq]
      have e2 : apsP bs l p m = aq1 bs l p m + 2 := by unfold apsP; rw [if_neg hne, if_pos hq]
      have rb := ra (aq1 bs l p m + 1) (by omega) (by omega)
      have pb := pickI_bd (k := ((rpsL bs l p m).length : Int)) rb (by omega)
      rw [e1, e2]
      have hs := flat_set (rpsL bs l p m) (pickI bs l (aq1 bs l p m + 1) (rpsL bs l p m).length).toNat (by omega) 1001 0
      refine ⟨rb, pb, by rw [flat_length]; omega, box2 (by omega) _, some 2, ⟨rfl, rfl, by rw [List.length_set]⟩, rfl, rfl, ?_⟩
      rw [Nat.zero_add]
      exact hs
    · have hq : ¬ aqQ bs l p m = 0 := by simpa [aqQ] using hq
      have hq' : aqQ bs l p m = 1 := by simpa [aqQ] using hq'
      have e1 : apsL bs l p m = rpsL bs l p m ++ rpL bs l 2 (21 - (rpsL bs l p m).length) (aq1 bs l p m + 1) := by unfold apsL; rw [if_neg hne, if_neg hq, if_pos hq']
      have e2 : apsP bs l p m = aq1 bs l p m + 1 + 2 * (21 - (rpsL bs l p m).length : Nat) := by unfold apsP; rw [if_neg hne, if_neg hq, if_pos hq']
      rw [e1, e2, ptsA_flat]
      exact ⟨by rw [flat_length], by omega, ⟨h1.1, h1.2.1, h1.2.2.2.2⟩, ⟨by omega, by omega⟩, rfl, some 3, ⟨rfl, rfl, rfl⟩, rfl, rfl, rfl⟩
    · have hq : ¬ aqQ bs l p m = 0 := by simpa [aqQ] using hq
      have hq' : ¬ aqQ bs l p m = 1 := by simpa [aqQ] using hq'
      have e1 : apsL bs l p m = rpsL bs l p m := by unfold apsL; rw [if_neg hne, if_neg hq, if_neg hq']
      have e2 : apsP bs l p m = aq1 bs l p m + 1 := by unfold apsP; rw [if_neg hne, if_neg hq, if_neg hq']
      rw [e1, e2]
      exact ⟨rfl, some 2, ⟨rfl, rfl, rfl⟩, rfl, rfl, rfl⟩
  · have hlen := of_decide_eq_false hlen
    have hz : (rpsL bs l p m).length = 0 := by omega
    have e1 : apsL bs l p m = rpsL bs l p m := by unfold apsL; rw [if_pos hz]
    have e2 : apsP bs l p m = aq1 bs l p m := by unfold apsP; rw [if_pos hz]
    rw [e1, e2]
    exact ⟨rfl, some 2, ⟨rfl, rfl, rfl⟩, rfl, rfl, rfl⟩
/-- The reader's operations, drawn lists among them. -/
def JL2 : TabJ := consR 64 (rdGR aptsS) (tabJ J3)
theorem JL2_ok : GSound Try.prog JL2.g := consR_ok mixed (tabJ_sound mixed J3_ok) (entersB_res (by kernel_rfl)).1 aptsS_ok
theorem apsL_len {bs : List Int} {l : Nat} {p m : Int} (h : rdC bs l (p + 1)) (hm : 0 ≤ m ∧ m ≤ 20) : (apsL bs l p m).length ≤ 21 := by
  obtain ⟨L1, _⟩ := rpsL_len (m := m) h hm
  unfold apsL
  split
  · omega
  split
  · rw [List.length_set]; omega
  split
  · rw [List.length_append, rpL_len]; omega
  · omega
theorem apsP_bd {bs : List Int} {l : Nat} {p m : Int} (h : rdC bs l (p + 1)) (hm : 0 ≤ m ∧ m ≤ 20) : p + 2 ≤ apsP bs l p m ∧ apsP bs l p m ≤ p + 100 := by
  obtain ⟨L1, L2, L3, L4⟩ := rpsL_len (m := m) h hm
  unfold apsP aq1
  split
  · omega
  split
  · omega
  split <;> omega
end Go.Proofs.Ytnjmepbblcfnfaa
namespace Go.Proofs.Ytnjmepbblcfnfaa
set_option linter.all false
open Go.RowKit
def EDr : Env := ⟨B0, fun _ _ => none, fun _ => noL, JL2, fun _ => noR⟩
theorem EDr_ok : EnvOk Try.prog EDr := ⟨B0_ok, fun _ _ _ _ _ h => (by cases h), fun _ _ _ => noL_good, JL2_ok, fun _ _ _ => noR_good⟩
theorem drKey {bs : List Int} {n : Nat} (hb : Bytes bs) (hn : n ≤ bs.length) {l : Nat} (h1 : l ≤ n) (h2 : l ≤ 2000) {m : Int} (hm : 0 ≤ m ∧ m ≤ 20) : rdC bs l 0 ∧ rdK bs l (apsP bs l 0 m) ∧ rdC bs l (apP bs l (apsP bs l 0 m)) ∧ (apsL bs l 0 m).length ≤ 21 := by
  have r0 : rdK bs l 0 := rdK0 hb hn h1 h2 (by omega) (by omega)
  have r1 : rdC bs l (0 + 1) := r0.at (by omega) (by omega)
  have b1 := apsP_bd (m := m) r1 hm
  have r2 : rdK bs l (apsP bs l 0 m) := rdK0 hb hn h1 h2 (by omega) (by omega)
  have b2 := apP_bd bs l (apsP bs l 0 m)
  exact ⟨r0.1, r2, r2.at (by omega) (by omega), apsL_len r1 hm⟩
end Go.Proofs.Ytnjmepbblcfnfaa
namespace Go.Proofs.Ytnjmepbblcfnfaa
set_option linter.all false
open Go.RowKit
set_option maxRecDepth 100000 in
theorem tr_dDc (bs : List Int) (n : Nat) : bodyX Try.prog EDr 30 12 41 [.row n (.bytes bs)] = brT (decide (2000 < (↑n : Int))) (.need ((0 : Int) ≤ bndI none (0 : Int) ∧ bndI none (0 : Int) ≤ bndI (some (IntKind.i64, (2000 : Int))) (↑n : Int) ∧ bndI (some (IntKind.i64, (2000 : Int))) (↑n : Int) ≤ (↑n : Int)) (.need (rdC bs (2000 : Nat) (0 : Int)) (.need ((0 : Int) ≤ (600000 : Int)) (.need ((0 : Int) ≤ (8 : Int) ∧ (8 : Int) ≤ (20 : Int)) (.fin (.slice (some ⟨2, 0, none⟩) ((apsL bs 2000 0 8).length) ((apsL bs 2000 0 8).length)) [some ⟨.view, .bytes (bs)⟩, some ⟨.box, .vals [.slice (some ⟨0, 0, none⟩) (2000) (2000), .int .i64 (apsP bs 2000 0 8)]⟩, some ⟨.row 30 2, .ints (flat (apsL bs 2000 0 8))⟩]))))) (.need (rdC bs n (0 : Int)) (.need ((0 : Int) ≤ (600000 : Int)) (.need ((0 : Int) ≤ (8 : Int) ∧ (8 : Int) ≤ (20 : Int)) (.fin (.slice (some ⟨2, 0, none⟩) ((apsL bs n 0 8).length) ((apsL bs n 0 8).length)) [some ⟨.view, .bytes (bs)⟩, some ⟨.box, .vals [.slice (some ⟨0, 0, none⟩) (n) (n), .int .i64 (apsP bs n 0 8)]⟩, some ⟨.row 30 2, .ints (flat (apsL bs n 0 8))⟩])))) := by kernel_rfl
theorem resR_dDc (bs : List Int) (n : Nat) (hb : Bytes bs) (hn : n ≤ bs.length) : ResR Try.prog 41 [.row n (.bytes bs)] (rowP (apsL bs (rdL n) 0 8)) (blkP (apsL bs (rdL n) 0 8)) := by
  refine bodyX_resR mixed EDr_ok (m := 30) (n := 12) rfl ?_
  rw [tr_dDc]
  refine brT_ok.2 ⟨fun h => ?_, fun h => ?_⟩
  · have h := of_decide_eq_true h
    obtain ⟨k1, k2, k3, k4⟩ := drKey hb hn (l := 2000) (by omega) (by omega) (m := 8) (by omega)
    rw [rdL_of h]
    exact ⟨bnd2000 h, k1, by omega, by omega, some 2, ⟨rfl, rfl, rfl⟩, rfl, rfl, rfl⟩
  · have h := of_decide_eq_false h
    obtain ⟨k1, k2, k3, k4⟩ := drKey hb hn (l := n) (by omega) (by omega) (m := 8) (by omega)
    rw [rdL_no h]
    exact ⟨k1, by omega, by omega, some 2, ⟨rfl, rfl, rfl⟩, rfl, rfl, rfl⟩
def RLy : TabR := fun f ds => match f, ds with
  | 41, [.row n (.bytes bs)] => some (rowP (apsL bs (rdL n) 0 8), blkP (apsL bs (rdL n) 0 8), [Bytes bs, n ≤ bs.length])
  | f, ds => RDc f ds
theorem RLy_ok : TabROk Try.prog RLy := by
  intro f ds v b C h hC
  unfold RLy at h
  split at h
  · obtain ⟨rfl, rfl, rfl⟩ : _ ∧ _ ∧ _ := by simpa using h
    exact resR_dDc _ _ hC.1 hC.2.1
  · exact RDc_ok _ _ _ _ _ h hC
def TLy : Tab := fun f ds => match f with
  | 38 => pEqN ds
  | f => T3 f ds
theorem TLy_ok : TabOk Try.prog TLy := by
  intro f ds v C h hC
  unfold TLy at h
  (try split at h)
  all_goals first | with_reducible exact pEqN_ok h hC | exact T3_ok _ _ _ _ h hC
def ELy : Env := mkE TLy RLy (fun _ => noL)
theorem ELy_ok : EnvOk Try.prog ELy := mkEOk TLy_ok RLy_ok (fun _ _ _ => noL_good)
end Go.Proofs.Ytnjmepbblcfnfaa
namespace Go.Proofs.Ytnjmepbblcfnfaa
set_option linter.all false
open Go.RowKit
def suI : List Int → Int
  | [] => 0
  | x :: r => x + suI r
theorem suI_step {V : List Int} {i : Nat} (h : i < V.length) : suI (V.drop i) = V.getD i 0 + suI (V.drop (i + 1)) := by
  rw [drop_cons h 0]
  rfl
theorem suI_end {V : List Int} {i : Nat} (h : V.length ≤ i) : suI (V.drop i) = 0 := by
  rw [List.drop_of_length_le h]
  rfl
noncomputable def c_lds : Code := ((loopsOf (codeOf Try.f10))[0]?).getD .skip
def k_lds : Ex → List Nat := keeps [3, 4, 5, 6] [(0, [3, 5])] [2]
def s_lds (bs : List Int) (ps : List Pt) (V V2 : List Int) : Nat × Int → St := fun (i, s) => ⟨(topV :: topV :: topV :: .slice (some ⟨1, 0, none⟩) ps.length ps.length :: .slice (some ⟨2, 0, none⟩) V.length V.length :: .int .i64 s :: .int .i64 i :: topV :: topV :: topV :: topV :: topV :: topV :: topV :: topV :: topV :: topV :: topV :: topV :: topV :: topV :: topV :: topV :: topV :: topV :: topV :: topV :: topV :: topV :: topV :: topV :: topV :: topV :: topV :: topV :: topV :: topV :: topV :: topV :: topV :: topV :: topV :: topV :: topV :: topV :: topV :: topV :: topV :: topV :: topV :: topV :: topV :: topV :: topV :: topV :: topV :: topV :: topV :: topV :: topV :: topV :: topV :: topV :: topV :: topV :: topV :: topV :: topV :: topV :: topV :: topV :: []), [some ⟨.view, .bytes bs⟩, some ⟨.row 30 2, .ints (flat ps)⟩, some ⟨.row 3 1, .ints V⟩, some ⟨.row 3 1, .ints V2⟩]⟩
def re_lds : Nat × Int → Ex := fun _ => .exit 0
def rs_lds (bs : List Int) (ps : List Pt) (V V2 : List Int) : Nat × Int → St := fun (i, s) => ⟨(topV :: topV :: topV :: .slice (some ⟨1, 0, none⟩) ps.length ps.length :: topV :: .int .i64 (s + suI (V.drop i)) :: topV :: topV :: topV :: topV :: topV :: topV :: topV :: topV :: topV :: topV :: topV :: topV :: topV :: topV :: topV :: topV :: topV :: topV :: topV :: topV :: topV :: topV :: topV :: topV :: topV :: topV :: topV :: topV :: topV :: topV :: topV :: topV :: topV :: topV :: topV :: topV :: topV :: topV :: topV :: topV :: topV :: topV :: topV :: topV :: topV :: topV :: topV :: topV :: topV :: topV :: topV :: topV :: topV :: topV :: topV :: topV :: topV :: topV :: topV :: topV :: topV :: topV :: topV :: topV :: topV :: []), [some ⟨.view, .bytes bs⟩, some ⟨.row 30 2, .ints (flat ps)⟩, some ⟨.row 3 1, .ints V⟩, some ⟨.row 3 1, .ints V2⟩]⟩
set_option maxRecDepth 100000 in
theorem tr_lds (bs : List Int) (ps : List Pt) (V V2 : List Int) (i : Nat) (s : Int) : bodyL Try.prog ELy 30 12 noL 1 c_lds k_lds 4 (s_lds bs ps V V2 (i, s)) = brT (decide ((↑i : Int) < (↑V.length : Int))) (.need ((0 : Int) ≤ (↑i : Int) ∧ (↑i : Int) < (↑V.length : Int)) (.need ((0 : Nat) + (↑i : Int).toNat * (1 : Nat) < V.length) (brT (decide (V.getD (0 + (↑i : Int).toNat * 1) 0 < 0)) (.leaf .ret ⟨(topV :: topV :: .bool (false) :: topV :: topV :: topV :: topV :: topV :: topV :: topV :: topV :: topV :: topV :: topV :: topV :: topV :: topV :: topV :: topV :: topV :: topV :: topV :: topV :: topV :: topV :: topV :: topV :: topV :: topV :: topV :: topV :: topV :: topV :: topV :: topV :: topV :: topV :: topV :: topV :: topV :: topV :: topV :: topV :: topV :: topV :: topV :: topV :: topV :: topV :: topV :: topV :: topV :: topV :: topV :: topV :: topV :: topV :: topV :: topV :: topV :: topV :: topV :: topV :: topV :: topV :: topV :: topV :: topV :: topV :: topV :: topV :: []), [some ⟨.view, .bytes (bs)⟩, some ⟨.row 30 2, .ints (flat ps)⟩, some ⟨.row 3 1, .ints (V)⟩, some ⟨.row 3 1, .ints (V2)⟩]⟩) (.need ((0 : Int) ≤ (↑i : Int) ∧ (↑i : Int) < (↑V.length : Int)) (.need ((0 : Nat) + (↑i : Int).toNat * (1 : Nat) < V.length) (brT (decide ((↑ps.length : Int) ≤ V.getD (0 + (↑i : Int).toNat * 1) 0)) (.leaf .ret ⟨(topV :: topV :: .bool (false) :: topV :: topV :: topV :: topV :: topV :: topV :: topV :: topV :: topV :: topV :: topV :: topV :: topV :: topV :: topV :: topV :: topV :: topV :: topV :: topV :: topV :: topV :: topV :: topV :: topV :: topV :: topV :: topV :: topV :: topV :: topV :: topV :: topV :: topV :: topV :: topV :: topV :: topV :: topV :: topV :: topV :: topV :: topV :: topV :: topV :: topV :: topV :: topV :: topV :: topV :: topV :: topV :: topV :: topV :: topV :: topV :: topV :: topV :: topV :: topV :: topV :: topV :: topV :: topV :: topV :: topV :: topV :: topV :: []), [some ⟨.view, .bytes (bs)⟩, some ⟨.row 30 2, .ints (flat ps)⟩, some ⟨.row 3 1, .ints (V)⟩, some ⟨.row 3 1, .ints (V2)⟩]⟩) (.need ((0 : Int) ≤ (↑i : Int) ∧ (↑i : Int) < (↑V.length : Int)) (.need ((0 : Nat) + (↑i : Int).toNat * (1 : Nat) < V.length) (.leaf .normal ⟨(topV :: topV :: topV :: .slice (some ⟨1, 0, none⟩) (ps.length) (ps.length) :: .slice (some ⟨2, 0, none⟩) (V.length) (V.length) :: .int .i64 (IntKind.i64.wrap (s + V.getD (0 + (↑i : Int).toNat * 1) 0)) :: .int .i64 (IntKind.i64.wrap ((↑i : Int) + 1)) :: topV :: topV :: topV :: topV :: topV :: topV :: topV :: topV :: topV :: topV :: topV :: topV :: topV :: topV :: topV :: topV :: topV :: topV :: topV :: topV :: topV :: topV :: topV :: topV :: topV :: topV :: topV :: topV :: topV :: topV :: topV :: topV :: topV :: topV :: topV :: topV :: topV :: topV :: topV :: topV :: topV :: topV :: topV :: topV :: topV :: topV :: topV :: topV :: topV :: topV :: topV :: topV :: topV :: topV :: topV :: topV :: topV :: topV :: topV :: topV :: topV :: topV :: topV :: topV :: []), [some ⟨.view, .bytes (bs)⟩, some ⟨.row 30 2, .ints (flat ps)⟩, some ⟨.row 3 1, .ints (V)⟩, some ⟨.row 3 1, .ints (V2)⟩]⟩))))))))) (.leaf (.exit 0) ⟨(topV :: topV :: topV :: .slice (some ⟨1, 0, none⟩) (ps.length) (ps.length) :: topV :: .int .i64 (s) :: topV :: topV :: topV :: topV :: topV :: topV :: topV :: topV :: topV :: topV :: topV :: topV :: topV :: topV :: topV :: topV :: topV :: topV :: topV :: topV :: topV :: topV :: topV :: topV :: topV :: topV :: topV :: topV :: topV :: topV :: topV :: topV :: topV :: topV :: topV :: topV :: topV :: topV :: topV :: topV :: topV :: topV :: topV :: topV :: topV :: topV :: topV :: topV :: topV :: topV :: topV :: topV :: topV :: topV :: topV :: topV :: topV :: topV :: topV :: topV :: topV :: topV :: topV :: topV :: topV :: []), [some ⟨.view, .bytes (bs)⟩, some ⟨.row 30 2, .ints (flat ps)⟩, some ⟨.row 3 1, .ints (V)⟩, some ⟨.row 3 1, .ints (V2)⟩]⟩) := by kernel_rfl
set_option maxRecDepth 100000 in
theorem nl_lds : loopsOf c_lds = [] := by kernel_rfl
def inv_lds (bs : List Int) (ps : List Pt) (V V2 : List Int) : Nat × Int → Prop := fun (i, s) => i ≤ V.length ∧ 0 ≤ s ∧ s ≤ 20 * i
def me_lds (bs : List Int) (ps : List Pt) (V V2 : List Int) : Nat × Int → Nat := fun (i, s) => V.length - i
/-- A round of this loop. -/
def Round_lds (bs : List Int) (ps : List Pt) (V V2 : List Int) : Prop := ∀ xx : Nat × Int, inv_lds bs ps V V2 xx → (bodyL Try.prog ELy 30 12 noL 1 c_lds k_lds 4 (s_lds bs ps V V2 xx)).ok (RoundEnd 4 (s_lds bs ps V V2) (inv_lds bs ps V V2) (me_lds bs ps V V2) re_lds (rs_lds bs ps V V2) xx) (fun _ _ => False)
def e_lds (s : St) (k : Ex → St → Tree) : Option Tree := match Nat.beq s.tmps.length 71, pickL s.tmps [3, 4, 5, 6], s.mem with
  | true, [.slice (some ⟨1, 0, none⟩) n _, .slice (some ⟨2, 0, none⟩) m _, .int .i64 s, .int .i64 ii], [some ⟨.view, .bytes bs⟩, some ⟨.row 30 2, .ints xs⟩, some ⟨.row 3 1, .ints V⟩, some ⟨.row 3 1, .ints V2⟩] => some (needs [ii = 0, s = 0, m = V.length, xs.length = n * 2, n ≤ 20, m ≤ 20, ∀ k, k < V.length → 0 ≤ V.getD k 0 ∧ V.getD k 0 < n] (k (.exit 0) ⟨(topV :: topV :: topV :: .slice (some ⟨1, 0, none⟩) n n :: topV :: .int .i64 (0 + suI V) :: topV :: topV :: topV :: topV :: topV :: topV :: topV :: topV :: topV :: topV :: topV :: topV :: topV :: topV :: topV :: topV :: topV :: topV :: topV :: topV :: topV :: topV :: topV :: topV :: topV :: topV :: topV :: topV :: topV :: topV :: topV :: topV :: topV :: topV :: topV :: topV :: topV :: topV :: topV :: topV :: topV :: topV :: topV :: topV :: topV :: topV :: topV :: topV :: topV :: topV :: topV :: topV :: topV :: topV :: topV :: topV :: topV :: topV :: topV :: topV :: topV :: topV :: topV :: topV :: topV :: []), [some ⟨.view, .bytes bs⟩, some ⟨.row 30 2, .ints xs⟩, some ⟨.row 3 1, .ints V⟩, some ⟨.row 3 1, .ints V2⟩]⟩))
  | _, _, _ => none
set_option maxRecDepth 100000 in
theorem round_lds (bs : List Int) (ps : List Pt) (V V2 : List Int) (h : ps.length ≤ 20) (hV : V.length ≤ 20) (hm : ∀ k, k < V.length → 0 ≤ V.getD k 0 ∧ V.getD k 0 < ps.length) : Round_lds bs ps V V2 := by
  rintro ⟨i, s⟩ ⟨h1, h2, h3⟩
  rw [tr_lds]
  simp only [Int.toNat_natCast, Nat.zero_add, Nat.add_zero, flat_length, Nat.mul_one]
  refine brT_ok.2 ⟨fun hlt => ?_, fun hge => ?_⟩
  · have hlt := of_decide_eq_true hlt
    have hi : i < V.length := by omega
    obtain ⟨a1, a2⟩ := hm i hi
    have st := suI_step hi
    have w : IntKind.i64.wrap (s + V.getD i 0) = s + V.getD i 0 := wr (by omega)
    rw [wsucc (n := V.length) hi (by omega), w]
    simp only [decide_eq_false (show ¬ V.getD i 0 < 0 by omega), decide_eq_false (show ¬ (ps.length : Int) ≤ V.getD i 0 by omega), brT_f, Tree.ok]
    repeat (refine And.intro (by first | omega | assumption | trivial) ?_)
    refine ⟨(i + 1, s + V.getD i 0), [], ⟨by omega, by omega, by omega⟩, ?_, rfl, ?_, ?_⟩
    · show V.length - (i + 1) < V.length - i; omega
    · simp only [rs_lds, st, Int.add_assoc]
    · repeat' (first | exact True.intro | exact rfl | exact fun _ => rfl | refine And.intro ?_ ?_)
  · have hge := of_decide_eq_false hge
    refine ⟨rfl, [], ?_⟩
    simp only [rs_lds, suI_end (V := V) (i := i) (by omega), Int.add_zero]
    repeat' (first | exact True.intro | exact rfl | exact fun _ => rfl | refine And.intro ?_ ?_)
set_option maxRecDepth 100000 in
theorem lg_lds : LoopE Try.prog e_lds c_lds := by
  intro s k t F H hlt ht
  unfold e_lds at hlt
  split at hlt
  rotate_left
  · cases hlt
  rename_i hlen hpick hmem
  obtain ⟨tmps, mem⟩ := s
  simp only at hlen hpick hmem
  subst hmem
  obtain rfl := Option.some.inj hlt
  obtain ⟨⟨rfl, rfl, rfl, h1, h2, h3, h6, _⟩, ht2⟩ := needs_ok ht
  clear ht hlt
  obtain ⟨ps, rfl, rfl⟩ := even_flat h1
  refine ⟨_, _, ht2, loop_run mixed ELy_ok (s_lds _ ps _ _) (inv_lds _ ps _ _) (me_lds _ ps _ _) re_lds (rs_lds _ ps _ _) k_lds (fun _ => rfl) (noLoops nl_lds) (round_lds _ ps _ _ h2 h3 h6) (x := (0, 0)) ⟨Nat.zero_le _, Int.le_refl _, Int.le_refl _⟩ (π := []) rfl ?_⟩
  refine ⟨rfl, rfl, ?_, wvs_spread' [3, 4, 5, 6] hlen rfl ?_⟩
  · repeat' (first | exact True.intro | exact rfl | exact wv_top _ _ | exact fun _ => rfl | assumption | exact Eq.symm (by assumption) | exact vI0 rfl | refine And.intro ?_ ?_)
  · rw [hpick]
    repeat' (first | exact True.intro | exact rfl | exact wv_top _ _ | exact fun _ => rfl | assumption | exact Eq.symm (by assumption) | exact vI0 rfl | refine And.intro ?_ ?_)
theorem Lr_lds {fn : Func} (hf : Try.prog.funcs[10]? = some fn) : LoopsGood Try.prog (lt1 e_lds) 0 (codeOf fn) := by
  obtain rfl := fn_is Try.func10 hf
  exact lt1_good lg_lds
def LLy : FuncId → LT := fun f => match f with
  | 10 => lt1 e_lds
  | _ => noL
def ELz : Env := mkE TLy RLy LLy
theorem ELz_ok : EnvOk Try.prog ELz := mkEOk TLy_ok RLy_ok (by
  intro f fn hf
  unfold LLy
  split
  all_goals first | with_reducible exact Lr_lds hf | exact noL_good)
set_option maxRecDepth 100000 in
theorem tr_lDc (bs : List Int) : bodyV Try.prog ELz 30 12 10 [.row bs.length (.bytes bs)] = brT (decide (1048576 < (↑bs.length : Int))) (.fin (.bool (true)) []) (.need (Bytes (List.drop (0 : Nat) bs)) (.need (bs.length ≤ (List.drop (0 : Nat) bs).length) (.need ((apsL (List.drop (0 : Nat) bs) (rdL bs.length) (0 : Int) (8 : Int)).length * (2 : Nat) ≤ (List.drop (0 : Nat) (flat (apsL (List.drop (0 : Nat) bs) (rdL bs.length) (0 : Int) (8 : Int)))).length) (.need ((apsL (List.drop (0 : Nat) bs) (rdL bs.length) (0 : Int) (8 : Int)).length ≤ (1000000000 : Nat)) (.need ((apsL (List.drop (0 : Nat) bs) (rdL bs.length) (0 : Int) (8 : Int)).length * (2 : Nat) ≤ (List.drop (0 : Nat) (flat (apsL (List.drop (0 : Nat) bs) (rdL bs.length) (0 : Int) (8 : Int)))).length) (.need ((apsL (List.drop (0 : Nat) bs) (rdL bs.length) (0 : Int) (8 : Int)).length ≤ (1000000000 : Nat)) (.need ((dcV (ptsA (apsL (List.drop (0 : Nat) bs) (rdL bs.length) (0 : Int) (8 : Int)).length (List.drop (0 : Nat) (flat (apsL (List.drop (0 : Nat) bs) (rdL bs.length) (0 : Int) (8 : Int)))))).length = (dcV (ptsA (apsL (List.drop (0 : Nat) bs) (rdL bs.length) (0 : Int) (8 : Int)).length (List.drop (0 : Nat) (flat (apsL (List.drop (0 : Nat) bs) (rdL bs.length) (0 : Int) (8 : Int)))))).length) (.need (List.drop (0 : Nat) (dcV (ptsA (apsL (List.drop (0 : Nat) bs) (rdL bs.length) (0 : Int) (8 : Int)).length (List.drop (0 : Nat) (flat (apsL (List.drop (0 : Nat) bs) (rdL bs.length) (0 : Int) (8 : Int)))))) = List.drop (0 : Nat) (dcV (ptsA (apsL (List.drop (0 : Nat) bs) (rdL bs.length) (0 : Int) (8 : Int)).length (List.drop (0 : Nat) (flat (apsL (List.drop (0 : Nat) bs) (rdL bs.length) (0 : Int) (8 : Int))))))) (.need ((dcV (ptsA (apsL (List.drop (0 : Nat) bs) (rdL bs.length) (0 : Int) (8 : Int)).length (List.drop (0 : Nat) (flat (apsL (List.drop (0 : Nat) bs) (rdL bs.length) (0 : Int) (8 : Int)))))).length ≤ (List.drop (0 : Nat) (dcV (ptsA (apsL (List.drop (0 : Nat) bs) (rdL bs.length) (0 : Int) (8 : Int)).length (List.drop (0 : Nat) (flat (apsL (List.drop (0 : Nat) bs) (rdL bs.length) (0 : Int) (8 : Int))))))).length) (.need (Lim (dcV (ptsA (apsL (List.drop (0 : Nat) bs) (rdL bs.length) (0 : Int) (8 : Int)).length (List.drop (0 : Nat) (flat (apsL (List.drop (0 : Nat) bs) (rdL bs.length) (0 : Int) (8 : Int)))))).length) (brT ((↑(dcV (ptsA (apsL (List.drop 0 bs) (rdL bs.length) 0 8).length (List.drop 0 (flat (apsL (List.drop 0 bs) (rdL bs.length) 0 8))))).length : Int) == 0) (.need ((apsL (List.drop (0 : Nat) bs) (rdL bs.length) (0 : Int) (8 : Int)).length * (2 : Nat) ≤ (List.drop (0 : Nat) (flat (apsL (List.drop (0 : Nat) bs) (rdL bs.length) (0 : Int) (8 : Int)))).length) (.need ((apsL (List.drop (0 : Nat) bs) (rdL bs.length) (0 : Int) (8 : Int)).length ≤ (1000000000 : Nat)) (.need ((dcV (ptsA (apsL (List.drop (0 : Nat) bs) (rdL bs.length) (0 : Int) (8 : Int)).length (List.drop (0 : Nat) (flat (apsL (List.drop (0 : Nat) bs) (rdL bs.length) (0 : Int) (8 : Int)))))).length = (dcV (ptsA (apsL (List.drop (0 : Nat) bs) (rdL bs.length) (0 : Int) (8 : Int)).length (List.drop (0 : Nat) (flat (apsL (List.drop (0 : Nat) bs) (rdL bs.length) (0 : Int) (8 : Int)))))).length) (.need (List.drop (0 : Nat) (dcV (ptsA (apsL (List.drop (0 : Nat) bs) (rdL bs.length) (0 : Int) (8 : Int)).length (List.drop (0 : Nat) (flat (apsL (List.drop (0 : Nat) bs) (rdL bs.length) (0 : Int) (8 : Int)))))) = List.drop (0 : Nat) (dcV (ptsA (apsL (List.drop (0 : Nat) bs) (rdL bs.length) (0 : Int) (8 : Int)).length (List.drop (0 : Nat) (flat (apsL (List.drop (0 : Nat) bs) (rdL bs.length) (0 : Int) (8 : Int))))))) (.need ((dcV (ptsA (apsL (List.drop (0 : Nat) bs) (rdL bs.length) (0 : Int) (8 : Int)).length (List.drop (0 : Nat) (flat (apsL (List.drop (0 : Nat) bs) (rdL bs.length) (0 : Int) (8 : Int)))))).length ≤ (List.drop (0 : Nat) (dcV (ptsA (apsL (List.drop (0 : Nat) bs) (rdL bs.length) (0 : Int) (8 : Int)).length (List.drop (0 : Nat) (flat (apsL (List.drop (0 : Nat) bs) (rdL bs.length) (0 : Int) (8 : Int))))))).length) (.need (Lim (dcV (ptsA (apsL (List.drop (0 : Nat) bs) (rdL bs.length) (0 : Int) (8 : Int)).length (List.drop (0 : Nat) (flat (apsL (List.drop (0 : Nat) bs) (rdL bs.length) (0 : Int) (8 : Int)))))).length) (.fin (.bool (true)) []))))))) (.need ((0 : Int) = (0 : Int)) (.need ((0 : Int) = (0 : Int)) (.need ((dcV (ptsA (apsL (List.drop (0 : Nat) bs) (rdL bs.length) (0 : Int) (8 : Int)).length (List.drop (0 : Nat) (flat (apsL (List.drop (0 : Nat) bs) (rdL bs.length) (0 : Int) (8 : Int)))))).length = (dcV (ptsA (apsL (List.drop (0 : Nat) bs) (rdL bs.length) (0 : Int) (8 : Int)).length (List.drop (0 : Nat) (flat (apsL (List.drop (0 : Nat) bs) (rdL bs.length) (0 : Int) (8 : Int)))))).length) (.need ((flat (apsL (List.drop (0 : Nat) bs) (rdL bs.length) (0 : Int) (8 : Int))).length = (apsL (List.drop (0 : Nat) bs) (rdL bs.length) (0 : Int) (8 : Int)).length * (2 : Nat)) (.need ((apsL (List.drop (0 : Nat) bs) (rdL bs.length) (0 : Int) (8 : Int)).length ≤ (20 : Nat)) (.need ((dcV (ptsA (apsL (List.drop (0 : Nat) bs) (rdL bs.length) (0 : Int) (8 : Int)).length (List.drop (0 : Nat) (flat (apsL (List.drop (0 : Nat) bs) (rdL bs.length) (0 : Int) (8 : Int)))))).length ≤ (20 : Nat)) (.need (∀ (k : Nat), k < (dcV (ptsA (apsL (List.drop (0 : Nat) bs) (rdL bs.length) (0 : Int) (8 : Int)).length (List.drop (0 : Nat) (flat (apsL (List.drop (0 : Nat) bs) (rdL bs.length) (0 : Int) (8 : Int)))))).length → (0 : Int) ≤ (dcV (ptsA (apsL (List.drop (0 : Nat) bs) (rdL bs.length) (0 : Int) (8 : Int)).length (List.drop (0 : Nat) (flat (apsL (List.drop (0 : Nat) bs) (rdL bs.length) (0 : Int) (8 : Int)))))).getD k (0 : Int) ∧ (dcV (ptsA (apsL (List.drop (0 : Nat) bs) (rdL bs.length) (0 : Int) (8 : Int)).length (List.drop (0 : Nat) (flat (apsL (List.drop (0 : Nat) bs) (rdL bs.length) (0 : Int) (8 : Int)))))).getD k (0 : Int) < (↑(apsL (List.drop (0 : Nat) bs) (rdL bs.length) (0 : Int) (8 : Int)).length : Int)) (.need ((apsL (List.drop (0 : Nat) bs) (rdL bs.length) (0 : Int) (8 : Int)).length * (2 : Nat) ≤ (List.drop (0 : Nat) (flat (apsL (List.drop (0 : Nat) bs) (rdL bs.length) (0 : Int) (8 : Int)))).length) (.need ((apsL (List.drop (0 : Nat) bs) (rdL bs.length) (0 : Int) (8 : Int)).length ≤ (1000000000 : Nat)) (brT (decide ((↑(spV (ptsA (apsL (List.drop 0 bs) (rdL bs.length) 0 8).length (List.drop 0 (flat (apsL (List.drop 0 bs) (rdL bs.length) 0 8))))).length : Int) < (↑(apsL (List.drop 0 bs) (rdL bs.length) 0 8).length : Int))) (.fin (.bool (true)) []) (.need (¬(2 : Int) = (0 : Int)) (.fin (.bool (decide (0 + suI (dcV (ptsA (apsL (List.drop 0 bs) (rdL bs.length) 0 8).length (List.drop 0 (flat (apsL (List.drop 0 bs) (rdL bs.length) 0 8))))) ≤ IntKind.i64.wrap ((IntKind.i64.wrap ((↑(apsL (List.drop 0 bs) (rdL bs.length) 0 8).length : Int) * IntKind.i64.wrap ((↑(apsL (List.drop 0 bs) (rdL bs.length) 0 8).length : Int) - 1))).tdiv 2)))) []))))))))))))))))))))))) := by kernel_rfl
/-- How many pass. -/
def cNt (P : Pt → Bool) : List Pt → Nat
  | [] => 0
  | q :: r => (bif P q then 1 else 0) + cNt P r
theorem idx_cnt (P : Pt → Bool) : ∀ (qs : List Pt) (k : Nat), (idxF P qs k).length = cNt P qs
  | [], _ => rfl
  | q :: r, k => by
    have ih := idx_cnt P r (k + 1)
    simp only [idxF, cNt]
    cases P q
    · simp only [cond_false]; omega
    · simp only [cond_true, List.length_cons]; omega
theorem cNt_le (P : Pt → Bool) : ∀ qs, cNt P qs ≤ qs.length
  | [] => Nat.le_refl _
  | q :: r => by
    have ih := cNt_le P r
    simp only [cNt, List.length_cons]
    cases P q <;> simp <;> omega
def sN (f : Pt → Nat) : List Pt → Nat
  | [] => 0
  | q :: r => f q + sN f r
theorem sN_add (f g : Pt → Nat) : ∀ r, sN (fun p => f p + g p) r = sN f r + sN g r
  | [] => rfl
  | q :: r => by
    have := sN_add f g r
    simp only [sN]
    omega
theorem sN_cN (P : Pt → Bool) : ∀ r, sN (fun p => bif P p then 1 else 0) r = cNt P r
  | [] => rfl
  | q :: r => by
    have := sN_cN P r
    simp only [sN, cNt]
    omega
theorem dom_anti {p q : Pt} (h1 : domB p q = true) (h2 : domB q p = true) : p = q := by
  unfold domB at h1 h2
  simp only [Bool.and_eq_true, decide_eq_true_eq] at h1 h2
  exact Prod.ext (by omega) (by omega)
theorem cNt_two {a : Pt} : ∀ {r : List Pt}, a ∉ r → cNt (domB a) r + cNt (fun p => domB p a) r ≤ r.length
  | [], _ => Nat.le_refl _
  | q :: r, h => by
    have ih := cNt_two (a := a) (r := r) (fun h2 => h (List.mem_cons_of_mem _ h2))
    have hne : a ≠ q := fun e => h (by rw [e]; exact List.mem_cons_self ..)
    simp only [cNt, List.length_cons]
    cases h1 : domB a q <;> cases h2 : domB q a
    · simp; omega
    · simp; omega
    · simp; omega
    · exact absurd (dom_anti h1 h2) hne
theorem sN_dom : ∀ {ps : List Pt}, ps.Nodup → 2 * sN (fun p => cNt (domB p) ps) ps ≤ ps.length * (ps.length + 1)
  | [], _ => Nat.le_refl _
  | a :: r, h => by
    obtain ⟨h1, h2⟩ := List.nodup_cons.1 h
    have ih := sN_dom h2
    have two := cNt_two h1
    have ha : domB a a = true := by unfold domB; simp
    have e1 : sN (fun p => cNt (domB p) (a :: r)) (a :: r) = 1 + cNt (domB a) r + (sN (fun p => bif domB p a then 1 else 0) r + sN (fun p => cNt (domB p) r) r) := by
      rw [← sN_add]
      simp only [sN, cNt, ha, cond_true]
    rw [e1, sN_cN (fun p => domB p a) r]
    simp only [List.length_cons]
    have e2 : (r.length + 1) * (r.length + 1 + 1) = r.length * (r.length + 1) + 2 * (r.length + 1) := by
      rw [show r.length + 1 + 1 = r.length + 2 from rfl, Nat.mul_comm (r.length + 1) (r.length + 2), Nat.add_mul, Nat.mul_comm 2]
    omega
theorem nodup_of : ∀ {l ps : List Pt}, l.Nodup → (∀ x ∈ l, x ∈ ps) → ps.length ≤ l.length → l.Perm ps
  | [], ps, _, _, h => by
    have : ps = [] := List.eq_nil_of_length_eq_zero (by simpa using h)
    rw [this]
  | a :: t, ps, h1, h2, h3 => by
    obtain ⟨g1, g2⟩ := List.nodup_cons.1 h1
    have ha : a ∈ ps := h2 a (List.mem_cons_self ..)
    have e := List.length_erase_of_mem ha
    have hp := nodup_of (l := t) (ps := ps.erase a) g2 (fun x hx => by
      have : x ≠ a := fun e => g1 (e ▸ hx)
      exact (List.mem_erase_of_ne this).2 (h2 x (List.mem_cons_of_mem _ hx))) (by
      simp only [List.length_cons] at h3
      omega)
    exact (hp.cons a).trans (List.perm_cons_erase ha).symm
theorem asc_nodup {l : List Pt} (h : Asc l) : l.Nodup := by
  refine List.Pairwise.imp ?_ h
  intro x y hxy e
  subst e
  rw [pltB_iff] at hxy
  omega
theorem sp_nodup {ps : List Pt} (h : okL ps = true) (hl : ps.length ≤ (spV ps).length) : ps.Nodup := by
  have e : spV ps = srtL ps := by unfold spV; rw [h]; rfl
  rw [e] at hl
  have n := asc_nodup (srtL_asc ps)
  exact (nodup_of n (fun x hx => (srtL_mem _ _).1 hx) hl).nodup_iff.1 n
theorem dcI_sum (ps : List Pt) : ∀ (m i : Nat), i + m = ps.length → suI (dcI ps m i) = (sN (fun p => cNt (domB p) ps) (ps.drop i) : Int) - m
  | 0, i, h => by
    rw [List.drop_of_length_le (by omega)]
    rfl
  | m + 1, i, h => by
    have ih := dcI_sum ps m (i + 1) (by omega)
    rw [drop_cons (show i < ps.length by omega) (0, 0)]
    simp only [dcI, suI, sN, ih, idx_cnt]
    omega
theorem dc_bound {ps : List Pt} (h : okL ps = true) (hl : ps.length ≤ (spV ps).length) : 2 * suI (dcV ps) ≤ (ps.length : Int) * (ps.length - 1) := by
  have e : dcV ps = dcI ps ps.length 0 := by unfold dcV; rw [h]; rfl
  rw [e, dcI_sum ps ps.length 0 (by omega), List.drop_zero]
  have := sN_dom (sp_nodup h hl)
  have e2 : (ps.length : Int) * (ps.length - 1) = ((ps.length * (ps.length + 1) : Nat) : Int) - 2 * ps.length := by
    rw [Int.natCast_mul, Int.mul_sub, Int.natCast_add, Int.mul_add]
    omega
  omega
theorem dcI_get (ps : List Pt) : ∀ (m i : Nat), i + m = ps.length → ∀ k, k < m → 0 ≤ (dcI ps m i).getD k 0 ∧ (dcI ps m i).getD k 0 < ps.length
  | 0, i, h, k, hk => by omega
  | m + 1, i, h, k, hk => by
    have hi : i < ps.length := by omega
    have ha : domB (ps.getD i (0, 0)) (ps.getD i (0, 0)) = true := by unfold domB; simp
    have l1 := idx_cnt (domB (ps.getD i (0, 0))) ps 0
    have l2 := cNt_le (domB (ps.getD i (0, 0))) ps
    have l3 : 1 ≤ cNt (domB (ps.getD i (0, 0))) ps := by
      have key : ∀ (qs : List Pt) (p : Pt), p ∈ qs → domB p p = true → 1 ≤ cNt (domB p) qs := by
        intro qs p
        induction qs with
        | nil => intro hp; simp at hp
        | cons q r ih =>
          intro hp hd
          simp only [cNt]
          rcases List.mem_cons.1 hp with rfl | hp
          · rw [hd]; simp
          · have := ih hp hd
            omega
      exact key ps _ (by simp [hi]) ha
    rcases k with _ | k
    · simp only [dcI, List.getD_cons_zero]
      omega
    · simp only [dcI, List.getD_cons_succ]
      exact dcI_get ps m (i + 1) (by omega) k (by omega)
theorem dcV_le (ps : List Pt) : (dcV ps).length ≤ 20 ∧ (okL ps = true → ∀ k, k < (dcV ps).length → 0 ≤ (dcV ps).getD k 0 ∧ (dcV ps).getD k 0 < ps.length) := by
  have hlen : ∀ (m i : Nat), (dcI ps m i).length = m := fun m => by
    induction m with
    | zero => intro i; rfl
    | succ m ih => intro i; simp [dcI, ih]
  unfold dcV
  cases hk : okL ps
  · exact ⟨Nat.zero_le _, fun h => by cases h⟩
  · have hl : ps.length ≤ 20 := by simp only [okL, Bool.and_eq_true, decide_eq_true_eq] at hk; exact hk.2
    simp only [cond_true]
    rw [hlen]
    exact ⟨hl, fun _ k hk => dcI_get ps ps.length 0 (by omega) k hk⟩
set_option maxRecDepth 100000 in
theorem law_dc (bs : List Int) (hb : Bytes bs) (_ : bs.length ≤ maxLen) : Res Try.prog 10 [.row bs.length (.bytes bs)] (.bool true) := by
  refine bodyV_res mixed ELz_ok (m := 30) (n := 12) rfl ?_
  rw [tr_lDc]
  simp only [List.drop_zero, ptsA_flat, flat_length]
  obtain ⟨_, _, _, hL⟩ := drKey hb (Nat.le_refl _) (l := rdL bs.length) (by unfold rdL; omega) (by unfold rdL; omega) (m := 8) (by omega)
  generalize apsL bs (rdL bs.length) 0 8 = ps at *
  have hl : ps.length ≤ 1000000000 := by omega
  obtain ⟨hV, hg⟩ := dcV_le ps
  have hLm : Lim (dcV ps).length := Nat.le_trans hV (by decide)
  have cl : decide ((1048576 : Int) < bs.length) = true ∨ decide ((1048576 : Int) < bs.length) = false := by cases decide ((1048576 : Int) < bs.length) <;> simp
  rcases cl with cl | cl
  · rw [cl]
    exact rfl
  rw [cl]
  simp only [brT_f, Tree.ok]
  cases hk : okL ps
  · have e : dcV ps = [] := by unfold dcV; rw [hk]; rfl
    rw [e] at hLm ⊢
    simp only [List.length_nil, beq_self_eq_true, brT_t, brT_f, Tree.ok, Int.natCast_zero]
    repeat' (first | exact hb | exact hl | exact hLm | exact rfl | exact True.intro | omega | refine And.intro ?_ ?_)
  · have h20 : ps.length ≤ 20 := by simp only [okL, Bool.and_eq_true, decide_eq_true_eq] at hk; exact hk.2
    have hg := hg hk
    have c2 : ((dcV ps).length : Int) == 0 ∨ (((dcV ps).length : Int) == 0) = false := by cases ((dcV ps).length : Int) == 0 <;> simp
    rcases c2 with c2 | c2
    · rw [c2]
      simp only [brT_t, brT_f, Tree.ok]
      repeat' (first | exact hb | exact hl | exact hLm | exact rfl | exact True.intro | omega | refine And.intro ?_ ?_)
    rw [c2]
    simp only [brT_t, brT_f, Tree.ok]
    by_cases hs : ((spV ps).length : Int) < ps.length
    · rw [decide_eq_true hs]
      simp only [brT_t, Tree.ok]
      repeat' (first | exact hb | exact hl | exact hLm | exact hg | exact rfl | exact True.intro | omega | refine And.intro ?_ ?_)
    · rw [decide_eq_false hs]
      have hB := dc_bound hk (by omega)
      have hw : IntKind.i64.wrap ((ps.length : Int) - 1) = (ps.length : Int) - 1 := wr (by omega)
      have m1 := mul_bd (x := (ps.length : Int)) (y := (ps.length : Int) - 1) 20 20 (by omega) (by omega)
      have m0 : 0 ≤ (ps.length : Int) * ((ps.length : Int) - 1) := by
        rcases Nat.eq_zero_or_pos ps.length with h0 | h0
        · rw [h0]; decide
        · exact Int.mul_nonneg (by omega) (by omega)
      rw [hw]
      generalize (ps.length : Int) * ((ps.length : Int) - 1) = x at *
      have hw2 : IntKind.i64.wrap x = x := wr (by omega)
      rw [hw2, Int.tdiv_eq_ediv_of_nonneg m0]
      have hw3 : IntKind.i64.wrap (x / 2) = x / 2 := wr (by omega)
      rw [hw3, decide_eq_true (show 0 + suI (dcV ps) ≤ x / 2 by omega)]
      simp only [brT_f, Tree.ok]
      repeat' (first | exact hb | exact hl | exact hLm | exact hg | exact rfl | exact True.intro | omega | refine And.intro ?_ ?_)
end Go.Proofs.Ytnjmepbblcfnfaa
