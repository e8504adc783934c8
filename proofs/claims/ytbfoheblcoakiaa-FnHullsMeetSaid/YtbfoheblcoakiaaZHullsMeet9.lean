/-
  Texts that the proof needs, merged. Written by an AI agent.
-/
import Derived.Orders
import Derived.Below
import Derived.OrdersIn
import Derived.Deep.LoopGhost
import Derived.WalkKit
import Derived.Laws.CopyRow
import Derived.Laws.AppendOwn
import Derived.Laws.Slices
import Derived.Laws.MakeOwn
import Derived.Test.YtbfoheblcoakiaaRows
import Derived.ProofKit
import Derived.OpenShut
import Derived.Carry
import Derived.IntWalk
import Derived.Test.YtbfoheblcoakiaaProg
import Derived.WalkSpells
import Derived.WalkLawsBesides
import Derived.Lib.Hide
import Derived.Deep.QuietTactic
import Derived.BigQuiet
import Derived.KernelRfl
import Derived.Deep.RegionHeld3
import Derived.LoopTactic
import Derived.Laws.StructEq
import Derived.Laws.Tables
import Derived.RangeFuncNested
import Derived.RangeFuncLeaves
import Derived.Deep.Slices
import Derived.Deep.Fields
import Derived.ChangeSame
import Derived.Deep.DeepCutAuto
import Derived.Shelf.SlSortCmp.WholeK
import Derived.Sort.Grow
import Derived.Shelf.SlSortCmp.NoneTotal
import Derived.Test.YtbfoheblcoakiaaZHullsMeet8
namespace Go.Proofs.Ytbfoheblcoakiaa
set_option linter.all false
open Go.RowKit
/-- One drawn point of a list of the kind k. -/
def rpt (bs : List Int) (l : Nat) (k p : Int) : Pt :=
  bif k == 0 then (pickI bs l p 9 - 2, IntKind.i64.wrap (IntKind.i64.wrap (2 * (pickI bs l p 9 - 2)) + 1))
  else bif k == 1 then (IntKind.i64.wrap ((pickI bs l p 9 - 2) * 100), IntKind.i64.wrap ((pickI bs l (p + 1) 9 - 2) * 37))
  else (pickI bs l p 9 - 2, pickI bs l (p + 1) 9 - 2)
/-- So many drawn points. -/
def rpL (bs : List Int) (l : Nat) (k : Int) : Nat → Int → List Pt
  | 0, _ => []
  | n + 1, p => rpt bs l k p :: rpL bs l k n (p + 2)
theorem rpL_len (bs : List Int) (l : Nat) (k : Int) : ∀ (n : Nat) (p : Int), (rpL bs l k n p).length = n
  | 0, _ => rfl
  | n + 1, p => by simp [rpL, rpL_len bs l k n]
theorem rpL_step (bs : List Int) (l : Nat) (k : Int) (n : Nat) (p : Int) (o : List Pt) : o ++ rpL bs l k (n + 1) p = (o ++ [rpt bs l k p]) ++ rpL bs l k n (p + 2) := by
  simp [rpL]
theorem flatA (o : List Pt) : List.take (o.length * 2) (List.drop 0 (flat o)) = flat o := by rw [List.drop_zero, flat_all]
noncomputable def c_rpts : Code := ((loopsOf (codeOf Try.f86))[0]?).getD .skip
def k_rpts : Ex → List Nat := keeps [0, 5, 6, 7] [(0, [5])] [4]
def s_rpts (bs : List Int) (l c : Nat) (k q : Int) : Nat × (List Pt) × Int → St := fun (n, o, p) => ⟨(.pointer (some ⟨1, 0, none⟩) :: topV :: topV :: topV :: topV :: .slice (some ⟨3, 0, none⟩) o.length o.length :: .int .i64 k :: .int .i64 n :: topV :: topV :: topV :: topV :: topV :: topV :: topV :: topV :: topV :: topV :: topV :: topV :: topV :: topV :: topV :: topV :: topV :: topV :: topV :: topV :: topV :: topV :: topV :: topV :: topV :: topV :: topV :: topV :: topV :: topV :: topV :: topV :: topV :: topV :: topV :: []), [some ⟨.view, .bytes bs⟩, some ⟨.box, .vals [.slice (some ⟨0, 0, none⟩) l c, .int .i64 p]⟩, some ⟨.dead, .vals []⟩, some ⟨.row 32 2, .ints (flat o)⟩]⟩
def re_rpts : Nat × (List Pt) × Int → Ex := fun _ => .exit 0
def rs_rpts (bs : List Int) (l c : Nat) (k q : Int) : Nat × (List Pt) × Int → St := fun (n, o, p) => ⟨(topV :: topV :: topV :: topV :: topV :: .slice (some ⟨3, 0, none⟩) (o ++ rpL bs l k n p).length (o ++ rpL bs l k n p).length :: topV :: topV :: topV :: topV :: topV :: topV :: topV :: topV :: topV :: topV :: topV :: topV :: topV :: topV :: topV :: topV :: topV :: topV :: topV :: topV :: topV :: topV :: topV :: topV :: topV :: topV :: topV :: topV :: topV :: topV :: topV :: topV :: topV :: topV :: topV :: topV :: topV :: []), [some ⟨.view, .bytes bs⟩, some ⟨.box, .vals [.slice (some ⟨0, 0, none⟩) l c, .int .i64 q]⟩, some ⟨.dead, .vals []⟩, some ⟨.row 32 2, .ints (flat (o ++ rpL bs l k n p))⟩]⟩
set_option maxRecDepth 100000 in
theorem tr_rpts (bs : List Int) (l c : Nat) (k q : Int) (n : Nat) (o : List Pt) (p : Int) : bodyL Try.prog ER2 30 12 noL 1 c_rpts k_rpts 16 (s_rpts bs l c k q (n, o, p)) = brT (decide (0 < (↑n : Int))) (.need (rdK bs l p) (brT (k == 0) (brT (k == 1) (.need ((o.length + (1 : Nat)) * (16 : Nat) ≤ (140737488355328 : Nat) ∧ o.length + (1 : Nat) ≤ (1000000 : Nat)) (.need ((0 : Nat) + o.length * (2 : Nat) ≤ (flat o).length) (.leaf .normal ⟨(.pointer (some ⟨1, 0, none⟩) :: topV :: topV :: topV :: topV :: .slice (some ⟨6, 0, none⟩) (o.length + 1) (o.length + 1) :: .int .i64 (k) :: .int .i64 (IntKind.i64.wrap ((↑n : Int) - 1)) :: topV :: topV :: topV :: topV :: topV :: topV :: topV :: topV :: topV :: topV :: topV :: topV :: topV :: topV :: topV :: topV :: topV :: topV :: topV :: topV :: topV :: topV :: topV :: topV :: topV :: topV :: topV :: topV :: topV :: topV :: topV :: topV :: topV :: topV :: topV :: []), [some ⟨.view, .bytes (bs)⟩, some ⟨.box, .vals [.slice (some ⟨0, 0, none⟩) (l) (c), .int .i64 (p + 2)]⟩, some deadB, some deadB, some ⟨.box, .vals [.int .i64 (IntKind.i64.wrap ((pickI bs l p 9 - 2) * 100)), .int .i64 (IntKind.i64.wrap (IntKind.i64.wrap (IntKind.i64.wrap (2 * (pickI bs l p 9 - 2)) + 1) * 37))]⟩, some ⟨.row 32 2, .vals [.int .i64 (IntKind.i64.wrap ((pickI bs l p 9 - 2) * 100)), .int .i64 (IntKind.i64.wrap (IntKind.i64.wrap (IntKind.i64.wrap (2 * (pickI bs l p 9 - 2)) + 1) * 37))]⟩, some ⟨.row 32 2, .ints (List.take (o.length * 2) (List.drop 0 (flat o)) ++ [IntKind.i64.wrap ((pickI bs l p 9 - 2) * 100), IntKind.i64.wrap (IntKind.i64.wrap (IntKind.i64.wrap (2 * (pickI bs l p 9 - 2)) + 1) * 37)])⟩]⟩))) (.need ((o.length + (1 : Nat)) * (16 : Nat) ≤ (140737488355328 : Nat) ∧ o.length + (1 : Nat) ≤ (1000000 : Nat)) (.need ((0 : Nat) + o.length * (2 : Nat) ≤ (flat o).length) (.leaf .normal ⟨(.pointer (some ⟨1, 0, none⟩) :: topV :: topV :: topV :: topV :: .slice (some ⟨6, 0, none⟩) (o.length + 1) (o.length + 1) :: .int .i64 (k) :: .int .i64 (IntKind.i64.wrap ((↑n : Int) - 1)) :: topV :: topV :: topV :: topV :: topV :: topV :: topV :: topV :: topV :: topV :: topV :: topV :: topV :: topV :: topV :: topV :: topV :: topV :: topV :: topV :: topV :: topV :: topV :: topV :: topV :: topV :: topV :: topV :: topV :: topV :: topV :: topV :: topV :: topV :: topV :: []), [some ⟨.view, .bytes (bs)⟩, some ⟨.box, .vals [.slice (some ⟨0, 0, none⟩) (l) (c), .int .i64 (p + 2)]⟩, some deadB, some deadB, some ⟨.box, .vals [.int .i64 (pickI bs l p 9 - 2), .int .i64 (IntKind.i64.wrap (IntKind.i64.wrap (2 * (pickI bs l p 9 - 2)) + 1))]⟩, some ⟨.row 32 2, .vals [.int .i64 (pickI bs l p 9 - 2), .int .i64 (IntKind.i64.wrap (IntKind.i64.wrap (2 * (pickI bs l p 9 - 2)) + 1))]⟩, some ⟨.row 32 2, .ints (List.take (o.length * 2) (List.drop 0 (flat o)) ++ [pickI bs l p 9 - 2, IntKind.i64.wrap (IntKind.i64.wrap (2 * (pickI bs l p 9 - 2)) + 1)])⟩]⟩)))) (brT (k == 1) (.need ((o.length + (1 : Nat)) * (16 : Nat) ≤ (140737488355328 : Nat) ∧ o.length + (1 : Nat) ≤ (1000000 : Nat)) (.need ((0 : Nat) + o.length * (2 : Nat) ≤ (flat o).length) (.leaf .normal ⟨(.pointer (some ⟨1, 0, none⟩) :: topV :: topV :: topV :: topV :: .slice (some ⟨6, 0, none⟩) (o.length + 1) (o.length + 1) :: .int .i64 (k) :: .int .i64 (IntKind.i64.wrap ((↑n : Int) - 1)) :: topV :: topV :: topV :: topV :: topV :: topV :: topV :: topV :: topV :: topV :: topV :: topV :: topV :: topV :: topV :: topV :: topV :: topV :: topV :: topV :: topV :: topV :: topV :: topV :: topV :: topV :: topV :: topV :: topV :: topV :: topV :: topV :: topV :: topV :: topV :: []), [some ⟨.view, .bytes (bs)⟩, some ⟨.box, .vals [.slice (some ⟨0, 0, none⟩) (l) (c), .int .i64 (p + 2)]⟩, some deadB, some deadB, some ⟨.box, .vals [.int .i64 (IntKind.i64.wrap ((pickI bs l p 9 - 2) * 100)), .int .i64 (IntKind.i64.wrap ((pickI bs l (p + 1) 9 - 2) * 37))]⟩, some ⟨.row 32 2, .vals [.int .i64 (IntKind.i64.wrap ((pickI bs l p 9 - 2) * 100)), .int .i64 (IntKind.i64.wrap ((pickI bs l (p + 1) 9 - 2) * 37))]⟩, some ⟨.row 32 2, .ints (List.take (o.length * 2) (List.drop 0 (flat o)) ++ [IntKind.i64.wrap ((pickI bs l p 9 - 2) * 100), IntKind.i64.wrap ((pickI bs l (p + 1) 9 - 2) * 37)])⟩]⟩))) (.need ((o.length + (1 : Nat)) * (16 : Nat) ≤ (140737488355328 : Nat) ∧ o.length + (1 : Nat) ≤ (1000000 : Nat)) (.need ((0 : Nat) + o.length * (2 : Nat) ≤ (flat o).length) (.leaf .normal ⟨(.pointer (some ⟨1, 0, none⟩) :: topV :: topV :: topV :: topV :: .slice (some ⟨6, 0, none⟩) (o.length + 1) (o.length + 1) :: .int .i64 (k) :: .int .i64 (IntKind.i64.wrap ((↑n : Int) - 1)) :: topV :: topV :: topV :: topV :: topV :: topV :: topV :: topV :: topV :: topV :: topV :: topV :: topV :: topV :: topV :: topV :: topV :: topV :: topV :: topV :: topV :: topV :: topV :: topV :: topV :: topV :: topV :: topV :: topV :: topV :: topV :: topV :: topV :: topV :: topV :: []), [some ⟨.view, .bytes (bs)⟩, some ⟨.box, .vals [.slice (some ⟨0, 0, none⟩) (l) (c), .int .i64 (p + 2)]⟩, some deadB, some deadB, some ⟨.box, .vals [.int .i64 (pickI bs l p 9 - 2), .int .i64 (pickI bs l (p + 1) 9 - 2)]⟩, some ⟨.row 32 2, .vals [.int .i64 (pickI bs l p 9 - 2), .int .i64 (pickI bs l (p + 1) 9 - 2)]⟩, some ⟨.row 32 2, .ints (List.take (o.length * 2) (List.drop 0 (flat o)) ++ [pickI bs l p 9 - 2, pickI bs l (p + 1) 9 - 2])⟩]⟩)))))) (.leaf (.exit 0) ⟨(topV :: topV :: topV :: topV :: topV :: .slice (some ⟨3, 0, none⟩) (o.length) (o.length) :: topV :: topV :: topV :: topV :: topV :: topV :: topV :: topV :: topV :: topV :: topV :: topV :: topV :: topV :: topV :: topV :: topV :: topV :: topV :: topV :: topV :: topV :: topV :: topV :: topV :: topV :: topV :: topV :: topV :: topV :: topV :: topV :: topV :: topV :: topV :: topV :: topV :: []), [some ⟨.view, .bytes (bs)⟩, some ⟨.box, .vals [.slice (some ⟨0, 0, none⟩) (l) (c), .int .i64 (p)]⟩, some deadB, some ⟨.row 32 2, .ints (flat o)⟩]⟩) := by kernel_rfl
set_option maxRecDepth 100000 in
theorem nl_rpts : loopsOf c_rpts = [] := by kernel_rfl
def inv_rpts (bs : List Int) (l c : Nat) (k q : Int) : Nat × (List Pt) × Int → Prop := fun (n, o, p) => o.length + n ≤ 100 ∧ q = p + 2 * n ∧ 0 ≤ p ∧ q ≤ 900000
def me_rpts (bs : List Int) (l c : Nat) (k q : Int) : Nat × (List Pt) × Int → Nat := fun (n, o, p) => n
/-- A round of this loop. -/
def Round_rpts (bs : List Int) (l c : Nat) (k q : Int) : Prop := ∀ xx : Nat × (List Pt) × Int, inv_rpts bs l c k q xx → (bodyL Try.prog ER2 30 12 noL 1 c_rpts k_rpts 16 (s_rpts bs l c k q xx)).ok (RoundEnd 3 (s_rpts bs l c k q) (inv_rpts bs l c k q) (me_rpts bs l c k q) re_rpts (rs_rpts bs l c k q) xx) (fun _ _ => False)
def e_rpts (s : St) (k : Ex → St → Tree) : Option Tree := match Nat.beq s.tmps.length 43, pickL s.tmps [0, 5, 6, 7], s.mem with
  | true, [.pointer (some ⟨1, 0, none⟩), .slice (some ⟨2, 0, none⟩) z _, .int .i64 k1, .int .i64 n1], [some ⟨.view, .bytes bs⟩, some ⟨.box, .vals [.slice (some ⟨0, 0, none⟩) l c, .int .i64 p]⟩, some ⟨.row 32 2, .vals []⟩] => some (needs [z = 0, 0 ≤ n1 ∧ n1 ≤ 100, l ≤ bs.length ∧ l ≤ 2000 ∧ Bytes bs, 0 ≤ p ∧ p ≤ 800000] (k (.exit 0) ⟨(topV :: topV :: topV :: topV :: topV :: .slice (some ⟨3, 0, none⟩) (rpL bs l k1 n1.toNat p).length (rpL bs l k1 n1.toNat p).length :: topV :: topV :: topV :: topV :: topV :: topV :: topV :: topV :: topV :: topV :: topV :: topV :: topV :: topV :: topV :: topV :: topV :: topV :: topV :: topV :: topV :: topV :: topV :: topV :: topV :: topV :: topV :: topV :: topV :: topV :: topV :: topV :: topV :: topV :: topV :: topV :: topV :: []), [some ⟨.view, .bytes bs⟩, some ⟨.box, .vals [.slice (some ⟨0, 0, none⟩) l c, .int .i64 (p + 2 * n1)]⟩, some ⟨.dead, .vals []⟩, some ⟨.row 32 2, .ints (flat (rpL bs l k1 n1.toNat p))⟩]⟩))
  | _, _, _ => none
theorem rpt0 {bs : List Int} {l : Nat} {k p : Int} (h : k = 0) : rpt bs l k p = (pickI bs l p 9 - 2, IntKind.i64.wrap (IntKind.i64.wrap (2 * (pickI bs l p 9 - 2)) + 1)) := by
  subst h; rfl
theorem rpt1 {bs : List Int} {l : Nat} {k p : Int} (h : k = 1) : rpt bs l k p = (IntKind.i64.wrap ((pickI bs l p 9 - 2) * 100), IntKind.i64.wrap ((pickI bs l (p + 1) 9 - 2) * 37)) := by
  subst h; rfl
theorem rpt2 {bs : List Int} {l : Nat} {k p : Int} (h : ¬ k = 0) (h' : ¬ k = 1) : rpt bs l k p = (pickI bs l p 9 - 2, pickI bs l (p + 1) 9 - 2) := by
  unfold rpt
  rw [beq_eq_false_iff_ne.2 h, beq_eq_false_iff_ne.2 h']
  rfl
set_option maxRecDepth 100000 in
theorem round_rpts (bs : List Int) (l c : Nat) (k q : Int) (h : l ≤ bs.length ∧ l ≤ 2000 ∧ Bytes bs) : Round_rpts bs l c k q := by
  rintro ⟨n, o, p⟩ ⟨h1, h2, h3, h4⟩
  rw [tr_rpts]
  simp only [brT_ok, Tree.ok, decide_eq_true_eq, decide_eq_false_iff_not, flatA, flat_length, Nat.zero_add, beq_iff_eq, beq_eq_false_iff_ne, ne_eq]
  have hr : rdK bs l p := ⟨⟨h.1, h.2.1, h3, by omega, h.2.2⟩, by omega⟩
  refine ⟨fun hlt => ⟨hr, ?_⟩, fun hge => ?_⟩
  · obtain ⟨n, rfl⟩ : ∃ m, n = m + 1 := ⟨n - 1, by omega⟩
    have e : IntKind.i64.wrap (((n + 1 : Nat) : Int) - 1) = (n : Int) := by rw [wr (by omega)]; omega
    rw [e]
    refine ⟨fun g0 => ⟨fun g1 => by omega, fun g1 => ?_⟩, fun g0 => ⟨fun g1 => ?_, fun g1 => ?_⟩⟩
    · rw [flat_snoc, ← rpt0 g0]
      refine ⟨by omega, by omega, (n, o ++ [rpt bs l k p], p + 2), [some 6], ⟨by simp; omega, by omega, by omega, by omega⟩, ?_, rfl, ?_, ?_⟩
      · show n < n + 1; omega
      · simp only [rs_rpts, rpL_step]
      · repeat' (first | exact True.intro | exact rfl | exact fun _ => rfl | (simp; done) | refine And.intro ?_ ?_)
    · rw [flat_snoc, ← rpt1 g1]
      refine ⟨by omega, by omega, (n, o ++ [rpt bs l k p], p + 2), [some 6], ⟨by simp; omega, by omega, by omega, by omega⟩, ?_, rfl, ?_, ?_⟩
      · show n < n + 1; omega
      · simp only [rs_rpts, rpL_step]
      · repeat' (first | exact True.intro | exact rfl | exact fun _ => rfl | (simp; done) | refine And.intro ?_ ?_)
    · rw [flat_snoc, ← rpt2 g0 g1]
      refine ⟨by omega, by omega, (n, o ++ [rpt bs l k p], p + 2), [some 6], ⟨by simp; omega, by omega, by omega, by omega⟩, ?_, rfl, ?_, ?_⟩
      · show n < n + 1; omega
      · simp only [rs_rpts, rpL_step]
      · repeat' (first | exact True.intro | exact rfl | exact fun _ => rfl | (simp; done) | refine And.intro ?_ ?_)
  · obtain rfl : n = 0 := by omega
    refine ⟨rfl, [some 3], ?_⟩
    obtain rfl : q = p := by omega
    simp only [rs_rpts, rpL, List.append_nil]
    repeat' (first | exact True.intro | exact rfl | exact fun _ => rfl | refine And.intro ?_ ?_)
set_option maxRecDepth 100000 in
theorem lg_rpts : LoopE Try.prog e_rpts c_rpts := by
  intro s k t F H hlt ht
  unfold e_rpts at hlt
  split at hlt
  rotate_left
  · cases hlt
  rename_i hlen hpick hmem
  obtain ⟨tmps, mem⟩ := s
  simp only at hlen hpick hmem
  subst hmem
  obtain rfl := Option.some.inj hlt
  obtain ⟨⟨rfl, h1, h2, h3, _⟩, ht2⟩ := needs_ok ht
  clear ht hlt
  obtain ⟨n, rfl⟩ := Int.eq_ofNat_of_zero_le h1.1
  simp only [Int.toNat_natCast] at ht2
  refine ⟨_, _, ht2, loop_run2 mixed ER2_ok (s_rpts _ _ _ _ _) (inv_rpts _ _ _ _ _) (me_rpts _ _ _ _ _) re_rpts (rs_rpts _ _ _ _ _) k_rpts (fun _ => rfl) (noLoops nl_rpts) (round_rpts _ _ _ _ _ h2) (x := (n, [], _)) ⟨by simp; omega, rfl, h3.1, by omega⟩ (π := [some 2]) rfl ?_⟩
  refine ⟨rfl, rfl, ?_, wvs_spread' [0, 5, 6, 7] hlen rfl ?_⟩
  · repeat' (first | exact True.intro | exact rfl | exact wv_top _ _ | exact fun _ => rfl | assumption | exact Eq.symm (by assumption) | exact vI0 rfl | refine And.intro ?_ ?_)
  · rw [hpick]
    repeat' (first | exact True.intro | exact rfl | exact wv_top _ _ | exact fun _ => rfl | assumption | exact Eq.symm (by assumption) | exact vI0 rfl | refine And.intro ?_ ?_)
theorem Lr_rpts {fn : Func} (hf : Try.prog.funcs[86]? = some fn) : LoopsGood Try.prog (lt1 e_rpts) 0 (codeOf fn) := by
  obtain rfl := fn_is Try.func86 hf
  exact lt1_good lg_rpts
def LRd1 : FuncId → LT := fun f => match f with
  | 86 => lt1 e_rpts
  | _ => noL
def ERL : Env := ⟨B0, fun _ _ => none, LRd1, tabJ J2, fun _ => noR⟩
theorem ERL_ok : EnvOk Try.prog ERL := ⟨B0_ok, fun _ _ _ _ _ h => (by cases h), (by
  intro f fn hf
  show LoopsGood Try.prog (LRd1 f) 0 (codeOf fn)
  unfold LRd1
  split
  all_goals first | with_reducible exact Lr_rpts hf | exact noL_good), tabJ_sound mixed J2_ok, fun _ _ _ => noR_good⟩
set_option maxRecDepth 100000 in
theorem tr_rptsF (bs : List Int) (l c : Nat) (p m : Int) : bodyM Try.prog ERL (runM Try.prog ERL 30 12) 30 86 [.pointer (some ⟨1, 0, none⟩), .int .i64 m] (memR bs l c p none) .fin = .need (rdC bs l p) (.need (rdC bs l (p + (1 : Int))) (.need ((0 : Nat) = (0 : Nat)) (.need ((0 : Int) ≤ pickI bs l (p + (1 : Int)) (IntKind.i64.wrap (m + (1 : Int))) ∧ pickI bs l (p + (1 : Int)) (IntKind.i64.wrap (m + (1 : Int))) ≤ (100 : Int)) (.need (l ≤ bs.length ∧ l ≤ (2000 : Nat) ∧ Bytes bs) (.need ((0 : Int) ≤ p + (1 : Int) + (1 : Int) ∧ p + (1 : Int) + (1 : Int) ≤ (800000 : Int)) (.fin (.slice (some ⟨3, 0, none⟩) ((rpL bs l (pickI bs l p 6) (pickI bs l (p + 1) (IntKind.i64.wrap (m + 1))).toNat (p + 1 + 1)).length) ((rpL bs l (pickI bs l p 6) (pickI bs l (p + 1) (IntKind.i64.wrap (m + 1))).toNat (p + 1 + 1)).length)) [some ⟨.view, .bytes (bs)⟩, some ⟨.box, .vals [.slice (some ⟨0, 0, none⟩) (l) (c), .int .i64 (p + 1 + 1 + 2 * pickI bs l (p + 1) (IntKind.i64.wrap (m + 1)))]⟩, some deadB, some ⟨.row 32 2, .ints (flat (rpL bs l (pickI bs l p 6) (pickI bs l (p + 1) (IntKind.i64.wrap (m + 1))).toNat (p + 1 + 1)))⟩])))))) := by kernel_rfl
def rpN (bs : List Int) (l : Nat) (p m : Int) : Int := pickI bs l (p + 1) (m + 1)
/-- A drawn list. -/
def rpsL (bs : List Int) (l : Nat) (p m : Int) : List Pt := rpL bs l (pickI bs l p 6) (rpN bs l p m).toNat (p + 2)
abbrev rowL (ps : List Pt) : Value := .slice (some ⟨0, 0, none⟩) ps.length ps.length
def rptsS : RSpecR := fun bs l p rest => match rest with
  | [.int .i64 m] => some (rowL (rpsL bs l p m), ⟨.row 32 2, .ints (flat (rpsL bs l p m))⟩, p + 2 + 2 * rpN bs l p m, [rdC bs l p, p ≤ 700000, 0 ≤ m ∧ m ≤ 90])
  | _ => none
theorem rptsS_ok : SpecROk Try.prog 86 rptsS := by
  intro bs l c p rest v b p' C h hC
  unfold rptsS at h
  split at h
  rotate_left
  · cases h
  rename_i m
  obtain ⟨rfl, rfl, rfl, rfl⟩ : rowL (rpsL bs l p m) = v ∧ (⟨.row 32 2, .ints (flat (rpsL bs l p m))⟩ : Blk) = b ∧ p + 2 + 2 * rpN bs l p m = p' ∧ [rdC bs l p, p ≤ 700000, 0 ≤ m ∧ m ≤ 90] = C := by simpa using h
  obtain ⟨h1, h2, h3, _⟩ := hC
  refine ⟨rfl, ERL, 30, 12, ERL_ok, ?_⟩
  rw [tr_rptsF]
  have w : IntKind.i64.wrap (m + 1) = m + 1 := wr (by omega)
  have r1 : rdC bs l (p + 1) := ⟨h1.1, h1.2.1, by have := h1.2.2.1; omega, by omega, h1.2.2.2.2⟩
  have b1 := pickI_bd (k := m + 1) r1 (by omega)
  have e : p + 1 + 1 = p + 2 := by omega
  have := h1.2.2.1
  rw [w, e]
  exact ⟨h1, r1, rfl, ⟨b1.1, by omega⟩, ⟨h1.1, h1.2.1, h1.2.2.2.2⟩, ⟨by omega, by omega⟩, rfl, some 3, ⟨rfl, rfl, rfl⟩, rfl, rfl, rfl⟩
def JL1 : TabJ := consR 86 (rdGR rptsS) (tabJ J2)
theorem JL1_ok : GSound Try.prog JL1.g := consR_ok mixed (tabJ_sound mixed J2_ok) (entersB_res (by kernel_rfl)).1 rptsS_ok
noncomputable def c_fill : Code := ((loopsOf (codeOf Try.f60))[0]?).getD .skip
def k_fill : Ex → List Nat := keeps [0, 5] [(1, [5]), (0, [5])] [4]
def s_fill (bs : List Int) (l c : Nat) (q : Int) : Nat × (List Pt) × Int → St := fun (n, o, p) => ⟨(.pointer (some ⟨1, 0, none⟩) :: topV :: topV :: topV :: topV :: .slice (some ⟨3, 0, none⟩) o.length o.length :: topV :: topV :: topV :: topV :: topV :: topV :: topV :: topV :: topV :: topV :: topV :: topV :: topV :: topV :: topV :: topV :: topV :: topV :: topV :: topV :: topV :: topV :: topV :: topV :: topV :: topV :: topV :: topV :: []), [some ⟨.view, .bytes bs⟩, some ⟨.box, .vals [.slice (some ⟨0, 0, none⟩) l c, .int .i64 p]⟩, some ⟨.dead, .vals []⟩, some ⟨.row 32 2, .ints (flat o)⟩]⟩
def re_fill : Nat × (List Pt) × Int → Ex := fun _ => .exit 1
def rs_fill (bs : List Int) (l c : Nat) (q : Int) : Nat × (List Pt) × Int → St := fun (n, o, p) => ⟨(topV :: topV :: topV :: topV :: topV :: .slice (some ⟨3, 0, none⟩) (o ++ rpL bs l 2 n p).length (o ++ rpL bs l 2 n p).length :: topV :: topV :: topV :: topV :: topV :: topV :: topV :: topV :: topV :: topV :: topV :: topV :: topV :: topV :: topV :: topV :: topV :: topV :: topV :: topV :: topV :: topV :: topV :: topV :: topV :: topV :: topV :: topV :: []), [some ⟨.view, .bytes bs⟩, some ⟨.box, .vals [.slice (some ⟨0, 0, none⟩) l c, .int .i64 q]⟩, some ⟨.dead, .vals []⟩, some ⟨.row 32 2, .ints (flat (o ++ rpL bs l 2 n p))⟩]⟩
set_option maxRecDepth 100000 in
theorem tr_fill (bs : List Int) (l c : Nat) (q : Int) (n : Nat) (o : List Pt) (p : Int) : bodyL Try.prog ER2 30 12 noL 1 c_fill k_fill 16 (s_fill bs l c q (n, o, p)) = brT (decide ((↑o.length : Int) < 21)) (.need (rdK bs l p) (.need ((o.length + (1 : Nat)) * (16 : Nat) ≤ (140737488355328 : Nat) ∧ o.length + (1 : Nat) ≤ (1000000 : Nat)) (.need ((0 : Nat) + o.length * (2 : Nat) ≤ (flat o).length) (.leaf .normal ⟨(.pointer (some ⟨1, 0, none⟩) :: topV :: topV :: topV :: topV :: .slice (some ⟨5, 0, none⟩) (o.length + 1) (o.length + 1) :: topV :: topV :: topV :: topV :: topV :: topV :: topV :: topV :: topV :: topV :: topV :: topV :: topV :: topV :: topV :: topV :: topV :: topV :: topV :: topV :: topV :: topV :: topV :: topV :: topV :: topV :: topV :: topV :: []), [some ⟨.view, .bytes (bs)⟩, some ⟨.box, .vals [.slice (some ⟨0, 0, none⟩) (l) (c), .int .i64 (p + 2)]⟩, some deadB, some deadB, some ⟨.row 32 2, .vals [.int .i64 (pickI bs l p 9 - 2), .int .i64 (pickI bs l (p + 1) 9 - 2)]⟩, some ⟨.row 32 2, .ints (List.take (o.length * 2) (List.drop 0 (flat o)) ++ [pickI bs l p 9 - 2, pickI bs l (p + 1) 9 - 2])⟩]⟩)))) (.leaf (.exit 1) ⟨(topV :: topV :: topV :: topV :: topV :: .slice (some ⟨3, 0, none⟩) (o.length) (o.length) :: topV :: topV :: topV :: topV :: topV :: topV :: topV :: topV :: topV :: topV :: topV :: topV :: topV :: topV :: topV :: topV :: topV :: topV :: topV :: topV :: topV :: topV :: topV :: topV :: topV :: topV :: topV :: topV :: []), [some ⟨.view, .bytes (bs)⟩, some ⟨.box, .vals [.slice (some ⟨0, 0, none⟩) (l) (c), .int .i64 (p)]⟩, some deadB, some ⟨.row 32 2, .ints (flat o)⟩]⟩) := by kernel_rfl
set_option maxRecDepth 100000 in
theorem nl_fill : loopsOf c_fill = [] := by kernel_rfl
def inv_fill (bs : List Int) (l c : Nat) (q : Int) : Nat × (List Pt) × Int → Prop := fun (n, o, p) => o.length + n = 21 ∧ q = p + 2 * n ∧ 0 ≤ p ∧ q ≤ 900000
def me_fill (bs : List Int) (l c : Nat) (q : Int) : Nat × (List Pt) × Int → Nat := fun (n, o, p) => n
/-- A round of this loop. -/
def Round_fill (bs : List Int) (l c : Nat) (q : Int) : Prop := ∀ xx : Nat × (List Pt) × Int, inv_fill bs l c q xx → (bodyL Try.prog ER2 30 12 noL 1 c_fill k_fill 16 (s_fill bs l c q xx)).ok (RoundEnd 3 (s_fill bs l c q) (inv_fill bs l c q) (me_fill bs l c q) re_fill (rs_fill bs l c q) xx) (fun _ _ => False)
def e_fill (s : St) (k : Ex → St → Tree) : Option Tree := match Nat.beq s.tmps.length 34, pickL s.tmps [0, 5], s.mem with
  | true, [.pointer (some ⟨1, 0, none⟩), .slice (some ⟨2, 0, none⟩) z _], [some ⟨.view, .bytes bs⟩, some ⟨.box, .vals [.slice (some ⟨0, 0, none⟩) l c, .int .i64 p]⟩, some ⟨.row 32 2, .ints xs⟩] => some (needs [xs.length = z * 2, z ≤ 21, l ≤ bs.length ∧ l ≤ 2000 ∧ Bytes bs, 0 ≤ p ∧ p ≤ 800000] (k (.exit 1) ⟨(topV :: topV :: topV :: topV :: topV :: .slice (some ⟨3, 0, none⟩) (ptsA z xs ++ rpL bs l 2 (21 - z) p).length (ptsA z xs ++ rpL bs l 2 (21 - z) p).length :: topV :: topV :: topV :: topV :: topV :: topV :: topV :: topV :: topV :: topV :: topV :: topV :: topV :: topV :: topV :: topV :: topV :: topV :: topV :: topV :: topV :: topV :: topV :: topV :: topV :: topV :: topV :: topV :: []), [some ⟨.view, .bytes bs⟩, some ⟨.box, .vals [.slice (some ⟨0, 0, none⟩) l c, .int .i64 (p + 2 * (21 - z : Nat))]⟩, some ⟨.dead, .vals []⟩, some ⟨.row 32 2, .ints (flat (ptsA z xs ++ rpL bs l 2 (21 - z) p))⟩]⟩))
  | _, _, _ => none
set_option maxRecDepth 100000 in
theorem round_fill (bs : List Int) (l c : Nat) (q : Int) (h : l ≤ bs.length ∧ l ≤ 2000 ∧ Bytes bs) : Round_fill bs l c q := by
  rintro ⟨n, o, p⟩ ⟨h1, h2, h3, h4⟩
  rw [tr_fill]
  simp only [brT_ok, Tree.ok, decide_eq_true_eq, decide_eq_false_iff_not, flatA, flat_length, Nat.zero_add]
  have hr : rdK bs l p := ⟨⟨h.1, h.2.1, h3, by omega, h.2.2⟩, by omega⟩
  refine ⟨fun hlt => ?_, fun hge => ?_⟩
  · obtain ⟨n, rfl⟩ : ∃ m, n = m + 1 := ⟨n - 1, by omega⟩
    rw [flat_snoc, ← rpt2 (k := 2) (by decide) (by decide)]
    refine ⟨hr, by omega, by omega, (n, o ++ [rpt bs l 2 p], p + 2), [some 5], ⟨by simp; omega, by omega, by omega, by omega⟩, ?_, rfl, ?_, ?_⟩
    · show n < n + 1; omega
    · simp only [rs_fill, rpL_step]
    · repeat' (first | exact True.intro | exact rfl | exact fun _ => rfl | (simp; done) | refine And.intro ?_ ?_)
  · obtain rfl : n = 0 := by omega
    refine ⟨rfl, [some 3], ?_⟩
    obtain rfl : q = p := by omega
    simp only [rs_fill, rpL, List.append_nil]
    repeat' (first | exact True.intro | exact rfl | exact fun _ => rfl | refine And.intro ?_ ?_)
set_option maxRecDepth 100000 in
theorem lg_fill : LoopE Try.prog e_fill c_fill := by
  intro s k t F H hlt ht
  unfold e_fill at hlt
  split at hlt
  rotate_left
  · cases hlt
  rename_i hlen hpick hmem
  obtain ⟨tmps, mem⟩ := s
  simp only at hlen hpick hmem
  subst hmem
  obtain rfl := Option.some.inj hlt
  obtain ⟨⟨h0, h1, h2, h3, _⟩, ht2⟩ := needs_ok ht
  clear ht hlt
  obtain ⟨ps, rfl, rfl⟩ := even_flat h0
  rw [ptsA_flat] at ht2
  refine ⟨_, _, ht2, loop_run2 mixed ER2_ok (s_fill _ _ _ _) (inv_fill _ _ _ _) (me_fill _ _ _ _) re_fill (rs_fill _ _ _ _) k_fill (fun _ => rfl) (noLoops nl_fill) (round_fill _ _ _ _ h2) (x := (21 - ps.length, ps, _)) ⟨by omega, rfl, h3.1, by omega⟩ (π := [some 2]) rfl ?_⟩
  refine ⟨rfl, rfl, ?_, wvs_spread' [0, 5] hlen rfl ?_⟩
  · repeat' (first | exact True.intro | exact rfl | exact wv_top _ _ | exact fun _ => rfl | assumption | exact Eq.symm (by assumption) | exact vI0 rfl | refine And.intro ?_ ?_)
  · rw [hpick]
    repeat' (first | exact True.intro | exact rfl | exact wv_top _ _ | exact fun _ => rfl | assumption | exact Eq.symm (by assumption) | exact vI0 rfl | refine And.intro ?_ ?_)
theorem Lr_fill {fn : Func} (hf : Try.prog.funcs[60]? = some fn) : LoopsGood Try.prog (lt1 e_fill) 0 (codeOf fn) := by
  obtain rfl := fn_is Try.func60 hf
  exact lt1_good lg_fill
def LRd2 : FuncId → LT := fun f => match f with
  | 60 => lt1 e_fill
  | _ => noL
def ERL2 : Env := ⟨B0, fun _ _ => none, LRd2, JL1, fun _ => noR⟩
theorem ERL2_ok : EnvOk Try.prog ERL2 := ⟨B0_ok, fun _ _ _ _ _ h => (by cases h), (by
  intro f fn hf
  show LoopsGood Try.prog (LRd2 f) 0 (codeOf fn)
  unfold LRd2
  split
  all_goals first | with_reducible exact Lr_fill hf | exact noL_good), JL1_ok, fun _ _ _ => noR_good⟩
set_option maxRecDepth 100000 in
theorem tr_aptsF (bs : List Int) (l c : Nat) (p m : Int) : bodyM Try.prog ERL2 (runM Try.prog ERL2 30 12) 30 60 [.pointer (some ⟨1, 0, none⟩), .int .i64 m] (memR bs l c p none) .fin = .need (rdC bs l p) (.need (p ≤ (700000 : Int)) (.need ((0 : Int) ≤ m ∧ m ≤ (90 : Int)) (brT (decide (0 < (↑(rpsL bs l p m).length : Int))) (.need (rdC bs l (p + (2 : Int) + (2 : Int) * rpN bs l p m)) (brT (pickI bs l (p + 2 + 2 * rpN bs l p m) 20 == 0) (.need (rdC bs l (p + (2 : Int) + (2 : Int) * rpN bs l p m + (1 : Int))) (.need ((0 : Int) ≤ pickI bs l (p + (2 : Int) + (2 : Int) * rpN bs l p m + (1 : Int)) (↑(rpsL bs l p m).length : Int) ∧ pickI bs l (p + (2 : Int) + (2 : Int) * rpN bs l p m + (1 : Int)) (↑(rpsL bs l p m).length : Int) < (↑(rpsL bs l p m).length : Int)) (.need ((0 : Nat) + (pickI bs l (p + (2 : Int) + (2 : Int) * rpN bs l p m + (1 : Int)) (↑(rpsL bs l p m).length : Int)).toNat * (2 : Nat) + (2 : Nat) ≤ (flat (rpsL bs l p m)).length) (.fin (.slice (some ⟨2, 0, none⟩) ((rpsL bs l p m).length) ((rpsL bs l p m).length)) [some ⟨.view, .bytes (bs)⟩, some ⟨.box, .vals [.slice (some ⟨0, 0, none⟩) (l) (c), .int .i64 (p + 2 + 2 * rpN bs l p m + 1 + 1)]⟩, some ⟨.row 32 2, .ints (setInts (flat (rpsL bs l p m)) (0 + (pickI bs l (p + 2 + 2 * rpN bs l p m + 1) (↑(rpsL bs l p m).length : Int)).toNat * 2) [1001, 0])⟩])))) (brT (pickI bs l (p + 2 + 2 * rpN bs l p m) 20 == 1) (.need ((flat (rpsL bs l p m)).length = (rpsL bs l p m).length * (2 : Nat)) (.need ((rpsL bs l p m).length ≤ (21 : Nat)) (.need (l ≤ bs.length ∧ l ≤ (2000 : Nat) ∧ Bytes bs) (.need ((0 : Int) ≤ p + (2 : Int) + (2 : Int) * rpN bs l p m + (1 : Int) ∧ p + (2 : Int) + (2 : Int) * rpN bs l p m + (1 : Int) ≤ (800000 : Int)) (.fin (.slice (some ⟨3, 0, none⟩) ((ptsA (rpsL bs l p m).length (flat (rpsL bs l p m)) ++ rpL bs l 2 (21 - (rpsL bs l p m).length) (p + 2 + 2 * rpN bs l p m + 1)).length) ((ptsA (rpsL bs l p m).length (flat (rpsL bs l p m)) ++ rpL bs l 2 (21 - (rpsL bs l p m).length) (p + 2 + 2 * rpN bs l p m + 1)).length)) [some ⟨.view, .bytes (bs)⟩, some ⟨.box, .vals [.slice (some ⟨0, 0, none⟩) (l) (c), .int .i64 (p + 2 + 2 * rpN bs l p m + 1 + 2 * (↑(21 - (rpsL bs l p m).length) : Int))]⟩, some deadB, some ⟨.row 32 2, .ints (flat (ptsA (rpsL bs l p m).length (flat (rpsL bs l p m)) ++ rpL bs l 2 (21 - (rpsL bs l p m).length) (p + 2 + 2 * rpN bs l p m + 1)))⟩]))))) (.fin (.slice (some ⟨2, 0, none⟩) ((rpsL bs l p m).length) ((rpsL bs l p m).length)) [some ⟨.view, .bytes (bs)⟩, some ⟨.box, .vals [.slice (some ⟨0, 0, none⟩) (l) (c), .int .i64 (p + 2 + 2 * rpN bs l p m + 1)]⟩, some ⟨.row 32 2, .ints (flat (rpsL bs l p m))⟩])))) (.fin (.slice (some ⟨2, 0, none⟩) ((rpsL bs l p m).length) ((rpsL bs l p m).length)) [some ⟨.view, .bytes (bs)⟩, some ⟨.box, .vals [.slice (some ⟨0, 0, none⟩) (l) (c), .int .i64 (p + 2 + 2 * rpN bs l p m)]⟩, some ⟨.row 32 2, .ints (flat (rpsL bs l p m))⟩])))) := by kernel_rfl
def aq1 (bs : List Int) (l : Nat) (p m : Int) : Int := p + 2 + 2 * rpN bs l p m
def aqQ (bs : List Int) (l : Nat) (p m : Int) : Int := pickI bs l (aq1 bs l p m) 20
/-- A drawn list, perhaps not valid. -/
def apsL (bs : List Int) (l : Nat) (p m : Int) : List Pt :=
  if (rpsL bs l p m).length = 0 then rpsL bs l p m
  else if aqQ bs l p m = 0 then (rpsL bs l p m).set (pickI bs l (aq1 bs l p m + 1) (rpsL bs l p m).length).toNat (1001, 0)
  else if aqQ bs l p m = 1 then rpsL bs l p m ++ rpL bs l 2 (21 - (rpsL bs l p m).length) (aq1 bs l p m + 1)
  else rpsL bs l p m
/-- The place behind it. -/
def apsP (bs : List Int) (l : Nat) (p m : Int) : Int :=
  if (rpsL bs l p m).length = 0 then aq1 bs l p m
  else if aqQ bs l p m = 0 then aq1 bs l p m + 2
  else if aqQ bs l p m = 1 then aq1 bs l p m + 1 + 2 * (21 - (rpsL bs l p m).length : Nat)
  else aq1 bs l p m + 1
theorem rpsL_len {bs : List Int} {l : Nat} {p m : Int} (h : rdC bs l (p + 1)) (hm : 0 ≤ m ∧ m ≤ 20) : (rpsL bs l p m).length ≤ 20 ∧ (rpsL bs l p m).length = (rpN bs l p m).toNat ∧ 0 ≤ rpN bs l p m ∧ rpN bs l p m ≤ 20 := by
  have b1 := pickI_bd (k := m + 1) h (by omega)
  unfold rpsL
  rw [rpL_len]
  unfold rpN
  omega
def aptsS : RSpecR := fun bs l p rest => match rest with
  | [.int .i64 m] => some (rowL (apsL bs l p m), ⟨.row 32 2, .ints (flat (apsL bs l p m))⟩, apsP bs l p m, [rdC bs l p, p ≤ 600000, 0 ≤ m ∧ m ≤ 20])
  | _ => none
theorem aptsS_ok : SpecROk Try.prog 60 aptsS := by
  intro bs l c p rest v b p' C h hC
  unfold aptsS at h
  split at h
  rotate_left
  · cases h
  rename_i m
  obtain ⟨rfl, rfl, rfl, rfl⟩ : rowL (apsL bs l p m) = v ∧ (⟨.row 32 2, .ints (flat (apsL bs l p m))⟩ : Blk) = b ∧ apsP bs l p m = p' ∧ [rdC bs l p, p ≤ 600000, 0 ≤ m ∧ m ≤ 20] = C := by simpa using h
  obtain ⟨h1, h2, h3, _⟩ := hC
  refine ⟨rfl, ERL2, 30, 12, ERL2_ok, ?_⟩
  rw [tr_aptsF]
  have h0 := h1.2.2.1
  have r1 : rdC bs l (p + 1) := ⟨h1.1, h1.2.1, by omega, by omega, h1.2.2.2.2⟩
  obtain ⟨L1, L2, L3, L4⟩ := rpsL_len (m := m) r1 h3
  have ea : p + 2 + 2 * rpN bs l p m = aq1 bs l p m := rfl
  have ba : p + 2 ≤ aq1 bs l p m ∧ aq1 bs l p m ≤ p + 42 := by unfold aq1; omega
  rw [ea]
  have ra : ∀ q : Int, aq1 bs l p m ≤ q → q ≤ p + 100 → rdC bs l q := fun q g1 g2 => ⟨h1.1, h1.2.1, by omega, by omega, h1.2.2.2.2⟩
  refine ⟨h1, by omega, ⟨by omega, by omega⟩, brT_ok.2 ⟨fun hlen => ?_, fun hlen => ?_⟩⟩
  · have hlen := of_decide_eq_true hlen
    have hne : ¬ (rpsL bs l p m).length = 0 := by omega
    refine ⟨ra _ (by omega) (by omega), brT_ok.2 ⟨fun hq => ?_, fun hq => brT_ok.2 ⟨fun hq' => ?_, fun hq' => ?_⟩⟩⟩
    · have hq : aqQ bs l p m = 0 := by simpa [aqQ] using hq
      have e1 : apsL bs l p m = (rpsL bs l p m).set (pickI bs l (aq1 bs l p m + 1) (rpsL bs l p m).length).toNat (1001, 0) := by unfold apsL; rw [if_neg hne, if_pos hq]
      have e2 : apsP bs l p m = aq1 bs l p m + 2 := by unfold apsP; rw [if_neg hne, if_pos hq]
      have rb := ra (aq1 bs l p m + 1) (by omega) (by omega)
      have pb := pickI_bd (k := ((rpsL bs l p m).length : Int)) rb (by omega)
      rw [e1, e2]
      have hs := flat_set (rpsL bs l p m) (pickI bs l (aq1 bs l p m + 1) (rpsL bs l p m).length).toNat (by omega) 1001 0
      refine ⟨rb, pb, by rw [flat_length]; omega, box2 (by omega) _, some 2, ⟨rfl, rfl, by rw [List.length_set]⟩, rfl, rfl, ?_⟩
      rw [Nat.zero_add]
      exact hs
    · have hq : ¬ aqQ bs l p m = 0 := by simpa [aqQ] using hq
      have hq' : aqQ bs l p m = 1 := by simpa [aqQ] using hq'
      have e1 : apsL bs l p m = rpsL bs l p m ++ rpL bs l 2 (21 - (rpsL bs l p m).length) (aq1 bs l p m + 1) := by unfold apsL; rw [if_neg hne, if_neg hq, if_pos hq']
      have e2 : apsP bs l p m = aq1 bs l p m + 1 + 2 * (21 - (rpsL bs l p m).length : Nat) := by unfold apsP; rw [if_neg hne, if_neg hq, if_pos hq']
      rw [e1, e2, ptsA_flat]
      exact ⟨by rw [flat_length], by omega, ⟨h1.1, h1.2.1, h1.2.2.2.2⟩, ⟨by omega, by omega⟩, rfl, some 3, ⟨rfl, rfl, rfl⟩, rfl, rfl, rfl⟩
    · have hq : ¬ aqQ bs l p m = 0 := by simpa [aqQ] using hq
      have hq' : ¬ aqQ bs l p m = 1 := by simpa [aqQ] using hq'
      have e1 : apsL bs l p m = rpsL bs l p m := by unfold apsL; rw [if_neg hne, if_neg hq, if_neg hq']
      have e2 : apsP bs l p m = aq1 bs l p m + 1 := by unfold apsP; rw [if_neg hne, if_neg hq, if_neg hq']
      rw [e1, e2]
      exact ⟨rfl, some 2, ⟨rfl, rfl, rfl⟩, rfl, rfl, rfl⟩
  · have hlen := of_decide_eq_false hlen
    have hz : (rpsL bs l p m).length = 0 := by omega
    have e1 : apsL bs l p m = rpsL bs l p m := by unfold apsL; rw [if_pos hz]
    have e2 : apsP bs l p m = aq1 bs l p m := by unfold apsP; rw [if_pos hz]
    rw [e1, e2]
    exact ⟨rfl, some 2, ⟨rfl, rfl, rfl⟩, rfl, rfl, rfl⟩
/-- The reader's operations, drawn lists of points among them, number 60, beside the draw of one point, number 61. -/
def JL2 : TabJ := consR 60 (rdGR aptsS) (tabJ J3)
theorem JL2_ok : GSound Try.prog JL2.g := consR_ok mixed (tabJ_sound mixed J3_ok) (entersB_res (by kernel_rfl)).1 aptsS_ok
theorem apsL_len {bs : List Int} {l : Nat} {p m : Int} (h : rdC bs l (p + 1)) (hm : 0 ≤ m ∧ m ≤ 20) : (apsL bs l p m).length ≤ 21 := by
  obtain ⟨L1, _⟩ := rpsL_len (m := m) h hm
  unfold apsL
  split
  · omega
  split
  · rw [List.length_set]; omega
  split
  · rw [List.length_append, rpL_len]; omega
  · omega
theorem apsP_bd {bs : List Int} {l : Nat} {p m : Int} (h : rdC bs l (p + 1)) (hm : 0 ≤ m ∧ m ≤ 20) : p + 2 ≤ apsP bs l p m ∧ apsP bs l p m ≤ p + 100 := by
  obtain ⟨L1, L2, L3, L4⟩ := rpsL_len (m := m) h hm
  unfold apsP aq1
  split
  · omega
  split
  · omega
  split <;> omega
end Go.Proofs.Ytbfoheblcoakiaa
namespace Go.Proofs.Ytbfoheblcoakiaa
set_option linter.all false
open Go.RowKit
def EDr : Env := ⟨B0, fun _ _ => none, fun _ => noL, JL2, fun _ => noR⟩
theorem EDr_ok : EnvOk Try.prog EDr := ⟨B0_ok, fun _ _ _ _ _ h => (by cases h), fun _ _ _ => noL_good, JL2_ok, fun _ _ _ => noR_good⟩
end Go.Proofs.Ytbfoheblcoakiaa
namespace Go.Proofs.Ytbfoheblcoakiaa
set_option linter.all false
open Go.RowKit
/-- A value whose slices lie at two names. -/
def at2v (name nb : Nat) : Value → Value
  | .slice (some ⟨1, o, none⟩) l c => .slice (some ⟨nb, o, none⟩) l c
  | v => atName1 name v
def rv2 (s0 s1 : Option Nat) (u : Value) : Value → Prop
  | .slice (some ⟨1, o, none⟩) l c => rv1 s1 u (.slice (some ⟨0, o, none⟩) l c)
  | v => rv1 s0 u v
def rv2l (s0 s1 : Option Nat) : List Value → List Value → Prop
  | [], [] => True
  | u :: r, v :: r' => rv2 s0 s1 u v ∧ rv2l s0 s1 r r'
  | _, _ => False
def srcIs (s : Option Nat) (b : Blk) (mem : List (Option Blk)) : Prop := match s with
  | some n => (match mem.getD n none with
    | some b' => rb b' b
    | none => False)
  | none => True
/-- What a body hands back: a tuple with two rows. -/
def RowIs2 (vs : List Value) (b0 b1 : Blk) (u : Value) (mem : List (Option Blk)) : Prop :=
  ∃ s0 s1 us, u = .tuple ⟨us⟩ ∧ rv2l s0 s1 us vs ∧ srcIs s0 b0 mem ∧ srcIs s1 b1 mem ∧ (s0 = s1 → s0 = none)
abbrev placeOf (s : Option Nat) (ρ ρ' : Nat → Option Pl) (name : Nat) : Prop := match s with
  | some n => ρ' name = ρ n
  | none => ρ' name = some (0, 1, some 0)
theorem rv2_ok {s0 s1 : Option Nat} {ρ ρ' : Nat → Option Pl} {name nb : Nat} (h0 : placeOf s0 ρ ρ' name) (h1 : placeOf s1 ρ ρ' nb) {u v x : Value} (h : rv2 s0 s1 u v) (k : VR ρ u x) : VR ρ' (at2v name nb v) x := by
  unfold rv2 at h
  split at h
  · exact rv1_ok (name := nb) h1 h k
  · rename_i hne
    have e : at2v name nb v = atName1 name v := by
      unfold at2v
      split
      · exact absurd rfl (hne _ _ _)
      · rfl
    rw [e]
    exact rv1_ok h0 h k
theorem rv2l_ok {s0 s1 : Option Nat} {ρ ρ' : Nat → Option Pl} {name nb : Nat} (h0 : placeOf s0 ρ ρ' name) (h1 : placeOf s1 ρ ρ' nb) : ∀ {l l' : List Value}, rv2l s0 s1 l l' → l.length = l'.length ∧ ∀ (i : Nat) v x, (l'.map (at2v name nb))[i]? = some v → (∀ u, l[i]? = some u → VR ρ u x) → VR ρ' v x
  | [], [], _ => ⟨rfl, fun i v x h => by simp at h⟩
  | [], _ :: _, h => h.elim
  | _ :: _, [], h => h.elim
  | u :: r, v :: r', h => by
    obtain ⟨k1, k2⟩ := h
    obtain ⟨h3, h4⟩ := rv2l_ok h0 h1 k2
    refine ⟨by simp [h3], fun i y x hy hx => ?_⟩
    cases i with
    | zero =>
      obtain rfl : at2v name nb v = y := by simpa using hy
      exact rv2_ok h0 h1 k1 (hx u rfl)
    | succ i => exact h4 i y x (by simpa using hy) fun v hv => hx v (by simpa using hv)
/-- What a function that makes two rows answers. -/
def ResR2 (P : Program) (f : FuncId) (ds : List DArg) (vs : List Value) (b0 b1 : Blk) : Prop :=
  enters P f ∧ (isRow b0 = true ∧ isRow b1 = true) ∧ ∀ w args, DOks w ds args → Calls P f args w fun e w' => ∃ v' p0 p1, e = .returned v' ∧ Below w.heap.size w w' ∧ (¬ nilPl p0 → ¬ nilPl p1 → p0.1 ≠ p1.1) ∧
    (∀ ρ name nb, ρ name = some p0 → ρ nb = some p1 → VR ρ (.tuple ⟨vs.map (at2v name nb)⟩) v') ∧ (∀ ρ name, ρ name = some p0 → BlkOk ρ (fun k => k < w.heap.size) w' name b0) ∧ ∀ ρ name, ρ name = some p1 → BlkOk ρ (fun k => k < w.heap.size) w' name b1
theorem src_row {s : Option Nat} {b : Blk} {mem : List (Option Blk)} (hb : isRow b = true) (h : srcIs s b mem) {ρ0 ρ : Nat → Option Pl} {B : Nat → Prop} {w : World} (hm : MemOk ρ0 ρ B (fun k => mem.getD k none) w) :
    ∃ p, (∀ ρ2 name, ρ2 name = some p → placeOf s ρ ρ2 name ∧ BlkOk ρ2 B w name b) ∧ ∀ n, s = some n → ρ n = some p ∧ ∃ b', mem.getD n none = some b' ∧ b'.own = true := by
  obtain ⟨kd, cs⟩ := b
  cases kd with
  | row e sz =>
    cases s with
    | none => exact ⟨(0, 1, some 0), fun ρ2 name hp => ⟨hp, .inl ⟨_, hp, rfl, rfl⟩⟩, fun n hn => by cases hn⟩
    | some k =>
      unfold srcIs at h
      simp only at h
      split at h
      rotate_left
      · exact h.elim
      rename_i b' hb'
      obtain ⟨kd', cs'⟩ := b'
      cases kd' with
      | row e2 sz2 =>
        obtain ⟨rfl, rfl, hc⟩ := h
        obtain ⟨c1, c2⟩ := rc_list hc
        rcases hm.ok k _ hb' with ⟨p, h1, h2, h3⟩ | ⟨g, cap, h1, h2, arr, h3, h4, h5⟩
        · exact ⟨p, fun ρ2 name hp => ⟨hp.trans h1.symm, .inl ⟨p, hp, h2, h3⟩⟩, fun n hn => by
            obtain rfl : k = n := by simpa using hn
            exact ⟨h1, _, hb', rfl⟩⟩
        · refine ⟨_, fun ρ2 name hp => ⟨hp.trans h1.symm, .inr ⟨g, cap, hp, h2, arr, h3, h4, ?_⟩⟩, fun n hn => by
            obtain rfl : k = n := by simpa using hn
            exact ⟨h1, _, hb', rfl⟩⟩
          intro i x hx
          obtain ⟨x', k1, k2⟩ := h5 i x (by show cs'.list[i]? = some x; rw [c1]; exact hx)
          refine ⟨x', k1, ?_⟩
          have hat := plain_of_atom (c2 x (List.mem_of_getElem? hx))
          rw [k2.plain hat]
          exact .lit hat
      | _ => exact h.elim
  | _ => cases hb
theorem bodyX_resR2 {P : Program} (hm : P.follows .mixedOrders = true) {E : Env} (hE : EnvOk P E) {m n : Nat} {f : FuncId} {ds : List DArg} {vs : List Value} {b0 b1 : Blk} (hb0 : isRow b0 = true) (hb1 : isRow b1 = true)
    (h : (bodyX P E m n f ds).ok (fun _ _ => False) (fun u mem => RowIs2 vs b0 b1 u mem)) : ResR2 P f ds vs b0 b1 := by
  unfold bodyX at h
  split at h
  rotate_left
  · exact h.elim
  rename_i hg
  obtain ⟨u, mem', ⟨s0, s1, us, rfl, hrv, hs0, hs1, hne⟩, hent, hdet⟩ := bodyM_ok hE hm (runM_ok hm hE m n) m f _ _ _ _ _ h
  refine ⟨hent, ⟨hb0, hb1⟩, fun w args hargs => ?_⟩
  obtain ⟨ρ, ha, hmem⟩ := args_open hargs (fun k => k < w.heap.size)
  refine (hdet ⟨w, fun _ => none, fun k => k < w.heap.size, fun _ h => h, [], none⟩ ρ args w ha hmem (BelowK.refl _ _)).mono ?_
  rintro e' w' ⟨v', ρ', rfl, _, g2, g3, g4⟩
  obtain ⟨p0, k1, k2⟩ := src_row hb0 hs0 g4
  obtain ⟨p1, j1, j2⟩ := src_row hb1 hs1 g4
  refine ⟨v', p0, p1, rfl, g3.to, fun n0 n1 => ?_, fun ρ2 name nb h0 h1 => ?_, fun ρ2 name h0 => (k1 ρ2 name h0).2, fun ρ2 name h1 => (j1 ρ2 name h1).2⟩
  · rcases s0 with _ | a
    · have := (k1 (fun _ => some p0) 0 rfl).1
      have e : p0 = (0, 1, some 0) := by simpa [placeOf] using this
      exact absurd ⟨by rw [e], 0, by rw [e]⟩ n0
    · rcases s1 with _ | c
      · have := (j1 (fun _ => some p1) 0 rfl).1
        have e : p1 = (0, 1, some 0) := by simpa [placeOf] using this
        exact absurd ⟨by rw [e], 0, by rw [e]⟩ n1
      · obtain ⟨q1, b', q2, q3⟩ := k2 a rfl
        obtain ⟨r1, c', r2, r3⟩ := j2 c rfl
        exact g4.sep a c b' c' p0 p1 q2 q3 r2 (own_live r3) (fun e => by subst e; have := hne rfl; cases this) q1 r1 n0 n1
  · obtain ⟨a1, a2⟩ := k1 ρ2 name h0
    obtain ⟨c1, c2⟩ := j1 ρ2 nb h1
    obtain ⟨cs, rfl, z1, z2⟩ := g2.tuple_inv
    obtain ⟨h3, h4⟩ := rv2l_ok a1 c1 hrv
    exact .tuple (by simp at z1 ⊢; omega) fun i v y hv hy => h4 i v y (by simpa using hv) fun u hu => z2 i u y (by simpa using hu) hy
/-- What is told of a function that makes two rows. -/
abbrev TabR2 := List DArg → Option (List Value × Blk × Blk × List Prop)
def r2G (T : TabR2) (name : Nat) (args : List Value) : Rd Eff := (rdArgs args).bind fun ds => match T ds, name with
  | some (vs, b0, b1, C), nb + 1 => .blk nb fun b => match b with
    | none => .ret ⟨.tuple ⟨vs.map (at2v (nb + 1) nb)⟩, [(nb, b1), (nb + 1, b0)], C⟩
    | some _ => .fail
  | _, _ => .fail
def TabR2Ok (P : Program) (f : FuncId) (T : TabR2) : Prop := ∀ ds vs b0 b1 C, T ds = some (vs, b0, b1, C) → AllP C → ResR2 P f ds vs b0 b1
theorem blk_sub {ρ : Nat → Option Pl} {B B' : Nat → Prop} (hB : ∀ k, B k → B' k) {w : World} {n : Nat} {b : Blk} (hb : isRow b = true) (h : BlkOk ρ B' w n b) : BlkOk ρ B w n b := by
  obtain ⟨kd, cs⟩ := b
  cases kd with
  | row e sz =>
    rcases h with h | ⟨g, cap, h1, h2, rest⟩
    · exact .inl h
    · exact .inr ⟨g, cap, h1, fun h => h2 (hB _ h), rest⟩
  | _ => cases hb
theorem row_own {b : Blk} (h : isRow b = true) : b.own = true := by
  obtain ⟨kd, cs⟩ := b
  cases kd <;> first | rfl | cases h
theorem consR2_ok {P : Program} {J : TabJ} (hJ : GSound P J.g) {f : FuncId} {T : TabR2} (hent : enters P f) (hT : TabR2Ok P f T) : GSound P (consR f (r2G T) J).g := by
  intro h name args s eff hr hn
  simp only [consR] at hr
  split at hr
  rotate_left
  · exact hJ h name args s eff hr hn
  rename_i heq
  obtain rfl := Nat.eq_of_beq_eq_true heq
  refine ⟨hent, fun B ρ0 ρ w args' ha hm hB hcond => ?_⟩
  unfold r2G at hr
  obtain ⟨ds, hds, hr⟩ := bind_some hr
  split at hr
  rotate_left
  · simp [Rd.run] at hr
  rename_i vs b0 b1 C nb hx _
  simp only [Rd.run] at hr
  split at hr
  rotate_left
  · simp [Rd.run] at hr
  rename_i hn1
  obtain rfl : (⟨.tuple ⟨vs.map (at2v (nb + 1) nb)⟩, [(nb, b1), (nb + 1, b0)], C⟩ : Eff) = eff := by simpa [Rd.run] using hr
  obtain ⟨_, ⟨r0, r1⟩, h4⟩ := hT ds vs b0 b1 C hx hcond
  refine (h4 w args' ((rdArgs_ok hds).2 ha hm)).mono ?_
  rintro e w' ⟨v', p0, p1, rfl, hb, hsep, hv, hk0, hk1⟩
  have hf1 : addPl ρ (nb + 1) p0 nb = none := by
    rw [addPl_ne (by omega)]
    exact hm.fresh _ hn1
  have g1 := hv (addPl (addPl ρ (nb + 1) p0) nb p1) (nb + 1) nb (by rw [addPl_ne (by omega), addPl_same]) (addPl_same _ _ _)
  have g3 := hk1 (addPl (addPl ρ (nb + 1) p0) nb p1) nb (addPl_same _ _ _)
  have e1 : Ext (addPl ρ (nb + 1) p0) (addPl (addPl ρ (nb + 1) p0) nb p1) := addPl_ext hf1
  have hb0 := hk0 (addPl ρ (nb + 1) p0) (nb + 1) (addPl_same _ _ _)
  have hm1 := hm.newRow hB hb hn (row_own r0) hb0
  refine ⟨v', addPl (addPl ρ (nb + 1) p0) nb p1, rfl, (addPl_ext (hm.fresh (nb + 1) hn)).trans e1, g1, BelowK.of hb hB, ?_⟩
  rw [upd_two]
  refine hm1.addRow2 (by simp [setB, hn1]) (fun hnp k c q hk hl hq hnq => ?_) (blk_sub hB r1 g3)
  by_cases hkn : k = nb + 1
  · subst hkn
    rw [addPl_same] at hq
    obtain rfl : p0 = q := by simpa using hq
    exact hsep hnq hnp
  · rw [addPl_ne hkn] at hq
    have hk' : s.blk k = some c := by simpa [setB, hkn] using hk
    have h2 := ((hm.ok k c hk').real hl hq hnq).1
    have h3 : ¬ p1.1 < w.heap.size := (g3.real (own_live (row_own r1)) (addPl_same _ _ _) hnp).2 (row_own r1)
    omega
/-- A body run with a name laid aside, for the second row of a callee. -/
def bodyP (P : Program) (E : Env) (m n : Nat) (f : FuncId) (ds : List DArg) : Tree :=
  match ds.all DArg.goodB with
  | true => bodyM P E (runM P E m n) m f (argVals 0 ds) (ds.map argBlk ++ [none]) fun v _ => .fin v []
  | false => .bad
theorem pad_get (l : List (Option Blk)) (n : Nat) : (l ++ [none]).getD n none = l.getD n none := by
  simp only [List.getD_eq_getElem?_getD]
  rcases Nat.lt_or_ge n l.length with h | h
  · rw [List.getElem?_append_left h]
  · rw [List.getElem?_append_right h, List.getElem?_eq_none (by omega : l.length ≤ n)]
    rcases hk : n - l.length with _ | k <;> simp
theorem bodyP_res {P : Program} (hm : P.follows .mixedOrders = true) {E : Env} (hE : EnvOk P E) {m n : Nat} {f : FuncId} {ds : List DArg} {v : Value} (hv : plainV v = true)
    (h : (bodyP P E m n f ds).ok (fun _ _ => False) (fun u _ => u = v)) : Res P f ds v := by
  unfold bodyP at h
  split at h
  rotate_left
  · exact h.elim
  rename_i hg
  obtain ⟨u, mem', hk, hent, hdet⟩ := bodyM_ok hE hm (runM_ok hm hE m n) m f _ _ _ _ _ h
  obtain rfl : u = v := hk
  have hin : P.inits.idxOf? f = none := by
    unfold bodyM at h
    split at h
    rotate_left
    · exact h.elim
    rename_i fn hf hen
    exact (entersB_spec hf hen).2.1
  refine ⟨hent, hin, hv, fun d hd => goodB_good (List.all_eq_true.1 hg d hd), fun w args hargs => ?_⟩
  obtain ⟨ρ, ha, hmem⟩ := args_open hargs (fun k => k < w.heap.size)
  have hmem : MemOk (fun _ => none) ρ (fun k => k < w.heap.size) (fun n => (ds.map argBlk ++ [none]).getD n none) w := by
    have e : (fun n => (ds.map argBlk ++ [none]).getD n none) = fun n => (ds.map argBlk).getD n none := funext fun n => pad_get _ n
    rw [e]
    exact hmem
  refine (hdet ⟨w, fun _ => none, fun k => k < w.heap.size, fun _ h => h, [], none⟩ ρ args w ha hmem (BelowK.refl _ _)).mono ?_
  rintro e w' ⟨v', ρ', rfl, _, g2, g3, _⟩
  rw [g2.plain hv]
  exact ⟨rfl, g3.to⟩
end Go.Proofs.Ytbfoheblcoakiaa
namespace Go.Proofs.Ytbfoheblcoakiaa
set_option linter.all false
open Go.RowKit
/-- The first points moved to the right. -/
def shN (qs : List Pt) : Nat → List Pt
  | 0 => qs
  | i + 1 => (shN qs i).set i (IntKind.i64.wrap (((shN qs i).getD i (0, 0)).1 + 6), ((shN qs i).getD i (0, 0)).2)
theorem shN_len (qs : List Pt) : ∀ i, (shN qs i).length = qs.length
  | 0 => rfl
  | i + 1 => by
    show ((shN qs i).set i _).length = _
    rw [List.length_set, shN_len qs i]
theorem set_one (ps : List Pt) (k : Nat) (h : k < ps.length) (a : Int) : setInts (flat ps) (k * 2) [a] = flat (ps.set k (a, (ps.getD k (0, 0)).2)) := by
  rw [← flat_set ps k h]
  have hl := flat_length ps
  have hg := flat_get1 ps k
  unfold setInts
  simp only [List.length_cons, List.length_nil, Nat.zero_add]
  have hk : k * 2 + 1 < (flat ps).length := by omega
  have e : (flat ps).drop (k * 2 + 1) = (flat ps).getD (k * 2 + 1) 0 :: (flat ps).drop (k * 2 + 2) := drop_cons hk 0
  rw [e, hg]
  simp
noncomputable def c_twh : Code := ((loopsOf (codeOf Try.f34))[0]?).getD .skip
def k_twh : Ex → List Nat := keeps [5, 6, 7] [(0, [5, 6])] [2, 3]
def s_twh (ps qs : List Pt) : Nat → St := fun i => ⟨(topV :: topV :: topV :: topV :: topV :: .slice (some ⟨2, 0, none⟩) ps.length ps.length :: .slice (some ⟨3, 0, none⟩) qs.length qs.length :: .int .i64 i :: topV :: topV :: topV :: topV :: topV :: topV :: topV :: topV :: topV :: topV :: topV :: topV :: topV :: topV :: topV :: topV :: topV :: topV :: topV :: topV :: topV :: topV :: topV :: topV :: topV :: topV :: topV :: []), [some ⟨.dead, .vals []⟩, some ⟨.dead, .vals []⟩, some ⟨.row 32 2, .ints (flat ps)⟩, some ⟨.row 32 2, .ints (flat (shN qs i))⟩]⟩
def re_twh : Nat → Ex := fun _ => .exit 0
def rs_twh (ps qs : List Pt) : Nat → St := fun i => ⟨(topV :: topV :: topV :: topV :: topV :: .slice (some ⟨2, 0, none⟩) ps.length ps.length :: .slice (some ⟨3, 0, none⟩) qs.length qs.length :: topV :: topV :: topV :: topV :: topV :: topV :: topV :: topV :: topV :: topV :: topV :: topV :: topV :: topV :: topV :: topV :: topV :: topV :: topV :: topV :: topV :: topV :: topV :: topV :: topV :: topV :: topV :: topV :: []), [some ⟨.dead, .vals []⟩, some ⟨.dead, .vals []⟩, some ⟨.row 32 2, .ints (flat ps)⟩, some ⟨.row 32 2, .ints (flat (shN qs qs.length))⟩]⟩
set_option maxRecDepth 100000 in
theorem tr_twh (ps qs : List Pt) (i : Nat) : bodyL Try.prog EDr 30 12 noL 1 c_twh k_twh 16 (s_twh ps qs i) = brT (decide ((↑i : Int) < (↑qs.length : Int))) (.need ((0 : Int) ≤ (↑i : Int) ∧ (↑i : Int) < (↑qs.length : Int)) (.need ((0 : Nat) + (↑i : Int).toNat * (2 : Nat) + (0 : Nat) < (flat (shN qs i)).length) (.need ((0 : Int) ≤ (↑i : Int) ∧ (↑i : Int) < (↑qs.length : Int)) (.need ((0 : Nat) + (↑i : Int).toNat * (2 : Nat) + (0 : Nat) + (1 : Nat) ≤ (flat (shN qs i)).length) (.leaf .normal ⟨(topV :: topV :: topV :: topV :: topV :: .slice (some ⟨2, 0, none⟩) (ps.length) (ps.length) :: .slice (some ⟨3, 0, none⟩) (qs.length) (qs.length) :: .int .i64 (IntKind.i64.wrap ((↑i : Int) + 1)) :: topV :: topV :: topV :: topV :: topV :: topV :: topV :: topV :: topV :: topV :: topV :: topV :: topV :: topV :: topV :: topV :: topV :: topV :: topV :: topV :: topV :: topV :: topV :: topV :: topV :: topV :: topV :: []), [some deadB, some deadB, some ⟨.row 32 2, .ints (flat ps)⟩, some ⟨.row 32 2, .ints (setInts (flat (shN qs i)) (0 + (↑i : Int).toNat * 2 + 0) [IntKind.i64.wrap ((flat (shN qs i)).getD (0 + (↑i : Int).toNat * 2 + 0) 0 + 6)])⟩]⟩))))) (.leaf (.exit 0) ⟨(topV :: topV :: topV :: topV :: topV :: .slice (some ⟨2, 0, none⟩) (ps.length) (ps.length) :: .slice (some ⟨3, 0, none⟩) (qs.length) (qs.length) :: topV :: topV :: topV :: topV :: topV :: topV :: topV :: topV :: topV :: topV :: topV :: topV :: topV :: topV :: topV :: topV :: topV :: topV :: topV :: topV :: topV :: topV :: topV :: topV :: topV :: topV :: topV :: topV :: []), [some deadB, some deadB, some ⟨.row 32 2, .ints (flat ps)⟩, some ⟨.row 32 2, .ints (flat (shN qs i))⟩]⟩) := by kernel_rfl
set_option maxRecDepth 100000 in
theorem nl_twh : loopsOf c_twh = [] := by kernel_rfl
def inv_twh (ps qs : List Pt) : Nat → Prop := fun i => i ≤ qs.length
def me_twh (ps qs : List Pt) : Nat → Nat := fun i => qs.length - i
/-- A round of this loop. -/
def Round_twh (ps qs : List Pt) : Prop := ∀ xx : Nat, inv_twh ps qs xx → (bodyL Try.prog EDr 30 12 noL 1 c_twh k_twh 16 (s_twh ps qs xx)).ok (RoundEnd 4 (s_twh ps qs) (inv_twh ps qs) (me_twh ps qs) re_twh (rs_twh ps qs) xx) (fun _ _ => False)
def e_twh (s : St) (k : Ex → St → Tree) : Option Tree := match Nat.beq s.tmps.length 35, pickL s.tmps [5, 6, 7], s.mem with
  | true, [.slice (some ⟨2, 0, none⟩) m _, .slice (some ⟨3, 0, none⟩) n _, .int .i64 i0], [_, _, some ⟨.row 32 2, .ints xs⟩, some ⟨.row 32 2, .ints ys⟩] => some (needs [i0 = 0, xs.length = m * 2, ys.length = n * 2, n ≤ 1000] (k (.exit 0) ⟨(topV :: topV :: topV :: topV :: topV :: .slice (some ⟨2, 0, none⟩) m m :: .slice (some ⟨3, 0, none⟩) n n :: topV :: topV :: topV :: topV :: topV :: topV :: topV :: topV :: topV :: topV :: topV :: topV :: topV :: topV :: topV :: topV :: topV :: topV :: topV :: topV :: topV :: topV :: topV :: topV :: topV :: topV :: topV :: topV :: []), [some ⟨.dead, .vals []⟩, some ⟨.dead, .vals []⟩, some ⟨.row 32 2, .ints xs⟩, some ⟨.row 32 2, .ints (flat (shN (ptsA n ys) n))⟩]⟩))
  | _, _, _ => none
set_option maxRecDepth 100000 in
theorem round_twh (ps qs : List Pt) (h : qs.length ≤ 1000) : Round_twh ps qs := by
  intro i h1
  have h1 : i ≤ qs.length := h1
  rw [tr_twh]
  have hl := shN_len qs i
  simp only [Int.toNat_natCast, Nat.zero_add, Nat.add_zero, flat_get0, flat_get1, flat_length, hl]
  refine brT_ok.2 ⟨fun c => ?_, fun c => ?_⟩
  · have c := of_decide_eq_true c
    have hi : i < qs.length := by omega
    rw [wsucc hi (by omega)]
    rw [set_one (shN qs i) i (by omega)]
    have e : (shN qs i).set i (IntKind.i64.wrap (((shN qs i).getD i (0, 0)).1 + 6), ((shN qs i).getD i (0, 0)).2) = shN qs (i + 1) := rfl
    rw [e]
    refine ⟨by omega, by omega, by omega, by omega, i + 1, [], ?_, ?_, rfl, rfl, ?_⟩
    · show i + 1 ≤ qs.length; omega
    · show qs.length - (i + 1) < qs.length - i; omega
    · repeat' (first | exact True.intro | exact rfl | exact wv_top _ _ | exact fun _ => rfl | (simp; done) | refine And.intro ?_ ?_)
  · have c := of_decide_eq_false c
    have e : i = qs.length := by omega
    subst e
    refine ⟨rfl, [], ?_⟩
    simp only [rs_twh]
    repeat' (first | exact True.intro | exact rfl | exact wv_top _ _ | exact fun _ => rfl | (simp; done) | refine And.intro ?_ ?_)
set_option maxRecDepth 100000 in
theorem lg_twh : LoopE Try.prog e_twh c_twh := by
  intro s k t F H hlt ht
  unfold e_twh at hlt
  split at hlt
  rotate_left
  · cases hlt
  rename_i hlen hpick hmem
  obtain ⟨tmps, mem⟩ := s
  simp only at hlen hpick hmem
  subst hmem
  obtain rfl := Option.some.inj hlt
  obtain ⟨⟨rfl, h0, h1, h3, _⟩, ht2⟩ := needs_ok ht
  clear ht hlt
  obtain ⟨ps, rfl, rfl⟩ := even_flat h0
  obtain ⟨qs, rfl, rfl⟩ := even_flat h1
  rw [ptsA_flat] at ht2
  refine ⟨_, _, ht2, loop_run2 mixed EDr_ok (s_twh ps qs) (inv_twh ps qs) (me_twh ps qs) re_twh (rs_twh ps qs) k_twh (fun _ => rfl) (noLoops nl_twh) (round_twh ps qs h3) (x := 0) (Nat.zero_le _) (π := []) rfl ?_⟩
  refine ⟨rfl, rfl, ?_, wvs_spread' [5, 6, 7] hlen rfl ?_⟩
  · repeat' (first | exact True.intro | exact rfl | exact wv_top _ _ | exact fun _ => rfl | assumption | exact Eq.symm (by assumption) | exact vI0 rfl | refine And.intro ?_ ?_)
  · rw [hpick]
    repeat' (first | exact True.intro | exact rfl | exact wv_top _ _ | exact fun _ => rfl | assumption | exact Eq.symm (by assumption) | exact vI0 rfl | refine And.intro ?_ ?_)
theorem Lr_twh {fn : Func} (hf : Try.prog.funcs[34]? = some fn) : LoopsGood Try.prog (lt1 e_twh) 0 (codeOf fn) := by
  obtain rfl := fn_is Try.func34 hf
  exact lt1_good lg_twh
def LTw : FuncId → LT := fun f => match f with
  | 34 => lt1 e_twh
  | _ => noL
def ETw : Env := ⟨B0, fun _ _ => none, LTw, JL2, fun _ => noR⟩
theorem ETw_ok : EnvOk Try.prog ETw := ⟨B0_ok, fun _ _ _ _ _ h => (by cases h), (by
  intro f fn hf
  show LoopsGood Try.prog (LTw f) 0 (codeOf fn)
  unfold LTw
  split
  all_goals first | with_reducible exact Lr_twh hf | exact noL_good), JL2_ok, fun _ _ _ => noR_good⟩
set_option maxRecDepth 100000 in
theorem tr_dHm (bs : List Int) (n : Nat) : bodyX Try.prog ETw 30 12 27 [.row n (.bytes bs)] = brT (decide (2000 < (↑n : Int))) (.need ((0 : Int) ≤ bndI none (0 : Int) ∧ bndI none (0 : Int) ≤ bndI (some (IntKind.i64, (2000 : Int))) (↑n : Int) ∧ bndI (some (IntKind.i64, (2000 : Int))) (↑n : Int) ≤ (↑n : Int)) (.need (rdC bs (2000 : Nat) (0 : Int)) (.need ((0 : Int) ≤ (600000 : Int)) (.need ((0 : Int) ≤ (5 : Int) ∧ (5 : Int) ≤ (20 : Int)) (.need (rdC bs (2000 : Nat) (apsP bs (2000 : Nat) (0 : Int) (5 : Int))) (.need (apsP bs (2000 : Nat) (0 : Int) (5 : Int) ≤ (600000 : Int)) (.need ((0 : Int) ≤ (5 : Int) ∧ (5 : Int) ≤ (20 : Int)) (.need (rdC bs (2000 : Nat) (apsP bs (2000 : Nat) (apsP bs (2000 : Nat) (0 : Int) (5 : Int)) (5 : Int))) (brT (pickI bs 2000 (apsP bs 2000 (apsP bs 2000 0 5) 5) 3 == 0) (.need ((0 : Int) = (0 : Int)) (.need ((flat (apsL bs (2000 : Nat) (0 : Int) (5 : Int))).length = (apsL bs (2000 : Nat) (0 : Int) (5 : Int)).length * (2 : Nat)) (.need ((flat (apsL bs (2000 : Nat) (apsP bs (2000 : Nat) (0 : Int) (5 : Int)) (5 : Int))).length = (apsL bs (2000 : Nat) (apsP bs (2000 : Nat) (0 : Int) (5 : Int)) (5 : Int)).length * (2 : Nat)) (.need ((apsL bs (2000 : Nat) (apsP bs (2000 : Nat) (0 : Int) (5 : Int)) (5 : Int)).length ≤ (1000 : Nat)) (.fin (.tuple #[.slice (some ⟨2, 0, none⟩) ((apsL bs 2000 0 5).length) ((apsL bs 2000 0 5).length), .slice (some ⟨3, 0, none⟩) ((apsL bs 2000 (apsP bs 2000 0 5) 5).length) ((apsL bs 2000 (apsP bs 2000 0 5) 5).length)]) [some deadB, some deadB, some ⟨.row 32 2, .ints (flat (apsL bs 2000 0 5))⟩, some ⟨.row 32 2, .ints (flat (shN (ptsA (apsL bs 2000 (apsP bs 2000 0 5) 5).length (flat (apsL bs 2000 (apsP bs 2000 0 5) 5))) (apsL bs 2000 (apsP bs 2000 0 5) 5).length))⟩]))))) (.fin (.tuple #[.slice (some ⟨2, 0, none⟩) ((apsL bs 2000 0 5).length) ((apsL bs 2000 0 5).length), .slice (some ⟨3, 0, none⟩) ((apsL bs 2000 (apsP bs 2000 0 5) 5).length) ((apsL bs 2000 (apsP bs 2000 0 5) 5).length)]) [some ⟨.view, .bytes (bs)⟩, some ⟨.box, .vals [.slice (some ⟨0, 0, none⟩) (2000) (2000), .int .i64 (apsP bs 2000 (apsP bs 2000 0 5) 5 + 1)]⟩, some ⟨.row 32 2, .ints (flat (apsL bs 2000 0 5))⟩, some ⟨.row 32 2, .ints (flat (apsL bs 2000 (apsP bs 2000 0 5) 5))⟩])))))))))) (.need (rdC bs n (0 : Int)) (.need ((0 : Int) ≤ (600000 : Int)) (.need ((0 : Int) ≤ (5 : Int) ∧ (5 : Int) ≤ (20 : Int)) (.need (rdC bs n (apsP bs n (0 : Int) (5 : Int))) (.need (apsP bs n (0 : Int) (5 : Int) ≤ (600000 : Int)) (.need ((0 : Int) ≤ (5 : Int) ∧ (5 : Int) ≤ (20 : Int)) (.need (rdC bs n (apsP bs n (apsP bs n (0 : Int) (5 : Int)) (5 : Int))) (brT (pickI bs n (apsP bs n (apsP bs n 0 5) 5) 3 == 0) (.need ((0 : Int) = (0 : Int)) (.need ((flat (apsL bs n (0 : Int) (5 : Int))).length = (apsL bs n (0 : Int) (5 : Int)).length * (2 : Nat)) (.need ((flat (apsL bs n (apsP bs n (0 : Int) (5 : Int)) (5 : Int))).length = (apsL bs n (apsP bs n (0 : Int) (5 : Int)) (5 : Int)).length * (2 : Nat)) (.need ((apsL bs n (apsP bs n (0 : Int) (5 : Int)) (5 : Int)).length ≤ (1000 : Nat)) (.fin (.tuple #[.slice (some ⟨2, 0, none⟩) ((apsL bs n 0 5).length) ((apsL bs n 0 5).length), .slice (some ⟨3, 0, none⟩) ((apsL bs n (apsP bs n 0 5) 5).length) ((apsL bs n (apsP bs n 0 5) 5).length)]) [some deadB, some deadB, some ⟨.row 32 2, .ints (flat (apsL bs n 0 5))⟩, some ⟨.row 32 2, .ints (flat (shN (ptsA (apsL bs n (apsP bs n 0 5) 5).length (flat (apsL bs n (apsP bs n 0 5) 5))) (apsL bs n (apsP bs n 0 5) 5).length))⟩]))))) (.fin (.tuple #[.slice (some ⟨2, 0, none⟩) ((apsL bs n 0 5).length) ((apsL bs n 0 5).length), .slice (some ⟨3, 0, none⟩) ((apsL bs n (apsP bs n 0 5) 5).length) ((apsL bs n (apsP bs n 0 5) 5).length)]) [some ⟨.view, .bytes (bs)⟩, some ⟨.box, .vals [.slice (some ⟨0, 0, none⟩) (n) (n), .int .i64 (apsP bs n (apsP bs n 0 5) 5 + 1)]⟩, some ⟨.row 32 2, .ints (flat (apsL bs n 0 5))⟩, some ⟨.row 32 2, .ints (flat (apsL bs n (apsP bs n 0 5) 5))⟩]))))))))) := by kernel_rfl
/-- The second list that is drawn. -/
def dmQ (bs : List Int) (l : Nat) : List Pt := bif pickI bs l (apsP bs l (apsP bs l 0 5) 5) 3 == 0 then shN (apsL bs l (apsP bs l 0 5) 5) (apsL bs l (apsP bs l 0 5) 5).length else apsL bs l (apsP bs l 0 5) 5
theorem dmQ_len (bs : List Int) (l : Nat) : (dmQ bs l).length = (apsL bs l (apsP bs l 0 5) 5).length := by
  unfold dmQ
  cases pickI bs l (apsP bs l (apsP bs l 0 5) 5) 3 == 0
  · rfl
  · exact shN_len _ _
theorem dmKey {bs : List Int} {n : Nat} (hb : Bytes bs) (hn : n ≤ bs.length) {l : Nat} (h1 : l ≤ n) (h2 : l ≤ 2000) : rdC bs l 0 ∧ rdC bs l (apsP bs l 0 5) ∧ apsP bs l 0 5 ≤ 600000 ∧ rdC bs l (apsP bs l (apsP bs l 0 5) 5) ∧ (apsL bs l 0 5).length ≤ 21 ∧ (apsL bs l (apsP bs l 0 5) 5).length ≤ 21 := by
  have r0 : rdK bs l 0 := rdK0 hb hn h1 h2 (by omega) (by omega)
  have r1 : rdC bs l (0 + 1) := r0.at (by omega) (by omega)
  have b1 := apsP_bd (m := 5) r1 (by omega)
  have r2 : rdK bs l (apsP bs l 0 5) := rdK0 hb hn h1 h2 (by omega) (by omega)
  have r3 : rdC bs l (apsP bs l 0 5 + 1) := r2.at (by omega) (by omega)
  have b2 := apsP_bd (m := 5) r3 (by omega)
  have r4 : rdK bs l (apsP bs l (apsP bs l 0 5) 5) := rdK0 hb hn h1 h2 (by omega) (by omega)
  exact ⟨r0.1, r2.1, by omega, r4.1, apsL_len r1 (by omega), apsL_len r3 (by omega)⟩
def dmV (bs : List Int) (l : Nat) : List Value := [.slice (some ⟨0, 0, none⟩) (apsL bs l 0 5).length (apsL bs l 0 5).length, .slice (some ⟨1, 0, none⟩) (dmQ bs l).length (dmQ bs l).length]
set_option maxHeartbeats 1000000 in
theorem resR_dHm (bs : List Int) (n : Nat) (hb : Bytes bs) (hn : n ≤ bs.length) : ResR2 Try.prog 27 [.row n (.bytes bs)] (dmV bs (rdL n)) ⟨.row 32 2, .ints (flat (apsL bs (rdL n) 0 5))⟩ ⟨.row 32 2, .ints (flat (dmQ bs (rdL n)))⟩ := by
  refine bodyX_resR2 mixed ETw_ok (m := 30) (n := 12) rfl rfl ?_
  rw [tr_dHm]
  simp only [ptsA_flat, flat_length]
  refine brT_ok.2 ⟨fun h => ?_, fun h => ?_⟩
  · have h := of_decide_eq_true h
    obtain ⟨k1, k2, k3, k4, k5, k6⟩ := dmKey hb hn (l := 2000) (by omega) (by omega)
    rw [rdL_of h]
    have ql := dmQ_len bs 2000
    unfold dmV
    rw [ql]
    unfold dmQ
    refine ⟨bnd2000 h, k1, by omega, by omega, k2, k3, by omega, k4, ?_⟩
    rcases pickI bs 2000 (apsP bs 2000 (apsP bs 2000 0 5) 5) 3 == 0 with _ | _
    · exact ⟨some 2, some 3, _, rfl, ⟨⟨rfl, rfl, rfl⟩, ⟨rfl, rfl, rfl⟩, trivial⟩, ⟨rfl, rfl, rfl⟩, ⟨rfl, rfl, rfl⟩, by intro h; cases h⟩
    · exact ⟨trivial, trivial, trivial, by omega, some 2, some 3, _, rfl, ⟨⟨rfl, rfl, rfl⟩, ⟨rfl, rfl, rfl⟩, trivial⟩, ⟨rfl, rfl, rfl⟩, ⟨rfl, rfl, rfl⟩, by intro h; cases h⟩
  · have h := of_decide_eq_false h
    obtain ⟨k1, k2, k3, k4, k5, k6⟩ := dmKey hb hn (l := n) (by omega) (by omega)
    rw [rdL_no h]
    have ql := dmQ_len bs n
    unfold dmV
    rw [ql]
    unfold dmQ
    refine ⟨k1, by omega, by omega, k2, k3, by omega, k4, ?_⟩
    rcases pickI bs n (apsP bs n (apsP bs n 0 5) 5) 3 == 0 with _ | _
    · exact ⟨some 2, some 3, _, rfl, ⟨⟨rfl, rfl, rfl⟩, ⟨rfl, rfl, rfl⟩, trivial⟩, ⟨rfl, rfl, rfl⟩, ⟨rfl, rfl, rfl⟩, by intro h; cases h⟩
    · exact ⟨trivial, trivial, trivial, by omega, some 2, some 3, _, rfl, ⟨⟨rfl, rfl, rfl⟩, ⟨rfl, rfl, rfl⟩, trivial⟩, ⟨rfl, rfl, rfl⟩, ⟨rfl, rfl, rfl⟩, by intro h; cases h⟩
end Go.Proofs.Ytbfoheblcoakiaa
namespace Go.Proofs.Ytbfoheblcoakiaa
set_option linter.all false
open Go.RowKit
theorem ex_gr (f : Pt → Int) : ∀ (l : List Pt), l ≠ [] → ∃ v ∈ l, ∀ q ∈ l, f q ≤ f v
  | [], h => absurd rfl h
  | [a], _ => ⟨a, by simp, fun q hq => by
    obtain rfl : q = a := by simpa using hq
    exact Int.le_refl _⟩
  | a :: b :: t, _ => by
    obtain ⟨v, v1, v2⟩ := ex_gr f (b :: t) (by simp)
    by_cases h : f v ≤ f a
    · refine ⟨a, by simp, fun q hq => ?_⟩
      rcases List.mem_cons.1 hq with rfl | hq
      · exact Int.le_refl _
      · exact Int.le_trans (v2 q hq) h
    · refine ⟨v, List.mem_cons_of_mem _ v1, fun q hq => ?_⟩
      rcases List.mem_cons.1 hq with rfl | hq
      · omega
      · exact v2 q hq
/-- In every direction some point of us is as far as some point of vs. -/
def meetD (us vs : List Pt) : Prop := ∀ dx dy : Int, ∃ a ∈ us, ∃ c ∈ vs, dirV dx dy c ≤ dirV dx dy a
theorem dirV_ng {p : Pt} (h : ptB p.1 p.2 = true) (dx dy : Int) : dirV dx dy (ngW p) = -dirV dx dy p := by
  have h := ptB_true h
  unfold ngW dirV
  simp only
  rw [wr (x := 0 - p.1) (by omega), wr (x := 0 - p.2) (by omega)]
  grind
theorem dirV_adK (x y : Int) (a b : Pt) : dirV x y (adP a b) = dirV x y a + dirV x y b := by unfold dirV adP; grind
theorem hm_meet {us vs : List Pt} (ho : okL us = true) (hv : okL vs = true) (h : 0 < us.length) (h' : 0 < vs.length) : 0 ≤ locF (mkwH us (ngWL vs)) 0 0 ↔ meetD us vs := by
  have k2 := okL_20 hv
  have hn : okL (ngWL vs) = true := (okL_ng (fit_ok k2.1)).trans hv
  have n0 : 0 < (ngWL vs).length := by rw [ngWL_len]; exact h'
  have w0 := hmH_ne ho hn h n0
  have hl := loc_wit (srtL_asc (smL (hulV us) (hulV (ngWL vs)))) w0 (q := (0, 0))
  have hd := wit_dir (srtL_asc (smL (hulV us) (hulV (ngWL vs)))) w0
  refine (hl.trans hd).trans ?_
  have ptc : ∀ c ∈ vs, ptB c.1 c.2 = true := fun c hc => List.all_eq_true.1 k2.1 c hc
  constructor
  · intro hA dx dy
    obtain ⟨z, hz, z1⟩ := hA dx dy
    obtain ⟨a, b, ha, hb, rfl⟩ := mem_smL.1 ((srtL_mem _ _).1 hz)
    have hb := hulV_sub hn hb
    obtain ⟨c, hc, rfl⟩ := List.mem_map.1 hb
    refine ⟨a, hulV_sub ho ha, c, hc, ?_⟩
    rw [dirV_adK, dirV_ng (ptc c hc)] at z1
    omega
  · intro hM dx dy
    obtain ⟨a, ha, c, hc, ac⟩ := hM dx dy
    obtain ⟨u, u1, u2⟩ := ex_gr (dirV dx dy) (hulV us) (fun e => by have := hulV_pos ho h; rw [e] at this; exact absurd this (by simp))
    obtain ⟨v, v1, v2⟩ := ex_gr (dirV dx dy) (hulV (ngWL vs)) (fun e => by have := hulV_pos hn n0; rw [e] at this; exact absurd this (by simp))
    have m1 := hulV_max ho u2 ha
    have m2 := hulV_max hn v2 (q := ngW c) (List.mem_map.2 ⟨c, hc, rfl⟩)
    rw [dirV_ng (ptc c hc)] at m2
    refine ⟨adP u v, (srtL_mem _ _).2 (mem_smL.2 ⟨u, v, u1, v1, rfl⟩), ?_⟩
    rw [dirV_adK]
    omega
theorem hmB_iff {us vs : List Pt} : hmB us vs = true ↔ okL us = true ∧ okL vs = true ∧ 0 < us.length ∧ 0 < vs.length ∧ meetD us vs := by
  unfold hmB
  simp only [Bool.and_eq_true, decide_eq_true_eq]
  constructor
  · rintro ⟨⟨⟨⟨a, b⟩, c⟩, d⟩, e⟩
    exact ⟨a, b, c, d, (hm_meet a b c d).1 e⟩
  · rintro ⟨a, b, c, d, e⟩
    exact ⟨⟨⟨⟨a, b⟩, c⟩, d⟩, (hm_meet a b c d).2 e⟩
theorem hmB_self {us : List Pt} (h : okL us = true) (h0 : 0 < us.length) : hmB us us = true := hmB_iff.2 ⟨h, h, h0, h0, fun dx dy => by
  have hm : us.getD 0 (0, 0) ∈ us := by simp [List.getD_eq_getElem?_getD, h0]
  exact ⟨_, hm, _, hm, Int.le_refl _⟩⟩
theorem hmB_symm (us vs : List Pt) : hmB vs us = hmB us vs := by
  have key : ∀ us vs : List Pt, hmB us vs = true → hmB vs us = true := fun us vs h => by
    obtain ⟨a, b, c, d, e⟩ := hmB_iff.1 h
    refine hmB_iff.2 ⟨b, a, d, c, fun dx dy => ?_⟩
    obtain ⟨p, hp, q, hq, pq⟩ := e (-dx) (-dy)
    refine ⟨q, hq, p, hp, ?_⟩
    have e1 : ∀ z : Pt, dirV (-dx) (-dy) z = -dirV dx dy z := fun z => by unfold dirV; grind
    rw [e1, e1] at pq
    omega
  rw [Bool.eq_iff_iff]
  exact ⟨key _ _, key _ _⟩
theorem hmB_common {us vs : List Pt} (ho : okL us = true) (hv : okL vs = true) {p : Pt} (h1 : p ∈ us) (h2 : p ∈ vs) : hmB us vs = true := hmB_iff.2 ⟨ho, hv, List.length_pos_of_mem h1, List.length_pos_of_mem h2, fun _ _ => ⟨p, h1, p, h2, Int.le_refl _⟩⟩
theorem pick_bd (bs : List Int) (l : Nat) (p k : Int) (hk : 1 ≤ k) : -k < pickI bs l p k ∧ pickI bs l p k < k := by
  have ht : ∀ a : Int, -k < a.tmod k ∧ a.tmod k < k := fun a => by
    have h1 := Int.tmod_lt_of_pos a (show 0 < k by omega)
    have h2 := Int.tmod_lt_of_pos (-a) (show 0 < k by omega)
    rw [Int.neg_tmod] at h2
    omega
  unfold pickI
  split
  · omega
  · split
    · exact ht _
    · exact ht _
theorem wrap_in (x : Int) : -9223372036854775808 ≤ IntKind.i64.wrap x ∧ IntKind.i64.wrap x ≤ 9223372036854775807 := by
  unfold IntKind.wrap
  simp only [show IntKind.i64.bits = 64 by rfl, show IntKind.i64.signed = true by rfl, Bool.true_and, show (2 : Int) ^ 64 = 18446744073709551616 by rfl, show (2 : Int) ^ (64 - 1) = 9223372036854775808 by rfl]
  split <;> rename_i h <;> simp at h <;> omega
theorem shN_fit {qs : List Pt} (h : fitL qs) : ∀ i, fitL (shN qs i)
  | 0 => h
  | i + 1 => fun p hp => by
    rcases List.mem_or_eq_of_mem_set hp with hp | rfl
    · exact shN_fit h i p hp
    · refine ⟨wrap_in _, ?_⟩
      by_cases hi : i < (shN qs i).length
      · have hm : (shN qs i).getD i (0, 0) ∈ shN qs i := by simp [List.getD_eq_getElem?_getD, hi]
        exact (shN_fit h i _ hm).2
      · rw [show (shN qs i).getD i (0, 0) = (0, 0) by simp [List.getD_eq_getElem?_getD, Nat.le_of_not_lt hi]]
        omega
theorem rpt_fit (bs : List Int) (l : Nat) (k p : Int) : (-9223372036854775808 ≤ (rpt bs l k p).1 ∧ (rpt bs l k p).1 ≤ 9223372036854775807) ∧ (-9223372036854775808 ≤ (rpt bs l k p).2 ∧ (rpt bs l k p).2 ≤ 9223372036854775807) := by
  have a := pick_bd bs l p 9 (by omega)
  have b := pick_bd bs l (p + 1) 9 (by omega)
  unfold rpt
  cases k == 0
  · cases k == 1
    · simp only [cond_false]; omega
    · exact ⟨wrap_in _, wrap_in _⟩
  · refine ⟨?_, wrap_in _⟩
    simp only [cond_true]; omega
theorem rpL_fit (bs : List Int) (l : Nat) (k : Int) : ∀ (n : Nat) (p : Int), fitL (rpL bs l k n p)
  | 0, _ => fun q hq => by cases hq
  | n + 1, p => fun q hq => by
    rcases List.mem_cons.1 hq with rfl | hq
    · exact rpt_fit bs l k p
    · exact rpL_fit bs l k n (p + 2) q hq
theorem apsL_fit (bs : List Int) (l : Nat) (p m : Int) : fitL (apsL bs l p m) := by
  have h : fitL (rpsL bs l p m) := rpL_fit _ _ _ _ _
  intro q hq
  unfold apsL at hq
  split at hq
  · exact h q hq
  split at hq
  · rcases List.mem_or_eq_of_mem_set hq with hq | rfl
    · exact h q hq
    · omega
  split at hq
  · rcases List.mem_append.1 hq with hq | hq
    · exact h q hq
    · exact rpL_fit _ _ _ _ _ q hq
  · exact h q hq
theorem dmQ_fit (bs : List Int) (l : Nat) : fitL (dmQ bs l) := by
  unfold dmQ
  cases pickI bs l (apsP bs l (apsP bs l 0 5) 5) 3 == 0
  · exact apsL_fit _ _ _ _
  · exact shN_fit (apsL_fit _ _ _ _) _
end Go.Proofs.Ytbfoheblcoakiaa
namespace Go.Proofs.Ytbfoheblcoakiaa
set_option linter.all false
open Go.RowKit
def RMk : TabR := fun f ds => match f, ds with
  | 15, [.row m (.ints xs), .row n (.ints ys)] => some (rowBK (mkwB (ptsA m xs) (ptsA n ys)) (mkwV (ptsA m xs) (ptsA n ys)), ⟨.row 32 2, .ints (flat (mkwV (ptsA m xs) (ptsA n ys)))⟩, [m * 2 ≤ xs.length, n * 2 ≤ ys.length, m ≤ 1000000000, n ≤ 1000000000])
  | 14, [.row m (.ints xs), .row n (.ints ys)] => some (rowBK (mkwB (ptsA m xs) (ptsA n ys)) (mkwV (ptsA m xs) (ptsA n ys)), ⟨.row 32 2, .ints (flat (mkwV (ptsA m xs) (ptsA n ys)))⟩, [m * 2 ≤ xs.length, n * 2 ≤ ys.length, m ≤ 1000000000, n ≤ 1000000000])
  | f, ds => RHv f ds
theorem RMk_ok : TabROk Try.prog RMk := by
  intro f ds v b C h hC
  unfold RMk at h
  split at h
  · obtain ⟨rfl, rfl, rfl⟩ : _ ∧ _ ∧ _ := by simpa using h
    obtain ⟨_, h2⟩ := ptsA_spec hC.1
    obtain ⟨_, h3⟩ := ptsA_spec hC.2.1
    exact resR_two hC.1 hC.2.1 (resR_sMs _ _ (by unfold Big; rw [h2]; exact hC.2.2.1) (by unfold Big; rw [h3]; exact hC.2.2.2.1))
  · obtain ⟨rfl, rfl, rfl⟩ : _ ∧ _ ∧ _ := by simpa using h
    obtain ⟨_, h2⟩ := ptsA_spec hC.1
    obtain ⟨_, h3⟩ := ptsA_spec hC.2.1
    exact resR_two hC.1 hC.2.1 (resR_iMs _ _ (by unfold Big; rw [h2]; exact hC.2.2.1) (by unfold Big; rw [h3]; exact hC.2.2.2.1))
  · exact RHv_ok _ _ _ _ _ h hC
end Go.Proofs.Ytbfoheblcoakiaa
namespace Go.Proofs.Ytbfoheblcoakiaa
set_option linter.all false
open Go.RowKit
theorem negT_ (b : Bool) : negB true b = !b := by cases b <;> rfl
theorem negF_ (b : Bool) : negB false b = b := by cases b <;> rfl
noncomputable def c_eqQ : Code := ((loopsOf (codeOf Try.f16))[0]?).getD .skip
def k_eqQ : Ex → List Nat := keeps [0, 1, 5] [(0, [])] [4]
def s_eqQ (ps : List Pt) : Nat → St := fun i => ⟨[.slice (some ⟨0, 0, none⟩) ps.length ps.length, .slice (some ⟨1, 0, none⟩) ps.length ps.length, topV, topV, topV, .int .i64 i, topV, topV, topV, topV, topV, topV, topV, topV, topV, topV, topV, topV, topV, topV, topV, topV, topV, topV, topV, topV], [some ⟨.view, .ints (flat ps)⟩, some ⟨.view, .ints (flat ps)⟩]⟩
def re_eqQ : Nat → Ex := fun _ => .exit 0
def rs_eqQ (ps : List Pt) : Nat → St := fun i => ⟨[topV, topV, topV, topV, topV, topV, topV, topV, topV, topV, topV, topV, topV, topV, topV, topV, topV, topV, topV, topV, topV, topV, topV, topV, topV, topV], [some ⟨.view, .ints (flat ps)⟩, some ⟨.view, .ints (flat ps)⟩]⟩
set_option maxRecDepth 100000 in
theorem tr_eqQ (ps : List Pt) (i : Nat) : bodyL Try.prog EM 30 12 noL 1 c_eqQ k_eqQ 2 (s_eqQ ps i) = brT (decide ((↑i : Int) < (↑ps.length : Int))) (.need ((0 : Int) ≤ (↑i : Int) ∧ (↑i : Int) < (↑ps.length : Int)) (.need ((0 : Nat) + (↑i : Int).toNat * (2 : Nat) + (2 : Nat) ≤ (flat ps).length) (.need ((0 : Int) ≤ (↑i : Int) ∧ (↑i : Int) < (↑ps.length : Int)) (.need ((0 : Nat) + (↑i : Int).toNat * (2 : Nat) + (2 : Nat) ≤ (flat ps).length) (brT (negB true ((flat ps).getD (0 + (↑i : Int).toNat * 2) 0 == (flat ps).getD (0 + (↑i : Int).toNat * 2) 0 && ((flat ps).getD (0 + (↑i : Int).toNat * 2 + 1) 0 == (flat ps).getD (0 + (↑i : Int).toNat * 2 + 1) 0 && true))) (.leaf .ret ⟨[topV, topV, topV, topV, .bool (false), topV, topV, topV, topV, topV, topV, topV, topV, topV, topV, topV, topV, topV, topV, topV, topV, topV, topV, topV, topV, topV], [some ⟨.view, .ints (flat ps)⟩, some ⟨.view, .ints (flat ps)⟩]⟩) (.leaf .normal ⟨[.slice (some ⟨0, 0, none⟩) (ps.length) (ps.length), .slice (some ⟨1, 0, none⟩) (ps.length) (ps.length), topV, topV, topV, .int .i64 (IntKind.i64.wrap ((↑i : Int) + 1)), topV, topV, topV, topV, topV, topV, topV, topV, topV, topV, topV, topV, topV, topV, topV, topV, topV, topV, topV, topV], [some ⟨.view, .ints (flat ps)⟩, some ⟨.view, .ints (flat ps)⟩]⟩)))))) (.leaf (.exit 0) ⟨[topV, topV, topV, topV, topV, topV, topV, topV, topV, topV, topV, topV, topV, topV, topV, topV, topV, topV, topV, topV, topV, topV, topV, topV, topV, topV], [some ⟨.view, .ints (flat ps)⟩, some ⟨.view, .ints (flat ps)⟩]⟩) := by kernel_rfl
set_option maxRecDepth 100000 in
theorem nl_eqQ : loopsOf c_eqQ = [] := by kernel_rfl
def inv_eqQ (ps : List Pt) : Nat → Prop := fun i => i ≤ ps.length
def me_eqQ (ps : List Pt) : Nat → Nat := fun i => ps.length - i
/-- A round of this loop. -/
def Round_eqQ (ps : List Pt) : Prop := ∀ xx : Nat, inv_eqQ ps xx → (bodyL Try.prog EM 30 12 noL 1 c_eqQ k_eqQ 2 (s_eqQ ps xx)).ok (RoundEnd 2 (s_eqQ ps) (inv_eqQ ps) (me_eqQ ps) re_eqQ (rs_eqQ ps) xx) (fun _ _ => False)
def e_eqQ (s : St) (k : Ex → St → Tree) : Option Tree := match Nat.beq s.tmps.length 26, pickL s.tmps [0, 1, 5], s.mem with
  | true, [.slice (some ⟨0, 0, none⟩) n _, .slice (some ⟨1, 0, none⟩) m _, .int .i64 i], [some ⟨.view, .ints xs⟩, some ⟨.view, .ints ys⟩] => some (needs [i = 0, m = n, ys = xs, xs.length = n * 2, n ≤ 1000000000] (k (.exit 0) ⟨[topV, topV, topV, topV, topV, topV, topV, topV, topV, topV, topV, topV, topV, topV, topV, topV, topV, topV, topV, topV, topV, topV, topV, topV, topV, topV], [some ⟨.view, .ints xs⟩, some ⟨.view, .ints xs⟩]⟩))
  | _, _, _ => none
set_option maxRecDepth 100000 in
theorem round_eqQ (ps : List Pt) (h : ps.length ≤ 1000000000) : Round_eqQ ps := by
  intro i h1
  have h1 : i ≤ ps.length := h1
  rw [tr_eqQ]
  simp only [brT_ok, Tree.ok, decide_eq_true_eq, decide_eq_false_iff_not, Int.toNat_natCast, Nat.zero_add, flat_length, flat_get0, flat_get1, Bool.not_eq_true', Bool.not_eq_false', beq_iff_eq, beq_eq_false_iff_ne, negT_, negF_, Bool.and_true, Bool.and_eq_true, Bool.and_eq_false_iff, beq_self_eq_true, Bool.and_self, Bool.not_true, Bool.false_eq_true]
  refine ⟨fun hlt => ?_, fun hge => ?_⟩
  · rw [wsucc (n := ps.length) (by omega) h]
    refine ⟨by omega, by omega, by omega, by omega, fun hc => hc.elim, fun _ => ⟨i + 1, [], ?_, ?_, rfl, rfl, ?_⟩⟩
    · show i + 1 ≤ ps.length; omega
    · show ps.length - (i + 1) < ps.length - i; omega
    · repeat' (first | exact True.intro | exact rfl | exact fun _ => rfl | refine And.intro ?_ ?_)
  · refine ⟨rfl, [], ?_⟩
    repeat' (first | exact True.intro | exact rfl | exact fun _ => rfl | refine And.intro ?_ ?_)
set_option maxRecDepth 100000 in
theorem lg_eqQ : LoopE Try.prog e_eqQ c_eqQ := by
  intro s k t F H hlt ht
  unfold e_eqQ at hlt
  split at hlt
  rotate_left
  · cases hlt
  rename_i hlen hpick hmem
  obtain ⟨tmps, mem⟩ := s
  simp only at hlen hpick hmem
  subst hmem
  obtain rfl := Option.some.inj hlt
  obtain ⟨⟨rfl, rfl, rfl, h1, h2, _⟩, ht2⟩ := needs_ok ht
  clear ht hlt
  obtain ⟨ps, rfl, rfl⟩ := even_flat h1
  refine ⟨_, _, ht2, loop_run mixed EM_ok (s_eqQ _) (inv_eqQ _) (me_eqQ _) re_eqQ (rs_eqQ _) k_eqQ (fun _ => rfl) (noLoops nl_eqQ) (round_eqQ _ h2) (x := 0) (Nat.zero_le _) (π := []) rfl ?_⟩
  refine ⟨rfl, rfl, ?_, wvs_spread' [0, 1, 5] hlen rfl ?_⟩
  · repeat' (first | exact True.intro | exact rfl | exact wv_top _ _ | exact fun _ => rfl | assumption | exact Eq.symm (by assumption) | exact vI0 rfl | refine And.intro ?_ ?_)
  · rw [hpick]
    repeat' (first | exact True.intro | exact rfl | exact wv_top _ _ | exact fun _ => rfl | assumption | exact Eq.symm (by assumption) | exact vI0 rfl | refine And.intro ?_ ?_)
end Go.Proofs.Ytbfoheblcoakiaa
namespace Go.Proofs.Ytbfoheblcoakiaa
set_option linter.all false
open Go.RowKit
theorem Lr_eqQ {fn : Func} (hf : Try.prog.funcs[16]? = some fn) : LoopsGood Try.prog (lt1 e_eqQ) 0 (codeOf fn) := by
  obtain rfl := fn_is Try.func16 hf
  exact lt1_good lg_eqQ
def LEp : FuncId → LT := fun f => match f with
  | 16 => lt1 e_eqQ
  | _ => noL
def EEp : Env := mkE B0 (fun _ _ => none) LEp
theorem EEp_ok : EnvOk Try.prog EEp := mkEOk B0_ok (fun _ _ _ _ _ h => (by cases h)) (by
  intro f fn hf
  unfold LEp
  split
  all_goals first | with_reducible exact Lr_eqQ hf | exact noL_good)
set_option maxRecDepth 100000 in
theorem tr_eqPF (n m : Nat) (xs ys : List Int) : bodyV Try.prog EEp 30 12 16 [.row n (.ints xs), .row m (.ints ys)] = brT (!(↑n : Int) == (↑m : Int)) (.fin (.bool (false)) []) (.need ((0 : Int) = (0 : Int)) (.need (m = n) (.need (ys = xs) (.need (xs.length = n * (2 : Nat)) (.need (n ≤ (1000000000 : Nat)) (.fin (.bool (true)) [])))))) := by kernel_rfl
theorem res_eqP (n : Nat) (xs : List Int) (h : xs.length = n * 2) (hn : n ≤ 1000000000) : Res Try.prog 16 [.row n (.ints xs), .row n (.ints xs)] (.bool true) := by
  refine bodyV_res mixed EEp_ok (m := 30) (n := 12) rfl ?_
  rw [tr_eqPF]
  simp [brT_ok, Tree.ok, h, hn]
def pEqP : List DArg → Option (Value × List Prop)
  | [.row n (.ints xs), .row m (.ints ys)] => some (.bool true, [n = m, xs = ys, xs.length = n * 2, n ≤ 1000000000])
  | _ => none
theorem pEqP_ok {ds : List DArg} {v : Value} {C : List Prop} (h : pEqP ds = some (v, C)) (hC : AllP C) : Res Try.prog 16 ds v := by
  unfold pEqP at h
  split at h
  · obtain ⟨rfl, rfl⟩ : _ ∧ _ := by simpa using h
    obtain ⟨rfl, rfl, h1, h2, _⟩ := hC
    exact res_eqP _ _ h1 h2
  · cases h
def TEp : Tab := fun f ds => match f with
  | 16 => pEqP ds
  | f => TMh f ds
theorem TEp_ok : TabOk Try.prog TEp := by
  intro f ds v C h hC
  unfold TEp at h
  (try split at h)
  all_goals first | with_reducible exact pEqP_ok h hC | exact TMh_ok _ _ _ _ h hC
end Go.Proofs.Ytbfoheblcoakiaa
namespace Go.Proofs.Ytbfoheblcoakiaa
set_option linter.all false
open Go.RowKit
/-- The index of the first largest among those at b and from i on, n of them. -/
def ag (f : Pt → Int) (ps : List Pt) : Nat → Nat → Nat → Nat
  | 0, _, b => b
  | n + 1, i, b => ag f ps n (i + 1) (if f (ps.getD b (0, 0)) < f (ps.getD i (0, 0)) then i else b)
theorem ag_step {f : Pt → Int} {ps : List Pt} {i : Nat} (h : i < ps.length) (b : Nat) : ag f ps (ps.length - i) i b = ag f ps (ps.length - (i + 1)) (i + 1) (if f (ps.getD b (0, 0)) < f (ps.getD i (0, 0)) then i else b) := by
  rw [show ps.length - i = (ps.length - (i + 1)) + 1 by omega]
  rfl
theorem ag_end {f : Pt → Int} {ps : List Pt} {i : Nat} (h : ps.length ≤ i) (b : Nat) : ag f ps (ps.length - i) i b = b := by
  rw [show ps.length - i = 0 by omega]
  rfl
def fl (f : Pt → Int) (ps : List Pt) (i : Nat) (b : Int) : Int :=
  if b < 0 then (if ps.length ≤ i then -1 else (ag f ps (ps.length - (i + 1)) (i + 1) i : Nat)) else (ag f ps (ps.length - i) i b.toNat : Nat)
theorem fl_first {f : Pt → Int} {ps : List Pt} {i : Nat} (h : i < ps.length) {b : Int} (hb : b < 0) : fl f ps i b = fl f ps (i + 1) i := by
  unfold fl
  rw [if_pos hb, if_neg (by omega), if_neg (by omega), Int.toNat_natCast]
theorem fl_yes {f : Pt → Int} {ps : List Pt} {i : Nat} (h : i < ps.length) {b : Int} (hb : 0 ≤ b) (hm : f (ps.getD b.toNat (0, 0)) < f (ps.getD i (0, 0))) : fl f ps i b = fl f ps (i + 1) i := by
  unfold fl
  rw [if_neg (by omega), if_neg (by omega), Int.toNat_natCast, ag_step h, if_pos hm]
theorem fl_no {f : Pt → Int} {ps : List Pt} {i : Nat} (h : i < ps.length) {b : Int} (hb : 0 ≤ b) (hm : ¬ f (ps.getD b.toNat (0, 0)) < f (ps.getD i (0, 0))) : fl f ps i b = fl f ps (i + 1) b := by
  unfold fl
  rw [if_neg (by omega), if_neg (by omega), ag_step h, if_neg hm]
theorem fl_end {f : Pt → Int} {ps : List Pt} {i : Nat} (h : ps.length ≤ i) {b : Int} (hb : b = -1 ∨ 0 ≤ b) : fl f ps i b = b := by
  unfold fl
  rcases hb with rfl | hb
  · rw [if_pos (by omega), if_pos h]
  · rw [if_neg (by omega), ag_end h]; omega
def fE (d p : Pt) : Int := p.1 * d.1 + p.2 * d.2
noncomputable def c_flExt : Code := ((loopsOf (codeOf Try.f58))[0]?).getD .skip
def k_flExt : Ex → List Nat := keeps [1, 5, 6, 10, 11, 12] [(0, [5])] [4]
def s_flExt (ps : List Pt) (x y : Int) : Nat × Int × Int → St := fun (i, b, m) => ⟨(topV :: .func (.func 45) #[.agg #[.int .i64 x, .int .i64 y]] #[] :: topV :: topV :: topV :: .int .i64 b :: .int .i64 m :: topV :: topV :: topV :: .slice (some ⟨0, 0, none⟩) ps.length ps.length :: .int .i64 ps.length :: .int .i64 i :: topV :: topV :: topV :: topV :: topV :: topV :: topV :: topV :: topV :: topV :: topV :: topV :: topV :: topV :: topV :: topV :: topV :: topV :: []), [some ⟨.view, .ints (flat ps)⟩, none, some ⟨.box, .vals [.int .i64 x, .int .i64 y]⟩]⟩
def re_flExt : Nat × Int × Int → Ex := fun _ => .exit 0
def rs_flExt (ps : List Pt) (x y : Int) : Nat × Int × Int → St := fun (i, b, m) => ⟨(topV :: topV :: topV :: topV :: topV :: .int .i64 (fl (fE (x, y)) ps i b) :: topV :: topV :: topV :: topV :: topV :: topV :: topV :: topV :: topV :: topV :: topV :: topV :: topV :: topV :: topV :: topV :: topV :: topV :: topV :: topV :: topV :: topV :: topV :: topV :: topV :: []), [some ⟨.view, .ints (flat ps)⟩, none, some ⟨.box, .vals [.int .i64 x, .int .i64 y]⟩]⟩
set_option maxRecDepth 100000 in
theorem tr_flExt (ps : List Pt) (x y : Int) (i : Nat) (b m : Int) : bodyL Try.prog E3 30 12 noL 1 c_flExt k_flExt 3 (s_flExt ps x y (i, b, m)) = brT (decide ((↑i : Int) < (↑ps.length : Int))) (.need ((0 : Int) ≤ (↑i : Int) ∧ (↑i : Int) < (↑ps.length : Int)) (.need ((0 : Nat) + (↑i : Int).toNat * (2 : Nat) + (2 : Nat) ≤ (flat ps).length) (brT (decide (b < 0)) (.leaf .normal ⟨(topV :: .func (Fn.func 45) #[.agg #[.int .i64 (x), .int .i64 (y)]] #[] :: topV :: topV :: topV :: .int .i64 ((↑i : Int)) :: .int .i64 (IntKind.i64.wrap (IntKind.i64.wrap (x * (flat ps).getD (0 + (↑i : Int).toNat * 2) 0) + IntKind.i64.wrap (y * (flat ps).getD (0 + (↑i : Int).toNat * 2 + 1) 0))) :: topV :: topV :: topV :: .slice (some ⟨0, 0, none⟩) (ps.length) (ps.length) :: .int .i64 ((↑ps.length : Int)) :: .int .i64 (IntKind.i64.wrap ((↑i : Int) + 1)) :: topV :: topV :: topV :: topV :: topV :: topV :: topV :: topV :: topV :: topV :: topV :: topV :: topV :: topV :: topV :: topV :: topV :: topV :: []), [some ⟨.view, .ints (flat ps)⟩, none, some ⟨.box, .vals [.int .i64 (x), .int .i64 (y)]⟩]⟩) (brT (decide (m < IntKind.i64.wrap (IntKind.i64.wrap (x * (flat ps).getD (0 + (↑i : Int).toNat * 2) 0) + IntKind.i64.wrap (y * (flat ps).getD (0 + (↑i : Int).toNat * 2 + 1) 0)))) (.leaf .normal ⟨(topV :: .func (Fn.func 45) #[.agg #[.int .i64 (x), .int .i64 (y)]] #[] :: topV :: topV :: topV :: .int .i64 ((↑i : Int)) :: .int .i64 (IntKind.i64.wrap (IntKind.i64.wrap (x * (flat ps).getD (0 + (↑i : Int).toNat * 2) 0) + IntKind.i64.wrap (y * (flat ps).getD (0 + (↑i : Int).toNat * 2 + 1) 0))) :: topV :: topV :: topV :: .slice (some ⟨0, 0, none⟩) (ps.length) (ps.length) :: .int .i64 ((↑ps.length : Int)) :: .int .i64 (IntKind.i64.wrap ((↑i : Int) + 1)) :: topV :: topV :: topV :: topV :: topV :: topV :: topV :: topV :: topV :: topV :: topV :: topV :: topV :: topV :: topV :: topV :: topV :: topV :: []), [some ⟨.view, .ints (flat ps)⟩, none, some ⟨.box, .vals [.int .i64 (x), .int .i64 (y)]⟩]⟩) (.leaf .normal ⟨(topV :: .func (Fn.func 45) #[.agg #[.int .i64 (x), .int .i64 (y)]] #[] :: topV :: topV :: topV :: .int .i64 (b) :: .int .i64 (m) :: topV :: topV :: topV :: .slice (some ⟨0, 0, none⟩) (ps.length) (ps.length) :: .int .i64 ((↑ps.length : Int)) :: .int .i64 (IntKind.i64.wrap ((↑i : Int) + 1)) :: topV :: topV :: topV :: topV :: topV :: topV :: topV :: topV :: topV :: topV :: topV :: topV :: topV :: topV :: topV :: topV :: topV :: topV :: []), [some ⟨.view, .ints (flat ps)⟩, none, some ⟨.box, .vals [.int .i64 (x), .int .i64 (y)]⟩]⟩))))) (.leaf (.exit 0) ⟨(topV :: topV :: topV :: topV :: topV :: .int .i64 (b) :: topV :: topV :: topV :: topV :: topV :: topV :: topV :: topV :: topV :: topV :: topV :: topV :: topV :: topV :: topV :: topV :: topV :: topV :: topV :: topV :: topV :: topV :: topV :: topV :: topV :: []), [some ⟨.view, .ints (flat ps)⟩, none, some ⟨.box, .vals [.int .i64 (x), .int .i64 (y)]⟩]⟩) := by kernel_rfl
set_option maxRecDepth 100000 in
theorem nl_flExt : loopsOf c_flExt = [] := by kernel_rfl
def inv_flExt (ps : List Pt) (x y : Int) : Nat × Int × Int → Prop := fun (i, b, m) => i ≤ ps.length ∧ (b = -1 ∨ 0 ≤ b ∧ b < i ∧ m = fE (x, y) (ps.getD b.toNat (0, 0)))
def me_flExt (ps : List Pt) (x y : Int) : Nat × Int × Int → Nat := fun (i, b, m) => ps.length - i
/-- A round of this loop. -/
def Round_flExt (ps : List Pt) (x y : Int) : Prop := ∀ xx : Nat × Int × Int, inv_flExt ps x y xx → (bodyL Try.prog E3 30 12 noL 1 c_flExt k_flExt 3 (s_flExt ps x y xx)).ok (RoundEnd 3 (s_flExt ps x y) (inv_flExt ps x y) (me_flExt ps x y) re_flExt (rs_flExt ps x y) xx) (fun _ _ => False)
def e_flExt (s : St) (k : Ex → St → Tree) : Option Tree := match Nat.beq s.tmps.length 31, pickL s.tmps [1, 5, 6, 10, 11, 12], s.mem with
  | true, [.func (.func 45) ⟨[.agg ⟨[.int .i64 x, .int .i64 y]⟩]⟩ ⟨[]⟩, .int .i64 b, .int .i64 mm, .slice (some ⟨0, 0, none⟩) m _, .int .i64 l, .int .i64 i], [some ⟨.view, .ints xs⟩, none, some ⟨.box, .vals [.int .i64 x2, .int .i64 y2]⟩] => some (needs [i = 0, b = -1, mm = 0, l = m, xs.length = m * 2, m ≤ 20, allV (ptsA m xs) = true, ptB x y = true, x2 = x, y2 = y] (k (.exit 0) ⟨(topV :: topV :: topV :: topV :: topV :: .int .i64 (fl (fE (x, y)) (ptsA m xs) 0 (-1)) :: topV :: topV :: topV :: topV :: topV :: topV :: topV :: topV :: topV :: topV :: topV :: topV :: topV :: topV :: topV :: topV :: topV :: topV :: topV :: topV :: topV :: topV :: topV :: topV :: topV :: []), [some ⟨.view, .ints xs⟩, none, some ⟨.box, .vals [.int .i64 x2, .int .i64 y2]⟩]⟩))
  | _, _, _ => none
set_option maxRecDepth 100000 in
theorem round_flExt (ps : List Pt) (x y : Int) (h : ps.length ≤ 20) (hv : allV ps = true) (hq : ptB x y = true) : Round_flExt ps x y := by
  rintro ⟨i, b, m⟩ ⟨h1, h2⟩
  rw [tr_flExt]
  have bb := allV_get hv i
  have hq2 : -1000 ≤ x ∧ x ≤ 1000 ∧ -1000 ≤ y ∧ y ≤ 1000 := by simpa [ptB] using hq
  have m1 := mul_bd (x := x) (y := (ps.getD i (0, 0)).1) 1000 1000 (by omega) (by omega)
  have m2 := mul_bd (x := y) (y := (ps.getD i (0, 0)).2) 1000 1000 (by omega) (by omega)
  simp only [Int.toNat_natCast, Nat.zero_add, flat_length, flat_get0, flat_get1]
  simp only [brT_ok, Tree.ok, decide_eq_true_eq, decide_eq_false_iff_not]
  refine ⟨fun hlt => ⟨by omega, by omega, ?_⟩, fun hge => ?_⟩
  · rw [wsucc (n := ps.length) (by omega) (by omega)]
    simp (disch := omega) only [wr]
    have hf : fE (x, y) (ps.getD i (0, 0)) = x * (ps.getD i (0, 0)).1 + y * (ps.getD i (0, 0)).2 := by
      unfold fE
      rw [Int.mul_comm, Int.mul_comm (ps.getD i (0, 0)).2]
    rw [← hf]
    have new : fl (fE (x, y)) ps i b = fl (fE (x, y)) ps (i + 1) i → RoundEnd 3 (s_flExt ps x y) (inv_flExt ps x y) (me_flExt ps x y) re_flExt (rs_flExt ps x y) (i, b, m) .normal (s_flExt ps x y (i + 1, i, fE (x, y) (ps.getD i (0, 0)))) := fun e => by
      refine ⟨(i + 1, i, fE (x, y) (ps.getD i (0, 0))), [], ⟨by omega, .inr ⟨by omega, by omega, by rw [Int.toNat_natCast]⟩⟩, ?_, rfl, by simp only [rs_flExt]; rw [e], ?_⟩
      · show ps.length - (i + 1) < ps.length - i; omega
      · repeat' (first | exact True.intro | exact rfl | exact fun _ => rfl | refine And.intro ?_ ?_)
    refine ⟨fun hb => new (fl_first (by omega) hb), fun hb => ?_⟩
    obtain ⟨g1, g2, g3⟩ := h2.resolve_left (by omega)
    refine ⟨fun hle => new (fl_yes (by omega) g1 (by rw [← g3]; exact hle)), fun hle => ?_⟩
    refine ⟨(i + 1, b, m), [], ⟨by omega, .inr ⟨by omega, by omega, g3⟩⟩, ?_, rfl, by simp only [rs_flExt]; rw [fl_no (i := i) (by omega) g1 (by rw [← g3]; exact hle)], ?_⟩
    · show ps.length - (i + 1) < ps.length - i; omega
    · repeat' (first | exact True.intro | exact rfl | exact fun _ => rfl | refine And.intro ?_ ?_)
  · refine ⟨rfl, [], ?_⟩
    simp only [rs_flExt, fl_end (f := fE (x, y)) (ps := ps) (i := i) (by omega) (b := b) (h2.imp id fun h => h.1)]
    repeat' (first | exact True.intro | exact rfl | exact fun _ => rfl | refine And.intro ?_ ?_)
set_option maxRecDepth 100000 in
theorem lg_flExt : LoopE Try.prog e_flExt c_flExt := by
  intro s k t F H hlt ht
  unfold e_flExt at hlt
  split at hlt
  rotate_left
  · cases hlt
  rename_i hlen hpick hmem
  obtain ⟨tmps, mem⟩ := s
  simp only at hlen hpick hmem
  subst hmem
  obtain rfl := Option.some.inj hlt
  obtain ⟨⟨rfl, rfl, rfl, rfl, h1, h3, h4, h5, rfl, rfl, _⟩, ht2⟩ := needs_ok ht
  clear ht hlt
  obtain ⟨ps, rfl, rfl⟩ := even_flat h1
  rw [ptsA_flat] at ht2 h4
  refine ⟨_, _, ht2, loop_run mixed E3_ok (s_flExt ps _ _) (inv_flExt ps _ _) (me_flExt ps _ _) re_flExt (rs_flExt ps _ _) k_flExt (fun _ => rfl) (noLoops nl_flExt) (round_flExt ps _ _ h3 h4 h5) (x := (0, -1, 0)) ⟨Nat.zero_le _, .inl rfl⟩ (π := []) rfl ?_⟩
  refine ⟨rfl, rfl, ?_, wvs_spread' [1, 5, 6, 10, 11, 12] hlen rfl ?_⟩
  · repeat' (first | exact True.intro | exact rfl | exact wv_top _ _ | exact fun _ => rfl | assumption | exact Eq.symm (by assumption) | exact vI0 rfl | refine And.intro ?_ ?_)
  · rw [hpick]
    repeat' (first | exact True.intro | exact rfl | exact wv_top _ _ | exact fun _ => rfl | assumption | exact Eq.symm (by assumption) | exact vI0 rfl | refine And.intro ?_ ?_)
end Go.Proofs.Ytbfoheblcoakiaa
namespace Go.Proofs.Ytbfoheblcoakiaa
set_option linter.all false
open Go.RowKit
theorem Lr_flE {fn : Func} (hf : Try.prog.funcs[58]? = some fn) : LoopsGood Try.prog (lt1 e_flExt) 0 (codeOf fn) := by
  obtain rfl := code_of Try.func58 hf
  exact lt1_good lg_flExt
def L6 : FuncId → LT := fun f => match f with
  | 58 => lt1 e_flExt
  | _ => noL
def E6 : Env := mkE (T3) (R4) (L6)
theorem E6_ok : EnvOk Try.prog E6 := by
  refine mkEOk T3_ok (R4_ok) fun f fn hf => ?_
  show LoopsGood Try.prog (L6 f) 0 (codeOf fn)
  unfold L6
  split
  all_goals first | with_reducible exact Lr_sE hf | with_reducible exact Lr_flE hf | exact noL_good
set_option maxRecDepth 100000 in
theorem tr_implExtF (ps : List Pt) (x y : Int) : bodyX Try.prog E6 30 12 30 [.row ps.length (.ints (flat ps)), .v (.agg #[iv x, iv y])] = brT (decide ((↑ps.length : Int) ≤ 20)) (.need (ps.length * (2 : Nat) ≤ (List.drop (0 : Nat) (flat ps)).length) (.need (ps.length ≤ (1000000000 : Nat)) (brT (!allV (ptsA ps.length (List.drop 0 (flat ps)))) (.fin (.int .i64 (-1)) [some ⟨.view, .ints (flat ps)⟩, none, some ⟨.box, .vals [.int .i64 (x), .int .i64 (y)]⟩]) (brT (!ptB x y) (.fin (.int .i64 (-1)) [some ⟨.view, .ints (flat ps)⟩, none, some ⟨.box, .vals [.int .i64 (x), .int .i64 (y)]⟩]) (.need ((0 : Int) = (0 : Int)) (.need ((-1 : Int) = (-1 : Int)) (.need ((0 : Int) = (0 : Int)) (.need ((↑ps.length : Int) = (↑ps.length : Int)) (.need ((flat ps).length = ps.length * (2 : Nat)) (.need (ps.length ≤ (20 : Nat)) (.need (allV (ptsA ps.length (flat ps)) = true) (.need (ptB x y = true) (.need (x = x) (.need (y = y) (.fin (.int .i64 (fl (fE (x, y)) (ptsA ps.length (flat ps)) 0 (-1))) [some ⟨.view, .ints (flat ps)⟩, none, some ⟨.box, .vals [.int .i64 (x), .int .i64 (y)]⟩]))))))))))))))) (.fin (.int .i64 (-1)) [some ⟨.view, .ints (flat ps)⟩, none, some ⟨.box, .vals [.int .i64 (x), .int .i64 (y)]⟩]) := by kernel_rfl
/-- The first largest, if all is valid. -/
def flV (f : Pt → Int) (ps : List Pt) (x y : Int) : Int := bif okL ps && ptB x y then fl f ps 0 (-1) else -1
theorem fl_ag {f : Pt → Int} {ps : List Pt} (h : 0 < ps.length) : fl f ps 0 (-1) = (ag f ps ps.length 0 0 : Nat) := by
  have e := ag_step (f := f) h 0
  rw [Nat.sub_zero, if_neg (Int.lt_irrefl _)] at e
  unfold fl
  rw [if_pos (by omega), if_neg (by omega), e]
theorem fl_nil {f : Pt → Int} {ps : List Pt} (h : ps.length = 0) : fl f ps 0 (-1) = -1 := by
  unfold fl
  rw [if_pos (by omega), if_pos (by omega)]
theorem impl_ext (ps : List Pt) (x y : Int) (h : Big ps) : Res Try.prog 30 [.row ps.length (.ints (flat ps)), .v (.agg #[iv x, iv y])] (iv (flV (fE (x, y)) ps x y)) := by
  refine bodyX_res mixed E6_ok (m := 30) (n := 12) rfl ?_
  rw [tr_implExtF]
  unfold Big at h
  simp only [List.drop_zero, ptsA_flat, flat_length]
  unfold flV okL
  by_cases hl : ps.length ≤ 20
  · have hl2 : (ps.length : Int) ≤ 20 := by omega
    cases hk : allV ps <;> cases hq : ptB x y <;> simp [Tree.ok, brT, h, hl, hl2]
  · have hl2 : ¬ (ps.length : Int) ≤ 20 := by omega
    simp [Tree.ok, brT, hl, hl2]
def pPP (g : List Pt → Int → Int → Int) : List DArg → Option (Value × List Prop)
  | [.row m (.ints xs), .v (.agg ⟨[.int .i64 x, .int .i64 y]⟩)] => some (iv (g (ptsA m xs) x y), [m * 2 ≤ xs.length, m ≤ 1000000000])
  | _ => none
theorem pPP_ok {f : FuncId} {g : List Pt → Int → Int → Int} (h : ∀ (ps : List Pt) (x y : Int), Big ps → Res Try.prog f [.row ps.length (.ints (flat ps)), .v (.agg #[iv x, iv y])] (iv (g ps x y))) {ds : List DArg} {v : Value} {C : List Prop} (hd : pPP g ds = some (v, C)) (hC : AllP C) : Res Try.prog f ds v := by
  unfold pPP at hd
  split at hd
  · rename_i m xs x y
    obtain ⟨rfl, rfl⟩ : _ ∧ _ := by simpa using hd
    obtain ⟨_, h2⟩ := ptsA_spec hC.1
    exact res_pts1 (pre := []) (post := [_]) hC.1 (h (ptsA m xs) x y (by unfold Big; rw [h2]; exact hC.2.1))
  · cases hd
def extV (ps : List Pt) (x y : Int) : Int := flV (fE (x, y)) ps x y
theorem impl_extV (ps : List Pt) (x y : Int) (h : Big ps) : Res Try.prog 30 [.row ps.length (.ints (flat ps)), .v (.agg #[iv x, iv y])] (iv (extV ps x y)) := impl_ext ps x y h
def T4' : Tab := fun f ds => match f with
  | 30 => pPP extV ds
  | f => T3 f ds
theorem T4'_ok : TabOk Try.prog T4' := by
  intro f ds v C h hC
  unfold T4' at h
  (try split at h)
  all_goals first | with_reducible exact pPP_ok spec_extV h hC | with_reducible exact pPP_ok impl_extV h hC | exact T3_ok _ _ _ _ h hC
def E7 : Env := mkE (T4') (R4) (fun _ => noL)
theorem E7_ok : EnvOk Try.prog E7 := mkEOk (T4'_ok) (R4_ok) (fun _ _ _ => noL_good)
end Go.Proofs.Ytbfoheblcoakiaa
namespace Go.Proofs.Ytbfoheblcoakiaa
set_option linter.all false
open Go.RowKit
theorem ag_lt {f : Pt → Int} {ps : List Pt} : ∀ (n i b : Nat), b < ps.length → i + n ≤ ps.length → ag f ps n i b < ps.length
  | 0, _, _, h, _ => h
  | n + 1, i, b, h, h2 => ag_lt n (i + 1) _ (by split <;> omega) (by omega)
theorem ext_part (ps : List Pt) (x y : Int) : extV ps x y = -1 ∨ (okL ps = true ∧ ptB x y = true ∧ ∃ k : Nat, k < ps.length ∧ extV ps x y = k) := by
  unfold extV flV
  rcases h : (okL ps && ptB x y) with _ | _
  · exact .inl rfl
  · simp only [Bool.and_eq_true] at h
    rcases Nat.eq_zero_or_pos ps.length with h0 | h0
    · exact .inl (fl_nil h0)
    · exact .inr ⟨h.1, h.2, _, ag_lt ps.length 0 0 h0 (by omega), fl_ag h0⟩
theorem ok_get {ps : List Pt} (h : okL ps = true) {k : Nat} (hk : k < ps.length) : ptB (ps.getD k (0, 0)).1 (ps.getD k (0, 0)).2 = true ∧ ps.length ≤ 20 := by
  simp only [okL, Bool.and_eq_true, decide_eq_true_eq] at h
  refine ⟨?_, h.2⟩
  have := List.all_eq_true.1 h.1 (ps.getD k (0, 0)) (by simp [hk])
  exact this
/-- What SupportValue answers. -/
def supV (ps : List Pt) (x y : Int) : Int := if extV ps x y < 0 then 0 else fE (x, y) (ps.getD (extV ps x y).toNat (0, 0))
set_option maxRecDepth 100000 in
theorem tr_iSup (ps : List Pt) (x y : Int) : bodyV Try.prog E7 30 12 18 [.row ps.length (.ints (flat ps)), .v (.agg #[iv x, iv y])] = .need (ps.length * (2 : Nat) ≤ (List.drop (0 : Nat) (flat ps)).length) (.need (ps.length ≤ (1000000000 : Nat)) (brT (decide (extV (ptsA ps.length (List.drop 0 (flat ps))) x y < 0)) (.fin (.int .i64 (0)) []) (.need ((0 : Int) ≤ extV (ptsA ps.length (List.drop (0 : Nat) (flat ps))) x y ∧ extV (ptsA ps.length (List.drop (0 : Nat) (flat ps))) x y < (↑ps.length : Int)) (.need ((0 : Nat) + (extV (ptsA ps.length (List.drop (0 : Nat) (flat ps))) x y).toNat * (2 : Nat) + (2 : Nat) ≤ (flat ps).length) (.fin (.int .i64 (IntKind.i64.wrap (IntKind.i64.wrap ((flat ps).getD (0 + (extV (ptsA ps.length (List.drop 0 (flat ps))) x y).toNat * 2) 0 * x) + IntKind.i64.wrap ((flat ps).getD (0 + (extV (ptsA ps.length (List.drop 0 (flat ps))) x y).toNat * 2 + 1) 0 * y)))) []))))) := by kernel_rfl
theorem sup_bd {ps : List Pt} {x y : Int} (h1 : okL ps = true) (h2 : ptB x y = true) {k : Nat} (hk : k < ps.length) : (-(1000 * 1000) ≤ (ps.getD k (0, 0)).1 * x ∧ (ps.getD k (0, 0)).1 * x ≤ 1000 * 1000) ∧ (-(1000 * 1000) ≤ (ps.getD k (0, 0)).2 * y ∧ (ps.getD k (0, 0)).2 * y ≤ 1000 * 1000) := by
  have a1 := ptB_true (ok_get h1 hk).1
  have a2 := ptB_true h2
  exact ⟨mul_bd 1000 1000 (by omega) (by omega), mul_bd 1000 1000 (by omega) (by omega)⟩
theorem res_iSup (ps : List Pt) (x y : Int) (h : Big ps) : Res Try.prog 18 [.row ps.length (.ints (flat ps)), .v (.agg #[iv x, iv y])] (iv (supV ps x y)) := by
  refine bodyV_res mixed E7_ok (m := 30) (n := 12) rfl ?_
  rw [tr_iSup]
  unfold Big at h
  simp only [List.drop_zero, ptsA_flat, flat_length]
  unfold supV
  rcases ext_part ps x y with e | ⟨h1, h2, k, hk, e⟩
  · rw [e]
    simp [brT, Tree.ok, h]
  · obtain ⟨b1, b2⟩ := sup_bd h1 h2 hk
    have hn : ¬ (k : Int) < 0 := by omega
    rw [e, if_neg hn, decide_eq_false hn]
    simp only [Int.toNat_natCast, Nat.zero_add, Nat.add_zero, flat_get0, flat_get1, brT_f]
    simp (disch := omega) only [wr]
    simp only [Tree.ok]
    repeat' (first | exact True.intro | exact rfl | assumption | omega | refine And.intro ?_ ?_)
end Go.Proofs.Ytbfoheblcoakiaa
namespace Go.Proofs.Ytbfoheblcoakiaa
set_option linter.all false
open Go.RowKit
def TSm : Tab := fun f ds => match f with
  | 18 => pPP supV ds
  | f => TEp f ds
theorem TSm_ok : TabOk Try.prog TSm := by
  intro f ds v C h hC
  unfold TSm at h
  (try split at h)
  all_goals first | with_reducible exact pPP_ok res_iSup h hC | exact TEp_ok _ _ _ _ h hC
end Go.Proofs.Ytbfoheblcoakiaa
namespace Go.Proofs.Ytbfoheblcoakiaa
set_option linter.all false
open Go.RowKit
def pHm : List DArg → Option (Value × List Prop)
  | [.row m (.ints xs), .row n (.ints ys)] => some (.bool (hmB (ptsA m xs) (ptsA n ys)), [m * 2 ≤ xs.length, n * 2 ≤ ys.length, m ≤ 1000000000, n ≤ 100000, fitL (ptsA n ys)])
  | _ => none
theorem pHms_ok {ds : List DArg} {v : Value} {C : List Prop} (h : pHm ds = some (v, C)) (hC : AllP C) : Res Try.prog 23 ds v := by
  unfold pHm at h
  split at h
  · rename_i m xs n ys
    obtain ⟨rfl, rfl⟩ : _ ∧ _ := by simpa using h
    obtain ⟨_, h2⟩ := ptsA_spec hC.1
    obtain ⟨_, h3⟩ := ptsA_spec hC.2.1
    have h4 : n ≤ 100000 := hC.2.2.2.1
    exact res_pts1 (pre := []) (post := [_]) hC.1 (res_pts1 (pre := [_]) (post := []) hC.2.1 (res_sHm (ptsA m xs) (ptsA n ys) (by unfold Big; rw [h2]; exact hC.2.2.1) (by unfold Big; rw [h3]; omega)))
  · cases h
theorem pHmi_ok {ds : List DArg} {v : Value} {C : List Prop} (h : pHm ds = some (v, C)) (hC : AllP C) : Res Try.prog 25 ds v := by
  unfold pHm at h
  split at h
  · rename_i m xs n ys
    obtain ⟨rfl, rfl⟩ : _ ∧ _ := by simpa using h
    obtain ⟨_, h2⟩ := ptsA_spec hC.1
    obtain ⟨_, h3⟩ := ptsA_spec hC.2.1
    exact res_pts1 (pre := []) (post := [_]) hC.1 (res_pts1 (pre := [_]) (post := []) hC.2.1 (res_iHm (ptsA m xs) (ptsA n ys) (by unfold Big; rw [h2]; exact hC.2.2.1) (by rw [h3]; exact hC.2.2.2.1) hC.2.2.2.2.1))
  · cases h
def T2hm : TabR2 := fun ds => match ds with
  | [.row n (.bytes bs)] => some ([.slice (some ⟨0, 0, none⟩) (apsL bs (rdL n) 0 5).length (apsL bs (rdL n) 0 5).length, .slice (some ⟨1, 0, none⟩) (dmQ bs (rdL n)).length (dmQ bs (rdL n)).length], ⟨.row 32 2, .ints (flat (apsL bs (rdL n) 0 5))⟩, ⟨.row 32 2, .ints (flat (dmQ bs (rdL n)))⟩, [Bytes bs, n ≤ bs.length])
  | _ => none
theorem T2hm_ok : TabR2Ok Try.prog 27 T2hm := by
  intro ds vs b0 b1 C h hC
  unfold T2hm at h
  split at h
  · obtain ⟨rfl, rfl, rfl, rfl⟩ : _ ∧ _ ∧ _ ∧ _ := by simpa using h
    exact resR_dHm _ _ hC.1 hC.2.1
  · cases h
def JDh : TabJ := consR 27 (r2G T2hm) noJ
theorem JDh_ok : GSound Try.prog JDh.g := consR2_ok (failG_sound _) (entersB_res (by kernel_rfl)).1 T2hm_ok
theorem x_ext (ps : List Pt) (x y : Int) (h : Big ps) : Res Try.prog 30 [.row ps.length (.ints (flat ps)), .v (.agg #[iv x, iv y])] (iv (extV ps x y)) := impl_ext ps x y h
def THq : Tab := fun f ds => match f with
  | 23 => pHm ds
  | 25 => pHm ds
  | 30 => pPP extV ds
  | f => TSm f ds
theorem THq_ok : TabOk Try.prog THq := by
  intro f ds v C h hC
  unfold THq at h
  split at h
  all_goals first | with_reducible exact pHms_ok h hC | with_reducible exact pHmi_ok h hC | with_reducible exact pPP_ok x_ext h hC | exact TSm_ok _ _ _ _ h hC
end Go.Proofs.Ytbfoheblcoakiaa
namespace Go.Proofs.Ytbfoheblcoakiaa
set_option linter.all false
open Go.RowKit
/-- The point at j is not near. -/
def nrQ (ps : List Pt) (j : Nat) : Bool := decide ((ps.getD j (0, 0)).1 ≤ 900) && decide (-900 ≤ (ps.getD j (0, 0)).1) && decide ((ps.getD j (0, 0)).2 ≤ 900) && decide (-900 ≤ (ps.getD j (0, 0)).2)
noncomputable def c_near : Code := ((loopsOf (codeOf Try.f19))[0]?).getD .skip
def k_near : Ex → List Nat := keeps [0, 3] [(0, [])] [2]
def s_near (ps : List Pt) : Nat → St := fun i => ⟨(.slice (some ⟨0, 0, none⟩) ps.length ps.length :: topV :: topV :: .int .i64 i :: topV :: topV :: topV :: topV :: topV :: topV :: topV :: topV :: topV :: topV :: topV :: topV :: topV :: topV :: topV :: topV :: topV :: topV :: topV :: topV :: topV :: topV :: topV :: topV :: topV :: topV :: topV :: topV :: topV :: topV :: topV :: topV :: topV :: topV :: topV :: topV :: []), [some ⟨.view, .ints (flat ps)⟩]⟩
def re_near (ps : List Pt) : Nat → Ex := fun i => bif allQ (nrQ ps) i (ps.length - i) then .exit 0 else .ret
def rs_near (ps : List Pt) : Nat → St := fun i => bif allQ (nrQ ps) i (ps.length - i) then ⟨(topV :: topV :: topV :: topV :: topV :: topV :: topV :: topV :: topV :: topV :: topV :: topV :: topV :: topV :: topV :: topV :: topV :: topV :: topV :: topV :: topV :: topV :: topV :: topV :: topV :: topV :: topV :: topV :: topV :: topV :: topV :: topV :: topV :: topV :: topV :: topV :: topV :: topV :: topV :: topV :: []), [some ⟨.view, .ints (flat ps)⟩]⟩ else ⟨(topV :: topV :: .bool false :: topV :: topV :: topV :: topV :: topV :: topV :: topV :: topV :: topV :: topV :: topV :: topV :: topV :: topV :: topV :: topV :: topV :: topV :: topV :: topV :: topV :: topV :: topV :: topV :: topV :: topV :: topV :: topV :: topV :: topV :: topV :: topV :: topV :: topV :: topV :: topV :: topV :: []), [some ⟨.view, .ints (flat ps)⟩]⟩
set_option maxRecDepth 100000 in
theorem tr_near (ps : List Pt) (i : Nat) : bodyL Try.prog EM 30 12 noL 1 c_near k_near 1 (s_near ps i) = brT (decide ((↑i : Int) < (↑ps.length : Int))) (.need ((0 : Int) ≤ (↑i : Int) ∧ (↑i : Int) < (↑ps.length : Int)) (.need ((0 : Nat) + (↑i : Int).toNat * (2 : Nat) + (0 : Nat) < (flat ps).length) (brT (decide (900 < (flat ps).getD (0 + (↑i : Int).toNat * 2 + 0) 0)) (.leaf .ret ⟨(topV :: topV :: .bool (false) :: topV :: topV :: topV :: topV :: topV :: topV :: topV :: topV :: topV :: topV :: topV :: topV :: topV :: topV :: topV :: topV :: topV :: topV :: topV :: topV :: topV :: topV :: topV :: topV :: topV :: topV :: topV :: topV :: topV :: topV :: topV :: topV :: topV :: topV :: topV :: topV :: topV :: []), [some ⟨.view, .ints (flat ps)⟩]⟩) (.need ((0 : Int) ≤ (↑i : Int) ∧ (↑i : Int) < (↑ps.length : Int)) (.need ((0 : Nat) + (↑i : Int).toNat * (2 : Nat) + (0 : Nat) < (flat ps).length) (brT (decide ((flat ps).getD (0 + (↑i : Int).toNat * 2 + 0) 0 < -900)) (.leaf .ret ⟨(topV :: topV :: .bool (false) :: topV :: topV :: topV :: topV :: topV :: topV :: topV :: topV :: topV :: topV :: topV :: topV :: topV :: topV :: topV :: topV :: topV :: topV :: topV :: topV :: topV :: topV :: topV :: topV :: topV :: topV :: topV :: topV :: topV :: topV :: topV :: topV :: topV :: topV :: topV :: topV :: topV :: []), [some ⟨.view, .ints (flat ps)⟩]⟩) (.need ((0 : Int) ≤ (↑i : Int) ∧ (↑i : Int) < (↑ps.length : Int)) (.need ((0 : Nat) + (↑i : Int).toNat * (2 : Nat) + (1 : Nat) < (flat ps).length) (brT (decide (900 < (flat ps).getD (0 + (↑i : Int).toNat * 2 + 1) 0)) (.leaf .ret ⟨(topV :: topV :: .bool (false) :: topV :: topV :: topV :: topV :: topV :: topV :: topV :: topV :: topV :: topV :: topV :: topV :: topV :: topV :: topV :: topV :: topV :: topV :: topV :: topV :: topV :: topV :: topV :: topV :: topV :: topV :: topV :: topV :: topV :: topV :: topV :: topV :: topV :: topV :: topV :: topV :: topV :: []), [some ⟨.view, .ints (flat ps)⟩]⟩) (.need ((0 : Int) ≤ (↑i : Int) ∧ (↑i : Int) < (↑ps.length : Int)) (.need ((0 : Nat) + (↑i : Int).toNat * (2 : Nat) + (1 : Nat) < (flat ps).length) (brT (decide ((flat ps).getD (0 + (↑i : Int).toNat * 2 + 1) 0 < -900)) (.leaf .ret ⟨(topV :: topV :: .bool (false) :: topV :: topV :: topV :: topV :: topV :: topV :: topV :: topV :: topV :: topV :: topV :: topV :: topV :: topV :: topV :: topV :: topV :: topV :: topV :: topV :: topV :: topV :: topV :: topV :: topV :: topV :: topV :: topV :: topV :: topV :: topV :: topV :: topV :: topV :: topV :: topV :: topV :: []), [some ⟨.view, .ints (flat ps)⟩]⟩) (.leaf .normal ⟨(.slice (some ⟨0, 0, none⟩) (ps.length) (ps.length) :: topV :: topV :: .int .i64 (IntKind.i64.wrap ((↑i : Int) + 1)) :: topV :: topV :: topV :: topV :: topV :: topV :: topV :: topV :: topV :: topV :: topV :: topV :: topV :: topV :: topV :: topV :: topV :: topV :: topV :: topV :: topV :: topV :: topV :: topV :: topV :: topV :: topV :: topV :: topV :: topV :: topV :: topV :: topV :: topV :: topV :: topV :: []), [some ⟨.view, .ints (flat ps)⟩]⟩))))))))))))) (.leaf (.exit 0) ⟨(topV :: topV :: topV :: topV :: topV :: topV :: topV :: topV :: topV :: topV :: topV :: topV :: topV :: topV :: topV :: topV :: topV :: topV :: topV :: topV :: topV :: topV :: topV :: topV :: topV :: topV :: topV :: topV :: topV :: topV :: topV :: topV :: topV :: topV :: topV :: topV :: topV :: topV :: topV :: topV :: []), [some ⟨.view, .ints (flat ps)⟩]⟩) := by kernel_rfl
set_option maxRecDepth 100000 in
theorem nl_near : loopsOf c_near = [] := by kernel_rfl
def inv_near (ps : List Pt) : Nat → Prop := fun i => i ≤ ps.length
def me_near (ps : List Pt) : Nat → Nat := fun i => ps.length - i
/-- A round of this loop. -/
def Round_near (ps : List Pt) : Prop := ∀ xx : Nat, inv_near ps xx → (bodyL Try.prog EM 30 12 noL 1 c_near k_near 1 (s_near ps xx)).ok (RoundEnd 1 (s_near ps) (inv_near ps) (me_near ps) (re_near ps) (rs_near ps) xx) (fun _ _ => False)
def e_near (s : St) (k : Ex → St → Tree) : Option Tree := match Nat.beq s.tmps.length 40, pickL s.tmps [0, 3], s.mem with
  | true, [.slice (some ⟨0, 0, none⟩) n _, .int .i64 i], [some ⟨.view, .ints xs⟩] => some (needs [i = 0, xs.length = n * 2, n ≤ 1000000000] (brT (allQ (nrQ (ptsA n xs)) 0 n) (k (.exit 0) ⟨(topV :: topV :: topV :: topV :: topV :: topV :: topV :: topV :: topV :: topV :: topV :: topV :: topV :: topV :: topV :: topV :: topV :: topV :: topV :: topV :: topV :: topV :: topV :: topV :: topV :: topV :: topV :: topV :: topV :: topV :: topV :: topV :: topV :: topV :: topV :: topV :: topV :: topV :: topV :: topV :: []), [some ⟨.view, .ints xs⟩]⟩) (k .ret ⟨(topV :: topV :: .bool false :: topV :: topV :: topV :: topV :: topV :: topV :: topV :: topV :: topV :: topV :: topV :: topV :: topV :: topV :: topV :: topV :: topV :: topV :: topV :: topV :: topV :: topV :: topV :: topV :: topV :: topV :: topV :: topV :: topV :: topV :: topV :: topV :: topV :: topV :: topV :: topV :: topV :: []), [some ⟨.view, .ints xs⟩]⟩)))
  | _, _, _ => none
set_option maxRecDepth 100000 in
theorem round_near (ps : List Pt) (h : ps.length ≤ 1000000000) : Round_near ps := by
  intro i h1
  have h1 : i ≤ ps.length := h1
  rw [tr_near]
  have w9 : IntKind.i64.wrap (0 - 900) = -900 := by decide
  simp only [brT_ok, Tree.ok, decide_eq_true_eq, decide_eq_false_iff_not, Int.toNat_natCast, Nat.zero_add, Nat.add_zero, flat_length, flat_get0, flat_get1, w9]
  refine ⟨fun hlt => ⟨by omega, by omega, fun g1 => ?_, fun g1 => ⟨by omega, by omega, fun g2 => ?_, fun g2 => ⟨by omega, by omega, fun g3 => ?_, fun g3 => ⟨by omega, by omega, fun g4 => ?_, fun g4 => ?_⟩⟩⟩⟩, fun hge => ?_⟩
  · have e : allQ (nrQ ps) i (ps.length - i) = false := by
      rw [allQ_step (by omega)]
      have : nrQ ps i = false := by
        rw [Bool.eq_false_iff]
        intro hh
        simp only [nrQ, Bool.and_eq_true, decide_eq_true_eq] at hh
        omega
      rw [this, Bool.false_and]
    refine ⟨by simp only [re_near, e, cond_false], [], ?_⟩
    simp only [rs_near, e, cond_false]
    repeat' (first | exact True.intro | exact rfl | exact fun _ => rfl | refine And.intro ?_ ?_)
  · have e : allQ (nrQ ps) i (ps.length - i) = false := by
      rw [allQ_step (by omega)]
      have : nrQ ps i = false := by
        rw [Bool.eq_false_iff]
        intro hh
        simp only [nrQ, Bool.and_eq_true, decide_eq_true_eq] at hh
        omega
      rw [this, Bool.false_and]
    refine ⟨by simp only [re_near, e, cond_false], [], ?_⟩
    simp only [rs_near, e, cond_false]
    repeat' (first | exact True.intro | exact rfl | exact fun _ => rfl | refine And.intro ?_ ?_)
  · have e : allQ (nrQ ps) i (ps.length - i) = false := by
      rw [allQ_step (by omega)]
      have : nrQ ps i = false := by
        rw [Bool.eq_false_iff]
        intro hh
        simp only [nrQ, Bool.and_eq_true, decide_eq_true_eq] at hh
        omega
      rw [this, Bool.false_and]
    refine ⟨by simp only [re_near, e, cond_false], [], ?_⟩
    simp only [rs_near, e, cond_false]
    repeat' (first | exact True.intro | exact rfl | exact fun _ => rfl | refine And.intro ?_ ?_)
  · have e : allQ (nrQ ps) i (ps.length - i) = false := by
      rw [allQ_step (by omega)]
      have : nrQ ps i = false := by
        rw [Bool.eq_false_iff]
        intro hh
        simp only [nrQ, Bool.and_eq_true, decide_eq_true_eq] at hh
        omega
      rw [this, Bool.false_and]
    refine ⟨by simp only [re_near, e, cond_false], [], ?_⟩
    simp only [rs_near, e, cond_false]
    repeat' (first | exact True.intro | exact rfl | exact fun _ => rfl | refine And.intro ?_ ?_)
  · have e : allQ (nrQ ps) i (ps.length - i) = allQ (nrQ ps) (i + 1) (ps.length - (i + 1)) := by
      rw [allQ_step (by omega)]
      have : nrQ ps i = true := by
        simp only [nrQ, Bool.and_eq_true, decide_eq_true_eq]
        omega
      rw [this, Bool.true_and]
    rw [wsucc (n := ps.length) (by omega) h]
    refine ⟨i + 1, [], ?_, ?_, by simp only [re_near, e], by simp only [rs_near, e], ?_⟩
    · show i + 1 ≤ ps.length; omega
    · show ps.length - (i + 1) < ps.length - i; omega
    · repeat' (first | exact True.intro | exact rfl | exact fun _ => rfl | refine And.intro ?_ ?_)
  · have e : allQ (nrQ ps) i (ps.length - i) = true := allQ_end (by omega)
    refine ⟨by simp only [re_near, e, cond_true], [], ?_⟩
    simp only [rs_near, e, cond_true]
    repeat' (first | exact True.intro | exact rfl | exact fun _ => rfl | refine And.intro ?_ ?_)
set_option maxRecDepth 100000 in
theorem lg_near : LoopE Try.prog e_near c_near := by
  intro s k t F H hlt ht
  unfold e_near at hlt
  split at hlt
  rotate_left
  · cases hlt
  rename_i hlen hpick hmem
  obtain ⟨tmps, mem⟩ := s
  simp only at hlen hpick hmem
  subst hmem
  obtain rfl := Option.some.inj hlt
  obtain ⟨⟨rfl, h1, h2, _⟩, ht2⟩ := needs_ok ht
  clear ht hlt
  obtain ⟨ps, rfl, rfl⟩ := even_flat h1
  rw [ptsA_flat] at ht2
  refine ⟨_, _, pick2k ht2, loop_run mixed EM_ok (s_near ps) (inv_near ps) (me_near ps) (re_near ps) (rs_near ps) k_near (fun _ => rfl) (noLoops nl_near) (round_near ps h2) (x := 0) (Nat.zero_le _) (π := []) rfl ?_⟩
  refine ⟨rfl, rfl, ?_, wvs_spread' [0, 3] hlen rfl ?_⟩
  · repeat' (first | exact True.intro | exact rfl | exact wv_top _ _ | exact fun _ => rfl | assumption | exact Eq.symm (by assumption) | exact vI0 rfl | refine And.intro ?_ ?_)
  · rw [hpick]
    repeat' (first | exact True.intro | exact rfl | exact wv_top _ _ | exact fun _ => rfl | assumption | exact Eq.symm (by assumption) | exact vI0 rfl | refine And.intro ?_ ?_)
theorem Lr_near {fn : Func} (hf : Try.prog.funcs[19]? = some fn) : LoopsGood Try.prog (lt1 e_near) 0 (codeOf fn) := by
  obtain rfl := fn_is Try.func19 hf
  exact lt1_good lg_near
def LNr : FuncId → LT := fun f => match f with
  | 19 => lt1 e_near
  | _ => noL
def ENr : Env := mkE B0 (fun _ _ => none) LNr
theorem ENr_ok : EnvOk Try.prog ENr := mkEOk B0_ok (fun _ _ _ _ _ h => (by cases h)) (by
  intro f fn hf
  unfold LNr
  split
  all_goals first | with_reducible exact Lr_near hf | exact noL_good)
set_option maxRecDepth 100000 in
theorem tr_nearF (ps : List Pt) : bodyV Try.prog ENr 30 12 19 [.row ps.length (.ints (flat ps))] = .need ((0 : Int) = (0 : Int)) (.need ((flat ps).length = ps.length * (2 : Nat)) (.need (ps.length ≤ (1000000000 : Nat)) (brT (allQ (nrQ (ptsA ps.length (flat ps))) 0 ps.length) (.fin (.bool (true)) []) (.fin (.bool (false)) [])))) := by kernel_rfl
theorem res_near (ps : List Pt) (h : Big ps) : Res Try.prog 19 [.row ps.length (.ints (flat ps))] (.bool (allQ (nrQ ps) 0 ps.length)) := by
  refine bodyV_res mixed ENr_ok (m := 30) (n := 12) rfl ?_
  rw [tr_nearF]
  unfold Big at h
  simp only [ptsA_flat]
  rcases hq : allQ (nrQ ps) 0 ps.length with _ | _
  all_goals exact ⟨trivial, flat_length ps, h, rfl⟩
def pNr : List DArg → Option (Value × List Prop)
  | [.row m (.ints xs)] => some (.bool (allQ (nrQ (ptsA m xs)) 0 m), [m * 2 ≤ xs.length, m ≤ 1000000000])
  | _ => none
theorem pNr_ok {ds : List DArg} {v : Value} {C : List Prop} (h : pNr ds = some (v, C)) (hC : AllP C) : Res Try.prog 19 ds v := by
  unfold pNr at h
  split at h
  · rename_i m xs
    obtain ⟨rfl, rfl⟩ : _ ∧ _ := by simpa using h
    obtain ⟨_, h2⟩ := ptsA_spec hC.1
    have h0 := res_near (ptsA m xs) (by unfold Big; rw [h2]; exact hC.2.1)
    have h7 := res_pts1 (pre := []) (post := []) hC.1 h0
    rw [h2] at h7
    exact h7
  · cases h
end Go.Proofs.Ytbfoheblcoakiaa
namespace Go.Proofs.Ytbfoheblcoakiaa
set_option linter.all false
open Go.RowKit
/-- The point at j is another. -/
def npQ (ps : List Pt) (x y : Int) (j : Nat) : Bool := !((ps.getD j (0, 0)).1 == x && (ps.getD j (0, 0)).2 == y)
noncomputable def c_hsp : Code := ((loopsOf (codeOf Try.f28))[0]?).getD .skip
def k_hsp : Ex → List Nat := keeps [0, 3, 5] [(0, [])] [4]
def s_hsp (ps : List Pt) (x y : Int) : Nat → St := fun i => ⟨[.slice (some ⟨0, 0, none⟩) ps.length ps.length, topV, topV, .pointer (some ⟨2, 0, none⟩), topV, .int .i64 i, topV, topV, topV, topV, topV, topV, topV, topV, topV, topV, topV, topV], [some ⟨.view, .ints (flat ps)⟩, none, some ⟨.box, .vals [.int .i64 x, .int .i64 y]⟩]⟩
def re_hsp (ps : List Pt) (x y : Int) : Nat → Ex := fun i => bif allQ (npQ ps x y) i (ps.length - i) then .exit 0 else .ret
def rs_hsp (ps : List Pt) (x y : Int) : Nat → St := fun i => bif allQ (npQ ps x y) i (ps.length - i) then ⟨[topV, topV, topV, topV, topV, topV, topV, topV, topV, topV, topV, topV, topV, topV, topV, topV, topV, topV], [some ⟨.view, .ints (flat ps)⟩, none, some ⟨.box, .vals [.int .i64 x, .int .i64 y]⟩]⟩ else ⟨[topV, topV, topV, topV, .bool true, topV, topV, topV, topV, topV, topV, topV, topV, topV, topV, topV, topV, topV], [some ⟨.view, .ints (flat ps)⟩, none, some ⟨.box, .vals [.int .i64 x, .int .i64 y]⟩]⟩
set_option maxRecDepth 100000 in
theorem tr_hsp (ps : List Pt) (x y : Int) (i : Nat) : bodyL Try.prog EM 30 12 noL 1 c_hsp k_hsp 3 (s_hsp ps x y i) = brT (decide ((↑i : Int) < (↑ps.length : Int))) (.need ((0 : Int) ≤ (↑i : Int) ∧ (↑i : Int) < (↑ps.length : Int)) (.need ((0 : Nat) + (↑i : Int).toNat * (2 : Nat) + (2 : Nat) ≤ (flat ps).length) (brT (negB false ((flat ps).getD (0 + (↑i : Int).toNat * 2) 0 == x && ((flat ps).getD (0 + (↑i : Int).toNat * 2 + 1) 0 == y && true))) (.leaf .ret ⟨[topV, topV, topV, topV, .bool (true), topV, topV, topV, topV, topV, topV, topV, topV, topV, topV, topV, topV, topV], [some ⟨.view, .ints (flat ps)⟩, none, some ⟨.box, .vals [.int .i64 (x), .int .i64 (y)]⟩]⟩) (.leaf .normal ⟨[.slice (some ⟨0, 0, none⟩) (ps.length) (ps.length), topV, topV, .pointer (some ⟨2, 0, none⟩), topV, .int .i64 (IntKind.i64.wrap ((↑i : Int) + 1)), topV, topV, topV, topV, topV, topV, topV, topV, topV, topV, topV, topV], [some ⟨.view, .ints (flat ps)⟩, none, some ⟨.box, .vals [.int .i64 (x), .int .i64 (y)]⟩]⟩)))) (.leaf (.exit 0) ⟨[topV, topV, topV, topV, topV, topV, topV, topV, topV, topV, topV, topV, topV, topV, topV, topV, topV, topV], [some ⟨.view, .ints (flat ps)⟩, none, some ⟨.box, .vals [.int .i64 (x), .int .i64 (y)]⟩]⟩) := by kernel_rfl
set_option maxRecDepth 100000 in
theorem nl_hsp : loopsOf c_hsp = [] := by kernel_rfl
def inv_hsp (ps : List Pt) (x y : Int) : Nat → Prop := fun i => i ≤ ps.length
def me_hsp (ps : List Pt) (x y : Int) : Nat → Nat := fun i => ps.length - i
/-- A round of this loop. -/
def Round_hsp (ps : List Pt) (x y : Int) : Prop := ∀ xx : Nat, inv_hsp ps x y xx → (bodyL Try.prog EM 30 12 noL 1 c_hsp k_hsp 3 (s_hsp ps x y xx)).ok (RoundEnd 3 (s_hsp ps x y) (inv_hsp ps x y) (me_hsp ps x y) (re_hsp ps x y) (rs_hsp ps x y) xx) (fun _ _ => False)
def e_hsp (s : St) (k : Ex → St → Tree) : Option Tree := match Nat.beq s.tmps.length 18, pickL s.tmps [0, 3, 5], s.mem with
  | true, [.slice (some ⟨0, 0, none⟩) n _, .pointer (some ⟨2, 0, none⟩), .int .i64 i], [some ⟨.view, .ints xs⟩, none, some ⟨.box, .vals [.int .i64 x, .int .i64 y]⟩] => some (needs [i = 0, xs.length = n * 2, n ≤ 1000000000] (brT (allQ (npQ (ptsA n xs) x y) 0 n) (k (.exit 0) ⟨[topV, topV, topV, topV, topV, topV, topV, topV, topV, topV, topV, topV, topV, topV, topV, topV, topV, topV], [some ⟨.view, .ints xs⟩, none, some ⟨.box, .vals [.int .i64 x, .int .i64 y]⟩]⟩) (k .ret ⟨[topV, topV, topV, topV, .bool true, topV, topV, topV, topV, topV, topV, topV, topV, topV, topV, topV, topV, topV], [some ⟨.view, .ints xs⟩, none, some ⟨.box, .vals [.int .i64 x, .int .i64 y]⟩]⟩)))
  | _, _, _ => none
set_option maxRecDepth 100000 in
theorem round_hsp (ps : List Pt) (x y : Int) (h : ps.length ≤ 1000000000) : Round_hsp ps x y := by
  intro i h1
  have h1 : i ≤ ps.length := h1
  rw [tr_hsp]
  simp only [Int.toNat_natCast, Nat.zero_add, Nat.add_zero, flat_length, flat_get0, flat_get1]
  refine brT_ok.2 ⟨fun hlt => ?_, fun hge => ?_⟩
  · have hlt := of_decide_eq_true hlt
    have hi : i < ps.length := by omega
    have st := allQ_step (P := npQ ps x y) (i := i) (n := ps.length) hi
    have hn : npQ ps x y i = !((ps.getD i (0, 0)).1 == x && (ps.getD i (0, 0)).2 == y) := rfl
    rw [wsucc (n := ps.length) hi h]
    generalize ps.getD i (0, 0) = p at *
    rcases g1 : p.1 == x with _ | _ <;> rcases g2 : p.2 == y with _ | _
    all_goals
      rw [g1, g2] at hn
      rw [hn] at st
      simp only [g1, g2, negT_, negF_, brT_t, brT_f, Bool.not_true, Bool.not_false, Bool.and_true, Bool.and_false, Bool.true_and, Bool.false_and, cond_true, cond_false, Tree.ok] at st ⊢
      repeat (refine And.intro (by omega) ?_)
    iterate 3
      refine ⟨i + 1, [], ?_, ?_, by simp only [re_hsp, st], by simp only [rs_hsp, st], ?_⟩
      · show i + 1 ≤ ps.length; omega
      · show ps.length - (i + 1) < ps.length - i; omega
      · repeat' (first | exact True.intro | exact rfl | exact fun _ => rfl | refine And.intro ?_ ?_)
    refine ⟨by simp only [re_hsp, st, cond_false], [], ?_⟩
    simp only [rs_hsp, st, cond_false]
    repeat' (first | exact True.intro | exact rfl | exact fun _ => rfl | refine And.intro ?_ ?_)
  · have hge := of_decide_eq_false hge
    have e : allQ (npQ ps x y) i (ps.length - i) = true := allQ_end (by omega)
    refine ⟨by simp only [re_hsp, e, cond_true], [], ?_⟩
    simp only [rs_hsp, e, cond_true]
    repeat' (first | exact True.intro | exact rfl | exact fun _ => rfl | refine And.intro ?_ ?_)
set_option maxRecDepth 100000 in
theorem lg_hsp : LoopE Try.prog e_hsp c_hsp := by
  intro s k t F H hlt ht
  unfold e_hsp at hlt
  split at hlt
  rotate_left
  · cases hlt
  rename_i hlen hpick hmem
  obtain ⟨tmps, mem⟩ := s
  simp only at hlen hpick hmem
  subst hmem
  obtain rfl := Option.some.inj hlt
  obtain ⟨⟨rfl, h1, h2, _⟩, ht2⟩ := needs_ok ht
  clear ht hlt
  obtain ⟨ps, rfl, rfl⟩ := even_flat h1
  rw [ptsA_flat] at ht2
  refine ⟨_, _, pick2k ht2, loop_run mixed EM_ok (s_hsp ps _ _) (inv_hsp ps _ _) (me_hsp ps _ _) (re_hsp ps _ _) (rs_hsp ps _ _) k_hsp (fun _ => rfl) (noLoops nl_hsp) (round_hsp ps _ _ h2) (x := 0) (Nat.zero_le _) (π := []) rfl ?_⟩
  refine ⟨rfl, rfl, ?_, wvs_spread' [0, 3, 5] hlen rfl ?_⟩
  · repeat' (first | exact True.intro | exact rfl | exact wv_top _ _ | exact fun _ => rfl | assumption | exact Eq.symm (by assumption) | exact vI0 rfl | refine And.intro ?_ ?_)
  · rw [hpick]
    repeat' (first | exact True.intro | exact rfl | exact wv_top _ _ | exact fun _ => rfl | assumption | exact Eq.symm (by assumption) | exact vI0 rfl | refine And.intro ?_ ?_)
theorem Lr_hsp {fn : Func} (hf : Try.prog.funcs[28]? = some fn) : LoopsGood Try.prog (lt1 e_hsp) 0 (codeOf fn) := by
  obtain rfl := fn_is Try.func28 hf
  exact lt1_good lg_hsp
def LHs : FuncId → LT := fun f => match f with
  | 28 => lt1 e_hsp
  | _ => noL
def EHs : Env := mkE B0 (fun _ _ => none) LHs
theorem EHs_ok : EnvOk Try.prog EHs := mkEOk B0_ok (fun _ _ _ _ _ h => (by cases h)) (by
  intro f fn hf
  unfold LHs
  split
  all_goals first | with_reducible exact Lr_hsp hf | exact noL_good)
set_option maxRecDepth 100000 in
theorem tr_hspF (ps : List Pt) (x y : Int) : bodyV Try.prog EHs 30 12 28 [.row ps.length (.ints (flat ps)), .v (.agg ⟨[.int .i64 x, .int .i64 y]⟩)] = .need ((0 : Int) = (0 : Int)) (.need ((flat ps).length = ps.length * (2 : Nat)) (.need (ps.length ≤ (1000000000 : Nat)) (brT (allQ (npQ (ptsA ps.length (flat ps)) x y) 0 ps.length) (.fin (.bool (false)) []) (.fin (.bool (true)) [])))) := by kernel_rfl
theorem res_hsp (x y : Int) (ps : List Pt) (h : Big ps) : Res Try.prog 28 [.row ps.length (.ints (flat ps)), .v (.agg ⟨[.int .i64 x, .int .i64 y]⟩)] (.bool (!allQ (npQ ps x y) 0 ps.length)) := by
  refine bodyV_res mixed EHs_ok (m := 30) (n := 12) rfl ?_
  rw [tr_hspF]
  unfold Big at h
  simp only [ptsA_flat]
  rcases hq : allQ (npQ ps x y) 0 ps.length with _ | _
  all_goals exact ⟨trivial, flat_length ps, h, rfl⟩
def pHsp : List DArg → Option (Value × List Prop)
  | [.row m (.ints xs), .v (.agg ⟨[.int .i64 x, .int .i64 y]⟩)] => some (.bool (!allQ (npQ (ptsA m xs) x y) 0 m), [m * 2 ≤ xs.length, m ≤ 1000000000])
  | _ => none
theorem pHsp_ok {ds : List DArg} {v : Value} {C : List Prop} (h : pHsp ds = some (v, C)) (hC : AllP C) : Res Try.prog 28 ds v := by
  unfold pHsp at h
  split at h
  · rename_i m xs x y
    obtain ⟨rfl, rfl⟩ : _ ∧ _ := by simpa using h
    obtain ⟨_, h2⟩ := ptsA_spec hC.1
    have h0 := res_hsp x y (ptsA m xs) (by unfold Big; rw [h2]; exact hC.2.1)
    have h7 := res_pts1 (pre := []) (post := [.v (.agg ⟨[.int .i64 x, .int .i64 y]⟩)]) hC.1 h0
    rw [h2] at h7
    exact h7
  · cases h
end Go.Proofs.Ytbfoheblcoakiaa
namespace Go.Proofs.Ytbfoheblcoakiaa
set_option linter.all false
open Go.RowKit
def THr : Tab := fun f ds => match f with
  | 19 => pNr ds
  | 28 => pHsp ds
  | f => THq f ds
theorem THr_ok : TabOk Try.prog THr := by
  intro f ds v C h hC
  unfold THr at h
  split at h
  all_goals first | with_reducible exact pNr_ok h hC | with_reducible exact pHsp_ok h hC | exact THq_ok _ _ _ _ h hC
def ELy0 : Env := ⟨THr, RMk, fun _ => noL, JDh, fun _ => noR⟩
theorem ELy0_ok : EnvOk Try.prog ELy0 := ⟨THr_ok, RMk_ok, fun _ _ _ => noL_good, JDh_ok, fun _ _ _ => noR_good⟩
def cmA (vs us : List Pt) : Bool := us.any fun p => !allQ (npQ vs p.1 p.2) 0 vs.length
theorem cmA_cons (vs : List Pt) (p : Pt) (t : List Pt) : cmA vs (p :: t) = ((!allQ (npQ vs p.1 p.2) 0 vs.length) || cmA vs t) := rfl
noncomputable def c_lhm : Code := ((loopsOf (codeOf Try.f9))[0]?).getD .skip
def k_lhm : Ex → List Nat := keeps [3, 4, 5, 6, 7] [(0, [3, 4, 5, 6])] [2]
def s_lhm (bs : List Int) (us vs : List Pt) (b : Bool) : Nat × Bool → St := fun (i, c) => ⟨(topV :: topV :: topV :: .slice (some ⟨2, 0, none⟩) us.length us.length :: .slice (some ⟨1, 0, none⟩) vs.length vs.length :: .bool b :: .bool c :: .int .i64 i :: topV :: topV :: topV :: topV :: topV :: topV :: topV :: topV :: topV :: topV :: topV :: topV :: topV :: topV :: topV :: topV :: topV :: topV :: topV :: topV :: topV :: topV :: topV :: topV :: topV :: topV :: topV :: topV :: topV :: topV :: topV :: topV :: topV :: topV :: topV :: topV :: topV :: topV :: topV :: topV :: topV :: topV :: topV :: topV :: topV :: topV :: topV :: topV :: topV :: topV :: topV :: topV :: topV :: topV :: topV :: topV :: topV :: topV :: topV :: topV :: topV :: topV :: topV :: topV :: topV :: topV :: topV :: topV :: topV :: topV :: topV :: topV :: topV :: topV :: topV :: topV :: topV :: topV :: topV :: topV :: topV :: topV :: topV :: []), [some ⟨.view, .bytes bs⟩, some ⟨.row 32 2, .ints (flat vs)⟩, some ⟨.row 32 2, .ints (flat us)⟩]⟩
def re_lhm : Nat × Bool → Ex := fun _ => .exit 0
def rs_lhm (bs : List Int) (us vs : List Pt) (b : Bool) : Nat × Bool → St := fun (i, c) => ⟨(topV :: topV :: topV :: .slice (some ⟨2, 0, none⟩) us.length us.length :: .slice (some ⟨1, 0, none⟩) vs.length vs.length :: .bool b :: .bool (cmA vs us) :: topV :: topV :: topV :: topV :: topV :: topV :: topV :: topV :: topV :: topV :: topV :: topV :: topV :: topV :: topV :: topV :: topV :: topV :: topV :: topV :: topV :: topV :: topV :: topV :: topV :: topV :: topV :: topV :: topV :: topV :: topV :: topV :: topV :: topV :: topV :: topV :: topV :: topV :: topV :: topV :: topV :: topV :: topV :: topV :: topV :: topV :: topV :: topV :: topV :: topV :: topV :: topV :: topV :: topV :: topV :: topV :: topV :: topV :: topV :: topV :: topV :: topV :: topV :: topV :: topV :: topV :: topV :: topV :: topV :: topV :: topV :: topV :: topV :: topV :: topV :: topV :: topV :: topV :: topV :: topV :: topV :: topV :: topV :: topV :: []), [some ⟨.view, .bytes bs⟩, some ⟨.row 32 2, .ints (flat vs)⟩, some ⟨.row 32 2, .ints (flat us)⟩]⟩
set_option maxRecDepth 100000 in
theorem tr_lhm (bs : List Int) (us vs : List Pt) (b : Bool) (i : Nat) (c : Bool) : bodyL Try.prog ELy0 30 12 noL 1 c_lhm k_lhm 3 (s_lhm bs us vs b (i, c)) = brT (decide ((↑i : Int) < (↑us.length : Int))) (brT (c) (.leaf .normal ⟨(topV :: topV :: topV :: .slice (some ⟨2, 0, none⟩) (us.length) (us.length) :: .slice (some ⟨1, 0, none⟩) (vs.length) (vs.length) :: .bool (b) :: .bool (true) :: .int .i64 (IntKind.i64.wrap ((↑i : Int) + 1)) :: topV :: topV :: topV :: topV :: topV :: topV :: topV :: topV :: topV :: topV :: topV :: topV :: topV :: topV :: topV :: topV :: topV :: topV :: topV :: topV :: topV :: topV :: topV :: topV :: topV :: topV :: topV :: topV :: topV :: topV :: topV :: topV :: topV :: topV :: topV :: topV :: topV :: topV :: topV :: topV :: topV :: topV :: topV :: topV :: topV :: topV :: topV :: topV :: topV :: topV :: topV :: topV :: topV :: topV :: topV :: topV :: topV :: topV :: topV :: topV :: topV :: topV :: topV :: topV :: topV :: topV :: topV :: topV :: topV :: topV :: topV :: topV :: topV :: topV :: topV :: topV :: topV :: topV :: topV :: topV :: topV :: topV :: topV :: []), [some ⟨.view, .bytes (bs)⟩, some ⟨.row 32 2, .ints (flat vs)⟩, some ⟨.row 32 2, .ints (flat us)⟩]⟩) (.need ((0 : Int) ≤ (↑i : Int) ∧ (↑i : Int) < (↑us.length : Int)) (.need ((0 : Nat) + (↑i : Int).toNat * (2 : Nat) + (2 : Nat) ≤ (flat us).length) (.need (vs.length * (2 : Nat) ≤ (List.drop (0 : Nat) (flat vs)).length) (.need (vs.length ≤ (1000000000 : Nat)) (.leaf .normal ⟨(topV :: topV :: topV :: .slice (some ⟨2, 0, none⟩) (us.length) (us.length) :: .slice (some ⟨1, 0, none⟩) (vs.length) (vs.length) :: .bool (b) :: .bool (!allQ (npQ (ptsA vs.length (List.drop 0 (flat vs))) ((flat us).getD (0 + (↑i : Int).toNat * 2) 0) ((flat us).getD (0 + (↑i : Int).toNat * 2 + 1) 0)) 0 vs.length) :: .int .i64 (IntKind.i64.wrap ((↑i : Int) + 1)) :: topV :: topV :: topV :: topV :: topV :: topV :: topV :: topV :: topV :: topV :: topV :: topV :: topV :: topV :: topV :: topV :: topV :: topV :: topV :: topV :: topV :: topV :: topV :: topV :: topV :: topV :: topV :: topV :: topV :: topV :: topV :: topV :: topV :: topV :: topV :: topV :: topV :: topV :: topV :: topV :: topV :: topV :: topV :: topV :: topV :: topV :: topV :: topV :: topV :: topV :: topV :: topV :: topV :: topV :: topV :: topV :: topV :: topV :: topV :: topV :: topV :: topV :: topV :: topV :: topV :: topV :: topV :: topV :: topV :: topV :: topV :: topV :: topV :: topV :: topV :: topV :: topV :: topV :: topV :: topV :: topV :: topV :: topV :: []), [some ⟨.view, .bytes (bs)⟩, some ⟨.row 32 2, .ints (flat vs)⟩, some ⟨.row 32 2, .ints (flat us)⟩]⟩)))))) (.leaf (.exit 0) ⟨(topV :: topV :: topV :: .slice (some ⟨2, 0, none⟩) (us.length) (us.length) :: .slice (some ⟨1, 0, none⟩) (vs.length) (vs.length) :: .bool (b) :: .bool (c) :: topV :: topV :: topV :: topV :: topV :: topV :: topV :: topV :: topV :: topV :: topV :: topV :: topV :: topV :: topV :: topV :: topV :: topV :: topV :: topV :: topV :: topV :: topV :: topV :: topV :: topV :: topV :: topV :: topV :: topV :: topV :: topV :: topV :: topV :: topV :: topV :: topV :: topV :: topV :: topV :: topV :: topV :: topV :: topV :: topV :: topV :: topV :: topV :: topV :: topV :: topV :: topV :: topV :: topV :: topV :: topV :: topV :: topV :: topV :: topV :: topV :: topV :: topV :: topV :: topV :: topV :: topV :: topV :: topV :: topV :: topV :: topV :: topV :: topV :: topV :: topV :: topV :: topV :: topV :: topV :: topV :: topV :: topV :: topV :: []), [some ⟨.view, .bytes (bs)⟩, some ⟨.row 32 2, .ints (flat vs)⟩, some ⟨.row 32 2, .ints (flat us)⟩]⟩) := by kernel_rfl
set_option maxRecDepth 100000 in
theorem nl_lhm : loopsOf c_lhm = [] := by kernel_rfl
def inv_lhm (bs : List Int) (us vs : List Pt) (b : Bool) : Nat × Bool → Prop := fun (i, c) => i ≤ us.length ∧ (c || cmA vs (us.drop i)) = cmA vs us
def me_lhm (bs : List Int) (us vs : List Pt) (b : Bool) : Nat × Bool → Nat := fun (i, c) => us.length - i
/-- A round of this loop. -/
def Round_lhm (bs : List Int) (us vs : List Pt) (b : Bool) : Prop := ∀ xx : Nat × Bool, inv_lhm bs us vs b xx → (bodyL Try.prog ELy0 30 12 noL 1 c_lhm k_lhm 3 (s_lhm bs us vs b xx)).ok (RoundEnd 3 (s_lhm bs us vs b) (inv_lhm bs us vs b) (me_lhm bs us vs b) re_lhm (rs_lhm bs us vs b) xx) (fun _ _ => False)
def e_lhm (s : St) (k : Ex → St → Tree) : Option Tree := match Nat.beq s.tmps.length 91, pickL s.tmps [3, 4, 5, 6, 7], s.mem with
  | true, [.slice (some ⟨2, 0, none⟩) m _, .slice (some ⟨1, 0, none⟩) q _, .bool b1, .bool c0, .int .i64 i0], [some ⟨.view, .bytes bs⟩, some ⟨.row 32 2, .ints ys⟩, some ⟨.row 32 2, .ints xs⟩] => some (needs [i0 = 0, c0 = false, xs.length = m * 2, ys.length = q * 2, m ≤ 1000000000, q ≤ 1000000000] (k (.exit 0) ⟨(topV :: topV :: topV :: .slice (some ⟨2, 0, none⟩) m m :: .slice (some ⟨1, 0, none⟩) q q :: .bool b1 :: .bool (cmA (ptsA q ys) (ptsA m xs)) :: topV :: topV :: topV :: topV :: topV :: topV :: topV :: topV :: topV :: topV :: topV :: topV :: topV :: topV :: topV :: topV :: topV :: topV :: topV :: topV :: topV :: topV :: topV :: topV :: topV :: topV :: topV :: topV :: topV :: topV :: topV :: topV :: topV :: topV :: topV :: topV :: topV :: topV :: topV :: topV :: topV :: topV :: topV :: topV :: topV :: topV :: topV :: topV :: topV :: topV :: topV :: topV :: topV :: topV :: topV :: topV :: topV :: topV :: topV :: topV :: topV :: topV :: topV :: topV :: topV :: topV :: topV :: topV :: topV :: topV :: topV :: topV :: topV :: topV :: topV :: topV :: topV :: topV :: topV :: topV :: topV :: topV :: topV :: topV :: []), [some ⟨.view, .bytes bs⟩, some ⟨.row 32 2, .ints ys⟩, some ⟨.row 32 2, .ints xs⟩]⟩))
  | _, _, _ => none
set_option maxRecDepth 100000 in
theorem round_lhm (bs : List Int) (us vs : List Pt) (b : Bool) (h : us.length ≤ 1000000000) (h2 : vs.length ≤ 1000000000) : Round_lhm bs us vs b := by
  rintro ⟨i, c⟩ ⟨h1, h3⟩
  have h1 : i ≤ us.length := h1
  rw [tr_lhm]
  simp only [List.drop_zero, ptsA_flat, Int.toNat_natCast, Nat.zero_add, Nat.add_zero, flat_length, flat_get0, flat_get1]
  refine brT_ok.2 ⟨fun hlt => ?_, fun hge => ?_⟩
  · have hi : i < us.length := by have := of_decide_eq_true hlt; omega
    rw [drop_cons hi (0, 0), cmA_cons] at h3
    rw [wsucc hi h]
    rcases c with _ | _
    · simp only [brT_f]
      refine ⟨by omega, by omega, by omega, by omega, (i + 1, !allQ (npQ vs (us.getD i (0, 0)).1 (us.getD i (0, 0)).2) 0 vs.length), [], ⟨hi, ?_⟩, ?_, rfl, rfl, ?_⟩
      · rw [← h3, Bool.false_or]
      · show us.length - (i + 1) < us.length - i; omega
      · repeat' (first | exact True.intro | exact rfl | exact fun _ => rfl | refine And.intro ?_ ?_)
    · simp only [brT_t]
      refine ⟨(i + 1, true), [], ⟨hi, ?_⟩, ?_, rfl, rfl, ?_⟩
      · rw [← h3, Bool.true_or, Bool.true_or]
      · show us.length - (i + 1) < us.length - i; omega
      · repeat' (first | exact True.intro | exact rfl | exact fun _ => rfl | refine And.intro ?_ ?_)
  · have hge := of_decide_eq_false hge
    rw [List.drop_of_length_le (by omega)] at h3
    have h3 : c = cmA vs us := by rw [← h3]; exact (Bool.or_false c).symm
    subst h3
    refine ⟨rfl, [], ?_⟩
    repeat' (first | exact True.intro | exact rfl | exact fun _ => rfl | refine And.intro ?_ ?_)
set_option maxRecDepth 100000 in
theorem lg_lhm : LoopE Try.prog e_lhm c_lhm := by
  intro s k t F H hlt ht
  unfold e_lhm at hlt
  split at hlt
  rotate_left
  · cases hlt
  rename_i hlen hpick hmem
  obtain ⟨tmps, mem⟩ := s
  simp only at hlen hpick hmem
  subst hmem
  obtain rfl := Option.some.inj hlt
  obtain ⟨⟨rfl, rfl, h1, g1, h2, g2, _⟩, ht2⟩ := needs_ok ht
  clear ht hlt
  obtain ⟨us, rfl, rfl⟩ := even_flat h1
  obtain ⟨vs, rfl, rfl⟩ := even_flat g1
  simp only [ptsA_flat] at ht2
  refine ⟨_, _, ht2, loop_run mixed ELy0_ok (s_lhm _ _ _ _) (inv_lhm _ _ _ _) (me_lhm _ _ _ _) re_lhm (rs_lhm _ _ _ _) k_lhm (fun _ => rfl) (noLoops nl_lhm) (round_lhm _ _ _ _ h2 g2) (x := (0, false)) ⟨Nat.zero_le _, rfl⟩ (π := []) rfl ?_⟩
  refine ⟨rfl, rfl, ?_, wvs_spread' [3, 4, 5, 6, 7] hlen rfl ?_⟩
  · repeat' (first | exact True.intro | exact rfl | exact wv_top _ _ | exact fun _ => rfl | assumption | exact Eq.symm (by assumption) | exact vI0 rfl | refine And.intro ?_ ?_)
  · rw [hpick]
    repeat' (first | exact True.intro | exact rfl | exact wv_top _ _ | exact fun _ => rfl | assumption | exact Eq.symm (by assumption) | exact vI0 rfl | refine And.intro ?_ ?_)
theorem Lr_lhm {fn : Func} (hf : Try.prog.funcs[9]? = some fn) : LoopsGood Try.prog (lt1 e_lhm) 0 (codeOf fn) := by
  obtain rfl := fn_is Try.func9 hf
  exact lt1_good lg_lhm
def LLy : FuncId → LT := fun f => match f with
  | 9 => lt1 e_lhm
  | _ => noL
def ELy : Env := ⟨THr, RMk, LLy, JDh, fun _ => noR⟩
theorem ELy_ok : EnvOk Try.prog ELy := ⟨THr_ok, RMk_ok, (by
  intro f fn hf
  show LoopsGood Try.prog (LLy f) 0 (codeOf fn)
  unfold LLy
  split
  all_goals first | with_reducible exact Lr_lhm hf | exact noL_good), JDh_ok, fun _ _ _ => noR_good⟩
abbrev zlHm_0 (bs : List Int) := (apsL (List.drop (0 : Nat) bs) (rdL bs.length) (0 : Int) (5 : Int))
abbrev zlHm_1 (bs : List Int) := (hmB (ptsA (apsL (List.drop 0 bs) (rdL bs.length) 0 5).length (List.drop 0 (flat (apsL (List.drop 0 bs) (rdL bs.length) 0 5)))) (ptsA (dmQ (List.drop 0 bs) (rdL bs.length)).length (List.drop 0 (flat (dmQ (List.drop 0 bs) (rdL bs.length))))) == hmB (ptsA (apsL (List.drop 0 bs) (rdL bs.length) 0 5).length (List.drop 0 (flat (apsL (List.drop 0 bs) (rdL bs.length) 0 5)))) (ptsA (dmQ (List.drop 0 bs) (rdL bs.length)).length (List.drop 0 (flat (dmQ (List.drop 0 bs) (rdL bs.length))))))
abbrev zlHm_2 (bs : List Int) := (dmQ (List.drop (0 : Nat) bs) (rdL bs.length))
abbrev zlHm_3 (bs : List Int) := (ptsA (apsL (List.drop 0 bs) (rdL bs.length) 0 5).length (List.drop 0 (flat (apsL (List.drop 0 bs) (rdL bs.length) 0 5))))
abbrev zlHm_4 (bs : List Int) := (List.drop (0 : Nat) (flat (zlHm_2 bs)))
abbrev zlHm_5 (bs : List Int) := (ptsA (dmQ (List.drop 0 bs) (rdL bs.length)).length (List.drop 0 (flat (dmQ (List.drop 0 bs) (rdL bs.length)))))
abbrev zlHm_6 (bs : List Int) := (List.drop (0 : Nat) (flat (zlHm_0 bs)))
set_option maxRecDepth 100000 in
theorem tr_lHm (bs : List Int) : bodyP Try.prog ELy 30 12 9 [.row bs.length (.bytes bs)] = brT (decide (1048576 < (↑bs.length : Int))) (.fin (.bool (true)) []) (.need (Bytes (List.drop (0 : Nat) bs)) (.need (bs.length ≤ (List.drop (0 : Nat) bs).length) (.need ((zlHm_0 bs).length * (2 : Nat) ≤ (zlHm_6 bs).length) (.need ((zlHm_2 bs).length * (2 : Nat) ≤ (zlHm_4 bs).length) (.need ((zlHm_0 bs).length ≤ (1000000000 : Nat)) (.need ((zlHm_2 bs).length ≤ (100000 : Nat)) (.need (fitL (ptsA (zlHm_2 bs).length (zlHm_4 bs))) (.need ((zlHm_0 bs).length * (2 : Nat) ≤ (zlHm_6 bs).length) (.need ((zlHm_2 bs).length * (2 : Nat) ≤ (zlHm_4 bs).length) (.need ((zlHm_0 bs).length ≤ (1000000000 : Nat)) (.need ((zlHm_2 bs).length ≤ (100000 : Nat)) (.need (fitL (ptsA (zlHm_2 bs).length (zlHm_4 bs))) (brT (!hmB (zlHm_3 bs) (zlHm_5 bs) == hmB (zlHm_3 bs) (zlHm_5 bs)) (.need ((zlHm_0 bs).length * (2 : Nat) ≤ (zlHm_6 bs).length) (.need ((zlHm_2 bs).length * (2 : Nat) ≤ (zlHm_4 bs).length) (.need ((zlHm_0 bs).length ≤ (1000000000 : Nat)) (.need ((zlHm_2 bs).length ≤ (100000 : Nat)) (.need (fitL (ptsA (zlHm_2 bs).length (zlHm_4 bs))) (.fin (.bool (zlHm_1 bs)) [])))))) (brT ((↑(apsL (List.drop 0 bs) (rdL bs.length) 0 5).length : Int) == 0) (.need ((zlHm_0 bs).length * (2 : Nat) ≤ (zlHm_6 bs).length) (.need ((zlHm_2 bs).length * (2 : Nat) ≤ (zlHm_4 bs).length) (.need ((zlHm_0 bs).length ≤ (1000000000 : Nat)) (.need ((zlHm_2 bs).length ≤ (100000 : Nat)) (.need (fitL (ptsA (zlHm_2 bs).length (zlHm_4 bs))) (.fin (.bool (zlHm_1 bs)) [])))))) (brT ((↑(dmQ (List.drop 0 bs) (rdL bs.length)).length : Int) == 0) (.need ((zlHm_0 bs).length * (2 : Nat) ≤ (zlHm_6 bs).length) (.need ((zlHm_2 bs).length * (2 : Nat) ≤ (zlHm_4 bs).length) (.need ((zlHm_0 bs).length ≤ (1000000000 : Nat)) (.need ((zlHm_2 bs).length ≤ (100000 : Nat)) (.need (fitL (ptsA (zlHm_2 bs).length (zlHm_4 bs))) (.fin (.bool (zlHm_1 bs)) [])))))) (brT (decide (20 < (↑(apsL (List.drop 0 bs) (rdL bs.length) 0 5).length : Int))) (.need ((zlHm_0 bs).length * (2 : Nat) ≤ (zlHm_6 bs).length) (.need ((zlHm_2 bs).length * (2 : Nat) ≤ (zlHm_4 bs).length) (.need ((zlHm_0 bs).length ≤ (1000000000 : Nat)) (.need ((zlHm_2 bs).length ≤ (100000 : Nat)) (.need (fitL (ptsA (zlHm_2 bs).length (zlHm_4 bs))) (.fin (.bool (zlHm_1 bs)) [])))))) (brT (decide (20 < (↑(dmQ (List.drop 0 bs) (rdL bs.length)).length : Int))) (.need ((zlHm_0 bs).length * (2 : Nat) ≤ (zlHm_6 bs).length) (.need ((zlHm_2 bs).length * (2 : Nat) ≤ (zlHm_4 bs).length) (.need ((zlHm_0 bs).length ≤ (1000000000 : Nat)) (.need ((zlHm_2 bs).length ≤ (100000 : Nat)) (.need (fitL (ptsA (zlHm_2 bs).length (zlHm_4 bs))) (.fin (.bool (zlHm_1 bs)) [])))))) (.need ((zlHm_0 bs).length * (2 : Nat) ≤ (zlHm_6 bs).length) (.need ((zlHm_0 bs).length ≤ (1000000000 : Nat)) (brT (!allQ (nrQ (zlHm_3 bs)) 0 (apsL (List.drop 0 bs) (rdL bs.length) 0 5).length) (.need ((zlHm_0 bs).length * (2 : Nat) ≤ (zlHm_6 bs).length) (.need ((zlHm_2 bs).length * (2 : Nat) ≤ (zlHm_4 bs).length) (.need ((zlHm_0 bs).length ≤ (1000000000 : Nat)) (.need ((zlHm_2 bs).length ≤ (100000 : Nat)) (.need (fitL (ptsA (zlHm_2 bs).length (zlHm_4 bs))) (.fin (.bool (zlHm_1 bs)) [])))))) (.need ((zlHm_2 bs).length * (2 : Nat) ≤ (zlHm_4 bs).length) (.need ((zlHm_2 bs).length ≤ (1000000000 : Nat)) (brT (!allQ (nrQ (zlHm_5 bs)) 0 (dmQ (List.drop 0 bs) (rdL bs.length)).length) (.need ((zlHm_0 bs).length * (2 : Nat) ≤ (zlHm_6 bs).length) (.need ((zlHm_2 bs).length * (2 : Nat) ≤ (zlHm_4 bs).length) (.need ((zlHm_0 bs).length ≤ (1000000000 : Nat)) (.need ((zlHm_2 bs).length ≤ (100000 : Nat)) (.need (fitL (ptsA (zlHm_2 bs).length (zlHm_4 bs))) (.fin (.bool (zlHm_1 bs)) [])))))) (.need ((0 : Int) = (0 : Int)) (.need (false = false) (.need ((flat (zlHm_0 bs)).length = (zlHm_0 bs).length * (2 : Nat)) (.need ((flat (zlHm_2 bs)).length = (zlHm_2 bs).length * (2 : Nat)) (.need ((zlHm_0 bs).length ≤ (1000000000 : Nat)) (.need ((zlHm_2 bs).length ≤ (1000000000 : Nat)) (.need ((zlHm_2 bs).length * (2 : Nat) ≤ (zlHm_4 bs).length) (.need ((zlHm_0 bs).length * (2 : Nat) ≤ (zlHm_6 bs).length) (.need ((zlHm_2 bs).length ≤ (1000000000 : Nat)) (.need ((zlHm_0 bs).length ≤ (100000 : Nat)) (.need (fitL (ptsA (zlHm_0 bs).length (zlHm_6 bs))) (brT (hmB (zlHm_5 bs) (zlHm_3 bs) == hmB (zlHm_3 bs) (zlHm_5 bs)) (brT (!cmA (ptsA (dmQ (List.drop 0 bs) (rdL bs.length)).length (flat (dmQ (List.drop 0 bs) (rdL bs.length)))) (ptsA (apsL (List.drop 0 bs) (rdL bs.length) 0 5).length (flat (apsL (List.drop 0 bs) (rdL bs.length) 0 5)))) (.need ((zlHm_0 bs).length * (2 : Nat) ≤ (zlHm_6 bs).length) (.need ((zlHm_0 bs).length * (2 : Nat) ≤ (zlHm_6 bs).length) (.need ((zlHm_0 bs).length ≤ (1000000000 : Nat)) (.need ((zlHm_0 bs).length ≤ (100000 : Nat)) (.need (fitL (ptsA (zlHm_0 bs).length (zlHm_6 bs))) (.fin (.bool (hmB (zlHm_3 bs) (zlHm_3 bs))) [])))))) (brT (hmB (zlHm_3 bs) (zlHm_5 bs)) (.need ((zlHm_0 bs).length * (2 : Nat) ≤ (zlHm_6 bs).length) (.need ((zlHm_0 bs).length * (2 : Nat) ≤ (zlHm_6 bs).length) (.need ((zlHm_0 bs).length ≤ (1000000000 : Nat)) (.need ((zlHm_0 bs).length ≤ (100000 : Nat)) (.need (fitL (ptsA (zlHm_0 bs).length (zlHm_6 bs))) (.fin (.bool (hmB (zlHm_3 bs) (zlHm_3 bs))) [])))))) (.fin (.bool (false)) []))) (.fin (.bool (false)) [])))))))))))))))))))))))))))))))))))) := by kernel_rfl
theorem allQ_h1 {P : Nat → Bool} : ∀ (m i : Nat), (∀ j, i ≤ j → j < i + m → P j = true) → allQ P i m = true
  | 0, _, _ => rfl
  | m + 1, i, h => by
    show (P i && allQ P (i + 1) m) = true
    rw [h i (Nat.le_refl _) (by omega), allQ_h1 m (i + 1) fun j h1 h2 => h j (by omega) (by omega)]
    rfl
theorem np_in {ps : List Pt} {x y : Int} (h : allQ (npQ ps x y) 0 ps.length = false) : (x, y) ∈ ps := by
  by_cases hm : (x, y) ∈ ps
  · exact hm
  · rw [allQ_h1 ps.length 0 fun j _ hj => ?_] at h
    · cases h
    · unfold npQ
      rcases hx : ((ps.getD j (0, 0)).1 == x && (ps.getD j (0, 0)).2 == y) with _ | _
      · rfl
      · exfalso
        simp only [Bool.and_eq_true, beq_iff_eq] at hx
        refine hm ?_
        have e : ps.getD j (0, 0) = (x, y) := Prod.ext hx.1 hx.2
        rw [← e]
        have : j < ps.length := by omega
        simp [List.getD_eq_getElem?_getD, this]
theorem cmA_in {us vs : List Pt} (h : cmA vs us = true) : ∃ p ∈ us, p ∈ vs := by
  obtain ⟨p, hp, h1⟩ := List.any_eq_true.1 h
  exact ⟨p, hp, np_in (by simpa using h1)⟩
theorem nr_val {ps : List Pt} (h : allQ (nrQ ps) 0 ps.length = true) : allV ps = true := List.all_eq_true.2 fun p hp => by
  obtain ⟨j, hj, e⟩ := List.getElem_of_mem hp
  have g := allQ_get ps.length 0 h j (Nat.zero_le _) (by omega)
  have e2 : ps.getD j (0, 0) = p := by simp [hj, e]
  unfold nrQ at g
  rw [e2] at g
  simp only [Bool.and_eq_true, decide_eq_true_eq] at g
  exact decide_eq_true (by omega)
set_option maxRecDepth 100000 in
theorem law_hm (bs : List Int) (hb : Bytes bs) (_ : bs.length ≤ maxLen) : Res Try.prog 9 [.row bs.length (.bytes bs)] (.bool true) := by
  refine bodyP_res mixed ELy_ok (m := 30) (n := 12) rfl ?_
  rw [tr_lHm]
  try delta zB2 zB4 zR2 zI zlHm_0 zlHm_1 zlHm_2 zlHm_3 zlHm_4 zlHm_5 zlHm_6
  simp only [List.drop_zero, ptsA_flat, flat_length]
  obtain ⟨_, _, _, _, k5, k6⟩ := dmKey hb (Nat.le_refl _) (l := rdL bs.length) (by unfold rdL; omega) (by unfold rdL; omega)
  rw [← dmQ_len] at k6
  have f1 := apsL_fit bs (rdL bs.length) 0 5
  have f2 := dmQ_fit bs (rdL bs.length)
  generalize apsL bs (rdL bs.length) 0 5 = us at *
  generalize dmQ bs (rdL bs.length) = vs at *
  rw [hmB_symm us vs]
  simp only [beq_self_eq_true, Bool.not_true, brT_f, brT_t]
  have key : us.length ≠ 0 → us.length ≤ 20 → vs.length ≤ 20 → allQ (nrQ us) 0 us.length = true → allQ (nrQ vs) 0 vs.length = true → hmB us us = true ∧ (cmA vs us = true → hmB us vs = true) := fun h0 h1 h2 h3 h4 => by
    have o1 : okL us = true := by unfold okL; rw [nr_val h3, decide_eq_true h1]; rfl
    have o2 : okL vs = true := by unfold okL; rw [nr_val h4, decide_eq_true h2]; rfl
    refine ⟨hmB_self o1 (by omega), fun hc => ?_⟩
    obtain ⟨p, p1, p2⟩ := cmA_in hc
    exact hmB_common o1 o2 p1 p2
  refine brT_ok.2 ⟨fun _ => rfl, fun _ => ?_⟩
  by_cases c1 : us.length = 0
  · simp only [c1, Int.natCast_zero, beq_self_eq_true, brT_t]
    repeat' (first | exact True.intro | assumption | omega | exact rfl | refine And.intro ?_ ?_)
  by_cases c2 : (20 : Int) < us.length
  · rcases ((us.length : Int) == 0) with _ | _ <;> rcases ((vs.length : Int) == 0) with _ | _
    all_goals simp only [brT_t, brT_f, decide_eq_true c2]
    all_goals repeat' (first | exact True.intro | assumption | omega | exact rfl | refine And.intro ?_ ?_)
  by_cases c3 : (20 : Int) < vs.length
  · rcases ((us.length : Int) == 0) with _ | _ <;> rcases ((vs.length : Int) == 0) with _ | _
    all_goals simp only [brT_t, brT_f, decide_eq_false c2, decide_eq_true c3]
    all_goals repeat' (first | exact True.intro | assumption | omega | exact rfl | refine And.intro ?_ ?_)
  have key := key c1 (by omega) (by omega)
  simp only [decide_eq_false c2, decide_eq_false c3, brT_f]
  rcases ((us.length : Int) == 0) with _ | _ <;> rcases ((vs.length : Int) == 0) with _ | _ <;> rcases n1 : allQ (nrQ us) 0 us.length with _ | _ <;> rcases n2 : allQ (nrQ vs) 0 vs.length with _ | _
  case false.false.true.true =>
    obtain ⟨q1, q2⟩ := key n1 n2
    rcases hc : cmA vs us with _ | _
    · simp only [brT_t, brT_f, Bool.not_true, Bool.not_false, q1]
      repeat' (first | exact True.intro | assumption | omega | exact rfl | refine And.intro ?_ ?_)
    · simp only [brT_t, brT_f, Bool.not_true, Bool.not_false, q1, q2 hc]
      repeat' (first | exact True.intro | assumption | omega | exact rfl | refine And.intro ?_ ?_)
  all_goals simp only [brT_t, brT_f, Bool.not_true, Bool.not_false]
  all_goals repeat' (first | exact True.intro | assumption | omega | exact rfl | refine And.intro ?_ ?_)
end Go.Proofs.Ytbfoheblcoakiaa
