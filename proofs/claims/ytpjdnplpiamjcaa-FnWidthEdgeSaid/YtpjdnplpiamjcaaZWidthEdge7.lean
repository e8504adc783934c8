/-
  Texts that the proof needs, merged. Written by an AI agent.
-/
import Derived.Orders
import Derived.Below
import Derived.OrdersIn
import Derived.Deep.LoopGhost
import Derived.WalkKit
import Derived.Laws.CopyRow
import Derived.Laws.AppendOwn
import Derived.Laws.Slices
import Derived.Laws.MakeOwn
import Derived.Test.YtpjdnplpiamjcaaRows
import Derived.ProofKit
import Derived.OpenShut
import Derived.Carry
import Derived.IntWalk
import Derived.Test.YtpjdnplpiamjcaaProg
import Derived.WalkSpells
import Derived.WalkLawsBesides
import Derived.Lib.Hide
import Derived.Deep.QuietTactic
import Derived.BigQuiet
import Derived.KernelRfl
import Derived.Deep.RegionHeld3
import Derived.LoopTactic
import Derived.Laws.StructEq
import Derived.Laws.Tables
import Derived.RangeFuncNested
import Derived.RangeFuncLeaves
import Derived.Deep.Slices
import Derived.Deep.Fields
import Derived.ChangeSame
import Derived.Shelf.Bits.Mul64
import Derived.Shelf.SlSortCmp.WholeK
import Derived.Sort.Grow
import Derived.Deep.DeepCutAuto
import Derived.Shelf.SlSortCmp.NoneTotal
import Derived.Test.YtpjdnplpiamjcaaZWidthEdge6
namespace Go.Proofs.Ytpjdnplpiamjcaa
set_option linter.all false
open Go.RowKit
/-- One drawn point of a list of the kind k. -/
def rpt (bs : List Int) (l : Nat) (k p : Int) : Pt :=
  bif k == 0 then (pickI bs l p 9 - 2, IntKind.i64.wrap (IntKind.i64.wrap (2 * (pickI bs l p 9 - 2)) + 1))
  else bif k == 1 then (IntKind.i64.wrap ((pickI bs l p 9 - 2) * 100), IntKind.i64.wrap ((pickI bs l (p + 1) 9 - 2) * 37))
  else (pickI bs l p 9 - 2, pickI bs l (p + 1) 9 - 2)
/-- So many drawn points. -/
def rpL (bs : List Int) (l : Nat) (k : Int) : Nat → Int → List Pt
  | 0, _ => []
  | n + 1, p => rpt bs l k p :: rpL bs l k n (p + 2)
theorem rpL_len (bs : List Int) (l : Nat) (k : Int) : ∀ (n : Nat) (p : Int), (rpL bs l k n p).length = n
  | 0, _ => rfl
  | n + 1, p => by simp [rpL, rpL_len bs l k n]
theorem rpL_step (bs : List Int) (l : Nat) (k : Int) (n : Nat) (p : Int) (o : List Pt) : o ++ rpL bs l k (n + 1) p = (o ++ [rpt bs l k p]) ++ rpL bs l k n (p + 2) := by
  simp [rpL]
theorem flatA (o : List Pt) : List.take (o.length * 2) (List.drop 0 (flat o)) = flat o := by rw [List.drop_zero, flat_all]
noncomputable def c_rpts : Code := ((loopsOf (codeOf Try.f137))[0]?).getD .skip
def k_rpts : Ex → List Nat := keeps [0, 5, 6, 7] [(0, [5])] [4]
def s_rpts (bs : List Int) (l c : Nat) (k q : Int) : Nat × (List Pt) × Int → St := fun (n, o, p) => ⟨(.pointer (some ⟨1, 0, none⟩) :: topV :: topV :: topV :: topV :: .slice (some ⟨3, 0, none⟩) o.length o.length :: .int .i64 k :: .int .i64 n :: topV :: topV :: topV :: topV :: topV :: topV :: topV :: topV :: topV :: topV :: topV :: topV :: topV :: topV :: topV :: topV :: topV :: topV :: topV :: topV :: topV :: topV :: topV :: topV :: topV :: topV :: topV :: topV :: topV :: topV :: topV :: topV :: topV :: topV :: topV :: []), [some ⟨.view, .bytes bs⟩, some ⟨.box, .vals [.slice (some ⟨0, 0, none⟩) l c, .int .i64 p]⟩, some ⟨.dead, .vals []⟩, some ⟨.row 37 2, .ints (flat o)⟩]⟩
def re_rpts : Nat × (List Pt) × Int → Ex := fun _ => .exit 0
def rs_rpts (bs : List Int) (l c : Nat) (k q : Int) : Nat × (List Pt) × Int → St := fun (n, o, p) => ⟨(topV :: topV :: topV :: topV :: topV :: .slice (some ⟨3, 0, none⟩) (o ++ rpL bs l k n p).length (o ++ rpL bs l k n p).length :: topV :: topV :: topV :: topV :: topV :: topV :: topV :: topV :: topV :: topV :: topV :: topV :: topV :: topV :: topV :: topV :: topV :: topV :: topV :: topV :: topV :: topV :: topV :: topV :: topV :: topV :: topV :: topV :: topV :: topV :: topV :: topV :: topV :: topV :: topV :: topV :: topV :: []), [some ⟨.view, .bytes bs⟩, some ⟨.box, .vals [.slice (some ⟨0, 0, none⟩) l c, .int .i64 q]⟩, some ⟨.dead, .vals []⟩, some ⟨.row 37 2, .ints (flat (o ++ rpL bs l k n p))⟩]⟩
set_option maxRecDepth 100000 in
theorem tr_rpts (bs : List Int) (l c : Nat) (k q : Int) (n : Nat) (o : List Pt) (p : Int) : bodyL Try.prog ER2 30 12 noL 1 c_rpts k_rpts 16 (s_rpts bs l c k q (n, o, p)) = brT (decide (0 < (↑n : Int))) (.need (rdK bs l p) (brT (k == 0) (brT (k == 1) (.need ((o.length + (1 : Nat)) * (16 : Nat) ≤ (140737488355328 : Nat) ∧ o.length + (1 : Nat) ≤ (1000000 : Nat)) (.need ((0 : Nat) + o.length * (2 : Nat) ≤ (flat o).length) (.leaf .normal ⟨(.pointer (some ⟨1, 0, none⟩) :: topV :: topV :: topV :: topV :: .slice (some ⟨6, 0, none⟩) (o.length + 1) (o.length + 1) :: .int .i64 (k) :: .int .i64 (IntKind.i64.wrap ((↑n : Int) - 1)) :: topV :: topV :: topV :: topV :: topV :: topV :: topV :: topV :: topV :: topV :: topV :: topV :: topV :: topV :: topV :: topV :: topV :: topV :: topV :: topV :: topV :: topV :: topV :: topV :: topV :: topV :: topV :: topV :: topV :: topV :: topV :: topV :: topV :: topV :: topV :: []), [some ⟨.view, .bytes (bs)⟩, some ⟨.box, .vals [.slice (some ⟨0, 0, none⟩) (l) (c), .int .i64 (p + 2)]⟩, some deadB, some deadB, some ⟨.box, .vals [.int .i64 (IntKind.i64.wrap ((pickI bs l p 9 - 2) * 100)), .int .i64 (IntKind.i64.wrap (IntKind.i64.wrap (IntKind.i64.wrap (2 * (pickI bs l p 9 - 2)) + 1) * 37))]⟩, some ⟨.row 37 2, .vals [.int .i64 (IntKind.i64.wrap ((pickI bs l p 9 - 2) * 100)), .int .i64 (IntKind.i64.wrap (IntKind.i64.wrap (IntKind.i64.wrap (2 * (pickI bs l p 9 - 2)) + 1) * 37))]⟩, some ⟨.row 37 2, .ints (List.take (o.length * 2) (List.drop 0 (flat o)) ++ [IntKind.i64.wrap ((pickI bs l p 9 - 2) * 100), IntKind.i64.wrap (IntKind.i64.wrap (IntKind.i64.wrap (2 * (pickI bs l p 9 - 2)) + 1) * 37)])⟩]⟩))) (.need ((o.length + (1 : Nat)) * (16 : Nat) ≤ (140737488355328 : Nat) ∧ o.length + (1 : Nat) ≤ (1000000 : Nat)) (.need ((0 : Nat) + o.length * (2 : Nat) ≤ (flat o).length) (.leaf .normal ⟨(.pointer (some ⟨1, 0, none⟩) :: topV :: topV :: topV :: topV :: .slice (some ⟨6, 0, none⟩) (o.length + 1) (o.length + 1) :: .int .i64 (k) :: .int .i64 (IntKind.i64.wrap ((↑n : Int) - 1)) :: topV :: topV :: topV :: topV :: topV :: topV :: topV :: topV :: topV :: topV :: topV :: topV :: topV :: topV :: topV :: topV :: topV :: topV :: topV :: topV :: topV :: topV :: topV :: topV :: topV :: topV :: topV :: topV :: topV :: topV :: topV :: topV :: topV :: topV :: topV :: []), [some ⟨.view, .bytes (bs)⟩, some ⟨.box, .vals [.slice (some ⟨0, 0, none⟩) (l) (c), .int .i64 (p + 2)]⟩, some deadB, some deadB, some ⟨.box, .vals [.int .i64 (pickI bs l p 9 - 2), .int .i64 (IntKind.i64.wrap (IntKind.i64.wrap (2 * (pickI bs l p 9 - 2)) + 1))]⟩, some ⟨.row 37 2, .vals [.int .i64 (pickI bs l p 9 - 2), .int .i64 (IntKind.i64.wrap (IntKind.i64.wrap (2 * (pickI bs l p 9 - 2)) + 1))]⟩, some ⟨.row 37 2, .ints (List.take (o.length * 2) (List.drop 0 (flat o)) ++ [pickI bs l p 9 - 2, IntKind.i64.wrap (IntKind.i64.wrap (2 * (pickI bs l p 9 - 2)) + 1)])⟩]⟩)))) (brT (k == 1) (.need ((o.length + (1 : Nat)) * (16 : Nat) ≤ (140737488355328 : Nat) ∧ o.length + (1 : Nat) ≤ (1000000 : Nat)) (.need ((0 : Nat) + o.length * (2 : Nat) ≤ (flat o).length) (.leaf .normal ⟨(.pointer (some ⟨1, 0, none⟩) :: topV :: topV :: topV :: topV :: .slice (some ⟨6, 0, none⟩) (o.length + 1) (o.length + 1) :: .int .i64 (k) :: .int .i64 (IntKind.i64.wrap ((↑n : Int) - 1)) :: topV :: topV :: topV :: topV :: topV :: topV :: topV :: topV :: topV :: topV :: topV :: topV :: topV :: topV :: topV :: topV :: topV :: topV :: topV :: topV :: topV :: topV :: topV :: topV :: topV :: topV :: topV :: topV :: topV :: topV :: topV :: topV :: topV :: topV :: topV :: []), [some ⟨.view, .bytes (bs)⟩, some ⟨.box, .vals [.slice (some ⟨0, 0, none⟩) (l) (c), .int .i64 (p + 2)]⟩, some deadB, some deadB, some ⟨.box, .vals [.int .i64 (IntKind.i64.wrap ((pickI bs l p 9 - 2) * 100)), .int .i64 (IntKind.i64.wrap ((pickI bs l (p + 1) 9 - 2) * 37))]⟩, some ⟨.row 37 2, .vals [.int .i64 (IntKind.i64.wrap ((pickI bs l p 9 - 2) * 100)), .int .i64 (IntKind.i64.wrap ((pickI bs l (p + 1) 9 - 2) * 37))]⟩, some ⟨.row 37 2, .ints (List.take (o.length * 2) (List.drop 0 (flat o)) ++ [IntKind.i64.wrap ((pickI bs l p 9 - 2) * 100), IntKind.i64.wrap ((pickI bs l (p + 1) 9 - 2) * 37)])⟩]⟩))) (.need ((o.length + (1 : Nat)) * (16 : Nat) ≤ (140737488355328 : Nat) ∧ o.length + (1 : Nat) ≤ (1000000 : Nat)) (.need ((0 : Nat) + o.length * (2 : Nat) ≤ (flat o).length) (.leaf .normal ⟨(.pointer (some ⟨1, 0, none⟩) :: topV :: topV :: topV :: topV :: .slice (some ⟨6, 0, none⟩) (o.length + 1) (o.length + 1) :: .int .i64 (k) :: .int .i64 (IntKind.i64.wrap ((↑n : Int) - 1)) :: topV :: topV :: topV :: topV :: topV :: topV :: topV :: topV :: topV :: topV :: topV :: topV :: topV :: topV :: topV :: topV :: topV :: topV :: topV :: topV :: topV :: topV :: topV :: topV :: topV :: topV :: topV :: topV :: topV :: topV :: topV :: topV :: topV :: topV :: topV :: []), [some ⟨.view, .bytes (bs)⟩, some ⟨.box, .vals [.slice (some ⟨0, 0, none⟩) (l) (c), .int .i64 (p + 2)]⟩, some deadB, some deadB, some ⟨.box, .vals [.int .i64 (pickI bs l p 9 - 2), .int .i64 (pickI bs l (p + 1) 9 - 2)]⟩, some ⟨.row 37 2, .vals [.int .i64 (pickI bs l p 9 - 2), .int .i64 (pickI bs l (p + 1) 9 - 2)]⟩, some ⟨.row 37 2, .ints (List.take (o.length * 2) (List.drop 0 (flat o)) ++ [pickI bs l p 9 - 2, pickI bs l (p + 1) 9 - 2])⟩]⟩)))))) (.leaf (.exit 0) ⟨(topV :: topV :: topV :: topV :: topV :: .slice (some ⟨3, 0, none⟩) (o.length) (o.length) :: topV :: topV :: topV :: topV :: topV :: topV :: topV :: topV :: topV :: topV :: topV :: topV :: topV :: topV :: topV :: topV :: topV :: topV :: topV :: topV :: topV :: topV :: topV :: topV :: topV :: topV :: topV :: topV :: topV :: topV :: topV :: topV :: topV :: topV :: topV :: topV :: topV :: []), [some ⟨.view, .bytes (bs)⟩, some ⟨.box, .vals [.slice (some ⟨0, 0, none⟩) (l) (c), .int .i64 (p)]⟩, some deadB, some ⟨.row 37 2, .ints (flat o)⟩]⟩) := by kernel_rfl
set_option maxRecDepth 100000 in
theorem nl_rpts : loopsOf c_rpts = [] := by kernel_rfl
def inv_rpts (bs : List Int) (l c : Nat) (k q : Int) : Nat × (List Pt) × Int → Prop := fun (n, o, p) => o.length + n ≤ 100 ∧ q = p + 2 * n ∧ 0 ≤ p ∧ q ≤ 900000
def me_rpts (bs : List Int) (l c : Nat) (k q : Int) : Nat × (List Pt) × Int → Nat := fun (n, o, p) => n
/-- A round of this loop. -/
def Round_rpts (bs : List Int) (l c : Nat) (k q : Int) : Prop := ∀ xx : Nat × (List Pt) × Int, inv_rpts bs l c k q xx → (bodyL Try.prog ER2 30 12 noL 1 c_rpts k_rpts 16 (s_rpts bs l c k q xx)).ok (RoundEnd 3 (s_rpts bs l c k q) (inv_rpts bs l c k q) (me_rpts bs l c k q) re_rpts (rs_rpts bs l c k q) xx) (fun _ _ => False)
def e_rpts (s : St) (k : Ex → St → Tree) : Option Tree := match Nat.beq s.tmps.length 43, pickL s.tmps [0, 5, 6, 7], s.mem with
  | true, [.pointer (some ⟨1, 0, none⟩), .slice (some ⟨2, 0, none⟩) z _, .int .i64 k1, .int .i64 n1], [some ⟨.view, .bytes bs⟩, some ⟨.box, .vals [.slice (some ⟨0, 0, none⟩) l c, .int .i64 p]⟩, some ⟨.row 37 2, .vals []⟩] => some (needs [z = 0, 0 ≤ n1 ∧ n1 ≤ 100, l ≤ bs.length ∧ l ≤ 2000 ∧ Bytes bs, 0 ≤ p ∧ p ≤ 800000] (k (.exit 0) ⟨(topV :: topV :: topV :: topV :: topV :: .slice (some ⟨3, 0, none⟩) (rpL bs l k1 n1.toNat p).length (rpL bs l k1 n1.toNat p).length :: topV :: topV :: topV :: topV :: topV :: topV :: topV :: topV :: topV :: topV :: topV :: topV :: topV :: topV :: topV :: topV :: topV :: topV :: topV :: topV :: topV :: topV :: topV :: topV :: topV :: topV :: topV :: topV :: topV :: topV :: topV :: topV :: topV :: topV :: topV :: topV :: topV :: []), [some ⟨.view, .bytes bs⟩, some ⟨.box, .vals [.slice (some ⟨0, 0, none⟩) l c, .int .i64 (p + 2 * n1)]⟩, some ⟨.dead, .vals []⟩, some ⟨.row 37 2, .ints (flat (rpL bs l k1 n1.toNat p))⟩]⟩))
  | _, _, _ => none
theorem rpt0 {bs : List Int} {l : Nat} {k p : Int} (h : k = 0) : rpt bs l k p = (pickI bs l p 9 - 2, IntKind.i64.wrap (IntKind.i64.wrap (2 * (pickI bs l p 9 - 2)) + 1)) := by
  subst h; rfl
theorem rpt1 {bs : List Int} {l : Nat} {k p : Int} (h : k = 1) : rpt bs l k p = (IntKind.i64.wrap ((pickI bs l p 9 - 2) * 100), IntKind.i64.wrap ((pickI bs l (p + 1) 9 - 2) * 37)) := by
  subst h; rfl
theorem rpt2 {bs : List Int} {l : Nat} {k p : Int} (h : ¬ k = 0) (h' : ¬ k = 1) : rpt bs l k p = (pickI bs l p 9 - 2, pickI bs l (p + 1) 9 - 2) := by
  unfold rpt
  rw [beq_eq_false_iff_ne.2 h, beq_eq_false_iff_ne.2 h']
  rfl
set_option maxRecDepth 100000 in
theorem round_rpts (bs : List Int) (l c : Nat) (k q : Int) (h : l ≤ bs.length ∧ l ≤ 2000 ∧ Bytes bs) : Round_rpts bs l c k q := by
  rintro ⟨n, o, p⟩ ⟨h1, h2, h3, h4⟩
  rw [tr_rpts]
  simp only [brT_ok, Tree.ok, decide_eq_true_eq, decide_eq_false_iff_not, flatA, flat_length, Nat.zero_add, beq_iff_eq, beq_eq_false_iff_ne, ne_eq]
  have hr : rdK bs l p := ⟨⟨h.1, h.2.1, h3, by omega, h.2.2⟩, by omega⟩
  refine ⟨fun hlt => ⟨hr, ?_⟩, fun hge => ?_⟩
  · obtain ⟨n, rfl⟩ : ∃ m, n = m + 1 := ⟨n - 1, by omega⟩
    have e : IntKind.i64.wrap (((n + 1 : Nat) : Int) - 1) = (n : Int) := by rw [wr (by omega)]; omega
    rw [e]
    refine ⟨fun g0 => ⟨fun g1 => by omega, fun g1 => ?_⟩, fun g0 => ⟨fun g1 => ?_, fun g1 => ?_⟩⟩
    · rw [flat_snoc, ← rpt0 g0]
      refine ⟨by omega, by omega, (n, o ++ [rpt bs l k p], p + 2), [some 6], ⟨by simp; omega, by omega, by omega, by omega⟩, ?_, rfl, ?_, ?_⟩
      · show n < n + 1; omega
      · simp only [rs_rpts, rpL_step]
      · repeat' (first | exact True.intro | exact rfl | exact fun _ => rfl | (simp; done) | refine And.intro ?_ ?_)
    · rw [flat_snoc, ← rpt1 g1]
      refine ⟨by omega, by omega, (n, o ++ [rpt bs l k p], p + 2), [some 6], ⟨by simp; omega, by omega, by omega, by omega⟩, ?_, rfl, ?_, ?_⟩
      · show n < n + 1; omega
      · simp only [rs_rpts, rpL_step]
      · repeat' (first | exact True.intro | exact rfl | exact fun _ => rfl | (simp; done) | refine And.intro ?_ ?_)
    · rw [flat_snoc, ← rpt2 g0 g1]
      refine ⟨by omega, by omega, (n, o ++ [rpt bs l k p], p + 2), [some 6], ⟨by simp; omega, by omega, by omega, by omega⟩, ?_, rfl, ?_, ?_⟩
      · show n < n + 1; omega
      · simp only [rs_rpts, rpL_step]
      · repeat' (first | exact True.intro | exact rfl | exact fun _ => rfl | (simp; done) | refine And.intro ?_ ?_)
  · obtain rfl : n = 0 := by omega
    refine ⟨rfl, [some 3], ?_⟩
    obtain rfl : q = p := by omega
    simp only [rs_rpts, rpL, List.append_nil]
    repeat' (first | exact True.intro | exact rfl | exact fun _ => rfl | refine And.intro ?_ ?_)
set_option maxRecDepth 100000 in
theorem lg_rpts : LoopE Try.prog e_rpts c_rpts := by
  intro s k t F H hlt ht
  unfold e_rpts at hlt
  split at hlt
  rotate_left
  · cases hlt
  rename_i hlen hpick hmem
  obtain ⟨tmps, mem⟩ := s
  simp only at hlen hpick hmem
  subst hmem
  obtain rfl := Option.some.inj hlt
  obtain ⟨⟨rfl, h1, h2, h3, _⟩, ht2⟩ := needs_ok ht
  clear ht hlt
  obtain ⟨n, rfl⟩ := Int.eq_ofNat_of_zero_le h1.1
  simp only [Int.toNat_natCast] at ht2
  refine ⟨_, _, ht2, loop_run2 mixed ER2_ok (s_rpts _ _ _ _ _) (inv_rpts _ _ _ _ _) (me_rpts _ _ _ _ _) re_rpts (rs_rpts _ _ _ _ _) k_rpts (fun _ => rfl) (noLoops nl_rpts) (round_rpts _ _ _ _ _ h2) (x := (n, [], _)) ⟨by simp; omega, rfl, h3.1, by omega⟩ (π := [some 2]) rfl ?_⟩
  refine ⟨rfl, rfl, ?_, wvs_spread' [0, 5, 6, 7] hlen rfl ?_⟩
  · repeat' (first | exact True.intro | exact rfl | exact wv_top _ _ | exact fun _ => rfl | assumption | exact Eq.symm (by assumption) | exact vI0 rfl | refine And.intro ?_ ?_)
  · rw [hpick]
    repeat' (first | exact True.intro | exact rfl | exact wv_top _ _ | exact fun _ => rfl | assumption | exact Eq.symm (by assumption) | exact vI0 rfl | refine And.intro ?_ ?_)
theorem Lr_rpts {fn : Func} (hf : Try.prog.funcs[137]? = some fn) : LoopsGood Try.prog (lt1 e_rpts) 0 (codeOf fn) := by
  obtain rfl := fn_is Try.func137 hf
  exact lt1_good lg_rpts
def LRd1 : FuncId → LT := fun f => match f with
  | 137 => lt1 e_rpts
  | _ => noL
def ERL : Env := ⟨B0, fun _ _ => none, LRd1, tabJ J2, fun _ => noR⟩
theorem ERL_ok : EnvOk Try.prog ERL := ⟨B0_ok, fun _ _ _ _ _ h => (by cases h), (by
  intro f fn hf
  show LoopsGood Try.prog (LRd1 f) 0 (codeOf fn)
  unfold LRd1
  split
  all_goals first | with_reducible exact Lr_rpts hf | exact noL_good), tabJ_sound mixed J2_ok, fun _ _ _ => noR_good⟩
set_option maxRecDepth 100000 in
theorem tr_rptsF (bs : List Int) (l c : Nat) (p m : Int) : bodyM Try.prog ERL (runM Try.prog ERL 30 12) 30 137 [.pointer (some ⟨1, 0, none⟩), .int .i64 m] (memR bs l c p none) .fin = .need (rdC bs l p) (.need (rdC bs l (p + (1 : Int))) (.need ((0 : Nat) = (0 : Nat)) (.need ((0 : Int) ≤ pickI bs l (p + (1 : Int)) (IntKind.i64.wrap (m + (1 : Int))) ∧ pickI bs l (p + (1 : Int)) (IntKind.i64.wrap (m + (1 : Int))) ≤ (100 : Int)) (.need (l ≤ bs.length ∧ l ≤ (2000 : Nat) ∧ Bytes bs) (.need ((0 : Int) ≤ p + (1 : Int) + (1 : Int) ∧ p + (1 : Int) + (1 : Int) ≤ (800000 : Int)) (.fin (.slice (some ⟨3, 0, none⟩) ((rpL bs l (pickI bs l p 6) (pickI bs l (p + 1) (IntKind.i64.wrap (m + 1))).toNat (p + 1 + 1)).length) ((rpL bs l (pickI bs l p 6) (pickI bs l (p + 1) (IntKind.i64.wrap (m + 1))).toNat (p + 1 + 1)).length)) [some ⟨.view, .bytes (bs)⟩, some ⟨.box, .vals [.slice (some ⟨0, 0, none⟩) (l) (c), .int .i64 (p + 1 + 1 + 2 * pickI bs l (p + 1) (IntKind.i64.wrap (m + 1)))]⟩, some deadB, some ⟨.row 37 2, .ints (flat (rpL bs l (pickI bs l p 6) (pickI bs l (p + 1) (IntKind.i64.wrap (m + 1))).toNat (p + 1 + 1)))⟩])))))) := by kernel_rfl
def rpN (bs : List Int) (l : Nat) (p m : Int) : Int := pickI bs l (p + 1) (m + 1)
/-- A drawn list. -/
def rpsL (bs : List Int) (l : Nat) (p m : Int) : List Pt := rpL bs l (pickI bs l p 6) (rpN bs l p m).toNat (p + 2)
abbrev rowL (ps : List Pt) : Value := .slice (some ⟨0, 0, none⟩) ps.length ps.length
def rptsS : RSpecR := fun bs l p rest => match rest with
  | [.int .i64 m] => some (rowL (rpsL bs l p m), ⟨.row 37 2, .ints (flat (rpsL bs l p m))⟩, p + 2 + 2 * rpN bs l p m, [rdC bs l p, p ≤ 700000, 0 ≤ m ∧ m ≤ 90])
  | _ => none
theorem rptsS_ok : SpecROk Try.prog 137 rptsS := by
  intro bs l c p rest v b p' C h hC
  unfold rptsS at h
  split at h
  rotate_left
  · cases h
  rename_i m
  obtain ⟨rfl, rfl, rfl, rfl⟩ : rowL (rpsL bs l p m) = v ∧ (⟨.row 37 2, .ints (flat (rpsL bs l p m))⟩ : Blk) = b ∧ p + 2 + 2 * rpN bs l p m = p' ∧ [rdC bs l p, p ≤ 700000, 0 ≤ m ∧ m ≤ 90] = C := by simpa using h
  obtain ⟨h1, h2, h3, _⟩ := hC
  refine ⟨rfl, ERL, 30, 12, ERL_ok, ?_⟩
  rw [tr_rptsF]
  have w : IntKind.i64.wrap (m + 1) = m + 1 := wr (by omega)
  have r1 : rdC bs l (p + 1) := ⟨h1.1, h1.2.1, by have := h1.2.2.1; omega, by omega, h1.2.2.2.2⟩
  have b1 := pickI_bd (k := m + 1) r1 (by omega)
  have e : p + 1 + 1 = p + 2 := by omega
  have := h1.2.2.1
  rw [w, e]
  exact ⟨h1, r1, rfl, ⟨b1.1, by omega⟩, ⟨h1.1, h1.2.1, h1.2.2.2.2⟩, ⟨by omega, by omega⟩, rfl, some 3, ⟨rfl, rfl, rfl⟩, rfl, rfl, rfl⟩
def JL1 : TabJ := consR 137 (rdGR rptsS) (tabJ J2)
theorem JL1_ok : GSound Try.prog JL1.g := consR_ok mixed (tabJ_sound mixed J2_ok) (entersB_res (by kernel_rfl)).1 rptsS_ok
noncomputable def c_fill : Code := ((loopsOf (codeOf Try.f101))[0]?).getD .skip
def k_fill : Ex → List Nat := keeps [0, 5] [(1, [5]), (0, [5])] [4]
def s_fill (bs : List Int) (l c : Nat) (q : Int) : Nat × (List Pt) × Int → St := fun (n, o, p) => ⟨(.pointer (some ⟨1, 0, none⟩) :: topV :: topV :: topV :: topV :: .slice (some ⟨3, 0, none⟩) o.length o.length :: topV :: topV :: topV :: topV :: topV :: topV :: topV :: topV :: topV :: topV :: topV :: topV :: topV :: topV :: topV :: topV :: topV :: topV :: topV :: topV :: topV :: topV :: topV :: topV :: topV :: topV :: topV :: topV :: []), [some ⟨.view, .bytes bs⟩, some ⟨.box, .vals [.slice (some ⟨0, 0, none⟩) l c, .int .i64 p]⟩, some ⟨.dead, .vals []⟩, some ⟨.row 37 2, .ints (flat o)⟩]⟩
def re_fill : Nat × (List Pt) × Int → Ex := fun _ => .exit 1
def rs_fill (bs : List Int) (l c : Nat) (q : Int) : Nat × (List Pt) × Int → St := fun (n, o, p) => ⟨(topV :: topV :: topV :: topV :: topV :: .slice (some ⟨3, 0, none⟩) (o ++ rpL bs l 2 n p).length (o ++ rpL bs l 2 n p).length :: topV :: topV :: topV :: topV :: topV :: topV :: topV :: topV :: topV :: topV :: topV :: topV :: topV :: topV :: topV :: topV :: topV :: topV :: topV :: topV :: topV :: topV :: topV :: topV :: topV :: topV :: topV :: topV :: []), [some ⟨.view, .bytes bs⟩, some ⟨.box, .vals [.slice (some ⟨0, 0, none⟩) l c, .int .i64 q]⟩, some ⟨.dead, .vals []⟩, some ⟨.row 37 2, .ints (flat (o ++ rpL bs l 2 n p))⟩]⟩
set_option maxRecDepth 100000 in
theorem tr_fill (bs : List Int) (l c : Nat) (q : Int) (n : Nat) (o : List Pt) (p : Int) : bodyL Try.prog ER2 30 12 noL 1 c_fill k_fill 16 (s_fill bs l c q (n, o, p)) = brT (decide ((↑o.length : Int) < 21)) (.need (rdK bs l p) (.need ((o.length + (1 : Nat)) * (16 : Nat) ≤ (140737488355328 : Nat) ∧ o.length + (1 : Nat) ≤ (1000000 : Nat)) (.need ((0 : Nat) + o.length * (2 : Nat) ≤ (flat o).length) (.leaf .normal ⟨(.pointer (some ⟨1, 0, none⟩) :: topV :: topV :: topV :: topV :: .slice (some ⟨5, 0, none⟩) (o.length + 1) (o.length + 1) :: topV :: topV :: topV :: topV :: topV :: topV :: topV :: topV :: topV :: topV :: topV :: topV :: topV :: topV :: topV :: topV :: topV :: topV :: topV :: topV :: topV :: topV :: topV :: topV :: topV :: topV :: topV :: topV :: []), [some ⟨.view, .bytes (bs)⟩, some ⟨.box, .vals [.slice (some ⟨0, 0, none⟩) (l) (c), .int .i64 (p + 2)]⟩, some deadB, some deadB, some ⟨.row 37 2, .vals [.int .i64 (pickI bs l p 9 - 2), .int .i64 (pickI bs l (p + 1) 9 - 2)]⟩, some ⟨.row 37 2, .ints (List.take (o.length * 2) (List.drop 0 (flat o)) ++ [pickI bs l p 9 - 2, pickI bs l (p + 1) 9 - 2])⟩]⟩)))) (.leaf (.exit 1) ⟨(topV :: topV :: topV :: topV :: topV :: .slice (some ⟨3, 0, none⟩) (o.length) (o.length) :: topV :: topV :: topV :: topV :: topV :: topV :: topV :: topV :: topV :: topV :: topV :: topV :: topV :: topV :: topV :: topV :: topV :: topV :: topV :: topV :: topV :: topV :: topV :: topV :: topV :: topV :: topV :: topV :: []), [some ⟨.view, .bytes (bs)⟩, some ⟨.box, .vals [.slice (some ⟨0, 0, none⟩) (l) (c), .int .i64 (p)]⟩, some deadB, some ⟨.row 37 2, .ints (flat o)⟩]⟩) := by kernel_rfl
set_option maxRecDepth 100000 in
theorem nl_fill : loopsOf c_fill = [] := by kernel_rfl
def inv_fill (bs : List Int) (l c : Nat) (q : Int) : Nat × (List Pt) × Int → Prop := fun (n, o, p) => o.length + n = 21 ∧ q = p + 2 * n ∧ 0 ≤ p ∧ q ≤ 900000
def me_fill (bs : List Int) (l c : Nat) (q : Int) : Nat × (List Pt) × Int → Nat := fun (n, o, p) => n
/-- A round of this loop. -/
def Round_fill (bs : List Int) (l c : Nat) (q : Int) : Prop := ∀ xx : Nat × (List Pt) × Int, inv_fill bs l c q xx → (bodyL Try.prog ER2 30 12 noL 1 c_fill k_fill 16 (s_fill bs l c q xx)).ok (RoundEnd 3 (s_fill bs l c q) (inv_fill bs l c q) (me_fill bs l c q) re_fill (rs_fill bs l c q) xx) (fun _ _ => False)
def e_fill (s : St) (k : Ex → St → Tree) : Option Tree := match Nat.beq s.tmps.length 34, pickL s.tmps [0, 5], s.mem with
  | true, [.pointer (some ⟨1, 0, none⟩), .slice (some ⟨2, 0, none⟩) z _], [some ⟨.view, .bytes bs⟩, some ⟨.box, .vals [.slice (some ⟨0, 0, none⟩) l c, .int .i64 p]⟩, some ⟨.row 37 2, .ints xs⟩] => some (needs [xs.length = z * 2, z ≤ 21, l ≤ bs.length ∧ l ≤ 2000 ∧ Bytes bs, 0 ≤ p ∧ p ≤ 800000] (k (.exit 1) ⟨(topV :: topV :: topV :: topV :: topV :: .slice (some ⟨3, 0, none⟩) (ptsA z xs ++ rpL bs l 2 (21 - z) p).length (ptsA z xs ++ rpL bs l 2 (21 - z) p).length :: topV :: topV :: topV :: topV :: topV :: topV :: topV :: topV :: topV :: topV :: topV :: topV :: topV :: topV :: topV :: topV :: topV :: topV :: topV :: topV :: topV :: topV :: topV :: topV :: topV :: topV :: topV :: topV :: []), [some ⟨.view, .bytes bs⟩, some ⟨.box, .vals [.slice (some ⟨0, 0, none⟩) l c, .int .i64 (p + 2 * (21 - z : Nat))]⟩, some ⟨.dead, .vals []⟩, some ⟨.row 37 2, .ints (flat (ptsA z xs ++ rpL bs l 2 (21 - z) p))⟩]⟩))
  | _, _, _ => none
set_option maxRecDepth 100000 in
theorem round_fill (bs : List Int) (l c : Nat) (q : Int) (h : l ≤ bs.length ∧ l ≤ 2000 ∧ Bytes bs) : Round_fill bs l c q := by
  rintro ⟨n, o, p⟩ ⟨h1, h2, h3, h4⟩
  rw [tr_fill]
  simp only [brT_ok, Tree.ok, decide_eq_true_eq, decide_eq_false_iff_not, flatA, flat_length, Nat.zero_add]
  have hr : rdK bs l p := ⟨⟨h.1, h.2.1, h3, by omega, h.2.2⟩, by omega⟩
  refine ⟨fun hlt => ?_, fun hge => ?_⟩
  · obtain ⟨n, rfl⟩ : ∃ m, n = m + 1 := ⟨n - 1, by omega⟩
    rw [flat_snoc, ← rpt2 (k := 2) (by decide) (by decide)]
    refine ⟨hr, by omega, by omega, (n, o ++ [rpt bs l 2 p], p + 2), [some 5], ⟨by simp; omega, by omega, by omega, by omega⟩, ?_, rfl, ?_, ?_⟩
    · show n < n + 1; omega
    · simp only [rs_fill, rpL_step]
    · repeat' (first | exact True.intro | exact rfl | exact fun _ => rfl | (simp; done) | refine And.intro ?_ ?_)
  · obtain rfl : n = 0 := by omega
    refine ⟨rfl, [some 3], ?_⟩
    obtain rfl : q = p := by omega
    simp only [rs_fill, rpL, List.append_nil]
    repeat' (first | exact True.intro | exact rfl | exact fun _ => rfl | refine And.intro ?_ ?_)
set_option maxRecDepth 100000 in
theorem lg_fill : LoopE Try.prog e_fill c_fill := by
  intro s k t F H hlt ht
  unfold e_fill at hlt
  split at hlt
  rotate_left
  · cases hlt
  rename_i hlen hpick hmem
  obtain ⟨tmps, mem⟩ := s
  simp only at hlen hpick hmem
  subst hmem
  obtain rfl := Option.some.inj hlt
  obtain ⟨⟨h0, h1, h2, h3, _⟩, ht2⟩ := needs_ok ht
  clear ht hlt
  obtain ⟨ps, rfl, rfl⟩ := even_flat h0
  rw [ptsA_flat] at ht2
  refine ⟨_, _, ht2, loop_run2 mixed ER2_ok (s_fill _ _ _ _) (inv_fill _ _ _ _) (me_fill _ _ _ _) re_fill (rs_fill _ _ _ _) k_fill (fun _ => rfl) (noLoops nl_fill) (round_fill _ _ _ _ h2) (x := (21 - ps.length, ps, _)) ⟨by omega, rfl, h3.1, by omega⟩ (π := [some 2]) rfl ?_⟩
  refine ⟨rfl, rfl, ?_, wvs_spread' [0, 5] hlen rfl ?_⟩
  · repeat' (first | exact True.intro | exact rfl | exact wv_top _ _ | exact fun _ => rfl | assumption | exact Eq.symm (by assumption) | exact vI0 rfl | refine And.intro ?_ ?_)
  · rw [hpick]
    repeat' (first | exact True.intro | exact rfl | exact wv_top _ _ | exact fun _ => rfl | assumption | exact Eq.symm (by assumption) | exact vI0 rfl | refine And.intro ?_ ?_)
theorem Lr_fill {fn : Func} (hf : Try.prog.funcs[101]? = some fn) : LoopsGood Try.prog (lt1 e_fill) 0 (codeOf fn) := by
  obtain rfl := fn_is Try.func101 hf
  exact lt1_good lg_fill
def LRd2 : FuncId → LT := fun f => match f with
  | 101 => lt1 e_fill
  | _ => noL
def ERL2 : Env := ⟨B0, fun _ _ => none, LRd2, JL1, fun _ => noR⟩
theorem ERL2_ok : EnvOk Try.prog ERL2 := ⟨B0_ok, fun _ _ _ _ _ h => (by cases h), (by
  intro f fn hf
  show LoopsGood Try.prog (LRd2 f) 0 (codeOf fn)
  unfold LRd2
  split
  all_goals first | with_reducible exact Lr_fill hf | exact noL_good), JL1_ok, fun _ _ _ => noR_good⟩
set_option maxRecDepth 100000 in
theorem tr_aptsF (bs : List Int) (l c : Nat) (p m : Int) : bodyM Try.prog ERL2 (runM Try.prog ERL2 30 12) 30 101 [.pointer (some ⟨1, 0, none⟩), .int .i64 m] (memR bs l c p none) .fin = .need (rdC bs l p) (.need (p ≤ (700000 : Int)) (.need ((0 : Int) ≤ m ∧ m ≤ (90 : Int)) (brT (decide (0 < (↑(rpsL bs l p m).length : Int))) (.need (rdC bs l (p + (2 : Int) + (2 : Int) * rpN bs l p m)) (brT (pickI bs l (p + 2 + 2 * rpN bs l p m) 20 == 0) (.need (rdC bs l (p + (2 : Int) + (2 : Int) * rpN bs l p m + (1 : Int))) (.need ((0 : Int) ≤ pickI bs l (p + (2 : Int) + (2 : Int) * rpN bs l p m + (1 : Int)) (↑(rpsL bs l p m).length : Int) ∧ pickI bs l (p + (2 : Int) + (2 : Int) * rpN bs l p m + (1 : Int)) (↑(rpsL bs l p m).length : Int) < (↑(rpsL bs l p m).length : Int)) (.need ((0 : Nat) + (pickI bs l (p + (2 : Int) + (2 : Int) * rpN bs l p m + (1 : Int)) (↑(rpsL bs l p m).length : Int)).toNat * (2 : Nat) + (2 : Nat) ≤ (flat (rpsL bs l p m)).length) (.fin (.slice (some ⟨2, 0, none⟩) ((rpsL bs l p m).length) ((rpsL bs l p m).length)) [some ⟨.view, .bytes (bs)⟩, some ⟨.box, .vals [.slice (some ⟨0, 0, none⟩) (l) (c), .int .i64 (p + 2 + 2 * rpN bs l p m + 1 + 1)]⟩, some ⟨.row 37 2, .ints (setInts (flat (rpsL bs l p m)) (0 + (pickI bs l (p + 2 + 2 * rpN bs l p m + 1) (↑(rpsL bs l p m).length : Int)).toNat * 2) [1001, 0])⟩])))) (brT (pickI bs l (p + 2 + 2 * rpN bs l p m) 20 == 1) (.need ((flat (rpsL bs l p m)).length = (rpsL bs l p m).length * (2 : Nat)) (.need ((rpsL bs l p m).length ≤ (21 : Nat)) (.need (l ≤ bs.length ∧ l ≤ (2000 : Nat) ∧ Bytes bs) (.need ((0 : Int) ≤ p + (2 : Int) + (2 : Int) * rpN bs l p m + (1 : Int) ∧ p + (2 : Int) + (2 : Int) * rpN bs l p m + (1 : Int) ≤ (800000 : Int)) (.fin (.slice (some ⟨3, 0, none⟩) ((ptsA (rpsL bs l p m).length (flat (rpsL bs l p m)) ++ rpL bs l 2 (21 - (rpsL bs l p m).length) (p + 2 + 2 * rpN bs l p m + 1)).length) ((ptsA (rpsL bs l p m).length (flat (rpsL bs l p m)) ++ rpL bs l 2 (21 - (rpsL bs l p m).length) (p + 2 + 2 * rpN bs l p m + 1)).length)) [some ⟨.view, .bytes (bs)⟩, some ⟨.box, .vals [.slice (some ⟨0, 0, none⟩) (l) (c), .int .i64 (p + 2 + 2 * rpN bs l p m + 1 + 2 * (↑(21 - (rpsL bs l p m).length) : Int))]⟩, some deadB, some ⟨.row 37 2, .ints (flat (ptsA (rpsL bs l p m).length (flat (rpsL bs l p m)) ++ rpL bs l 2 (21 - (rpsL bs l p m).length) (p + 2 + 2 * rpN bs l p m + 1)))⟩]))))) (.fin (.slice (some ⟨2, 0, none⟩) ((rpsL bs l p m).length) ((rpsL bs l p m).length)) [some ⟨.view, .bytes (bs)⟩, some ⟨.box, .vals [.slice (some ⟨0, 0, none⟩) (l) (c), .int .i64 (p + 2 + 2 * rpN bs l p m + 1)]⟩, some ⟨.row 37 2, .ints (flat (rpsL bs l p m))⟩])))) (.fin (.slice (some ⟨2, 0, none⟩) ((rpsL bs l p m).length) ((rpsL bs l p m).length)) [some ⟨.view, .bytes (bs)⟩, some ⟨.box, .vals [.slice (some ⟨0, 0, none⟩) (l) (c), .int .i64 (p + 2 + 2 * rpN bs l p m)]⟩, some ⟨.row 37 2, .ints (flat (rpsL bs l p m))⟩])))) := by kernel_rfl
def aq1 (bs : List Int) (l : Nat) (p m : Int) : Int := p + 2 + 2 * rpN bs l p m
def aqQ (bs : List Int) (l : Nat) (p m : Int) : Int := pickI bs l (aq1 bs l p m) 20
/-- A drawn list, perhaps not valid. -/
def apsL (bs : List Int) (l : Nat) (p m : Int) : List Pt :=
  if (rpsL bs l p m).length = 0 then rpsL bs l p m
  else if aqQ bs l p m = 0 then (rpsL bs l p m).set (pickI bs l (aq1 bs l p m + 1) (rpsL bs l p m).length).toNat (1001, 0)
  else if aqQ bs l p m = 1 then rpsL bs l p m ++ rpL bs l 2 (21 - (rpsL bs l p m).length) (aq1 bs l p m + 1)
  else rpsL bs l p m
/-- The place behind it. -/
def apsP (bs : List Int) (l : Nat) (p m : Int) : Int :=
  if (rpsL bs l p m).length = 0 then aq1 bs l p m
  else if aqQ bs l p m = 0 then aq1 bs l p m + 2
  else if aqQ bs l p m = 1 then aq1 bs l p m + 1 + 2 * (21 - (rpsL bs l p m).length : Nat)
  else aq1 bs l p m + 1
theorem rpsL_len {bs : List Int} {l : Nat} {p m : Int} (h : rdC bs l (p + 1)) (hm : 0 ≤ m ∧ m ≤ 20) : (rpsL bs l p m).length ≤ 20 ∧ (rpsL bs l p m).length = (rpN bs l p m).toNat ∧ 0 ≤ rpN bs l p m ∧ rpN bs l p m ≤ 20 := by
  have b1 := pickI_bd (k := m + 1) h (by omega)
  unfold rpsL
  rw [rpL_len]
  unfold rpN
  omega
def aptsS : RSpecR := fun bs l p rest => match rest with
  | [.int .i64 m] => some (rowL (apsL bs l p m), ⟨.row 37 2, .ints (flat (apsL bs l p m))⟩, apsP bs l p m, [rdC bs l p, p ≤ 600000, 0 ≤ m ∧ m ≤ 20])
  | _ => none
theorem aptsS_ok : SpecROk Try.prog 101 aptsS := by
  intro bs l c p rest v b p' C h hC
  unfold aptsS at h
  split at h
  rotate_left
  · cases h
  rename_i m
  obtain ⟨rfl, rfl, rfl, rfl⟩ : rowL (apsL bs l p m) = v ∧ (⟨.row 37 2, .ints (flat (apsL bs l p m))⟩ : Blk) = b ∧ apsP bs l p m = p' ∧ [rdC bs l p, p ≤ 600000, 0 ≤ m ∧ m ≤ 20] = C := by simpa using h
  obtain ⟨h1, h2, h3, _⟩ := hC
  refine ⟨rfl, ERL2, 30, 12, ERL2_ok, ?_⟩
  rw [tr_aptsF]
  have h0 := h1.2.2.1
  have r1 : rdC bs l (p + 1) := ⟨h1.1, h1.2.1, by omega, by omega, h1.2.2.2.2⟩
  obtain ⟨L1, L2, L3, L4⟩ := rpsL_len (m := m) r1 h3
  have ea : p + 2 + 2 * rpN bs l p m = aq1 bs l p m := rfl
  have ba : p + 2 ≤ aq1 bs l p m ∧ aq1 bs l p m ≤ p + 42 := by unfold aq1; omega
  rw [ea]
  have ra : ∀ q : Int, aq1 bs l p m ≤ q → q ≤ p + 100 → rdC bs l q := fun q g1 g2 => ⟨h1.1, h1.2.1, by omega, by omega, h1.2.2.2.2⟩
  refine ⟨h1, by omega, ⟨by omega, by omega⟩, brT_ok.2 ⟨fun hlen => ?_, fun hlen => ?_⟩⟩
  · have hlen := of_decide_eq_true hlen
    have hne : ¬ (rpsL bs l p m).length = 0 := by omega
    refine ⟨ra _ (by omega) (by omega), brT_ok.2 ⟨fun hq => ?_, fun hq => brT_ok.2 ⟨fun hq' => ?_, fun hq' => ?_⟩⟩⟩
    · have hq : aqQ bs l p m = 0 := by simpa [aqQ] using hq
      have e1 : apsL bs l p m = (rpsL bs l p m).set (pickI bs l (aq1 bs l p m + 1) (rpsL bs l p m).length).toNat (1001, 0) := by unfold apsL; rw [if_neg hne, if_pos hq]
      have e2 : apsP bs l p m = aq1 bs l p m + 2 := by unfold apsP; rw [if_neg hne, if_pos hq]
      have rb := ra (aq1 bs l p m + 1) (by omega) (by omega)
      have pb := pickI_bd (k := ((rpsL bs l p m).length : Int)) rb (by omega)
      rw [e1, e2]
      have hs := flat_set (rpsL bs l p m) (pickI bs l (aq1 bs l p m + 1) (rpsL bs l p m).length).toNat (by omega) 1001 0
      refine ⟨rb, pb, by rw [flat_length]; omega, box2 (by omega) _, some 2, ⟨rfl, rfl, by rw [List.length_set]⟩, rfl, rfl, ?_⟩
      rw [Nat.zero_add]
      exact hs
    · have hq : ¬ aqQ bs l p m = 0 := by simpa [aqQ] using hq
      have hq' : aqQ bs l p m = 1 := by simpa [aqQ] using hq'
      have e1 : apsL bs l p m = rpsL bs l p m ++ rpL bs l 2 (21 - (rpsL bs l p m).length) (aq1 bs l p m + 1) := by unfold apsL; rw [if_neg hne, if_neg hq, if_pos hq']
      have e2 : apsP bs l p m = aq1 bs l p m + 1 + 2 * (21 - (rpsL bs l p m).length : Nat) := by unfold apsP; rw [if_neg hne, if_neg hq, if_pos hq']
      rw [e1, e2, ptsA_flat]
      exact ⟨by rw [flat_length], by omega, ⟨h1.1, h1.2.1, h1.2.2.2.2⟩, ⟨by omega, by omega⟩, rfl, some 3, ⟨rfl, rfl, rfl⟩, rfl, rfl, rfl⟩
    · have hq : ¬ aqQ bs l p m = 0 := by simpa [aqQ] using hq
      have hq' : ¬ aqQ bs l p m = 1 := by simpa [aqQ] using hq'
      have e1 : apsL bs l p m = rpsL bs l p m := by unfold apsL; rw [if_neg hne, if_neg hq, if_neg hq']
      have e2 : apsP bs l p m = aq1 bs l p m + 1 := by unfold apsP; rw [if_neg hne, if_neg hq, if_neg hq']
      rw [e1, e2]
      exact ⟨rfl, some 2, ⟨rfl, rfl, rfl⟩, rfl, rfl, rfl⟩
  · have hlen := of_decide_eq_false hlen
    have hz : (rpsL bs l p m).length = 0 := by omega
    have e1 : apsL bs l p m = rpsL bs l p m := by unfold apsL; rw [if_pos hz]
    have e2 : apsP bs l p m = aq1 bs l p m := by unfold apsP; rw [if_pos hz]
    rw [e1, e2]
    exact ⟨rfl, some 2, ⟨rfl, rfl, rfl⟩, rfl, rfl, rfl⟩
/-- The reader's operations, drawn lists among them. -/
def JL2 : TabJ := consR 101 (rdGR aptsS) (tabJ J3)
theorem JL2_ok : GSound Try.prog JL2.g := consR_ok mixed (tabJ_sound mixed J3_ok) (entersB_res (by kernel_rfl)).1 aptsS_ok
theorem apsL_len {bs : List Int} {l : Nat} {p m : Int} (h : rdC bs l (p + 1)) (hm : 0 ≤ m ∧ m ≤ 20) : (apsL bs l p m).length ≤ 21 := by
  obtain ⟨L1, _⟩ := rpsL_len (m := m) h hm
  unfold apsL
  split
  · omega
  split
  · rw [List.length_set]; omega
  split
  · rw [List.length_append, rpL_len]; omega
  · omega
theorem apsP_bd {bs : List Int} {l : Nat} {p m : Int} (h : rdC bs l (p + 1)) (hm : 0 ≤ m ∧ m ≤ 20) : p + 2 ≤ apsP bs l p m ∧ apsP bs l p m ≤ p + 100 := by
  obtain ⟨L1, L2, L3, L4⟩ := rpsL_len (m := m) h hm
  unfold apsP aq1
  split
  · omega
  split
  · omega
  split <;> omega
end Go.Proofs.Ytpjdnplpiamjcaa
namespace Go.Proofs.Ytpjdnplpiamjcaa
set_option linter.all false
open Go.RowKit
def EDr : Env := ⟨B0, fun _ _ => none, fun _ => noL, JL2, fun _ => noR⟩
theorem EDr_ok : EnvOk Try.prog EDr := ⟨B0_ok, fun _ _ _ _ _ h => (by cases h), fun _ _ _ => noL_good, JL2_ok, fun _ _ _ => noR_good⟩
theorem drKey {bs : List Int} {n : Nat} (hb : Bytes bs) (hn : n ≤ bs.length) {l : Nat} (h1 : l ≤ n) (h2 : l ≤ 2000) {m : Int} (hm : 0 ≤ m ∧ m ≤ 20) : rdC bs l 0 ∧ rdK bs l (apsP bs l 0 m) ∧ rdC bs l (apP bs l (apsP bs l 0 m)) ∧ (apsL bs l 0 m).length ≤ 21 := by
  have r0 : rdK bs l 0 := rdK0 hb hn h1 h2 (by omega) (by omega)
  have r1 : rdC bs l (0 + 1) := r0.at (by omega) (by omega)
  have b1 := apsP_bd (m := m) r1 hm
  have r2 : rdK bs l (apsP bs l 0 m) := rdK0 hb hn h1 h2 (by omega) (by omega)
  have b2 := apP_bd bs l (apsP bs l 0 m)
  exact ⟨r0.1, r2, r2.at (by omega) (by omega), apsL_len r1 hm⟩
end Go.Proofs.Ytpjdnplpiamjcaa
namespace Go.Proofs.Ytpjdnplpiamjcaa
set_option linter.all false
open Go.RowKit
noncomputable def c_bkw : Code := ((loopsOf (codeOf Try.f52))[0]?).getD .skip
def k_bkw : Ex → List Nat := keeps [0, 3, 4] [(0, [3])] [2]
def s_bkw (ps : List Pt) : Nat × (List Pt) → St := fun (m, o) => ⟨[.slice (some ⟨0, 0, none⟩) ps.length ps.length, topV, topV, .slice (some ⟨2, 0, none⟩) o.length o.length, .int .i64 ((m : Int) - 1), topV, topV, topV, topV, topV, topV, topV, topV, topV, topV, topV, topV, topV, topV, topV, topV], [some ⟨.view, .ints (flat ps)⟩, some ⟨.dead, .vals []⟩, some ⟨.row 37 2, .ints (flat o)⟩]⟩
def re_bkw : Nat × (List Pt) → Ex := fun _ => .exit 0
def rs_bkw (ps : List Pt) : Nat × (List Pt) → St := fun (m, o) => ⟨[topV, topV, topV, .slice (some ⟨2, 0, none⟩) (revP ps).length (revP ps).length, topV, topV, topV, topV, topV, topV, topV, topV, topV, topV, topV, topV, topV, topV, topV, topV, topV], [some ⟨.view, .ints (flat ps)⟩, some ⟨.dead, .vals []⟩, some ⟨.row 37 2, .ints (flat (revP ps))⟩]⟩
set_option maxRecDepth 100000 in
theorem tr_bkw (ps : List Pt) (m : Nat) (o : List Pt) : bodyL Try.prog ERv 30 12 noL 1 c_bkw k_bkw 16 (s_bkw ps (m, o)) = brT (decide (0 ≤ (↑m : Int) - 1)) (.need ((0 : Int) ≤ (↑m : Int) - (1 : Int) ∧ (↑m : Int) - (1 : Int) < (↑ps.length : Int)) (.need ((0 : Nat) + ((↑m : Int) - (1 : Int)).toNat * (2 : Nat) + (2 : Nat) ≤ (flat ps).length) (.need ((o.length + (1 : Nat)) * (16 : Nat) ≤ (140737488355328 : Nat) ∧ o.length + (1 : Nat) ≤ (1000000 : Nat)) (.need ((0 : Nat) + o.length * (2 : Nat) ≤ (flat o).length) (.leaf .normal ⟨[.slice (some ⟨0, 0, none⟩) (ps.length) (ps.length), topV, topV, .slice (some ⟨4, 0, none⟩) (o.length + 1) (o.length + 1), .int .i64 (IntKind.i64.wrap ((↑m : Int) - 1 - 1)), topV, topV, topV, topV, topV, topV, topV, topV, topV, topV, topV, topV, topV, topV, topV, topV], [some ⟨.view, .ints (flat ps)⟩, some deadB, some deadB, some ⟨.row 37 2, .vals [.int .i64 ((flat ps).getD (0 + ((↑m : Int) - 1).toNat * 2) 0), .int .i64 ((flat ps).getD (0 + ((↑m : Int) - 1).toNat * 2 + 1) 0)]⟩, some ⟨.row 37 2, .ints (List.take (o.length * 2) (List.drop 0 (flat o)) ++ [(flat ps).getD (0 + ((↑m : Int) - 1).toNat * 2) 0, (flat ps).getD (0 + ((↑m : Int) - 1).toNat * 2 + 1) 0])⟩]⟩))))) (.leaf (.exit 0) ⟨[topV, topV, topV, .slice (some ⟨2, 0, none⟩) (o.length) (o.length), topV, topV, topV, topV, topV, topV, topV, topV, topV, topV, topV, topV, topV, topV, topV, topV, topV], [some ⟨.view, .ints (flat ps)⟩, some deadB, some ⟨.row 37 2, .ints (flat o)⟩]⟩) := by kernel_rfl
set_option maxRecDepth 100000 in
theorem nl_bkw : loopsOf c_bkw = [] := by kernel_rfl
def inv_bkw (ps : List Pt) : Nat × (List Pt) → Prop := fun (m, o) => m ≤ ps.length ∧ o = (ps.drop m).reverse
def me_bkw (ps : List Pt) : Nat × (List Pt) → Nat := fun (m, o) => m
/-- A round of this loop. -/
def Round_bkw (ps : List Pt) : Prop := ∀ xx : Nat × (List Pt), inv_bkw ps xx → (bodyL Try.prog ERv 30 12 noL 1 c_bkw k_bkw 16 (s_bkw ps xx)).ok (RoundEnd 2 (s_bkw ps) (inv_bkw ps) (me_bkw ps) re_bkw (rs_bkw ps) xx) (fun _ _ => False)
def e_bkw (s : St) (k : Ex → St → Tree) : Option Tree := match Nat.beq s.tmps.length 21, pickL s.tmps [0, 3, 4], s.mem with
  | true, [.slice (some ⟨0, 0, none⟩) n _, .slice (some ⟨1, 0, none⟩) z _, .int .i64 i0], [some ⟨.view, .ints xs⟩, some ⟨.row 37 2, .vals []⟩] => some (needs [i0 = (n : Int) - 1, z = 0, xs.length = n * 2, n ≤ 100000] (k (.exit 0) ⟨[topV, topV, topV, .slice (some ⟨2, 0, none⟩) (revP (ptsA n xs)).length (revP (ptsA n xs)).length, topV, topV, topV, topV, topV, topV, topV, topV, topV, topV, topV, topV, topV, topV, topV, topV, topV], [some ⟨.view, .ints xs⟩, some ⟨.dead, .vals []⟩, some ⟨.row 37 2, .ints (flat (revP (ptsA n xs)))⟩]⟩))
  | _, _, _ => none
set_option maxRecDepth 100000 in
theorem round_bkw (ps : List Pt) (h : ps.length ≤ 100000) : Round_bkw ps := by
  rintro ⟨m, o⟩ ⟨h1, rfl⟩
  rw [tr_bkw]
  have hl : (ps.drop m).reverse.length = ps.length - m := by simp
  refine brT_ok.2 ⟨fun hlt => ?_, fun hge => ?_⟩
  · have hlt := of_decide_eq_true hlt
    obtain ⟨m, rfl⟩ : ∃ k, m = k + 1 := ⟨m - 1, by omega⟩
    have j1 : (((m + 1 : Nat) : Int) - 1).toNat = m := by omega
    have w : IntKind.i64.wrap (((m + 1 : Nat) : Int) - 1 - 1) = (m : Int) - 1 := by rw [wr (by omega)]; omega
    have hs := rvd_step (ps := ps) (m := m) (by omega)
    have fs : flat (ps.drop (m + 1)).reverse ++ [(ps.getD m (0, 0)).1, (ps.getD m (0, 0)).2] = flat (ps.drop m).reverse := by
      rw [flat_snoc, ← hs]
    simp only [j1, w, Nat.zero_add, flat_get0, flat_get1, flat_length, flatR, fs]
    refine ⟨by omega, by omega, ⟨by omega, by omega⟩, by omega, (m, (ps.drop m).reverse), [some 4], ⟨by omega, rfl⟩, ?_, rfl, by simp only [rs_bkw], ?_⟩
    · show m < m + 1; omega
    · have e : (ps.drop (m + 1)).reverse.length + 1 = (ps.drop m).reverse.length := by rw [← hs]; simp
      rw [e]
      repeat' (first | exact True.intro | exact rfl | exact fun _ => rfl | (simp; done) | refine And.intro ?_ ?_)
  · have hge := of_decide_eq_false hge
    obtain rfl : m = 0 := by omega
    refine ⟨rfl, [some 2], ?_⟩
    simp only [rs_bkw, revP, List.drop_zero]
    repeat' (first | exact True.intro | exact rfl | exact fun _ => rfl | (simp; done) | refine And.intro ?_ ?_)
set_option maxRecDepth 100000 in
theorem lg_bkw : LoopE Try.prog e_bkw c_bkw := by
  intro s k t F H hlt ht
  unfold e_bkw at hlt
  split at hlt
  rotate_left
  · cases hlt
  rename_i hlen hpick hmem
  obtain ⟨tmps, mem⟩ := s
  simp only at hlen hpick hmem
  subst hmem
  obtain rfl := Option.some.inj hlt
  obtain ⟨⟨rfl, rfl, h1, h3, _⟩, ht2⟩ := needs_ok ht
  clear ht hlt
  obtain ⟨ps, rfl, rfl⟩ := even_flat h1
  rw [ptsA_flat] at ht2
  refine ⟨_, _, ht2, loop_run2 mixed ERv_ok (s_bkw ps) (inv_bkw ps) (me_bkw ps) re_bkw (rs_bkw ps) k_bkw (fun _ => rfl) (noLoops nl_bkw) (round_bkw ps h3) (x := (ps.length, [])) ⟨Nat.le_refl _, by rw [List.drop_length]; rfl⟩ (π := [some 1]) rfl ?_⟩
  refine ⟨rfl, rfl, ?_, wvs_spread' [0, 3, 4] hlen rfl ?_⟩
  · repeat' (first | exact True.intro | exact rfl | exact wv_top _ _ | exact fun _ => rfl | assumption | exact Eq.symm (by assumption) | exact vI0 rfl | refine And.intro ?_ ?_)
  · rw [hpick]
    repeat' (first | exact True.intro | exact rfl | exact wv_top _ _ | exact fun _ => rfl | assumption | exact Eq.symm (by assumption) | exact vI0 rfl | refine And.intro ?_ ?_)
theorem Lr_bkw {fn : Func} (hf : Try.prog.funcs[52]? = some fn) : LoopsGood Try.prog (lt1 e_bkw) 0 (codeOf fn) := by
  obtain rfl := fn_is Try.func52 hf
  exact lt1_good lg_bkw
def LBk : FuncId → LT := fun f => match f with
  | 52 => lt1 e_bkw
  | _ => noL
def EBk : Env := mkE B0 (fun _ _ => none) LBk
theorem EBk_ok : EnvOk Try.prog EBk := mkEOk B0_ok (fun _ _ _ _ _ h => (by cases h)) (by
  intro f fn hf
  unfold LBk
  split
  all_goals first | with_reducible exact Lr_bkw hf | with_reducible exact Lr_mvd hf | exact noL_good)
set_option maxRecDepth 100000 in
theorem tr_bkF (ps : List Pt) : bodyX Try.prog EBk 30 12 52 [.row ps.length (.ints (flat ps))] = .need (IntKind.i64.wrap ((↑ps.length : Int) - (1 : Int)) = (↑ps.length : Int) - (1 : Int)) (.need ((0 : Nat) = (0 : Nat)) (.need ((flat ps).length = ps.length * (2 : Nat)) (.need (ps.length ≤ (100000 : Nat)) (.fin (.slice (some ⟨2, 0, none⟩) ((revP (ptsA ps.length (flat ps))).length) ((revP (ptsA ps.length (flat ps))).length)) [some ⟨.view, .ints (flat ps)⟩, some deadB, some ⟨.row 37 2, .ints (flat (revP (ptsA ps.length (flat ps))))⟩])))) := by kernel_rfl
theorem resR_bkw {ps : List Pt} (h : ps.length ≤ 100000) : ResR Try.prog 52 [.row ps.length (.ints (flat ps))] (rowP (revP ps)) (blkP (revP ps)) := by
  refine bodyX_resR mixed EBk_ok (m := 30) (n := 12) rfl ?_
  rw [tr_bkF]
  simp only [ptsA_flat]
  exact ⟨by rw [wr (by omega)], trivial, flat_length ps, h, some 2, ⟨rfl, rfl, rfl⟩, rfl, rfl, rfl⟩
end Go.Proofs.Ytpjdnplpiamjcaa
namespace Go.Proofs.Ytpjdnplpiamjcaa
set_option linter.all false
open Go.RowKit
set_option maxRecDepth 100000 in
theorem tr_dWe (bs : List Int) (n : Nat) : bodyX Try.prog EDr 30 12 50 [.row n (.bytes bs)] = brT (decide (2000 < (↑n : Int))) (.need ((0 : Int) ≤ bndI none (0 : Int) ∧ bndI none (0 : Int) ≤ bndI (some (IntKind.i64, (2000 : Int))) (↑n : Int) ∧ bndI (some (IntKind.i64, (2000 : Int))) (↑n : Int) ≤ (↑n : Int)) (.need (rdC bs (2000 : Nat) (0 : Int)) (.need ((0 : Int) ≤ (600000 : Int)) (.need ((0 : Int) ≤ (9 : Int) ∧ (9 : Int) ≤ (20 : Int)) (.fin (.slice (some ⟨2, 0, none⟩) ((apsL bs 2000 0 9).length) ((apsL bs 2000 0 9).length)) [some ⟨.view, .bytes (bs)⟩, some ⟨.box, .vals [.slice (some ⟨0, 0, none⟩) (2000) (2000), .int .i64 (apsP bs 2000 0 9)]⟩, some ⟨.row 37 2, .ints (flat (apsL bs 2000 0 9))⟩]))))) (.need (rdC bs n (0 : Int)) (.need ((0 : Int) ≤ (600000 : Int)) (.need ((0 : Int) ≤ (9 : Int) ∧ (9 : Int) ≤ (20 : Int)) (.fin (.slice (some ⟨2, 0, none⟩) ((apsL bs n 0 9).length) ((apsL bs n 0 9).length)) [some ⟨.view, .bytes (bs)⟩, some ⟨.box, .vals [.slice (some ⟨0, 0, none⟩) (n) (n), .int .i64 (apsP bs n 0 9)]⟩, some ⟨.row 37 2, .ints (flat (apsL bs n 0 9))⟩])))) := by kernel_rfl
theorem resR_dWe (bs : List Int) (n : Nat) (hb : Bytes bs) (hn : n ≤ bs.length) : ResR Try.prog 50 [.row n (.bytes bs)] (rowP (apsL bs (rdL n) 0 9)) (blkP (apsL bs (rdL n) 0 9)) := by
  refine bodyX_resR mixed EDr_ok (m := 30) (n := 12) rfl ?_
  rw [tr_dWe]
  refine brT_ok.2 ⟨fun h => ?_, fun h => ?_⟩
  · have h := of_decide_eq_true h
    obtain ⟨k1, k2, k3, k4⟩ := drKey hb hn (l := 2000) (by omega) (by omega) (m := 9) (by omega)
    rw [rdL_of h]
    exact ⟨bnd2000 h, k1, by omega, by omega, some 2, ⟨rfl, rfl, rfl⟩, rfl, rfl, rfl⟩
  · have h := of_decide_eq_false h
    obtain ⟨k1, k2, k3, k4⟩ := drKey hb hn (l := n) (by omega) (by omega) (m := 9) (by omega)
    rw [rdL_no h]
    exact ⟨k1, by omega, by omega, some 2, ⟨rfl, rfl, rfl⟩, rfl, rfl, rfl⟩
def RWe : TabR := fun f ds => match f, ds with
  | 50, [.row n (.bytes bs)] => some (rowP (apsL bs (rdL n) 0 9), blkP (apsL bs (rdL n) 0 9), [Bytes bs, n ≤ bs.length])
  | 52, [.row m (.ints xs)] => some (rowP (revP (ptsA m xs)), blkP (revP (ptsA m xs)), [xs.length = m * 2, m ≤ 100000])
  | f, ds => RHv f ds
theorem RWe_ok : TabROk Try.prog RWe := by
  intro f ds v b C h hC
  unfold RWe at h
  split at h
  · obtain ⟨rfl, rfl, rfl⟩ : _ ∧ _ ∧ _ := by simpa using h
    exact resR_dWe _ _ hC.1 hC.2.1
  · obtain ⟨rfl, rfl, rfl⟩ : _ ∧ _ ∧ _ := by simpa using h
    obtain ⟨ps, rfl, rfl⟩ := even_flat hC.1
    rw [ptsA_flat]
    exact resR_bkw hC.2.1
  · exact RHv_ok _ _ _ _ _ h hC
def EWl : Env := mkE TWg RWe (fun _ => noL)
theorem EWl_ok : EnvOk Try.prog EWl := mkEOk TWg_ok RWe_ok (fun _ _ _ => noL_good)
set_option maxRecDepth 100000 in
theorem tr_lWe (bs : List Int) : bodyV Try.prog EWl 30 12 12 [.row bs.length (.bytes bs)] = brT (decide (1048576 < (↑bs.length : Int))) (.fin (.bool (true)) []) (.need (Bytes (List.drop (0 : Nat) bs)) (.need (bs.length ≤ (List.drop (0 : Nat) bs).length) (.need ((apsL (List.drop (0 : Nat) bs) (rdL bs.length) (0 : Int) (9 : Int)).length * (2 : Nat) ≤ (List.drop (0 : Nat) (flat (apsL (List.drop (0 : Nat) bs) (rdL bs.length) (0 : Int) (9 : Int)))).length) (.need ((apsL (List.drop (0 : Nat) bs) (rdL bs.length) (0 : Int) (9 : Int)).length ≤ (1000000000 : Nat)) (.need ((apsL (List.drop (0 : Nat) bs) (rdL bs.length) (0 : Int) (9 : Int)).length * (2 : Nat) ≤ (List.drop (0 : Nat) (flat (apsL (List.drop (0 : Nat) bs) (rdL bs.length) (0 : Int) (9 : Int)))).length) (.need ((apsL (List.drop (0 : Nat) bs) (rdL bs.length) (0 : Int) (9 : Int)).length ≤ (1000000000 : Nat)) (brT (!widV (ptsA (apsL (List.drop 0 bs) (rdL bs.length) 0 9).length (List.drop 0 (flat (apsL (List.drop 0 bs) (rdL bs.length) 0 9)))) == widV (ptsA (apsL (List.drop 0 bs) (rdL bs.length) 0 9).length (List.drop 0 (flat (apsL (List.drop 0 bs) (rdL bs.length) 0 9))))) (.need ((apsL (List.drop (0 : Nat) bs) (rdL bs.length) (0 : Int) (9 : Int)).length * (2 : Nat) ≤ (List.drop (0 : Nat) (flat (apsL (List.drop (0 : Nat) bs) (rdL bs.length) (0 : Int) (9 : Int)))).length) (.need ((apsL (List.drop (0 : Nat) bs) (rdL bs.length) (0 : Int) (9 : Int)).length ≤ (1000000000 : Nat)) (.fin (.bool (widV (ptsA (apsL (List.drop 0 bs) (rdL bs.length) 0 9).length (List.drop 0 (flat (apsL (List.drop 0 bs) (rdL bs.length) 0 9)))) == widV (ptsA (apsL (List.drop 0 bs) (rdL bs.length) 0 9).length (List.drop 0 (flat (apsL (List.drop 0 bs) (rdL bs.length) 0 9)))))) []))) (brT (decide (widV (ptsA (apsL (List.drop 0 bs) (rdL bs.length) 0 9).length (List.drop 0 (flat (apsL (List.drop 0 bs) (rdL bs.length) 0 9)))) < 0)) (.need ((apsL (List.drop (0 : Nat) bs) (rdL bs.length) (0 : Int) (9 : Int)).length * (2 : Nat) ≤ (List.drop (0 : Nat) (flat (apsL (List.drop (0 : Nat) bs) (rdL bs.length) (0 : Int) (9 : Int)))).length) (.need ((apsL (List.drop (0 : Nat) bs) (rdL bs.length) (0 : Int) (9 : Int)).length ≤ (1000000000 : Nat)) (.fin (.bool (widV (ptsA (apsL (List.drop 0 bs) (rdL bs.length) 0 9).length (List.drop 0 (flat (apsL (List.drop 0 bs) (rdL bs.length) 0 9)))) == widV (ptsA (apsL (List.drop 0 bs) (rdL bs.length) 0 9).length (List.drop 0 (flat (apsL (List.drop 0 bs) (rdL bs.length) 0 9)))))) []))) (.need ((apsL (List.drop (0 : Nat) bs) (rdL bs.length) (0 : Int) (9 : Int)).length * (2 : Nat) ≤ (List.drop (0 : Nat) (flat (apsL (List.drop (0 : Nat) bs) (rdL bs.length) (0 : Int) (9 : Int)))).length) (.need ((apsL (List.drop (0 : Nat) bs) (rdL bs.length) (0 : Int) (9 : Int)).length ≤ (1000000000 : Nat)) (brT (decide (widV (ptsA (apsL (List.drop 0 bs) (rdL bs.length) 0 9).length (List.drop 0 (flat (apsL (List.drop 0 bs) (rdL bs.length) 0 9)))) < (↑(hulV (ptsA (apsL (List.drop 0 bs) (rdL bs.length) 0 9).length (List.drop 0 (flat (apsL (List.drop 0 bs) (rdL bs.length) 0 9))))).length : Int))) (.need ((hulV (ptsA (apsL (List.drop (0 : Nat) bs) (rdL bs.length) (0 : Int) (9 : Int)).length (List.drop (0 : Nat) (flat (apsL (List.drop (0 : Nat) bs) (rdL bs.length) (0 : Int) (9 : Int)))))).length * (2 : Nat) ≤ (List.drop (0 : Nat) (flat (hulV (ptsA (apsL (List.drop (0 : Nat) bs) (rdL bs.length) (0 : Int) (9 : Int)).length (List.drop (0 : Nat) (flat (apsL (List.drop (0 : Nat) bs) (rdL bs.length) (0 : Int) (9 : Int)))))))).length) (.need ((hulV (ptsA (apsL (List.drop (0 : Nat) bs) (rdL bs.length) (0 : Int) (9 : Int)).length (List.drop (0 : Nat) (flat (apsL (List.drop (0 : Nat) bs) (rdL bs.length) (0 : Int) (9 : Int)))))).length ≤ (1000000000 : Nat)) (brT (widV (ptsA (hulV (ptsA (apsL (List.drop 0 bs) (rdL bs.length) 0 9).length (List.drop 0 (flat (apsL (List.drop 0 bs) (rdL bs.length) 0 9))))).length (List.drop 0 (flat (hulV (ptsA (apsL (List.drop 0 bs) (rdL bs.length) 0 9).length (List.drop 0 (flat (apsL (List.drop 0 bs) (rdL bs.length) 0 9)))))))) == widV (ptsA (apsL (List.drop 0 bs) (rdL bs.length) 0 9).length (List.drop 0 (flat (apsL (List.drop 0 bs) (rdL bs.length) 0 9))))) (.need ((List.drop (0 : Nat) (flat (apsL (List.drop (0 : Nat) bs) (rdL bs.length) (0 : Int) (9 : Int)))).length = (apsL (List.drop (0 : Nat) bs) (rdL bs.length) (0 : Int) (9 : Int)).length * (2 : Nat)) (.need ((apsL (List.drop (0 : Nat) bs) (rdL bs.length) (0 : Int) (9 : Int)).length ≤ (100000 : Nat)) (.need ((revP (ptsA (apsL (List.drop (0 : Nat) bs) (rdL bs.length) (0 : Int) (9 : Int)).length (List.drop (0 : Nat) (flat (apsL (List.drop (0 : Nat) bs) (rdL bs.length) (0 : Int) (9 : Int)))))).length * (2 : Nat) ≤ (List.drop (0 : Nat) (flat (revP (ptsA (apsL (List.drop (0 : Nat) bs) (rdL bs.length) (0 : Int) (9 : Int)).length (List.drop (0 : Nat) (flat (apsL (List.drop (0 : Nat) bs) (rdL bs.length) (0 : Int) (9 : Int)))))))).length) (.need ((revP (ptsA (apsL (List.drop (0 : Nat) bs) (rdL bs.length) (0 : Int) (9 : Int)).length (List.drop (0 : Nat) (flat (apsL (List.drop (0 : Nat) bs) (rdL bs.length) (0 : Int) (9 : Int)))))).length ≤ (1000000000 : Nat)) (.fin (.bool (widV (ptsA (revP (ptsA (apsL (List.drop 0 bs) (rdL bs.length) 0 9).length (List.drop 0 (flat (apsL (List.drop 0 bs) (rdL bs.length) 0 9))))).length (List.drop 0 (flat (revP (ptsA (apsL (List.drop 0 bs) (rdL bs.length) 0 9).length (List.drop 0 (flat (apsL (List.drop 0 bs) (rdL bs.length) 0 9)))))))) == widV (ptsA (apsL (List.drop 0 bs) (rdL bs.length) 0 9).length (List.drop 0 (flat (apsL (List.drop 0 bs) (rdL bs.length) 0 9)))))) []))))) (.fin (.bool (false)) [])))) (.fin (.bool (false)) [])))))))))))) := by kernel_rfl
theorem okL_mem {ps qs : List Pt} (h : okL ps = true) (hs : ∀ q ∈ qs, q ∈ ps) (hl : qs.length ≤ 20) : okL qs = true := by
  obtain ⟨h1, _⟩ := okL_20 h
  unfold okL
  rw [allV_sub h1 hs, decide_eq_true hl]
  rfl
theorem hulV_hulV {ps : List Pt} (h3 : 3 ≤ (hulV ps).length) : hulV (hulV ps) = hulV ps := by
  rcases ho : okL ps with _ | _
  · rw [hulV_no ho] at h3; simp at h3
  · have e := hulV_yes ho
    rw [e] at h3 ⊢
    have l1 := hul_le (srtL_asc ps)
    have l2 := srtL_le ps
    have l3 := (okL_20 ho).2
    rw [hulV_yes (okL_mem ho (fun z hz => (srtL_mem ps z).1 (hul_in (srtL_asc ps) hz)) (by omega))]
    exact hul_hul (srtL_asc ps) h3
theorem hulV_rvP (ps : List Pt) : hulV (revP ps) = hulV ps := by
  have hm : ∀ z, z ∈ revP ps ↔ z ∈ ps := fun z => List.mem_reverse
  have e : okL (revP ps) = okL ps := by
    rw [Bool.eq_iff_iff]
    constructor
    · intro h; exact okL_mem h (fun q hq => (hm q).2 hq) (by rw [← revP_len]; exact (okL_20 h).2)
    · intro h; exact okL_mem h (fun q hq => (hm q).1 hq) (by rw [revP_len]; exact (okL_20 h).2)
  rcases ho : okL ps with _ | _
  · rw [hulV_no ho, hulV_no (e.trans ho)]
  · rw [hulV_yes ho, hulV_yes (e.trans ho), srtL_same hm]
theorem widV_part (ps : List Pt) : (widV ps < 0 ∧ (hulV ps).length < 3) ∨ (3 ≤ (hulV ps).length ∧ 0 ≤ widV ps ∧ widV ps < (hulV ps).length) := by
  unfold widV
  split
  · exact .inl ⟨by decide, by assumption⟩
  · have := bsN_lt (wdL (hulV ps) (hulV ps).length) (hulV ps).length (by omega)
    exact .inr ⟨by omega, by omega, by omega⟩
theorem rdL_le (n : Nat) : rdL n ≤ n ∧ rdL n ≤ 2000 := by
  by_cases h : (2000 : Int) < (n : Int)
  · rw [rdL_of h]; omega
  · rw [rdL_no h]; omega
theorem law_widthEdge (bs : List Int) (hb : Bytes bs) (_ : bs.length ≤ maxLen) : Res Try.prog 12 [.row bs.length (.bytes bs)] (.bool true) := by
  refine bodyV_res mixed EWl_ok (m := 30) (n := 12) rfl ?_
  rw [tr_lWe]
  simp only [List.drop_zero]
  have hl := (drKey hb (Nat.le_refl _) (l := rdL bs.length) (rdL_le bs.length).1 (rdL_le bs.length).2 (m := 9) (by omega)).2.2.2
  generalize apsL bs (rdL bs.length) 0 9 = ps at *
  have l1 := hulV_len ps
  have l2 := revP_len ps
  have e1 : widV (revP ps) = widV ps := by unfold widV; rw [hulV_rvP]
  have fl := flat_length ps
  have er : ptsA (revP ps).length (flat (revP ps)) = revP ps := ptsA_flat _
  simp only [ptsA_flat, flat_length, beq_self_eq_true, Bool.not_true, brT_f, e1, er]
  refine brT_ok.2 ⟨fun _ => rfl, fun _ => ?_⟩
  refine ⟨hb, Nat.le_refl _, by omega, by omega, by omega, by omega, brT_ok.2 ⟨fun q => ?_, fun q => ?_⟩⟩
  · exact ⟨by omega, by omega, rfl⟩
  · have q := of_decide_eq_false q
    rcases widV_part ps with ⟨h, _⟩ | ⟨h3, h4, h5⟩
    · omega
    have e2 : widV (hulV ps) = widV ps := by
      show (if (hulV (hulV ps)).length < 3 then _ else _) = _
      rw [hulV_hulV h3]
      rfl
    simp only [e2, decide_eq_true h5, beq_self_eq_true, brT_t, Tree.ok]
    repeat' (first | exact True.intro | exact rfl | assumption | omega | refine And.intro ?_ ?_)
end Go.Proofs.Ytpjdnplpiamjcaa
