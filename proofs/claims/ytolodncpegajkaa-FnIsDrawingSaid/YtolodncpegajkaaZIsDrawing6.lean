/-
  Texts that the proof needs, merged. Written by an AI agent.
-/
import Derived.Orders
import Derived.Below
import Derived.OrdersIn
import Derived.Deep.LoopGhost
import Derived.WalkKit
import Derived.Laws.CopyRow
import Derived.Laws.AppendOwn
import Derived.Laws.Slices
import Derived.Laws.MakeOwn
import Derived.Test.YtolodncpegajkaaRows
import Derived.ProofKit
import Derived.OpenShut
import Derived.Carry
import Derived.IntWalk
import Derived.Test.YtolodncpegajkaaProg
import Derived.WalkSpells
import Derived.WalkLawsBesides
import Derived.Lib.Hide
import Derived.Deep.QuietTactic
import Derived.BigQuiet
import Derived.KernelRfl
import Derived.Deep.RegionHeld3
import Derived.LoopTactic
import Derived.Laws.StructEq
import Derived.Laws.Tables
import Derived.RangeFuncNested
import Derived.RangeFuncLeaves
import Derived.Deep.Slices
import Derived.Deep.Fields
import Derived.ChangeSame
import Derived.Deep.DeepCutAuto
import Derived.Shelf.SlSortCmp.WholeK
import Derived.Sort.Grow
import Derived.Shelf.SlSortCmp.NoneTotal
import Derived.Test.YtolodncpegajkaaZIsDrawing5
namespace Go.Proofs.Ytolodncpegajkaa
set_option linter.all false
open Go.RowKit
def RCe : TabR := fun f ds => match f, ds with
  | 111, [.v (.agg ⟨[.int .i64 a, .int .i64 b, .int .i64 c, .int .i64 d]⟩), .v (.agg ⟨[.int .i64 e, .int .i64 f, .int .i64 g, .int .i64 h]⟩)] => some (rowP (ceS a b c d e f g h), blkP (ceS a b c d e f g h), [ptB a b = true, ptB c d = true, ptB e f = true, ptB g h = true])
  | 72, [.v (.agg ⟨[.int .i64 a, .int .i64 b, .int .i64 c, .int .i64 d]⟩), .v (.agg ⟨[.int .i64 e, .int .i64 f, .int .i64 g, .int .i64 h]⟩)] => some (rowP (ceI a b c d e f g h), blkP (ceI a b c d e f g h), [ptB a b = true, ptB c d = true, ptB e f = true, ptB g h = true])
  | 160, [.row m (.ints xs)] => some (rowP (srtL (ptsA m xs)), blkP (srtL (ptsA m xs)), [m * 2 ≤ xs.length, m ≤ 1000])
  | _, _ => none
theorem RCe_ok : TabROk Try.prog RCe := by
  intro f ds v b C h hC
  unfold RCe at h
  (try split at h)
  all_goals first
    | (obtain ⟨rfl, rfl, rfl⟩ : _ ∧ _ ∧ _ := by simpa using h
       with_reducible refine resR_sCe ?_ ?_ ?_ ?_
       · exact hC.1
       · exact hC.2.1
       · exact hC.2.2.1
       · exact hC.2.2.2.1)
    | (obtain ⟨rfl, rfl, rfl⟩ : _ ∧ _ ∧ _ := by simpa using h
       with_reducible refine resR_iCe ?_ ?_ ?_ ?_
       · exact hC.1
       · exact hC.2.1
       · exact hC.2.2.1
       · exact hC.2.2.2.1)
    | (obtain ⟨rfl, rfl, rfl⟩ : _ ∧ _ ∧ _ := by simpa using h
       obtain ⟨_, h2⟩ := ptsA_spec hC.1
       exact resR_pts1 (pre := []) (post := []) hC.1 (resR_srt _ (by rw [h2]; exact hC.2.1)))
    | cases h
def ECe : Env := mkE TOl RCe (fun _ => noL)
theorem ECe_ok : EnvOk Try.prog ECe := mkEOk TOl_ok RCe_ok (fun _ _ _ => noL_good)
set_option maxRecDepth 100000 in
theorem tr_sRel (a b c d e f g h : Int) : bodyV Try.prog ECe 30 12 63 [.v (.agg #[iv a, iv b, iv c, iv d]), .v (.agg #[iv e, iv f, iv g, iv h])] = .need (ptB a b = true) (.need (ptB c d = true) (.need (ptB e f = true) (.need (ptB g h = true) (brT (decide (1 < (↑(ceS a b c d e f g h).length : Int))) (.fin (.int .i64 (3)) []) (brT ((↑(ceS a b c d e f g h).length : Int) == 1) (.fin (.int .i64 (1)) []) (.need (ptB a b = true) (.need (ptB c d = true) (.need (ptB e f = true) (.need (ptB a b = true) (.need (ptB c d = true) (.need (ptB g h = true) (brT (decide (IntKind.i64.wrap (cmpI (crossI a b c d e f) 0 * cmpI (crossI a b c d g h) 0) < 0)) (.need (ptB e f = true) (.need (ptB g h = true) (.need (ptB a b = true) (.need (ptB e f = true) (.need (ptB g h = true) (.need (ptB c d = true) (brT (decide (IntKind.i64.wrap (cmpI (crossI e f g h a b) 0 * cmpI (crossI e f g h c d) 0) < 0)) (.fin (.int .i64 (2)) []) (.fin (.int .i64 (0)) [])))))))) (.fin (.int .i64 (0)) []))))))))))))) := by kernel_rfl
set_option maxRecDepth 100000 in
theorem tr_iRel (a b c d e f g h : Int) : bodyV Try.prog ECe 30 12 26 [.v (.agg #[iv a, iv b, iv c, iv d]), .v (.agg #[iv e, iv f, iv g, iv h])] = brT (!segB a b c d) (.fin (.int .i64 (-1)) []) (brT (!segB e f g h) (.fin (.int .i64 (-1)) []) (.need (ptB a b = true) (.need (ptB c d = true) (.need (ptB e f = true) (.need (ptB g h = true) (brT ((↑(ceI a b c d e f g h).length : Int) == 0) (.need (ptB a b = true) (.need (ptB c d = true) (.need (ptB e f = true) (.need (ptB a b = true) (.need (ptB c d = true) (.need (ptB g h = true) (brT (decide (IntKind.i64.wrap (cmpI (crossI a b c d e f) 0 * cmpI (crossI a b c d g h) 0) < 0)) (.need (ptB e f = true) (.need (ptB g h = true) (.need (ptB a b = true) (.need (ptB e f = true) (.need (ptB g h = true) (.need (ptB c d = true) (brT (decide (IntKind.i64.wrap (cmpI (crossI e f g h a b) 0 * cmpI (crossI e f g h c d) 0) < 0)) (.fin (.int .i64 (2)) []) (.fin (.int .i64 (0)) [])))))))) (.fin (.int .i64 (0)) [])))))))) (brT ((↑(ceI a b c d e f g h).length : Int) == 1) (.fin (.int .i64 (1)) []) (.fin (.int .i64 (3)) [])))))))) := by kernel_rfl
/-- Are the ends of the second segment on different sides of the first one? -/
def dvB (a b c d e f g h : Int) : Bool := decide (IntKind.i64.wrap (cmpI (crossI a b c d e f) 0 * cmpI (crossI a b c d g h) 0) < 0)
def relN (n : Nat) (x : Bool) : Int := if 1 < n then 3 else if n = 1 then 1 else bif x then 2 else 0
/-- How two segments of valid points meet. -/
def relA (a b c d e f g h : Int) : Int := relN (ceS a b c d e f g h).length (dvB a b c d e f g h && dvB e f g h a b c d)
def relV (a b c d e f g h : Int) : Int := bif segB a b c d && segB e f g h then relA a b c d e f g h else -1
theorem segB_pt {a b c d : Int} (h : segB a b c d = true) : ptB a b = true ∧ ptB c d = true := by
  unfold segB at h
  simp only [Bool.and_eq_true] at h
  exact h.1
theorem res_sRel {a b c d e f g h : Int} (h1 : ptB a b = true) (h2 : ptB c d = true) (h3 : ptB e f = true) (h4 : ptB g h = true) : Res Try.prog 63 [.v (.agg #[iv a, iv b, iv c, iv d]), .v (.agg #[iv e, iv f, iv g, iv h])] (iv (relA a b c d e f g h)) := by
  refine bodyV_res mixed ECe_ok (m := 30) (n := 12) rfl ?_
  rw [tr_sRel]
  simp only [brT_ok, Tree.ok, h1, h2, h3, h4, true_and, decide_eq_true_eq, decide_eq_false_iff_not, beq_iff_eq, beq_eq_false_iff_ne]
  unfold relA relN dvB
  refine ⟨fun g1 => ?_, fun g1 => ⟨fun g2 => ?_, fun g2 => ⟨fun g3 => ⟨fun g4 => ?_, fun g4 => ?_⟩, fun g3 => ?_⟩⟩⟩
  · rw [if_pos (by omega)]
  · rw [if_neg (by omega), if_pos (by omega)]
  all_goals
    rw [if_neg (by omega), if_neg (by omega)]
    simp [g3]
  all_goals simp [g4]
theorem res_iRel (a b c d e f g h : Int) : Res Try.prog 26 [.v (.agg #[iv a, iv b, iv c, iv d]), .v (.agg #[iv e, iv f, iv g, iv h])] (iv (relV a b c d e f g h)) := by
  refine bodyV_res mixed ECe_ok (m := 30) (n := 12) rfl ?_
  rw [tr_iRel]
  unfold relV
  rcases s1 : segB a b c d with _ | _
  · simp [brT_ok, Tree.ok]
  rcases s2 : segB e f g h with _ | _
  · simp [brT_ok, Tree.ok]
  obtain ⟨h1, h2⟩ := segB_pt s1
  obtain ⟨h3, h4⟩ := segB_pt s2
  have hl := (ce_same a b c d e f g h).1
  simp only [brT_ok, Tree.ok, h1, h2, h3, h4, true_and, decide_eq_true_eq, decide_eq_false_iff_not, beq_iff_eq, beq_eq_false_iff_ne, Bool.not_true, Bool.and_self, cond_true, hl]
  unfold relA relN dvB
  repeat' (first | refine And.intro ?_ ?_ | intro _)
  all_goals first
    | (rw [if_neg (by omega), if_pos (by omega)]; done)
    | (rw [if_pos (by omega)]; done)
    | (rw [if_neg (by omega), if_neg (by omega)]; simp [*]; done)
    | (exfalso; simp_all; done)
def pRlA : List DArg → Option (Value × List Prop)
  | [.v (.agg ⟨[.int .i64 a, .int .i64 b, .int .i64 c, .int .i64 d]⟩), .v (.agg ⟨[.int .i64 e, .int .i64 f, .int .i64 g, .int .i64 h]⟩)] => some (iv (relA a b c d e f g h), [ptB a b = true, ptB c d = true, ptB e f = true, ptB g h = true])
  | _ => none
def pRlV : List DArg → Option (Value × List Prop)
  | [.v (.agg ⟨[.int .i64 a, .int .i64 b, .int .i64 c, .int .i64 d]⟩), .v (.agg ⟨[.int .i64 e, .int .i64 f, .int .i64 g, .int .i64 h]⟩)] => some (iv (relV a b c d e f g h), [])
  | _ => none
def TRa : Tab := fun f ds => match f with
  | 63 => pRlA ds
  | 26 => pRlV ds
  | f => TOl f ds
theorem pRlA_ok {ds : List DArg} {v : Value} {C : List Prop} (h : pRlA ds = some (v, C)) (hC : AllP C) : Res Try.prog 63 ds v := by
  unfold pRlA at h
  split at h
  · obtain ⟨rfl, rfl⟩ : _ ∧ _ := by simpa using h
    exact res_sRel hC.1 hC.2.1 hC.2.2.1 hC.2.2.2.1
  · cases h
theorem pRlV_i {ds : List DArg} {v : Value} {C : List Prop} (h : pRlV ds = some (v, C)) : Res Try.prog 26 ds v := by
  unfold pRlV at h
  split at h
  · obtain ⟨rfl, rfl⟩ : _ ∧ _ := by simpa using h
    exact res_iRel _ _ _ _ _ _ _ _
  · cases h
theorem TRa_ok : TabOk Try.prog TRa := by
  intro f ds v C h hC
  unfold TRa at h
  (try split at h)
  all_goals first | with_reducible exact pRlA_ok h hC | with_reducible exact pRlV_i h | exact TOl_ok _ _ _ _ h hC
def TRb : Tab := fun f ds => match f with
  | f => TRa f ds
theorem TRb_ok : TabOk Try.prog TRb := by
  intro f ds v C h hC
  unfold TRb at h
  (try split at h)
  all_goals first | with_reducible exact pRlV_s h | exact TRa_ok _ _ _ _ h hC
end Go.Proofs.Ytolodncpegajkaa
namespace Go.Proofs.Ytolodncpegajkaa
set_option linter.all false
open Go.RowKit
noncomputable def rlC : Code := codeOf Try.f113
noncomputable def rlB : Code := inLop (inBlk (seqR rlC))
noncomputable def rlX : Code := inBlk (seqL (seqR (seqR rlB)))
noncomputable def rlY : Code := inLop (inBlk (seqR (seqR rlX)))
noncomputable def rl0 : Code := seqL rlC
noncomputable def rl1 : Code := seqL rlB
noncomputable def rl2 : Code := seqL rlX
noncomputable def rl3 : Code := seqL (seqR rlX)
noncomputable def rl4 : Code := seqL (seqL rlY)
noncomputable def rl6 : List Oper := rgOps (seqL (inBlk (seqL (seqR rlY))))
noncomputable def rl5 : Code := seqR (seqR rlY)
noncomputable def rl7 : Code := seqR (seqR (seqR rlB))
set_option maxRecDepth 100000 in
theorem rl_is : codeOf Try.f113 = .seq rl0 (.block 0 (.loop (.seq rl1 (.seq (.cond (.tmp 9) .skip (.exit 0)) (.seq (.block 1 (.seq rl2 (.seq rl3 (.block 2 (.loop (.seq (.seq rl4 (.cond (.tmp 18) .skip (.exit 2))) (.seq (.block 3 (.seq (.region 6 rl6.toArray true) (.cond (.tmp 32) .ret .skip))) rl5))))))) rl7))))) := by kernel_rfl
/-- The cells of a segment of a list. -/
def sgC (xs : List Int) (i : Nat) : List Value := [.int .i64 (xs.getD (i * 4) 0), .int .i64 (xs.getD (i * 4 + 1) 0), .int .i64 (xs.getD (i * 4 + 2) 0), .int .i64 (xs.getD (i * 4 + 3) 0)]
/-- The relation of two segments of a list. -/
def rl4V (xs : List Int) (i k : Nat) : Int := relV (xs.getD (i * 4) 0) (xs.getD (i * 4 + 1) 0) (xs.getD (i * 4 + 2) 0) (xs.getD (i * 4 + 3) 0) (xs.getD (k * 4) 0) (xs.getD (k * 4 + 1) 0) (xs.getD (k * 4 + 2) 0) (xs.getD (k * 4 + 3) 0)
def rlM (xs : List Int) (n : Nat) : List (Option Blk) := [some ⟨.view, .vals [.slice (some ⟨1, 0, none⟩) n n]⟩, some ⟨.view, .ints xs⟩]
def rlN (xs : List Int) (n a : Nat) : List (Option Blk) := [some ⟨.view, .vals [.slice (some ⟨1, 0, none⟩) n n]⟩, some ⟨.view, .ints xs⟩, some ⟨.view, .vals (sgC xs a)⟩]
def rlS (l : Nat) (xs : List Int) (n : Nat) : St := ⟨.func (.yield l) #[] #[] :: .pointer (some ⟨0, 0, none⟩) :: List.replicate 32 undef, rlM xs n⟩
def rlI (l : Nat) (xs : List Int) (n a : Nat) : St := ⟨[.func (.yield l) #[] #[], .pointer (some ⟨0, 0, none⟩), topV, topV, topV, topV, .slice (some ⟨1, 0, none⟩) n n, .int .i64 n, .int .i64 a, topV, topV, topV, topV, topV, topV, topV, topV, topV, topV, topV, topV, topV, topV, topV, topV, topV, topV, topV, topV, topV, topV, topV, topV, topV], rlM xs n⟩
def rlJ (l : Nat) (xs : List Int) (n a : Nat) : St := ⟨[.func (.yield l) #[] #[], .pointer (some ⟨0, 0, none⟩), topV, .int .i64 a, .pointer (some ⟨2, 0, none⟩), topV, .slice (some ⟨1, 0, none⟩) n n, .int .i64 n, .int .i64 a, topV, topV, topV, topV, topV, topV, topV, topV, topV, topV, topV, topV, topV, topV, topV, topV, topV, topV, topV, topV, topV, topV, topV, topV, topV], rlN xs n a⟩
def rlK (l : Nat) (xs : List Int) (n a b : Nat) : St := ⟨[.func (.yield l) #[] #[], .pointer (some ⟨0, 0, none⟩), topV, .int .i64 a, .pointer (some ⟨2, 0, none⟩), .int .i64 b, .slice (some ⟨1, 0, none⟩) n n, .int .i64 n, .int .i64 a, topV, topV, topV, topV, topV, topV, topV, topV, topV, topV, topV, topV, topV, topV, topV, topV, topV, topV, topV, topV, topV, topV, topV, topV, topV], rlN xs n a⟩
def rlQ (l : Nat) (xs : List Int) (n a b : Nat) (t : Bool) : St := ⟨[.func (.yield l) #[] #[], .pointer (some ⟨0, 0, none⟩), topV, .int .i64 a, .pointer (some ⟨2, 0, none⟩), .int .i64 b, .slice (some ⟨1, 0, none⟩) n n, .int .i64 n, .int .i64 a, topV, topV, topV, topV, topV, topV, topV, topV, topV, topV, topV, topV, topV, topV, topV, topV, topV, topV, topV, topV, topV, topV, .bool t, topV, topV], rlN xs n a⟩
def rlZ (t : Bool) : St := ⟨[topV, topV, topV, topV, topV, topV, topV, topV, topV, topV, topV, topV, topV, topV, topV, topV, topV, topV, topV, topV, topV, topV, topV, topV, topV, topV, topV, topV, topV, topV, topV, .bool t, topV, topV], []⟩
def TRi : Tab := fun f ds => match f with
  | 26 => pRlV ds
  | _ => none
theorem TRi_ok : TabOk Try.prog TRi := by
  intro f ds v C h hC
  unfold TRi at h
  split at h
  · exact pRlV_i h
  · cases h
set_option maxRecDepth 100000 in
theorem tr_rl0 (l : Nat) (xs : List Int) (n : Nat) : asT Try.prog noJ (runM Try.prog (tabE B0) 30 12) rl0 (.leaf .normal) (rlS l xs n) = .leaf .normal ⟨(.func (Fn.yield l) #[] #[] :: .pointer (some ⟨0, 0, none⟩) :: .tuple #[] :: .tuple #[] :: .tuple #[] :: .tuple #[] :: .slice (some ⟨1, 0, none⟩) (n) (n) :: .int .i64 ((↑n : Int)) :: .int .i64 (0) :: .tuple #[] :: .tuple #[] :: .tuple #[] :: .tuple #[] :: .tuple #[] :: .tuple #[] :: .tuple #[] :: .tuple #[] :: .tuple #[] :: .tuple #[] :: .tuple #[] :: .tuple #[] :: .tuple #[] :: .tuple #[] :: .tuple #[] :: .tuple #[] :: .tuple #[] :: .tuple #[] :: .tuple #[] :: .tuple #[] :: .tuple #[] :: .tuple #[] :: .tuple #[] :: .tuple #[] :: .tuple #[] :: []), [some ⟨.view, .vals [.slice (some ⟨1, 0, none⟩) (n) (n)]⟩, some ⟨.view, .ints (xs)⟩]⟩ := by kernel_rfl
set_option maxRecDepth 100000 in
theorem tr_rl1 (l : Nat) (xs : List Int) (n a : Nat) : asT Try.prog noJ (runM Try.prog (tabE B0) 30 12) rl1 (.leaf .normal) (rlI l xs n a) = .leaf .normal ⟨(.func (Fn.yield l) #[] #[] :: .pointer (some ⟨0, 0, none⟩) :: topV :: topV :: topV :: topV :: .slice (some ⟨1, 0, none⟩) (n) (n) :: .int .i64 ((↑n : Int)) :: .int .i64 ((↑a : Int)) :: .bool (decide ((↑a : Int) < (↑n : Int))) :: topV :: topV :: topV :: topV :: topV :: topV :: topV :: topV :: topV :: topV :: topV :: topV :: topV :: topV :: topV :: topV :: topV :: topV :: topV :: topV :: topV :: topV :: topV :: topV :: []), [some ⟨.view, .vals [.slice (some ⟨1, 0, none⟩) (n) (n)]⟩, some ⟨.view, .ints (xs)⟩]⟩ := by kernel_rfl
set_option maxRecDepth 100000 in
theorem tr_rl2 (l : Nat) (xs : List Int) (n a : Nat) : asT Try.prog noJ (runM Try.prog (tabE B0) 30 12) rl2 (.leaf .normal) (rlI l xs n a) = .need ((0 : Int) ≤ (↑a : Int) ∧ (↑a : Int) < (↑n : Int)) (.need ((0 : Nat) + (↑a : Int).toNat * (4 : Nat) + (4 : Nat) ≤ xs.length) (.leaf .normal ⟨(.func (Fn.yield l) #[] #[] :: .pointer (some ⟨0, 0, none⟩) :: topV :: .int .i64 ((↑a : Int)) :: .pointer (some ⟨2, 0, none⟩) :: topV :: .slice (some ⟨1, 0, none⟩) (n) (n) :: .int .i64 ((↑n : Int)) :: .int .i64 ((↑a : Int)) :: topV :: .int .i64 ((↑a : Int)) :: .pointer (some ⟨1, 0 + (↑a : Int).toNat * 4, none⟩) :: .agg #[.int .i64 (xs.getD (0 + (↑a : Int).toNat * 4) 0), .int .i64 (xs.getD (0 + (↑a : Int).toNat * 4 + 1) 0), .int .i64 (xs.getD (0 + (↑a : Int).toNat * 4 + 1 + 1) 0), .int .i64 (xs.getD (0 + (↑a : Int).toNat * 4 + 1 + 1 + 1) 0)] :: topV :: topV :: topV :: topV :: topV :: topV :: topV :: topV :: topV :: topV :: topV :: topV :: topV :: topV :: topV :: topV :: topV :: topV :: topV :: topV :: topV :: []), [some ⟨.view, .vals [.slice (some ⟨1, 0, none⟩) (n) (n)]⟩, some ⟨.view, .ints (xs)⟩, some ⟨.box, .vals [.int .i64 (xs.getD (0 + (↑a : Int).toNat * 4) 0), .int .i64 (xs.getD (0 + (↑a : Int).toNat * 4 + 1) 0), .int .i64 (xs.getD (0 + (↑a : Int).toNat * 4 + 1 + 1) 0), .int .i64 (xs.getD (0 + (↑a : Int).toNat * 4 + 1 + 1 + 1) 0)]⟩]⟩)) := by kernel_rfl
set_option maxRecDepth 100000 in
theorem tr_rl3 (l : Nat) (xs : List Int) (n a : Nat) : asT Try.prog noJ (runM Try.prog (tabE B0) 30 12) rl3 (.leaf .normal) (rlJ l xs n a) = .leaf .normal ⟨(.func (Fn.yield l) #[] #[] :: .pointer (some ⟨0, 0, none⟩) :: topV :: .int .i64 ((↑a : Int)) :: .pointer (some ⟨2, 0, none⟩) :: .int .i64 (IntKind.i64.wrap ((↑a : Int) + 1)) :: .slice (some ⟨1, 0, none⟩) (n) (n) :: .int .i64 ((↑n : Int)) :: .int .i64 ((↑a : Int)) :: topV :: topV :: topV :: topV :: .int .i64 ((↑a : Int)) :: .int .i64 (IntKind.i64.wrap ((↑a : Int) + 1)) :: topV :: topV :: topV :: topV :: topV :: topV :: topV :: topV :: topV :: topV :: topV :: topV :: topV :: topV :: topV :: topV :: topV :: topV :: topV :: []), [some ⟨.view, .vals [.slice (some ⟨1, 0, none⟩) (n) (n)]⟩, some ⟨.view, .ints (xs)⟩, some ⟨.view, .vals [.int .i64 (xs.getD (a * 4) 0), .int .i64 (xs.getD (a * 4 + 1) 0), .int .i64 (xs.getD (a * 4 + 2) 0), .int .i64 (xs.getD (a * 4 + 3) 0)]⟩]⟩ := by kernel_rfl
set_option maxRecDepth 100000 in
theorem tr_rl4 (l : Nat) (xs : List Int) (n a b : Nat) : asT Try.prog noJ (runM Try.prog (tabE B0) 30 12) rl4 (.leaf .normal) (rlK l xs n a b) = .leaf .normal ⟨(.func (Fn.yield l) #[] #[] :: .pointer (some ⟨0, 0, none⟩) :: topV :: .int .i64 ((↑a : Int)) :: .pointer (some ⟨2, 0, none⟩) :: .int .i64 ((↑b : Int)) :: .slice (some ⟨1, 0, none⟩) (n) (n) :: .int .i64 ((↑n : Int)) :: .int .i64 ((↑a : Int)) :: topV :: topV :: topV :: topV :: topV :: topV :: .int .i64 ((↑b : Int)) :: .slice (some ⟨1, 0, none⟩) (n) (n) :: .int .i64 ((↑n : Int)) :: .bool (decide ((↑b : Int) < (↑n : Int))) :: topV :: topV :: topV :: topV :: topV :: topV :: topV :: topV :: topV :: topV :: topV :: topV :: topV :: topV :: topV :: []), [some ⟨.view, .vals [.slice (some ⟨1, 0, none⟩) (n) (n)]⟩, some ⟨.view, .ints (xs)⟩, some ⟨.view, .vals [.int .i64 (xs.getD (a * 4) 0), .int .i64 (xs.getD (a * 4 + 1) 0), .int .i64 (xs.getD (a * 4 + 2) 0), .int .i64 (xs.getD (a * 4 + 3) 0)]⟩]⟩ := by kernel_rfl
set_option maxRecDepth 100000 in
theorem tr_rl6 (l : Nat) (xs : List Int) (n a b : Nat) : thenG Try.prog (tabG Try.prog TRi) 10 rl6 (rlK l xs n a b) (.leaf .normal) = .need ((0 : Int) ≤ (↑b : Int) ∧ (↑b : Int) < (↑n : Int)) (.need ((0 : Nat) + (↑b : Int).toNat * (4 : Nat) + (4 : Nat) ≤ xs.length) (.leaf .normal ⟨(.func (Fn.yield l) #[] #[] :: .pointer (some ⟨0, 0, none⟩) :: topV :: .int .i64 ((↑a : Int)) :: .pointer (some ⟨2, 0, none⟩) :: .int .i64 ((↑b : Int)) :: .slice (some ⟨1, 0, none⟩) (n) (n) :: .int .i64 ((↑n : Int)) :: .int .i64 ((↑a : Int)) :: topV :: topV :: topV :: topV :: topV :: topV :: topV :: topV :: topV :: topV :: topV :: topV :: .func (Fn.yield l) #[] #[] :: .int .i64 ((↑a : Int)) :: .int .i64 ((↑b : Int)) :: .agg #[.int .i64 ((↑a : Int)), .int .i64 ((↑b : Int))] :: .agg #[.int .i64 (xs.getD (a * 4) 0), .int .i64 (xs.getD (a * 4 + 1) 0), .int .i64 (xs.getD (a * 4 + 2) 0), .int .i64 (xs.getD (a * 4 + 3) 0)] :: .slice (some ⟨1, 0, none⟩) (n) (n) :: .int .i64 ((↑b : Int)) :: .pointer (some ⟨1, 0 + (↑b : Int).toNat * 4, none⟩) :: .agg #[.int .i64 (xs.getD (0 + (↑b : Int).toNat * 4) 0), .int .i64 (xs.getD (0 + (↑b : Int).toNat * 4 + 1) 0), .int .i64 (xs.getD (0 + (↑b : Int).toNat * 4 + 1 + 1) 0), .int .i64 (xs.getD (0 + (↑b : Int).toNat * 4 + 1 + 1 + 1) 0)] :: .int .i64 (relV (xs.getD (a * 4) 0) (xs.getD (a * 4 + 1) 0) (xs.getD (a * 4 + 2) 0) (xs.getD (a * 4 + 3) 0) (xs.getD (0 + (↑b : Int).toNat * 4) 0) (xs.getD (0 + (↑b : Int).toNat * 4 + 1) 0) (xs.getD (0 + (↑b : Int).toNat * 4 + 1 + 1) 0) (xs.getD (0 + (↑b : Int).toNat * 4 + 1 + 1 + 1) 0)) :: topV :: topV :: topV :: []), [some ⟨.view, .vals [.slice (some ⟨1, 0, none⟩) (n) (n)]⟩, some ⟨.view, .ints (xs)⟩, some ⟨.view, .vals [.int .i64 (xs.getD (a * 4) 0), .int .i64 (xs.getD (a * 4 + 1) 0), .int .i64 (xs.getD (a * 4 + 2) 0), .int .i64 (xs.getD (a * 4 + 3) 0)]⟩, none, none]⟩)) := by kernel_rfl
set_option maxRecDepth 100000 in
theorem tr_rlQ (l : Nat) (xs : List Int) (n a b : Nat) (t : Bool) : seqT Try.prog noJ (runM Try.prog (tabE B0) 30 12) rl6 3 (.leaf .normal) 11 (rl6.drop 11) (rlQ l xs n a b t) = .leaf .normal ⟨(.func (Fn.yield l) #[] #[] :: .pointer (some ⟨0, 0, none⟩) :: topV :: .int .i64 ((↑a : Int)) :: .pointer (some ⟨2, 0, none⟩) :: .int .i64 ((↑b : Int)) :: .slice (some ⟨1, 0, none⟩) (n) (n) :: .int .i64 ((↑n : Int)) :: .int .i64 ((↑a : Int)) :: topV :: topV :: topV :: topV :: topV :: topV :: topV :: topV :: topV :: topV :: topV :: topV :: topV :: topV :: topV :: topV :: topV :: topV :: topV :: topV :: topV :: topV :: .bool (t) :: .bool (!t) :: topV :: []), [some ⟨.view, .vals [.slice (some ⟨1, 0, none⟩) (n) (n)]⟩, some ⟨.view, .ints (xs)⟩, some ⟨.view, .vals [.int .i64 (xs.getD (a * 4) 0), .int .i64 (xs.getD (a * 4 + 1) 0), .int .i64 (xs.getD (a * 4 + 2) 0), .int .i64 (xs.getD (a * 4 + 3) 0)]⟩]⟩ := by kernel_rfl
set_option maxRecDepth 100000 in
theorem tr_rlZ (t : Bool) : seqT Try.prog noJ (runM Try.prog (tabE B0) 30 12) rl6 0 (.leaf .normal) 11 (rl6.drop 11) (rlZ t) = .leaf .normal ⟨(topV :: topV :: topV :: topV :: topV :: topV :: topV :: topV :: topV :: topV :: topV :: topV :: topV :: topV :: topV :: topV :: topV :: topV :: topV :: topV :: topV :: topV :: topV :: topV :: topV :: topV :: topV :: topV :: topV :: topV :: topV :: .bool (t) :: .bool (!t) :: topV :: []), []⟩ := by kernel_rfl
set_option maxRecDepth 100000 in
theorem tr_rl5 (l : Nat) (xs : List Int) (n a b : Nat) : asT Try.prog noJ (runM Try.prog (tabE B0) 30 12) rl5 (.leaf .normal) (rlK l xs n a b) = .leaf .normal ⟨(.func (Fn.yield l) #[] #[] :: .pointer (some ⟨0, 0, none⟩) :: topV :: .int .i64 ((↑a : Int)) :: .pointer (some ⟨2, 0, none⟩) :: .int .i64 (IntKind.i64.wrap ((↑b : Int) + 1)) :: .slice (some ⟨1, 0, none⟩) (n) (n) :: .int .i64 ((↑n : Int)) :: .int .i64 ((↑a : Int)) :: topV :: topV :: topV :: topV :: topV :: topV :: topV :: topV :: topV :: topV :: .int .i64 ((↑b : Int)) :: .int .i64 (IntKind.i64.wrap ((↑b : Int) + 1)) :: topV :: topV :: topV :: topV :: topV :: topV :: topV :: topV :: topV :: topV :: topV :: topV :: topV :: []), [some ⟨.view, .vals [.slice (some ⟨1, 0, none⟩) (n) (n)]⟩, some ⟨.view, .ints (xs)⟩, some ⟨.view, .vals [.int .i64 (xs.getD (a * 4) 0), .int .i64 (xs.getD (a * 4 + 1) 0), .int .i64 (xs.getD (a * 4 + 2) 0), .int .i64 (xs.getD (a * 4 + 3) 0)]⟩]⟩ := by kernel_rfl
set_option maxRecDepth 100000 in
theorem tr_rl7 (l : Nat) (xs : List Int) (n a : Nat) : asT Try.prog noJ (runM Try.prog (tabE B0) 30 12) rl7 (.leaf .normal) (rlI l xs n a) = .leaf .normal ⟨(.func (Fn.yield l) #[] #[] :: .pointer (some ⟨0, 0, none⟩) :: topV :: topV :: topV :: topV :: .slice (some ⟨1, 0, none⟩) (n) (n) :: .int .i64 ((↑n : Int)) :: .int .i64 (IntKind.i64.wrap ((↑a : Int) + 1)) :: topV :: topV :: topV :: topV :: topV :: topV :: topV :: topV :: topV :: topV :: topV :: topV :: topV :: topV :: topV :: topV :: topV :: topV :: topV :: topV :: topV :: topV :: topV :: topV :: .int .i64 (IntKind.i64.wrap ((↑a : Int) + 1)) :: []), [some ⟨.view, .vals [.slice (some ⟨1, 0, none⟩) (n) (n)]⟩, some ⟨.view, .ints (xs)⟩]⟩ := by kernel_rfl
noncomputable def o10 : Oper := (rl6[10]?).getD default
theorem o10_at : rl6.toArray[10]? = some o10 := by kernel_rfl
theorem o10_op : o10.op = .call { callee := .value (.tmp 21), args := #[.tmp 24, .tmp 30], argTypes := #[41, 3] } := by kernel_rfl
theorem o10_dst : o10.dst = some 31 := by kernel_rfl
theorem o10_guard : o10.guard = none := by kernel_rfl
theorem rl6_len : rl6.length = 12 := by kernel_rfl
end Go.Proofs.Ytolodncpegajkaa
namespace Go.Proofs.Ytolodncpegajkaa
set_option linter.all false
open Go.RowKit
/-- How many pairs begin with the next so many indices from a on. -/
def offR (n a : Nat) : Nat → Nat
  | 0 => 0
  | k + 1 => (n - 1 - a) + offR n (a + 1) k
theorem offR_succ (n : Nat) : ∀ k a, offR n a (k + 1) = offR n a k + (n - 1 - (a + k))
  | 0, a => by simp [offR]
  | k + 1, a => by
    have ih := offR_succ n k (a + 1)
    show (n - 1 - a) + offR n (a + 1) (k + 1) = (n - 1 - a) + offR n (a + 1) k + _
    rw [ih]
    omega
/-- The pair at a place of the order. -/
def prD (n : Nat) : Nat → Nat → Nat → Nat × Nat
  | 0, a, t => (a, a + 1 + t)
  | f + 1, a, t => if t < n - 1 - a then (a, a + 1 + t) else prD n f (a + 1) (t - (n - 1 - a))
def prA (n t : Nat) : Nat × Nat := prD n n 0 t
theorem prD_at (n : Nat) : ∀ k f a j, k ≤ f → j < n - 1 - (a + k) → prD n f a (offR n a k + j) = (a + k, a + k + 1 + j)
  | 0, 0, a, j, _, _ => by simp [prD, offR]
  | 0, f + 1, a, j, _, h => by
    rw [Nat.add_zero] at h
    simp only [prD, offR, Nat.zero_add, Nat.add_zero, if_pos h]
  | k + 1, 0, a, j, h, _ => by omega
  | k + 1, f + 1, a, j, h, hj => by
    have ih := prD_at n k f (a + 1) j (by omega) (by omega)
    have e : offR n a (k + 1) + j = (n - 1 - a) + (offR n (a + 1) k + j) := by
      show (n - 1 - a) + offR n (a + 1) k + j = _
      omega
    rw [e]
    simp only [prD]
    rw [if_neg (by omega), Nat.add_sub_cancel_left, ih]
    simp only [Prod.mk.injEq]
    omega
theorem prA_at {n a b : Nat} (hab : a < b) (hb : b < n) : prA n (offR n 0 a + (b - a - 1)) = (a, b) := by
  have := prD_at n a n 0 (b - a - 1) (by omega) (by omega)
  unfold prA
  rw [this]
  simp only [Prod.mk.injEq]
  omega
theorem offR_mono (n : Nat) {a b : Nat} (h : a ≤ b) : offR n 0 a ≤ offR n 0 b := by
  induction h with
  | refl => exact Nat.le_refl _
  | step _ ih =>
    rw [offR_succ]
    omega
theorem off_lt {n a b : Nat} (hab : a < b) (hb : b < n) : offR n 0 a + (b - a - 1) < offR n 0 n := by
  have h1 := offR_succ n a 0
  have h2 := offR_mono n (show a + 1 ≤ n by omega)
  omega
/-- What the iterator hands on. -/
def encR (xs : List Int) (n t : Nat) : List Value := [.agg #[.int .i64 (prA n t).1, .int .i64 (prA n t).2], .int .i64 (rl4V xs (prA n t).1 (prA n t).2)]
theorem Y_of {S : Nat → Prop} {s : St} {a : Act} {w0 : Start} {w : World} {t : Nat} {v : Value} (hc : Conc w0 s.fs a w) (ht : s.tmps.getD t undef = v) (hv : plainV v = true) : a.tmps.getD t undef = v := by
  obtain ⟨_, _, _, ρ', ct, _⟩ := hc
  have k := ct t
  rw [show s.fs.tmp t = v from ht] at k
  exact k.plain hv
set_option maxRecDepth 100000 in
set_option maxHeartbeats 2000000 in
/-- One pair handed on. -/
theorem rl_yield {xs : List Int} {n : Nat} (hx : xs.length = n * 4) {G : Nat → Prop} {l : Nat} {J : Nat → (Nat → Prop) → World → Prop} {Jx : World → Prop}
    (hgr : ∀ i Pv W1 W2, J i Pv W1 → W1.grownBy W2 none → J i (fun k => Pv k ∨ (W1.heap.size ≤ k ∧ k < W2.heap.size)) W2) (hJxg : ∀ W1 W2, Jx W1 → W1.grownBy W2 none → Jx W2)
    (hY : ∀ i Pv W1, J i Pv W1 → i < offR n 0 n → YieldAt Fence.wide 2 Try.prog l (encR xs n i).toArray W1 fun e W2 => (e = .returned (.bool true) ∧ J (i + 1) Pv W2 ∧ KpG (fun g => G g ∨ Pv g) W1 W2) ∨ (e = .returned (.bool false) ∧ Jx W2))
    {a b : Nat} (hab : a < b) (hb : b < n) {Pv : Nat → Prop} {act : Act} {w : World} (hJ : J (offR n 0 a + (b - a - 1)) Pv w) (h : HoldS (fun k => G k ∨ Pv k) (rlK l xs n a b).fs act w) :
    (Code.seq (.region 6 rl6.toArray true) (.cond (.tmp 32) .ret .skip)).wpIn (fz none) 3 Try.prog (fun e a' w' => match e with
      | .normal => ∃ Pv', J (offR n 0 a + (b - a - 1) + 1) Pv' w' ∧ HoldS (fun k => G k ∨ Pv' k) (rlK l xs n a b).fs a' w'
      | .ret => Jx w' ∧ a'.defers = []
      | _ => False) act w := by
  obtain ⟨ρ, hc, hp⟩ := h.open (mB (rlN xs n a)) (fun n b hn => hn)
  obtain ⟨s3, ⟨_, t21, t24, t30, hws⟩, rule⟩ := thenG_ok (G := tabG Try.prog TRi) (F := fun e u => e = .normal ∧ u.tmps.getD 21 undef = .func (.yield l) #[] #[] ∧ u.tmps.getD 24 undef = .agg #[.int .i64 a, .int .i64 b] ∧ u.tmps.getD 30 undef = .int .i64 (rl4V xs a b) ∧ WS 3 [] u (rlK l xs n a b)) (H := fun _ _ => False) (tabG_sound TRi_ok) mixed (m := 10) (ops := rl6) (s := rlK l xs n a b) (k := .leaf .normal) (by
    rw [tr_rl6]
    simp only [Int.toNat_natCast, Nat.zero_add]
    refine ⟨⟨by omega, by omega⟩, by omega, rfl, rfl, rfl, rfl, ?_⟩
    refine ⟨rfl, rfl, ?_, ?_⟩ <;> repeat' (first | exact True.intro | exact rfl | exact wv_top _ _ | exact fun _ => rfl | refine And.intro ?_ ?_))
  refine wpIn_seq (rule (wE ρ w) act w _ 6 hc fun a' w' hcc => ?_)
  have hg1 := wE_grown hcc
  have hJ3 := hgr _ _ _ _ hJ hg1
  obtain ⟨fn, tmps, asg, bod, hyld, hR⟩ := hY _ _ w' hJ3 (off_lt hab hb)
  have hK1 := hold_step [] hp (mB_none _) hcc hws (live_of (l := rlN xs n a) (m := rlN xs n a) rfl) (noOwn_of (s := viewS [] (rlK l xs n a b)) rfl)
  rw [viewS_nil] at hK1
  have hK1 := hK1.less (S' := fun k => G k ∨ (Pv k ∨ (w.heap.size ≤ k ∧ k < w'.heap.size))) fun k hk => by
    rcases hk with (hk | hk) | hk
    · exact .inl hk
    · exact .inr (.inl hk)
    · exact .inr (.inr hk)
  generalize hPv : (fun k => Pv k ∨ (w.heap.size ≤ k ∧ k < w'.heap.size)) = Pw at *
  have hK1 : HoldS (fun k => G k ∨ Pw k) (rlK l xs n a b).fs a' w' := by
    rw [← hPv]
    exact hK1
  have v21 : a'.eval (.tmp 21) = .func (.yield l) #[] #[] := Y_of (S := G) hcc t21 rfl
  have v24 : a'.eval (.tmp 24) = .agg #[.int .i64 a, .int .i64 b] := Y_of (S := G) hcc t24 rfl
  have v30 : a'.eval (.tmp 30) = .int .i64 (rl4V xs a b) := Y_of (S := G) hcc t30 rfl
  rw [rl6_len]
  show wpOpsIn _ _ _ _ _ [10, 11] a' w'
  rw [wpOpsIn_cons]
  unfold wpOpIn
  have hwant : Region.wanted o10 (yielded rl6.toArray a'.tmps) = true := by simp [Region.wanted, o10_guard]
  have hex : (execOp a'.eval o10).run Try.prog w' = .ok (.round l fn tmps asg bod) w' := by
    have hargs2 : (#[.tmp 24, .tmp 30] : Array Operand).map a'.eval = (encR xs n (offR n 0 a + (b - a - 1))).toArray := by
      simp [encR, prA_at hab hb, v24, v30]
    simp only [execOp, o10_op, resolve, v21, Deferred.ofValue, invoke, Sem.run_bind, Sem.run_pure, Result.andThen_ok, hargs2]
    simpa using hyld
  simp only [o10_at, hwant, if_true]
  refine ⟨fun _ _ => trivial, ?_⟩
  rw [Oper.semAt_eq _ _ _ (fun c hc => by rw [o10_op] at hc; cases hc), hex]
  refine ⟨fun h => (by cases h), RoundIn.mono hR ?_⟩
  have e11 : List.range' 11 (rl6.drop 11).length = [11] := by rw [List.length_drop, rl6_len]; rfl
  rintro e W2 (⟨rfl, hJ2, hK2⟩ | ⟨rfl, hJx⟩)
  · have hH := hK1.keep (noOwn_of (s := rlK l xs n a b) rfl) hK2.1 fun k hk => hK2.2 k (by rw [← hPv] at hk; exact hk)
    have hQ : HoldS (fun k => G k ∨ Pw k) (rlQ l xs n a b true).fs (a'.put (some 31) (.bool true)) W2 := hH.put (t := 31) (v := .bool true) rfl (show 31 < 34 by decide) rfl rfl rfl fun j hj => by
      show (rlQ l xs n a b true).tmps.getD j undef = (rlK l xs n a b).tmps.getD j undef
      rw [show (rlQ l xs n a b true).tmps = (rlK l xs n a b).tmps.set 31 (.bool true) from rfl]
      simp [hj]
    show wpOpsIn _ _ _ _ _ [11] (a'.put o10.dst (.bool true)) W2
    rw [o10_dst]
    obtain ⟨ρ2, hc2, hp2⟩ := hQ.open (mB (rlN xs n a)) (fun n b hn => hn)
    obtain ⟨s5, ⟨_, t32, ws5⟩, r5⟩ := seqT_ok (F := fun e u => e = .normal ∧ u.tmps.getD 32 undef = .bool false ∧ WS 3 [] u (rlK l xs n a b)) (H := fun _ _ => False) (failG_sound _) MM_ok (ops := rl6) (n := 3) (k := .leaf .normal) (rl6.drop 11) 11 (rlQ l xs n a b true) (fun j => by rw [List.getElem?_drop]) (by
      rw [tr_rlQ]
      refine ⟨rfl, rfl, rfl, rfl, ?_, ?_⟩ <;> repeat' (first | exact True.intro | exact rfl | exact wv_top _ _ | exact fun _ => rfl | refine And.intro ?_ ?_))
    have := fun Q hQ => r5 (wE ρ2 W2) _ W2 Q hc2 hQ
    rw [e11] at this
    refine this _ fun a4 w4 hc4 => ?_
    refine wpIn_cond_false (Y_of (S := G) hc4 t32 rfl) (wpIn_skip ?_)
    have hg4 := wE_grown hc4
    have hK4 := hold_step [] hp2 (mB_none _) hc4 ws5 (live_of (l := rlN xs n a) (m := rlN xs n a) rfl) (noOwn_of (s := viewS [] (rlK l xs n a b)) rfl)
    rw [viewS_nil] at hK4
    refine ⟨_, hgr _ _ _ _ hJ2 hg4, hK4.less fun k hk => ?_⟩
    rcases hk with (hk | hk) | hk
    · exact .inl hk
    · exact .inr (.inl hk)
    · exact .inr (.inr hk)
  · have hcZ : Conc (wE (fun _ => none) W2) (rlZ false).fs (a'.put (some 31) (.bool false)) W2 := by
      have hsz : a'.tmps.size = 34 := hK1.2.1
      refine ⟨hK1.1, by show (a'.tmps.setIfInBounds 31 (.bool false)).size = 34; simpa using hsz, BelowK.refl _ _, fun _ => none, fun j => ?_, ⟨Ext.refl _, fun _ _ => rfl, fun n b hn => by simp [rlZ, St.fs] at hn, fun n n' b b' p p' hn => by simp [rlZ, St.fs] at hn⟩⟩
      by_cases h31 : 31 = j
      · subst h31
        have e1 : (a'.put (some 31) (.bool false)).tmps.getD 31 undef = .bool false := by simp [Act.put, hsz]
        rw [e1]
        exact .lit rfl
      · rcases Nat.lt_or_ge j 34 with hj | hj
        · have e2 : (rlZ false).fs.tmp j = topV := by
            exact rep_lt (n := 34) (v := .bool false) h31 hj
          rw [e2]
          exact .top
        · have e2 : (rlZ false).fs.tmp j = undef := by
            exact rep_ge (n := 34) (v := .bool false) h31 hj
          have e1 : (a'.put (some 31) (.bool false)).tmps.getD j undef = undef := by
            simp [Act.put, Array.getElem?_setIfInBounds_ne h31, Array.getElem?_eq_none (show a'.tmps.size ≤ j by omega)]
          rw [e1, e2]
          exact .lit rfl
    obtain ⟨s5, ⟨_, t32⟩, r5⟩ := seqT_ok (F := fun e u => e = .normal ∧ u.tmps.getD 32 undef = .bool true) (H := fun _ _ => False) (failG_sound _) MM_ok (ops := rl6) (n := 0) (k := .leaf .normal) (rl6.drop 11) 11 (rlZ false) (fun j => by rw [List.getElem?_drop]) (by
      rw [tr_rlZ]
      exact ⟨rfl, rfl⟩)
    show wpOpsIn _ _ _ _ _ [11] (a'.put o10.dst (.bool false)) W2
    rw [o10_dst]
    have := fun Q hQ => r5 (wE (fun _ => none) W2) _ W2 Q hcZ hQ
    rw [e11] at this
    refine this _ fun a4 w4 hc4 => ?_
    refine wpIn_cond_true (Y_of (S := G) hc4 t32 rfl) (wpIn_ret ?_)
    exact ⟨hJxg _ _ hJx (wE_grown hc4), hc4.1⟩
end Go.Proofs.Ytolodncpegajkaa
namespace Go.Proofs.Ytolodncpegajkaa
set_option linter.all false
open Go.RowKit
theorem or3 {A B C : Nat → Prop} : ∀ k, (fun k => (A k ∨ B k) ∨ C k) k → (fun k => A k ∨ (B k ∨ C k)) k := fun k hk => by
  rcases hk with (hk | hk) | hk
  · exact .inl hk
  · exact .inr (.inl hk)
  · exact .inr (.inr hk)
noncomputable def rlL : Code := .block 2 (.loop (.seq (.seq rl4 (.cond (.tmp 18) .skip (.exit 2))) (.seq (.block 3 (.seq (.region 6 rl6.toArray true) (.cond (.tmp 32) .ret .skip))) rl5)))
set_option maxRecDepth 100000 in
set_option maxHeartbeats 2000000 in
/-- All pairs that begin with one index. -/
theorem rl_inner {xs : List Int} {n : Nat} (hx : xs.length = n * 4) (hn : n ≤ 1000000) {G : Nat → Prop} {l : Nat} {J : Nat → (Nat → Prop) → World → Prop} {Jx : World → Prop} (hgr : ∀ i Pv W1 W2, J i Pv W1 → W1.grownBy W2 none → J i (fun k => Pv k ∨ (W1.heap.size ≤ k ∧ k < W2.heap.size)) W2) (hJxg : ∀ W1 W2, Jx W1 → W1.grownBy W2 none → Jx W2) (hY : ∀ i Pv W1, J i Pv W1 → i < offR n 0 n → YieldAt Fence.wide 2 Try.prog l (encR xs n i).toArray W1 fun e W2 => (e = .returned (.bool true) ∧ J (i + 1) Pv W2 ∧ KpG (fun g => G g ∨ Pv g) W1 W2) ∨ (e = .returned (.bool false) ∧ Jx W2))
    {a : Nat} (ha : a < n) {Pv : Nat → Prop} {act : Act} {w : World} (hJ : J (offR n 0 a) Pv w) (h : HoldS (fun k => G k ∨ Pv k) (rlK l xs n a (a + 1)).fs act w) :
    rlL.wpIn (fz none) 3 Try.prog (fun e a' w' => match e with
      | .normal => ∃ Pv', J (offR n 0 (a + 1)) Pv' w' ∧ HoldS (fun k => G k ∨ Pv' k) (rlK l xs n a n).fs a' w'
      | .ret => Jx w' ∧ a'.defers = []
      | _ => False) act w := by
  refine wpIn_block (wpIn_loop_ghost (fun m a' w' => ∃ b Pv, m = n - b ∧ a < b ∧ b ≤ n ∧ J (offR n 0 a + (b - a - 1)) Pv w' ∧ HoldS (fun k => G k ∨ Pv k) (rlK l xs n a b).fs a' w') (n - (a + 1)) ⟨a + 1, Pv, rfl, by omega, by omega, by rw [show a + 1 - a - 1 = 0 by omega]; exact hJ, h⟩ ?_)
  rintro m a' w' ⟨b, Pv, rfl, h1, h2, hJ, hH⟩
  refine wpIn_seq (wpIn_seq (wpIn_mono (hold_code [] (π := []) (s := rlK l xs n a b) (s2 := rlK l xs n a b) (rlN xs n a) (fun n b h => h) (detA_of (failG_sound _) MM_ok (tr_rl4 l xs n a b)) (by
    refine ⟨rfl, rfl, ?_, ?_⟩ <;> repeat' (first | exact True.intro | exact rfl | exact wv_top _ _ | exact fun _ => rfl | refine And.intro ?_ ?_)) rfl rfl hH) ?_))
  rintro e a1 w1 ⟨rfl, hg1, hH1, ht⟩
  rw [viewS_nil] at hH1
  have hJ1 := hgr _ _ _ _ hJ hg1
  have t18 := ht 18 (.bool (decide ((b : Int) < (n : Int)))) rfl rfl
  have hH1 := hH1.less or3
  show Code.wpIn _ _ _ (.cond (.tmp 18) .skip (.exit 2)) _ a1 w1
  rcases Nat.lt_or_ge b n with hlt | hge
  · refine wpIn_cond_true (by rw [t18, decide_eq_true (by omega)]) (wpIn_skip ?_)
    show Code.wpIn _ _ _ (.seq (.block 3 _) rl5) _ a1 w1
    refine wpIn_seq (wpIn_block (wpIn_mono (rl_yield hx hgr hJxg hY h1 hlt hJ1 hH1) ?_))
    rintro e a2 w2 h
    cases e with
    | normal =>
      obtain ⟨Pv2, hJ2, hH2⟩ := h
      show Code.wpIn _ _ _ rl5 _ a2 w2
      have wb : IntKind.i64.wrap ((b : Int) + 1) = ((b + 1 : Nat) : Int) := wsucc hlt (by omega)
      refine wpIn_mono (hold_code [] (π := []) (s := rlK l xs n a b) (s2 := rlK l xs n a (b + 1)) (rlN xs n a) (fun n b h => h) (detA_of (failG_sound _) MM_ok (tr_rl5 l xs n a b)) (by
        rw [wb]
        refine ⟨rfl, rfl, ?_, ?_⟩ <;> repeat' (first | exact True.intro | exact rfl | exact wv_top _ _ | exact fun _ => rfl | refine And.intro ?_ ?_)) rfl rfl hH2) ?_
      rintro e a3 w3 ⟨rfl, hg3, hH3, _⟩
      rw [viewS_nil] at hH3
      refine ⟨n - (b + 1), by omega, b + 1, _, rfl, by omega, hlt, ?_, hH3.less or3⟩
      have := hgr _ _ _ _ hJ2 hg3
      rw [show offR n 0 a + (b - a - 1) + 1 = offR n 0 a + (b + 1 - a - 1) by omega] at this
      exact this
    | ret => exact h
    | _ => exact h.elim
  · refine wpIn_cond_false (by rw [t18, decide_eq_false (by omega)]) (wpIn_exit ?_)
    obtain rfl : b = n := by omega
    have e := offR_succ b a 0
    rw [show b - 1 - (0 + a) = b - a - 1 by omega] at e
    show ∃ Pv', _ ∧ _
    rw [e]
    exact ⟨_, hJ1, hH1⟩
/-- The state behind the piece that makes the box of a segment. -/
def rlJ0 (l : Nat) (xs : List Int) (n a : Nat) : St := ⟨(rlJ l xs n a).tmps, [some ⟨.view, .vals [.slice (some ⟨1, 0, none⟩) n n]⟩, some ⟨.view, .ints xs⟩, some ⟨.box, .vals (sgC xs a)⟩]⟩
noncomputable def rlR : Code := .seq rl1 (.seq (.cond (.tmp 9) .skip (.exit 0)) (.seq (.block 1 (.seq rl2 (.seq rl3 rlL))) rl7))
set_option maxRecDepth 100000 in
set_option maxHeartbeats 2000000 in
/-- One round of the iterator's outer loop. -/
theorem rl_outer {xs : List Int} {n : Nat} (hx : xs.length = n * 4) (hn : n ≤ 1000000) {G : Nat → Prop} {l : Nat} {J : Nat → (Nat → Prop) → World → Prop} {Jx : World → Prop} (hgr : ∀ i Pv W1 W2, J i Pv W1 → W1.grownBy W2 none → J i (fun k => Pv k ∨ (W1.heap.size ≤ k ∧ k < W2.heap.size)) W2) (hJxg : ∀ W1 W2, Jx W1 → W1.grownBy W2 none → Jx W2) (hY : ∀ i Pv W1, J i Pv W1 → i < offR n 0 n → YieldAt Fence.wide 2 Try.prog l (encR xs n i).toArray W1 fun e W2 => (e = .returned (.bool true) ∧ J (i + 1) Pv W2 ∧ KpG (fun g => G g ∨ Pv g) W1 W2) ∨ (e = .returned (.bool false) ∧ Jx W2))
    {a : Nat} (ha : a ≤ n) {Pv : Nat → Prop} {act : Act} {w : World} (hJ : J (offR n 0 a) Pv w) (h : HoldS (fun k => G k ∨ Pv k) (rlI l xs n a).fs act w) :
    rlR.wpIn (fz none) 3 Try.prog (fun e a' w' => match e with
      | .normal => a < n ∧ ∃ Pv', J (offR n 0 (a + 1)) Pv' w' ∧ HoldS (fun k => G k ∨ Pv' k) (rlI l xs n (a + 1)).fs a' w'
      | .exit id => id = 0 ∧ (∃ Pv', J (offR n 0 n) Pv' w') ∧ a'.defers = []
      | .ret => Jx w' ∧ a'.defers = []
      | _ => False) act w := by
  refine wpIn_seq (wpIn_mono (hold_code [] (π := []) (s := rlI l xs n a) (s2 := rlI l xs n a) (rlM xs n) (fun n b h => h) (detA_of (failG_sound _) MM_ok (tr_rl1 l xs n a)) (by
    refine ⟨rfl, rfl, ?_, ?_⟩ <;> repeat' (first | exact True.intro | exact rfl | exact wv_top _ _ | exact fun _ => rfl | refine And.intro ?_ ?_)) rfl rfl h) ?_)
  rintro e a1 w1 ⟨rfl, hg1, hH1, ht⟩
  rw [viewS_nil] at hH1
  have hJ1 := hgr _ _ _ _ hJ hg1
  have t9 := ht 9 (.bool (decide ((a : Int) < (n : Int)))) rfl rfl
  have hH1 := hH1.less or3
  show Code.wpIn _ _ _ (.seq (.cond (.tmp 9) .skip (.exit 0)) _) _ a1 w1
  refine wpIn_seq ?_
  rcases Nat.lt_or_ge a n with hlt | hge
  rotate_left
  · refine wpIn_cond_false (by rw [t9, decide_eq_false (by omega)]) (wpIn_exit ?_)
    obtain rfl : a = n := by omega
    exact ⟨rfl, ⟨_, hJ1⟩, hH1.1⟩
  refine wpIn_cond_true (by rw [t9, decide_eq_true (by omega)]) (wpIn_skip ?_)
  show Code.wpIn _ _ _ (.seq (.block 1 (.seq rl2 (.seq rl3 rlL))) rl7) _ a1 w1
  obtain ⟨s2, ⟨_, ws2⟩, hA2⟩ := asT_det (F := fun e u => e = .normal ∧ WS 2 [some 2] u (rlJ0 l xs n a)) (H := fun _ _ => False) (failG_sound _) MM_ok rl2 (.leaf .normal) (rlI l xs n a) (by
    rw [tr_rl2]
    simp only [Int.toNat_natCast, Nat.zero_add]
    refine ⟨⟨by omega, by omega⟩, by omega, rfl, ?_⟩
    refine ⟨rfl, rfl, ?_, ?_⟩ <;> repeat' (first | exact True.intro | exact rfl | exact wv_top _ _ | exact fun _ => rfl | refine And.intro ?_ ?_))
  refine wpIn_seq (wpIn_block (wpIn_seq (wpIn_mono (hold_code [2] (π := [some 2]) (s := rlI l xs n a) (s2 := rlJ0 l xs n a) (rlM xs n) (fun n b h => h) hA2 ws2 rfl rfl hH1) ?_)))
  rintro e a2 w2 ⟨rfl, hg2, hH2, _⟩
  have hJ2 := hgr _ _ _ _ hJ1 hg2
  have hH2 : HoldS _ (rlJ l xs n a).fs a2 w2 := hH2.less or3
  show Code.wpIn _ _ _ (.seq rl3 rlL) _ a2 w2
  have wa : IntKind.i64.wrap ((a : Int) + 1) = ((a + 1 : Nat) : Int) := wsucc hlt (by omega)
  refine wpIn_seq (wpIn_mono (hold_code [] (π := []) (s := rlJ l xs n a) (s2 := rlK l xs n a (a + 1)) (rlN xs n a) (fun n b h => h) (detA_of (failG_sound _) MM_ok (tr_rl3 l xs n a)) (by
    rw [wa]
    refine ⟨rfl, rfl, ?_, ?_⟩ <;> repeat' (first | exact True.intro | exact rfl | exact wv_top _ _ | exact fun _ => rfl | refine And.intro ?_ ?_)) rfl rfl hH2) ?_)
  rintro e a3 w3 ⟨rfl, hg3, hH3, _⟩
  rw [viewS_nil] at hH3
  have hJ3 := hgr _ _ _ _ hJ2 hg3
  show Code.wpIn _ _ _ rlL _ a3 w3
  refine wpIn_mono (rl_inner hx hn hgr hJxg hY hlt hJ3 (hH3.less or3)) ?_
  rintro e a4 w4 h4
  cases e with
  | normal =>
    obtain ⟨Pv4, hJ4, hH4⟩ := h4
    show Code.wpIn _ _ _ rl7 _ a4 w4
    have hH4' : HoldS (fun k => G k ∨ Pv4 k) (rlI l xs n a).fs a4 w4 := hold_weak (π := []) (s := rlK l xs n a n) (rlM xs n) (fun m b h => by
      match m, h with
      | 0, h => exact h
      | 1, h => exact h
      | m + 2, h => simp [mB, rlM] at h) (by
      refine ⟨rfl, rfl, ?_, ?_⟩ <;> repeat' (first | exact True.intro | exact rfl | exact wv_top _ _ | exact fun _ => rfl | refine And.intro ?_ ?_)) rfl rfl hH4
    refine wpIn_mono (hold_code [] (π := []) (s := rlI l xs n a) (s2 := rlI l xs n (a + 1)) (rlM xs n) (fun n b h => h) (detA_of (failG_sound _) MM_ok (tr_rl7 l xs n a)) (by
      rw [wa]
      refine ⟨rfl, rfl, ?_, ?_⟩ <;> repeat' (first | exact True.intro | exact rfl | exact wv_top _ _ | exact fun _ => rfl | refine And.intro ?_ ?_)) rfl rfl hH4') ?_
    rintro e a5 w5 ⟨rfl, hg5, hH5, _⟩
    rw [viewS_nil] at hH5
    exact ⟨hlt, _, hgr _ _ _ _ hJ4 hg5, hH5.less or3⟩
  | ret => exact h4
  | _ => exact h4.elim
set_option maxRecDepth 100000 in
theorem rl_iter (xs : List Int) (n : Nat) (hx : xs.length = n * 4) (hn : n ≤ 1000000) {s : FS} {nb nr c : Nat} {Kn : List Nat} (h0 : s.blk nb = some ⟨.view, .vals [.slice (some ⟨nr, 0, none⟩) n c]⟩) (h1 : s.blk nr = some ⟨.view, .ints xs⟩) (hb : nb ∈ Kn) (hr : nr ∈ Kn)
    (ρ0 ρ : Nat → Option Pl) (B : Nat → Prop) (w : World) (lb : Array Value) (hlb : VRs ρ [.pointer (some ⟨nb, 0, none⟩)] lb) (hm : MemOk ρ0 ρ B s.blk w) : IterP Try.prog 113 lb (offR n 0 n) (encR xs n) (gsOf s ρ Kn) w := by
  intro l J Jx W hGk hsz hgr hJxg hY hJ0
  generalize hρE : rhoOf ρ (edF nb nr) = ρE
  have live : ∀ n b, s.blk n = some b → b.live = true → ∃ p, ρ n = some p := fun n b hn hl => let ⟨p, h, _⟩ := (hm.ok n b hn).place hl; ⟨p, h⟩
  have keepG : ∀ n b p, n ∈ Kn → s.blk n = some b → b.live = true → ρ n = some p → ¬ nilPl p → W.heap[p.1]? = w.heap[p.1]? := fun n b p hn hb hl hp hnp => hGk p.1 ⟨n, hn, b, p, hb, hl, hp, hnp, rfl⟩
  have mem : MemOk ρE ρE (fun k => k < W.heap.size) (mB (rlM xs n)) W := by
    refine ⟨Ext.refl _, fun m hn => ?_, fun m b hn => ?_, fun m n' b b' p p' hn ho => ?_⟩
    · rw [← hρE]
      match m, hn with
      | m + 2, _ => rfl
    · match m, hn with
      | 0, hn =>
        obtain rfl : (⟨.view, .vals [.slice (some ⟨1, 0, none⟩) n n]⟩ : Blk) = b := by simpa [mB, rlM] using hn
        rw [← hρE]
        refine view_re (hm.ok nb _ h0) rfl hsz (fun p hp hnp => keepG nb _ p hb h0 rfl hp hnp) fun k v' hv' => ?_
        match k, hv' with
        | 0, hv' =>
          obtain rfl : Value.slice (some ⟨1, 0, none⟩) n n = v' := by simpa [Cs.list] using hv'
          exact ⟨_, rfl, fun x hx => wv0_ok (f := edF nb nr) (v := .slice (some ⟨nr, 0, none⟩) n c) ⟨rfl, rfl, rfl⟩ hx⟩
        | k + 1, hv' => simp [Cs.list] at hv'
      | 1, hn =>
        obtain rfl : (⟨.view, .ints xs⟩ : Blk) = b := by simpa [mB, rlM] using hn
        rw [← hρE]
        refine view_re (hm.ok nr _ h1) rfl hsz (fun p hp hnp => keepG nr _ p hr h1 rfl hp hnp) fun k v' hv' => ⟨v', hv', fun x hx => ?_⟩
        have hat : plainV v' = true := plain_of_atom (allAtoms_spec (c := .ints xs) rfl v' (List.mem_of_getElem? hv'))
        rw [hx.plain hat]
        exact .lit hat
      | m + 2, hn => simp [mB, rlM] at hn
    · match m, hn with
      | 0, hn =>
        obtain rfl : (⟨.view, .vals [.slice (some ⟨1, 0, none⟩) n n]⟩ : Blk) = b := by simpa [mB, rlM] using hn
        cases ho
      | 1, hn =>
        obtain rfl : (⟨.view, .ints xs⟩ : Blk) = b := by simpa [mB, rlM] using hn
        cases ho
      | m + 2, hn => simp [mB, rlM] at hn
  obtain ⟨y, rfl⟩ : ∃ y, lb = #[y] := Array.size_eq_one_iff.1 (by simpa using hlb.1.symm)
  have hy : VR ρE (.pointer (some ⟨0, 0, none⟩)) y := by
    rw [← hρE]
    exact wv0_ok (f := edF nb nr) (v := .pointer (some ⟨nb, 0, none⟩)) ⟨rfl, rfl⟩ (hlb.2 0 _ _ rfl rfl)
  have hargs : VRs ρE [.func (.yield l) #[] #[], .pointer (some ⟨0, 0, none⟩)] (#[.func (.yield l) #[] #[]] ++ #[y]) := ⟨by simp, fun i v v' hv hv' => by
    match i, hv, hv' with
    | 0, hv, hv' =>
      obtain rfl : Value.func (.yield l) #[] #[] = v := by simpa using hv
      obtain rfl : Value.func (.yield l) #[] #[] = v' := by simpa using hv'
      exact .lit rfl
    | 1, hv, hv' =>
      obtain rfl : Value.pointer (some ⟨0, 0, none⟩) = v := by simpa using hv
      obtain rfl : y = v' := by simpa using hv'
      exact hy
    | i + 2, hv, _ => simp at hv⟩
  have hstart : Conc (wE ρE W) (rlS l xs n).fs { tmps := (#[.func (.yield l) #[] #[]] ++ #[y]) ++ Array.replicate (Try.f113.ntmps - (#[Value.func (.yield l) #[] #[]] ++ #[y]).size) undef, defers := [] } W :=
    start_conc (n := Try.f113.ntmps) (w0 := wE ρE W) hargs mem (BelowK.refl _ _) rfl
  have hplc : Plc (fun k => gsOf s ρ Kn k ∨ False) (mB (rlM xs n)) ρE := by
    refine ⟨fun m b p hn hl hp hnp => ?_, fun m hn => mem.fresh m hn, fun m b hn hl => let ⟨p, h, _⟩ := (mem.ok m b hn).place hl; ⟨p, h⟩⟩
    rw [← hρE] at hp
    match m, hn with
    | 0, hn => exact .inl ⟨nb, hb, _, p, h0, rfl, hp, hnp, rfl⟩
    | 1, hn => exact .inl ⟨nr, hr, _, p, h1, rfl, hp, hnp, rfl⟩
    | m + 2, hn => simp [mB, rlM] at hn
  refine callsIn_of_wp (c := codeOf Try.f113) Try.func113 rfl trivial ?_ rfl
  rw [rl_is]
  refine wpIn_n (ro := none) (n := 3) (wpIn_seq (wpIn_mono (detA_of (failG_sound _) MM_ok (tr_rl0 l xs n) (wE ρE W) _ W hstart) ?_))
  rintro e a1 w1 ⟨rfl, hc1⟩
  have hg1 := wE_grown hc1
  have hJ1 := hgr _ _ _ _ hJ0 hg1
  have hH1 := hold_step [] (s2 := rlI l xs n 0) (π := []) hplc (mB_none _) hc1 (by
    refine ⟨rfl, rfl, ?_, ?_⟩ <;> repeat' (first | exact True.intro | exact rfl | exact wv_top _ _ | exact fun _ => rfl | refine And.intro ?_ ?_)) (live_of (l := rlM xs n) (m := rlM xs n) rfl) (noOwn_of (s := viewS [] (rlI l xs n 0)) rfl)
  rw [viewS_nil] at hH1
  have hH1 := hH1.less or3
  show Code.wpIn _ _ _ (.block 0 (.loop rlR)) _ a1 w1
  refine wpIn_block (wpIn_loop_ghost (fun m a' w' => ∃ a Pv, m = n - a ∧ a ≤ n ∧ J (offR n 0 a) Pv w' ∧ HoldS (fun k => gsOf s ρ Kn k ∨ Pv k) (rlI l xs n a).fs a' w') n ⟨0, _, rfl, Nat.zero_le _, hJ1, hH1⟩ ?_)
  rintro m a wr ⟨i, Pv, rfl, hi, hJ, hH⟩
  refine wpIn_mono (rl_outer hx hn hgr hJxg hY hi hJ hH) ?_
  rintro e a2 w2 h
  cases e with
  | normal =>
    obtain ⟨hlt, Pv2, h1, h2⟩ := h
    exact ⟨n - (i + 1), by omega, i + 1, Pv2, rfl, hlt, h1, h2⟩
  | exit id =>
    obtain ⟨rfl, h1, h2⟩ := h
    exact ⟨h2, _, results_none rfl _ _ _, ⟨_, rfl⟩, .inl h1⟩
  | ret => exact ⟨h.2, _, results_none rfl _ _ _, ⟨_, rfl⟩, .inr h.1⟩
  | _ => exact h.elim
end Go.Proofs.Ytolodncpegajkaa
namespace Go.Proofs.Ytolodncpegajkaa
set_option linter.all false
open Go.RowKit
def E1 : Env := mkE (T1) (fun _ _ => none) (fun _ => noL)
theorem E1_ok : EnvOk Try.prog E1 := mkEOk (T1_ok) (fun _ _ _ _ _ h => (by cases h)) (fun _ _ _ _ _ _ _ _ _ _ _ h => (by cases h))
def vB (p : Pt) : Bool := ptB p.1 p.2
def allV (ps : List Pt) : Bool := ps.all vB
noncomputable def c43 : Code := ((loopsOf (codeOf Try.f91))[0]?).getD .skip
noncomputable def c80 : Code := ((loopsOf (codeOf Try.f117))[0]?).getD .skip
set_option maxRecDepth 100000 in
theorem nl43 : loopsOf c43 = [] := by kernel_rfl
set_option maxRecDepth 100000 in
theorem nl80 : loopsOf c80 = [] := by kernel_rfl
def k43 : Ex → List Nat := keeps [0, 3] [(0, [0])] [2]
def k80 : Ex → List Nat := keeps [5, 6, 7] [] [2]
def s43 (ps : List Pt) (i : Nat) : St := ⟨[.slice (some ⟨0, 0, none⟩) ps.length ps.length, topV, topV, .int .i64 i, topV, topV, topV, topV, topV, topV, topV, topV, topV, topV, topV, topV, topV, topV, topV], [some ⟨.view, .ints (flat ps)⟩]⟩
def s80 (ps : List Pt) (i : Nat) : St := ⟨[topV, topV, topV, topV, topV, .slice (some ⟨0, 0, none⟩) ps.length ps.length, .int .i64 ps.length, .int .i64 i, topV, topV, topV, topV, topV, topV, topV], [some ⟨.view, .ints (flat ps)⟩]⟩
set_option maxRecDepth 100000 in
theorem tr43 (ps : List Pt) (i : Nat) : bodyL Try.prog E1 30 12 noL 1 c43 k43 1 (s43 ps i) = brT (decide ((↑i : Int) < (↑ps.length : Int))) (.need ((0 : Int) ≤ (↑i : Int) ∧ (↑i : Int) < (↑ps.length : Int)) (.need ((0 : Nat) + (↑i : Int).toNat * (2 : Nat) + (2 : Nat) ≤ (flat ps).length) (brT (!ptB ((flat ps).getD (0 + (↑i : Int).toNat * 2) 0) ((flat ps).getD (0 + (↑i : Int).toNat * 2 + 1) 0)) (.leaf .ret ⟨[topV, topV, .bool (false), topV, topV, topV, topV, topV, topV, topV, topV, topV, topV, topV, topV, topV, topV, topV, topV], [some ⟨.view, .ints (flat ps)⟩]⟩) (.leaf .normal ⟨[.slice (some ⟨0, 0, none⟩) (ps.length) (ps.length), topV, topV, .int .i64 (IntKind.i64.wrap ((↑i : Int) + 1)), topV, topV, topV, topV, topV, topV, topV, topV, topV, topV, topV, topV, topV, topV, topV], [some ⟨.view, .ints (flat ps)⟩]⟩)))) (.leaf (.exit 0) ⟨[.slice (some ⟨0, 0, none⟩) (ps.length) (ps.length), topV, topV, topV, topV, topV, topV, topV, topV, topV, topV, topV, topV, topV, topV, topV, topV, topV, topV], [some ⟨.view, .ints (flat ps)⟩]⟩) := by kernel_rfl
set_option maxRecDepth 100000 in
theorem tr80 (ps : List Pt) (i : Nat) : bodyL Try.prog E1 30 12 noL 1 c80 k80 1 (s80 ps i) = brT (decide ((↑i : Int) < (↑ps.length : Int))) (.need ((0 : Int) ≤ (↑i : Int) ∧ (↑i : Int) < (↑ps.length : Int)) (.need ((0 : Nat) + (↑i : Int).toNat * (2 : Nat) + (2 : Nat) ≤ (flat ps).length) (brT (!ptB ((flat ps).getD (0 + (↑i : Int).toNat * 2) 0) ((flat ps).getD (0 + (↑i : Int).toNat * 2 + 1) 0)) (.leaf .ret ⟨[topV, topV, .bool (false), topV, topV, topV, topV, topV, topV, topV, topV, topV, topV, topV, topV], [some ⟨.view, .ints (flat ps)⟩]⟩) (.leaf .normal ⟨[topV, topV, topV, topV, topV, .slice (some ⟨0, 0, none⟩) (ps.length) (ps.length), .int .i64 ((↑ps.length : Int)), .int .i64 (IntKind.i64.wrap ((↑i : Int) + 1)), topV, topV, topV, topV, topV, topV, topV], [some ⟨.view, .ints (flat ps)⟩]⟩)))) (.leaf (.exit 0) ⟨[topV, topV, topV, topV, topV, topV, topV, topV, topV, topV, topV, topV, topV, topV, topV], [some ⟨.view, .ints (flat ps)⟩]⟩) := by kernel_rfl
def re43 (ps : List Pt) (i : Nat) : Ex := bif (ps.drop i).all vB then .exit 0 else .ret
def rs43 (ps : List Pt) (i : Nat) : St := bif (ps.drop i).all vB then ⟨[.slice (some ⟨0, 0, none⟩) ps.length ps.length, topV, topV, topV, topV, topV, topV, topV, topV, topV, topV, topV, topV, topV, topV, topV, topV, topV, topV], [some ⟨.view, .ints (flat ps)⟩]⟩ else ⟨[topV, topV, .bool false, topV, topV, topV, topV, topV, topV, topV, topV, topV, topV, topV, topV, topV, topV, topV, topV], [some ⟨.view, .ints (flat ps)⟩]⟩
def re80 (ps : List Pt) (i : Nat) : Ex := bif (ps.drop i).all vB then .exit 0 else .ret
def rs80 (ps : List Pt) (i : Nat) : St := bif (ps.drop i).all vB then ⟨[topV, topV, topV, topV, topV, topV, topV, topV, topV, topV, topV, topV, topV, topV, topV], [some ⟨.view, .ints (flat ps)⟩]⟩ else ⟨[topV, topV, .bool false, topV, topV, topV, topV, topV, topV, topV, topV, topV, topV, topV, topV], [some ⟨.view, .ints (flat ps)⟩]⟩
theorem round43 (ps : List Pt) (hn : ps.length ≤ 1000000000) (i : Nat) (hi : i ≤ ps.length) :
    (bodyL Try.prog E1 30 12 noL 1 c43 k43 1 (s43 ps i)).ok (RoundEnd 1 (s43 ps) (fun i => i ≤ ps.length) (fun i => ps.length - i) (re43 ps) (rs43 ps) i) (fun _ _ => False) := by
  rw [tr43]
  simp only [brT_ok, Tree.ok, decide_eq_true_eq, decide_eq_false_iff_not, Int.toNat_natCast, Nat.zero_add, flat_length, flat_get0, flat_get1, Bool.not_eq_true', Bool.not_eq_false']
  refine ⟨fun hlt => ⟨by omega, by omega, fun hv => ?_, fun hv => ?_⟩, fun hge => ?_⟩
  · have e : (ps.drop i).all vB = false := by rw [all_drop (by omega) (0, 0)]; simp only [vB, hv, Bool.false_and]
    refine ⟨by simp only [re43, e, cond_false], [], ?_⟩
    simp only [rs43, e, cond_false]
    repeat' (first | exact True.intro | exact rfl | refine And.intro ?_ ?_)
  · have e : (ps.drop i).all vB = (ps.drop (i + 1)).all vB := by rw [all_drop (by omega) (0, 0)]; simp only [vB, hv, Bool.true_and]
    rw [wsucc (n := ps.length) (by omega) hn]
    refine ⟨i + 1, [], by omega, by dsimp only; omega, by simp only [re43, e], by simp only [rs43, e], ?_⟩
    repeat' (first | exact True.intro | exact rfl | refine And.intro ?_ ?_)
  · have e : (ps.drop i).all vB = true := all_end (by omega) _
    refine ⟨by simp only [re43, e, cond_true], [], ?_⟩
    simp only [rs43, e, cond_true]
    repeat' (first | exact True.intro | exact rfl | refine And.intro ?_ ?_)
theorem round80 (ps : List Pt) (hn : ps.length ≤ 1000000000) (i : Nat) (hi : i ≤ ps.length) :
    (bodyL Try.prog E1 30 12 noL 1 c80 k80 1 (s80 ps i)).ok (RoundEnd 1 (s80 ps) (fun i => i ≤ ps.length) (fun i => ps.length - i) (re80 ps) (rs80 ps) i) (fun _ _ => False) := by
  rw [tr80]
  simp only [brT_ok, Tree.ok, decide_eq_true_eq, decide_eq_false_iff_not, Int.toNat_natCast, Nat.zero_add, flat_length, flat_get0, flat_get1, Bool.not_eq_true', Bool.not_eq_false']
  refine ⟨fun hlt => ⟨by omega, by omega, fun hv => ?_, fun hv => ?_⟩, fun hge => ?_⟩
  · have e : (ps.drop i).all vB = false := by rw [all_drop (by omega) (0, 0)]; simp only [vB, hv, Bool.false_and]
    refine ⟨by simp only [re80, e, cond_false], [], ?_⟩
    simp only [rs80, e, cond_false]
    repeat' (first | exact True.intro | exact rfl | refine And.intro ?_ ?_)
  · have e : (ps.drop i).all vB = (ps.drop (i + 1)).all vB := by rw [all_drop (by omega) (0, 0)]; simp only [vB, hv, Bool.true_and]
    rw [wsucc (n := ps.length) (by omega) hn]
    refine ⟨i + 1, [], by omega, by dsimp only; omega, by simp only [re80, e], by simp only [rs80, e], ?_⟩
    repeat' (first | exact True.intro | exact rfl | refine And.intro ?_ ?_)
  · have e : (ps.drop i).all vB = true := all_end (by omega) _
    refine ⟨by simp only [re80, e, cond_true], [], ?_⟩
    simp only [rs80, e, cond_true]
    repeat' (first | exact True.intro | exact rfl | refine And.intro ?_ ?_)
def lt43 : LT := fun j s k => match j, s with
  | 0, ⟨[.slice (some ⟨0, 0, none⟩) n _, _, _, .int .i64 i, _, _, _, _, _, _, _, _, _, _, _, _, _, _, _], [some ⟨.view, .ints xs⟩]⟩ =>
    some (needs [i = 0, xs.length = n * 2, n ≤ 1000000000] (brT (allV (ptsA n xs)) (k (.exit 0) ⟨[.slice (some ⟨0, 0, none⟩) n n, topV, topV, topV, topV, topV, topV, topV, topV, topV, topV, topV, topV, topV, topV, topV, topV, topV, topV], [some ⟨.view, .ints xs⟩]⟩) (k .ret ⟨[topV, topV, .bool false, topV, topV, topV, topV, topV, topV, topV, topV, topV, topV, topV, topV, topV, topV, topV, topV], [some ⟨.view, .ints xs⟩]⟩)))
  | _, _ => none
def lt80 : LT := fun j s k => match j, s with
  | 0, ⟨[_, _, _, _, _, .slice (some ⟨0, 0, none⟩) n _, .int .i64 l, .int .i64 i, _, _, _, _, _, _, _], [some ⟨.view, .ints xs⟩]⟩ =>
    some (needs [i = 0, l = n, xs.length = n * 2, n ≤ 1000000000] (brT (allV (ptsA n xs)) (k (.exit 0) ⟨[topV, topV, topV, topV, topV, topV, topV, topV, topV, topV, topV, topV, topV, topV, topV], [some ⟨.view, .ints xs⟩]⟩) (k .ret ⟨[topV, topV, .bool false, topV, topV, topV, topV, topV, topV, topV, topV, topV, topV, topV, topV], [some ⟨.view, .ints xs⟩]⟩)))
  | _, _ => none
set_option maxRecDepth 100000 in
theorem lg43 : LoopsGood Try.prog lt43 0 (codeOf Try.f91) := by
  intro i d hd s k t F H hlt ht
  rw [Nat.zero_add] at hlt
  unfold lt43 at hlt
  split at hlt
  rotate_left
  · cases hlt
  obtain rfl : c43 = d := by unfold c43; rw [hd]; rfl
  obtain rfl := Option.some.inj hlt
  obtain ⟨⟨rfl, h1, h2, _⟩, ht2⟩ := needs_ok ht
  clear ht hlt
  obtain ⟨ps, rfl, rfl⟩ := even_flat h1
  rw [ptsA_flat] at ht2
  refine ⟨_, _, pick2k ht2, loop_run mixed E1_ok (s43 ps) (fun i => i ≤ ps.length) (fun i => ps.length - i) (re43 ps) (rs43 ps) k43 (fun _ => rfl) (noLoops nl43) (round43 ps h2) (x := 0) (Nat.zero_le _) (π := []) rfl ?_⟩
  repeat' (first | exact True.intro | exact rfl | exact wv_top _ _ | refine And.intro ?_ ?_)
set_option maxRecDepth 100000 in
theorem lg80 : LoopsGood Try.prog lt80 0 (codeOf Try.f117) := by
  intro i d hd s k t F H hlt ht
  rw [Nat.zero_add] at hlt
  unfold lt80 at hlt
  split at hlt
  rotate_left
  · cases hlt
  obtain rfl : c80 = d := by unfold c80; rw [hd]; rfl
  obtain rfl := Option.some.inj hlt
  obtain ⟨⟨rfl, rfl, h1, h2, _⟩, ht2⟩ := needs_ok ht
  clear ht hlt
  obtain ⟨ps, rfl, rfl⟩ := even_flat h1
  rw [ptsA_flat] at ht2
  refine ⟨_, _, pick2k ht2, loop_run mixed E1_ok (s80 ps) (fun i => i ≤ ps.length) (fun i => ps.length - i) (re80 ps) (rs80 ps) k80 (fun _ => rfl) (noLoops nl80) (round80 ps h2) (x := 0) (Nat.zero_le _) (π := []) rfl ?_⟩
  repeat' (first | exact True.intro | exact rfl | exact wv_top _ _ | refine And.intro ?_ ?_)
end Go.Proofs.Ytolodncpegajkaa
namespace Go.Proofs.Ytolodncpegajkaa
set_option linter.all false
open Go.RowKit
def L2 : FuncId → LT := fun f => match f with
  | 91 => lt43
  | 117 => lt80
  | _ => noL
def E2 : Env := mkE (T1) (fun _ _ => none) (L2)
theorem E2_ok : EnvOk Try.prog E2 := by
  refine mkEOk T1_ok (fun _ _ _ _ _ h => (by cases h)) fun f fn hf => ?_
  show LoopsGood Try.prog (L2 f) 0 (codeOf fn)
  unfold L2
  split
  · obtain rfl : Try.f91 = fn := by rw [Try.func91] at hf; simpa using hf
    exact lg43
  · obtain rfl : Try.f117 = fn := by rw [Try.func117] at hf; simpa using hf
    exact lg80
  · exact noL_good
set_option maxRecDepth 100000 in
theorem tr_f43 (ps : List Pt) : bodyX Try.prog E2 30 12 91 [.row ps.length (.ints (flat ps))] = .need ((0 : Int) = (0 : Int)) (.need ((flat ps).length = ps.length * (2 : Nat)) (.need (ps.length ≤ (1000000000 : Nat)) (brT (allV (ptsA ps.length (flat ps))) (.fin (.bool (decide ((↑ps.length : Int) ≤ 20))) [some ⟨.view, .ints (flat ps)⟩]) (.fin (.bool (false)) [some ⟨.view, .ints (flat ps)⟩])))) := by kernel_rfl
set_option maxRecDepth 100000 in
theorem tr_f80 (ps : List Pt) : bodyX Try.prog E2 30 12 117 [.row ps.length (.ints (flat ps))] = .need ((0 : Int) = (0 : Int)) (.need ((↑ps.length : Int) = (↑ps.length : Int)) (.need ((flat ps).length = ps.length * (2 : Nat)) (.need (ps.length ≤ (1000000000 : Nat)) (brT (allV (ptsA ps.length (flat ps))) (.fin (.bool (true)) [some ⟨.view, .ints (flat ps)⟩]) (.fin (.bool (false)) [some ⟨.view, .ints (flat ps)⟩]))))) := by kernel_rfl
def Big (ps : List Pt) : Prop := ps.length ≤ 1000000000
def okL (ps : List Pt) : Bool := allV ps && decide (ps.length ≤ 20)
theorem res_f43 (ps : List Pt) (h : Big ps) : Res Try.prog 91 [.row ps.length (.ints (flat ps))] (.bool (okL ps)) := by
  refine bodyX_res mixed E2_ok (m := 30) (n := 12) rfl ?_
  rw [tr_f43, ptsA_flat]
  unfold Big at h
  unfold okL
  cases hv : allV ps <;> simp [Tree.ok, brT, flat_length, h]
  omega
theorem res_f80 (ps : List Pt) (h : Big ps) : Res Try.prog 117 [.row ps.length (.ints (flat ps))] (.bool (allV ps)) := by
  refine bodyX_res mixed E2_ok (m := 30) (n := 12) rfl ?_
  rw [tr_f80, ptsA_flat]
  unfold Big at h
  cases hv : allV ps <;> simp [Tree.ok, brT, flat_length, h]
/-- An entry for a function of one list of points. -/
def pL (g : List Pt → Value) : List DArg → Option (Value × List Prop)
  | [.row n (.ints xs)] => some (g (ptsA n xs), [n * 2 ≤ xs.length, n ≤ 1000000000])
  | _ => none
theorem pL_ok {f : FuncId} {g : List Pt → Value} (h : ∀ ps, Big ps → Res Try.prog f [.row ps.length (.ints (flat ps))] (g ps)) {ds : List DArg} {v : Value} {C : List Prop} (hd : pL g ds = some (v, C)) (hC : AllP C) : Res Try.prog f ds v := by
  unfold pL at hd
  split at hd
  · rename_i n xs
    obtain ⟨rfl, rfl⟩ : _ ∧ _ := by simpa using hd
    obtain ⟨h1, h2⟩ := ptsA_spec hC.1
    have h0 := h (ptsA n xs) (by unfold Big; rw [h2]; exact hC.2.1)
    exact res_pts1 (pre := []) (post := []) hC.1 h0
  · cases hd
def T2 : Tab := fun f ds => match f with
  | 91 => pL (fun ps => .bool (okL ps)) ds
  | 117 => (match pL (fun ps => .bool (allV ps)) ds with
    | some r => some r
    | none => T1 f ds)
  | f => T1 f ds
theorem T2_ok : TabOk Try.prog T2 := by
  intro f ds v C h hC
  unfold T2 at h
  split at h
  · exact pL_ok res_f43 h hC
  · split at h
    · rename_i hr
      rw [h] at hr
      exact pL_ok res_f80 hr hC
    · exact T1_ok _ _ _ _ h hC
  · exact T1_ok _ _ _ _ h hC
end Go.Proofs.Ytolodncpegajkaa
namespace Go.Proofs.Ytolodncpegajkaa
set_option linter.all false
open Go.RowKit
def E3 : Env := mkE (T2) (fun _ _ => none) (fun _ => noL)
theorem E3_ok : EnvOk Try.prog E3 := mkEOk (T2_ok) (fun _ _ _ _ _ h => (by cases h)) (fun _ _ _ => noL_good)
theorem brT_t (x y : Tree) : brT true x y = x := rfl
theorem brT_f (x y : Tree) : brT false x y = y := rfl
def eqL (ps qs : List Pt) : Bool := decide (ps = qs)
noncomputable def c_toPts : Code := ((loopsOf (codeOf Try.f46))[0]?).getD .skip
def k_toPts : Ex → List Nat := keeps [0, 3, 4] [(0, [3])] [2]
def s_toPts (ps : List Pt) (n : Nat) : Nat × (List Pt) → St := fun (i, qs) => ⟨[.slice (some ⟨0, 0, none⟩) ps.length ps.length, topV, topV, .slice (some ⟨1, 0, none⟩) n n, .int .i64 i, topV, topV, topV, topV, topV, topV, topV, topV, topV, topV, topV, topV, topV, topV, topV, topV, topV, topV], [some ⟨.view, .ints (flat ps)⟩, some ⟨.row 37 2, .ints (flat qs)⟩]⟩
def re_toPts : Nat × (List Pt) → Ex := fun _ => .exit 0
def rs_toPts (ps : List Pt) (n : Nat) : Nat × (List Pt) → St := fun (i, qs) => ⟨[topV, topV, topV, .slice (some ⟨1, 0, none⟩) n n, topV, topV, topV, topV, topV, topV, topV, topV, topV, topV, topV, topV, topV, topV, topV, topV, topV, topV, topV], [some ⟨.view, .ints (flat ps)⟩, some ⟨.row 37 2, .ints (flat ps)⟩]⟩
set_option maxRecDepth 100000 in
theorem tr_toPts (ps : List Pt) (n : Nat) (i : Nat) (qs : List Pt) : bodyL Try.prog E3 30 12 noL 1 c_toPts k_toPts 2 (s_toPts ps n (i, qs)) = brT (decide ((↑i : Int) < (↑ps.length : Int))) (.need ((0 : Int) ≤ (↑i : Int) ∧ (↑i : Int) < (↑ps.length : Int)) (.need ((0 : Nat) + (↑i : Int).toNat * (2 : Nat) + (2 : Nat) ≤ (flat ps).length) (.need ((0 : Int) ≤ (↑i : Int) ∧ (↑i : Int) < (↑n : Int)) (.need ((0 : Nat) + (↑i : Int).toNat * (2 : Nat) + (2 : Nat) ≤ (flat qs).length) (.leaf .normal ⟨[.slice (some ⟨0, 0, none⟩) (ps.length) (ps.length), topV, topV, .slice (some ⟨1, 0, none⟩) (n) (n), .int .i64 (IntKind.i64.wrap ((↑i : Int) + 1)), topV, topV, topV, topV, topV, topV, topV, topV, topV, topV, topV, topV, topV, topV, topV, topV, topV, topV], [some ⟨.view, .ints (flat ps)⟩, some ⟨.row 37 2, .ints (setInts (flat qs) (0 + (↑i : Int).toNat * 2) [(flat ps).getD (0 + (↑i : Int).toNat * 2) 0, (flat ps).getD (0 + (↑i : Int).toNat * 2 + 1) 0])⟩]⟩))))) (.leaf (.exit 0) ⟨[topV, topV, topV, .slice (some ⟨1, 0, none⟩) (n) (n), topV, topV, topV, topV, topV, topV, topV, topV, topV, topV, topV, topV, topV, topV, topV, topV, topV, topV, topV], [some ⟨.view, .ints (flat ps)⟩, some ⟨.row 37 2, .ints (flat qs)⟩]⟩) := by kernel_rfl
set_option maxRecDepth 100000 in
theorem nl_toPts : loopsOf c_toPts = [] := by kernel_rfl
def inv_toPts (ps : List Pt) (n : Nat) : Nat × (List Pt) → Prop := fun (i, qs) => i ≤ ps.length ∧ ps.length = n ∧ qs.length = n ∧ qs.take i = ps.take i
def me_toPts (ps : List Pt) (n : Nat) : Nat × (List Pt) → Nat := fun (i, qs) => ps.length - i
/-- A round of this loop. -/
def Round_toPts (ps : List Pt) (n : Nat) : Prop := ∀ xx : Nat × (List Pt), inv_toPts ps n xx → (bodyL Try.prog E3 30 12 noL 1 c_toPts k_toPts 2 (s_toPts ps n xx)).ok (RoundEnd 2 (s_toPts ps n) (inv_toPts ps n) (me_toPts ps n) re_toPts (rs_toPts ps n) xx) (fun _ _ => False)
def e_toPts (s : St) (k : Ex → St → Tree) : Option Tree := match Nat.beq s.tmps.length 23, pickL s.tmps [0, 3, 4], s.mem with
  | true, [.slice (some ⟨0, 0, none⟩) n _, .slice (some ⟨1, 0, none⟩) m _, .int .i64 i], [some ⟨.view, .ints xs⟩, some ⟨.row 37 2, .ints ys⟩] => some (needs [i = 0, m = n, xs.length = n * 2, ys.length = n * 2, n ≤ 1000000000] (k (.exit 0) ⟨[topV, topV, topV, .slice (some ⟨1, 0, none⟩) m m, topV, topV, topV, topV, topV, topV, topV, topV, topV, topV, topV, topV, topV, topV, topV, topV, topV, topV, topV], [some ⟨.view, .ints xs⟩, some ⟨.row 37 2, .ints xs⟩]⟩))
  | _, _, _ => none
set_option maxRecDepth 100000 in
theorem round_toPts (ps : List Pt) (n : Nat) (h : ps.length ≤ 1000000000) : Round_toPts ps n := by
  rintro ⟨i, qs⟩ ⟨h1, h2, h3, h4⟩
  rw [tr_toPts]
  simp only [brT_ok, Tree.ok, decide_eq_true_eq, decide_eq_false_iff_not, Int.toNat_natCast, Nat.zero_add, flat_length, flat_get0, flat_get1, Cs.size]
  refine ⟨fun hlt => ⟨by omega, by omega, by omega, by omega, ?_⟩, fun hge => ?_⟩
  · rw [wsucc (n := ps.length) (by omega) h, flat_set qs i (by omega)]
    refine ⟨(i + 1, qs.set i (ps.getD i (0, 0))), [], ⟨by omega, h2, by simp [h3], ?_⟩, ?_, rfl, rfl, ?_⟩
    · exact take_set_succ (by omega) (by omega) h4 _
    · show ps.length - (i + 1) < ps.length - i; omega
    · repeat' (first | exact True.intro | exact rfl | exact fun _ => rfl | refine And.intro ?_ ?_)
  · have e : qs = ps := by
      rw [List.take_of_length_le (by omega), List.take_of_length_le (by omega)] at h4
      exact h4
    subst e
    refine ⟨rfl, [], ?_⟩
    repeat' (first | exact True.intro | exact rfl | exact fun _ => rfl | refine And.intro ?_ ?_)
set_option maxRecDepth 100000 in
theorem lg_toPts : LoopE Try.prog e_toPts c_toPts := by
  intro s k t F H hlt ht
  unfold e_toPts at hlt
  split at hlt
  rotate_left
  · cases hlt
  rename_i hlen hpick hmem
  obtain ⟨tmps, mem⟩ := s
  simp only at hlen hpick hmem
  subst hmem
  obtain rfl := Option.some.inj hlt
  obtain ⟨⟨rfl, rfl, h1, h2, h3, _⟩, ht2⟩ := needs_ok ht
  clear ht hlt
  obtain ⟨ps, rfl, rfl⟩ := even_flat h1
  obtain ⟨qs, rfl, hq⟩ := even_flat h2
  refine ⟨_, _, ht2, loop_run mixed E3_ok (s_toPts ps ps.length) (inv_toPts ps ps.length) (me_toPts ps ps.length) re_toPts (rs_toPts ps ps.length) k_toPts (fun _ => rfl) (noLoops nl_toPts) (round_toPts ps ps.length h3) (x := (0, qs)) ⟨Nat.zero_le _, rfl, hq, rfl⟩ (π := []) rfl ?_⟩
  refine ⟨rfl, rfl, ?_, wvs_spread' [0, 3, 4] hlen rfl ?_⟩
  · repeat' (first | exact True.intro | exact rfl | exact wv_top _ _ | exact fun _ => rfl | assumption | exact Eq.symm (by assumption) | exact vI0 rfl | refine And.intro ?_ ?_)
  · rw [hpick]
    repeat' (first | exact True.intro | exact rfl | exact wv_top _ _ | exact fun _ => rfl | assumption | exact Eq.symm (by assumption) | exact vI0 rfl | refine And.intro ?_ ?_)
noncomputable def c_eqPts : Code := ((loopsOf (codeOf Try.f49))[0]?).getD .skip
def k_eqPts : Ex → List Nat := keeps [0, 1, 5] [(0, [])] [4]
def s_eqPts (ps : List Pt) (qs : List Pt) : Nat → St := fun i => ⟨[.slice (some ⟨0, 0, none⟩) ps.length ps.length, .slice (some ⟨1, 0, none⟩) qs.length qs.length, topV, topV, topV, .int .i64 i, topV, topV, topV, topV, topV, topV, topV, topV, topV, topV, topV, topV, topV, topV, topV, topV, topV, topV, topV, topV, topV], [some ⟨.view, .ints (flat ps)⟩, some ⟨.view, .ints (flat qs)⟩]⟩
def re_eqPts (ps : List Pt) (qs : List Pt) : Nat → Ex := fun i => bif decide (ps.drop i = qs.drop i) then .exit 0 else .ret
def rs_eqPts (ps : List Pt) (qs : List Pt) : Nat → St := fun i => bif decide (ps.drop i = qs.drop i) then ⟨[topV, topV, topV, topV, topV, topV, topV, topV, topV, topV, topV, topV, topV, topV, topV, topV, topV, topV, topV, topV, topV, topV, topV, topV, topV, topV, topV], [some ⟨.view, .ints (flat ps)⟩, some ⟨.view, .ints (flat qs)⟩]⟩ else ⟨[topV, topV, topV, topV, .bool false, topV, topV, topV, topV, topV, topV, topV, topV, topV, topV, topV, topV, topV, topV, topV, topV, topV, topV, topV, topV, topV, topV], [some ⟨.view, .ints (flat ps)⟩, some ⟨.view, .ints (flat qs)⟩]⟩
set_option maxRecDepth 100000 in
theorem tr_eqPts (ps : List Pt) (qs : List Pt) (i : Nat) : bodyL Try.prog E3 30 12 noL 1 c_eqPts k_eqPts 2 (s_eqPts ps qs i) = brT (decide ((↑i : Int) < (↑ps.length : Int))) (brT (!(flat ps).getD (0 + (↑i : Int).toNat * 2) 0 == (flat qs).getD (0 + (↑i : Int).toNat * 2) 0) (.need ((0 : Int) ≤ (↑i : Int) ∧ (↑i : Int) < (↑ps.length : Int)) (.need ((0 : Nat) + (↑i : Int).toNat * (2 : Nat) + (2 : Nat) ≤ (flat ps).length) (.need ((0 : Int) ≤ (↑i : Int) ∧ (↑i : Int) < (↑qs.length : Int)) (.need ((0 : Nat) + (↑i : Int).toNat * (2 : Nat) + (2 : Nat) ≤ (flat qs).length) (.leaf .ret ⟨[topV, topV, topV, topV, .bool (false), topV, topV, topV, topV, topV, topV, topV, topV, topV, topV, topV, topV, topV, topV, topV, topV, topV, topV, topV, topV, topV, topV], [some ⟨.view, .ints (flat ps)⟩, some ⟨.view, .ints (flat qs)⟩]⟩))))) (brT (!(flat ps).getD (0 + (↑i : Int).toNat * 2 + 1) 0 == (flat qs).getD (0 + (↑i : Int).toNat * 2 + 1) 0) (.need ((0 : Int) ≤ (↑i : Int) ∧ (↑i : Int) < (↑ps.length : Int)) (.need ((0 : Nat) + (↑i : Int).toNat * (2 : Nat) + (2 : Nat) ≤ (flat ps).length) (.need ((0 : Int) ≤ (↑i : Int) ∧ (↑i : Int) < (↑qs.length : Int)) (.need ((0 : Nat) + (↑i : Int).toNat * (2 : Nat) + (2 : Nat) ≤ (flat qs).length) (.leaf .ret ⟨[topV, topV, topV, topV, .bool (false), topV, topV, topV, topV, topV, topV, topV, topV, topV, topV, topV, topV, topV, topV, topV, topV, topV, topV, topV, topV, topV, topV], [some ⟨.view, .ints (flat ps)⟩, some ⟨.view, .ints (flat qs)⟩]⟩))))) (.need ((0 : Int) ≤ (↑i : Int) ∧ (↑i : Int) < (↑ps.length : Int)) (.need ((0 : Nat) + (↑i : Int).toNat * (2 : Nat) + (2 : Nat) ≤ (flat ps).length) (.need ((0 : Int) ≤ (↑i : Int) ∧ (↑i : Int) < (↑qs.length : Int)) (.need ((0 : Nat) + (↑i : Int).toNat * (2 : Nat) + (2 : Nat) ≤ (flat qs).length) (.leaf .normal ⟨[.slice (some ⟨0, 0, none⟩) (ps.length) (ps.length), .slice (some ⟨1, 0, none⟩) (qs.length) (qs.length), topV, topV, topV, .int .i64 (IntKind.i64.wrap ((↑i : Int) + 1)), topV, topV, topV, topV, topV, topV, topV, topV, topV, topV, topV, topV, topV, topV, topV, topV, topV, topV, topV, topV, topV], [some ⟨.view, .ints (flat ps)⟩, some ⟨.view, .ints (flat qs)⟩]⟩))))))) (.leaf (.exit 0) ⟨[topV, topV, topV, topV, topV, topV, topV, topV, topV, topV, topV, topV, topV, topV, topV, topV, topV, topV, topV, topV, topV, topV, topV, topV, topV, topV, topV], [some ⟨.view, .ints (flat ps)⟩, some ⟨.view, .ints (flat qs)⟩]⟩) := by kernel_rfl
set_option maxRecDepth 100000 in
theorem nl_eqPts : loopsOf c_eqPts = [] := by kernel_rfl
def inv_eqPts (ps : List Pt) (qs : List Pt) : Nat → Prop := fun i => i ≤ ps.length ∧ ps.length = qs.length
def me_eqPts (ps : List Pt) (qs : List Pt) : Nat → Nat := fun i => ps.length - i
/-- A round of this loop. -/
def Round_eqPts (ps : List Pt) (qs : List Pt) : Prop := ∀ xx : Nat, inv_eqPts ps qs xx → (bodyL Try.prog E3 30 12 noL 1 c_eqPts k_eqPts 2 (s_eqPts ps qs xx)).ok (RoundEnd 2 (s_eqPts ps qs) (inv_eqPts ps qs) (me_eqPts ps qs) (re_eqPts ps qs) (rs_eqPts ps qs) xx) (fun _ _ => False)
def e_eqPts (s : St) (k : Ex → St → Tree) : Option Tree := match Nat.beq s.tmps.length 27, pickL s.tmps [0, 1, 5], s.mem with
  | true, [.slice (some ⟨0, 0, none⟩) n _, .slice (some ⟨1, 0, none⟩) m _, .int .i64 i], [some ⟨.view, .ints xs⟩, some ⟨.view, .ints ys⟩] => some (needs [i = 0, m = n, xs.length = n * 2, ys.length = n * 2, n ≤ 1000000000] (brT (eqL (ptsA n xs) (ptsA n ys)) (k (.exit 0) ⟨[topV, topV, topV, topV, topV, topV, topV, topV, topV, topV, topV, topV, topV, topV, topV, topV, topV, topV, topV, topV, topV, topV, topV, topV, topV, topV, topV], [some ⟨.view, .ints xs⟩, some ⟨.view, .ints ys⟩]⟩) (k .ret ⟨[topV, topV, topV, topV, .bool false, topV, topV, topV, topV, topV, topV, topV, topV, topV, topV, topV, topV, topV, topV, topV, topV, topV, topV, topV, topV, topV, topV], [some ⟨.view, .ints xs⟩, some ⟨.view, .ints ys⟩]⟩)))
  | _, _, _ => none
set_option maxRecDepth 100000 in
theorem round_eqPts (ps qs : List Pt) (h : ps.length ≤ 1000000000) : Round_eqPts ps qs := by
  rintro i ⟨h1, h2⟩
  rw [tr_eqPts]
  simp only [brT_ok, Tree.ok, decide_eq_true_eq, decide_eq_false_iff_not, Int.toNat_natCast, Nat.zero_add, flat_length, flat_get0, flat_get1, Bool.not_eq_true', Bool.not_eq_false', beq_iff_eq, beq_eq_false_iff_ne]
  refine ⟨fun hlt => ?_, fun hge => ?_⟩
  · have hd1 := drop_cons (l := ps) (k := i) (by omega) (0, 0)
    have hd2 := drop_cons (l := qs) (k := i) (by omega) (0, 0)
    have ne : ps.getD i (0, 0) ≠ qs.getD i (0, 0) → decide (ps.drop i = qs.drop i) = false := fun hne => by
      rw [hd1, hd2]
      simp only [List.cons.injEq, decide_eq_false_iff_not]
      exact fun h => hne h.1
    refine ⟨fun hv => ⟨by omega, by omega, by omega, by omega, ?_⟩, fun hv => ⟨fun hv2 => ⟨by omega, by omega, by omega, by omega, ?_⟩, fun hv2 => ⟨by omega, by omega, by omega, by omega, ?_⟩⟩⟩
    · have e := ne fun h => hv (by rw [h])
      refine ⟨by simp only [re_eqPts, e, cond_false], [], ?_⟩
      simp only [rs_eqPts, e, cond_false]
      repeat' (first | exact True.intro | exact rfl | exact fun _ => rfl | refine And.intro ?_ ?_)
    · have e := ne fun h => hv2 (by rw [h])
      refine ⟨by simp only [re_eqPts, e, cond_false], [], ?_⟩
      simp only [rs_eqPts, e, cond_false]
      repeat' (first | exact True.intro | exact rfl | exact fun _ => rfl | refine And.intro ?_ ?_)
    · have hp : ps.getD i (0, 0) = qs.getD i (0, 0) := Prod.ext hv hv2
      have e : decide (ps.drop i = qs.drop i) = decide (ps.drop (i + 1) = qs.drop (i + 1)) := by
        rw [hd1, hd2, hp]
        simp
      rw [wsucc (n := ps.length) (by omega) h]
      refine ⟨i + 1, [], ⟨by omega, h2⟩, ?_, by simp only [re_eqPts, e], by simp only [rs_eqPts, e], ?_⟩
      · show ps.length - (i + 1) < ps.length - i; omega
      · repeat' (first | exact True.intro | exact rfl | exact fun _ => rfl | refine And.intro ?_ ?_)
  · have e : decide (ps.drop i = qs.drop i) = true := by rw [List.drop_of_length_le (by omega), List.drop_of_length_le (by omega)]; rfl
    refine ⟨by simp only [re_eqPts, e, cond_true], [], ?_⟩
    simp only [rs_eqPts, e, cond_true]
    repeat' (first | exact True.intro | exact rfl | exact fun _ => rfl | refine And.intro ?_ ?_)
set_option maxRecDepth 100000 in
theorem lg_eqPts : LoopE Try.prog e_eqPts c_eqPts := by
  intro s k t F H hlt ht
  unfold e_eqPts at hlt
  split at hlt
  rotate_left
  · cases hlt
  rename_i hlen hpick hmem
  obtain ⟨tmps, mem⟩ := s
  simp only at hlen hpick hmem
  subst hmem
  obtain rfl := Option.some.inj hlt
  obtain ⟨⟨rfl, rfl, h1, h2, h3, _⟩, ht2⟩ := needs_ok ht
  clear ht hlt
  obtain ⟨ps, rfl, rfl⟩ := even_flat h1
  obtain ⟨qs, rfl, hq⟩ := even_flat h2
  rw [ptsA_flat, ← hq, ptsA_flat] at ht2
  refine ⟨_, _, pick2k ht2, loop_run mixed E3_ok (s_eqPts ps qs) (inv_eqPts ps qs) (me_eqPts ps qs) (re_eqPts ps qs) (rs_eqPts ps qs) k_eqPts (fun _ => rfl) (noLoops nl_eqPts) (round_eqPts ps qs h3) (x := 0) ⟨Nat.zero_le _, hq.symm⟩ (π := []) rfl ?_⟩
  refine ⟨rfl, rfl, ?_, wvs_spread' [0, 1, 5] hlen rfl ?_⟩
  · repeat' (first | exact True.intro | exact rfl | exact wv_top _ _ | exact fun _ => rfl | assumption | exact Eq.symm (by assumption) | exact vI0 rfl | refine And.intro ?_ ?_)
  · rw [hpick]
    repeat' (first | exact True.intro | exact rfl | exact wv_top _ _ | exact fun _ => rfl | assumption | exact Eq.symm (by assumption) | exact vI0 rfl | refine And.intro ?_ ?_)
end Go.Proofs.Ytolodncpegajkaa
namespace Go.Proofs.Ytolodncpegajkaa
set_option linter.all false
open Go.RowKit
def L4 : FuncId → LT := fun f => match f with
  | 46 => lt1 e_toPts
  | 49 => lt1 e_eqPts
  | _ => noL
def E4 : Env := mkE (T2) (fun _ _ => none) (L4)
theorem code_of {f : FuncId} {fn g : Func} (h : Try.prog.funcs[f]? = some g) (hf : Try.prog.funcs[f]? = some fn) : g = fn := by rw [h] at hf; simpa using hf
theorem Lr_toPts {fn : Func} (hf : Try.prog.funcs[46]? = some fn) : LoopsGood Try.prog (lt1 e_toPts) 0 (codeOf fn) := by
  obtain rfl := code_of Try.func46 hf
  exact lt1_good lg_toPts
theorem Lr_eqPts {fn : Func} (hf : Try.prog.funcs[49]? = some fn) : LoopsGood Try.prog (lt1 e_eqPts) 0 (codeOf fn) := by
  obtain rfl := code_of Try.func49 hf
  exact lt1_good lg_eqPts
theorem L4_ok : ∀ f fn, Try.prog.funcs[f]? = some fn → LoopsGood Try.prog (L4 f) 0 (codeOf fn) := by
  intro f fn hf
  unfold L4
  split
  all_goals first | with_reducible exact Lr_toPts hf | with_reducible exact Lr_eqPts hf | with_reducible exact Lr_specCW hf | with_reducible exact Lr_implCW hf | exact noL_good
theorem E4_ok : EnvOk Try.prog E4 := mkEOk (T2_ok) (fun _ _ _ _ _ h => (by cases h)) (L4_ok)
set_option maxRecDepth 100000 in
theorem tr_eqPointS (ps qs : List Pt) : bodyX Try.prog E4 30 12 49 [.row ps.length (.ints (flat ps)), .row qs.length (.ints (flat qs))] = brT (!(↑ps.length : Int) == (↑qs.length : Int)) (.fin (.bool (false)) [some ⟨.view, .ints (flat ps)⟩, some ⟨.view, .ints (flat qs)⟩]) (.need ((0 : Int) = (0 : Int)) (.need (qs.length = ps.length) (.need ((flat ps).length = ps.length * (2 : Nat)) (.need ((flat qs).length = ps.length * (2 : Nat)) (.need (ps.length ≤ (1000000000 : Nat)) (brT (eqL (ptsA ps.length (flat ps)) (ptsA ps.length (flat qs))) (.fin (.bool (true)) [some ⟨.view, .ints (flat ps)⟩, some ⟨.view, .ints (flat qs)⟩]) (.fin (.bool (false)) [some ⟨.view, .ints (flat ps)⟩, some ⟨.view, .ints (flat qs)⟩]))))))) := by kernel_rfl
theorem res_eqPointS (ps qs : List Pt) (h : Big ps) : Res Try.prog 49 [.row ps.length (.ints (flat ps)), .row qs.length (.ints (flat qs))] (.bool (eqL ps qs)) := by
  refine bodyX_res mixed E4_ok (m := 30) (n := 12) rfl ?_
  rw [tr_eqPointS]
  unfold Big at h
  by_cases hl : ps.length = qs.length
  · have e : ptsA ps.length (flat qs) = qs := by rw [hl, ptsA_flat]
    rw [e, ptsA_flat, show (!((ps.length : Int) == (qs.length : Int))) = false by simp [hl]]
    simp only [brT_f, Tree.ok, flat_length]
    refine ⟨trivial, hl.symm, trivial, by omega, h, ?_⟩
    cases eqL ps qs <;> rfl
  · have e : eqL ps qs = false := by
      unfold eqL
      rw [decide_eq_false_iff_not]
      rintro rfl
      exact hl rfl
    rw [show (!((ps.length : Int) == (qs.length : Int))) = true by simp; omega]
    simp only [brT_t, Tree.ok, e]
def pEq2 : List DArg → Option (Value × List Prop)
  | [.row m (.ints xs), .row n (.ints ys)] => some (.bool (eqL (ptsA m xs) (ptsA n ys)), [m * 2 ≤ xs.length, n * 2 ≤ ys.length, m ≤ 1000000000])
  | _ => none
def T3 : Tab := fun f ds => match f with
  | 49 => pEq2 ds
  | f => T2 f ds
theorem pEq2_ok {ds : List DArg} {v : Value} {C : List Prop} (h : pEq2 ds = some (v, C)) (hC : AllP C) : Res Try.prog 49 ds v := by
  unfold pEq2 at h
  split at h
  · rename_i m xs n ys
    obtain ⟨rfl, rfl⟩ : _ ∧ _ := by simpa using h
    obtain ⟨_, h2⟩ := ptsA_spec hC.1
    have h0 := res_eqPointS (ptsA m xs) (ptsA n ys) (by unfold Big; rw [h2]; exact hC.2.2.1)
    exact res_pts1 (pre := []) (post := [_]) hC.1 (res_pts1 (pre := [_]) (post := []) hC.2.1 h0)
  · cases h
theorem T3_ok : TabOk Try.prog T3 := by
  intro f ds v C h hC
  unfold T3 at h
  (try split at h)
  all_goals first | with_reducible exact pEq2_ok h hC | with_reducible exact pCWs_ok h hC | with_reducible exact pCWi_ok h hC | exact T2_ok _ _ _ _ h hC
end Go.Proofs.Ytolodncpegajkaa
namespace Go.Proofs.Ytolodncpegajkaa
set_option linter.all false
open Go.RowKit
/-- Of so many from i on, all. -/
def allQ (P : Nat → Bool) : Nat → Nat → Bool
  | _, 0 => true
  | i, m + 1 => P i && allQ P (i + 1) m
theorem allQ_step {P : Nat → Bool} {i n : Nat} (h : i < n) : allQ P i (n - i) = (P i && allQ P (i + 1) (n - (i + 1))) := by
  rw [show n - i = (n - (i + 1)) + 1 by omega]
  rfl
theorem allQ_end {P : Nat → Bool} {i n : Nat} (h : n ≤ i) : allQ P i (n - i) = true := by
  rw [show n - i = 0 by omega]
  rfl
theorem allQ_get {P : Nat → Bool} : ∀ (m i : Nat), allQ P i m = true → ∀ j, i ≤ j → j < i + m → P j = true
  | 0, i, _, j, h1, h2 => by omega
  | m + 1, i, h, j, h1, h2 => by
    simp only [allQ, Bool.and_eq_true] at h
    rcases Nat.lt_or_ge i j with h3 | h3
    · exact allQ_get m (i + 1) h.2 j (by omega) (by omega)
    · obtain rfl : j = i := by omega
      exact h.1
theorem set_step {xs ys ns : List Int} {o k : Nat} (hl : ns.length = k) (hx : xs.drop o = ns ++ xs.drop (o + k)) (hy : o + k ≤ ys.length) (h0 : o ≤ xs.length) (h : ys.take o = xs.take o) : (setInts ys o ns).take (o + k) = xs.take (o + k) ∧ (setInts ys o ns).length = ys.length := by
  unfold setInts
  rw [hl, h]
  have l1 : (xs.take o).length = o := by simp; omega
  constructor
  · have e : xs.take (o + k) = xs.take o ++ ns := by
      have : xs = xs.take o ++ (ns ++ xs.drop (o + k)) := by rw [← hx, List.take_append_drop]
      rw [List.take_add, hx]
      congr 1
      exact List.take_left' hl
    rw [e]
    exact List.take_left' (by rw [List.length_append, l1, hl])
  · simp
    omega
end Go.Proofs.Ytolodncpegajkaa
namespace Go.Proofs.Ytolodncpegajkaa
set_option linter.all false
open Go.RowKit
/-- Two tables, one after the other. -/
def orT (A B : Tab) : Tab := fun f ds => match A f ds with
  | some x => some x
  | none => B f ds
theorem orT_ok {P : Program} {A B : Tab} (hA : TabOk P A) (hB : TabOk P B) : TabOk P (orT A B) := by
  intro f ds v C h hC
  unfold orT at h
  split at h
  · rename_i x hx
    obtain rfl : x = (v, C) := by simpa using h
    exact hA _ _ _ _ hx hC
  · exact hB _ _ _ _ h hC
end Go.Proofs.Ytolodncpegajkaa
namespace Go.Proofs.Ytolodncpegajkaa
set_option linter.all false
open Go.RowKit
/-- The next place of a closed path. -/
def nxP (ps : List Pt) (j : Nat) : Pt := ps.getD ((j + 1) % ps.length) (0, 0)
end Go.Proofs.Ytolodncpegajkaa
namespace Go.Proofs.Ytolodncpegajkaa
set_option linter.all false
open Go.RowKit
def TSl : Tab := orT T3 TRb
theorem TSl_ok : TabOk Try.prog TSl := orT_ok T3_ok TRb_ok
def ESl : Env := mkE TSl (fun _ _ => none) (fun _ => noL)
theorem ESl_ok : EnvOk Try.prog ESl := mkEOk TSl_ok (fun _ _ _ _ _ h => (by cases h)) (fun _ _ _ => noL_good)
/-- Is the segment at j valid?. -/
def slQ (xs : List Int) (j : Nat) : Bool := segB (xs.getD (j * 4) 0) (xs.getD (j * 4 + 1) 0) (xs.getD (j * 4 + 2) 0) (xs.getD (j * 4 + 3) 0)
theorem drop4s {xs : List Int} {o : Nat} (h : o + 4 ≤ xs.length) : xs.drop o = [xs.getD o 0, xs.getD (o + 1) 0, xs.getD (o + 2) 0, xs.getD (o + 3) 0] ++ xs.drop (o + 4) := by
  rw [drop_cons (l := xs) (k := o) (by omega) 0, drop_cons (l := xs) (k := o + 1) (by omega) 0, drop_cons (l := xs) (k := o + 2) (by omega) 0, drop_cons (l := xs) (k := o + 3) (by omega) 0]
  rfl
noncomputable def c_toSl : Code := ((loopsOf (codeOf Try.f17))[0]?).getD .skip
def k_toSl : Ex → List Nat := keeps [0, 3, 4] [(0, [3])] [2]
def s_toSl (xs : List Int) (n : Nat) : Nat × (List Int) → St := fun (i, ys) => ⟨[.slice (some ⟨0, 0, none⟩) n n, topV, topV, .slice (some ⟨1, 0, none⟩) n n, .int .i64 i, topV, topV, topV, topV, topV, topV, topV, topV, topV, topV, topV, topV, topV, topV, topV, topV, topV, topV], [some ⟨.view, .ints xs⟩, some ⟨.row 39 4, .ints ys⟩]⟩
def re_toSl : Nat × (List Int) → Ex := fun _ => .exit 0
def rs_toSl (xs : List Int) (n : Nat) : Nat × (List Int) → St := fun (i, ys) => ⟨[topV, topV, topV, .slice (some ⟨1, 0, none⟩) n n, topV, topV, topV, topV, topV, topV, topV, topV, topV, topV, topV, topV, topV, topV, topV, topV, topV, topV, topV], [some ⟨.view, .ints xs⟩, some ⟨.row 39 4, .ints xs⟩]⟩
set_option maxRecDepth 100000 in
theorem tr_toSl (xs : List Int) (n : Nat) (i : Nat) (ys : List Int) : bodyL Try.prog EM 30 12 noL 1 c_toSl k_toSl 2 (s_toSl xs n (i, ys)) = brT (decide ((↑i : Int) < (↑n : Int))) (.need ((0 : Int) ≤ (↑i : Int) ∧ (↑i : Int) < (↑n : Int)) (.need ((0 : Nat) + (↑i : Int).toNat * (4 : Nat) + (4 : Nat) ≤ xs.length) (.need ((0 : Int) ≤ (↑i : Int) ∧ (↑i : Int) < (↑n : Int)) (.need ((0 : Nat) + (↑i : Int).toNat * (4 : Nat) + (4 : Nat) ≤ ys.length) (.leaf .normal ⟨[.slice (some ⟨0, 0, none⟩) (n) (n), topV, topV, .slice (some ⟨1, 0, none⟩) (n) (n), .int .i64 (IntKind.i64.wrap ((↑i : Int) + 1)), topV, topV, topV, topV, topV, topV, topV, topV, topV, topV, topV, topV, topV, topV, topV, topV, topV, topV], [some ⟨.view, .ints (xs)⟩, some ⟨.row 39 4, .ints (setInts ys (0 + (↑i : Int).toNat * 4) [xs.getD (0 + (↑i : Int).toNat * 4) 0, xs.getD (0 + (↑i : Int).toNat * 4 + 1) 0, xs.getD (0 + (↑i : Int).toNat * 4 + 1 + 1) 0, xs.getD (0 + (↑i : Int).toNat * 4 + 1 + 1 + 1) 0])⟩]⟩))))) (.leaf (.exit 0) ⟨[topV, topV, topV, .slice (some ⟨1, 0, none⟩) (n) (n), topV, topV, topV, topV, topV, topV, topV, topV, topV, topV, topV, topV, topV, topV, topV, topV, topV, topV, topV], [some ⟨.view, .ints (xs)⟩, some ⟨.row 39 4, .ints (ys)⟩]⟩) := by kernel_rfl
set_option maxRecDepth 100000 in
theorem nl_toSl : loopsOf c_toSl = [] := by kernel_rfl
def inv_toSl (xs : List Int) (n : Nat) : Nat × (List Int) → Prop := fun (i, ys) => i ≤ n ∧ ys.length = n * 4 ∧ ys.take (i * 4) = xs.take (i * 4)
def me_toSl (xs : List Int) (n : Nat) : Nat × (List Int) → Nat := fun (i, ys) => n - i
/-- A round of this loop. -/
def Round_toSl (xs : List Int) (n : Nat) : Prop := ∀ xx : Nat × (List Int), inv_toSl xs n xx → (bodyL Try.prog EM 30 12 noL 1 c_toSl k_toSl 2 (s_toSl xs n xx)).ok (RoundEnd 2 (s_toSl xs n) (inv_toSl xs n) (me_toSl xs n) re_toSl (rs_toSl xs n) xx) (fun _ _ => False)
def e_toSl (s : St) (k : Ex → St → Tree) : Option Tree := match Nat.beq s.tmps.length 23, pickL s.tmps [0, 3, 4], s.mem with
  | true, [.slice (some ⟨0, 0, none⟩) n _, .slice (some ⟨1, 0, none⟩) m _, .int .i64 i], [some ⟨.view, .ints xs⟩, some ⟨.row 39 4, .ints ys⟩] => some (needs [i = 0, m = n, xs.length = n * 4, ys.length = n * 4, n ≤ 1000000000] (k (.exit 0) ⟨[topV, topV, topV, .slice (some ⟨1, 0, none⟩) n n, topV, topV, topV, topV, topV, topV, topV, topV, topV, topV, topV, topV, topV, topV, topV, topV, topV, topV, topV], [some ⟨.view, .ints xs⟩, some ⟨.row 39 4, .ints xs⟩]⟩))
  | _, _, _ => none
set_option maxRecDepth 100000 in
theorem round_toSl (xs : List Int) (n : Nat) (hx : xs.length = n * 4) (h : n ≤ 1000000000) : Round_toSl xs n := by
  rintro ⟨i, ys⟩ ⟨h1, h2, h3⟩
  rw [tr_toSl]
  simp only [brT_ok, Tree.ok, decide_eq_true_eq, decide_eq_false_iff_not, Int.toNat_natCast, Nat.zero_add, Nat.add_zero, Cs.size]
  refine ⟨fun hlt => ?_, fun hge => ?_⟩
  · rw [wsucc (n := n) (by omega) h]
    obtain ⟨e1, e2⟩ := set_step (k := 4) (ns := [xs.getD (i * 4) 0, xs.getD (i * 4 + 1) 0, xs.getD (i * 4 + 2) 0, xs.getD (i * 4 + 3) 0]) rfl (drop4s (by omega)) (by omega) (by omega) h3
    refine ⟨by omega, by omega, by omega, by omega, (i + 1, setInts ys (i * 4) [xs.getD (i * 4) 0, xs.getD (i * 4 + 1) 0, xs.getD (i * 4 + 2) 0, xs.getD (i * 4 + 3) 0]), [], ⟨by omega, by omega, ?_⟩, ?_, rfl, rfl, ?_⟩
    · rw [show (i + 1) * 4 = i * 4 + 4 by omega]
      exact e1
    · show n - (i + 1) < n - i; omega
    · repeat' (first | exact True.intro | exact rfl | exact fun _ => rfl | refine And.intro ?_ ?_)
  · obtain rfl : i = n := by omega
    have e : ys = xs := by
      rw [List.take_of_length_le (by omega), List.take_of_length_le (by omega)] at h3
      exact h3
    subst e
    refine ⟨rfl, [], ?_⟩
    repeat' (first | exact True.intro | exact rfl | exact fun _ => rfl | refine And.intro ?_ ?_)
set_option maxRecDepth 100000 in
theorem lg_toSl : LoopE Try.prog e_toSl c_toSl := by
  intro s k t F H hlt ht
  unfold e_toSl at hlt
  split at hlt
  rotate_left
  · cases hlt
  rename_i hlen hpick hmem
  obtain ⟨tmps, mem⟩ := s
  simp only at hlen hpick hmem
  subst hmem
  obtain rfl := Option.some.inj hlt
  obtain ⟨⟨rfl, rfl, h1, h2, h3, _⟩, ht2⟩ := needs_ok ht
  clear ht hlt
  refine ⟨_, _, ht2, loop_run mixed EM_ok (s_toSl _ _) (inv_toSl _ _) (me_toSl _ _) re_toSl (rs_toSl _ _) k_toSl (fun _ => rfl) (noLoops nl_toSl) (round_toSl _ _ h1 h3) (x := (0, _)) ⟨Nat.zero_le _, h2, rfl⟩ (π := []) rfl ?_⟩
  refine ⟨rfl, rfl, ?_, wvs_spread' [0, 3, 4] hlen rfl ?_⟩
  · repeat' (first | exact True.intro | exact rfl | exact wv_top _ _ | exact fun _ => rfl | assumption | exact Eq.symm (by assumption) | exact vI0 rfl | refine And.intro ?_ ?_)
  · rw [hpick]
    repeat' (first | exact True.intro | exact rfl | exact wv_top _ _ | exact fun _ => rfl | assumption | exact Eq.symm (by assumption) | exact vI0 rfl | refine And.intro ?_ ?_)
noncomputable def c_eqSl : Code := ((loopsOf (codeOf Try.f20))[0]?).getD .skip
def k_eqSl : Ex → List Nat := keeps [0, 1, 5] [(0, [])] [4]
def s_eqSl (n : Nat) (xs : List Int) : Nat → St := fun i => ⟨[.slice (some ⟨0, 0, none⟩) n n, .slice (some ⟨1, 0, none⟩) n n, topV, topV, topV, .int .i64 i, topV, topV, topV, topV, topV, topV, topV, topV, topV, topV, topV, topV, topV, topV, topV, topV, topV, topV, topV, topV, topV], [some ⟨.view, .ints xs⟩, some ⟨.view, .ints xs⟩]⟩
def re_eqSl : Nat → Ex := fun _ => .exit 0
def rs_eqSl (n : Nat) (xs : List Int) : Nat → St := fun i => ⟨[topV, topV, topV, topV, topV, topV, topV, topV, topV, topV, topV, topV, topV, topV, topV, topV, topV, topV, topV, topV, topV, topV, topV, topV, topV, topV, topV], [some ⟨.view, .ints xs⟩, some ⟨.view, .ints xs⟩]⟩
set_option maxRecDepth 100000 in
theorem tr_eqSl (n : Nat) (xs : List Int) (i : Nat) : bodyL Try.prog EM 30 12 noL 1 c_eqSl k_eqSl 2 (s_eqSl n xs i) = brT (decide ((↑i : Int) < (↑n : Int))) (brT (!xs.getD (0 + (↑i : Int).toNat * 4) 0 == xs.getD (0 + (↑i : Int).toNat * 4) 0) (.need ((0 : Int) ≤ (↑i : Int) ∧ (↑i : Int) < (↑n : Int)) (.need ((0 : Nat) + (↑i : Int).toNat * (4 : Nat) + (4 : Nat) ≤ xs.length) (.need ((0 : Int) ≤ (↑i : Int) ∧ (↑i : Int) < (↑n : Int)) (.need ((0 : Nat) + (↑i : Int).toNat * (4 : Nat) + (4 : Nat) ≤ xs.length) (.leaf .ret ⟨[topV, topV, topV, topV, .bool (false), topV, topV, topV, topV, topV, topV, topV, topV, topV, topV, topV, topV, topV, topV, topV, topV, topV, topV, topV, topV, topV, topV], [some ⟨.view, .ints (xs)⟩, some ⟨.view, .ints (xs)⟩]⟩))))) (brT (!xs.getD (0 + (↑i : Int).toNat * 4 + 1) 0 == xs.getD (0 + (↑i : Int).toNat * 4 + 1) 0) (.need ((0 : Int) ≤ (↑i : Int) ∧ (↑i : Int) < (↑n : Int)) (.need ((0 : Nat) + (↑i : Int).toNat * (4 : Nat) + (4 : Nat) ≤ xs.length) (.need ((0 : Int) ≤ (↑i : Int) ∧ (↑i : Int) < (↑n : Int)) (.need ((0 : Nat) + (↑i : Int).toNat * (4 : Nat) + (4 : Nat) ≤ xs.length) (.leaf .ret ⟨[topV, topV, topV, topV, .bool (false), topV, topV, topV, topV, topV, topV, topV, topV, topV, topV, topV, topV, topV, topV, topV, topV, topV, topV, topV, topV, topV, topV], [some ⟨.view, .ints (xs)⟩, some ⟨.view, .ints (xs)⟩]⟩))))) (brT (!xs.getD (0 + (↑i : Int).toNat * 4 + 1 + 1) 0 == xs.getD (0 + (↑i : Int).toNat * 4 + 1 + 1) 0) (.need ((0 : Int) ≤ (↑i : Int) ∧ (↑i : Int) < (↑n : Int)) (.need ((0 : Nat) + (↑i : Int).toNat * (4 : Nat) + (4 : Nat) ≤ xs.length) (.need ((0 : Int) ≤ (↑i : Int) ∧ (↑i : Int) < (↑n : Int)) (.need ((0 : Nat) + (↑i : Int).toNat * (4 : Nat) + (4 : Nat) ≤ xs.length) (.leaf .ret ⟨[topV, topV, topV, topV, .bool (false), topV, topV, topV, topV, topV, topV, topV, topV, topV, topV, topV, topV, topV, topV, topV, topV, topV, topV, topV, topV, topV, topV], [some ⟨.view, .ints (xs)⟩, some ⟨.view, .ints (xs)⟩]⟩))))) (brT (!xs.getD (0 + (↑i : Int).toNat * 4 + 1 + 1 + 1) 0 == xs.getD (0 + (↑i : Int).toNat * 4 + 1 + 1 + 1) 0) (.need ((0 : Int) ≤ (↑i : Int) ∧ (↑i : Int) < (↑n : Int)) (.need ((0 : Nat) + (↑i : Int).toNat * (4 : Nat) + (4 : Nat) ≤ xs.length) (.need ((0 : Int) ≤ (↑i : Int) ∧ (↑i : Int) < (↑n : Int)) (.need ((0 : Nat) + (↑i : Int).toNat * (4 : Nat) + (4 : Nat) ≤ xs.length) (.leaf .ret ⟨[topV, topV, topV, topV, .bool (false), topV, topV, topV, topV, topV, topV, topV, topV, topV, topV, topV, topV, topV, topV, topV, topV, topV, topV, topV, topV, topV, topV], [some ⟨.view, .ints (xs)⟩, some ⟨.view, .ints (xs)⟩]⟩))))) (.need ((0 : Int) ≤ (↑i : Int) ∧ (↑i : Int) < (↑n : Int)) (.need ((0 : Nat) + (↑i : Int).toNat * (4 : Nat) + (4 : Nat) ≤ xs.length) (.need ((0 : Int) ≤ (↑i : Int) ∧ (↑i : Int) < (↑n : Int)) (.need ((0 : Nat) + (↑i : Int).toNat * (4 : Nat) + (4 : Nat) ≤ xs.length) (.leaf .normal ⟨[.slice (some ⟨0, 0, none⟩) (n) (n), .slice (some ⟨1, 0, none⟩) (n) (n), topV, topV, topV, .int .i64 (IntKind.i64.wrap ((↑i : Int) + 1)), topV, topV, topV, topV, topV, topV, topV, topV, topV, topV, topV, topV, topV, topV, topV, topV, topV, topV, topV, topV, topV], [some ⟨.view, .ints (xs)⟩, some ⟨.view, .ints (xs)⟩]⟩))))))))) (.leaf (.exit 0) ⟨[topV, topV, topV, topV, topV, topV, topV, topV, topV, topV, topV, topV, topV, topV, topV, topV, topV, topV, topV, topV, topV, topV, topV, topV, topV, topV, topV], [some ⟨.view, .ints (xs)⟩, some ⟨.view, .ints (xs)⟩]⟩) := by kernel_rfl
set_option maxRecDepth 100000 in
theorem nl_eqSl : loopsOf c_eqSl = [] := by kernel_rfl
def inv_eqSl (n : Nat) (xs : List Int) : Nat → Prop := fun i => i ≤ n
def me_eqSl (n : Nat) (xs : List Int) : Nat → Nat := fun i => n - i
/-- A round of this loop. -/
def Round_eqSl (n : Nat) (xs : List Int) : Prop := ∀ xx : Nat, inv_eqSl n xs xx → (bodyL Try.prog EM 30 12 noL 1 c_eqSl k_eqSl 2 (s_eqSl n xs xx)).ok (RoundEnd 2 (s_eqSl n xs) (inv_eqSl n xs) (me_eqSl n xs) re_eqSl (rs_eqSl n xs) xx) (fun _ _ => False)
def e_eqSl (s : St) (k : Ex → St → Tree) : Option Tree := match Nat.beq s.tmps.length 27, pickL s.tmps [0, 1, 5], s.mem with
  | true, [.slice (some ⟨0, 0, none⟩) n _, .slice (some ⟨1, 0, none⟩) m _, .int .i64 i], [some ⟨.view, .ints xs⟩, some ⟨.view, .ints ys⟩] => some (needs [i = 0, m = n, ys = xs, xs.length = n * 4, n ≤ 1000000000] (k (.exit 0) ⟨[topV, topV, topV, topV, topV, topV, topV, topV, topV, topV, topV, topV, topV, topV, topV, topV, topV, topV, topV, topV, topV, topV, topV, topV, topV, topV, topV], [some ⟨.view, .ints xs⟩, some ⟨.view, .ints xs⟩]⟩))
  | _, _, _ => none
set_option maxRecDepth 100000 in
theorem round_eqSl (n : Nat) (xs : List Int) (hx : xs.length = n * 4) (h : n ≤ 1000000000) : Round_eqSl n xs := by
  intro i h1
  have h1 : i ≤ n := h1
  rw [tr_eqSl]
  simp only [beq_self_eq_true, Bool.not_true, brT_f, brT_ok, Tree.ok, decide_eq_true_eq, decide_eq_false_iff_not, Int.toNat_natCast, Nat.zero_add, Nat.add_zero]
  refine ⟨fun hlt => ?_, fun hge => ?_⟩
  · rw [wsucc (n := n) (by omega) h]
    refine ⟨by omega, by omega, by omega, by omega, i + 1, [], ?_, ?_, rfl, rfl, ?_⟩
    · show i + 1 ≤ n; omega
    · show n - (i + 1) < n - i; omega
    · repeat' (first | exact True.intro | exact rfl | exact fun _ => rfl | refine And.intro ?_ ?_)
  · refine ⟨rfl, [], ?_⟩
    repeat' (first | exact True.intro | exact rfl | exact fun _ => rfl | refine And.intro ?_ ?_)
set_option maxRecDepth 100000 in
theorem lg_eqSl : LoopE Try.prog e_eqSl c_eqSl := by
  intro s k t F H hlt ht
  unfold e_eqSl at hlt
  split at hlt
  rotate_left
  · cases hlt
  rename_i hlen hpick hmem
  obtain ⟨tmps, mem⟩ := s
  simp only at hlen hpick hmem
  subst hmem
  obtain rfl := Option.some.inj hlt
  obtain ⟨⟨rfl, rfl, rfl, h1, h2, _⟩, ht2⟩ := needs_ok ht
  clear ht hlt
  refine ⟨_, _, ht2, loop_run mixed EM_ok (s_eqSl _ _) (inv_eqSl _ _) (me_eqSl _ _) re_eqSl (rs_eqSl _ _) k_eqSl (fun _ => rfl) (noLoops nl_eqSl) (round_eqSl _ _ h1 h2) (x := 0) (Nat.zero_le _) (π := []) rfl ?_⟩
  refine ⟨rfl, rfl, ?_, wvs_spread' [0, 1, 5] hlen rfl ?_⟩
  · repeat' (first | exact True.intro | exact rfl | exact wv_top _ _ | exact fun _ => rfl | assumption | exact Eq.symm (by assumption) | exact vI0 rfl | refine And.intro ?_ ?_)
  · rw [hpick]
    repeat' (first | exact True.intro | exact rfl | exact wv_top _ _ | exact fun _ => rfl | assumption | exact Eq.symm (by assumption) | exact vI0 rfl | refine And.intro ?_ ?_)
noncomputable def c_svSl : Code := ((loopsOf (codeOf Try.f62))[0]?).getD .skip
def k_svSl : Ex → List Nat := keeps [0, 3] [(0, [0])] [2]
def s_svSl (n : Nat) (xs : List Int) : Nat → St := fun i => ⟨[.slice (some ⟨0, 0, none⟩) n n, topV, topV, .int .i64 i, topV, topV, topV, topV, topV, topV, topV, topV, topV, topV, topV, topV, topV, topV, topV], [some ⟨.view, .ints xs⟩]⟩
def re_svSl (n : Nat) (xs : List Int) : Nat → Ex := fun i => bif allQ (slQ xs) i (n - i) then .exit 0 else .ret
def rs_svSl (n : Nat) (xs : List Int) : Nat → St := fun i => bif allQ (slQ xs) i (n - i) then ⟨[.slice (some ⟨0, 0, none⟩) n n, topV, topV, topV, topV, topV, topV, topV, topV, topV, topV, topV, topV, topV, topV, topV, topV, topV, topV], [some ⟨.view, .ints xs⟩]⟩ else ⟨[topV, topV, .bool false, topV, topV, topV, topV, topV, topV, topV, topV, topV, topV, topV, topV, topV, topV, topV, topV], [some ⟨.view, .ints xs⟩]⟩
set_option maxRecDepth 100000 in
theorem tr_svSl (n : Nat) (xs : List Int) (i : Nat) : bodyL Try.prog ESl 30 12 noL 1 c_svSl k_svSl 1 (s_svSl n xs i) = brT (decide ((↑i : Int) < (↑n : Int))) (.need ((0 : Int) ≤ (↑i : Int) ∧ (↑i : Int) < (↑n : Int)) (.need ((0 : Nat) + (↑i : Int).toNat * (4 : Nat) + (4 : Nat) ≤ xs.length) (brT (!segB (xs.getD (0 + (↑i : Int).toNat * 4) 0) (xs.getD (0 + (↑i : Int).toNat * 4 + 1) 0) (xs.getD (0 + (↑i : Int).toNat * 4 + 1 + 1) 0) (xs.getD (0 + (↑i : Int).toNat * 4 + 1 + 1 + 1) 0)) (.leaf .ret ⟨[topV, topV, .bool (false), topV, topV, topV, topV, topV, topV, topV, topV, topV, topV, topV, topV, topV, topV, topV, topV], [some ⟨.view, .ints (xs)⟩]⟩) (.leaf .normal ⟨[.slice (some ⟨0, 0, none⟩) (n) (n), topV, topV, .int .i64 (IntKind.i64.wrap ((↑i : Int) + 1)), topV, topV, topV, topV, topV, topV, topV, topV, topV, topV, topV, topV, topV, topV, topV], [some ⟨.view, .ints (xs)⟩]⟩)))) (.leaf (.exit 0) ⟨[.slice (some ⟨0, 0, none⟩) (n) (n), topV, topV, topV, topV, topV, topV, topV, topV, topV, topV, topV, topV, topV, topV, topV, topV, topV, topV], [some ⟨.view, .ints (xs)⟩]⟩) := by kernel_rfl
set_option maxRecDepth 100000 in
theorem nl_svSl : loopsOf c_svSl = [] := by kernel_rfl
def inv_svSl (n : Nat) (xs : List Int) : Nat → Prop := fun i => i ≤ n
def me_svSl (n : Nat) (xs : List Int) : Nat → Nat := fun i => n - i
/-- A round of this loop. -/
def Round_svSl (n : Nat) (xs : List Int) : Prop := ∀ xx : Nat, inv_svSl n xs xx → (bodyL Try.prog ESl 30 12 noL 1 c_svSl k_svSl 1 (s_svSl n xs xx)).ok (RoundEnd 1 (s_svSl n xs) (inv_svSl n xs) (me_svSl n xs) (re_svSl n xs) (rs_svSl n xs) xx) (fun _ _ => False)
def e_svSl (s : St) (k : Ex → St → Tree) : Option Tree := match Nat.beq s.tmps.length 19, pickL s.tmps [0, 3], s.mem with
  | true, [.slice (some ⟨0, 0, none⟩) n _, .int .i64 i], [some ⟨.view, .ints xs⟩] => some (needs [i = 0, xs.length = n * 4, n ≤ 1000000000] (brT (allQ (slQ xs) 0 n) (k (.exit 0) ⟨[.slice (some ⟨0, 0, none⟩) n n, topV, topV, topV, topV, topV, topV, topV, topV, topV, topV, topV, topV, topV, topV, topV, topV, topV, topV], [some ⟨.view, .ints xs⟩]⟩) (k .ret ⟨[topV, topV, .bool false, topV, topV, topV, topV, topV, topV, topV, topV, topV, topV, topV, topV, topV, topV, topV, topV], [some ⟨.view, .ints xs⟩]⟩)))
  | _, _, _ => none
set_option maxRecDepth 100000 in
theorem round_svSl (n : Nat) (xs : List Int) (hx : xs.length = n * 4) (h : n ≤ 1000000000) : Round_svSl n xs := by
  intro i h1
  have h1 : i ≤ n := h1
  rw [tr_svSl]
  simp only [brT_ok, Tree.ok, decide_eq_true_eq, decide_eq_false_iff_not, Int.toNat_natCast, Nat.zero_add, Bool.not_eq_true', Bool.not_eq_false']
  refine ⟨fun hlt => ⟨by omega, by omega, fun hv => ?_, fun hv => ?_⟩, fun hge => ?_⟩
  · have e : allQ (slQ xs) i (n - i) = false := by rw [allQ_step (by omega)]; unfold slQ; rw [hv, Bool.false_and]
    refine ⟨by simp only [re_svSl, e, cond_false], [], ?_⟩
    simp only [rs_svSl, e, cond_false]
    repeat' (first | exact True.intro | exact rfl | exact fun _ => rfl | refine And.intro ?_ ?_)
  · have e : allQ (slQ xs) i (n - i) = allQ (slQ xs) (i + 1) (n - (i + 1)) := by
      rw [allQ_step (by omega)]
      have : slQ xs i = true := hv
      rw [this, Bool.true_and]
    rw [wsucc (n := n) (by omega) h]
    refine ⟨i + 1, [], ?_, ?_, by simp only [re_svSl, e], by simp only [rs_svSl, e], ?_⟩
    · show i + 1 ≤ n; omega
    · show n - (i + 1) < n - i; omega
    · repeat' (first | exact True.intro | exact rfl | exact fun _ => rfl | refine And.intro ?_ ?_)
  · have e : allQ (slQ xs) i (n - i) = true := allQ_end (by omega)
    refine ⟨by simp only [re_svSl, e, cond_true], [], ?_⟩
    simp only [rs_svSl, e, cond_true]
    repeat' (first | exact True.intro | exact rfl | exact fun _ => rfl | refine And.intro ?_ ?_)
set_option maxRecDepth 100000 in
theorem lg_svSl : LoopE Try.prog e_svSl c_svSl := by
  intro s k t F H hlt ht
  unfold e_svSl at hlt
  split at hlt
  rotate_left
  · cases hlt
  rename_i hlen hpick hmem
  obtain ⟨tmps, mem⟩ := s
  simp only at hlen hpick hmem
  subst hmem
  obtain rfl := Option.some.inj hlt
  obtain ⟨⟨rfl, h1, h2, _⟩, ht2⟩ := needs_ok ht
  clear ht hlt
  refine ⟨_, _, pick2k ht2, loop_run mixed ESl_ok (s_svSl _ _) (inv_svSl _ _) (me_svSl _ _) (re_svSl _ _) (rs_svSl _ _) k_svSl (fun _ => rfl) (noLoops nl_svSl) (round_svSl _ _ h1 h2) (x := 0) (Nat.zero_le _) (π := []) rfl ?_⟩
  refine ⟨rfl, rfl, ?_, wvs_spread' [0, 3] hlen rfl ?_⟩
  · repeat' (first | exact True.intro | exact rfl | exact wv_top _ _ | exact fun _ => rfl | assumption | exact Eq.symm (by assumption) | exact vI0 rfl | refine And.intro ?_ ?_)
  · rw [hpick]
    repeat' (first | exact True.intro | exact rfl | exact wv_top _ _ | exact fun _ => rfl | assumption | exact Eq.symm (by assumption) | exact vI0 rfl | refine And.intro ?_ ?_)
noncomputable def c_ivSl : Code := ((loopsOf (codeOf Try.f65))[0]?).getD .skip
def k_ivSl : Ex → List Nat := keeps [0, 5, 6, 7] [(0, [0])] [2]
def s_ivSl (n : Nat) (xs : List Int) : Nat → St := fun i => ⟨[.slice (some ⟨0, 0, none⟩) n n, topV, topV, topV, topV, .slice (some ⟨0, 0, none⟩) n n, .int .i64 n, .int .i64 i, topV, topV, topV, topV, topV, topV, topV, topV, topV, topV], [some ⟨.view, .ints xs⟩]⟩
def re_ivSl (n : Nat) (xs : List Int) : Nat → Ex := fun i => bif allQ (slQ xs) i (n - i) then .exit 0 else .ret
def rs_ivSl (n : Nat) (xs : List Int) : Nat → St := fun i => bif allQ (slQ xs) i (n - i) then ⟨[.slice (some ⟨0, 0, none⟩) n n, topV, topV, topV, topV, topV, topV, topV, topV, topV, topV, topV, topV, topV, topV, topV, topV, topV], [some ⟨.view, .ints xs⟩]⟩ else ⟨[topV, topV, .bool false, topV, topV, topV, topV, topV, topV, topV, topV, topV, topV, topV, topV, topV, topV, topV], [some ⟨.view, .ints xs⟩]⟩
set_option maxRecDepth 100000 in
theorem tr_ivSl (n : Nat) (xs : List Int) (i : Nat) : bodyL Try.prog ESl 30 12 noL 1 c_ivSl k_ivSl 1 (s_ivSl n xs i) = brT (decide ((↑i : Int) < (↑n : Int))) (.need ((0 : Int) ≤ (↑i : Int) ∧ (↑i : Int) < (↑n : Int)) (.need ((0 : Nat) + (↑i : Int).toNat * (4 : Nat) + (4 : Nat) ≤ xs.length) (brT (!segB (xs.getD (0 + (↑i : Int).toNat * 4) 0) (xs.getD (0 + (↑i : Int).toNat * 4 + 1) 0) (xs.getD (0 + (↑i : Int).toNat * 4 + 1 + 1) 0) (xs.getD (0 + (↑i : Int).toNat * 4 + 1 + 1 + 1) 0)) (.leaf .ret ⟨[topV, topV, .bool (false), topV, topV, topV, topV, topV, topV, topV, topV, topV, topV, topV, topV, topV, topV, topV], [some ⟨.view, .ints (xs)⟩]⟩) (.leaf .normal ⟨[.slice (some ⟨0, 0, none⟩) (n) (n), topV, topV, topV, topV, .slice (some ⟨0, 0, none⟩) (n) (n), .int .i64 ((↑n : Int)), .int .i64 (IntKind.i64.wrap ((↑i : Int) + 1)), topV, topV, topV, topV, topV, topV, topV, topV, topV, topV], [some ⟨.view, .ints (xs)⟩]⟩)))) (.leaf (.exit 0) ⟨[.slice (some ⟨0, 0, none⟩) (n) (n), topV, topV, topV, topV, topV, topV, topV, topV, topV, topV, topV, topV, topV, topV, topV, topV, topV], [some ⟨.view, .ints (xs)⟩]⟩) := by kernel_rfl
set_option maxRecDepth 100000 in
theorem nl_ivSl : loopsOf c_ivSl = [] := by kernel_rfl
def inv_ivSl (n : Nat) (xs : List Int) : Nat → Prop := fun i => i ≤ n
def me_ivSl (n : Nat) (xs : List Int) : Nat → Nat := fun i => n - i
/-- A round of this loop. -/
def Round_ivSl (n : Nat) (xs : List Int) : Prop := ∀ xx : Nat, inv_ivSl n xs xx → (bodyL Try.prog ESl 30 12 noL 1 c_ivSl k_ivSl 1 (s_ivSl n xs xx)).ok (RoundEnd 1 (s_ivSl n xs) (inv_ivSl n xs) (me_ivSl n xs) (re_ivSl n xs) (rs_ivSl n xs) xx) (fun _ _ => False)
def e_ivSl (s : St) (k : Ex → St → Tree) : Option Tree := match Nat.beq s.tmps.length 18, pickL s.tmps [0, 5, 6, 7], s.mem with
  | true, [.slice (some ⟨0, 0, none⟩) n _, .slice (some ⟨0, 0, none⟩) n2 _, .int .i64 n3, .int .i64 i], [some ⟨.view, .ints xs⟩] => some (needs [i = 0, n2 = n, n3 = n, xs.length = n * 4, n ≤ 1000000000] (brT (allQ (slQ xs) 0 n) (k (.exit 0) ⟨[.slice (some ⟨0, 0, none⟩) n n, topV, topV, topV, topV, topV, topV, topV, topV, topV, topV, topV, topV, topV, topV, topV, topV, topV], [some ⟨.view, .ints xs⟩]⟩) (k .ret ⟨[topV, topV, .bool false, topV, topV, topV, topV, topV, topV, topV, topV, topV, topV, topV, topV, topV, topV, topV], [some ⟨.view, .ints xs⟩]⟩)))
  | _, _, _ => none
set_option maxRecDepth 100000 in
theorem round_ivSl (n : Nat) (xs : List Int) (hx : xs.length = n * 4) (h : n ≤ 1000000000) : Round_ivSl n xs := by
  intro i h1
  have h1 : i ≤ n := h1
  rw [tr_ivSl]
  simp only [brT_ok, Tree.ok, decide_eq_true_eq, decide_eq_false_iff_not, Int.toNat_natCast, Nat.zero_add, Bool.not_eq_true', Bool.not_eq_false']
  refine ⟨fun hlt => ⟨by omega, by omega, fun hv => ?_, fun hv => ?_⟩, fun hge => ?_⟩
  · have e : allQ (slQ xs) i (n - i) = false := by rw [allQ_step (by omega)]; unfold slQ; rw [hv, Bool.false_and]
    refine ⟨by simp only [re_ivSl, e, cond_false], [], ?_⟩
    simp only [rs_ivSl, e, cond_false]
    repeat' (first | exact True.intro | exact rfl | exact fun _ => rfl | refine And.intro ?_ ?_)
  · have e : allQ (slQ xs) i (n - i) = allQ (slQ xs) (i + 1) (n - (i + 1)) := by
      rw [allQ_step (by omega)]
      have : slQ xs i = true := hv
      rw [this, Bool.true_and]
    rw [wsucc (n := n) (by omega) h]
    refine ⟨i + 1, [], ?_, ?_, by simp only [re_ivSl, e], by simp only [rs_ivSl, e], ?_⟩
    · show i + 1 ≤ n; omega
    · show n - (i + 1) < n - i; omega
    · repeat' (first | exact True.intro | exact rfl | exact fun _ => rfl | refine And.intro ?_ ?_)
  · have e : allQ (slQ xs) i (n - i) = true := allQ_end (by omega)
    refine ⟨by simp only [re_ivSl, e, cond_true], [], ?_⟩
    simp only [rs_ivSl, e, cond_true]
    repeat' (first | exact True.intro | exact rfl | exact fun _ => rfl | refine And.intro ?_ ?_)
set_option maxRecDepth 100000 in
theorem lg_ivSl : LoopE Try.prog e_ivSl c_ivSl := by
  intro s k t F H hlt ht
  unfold e_ivSl at hlt
  split at hlt
  rotate_left
  · cases hlt
  rename_i hlen hpick hmem
  obtain ⟨tmps, mem⟩ := s
  simp only at hlen hpick hmem
  subst hmem
  obtain rfl := Option.some.inj hlt
  obtain ⟨⟨rfl, rfl, rfl, h1, h2, _⟩, ht2⟩ := needs_ok ht
  clear ht hlt
  refine ⟨_, _, pick2k ht2, loop_run mixed ESl_ok (s_ivSl _ _) (inv_ivSl _ _) (me_ivSl _ _) (re_ivSl _ _) (rs_ivSl _ _) k_ivSl (fun _ => rfl) (noLoops nl_ivSl) (round_ivSl _ _ h1 h2) (x := 0) (Nat.zero_le _) (π := []) rfl ?_⟩
  refine ⟨rfl, rfl, ?_, wvs_spread' [0, 5, 6, 7] hlen rfl ?_⟩
  · repeat' (first | exact True.intro | exact rfl | exact wv_top _ _ | exact fun _ => rfl | assumption | exact Eq.symm (by assumption) | exact vI0 rfl | refine And.intro ?_ ?_)
  · rw [hpick]
    repeat' (first | exact True.intro | exact rfl | exact wv_top _ _ | exact fun _ => rfl | assumption | exact Eq.symm (by assumption) | exact vI0 rfl | refine And.intro ?_ ?_)
noncomputable def c_markPr : Code := ((loopsOf (codeOf Try.f22))[0]?).getD .skip
def k_markPr : Ex → List Nat := keeps [0, 1, 5] [(0, [1])] [4]
def s_markPr (n : Nat) (k0 : Int) : Nat × (List Int) → St := fun (i, ys) => ⟨[.slice (some ⟨0, 0, none⟩) n n, .int .i64 (k0 + (i * 2 : Nat)), topV, topV, topV, .int .i64 i, topV, topV, topV, topV, topV, topV, topV, topV, topV, topV, topV, topV, topV, topV, topV, topV, topV, topV, topV, topV, topV], [some ⟨.row 41 2, .ints ys⟩]⟩
def re_markPr : Nat × (List Int) → Ex := fun _ => .exit 0
def rs_markPr (n : Nat) (k0 : Int) : Nat × (List Int) → St := fun (i, ys) => ⟨[topV, .int .i64 (k0 + (n * 2 : Nat)), topV, topV, topV, topV, topV, topV, topV, topV, topV, topV, topV, topV, topV, topV, topV, topV, topV, topV, topV, topV, topV, topV, topV, topV, topV], [some ⟨.row 41 2, .ints (marks k0 (n * 2))⟩]⟩
set_option maxRecDepth 100000 in
theorem tr_markPr (n : Nat) (k0 : Int) (i : Nat) (ys : List Int) : bodyL Try.prog EM 30 12 noL 1 c_markPr k_markPr 1 (s_markPr n k0 (i, ys)) = brT (decide ((↑i : Int) < (↑n : Int))) (.need ((0 : Int) ≤ (↑i : Int) ∧ (↑i : Int) < (↑n : Int)) (.need ((0 : Nat) + (↑i : Int).toNat * (2 : Nat) + (0 : Nat) + (1 : Nat) ≤ ys.length) (.need ((0 : Int) ≤ (↑i : Int) ∧ (↑i : Int) < (↑n : Int)) (.need ((0 : Nat) + (↑i : Int).toNat * (2 : Nat) + (1 : Nat) + (1 : Nat) ≤ (setInts ys ((0 : Nat) + (↑i : Int).toNat * (2 : Nat) + (0 : Nat)) [k0 + (↑(i * (2 : Nat)) : Int)]).length) (.leaf .normal ⟨[.slice (some ⟨0, 0, none⟩) (n) (n), .int .i64 (IntKind.i64.wrap (IntKind.i64.wrap (k0 + (↑(i * 2) : Int) + 1) + 1)), topV, topV, topV, .int .i64 (IntKind.i64.wrap ((↑i : Int) + 1)), topV, topV, topV, topV, topV, topV, topV, topV, topV, topV, topV, topV, topV, topV, topV, topV, topV, topV, topV, topV, topV], [some ⟨.row 41 2, .ints (setInts (setInts ys (0 + (↑i : Int).toNat * 2 + 0) [k0 + (↑(i * 2) : Int)]) (0 + (↑i : Int).toNat * 2 + 1) [IntKind.i64.wrap (k0 + (↑(i * 2) : Int) + 1)])⟩]⟩))))) (.leaf (.exit 0) ⟨[topV, .int .i64 (k0 + (↑(i * 2) : Int)), topV, topV, topV, topV, topV, topV, topV, topV, topV, topV, topV, topV, topV, topV, topV, topV, topV, topV, topV, topV, topV, topV, topV, topV, topV], [some ⟨.row 41 2, .ints (ys)⟩]⟩) := by kernel_rfl
set_option maxRecDepth 100000 in
theorem nl_markPr : loopsOf c_markPr = [] := by kernel_rfl
def inv_markPr (n : Nat) (k0 : Int) : Nat × (List Int) → Prop := fun (i, ys) => i ≤ n ∧ ys.length = n * 2 ∧ ys.take (i * 2) = (marks k0 (n * 2)).take (i * 2)
def me_markPr (n : Nat) (k0 : Int) : Nat × (List Int) → Nat := fun (i, ys) => n - i
/-- A round of this loop. -/
def Round_markPr (n : Nat) (k0 : Int) : Prop := ∀ xx : Nat × (List Int), inv_markPr n k0 xx → (bodyL Try.prog EM 30 12 noL 1 c_markPr k_markPr 1 (s_markPr n k0 xx)).ok (RoundEnd 1 (s_markPr n k0) (inv_markPr n k0) (me_markPr n k0) re_markPr (rs_markPr n k0) xx) (fun _ _ => False)
def e_markPr (s : St) (k : Ex → St → Tree) : Option Tree := match Nat.beq s.tmps.length 27, pickL s.tmps [0, 1, 5], s.mem with
  | true, [.slice (some ⟨0, 0, none⟩) n _, .int .i64 k1, .int .i64 i], [some ⟨.row 41 2, .ints xs⟩] => some (needs [i = 0, xs.length = n * 2, n ≤ 1000000000, 0 ≤ k1 ∧ k1 ≤ 1000000000] (k (.exit 0) ⟨[topV, .int .i64 (k1 + (n * 2 : Nat)), topV, topV, topV, topV, topV, topV, topV, topV, topV, topV, topV, topV, topV, topV, topV, topV, topV, topV, topV, topV, topV, topV, topV, topV, topV], [some ⟨.row 41 2, .ints (marks k1 (n * 2))⟩]⟩))
  | _, _, _ => none
set_option maxRecDepth 100000 in
theorem round_markPr (n : Nat) (k0 : Int) (h : n ≤ 1000000000) (hk : 0 ≤ k0 ∧ k0 ≤ 1000000000) : Round_markPr n k0 := by
  rintro ⟨i, ys⟩ ⟨h1, h2, h3⟩
  rw [tr_markPr]
  simp only [brT_ok, Tree.ok, decide_eq_true_eq, decide_eq_false_iff_not, Int.toNat_natCast, Nat.zero_add, Nat.add_zero]
  refine ⟨fun hlt => ?_, fun hge => ?_⟩
  · rw [wsucc (n := n) (by omega) h, setInts_one _ _ (by omega), setInts_one _ _ (by simp; omega)]
    have e0 : IntKind.i64.wrap (k0 + ((i * 2 : Nat) : Int) + 1) = k0 + ((i * 2 + 1 : Nat) : Int) := by rw [wr (by omega)]; omega
    have e : IntKind.i64.wrap (k0 + ((i * 2 + 1 : Nat) : Int) + 1) = k0 + (((i + 1) * 2 : Nat) : Int) := by rw [wr (by omega)]; omega
    rw [e0, e]
    refine ⟨by omega, by omega, by omega, by simp; omega, (i + 1, (ys.set (i * 2) (k0 + ((i * 2 : Nat) : Int))).set (i * 2 + 1) (k0 + ((i * 2 + 1 : Nat) : Int))), [], ⟨by omega, by simp [h2], ?_⟩, ?_, rfl, rfl, ?_⟩
    · have := take_set_two (l := ys) (m := marks k0 (n * 2)) (i := i) (by omega) (by rw [marks_length]; omega) h3
      rwa [marks_get _ _ _ (by omega), marks_get _ _ _ (by omega)] at this
    · show n - (i + 1) < n - i; omega
    · repeat' (first | exact True.intro | exact rfl | exact fun _ => rfl | refine And.intro ?_ ?_)
  · obtain rfl : i = n := by omega
    have e : ys = marks k0 (i * 2) := by
      rw [List.take_of_length_le (by omega), List.take_of_length_le (by rw [marks_length]; omega)] at h3
      exact h3
    subst e
    refine ⟨rfl, [], ?_⟩
    repeat' (first | exact True.intro | exact rfl | exact fun _ => rfl | refine And.intro ?_ ?_)
set_option maxRecDepth 100000 in
theorem lg_markPr : LoopE Try.prog e_markPr c_markPr := by
  intro s k t F H hlt ht
  unfold e_markPr at hlt
  split at hlt
  rotate_left
  · cases hlt
  rename_i hlen hpick hmem
  obtain ⟨tmps, mem⟩ := s
  simp only at hlen hpick hmem
  subst hmem
  obtain rfl := Option.some.inj hlt
  obtain ⟨⟨rfl, h1, h2, h3, _⟩, ht2⟩ := needs_ok ht
  clear ht hlt
  refine ⟨_, _, ht2, loop_run mixed EM_ok (s_markPr _ _) (inv_markPr _ _) (me_markPr _ _) re_markPr (rs_markPr _ _) k_markPr (fun _ => rfl) (noLoops nl_markPr) (round_markPr _ _ h2 h3) (x := (0, _)) ⟨Nat.zero_le _, h1, rfl⟩ (π := []) rfl ?_⟩
  refine ⟨rfl, rfl, ?_, wvs_spread' [0, 1, 5] hlen rfl ?_⟩
  · repeat' (first | exact True.intro | exact rfl | exact wv_top _ _ | exact fun _ => rfl | assumption | exact Eq.symm (by assumption) | exact vI0 rfl | refine And.intro ?_ ?_)
  · rw [hpick]
    repeat' (first | exact True.intro | exact rfl | exact wv_top _ _ | exact fun _ => rfl | assumption | exact Eq.symm (by assumption) | exact vI0 rfl | refine And.intro ?_ ?_)
noncomputable def c_heldPr : Code := ((loopsOf (codeOf Try.f23))[0]?).getD .skip
def k_heldPr : Ex → List Nat := keeps [0, 1, 5] [(0, [1])] [4]
def s_heldPr (n : Nat) (k0 : Int) : Nat → St := fun i => ⟨(.slice (some ⟨0, 0, none⟩) n n :: .int .i64 (k0 + (i * 2 : Nat)) :: topV :: topV :: topV :: .int .i64 i :: topV :: topV :: topV :: topV :: topV :: topV :: topV :: topV :: topV :: topV :: topV :: topV :: topV :: topV :: topV :: topV :: topV :: topV :: topV :: topV :: topV :: topV :: topV :: topV :: topV :: []), [some ⟨.view, .ints (marks k0 (n * 2))⟩, none]⟩
def re_heldPr : Nat → Ex := fun _ => .exit 0
def rs_heldPr (n : Nat) (k0 : Int) : Nat → St := fun i => ⟨(topV :: .int .i64 (k0 + (n * 2 : Nat)) :: topV :: topV :: topV :: topV :: topV :: topV :: topV :: topV :: topV :: topV :: topV :: topV :: topV :: topV :: topV :: topV :: topV :: topV :: topV :: topV :: topV :: topV :: topV :: topV :: topV :: topV :: topV :: topV :: topV :: []), [some ⟨.view, .ints (marks k0 (n * 2))⟩, none]⟩
set_option maxRecDepth 100000 in
theorem tr_heldPr (n : Nat) (k0 : Int) (i : Nat) : bodyL Try.prog EM 30 12 noL 1 c_heldPr k_heldPr 2 (s_heldPr n k0 i) = brT (decide ((↑i : Int) < (↑n : Int))) (.need ((0 : Int) ≤ (↑i : Int) ∧ (↑i : Int) < (↑n : Int)) (.need ((0 : Nat) + (↑i : Int).toNat * (2 : Nat) + (0 : Nat) < (marks k0 (n * (2 : Nat))).length) (brT (!(marks k0 (n * 2)).getD (0 + (↑i : Int).toNat * 2 + 0) 0 == k0 + (↑(i * 2) : Int)) (.leaf .ret ⟨(topV :: topV :: topV :: topV :: .int .i64 (-1) :: topV :: topV :: topV :: topV :: topV :: topV :: topV :: topV :: topV :: topV :: topV :: topV :: topV :: topV :: topV :: topV :: topV :: topV :: topV :: topV :: topV :: topV :: topV :: topV :: topV :: topV :: []), [some ⟨.view, .ints (marks k0 (n * 2))⟩, none]⟩) (.need ((0 : Int) ≤ (↑i : Int) ∧ (↑i : Int) < (↑n : Int)) (.need ((0 : Nat) + (↑i : Int).toNat * (2 : Nat) + (1 : Nat) < (marks k0 (n * (2 : Nat))).length) (brT (!(marks k0 (n * 2)).getD (0 + (↑i : Int).toNat * 2 + 1) 0 == IntKind.i64.wrap (k0 + (↑(i * 2) : Int) + 1)) (.leaf .ret ⟨(topV :: topV :: topV :: topV :: .int .i64 (-1) :: topV :: topV :: topV :: topV :: topV :: topV :: topV :: topV :: topV :: topV :: topV :: topV :: topV :: topV :: topV :: topV :: topV :: topV :: topV :: topV :: topV :: topV :: topV :: topV :: topV :: topV :: []), [some ⟨.view, .ints (marks k0 (n * 2))⟩, none]⟩) (.leaf .normal ⟨(.slice (some ⟨0, 0, none⟩) (n) (n) :: .int .i64 (IntKind.i64.wrap (IntKind.i64.wrap (k0 + (↑(i * 2) : Int) + 1) + 1)) :: topV :: topV :: topV :: .int .i64 (IntKind.i64.wrap ((↑i : Int) + 1)) :: topV :: topV :: topV :: topV :: topV :: topV :: topV :: topV :: topV :: topV :: topV :: topV :: topV :: topV :: topV :: topV :: topV :: topV :: topV :: topV :: topV :: topV :: topV :: topV :: topV :: []), [some ⟨.view, .ints (marks k0 (n * 2))⟩, none]⟩))))))) (.leaf (.exit 0) ⟨(topV :: .int .i64 (k0 + (↑(i * 2) : Int)) :: topV :: topV :: topV :: topV :: topV :: topV :: topV :: topV :: topV :: topV :: topV :: topV :: topV :: topV :: topV :: topV :: topV :: topV :: topV :: topV :: topV :: topV :: topV :: topV :: topV :: topV :: topV :: topV :: topV :: []), [some ⟨.view, .ints (marks k0 (n * 2))⟩, none]⟩) := by kernel_rfl
set_option maxRecDepth 100000 in
theorem nl_heldPr : loopsOf c_heldPr = [] := by kernel_rfl
def inv_heldPr (n : Nat) (k0 : Int) : Nat → Prop := fun i => i ≤ n
def me_heldPr (n : Nat) (k0 : Int) : Nat → Nat := fun i => n - i
/-- A round of this loop. -/
def Round_heldPr (n : Nat) (k0 : Int) : Prop := ∀ xx : Nat, inv_heldPr n k0 xx → (bodyL Try.prog EM 30 12 noL 1 c_heldPr k_heldPr 2 (s_heldPr n k0 xx)).ok (RoundEnd 2 (s_heldPr n k0) (inv_heldPr n k0) (me_heldPr n k0) re_heldPr (rs_heldPr n k0) xx) (fun _ _ => False)
def e_heldPr (s : St) (k : Ex → St → Tree) : Option Tree := match Nat.beq s.tmps.length 31, pickL s.tmps [0, 1, 5], s.mem with
  | true, [.slice (some ⟨0, 0, none⟩) n _, .int .i64 k1, .int .i64 i], [some ⟨.view, .ints xs⟩, none] => some (needs [i = 0, xs = marks k1 (n * 2), n ≤ 1000000000, 0 ≤ k1 ∧ k1 ≤ 1000000000] (k (.exit 0) ⟨(topV :: .int .i64 (k1 + (n * 2 : Nat)) :: topV :: topV :: topV :: topV :: topV :: topV :: topV :: topV :: topV :: topV :: topV :: topV :: topV :: topV :: topV :: topV :: topV :: topV :: topV :: topV :: topV :: topV :: topV :: topV :: topV :: topV :: topV :: topV :: topV :: []), [some ⟨.view, .ints (marks k1 (n * 2))⟩, none]⟩))
  | _, _, _ => none
set_option maxRecDepth 100000 in
theorem round_heldPr (n : Nat) (k0 : Int) (h : n ≤ 1000000000) (hk : 0 ≤ k0 ∧ k0 ≤ 1000000000) : Round_heldPr n k0 := by
  intro i h1
  have h1 : i ≤ n := h1
  rw [tr_heldPr]
  simp only [brT_ok, Tree.ok, decide_eq_true_eq, decide_eq_false_iff_not, Int.toNat_natCast, Nat.zero_add, Nat.add_zero, Bool.not_eq_true', Bool.not_eq_false', beq_iff_eq, beq_eq_false_iff_ne]
  refine ⟨fun hlt => ?_, fun hge => ?_⟩
  · rw [marks_get _ _ _ (by omega), marks_get _ _ _ (by omega), wsucc (n := n) (by omega) h]
    have e0 : IntKind.i64.wrap (k0 + ((i * 2 : Nat) : Int) + 1) = k0 + ((i * 2 + 1 : Nat) : Int) := by rw [wr (by omega)]; omega
    have e : IntKind.i64.wrap (k0 + ((i * 2 + 1 : Nat) : Int) + 1) = k0 + (((i + 1) * 2 : Nat) : Int) := by rw [wr (by omega)]; omega
    simp only [marks_length, e0, e]
    refine ⟨by omega, by omega, fun hc => absurd rfl hc, fun _ => ⟨by omega, by omega, fun hc => absurd rfl hc, fun _ => ⟨i + 1, [], ?_, ?_, rfl, rfl, ?_⟩⟩⟩
    · show i + 1 ≤ n; omega
    · show n - (i + 1) < n - i; omega
    · repeat' (first | exact True.intro | exact rfl | exact fun _ => rfl | refine And.intro ?_ ?_)
  · obtain rfl : i = n := by omega
    refine ⟨rfl, [], ?_⟩
    repeat' (first | exact True.intro | exact rfl | exact fun _ => rfl | refine And.intro ?_ ?_)
set_option maxRecDepth 100000 in
theorem lg_heldPr : LoopE Try.prog e_heldPr c_heldPr := by
  intro s k t F H hlt ht
  unfold e_heldPr at hlt
  split at hlt
  rotate_left
  · cases hlt
  rename_i hlen hpick hmem
  obtain ⟨tmps, mem⟩ := s
  simp only at hlen hpick hmem
  subst hmem
  obtain rfl := Option.some.inj hlt
  obtain ⟨⟨rfl, rfl, h2, h3, _⟩, ht2⟩ := needs_ok ht
  clear ht hlt
  refine ⟨_, _, ht2, loop_run mixed EM_ok (s_heldPr _ _) (inv_heldPr _ _) (me_heldPr _ _) re_heldPr (rs_heldPr _ _) k_heldPr (fun _ => rfl) (noLoops nl_heldPr) (round_heldPr _ _ h2 h3) (x := 0) (Nat.zero_le _) (π := []) rfl ?_⟩
  refine ⟨rfl, rfl, ?_, wvs_spread' [0, 1, 5] hlen rfl ?_⟩
  · repeat' (first | exact True.intro | exact rfl | exact wv_top _ _ | exact fun _ => rfl | assumption | exact Eq.symm (by assumption) | exact vI0 rfl | refine And.intro ?_ ?_)
  · rw [hpick]
    repeat' (first | exact True.intro | exact rfl | exact wv_top _ _ | exact fun _ => rfl | assumption | exact Eq.symm (by assumption) | exact vI0 rfl | refine And.intro ?_ ?_)
noncomputable def c_eqPr : Code := ((loopsOf (codeOf Try.f19))[0]?).getD .skip
def k_eqPr : Ex → List Nat := keeps [0, 1, 5] [(0, [])] [4]
def s_eqPr (ps : List Pt) : Nat → St := fun i => ⟨[.slice (some ⟨0, 0, none⟩) ps.length ps.length, .slice (some ⟨1, 0, none⟩) ps.length ps.length, topV, topV, topV, .int .i64 i, topV, topV, topV, topV, topV, topV, topV, topV, topV, topV, topV, topV, topV, topV, topV, topV, topV, topV, topV, topV, topV], [some ⟨.view, .ints (flat ps)⟩, some ⟨.view, .ints (flat ps)⟩]⟩
def re_eqPr : Nat → Ex := fun _ => .exit 0
def rs_eqPr (ps : List Pt) : Nat → St := fun i => ⟨[topV, topV, topV, topV, topV, topV, topV, topV, topV, topV, topV, topV, topV, topV, topV, topV, topV, topV, topV, topV, topV, topV, topV, topV, topV, topV, topV], [some ⟨.view, .ints (flat ps)⟩, some ⟨.view, .ints (flat ps)⟩]⟩
set_option maxRecDepth 100000 in
theorem tr_eqPr (ps : List Pt) (i : Nat) : bodyL Try.prog EM 30 12 noL 1 c_eqPr k_eqPr 2 (s_eqPr ps i) = brT (decide ((↑i : Int) < (↑ps.length : Int))) (brT (!(flat ps).getD (0 + (↑i : Int).toNat * 2) 0 == (flat ps).getD (0 + (↑i : Int).toNat * 2) 0) (.need ((0 : Int) ≤ (↑i : Int) ∧ (↑i : Int) < (↑ps.length : Int)) (.need ((0 : Nat) + (↑i : Int).toNat * (2 : Nat) + (2 : Nat) ≤ (flat ps).length) (.need ((0 : Int) ≤ (↑i : Int) ∧ (↑i : Int) < (↑ps.length : Int)) (.need ((0 : Nat) + (↑i : Int).toNat * (2 : Nat) + (2 : Nat) ≤ (flat ps).length) (.leaf .ret ⟨[topV, topV, topV, topV, .bool (false), topV, topV, topV, topV, topV, topV, topV, topV, topV, topV, topV, topV, topV, topV, topV, topV, topV, topV, topV, topV, topV, topV], [some ⟨.view, .ints (flat ps)⟩, some ⟨.view, .ints (flat ps)⟩]⟩))))) (brT (!(flat ps).getD (0 + (↑i : Int).toNat * 2 + 1) 0 == (flat ps).getD (0 + (↑i : Int).toNat * 2 + 1) 0) (.need ((0 : Int) ≤ (↑i : Int) ∧ (↑i : Int) < (↑ps.length : Int)) (.need ((0 : Nat) + (↑i : Int).toNat * (2 : Nat) + (2 : Nat) ≤ (flat ps).length) (.need ((0 : Int) ≤ (↑i : Int) ∧ (↑i : Int) < (↑ps.length : Int)) (.need ((0 : Nat) + (↑i : Int).toNat * (2 : Nat) + (2 : Nat) ≤ (flat ps).length) (.leaf .ret ⟨[topV, topV, topV, topV, .bool (false), topV, topV, topV, topV, topV, topV, topV, topV, topV, topV, topV, topV, topV, topV, topV, topV, topV, topV, topV, topV, topV, topV], [some ⟨.view, .ints (flat ps)⟩, some ⟨.view, .ints (flat ps)⟩]⟩))))) (.need ((0 : Int) ≤ (↑i : Int) ∧ (↑i : Int) < (↑ps.length : Int)) (.need ((0 : Nat) + (↑i : Int).toNat * (2 : Nat) + (2 : Nat) ≤ (flat ps).length) (.need ((0 : Int) ≤ (↑i : Int) ∧ (↑i : Int) < (↑ps.length : Int)) (.need ((0 : Nat) + (↑i : Int).toNat * (2 : Nat) + (2 : Nat) ≤ (flat ps).length) (.leaf .normal ⟨[.slice (some ⟨0, 0, none⟩) (ps.length) (ps.length), .slice (some ⟨1, 0, none⟩) (ps.length) (ps.length), topV, topV, topV, .int .i64 (IntKind.i64.wrap ((↑i : Int) + 1)), topV, topV, topV, topV, topV, topV, topV, topV, topV, topV, topV, topV, topV, topV, topV, topV, topV, topV, topV, topV, topV], [some ⟨.view, .ints (flat ps)⟩, some ⟨.view, .ints (flat ps)⟩]⟩))))))) (.leaf (.exit 0) ⟨[topV, topV, topV, topV, topV, topV, topV, topV, topV, topV, topV, topV, topV, topV, topV, topV, topV, topV, topV, topV, topV, topV, topV, topV, topV, topV, topV], [some ⟨.view, .ints (flat ps)⟩, some ⟨.view, .ints (flat ps)⟩]⟩) := by kernel_rfl
set_option maxRecDepth 100000 in
theorem nl_eqPr : loopsOf c_eqPr = [] := by kernel_rfl
def inv_eqPr (ps : List Pt) : Nat → Prop := fun i => i ≤ ps.length
def me_eqPr (ps : List Pt) : Nat → Nat := fun i => ps.length - i
/-- A round of this loop. -/
def Round_eqPr (ps : List Pt) : Prop := ∀ xx : Nat, inv_eqPr ps xx → (bodyL Try.prog EM 30 12 noL 1 c_eqPr k_eqPr 2 (s_eqPr ps xx)).ok (RoundEnd 2 (s_eqPr ps) (inv_eqPr ps) (me_eqPr ps) re_eqPr (rs_eqPr ps) xx) (fun _ _ => False)
def e_eqPr (s : St) (k : Ex → St → Tree) : Option Tree := match Nat.beq s.tmps.length 27, pickL s.tmps [0, 1, 5], s.mem with
  | true, [.slice (some ⟨0, 0, none⟩) n _, .slice (some ⟨1, 0, none⟩) m _, .int .i64 i], [some ⟨.view, .ints xs⟩, some ⟨.view, .ints ys⟩] => some (needs [i = 0, m = n, ys = xs, xs.length = n * 2, n ≤ 1000000000] (k (.exit 0) ⟨[topV, topV, topV, topV, topV, topV, topV, topV, topV, topV, topV, topV, topV, topV, topV, topV, topV, topV, topV, topV, topV, topV, topV, topV, topV, topV, topV], [some ⟨.view, .ints xs⟩, some ⟨.view, .ints xs⟩]⟩))
  | _, _, _ => none
set_option maxRecDepth 100000 in
theorem round_eqPr (ps : List Pt) (h : ps.length ≤ 1000000000) : Round_eqPr ps := by
  intro i h1
  have h1 : i ≤ ps.length := h1
  rw [tr_eqPr]
  simp only [beq_self_eq_true, Bool.not_true, brT_f, brT_ok, Tree.ok, decide_eq_true_eq, decide_eq_false_iff_not, Int.toNat_natCast, Nat.zero_add, flat_length]
  refine ⟨fun hlt => ?_, fun hge => ?_⟩
  · rw [wsucc (n := ps.length) (by omega) h]
    refine ⟨by omega, by omega, by omega, by omega, i + 1, [], ?_, ?_, rfl, rfl, ?_⟩
    · show i + 1 ≤ ps.length; omega
    · show ps.length - (i + 1) < ps.length - i; omega
    · repeat' (first | exact True.intro | exact rfl | exact fun _ => rfl | refine And.intro ?_ ?_)
  · refine ⟨rfl, [], ?_⟩
    repeat' (first | exact True.intro | exact rfl | exact fun _ => rfl | refine And.intro ?_ ?_)
set_option maxRecDepth 100000 in
theorem lg_eqPr : LoopE Try.prog e_eqPr c_eqPr := by
  intro s k t F H hlt ht
  unfold e_eqPr at hlt
  split at hlt
  rotate_left
  · cases hlt
  rename_i hlen hpick hmem
  obtain ⟨tmps, mem⟩ := s
  simp only at hlen hpick hmem
  subst hmem
  obtain rfl := Option.some.inj hlt
  obtain ⟨⟨rfl, rfl, rfl, h1, h2, _⟩, ht2⟩ := needs_ok ht
  clear ht hlt
  obtain ⟨ps, rfl, rfl⟩ := even_flat h1
  refine ⟨_, _, ht2, loop_run mixed EM_ok (s_eqPr _) (inv_eqPr _) (me_eqPr _) re_eqPr (rs_eqPr _) k_eqPr (fun _ => rfl) (noLoops nl_eqPr) (round_eqPr _ h2) (x := 0) (Nat.zero_le _) (π := []) rfl ?_⟩
  refine ⟨rfl, rfl, ?_, wvs_spread' [0, 1, 5] hlen rfl ?_⟩
  · repeat' (first | exact True.intro | exact rfl | exact wv_top _ _ | exact fun _ => rfl | assumption | exact Eq.symm (by assumption) | exact vI0 rfl | refine And.intro ?_ ?_)
  · rw [hpick]
    repeat' (first | exact True.intro | exact rfl | exact wv_top _ _ | exact fun _ => rfl | assumption | exact Eq.symm (by assumption) | exact vI0 rfl | refine And.intro ?_ ?_)
noncomputable def c_markSg : Code := ((loopsOf (codeOf Try.f21))[0]?).getD .skip
def k_markSg : Ex → List Nat := keeps [0, 1, 5] [(0, [1])] [4]
def s_markSg (n : Nat) (k0 : Int) : Nat × (List Int) → St := fun (i, ys) => ⟨(.slice (some ⟨0, 0, none⟩) n n :: .int .i64 (k0 + (i * 4 : Nat)) :: topV :: topV :: topV :: .int .i64 i :: topV :: topV :: topV :: topV :: topV :: topV :: topV :: topV :: topV :: topV :: topV :: topV :: topV :: topV :: topV :: topV :: topV :: topV :: topV :: topV :: topV :: topV :: topV :: topV :: topV :: topV :: topV :: topV :: topV :: topV :: topV :: topV :: topV :: topV :: topV :: topV :: topV :: topV :: topV :: []), [some ⟨.row 39 4, .ints ys⟩]⟩
def re_markSg : Nat × (List Int) → Ex := fun _ => .exit 0
def rs_markSg (n : Nat) (k0 : Int) : Nat × (List Int) → St := fun (i, ys) => ⟨(topV :: .int .i64 (k0 + (n * 4 : Nat)) :: topV :: topV :: topV :: topV :: topV :: topV :: topV :: topV :: topV :: topV :: topV :: topV :: topV :: topV :: topV :: topV :: topV :: topV :: topV :: topV :: topV :: topV :: topV :: topV :: topV :: topV :: topV :: topV :: topV :: topV :: topV :: topV :: topV :: topV :: topV :: topV :: topV :: topV :: topV :: topV :: topV :: topV :: topV :: []), [some ⟨.row 39 4, .ints (marks k0 (n * 4))⟩]⟩
set_option maxRecDepth 100000 in
theorem tr_markSg (n : Nat) (k0 : Int) (i : Nat) (ys : List Int) : bodyL Try.prog EM 30 12 noL 1 c_markSg k_markSg 1 (s_markSg n k0 (i, ys)) = brT (decide ((↑i : Int) < (↑n : Int))) (.need ((0 : Int) ≤ (↑i : Int) ∧ (↑i : Int) < (↑n : Int)) (.need ((0 : Nat) + (↑i : Int).toNat * (4 : Nat) + (0 : Nat) + (0 : Nat) + (1 : Nat) ≤ ys.length) (.need ((0 : Int) ≤ (↑i : Int) ∧ (↑i : Int) < (↑n : Int)) (.need ((0 : Nat) + (↑i : Int).toNat * (4 : Nat) + (0 : Nat) + (1 : Nat) + (1 : Nat) ≤ (setInts ys ((0 : Nat) + (↑i : Int).toNat * (4 : Nat) + (0 : Nat) + (0 : Nat)) [k0 + (↑(i * (4 : Nat)) : Int)]).length) (.need ((0 : Int) ≤ (↑i : Int) ∧ (↑i : Int) < (↑n : Int)) (.need ((0 : Nat) + (↑i : Int).toNat * (4 : Nat) + (2 : Nat) + (0 : Nat) + (1 : Nat) ≤ (setInts (setInts ys ((0 : Nat) + (↑i : Int).toNat * (4 : Nat) + (0 : Nat) + (0 : Nat)) [k0 + (↑(i * (4 : Nat)) : Int)]) ((0 : Nat) + (↑i : Int).toNat * (4 : Nat) + (0 : Nat) + (1 : Nat)) [IntKind.i64.wrap (k0 + (↑(i * (4 : Nat)) : Int) + (1 : Int))]).length) (.need ((0 : Int) ≤ (↑i : Int) ∧ (↑i : Int) < (↑n : Int)) (.need ((0 : Nat) + (↑i : Int).toNat * (4 : Nat) + (2 : Nat) + (1 : Nat) + (1 : Nat) ≤ (setInts (setInts (setInts ys ((0 : Nat) + (↑i : Int).toNat * (4 : Nat) + (0 : Nat) + (0 : Nat)) [k0 + (↑(i * (4 : Nat)) : Int)]) ((0 : Nat) + (↑i : Int).toNat * (4 : Nat) + (0 : Nat) + (1 : Nat)) [IntKind.i64.wrap (k0 + (↑(i * (4 : Nat)) : Int) + (1 : Int))]) ((0 : Nat) + (↑i : Int).toNat * (4 : Nat) + (2 : Nat) + (0 : Nat)) [IntKind.i64.wrap (IntKind.i64.wrap (k0 + (↑(i * (4 : Nat)) : Int) + (1 : Int)) + (1 : Int))]).length) (.leaf .normal ⟨(.slice (some ⟨0, 0, none⟩) (n) (n) :: .int .i64 (IntKind.i64.wrap (IntKind.i64.wrap (IntKind.i64.wrap (IntKind.i64.wrap (k0 + (↑(i * 4) : Int) + 1) + 1) + 1) + 1)) :: topV :: topV :: topV :: .int .i64 (IntKind.i64.wrap ((↑i : Int) + 1)) :: topV :: topV :: topV :: topV :: topV :: topV :: topV :: topV :: topV :: topV :: topV :: topV :: topV :: topV :: topV :: topV :: topV :: topV :: topV :: topV :: topV :: topV :: topV :: topV :: topV :: topV :: topV :: topV :: topV :: topV :: topV :: topV :: topV :: topV :: topV :: topV :: topV :: topV :: topV :: []), [some ⟨.row 39 4, .ints (setInts (setInts (setInts (setInts ys (0 + (↑i : Int).toNat * 4 + 0 + 0) [k0 + (↑(i * 4) : Int)]) (0 + (↑i : Int).toNat * 4 + 0 + 1) [IntKind.i64.wrap (k0 + (↑(i * 4) : Int) + 1)]) (0 + (↑i : Int).toNat * 4 + 2 + 0) [IntKind.i64.wrap (IntKind.i64.wrap (k0 + (↑(i * 4) : Int) + 1) + 1)]) (0 + (↑i : Int).toNat * 4 + 2 + 1) [IntKind.i64.wrap (IntKind.i64.wrap (IntKind.i64.wrap (k0 + (↑(i * 4) : Int) + 1) + 1) + 1)])⟩]⟩))))))))) (.leaf (.exit 0) ⟨(topV :: .int .i64 (k0 + (↑(i * 4) : Int)) :: topV :: topV :: topV :: topV :: topV :: topV :: topV :: topV :: topV :: topV :: topV :: topV :: topV :: topV :: topV :: topV :: topV :: topV :: topV :: topV :: topV :: topV :: topV :: topV :: topV :: topV :: topV :: topV :: topV :: topV :: topV :: topV :: topV :: topV :: topV :: topV :: topV :: topV :: topV :: topV :: topV :: topV :: topV :: []), [some ⟨.row 39 4, .ints (ys)⟩]⟩) := by kernel_rfl
set_option maxRecDepth 100000 in
theorem nl_markSg : loopsOf c_markSg = [] := by kernel_rfl
def inv_markSg (n : Nat) (k0 : Int) : Nat × (List Int) → Prop := fun (i, ys) => i ≤ n ∧ ys.length = n * 4 ∧ ys.take (i * 4) = (marks k0 (n * 4)).take (i * 4)
def me_markSg (n : Nat) (k0 : Int) : Nat × (List Int) → Nat := fun (i, ys) => n - i
/-- A round of this loop. -/
def Round_markSg (n : Nat) (k0 : Int) : Prop := ∀ xx : Nat × (List Int), inv_markSg n k0 xx → (bodyL Try.prog EM 30 12 noL 1 c_markSg k_markSg 1 (s_markSg n k0 xx)).ok (RoundEnd 1 (s_markSg n k0) (inv_markSg n k0) (me_markSg n k0) re_markSg (rs_markSg n k0) xx) (fun _ _ => False)
def e_markSg (s : St) (k : Ex → St → Tree) : Option Tree := match Nat.beq s.tmps.length 45, pickL s.tmps [0, 1, 5], s.mem with
  | true, [.slice (some ⟨0, 0, none⟩) n _, .int .i64 k1, .int .i64 i], [some ⟨.row 39 4, .ints xs⟩] => some (needs [i = 0, xs.length = n * 4, n ≤ 1000000000, 0 ≤ k1 ∧ k1 ≤ 1000000000] (k (.exit 0) ⟨(topV :: .int .i64 (k1 + (n * 4 : Nat)) :: topV :: topV :: topV :: topV :: topV :: topV :: topV :: topV :: topV :: topV :: topV :: topV :: topV :: topV :: topV :: topV :: topV :: topV :: topV :: topV :: topV :: topV :: topV :: topV :: topV :: topV :: topV :: topV :: topV :: topV :: topV :: topV :: topV :: topV :: topV :: topV :: topV :: topV :: topV :: topV :: topV :: topV :: topV :: []), [some ⟨.row 39 4, .ints (marks k1 (n * 4))⟩]⟩))
  | _, _, _ => none
theorem take_set_four {l m : List Int} {i : Nat} (hl : i * 4 + 3 < l.length) (hm : i * 4 + 3 < m.length) (h : l.take (i * 4) = m.take (i * 4)) : ((((l.set (i * 4) (m.getD (i * 4) 0)).set (i * 4 + 1) (m.getD (i * 4 + 1) 0)).set (i * 4 + 2) (m.getD (i * 4 + 2) 0)).set (i * 4 + 3) (m.getD (i * 4 + 3) 0)).take ((i + 1) * 4) = m.take ((i + 1) * 4) := by
  have h1 := take_set_succ (l := l) (m := m) (i := i * 4) (by omega) (by omega) h 0
  have h2 := take_set_succ (l := l.set (i * 4) (m.getD (i * 4) 0)) (m := m) (i := i * 4 + 1) (by simp; omega) (by omega) h1 0
  have h3 := take_set_succ (l := (l.set (i * 4) (m.getD (i * 4) 0)).set (i * 4 + 1) (m.getD (i * 4 + 1) 0)) (m := m) (i := i * 4 + 2) (by simp; omega) (by omega) h2 0
  have h4 := take_set_succ (l := ((l.set (i * 4) (m.getD (i * 4) 0)).set (i * 4 + 1) (m.getD (i * 4 + 1) 0)).set (i * 4 + 2) (m.getD (i * 4 + 2) 0)) (m := m) (i := i * 4 + 3) (by simp; omega) (by omega) h3 0
  rw [show (i + 1) * 4 = i * 4 + 3 + 1 by omega]
  exact h4
set_option maxRecDepth 100000 in
theorem round_markSg (n : Nat) (k0 : Int) (h : n ≤ 1000000000) (hk : 0 ≤ k0 ∧ k0 ≤ 1000000000) : Round_markSg n k0 := by
  rintro ⟨i, ys⟩ ⟨h1, h2, h3⟩
  rw [tr_markSg]
  simp only [brT_ok, Tree.ok, decide_eq_true_eq, decide_eq_false_iff_not, Int.toNat_natCast, Nat.zero_add, Nat.add_zero]
  refine ⟨fun hlt => ?_, fun hge => ?_⟩
  · rw [wsucc (n := n) (by omega) h, setInts_one _ _ (by omega), setInts_one _ _ (by simp; omega), setInts_one _ _ (by simp; omega), setInts_one _ _ (by simp; omega)]
    have e0 : IntKind.i64.wrap (k0 + ((i * 4 : Nat) : Int) + 1) = k0 + ((i * 4 + 1 : Nat) : Int) := by rw [wr (by omega)]; omega
    have e1 : IntKind.i64.wrap (k0 + ((i * 4 + 1 : Nat) : Int) + 1) = k0 + ((i * 4 + 2 : Nat) : Int) := by rw [wr (by omega)]; omega
    have e2 : IntKind.i64.wrap (k0 + ((i * 4 + 2 : Nat) : Int) + 1) = k0 + ((i * 4 + 3 : Nat) : Int) := by rw [wr (by omega)]; omega
    have e : IntKind.i64.wrap (k0 + ((i * 4 + 3 : Nat) : Int) + 1) = k0 + (((i + 1) * 4 : Nat) : Int) := by rw [wr (by omega)]; omega
    rw [e0, e1, e2, e]
    simp only [List.length_set]
    repeat (refine And.intro (by omega) ?_)
    refine ⟨(i + 1, (((ys.set (i * 4) (k0 + ((i * 4 : Nat) : Int))).set (i * 4 + 1) (k0 + ((i * 4 + 1 : Nat) : Int))).set (i * 4 + 2) (k0 + ((i * 4 + 2 : Nat) : Int))).set (i * 4 + 3) (k0 + ((i * 4 + 3 : Nat) : Int))), [], ⟨by omega, by simp [h2], ?_⟩, ?_, rfl, rfl, ?_⟩
    · have := take_set_four (l := ys) (m := marks k0 (n * 4)) (i := i) (by omega) (by rw [marks_length]; omega) h3
      rwa [marks_get _ _ _ (by omega), marks_get _ _ _ (by omega), marks_get _ _ _ (by omega), marks_get _ _ _ (by omega)] at this
    · show n - (i + 1) < n - i; omega
    · repeat' (first | exact True.intro | exact rfl | exact fun _ => rfl | refine And.intro ?_ ?_)
  · obtain rfl : i = n := by omega
    have e : ys = marks k0 (i * 4) := by
      rw [List.take_of_length_le (by omega), List.take_of_length_le (by rw [marks_length]; omega)] at h3
      exact h3
    subst e
    refine ⟨rfl, [], ?_⟩
    repeat' (first | exact True.intro | exact rfl | exact fun _ => rfl | refine And.intro ?_ ?_)
set_option maxRecDepth 100000 in
theorem lg_markSg : LoopE Try.prog e_markSg c_markSg := by
  intro s k t F H hlt ht
  unfold e_markSg at hlt
  split at hlt
  rotate_left
  · cases hlt
  rename_i hlen hpick hmem
  obtain ⟨tmps, mem⟩ := s
  simp only at hlen hpick hmem
  subst hmem
  obtain rfl := Option.some.inj hlt
  obtain ⟨⟨rfl, h1, h2, h3, _⟩, ht2⟩ := needs_ok ht
  clear ht hlt
  refine ⟨_, _, ht2, loop_run mixed EM_ok (s_markSg _ _) (inv_markSg _ _) (me_markSg _ _) re_markSg (rs_markSg _ _) k_markSg (fun _ => rfl) (noLoops nl_markSg) (round_markSg _ _ h2 h3) (x := (0, _)) ⟨Nat.zero_le _, h1, rfl⟩ (π := []) rfl ?_⟩
  refine ⟨rfl, rfl, ?_, wvs_spread' [0, 1, 5] hlen rfl ?_⟩
  · repeat' (first | exact True.intro | exact rfl | exact wv_top _ _ | exact fun _ => rfl | assumption | exact Eq.symm (by assumption) | exact vI0 rfl | refine And.intro ?_ ?_)
  · rw [hpick]
    repeat' (first | exact True.intro | exact rfl | exact wv_top _ _ | exact fun _ => rfl | assumption | exact Eq.symm (by assumption) | exact vI0 rfl | refine And.intro ?_ ?_)
end Go.Proofs.Ytolodncpegajkaa
namespace Go.Proofs.Ytolodncpegajkaa
set_option linter.all false
open Go.RowKit
theorem offR_le (n : Nat) : ∀ k a, offR n a k ≤ k * n
  | 0, a => by simp [offR]
  | k + 1, a => by
    have ih := offR_le n k (a + 1)
    show (n - 1 - a) + offR n (a + 1) k ≤ _
    rw [Nat.add_mul]
    omega
end Go.Proofs.Ytolodncpegajkaa
namespace Go.Proofs.Ytolodncpegajkaa
set_option linter.all false
open Go.RowKit
theorem Lr_toSl {fn : Func} (hf : Try.prog.funcs[17]? = some fn) : LoopsGood Try.prog (lt1 e_toSl) 0 (codeOf fn) := by
  obtain rfl := fn_is Try.func17 hf
  exact lt1_good lg_toSl
theorem Lr_eqSl {fn : Func} (hf : Try.prog.funcs[20]? = some fn) : LoopsGood Try.prog (lt1 e_eqSl) 0 (codeOf fn) := by
  obtain rfl := fn_is Try.func20 hf
  exact lt1_good lg_eqSl
theorem Lr_svSl {fn : Func} (hf : Try.prog.funcs[62]? = some fn) : LoopsGood Try.prog (lt1 e_svSl) 0 (codeOf fn) := by
  obtain rfl := fn_is Try.func62 hf
  exact lt1_good lg_svSl
theorem Lr_ivSl {fn : Func} (hf : Try.prog.funcs[65]? = some fn) : LoopsGood Try.prog (lt1 e_ivSl) 0 (codeOf fn) := by
  obtain rfl := fn_is Try.func65 hf
  exact lt1_good lg_ivSl
theorem Lr_markPr {fn : Func} (hf : Try.prog.funcs[22]? = some fn) : LoopsGood Try.prog (lt1 e_markPr) 0 (codeOf fn) := by
  obtain rfl := fn_is Try.func22 hf
  exact lt1_good lg_markPr
theorem Lr_heldPr {fn : Func} (hf : Try.prog.funcs[23]? = some fn) : LoopsGood Try.prog (lt1 e_heldPr) 0 (codeOf fn) := by
  obtain rfl := fn_is Try.func23 hf
  exact lt1_good lg_heldPr
theorem Lr_eqPr {fn : Func} (hf : Try.prog.funcs[19]? = some fn) : LoopsGood Try.prog (lt1 e_eqPr) 0 (codeOf fn) := by
  obtain rfl := fn_is Try.func19 hf
  exact lt1_good lg_eqPr
theorem Lr_markSg {fn : Func} (hf : Try.prog.funcs[21]? = some fn) : LoopsGood Try.prog (lt1 e_markSg) 0 (codeOf fn) := by
  obtain rfl := fn_is Try.func21 hf
  exact lt1_good lg_markSg
def LSl1 : FuncId → LT := fun f => match f with
  | 17 => lt1 e_toSl
  | 20 => lt1 e_eqSl
  | 62 => lt1 e_svSl
  | 65 => lt1 e_ivSl
  | 22 => lt1 e_markPr
  | 23 => lt1 e_heldPr
  | 19 => lt1 e_eqPr
  | 21 => lt1 e_markSg
  | _ => noL
def ESl1 : Env := mkE TSl (fun _ _ => none) LSl1
theorem ESl1_ok : EnvOk Try.prog ESl1 := mkEOk TSl_ok (fun _ _ _ _ _ h => (by cases h)) (by
  intro f fn hf
  unfold LSl1
  split
  all_goals first | with_reducible exact Lr_toSl hf | with_reducible exact Lr_eqSl hf | with_reducible exact Lr_svSl hf | with_reducible exact Lr_ivSl hf | with_reducible exact Lr_markPr hf | with_reducible exact Lr_heldPr hf | with_reducible exact Lr_eqPr hf | with_reducible exact Lr_markSg hf | exact noL_good)
set_option maxRecDepth 100000 in
theorem tr_toSlF (n : Nat) (xs : List Int) : bodyX Try.prog ESl1 30 12 17 [.row n (.ints xs)] = .need ((0 : Int) ≤ (↑n : Int) ∧ (↑n : Int) ≤ (↑n : Int) ∧ (32 : Nat) * (↑n : Int).toNat ≤ (281474976710656 : Nat) ∧ (↑n : Int) ≤ (9223372036854775807 : Int)) (.need ((0 : Int) = (0 : Int)) (.need ((↑n : Int).toNat = n) (.need (xs.length = n * (4 : Nat)) (.need ((List.replicate ((↑n : Int).toNat * (4 : Nat)) (0 : Int)).length = n * (4 : Nat)) (.need (n ≤ (1000000000 : Nat)) (.fin (.slice (some ⟨1, 0, none⟩) (n) (n)) [some ⟨.view, .ints (xs)⟩, some ⟨.row 39 4, .ints (xs)⟩])))))) := by kernel_rfl
set_option maxRecDepth 100000 in
theorem tr_eqSlF (n : Nat) (xs : List Int) : bodyV Try.prog ESl1 30 12 20 [.row n (.ints xs), .row n (.ints xs)] = brT (!(↑n : Int) == (↑n : Int)) (.fin (.bool (false)) []) (.need ((0 : Int) = (0 : Int)) (.need (n = n) (.need (xs = xs) (.need (xs.length = n * (4 : Nat)) (.need (n ≤ (1000000000 : Nat)) (.fin (.bool (true)) [])))))) := by kernel_rfl
set_option maxRecDepth 100000 in
theorem tr_svSlF (n : Nat) (xs : List Int) : bodyV Try.prog ESl1 30 12 62 [.row n (.ints xs)] = .need ((0 : Int) = (0 : Int)) (.need (xs.length = n * (4 : Nat)) (.need (n ≤ (1000000000 : Nat)) (brT (allQ (slQ xs) 0 n) (.fin (.bool (decide ((↑n : Int) ≤ 12))) []) (.fin (.bool (false)) [])))) := by kernel_rfl
set_option maxRecDepth 100000 in
theorem tr_ivSlF (n : Nat) (xs : List Int) : bodyV Try.prog ESl1 30 12 65 [.row n (.ints xs)] = .need ((0 : Int) = (0 : Int)) (.need (n = n) (.need ((↑n : Int) = (↑n : Int)) (.need (xs.length = n * (4 : Nat)) (.need (n ≤ (1000000000 : Nat)) (brT (allQ (slQ xs) 0 n) (.fin (.bool (decide ((↑n : Int) ≤ 12))) []) (.fin (.bool (false)) [])))))) := by kernel_rfl
/-- Are so many segments valid? -/
def vsB (n : Nat) (xs : List Int) : Bool := allQ (slQ xs) 0 n && decide (n ≤ 12)
theorem resR_toSl (n : Nat) (xs : List Int) (hx : xs.length = n * 4) (h : Lim n) : ResR Try.prog 17 [.row n (.ints xs)] (.slice (some ⟨0, 0, none⟩) n n) ⟨.row 39 4, .ints xs⟩ := by
  refine bodyX_resR mixed ESl1_ok (m := 30) (n := 12) rfl ?_
  rw [tr_toSlF]
  unfold Lim at h
  simp only [Tree.ok, Int.toNat_natCast, List.length_replicate]
  exact ⟨by omega, trivial, trivial, hx, trivial, h, some 1, ⟨rfl, rfl, rfl⟩, rfl, rfl, rfl⟩
theorem res_eqSl (n : Nat) (xs : List Int) (hx : xs.length = n * 4) (h : Lim n) : Res Try.prog 20 [.row n (.ints xs), .row n (.ints xs)] (.bool true) := by
  refine bodyV_res mixed ESl1_ok (m := 30) (n := 12) rfl ?_
  rw [tr_eqSlF]
  unfold Lim at h
  simp [brT_ok, Tree.ok, hx, h]
theorem res_svSl (n : Nat) (xs : List Int) (hx : xs.length = n * 4) (h : Lim n) : Res Try.prog 62 [.row n (.ints xs)] (.bool (vsB n xs)) := by
  refine bodyV_res mixed ESl1_ok (m := 30) (n := 12) rfl ?_
  rw [tr_svSlF]
  unfold Lim at h
  unfold vsB
  cases hv : allQ (slQ xs) 0 n <;> simp [brT_ok, Tree.ok, hx, h]
  omega
theorem res_ivSl (n : Nat) (xs : List Int) (hx : xs.length = n * 4) (h : Lim n) : Res Try.prog 65 [.row n (.ints xs)] (.bool (vsB n xs)) := by
  refine bodyV_res mixed ESl1_ok (m := 30) (n := 12) rfl ?_
  rw [tr_ivSlF]
  unfold Lim at h
  unfold vsB
  cases hv : allQ (slQ xs) 0 n <;> simp [brT_ok, Tree.ok, hx, h]
  omega
def pVs : List DArg → Option (Value × List Prop)
  | [.row n (.ints xs)] => some (.bool (vsB n xs), [xs.length = n * 4, Lim n])
  | _ => none
def pEs : List DArg → Option (Value × List Prop)
  | [.row n (.ints xs), .row m (.ints ys)] => some (.bool true, [n = m, xs = ys, xs.length = n * 4, Lim n])
  | _ => none
theorem pVss_ok {ds : List DArg} {v : Value} {C : List Prop} (h : pVs ds = some (v, C)) (hC : AllP C) : Res Try.prog 62 ds v := by
  unfold pVs at h
  split at h
  · obtain ⟨rfl, rfl⟩ : _ ∧ _ := by simpa using h
    exact res_svSl _ _ hC.1 hC.2.1
  · cases h
theorem pVsi_ok {ds : List DArg} {v : Value} {C : List Prop} (h : pVs ds = some (v, C)) (hC : AllP C) : Res Try.prog 65 ds v := by
  unfold pVs at h
  split at h
  · obtain ⟨rfl, rfl⟩ : _ ∧ _ := by simpa using h
    exact res_ivSl _ _ hC.1 hC.2.1
  · cases h
theorem pEs_ok {ds : List DArg} {v : Value} {C : List Prop} (h : pEs ds = some (v, C)) (hC : AllP C) : Res Try.prog 20 ds v := by
  unfold pEs at h
  split at h
  · obtain ⟨rfl, rfl⟩ : _ ∧ _ := by simpa using h
    obtain ⟨rfl, rfl, h1, h2, _⟩ := hC
    exact res_eqSl _ _ h1 h2
  · cases h
def TSl2 : Tab := fun f ds => match f with
  | 62 => pVs ds
  | 65 => pVs ds
  | 20 => pEs ds
  | f => TSl f ds
theorem TSl2_ok : TabOk Try.prog TSl2 := by
  intro f ds v C h hC
  unfold TSl2 at h
  (try split at h)
  all_goals first | with_reducible exact pVss_ok h hC | with_reducible exact pVsi_ok h hC | with_reducible exact pEs_ok h hC | exact TSl_ok _ _ _ _ h hC
def RSl1 : TabR := fun f ds => match f, ds with
  | 17, [.row n (.ints xs)] => some (.slice (some ⟨0, 0, none⟩) n n, ⟨.row 39 4, .ints xs⟩, [xs.length = n * 4, Lim n])
  | _, _ => none
theorem RSl1_ok : TabROk Try.prog RSl1 := by
  intro f ds v b C h hC
  unfold RSl1 at h
  split at h
  · obtain ⟨rfl, rfl, rfl⟩ : _ ∧ _ ∧ _ := by simpa using h
    exact resR_toSl _ _ hC.1 hC.2.1
  · cases h
end Go.Proofs.Ytolodncpegajkaa
namespace Go.Proofs.Ytolodncpegajkaa
set_option linter.all false
open Go.RowKit
theorem vs_seg {n : Nat} {xs : List Int} (h : vsB n xs = true) {j : Nat} (hj : j < n) : slQ xs j = true := by
  unfold vsB at h
  exact allQ_get _ _ (Bool.and_eq_true_iff.1 h).1 j (Nat.zero_le _) (by omega)
theorem slQ_pt {xs : List Int} {j : Nat} (h : slQ xs j = true) : ptB (xs.getD (j * 4) 0) (xs.getD (j * 4 + 1) 0) = true ∧ ptB (xs.getD (j * 4 + 2) 0) (xs.getD (j * 4 + 3) 0) = true := segB_pt h
theorem rl4_A {n : Nat} {xs : List Int} (h : vsB n xs = true) {i k : Nat} (hi : i < n) (hk : k < n) : rl4V xs i k = relA (xs.getD (i * 4) 0) (xs.getD (i * 4 + 1) 0) (xs.getD (i * 4 + 2) 0) (xs.getD (i * 4 + 3) 0) (xs.getD (k * 4) 0) (xs.getD (k * 4 + 1) 0) (xs.getD (k * 4 + 2) 0) (xs.getD (k * 4 + 3) 0) := by
  have h1 := vs_seg h hi
  have h2 := vs_seg h hk
  unfold slQ at h1 h2
  unfold rl4V relV
  rw [h1, h2]
  rfl
end Go.Proofs.Ytolodncpegajkaa
namespace Go.Proofs.Ytolodncpegajkaa
set_option linter.all false
open Go.RowKit
theorem vs_12 {n : Nat} {xs : List Int} (h : vsB n xs = true) : n ≤ 12 := by
  unfold vsB at h
  exact of_decide_eq_true (Bool.and_eq_true_iff.1 h).2
end Go.Proofs.Ytolodncpegajkaa
namespace Go.Proofs.Ytolodncpegajkaa
set_option linter.all false
open Go.RowKit
/-- Do two segments share an end? -/
def shB (a b c d e f g h : Int) : Bool := eqB a b e f || (eqB a b g h || (eqB c d e f || eqB c d g h))
set_option maxRecDepth 100000 in
theorem tr_iSh (a b c d e f g h : Int) : bodyV Try.prog (tabE B0) 30 12 75 [.v (.agg #[iv a, iv b, iv c, iv d]), .v (.agg #[iv e, iv f, iv g, iv h])] = brT (negB false (a == e && (b == f && true))) (.fin (.bool (true)) []) (brT (negB false (a == g && (b == h && true))) (.fin (.bool (true)) []) (brT (negB false (c == e && (d == f && true))) (.fin (.bool (true)) []) (.fin (.bool (negB false (c == g && (d == h && true)))) []))) := by kernel_rfl
set_option maxRecDepth 100000 in
theorem tr_sSh (a b c d e f g h : Int) : bodyV Try.prog (tabE B0) 30 12 74 [.v (.agg #[iv a, iv b, iv c, iv d]), .v (.agg #[iv e, iv f, iv g, iv h])] = brT (negB false (a == e && (b == f && true))) (.fin (.bool (true)) []) (brT (negB false (a == g && (b == h && true))) (.fin (.bool (true)) []) (brT (negB false (c == e && (d == f && true))) (.fin (.bool (true)) []) (.fin (.bool (negB false (c == g && (d == h && true)))) []))) := by kernel_rfl
theorem eqB_t (a b c d : Int) : negB false (a == c && (b == d && true)) = eqB a b c d := by
  rw [Bool.and_true]
  rfl
def pSh : List DArg → Option (Value × List Prop)
  | [.v (.agg ⟨[.int .i64 a, .int .i64 b, .int .i64 c, .int .i64 d]⟩), .v (.agg ⟨[.int .i64 e, .int .i64 f, .int .i64 g, .int .i64 h]⟩)] => some (.bool (shB a b c d e f g h), [])
  | _ => none
theorem sh_tree {a b c d e f g h : Int} {P : Tree} (hP : P = brT (negB false (a == e && (b == f && true))) (.fin (.bool true) []) (brT (negB false (a == g && (b == h && true))) (.fin (.bool true) []) (brT (negB false (c == e && (d == f && true))) (.fin (.bool true) []) (.fin (.bool (negB false (c == g && (d == h && true)))) [])))) : P.ok (fun _ _ => False) (fun v _ => v = .bool (shB a b c d e f g h)) := by
  rw [hP]
  simp only [eqB_t]
  unfold shB
  cases eqB a b e f <;> cases eqB a b g h <;> cases eqB c d e f <;> simp [brT_ok, Tree.ok]
theorem pSh_i {ds : List DArg} {v : Value} {C : List Prop} (h : pSh ds = some (v, C)) : Res Try.prog 75 ds v := by
  unfold pSh at h
  split at h
  · obtain ⟨rfl, rfl⟩ : _ ∧ _ := by simpa using h
    refine bodyV_res mixed (tabE_ok B0_ok) (m := 30) (n := 12) rfl ?_
    rw [tr_iSh]
    exact sh_tree rfl
  · cases h
theorem pSh_s {ds : List DArg} {v : Value} {C : List Prop} (h : pSh ds = some (v, C)) : Res Try.prog 74 ds v := by
  unfold pSh at h
  split at h
  · obtain ⟨rfl, rfl⟩ : _ ∧ _ := by simpa using h
    refine bodyV_res mixed (tabE_ok B0_ok) (m := 30) (n := 12) rfl ?_
    rw [tr_sSh]
    exact sh_tree rfl
  · cases h
def TDw : Tab := fun f ds => match f with
  | 75 => pSh ds
  | 74 => pSh ds
  | f => TSl2 f ds
theorem TDw_ok : TabOk Try.prog TDw := by
  intro f ds v C h hC
  unfold TDw at h
  (try split at h)
  all_goals first | with_reducible exact pSh_i h | with_reducible exact pSh_s h | exact TSl2_ok _ _ _ _ h hC
def EDw0 : Env := mkE TDw (fun _ _ => none) (fun _ => noL)
theorem EDw0_ok : EnvOk Try.prog EDw0 := mkEOk TDw_ok (fun _ _ _ _ _ h => (by cases h)) (fun _ _ _ => noL_good)
def sh4 (xs : List Int) (i k : Nat) : Bool := shB (xs.getD (i * 4) 0) (xs.getD (i * 4 + 1) 0) (xs.getD (i * 4 + 2) 0) (xs.getD (i * 4 + 3) 0) (xs.getD (k * 4) 0) (xs.getD (k * 4 + 1) 0) (xs.getD (k * 4 + 2) 0) (xs.getD (k * 4 + 3) 0)
/-- May the segments of a pair stand in a drawing? -/
def dwQ (xs : List Int) (n t : Nat) : Bool := rl4V xs (prA n t).1 (prA n t).2 == 0 || (rl4V xs (prA n t).1 (prA n t).2 == 1 && sh4 xs (prA n t).1 (prA n t).2)
theorem allQ_mkD {P : Nat → Bool} : ∀ (m i : Nat), (∀ j, i ≤ j → j < i + m → P j = true) → allQ P i m = true
  | 0, _, _ => rfl
  | m + 1, i, h => by
    have ih := allQ_mkD m (i + 1) fun j h1 h2 => h j (by omega) (by omega)
    simp only [allQ]
    rw [h i (Nat.le_refl _) (by omega), ih]
    rfl
theorem prD_lt (n : Nat) : ∀ f a t, t < offR n a f → a + f = n → (prD n f a t).1 < n ∧ (prD n f a t).2 < n
  | 0, a, t, h, _ => by simp [offR] at h
  | f + 1, a, t, h, ha => by
    have h : t < (n - 1 - a) + offR n (a + 1) f := h
    simp only [prD]
    split
    · simp only
      omega
    · exact prD_lt n f (a + 1) (t - (n - 1 - a)) (by omega) (by omega)
theorem prA_lt {n t : Nat} (h : t < offR n 0 n) : (prA n t).1 < n ∧ (prA n t).2 < n := prD_lt n n 0 t h (by omega)
noncomputable def gc_dwg : Code := (rangesOf (codeOf Try.f28)).getD 0 .skip
def k_dwg : Ex → List Nat := keeps [1, 2, 10] [] [2]
def s_dwg (xs : List Int) (n : Nat) : Nat → St := fun i => ⟨(topV :: .pointer (some ⟨1, 0, none⟩) :: .pointer (some ⟨2, 0, none⟩) :: topV :: topV :: topV :: topV :: topV :: topV :: topV :: .func (.func 113) #[] #[.pointer (some ⟨3, 0, none⟩)] :: topV :: topV :: topV :: topV :: topV :: topV :: topV :: topV :: topV :: topV :: topV :: topV :: topV :: topV :: topV :: topV :: topV :: topV :: topV :: topV :: topV :: topV :: topV :: []), [some ⟨.view, .ints xs⟩, some ⟨.box, .vals [.slice (some ⟨0, 0, none⟩) n n]⟩, some ⟨.box, .vals [.bool false]⟩, some ⟨.view, .vals [.slice (some ⟨0, 0, none⟩) n n]⟩]⟩
def g_dwg (xs : List Int) (n : Nat) : Nat → Prop := fun i => i ≤ offR n 0 n ∧ ∀ k, k < i → dwQ xs n k = true
def re_dwg (xs : List Int) (n : Nat) : Ex := bif allQ (dwQ xs n) 0 (offR n 0 n) then .normal else .ret
def rs_dwg (xs : List Int) (n : Nat) : St := bif allQ (dwQ xs n) 0 (offR n 0 n) then ⟨(topV :: topV :: .pointer (some ⟨2, 0, none⟩) :: topV :: topV :: topV :: topV :: topV :: topV :: topV :: topV :: topV :: topV :: topV :: topV :: topV :: topV :: topV :: topV :: topV :: topV :: topV :: topV :: topV :: topV :: topV :: topV :: topV :: topV :: topV :: topV :: topV :: topV :: topV :: []), [some ⟨.view, .ints xs⟩, some ⟨.box, .vals [.slice (some ⟨0, 0, none⟩) n n]⟩, some ⟨.box, .vals [.bool false]⟩, some ⟨.view, .vals [.slice (some ⟨0, 0, none⟩) n n]⟩]⟩ else ⟨(topV :: topV :: .pointer (some ⟨2, 0, none⟩) :: topV :: topV :: topV :: topV :: topV :: topV :: topV :: topV :: topV :: topV :: topV :: topV :: topV :: topV :: topV :: topV :: topV :: topV :: topV :: topV :: topV :: topV :: topV :: topV :: topV :: topV :: topV :: topV :: topV :: topV :: topV :: []), [some ⟨.view, .ints xs⟩, some ⟨.box, .vals [.slice (some ⟨0, 0, none⟩) n n]⟩, some ⟨.box, .vals [.bool false]⟩, some ⟨.view, .vals [.slice (some ⟨0, 0, none⟩) n n]⟩]⟩
set_option maxRecDepth 100000 in
theorem tr_dwg (xs : List Int) (n : Nat) (i : Nat) : bodyR Try.prog EDw0 30 12 noL noR (asgOf gc_dwg) (bodOf gc_dwg) ([11, 12].zip (encR xs n i)) k_dwg 4 (s_dwg xs n i) = brT (rl4V xs (prA n i).fst (prA n i).snd == 1) (.need ((0 : Int) ≤ (↑(prA n i).fst : Int) ∧ (↑(prA n i).fst : Int) < (↑n : Int)) (.need ((0 : Nat) + (↑(prA n i).fst : Int).toNat * (4 : Nat) + (4 : Nat) ≤ xs.length) (.need ((0 : Int) ≤ (↑(prA n i).snd : Int) ∧ (↑(prA n i).snd : Int) < (↑n : Int)) (.need ((0 : Nat) + (↑(prA n i).snd : Int).toNat * (4 : Nat) + (4 : Nat) ≤ xs.length) (brT (!rl4V xs (prA n i).fst (prA n i).snd == 0) (brT (!shB (xs.getD (0 + (↑(prA n i).fst : Int).toNat * 4) 0) (xs.getD (0 + (↑(prA n i).fst : Int).toNat * 4 + 1) 0) (xs.getD (0 + (↑(prA n i).fst : Int).toNat * 4 + 1 + 1) 0) (xs.getD (0 + (↑(prA n i).fst : Int).toNat * 4 + 1 + 1 + 1) 0) (xs.getD (0 + (↑(prA n i).snd : Int).toNat * 4) 0) (xs.getD (0 + (↑(prA n i).snd : Int).toNat * 4 + 1) 0) (xs.getD (0 + (↑(prA n i).snd : Int).toNat * 4 + 1 + 1) 0) (xs.getD (0 + (↑(prA n i).snd : Int).toNat * 4 + 1 + 1 + 1) 0)) (.leaf .ret ⟨(topV :: topV :: .pointer (some ⟨2, 0, none⟩) :: topV :: topV :: topV :: topV :: topV :: topV :: topV :: topV :: topV :: topV :: topV :: topV :: topV :: topV :: topV :: topV :: topV :: topV :: topV :: topV :: topV :: topV :: topV :: topV :: topV :: topV :: topV :: topV :: topV :: topV :: topV :: []), [some ⟨.view, .ints (xs)⟩, some ⟨.box, .vals [.slice (some ⟨0, 0, none⟩) (n) (n)]⟩, some ⟨.box, .vals [.bool (false)]⟩, some ⟨.view, .vals [.slice (some ⟨0, 0, none⟩) (n) (n)]⟩]⟩) (.leaf .normal ⟨(topV :: .pointer (some ⟨1, 0, none⟩) :: .pointer (some ⟨2, 0, none⟩) :: topV :: topV :: topV :: topV :: topV :: topV :: topV :: .func (Fn.func 113) #[] #[.pointer (some ⟨3, 0, none⟩)] :: topV :: topV :: topV :: topV :: topV :: topV :: topV :: topV :: topV :: topV :: topV :: topV :: topV :: topV :: topV :: topV :: topV :: topV :: topV :: topV :: topV :: topV :: topV :: []), [some ⟨.view, .ints (xs)⟩, some ⟨.box, .vals [.slice (some ⟨0, 0, none⟩) (n) (n)]⟩, some ⟨.box, .vals [.bool (false)]⟩, some ⟨.view, .vals [.slice (some ⟨0, 0, none⟩) (n) (n)]⟩]⟩)) (.leaf .normal ⟨(topV :: .pointer (some ⟨1, 0, none⟩) :: .pointer (some ⟨2, 0, none⟩) :: topV :: topV :: topV :: topV :: topV :: topV :: topV :: .func (Fn.func 113) #[] #[.pointer (some ⟨3, 0, none⟩)] :: topV :: topV :: topV :: topV :: topV :: topV :: topV :: topV :: topV :: topV :: topV :: topV :: topV :: topV :: topV :: topV :: topV :: topV :: topV :: topV :: topV :: topV :: topV :: []), [some ⟨.view, .ints (xs)⟩, some ⟨.box, .vals [.slice (some ⟨0, 0, none⟩) (n) (n)]⟩, some ⟨.box, .vals [.bool (false)]⟩, some ⟨.view, .vals [.slice (some ⟨0, 0, none⟩) (n) (n)]⟩]⟩)))))) (brT (!rl4V xs (prA n i).fst (prA n i).snd == 0) (.leaf .ret ⟨(topV :: topV :: .pointer (some ⟨2, 0, none⟩) :: topV :: topV :: topV :: topV :: topV :: topV :: topV :: topV :: topV :: topV :: topV :: topV :: topV :: topV :: topV :: topV :: topV :: topV :: topV :: topV :: topV :: topV :: topV :: topV :: topV :: topV :: topV :: topV :: topV :: topV :: topV :: []), [some ⟨.view, .ints (xs)⟩, some ⟨.box, .vals [.slice (some ⟨0, 0, none⟩) (n) (n)]⟩, some ⟨.box, .vals [.bool (false)]⟩, some ⟨.view, .vals [.slice (some ⟨0, 0, none⟩) (n) (n)]⟩]⟩) (.leaf .normal ⟨(topV :: .pointer (some ⟨1, 0, none⟩) :: .pointer (some ⟨2, 0, none⟩) :: topV :: topV :: topV :: topV :: topV :: topV :: topV :: .func (Fn.func 113) #[] #[.pointer (some ⟨3, 0, none⟩)] :: topV :: topV :: topV :: topV :: topV :: topV :: topV :: topV :: topV :: topV :: topV :: topV :: topV :: topV :: topV :: topV :: topV :: topV :: topV :: topV :: topV :: topV :: topV :: []), [some ⟨.view, .ints (xs)⟩, some ⟨.box, .vals [.slice (some ⟨0, 0, none⟩) (n) (n)]⟩, some ⟨.box, .vals [.bool (false)]⟩, some ⟨.view, .vals [.slice (some ⟨0, 0, none⟩) (n) (n)]⟩]⟩)) := by kernel_rfl
/-- A round of this loop. -/
def Round_dwg (xs : List Int) (n : Nat) : Prop := ∀ i : Nat, g_dwg xs n i → i < offR n 0 n → (bodyR Try.prog EDw0 30 12 noL noR (asgOf gc_dwg) (bodOf gc_dwg) ([11, 12].zip (encR xs n i)) k_dwg 4 (s_dwg xs n i)).ok (RoundEndR 4 (s_dwg xs n) (g_dwg xs n) (re_dwg xs n) (rs_dwg xs n) i) (fun _ _ => False)
set_option maxRecDepth 100000 in
theorem gcode_dwg : gc_dwg = .rangeFunc (.tmp 10) ([11, 12] : List Nat).toArray (asgOf gc_dwg) (bodOf gc_dwg) := by kernel_rfl
def e_dwg (s : St) (k : Ex → St → Tree) : Option Tree := match Nat.beq s.tmps.length 34, pickL s.tmps [1, 2, 10], s.mem with
  | true, [.pointer (some ⟨1, 0, none⟩), .pointer (some ⟨2, 0, none⟩), .func (.func 113) ⟨[]⟩ ⟨[.pointer (some ⟨3, 0, none⟩)]⟩], [some ⟨.view, .ints xs⟩, some ⟨.box, .vals [.slice (some ⟨0, 0, none⟩) n1 _]⟩, some ⟨.box, .vals [.bool false]⟩, some ⟨.box, .vals [.slice (some ⟨0, 0, none⟩) n _]⟩] => some (needs [n1 = n, xs.length = n * 4, n ≤ 12] (brT (allQ (dwQ xs n) 0 (offR n 0 n)) (k .normal ⟨(topV :: topV :: .pointer (some ⟨2, 0, none⟩) :: topV :: topV :: topV :: topV :: topV :: topV :: topV :: topV :: topV :: topV :: topV :: topV :: topV :: topV :: topV :: topV :: topV :: topV :: topV :: topV :: topV :: topV :: topV :: topV :: topV :: topV :: topV :: topV :: topV :: topV :: topV :: []), [some ⟨.view, .ints xs⟩, some ⟨.box, .vals [.slice (some ⟨0, 0, none⟩) n n]⟩, some ⟨.box, .vals [.bool false]⟩, some ⟨.view, .vals [.slice (some ⟨0, 0, none⟩) n n]⟩]⟩) (k .ret ⟨(topV :: topV :: .pointer (some ⟨2, 0, none⟩) :: topV :: topV :: topV :: topV :: topV :: topV :: topV :: topV :: topV :: topV :: topV :: topV :: topV :: topV :: topV :: topV :: topV :: topV :: topV :: topV :: topV :: topV :: topV :: topV :: topV :: topV :: topV :: topV :: topV :: topV :: topV :: []), [some ⟨.view, .ints xs⟩, some ⟨.box, .vals [.slice (some ⟨0, 0, none⟩) n n]⟩, some ⟨.box, .vals [.bool false]⟩, some ⟨.view, .vals [.slice (some ⟨0, 0, none⟩) n n]⟩]⟩)))
  | _, _, _ => none
set_option maxRecDepth 100000 in
theorem round_dwg (xs : List Int) (n : Nat) (hx : xs.length = n * 4) (h : n ≤ 12) : Round_dwg xs n := by
  intro i hg hi
  obtain ⟨g1, g2⟩ := hg
  rw [tr_dwg]
  have hp := prA_lt hi
  have bad : dwQ xs n i = false → allQ (dwQ xs n) 0 (offR n 0 n) = false := fun hb => by
    rcases hq : allQ (dwQ xs n) 0 (offR n 0 n) with _ | _
    · rfl
    · have := allQ_get _ _ hq i (Nat.zero_le _) (by omega)
      rw [hb] at this
      cases this
  have good : dwQ xs n i = true → g_dwg xs n (i + 1) := fun hb => ⟨by omega, fun k hk => by
    rcases Nat.lt_or_ge k i with g | g
    · exact g2 k g
    · obtain rfl : k = i := by omega
      exact hb⟩
  simp only [Int.toNat_natCast, Nat.zero_add]
  have hd : dwQ xs n i = (rl4V xs (prA n i).1 (prA n i).2 == 0 || (rl4V xs (prA n i).1 (prA n i).2 == 1 && sh4 xs (prA n i).1 (prA n i).2)) := rfl
  have es : shB (xs.getD ((prA n i).1 * 4) 0) (xs.getD ((prA n i).1 * 4 + 1) 0) (xs.getD ((prA n i).1 * 4 + 1 + 1) 0) (xs.getD ((prA n i).1 * 4 + 1 + 1 + 1) 0) (xs.getD ((prA n i).2 * 4) 0) (xs.getD ((prA n i).2 * 4 + 1) 0) (xs.getD ((prA n i).2 * 4 + 1 + 1) 0) (xs.getD ((prA n i).2 * 4 + 1 + 1 + 1) 0) = sh4 xs (prA n i).1 (prA n i).2 := rfl
  rw [es]
  generalize sh4 xs (prA n i).1 (prA n i).2 = sh at *
  generalize rl4V xs (prA n i).1 (prA n i).2 = r at *
  have wsr : dwQ xs n i = false → RoundEndR 4 (s_dwg xs n) (g_dwg xs n) (re_dwg xs n) (rs_dwg xs n) i .ret ⟨[topV, topV, .pointer (some ⟨2, 0, none⟩), topV, topV, topV, topV, topV, topV, topV, topV, topV, topV, topV, topV, topV, topV, topV, topV, topV, topV, topV, topV, topV, topV, topV, topV, topV, topV, topV, topV, topV, topV, topV], [some ⟨.view, .ints xs⟩, some ⟨.box, .vals [.slice (some ⟨0, 0, none⟩) n n]⟩, some ⟨.box, .vals [.bool false]⟩, some ⟨.view, .vals [.slice (some ⟨0, 0, none⟩) n n]⟩]⟩ := fun hb => by
    have e := bad hb
    refine ⟨by unfold re_dwg; rw [e]; rfl, [], ?_⟩
    unfold rs_dwg
    rw [e]
    refine ⟨rfl, rfl, ?_, ?_⟩ <;> repeat' (first | exact True.intro | exact rfl | exact wv_top _ _ | exact fun _ => rfl | (simp; done) | refine And.intro ?_ ?_)
  refine brT_ok.2 ⟨fun c1 => ⟨⟨by omega, by omega⟩, by omega, ⟨by omega, by omega⟩, by omega, brT_ok.2 ⟨fun c2 => brT_ok.2 ⟨fun c3 => ?_, fun c3 => ?_⟩, fun c2 => ?_⟩⟩, fun c1 => brT_ok.2 ⟨fun c2 => ?_, fun c2 => ?_⟩⟩
  · have hb : dwQ xs n i = false := by
      rw [hd]
      have c2 : (r == 0) = false := by simpa using c2
      have c3 : sh = false := by simpa using c3
      rw [c2, c3, Bool.and_false]
      rfl
    exact wsr hb
  · have hb : dwQ xs n i = true := by
      rw [hd, c1]
      have c3 : sh = true := by simpa using c3
      rw [c3]
      simp
    refine ⟨good hb, [], ?_⟩
    refine ⟨rfl, rfl, ?_, ?_⟩ <;> repeat' (first | exact True.intro | exact rfl | exact wv_top _ _ | exact fun _ => rfl | (simp; done) | refine And.intro ?_ ?_)
  · have hb : dwQ xs n i = true := by
      rw [hd]
      have c2 : (r == 0) = true := by simpa using c2
      rw [c2]
      rfl
    refine ⟨good hb, [], ?_⟩
    refine ⟨rfl, rfl, ?_, ?_⟩ <;> repeat' (first | exact True.intro | exact rfl | exact wv_top _ _ | exact fun _ => rfl | (simp; done) | refine And.intro ?_ ?_)
  · have hb : dwQ xs n i = false := by
      rw [hd, c1]
      have c2 : (r == 0) = false := by simpa using c2
      rw [c2]
      rfl
    exact wsr hb
  · have hb : dwQ xs n i = true := by
      rw [hd]
      have c2 : (r == 0) = true := by simpa using c2
      rw [c2]
      rfl
    refine ⟨good hb, [], ?_⟩
    refine ⟨rfl, rfl, ?_, ?_⟩ <;> repeat' (first | exact True.intro | exact rfl | exact wv_top _ _ | exact fun _ => rfl | (simp; done) | refine And.intro ?_ ?_)
set_option maxRecDepth 100000 in
theorem lg_dwg : RangeE Try.prog e_dwg gc_dwg := by
  intro s k t F H hlt ht
  unfold e_dwg at hlt
  split at hlt
  rotate_left
  · cases hlt
  rename_i hlen hpick hmem
  obtain ⟨tmps, mem⟩ := s
  simp only at hlen hpick hmem
  subst hmem
  obtain rfl := Option.some.inj hlt
  obtain ⟨⟨rfl, h1, h3, _⟩, ht2⟩ := needs_ok ht
  clear ht hlt
  rename_i xs n c1 c2 rr
  refine ⟨re_dwg xs n, rs_dwg xs n, pick2k ht2, ?_⟩
  rw [gcode_dwg]
  refine range_detP (enc := encR xs n) (len := offR n 0 n) (St_of := s_dwg xs n) (Good := g_dwg xs n) (N := 4) (M := 4) (Kn := [0, 3]) (cap := [.pointer (some ⟨3, 0, none⟩)]) (kf := (k_dwg .normal)) (π := []) (fun _ => rfl) (fun _ => rfl) (fun i hg hlt => bodyR_ok mixed EDw0_ok (noL_good) (noR_good) (round_dwg xs n h1 h3 i hg hlt)) (entersB_res (by kernel_rfl)).1 rfl ?_ (fun ρ0 ρ B w lb g1 g2 => rl_iter xs n h1 (by omega) (s := (s_dwg xs n 0).fs) (nb := 3) (nr := 0) (c := n) (Kn := [0, 3]) rfl rfl (by decide) (by decide) ρ0 ρ B w lb g1 g2) ?_ rfl (by decide) ?_ ⟨Nat.zero_le _, fun k hk => by omega⟩
  · intro n hn b hb
    simp only [List.mem_cons, List.not_mem_nil, or_false] at hn
    rcases hn with rfl | rfl <;> (obtain rfl := Option.some.inj hb; rfl)
  · rintro ⟨_, hg⟩
    have hq : allQ (dwQ xs n) 0 (offR n 0 n) = true := allQ_mkD _ _ fun k _ h2 => hg k (by omega)
    refine ⟨by unfold re_dwg; rw [hq]; rfl, [], ?_⟩
    unfold rs_dwg
    rw [hq]
    refine ⟨rfl, rfl, ?_, ?_⟩ <;> repeat' (first | exact True.intro | exact rfl | exact wv_top _ _ | exact fun _ => rfl | (simp; done) | refine And.intro ?_ ?_)
  · refine ⟨rfl, rfl, ?_, wvs_spread' [1, 2, 10] hlen rfl ?_⟩
    · repeat' (first | exact True.intro | exact rfl | exact wv_top _ _ | exact fun _ => rfl | assumption | exact Eq.symm (by assumption) | exact vI0 rfl | refine And.intro ?_ ?_)
    · rw [show pickL (viewS [0, 3] ⟨tmps, _⟩).tmps [1, 2, 10] = pickL tmps [1, 2, 10] from rfl, hpick]
      repeat' (first | exact True.intro | exact rfl | exact wv_top _ _ | exact fun _ => rfl | assumption | exact Eq.symm (by assumption) | exact vI0 rfl | refine And.intro ?_ ?_)
end Go.Proofs.Ytolodncpegajkaa
namespace Go.Proofs.Ytolodncpegajkaa
set_option linter.all false
open Go.RowKit
/-- The edges of a closed path, as numbers. -/
def edL (ps : List Pt) : Nat → List Int
  | 0 => []
  | i + 1 => edL ps i ++ [(ps.getD i (0, 0)).1, (ps.getD i (0, 0)).2, (nxP ps i).1, (nxP ps i).2]
theorem edL_len (ps : List Pt) : ∀ i, (edL ps i).length = i * 4
  | 0 => rfl
  | i + 1 => by
    have := edL_len ps i
    simp only [edL, List.length_append, List.length_cons, List.length_nil]
    omega
theorem prA_ord {n t : Nat} (h : t < offR n 0 n) : (prA n t).1 < (prA n t).2 := by
  have aux : ∀ f a t, t < offR n a f → a + f = n → (prD n f a t).1 < (prD n f a t).2 := by
    intro f
    induction f with
    | zero => intro a t h _; simp [offR] at h
    | succ f ih =>
      intro a t h ha
      have h : t < (n - 1 - a) + offR n (a + 1) f := h
      simp only [prD]
      split
      · simp only
        omega
      · exact ih (a + 1) _ (by omega) (by omega)
  exact aux n 0 t h (by omega)
end Go.Proofs.Ytolodncpegajkaa
