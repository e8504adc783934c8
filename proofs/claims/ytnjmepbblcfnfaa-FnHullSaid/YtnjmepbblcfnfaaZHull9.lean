/-
  Texts that the proof needs, merged. Written by an AI agent.
-/
import Derived.Orders
import Derived.Below
import Derived.OrdersIn
import Derived.Deep.LoopGhost
import Derived.WalkKit
import Derived.Laws.CopyRow
import Derived.Laws.AppendOwn
import Derived.Laws.Slices
import Derived.Laws.MakeOwn
import Derived.Test.YtnjmepbblcfnfaaRows
import Derived.ProofKit
import Derived.OpenShut
import Derived.Carry
import Derived.IntWalk
import Derived.Test.YtnjmepbblcfnfaaProg
import Derived.WalkSpells
import Derived.WalkLawsBesides
import Derived.Lib.Hide
import Derived.Deep.QuietTactic
import Derived.BigQuiet
import Derived.KernelRfl
import Derived.Deep.RegionHeld3
import Derived.LoopTactic
import Derived.Laws.StructEq
import Derived.Laws.Tables
import Derived.RangeFuncNested
import Derived.RangeFuncLeaves
import Derived.Deep.Slices
import Derived.Deep.Fields
import Derived.ChangeSame
import Derived.Shelf.SlSortCmp.WholeK
import Derived.Sort.Grow
import Derived.Deep.DeepCutAuto
import Derived.Shelf.SlSortCmp.NoneTotal
import Derived.Test.YtnjmepbblcfnfaaZHull8
namespace Go.Proofs.Ytnjmepbblcfnfaa
set_option linter.all false
open Go.RowKit
def RCe : TabR := fun f ds => match f, ds with
  | 144, [.v (.agg ⟨[.int .i64 a, .int .i64 b, .int .i64 c, .int .i64 d]⟩), .v (.agg ⟨[.int .i64 e, .int .i64 f, .int .i64 g, .int .i64 h]⟩)] => some (rowP (ceS a b c d e f g h), blkP (ceS a b c d e f g h), [ptB a b = true, ptB c d = true, ptB e f = true, ptB g h = true])
  | 151, [.v (.agg ⟨[.int .i64 a, .int .i64 b, .int .i64 c, .int .i64 d]⟩), .v (.agg ⟨[.int .i64 e, .int .i64 f, .int .i64 g, .int .i64 h]⟩)] => some (rowP (ceI a b c d e f g h), blkP (ceI a b c d e f g h), [ptB a b = true, ptB c d = true, ptB e f = true, ptB g h = true])
  | 125, [.row m (.ints xs)] => some (rowP (srtL (ptsA m xs)), blkP (srtL (ptsA m xs)), [m * 2 ≤ xs.length, m ≤ 1000])
  | _, _ => none
theorem RCe_ok : TabROk Try.prog RCe := by
  intro f ds v b C h hC
  unfold RCe at h
  (try split at h)
  all_goals first
    | (obtain ⟨rfl, rfl, rfl⟩ : _ ∧ _ ∧ _ := by simpa using h
       with_reducible refine resR_sCe ?_ ?_ ?_ ?_
       · exact hC.1
       · exact hC.2.1
       · exact hC.2.2.1
       · exact hC.2.2.2.1)
    | (obtain ⟨rfl, rfl, rfl⟩ : _ ∧ _ ∧ _ := by simpa using h
       with_reducible refine resR_iCe ?_ ?_ ?_ ?_
       · exact hC.1
       · exact hC.2.1
       · exact hC.2.2.1
       · exact hC.2.2.2.1)
    | (obtain ⟨rfl, rfl, rfl⟩ : _ ∧ _ ∧ _ := by simpa using h
       obtain ⟨_, h2⟩ := ptsA_spec hC.1
       exact resR_pts1 (pre := []) (post := []) hC.1 (resR_srt _ (by rw [h2]; exact hC.2.1)))
    | cases h
def ECe : Env := mkE TOl RCe (fun _ => noL)
theorem ECe_ok : EnvOk Try.prog ECe := mkEOk TOl_ok RCe_ok (fun _ _ _ => noL_good)
set_option maxRecDepth 100000 in
theorem tr_sRel (a b c d e f g h : Int) : bodyV Try.prog ECe 30 12 113 [.v (.agg #[iv a, iv b, iv c, iv d]), .v (.agg #[iv e, iv f, iv g, iv h])] = .need (ptB a b = true) (.need (ptB c d = true) (.need (ptB e f = true) (.need (ptB g h = true) (brT (decide (1 < (↑(ceS a b c d e f g h).length : Int))) (.fin (.int .i64 (3)) []) (brT ((↑(ceS a b c d e f g h).length : Int) == 1) (.fin (.int .i64 (1)) []) (.need (ptB a b = true) (.need (ptB c d = true) (.need (ptB e f = true) (.need (ptB a b = true) (.need (ptB c d = true) (.need (ptB g h = true) (brT (decide (IntKind.i64.wrap (cmpI (crossI a b c d e f) 0 * cmpI (crossI a b c d g h) 0) < 0)) (.need (ptB e f = true) (.need (ptB g h = true) (.need (ptB a b = true) (.need (ptB e f = true) (.need (ptB g h = true) (.need (ptB c d = true) (brT (decide (IntKind.i64.wrap (cmpI (crossI e f g h a b) 0 * cmpI (crossI e f g h c d) 0) < 0)) (.fin (.int .i64 (2)) []) (.fin (.int .i64 (0)) [])))))))) (.fin (.int .i64 (0)) []))))))))))))) := by kernel_rfl
set_option maxRecDepth 100000 in
theorem tr_iRel (a b c d e f g h : Int) : bodyV Try.prog ECe 30 12 132 [.v (.agg #[iv a, iv b, iv c, iv d]), .v (.agg #[iv e, iv f, iv g, iv h])] = brT (!segB a b c d) (.fin (.int .i64 (-1)) []) (brT (!segB e f g h) (.fin (.int .i64 (-1)) []) (.need (ptB a b = true) (.need (ptB c d = true) (.need (ptB e f = true) (.need (ptB g h = true) (brT ((↑(ceI a b c d e f g h).length : Int) == 0) (.need (ptB a b = true) (.need (ptB c d = true) (.need (ptB e f = true) (.need (ptB a b = true) (.need (ptB c d = true) (.need (ptB g h = true) (brT (decide (IntKind.i64.wrap (cmpI (crossI a b c d e f) 0 * cmpI (crossI a b c d g h) 0) < 0)) (.need (ptB e f = true) (.need (ptB g h = true) (.need (ptB a b = true) (.need (ptB e f = true) (.need (ptB g h = true) (.need (ptB c d = true) (brT (decide (IntKind.i64.wrap (cmpI (crossI e f g h a b) 0 * cmpI (crossI e f g h c d) 0) < 0)) (.fin (.int .i64 (2)) []) (.fin (.int .i64 (0)) [])))))))) (.fin (.int .i64 (0)) [])))))))) (brT ((↑(ceI a b c d e f g h).length : Int) == 1) (.fin (.int .i64 (1)) []) (.fin (.int .i64 (3)) [])))))))) := by kernel_rfl
/-- Are the ends of the second segment on different sides of the first one? -/
def dvB (a b c d e f g h : Int) : Bool := decide (IntKind.i64.wrap (cmpI (crossI a b c d e f) 0 * cmpI (crossI a b c d g h) 0) < 0)
def relN (n : Nat) (x : Bool) : Int := if 1 < n then 3 else if n = 1 then 1 else bif x then 2 else 0
/-- How two segments of valid points meet. -/
def relA (a b c d e f g h : Int) : Int := relN (ceS a b c d e f g h).length (dvB a b c d e f g h && dvB e f g h a b c d)
def relV (a b c d e f g h : Int) : Int := bif segB a b c d && segB e f g h then relA a b c d e f g h else -1
theorem segB_pt {a b c d : Int} (h : segB a b c d = true) : ptB a b = true ∧ ptB c d = true := by
  unfold segB at h
  simp only [Bool.and_eq_true] at h
  exact h.1
theorem res_sRel {a b c d e f g h : Int} (h1 : ptB a b = true) (h2 : ptB c d = true) (h3 : ptB e f = true) (h4 : ptB g h = true) : Res Try.prog 113 [.v (.agg #[iv a, iv b, iv c, iv d]), .v (.agg #[iv e, iv f, iv g, iv h])] (iv (relA a b c d e f g h)) := by
  refine bodyV_res mixed ECe_ok (m := 30) (n := 12) rfl ?_
  rw [tr_sRel]
  simp only [brT_ok, Tree.ok, h1, h2, h3, h4, true_and, decide_eq_true_eq, decide_eq_false_iff_not, beq_iff_eq, beq_eq_false_iff_ne]
  unfold relA relN dvB
  refine ⟨fun g1 => ?_, fun g1 => ⟨fun g2 => ?_, fun g2 => ⟨fun g3 => ⟨fun g4 => ?_, fun g4 => ?_⟩, fun g3 => ?_⟩⟩⟩
  · rw [if_pos (by omega)]
  · rw [if_neg (by omega), if_pos (by omega)]
  all_goals
    rw [if_neg (by omega), if_neg (by omega)]
    simp [g3]
  all_goals simp [g4]
theorem res_iRel (a b c d e f g h : Int) : Res Try.prog 132 [.v (.agg #[iv a, iv b, iv c, iv d]), .v (.agg #[iv e, iv f, iv g, iv h])] (iv (relV a b c d e f g h)) := by
  refine bodyV_res mixed ECe_ok (m := 30) (n := 12) rfl ?_
  rw [tr_iRel]
  unfold relV
  rcases s1 : segB a b c d with _ | _
  · simp [brT_ok, Tree.ok]
  rcases s2 : segB e f g h with _ | _
  · simp [brT_ok, Tree.ok]
  obtain ⟨h1, h2⟩ := segB_pt s1
  obtain ⟨h3, h4⟩ := segB_pt s2
  have hl := (ce_same a b c d e f g h).1
  simp only [brT_ok, Tree.ok, h1, h2, h3, h4, true_and, decide_eq_true_eq, decide_eq_false_iff_not, beq_iff_eq, beq_eq_false_iff_ne, Bool.not_true, Bool.and_self, cond_true, hl]
  unfold relA relN dvB
  repeat' (first | refine And.intro ?_ ?_ | intro _)
  all_goals first
    | (rw [if_neg (by omega), if_pos (by omega)]; done)
    | (rw [if_pos (by omega)]; done)
    | (rw [if_neg (by omega), if_neg (by omega)]; simp [*]; done)
    | (exfalso; simp_all; done)
def pRlA : List DArg → Option (Value × List Prop)
  | [.v (.agg ⟨[.int .i64 a, .int .i64 b, .int .i64 c, .int .i64 d]⟩), .v (.agg ⟨[.int .i64 e, .int .i64 f, .int .i64 g, .int .i64 h]⟩)] => some (iv (relA a b c d e f g h), [ptB a b = true, ptB c d = true, ptB e f = true, ptB g h = true])
  | _ => none
def pRlV : List DArg → Option (Value × List Prop)
  | [.v (.agg ⟨[.int .i64 a, .int .i64 b, .int .i64 c, .int .i64 d]⟩), .v (.agg ⟨[.int .i64 e, .int .i64 f, .int .i64 g, .int .i64 h]⟩)] => some (iv (relV a b c d e f g h), [])
  | _ => none
def TRa : Tab := fun f ds => match f with
  | 113 => pRlA ds
  | 132 => pRlV ds
  | f => TOl f ds
theorem pRlA_ok {ds : List DArg} {v : Value} {C : List Prop} (h : pRlA ds = some (v, C)) (hC : AllP C) : Res Try.prog 113 ds v := by
  unfold pRlA at h
  split at h
  · obtain ⟨rfl, rfl⟩ : _ ∧ _ := by simpa using h
    exact res_sRel hC.1 hC.2.1 hC.2.2.1 hC.2.2.2.1
  · cases h
theorem pRlV_i {ds : List DArg} {v : Value} {C : List Prop} (h : pRlV ds = some (v, C)) : Res Try.prog 132 ds v := by
  unfold pRlV at h
  split at h
  · obtain ⟨rfl, rfl⟩ : _ ∧ _ := by simpa using h
    exact res_iRel _ _ _ _ _ _ _ _
  · cases h
theorem TRa_ok : TabOk Try.prog TRa := by
  intro f ds v C h hC
  unfold TRa at h
  (try split at h)
  all_goals first | with_reducible exact pRlA_ok h hC | with_reducible exact pRlV_i h | exact TOl_ok _ _ _ _ h hC
def TRb : Tab := fun f ds => match f with
  | f => TRa f ds
theorem TRb_ok : TabOk Try.prog TRb := by
  intro f ds v C h hC
  unfold TRb at h
  (try split at h)
  all_goals first | with_reducible exact pRlV_s h | exact TRa_ok _ _ _ _ h hC
end Go.Proofs.Ytnjmepbblcfnfaa
namespace Go.Proofs.Ytnjmepbblcfnfaa
set_option linter.all false
open Go.RowKit
theorem addT_mem {o : List Pt} {p z : Pt} {b : Bool} : z ∈ addT o p b ↔ z ∈ o ∨ (b = true ∧ z = p) := by
  unfold addT
  cases b
  · simp
  · simp [insP_mem]
theorem addT_asc {o : List Pt} (h : Asc o) (p : Pt) (b : Bool) : Asc (addT o p b) := by
  unfold addT
  cases b
  · exact h
  · exact insP_asc p h
theorem ce_asc (a b c d e f g h : Int) : Asc (ceS a b c d e f g h) := addT_asc (addT_asc (addT_asc (addT_asc List.Pairwise.nil _ _) _ _) _ _) _ _
theorem ce_mem {a b c d e f g h : Int} {z : Pt} : z ∈ ceS a b c d e f g h ↔ onB a b c d e f g h z.1 z.2 = true ∧ (z = (a, b) ∨ z = (c, d) ∨ z = (e, f) ∨ z = (g, h)) := by
  unfold ceS
  simp only [addT_mem, List.not_mem_nil, false_or]
  constructor
  · rintro (((⟨h1, rfl⟩ | ⟨h1, rfl⟩) | ⟨h1, rfl⟩) | ⟨h1, rfl⟩)
    · exact ⟨h1, .inl rfl⟩
    · exact ⟨h1, .inr (.inl rfl)⟩
    · exact ⟨h1, .inr (.inr (.inl rfl))⟩
    · exact ⟨h1, .inr (.inr (.inr rfl))⟩
  · rintro ⟨h1, rfl | rfl | rfl | rfl⟩
    · exact .inl (.inl (.inl ⟨h1, rfl⟩))
    · exact .inl (.inl (.inr ⟨h1, rfl⟩))
    · exact .inl (.inr ⟨h1, rfl⟩)
    · exact .inr ⟨h1, rfl⟩
theorem onB_comm (a b c d e f g h x y : Int) : onB a b c d e f g h x y = onB e f g h a b c d x y := Bool.and_comm ..
theorem ce_comm (a b c d e f g h : Int) : ceS a b c d e f g h = ceS e f g h a b c d := by
  refine asc_ext (ce_asc ..) (ce_asc ..) fun z => ?_
  rw [ce_mem, ce_mem, onB_comm]
  refine and_congr_right fun _ => ?_
  constructor
  · rintro (h | h | h | h) <;> simp [h]
  · rintro (h | h | h | h) <;> simp [h]
theorem relA_comm (a b c d e f g h : Int) : relA a b c d e f g h = relA e f g h a b c d := by
  unfold relA
  rw [ce_comm a b c d e f g h, Bool.and_comm]
theorem hasB_a (a b c d : Int) : hasB a b c d a b = true := by
  unfold hasB
  simp
theorem hasB_b (a b c d : Int) : hasB a b c d c d = true := by
  unfold hasB
  simp
end Go.Proofs.Ytnjmepbblcfnfaa
namespace Go.Proofs.Ytnjmepbblcfnfaa
set_option linter.all false
open Go.RowKit
/-- How two edges of a closed path meet. -/
def edR (ps : List Pt) (i k : Nat) : Int := relV (ps.getD i (0, 0)).1 (ps.getD i (0, 0)).2 (nxP ps i).1 (nxP ps i).2 (ps.getD k (0, 0)).1 (ps.getD k (0, 0)).2 (nxP ps k).1 (nxP ps k).2
/-- Is one of two edges behind the other one? -/
def nbQ (ps : List Pt) (i k : Nat) : Bool := decide (k = i + 1) || decide ((k + 1) % ps.length = i)
def okE (ps : List Pt) (i k : Nat) : Bool := !(decide (i < k)) || (edR ps i k == (bif nbQ ps i k then 1 else 0))
def rowQ (ps : List Pt) (i : Nat) : Bool := allQ (okE ps i) 0 ps.length
def simQ (ps : List Pt) : Bool := allQ (rowQ ps) 0 ps.length
theorem allQ_all {P : Nat → Bool} : ∀ (m i : Nat), (∀ j, i ≤ j → j < i + m → P j = true) → allQ P i m = true
  | 0, _, _ => rfl
  | m + 1, i, h => by
    simp only [allQ, Bool.and_eq_true]
    exact ⟨h i (Nat.le_refl _) (by omega), allQ_all m (i + 1) fun j h1 h2 => h j (by omega) (by omega)⟩
theorem allQ_no {P : Nat → Bool} {n j : Nat} (hj : j < n) (h : P j = false) : allQ P 0 n = false := by
  rw [Bool.eq_false_iff]
  intro hh
  have := allQ_get n 0 hh j (by omega) (by omega)
  rw [h] at this
  cases this
def TIs : Tab := orT T3 TRb
theorem TIs_ok : TabOk Try.prog TIs := orT_ok T3_ok TRb_ok
def EIs : Env := mkE TIs RCe (fun _ => noL)
theorem EIs_ok : EnvOk Try.prog EIs := mkEOk TIs_ok RCe_ok (fun _ _ _ => noL_good)
noncomputable def gcIss : Code := (rangesOf (codeOf Try.f78)).getD 0 .skip
noncomputable def gc_isI : Code := (rangesOf (bodOf gcIss)).getD 0 .skip
def k_isI : Ex → List Nat := keeps [1, 2, 3, 4, 26] [] [2]
def s_isI (ps : List Pt) (j : Nat) : Nat → St := fun i => ⟨(topV :: .pointer (some ⟨1, 0, none⟩) :: .pointer (some ⟨2, 0, none⟩) :: .pointer (some ⟨4, 0, none⟩) :: .pointer (some ⟨5, 0, none⟩) :: topV :: topV :: topV :: topV :: topV :: topV :: topV :: topV :: topV :: topV :: topV :: topV :: topV :: topV :: topV :: topV :: topV :: topV :: topV :: topV :: topV :: .func (.func 131) #[] #[.pointer (some ⟨6, 0, none⟩)] :: topV :: topV :: topV :: topV :: topV :: topV :: topV :: topV :: topV :: topV :: topV :: topV :: topV :: topV :: topV :: topV :: topV :: topV :: topV :: topV :: topV :: topV :: topV :: topV :: topV :: []), [some ⟨.view, .ints (flat ps)⟩, some ⟨.box, .vals [.slice (some ⟨0, 0, none⟩) ps.length ps.length]⟩, some ⟨.box, .vals [.bool false]⟩, some ⟨.view, .vals [.slice (some ⟨0, 0, none⟩) ps.length ps.length]⟩, some ⟨.box, .vals [.int .i64 j]⟩, some ⟨.box, .vals [.int .i64 (ps.getD j (0, 0)).1, .int .i64 (ps.getD j (0, 0)).2, .int .i64 (nxP ps j).1, .int .i64 (nxP ps j).2]⟩, some ⟨.view, .vals [.slice (some ⟨0, 0, none⟩) ps.length ps.length]⟩]⟩
def g_isI (ps : List Pt) (j : Nat) : Nat → Prop := fun i => i ≤ ps.length ∧ ∀ k, k < i → okE ps j k = true
def re_isI (ps : List Pt) (j : Nat) : Ex := bif rowQ ps j then .normal else .ret
def rs_isI (ps : List Pt) (j : Nat) : St := bif rowQ ps j then ⟨(topV :: topV :: .pointer (some ⟨2, 0, none⟩) :: topV :: topV :: topV :: topV :: topV :: topV :: topV :: topV :: topV :: topV :: topV :: topV :: topV :: topV :: topV :: topV :: topV :: topV :: topV :: topV :: topV :: topV :: topV :: topV :: topV :: topV :: topV :: topV :: topV :: topV :: topV :: topV :: topV :: topV :: topV :: topV :: topV :: topV :: topV :: topV :: topV :: topV :: topV :: topV :: topV :: topV :: topV :: topV :: topV :: []), [some ⟨.view, .ints (flat ps)⟩, some ⟨.box, .vals [.slice (some ⟨0, 0, none⟩) ps.length ps.length]⟩, some ⟨.box, .vals [.bool false]⟩, some ⟨.view, .vals [.slice (some ⟨0, 0, none⟩) ps.length ps.length]⟩, some ⟨.box, .vals [.int .i64 j]⟩, some ⟨.box, .vals [.int .i64 (ps.getD j (0, 0)).1, .int .i64 (ps.getD j (0, 0)).2, .int .i64 (nxP ps j).1, .int .i64 (nxP ps j).2]⟩, some ⟨.view, .vals [.slice (some ⟨0, 0, none⟩) ps.length ps.length]⟩]⟩ else ⟨(topV :: topV :: .pointer (some ⟨2, 0, none⟩) :: topV :: topV :: topV :: topV :: topV :: topV :: topV :: topV :: topV :: topV :: topV :: topV :: topV :: topV :: topV :: topV :: topV :: topV :: topV :: topV :: topV :: topV :: topV :: topV :: topV :: topV :: topV :: topV :: topV :: topV :: topV :: topV :: topV :: topV :: topV :: topV :: topV :: topV :: topV :: topV :: topV :: topV :: topV :: topV :: topV :: topV :: topV :: topV :: topV :: []), [some ⟨.view, .ints (flat ps)⟩, some ⟨.box, .vals [.slice (some ⟨0, 0, none⟩) ps.length ps.length]⟩, some ⟨.box, .vals [.bool false]⟩, some ⟨.view, .vals [.slice (some ⟨0, 0, none⟩) ps.length ps.length]⟩, some ⟨.box, .vals [.int .i64 j]⟩, some ⟨.box, .vals [.int .i64 (ps.getD j (0, 0)).1, .int .i64 (ps.getD j (0, 0)).2, .int .i64 (nxP ps j).1, .int .i64 (nxP ps j).2]⟩, some ⟨.view, .vals [.slice (some ⟨0, 0, none⟩) ps.length ps.length]⟩]⟩
set_option maxRecDepth 100000 in
theorem tr_isI (ps : List Pt) (j : Nat) (i : Nat) : bodyR Try.prog EIs 30 12 noL noR (asgOf gc_isI) (bodOf gc_isI) ([27, 28].zip (encE ps i)) k_isI 7 (s_isI ps j i) = brT ((↑i : Int) == IntKind.i64.wrap ((↑j : Int) + 1)) (brT (decide ((↑j : Int) < (↑i : Int))) (brT (!relV (ps.getD j (0, 0)).1 (ps.getD j (0, 0)).2 (nxP ps j).1 (nxP ps j).2 (ps.getD i (0, 0)).1 (ps.getD i (0, 0)).2 (ps.getD ((i + 1) % ps.length) (0, 0)).1 (ps.getD ((i + 1) % ps.length) (0, 0)).2 == 1) (.leaf .ret ⟨(topV :: topV :: .pointer (some ⟨2, 0, none⟩) :: topV :: topV :: topV :: topV :: topV :: topV :: topV :: topV :: topV :: topV :: topV :: topV :: topV :: topV :: topV :: topV :: topV :: topV :: topV :: topV :: topV :: topV :: topV :: topV :: topV :: topV :: topV :: topV :: topV :: topV :: topV :: topV :: topV :: topV :: topV :: topV :: topV :: topV :: topV :: topV :: topV :: topV :: topV :: topV :: topV :: topV :: topV :: topV :: topV :: []), [some ⟨.view, .ints (flat ps)⟩, some ⟨.box, .vals [.slice (some ⟨0, 0, none⟩) (ps.length) (ps.length)]⟩, some ⟨.box, .vals [.bool (false)]⟩, some ⟨.view, .vals [.slice (some ⟨0, 0, none⟩) (ps.length) (ps.length)]⟩, some ⟨.box, .vals [.int .i64 ((↑j : Int))]⟩, some ⟨.box, .vals [.int .i64 ((ps.getD j (0, 0)).1), .int .i64 ((ps.getD j (0, 0)).2), .int .i64 ((nxP ps j).1), .int .i64 ((nxP ps j).2)]⟩, some ⟨.view, .vals [.slice (some ⟨0, 0, none⟩) (ps.length) (ps.length)]⟩]⟩) (.leaf .normal ⟨(topV :: .pointer (some ⟨1, 0, none⟩) :: .pointer (some ⟨2, 0, none⟩) :: .pointer (some ⟨4, 0, none⟩) :: .pointer (some ⟨5, 0, none⟩) :: topV :: topV :: topV :: topV :: topV :: topV :: topV :: topV :: topV :: topV :: topV :: topV :: topV :: topV :: topV :: topV :: topV :: topV :: topV :: topV :: topV :: .func (Fn.func 131) #[] #[.pointer (some ⟨6, 0, none⟩)] :: topV :: topV :: topV :: topV :: topV :: topV :: topV :: topV :: topV :: topV :: topV :: topV :: topV :: topV :: topV :: topV :: topV :: topV :: topV :: topV :: topV :: topV :: topV :: topV :: topV :: []), [some ⟨.view, .ints (flat ps)⟩, some ⟨.box, .vals [.slice (some ⟨0, 0, none⟩) (ps.length) (ps.length)]⟩, some ⟨.box, .vals [.bool (false)]⟩, some ⟨.view, .vals [.slice (some ⟨0, 0, none⟩) (ps.length) (ps.length)]⟩, some ⟨.box, .vals [.int .i64 ((↑j : Int))]⟩, some ⟨.box, .vals [.int .i64 ((ps.getD j (0, 0)).1), .int .i64 ((ps.getD j (0, 0)).2), .int .i64 ((nxP ps j).1), .int .i64 ((nxP ps j).2)]⟩, some ⟨.view, .vals [.slice (some ⟨0, 0, none⟩) (ps.length) (ps.length)]⟩]⟩)) (.leaf .normal ⟨(topV :: .pointer (some ⟨1, 0, none⟩) :: .pointer (some ⟨2, 0, none⟩) :: .pointer (some ⟨4, 0, none⟩) :: .pointer (some ⟨5, 0, none⟩) :: topV :: topV :: topV :: topV :: topV :: topV :: topV :: topV :: topV :: topV :: topV :: topV :: topV :: topV :: topV :: topV :: topV :: topV :: topV :: topV :: topV :: .func (Fn.func 131) #[] #[.pointer (some ⟨6, 0, none⟩)] :: topV :: topV :: topV :: topV :: topV :: topV :: topV :: topV :: topV :: topV :: topV :: topV :: topV :: topV :: topV :: topV :: topV :: topV :: topV :: topV :: topV :: topV :: topV :: topV :: topV :: []), [some ⟨.view, .ints (flat ps)⟩, some ⟨.box, .vals [.slice (some ⟨0, 0, none⟩) (ps.length) (ps.length)]⟩, some ⟨.box, .vals [.bool (false)]⟩, some ⟨.view, .vals [.slice (some ⟨0, 0, none⟩) (ps.length) (ps.length)]⟩, some ⟨.box, .vals [.int .i64 ((↑j : Int))]⟩, some ⟨.box, .vals [.int .i64 ((ps.getD j (0, 0)).1), .int .i64 ((ps.getD j (0, 0)).2), .int .i64 ((nxP ps j).1), .int .i64 ((nxP ps j).2)]⟩, some ⟨.view, .vals [.slice (some ⟨0, 0, none⟩) (ps.length) (ps.length)]⟩]⟩)) (.need (¬(↑ps.length : Int) = (0 : Int)) (brT ((IntKind.i64.wrap ((↑i : Int) + 1)).tmod (↑ps.length : Int) == (↑j : Int)) (brT (decide ((↑j : Int) < (↑i : Int))) (brT (!relV (ps.getD j (0, 0)).1 (ps.getD j (0, 0)).2 (nxP ps j).1 (nxP ps j).2 (ps.getD i (0, 0)).1 (ps.getD i (0, 0)).2 (ps.getD ((i + 1) % ps.length) (0, 0)).1 (ps.getD ((i + 1) % ps.length) (0, 0)).2 == 1) (.leaf .ret ⟨(topV :: topV :: .pointer (some ⟨2, 0, none⟩) :: topV :: topV :: topV :: topV :: topV :: topV :: topV :: topV :: topV :: topV :: topV :: topV :: topV :: topV :: topV :: topV :: topV :: topV :: topV :: topV :: topV :: topV :: topV :: topV :: topV :: topV :: topV :: topV :: topV :: topV :: topV :: topV :: topV :: topV :: topV :: topV :: topV :: topV :: topV :: topV :: topV :: topV :: topV :: topV :: topV :: topV :: topV :: topV :: topV :: []), [some ⟨.view, .ints (flat ps)⟩, some ⟨.box, .vals [.slice (some ⟨0, 0, none⟩) (ps.length) (ps.length)]⟩, some ⟨.box, .vals [.bool (false)]⟩, some ⟨.view, .vals [.slice (some ⟨0, 0, none⟩) (ps.length) (ps.length)]⟩, some ⟨.box, .vals [.int .i64 ((↑j : Int))]⟩, some ⟨.box, .vals [.int .i64 ((ps.getD j (0, 0)).1), .int .i64 ((ps.getD j (0, 0)).2), .int .i64 ((nxP ps j).1), .int .i64 ((nxP ps j).2)]⟩, some ⟨.view, .vals [.slice (some ⟨0, 0, none⟩) (ps.length) (ps.length)]⟩]⟩) (.leaf .normal ⟨(topV :: .pointer (some ⟨1, 0, none⟩) :: .pointer (some ⟨2, 0, none⟩) :: .pointer (some ⟨4, 0, none⟩) :: .pointer (some ⟨5, 0, none⟩) :: topV :: topV :: topV :: topV :: topV :: topV :: topV :: topV :: topV :: topV :: topV :: topV :: topV :: topV :: topV :: topV :: topV :: topV :: topV :: topV :: topV :: .func (Fn.func 131) #[] #[.pointer (some ⟨6, 0, none⟩)] :: topV :: topV :: topV :: topV :: topV :: topV :: topV :: topV :: topV :: topV :: topV :: topV :: topV :: topV :: topV :: topV :: topV :: topV :: topV :: topV :: topV :: topV :: topV :: topV :: topV :: []), [some ⟨.view, .ints (flat ps)⟩, some ⟨.box, .vals [.slice (some ⟨0, 0, none⟩) (ps.length) (ps.length)]⟩, some ⟨.box, .vals [.bool (false)]⟩, some ⟨.view, .vals [.slice (some ⟨0, 0, none⟩) (ps.length) (ps.length)]⟩, some ⟨.box, .vals [.int .i64 ((↑j : Int))]⟩, some ⟨.box, .vals [.int .i64 ((ps.getD j (0, 0)).1), .int .i64 ((ps.getD j (0, 0)).2), .int .i64 ((nxP ps j).1), .int .i64 ((nxP ps j).2)]⟩, some ⟨.view, .vals [.slice (some ⟨0, 0, none⟩) (ps.length) (ps.length)]⟩]⟩)) (.leaf .normal ⟨(topV :: .pointer (some ⟨1, 0, none⟩) :: .pointer (some ⟨2, 0, none⟩) :: .pointer (some ⟨4, 0, none⟩) :: .pointer (some ⟨5, 0, none⟩) :: topV :: topV :: topV :: topV :: topV :: topV :: topV :: topV :: topV :: topV :: topV :: topV :: topV :: topV :: topV :: topV :: topV :: topV :: topV :: topV :: topV :: .func (Fn.func 131) #[] #[.pointer (some ⟨6, 0, none⟩)] :: topV :: topV :: topV :: topV :: topV :: topV :: topV :: topV :: topV :: topV :: topV :: topV :: topV :: topV :: topV :: topV :: topV :: topV :: topV :: topV :: topV :: topV :: topV :: topV :: topV :: []), [some ⟨.view, .ints (flat ps)⟩, some ⟨.box, .vals [.slice (some ⟨0, 0, none⟩) (ps.length) (ps.length)]⟩, some ⟨.box, .vals [.bool (false)]⟩, some ⟨.view, .vals [.slice (some ⟨0, 0, none⟩) (ps.length) (ps.length)]⟩, some ⟨.box, .vals [.int .i64 ((↑j : Int))]⟩, some ⟨.box, .vals [.int .i64 ((ps.getD j (0, 0)).1), .int .i64 ((ps.getD j (0, 0)).2), .int .i64 ((nxP ps j).1), .int .i64 ((nxP ps j).2)]⟩, some ⟨.view, .vals [.slice (some ⟨0, 0, none⟩) (ps.length) (ps.length)]⟩]⟩)) (brT (decide ((↑j : Int) < (↑i : Int))) (brT (!relV (ps.getD j (0, 0)).1 (ps.getD j (0, 0)).2 (nxP ps j).1 (nxP ps j).2 (ps.getD i (0, 0)).1 (ps.getD i (0, 0)).2 (ps.getD ((i + 1) % ps.length) (0, 0)).1 (ps.getD ((i + 1) % ps.length) (0, 0)).2 == 0) (.leaf .ret ⟨(topV :: topV :: .pointer (some ⟨2, 0, none⟩) :: topV :: topV :: topV :: topV :: topV :: topV :: topV :: topV :: topV :: topV :: topV :: topV :: topV :: topV :: topV :: topV :: topV :: topV :: topV :: topV :: topV :: topV :: topV :: topV :: topV :: topV :: topV :: topV :: topV :: topV :: topV :: topV :: topV :: topV :: topV :: topV :: topV :: topV :: topV :: topV :: topV :: topV :: topV :: topV :: topV :: topV :: topV :: topV :: topV :: []), [some ⟨.view, .ints (flat ps)⟩, some ⟨.box, .vals [.slice (some ⟨0, 0, none⟩) (ps.length) (ps.length)]⟩, some ⟨.box, .vals [.bool (false)]⟩, some ⟨.view, .vals [.slice (some ⟨0, 0, none⟩) (ps.length) (ps.length)]⟩, some ⟨.box, .vals [.int .i64 ((↑j : Int))]⟩, some ⟨.box, .vals [.int .i64 ((ps.getD j (0, 0)).1), .int .i64 ((ps.getD j (0, 0)).2), .int .i64 ((nxP ps j).1), .int .i64 ((nxP ps j).2)]⟩, some ⟨.view, .vals [.slice (some ⟨0, 0, none⟩) (ps.length) (ps.length)]⟩]⟩) (.leaf .normal ⟨(topV :: .pointer (some ⟨1, 0, none⟩) :: .pointer (some ⟨2, 0, none⟩) :: .pointer (some ⟨4, 0, none⟩) :: .pointer (some ⟨5, 0, none⟩) :: topV :: topV :: topV :: topV :: topV :: topV :: topV :: topV :: topV :: topV :: topV :: topV :: topV :: topV :: topV :: topV :: topV :: topV :: topV :: topV :: topV :: .func (Fn.func 131) #[] #[.pointer (some ⟨6, 0, none⟩)] :: topV :: topV :: topV :: topV :: topV :: topV :: topV :: topV :: topV :: topV :: topV :: topV :: topV :: topV :: topV :: topV :: topV :: topV :: topV :: topV :: topV :: topV :: topV :: topV :: topV :: []), [some ⟨.view, .ints (flat ps)⟩, some ⟨.box, .vals [.slice (some ⟨0, 0, none⟩) (ps.length) (ps.length)]⟩, some ⟨.box, .vals [.bool (false)]⟩, some ⟨.view, .vals [.slice (some ⟨0, 0, none⟩) (ps.length) (ps.length)]⟩, some ⟨.box, .vals [.int .i64 ((↑j : Int))]⟩, some ⟨.box, .vals [.int .i64 ((ps.getD j (0, 0)).1), .int .i64 ((ps.getD j (0, 0)).2), .int .i64 ((nxP ps j).1), .int .i64 ((nxP ps j).2)]⟩, some ⟨.view, .vals [.slice (some ⟨0, 0, none⟩) (ps.length) (ps.length)]⟩]⟩)) (.leaf .normal ⟨(topV :: .pointer (some ⟨1, 0, none⟩) :: .pointer (some ⟨2, 0, none⟩) :: .pointer (some ⟨4, 0, none⟩) :: .pointer (some ⟨5, 0, none⟩) :: topV :: topV :: topV :: topV :: topV :: topV :: topV :: topV :: topV :: topV :: topV :: topV :: topV :: topV :: topV :: topV :: topV :: topV :: topV :: topV :: topV :: .func (Fn.func 131) #[] #[.pointer (some ⟨6, 0, none⟩)] :: topV :: topV :: topV :: topV :: topV :: topV :: topV :: topV :: topV :: topV :: topV :: topV :: topV :: topV :: topV :: topV :: topV :: topV :: topV :: topV :: topV :: topV :: topV :: topV :: topV :: []), [some ⟨.view, .ints (flat ps)⟩, some ⟨.box, .vals [.slice (some ⟨0, 0, none⟩) (ps.length) (ps.length)]⟩, some ⟨.box, .vals [.bool (false)]⟩, some ⟨.view, .vals [.slice (some ⟨0, 0, none⟩) (ps.length) (ps.length)]⟩, some ⟨.box, .vals [.int .i64 ((↑j : Int))]⟩, some ⟨.box, .vals [.int .i64 ((ps.getD j (0, 0)).1), .int .i64 ((ps.getD j (0, 0)).2), .int .i64 ((nxP ps j).1), .int .i64 ((nxP ps j).2)]⟩, some ⟨.view, .vals [.slice (some ⟨0, 0, none⟩) (ps.length) (ps.length)]⟩]⟩)))) := by kernel_rfl
/-- A round of this loop. -/
def Round_isI (ps : List Pt) (j : Nat) : Prop := ∀ i : Nat, g_isI ps j i → i < (ps).length → (bodyR Try.prog EIs 30 12 noL noR (asgOf gc_isI) (bodOf gc_isI) ([27, 28].zip (encE ps i)) k_isI 7 (s_isI ps j i)).ok (RoundEndR 7 (s_isI ps j) (g_isI ps j) (re_isI ps j) (rs_isI ps j) i) (fun _ _ => False)
set_option maxRecDepth 100000 in
theorem gcode_isI : gc_isI = .rangeFunc (.tmp 26) ([27, 28] : List Nat).toArray (asgOf gc_isI) (bodOf gc_isI) := by kernel_rfl
def e_isI (s : St) (k : Ex → St → Tree) : Option Tree := match Nat.beq s.tmps.length 52, pickL s.tmps [1, 2, 3, 4, 26], s.mem with
  | true, [.pointer (some ⟨1, 0, none⟩), .pointer (some ⟨2, 0, none⟩), .pointer (some ⟨4, 0, none⟩), .pointer (some ⟨5, 0, none⟩), .func (.func 131) ⟨[]⟩ ⟨[.pointer (some ⟨6, 0, none⟩)]⟩], [some ⟨.view, .ints xs⟩, some ⟨.box, .vals [.slice (some ⟨0, 0, none⟩) n _]⟩, some ⟨.box, .vals [.bool false]⟩, some ⟨.view, .vals [.slice (some ⟨0, 0, none⟩) n1 _]⟩, some ⟨.box, .vals [.int .i64 jj]⟩, some ⟨.box, .vals [.int .i64 a, .int .i64 b, .int .i64 c, .int .i64 d]⟩, some ⟨.box, .vals [.slice (some ⟨0, 0, none⟩) n2 _]⟩] => some (needs [n1 = n, n2 = n, 0 ≤ jj, xs.length = n * 2, n ≤ 20, jj < n, a = ((ptsA n xs).getD jj.toNat (0, 0)).1 ∧ b = ((ptsA n xs).getD jj.toNat (0, 0)).2 ∧ c = (nxP (ptsA n xs) jj.toNat).1 ∧ d = (nxP (ptsA n xs) jj.toNat).2] (brT (rowQ (ptsA n xs) jj.toNat) (k .normal ⟨(topV :: topV :: .pointer (some ⟨2, 0, none⟩) :: topV :: topV :: topV :: topV :: topV :: topV :: topV :: topV :: topV :: topV :: topV :: topV :: topV :: topV :: topV :: topV :: topV :: topV :: topV :: topV :: topV :: topV :: topV :: topV :: topV :: topV :: topV :: topV :: topV :: topV :: topV :: topV :: topV :: topV :: topV :: topV :: topV :: topV :: topV :: topV :: topV :: topV :: topV :: topV :: topV :: topV :: topV :: topV :: topV :: []), [some ⟨.view, .ints xs⟩, some ⟨.box, .vals [.slice (some ⟨0, 0, none⟩) n n]⟩, some ⟨.box, .vals [.bool false]⟩, some ⟨.view, .vals [.slice (some ⟨0, 0, none⟩) n n]⟩, some ⟨.box, .vals [.int .i64 jj]⟩, some ⟨.box, .vals [.int .i64 a, .int .i64 b, .int .i64 c, .int .i64 d]⟩, some ⟨.view, .vals [.slice (some ⟨0, 0, none⟩) n n]⟩]⟩) (k .ret ⟨(topV :: topV :: .pointer (some ⟨2, 0, none⟩) :: topV :: topV :: topV :: topV :: topV :: topV :: topV :: topV :: topV :: topV :: topV :: topV :: topV :: topV :: topV :: topV :: topV :: topV :: topV :: topV :: topV :: topV :: topV :: topV :: topV :: topV :: topV :: topV :: topV :: topV :: topV :: topV :: topV :: topV :: topV :: topV :: topV :: topV :: topV :: topV :: topV :: topV :: topV :: topV :: topV :: topV :: topV :: topV :: topV :: []), [some ⟨.view, .ints xs⟩, some ⟨.box, .vals [.slice (some ⟨0, 0, none⟩) n n]⟩, some ⟨.box, .vals [.bool false]⟩, some ⟨.view, .vals [.slice (some ⟨0, 0, none⟩) n n]⟩, some ⟨.box, .vals [.int .i64 jj]⟩, some ⟨.box, .vals [.int .i64 a, .int .i64 b, .int .i64 c, .int .i64 d]⟩, some ⟨.view, .vals [.slice (some ⟨0, 0, none⟩) n n]⟩]⟩)))
  | _, _, _ => none
set_option maxRecDepth 100000 in
theorem round_isI (ps : List Pt) (j : Nat) (h : ps.length ≤ 20) (hj : j < ps.length) : Round_isI ps j := by
  rintro i ⟨_, hg⟩ hi
  rw [tr_isI]
  have e1 : IntKind.i64.wrap ((j : Int) + 1) = (j : Int) + 1 := by rw [wsucc hj (by omega)]; omega
  have c1 : ((i : Int) == (j : Int) + 1) = decide (i = j + 1) := by rw [Bool.eq_iff_iff]; simp; omega
  have c2 : decide ((j : Int) < (i : Int)) = decide (j < i) := decide_eq_decide.2 (by omega)
  have c3 : ((((i + 1) % ps.length : Nat) : Int) == (j : Int)) = decide ((i + 1) % ps.length = j) := by
    generalize (i + 1) % ps.length = m
    rw [Bool.eq_iff_iff]
    simp
    omega
  have hR : relV (ps.getD j (0, 0)).1 (ps.getD j (0, 0)).2 (nxP ps j).1 (nxP ps j).2 (ps.getD i (0, 0)).1 (ps.getD i (0, 0)).2 (ps.getD ((i + 1) % ps.length) (0, 0)).1 (ps.getD ((i + 1) % ps.length) (0, 0)).2 = edR ps j i := rfl
  have nxt : okE ps j i = true → g_isI ps j (i + 1) := fun ho => ⟨by omega, fun k hk => by
    rcases Nat.lt_or_ge k i with h1 | h1
    · exact hg k h1
    · obtain rfl : k = i := by omega
      exact ho⟩
  have stp : okE ps j i = false → rowQ ps j = false := allQ_no hi
  have n0 : ¬ (ps.length : Int) = 0 := by omega
  simp only [e1, c1, c2, c3, hR, nx_mod hi (by omega)]
  rcases q1 : decide (i = j + 1) with _ | _ <;> rcases q2 : decide (j < i) with _ | _ <;> rcases q3 : decide ((i + 1) % ps.length = j) with _ | _ <;> rcases q4 : (edR ps j i == 1) with _ | _ <;> rcases q5 : (edR ps j i == 0) with _ | _
  all_goals
    simp only [brT_t, brT_f, Bool.not_true, Bool.not_false, Tree.ok, RoundEndR]
    try refine ⟨n0, ?_⟩
    first
      | (have ho : okE ps j i = true := by unfold okE nbQ; rw [q1, q2, q3]; simp [q4, q5]
         refine ⟨nxt ho, [], ?_⟩
         refine ⟨rfl, rfl, ?_, ?_⟩ <;> repeat' (first | exact True.intro | exact rfl | exact wv_top _ _ | exact fun _ => rfl | refine And.intro ?_ ?_))
      | (have ho : okE ps j i = false := by unfold okE nbQ; rw [q1, q2, q3]; simp [q4, q5]
         have hq := stp ho
         refine ⟨by unfold re_isI; rw [hq]; rfl, [], ?_⟩
         unfold rs_isI
         rw [hq]
         refine ⟨rfl, rfl, ?_, ?_⟩ <;> repeat' (first | exact True.intro | exact rfl | exact wv_top _ _ | exact fun _ => rfl | refine And.intro ?_ ?_))
set_option maxRecDepth 100000 in
theorem lg_isI : RangeE Try.prog e_isI gc_isI := by
  intro s k t F H hlt ht
  unfold e_isI at hlt
  split at hlt
  rotate_left
  · cases hlt
  rename_i hlen hpick hmem
  obtain ⟨tmps, mem⟩ := s
  simp only at hlen hpick hmem
  subst hmem
  obtain rfl := Option.some.inj hlt
  obtain ⟨⟨rfl, rfl, h4, h1, h3, h5, h6, _⟩, ht2⟩ := needs_ok ht
  clear ht hlt
  obtain ⟨ps, rfl, rfl⟩ := even_flat h1
  obtain ⟨j, rfl⟩ := Int.eq_ofNat_of_zero_le h4
  rw [ptsA_flat] at ht2 h6
  simp only [Int.toNat_natCast] at ht2 h6
  obtain ⟨rfl, rfl, rfl, rfl⟩ := h6
  refine ⟨re_isI ps j, rs_isI ps j, pick2k ht2, ?_⟩
  rw [gcode_isI]
  refine range_det (enc := encE ps) (len := (ps).length) (St_of := s_isI ps j) (Good := g_isI ps j) (N := 7) (M := 7) (Kn := [0, 6]) (cap := [.pointer (some ⟨6, 0, none⟩)]) (kf := (k_isI .normal)) (π := []) (fun _ => rfl) (fun _ => rfl) (fun i hg hlt => bodyR_ok mixed EIs_ok (noL_good) (noR_good) (round_isI ps j h3 (by omega) i hg hlt)) (entersB_res (by kernel_rfl)).1 rfl ?_ (fun ρ0 ρ B w lb h1 h2 => ed_iter ps (by omega) (s := (s_isI ps j 0).fs) (nb := 6) (nr := 0) (c := (ps).length) (Kn := [0, 6]) rfl rfl (by decide) (by decide) ρ0 ρ B w lb h1 h2) ?_ rfl (by decide) ?_ ⟨Nat.zero_le _, fun k hk => by omega⟩
  · intro n hn b hb
    simp only [List.mem_cons, List.not_mem_nil, or_false] at hn
    rcases hn with rfl | rfl <;> (obtain rfl := Option.some.inj hb; rfl)
  · rintro ⟨_, hg⟩
    have hq : rowQ ps j = true := allQ_all _ _ fun k _ h2 => hg k (by omega)
    refine ⟨by unfold re_isI; rw [hq]; rfl, [], ?_⟩
    unfold rs_isI
    rw [hq]
    refine ⟨rfl, rfl, ?_, ?_⟩ <;> repeat' (first | exact True.intro | exact rfl | exact wv_top _ _ | exact fun _ => rfl | refine And.intro ?_ ?_)
  · refine ⟨rfl, rfl, ?_, wvs_spread' [1, 2, 3, 4, 26] hlen rfl ?_⟩
    · repeat' (first | exact True.intro | exact rfl | exact wv_top _ _ | exact fun _ => rfl | assumption | exact Eq.symm (by assumption) | exact vI0 rfl | refine And.intro ?_ ?_)
    · rw [show pickL (viewS [0, 6] ⟨tmps, _⟩).tmps [1, 2, 3, 4, 26] = pickL tmps [1, 2, 3, 4, 26] from rfl, hpick]
      repeat' (first | exact True.intro | exact rfl | exact wv_top _ _ | exact fun _ => rfl | assumption | exact Eq.symm (by assumption) | exact vI0 rfl | refine And.intro ?_ ?_)
noncomputable def gc_isO : Code := gcIss
def k_isO : Ex → List Nat := keeps [1, 2, 22] [] [2]
def s_isO (ps : List Pt) : Nat → St := fun i => ⟨(topV :: .pointer (some ⟨1, 0, none⟩) :: .pointer (some ⟨2, 0, none⟩) :: topV :: topV :: topV :: topV :: topV :: topV :: topV :: topV :: topV :: topV :: topV :: topV :: topV :: topV :: topV :: topV :: topV :: topV :: topV :: .func (.func 131) #[] #[.pointer (some ⟨3, 0, none⟩)] :: topV :: topV :: topV :: topV :: topV :: topV :: topV :: topV :: topV :: topV :: topV :: topV :: topV :: topV :: topV :: topV :: topV :: topV :: topV :: topV :: topV :: topV :: topV :: topV :: topV :: topV :: topV :: topV :: topV :: []), [some ⟨.view, .ints (flat ps)⟩, some ⟨.box, .vals [.slice (some ⟨0, 0, none⟩) ps.length ps.length]⟩, some ⟨.box, .vals [.bool false]⟩, some ⟨.view, .vals [.slice (some ⟨0, 0, none⟩) ps.length ps.length]⟩]⟩
def g_isO (ps : List Pt) : Nat → Prop := fun i => i ≤ ps.length ∧ ∀ k, k < i → rowQ ps k = true
def re_isO (ps : List Pt) : Ex := bif simQ ps then .normal else .ret
def rs_isO (ps : List Pt) : St := bif simQ ps then ⟨(topV :: topV :: .pointer (some ⟨2, 0, none⟩) :: topV :: topV :: topV :: topV :: topV :: topV :: topV :: topV :: topV :: topV :: topV :: topV :: topV :: topV :: topV :: topV :: topV :: topV :: topV :: topV :: topV :: topV :: topV :: topV :: topV :: topV :: topV :: topV :: topV :: topV :: topV :: topV :: topV :: topV :: topV :: topV :: topV :: topV :: topV :: topV :: topV :: topV :: topV :: topV :: topV :: topV :: topV :: topV :: topV :: []), [some ⟨.view, .ints (flat ps)⟩, some ⟨.box, .vals [.slice (some ⟨0, 0, none⟩) ps.length ps.length]⟩, some ⟨.box, .vals [.bool false]⟩, some ⟨.view, .vals [.slice (some ⟨0, 0, none⟩) ps.length ps.length]⟩]⟩ else ⟨(topV :: topV :: .pointer (some ⟨2, 0, none⟩) :: topV :: topV :: topV :: topV :: topV :: topV :: topV :: topV :: topV :: topV :: topV :: topV :: topV :: topV :: topV :: topV :: topV :: topV :: topV :: topV :: topV :: topV :: topV :: topV :: topV :: topV :: topV :: topV :: topV :: topV :: topV :: topV :: topV :: topV :: topV :: topV :: topV :: topV :: topV :: topV :: topV :: topV :: topV :: topV :: topV :: topV :: topV :: topV :: topV :: []), [some ⟨.view, .ints (flat ps)⟩, some ⟨.box, .vals [.slice (some ⟨0, 0, none⟩) ps.length ps.length]⟩, some ⟨.box, .vals [.bool false]⟩, some ⟨.view, .vals [.slice (some ⟨0, 0, none⟩) ps.length ps.length]⟩]⟩
set_option maxRecDepth 100000 in
theorem tr_isO (ps : List Pt) (i : Nat) : bodyR Try.prog EIs 30 12 noL (rt1 26 e_isI) (asgOf gc_isO) (bodOf gc_isO) ([23, 24].zip (encE ps i)) k_isO 4 (s_isO ps i) = .need (ps.length = ps.length) (.need (ps.length = ps.length) (.need ((0 : Int) ≤ (↑i : Int)) (.need ((flat ps).length = ps.length * (2 : Nat)) (.need (ps.length ≤ (20 : Nat)) (.need ((↑i : Int) < (↑ps.length : Int)) (.need ((ps.getD i ((0 : Int), (0 : Int))).1 = ((ptsA ps.length (flat ps)).getD (↑i : Int).toNat ((0 : Int), (0 : Int))).1 ∧ (ps.getD i ((0 : Int), (0 : Int))).2 = ((ptsA ps.length (flat ps)).getD (↑i : Int).toNat ((0 : Int), (0 : Int))).2 ∧ (ps.getD ((i + (1 : Nat)) % ps.length) ((0 : Int), (0 : Int))).1 = (nxP (ptsA ps.length (flat ps)) (↑i : Int).toNat).1 ∧ (ps.getD ((i + (1 : Nat)) % ps.length) ((0 : Int), (0 : Int))).2 = (nxP (ptsA ps.length (flat ps)) (↑i : Int).toNat).2) (brT (rowQ (ptsA ps.length (flat ps)) (↑i : Int).toNat) (.leaf .normal ⟨(topV :: .pointer (some ⟨1, 0, none⟩) :: .pointer (some ⟨2, 0, none⟩) :: topV :: topV :: topV :: topV :: topV :: topV :: topV :: topV :: topV :: topV :: topV :: topV :: topV :: topV :: topV :: topV :: topV :: topV :: topV :: .func (Fn.func 131) #[] #[.pointer (some ⟨3, 0, none⟩)] :: topV :: topV :: topV :: topV :: topV :: topV :: topV :: topV :: topV :: topV :: topV :: topV :: topV :: topV :: topV :: topV :: topV :: topV :: topV :: topV :: topV :: topV :: topV :: topV :: topV :: topV :: topV :: topV :: topV :: []), [some ⟨.view, .ints (flat ps)⟩, some ⟨.box, .vals [.slice (some ⟨0, 0, none⟩) (ps.length) (ps.length)]⟩, some ⟨.box, .vals [.bool (false)]⟩, some ⟨.view, .vals [.slice (some ⟨0, 0, none⟩) (ps.length) (ps.length)]⟩]⟩) (.leaf .ret ⟨(topV :: topV :: .pointer (some ⟨2, 0, none⟩) :: topV :: topV :: topV :: topV :: topV :: topV :: topV :: topV :: topV :: topV :: topV :: topV :: topV :: topV :: topV :: topV :: topV :: topV :: topV :: topV :: topV :: topV :: topV :: topV :: topV :: topV :: topV :: topV :: topV :: topV :: topV :: topV :: topV :: topV :: topV :: topV :: topV :: topV :: topV :: topV :: topV :: topV :: topV :: topV :: topV :: topV :: topV :: topV :: topV :: []), [some ⟨.view, .ints (flat ps)⟩, some ⟨.box, .vals [.slice (some ⟨0, 0, none⟩) (ps.length) (ps.length)]⟩, some ⟨.box, .vals [.bool (false)]⟩, some ⟨.view, .vals [.slice (some ⟨0, 0, none⟩) (ps.length) (ps.length)]⟩]⟩)))))))) := by kernel_rfl
/-- A round of this loop. -/
def Round_isO (ps : List Pt) : Prop := ∀ i : Nat, g_isO ps i → i < (ps).length → (bodyR Try.prog EIs 30 12 noL (rt1 26 e_isI) (asgOf gc_isO) (bodOf gc_isO) ([23, 24].zip (encE ps i)) k_isO 4 (s_isO ps i)).ok (RoundEndR 4 (s_isO ps) (g_isO ps) (re_isO ps) (rs_isO ps) i) (fun _ _ => False)
set_option maxRecDepth 100000 in
theorem gcode_isO : gc_isO = .rangeFunc (.tmp 22) ([23, 24] : List Nat).toArray (asgOf gc_isO) (bodOf gc_isO) := by kernel_rfl
def e_isO (s : St) (k : Ex → St → Tree) : Option Tree := match Nat.beq s.tmps.length 52, pickL s.tmps [1, 2, 22], s.mem with
  | true, [.pointer (some ⟨1, 0, none⟩), .pointer (some ⟨2, 0, none⟩), .func (.func 131) ⟨[]⟩ ⟨[.pointer (some ⟨3, 0, none⟩)]⟩], [some ⟨.view, .ints xs⟩, some ⟨.box, .vals [.slice (some ⟨0, 0, none⟩) n _]⟩, some ⟨.box, .vals [.bool false]⟩, some ⟨.box, .vals [.slice (some ⟨0, 0, none⟩) n1 _]⟩] => some (needs [n1 = n, xs.length = n * 2, n ≤ 20] (brT (simQ (ptsA n xs)) (k .normal ⟨(topV :: topV :: .pointer (some ⟨2, 0, none⟩) :: topV :: topV :: topV :: topV :: topV :: topV :: topV :: topV :: topV :: topV :: topV :: topV :: topV :: topV :: topV :: topV :: topV :: topV :: topV :: topV :: topV :: topV :: topV :: topV :: topV :: topV :: topV :: topV :: topV :: topV :: topV :: topV :: topV :: topV :: topV :: topV :: topV :: topV :: topV :: topV :: topV :: topV :: topV :: topV :: topV :: topV :: topV :: topV :: topV :: []), [some ⟨.view, .ints xs⟩, some ⟨.box, .vals [.slice (some ⟨0, 0, none⟩) n n]⟩, some ⟨.box, .vals [.bool false]⟩, some ⟨.view, .vals [.slice (some ⟨0, 0, none⟩) n n]⟩]⟩) (k .ret ⟨(topV :: topV :: .pointer (some ⟨2, 0, none⟩) :: topV :: topV :: topV :: topV :: topV :: topV :: topV :: topV :: topV :: topV :: topV :: topV :: topV :: topV :: topV :: topV :: topV :: topV :: topV :: topV :: topV :: topV :: topV :: topV :: topV :: topV :: topV :: topV :: topV :: topV :: topV :: topV :: topV :: topV :: topV :: topV :: topV :: topV :: topV :: topV :: topV :: topV :: topV :: topV :: topV :: topV :: topV :: topV :: topV :: []), [some ⟨.view, .ints xs⟩, some ⟨.box, .vals [.slice (some ⟨0, 0, none⟩) n n]⟩, some ⟨.box, .vals [.bool false]⟩, some ⟨.view, .vals [.slice (some ⟨0, 0, none⟩) n n]⟩]⟩)))
  | _, _, _ => none
set_option maxRecDepth 100000 in
theorem round_isO (ps : List Pt) (h : ps.length ≤ 20) : Round_isO ps := by
  rintro i ⟨_, hg⟩ hi
  rw [tr_isO]
  simp only [ptsA_flat, Int.toNat_natCast]
  refine ⟨by first | exact True.intro | rfl, by first | exact True.intro | rfl, by omega, flat_length ps, h, by omega, ⟨by first | exact True.intro | rfl, by first | exact True.intro | rfl, rfl, rfl⟩, ?_⟩
  refine brT_ok.2 ⟨fun hq => ?_, fun hq => ?_⟩
  · refine ⟨⟨by omega, fun k hk => ?_⟩, [], ?_⟩
    · rcases Nat.lt_or_ge k i with h1 | h1
      · exact hg k h1
      · obtain rfl : k = i := by omega
        exact hq
    · refine ⟨rfl, rfl, ?_, ?_⟩ <;> repeat' (first | exact True.intro | exact rfl | exact wv_top _ _ | exact fun _ => rfl | refine And.intro ?_ ?_)
  · have hs : simQ ps = false := allQ_no hi hq
    refine ⟨by unfold re_isO; rw [hs]; rfl, [], ?_⟩
    unfold rs_isO
    rw [hs]
    refine ⟨rfl, rfl, ?_, ?_⟩ <;> repeat' (first | exact True.intro | exact rfl | exact wv_top _ _ | exact fun _ => rfl | refine And.intro ?_ ?_)
set_option maxRecDepth 100000 in
theorem lg_isO : RangeE Try.prog e_isO gc_isO := by
  intro s k t F H hlt ht
  unfold e_isO at hlt
  split at hlt
  rotate_left
  · cases hlt
  rename_i hlen hpick hmem
  obtain ⟨tmps, mem⟩ := s
  simp only at hlen hpick hmem
  subst hmem
  obtain rfl := Option.some.inj hlt
  obtain ⟨⟨rfl, h1, h3, _⟩, ht2⟩ := needs_ok ht
  clear ht hlt
  obtain ⟨ps, rfl, rfl⟩ := even_flat h1
  rw [ptsA_flat] at ht2
  refine ⟨re_isO ps, rs_isO ps, pick2k ht2, ?_⟩
  rw [gcode_isO]
  refine range_det (enc := encE ps) (len := (ps).length) (St_of := s_isO ps) (Good := g_isO ps) (N := 4) (M := 4) (Kn := [0, 3]) (cap := [.pointer (some ⟨3, 0, none⟩)]) (kf := (k_isO .normal)) (π := []) (fun _ => rfl) (fun _ => rfl) (fun i hg hlt => bodyR_ok mixed EIs_ok (noL_good) (rt1_good (by kernel_rfl) lg_isI) (round_isO ps h3 i hg hlt)) (entersB_res (by kernel_rfl)).1 rfl ?_ (fun ρ0 ρ B w lb h1 h2 => ed_iter ps (by omega) (s := (s_isO ps 0).fs) (nb := 3) (nr := 0) (c := (ps).length) (Kn := [0, 3]) rfl rfl (by decide) (by decide) ρ0 ρ B w lb h1 h2) ?_ rfl (by decide) ?_ ⟨Nat.zero_le _, fun k hk => by omega⟩
  · intro n hn b hb
    simp only [List.mem_cons, List.not_mem_nil, or_false] at hn
    rcases hn with rfl | rfl <;> (obtain rfl := Option.some.inj hb; rfl)
  · rintro ⟨_, hg⟩
    have hq : simQ ps = true := allQ_all _ _ fun k _ h2 => hg k (by omega)
    refine ⟨by unfold re_isO; rw [hq]; rfl, [], ?_⟩
    unfold rs_isO
    rw [hq]
    refine ⟨rfl, rfl, ?_, ?_⟩ <;> repeat' (first | exact True.intro | exact rfl | exact wv_top _ _ | exact fun _ => rfl | refine And.intro ?_ ?_)
  · refine ⟨rfl, rfl, ?_, wvs_spread' [1, 2, 22] hlen rfl ?_⟩
    · repeat' (first | exact True.intro | exact rfl | exact wv_top _ _ | exact fun _ => rfl | assumption | exact Eq.symm (by assumption) | exact vI0 rfl | refine And.intro ?_ ?_)
    · rw [show pickL (viewS [0, 3] ⟨tmps, _⟩).tmps [1, 2, 22] = pickL tmps [1, 2, 22] from rfl, hpick]
      repeat' (first | exact True.intro | exact rfl | exact wv_top _ _ | exact fun _ => rfl | assumption | exact Eq.symm (by assumption) | exact vI0 rfl | refine And.intro ?_ ?_)
theorem Gr_isO {fn : Func} (hf : Try.prog.funcs[78]? = some fn) : RangesGood Try.prog (rt1 22 e_isO) (codeOf fn) := by
  obtain rfl := fn_is Try.func78 hf
  exact rt1_good (by kernel_rfl) lg_isO
def GIs : FuncId → RT := fun f => match f with
  | 78 => rt1 22 e_isO
  | _ => noR
def EIo : Env := withG EIs GIs
theorem EIo_ok : EnvOk Try.prog EIo := withG_ok EIs_ok (by
  intro f fn hf
  unfold GIs
  split
  all_goals first | with_reducible exact Gr_isO hf | exact noR_good)
set_option maxRecDepth 100000 in
theorem tr_iIss (ps : List Pt) : bodyV Try.prog EIo 30 12 78 [.row ps.length (.ints (flat ps))] = brT (decide ((↑ps.length : Int) < 3)) (.fin (.bool (false)) []) (brT (decide (20 < (↑ps.length : Int))) (.fin (.bool (false)) []) (brT (decide ((↑ps.length : Int) ≤ 20)) (.need (ps.length * (2 : Nat) ≤ (List.drop (0 : Nat) (flat ps)).length) (.need (ps.length ≤ (1000000000 : Nat)) (brT (!allV (ptsA ps.length (List.drop 0 (flat ps)))) (.fin (.bool (false)) []) (.need (ps.length = ps.length) (.need ((flat ps).length = ps.length * (2 : Nat)) (.need (ps.length ≤ (20 : Nat)) (brT (simQ (ptsA ps.length (flat ps))) (.fin (.bool (true)) []) (.fin (.bool (false)) [])))))))) (.fin (.bool (false)) []))) := by kernel_rfl
/-- Is a polygon simple, as the program finds it? -/
def issI (ps : List Pt) : Bool := decide (3 ≤ ps.length) && okL ps && simQ ps
theorem res_iIss (ps : List Pt) (h : Big ps) : Res Try.prog 78 [.row ps.length (.ints (flat ps))] (.bool (issI ps)) := by
  refine bodyV_res mixed EIo_ok (m := 30) (n := 12) rfl ?_
  rw [tr_iIss]
  unfold Big at h
  simp only [List.drop_zero, ptsA_flat, flat_length]
  unfold issI okL
  by_cases h1 : 3 ≤ ps.length
  · by_cases h2 : ps.length ≤ 20
    · have a1 : ¬ (ps.length : Int) < 3 := by omega
      have a2 : ¬ (20 : Int) < ps.length := by omega
      have a3 : (ps.length : Int) ≤ 20 := by omega
      rcases hv : allV ps with _ | _ <;> rcases hs : simQ ps with _ | _ <;> simp [brT_ok, Tree.ok, h1, h2, a1, a2, a3, h]
    · have a1 : ¬ (ps.length : Int) < 3 := by omega
      have a2 : (20 : Int) < ps.length := by omega
      simp [brT_ok, Tree.ok, h2, a1, a2]
  · have a1 : (ps.length : Int) < 3 := by omega
    simp [brT_ok, Tree.ok, h1, a1]
end Go.Proofs.Ytnjmepbblcfnfaa
namespace Go.Proofs.Ytnjmepbblcfnfaa
set_option linter.all false
open Go.RowKit
def TIt : Tab := fun f ds => match f with
  | f => TIs f ds
theorem TIt_ok : TabOk Try.prog TIt := by
  intro f ds v C h hC
  unfold TIt at h
  (try split at h)
  all_goals first | with_reducible exact pRng_ok h hC | exact TIs_ok _ _ _ _ h hC
def edX (ps : List Pt) (i k : Nat) : Int := relA (ps.getD i (0, 0)).1 (ps.getD i (0, 0)).2 (nxP ps i).1 (nxP ps i).2 (ps.getD k (0, 0)).1 (ps.getD k (0, 0)).2 (nxP ps k).1 (nxP ps k).2
theorem pt_get {ps : List Pt} (h : allV ps = true) {j : Nat} (hj : j < ps.length) : ptB (ps.getD j (0, 0)).1 (ps.getD j (0, 0)).2 = true := List.all_eq_true.1 h (ps.getD j (0, 0)) (by simp [hj])
/-- Is an edge a segment? -/
def sgQ (ps : List Pt) (i : Nat) : Bool := segB (ps.getD i (0, 0)).1 (ps.getD i (0, 0)).2 (nxP ps i).1 (nxP ps i).2
theorem edR_is (ps : List Pt) (i k : Nat) : edR ps i k = bif sgQ ps i && sgQ ps k then edX ps i k else -1 := rfl
theorem sgQ_iff {ps : List Pt} (h : allV ps = true) {i : Nat} (hi : i < ps.length) : sgQ ps i = true ↔ ps.getD i (0, 0) ≠ nxP ps i := by
  unfold sgQ segB
  have h1 := pt_get h hi
  have h2 : ptB (nxP ps i).1 (nxP ps i).2 = true := pt_get h (nx_lt hi)
  rw [h1, h2]
  simp only [eqB, Bool.true_and, Bool.not_eq_true', ne_eq]
  generalize ps.getD i (0, 0) = p
  generalize nxP ps i = q
  obtain ⟨a, b⟩ := p
  obtain ⟨c, d⟩ := q
  simp
def pIss : List DArg → Option (Value × List Prop)
  | [.row m (.ints xs)] => some (.bool (issI (ptsA m xs)), [m * 2 ≤ xs.length, m ≤ 1000000000])
  | _ => none
theorem pIss_i {ds : List DArg} {v : Value} {C : List Prop} (h : pIss ds = some (v, C)) (hC : AllP C) : Res Try.prog 78 ds v := by
  unfold pIss at h
  split at h
  · rename_i m xs
    obtain ⟨rfl, rfl⟩ : _ ∧ _ := by simpa using h
    obtain ⟨_, h2⟩ := ptsA_spec hC.1
    exact res_pts1 (pre := []) (post := []) hC.1 (res_iIss (ptsA m xs) (by unfold Big; rw [h2]; exact hC.2.1))
  · cases h
def TSm : Tab := fun f ds => match f with
  | 78 => pIss ds
  | f => TIt f ds
theorem TSm_ok : TabOk Try.prog TSm := by
  intro f ds v C h hC
  unfold TSm at h
  (try split at h)
  all_goals first | with_reducible exact pIss_i h hC | with_reducible exact pIss_s h hC | exact TIt_ok _ _ _ _ h hC
end Go.Proofs.Ytnjmepbblcfnfaa
namespace Go.Proofs.Ytnjmepbblcfnfaa
set_option linter.all false
open Go.RowKit
/-- The vertex after the next. -/
def nx2 (ps : List Pt) (j : Nat) : Pt := ps.getD ((j + 2) % ps.length) (0, 0)
/-- Does the path turn left after an edge? -/
def cvE (ps : List Pt) (j : Nat) : Bool := decide (0 < crossI (ps.getD j (0, 0)).1 (ps.getD j (0, 0)).2 (nxP ps j).1 (nxP ps j).2 (nx2 ps j).1 (nx2 ps j).2)
def cvA (ps : List Pt) : Bool := allQ (cvE ps) 0 ps.length
def cvxI (ps : List Pt) : Bool := issI ps && cvA ps
def ECv : Env := mkE TSm R4 (fun _ => noL)
theorem ECv_ok : EnvOk Try.prog ECv := mkEOk TSm_ok R4_ok (fun _ _ _ => noL_good)
noncomputable def gc_cvx : Code := (rangesOf (codeOf Try.f22)).getD 0 .skip
def k_cvx : Ex → List Nat := keeps [1, 2, 9] [] [2]
def s_cvx (ps : List Pt) : Nat → St := fun i => ⟨[topV, .pointer (some ⟨1, 0, none⟩), .pointer (some ⟨2, 0, none⟩), topV, topV, topV, topV, topV, topV, .func (.func 131) #[] #[.pointer (some ⟨3, 0, none⟩)], topV, topV, topV, topV, topV, topV, topV, topV, topV, topV, topV, topV, topV, topV, topV, topV], [some ⟨.view, .ints (flat ps)⟩, some ⟨.box, .vals [.slice (some ⟨0, 0, none⟩) ps.length ps.length]⟩, some ⟨.box, .vals [.bool false]⟩, some ⟨.view, .vals [.slice (some ⟨0, 0, none⟩) ps.length ps.length]⟩]⟩
def g_cvx (ps : List Pt) : Nat → Prop := fun i => i ≤ ps.length ∧ ∀ k, k < i → cvE ps k = true
def re_cvx (ps : List Pt) : Ex := bif cvA ps then .normal else .ret
def rs_cvx (ps : List Pt) : St := bif cvA ps then ⟨[topV, topV, .pointer (some ⟨2, 0, none⟩), topV, topV, topV, topV, topV, topV, topV, topV, topV, topV, topV, topV, topV, topV, topV, topV, topV, topV, topV, topV, topV, topV, topV], [some ⟨.view, .ints (flat ps)⟩, some ⟨.box, .vals [.slice (some ⟨0, 0, none⟩) ps.length ps.length]⟩, some ⟨.box, .vals [.bool false]⟩, some ⟨.view, .vals [.slice (some ⟨0, 0, none⟩) ps.length ps.length]⟩]⟩ else ⟨[topV, topV, .pointer (some ⟨2, 0, none⟩), topV, topV, topV, topV, topV, topV, topV, topV, topV, topV, topV, topV, topV, topV, topV, topV, topV, topV, topV, topV, topV, topV, topV], [some ⟨.view, .ints (flat ps)⟩, some ⟨.box, .vals [.slice (some ⟨0, 0, none⟩) ps.length ps.length]⟩, some ⟨.box, .vals [.bool false]⟩, some ⟨.view, .vals [.slice (some ⟨0, 0, none⟩) ps.length ps.length]⟩]⟩
set_option maxRecDepth 100000 in
theorem tr_cvx (ps : List Pt) (i : Nat) : bodyR Try.prog ECv 30 12 noL noR (asgOf gc_cvx) (bodOf gc_cvx) ([10, 11].zip (encE ps i)) k_cvx 4 (s_cvx ps i) = .need (ptB (ps.getD i ((0 : Int), (0 : Int))).1 (ps.getD i ((0 : Int), (0 : Int))).2 = true) (.need (ptB (ps.getD ((i + (1 : Nat)) % ps.length) ((0 : Int), (0 : Int))).1 (ps.getD ((i + (1 : Nat)) % ps.length) ((0 : Int), (0 : Int))).2 = true) (.need (ptB ((flat ps).getD ((0 : Nat) + ((IntKind.i64.wrap ((↑i : Int) + (2 : Int))).tmod (↑ps.length : Int)).toNat * (2 : Nat)) (0 : Int)) ((flat ps).getD ((0 : Nat) + ((IntKind.i64.wrap ((↑i : Int) + (2 : Int))).tmod (↑ps.length : Int)).toNat * (2 : Nat) + (1 : Nat)) (0 : Int)) = true) (.need (¬(↑ps.length : Int) = (0 : Int)) (.need ((0 : Int) ≤ (IntKind.i64.wrap ((↑i : Int) + (2 : Int))).tmod (↑ps.length : Int) ∧ (IntKind.i64.wrap ((↑i : Int) + (2 : Int))).tmod (↑ps.length : Int) < (↑ps.length : Int)) (.need ((0 : Nat) + ((IntKind.i64.wrap ((↑i : Int) + (2 : Int))).tmod (↑ps.length : Int)).toNat * (2 : Nat) + (2 : Nat) ≤ (flat ps).length) (brT (decide (crossI (ps.getD i (0, 0)).1 (ps.getD i (0, 0)).2 (ps.getD ((i + 1) % ps.length) (0, 0)).1 (ps.getD ((i + 1) % ps.length) (0, 0)).2 ((flat ps).getD (0 + ((IntKind.i64.wrap ((↑i : Int) + 2)).tmod (↑ps.length : Int)).toNat * 2) 0) ((flat ps).getD (0 + ((IntKind.i64.wrap ((↑i : Int) + 2)).tmod (↑ps.length : Int)).toNat * 2 + 1) 0) ≤ 0)) (.leaf .ret ⟨[topV, topV, .pointer (some ⟨2, 0, none⟩), topV, topV, topV, topV, topV, topV, topV, topV, topV, topV, topV, topV, topV, topV, topV, topV, topV, topV, topV, topV, topV, topV, topV], [some ⟨.view, .ints (flat ps)⟩, some ⟨.box, .vals [.slice (some ⟨0, 0, none⟩) (ps.length) (ps.length)]⟩, some ⟨.box, .vals [.bool (false)]⟩, some ⟨.view, .vals [.slice (some ⟨0, 0, none⟩) (ps.length) (ps.length)]⟩]⟩) (.leaf .normal ⟨[topV, .pointer (some ⟨1, 0, none⟩), .pointer (some ⟨2, 0, none⟩), topV, topV, topV, topV, topV, topV, .func (Fn.func 131) #[] #[.pointer (some ⟨3, 0, none⟩)], topV, topV, topV, topV, topV, topV, topV, topV, topV, topV, topV, topV, topV, topV, topV, topV], [some ⟨.view, .ints (flat ps)⟩, some ⟨.box, .vals [.slice (some ⟨0, 0, none⟩) (ps.length) (ps.length)]⟩, some ⟨.box, .vals [.bool (false)]⟩, some ⟨.view, .vals [.slice (some ⟨0, 0, none⟩) (ps.length) (ps.length)]⟩]⟩))))))) := by kernel_rfl
/-- A round of this loop. -/
def Round_cvx (ps : List Pt) : Prop := ∀ i : Nat, g_cvx ps i → i < (ps).length → (bodyR Try.prog ECv 30 12 noL noR (asgOf gc_cvx) (bodOf gc_cvx) ([10, 11].zip (encE ps i)) k_cvx 4 (s_cvx ps i)).ok (RoundEndR 4 (s_cvx ps) (g_cvx ps) (re_cvx ps) (rs_cvx ps) i) (fun _ _ => False)
set_option maxRecDepth 100000 in
theorem gcode_cvx : gc_cvx = .rangeFunc (.tmp 9) ([10, 11] : List Nat).toArray (asgOf gc_cvx) (bodOf gc_cvx) := by kernel_rfl
def e_cvx (s : St) (k : Ex → St → Tree) : Option Tree := match Nat.beq s.tmps.length 26, pickL s.tmps [1, 2, 9], s.mem with
  | true, [.pointer (some ⟨1, 0, none⟩), .pointer (some ⟨2, 0, none⟩), .func (.func 131) ⟨[]⟩ ⟨[.pointer (some ⟨3, 0, none⟩)]⟩], [some ⟨.view, .ints xs⟩, some ⟨.box, .vals [.slice (some ⟨0, 0, none⟩) n _]⟩, some ⟨.box, .vals [.bool false]⟩, some ⟨.box, .vals [.slice (some ⟨0, 0, none⟩) n1 _]⟩] => some (needs [n1 = n, xs.length = n * 2, allV (ptsA n xs) = true, n ≤ 20] (brT (cvA (ptsA n xs)) (k .normal ⟨[topV, topV, .pointer (some ⟨2, 0, none⟩), topV, topV, topV, topV, topV, topV, topV, topV, topV, topV, topV, topV, topV, topV, topV, topV, topV, topV, topV, topV, topV, topV, topV], [some ⟨.view, .ints xs⟩, some ⟨.box, .vals [.slice (some ⟨0, 0, none⟩) n n]⟩, some ⟨.box, .vals [.bool false]⟩, some ⟨.view, .vals [.slice (some ⟨0, 0, none⟩) n n]⟩]⟩) (k .ret ⟨[topV, topV, .pointer (some ⟨2, 0, none⟩), topV, topV, topV, topV, topV, topV, topV, topV, topV, topV, topV, topV, topV, topV, topV, topV, topV, topV, topV, topV, topV, topV, topV], [some ⟨.view, .ints xs⟩, some ⟨.box, .vals [.slice (some ⟨0, 0, none⟩) n n]⟩, some ⟨.box, .vals [.bool false]⟩, some ⟨.view, .vals [.slice (some ⟨0, 0, none⟩) n n]⟩]⟩)))
  | _, _, _ => none
set_option maxRecDepth 100000 in
theorem round_cvx (ps : List Pt) (hv : allV ps = true) (h : ps.length ≤ 20) : Round_cvx ps := by
  rintro i ⟨_, hg⟩ hi
  rw [tr_cvx]
  have hm := nx_lt hi
  have e2 : (IntKind.i64.wrap ((i : Int) + 2)).tmod (ps.length : Int) = (((i + 2) % ps.length : Nat) : Int) := by
    rw [show (i : Int) + 2 = ((i + 2 : Nat) : Int) by omega, wr (by omega), Int.tmod_eq_emod_of_nonneg (by omega)]
    omega
  have h2 : (i + 2) % ps.length < ps.length := Nat.mod_lt _ (by omega)
  rw [e2]
  simp only [Int.toNat_natCast, Nat.zero_add, flat_get0, flat_get1, flat_length]
  refine ⟨pt_get hv hi, pt_get hv hm, pt_get hv h2, by omega, by omega, by omega, brT_ok.2 ⟨fun q => ?_, fun q => ?_⟩⟩
  · have q : crossI (ps.getD i (0, 0)).1 (ps.getD i (0, 0)).2 (nxP ps i).1 (nxP ps i).2 (nx2 ps i).1 (nx2 ps i).2 ≤ 0 := of_decide_eq_true q
    have hs : cvA ps = false := allQ_no hi (by unfold cvE; exact decide_eq_false (by omega))
    refine ⟨by unfold re_cvx; rw [hs]; rfl, [], ?_⟩
    unfold rs_cvx
    rw [hs]
    refine ⟨rfl, rfl, ?_, ?_⟩ <;> repeat' (first | exact True.intro | exact rfl | exact wv_top _ _ | exact fun _ => rfl | refine And.intro ?_ ?_)
  · have q : ¬ crossI (ps.getD i (0, 0)).1 (ps.getD i (0, 0)).2 (nxP ps i).1 (nxP ps i).2 (nx2 ps i).1 (nx2 ps i).2 ≤ 0 := of_decide_eq_false q
    have ho : cvE ps i = true := decide_eq_true (by omega)
    refine ⟨⟨by omega, fun k hk => ?_⟩, [], ?_⟩
    · rcases Nat.lt_or_ge k i with h1 | h1
      · exact hg k h1
      · obtain rfl : k = i := by omega
        exact ho
    · refine ⟨rfl, rfl, ?_, ?_⟩ <;> repeat' (first | exact True.intro | exact rfl | exact wv_top _ _ | exact fun _ => rfl | refine And.intro ?_ ?_)
attribute [local irreducible] bodyR
set_option maxRecDepth 100000 in
theorem lg_cvx : RangeE Try.prog e_cvx gc_cvx := by
  intro s k t F H hlt ht
  unfold e_cvx at hlt
  split at hlt
  rotate_left
  · cases hlt
  rename_i hlen hpick hmem
  obtain ⟨tmps, mem⟩ := s
  simp only at hlen hpick hmem
  subst hmem
  obtain rfl := Option.some.inj hlt
  obtain ⟨⟨rfl, h1, h2, h3, _⟩, ht2⟩ := needs_ok ht
  clear ht hlt
  obtain ⟨ps, rfl, rfl⟩ := even_flat h1
  rw [ptsA_flat] at ht2 h2
  refine ⟨re_cvx ps, rs_cvx ps, pick2k ht2, ?_⟩
  rw [gcode_cvx]
  refine range_det (enc := encE ps) (len := (ps).length) (St_of := s_cvx ps) (Good := g_cvx ps) (N := 4) (M := 4) (Kn := [0, 3]) (cap := [.pointer (some ⟨3, 0, none⟩)]) (kf := (k_cvx .normal)) (π := []) (fun _ => rfl) (fun _ => rfl) (fun i hg hlt => bodyR_ok mixed ECv_ok (noL_good) (noR_good) (round_cvx ps h2 h3 i hg hlt)) (entersB_res (by kernel_rfl)).1 rfl ?_ (fun ρ0 ρ B w lb h1 h2 => ed_iter ps (by omega) (s := (s_cvx ps 0).fs) (nb := 3) (nr := 0) (c := (ps).length) (Kn := [0, 3]) rfl rfl (by decide) (by decide) ρ0 ρ B w lb h1 h2) ?_ rfl (by decide) ?_ ⟨Nat.zero_le _, fun k hk => by omega⟩
  · intro n hn b hb
    simp only [List.mem_cons, List.not_mem_nil, or_false] at hn
    rcases hn with rfl | rfl <;> (obtain rfl := Option.some.inj hb; rfl)
  · rintro ⟨_, hg⟩
    have hq : cvA ps = true := allQ_all _ _ fun k _ h2 => hg k (by omega)
    refine ⟨by unfold re_cvx; rw [hq]; rfl, [], ?_⟩
    unfold rs_cvx
    rw [hq]
    refine ⟨rfl, rfl, ?_, ?_⟩ <;> repeat' (first | exact True.intro | exact rfl | exact wv_top _ _ | exact fun _ => rfl | refine And.intro ?_ ?_)
  · refine ⟨rfl, rfl, ?_, wvs_spread' [1, 2, 9] hlen rfl ?_⟩
    · repeat' (first | exact True.intro | exact rfl | exact wv_top _ _ | exact fun _ => rfl | assumption | exact Eq.symm (by assumption) | exact vI0 rfl | refine And.intro ?_ ?_)
    · rw [show pickL (viewS [0, 3] ⟨tmps, _⟩).tmps [1, 2, 9] = pickL tmps [1, 2, 9] from rfl, hpick]
      repeat' (first | exact True.intro | exact rfl | exact wv_top _ _ | exact fun _ => rfl | assumption | exact Eq.symm (by assumption) | exact vI0 rfl | refine And.intro ?_ ?_)
theorem Gr_cvx {fn : Func} (hf : Try.prog.funcs[22]? = some fn) : RangesGood Try.prog (rt1 9 e_cvx) (codeOf fn) := by
  obtain rfl := fn_is Try.func22 hf
  exact rt1_good (by kernel_rfl) lg_cvx
def GCv : FuncId → RT := fun f => match f with
  | 22 => rt1 9 e_cvx
  | _ => noR
def ECg : Env := withG ECv GCv
theorem ECg_ok : EnvOk Try.prog ECg := withG_ok ECv_ok (by
  intro f fn hf
  unfold GCv
  split
  all_goals first | with_reducible exact Gr_cvx hf | exact noR_good)
set_option maxRecDepth 100000 in
theorem tr_iCvx (ps : List Pt) : bodyV Try.prog ECg 30 12 22 [.row ps.length (.ints (flat ps))] = .need (ps.length * (2 : Nat) ≤ (List.drop (0 : Nat) (flat ps)).length) (.need (ps.length ≤ (1000000000 : Nat)) (brT (!issI (ptsA ps.length (List.drop 0 (flat ps)))) (.fin (.bool (false)) []) (.need (ps.length = ps.length) (.need ((flat ps).length = ps.length * (2 : Nat)) (.need (allV (ptsA ps.length (flat ps)) = true) (.need (ps.length ≤ (20 : Nat)) (brT (cvA (ptsA ps.length (flat ps))) (.fin (.bool (true)) []) (.fin (.bool (false)) [])))))))) := by kernel_rfl
theorem cv_ok2 {ps : List Pt} (h : issI ps = true) : allV ps = true ∧ ps.length ≤ 20 := by
  unfold issI okL at h
  simp only [Bool.and_eq_true, decide_eq_true_eq] at h
  exact ⟨h.1.2.1, h.1.2.2⟩
theorem res_iCvx (ps : List Pt) (h : Big ps) : Res Try.prog 22 [.row ps.length (.ints (flat ps))] (.bool (cvxI ps)) := by
  refine bodyV_res mixed ECg_ok (m := 30) (n := 12) rfl ?_
  rw [tr_iCvx]
  unfold Big at h
  simp only [List.drop_zero, ptsA_flat, flat_length]
  unfold cvxI
  rcases hs : issI ps with _ | _
  · simp [brT_ok, Tree.ok, h]
  · obtain ⟨h1, h2⟩ := cv_ok2 hs
    rcases hc : cvA ps with _ | _ <;> simp [brT_ok, Tree.ok, h, h1, h2]
def pCvx : List DArg → Option (Value × List Prop)
  | [.row m (.ints xs)] => some (.bool (cvxI (ptsA m xs)), [m * 2 ≤ xs.length, m ≤ 1000000000])
  | _ => none
theorem pCvx_ok {f : FuncId} (H : ∀ ps : List Pt, Big ps → Res Try.prog f [.row ps.length (.ints (flat ps))] (.bool (cvxI ps))) {ds : List DArg} {v : Value} {C : List Prop} (h : pCvx ds = some (v, C)) (hC : AllP C) : Res Try.prog f ds v := by
  unfold pCvx at h
  split at h
  · rename_i m xs
    obtain ⟨rfl, rfl⟩ : _ ∧ _ := by simpa using h
    obtain ⟨_, h2⟩ := ptsA_spec hC.1
    exact res_pts1 (pre := []) (post := []) hC.1 (H (ptsA m xs) (by unfold Big; rw [h2]; exact hC.2.1))
  · cases h
def TCv : Tab := fun f ds => match f with
  | 22 => pCvx ds
  | f => TSm f ds
theorem TCv_ok : TabOk Try.prog TCv := by
  intro f ds v C h hC
  unfold TCv at h
  (try split at h)
  all_goals first | with_reducible exact pCvx_ok res_iCvx h hC | with_reducible exact pCvx_ok res_sCvx h hC | exact TSm_ok _ _ _ _ h hC
def TCx : Tab := fun f ds => match f with
  | f => TCv f ds
theorem TCx_ok : TabOk Try.prog TCx := by
  intro f ds v C h hC
  unfold TCx at h
  (try split at h)
  all_goals first | with_reducible exact pCvx_ok res_SCvx h hC | exact TCv_ok _ _ _ _ h hC
end Go.Proofs.Ytnjmepbblcfnfaa
namespace Go.Proofs.Ytnjmepbblcfnfaa
set_option linter.all false
open Go.RowKit
/-- On which side of an edge is a point? -/
def lvE (ps : List Pt) (x y : Int) (j : Nat) : Int := cmpI (crossI (ps.getD j (0, 0)).1 (ps.getD j (0, 0)).2 (nxP ps j).1 (nxP ps j).2 x y) 0
/-- The least side of so many edges. -/
def lvA (ps : List Pt) (x y : Int) : Nat → Int
  | 0 => 1
  | i + 1 => if lvE ps x y i < lvA ps x y i then lvE ps x y i else lvA ps x y i
def ECl : Env := mkE TCx R4 (fun _ => noL)
theorem ECl_ok : EnvOk Try.prog ECl := mkEOk TCx_ok R4_ok (fun _ _ _ => noL_good)
noncomputable def gc_lcv : Code := (rangesOf (codeOf Try.f20)).getD 0 .skip
def k_lcv : Ex → List Nat := keeps [3, 5, 17] [] []
def s_lcv (ps : List Pt) (x y : Int) : Nat → St := fun i => ⟨[topV, topV, topV, .pointer (some ⟨2, 0, none⟩), topV, .pointer (some ⟨3, 0, none⟩), topV, topV, topV, topV, topV, topV, topV, topV, topV, topV, topV, .func (.func 131) #[] #[.pointer (some ⟨4, 0, none⟩)], topV, topV, topV, topV, topV, topV, topV, topV, topV, topV, topV, topV], [some ⟨.view, .ints (flat ps)⟩, none, some ⟨.box, .vals [.int .i64 x, .int .i64 y]⟩, some ⟨.box, .vals [.int .i64 (lvA ps x y i)]⟩, some ⟨.view, .vals [.slice (some ⟨0, 0, none⟩) ps.length ps.length]⟩]⟩
def g_lcv (ps : List Pt) (x y : Int) : Nat → Prop := fun i => i ≤ ps.length
def re_lcv (ps : List Pt) (x y : Int) : Ex := .normal
def rs_lcv (ps : List Pt) (x y : Int) : St := ⟨[topV, topV, topV, .pointer (some ⟨2, 0, none⟩), topV, .pointer (some ⟨3, 0, none⟩), topV, topV, topV, topV, topV, topV, topV, topV, topV, topV, topV, topV, topV, topV, topV, topV, topV, topV, topV, topV, topV, topV, topV, topV], [some ⟨.view, .ints (flat ps)⟩, none, some ⟨.box, .vals [.int .i64 x, .int .i64 y]⟩, some ⟨.box, .vals [.int .i64 (lvA ps x y ps.length)]⟩, some ⟨.view, .vals [.slice (some ⟨0, 0, none⟩) ps.length ps.length]⟩]⟩
set_option maxRecDepth 100000 in
theorem tr_lcv (ps : List Pt) (x y : Int) (i : Nat) : bodyR Try.prog ECl 30 12 noL noR (asgOf gc_lcv) (bodOf gc_lcv) ([18, 19].zip (encE ps i)) k_lcv 5 (s_lcv ps x y i) = .need (ptB (ps.getD i ((0 : Int), (0 : Int))).1 (ps.getD i ((0 : Int), (0 : Int))).2 = true) (.need (ptB (ps.getD ((i + (1 : Nat)) % ps.length) ((0 : Int), (0 : Int))).1 (ps.getD ((i + (1 : Nat)) % ps.length) ((0 : Int), (0 : Int))).2 = true) (.need (ptB x y = true) (.leaf .normal ⟨[topV, topV, topV, .pointer (some ⟨2, 0, none⟩), topV, .pointer (some ⟨3, 0, none⟩), topV, topV, topV, topV, topV, topV, topV, topV, topV, topV, topV, .func (Fn.func 131) #[] #[.pointer (some ⟨4, 0, none⟩)], topV, topV, topV, topV, topV, topV, topV, topV, topV, topV, topV, topV], [some ⟨.view, .ints (flat ps)⟩, none, some ⟨.box, .vals [.int .i64 (x), .int .i64 (y)]⟩, some ⟨.box, .vals [.int .i64 (if cmpI (crossI (ps.getD i (0, 0)).1 (ps.getD i (0, 0)).2 (ps.getD ((i + 1) % ps.length) (0, 0)).1 (ps.getD ((i + 1) % ps.length) (0, 0)).2 x y) 0 < lvA ps x y i then cmpI (crossI (ps.getD i (0, 0)).1 (ps.getD i (0, 0)).2 (ps.getD ((i + 1) % ps.length) (0, 0)).1 (ps.getD ((i + 1) % ps.length) (0, 0)).2 x y) 0 else lvA ps x y i)]⟩, some ⟨.view, .vals [.slice (some ⟨0, 0, none⟩) (ps.length) (ps.length)]⟩]⟩))) := by kernel_rfl
/-- A round of this loop. -/
def Round_lcv (ps : List Pt) (x y : Int) : Prop := ∀ i : Nat, g_lcv ps x y i → i < (ps).length → (bodyR Try.prog ECl 30 12 noL noR (asgOf gc_lcv) (bodOf gc_lcv) ([18, 19].zip (encE ps i)) k_lcv 5 (s_lcv ps x y i)).ok (RoundEndR 5 (s_lcv ps x y) (g_lcv ps x y) (re_lcv ps x y) (rs_lcv ps x y) i) (fun _ _ => False)
set_option maxRecDepth 100000 in
theorem gcode_lcv : gc_lcv = .rangeFunc (.tmp 17) ([18, 19] : List Nat).toArray (asgOf gc_lcv) (bodOf gc_lcv) := by kernel_rfl
def e_lcv (s : St) (k : Ex → St → Tree) : Option Tree := match Nat.beq s.tmps.length 30, pickL s.tmps [3, 5, 17], s.mem with
  | true, [.pointer (some ⟨2, 0, none⟩), .pointer (some ⟨3, 0, none⟩), .func (.func 131) ⟨[]⟩ ⟨[.pointer (some ⟨4, 0, none⟩)]⟩], [some ⟨.view, .ints xs⟩, none, some ⟨.box, .vals [.int .i64 x, .int .i64 y]⟩, some ⟨.box, .vals [.int .i64 a0]⟩, some ⟨.box, .vals [.slice (some ⟨0, 0, none⟩) n _]⟩] => some (needs [a0 = 1, xs.length = n * 2, allV (ptsA n xs) = true, n ≤ 20, ptB x y = true] (k .normal ⟨[topV, topV, topV, .pointer (some ⟨2, 0, none⟩), topV, .pointer (some ⟨3, 0, none⟩), topV, topV, topV, topV, topV, topV, topV, topV, topV, topV, topV, topV, topV, topV, topV, topV, topV, topV, topV, topV, topV, topV, topV, topV], [some ⟨.view, .ints xs⟩, none, some ⟨.box, .vals [.int .i64 x, .int .i64 y]⟩, some ⟨.box, .vals [.int .i64 (lvA (ptsA n xs) x y n)]⟩, some ⟨.view, .vals [.slice (some ⟨0, 0, none⟩) n n]⟩]⟩))
  | _, _, _ => none
set_option maxRecDepth 100000 in
theorem round_lcv (ps : List Pt) (x y : Int) (hv : allV ps = true) (h : ps.length ≤ 20) (hp : ptB x y = true) : Round_lcv ps x y := by
  intro i hg hi
  rw [tr_lcv]
  have hm := nx_lt hi
  refine ⟨pt_get hv hi, pt_get hv hm, hp, ?_⟩
  refine ⟨by show i + 1 ≤ ps.length; omega, [], ?_⟩
  refine ⟨rfl, rfl, ?_, ?_⟩ <;> repeat' (first | exact True.intro | exact rfl | exact wv_top _ _ | exact fun _ => rfl | refine And.intro ?_ ?_)
attribute [local irreducible] bodyR
set_option maxRecDepth 100000 in
theorem lg_lcv : RangeE Try.prog e_lcv gc_lcv := by
  intro s k t F H hlt ht
  unfold e_lcv at hlt
  split at hlt
  rotate_left
  · cases hlt
  rename_i hlen hpick hmem
  obtain ⟨tmps, mem⟩ := s
  simp only at hlen hpick hmem
  subst hmem
  obtain rfl := Option.some.inj hlt
  obtain ⟨⟨rfl, h1, h2, h3, h4, _⟩, ht2⟩ := needs_ok ht
  clear ht hlt
  obtain ⟨ps, rfl, rfl⟩ := even_flat h1
  rw [ptsA_flat] at ht2 h2
  rename_i px py cp0 rr
  refine ⟨re_lcv ps px py, rs_lcv ps px py, ht2, ?_⟩
  rw [gcode_lcv]
  refine range_det (enc := encE ps) (len := (ps).length) (St_of := s_lcv ps px py) (Good := g_lcv ps px py) (N := 5) (M := 5) (Kn := [0, 4]) (cap := [.pointer (some ⟨4, 0, none⟩)]) (kf := (k_lcv .normal)) (π := []) (fun _ => rfl) (fun _ => rfl) (fun i hg hlt => bodyR_ok mixed ECl_ok (noL_good) (noR_good) (round_lcv ps px py h2 h3 h4 i hg hlt)) (entersB_res (by kernel_rfl)).1 rfl ?_ (fun ρ0 ρ B w lb h1 h2 => ed_iter ps (by omega) (s := (s_lcv ps px py 0).fs) (nb := 4) (nr := 0) (c := (ps).length) (Kn := [0, 4]) rfl rfl (by decide) (by decide) ρ0 ρ B w lb h1 h2) ?_ rfl (by decide) ?_ (Nat.zero_le _)
  · intro n hn b hb
    simp only [List.mem_cons, List.not_mem_nil, or_false] at hn
    rcases hn with rfl | rfl <;> (obtain rfl := Option.some.inj hb; rfl)
  · exact fun _ => ⟨rfl, [], by refine ⟨rfl, rfl, ?_, ?_⟩ <;> repeat' (first | exact True.intro | exact rfl | exact wv_top _ _ | exact fun _ => rfl | refine And.intro ?_ ?_)⟩
  · refine ⟨rfl, rfl, ?_, wvs_spread' [3, 5, 17] hlen rfl ?_⟩
    · repeat' (first | exact True.intro | exact rfl | exact wv_top _ _ | exact fun _ => rfl | assumption | exact Eq.symm (by assumption) | exact vI0 rfl | refine And.intro ?_ ?_)
    · rw [show pickL (viewS [0, 4] ⟨tmps, _⟩).tmps [3, 5, 17] = pickL tmps [3, 5, 17] from rfl, hpick]
      repeat' (first | exact True.intro | exact rfl | exact wv_top _ _ | exact fun _ => rfl | assumption | exact Eq.symm (by assumption) | exact vI0 rfl | refine And.intro ?_ ?_)
theorem Gr_lcv {fn : Func} (hf : Try.prog.funcs[20]? = some fn) : RangesGood Try.prog (rt1 17 e_lcv) (codeOf fn) := by
  obtain rfl := fn_is Try.func20 hf
  exact rt1_good (by kernel_rfl) lg_lcv
def GCl : FuncId → RT := fun f => match f with
  | 20 => rt1 17 e_lcv
  | _ => noR
def EClg : Env := withG ECl GCl
theorem EClg_ok : EnvOk Try.prog EClg := withG_ok ECl_ok (by
  intro f fn hf
  unfold GCl
  split
  all_goals first | with_reducible exact Gr_lcv hf | exact noR_good)
/-- Where a point lies. -/
def lcvV (ps : List Pt) (x y : Int) : Int := bif cvxI ps && ptB x y then lvA ps x y ps.length else 2
theorem cvx_ok {ps : List Pt} (h : cvxI ps = true) : allV ps = true ∧ ps.length ≤ 20 := by
  unfold cvxI at h
  rw [Bool.and_eq_true] at h
  exact cv_ok2 h.1
set_option maxRecDepth 100000 in
theorem tr_iLcv (ps : List Pt) (x y : Int) : bodyV Try.prog EClg 30 12 20 [.row ps.length (.ints (flat ps)), .v (.agg ⟨[.int .i64 x, .int .i64 y]⟩)] = .need (ps.length * (2 : Nat) ≤ (List.drop (0 : Nat) (flat ps)).length) (.need (ps.length ≤ (1000000000 : Nat)) (brT (!cvxI (ptsA ps.length (List.drop 0 (flat ps)))) (.fin (.int .i64 (2)) []) (brT (!ptB x y) (.fin (.int .i64 (2)) []) (.need ((1 : Int) = (1 : Int)) (.need ((flat ps).length = ps.length * (2 : Nat)) (.need (allV (ptsA ps.length (flat ps)) = true) (.need (ps.length ≤ (20 : Nat)) (.need (ptB x y = true) (.fin (.int .i64 (lvA (ptsA ps.length (flat ps)) x y ps.length)) []))))))))) := by kernel_rfl
theorem res_iLcv (x y : Int) (ps : List Pt) (h : Big ps) : Res Try.prog 20 [.row ps.length (.ints (flat ps)), .v (.agg ⟨[.int .i64 x, .int .i64 y]⟩)] (.int .i64 (lcvV ps x y)) := by
  refine bodyV_res mixed EClg_ok (m := 30) (n := 12) rfl ?_
  rw [tr_iLcv]
  unfold Big at h
  simp only [List.drop_zero, ptsA_flat, flat_length]
  unfold lcvV
  rcases hs : cvxI ps with _ | _
  · simp [brT_ok, Tree.ok, h]
  · obtain ⟨h1, h2⟩ := cvx_ok hs
    rcases hc : ptB x y with _ | _ <;> simp [brT_ok, Tree.ok, h, h1, h2]
def pLcv : List DArg → Option (Value × List Prop)
  | [.row m (.ints xs), .v (.agg ⟨[.int .i64 x, .int .i64 y]⟩)] => some (.int .i64 (lcvV (ptsA m xs) x y), [m * 2 ≤ xs.length, m ≤ 1000000000])
  | _ => none
theorem pLcv_ok {f : FuncId} (H : ∀ (x y : Int) (ps : List Pt), Big ps → Res Try.prog f [.row ps.length (.ints (flat ps)), .v (.agg ⟨[.int .i64 x, .int .i64 y]⟩)] (.int .i64 (lcvV ps x y))) {ds : List DArg} {v : Value} {C : List Prop} (h : pLcv ds = some (v, C)) (hC : AllP C) : Res Try.prog f ds v := by
  unfold pLcv at h
  split at h
  · rename_i m xs x y
    obtain ⟨rfl, rfl⟩ : _ ∧ _ := by simpa using h
    obtain ⟨_, h2⟩ := ptsA_spec hC.1
    exact res_pts1 (pre := []) (post := [.v (.agg ⟨[.int .i64 x, .int .i64 y]⟩)]) hC.1 (H x y (ptsA m xs) (by unfold Big; rw [h2]; exact hC.2.1))
  · cases h
end Go.Proofs.Ytnjmepbblcfnfaa
namespace Go.Proofs.Ytnjmepbblcfnfaa
set_option linter.all false
open Go.RowKit
/-- The first place from i on at which the point stands. -/
def fsN (ps : List Pt) (x y : Int) : Nat → Nat → Nat
  | i, 0 => i
  | i, n + 1 => bif npQ ps x y i then fsN ps x y (i + 1) n else i
theorem fsN_step {ps : List Pt} {x y : Int} {i n : Nat} (h : i < n) : fsN ps x y i (n - i) = bif npQ ps x y i then fsN ps x y (i + 1) (n - (i + 1)) else i := by
  rw [show n - i = (n - (i + 1)) + 1 by omega]
  rfl
noncomputable def c_six : Code := ((loopsOf (codeOf Try.f81))[0]?).getD .skip
def k_six : Ex → List Nat := keeps [0, 3, 7, 8] [(0, [])] [4]
def s_six (ps : List Pt) (x y : Int) : Nat → St := fun i => ⟨[.slice (some ⟨0, 0, none⟩) ps.length ps.length, topV, topV, .pointer (some ⟨2, 0, none⟩), topV, topV, topV, .int .i64 ps.length, .int .i64 i, topV, topV, topV, topV, topV, topV, topV, topV, topV, topV], [some ⟨.view, .ints (flat ps)⟩, none, some ⟨.box, .vals [.int .i64 x, .int .i64 y]⟩]⟩
def re_six (ps : List Pt) (x y : Int) : Nat → Ex := fun i => bif allQ (npQ ps x y) i (ps.length - i) then .exit 0 else .ret
def rs_six (ps : List Pt) (x y : Int) : Nat → St := fun i => bif allQ (npQ ps x y) i (ps.length - i) then ⟨[topV, topV, topV, topV, topV, topV, topV, topV, topV, topV, topV, topV, topV, topV, topV, topV, topV, topV, topV], [some ⟨.view, .ints (flat ps)⟩, none, some ⟨.box, .vals [.int .i64 x, .int .i64 y]⟩]⟩ else ⟨[topV, topV, topV, topV, .int .i64 (fsN ps x y i (ps.length - i) : Nat), topV, topV, topV, topV, topV, topV, topV, topV, topV, topV, topV, topV, topV, topV], [some ⟨.view, .ints (flat ps)⟩, none, some ⟨.box, .vals [.int .i64 x, .int .i64 y]⟩]⟩
set_option maxRecDepth 100000 in
theorem tr_six (ps : List Pt) (x y : Int) (i : Nat) : bodyL Try.prog EM 30 12 noL 1 c_six k_six 3 (s_six ps x y i) = brT (decide ((↑i : Int) < (↑ps.length : Int))) (.need ((0 : Int) ≤ (↑i : Int) ∧ (↑i : Int) < (↑ps.length : Int)) (.need ((0 : Nat) + (↑i : Int).toNat * (2 : Nat) + (2 : Nat) ≤ (flat ps).length) (brT (negB false (x == (flat ps).getD (0 + (↑i : Int).toNat * 2) 0 && (y == (flat ps).getD (0 + (↑i : Int).toNat * 2 + 1) 0 && true))) (.leaf .ret ⟨[topV, topV, topV, topV, .int .i64 ((↑i : Int)), topV, topV, topV, topV, topV, topV, topV, topV, topV, topV, topV, topV, topV, topV], [some ⟨.view, .ints (flat ps)⟩, none, some ⟨.box, .vals [.int .i64 (x), .int .i64 (y)]⟩]⟩) (.leaf .normal ⟨[.slice (some ⟨0, 0, none⟩) (ps.length) (ps.length), topV, topV, .pointer (some ⟨2, 0, none⟩), topV, topV, topV, .int .i64 ((↑ps.length : Int)), .int .i64 (IntKind.i64.wrap ((↑i : Int) + 1)), topV, topV, topV, topV, topV, topV, topV, topV, topV, topV], [some ⟨.view, .ints (flat ps)⟩, none, some ⟨.box, .vals [.int .i64 (x), .int .i64 (y)]⟩]⟩)))) (.leaf (.exit 0) ⟨[topV, topV, topV, topV, topV, topV, topV, topV, topV, topV, topV, topV, topV, topV, topV, topV, topV, topV, topV], [some ⟨.view, .ints (flat ps)⟩, none, some ⟨.box, .vals [.int .i64 (x), .int .i64 (y)]⟩]⟩) := by kernel_rfl
set_option maxRecDepth 100000 in
theorem nl_six : loopsOf c_six = [] := by kernel_rfl
def inv_six (ps : List Pt) (x y : Int) : Nat → Prop := fun i => i ≤ ps.length
def me_six (ps : List Pt) (x y : Int) : Nat → Nat := fun i => ps.length - i
/-- A round of this loop. -/
def Round_six (ps : List Pt) (x y : Int) : Prop := ∀ xx : Nat, inv_six ps x y xx → (bodyL Try.prog EM 30 12 noL 1 c_six k_six 3 (s_six ps x y xx)).ok (RoundEnd 3 (s_six ps x y) (inv_six ps x y) (me_six ps x y) (re_six ps x y) (rs_six ps x y) xx) (fun _ _ => False)
def e_six (s : St) (k : Ex → St → Tree) : Option Tree := match Nat.beq s.tmps.length 19, pickL s.tmps [0, 3, 7, 8], s.mem with
  | true, [.slice (some ⟨0, 0, none⟩) n _, .pointer (some ⟨2, 0, none⟩), .int .i64 n1, .int .i64 i], [some ⟨.view, .ints xs⟩, none, some ⟨.box, .vals [.int .i64 x, .int .i64 y]⟩] => some (needs [i = 0, n1 = (n : Int), xs.length = n * 2, n ≤ 1000000000] (brT (allQ (npQ (ptsA n xs) x y) 0 n) (k (.exit 0) ⟨[topV, topV, topV, topV, topV, topV, topV, topV, topV, topV, topV, topV, topV, topV, topV, topV, topV, topV, topV], [some ⟨.view, .ints xs⟩, none, some ⟨.box, .vals [.int .i64 x, .int .i64 y]⟩]⟩) (k .ret ⟨[topV, topV, topV, topV, .int .i64 (fsN (ptsA n xs) x y 0 n : Nat), topV, topV, topV, topV, topV, topV, topV, topV, topV, topV, topV, topV, topV, topV], [some ⟨.view, .ints xs⟩, none, some ⟨.box, .vals [.int .i64 x, .int .i64 y]⟩]⟩)))
  | _, _, _ => none
set_option maxRecDepth 100000 in
theorem round_six (ps : List Pt) (x y : Int) (h : ps.length ≤ 1000000000) : Round_six ps x y := by
  intro i h1
  have h1 : i ≤ ps.length := h1
  rw [tr_six]
  simp only [Int.toNat_natCast, Nat.zero_add, Nat.add_zero, flat_length, flat_get0, flat_get1]
  refine brT_ok.2 ⟨fun hlt => ?_, fun hge => ?_⟩
  · have hlt := of_decide_eq_true hlt
    have hi : i < ps.length := by omega
    have st := allQ_step (P := npQ ps x y) (i := i) (n := ps.length) hi
    have sf := fsN_step (ps := ps) (x := x) (y := y) (i := i) (n := ps.length) hi
    have hn : npQ ps x y i = !((ps.getD i (0, 0)).1 == x && (ps.getD i (0, 0)).2 == y) := rfl
    rw [wsucc (n := ps.length) hi h]
    have hc : npQ ps x y i = !(x == (ps.getD i (0, 0)).1 && y == (ps.getD i (0, 0)).2) := by
      rw [hn, BEq.comm (a := x), BEq.comm (a := y)]
    generalize ps.getD i (0, 0) = p at *
    rcases g1 : x == p.1 with _ | _ <;> rcases g2 : y == p.2 with _ | _
    all_goals
      rw [g1, g2] at hc
      rw [hc] at st sf
      simp only [g1, g2, negT_, negF_, brT_t, brT_f, Bool.not_true, Bool.not_false, Bool.and_true, Bool.and_false, Bool.true_and, Bool.false_and, cond_true, cond_false, Tree.ok] at st sf ⊢
      repeat (refine And.intro (by omega) ?_)
    iterate 3
      refine ⟨i + 1, [], ?_, ?_, by simp only [re_six, st], by simp only [rs_six, st, sf], ?_⟩
      · show i + 1 ≤ ps.length; omega
      · show ps.length - (i + 1) < ps.length - i; omega
      · repeat' (first | exact True.intro | exact rfl | exact fun _ => rfl | refine And.intro ?_ ?_)
    refine ⟨by simp only [re_six, st, cond_false], [], ?_⟩
    simp only [rs_six, st, sf, cond_false]
    repeat' (first | exact True.intro | exact rfl | exact fun _ => rfl | refine And.intro ?_ ?_)
  · have hge := of_decide_eq_false hge
    have e : allQ (npQ ps x y) i (ps.length - i) = true := allQ_end (by omega)
    refine ⟨by simp only [re_six, e, cond_true], [], ?_⟩
    simp only [rs_six, e, cond_true]
    repeat' (first | exact True.intro | exact rfl | exact fun _ => rfl | refine And.intro ?_ ?_)
set_option maxRecDepth 100000 in
theorem lg_six : LoopE Try.prog e_six c_six := by
  intro s k t F H hlt ht
  unfold e_six at hlt
  split at hlt
  rotate_left
  · cases hlt
  rename_i hlen hpick hmem
  obtain ⟨tmps, mem⟩ := s
  simp only at hlen hpick hmem
  subst hmem
  obtain rfl := Option.some.inj hlt
  obtain ⟨⟨rfl, rfl, h1, h2, _⟩, ht2⟩ := needs_ok ht
  clear ht hlt
  obtain ⟨ps, rfl, rfl⟩ := even_flat h1
  rw [ptsA_flat] at ht2
  refine ⟨_, _, pick2k ht2, loop_run mixed EM_ok (s_six ps _ _) (inv_six ps _ _) (me_six ps _ _) (re_six ps _ _) (rs_six ps _ _) k_six (fun _ => rfl) (noLoops nl_six) (round_six ps _ _ h2) (x := 0) (Nat.zero_le _) (π := []) rfl ?_⟩
  refine ⟨rfl, rfl, ?_, wvs_spread' [0, 3, 7, 8] hlen rfl ?_⟩
  · repeat' (first | exact True.intro | exact rfl | exact wv_top _ _ | exact fun _ => rfl | assumption | exact Eq.symm (by assumption) | exact vI0 rfl | refine And.intro ?_ ?_)
  · rw [hpick]
    repeat' (first | exact True.intro | exact rfl | exact wv_top _ _ | exact fun _ => rfl | assumption | exact Eq.symm (by assumption) | exact vI0 rfl | refine And.intro ?_ ?_)
theorem Lr_six {fn : Func} (hf : Try.prog.funcs[81]? = some fn) : LoopsGood Try.prog (lt1 e_six) 0 (codeOf fn) := by
  obtain rfl := fn_is Try.func81 hf
  exact lt1_good lg_six
def LSi : FuncId → LT := fun f => match f with
  | 81 => lt1 e_six
  | _ => noL
def ESi : Env := mkE B0 (fun _ _ => none) LSi
theorem ESi_ok : EnvOk Try.prog ESi := mkEOk B0_ok (fun _ _ _ _ _ h => (by cases h)) (by
  intro f fn hf
  unfold LSi
  split
  all_goals first | with_reducible exact Lr_six hf | exact noL_good)
set_option maxRecDepth 100000 in
theorem tr_sixF (ps : List Pt) (x y : Int) : bodyV Try.prog ESi 30 12 81 [.row ps.length (.ints (flat ps)), .v (.agg ⟨[.int .i64 x, .int .i64 y]⟩)] = .need ((0 : Int) = (0 : Int)) (.need ((↑ps.length : Int) = (↑ps.length : Int)) (.need ((flat ps).length = ps.length * (2 : Nat)) (.need (ps.length ≤ (1000000000 : Nat)) (brT (allQ (npQ (ptsA ps.length (flat ps)) x y) 0 ps.length) (.fin (.int .i64 (-1)) []) (.fin (.int .i64 ((↑(fsN (ptsA ps.length (flat ps)) x y 0 ps.length) : Int))) []))))) := by kernel_rfl
/-- Where a point stands first. -/
def idxV (ps : List Pt) (x y : Int) : Int := bif allQ (npQ ps x y) 0 ps.length then -1 else (fsN ps x y 0 ps.length : Nat)
theorem res_six (x y : Int) (ps : List Pt) (h : Big ps) : Res Try.prog 81 [.row ps.length (.ints (flat ps)), .v (.agg ⟨[.int .i64 x, .int .i64 y]⟩)] (.int .i64 (idxV ps x y)) := by
  refine bodyV_res mixed ESi_ok (m := 30) (n := 12) rfl ?_
  rw [tr_sixF]
  unfold Big at h
  simp only [ptsA_flat]
  unfold idxV
  have w9 : IntKind.i64.wrap (0 - 1) = -1 := by decide
  rcases hq : allQ (npQ ps x y) 0 ps.length with _ | _
  all_goals exact ⟨trivial, trivial, flat_length ps, h, rfl⟩
def pSix : List DArg → Option (Value × List Prop)
  | [.row m (.ints xs), .v (.agg ⟨[.int .i64 x, .int .i64 y]⟩)] => some (.int .i64 (idxV (ptsA m xs) x y), [m * 2 ≤ xs.length, m ≤ 1000000000])
  | _ => none
theorem pSix_ok {ds : List DArg} {v : Value} {C : List Prop} (h : pSix ds = some (v, C)) (hC : AllP C) : Res Try.prog 81 ds v := by
  unfold pSix at h
  split at h
  · rename_i m xs x y
    obtain ⟨rfl, rfl⟩ : _ ∧ _ := by simpa using h
    obtain ⟨_, h2⟩ := ptsA_spec hC.1
    exact res_pts1 (pre := []) (post := [.v (.agg ⟨[.int .i64 x, .int .i64 y]⟩)]) hC.1 (res_six x y (ptsA m xs) (by unfold Big; rw [h2]; exact hC.2.1))
  · cases h
end Go.Proofs.Ytnjmepbblcfnfaa
namespace Go.Proofs.Ytnjmepbblcfnfaa
set_option linter.all false
open Go.RowKit
/-- The place of the first of the least of so many points. -/
def mnI (ps : List Pt) : Nat → Nat
  | 0 => 0
  | i + 1 => bif pltB (ps.getD i (0, 0)) (ps.getD (mnI ps i) (0, 0)) then i else mnI ps i
theorem mnI_le (ps : List Pt) : ∀ i, mnI ps i ≤ i
  | 0 => Nat.le_refl _
  | i + 1 => by
    have := mnI_le ps i
    show (bif pltB (ps.getD i (0, 0)) (ps.getD (mnI ps i) (0, 0)) then i else mnI ps i) ≤ i + 1
    cases pltB (ps.getD i (0, 0)) (ps.getD (mnI ps i) (0, 0)) <;> simp <;> omega
end Go.Proofs.Ytnjmepbblcfnfaa
namespace Go.Proofs.Ytnjmepbblcfnfaa
set_option linter.all false
open Go.RowKit
/-- The index of the first largest among those at b and from i on, n of them. -/
def ag (f : Pt → Int) (ps : List Pt) : Nat → Nat → Nat → Nat
  | 0, _, b => b
  | n + 1, i, b => ag f ps n (i + 1) (if f (ps.getD b (0, 0)) < f (ps.getD i (0, 0)) then i else b)
theorem ag_step {f : Pt → Int} {ps : List Pt} {i : Nat} (h : i < ps.length) (b : Nat) : ag f ps (ps.length - i) i b = ag f ps (ps.length - (i + 1)) (i + 1) (if f (ps.getD b (0, 0)) < f (ps.getD i (0, 0)) then i else b) := by
  rw [show ps.length - i = (ps.length - (i + 1)) + 1 by omega]
  rfl
theorem ag_end {f : Pt → Int} {ps : List Pt} {i : Nat} (h : ps.length ≤ i) (b : Nat) : ag f ps (ps.length - i) i b = b := by
  rw [show ps.length - i = 0 by omega]
  rfl
def fl (f : Pt → Int) (ps : List Pt) (i : Nat) (b : Int) : Int :=
  if b < 0 then (if ps.length ≤ i then -1 else (ag f ps (ps.length - (i + 1)) (i + 1) i : Nat)) else (ag f ps (ps.length - i) i b.toNat : Nat)
theorem fl_first {f : Pt → Int} {ps : List Pt} {i : Nat} (h : i < ps.length) {b : Int} (hb : b < 0) : fl f ps i b = fl f ps (i + 1) i := by
  unfold fl
  rw [if_pos hb, if_neg (by omega), if_neg (by omega), Int.toNat_natCast]
theorem fl_yes {f : Pt → Int} {ps : List Pt} {i : Nat} (h : i < ps.length) {b : Int} (hb : 0 ≤ b) (hm : f (ps.getD b.toNat (0, 0)) < f (ps.getD i (0, 0))) : fl f ps i b = fl f ps (i + 1) i := by
  unfold fl
  rw [if_neg (by omega), if_neg (by omega), Int.toNat_natCast, ag_step h, if_pos hm]
theorem fl_no {f : Pt → Int} {ps : List Pt} {i : Nat} (h : i < ps.length) {b : Int} (hb : 0 ≤ b) (hm : ¬ f (ps.getD b.toNat (0, 0)) < f (ps.getD i (0, 0))) : fl f ps i b = fl f ps (i + 1) b := by
  unfold fl
  rw [if_neg (by omega), if_neg (by omega), ag_step h, if_neg hm]
theorem fl_end {f : Pt → Int} {ps : List Pt} {i : Nat} (h : ps.length ≤ i) {b : Int} (hb : b = -1 ∨ 0 ≤ b) : fl f ps i b = b := by
  unfold fl
  rcases hb with rfl | hb
  · rw [if_pos (by omega), if_pos h]
  · rw [if_neg (by omega), ag_end h]; omega
def fE (d p : Pt) : Int := p.1 * d.1 + p.2 * d.2
noncomputable def c_flExt : Code := ((loopsOf (codeOf Try.f97))[0]?).getD .skip
def k_flExt : Ex → List Nat := keeps [1, 5, 6, 10, 11, 12] [(0, [5])] [4]
def s_flExt (ps : List Pt) (x y : Int) : Nat × Int × Int → St := fun (i, b, m) => ⟨(topV :: .func (.func 91) #[.agg #[.int .i64 x, .int .i64 y]] #[] :: topV :: topV :: topV :: .int .i64 b :: .int .i64 m :: topV :: topV :: topV :: .slice (some ⟨0, 0, none⟩) ps.length ps.length :: .int .i64 ps.length :: .int .i64 i :: topV :: topV :: topV :: topV :: topV :: topV :: topV :: topV :: topV :: topV :: topV :: topV :: topV :: topV :: topV :: topV :: topV :: topV :: []), [some ⟨.view, .ints (flat ps)⟩, none, some ⟨.box, .vals [.int .i64 x, .int .i64 y]⟩]⟩
def re_flExt : Nat × Int × Int → Ex := fun _ => .exit 0
def rs_flExt (ps : List Pt) (x y : Int) : Nat × Int × Int → St := fun (i, b, m) => ⟨(topV :: topV :: topV :: topV :: topV :: .int .i64 (fl (fE (x, y)) ps i b) :: topV :: topV :: topV :: topV :: topV :: topV :: topV :: topV :: topV :: topV :: topV :: topV :: topV :: topV :: topV :: topV :: topV :: topV :: topV :: topV :: topV :: topV :: topV :: topV :: topV :: []), [some ⟨.view, .ints (flat ps)⟩, none, some ⟨.box, .vals [.int .i64 x, .int .i64 y]⟩]⟩
set_option maxRecDepth 100000 in
theorem tr_flExt (ps : List Pt) (x y : Int) (i : Nat) (b m : Int) : bodyL Try.prog E3 30 12 noL 1 c_flExt k_flExt 3 (s_flExt ps x y (i, b, m)) = brT (decide ((↑i : Int) < (↑ps.length : Int))) (.need ((0 : Int) ≤ (↑i : Int) ∧ (↑i : Int) < (↑ps.length : Int)) (.need ((0 : Nat) + (↑i : Int).toNat * (2 : Nat) + (2 : Nat) ≤ (flat ps).length) (brT (decide (b < 0)) (.leaf .normal ⟨(topV :: .func (Fn.func 91) #[.agg #[.int .i64 (x), .int .i64 (y)]] #[] :: topV :: topV :: topV :: .int .i64 ((↑i : Int)) :: .int .i64 (IntKind.i64.wrap (IntKind.i64.wrap (x * (flat ps).getD (0 + (↑i : Int).toNat * 2) 0) + IntKind.i64.wrap (y * (flat ps).getD (0 + (↑i : Int).toNat * 2 + 1) 0))) :: topV :: topV :: topV :: .slice (some ⟨0, 0, none⟩) (ps.length) (ps.length) :: .int .i64 ((↑ps.length : Int)) :: .int .i64 (IntKind.i64.wrap ((↑i : Int) + 1)) :: topV :: topV :: topV :: topV :: topV :: topV :: topV :: topV :: topV :: topV :: topV :: topV :: topV :: topV :: topV :: topV :: topV :: topV :: []), [some ⟨.view, .ints (flat ps)⟩, none, some ⟨.box, .vals [.int .i64 (x), .int .i64 (y)]⟩]⟩) (brT (decide (m < IntKind.i64.wrap (IntKind.i64.wrap (x * (flat ps).getD (0 + (↑i : Int).toNat * 2) 0) + IntKind.i64.wrap (y * (flat ps).getD (0 + (↑i : Int).toNat * 2 + 1) 0)))) (.leaf .normal ⟨(topV :: .func (Fn.func 91) #[.agg #[.int .i64 (x), .int .i64 (y)]] #[] :: topV :: topV :: topV :: .int .i64 ((↑i : Int)) :: .int .i64 (IntKind.i64.wrap (IntKind.i64.wrap (x * (flat ps).getD (0 + (↑i : Int).toNat * 2) 0) + IntKind.i64.wrap (y * (flat ps).getD (0 + (↑i : Int).toNat * 2 + 1) 0))) :: topV :: topV :: topV :: .slice (some ⟨0, 0, none⟩) (ps.length) (ps.length) :: .int .i64 ((↑ps.length : Int)) :: .int .i64 (IntKind.i64.wrap ((↑i : Int) + 1)) :: topV :: topV :: topV :: topV :: topV :: topV :: topV :: topV :: topV :: topV :: topV :: topV :: topV :: topV :: topV :: topV :: topV :: topV :: []), [some ⟨.view, .ints (flat ps)⟩, none, some ⟨.box, .vals [.int .i64 (x), .int .i64 (y)]⟩]⟩) (.leaf .normal ⟨(topV :: .func (Fn.func 91) #[.agg #[.int .i64 (x), .int .i64 (y)]] #[] :: topV :: topV :: topV :: .int .i64 (b) :: .int .i64 (m) :: topV :: topV :: topV :: .slice (some ⟨0, 0, none⟩) (ps.length) (ps.length) :: .int .i64 ((↑ps.length : Int)) :: .int .i64 (IntKind.i64.wrap ((↑i : Int) + 1)) :: topV :: topV :: topV :: topV :: topV :: topV :: topV :: topV :: topV :: topV :: topV :: topV :: topV :: topV :: topV :: topV :: topV :: topV :: []), [some ⟨.view, .ints (flat ps)⟩, none, some ⟨.box, .vals [.int .i64 (x), .int .i64 (y)]⟩]⟩))))) (.leaf (.exit 0) ⟨(topV :: topV :: topV :: topV :: topV :: .int .i64 (b) :: topV :: topV :: topV :: topV :: topV :: topV :: topV :: topV :: topV :: topV :: topV :: topV :: topV :: topV :: topV :: topV :: topV :: topV :: topV :: topV :: topV :: topV :: topV :: topV :: topV :: []), [some ⟨.view, .ints (flat ps)⟩, none, some ⟨.box, .vals [.int .i64 (x), .int .i64 (y)]⟩]⟩) := by kernel_rfl
set_option maxRecDepth 100000 in
theorem nl_flExt : loopsOf c_flExt = [] := by kernel_rfl
def inv_flExt (ps : List Pt) (x y : Int) : Nat × Int × Int → Prop := fun (i, b, m) => i ≤ ps.length ∧ (b = -1 ∨ 0 ≤ b ∧ b < i ∧ m = fE (x, y) (ps.getD b.toNat (0, 0)))
def me_flExt (ps : List Pt) (x y : Int) : Nat × Int × Int → Nat := fun (i, b, m) => ps.length - i
/-- A round of this loop. -/
def Round_flExt (ps : List Pt) (x y : Int) : Prop := ∀ xx : Nat × Int × Int, inv_flExt ps x y xx → (bodyL Try.prog E3 30 12 noL 1 c_flExt k_flExt 3 (s_flExt ps x y xx)).ok (RoundEnd 3 (s_flExt ps x y) (inv_flExt ps x y) (me_flExt ps x y) re_flExt (rs_flExt ps x y) xx) (fun _ _ => False)
def e_flExt (s : St) (k : Ex → St → Tree) : Option Tree := match Nat.beq s.tmps.length 31, pickL s.tmps [1, 5, 6, 10, 11, 12], s.mem with
  | true, [.func (.func 91) ⟨[.agg ⟨[.int .i64 x, .int .i64 y]⟩]⟩ ⟨[]⟩, .int .i64 b, .int .i64 mm, .slice (some ⟨0, 0, none⟩) m _, .int .i64 l, .int .i64 i], [some ⟨.view, .ints xs⟩, none, some ⟨.box, .vals [.int .i64 x2, .int .i64 y2]⟩] => some (needs [i = 0, b = -1, mm = 0, l = m, xs.length = m * 2, m ≤ 20, allV (ptsA m xs) = true, ptB x y = true, x2 = x, y2 = y] (k (.exit 0) ⟨(topV :: topV :: topV :: topV :: topV :: .int .i64 (fl (fE (x, y)) (ptsA m xs) 0 (-1)) :: topV :: topV :: topV :: topV :: topV :: topV :: topV :: topV :: topV :: topV :: topV :: topV :: topV :: topV :: topV :: topV :: topV :: topV :: topV :: topV :: topV :: topV :: topV :: topV :: topV :: []), [some ⟨.view, .ints xs⟩, none, some ⟨.box, .vals [.int .i64 x2, .int .i64 y2]⟩]⟩))
  | _, _, _ => none
set_option maxRecDepth 100000 in
theorem round_flExt (ps : List Pt) (x y : Int) (h : ps.length ≤ 20) (hv : allV ps = true) (hq : ptB x y = true) : Round_flExt ps x y := by
  rintro ⟨i, b, m⟩ ⟨h1, h2⟩
  rw [tr_flExt]
  have bb := allV_get hv i
  have hq2 : -1000 ≤ x ∧ x ≤ 1000 ∧ -1000 ≤ y ∧ y ≤ 1000 := by simpa [ptB] using hq
  have m1 := mul_bd (x := x) (y := (ps.getD i (0, 0)).1) 1000 1000 (by omega) (by omega)
  have m2 := mul_bd (x := y) (y := (ps.getD i (0, 0)).2) 1000 1000 (by omega) (by omega)
  simp only [Int.toNat_natCast, Nat.zero_add, flat_length, flat_get0, flat_get1]
  simp only [brT_ok, Tree.ok, decide_eq_true_eq, decide_eq_false_iff_not]
  refine ⟨fun hlt => ⟨by omega, by omega, ?_⟩, fun hge => ?_⟩
  · rw [wsucc (n := ps.length) (by omega) (by omega)]
    simp (disch := omega) only [wr]
    have hf : fE (x, y) (ps.getD i (0, 0)) = x * (ps.getD i (0, 0)).1 + y * (ps.getD i (0, 0)).2 := by
      unfold fE
      rw [Int.mul_comm, Int.mul_comm (ps.getD i (0, 0)).2]
    rw [← hf]
    have new : fl (fE (x, y)) ps i b = fl (fE (x, y)) ps (i + 1) i → RoundEnd 3 (s_flExt ps x y) (inv_flExt ps x y) (me_flExt ps x y) re_flExt (rs_flExt ps x y) (i, b, m) .normal (s_flExt ps x y (i + 1, i, fE (x, y) (ps.getD i (0, 0)))) := fun e => by
      refine ⟨(i + 1, i, fE (x, y) (ps.getD i (0, 0))), [], ⟨by omega, .inr ⟨by omega, by omega, by rw [Int.toNat_natCast]⟩⟩, ?_, rfl, by simp only [rs_flExt]; rw [e], ?_⟩
      · show ps.length - (i + 1) < ps.length - i; omega
      · repeat' (first | exact True.intro | exact rfl | exact fun _ => rfl | refine And.intro ?_ ?_)
    refine ⟨fun hb => new (fl_first (by omega) hb), fun hb => ?_⟩
    obtain ⟨g1, g2, g3⟩ := h2.resolve_left (by omega)
    refine ⟨fun hle => new (fl_yes (by omega) g1 (by rw [← g3]; exact hle)), fun hle => ?_⟩
    refine ⟨(i + 1, b, m), [], ⟨by omega, .inr ⟨by omega, by omega, g3⟩⟩, ?_, rfl, by simp only [rs_flExt]; rw [fl_no (i := i) (by omega) g1 (by rw [← g3]; exact hle)], ?_⟩
    · show ps.length - (i + 1) < ps.length - i; omega
    · repeat' (first | exact True.intro | exact rfl | exact fun _ => rfl | refine And.intro ?_ ?_)
  · refine ⟨rfl, [], ?_⟩
    simp only [rs_flExt, fl_end (f := fE (x, y)) (ps := ps) (i := i) (by omega) (b := b) (h2.imp id fun h => h.1)]
    repeat' (first | exact True.intro | exact rfl | exact fun _ => rfl | refine And.intro ?_ ?_)
set_option maxRecDepth 100000 in
theorem lg_flExt : LoopE Try.prog e_flExt c_flExt := by
  intro s k t F H hlt ht
  unfold e_flExt at hlt
  split at hlt
  rotate_left
  · cases hlt
  rename_i hlen hpick hmem
  obtain ⟨tmps, mem⟩ := s
  simp only at hlen hpick hmem
  subst hmem
  obtain rfl := Option.some.inj hlt
  obtain ⟨⟨rfl, rfl, rfl, rfl, h1, h3, h4, h5, rfl, rfl, _⟩, ht2⟩ := needs_ok ht
  clear ht hlt
  obtain ⟨ps, rfl, rfl⟩ := even_flat h1
  rw [ptsA_flat] at ht2 h4
  refine ⟨_, _, ht2, loop_run mixed E3_ok (s_flExt ps _ _) (inv_flExt ps _ _) (me_flExt ps _ _) re_flExt (rs_flExt ps _ _) k_flExt (fun _ => rfl) (noLoops nl_flExt) (round_flExt ps _ _ h3 h4 h5) (x := (0, -1, 0)) ⟨Nat.zero_le _, .inl rfl⟩ (π := []) rfl ?_⟩
  refine ⟨rfl, rfl, ?_, wvs_spread' [1, 5, 6, 10, 11, 12] hlen rfl ?_⟩
  · repeat' (first | exact True.intro | exact rfl | exact wv_top _ _ | exact fun _ => rfl | assumption | exact Eq.symm (by assumption) | exact vI0 rfl | refine And.intro ?_ ?_)
  · rw [hpick]
    repeat' (first | exact True.intro | exact rfl | exact wv_top _ _ | exact fun _ => rfl | assumption | exact Eq.symm (by assumption) | exact vI0 rfl | refine And.intro ?_ ?_)
end Go.Proofs.Ytnjmepbblcfnfaa
namespace Go.Proofs.Ytnjmepbblcfnfaa
set_option linter.all false
open Go.RowKit
theorem Lr_flE {fn : Func} (hf : Try.prog.funcs[97]? = some fn) : LoopsGood Try.prog (lt1 e_flExt) 0 (codeOf fn) := by
  obtain rfl := code_of Try.func97 hf
  exact lt1_good lg_flExt
def L6 : FuncId → LT := fun f => match f with
  | 97 => lt1 e_flExt
  | _ => noL
def E6 : Env := mkE (T3) (R4) (L6)
theorem E6_ok : EnvOk Try.prog E6 := by
  refine mkEOk T3_ok (R4_ok) fun f fn hf => ?_
  show LoopsGood Try.prog (L6 f) 0 (codeOf fn)
  unfold L6
  split
  all_goals first | with_reducible exact Lr_sE hf | with_reducible exact Lr_flE hf | exact noL_good
set_option maxRecDepth 100000 in
theorem tr_implExtF (ps : List Pt) (x y : Int) : bodyX Try.prog E6 30 12 40 [.row ps.length (.ints (flat ps)), .v (.agg #[iv x, iv y])] = brT (decide ((↑ps.length : Int) ≤ 20)) (.need (ps.length * (2 : Nat) ≤ (List.drop (0 : Nat) (flat ps)).length) (.need (ps.length ≤ (1000000000 : Nat)) (brT (!allV (ptsA ps.length (List.drop 0 (flat ps)))) (.fin (.int .i64 (-1)) [some ⟨.view, .ints (flat ps)⟩, none, some ⟨.box, .vals [.int .i64 (x), .int .i64 (y)]⟩]) (brT (!ptB x y) (.fin (.int .i64 (-1)) [some ⟨.view, .ints (flat ps)⟩, none, some ⟨.box, .vals [.int .i64 (x), .int .i64 (y)]⟩]) (.need ((0 : Int) = (0 : Int)) (.need ((-1 : Int) = (-1 : Int)) (.need ((0 : Int) = (0 : Int)) (.need ((↑ps.length : Int) = (↑ps.length : Int)) (.need ((flat ps).length = ps.length * (2 : Nat)) (.need (ps.length ≤ (20 : Nat)) (.need (allV (ptsA ps.length (flat ps)) = true) (.need (ptB x y = true) (.need (x = x) (.need (y = y) (.fin (.int .i64 (fl (fE (x, y)) (ptsA ps.length (flat ps)) 0 (-1))) [some ⟨.view, .ints (flat ps)⟩, none, some ⟨.box, .vals [.int .i64 (x), .int .i64 (y)]⟩]))))))))))))))) (.fin (.int .i64 (-1)) [some ⟨.view, .ints (flat ps)⟩, none, some ⟨.box, .vals [.int .i64 (x), .int .i64 (y)]⟩]) := by kernel_rfl
/-- The first largest, if all is valid. -/
def flV (f : Pt → Int) (ps : List Pt) (x y : Int) : Int := bif okL ps && ptB x y then fl f ps 0 (-1) else -1
theorem impl_ext (ps : List Pt) (x y : Int) (h : Big ps) : Res Try.prog 40 [.row ps.length (.ints (flat ps)), .v (.agg #[iv x, iv y])] (iv (flV (fE (x, y)) ps x y)) := by
  refine bodyX_res mixed E6_ok (m := 30) (n := 12) rfl ?_
  rw [tr_implExtF]
  unfold Big at h
  simp only [List.drop_zero, ptsA_flat, flat_length]
  unfold flV okL
  by_cases hl : ps.length ≤ 20
  · have hl2 : (ps.length : Int) ≤ 20 := by omega
    cases hk : allV ps <;> cases hq : ptB x y <;> simp [Tree.ok, brT, h, hl, hl2]
  · have hl2 : ¬ (ps.length : Int) ≤ 20 := by omega
    simp [Tree.ok, brT, hl, hl2]
def pPP (g : List Pt → Int → Int → Int) : List DArg → Option (Value × List Prop)
  | [.row m (.ints xs), .v (.agg ⟨[.int .i64 x, .int .i64 y]⟩)] => some (iv (g (ptsA m xs) x y), [m * 2 ≤ xs.length, m ≤ 1000000000])
  | _ => none
theorem pPP_ok {f : FuncId} {g : List Pt → Int → Int → Int} (h : ∀ (ps : List Pt) (x y : Int), Big ps → Res Try.prog f [.row ps.length (.ints (flat ps)), .v (.agg #[iv x, iv y])] (iv (g ps x y))) {ds : List DArg} {v : Value} {C : List Prop} (hd : pPP g ds = some (v, C)) (hC : AllP C) : Res Try.prog f ds v := by
  unfold pPP at hd
  split at hd
  · rename_i m xs x y
    obtain ⟨rfl, rfl⟩ : _ ∧ _ := by simpa using hd
    obtain ⟨_, h2⟩ := ptsA_spec hC.1
    exact res_pts1 (pre := []) (post := [_]) hC.1 (h (ptsA m xs) x y (by unfold Big; rw [h2]; exact hC.2.1))
  · cases hd
def extV (ps : List Pt) (x y : Int) : Int := flV (fE (x, y)) ps x y
theorem impl_extV (ps : List Pt) (x y : Int) (h : Big ps) : Res Try.prog 40 [.row ps.length (.ints (flat ps)), .v (.agg #[iv x, iv y])] (iv (extV ps x y)) := impl_ext ps x y h
def T4' : Tab := fun f ds => match f with
  | 40 => pPP extV ds
  | f => T3 f ds
theorem T4'_ok : TabOk Try.prog T4' := by
  intro f ds v C h hC
  unfold T4' at h
  (try split at h)
  all_goals first | with_reducible exact pPP_ok spec_extV h hC | with_reducible exact pPP_ok impl_extV h hC | exact T3_ok _ _ _ _ h hC
def E7 : Env := mkE (T4') (R4) (fun _ => noL)
theorem E7_ok : EnvOk Try.prog E7 := mkEOk (T4'_ok) (R4_ok) (fun _ _ _ => noL_good)
end Go.Proofs.Ytnjmepbblcfnfaa
namespace Go.Proofs.Ytnjmepbblcfnfaa
set_option linter.all false
open Go.RowKit
set_option maxRecDepth 100000 in
theorem tr_comparePt (x y z w : Int) : bodyX Try.prog E7 30 12 73 [.v (.agg #[iv x, iv y]), .v (.agg #[iv z, iv w])] = .need ((0 : Int) ≤ (0 : Int) ∧ (0 : Int) < (↑(2 : Nat) : Int)) (brT (!cmpI x z == 0) (.fin (.int .i64 (cmpI x z)) [none, none, some ⟨.box, .vals [.int .i64 (x), .int .i64 (y)]⟩, some ⟨.box, .vals [.int .i64 (z), .int .i64 (w)]⟩, none, none, some ⟨.row 3 1, .vals [.int .i64 (cmpI x z), .int .i64 (cmpI y w)]⟩, none]) (.need ((0 : Int) ≤ IntKind.i64.wrap ((0 : Int) + (1 : Int)) ∧ IntKind.i64.wrap ((0 : Int) + (1 : Int)) < (↑(2 : Nat) : Int)) (brT (!cmpI y w == 0) (.fin (.int .i64 (cmpI y w)) [none, none, some ⟨.box, .vals [.int .i64 (x), .int .i64 (y)]⟩, some ⟨.box, .vals [.int .i64 (z), .int .i64 (w)]⟩, none, none, some ⟨.row 3 1, .vals [.int .i64 (cmpI x z), .int .i64 (cmpI y w)]⟩, none]) (.fin (.int .i64 (0)) [none, none, some ⟨.box, .vals [.int .i64 (x), .int .i64 (y)]⟩, some ⟨.box, .vals [.int .i64 (z), .int .i64 (w)]⟩, none, none, some ⟨.row 3 1, .vals [.int .i64 (cmpI x z), .int .i64 (cmpI y w)]⟩, none])))) := by kernel_rfl
def cmpP (x y z w : Int) : Int := if pltB (x, y) (z, w) then -1 else if pltB (z, w) (x, y) then 1 else 0
theorem res_comparePt (x y z w : Int) : Res Try.prog 73 [.v (.agg #[iv x, iv y]), .v (.agg #[iv z, iv w])] (iv (cmpP x y z w)) := by
  refine bodyX_res mixed E7_ok (m := 30) (n := 12) rfl ?_
  rw [tr_comparePt]
  have w1 : IntKind.i64.wrap ((0 : Int) + 1) = 1 := by decide
  simp only [brT_ok, Tree.ok, w1, Bool.not_eq_true', Bool.not_eq_false', beq_iff_eq, beq_eq_false_iff_ne]
  have key : ∀ a b : Int, (cmpI a b = -1 ∧ a < b) ∨ (cmpI a b = 0 ∧ a = b) ∨ (cmpI a b = 1 ∧ b < a) := by
    intro a b
    unfold cmpI
    split
    · exact .inl ⟨rfl, by assumption⟩
    · split
      · exact .inr (.inr ⟨rfl, by omega⟩)
      · exact .inr (.inl ⟨rfl, by omega⟩)
  have kp : (cmpP x y z w = -1 ∧ (x < z ∨ x = z ∧ y < w)) ∨ (cmpP x y z w = 0 ∧ x = z ∧ y = w) ∨ (cmpP x y z w = 1 ∧ (z < x ∨ x = z ∧ w < y)) := by
    unfold cmpP
    simp only [pltB_iff]
    split
    · exact .inl ⟨rfl, by assumption⟩
    · split
      · exact .inr (.inr ⟨rfl, by omega⟩)
      · exact .inr (.inl ⟨rfl, by omega⟩)
  have k1 := key x z
  have k2 := key y w
  refine ⟨by omega, fun h => vint_eq (by omega), fun h => ⟨by omega, fun h2 => vint_eq (by omega), fun h2 => vint_eq (by omega)⟩⟩
def pCmpPt : List DArg → Option (Value × List Prop)
  | [.v (.agg ⟨[.int .i64 x, .int .i64 y]⟩), .v (.agg ⟨[.int .i64 z, .int .i64 w]⟩)] => some (iv (cmpP x y z w), [])
  | _ => none
def T5' : Tab := fun f ds => match f with
  | 73 => pCmpPt ds
  | f => T4' f ds
theorem T5'_ok : TabOk Try.prog T5' := by
  intro f ds v C h hC
  unfold T5' at h
  split at h
  · unfold pCmpPt at h
    split at h
    · obtain ⟨rfl, rfl⟩ : _ ∧ _ := by simpa using h
      exact res_comparePt _ _ _ _
    · cases h
  · exact T4'_ok _ _ _ _ h hC
def E8 : Env := mkE (T5') (R4) (fun _ => noL)
theorem E8_ok : EnvOk Try.prog E8 := mkEOk (T5'_ok) (R4_ok) (fun _ _ _ => noL_good)
noncomputable def c_minF : Code := ((loopsOf (codeOf Try.f72))[0]?).getD .skip
def k_minF : Ex → List Nat := keeps [0, 1, 4, 5, 6] [(0, [4, 5])] [4]
def s_minF (ps : List Pt) : Nat × Pt → St := fun (i, m) => ⟨(.slice (some ⟨0, 0, none⟩) ps.length ps.length :: .func (.func 73) #[] #[] :: topV :: topV :: .pointer (some ⟨2, 0, none⟩) :: .pointer (some ⟨3, 0, none⟩) :: .int .i64 i :: topV :: topV :: topV :: topV :: topV :: topV :: topV :: topV :: topV :: topV :: topV :: topV :: topV :: topV :: topV :: topV :: topV :: topV :: topV :: topV :: topV :: topV :: topV :: topV :: topV :: topV :: []), [some ⟨.view, .ints (flat ps)⟩, none, some ⟨.box, .vals [.int .i64 0, .int .i64 0]⟩, some ⟨.box, .vals [.int .i64 m.1, .int .i64 m.2]⟩]⟩
def re_minF : Nat × Pt → Ex := fun _ => .exit 0
def rs_minF (ps : List Pt) : Nat × Pt → St := fun (i, m) => ⟨(topV :: topV :: topV :: topV :: .pointer (some ⟨2, 0, none⟩) :: .pointer (some ⟨3, 0, none⟩) :: topV :: topV :: topV :: topV :: topV :: topV :: topV :: topV :: topV :: topV :: topV :: topV :: topV :: topV :: topV :: topV :: topV :: topV :: topV :: topV :: topV :: topV :: topV :: topV :: topV :: topV :: topV :: []), [some ⟨.view, .ints (flat ps)⟩, none, some ⟨.box, .vals [.int .i64 0, .int .i64 0]⟩, some ⟨.box, .vals [.int .i64 (minL m (ps.drop i)).1, .int .i64 (minL m (ps.drop i)).2]⟩]⟩
set_option maxRecDepth 100000 in
theorem tr_minF (ps : List Pt) (i : Nat) (m : Pt) : bodyL Try.prog E8 30 12 noL 1 c_minF k_minF 4 (s_minF ps (i, m)) = brT (decide ((↑i : Int) < (↑ps.length : Int))) (.need ((0 : Int) ≤ (↑i : Int) ∧ (↑i : Int) < (↑ps.length : Int)) (.need ((0 : Nat) + (↑i : Int).toNat * (2 : Nat) + (2 : Nat) ≤ (flat ps).length) (brT (decide (cmpP ((flat ps).getD (0 + (↑i : Int).toNat * 2) 0) ((flat ps).getD (0 + (↑i : Int).toNat * 2 + 1) 0) m.1 m.2 < 0)) (.need ((0 : Int) ≤ (↑i : Int) ∧ (↑i : Int) < (↑ps.length : Int)) (.need ((0 : Nat) + (↑i : Int).toNat * (2 : Nat) + (2 : Nat) ≤ (flat ps).length) (.leaf .normal ⟨(.slice (some ⟨0, 0, none⟩) (ps.length) (ps.length) :: .func (Fn.func 73) #[] #[] :: topV :: topV :: .pointer (some ⟨2, 0, none⟩) :: .pointer (some ⟨3, 0, none⟩) :: .int .i64 (IntKind.i64.wrap ((↑i : Int) + 1)) :: topV :: topV :: topV :: topV :: topV :: topV :: topV :: topV :: topV :: topV :: topV :: topV :: topV :: topV :: topV :: topV :: topV :: topV :: topV :: topV :: topV :: topV :: topV :: topV :: topV :: topV :: []), [some ⟨.view, .ints (flat ps)⟩, none, some ⟨.box, .vals [.int .i64 (0), .int .i64 (0)]⟩, some ⟨.box, .vals [.int .i64 ((flat ps).getD (0 + (↑i : Int).toNat * 2) 0), .int .i64 ((flat ps).getD (0 + (↑i : Int).toNat * 2 + 1) 0)]⟩]⟩))) (.leaf .normal ⟨(.slice (some ⟨0, 0, none⟩) (ps.length) (ps.length) :: .func (Fn.func 73) #[] #[] :: topV :: topV :: .pointer (some ⟨2, 0, none⟩) :: .pointer (some ⟨3, 0, none⟩) :: .int .i64 (IntKind.i64.wrap ((↑i : Int) + 1)) :: topV :: topV :: topV :: topV :: topV :: topV :: topV :: topV :: topV :: topV :: topV :: topV :: topV :: topV :: topV :: topV :: topV :: topV :: topV :: topV :: topV :: topV :: topV :: topV :: topV :: topV :: []), [some ⟨.view, .ints (flat ps)⟩, none, some ⟨.box, .vals [.int .i64 (0), .int .i64 (0)]⟩, some ⟨.box, .vals [.int .i64 (m.1), .int .i64 (m.2)]⟩]⟩)))) (.leaf (.exit 0) ⟨(topV :: topV :: topV :: topV :: .pointer (some ⟨2, 0, none⟩) :: .pointer (some ⟨3, 0, none⟩) :: topV :: topV :: topV :: topV :: topV :: topV :: topV :: topV :: topV :: topV :: topV :: topV :: topV :: topV :: topV :: topV :: topV :: topV :: topV :: topV :: topV :: topV :: topV :: topV :: topV :: topV :: topV :: []), [some ⟨.view, .ints (flat ps)⟩, none, some ⟨.box, .vals [.int .i64 (0), .int .i64 (0)]⟩, some ⟨.box, .vals [.int .i64 (m.1), .int .i64 (m.2)]⟩]⟩) := by kernel_rfl
set_option maxRecDepth 100000 in
theorem nl_minF : loopsOf c_minF = [] := by kernel_rfl
def inv_minF (ps : List Pt) : Nat × Pt → Prop := fun (i, m) => i ≤ ps.length
def me_minF (ps : List Pt) : Nat × Pt → Nat := fun (i, m) => ps.length - i
/-- A round of this loop. -/
def Round_minF (ps : List Pt) : Prop := ∀ xx : Nat × Pt, inv_minF ps xx → (bodyL Try.prog E8 30 12 noL 1 c_minF k_minF 4 (s_minF ps xx)).ok (RoundEnd 4 (s_minF ps) (inv_minF ps) (me_minF ps) re_minF (rs_minF ps) xx) (fun _ _ => False)
def e_minF (s : St) (k : Ex → St → Tree) : Option Tree := match Nat.beq s.tmps.length 33, pickL s.tmps [0, 1, 4, 5, 6], s.mem with
  | true, [.slice (some ⟨0, 0, none⟩) n _, .func (.func 73) ⟨[]⟩ ⟨[]⟩, .pointer (some ⟨2, 0, none⟩), .pointer (some ⟨3, 0, none⟩), .int .i64 i], [some ⟨.view, .ints xs⟩, none, some ⟨.box, .vals [.int .i64 z1, .int .i64 z2]⟩, some ⟨.box, .vals [.int .i64 x, .int .i64 y]⟩] => some (needs [i = 1, z1 = 0, z2 = 0, xs.length = n * 2, n ≤ 1000000000, 0 < n] (k (.exit 0) ⟨(topV :: topV :: topV :: topV :: .pointer (some ⟨2, 0, none⟩) :: .pointer (some ⟨3, 0, none⟩) :: topV :: topV :: topV :: topV :: topV :: topV :: topV :: topV :: topV :: topV :: topV :: topV :: topV :: topV :: topV :: topV :: topV :: topV :: topV :: topV :: topV :: topV :: topV :: topV :: topV :: topV :: topV :: []), [some ⟨.view, .ints xs⟩, none, some ⟨.box, .vals [.int .i64 0, .int .i64 0]⟩, some ⟨.box, .vals [.int .i64 (minL (x, y) ((ptsA n xs).drop 1)).1, .int .i64 (minL (x, y) ((ptsA n xs).drop 1)).2]⟩]⟩))
  | _, _, _ => none
set_option maxRecDepth 100000 in
theorem round_minF (ps : List Pt) (h : ps.length ≤ 1000000000) : Round_minF ps := by
  rintro ⟨i, m⟩ h1
  simp only [inv_minF] at h1
  rw [tr_minF]
  simp only [brT_ok, Tree.ok, decide_eq_true_eq, decide_eq_false_iff_not, Int.toNat_natCast, Nat.zero_add, flat_length, flat_get0, flat_get1]
  refine ⟨fun hlt => ?_, fun hge => ?_⟩
  · have hd : ps.drop i = ps.getD i (0, 0) :: ps.drop (i + 1) := drop_cons (by omega) _
    rw [wsucc (n := ps.length) (by omega) h]
    refine ⟨by omega, by omega, fun hle => ⟨by omega, by omega, ?_⟩, fun hle => ?_⟩
    · have e : pltB (ps.getD i (0, 0)) m = true := by
        unfold cmpP at hle
        by_cases hp : pltB (ps.getD i (0, 0)) m = true
        · exact hp
        · exfalso
          rw [if_neg hp] at hle
          split at hle <;> omega
      refine ⟨(i + 1, ps.getD i (0, 0)), [], by show i + 1 ≤ ps.length; omega, ?_, rfl, ?_, ?_⟩
      · show ps.length - (i + 1) < ps.length - i; omega
      · have em : minL m (ps.drop i) = minL (ps.getD i (0, 0)) (ps.drop (i + 1)) := by
          rw [hd]
          show minL (if pltB (ps.getD i (0, 0)) m then ps.getD i (0, 0) else m) (ps.drop (i + 1)) = _
          rw [if_pos e]
        simp only [rs_minF, em]
      · repeat' (first | exact True.intro | exact rfl | exact fun _ => rfl | refine And.intro ?_ ?_)
    · have e : ¬ pltB (ps.getD i (0, 0)) m = true := by
        unfold cmpP at hle
        intro hp
        rw [if_pos hp] at hle
        omega
      refine ⟨(i + 1, m), [], by show i + 1 ≤ ps.length; omega, ?_, rfl, ?_, ?_⟩
      · show ps.length - (i + 1) < ps.length - i; omega
      · have em : minL m (ps.drop i) = minL m (ps.drop (i + 1)) := by
          rw [hd]
          show minL (if pltB (ps.getD i (0, 0)) m then ps.getD i (0, 0) else m) (ps.drop (i + 1)) = _
          rw [if_neg e]
        simp only [rs_minF, em]
      · repeat' (first | exact True.intro | exact rfl | exact fun _ => rfl | refine And.intro ?_ ?_)
  · refine ⟨rfl, [], ?_⟩
    have em : minL m (ps.drop i) = m := by rw [List.drop_of_length_le (by omega)]; rfl
    simp only [rs_minF, em]
    repeat' (first | exact True.intro | exact rfl | exact fun _ => rfl | refine And.intro ?_ ?_)
set_option maxRecDepth 100000 in
theorem lg_minF : LoopE Try.prog e_minF c_minF := by
  intro s k t F H hlt ht
  unfold e_minF at hlt
  split at hlt
  rotate_left
  · cases hlt
  rename_i hlen hpick hmem
  obtain ⟨tmps, mem⟩ := s
  simp only at hlen hpick hmem
  subst hmem
  obtain rfl := Option.some.inj hlt
  obtain ⟨⟨rfl, rfl, rfl, h1, h2, h3, _⟩, ht2⟩ := needs_ok ht
  clear ht hlt
  obtain ⟨ps, rfl, rfl⟩ := even_flat h1
  rw [ptsA_flat] at ht2
  refine ⟨_, _, ht2, loop_run mixed E8_ok (s_minF ps) (inv_minF ps) (me_minF ps) re_minF (rs_minF ps) k_minF (fun _ => rfl) (noLoops nl_minF) (round_minF ps h2) (x := (1, (_, _))) h3 (π := []) rfl ?_⟩
  refine ⟨rfl, rfl, ?_, wvs_spread' [0, 1, 4, 5, 6] hlen rfl ?_⟩
  · repeat' (first | exact True.intro | exact rfl | exact wv_top _ _ | exact fun _ => rfl | assumption | exact Eq.symm (by assumption) | exact vI0 rfl | refine And.intro ?_ ?_)
  · rw [hpick]
    repeat' (first | exact True.intro | exact rfl | exact wv_top _ _ | exact fun _ => rfl | assumption | exact Eq.symm (by assumption) | exact vI0 rfl | refine And.intro ?_ ?_)
noncomputable def c_maxF : Code := ((loopsOf (codeOf Try.f74))[0]?).getD .skip
def k_maxF : Ex → List Nat := keeps [0, 1, 4, 5, 6] [(0, [4, 5])] [4]
def s_maxF (ps : List Pt) : Nat × Pt → St := fun (i, m) => ⟨(.slice (some ⟨0, 0, none⟩) ps.length ps.length :: .func (.func 73) #[] #[] :: topV :: topV :: .pointer (some ⟨2, 0, none⟩) :: .pointer (some ⟨3, 0, none⟩) :: .int .i64 i :: topV :: topV :: topV :: topV :: topV :: topV :: topV :: topV :: topV :: topV :: topV :: topV :: topV :: topV :: topV :: topV :: topV :: topV :: topV :: topV :: topV :: topV :: topV :: topV :: topV :: topV :: []), [some ⟨.view, .ints (flat ps)⟩, none, some ⟨.box, .vals [.int .i64 0, .int .i64 0]⟩, some ⟨.box, .vals [.int .i64 m.1, .int .i64 m.2]⟩]⟩
def re_maxF : Nat × Pt → Ex := fun _ => .exit 0
def rs_maxF (ps : List Pt) : Nat × Pt → St := fun (i, m) => ⟨(topV :: topV :: topV :: topV :: .pointer (some ⟨2, 0, none⟩) :: .pointer (some ⟨3, 0, none⟩) :: topV :: topV :: topV :: topV :: topV :: topV :: topV :: topV :: topV :: topV :: topV :: topV :: topV :: topV :: topV :: topV :: topV :: topV :: topV :: topV :: topV :: topV :: topV :: topV :: topV :: topV :: topV :: []), [some ⟨.view, .ints (flat ps)⟩, none, some ⟨.box, .vals [.int .i64 0, .int .i64 0]⟩, some ⟨.box, .vals [.int .i64 (maxL m (ps.drop i)).1, .int .i64 (maxL m (ps.drop i)).2]⟩]⟩
set_option maxRecDepth 100000 in
theorem tr_maxF (ps : List Pt) (i : Nat) (m : Pt) : bodyL Try.prog E8 30 12 noL 1 c_maxF k_maxF 4 (s_maxF ps (i, m)) = brT (decide ((↑i : Int) < (↑ps.length : Int))) (.need ((0 : Int) ≤ (↑i : Int) ∧ (↑i : Int) < (↑ps.length : Int)) (.need ((0 : Nat) + (↑i : Int).toNat * (2 : Nat) + (2 : Nat) ≤ (flat ps).length) (brT (decide (0 < cmpP ((flat ps).getD (0 + (↑i : Int).toNat * 2) 0) ((flat ps).getD (0 + (↑i : Int).toNat * 2 + 1) 0) m.1 m.2)) (.need ((0 : Int) ≤ (↑i : Int) ∧ (↑i : Int) < (↑ps.length : Int)) (.need ((0 : Nat) + (↑i : Int).toNat * (2 : Nat) + (2 : Nat) ≤ (flat ps).length) (.leaf .normal ⟨(.slice (some ⟨0, 0, none⟩) (ps.length) (ps.length) :: .func (Fn.func 73) #[] #[] :: topV :: topV :: .pointer (some ⟨2, 0, none⟩) :: .pointer (some ⟨3, 0, none⟩) :: .int .i64 (IntKind.i64.wrap ((↑i : Int) + 1)) :: topV :: topV :: topV :: topV :: topV :: topV :: topV :: topV :: topV :: topV :: topV :: topV :: topV :: topV :: topV :: topV :: topV :: topV :: topV :: topV :: topV :: topV :: topV :: topV :: topV :: topV :: []), [some ⟨.view, .ints (flat ps)⟩, none, some ⟨.box, .vals [.int .i64 (0), .int .i64 (0)]⟩, some ⟨.box, .vals [.int .i64 ((flat ps).getD (0 + (↑i : Int).toNat * 2) 0), .int .i64 ((flat ps).getD (0 + (↑i : Int).toNat * 2 + 1) 0)]⟩]⟩))) (.leaf .normal ⟨(.slice (some ⟨0, 0, none⟩) (ps.length) (ps.length) :: .func (Fn.func 73) #[] #[] :: topV :: topV :: .pointer (some ⟨2, 0, none⟩) :: .pointer (some ⟨3, 0, none⟩) :: .int .i64 (IntKind.i64.wrap ((↑i : Int) + 1)) :: topV :: topV :: topV :: topV :: topV :: topV :: topV :: topV :: topV :: topV :: topV :: topV :: topV :: topV :: topV :: topV :: topV :: topV :: topV :: topV :: topV :: topV :: topV :: topV :: topV :: topV :: []), [some ⟨.view, .ints (flat ps)⟩, none, some ⟨.box, .vals [.int .i64 (0), .int .i64 (0)]⟩, some ⟨.box, .vals [.int .i64 (m.1), .int .i64 (m.2)]⟩]⟩)))) (.leaf (.exit 0) ⟨(topV :: topV :: topV :: topV :: .pointer (some ⟨2, 0, none⟩) :: .pointer (some ⟨3, 0, none⟩) :: topV :: topV :: topV :: topV :: topV :: topV :: topV :: topV :: topV :: topV :: topV :: topV :: topV :: topV :: topV :: topV :: topV :: topV :: topV :: topV :: topV :: topV :: topV :: topV :: topV :: topV :: topV :: []), [some ⟨.view, .ints (flat ps)⟩, none, some ⟨.box, .vals [.int .i64 (0), .int .i64 (0)]⟩, some ⟨.box, .vals [.int .i64 (m.1), .int .i64 (m.2)]⟩]⟩) := by kernel_rfl
set_option maxRecDepth 100000 in
theorem nl_maxF : loopsOf c_maxF = [] := by kernel_rfl
def inv_maxF (ps : List Pt) : Nat × Pt → Prop := fun (i, m) => i ≤ ps.length
def me_maxF (ps : List Pt) : Nat × Pt → Nat := fun (i, m) => ps.length - i
/-- A round of this loop. -/
def Round_maxF (ps : List Pt) : Prop := ∀ xx : Nat × Pt, inv_maxF ps xx → (bodyL Try.prog E8 30 12 noL 1 c_maxF k_maxF 4 (s_maxF ps xx)).ok (RoundEnd 4 (s_maxF ps) (inv_maxF ps) (me_maxF ps) re_maxF (rs_maxF ps) xx) (fun _ _ => False)
def e_maxF (s : St) (k : Ex → St → Tree) : Option Tree := match Nat.beq s.tmps.length 33, pickL s.tmps [0, 1, 4, 5, 6], s.mem with
  | true, [.slice (some ⟨0, 0, none⟩) n _, .func (.func 73) ⟨[]⟩ ⟨[]⟩, .pointer (some ⟨2, 0, none⟩), .pointer (some ⟨3, 0, none⟩), .int .i64 i], [some ⟨.view, .ints xs⟩, none, some ⟨.box, .vals [.int .i64 z1, .int .i64 z2]⟩, some ⟨.box, .vals [.int .i64 x, .int .i64 y]⟩] => some (needs [i = 1, z1 = 0, z2 = 0, xs.length = n * 2, n ≤ 1000000000, 0 < n] (k (.exit 0) ⟨(topV :: topV :: topV :: topV :: .pointer (some ⟨2, 0, none⟩) :: .pointer (some ⟨3, 0, none⟩) :: topV :: topV :: topV :: topV :: topV :: topV :: topV :: topV :: topV :: topV :: topV :: topV :: topV :: topV :: topV :: topV :: topV :: topV :: topV :: topV :: topV :: topV :: topV :: topV :: topV :: topV :: topV :: []), [some ⟨.view, .ints xs⟩, none, some ⟨.box, .vals [.int .i64 0, .int .i64 0]⟩, some ⟨.box, .vals [.int .i64 (maxL (x, y) ((ptsA n xs).drop 1)).1, .int .i64 (maxL (x, y) ((ptsA n xs).drop 1)).2]⟩]⟩))
  | _, _, _ => none
set_option maxRecDepth 100000 in
theorem round_maxF (ps : List Pt) (h : ps.length ≤ 1000000000) : Round_maxF ps := by
  rintro ⟨i, m⟩ h1
  simp only [inv_maxF] at h1
  rw [tr_maxF]
  simp only [brT_ok, Tree.ok, decide_eq_true_eq, decide_eq_false_iff_not, Int.toNat_natCast, Nat.zero_add, flat_length, flat_get0, flat_get1]
  refine ⟨fun hlt => ?_, fun hge => ?_⟩
  · have hd : ps.drop i = ps.getD i (0, 0) :: ps.drop (i + 1) := drop_cons (by omega) _
    have key : 0 < cmpP (ps.getD i (0, 0)).1 (ps.getD i (0, 0)).2 m.1 m.2 ↔ pltB m (ps.getD i (0, 0)) = true := by
      unfold cmpP
      simp only [pltB_iff]
      split
      · omega
      · split <;> omega
    rw [wsucc (n := ps.length) (by omega) h]
    refine ⟨by omega, by omega, fun hle => ⟨by omega, by omega, ?_⟩, fun hle => ?_⟩
    · have e := key.1 hle
      refine ⟨(i + 1, ps.getD i (0, 0)), [], by show i + 1 ≤ ps.length; omega, ?_, rfl, ?_, ?_⟩
      · show ps.length - (i + 1) < ps.length - i; omega
      · have em : maxL m (ps.drop i) = maxL (ps.getD i (0, 0)) (ps.drop (i + 1)) := by
          rw [hd]
          show maxL (if pltB m (ps.getD i (0, 0)) then ps.getD i (0, 0) else m) (ps.drop (i + 1)) = _
          rw [if_pos e]
        simp only [rs_maxF, em]
      · repeat' (first | exact True.intro | exact rfl | exact fun _ => rfl | refine And.intro ?_ ?_)
    · have e : ¬ pltB m (ps.getD i (0, 0)) = true := fun h => hle (key.2 h)
      refine ⟨(i + 1, m), [], by show i + 1 ≤ ps.length; omega, ?_, rfl, ?_, ?_⟩
      · show ps.length - (i + 1) < ps.length - i; omega
      · have em : maxL m (ps.drop i) = maxL m (ps.drop (i + 1)) := by
          rw [hd]
          show maxL (if pltB m (ps.getD i (0, 0)) then ps.getD i (0, 0) else m) (ps.drop (i + 1)) = _
          rw [if_neg e]
        simp only [rs_maxF, em]
      · repeat' (first | exact True.intro | exact rfl | exact fun _ => rfl | refine And.intro ?_ ?_)
  · refine ⟨rfl, [], ?_⟩
    have em : maxL m (ps.drop i) = m := by rw [List.drop_of_length_le (by omega)]; rfl
    simp only [rs_maxF, em]
    repeat' (first | exact True.intro | exact rfl | exact fun _ => rfl | refine And.intro ?_ ?_)
set_option maxRecDepth 100000 in
theorem lg_maxF : LoopE Try.prog e_maxF c_maxF := by
  intro s k t F H hlt ht
  unfold e_maxF at hlt
  split at hlt
  rotate_left
  · cases hlt
  rename_i hlen hpick hmem
  obtain ⟨tmps, mem⟩ := s
  simp only at hlen hpick hmem
  subst hmem
  obtain rfl := Option.some.inj hlt
  obtain ⟨⟨rfl, rfl, rfl, h1, h2, h3, _⟩, ht2⟩ := needs_ok ht
  clear ht hlt
  obtain ⟨ps, rfl, rfl⟩ := even_flat h1
  rw [ptsA_flat] at ht2
  refine ⟨_, _, ht2, loop_run mixed E8_ok (s_maxF ps) (inv_maxF ps) (me_maxF ps) re_maxF (rs_maxF ps) k_maxF (fun _ => rfl) (noLoops nl_maxF) (round_maxF ps h2) (x := (1, (_, _))) h3 (π := []) rfl ?_⟩
  refine ⟨rfl, rfl, ?_, wvs_spread' [0, 1, 4, 5, 6] hlen rfl ?_⟩
  · repeat' (first | exact True.intro | exact rfl | exact wv_top _ _ | exact fun _ => rfl | assumption | exact Eq.symm (by assumption) | exact vI0 rfl | refine And.intro ?_ ?_)
  · rw [hpick]
    repeat' (first | exact True.intro | exact rfl | exact wv_top _ _ | exact fun _ => rfl | assumption | exact Eq.symm (by assumption) | exact vI0 rfl | refine And.intro ?_ ?_)
end Go.Proofs.Ytnjmepbblcfnfaa
namespace Go.Proofs.Ytnjmepbblcfnfaa
set_option linter.all false
open Go.RowKit
def L8 : FuncId → LT := fun f => match f with
  | 72 => lt1 e_minF
  | 74 => lt1 e_maxF
  | _ => noL
def E9 : Env := mkE (T5') (R4) (L8)
theorem E9_ok : EnvOk Try.prog E9 := by
  refine mkEOk T5'_ok (R4_ok) fun f fn hf => ?_
  show LoopsGood Try.prog (L8 f) 0 (codeOf fn)
  unfold L8
  split
  · obtain rfl := code_of Try.func72 hf
    exact lt1_good lg_minF
  · obtain rfl := code_of Try.func74 hf
    exact lt1_good lg_maxF
  · exact noL_good
set_option maxRecDepth 100000 in
theorem tr_minFF (ps : List Pt) : bodyX Try.prog E9 30 12 72 [.row ps.length (.ints (flat ps)), .v (.func (.func 73) #[] #[])] = brT (decide ((↑ps.length : Int) < 1)) (.bad) (.need ((0 : Int) ≤ (0 : Int) ∧ (0 : Int) < (↑ps.length : Int)) (.need ((2 : Nat) ≤ (flat ps).length) (.need ((1 : Int) = (1 : Int)) (.need ((0 : Int) = (0 : Int)) (.need ((0 : Int) = (0 : Int)) (.need ((flat ps).length = ps.length * (2 : Nat)) (.need (ps.length ≤ (1000000000 : Nat)) (.need ((0 : Nat) < ps.length) (.fin (.agg #[.int .i64 ((minL ((flat ps).getD (0 + Int.toNat 0 * (2 : Nat)) 0, (flat ps).getD (0 + Int.toNat 0 * (2 : Nat) + 1) 0) (List.drop 1 (ptsA ps.length (flat ps)))).1), .int .i64 ((minL ((flat ps).getD (0 + Int.toNat 0 * (2 : Nat)) 0, (flat ps).getD (0 + Int.toNat 0 * (2 : Nat) + 1) 0) (List.drop 1 (ptsA ps.length (flat ps)))).2)]) [some ⟨.view, .ints (flat ps)⟩, none, some ⟨.box, .vals [.int .i64 ((minL ((flat ps).getD (0 + Int.toNat 0 * (2 : Nat)) 0, (flat ps).getD (0 + Int.toNat 0 * (2 : Nat) + 1) 0) (List.drop 1 (ptsA ps.length (flat ps)))).1), .int .i64 ((minL ((flat ps).getD (0 + Int.toNat 0 * (2 : Nat)) 0, (flat ps).getD (0 + Int.toNat 0 * (2 : Nat) + 1) 0) (List.drop 1 (ptsA ps.length (flat ps)))).2)]⟩, some ⟨.box, .vals [.int .i64 ((minL ((flat ps).getD (0 + Int.toNat 0 * (2 : Nat)) 0, (flat ps).getD (0 + Int.toNat 0 * (2 : Nat) + 1) 0) (List.drop 1 (ptsA ps.length (flat ps)))).1), .int .i64 ((minL ((flat ps).getD (0 + Int.toNat 0 * (2 : Nat)) 0, (flat ps).getD (0 + Int.toNat 0 * (2 : Nat) + 1) 0) (List.drop 1 (ptsA ps.length (flat ps)))).2)]⟩]))))))))) := by kernel_rfl
set_option maxRecDepth 100000 in
theorem tr_maxFF (ps : List Pt) : bodyX Try.prog E9 30 12 74 [.row ps.length (.ints (flat ps)), .v (.func (.func 73) #[] #[])] = brT (decide ((↑ps.length : Int) < 1)) (.bad) (.need ((0 : Int) ≤ (0 : Int) ∧ (0 : Int) < (↑ps.length : Int)) (.need ((2 : Nat) ≤ (flat ps).length) (.need ((1 : Int) = (1 : Int)) (.need ((0 : Int) = (0 : Int)) (.need ((0 : Int) = (0 : Int)) (.need ((flat ps).length = ps.length * (2 : Nat)) (.need (ps.length ≤ (1000000000 : Nat)) (.need ((0 : Nat) < ps.length) (.fin (.agg #[.int .i64 ((maxL ((flat ps).getD (0 + Int.toNat 0 * (2 : Nat)) 0, (flat ps).getD (0 + Int.toNat 0 * (2 : Nat) + 1) 0) (List.drop 1 (ptsA ps.length (flat ps)))).1), .int .i64 ((maxL ((flat ps).getD (0 + Int.toNat 0 * (2 : Nat)) 0, (flat ps).getD (0 + Int.toNat 0 * (2 : Nat) + 1) 0) (List.drop 1 (ptsA ps.length (flat ps)))).2)]) [some ⟨.view, .ints (flat ps)⟩, none, some ⟨.box, .vals [.int .i64 ((maxL ((flat ps).getD (0 + Int.toNat 0 * (2 : Nat)) 0, (flat ps).getD (0 + Int.toNat 0 * (2 : Nat) + 1) 0) (List.drop 1 (ptsA ps.length (flat ps)))).1), .int .i64 ((maxL ((flat ps).getD (0 + Int.toNat 0 * (2 : Nat)) 0, (flat ps).getD (0 + Int.toNat 0 * (2 : Nat) + 1) 0) (List.drop 1 (ptsA ps.length (flat ps)))).2)]⟩, some ⟨.box, .vals [.int .i64 ((maxL ((flat ps).getD (0 + Int.toNat 0 * (2 : Nat)) 0, (flat ps).getD (0 + Int.toNat 0 * (2 : Nat) + 1) 0) (List.drop 1 (ptsA ps.length (flat ps)))).1), .int .i64 ((maxL ((flat ps).getD (0 + Int.toNat 0 * (2 : Nat)) 0, (flat ps).getD (0 + Int.toNat 0 * (2 : Nat) + 1) 0) (List.drop 1 (ptsA ps.length (flat ps)))).2)]⟩]))))))))) := by kernel_rfl
theorem res_minF (ps : List Pt) (h : Big ps) (h0 : 0 < ps.length) : Res Try.prog 72 [.row ps.length (.ints (flat ps)), .v (.func (.func 73) #[] #[])] (.agg #[iv (minL (ps.getD 0 (0, 0)) (ps.drop 1)).1, iv (minL (ps.getD 0 (0, 0)) (ps.drop 1)).2]) := by
  refine bodyX_res mixed E9_ok (m := 30) (n := 12) rfl ?_
  rw [tr_minFF]
  unfold Big at h
  have e0 : Int.toNat 0 = 0 := rfl
  have g0 := flat_get0 ps 0
  have g1 := flat_get1 ps 0
  simp only [Nat.zero_mul, Nat.zero_add] at g0 g1
  simp only [brT_ok, Tree.ok, ptsA_flat, flat_length, e0, Nat.zero_mul, Nat.zero_add, g0, g1, decide_eq_true_eq]
  refine ⟨by omega, fun _ => ?_⟩
  repeat' (first | exact True.intro | omega | exact rfl | refine And.intro ?_ ?_)
theorem res_maxF (ps : List Pt) (h : Big ps) (h0 : 0 < ps.length) : Res Try.prog 74 [.row ps.length (.ints (flat ps)), .v (.func (.func 73) #[] #[])] (.agg #[iv (maxL (ps.getD 0 (0, 0)) (ps.drop 1)).1, iv (maxL (ps.getD 0 (0, 0)) (ps.drop 1)).2]) := by
  refine bodyX_res mixed E9_ok (m := 30) (n := 12) rfl ?_
  rw [tr_maxFF]
  unfold Big at h
  have e0 : Int.toNat 0 = 0 := rfl
  have g0 := flat_get0 ps 0
  have g1 := flat_get1 ps 0
  simp only [Nat.zero_mul, Nat.zero_add] at g0 g1
  simp only [brT_ok, Tree.ok, ptsA_flat, flat_length, e0, Nat.zero_mul, Nat.zero_add, g0, g1, decide_eq_true_eq]
  refine ⟨by omega, fun _ => ?_⟩
  repeat' (first | exact True.intro | omega | exact rfl | refine And.intro ?_ ?_)
def pMin (g : Pt → List Pt → Pt) : List DArg → Option (Value × List Prop)
  | [.row m (.ints xs), .v (.func (.func 73) ⟨[]⟩ ⟨[]⟩)] => some (.agg #[iv (g ((ptsA m xs).getD 0 (0, 0)) ((ptsA m xs).drop 1)).1, iv (g ((ptsA m xs).getD 0 (0, 0)) ((ptsA m xs).drop 1)).2], [m * 2 ≤ xs.length, m ≤ 1000000000, 0 < m])
  | _ => none
theorem pMin_ok {f : FuncId} {g : Pt → List Pt → Pt} (h : ∀ ps : List Pt, Big ps → 0 < ps.length → Res Try.prog f [.row ps.length (.ints (flat ps)), .v (.func (.func 73) #[] #[])] (.agg #[iv (g (ps.getD 0 (0, 0)) (ps.drop 1)).1, iv (g (ps.getD 0 (0, 0)) (ps.drop 1)).2])) {ds : List DArg} {v : Value} {C : List Prop} (hd : pMin g ds = some (v, C)) (hC : AllP C) : Res Try.prog f ds v := by
  unfold pMin at hd
  split at hd
  · rename_i m xs
    simp only [Option.some.injEq, Prod.mk.injEq] at hd
    obtain ⟨rfl, rfl⟩ := hd
    obtain ⟨_, h2⟩ := ptsA_spec hC.1
    exact res_pts1 (pre := []) (post := [_]) hC.1 (h (ptsA m xs) (by unfold Big; rw [h2]; exact hC.2.1) (by rw [h2]; exact hC.2.2.1))
  · cases hd
def T6' : Tab := fun f ds => match f with
  | 72 => pMin minL ds
  | 74 => pMin maxL ds
  | f => T5' f ds
theorem T6'_ok : TabOk Try.prog T6' := by
  intro f ds v C h hC
  unfold T6' at h
  split at h
  · exact pMin_ok res_minF h hC
  · exact pMin_ok res_maxF h hC
  · exact T5'_ok _ _ _ _ h hC
def E10 : Env := mkE (T6') (R4) (fun _ => noL)
theorem E10_ok : EnvOk Try.prog E10 := mkEOk (T6'_ok) (R4_ok) (fun _ _ _ => noL_good)
end Go.Proofs.Ytnjmepbblcfnfaa
