/-
  Texts that the proof needs, merged. Written by an AI agent.
-/
import Derived.Orders
import Derived.Below
import Derived.OrdersIn
import Derived.Deep.LoopGhost
import Derived.WalkKit
import Derived.Laws.CopyRow
import Derived.Laws.AppendOwn
import Derived.Laws.Slices
import Derived.Laws.MakeOwn
import Derived.Test.YtnjmepbblcfnfabRows
import Derived.ProofKit
import Derived.OpenShut
import Derived.Carry
import Derived.IntWalk
import Derived.Test.YtnjmepbblcfnfabProg
import Derived.WalkSpells
import Derived.WalkLawsBesides
import Derived.Lib.Hide
import Derived.Deep.QuietTactic
import Derived.BigQuiet
import Derived.KernelRfl
import Derived.Deep.RegionHeld3
import Derived.LoopTactic
import Derived.Laws.StructEq
import Derived.Laws.Tables
import Derived.RangeFuncNested
import Derived.RangeFuncLeaves
import Derived.Deep.Slices
import Derived.Deep.Fields
import Derived.ChangeSame
import Derived.Shelf.SlSortCmp.WholeK
import Derived.Sort.Grow
import Derived.Deep.DeepCutAuto
import Derived.Shelf.SlSortCmp.NoneTotal
import Derived.Test.YtnjmepbblcfnfabZMapInterior9
namespace Go.Proofs.Ytnjmepbblcfnfab
set_option linter.all false
open Go.RowKit
def RCe : TabR := fun f ds => match f, ds with
  | 137, [.v (.agg ⟨[.int .i64 a, .int .i64 b, .int .i64 c, .int .i64 d]⟩), .v (.agg ⟨[.int .i64 e, .int .i64 f, .int .i64 g, .int .i64 h]⟩)] => some (rowP (ceS a b c d e f g h), blkP (ceS a b c d e f g h), [ptB a b = true, ptB c d = true, ptB e f = true, ptB g h = true])
  | 110, [.v (.agg ⟨[.int .i64 a, .int .i64 b, .int .i64 c, .int .i64 d]⟩), .v (.agg ⟨[.int .i64 e, .int .i64 f, .int .i64 g, .int .i64 h]⟩)] => some (rowP (ceI a b c d e f g h), blkP (ceI a b c d e f g h), [ptB a b = true, ptB c d = true, ptB e f = true, ptB g h = true])
  | 132, [.row m (.ints xs)] => some (rowP (srtL (ptsA m xs)), blkP (srtL (ptsA m xs)), [m * 2 ≤ xs.length, m ≤ 1000])
  | _, _ => none
theorem RCe_ok : TabROk Try.prog RCe := by
  intro f ds v b C h hC
  unfold RCe at h
  (try split at h)
  all_goals first
    | (obtain ⟨rfl, rfl, rfl⟩ : _ ∧ _ ∧ _ := by simpa using h
       with_reducible refine resR_sCe ?_ ?_ ?_ ?_
       · exact hC.1
       · exact hC.2.1
       · exact hC.2.2.1
       · exact hC.2.2.2.1)
    | (obtain ⟨rfl, rfl, rfl⟩ : _ ∧ _ ∧ _ := by simpa using h
       with_reducible refine resR_iCe ?_ ?_ ?_ ?_
       · exact hC.1
       · exact hC.2.1
       · exact hC.2.2.1
       · exact hC.2.2.2.1)
    | (obtain ⟨rfl, rfl, rfl⟩ : _ ∧ _ ∧ _ := by simpa using h
       obtain ⟨_, h2⟩ := ptsA_spec hC.1
       exact resR_pts1 (pre := []) (post := []) hC.1 (resR_srt _ (by rw [h2]; exact hC.2.1)))
    | cases h
def ECe : Env := mkE TOl RCe (fun _ => noL)
theorem ECe_ok : EnvOk Try.prog ECe := mkEOk TOl_ok RCe_ok (fun _ _ _ => noL_good)
set_option maxRecDepth 100000 in
theorem tr_sRel (a b c d e f g h : Int) : bodyV Try.prog ECe 30 12 113 [.v (.agg #[iv a, iv b, iv c, iv d]), .v (.agg #[iv e, iv f, iv g, iv h])] = .need (ptB a b = true) (.need (ptB c d = true) (.need (ptB e f = true) (.need (ptB g h = true) (brT (decide (1 < (↑(ceS a b c d e f g h).length : Int))) (.fin (.int .i64 (3)) []) (brT ((↑(ceS a b c d e f g h).length : Int) == 1) (.fin (.int .i64 (1)) []) (.need (ptB a b = true) (.need (ptB c d = true) (.need (ptB e f = true) (.need (ptB a b = true) (.need (ptB c d = true) (.need (ptB g h = true) (brT (decide (IntKind.i64.wrap (cmpI (crossI a b c d e f) 0 * cmpI (crossI a b c d g h) 0) < 0)) (.need (ptB e f = true) (.need (ptB g h = true) (.need (ptB a b = true) (.need (ptB e f = true) (.need (ptB g h = true) (.need (ptB c d = true) (brT (decide (IntKind.i64.wrap (cmpI (crossI e f g h a b) 0 * cmpI (crossI e f g h c d) 0) < 0)) (.fin (.int .i64 (2)) []) (.fin (.int .i64 (0)) [])))))))) (.fin (.int .i64 (0)) []))))))))))))) := by kernel_rfl
set_option maxRecDepth 100000 in
theorem tr_iRel (a b c d e f g h : Int) : bodyV Try.prog ECe 30 12 65 [.v (.agg #[iv a, iv b, iv c, iv d]), .v (.agg #[iv e, iv f, iv g, iv h])] = brT (!segB a b c d) (.fin (.int .i64 (-1)) []) (brT (!segB e f g h) (.fin (.int .i64 (-1)) []) (.need (ptB a b = true) (.need (ptB c d = true) (.need (ptB e f = true) (.need (ptB g h = true) (brT ((↑(ceI a b c d e f g h).length : Int) == 0) (.need (ptB a b = true) (.need (ptB c d = true) (.need (ptB e f = true) (.need (ptB a b = true) (.need (ptB c d = true) (.need (ptB g h = true) (brT (decide (IntKind.i64.wrap (cmpI (crossI a b c d e f) 0 * cmpI (crossI a b c d g h) 0) < 0)) (.need (ptB e f = true) (.need (ptB g h = true) (.need (ptB a b = true) (.need (ptB e f = true) (.need (ptB g h = true) (.need (ptB c d = true) (brT (decide (IntKind.i64.wrap (cmpI (crossI e f g h a b) 0 * cmpI (crossI e f g h c d) 0) < 0)) (.fin (.int .i64 (2)) []) (.fin (.int .i64 (0)) [])))))))) (.fin (.int .i64 (0)) [])))))))) (brT ((↑(ceI a b c d e f g h).length : Int) == 1) (.fin (.int .i64 (1)) []) (.fin (.int .i64 (3)) [])))))))) := by kernel_rfl
/-- Are the ends of the second segment on different sides of the first one? -/
def dvB (a b c d e f g h : Int) : Bool := decide (IntKind.i64.wrap (cmpI (crossI a b c d e f) 0 * cmpI (crossI a b c d g h) 0) < 0)
def relN (n : Nat) (x : Bool) : Int := if 1 < n then 3 else if n = 1 then 1 else bif x then 2 else 0
/-- How two segments of valid points meet. -/
def relA (a b c d e f g h : Int) : Int := relN (ceS a b c d e f g h).length (dvB a b c d e f g h && dvB e f g h a b c d)
def relV (a b c d e f g h : Int) : Int := bif segB a b c d && segB e f g h then relA a b c d e f g h else -1
theorem segB_pt {a b c d : Int} (h : segB a b c d = true) : ptB a b = true ∧ ptB c d = true := by
  unfold segB at h
  simp only [Bool.and_eq_true] at h
  exact h.1
theorem res_sRel {a b c d e f g h : Int} (h1 : ptB a b = true) (h2 : ptB c d = true) (h3 : ptB e f = true) (h4 : ptB g h = true) : Res Try.prog 113 [.v (.agg #[iv a, iv b, iv c, iv d]), .v (.agg #[iv e, iv f, iv g, iv h])] (iv (relA a b c d e f g h)) := by
  refine bodyV_res mixed ECe_ok (m := 30) (n := 12) rfl ?_
  rw [tr_sRel]
  simp only [brT_ok, Tree.ok, h1, h2, h3, h4, true_and, decide_eq_true_eq, decide_eq_false_iff_not, beq_iff_eq, beq_eq_false_iff_ne]
  unfold relA relN dvB
  refine ⟨fun g1 => ?_, fun g1 => ⟨fun g2 => ?_, fun g2 => ⟨fun g3 => ⟨fun g4 => ?_, fun g4 => ?_⟩, fun g3 => ?_⟩⟩⟩
  · rw [if_pos (by omega)]
  · rw [if_neg (by omega), if_pos (by omega)]
  all_goals
    rw [if_neg (by omega), if_neg (by omega)]
    simp [g3]
  all_goals simp [g4]
theorem res_iRel (a b c d e f g h : Int) : Res Try.prog 65 [.v (.agg #[iv a, iv b, iv c, iv d]), .v (.agg #[iv e, iv f, iv g, iv h])] (iv (relV a b c d e f g h)) := by
  refine bodyV_res mixed ECe_ok (m := 30) (n := 12) rfl ?_
  rw [tr_iRel]
  unfold relV
  rcases s1 : segB a b c d with _ | _
  · simp [brT_ok, Tree.ok]
  rcases s2 : segB e f g h with _ | _
  · simp [brT_ok, Tree.ok]
  obtain ⟨h1, h2⟩ := segB_pt s1
  obtain ⟨h3, h4⟩ := segB_pt s2
  have hl := (ce_same a b c d e f g h).1
  simp only [brT_ok, Tree.ok, h1, h2, h3, h4, true_and, decide_eq_true_eq, decide_eq_false_iff_not, beq_iff_eq, beq_eq_false_iff_ne, Bool.not_true, Bool.and_self, cond_true, hl]
  unfold relA relN dvB
  repeat' (first | refine And.intro ?_ ?_ | intro _)
  all_goals first
    | (rw [if_neg (by omega), if_pos (by omega)]; done)
    | (rw [if_pos (by omega)]; done)
    | (rw [if_neg (by omega), if_neg (by omega)]; simp [*]; done)
    | (exfalso; simp_all; done)
def pRlA : List DArg → Option (Value × List Prop)
  | [.v (.agg ⟨[.int .i64 a, .int .i64 b, .int .i64 c, .int .i64 d]⟩), .v (.agg ⟨[.int .i64 e, .int .i64 f, .int .i64 g, .int .i64 h]⟩)] => some (iv (relA a b c d e f g h), [ptB a b = true, ptB c d = true, ptB e f = true, ptB g h = true])
  | _ => none
def pRlV : List DArg → Option (Value × List Prop)
  | [.v (.agg ⟨[.int .i64 a, .int .i64 b, .int .i64 c, .int .i64 d]⟩), .v (.agg ⟨[.int .i64 e, .int .i64 f, .int .i64 g, .int .i64 h]⟩)] => some (iv (relV a b c d e f g h), [])
  | _ => none
def TRa : Tab := fun f ds => match f with
  | 113 => pRlA ds
  | 65 => pRlV ds
  | f => TOl f ds
theorem pRlA_ok {ds : List DArg} {v : Value} {C : List Prop} (h : pRlA ds = some (v, C)) (hC : AllP C) : Res Try.prog 113 ds v := by
  unfold pRlA at h
  split at h
  · obtain ⟨rfl, rfl⟩ : _ ∧ _ := by simpa using h
    exact res_sRel hC.1 hC.2.1 hC.2.2.1 hC.2.2.2.1
  · cases h
theorem pRlV_i {ds : List DArg} {v : Value} {C : List Prop} (h : pRlV ds = some (v, C)) : Res Try.prog 65 ds v := by
  unfold pRlV at h
  split at h
  · obtain ⟨rfl, rfl⟩ : _ ∧ _ := by simpa using h
    exact res_iRel _ _ _ _ _ _ _ _
  · cases h
theorem TRa_ok : TabOk Try.prog TRa := by
  intro f ds v C h hC
  unfold TRa at h
  (try split at h)
  all_goals first | with_reducible exact pRlA_ok h hC | with_reducible exact pRlV_i h | exact TOl_ok _ _ _ _ h hC
def TRb : Tab := fun f ds => match f with
  | f => TRa f ds
theorem TRb_ok : TabOk Try.prog TRb := by
  intro f ds v C h hC
  unfold TRb at h
  (try split at h)
  all_goals first | with_reducible exact pRlV_s h | exact TRa_ok _ _ _ _ h hC
end Go.Proofs.Ytnjmepbblcfnfab
namespace Go.Proofs.Ytnjmepbblcfnfab
set_option linter.all false
open Go.RowKit
theorem addT_mem {o : List Pt} {p z : Pt} {b : Bool} : z ∈ addT o p b ↔ z ∈ o ∨ (b = true ∧ z = p) := by
  unfold addT
  cases b
  · simp
  · simp [insP_mem]
theorem addT_asc {o : List Pt} (h : Asc o) (p : Pt) (b : Bool) : Asc (addT o p b) := by
  unfold addT
  cases b
  · exact h
  · exact insP_asc p h
theorem ce_asc (a b c d e f g h : Int) : Asc (ceS a b c d e f g h) := addT_asc (addT_asc (addT_asc (addT_asc List.Pairwise.nil _ _) _ _) _ _) _ _
theorem ce_mem {a b c d e f g h : Int} {z : Pt} : z ∈ ceS a b c d e f g h ↔ onB a b c d e f g h z.1 z.2 = true ∧ (z = (a, b) ∨ z = (c, d) ∨ z = (e, f) ∨ z = (g, h)) := by
  unfold ceS
  simp only [addT_mem, List.not_mem_nil, false_or]
  constructor
  · rintro (((⟨h1, rfl⟩ | ⟨h1, rfl⟩) | ⟨h1, rfl⟩) | ⟨h1, rfl⟩)
    · exact ⟨h1, .inl rfl⟩
    · exact ⟨h1, .inr (.inl rfl)⟩
    · exact ⟨h1, .inr (.inr (.inl rfl))⟩
    · exact ⟨h1, .inr (.inr (.inr rfl))⟩
  · rintro ⟨h1, rfl | rfl | rfl | rfl⟩
    · exact .inl (.inl (.inl ⟨h1, rfl⟩))
    · exact .inl (.inl (.inr ⟨h1, rfl⟩))
    · exact .inl (.inr ⟨h1, rfl⟩)
    · exact .inr ⟨h1, rfl⟩
theorem onB_comm (a b c d e f g h x y : Int) : onB a b c d e f g h x y = onB e f g h a b c d x y := Bool.and_comm ..
theorem ce_comm (a b c d e f g h : Int) : ceS a b c d e f g h = ceS e f g h a b c d := by
  refine asc_ext (ce_asc ..) (ce_asc ..) fun z => ?_
  rw [ce_mem, ce_mem, onB_comm]
  refine and_congr_right fun _ => ?_
  constructor
  · rintro (h | h | h | h) <;> simp [h]
  · rintro (h | h | h | h) <;> simp [h]
theorem relA_comm (a b c d e f g h : Int) : relA a b c d e f g h = relA e f g h a b c d := by
  unfold relA
  rw [ce_comm a b c d e f g h, Bool.and_comm]
theorem hasB_a (a b c d : Int) : hasB a b c d a b = true := by
  unfold hasB
  simp
theorem hasB_b (a b c d : Int) : hasB a b c d c d = true := by
  unfold hasB
  simp
end Go.Proofs.Ytnjmepbblcfnfab
namespace Go.Proofs.Ytnjmepbblcfnfab
set_option linter.all false
open Go.RowKit
/-- How two edges of a closed path meet. -/
def edR (ps : List Pt) (i k : Nat) : Int := relV (ps.getD i (0, 0)).1 (ps.getD i (0, 0)).2 (nxP ps i).1 (nxP ps i).2 (ps.getD k (0, 0)).1 (ps.getD k (0, 0)).2 (nxP ps k).1 (nxP ps k).2
/-- Is one of two edges behind the other one? -/
def nbQ (ps : List Pt) (i k : Nat) : Bool := decide (k = i + 1) || decide ((k + 1) % ps.length = i)
def okE (ps : List Pt) (i k : Nat) : Bool := !(decide (i < k)) || (edR ps i k == (bif nbQ ps i k then 1 else 0))
def rowQ (ps : List Pt) (i : Nat) : Bool := allQ (okE ps i) 0 ps.length
def simQ (ps : List Pt) : Bool := allQ (rowQ ps) 0 ps.length
theorem allQ_all {P : Nat → Bool} : ∀ (m i : Nat), (∀ j, i ≤ j → j < i + m → P j = true) → allQ P i m = true
  | 0, _, _ => rfl
  | m + 1, i, h => by
    simp only [allQ, Bool.and_eq_true]
    exact ⟨h i (Nat.le_refl _) (by omega), allQ_all m (i + 1) fun j h1 h2 => h j (by omega) (by omega)⟩
theorem allQ_no {P : Nat → Bool} {n j : Nat} (hj : j < n) (h : P j = false) : allQ P 0 n = false := by
  rw [Bool.eq_false_iff]
  intro hh
  have := allQ_get n 0 hh j (by omega) (by omega)
  rw [h] at this
  cases this
def TIs : Tab := orT T3 TRb
theorem TIs_ok : TabOk Try.prog TIs := orT_ok T3_ok TRb_ok
def EIs : Env := mkE TIs RCe (fun _ => noL)
theorem EIs_ok : EnvOk Try.prog EIs := mkEOk TIs_ok RCe_ok (fun _ _ _ => noL_good)
noncomputable def gcIss : Code := (rangesOf (codeOf Try.f16)).getD 0 .skip
noncomputable def gc_isI : Code := (rangesOf (bodOf gcIss)).getD 0 .skip
def k_isI : Ex → List Nat := keeps [1, 2, 3, 4, 26] [] [2]
def s_isI (ps : List Pt) (j : Nat) : Nat → St := fun i => ⟨(topV :: .pointer (some ⟨1, 0, none⟩) :: .pointer (some ⟨2, 0, none⟩) :: .pointer (some ⟨4, 0, none⟩) :: .pointer (some ⟨5, 0, none⟩) :: topV :: topV :: topV :: topV :: topV :: topV :: topV :: topV :: topV :: topV :: topV :: topV :: topV :: topV :: topV :: topV :: topV :: topV :: topV :: topV :: topV :: .func (.func 109) #[] #[.pointer (some ⟨6, 0, none⟩)] :: topV :: topV :: topV :: topV :: topV :: topV :: topV :: topV :: topV :: topV :: topV :: topV :: topV :: topV :: topV :: topV :: topV :: topV :: topV :: topV :: topV :: topV :: topV :: topV :: topV :: []), [some ⟨.view, .ints (flat ps)⟩, some ⟨.box, .vals [.slice (some ⟨0, 0, none⟩) ps.length ps.length]⟩, some ⟨.box, .vals [.bool false]⟩, some ⟨.view, .vals [.slice (some ⟨0, 0, none⟩) ps.length ps.length]⟩, some ⟨.box, .vals [.int .i64 j]⟩, some ⟨.box, .vals [.int .i64 (ps.getD j (0, 0)).1, .int .i64 (ps.getD j (0, 0)).2, .int .i64 (nxP ps j).1, .int .i64 (nxP ps j).2]⟩, some ⟨.view, .vals [.slice (some ⟨0, 0, none⟩) ps.length ps.length]⟩]⟩
def g_isI (ps : List Pt) (j : Nat) : Nat → Prop := fun i => i ≤ ps.length ∧ ∀ k, k < i → okE ps j k = true
def re_isI (ps : List Pt) (j : Nat) : Ex := bif rowQ ps j then .normal else .ret
def rs_isI (ps : List Pt) (j : Nat) : St := bif rowQ ps j then ⟨(topV :: topV :: .pointer (some ⟨2, 0, none⟩) :: topV :: topV :: topV :: topV :: topV :: topV :: topV :: topV :: topV :: topV :: topV :: topV :: topV :: topV :: topV :: topV :: topV :: topV :: topV :: topV :: topV :: topV :: topV :: topV :: topV :: topV :: topV :: topV :: topV :: topV :: topV :: topV :: topV :: topV :: topV :: topV :: topV :: topV :: topV :: topV :: topV :: topV :: topV :: topV :: topV :: topV :: topV :: topV :: topV :: []), [some ⟨.view, .ints (flat ps)⟩, some ⟨.box, .vals [.slice (some ⟨0, 0, none⟩) ps.length ps.length]⟩, some ⟨.box, .vals [.bool false]⟩, some ⟨.view, .vals [.slice (some ⟨0, 0, none⟩) ps.length ps.length]⟩, some ⟨.box, .vals [.int .i64 j]⟩, some ⟨.box, .vals [.int .i64 (ps.getD j (0, 0)).1, .int .i64 (ps.getD j (0, 0)).2, .int .i64 (nxP ps j).1, .int .i64 (nxP ps j).2]⟩, some ⟨.view, .vals [.slice (some ⟨0, 0, none⟩) ps.length ps.length]⟩]⟩ else ⟨(topV :: topV :: .pointer (some ⟨2, 0, none⟩) :: topV :: topV :: topV :: topV :: topV :: topV :: topV :: topV :: topV :: topV :: topV :: topV :: topV :: topV :: topV :: topV :: topV :: topV :: topV :: topV :: topV :: topV :: topV :: topV :: topV :: topV :: topV :: topV :: topV :: topV :: topV :: topV :: topV :: topV :: topV :: topV :: topV :: topV :: topV :: topV :: topV :: topV :: topV :: topV :: topV :: topV :: topV :: topV :: topV :: []), [some ⟨.view, .ints (flat ps)⟩, some ⟨.box, .vals [.slice (some ⟨0, 0, none⟩) ps.length ps.length]⟩, some ⟨.box, .vals [.bool false]⟩, some ⟨.view, .vals [.slice (some ⟨0, 0, none⟩) ps.length ps.length]⟩, some ⟨.box, .vals [.int .i64 j]⟩, some ⟨.box, .vals [.int .i64 (ps.getD j (0, 0)).1, .int .i64 (ps.getD j (0, 0)).2, .int .i64 (nxP ps j).1, .int .i64 (nxP ps j).2]⟩, some ⟨.view, .vals [.slice (some ⟨0, 0, none⟩) ps.length ps.length]⟩]⟩
set_option maxRecDepth 100000 in
theorem tr_isI (ps : List Pt) (j : Nat) (i : Nat) : bodyR Try.prog EIs 30 12 noL noR (asgOf gc_isI) (bodOf gc_isI) ([27, 28].zip (encE ps i)) k_isI 7 (s_isI ps j i) = brT ((↑i : Int) == IntKind.i64.wrap ((↑j : Int) + 1)) (brT (decide ((↑j : Int) < (↑i : Int))) (brT (!relV (ps.getD j (0, 0)).1 (ps.getD j (0, 0)).2 (nxP ps j).1 (nxP ps j).2 (ps.getD i (0, 0)).1 (ps.getD i (0, 0)).2 (ps.getD ((i + 1) % ps.length) (0, 0)).1 (ps.getD ((i + 1) % ps.length) (0, 0)).2 == 1) (.leaf .ret ⟨(topV :: topV :: .pointer (some ⟨2, 0, none⟩) :: topV :: topV :: topV :: topV :: topV :: topV :: topV :: topV :: topV :: topV :: topV :: topV :: topV :: topV :: topV :: topV :: topV :: topV :: topV :: topV :: topV :: topV :: topV :: topV :: topV :: topV :: topV :: topV :: topV :: topV :: topV :: topV :: topV :: topV :: topV :: topV :: topV :: topV :: topV :: topV :: topV :: topV :: topV :: topV :: topV :: topV :: topV :: topV :: topV :: []), [some ⟨.view, .ints (flat ps)⟩, some ⟨.box, .vals [.slice (some ⟨0, 0, none⟩) (ps.length) (ps.length)]⟩, some ⟨.box, .vals [.bool (false)]⟩, some ⟨.view, .vals [.slice (some ⟨0, 0, none⟩) (ps.length) (ps.length)]⟩, some ⟨.box, .vals [.int .i64 ((↑j : Int))]⟩, some ⟨.box, .vals [.int .i64 ((ps.getD j (0, 0)).1), .int .i64 ((ps.getD j (0, 0)).2), .int .i64 ((nxP ps j).1), .int .i64 ((nxP ps j).2)]⟩, some ⟨.view, .vals [.slice (some ⟨0, 0, none⟩) (ps.length) (ps.length)]⟩]⟩) (.leaf .normal ⟨(topV :: .pointer (some ⟨1, 0, none⟩) :: .pointer (some ⟨2, 0, none⟩) :: .pointer (some ⟨4, 0, none⟩) :: .pointer (some ⟨5, 0, none⟩) :: topV :: topV :: topV :: topV :: topV :: topV :: topV :: topV :: topV :: topV :: topV :: topV :: topV :: topV :: topV :: topV :: topV :: topV :: topV :: topV :: topV :: .func (Fn.func 109) #[] #[.pointer (some ⟨6, 0, none⟩)] :: topV :: topV :: topV :: topV :: topV :: topV :: topV :: topV :: topV :: topV :: topV :: topV :: topV :: topV :: topV :: topV :: topV :: topV :: topV :: topV :: topV :: topV :: topV :: topV :: topV :: []), [some ⟨.view, .ints (flat ps)⟩, some ⟨.box, .vals [.slice (some ⟨0, 0, none⟩) (ps.length) (ps.length)]⟩, some ⟨.box, .vals [.bool (false)]⟩, some ⟨.view, .vals [.slice (some ⟨0, 0, none⟩) (ps.length) (ps.length)]⟩, some ⟨.box, .vals [.int .i64 ((↑j : Int))]⟩, some ⟨.box, .vals [.int .i64 ((ps.getD j (0, 0)).1), .int .i64 ((ps.getD j (0, 0)).2), .int .i64 ((nxP ps j).1), .int .i64 ((nxP ps j).2)]⟩, some ⟨.view, .vals [.slice (some ⟨0, 0, none⟩) (ps.length) (ps.length)]⟩]⟩)) (.leaf .normal ⟨(topV :: .pointer (some ⟨1, 0, none⟩) :: .pointer (some ⟨2, 0, none⟩) :: .pointer (some ⟨4, 0, none⟩) :: .pointer (some ⟨5, 0, none⟩) :: topV :: topV :: topV :: topV :: topV :: topV :: topV :: topV :: topV :: topV :: topV :: topV :: topV :: topV :: topV :: topV :: topV :: topV :: topV :: topV :: topV :: .func (Fn.func 109) #[] #[.pointer (some ⟨6, 0, none⟩)] :: topV :: topV :: topV :: topV :: topV :: topV :: topV :: topV :: topV :: topV :: topV :: topV :: topV :: topV :: topV :: topV :: topV :: topV :: topV :: topV :: topV :: topV :: topV :: topV :: topV :: []), [some ⟨.view, .ints (flat ps)⟩, some ⟨.box, .vals [.slice (some ⟨0, 0, none⟩) (ps.length) (ps.length)]⟩, some ⟨.box, .vals [.bool (false)]⟩, some ⟨.view, .vals [.slice (some ⟨0, 0, none⟩) (ps.length) (ps.length)]⟩, some ⟨.box, .vals [.int .i64 ((↑j : Int))]⟩, some ⟨.box, .vals [.int .i64 ((ps.getD j (0, 0)).1), .int .i64 ((ps.getD j (0, 0)).2), .int .i64 ((nxP ps j).1), .int .i64 ((nxP ps j).2)]⟩, some ⟨.view, .vals [.slice (some ⟨0, 0, none⟩) (ps.length) (ps.length)]⟩]⟩)) (.need (¬(↑ps.length : Int) = (0 : Int)) (brT ((IntKind.i64.wrap ((↑i : Int) + 1)).tmod (↑ps.length : Int) == (↑j : Int)) (brT (decide ((↑j : Int) < (↑i : Int))) (brT (!relV (ps.getD j (0, 0)).1 (ps.getD j (0, 0)).2 (nxP ps j).1 (nxP ps j).2 (ps.getD i (0, 0)).1 (ps.getD i (0, 0)).2 (ps.getD ((i + 1) % ps.length) (0, 0)).1 (ps.getD ((i + 1) % ps.length) (0, 0)).2 == 1) (.leaf .ret ⟨(topV :: topV :: .pointer (some ⟨2, 0, none⟩) :: topV :: topV :: topV :: topV :: topV :: topV :: topV :: topV :: topV :: topV :: topV :: topV :: topV :: topV :: topV :: topV :: topV :: topV :: topV :: topV :: topV :: topV :: topV :: topV :: topV :: topV :: topV :: topV :: topV :: topV :: topV :: topV :: topV :: topV :: topV :: topV :: topV :: topV :: topV :: topV :: topV :: topV :: topV :: topV :: topV :: topV :: topV :: topV :: topV :: []), [some ⟨.view, .ints (flat ps)⟩, some ⟨.box, .vals [.slice (some ⟨0, 0, none⟩) (ps.length) (ps.length)]⟩, some ⟨.box, .vals [.bool (false)]⟩, some ⟨.view, .vals [.slice (some ⟨0, 0, none⟩) (ps.length) (ps.length)]⟩, some ⟨.box, .vals [.int .i64 ((↑j : Int))]⟩, some ⟨.box, .vals [.int .i64 ((ps.getD j (0, 0)).1), .int .i64 ((ps.getD j (0, 0)).2), .int .i64 ((nxP ps j).1), .int .i64 ((nxP ps j).2)]⟩, some ⟨.view, .vals [.slice (some ⟨0, 0, none⟩) (ps.length) (ps.length)]⟩]⟩) (.leaf .normal ⟨(topV :: .pointer (some ⟨1, 0, none⟩) :: .pointer (some ⟨2, 0, none⟩) :: .pointer (some ⟨4, 0, none⟩) :: .pointer (some ⟨5, 0, none⟩) :: topV :: topV :: topV :: topV :: topV :: topV :: topV :: topV :: topV :: topV :: topV :: topV :: topV :: topV :: topV :: topV :: topV :: topV :: topV :: topV :: topV :: .func (Fn.func 109) #[] #[.pointer (some ⟨6, 0, none⟩)] :: topV :: topV :: topV :: topV :: topV :: topV :: topV :: topV :: topV :: topV :: topV :: topV :: topV :: topV :: topV :: topV :: topV :: topV :: topV :: topV :: topV :: topV :: topV :: topV :: topV :: []), [some ⟨.view, .ints (flat ps)⟩, some ⟨.box, .vals [.slice (some ⟨0, 0, none⟩) (ps.length) (ps.length)]⟩, some ⟨.box, .vals [.bool (false)]⟩, some ⟨.view, .vals [.slice (some ⟨0, 0, none⟩) (ps.length) (ps.length)]⟩, some ⟨.box, .vals [.int .i64 ((↑j : Int))]⟩, some ⟨.box, .vals [.int .i64 ((ps.getD j (0, 0)).1), .int .i64 ((ps.getD j (0, 0)).2), .int .i64 ((nxP ps j).1), .int .i64 ((nxP ps j).2)]⟩, some ⟨.view, .vals [.slice (some ⟨0, 0, none⟩) (ps.length) (ps.length)]⟩]⟩)) (.leaf .normal ⟨(topV :: .pointer (some ⟨1, 0, none⟩) :: .pointer (some ⟨2, 0, none⟩) :: .pointer (some ⟨4, 0, none⟩) :: .pointer (some ⟨5, 0, none⟩) :: topV :: topV :: topV :: topV :: topV :: topV :: topV :: topV :: topV :: topV :: topV :: topV :: topV :: topV :: topV :: topV :: topV :: topV :: topV :: topV :: topV :: .func (Fn.func 109) #[] #[.pointer (some ⟨6, 0, none⟩)] :: topV :: topV :: topV :: topV :: topV :: topV :: topV :: topV :: topV :: topV :: topV :: topV :: topV :: topV :: topV :: topV :: topV :: topV :: topV :: topV :: topV :: topV :: topV :: topV :: topV :: []), [some ⟨.view, .ints (flat ps)⟩, some ⟨.box, .vals [.slice (some ⟨0, 0, none⟩) (ps.length) (ps.length)]⟩, some ⟨.box, .vals [.bool (false)]⟩, some ⟨.view, .vals [.slice (some ⟨0, 0, none⟩) (ps.length) (ps.length)]⟩, some ⟨.box, .vals [.int .i64 ((↑j : Int))]⟩, some ⟨.box, .vals [.int .i64 ((ps.getD j (0, 0)).1), .int .i64 ((ps.getD j (0, 0)).2), .int .i64 ((nxP ps j).1), .int .i64 ((nxP ps j).2)]⟩, some ⟨.view, .vals [.slice (some ⟨0, 0, none⟩) (ps.length) (ps.length)]⟩]⟩)) (brT (decide ((↑j : Int) < (↑i : Int))) (brT (!relV (ps.getD j (0, 0)).1 (ps.getD j (0, 0)).2 (nxP ps j).1 (nxP ps j).2 (ps.getD i (0, 0)).1 (ps.getD i (0, 0)).2 (ps.getD ((i + 1) % ps.length) (0, 0)).1 (ps.getD ((i + 1) % ps.length) (0, 0)).2 == 0) (.leaf .ret ⟨(topV :: topV :: .pointer (some ⟨2, 0, none⟩) :: topV :: topV :: topV :: topV :: topV :: topV :: topV :: topV :: topV :: topV :: topV :: topV :: topV :: topV :: topV :: topV :: topV :: topV :: topV :: topV :: topV :: topV :: topV :: topV :: topV :: topV :: topV :: topV :: topV :: topV :: topV :: topV :: topV :: topV :: topV :: topV :: topV :: topV :: topV :: topV :: topV :: topV :: topV :: topV :: topV :: topV :: topV :: topV :: topV :: []), [some ⟨.view, .ints (flat ps)⟩, some ⟨.box, .vals [.slice (some ⟨0, 0, none⟩) (ps.length) (ps.length)]⟩, some ⟨.box, .vals [.bool (false)]⟩, some ⟨.view, .vals [.slice (some ⟨0, 0, none⟩) (ps.length) (ps.length)]⟩, some ⟨.box, .vals [.int .i64 ((↑j : Int))]⟩, some ⟨.box, .vals [.int .i64 ((ps.getD j (0, 0)).1), .int .i64 ((ps.getD j (0, 0)).2), .int .i64 ((nxP ps j).1), .int .i64 ((nxP ps j).2)]⟩, some ⟨.view, .vals [.slice (some ⟨0, 0, none⟩) (ps.length) (ps.length)]⟩]⟩) (.leaf .normal ⟨(topV :: .pointer (some ⟨1, 0, none⟩) :: .pointer (some ⟨2, 0, none⟩) :: .pointer (some ⟨4, 0, none⟩) :: .pointer (some ⟨5, 0, none⟩) :: topV :: topV :: topV :: topV :: topV :: topV :: topV :: topV :: topV :: topV :: topV :: topV :: topV :: topV :: topV :: topV :: topV :: topV :: topV :: topV :: topV :: .func (Fn.func 109) #[] #[.pointer (some ⟨6, 0, none⟩)] :: topV :: topV :: topV :: topV :: topV :: topV :: topV :: topV :: topV :: topV :: topV :: topV :: topV :: topV :: topV :: topV :: topV :: topV :: topV :: topV :: topV :: topV :: topV :: topV :: topV :: []), [some ⟨.view, .ints (flat ps)⟩, some ⟨.box, .vals [.slice (some ⟨0, 0, none⟩) (ps.length) (ps.length)]⟩, some ⟨.box, .vals [.bool (false)]⟩, some ⟨.view, .vals [.slice (some ⟨0, 0, none⟩) (ps.length) (ps.length)]⟩, some ⟨.box, .vals [.int .i64 ((↑j : Int))]⟩, some ⟨.box, .vals [.int .i64 ((ps.getD j (0, 0)).1), .int .i64 ((ps.getD j (0, 0)).2), .int .i64 ((nxP ps j).1), .int .i64 ((nxP ps j).2)]⟩, some ⟨.view, .vals [.slice (some ⟨0, 0, none⟩) (ps.length) (ps.length)]⟩]⟩)) (.leaf .normal ⟨(topV :: .pointer (some ⟨1, 0, none⟩) :: .pointer (some ⟨2, 0, none⟩) :: .pointer (some ⟨4, 0, none⟩) :: .pointer (some ⟨5, 0, none⟩) :: topV :: topV :: topV :: topV :: topV :: topV :: topV :: topV :: topV :: topV :: topV :: topV :: topV :: topV :: topV :: topV :: topV :: topV :: topV :: topV :: topV :: .func (Fn.func 109) #[] #[.pointer (some ⟨6, 0, none⟩)] :: topV :: topV :: topV :: topV :: topV :: topV :: topV :: topV :: topV :: topV :: topV :: topV :: topV :: topV :: topV :: topV :: topV :: topV :: topV :: topV :: topV :: topV :: topV :: topV :: topV :: []), [some ⟨.view, .ints (flat ps)⟩, some ⟨.box, .vals [.slice (some ⟨0, 0, none⟩) (ps.length) (ps.length)]⟩, some ⟨.box, .vals [.bool (false)]⟩, some ⟨.view, .vals [.slice (some ⟨0, 0, none⟩) (ps.length) (ps.length)]⟩, some ⟨.box, .vals [.int .i64 ((↑j : Int))]⟩, some ⟨.box, .vals [.int .i64 ((ps.getD j (0, 0)).1), .int .i64 ((ps.getD j (0, 0)).2), .int .i64 ((nxP ps j).1), .int .i64 ((nxP ps j).2)]⟩, some ⟨.view, .vals [.slice (some ⟨0, 0, none⟩) (ps.length) (ps.length)]⟩]⟩)))) := by kernel_rfl
/-- A round of this loop. -/
def Round_isI (ps : List Pt) (j : Nat) : Prop := ∀ i : Nat, g_isI ps j i → i < (ps).length → (bodyR Try.prog EIs 30 12 noL noR (asgOf gc_isI) (bodOf gc_isI) ([27, 28].zip (encE ps i)) k_isI 7 (s_isI ps j i)).ok (RoundEndR 7 (s_isI ps j) (g_isI ps j) (re_isI ps j) (rs_isI ps j) i) (fun _ _ => False)
set_option maxRecDepth 100000 in
theorem gcode_isI : gc_isI = .rangeFunc (.tmp 26) ([27, 28] : List Nat).toArray (asgOf gc_isI) (bodOf gc_isI) := by kernel_rfl
def e_isI (s : St) (k : Ex → St → Tree) : Option Tree := match Nat.beq s.tmps.length 52, pickL s.tmps [1, 2, 3, 4, 26], s.mem with
  | true, [.pointer (some ⟨1, 0, none⟩), .pointer (some ⟨2, 0, none⟩), .pointer (some ⟨4, 0, none⟩), .pointer (some ⟨5, 0, none⟩), .func (.func 109) ⟨[]⟩ ⟨[.pointer (some ⟨6, 0, none⟩)]⟩], [some ⟨.view, .ints xs⟩, some ⟨.box, .vals [.slice (some ⟨0, 0, none⟩) n _]⟩, some ⟨.box, .vals [.bool false]⟩, some ⟨.view, .vals [.slice (some ⟨0, 0, none⟩) n1 _]⟩, some ⟨.box, .vals [.int .i64 jj]⟩, some ⟨.box, .vals [.int .i64 a, .int .i64 b, .int .i64 c, .int .i64 d]⟩, some ⟨.box, .vals [.slice (some ⟨0, 0, none⟩) n2 _]⟩] => some (needs [n1 = n, n2 = n, 0 ≤ jj, xs.length = n * 2, n ≤ 20, jj < n, a = ((ptsA n xs).getD jj.toNat (0, 0)).1 ∧ b = ((ptsA n xs).getD jj.toNat (0, 0)).2 ∧ c = (nxP (ptsA n xs) jj.toNat).1 ∧ d = (nxP (ptsA n xs) jj.toNat).2] (brT (rowQ (ptsA n xs) jj.toNat) (k .normal ⟨(topV :: topV :: .pointer (some ⟨2, 0, none⟩) :: topV :: topV :: topV :: topV :: topV :: topV :: topV :: topV :: topV :: topV :: topV :: topV :: topV :: topV :: topV :: topV :: topV :: topV :: topV :: topV :: topV :: topV :: topV :: topV :: topV :: topV :: topV :: topV :: topV :: topV :: topV :: topV :: topV :: topV :: topV :: topV :: topV :: topV :: topV :: topV :: topV :: topV :: topV :: topV :: topV :: topV :: topV :: topV :: topV :: []), [some ⟨.view, .ints xs⟩, some ⟨.box, .vals [.slice (some ⟨0, 0, none⟩) n n]⟩, some ⟨.box, .vals [.bool false]⟩, some ⟨.view, .vals [.slice (some ⟨0, 0, none⟩) n n]⟩, some ⟨.box, .vals [.int .i64 jj]⟩, some ⟨.box, .vals [.int .i64 a, .int .i64 b, .int .i64 c, .int .i64 d]⟩, some ⟨.view, .vals [.slice (some ⟨0, 0, none⟩) n n]⟩]⟩) (k .ret ⟨(topV :: topV :: .pointer (some ⟨2, 0, none⟩) :: topV :: topV :: topV :: topV :: topV :: topV :: topV :: topV :: topV :: topV :: topV :: topV :: topV :: topV :: topV :: topV :: topV :: topV :: topV :: topV :: topV :: topV :: topV :: topV :: topV :: topV :: topV :: topV :: topV :: topV :: topV :: topV :: topV :: topV :: topV :: topV :: topV :: topV :: topV :: topV :: topV :: topV :: topV :: topV :: topV :: topV :: topV :: topV :: topV :: []), [some ⟨.view, .ints xs⟩, some ⟨.box, .vals [.slice (some ⟨0, 0, none⟩) n n]⟩, some ⟨.box, .vals [.bool false]⟩, some ⟨.view, .vals [.slice (some ⟨0, 0, none⟩) n n]⟩, some ⟨.box, .vals [.int .i64 jj]⟩, some ⟨.box, .vals [.int .i64 a, .int .i64 b, .int .i64 c, .int .i64 d]⟩, some ⟨.view, .vals [.slice (some ⟨0, 0, none⟩) n n]⟩]⟩)))
  | _, _, _ => none
set_option maxRecDepth 100000 in
theorem round_isI (ps : List Pt) (j : Nat) (h : ps.length ≤ 20) (hj : j < ps.length) : Round_isI ps j := by
  rintro i ⟨_, hg⟩ hi
  rw [tr_isI]
  have e1 : IntKind.i64.wrap ((j : Int) + 1) = (j : Int) + 1 := by rw [wsucc hj (by omega)]; omega
  have c1 : ((i : Int) == (j : Int) + 1) = decide (i = j + 1) := by rw [Bool.eq_iff_iff]; simp; omega
  have c2 : decide ((j : Int) < (i : Int)) = decide (j < i) := decide_eq_decide.2 (by omega)
  have c3 : ((((i + 1) % ps.length : Nat) : Int) == (j : Int)) = decide ((i + 1) % ps.length = j) := by
    generalize (i + 1) % ps.length = m
    rw [Bool.eq_iff_iff]
    simp
    omega
  have hR : relV (ps.getD j (0, 0)).1 (ps.getD j (0, 0)).2 (nxP ps j).1 (nxP ps j).2 (ps.getD i (0, 0)).1 (ps.getD i (0, 0)).2 (ps.getD ((i + 1) % ps.length) (0, 0)).1 (ps.getD ((i + 1) % ps.length) (0, 0)).2 = edR ps j i := rfl
  have nxt : okE ps j i = true → g_isI ps j (i + 1) := fun ho => ⟨by omega, fun k hk => by
    rcases Nat.lt_or_ge k i with h1 | h1
    · exact hg k h1
    · obtain rfl : k = i := by omega
      exact ho⟩
  have stp : okE ps j i = false → rowQ ps j = false := allQ_no hi
  have n0 : ¬ (ps.length : Int) = 0 := by omega
  simp only [e1, c1, c2, c3, hR, nx_mod hi (by omega)]
  rcases q1 : decide (i = j + 1) with _ | _ <;> rcases q2 : decide (j < i) with _ | _ <;> rcases q3 : decide ((i + 1) % ps.length = j) with _ | _ <;> rcases q4 : (edR ps j i == 1) with _ | _ <;> rcases q5 : (edR ps j i == 0) with _ | _
  all_goals
    simp only [brT_t, brT_f, Bool.not_true, Bool.not_false, Tree.ok, RoundEndR]
    try refine ⟨n0, ?_⟩
    first
      | (have ho : okE ps j i = true := by unfold okE nbQ; rw [q1, q2, q3]; simp [q4, q5]
         refine ⟨nxt ho, [], ?_⟩
         refine ⟨rfl, rfl, ?_, ?_⟩ <;> repeat' (first | exact True.intro | exact rfl | exact wv_top _ _ | exact fun _ => rfl | refine And.intro ?_ ?_))
      | (have ho : okE ps j i = false := by unfold okE nbQ; rw [q1, q2, q3]; simp [q4, q5]
         have hq := stp ho
         refine ⟨by unfold re_isI; rw [hq]; rfl, [], ?_⟩
         unfold rs_isI
         rw [hq]
         refine ⟨rfl, rfl, ?_, ?_⟩ <;> repeat' (first | exact True.intro | exact rfl | exact wv_top _ _ | exact fun _ => rfl | refine And.intro ?_ ?_))
set_option maxRecDepth 100000 in
theorem lg_isI : RangeE Try.prog e_isI gc_isI := by
  intro s k t F H hlt ht
  unfold e_isI at hlt
  split at hlt
  rotate_left
  · cases hlt
  rename_i hlen hpick hmem
  obtain ⟨tmps, mem⟩ := s
  simp only at hlen hpick hmem
  subst hmem
  obtain rfl := Option.some.inj hlt
  obtain ⟨⟨rfl, rfl, h4, h1, h3, h5, h6, _⟩, ht2⟩ := needs_ok ht
  clear ht hlt
  obtain ⟨ps, rfl, rfl⟩ := even_flat h1
  obtain ⟨j, rfl⟩ := Int.eq_ofNat_of_zero_le h4
  rw [ptsA_flat] at ht2 h6
  simp only [Int.toNat_natCast] at ht2 h6
  obtain ⟨rfl, rfl, rfl, rfl⟩ := h6
  refine ⟨re_isI ps j, rs_isI ps j, pick2k ht2, ?_⟩
  rw [gcode_isI]
  refine range_det (enc := encE ps) (len := (ps).length) (St_of := s_isI ps j) (Good := g_isI ps j) (N := 7) (M := 7) (Kn := [0, 6]) (cap := [.pointer (some ⟨6, 0, none⟩)]) (kf := (k_isI .normal)) (π := []) (fun _ => rfl) (fun _ => rfl) (fun i hg hlt => bodyR_ok mixed EIs_ok (noL_good) (noR_good) (round_isI ps j h3 (by omega) i hg hlt)) (entersB_res (by kernel_rfl)).1 rfl ?_ (fun ρ0 ρ B w lb h1 h2 => ed_iter ps (by omega) (s := (s_isI ps j 0).fs) (nb := 6) (nr := 0) (c := (ps).length) (Kn := [0, 6]) rfl rfl (by decide) (by decide) ρ0 ρ B w lb h1 h2) ?_ rfl (by decide) ?_ ⟨Nat.zero_le _, fun k hk => by omega⟩
  · intro n hn b hb
    simp only [List.mem_cons, List.not_mem_nil, or_false] at hn
    rcases hn with rfl | rfl <;> (obtain rfl := Option.some.inj hb; rfl)
  · rintro ⟨_, hg⟩
    have hq : rowQ ps j = true := allQ_all _ _ fun k _ h2 => hg k (by omega)
    refine ⟨by unfold re_isI; rw [hq]; rfl, [], ?_⟩
    unfold rs_isI
    rw [hq]
    refine ⟨rfl, rfl, ?_, ?_⟩ <;> repeat' (first | exact True.intro | exact rfl | exact wv_top _ _ | exact fun _ => rfl | refine And.intro ?_ ?_)
  · refine ⟨rfl, rfl, ?_, wvs_spread' [1, 2, 3, 4, 26] hlen rfl ?_⟩
    · repeat' (first | exact True.intro | exact rfl | exact wv_top _ _ | exact fun _ => rfl | assumption | exact Eq.symm (by assumption) | exact vI0 rfl | refine And.intro ?_ ?_)
    · rw [show pickL (viewS [0, 6] ⟨tmps, _⟩).tmps [1, 2, 3, 4, 26] = pickL tmps [1, 2, 3, 4, 26] from rfl, hpick]
      repeat' (first | exact True.intro | exact rfl | exact wv_top _ _ | exact fun _ => rfl | assumption | exact Eq.symm (by assumption) | exact vI0 rfl | refine And.intro ?_ ?_)
noncomputable def gc_isO : Code := gcIss
def k_isO : Ex → List Nat := keeps [1, 2, 22] [] [2]
def s_isO (ps : List Pt) : Nat → St := fun i => ⟨(topV :: .pointer (some ⟨1, 0, none⟩) :: .pointer (some ⟨2, 0, none⟩) :: topV :: topV :: topV :: topV :: topV :: topV :: topV :: topV :: topV :: topV :: topV :: topV :: topV :: topV :: topV :: topV :: topV :: topV :: topV :: .func (.func 109) #[] #[.pointer (some ⟨3, 0, none⟩)] :: topV :: topV :: topV :: topV :: topV :: topV :: topV :: topV :: topV :: topV :: topV :: topV :: topV :: topV :: topV :: topV :: topV :: topV :: topV :: topV :: topV :: topV :: topV :: topV :: topV :: topV :: topV :: topV :: topV :: []), [some ⟨.view, .ints (flat ps)⟩, some ⟨.box, .vals [.slice (some ⟨0, 0, none⟩) ps.length ps.length]⟩, some ⟨.box, .vals [.bool false]⟩, some ⟨.view, .vals [.slice (some ⟨0, 0, none⟩) ps.length ps.length]⟩]⟩
def g_isO (ps : List Pt) : Nat → Prop := fun i => i ≤ ps.length ∧ ∀ k, k < i → rowQ ps k = true
def re_isO (ps : List Pt) : Ex := bif simQ ps then .normal else .ret
def rs_isO (ps : List Pt) : St := bif simQ ps then ⟨(topV :: topV :: .pointer (some ⟨2, 0, none⟩) :: topV :: topV :: topV :: topV :: topV :: topV :: topV :: topV :: topV :: topV :: topV :: topV :: topV :: topV :: topV :: topV :: topV :: topV :: topV :: topV :: topV :: topV :: topV :: topV :: topV :: topV :: topV :: topV :: topV :: topV :: topV :: topV :: topV :: topV :: topV :: topV :: topV :: topV :: topV :: topV :: topV :: topV :: topV :: topV :: topV :: topV :: topV :: topV :: topV :: []), [some ⟨.view, .ints (flat ps)⟩, some ⟨.box, .vals [.slice (some ⟨0, 0, none⟩) ps.length ps.length]⟩, some ⟨.box, .vals [.bool false]⟩, some ⟨.view, .vals [.slice (some ⟨0, 0, none⟩) ps.length ps.length]⟩]⟩ else ⟨(topV :: topV :: .pointer (some ⟨2, 0, none⟩) :: topV :: topV :: topV :: topV :: topV :: topV :: topV :: topV :: topV :: topV :: topV :: topV :: topV :: topV :: topV :: topV :: topV :: topV :: topV :: topV :: topV :: topV :: topV :: topV :: topV :: topV :: topV :: topV :: topV :: topV :: topV :: topV :: topV :: topV :: topV :: topV :: topV :: topV :: topV :: topV :: topV :: topV :: topV :: topV :: topV :: topV :: topV :: topV :: topV :: []), [some ⟨.view, .ints (flat ps)⟩, some ⟨.box, .vals [.slice (some ⟨0, 0, none⟩) ps.length ps.length]⟩, some ⟨.box, .vals [.bool false]⟩, some ⟨.view, .vals [.slice (some ⟨0, 0, none⟩) ps.length ps.length]⟩]⟩
set_option maxRecDepth 100000 in
theorem tr_isO (ps : List Pt) (i : Nat) : bodyR Try.prog EIs 30 12 noL (rt1 26 e_isI) (asgOf gc_isO) (bodOf gc_isO) ([23, 24].zip (encE ps i)) k_isO 4 (s_isO ps i) = .need (ps.length = ps.length) (.need (ps.length = ps.length) (.need ((0 : Int) ≤ (↑i : Int)) (.need ((flat ps).length = ps.length * (2 : Nat)) (.need (ps.length ≤ (20 : Nat)) (.need ((↑i : Int) < (↑ps.length : Int)) (.need ((ps.getD i ((0 : Int), (0 : Int))).1 = ((ptsA ps.length (flat ps)).getD (↑i : Int).toNat ((0 : Int), (0 : Int))).1 ∧ (ps.getD i ((0 : Int), (0 : Int))).2 = ((ptsA ps.length (flat ps)).getD (↑i : Int).toNat ((0 : Int), (0 : Int))).2 ∧ (ps.getD ((i + (1 : Nat)) % ps.length) ((0 : Int), (0 : Int))).1 = (nxP (ptsA ps.length (flat ps)) (↑i : Int).toNat).1 ∧ (ps.getD ((i + (1 : Nat)) % ps.length) ((0 : Int), (0 : Int))).2 = (nxP (ptsA ps.length (flat ps)) (↑i : Int).toNat).2) (brT (rowQ (ptsA ps.length (flat ps)) (↑i : Int).toNat) (.leaf .normal ⟨(topV :: .pointer (some ⟨1, 0, none⟩) :: .pointer (some ⟨2, 0, none⟩) :: topV :: topV :: topV :: topV :: topV :: topV :: topV :: topV :: topV :: topV :: topV :: topV :: topV :: topV :: topV :: topV :: topV :: topV :: topV :: .func (Fn.func 109) #[] #[.pointer (some ⟨3, 0, none⟩)] :: topV :: topV :: topV :: topV :: topV :: topV :: topV :: topV :: topV :: topV :: topV :: topV :: topV :: topV :: topV :: topV :: topV :: topV :: topV :: topV :: topV :: topV :: topV :: topV :: topV :: topV :: topV :: topV :: topV :: []), [some ⟨.view, .ints (flat ps)⟩, some ⟨.box, .vals [.slice (some ⟨0, 0, none⟩) (ps.length) (ps.length)]⟩, some ⟨.box, .vals [.bool (false)]⟩, some ⟨.view, .vals [.slice (some ⟨0, 0, none⟩) (ps.length) (ps.length)]⟩]⟩) (.leaf .ret ⟨(topV :: topV :: .pointer (some ⟨2, 0, none⟩) :: topV :: topV :: topV :: topV :: topV :: topV :: topV :: topV :: topV :: topV :: topV :: topV :: topV :: topV :: topV :: topV :: topV :: topV :: topV :: topV :: topV :: topV :: topV :: topV :: topV :: topV :: topV :: topV :: topV :: topV :: topV :: topV :: topV :: topV :: topV :: topV :: topV :: topV :: topV :: topV :: topV :: topV :: topV :: topV :: topV :: topV :: topV :: topV :: topV :: []), [some ⟨.view, .ints (flat ps)⟩, some ⟨.box, .vals [.slice (some ⟨0, 0, none⟩) (ps.length) (ps.length)]⟩, some ⟨.box, .vals [.bool (false)]⟩, some ⟨.view, .vals [.slice (some ⟨0, 0, none⟩) (ps.length) (ps.length)]⟩]⟩)))))))) := by kernel_rfl
/-- A round of this loop. -/
def Round_isO (ps : List Pt) : Prop := ∀ i : Nat, g_isO ps i → i < (ps).length → (bodyR Try.prog EIs 30 12 noL (rt1 26 e_isI) (asgOf gc_isO) (bodOf gc_isO) ([23, 24].zip (encE ps i)) k_isO 4 (s_isO ps i)).ok (RoundEndR 4 (s_isO ps) (g_isO ps) (re_isO ps) (rs_isO ps) i) (fun _ _ => False)
set_option maxRecDepth 100000 in
theorem gcode_isO : gc_isO = .rangeFunc (.tmp 22) ([23, 24] : List Nat).toArray (asgOf gc_isO) (bodOf gc_isO) := by kernel_rfl
def e_isO (s : St) (k : Ex → St → Tree) : Option Tree := match Nat.beq s.tmps.length 52, pickL s.tmps [1, 2, 22], s.mem with
  | true, [.pointer (some ⟨1, 0, none⟩), .pointer (some ⟨2, 0, none⟩), .func (.func 109) ⟨[]⟩ ⟨[.pointer (some ⟨3, 0, none⟩)]⟩], [some ⟨.view, .ints xs⟩, some ⟨.box, .vals [.slice (some ⟨0, 0, none⟩) n _]⟩, some ⟨.box, .vals [.bool false]⟩, some ⟨.box, .vals [.slice (some ⟨0, 0, none⟩) n1 _]⟩] => some (needs [n1 = n, xs.length = n * 2, n ≤ 20] (brT (simQ (ptsA n xs)) (k .normal ⟨(topV :: topV :: .pointer (some ⟨2, 0, none⟩) :: topV :: topV :: topV :: topV :: topV :: topV :: topV :: topV :: topV :: topV :: topV :: topV :: topV :: topV :: topV :: topV :: topV :: topV :: topV :: topV :: topV :: topV :: topV :: topV :: topV :: topV :: topV :: topV :: topV :: topV :: topV :: topV :: topV :: topV :: topV :: topV :: topV :: topV :: topV :: topV :: topV :: topV :: topV :: topV :: topV :: topV :: topV :: topV :: topV :: []), [some ⟨.view, .ints xs⟩, some ⟨.box, .vals [.slice (some ⟨0, 0, none⟩) n n]⟩, some ⟨.box, .vals [.bool false]⟩, some ⟨.view, .vals [.slice (some ⟨0, 0, none⟩) n n]⟩]⟩) (k .ret ⟨(topV :: topV :: .pointer (some ⟨2, 0, none⟩) :: topV :: topV :: topV :: topV :: topV :: topV :: topV :: topV :: topV :: topV :: topV :: topV :: topV :: topV :: topV :: topV :: topV :: topV :: topV :: topV :: topV :: topV :: topV :: topV :: topV :: topV :: topV :: topV :: topV :: topV :: topV :: topV :: topV :: topV :: topV :: topV :: topV :: topV :: topV :: topV :: topV :: topV :: topV :: topV :: topV :: topV :: topV :: topV :: topV :: []), [some ⟨.view, .ints xs⟩, some ⟨.box, .vals [.slice (some ⟨0, 0, none⟩) n n]⟩, some ⟨.box, .vals [.bool false]⟩, some ⟨.view, .vals [.slice (some ⟨0, 0, none⟩) n n]⟩]⟩)))
  | _, _, _ => none
set_option maxRecDepth 100000 in
theorem round_isO (ps : List Pt) (h : ps.length ≤ 20) : Round_isO ps := by
  rintro i ⟨_, hg⟩ hi
  rw [tr_isO]
  simp only [ptsA_flat, Int.toNat_natCast]
  refine ⟨by first | exact True.intro | rfl, by first | exact True.intro | rfl, by omega, flat_length ps, h, by omega, ⟨by first | exact True.intro | rfl, by first | exact True.intro | rfl, rfl, rfl⟩, ?_⟩
  refine brT_ok.2 ⟨fun hq => ?_, fun hq => ?_⟩
  · refine ⟨⟨by omega, fun k hk => ?_⟩, [], ?_⟩
    · rcases Nat.lt_or_ge k i with h1 | h1
      · exact hg k h1
      · obtain rfl : k = i := by omega
        exact hq
    · refine ⟨rfl, rfl, ?_, ?_⟩ <;> repeat' (first | exact True.intro | exact rfl | exact wv_top _ _ | exact fun _ => rfl | refine And.intro ?_ ?_)
  · have hs : simQ ps = false := allQ_no hi hq
    refine ⟨by unfold re_isO; rw [hs]; rfl, [], ?_⟩
    unfold rs_isO
    rw [hs]
    refine ⟨rfl, rfl, ?_, ?_⟩ <;> repeat' (first | exact True.intro | exact rfl | exact wv_top _ _ | exact fun _ => rfl | refine And.intro ?_ ?_)
set_option maxRecDepth 100000 in
theorem lg_isO : RangeE Try.prog e_isO gc_isO := by
  intro s k t F H hlt ht
  unfold e_isO at hlt
  split at hlt
  rotate_left
  · cases hlt
  rename_i hlen hpick hmem
  obtain ⟨tmps, mem⟩ := s
  simp only at hlen hpick hmem
  subst hmem
  obtain rfl := Option.some.inj hlt
  obtain ⟨⟨rfl, h1, h3, _⟩, ht2⟩ := needs_ok ht
  clear ht hlt
  obtain ⟨ps, rfl, rfl⟩ := even_flat h1
  rw [ptsA_flat] at ht2
  refine ⟨re_isO ps, rs_isO ps, pick2k ht2, ?_⟩
  rw [gcode_isO]
  refine range_det (enc := encE ps) (len := (ps).length) (St_of := s_isO ps) (Good := g_isO ps) (N := 4) (M := 4) (Kn := [0, 3]) (cap := [.pointer (some ⟨3, 0, none⟩)]) (kf := (k_isO .normal)) (π := []) (fun _ => rfl) (fun _ => rfl) (fun i hg hlt => bodyR_ok mixed EIs_ok (noL_good) (rt1_good (by kernel_rfl) lg_isI) (round_isO ps h3 i hg hlt)) (entersB_res (by kernel_rfl)).1 rfl ?_ (fun ρ0 ρ B w lb h1 h2 => ed_iter ps (by omega) (s := (s_isO ps 0).fs) (nb := 3) (nr := 0) (c := (ps).length) (Kn := [0, 3]) rfl rfl (by decide) (by decide) ρ0 ρ B w lb h1 h2) ?_ rfl (by decide) ?_ ⟨Nat.zero_le _, fun k hk => by omega⟩
  · intro n hn b hb
    simp only [List.mem_cons, List.not_mem_nil, or_false] at hn
    rcases hn with rfl | rfl <;> (obtain rfl := Option.some.inj hb; rfl)
  · rintro ⟨_, hg⟩
    have hq : simQ ps = true := allQ_all _ _ fun k _ h2 => hg k (by omega)
    refine ⟨by unfold re_isO; rw [hq]; rfl, [], ?_⟩
    unfold rs_isO
    rw [hq]
    refine ⟨rfl, rfl, ?_, ?_⟩ <;> repeat' (first | exact True.intro | exact rfl | exact wv_top _ _ | exact fun _ => rfl | refine And.intro ?_ ?_)
  · refine ⟨rfl, rfl, ?_, wvs_spread' [1, 2, 22] hlen rfl ?_⟩
    · repeat' (first | exact True.intro | exact rfl | exact wv_top _ _ | exact fun _ => rfl | assumption | exact Eq.symm (by assumption) | exact vI0 rfl | refine And.intro ?_ ?_)
    · rw [show pickL (viewS [0, 3] ⟨tmps, _⟩).tmps [1, 2, 22] = pickL tmps [1, 2, 22] from rfl, hpick]
      repeat' (first | exact True.intro | exact rfl | exact wv_top _ _ | exact fun _ => rfl | assumption | exact Eq.symm (by assumption) | exact vI0 rfl | refine And.intro ?_ ?_)
theorem Gr_isO {fn : Func} (hf : Try.prog.funcs[16]? = some fn) : RangesGood Try.prog (rt1 22 e_isO) (codeOf fn) := by
  obtain rfl := fn_is Try.func16 hf
  exact rt1_good (by kernel_rfl) lg_isO
def GIs : FuncId → RT := fun f => match f with
  | 16 => rt1 22 e_isO
  | _ => noR
def EIo : Env := withG EIs GIs
theorem EIo_ok : EnvOk Try.prog EIo := withG_ok EIs_ok (by
  intro f fn hf
  unfold GIs
  split
  all_goals first | with_reducible exact Gr_isO hf | exact noR_good)
set_option maxRecDepth 100000 in
theorem tr_iIss (ps : List Pt) : bodyV Try.prog EIo 30 12 16 [.row ps.length (.ints (flat ps))] = brT (decide ((↑ps.length : Int) < 3)) (.fin (.bool (false)) []) (brT (decide (20 < (↑ps.length : Int))) (.fin (.bool (false)) []) (brT (decide ((↑ps.length : Int) ≤ 20)) (.need (ps.length * (2 : Nat) ≤ (List.drop (0 : Nat) (flat ps)).length) (.need (ps.length ≤ (1000000000 : Nat)) (brT (!allV (ptsA ps.length (List.drop 0 (flat ps)))) (.fin (.bool (false)) []) (.need (ps.length = ps.length) (.need ((flat ps).length = ps.length * (2 : Nat)) (.need (ps.length ≤ (20 : Nat)) (brT (simQ (ptsA ps.length (flat ps))) (.fin (.bool (true)) []) (.fin (.bool (false)) [])))))))) (.fin (.bool (false)) []))) := by kernel_rfl
/-- Is a polygon simple, as the program finds it? -/
def issI (ps : List Pt) : Bool := decide (3 ≤ ps.length) && okL ps && simQ ps
theorem res_iIss (ps : List Pt) (h : Big ps) : Res Try.prog 16 [.row ps.length (.ints (flat ps))] (.bool (issI ps)) := by
  refine bodyV_res mixed EIo_ok (m := 30) (n := 12) rfl ?_
  rw [tr_iIss]
  unfold Big at h
  simp only [List.drop_zero, ptsA_flat, flat_length]
  unfold issI okL
  by_cases h1 : 3 ≤ ps.length
  · by_cases h2 : ps.length ≤ 20
    · have a1 : ¬ (ps.length : Int) < 3 := by omega
      have a2 : ¬ (20 : Int) < ps.length := by omega
      have a3 : (ps.length : Int) ≤ 20 := by omega
      rcases hv : allV ps with _ | _ <;> rcases hs : simQ ps with _ | _ <;> simp [brT_ok, Tree.ok, h1, h2, a1, a2, a3, h]
    · have a1 : ¬ (ps.length : Int) < 3 := by omega
      have a2 : (20 : Int) < ps.length := by omega
      simp [brT_ok, Tree.ok, h2, a1, a2]
  · have a1 : (ps.length : Int) < 3 := by omega
    simp [brT_ok, Tree.ok, h1, a1]
end Go.Proofs.Ytnjmepbblcfnfab
namespace Go.Proofs.Ytnjmepbblcfnfab
set_option linter.all false
open Go.RowKit
/-- So many different valid points. -/
def rngQ (ps : List Pt) : Bool := okL ps && decide (3 ≤ ps.length) && ((srtL ps).length == ps.length)
set_option maxRecDepth 100000 in
theorem tr_sRng (ps : List Pt) : bodyV Try.prog EIs 30 12 112 [.row ps.length (.ints (flat ps))] = .need (ps.length * (2 : Nat) ≤ (List.drop (0 : Nat) (flat ps)).length) (.need (ps.length ≤ (1000000000 : Nat)) (brT (okL (ptsA ps.length (List.drop 0 (flat ps)))) (brT (decide (3 ≤ (↑ps.length : Int))) (brT (decide ((↑ps.length : Int) ≤ 20)) (.need (ps.length * (2 : Nat) ≤ (List.drop (0 : Nat) (flat ps)).length) (.need (ps.length ≤ (1000 : Nat)) (.fin (.bool ((↑(srtL (ptsA ps.length (List.drop 0 (flat ps)))).length : Int) == (↑ps.length : Int))) []))) (.fin (.bool (false)) [])) (.fin (.bool (false)) [])) (.fin (.bool (false)) []))) := by kernel_rfl
theorem res_sRng (ps : List Pt) (h : Big ps) : Res Try.prog 112 [.row ps.length (.ints (flat ps))] (.bool (rngQ ps)) := by
  refine bodyV_res mixed EIs_ok (m := 30) (n := 12) rfl ?_
  rw [tr_sRng]
  unfold Big at h
  simp only [List.drop_zero, ptsA_flat, flat_length]
  unfold rngQ
  have hq : ((((srtL ps).length : Nat) : Int) == (ps.length : Int)) = ((srtL ps).length == ps.length) := by rw [Bool.eq_iff_iff]; simp; omega
  rw [hq]
  rcases ho : okL ps with _ | _
  · simp [brT_ok, Tree.ok, h]
  · have hl : ps.length ≤ 20 := by
      unfold okL at ho
      simp only [Bool.and_eq_true, decide_eq_true_eq] at ho
      exact ho.2
    have a3 : (ps.length : Int) ≤ 20 := by omega
    have a4 : ps.length ≤ 1000 := by omega
    by_cases h1 : 3 ≤ ps.length
    · have a1 : (3 : Int) ≤ ps.length := by omega
      simp [brT_ok, Tree.ok, h, h1, a1, a3, a4]
    · have a1 : ¬ (3 : Int) ≤ ps.length := by omega
      simp [brT_ok, Tree.ok, h, h1, a1]
def pRng : List DArg → Option (Value × List Prop)
  | [.row m (.ints xs)] => some (.bool (rngQ (ptsA m xs)), [m * 2 ≤ xs.length, m ≤ 1000000000])
  | _ => none
theorem pRng_ok {ds : List DArg} {v : Value} {C : List Prop} (h : pRng ds = some (v, C)) (hC : AllP C) : Res Try.prog 112 ds v := by
  unfold pRng at h
  split at h
  · rename_i m xs
    obtain ⟨rfl, rfl⟩ : _ ∧ _ := by simpa using h
    obtain ⟨_, h2⟩ := ptsA_spec hC.1
    exact res_pts1 (pre := []) (post := []) hC.1 (res_sRng (ptsA m xs) (by unfold Big; rw [h2]; exact hC.2.1))
  · cases h
def TIt : Tab := fun f ds => match f with
  | 112 => pRng ds
  | f => TIs f ds
theorem TIt_ok : TabOk Try.prog TIt := by
  intro f ds v C h hC
  unfold TIt at h
  (try split at h)
  all_goals first | with_reducible exact pRng_ok h hC | exact TIs_ok _ _ _ _ h hC
def EIt : Env := mkE TIt RCe (fun _ => noL)
theorem EIt_ok : EnvOk Try.prog EIt := mkEOk TIt_ok RCe_ok (fun _ _ _ => noL_good)
def edX (ps : List Pt) (i k : Nat) : Int := relA (ps.getD i (0, 0)).1 (ps.getD i (0, 0)).2 (nxP ps i).1 (nxP ps i).2 (ps.getD k (0, 0)).1 (ps.getD k (0, 0)).2 (nxP ps k).1 (nxP ps k).2
def nbS (ps : List Pt) (i k : Nat) : Bool := decide (k + 1 = i) || decide ((i + 1) % ps.length = k)
def okS (ps : List Pt) (i k : Nat) : Bool := bif nbS ps i k then !(edX ps i k == 3) else edX ps i k == 0
def rowS (ps : List Pt) (i : Nat) : Bool := allQ (okS ps i) 0 i
def simS (ps : List Pt) : Bool := allQ (rowS ps) 0 ps.length
theorem pt_get {ps : List Pt} (h : allV ps = true) {j : Nat} (hj : j < ps.length) : ptB (ps.getD j (0, 0)).1 (ps.getD j (0, 0)).2 = true := List.all_eq_true.1 h (ps.getD j (0, 0)) (by simp [hj])
noncomputable def c_ssI : Code := ((loopsOf (codeOf Try.f66))[1]?).getD .skip
def k_ssI : Ex → List Nat := keeps [0, 3, 4, 5] [(2, [0, 3, 4]), (1, [0, 3, 4])] [2]
def s_ssI (ps : List Pt) (i : Nat) : Nat → St := fun k => ⟨(.slice (some ⟨0, 0, none⟩) ps.length ps.length :: topV :: topV :: .int .i64 ps.length :: .int .i64 i :: .int .i64 k :: topV :: topV :: topV :: topV :: topV :: topV :: topV :: topV :: topV :: topV :: topV :: topV :: topV :: topV :: topV :: topV :: topV :: topV :: topV :: topV :: topV :: topV :: topV :: topV :: topV :: topV :: topV :: topV :: topV :: topV :: topV :: topV :: topV :: topV :: topV :: topV :: topV :: topV :: topV :: topV :: topV :: topV :: topV :: topV :: topV :: topV :: topV :: topV :: topV :: []), [some ⟨.view, .ints (flat ps)⟩]⟩
def re_ssI (ps : List Pt) (i : Nat) : Nat → Ex := fun k => bif allQ (okS ps i) k (i - k) then .exit 2 else .ret
def rs_ssI (ps : List Pt) (i : Nat) : Nat → St := fun k => bif allQ (okS ps i) k (i - k) then ⟨(.slice (some ⟨0, 0, none⟩) ps.length ps.length :: topV :: topV :: .int .i64 ps.length :: .int .i64 i :: topV :: topV :: topV :: topV :: topV :: topV :: topV :: topV :: topV :: topV :: topV :: topV :: topV :: topV :: topV :: topV :: topV :: topV :: topV :: topV :: topV :: topV :: topV :: topV :: topV :: topV :: topV :: topV :: topV :: topV :: topV :: topV :: topV :: topV :: topV :: topV :: topV :: topV :: topV :: topV :: topV :: topV :: topV :: topV :: topV :: topV :: topV :: topV :: topV :: topV :: []), [some ⟨.view, .ints (flat ps)⟩]⟩ else ⟨(topV :: topV :: .bool false :: topV :: topV :: topV :: topV :: topV :: topV :: topV :: topV :: topV :: topV :: topV :: topV :: topV :: topV :: topV :: topV :: topV :: topV :: topV :: topV :: topV :: topV :: topV :: topV :: topV :: topV :: topV :: topV :: topV :: topV :: topV :: topV :: topV :: topV :: topV :: topV :: topV :: topV :: topV :: topV :: topV :: topV :: topV :: topV :: topV :: topV :: topV :: topV :: topV :: topV :: topV :: topV :: []), [some ⟨.view, .ints (flat ps)⟩]⟩
set_option maxRecDepth 100000 in
theorem tr_ssI (ps : List Pt) (i : Nat) (k : Nat) : bodyL Try.prog EIt 30 12 noL 2 c_ssI k_ssI 1 (s_ssI ps i k) = brT (decide ((↑k : Int) < (↑i : Int))) (.need ((0 : Int) ≤ (↑i : Int) ∧ (↑i : Int) < (↑ps.length : Int)) (.need ((0 : Nat) + (↑i : Int).toNat * (2 : Nat) + (2 : Nat) ≤ (flat ps).length) (.need (¬(↑ps.length : Int) = (0 : Int)) (.need ((0 : Int) ≤ (IntKind.i64.wrap ((↑i : Int) + (1 : Int))).tmod (↑ps.length : Int) ∧ (IntKind.i64.wrap ((↑i : Int) + (1 : Int))).tmod (↑ps.length : Int) < (↑ps.length : Int)) (.need ((0 : Nat) + ((IntKind.i64.wrap ((↑i : Int) + (1 : Int))).tmod (↑ps.length : Int)).toNat * (2 : Nat) + (2 : Nat) ≤ (flat ps).length) (.need ((0 : Int) ≤ (↑k : Int) ∧ (↑k : Int) < (↑ps.length : Int)) (.need ((0 : Nat) + (↑k : Int).toNat * (2 : Nat) + (2 : Nat) ≤ (flat ps).length) (.need (¬(↑ps.length : Int) = (0 : Int)) (.need ((0 : Int) ≤ (IntKind.i64.wrap ((↑k : Int) + (1 : Int))).tmod (↑ps.length : Int) ∧ (IntKind.i64.wrap ((↑k : Int) + (1 : Int))).tmod (↑ps.length : Int) < (↑ps.length : Int)) (.need ((0 : Nat) + ((IntKind.i64.wrap ((↑k : Int) + (1 : Int))).tmod (↑ps.length : Int)).toNat * (2 : Nat) + (2 : Nat) ≤ (flat ps).length) (.need (ptB ((flat ps).getD ((0 : Nat) + (↑i : Int).toNat * (2 : Nat)) (0 : Int)) ((flat ps).getD ((0 : Nat) + (↑i : Int).toNat * (2 : Nat) + (1 : Nat)) (0 : Int)) = true) (.need (ptB ((flat ps).getD ((0 : Nat) + ((IntKind.i64.wrap ((↑i : Int) + (1 : Int))).tmod (↑ps.length : Int)).toNat * (2 : Nat)) (0 : Int)) ((flat ps).getD ((0 : Nat) + ((IntKind.i64.wrap ((↑i : Int) + (1 : Int))).tmod (↑ps.length : Int)).toNat * (2 : Nat) + (1 : Nat)) (0 : Int)) = true) (.need (ptB ((flat ps).getD ((0 : Nat) + (↑k : Int).toNat * (2 : Nat)) (0 : Int)) ((flat ps).getD ((0 : Nat) + (↑k : Int).toNat * (2 : Nat) + (1 : Nat)) (0 : Int)) = true) (.need (ptB ((flat ps).getD ((0 : Nat) + ((IntKind.i64.wrap ((↑k : Int) + (1 : Int))).tmod (↑ps.length : Int)).toNat * (2 : Nat)) (0 : Int)) ((flat ps).getD ((0 : Nat) + ((IntKind.i64.wrap ((↑k : Int) + (1 : Int))).tmod (↑ps.length : Int)).toNat * (2 : Nat) + (1 : Nat)) (0 : Int)) = true) (brT (IntKind.i64.wrap ((↑k : Int) + 1) == (↑i : Int)) (brT (relA ((flat ps).getD (0 + (↑i : Int).toNat * 2) 0) ((flat ps).getD (0 + (↑i : Int).toNat * 2 + 1) 0) ((flat ps).getD (0 + ((IntKind.i64.wrap ((↑i : Int) + 1)).tmod (↑ps.length : Int)).toNat * 2) 0) ((flat ps).getD (0 + ((IntKind.i64.wrap ((↑i : Int) + 1)).tmod (↑ps.length : Int)).toNat * 2 + 1) 0) ((flat ps).getD (0 + (↑k : Int).toNat * 2) 0) ((flat ps).getD (0 + (↑k : Int).toNat * 2 + 1) 0) ((flat ps).getD (0 + ((IntKind.i64.wrap ((↑k : Int) + 1)).tmod (↑ps.length : Int)).toNat * 2) 0) ((flat ps).getD (0 + ((IntKind.i64.wrap ((↑k : Int) + 1)).tmod (↑ps.length : Int)).toNat * 2 + 1) 0) == 3) (.leaf .ret ⟨(topV :: topV :: .bool (false) :: topV :: topV :: topV :: topV :: topV :: topV :: topV :: topV :: topV :: topV :: topV :: topV :: topV :: topV :: topV :: topV :: topV :: topV :: topV :: topV :: topV :: topV :: topV :: topV :: topV :: topV :: topV :: topV :: topV :: topV :: topV :: topV :: topV :: topV :: topV :: topV :: topV :: topV :: topV :: topV :: topV :: topV :: topV :: topV :: topV :: topV :: topV :: topV :: topV :: topV :: topV :: topV :: []), [some ⟨.view, .ints (flat ps)⟩]⟩) (.leaf .normal ⟨(.slice (some ⟨0, 0, none⟩) (ps.length) (ps.length) :: topV :: topV :: .int .i64 ((↑ps.length : Int)) :: .int .i64 ((↑i : Int)) :: .int .i64 (IntKind.i64.wrap ((↑k : Int) + 1)) :: topV :: topV :: topV :: topV :: topV :: topV :: topV :: topV :: topV :: topV :: topV :: topV :: topV :: topV :: topV :: topV :: topV :: topV :: topV :: topV :: topV :: topV :: topV :: topV :: topV :: topV :: topV :: topV :: topV :: topV :: topV :: topV :: topV :: topV :: topV :: topV :: topV :: topV :: topV :: topV :: topV :: topV :: topV :: topV :: topV :: topV :: topV :: topV :: topV :: []), [some ⟨.view, .ints (flat ps)⟩]⟩)) (.need (¬(↑ps.length : Int) = (0 : Int)) (brT ((IntKind.i64.wrap ((↑i : Int) + 1)).tmod (↑ps.length : Int) == (↑k : Int)) (brT (relA ((flat ps).getD (0 + (↑i : Int).toNat * 2) 0) ((flat ps).getD (0 + (↑i : Int).toNat * 2 + 1) 0) ((flat ps).getD (0 + ((IntKind.i64.wrap ((↑i : Int) + 1)).tmod (↑ps.length : Int)).toNat * 2) 0) ((flat ps).getD (0 + ((IntKind.i64.wrap ((↑i : Int) + 1)).tmod (↑ps.length : Int)).toNat * 2 + 1) 0) ((flat ps).getD (0 + (↑k : Int).toNat * 2) 0) ((flat ps).getD (0 + (↑k : Int).toNat * 2 + 1) 0) ((flat ps).getD (0 + ((IntKind.i64.wrap ((↑k : Int) + 1)).tmod (↑ps.length : Int)).toNat * 2) 0) ((flat ps).getD (0 + ((IntKind.i64.wrap ((↑k : Int) + 1)).tmod (↑ps.length : Int)).toNat * 2 + 1) 0) == 3) (.leaf .ret ⟨(topV :: topV :: .bool (false) :: topV :: topV :: topV :: topV :: topV :: topV :: topV :: topV :: topV :: topV :: topV :: topV :: topV :: topV :: topV :: topV :: topV :: topV :: topV :: topV :: topV :: topV :: topV :: topV :: topV :: topV :: topV :: topV :: topV :: topV :: topV :: topV :: topV :: topV :: topV :: topV :: topV :: topV :: topV :: topV :: topV :: topV :: topV :: topV :: topV :: topV :: topV :: topV :: topV :: topV :: topV :: topV :: []), [some ⟨.view, .ints (flat ps)⟩]⟩) (brT (!(IntKind.i64.wrap ((↑i : Int) + 1)).tmod (↑ps.length : Int) == (↑k : Int)) (brT (!relA ((flat ps).getD (0 + (↑i : Int).toNat * 2) 0) ((flat ps).getD (0 + (↑i : Int).toNat * 2 + 1) 0) ((flat ps).getD (0 + ((IntKind.i64.wrap ((↑i : Int) + 1)).tmod (↑ps.length : Int)).toNat * 2) 0) ((flat ps).getD (0 + ((IntKind.i64.wrap ((↑i : Int) + 1)).tmod (↑ps.length : Int)).toNat * 2 + 1) 0) ((flat ps).getD (0 + (↑k : Int).toNat * 2) 0) ((flat ps).getD (0 + (↑k : Int).toNat * 2 + 1) 0) ((flat ps).getD (0 + ((IntKind.i64.wrap ((↑k : Int) + 1)).tmod (↑ps.length : Int)).toNat * 2) 0) ((flat ps).getD (0 + ((IntKind.i64.wrap ((↑k : Int) + 1)).tmod (↑ps.length : Int)).toNat * 2 + 1) 0) == 0) (.leaf .ret ⟨(topV :: topV :: .bool (false) :: topV :: topV :: topV :: topV :: topV :: topV :: topV :: topV :: topV :: topV :: topV :: topV :: topV :: topV :: topV :: topV :: topV :: topV :: topV :: topV :: topV :: topV :: topV :: topV :: topV :: topV :: topV :: topV :: topV :: topV :: topV :: topV :: topV :: topV :: topV :: topV :: topV :: topV :: topV :: topV :: topV :: topV :: topV :: topV :: topV :: topV :: topV :: topV :: topV :: topV :: topV :: topV :: []), [some ⟨.view, .ints (flat ps)⟩]⟩) (.leaf .normal ⟨(.slice (some ⟨0, 0, none⟩) (ps.length) (ps.length) :: topV :: topV :: .int .i64 ((↑ps.length : Int)) :: .int .i64 ((↑i : Int)) :: .int .i64 (IntKind.i64.wrap ((↑k : Int) + 1)) :: topV :: topV :: topV :: topV :: topV :: topV :: topV :: topV :: topV :: topV :: topV :: topV :: topV :: topV :: topV :: topV :: topV :: topV :: topV :: topV :: topV :: topV :: topV :: topV :: topV :: topV :: topV :: topV :: topV :: topV :: topV :: topV :: topV :: topV :: topV :: topV :: topV :: topV :: topV :: topV :: topV :: topV :: topV :: topV :: topV :: topV :: topV :: topV :: topV :: []), [some ⟨.view, .ints (flat ps)⟩]⟩)) (.leaf .normal ⟨(.slice (some ⟨0, 0, none⟩) (ps.length) (ps.length) :: topV :: topV :: .int .i64 ((↑ps.length : Int)) :: .int .i64 ((↑i : Int)) :: .int .i64 (IntKind.i64.wrap ((↑k : Int) + 1)) :: topV :: topV :: topV :: topV :: topV :: topV :: topV :: topV :: topV :: topV :: topV :: topV :: topV :: topV :: topV :: topV :: topV :: topV :: topV :: topV :: topV :: topV :: topV :: topV :: topV :: topV :: topV :: topV :: topV :: topV :: topV :: topV :: topV :: topV :: topV :: topV :: topV :: topV :: topV :: topV :: topV :: topV :: topV :: topV :: topV :: topV :: topV :: topV :: topV :: []), [some ⟨.view, .ints (flat ps)⟩]⟩))) (brT (!(IntKind.i64.wrap ((↑i : Int) + 1)).tmod (↑ps.length : Int) == (↑k : Int)) (brT (!relA ((flat ps).getD (0 + (↑i : Int).toNat * 2) 0) ((flat ps).getD (0 + (↑i : Int).toNat * 2 + 1) 0) ((flat ps).getD (0 + ((IntKind.i64.wrap ((↑i : Int) + 1)).tmod (↑ps.length : Int)).toNat * 2) 0) ((flat ps).getD (0 + ((IntKind.i64.wrap ((↑i : Int) + 1)).tmod (↑ps.length : Int)).toNat * 2 + 1) 0) ((flat ps).getD (0 + (↑k : Int).toNat * 2) 0) ((flat ps).getD (0 + (↑k : Int).toNat * 2 + 1) 0) ((flat ps).getD (0 + ((IntKind.i64.wrap ((↑k : Int) + 1)).tmod (↑ps.length : Int)).toNat * 2) 0) ((flat ps).getD (0 + ((IntKind.i64.wrap ((↑k : Int) + 1)).tmod (↑ps.length : Int)).toNat * 2 + 1) 0) == 0) (.leaf .ret ⟨(topV :: topV :: .bool (false) :: topV :: topV :: topV :: topV :: topV :: topV :: topV :: topV :: topV :: topV :: topV :: topV :: topV :: topV :: topV :: topV :: topV :: topV :: topV :: topV :: topV :: topV :: topV :: topV :: topV :: topV :: topV :: topV :: topV :: topV :: topV :: topV :: topV :: topV :: topV :: topV :: topV :: topV :: topV :: topV :: topV :: topV :: topV :: topV :: topV :: topV :: topV :: topV :: topV :: topV :: topV :: topV :: []), [some ⟨.view, .ints (flat ps)⟩]⟩) (.leaf .normal ⟨(.slice (some ⟨0, 0, none⟩) (ps.length) (ps.length) :: topV :: topV :: .int .i64 ((↑ps.length : Int)) :: .int .i64 ((↑i : Int)) :: .int .i64 (IntKind.i64.wrap ((↑k : Int) + 1)) :: topV :: topV :: topV :: topV :: topV :: topV :: topV :: topV :: topV :: topV :: topV :: topV :: topV :: topV :: topV :: topV :: topV :: topV :: topV :: topV :: topV :: topV :: topV :: topV :: topV :: topV :: topV :: topV :: topV :: topV :: topV :: topV :: topV :: topV :: topV :: topV :: topV :: topV :: topV :: topV :: topV :: topV :: topV :: topV :: topV :: topV :: topV :: topV :: topV :: []), [some ⟨.view, .ints (flat ps)⟩]⟩)) (.leaf .normal ⟨(.slice (some ⟨0, 0, none⟩) (ps.length) (ps.length) :: topV :: topV :: .int .i64 ((↑ps.length : Int)) :: .int .i64 ((↑i : Int)) :: .int .i64 (IntKind.i64.wrap ((↑k : Int) + 1)) :: topV :: topV :: topV :: topV :: topV :: topV :: topV :: topV :: topV :: topV :: topV :: topV :: topV :: topV :: topV :: topV :: topV :: topV :: topV :: topV :: topV :: topV :: topV :: topV :: topV :: topV :: topV :: topV :: topV :: topV :: topV :: topV :: topV :: topV :: topV :: topV :: topV :: topV :: topV :: topV :: topV :: topV :: topV :: topV :: topV :: topV :: topV :: topV :: topV :: []), [some ⟨.view, .ints (flat ps)⟩]⟩))))))))))))))))))) (.leaf (.exit 2) ⟨(.slice (some ⟨0, 0, none⟩) (ps.length) (ps.length) :: topV :: topV :: .int .i64 ((↑ps.length : Int)) :: .int .i64 ((↑i : Int)) :: topV :: topV :: topV :: topV :: topV :: topV :: topV :: topV :: topV :: topV :: topV :: topV :: topV :: topV :: topV :: topV :: topV :: topV :: topV :: topV :: topV :: topV :: topV :: topV :: topV :: topV :: topV :: topV :: topV :: topV :: topV :: topV :: topV :: topV :: topV :: topV :: topV :: topV :: topV :: topV :: topV :: topV :: topV :: topV :: topV :: topV :: topV :: topV :: topV :: topV :: []), [some ⟨.view, .ints (flat ps)⟩]⟩) := by kernel_rfl
set_option maxRecDepth 100000 in
theorem nl_ssI : loopsOf c_ssI = [] := by kernel_rfl
def inv_ssI (ps : List Pt) (i : Nat) : Nat → Prop := fun k => k ≤ i
def me_ssI (ps : List Pt) (i : Nat) : Nat → Nat := fun k => i - k
/-- A round of this loop. -/
def Round_ssI (ps : List Pt) (i : Nat) : Prop := ∀ xx : Nat, inv_ssI ps i xx → (bodyL Try.prog EIt 30 12 noL 2 c_ssI k_ssI 1 (s_ssI ps i xx)).ok (RoundEnd 1 (s_ssI ps i) (inv_ssI ps i) (me_ssI ps i) (re_ssI ps i) (rs_ssI ps i) xx) (fun _ _ => False)
def e_ssI (s : St) (k : Ex → St → Tree) : Option Tree := match Nat.beq s.tmps.length 55, pickL s.tmps [0, 3, 4, 5], s.mem with
  | true, [.slice (some ⟨0, 0, none⟩) n _, .int .i64 l, .int .i64 ii, .int .i64 kk], [some ⟨.view, .ints xs⟩] => some (needs [kk = 0, l = n, xs.length = n * 2, n ≤ 20, allV (ptsA n xs) = true, 0 ≤ ii, ii < n] (brT (allQ (okS (ptsA n xs) ii.toNat) 0 ii.toNat) (k (.exit 2) ⟨(.slice (some ⟨0, 0, none⟩) n n :: topV :: topV :: .int .i64 n :: .int .i64 ii :: topV :: topV :: topV :: topV :: topV :: topV :: topV :: topV :: topV :: topV :: topV :: topV :: topV :: topV :: topV :: topV :: topV :: topV :: topV :: topV :: topV :: topV :: topV :: topV :: topV :: topV :: topV :: topV :: topV :: topV :: topV :: topV :: topV :: topV :: topV :: topV :: topV :: topV :: topV :: topV :: topV :: topV :: topV :: topV :: topV :: topV :: topV :: topV :: topV :: topV :: []), [some ⟨.view, .ints xs⟩]⟩) (k .ret ⟨(topV :: topV :: .bool false :: topV :: topV :: topV :: topV :: topV :: topV :: topV :: topV :: topV :: topV :: topV :: topV :: topV :: topV :: topV :: topV :: topV :: topV :: topV :: topV :: topV :: topV :: topV :: topV :: topV :: topV :: topV :: topV :: topV :: topV :: topV :: topV :: topV :: topV :: topV :: topV :: topV :: topV :: topV :: topV :: topV :: topV :: topV :: topV :: topV :: topV :: topV :: topV :: topV :: topV :: topV :: topV :: []), [some ⟨.view, .ints xs⟩]⟩)))
  | _, _, _ => none
set_option maxRecDepth 100000 in
theorem round_ssI (ps : List Pt) (i : Nat) (h : ps.length ≤ 20) (hv : allV ps = true) (hi : i < ps.length) : Round_ssI ps i := by
  intro k h1
  have h1 : k ≤ i := h1
  rw [tr_ssI]
  simp only [Int.toNat_natCast, Nat.zero_add, flat_length, flat_get0, flat_get1]
  refine brT_ok.2 ⟨fun hlt => ?_, fun hge => ?_⟩
  · have hlt := of_decide_eq_true hlt
    have hk : k < ps.length := by omega
    have m1 := nx_lt hi
    have m2 := nx_lt hk
    have e2 : IntKind.i64.wrap ((k : Int) + 1) = ((k + 1 : Nat) : Int) := wsucc hk (by omega)
    have c1 : (IntKind.i64.wrap ((k : Int) + 1) == (i : Int)) = decide (k + 1 = i) := by rw [e2, Bool.eq_iff_iff]; simp; omega
    have c3 : ((((i + 1) % ps.length : Nat) : Int) == (k : Int)) = decide ((i + 1) % ps.length = k) := by
      generalize (i + 1) % ps.length = m
      rw [Bool.eq_iff_iff]
      simp
      omega
    simp only [nx_mod hi (by omega), nx_mod hk (by omega), c1, c3, Int.toNat_natCast, flat_get0, flat_get1]
    have hR : relA (ps.getD i (0, 0)).1 (ps.getD i (0, 0)).2 (ps.getD ((i + 1) % ps.length) (0, 0)).1 (ps.getD ((i + 1) % ps.length) (0, 0)).2 (ps.getD k (0, 0)).1 (ps.getD k (0, 0)).2 (ps.getD ((k + 1) % ps.length) (0, 0)).1 (ps.getD ((k + 1) % ps.length) (0, 0)).2 = edX ps i k := rfl
    simp only [hR, e2]
    refine ⟨by omega, by omega, by omega, by omega, by omega, by omega, by omega, by omega, by omega, by omega, pt_get hv hi, pt_get hv m1, pt_get hv hk, pt_get hv m2, ?_⟩
    have n0 : ¬ (ps.length : Int) = 0 := by omega
    have step : allQ (okS ps i) k (i - k) = (okS ps i k && allQ (okS ps i) (k + 1) (i - (k + 1))) := allQ_step (by omega)
    have nxt : okS ps i k = true → allQ (okS ps i) k (i - k) = allQ (okS ps i) (k + 1) (i - (k + 1)) := fun ho => by rw [step, ho, Bool.true_and]
    have stp : okS ps i k = false → allQ (okS ps i) k (i - k) = false := fun ho => by rw [step, ho, Bool.false_and]
    rcases q1 : decide (k + 1 = i) with _ | _ <;> rcases q3 : decide ((i + 1) % ps.length = k) with _ | _ <;> rcases q4 : (edX ps i k == 3) with _ | _ <;> rcases q5 : (edX ps i k == 0) with _ | _
    all_goals
      simp only [brT_t, brT_f, Bool.not_true, Bool.not_false, Tree.ok, RoundEnd]
      try refine ⟨n0, ?_⟩
      first
        | (have ho : okS ps i k = true := by unfold okS nbS; rw [q1, q3]; simp [q4, q5]
           have e := nxt ho
           refine ⟨k + 1, [], ?_, ?_, by simp only [re_ssI, e], by simp only [rs_ssI, e], ?_⟩
           · show k + 1 ≤ i; omega
           · show i - (k + 1) < i - k; omega
           · refine ⟨rfl, rfl, ?_, ?_⟩ <;> repeat' (first | exact True.intro | exact rfl | exact wv_top _ _ | exact fun _ => rfl | refine And.intro ?_ ?_))
        | (have ho : okS ps i k = false := by unfold okS nbS; rw [q1, q3]; simp [q4, q5]
           have e := stp ho
           refine ⟨by simp only [re_ssI, e, cond_false], [], ?_⟩
           simp only [rs_ssI, e, cond_false]
           refine ⟨rfl, rfl, ?_, ?_⟩ <;> repeat' (first | exact True.intro | exact rfl | exact wv_top _ _ | exact fun _ => rfl | refine And.intro ?_ ?_))
  · have hge := of_decide_eq_false hge
    obtain rfl : k = i := by omega
    have e : allQ (okS ps k) k (k - k) = true := allQ_end (by omega)
    refine ⟨by simp only [re_ssI, e, cond_true], [], ?_⟩
    simp only [rs_ssI, e, cond_true]
    refine ⟨rfl, rfl, ?_, ?_⟩ <;> repeat' (first | exact True.intro | exact rfl | exact wv_top _ _ | exact fun _ => rfl | refine And.intro ?_ ?_)
set_option maxRecDepth 100000 in
theorem lg_ssI : LoopE Try.prog e_ssI c_ssI := by
  intro s k t F H hlt ht
  unfold e_ssI at hlt
  split at hlt
  rotate_left
  · cases hlt
  rename_i hlen hpick hmem
  obtain ⟨tmps, mem⟩ := s
  simp only at hlen hpick hmem
  subst hmem
  obtain rfl := Option.some.inj hlt
  obtain ⟨⟨rfl, rfl, h1, h2, h3, h4, h5, _⟩, ht2⟩ := needs_ok ht
  clear ht hlt
  obtain ⟨ps, rfl, rfl⟩ := even_flat h1
  obtain ⟨i, rfl⟩ := Int.eq_ofNat_of_zero_le h4
  rw [ptsA_flat] at ht2 h3
  simp only [Int.toNat_natCast] at ht2
  refine ⟨_, _, pick2k ht2, loop_run mixed EIt_ok (s_ssI _ _) (inv_ssI _ _) (me_ssI _ _) (re_ssI _ _) (rs_ssI _ _) k_ssI (fun _ => rfl) (noLoops nl_ssI) (round_ssI _ _ h2 h3 (by omega)) (x := 0) (Nat.zero_le _) (π := []) rfl ?_⟩
  refine ⟨rfl, rfl, ?_, wvs_spread' [0, 3, 4, 5] hlen rfl ?_⟩
  · repeat' (first | exact True.intro | exact rfl | exact wv_top _ _ | exact fun _ => rfl | assumption | exact Eq.symm (by assumption) | exact vI0 rfl | refine And.intro ?_ ?_)
  · rw [hpick]
    repeat' (first | exact True.intro | exact rfl | exact wv_top _ _ | exact fun _ => rfl | assumption | exact Eq.symm (by assumption) | exact vI0 rfl | refine And.intro ?_ ?_)
def ltSs : LT := fun j s k => match j with
  | 1 => e_ssI s k
  | _ => none
noncomputable def c_ssO : Code := ((loopsOf (codeOf Try.f66))[0]?).getD .skip
def k_ssO : Ex → List Nat := keeps [0, 3, 4] [(0, [])] [2]
def s_ssO (ps : List Pt) : Nat → St := fun i => ⟨(.slice (some ⟨0, 0, none⟩) ps.length ps.length :: topV :: topV :: .int .i64 ps.length :: .int .i64 i :: topV :: topV :: topV :: topV :: topV :: topV :: topV :: topV :: topV :: topV :: topV :: topV :: topV :: topV :: topV :: topV :: topV :: topV :: topV :: topV :: topV :: topV :: topV :: topV :: topV :: topV :: topV :: topV :: topV :: topV :: topV :: topV :: topV :: topV :: topV :: topV :: topV :: topV :: topV :: topV :: topV :: topV :: topV :: topV :: topV :: topV :: topV :: topV :: topV :: topV :: []), [some ⟨.view, .ints (flat ps)⟩]⟩
def re_ssO (ps : List Pt) : Nat → Ex := fun i => bif allQ (rowS ps) i (ps.length - i) then .exit 0 else .ret
def rs_ssO (ps : List Pt) : Nat → St := fun i => bif allQ (rowS ps) i (ps.length - i) then ⟨(topV :: topV :: topV :: topV :: topV :: topV :: topV :: topV :: topV :: topV :: topV :: topV :: topV :: topV :: topV :: topV :: topV :: topV :: topV :: topV :: topV :: topV :: topV :: topV :: topV :: topV :: topV :: topV :: topV :: topV :: topV :: topV :: topV :: topV :: topV :: topV :: topV :: topV :: topV :: topV :: topV :: topV :: topV :: topV :: topV :: topV :: topV :: topV :: topV :: topV :: topV :: topV :: topV :: topV :: topV :: []), [some ⟨.view, .ints (flat ps)⟩]⟩ else ⟨(topV :: topV :: .bool false :: topV :: topV :: topV :: topV :: topV :: topV :: topV :: topV :: topV :: topV :: topV :: topV :: topV :: topV :: topV :: topV :: topV :: topV :: topV :: topV :: topV :: topV :: topV :: topV :: topV :: topV :: topV :: topV :: topV :: topV :: topV :: topV :: topV :: topV :: topV :: topV :: topV :: topV :: topV :: topV :: topV :: topV :: topV :: topV :: topV :: topV :: topV :: topV :: topV :: topV :: topV :: topV :: []), [some ⟨.view, .ints (flat ps)⟩]⟩
set_option maxRecDepth 100000 in
theorem tr_ssO (ps : List Pt) (i : Nat) : bodyL Try.prog EIt 30 12 ltSs 1 c_ssO k_ssO 1 (s_ssO ps i) = brT (decide ((↑i : Int) < (↑ps.length : Int))) (.need ((0 : Int) = (0 : Int)) (.need ((↑ps.length : Int) = (↑ps.length : Int)) (.need ((flat ps).length = ps.length * (2 : Nat)) (.need (ps.length ≤ (20 : Nat)) (.need (allV (ptsA ps.length (flat ps)) = true) (.need ((0 : Int) ≤ (↑i : Int)) (.need ((↑i : Int) < (↑ps.length : Int)) (brT (allQ (okS (ptsA ps.length (flat ps)) (↑i : Int).toNat) 0 (↑i : Int).toNat) (.leaf .normal ⟨(.slice (some ⟨0, 0, none⟩) (ps.length) (ps.length) :: topV :: topV :: .int .i64 ((↑ps.length : Int)) :: .int .i64 (IntKind.i64.wrap ((↑i : Int) + 1)) :: topV :: topV :: topV :: topV :: topV :: topV :: topV :: topV :: topV :: topV :: topV :: topV :: topV :: topV :: topV :: topV :: topV :: topV :: topV :: topV :: topV :: topV :: topV :: topV :: topV :: topV :: topV :: topV :: topV :: topV :: topV :: topV :: topV :: topV :: topV :: topV :: topV :: topV :: topV :: topV :: topV :: topV :: topV :: topV :: topV :: topV :: topV :: topV :: topV :: topV :: []), [some ⟨.view, .ints (flat ps)⟩]⟩) (.leaf .ret ⟨(topV :: topV :: .bool (false) :: topV :: topV :: topV :: topV :: topV :: topV :: topV :: topV :: topV :: topV :: topV :: topV :: topV :: topV :: topV :: topV :: topV :: topV :: topV :: topV :: topV :: topV :: topV :: topV :: topV :: topV :: topV :: topV :: topV :: topV :: topV :: topV :: topV :: topV :: topV :: topV :: topV :: topV :: topV :: topV :: topV :: topV :: topV :: topV :: topV :: topV :: topV :: topV :: topV :: topV :: topV :: topV :: []), [some ⟨.view, .ints (flat ps)⟩]⟩))))))))) (.leaf (.exit 0) ⟨(topV :: topV :: topV :: topV :: topV :: topV :: topV :: topV :: topV :: topV :: topV :: topV :: topV :: topV :: topV :: topV :: topV :: topV :: topV :: topV :: topV :: topV :: topV :: topV :: topV :: topV :: topV :: topV :: topV :: topV :: topV :: topV :: topV :: topV :: topV :: topV :: topV :: topV :: topV :: topV :: topV :: topV :: topV :: topV :: topV :: topV :: topV :: topV :: topV :: topV :: topV :: topV :: topV :: topV :: topV :: []), [some ⟨.view, .ints (flat ps)⟩]⟩) := by kernel_rfl
def inv_ssO (ps : List Pt) : Nat → Prop := fun i => i ≤ ps.length
def me_ssO (ps : List Pt) : Nat → Nat := fun i => ps.length - i
/-- A round of this loop. -/
def Round_ssO (ps : List Pt) : Prop := ∀ xx : Nat, inv_ssO ps xx → (bodyL Try.prog EIt 30 12 ltSs 1 c_ssO k_ssO 1 (s_ssO ps xx)).ok (RoundEnd 1 (s_ssO ps) (inv_ssO ps) (me_ssO ps) (re_ssO ps) (rs_ssO ps) xx) (fun _ _ => False)
def e_ssO (s : St) (k : Ex → St → Tree) : Option Tree := match Nat.beq s.tmps.length 55, pickL s.tmps [0, 3, 4], s.mem with
  | true, [.slice (some ⟨0, 0, none⟩) n _, .int .i64 l, .int .i64 ii], [some ⟨.view, .ints xs⟩] => some (needs [ii = 0, l = n, xs.length = n * 2, n ≤ 20, allV (ptsA n xs) = true] (brT (simS (ptsA n xs)) (k (.exit 0) ⟨(topV :: topV :: topV :: topV :: topV :: topV :: topV :: topV :: topV :: topV :: topV :: topV :: topV :: topV :: topV :: topV :: topV :: topV :: topV :: topV :: topV :: topV :: topV :: topV :: topV :: topV :: topV :: topV :: topV :: topV :: topV :: topV :: topV :: topV :: topV :: topV :: topV :: topV :: topV :: topV :: topV :: topV :: topV :: topV :: topV :: topV :: topV :: topV :: topV :: topV :: topV :: topV :: topV :: topV :: topV :: []), [some ⟨.view, .ints xs⟩]⟩) (k .ret ⟨(topV :: topV :: .bool false :: topV :: topV :: topV :: topV :: topV :: topV :: topV :: topV :: topV :: topV :: topV :: topV :: topV :: topV :: topV :: topV :: topV :: topV :: topV :: topV :: topV :: topV :: topV :: topV :: topV :: topV :: topV :: topV :: topV :: topV :: topV :: topV :: topV :: topV :: topV :: topV :: topV :: topV :: topV :: topV :: topV :: topV :: topV :: topV :: topV :: topV :: topV :: topV :: topV :: topV :: topV :: topV :: []), [some ⟨.view, .ints xs⟩]⟩)))
  | _, _, _ => none
set_option maxRecDepth 100000 in
theorem in_ssO : loopsOf c_ssO = [c_ssI] := by kernel_rfl
theorem ltSs_good : LoopsGood Try.prog ltSs 1 c_ssO := by
  intro i d hd s k t F H hlt ht
  rw [in_ssO] at hd
  cases i with
  | zero =>
    obtain rfl : c_ssI = d := by simpa using hd
    exact lg_ssI s k t F H hlt ht
  | succ i => simp at hd
set_option maxRecDepth 100000 in
theorem round_ssO (ps : List Pt) (h : ps.length ≤ 20) (hv : allV ps = true) : Round_ssO ps := by
  intro i h1
  have h1 : i ≤ ps.length := h1
  rw [tr_ssO]
  simp only [Int.toNat_natCast, Nat.zero_add, flat_length, flat_get0, flat_get1, ptsA_flat]
  refine brT_ok.2 ⟨fun hlt => ?_, fun hge => ?_⟩
  · have hlt := of_decide_eq_true hlt
    have hi : i < ps.length := by omega
    have step : allQ (rowS ps) i (ps.length - i) = (rowS ps i && allQ (rowS ps) (i + 1) (ps.length - (i + 1))) := allQ_step (by omega)
    refine ⟨by first | exact True.intro | rfl, by first | exact True.intro | rfl, by first | exact True.intro | rfl, h, hv, by omega, by omega, ?_⟩
    refine brT_ok.2 ⟨fun hq => ?_, fun hq => ?_⟩
    · have hq : rowS ps i = true := hq
      have e : allQ (rowS ps) i (ps.length - i) = allQ (rowS ps) (i + 1) (ps.length - (i + 1)) := by rw [step, hq, Bool.true_and]
      rw [wsucc (n := ps.length) hi (by omega)]
      refine ⟨i + 1, [], ?_, ?_, by simp only [re_ssO, e], by simp only [rs_ssO, e], ?_⟩
      · show i + 1 ≤ ps.length; omega
      · show ps.length - (i + 1) < ps.length - i; omega
      · refine ⟨rfl, rfl, ?_, ?_⟩ <;> repeat' (first | exact True.intro | exact rfl | exact wv_top _ _ | exact fun _ => rfl | refine And.intro ?_ ?_)
    · have hq : rowS ps i = false := hq
      have e : allQ (rowS ps) i (ps.length - i) = false := by rw [step, hq, Bool.false_and]
      refine ⟨by simp only [re_ssO, e, cond_false], [], ?_⟩
      simp only [rs_ssO, e, cond_false]
      refine ⟨rfl, rfl, ?_, ?_⟩ <;> repeat' (first | exact True.intro | exact rfl | exact wv_top _ _ | exact fun _ => rfl | refine And.intro ?_ ?_)
  · have hge := of_decide_eq_false hge
    obtain rfl : i = ps.length := by omega
    have e : allQ (rowS ps) ps.length (ps.length - ps.length) = true := allQ_end (by omega)
    refine ⟨by simp only [re_ssO, e, cond_true], [], ?_⟩
    simp only [rs_ssO, e, cond_true]
    refine ⟨rfl, rfl, ?_, ?_⟩ <;> repeat' (first | exact True.intro | exact rfl | exact wv_top _ _ | exact fun _ => rfl | refine And.intro ?_ ?_)
set_option maxRecDepth 100000 in
theorem lg_ssO : LoopE Try.prog e_ssO c_ssO := by
  intro s k t F H hlt ht
  unfold e_ssO at hlt
  split at hlt
  rotate_left
  · cases hlt
  rename_i hlen hpick hmem
  obtain ⟨tmps, mem⟩ := s
  simp only at hlen hpick hmem
  subst hmem
  obtain rfl := Option.some.inj hlt
  obtain ⟨⟨rfl, rfl, h1, h2, h3, _⟩, ht2⟩ := needs_ok ht
  clear ht hlt
  obtain ⟨ps, rfl, rfl⟩ := even_flat h1
  rw [ptsA_flat] at ht2 h3
  refine ⟨_, _, pick2k ht2, loop_run mixed EIt_ok (s_ssO _) (inv_ssO _) (me_ssO _) (re_ssO _) (rs_ssO _) k_ssO (fun _ => rfl) ltSs_good (round_ssO _ h2 h3) (x := 0) (Nat.zero_le _) (π := []) rfl ?_⟩
  refine ⟨rfl, rfl, ?_, wvs_spread' [0, 3, 4] hlen rfl ?_⟩
  · repeat' (first | exact True.intro | exact rfl | exact wv_top _ _ | exact fun _ => rfl | assumption | exact Eq.symm (by assumption) | exact vI0 rfl | refine And.intro ?_ ?_)
  · rw [hpick]
    repeat' (first | exact True.intro | exact rfl | exact wv_top _ _ | exact fun _ => rfl | assumption | exact Eq.symm (by assumption) | exact vI0 rfl | refine And.intro ?_ ?_)
theorem Lr_ssO {fn : Func} (hf : Try.prog.funcs[66]? = some fn) : LoopsGood Try.prog (lt1 e_ssO) 0 (codeOf fn) := by
  obtain rfl := fn_is Try.func66 hf
  exact lt1_good lg_ssO
/-- With a common end, two segments touch or overlap. -/
theorem relA_end {a b c d e f g h : Int} {z : Pt} (h1 : z = (a, b) ∨ z = (c, d)) (h2 : z = (e, f) ∨ z = (g, h)) : relA a b c d e f g h = 1 ∨ relA a b c d e f g h = 3 := by
  have hm : z ∈ ceS a b c d e f g h := by
    rw [ce_mem]
    refine ⟨?_, by rcases h1 with h1 | h1 <;> simp [h1]⟩
    unfold onB
    have k1 : hasB a b c d z.1 z.2 = true := by
      rcases h1 with rfl | rfl
      · exact hasB_a ..
      · exact hasB_b ..
    have k2 : hasB e f g h z.1 z.2 = true := by
      rcases h2 with rfl | rfl
      · exact hasB_a ..
      · exact hasB_b ..
    rw [k1, k2]
    rfl
  have hl : 0 < (ceS a b c d e f g h).length := List.length_pos_of_mem hm
  unfold relA relN
  split
  · exact .inr rfl
  · rw [if_pos (by omega)]
    exact .inl rfl
theorem edX_comm (ps : List Pt) (i k : Nat) : edX ps i k = edX ps k i := relA_comm ..
theorem edX_end {ps : List Pt} {i k : Nat} {z : Pt} (h1 : z = ps.getD i (0, 0) ∨ z = nxP ps i) (h2 : z = ps.getD k (0, 0) ∨ z = nxP ps k) : edX ps i k = 1 ∨ edX ps i k = 3 := relA_end h1 h2
/-- Is an edge a segment? -/
def sgQ (ps : List Pt) (i : Nat) : Bool := segB (ps.getD i (0, 0)).1 (ps.getD i (0, 0)).2 (nxP ps i).1 (nxP ps i).2
theorem edR_is (ps : List Pt) (i k : Nat) : edR ps i k = bif sgQ ps i && sgQ ps k then edX ps i k else -1 := rfl
theorem sgQ_iff {ps : List Pt} (h : allV ps = true) {i : Nat} (hi : i < ps.length) : sgQ ps i = true ↔ ps.getD i (0, 0) ≠ nxP ps i := by
  unfold sgQ segB
  have h1 := pt_get h hi
  have h2 : ptB (nxP ps i).1 (nxP ps i).2 = true := pt_get h (nx_lt hi)
  rw [h1, h2]
  simp only [eqB, Bool.true_and, Bool.not_eq_true', ne_eq]
  generalize ps.getD i (0, 0) = p
  generalize nxP ps i = q
  obtain ⟨a, b⟩ := p
  obtain ⟨c, d⟩ := q
  simp
theorem nx_of {ps : List Pt} {i k : Nat} (hk : k < ps.length) (h : nbS ps i k = true) (hi : i < ps.length) : (nxP ps k = ps.getD i (0, 0)) ∨ (nxP ps i = ps.getD k (0, 0)) := by
  unfold nbS at h
  simp only [Bool.or_eq_true, decide_eq_true_eq] at h
  unfold nxP
  rcases h with h | h
  · left
    rw [h, Nat.mod_eq_of_lt hi]
  · right
    rw [h]
theorem nb_end {ps : List Pt} {i k : Nat} (hi : i < ps.length) (hk : k < ps.length) (h : nbS ps i k = true) : edX ps i k = 1 ∨ edX ps i k = 3 := by
  rcases nx_of hk h hi with e | e
  · exact edX_end (z := ps.getD i (0, 0)) (.inl rfl) (.inr e.symm)
  · exact edX_end (z := ps.getD k (0, 0)) (.inr e.symm) (.inl rfl)
theorem nbQ_is (ps : List Pt) (i k : Nat) : nbQ ps i k = nbS ps k i := by
  unfold nbQ nbS
  congr 1
  exact decide_eq_decide.2 eq_comm
theorem nodup_get {ps : List Pt} : ps.Nodup ↔ ∀ i j, i < j → j < ps.length → ps.getD i (0, 0) ≠ ps.getD j (0, 0) := by
  unfold List.Nodup
  rw [List.pairwise_iff_getElem]
  constructor
  · intro h i j hij hj
    have := h i j (by omega) hj hij
    simpa [List.getD_eq_getElem?_getD, hj, show i < ps.length by omega] using this
  · intro h i j hi hj hij
    have := h i j hij hj
    simpa [List.getD_eq_getElem?_getD, hj, hi] using this
theorem next_ne {n i : Nat} (h : 3 ≤ n) (hi : i < n) : (i + 1) % n ≠ i := by
  rcases Nat.lt_or_ge (i + 1) n with h1 | h1
  · rw [Nat.mod_eq_of_lt h1]; omega
  · have : i + 1 = n := by omega
    rw [this, Nat.mod_self]
    omega
theorem sim_is {ps : List Pt} (hv : allV ps = true) (h3 : 3 ≤ ps.length) : simQ ps = (((srtL ps).length == ps.length) && simS ps) := by
  rw [Bool.eq_iff_iff]
  simp only [Bool.and_eq_true, beq_iff_eq, srtL_len]
  constructor
  · intro h
    have hE : ∀ i k, i < k → k < ps.length → edR ps i k = bif nbQ ps i k then 1 else 0 := fun i k h1 h2 => by
      have r := allQ_get _ _ h i (Nat.zero_le _) (by omega)
      have r2 := allQ_get _ _ r k (Nat.zero_le _) (by omega)
      unfold okE at r2
      rw [decide_eq_true h1] at r2
      simpa using r2
    have hne : ∀ i k, i < k → k < ps.length → sgQ ps i = true ∧ sgQ ps k = true := fun i k h1 h2 => by
      have := hE i k h1 h2
      rw [edR_is] at this
      rcases q : (sgQ ps i && sgQ ps k) with _ | _
      · rw [q] at this
        rcases q3 : nbQ ps i k with _ | _ <;> rw [q3] at this <;> simp at this
      · simpa using q
    have sg : ∀ i, i < ps.length → sgQ ps i = true := fun i hi => by
      rcases Nat.eq_zero_or_pos i with rfl | h0
      · exact (hne 0 1 (by omega) (by omega)).1
      · exact (hne 0 i h0 hi).2
    have hX : ∀ i k, i < k → k < ps.length → edX ps i k = bif nbQ ps i k then 1 else 0 := fun i k h1 h2 => by
      have := hE i k h1 h2
      rw [edR_is, sg i (by omega), sg k h2] at this
      exact this
    constructor
    · rw [nodup_get]
      intro i j hij hj e
      have hi : i < ps.length := by omega
      rcases q : nbQ ps i j with _ | _
      · have := hX i j hij hj
        rw [q] at this
        have k := edX_end (ps := ps) (i := i) (k := j) (z := ps.getD i (0, 0)) (.inl rfl) (.inl e)
        simp at this
        omega
      · rw [nbQ_is] at q
        rcases nx_of hi q hj with e2 | e2
        · exact (sgQ_iff hv hi).1 (sg i hi) (e.trans e2.symm)
        · exact (sgQ_iff hv hj).1 (sg j hj) (e.symm.trans e2.symm)
    · refine allQ_all _ _ fun i _ hi => allQ_all _ _ fun k _ hk => ?_
      have hi : i < ps.length := by omega
      have hk : k < i := by omega
      have := hX k i hk hi
      rw [nbQ_is, edX_comm] at this
      unfold okS
      rw [this]
      cases nbS ps i k <;> rfl
  · rintro ⟨hn, h⟩
    rw [nodup_get] at hn
    have sg : ∀ i, i < ps.length → sgQ ps i = true := fun i hi => by
      rw [sgQ_iff hv hi]
      have h1 := next_ne h3 hi
      have h2 := nx_lt hi
      unfold nxP
      rcases Nat.lt_or_ge i ((i + 1) % ps.length) with h4 | h4
      · exact hn _ _ h4 h2
      · exact fun e => hn _ _ (by omega) hi e.symm
    refine allQ_all _ _ fun i _ hi => allQ_all _ _ fun k _ hk => ?_
    unfold okE
    rcases q : decide (i < k) with _ | _
    · rfl
    have q := of_decide_eq_true q
    have hi : i < ps.length := by omega
    have hk : k < ps.length := by omega
    have r := allQ_get _ _ h k (Nat.zero_le _) (by omega)
    have r2 := allQ_get _ _ r i (Nat.zero_le _) (by omega)
    rw [edR_is, sg i hi, sg k hk, nbQ_is, edX_comm]
    unfold okS at r2
    rcases q2 : nbS ps k i with _ | _
    · rw [q2] at r2
      simpa using r2
    · rw [q2] at r2
      have k2 := nb_end hk hi q2
      simp at r2
      have e : edX ps k i = 1 := by omega
      simp [e]
/-- Is a polygon simple, as the model finds it? -/
def issS (ps : List Pt) : Bool := rngQ ps && simS ps
theorem iss_same (ps : List Pt) : issI ps = issS ps := by
  unfold issI issS rngQ
  rcases ho : okL ps with _ | _
  · simp
  by_cases h3 : 3 ≤ ps.length
  · have hv : allV ps = true := by
      unfold okL at ho
      simp only [Bool.and_eq_true] at ho
      exact ho.1
    rw [sim_is hv h3]
    simp [h3]
  · simp [h3]
def LSs : FuncId → LT := fun f => match f with
  | 66 => lt1 e_ssO
  | _ => noL
def ESs : Env := mkE TIt RCe LSs
theorem ESs_ok : EnvOk Try.prog ESs := mkEOk TIt_ok RCe_ok (by
  intro f fn hf
  unfold LSs
  split
  all_goals first | with_reducible exact Lr_ssO hf | exact noL_good)
set_option maxRecDepth 100000 in
theorem tr_sSim (ps : List Pt) : bodyV Try.prog ESs 30 12 66 [.row ps.length (.ints (flat ps))] = .need (ps.length * (2 : Nat) ≤ (List.drop (0 : Nat) (flat ps)).length) (.need (ps.length ≤ (1000000000 : Nat)) (brT (!rngQ (ptsA ps.length (List.drop 0 (flat ps)))) (.fin (.bool (false)) []) (.need ((0 : Int) = (0 : Int)) (.need ((↑ps.length : Int) = (↑ps.length : Int)) (.need ((flat ps).length = ps.length * (2 : Nat)) (.need (ps.length ≤ (20 : Nat)) (.need (allV (ptsA ps.length (flat ps)) = true) (brT (simS (ptsA ps.length (flat ps))) (.fin (.bool (true)) []) (.fin (.bool (false)) []))))))))) := by kernel_rfl
theorem res_sSim (ps : List Pt) (h : Big ps) : Res Try.prog 66 [.row ps.length (.ints (flat ps))] (.bool (issI ps)) := by
  rw [iss_same]
  refine bodyV_res mixed ESs_ok (m := 30) (n := 12) rfl ?_
  rw [tr_sSim]
  unfold Big at h
  simp only [List.drop_zero, ptsA_flat, flat_length]
  unfold issS
  rcases hr : rngQ ps with _ | _
  · simp [brT_ok, Tree.ok, h]
  · have hl : ps.length ≤ 20 ∧ allV ps = true := by
      unfold rngQ okL at hr
      simp only [Bool.and_eq_true, decide_eq_true_eq] at hr
      exact ⟨hr.1.1.2, hr.1.1.1⟩
    rcases hs : simS ps with _ | _ <;> simp [brT_ok, Tree.ok, h, hl.1, hl.2]
def pIss : List DArg → Option (Value × List Prop)
  | [.row m (.ints xs)] => some (.bool (issI (ptsA m xs)), [m * 2 ≤ xs.length, m ≤ 1000000000])
  | _ => none
theorem pIss_i {ds : List DArg} {v : Value} {C : List Prop} (h : pIss ds = some (v, C)) (hC : AllP C) : Res Try.prog 16 ds v := by
  unfold pIss at h
  split at h
  · rename_i m xs
    obtain ⟨rfl, rfl⟩ : _ ∧ _ := by simpa using h
    obtain ⟨_, h2⟩ := ptsA_spec hC.1
    exact res_pts1 (pre := []) (post := []) hC.1 (res_iIss (ptsA m xs) (by unfold Big; rw [h2]; exact hC.2.1))
  · cases h
theorem pIss_s {ds : List DArg} {v : Value} {C : List Prop} (h : pIss ds = some (v, C)) (hC : AllP C) : Res Try.prog 66 ds v := by
  unfold pIss at h
  split at h
  · rename_i m xs
    obtain ⟨rfl, rfl⟩ : _ ∧ _ := by simpa using h
    obtain ⟨_, h2⟩ := ptsA_spec hC.1
    exact res_pts1 (pre := []) (post := []) hC.1 (res_sSim (ptsA m xs) (by unfold Big; rw [h2]; exact hC.2.1))
  · cases h
def TSm : Tab := fun f ds => match f with
  | 16 => pIss ds
  | 66 => pIss ds
  | f => TIt f ds
theorem TSm_ok : TabOk Try.prog TSm := by
  intro f ds v C h hC
  unfold TSm at h
  (try split at h)
  all_goals first | with_reducible exact pIss_i h hC | with_reducible exact pIss_s h hC | exact TIt_ok _ _ _ _ h hC
end Go.Proofs.Ytnjmepbblcfnfab
namespace Go.Proofs.Ytnjmepbblcfnfab
set_option linter.all false
open Go.RowKit
theorem relV_comm (a b c d e f g h : Int) : relV a b c d e f g h = relV e f g h a b c d := by
  unfold relV
  rw [relA_comm, Bool.and_comm]
end Go.Proofs.Ytnjmepbblcfnfab
namespace Go.Proofs.Ytnjmepbblcfnfab
set_option linter.all false
open Go.RowKit
/-- A vector that leads on in the order of points. -/
def posV (u : Pt) : Prop := 0 < u.1 ∨ u.1 = 0 ∧ 0 < u.2
def cr2 (u v : Pt) : Int := u.1 * v.2 - u.2 * v.1
def dif (b a : Pt) : Pt := (b.1 - a.1, b.2 - a.2)
theorem cr_tr {u v w : Pt} (hu : posV u) (hv : posV v) (hw : posV w) (h1 : 0 ≤ cr2 u v) (h2 : 0 ≤ cr2 v w) : 0 ≤ cr2 u w ∧ (0 < cr2 u v ∨ 0 < cr2 v w → 0 < cr2 u w) := by
  obtain ⟨a, b⟩ := u
  obtain ⟨c, d⟩ := v
  obtain ⟨e, f⟩ := w
  unfold posV cr2 at *
  simp only at *
  rcases hv with hc | ⟨rfl, hd⟩
  · have ha : 0 < a := by
      rcases hu with h | ⟨rfl, hb⟩
      · exact h
      · have := Int.mul_pos hb hc
        omega
    rcases hw with he | ⟨rfl, hf⟩
    · have id : c * (a * f - b * e) = a * (c * f - d * e) + e * (a * d - b * c) := by grind
      have n1 := Int.mul_nonneg (Int.le_of_lt ha) h2
      have n2 := Int.mul_nonneg (Int.le_of_lt he) h1
      generalize a * f - b * e = X at *
      refine ⟨?_, fun h => ?_⟩
      · rcases Int.lt_or_le X 0 with h | h
        · have := Int.mul_neg_of_pos_of_neg hc h
          omega
        · exact h
      · rcases Int.lt_or_le 0 X with h' | h'
        · exact h'
        · have := Int.mul_nonpos_of_nonneg_of_nonpos (Int.le_of_lt hc) h'
          rcases h with h | h
          · have := Int.mul_pos he h
            omega
          · have := Int.mul_pos ha h
            omega
    · have := Int.mul_pos ha hf
      omega
  · have he : e = 0 ∧ 0 < f := by
      rcases hw with h | h
      · have := Int.mul_pos hd h
        omega
      · exact h
    obtain ⟨rfl, hf⟩ := he
    have ha : 0 ≤ a := by omega
    have n1 := Int.mul_nonneg ha (Int.le_of_lt hf)
    refine ⟨by omega, fun h => ?_⟩
    have : 0 < a := by
      rcases Int.lt_or_le 0 a with h' | h'
      · exact h'
      · obtain rfl : a = 0 := by omega
        omega
    have := Int.mul_pos this hf
    omega
theorem plt_pos {a b : Pt} : pltB a b = true ↔ posV (dif b a) := by
  rw [pltB_iff]
  unfold posV dif
  simp only
  omega
theorem oP_tri (a b : Pt) : a = b ∨ pltB a b = true ∨ pltB b a = true := by
  obtain ⟨a1, a2⟩ := a
  obtain ⟨b1, b2⟩ := b
  simp only [pltB_iff, Prod.mk.injEq]
  omega
theorem oP_trans {a b c : Pt} (h1 : pltB a b = true) (h2 : pltB b c = true) : pltB a c = true := by
  rw [pltB_iff] at *
  omega
theorem oP_irr {a : Pt} (h : pltB a a = true) : False := by
  rw [pltB_iff] at h
  omega
theorem oP_asym {a b : Pt} (h1 : pltB a b = true) (h2 : pltB b a = true) : False := oP_irr (oP_trans h1 h2)
def Dsc (R : List Pt) : Prop := R.Pairwise fun a b => pltB b a = true
def Cvx : List Pt → Prop
  | c :: b :: a :: r => 0 < crP a b c ∧ Cvx (b :: a :: r)
  | _ => True
def Lft (S : Pt → Prop) : List Pt → Prop
  | b :: a :: r => (∀ q, S q → 0 ≤ crP a b q) ∧ Lft S (a :: r)
  | _ => True
def Bot (S : Pt → Prop) (R : List Pt) : Prop := ∃ m, R.getLast? = some m ∧ ∀ q, S q → q = m ∨ pltB m q = true
def Top (S : Pt → Prop) (R : List Pt) : Prop := ∃ m, R.head? = some m ∧ ∀ q, S q → q = m ∨ pltB q m = true
/-- The chain of a set of points. -/
structure ChI (S : Pt → Prop) (R : List Pt) : Prop where
  mem : ∀ z ∈ R, S z
  dsc : Dsc R
  cvx : Cvx R
  lft : Lft S R
  bot : Bot S R
  top : Top S R
theorem Cvx.tail {b : Pt} {R : List Pt} (h : Cvx (b :: R)) : Cvx R := by
  match R, h with
  | [], _ => trivial
  | [_], _ => trivial
  | _ :: _ :: _, h => exact h.2
theorem Lft.tail {S : Pt → Prop} {b : Pt} {R : List Pt} (h : Lft S (b :: R)) : Lft S R := by
  match R, h with
  | [], _ => trivial
  | _ :: _, h => exact h.2
theorem Dsc.tail {b : Pt} {R : List Pt} (h : Dsc (b :: R)) : Dsc R := (List.pairwise_cons.1 h).2
theorem Dsc.lt {b a : Pt} {R : List Pt} (h : Dsc (b :: R)) (ha : a ∈ R) : pltB a b = true := (List.pairwise_cons.1 h).1 a ha
theorem ChI.ext {S T : Pt → Prop} {R : List Pt} (h : ChI S R) (e : ∀ q, S q ↔ T q) : ChI T R := by
  have : S = T := funext fun q => propext (e q)
  rw [← this]
  exact h
/-- The last of a chain, the least of all. -/
theorem ChI.tail {S : Pt → Prop} {b a : Pt} {R : List Pt} (h : ChI S (b :: a :: R)) : (∀ z ∈ a :: R, S z) ∧ Dsc (a :: R) ∧ Cvx (a :: R) ∧ Lft S (a :: R) ∧ Bot S (a :: R) := by
  refine ⟨fun z hz => h.mem z (List.mem_cons_of_mem _ hz), h.dsc.tail, h.cvx.tail, h.lft.tail, ?_⟩
  obtain ⟨m, h1, h2⟩ := h.bot
  exact ⟨m, by rw [List.getLast?_cons_cons] at h1; exact h1, h2⟩
/-- Two chains with the same top: the next is the same. -/
theorem next_le {S : Pt → Prop} {b a a' : Pt} {r' : List Pt} (ha : S a) (hd : pltB a b = true) (hl : ∀ q, S q → 0 ≤ crP a b q) (hm' : ∀ z ∈ b :: a' :: r', S z) (hd' : Dsc (b :: a' :: r')) (hc' : Cvx (b :: a' :: r')) (hl' : Lft S (b :: a' :: r')) (hb' : Bot S (b :: a' :: r')) : ¬ pltB a a' = true := by
  intro hlt
  have hab' : pltB a' b = true := hd'.lt (by simp)
  have k1 := hl a' (hm' a' (by simp))
  have k2 := hl'.1 a ha
  have e1 : crP a b a' = cr2 (dif b a') (dif a' a) := by unfold crP crossI cr2 dif; simp only; grind
  have e2 : crP a' b a = -cr2 (dif b a') (dif a' a) := by unfold crP crossI cr2 dif; simp only; grind
  match r', hm', hd', hc', hl', hb' with
  | [], hm', hd', hc', hl', hb' =>
    obtain ⟨m, h1, h2⟩ := hb'
    obtain rfl : a' = m := by simpa using h1
    rcases h2 a ha with rfl | h
    · exact oP_irr hlt
    · exact oP_asym hlt h
  | c :: t, hm', hd', hc', hl', hb' =>
    have hca : pltB c a' = true := hd'.tail.lt (by simp)
    have k3 := hc'.1
    have k4 := hl'.2.1 a ha
    have e3 : crP c a' b = cr2 (dif a' c) (dif b a') := by unfold crP crossI cr2 dif; simp only; grind
    have e4 : crP c a' a = cr2 (dif a' a) (dif a' c) := by unfold crP crossI cr2 dif; simp only; grind
    have := (cr_tr (plt_pos.1 hlt) (plt_pos.1 hca) (plt_pos.1 hab') (by omega) (by omega)).2 (.inr (by omega))
    have e5 : cr2 (dif b a') (dif a' a) = -cr2 (dif a' a) (dif b a') := by unfold cr2 dif; simp only; grind
    omega
theorem chain_eq {S : Pt → Prop} : ∀ {r r' : List Pt} {b : Pt}, (∀ z ∈ b :: r, S z) → Dsc (b :: r) → Cvx (b :: r) → Lft S (b :: r) → Bot S (b :: r) → (∀ z ∈ b :: r', S z) → Dsc (b :: r') → Cvx (b :: r') → Lft S (b :: r') → Bot S (b :: r') → r = r'
  | [], [], _, _, _, _, _, _, _, _, _, _, _ => rfl
  | [], a' :: r', b, hm, hd, hc, hl, hb, hm', hd', hc', hl', hb' => by
    obtain ⟨m, h1, h2⟩ := hb
    obtain rfl : b = m := by simpa using h1
    have h3 : pltB a' b = true := hd'.lt (by simp)
    rcases h2 a' (hm' a' (by simp)) with rfl | h
    · exact (oP_irr h3).elim
    · exact (oP_asym h3 h).elim
  | a :: r, [], b, hm, hd, hc, hl, hb, hm', hd', hc', hl', hb' => by
    obtain ⟨m, h1, h2⟩ := hb'
    obtain rfl : b = m := by simpa using h1
    have h3 : pltB a b = true := hd.lt (by simp)
    rcases h2 a (hm a (by simp)) with rfl | h
    · exact (oP_irr h3).elim
    · exact (oP_asym h3 h).elim
  | a :: r, a' :: r', b, hm, hd, hc, hl, hb, hm', hd', hc', hl', hb' => by
    have h1 := next_le (hm a (by simp)) (hd.lt (by simp)) hl.1 hm' hd' hc' hl' hb'
    have h2 := next_le (hm' a' (by simp)) (hd'.lt (by simp)) hl'.1 hm hd hc hl hb
    have e : a = a' := by
      rcases oP_tri a a' with h | h | h
      · exact h
      · exact absurd h h1
      · exact absurd h h2
    subst e
    have bt : ∀ {t : List Pt}, Bot S (b :: a :: t) → Bot S (a :: t) := fun {t} h => by
      obtain ⟨m, q1, q2⟩ := h
      exact ⟨m, by rw [List.getLast?_cons_cons] at q1; exact q1, q2⟩
    rw [chain_eq (fun z hz => hm z (List.mem_cons_of_mem _ hz)) hd.tail hc.tail hl.2 (bt hb) (fun z hz => hm' z (List.mem_cons_of_mem _ hz)) hd'.tail hc'.tail hl'.2 (bt hb')]
/-- A chain of a set is the only one. -/
theorem ChI.uniq {S : Pt → Prop} {R R' : List Pt} (h : ChI S R) (h' : ChI S R') : R = R' := by
  obtain ⟨m, h1, h2⟩ := h.top
  obtain ⟨m', h1', h2'⟩ := h'.top
  match R, R', h, h', h1, h1' with
  | b :: r, b' :: r', h, h', h1, h1' =>
    obtain rfl : b = m := by simpa using h1
    obtain rfl : b' = m' := by simpa using h1'
    have e : b = b' := by
      rcases h2 b' (h'.mem b' (by simp)) with e | e
      · exact e.symm
      · rcases h2' b (h.mem b (by simp)) with e' | e'
        · exact e'
        · exact (oP_asym e e').elim
    subst e
    rw [chain_eq h.mem h.dsc h.cvx h.lft h.bot h'.mem h'.dsc h'.cvx h'.lft h'.bot]
end Go.Proofs.Ytnjmepbblcfnfab
namespace Go.Proofs.Ytnjmepbblcfnfab
set_option linter.all false
open Go.RowKit
theorem nodup_le : ∀ {l m : List Pt}, l.Nodup → (∀ x ∈ l, x ∈ m) → l.length ≤ m.length
  | [], _, _, _ => Nat.zero_le _
  | x :: l, m, hn, hs => by
    have hn' := List.nodup_cons.1 hn
    have hx : x ∈ m := hs x (by simp)
    have := nodup_le (l := l) (m := m.erase x) hn'.2 fun y hy => by
      have : y ≠ x := fun e => hn'.1 (e ▸ hy)
      exact (List.mem_erase_of_ne this).2 (hs y (List.mem_cons_of_mem _ hy))
    rw [List.length_erase_of_mem hx] at this
    have hp : 0 < m.length := List.length_pos_of_mem hx
    simp only [List.length_cons]
    omega
end Go.Proofs.Ytnjmepbblcfnfab
namespace Go.Proofs.Ytnjmepbblcfnfab
set_option linter.all false
open Go.RowKit
/-- The place behind j. -/
theorem md_nx {n j : Nat} (h : j < n) : (j + 1) % n = if j + 1 = n then 0 else j + 1 := by
  split
  · rename_i e
    rw [e, Nat.mod_self]
  · exact Nat.mod_eq_of_lt (by omega)
/-- Are two edges neighbours? -/
def adj (n i k : Nat) : Bool := decide ((i + 1) % n = k) || decide ((k + 1) % n = i)
theorem adj_sym (n i k : Nat) : adj n i k = adj n k i := by unfold adj; rw [Bool.or_comm]
theorem edR_sym (ps : List Pt) (i k : Nat) : edR ps i k = edR ps k i := relV_comm ..
theorem nbQ_adj {ps : List Pt} {i k : Nat} (hk : k < ps.length) (h : i < k) : nbQ ps i k = adj ps.length i k := by
  unfold nbQ adj
  rw [md_nx (show i < ps.length by omega)]
  congr 1
  rw [Bool.eq_iff_iff, decide_eq_true_eq, decide_eq_true_eq]
  split <;> omega
theorem allQ_iff {P : Nat → Bool} {n : Nat} : allQ P 0 n = true ↔ ∀ j, j < n → P j = true := by
  constructor
  · intro h j hj
    rcases hp : P j with _ | _
    · rw [allQ_no hj hp] at h
      cases h
    · rfl
  · exact fun h => allQ_all _ _ fun j _ h2 => h j (by omega)
/-- What makes the edges those of a simple polygon. -/
theorem simQ_iff {ps : List Pt} : simQ ps = true ↔ ∀ i k, i < ps.length → k < ps.length → i ≠ k → edR ps i k = bif adj ps.length i k then 1 else 0 := by
  have key : simQ ps = true ↔ ∀ i k, i < k → k < ps.length → edR ps i k = bif adj ps.length i k then 1 else 0 := by
    unfold simQ rowQ
    rw [allQ_iff]
    constructor
    · intro h i k hik hk
      have := allQ_iff.1 (h i (by omega)) k hk
      unfold okE at this
      rw [decide_eq_true hik, nbQ_adj hk hik] at this
      simpa using this
    · intro h i hi
      rw [allQ_iff]
      intro k hk
      unfold okE
      by_cases hik : i < k
      · rw [nbQ_adj hk hik, h i k hik hk]
        simp
      · rw [decide_eq_false hik]
        rfl
  rw [key]
  constructor
  · intro h i k hi hk hne
    rcases Nat.lt_or_ge i k with h1 | h1
    · exact h i k h1 hk
    · rw [edR_sym, adj_sym]
      exact h k i (by omega) hi
  · exact fun h i k h1 h2 => h i k (by omega) h2 (by omega)
theorem bool_of {a b : Bool} (h1 : a = true → b = true) (h2 : b = true → a = true) : a = b := by
  rw [Bool.eq_iff_iff]
  exact ⟨h1, h2⟩
end Go.Proofs.Ytnjmepbblcfnfab
namespace Go.Proofs.Ytnjmepbblcfnfab
set_option linter.all false
open Go.RowKit
theorem issI_ok {ps : List Pt} (h : issI ps = true) : allV ps = true ∧ ps.length ≤ 20 ∧ 3 ≤ ps.length := by
  unfold issI okL at h
  simp only [Bool.and_eq_true, decide_eq_true_eq] at h
  exact ⟨h.1.2.1, h.1.2.2, h.1.1⟩
def TBn : Tab := orT TSg TSm
theorem TBn_ok : TabOk Try.prog TBn := orT_ok TSg_ok TSm_ok
def EBn : Env := mkE TBn R4 (fun _ => noL)
theorem EBn_ok : EnvOk Try.prog EBn := mkEOk TBn_ok R4_ok (fun _ _ _ => noL_good)
def daV (ps : List Pt) : Int := bif issI ps then sgA ps ps.length else 0
set_option maxRecDepth 100000 in
theorem tr_iDa (ps : List Pt) : bodyV Try.prog EBn 30 12 22 [.row ps.length (.ints (flat ps))] = .need (ps.length * (2 : Nat) ≤ (List.drop (0 : Nat) (flat ps)).length) (.need (ps.length ≤ (1000000000 : Nat)) (brT (!issI (ptsA ps.length (List.drop 0 (flat ps)))) (.fin (.int .i64 (0)) []) (.need (ps.length * (2 : Nat) ≤ (List.drop (0 : Nat) (flat ps)).length) (.need (allV (ptsA ps.length (List.drop (0 : Nat) (flat ps))) = true) (.need (ps.length ≤ (20 : Nat)) (.fin (.int .i64 (sgA (ptsA ps.length (List.drop 0 (flat ps))) ps.length)) [])))))) := by kernel_rfl
set_option maxRecDepth 100000 in
theorem tr_sDaS (ps : List Pt) : bodyV Try.prog EBn 30 12 23 [.row ps.length (.ints (flat ps))] = .need (ps.length * (2 : Nat) ≤ (List.drop (0 : Nat) (flat ps)).length) (.need (ps.length ≤ (1000000000 : Nat)) (brT (!issI (ptsA ps.length (List.drop 0 (flat ps)))) (.fin (.int .i64 (0)) []) (.need (ps.length * (2 : Nat) ≤ (List.drop (0 : Nat) (flat ps)).length) (.need (allV (ptsA ps.length (List.drop (0 : Nat) (flat ps))) = true) (.need (ps.length ≤ (20 : Nat)) (.fin (.int .i64 (sgA (ptsA ps.length (List.drop 0 (flat ps))) ps.length)) [])))))) := by kernel_rfl
theorem res_iDa (ps : List Pt) (h : Big ps) : Res Try.prog 22 [.row ps.length (.ints (flat ps))] (iv (daV ps)) := by
  refine bodyV_res mixed EBn_ok (m := 30) (n := 12) rfl ?_
  rw [tr_iDa]
  unfold Big at h
  simp only [List.drop_zero, ptsA_flat, flat_length]
  unfold daV
  rcases hs : issI ps with _ | _
  · simp [brT_ok, Tree.ok, h]
  · obtain ⟨h1, h2, _⟩ := issI_ok hs
    simp [brT_ok, Tree.ok, h, h1, h2]
theorem res_sDaS (ps : List Pt) (h : Big ps) : Res Try.prog 23 [.row ps.length (.ints (flat ps))] (iv (daV ps)) := by
  refine bodyV_res mixed EBn_ok (m := 30) (n := 12) rfl ?_
  rw [tr_sDaS]
  unfold Big at h
  simp only [List.drop_zero, ptsA_flat, flat_length]
  unfold daV
  rcases hs : issI ps with _ | _
  · simp [brT_ok, Tree.ok, h]
  · obtain ⟨h1, h2, _⟩ := issI_ok hs
    simp [brT_ok, Tree.ok, h, h1, h2]
/-- Points with integer coordinates on an edge. -/
def bcT (ps : List Pt) (j : Nat) : Int := gI ((nxP ps j).1 - (ps.getD j (0, 0)).1) ((nxP ps j).2 - (ps.getD j (0, 0)).2)
def bcA (ps : List Pt) : Nat → Int
  | 0 => 0
  | i + 1 => bcA ps i + bcT ps i
theorem bcT_bd {ps : List Pt} (h : allV ps = true) {j : Nat} (hj : j < ps.length) : 0 ≤ bcT ps j ∧ bcT ps j ≤ 2000 := by
  have a1 := allV_gt h hj
  have a2 := allV_gt h (nx_lt hj)
  unfold bcT nxP
  exact gI_bd (by omega) (by omega)
theorem bcA_bd {ps : List Pt} (h : allV ps = true) : ∀ i, i ≤ ps.length → 0 ≤ bcA ps i ∧ bcA ps i ≤ 2000 * (i : Int)
  | 0, _ => by simp [bcA]
  | i + 1, hi => by
    have ih := bcA_bd h i (by omega)
    have b1 := bcT_bd h (j := i) (by omega)
    simp only [bcA]
    omega
noncomputable def gc_bnd : Code := (rangesOf (codeOf Try.f30)).getD 0 .skip
def k_bnd : Ex → List Nat := keeps [3, 11] [] []
def s_bnd (ps : List Pt) : Nat → St := fun i => ⟨[topV, topV, topV, .pointer (some ⟨1, 0, none⟩), topV, topV, topV, topV, topV, topV, topV, .func (.func 109) #[] #[.pointer (some ⟨2, 0, none⟩)], topV, topV, topV, topV, topV, topV, topV, topV, topV, topV, topV, topV, topV, topV, topV, topV], [some ⟨.view, .ints (flat ps)⟩, some ⟨.box, .vals [.int .i64 (bcA ps i)]⟩, some ⟨.view, .vals [.slice (some ⟨0, 0, none⟩) ps.length ps.length]⟩]⟩
def g_bnd (ps : List Pt) : Nat → Prop := fun i => i ≤ ps.length
def re_bnd (ps : List Pt) : Ex := .normal
def rs_bnd (ps : List Pt) : St := ⟨[topV, topV, topV, .pointer (some ⟨1, 0, none⟩), topV, topV, topV, topV, topV, topV, topV, topV, topV, topV, topV, topV, topV, topV, topV, topV, topV, topV, topV, topV, topV, topV, topV, topV], [some ⟨.view, .ints (flat ps)⟩, some ⟨.box, .vals [.int .i64 (bcA ps ps.length)]⟩, some ⟨.view, .vals [.slice (some ⟨0, 0, none⟩) ps.length ps.length]⟩]⟩
set_option maxRecDepth 100000 in
theorem tr_bnd (ps : List Pt) (i : Nat) : bodyR Try.prog EBn 30 12 noL noR (asgOf gc_bnd) (bodOf gc_bnd) ([12, 13].zip (encE ps i)) k_bnd 3 (s_bnd ps i) = .need (big (IntKind.i64.wrap ((ps.getD ((i + (1 : Nat)) % ps.length) ((0 : Int), (0 : Int))).1 - (ps.getD i ((0 : Int), (0 : Int))).1))) (.need (big (IntKind.i64.wrap ((ps.getD ((i + (1 : Nat)) % ps.length) ((0 : Int), (0 : Int))).2 - (ps.getD i ((0 : Int), (0 : Int))).2))) (.leaf .normal ⟨[topV, topV, topV, .pointer (some ⟨1, 0, none⟩), topV, topV, topV, topV, topV, topV, topV, .func (Fn.func 109) #[] #[.pointer (some ⟨2, 0, none⟩)], topV, topV, topV, topV, topV, topV, topV, topV, topV, topV, topV, topV, topV, topV, topV, topV], [some ⟨.view, .ints (flat ps)⟩, some ⟨.box, .vals [.int .i64 (IntKind.i64.wrap (bcA ps i + gI (IntKind.i64.wrap ((ps.getD ((i + 1) % ps.length) (0, 0)).1 - (ps.getD i (0, 0)).1)) (IntKind.i64.wrap ((ps.getD ((i + 1) % ps.length) (0, 0)).2 - (ps.getD i (0, 0)).2))))]⟩, some ⟨.view, .vals [.slice (some ⟨0, 0, none⟩) (ps.length) (ps.length)]⟩]⟩)) := by kernel_rfl
/-- A round of this loop. -/
def Round_bnd (ps : List Pt) : Prop := ∀ i : Nat, g_bnd ps i → i < (ps).length → (bodyR Try.prog EBn 30 12 noL noR (asgOf gc_bnd) (bodOf gc_bnd) ([12, 13].zip (encE ps i)) k_bnd 3 (s_bnd ps i)).ok (RoundEndR 3 (s_bnd ps) (g_bnd ps) (re_bnd ps) (rs_bnd ps) i) (fun _ _ => False)
set_option maxRecDepth 100000 in
theorem gcode_bnd : gc_bnd = .rangeFunc (.tmp 11) ([12, 13] : List Nat).toArray (asgOf gc_bnd) (bodOf gc_bnd) := by kernel_rfl
def e_bnd (s : St) (k : Ex → St → Tree) : Option Tree := match Nat.beq s.tmps.length 28, pickL s.tmps [3, 11], s.mem with
  | true, [.pointer (some ⟨1, 0, none⟩), .func (.func 109) ⟨[]⟩ ⟨[.pointer (some ⟨2, 0, none⟩)]⟩], [some ⟨.view, .ints xs⟩, some ⟨.box, .vals [.int .i64 a0]⟩, some ⟨.box, .vals [.slice (some ⟨0, 0, none⟩) n _]⟩] => some (needs [a0 = 0, xs.length = n * 2, allV (ptsA n xs) = true, n ≤ 20] (k .normal ⟨[topV, topV, topV, .pointer (some ⟨1, 0, none⟩), topV, topV, topV, topV, topV, topV, topV, topV, topV, topV, topV, topV, topV, topV, topV, topV, topV, topV, topV, topV, topV, topV, topV, topV], [some ⟨.view, .ints xs⟩, some ⟨.box, .vals [.int .i64 (bcA (ptsA n xs) n)]⟩, some ⟨.view, .vals [.slice (some ⟨0, 0, none⟩) n n]⟩]⟩))
  | _, _, _ => none
set_option maxRecDepth 100000 in
theorem round_bnd (ps : List Pt) (hv : allV ps = true) (h : ps.length ≤ 20) : Round_bnd ps := by
  intro i hg hi
  rw [tr_bnd]
  have hb := bcA_bd hv i (by omega)
  have hb2 := bcT_bd hv hi
  have a1 := allV_gt hv hi
  have a2 := allV_gt hv (nx_lt hi)
  unfold bcT nxP at hb2
  simp (disch := omega) only [wr]
  refine ⟨by unfold big; omega, by unfold big; omega, by show i + 1 ≤ ps.length; omega, [], ?_⟩
  refine ⟨rfl, rfl, ?_, ?_⟩ <;> repeat' (first | exact True.intro | exact rfl | exact wv_top _ _ | exact fun _ => rfl | refine And.intro ?_ ?_)
set_option maxRecDepth 100000 in
theorem lg_bnd : RangeE Try.prog e_bnd gc_bnd := by
  intro s k t F H hlt ht
  unfold e_bnd at hlt
  split at hlt
  rotate_left
  · cases hlt
  rename_i hlen hpick hmem
  obtain ⟨tmps, mem⟩ := s
  simp only at hlen hpick hmem
  subst hmem
  obtain rfl := Option.some.inj hlt
  obtain ⟨⟨rfl, h1, h2, h3, _⟩, ht2⟩ := needs_ok ht
  clear ht hlt
  obtain ⟨ps, rfl, rfl⟩ := even_flat h1
  rw [ptsA_flat] at ht2 h2
  refine ⟨re_bnd ps, rs_bnd ps, ht2, ?_⟩
  rw [gcode_bnd]
  refine range_det (enc := encE ps) (len := (ps).length) (St_of := s_bnd ps) (Good := g_bnd ps) (N := 3) (M := 3) (Kn := [0, 2]) (cap := [.pointer (some ⟨2, 0, none⟩)]) (kf := (k_bnd .normal)) (π := []) (fun _ => rfl) (fun _ => rfl) (fun i hg hlt => bodyR_ok mixed EBn_ok (noL_good) (noR_good) (round_bnd ps h2 h3 i hg hlt)) (entersB_res (by kernel_rfl)).1 rfl ?_ (fun ρ0 ρ B w lb h1 h2 => ed_iter ps (by omega) (s := (s_bnd ps 0).fs) (nb := 2) (nr := 0) (c := (ps).length) (Kn := [0, 2]) rfl rfl (by decide) (by decide) ρ0 ρ B w lb h1 h2) ?_ rfl (by decide) ?_ (Nat.zero_le _)
  · intro n hn b hb
    simp only [List.mem_cons, List.not_mem_nil, or_false] at hn
    rcases hn with rfl | rfl <;> (obtain rfl := Option.some.inj hb; rfl)
  · exact fun _ => ⟨rfl, [], by refine ⟨rfl, rfl, ?_, ?_⟩ <;> repeat' (first | exact True.intro | exact rfl | exact wv_top _ _ | exact fun _ => rfl | refine And.intro ?_ ?_)⟩
  · refine ⟨rfl, rfl, ?_, wvs_spread' [3, 11] hlen rfl ?_⟩
    · repeat' (first | exact True.intro | exact rfl | exact wv_top _ _ | exact fun _ => rfl | assumption | exact Eq.symm (by assumption) | exact vI0 rfl | refine And.intro ?_ ?_)
    · rw [show pickL (viewS [0, 2] ⟨tmps, _⟩).tmps [3, 11] = pickL tmps [3, 11] from rfl, hpick]
      repeat' (first | exact True.intro | exact rfl | exact wv_top _ _ | exact fun _ => rfl | assumption | exact Eq.symm (by assumption) | exact vI0 rfl | refine And.intro ?_ ?_)
theorem Gr_bnd {fn : Func} (hf : Try.prog.funcs[30]? = some fn) : RangesGood Try.prog (rt1 11 e_bnd) (codeOf fn) := by
  obtain rfl := fn_is Try.func30 hf
  exact rt1_good (by kernel_rfl) lg_bnd
def GBn : FuncId → RT := fun f => match f with
  | 30 => rt1 11 e_bnd
  | _ => noR
def EBg : Env := withG EBn GBn
theorem EBg_ok : EnvOk Try.prog EBg := withG_ok EBn_ok (by
  intro f fn hf
  unfold GBn
  split
  all_goals first | with_reducible exact Gr_bnd hf | exact noR_good)
def bcV (ps : List Pt) : Int := bif issI ps then bcA ps ps.length else -1
set_option maxRecDepth 100000 in
theorem tr_iBc (ps : List Pt) : bodyV Try.prog EBg 30 12 30 [.row ps.length (.ints (flat ps))] = .need (ps.length * (2 : Nat) ≤ (List.drop (0 : Nat) (flat ps)).length) (.need (ps.length ≤ (1000000000 : Nat)) (brT (!issI (ptsA ps.length (List.drop 0 (flat ps)))) (.fin (.int .i64 (-1)) []) (.need ((0 : Int) = (0 : Int)) (.need ((flat ps).length = ps.length * (2 : Nat)) (.need (allV (ptsA ps.length (flat ps)) = true) (.need (ps.length ≤ (20 : Nat)) (.fin (.int .i64 (bcA (ptsA ps.length (flat ps)) ps.length)) []))))))) := by kernel_rfl
theorem res_iBc (ps : List Pt) (h : Big ps) : Res Try.prog 30 [.row ps.length (.ints (flat ps))] (iv (bcV ps)) := by
  refine bodyV_res mixed EBg_ok (m := 30) (n := 12) rfl ?_
  rw [tr_iBc]
  unfold Big at h
  simp only [List.drop_zero, ptsA_flat, flat_length]
  unfold bcV
  rcases hs : issI ps with _ | _
  · simp [brT_ok, Tree.ok, h]
  · obtain ⟨h1, h2, _⟩ := issI_ok hs
    simp [brT_ok, Tree.ok, h, h1, h2]
noncomputable def c_sBc : Code := ((loopsOf (codeOf Try.f80))[0]?).getD .skip
def k_sBc : Ex → List Nat := keeps [0, 3, 4] [(0, [3])] [2]
def s_sBc (ps : List Pt) : Nat → St := fun i => ⟨(.slice (some ⟨0, 0, none⟩) ps.length ps.length :: topV :: topV :: .int .i64 (bcA ps i) :: .int .i64 i :: topV :: topV :: topV :: topV :: topV :: topV :: topV :: topV :: topV :: topV :: topV :: topV :: topV :: topV :: topV :: topV :: topV :: topV :: topV :: topV :: topV :: topV :: topV :: topV :: topV :: topV :: topV :: topV :: topV :: topV :: topV :: topV :: topV :: topV :: topV :: topV :: topV :: []), [some ⟨.view, .ints (flat ps)⟩]⟩
def re_sBc : Nat → Ex := fun _ => .exit 0
def rs_sBc (ps : List Pt) : Nat → St := fun i => ⟨(topV :: topV :: topV :: .int .i64 (bcA ps ps.length) :: topV :: topV :: topV :: topV :: topV :: topV :: topV :: topV :: topV :: topV :: topV :: topV :: topV :: topV :: topV :: topV :: topV :: topV :: topV :: topV :: topV :: topV :: topV :: topV :: topV :: topV :: topV :: topV :: topV :: topV :: topV :: topV :: topV :: topV :: topV :: topV :: topV :: topV :: []), [some ⟨.view, .ints (flat ps)⟩]⟩
set_option maxRecDepth 100000 in
theorem tr_sBc (ps : List Pt) (i : Nat) : bodyL Try.prog EBn 30 12 noL 1 c_sBc k_sBc 1 (s_sBc ps i) = brT (decide ((↑i : Int) < (↑ps.length : Int))) (.need (¬(↑ps.length : Int) = (0 : Int)) (.need ((0 : Int) ≤ (IntKind.i64.wrap ((↑i : Int) + (1 : Int))).tmod (↑ps.length : Int) ∧ (IntKind.i64.wrap ((↑i : Int) + (1 : Int))).tmod (↑ps.length : Int) < (↑ps.length : Int)) (.need ((0 : Nat) + ((IntKind.i64.wrap ((↑i : Int) + (1 : Int))).tmod (↑ps.length : Int)).toNat * (2 : Nat) + (2 : Nat) ≤ (flat ps).length) (.need (big (IntKind.i64.wrap ((flat ps).getD ((0 : Nat) + ((IntKind.i64.wrap ((↑i : Int) + (1 : Int))).tmod (↑ps.length : Int)).toNat * (2 : Nat)) (0 : Int) - (flat ps).getD ((0 : Nat) + (↑i : Int).toNat * (2 : Nat) + (0 : Nat)) (0 : Int)))) (.need (big (IntKind.i64.wrap ((flat ps).getD ((0 : Nat) + ((IntKind.i64.wrap ((↑i : Int) + (1 : Int))).tmod (↑ps.length : Int)).toNat * (2 : Nat) + (1 : Nat)) (0 : Int) - (flat ps).getD ((0 : Nat) + (↑i : Int).toNat * (2 : Nat) + (1 : Nat)) (0 : Int)))) (.need (big0 (↑(IntKind.i64.wrap ((flat ps).getD ((0 : Nat) + ((IntKind.i64.wrap ((↑i : Int) + (1 : Int))).tmod (↑ps.length : Int)).toNat * (2 : Nat)) (0 : Int) - (flat ps).getD ((0 : Nat) + (↑i : Int).toNat * (2 : Nat) + (0 : Nat)) (0 : Int))).natAbs : Int)) (.need (big0 (↑(IntKind.i64.wrap ((flat ps).getD ((0 : Nat) + ((IntKind.i64.wrap ((↑i : Int) + (1 : Int))).tmod (↑ps.length : Int)).toNat * (2 : Nat) + (1 : Nat)) (0 : Int) - (flat ps).getD ((0 : Nat) + (↑i : Int).toNat * (2 : Nat) + (1 : Nat)) (0 : Int))).natAbs : Int)) (.need ((0 : Int) ≤ (↑i : Int) ∧ (↑i : Int) < (↑ps.length : Int)) (.need ((0 : Nat) + (↑i : Int).toNat * (2 : Nat) + (0 : Nat) < (flat ps).length) (.need ((0 : Int) ≤ (↑i : Int) ∧ (↑i : Int) < (↑ps.length : Int)) (.need ((0 : Nat) + (↑i : Int).toNat * (2 : Nat) + (1 : Nat) < (flat ps).length) (.leaf .normal ⟨(.slice (some ⟨0, 0, none⟩) (ps.length) (ps.length) :: topV :: topV :: .int .i64 (IntKind.i64.wrap (bcA ps i + gI (↑(IntKind.i64.wrap ((flat ps).getD (0 + ((IntKind.i64.wrap ((↑i : Int) + 1)).tmod (↑ps.length : Int)).toNat * (2 : Nat)) 0 - (flat ps).getD (0 + (↑i : Int).toNat * (2 : Nat) + (0 : Nat)) 0)).natAbs : Int) (↑(IntKind.i64.wrap ((flat ps).getD (0 + ((IntKind.i64.wrap ((↑i : Int) + 1)).tmod (↑ps.length : Int)).toNat * (2 : Nat) + 1) 0 - (flat ps).getD (0 + (↑i : Int).toNat * (2 : Nat) + (1 : Nat)) 0)).natAbs : Int))) :: .int .i64 (IntKind.i64.wrap ((↑i : Int) + 1)) :: topV :: topV :: topV :: topV :: topV :: topV :: topV :: topV :: topV :: topV :: topV :: topV :: topV :: topV :: topV :: topV :: topV :: topV :: topV :: topV :: topV :: topV :: topV :: topV :: topV :: topV :: topV :: topV :: topV :: topV :: topV :: topV :: topV :: topV :: topV :: topV :: topV :: []), [some ⟨.view, .ints (flat ps)⟩]⟩)))))))))))) (.leaf (.exit 0) ⟨(topV :: topV :: topV :: .int .i64 (bcA ps i) :: topV :: topV :: topV :: topV :: topV :: topV :: topV :: topV :: topV :: topV :: topV :: topV :: topV :: topV :: topV :: topV :: topV :: topV :: topV :: topV :: topV :: topV :: topV :: topV :: topV :: topV :: topV :: topV :: topV :: topV :: topV :: topV :: topV :: topV :: topV :: topV :: topV :: topV :: []), [some ⟨.view, .ints (flat ps)⟩]⟩) := by kernel_rfl
set_option maxRecDepth 100000 in
theorem nl_sBc : loopsOf c_sBc = [] := by kernel_rfl
def inv_sBc (ps : List Pt) : Nat → Prop := fun i => i ≤ ps.length
def me_sBc (ps : List Pt) : Nat → Nat := fun i => ps.length - i
/-- A round of this loop. -/
def Round_sBc (ps : List Pt) : Prop := ∀ xx : Nat, inv_sBc ps xx → (bodyL Try.prog EBn 30 12 noL 1 c_sBc k_sBc 1 (s_sBc ps xx)).ok (RoundEnd 1 (s_sBc ps) (inv_sBc ps) (me_sBc ps) re_sBc (rs_sBc ps) xx) (fun _ _ => False)
def e_sBc (s : St) (k : Ex → St → Tree) : Option Tree := match Nat.beq s.tmps.length 42, pickL s.tmps [0, 3, 4], s.mem with
  | true, [.slice (some ⟨0, 0, none⟩) n _, .int .i64 a0, .int .i64 i], [some ⟨.view, .ints xs⟩] => some (needs [i = 0, a0 = 0, xs.length = n * 2, allV (ptsA n xs) = true, n ≤ 20] (k (.exit 0) ⟨(topV :: topV :: topV :: .int .i64 (bcA (ptsA n xs) n) :: topV :: topV :: topV :: topV :: topV :: topV :: topV :: topV :: topV :: topV :: topV :: topV :: topV :: topV :: topV :: topV :: topV :: topV :: topV :: topV :: topV :: topV :: topV :: topV :: topV :: topV :: topV :: topV :: topV :: topV :: topV :: topV :: topV :: topV :: topV :: topV :: topV :: topV :: []), [some ⟨.view, .ints xs⟩]⟩))
  | _, _, _ => none
set_option maxRecDepth 100000 in
theorem round_sBc (ps : List Pt) (hv : allV ps = true) (h : ps.length ≤ 20) : Round_sBc ps := by
  intro i h1
  have h1 : i ≤ ps.length := h1
  rw [tr_sBc]
  simp only [brT_ok, Tree.ok, decide_eq_true_eq, decide_eq_false_iff_not, Int.toNat_natCast, Nat.zero_add, Nat.add_zero, flat_length, flat_get0, flat_get1]
  refine ⟨fun hlt => ?_, fun hge => ?_⟩
  · have hi : i < ps.length := by omega
    have hm := nx_lt hi
    rw [nx_mod hi (by omega)]
    simp only [Int.toNat_natCast, Nat.add_zero, flat_get0]
    have hb := bcA_bd hv i (by omega)
    have hb2 := bcT_bd hv hi
    have a1 := allV_gt hv hi
    have a2 := allV_gt hv hm
    unfold bcT nxP at hb2
    rw [wsucc (n := ps.length) hi (by omega)]
    have e1 : ∀ x y : Int, gI (x.natAbs : Int) (y.natAbs : Int) = gI x y := fun x y => by
      unfold gI
      simp [Int.gcd]
    simp (disch := omega) only [wr, e1]
    refine ⟨by omega, by omega, by omega, by unfold big; omega, by unfold big; omega, by unfold big0; omega, by unfold big0; omega, by omega, by omega, by omega, by omega, i + 1, [], ?_, ?_, rfl, by simp only [rs_sBc], ?_⟩
    · show i + 1 ≤ ps.length; omega
    · show ps.length - (i + 1) < ps.length - i; omega
    · repeat' (first | exact True.intro | exact rfl | exact fun _ => rfl | refine And.intro ?_ ?_)
  · obtain rfl : i = ps.length := by omega
    refine ⟨rfl, [], ?_⟩
    simp only [rs_sBc]
    repeat' (first | exact True.intro | exact rfl | exact fun _ => rfl | refine And.intro ?_ ?_)
set_option maxRecDepth 100000 in
theorem lg_sBc : LoopE Try.prog e_sBc c_sBc := by
  intro s k t F H hlt ht
  unfold e_sBc at hlt
  split at hlt
  rotate_left
  · cases hlt
  rename_i hlen hpick hmem
  obtain ⟨tmps, mem⟩ := s
  simp only at hlen hpick hmem
  subst hmem
  obtain rfl := Option.some.inj hlt
  obtain ⟨⟨rfl, rfl, h1, h2, h3, _⟩, ht2⟩ := needs_ok ht
  clear ht hlt
  obtain ⟨ps, rfl, rfl⟩ := even_flat h1
  rw [ptsA_flat] at ht2 h2
  refine ⟨_, _, ht2, loop_run mixed EBn_ok (s_sBc ps) (inv_sBc ps) (me_sBc ps) re_sBc (rs_sBc ps) k_sBc (fun _ => rfl) (noLoops nl_sBc) (round_sBc ps h2 h3) (x := 0) (Nat.zero_le _) (π := []) rfl ?_⟩
  refine ⟨rfl, rfl, ?_, wvs_spread' [0, 3, 4] hlen rfl ?_⟩
  · repeat' (first | exact True.intro | exact rfl | exact wv_top _ _ | exact fun _ => rfl | assumption | exact Eq.symm (by assumption) | exact vI0 rfl | refine And.intro ?_ ?_)
  · rw [hpick]
    repeat' (first | exact True.intro | exact rfl | exact wv_top _ _ | exact fun _ => rfl | assumption | exact Eq.symm (by assumption) | exact vI0 rfl | refine And.intro ?_ ?_)
theorem Lr_sBc {fn : Func} (hf : Try.prog.funcs[80]? = some fn) : LoopsGood Try.prog (lt1 e_sBc) 0 (codeOf fn) := by
  obtain rfl := fn_is Try.func80 hf
  exact lt1_good lg_sBc
def LBc : FuncId → LT := fun f => match f with
  | 80 => lt1 e_sBc
  | _ => noL
def EBc : Env := mkE TBn R4 LBc
theorem EBc_ok : EnvOk Try.prog EBc := mkEOk TBn_ok R4_ok (by
  intro f fn hf
  unfold LBc
  split
  all_goals first | with_reducible exact Lr_sBc hf | exact noL_good)
set_option maxRecDepth 100000 in
theorem tr_sBcF (ps : List Pt) : bodyV Try.prog EBc 30 12 80 [.row ps.length (.ints (flat ps))] = .need ((0 : Int) = (0 : Int)) (.need ((0 : Int) = (0 : Int)) (.need ((flat ps).length = ps.length * (2 : Nat)) (.need (allV (ptsA ps.length (flat ps)) = true) (.need (ps.length ≤ (20 : Nat)) (.fin (.int .i64 (bcA (ptsA ps.length (flat ps)) ps.length)) []))))) := by kernel_rfl
theorem res_sBc {ps : List Pt} (hv : allV ps = true) (h : ps.length ≤ 20) : Res Try.prog 80 [.row ps.length (.ints (flat ps))] (iv (bcA ps ps.length)) := by
  refine bodyV_res mixed EBc_ok (m := 30) (n := 12) rfl ?_
  rw [tr_sBcF]
  simp only [ptsA_flat]
  exact ⟨trivial, trivial, flat_length ps, hv, h, rfl⟩
def pBcA : List DArg → Option (Value × List Prop)
  | [.row m (.ints xs)] => some (iv (bcA (ptsA m xs) m), [m * 2 ≤ xs.length, allV (ptsA m xs) = true, m ≤ 20])
  | _ => none
def pV (v : List Pt → Int) : List DArg → Option (Value × List Prop)
  | [.row m (.ints xs)] => some (iv (v (ptsA m xs)), [m * 2 ≤ xs.length, m ≤ 1000000000])
  | _ => none
theorem pV_ok {f : FuncId} {v : List Pt → Int} (H : ∀ ps, Big ps → Res Try.prog f [.row ps.length (.ints (flat ps))] (iv (v ps))) {ds : List DArg} {x : Value} {C : List Prop} (h : pV v ds = some (x, C)) (hC : AllP C) : Res Try.prog f ds x := by
  unfold pV at h
  split at h
  · rename_i m xs
    obtain ⟨rfl, rfl⟩ : _ ∧ _ := by simpa using h
    obtain ⟨_, h2⟩ := ptsA_spec hC.1
    exact res_pts1 (pre := []) (post := []) hC.1 (H (ptsA m xs) (by unfold Big; rw [h2]; exact hC.2.1))
  · cases h
theorem pBcA_ok {ds : List DArg} {v : Value} {C : List Prop} (h : pBcA ds = some (v, C)) (hC : AllP C) : Res Try.prog 80 ds v := by
  unfold pBcA at h
  split at h
  · rename_i m xs
    obtain ⟨rfl, rfl⟩ : _ ∧ _ := by simpa using h
    obtain ⟨_, h2⟩ := ptsA_spec hC.1
    have h7 := res_pts1 (pre := []) (post := []) hC.1 (res_sBc (ps := ptsA m xs) hC.2.1 (by rw [h2]; exact hC.2.2.1))
    rw [h2] at h7
    exact h7
  · cases h
def TBo : Tab := fun f ds => match f with
  | 80 => pBcA ds
  | 30 => pV bcV ds
  | 22 => pV daV ds
  | 23 => pV daV ds
  | f => TBn f ds
theorem TBo_ok : TabOk Try.prog TBo := by
  intro f ds v C h hC
  unfold TBo at h
  (try split at h)
  all_goals first | with_reducible exact pBcA_ok h hC | with_reducible exact pV_ok res_iBc h hC | with_reducible exact pV_ok res_iDa h hC | with_reducible exact pV_ok res_sDaS h hC | exact TBn_ok _ _ _ _ h hC
def EBo : Env := mkE TBo R4 (fun _ => noL)
theorem EBo_ok : EnvOk Try.prog EBo := mkEOk TBo_ok R4_ok (fun _ _ _ => noL_good)
set_option maxRecDepth 100000 in
theorem tr_sBcS (ps : List Pt) : bodyV Try.prog EBo 30 12 32 [.row ps.length (.ints (flat ps))] = .need (ps.length * (2 : Nat) ≤ (List.drop (0 : Nat) (flat ps)).length) (.need (ps.length ≤ (1000000000 : Nat)) (brT (!issI (ptsA ps.length (List.drop 0 (flat ps)))) (.fin (.int .i64 (-1)) []) (.need (ps.length * (2 : Nat) ≤ (List.drop (0 : Nat) (flat ps)).length) (.need (allV (ptsA ps.length (List.drop (0 : Nat) (flat ps))) = true) (.need (ps.length ≤ (20 : Nat)) (.fin (.int .i64 (bcA (ptsA ps.length (List.drop 0 (flat ps))) ps.length)) [])))))) := by kernel_rfl
set_option maxRecDepth 100000 in
theorem tr_sIc (ps : List Pt) : bodyV Try.prog EBo 30 12 31 [.row ps.length (.ints (flat ps))] = .need (ps.length * (2 : Nat) ≤ (List.drop (0 : Nat) (flat ps)).length) (.need (ps.length ≤ (1000000000 : Nat)) (brT (!issI (ptsA ps.length (List.drop 0 (flat ps)))) (.fin (.int .i64 (-1)) []) (.need (ps.length * (2 : Nat) ≤ (List.drop (0 : Nat) (flat ps)).length) (.need (allV (ptsA ps.length (List.drop (0 : Nat) (flat ps))) = true) (.need (ps.length ≤ (20 : Nat)) (.need (big (sgA (ptsA ps.length (List.drop (0 : Nat) (flat ps))) ps.length)) (.need (ps.length * (2 : Nat) ≤ (List.drop (0 : Nat) (flat ps)).length) (.need (allV (ptsA ps.length (List.drop (0 : Nat) (flat ps))) = true) (.need (ps.length ≤ (20 : Nat)) (.need (¬(2 : Int) = (0 : Int)) (.fin (.int .i64 (IntKind.i64.wrap ((IntKind.i64.wrap (IntKind.i64.wrap ((↑(sgA (ptsA ps.length (List.drop 0 (flat ps))) ps.length).natAbs : Int) - bcA (ptsA ps.length (List.drop 0 (flat ps))) ps.length) + 2)).tdiv 2))) []))))))))))) := by kernel_rfl
set_option maxRecDepth 100000 in
theorem tr_iIc (ps : List Pt) : bodyV Try.prog EBo 30 12 29 [.row ps.length (.ints (flat ps))] = .need (ps.length * (2 : Nat) ≤ (List.drop (0 : Nat) (flat ps)).length) (.need (ps.length ≤ (1000000000 : Nat)) (brT (!issI (ptsA ps.length (List.drop 0 (flat ps)))) (.fin (.int .i64 (-1)) []) (.need (ps.length * (2 : Nat) ≤ (List.drop (0 : Nat) (flat ps)).length) (.need (allV (ptsA ps.length (List.drop (0 : Nat) (flat ps))) = true) (.need (ps.length ≤ (20 : Nat)) (.need (ps.length * (2 : Nat) ≤ (List.drop (0 : Nat) (flat ps)).length) (.need (ps.length ≤ (1000000000 : Nat)) (.need (¬(2 : Int) = (0 : Int)) (.fin (.int .i64 (IntKind.i64.wrap ((IntKind.i64.wrap (IntKind.i64.wrap ((if sgA (ptsA ps.length (List.drop 0 (flat ps))) ps.length < IntKind.i64.wrap (0 - sgA (ptsA ps.length (List.drop 0 (flat ps))) ps.length) then IntKind.i64.wrap (0 - sgA (ptsA ps.length (List.drop 0 (flat ps))) ps.length) else sgA (ptsA ps.length (List.drop 0 (flat ps))) ps.length) - bcV (ptsA ps.length (List.drop 0 (flat ps)))) + 2)).tdiv 2))) []))))))))) := by kernel_rfl
theorem res_sBcS (ps : List Pt) (h : Big ps) : Res Try.prog 32 [.row ps.length (.ints (flat ps))] (iv (bcV ps)) := by
  refine bodyV_res mixed EBo_ok (m := 30) (n := 12) rfl ?_
  rw [tr_sBcS]
  unfold Big at h
  simp only [List.drop_zero, ptsA_flat, flat_length]
  unfold bcV
  rcases hs : issI ps with _ | _
  · simp [brT_ok, Tree.ok, h]
  · obtain ⟨h1, h2, _⟩ := issI_ok hs
    simp [brT_ok, Tree.ok, h, h1, h2]
end Go.Proofs.Ytnjmepbblcfnfab
namespace Go.Proofs.Ytnjmepbblcfnfab
set_option linter.all false
open Go.RowKit
def liP (A B C D : Int) (p : Pt) : Pt := (A * p.1 + B * p.2, C * p.1 + D * p.2)
def liL (A B C D : Int) (ps : List Pt) : List Pt := ps.map (liP A B C D)
theorem liL_len (A B C D : Int) (ps : List Pt) : (liL A B C D ps).length = ps.length := by unfold liL; simp
theorem liL_at (A B C D : Int) {ps : List Pt} {j : Nat} (h : j < ps.length) : (liL A B C D ps).getD j (0, 0) = liP A B C D (ps.getD j (0, 0)) := by unfold liL; simp [h]
theorem liL_nx (A B C D : Int) {ps : List Pt} {j : Nat} (h : j < ps.length) : nxP (liL A B C D ps) j = liP A B C D (nxP ps j) := by
  unfold nxP
  rw [liL_len, liL_at A B C D (Nat.mod_lt _ (by omega))]
theorem liX (A B C D u v : Int) (h1 : A * u + B * v = 0) (h2 : C * u + D * v = 0) (h : A * D - B * C ≠ 0) : u = 0 ∧ v = 0 := by
  have e1 : (A * D - B * C) * u = D * (A * u + B * v) - B * (C * u + D * v) := by grind
  have e2 : (A * D - B * C) * v = A * (C * u + D * v) - C * (A * u + B * v) := by grind
  rw [h1, h2] at e1 e2
  simp only [Int.mul_zero, Int.sub_zero] at e1 e2
  exact ⟨(Int.mul_eq_zero.1 e1).resolve_left h, (Int.mul_eq_zero.1 e2).resolve_left h⟩
theorem liP_inj {A B C D : Int} (h : A * D - B * C ≠ 0) {p q : Pt} (e : liP A B C D p = liP A B C D q) : p = q := by
  have e1 := congrArg Prod.fst e
  have e2 := congrArg Prod.snd e
  simp only [liP] at e1 e2
  obtain ⟨h1, h2⟩ := liX A B C D (p.1 - q.1) (p.2 - q.2) (by rw [Int.mul_sub, Int.mul_sub]; omega) (by rw [Int.mul_sub, Int.mul_sub]; omega) h
  exact Prod.ext (by omega) (by omega)
theorem crossI_li (A B C D a b c d x y : Int) : crossI (A * a + B * b) (C * a + D * b) (A * c + B * d) (C * c + D * d) (A * x + B * y) (C * x + D * y) = (A * D - B * C) * crossI a b c d x y := by unfold crossI; grind
theorem sq_nn (x : Int) : 0 ≤ x * x := by
  rcases Int.le_total 0 x with h | h
  · exact Int.mul_nonneg h h
  · exact Int.mul_nonneg_of_nonpos_of_nonpos h h
theorem sq_pos {x y : Int} (h : ¬(x = 0 ∧ y = 0)) : 0 < x * x + y * y := by
  have h1 := sq_nn x
  have h2 := sq_nn y
  rcases Int.lt_or_eq_of_le (show 0 ≤ x * x + y * y by omega) with h3 | h3
  · exact h3
  · exfalso
    apply h
    have e1 : x * x = 0 := by omega
    have e2 : y * y = 0 := by omega
    exact ⟨by rcases Int.mul_eq_zero.1 e1 with h | h <;> exact h, by rcases Int.mul_eq_zero.1 e2 with h | h <;> exact h⟩
/-- Opposite directions stay so. -/
theorem dot_li {A B C D u v s t : Int} (hd : A * D - B * C ≠ 0) (hx : u * t - v * s = 0) : (A * u + B * v) * (A * s + B * t) + (C * u + D * v) * (C * s + D * t) ≤ 0 ↔ u * s + v * t ≤ 0 := by
  by_cases h0 : u = 0 ∧ v = 0
  · obtain ⟨rfl, rfl⟩ := h0
    simp
  · have p1 := sq_pos h0
    have p2 := sq_pos (x := A * u + B * v) (y := C * u + D * v) fun h => h0 (liX A B C D u v h.1 h.2 hd)
    have e1 : s * (u * u + v * v) = u * (u * s + v * t) := by
      have : v * (u * t - v * s) = 0 := by rw [hx, Int.mul_zero]
      grind
    have e2 : t * (u * u + v * v) = v * (u * s + v * t) := by
      have : u * (u * t - v * s) = 0 := by rw [hx, Int.mul_zero]
      grind
    have key : ((A * u + B * v) * (A * s + B * t) + (C * u + D * v) * (C * s + D * t)) * (u * u + v * v) = (u * s + v * t) * ((A * u + B * v) * (A * u + B * v) + (C * u + D * v) * (C * u + D * v)) := by
      have : ((A * u + B * v) * (A * s + B * t) + (C * u + D * v) * (C * s + D * t)) * (u * u + v * v) = (A * u + B * v) * (A * (s * (u * u + v * v)) + B * (t * (u * u + v * v))) + (C * u + D * v) * (C * (s * (u * u + v * v)) + D * (t * (u * u + v * v))) := by grind
      rw [this, e1, e2]
      grind
    generalize (A * u + B * v) * (A * s + B * t) + (C * u + D * v) * (C * s + D * t) = X at *
    generalize (A * u + B * v) * (A * u + B * v) + (C * u + D * v) * (C * u + D * v) = Q at *
    generalize u * s + v * t = Y at *
    generalize u * u + v * v = N at *
    constructor
    · intro h
      have : Y * Q ≤ 0 := by rw [← key]; exact Int.mul_nonpos_of_nonpos_of_nonneg h (by omega)
      rcases Int.lt_or_le 0 Y with g | g
      · have := Int.mul_pos g p2; omega
      · exact g
    · intro h
      have : X * N ≤ 0 := by rw [key]; exact Int.mul_nonpos_of_nonpos_of_nonneg h (by omega)
      rcases Int.lt_or_le 0 X with g | g
      · have := Int.mul_pos g p1; omega
      · exact g
theorem hasB_li {A B C D : Int} (hd : A * D - B * C ≠ 0) (a b c d x y : Int) : hasB (A * a + B * b) (C * a + D * b) (A * c + B * d) (C * c + D * d) (A * x + B * y) (C * x + D * y) = hasB a b c d x y := by
  unfold hasB
  have e1 : (A * a + B * b - (A * x + B * y)) * (C * c + D * d - (C * x + D * y)) - (C * a + D * b - (C * x + D * y)) * (A * c + B * d - (A * x + B * y)) = (A * D - B * C) * ((a - x) * (d - y) - (b - y) * (c - x)) := by grind
  have e2 : (A * a + B * b - (A * x + B * y)) * (A * c + B * d - (A * x + B * y)) + (C * a + D * b - (C * x + D * y)) * (C * c + D * d - (C * x + D * y)) = (A * (a - x) + B * (b - y)) * (A * (c - x) + B * (d - y)) + (C * (a - x) + D * (b - y)) * (C * (c - x) + D * (d - y)) := by grind
  rw [e1, e2, Bool.eq_iff_iff]
  simp only [Bool.and_eq_true, beq_iff_eq, decide_eq_true_eq]
  constructor
  · rintro ⟨h1, h2⟩
    have h1 := (Int.mul_eq_zero.1 h1).resolve_left hd
    exact ⟨h1, (dot_li hd h1).1 h2⟩
  · rintro ⟨h1, h2⟩
    exact ⟨by rw [h1, Int.mul_zero], (dot_li hd h1).2 h2⟩
theorem cmp_li {k x y : Int} (hk : k ≠ 0) : cmpI (k * x) 0 * cmpI (k * y) 0 = cmpI x 0 * cmpI y 0 := by
  have sg : ∀ z : Int, (0 < k → cmpI (k * z) 0 = cmpI z 0) ∧ (k < 0 → cmpI (k * z) 0 = -(cmpI z 0)) := by
    intro z
    unfold cmpI
    refine ⟨fun h => ?_, fun h => ?_⟩
    · rcases Int.lt_trichotomy z 0 with g | g | g
      · have := Int.mul_neg_of_pos_of_neg h g
        rw [if_pos this, if_pos g]
      · rw [g]; simp
      · have := Int.mul_pos h g
        rw [if_neg (by omega), if_pos this, if_neg (by omega), if_pos g]
    · rcases Int.lt_trichotomy z 0 with g | g | g
      · have := Int.mul_pos_of_neg_of_neg h g
        rw [if_neg (by omega), if_pos this, if_pos g]; rfl
      · rw [g]; simp
      · have := Int.mul_neg_of_neg_of_pos h g
        rw [if_pos this, if_neg (by omega), if_pos g]
  rcases Int.lt_or_gt_of_ne hk with h | h
  · rw [(sg x).2 h, (sg y).2 h, Int.neg_mul_neg]
  · rw [(sg x).1 h, (sg y).1 h]
theorem asc_nd {l : List Pt} (h : Asc l) : l.Nodup := by
  refine List.Pairwise.imp ?_ h
  intro x y hxy e
  subst e
  rw [pltB_iff] at hxy
  omega
theorem ceS_li {A B C D : Int} (hd : A * D - B * C ≠ 0) (a b c d e f g h : Int) : (ceS (A * a + B * b) (C * a + D * b) (A * c + B * d) (C * c + D * d) (A * e + B * f) (C * e + D * f) (A * g + B * h) (C * g + D * h)).length = (ceS a b c d e f g h).length := by
  have on : ∀ z : Pt, onB (A * a + B * b) (C * a + D * b) (A * c + B * d) (C * c + D * d) (A * e + B * f) (C * e + D * f) (A * g + B * h) (C * g + D * h) (liP A B C D z).1 (liP A B C D z).2 = onB a b c d e f g h z.1 z.2 := fun z => by
    unfold onB liP
    rw [hasB_li hd, hasB_li hd]
  have mm : ∀ z, z ∈ ceS a b c d e f g h → liP A B C D z ∈ ceS (A * a + B * b) (C * a + D * b) (A * c + B * d) (C * c + D * d) (A * e + B * f) (C * e + D * f) (A * g + B * h) (C * g + D * h) := fun z hz => by
    obtain ⟨h1, h2⟩ := ce_mem.1 hz
    refine ce_mem.2 ⟨by rw [on]; exact h1, ?_⟩
    rcases h2 with rfl | rfl | rfl | rfl
    · exact .inl rfl
    · exact .inr (.inl rfl)
    · exact .inr (.inr (.inl rfl))
    · exact .inr (.inr (.inr rfl))
  have back : ∀ z, z ∈ ceS (A * a + B * b) (C * a + D * b) (A * c + B * d) (C * c + D * d) (A * e + B * f) (C * e + D * f) (A * g + B * h) (C * g + D * h) → z ∈ (ceS a b c d e f g h).map (liP A B C D) := fun z hz => by
    obtain ⟨h1, h2⟩ := ce_mem.1 hz
    have : ∃ w : Pt, z = liP A B C D w ∧ (w = (a, b) ∨ w = (c, d) ∨ w = (e, f) ∨ w = (g, h)) := by
      rcases h2 with rfl | rfl | rfl | rfl
      · exact ⟨(a, b), rfl, .inl rfl⟩
      · exact ⟨(c, d), rfl, .inr (.inl rfl)⟩
      · exact ⟨(e, f), rfl, .inr (.inr (.inl rfl))⟩
      · exact ⟨(g, h), rfl, .inr (.inr (.inr rfl))⟩
    obtain ⟨w, rfl, hw⟩ := this
    rw [on] at h1
    exact List.mem_map.2 ⟨w, ce_mem.2 ⟨h1, hw⟩, rfl⟩
  have l1 := nodup_le (asc_nd (ce_asc ..)) back
  have nm : ((ceS a b c d e f g h).map (liP A B C D)).Nodup := by
    unfold List.Nodup
    rw [List.pairwise_map]
    exact List.Pairwise.imp (fun hne he => hne (liP_inj hd he)) (asc_nd (ce_asc a b c d e f g h))
  have l2 := nodup_le nm (fun z hz => by
    obtain ⟨w, hw, rfl⟩ := List.mem_map.1 hz
    exact mm w hw)
  rw [List.length_map] at l1 l2
  omega
theorem relA_li {A B C D : Int} (hd : A * D - B * C ≠ 0) (a b c d e f g h : Int) : relA (A * a + B * b) (C * a + D * b) (A * c + B * d) (C * c + D * d) (A * e + B * f) (C * e + D * f) (A * g + B * h) (C * g + D * h) = relA a b c d e f g h := by
  unfold relA dvB
  rw [ceS_li hd]
  simp only [crossI_li, cmp_li hd]
theorem eqB_li {A B C D : Int} (hd : A * D - B * C ≠ 0) (a b c d : Int) : eqB (A * a + B * b) (C * a + D * b) (A * c + B * d) (C * c + D * d) = eqB a b c d := by
  unfold eqB
  rw [Bool.eq_iff_iff]
  simp only [Bool.and_eq_true, beq_iff_eq]
  constructor
  · rintro ⟨h1, h2⟩
    have := liP_inj hd (p := (a, b)) (q := (c, d)) (Prod.ext h1 h2)
    exact ⟨congrArg Prod.fst this, congrArg Prod.snd this⟩
  · rintro ⟨rfl, rfl⟩
    exact ⟨rfl, rfl⟩
theorem issI_li {A B C D : Int} (hd : A * D - B * C ≠ 0) {ps : List Pt} (h1 : allV ps = true) (h2 : allV (liL A B C D ps) = true) : issI (liL A B C D ps) = issI ps := by
  have ed : ∀ i k, i < ps.length → k < ps.length → edR (liL A B C D ps) i k = edR ps i k := by
    intro i k hi hk
    have v : ∀ {qs : List Pt}, allV qs = true → ∀ j, j < qs.length → ptB (qs.getD j (0, 0)).1 (qs.getD j (0, 0)).2 = true := fun hv j hj => List.all_eq_true.1 hv (_ : Pt) (by simp [hj])
    have hl := liL_len A B C D ps
    have a1 := v h2 i (by omega)
    have a2 := v h2 k (by omega)
    have a3 := v h2 ((i + 1) % ps.length) (by rw [hl]; exact Nat.mod_lt _ (by omega))
    have a4 := v h2 ((k + 1) % ps.length) (by rw [hl]; exact Nat.mod_lt _ (by omega))
    have b1 := v h1 i hi
    have b2 := v h1 k hk
    have b3 := v h1 ((i + 1) % ps.length) (Nat.mod_lt _ (by omega))
    have b4 := v h1 ((k + 1) % ps.length) (Nat.mod_lt _ (by omega))
    rw [liL_at A B C D hi] at a1
    rw [liL_at A B C D hk] at a2
    rw [liL_at A B C D (Nat.mod_lt _ (by omega))] at a3 a4
    unfold edR
    rw [liL_at A B C D hi, liL_at A B C D hk, liL_nx A B C D hi, liL_nx A B C D hk]
    unfold nxP
    generalize ps.getD i (0, 0) = p at *
    generalize ps.getD k (0, 0) = q at *
    generalize ps.getD ((i + 1) % ps.length) (0, 0) = s at *
    generalize ps.getD ((k + 1) % ps.length) (0, 0) = t at *
    unfold liP at *
    unfold relV segB
    simp only at a1 a2 a3 a4 ⊢
    rw [a1, a2, a3, a4, b1, b2, b3, b4, relA_li hd, eqB_li hd, eqB_li hd]
  unfold issI okL
  rw [h1, h2, liL_len]
  congr 1
  have one : simQ (liL A B C D ps) = true ↔ simQ ps = true := by
    rw [simQ_iff, simQ_iff, liL_len]
    exact ⟨fun h i k hi hk hne => by rw [← ed i k hi hk]; exact h i k hi hk hne, fun h i k hi hk hne => by rw [ed i k hi hk]; exact h i k hi hk hne⟩
  exact bool_of one.1 one.2
/-- The area is multiplied by the determinant. -/
theorem sgA_li (A B C D : Int) {ps : List Pt} : sgA (liL A B C D ps) ps.length = (A * D - B * C) * sgA ps ps.length := by
  have key : ∀ n, n ≤ ps.length → sgA (liL A B C D ps) n = (A * D - B * C) * sgA ps n := by
    intro n
    induction n with
    | zero => intro _; simp [sgA]
    | succ n ih =>
      intro hn
      simp only [sgA]
      rw [ih (by omega), Int.mul_add]
      congr 1
      unfold sgT
      rw [liL_at A B C D (by omega), liL_nx A B C D (by omega)]
      unfold liP
      simp only
      grind
  exact key _ (Nat.le_refl _)
end Go.Proofs.Ytnjmepbblcfnfab
namespace Go.Proofs.Ytnjmepbblcfnfab
set_option linter.all false
open Go.RowKit
theorem tdiv2_bd {x M : Int} (h : -M ≤ x ∧ x ≤ M) : -M ≤ x.tdiv 2 ∧ x.tdiv 2 ≤ M := by
  have h2 : (x.tdiv 2).natAbs = x.natAbs / 2 := Int.natAbs_tdiv x 2
  omega
def icV (ps : List Pt) : Int := bif issI ps then (((sgA ps ps.length).natAbs : Int) - bcA ps ps.length + 2).tdiv 2 else -1
theorem res_sIc (ps : List Pt) (h : Big ps) : Res Try.prog 31 [.row ps.length (.ints (flat ps))] (iv (icV ps)) := by
  refine bodyV_res mixed EBo_ok (m := 30) (n := 12) rfl ?_
  rw [tr_sIc]
  unfold Big at h
  simp only [List.drop_zero, ptsA_flat, flat_length]
  unfold icV
  rcases hs : issI ps with _ | _
  · simp [brT_ok, Tree.ok, h]
  · obtain ⟨h1, h2, _⟩ := issI_ok hs
    have b1 := sgA_bd h1 _ (Nat.le_refl _)
    have b2 := bcA_bd h1 _ (Nat.le_refl _)
    have b3 : big (sgA ps ps.length) := by unfold big; omega
    rw [wr (x := ((sgA ps ps.length).natAbs : Int) - bcA ps ps.length) (by omega), wr (x := ((sgA ps ps.length).natAbs : Int) - bcA ps ps.length + 2) (by omega)]
    have b4 : -9223372036854775808 ≤ (((sgA ps ps.length).natAbs : Int) - bcA ps ps.length + 2).tdiv 2 ∧ (((sgA ps ps.length).natAbs : Int) - bcA ps ps.length + 2).tdiv 2 ≤ 9223372036854775807 := by
      have := tdiv2_bd (x := ((sgA ps ps.length).natAbs : Int) - bcA ps ps.length + 2) (M := 100000000) (by omega)
      omega
    rw [wr b4]
    simp [brT_ok, Tree.ok, h, h1, h2, b3]
theorem res_iIc (ps : List Pt) (h : Big ps) : Res Try.prog 29 [.row ps.length (.ints (flat ps))] (iv (icV ps)) := by
  refine bodyV_res mixed EBo_ok (m := 30) (n := 12) rfl ?_
  rw [tr_iIc]
  unfold Big at h
  simp only [List.drop_zero, ptsA_flat, flat_length]
  unfold icV bcV
  rcases hs : issI ps with _ | _
  · simp [brT_ok, Tree.ok, h]
  · obtain ⟨h1, h2, _⟩ := issI_ok hs
    have b1 := sgA_bd h1 _ (Nat.le_refl _)
    have b2 := bcA_bd h1 _ (Nat.le_refl _)
    rw [wr (x := 0 - sgA ps ps.length) (by omega)]
    have e : (if sgA ps ps.length < 0 - sgA ps ps.length then 0 - sgA ps ps.length else sgA ps ps.length) = ((sgA ps ps.length).natAbs : Int) := by split <;> omega
    rw [e]
    simp only [cond_true]
    rw [wr (x := ((sgA ps ps.length).natAbs : Int) - bcA ps ps.length) (by omega), wr (x := ((sgA ps ps.length).natAbs : Int) - bcA ps ps.length + 2) (by omega)]
    have b4 : -9223372036854775808 ≤ (((sgA ps ps.length).natAbs : Int) - bcA ps ps.length + 2).tdiv 2 ∧ (((sgA ps ps.length).natAbs : Int) - bcA ps ps.length + 2).tdiv 2 ≤ 9223372036854775807 := by
      have := tdiv2_bd (x := ((sgA ps ps.length).natAbs : Int) - bcA ps ps.length + 2) (M := 100000000) (by omega)
      omega
    rw [wr b4]
    simp [brT_ok, Tree.ok, h, h1, h2]
def TBp : Tab := fun f ds => match f with
  | 32 => pV bcV ds
  | 31 => pV icV ds
  | 29 => pV icV ds
  | f => TBo f ds
theorem TBp_ok : TabOk Try.prog TBp := by
  intro f ds v C h hC
  unfold TBp at h
  (try split at h)
  all_goals first | with_reducible exact pV_ok res_sBcS h hC | with_reducible exact pV_ok res_sIc h hC | with_reducible exact pV_ok res_iIc h hC | exact TBo_ok _ _ _ _ h hC
end Go.Proofs.Ytnjmepbblcfnfab
namespace Go.Proofs.Ytnjmepbblcfnfab
set_option linter.all false
open Go.RowKit
theorem negT_ (b : Bool) : negB true b = !b := by cases b <;> rfl
theorem negF_ (b : Bool) : negB false b = b := by cases b <;> rfl
noncomputable def c_eqQ : Code := ((loopsOf (codeOf Try.f37))[0]?).getD .skip
def k_eqQ : Ex → List Nat := keeps [0, 1, 5] [(0, [])] [4]
def s_eqQ (ps : List Pt) : Nat → St := fun i => ⟨[.slice (some ⟨0, 0, none⟩) ps.length ps.length, .slice (some ⟨1, 0, none⟩) ps.length ps.length, topV, topV, topV, .int .i64 i, topV, topV, topV, topV, topV, topV, topV, topV, topV, topV, topV, topV, topV, topV, topV, topV, topV, topV, topV, topV], [some ⟨.view, .ints (flat ps)⟩, some ⟨.view, .ints (flat ps)⟩]⟩
def re_eqQ : Nat → Ex := fun _ => .exit 0
def rs_eqQ (ps : List Pt) : Nat → St := fun i => ⟨[topV, topV, topV, topV, topV, topV, topV, topV, topV, topV, topV, topV, topV, topV, topV, topV, topV, topV, topV, topV, topV, topV, topV, topV, topV, topV], [some ⟨.view, .ints (flat ps)⟩, some ⟨.view, .ints (flat ps)⟩]⟩
set_option maxRecDepth 100000 in
theorem tr_eqQ (ps : List Pt) (i : Nat) : bodyL Try.prog EM 30 12 noL 1 c_eqQ k_eqQ 2 (s_eqQ ps i) = brT (decide ((↑i : Int) < (↑ps.length : Int))) (.need ((0 : Int) ≤ (↑i : Int) ∧ (↑i : Int) < (↑ps.length : Int)) (.need ((0 : Nat) + (↑i : Int).toNat * (2 : Nat) + (2 : Nat) ≤ (flat ps).length) (.need ((0 : Int) ≤ (↑i : Int) ∧ (↑i : Int) < (↑ps.length : Int)) (.need ((0 : Nat) + (↑i : Int).toNat * (2 : Nat) + (2 : Nat) ≤ (flat ps).length) (brT (negB true ((flat ps).getD (0 + (↑i : Int).toNat * 2) 0 == (flat ps).getD (0 + (↑i : Int).toNat * 2) 0 && ((flat ps).getD (0 + (↑i : Int).toNat * 2 + 1) 0 == (flat ps).getD (0 + (↑i : Int).toNat * 2 + 1) 0 && true))) (.leaf .ret ⟨[topV, topV, topV, topV, .bool (false), topV, topV, topV, topV, topV, topV, topV, topV, topV, topV, topV, topV, topV, topV, topV, topV, topV, topV, topV, topV, topV], [some ⟨.view, .ints (flat ps)⟩, some ⟨.view, .ints (flat ps)⟩]⟩) (.leaf .normal ⟨[.slice (some ⟨0, 0, none⟩) (ps.length) (ps.length), .slice (some ⟨1, 0, none⟩) (ps.length) (ps.length), topV, topV, topV, .int .i64 (IntKind.i64.wrap ((↑i : Int) + 1)), topV, topV, topV, topV, topV, topV, topV, topV, topV, topV, topV, topV, topV, topV, topV, topV, topV, topV, topV, topV], [some ⟨.view, .ints (flat ps)⟩, some ⟨.view, .ints (flat ps)⟩]⟩)))))) (.leaf (.exit 0) ⟨[topV, topV, topV, topV, topV, topV, topV, topV, topV, topV, topV, topV, topV, topV, topV, topV, topV, topV, topV, topV, topV, topV, topV, topV, topV, topV], [some ⟨.view, .ints (flat ps)⟩, some ⟨.view, .ints (flat ps)⟩]⟩) := by kernel_rfl
set_option maxRecDepth 100000 in
theorem nl_eqQ : loopsOf c_eqQ = [] := by kernel_rfl
def inv_eqQ (ps : List Pt) : Nat → Prop := fun i => i ≤ ps.length
def me_eqQ (ps : List Pt) : Nat → Nat := fun i => ps.length - i
/-- A round of this loop. -/
def Round_eqQ (ps : List Pt) : Prop := ∀ xx : Nat, inv_eqQ ps xx → (bodyL Try.prog EM 30 12 noL 1 c_eqQ k_eqQ 2 (s_eqQ ps xx)).ok (RoundEnd 2 (s_eqQ ps) (inv_eqQ ps) (me_eqQ ps) re_eqQ (rs_eqQ ps) xx) (fun _ _ => False)
def e_eqQ (s : St) (k : Ex → St → Tree) : Option Tree := match Nat.beq s.tmps.length 26, pickL s.tmps [0, 1, 5], s.mem with
  | true, [.slice (some ⟨0, 0, none⟩) n _, .slice (some ⟨1, 0, none⟩) m _, .int .i64 i], [some ⟨.view, .ints xs⟩, some ⟨.view, .ints ys⟩] => some (needs [i = 0, m = n, ys = xs, xs.length = n * 2, n ≤ 1000000000] (k (.exit 0) ⟨[topV, topV, topV, topV, topV, topV, topV, topV, topV, topV, topV, topV, topV, topV, topV, topV, topV, topV, topV, topV, topV, topV, topV, topV, topV, topV], [some ⟨.view, .ints xs⟩, some ⟨.view, .ints xs⟩]⟩))
  | _, _, _ => none
set_option maxRecDepth 100000 in
theorem round_eqQ (ps : List Pt) (h : ps.length ≤ 1000000000) : Round_eqQ ps := by
  intro i h1
  have h1 : i ≤ ps.length := h1
  rw [tr_eqQ]
  simp only [brT_ok, Tree.ok, decide_eq_true_eq, decide_eq_false_iff_not, Int.toNat_natCast, Nat.zero_add, flat_length, flat_get0, flat_get1, Bool.not_eq_true', Bool.not_eq_false', beq_iff_eq, beq_eq_false_iff_ne, negT_, negF_, Bool.and_true, Bool.and_eq_true, Bool.and_eq_false_iff, beq_self_eq_true, Bool.and_self, Bool.not_true, Bool.false_eq_true]
  refine ⟨fun hlt => ?_, fun hge => ?_⟩
  · rw [wsucc (n := ps.length) (by omega) h]
    refine ⟨by omega, by omega, by omega, by omega, fun hc => hc.elim, fun _ => ⟨i + 1, [], ?_, ?_, rfl, rfl, ?_⟩⟩
    · show i + 1 ≤ ps.length; omega
    · show ps.length - (i + 1) < ps.length - i; omega
    · repeat' (first | exact True.intro | exact rfl | exact fun _ => rfl | refine And.intro ?_ ?_)
  · refine ⟨rfl, [], ?_⟩
    repeat' (first | exact True.intro | exact rfl | exact fun _ => rfl | refine And.intro ?_ ?_)
set_option maxRecDepth 100000 in
theorem lg_eqQ : LoopE Try.prog e_eqQ c_eqQ := by
  intro s k t F H hlt ht
  unfold e_eqQ at hlt
  split at hlt
  rotate_left
  · cases hlt
  rename_i hlen hpick hmem
  obtain ⟨tmps, mem⟩ := s
  simp only at hlen hpick hmem
  subst hmem
  obtain rfl := Option.some.inj hlt
  obtain ⟨⟨rfl, rfl, rfl, h1, h2, _⟩, ht2⟩ := needs_ok ht
  clear ht hlt
  obtain ⟨ps, rfl, rfl⟩ := even_flat h1
  refine ⟨_, _, ht2, loop_run mixed EM_ok (s_eqQ _) (inv_eqQ _) (me_eqQ _) re_eqQ (rs_eqQ _) k_eqQ (fun _ => rfl) (noLoops nl_eqQ) (round_eqQ _ h2) (x := 0) (Nat.zero_le _) (π := []) rfl ?_⟩
  refine ⟨rfl, rfl, ?_, wvs_spread' [0, 1, 5] hlen rfl ?_⟩
  · repeat' (first | exact True.intro | exact rfl | exact wv_top _ _ | exact fun _ => rfl | assumption | exact Eq.symm (by assumption) | exact vI0 rfl | refine And.intro ?_ ?_)
  · rw [hpick]
    repeat' (first | exact True.intro | exact rfl | exact wv_top _ _ | exact fun _ => rfl | assumption | exact Eq.symm (by assumption) | exact vI0 rfl | refine And.intro ?_ ?_)
end Go.Proofs.Ytnjmepbblcfnfab
namespace Go.Proofs.Ytnjmepbblcfnfab
set_option linter.all false
open Go.RowKit
theorem cl_or (p : Prop) [Decidable p] : decide p = true ∨ decide p = false := by cases decide p <;> simp
end Go.Proofs.Ytnjmepbblcfnfab
namespace Go.Proofs.Ytnjmepbblcfnfab
set_option linter.all false
open Go.RowKit
theorem Lr_eqQ {fn : Func} (hf : Try.prog.funcs[37]? = some fn) : LoopsGood Try.prog (lt1 e_eqQ) 0 (codeOf fn) := by
  obtain rfl := fn_is Try.func37 hf
  exact lt1_good lg_eqQ
def LeqQ : FuncId → LT := fun f => match f with
  | 37 => lt1 e_eqQ
  | _ => noL
def EeqQ : Env := mkE B0 (fun _ _ => none) LeqQ
theorem EeqQ_ok : EnvOk Try.prog EeqQ := mkEOk B0_ok (fun _ _ _ _ _ h => (by cases h)) (by
  intro f fn hf
  unfold LeqQ
  split
  all_goals first | with_reducible exact Lr_eqQ hf | exact noL_good)
set_option maxRecDepth 100000 in
theorem tr_eqQF (ps : List Pt) : bodyV Try.prog EeqQ 30 12 37 [.row ps.length (.ints (flat ps)), .row ps.length (.ints (flat ps))] = brT (!(↑ps.length : Int) == (↑ps.length : Int)) (.fin (.bool (false)) []) (.need ((0 : Int) = (0 : Int)) (.need (ps.length = ps.length) (.need (flat ps = flat ps) (.need ((flat ps).length = ps.length * (2 : Nat)) (.need (ps.length ≤ (1000000000 : Nat)) (.fin (.bool (true)) [])))))) := by kernel_rfl
theorem res_eqQ (ps : List Pt) (h : Lim ps.length) : Res Try.prog 37 [.row ps.length (.ints (flat ps)), .row ps.length (.ints (flat ps))] (.bool true) := by
  refine bodyV_res mixed EeqQ_ok (m := 30) (n := 12) rfl ?_
  rw [tr_eqQF]
  simp [brT_ok, Tree.ok, flat_length]
  exact h
def pEqQ : List DArg → Option (Value × List Prop)
  | [.row n (.ints xs), .row m (.ints ys)] => some (.bool true, [n = m, xs = ys, xs.length = n * 2, Lim n])
  | _ => none
theorem pEqQ_ok {ds : List DArg} {v : Value} {C : List Prop} (h : pEqQ ds = some (v, C)) (hC : AllP C) : Res Try.prog 37 ds v := by
  unfold pEqQ at h
  split at h
  · obtain ⟨rfl, rfl⟩ : _ ∧ _ := by simpa using h
    obtain ⟨rfl, rfl, h1, h2, _⟩ := hC
    obtain ⟨ps, rfl, rfl⟩ := even_flat h1
    exact res_eqQ ps h2
  · cases h
def TLma : Tab := fun f ds => match f with
  | 37 => pEqQ ds
  | 50 => pDt ds
  | f => TBp f ds
theorem TLma_ok : TabOk Try.prog TLma := by
  intro f ds v C h hC
  unfold TLma at h
  (try split at h)
  all_goals first | with_reducible exact pEqQ_ok h hC | with_reducible exact pDt_i h | exact TBp_ok _ _ _ _ h hC
def RLma : TabR := fun f ds => match f, ds with
  | 47, [.row n (.bytes bs)] => some (dMdL bs (rdL n), dMdR bs (rdL n), [Bytes bs, n ≤ bs.length])
  | 49, [.v (.agg ⟨[.int .i64 a, .int .i64 b, .int .i64 c, .int .i64 d]⟩), .row m (.ints xs)] => some (rowBP (mpB a b c d (ptsA m xs)) (mpV a b c d (ptsA m xs)), ⟨.row 31 2, .ints (flat (mpV a b c d (ptsA m xs)))⟩, [m * 2 ≤ xs.length, m ≤ 1000000000])
  | 48, [.v (.agg ⟨[.int .i64 a, .int .i64 b, .int .i64 c, .int .i64 d]⟩), .row m (.ints xs)] => some (rowBP (mpB a b c d (ptsA m xs)) (mpV a b c d (ptsA m xs)), ⟨.row 31 2, .ints (flat (mpV a b c d (ptsA m xs)))⟩, [m * 2 ≤ xs.length, m ≤ 1000000000])
  | _, _ => none
theorem RLma_ok : TabROk Try.prog RLma := by
  intro f ds v b C h hC
  unfold RLma at h
  split at h
  · obtain ⟨rfl, rfl, rfl⟩ : _ ∧ _ ∧ _ := by simpa using h
    exact resR_dMd _ _ hC.1 hC.2.1
  · obtain ⟨rfl, rfl, rfl⟩ : _ ∧ _ ∧ _ := by simpa using h
    obtain ⟨_, h2⟩ := ptsA_spec hC.1
    exact resR_pts1 (pre := [_]) (post := []) hC.1 (resR_specMap _ _ _ _ _ (by unfold Big; rw [h2]; exact hC.2.1))
  · obtain ⟨rfl, rfl, rfl⟩ : _ ∧ _ ∧ _ := by simpa using h
    obtain ⟨_, h2⟩ := ptsA_spec hC.1
    exact resR_pts1 (pre := [_]) (post := []) hC.1 (resR_implMap _ _ _ _ _ (by unfold Big; rw [h2]; exact hC.2.1))
  · cases h
def ELma : Env := mkE TLma RLma (fun _ => noL)
theorem ELma_ok : EnvOk Try.prog ELma := mkEOk TLma_ok RLma_ok (fun _ _ _ => noL_good)
theorem mpB_is {a b c d : Int} {ps : List Pt} (h : mpB a b c d ps = true) : mtB a b c d = true ∧ allV ps = true ∧ ps.length ≤ 20 ∧ mpV a b c d ps = liL a b c d ps ∧ allV (liL a b c d ps) = true := by
  have e : mpV a b c d ps = liL a b c d ps := by unfold mpV; rw [h]; rfl
  unfold mpB okL at h
  simp only [Bool.and_eq_true, decide_eq_true_eq] at h
  exact ⟨h.1.1, h.1.2.1, h.1.2.2, e, h.2⟩
theorem mpV_len (a b c d : Int) (ps : List Pt) : (mpV a b c d ps).length ≤ 20 := by
  cases h : mpB a b c d ps
  · unfold mpV; rw [h]; exact Nat.zero_le _
  · obtain ⟨_, _, h2, e, _⟩ := mpB_is h
    rw [e, liL_len]
    exact h2
end Go.Proofs.Ytnjmepbblcfnfab
