/-
  Texts that the proof needs, merged. Written by an AI agent.
-/
import Derived.Orders
import Derived.Below
import Derived.OrdersIn
import Derived.Deep.LoopGhost
import Derived.WalkKit
import Derived.Laws.CopyRow
import Derived.Laws.AppendOwn
import Derived.Laws.Slices
import Derived.Laws.MakeOwn
import Derived.Test.YtnlciknmpjikgaaRows
import Derived.ProofKit
import Derived.OpenShut
import Derived.Carry
import Derived.IntWalk
import Derived.Test.YtnlciknmpjikgaaProg
import Derived.WalkSpells
import Derived.WalkLawsBesides
import Derived.Lib.Hide
import Derived.Deep.QuietTactic
import Derived.BigQuiet
import Derived.KernelRfl
import Derived.Deep.RegionHeld3
import Derived.LoopTactic
import Derived.Laws.StructEq
import Derived.Laws.Tables
import Derived.RangeFuncNested
import Derived.RangeFuncLeaves
import Derived.Deep.Slices
import Derived.Deep.Fields
import Derived.ChangeSame
import Derived.Shelf.SlSortCmp.WholeK
import Derived.Sort.Grow
import Derived.Deep.DeepCutAuto
import Derived.Shelf.SlSortCmp.NoneTotal
import Derived.Test.YtnlciknmpjikgaaZIsConvex8
set_option linter.all false
namespace Go.Proofs.Ytnlciknmpjikgaa
open Go.RowKit
def RCe : TabR := fun f ds => match f, ds with
  | 112, [.v (.agg ⟨[.int .i64 a, .int .i64 b, .int .i64 c, .int .i64 d]⟩), .v (.agg ⟨[.int .i64 e, .int .i64 f, .int .i64 g, .int .i64 h]⟩)] => some (rowP (ceS a b c d e f g h), blkP (ceS a b c d e f g h), [ptB a b = true, ptB c d = true, ptB e f = true, ptB g h = true])
  | 82, [.v (.agg ⟨[.int .i64 a, .int .i64 b, .int .i64 c, .int .i64 d]⟩), .v (.agg ⟨[.int .i64 e, .int .i64 f, .int .i64 g, .int .i64 h]⟩)] => some (rowP (ceI a b c d e f g h), blkP (ceI a b c d e f g h), [ptB a b = true, ptB c d = true, ptB e f = true, ptB g h = true])
  | 70, [.row m (.ints xs)] => some (rowP (srtL (ptsA m xs)), blkP (srtL (ptsA m xs)), [m * 2 ≤ xs.length, m ≤ 1000])
  | _, _ => none
theorem RCe_ok : TabROk Try.prog RCe := by
  intro f ds v b C h hC
  unfold RCe at h
  (try split at h)
  all_goals first
    | (obtain ⟨rfl, rfl, rfl⟩ : _ ∧ _ ∧ _ := by simpa using h
       with_reducible refine resR_sCe ?_ ?_ ?_ ?_
       · exact hC.1
       · exact hC.2.1
       · exact hC.2.2.1
       · exact hC.2.2.2.1)
    | (obtain ⟨rfl, rfl, rfl⟩ : _ ∧ _ ∧ _ := by simpa using h
       with_reducible refine resR_iCe ?_ ?_ ?_ ?_
       · exact hC.1
       · exact hC.2.1
       · exact hC.2.2.1
       · exact hC.2.2.2.1)
    | (obtain ⟨rfl, rfl, rfl⟩ : _ ∧ _ ∧ _ := by simpa using h
       obtain ⟨_, h2⟩ := ptsA_spec hC.1
       exact resR_pts1 (pre := []) (post := []) hC.1 (resR_srt _ (by rw [h2]; exact hC.2.1)))
    | cases h
def ECe : Env := mkE TOl RCe (fun _ => noL)
theorem ECe_ok : EnvOk Try.prog ECe := mkEOk TOl_ok RCe_ok (fun _ _ _ => noL_good)
set_option maxRecDepth 100000 in
theorem tr_sRel (a b c d e f g h : Int) : bodyV Try.prog ECe 30 12 103 [.v (.agg #[iv a, iv b, iv c, iv d]), .v (.agg #[iv e, iv f, iv g, iv h])] = .need (ptB a b = true) (.need (ptB c d = true) (.need (ptB e f = true) (.need (ptB g h = true) (brT (decide (1 < (↑(ceS a b c d e f g h).length : Int))) (.fin (.int .i64 (3)) []) (brT ((↑(ceS a b c d e f g h).length : Int) == 1) (.fin (.int .i64 (1)) []) (.need (ptB a b = true) (.need (ptB c d = true) (.need (ptB e f = true) (.need (ptB a b = true) (.need (ptB c d = true) (.need (ptB g h = true) (brT (decide (ŵ (cmpI (crossI a b c d e f) 0 * cmpI (crossI a b c d g h) 0) < 0)) (.need (ptB e f = true) (.need (ptB g h = true) (.need (ptB a b = true) (.need (ptB e f = true) (.need (ptB g h = true) (.need (ptB c d = true) (brT (decide (ŵ (cmpI (crossI e f g h a b) 0 * cmpI (crossI e f g h c d) 0) < 0)) (.fin (.int .i64 (2)) []) (.fin (.int .i64 (0)) [])))))))) (.fin (.int .i64 (0)) []))))))))))))) := by kernel_rfl
set_option maxRecDepth 100000 in
theorem tr_iRel (a b c d e f g h : Int) : bodyV Try.prog ECe 30 12 39 [.v (.agg #[iv a, iv b, iv c, iv d]), .v (.agg #[iv e, iv f, iv g, iv h])] = brT (!segB a b c d) (.fin (.int .i64 (-1)) []) (brT (!segB e f g h) (.fin (.int .i64 (-1)) []) (.need (ptB a b = true) (.need (ptB c d = true) (.need (ptB e f = true) (.need (ptB g h = true) (brT ((↑(ceI a b c d e f g h).length : Int) == 0) (.need (ptB a b = true) (.need (ptB c d = true) (.need (ptB e f = true) (.need (ptB a b = true) (.need (ptB c d = true) (.need (ptB g h = true) (brT (decide (ŵ (cmpI (crossI a b c d e f) 0 * cmpI (crossI a b c d g h) 0) < 0)) (.need (ptB e f = true) (.need (ptB g h = true) (.need (ptB a b = true) (.need (ptB e f = true) (.need (ptB g h = true) (.need (ptB c d = true) (brT (decide (ŵ (cmpI (crossI e f g h a b) 0 * cmpI (crossI e f g h c d) 0) < 0)) (.fin (.int .i64 (2)) []) (.fin (.int .i64 (0)) [])))))))) (.fin (.int .i64 (0)) [])))))))) (brT ((↑(ceI a b c d e f g h).length : Int) == 1) (.fin (.int .i64 (1)) []) (.fin (.int .i64 (3)) [])))))))) := by kernel_rfl
def dvB (a b c d e f g h : Int) : Bool := decide (ŵ (cmpI (crossI a b c d e f) 0 * cmpI (crossI a b c d g h) 0) < 0)
def relN (n : Nat) (x : Bool) : Int := if 1 < n then 3 else if n = 1 then 1 else bif x then 2 else 0
def relA (a b c d e f g h : Int) : Int := relN (ceS a b c d e f g h).length (dvB a b c d e f g h && dvB e f g h a b c d)
def relV (a b c d e f g h : Int) : Int := bif segB a b c d && segB e f g h then relA a b c d e f g h else -1
theorem segB_pt {a b c d : Int} (h : segB a b c d = true) : ptB a b = true ∧ ptB c d = true := by
  unfold segB at h
  simp only [Bool.and_eq_true] at h
  exact h.1
theorem res_sRel {a b c d e f g h : Int} (h1 : ptB a b = true) (h2 : ptB c d = true) (h3 : ptB e f = true) (h4 : ptB g h = true) : Res Try.prog 103 [.v (.agg #[iv a, iv b, iv c, iv d]), .v (.agg #[iv e, iv f, iv g, iv h])] (iv (relA a b c d e f g h)) := by
  refine bodyV_res mixed ECe_ok (m := 30) (n := 12) rfl ?_
  rw [tr_sRel]
  simp only [brT_ok, Tree.ok, h1, h2, h3, h4, true_and, decide_eq_true_eq, decide_eq_false_iff_not, beq_iff_eq, beq_eq_false_iff_ne]
  unfold relA relN dvB
  refine ⟨fun g1 => ?_, fun g1 => ⟨fun g2 => ?_, fun g2 => ⟨fun g3 => ⟨fun g4 => ?_, fun g4 => ?_⟩, fun g3 => ?_⟩⟩⟩
  · rw [if_pos (by omega)]
  · rw [if_neg (by omega), if_pos (by omega)]
  all_goals
    rw [if_neg (by omega), if_neg (by omega)]
    simp [g3]
  all_goals simp [g4]
theorem res_iRel (a b c d e f g h : Int) : Res Try.prog 39 [.v (.agg #[iv a, iv b, iv c, iv d]), .v (.agg #[iv e, iv f, iv g, iv h])] (iv (relV a b c d e f g h)) := by
  refine bodyV_res mixed ECe_ok (m := 30) (n := 12) rfl ?_
  rw [tr_iRel]
  unfold relV
  rcases s1 : segB a b c d with _ | _
  · simp [brT_ok, Tree.ok]
  rcases s2 : segB e f g h with _ | _
  · simp [brT_ok, Tree.ok]
  obtain ⟨h1, h2⟩ := segB_pt s1
  obtain ⟨h3, h4⟩ := segB_pt s2
  have hl := (ce_same a b c d e f g h).1
  simp only [brT_ok, Tree.ok, h1, h2, h3, h4, true_and, decide_eq_true_eq, decide_eq_false_iff_not, beq_iff_eq, beq_eq_false_iff_ne, Bool.not_true, Bool.and_self, cond_true, hl]
  unfold relA relN dvB
  repeat' (first | refine And.intro ?_ ?_ | intro _)
  all_goals first
    | (rw [if_neg (by omega), if_pos (by omega)]; done)
    | (rw [if_pos (by omega)]; done)
    | (rw [if_neg (by omega), if_neg (by omega)]; simp [*]; done)
    | (exfalso; simp_all; done)
def pRlA : List DArg → Option (Value × List Prop)
  | [.v (.agg ⟨[.int .i64 a, .int .i64 b, .int .i64 c, .int .i64 d]⟩), .v (.agg ⟨[.int .i64 e, .int .i64 f, .int .i64 g, .int .i64 h]⟩)] => some (iv (relA a b c d e f g h), [ptB a b = true, ptB c d = true, ptB e f = true, ptB g h = true])
  | _ => none
def pRlV : List DArg → Option (Value × List Prop)
  | [.v (.agg ⟨[.int .i64 a, .int .i64 b, .int .i64 c, .int .i64 d]⟩), .v (.agg ⟨[.int .i64 e, .int .i64 f, .int .i64 g, .int .i64 h]⟩)] => some (iv (relV a b c d e f g h), [])
  | _ => none
def TRa : Tab := fun f ds => match f with
  | 103 => pRlA ds
  | 39 => pRlV ds
  | f => TOl f ds
theorem pRlA_ok {ds : List DArg} {v : Value} {C : List Prop} (h : pRlA ds = some (v, C)) (hC : AllP C) : Res Try.prog 103 ds v := by
  unfold pRlA at h
  split at h
  · obtain ⟨rfl, rfl⟩ : _ ∧ _ := by simpa using h
    exact res_sRel hC.1 hC.2.1 hC.2.2.1 hC.2.2.2.1
  · cases h
theorem pRlV_i {ds : List DArg} {v : Value} {C : List Prop} (h : pRlV ds = some (v, C)) : Res Try.prog 39 ds v := by
  unfold pRlV at h
  split at h
  · obtain ⟨rfl, rfl⟩ : _ ∧ _ := by simpa using h
    exact res_iRel _ _ _ _ _ _ _ _
  · cases h
theorem TRa_ok : TabOk Try.prog TRa := by
  intro f ds v C h hC
  unfold TRa at h
  (try split at h)
  all_goals first | with_reducible exact pRlA_ok h hC | with_reducible exact pRlV_i h | exact TOl_ok _ _ _ _ h hC
def TRb : Tab := fun f ds => match f with
  | f => TRa f ds
theorem TRb_ok : TabOk Try.prog TRb := by
  intro f ds v C h hC
  unfold TRb at h
  (try split at h)
  all_goals first | with_reducible exact pRlV_s h | exact TRa_ok _ _ _ _ h hC
theorem addT_mem {o : List Pt} {p z : Pt} {b : Bool} : z ∈ addT o p b ↔ z ∈ o ∨ (b = true ∧ z = p) := by
  unfold addT
  cases b
  · simp
  · simp [insP_mem]
theorem addT_asc {o : List Pt} (h : Asc o) (p : Pt) (b : Bool) : Asc (addT o p b) := by
  unfold addT
  cases b
  · exact h
  · exact insP_asc p h
theorem ce_asc (a b c d e f g h : Int) : Asc (ceS a b c d e f g h) := addT_asc (addT_asc (addT_asc (addT_asc List.Pairwise.nil _ _) _ _) _ _) _ _
theorem ce_mem {a b c d e f g h : Int} {z : Pt} : z ∈ ceS a b c d e f g h ↔ onB a b c d e f g h z.1 z.2 = true ∧ (z = (a, b) ∨ z = (c, d) ∨ z = (e, f) ∨ z = (g, h)) := by
  unfold ceS
  simp only [addT_mem, List.not_mem_nil, false_or]
  constructor
  · rintro (((⟨h1, rfl⟩ | ⟨h1, rfl⟩) | ⟨h1, rfl⟩) | ⟨h1, rfl⟩)
    · exact ⟨h1, .inl rfl⟩
    · exact ⟨h1, .inr (.inl rfl)⟩
    · exact ⟨h1, .inr (.inr (.inl rfl))⟩
    · exact ⟨h1, .inr (.inr (.inr rfl))⟩
  · rintro ⟨h1, rfl | rfl | rfl | rfl⟩
    · exact .inl (.inl (.inl ⟨h1, rfl⟩))
    · exact .inl (.inl (.inr ⟨h1, rfl⟩))
    · exact .inl (.inr ⟨h1, rfl⟩)
    · exact .inr ⟨h1, rfl⟩
theorem onB_comm (a b c d e f g h x y : Int) : onB a b c d e f g h x y = onB e f g h a b c d x y := Bool.and_comm ..
theorem ce_comm (a b c d e f g h : Int) : ceS a b c d e f g h = ceS e f g h a b c d := by
  refine asc_ext (ce_asc ..) (ce_asc ..) fun z => ?_
  rw [ce_mem, ce_mem, onB_comm]
  refine and_congr_right fun _ => ?_
  constructor
  · rintro (h | h | h | h) <;> simp [h]
  · rintro (h | h | h | h) <;> simp [h]
theorem relA_comm (a b c d e f g h : Int) : relA a b c d e f g h = relA e f g h a b c d := by
  unfold relA
  rw [ce_comm a b c d e f g h, Bool.and_comm]
theorem hasB_a (a b c d : Int) : hasB a b c d a b = true := by
  unfold hasB
  simp
theorem hasB_b (a b c d : Int) : hasB a b c d c d = true := by
  unfold hasB
  simp
def edR (ps : List Pt) (i k : Nat) : Int := relV (ps.getD i (0, 0)).1 (ps.getD i (0, 0)).2 (nxP ps i).1 (nxP ps i).2 (ps.getD k (0, 0)).1 (ps.getD k (0, 0)).2 (nxP ps k).1 (nxP ps k).2
def nbQ (ps : List Pt) (i k : Nat) : Bool := decide (k = i + 1) || decide ((k + 1) % ps.length = i)
def okE (ps : List Pt) (i k : Nat) : Bool := !(decide (i < k)) || (edR ps i k == (bif nbQ ps i k then 1 else 0))
def rowQ (ps : List Pt) (i : Nat) : Bool := allQ (okE ps i) 0 ps.length
def simQ (ps : List Pt) : Bool := allQ (rowQ ps) 0 ps.length
theorem allQ_all {P : Nat → Bool} : ∀ (m i : Nat), (∀ j, i ≤ j → j < i + m → P j = true) → allQ P i m = true
  | 0, _, _ => rfl
  | m + 1, i, h => by
    simp only [allQ, Bool.and_eq_true]
    exact ⟨h i (Nat.le_refl _) (by omega), allQ_all m (i + 1) fun j h1 h2 => h j (by omega) (by omega)⟩
theorem allQ_no {P : Nat → Bool} {n j : Nat} (hj : j < n) (h : P j = false) : allQ P 0 n = false := by
  rw [Bool.eq_false_iff]
  intro hh
  have := allQ_get n 0 hh j (by omega) (by omega)
  rw [h] at this
  cases this
def TIs : Tab := orT T3 TRb
theorem TIs_ok : TabOk Try.prog TIs := orT_ok T3_ok TRb_ok
def EIs : Env := mkE TIs RCe (fun _ => noL)
theorem EIs_ok : EnvOk Try.prog EIs := mkEOk TIs_ok RCe_ok (fun _ _ _ => noL_good)
noncomputable def gcIss : Code := (rangesOf (codeOf Try.f10)).getD 0 .skip
noncomputable def gc_isI : Code := (rangesOf (bodOf gcIss)).getD 0 .skip
def k_isI : Ex → List Nat := keeps [1, 2, 3, 4, 26] [] [2]
def s_isI (ps : List Pt) (j : Nat) : Nat → St := fun i => ⟨(topV :: .pointer (some ⟨1, 0, none⟩) :: .pointer (some ⟨2, 0, none⟩) :: .pointer (some ⟨4, 0, none⟩) :: .pointer (some ⟨5, 0, none⟩) :: ω21 .func (.func 75) #[] #[.pointer (some ⟨6, 0, none⟩)] :: ω25 []), [some ⟨.view, .ints (flat ps)⟩, some ⟨.box, .vals [ß 0 ps.length ps.length]⟩, some ⟨.box, .vals [.bool false]⟩, some ⟨.view, .vals [ß 0 ps.length ps.length]⟩, some ⟨.box, .vals [.int .i64 j]⟩, some ⟨.box, .vals [.int .i64 (ps.getD j (0, 0)).1, .int .i64 (ps.getD j (0, 0)).2, .int .i64 (nxP ps j).1, .int .i64 (nxP ps j).2]⟩, some ⟨.view, .vals [ß 0 ps.length ps.length]⟩]⟩
def g_isI (ps : List Pt) (j : Nat) : Nat → Prop := fun i => i ≤ ps.length ∧ ∀ k, k < i → okE ps j k = true
def re_isI (ps : List Pt) (j : Nat) : Ex := bif rowQ ps j then .normal else .ret
def rs_isI (ps : List Pt) (j : Nat) : St := bif rowQ ps j then ⟨(topV :: topV :: .pointer (some ⟨2, 0, none⟩) :: ω49 []), [some ⟨.view, .ints (flat ps)⟩, some ⟨.box, .vals [ß 0 ps.length ps.length]⟩, some ⟨.box, .vals [.bool false]⟩, some ⟨.view, .vals [ß 0 ps.length ps.length]⟩, some ⟨.box, .vals [.int .i64 j]⟩, some ⟨.box, .vals [.int .i64 (ps.getD j (0, 0)).1, .int .i64 (ps.getD j (0, 0)).2, .int .i64 (nxP ps j).1, .int .i64 (nxP ps j).2]⟩, some ⟨.view, .vals [ß 0 ps.length ps.length]⟩]⟩ else ⟨(topV :: topV :: .pointer (some ⟨2, 0, none⟩) :: ω49 []), [some ⟨.view, .ints (flat ps)⟩, some ⟨.box, .vals [ß 0 ps.length ps.length]⟩, some ⟨.box, .vals [.bool false]⟩, some ⟨.view, .vals [ß 0 ps.length ps.length]⟩, some ⟨.box, .vals [.int .i64 j]⟩, some ⟨.box, .vals [.int .i64 (ps.getD j (0, 0)).1, .int .i64 (ps.getD j (0, 0)).2, .int .i64 (nxP ps j).1, .int .i64 (nxP ps j).2]⟩, some ⟨.view, .vals [ß 0 ps.length ps.length]⟩]⟩
set_option maxRecDepth 100000 in
theorem tr_isI (ps : List Pt) (j : Nat) (i : Nat) : bodyR Try.prog EIs 30 12 noL noR (asgOf gc_isI) (bodOf gc_isI) ([27, 28].zip (encE ps i)) k_isI 7 (s_isI ps j i) = brT ((↑i : Int) == ŵ ((↑j : Int) + 1)) (brT (decide ((↑j : Int) < (↑i : Int))) (brT (!relV (ps.getD j (0, 0)).1 (ps.getD j (0, 0)).2 (nxP ps j).1 (nxP ps j).2 (ps.getD i (0, 0)).1 (ps.getD i (0, 0)).2 (ps.getD ((i + 1) % ps.length) (0, 0)).1 (ps.getD ((i + 1) % ps.length) (0, 0)).2 == 1) (.leaf .ret ⟨(topV :: topV :: .pointer (some ⟨2, 0, none⟩) :: ω49 []), [some ⟨.view, .ints (flat ps)⟩, some ⟨.box, .vals [ß 0 (ps.length) (ps.length)]⟩, some ⟨.box, .vals [.bool (false)]⟩, some ⟨.view, .vals [ß 0 (ps.length) (ps.length)]⟩, some ⟨.box, .vals [.int .i64 ((↑j : Int))]⟩, some ⟨.box, .vals [.int .i64 ((ps.getD j (0, 0)).1), .int .i64 ((ps.getD j (0, 0)).2), .int .i64 ((nxP ps j).1), .int .i64 ((nxP ps j).2)]⟩, some ⟨.view, .vals [ß 0 (ps.length) (ps.length)]⟩]⟩) (.leaf .normal ⟨(topV :: .pointer (some ⟨1, 0, none⟩) :: .pointer (some ⟨2, 0, none⟩) :: .pointer (some ⟨4, 0, none⟩) :: .pointer (some ⟨5, 0, none⟩) :: ω21 .func (Fn.func 75) #[] #[.pointer (some ⟨6, 0, none⟩)] :: ω25 []), [some ⟨.view, .ints (flat ps)⟩, some ⟨.box, .vals [ß 0 (ps.length) (ps.length)]⟩, some ⟨.box, .vals [.bool (false)]⟩, some ⟨.view, .vals [ß 0 (ps.length) (ps.length)]⟩, some ⟨.box, .vals [.int .i64 ((↑j : Int))]⟩, some ⟨.box, .vals [.int .i64 ((ps.getD j (0, 0)).1), .int .i64 ((ps.getD j (0, 0)).2), .int .i64 ((nxP ps j).1), .int .i64 ((nxP ps j).2)]⟩, some ⟨.view, .vals [ß 0 (ps.length) (ps.length)]⟩]⟩)) (.leaf .normal ⟨(topV :: .pointer (some ⟨1, 0, none⟩) :: .pointer (some ⟨2, 0, none⟩) :: .pointer (some ⟨4, 0, none⟩) :: .pointer (some ⟨5, 0, none⟩) :: ω21 .func (Fn.func 75) #[] #[.pointer (some ⟨6, 0, none⟩)] :: ω25 []), [some ⟨.view, .ints (flat ps)⟩, some ⟨.box, .vals [ß 0 (ps.length) (ps.length)]⟩, some ⟨.box, .vals [.bool (false)]⟩, some ⟨.view, .vals [ß 0 (ps.length) (ps.length)]⟩, some ⟨.box, .vals [.int .i64 ((↑j : Int))]⟩, some ⟨.box, .vals [.int .i64 ((ps.getD j (0, 0)).1), .int .i64 ((ps.getD j (0, 0)).2), .int .i64 ((nxP ps j).1), .int .i64 ((nxP ps j).2)]⟩, some ⟨.view, .vals [ß 0 (ps.length) (ps.length)]⟩]⟩)) (.need (¬(↑ps.length : Int) = (0 : Int)) (brT ((ŵ ((↑i : Int) + 1)).tmod (↑ps.length : Int) == (↑j : Int)) (brT (decide ((↑j : Int) < (↑i : Int))) (brT (!relV (ps.getD j (0, 0)).1 (ps.getD j (0, 0)).2 (nxP ps j).1 (nxP ps j).2 (ps.getD i (0, 0)).1 (ps.getD i (0, 0)).2 (ps.getD ((i + 1) % ps.length) (0, 0)).1 (ps.getD ((i + 1) % ps.length) (0, 0)).2 == 1) (.leaf .ret ⟨(topV :: topV :: .pointer (some ⟨2, 0, none⟩) :: ω49 []), [some ⟨.view, .ints (flat ps)⟩, some ⟨.box, .vals [ß 0 (ps.length) (ps.length)]⟩, some ⟨.box, .vals [.bool (false)]⟩, some ⟨.view, .vals [ß 0 (ps.length) (ps.length)]⟩, some ⟨.box, .vals [.int .i64 ((↑j : Int))]⟩, some ⟨.box, .vals [.int .i64 ((ps.getD j (0, 0)).1), .int .i64 ((ps.getD j (0, 0)).2), .int .i64 ((nxP ps j).1), .int .i64 ((nxP ps j).2)]⟩, some ⟨.view, .vals [ß 0 (ps.length) (ps.length)]⟩]⟩) (.leaf .normal ⟨(topV :: .pointer (some ⟨1, 0, none⟩) :: .pointer (some ⟨2, 0, none⟩) :: .pointer (some ⟨4, 0, none⟩) :: .pointer (some ⟨5, 0, none⟩) :: ω21 .func (Fn.func 75) #[] #[.pointer (some ⟨6, 0, none⟩)] :: ω25 []), [some ⟨.view, .ints (flat ps)⟩, some ⟨.box, .vals [ß 0 (ps.length) (ps.length)]⟩, some ⟨.box, .vals [.bool (false)]⟩, some ⟨.view, .vals [ß 0 (ps.length) (ps.length)]⟩, some ⟨.box, .vals [.int .i64 ((↑j : Int))]⟩, some ⟨.box, .vals [.int .i64 ((ps.getD j (0, 0)).1), .int .i64 ((ps.getD j (0, 0)).2), .int .i64 ((nxP ps j).1), .int .i64 ((nxP ps j).2)]⟩, some ⟨.view, .vals [ß 0 (ps.length) (ps.length)]⟩]⟩)) (.leaf .normal ⟨(topV :: .pointer (some ⟨1, 0, none⟩) :: .pointer (some ⟨2, 0, none⟩) :: .pointer (some ⟨4, 0, none⟩) :: .pointer (some ⟨5, 0, none⟩) :: ω21 .func (Fn.func 75) #[] #[.pointer (some ⟨6, 0, none⟩)] :: ω25 []), [some ⟨.view, .ints (flat ps)⟩, some ⟨.box, .vals [ß 0 (ps.length) (ps.length)]⟩, some ⟨.box, .vals [.bool (false)]⟩, some ⟨.view, .vals [ß 0 (ps.length) (ps.length)]⟩, some ⟨.box, .vals [.int .i64 ((↑j : Int))]⟩, some ⟨.box, .vals [.int .i64 ((ps.getD j (0, 0)).1), .int .i64 ((ps.getD j (0, 0)).2), .int .i64 ((nxP ps j).1), .int .i64 ((nxP ps j).2)]⟩, some ⟨.view, .vals [ß 0 (ps.length) (ps.length)]⟩]⟩)) (brT (decide ((↑j : Int) < (↑i : Int))) (brT (!relV (ps.getD j (0, 0)).1 (ps.getD j (0, 0)).2 (nxP ps j).1 (nxP ps j).2 (ps.getD i (0, 0)).1 (ps.getD i (0, 0)).2 (ps.getD ((i + 1) % ps.length) (0, 0)).1 (ps.getD ((i + 1) % ps.length) (0, 0)).2 == 0) (.leaf .ret ⟨(topV :: topV :: .pointer (some ⟨2, 0, none⟩) :: ω49 []), [some ⟨.view, .ints (flat ps)⟩, some ⟨.box, .vals [ß 0 (ps.length) (ps.length)]⟩, some ⟨.box, .vals [.bool (false)]⟩, some ⟨.view, .vals [ß 0 (ps.length) (ps.length)]⟩, some ⟨.box, .vals [.int .i64 ((↑j : Int))]⟩, some ⟨.box, .vals [.int .i64 ((ps.getD j (0, 0)).1), .int .i64 ((ps.getD j (0, 0)).2), .int .i64 ((nxP ps j).1), .int .i64 ((nxP ps j).2)]⟩, some ⟨.view, .vals [ß 0 (ps.length) (ps.length)]⟩]⟩) (.leaf .normal ⟨(topV :: .pointer (some ⟨1, 0, none⟩) :: .pointer (some ⟨2, 0, none⟩) :: .pointer (some ⟨4, 0, none⟩) :: .pointer (some ⟨5, 0, none⟩) :: ω21 .func (Fn.func 75) #[] #[.pointer (some ⟨6, 0, none⟩)] :: ω25 []), [some ⟨.view, .ints (flat ps)⟩, some ⟨.box, .vals [ß 0 (ps.length) (ps.length)]⟩, some ⟨.box, .vals [.bool (false)]⟩, some ⟨.view, .vals [ß 0 (ps.length) (ps.length)]⟩, some ⟨.box, .vals [.int .i64 ((↑j : Int))]⟩, some ⟨.box, .vals [.int .i64 ((ps.getD j (0, 0)).1), .int .i64 ((ps.getD j (0, 0)).2), .int .i64 ((nxP ps j).1), .int .i64 ((nxP ps j).2)]⟩, some ⟨.view, .vals [ß 0 (ps.length) (ps.length)]⟩]⟩)) (.leaf .normal ⟨(topV :: .pointer (some ⟨1, 0, none⟩) :: .pointer (some ⟨2, 0, none⟩) :: .pointer (some ⟨4, 0, none⟩) :: .pointer (some ⟨5, 0, none⟩) :: ω21 .func (Fn.func 75) #[] #[.pointer (some ⟨6, 0, none⟩)] :: ω25 []), [some ⟨.view, .ints (flat ps)⟩, some ⟨.box, .vals [ß 0 (ps.length) (ps.length)]⟩, some ⟨.box, .vals [.bool (false)]⟩, some ⟨.view, .vals [ß 0 (ps.length) (ps.length)]⟩, some ⟨.box, .vals [.int .i64 ((↑j : Int))]⟩, some ⟨.box, .vals [.int .i64 ((ps.getD j (0, 0)).1), .int .i64 ((ps.getD j (0, 0)).2), .int .i64 ((nxP ps j).1), .int .i64 ((nxP ps j).2)]⟩, some ⟨.view, .vals [ß 0 (ps.length) (ps.length)]⟩]⟩)))) := by kernel_rfl
def Round_isI (ps : List Pt) (j : Nat) : Prop := ∀ i : Nat, g_isI ps j i → i < (ps).length → (bodyR Try.prog EIs 30 12 noL noR (asgOf gc_isI) (bodOf gc_isI) ([27, 28].zip (encE ps i)) k_isI 7 (s_isI ps j i)).ok (RoundEndR 7 (s_isI ps j) (g_isI ps j) (re_isI ps j) (rs_isI ps j) i) (fun _ _ => False)
set_option maxRecDepth 100000 in
theorem gcode_isI : gc_isI = .rangeFunc (.tmp 26) ([27, 28] : List Nat).toArray (asgOf gc_isI) (bodOf gc_isI) := by kernel_rfl
def e_isI (s : St) (k : Ex → St → Tree) : Option Tree := match Nat.beq s.tmps.length 52, pickL s.tmps [1, 2, 3, 4, 26], s.mem with
  | true, [.pointer (some ⟨1, 0, none⟩), .pointer (some ⟨2, 0, none⟩), .pointer (some ⟨4, 0, none⟩), .pointer (some ⟨5, 0, none⟩), .func (.func 75) ⟨[]⟩ ⟨[.pointer (some ⟨6, 0, none⟩)]⟩], [some ⟨.view, .ints xs⟩, some ⟨.box, .vals [ß 0 n _]⟩, some ⟨.box, .vals [.bool false]⟩, some ⟨.view, .vals [ß 0 n1 _]⟩, some ⟨.box, .vals [.int .i64 jj]⟩, some ⟨.box, .vals [.int .i64 a, .int .i64 b, .int .i64 c, .int .i64 d]⟩, some ⟨.box, .vals [ß 0 n2 _]⟩] => some (needs [n1 = n, n2 = n, 0 ≤ jj, xs.length = n * 2, n ≤ 20, jj < n, a = ((ptsA n xs).getD jj.toNat (0, 0)).1 ∧ b = ((ptsA n xs).getD jj.toNat (0, 0)).2 ∧ c = (nxP (ptsA n xs) jj.toNat).1 ∧ d = (nxP (ptsA n xs) jj.toNat).2] (brT (rowQ (ptsA n xs) jj.toNat) (k .normal ⟨(topV :: topV :: .pointer (some ⟨2, 0, none⟩) :: ω49 []), [some ⟨.view, .ints xs⟩, some ⟨.box, .vals [ß 0 n n]⟩, some ⟨.box, .vals [.bool false]⟩, some ⟨.view, .vals [ß 0 n n]⟩, some ⟨.box, .vals [.int .i64 jj]⟩, some ⟨.box, .vals [.int .i64 a, .int .i64 b, .int .i64 c, .int .i64 d]⟩, some ⟨.view, .vals [ß 0 n n]⟩]⟩) (k .ret ⟨(topV :: topV :: .pointer (some ⟨2, 0, none⟩) :: ω49 []), [some ⟨.view, .ints xs⟩, some ⟨.box, .vals [ß 0 n n]⟩, some ⟨.box, .vals [.bool false]⟩, some ⟨.view, .vals [ß 0 n n]⟩, some ⟨.box, .vals [.int .i64 jj]⟩, some ⟨.box, .vals [.int .i64 a, .int .i64 b, .int .i64 c, .int .i64 d]⟩, some ⟨.view, .vals [ß 0 n n]⟩]⟩)))
  | _, _, _ => none
set_option maxRecDepth 100000 in
theorem round_isI (ps : List Pt) (j : Nat) (h : ps.length ≤ 20) (hj : j < ps.length) : Round_isI ps j := by
  rintro i ⟨_, hg⟩ hi
  rw [tr_isI]
  have e1 : ŵ ((j : Int) + 1) = (j : Int) + 1 := by rw [wsucc hj (by omega)]; omega
  have c1 : ((i : Int) == (j : Int) + 1) = decide (i = j + 1) := by rw [Bool.eq_iff_iff]; simp; omega
  have c2 : decide ((j : Int) < (i : Int)) = decide (j < i) := decide_eq_decide.2 (by omega)
  have c3 : ((((i + 1) % ps.length : Nat) : Int) == (j : Int)) = decide ((i + 1) % ps.length = j) := by
    generalize (i + 1) % ps.length = m
    rw [Bool.eq_iff_iff]
    simp
    omega
  have hR : relV (ps.getD j (0, 0)).1 (ps.getD j (0, 0)).2 (nxP ps j).1 (nxP ps j).2 (ps.getD i (0, 0)).1 (ps.getD i (0, 0)).2 (ps.getD ((i + 1) % ps.length) (0, 0)).1 (ps.getD ((i + 1) % ps.length) (0, 0)).2 = edR ps j i := rfl
  have nxt : okE ps j i = true → g_isI ps j (i + 1) := fun ho => ⟨by omega, fun k hk => by
    rcases Nat.lt_or_ge k i with h1 | h1
    · exact hg k h1
    · obtain rfl : k = i := by omega
      exact ho⟩
  have stp : okE ps j i = false → rowQ ps j = false := allQ_no hi
  have n0 : ¬ (ps.length : Int) = 0 := by omega
  simp only [e1, c1, c2, c3, hR, nx_mod hi (by omega)]
  rcases q1 : decide (i = j + 1) with _ | _ <;> rcases q2 : decide (j < i) with _ | _ <;> rcases q3 : decide ((i + 1) % ps.length = j) with _ | _ <;> rcases q4 : (edR ps j i == 1) with _ | _ <;> rcases q5 : (edR ps j i == 0) with _ | _
  all_goals
    simp only [brT_t, brT_f, Bool.not_true, Bool.not_false, Tree.ok, RoundEndR]
    try refine ⟨n0, ?_⟩
    first
      | (have ho : okE ps j i = true := by unfold okE nbQ; rw [q1, q2, q3]; simp [q4, q5]
         refine ⟨nxt ho, [], ?_⟩
         refine ⟨rfl, rfl, ?_, ?_⟩ <;> repeat' (first | exact True.intro | exact rfl | exact wv_top _ _ | exact fun _ => rfl | refine And.intro ?_ ?_))
      | (have ho : okE ps j i = false := by unfold okE nbQ; rw [q1, q2, q3]; simp [q4, q5]
         have hq := stp ho
         refine ⟨by unfold re_isI; rw [hq]; rfl, [], ?_⟩
         unfold rs_isI
         rw [hq]
         refine ⟨rfl, rfl, ?_, ?_⟩ <;> repeat' (first | exact True.intro | exact rfl | exact wv_top _ _ | exact fun _ => rfl | refine And.intro ?_ ?_))
set_option maxRecDepth 100000 in
theorem lg_isI : RangeE Try.prog e_isI gc_isI := by
  intro s k t F H hlt ht
  unfold e_isI at hlt
  split at hlt
  rotate_left
  · cases hlt
  rename_i hlen hpick hmem
  obtain ⟨tmps, mem⟩ := s
  simp only at hlen hpick hmem
  subst hmem
  obtain rfl := Option.some.inj hlt
  obtain ⟨⟨rfl, rfl, h4, h1, h3, h5, h6, _⟩, ht2⟩ := needs_ok ht
  clear ht hlt
  obtain ⟨ps, rfl, rfl⟩ := even_flat h1
  obtain ⟨j, rfl⟩ := Int.eq_ofNat_of_zero_le h4
  rw [ptsA_flat] at ht2 h6
  simp only [Int.toNat_natCast] at ht2 h6
  obtain ⟨rfl, rfl, rfl, rfl⟩ := h6
  refine ⟨re_isI ps j, rs_isI ps j, pick2k ht2, ?_⟩
  rw [gcode_isI]
  refine range_det (enc := encE ps) (len := (ps).length) (St_of := s_isI ps j) (Good := g_isI ps j) (N := 7) (M := 7) (Kn := [0, 6]) (cap := [.pointer (some ⟨6, 0, none⟩)]) (kf := (k_isI .normal)) (π := []) (fun _ => rfl) (fun _ => rfl) (fun i hg hlt => bodyR_ok mixed EIs_ok (noL_good) (noR_good) (round_isI ps j h3 (by omega) i hg hlt)) (entersB_res (by kernel_rfl)).1 rfl ?_ (fun ρ0 ρ B w lb h1 h2 => ed_iter ps (by omega) (s := (s_isI ps j 0).fs) (nb := 6) (nr := 0) (c := (ps).length) (Kn := [0, 6]) rfl rfl (by decide) (by decide) ρ0 ρ B w lb h1 h2) ?_ rfl (by decide) ?_ ⟨Nat.zero_le _, fun k hk => by omega⟩
  · intro n hn b hb
    simp only [List.mem_cons, List.not_mem_nil, or_false] at hn
    rcases hn with rfl | rfl <;> (obtain rfl := Option.some.inj hb; rfl)
  · rintro ⟨_, hg⟩
    have hq : rowQ ps j = true := allQ_all _ _ fun k _ h2 => hg k (by omega)
    refine ⟨by unfold re_isI; rw [hq]; rfl, [], ?_⟩
    unfold rs_isI
    rw [hq]
    refine ⟨rfl, rfl, ?_, ?_⟩ <;> repeat' (first | exact True.intro | exact rfl | exact wv_top _ _ | exact fun _ => rfl | refine And.intro ?_ ?_)
  · refine ⟨rfl, rfl, ?_, wvs_spread' [1, 2, 3, 4, 26] hlen rfl ?_⟩
    · repeat' (first | exact True.intro | exact rfl | exact wv_top _ _ | exact fun _ => rfl | assumption | exact Eq.symm (by assumption) | exact vI0 rfl | refine And.intro ?_ ?_)
    · rw [show pickL (viewS [0, 6] ⟨tmps, _⟩).tmps [1, 2, 3, 4, 26] = pickL tmps [1, 2, 3, 4, 26] from rfl, hpick]
      repeat' (first | exact True.intro | exact rfl | exact wv_top _ _ | exact fun _ => rfl | assumption | exact Eq.symm (by assumption) | exact vI0 rfl | refine And.intro ?_ ?_)
noncomputable def gc_isO : Code := gcIss
def k_isO : Ex → List Nat := keeps [1, 2, 22] [] [2]
def s_isO (ps : List Pt) : Nat → St := fun i => ⟨(topV :: .pointer (some ⟨1, 0, none⟩) :: .pointer (some ⟨2, 0, none⟩) :: ω19 .func (.func 75) #[] #[.pointer (some ⟨3, 0, none⟩)] :: ω29 []), [some ⟨.view, .ints (flat ps)⟩, some ⟨.box, .vals [ß 0 ps.length ps.length]⟩, some ⟨.box, .vals [.bool false]⟩, some ⟨.view, .vals [ß 0 ps.length ps.length]⟩]⟩
def g_isO (ps : List Pt) : Nat → Prop := fun i => i ≤ ps.length ∧ ∀ k, k < i → rowQ ps k = true
def re_isO (ps : List Pt) : Ex := bif simQ ps then .normal else .ret
def rs_isO (ps : List Pt) : St := bif simQ ps then ⟨(topV :: topV :: .pointer (some ⟨2, 0, none⟩) :: ω49 []), [some ⟨.view, .ints (flat ps)⟩, some ⟨.box, .vals [ß 0 ps.length ps.length]⟩, some ⟨.box, .vals [.bool false]⟩, some ⟨.view, .vals [ß 0 ps.length ps.length]⟩]⟩ else ⟨(topV :: topV :: .pointer (some ⟨2, 0, none⟩) :: ω49 []), [some ⟨.view, .ints (flat ps)⟩, some ⟨.box, .vals [ß 0 ps.length ps.length]⟩, some ⟨.box, .vals [.bool false]⟩, some ⟨.view, .vals [ß 0 ps.length ps.length]⟩]⟩
set_option maxRecDepth 100000 in
theorem tr_isO (ps : List Pt) (i : Nat) : bodyR Try.prog EIs 30 12 noL (rt1 26 e_isI) (asgOf gc_isO) (bodOf gc_isO) ([23, 24].zip (encE ps i)) k_isO 4 (s_isO ps i) = .need (ps.length = ps.length) (.need (ps.length = ps.length) (.need ((0 : Int) ≤ (↑i : Int)) (.need ((flat ps).length = ps.length * (2 : Nat)) (.need (ps.length ≤ (20 : Nat)) (.need ((↑i : Int) < (↑ps.length : Int)) (.need ((ps.getD i ((0 : Int), (0 : Int))).1 = ((ptsA ps.length (flat ps)).getD (↑i : Int).toNat ((0 : Int), (0 : Int))).1 ∧ (ps.getD i ((0 : Int), (0 : Int))).2 = ((ptsA ps.length (flat ps)).getD (↑i : Int).toNat ((0 : Int), (0 : Int))).2 ∧ (ps.getD ((i + (1 : Nat)) % ps.length) ((0 : Int), (0 : Int))).1 = (nxP (ptsA ps.length (flat ps)) (↑i : Int).toNat).1 ∧ (ps.getD ((i + (1 : Nat)) % ps.length) ((0 : Int), (0 : Int))).2 = (nxP (ptsA ps.length (flat ps)) (↑i : Int).toNat).2) (brT (rowQ (ptsA ps.length (flat ps)) (↑i : Int).toNat) (.leaf .normal ⟨(topV :: .pointer (some ⟨1, 0, none⟩) :: .pointer (some ⟨2, 0, none⟩) :: ω19 .func (Fn.func 75) #[] #[.pointer (some ⟨3, 0, none⟩)] :: ω29 []), [some ⟨.view, .ints (flat ps)⟩, some ⟨.box, .vals [ß 0 (ps.length) (ps.length)]⟩, some ⟨.box, .vals [.bool (false)]⟩, some ⟨.view, .vals [ß 0 (ps.length) (ps.length)]⟩]⟩) (.leaf .ret ⟨(topV :: topV :: .pointer (some ⟨2, 0, none⟩) :: ω49 []), [some ⟨.view, .ints (flat ps)⟩, some ⟨.box, .vals [ß 0 (ps.length) (ps.length)]⟩, some ⟨.box, .vals [.bool (false)]⟩, some ⟨.view, .vals [ß 0 (ps.length) (ps.length)]⟩]⟩)))))))) := by kernel_rfl
def Round_isO (ps : List Pt) : Prop := ∀ i : Nat, g_isO ps i → i < (ps).length → (bodyR Try.prog EIs 30 12 noL (rt1 26 e_isI) (asgOf gc_isO) (bodOf gc_isO) ([23, 24].zip (encE ps i)) k_isO 4 (s_isO ps i)).ok (RoundEndR 4 (s_isO ps) (g_isO ps) (re_isO ps) (rs_isO ps) i) (fun _ _ => False)
set_option maxRecDepth 100000 in
theorem gcode_isO : gc_isO = .rangeFunc (.tmp 22) ([23, 24] : List Nat).toArray (asgOf gc_isO) (bodOf gc_isO) := by kernel_rfl
def e_isO (s : St) (k : Ex → St → Tree) : Option Tree := match Nat.beq s.tmps.length 52, pickL s.tmps [1, 2, 22], s.mem with
  | true, [.pointer (some ⟨1, 0, none⟩), .pointer (some ⟨2, 0, none⟩), .func (.func 75) ⟨[]⟩ ⟨[.pointer (some ⟨3, 0, none⟩)]⟩], [some ⟨.view, .ints xs⟩, some ⟨.box, .vals [ß 0 n _]⟩, some ⟨.box, .vals [.bool false]⟩, some ⟨.box, .vals [ß 0 n1 _]⟩] => some (needs [n1 = n, xs.length = n * 2, n ≤ 20] (brT (simQ (ptsA n xs)) (k .normal ⟨(topV :: topV :: .pointer (some ⟨2, 0, none⟩) :: ω49 []), [some ⟨.view, .ints xs⟩, some ⟨.box, .vals [ß 0 n n]⟩, some ⟨.box, .vals [.bool false]⟩, some ⟨.view, .vals [ß 0 n n]⟩]⟩) (k .ret ⟨(topV :: topV :: .pointer (some ⟨2, 0, none⟩) :: ω49 []), [some ⟨.view, .ints xs⟩, some ⟨.box, .vals [ß 0 n n]⟩, some ⟨.box, .vals [.bool false]⟩, some ⟨.view, .vals [ß 0 n n]⟩]⟩)))
  | _, _, _ => none
set_option maxRecDepth 100000 in
theorem round_isO (ps : List Pt) (h : ps.length ≤ 20) : Round_isO ps := by
  rintro i ⟨_, hg⟩ hi
  rw [tr_isO]
  simp only [ptsA_flat, Int.toNat_natCast]
  refine ⟨by first | exact True.intro | rfl, by first | exact True.intro | rfl, by omega, flat_length ps, h, by omega, ⟨by first | exact True.intro | rfl, by first | exact True.intro | rfl, rfl, rfl⟩, ?_⟩
  refine brT_ok.2 ⟨fun hq => ?_, fun hq => ?_⟩
  · refine ⟨⟨by omega, fun k hk => ?_⟩, [], ?_⟩
    · rcases Nat.lt_or_ge k i with h1 | h1
      · exact hg k h1
      · obtain rfl : k = i := by omega
        exact hq
    · refine ⟨rfl, rfl, ?_, ?_⟩ <;> repeat' (first | exact True.intro | exact rfl | exact wv_top _ _ | exact fun _ => rfl | refine And.intro ?_ ?_)
  · have hs : simQ ps = false := allQ_no hi hq
    refine ⟨by unfold re_isO; rw [hs]; rfl, [], ?_⟩
    unfold rs_isO
    rw [hs]
    refine ⟨rfl, rfl, ?_, ?_⟩ <;> repeat' (first | exact True.intro | exact rfl | exact wv_top _ _ | exact fun _ => rfl | refine And.intro ?_ ?_)
set_option maxRecDepth 100000 in
theorem lg_isO : RangeE Try.prog e_isO gc_isO := by
  intro s k t F H hlt ht
  unfold e_isO at hlt
  split at hlt
  rotate_left
  · cases hlt
  rename_i hlen hpick hmem
  obtain ⟨tmps, mem⟩ := s
  simp only at hlen hpick hmem
  subst hmem
  obtain rfl := Option.some.inj hlt
  obtain ⟨⟨rfl, h1, h3, _⟩, ht2⟩ := needs_ok ht
  clear ht hlt
  obtain ⟨ps, rfl, rfl⟩ := even_flat h1
  rw [ptsA_flat] at ht2
  refine ⟨re_isO ps, rs_isO ps, pick2k ht2, ?_⟩
  rw [gcode_isO]
  refine range_det (enc := encE ps) (len := (ps).length) (St_of := s_isO ps) (Good := g_isO ps) (N := 4) (M := 4) (Kn := [0, 3]) (cap := [.pointer (some ⟨3, 0, none⟩)]) (kf := (k_isO .normal)) (π := []) (fun _ => rfl) (fun _ => rfl) (fun i hg hlt => bodyR_ok mixed EIs_ok (noL_good) (rt1_good (by kernel_rfl) lg_isI) (round_isO ps h3 i hg hlt)) (entersB_res (by kernel_rfl)).1 rfl ?_ (fun ρ0 ρ B w lb h1 h2 => ed_iter ps (by omega) (s := (s_isO ps 0).fs) (nb := 3) (nr := 0) (c := (ps).length) (Kn := [0, 3]) rfl rfl (by decide) (by decide) ρ0 ρ B w lb h1 h2) ?_ rfl (by decide) ?_ ⟨Nat.zero_le _, fun k hk => by omega⟩
  · intro n hn b hb
    simp only [List.mem_cons, List.not_mem_nil, or_false] at hn
    rcases hn with rfl | rfl <;> (obtain rfl := Option.some.inj hb; rfl)
  · rintro ⟨_, hg⟩
    have hq : simQ ps = true := allQ_all _ _ fun k _ h2 => hg k (by omega)
    refine ⟨by unfold re_isO; rw [hq]; rfl, [], ?_⟩
    unfold rs_isO
    rw [hq]
    refine ⟨rfl, rfl, ?_, ?_⟩ <;> repeat' (first | exact True.intro | exact rfl | exact wv_top _ _ | exact fun _ => rfl | refine And.intro ?_ ?_)
  · refine ⟨rfl, rfl, ?_, wvs_spread' [1, 2, 22] hlen rfl ?_⟩
    · repeat' (first | exact True.intro | exact rfl | exact wv_top _ _ | exact fun _ => rfl | assumption | exact Eq.symm (by assumption) | exact vI0 rfl | refine And.intro ?_ ?_)
    · rw [show pickL (viewS [0, 3] ⟨tmps, _⟩).tmps [1, 2, 22] = pickL tmps [1, 2, 22] from rfl, hpick]
      repeat' (first | exact True.intro | exact rfl | exact wv_top _ _ | exact fun _ => rfl | assumption | exact Eq.symm (by assumption) | exact vI0 rfl | refine And.intro ?_ ?_)
theorem Gr_isO {fn : Func} (hf : Try.prog.funcs[10]? = some fn) : RangesGood Try.prog (rt1 22 e_isO) (codeOf fn) := by
  obtain rfl := fn_is Try.func10 hf
  exact rt1_good (by kernel_rfl) lg_isO
def GIs : FuncId → RT := fun f => match f with
  | 10 => rt1 22 e_isO
  | _ => noR
def EIo : Env := withG EIs GIs
theorem EIo_ok : EnvOk Try.prog EIo := withG_ok EIs_ok (by
  intro f fn hf
  unfold GIs
  split
  all_goals first | with_reducible exact Gr_isO hf | exact noR_good)
set_option maxRecDepth 100000 in
theorem tr_iIss (ps : List Pt) : bodyV Try.prog EIo 30 12 10 [.row ps.length (.ints (flat ps))] = brT (decide ((↑ps.length : Int) < 3)) (.fin (.bool (false)) []) (brT (decide (20 < (↑ps.length : Int))) (.fin (.bool (false)) []) (brT (decide ((↑ps.length : Int) ≤ 20)) (.need (ps.length * (2 : Nat) ≤ (List.drop 0 (flat ps)).length) (.need (ps.length ≤ (1000000000 : Nat)) (brT (!allV (ptsA ps.length (List.drop 0 (flat ps)))) (.fin (.bool (false)) []) (.need (ps.length = ps.length) (.need ((flat ps).length = ps.length * (2 : Nat)) (.need (ps.length ≤ (20 : Nat)) (brT (simQ (ptsA ps.length (flat ps))) (.fin (.bool (true)) []) (.fin (.bool (false)) [])))))))) (.fin (.bool (false)) []))) := by kernel_rfl
def issI (ps : List Pt) : Bool := decide (3 ≤ ps.length) && okL ps && simQ ps
theorem res_iIss (ps : List Pt) (h : Big ps) : Res Try.prog 10 [.row ps.length (.ints (flat ps))] (.bool (issI ps)) := by
  refine bodyV_res mixed EIo_ok (m := 30) (n := 12) rfl ?_
  rw [tr_iIss]
  unfold Big at h
  simp only [List.drop_zero, ptsA_flat, flat_length]
  unfold issI okL
  by_cases h1 : 3 ≤ ps.length
  · by_cases h2 : ps.length ≤ 20
    · have a1 : ¬ (ps.length : Int) < 3 := by omega
      have a2 : ¬ (20 : Int) < ps.length := by omega
      have a3 : (ps.length : Int) ≤ 20 := by omega
      rcases hv : allV ps with _ | _ <;> rcases hs : simQ ps with _ | _ <;> simp [brT_ok, Tree.ok, h1, h2, a1, a2, a3, h]
    · have a1 : ¬ (ps.length : Int) < 3 := by omega
      have a2 : (20 : Int) < ps.length := by omega
      simp [brT_ok, Tree.ok, h2, a1, a2]
  · have a1 : (ps.length : Int) < 3 := by omega
    simp [brT_ok, Tree.ok, h1, a1]
def rngQ (ps : List Pt) : Bool := okL ps && decide (3 ≤ ps.length) && ((srtL ps).length == ps.length)
set_option maxRecDepth 100000 in
theorem tr_sRng (ps : List Pt) : bodyV Try.prog EIs 30 12 102 [.row ps.length (.ints (flat ps))] = .need (ps.length * (2 : Nat) ≤ (List.drop 0 (flat ps)).length) (.need (ps.length ≤ (1000000000 : Nat)) (brT (okL (ptsA ps.length (List.drop 0 (flat ps)))) (brT (decide (3 ≤ (↑ps.length : Int))) (brT (decide ((↑ps.length : Int) ≤ 20)) (.need (ps.length * (2 : Nat) ≤ (List.drop 0 (flat ps)).length) (.need (ps.length ≤ (1000 : Nat)) (.fin (.bool ((↑(srtL (ptsA ps.length (List.drop 0 (flat ps)))).length : Int) == (↑ps.length : Int))) []))) (.fin (.bool (false)) [])) (.fin (.bool (false)) [])) (.fin (.bool (false)) []))) := by kernel_rfl
theorem res_sRng (ps : List Pt) (h : Big ps) : Res Try.prog 102 [.row ps.length (.ints (flat ps))] (.bool (rngQ ps)) := by
  refine bodyV_res mixed EIs_ok (m := 30) (n := 12) rfl ?_
  rw [tr_sRng]
  unfold Big at h
  simp only [List.drop_zero, ptsA_flat, flat_length]
  unfold rngQ
  have hq : ((((srtL ps).length : Nat) : Int) == (ps.length : Int)) = ((srtL ps).length == ps.length) := by rw [Bool.eq_iff_iff]; simp; omega
  rw [hq]
  rcases ho : okL ps with _ | _
  · simp [brT_ok, Tree.ok, h]
  · have hl : ps.length ≤ 20 := by
      unfold okL at ho
      simp only [Bool.and_eq_true, decide_eq_true_eq] at ho
      exact ho.2
    have a3 : (ps.length : Int) ≤ 20 := by omega
    have a4 : ps.length ≤ 1000 := by omega
    by_cases h1 : 3 ≤ ps.length
    · have a1 : (3 : Int) ≤ ps.length := by omega
      simp [brT_ok, Tree.ok, h, h1, a1, a3, a4]
    · have a1 : ¬ (3 : Int) ≤ ps.length := by omega
      simp [brT_ok, Tree.ok, h, h1, a1]
def pRng : List DArg → Option (Value × List Prop)
  | [.row m (.ints xs)] => some (.bool (rngQ (ptsA m xs)), [m * 2 ≤ xs.length, m ≤ 1000000000])
  | _ => none
theorem pRng_ok {ds : List DArg} {v : Value} {C : List Prop} (h : pRng ds = some (v, C)) (hC : AllP C) : Res Try.prog 102 ds v := by
  unfold pRng at h
  split at h
  · rename_i m xs
    obtain ⟨rfl, rfl⟩ : _ ∧ _ := by simpa using h
    obtain ⟨_, h2⟩ := ptsA_spec hC.1
    exact res_pts1 (pre := []) (post := []) hC.1 (res_sRng (ptsA m xs) (by unfold Big; rw [h2]; exact hC.2.1))
  · cases h
def TIt : Tab := fun f ds => match f with
  | 102 => pRng ds
  | f => TIs f ds
theorem TIt_ok : TabOk Try.prog TIt := by
  intro f ds v C h hC
  unfold TIt at h
  (try split at h)
  all_goals first | with_reducible exact pRng_ok h hC | exact TIs_ok _ _ _ _ h hC
def EIt : Env := mkE TIt RCe (fun _ => noL)
theorem EIt_ok : EnvOk Try.prog EIt := mkEOk TIt_ok RCe_ok (fun _ _ _ => noL_good)
def edX (ps : List Pt) (i k : Nat) : Int := relA (ps.getD i (0, 0)).1 (ps.getD i (0, 0)).2 (nxP ps i).1 (nxP ps i).2 (ps.getD k (0, 0)).1 (ps.getD k (0, 0)).2 (nxP ps k).1 (nxP ps k).2
def nbS (ps : List Pt) (i k : Nat) : Bool := decide (k + 1 = i) || decide ((i + 1) % ps.length = k)
def okS (ps : List Pt) (i k : Nat) : Bool := bif nbS ps i k then !(edX ps i k == 3) else edX ps i k == 0
def rowS (ps : List Pt) (i : Nat) : Bool := allQ (okS ps i) 0 i
def simS (ps : List Pt) : Bool := allQ (rowS ps) 0 ps.length
theorem pt_get {ps : List Pt} (h : allV ps = true) {j : Nat} (hj : j < ps.length) : ptB (ps.getD j (0, 0)).1 (ps.getD j (0, 0)).2 = true := List.all_eq_true.1 h (ps.getD j (0, 0)) (by simp [hj])
noncomputable def c_ssI : Code := ((loopsOf (codeOf Try.f78))[1]?).getD .skip
def k_ssI : Ex → List Nat := keeps [0, 3, 4, 5] [(2, [0, 3, 4]), (1, [0, 3, 4])] [2]
def s_ssI (ps : List Pt) (i : Nat) : Nat → St := fun k => ⟨(ß 0 ps.length ps.length :: topV :: topV :: .int .i64 ps.length :: .int .i64 i :: .int .i64 k :: ω49 []), [some ⟨.view, .ints (flat ps)⟩]⟩
def re_ssI (ps : List Pt) (i : Nat) : Nat → Ex := fun k => bif allQ (okS ps i) k (i - k) then .exit 2 else .ret
def rs_ssI (ps : List Pt) (i : Nat) : Nat → St := fun k => bif allQ (okS ps i) k (i - k) then ⟨(ß 0 ps.length ps.length :: topV :: topV :: .int .i64 ps.length :: .int .i64 i :: ω50 []), [some ⟨.view, .ints (flat ps)⟩]⟩ else ⟨(topV :: topV :: .bool false :: ω52 []), [some ⟨.view, .ints (flat ps)⟩]⟩
set_option maxRecDepth 100000 in
theorem tr_ssI (ps : List Pt) (i : Nat) (k : Nat) : bodyL Try.prog EIt 30 12 noL 2 c_ssI k_ssI 1 (s_ssI ps i k) = brT (decide ((↑k : Int) < (↑i : Int))) (.need ((0 : Int) ≤ (↑i : Int) ∧ (↑i : Int) < (↑ps.length : Int)) (.need ((0 : Nat) + (↑i : Int).toNat * (2 : Nat) + (2 : Nat) ≤ (flat ps).length) (.need (¬(↑ps.length : Int) = (0 : Int)) (.need ((0 : Int) ≤ (ŵ ((↑i : Int) + (1 : Int))).tmod (↑ps.length : Int) ∧ (ŵ ((↑i : Int) + (1 : Int))).tmod (↑ps.length : Int) < (↑ps.length : Int)) (.need ((0 : Nat) + ((ŵ ((↑i : Int) + (1 : Int))).tmod (↑ps.length : Int)).toNat * (2 : Nat) + (2 : Nat) ≤ (flat ps).length) (.need ((0 : Int) ≤ (↑k : Int) ∧ (↑k : Int) < (↑ps.length : Int)) (.need ((0 : Nat) + (↑k : Int).toNat * (2 : Nat) + (2 : Nat) ≤ (flat ps).length) (.need (¬(↑ps.length : Int) = (0 : Int)) (.need ((0 : Int) ≤ (ŵ ((↑k : Int) + (1 : Int))).tmod (↑ps.length : Int) ∧ (ŵ ((↑k : Int) + (1 : Int))).tmod (↑ps.length : Int) < (↑ps.length : Int)) (.need ((0 : Nat) + ((ŵ ((↑k : Int) + (1 : Int))).tmod (↑ps.length : Int)).toNat * (2 : Nat) + (2 : Nat) ≤ (flat ps).length) (.need (ptB ((flat ps).getD ((0 : Nat) + (↑i : Int).toNat * (2 : Nat)) (0 : Int)) ((flat ps).getD ((0 : Nat) + (↑i : Int).toNat * (2 : Nat) + (1 : Nat)) (0 : Int)) = true) (.need (ptB ((flat ps).getD ((0 : Nat) + ((ŵ ((↑i : Int) + (1 : Int))).tmod (↑ps.length : Int)).toNat * (2 : Nat)) (0 : Int)) ((flat ps).getD ((0 : Nat) + ((ŵ ((↑i : Int) + (1 : Int))).tmod (↑ps.length : Int)).toNat * (2 : Nat) + (1 : Nat)) (0 : Int)) = true) (.need (ptB ((flat ps).getD ((0 : Nat) + (↑k : Int).toNat * (2 : Nat)) (0 : Int)) ((flat ps).getD ((0 : Nat) + (↑k : Int).toNat * (2 : Nat) + (1 : Nat)) (0 : Int)) = true) (.need (ptB ((flat ps).getD ((0 : Nat) + ((ŵ ((↑k : Int) + (1 : Int))).tmod (↑ps.length : Int)).toNat * (2 : Nat)) (0 : Int)) ((flat ps).getD ((0 : Nat) + ((ŵ ((↑k : Int) + (1 : Int))).tmod (↑ps.length : Int)).toNat * (2 : Nat) + (1 : Nat)) (0 : Int)) = true) (brT (ŵ ((↑k : Int) + 1) == (↑i : Int)) (brT (relA ((flat ps).getD (0 + (↑i : Int).toNat * 2) 0) ((flat ps).getD (0 + (↑i : Int).toNat * 2 + 1) 0) ((flat ps).getD (0 + ((ŵ ((↑i : Int) + 1)).tmod (↑ps.length : Int)).toNat * 2) 0) ((flat ps).getD (0 + ((ŵ ((↑i : Int) + 1)).tmod (↑ps.length : Int)).toNat * 2 + 1) 0) ((flat ps).getD (0 + (↑k : Int).toNat * 2) 0) ((flat ps).getD (0 + (↑k : Int).toNat * 2 + 1) 0) ((flat ps).getD (0 + ((ŵ ((↑k : Int) + 1)).tmod (↑ps.length : Int)).toNat * 2) 0) ((flat ps).getD (0 + ((ŵ ((↑k : Int) + 1)).tmod (↑ps.length : Int)).toNat * 2 + 1) 0) == 3) (.leaf .ret ⟨(topV :: topV :: .bool (false) :: ω52 []), [some ⟨.view, .ints (flat ps)⟩]⟩) (.leaf .normal ⟨(ß 0 (ps.length) (ps.length) :: topV :: topV :: .int .i64 ((↑ps.length : Int)) :: .int .i64 ((↑i : Int)) :: .int .i64 (ŵ ((↑k : Int) + 1)) :: ω49 []), [some ⟨.view, .ints (flat ps)⟩]⟩)) (.need (¬(↑ps.length : Int) = (0 : Int)) (brT ((ŵ ((↑i : Int) + 1)).tmod (↑ps.length : Int) == (↑k : Int)) (brT (relA ((flat ps).getD (0 + (↑i : Int).toNat * 2) 0) ((flat ps).getD (0 + (↑i : Int).toNat * 2 + 1) 0) ((flat ps).getD (0 + ((ŵ ((↑i : Int) + 1)).tmod (↑ps.length : Int)).toNat * 2) 0) ((flat ps).getD (0 + ((ŵ ((↑i : Int) + 1)).tmod (↑ps.length : Int)).toNat * 2 + 1) 0) ((flat ps).getD (0 + (↑k : Int).toNat * 2) 0) ((flat ps).getD (0 + (↑k : Int).toNat * 2 + 1) 0) ((flat ps).getD (0 + ((ŵ ((↑k : Int) + 1)).tmod (↑ps.length : Int)).toNat * 2) 0) ((flat ps).getD (0 + ((ŵ ((↑k : Int) + 1)).tmod (↑ps.length : Int)).toNat * 2 + 1) 0) == 3) (.leaf .ret ⟨(topV :: topV :: .bool (false) :: ω52 []), [some ⟨.view, .ints (flat ps)⟩]⟩) (brT (!(ŵ ((↑i : Int) + 1)).tmod (↑ps.length : Int) == (↑k : Int)) (brT (!relA ((flat ps).getD (0 + (↑i : Int).toNat * 2) 0) ((flat ps).getD (0 + (↑i : Int).toNat * 2 + 1) 0) ((flat ps).getD (0 + ((ŵ ((↑i : Int) + 1)).tmod (↑ps.length : Int)).toNat * 2) 0) ((flat ps).getD (0 + ((ŵ ((↑i : Int) + 1)).tmod (↑ps.length : Int)).toNat * 2 + 1) 0) ((flat ps).getD (0 + (↑k : Int).toNat * 2) 0) ((flat ps).getD (0 + (↑k : Int).toNat * 2 + 1) 0) ((flat ps).getD (0 + ((ŵ ((↑k : Int) + 1)).tmod (↑ps.length : Int)).toNat * 2) 0) ((flat ps).getD (0 + ((ŵ ((↑k : Int) + 1)).tmod (↑ps.length : Int)).toNat * 2 + 1) 0) == 0) (.leaf .ret ⟨(topV :: topV :: .bool (false) :: ω52 []), [some ⟨.view, .ints (flat ps)⟩]⟩) (.leaf .normal ⟨(ß 0 (ps.length) (ps.length) :: topV :: topV :: .int .i64 ((↑ps.length : Int)) :: .int .i64 ((↑i : Int)) :: .int .i64 (ŵ ((↑k : Int) + 1)) :: ω49 []), [some ⟨.view, .ints (flat ps)⟩]⟩)) (.leaf .normal ⟨(ß 0 (ps.length) (ps.length) :: topV :: topV :: .int .i64 ((↑ps.length : Int)) :: .int .i64 ((↑i : Int)) :: .int .i64 (ŵ ((↑k : Int) + 1)) :: ω49 []), [some ⟨.view, .ints (flat ps)⟩]⟩))) (brT (!(ŵ ((↑i : Int) + 1)).tmod (↑ps.length : Int) == (↑k : Int)) (brT (!relA ((flat ps).getD (0 + (↑i : Int).toNat * 2) 0) ((flat ps).getD (0 + (↑i : Int).toNat * 2 + 1) 0) ((flat ps).getD (0 + ((ŵ ((↑i : Int) + 1)).tmod (↑ps.length : Int)).toNat * 2) 0) ((flat ps).getD (0 + ((ŵ ((↑i : Int) + 1)).tmod (↑ps.length : Int)).toNat * 2 + 1) 0) ((flat ps).getD (0 + (↑k : Int).toNat * 2) 0) ((flat ps).getD (0 + (↑k : Int).toNat * 2 + 1) 0) ((flat ps).getD (0 + ((ŵ ((↑k : Int) + 1)).tmod (↑ps.length : Int)).toNat * 2) 0) ((flat ps).getD (0 + ((ŵ ((↑k : Int) + 1)).tmod (↑ps.length : Int)).toNat * 2 + 1) 0) == 0) (.leaf .ret ⟨(topV :: topV :: .bool (false) :: ω52 []), [some ⟨.view, .ints (flat ps)⟩]⟩) (.leaf .normal ⟨(ß 0 (ps.length) (ps.length) :: topV :: topV :: .int .i64 ((↑ps.length : Int)) :: .int .i64 ((↑i : Int)) :: .int .i64 (ŵ ((↑k : Int) + 1)) :: ω49 []), [some ⟨.view, .ints (flat ps)⟩]⟩)) (.leaf .normal ⟨(ß 0 (ps.length) (ps.length) :: topV :: topV :: .int .i64 ((↑ps.length : Int)) :: .int .i64 ((↑i : Int)) :: .int .i64 (ŵ ((↑k : Int) + 1)) :: ω49 []), [some ⟨.view, .ints (flat ps)⟩]⟩))))))))))))))))))) (.leaf (.exit 2) ⟨(ß 0 (ps.length) (ps.length) :: topV :: topV :: .int .i64 ((↑ps.length : Int)) :: .int .i64 ((↑i : Int)) :: ω50 []), [some ⟨.view, .ints (flat ps)⟩]⟩) := by kernel_rfl
set_option maxRecDepth 100000 in
theorem nl_ssI : loopsOf c_ssI = [] := by kernel_rfl
def inv_ssI (ps : List Pt) (i : Nat) : Nat → Prop := fun k => k ≤ i
def me_ssI (ps : List Pt) (i : Nat) : Nat → Nat := fun k => i - k
def Round_ssI (ps : List Pt) (i : Nat) : Prop := ∀ xx : Nat, inv_ssI ps i xx → (bodyL Try.prog EIt 30 12 noL 2 c_ssI k_ssI 1 (s_ssI ps i xx)).ok (RoundEnd 1 (s_ssI ps i) (inv_ssI ps i) (me_ssI ps i) (re_ssI ps i) (rs_ssI ps i) xx) (fun _ _ => False)
def e_ssI (s : St) (k : Ex → St → Tree) : Option Tree := match Nat.beq s.tmps.length 55, pickL s.tmps [0, 3, 4, 5], s.mem with
  | true, [ß 0 n _, .int .i64 l, .int .i64 ii, .int .i64 kk], [some ⟨.view, .ints xs⟩] => some (needs [kk = 0, l = n, xs.length = n * 2, n ≤ 20, allV (ptsA n xs) = true, 0 ≤ ii, ii < n] (brT (allQ (okS (ptsA n xs) ii.toNat) 0 ii.toNat) (k (.exit 2) ⟨(ß 0 n n :: topV :: topV :: .int .i64 n :: .int .i64 ii :: ω50 []), [some ⟨.view, .ints xs⟩]⟩) (k .ret ⟨(topV :: topV :: .bool false :: ω52 []), [some ⟨.view, .ints xs⟩]⟩)))
  | _, _, _ => none
set_option maxRecDepth 100000 in
theorem round_ssI (ps : List Pt) (i : Nat) (h : ps.length ≤ 20) (hv : allV ps = true) (hi : i < ps.length) : Round_ssI ps i := by
  intro k h1
  have h1 : k ≤ i := h1
  rw [tr_ssI]
  simp only [Int.toNat_natCast, Nat.zero_add, flat_length, flat_get0, flat_get1]
  refine brT_ok.2 ⟨fun hlt => ?_, fun hge => ?_⟩
  · have hlt := of_decide_eq_true hlt
    have hk : k < ps.length := by omega
    have m1 := nx_lt hi
    have m2 := nx_lt hk
    have e2 : ŵ ((k : Int) + 1) = ((k + 1 : Nat) : Int) := wsucc hk (by omega)
    have c1 : (ŵ ((k : Int) + 1) == (i : Int)) = decide (k + 1 = i) := by rw [e2, Bool.eq_iff_iff]; simp; omega
    have c3 : ((((i + 1) % ps.length : Nat) : Int) == (k : Int)) = decide ((i + 1) % ps.length = k) := by
      generalize (i + 1) % ps.length = m
      rw [Bool.eq_iff_iff]
      simp
      omega
    simp only [nx_mod hi (by omega), nx_mod hk (by omega), c1, c3, Int.toNat_natCast, flat_get0, flat_get1]
    have hR : relA (ps.getD i (0, 0)).1 (ps.getD i (0, 0)).2 (ps.getD ((i + 1) % ps.length) (0, 0)).1 (ps.getD ((i + 1) % ps.length) (0, 0)).2 (ps.getD k (0, 0)).1 (ps.getD k (0, 0)).2 (ps.getD ((k + 1) % ps.length) (0, 0)).1 (ps.getD ((k + 1) % ps.length) (0, 0)).2 = edX ps i k := rfl
    simp only [hR, e2]
    refine ⟨by omega, by omega, by omega, by omega, by omega, by omega, by omega, by omega, by omega, by omega, pt_get hv hi, pt_get hv m1, pt_get hv hk, pt_get hv m2, ?_⟩
    have n0 : ¬ (ps.length : Int) = 0 := by omega
    have step : allQ (okS ps i) k (i - k) = (okS ps i k && allQ (okS ps i) (k + 1) (i - (k + 1))) := allQ_step (by omega)
    have nxt : okS ps i k = true → allQ (okS ps i) k (i - k) = allQ (okS ps i) (k + 1) (i - (k + 1)) := fun ho => by rw [step, ho, Bool.true_and]
    have stp : okS ps i k = false → allQ (okS ps i) k (i - k) = false := fun ho => by rw [step, ho, Bool.false_and]
    rcases q1 : decide (k + 1 = i) with _ | _ <;> rcases q3 : decide ((i + 1) % ps.length = k) with _ | _ <;> rcases q4 : (edX ps i k == 3) with _ | _ <;> rcases q5 : (edX ps i k == 0) with _ | _
    all_goals
      simp only [brT_t, brT_f, Bool.not_true, Bool.not_false, Tree.ok, RoundEnd]
      try refine ⟨n0, ?_⟩
      first
        | (have ho : okS ps i k = true := by unfold okS nbS; rw [q1, q3]; simp [q4, q5]
           have e := nxt ho
           refine ⟨k + 1, [], ?_, ?_, by simp only [re_ssI, e], by simp only [rs_ssI, e], ?_⟩
           · show k + 1 ≤ i; omega
           · show i - (k + 1) < i - k; omega
           · refine ⟨rfl, rfl, ?_, ?_⟩ <;> repeat' (first | exact True.intro | exact rfl | exact wv_top _ _ | exact fun _ => rfl | refine And.intro ?_ ?_))
        | (have ho : okS ps i k = false := by unfold okS nbS; rw [q1, q3]; simp [q4, q5]
           have e := stp ho
           refine ⟨by simp only [re_ssI, e, cond_false], [], ?_⟩
           simp only [rs_ssI, e, cond_false]
           refine ⟨rfl, rfl, ?_, ?_⟩ <;> repeat' (first | exact True.intro | exact rfl | exact wv_top _ _ | exact fun _ => rfl | refine And.intro ?_ ?_))
  · have hge := of_decide_eq_false hge
    obtain rfl : k = i := by omega
    have e : allQ (okS ps k) k (k - k) = true := allQ_end (by omega)
    refine ⟨by simp only [re_ssI, e, cond_true], [], ?_⟩
    simp only [rs_ssI, e, cond_true]
    refine ⟨rfl, rfl, ?_, ?_⟩ <;> repeat' (first | exact True.intro | exact rfl | exact wv_top _ _ | exact fun _ => rfl | refine And.intro ?_ ?_)
set_option maxRecDepth 100000 in
theorem lg_ssI : LoopE Try.prog e_ssI c_ssI := by
  intro s k t F H hlt ht
  unfold e_ssI at hlt
  split at hlt
  rotate_left
  · cases hlt
  rename_i hlen hpick hmem
  obtain ⟨tmps, mem⟩ := s
  simp only at hlen hpick hmem
  subst hmem
  obtain rfl := Option.some.inj hlt
  obtain ⟨⟨rfl, rfl, h1, h2, h3, h4, h5, _⟩, ht2⟩ := needs_ok ht
  clear ht hlt
  obtain ⟨ps, rfl, rfl⟩ := even_flat h1
  obtain ⟨i, rfl⟩ := Int.eq_ofNat_of_zero_le h4
  rw [ptsA_flat] at ht2 h3
  simp only [Int.toNat_natCast] at ht2
  refine ⟨_, _, pick2k ht2, loop_run mixed EIt_ok (s_ssI _ _) (inv_ssI _ _) (me_ssI _ _) (re_ssI _ _) (rs_ssI _ _) k_ssI (fun _ => rfl) (noLoops nl_ssI) (round_ssI _ _ h2 h3 (by omega)) (x := 0) (Nat.zero_le _) (π := []) rfl ?_⟩
  refine ⟨rfl, rfl, ?_, wvs_spread' [0, 3, 4, 5] hlen rfl ?_⟩
  · repeat' (first | exact True.intro | exact rfl | exact wv_top _ _ | exact fun _ => rfl | assumption | exact Eq.symm (by assumption) | exact vI0 rfl | refine And.intro ?_ ?_)
  · rw [hpick]
    repeat' (first | exact True.intro | exact rfl | exact wv_top _ _ | exact fun _ => rfl | assumption | exact Eq.symm (by assumption) | exact vI0 rfl | refine And.intro ?_ ?_)
def ltSs : LT := fun j s k => match j with
  | 1 => e_ssI s k
  | _ => none
noncomputable def c_ssO : Code := ((loopsOf (codeOf Try.f78))[0]?).getD .skip
def k_ssO : Ex → List Nat := keeps [0, 3, 4] [(0, [])] [2]
def s_ssO (ps : List Pt) : Nat → St := fun i => ⟨(ß 0 ps.length ps.length :: topV :: topV :: .int .i64 ps.length :: .int .i64 i :: ω50 []), [some ⟨.view, .ints (flat ps)⟩]⟩
def re_ssO (ps : List Pt) : Nat → Ex := fun i => bif allQ (rowS ps) i (ps.length - i) then .exit 0 else .ret
def rs_ssO (ps : List Pt) : Nat → St := fun i => bif allQ (rowS ps) i (ps.length - i) then ⟨(ω55 []), [some ⟨.view, .ints (flat ps)⟩]⟩ else ⟨(topV :: topV :: .bool false :: ω52 []), [some ⟨.view, .ints (flat ps)⟩]⟩
set_option maxRecDepth 100000 in
theorem tr_ssO (ps : List Pt) (i : Nat) : bodyL Try.prog EIt 30 12 ltSs 1 c_ssO k_ssO 1 (s_ssO ps i) = brT (decide ((↑i : Int) < (↑ps.length : Int))) (.need ((0 : Int) = (0 : Int)) (.need ((↑ps.length : Int) = (↑ps.length : Int)) (.need ((flat ps).length = ps.length * (2 : Nat)) (.need (ps.length ≤ (20 : Nat)) (.need (allV (ptsA ps.length (flat ps)) = true) (.need ((0 : Int) ≤ (↑i : Int)) (.need ((↑i : Int) < (↑ps.length : Int)) (brT (allQ (okS (ptsA ps.length (flat ps)) (↑i : Int).toNat) 0 (↑i : Int).toNat) (.leaf .normal ⟨(ß 0 (ps.length) (ps.length) :: topV :: topV :: .int .i64 ((↑ps.length : Int)) :: .int .i64 (ŵ ((↑i : Int) + 1)) :: ω50 []), [some ⟨.view, .ints (flat ps)⟩]⟩) (.leaf .ret ⟨(topV :: topV :: .bool (false) :: ω52 []), [some ⟨.view, .ints (flat ps)⟩]⟩))))))))) (.leaf (.exit 0) ⟨(ω55 []), [some ⟨.view, .ints (flat ps)⟩]⟩) := by kernel_rfl
def inv_ssO (ps : List Pt) : Nat → Prop := fun i => i ≤ ps.length
def me_ssO (ps : List Pt) : Nat → Nat := fun i => ps.length - i
def Round_ssO (ps : List Pt) : Prop := ∀ xx : Nat, inv_ssO ps xx → (bodyL Try.prog EIt 30 12 ltSs 1 c_ssO k_ssO 1 (s_ssO ps xx)).ok (RoundEnd 1 (s_ssO ps) (inv_ssO ps) (me_ssO ps) (re_ssO ps) (rs_ssO ps) xx) (fun _ _ => False)
def e_ssO (s : St) (k : Ex → St → Tree) : Option Tree := match Nat.beq s.tmps.length 55, pickL s.tmps [0, 3, 4], s.mem with
  | true, [ß 0 n _, .int .i64 l, .int .i64 ii], [some ⟨.view, .ints xs⟩] => some (needs [ii = 0, l = n, xs.length = n * 2, n ≤ 20, allV (ptsA n xs) = true] (brT (simS (ptsA n xs)) (k (.exit 0) ⟨(ω55 []), [some ⟨.view, .ints xs⟩]⟩) (k .ret ⟨(topV :: topV :: .bool false :: ω52 []), [some ⟨.view, .ints xs⟩]⟩)))
  | _, _, _ => none
set_option maxRecDepth 100000 in
theorem in_ssO : loopsOf c_ssO = [c_ssI] := by kernel_rfl
theorem ltSs_good : LoopsGood Try.prog ltSs 1 c_ssO := by
  intro i d hd s k t F H hlt ht
  rw [in_ssO] at hd
  cases i with
  | zero =>
    obtain rfl : c_ssI = d := by simpa using hd
    exact lg_ssI s k t F H hlt ht
  | succ i => simp at hd
set_option maxRecDepth 100000 in
theorem round_ssO (ps : List Pt) (h : ps.length ≤ 20) (hv : allV ps = true) : Round_ssO ps := by
  intro i h1
  have h1 : i ≤ ps.length := h1
  rw [tr_ssO]
  simp only [Int.toNat_natCast, Nat.zero_add, flat_length, flat_get0, flat_get1, ptsA_flat]
  refine brT_ok.2 ⟨fun hlt => ?_, fun hge => ?_⟩
  · have hlt := of_decide_eq_true hlt
    have hi : i < ps.length := by omega
    have step : allQ (rowS ps) i (ps.length - i) = (rowS ps i && allQ (rowS ps) (i + 1) (ps.length - (i + 1))) := allQ_step (by omega)
    refine ⟨by first | exact True.intro | rfl, by first | exact True.intro | rfl, by first | exact True.intro | rfl, h, hv, by omega, by omega, ?_⟩
    refine brT_ok.2 ⟨fun hq => ?_, fun hq => ?_⟩
    · have hq : rowS ps i = true := hq
      have e : allQ (rowS ps) i (ps.length - i) = allQ (rowS ps) (i + 1) (ps.length - (i + 1)) := by rw [step, hq, Bool.true_and]
      rw [wsucc (n := ps.length) hi (by omega)]
      refine ⟨i + 1, [], ?_, ?_, by simp only [re_ssO, e], by simp only [rs_ssO, e], ?_⟩
      · show i + 1 ≤ ps.length; omega
      · show ps.length - (i + 1) < ps.length - i; omega
      · refine ⟨rfl, rfl, ?_, ?_⟩ <;> repeat' (first | exact True.intro | exact rfl | exact wv_top _ _ | exact fun _ => rfl | refine And.intro ?_ ?_)
    · have hq : rowS ps i = false := hq
      have e : allQ (rowS ps) i (ps.length - i) = false := by rw [step, hq, Bool.false_and]
      refine ⟨by simp only [re_ssO, e, cond_false], [], ?_⟩
      simp only [rs_ssO, e, cond_false]
      refine ⟨rfl, rfl, ?_, ?_⟩ <;> repeat' (first | exact True.intro | exact rfl | exact wv_top _ _ | exact fun _ => rfl | refine And.intro ?_ ?_)
  · have hge := of_decide_eq_false hge
    obtain rfl : i = ps.length := by omega
    have e : allQ (rowS ps) ps.length (ps.length - ps.length) = true := allQ_end (by omega)
    refine ⟨by simp only [re_ssO, e, cond_true], [], ?_⟩
    simp only [rs_ssO, e, cond_true]
    refine ⟨rfl, rfl, ?_, ?_⟩ <;> repeat' (first | exact True.intro | exact rfl | exact wv_top _ _ | exact fun _ => rfl | refine And.intro ?_ ?_)
set_option maxRecDepth 100000 in
theorem lg_ssO : LoopE Try.prog e_ssO c_ssO := by
  intro s k t F H hlt ht
  unfold e_ssO at hlt
  split at hlt
  rotate_left
  · cases hlt
  rename_i hlen hpick hmem
  obtain ⟨tmps, mem⟩ := s
  simp only at hlen hpick hmem
  subst hmem
  obtain rfl := Option.some.inj hlt
  obtain ⟨⟨rfl, rfl, h1, h2, h3, _⟩, ht2⟩ := needs_ok ht
  clear ht hlt
  obtain ⟨ps, rfl, rfl⟩ := even_flat h1
  rw [ptsA_flat] at ht2 h3
  refine ⟨_, _, pick2k ht2, loop_run mixed EIt_ok (s_ssO _) (inv_ssO _) (me_ssO _) (re_ssO _) (rs_ssO _) k_ssO (fun _ => rfl) ltSs_good (round_ssO _ h2 h3) (x := 0) (Nat.zero_le _) (π := []) rfl ?_⟩
  refine ⟨rfl, rfl, ?_, wvs_spread' [0, 3, 4] hlen rfl ?_⟩
  · repeat' (first | exact True.intro | exact rfl | exact wv_top _ _ | exact fun _ => rfl | assumption | exact Eq.symm (by assumption) | exact vI0 rfl | refine And.intro ?_ ?_)
  · rw [hpick]
    repeat' (first | exact True.intro | exact rfl | exact wv_top _ _ | exact fun _ => rfl | assumption | exact Eq.symm (by assumption) | exact vI0 rfl | refine And.intro ?_ ?_)
theorem Lr_ssO {fn : Func} (hf : Try.prog.funcs[78]? = some fn) : LoopsGood Try.prog (lt1 e_ssO) 0 (codeOf fn) := by
  obtain rfl := fn_is Try.func78 hf
  exact lt1_good lg_ssO
theorem relA_end {a b c d e f g h : Int} {z : Pt} (h1 : z = (a, b) ∨ z = (c, d)) (h2 : z = (e, f) ∨ z = (g, h)) : relA a b c d e f g h = 1 ∨ relA a b c d e f g h = 3 := by
  have hm : z ∈ ceS a b c d e f g h := by
    rw [ce_mem]
    refine ⟨?_, by rcases h1 with h1 | h1 <;> simp [h1]⟩
    unfold onB
    have k1 : hasB a b c d z.1 z.2 = true := by
      rcases h1 with rfl | rfl
      · exact hasB_a ..
      · exact hasB_b ..
    have k2 : hasB e f g h z.1 z.2 = true := by
      rcases h2 with rfl | rfl
      · exact hasB_a ..
      · exact hasB_b ..
    rw [k1, k2]
    rfl
  have hl : 0 < (ceS a b c d e f g h).length := List.length_pos_of_mem hm
  unfold relA relN
  split
  · exact .inr rfl
  · rw [if_pos (by omega)]
    exact .inl rfl
theorem edX_comm (ps : List Pt) (i k : Nat) : edX ps i k = edX ps k i := relA_comm ..
theorem edX_end {ps : List Pt} {i k : Nat} {z : Pt} (h1 : z = ps.getD i (0, 0) ∨ z = nxP ps i) (h2 : z = ps.getD k (0, 0) ∨ z = nxP ps k) : edX ps i k = 1 ∨ edX ps i k = 3 := relA_end h1 h2
def sgQ (ps : List Pt) (i : Nat) : Bool := segB (ps.getD i (0, 0)).1 (ps.getD i (0, 0)).2 (nxP ps i).1 (nxP ps i).2
theorem edR_is (ps : List Pt) (i k : Nat) : edR ps i k = bif sgQ ps i && sgQ ps k then edX ps i k else -1 := rfl
theorem sgQ_iff {ps : List Pt} (h : allV ps = true) {i : Nat} (hi : i < ps.length) : sgQ ps i = true ↔ ps.getD i (0, 0) ≠ nxP ps i := by
  unfold sgQ segB
  have h1 := pt_get h hi
  have h2 : ptB (nxP ps i).1 (nxP ps i).2 = true := pt_get h (nx_lt hi)
  rw [h1, h2]
  simp only [eqB, Bool.true_and, Bool.not_eq_true', ne_eq]
  generalize ps.getD i (0, 0) = p
  generalize nxP ps i = q
  obtain ⟨a, b⟩ := p
  obtain ⟨c, d⟩ := q
  simp
theorem nx_of {ps : List Pt} {i k : Nat} (hk : k < ps.length) (h : nbS ps i k = true) (hi : i < ps.length) : (nxP ps k = ps.getD i (0, 0)) ∨ (nxP ps i = ps.getD k (0, 0)) := by
  unfold nbS at h
  simp only [Bool.or_eq_true, decide_eq_true_eq] at h
  unfold nxP
  rcases h with h | h
  · left
    rw [h, Nat.mod_eq_of_lt hi]
  · right
    rw [h]
theorem nb_end {ps : List Pt} {i k : Nat} (hi : i < ps.length) (hk : k < ps.length) (h : nbS ps i k = true) : edX ps i k = 1 ∨ edX ps i k = 3 := by
  rcases nx_of hk h hi with e | e
  · exact edX_end (z := ps.getD i (0, 0)) (.inl rfl) (.inr e.symm)
  · exact edX_end (z := ps.getD k (0, 0)) (.inr e.symm) (.inl rfl)
theorem nbQ_is (ps : List Pt) (i k : Nat) : nbQ ps i k = nbS ps k i := by
  unfold nbQ nbS
  congr 1
  exact decide_eq_decide.2 eq_comm
theorem nodup_get {ps : List Pt} : ps.Nodup ↔ ∀ i j, i < j → j < ps.length → ps.getD i (0, 0) ≠ ps.getD j (0, 0) := by
  unfold List.Nodup
  rw [List.pairwise_iff_getElem]
  constructor
  · intro h i j hij hj
    have := h i j (by omega) hj hij
    simpa [List.getD_eq_getElem?_getD, hj, show i < ps.length by omega] using this
  · intro h i j hi hj hij
    have := h i j hij hj
    simpa [List.getD_eq_getElem?_getD, hj, hi] using this
theorem next_ne {n i : Nat} (h : 3 ≤ n) (hi : i < n) : (i + 1) % n ≠ i := by
  rcases Nat.lt_or_ge (i + 1) n with h1 | h1
  · rw [Nat.mod_eq_of_lt h1]; omega
  · have : i + 1 = n := by omega
    rw [this, Nat.mod_self]
    omega
theorem sim_is {ps : List Pt} (hv : allV ps = true) (h3 : 3 ≤ ps.length) : simQ ps = (((srtL ps).length == ps.length) && simS ps) := by
  rw [Bool.eq_iff_iff]
  simp only [Bool.and_eq_true, beq_iff_eq, srtL_len]
  constructor
  · intro h
    have hE : ∀ i k, i < k → k < ps.length → edR ps i k = bif nbQ ps i k then 1 else 0 := fun i k h1 h2 => by
      have r := allQ_get _ _ h i (Nat.zero_le _) (by omega)
      have r2 := allQ_get _ _ r k (Nat.zero_le _) (by omega)
      unfold okE at r2
      rw [decide_eq_true h1] at r2
      simpa using r2
    have hne : ∀ i k, i < k → k < ps.length → sgQ ps i = true ∧ sgQ ps k = true := fun i k h1 h2 => by
      have := hE i k h1 h2
      rw [edR_is] at this
      rcases q : (sgQ ps i && sgQ ps k) with _ | _
      · rw [q] at this
        rcases q3 : nbQ ps i k with _ | _ <;> rw [q3] at this <;> simp at this
      · simpa using q
    have sg : ∀ i, i < ps.length → sgQ ps i = true := fun i hi => by
      rcases Nat.eq_zero_or_pos i with rfl | h0
      · exact (hne 0 1 (by omega) (by omega)).1
      · exact (hne 0 i h0 hi).2
    have hX : ∀ i k, i < k → k < ps.length → edX ps i k = bif nbQ ps i k then 1 else 0 := fun i k h1 h2 => by
      have := hE i k h1 h2
      rw [edR_is, sg i (by omega), sg k h2] at this
      exact this
    constructor
    · rw [nodup_get]
      intro i j hij hj e
      have hi : i < ps.length := by omega
      rcases q : nbQ ps i j with _ | _
      · have := hX i j hij hj
        rw [q] at this
        have k := edX_end (ps := ps) (i := i) (k := j) (z := ps.getD i (0, 0)) (.inl rfl) (.inl e)
        simp at this
        omega
      · rw [nbQ_is] at q
        rcases nx_of hi q hj with e2 | e2
        · exact (sgQ_iff hv hi).1 (sg i hi) (e.trans e2.symm)
        · exact (sgQ_iff hv hj).1 (sg j hj) (e.symm.trans e2.symm)
    · refine allQ_all _ _ fun i _ hi => allQ_all _ _ fun k _ hk => ?_
      have hi : i < ps.length := by omega
      have hk : k < i := by omega
      have := hX k i hk hi
      rw [nbQ_is, edX_comm] at this
      unfold okS
      rw [this]
      cases nbS ps i k <;> rfl
  · rintro ⟨hn, h⟩
    rw [nodup_get] at hn
    have sg : ∀ i, i < ps.length → sgQ ps i = true := fun i hi => by
      rw [sgQ_iff hv hi]
      have h1 := next_ne h3 hi
      have h2 := nx_lt hi
      unfold nxP
      rcases Nat.lt_or_ge i ((i + 1) % ps.length) with h4 | h4
      · exact hn _ _ h4 h2
      · exact fun e => hn _ _ (by omega) hi e.symm
    refine allQ_all _ _ fun i _ hi => allQ_all _ _ fun k _ hk => ?_
    unfold okE
    rcases q : decide (i < k) with _ | _
    · rfl
    have q := of_decide_eq_true q
    have hi : i < ps.length := by omega
    have hk : k < ps.length := by omega
    have r := allQ_get _ _ h k (Nat.zero_le _) (by omega)
    have r2 := allQ_get _ _ r i (Nat.zero_le _) (by omega)
    rw [edR_is, sg i hi, sg k hk, nbQ_is, edX_comm]
    unfold okS at r2
    rcases q2 : nbS ps k i with _ | _
    · rw [q2] at r2
      simpa using r2
    · rw [q2] at r2
      have k2 := nb_end hk hi q2
      simp at r2
      have e : edX ps k i = 1 := by omega
      simp [e]
def issS (ps : List Pt) : Bool := rngQ ps && simS ps
theorem iss_same (ps : List Pt) : issI ps = issS ps := by
  unfold issI issS rngQ
  rcases ho : okL ps with _ | _
  · simp
  by_cases h3 : 3 ≤ ps.length
  · have hv : allV ps = true := by
      unfold okL at ho
      simp only [Bool.and_eq_true] at ho
      exact ho.1
    rw [sim_is hv h3]
    simp [h3]
  · simp [h3]
def LSs : FuncId → LT := fun f => match f with
  | 78 => lt1 e_ssO
  | _ => noL
def ESs : Env := mkE TIt RCe LSs
theorem ESs_ok : EnvOk Try.prog ESs := mkEOk TIt_ok RCe_ok (by
  intro f fn hf
  unfold LSs
  split
  all_goals first | with_reducible exact Lr_ssO hf | exact noL_good)
set_option maxRecDepth 100000 in
theorem tr_sSim (ps : List Pt) : bodyV Try.prog ESs 30 12 78 [.row ps.length (.ints (flat ps))] = .need (ps.length * (2 : Nat) ≤ (List.drop 0 (flat ps)).length) (.need (ps.length ≤ (1000000000 : Nat)) (brT (!rngQ (ptsA ps.length (List.drop 0 (flat ps)))) (.fin (.bool (false)) []) (.need ((0 : Int) = (0 : Int)) (.need ((↑ps.length : Int) = (↑ps.length : Int)) (.need ((flat ps).length = ps.length * (2 : Nat)) (.need (ps.length ≤ (20 : Nat)) (.need (allV (ptsA ps.length (flat ps)) = true) (brT (simS (ptsA ps.length (flat ps))) (.fin (.bool (true)) []) (.fin (.bool (false)) []))))))))) := by kernel_rfl
theorem res_sSim (ps : List Pt) (h : Big ps) : Res Try.prog 78 [.row ps.length (.ints (flat ps))] (.bool (issI ps)) := by
  rw [iss_same]
  refine bodyV_res mixed ESs_ok (m := 30) (n := 12) rfl ?_
  rw [tr_sSim]
  unfold Big at h
  simp only [List.drop_zero, ptsA_flat, flat_length]
  unfold issS
  rcases hr : rngQ ps with _ | _
  · simp [brT_ok, Tree.ok, h]
  · have hl : ps.length ≤ 20 ∧ allV ps = true := by
      unfold rngQ okL at hr
      simp only [Bool.and_eq_true, decide_eq_true_eq] at hr
      exact ⟨hr.1.1.2, hr.1.1.1⟩
    rcases hs : simS ps with _ | _ <;> simp [brT_ok, Tree.ok, h, hl.1, hl.2]
def pIss : List DArg → Option (Value × List Prop)
  | [.row m (.ints xs)] => some (.bool (issI (ptsA m xs)), [m * 2 ≤ xs.length, m ≤ 1000000000])
  | _ => none
theorem pIss_i {ds : List DArg} {v : Value} {C : List Prop} (h : pIss ds = some (v, C)) (hC : AllP C) : Res Try.prog 10 ds v := by
  unfold pIss at h
  split at h
  · rename_i m xs
    obtain ⟨rfl, rfl⟩ : _ ∧ _ := by simpa using h
    obtain ⟨_, h2⟩ := ptsA_spec hC.1
    exact res_pts1 (pre := []) (post := []) hC.1 (res_iIss (ptsA m xs) (by unfold Big; rw [h2]; exact hC.2.1))
  · cases h
theorem pIss_s {ds : List DArg} {v : Value} {C : List Prop} (h : pIss ds = some (v, C)) (hC : AllP C) : Res Try.prog 78 ds v := by
  unfold pIss at h
  split at h
  · rename_i m xs
    obtain ⟨rfl, rfl⟩ : _ ∧ _ := by simpa using h
    obtain ⟨_, h2⟩ := ptsA_spec hC.1
    exact res_pts1 (pre := []) (post := []) hC.1 (res_sSim (ptsA m xs) (by unfold Big; rw [h2]; exact hC.2.1))
  · cases h
def TSm : Tab := fun f ds => match f with
  | 10 => pIss ds
  | 78 => pIss ds
  | f => TIt f ds
theorem TSm_ok : TabOk Try.prog TSm := by
  intro f ds v C h hC
  unfold TSm at h
  (try split at h)
  all_goals first | with_reducible exact pIss_i h hC | with_reducible exact pIss_s h hC | exact TIt_ok _ _ _ _ h hC
def nx2 (ps : List Pt) (j : Nat) : Pt := ps.getD ((j + 2) % ps.length) (0, 0)
def cvE (ps : List Pt) (j : Nat) : Bool := decide (0 < crossI (ps.getD j (0, 0)).1 (ps.getD j (0, 0)).2 (nxP ps j).1 (nxP ps j).2 (nx2 ps j).1 (nx2 ps j).2)
def cvA (ps : List Pt) : Bool := allQ (cvE ps) 0 ps.length
def cvxI (ps : List Pt) : Bool := issI ps && cvA ps
def ECv : Env := mkE TSm R4 (fun _ => noL)
theorem ECv_ok : EnvOk Try.prog ECv := mkEOk TSm_ok R4_ok (fun _ _ _ => noL_good)
noncomputable def gc_cvx : Code := (rangesOf (codeOf Try.f8)).getD 0 .skip
def k_cvx : Ex → List Nat := keeps [1, 2, 9] [] [2]
def s_cvx (ps : List Pt) : Nat → St := fun i => ⟨(topV :: .pointer (some ⟨1, 0, none⟩) :: .pointer (some ⟨2, 0, none⟩) :: ω6 .func (.func 75) #[] #[.pointer (some ⟨3, 0, none⟩)] :: ω16 []), [some ⟨.view, .ints (flat ps)⟩, some ⟨.box, .vals [ß 0 ps.length ps.length]⟩, some ⟨.box, .vals [.bool false]⟩, some ⟨.view, .vals [ß 0 ps.length ps.length]⟩]⟩
def g_cvx (ps : List Pt) : Nat → Prop := fun i => i ≤ ps.length ∧ ∀ k, k < i → cvE ps k = true
def re_cvx (ps : List Pt) : Ex := bif cvA ps then .normal else .ret
def rs_cvx (ps : List Pt) : St := bif cvA ps then ⟨(topV :: topV :: .pointer (some ⟨2, 0, none⟩) :: ω23 []), [some ⟨.view, .ints (flat ps)⟩, some ⟨.box, .vals [ß 0 ps.length ps.length]⟩, some ⟨.box, .vals [.bool false]⟩, some ⟨.view, .vals [ß 0 ps.length ps.length]⟩]⟩ else ⟨(topV :: topV :: .pointer (some ⟨2, 0, none⟩) :: ω23 []), [some ⟨.view, .ints (flat ps)⟩, some ⟨.box, .vals [ß 0 ps.length ps.length]⟩, some ⟨.box, .vals [.bool false]⟩, some ⟨.view, .vals [ß 0 ps.length ps.length]⟩]⟩
set_option maxRecDepth 100000 in
theorem tr_cvx (ps : List Pt) (i : Nat) : bodyR Try.prog ECv 30 12 noL noR (asgOf gc_cvx) (bodOf gc_cvx) ([10, 11].zip (encE ps i)) k_cvx 4 (s_cvx ps i) = .need (ptB (ps.getD i ((0 : Int), (0 : Int))).1 (ps.getD i ((0 : Int), (0 : Int))).2 = true) (.need (ptB (ps.getD ((i + (1 : Nat)) % ps.length) ((0 : Int), (0 : Int))).1 (ps.getD ((i + (1 : Nat)) % ps.length) ((0 : Int), (0 : Int))).2 = true) (.need (ptB ((flat ps).getD ((0 : Nat) + ((ŵ ((↑i : Int) + (2 : Int))).tmod (↑ps.length : Int)).toNat * (2 : Nat)) (0 : Int)) ((flat ps).getD ((0 : Nat) + ((ŵ ((↑i : Int) + (2 : Int))).tmod (↑ps.length : Int)).toNat * (2 : Nat) + (1 : Nat)) (0 : Int)) = true) (.need (¬(↑ps.length : Int) = (0 : Int)) (.need ((0 : Int) ≤ (ŵ ((↑i : Int) + (2 : Int))).tmod (↑ps.length : Int) ∧ (ŵ ((↑i : Int) + (2 : Int))).tmod (↑ps.length : Int) < (↑ps.length : Int)) (.need ((0 : Nat) + ((ŵ ((↑i : Int) + (2 : Int))).tmod (↑ps.length : Int)).toNat * (2 : Nat) + (2 : Nat) ≤ (flat ps).length) (brT (decide (crossI (ps.getD i (0, 0)).1 (ps.getD i (0, 0)).2 (ps.getD ((i + 1) % ps.length) (0, 0)).1 (ps.getD ((i + 1) % ps.length) (0, 0)).2 ((flat ps).getD (0 + ((ŵ ((↑i : Int) + 2)).tmod (↑ps.length : Int)).toNat * 2) 0) ((flat ps).getD (0 + ((ŵ ((↑i : Int) + 2)).tmod (↑ps.length : Int)).toNat * 2 + 1) 0) ≤ 0)) (.leaf .ret ⟨(topV :: topV :: .pointer (some ⟨2, 0, none⟩) :: ω23 []), [some ⟨.view, .ints (flat ps)⟩, some ⟨.box, .vals [ß 0 (ps.length) (ps.length)]⟩, some ⟨.box, .vals [.bool (false)]⟩, some ⟨.view, .vals [ß 0 (ps.length) (ps.length)]⟩]⟩) (.leaf .normal ⟨(topV :: .pointer (some ⟨1, 0, none⟩) :: .pointer (some ⟨2, 0, none⟩) :: ω6 .func (Fn.func 75) #[] #[.pointer (some ⟨3, 0, none⟩)] :: ω16 []), [some ⟨.view, .ints (flat ps)⟩, some ⟨.box, .vals [ß 0 (ps.length) (ps.length)]⟩, some ⟨.box, .vals [.bool (false)]⟩, some ⟨.view, .vals [ß 0 (ps.length) (ps.length)]⟩]⟩))))))) := by kernel_rfl
def Round_cvx (ps : List Pt) : Prop := ∀ i : Nat, g_cvx ps i → i < (ps).length → (bodyR Try.prog ECv 30 12 noL noR (asgOf gc_cvx) (bodOf gc_cvx) ([10, 11].zip (encE ps i)) k_cvx 4 (s_cvx ps i)).ok (RoundEndR 4 (s_cvx ps) (g_cvx ps) (re_cvx ps) (rs_cvx ps) i) (fun _ _ => False)
set_option maxRecDepth 100000 in
theorem gcode_cvx : gc_cvx = .rangeFunc (.tmp 9) ([10, 11] : List Nat).toArray (asgOf gc_cvx) (bodOf gc_cvx) := by kernel_rfl
def e_cvx (s : St) (k : Ex → St → Tree) : Option Tree := match Nat.beq s.tmps.length 26, pickL s.tmps [1, 2, 9], s.mem with
  | true, [.pointer (some ⟨1, 0, none⟩), .pointer (some ⟨2, 0, none⟩), .func (.func 75) ⟨[]⟩ ⟨[.pointer (some ⟨3, 0, none⟩)]⟩], [some ⟨.view, .ints xs⟩, some ⟨.box, .vals [ß 0 n _]⟩, some ⟨.box, .vals [.bool false]⟩, some ⟨.box, .vals [ß 0 n1 _]⟩] => some (needs [n1 = n, xs.length = n * 2, allV (ptsA n xs) = true, n ≤ 20] (brT (cvA (ptsA n xs)) (k .normal ⟨(topV :: topV :: .pointer (some ⟨2, 0, none⟩) :: ω23 []), [some ⟨.view, .ints xs⟩, some ⟨.box, .vals [ß 0 n n]⟩, some ⟨.box, .vals [.bool false]⟩, some ⟨.view, .vals [ß 0 n n]⟩]⟩) (k .ret ⟨(topV :: topV :: .pointer (some ⟨2, 0, none⟩) :: ω23 []), [some ⟨.view, .ints xs⟩, some ⟨.box, .vals [ß 0 n n]⟩, some ⟨.box, .vals [.bool false]⟩, some ⟨.view, .vals [ß 0 n n]⟩]⟩)))
  | _, _, _ => none
set_option maxRecDepth 100000 in
theorem round_cvx (ps : List Pt) (hv : allV ps = true) (h : ps.length ≤ 20) : Round_cvx ps := by
  rintro i ⟨_, hg⟩ hi
  rw [tr_cvx]
  have hm := nx_lt hi
  have e2 : (ŵ ((i : Int) + 2)).tmod (ps.length : Int) = (((i + 2) % ps.length : Nat) : Int) := by
    rw [show (i : Int) + 2 = ((i + 2 : Nat) : Int) by omega, wr (by omega), Int.tmod_eq_emod_of_nonneg (by omega)]
    omega
  have h2 : (i + 2) % ps.length < ps.length := Nat.mod_lt _ (by omega)
  rw [e2]
  simp only [Int.toNat_natCast, Nat.zero_add, flat_get0, flat_get1, flat_length]
  refine ⟨pt_get hv hi, pt_get hv hm, pt_get hv h2, by omega, by omega, by omega, brT_ok.2 ⟨fun q => ?_, fun q => ?_⟩⟩
  · have q : crossI (ps.getD i (0, 0)).1 (ps.getD i (0, 0)).2 (nxP ps i).1 (nxP ps i).2 (nx2 ps i).1 (nx2 ps i).2 ≤ 0 := of_decide_eq_true q
    have hs : cvA ps = false := allQ_no hi (by unfold cvE; exact decide_eq_false (by omega))
    refine ⟨by unfold re_cvx; rw [hs]; rfl, [], ?_⟩
    unfold rs_cvx
    rw [hs]
    refine ⟨rfl, rfl, ?_, ?_⟩ <;> repeat' (first | exact True.intro | exact rfl | exact wv_top _ _ | exact fun _ => rfl | refine And.intro ?_ ?_)
  · have q : ¬ crossI (ps.getD i (0, 0)).1 (ps.getD i (0, 0)).2 (nxP ps i).1 (nxP ps i).2 (nx2 ps i).1 (nx2 ps i).2 ≤ 0 := of_decide_eq_false q
    have ho : cvE ps i = true := decide_eq_true (by omega)
    refine ⟨⟨by omega, fun k hk => ?_⟩, [], ?_⟩
    · rcases Nat.lt_or_ge k i with h1 | h1
      · exact hg k h1
      · obtain rfl : k = i := by omega
        exact ho
    · refine ⟨rfl, rfl, ?_, ?_⟩ <;> repeat' (first | exact True.intro | exact rfl | exact wv_top _ _ | exact fun _ => rfl | refine And.intro ?_ ?_)
attribute [local irreducible] bodyR
set_option maxRecDepth 100000 in
theorem lg_cvx : RangeE Try.prog e_cvx gc_cvx := by
  intro s k t F H hlt ht
  unfold e_cvx at hlt
  split at hlt
  rotate_left
  · cases hlt
  rename_i hlen hpick hmem
  obtain ⟨tmps, mem⟩ := s
  simp only at hlen hpick hmem
  subst hmem
  obtain rfl := Option.some.inj hlt
  obtain ⟨⟨rfl, h1, h2, h3, _⟩, ht2⟩ := needs_ok ht
  clear ht hlt
  obtain ⟨ps, rfl, rfl⟩ := even_flat h1
  rw [ptsA_flat] at ht2 h2
  refine ⟨re_cvx ps, rs_cvx ps, pick2k ht2, ?_⟩
  rw [gcode_cvx]
  refine range_det (enc := encE ps) (len := (ps).length) (St_of := s_cvx ps) (Good := g_cvx ps) (N := 4) (M := 4) (Kn := [0, 3]) (cap := [.pointer (some ⟨3, 0, none⟩)]) (kf := (k_cvx .normal)) (π := []) (fun _ => rfl) (fun _ => rfl) (fun i hg hlt => bodyR_ok mixed ECv_ok (noL_good) (noR_good) (round_cvx ps h2 h3 i hg hlt)) (entersB_res (by kernel_rfl)).1 rfl ?_ (fun ρ0 ρ B w lb h1 h2 => ed_iter ps (by omega) (s := (s_cvx ps 0).fs) (nb := 3) (nr := 0) (c := (ps).length) (Kn := [0, 3]) rfl rfl (by decide) (by decide) ρ0 ρ B w lb h1 h2) ?_ rfl (by decide) ?_ ⟨Nat.zero_le _, fun k hk => by omega⟩
  · intro n hn b hb
    simp only [List.mem_cons, List.not_mem_nil, or_false] at hn
    rcases hn with rfl | rfl <;> (obtain rfl := Option.some.inj hb; rfl)
  · rintro ⟨_, hg⟩
    have hq : cvA ps = true := allQ_all _ _ fun k _ h2 => hg k (by omega)
    refine ⟨by unfold re_cvx; rw [hq]; rfl, [], ?_⟩
    unfold rs_cvx
    rw [hq]
    refine ⟨rfl, rfl, ?_, ?_⟩ <;> repeat' (first | exact True.intro | exact rfl | exact wv_top _ _ | exact fun _ => rfl | refine And.intro ?_ ?_)
  · refine ⟨rfl, rfl, ?_, wvs_spread' [1, 2, 9] hlen rfl ?_⟩
    · repeat' (first | exact True.intro | exact rfl | exact wv_top _ _ | exact fun _ => rfl | assumption | exact Eq.symm (by assumption) | exact vI0 rfl | refine And.intro ?_ ?_)
    · rw [show pickL (viewS [0, 3] ⟨tmps, _⟩).tmps [1, 2, 9] = pickL tmps [1, 2, 9] from rfl, hpick]
      repeat' (first | exact True.intro | exact rfl | exact wv_top _ _ | exact fun _ => rfl | assumption | exact Eq.symm (by assumption) | exact vI0 rfl | refine And.intro ?_ ?_)
theorem Gr_cvx {fn : Func} (hf : Try.prog.funcs[8]? = some fn) : RangesGood Try.prog (rt1 9 e_cvx) (codeOf fn) := by
  obtain rfl := fn_is Try.func8 hf
  exact rt1_good (by kernel_rfl) lg_cvx
def GCv : FuncId → RT := fun f => match f with
  | 8 => rt1 9 e_cvx
  | _ => noR
def ECg : Env := withG ECv GCv
theorem ECg_ok : EnvOk Try.prog ECg := withG_ok ECv_ok (by
  intro f fn hf
  unfold GCv
  split
  all_goals first | with_reducible exact Gr_cvx hf | exact noR_good)
set_option maxRecDepth 100000 in
theorem tr_iCvx (ps : List Pt) : bodyV Try.prog ECg 30 12 8 [.row ps.length (.ints (flat ps))] = .need (ps.length * (2 : Nat) ≤ (List.drop 0 (flat ps)).length) (.need (ps.length ≤ (1000000000 : Nat)) (brT (!issI (ptsA ps.length (List.drop 0 (flat ps)))) (.fin (.bool (false)) []) (.need (ps.length = ps.length) (.need ((flat ps).length = ps.length * (2 : Nat)) (.need (allV (ptsA ps.length (flat ps)) = true) (.need (ps.length ≤ (20 : Nat)) (brT (cvA (ptsA ps.length (flat ps))) (.fin (.bool (true)) []) (.fin (.bool (false)) [])))))))) := by kernel_rfl
theorem cv_ok2 {ps : List Pt} (h : issI ps = true) : allV ps = true ∧ ps.length ≤ 20 := by
  unfold issI okL at h
  simp only [Bool.and_eq_true, decide_eq_true_eq] at h
  exact ⟨h.1.2.1, h.1.2.2⟩
theorem res_iCvx (ps : List Pt) (h : Big ps) : Res Try.prog 8 [.row ps.length (.ints (flat ps))] (.bool (cvxI ps)) := by
  refine bodyV_res mixed ECg_ok (m := 30) (n := 12) rfl ?_
  rw [tr_iCvx]
  unfold Big at h
  simp only [List.drop_zero, ptsA_flat, flat_length]
  unfold cvxI
  rcases hs : issI ps with _ | _
  · simp [brT_ok, Tree.ok, h]
  · obtain ⟨h1, h2⟩ := cv_ok2 hs
    rcases hc : cvA ps with _ | _ <;> simp [brT_ok, Tree.ok, h, h1, h2]
noncomputable def c_scv : Code := ((loopsOf (codeOf Try.f37))[0]?).getD .skip
def k_scv : Ex → List Nat := keeps [0, 3] [(0, [])] [2]
def s_scv (ps : List Pt) : Nat → St := fun i => ⟨(ß 0 ps.length ps.length :: topV :: topV :: .int .i64 i :: ω31 []), [some ⟨.view, .ints (flat ps)⟩]⟩
def re_scv (ps : List Pt) : Nat → Ex := fun i => bif allQ (cvE ps) i (ps.length - i) then .exit 0 else .ret
def rs_scv (ps : List Pt) : Nat → St := fun i => bif allQ (cvE ps) i (ps.length - i) then ⟨(ω35 []), [some ⟨.view, .ints (flat ps)⟩]⟩ else ⟨(topV :: topV :: .bool false :: ω32 []), [some ⟨.view, .ints (flat ps)⟩]⟩
set_option maxRecDepth 100000 in
theorem tr_scv (ps : List Pt) (i : Nat) : bodyL Try.prog ECv 30 12 noL 1 c_scv k_scv 1 (s_scv ps i) = brT (decide ((↑i : Int) < (↑ps.length : Int))) (.need (ptB ((flat ps).getD ((0 : Nat) + (↑i : Int).toNat * (2 : Nat)) (0 : Int)) ((flat ps).getD ((0 : Nat) + (↑i : Int).toNat * (2 : Nat) + (1 : Nat)) (0 : Int)) = true) (.need (ptB ((flat ps).getD ((0 : Nat) + ((ŵ ((↑i : Int) + (1 : Int))).tmod (↑ps.length : Int)).toNat * (2 : Nat)) (0 : Int)) ((flat ps).getD ((0 : Nat) + ((ŵ ((↑i : Int) + (1 : Int))).tmod (↑ps.length : Int)).toNat * (2 : Nat) + (1 : Nat)) (0 : Int)) = true) (.need (ptB ((flat ps).getD ((0 : Nat) + ((ŵ ((↑i : Int) + (2 : Int))).tmod (↑ps.length : Int)).toNat * (2 : Nat)) (0 : Int)) ((flat ps).getD ((0 : Nat) + ((ŵ ((↑i : Int) + (2 : Int))).tmod (↑ps.length : Int)).toNat * (2 : Nat) + (1 : Nat)) (0 : Int)) = true) (.need ((0 : Int) ≤ (↑i : Int) ∧ (↑i : Int) < (↑ps.length : Int)) (.need ((0 : Nat) + (↑i : Int).toNat * (2 : Nat) + (2 : Nat) ≤ (flat ps).length) (.need (¬(↑ps.length : Int) = (0 : Int)) (.need ((0 : Int) ≤ (ŵ ((↑i : Int) + (1 : Int))).tmod (↑ps.length : Int) ∧ (ŵ ((↑i : Int) + (1 : Int))).tmod (↑ps.length : Int) < (↑ps.length : Int)) (.need ((0 : Nat) + ((ŵ ((↑i : Int) + (1 : Int))).tmod (↑ps.length : Int)).toNat * (2 : Nat) + (2 : Nat) ≤ (flat ps).length) (.need (¬(↑ps.length : Int) = (0 : Int)) (.need ((0 : Int) ≤ (ŵ ((↑i : Int) + (2 : Int))).tmod (↑ps.length : Int) ∧ (ŵ ((↑i : Int) + (2 : Int))).tmod (↑ps.length : Int) < (↑ps.length : Int)) (.need ((0 : Nat) + ((ŵ ((↑i : Int) + (2 : Int))).tmod (↑ps.length : Int)).toNat * (2 : Nat) + (2 : Nat) ≤ (flat ps).length) (brT (decide (crossI ((flat ps).getD (0 + (↑i : Int).toNat * 2) 0) ((flat ps).getD (0 + (↑i : Int).toNat * 2 + 1) 0) ((flat ps).getD (0 + ((ŵ ((↑i : Int) + 1)).tmod (↑ps.length : Int)).toNat * 2) 0) ((flat ps).getD (0 + ((ŵ ((↑i : Int) + 1)).tmod (↑ps.length : Int)).toNat * 2 + 1) 0) ((flat ps).getD (0 + ((ŵ ((↑i : Int) + 2)).tmod (↑ps.length : Int)).toNat * 2) 0) ((flat ps).getD (0 + ((ŵ ((↑i : Int) + 2)).tmod (↑ps.length : Int)).toNat * 2 + 1) 0) ≤ 0)) (.leaf .ret ⟨(topV :: topV :: .bool (false) :: ω32 []), [some ⟨.view, .ints (flat ps)⟩]⟩) (.leaf .normal ⟨(ß 0 (ps.length) (ps.length) :: topV :: topV :: .int .i64 (ŵ ((↑i : Int) + 1)) :: ω31 []), [some ⟨.view, .ints (flat ps)⟩]⟩))))))))))))) (.leaf (.exit 0) ⟨(ω35 []), [some ⟨.view, .ints (flat ps)⟩]⟩) := by kernel_rfl
set_option maxRecDepth 100000 in
theorem nl_scv : loopsOf c_scv = [] := by kernel_rfl
def inv_scv (ps : List Pt) : Nat → Prop := fun i => i ≤ ps.length
def me_scv (ps : List Pt) : Nat → Nat := fun i => ps.length - i
def Round_scv (ps : List Pt) : Prop := ∀ xx : Nat, inv_scv ps xx → (bodyL Try.prog ECv 30 12 noL 1 c_scv k_scv 1 (s_scv ps xx)).ok (RoundEnd 1 (s_scv ps) (inv_scv ps) (me_scv ps) (re_scv ps) (rs_scv ps) xx) (fun _ _ => False)
def e_scv (s : St) (k : Ex → St → Tree) : Option Tree := match Nat.beq s.tmps.length 35, pickL s.tmps [0, 3], s.mem with
  | true, [ß 0 n _, .int .i64 i], [some ⟨.view, .ints xs⟩] => some (needs [i = 0, xs.length = n * 2, allV (ptsA n xs) = true, n ≤ 20] (brT (cvA (ptsA n xs)) (k (.exit 0) ⟨(ω35 []), [some ⟨.view, .ints xs⟩]⟩) (k .ret ⟨(topV :: topV :: .bool false :: ω32 []), [some ⟨.view, .ints xs⟩]⟩)))
  | _, _, _ => none
set_option maxRecDepth 100000 in
theorem round_scv (ps : List Pt) (hv : allV ps = true) (h : ps.length ≤ 20) : Round_scv ps := by
  intro i h1
  have h1 : i ≤ ps.length := h1
  rw [tr_scv]
  simp only [Int.toNat_natCast, Nat.zero_add, flat_length, flat_get0, flat_get1]
  refine brT_ok.2 ⟨fun hlt => ?_, fun hge => ?_⟩
  · have hlt := of_decide_eq_true hlt
    have hi : i < ps.length := by omega
    have hm := nx_lt hi
    have h2 : (i + 2) % ps.length < ps.length := Nat.mod_lt _ (by omega)
    have e2 : (ŵ ((i : Int) + 2)).tmod (ps.length : Int) = (((i + 2) % ps.length : Nat) : Int) := by
      rw [show (i : Int) + 2 = ((i + 2 : Nat) : Int) by omega, wr (by omega), Int.tmod_eq_emod_of_nonneg (by omega)]
      omega
    simp only [nx_mod hi (by omega), e2, Int.toNat_natCast, flat_get0, flat_get1]
    simp only [wsucc (n := ps.length) hi (by omega)]
    have step : allQ (cvE ps) i (ps.length - i) = (cvE ps i && allQ (cvE ps) (i + 1) (ps.length - (i + 1))) := allQ_step (by omega)
    refine ⟨pt_get hv hi, pt_get hv hm, pt_get hv h2, by omega, by omega, by omega, by omega, by omega, by omega, by omega, by omega, brT_ok.2 ⟨fun q => ?_, fun q => ?_⟩⟩
    · have q : crossI (ps.getD i (0, 0)).1 (ps.getD i (0, 0)).2 (nxP ps i).1 (nxP ps i).2 (nx2 ps i).1 (nx2 ps i).2 ≤ 0 := of_decide_eq_true q
      have hc : cvE ps i = false := by unfold cvE; exact decide_eq_false (by omega)
      have e : allQ (cvE ps) i (ps.length - i) = false := by rw [step, hc]; rfl
      refine ⟨by simp only [re_scv, e, cond_false], [], ?_⟩
      simp only [rs_scv, e, cond_false]
      refine ⟨rfl, rfl, ?_, ?_⟩ <;> repeat' (first | exact True.intro | exact rfl | exact wv_top _ _ | exact fun _ => rfl | refine And.intro ?_ ?_)
    · have q : ¬ crossI (ps.getD i (0, 0)).1 (ps.getD i (0, 0)).2 (nxP ps i).1 (nxP ps i).2 (nx2 ps i).1 (nx2 ps i).2 ≤ 0 := of_decide_eq_false q
      have hc : cvE ps i = true := by unfold cvE; exact decide_eq_true (by omega)
      have e0 : allQ (cvE ps) i (ps.length - i) = allQ (cvE ps) (i + 1) (ps.length - (i + 1)) := by rw [step, hc]; rfl
      refine ⟨i + 1, [], ?_, ?_, by simp only [re_scv, e0], by simp only [rs_scv, e0], ?_⟩
      · show i + 1 ≤ ps.length; omega
      · show ps.length - (i + 1) < ps.length - i; omega
      · refine ⟨rfl, rfl, ?_, ?_⟩ <;> repeat' (first | exact True.intro | exact rfl | exact wv_top _ _ | exact fun _ => rfl | refine And.intro ?_ ?_)
  · have hge := of_decide_eq_false hge
    obtain rfl : i = ps.length := by omega
    have e : allQ (cvE ps) ps.length (ps.length - ps.length) = true := allQ_end (by omega)
    refine ⟨by simp only [re_scv, e, cond_true], [], ?_⟩
    simp only [rs_scv, e, cond_true]
    refine ⟨rfl, rfl, ?_, ?_⟩ <;> repeat' (first | exact True.intro | exact rfl | exact wv_top _ _ | exact fun _ => rfl | refine And.intro ?_ ?_)
set_option maxRecDepth 100000 in
theorem lg_scv : LoopE Try.prog e_scv c_scv := by
  intro s k t F H hlt ht
  unfold e_scv at hlt
  split at hlt
  rotate_left
  · cases hlt
  rename_i hlen hpick hmem
  obtain ⟨tmps, mem⟩ := s
  simp only at hlen hpick hmem
  subst hmem
  obtain rfl := Option.some.inj hlt
  obtain ⟨⟨rfl, h1, h2, h3, _⟩, ht2⟩ := needs_ok ht
  clear ht hlt
  obtain ⟨ps, rfl, rfl⟩ := even_flat h1
  rw [ptsA_flat] at ht2 h2
  refine ⟨_, _, pick2k ht2, loop_run mixed ECv_ok (s_scv ps) (inv_scv ps) (me_scv ps) (re_scv ps) (rs_scv ps) k_scv (fun _ => rfl) (noLoops nl_scv) (round_scv ps h2 h3) (x := 0) (Nat.zero_le _) (π := []) rfl ?_⟩
  refine ⟨rfl, rfl, ?_, wvs_spread' [0, 3] hlen rfl ?_⟩
  · repeat' (first | exact True.intro | exact rfl | exact wv_top _ _ | exact fun _ => rfl | assumption | exact Eq.symm (by assumption) | exact vI0 rfl | refine And.intro ?_ ?_)
  · rw [hpick]
    repeat' (first | exact True.intro | exact rfl | exact wv_top _ _ | exact fun _ => rfl | assumption | exact Eq.symm (by assumption) | exact vI0 rfl | refine And.intro ?_ ?_)
theorem Lr_scv {fn : Func} (hf : Try.prog.funcs[37]? = some fn) : LoopsGood Try.prog (lt1 e_scv) 0 (codeOf fn) := by
  obtain rfl := fn_is Try.func37 hf
  exact lt1_good lg_scv
def LCv : FuncId → LT := fun f => match f with
  | 37 => lt1 e_scv
  | _ => noL
def ECs : Env := mkE TSm R4 LCv
theorem ECs_ok : EnvOk Try.prog ECs := mkEOk TSm_ok R4_ok (by
  intro f fn hf
  unfold LCv
  split
  all_goals first | with_reducible exact Lr_scv hf | exact noL_good)
set_option maxRecDepth 100000 in
theorem tr_sCvx (ps : List Pt) : bodyV Try.prog ECs 30 12 37 [.row ps.length (.ints (flat ps))] = .need (ps.length * (2 : Nat) ≤ (List.drop 0 (flat ps)).length) (.need (ps.length ≤ (1000000000 : Nat)) (brT (!issI (ptsA ps.length (List.drop 0 (flat ps)))) (.fin (.bool (false)) []) (.need ((0 : Int) = (0 : Int)) (.need ((flat ps).length = ps.length * (2 : Nat)) (.need (allV (ptsA ps.length (flat ps)) = true) (.need (ps.length ≤ (20 : Nat)) (brT (cvA (ptsA ps.length (flat ps))) (.fin (.bool (true)) []) (.fin (.bool (false)) [])))))))) := by kernel_rfl
theorem res_sCvx (ps : List Pt) (h : Big ps) : Res Try.prog 37 [.row ps.length (.ints (flat ps))] (.bool (cvxI ps)) := by
  refine bodyV_res mixed ECs_ok (m := 30) (n := 12) rfl ?_
  rw [tr_sCvx]
  unfold Big at h
  simp only [List.drop_zero, ptsA_flat, flat_length]
  unfold cvxI
  rcases hs : issI ps with _ | _
  · simp [brT_ok, Tree.ok, h]
  · obtain ⟨h1, h2⟩ := cv_ok2 hs
    rcases hc : cvA ps with _ | _ <;> simp [brT_ok, Tree.ok, h, h1, h2]
def pCvx : List DArg → Option (Value × List Prop)
  | [.row m (.ints xs)] => some (.bool (cvxI (ptsA m xs)), [m * 2 ≤ xs.length, m ≤ 1000000000])
  | _ => none
theorem pCvx_ok {f : FuncId} (H : ∀ ps : List Pt, Big ps → Res Try.prog f [.row ps.length (.ints (flat ps))] (.bool (cvxI ps))) {ds : List DArg} {v : Value} {C : List Prop} (h : pCvx ds = some (v, C)) (hC : AllP C) : Res Try.prog f ds v := by
  unfold pCvx at h
  split at h
  · rename_i m xs
    obtain ⟨rfl, rfl⟩ : _ ∧ _ := by simpa using h
    obtain ⟨_, h2⟩ := ptsA_spec hC.1
    exact res_pts1 (pre := []) (post := []) hC.1 (H (ptsA m xs) (by unfold Big; rw [h2]; exact hC.2.1))
  · cases h
def TCv : Tab := fun f ds => match f with
  | 8 => pCvx ds
  | 37 => pCvx ds
  | f => TSm f ds
theorem TCv_ok : TabOk Try.prog TCv := by
  intro f ds v C h hC
  unfold TCv at h
  (try split at h)
  all_goals first | with_reducible exact pCvx_ok res_iCvx h hC | with_reducible exact pCvx_ok res_sCvx h hC | exact TSm_ok _ _ _ _ h hC
def ECw : Env := mkE TCv R4 (fun _ => noL)
theorem ECw_ok : EnvOk Try.prog ECw := mkEOk TCv_ok R4_ok (fun _ _ _ => noL_good)
set_option maxRecDepth 100000 in
theorem tr_SCvx (ps : List Pt) : bodyV Try.prog ECw 30 12 9 [.row ps.length (.ints (flat ps))] = .need (ps.length * (2 : Nat) ≤ (List.drop 0 (flat ps)).length) (.need (ps.length ≤ (1000000000 : Nat)) (.fin (.bool (cvxI (ptsA ps.length (List.drop 0 (flat ps))))) [])) := by kernel_rfl
theorem res_SCvx (ps : List Pt) (h : Big ps) : Res Try.prog 9 [.row ps.length (.ints (flat ps))] (.bool (cvxI ps)) := by
  refine bodyV_res mixed ECw_ok (m := 30) (n := 12) rfl ?_
  rw [tr_SCvx]
  unfold Big at h
  simp only [List.drop_zero, ptsA_flat, flat_length]
  simp [Tree.ok, h]
def TCx : Tab := fun f ds => match f with
  | 9 => pCvx ds
  | f => TCv f ds
theorem TCx_ok : TabOk Try.prog TCx := by
  intro f ds v C h hC
  unfold TCx at h
  (try split at h)
  all_goals first | with_reducible exact pCvx_ok res_SCvx h hC | exact TCv_ok _ _ _ _ h hC
def posV (u : Pt) : Prop := 0 < u.1 ∨ u.1 = 0 ∧ 0 < u.2
def cr2 (u v : Pt) : Int := u.1 * v.2 - u.2 * v.1
def dif (b a : Pt) : Pt := (b.1 - a.1, b.2 - a.2)
theorem cr_tr {u v w : Pt} (hu : posV u) (hv : posV v) (hw : posV w) (h1 : 0 ≤ cr2 u v) (h2 : 0 ≤ cr2 v w) : 0 ≤ cr2 u w ∧ (0 < cr2 u v ∨ 0 < cr2 v w → 0 < cr2 u w) := by
  obtain ⟨a, b⟩ := u
  obtain ⟨c, d⟩ := v
  obtain ⟨e, f⟩ := w
  unfold posV cr2 at *
  simp only at *
  rcases hv with hc | ⟨rfl, hd⟩
  · have ha : 0 < a := by
      rcases hu with h | ⟨rfl, hb⟩
      · exact h
      · have := Int.mul_pos hb hc
        omega
    rcases hw with he | ⟨rfl, hf⟩
    · have id : c * (a * f - b * e) = a * (c * f - d * e) + e * (a * d - b * c) := by grind
      have n1 := Int.mul_nonneg (Int.le_of_lt ha) h2
      have n2 := Int.mul_nonneg (Int.le_of_lt he) h1
      generalize a * f - b * e = X at *
      refine ⟨?_, fun h => ?_⟩
      · rcases Int.lt_or_le X 0 with h | h
        · have := Int.mul_neg_of_pos_of_neg hc h
          omega
        · exact h
      · rcases Int.lt_or_le 0 X with h' | h'
        · exact h'
        · have := Int.mul_nonpos_of_nonneg_of_nonpos (Int.le_of_lt hc) h'
          rcases h with h | h
          · have := Int.mul_pos he h
            omega
          · have := Int.mul_pos ha h
            omega
    · have := Int.mul_pos ha hf
      omega
  · have he : e = 0 ∧ 0 < f := by
      rcases hw with h | h
      · have := Int.mul_pos hd h
        omega
      · exact h
    obtain ⟨rfl, hf⟩ := he
    have ha : 0 ≤ a := by omega
    have n1 := Int.mul_nonneg ha (Int.le_of_lt hf)
    refine ⟨by omega, fun h => ?_⟩
    have : 0 < a := by
      rcases Int.lt_or_le 0 a with h' | h'
      · exact h'
      · obtain rfl : a = 0 := by omega
        omega
    have := Int.mul_pos this hf
    omega
theorem plt_pos {a b : Pt} : pltB a b = true ↔ posV (dif b a) := by
  rw [pltB_iff]
  unfold posV dif
  simp only
  omega
theorem oP_tri (a b : Pt) : a = b ∨ pltB a b = true ∨ pltB b a = true := by
  obtain ⟨a1, a2⟩ := a
  obtain ⟨b1, b2⟩ := b
  simp only [pltB_iff, Prod.mk.injEq]
  omega
theorem oP_trans {a b c : Pt} (h1 : pltB a b = true) (h2 : pltB b c = true) : pltB a c = true := by
  rw [pltB_iff] at *
  omega
theorem oP_irr {a : Pt} (h : pltB a a = true) : False := by
  rw [pltB_iff] at h
  omega
theorem oP_asym {a b : Pt} (h1 : pltB a b = true) (h2 : pltB b a = true) : False := oP_irr (oP_trans h1 h2)
theorem crP_bb (a b : Pt) : crP a b b = 0 := by unfold crP crossI; grind
theorem crP_ba (a b : Pt) : crP a b a = 0 := by unfold crP crossI; grind
theorem ch_tr1 {a b p q : Pt} (h1 : pltB a b = true) (h2 : pltB a p = true) (h3 : pltB a q = true) (h4 : 0 ≤ crP a b q) (h5 : crP a b p ≤ 0) : 0 ≤ crP a p q := by
  have := cr_tr (plt_pos.1 h2) (plt_pos.1 h1) (plt_pos.1 h3) (by unfold cr2 dif; unfold crP crossI at h5; simp only; grind) h4
  exact this.1
theorem ch_tr2 {a b p q : Pt} (h1 : pltB q b = true) (h2 : pltB a b = true) (h3 : pltB b p = true) (h4 : 0 ≤ crP a b q) (h5 : 0 ≤ crP a b p) : 0 ≤ crP b p q := by
  have := cr_tr (plt_pos.1 h1) (plt_pos.1 h2) (plt_pos.1 h3) (by unfold cr2 dif; unfold crP crossI at h4; simp only; grind) (by unfold cr2 dif; unfold crP crossI at h5; simp only; grind)
  have h := this.1
  unfold cr2 dif at h
  unfold crP crossI
  simp only at h
  grind
theorem ch_tr3 {a' a b p : Pt} (h1 : pltB a' a = true) (h2 : pltB a b = true) (h3 : pltB b p = true) (h4 : 0 < crP a' a b) (h5 : 0 < crP a b p) : 0 < crP a' a p := by
  have k4 : 0 < cr2 (dif a a') (dif b a) := by unfold cr2 dif; unfold crP crossI at h4; simp only; grind
  have k5 : 0 < cr2 (dif b a) (dif p b) := by unfold cr2 dif; unfold crP crossI at h5; simp only; grind
  have := (cr_tr (plt_pos.1 h1) (plt_pos.1 h2) (plt_pos.1 h3) (Int.le_of_lt k4) (Int.le_of_lt k5)).2 (.inl k4)
  have e : crP a' a p = cr2 (dif a a') (dif b a) + cr2 (dif a a') (dif p b) := by unfold crP crossI cr2 dif; simp only; grind
  omega
def pushR : List Pt → Pt → List Pt
  | b :: a :: r, p => if crP a b p ≤ 0 then pushR (a :: r) p else p :: b :: a :: r
  | [b], p => [p, b]
  | [], p => [p]
theorem take_rev {st : List Pt} {j : Nat} (h : j < st.length) : (st.take (j + 1)).reverse = st.getD j (0, 0) :: (st.take j).reverse := by
  rw [← List.take_append_getElem h]
  simp [h]
theorem pushP_aux (st : List Pt) (p : Pt) : ∀ j, j ≤ st.length → (st.take (popN st p j) ++ [p]).reverse = pushR (st.take j).reverse p
  | 0, _ => by simp [popN, pushR]
  | 1, h => by
    match st, h with
    | x :: t, _ => simp [popN, pushR]
  | j + 2, h => by
    have ih := pushP_aux st p (j + 1) (by omega)
    rw [take_rev (j := j + 1) (by omega)]
    rw [take_rev (j := j) (by omega)] at ih ⊢
    simp only [popN, pushR]
    split
    · exact ih
    · rw [List.reverse_append, take_rev (j := j + 1) (by omega), take_rev (j := j) (by omega)]
      rfl
theorem pushP_rev (st : List Pt) (p : Pt) : (pushP st p).reverse = pushR st.reverse p := by
  have := pushP_aux st p st.length (Nat.le_refl _)
  rw [List.take_length] at this
  exact this
def chnR (R ps : List Pt) : List Pt := ps.foldl pushR R
theorem chn_rev : ∀ (ps st : List Pt), (chn st ps).reverse = chnR st.reverse ps
  | [], _ => rfl
  | p :: r, st => by
    have := chn_rev r (pushP st p)
    rw [pushP_rev] at this
    exact this
def Dsc (R : List Pt) : Prop := R.Pairwise fun a b => pltB b a = true
def Cvx : List Pt → Prop
  | c :: b :: a :: r => 0 < crP a b c ∧ Cvx (b :: a :: r)
  | _ => True
def Lft (S : Pt → Prop) : List Pt → Prop
  | b :: a :: r => (∀ q, S q → 0 ≤ crP a b q) ∧ Lft S (a :: r)
  | _ => True
def Bot (S : Pt → Prop) (R : List Pt) : Prop := ∃ m, R.getLast? = some m ∧ ∀ q, S q → q = m ∨ pltB m q = true
def Top (S : Pt → Prop) (R : List Pt) : Prop := ∃ m, R.head? = some m ∧ ∀ q, S q → q = m ∨ pltB q m = true
structure ChI (S : Pt → Prop) (R : List Pt) : Prop where
  mem : ∀ z ∈ R, S z
  dsc : Dsc R
  cvx : Cvx R
  lft : Lft S R
  bot : Bot S R
  top : Top S R
theorem Cvx.tail {b : Pt} {R : List Pt} (h : Cvx (b :: R)) : Cvx R := by
  match R, h with
  | [], _ => trivial
  | [_], _ => trivial
  | _ :: _ :: _, h => exact h.2
theorem Lft.tail {S : Pt → Prop} {b : Pt} {R : List Pt} (h : Lft S (b :: R)) : Lft S R := by
  match R, h with
  | [], _ => trivial
  | _ :: _, h => exact h.2
theorem Dsc.tail {b : Pt} {R : List Pt} (h : Dsc (b :: R)) : Dsc R := (List.pairwise_cons.1 h).2
theorem Dsc.lt {b a : Pt} {R : List Pt} (h : Dsc (b :: R)) (ha : a ∈ R) : pltB a b = true := (List.pairwise_cons.1 h).1 a ha
def adS (S : Pt → Prop) (p : Pt) : Pt → Prop := fun q => S q ∨ q = p
theorem lft_add {S : Pt → Prop} {p : Pt} : ∀ {r : List Pt} {b a : Pt}, Dsc (b :: a :: r) → Cvx (b :: a :: r) → Lft S (b :: a :: r) → pltB b p = true → 0 < crP a b p → Lft (adS S p) (b :: a :: r)
  | [], b, a, hd, hc, hl, hp, h => ⟨fun q hq => by
      rcases hq with hq | rfl
      · exact hl.1 q hq
      · exact Int.le_of_lt h, trivial⟩
  | a' :: r, b, a, hd, hc, hl, hp, h => by
    have h1 : pltB a b = true := hd.lt (by simp)
    have h2 : pltB a' a = true := hd.tail.lt (by simp)
    refine ⟨fun q hq => ?_, lft_add hd.tail hc.tail hl.2 (oP_trans h1 hp) (ch_tr3 h2 h1 hp hc.1 h)⟩
    rcases hq with hq | rfl
    · exact hl.1 q hq
    · exact Int.le_of_lt h
theorem push_ok {S : Pt → Prop} {p : Pt} : ∀ {r : List Pt} {b : Pt}, (∀ z ∈ b :: r, S z) → Dsc (b :: r) → Cvx (b :: r) → Lft S (b :: r) → Bot S (b :: r) → (∀ q, S q → pltB q p = true) → (∀ q, S q → pltB b q = true → 0 ≤ crP b p q) → ChI (adS S p) (pushR (b :: r) p)
  | [], b, hm, hd, hc, hl, hb, hp, hK => by
    obtain ⟨m, h1, h2⟩ := hb
    obtain rfl : b = m := by simpa using h1
    have hbp := hp b (hm b (by simp))
    refine ⟨fun z hz => ?_, ?_, trivial, ⟨fun q hq => ?_, trivial⟩, ⟨b, rfl, fun q hq => ?_⟩, ⟨p, rfl, fun q hq => ?_⟩⟩
    · have hz : z = p ∨ z = b := by simpa [pushR] using hz
      rcases hz with rfl | rfl
      · exact .inr rfl
      · exact .inl (hm _ (by simp))
    · show List.Pairwise _ [p, b]
      simpa using hbp
    · rcases hq with hq | rfl
      · rcases h2 q hq with rfl | h
        · rw [crP_ba]; exact Int.le_refl _
        · exact hK q hq h
      · rw [crP_bb]; exact Int.le_refl _
    · rcases hq with hq | rfl
      · exact h2 q hq
      · exact .inr hbp
    · rcases hq with hq | rfl
      · exact .inr (hp q hq)
      · exact .inl rfl
  | a :: r, b, hm, hd, hc, hl, hb, hp, hK => by
    have hab : pltB a b = true := hd.lt (by simp)
    have hap := hp a (hm a (by simp))
    have hbp := hp b (hm b (by simp))
    have hb' : Bot S (a :: r) := by
      obtain ⟨m, h1, h2⟩ := hb
      exact ⟨m, by rw [List.getLast?_cons_cons] at h1; exact h1, h2⟩
    unfold pushR
    split
    · rename_i hle
      exact push_ok (fun z hz => hm z (List.mem_cons_of_mem _ hz)) hd.tail hc.tail hl.2 hb' hp fun q hq h => ch_tr1 hab hap h (hl.1 q hq) hle
    · rename_i hgt
      have hgt : 0 < crP a b p := by omega
      refine ⟨fun z hz => ?_, ?_, ⟨hgt, hc⟩, ⟨fun q hq => ?_, lft_add hd hc hl hbp hgt⟩, ?_, ⟨p, rfl, fun q hq => ?_⟩⟩
      · rcases List.mem_cons.1 hz with rfl | hz
        · exact .inr rfl
        · exact .inl (hm _ hz)
      · exact List.pairwise_cons.2 ⟨fun z hz => hp z (hm z hz), hd⟩
      · rcases hq with hq | rfl
        · rcases oP_tri b q with rfl | h | h
          · rw [crP_ba]; exact Int.le_refl _
          · exact hK q hq h
          · exact ch_tr2 h hab hbp (hl.1 q hq) (Int.le_of_lt hgt)
        · rw [crP_bb]; exact Int.le_refl _
      · obtain ⟨m, h1, h2⟩ := hb
        refine ⟨m, by rw [List.getLast?_cons_cons]; exact h1, fun q hq => ?_⟩
        rcases hq with hq | rfl
        · exact h2 q hq
        · have hm' : m ∈ b :: a :: r := List.mem_of_getLast? h1
          exact .inr (hp m (hm m hm'))
      · rcases hq with hq | rfl
        · exact .inr (hp q hq)
        · exact .inl rfl
theorem ChI.ext {S T : Pt → Prop} {R : List Pt} (h : ChI S R) (e : ∀ q, S q ↔ T q) : ChI T R := by
  have : S = T := funext fun q => propext (e q)
  rw [← this]
  exact h
theorem chnR_ok : ∀ {ps : List Pt} {S : Pt → Prop} {R : List Pt}, ChI S R → Asc ps → (∀ q, S q → ∀ p ∈ ps, pltB q p = true) → ChI (fun q => S q ∨ q ∈ ps) (chnR R ps)
  | [], S, R, h, _, _ => h.ext fun q => by simp
  | p :: r, S, R, h, ha, hS => by
    have ha' := List.pairwise_cons.1 ha
    have hp : ChI (adS S p) (pushR R p) := by
      match R, h with
      | [], h => obtain ⟨m, h1, _⟩ := h.top; cases h1
      | b :: t, h =>
        refine push_ok h.mem h.dsc h.cvx h.lft h.bot (fun q hq => hS q hq p (by simp)) fun q hq hbq => ?_
        obtain ⟨m, h1, h2⟩ := h.top
        obtain rfl : b = m := by simpa using h1
        rcases h2 q hq with rfl | h3
        · exact (oP_irr hbq).elim
        · exact (oP_asym hbq h3).elim
    have := chnR_ok hp ha'.2 fun q hq z hz => by
      rcases hq with hq | rfl
      · exact hS q hq z (List.mem_cons_of_mem _ hz)
      · exact ha'.1 z hz
    refine this.ext fun q => ?_
    unfold adS
    simp only [List.mem_cons]
    constructor
    · rintro ((h | h) | h)
      · exact .inl h
      · exact .inr (.inl h)
      · exact .inr (.inr h)
    · rintro (h | h | h)
      · exact .inl (.inl h)
      · exact .inl (.inr h)
      · exact .inr h
theorem chain_ok {ps : List Pt} (h : Asc ps) (h0 : ps ≠ []) : ChI (fun q => q ∈ ps) (chnR [] ps) := by
  match ps, h, h0 with
  | p :: r, h, _ =>
    have ha' := List.pairwise_cons.1 h
    have h1 : ChI (fun q => q = p) [p] := ⟨fun z hz => by simpa using hz, by unfold Dsc; simp, trivial, trivial, ⟨p, rfl, fun q hq => .inl hq⟩, ⟨p, rfl, fun q hq => .inl hq⟩⟩
    have := chnR_ok h1 ha'.2 fun q hq z hz => by rw [show q = p from hq]; exact ha'.1 z hz
    exact this.ext fun q => by simp
theorem ChI.tail {S : Pt → Prop} {b a : Pt} {R : List Pt} (h : ChI S (b :: a :: R)) : (∀ z ∈ a :: R, S z) ∧ Dsc (a :: R) ∧ Cvx (a :: R) ∧ Lft S (a :: R) ∧ Bot S (a :: R) := by
  refine ⟨fun z hz => h.mem z (List.mem_cons_of_mem _ hz), h.dsc.tail, h.cvx.tail, h.lft.tail, ?_⟩
  obtain ⟨m, h1, h2⟩ := h.bot
  exact ⟨m, by rw [List.getLast?_cons_cons] at h1; exact h1, h2⟩
theorem next_le {S : Pt → Prop} {b a a' : Pt} {r' : List Pt} (ha : S a) (hd : pltB a b = true) (hl : ∀ q, S q → 0 ≤ crP a b q) (hm' : ∀ z ∈ b :: a' :: r', S z) (hd' : Dsc (b :: a' :: r')) (hc' : Cvx (b :: a' :: r')) (hl' : Lft S (b :: a' :: r')) (hb' : Bot S (b :: a' :: r')) : ¬ pltB a a' = true := by
  intro hlt
  have hab' : pltB a' b = true := hd'.lt (by simp)
  have k1 := hl a' (hm' a' (by simp))
  have k2 := hl'.1 a ha
  have e1 : crP a b a' = cr2 (dif b a') (dif a' a) := by unfold crP crossI cr2 dif; simp only; grind
  have e2 : crP a' b a = -cr2 (dif b a') (dif a' a) := by unfold crP crossI cr2 dif; simp only; grind
  match r', hm', hd', hc', hl', hb' with
  | [], hm', hd', hc', hl', hb' =>
    obtain ⟨m, h1, h2⟩ := hb'
    obtain rfl : a' = m := by simpa using h1
    rcases h2 a ha with rfl | h
    · exact oP_irr hlt
    · exact oP_asym hlt h
  | c :: t, hm', hd', hc', hl', hb' =>
    have hca : pltB c a' = true := hd'.tail.lt (by simp)
    have k3 := hc'.1
    have k4 := hl'.2.1 a ha
    have e3 : crP c a' b = cr2 (dif a' c) (dif b a') := by unfold crP crossI cr2 dif; simp only; grind
    have e4 : crP c a' a = cr2 (dif a' a) (dif a' c) := by unfold crP crossI cr2 dif; simp only; grind
    have := (cr_tr (plt_pos.1 hlt) (plt_pos.1 hca) (plt_pos.1 hab') (by omega) (by omega)).2 (.inr (by omega))
    have e5 : cr2 (dif b a') (dif a' a) = -cr2 (dif a' a) (dif b a') := by unfold cr2 dif; simp only; grind
    omega
theorem chain_eq {S : Pt → Prop} : ∀ {r r' : List Pt} {b : Pt}, (∀ z ∈ b :: r, S z) → Dsc (b :: r) → Cvx (b :: r) → Lft S (b :: r) → Bot S (b :: r) → (∀ z ∈ b :: r', S z) → Dsc (b :: r') → Cvx (b :: r') → Lft S (b :: r') → Bot S (b :: r') → r = r'
  | [], [], _, _, _, _, _, _, _, _, _, _, _ => rfl
  | [], a' :: r', b, hm, hd, hc, hl, hb, hm', hd', hc', hl', hb' => by
    obtain ⟨m, h1, h2⟩ := hb
    obtain rfl : b = m := by simpa using h1
    have h3 : pltB a' b = true := hd'.lt (by simp)
    rcases h2 a' (hm' a' (by simp)) with rfl | h
    · exact (oP_irr h3).elim
    · exact (oP_asym h3 h).elim
  | a :: r, [], b, hm, hd, hc, hl, hb, hm', hd', hc', hl', hb' => by
    obtain ⟨m, h1, h2⟩ := hb'
    obtain rfl : b = m := by simpa using h1
    have h3 : pltB a b = true := hd.lt (by simp)
    rcases h2 a (hm a (by simp)) with rfl | h
    · exact (oP_irr h3).elim
    · exact (oP_asym h3 h).elim
  | a :: r, a' :: r', b, hm, hd, hc, hl, hb, hm', hd', hc', hl', hb' => by
    have h1 := next_le (hm a (by simp)) (hd.lt (by simp)) hl.1 hm' hd' hc' hl' hb'
    have h2 := next_le (hm' a' (by simp)) (hd'.lt (by simp)) hl'.1 hm hd hc hl hb
    have e : a = a' := by
      rcases oP_tri a a' with h | h | h
      · exact h
      · exact absurd h h1
      · exact absurd h h2
    subst e
    have bt : ∀ {t : List Pt}, Bot S (b :: a :: t) → Bot S (a :: t) := fun {t} h => by
      obtain ⟨m, q1, q2⟩ := h
      exact ⟨m, by rw [List.getLast?_cons_cons] at q1; exact q1, q2⟩
    rw [chain_eq (fun z hz => hm z (List.mem_cons_of_mem _ hz)) hd.tail hc.tail hl.2 (bt hb) (fun z hz => hm' z (List.mem_cons_of_mem _ hz)) hd'.tail hc'.tail hl'.2 (bt hb')]
theorem ChI.uniq {S : Pt → Prop} {R R' : List Pt} (h : ChI S R) (h' : ChI S R') : R = R' := by
  obtain ⟨m, h1, h2⟩ := h.top
  obtain ⟨m', h1', h2'⟩ := h'.top
  match R, R', h, h', h1, h1' with
  | b :: r, b' :: r', h, h', h1, h1' =>
    obtain rfl : b = m := by simpa using h1
    obtain rfl : b' = m' := by simpa using h1'
    have e : b = b' := by
      rcases h2 b' (h'.mem b' (by simp)) with e | e
      · exact e.symm
      · rcases h2' b (h.mem b (by simp)) with e' | e'
        · exact e'
        · exact (oP_asym e e').elim
    subst e
    rw [chain_eq h.mem h.dsc h.cvx h.lft h.bot h'.mem h'.dsc h'.cvx h'.lft h'.bot]
def ngP (p : Pt) : Pt := (-p.1, -p.2)
def ngL (ps : List Pt) : List Pt := ps.map ngP
theorem ngP_ng (p : Pt) : ngP (ngP p) = p := by
  unfold ngP
  simp
theorem ngL_ng (ps : List Pt) : ngL (ngL ps) = ps := by
  unfold ngL
  rw [List.map_map]
  conv => rhs; rw [← List.map_id ps]
  refine List.map_congr_left fun p _ => ngP_ng p
theorem crP_ng (a b c : Pt) : crP (ngP a) (ngP b) (ngP c) = crP a b c := by unfold crP crossI ngP; simp only; grind
theorem plt_ng (a b : Pt) : pltB (ngP a) (ngP b) = pltB b a := by
  rw [Bool.eq_iff_iff, pltB_iff, pltB_iff]
  unfold ngP
  simp only
  omega
theorem pushR_ng : ∀ (R : List Pt) (p : Pt), pushR (ngL R) (ngP p) = ngL (pushR R p)
  | [], _ => rfl
  | [_], _ => rfl
  | b :: a :: r, p => by
    have ih := pushR_ng (a :: r) p
    show (if crP (ngP a) (ngP b) (ngP p) ≤ 0 then pushR (ngP a :: ngL r) (ngP p) else ngP p :: ngP b :: ngP a :: ngL r) = ngL (if crP a b p ≤ 0 then pushR (a :: r) p else p :: b :: a :: r)
    rw [crP_ng]
    split
    · exact ih
    · rfl
theorem chnR_ng : ∀ (ps R : List Pt), chnR (ngL R) (ngL ps) = ngL (chnR R ps)
  | [], _ => rfl
  | p :: r, R => by
    have := chnR_ng r (pushR R p)
    rw [← pushR_ng] at this
    exact this
theorem mem_ngL {ps : List Pt} {q : Pt} : q ∈ ngL ps ↔ ngP q ∈ ps := by
  unfold ngL
  rw [List.mem_map]
  constructor
  · rintro ⟨z, hz, rfl⟩
    rw [ngP_ng]
    exact hz
  · intro h
    exact ⟨_, h, ngP_ng q⟩
theorem asc_ng {s : List Pt} (h : Asc s) : Asc (ngL s.reverse) := by
  unfold Asc ngL
  rw [List.pairwise_map, List.pairwise_reverse]
  exact h.imp fun {a b} hab => by rw [plt_ng]; exact hab
def lowR (s : List Pt) : List Pt := chnR [] s
def uppR (s : List Pt) : List Pt := chnR [] s.reverse
theorem low_ok {s : List Pt} (h : Asc s) (h0 : s ≠ []) : ChI (fun q => q ∈ s) (lowR s) := chain_ok h h0
theorem upp_ok {s : List Pt} (h : Asc s) (h0 : s ≠ []) : ChI (fun q => ngP q ∈ s) (ngL (uppR s)) := by
  have h1 := chain_ok (asc_ng h) (by unfold ngL; simpa using h0)
  have e : ngL (uppR s) = chnR [] (ngL s.reverse) := by
    unfold uppR
    rw [← chnR_ng]
    rfl
  rw [e]
  exact h1.ext fun q => by rw [mem_ngL, List.mem_reverse]
theorem cvx_at : ∀ {R : List Pt}, Cvx R → ∀ k, k + 2 < R.length → 0 < crP (R.getD (k + 2) (0, 0)) (R.getD (k + 1) (0, 0)) (R.getD k (0, 0))
  | [], _, k, h => by simp at h
  | [_], _, k, h => by simp at h
  | [_, _], _, k, h => absurd h (by simp only [List.length_cons, List.length_nil]; omega)
  | c :: b :: a :: r, hc, 0, _ => hc.1
  | c :: b :: a :: r, hc, k + 1, h => by
    have := cvx_at hc.2 k (by simpa using h)
    simpa using this
theorem lft_at {S : Pt → Prop} : ∀ {R : List Pt}, Lft S R → ∀ k, k + 1 < R.length → ∀ q, S q → 0 ≤ crP (R.getD (k + 1) (0, 0)) (R.getD k (0, 0)) q
  | [], _, k, h => by simp at h
  | [_], _, k, h => by simp at h
  | b :: a :: r, hl, 0, _ => hl.1
  | b :: a :: r, hl, k + 1, h => by
    have := lft_at hl.2 k (by simpa using h)
    simpa using this
theorem dsc_at {R : List Pt} (h : Dsc R) {i j : Nat} (hij : i < j) (hj : j < R.length) : pltB (R.getD j (0, 0)) (R.getD i (0, 0)) = true := by
  have := List.pairwise_iff_getElem.1 h i j (by omega) hj hij
  simpa [hj, show i < R.length by omega] using this
theorem getD_mem' {R : List Pt} {k : Nat} (h : k < R.length) : R.getD k (0, 0) ∈ R := by simp [h]
theorem on_edge {S : Pt → Prop} {R : List Pt} (h : ChI S R) {k : Nat} (hk : k + 1 < R.length) {q : Pt} (hq : S q) (h0 : crP (R.getD (k + 1) (0, 0)) (R.getD k (0, 0)) q = 0) :
    ¬ pltB q (R.getD (k + 1) (0, 0)) = true ∧ ¬ pltB (R.getD k (0, 0)) q = true := by
  have hab := dsc_at h.dsc (i := k) (j := k + 1) (by omega) hk
  refine ⟨fun hlt => ?_, fun hlt => ?_⟩
  · by_cases h2 : k + 2 < R.length
    · have c := cvx_at h.cvx k h2
      have l := lft_at h.lft (k + 1) h2 q hq
      have hxa := dsc_at h.dsc (i := k + 1) (j := k + 2) (by omega) h2
      generalize R.getD k (0, 0) = b at *
      generalize R.getD (k + 1) (0, 0) = a at *
      generalize R.getD (k + 2) (0, 0) = x at *
      have e1 : crP x a b = cr2 (dif a x) (dif b a) := by unfold crP crossI cr2 dif; simp only; grind
      have e2 : crP x a q = cr2 (dif a q) (dif a x) := by unfold crP crossI cr2 dif; simp only; grind
      have e3 : crP a b q = cr2 (dif a q) (dif b a) := by unfold crP crossI cr2 dif; simp only; grind
      have := (cr_tr (plt_pos.1 hlt) (plt_pos.1 hxa) (plt_pos.1 hab) (by omega) (by omega)).2 (.inr (by omega))
      omega
    · obtain ⟨m, h1, h3⟩ := h.bot
      have hm : R.getD (k + 1) (0, 0) = m := by
        rw [List.getLast?_eq_getElem?] at h1
        have : R.length - 1 = k + 1 := by omega
        rw [this] at h1
        simp [List.getD, h1]
      rw [hm] at hlt
      rcases h3 q hq with rfl | h4
      · exact oP_irr hlt
      · exact oP_asym hlt h4
  · rcases Nat.eq_zero_or_pos k with rfl | h2
    · obtain ⟨m, h1, h3⟩ := h.top
      have hm : R.getD 0 (0, 0) = m := by
        match R, h1 with
        | _ :: _, h1 => simpa using h1
      rw [hm] at hlt
      rcases h3 q hq with rfl | h4
      · exact oP_irr hlt
      · exact oP_asym hlt h4
    · obtain ⟨k, rfl⟩ : ∃ j, k = j + 1 := ⟨k - 1, by omega⟩
      have c := cvx_at h.cvx k (by omega)
      have l := lft_at h.lft k (by omega) q hq
      have hbc := dsc_at h.dsc (i := k) (j := k + 1) (by omega) (by omega)
      generalize R.getD k (0, 0) = c' at *
      generalize R.getD (k + 1) (0, 0) = b at *
      generalize R.getD (k + 1 + 1) (0, 0) = a at *
      have e0 : crP (R.getD (k + 2) (0, 0)) b c' = crP (R.getD (k + 2) (0, 0)) b c' := rfl
      have e1 : crP a b c' = cr2 (dif b a) (dif c' b) := by unfold crP crossI cr2 dif; simp only; grind
      have e2 : crP b c' q = cr2 (dif c' b) (dif q b) := rfl
      have e3 : crP a b q = cr2 (dif b a) (dif q b) := by unfold crP crossI cr2 dif; simp only; grind
      have := (cr_tr (plt_pos.1 hab) (plt_pos.1 hbc) (plt_pos.1 hlt) (by omega) (by omega)).2 (.inl (by omega))
      omega
theorem on_own {S : Pt → Prop} {R : List Pt} (h : ChI S R) {k : Nat} (hk : k + 1 < R.length) {q : Pt} (hq : q ∈ R) (h0 : crP (R.getD (k + 1) (0, 0)) (R.getD k (0, 0)) q = 0) : q = R.getD (k + 1) (0, 0) ∨ q = R.getD k (0, 0) := by
  obtain ⟨h1, h2⟩ := on_edge h hk (h.mem q hq) h0
  obtain ⟨j, hj, hjq⟩ := List.getElem_of_mem hq
  have ej : R.getD j (0, 0) = q := by simp [hj, hjq]
  rw [← ej] at h1 h2 ⊢
  rcases Nat.lt_or_ge j k with c | c
  · exact absurd (dsc_at h.dsc c (by omega)) h2
  · rcases Nat.lt_or_ge (k + 1) j with d | d
    · exact absurd (dsc_at h.dsc d hj) h1
    · have : j = k ∨ j = k + 1 := by omega
      rcases this with rfl | rfl
      · exact .inr rfl
      · exact .inl rfl
theorem on_other {s : List Pt} {R U : List Pt} (h : ChI (fun q => q ∈ s) R) (g : ChI (fun q => ngP q ∈ s) (ngL U)) {k : Nat} (hk : k + 1 < R.length) {q : Pt} (hq : q ∈ U) (h0 : crP (R.getD (k + 1) (0, 0)) (R.getD k (0, 0)) q = 0) : q = R.getD (k + 1) (0, 0) ∨ q = R.getD k (0, 0) := by
  have hqs : q ∈ s := by
    have := g.mem (ngP q) (mem_ngL.2 (by rw [ngP_ng]; exact hq))
    rw [ngP_ng] at this
    exact this
  obtain ⟨h1, h2⟩ := on_edge h hk hqs h0
  rcases oP_tri q (R.getD (k + 1) (0, 0)) with e | e | ea
  · exact .inl e
  · exact absurd e h1
  rcases oP_tri q (R.getD k (0, 0)) with e | eb | e
  · exact .inr e
  rotate_left
  · exact absurd e h2
  exfalso
  have ha : R.getD (k + 1) (0, 0) ∈ s := h.mem _ (getD_mem' hk)
  have hb : R.getD k (0, 0) ∈ s := h.mem _ (getD_mem' (by omega))
  generalize R.getD (k + 1) (0, 0) = a at *
  generalize R.getD k (0, 0) = b at *
  obtain ⟨j, hj, hjq⟩ := List.getElem_of_mem hq
  have hlen : (ngL U).length = U.length := by unfold ngL; simp
  have ej : ∀ i, i < U.length → (ngL U).getD i (0, 0) = ngP (U.getD i (0, 0)) := fun i hi => by unfold ngL; simp [hi]
  have eq' : U.getD j (0, 0) = q := by simp [hj, hjq]
  have j0 : 0 < j := by
    rcases Nat.eq_zero_or_pos j with rfl | c
    · exfalso
      obtain ⟨m, m1, m2⟩ := g.top
      have em : ngP q = m := by
        match U, hj, hjq, m1 with
        | x :: t, _, hjq, m1 =>
          have e1 : x = q := by simpa using hjq
          have e2 : ngP x = m := by simpa [ngL] using m1
          rw [← e1]
          exact e2
      rcases m2 (ngP a) (by show ngP (ngP a) ∈ s; rw [ngP_ng]; exact ha) with e | e
      · have := congrArg ngP e
        rw [← em, ngP_ng, ngP_ng] at this
        subst this
        exact oP_irr ea
      · rw [← em, plt_ng] at e
        exact oP_asym ea e
    · exact c
  have j1 : j + 1 < U.length := by
    rcases Nat.lt_or_ge (j + 1) U.length with c | c
    · exact c
    · exfalso
      obtain ⟨m, m1, m2⟩ := g.bot
      have em : ngP q = m := by
        rw [List.getLast?_eq_getElem?, hlen] at m1
        have : U.length - 1 = j := by omega
        rw [this] at m1
        have := ej j hj
        rw [eq'] at this
        rw [← this]
        simp [List.getD, m1]
      rcases m2 (ngP b) (by show ngP (ngP b) ∈ s; rw [ngP_ng]; exact hb) with e | e
      · have := congrArg ngP e
        rw [← em, ngP_ng, ngP_ng] at this
        subst this
        exact oP_irr eb
      · rw [← em, plt_ng] at e
        exact oP_asym eb e
  obtain ⟨i, rfl⟩ : ∃ i, j = i + 1 := ⟨j - 1, by omega⟩
  have c := cvx_at g.cvx i (by omega)
  have l1 := lft_at g.lft i (by omega)
  have l2 := lft_at g.lft (i + 1) (by omega)
  have d1 := dsc_at g.dsc (i := i) (j := i + 1) (by omega) (by omega)
  have d2 := dsc_at g.dsc (i := i + 1) (j := i + 2) (by omega) (by omega)
  rw [ej _ (by omega), ej _ (by omega), ej _ (by omega), crP_ng, eq'] at c
  rw [ej _ (by omega), ej _ (by omega), plt_ng, eq'] at d1 d2
  have l1a := l1 (ngP a) (by show ngP (ngP a) ∈ s; rw [ngP_ng]; exact ha)
  have l1b := l1 (ngP b) (by show ngP (ngP b) ∈ s; rw [ngP_ng]; exact hb)
  have l2a := l2 (ngP a) (by show ngP (ngP a) ∈ s; rw [ngP_ng]; exact ha)
  have l2b := l2 (ngP b) (by show ngP (ngP b) ∈ s; rw [ngP_ng]; exact hb)
  rw [ej _ (by omega), ej _ (by omega), crP_ng, eq'] at l1a l1b l2a l2b
  clear l1 l2
  generalize U.getD i (0, 0) = y at *
  generalize U.getD (i + 2) (0, 0) = z at *
  have e1 : crP z q y = cr2 (dif z q) (dif q y) := by unfold crP crossI cr2 dif; simp only; grind
  have e2 : crP z q b = cr2 (dif b q) (dif z q) := by unfold crP crossI cr2 dif; simp only; grind
  have e3 : crP q y a = cr2 (dif q y) (dif q a) := by unfold crP crossI cr2 dif; simp only; grind
  have e4 : crP a b q = cr2 (dif b q) (dif q a) := by unfold crP crossI cr2 dif; simp only; grind
  have t1 := (cr_tr (plt_pos.1 eb) (plt_pos.1 d2) (plt_pos.1 d1) (by omega) (by omega)).2 (.inr (by omega))
  have t2 := (cr_tr (plt_pos.1 eb) (plt_pos.1 d1) (plt_pos.1 ea) (by omega) (by omega)).2 (.inl (by omega))
  omega
structure CvH (h : List Pt) : Prop where
  three : 3 ≤ h.length
  nodup : h.Nodup
  left : ∀ j, j < h.length → ∀ v ∈ h, v ≠ h.getD j (0, 0) → v ≠ nxP h j → 0 < crP (h.getD j (0, 0)) (nxP h j) v
theorem getD_append (a b : List Pt) (k : Nat) : (a ++ b).getD k (0, 0) = if k < a.length then a.getD k (0, 0) else b.getD (k - a.length) (0, 0) := by
  simp only [List.getD, List.getElem?_append]
  split <;> rfl
theorem getD_take' (a : List Pt) {k m : Nat} (h : k < m) : (a.take m).getD k (0, 0) = a.getD k (0, 0) := by
  simp [List.getD, h]
theorem low_at (s : List Pt) {k : Nat} (h : k < (lowR s).length) : (chn [] s).getD k (0, 0) = (lowR s).getD ((lowR s).length - 1 - k) (0, 0) := by
  have e := chn_rev s []
  have e' : (lowR s) = (chn [] s).reverse := e.symm
  rw [e'] at h ⊢
  rw [getD_rev (by simp at h ⊢; omega)]
  congr 1
  simp at h ⊢
  omega
theorem upp_at (s : List Pt) {k : Nat} (h : k < (uppR s).length) : (chn [] (revP s)).getD k (0, 0) = (uppR s).getD ((uppR s).length - 1 - k) (0, 0) := low_at (revP s) h
theorem low_len (s : List Pt) : (lowR s).length = (chn [] s).length := by
  have e : (lowR s) = (chn [] s).reverse := (chn_rev s []).symm
  rw [e, List.length_reverse]
theorem upp_len (s : List Pt) : (uppR s).length = (chn [] (revP s)).length := low_len (revP s)
theorem head_at {R : List Pt} {m : Pt} (h : R.head? = some m) : R.getD 0 (0, 0) = m := by
  match R, h with
  | _ :: _, h => simpa using h
theorem last_at {R : List Pt} {m : Pt} (h : R.getLast? = some m) : R.getD (R.length - 1) (0, 0) = m := by
  rw [List.getLast?_eq_getElem?] at h
  simp [List.getD, h]
theorem ngL_len (R : List Pt) : (ngL R).length = R.length := by unfold ngL; simp
theorem ngL_at {R : List Pt} {i : Nat} (hi : i < R.length) : (ngL R).getD i (0, 0) = ngP (R.getD i (0, 0)) := by unfold ngL; simp [hi]
theorem top_uniq {S : Pt → Prop} {a b : Pt} (ha : S a) (hb : S b) (h1 : ∀ q, S q → q = a ∨ pltB q a = true) (h2 : ∀ q, S q → q = b ∨ pltB q b = true) : a = b := by
  rcases h1 b hb with e | e
  · exact e.symm
  · rcases h2 a ha with e' | e'
    · exact e'
    · exact (oP_asym e e').elim
theorem hul_ends {s : List Pt} (h : Asc s) (h0 : s ≠ []) :
    0 < (lowR s).length ∧ 0 < (uppR s).length ∧ (lowR s).getD 0 (0, 0) = (uppR s).getD ((uppR s).length - 1) (0, 0) ∧ (uppR s).getD 0 (0, 0) = (lowR s).getD ((lowR s).length - 1) (0, 0) ∧
    (∀ q ∈ s, q = (lowR s).getD 0 (0, 0) ∨ pltB q ((lowR s).getD 0 (0, 0)) = true) ∧ (∀ q ∈ s, q = (uppR s).getD 0 (0, 0) ∨ pltB ((uppR s).getD 0 (0, 0)) q = true) := by
  have L := low_ok h h0
  have U := upp_ok h h0
  obtain ⟨m, m1, m2⟩ := L.top
  obtain ⟨n, n1, n2⟩ := L.bot
  obtain ⟨p, p1, p2⟩ := U.top
  obtain ⟨q, q1, q2⟩ := U.bot
  have l1 : 0 < (lowR s).length := by
    rcases Nat.eq_zero_or_pos (lowR s).length with e | e
    · rw [List.eq_nil_of_length_eq_zero e] at m1; cases m1
    · exact e
  have l2 : 0 < (uppR s).length := by
    rcases Nat.eq_zero_or_pos (uppR s).length with e | e
    · rw [List.eq_nil_of_length_eq_zero e] at p1; cases p1
    · exact e
  have e1 := head_at m1
  have e2 := last_at n1
  have e3 := head_at p1
  have e4 := last_at q1
  rw [ngL_at l2] at e3
  rw [ngL_len, ngL_at (by omega)] at e4
  have mm : ∀ {k}, k < (lowR s).length → (lowR s).getD k (0, 0) ∈ s := fun hk => L.mem _ (getD_mem' hk)
  have mu : ∀ {k}, k < (uppR s).length → (uppR s).getD k (0, 0) ∈ s := fun hk => by
    have := U.mem _ (mem_ngL.2 (by rw [ngP_ng]; exact getD_mem' hk) : ngP _ ∈ ngL (uppR s))
    rw [ngP_ng] at this
    exact this
  have k1 : ∀ q ∈ s, q = (lowR s).getD 0 (0, 0) ∨ pltB q ((lowR s).getD 0 (0, 0)) = true := fun x hx => by rw [e1]; exact m2 x hx
  have k2 : ∀ q ∈ s, q = (uppR s).getD 0 (0, 0) ∨ pltB ((uppR s).getD 0 (0, 0)) q = true := fun x hx => by
    have := p2 (ngP x) (by show ngP (ngP x) ∈ s; rw [ngP_ng]; exact hx)
    rw [← e3, plt_ng] at this
    rcases this with e | e
    · have := congrArg ngP e
      rw [ngP_ng, ngP_ng] at this
      exact .inl this
    · exact .inr e
  have k3 : ∀ q ∈ s, q = (uppR s).getD ((uppR s).length - 1) (0, 0) ∨ pltB q ((uppR s).getD ((uppR s).length - 1) (0, 0)) = true := fun x hx => by
    have := q2 (ngP x) (by show ngP (ngP x) ∈ s; rw [ngP_ng]; exact hx)
    rw [← e4, plt_ng] at this
    rcases this with e | e
    · have := congrArg ngP e
      rw [ngP_ng, ngP_ng] at this
      exact .inl this
    · exact .inr e
  refine ⟨l1, l2, top_uniq (S := fun q => q ∈ s) (mm l1) (mu (by omega)) k1 k3, ?_, k1, k2⟩
  rw [e2]
  have hn : n ∈ s := by rw [← e2]; exact mm (by omega)
  rcases k2 n hn with e | e
  · exact e.symm
  · rcases n2 _ (mu l2) with e' | e'
    · exact e'
    · exact (oP_asym e e').elim
theorem hul_edge {s : List Pt} (h : Asc s) (h3 : 3 ≤ s.length) {j : Nat} (hj : j < (hulL s).length) :
    (∃ k, k + 1 < (lowR s).length ∧ (hulL s).getD j (0, 0) = (lowR s).getD (k + 1) (0, 0) ∧ nxP (hulL s) j = (lowR s).getD k (0, 0)) ∨
    (∃ k, k + 1 < (uppR s).length ∧ (hulL s).getD j (0, 0) = (uppR s).getD (k + 1) (0, 0) ∧ nxP (hulL s) j = (uppR s).getD k (0, 0)) := by
  have h0 : s ≠ [] := by intro e; rw [e] at h3; simp at h3
  obtain ⟨l1, l2, e1, e2, _, _⟩ := hul_ends h h0
  have eH : hulL s = (chn [] s).take ((chn [] s).length - 1) ++ (chn [] (revP s)).take ((chn [] (revP s)).length - 1) := by unfold hulL; rw [if_neg (by omega)]
  have q1 := low_len s
  have q2 := upp_len s
  have hl : (hulL s).length = ((lowR s).length - 1) + ((uppR s).length - 1) := by rw [eH, q1, q2]; simp
  have ga : ∀ k, k + 1 < (lowR s).length → (hulL s).getD k (0, 0) = (lowR s).getD ((lowR s).length - 1 - k) (0, 0) := fun k hk => by
    rw [eH, getD_append, if_pos (by simp; omega), getD_take' _ (by omega), low_at s (by omega)]
  have gb : ∀ k, k + 1 < (uppR s).length → (hulL s).getD ((lowR s).length - 1 + k) (0, 0) = (uppR s).getD ((uppR s).length - 1 - k) (0, 0) := fun k hk => by
    have : ((chn [] s).take ((chn [] s).length - 1)).length = (lowR s).length - 1 := by simp; omega
    rw [eH, getD_append, if_neg (by omega), this, Nat.add_sub_cancel_left, getD_take' _ (by omega), upp_at s (by omega)]
  have l1' : 2 ≤ (lowR s).length := by rw [q1]; exact chn_ge (by omega)
  have l2' : 2 ≤ (uppR s).length := by rw [q2]; exact chn_ge (by rw [revP_len]; omega)
  rw [hl] at hj
  unfold nxP
  rw [hl]
  rcases Nat.lt_or_ge j ((lowR s).length - 1) with c | c
  · refine .inl ⟨(lowR s).length - 2 - j, by omega, ?_, ?_⟩
    · rw [ga j (by omega)]
      congr 1
      omega
    · rw [Nat.mod_eq_of_lt (by omega)]
      rcases Nat.lt_or_ge (j + 1) ((lowR s).length - 1) with d | d
      · rw [ga (j + 1) (by omega)]
        congr 1
        omega
      · have : j + 1 = (lowR s).length - 1 + 0 := by omega
        rw [this, gb 0 (by omega), Nat.sub_zero, ← e1]
        congr 1
        omega
  · obtain ⟨i, rfl⟩ : ∃ i, j = (lowR s).length - 1 + i := ⟨j - ((lowR s).length - 1), by omega⟩
    refine .inr ⟨(uppR s).length - 2 - i, by omega, ?_, ?_⟩
    · rw [gb i (by omega)]
      congr 1
      omega
    · rcases Nat.lt_or_ge (i + 1) ((uppR s).length - 1) with d | d
      · rw [Nat.mod_eq_of_lt (by omega), Nat.add_assoc, gb (i + 1) (by omega)]
        congr 1
        omega
      · have : (lowR s).length - 1 + i + 1 = (lowR s).length - 1 + ((uppR s).length - 1) := by omega
        rw [this, Nat.mod_self, ga 0 (by omega), Nat.sub_zero, ← e2]
        congr 1
        omega
theorem mem_hul {s : List Pt} (h3 : 3 ≤ s.length) {v : Pt} (hv : v ∈ hulL s) : v ∈ lowR s ∨ v ∈ uppR s := by
  have eH : hulL s = (chn [] s).take ((chn [] s).length - 1) ++ (chn [] (revP s)).take ((chn [] (revP s)).length - 1) := by unfold hulL; rw [if_neg (by omega)]
  have e1 : (lowR s) = (chn [] s).reverse := (chn_rev s []).symm
  have e2 : (uppR s) = (chn [] (revP s)).reverse := (chn_rev (revP s) []).symm
  rw [eH] at hv
  rcases List.mem_append.1 hv with hv | hv
  · left
    rw [e1, List.mem_reverse]
    exact List.mem_of_mem_take hv
  · right
    rw [e2, List.mem_reverse]
    exact List.mem_of_mem_take hv
theorem low_in {s : List Pt} (h : Asc s) (h0 : s ≠ []) {v : Pt} (hv : v ∈ lowR s) : v ∈ s := (low_ok h h0).mem v hv
theorem upp_in {s : List Pt} (h : Asc s) (h0 : s ≠ []) {v : Pt} (hv : v ∈ uppR s) : v ∈ s := by
  have := (upp_ok h h0).mem _ (mem_ngL.2 (by rw [ngP_ng]; exact hv) : ngP v ∈ ngL (uppR s))
  rw [ngP_ng] at this
  exact this
theorem hul_in {s : List Pt} (h : Asc s) {v : Pt} (hv : v ∈ hulL s) : v ∈ s := by
  by_cases h3 : 3 ≤ s.length
  · have h0 : s ≠ [] := by intro e; rw [e] at h3; simp at h3
    rcases mem_hul h3 hv with q | q
    · exact low_in h h0 q
    · exact upp_in h h0 q
  · unfold hulL at hv
    rw [if_pos (by omega)] at hv
    exact hv
theorem hul_left {s : List Pt} (h : Asc s) (h3 : 3 ≤ s.length) {j : Nat} (hj : j < (hulL s).length) {q : Pt} (hq : q ∈ s) : 0 ≤ crP ((hulL s).getD j (0, 0)) (nxP (hulL s) j) q := by
  have h0 : s ≠ [] := by intro e; rw [e] at h3; simp at h3
  rcases hul_edge h h3 hj with ⟨k, k1, k2, k3⟩ | ⟨k, k1, k2, k3⟩
  · rw [k2, k3]
    exact lft_at (low_ok h h0).lft k k1 q hq
  · rw [k2, k3]
    have := lft_at (upp_ok h h0).lft k (by rw [ngL_len]; exact k1) (ngP q) (by show ngP (ngP q) ∈ s; rw [ngP_ng]; exact hq)
    rw [ngL_at k1, ngL_at (by omega), crP_ng] at this
    exact this
theorem hul_strict {s : List Pt} (h : Asc s) (h3 : 3 ≤ s.length) {j : Nat} (hj : j < (hulL s).length) {v : Pt} (hv : v ∈ hulL s) (n1 : v ≠ (hulL s).getD j (0, 0)) (n2 : v ≠ nxP (hulL s) j) : 0 < crP ((hulL s).getD j (0, 0)) (nxP (hulL s) j) v := by
  have h0 : s ≠ [] := by intro e; rw [e] at h3; simp at h3
  have hl := hul_left h h3 hj (hul_in h hv)
  have L := low_ok h h0
  have U := upp_ok h h0
  rcases Int.lt_or_eq_of_le hl with c | c
  · exact c
  exfalso
  rcases hul_edge h h3 hj with ⟨k, k1, k2, k3⟩ | ⟨k, k1, k2, k3⟩
  · rw [k2] at c n1
    rw [k3] at c n2
    rcases mem_hul h3 hv with q | q
    · rcases on_own L k1 q c.symm with e | e
      · exact n1 e
      · exact n2 e
    · rcases on_other L U k1 q c.symm with e | e
      · exact n1 e
      · exact n2 e
  · rw [k2] at c n1
    rw [k3] at c n2
    have U' : ChI (fun q => q ∈ ngL s) (ngL (uppR s)) := U.ext fun q => mem_ngL.symm
    have L' : ChI (fun q => ngP q ∈ ngL s) (ngL (ngL (lowR s))) := by
      rw [ngL_ng]
      exact L.ext fun q => by rw [mem_ngL, ngP_ng]
    have k1' : k + 1 < (ngL (uppR s)).length := by rw [ngL_len]; exact k1
    have c' : crP ((ngL (uppR s)).getD (k + 1) (0, 0)) ((ngL (uppR s)).getD k (0, 0)) (ngP v) = 0 := by rw [ngL_at k1, ngL_at (by omega), crP_ng]; exact c.symm
    have back : ∀ x, ngP v = ngP x → v = x := fun x e => by
      have := congrArg ngP e
      rwa [ngP_ng, ngP_ng] at this
    have key : ngP v = (ngL (uppR s)).getD (k + 1) (0, 0) ∨ ngP v = (ngL (uppR s)).getD k (0, 0) := by
      rcases mem_hul h3 hv with q | q
      · exact on_other U' L' k1' (mem_ngL.2 (by rw [ngP_ng]; exact q)) c'
      · exact on_own U k1' (mem_ngL.2 (by rw [ngP_ng]; exact q)) c'
    rw [ngL_at k1, ngL_at (by omega)] at key
    rcases key with e | e
    · exact n1 (back _ e)
    · exact n2 (back _ e)
theorem both_end {s : List Pt} (h : Asc s) (h0 : s ≠ []) {i j : Nat} (hi : i < (lowR s).length) (hj : j < (uppR s).length) (e : (lowR s).getD i (0, 0) = (uppR s).getD j (0, 0)) : i = 0 ∨ i + 1 = (lowR s).length := by
  rcases Nat.eq_zero_or_pos i with c | c
  · exact .inl c
  right
  rcases Nat.lt_or_ge (i + 1) (lowR s).length with d | d
  rotate_left
  · omega
  exfalso
  have L := low_ok h h0
  have U := upp_ok h h0
  obtain ⟨l1, l2, e1, e2, k1, k2⟩ := hul_ends h h0
  obtain ⟨i, rfl⟩ : ∃ m, i = m + 1 := ⟨i - 1, by omega⟩
  have c1 := cvx_at L.cvx i d
  have d1 := dsc_at L.dsc (i := i) (j := i + 1) (by omega) (by omega)
  have d2 := dsc_at L.dsc (i := i + 1) (j := i + 2) (by omega) d
  have mw : (lowR s).getD i (0, 0) ∈ s := L.mem _ (getD_mem' (by omega))
  have mu : (lowR s).getD (i + 2) (0, 0) ∈ s := L.mem _ (getD_mem' d)
  have mv : (lowR s).getD (i + 1) (0, 0) ∈ s := L.mem _ (getD_mem' (by omega))
  have w1 := lft_at L.lft i (by omega)
  have w2 := lft_at L.lft (i + 1) d
  have j0 : 0 < j := by
    rcases Nat.eq_zero_or_pos j with rfl | q
    · exfalso
      rw [e] at d2
      rcases k2 _ mu with q | q
      · rw [q] at d2; exact oP_irr d2
      · exact oP_asym d2 q
    · exact q
  have j1 : j + 1 < (uppR s).length := by
    rcases Nat.lt_or_ge (j + 1) (uppR s).length with q | q
    · exact q
    · exfalso
      have ej : j = (uppR s).length - 1 := by omega
      rw [ej, ← e1] at e
      rw [e] at d1
      rcases k1 _ mw with q | q
      · rw [q] at d1; exact oP_irr d1
      · exact oP_asym d1 q
  obtain ⟨j, rfl⟩ : ∃ m, j = m + 1 := ⟨j - 1, by omega⟩
  have c2 := cvx_at U.cvx j (by rw [ngL_len]; exact j1)
  have l3 := lft_at U.lft j (by rw [ngL_len]; omega)
  have l4 := lft_at U.lft (j + 1) (by rw [ngL_len]; exact j1)
  have d3 := dsc_at U.dsc (i := j) (j := j + 1) (by omega) (by rw [ngL_len]; omega)
  have d4 := dsc_at U.dsc (i := j + 1) (j := j + 2) (by omega) (by rw [ngL_len]; exact j1)
  rw [ngL_at (by omega), ngL_at (by omega), ngL_at (by omega), crP_ng, ← e] at c2
  rw [ngL_at (by omega), ngL_at (by omega), plt_ng, ← e] at d3 d4
  have l3w := l3 (ngP ((lowR s).getD i (0, 0))) (by show ngP (ngP _) ∈ s; rw [ngP_ng]; exact mw)
  have l4w := l4 (ngP ((lowR s).getD i (0, 0))) (by show ngP (ngP _) ∈ s; rw [ngP_ng]; exact mw)
  rw [ngL_at (by omega), ngL_at (by omega), crP_ng, ← e] at l3w l4w
  have my : (uppR s).getD j (0, 0) ∈ s := upp_in h h0 (getD_mem' (by omega))
  have mz : (uppR s).getD (j + 2) (0, 0) ∈ s := upp_in h h0 (getD_mem' j1)
  have w1y := w1 _ my
  have w1z := w1 _ mz
  clear l3 l4 w1 w2
  generalize (lowR s).getD i (0, 0) = w at *
  generalize (lowR s).getD (i + 1) (0, 0) = v at *
  generalize (uppR s).getD j (0, 0) = y at *
  generalize (uppR s).getD (j + 2) (0, 0) = z at *
  have f1 : crP z v y = cr2 (dif z v) (dif v y) := by unfold crP crossI cr2 dif; simp only; grind
  have f2 : crP v w y = cr2 (dif v y) (dif w v) := by unfold crP crossI cr2 dif; simp only; grind
  have f3 : crP v w z = -cr2 (dif z v) (dif w v) := by unfold crP crossI cr2 dif; simp only; grind
  have := (cr_tr (plt_pos.1 d4) (plt_pos.1 d3) (plt_pos.1 d1) (by omega) (by omega)).2 (.inl (by omega))
  omega
theorem dsc_nodup {R : List Pt} (h : Dsc R) : R.Nodup := List.Pairwise.imp (fun {a b} hab e => by subst e; exact oP_irr hab) h
theorem nodup_rv {R : List Pt} (h : R.reverse.Nodup) : R.Nodup := (List.pairwise_reverse.1 h).imp fun h => Ne.symm h
theorem hul_nodup {s : List Pt} (h : Asc s) : (hulL s).Nodup := by
  by_cases h3 : 3 ≤ s.length
  rotate_left
  · unfold hulL
    rw [if_pos (by omega)]
    exact List.Pairwise.imp (fun {a b} hab e => by subst e; exact oP_irr hab) h
  have h0 : s ≠ [] := by intro e; rw [e] at h3; simp at h3
  have eH : hulL s = (chn [] s).take ((chn [] s).length - 1) ++ (chn [] (revP s)).take ((chn [] (revP s)).length - 1) := by unfold hulL; rw [if_neg (by omega)]
  have e1 : (lowR s) = (chn [] s).reverse := (chn_rev s []).symm
  have e2 : (uppR s) = (chn [] (revP s)).reverse := (chn_rev (revP s) []).symm
  have n1 : (chn [] s).Nodup := by
    have := dsc_nodup (low_ok h h0).dsc
    rw [e1] at this
    exact nodup_rv this
  have n2 : (chn [] (revP s)).Nodup := by
    have := dsc_nodup (upp_ok h h0).dsc
    unfold ngL at this
    have this : (uppR s).Nodup := (List.pairwise_map.1 this).imp fun h e => h (congrArg ngP e)
    rw [e2] at this
    exact nodup_rv this
  obtain ⟨l1, l2, q1, q2, k1, k2⟩ := hul_ends h h0
  have p1 := low_len s
  have p2 := upp_len s
  have l1' : 2 ≤ (lowR s).length := by rw [p1]; exact chn_ge (by omega)
  have l2' : 2 ≤ (uppR s).length := by rw [p2]; exact chn_ge (by rw [revP_len]; omega)
  rw [eH]
  refine List.nodup_append.2 ⟨n1.sublist (List.take_sublist _ _), n2.sublist (List.take_sublist _ _), fun a ha b hb hab => ?_⟩
  obtain ⟨i, hi, rfl⟩ := List.getElem_of_mem ha
  obtain ⟨j, hj, rfl⟩ := List.getElem_of_mem hb
  have hi' : i < (chn [] s).length - 1 := by simp at hi; omega
  have hj' : j < (chn [] (revP s)).length - 1 := by simp at hj; omega
  have ea : (chn [] s).getD i (0, 0) = (chn [] (revP s)).getD j (0, 0) := by
    have a1 : i < (chn [] s).length := by omega
    have b1 : j < (chn [] (revP s)).length := by omega
    simpa [a1, b1] using hab
  rw [low_at s (by omega), upp_at s (by omega)] at ea
  rcases both_end h h0 (by omega) (by omega) ea with c | c
  · omega
  · have c' : i = 0 := by omega
    have : (lowR s).length - 1 - i = (lowR s).length - 1 := by omega
    rw [this, ← q2] at ea
    have d := dsc_at (upp_ok h h0).dsc (i := 0) (j := (uppR s).length - 1 - j) (by omega) (by rw [ngL_len]; omega)
    rw [ngL_at (by omega), ngL_at (by omega), plt_ng, ea] at d
    exact oP_irr d
theorem hul_cvh {s : List Pt} (h : Asc s) (h3 : 3 ≤ (hulL s).length) : CvH (hulL s) := by
  have hs : 3 ≤ s.length := by
    rcases Nat.lt_or_ge s.length 3 with c | c
    · unfold hulL at h3
      rw [if_pos c] at h3
      exact h3
    · exact c
  exact ⟨h3, hul_nodup h, fun j hj v hv n1 n2 => hul_strict h hs hj hv n1 n2⟩
theorem nd_inj {h : List Pt} (hn : h.Nodup) {i j : Nat} (hi : i < h.length) (hj : j < h.length) (e : h.getD i (0, 0) = h.getD j (0, 0)) : i = j := by
  rcases Nat.lt_trichotomy i j with c | c | c
  · exact absurd (by simpa [hi, hj] using e) (List.pairwise_iff_getElem.1 hn i j hi hj c)
  · exact c
  · exact absurd (by simpa [hi, hj] using e.symm) (List.pairwise_iff_getElem.1 hn j i hj hi c)
theorem nx_ne {h : List Pt} (H : CvH h) {i : Nat} (hi : i < h.length) : (i + 1) % h.length ≠ i ∧ (i + 2) % h.length ≠ i ∧ (i + 2) % h.length ≠ (i + 1) % h.length := by
  have h3 := H.three
  generalize h.length = n at *
  have e1 : (i + 1) % n = if i + 1 = n then 0 else i + 1 := by
    split
    · rename_i e; rw [e, Nat.mod_self]
    · exact Nat.mod_eq_of_lt (by omega)
  have e2 : (i + 2) % n = if i + 2 = n then 0 else if i + 1 = n then 1 else i + 2 := by
    split
    · rename_i e; rw [e, Nat.mod_self]
    · split
      · have : i + 2 = n + 1 := by omega
        rw [this, Nat.add_mod_left, Nat.mod_eq_of_lt (by omega)]
      · exact Nat.mod_eq_of_lt (by omega)
  rw [e1, e2]
  split <;> split <;> (try split) <;> omega
theorem cvh_left {h : List Pt} (H : CvH h) {j k : Nat} (hj : j < h.length) (hk : k < h.length) (n1 : k ≠ j) (n2 : k ≠ (j + 1) % h.length) : 0 < crP (h.getD j (0, 0)) (nxP h j) (h.getD k (0, 0)) := by
  refine H.left j hj _ (getD_mem' hk) (fun e => n1 (nd_inj H.nodup hk hj e)) fun e => n2 (nd_inj H.nodup hk (Nat.mod_lt _ (by omega)) e)
def fanA (h : List Pt) : Nat → Int
  | 0 => 0
  | i + 1 => fanA h i + crP (h.getD 0 (0, 0)) (h.getD i (0, 0)) (nxP h i)
theorem fan_is {h : List Pt} : ∀ i, i ≤ h.length → fanA h i = sgA h i - ((h.getD 0 (0, 0)).1 * (h.getD (i % h.length) (0, 0)).2 - (h.getD 0 (0, 0)).2 * (h.getD (i % h.length) (0, 0)).1)
  | 0, _ => by
    simp only [fanA, sgA, Nat.zero_mod]
    grind
  | i + 1, hi => by
    have ih := fan_is (h := h) i (by omega)
    rw [Nat.mod_eq_of_lt (by omega)] at ih
    have e : h.getD ((i + 1) % h.length) (0, 0) = nxP h i := rfl
    rw [e]
    simp only [fanA, sgA, sgT, ih]
    unfold crP crossI
    grind
theorem fan_all {h : List Pt} (h0 : 0 < h.length) : fanA h h.length = sgA h h.length := by
  have := fan_is (h := h) h.length (Nat.le_refl _)
  rw [Nat.mod_self] at this
  rw [this]
  grind
theorem fan_pos {h : List Pt} (H : CvH h) : ∀ i, i ≤ h.length → 0 ≤ fanA h i ∧ (2 ≤ i → 0 < fanA h i)
  | 0, _ => ⟨Int.le_refl _, fun h => by omega⟩
  | i + 1, hi => by
    obtain ⟨h1, h2⟩ := fan_pos H i (by omega)
    have h3 := H.three
    have rot : crP (h.getD 0 (0, 0)) (h.getD i (0, 0)) (nxP h i) = crP (h.getD i (0, 0)) (nxP h i) (h.getD 0 (0, 0)) := by unfold crP crossI; grind
    have part : 0 ≤ crP (h.getD 0 (0, 0)) (h.getD i (0, 0)) (nxP h i) := by
      rw [rot]
      by_cases c1 : 0 = i
      · subst c1
        rw [crP_ba]
        exact Int.le_refl _
      · by_cases c2 : 0 = (i + 1) % h.length
        · have : nxP h i = h.getD 0 (0, 0) := by unfold nxP; rw [← c2]
          rw [this, crP_bb]
          exact Int.le_refl _
        · exact Int.le_of_lt (cvh_left H (by omega) (by omega) c1 c2)
    refine ⟨by simp only [fanA]; omega, fun hge => ?_⟩
    simp only [fanA]
    rcases Nat.lt_or_ge i 2 with c | c
    · obtain rfl : i = 1 := by omega
      have : 0 < crP (h.getD 1 (0, 0)) (nxP h 1) (h.getD 0 (0, 0)) := cvh_left H (by omega) (by omega) (by omega) (by rw [Nat.mod_eq_of_lt (by omega)]; omega)
      omega
    · have := h2 c
      omega
theorem cvh_area {h : List Pt} (H : CvH h) : 0 < sgA h h.length := by
  have h3 := H.three
  rw [← fan_all (by omega)]
  exact (fan_pos H _ (Nat.le_refl _)).2 (by omega)
theorem low_hul {s : List Pt} (h : Asc s) (h3 : 3 ≤ s.length) {v : Pt} (hv : v ∈ lowR s) : v ∈ hulL s := by
  have h0 : s ≠ [] := by intro e; rw [e] at h3; simp at h3
  obtain ⟨l1, l2, e1, e2, _, _⟩ := hul_ends h h0
  have eH : hulL s = (chn [] s).take ((chn [] s).length - 1) ++ (chn [] (revP s)).take ((chn [] (revP s)).length - 1) := by unfold hulL; rw [if_neg (by omega)]
  have q1 := low_len s
  have q2 := upp_len s
  have l2' : 2 ≤ (uppR s).length := by rw [q2]; exact chn_ge (by rw [revP_len]; omega)
  rw [eH]
  obtain ⟨i, hi, hiv⟩ := List.getElem_of_mem hv
  have ev : (lowR s).getD i (0, 0) = v := by simp [hi, hiv]
  rcases Nat.eq_zero_or_pos i with rfl | c
  · refine List.mem_append.2 (.inr ?_)
    rw [e1] at ev
    have := upp_at s (k := 0) l2
    rw [Nat.sub_zero, ev] at this
    rw [← this]
    have m : ((chn [] (revP s)).take ((chn [] (revP s)).length - 1)).getD 0 (0, 0) ∈ (chn [] (revP s)).take ((chn [] (revP s)).length - 1) := getD_mem' (by simp; omega)
    rw [getD_take' _ (by omega)] at m
    exact m
  · refine List.mem_append.2 (.inl ?_)
    have := low_at s (k := (lowR s).length - 1 - i) (by omega)
    have e3 : (lowR s).length - 1 - ((lowR s).length - 1 - i) = i := by omega
    rw [e3, ev] at this
    rw [← this]
    have m : ((chn [] s).take ((chn [] s).length - 1)).getD ((lowR s).length - 1 - i) (0, 0) ∈ (chn [] s).take ((chn [] s).length - 1) := getD_mem' (by simp; omega)
    rw [getD_take' _ (by omega)] at m
    exact m
theorem hul_of {s : List Pt} (h : 2 ≤ s.length) : hulL s = (lowR s).reverse.take ((lowR s).length - 1) ++ (uppR s).reverse.take ((uppR s).length - 1) := by
  have e1 : (lowR s).reverse = chn [] s := by rw [show lowR s = (chn [] s).reverse from (chn_rev s []).symm, List.reverse_reverse]
  have e2 : (uppR s).reverse = chn [] (revP s) := by rw [show uppR s = (chn [] (revP s)).reverse from (chn_rev (revP s) []).symm, List.reverse_reverse]
  rw [e1, e2, low_len, upp_len]
  unfold hulL
  split
  · exact (hul_two (by omega)).symm
  · rfl
end Go.Proofs.Ytnlciknmpjikgaa
