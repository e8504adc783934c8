/-
  How two segments meet: both ways. Written by an AI agent.
-/
import Derived.Test.YtieibbdfdepmbaaRelB
namespace Go.Proofs.Ytieibbdfdepmbaa
set_option linter.all false
open Go.RowKit

def RCe : TabR := fun f ds => match f, ds with
  | 117, [.v (.agg ⟨[.int .i64 a, .int .i64 b, .int .i64 c, .int .i64 d]⟩), .v (.agg ⟨[.int .i64 e, .int .i64 f, .int .i64 g, .int .i64 h]⟩)] => some (rowP (ceS a b c d e f g h), blkP (ceS a b c d e f g h), [ptB a b = true, ptB c d = true, ptB e f = true, ptB g h = true])
  | 114, [.v (.agg ⟨[.int .i64 a, .int .i64 b, .int .i64 c, .int .i64 d]⟩), .v (.agg ⟨[.int .i64 e, .int .i64 f, .int .i64 g, .int .i64 h]⟩)] => some (rowP (ceI a b c d e f g h), blkP (ceI a b c d e f g h), [ptB a b = true, ptB c d = true, ptB e f = true, ptB g h = true])
  | 84, [.row m (.ints xs)] => some (rowP (srtL (ptsA m xs)), blkP (srtL (ptsA m xs)), [m * 2 ≤ xs.length, m ≤ 1000])
  | _, _ => none
theorem RCe_ok : TabROk Try.prog RCe := by
  intro f ds v b C h hC
  unfold RCe at h
  (try split at h)
  all_goals first
    | (obtain ⟨rfl, rfl, rfl⟩ : _ ∧ _ ∧ _ := by simpa using h
       with_reducible refine resR_sCe ?_ ?_ ?_ ?_
       · exact hC.1
       · exact hC.2.1
       · exact hC.2.2.1
       · exact hC.2.2.2.1)
    | (obtain ⟨rfl, rfl, rfl⟩ : _ ∧ _ ∧ _ := by simpa using h
       with_reducible refine resR_iCe ?_ ?_ ?_ ?_
       · exact hC.1
       · exact hC.2.1
       · exact hC.2.2.1
       · exact hC.2.2.2.1)
    | (obtain ⟨rfl, rfl, rfl⟩ : _ ∧ _ ∧ _ := by simpa using h
       obtain ⟨_, h2⟩ := ptsA_spec hC.1
       exact resR_pts1 (pre := []) (post := []) hC.1 (resR_srt _ (by rw [h2]; exact hC.2.1)))
    | cases h
def ECe : Env := mkE TOl RCe (fun _ => noL)
theorem ECe_ok : EnvOk Try.prog ECe := mkEOk TOl_ok RCe_ok (fun _ _ _ => noL_good)
set_option maxRecDepth 100000 in
theorem tr_sRel (a b c d e f g h : Int) : bodyV Try.prog ECe 30 12 98 [.v (.agg #[iv a, iv b, iv c, iv d]), .v (.agg #[iv e, iv f, iv g, iv h])] = .need (ptB a b = true) (.need (ptB c d = true) (.need (ptB e f = true) (.need (ptB g h = true) (brT (decide (1 < (↑(ceS a b c d e f g h).length : Int))) (.fin (.int .i64 (3)) []) (brT ((↑(ceS a b c d e f g h).length : Int) == 1) (.fin (.int .i64 (1)) []) (.need (ptB a b = true) (.need (ptB c d = true) (.need (ptB e f = true) (.need (ptB a b = true) (.need (ptB c d = true) (.need (ptB g h = true) (brT (decide (IntKind.i64.wrap (cmpI (crossI a b c d e f) 0 * cmpI (crossI a b c d g h) 0) < 0)) (.need (ptB e f = true) (.need (ptB g h = true) (.need (ptB a b = true) (.need (ptB e f = true) (.need (ptB g h = true) (.need (ptB c d = true) (brT (decide (IntKind.i64.wrap (cmpI (crossI e f g h a b) 0 * cmpI (crossI e f g h c d) 0) < 0)) (.fin (.int .i64 (2)) []) (.fin (.int .i64 (0)) [])))))))) (.fin (.int .i64 (0)) []))))))))))))) := by kernel_rfl
set_option maxRecDepth 100000 in
theorem tr_iRel (a b c d e f g h : Int) : bodyV Try.prog ECe 30 12 89 [.v (.agg #[iv a, iv b, iv c, iv d]), .v (.agg #[iv e, iv f, iv g, iv h])] = brT (!segB a b c d) (.fin (.int .i64 (-1)) []) (brT (!segB e f g h) (.fin (.int .i64 (-1)) []) (.need (ptB a b = true) (.need (ptB c d = true) (.need (ptB e f = true) (.need (ptB g h = true) (brT ((↑(ceI a b c d e f g h).length : Int) == 0) (.need (ptB a b = true) (.need (ptB c d = true) (.need (ptB e f = true) (.need (ptB a b = true) (.need (ptB c d = true) (.need (ptB g h = true) (brT (decide (IntKind.i64.wrap (cmpI (crossI a b c d e f) 0 * cmpI (crossI a b c d g h) 0) < 0)) (.need (ptB e f = true) (.need (ptB g h = true) (.need (ptB a b = true) (.need (ptB e f = true) (.need (ptB g h = true) (.need (ptB c d = true) (brT (decide (IntKind.i64.wrap (cmpI (crossI e f g h a b) 0 * cmpI (crossI e f g h c d) 0) < 0)) (.fin (.int .i64 (2)) []) (.fin (.int .i64 (0)) [])))))))) (.fin (.int .i64 (0)) [])))))))) (brT ((↑(ceI a b c d e f g h).length : Int) == 1) (.fin (.int .i64 (1)) []) (.fin (.int .i64 (3)) [])))))))) := by kernel_rfl
/-- Are the ends of the second segment on different sides of the first one? -/
def dvB (a b c d e f g h : Int) : Bool := decide (IntKind.i64.wrap (cmpI (crossI a b c d e f) 0 * cmpI (crossI a b c d g h) 0) < 0)
def relN (n : Nat) (x : Bool) : Int := if 1 < n then 3 else if n = 1 then 1 else bif x then 2 else 0
/-- How two segments of valid points meet. -/
def relA (a b c d e f g h : Int) : Int := relN (ceS a b c d e f g h).length (dvB a b c d e f g h && dvB e f g h a b c d)
def relV (a b c d e f g h : Int) : Int := bif segB a b c d && segB e f g h then relA a b c d e f g h else -1
theorem segB_pt {a b c d : Int} (h : segB a b c d = true) : ptB a b = true ∧ ptB c d = true := by
  unfold segB at h
  simp only [Bool.and_eq_true] at h
  exact h.1
theorem res_sRel {a b c d e f g h : Int} (h1 : ptB a b = true) (h2 : ptB c d = true) (h3 : ptB e f = true) (h4 : ptB g h = true) : Res Try.prog 98 [.v (.agg #[iv a, iv b, iv c, iv d]), .v (.agg #[iv e, iv f, iv g, iv h])] (iv (relA a b c d e f g h)) := by
  refine bodyV_res mixed ECe_ok (m := 30) (n := 12) rfl ?_
  rw [tr_sRel]
  simp only [brT_ok, Tree.ok, h1, h2, h3, h4, true_and, decide_eq_true_eq, decide_eq_false_iff_not, beq_iff_eq, beq_eq_false_iff_ne]
  unfold relA relN dvB
  refine ⟨fun g1 => ?_, fun g1 => ⟨fun g2 => ?_, fun g2 => ⟨fun g3 => ⟨fun g4 => ?_, fun g4 => ?_⟩, fun g3 => ?_⟩⟩⟩
  · rw [if_pos (by omega)]
  · rw [if_neg (by omega), if_pos (by omega)]
  all_goals
    rw [if_neg (by omega), if_neg (by omega)]
    simp [g3]
  all_goals simp [g4]
theorem res_iRel (a b c d e f g h : Int) : Res Try.prog 89 [.v (.agg #[iv a, iv b, iv c, iv d]), .v (.agg #[iv e, iv f, iv g, iv h])] (iv (relV a b c d e f g h)) := by
  refine bodyV_res mixed ECe_ok (m := 30) (n := 12) rfl ?_
  rw [tr_iRel]
  unfold relV
  rcases s1 : segB a b c d with _ | _
  · simp [brT_ok, Tree.ok]
  rcases s2 : segB e f g h with _ | _
  · simp [brT_ok, Tree.ok]
  obtain ⟨h1, h2⟩ := segB_pt s1
  obtain ⟨h3, h4⟩ := segB_pt s2
  have hl := (ce_same a b c d e f g h).1
  simp only [brT_ok, Tree.ok, h1, h2, h3, h4, true_and, decide_eq_true_eq, decide_eq_false_iff_not, beq_iff_eq, beq_eq_false_iff_ne, Bool.not_true, Bool.and_self, cond_true, hl]
  unfold relA relN dvB
  repeat' (first | refine And.intro ?_ ?_ | intro _)
  all_goals first
    | (rw [if_neg (by omega), if_pos (by omega)]; done)
    | (rw [if_pos (by omega)]; done)
    | (rw [if_neg (by omega), if_neg (by omega)]; simp [*]; done)
    | (exfalso; simp_all; done)
def pRlA : List DArg → Option (Value × List Prop)
  | [.v (.agg ⟨[.int .i64 a, .int .i64 b, .int .i64 c, .int .i64 d]⟩), .v (.agg ⟨[.int .i64 e, .int .i64 f, .int .i64 g, .int .i64 h]⟩)] => some (iv (relA a b c d e f g h), [ptB a b = true, ptB c d = true, ptB e f = true, ptB g h = true])
  | _ => none
def pRlV : List DArg → Option (Value × List Prop)
  | [.v (.agg ⟨[.int .i64 a, .int .i64 b, .int .i64 c, .int .i64 d]⟩), .v (.agg ⟨[.int .i64 e, .int .i64 f, .int .i64 g, .int .i64 h]⟩)] => some (iv (relV a b c d e f g h), [])
  | _ => none
def TRa : Tab := fun f ds => match f with
  | 98 => pRlA ds
  | 89 => pRlV ds
  | f => TOl f ds
theorem pRlA_ok {ds : List DArg} {v : Value} {C : List Prop} (h : pRlA ds = some (v, C)) (hC : AllP C) : Res Try.prog 98 ds v := by
  unfold pRlA at h
  split at h
  · obtain ⟨rfl, rfl⟩ : _ ∧ _ := by simpa using h
    exact res_sRel hC.1 hC.2.1 hC.2.2.1 hC.2.2.2.1
  · cases h
theorem pRlV_i {ds : List DArg} {v : Value} {C : List Prop} (h : pRlV ds = some (v, C)) : Res Try.prog 89 ds v := by
  unfold pRlV at h
  split at h
  · obtain ⟨rfl, rfl⟩ : _ ∧ _ := by simpa using h
    exact res_iRel _ _ _ _ _ _ _ _
  · cases h
theorem TRa_ok : TabOk Try.prog TRa := by
  intro f ds v C h hC
  unfold TRa at h
  (try split at h)
  all_goals first | with_reducible exact pRlA_ok h hC | with_reducible exact pRlV_i h | exact TOl_ok _ _ _ _ h hC
def TRb : Tab := fun f ds => match f with
  | f => TRa f ds
theorem TRb_ok : TabOk Try.prog TRb := by
  intro f ds v C h hC
  unfold TRb at h
  (try split at h)
  all_goals first | with_reducible exact pRlV_s h | exact TRa_ok _ _ _ _ h hC
end Go.Proofs.Ytieibbdfdepmbaa
