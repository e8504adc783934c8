/-
  Collinear: both ways, and the law. Written by an AI agent.
-/
import Derived.Test.YtieibbdfdepmbaaLpF
namespace Go.Proofs.Ytieibbdfdepmbaa
set_option linter.all false
open Go.RowKit

def L11 : FuncId → LT := fun f => match f with
  | 85 => ltC0
  | 31 => lt1 e_colI
  | _ => noL
set_option maxRecDepth 100000 in
theorem in_colF : loopsOf (codeOf Try.f85) = [c_col0, c_col1, c_col2] := by kernel_rfl
theorem ltC0_good : LoopsGood Try.prog ltC0 0 (codeOf Try.f85) := by
  intro i d hd s k t F H hlt ht
  rw [in_colF] at hd
  cases i with
  | zero =>
    obtain rfl : c_col0 = d := by simpa using hd
    exact lg_col0 s k t F H hlt ht
  | succ i =>
    cases i with
    | zero =>
      obtain rfl : c_col1 = d := by simpa using hd
      exact lg_col1 s k t F H hlt ht
    | succ i =>
      cases i with
      | zero =>
        obtain rfl : c_col2 = d := by simpa using hd
        exact lg_col2 s k t F H hlt ht
      | succ i => simp at hd
def E11 : Env := mkE (T6') (R4) (L11)
theorem E11_ok : EnvOk Try.prog E11 := by
  refine mkEOk T6'_ok (R4_ok) fun f fn hf => ?_
  show LoopsGood Try.prog (L11 f) 0 (codeOf fn)
  unfold L11
  split
  · obtain rfl := code_of Try.func85 hf
    exact ltC0_good
  · obtain rfl := code_of Try.func31 hf
    exact lt1_good lg_colI
  · exact noL_good
set_option maxRecDepth 100000 in
theorem tr_colF (ps : List Pt) : bodyX Try.prog E11 30 12 85 [.row ps.length (.ints (flat ps))] = .need ((0 : Int) = (0 : Int)) (.need ((flat ps).length = ps.length * (2 : Nat)) (.need (ps.length ≤ (20 : Nat)) (.need (allV (ptsA ps.length (flat ps)) = true) (brT (specCol (ptsA ps.length (flat ps))) (.fin (.bool (true)) [some ⟨.view, .ints (flat ps)⟩]) (.fin (.bool (false)) [some ⟨.view, .ints (flat ps)⟩]))))) := by kernel_rfl
set_option maxRecDepth 100000 in
theorem tr_colIF (ps : List Pt) : bodyX Try.prog E11 30 12 31 [.row ps.length (.ints (flat ps))] = brT (decide ((↑ps.length : Int) ≤ 20)) (.need (ps.length * (2 : Nat) ≤ (List.drop (0 : Nat) (flat ps)).length) (.need (ps.length ≤ (1000000000 : Nat)) (brT (!allV (ptsA ps.length (List.drop 0 (flat ps)))) (.fin (.bool (false)) [some ⟨.view, .ints (flat ps)⟩]) (brT ((↑ps.length : Int) == 0) (.fin (.bool (true)) [some ⟨.view, .ints (flat ps)⟩]) (.need (ps.length * (2 : Nat) ≤ (List.drop (0 : Nat) (flat ps)).length) (.need (ps.length ≤ (1000000000 : Nat)) (.need ((0 : Nat) < ps.length) (.need (ps.length * (2 : Nat) ≤ (List.drop (0 : Nat) (flat ps)).length) (.need (ps.length ≤ (1000000000 : Nat)) (.need ((0 : Nat) < ps.length) (.need ((0 : Int) = (0 : Int)) (.need ((↑ps.length : Int) = (↑ps.length : Int)) (.need ((flat ps).length = ps.length * (2 : Nat)) (.need (ps.length ≤ (20 : Nat)) (.need (allV (ptsA ps.length (flat ps)) = true) (.need (ptB (minL ((ptsA ps.length (List.drop (0 : Nat) (flat ps))).getD (0 : Nat) ((0 : Int), (0 : Int))) (List.drop (1 : Nat) (ptsA ps.length (List.drop (0 : Nat) (flat ps))))).1 (minL ((ptsA ps.length (List.drop (0 : Nat) (flat ps))).getD (0 : Nat) ((0 : Int), (0 : Int))) (List.drop (1 : Nat) (ptsA ps.length (List.drop (0 : Nat) (flat ps))))).2 = true) (.need (ptB (maxL ((ptsA ps.length (List.drop (0 : Nat) (flat ps))).getD (0 : Nat) ((0 : Int), (0 : Int))) (List.drop (1 : Nat) (ptsA ps.length (List.drop (0 : Nat) (flat ps))))).1 (maxL ((ptsA ps.length (List.drop (0 : Nat) (flat ps))).getD (0 : Nat) ((0 : Int), (0 : Int))) (List.drop (1 : Nat) (ptsA ps.length (List.drop (0 : Nat) (flat ps))))).2 = true) (brT (colI (ptsA ps.length (flat ps)) ((minL ((ptsA ps.length (List.drop 0 (flat ps))).getD 0 (0, 0)) (List.drop 1 (ptsA ps.length (List.drop 0 (flat ps))))).fst, (minL ((ptsA ps.length (List.drop 0 (flat ps))).getD 0 (0, 0)) (List.drop 1 (ptsA ps.length (List.drop 0 (flat ps))))).snd) ((maxL ((ptsA ps.length (List.drop 0 (flat ps))).getD 0 (0, 0)) (List.drop 1 (ptsA ps.length (List.drop 0 (flat ps))))).fst, (maxL ((ptsA ps.length (List.drop 0 (flat ps))).getD 0 (0, 0)) (List.drop 1 (ptsA ps.length (List.drop 0 (flat ps))))).snd) 0) (.fin (.bool (true)) [some ⟨.view, .ints (flat ps)⟩, some ⟨.box, .vals [.int .i64 ((minL ((ptsA ps.length (List.drop 0 (flat ps))).getD 0 (0, 0)) (List.drop 1 (ptsA ps.length (List.drop 0 (flat ps))))).1), .int .i64 ((minL ((ptsA ps.length (List.drop 0 (flat ps))).getD 0 (0, 0)) (List.drop 1 (ptsA ps.length (List.drop 0 (flat ps))))).2)]⟩, some ⟨.box, .vals [.int .i64 ((maxL ((ptsA ps.length (List.drop 0 (flat ps))).getD 0 (0, 0)) (List.drop 1 (ptsA ps.length (List.drop 0 (flat ps))))).1), .int .i64 ((maxL ((ptsA ps.length (List.drop 0 (flat ps))).getD 0 (0, 0)) (List.drop 1 (ptsA ps.length (List.drop 0 (flat ps))))).2)]⟩]) (.fin (.bool (false)) [some ⟨.view, .ints (flat ps)⟩, some ⟨.box, .vals [.int .i64 ((minL ((ptsA ps.length (List.drop 0 (flat ps))).getD 0 (0, 0)) (List.drop 1 (ptsA ps.length (List.drop 0 (flat ps))))).1), .int .i64 ((minL ((ptsA ps.length (List.drop 0 (flat ps))).getD 0 (0, 0)) (List.drop 1 (ptsA ps.length (List.drop 0 (flat ps))))).2)]⟩, some ⟨.box, .vals [.int .i64 ((maxL ((ptsA ps.length (List.drop 0 (flat ps))).getD 0 (0, 0)) (List.drop 1 (ptsA ps.length (List.drop 0 (flat ps))))).1), .int .i64 ((maxL ((ptsA ps.length (List.drop 0 (flat ps))).getD 0 (0, 0)) (List.drop 1 (ptsA ps.length (List.drop 0 (flat ps))))).2)]⟩]))))))))))))))))))) (.fin (.bool (false)) [some ⟨.view, .ints (flat ps)⟩]) := by kernel_rfl
theorem spec_col (ps : List Pt) (h3 : ps.length ≤ 20) (h4 : allV ps = true) : Res Try.prog 85 [.row ps.length (.ints (flat ps))] (.bool (specCol ps)) := by
  refine bodyX_res mixed E11_ok (m := 30) (n := 12) rfl ?_
  rw [tr_colF]
  simp only [ptsA_flat, flat_length]
  cases hs : specCol ps <;> simp [Tree.ok, brT, h3, h4]
def colV (ps : List Pt) : Bool := okL ps && specCol ps
theorem allV_pt {ps : List Pt} (h : allV ps = true) {p : Pt} (hp : p ∈ ps) : ptB p.1 p.2 = true := List.all_eq_true.1 h p hp
theorem ends_ok {ps : List Pt} (h : allV ps = true) (h0 : 0 < ps.length) : ptB (minL (ps.getD 0 (0, 0)) (ps.drop 1)).1 (minL (ps.getD 0 (0, 0)) (ps.drop 1)).2 = true ∧ ptB (maxL (ps.getD 0 (0, 0)) (ps.drop 1)).1 (maxL (ps.getD 0 (0, 0)) (ps.drop 1)).2 = true := by
  cases ps with
  | nil => cases h0
  | cons p r =>
    show ptB (minL p r).1 (minL p r).2 = true ∧ ptB (maxL p r).1 (maxL p r).2 = true
    exact ⟨allV_pt h ((minL_le r p).1.elim (fun h => by rw [h]; exact List.mem_cons_self ..) (List.mem_cons_of_mem _)),
      allV_pt h ((maxL_le r p).1.elim (fun h => by rw [h]; exact List.mem_cons_self ..) (List.mem_cons_of_mem _))⟩
theorem colI_is {ps : List Pt} (h0 : 0 < ps.length) : colI ps (minL (ps.getD 0 (0, 0)) (ps.drop 1)) (maxL (ps.getD 0 (0, 0)) (ps.drop 1)) 0 = specCol ps := by
  rw [col_same]
  cases ps with
  | nil => cases h0
  | cons p r => rfl
theorem impl_col (ps : List Pt) (h : Big ps) : Res Try.prog 31 [.row ps.length (.ints (flat ps))] (.bool (colV ps)) := by
  refine bodyX_res mixed E11_ok (m := 30) (n := 12) rfl ?_
  rw [tr_colIF]
  unfold Big at h
  simp only [List.drop_zero, ptsA_flat, flat_length]
  unfold colV okL
  by_cases hl : ps.length ≤ 20
  · have hl2 : (ps.length : Int) ≤ 20 := by omega
    cases hk : allV ps
    · simp [Tree.ok, brT, h, hl, hl2]
    · by_cases h0 : ps.length = 0
      · have : ps = [] := List.eq_nil_of_length_eq_zero h0
        subst this
        simp [Tree.ok, brT, specCol, alF]
      · have h1 : 0 < ps.length := by omega
        obtain ⟨e1, e2⟩ := ends_ok hk h1
        have hb : ((ps.length : Int) == 0) = false := beq_eq_false_iff_ne.2 (by omega)
        have hc := colI_is h1
        simp only [hl2, hk, hb, decide_true, Bool.not_true, brT_t, brT_f, Tree.ok, Prod.eta, hc]
        repeat refine And.intro (by first | exact True.intro | exact rfl | omega | assumption) ?_
        cases hs : specCol ps <;> simp [Tree.ok, brT, hl]
  · have hl2 : ¬ (ps.length : Int) ≤ 20 := by omega
    simp [Tree.ok, brT, hl, hl2]
def pCol0 : List DArg → Option (Value × List Prop)
  | [.row m (.ints xs)] => some (.bool (specCol (ptsA m xs)), [m * 2 ≤ xs.length, m ≤ 20, allV (ptsA m xs) = true])
  | _ => none
def T7' : Tab := fun f ds => match f with
  | 85 => pCol0 ds
  | f => T6' f ds
theorem T7'_ok : TabOk Try.prog T7' := by
  intro f ds v C h hC
  unfold T7' at h
  split at h
  · unfold pCol0 at h
    split at h
    · rename_i m xs
      obtain ⟨rfl, rfl⟩ : _ ∧ _ := by simpa using h
      obtain ⟨h1, h3, h4, _⟩ := hC
      obtain ⟨_, h2⟩ := ptsA_spec h1
      have h0 := spec_col (ptsA m xs) (by omega) h4
      exact res_pts1 (pre := []) (post := []) h1 h0
    · cases h
  · exact T6'_ok _ _ _ _ h hC
def E12 : Env := mkE (T7') (R4) (fun _ => noL)
theorem E12_ok : EnvOk Try.prog E12 := mkEOk (T7'_ok) (R4_ok) (fun _ _ _ => noL_good)
set_option maxRecDepth 100000 in
theorem tr_specColF (ps : List Pt) : bodyX Try.prog E12 30 12 48 [.row ps.length (.ints (flat ps))] = .need (ps.length * (2 : Nat) ≤ (List.drop (0 : Nat) (flat ps)).length) (.need (ps.length ≤ (1000000000 : Nat)) (brT (okL (ptsA ps.length (List.drop 0 (flat ps)))) (.need (ps.length * (2 : Nat) ≤ (List.drop (0 : Nat) (flat ps)).length) (.need (ps.length ≤ (20 : Nat)) (.need (allV (ptsA ps.length (List.drop (0 : Nat) (flat ps))) = true) (.fin (.bool (specCol (ptsA ps.length (List.drop 0 (flat ps))))) [some ⟨.view, .ints (flat ps)⟩])))) (.fin (.bool (false)) [some ⟨.view, .ints (flat ps)⟩]))) := by kernel_rfl
theorem spec_Col (ps : List Pt) (h : Big ps) : Res Try.prog 48 [.row ps.length (.ints (flat ps))] (.bool (colV ps)) := by
  refine bodyX_res mixed E12_ok (m := 30) (n := 12) rfl ?_
  rw [tr_specColF]
  unfold Big at h
  simp only [List.drop_zero, ptsA_flat, flat_length]
  unfold colV
  cases hk : okL ps
  · simp [Tree.ok, brT, h]
  · simp only [okL, Bool.and_eq_true, decide_eq_true_eq] at hk
    simp [Tree.ok, brT, h, hk]
def pPB (g : List Pt → Bool) : List DArg → Option (Value × List Prop)
  | [.row m (.ints xs)] => some (.bool (g (ptsA m xs)), [m * 2 ≤ xs.length, m ≤ 1000000000])
  | _ => none
theorem pPB_ok {f : FuncId} {g : List Pt → Bool} (h : ∀ ps : List Pt, Big ps → Res Try.prog f [.row ps.length (.ints (flat ps))] (.bool (g ps))) {ds : List DArg} {v : Value} {C : List Prop} (hd : pPB g ds = some (v, C)) (hC : AllP C) : Res Try.prog f ds v := by
  unfold pPB at hd
  split at hd
  · rename_i m xs
    obtain ⟨rfl, rfl⟩ : _ ∧ _ := by simpa using hd
    obtain ⟨_, h2⟩ := ptsA_spec hC.1
    exact res_pts1 (pre := []) (post := []) hC.1 (h (ptsA m xs) (by unfold Big; rw [h2]; exact hC.2.1))
  · cases hd
def T8' : Tab := fun f ds => match f with
  | 48 => pPB colV ds
  | 31 => pPB colV ds
  | f => T6' f ds
theorem T8'_ok : TabOk Try.prog T8' := by
  intro f ds v C h hC
  unfold T8' at h
  split at h
  · exact pPB_ok spec_Col h hC
  · exact pPB_ok impl_col h hC
  · exact T6'_ok _ _ _ _ h hC
def E13 : Env := mkE (T8') (R4) (fun _ => noL)
theorem E13_ok : EnvOk Try.prog E13 := mkEOk (T8'_ok) (R4_ok) (fun _ _ _ => noL_good)
end Go.Proofs.Ytieibbdfdepmbaa
