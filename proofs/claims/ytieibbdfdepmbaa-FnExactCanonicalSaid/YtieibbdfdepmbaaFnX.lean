/-
  Extreme alone (seats without NearestTo): FnC cut. Written by an AI agent.
-/
import Derived.Test.YtieibbdfdepmbaaLpC
namespace Go.Proofs.Ytieibbdfdepmbaa
set_option linter.all false
open Go.RowKit

def L6 : FuncId → LT := fun f => match f with
  | 83 => lt1 e_specExt
  | 81 => lt1 e_flExt
  | _ => noL
def E6 : Env := mkE (T3) (R4) (L6)
theorem E6_ok : EnvOk Try.prog E6 := by
  refine mkEOk T3_ok (R4_ok) fun f fn hf => ?_
  show LoopsGood Try.prog (L6 f) 0 (codeOf fn)
  unfold L6
  split
  · obtain rfl := code_of Try.func83 hf
    exact lt1_good lg_specExt
  · obtain rfl := code_of Try.func81 hf
    exact lt1_good lg_flExt
  · exact noL_good
set_option maxRecDepth 100000 in
theorem tr_extreme (ps : List Pt) (x y : Int) : bodyX Try.prog E6 30 12 83 [.row ps.length (.ints (flat ps)), .v (.agg #[iv x, iv y])] = .need ((0 : Int) = (0 : Int)) (.need ((0 : Int) = (0 : Int)) (.need ((flat ps).length = ps.length * (2 : Nat)) (.need (ps.length ≤ (20 : Nat)) (.need (allV (ptsA ps.length (flat ps)) = true) (.need (ptB x y = true) (.need ((0 : Nat) < ps.length) (.fin (.int .i64 ((↑(ag (fE (x, y)) (ptsA ps.length (flat ps)) ps.length 0 0) : Int))) [some ⟨.view, .ints (flat ps)⟩, none, some ⟨.box, .vals [.int .i64 (x), .int .i64 (y)]⟩]))))))) := by kernel_rfl
theorem spec_extreme (ps : List Pt) (x y : Int) (h3 : ps.length ≤ 20) (h4 : allV ps = true) (h5 : ptB x y = true) (h6 : 0 < ps.length) : Res Try.prog 83 [.row ps.length (.ints (flat ps)), .v (.agg #[iv x, iv y])] (iv (ag (fE (x, y)) ps ps.length 0 0 : Nat)) := by
  refine bodyX_res mixed E6_ok (m := 30) (n := 12) rfl ?_
  rw [tr_extreme]
  simp only [ptsA_flat, flat_length, Tree.ok]
  exact ⟨trivial, trivial, trivial, h3, h4, h5, h6, trivial⟩
def pExt0 : List DArg → Option (Value × List Prop)
  | [.row m (.ints xs), .v (.agg ⟨[.int .i64 x, .int .i64 y]⟩)] => some (iv (ag (fE (x, y)) (ptsA m xs) m 0 0 : Nat), [m * 2 ≤ xs.length, m ≤ 20, allV (ptsA m xs) = true, ptB x y = true, 0 < m])
  | _ => none
def T3x : Tab := fun f ds => match f with
  | 83 => pExt0 ds
  | f => T3 f ds
theorem T3x_ok : TabOk Try.prog T3x := by
  intro f ds v C h hC
  unfold T3x at h
  split at h
  · unfold pExt0 at h
    split at h
    · rename_i m xs x y
      obtain ⟨rfl, rfl⟩ : _ ∧ _ := by simpa using h
      obtain ⟨h1, h3, h4, h5, h6, _⟩ := hC
      obtain ⟨_, h2⟩ := ptsA_spec h1
      have h0 := spec_extreme (ptsA m xs) x y (by omega) h4 h5 (by omega)
      have h7 := res_pts1 (pre := []) (post := [_]) h1 h0
      rw [h2] at h7
      exact h7
    · cases h
  · exact T3_ok _ _ _ _ h hC
def E6x : Env := mkE (T3x) (R4) (fun _ => noL)
theorem E6x_ok : EnvOk Try.prog E6x := mkEOk (T3x_ok) (R4_ok) (fun _ _ _ => noL_good)
set_option maxRecDepth 100000 in
theorem tr_specExtF (ps : List Pt) (x y : Int) : bodyX Try.prog E6x 30 12 41 [.row ps.length (.ints (flat ps)), .v (.agg #[iv x, iv y])] = .need (ps.length * (2 : Nat) ≤ (List.drop (0 : Nat) (flat ps)).length) (.need (ps.length ≤ (1000000000 : Nat)) (brT (!okL (ptsA ps.length (List.drop 0 (flat ps)))) (.fin (.int .i64 (-1)) [some ⟨.view, .ints (flat ps)⟩, none, some ⟨.box, .vals [.int .i64 (x), .int .i64 (y)]⟩]) (brT ((↑ps.length : Int) == 0) (.fin (.int .i64 (-1)) [some ⟨.view, .ints (flat ps)⟩, none, some ⟨.box, .vals [.int .i64 (x), .int .i64 (y)]⟩]) (brT (!ptB x y) (.fin (.int .i64 (-1)) [some ⟨.view, .ints (flat ps)⟩, none, some ⟨.box, .vals [.int .i64 (x), .int .i64 (y)]⟩]) (.need (ps.length * (2 : Nat) ≤ (List.drop (0 : Nat) (flat ps)).length) (.need (ps.length ≤ (20 : Nat)) (.need (allV (ptsA ps.length (List.drop (0 : Nat) (flat ps))) = true) (.need (ptB x y = true) (.need ((0 : Nat) < ps.length) (.fin (.int .i64 ((↑(ag (fE (x, y)) (ptsA ps.length (List.drop 0 (flat ps))) ps.length 0 0) : Int))) [some ⟨.view, .ints (flat ps)⟩, none, some ⟨.box, .vals [.int .i64 (x), .int .i64 (y)]⟩])))))))))) := by kernel_rfl
set_option maxRecDepth 100000 in
theorem tr_implExtF (ps : List Pt) (x y : Int) : bodyX Try.prog E6 30 12 40 [.row ps.length (.ints (flat ps)), .v (.agg #[iv x, iv y])] = brT (decide ((↑ps.length : Int) ≤ 20)) (.need (ps.length * (2 : Nat) ≤ (List.drop (0 : Nat) (flat ps)).length) (.need (ps.length ≤ (1000000000 : Nat)) (brT (!allV (ptsA ps.length (List.drop 0 (flat ps)))) (.fin (.int .i64 (-1)) [some ⟨.view, .ints (flat ps)⟩, none, some ⟨.box, .vals [.int .i64 (x), .int .i64 (y)]⟩]) (brT (!ptB x y) (.fin (.int .i64 (-1)) [some ⟨.view, .ints (flat ps)⟩, none, some ⟨.box, .vals [.int .i64 (x), .int .i64 (y)]⟩]) (.need ((0 : Int) = (0 : Int)) (.need ((-1 : Int) = (-1 : Int)) (.need ((0 : Int) = (0 : Int)) (.need ((↑ps.length : Int) = (↑ps.length : Int)) (.need ((flat ps).length = ps.length * (2 : Nat)) (.need (ps.length ≤ (20 : Nat)) (.need (allV (ptsA ps.length (flat ps)) = true) (.need (ptB x y = true) (.need (x = x) (.need (y = y) (.fin (.int .i64 (fl (fE (x, y)) (ptsA ps.length (flat ps)) 0 (-1))) [some ⟨.view, .ints (flat ps)⟩, none, some ⟨.box, .vals [.int .i64 (x), .int .i64 (y)]⟩]))))))))))))))) (.fin (.int .i64 (-1)) [some ⟨.view, .ints (flat ps)⟩, none, some ⟨.box, .vals [.int .i64 (x), .int .i64 (y)]⟩]) := by kernel_rfl
/-- The first largest, if all is valid. -/
def flV (f : Pt → Int) (ps : List Pt) (x y : Int) : Int := bif okL ps && ptB x y then fl f ps 0 (-1) else -1
theorem fl_ag {f : Pt → Int} {ps : List Pt} (h : 0 < ps.length) : fl f ps 0 (-1) = (ag f ps ps.length 0 0 : Nat) := by
  have e := ag_step (f := f) h 0
  rw [Nat.sub_zero, if_neg (Int.lt_irrefl _)] at e
  unfold fl
  rw [if_pos (by omega), if_neg (by omega), e]
theorem fl_nil {f : Pt → Int} {ps : List Pt} (h : ps.length = 0) : fl f ps 0 (-1) = -1 := by
  unfold fl
  rw [if_pos (by omega), if_pos (by omega)]
theorem spec_ext (ps : List Pt) (x y : Int) (h : Big ps) : Res Try.prog 41 [.row ps.length (.ints (flat ps)), .v (.agg #[iv x, iv y])] (iv (flV (fE (x, y)) ps x y)) := by
  refine bodyX_res mixed E6x_ok (m := 30) (n := 12) rfl ?_
  rw [tr_specExtF]
  unfold Big at h
  simp only [List.drop_zero, ptsA_flat, flat_length]
  unfold flV
  cases hk : okL ps
  · simp [Tree.ok, brT, h]
  · simp only [okL, Bool.and_eq_true, decide_eq_true_eq] at hk
    by_cases hl : ps.length = 0
    · have := fl_nil (f := fE (x, y)) hl
      cases hq : ptB x y <;> simp [Tree.ok, brT, hl, this]
    · have := fl_ag (f := fE (x, y)) (ps := ps) (by omega)
      have hb : ((ps.length : Int) == 0) = false := beq_eq_false_iff_ne.2 (by omega)
      cases hq : ptB x y <;> simp [Tree.ok, brT, h, hk, this, hb, Nat.pos_of_ne_zero hl]
theorem impl_ext (ps : List Pt) (x y : Int) (h : Big ps) : Res Try.prog 40 [.row ps.length (.ints (flat ps)), .v (.agg #[iv x, iv y])] (iv (flV (fE (x, y)) ps x y)) := by
  refine bodyX_res mixed E6_ok (m := 30) (n := 12) rfl ?_
  rw [tr_implExtF]
  unfold Big at h
  simp only [List.drop_zero, ptsA_flat, flat_length]
  unfold flV okL
  by_cases hl : ps.length ≤ 20
  · have hl2 : (ps.length : Int) ≤ 20 := by omega
    cases hk : allV ps <;> cases hq : ptB x y <;> simp [Tree.ok, brT, h, hl, hl2]
  · have hl2 : ¬ (ps.length : Int) ≤ 20 := by omega
    simp [Tree.ok, brT, hl, hl2]
def pPP (g : List Pt → Int → Int → Int) : List DArg → Option (Value × List Prop)
  | [.row m (.ints xs), .v (.agg ⟨[.int .i64 x, .int .i64 y]⟩)] => some (iv (g (ptsA m xs) x y), [m * 2 ≤ xs.length, m ≤ 1000000000])
  | _ => none
theorem pPP_ok {f : FuncId} {g : List Pt → Int → Int → Int} (h : ∀ (ps : List Pt) (x y : Int), Big ps → Res Try.prog f [.row ps.length (.ints (flat ps)), .v (.agg #[iv x, iv y])] (iv (g ps x y))) {ds : List DArg} {v : Value} {C : List Prop} (hd : pPP g ds = some (v, C)) (hC : AllP C) : Res Try.prog f ds v := by
  unfold pPP at hd
  split at hd
  · rename_i m xs x y
    obtain ⟨rfl, rfl⟩ : _ ∧ _ := by simpa using hd
    obtain ⟨_, h2⟩ := ptsA_spec hC.1
    exact res_pts1 (pre := []) (post := [_]) hC.1 (h (ptsA m xs) x y (by unfold Big; rw [h2]; exact hC.2.1))
  · cases hd
def extV (ps : List Pt) (x y : Int) : Int := flV (fE (x, y)) ps x y
def T4' : Tab := fun f ds => match f with
  | 41 => pPP extV ds
  | 40 => pPP extV ds
  | f => T3 f ds
theorem T4'_ok : TabOk Try.prog T4' := by
  intro f ds v C h hC
  unfold T4' at h
  split at h
  · exact pPP_ok spec_ext h hC
  · exact pPP_ok impl_ext h hC
  · exact T3_ok _ _ _ _ h hC
def E7 : Env := mkE (T4') (R4) (fun _ => noL)
theorem E7_ok : EnvOk Try.prog E7 := mkEOk (T4'_ok) (R4_ok) (fun _ _ _ => noL_good)
end Go.Proofs.Ytieibbdfdepmbaa
