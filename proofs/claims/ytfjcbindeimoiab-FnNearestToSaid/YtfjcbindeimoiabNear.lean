/-
  NearestTo, both ways. Written by an AI agent.
-/
import Derived.Test.YtfjcbindeimoiabLpC
import Derived.Test.YtfjcbindeimoiabSqJ
namespace Go.Proofs.Ytfjcbindeimoiab
open Go.RowKit

theorem Lr_specNear {fn : Func} (hf : Try.prog.funcs[49]? = some fn) : LoopsGood Try.prog (lt1 e_specNear) 0 (codeOf fn) := by
  obtain rfl := code_of Try.func49 hf
  exact lt1_good lg_specNear
theorem Lr_flNear {fn : Func} (hf : Try.prog.funcs[110]? = some fn) : LoopsGood Try.prog (lt1 e_flNear) 0 (codeOf fn) := by
  obtain rfl := code_of Try.func110 hf
  exact lt1_good lg_flNear
def L6n : FuncId → LT := fun f => match f with
  | 49 => lt1 e_specNear
  | 110 => lt1 e_flNear
  | _ => noL
def E6n : Env := mkE T3 R4 L6n
theorem E6n_ok : EnvOk Try.prog E6n := mkEOk T3_ok R4_ok (by
  intro f fn hf
  unfold L6n
  split
  all_goals first | with_reducible exact Lr_specNear hf | with_reducible exact Lr_flNear hf | exact noL_good)
set_option maxRecDepth 100000 in
theorem tr_specNearF (ps : List Pt) (x y : Int) : bodyX Try.prog E6n 30 12 49 [.row ps.length (.ints (flat ps)), .v (.agg #[iv x, iv y])] = .need (ps.length * (2 : Nat) ≤ (List.drop (0 : Nat) (flat ps)).length) (.need (ps.length ≤ (1000000000 : Nat)) (brT (!okL (ptsA ps.length (List.drop 0 (flat ps)))) (.fin (.int .i64 (-1)) [some ⟨.view, .ints (flat ps)⟩, none, some ⟨.box, .vals [.int .i64 (x), .int .i64 (y)]⟩]) (brT ((↑ps.length : Int) == 0) (.fin (.int .i64 (-1)) [some ⟨.view, .ints (flat ps)⟩, none, some ⟨.box, .vals [.int .i64 (x), .int .i64 (y)]⟩]) (brT (!ptB x y) (.fin (.int .i64 (-1)) [some ⟨.view, .ints (flat ps)⟩, none, some ⟨.box, .vals [.int .i64 (x), .int .i64 (y)]⟩]) (.need ((0 : Int) = (0 : Int)) (.need ((0 : Int) = (0 : Int)) (.need ((flat ps).length = ps.length * (2 : Nat)) (.need (ps.length ≤ (20 : Nat)) (.need (allV (ptsA ps.length (flat ps)) = true) (.need (ptB x y = true) (.need ((0 : Nat) < ps.length) (.fin (.int .i64 ((↑(ag (fN (x, y)) (ptsA ps.length (flat ps)) ps.length 0 0) : Int))) [some ⟨.view, .ints (flat ps)⟩, none, some ⟨.box, .vals [.int .i64 (x), .int .i64 (y)]⟩])))))))))))) := by kernel_rfl
set_option maxRecDepth 100000 in
theorem tr_implNearF (ps : List Pt) (x y : Int) : bodyX Try.prog E6n 30 12 48 [.row ps.length (.ints (flat ps)), .v (.agg #[iv x, iv y])] = brT (decide ((↑ps.length : Int) ≤ 20)) (.need (ps.length * (2 : Nat) ≤ (List.drop (0 : Nat) (flat ps)).length) (.need (ps.length ≤ (1000000000 : Nat)) (brT (!allV (ptsA ps.length (List.drop 0 (flat ps)))) (.fin (.int .i64 (-1)) [some ⟨.view, .ints (flat ps)⟩, none, some ⟨.box, .vals [.int .i64 (x), .int .i64 (y)]⟩]) (brT (!ptB x y) (.fin (.int .i64 (-1)) [some ⟨.view, .ints (flat ps)⟩, none, some ⟨.box, .vals [.int .i64 (x), .int .i64 (y)]⟩]) (.need ((0 : Int) = (0 : Int)) (.need ((-1 : Int) = (-1 : Int)) (.need ((0 : Int) = (0 : Int)) (.need ((↑ps.length : Int) = (↑ps.length : Int)) (.need ((flat ps).length = ps.length * (2 : Nat)) (.need (ps.length ≤ (20 : Nat)) (.need (allV (ptsA ps.length (flat ps)) = true) (.need (ptB x y = true) (.fin (.int .i64 (fl (fN (x, y)) (ptsA ps.length (flat ps)) 0 (-1))) [some ⟨.view, .ints (flat ps)⟩, none, some ⟨.box, .vals [.int .i64 (x), .int .i64 (y)]⟩]))))))))))))) (.fin (.int .i64 (-1)) [some ⟨.view, .ints (flat ps)⟩, none, some ⟨.box, .vals [.int .i64 (x), .int .i64 (y)]⟩]) := by kernel_rfl
/-- The first largest, if all is valid. -/
def flV (f : Pt → Int) (ps : List Pt) (x y : Int) : Int := bif okL ps && ptB x y then fl f ps 0 (-1) else -1
theorem fl_ag {f : Pt → Int} {ps : List Pt} (h : 0 < ps.length) : fl f ps 0 (-1) = (ag f ps ps.length 0 0 : Nat) := by
  have e := ag_step (f := f) h 0
  rw [Nat.sub_zero, if_neg (Int.lt_irrefl _)] at e
  unfold fl
  rw [if_pos (by omega), if_neg (by omega), e]
theorem fl_nil {f : Pt → Int} {ps : List Pt} (h : ps.length = 0) : fl f ps 0 (-1) = -1 := by
  unfold fl
  rw [if_pos (by omega), if_pos (by omega)]
theorem spec_near (ps : List Pt) (x y : Int) (h : Big ps) : Res Try.prog 49 [.row ps.length (.ints (flat ps)), .v (.agg #[iv x, iv y])] (iv (flV (fN (x, y)) ps x y)) := by
  refine bodyX_res mixed E6n_ok (m := 30) (n := 12) rfl ?_
  rw [tr_specNearF]
  unfold Big at h
  simp only [List.drop_zero, ptsA_flat, flat_length]
  unfold flV
  cases hk : okL ps
  · simp [Tree.ok, brT, h]
  · simp only [okL, Bool.and_eq_true, decide_eq_true_eq] at hk
    by_cases hl : ps.length = 0
    · have := fl_nil (f := fN (x, y)) hl
      cases hq : ptB x y <;> simp [Tree.ok, brT, hl, this]
    · have := fl_ag (f := fN (x, y)) (ps := ps) (by omega)
      have hb : ((ps.length : Int) == 0) = false := beq_eq_false_iff_ne.2 (by omega)
      cases hq : ptB x y <;> simp [Tree.ok, brT, h, hk, this, hb, Nat.pos_of_ne_zero hl]
theorem impl_near (ps : List Pt) (x y : Int) (h : Big ps) : Res Try.prog 48 [.row ps.length (.ints (flat ps)), .v (.agg #[iv x, iv y])] (iv (flV (fN (x, y)) ps x y)) := by
  refine bodyX_res mixed E6n_ok (m := 30) (n := 12) rfl ?_
  rw [tr_implNearF]
  unfold Big at h
  simp only [List.drop_zero, ptsA_flat, flat_length]
  unfold flV okL
  by_cases hl : ps.length ≤ 20
  · have hl2 : (ps.length : Int) ≤ 20 := by omega
    cases hk : allV ps <;> cases hq : ptB x y <;> simp [Tree.ok, brT, h, hl, hl2]
  · have hl2 : ¬ (ps.length : Int) ≤ 20 := by omega
    simp [Tree.ok, brT, hl, hl2]
def pPP (g : List Pt → Int → Int → Int) : List DArg → Option (Value × List Prop)
  | [.row m (.ints xs), .v (.agg ⟨[.int .i64 x, .int .i64 y]⟩)] => some (iv (g (ptsA m xs) x y), [m * 2 ≤ xs.length, m ≤ 1000000000])
  | _ => none
theorem pPP_ok {f : FuncId} {g : List Pt → Int → Int → Int} (h : ∀ (ps : List Pt) (x y : Int), Big ps → Res Try.prog f [.row ps.length (.ints (flat ps)), .v (.agg #[iv x, iv y])] (iv (g ps x y))) {ds : List DArg} {v : Value} {C : List Prop} (hd : pPP g ds = some (v, C)) (hC : AllP C) : Res Try.prog f ds v := by
  unfold pPP at hd
  split at hd
  · rename_i m xs x y
    obtain ⟨rfl, rfl⟩ : _ ∧ _ := by simpa using hd
    obtain ⟨_, h2⟩ := ptsA_spec hC.1
    exact res_pts1 (pre := []) (post := [_]) hC.1 (h (ptsA m xs) x y (by unfold Big; rw [h2]; exact hC.2.1))
  · cases hd
def nearV (ps : List Pt) (x y : Int) : Int := flV (fN (x, y)) ps x y
theorem pNs_ok {ds : List DArg} {v : Value} {C : List Prop} (h : pPP nearV ds = some (v, C)) (hC : AllP C) : Res Try.prog 49 ds v := pPP_ok spec_near h hC
theorem pNi_ok {ds : List DArg} {v : Value} {C : List Prop} (h : pPP nearV ds = some (v, C)) (hC : AllP C) : Res Try.prog 48 ds v := pPP_ok impl_near h hC
def T4n : Tab := fun f ds => match f with
  | 49 => pPP nearV ds
  | 48 => pPP nearV ds
  | 50 => pSqK ds
  | f => T3 f ds
theorem T4n_ok : TabOk Try.prog T4n := by
  intro f ds v C h hC
  unfold T4n at h
  split at h
  all_goals first | with_reducible exact pNs_ok h hC | with_reducible exact pNi_ok h hC | with_reducible exact pSqK_ok h | exact T3_ok _ _ _ _ h hC
end Go.Proofs.Ytfjcbindeimoiab
