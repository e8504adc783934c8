/-
  MinFunc and MaxFunc over points in order. Written by an AI agent.
-/
import Derived.Test.YtieibbdfdepmbaaLpD
namespace Go.Proofs.Ytieibbdfdepmbaa
set_option linter.all false
open Go.RowKit

def L8 : FuncId → LT := fun f => match f with
  | 68 => lt1 e_minF
  | 77 => lt1 e_maxF
  | _ => noL
def E9 : Env := mkE (T5') (R4) (L8)
theorem E9_ok : EnvOk Try.prog E9 := by
  refine mkEOk T5'_ok (R4_ok) fun f fn hf => ?_
  show LoopsGood Try.prog (L8 f) 0 (codeOf fn)
  unfold L8
  split
  · obtain rfl := code_of Try.func68 hf
    exact lt1_good lg_minF
  · obtain rfl := code_of Try.func77 hf
    exact lt1_good lg_maxF
  · exact noL_good
set_option maxRecDepth 100000 in
theorem tr_minFF (ps : List Pt) : bodyX Try.prog E9 30 12 68 [.row ps.length (.ints (flat ps)), .v (.func (.func 69) #[] #[])] = brT (decide ((↑ps.length : Int) < 1)) (.bad) (.need ((0 : Int) ≤ (0 : Int) ∧ (0 : Int) < (↑ps.length : Int)) (.need ((2 : Nat) ≤ (flat ps).length) (.need ((1 : Int) = (1 : Int)) (.need ((0 : Int) = (0 : Int)) (.need ((0 : Int) = (0 : Int)) (.need ((flat ps).length = ps.length * (2 : Nat)) (.need (ps.length ≤ (1000000000 : Nat)) (.need ((0 : Nat) < ps.length) (.fin (.agg #[.int .i64 ((minL ((flat ps).getD (0 + Int.toNat 0 * (2 : Nat)) 0, (flat ps).getD (0 + Int.toNat 0 * (2 : Nat) + 1) 0) (List.drop 1 (ptsA ps.length (flat ps)))).1), .int .i64 ((minL ((flat ps).getD (0 + Int.toNat 0 * (2 : Nat)) 0, (flat ps).getD (0 + Int.toNat 0 * (2 : Nat) + 1) 0) (List.drop 1 (ptsA ps.length (flat ps)))).2)]) [some ⟨.view, .ints (flat ps)⟩, none, some ⟨.box, .vals [.int .i64 ((minL ((flat ps).getD (0 + Int.toNat 0 * (2 : Nat)) 0, (flat ps).getD (0 + Int.toNat 0 * (2 : Nat) + 1) 0) (List.drop 1 (ptsA ps.length (flat ps)))).1), .int .i64 ((minL ((flat ps).getD (0 + Int.toNat 0 * (2 : Nat)) 0, (flat ps).getD (0 + Int.toNat 0 * (2 : Nat) + 1) 0) (List.drop 1 (ptsA ps.length (flat ps)))).2)]⟩, some ⟨.box, .vals [.int .i64 ((minL ((flat ps).getD (0 + Int.toNat 0 * (2 : Nat)) 0, (flat ps).getD (0 + Int.toNat 0 * (2 : Nat) + 1) 0) (List.drop 1 (ptsA ps.length (flat ps)))).1), .int .i64 ((minL ((flat ps).getD (0 + Int.toNat 0 * (2 : Nat)) 0, (flat ps).getD (0 + Int.toNat 0 * (2 : Nat) + 1) 0) (List.drop 1 (ptsA ps.length (flat ps)))).2)]⟩]))))))))) := by kernel_rfl
set_option maxRecDepth 100000 in
theorem tr_maxFF (ps : List Pt) : bodyX Try.prog E9 30 12 77 [.row ps.length (.ints (flat ps)), .v (.func (.func 69) #[] #[])] = brT (decide ((↑ps.length : Int) < 1)) (.bad) (.need ((0 : Int) ≤ (0 : Int) ∧ (0 : Int) < (↑ps.length : Int)) (.need ((2 : Nat) ≤ (flat ps).length) (.need ((1 : Int) = (1 : Int)) (.need ((0 : Int) = (0 : Int)) (.need ((0 : Int) = (0 : Int)) (.need ((flat ps).length = ps.length * (2 : Nat)) (.need (ps.length ≤ (1000000000 : Nat)) (.need ((0 : Nat) < ps.length) (.fin (.agg #[.int .i64 ((maxL ((flat ps).getD (0 + Int.toNat 0 * (2 : Nat)) 0, (flat ps).getD (0 + Int.toNat 0 * (2 : Nat) + 1) 0) (List.drop 1 (ptsA ps.length (flat ps)))).1), .int .i64 ((maxL ((flat ps).getD (0 + Int.toNat 0 * (2 : Nat)) 0, (flat ps).getD (0 + Int.toNat 0 * (2 : Nat) + 1) 0) (List.drop 1 (ptsA ps.length (flat ps)))).2)]) [some ⟨.view, .ints (flat ps)⟩, none, some ⟨.box, .vals [.int .i64 ((maxL ((flat ps).getD (0 + Int.toNat 0 * (2 : Nat)) 0, (flat ps).getD (0 + Int.toNat 0 * (2 : Nat) + 1) 0) (List.drop 1 (ptsA ps.length (flat ps)))).1), .int .i64 ((maxL ((flat ps).getD (0 + Int.toNat 0 * (2 : Nat)) 0, (flat ps).getD (0 + Int.toNat 0 * (2 : Nat) + 1) 0) (List.drop 1 (ptsA ps.length (flat ps)))).2)]⟩, some ⟨.box, .vals [.int .i64 ((maxL ((flat ps).getD (0 + Int.toNat 0 * (2 : Nat)) 0, (flat ps).getD (0 + Int.toNat 0 * (2 : Nat) + 1) 0) (List.drop 1 (ptsA ps.length (flat ps)))).1), .int .i64 ((maxL ((flat ps).getD (0 + Int.toNat 0 * (2 : Nat)) 0, (flat ps).getD (0 + Int.toNat 0 * (2 : Nat) + 1) 0) (List.drop 1 (ptsA ps.length (flat ps)))).2)]⟩]))))))))) := by kernel_rfl
theorem res_minF (ps : List Pt) (h : Big ps) (h0 : 0 < ps.length) : Res Try.prog 68 [.row ps.length (.ints (flat ps)), .v (.func (.func 69) #[] #[])] (.agg #[iv (minL (ps.getD 0 (0, 0)) (ps.drop 1)).1, iv (minL (ps.getD 0 (0, 0)) (ps.drop 1)).2]) := by
  refine bodyX_res mixed E9_ok (m := 30) (n := 12) rfl ?_
  rw [tr_minFF]
  unfold Big at h
  have e0 : Int.toNat 0 = 0 := rfl
  have g0 := flat_get0 ps 0
  have g1 := flat_get1 ps 0
  simp only [Nat.zero_mul, Nat.zero_add] at g0 g1
  simp only [brT_ok, Tree.ok, ptsA_flat, flat_length, e0, Nat.zero_mul, Nat.zero_add, g0, g1, decide_eq_true_eq]
  refine ⟨by omega, fun _ => ?_⟩
  repeat' (first | exact True.intro | omega | exact rfl | refine And.intro ?_ ?_)
theorem res_maxF (ps : List Pt) (h : Big ps) (h0 : 0 < ps.length) : Res Try.prog 77 [.row ps.length (.ints (flat ps)), .v (.func (.func 69) #[] #[])] (.agg #[iv (maxL (ps.getD 0 (0, 0)) (ps.drop 1)).1, iv (maxL (ps.getD 0 (0, 0)) (ps.drop 1)).2]) := by
  refine bodyX_res mixed E9_ok (m := 30) (n := 12) rfl ?_
  rw [tr_maxFF]
  unfold Big at h
  have e0 : Int.toNat 0 = 0 := rfl
  have g0 := flat_get0 ps 0
  have g1 := flat_get1 ps 0
  simp only [Nat.zero_mul, Nat.zero_add] at g0 g1
  simp only [brT_ok, Tree.ok, ptsA_flat, flat_length, e0, Nat.zero_mul, Nat.zero_add, g0, g1, decide_eq_true_eq]
  refine ⟨by omega, fun _ => ?_⟩
  repeat' (first | exact True.intro | omega | exact rfl | refine And.intro ?_ ?_)
def pMin (g : Pt → List Pt → Pt) : List DArg → Option (Value × List Prop)
  | [.row m (.ints xs), .v (.func (.func 69) ⟨[]⟩ ⟨[]⟩)] => some (.agg #[iv (g ((ptsA m xs).getD 0 (0, 0)) ((ptsA m xs).drop 1)).1, iv (g ((ptsA m xs).getD 0 (0, 0)) ((ptsA m xs).drop 1)).2], [m * 2 ≤ xs.length, m ≤ 1000000000, 0 < m])
  | _ => none
theorem pMin_ok {f : FuncId} {g : Pt → List Pt → Pt} (h : ∀ ps : List Pt, Big ps → 0 < ps.length → Res Try.prog f [.row ps.length (.ints (flat ps)), .v (.func (.func 69) #[] #[])] (.agg #[iv (g (ps.getD 0 (0, 0)) (ps.drop 1)).1, iv (g (ps.getD 0 (0, 0)) (ps.drop 1)).2])) {ds : List DArg} {v : Value} {C : List Prop} (hd : pMin g ds = some (v, C)) (hC : AllP C) : Res Try.prog f ds v := by
  unfold pMin at hd
  split at hd
  · rename_i m xs
    simp only [Option.some.injEq, Prod.mk.injEq] at hd
    obtain ⟨rfl, rfl⟩ := hd
    obtain ⟨_, h2⟩ := ptsA_spec hC.1
    exact res_pts1 (pre := []) (post := [_]) hC.1 (h (ptsA m xs) (by unfold Big; rw [h2]; exact hC.2.1) (by rw [h2]; exact hC.2.2.1))
  · cases hd
def T6' : Tab := fun f ds => match f with
  | 68 => pMin minL ds
  | 77 => pMin maxL ds
  | f => T5' f ds
theorem T6'_ok : TabOk Try.prog T6' := by
  intro f ds v C h hC
  unfold T6' at h
  split at h
  · exact pMin_ok res_minF h hC
  · exact pMin_ok res_maxF h hC
  · exact T5'_ok _ _ _ _ h hC
def E10 : Env := mkE (T6') (R4) (fun _ => noL)
theorem E10_ok : EnvOk Try.prog E10 := mkEOk (T6'_ok) (R4_ok) (fun _ _ _ => noL_good)
end Go.Proofs.Ytieibbdfdepmbaa
