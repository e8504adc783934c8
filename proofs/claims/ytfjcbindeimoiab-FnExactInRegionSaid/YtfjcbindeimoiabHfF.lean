/-
  Lists of half-planes: the functions; the exact law of ValidHalves. Written by an AI agent.
-/
import Derived.Test.YtfjcbindeimoiabHf
namespace Go.Proofs.Ytfjcbindeimoiab
open Go.RowKit

theorem Lr_toHf {fn : Func} (hf : Try.prog.funcs[53]? = some fn) : LoopsGood Try.prog (lt1 e_toHf) 0 (codeOf fn) := by
  obtain rfl := fn_is Try.func53 hf
  exact lt1_good lg_toHf
theorem Lr_eqHf {fn : Func} (hf : Try.prog.funcs[55]? = some fn) : LoopsGood Try.prog (lt1 e_eqHf) 0 (codeOf fn) := by
  obtain rfl := fn_is Try.func55 hf
  exact lt1_good lg_eqHf
theorem Lr_svHf {fn : Func} (hf : Try.prog.funcs[115]? = some fn) : LoopsGood Try.prog (lt1 e_svHf) 0 (codeOf fn) := by
  obtain rfl := fn_is Try.func115 hf
  exact lt1_good lg_svHf
theorem Lr_ivHf {fn : Func} (hf : Try.prog.funcs[54]? = some fn) : LoopsGood Try.prog (lt1 e_ivHf) 0 (codeOf fn) := by
  obtain rfl := fn_is Try.func54 hf
  exact lt1_good lg_ivHf
def LHf : FuncId → LT := fun f => match f with
  | 53 => lt1 e_toHf
  | 55 => lt1 e_eqHf
  | 115 => lt1 e_svHf
  | 54 => lt1 e_ivHf
  | _ => noL
def EHf1 : Env := mkE THf (fun _ _ => none) LHf
theorem EHf1_ok : EnvOk Try.prog EHf1 := mkEOk THf_ok (fun _ _ _ _ _ h => (by cases h)) (by
  intro f fn hf
  unfold LHf
  split
  all_goals first | with_reducible exact Lr_toHf hf | with_reducible exact Lr_eqHf hf | with_reducible exact Lr_svHf hf | with_reducible exact Lr_ivHf hf | exact noL_good)
set_option maxRecDepth 100000 in
theorem tr_toHfF (n : Nat) (xs : List Int) : bodyX Try.prog EHf1 30 12 53 [.row n (.ints xs)] = .need ((0 : Int) ≤ (↑n : Int) ∧ (↑n : Int) ≤ (↑n : Int) ∧ (24 : Nat) * (↑n : Int).toNat ≤ (281474976710656 : Nat) ∧ (↑n : Int) ≤ (9223372036854775807 : Int)) (.need ((0 : Int) = (0 : Int)) (.need ((↑n : Int).toNat = n) (.need (xs.length = n * (3 : Nat)) (.need ((List.replicate ((↑n : Int).toNat * (3 : Nat)) (0 : Int)).length = n * (3 : Nat)) (.need (n ≤ (1000000000 : Nat)) (.fin (.slice (some ⟨1, 0, none⟩) (n) (n)) [some ⟨.view, .ints (xs)⟩, some ⟨.row 136 3, .ints (xs)⟩])))))) := by kernel_rfl
set_option maxRecDepth 100000 in
theorem tr_eqHfF (n : Nat) (xs : List Int) : bodyV Try.prog EHf1 30 12 55 [.row n (.ints xs), .row n (.ints xs)] = brT (!(↑n : Int) == (↑n : Int)) (.fin (.bool (false)) []) (.need ((0 : Int) = (0 : Int)) (.need (n = n) (.need (xs = xs) (.need (xs.length = n * (3 : Nat)) (.need (n ≤ (1000000000 : Nat)) (.fin (.bool (true)) [])))))) := by kernel_rfl
set_option maxRecDepth 100000 in
theorem tr_svHfF (n : Nat) (xs : List Int) : bodyV Try.prog EHf1 30 12 115 [.row n (.ints xs)] = .need ((0 : Int) = (0 : Int)) (.need (xs.length = n * (3 : Nat)) (.need (n ≤ (1000000000 : Nat)) (brT (allQ (hfQ xs) 0 n) (.fin (.bool (decide ((↑n : Int) ≤ 8))) []) (.fin (.bool (false)) [])))) := by kernel_rfl
set_option maxRecDepth 100000 in
theorem tr_ivHfF (n : Nat) (xs : List Int) : bodyV Try.prog EHf1 30 12 54 [.row n (.ints xs)] = .need ((0 : Int) = (0 : Int)) (.need (n = n) (.need ((↑n : Int) = (↑n : Int)) (.need (xs.length = n * (3 : Nat)) (.need (n ≤ (1000000000 : Nat)) (brT (allQ (hfQ xs) 0 n) (.fin (.bool (decide ((↑n : Int) ≤ 8))) []) (.fin (.bool (false)) [])))))) := by kernel_rfl
/-- Are so many half-planes valid? -/
def vhB (n : Nat) (xs : List Int) : Bool := allQ (hfQ xs) 0 n && decide (n ≤ 8)
theorem resR_toHf (n : Nat) (xs : List Int) (hx : xs.length = n * 3) (h : Lim n) : ResR Try.prog 53 [.row n (.ints xs)] (.slice (some ⟨0, 0, none⟩) n n) ⟨.row 136 3, .ints xs⟩ := by
  refine bodyX_resR mixed EHf1_ok (m := 30) (n := 12) rfl ?_
  rw [tr_toHfF]
  unfold Lim at h
  simp only [Tree.ok, Int.toNat_natCast, List.length_replicate]
  exact ⟨by omega, trivial, trivial, hx, trivial, h, some 1, ⟨rfl, rfl, rfl⟩, rfl, rfl, rfl⟩
theorem res_eqHf (n : Nat) (xs : List Int) (hx : xs.length = n * 3) (h : Lim n) : Res Try.prog 55 [.row n (.ints xs), .row n (.ints xs)] (.bool true) := by
  refine bodyV_res mixed EHf1_ok (m := 30) (n := 12) rfl ?_
  rw [tr_eqHfF]
  unfold Lim at h
  simp [brT_ok, Tree.ok, hx, h]
theorem res_svHf (n : Nat) (xs : List Int) (hx : xs.length = n * 3) (h : Lim n) : Res Try.prog 115 [.row n (.ints xs)] (.bool (vhB n xs)) := by
  refine bodyV_res mixed EHf1_ok (m := 30) (n := 12) rfl ?_
  rw [tr_svHfF]
  unfold Lim at h
  unfold vhB
  cases hv : allQ (hfQ xs) 0 n <;> simp [brT_ok, Tree.ok, hx, h]
  omega
theorem res_ivHf (n : Nat) (xs : List Int) (hx : xs.length = n * 3) (h : Lim n) : Res Try.prog 54 [.row n (.ints xs)] (.bool (vhB n xs)) := by
  refine bodyV_res mixed EHf1_ok (m := 30) (n := 12) rfl ?_
  rw [tr_ivHfF]
  unfold Lim at h
  unfold vhB
  cases hv : allQ (hfQ xs) 0 n <;> simp [brT_ok, Tree.ok, hx, h]
  omega
def pVh : List DArg → Option (Value × List Prop)
  | [.row n (.ints xs)] => some (.bool (vhB n xs), [xs.length = n * 3, Lim n])
  | _ => none
def pEh : List DArg → Option (Value × List Prop)
  | [.row n (.ints xs), .row m (.ints ys)] => some (.bool true, [n = m, xs = ys, xs.length = n * 3, Lim n])
  | _ => none
theorem pVs_ok {ds : List DArg} {v : Value} {C : List Prop} (h : pVh ds = some (v, C)) (hC : AllP C) : Res Try.prog 115 ds v := by
  unfold pVh at h
  split at h
  · obtain ⟨rfl, rfl⟩ : _ ∧ _ := by simpa using h
    exact res_svHf _ _ hC.1 hC.2.1
  · cases h
theorem pVi_ok {ds : List DArg} {v : Value} {C : List Prop} (h : pVh ds = some (v, C)) (hC : AllP C) : Res Try.prog 54 ds v := by
  unfold pVh at h
  split at h
  · obtain ⟨rfl, rfl⟩ : _ ∧ _ := by simpa using h
    exact res_ivHf _ _ hC.1 hC.2.1
  · cases h
theorem pEh_ok {ds : List DArg} {v : Value} {C : List Prop} (h : pEh ds = some (v, C)) (hC : AllP C) : Res Try.prog 55 ds v := by
  unfold pEh at h
  split at h
  · obtain ⟨rfl, rfl⟩ : _ ∧ _ := by simpa using h
    obtain ⟨rfl, rfl, h1, h2, _⟩ := hC
    exact res_eqHf _ _ h1 h2
  · cases h
def THf2 : Tab := fun f ds => match f with
  | 115 => pVh ds
  | 54 => pVh ds
  | 55 => pEh ds
  | f => THf f ds
theorem THf2_ok : TabOk Try.prog THf2 := by
  intro f ds v C h hC
  unfold THf2 at h
  split at h
  all_goals first | with_reducible exact pVs_ok h hC | with_reducible exact pVi_ok h hC | with_reducible exact pEh_ok h hC | exact THf_ok _ _ _ _ h hC
def RHf : TabR := fun f ds => match f, ds with
  | 53, [.row n (.ints xs)] => some (.slice (some ⟨0, 0, none⟩) n n, ⟨.row 136 3, .ints xs⟩, [xs.length = n * 3, Lim n])
  | _, _ => none
theorem RHf_ok : TabROk Try.prog RHf := by
  intro f ds v b C h hC
  unfold RHf at h
  split at h
  · obtain ⟨rfl, rfl, rfl⟩ : _ ∧ _ ∧ _ := by simpa using h
    exact resR_toHf _ _ hC.1 hC.2.1
  · cases h
def EHf2 : Env := mkE THf2 RHf (fun _ => noL)
theorem EHf2_ok : EnvOk Try.prog EHf2 := mkEOk THf2_ok RHf_ok (fun _ _ _ => noL_good)
set_option maxRecDepth 100000 in
theorem tr_exVh (n : Nat) (xs : List Int) : bodyV Try.prog EHf2 30 12 11 [.row n (.ints xs)] = brT (decide (IntKind.i64.wrap (1048576 - (↑n : Int)) < 0)) (.fin (.bool (true)) []) (brT (decide (IntKind.i64.wrap (1048576 - (↑n : Int)) < 0)) (.fin (.bool (true)) []) (.need ((List.drop (0 : Nat) xs).length = n * (3 : Nat)) (.need (Lim n) (.need ((List.drop (0 : Nat) (List.drop (0 : Nat) xs)).length = n * (3 : Nat)) (.need (Lim n) (.need ((List.drop (0 : Nat) xs).length = n * (3 : Nat)) (.need (Lim n) (.need ((List.drop (0 : Nat) (List.drop (0 : Nat) xs)).length = n * (3 : Nat)) (.need (Lim n) (brT (!vhB n (List.drop 0 (List.drop 0 xs)) == vhB n (List.drop 0 (List.drop 0 xs))) (.fin (.bool (false)) []) (.need ((List.drop (0 : Nat) xs).length = n * (3 : Nat)) (.need (Lim n) (.need (n = n) (.need (List.drop (0 : Nat) (List.drop (0 : Nat) xs) = List.drop (0 : Nat) (List.drop (0 : Nat) xs)) (.need ((List.drop (0 : Nat) (List.drop (0 : Nat) xs)).length = n * (3 : Nat)) (.need (Lim n) (.fin (.bool (true)) []))))))))))))))))) := by kernel_rfl
theorem ExactValidHalves_res (n : Nat) (xs : List Int) (hx : xs.length = n * 3) (h : (n : Int) ≤ 9223372036854775807) : Res Try.prog 11 [.row n (.ints xs)] (.bool true) := by
  refine bodyV_res mixed EHf2_ok (m := 30) (n := 12) rfl ?_
  rw [tr_exVh]
  simp only [List.drop_zero]
  by_cases hl : (1048576 : Int) - n < 0
  · simp (disch := omega) only [wr]
    simp only [hl, decide_true, brT_t, Tree.ok]
  · have hP : Lim n := by unfold Lim; omega
    simp (disch := omega) only [wr]
    simp only [hl, decide_false, brT_f, Tree.ok, beq_self_eq_true, Bool.not_true]
    repeat' (first | exact True.intro | assumption | omega | exact rfl | refine And.intro ?_ ?_)
end Go.Proofs.Ytfjcbindeimoiab
