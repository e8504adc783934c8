/-
  Lists of rectangles: the functions; the exact law of ValidRects. Written by an AI agent.
-/
import Derived.Test.YtfjcbindeimoiabRcl
namespace Go.Proofs.Ytfjcbindeimoiab
open Go.RowKit

theorem Lr_toRc {fn : Func} (hf : Try.prog.funcs[61]? = some fn) : LoopsGood Try.prog (lt1 e_toRc) 0 (codeOf fn) := by
  obtain rfl := fn_is Try.func61 hf
  exact lt1_good lg_toRc
theorem Lr_eqRc {fn : Func} (hf : Try.prog.funcs[63]? = some fn) : LoopsGood Try.prog (lt1 e_eqRc) 0 (codeOf fn) := by
  obtain rfl := fn_is Try.func63 hf
  exact lt1_good lg_eqRc
theorem Lr_svRc {fn : Func} (hf : Try.prog.funcs[120]? = some fn) : LoopsGood Try.prog (lt1 e_svRc) 0 (codeOf fn) := by
  obtain rfl := fn_is Try.func120 hf
  exact lt1_good lg_svRc
theorem Lr_ivRc {fn : Func} (hf : Try.prog.funcs[62]? = some fn) : LoopsGood Try.prog (lt1 e_ivRc) 0 (codeOf fn) := by
  obtain rfl := fn_is Try.func62 hf
  exact lt1_good lg_ivRc
def LRcl : FuncId → LT := fun f => match f with
  | 61 => lt1 e_toRc
  | 63 => lt1 e_eqRc
  | 120 => lt1 e_svRc
  | 62 => lt1 e_ivRc
  | _ => noL
def ERc1 : Env := mkE TRc (fun _ _ => none) LRcl
theorem ERc1_ok : EnvOk Try.prog ERc1 := mkEOk TRc_ok (fun _ _ _ _ _ h => (by cases h)) (by
  intro f fn hf
  unfold LRcl
  split
  all_goals first | with_reducible exact Lr_toRc hf | with_reducible exact Lr_eqRc hf | with_reducible exact Lr_svRc hf | with_reducible exact Lr_ivRc hf | exact noL_good)
set_option maxRecDepth 100000 in
theorem tr_toRcF (n : Nat) (xs : List Int) : bodyX Try.prog ERc1 30 12 61 [.row n (.ints xs)] = .need ((0 : Int) ≤ (↑n : Int) ∧ (↑n : Int) ≤ (↑n : Int) ∧ (32 : Nat) * (↑n : Int).toNat ≤ (281474976710656 : Nat) ∧ (↑n : Int) ≤ (9223372036854775807 : Int)) (.need ((0 : Int) = (0 : Int)) (.need ((↑n : Int).toNat = n) (.need (xs.length = n * (4 : Nat)) (.need ((List.replicate ((↑n : Int).toNat * (4 : Nat)) (0 : Int)).length = n * (4 : Nat)) (.need (n ≤ (1000000000 : Nat)) (.fin (.slice (some ⟨1, 0, none⟩) (n) (n)) [some ⟨.view, .ints (xs)⟩, some ⟨.row 34 4, .ints (xs)⟩])))))) := by kernel_rfl
set_option maxRecDepth 100000 in
theorem tr_eqRcF (n : Nat) (xs : List Int) : bodyV Try.prog ERc1 30 12 63 [.row n (.ints xs), .row n (.ints xs)] = brT (!(↑n : Int) == (↑n : Int)) (.fin (.bool (false)) []) (.need ((0 : Int) = (0 : Int)) (.need (n = n) (.need (xs = xs) (.need (xs.length = n * (4 : Nat)) (.need (n ≤ (1000000000 : Nat)) (.fin (.bool (true)) [])))))) := by kernel_rfl
set_option maxRecDepth 100000 in
theorem tr_svRcF (n : Nat) (xs : List Int) : bodyV Try.prog ERc1 30 12 120 [.row n (.ints xs)] = .need ((0 : Int) = (0 : Int)) (.need (xs.length = n * (4 : Nat)) (.need (n ≤ (1000000000 : Nat)) (brT (allQ (rcQ xs) 0 n) (.fin (.bool (decide ((↑n : Int) ≤ 12))) []) (.fin (.bool (false)) [])))) := by kernel_rfl
set_option maxRecDepth 100000 in
theorem tr_ivRcF (n : Nat) (xs : List Int) : bodyV Try.prog ERc1 30 12 62 [.row n (.ints xs)] = .need ((0 : Int) = (0 : Int)) (.need (n = n) (.need ((↑n : Int) = (↑n : Int)) (.need (xs.length = n * (4 : Nat)) (.need (n ≤ (1000000000 : Nat)) (brT (allQ (rcQ xs) 0 n) (.fin (.bool (decide ((↑n : Int) ≤ 12))) []) (.fin (.bool (false)) [])))))) := by kernel_rfl
/-- Are so many rectangles valid? -/
def vrB (n : Nat) (xs : List Int) : Bool := allQ (rcQ xs) 0 n && decide (n ≤ 12)
theorem resR_toRc (n : Nat) (xs : List Int) (hx : xs.length = n * 4) (h : Lim n) : ResR Try.prog 61 [.row n (.ints xs)] (.slice (some ⟨0, 0, none⟩) n n) ⟨.row 34 4, .ints xs⟩ := by
  refine bodyX_resR mixed ERc1_ok (m := 30) (n := 12) rfl ?_
  rw [tr_toRcF]
  unfold Lim at h
  simp only [Tree.ok, Int.toNat_natCast, List.length_replicate]
  exact ⟨by omega, trivial, trivial, hx, trivial, h, some 1, ⟨rfl, rfl, rfl⟩, rfl, rfl, rfl⟩
theorem res_eqRc (n : Nat) (xs : List Int) (hx : xs.length = n * 4) (h : Lim n) : Res Try.prog 63 [.row n (.ints xs), .row n (.ints xs)] (.bool true) := by
  refine bodyV_res mixed ERc1_ok (m := 30) (n := 12) rfl ?_
  rw [tr_eqRcF]
  unfold Lim at h
  simp [brT_ok, Tree.ok, hx, h]
theorem res_svRc (n : Nat) (xs : List Int) (hx : xs.length = n * 4) (h : Lim n) : Res Try.prog 120 [.row n (.ints xs)] (.bool (vrB n xs)) := by
  refine bodyV_res mixed ERc1_ok (m := 30) (n := 12) rfl ?_
  rw [tr_svRcF]
  unfold Lim at h
  unfold vrB
  cases hv : allQ (rcQ xs) 0 n <;> simp [brT_ok, Tree.ok, hx, h]
  omega
theorem res_ivRc (n : Nat) (xs : List Int) (hx : xs.length = n * 4) (h : Lim n) : Res Try.prog 62 [.row n (.ints xs)] (.bool (vrB n xs)) := by
  refine bodyV_res mixed ERc1_ok (m := 30) (n := 12) rfl ?_
  rw [tr_ivRcF]
  unfold Lim at h
  unfold vrB
  cases hv : allQ (rcQ xs) 0 n <;> simp [brT_ok, Tree.ok, hx, h]
  omega
def pVr : List DArg → Option (Value × List Prop)
  | [.row n (.ints xs)] => some (.bool (vrB n xs), [xs.length = n * 4, Lim n])
  | _ => none
def pEr : List DArg → Option (Value × List Prop)
  | [.row n (.ints xs), .row m (.ints ys)] => some (.bool true, [n = m, xs = ys, xs.length = n * 4, Lim n])
  | _ => none
theorem pVrs_ok {ds : List DArg} {v : Value} {C : List Prop} (h : pVr ds = some (v, C)) (hC : AllP C) : Res Try.prog 120 ds v := by
  unfold pVr at h
  split at h
  · obtain ⟨rfl, rfl⟩ : _ ∧ _ := by simpa using h
    exact res_svRc _ _ hC.1 hC.2.1
  · cases h
theorem pVri_ok {ds : List DArg} {v : Value} {C : List Prop} (h : pVr ds = some (v, C)) (hC : AllP C) : Res Try.prog 62 ds v := by
  unfold pVr at h
  split at h
  · obtain ⟨rfl, rfl⟩ : _ ∧ _ := by simpa using h
    exact res_ivRc _ _ hC.1 hC.2.1
  · cases h
theorem pEr_ok {ds : List DArg} {v : Value} {C : List Prop} (h : pEr ds = some (v, C)) (hC : AllP C) : Res Try.prog 63 ds v := by
  unfold pEr at h
  split at h
  · obtain ⟨rfl, rfl⟩ : _ ∧ _ := by simpa using h
    obtain ⟨rfl, rfl, h1, h2, _⟩ := hC
    exact res_eqRc _ _ h1 h2
  · cases h
def TRc2 : Tab := fun f ds => match f with
  | 120 => pVr ds
  | 62 => pVr ds
  | 63 => pEr ds
  | f => TRc f ds
theorem TRc2_ok : TabOk Try.prog TRc2 := by
  intro f ds v C h hC
  unfold TRc2 at h
  split at h
  all_goals first | with_reducible exact pVrs_ok h hC | with_reducible exact pVri_ok h hC | with_reducible exact pEr_ok h hC | exact TRc_ok _ _ _ _ h hC
def RRcl : TabR := fun f ds => match f, ds with
  | 61, [.row n (.ints xs)] => some (.slice (some ⟨0, 0, none⟩) n n, ⟨.row 34 4, .ints xs⟩, [xs.length = n * 4, Lim n])
  | _, _ => none
theorem RRcl_ok : TabROk Try.prog RRcl := by
  intro f ds v b C h hC
  unfold RRcl at h
  split at h
  · obtain ⟨rfl, rfl, rfl⟩ : _ ∧ _ ∧ _ := by simpa using h
    exact resR_toRc _ _ hC.1 hC.2.1
  · cases h
def ERc2 : Env := mkE TRc2 RRcl (fun _ => noL)
theorem ERc2_ok : EnvOk Try.prog ERc2 := mkEOk TRc2_ok RRcl_ok (fun _ _ _ => noL_good)
set_option maxRecDepth 100000 in
theorem tr_exVr (n : Nat) (xs : List Int) : bodyV Try.prog ERc2 30 12 13 [.row n (.ints xs)] = brT (decide (IntKind.i64.wrap (1048576 - (↑n : Int)) < 0)) (.fin (.bool (true)) []) (brT (decide (IntKind.i64.wrap (1048576 - (↑n : Int)) < 0)) (.fin (.bool (true)) []) (.need ((List.drop (0 : Nat) xs).length = n * (4 : Nat)) (.need (Lim n) (.need ((List.drop (0 : Nat) (List.drop (0 : Nat) xs)).length = n * (4 : Nat)) (.need (Lim n) (.need ((List.drop (0 : Nat) xs).length = n * (4 : Nat)) (.need (Lim n) (.need ((List.drop (0 : Nat) (List.drop (0 : Nat) xs)).length = n * (4 : Nat)) (.need (Lim n) (brT (!vrB n (List.drop 0 (List.drop 0 xs)) == vrB n (List.drop 0 (List.drop 0 xs))) (.fin (.bool (false)) []) (.need ((List.drop (0 : Nat) xs).length = n * (4 : Nat)) (.need (Lim n) (.need (n = n) (.need (List.drop (0 : Nat) (List.drop (0 : Nat) xs) = List.drop (0 : Nat) (List.drop (0 : Nat) xs)) (.need ((List.drop (0 : Nat) (List.drop (0 : Nat) xs)).length = n * (4 : Nat)) (.need (Lim n) (.fin (.bool (true)) []))))))))))))))))) := by kernel_rfl
theorem ExactValidRects_res (n : Nat) (xs : List Int) (hx : xs.length = n * 4) (h : (n : Int) ≤ 9223372036854775807) : Res Try.prog 13 [.row n (.ints xs)] (.bool true) := by
  refine bodyV_res mixed ERc2_ok (m := 30) (n := 12) rfl ?_
  rw [tr_exVr]
  simp only [List.drop_zero]
  by_cases hl : (1048576 : Int) - n < 0
  · simp (disch := omega) only [wr]
    simp only [hl, decide_true, brT_t, Tree.ok]
  · have hP : Lim n := by unfold Lim; omega
    simp (disch := omega) only [wr]
    simp only [hl, decide_false, brT_f, Tree.ok, beq_self_eq_true, Bool.not_true]
    repeat' (first | exact True.intro | assumption | omega | exact rfl | refine And.intro ?_ ?_)
end Go.Proofs.Ytfjcbindeimoiab
