/-
  The laws' own helpers that mark a row, told as operations; rows of ints compared. Written by an AI agent.
-/
import Derived.Test.YtblpldapmmoheabMrk
import Derived.Test.YtblpldapmmoheabBc
namespace Go.Proofs.Ytblpldapmmoheab
set_option linter.all false
open Go.RowKit

theorem fn_is {f : FuncId} {fn g : Func} (h : Try.prog.funcs[f]? = some g) (hf : Try.prog.funcs[f]? = some fn) : g = fn := by rw [h] at hf; simpa using hf
theorem Lr_markI {fn : Func} (hf : Try.prog.funcs[60]? = some fn) : LoopsGood Try.prog (lt1 e_markI) 0 (codeOf fn) := by
  obtain rfl := fn_is Try.func60 hf
  exact lt1_good lg_markI
theorem Lr_markP {fn : Func} (hf : Try.prog.funcs[59]? = some fn) : LoopsGood Try.prog (lt1 e_markP) 0 (codeOf fn) := by
  obtain rfl := fn_is Try.func59 hf
  exact lt1_good lg_markP
theorem Lr_heldI {fn : Func} (hf : Try.prog.funcs[61]? = some fn) : LoopsGood Try.prog (lt1 e_heldI) 0 (codeOf fn) := by
  obtain rfl := fn_is Try.func61 hf
  exact lt1_good lg_heldI
theorem Lr_eqI {fn : Func} (hf : Try.prog.funcs[57]? = some fn) : LoopsGood Try.prog (lt1 e_eqI) 0 (codeOf fn) := by
  obtain rfl := fn_is Try.func57 hf
  exact lt1_good lg_eqI
def LMrk : FuncId → LT := fun f => match f with
  | 60 => lt1 e_markI
  | 59 => lt1 e_markP
  | 61 => lt1 e_heldI
  | 57 => lt1 e_eqI
  | _ => noL
def EM1 : Env := mkE B0 (fun _ _ => none) LMrk
theorem EM1_ok : EnvOk Try.prog EM1 := mkEOk B0_ok (fun _ _ _ _ _ h => (by cases h)) (by
  intro f fn hf
  unfold LMrk
  split
  all_goals first | with_reducible exact Lr_markI hf | with_reducible exact Lr_markP hf | with_reducible exact Lr_heldI hf | with_reducible exact Lr_eqI hf | with_reducible exact Lr_heldP hf | exact noL_good)
set_option maxRecDepth 100000 in
theorem tr_markIF (l : Nat) (xs : List Int) (k : Int) : bodyM Try.prog EM1 (runM Try.prog EM1 30 12) 30 60 [.slice (some ⟨0, 0, none⟩) l l, .int .i64 k] [some ⟨.row 3 1, .ints xs⟩] .fin = .need ((0 : Int) = (0 : Int)) (.need (xs.length = l) (.need (l ≤ (1000000000 : Nat)) (.need ((0 : Int) ≤ k ∧ k ≤ (1000000000 : Int)) (.fin (.int .i64 (k + (↑l : Int))) [some ⟨.row 3 1, .ints (marks k l)⟩])))) := by kernel_rfl
set_option maxRecDepth 100000 in
theorem tr_markPF (l : Nat) (xs : List Int) (k : Int) : bodyM Try.prog EM1 (runM Try.prog EM1 30 12) 30 59 [.slice (some ⟨0, 0, none⟩) l l, .int .i64 k] [some ⟨.row 40 2, .ints xs⟩] .fin = .need ((0 : Int) = (0 : Int)) (.need (xs.length = l * (2 : Nat)) (.need (l ≤ (1000000000 : Nat)) (.need ((0 : Int) ≤ k ∧ k ≤ (1000000000 : Int)) (.fin (.int .i64 (k + (↑(l * 2) : Int))) [some ⟨.row 40 2, .ints (marks k (l * 2))⟩])))) := by kernel_rfl
set_option maxRecDepth 100000 in
theorem tr_heldIF (n : Nat) (xs : List Int) (k : Int) : bodyV Try.prog EM1 30 12 61 [.row n (.ints xs), .v (.int .i64 k)] = .need ((0 : Int) = (0 : Int)) (.need (xs = marks k n) (.need (n ≤ (1000000000 : Nat)) (.need ((0 : Int) ≤ k ∧ k ≤ (1000000000 : Int)) (.fin (.int .i64 (k + (↑n : Int))) [])))) := by kernel_rfl
set_option maxRecDepth 100000 in
theorem tr_eqIF (n m : Nat) (xs ys : List Int) : bodyV Try.prog EM1 30 12 57 [.row n (.ints xs), .row m (.ints ys)] = brT (!(↑n : Int) == (↑m : Int)) (.fin (.bool (false)) []) (.need ((0 : Int) = (0 : Int)) (.need (m = n) (.need (ys = xs) (.need (n ≤ xs.length) (.need (n ≤ (1000000000 : Nat)) (.fin (.bool (true)) [])))))) := by kernel_rfl
def Lim (n : Nat) : Prop := n ≤ 1000000000
def markIW : WSpec := fun e sz l xs rest => match Nat.beq e 3 && Nat.beq sz 1, rest with
  | true, [.int .i64 k] => some (.int .i64 (k + l), marks k l, [xs.length = l, Lim l, 0 ≤ k ∧ k ≤ 1000000000])
  | _, _ => none
theorem markIW_ok : WSpecOk Try.prog 60 markIW := by
  intro e sz l xs rest v ys C h hC
  unfold markIW at h
  split at h
  rotate_left
  · cases h
  rename_i k he
  simp only [Bool.and_eq_true] at he
  obtain rfl := Nat.eq_of_beq_eq_true he.1
  obtain rfl := Nat.eq_of_beq_eq_true he.2
  obtain ⟨rfl, rfl, rfl⟩ : Value.int .i64 (k + l) = v ∧ marks k l = ys ∧ [xs.length = l, Lim l, 0 ≤ k ∧ k ≤ 1000000000] = C := by simpa using h
  obtain ⟨h1, h2, h3, _⟩ := hC
  refine ⟨EM1, 30, 12, EM1_ok, rfl, ?_⟩
  rw [tr_markIF]
  exact ⟨rfl, h1, h2, h3, rfl, _, rfl, rfl, rfl⟩
def markPW : WSpec := fun e sz l xs rest => match Nat.beq e 40 && Nat.beq sz 2, rest with
  | true, [.int .i64 k] => some (.int .i64 (k + (l * 2 : Nat)), marks k (l * 2), [xs.length = l * 2, Lim l, 0 ≤ k ∧ k ≤ 1000000000])
  | _, _ => none
theorem markPW_ok : WSpecOk Try.prog 59 markPW := by
  intro e sz l xs rest v ys C h hC
  unfold markPW at h
  split at h
  rotate_left
  · cases h
  rename_i k he
  simp only [Bool.and_eq_true] at he
  obtain rfl := Nat.eq_of_beq_eq_true he.1
  obtain rfl := Nat.eq_of_beq_eq_true he.2
  obtain ⟨rfl, rfl, rfl⟩ : Value.int .i64 (k + (l * 2 : Nat)) = v ∧ marks k (l * 2) = ys ∧ [xs.length = l * 2, Lim l, 0 ≤ k ∧ k ≤ 1000000000] = C := by simpa using h
  obtain ⟨h1, h2, h3, _⟩ := hC
  refine ⟨EM1, 30, 12, EM1_ok, rfl, ?_⟩
  rw [tr_markPF]
  exact ⟨rfl, h1, h2, h3, rfl, _, rfl, rfl, rfl⟩
def JmkP : TabJ := consJ 59 (fun _ => wrG markPW) noJ
theorem JmkP_ok : GSound Try.prog JmkP.g := consJ_wr mixed (failG_sound Try.prog) (entersB_res (by kernel_rfl)).1 markPW_ok
def Jmk : TabJ := consJ 60 (fun _ => wrG markIW) JmkP
theorem Jmk_ok : GSound Try.prog (consJ 60 (fun _ => wrG markIW) JmkP).g := consJ_wr mixed JmkP_ok (entersB_res (by kernel_rfl)).1 markIW_ok
def pHeldP : List DArg → Option (Value × List Prop)
  | [.row n (.ints xs), .v (.int .i64 k)] => some (iv (k + (n * 2 : Nat)), [Lim n, 0 ≤ k ∧ k ≤ 1000000000, xs = marks k (n * 2)])
  | _ => none
theorem res_heldI (n : Nat) (k : Int) (h : Lim n) (hk : 0 ≤ k ∧ k ≤ 1000000000) (xs : List Int) (hx : xs = marks k n) : Res Try.prog 61 [.row n (.ints xs), .v (.int .i64 k)] (iv (k + n)) := by
  refine bodyV_res mixed EM1_ok (m := 30) (n := 12) rfl ?_
  rw [tr_heldIF]
  exact ⟨rfl, hx, h, hk, rfl⟩
theorem res_eqI (n : Nat) (xs : List Int) (h : n ≤ xs.length) (hn : Lim n) : Res Try.prog 57 [.row n (.ints xs), .row n (.ints xs)] (.bool true) := by
  refine bodyV_res mixed EM1_ok (m := 30) (n := 12) rfl ?_
  rw [tr_eqIF]
  simp [brT_ok, Tree.ok]
  exact ⟨h, hn⟩
def pHeldI : List DArg → Option (Value × List Prop)
  | [.row n (.ints xs), .v (.int .i64 k)] => some (iv (k + n), [Lim n, 0 ≤ k ∧ k ≤ 1000000000, xs = marks k n])
  | _ => none
def pEqI : List DArg → Option (Value × List Prop)
  | [.row n (.ints xs), .row m (.ints ys)] => some (.bool true, [n = m, xs = ys, n ≤ xs.length, Lim n])
  | _ => none
theorem pHeldI_ok {ds : List DArg} {v : Value} {C : List Prop} (h : pHeldI ds = some (v, C)) (hC : AllP C) : Res Try.prog 61 ds v := by
  unfold pHeldI at h
  split at h
  · obtain ⟨rfl, rfl⟩ : _ ∧ _ := by simpa using h
    exact res_heldI _ _ hC.1 hC.2.1 _ hC.2.2.1
  · cases h
theorem pEqI_ok {ds : List DArg} {v : Value} {C : List Prop} (h : pEqI ds = some (v, C)) (hC : AllP C) : Res Try.prog 57 ds v := by
  unfold pEqI at h
  split at h
  · obtain ⟨rfl, rfl⟩ : _ ∧ _ := by simpa using h
    obtain ⟨rfl, rfl, h1, h2, _⟩ := hC
    exact res_eqI _ _ h1 h2
  · cases h
end Go.Proofs.Ytblpldapmmoheab
