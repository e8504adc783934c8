/-
  The laws' own helpers that mark a row, told as operations; rows of ints compared. Written by an AI agent.
-/
import Derived.Test.YtieibbdfdepmbaaMrk
import Derived.Test.YtieibbdfdepmbaaBc
namespace Go.Proofs.Ytieibbdfdepmbaa
set_option linter.all false
open Go.RowKit

theorem fn_is {f : FuncId} {fn g : Func} (h : Try.prog.funcs[f]? = some g) (hf : Try.prog.funcs[f]? = some fn) : g = fn := by rw [h] at hf; simpa using hf
theorem Lr_markP {fn : Func} (hf : Try.prog.funcs[25]? = some fn) : LoopsGood Try.prog (lt1 e_markP) 0 (codeOf fn) := by
  obtain rfl := fn_is Try.func25 hf
  exact lt1_good lg_markP
theorem Lr_heldP {fn : Func} (hf : Try.prog.funcs[26]? = some fn) : LoopsGood Try.prog (lt1 e_heldP) 0 (codeOf fn) := by
  obtain rfl := fn_is Try.func26 hf
  exact lt1_good lg_heldP
def LMrk : FuncId → LT := fun f => match f with
  | 25 => lt1 e_markP
  | 26 => lt1 e_heldP
  | _ => noL
def EM1 : Env := mkE B0 (fun _ _ => none) LMrk
theorem EM1_ok : EnvOk Try.prog EM1 := mkEOk B0_ok (fun _ _ _ _ _ h => (by cases h)) (by
  intro f fn hf
  unfold LMrk
  split
  all_goals first | with_reducible exact Lr_markI hf | with_reducible exact Lr_markP hf | with_reducible exact Lr_heldI hf | with_reducible exact Lr_eqI hf | with_reducible exact Lr_heldP hf | exact noL_good)
set_option maxRecDepth 100000 in
theorem tr_markPF (l : Nat) (xs : List Int) (k : Int) : bodyM Try.prog EM1 (runM Try.prog EM1 30 12) 30 25 [.slice (some ⟨0, 0, none⟩) l l, .int .i64 k] [some ⟨.row 32 2, .ints xs⟩] .fin = .need ((0 : Int) = (0 : Int)) (.need (xs.length = l * (2 : Nat)) (.need (l ≤ (1000000000 : Nat)) (.need ((0 : Int) ≤ k ∧ k ≤ (1000000000 : Int)) (.fin (.int .i64 (k + (↑(l * 2) : Int))) [some ⟨.row 32 2, .ints (marks k (l * 2))⟩])))) := by kernel_rfl
set_option maxRecDepth 100000 in
theorem tr_heldPF (n : Nat) (xs : List Int) (k : Int) : bodyV Try.prog EM1 30 12 26 [.row n (.ints xs), .v (.int .i64 k)] = .need ((0 : Int) = (0 : Int)) (.need (xs = marks k (n * (2 : Nat))) (.need (n ≤ (1000000000 : Nat)) (.need ((0 : Int) ≤ k ∧ k ≤ (1000000000 : Int)) (.fin (.int .i64 (k + (↑(n * 2) : Int))) [])))) := by kernel_rfl
def Lim (n : Nat) : Prop := n ≤ 1000000000
def markIW : WSpec := fun e sz l xs rest => match Nat.beq e 3 && Nat.beq sz 1, rest with
  | true, [.int .i64 k] => some (.int .i64 (k + l), marks k l, [xs.length = l, Lim l, 0 ≤ k ∧ k ≤ 1000000000])
  | _, _ => none
def markPW : WSpec := fun e sz l xs rest => match Nat.beq e 32 && Nat.beq sz 2, rest with
  | true, [.int .i64 k] => some (.int .i64 (k + (l * 2 : Nat)), marks k (l * 2), [xs.length = l * 2, Lim l, 0 ≤ k ∧ k ≤ 1000000000])
  | _, _ => none
theorem markPW_ok : WSpecOk Try.prog 25 markPW := by
  intro e sz l xs rest v ys C h hC
  unfold markPW at h
  split at h
  rotate_left
  · cases h
  rename_i k he
  simp only [Bool.and_eq_true] at he
  obtain rfl := Nat.eq_of_beq_eq_true he.1
  obtain rfl := Nat.eq_of_beq_eq_true he.2
  obtain ⟨rfl, rfl, rfl⟩ : Value.int .i64 (k + (l * 2 : Nat)) = v ∧ marks k (l * 2) = ys ∧ [xs.length = l * 2, Lim l, 0 ≤ k ∧ k ≤ 1000000000] = C := by simpa using h
  obtain ⟨h1, h2, h3, _⟩ := hC
  refine ⟨EM1, 30, 12, EM1_ok, rfl, ?_⟩
  rw [tr_markPF]
  exact ⟨rfl, h1, h2, h3, rfl, _, rfl, rfl, rfl⟩
def JmkP : TabJ := consJ 25 (fun _ => wrG markPW) noJ
theorem JmkP_ok : GSound Try.prog JmkP.g := consJ_wr mixed (failG_sound Try.prog) (entersB_res (by kernel_rfl)).1 markPW_ok
theorem res_heldP (n : Nat) (k : Int) (h : Lim n) (hk : 0 ≤ k ∧ k ≤ 1000000000) (xs : List Int) (hx : xs = marks k (n * 2)) : Res Try.prog 26 [.row n (.ints xs), .v (.int .i64 k)] (iv (k + (n * 2 : Nat))) := by
  refine bodyV_res mixed EM1_ok (m := 30) (n := 12) rfl ?_
  rw [tr_heldPF]
  exact ⟨rfl, hx, h, hk, rfl⟩
def pHeldP : List DArg → Option (Value × List Prop)
  | [.row n (.ints xs), .v (.int .i64 k)] => some (iv (k + (n * 2 : Nat)), [Lim n, 0 ≤ k ∧ k ≤ 1000000000, xs = marks k (n * 2)])
  | _ => none
theorem pHeldP_ok {ds : List DArg} {v : Value} {C : List Prop} (h : pHeldP ds = some (v, C)) (hC : AllP C) : Res Try.prog 26 ds v := by
  unfold pHeldP at h
  split at h
  · obtain ⟨rfl, rfl⟩ : _ ∧ _ := by simpa using h
    exact res_heldP _ _ hC.1 hC.2.1 _ hC.2.2.1
  · cases h
def pHeldI : List DArg → Option (Value × List Prop)
  | [.row n (.ints xs), .v (.int .i64 k)] => some (iv (k + n), [Lim n, 0 ≤ k ∧ k ≤ 1000000000, xs = marks k n])
  | _ => none
def pEqI : List DArg → Option (Value × List Prop)
  | [.row n (.ints xs), .row m (.ints ys)] => some (.bool true, [n = m, xs = ys, n ≤ xs.length, Lim n])
  | _ => none
end Go.Proofs.Ytieibbdfdepmbaa
