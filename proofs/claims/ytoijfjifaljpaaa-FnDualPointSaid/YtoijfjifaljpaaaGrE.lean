/-
  The laws of duality over drawn graphs. Written by an AI agent.
-/
import Derived.Test.YtoijfjifaljpaaaGrD
import Derived.Test.YtoijfjifaljpaaaGr
namespace Go.Proofs.Ytoijfjifaljpaaa
open Go.RowKit

def pRdG (g : List Int → Nat → Value) : List DArg → Option (Value × List Prop)
  | [.row n (.bytes bs)] => some (g bs n, [Bytes bs, n ≤ bs.length])
  | _ => none
theorem pRdG_ok {f : FuncId} {g : List Int → Nat → Value} (h : ∀ (bs : List Int) (n : Nat), Bytes bs → n ≤ bs.length → Res Try.prog f [.row n (.bytes bs)] (g bs n)) {ds : List DArg} {v : Value} {C : List Prop} (hd : pRdG g ds = some (v, C)) (hC : AllP C) : Res Try.prog f ds v := by
  unfold pRdG at hd
  split at hd
  · obtain ⟨rfl, rfl⟩ : _ ∧ _ := by simpa using hd
    exact h _ _ hC.1 hC.2.1
  · cases hd
/-- The drawn numbers, by their places. -/
def g2V (g : Nat → Int) : Value := agg2 (g 0) (g 1)
def g4V (g : Nat → Int) : Value := .tuple #[agg2 (g 0) (g 1), agg2 (g 2) (g 3)]
def dgN (bs : List Int) (n : Nat) : Nat → Int
  | 0 => apX bs (rdL n) 0
  | _ => apY bs (rdL n) 0
def dpN (bs : List Int) (n : Nat) : Nat → Int
  | 0 => agM bs (rdL n) 0
  | _ => agB bs (rdL n) 0
def dhN (bs : List Int) (n : Nat) : Nat → Int
  | 0 => apX bs (rdL n) 0
  | 1 => apY bs (rdL n) 0
  | 2 => agM bs (rdL n) (apP bs (rdL n) 0)
  | _ => agB bs (rdL n) (apP bs (rdL n) 0)
def TLg : Tab := fun f ds => match f with
  | 27 => pRdG (fun bs n => g2V (dgN bs n)) ds
  | 29 => pRdG (fun bs n => g2V (dpN bs n)) ds
  | 30 => pRdG (fun bs n => g4V (dhN bs n)) ds
  | _ => TG2 f ds
theorem TLg_ok : TabOk Try.prog TLg := by
  intro f ds v C h hC
  unfold TLg at h
  split at h
  all_goals first | with_reducible exact pRdG_ok (fun bs n hb hn => res_dDg bs n hb hn) h hC | with_reducible exact pRdG_ok (fun bs n hb hn => res_dDp bs n hb hn) h hC | with_reducible exact pRdG_ok (fun bs n hb hn => res_dHo bs n hb hn) h hC | exact TG2_ok _ _ _ _ h hC | exact pRdG_ok (fun bs n hb hn => res_dDg bs n hb hn) h hC | exact pRdG_ok (fun bs n hb hn => res_dDp bs n hb hn) h hC | exact pRdG_ok (fun bs n hb hn => res_dHo bs n hb hn) h hC
set_option maxRecDepth 100000 in
theorem tr_lDu (bs : List Int) : bodyV Try.prog (tabE TLg) 30 12 7 [.row bs.length (.bytes bs)] = brT (decide (1048576 < (↑bs.length : Int))) (.fin (.bool (true)) []) (.need (Bytes (List.drop (0 : Nat) bs)) (.need (bs.length ≤ (List.drop (0 : Nat) bs).length) (brT (negB true (onG (ptB (dgN (List.drop 0 bs) bs.length 0) (dgN (List.drop 0 bs) bs.length 1)) (dgN (List.drop 0 bs) bs.length 0) == onG (ptB (dgN (List.drop 0 bs) bs.length 0) (dgN (List.drop 0 bs) bs.length 1)) (dgN (List.drop 0 bs) bs.length 0) && (onG (ptB (dgN (List.drop 0 bs) bs.length 0) (dgN (List.drop 0 bs) bs.length 1)) (dgN (List.drop 0 bs) bs.length 1) == onG (ptB (dgN (List.drop 0 bs) bs.length 0) (dgN (List.drop 0 bs) bs.length 1)) (dgN (List.drop 0 bs) bs.length 1) && true))) (.fin (.bool (negB false (onG (ptB (dgN (List.drop 0 bs) bs.length 0) (dgN (List.drop 0 bs) bs.length 1)) (dgN (List.drop 0 bs) bs.length 0) == onG (ptB (dgN (List.drop 0 bs) bs.length 0) (dgN (List.drop 0 bs) bs.length 1)) (dgN (List.drop 0 bs) bs.length 0) && (onG (ptB (dgN (List.drop 0 bs) bs.length 0) (dgN (List.drop 0 bs) bs.length 1)) (dgN (List.drop 0 bs) bs.length 1) == onG (ptB (dgN (List.drop 0 bs) bs.length 0) (dgN (List.drop 0 bs) bs.length 1)) (dgN (List.drop 0 bs) bs.length 1) && true)))) []) (brT (!ptB (dgN (List.drop 0 bs) bs.length 0) (dgN (List.drop 0 bs) bs.length 1)) (.fin (.bool (negB false (onG (ptB (dgN (List.drop 0 bs) bs.length 0) (dgN (List.drop 0 bs) bs.length 1)) (dgN (List.drop 0 bs) bs.length 0) == onG (ptB (dgN (List.drop 0 bs) bs.length 0) (dgN (List.drop 0 bs) bs.length 1)) (dgN (List.drop 0 bs) bs.length 0) && (onG (ptB (dgN (List.drop 0 bs) bs.length 0) (dgN (List.drop 0 bs) bs.length 1)) (dgN (List.drop 0 bs) bs.length 1) == onG (ptB (dgN (List.drop 0 bs) bs.length 0) (dgN (List.drop 0 bs) bs.length 1)) (dgN (List.drop 0 bs) bs.length 1) && true)))) []) (brT (ptB (onG (ptB (dgN (List.drop 0 bs) bs.length 0) (dgN (List.drop 0 bs) bs.length 1)) (dgN (List.drop 0 bs) bs.length 0)) (onG (ptB (dgN (List.drop 0 bs) bs.length 0) (dgN (List.drop 0 bs) bs.length 1)) (dgN (List.drop 0 bs) bs.length 1))) (brT (negB false (onG (ptB (onG (ptB (dgN (List.drop 0 bs) bs.length 0) (dgN (List.drop 0 bs) bs.length 1)) (dgN (List.drop 0 bs) bs.length 0)) (onG (ptB (dgN (List.drop 0 bs) bs.length 0) (dgN (List.drop 0 bs) bs.length 1)) (dgN (List.drop 0 bs) bs.length 1))) (onG (ptB (dgN (List.drop 0 bs) bs.length 0) (dgN (List.drop 0 bs) bs.length 1)) (dgN (List.drop 0 bs) bs.length 0)) == dgN (List.drop 0 bs) bs.length 0 && (onG (ptB (onG (ptB (dgN (List.drop 0 bs) bs.length 0) (dgN (List.drop 0 bs) bs.length 1)) (dgN (List.drop 0 bs) bs.length 0)) (onG (ptB (dgN (List.drop 0 bs) bs.length 0) (dgN (List.drop 0 bs) bs.length 1)) (dgN (List.drop 0 bs) bs.length 1))) (onG (ptB (dgN (List.drop 0 bs) bs.length 0) (dgN (List.drop 0 bs) bs.length 1)) (dgN (List.drop 0 bs) bs.length 1)) == dgN (List.drop 0 bs) bs.length 1 && true))) (.fin (.bool (negB false (onG (ptB (onG (ptB (onG (ptB (dgN (List.drop 0 bs) bs.length 0) (dgN (List.drop 0 bs) bs.length 1)) (dgN (List.drop 0 bs) bs.length 0)) (onG (ptB (dgN (List.drop 0 bs) bs.length 0) (dgN (List.drop 0 bs) bs.length 1)) (dgN (List.drop 0 bs) bs.length 1))) (onG (ptB (dgN (List.drop 0 bs) bs.length 0) (dgN (List.drop 0 bs) bs.length 1)) (dgN (List.drop 0 bs) bs.length 0))) (onG (ptB (onG (ptB (dgN (List.drop 0 bs) bs.length 0) (dgN (List.drop 0 bs) bs.length 1)) (dgN (List.drop 0 bs) bs.length 0)) (onG (ptB (dgN (List.drop 0 bs) bs.length 0) (dgN (List.drop 0 bs) bs.length 1)) (dgN (List.drop 0 bs) bs.length 1))) (onG (ptB (dgN (List.drop 0 bs) bs.length 0) (dgN (List.drop 0 bs) bs.length 1)) (dgN (List.drop 0 bs) bs.length 1)))) (onG (ptB (onG (ptB (dgN (List.drop 0 bs) bs.length 0) (dgN (List.drop 0 bs) bs.length 1)) (dgN (List.drop 0 bs) bs.length 0)) (onG (ptB (dgN (List.drop 0 bs) bs.length 0) (dgN (List.drop 0 bs) bs.length 1)) (dgN (List.drop 0 bs) bs.length 1))) (onG (ptB (dgN (List.drop 0 bs) bs.length 0) (dgN (List.drop 0 bs) bs.length 1)) (dgN (List.drop 0 bs) bs.length 0))) == onG (ptB (dgN (List.drop 0 bs) bs.length 0) (dgN (List.drop 0 bs) bs.length 1)) (dgN (List.drop 0 bs) bs.length 0) && (onG (ptB (onG (ptB (onG (ptB (dgN (List.drop 0 bs) bs.length 0) (dgN (List.drop 0 bs) bs.length 1)) (dgN (List.drop 0 bs) bs.length 0)) (onG (ptB (dgN (List.drop 0 bs) bs.length 0) (dgN (List.drop 0 bs) bs.length 1)) (dgN (List.drop 0 bs) bs.length 1))) (onG (ptB (dgN (List.drop 0 bs) bs.length 0) (dgN (List.drop 0 bs) bs.length 1)) (dgN (List.drop 0 bs) bs.length 0))) (onG (ptB (onG (ptB (dgN (List.drop 0 bs) bs.length 0) (dgN (List.drop 0 bs) bs.length 1)) (dgN (List.drop 0 bs) bs.length 0)) (onG (ptB (dgN (List.drop 0 bs) bs.length 0) (dgN (List.drop 0 bs) bs.length 1)) (dgN (List.drop 0 bs) bs.length 1))) (onG (ptB (dgN (List.drop 0 bs) bs.length 0) (dgN (List.drop 0 bs) bs.length 1)) (dgN (List.drop 0 bs) bs.length 1)))) (onG (ptB (onG (ptB (dgN (List.drop 0 bs) bs.length 0) (dgN (List.drop 0 bs) bs.length 1)) (dgN (List.drop 0 bs) bs.length 0)) (onG (ptB (dgN (List.drop 0 bs) bs.length 0) (dgN (List.drop 0 bs) bs.length 1)) (dgN (List.drop 0 bs) bs.length 1))) (onG (ptB (dgN (List.drop 0 bs) bs.length 0) (dgN (List.drop 0 bs) bs.length 1)) (dgN (List.drop 0 bs) bs.length 1))) == onG (ptB (dgN (List.drop 0 bs) bs.length 0) (dgN (List.drop 0 bs) bs.length 1)) (dgN (List.drop 0 bs) bs.length 1) && true)))) []) (.fin (.bool (false)) [])) (.fin (.bool (false)) [])))))) := by kernel_rfl
set_option maxRecDepth 100000 in
theorem tr_lDq (bs : List Int) : bodyV Try.prog (tabE TLg) 30 12 8 [.row bs.length (.bytes bs)] = brT (decide (1048576 < (↑bs.length : Int))) (.fin (.bool (true)) []) (.need (Bytes (List.drop (0 : Nat) bs)) (.need (bs.length ≤ (List.drop (0 : Nat) bs).length) (brT (negB true (onG (ptB (dpN (List.drop 0 bs) bs.length 0) (dpN (List.drop 0 bs) bs.length 1)) (dpN (List.drop 0 bs) bs.length 0) == onG (ptB (dpN (List.drop 0 bs) bs.length 0) (dpN (List.drop 0 bs) bs.length 1)) (dpN (List.drop 0 bs) bs.length 0) && (onG (ptB (dpN (List.drop 0 bs) bs.length 0) (dpN (List.drop 0 bs) bs.length 1)) (dpN (List.drop 0 bs) bs.length 1) == onG (ptB (dpN (List.drop 0 bs) bs.length 0) (dpN (List.drop 0 bs) bs.length 1)) (dpN (List.drop 0 bs) bs.length 1) && true))) (.fin (.bool (negB false (onG (ptB (dpN (List.drop 0 bs) bs.length 0) (dpN (List.drop 0 bs) bs.length 1)) (dpN (List.drop 0 bs) bs.length 0) == onG (ptB (dpN (List.drop 0 bs) bs.length 0) (dpN (List.drop 0 bs) bs.length 1)) (dpN (List.drop 0 bs) bs.length 0) && (onG (ptB (dpN (List.drop 0 bs) bs.length 0) (dpN (List.drop 0 bs) bs.length 1)) (dpN (List.drop 0 bs) bs.length 1) == onG (ptB (dpN (List.drop 0 bs) bs.length 0) (dpN (List.drop 0 bs) bs.length 1)) (dpN (List.drop 0 bs) bs.length 1) && true)))) []) (brT (!ptB (dpN (List.drop 0 bs) bs.length 0) (dpN (List.drop 0 bs) bs.length 1)) (.fin (.bool (negB false (onG (ptB (dpN (List.drop 0 bs) bs.length 0) (dpN (List.drop 0 bs) bs.length 1)) (dpN (List.drop 0 bs) bs.length 0) == onG (ptB (dpN (List.drop 0 bs) bs.length 0) (dpN (List.drop 0 bs) bs.length 1)) (dpN (List.drop 0 bs) bs.length 0) && (onG (ptB (dpN (List.drop 0 bs) bs.length 0) (dpN (List.drop 0 bs) bs.length 1)) (dpN (List.drop 0 bs) bs.length 1) == onG (ptB (dpN (List.drop 0 bs) bs.length 0) (dpN (List.drop 0 bs) bs.length 1)) (dpN (List.drop 0 bs) bs.length 1) && true)))) []) (brT (ptB (onG (ptB (dpN (List.drop 0 bs) bs.length 0) (dpN (List.drop 0 bs) bs.length 1)) (dpN (List.drop 0 bs) bs.length 0)) (onG (ptB (dpN (List.drop 0 bs) bs.length 0) (dpN (List.drop 0 bs) bs.length 1)) (dpN (List.drop 0 bs) bs.length 1))) (brT (onG (ptB (dpN (List.drop 0 bs) bs.length 0) (dpN (List.drop 0 bs) bs.length 1)) (dpN (List.drop 0 bs) bs.length 0) == dpN (List.drop 0 bs) bs.length 0) (brT (onG (ptB (dpN (List.drop 0 bs) bs.length 0) (dpN (List.drop 0 bs) bs.length 1)) (dpN (List.drop 0 bs) bs.length 1) == dpN (List.drop 0 bs) bs.length 1) (.fin (.bool (negB false (onG (ptB (onG (ptB (dpN (List.drop 0 bs) bs.length 0) (dpN (List.drop 0 bs) bs.length 1)) (dpN (List.drop 0 bs) bs.length 0)) (onG (ptB (dpN (List.drop 0 bs) bs.length 0) (dpN (List.drop 0 bs) bs.length 1)) (dpN (List.drop 0 bs) bs.length 1))) (onG (ptB (dpN (List.drop 0 bs) bs.length 0) (dpN (List.drop 0 bs) bs.length 1)) (dpN (List.drop 0 bs) bs.length 0)) == dpN (List.drop 0 bs) bs.length 0 && (onG (ptB (onG (ptB (dpN (List.drop 0 bs) bs.length 0) (dpN (List.drop 0 bs) bs.length 1)) (dpN (List.drop 0 bs) bs.length 0)) (onG (ptB (dpN (List.drop 0 bs) bs.length 0) (dpN (List.drop 0 bs) bs.length 1)) (dpN (List.drop 0 bs) bs.length 1))) (onG (ptB (dpN (List.drop 0 bs) bs.length 0) (dpN (List.drop 0 bs) bs.length 1)) (dpN (List.drop 0 bs) bs.length 1)) == dpN (List.drop 0 bs) bs.length 1 && true)))) []) (.fin (.bool (false)) [])) (.fin (.bool (false)) [])) (.fin (.bool (false)) [])))))) := by kernel_rfl
set_option maxRecDepth 100000 in
theorem tr_lDo (bs : List Int) : bodyV Try.prog (tabE TLg) 30 12 9 [.row bs.length (.bytes bs)] = brT (decide (1048576 < (↑bs.length : Int))) (.fin (.bool (true)) []) (.need (Bytes (List.drop (0 : Nat) bs)) (.need (bs.length ≤ (List.drop (0 : Nat) bs).length) (brT (!hoI (dhN (List.drop 0 bs) bs.length 0) (dhN (List.drop 0 bs) bs.length 1) (dhN (List.drop 0 bs) bs.length 2) (dhN (List.drop 0 bs) bs.length 3) == hoI (dhN (List.drop 0 bs) bs.length 0) (dhN (List.drop 0 bs) bs.length 1) (dhN (List.drop 0 bs) bs.length 2) (dhN (List.drop 0 bs) bs.length 3)) (.fin (.bool (hoI (dhN (List.drop 0 bs) bs.length 0) (dhN (List.drop 0 bs) bs.length 1) (dhN (List.drop 0 bs) bs.length 2) (dhN (List.drop 0 bs) bs.length 3) == hoI (dhN (List.drop 0 bs) bs.length 0) (dhN (List.drop 0 bs) bs.length 1) (dhN (List.drop 0 bs) bs.length 2) (dhN (List.drop 0 bs) bs.length 3))) []) (brT (hoI (dhN (List.drop 0 bs) bs.length 0) (dhN (List.drop 0 bs) bs.length 1) (dhN (List.drop 0 bs) bs.length 2) (dhN (List.drop 0 bs) bs.length 3) == 2) (.fin (.bool (hoI (dhN (List.drop 0 bs) bs.length 0) (dhN (List.drop 0 bs) bs.length 1) (dhN (List.drop 0 bs) bs.length 2) (dhN (List.drop 0 bs) bs.length 3) == hoI (dhN (List.drop 0 bs) bs.length 0) (dhN (List.drop 0 bs) bs.length 1) (dhN (List.drop 0 bs) bs.length 2) (dhN (List.drop 0 bs) bs.length 3))) []) (.fin (.bool (hoI (onG (ptB (dhN (List.drop 0 bs) bs.length 2) (dhN (List.drop 0 bs) bs.length 3)) (dhN (List.drop 0 bs) bs.length 2)) (onG (ptB (dhN (List.drop 0 bs) bs.length 2) (dhN (List.drop 0 bs) bs.length 3)) (dhN (List.drop 0 bs) bs.length 3)) (onG (ptB (dhN (List.drop 0 bs) bs.length 0) (dhN (List.drop 0 bs) bs.length 1)) (dhN (List.drop 0 bs) bs.length 0)) (onG (ptB (dhN (List.drop 0 bs) bs.length 0) (dhN (List.drop 0 bs) bs.length 1)) (dhN (List.drop 0 bs) bs.length 1)) == hoI (dhN (List.drop 0 bs) bs.length 0) (dhN (List.drop 0 bs) bs.length 1) (dhN (List.drop 0 bs) bs.length 2) (dhN (List.drop 0 bs) bs.length 3))) []))))) := by kernel_rfl
set_option maxRecDepth 100000 in
theorem tr_lHo (bs cs : List Int) : bodyV Try.prog (tabE TLg) 30 12 10 [.row bs.length (.bytes bs), .row cs.length (.bytes cs)] = brT (decide (1048576 < (↑bs.length : Int))) (.fin (.bool (true)) []) (brT (decide (1048576 < (↑cs.length : Int))) (.fin (.bool (true)) []) (.need (Bytes (List.drop (0 : Nat) bs)) (.need (bs.length ≤ (List.drop (0 : Nat) bs).length) (brT (!hoI (dhN (List.drop 0 bs) bs.length 0) (dhN (List.drop 0 bs) bs.length 1) (dhN (List.drop 0 bs) bs.length 2) (dhN (List.drop 0 bs) bs.length 3) == hoI (dhN (List.drop 0 bs) bs.length 0) (dhN (List.drop 0 bs) bs.length 1) (dhN (List.drop 0 bs) bs.length 2) (dhN (List.drop 0 bs) bs.length 3)) (.fin (.bool (hoI (dhN (List.drop 0 bs) bs.length 0) (dhN (List.drop 0 bs) bs.length 1) (dhN (List.drop 0 bs) bs.length 2) (dhN (List.drop 0 bs) bs.length 3) == hoI (dhN (List.drop 0 bs) bs.length 0) (dhN (List.drop 0 bs) bs.length 1) (dhN (List.drop 0 bs) bs.length 2) (dhN (List.drop 0 bs) bs.length 3))) []) (brT (hoI (dhN (List.drop 0 bs) bs.length 0) (dhN (List.drop 0 bs) bs.length 1) (dhN (List.drop 0 bs) bs.length 2) (dhN (List.drop 0 bs) bs.length 3) == 2) (.fin (.bool (hoI (dhN (List.drop 0 bs) bs.length 0) (dhN (List.drop 0 bs) bs.length 1) (dhN (List.drop 0 bs) bs.length 2) (dhN (List.drop 0 bs) bs.length 3) == hoI (dhN (List.drop 0 bs) bs.length 0) (dhN (List.drop 0 bs) bs.length 1) (dhN (List.drop 0 bs) bs.length 2) (dhN (List.drop 0 bs) bs.length 3))) []) (brT (decide (1000 < IntKind.i64.wrap (IntKind.i64.wrap (dhN (List.drop 0 bs) bs.length 1 + 1) + (↑cs.length : Int)))) (.fin (.bool (hoI (dhN (List.drop 0 bs) bs.length 0) (dhN (List.drop 0 bs) bs.length 1) (dhN (List.drop 0 bs) bs.length 2) (dhN (List.drop 0 bs) bs.length 3) == hoI (dhN (List.drop 0 bs) bs.length 0) (dhN (List.drop 0 bs) bs.length 1) (dhN (List.drop 0 bs) bs.length 2) (dhN (List.drop 0 bs) bs.length 3))) []) (brT (decide (hoI (dhN (List.drop 0 bs) bs.length 0) (dhN (List.drop 0 bs) bs.length 1) (dhN (List.drop 0 bs) bs.length 2) (dhN (List.drop 0 bs) bs.length 3) ≤ hoI (dhN (List.drop 0 bs) bs.length 0) (IntKind.i64.wrap (IntKind.i64.wrap (dhN (List.drop 0 bs) bs.length 1 + 1) + (↑cs.length : Int))) (dhN (List.drop 0 bs) bs.length 2) (dhN (List.drop 0 bs) bs.length 3))) (brT (decide (hoI (dhN (List.drop 0 bs) bs.length 0) (dhN (List.drop 0 bs) bs.length 1) (dhN (List.drop 0 bs) bs.length 2) (dhN (List.drop 0 bs) bs.length 3) < 0)) (.fin (.bool (true)) []) (.fin (.bool (hoI (dhN (List.drop 0 bs) bs.length 0) (IntKind.i64.wrap (IntKind.i64.wrap (dhN (List.drop 0 bs) bs.length 1 + 1) + (↑cs.length : Int))) (dhN (List.drop 0 bs) bs.length 2) (dhN (List.drop 0 bs) bs.length 3) == 1)) [])) (.fin (.bool (false)) [])))))))) := by kernel_rfl
theorem nGt (b : Bool) : negB true b = !b := by cases b <;> rfl
theorem nGf (b : Bool) : negB false b = b := by cases b <;> rfl
theorem onG_t (x : Int) : onG true x = x := rfl
theorem onG_f (x : Int) : onG false x = 0 := rfl
theorem law_du (bs : List Int) (hb : Bytes bs) (_ : bs.length ≤ maxLen) : Res Try.prog 7 [.row bs.length (.bytes bs)] (.bool true) := by
  refine bodyV_res mixed (tabE_ok TLg_ok) (m := 30) (n := 12) rfl ?_
  rw [tr_lDu]
  simp only [List.drop_zero]
  generalize dgN bs bs.length 0 = a
  generalize dgN bs bs.length 1 = b
  rcases h : ptB a b with _ | _
  · simp [brT_ok, Tree.ok, hb, nGt, nGf]
  · simp [brT_ok, Tree.ok, hb, h, onG_t, nGt, nGf]
theorem law_dq (bs : List Int) (hb : Bytes bs) (_ : bs.length ≤ maxLen) : Res Try.prog 8 [.row bs.length (.bytes bs)] (.bool true) := by
  refine bodyV_res mixed (tabE_ok TLg_ok) (m := 30) (n := 12) rfl ?_
  rw [tr_lDq]
  simp only [List.drop_zero]
  generalize dpN bs bs.length 0 = a
  generalize dpN bs bs.length 1 = b
  rcases h : ptB a b with _ | _
  · simp [brT_ok, Tree.ok, hb, nGt, nGf]
  · simp [brT_ok, Tree.ok, hb, h, onG_t, nGt, nGf]
theorem hoI_no {x y m b : Int} (h : (ptB x y && ptB m b) = false) : hoI x y m b = 2 := by unfold hoI; rw [h]; rfl
theorem hoI_yes {x y m b : Int} (h : (ptB x y && ptB m b) = true) : hoI x y m b = cmpI y (m * x - b) := by unfold hoI; rw [h]; rfl
theorem law_do (bs : List Int) (hb : Bytes bs) (_ : bs.length ≤ maxLen) : Res Try.prog 9 [.row bs.length (.bytes bs)] (.bool true) := by
  refine bodyV_res mixed (tabE_ok TLg_ok) (m := 30) (n := 12) rfl ?_
  rw [tr_lDo]
  simp only [List.drop_zero]
  generalize dhN bs bs.length 0 = a
  generalize dhN bs bs.length 1 = b
  generalize dhN bs bs.length 2 = c
  generalize dhN bs bs.length 3 = d
  rcases h : (ptB a b && ptB c d) with _ | _
  · simp [brT_ok, Tree.ok, hb, hoI_no h]
  · have h' := h
    simp only [Bool.and_eq_true] at h'
    have e : hoI c d a b = hoI a b c d := by
      rw [hoI_yes h, hoI_yes (by rw [h'.1, h'.2]; rfl), Int.mul_comm a c]
      unfold cmpI
      split <;> split <;> (try split) <;> (try split) <;> omega
    simp [brT_ok, Tree.ok, hb, h'.1, h'.2, onG_t, e]
theorem law_ho (bs cs : List Int) (hb : Bytes bs) (_ : bs.length ≤ maxLen) (hc : Bytes cs) (_ : cs.length ≤ maxLen) : Res Try.prog 10 [.row bs.length (.bytes bs), .row cs.length (.bytes cs)] (.bool true) := by
  refine bodyV_res mixed (tabE_ok TLg_ok) (m := 30) (n := 12) rfl ?_
  rw [tr_lHo]
  simp only [List.drop_zero]
  generalize dhN bs bs.length 0 = a
  generalize dhN bs bs.length 1 = b
  generalize dhN bs bs.length 2 = c
  generalize dhN bs bs.length 3 = d
  by_cases h1 : (1048576 : Int) < bs.length
  · simp [brT_ok, Tree.ok, hb, h1]
  by_cases h2 : (1048576 : Int) < cs.length
  · simp [brT_ok, Tree.ok, hb, h1, h2]
  rcases h : (ptB a b && ptB c d) with _ | _
  · simp [brT_ok, Tree.ok, hb, h1, h2, hoI_no h]
  · have h' := h
    simp only [Bool.and_eq_true] at h'
    have p1 := ptG_is h'.1
    have w1 : IntKind.i64.wrap (b + 1) = b + 1 := wrG (by omega)
    have w2 : IntKind.i64.wrap (b + 1 + (cs.length : Int)) = b + 1 + cs.length := wrG (by omega)
    rw [w1, w2]
    by_cases h3 : b + 1 + (cs.length : Int) > 1000
    · simp [brT_ok, Tree.ok, hb, h1, h2, h3]
    · have hp : ptB a (b + 1 + cs.length) = true := by unfold ptB; simp; omega
      have e1 := hoI_yes h
      have e2 := hoI_yes (x := a) (y := b + 1 + (cs.length : Int)) (m := c) (b := d) (by rw [hp, h'.2]; rfl)
      have k1 : hoI a b c d ≤ hoI a (b + 1 + cs.length) c d := by rw [e1, e2]; unfold cmpI; split <;> split <;> (try split) <;> (try split) <;> omega
      have k2 : hoI a b c d < 0 ∨ hoI a (b + 1 + cs.length) c d = 1 := by rw [e1, e2]; unfold cmpI; split <;> (try split) <;> (try split) <;> (try split) <;> omega
      simp [brT_ok, Tree.ok, hb, h1, h2, h3, k1]
      omega
end Go.Proofs.Ytoijfjifaljpaaa
