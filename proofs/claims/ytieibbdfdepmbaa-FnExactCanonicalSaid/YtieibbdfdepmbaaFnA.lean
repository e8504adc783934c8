/-
  Functions over lists of points: validity. Written by an AI agent.
-/
import Derived.Test.YtieibbdfdepmbaaLpA
namespace Go.Proofs.Ytieibbdfdepmbaa
set_option linter.all false
open Go.RowKit

def L2 : FuncId → LT := fun f => match f with
  | 74 => lt43
  | 86 => lt80
  | _ => noL
def E2 : Env := mkE (T1) (fun _ _ => none) (L2)
theorem E2_ok : EnvOk Try.prog E2 := by
  refine mkEOk T1_ok (fun _ _ _ _ _ h => (by cases h)) fun f fn hf => ?_
  show LoopsGood Try.prog (L2 f) 0 (codeOf fn)
  unfold L2
  split
  · obtain rfl : Try.f74 = fn := by rw [Try.func74] at hf; simpa using hf
    exact lg43
  · obtain rfl : Try.f86 = fn := by rw [Try.func86] at hf; simpa using hf
    exact lg80
  · exact noL_good
set_option maxRecDepth 100000 in
theorem tr_f43 (ps : List Pt) : bodyX Try.prog E2 30 12 74 [.row ps.length (.ints (flat ps))] = .need ((0 : Int) = (0 : Int)) (.need ((flat ps).length = ps.length * (2 : Nat)) (.need (ps.length ≤ (1000000000 : Nat)) (brT (allV (ptsA ps.length (flat ps))) (.fin (.bool (decide ((↑ps.length : Int) ≤ 20))) [some ⟨.view, .ints (flat ps)⟩]) (.fin (.bool (false)) [some ⟨.view, .ints (flat ps)⟩])))) := by kernel_rfl
set_option maxRecDepth 100000 in
theorem tr_f80 (ps : List Pt) : bodyX Try.prog E2 30 12 86 [.row ps.length (.ints (flat ps))] = .need ((0 : Int) = (0 : Int)) (.need ((↑ps.length : Int) = (↑ps.length : Int)) (.need ((flat ps).length = ps.length * (2 : Nat)) (.need (ps.length ≤ (1000000000 : Nat)) (brT (allV (ptsA ps.length (flat ps))) (.fin (.bool (true)) [some ⟨.view, .ints (flat ps)⟩]) (.fin (.bool (false)) [some ⟨.view, .ints (flat ps)⟩]))))) := by kernel_rfl
def Big (ps : List Pt) : Prop := ps.length ≤ 1000000000
def okL (ps : List Pt) : Bool := allV ps && decide (ps.length ≤ 20)
theorem res_f43 (ps : List Pt) (h : Big ps) : Res Try.prog 74 [.row ps.length (.ints (flat ps))] (.bool (okL ps)) := by
  refine bodyX_res mixed E2_ok (m := 30) (n := 12) rfl ?_
  rw [tr_f43, ptsA_flat]
  unfold Big at h
  unfold okL
  cases hv : allV ps <;> simp [Tree.ok, brT, flat_length, h]
  omega
theorem res_f80 (ps : List Pt) (h : Big ps) : Res Try.prog 86 [.row ps.length (.ints (flat ps))] (.bool (allV ps)) := by
  refine bodyX_res mixed E2_ok (m := 30) (n := 12) rfl ?_
  rw [tr_f80, ptsA_flat]
  unfold Big at h
  cases hv : allV ps <;> simp [Tree.ok, brT, flat_length, h]
/-- An entry for a function of one list of points. -/
def pL (g : List Pt → Value) : List DArg → Option (Value × List Prop)
  | [.row n (.ints xs)] => some (g (ptsA n xs), [n * 2 ≤ xs.length, n ≤ 1000000000])
  | _ => none
theorem pL_ok {f : FuncId} {g : List Pt → Value} (h : ∀ ps, Big ps → Res Try.prog f [.row ps.length (.ints (flat ps))] (g ps)) {ds : List DArg} {v : Value} {C : List Prop} (hd : pL g ds = some (v, C)) (hC : AllP C) : Res Try.prog f ds v := by
  unfold pL at hd
  split at hd
  · rename_i n xs
    obtain ⟨rfl, rfl⟩ : _ ∧ _ := by simpa using hd
    obtain ⟨h1, h2⟩ := ptsA_spec hC.1
    have h0 := h (ptsA n xs) (by unfold Big; rw [h2]; exact hC.2.1)
    exact res_pts1 (pre := []) (post := []) hC.1 h0
  · cases hd
def T2 : Tab := fun f ds => match f with
  | 74 => pL (fun ps => .bool (okL ps)) ds
  | 86 => (match pL (fun ps => .bool (allV ps)) ds with
    | some r => some r
    | none => T1 f ds)
  | f => T1 f ds
theorem T2_ok : TabOk Try.prog T2 := by
  intro f ds v C h hC
  unfold T2 at h
  split at h
  · exact pL_ok res_f43 h hC
  · split at h
    · rename_i hr
      rw [h] at hr
      exact pL_ok res_f80 hr hC
    · exact T1_ok _ _ _ _ h hC
  · exact T1_ok _ _ _ _ h hC
end Go.Proofs.Ytieibbdfdepmbaa
