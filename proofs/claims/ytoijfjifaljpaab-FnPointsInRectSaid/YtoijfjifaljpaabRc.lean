/-
  Rectangles: which are valid. Written by an AI agent.
-/
import Derived.Test.YtoijfjifaljpaabTabB
namespace Go.Proofs.Ytoijfjifaljpaab
open Go.RowKit

def rcB (a b c d : Int) : Bool := ptB a b && ptB c d && decide (a < c) && decide (b < d)
set_option maxRecDepth 100000 in
theorem tr_specRc (a b c d : Int) : bodyX Try.prog (tabE T1) 30 12 64 [.v (.agg #[iv a, iv b, iv c, iv d])] = brT (ptB a b) (brT (ptB c d) (brT (decide (a < c)) (.fin (.bool (decide (b < d))) [none, some ⟨.box, .vals [.int .i64 (a), .int .i64 (b), .int .i64 (c), .int .i64 (d)]⟩]) (.fin (.bool (false)) [none, some ⟨.box, .vals [.int .i64 (a), .int .i64 (b), .int .i64 (c), .int .i64 (d)]⟩])) (.fin (.bool (false)) [none, some ⟨.box, .vals [.int .i64 (a), .int .i64 (b), .int .i64 (c), .int .i64 (d)]⟩])) (.fin (.bool (false)) [none, some ⟨.box, .vals [.int .i64 (a), .int .i64 (b), .int .i64 (c), .int .i64 (d)]⟩]) := by kernel_rfl
set_option maxRecDepth 100000 in
theorem tr_implRc (a b c d : Int) : bodyX Try.prog (tabE T1) 30 12 60 [.v (.agg #[iv a, iv b, iv c, iv d])] = brT (ptB a b && ptB c d) (brT (decide (a < c)) (.fin (.bool (decide (b < d))) [none, some ⟨.box, .vals [.int .i64 (a), .int .i64 (b), .int .i64 (c), .int .i64 (d)]⟩, some ⟨.row 25 2, .vals [.int .i64 (a), .int .i64 (b), .int .i64 (c), .int .i64 (d)]⟩]) (.fin (.bool (false)) [none, some ⟨.box, .vals [.int .i64 (a), .int .i64 (b), .int .i64 (c), .int .i64 (d)]⟩, some ⟨.row 25 2, .vals [.int .i64 (a), .int .i64 (b), .int .i64 (c), .int .i64 (d)]⟩])) (.fin (.bool (false)) [none, some ⟨.box, .vals [.int .i64 (a), .int .i64 (b), .int .i64 (c), .int .i64 (d)]⟩, some ⟨.row 25 2, .vals [.int .i64 (a), .int .i64 (b), .int .i64 (c), .int .i64 (d)]⟩]) := by kernel_rfl
theorem res_specRc (a b c d : Int) : Res Try.prog 64 [.v (.agg #[iv a, iv b, iv c, iv d])] (.bool (rcB a b c d)) := by
  refine bodyX_res mixed (tabE_ok T1_ok) (m := 30) (n := 12) rfl ?_
  rw [tr_specRc]
  unfold rcB
  cases ptB a b <;> cases ptB c d <;> simp [brT_ok, Tree.ok] <;> grind
theorem res_implRc (a b c d : Int) : Res Try.prog 60 [.v (.agg #[iv a, iv b, iv c, iv d])] (.bool (rcB a b c d)) := by
  refine bodyX_res mixed (tabE_ok T1_ok) (m := 30) (n := 12) rfl ?_
  rw [tr_implRc]
  unfold rcB
  cases ptB a b <;> cases ptB c d <;> simp [brT_ok, Tree.ok] <;> grind
def pRc : List DArg → Option (Value × List Prop)
  | [.v (.agg ⟨[.int .i64 a, .int .i64 b, .int .i64 c, .int .i64 d]⟩)] => some (.bool (rcB a b c d), [])
  | _ => none
theorem rcS {ds : List DArg} {v : Value} {C : List Prop} (h : pRc ds = some (v, C)) : Res Try.prog 64 ds v := by
  unfold pRc at h
  split at h
  · obtain ⟨rfl, rfl⟩ : _ ∧ _ := by simpa using h
    exact res_specRc _ _ _ _
  · cases h
theorem rcI {ds : List DArg} {v : Value} {C : List Prop} (h : pRc ds = some (v, C)) : Res Try.prog 60 ds v := by
  unfold pRc at h
  split at h
  · obtain ⟨rfl, rfl⟩ : _ ∧ _ := by simpa using h
    exact res_implRc _ _ _ _
  · cases h
end Go.Proofs.Ytoijfjifaljpaab
