/-
  SquaredDistance of the program, as a table's entry. Written by an AI agent.
-/
import Derived.Test.YtfjcbindeimoiabTabB
import Derived.Test.YtfjcbindeimoiabAbsV
namespace Go.Proofs.Ytfjcbindeimoiab
open Go.RowKit

theorem wrJ {x : Int} (h : -9223372036854775808 ≤ x ∧ x ≤ 9223372036854775807) : IntKind.i64.wrap x = x := by
  rw [IntKind.wrap_i64]
  omega
theorem ptB_in {x y : Int} (h : ptB x y = true) : -1000 ≤ x ∧ x ≤ 1000 ∧ -1000 ≤ y ∧ y ≤ 1000 := by simpa [ptB, and_assoc] using h
def sqK (ax ay bx b_y : Int) : Int := bif ptB ax ay && ptB bx b_y then (ax - bx) * (ax - bx) + (ay - b_y) * (ay - b_y) else -1
set_option maxRecDepth 100000 in
theorem tr_sqK (ax ay bx b_y : Int) : bodyV Try.prog (tabE T1) 30 12 50 [.v (.agg #[iv ax, iv ay]), .v (.agg #[iv bx, iv b_y])] = brT (!(ptB ax ay && ptB bx b_y)) (.fin (.int .i64 (-1)) []) (.fin (.int .i64 (IntKind.i64.wrap (IntKind.i64.wrap (IntKind.i64.wrap (ax - bx) * IntKind.i64.wrap (ax - bx)) + IntKind.i64.wrap (IntKind.i64.wrap (ay - b_y) * IntKind.i64.wrap (ay - b_y))))) []) := by kernel_rfl
theorem res_sqK (ax ay bx b_y : Int) : Res Try.prog 50 [.v (.agg #[iv ax, iv ay]), .v (.agg #[iv bx, iv b_y])] (iv (sqK ax ay bx b_y)) := by
  refine bodyV_res mixed (tabE_ok T1_ok) (m := 30) (n := 12) rfl ?_
  rw [tr_sqK]
  unfold sqK
  rcases h1 : ptB ax ay with _ | _
  · simp [brT_ok, Tree.ok]
  rcases h2 : ptB bx b_y with _ | _
  · simp [brT_ok, Tree.ok]
  have a1 := ptB_in h1
  have a2 := ptB_in h2
  have m1 := mul_bd (x := ax - bx) (y := ax - bx) 2000 2000 (by omega) (by omega)
  have m2 := mul_bd (x := ay - b_y) (y := ay - b_y) 2000 2000 (by omega) (by omega)
  simp (disch := omega) only [wrJ]
  simp [brT_ok, Tree.ok]
def pSqK : List DArg → Option (Value × List Prop)
  | [.v (.agg ⟨[.int .i64 a, .int .i64 b]⟩), .v (.agg ⟨[.int .i64 c, .int .i64 d]⟩)] => some (iv (sqK a b c d), [])
  | _ => none
theorem pSqK_ok {ds : List DArg} {v : Value} {C : List Prop} (h : pSqK ds = some (v, C)) : Res Try.prog 50 ds v := by
  unfold pSqK at h
  split at h
  · obtain ⟨rfl, rfl⟩ : _ ∧ _ := by simpa using h
    exact res_sqK _ _ _ _
  · cases h
end Go.Proofs.Ytfjcbindeimoiab
