/-
  Manhattan: both ways, the exact law. Written by an AI agent.
-/
import Derived.Test.YtfjcbindeimoiabTabB
import Derived.Test.YtfjcbindeimoiabAbsV
namespace Go.Proofs.Ytfjcbindeimoiab
open Go.RowKit

theorem wrI {x : Int} (h : -9223372036854775808 ≤ x ∧ x ≤ 9223372036854775807) : IntKind.i64.wrap x = x := by
  rw [IntKind.wrap_i64]
  omega
def mhI (ax ay bx b_y : Int) : Int := ((ax - bx).natAbs : Int) + ((ay - b_y).natAbs : Int)
/-- What Manhattan answers. -/
def mhR (ax ay bx b_y : Int) : Int := bif ptB ax ay && ptB bx b_y then mhI ax ay bx b_y else -1
theorem ptB_is {x y : Int} (h : ptB x y = true) : -1000 ≤ x ∧ x ≤ 1000 ∧ -1000 ≤ y ∧ y ≤ 1000 := by simpa [ptB, and_assoc] using h
set_option maxRecDepth 100000 in
theorem tr_implMh (ax ay bx b_y : Int) : bodyV Try.prog (tabE T1) 30 12 128 [.v (.agg #[iv ax, iv ay]), .v (.agg #[iv bx, iv b_y])] = brT (!(ptB ax ay && ptB bx b_y)) (.fin (.int .i64 (-1)) []) (.fin (.int .i64 (IntKind.i64.wrap ((if IntKind.i64.wrap (ax - bx) < IntKind.i64.wrap (0 - IntKind.i64.wrap (ax - bx)) then IntKind.i64.wrap (0 - IntKind.i64.wrap (ax - bx)) else IntKind.i64.wrap (ax - bx)) + if IntKind.i64.wrap (ay - b_y) < IntKind.i64.wrap (0 - IntKind.i64.wrap (ay - b_y)) then IntKind.i64.wrap (0 - IntKind.i64.wrap (ay - b_y)) else IntKind.i64.wrap (ay - b_y)))) []) := by kernel_rfl
theorem res_implMh (ax ay bx b_y : Int) : Res Try.prog 128 [.v (.agg #[iv ax, iv ay]), .v (.agg #[iv bx, iv b_y])] (iv (mhR ax ay bx b_y)) := by
  refine bodyV_res mixed (tabE_ok T1_ok) (m := 30) (n := 12) rfl ?_
  rw [tr_implMh]
  unfold mhR mhI
  rcases h1 : ptB ax ay with _ | _
  · simp [brT_ok, Tree.ok]
  rcases h2 : ptB bx b_y with _ | _
  · simp [brT_ok, Tree.ok]
  have a1 := ptB_is h1
  have a2 := ptB_is h2
  have e : ∀ x : Int, (if x < 0 - x then 0 - x else x) = (x.natAbs : Int) := fun x => by split <;> omega
  rw [wrI (x := ax - bx) (by omega), wrI (x := ay - b_y) (by omega), wrI (x := 0 - (ax - bx)) (by omega), wrI (x := 0 - (ay - b_y)) (by omega), e, e, wrI (by omega)]
  simp [brT_ok, Tree.ok]
def pMh : List DArg → Option (Value × List Prop)
  | [.v (.agg ⟨[.int .i64 a, .int .i64 b]⟩), .v (.agg ⟨[.int .i64 c, .int .i64 d]⟩)] => some (iv (mhR a b c d), [])
  | _ => none
def TMh : Tab := fun f ds => match f with
  | 128 => pMh ds
  | _ => T1 f ds
theorem pMhI_ok {ds : List DArg} {v : Value} {C : List Prop} (h : pMh ds = some (v, C)) : Res Try.prog 128 ds v := by
  unfold pMh at h
  split at h
  · obtain ⟨rfl, rfl⟩ : _ ∧ _ := by simpa using h
    exact res_implMh _ _ _ _
  · cases h
theorem TMh_ok : TabOk Try.prog TMh := by
  intro f ds v C h hC
  unfold TMh at h
  split at h
  all_goals first | with_reducible exact pMhS_ok h | with_reducible exact pMhI_ok h | exact T1_ok _ _ _ _ h hC
end Go.Proofs.Ytfjcbindeimoiab
