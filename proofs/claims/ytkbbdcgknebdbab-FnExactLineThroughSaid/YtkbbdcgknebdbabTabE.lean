/-
  The laws of LineThrough and MeetLines. Written by an AI agent.
-/
import Derived.Test.YtkbbdcgknebdbabTabD
namespace Go.Proofs.Ytkbbdcgknebdbab
open Go.RowKit
set_option maxRecDepth 100000 in
theorem tr_specMeet (a b c d e f : Int) : runX Try.prog T4 30 12 19 [.v (.agg #[iv a, iv b, iv c]), .v (.agg #[iv d, iv e, iv f])] (fun u => .fin u []) = brT (!lineB a b c) (.fin (.tuple #[.agg #[.int .i64 (0), .int .i64 (0), .int .i64 (0), .int .i64 (0)], .int .i64 (-1)]) []) (brT (!lineB d e f) (.fin (.tuple #[.agg #[.int .i64 (0), .int .i64 (0), .int .i64 (0), .int .i64 (0)], .int .i64 (-1)]) []) (brT (negB false (a == d && (b == e && (c == f && true)))) (.fin (.tuple #[.agg #[.int .i64 (0), .int .i64 (0), .int .i64 (0), .int .i64 (0)], .int .i64 (2)]) []) (brT (IntKind.i64.wrap (a * e) == IntKind.i64.wrap (d * b)) (.fin (.tuple #[.agg #[.int .i64 (0), .int .i64 (0), .int .i64 (0), .int .i64 (0)], .int .i64 (0)]) []) (.need (big (IntKind.i64.wrap (IntKind.i64.wrap (c * e) - IntKind.i64.wrap (f * b)))) (.need (big (IntKind.i64.wrap (IntKind.i64.wrap (a * e) - IntKind.i64.wrap (d * b)))) (.need (¬IntKind.i64.wrap (IntKind.i64.wrap (a * e) - IntKind.i64.wrap (d * b)) = (0 : Int)) (.need (big (IntKind.i64.wrap (IntKind.i64.wrap (a * f) - IntKind.i64.wrap (d * c)))) (.need (big (IntKind.i64.wrap (IntKind.i64.wrap (a * e) - IntKind.i64.wrap (d * b)))) (.need (¬IntKind.i64.wrap (IntKind.i64.wrap (a * e) - IntKind.i64.wrap (d * b)) = (0 : Int)) (.fin (.tuple #[.agg #[.int .i64 (qN (IntKind.i64.wrap (IntKind.i64.wrap (c * e) - IntKind.i64.wrap (f * b))) (IntKind.i64.wrap (IntKind.i64.wrap (a * e) - IntKind.i64.wrap (d * b)))), .int .i64 (qD (IntKind.i64.wrap (IntKind.i64.wrap (c * e) - IntKind.i64.wrap (f * b))) (IntKind.i64.wrap (IntKind.i64.wrap (a * e) - IntKind.i64.wrap (d * b)))), .int .i64 (qN (IntKind.i64.wrap (IntKind.i64.wrap (a * f) - IntKind.i64.wrap (d * c))) (IntKind.i64.wrap (IntKind.i64.wrap (a * e) - IntKind.i64.wrap (d * b)))), .int .i64 (qD (IntKind.i64.wrap (IntKind.i64.wrap (a * f) - IntKind.i64.wrap (d * c))) (IntKind.i64.wrap (IntKind.i64.wrap (a * e) - IntKind.i64.wrap (d * b))))], .int .i64 (1)]) [])))))))))) := by kernel_rfl
set_option maxRecDepth 100000 in
theorem tr_implMeet (a b c d e f : Int) : runX Try.prog T4 30 12 21 [.v (.agg #[iv a, iv b, iv c]), .v (.agg #[iv d, iv e, iv f])] (fun u => .fin u []) = brT (!lineB a b c) (.fin (.tuple #[.agg #[.int .i64 (0), .int .i64 (0), .int .i64 (0), .int .i64 (0)], .int .i64 (-1)]) []) (brT (!lineB d e f) (.fin (.tuple #[.agg #[.int .i64 (0), .int .i64 (0), .int .i64 (0), .int .i64 (0)], .int .i64 (-1)]) []) (brT (negB false (a == d && (b == e && (c == f && true)))) (.fin (.tuple #[.agg #[.int .i64 (0), .int .i64 (0), .int .i64 (0), .int .i64 (0)], .int .i64 (2)]) []) (brT (IntKind.i64.wrap (IntKind.i64.wrap (a * e) - IntKind.i64.wrap (d * b)) == 0) (.fin (.tuple #[.agg #[.int .i64 (0), .int .i64 (0), .int .i64 (0), .int .i64 (0)], .int .i64 (0)]) []) (.need (big (IntKind.i64.wrap (IntKind.i64.wrap (c * e) - IntKind.i64.wrap (f * b)))) (.need (big (IntKind.i64.wrap (IntKind.i64.wrap (a * e) - IntKind.i64.wrap (d * b)))) (.need (¬IntKind.i64.wrap (IntKind.i64.wrap (a * e) - IntKind.i64.wrap (d * b)) = (0 : Int)) (.need (big (IntKind.i64.wrap (IntKind.i64.wrap (a * f) - IntKind.i64.wrap (d * c)))) (.need (big (IntKind.i64.wrap (IntKind.i64.wrap (a * e) - IntKind.i64.wrap (d * b)))) (.need (¬IntKind.i64.wrap (IntKind.i64.wrap (a * e) - IntKind.i64.wrap (d * b)) = (0 : Int)) (.fin (.tuple #[.agg #[.int .i64 (qN (IntKind.i64.wrap (IntKind.i64.wrap (c * e) - IntKind.i64.wrap (f * b))) (IntKind.i64.wrap (IntKind.i64.wrap (a * e) - IntKind.i64.wrap (d * b)))), .int .i64 (qD (IntKind.i64.wrap (IntKind.i64.wrap (c * e) - IntKind.i64.wrap (f * b))) (IntKind.i64.wrap (IntKind.i64.wrap (a * e) - IntKind.i64.wrap (d * b)))), .int .i64 (qN (IntKind.i64.wrap (IntKind.i64.wrap (a * f) - IntKind.i64.wrap (d * c))) (IntKind.i64.wrap (IntKind.i64.wrap (a * e) - IntKind.i64.wrap (d * b)))), .int .i64 (qD (IntKind.i64.wrap (IntKind.i64.wrap (a * f) - IntKind.i64.wrap (d * c))) (IntKind.i64.wrap (IntKind.i64.wrap (a * e) - IntKind.i64.wrap (d * b))))], .int .i64 (1)]) [])))))))))) := by kernel_rfl
/-- The numbers that two results hold. -/
def tI (v : Value) (k : Nat) : Int := match v with
  | .tuple ⟨.agg ⟨l⟩ :: _⟩ => (match l[k]? with
    | some (.int _ x) => x
    | _ => 0)
  | _ => 0
def tO (v : Value) : Bool := match v with
  | .tuple ⟨[_, .bool b]⟩ => b
  | _ => false
def tN (v : Value) : Int := match v with
  | .tuple ⟨[_, .int _ b]⟩ => b
  | _ => 0
def thP (ax ay bx b_y : Int) (k : Nat) : Int := tI (thV ax ay bx b_y) k
def thO (ax ay bx b_y : Int) : Bool := tO (thV ax ay bx b_y)
theorem thV_is (ax ay bx b_y : Int) : thV ax ay bx b_y = .tuple #[.agg #[iv (thP ax ay bx b_y 0), iv (thP ax ay bx b_y 1), iv (thP ax ay bx b_y 2)], .bool (thO ax ay bx b_y)] := by
  unfold thP thO thV
  split
  · split <;> rfl
  · rfl
def eqL (a b c d e f : Int) : Bool := a == d && (b == e && (c == f && true))
def mtV (a b c d e f : Int) : Value :=
  if lineB a b c && lineB d e f then
    if eqL a b c d e f then .tuple #[.agg #[iv 0, iv 0, iv 0, iv 0], iv 2]
    else if a * e - d * b = 0 then .tuple #[.agg #[iv 0, iv 0, iv 0, iv 0], iv 0]
    else .tuple #[.agg #[iv (qN (c * e - f * b) (a * e - d * b)), iv (qD (c * e - f * b) (a * e - d * b)), iv (qN (a * f - d * c) (a * e - d * b)), iv (qD (a * f - d * c) (a * e - d * b))], iv 1]
  else .tuple #[.agg #[iv 0, iv 0, iv 0, iv 0], iv (-1)]
def mtP (a b c d e f : Int) (k : Nat) : Int := tI (mtV a b c d e f) k
def mtO (a b c d e f : Int) : Int := tN (mtV a b c d e f)
theorem mtV_is (a b c d e f : Int) : mtV a b c d e f = .tuple #[.agg #[iv (mtP a b c d e f 0), iv (mtP a b c d e f 1), iv (mtP a b c d e f 2), iv (mtP a b c d e f 3)], iv (mtO a b c d e f)] := by
  unfold mtP mtO mtV
  split
  · split
    · rfl
    · split <;> rfl
  · rfl
theorem res_specMeet (a b c d e f : Int) : Res Try.prog 19 [.v (.agg #[iv a, iv b, iv c]), .v (.agg #[iv d, iv e, iv f])] (mtV a b c d e f) := by
  refine res_of mixed T4_ok (m := 30) (n := 12) ?_
  rw [tr_specMeet]
  unfold mtV
  rcases h1 : lineB a b c with _ | _
  · simp [brT, Tree.ok]
  rcases h2 : lineB d e f with _ | _
  · simp [brT, Tree.ok]
  rcases h3 : eqL a b c d e f with _ | _
  rotate_left
  · unfold eqL at h3
    rw [h3]
    simp [brT, Tree.ok, negB]
  have l1 := lineB_true h1
  have l2 := lineB_true h2
  unfold eqL at h3
  rw [h3]
  have p1 := mul_bd (x := a) (y := e) 2000 2000 (by omega) (by omega)
  have p2 := mul_bd (x := d) (y := b) 2000 2000 (by omega) (by omega)
  have p3 := mul_bd (x := c) (y := e) 4000000 2000 (by omega) (by omega)
  have p4 := mul_bd (x := f) (y := b) 4000000 2000 (by omega) (by omega)
  have p5 := mul_bd (x := a) (y := f) 2000 4000000 (by omega) (by omega)
  have p6 := mul_bd (x := d) (y := c) 2000 4000000 (by omega) (by omega)
  simp (disch := omega) only [wr]
  by_cases h4 : a * e - d * b = 0
  · simp [brT, Tree.ok, negB, show a * e = d * b by omega]
  · rw [show (a * e == d * b) = false from beq_eq_false_iff_ne.2 (by omega)]
    simp only [Bool.and_self, Bool.not_true, brT_f, if_true, negB, Tree.ok, big, h4, if_false, Bool.false_eq_true]
    repeat' (first | apply And.intro | intro _)
    all_goals first | exact True.intro | omega | rfl
theorem res_implMeet (a b c d e f : Int) : Res Try.prog 21 [.v (.agg #[iv a, iv b, iv c]), .v (.agg #[iv d, iv e, iv f])] (mtV a b c d e f) := by
  refine res_of mixed T4_ok (m := 30) (n := 12) ?_
  rw [tr_implMeet]
  unfold mtV
  rcases h1 : lineB a b c with _ | _
  · simp [brT, Tree.ok]
  rcases h2 : lineB d e f with _ | _
  · simp [brT, Tree.ok]
  rcases h3 : eqL a b c d e f with _ | _
  rotate_left
  · unfold eqL at h3
    rw [h3]
    simp [brT, Tree.ok, negB]
  have l1 := lineB_true h1
  have l2 := lineB_true h2
  unfold eqL at h3
  rw [h3]
  have p1 := mul_bd (x := a) (y := e) 2000 2000 (by omega) (by omega)
  have p2 := mul_bd (x := d) (y := b) 2000 2000 (by omega) (by omega)
  have p3 := mul_bd (x := c) (y := e) 4000000 2000 (by omega) (by omega)
  have p4 := mul_bd (x := f) (y := b) 4000000 2000 (by omega) (by omega)
  have p5 := mul_bd (x := a) (y := f) 2000 4000000 (by omega) (by omega)
  have p6 := mul_bd (x := d) (y := c) 2000 4000000 (by omega) (by omega)
  simp (disch := omega) only [wr]
  by_cases h4 : a * e - d * b = 0
  · simp [brT, Tree.ok, negB, h4]
  · rw [show (a * e - d * b == 0) = false from beq_eq_false_iff_ne.2 (by omega)]
    simp only [Bool.and_self, Bool.not_true, brT_f, if_true, negB, Tree.ok, big, h4, if_false, Bool.false_eq_true]
    repeat' (first | apply And.intro | intro _)
    all_goals first | exact True.intro | omega | rfl
def pThru : List DArg → Option (Value × List Prop)
  | [.v (.agg ⟨[.int .i64 ax, .int .i64 ay]⟩), .v (.agg ⟨[.int .i64 bx, .int .i64 b_y]⟩)] => some (.tuple #[.agg #[iv (thP ax ay bx b_y 0), iv (thP ax ay bx b_y 1), iv (thP ax ay bx b_y 2)], .bool (thO ax ay bx b_y)], [])
  | _ => none
def pMeet : List DArg → Option (Value × List Prop)
  | [.v (.agg ⟨[.int .i64 a, .int .i64 b, .int .i64 c]⟩), .v (.agg ⟨[.int .i64 d, .int .i64 e, .int .i64 f]⟩)] => some (.tuple #[.agg #[iv (mtP a b c d e f 0), iv (mtP a b c d e f 1), iv (mtP a b c d e f 2), iv (mtP a b c d e f 3)], iv (mtO a b c d e f)], [])
  | _ => none
def T5 : Tab := fun f ds => match f with
  | 23 => pThru ds
  | 24 => pThru ds
  | 19 => pMeet ds
  | 21 => pMeet ds
  | f => T4 f ds
set_option maxRecDepth 100000 in
theorem tr_lawThru (ax ay bx b_y : Int) : runX Try.prog T5 30 12 5 [.v (.agg #[iv ax, iv ay]), .v (.agg #[iv bx, iv b_y])] (fun u => .fin u []) = brT (!thP ax ay bx b_y 0 == thP ax ay bx b_y 0) (.fin (.bool (false)) []) (brT (!thP ax ay bx b_y 1 == thP ax ay bx b_y 1) (.fin (.bool (false)) []) (brT (!thP ax ay bx b_y 2 == thP ax ay bx b_y 2) (.fin (.bool (false)) []) (brT (!thO ax ay bx b_y == thO ax ay bx b_y) (.fin (.bool (false)) []) (.fin (.bool (true)) [])))) := by kernel_rfl
set_option maxRecDepth 100000 in
theorem tr_lawMeet (a b c d e f : Int) : runX Try.prog T5 30 12 4 [.v (.agg #[iv a, iv b, iv c]), .v (.agg #[iv d, iv e, iv f])] (fun u => .fin u []) = brT (!mtP a b c d e f 0 == mtP a b c d e f 0) (.fin (.bool (false)) []) (brT (!mtP a b c d e f 1 == mtP a b c d e f 1) (.fin (.bool (false)) []) (brT (!mtP a b c d e f 2 == mtP a b c d e f 2) (.fin (.bool (false)) []) (brT (!mtP a b c d e f 3 == mtP a b c d e f 3) (.fin (.bool (false)) []) (brT (!mtO a b c d e f == mtO a b c d e f) (.fin (.bool (false)) []) (.fin (.bool (true)) []))))) := by kernel_rfl
theorem T5_ok : TabOk Try.prog T5 := by
  intro f ds v C h hC
  unfold T5 at h
  split at h
  · unfold pThru at h
    split at h
    · obtain ⟨rfl, rfl⟩ : _ ∧ _ := by simpa using h
      rw [← thV_is]
      exact res_specThrough _ _ _ _
    · cases h
  · unfold pThru at h
    split at h
    · obtain ⟨rfl, rfl⟩ : _ ∧ _ := by simpa using h
      rw [← thV_is]
      exact res_implThrough _ _ _ _
    · cases h
  · unfold pMeet at h
    split at h
    · obtain ⟨rfl, rfl⟩ : _ ∧ _ := by simpa using h
      rw [← mtV_is]
      exact res_specMeet _ _ _ _ _ _
    · cases h
  · unfold pMeet at h
    split at h
    · obtain ⟨rfl, rfl⟩ : _ ∧ _ := by simpa using h
      rw [← mtV_is]
      exact res_implMeet _ _ _ _ _ _
    · cases h
  · exact T4_ok _ _ _ _ h hC
theorem ExactLineThrough_walk (ax ay bx b_y : Int) (w : World) :
    Calls Try.prog 5 #[.agg #[.int .i64 ax, .int .i64 ay], .agg #[.int .i64 bx, .int .i64 b_y]] w fun e w' => e = .returned (.bool true) ∧ Below w.heap.size w w' := by
  refine Res.plain_call (args := [.agg #[iv ax, iv ay], .agg #[iv bx, iv b_y]]) (res_of mixed T5_ok (m := 30) (n := 12) ?_) rfl w
  show (runX Try.prog T5 30 12 5 [.v (.agg #[iv ax, iv ay]), .v (.agg #[iv bx, iv b_y])] (fun u => .fin u [])).ok _ _
  rw [tr_lawThru]
  simp [brT, Tree.ok]
theorem ExactMeetLines_walk (a b c d e f : Int) (w : World) :
    Calls Try.prog 4 #[.agg #[.int .i64 a, .int .i64 b, .int .i64 c], .agg #[.int .i64 d, .int .i64 e, .int .i64 f]] w fun e w' => e = .returned (.bool true) ∧ Below w.heap.size w w' := by
  refine Res.plain_call (args := [.agg #[iv a, iv b, iv c], .agg #[iv d, iv e, iv f]]) (res_of mixed T5_ok (m := 30) (n := 12) ?_) rfl w
  show (runX Try.prog T5 30 12 4 [.v (.agg #[iv a, iv b, iv c]), .v (.agg #[iv d, iv e, iv f])] (fun u => .fin u [])).ok _ _
  rw [tr_lawMeet]
  simp [brT, Tree.ok]
end Go.Proofs.Ytkbbdcgknebdbab
