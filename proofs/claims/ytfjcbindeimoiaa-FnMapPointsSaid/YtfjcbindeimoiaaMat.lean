/-
  Matrices: which are valid, determinants, products, inverses; both ways, the exact laws. Written by an AI agent.
-/
import Derived.Test.YtfjcbindeimoiaaTabB
import Derived.Test.YtfjcbindeimoiaaAbsV
namespace Go.Proofs.Ytfjcbindeimoiaa
open Go.RowKit

theorem wrM {x : Int} (h : -9223372036854775808 ≤ x ∧ x ≤ 9223372036854775807) : IntKind.i64.wrap x = x := by
  rw [IntKind.wrap_i64]
  omega
def enB (x : Int) : Bool := decide (-1000 ≤ x) && decide (x ≤ 1000)
def mtB (a b c d : Int) : Bool := enB a && enB b && enB c && enB d
theorem mtB_is {a b c d : Int} (h : mtB a b c d = true) : (-1000 ≤ a ∧ a ≤ 1000) ∧ (-1000 ≤ b ∧ b ≤ 1000) ∧ (-1000 ≤ c ∧ c ≤ 1000) ∧ (-1000 ≤ d ∧ d ≤ 1000) := by simpa [mtB, enB, and_assoc] using h
set_option maxRecDepth 100000 in
theorem tr_specMt (a b c d : Int) : bodyV Try.prog (tabE T1) 30 12 39 [.v (.agg #[iv a, iv b, iv c, iv d])] = brT (decide (-1000 ≤ a)) (brT (decide (a ≤ 1000)) (brT (decide (-1000 ≤ b)) (brT (decide (b ≤ 1000)) (brT (decide (-1000 ≤ c)) (brT (decide (c ≤ 1000)) (brT (decide (-1000 ≤ d)) (.fin (.bool (decide (d ≤ 1000))) []) (.fin (.bool (false)) [])) (.fin (.bool (false)) [])) (.fin (.bool (false)) [])) (.fin (.bool (false)) [])) (.fin (.bool (false)) [])) (.fin (.bool (false)) [])) (.fin (.bool (false)) []) := by kernel_rfl
set_option maxRecDepth 100000 in
theorem tr_implMt (a b c d : Int) : bodyV Try.prog (tabE T1) 30 12 41 [.v (.agg #[iv a, iv b, iv c, iv d])] = brT (decide (IntKind.i64.wrap (0 - 1000) ≤ a)) (brT (!decide (a ≤ 1000)) (.fin (.bool (false)) []) (brT (decide (IntKind.i64.wrap (0 - 1000) ≤ b)) (brT (!decide (b ≤ 1000)) (.fin (.bool (false)) []) (brT (decide (IntKind.i64.wrap (0 - 1000) ≤ c)) (brT (!decide (c ≤ 1000)) (.fin (.bool (false)) []) (brT (decide (IntKind.i64.wrap (0 - 1000) ≤ d)) (brT (!decide (d ≤ 1000)) (.fin (.bool (false)) []) (.fin (.bool (true)) [])) (.fin (.bool (false)) []))) (.fin (.bool (false)) []))) (.fin (.bool (false)) []))) (.fin (.bool (false)) []) := by kernel_rfl
theorem res_specMt (a b c d : Int) : Res Try.prog 39 [.v (.agg #[iv a, iv b, iv c, iv d])] (.bool (mtB a b c d)) := by
  refine bodyV_res mixed (tabE_ok T1_ok) (m := 30) (n := 12) rfl ?_
  rw [tr_specMt]
  simp only [brT_ok, Tree.ok, decide_eq_true_eq, decide_eq_false_iff_not]
  repeat' (first | apply And.intro | intro _)
  all_goals (refine vbool_eq ?_; unfold mtB enB; rw [Bool.eq_iff_iff]; simp; try omega)
theorem res_implMt (a b c d : Int) : Res Try.prog 41 [.v (.agg #[iv a, iv b, iv c, iv d])] (.bool (mtB a b c d)) := by
  refine bodyV_res mixed (tabE_ok T1_ok) (m := 30) (n := 12) rfl ?_
  rw [tr_implMt]
  simp only [brT_ok, Tree.ok, decide_eq_true_eq, decide_eq_false_iff_not, w1000, Bool.not_eq_true', Bool.not_eq_false']
  repeat' (first | apply And.intro | intro _)
  all_goals (refine vbool_eq ?_; unfold mtB enB; rw [Bool.eq_iff_iff]; simp; try omega)
def pMt : List DArg → Option (Value × List Prop)
  | [.v (.agg ⟨[.int .i64 a, .int .i64 b, .int .i64 c, .int .i64 d]⟩)] => some (.bool (mtB a b c d), [])
  | _ => none
def TM1 : Tab := fun f ds => match f with
  | 39 => pMt ds
  | 41 => pMt ds
  | _ => T1 f ds
theorem TM1_ok : TabOk Try.prog TM1 := by
  intro f ds v C h hC
  unfold TM1 at h
  split at h
  · unfold pMt at h
    split at h
    · obtain ⟨rfl, rfl⟩ : _ ∧ _ := by simpa using h
      exact res_specMt _ _ _ _
    · cases h
  · unfold pMt at h
    split at h
    · obtain ⟨rfl, rfl⟩ : _ ∧ _ := by simpa using h
      exact res_implMt _ _ _ _
    · cases h
  · exact T1_ok _ _ _ _ h hC
set_option maxRecDepth 100000 in
theorem tr_specDt (a b c d : Int) : bodyV Try.prog (tabE TM1) 30 12 15 [.v (.agg #[iv a, iv b, iv c, iv d])] = brT (!mtB a b c d) (.fin (.int .i64 (0)) []) (.fin (.int .i64 (IntKind.i64.wrap (IntKind.i64.wrap (a * d) - IntKind.i64.wrap (b * c)))) []) := by kernel_rfl
set_option maxRecDepth 100000 in
theorem tr_implDt (a b c d : Int) : bodyV Try.prog (tabE TM1) 30 12 17 [.v (.agg #[iv a, iv b, iv c, iv d])] = brT (!mtB a b c d) (.fin (.int .i64 (0)) []) (.fin (.int .i64 (IntKind.i64.wrap (IntKind.i64.wrap (a * d) - IntKind.i64.wrap (b * c)))) []) := by kernel_rfl
set_option maxRecDepth 100000 in
theorem tr_specCm (a b c d e f g h : Int) : bodyV Try.prog (tabE TM1) 30 12 18 [.v (.agg #[iv a, iv b, iv c, iv d]), .v (.agg #[iv e, iv f, iv g, iv h])] = brT (!mtB a b c d) (.fin (.tuple #[.agg #[.int .i64 (0), .int .i64 (0), .int .i64 (0), .int .i64 (0)], .bool (false)]) []) (brT (!mtB e f g h) (.fin (.tuple #[.agg #[.int .i64 (0), .int .i64 (0), .int .i64 (0), .int .i64 (0)], .bool (false)]) []) (brT (!mtB (IntKind.i64.wrap (IntKind.i64.wrap (a * e) + IntKind.i64.wrap (b * g))) (IntKind.i64.wrap (IntKind.i64.wrap (a * f) + IntKind.i64.wrap (b * h))) (IntKind.i64.wrap (IntKind.i64.wrap (c * e) + IntKind.i64.wrap (d * g))) (IntKind.i64.wrap (IntKind.i64.wrap (c * f) + IntKind.i64.wrap (d * h)))) (.fin (.tuple #[.agg #[.int .i64 (0), .int .i64 (0), .int .i64 (0), .int .i64 (0)], .bool (false)]) []) (.fin (.tuple #[.agg #[.int .i64 (IntKind.i64.wrap (IntKind.i64.wrap (a * e) + IntKind.i64.wrap (b * g))), .int .i64 (IntKind.i64.wrap (IntKind.i64.wrap (a * f) + IntKind.i64.wrap (b * h))), .int .i64 (IntKind.i64.wrap (IntKind.i64.wrap (c * e) + IntKind.i64.wrap (d * g))), .int .i64 (IntKind.i64.wrap (IntKind.i64.wrap (c * f) + IntKind.i64.wrap (d * h)))], .bool (true)]) []))) := by kernel_rfl
set_option maxRecDepth 100000 in
theorem tr_implCm (a b c d e f g h : Int) : bodyV Try.prog (tabE TM1) 30 12 19 [.v (.agg #[iv a, iv b, iv c, iv d]), .v (.agg #[iv e, iv f, iv g, iv h])] = brT (!mtB a b c d) (.fin (.tuple #[.agg #[.int .i64 (0), .int .i64 (0), .int .i64 (0), .int .i64 (0)], .bool (false)]) []) (brT (!mtB e f g h) (.fin (.tuple #[.agg #[.int .i64 (0), .int .i64 (0), .int .i64 (0), .int .i64 (0)], .bool (false)]) []) (.need ((0 : Int) ≤ (0 : Int) ∧ (0 : Int) < (↑(2 : Nat) : Int)) (.need ((0 : Int) ≤ (0 : Int) ∧ (0 : Int) < (↑(2 : Nat) : Int)) (.need ((0 : Int) ≤ (0 : Int) ∧ (0 : Int) < (↑(2 : Nat) : Int)) (.need ((0 : Int) ≤ (0 : Int) ∧ (0 : Int) < (↑(2 : Nat) : Int)) (.need ((0 : Int) ≤ (0 : Int) ∧ (0 : Int) < (↑(2 : Nat) : Int)) (.need ((0 : Int) ≤ (0 : Int) ∧ (0 : Int) < (↑(2 : Nat) : Int)) (.need ((0 : Int) ≤ (0 : Int) ∧ (0 : Int) < (↑(2 : Nat) : Int)) (.need ((0 : Int) ≤ (1 : Int) ∧ (1 : Int) < (↑(2 : Nat) : Int)) (.need ((0 : Int) ≤ (0 : Int) ∧ (0 : Int) < (↑(2 : Nat) : Int)) (.need ((0 : Int) ≤ (1 : Int) ∧ (1 : Int) < (↑(2 : Nat) : Int)) (.need ((0 : Int) ≤ (0 : Int) ∧ (0 : Int) < (↑(2 : Nat) : Int)) (.need ((0 : Int) ≤ (1 : Int) ∧ (1 : Int) < (↑(2 : Nat) : Int)) (.need ((0 : Int) ≤ (0 : Int) ∧ (0 : Int) < (↑(2 : Nat) : Int)) (.need ((0 : Int) ≤ (0 : Int) ∧ (0 : Int) < (↑(2 : Nat) : Int)) (.need ((0 : Int) ≤ IntKind.i64.wrap ((0 : Int) + (1 : Int)) ∧ IntKind.i64.wrap ((0 : Int) + (1 : Int)) < (↑(2 : Nat) : Int)) (.need ((0 : Int) ≤ (0 : Int) ∧ (0 : Int) < (↑(2 : Nat) : Int)) (.need ((0 : Int) ≤ (0 : Int) ∧ (0 : Int) < (↑(2 : Nat) : Int)) (.need ((0 : Int) ≤ (0 : Int) ∧ (0 : Int) < (↑(2 : Nat) : Int)) (.need ((0 : Int) ≤ (0 : Int) ∧ (0 : Int) < (↑(2 : Nat) : Int)) (.need ((0 : Int) ≤ (1 : Int) ∧ (1 : Int) < (↑(2 : Nat) : Int)) (.need ((0 : Int) ≤ IntKind.i64.wrap ((0 : Int) + (1 : Int)) ∧ IntKind.i64.wrap ((0 : Int) + (1 : Int)) < (↑(2 : Nat) : Int)) (.need ((0 : Int) ≤ (1 : Int) ∧ (1 : Int) < (↑(2 : Nat) : Int)) (.need ((0 : Int) ≤ (0 : Int) ∧ (0 : Int) < (↑(2 : Nat) : Int)) (.need ((0 : Int) ≤ (1 : Int) ∧ (1 : Int) < (↑(2 : Nat) : Int)) (.need ((0 : Int) ≤ IntKind.i64.wrap ((0 : Int) + (1 : Int)) ∧ IntKind.i64.wrap ((0 : Int) + (1 : Int)) < (↑(2 : Nat) : Int)) (.need ((0 : Int) ≤ (0 : Int) ∧ (0 : Int) < (↑(2 : Nat) : Int)) (.need ((0 : Int) ≤ (0 : Int) ∧ (0 : Int) < (↑(2 : Nat) : Int)) (.need ((0 : Int) ≤ (0 : Int) ∧ (0 : Int) < (↑(2 : Nat) : Int)) (.need ((0 : Int) ≤ IntKind.i64.wrap ((0 : Int) + (1 : Int)) ∧ IntKind.i64.wrap ((0 : Int) + (1 : Int)) < (↑(2 : Nat) : Int)) (.need ((0 : Int) ≤ (0 : Int) ∧ (0 : Int) < (↑(2 : Nat) : Int)) (.need ((0 : Int) ≤ IntKind.i64.wrap ((0 : Int) + (1 : Int)) ∧ IntKind.i64.wrap ((0 : Int) + (1 : Int)) < (↑(2 : Nat) : Int)) (.need ((0 : Int) ≤ (1 : Int) ∧ (1 : Int) < (↑(2 : Nat) : Int)) (.need ((0 : Int) ≤ (0 : Int) ∧ (0 : Int) < (↑(2 : Nat) : Int)) (.need ((0 : Int) ≤ (1 : Int) ∧ (1 : Int) < (↑(2 : Nat) : Int)) (.need ((0 : Int) ≤ IntKind.i64.wrap ((0 : Int) + (1 : Int)) ∧ IntKind.i64.wrap ((0 : Int) + (1 : Int)) < (↑(2 : Nat) : Int)) (.need ((0 : Int) ≤ (1 : Int) ∧ (1 : Int) < (↑(2 : Nat) : Int)) (.need ((0 : Int) ≤ IntKind.i64.wrap ((0 : Int) + (1 : Int)) ∧ IntKind.i64.wrap ((0 : Int) + (1 : Int)) < (↑(2 : Nat) : Int)) (.need ((0 : Int) ≤ (0 : Int) ∧ (0 : Int) < (↑(2 : Nat) : Int)) (.need ((0 : Int) ≤ IntKind.i64.wrap ((0 : Int) + (1 : Int)) ∧ IntKind.i64.wrap ((0 : Int) + (1 : Int)) < (↑(2 : Nat) : Int)) (.need ((0 : Int) ≤ (0 : Int) ∧ (0 : Int) < (↑(2 : Nat) : Int)) (.need ((0 : Int) ≤ IntKind.i64.wrap ((0 : Int) + (1 : Int)) ∧ IntKind.i64.wrap ((0 : Int) + (1 : Int)) < (↑(2 : Nat) : Int)) (.need ((0 : Int) ≤ (0 : Int) ∧ (0 : Int) < (↑(2 : Nat) : Int)) (.need ((0 : Int) ≤ IntKind.i64.wrap ((0 : Int) + (1 : Int)) ∧ IntKind.i64.wrap ((0 : Int) + (1 : Int)) < (↑(2 : Nat) : Int)) (.need ((0 : Int) ≤ (1 : Int) ∧ (1 : Int) < (↑(2 : Nat) : Int)) (.need ((0 : Int) ≤ IntKind.i64.wrap ((0 : Int) + (1 : Int)) ∧ IntKind.i64.wrap ((0 : Int) + (1 : Int)) < (↑(2 : Nat) : Int)) (.need ((0 : Int) ≤ (1 : Int) ∧ (1 : Int) < (↑(2 : Nat) : Int)) (.need ((0 : Int) ≤ IntKind.i64.wrap ((0 : Int) + (1 : Int)) ∧ IntKind.i64.wrap ((0 : Int) + (1 : Int)) < (↑(2 : Nat) : Int)) (.need ((0 : Int) ≤ (1 : Int) ∧ (1 : Int) < (↑(2 : Nat) : Int)) (.need ((0 : Int) ≤ (0 : Int) ∧ (0 : Int) < (↑(2 : Nat) : Int)) (.need ((0 : Int) ≤ (0 : Int) ∧ (0 : Int) < (↑(2 : Nat) : Int)) (.need ((0 : Int) ≤ (0 : Int) ∧ (0 : Int) < (↑(2 : Nat) : Int)) (.need ((0 : Int) ≤ (1 : Int) ∧ (1 : Int) < (↑(2 : Nat) : Int)) (.need ((0 : Int) ≤ (1 : Int) ∧ (1 : Int) < (↑(2 : Nat) : Int)) (.need ((0 : Int) ≤ (0 : Int) ∧ (0 : Int) < (↑(2 : Nat) : Int)) (.need ((0 : Int) ≤ (1 : Int) ∧ (1 : Int) < (↑(2 : Nat) : Int)) (.need ((0 : Int) ≤ (1 : Int) ∧ (1 : Int) < (↑(2 : Nat) : Int)) (brT (!mtB (IntKind.i64.wrap (IntKind.i64.wrap (0 + IntKind.i64.wrap (a * e)) + IntKind.i64.wrap (b * g))) (IntKind.i64.wrap (IntKind.i64.wrap (0 + IntKind.i64.wrap (a * f)) + IntKind.i64.wrap (b * h))) (IntKind.i64.wrap (IntKind.i64.wrap (0 + IntKind.i64.wrap (c * e)) + IntKind.i64.wrap (d * g))) (IntKind.i64.wrap (IntKind.i64.wrap (0 + IntKind.i64.wrap (c * f)) + IntKind.i64.wrap (d * h)))) (.fin (.tuple #[.agg #[.int .i64 (0), .int .i64 (0), .int .i64 (0), .int .i64 (0)], .bool (false)]) []) (.fin (.tuple #[.agg #[.int .i64 (IntKind.i64.wrap (IntKind.i64.wrap (0 + IntKind.i64.wrap (a * e)) + IntKind.i64.wrap (b * g))), .int .i64 (IntKind.i64.wrap (IntKind.i64.wrap (0 + IntKind.i64.wrap (a * f)) + IntKind.i64.wrap (b * h))), .int .i64 (IntKind.i64.wrap (IntKind.i64.wrap (0 + IntKind.i64.wrap (c * e)) + IntKind.i64.wrap (d * g))), .int .i64 (IntKind.i64.wrap (IntKind.i64.wrap (0 + IntKind.i64.wrap (c * f)) + IntKind.i64.wrap (d * h)))], .bool (true)]) []))))))))))))))))))))))))))))))))))))))))))))))))))))))))))) := by kernel_rfl
theorem prods {a b c d : Int} (h1 : -1000 ≤ a ∧ a ≤ 1000) (h2 : -1000 ≤ b ∧ b ≤ 1000) (h3 : -1000 ≤ c ∧ c ≤ 1000) (h4 : -1000 ≤ d ∧ d ≤ 1000) : (-1000000 ≤ a * b ∧ a * b ≤ 1000000) ∧ (-1000000 ≤ c * d ∧ c * d ≤ 1000000) :=
  ⟨mul_bd 1000 1000 h1 h2, mul_bd 1000 1000 h3 h4⟩
/-- What Determinant answers. -/
def dtR (a b c d : Int) : Int := bif mtB a b c d then a * d - b * c else 0
theorem res_specDt (a b c d : Int) : Res Try.prog 15 [.v (.agg #[iv a, iv b, iv c, iv d])] (iv (dtR a b c d)) := by
  refine bodyV_res mixed (tabE_ok TM1_ok) (m := 30) (n := 12) rfl ?_
  rw [tr_specDt]
  unfold dtR
  rcases h : mtB a b c d with _ | _
  · simp [brT_ok, Tree.ok]
  obtain ⟨h1, h2, h3, h4⟩ := mtB_is h
  obtain ⟨p1, p2⟩ := prods h1 h4 h2 h3
  simp (disch := omega) only [wrM]
  simp [brT_ok, Tree.ok]
theorem res_implDt (a b c d : Int) : Res Try.prog 17 [.v (.agg #[iv a, iv b, iv c, iv d])] (iv (dtR a b c d)) := by
  refine bodyV_res mixed (tabE_ok TM1_ok) (m := 30) (n := 12) rfl ?_
  rw [tr_implDt]
  unfold dtR
  rcases h : mtB a b c d with _ | _
  · simp [brT_ok, Tree.ok]
  obtain ⟨h1, h2, h3, h4⟩ := mtB_is h
  obtain ⟨p1, p2⟩ := prods h1 h4 h2 h3
  simp (disch := omega) only [wrM]
  simp [brT_ok, Tree.ok]
def onM (b : Bool) (x : Int) : Int := bif b then x else 0
def cmB (a b c d e f g h : Int) : Bool := mtB a b c d && mtB e f g h && mtB (a * e + b * g) (a * f + b * h) (c * e + d * g) (c * f + d * h)
/-- What ComposeMatrices answers. -/
def cmV (a b c d e f g h : Int) : Value := .tuple #[.agg #[iv (onM (cmB a b c d e f g h) (a * e + b * g)), iv (onM (cmB a b c d e f g h) (a * f + b * h)), iv (onM (cmB a b c d e f g h) (c * e + d * g)), iv (onM (cmB a b c d e f g h) (c * f + d * h))], .bool (cmB a b c d e f g h)]
theorem res_specCm (a b c d e f g h : Int) : Res Try.prog 18 [.v (.agg #[iv a, iv b, iv c, iv d]), .v (.agg #[iv e, iv f, iv g, iv h])] (cmV a b c d e f g h) := by
  refine bodyV_res mixed (tabE_ok TM1_ok) (m := 30) (n := 12) rfl ?_
  rw [tr_specCm]
  unfold cmV cmB
  rcases k1 : mtB a b c d with _ | _
  · simp [brT_ok, Tree.ok, onM]
  rcases k2 : mtB e f g h with _ | _
  · simp [brT_ok, Tree.ok, onM]
  obtain ⟨a1, b1, c1, d1⟩ := mtB_is k1
  obtain ⟨e1, f1, g1, h1⟩ := mtB_is k2
  obtain ⟨p1, p2⟩ := prods a1 e1 b1 g1
  obtain ⟨p3, p4⟩ := prods a1 f1 b1 h1
  obtain ⟨p5, p6⟩ := prods c1 e1 d1 g1
  obtain ⟨p7, p8⟩ := prods c1 f1 d1 h1
  simp (disch := omega) only [wrM]
  generalize mtB (a * e + b * g) (a * f + b * h) (c * e + d * g) (c * f + d * h) = z
  cases z <;> simp [brT, Tree.ok, onM]
theorem res_implCm (a b c d e f g h : Int) : Res Try.prog 19 [.v (.agg #[iv a, iv b, iv c, iv d]), .v (.agg #[iv e, iv f, iv g, iv h])] (cmV a b c d e f g h) := by
  refine bodyV_res mixed (tabE_ok TM1_ok) (m := 30) (n := 12) rfl ?_
  rw [tr_implCm]
  unfold cmV cmB
  rcases k1 : mtB a b c d with _ | _
  · simp [brT, Tree.ok, onM]
  rcases k2 : mtB e f g h with _ | _
  · simp [brT, Tree.ok, onM]
  obtain ⟨a1, b1, c1, d1⟩ := mtB_is k1
  obtain ⟨e1, f1, g1, h1⟩ := mtB_is k2
  obtain ⟨p1, p2⟩ := prods a1 e1 b1 g1
  obtain ⟨p3, p4⟩ := prods a1 f1 b1 h1
  obtain ⟨p5, p6⟩ := prods c1 e1 d1 g1
  obtain ⟨p7, p8⟩ := prods c1 f1 d1 h1
  simp (disch := omega) only [wrM, Int.zero_add]
  generalize mtB (a * e + b * g) (a * f + b * h) (c * e + d * g) (c * f + d * h) = z
  cases z <;> simp [brT, Tree.ok, onM]
def pDt : List DArg → Option (Value × List Prop)
  | [.v (.agg ⟨[.int .i64 a, .int .i64 b, .int .i64 c, .int .i64 d]⟩)] => some (iv (dtR a b c d), [])
  | _ => none
def pCm : List DArg → Option (Value × List Prop)
  | [.v (.agg ⟨[.int .i64 a, .int .i64 b, .int .i64 c, .int .i64 d]⟩), .v (.agg ⟨[.int .i64 e, .int .i64 f, .int .i64 g, .int .i64 h]⟩)] => some (cmV a b c d e f g h, [])
  | _ => none
def TM2 : Tab := fun f ds => match f with
  | 15 => pDt ds
  | 17 => pDt ds
  | 18 => pCm ds
  | 19 => pCm ds
  | _ => TM1 f ds
theorem TM2_ok : TabOk Try.prog TM2 := by
  intro f ds v C h hC
  unfold TM2 at h
  split at h
  · unfold pDt at h
    split at h
    · obtain ⟨rfl, rfl⟩ : _ ∧ _ := by simpa using h
      exact res_specDt _ _ _ _
    · cases h
  · unfold pDt at h
    split at h
    · obtain ⟨rfl, rfl⟩ : _ ∧ _ := by simpa using h
      exact res_implDt _ _ _ _
    · cases h
  · unfold pCm at h
    split at h
    · obtain ⟨rfl, rfl⟩ : _ ∧ _ := by simpa using h
      exact res_specCm _ _ _ _ _ _ _ _
    · cases h
  · unfold pCm at h
    split at h
    · obtain ⟨rfl, rfl⟩ : _ ∧ _ := by simpa using h
      exact res_implCm _ _ _ _ _ _ _ _
    · cases h
  · exact TM1_ok _ _ _ _ h hC
set_option maxRecDepth 100000 in
theorem tr_specIv (a b c d : Int) : bodyV Try.prog (tabE TM1) 30 12 21 [.v (.agg #[iv a, iv b, iv c, iv d])] = brT (!mtB a b c d) (.fin (.tuple #[.agg #[.int .i64 (0), .int .i64 (0), .int .i64 (0), .int .i64 (0)], .bool (false)]) []) (.need (big (IntKind.i64.wrap (IntKind.i64.wrap (a * d) - IntKind.i64.wrap (b * c)))) (brT (!(↑(IntKind.i64.wrap (IntKind.i64.wrap (a * d) - IntKind.i64.wrap (b * c))).natAbs : Int) == 1) (.fin (.tuple #[.agg #[.int .i64 (0), .int .i64 (0), .int .i64 (0), .int .i64 (0)], .bool (false)]) []) (.fin (.tuple #[.agg #[.int .i64 (IntKind.i64.wrap (IntKind.i64.wrap (IntKind.i64.wrap (a * d) - IntKind.i64.wrap (b * c)) * d)), .int .i64 (IntKind.i64.wrap (IntKind.i64.wrap (0 - IntKind.i64.wrap (IntKind.i64.wrap (a * d) - IntKind.i64.wrap (b * c))) * b)), .int .i64 (IntKind.i64.wrap (IntKind.i64.wrap (0 - IntKind.i64.wrap (IntKind.i64.wrap (a * d) - IntKind.i64.wrap (b * c))) * c)), .int .i64 (IntKind.i64.wrap (IntKind.i64.wrap (IntKind.i64.wrap (a * d) - IntKind.i64.wrap (b * c)) * a))], .bool (true)]) []))) := by kernel_rfl
set_option maxRecDepth 100000 in
theorem tr_implIv (a b c d : Int) : bodyV Try.prog (tabE TM2) 30 12 22 [.v (.agg #[iv a, iv b, iv c, iv d])] = brT (!dtR a b c d == 1) (brT (!dtR a b c d == -1) (.fin (.tuple #[.agg #[.int .i64 (0), .int .i64 (0), .int .i64 (0), .int .i64 (0)], .bool (false)]) []) (.fin (.tuple #[.agg #[.int .i64 (IntKind.i64.wrap (dtR a b c d * d)), .int .i64 (IntKind.i64.wrap (IntKind.i64.wrap (0 - dtR a b c d) * b)), .int .i64 (IntKind.i64.wrap (IntKind.i64.wrap (0 - dtR a b c d) * c)), .int .i64 (IntKind.i64.wrap (dtR a b c d * a))], .bool (true)]) [])) (.fin (.tuple #[.agg #[.int .i64 (IntKind.i64.wrap (dtR a b c d * d)), .int .i64 (IntKind.i64.wrap (IntKind.i64.wrap (0 - dtR a b c d) * b)), .int .i64 (IntKind.i64.wrap (IntKind.i64.wrap (0 - dtR a b c d) * c)), .int .i64 (IntKind.i64.wrap (dtR a b c d * a))], .bool (true)]) []) := by kernel_rfl
end Go.Proofs.Ytfjcbindeimoiaa
