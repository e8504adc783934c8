/-
  The table of lines, and the law of MeetLines. Written by an AI agent.
-/
import Derived.Test.YtblpldapmmoheabTabB
namespace Go.Proofs.Ytblpldapmmoheab
set_option linter.all false
open Go.RowKit
theorem brT_tL (x y : Tree) : brT true x y = x := rfl
theorem brT_fL (x y : Tree) : brT false x y = y := rfl
theorem wrL {x : Int} (h : -9223372036854775808 ≤ x ∧ x ≤ 9223372036854775807) : IntKind.i64.wrap x = x := by
  rw [IntKind.wrap_i64]
  omega
set_option maxRecDepth 100000 in
theorem tr_specLine (a b c : Int) : runX Try.prog (tabE T1) 30 12 66 [.v (.agg #[iv a, iv b, iv c])] (fun u => .fin u []) = brT (decide (0 ≤ a)) (brT (!decide (a ≤ 2000)) (.fin (.bool (false)) []) (brT (decide (-2000 ≤ b)) (brT (!decide (b ≤ 2000)) (.fin (.bool (false)) []) (brT (decide (-4000000 ≤ c)) (brT (!decide (c ≤ 4000000)) (.fin (.bool (false)) []) (brT (decide (0 < a)) (.need (big b) (.need (big0 a) (.need (big0 (↑b.natAbs : Int)) (.need (big c) (.need (big0 (gI a (↑b.natAbs : Int))) (.need (big0 (↑c.natAbs : Int)) (.fin (.bool (gI (gI a (↑b.natAbs : Int)) (↑c.natAbs : Int) == 1)) []))))))) (brT (decide (0 < b)) (.need (big b) (.need (big0 a) (.need (big0 (↑b.natAbs : Int)) (.need (big c) (.need (big0 (gI a (↑b.natAbs : Int))) (.need (big0 (↑c.natAbs : Int)) (.fin (.bool (gI (gI a (↑b.natAbs : Int)) (↑c.natAbs : Int) == 1)) []))))))) (.fin (.bool (false)) [])))) (.fin (.bool (false)) []))) (.fin (.bool (false)) []))) (.fin (.bool (false)) []) := by kernel_rfl
set_option maxRecDepth 100000 in
theorem tr_implLine (a b c : Int) : runX Try.prog (tabE T1) 30 12 22 [.v (.agg #[iv a, iv b, iv c])] (fun u => .fin u []) = brT (decide (IntKind.i64.wrap (0 - 2000) ≤ a)) (brT (!decide (a ≤ 2000)) (.fin (.bool (false)) []) (brT (decide (IntKind.i64.wrap (0 - 2000) ≤ b)) (brT (!decide (b ≤ 2000)) (.fin (.bool (false)) []) (brT (decide (IntKind.i64.wrap (0 - 4000000) ≤ c)) (brT (!decide (c ≤ 4000000)) (.fin (.bool (false)) []) (brT (decide (a < 0)) (.fin (.bool (false)) []) (brT (a == 0) (brT (decide (b ≤ 0)) (.fin (.bool (false)) []) (.need (big a) (.need (big b) (.need (big c) (.fin (.bool (gI (gI a b) c == 1)) []))))) (.need (big a) (.need (big b) (.need (big c) (.fin (.bool (gI (gI a b) c == 1)) []))))))) (.fin (.bool (false)) []))) (.fin (.bool (false)) []))) (.fin (.bool (false)) []) := by kernel_rfl
theorem gI_commL' (a b : Int) : gI a b = gI b a := by unfold gI; rw [Int.gcd_comm]
theorem gI_absRL (a b : Int) : gI a (b.natAbs : Int) = gI a b := by rw [gI_commL', gI_abs, gI_commL']
theorem w2000 : IntKind.i64.wrap (0 - 2000) = -2000 := by decide
theorem w4000 : IntKind.i64.wrap (0 - 4000000) = -4000000 := by decide
/-- A line is valid. -/
def lineBL (a b c : Int) : Bool := decide (0 ≤ a ∧ a ≤ 2000 ∧ -2000 ≤ b ∧ b ≤ 2000 ∧ -4000000 ≤ c ∧ c ≤ 4000000 ∧ (0 < a ∨ 0 < b)) && (gI (gI a b) c == 1)
theorem lineB_trueL {a b c : Int} (h : lineBL a b c = true) : 0 ≤ a ∧ a ≤ 2000 ∧ -2000 ≤ b ∧ b ≤ 2000 ∧ -4000000 ≤ c ∧ c ≤ 4000000 ∧ (0 < a ∨ 0 < b) := by
  unfold lineBL at h
  rw [Bool.and_eq_true] at h
  exact of_decide_eq_true h.1
theorem lineB_noL {a b c : Int} (h : ¬ (0 ≤ a ∧ a ≤ 2000 ∧ -2000 ≤ b ∧ b ≤ 2000 ∧ -4000000 ≤ c ∧ c ≤ 4000000 ∧ (0 < a ∨ 0 < b))) : lineBL a b c = false := by
  unfold lineBL
  rw [decide_eq_false h]
  rfl
theorem lineB_mkL {a b c : Int} (h : 0 ≤ a ∧ a ≤ 2000 ∧ -2000 ≤ b ∧ b ≤ 2000 ∧ -4000000 ≤ c ∧ c ≤ 4000000 ∧ (0 < a ∨ 0 < b)) : lineBL a b c = (gI (gI a b) c == 1) := by
  unfold lineBL
  rw [decide_eq_true h]
  rfl
theorem res_specLine (a b c : Int) : Res Try.prog 66 [.v (.agg #[iv a, iv b, iv c])] (.bool (lineBL a b c)) := by
  refine res_of mixed (tabE_ok T1_ok) (m := 30) (n := 12) ?_
  rw [tr_specLine]
  by_cases h : 0 ≤ a ∧ a ≤ 2000 ∧ -2000 ≤ b ∧ b ≤ 2000 ∧ -4000000 ≤ c ∧ c ≤ 4000000 ∧ (0 < a ∨ 0 < b)
  · rw [lineB_mkL h, gI_absRL, gI_absRL]
    obtain ⟨h1, h2, h3, h4, h5, h6, h7⟩ := h
    have hg := gI_bd (a := a) (b := b) (M := 2000) (by omega) (by omega)
    simp only [brT_ok, Tree.ok, decide_eq_true_eq, decide_eq_false_iff_not, big, big0, Bool.not_eq_true', Bool.not_eq_false']
    repeat' (first | apply And.intro | intro _)
    all_goals first | exact True.intro | omega | rfl
  · rw [lineB_noL h]
    simp only [brT_ok, Tree.ok, decide_eq_true_eq, decide_eq_false_iff_not, big, big0, Bool.not_eq_true', Bool.not_eq_false']
    repeat' (first | apply And.intro | intro _)
    all_goals first | exact True.intro | omega | rfl
theorem res_implLine (a b c : Int) : Res Try.prog 22 [.v (.agg #[iv a, iv b, iv c])] (.bool (lineBL a b c)) := by
  refine res_of mixed (tabE_ok T1_ok) (m := 30) (n := 12) ?_
  rw [tr_implLine]
  by_cases h : 0 ≤ a ∧ a ≤ 2000 ∧ -2000 ≤ b ∧ b ≤ 2000 ∧ -4000000 ≤ c ∧ c ≤ 4000000 ∧ (0 < a ∨ 0 < b)
  · rw [lineB_mkL h]
    obtain ⟨h1, h2, h3, h4, h5, h6, h7⟩ := h
    simp only [brT_ok, Tree.ok, decide_eq_true_eq, decide_eq_false_iff_not, big, Bool.not_eq_true', Bool.not_eq_false', beq_iff_eq, beq_eq_false_iff_ne, w2000, w4000]
    repeat' (first | apply And.intro | intro _)
    all_goals first | exact True.intro | omega | rfl
  · rw [lineB_noL h]
    simp only [brT_ok, Tree.ok, decide_eq_true_eq, decide_eq_false_iff_not, big, Bool.not_eq_true', Bool.not_eq_false', beq_iff_eq, beq_eq_false_iff_ne, w2000, w4000]
    repeat' (first | apply And.intro | intro _)
    all_goals first | exact True.intro | omega | rfl
def pLine : List DArg → Option (Value × List Prop)
  | [.v (.agg ⟨[.int .i64 a, .int .i64 b, .int .i64 c]⟩)] => some (.bool (lineBL a b c), [])
  | _ => none
def T4 : Tab := fun f ds => match f with
  | 66 => pLine ds
  | 22 => pLine ds
  | f => T1 f ds
theorem T4_r0 {ds : List DArg} {v : Value} {C : List Prop} (h : pLine ds = some (v, C)) (hC : AllP C) : Res Try.prog 66 ds v := by
  unfold pLine at h
  split at h
  · obtain ⟨rfl, rfl⟩ : _ ∧ _ := by simpa using h
    exact res_specLine _ _ _
  · cases h
theorem T4_r1 {ds : List DArg} {v : Value} {C : List Prop} (h : pLine ds = some (v, C)) (hC : AllP C) : Res Try.prog 22 ds v := by
  unfold pLine at h
  split at h
  · obtain ⟨rfl, rfl⟩ : _ ∧ _ := by simpa using h
    exact res_implLine _ _ _
  · cases h
theorem T4_ok : TabOk Try.prog T4 := by
  intro f ds v C h hC
  unfold T4 at h
  (try split at h)
  all_goals first | with_reducible exact T4_r0 h hC | with_reducible exact T4_r1 h hC | exact T1_ok _ _ _ _ h hC | cases h
set_option maxRecDepth 100000 in
theorem tr_specMeet (a b c d e f : Int) : runX Try.prog (tabE T4) 30 12 17 [.v (.agg #[iv a, iv b, iv c]), .v (.agg #[iv d, iv e, iv f])] (fun u => .fin u []) = brT (!lineBL a b c) (.fin (.tuple #[.agg #[.int .i64 (0), .int .i64 (0), .int .i64 (0), .int .i64 (0)], .int .i64 (-1)]) []) (brT (!lineBL d e f) (.fin (.tuple #[.agg #[.int .i64 (0), .int .i64 (0), .int .i64 (0), .int .i64 (0)], .int .i64 (-1)]) []) (brT (negB false (a == d && (b == e && (c == f && true)))) (.fin (.tuple #[.agg #[.int .i64 (0), .int .i64 (0), .int .i64 (0), .int .i64 (0)], .int .i64 (2)]) []) (brT (IntKind.i64.wrap (a * e) == IntKind.i64.wrap (d * b)) (.fin (.tuple #[.agg #[.int .i64 (0), .int .i64 (0), .int .i64 (0), .int .i64 (0)], .int .i64 (0)]) []) (.need (big (IntKind.i64.wrap (IntKind.i64.wrap (c * e) - IntKind.i64.wrap (f * b)))) (.need (big (IntKind.i64.wrap (IntKind.i64.wrap (a * e) - IntKind.i64.wrap (d * b)))) (.need (¬IntKind.i64.wrap (IntKind.i64.wrap (a * e) - IntKind.i64.wrap (d * b)) = (0 : Int)) (.need (big (IntKind.i64.wrap (IntKind.i64.wrap (a * f) - IntKind.i64.wrap (d * c)))) (.need (big (IntKind.i64.wrap (IntKind.i64.wrap (a * e) - IntKind.i64.wrap (d * b)))) (.need (¬IntKind.i64.wrap (IntKind.i64.wrap (a * e) - IntKind.i64.wrap (d * b)) = (0 : Int)) (.fin (.tuple #[.agg #[.int .i64 (qN (IntKind.i64.wrap (IntKind.i64.wrap (c * e) - IntKind.i64.wrap (f * b))) (IntKind.i64.wrap (IntKind.i64.wrap (a * e) - IntKind.i64.wrap (d * b)))), .int .i64 (qD (IntKind.i64.wrap (IntKind.i64.wrap (c * e) - IntKind.i64.wrap (f * b))) (IntKind.i64.wrap (IntKind.i64.wrap (a * e) - IntKind.i64.wrap (d * b)))), .int .i64 (qN (IntKind.i64.wrap (IntKind.i64.wrap (a * f) - IntKind.i64.wrap (d * c))) (IntKind.i64.wrap (IntKind.i64.wrap (a * e) - IntKind.i64.wrap (d * b)))), .int .i64 (qD (IntKind.i64.wrap (IntKind.i64.wrap (a * f) - IntKind.i64.wrap (d * c))) (IntKind.i64.wrap (IntKind.i64.wrap (a * e) - IntKind.i64.wrap (d * b))))], .int .i64 (1)]) [])))))))))) := by kernel_rfl
set_option maxRecDepth 100000 in
theorem tr_implMeet (a b c d e f : Int) : runX Try.prog (tabE T4) 30 12 16 [.v (.agg #[iv a, iv b, iv c]), .v (.agg #[iv d, iv e, iv f])] (fun u => .fin u []) = brT (!lineBL a b c) (.fin (.tuple #[.agg #[.int .i64 (0), .int .i64 (0), .int .i64 (0), .int .i64 (0)], .int .i64 (-1)]) []) (brT (!lineBL d e f) (.fin (.tuple #[.agg #[.int .i64 (0), .int .i64 (0), .int .i64 (0), .int .i64 (0)], .int .i64 (-1)]) []) (brT (negB false (a == d && (b == e && (c == f && true)))) (.fin (.tuple #[.agg #[.int .i64 (0), .int .i64 (0), .int .i64 (0), .int .i64 (0)], .int .i64 (2)]) []) (brT (IntKind.i64.wrap (a * e) == IntKind.i64.wrap (d * b)) (.fin (.tuple #[.agg #[.int .i64 (0), .int .i64 (0), .int .i64 (0), .int .i64 (0)], .int .i64 (0)]) []) (.need (big (IntKind.i64.wrap (IntKind.i64.wrap (c * e) - IntKind.i64.wrap (f * b)))) (.need (big (IntKind.i64.wrap (IntKind.i64.wrap (a * e) - IntKind.i64.wrap (d * b)))) (.need (¬IntKind.i64.wrap (IntKind.i64.wrap (a * e) - IntKind.i64.wrap (d * b)) = (0 : Int)) (.need (big (IntKind.i64.wrap (IntKind.i64.wrap (a * f) - IntKind.i64.wrap (d * c)))) (.need (big (IntKind.i64.wrap (IntKind.i64.wrap (a * e) - IntKind.i64.wrap (d * b)))) (.need (¬IntKind.i64.wrap (IntKind.i64.wrap (a * e) - IntKind.i64.wrap (d * b)) = (0 : Int)) (.fin (.tuple #[.agg #[.int .i64 (qN (IntKind.i64.wrap (IntKind.i64.wrap (c * e) - IntKind.i64.wrap (f * b))) (IntKind.i64.wrap (IntKind.i64.wrap (a * e) - IntKind.i64.wrap (d * b)))), .int .i64 (qD (IntKind.i64.wrap (IntKind.i64.wrap (c * e) - IntKind.i64.wrap (f * b))) (IntKind.i64.wrap (IntKind.i64.wrap (a * e) - IntKind.i64.wrap (d * b)))), .int .i64 (qN (IntKind.i64.wrap (IntKind.i64.wrap (a * f) - IntKind.i64.wrap (d * c))) (IntKind.i64.wrap (IntKind.i64.wrap (a * e) - IntKind.i64.wrap (d * b)))), .int .i64 (qD (IntKind.i64.wrap (IntKind.i64.wrap (a * f) - IntKind.i64.wrap (d * c))) (IntKind.i64.wrap (IntKind.i64.wrap (a * e) - IntKind.i64.wrap (d * b))))], .int .i64 (1)]) [])))))))))) := by kernel_rfl
/-- The numbers that two results hold. -/
def tIL (v : Value) (k : Nat) : Int := match v with
  | .tuple ⟨.agg ⟨l⟩ :: _⟩ => (match l[k]? with
    | some (.int _ x) => x
    | _ => 0)
  | _ => 0
def tOL (v : Value) : Bool := match v with
  | .tuple ⟨[_, .bool b]⟩ => b
  | _ => false
def tNL (v : Value) : Int := match v with
  | .tuple ⟨[_, .int _ b]⟩ => b
  | _ => 0
def eqL (a b c d e f : Int) : Bool := a == d && (b == e && (c == f && true))
def mtV (a b c d e f : Int) : Value :=
  if lineBL a b c && lineBL d e f then
    if eqL a b c d e f then .tuple #[.agg #[iv 0, iv 0, iv 0, iv 0], iv 2]
    else if a * e - d * b = 0 then .tuple #[.agg #[iv 0, iv 0, iv 0, iv 0], iv 0]
    else .tuple #[.agg #[iv (qN (c * e - f * b) (a * e - d * b)), iv (qD (c * e - f * b) (a * e - d * b)), iv (qN (a * f - d * c) (a * e - d * b)), iv (qD (a * f - d * c) (a * e - d * b))], iv 1]
  else .tuple #[.agg #[iv 0, iv 0, iv 0, iv 0], iv (-1)]
def mtP (a b c d e f : Int) (k : Nat) : Int := tIL (mtV a b c d e f) k
def mtO (a b c d e f : Int) : Int := tNL (mtV a b c d e f)
theorem mtV_is (a b c d e f : Int) : mtV a b c d e f = .tuple #[.agg #[iv (mtP a b c d e f 0), iv (mtP a b c d e f 1), iv (mtP a b c d e f 2), iv (mtP a b c d e f 3)], iv (mtO a b c d e f)] := by
  unfold mtP mtO mtV
  split
  · split
    · rfl
    · split <;> rfl
  · rfl
theorem res_specMeet (a b c d e f : Int) : Res Try.prog 17 [.v (.agg #[iv a, iv b, iv c]), .v (.agg #[iv d, iv e, iv f])] (mtV a b c d e f) := by
  refine res_of mixed (tabE_ok T4_ok) (m := 30) (n := 12) ?_
  rw [tr_specMeet]
  unfold mtV
  rcases h1 : lineBL a b c with _ | _
  · simp [brT, Tree.ok]
  rcases h2 : lineBL d e f with _ | _
  · simp [brT, Tree.ok]
  rcases h3 : eqL a b c d e f with _ | _
  rotate_left
  · unfold eqL at h3
    rw [h3]
    simp [brT, Tree.ok, negB]
  have l1 := lineB_trueL h1
  have l2 := lineB_trueL h2
  unfold eqL at h3
  rw [h3]
  have p1 := mul_bd (x := a) (y := e) 2000 2000 (by omega) (by omega)
  have p2 := mul_bd (x := d) (y := b) 2000 2000 (by omega) (by omega)
  have p3 := mul_bd (x := c) (y := e) 4000000 2000 (by omega) (by omega)
  have p4 := mul_bd (x := f) (y := b) 4000000 2000 (by omega) (by omega)
  have p5 := mul_bd (x := a) (y := f) 2000 4000000 (by omega) (by omega)
  have p6 := mul_bd (x := d) (y := c) 2000 4000000 (by omega) (by omega)
  simp (disch := omega) only [wrL]
  by_cases h4 : a * e - d * b = 0
  · simp [brT, Tree.ok, negB, show a * e = d * b by omega]
  · rw [show (a * e == d * b) = false from beq_eq_false_iff_ne.2 (by omega)]
    simp only [Bool.and_self, Bool.not_true, brT_fL, if_true, negB, Tree.ok, big, h4, if_false, Bool.false_eq_true]
    repeat' (first | apply And.intro | intro _)
    all_goals first | exact True.intro | omega | rfl
theorem res_implMeet (a b c d e f : Int) : Res Try.prog 16 [.v (.agg #[iv a, iv b, iv c]), .v (.agg #[iv d, iv e, iv f])] (mtV a b c d e f) := by
  refine res_of mixed (tabE_ok T4_ok) (m := 30) (n := 12) ?_
  rw [tr_implMeet]
  unfold mtV
  rcases h1 : lineBL a b c with _ | _
  · simp [brT, Tree.ok]
  rcases h2 : lineBL d e f with _ | _
  · simp [brT, Tree.ok]
  rcases h3 : eqL a b c d e f with _ | _
  rotate_left
  · unfold eqL at h3
    rw [h3]
    simp [brT, Tree.ok, negB]
  have l1 := lineB_trueL h1
  have l2 := lineB_trueL h2
  unfold eqL at h3
  rw [h3]
  have p1 := mul_bd (x := a) (y := e) 2000 2000 (by omega) (by omega)
  have p2 := mul_bd (x := d) (y := b) 2000 2000 (by omega) (by omega)
  have p3 := mul_bd (x := c) (y := e) 4000000 2000 (by omega) (by omega)
  have p4 := mul_bd (x := f) (y := b) 4000000 2000 (by omega) (by omega)
  have p5 := mul_bd (x := a) (y := f) 2000 4000000 (by omega) (by omega)
  have p6 := mul_bd (x := d) (y := c) 2000 4000000 (by omega) (by omega)
  simp (disch := omega) only [wrL]
  by_cases h4 : a * e - d * b = 0
  · simp [brT, Tree.ok, negB, show a * e = d * b by omega]
  · rw [show (a * e == d * b) = false from beq_eq_false_iff_ne.2 (by omega)]
    simp only [Bool.and_self, Bool.not_true, brT_fL, if_true, negB, Tree.ok, big, h4, if_false, Bool.false_eq_true]
    repeat' (first | apply And.intro | intro _)
    all_goals first | exact True.intro | omega | rfl
def pMeet : List DArg → Option (Value × List Prop)
  | [.v (.agg ⟨[.int .i64 a, .int .i64 b, .int .i64 c]⟩), .v (.agg ⟨[.int .i64 d, .int .i64 e, .int .i64 f]⟩)] => some (.tuple #[.agg #[iv (mtP a b c d e f 0), iv (mtP a b c d e f 1), iv (mtP a b c d e f 2), iv (mtP a b c d e f 3)], iv (mtO a b c d e f)], [])
  | _ => none
def T5 : Tab := fun f ds => match f with
  | 17 => pMeet ds
  | 16 => pMeet ds
  | f => T4 f ds
theorem T5_r0 {ds : List DArg} {v : Value} {C : List Prop} (h : pMeet ds = some (v, C)) (hC : AllP C) : Res Try.prog 17 ds v := by
  unfold pMeet at h
  split at h
  · obtain ⟨rfl, rfl⟩ : _ ∧ _ := by simpa using h
    rw [← mtV_is]
    exact res_specMeet _ _ _ _ _ _
  · cases h
theorem T5_r1 {ds : List DArg} {v : Value} {C : List Prop} (h : pMeet ds = some (v, C)) (hC : AllP C) : Res Try.prog 16 ds v := by
  unfold pMeet at h
  split at h
  · obtain ⟨rfl, rfl⟩ : _ ∧ _ := by simpa using h
    rw [← mtV_is]
    exact res_implMeet _ _ _ _ _ _
  · cases h
theorem T5_ok : TabOk Try.prog T5 := by
  intro f ds v C h hC
  unfold T5 at h
  (try split at h)
  all_goals first | with_reducible exact T5_r0 h hC | with_reducible exact T5_r1 h hC | exact T4_ok _ _ _ _ h hC | cases h
end Go.Proofs.Ytblpldapmmoheab
