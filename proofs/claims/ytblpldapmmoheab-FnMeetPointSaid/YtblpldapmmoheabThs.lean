/-
  The line through two points, told by its numbers; beside the texts of segments. Written by an AI agent.
-/
import Derived.Test.YtblpldapmmoheabSeg
import Derived.Test.YtblpldapmmoheabLst
import Derived.Test.YtblpldapmmoheabWalkL
import Derived.Test.YtblpldapmmoheabTabB
import Derived.Test.YtblpldapmmoheabMath3
import Derived.Test.YtblpldapmmoheabBc
namespace Go.Proofs.Ytblpldapmmoheab
set_option linter.all false
open Go.RowKit
theorem brT_t (x y : Tree) : brT true x y = x := rfl
theorem brT_f (x y : Tree) : brT false x y = y := rfl
def pLineT : List DArg → Option (Value × List Prop)
  | [.v (.agg ⟨[.int .i64 a, .int .i64 b, .int .i64 c]⟩)] => some (.bool (lineB a b c), [])
  | _ => none
def TL1 : Tab := fun f ds => match f with
  | 66 => pLineT ds
  | _ => T1 f ds
theorem TL1_r0 {ds : List DArg} {v : Value} {C : List Prop} (h : pLineT ds = some (v, C)) (hC : AllP C) : Res Try.prog 66 ds v := by
  unfold pLineT at h
  split at h
  · obtain ⟨rfl, rfl⟩ : _ ∧ _ := by simpa using h
    exact res_calls (by kernel_rfl) rfl rfl fun w => specLine_any _ _ _ w
  · cases h
theorem TL1_ok : TabOk Try.prog TL1 := by
  intro f ds v C h hC
  unfold TL1 at h
  (try split at h)
  all_goals first | with_reducible exact TL1_r0 h hC | exact T1_ok _ _ _ _ h hC | cases h
set_option maxRecDepth 100000 in
theorem tr_implThrough (ax ay bx b_y : Int) : runX Try.prog (tabE TL1) 30 12 29 [.v (.agg #[iv ax, iv ay]), .v (.agg #[iv bx, iv b_y])] (fun u => .fin u []) = brT (!(ptB ax ay && ptB bx b_y)) (.fin (.tuple #[.agg #[.int .i64 (0), .int .i64 (0), .int .i64 (0)], .bool (false)]) []) (brT (negB false (ax == bx && (ay == b_y && true))) (.fin (.tuple #[.agg #[.int .i64 (0), .int .i64 (0), .int .i64 (0)], .bool (false)]) []) (.need ((0 : Int) ≤ (0 : Int) ∧ (0 : Int) < (↑(2 : Nat) : Int)) (brT (!cmpI (IntKind.i64.wrap (b_y - ay)) 0 == 0) (brT (decide (cmpI (IntKind.i64.wrap (b_y - ay)) 0 < 0)) (.need (big (IntKind.i64.wrap ((0 : Int) - IntKind.i64.wrap (b_y - ay)))) (.need (big (IntKind.i64.wrap ((0 : Int) - IntKind.i64.wrap (ax - bx)))) (.need (¬gI (IntKind.i64.wrap ((0 : Int) - IntKind.i64.wrap (b_y - ay))) (IntKind.i64.wrap ((0 : Int) - IntKind.i64.wrap (ax - bx))) = (0 : Int)) (.need (¬gI (IntKind.i64.wrap ((0 : Int) - IntKind.i64.wrap (b_y - ay))) (IntKind.i64.wrap ((0 : Int) - IntKind.i64.wrap (ax - bx))) = (0 : Int)) (.fin (.tuple #[.agg #[.int .i64 (IntKind.i64.wrap ((IntKind.i64.wrap (0 - IntKind.i64.wrap (b_y - ay))).tdiv (gI (IntKind.i64.wrap (0 - IntKind.i64.wrap (b_y - ay))) (IntKind.i64.wrap (0 - IntKind.i64.wrap (ax - bx)))))), .int .i64 (IntKind.i64.wrap ((IntKind.i64.wrap (0 - IntKind.i64.wrap (ax - bx))).tdiv (gI (IntKind.i64.wrap (0 - IntKind.i64.wrap (b_y - ay))) (IntKind.i64.wrap (0 - IntKind.i64.wrap (ax - bx)))))), .int .i64 (IntKind.i64.wrap (IntKind.i64.wrap (IntKind.i64.wrap ((IntKind.i64.wrap (0 - IntKind.i64.wrap (b_y - ay))).tdiv (gI (IntKind.i64.wrap (0 - IntKind.i64.wrap (b_y - ay))) (IntKind.i64.wrap (0 - IntKind.i64.wrap (ax - bx))))) * ax) + IntKind.i64.wrap (IntKind.i64.wrap ((IntKind.i64.wrap (0 - IntKind.i64.wrap (ax - bx))).tdiv (gI (IntKind.i64.wrap (0 - IntKind.i64.wrap (b_y - ay))) (IntKind.i64.wrap (0 - IntKind.i64.wrap (ax - bx))))) * ay)))], .bool (true)]) []))))) (.need (big (IntKind.i64.wrap (b_y - ay))) (.need (big (IntKind.i64.wrap (ax - bx))) (.need (¬gI (IntKind.i64.wrap (b_y - ay)) (IntKind.i64.wrap (ax - bx)) = (0 : Int)) (.need (¬gI (IntKind.i64.wrap (b_y - ay)) (IntKind.i64.wrap (ax - bx)) = (0 : Int)) (.fin (.tuple #[.agg #[.int .i64 (IntKind.i64.wrap ((IntKind.i64.wrap (b_y - ay)).tdiv (gI (IntKind.i64.wrap (b_y - ay)) (IntKind.i64.wrap (ax - bx))))), .int .i64 (IntKind.i64.wrap ((IntKind.i64.wrap (ax - bx)).tdiv (gI (IntKind.i64.wrap (b_y - ay)) (IntKind.i64.wrap (ax - bx))))), .int .i64 (IntKind.i64.wrap (IntKind.i64.wrap (IntKind.i64.wrap ((IntKind.i64.wrap (b_y - ay)).tdiv (gI (IntKind.i64.wrap (b_y - ay)) (IntKind.i64.wrap (ax - bx)))) * ax) + IntKind.i64.wrap (IntKind.i64.wrap ((IntKind.i64.wrap (ax - bx)).tdiv (gI (IntKind.i64.wrap (b_y - ay)) (IntKind.i64.wrap (ax - bx)))) * ay)))], .bool (true)]) [])))))) (.need ((0 : Int) ≤ IntKind.i64.wrap ((0 : Int) + (1 : Int)) ∧ IntKind.i64.wrap ((0 : Int) + (1 : Int)) < (↑(2 : Nat) : Int)) (brT (!cmpI (IntKind.i64.wrap (ax - bx)) 0 == 0) (brT (decide (cmpI (IntKind.i64.wrap (ax - bx)) 0 < 0)) (.need (big (IntKind.i64.wrap ((0 : Int) - IntKind.i64.wrap (b_y - ay)))) (.need (big (IntKind.i64.wrap ((0 : Int) - IntKind.i64.wrap (ax - bx)))) (.need (¬gI (IntKind.i64.wrap ((0 : Int) - IntKind.i64.wrap (b_y - ay))) (IntKind.i64.wrap ((0 : Int) - IntKind.i64.wrap (ax - bx))) = (0 : Int)) (.need (¬gI (IntKind.i64.wrap ((0 : Int) - IntKind.i64.wrap (b_y - ay))) (IntKind.i64.wrap ((0 : Int) - IntKind.i64.wrap (ax - bx))) = (0 : Int)) (.fin (.tuple #[.agg #[.int .i64 (IntKind.i64.wrap ((IntKind.i64.wrap (0 - IntKind.i64.wrap (b_y - ay))).tdiv (gI (IntKind.i64.wrap (0 - IntKind.i64.wrap (b_y - ay))) (IntKind.i64.wrap (0 - IntKind.i64.wrap (ax - bx)))))), .int .i64 (IntKind.i64.wrap ((IntKind.i64.wrap (0 - IntKind.i64.wrap (ax - bx))).tdiv (gI (IntKind.i64.wrap (0 - IntKind.i64.wrap (b_y - ay))) (IntKind.i64.wrap (0 - IntKind.i64.wrap (ax - bx)))))), .int .i64 (IntKind.i64.wrap (IntKind.i64.wrap (IntKind.i64.wrap ((IntKind.i64.wrap (0 - IntKind.i64.wrap (b_y - ay))).tdiv (gI (IntKind.i64.wrap (0 - IntKind.i64.wrap (b_y - ay))) (IntKind.i64.wrap (0 - IntKind.i64.wrap (ax - bx))))) * ax) + IntKind.i64.wrap (IntKind.i64.wrap ((IntKind.i64.wrap (0 - IntKind.i64.wrap (ax - bx))).tdiv (gI (IntKind.i64.wrap (0 - IntKind.i64.wrap (b_y - ay))) (IntKind.i64.wrap (0 - IntKind.i64.wrap (ax - bx))))) * ay)))], .bool (true)]) []))))) (.need (big (IntKind.i64.wrap (b_y - ay))) (.need (big (IntKind.i64.wrap (ax - bx))) (.need (¬gI (IntKind.i64.wrap (b_y - ay)) (IntKind.i64.wrap (ax - bx)) = (0 : Int)) (.need (¬gI (IntKind.i64.wrap (b_y - ay)) (IntKind.i64.wrap (ax - bx)) = (0 : Int)) (.fin (.tuple #[.agg #[.int .i64 (IntKind.i64.wrap ((IntKind.i64.wrap (b_y - ay)).tdiv (gI (IntKind.i64.wrap (b_y - ay)) (IntKind.i64.wrap (ax - bx))))), .int .i64 (IntKind.i64.wrap ((IntKind.i64.wrap (ax - bx)).tdiv (gI (IntKind.i64.wrap (b_y - ay)) (IntKind.i64.wrap (ax - bx))))), .int .i64 (IntKind.i64.wrap (IntKind.i64.wrap (IntKind.i64.wrap ((IntKind.i64.wrap (b_y - ay)).tdiv (gI (IntKind.i64.wrap (b_y - ay)) (IntKind.i64.wrap (ax - bx)))) * ax) + IntKind.i64.wrap (IntKind.i64.wrap ((IntKind.i64.wrap (ax - bx)).tdiv (gI (IntKind.i64.wrap (b_y - ay)) (IntKind.i64.wrap (ax - bx)))) * ay)))], .bool (true)]) [])))))) (.need (big (IntKind.i64.wrap (b_y - ay))) (.need (big (IntKind.i64.wrap (ax - bx))) (.need (¬gI (IntKind.i64.wrap (b_y - ay)) (IntKind.i64.wrap (ax - bx)) = (0 : Int)) (.need (¬gI (IntKind.i64.wrap (b_y - ay)) (IntKind.i64.wrap (ax - bx)) = (0 : Int)) (.fin (.tuple #[.agg #[.int .i64 (IntKind.i64.wrap ((IntKind.i64.wrap (b_y - ay)).tdiv (gI (IntKind.i64.wrap (b_y - ay)) (IntKind.i64.wrap (ax - bx))))), .int .i64 (IntKind.i64.wrap ((IntKind.i64.wrap (ax - bx)).tdiv (gI (IntKind.i64.wrap (b_y - ay)) (IntKind.i64.wrap (ax - bx))))), .int .i64 (IntKind.i64.wrap (IntKind.i64.wrap (IntKind.i64.wrap ((IntKind.i64.wrap (b_y - ay)).tdiv (gI (IntKind.i64.wrap (b_y - ay)) (IntKind.i64.wrap (ax - bx)))) * ax) + IntKind.i64.wrap (IntKind.i64.wrap ((IntKind.i64.wrap (ax - bx)).tdiv (gI (IntKind.i64.wrap (b_y - ay)) (IntKind.i64.wrap (ax - bx)))) * ay)))], .bool (true)]) [])))))))))) := by kernel_rfl
theorem gI_comm' (a b : Int) : gI a b = gI b a := by unfold gI; rw [Int.gcd_comm]
theorem gI_absR (a b : Int) : gI a (b.natAbs : Int) = gI a b := by rw [gI_comm', gI_abs, gI_comm']
/-- The line through two points. -/
abbrev thNeg (ax ay bx b_y : Int) : Prop := b_y - ay < 0 ∨ b_y - ay = 0 ∧ ax - bx < 0

def lnV (a b x y : Int) : Value := .agg #[iv (a.tdiv (gI a b)), iv (b.tdiv (gI a b)), iv (a.tdiv (gI a b) * x + b.tdiv (gI a b) * y)]
def thV (ax ay bx b_y : Int) : Value := if ptB ax ay && ptB bx b_y && !(eqB ax ay bx b_y) then
  .tuple #[if thNeg ax ay bx b_y then lnV (0 - (b_y - ay)) (0 - (ax - bx)) ax ay else lnV (b_y - ay) (ax - bx) ax ay, .bool true]
  else .tuple #[.agg #[iv 0, iv 0, iv 0], .bool false]
theorem line_div {a b x y : Int} (h : gI a b ≠ 0) : (a * x + b * y).tdiv (gI a b) = a.tdiv (gI a b) * x + b.tdiv (gI a b) * y := by
  obtain ⟨p, hp⟩ := gI_dvd_left a b
  obtain ⟨q, hq⟩ := gI_dvd_right a b
  generalize gI a b = g at *
  subst hp hq
  rw [show g * p * x + g * q * y = g * (p * x + q * y) by grind, Int.mul_tdiv_cancel_left _ h, Int.mul_tdiv_cancel_left _ h, Int.mul_tdiv_cancel_left _ h]
theorem line_gcd (a b x y : Int) : gI (gI a b) (a * x + b * y) = gI a b := by
  have h1 : gI a b ∣ a * x + b * y := Int.dvd_add (Int.dvd_trans (gI_dvd_left a b) (Int.dvd_mul_right _ _)) (Int.dvd_trans (gI_dvd_right a b) (Int.dvd_mul_right _ _))
  have h2 := gI_nonneg a b
  generalize gI a b = g at *
  unfold gI
  obtain ⟨k, hk⟩ := h1
  rw [hk, Int.gcd_mul_right_right]
  omega
theorem gI_ne {a b : Int} (h : a ≠ 0 ∨ b ≠ 0) : gI a b ≠ 0 := by
  rcases h with h | h
  · rw [gI_comm']
    have := gI_pos b a h
    omega
  · have := gI_pos a b h
    omega
theorem thru_bd {ax ay bx b_y : Int} (h1 : ptB ax ay = true) (h2 : ptB bx b_y = true) (h3 : eqB ax ay bx b_y = false) : (-2000 ≤ b_y - ay ∧ b_y - ay ≤ 2000) ∧ (-2000 ≤ ax - bx ∧ ax - bx ≤ 2000) ∧ (-1000 ≤ ax ∧ ax ≤ 1000) ∧ (-1000 ≤ ay ∧ ay ≤ 1000) ∧ (b_y - ay ≠ 0 ∨ ax - bx ≠ 0) := by
  have e1 := ptB_true h1
  have e2 := ptB_true h2
  unfold eqB at h3
  simp at h3
  omega
/-- What a line's three numbers come to, by the program's way and by the model's. -/
structure LineBd (a b x y : Int) : Prop where
  g : 0 ≤ gI a b ∧ gI a b ≤ 2000 ∧ gI a b ≠ 0
  p : -2000 ≤ a.tdiv (gI a b) ∧ a.tdiv (gI a b) ≤ 2000
  q : -2000 ≤ b.tdiv (gI a b) ∧ b.tdiv (gI a b) ≤ 2000
  px : -(2000 * 1000) ≤ a.tdiv (gI a b) * x ∧ a.tdiv (gI a b) * x ≤ 2000 * 1000
  qy : -(2000 * 1000) ≤ b.tdiv (gI a b) * y ∧ b.tdiv (gI a b) * y ≤ 2000 * 1000
theorem line_bd {a b x y : Int} (ha : -2000 ≤ a ∧ a ≤ 2000) (hb : -2000 ≤ b ∧ b ≤ 2000) (hx : -1000 ≤ x ∧ x ≤ 1000) (hy : -1000 ≤ y ∧ y ≤ 1000) (h : a ≠ 0 ∨ b ≠ 0) : LineBd a b x y := by
  have hg := gI_bd ha hb
  have hp := tdiv_bd (b := gI a b) ha
  have hq := tdiv_bd (b := gI a b) hb
  exact ⟨⟨by omega, by omega, gI_ne h⟩, hp, hq, mul_bd 2000 1000 hp hx, mul_bd 2000 1000 hq hy⟩
theorem cmpI_lt0 (x : Int) : cmpI x 0 < 0 ↔ x < 0 := by unfold cmpI; split <;> (try split) <;> omega
theorem cmpI_eq0 (x : Int) : cmpI x 0 = 0 ↔ x = 0 := by unfold cmpI; split <;> (try split) <;> omega
theorem res_implThrough (ax ay bx b_y : Int) : Res Try.prog 29 [.v (.agg #[iv ax, iv ay]), .v (.agg #[iv bx, iv b_y])] (thV ax ay bx b_y) := by
  refine res_of mixed (tabE_ok TL1_ok) (m := 30) (n := 12) ?_
  rw [tr_implThrough]
  unfold thV
  rcases h1 : ptB ax ay with _ | _
  · simp [brT, Tree.ok]
  rcases h2 : ptB bx b_y with _ | _
  · simp [brT, Tree.ok]
  rcases h3 : eqB ax ay bx b_y with _ | _
  rotate_left
  · unfold eqB at h3
    simp at h3
    obtain ⟨rfl, rfl⟩ := h3
    simp [brT, Tree.ok, negB]
  have hb := thru_bd h1 h2 h3
  obtain ⟨b1, b2, b3, b4, b5⟩ := hb
  have L1 := line_bd (a := b_y - ay) (b := ax - bx) (x := ax) (y := ay) b1 b2 b3 b4 b5
  have L2 := line_bd (a := 0 - (b_y - ay)) (b := 0 - (ax - bx)) (x := ax) (y := ay) (by omega) (by omega) b3 b4 (by omega)
  obtain ⟨g1, p1, q1, px1, qy1⟩ := L1
  obtain ⟨g2, p2, q2, px2, qy2⟩ := L2
  have e3 : negB false (ax == bx && (ay == b_y && true)) = false := by
    unfold eqB at h3
    simpa [negB] using h3
  rw [e3]
  simp (disch := omega) only [wr]
  simp only [Bool.and_self, Bool.not_true, Bool.not_false, brT_f, if_true]
  simp only [brT_ok, Tree.ok, decide_eq_true_eq, decide_eq_false_iff_not, big, Bool.not_eq_true', Bool.not_eq_false', beq_iff_eq, beq_eq_false_iff_ne, cmpI_lt0, cmpI_eq0, ne_eq]
  by_cases hneg : thNeg ax ay bx b_y
  · rw [if_pos hneg]
    unfold thNeg at hneg
    repeat' (first | apply And.intro | intro _)
    all_goals first | exact True.intro | omega | rfl
  · rw [if_neg hneg]
    unfold thNeg at hneg
    repeat' (first | apply And.intro | intro _)
    all_goals first | exact True.intro | omega | rfl
/-- The numbers that two results hold. -/
def tI (v : Value) (k : Nat) : Int := match v with
  | .tuple ⟨.agg ⟨l⟩ :: _⟩ => (match l[k]? with
    | some (.int _ x) => x
    | _ => 0)
  | _ => 0
def tO (v : Value) : Bool := match v with
  | .tuple ⟨[_, .bool b]⟩ => b
  | _ => false
def tN (v : Value) : Int := match v with
  | .tuple ⟨[_, .int _ b]⟩ => b
  | _ => 0
def thP (ax ay bx b_y : Int) (k : Nat) : Int := tI (thV ax ay bx b_y) k
def thO (ax ay bx b_y : Int) : Bool := tO (thV ax ay bx b_y)
theorem thV_is (ax ay bx b_y : Int) : thV ax ay bx b_y = .tuple #[.agg #[iv (thP ax ay bx b_y 0), iv (thP ax ay bx b_y 1), iv (thP ax ay bx b_y 2)], .bool (thO ax ay bx b_y)] := by
  unfold thP thO thV
  split
  · split <;> rfl
  · rfl
def pThru : List DArg → Option (Value × List Prop)
  | [.v (.agg ⟨[.int .i64 ax, .int .i64 ay]⟩), .v (.agg ⟨[.int .i64 bx, .int .i64 b_y]⟩)] => some (.tuple #[.agg #[iv (thP ax ay bx b_y 0), iv (thP ax ay bx b_y 1), iv (thP ax ay bx b_y 2)], .bool (thO ax ay bx b_y)], [])
  | _ => none
def TT : Tab := fun f ds => match f with
  | 29 => pThru ds
  | _ => T1 f ds
theorem TT_r1 {ds : List DArg} {v : Value} {C : List Prop} (h : pThru ds = some (v, C)) (hC : AllP C) : Res Try.prog 29 ds v := by
  unfold pThru at h
  split at h
  · obtain ⟨rfl, rfl⟩ : _ ∧ _ := by simpa using h
    rw [← thV_is]
    exact res_implThrough _ _ _ _
  · cases h
theorem TT_ok : TabOk Try.prog TT := by
  intro f ds v C h hC
  unfold TT at h
  (try split at h)
  all_goals first | with_reducible exact TT_r0 h hC | with_reducible exact TT_r1 h hC | exact T1_ok _ _ _ _ h hC | cases h
theorem thO_is (ax ay bx b_y : Int) : thO ax ay bx b_y = (ptB ax ay && ptB bx b_y && !(eqB ax ay bx b_y)) := by
  unfold thO thV
  split
  · rename_i h; rw [h]; rfl
  · rename_i h
    have : (ptB ax ay && ptB bx b_y && !(eqB ax ay bx b_y)) = false := by simpa using h
    rw [this]; rfl
theorem gcd_one {p q : Int} (h : gI p q ≠ 0) : gI (p.tdiv (gI p q)) (q.tdiv (gI p q)) = 1 := by
  have h0 := gI_nonneg p q
  obtain ⟨u, hu⟩ := gI_dvd_left p q
  obtain ⟨v, hv⟩ := gI_dvd_right p q
  have e : gI p q = gI p q * gI u v := by
    generalize hg : gI p q = g at *
    have : gI (g * u) (g * v) = g := by rw [← hu, ← hv]; exact hg
    rw [← this]
    unfold gI
    rw [Int.gcd_mul_left]
    have hn : ((g.natAbs : Nat) : Int) = g := by omega
    push_cast
    rw [hn]
    have k := congrArg (fun z : Int => z) this
    unfold gI at k
    rw [Int.gcd_mul_left] at k
    push_cast at k
    rw [hn] at k
    rw [k]
    exact k.symm
  have e2 : gI u v = 1 := by
    have : gI p q * gI u v = gI p q * 1 := by rw [← e, Int.mul_one]
    exact Int.eq_of_mul_eq_mul_left h this
  have d1 : p.tdiv (gI p q) = u := by rw [show p.tdiv (gI p q) = (gI p q * u).tdiv (gI p q) by rw [← hu]]; exact Int.mul_tdiv_cancel_left _ h
  have d2 : q.tdiv (gI p q) = v := by rw [show q.tdiv (gI p q) = (gI p q * v).tdiv (gI p q) by rw [← hv]]; exact Int.mul_tdiv_cancel_left _ h
  rw [d1, d2, e2]
/-- What a line through two different points comes to. -/
theorem th_spec {ax ay bx b_y : Int} (ho : thO ax ay bx b_y = true) : ∃ g s : Int, 0 < g ∧ (s = 1 ∨ s = -1) ∧ thP ax ay bx b_y 0 * g = s * (b_y - ay) ∧ thP ax ay bx b_y 1 * g = s * (ax - bx) ∧
    thP ax ay bx b_y 2 = thP ax ay bx b_y 0 * ax + thP ax ay bx b_y 1 * ay ∧ lineB (thP ax ay bx b_y 0) (thP ax ay bx b_y 1) (thP ax ay bx b_y 2) = true ∧ ptB ax ay = true ∧ ptB bx b_y = true := by
  rw [thO_is] at ho
  have hv : thV ax ay bx b_y = .tuple #[if thNeg ax ay bx b_y then lnV (0 - (b_y - ay)) (0 - (ax - bx)) ax ay else lnV (b_y - ay) (ax - bx) ax ay, .bool true] := by unfold thV; rw [if_pos ho]
  obtain ⟨h1, h2, h3⟩ := and3 ho
  have h3 : eqB ax ay bx b_y = false := by simpa using h3
  obtain ⟨b1, b2, b3, b4, b5⟩ := thru_bd h1 h2 h3
  have fin : ∀ (s p q : Int), (s = 1 ∨ s = -1) → p = s * (b_y - ay) → q = s * (ax - bx) → 0 ≤ p → (p = 0 → 0 < q) → (-2000 ≤ p ∧ p ≤ 2000) → (-2000 ≤ q ∧ q ≤ 2000) →
      ∃ g s : Int, 0 < g ∧ (s = 1 ∨ s = -1) ∧ p.tdiv (gI p q) * g = s * (b_y - ay) ∧ q.tdiv (gI p q) * g = s * (ax - bx) ∧ lineB (p.tdiv (gI p q)) (q.tdiv (gI p q)) (p.tdiv (gI p q) * ax + q.tdiv (gI p q) * ay) = true := by
    intro s p q hs ep eq hp hq bp bq
    have hne : p ≠ 0 ∨ q ≠ 0 := by omega
    obtain ⟨⟨g1, g2, g3⟩, p1, q1, px, qy⟩ := line_bd (x := ax) (y := ay) bp bq b3 b4 hne
    have d1 := Int.tdiv_mul_cancel (gI_dvd_left p q)
    have d2 := Int.tdiv_mul_cancel (gI_dvd_right p q)
    have go := gcd_one g3
    refine ⟨gI p q, s, by omega, hs, by rw [d1, ep], by rw [d2, eq], ?_⟩
    have t1 := tri (x := p.tdiv (gI p q)) (g := gI p q) (by omega)
    have t2 := tri (x := q.tdiv (gI p q)) (g := gI p q) (by omega)
    rw [d1] at t1
    rw [d2] at t2
    rw [lineB_mk (by omega), go, gI_one_left]
    rfl
  by_cases hneg : thNeg ax ay bx b_y
  · rw [if_pos hneg] at hv
    have e0 : ∀ k, thP ax ay bx b_y k = tI (.tuple #[lnV (0 - (b_y - ay)) (0 - (ax - bx)) ax ay, .bool true]) k := fun k => by unfold thP; rw [hv]
    rw [e0, e0, e0]
    unfold thNeg at hneg
    obtain ⟨g, s, k1, k2, k3, k4, k5⟩ := fin (-1) (0 - (b_y - ay)) (0 - (ax - bx)) (.inr rfl) (by omega) (by omega) (by omega) (by omega) (by omega) (by omega)
    exact ⟨g, s, k1, k2, k3, k4, rfl, k5, h1, h2⟩
  · rw [if_neg hneg] at hv
    have e0 : ∀ k, thP ax ay bx b_y k = tI (.tuple #[lnV (b_y - ay) (ax - bx) ax ay, .bool true]) k := fun k => by unfold thP; rw [hv]
    rw [e0, e0, e0]
    unfold thNeg at hneg
    obtain ⟨g, s, k1, k2, k3, k4, k5⟩ := fin 1 (b_y - ay) (ax - bx) (.inl rfl) (by omega) (by omega) (by omega) (by omega) (by omega) (by omega)
    exact ⟨g, s, k1, k2, k3, k4, rfl, k5, h1, h2⟩
end Go.Proofs.Ytblpldapmmoheab
