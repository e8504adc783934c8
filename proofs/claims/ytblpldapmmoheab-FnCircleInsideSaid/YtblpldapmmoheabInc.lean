/-
  Vectors as a table; circles through three points. Written by an AI agent.
-/
import Derived.Test.YtblpldapmmoheabTabB
import Derived.Test.YtblpldapmmoheabBc
namespace Go.Proofs.Ytblpldapmmoheab
set_option linter.all false
open Go.RowKit

theorem wr {x : Int} (h : -9223372036854775808 ≤ x ∧ x ≤ 9223372036854775807) : IntKind.i64.wrap x = x := by
  rw [IntKind.wrap_i64]
  omega
def pMinus : List DArg → Option (Value × List Prop)
  | [.v (.agg ⟨[.int .i64 a, .int .i64 b]⟩), .v (.agg ⟨[.int .i64 c, .int .i64 d]⟩)] => some (.agg #[iv (a - c), iv (b - d)], [(-4000000 ≤ a - c ∧ a - c ≤ 4000000) ∧ (-4000000 ≤ b - d ∧ b - d ≤ 4000000)])
  | _ => none
def okP (x : Int) : Prop := -4000000000000000000 ≤ x ∧ x ≤ 4000000000000000000
def pDot : List DArg → Option (Value × List Prop)
  | [.v (.agg ⟨[.int .i64 a, .int .i64 b]⟩), .v (.agg ⟨[.int .i64 c, .int .i64 d]⟩)] => some (iv (a * c + b * d), [okP (a * c) ∧ okP (b * d)])
  | _ => none
def pCrsV : List DArg → Option (Value × List Prop)
  | [.v (.agg ⟨[.int .i64 a, .int .i64 b]⟩), .v (.agg ⟨[.int .i64 c, .int .i64 d]⟩)] => some (iv (a * d - b * c), [okP (a * d) ∧ okP (b * c)])
  | _ => none
def p3B (a b c d e f : Int) : Prop := ptB a b = true ∧ ptB c d = true ∧ ptB e f = true
def pTurn : List DArg → Option (Value × List Prop)
  | [.v (.agg ⟨[.int .i64 a, .int .i64 b]⟩), .v (.agg ⟨[.int .i64 c, .int .i64 d]⟩), .v (.agg ⟨[.int .i64 e, .int .i64 f]⟩)] => some (iv (crossI a b c d e f), [p3B a b c d e f])
  | _ => none
def TI : Tab := fun f ds => match f with
  | 99 => pMinus ds
  | 92 => pDot ds
  | 137 => pCrsV ds
  | 102 => pTurn ds
  | 140 => pTurn ds
  | _ => T1 f ds
theorem TI_r0 {ds : List DArg} {v : Value} {C : List Prop} (h : pMinus ds = some (v, C)) (hC : AllP C) : Res Try.prog 99 ds v := by
  unfold pMinus at h
  split at h
  · obtain ⟨rfl, rfl⟩ : _ ∧ _ := by simpa using h
    exact res_calls (by kernel_rfl) rfl rfl fun w => minus_any _ _ _ _ w hC.1.1 hC.1.2
  · cases h
theorem TI_r1 {ds : List DArg} {v : Value} {C : List Prop} (h : pDot ds = some (v, C)) (hC : AllP C) : Res Try.prog 92 ds v := by
  unfold pDot at h
  split at h
  · obtain ⟨rfl, rfl⟩ : _ ∧ _ := by simpa using h
    exact res_calls (by kernel_rfl) rfl rfl fun w => pdot_any _ _ _ _ w hC.1.1 hC.1.2
  · cases h
theorem TI_r2 {ds : List DArg} {v : Value} {C : List Prop} (h : pCrsV ds = some (v, C)) (hC : AllP C) : Res Try.prog 137 ds v := by
  unfold pCrsV at h
  split at h
  · obtain ⟨rfl, rfl⟩ : _ ∧ _ := by simpa using h
    exact res_calls (by kernel_rfl) rfl rfl fun w => pcross_any _ _ _ _ w hC.1.1 hC.1.2
  · cases h
theorem TI_r3 {ds : List DArg} {v : Value} {C : List Prop} (h : pTurn ds = some (v, C)) (hC : AllP C) : Res Try.prog 102 ds v := by
  unfold pTurn at h
  split at h
  · obtain ⟨rfl, rfl⟩ : _ ∧ _ := by simpa using h
    exact res_calls (by kernel_rfl) rfl rfl fun w => turn_any _ _ _ _ _ _ w hC.1.1 hC.1.2.1 hC.1.2.2
  · cases h
theorem TI_r4 {ds : List DArg} {v : Value} {C : List Prop} (h : pTurn ds = some (v, C)) (hC : AllP C) : Res Try.prog 140 ds v := by
  unfold pTurn at h
  split at h
  · obtain ⟨rfl, rfl⟩ : _ ∧ _ := by simpa using h
    exact res_calls (by kernel_rfl) rfl rfl fun w => specCross_any _ _ _ _ _ _ w hC.1.1 hC.1.2.1 hC.1.2.2
  · cases h
theorem TI_ok : TabOk Try.prog TI := by
  intro f ds v C h hC
  unfold TI at h
  (try split at h)
  all_goals first | with_reducible exact TI_r0 h hC | with_reducible exact TI_r1 h hC | with_reducible exact TI_r2 h hC | with_reducible exact TI_r3 h hC | with_reducible exact TI_r4 h hC | exact T1_ok _ _ _ _ h hC | cases h
def EI : Env := tabE TI
theorem EI_ok : EnvOk Try.prog EI := tabE_ok TI_ok
abbrev ag (x y : Int) : DArg := .v (.agg #[iv x, iv y])
def detI (u1 u2 v1 v2 w1 w2 : Int) : Int := (u1 * u1 + u2 * u2) * (v1 * w2 - v2 * w1) + (v1 * v1 + v2 * v2) * (w1 * u2 - w2 * u1) + (w1 * w1 + w2 * w2) * (u1 * v2 - u2 * v1)
def bd2 (x : Int) : Prop := -2000 ≤ x ∧ x ≤ 2000
theorem det_bd {u1 u2 v1 v2 w1 w2 : Int} (hu1 : bd2 u1) (hu2 : bd2 u2) (hv1 : bd2 v1) (hv2 : bd2 v2) (hw1 : bd2 w1) (hw2 : bd2 w2) :
    IntKind.i64.wrap (IntKind.i64.wrap (IntKind.i64.wrap ((u1 * u1 + u2 * u2) * (v1 * w2 - v2 * w1)) + IntKind.i64.wrap ((v1 * v1 + v2 * v2) * (w1 * u2 - w2 * u1))) + IntKind.i64.wrap ((w1 * w1 + w2 * w2) * (u1 * v2 - u2 * v1))) = detI u1 u2 v1 v2 w1 w2 ∧
    IntKind.i64.wrap (IntKind.i64.wrap (IntKind.i64.wrap (IntKind.i64.wrap (IntKind.i64.wrap (u1 * u1) + IntKind.i64.wrap (u2 * u2)) * IntKind.i64.wrap (IntKind.i64.wrap (v1 * w2) - IntKind.i64.wrap (v2 * w1))) - IntKind.i64.wrap (IntKind.i64.wrap (IntKind.i64.wrap (v1 * v1) + IntKind.i64.wrap (v2 * v2)) * IntKind.i64.wrap (IntKind.i64.wrap (u1 * w2) - IntKind.i64.wrap (u2 * w1)))) + IntKind.i64.wrap (IntKind.i64.wrap (IntKind.i64.wrap (w1 * w1) + IntKind.i64.wrap (w2 * w2)) * IntKind.i64.wrap (IntKind.i64.wrap (u1 * v2) - IntKind.i64.wrap (u2 * v1)))) = detI u1 u2 v1 v2 w1 w2 := by
  unfold bd2 at *
  have e1 := prod_bd (x := u1) (y := u1) 2000 2000 hu1 hu1
  have e2 := prod_bd (x := u2) (y := u2) 2000 2000 hu2 hu2
  have e3 := prod_bd (x := v1) (y := v1) 2000 2000 hv1 hv1
  have e4 := prod_bd (x := v2) (y := v2) 2000 2000 hv2 hv2
  have e5 := prod_bd (x := w1) (y := w1) 2000 2000 hw1 hw1
  have e6 := prod_bd (x := w2) (y := w2) 2000 2000 hw2 hw2
  have e7 := prod_bd (x := v1) (y := w2) 2000 2000 hv1 hw2
  have e8 := prod_bd (x := v2) (y := w1) 2000 2000 hv2 hw1
  have e9 := prod_bd (x := u1) (y := w2) 2000 2000 hu1 hw2
  have e10 := prod_bd (x := u2) (y := w1) 2000 2000 hu2 hw1
  have e11 := prod_bd (x := u1) (y := v2) 2000 2000 hu1 hv2
  have e12 := prod_bd (x := u2) (y := v1) 2000 2000 hu2 hv1
  have c1 : w1 * u2 = u2 * w1 := Int.mul_comm _ _
  have c2 : w2 * u1 = u1 * w2 := Int.mul_comm _ _
  have q1 := prod_bd (x := u1 * u1 + u2 * u2) (y := v1 * w2 - v2 * w1) 8000000 8000000 (by omega) (by omega)
  have q2 := prod_bd (x := v1 * v1 + v2 * v2) (y := u1 * w2 - u2 * w1) 8000000 8000000 (by omega) (by omega)
  have q3 := prod_bd (x := w1 * w1 + w2 * w2) (y := u1 * v2 - u2 * v1) 8000000 8000000 (by omega) (by omega)
  have q4 : (v1 * v1 + v2 * v2) * (w1 * u2 - w2 * u1) = -((v1 * v1 + v2 * v2) * (u1 * w2 - u2 * w1)) := by grind
  unfold detI
  rw [q4]
  constructor
  · simp (disch := omega) only [wr]
  · simp (disch := omega) only [wr]
    omega
theorem dif_bd {a b c d : Int} (h1 : ptB a b = true) (h2 : ptB c d = true) : bd2 (a - c) ∧ bd2 (b - d) := by
  have a1 := ptB_true h1
  have b1 := ptB_true h2
  unfold bd2
  omega
theorem wd {x : Int} (h : bd2 x) : IntKind.i64.wrap x = x := by unfold bd2 at h; exact wr (by omega)
theorem okP_of {x y : Int} (h : bd2 x) (k : bd2 y) : okP (x * y) := by
  have := prod_bd (x := x) (y := y) 2000 2000 h k
  unfold okP
  omega
def inV (ax ay bx b_y cx cy dx dy : Int) : Int := if ptB ax ay = true ∧ ptB bx b_y = true ∧ ptB cx cy = true ∧ ptB dx dy = true ∧ crossI ax ay bx b_y cx cy ≠ 0 then cmpI (detI (ax - dx) (ay - dy) (bx - dx) (b_y - dy) (cx - dx) (cy - dy)) 0 * cmpI (crossI ax ay bx b_y cx cy) 0 else 2
theorem inV_yes {ax ay bx b_y cx cy dx dy : Int} (h1 : ptB ax ay = true) (h2 : ptB bx b_y = true) (h3 : ptB cx cy = true) (h4 : ptB dx dy = true) (h5 : crossI ax ay bx b_y cx cy ≠ 0) : inV ax ay bx b_y cx cy dx dy = cmpI (detI (ax - dx) (ay - dy) (bx - dx) (b_y - dy) (cx - dx) (cy - dy)) 0 * cmpI (crossI ax ay bx b_y cx cy) 0 := by unfold inV; rw [if_pos ⟨h1, h2, h3, h4, h5⟩]
theorem inV_no {ax ay bx b_y cx cy dx dy : Int} (h : ¬ (ptB ax ay = true ∧ ptB bx b_y = true ∧ ptB cx cy = true ∧ ptB dx dy = true ∧ crossI ax ay bx b_y cx cy ≠ 0)) : inV ax ay bx b_y cx cy dx dy = 2 := by unfold inV; rw [if_neg h]
theorem cmpI_bd (x y : Int) : cmpI x y = -1 ∨ cmpI x y = 0 ∨ cmpI x y = 1 := by unfold cmpI; split <;> (try split) <;> omega
theorem wcc (x y z t : Int) : IntKind.i64.wrap (cmpI x y * cmpI z t) = cmpI x y * cmpI z t := by
  rcases cmpI_bd x y with h | h | h <;> rcases cmpI_bd z t with k | k | k <;> rw [h, k] <;> decide
theorem cmpI_zero {x : Int} : cmpI x 0 = 0 ↔ x = 0 := by unfold cmpI; split <;> (try split) <;> omega
theorem cmpI_two (x y : Int) : (cmpI x y == 2) = false := by rcases cmpI_bd x y with h | h | h <;> rw [h] <;> decide
set_option maxRecDepth 100000 in
theorem tr_SpecIn (ax ay bx b_y cx cy dx dy : Int) : bodyV Try.prog EI 30 12 41 [ag ax ay, ag bx b_y, ag cx cy, ag dx dy] = brT (!ptB ax ay) (brT (!ptB dx dy) (.fin (.int .i64 (2)) []) (.fin (.int .i64 (2)) [])) (brT (!ptB bx b_y) (brT (!ptB dx dy) (.fin (.int .i64 (2)) []) (.fin (.int .i64 (2)) [])) (brT (!ptB cx cy) (brT (!ptB dx dy) (.fin (.int .i64 (2)) []) (.fin (.int .i64 (2)) [])) (.need (p3B ax ay bx b_y cx cy) (brT (!ptB dx dy) (.fin (.int .i64 (2)) []) (brT (cmpI (crossI ax ay bx b_y cx cy) 0 == 0) (.fin (.int .i64 (2)) []) (brT (cmpI (crossI ax ay bx b_y cx cy) 0 == 2) (.fin (.int .i64 (2)) []) (.fin (.int .i64 (IntKind.i64.wrap (cmpI (IntKind.i64.wrap (IntKind.i64.wrap (IntKind.i64.wrap (IntKind.i64.wrap (IntKind.i64.wrap (IntKind.i64.wrap (ax - dx) * IntKind.i64.wrap (ax - dx)) + IntKind.i64.wrap (IntKind.i64.wrap (ay - dy) * IntKind.i64.wrap (ay - dy))) * IntKind.i64.wrap (IntKind.i64.wrap (IntKind.i64.wrap (bx - dx) * IntKind.i64.wrap (cy - dy)) - IntKind.i64.wrap (IntKind.i64.wrap (b_y - dy) * IntKind.i64.wrap (cx - dx)))) - IntKind.i64.wrap (IntKind.i64.wrap (IntKind.i64.wrap (IntKind.i64.wrap (bx - dx) * IntKind.i64.wrap (bx - dx)) + IntKind.i64.wrap (IntKind.i64.wrap (b_y - dy) * IntKind.i64.wrap (b_y - dy))) * IntKind.i64.wrap (IntKind.i64.wrap (IntKind.i64.wrap (ax - dx) * IntKind.i64.wrap (cy - dy)) - IntKind.i64.wrap (IntKind.i64.wrap (ay - dy) * IntKind.i64.wrap (cx - dx))))) + IntKind.i64.wrap (IntKind.i64.wrap (IntKind.i64.wrap (IntKind.i64.wrap (cx - dx) * IntKind.i64.wrap (cx - dx)) + IntKind.i64.wrap (IntKind.i64.wrap (cy - dy) * IntKind.i64.wrap (cy - dy))) * IntKind.i64.wrap (IntKind.i64.wrap (IntKind.i64.wrap (ax - dx) * IntKind.i64.wrap (b_y - dy)) - IntKind.i64.wrap (IntKind.i64.wrap (ay - dy) * IntKind.i64.wrap (bx - dx)))))) 0 * cmpI (crossI ax ay bx b_y cx cy) 0))) []))))))) := by kernel_rfl
set_option maxRecDepth 100000 in
theorem tr_ImplIn (ax ay bx b_y cx cy dx dy : Int) : bodyV Try.prog EI 30 12 40 [ag ax ay, ag bx b_y, ag cx cy, ag dx dy] = brT (!(ptB ax ay && ptB bx b_y && (ptB cx cy && ptB dx dy))) (.fin (.int .i64 (2)) []) (.need (p3B ax ay bx b_y cx cy) (brT (crossI ax ay bx b_y cx cy == 0) (.fin (.int .i64 (2)) []) (.need (((-4000000 : Int) ≤ ax - dx ∧ ax - dx ≤ (4000000 : Int)) ∧ (-4000000 : Int) ≤ ay - dy ∧ ay - dy ≤ (4000000 : Int)) (.need (((-4000000 : Int) ≤ bx - dx ∧ bx - dx ≤ (4000000 : Int)) ∧ (-4000000 : Int) ≤ b_y - dy ∧ b_y - dy ≤ (4000000 : Int)) (.need (((-4000000 : Int) ≤ cx - dx ∧ cx - dx ≤ (4000000 : Int)) ∧ (-4000000 : Int) ≤ cy - dy ∧ cy - dy ≤ (4000000 : Int)) (.need (okP ((ax - dx) * (ax - dx)) ∧ okP ((ay - dy) * (ay - dy))) (.need (okP ((bx - dx) * (cy - dy)) ∧ okP ((b_y - dy) * (cx - dx))) (.need (okP ((bx - dx) * (bx - dx)) ∧ okP ((b_y - dy) * (b_y - dy))) (.need (okP ((cx - dx) * (ay - dy)) ∧ okP ((cy - dy) * (ax - dx))) (.need (okP ((cx - dx) * (cx - dx)) ∧ okP ((cy - dy) * (cy - dy))) (.need (okP ((ax - dx) * (b_y - dy)) ∧ okP ((ay - dy) * (bx - dx))) (.need (p3B ax ay bx b_y cx cy) (.fin (.int .i64 (IntKind.i64.wrap (cmpI (IntKind.i64.wrap (IntKind.i64.wrap (IntKind.i64.wrap (((ax - dx) * (ax - dx) + (ay - dy) * (ay - dy)) * ((bx - dx) * (cy - dy) - (b_y - dy) * (cx - dx))) + IntKind.i64.wrap (((bx - dx) * (bx - dx) + (b_y - dy) * (b_y - dy)) * ((cx - dx) * (ay - dy) - (cy - dy) * (ax - dx)))) + IntKind.i64.wrap (((cx - dx) * (cx - dx) + (cy - dy) * (cy - dy)) * ((ax - dx) * (b_y - dy) - (ay - dy) * (bx - dx))))) 0 * cmpI (crossI ax ay bx b_y cx cy) 0))) []))))))))))))) := by kernel_rfl
theorem res_SpecIn (ax ay bx b_y cx cy dx dy : Int) : Res Try.prog 41 [ag ax ay, ag bx b_y, ag cx cy, ag dx dy] (iv (inV ax ay bx b_y cx cy dx dy)) := by
  refine bodyV_res mixed EI_ok (m := 30) (n := 12) rfl ?_
  rw [tr_SpecIn]
  rcases h1 : ptB ax ay with _ | _
  · rw [inV_no (by simp [h1])]; cases ptB dx dy <;> simp [brT_ok, Tree.ok]
  rcases h2 : ptB bx b_y with _ | _
  · rw [inV_no (by simp [h2])]; cases ptB dx dy <;> simp [brT_ok, Tree.ok]
  rcases h3 : ptB cx cy with _ | _
  · rw [inV_no (by simp [h3])]; cases ptB dx dy <;> simp [brT_ok, Tree.ok]
  have hp : p3B ax ay bx b_y cx cy := ⟨h1, h2, h3⟩
  rcases h4 : ptB dx dy with _ | _
  · rw [inV_no (by simp [h4])]; simp [brT_ok, Tree.ok, hp]
  by_cases h5 : crossI ax ay bx b_y cx cy = 0
  · rw [inV_no (by simp [h5])]
    simp [brT_ok, Tree.ok, hp, cmpI_zero, h5]
  rw [inV_yes h1 h2 h3 h4 h5]
  obtain ⟨u1, u2⟩ := dif_bd h1 h4
  obtain ⟨v1, v2⟩ := dif_bd h2 h4
  obtain ⟨w1, w2⟩ := dif_bd h3 h4
  rw [wd u1, wd u2, wd v1, wd v2, wd w1, wd w2, (det_bd u1 u2 v1 v2 w1 w2).2, wcc]
  simp [brT_ok, Tree.ok, hp, cmpI_zero, h5, cmpI_two]
theorem res_ImplIn (ax ay bx b_y cx cy dx dy : Int) : Res Try.prog 40 [ag ax ay, ag bx b_y, ag cx cy, ag dx dy] (iv (inV ax ay bx b_y cx cy dx dy)) := by
  refine bodyV_res mixed EI_ok (m := 30) (n := 12) rfl ?_
  rw [tr_ImplIn]
  rcases h1 : ptB ax ay with _ | _
  · rw [inV_no (by simp [h1])]; simp [brT_ok, Tree.ok]
  rcases h2 : ptB bx b_y with _ | _
  · rw [inV_no (by simp [h2])]; simp [brT_ok, Tree.ok]
  rcases h3 : ptB cx cy with _ | _
  · rw [inV_no (by simp [h3])]; simp [brT_ok, Tree.ok]
  rcases h4 : ptB dx dy with _ | _
  · rw [inV_no (by simp [h4])]; simp [brT_ok, Tree.ok]
  have hp : p3B ax ay bx b_y cx cy := ⟨h1, h2, h3⟩
  by_cases h5 : crossI ax ay bx b_y cx cy = 0
  · rw [inV_no (by simp [h5])]
    simp [brT_ok, Tree.ok, hp, h5]
  rw [inV_yes h1 h2 h3 h4 h5]
  obtain ⟨u1, u2⟩ := dif_bd h1 h4
  obtain ⟨v1, v2⟩ := dif_bd h2 h4
  obtain ⟨w1, w2⟩ := dif_bd h3 h4
  rw [(det_bd u1 u2 v1 v2 w1 w2).1, wcc]
  refine brT_ok.2 ⟨fun h => by simp at h, fun _ => ⟨hp, brT_ok.2 ⟨fun h => absurd (by simpa using h) h5, fun _ => ?_⟩⟩⟩
  have z1 := u1
  have z2 := u2
  have z3 := v1
  have z4 := v2
  have z5 := w1
  have z6 := w2
  unfold bd2 at z1 z2 z3 z4 z5 z6
  exact ⟨by omega, by omega, by omega, ⟨okP_of u1 u1, okP_of u2 u2⟩, ⟨okP_of v1 w2, okP_of v2 w1⟩, ⟨okP_of v1 v1, okP_of v2 v2⟩, ⟨okP_of w1 u2, okP_of w2 u1⟩, ⟨okP_of w1 w1, okP_of w2 w2⟩, ⟨okP_of u1 v2, okP_of u2 v1⟩, hp, rfl⟩
def pIn : List DArg → Option (Value × List Prop)
  | [.v (.agg ⟨[.int .i64 a, .int .i64 b]⟩), .v (.agg ⟨[.int .i64 c, .int .i64 d]⟩), .v (.agg ⟨[.int .i64 e, .int .i64 f]⟩), .v (.agg ⟨[.int .i64 g, .int .i64 h]⟩)] => some (iv (inV a b c d e f g h), [])
  | _ => none
def TI2 : Tab := fun f ds => match f with
  | 41 => pIn ds
  | 40 => pIn ds
  | _ => TI f ds
theorem TI2_r0 {ds : List DArg} {v : Value} {C : List Prop} (h : pIn ds = some (v, C)) (hC : AllP C) : Res Try.prog 41 ds v := by
  unfold pIn at h
  split at h
  · obtain ⟨rfl, rfl⟩ : _ ∧ _ := by simpa using h
    exact res_SpecIn _ _ _ _ _ _ _ _
  · cases h
theorem TI2_r1 {ds : List DArg} {v : Value} {C : List Prop} (h : pIn ds = some (v, C)) (hC : AllP C) : Res Try.prog 40 ds v := by
  unfold pIn at h
  split at h
  · obtain ⟨rfl, rfl⟩ : _ ∧ _ := by simpa using h
    exact res_ImplIn _ _ _ _ _ _ _ _
  · cases h
theorem TI2_ok : TabOk Try.prog TI2 := by
  intro f ds v C h hC
  unfold TI2 at h
  (try split at h)
  all_goals first | with_reducible exact TI2_r0 h hC | with_reducible exact TI2_r1 h hC | exact TI_ok _ _ _ _ h hC | cases h
end Go.Proofs.Ytblpldapmmoheab
