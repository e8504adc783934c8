/-
  Drawn rectangles. Written by an AI agent.
-/
import Derived.Test.YtoijfjifaljpaabRdC
import Derived.Test.YtoijfjifaljpaabAbsV
namespace Go.Proofs.Ytoijfjifaljpaab
open Go.RowKit

set_option maxRecDepth 100000 in
theorem tr_rrect (bs : List Int) (l c : Nat) (p : Int) : bodyM Try.prog ER2 (runM Try.prog ER2 30 12) 30 108 [.pointer (some ⟨1, 0, none⟩)] (memR bs l c p none) .fin = .need (rdK bs l p) (.need (rdC bs l (p + (2 : Int))) (.need (rdC bs l (p + (2 : Int) + (1 : Int))) (.fin (.agg #[.int .i64 (pickI bs l p 9 - 2), .int .i64 (pickI bs l (p + 1) 9 - 2), .int .i64 (IntKind.i64.wrap (IntKind.i64.wrap (pickI bs l p 9 - 2 + 1) + pickI bs l (p + 2) 6)), .int .i64 (IntKind.i64.wrap (IntKind.i64.wrap (pickI bs l (p + 1) 9 - 2 + 1) + pickI bs l (p + 2 + 1) 6))]) [some ⟨.view, .bytes (bs)⟩, some ⟨.box, .vals [.slice (some ⟨0, 0, none⟩) (l) (c), .int .i64 (p + 2 + 1 + 1)]⟩, some ⟨.box, .vals [.int .i64 (pickI bs l p 9 - 2), .int .i64 (pickI bs l (p + 1) 9 - 2), .int .i64 (IntKind.i64.wrap (IntKind.i64.wrap (pickI bs l p 9 - 2 + 1) + pickI bs l (p + 2) 6)), .int .i64 (IntKind.i64.wrap (IntKind.i64.wrap (pickI bs l (p + 1) 9 - 2 + 1) + pickI bs l (p + 2 + 1) 6))]⟩, some ⟨.box, .vals [.int .i64 (pickI bs l p 9 - 2), .int .i64 (pickI bs l (p + 1) 9 - 2)]⟩, none, none]))) := by kernel_rfl
def rcX (bs : List Int) (l : Nat) (p : Int) : Int := pickI bs l p 9 - 2
def rcY (bs : List Int) (l : Nat) (p : Int) : Int := pickI bs l (p + 1) 9 - 2
def rcU (bs : List Int) (l : Nat) (p : Int) : Int := rcX bs l p + 1 + pickI bs l (p + 2) 6
def rcW (bs : List Int) (l : Nat) (p : Int) : Int := rcY bs l p + 1 + pickI bs l (p + 3) 6
abbrev agg4 (a b c d : Int) : Value := .agg #[.int .i64 a, .int .i64 b, .int .i64 c, .int .i64 d]
def rrectS : RSpec := fun bs l p rest ex => match rest, ex with
  | [], none => some (agg4 (rcX bs l p) (rcY bs l p) (rcU bs l p) (rcW bs l p), p + 4, [rdK bs l p])
  | _, _ => none
theorem veq4' {a a' b b' c c' d d' : Int} (h1 : a = a') (h2 : b = b') (h3 : c = c') (h4 : d = d') : agg4 a b c d = agg4 a' b' c' d' := by rw [h1, h2, h3, h4]
theorem rrectS_ok : SpecOk Try.prog 108 rrectS := by
  intro bs l c p rest0 ex v p' C h hC
  unfold rrectS at h
  split at h
  rotate_left
  · cases h
  obtain ⟨rfl, rfl, rfl⟩ : agg4 (rcX bs l p) (rcY bs l p) (rcU bs l p) (rcW bs l p) = v ∧ p + 4 = p' ∧ [rdK bs l p] = C := by simpa using h
  have h1 := hC.1
  refine ⟨ER2, 30, 12, ER2_ok, rfl, ?_⟩
  rw [tr_rrect]
  have r0 := h1.at (q := p) (by omega) (by omega)
  have r1 := h1.at (q := p + 1) (by omega) (by omega)
  have r2 := h1.at (q := p + 2) (by omega) (by omega)
  have r3 := h1.at (q := p + 3) (by omega) (by omega)
  have b0 := pickI_bd (k := 9) r0 (by omega)
  have b1 := pickI_bd (k := 9) r1 (by omega)
  have b2 := pickI_bd (k := 6) r2 (by omega)
  have b3 := pickI_bd (k := 6) r3 (by omega)
  have e3 : p + 2 + 1 = p + 3 := by omega
  simp only [e3]
  rw [wr (x := pickI bs l p 9 - 2 + 1) (by omega), wr (x := pickI bs l p 9 - 2 + 1 + pickI bs l (p + 2) 6) (by omega), wr (x := pickI bs l (p + 1) 9 - 2 + 1) (by omega), wr (x := pickI bs l (p + 1) 9 - 2 + 1 + pickI bs l (p + 3) 6) (by omega)]
  exact ⟨h1, r2, r3, rfl, box2 (by omega) _⟩
def JR : List (FuncId × RSpec) := (108, rrectS) :: J2
theorem JR_ok : JOk Try.prog JR := J2_ok.cons (entersB_res (by kernel_rfl)).1 rrectS_ok
def ERR : Env := withJ (tabE B0) JR
theorem ERR_ok : EnvOk Try.prog ERR := withJ_ok mixed (tabE_ok B0_ok) JR_ok
set_option maxRecDepth 100000 in
theorem tr_arect (bs : List Int) (l c : Nat) (p : Int) : bodyM Try.prog ERR (runM Try.prog ERR 30 12) 30 58 [.pointer (some ⟨1, 0, none⟩)] (memR bs l c p none) .fin = .need (rdK bs l p) (.need (rdC bs l (p + (4 : Int))) (brT (pickI bs l (p + 4) 18 == 0) (.fin (.agg #[.int .i64 (rcX bs l p), .int .i64 (rcY bs l p), .int .i64 (rcX bs l p), .int .i64 (rcW bs l p)]) [some ⟨.view, .bytes (bs)⟩, some ⟨.box, .vals [.slice (some ⟨0, 0, none⟩) (l) (c), .int .i64 (p + 4 + 1)]⟩, some ⟨.box, .vals [.int .i64 (rcX bs l p), .int .i64 (rcY bs l p), .int .i64 (rcX bs l p), .int .i64 (rcW bs l p)]⟩, some ⟨.box, .vals [.int .i64 (rcX bs l p), .int .i64 (rcY bs l p), .int .i64 (rcX bs l p), .int .i64 (rcW bs l p)]⟩]) (brT (pickI bs l (p + 4) 18 == 1) (.need (rdC bs l (p + (4 : Int) + (1 : Int))) (.need ((1 : Nat) ≤ (2 : Nat) ∧ (2 : Nat) ≤ (2 : Nat) ∧ (2 : Nat) = (2 : Nat)) (.fin (.agg #[.int .i64 (rcX bs l p), .int .i64 (oneI bs l (p + 4 + 1) 2 [-1001, -1000]), .int .i64 (rcU bs l p), .int .i64 (rcW bs l p)]) [some ⟨.view, .bytes (bs)⟩, some ⟨.box, .vals [.slice (some ⟨0, 0, none⟩) (l) (c), .int .i64 (p + 4 + 1 + 1)]⟩, some ⟨.box, .vals [.int .i64 (rcX bs l p), .int .i64 (oneI bs l (p + 4 + 1) 2 [-1001, -1000]), .int .i64 (rcU bs l p), .int .i64 (rcW bs l p)]⟩, some ⟨.box, .vals [.int .i64 (rcX bs l p), .int .i64 (oneI bs l (p + 4 + 1) 2 [-1001, -1000]), .int .i64 (rcU bs l p), .int .i64 (rcW bs l p)]⟩, some ⟨.row 3 1, .vals [.int .i64 (-1001), .int .i64 (-1000)]⟩]))) (.fin (.agg #[.int .i64 (rcX bs l p), .int .i64 (rcY bs l p), .int .i64 (rcU bs l p), .int .i64 (rcW bs l p)]) [some ⟨.view, .bytes (bs)⟩, some ⟨.box, .vals [.slice (some ⟨0, 0, none⟩) (l) (c), .int .i64 (p + 4 + 1)]⟩, some ⟨.box, .vals [.int .i64 (rcX bs l p), .int .i64 (rcY bs l p), .int .i64 (rcU bs l p), .int .i64 (rcW bs l p)]⟩, some ⟨.box, .vals [.int .i64 (rcX bs l p), .int .i64 (rcY bs l p), .int .i64 (rcU bs l p), .int .i64 (rcW bs l p)]⟩])))) := by kernel_rfl
def reA : List Int := [-1001, -1000]
def reQ (bs : List Int) (l : Nat) (p : Int) : Int := pickI bs l (p + 4) 18
def reY (bs : List Int) (l : Nat) (p : Int) : Int := if reQ bs l p = 1 then oneI bs l (p + 5) 2 reA else rcY bs l p
def reU (bs : List Int) (l : Nat) (p : Int) : Int := if reQ bs l p = 0 then rcX bs l p else rcU bs l p
def reP (bs : List Int) (l : Nat) (p : Int) : Int := if reQ bs l p = 1 then p + 6 else p + 5
theorem reP_bd (bs : List Int) (l : Nat) (p : Int) : p + 5 ≤ reP bs l p ∧ reP bs l p ≤ p + 6 := by unfold reP; split <;> omega
def arectS : RSpec := fun bs l p rest ex => match rest, ex with
  | [], none => some (agg4 (rcX bs l p) (reY bs l p) (reU bs l p) (rcW bs l p), reP bs l p, [rdK bs l p])
  | _, _ => none
theorem arectS_ok : SpecOk Try.prog 58 arectS := by
  intro bs l c p rest0 ex v p' C h hC
  unfold arectS at h
  split at h
  rotate_left
  · cases h
  obtain ⟨rfl, rfl, rfl⟩ : agg4 (rcX bs l p) (reY bs l p) (reU bs l p) (rcW bs l p) = v ∧ reP bs l p = p' ∧ [rdK bs l p] = C := by simpa using h
  have h1 := hC.1
  refine ⟨ERR, 30, 12, ERR_ok, rfl, ?_⟩
  rw [tr_arect]
  have e4 : p + 4 + 1 = p + 5 := by omega
  have e5 : p + 5 + 1 = p + 6 := by omega
  simp only [e4, e5]
  refine ⟨h1, h1.at (by omega) (by omega), brT_ok.2 ⟨fun hq => ?_, fun hq => brT_ok.2 ⟨fun hq' => ?_, fun hq' => ?_⟩⟩⟩
  · have hq : reQ bs l p = 0 := by simpa [reQ] using hq
    exact ⟨veq4' rfl (by unfold reY; rw [if_neg (by omega)]) (by unfold reU; rw [if_pos hq]) rfl, box2 (by unfold reP; rw [if_neg (by omega)]) _⟩
  · have hq : ¬ reQ bs l p = 0 := by simpa [reQ] using hq
    have hq' : reQ bs l p = 1 := by simpa [reQ] using hq'
    exact ⟨h1.at (by omega) (by omega), by decide, veq4' rfl (by unfold reY; rw [if_pos hq']; rfl) (by unfold reU; rw [if_neg hq]) rfl, box2 (by unfold reP; rw [if_pos hq']) _⟩
  · have hq : ¬ reQ bs l p = 0 := by simpa [reQ] using hq
    have hq' : ¬ reQ bs l p = 1 := by simpa [reQ] using hq'
    exact ⟨veq4' rfl (by unfold reY; rw [if_neg hq']) (by unfold reU; rw [if_neg hq]) rfl, box2 (by unfold reP; rw [if_neg hq']) _⟩
def JR2 : List (FuncId × RSpec) := (58, arectS) :: JR
theorem JR2_ok : JOk Try.prog JR2 := JR_ok.cons (entersB_res (by kernel_rfl)).1 arectS_ok
def ERR2 : Env := withJ (tabE B0) JR2
theorem ERR2_ok : EnvOk Try.prog ERR2 := withJ_ok mixed (tabE_ok B0_ok) JR2_ok
/-- Two drawn rectangles. -/
def d2c (bs : List Int) (n : Nat) : Nat → Int
  | 0 => rcX bs (rdL n) 0
  | 1 => reY bs (rdL n) 0
  | 2 => reU bs (rdL n) 0
  | 3 => rcW bs (rdL n) 0
  | 4 => rcX bs (rdL n) (reP bs (rdL n) 0)
  | 5 => reY bs (rdL n) (reP bs (rdL n) 0)
  | 6 => reU bs (rdL n) (reP bs (rdL n) 0)
  | _ => rcW bs (rdL n) (reP bs (rdL n) 0)
def d2cV (bs : List Int) (n : Nat) : Value := .tuple #[agg4 (d2c bs n 0) (d2c bs n 1) (d2c bs n 2) (d2c bs n 3), agg4 (d2c bs n 4) (d2c bs n 5) (d2c bs n 6) (d2c bs n 7)]
def pDRect : List DArg → Option (Value × List Prop)
  | [.row n (.bytes bs)] => some (d2cV bs n, [Bytes bs, n ≤ bs.length])
  | _ => none
end Go.Proofs.Ytoijfjifaljpaab
