/-
  Drawn lines, and a point. Written by an AI agent.
-/
import Derived.Test.YtblpldapmmoheabRdG
namespace Go.Proofs.Ytblpldapmmoheab
open Go.RowKit
def pLn : List DArg → Option (Value × List Prop)
  | [.v (.agg ⟨[.int .i64 ax, .int .i64 ay]⟩), .v (.agg ⟨[.int .i64 bx, .int .i64 b_y]⟩)] => some (.agg #[iv (thP ax ay bx b_y 0), iv (thP ax ay bx b_y 1), iv (thP ax ay bx b_y 2)], [ptB ax ay = true, ptB bx b_y = true, eqB ax ay bx b_y = false])
  | _ => none
def TLn : Tab := fun f ds => match f with
  | 130 => pLn ds
  | _ => none
theorem TLn_r0 {ds : List DArg} {v : Value} {C : List Prop} (h : pLn ds = some (v, C)) (hC : AllP C) : Res Try.prog 130 ds v := by
  unfold pLn at h
  split at h
  · obtain ⟨rfl, rfl⟩ : _ ∧ _ := by simpa using h
    exact res_specLn _ _ _ _ hC.1 hC.2.1 hC.2.2.1
  · cases h
theorem TLn_ok : TabOk Try.prog TLn := by
  intro f ds v C h hC
  unfold TLn at h
  (try split at h)
  all_goals first | with_reducible exact TLn_r0 h hC | cases h
def ERL : Env := withJ (tabE TLn) J2
theorem ERL_ok : EnvOk Try.prog ERL := withJ_ok mixed (tabE_ok TLn_ok) J2_ok
set_option maxRecDepth 100000 in
theorem tr_rline (bs : List Int) (l c : Nat) (p : Int) : bodyM Try.prog ERL (runM Try.prog ERL 30 12) 30 74 [.pointer (some ⟨1, 0, none⟩)] (memR bs l c p none) .fin = .need (rdK bs l p) (.need (rdK bs l (p + (2 : Int))) (brT (negB false (pickI bs l p 9 - 2 == pickI bs l (p + 2) 9 - 2 && (pickI bs l (p + 1) 9 - 2 == pickI bs l (p + 2 + 1) 9 - 2 && true))) (.need (ptB (pickI bs l p (9 : Int) - (2 : Int)) (pickI bs l (p + (1 : Int)) (9 : Int) - (2 : Int)) = true) (.need (ptB (pickI bs l (p + (2 : Int)) (9 : Int) - (2 : Int)) (IntKind.i64.wrap (pickI bs l (p + (2 : Int) + (1 : Int)) (9 : Int) - (2 : Int) + (1 : Int))) = true) (.need (eqB (pickI bs l p (9 : Int) - (2 : Int)) (pickI bs l (p + (1 : Int)) (9 : Int) - (2 : Int)) (pickI bs l (p + (2 : Int)) (9 : Int) - (2 : Int)) (IntKind.i64.wrap (pickI bs l (p + (2 : Int) + (1 : Int)) (9 : Int) - (2 : Int) + (1 : Int))) = false) (.fin (.agg #[.int .i64 (thP (pickI bs l p 9 - 2) (pickI bs l (p + 1) 9 - 2) (pickI bs l (p + 2) 9 - 2) (IntKind.i64.wrap (pickI bs l (p + 2 + 1) 9 - 2 + 1)) 0), .int .i64 (thP (pickI bs l p 9 - 2) (pickI bs l (p + 1) 9 - 2) (pickI bs l (p + 2) 9 - 2) (IntKind.i64.wrap (pickI bs l (p + 2 + 1) 9 - 2 + 1)) 1), .int .i64 (thP (pickI bs l p 9 - 2) (pickI bs l (p + 1) 9 - 2) (pickI bs l (p + 2) 9 - 2) (IntKind.i64.wrap (pickI bs l (p + 2 + 1) 9 - 2 + 1)) 2)]) [some ⟨.view, .bytes (bs)⟩, some ⟨.box, .vals [.slice (some ⟨0, 0, none⟩) (l) (c), .int .i64 (p + 2 + 2)]⟩, some ⟨.box, .vals [.int .i64 (thP (pickI bs l p 9 - 2) (pickI bs l (p + 1) 9 - 2) (pickI bs l (p + 2) 9 - 2) (IntKind.i64.wrap (pickI bs l (p + 2 + 1) 9 - 2 + 1)) 0), .int .i64 (thP (pickI bs l p 9 - 2) (pickI bs l (p + 1) 9 - 2) (pickI bs l (p + 2) 9 - 2) (IntKind.i64.wrap (pickI bs l (p + 2 + 1) 9 - 2 + 1)) 1), .int .i64 (thP (pickI bs l p 9 - 2) (pickI bs l (p + 1) 9 - 2) (pickI bs l (p + 2) 9 - 2) (IntKind.i64.wrap (pickI bs l (p + 2 + 1) 9 - 2 + 1)) 2)]⟩, some ⟨.box, .vals [.int .i64 (pickI bs l p 9 - 2), .int .i64 (pickI bs l (p + 1) 9 - 2)]⟩, some ⟨.box, .vals [.int .i64 (pickI bs l (p + 2) 9 - 2), .int .i64 (IntKind.i64.wrap (pickI bs l (p + 2 + 1) 9 - 2 + 1))]⟩])))) (.need (ptB (pickI bs l p (9 : Int) - (2 : Int)) (pickI bs l (p + (1 : Int)) (9 : Int) - (2 : Int)) = true) (.need (ptB (pickI bs l (p + (2 : Int)) (9 : Int) - (2 : Int)) (pickI bs l (p + (2 : Int) + (1 : Int)) (9 : Int) - (2 : Int)) = true) (.need (eqB (pickI bs l p (9 : Int) - (2 : Int)) (pickI bs l (p + (1 : Int)) (9 : Int) - (2 : Int)) (pickI bs l (p + (2 : Int)) (9 : Int) - (2 : Int)) (pickI bs l (p + (2 : Int) + (1 : Int)) (9 : Int) - (2 : Int)) = false) (.fin (.agg #[.int .i64 (thP (pickI bs l p 9 - 2) (pickI bs l (p + 1) 9 - 2) (pickI bs l (p + 2) 9 - 2) (pickI bs l (p + 2 + 1) 9 - 2) 0), .int .i64 (thP (pickI bs l p 9 - 2) (pickI bs l (p + 1) 9 - 2) (pickI bs l (p + 2) 9 - 2) (pickI bs l (p + 2 + 1) 9 - 2) 1), .int .i64 (thP (pickI bs l p 9 - 2) (pickI bs l (p + 1) 9 - 2) (pickI bs l (p + 2) 9 - 2) (pickI bs l (p + 2 + 1) 9 - 2) 2)]) [some ⟨.view, .bytes (bs)⟩, some ⟨.box, .vals [.slice (some ⟨0, 0, none⟩) (l) (c), .int .i64 (p + 2 + 2)]⟩, some ⟨.box, .vals [.int .i64 (thP (pickI bs l p 9 - 2) (pickI bs l (p + 1) 9 - 2) (pickI bs l (p + 2) 9 - 2) (pickI bs l (p + 2 + 1) 9 - 2) 0), .int .i64 (thP (pickI bs l p 9 - 2) (pickI bs l (p + 1) 9 - 2) (pickI bs l (p + 2) 9 - 2) (pickI bs l (p + 2 + 1) 9 - 2) 1), .int .i64 (thP (pickI bs l p 9 - 2) (pickI bs l (p + 1) 9 - 2) (pickI bs l (p + 2) 9 - 2) (pickI bs l (p + 2 + 1) 9 - 2) 2)]⟩, some ⟨.box, .vals [.int .i64 (pickI bs l p 9 - 2), .int .i64 (pickI bs l (p + 1) 9 - 2)]⟩, some ⟨.box, .vals [.int .i64 (pickI bs l (p + 2) 9 - 2), .int .i64 (pickI bs l (p + 2 + 1) 9 - 2)]⟩])))))) := by kernel_rfl
def rlY (bs : List Int) (l : Nat) (p : Int) : Int := if pickI bs l p 9 = pickI bs l (p + 2) 9 ∧ pickI bs l (p + 1) 9 = pickI bs l (p + 3) 9 then pickI bs l (p + 3) 9 - 2 + 1 else pickI bs l (p + 3) 9 - 2
/-- The numbers of a drawn line. -/
def rlI (bs : List Int) (l : Nat) (p : Int) (k : Nat) : Int := thP (pickI bs l p 9 - 2) (pickI bs l (p + 1) 9 - 2) (pickI bs l (p + 2) 9 - 2) (rlY bs l p) k
abbrev agg3 (a b c : Int) : Value := .agg #[.int .i64 a, .int .i64 b, .int .i64 c]
def rlineS : RSpec := fun bs l p rest ex => match rest, ex with
  | [], none => some (agg3 (rlI bs l p 0) (rlI bs l p 1) (rlI bs l p 2), p + 4, [rdK bs l p, rdK bs l (p + 2)])
  | _, _ => none
theorem rlineS_ok : SpecOk Try.prog 74 rlineS := by
  intro bs l c p rest0 ex v p' C h hC
  unfold rlineS at h
  split at h
  rotate_left
  · cases h
  obtain ⟨rfl, rfl, rfl⟩ : agg3 (rlI bs l p 0) (rlI bs l p 1) (rlI bs l p 2) = v ∧ p + 4 = p' ∧ [rdK bs l p, rdK bs l (p + 2)] = C := by simpa using h
  obtain ⟨h1, h2, _⟩ := hC
  refine ⟨ERL, 30, 12, ERL_ok, rfl, ?_⟩
  rw [tr_rline]
  have r0 := h1.at (q := p) (by omega) (by omega)
  have r1 := h1.at (q := p + 1) (by omega) (by omega)
  have r2 := h1.at (q := p + 2) (by omega) (by omega)
  have r3 := h1.at (q := p + 3) (by omega) (by omega)
  have b0 := pickI_bd (k := 9) r0 (by omega)
  have b1 := pickI_bd (k := 9) r1 (by omega)
  have b2 := pickI_bd (k := 9) r2 (by omega)
  have b3 := pickI_bd (k := 9) r3 (by omega)
  have e3 : p + 2 + 1 = p + 3 := by omega
  have e4 : p + 2 + 2 = p + 4 := by omega
  unfold rlI rlY
  simp only [e3, e4]
  generalize pickI bs l p 9 = x at *
  generalize pickI bs l (p + 1) 9 = y at *
  generalize pickI bs l (p + 2) 9 = u at *
  generalize pickI bs l (p + 3) 9 = w at *
  have ww : IntKind.i64.wrap (w - 2 + 1) = w - 2 + 1 := wr (by omega)
  rw [ww]
  have q1 : ptB (x - 2) (y - 2) = true := decide_eq_true (by omega)
  have q2 : ptB (u - 2) (w - 2) = true := decide_eq_true (by omega)
  have q3 : ptB (u - 2) (w - 2 + 1) = true := decide_eq_true (by omega)
  refine ⟨h1, h2, brT_ok.2 ⟨fun hq => ?_, fun hq => ?_⟩⟩
  · have hq : x = u ∧ y = w := by
      simp [negB] at hq
      omega
    have q4 : eqB (x - 2) (y - 2) (u - 2) (w - 2 + 1) = false := by unfold eqB; simp; omega
    simp only [if_pos hq]
    exact ⟨q1, q3, q4, rfl, box2 rfl _⟩
  · have hq : ¬ (x = u ∧ y = w) := by
      intro hh
      obtain ⟨rfl, rfl⟩ := hh
      simp [negB] at hq
    have q4 : eqB (x - 2) (y - 2) (u - 2) (w - 2) = false := by unfold eqB; simp; omega
    simp only [if_neg hq]
    exact ⟨q1, q2, q4, rfl, box2 rfl _⟩
def JL : List (FuncId × RSpec) := (74, rlineS) :: J3
theorem JL_ok : JOk Try.prog JL := J3_ok.cons (entersB_res (by kernel_rfl)).1 rlineS_ok
def ERL2 : Env := withJ (tabE B0) JL
theorem ERL2_ok : EnvOk Try.prog ERL2 := withJ_ok mixed (tabE_ok B0_ok) JL_ok
set_option maxRecDepth 100000 in
theorem tr_aline (bs : List Int) (l c : Nat) (p : Int) : bodyM Try.prog ERL2 (runM Try.prog ERL2 30 12) 30 63 [.pointer (some ⟨1, 0, none⟩)] (memR bs l c p none) .fin = .need (rdK bs l p) (.need (rdK bs l (p + (2 : Int))) (.need (rdC bs l (p + (4 : Int))) (brT (pickI bs l (p + 4) 16 == 0) (.need (rdC bs l (p + (4 : Int) + (1 : Int))) (.need ((1 : Nat) ≤ (2 : Nat) ∧ (2 : Nat) ≤ (2 : Nat) ∧ (2 : Nat) = (2 : Nat)) (.fin (.agg #[.int .i64 (oneI bs l (p + 4 + 1) 2 [-1, 2001]), .int .i64 (rlI bs l p 1), .int .i64 (rlI bs l p 2)]) [some ⟨.view, .bytes (bs)⟩, some ⟨.box, .vals [.slice (some ⟨0, 0, none⟩) (l) (c), .int .i64 (p + 4 + 1 + 1)]⟩, some ⟨.box, .vals [.int .i64 (oneI bs l (p + 4 + 1) 2 [-1, 2001]), .int .i64 (rlI bs l p 1), .int .i64 (rlI bs l p 2)]⟩, some ⟨.box, .vals [.int .i64 (oneI bs l (p + 4 + 1) 2 [-1, 2001]), .int .i64 (rlI bs l p 1), .int .i64 (rlI bs l p 2)]⟩, some ⟨.row 3 1, .vals [.int .i64 (-1), .int .i64 (2001)]⟩]))) (brT (pickI bs l (p + 4) 16 == 1) (.fin (.agg #[.int .i64 (2), .int .i64 (4), .int .i64 (6)]) [some ⟨.view, .bytes (bs)⟩, some ⟨.box, .vals [.slice (some ⟨0, 0, none⟩) (l) (c), .int .i64 (p + 4 + 1)]⟩, some ⟨.box, .vals [.int .i64 (2), .int .i64 (4), .int .i64 (6)]⟩, some ⟨.box, .vals [.int .i64 (2), .int .i64 (4), .int .i64 (6)]⟩]) (brT (pickI bs l (p + 4) 16 == 2) (.need (rdC bs l (p + (4 : Int) + (1 : Int))) (.need ((1 : Nat) ≤ (2 : Nat) ∧ (2 : Nat) ≤ (2 : Nat) ∧ (2 : Nat) = (2 : Nat)) (.fin (.agg #[.int .i64 (rlI bs l p 0), .int .i64 (rlI bs l p 1), .int .i64 (oneI bs l (p + 4 + 1) 2 [4000001, -4000001])]) [some ⟨.view, .bytes (bs)⟩, some ⟨.box, .vals [.slice (some ⟨0, 0, none⟩) (l) (c), .int .i64 (p + 4 + 1 + 1)]⟩, some ⟨.box, .vals [.int .i64 (rlI bs l p 0), .int .i64 (rlI bs l p 1), .int .i64 (oneI bs l (p + 4 + 1) 2 [4000001, -4000001])]⟩, some ⟨.box, .vals [.int .i64 (rlI bs l p 0), .int .i64 (rlI bs l p 1), .int .i64 (oneI bs l (p + 4 + 1) 2 [4000001, -4000001])]⟩, some ⟨.row 3 1, .vals [.int .i64 (4000001), .int .i64 (-4000001)]⟩]))) (.fin (.agg #[.int .i64 (rlI bs l p 0), .int .i64 (rlI bs l p 1), .int .i64 (rlI bs l p 2)]) [some ⟨.view, .bytes (bs)⟩, some ⟨.box, .vals [.slice (some ⟨0, 0, none⟩) (l) (c), .int .i64 (p + 4 + 1)]⟩, some ⟨.box, .vals [.int .i64 (rlI bs l p 0), .int .i64 (rlI bs l p 1), .int .i64 (rlI bs l p 2)]⟩, some ⟨.box, .vals [.int .i64 (rlI bs l p 0), .int .i64 (rlI bs l p 1), .int .i64 (rlI bs l p 2)]⟩])))))) := by kernel_rfl
def alA : List Int := [-1, 2001]
def alC : List Int := [4000001, -4000001]
def alQ (bs : List Int) (l : Nat) (p : Int) : Int := pickI bs l (p + 4) 16
def alI (bs : List Int) (l : Nat) (p : Int) : Nat → Int
  | 0 => if alQ bs l p = 0 then oneI bs l (p + 5) 2 alA else if alQ bs l p = 1 then 2 else rlI bs l p 0
  | 1 => if alQ bs l p = 1 then 4 else rlI bs l p 1
  | _ => if alQ bs l p = 1 then 6 else if alQ bs l p = 2 then oneI bs l (p + 5) 2 alC else rlI bs l p 2
def alP (bs : List Int) (l : Nat) (p : Int) : Int := if alQ bs l p = 0 ∨ alQ bs l p = 2 then p + 6 else p + 5
theorem alP_bd (bs : List Int) (l : Nat) (p : Int) : p + 5 ≤ alP bs l p ∧ alP bs l p ≤ p + 6 := by unfold alP; split <;> omega
def alineS : RSpec := fun bs l p rest ex => match rest, ex with
  | [], none => some (agg3 (alI bs l p 0) (alI bs l p 1) (alI bs l p 2), alP bs l p, [rdK bs l p, rdK bs l (p + 2)])
  | _, _ => none
theorem veq3 {a a' b b' c c' : Int} (h : a = a') (k : b = b') (j : c = c') : agg3 a b c = agg3 a' b' c' := by rw [h, k, j]
theorem alineS_ok : SpecOk Try.prog 63 alineS := by
  intro bs l c p rest0 ex v p' C h hC
  unfold alineS at h
  split at h
  rotate_left
  · cases h
  obtain ⟨rfl, rfl, rfl⟩ : agg3 (alI bs l p 0) (alI bs l p 1) (alI bs l p 2) = v ∧ alP bs l p = p' ∧ [rdK bs l p, rdK bs l (p + 2)] = C := by simpa using h
  obtain ⟨h1, h2, _⟩ := hC
  refine ⟨ERL2, 30, 12, ERL2_ok, rfl, ?_⟩
  rw [tr_aline]
  have e4 : p + 4 + 1 = p + 5 := by omega
  have e5 : p + 5 + 1 = p + 6 := by omega
  simp only [e4, e5]
  refine ⟨h1, h2, h1.at (by omega) (by omega), brT_ok.2 ⟨fun hq => ?_, fun hq => brT_ok.2 ⟨fun hq' => ?_, fun hq' => brT_ok.2 ⟨fun hr => ?_, fun hr => ?_⟩⟩⟩⟩
  · have hq : alQ bs l p = 0 := by simpa [alQ] using hq
    exact ⟨h1.at (by omega) (by omega), by decide, veq3 (by simp only [alI]; rw [if_pos hq]; rfl) (by simp only [alI]; rw [if_neg (by omega)]) (by simp only [alI]; rw [if_neg (by omega), if_neg (by omega)]), box2 (by unfold alP; rw [if_pos (.inl hq)]) _⟩
  · have hq' : alQ bs l p = 1 := by simpa [alQ] using hq'
    exact ⟨veq3 (by simp only [alI]; rw [if_neg (by omega), if_pos hq']) (by simp only [alI]; rw [if_pos hq']) (by simp only [alI]; rw [if_pos hq']), box2 (by unfold alP; rw [if_neg (by omega)]) _⟩
  · have hr : alQ bs l p = 2 := by simpa [alQ] using hr
    exact ⟨h1.at (by omega) (by omega), by decide, veq3 (by simp only [alI]; rw [if_neg (by omega), if_neg (by omega)]) (by simp only [alI]; rw [if_neg (by omega)]) (by simp only [alI]; rw [if_neg (by omega), if_pos hr]; rfl), box2 (by unfold alP; rw [if_pos (.inr hr)]) _⟩
  · have hq : ¬ alQ bs l p = 0 := by simpa [alQ] using hq
    have hq' : ¬ alQ bs l p = 1 := by simpa [alQ] using hq'
    have hr : ¬ alQ bs l p = 2 := by simpa [alQ] using hr
    exact ⟨veq3 (by simp only [alI]; rw [if_neg hq, if_neg hq']) (by simp only [alI]; rw [if_neg hq']) (by simp only [alI]; rw [if_neg hq', if_neg hr]), box2 (by unfold alP; rw [if_neg (by omega)]) _⟩
def JL2 : List (FuncId × RSpec) := (63, alineS) :: JL
theorem JL2_ok : JOk Try.prog JL2 := JL_ok.cons (entersB_res (by kernel_rfl)).1 alineS_ok
def ERL3 : Env := withJ (tabE B0) JL2
theorem ERL3_ok : EnvOk Try.prog ERL3 := withJ_ok mixed (tabE_ok B0_ok) JL2_ok
/-- A drawn line and a point. -/
def dsd (bs : List Int) (l : Nat) : Nat → Int
  | 3 => apX bs l (alP bs l 0)
  | 4 => apY bs l (alP bs l 0)
  | k => alI bs l 0 k
def dsdV (bs : List Int) (n : Nat) : Value := .tuple #[agg3 (dsd bs (rdL n) 0) (dsd bs (rdL n) 1) (dsd bs (rdL n) 2), agg2 (dsd bs (rdL n) 3) (dsd bs (rdL n) 4)]
def pDSide : List DArg → Option (Value × List Prop)
  | [.row n (.bytes bs)] => some (dsdV bs n, [Bytes bs, n ≤ bs.length])
  | _ => none
end Go.Proofs.Ytblpldapmmoheab
