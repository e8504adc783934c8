/-
  Drawn matrices. Written by an AI agent.
-/
import Derived.Test.YtfjcbindeimoiaaRdC
import Derived.Test.YtfjcbindeimoiaaAbsV
namespace Go.Proofs.Ytfjcbindeimoiaa
open Go.RowKit

set_option maxRecDepth 100000 in
theorem tr_rmat (bs : List Int) (l c : Nat) (p : Int) : bodyM Try.prog ER2 (runM Try.prog ER2 30 12) 30 62 [.pointer (some ⟨1, 0, none⟩)] (memR bs l c p none) .fin = .need (rdC bs l p) (brT (pickI bs l p 2 == 0) (.need (rdC bs l (p + (1 : Int))) (.need (rdC bs l (p + (1 : Int) + (1 : Int))) (.fin (.agg #[.int .i64 (IntKind.i64.wrap (1 + IntKind.i64.wrap (IntKind.i64.wrap (pickI bs l (p + 1) 5 - 2) * IntKind.i64.wrap (pickI bs l (p + 1 + 1) 5 - 2)))), .int .i64 (IntKind.i64.wrap (pickI bs l (p + 1) 5 - 2)), .int .i64 (IntKind.i64.wrap (pickI bs l (p + 1 + 1) 5 - 2)), .int .i64 (1)]) [some ⟨.view, .bytes (bs)⟩, some ⟨.box, .vals [.slice (some ⟨0, 0, none⟩) (l) (c), .int .i64 (p + 1 + 1 + 1)]⟩, some ⟨.box, .vals [.int .i64 (IntKind.i64.wrap (1 + IntKind.i64.wrap (IntKind.i64.wrap (pickI bs l (p + 1) 5 - 2) * IntKind.i64.wrap (pickI bs l (p + 1 + 1) 5 - 2)))), .int .i64 (IntKind.i64.wrap (pickI bs l (p + 1) 5 - 2)), .int .i64 (IntKind.i64.wrap (pickI bs l (p + 1 + 1) 5 - 2)), .int .i64 (1)]⟩]))) (.need (rdC bs l (p + (1 : Int))) (.need (rdC bs l (p + (1 : Int) + (1 : Int))) (.need (rdC bs l (p + (1 : Int) + (1 : Int) + (1 : Int))) (.need (rdC bs l (p + (1 : Int) + (1 : Int) + (1 : Int) + (1 : Int))) (.fin (.agg #[.int .i64 (IntKind.i64.wrap (pickI bs l (p + 1) 7 - 3)), .int .i64 (IntKind.i64.wrap (pickI bs l (p + 1 + 1) 7 - 3)), .int .i64 (IntKind.i64.wrap (pickI bs l (p + 1 + 1 + 1) 7 - 3)), .int .i64 (IntKind.i64.wrap (pickI bs l (p + 1 + 1 + 1 + 1) 7 - 3))]) [some ⟨.view, .bytes (bs)⟩, some ⟨.box, .vals [.slice (some ⟨0, 0, none⟩) (l) (c), .int .i64 (p + 1 + 1 + 1 + 1 + 1)]⟩, some ⟨.box, .vals [.int .i64 (IntKind.i64.wrap (pickI bs l (p + 1) 7 - 3)), .int .i64 (IntKind.i64.wrap (pickI bs l (p + 1 + 1) 7 - 3)), .int .i64 (IntKind.i64.wrap (pickI bs l (p + 1 + 1 + 1) 7 - 3)), .int .i64 (IntKind.i64.wrap (pickI bs l (p + 1 + 1 + 1 + 1) 7 - 3))]⟩])))))) := by kernel_rfl
abbrev ag4 (a b c d : Int) : Value := .agg #[.int .i64 a, .int .i64 b, .int .i64 c, .int .i64 d]
theorem vq4 {a a' b b' c c' d d' : Int} (h1 : a = a') (h2 : b = b') (h3 : c = c') (h4 : d = d') : ag4 a b c d = ag4 a' b' c' d' := by rw [h1, h2, h3, h4]
/-- The entries of a random matrix. -/
def rmE (bs : List Int) (l : Nat) (p : Int) : Nat → Int
  | 0 => if pickI bs l p 2 = 0 then IntKind.i64.wrap (1 + IntKind.i64.wrap (IntKind.i64.wrap (pickI bs l (p + 1) 5 - 2) * IntKind.i64.wrap (pickI bs l (p + 1 + 1) 5 - 2))) else IntKind.i64.wrap (pickI bs l (p + 1) 7 - 3)
  | 1 => if pickI bs l p 2 = 0 then IntKind.i64.wrap (pickI bs l (p + 1) 5 - 2) else IntKind.i64.wrap (pickI bs l (p + 1 + 1) 7 - 3)
  | 2 => if pickI bs l p 2 = 0 then IntKind.i64.wrap (pickI bs l (p + 1 + 1) 5 - 2) else IntKind.i64.wrap (pickI bs l (p + 1 + 1 + 1) 7 - 3)
  | _ => if pickI bs l p 2 = 0 then 1 else IntKind.i64.wrap (pickI bs l (p + 1 + 1 + 1 + 1) 7 - 3)
def rmP (bs : List Int) (l : Nat) (p : Int) : Int := if pickI bs l p 2 = 0 then p + 3 else p + 5
def rmatS : RSpec := fun bs l p rest ex => match rest, ex with
  | [], none => some (ag4 (rmE bs l p 0) (rmE bs l p 1) (rmE bs l p 2) (rmE bs l p 3), rmP bs l p, [rdK bs l p])
  | _, _ => none
theorem rmatS_ok : SpecOk Try.prog 62 rmatS := by
  intro bs l c p rest0 ex v p' C h hC
  unfold rmatS at h
  split at h
  rotate_left
  · cases h
  obtain ⟨rfl, rfl, rfl⟩ : ag4 (rmE bs l p 0) (rmE bs l p 1) (rmE bs l p 2) (rmE bs l p 3) = v ∧ rmP bs l p = p' ∧ [rdK bs l p] = C := by simpa using h
  have h1 := hC.1
  refine ⟨ER2, 30, 12, ER2_ok, rfl, ?_⟩
  rw [tr_rmat]
  have r0 := h1.at (q := p) (by omega) (by omega)
  have r1 := h1.at (q := p + 1) (by omega) (by omega)
  have r2 := h1.at (q := p + 1 + 1) (by omega) (by omega)
  have r3 := h1.at (q := p + 1 + 1 + 1) (by omega) (by omega)
  have r4 := h1.at (q := p + 1 + 1 + 1 + 1) (by omega) (by omega)
  refine ⟨r0, brT_ok.2 ⟨fun hq => ?_, fun hq => ?_⟩⟩
  · have hq : pickI bs l p 2 = 0 := by simpa using hq
    exact ⟨r1, r2, vq4 (by simp only [rmE]; rw [if_pos hq]) (by simp only [rmE]; rw [if_pos hq]) (by simp only [rmE]; rw [if_pos hq]) (by simp only [rmE]; rw [if_pos hq]), box2 (by unfold rmP; rw [if_pos hq]; omega) _⟩
  · have hq : ¬ pickI bs l p 2 = 0 := by simpa using hq
    exact ⟨r1, r2, r3, r4, vq4 (by simp only [rmE]; rw [if_neg hq]) (by simp only [rmE]; rw [if_neg hq]) (by simp only [rmE]; rw [if_neg hq]) (by simp only [rmE]; rw [if_neg hq]), box2 (by unfold rmP; rw [if_neg hq]; omega) _⟩
theorem rmP_bd (bs : List Int) (l : Nat) (p : Int) : p + 3 ≤ rmP bs l p ∧ rmP bs l p ≤ p + 5 := by unfold rmP; split <;> omega
def JMt : List (FuncId × RSpec) := (62, rmatS) :: J2
theorem JMt_ok : JOk Try.prog JMt := J2_ok.cons (entersB_res (by kernel_rfl)).1 rmatS_ok
def ERM : Env := withJ (tabE B0) JMt
theorem ERM_ok : EnvOk Try.prog ERM := withJ_ok mixed (tabE_ok B0_ok) JMt_ok
set_option maxRecDepth 100000 in
theorem tr_amat (bs : List Int) (l c : Nat) (p : Int) : bodyM Try.prog ERM (runM Try.prog ERM 30 12) 30 49 [.pointer (some ⟨1, 0, none⟩)] (memR bs l c p none) .fin = .need (rdK bs l p) (.need (rdC bs l (rmP bs l p)) (brT (pickI bs l (rmP bs l p) 14 == 0) (.need (rdC bs l (rmP bs l p + (1 : Int))) (.need ((1 : Nat) ≤ (3 : Nat) ∧ (3 : Nat) ≤ (3 : Nat) ∧ (3 : Nat) = (3 : Nat)) (.fin (.agg #[.int .i64 (oneI bs l (rmP bs l p + 1) 3 [1001, -1001, 1000]), .int .i64 (rmE bs l p 1), .int .i64 (rmE bs l p 2), .int .i64 (rmE bs l p 3)]) [some ⟨.view, .bytes (bs)⟩, some ⟨.box, .vals [.slice (some ⟨0, 0, none⟩) (l) (c), .int .i64 (rmP bs l p + 1 + 1)]⟩, some ⟨.box, .vals [.int .i64 (oneI bs l (rmP bs l p + 1) 3 [1001, -1001, 1000]), .int .i64 (rmE bs l p 1), .int .i64 (rmE bs l p 2), .int .i64 (rmE bs l p 3)]⟩, some ⟨.box, .vals [.int .i64 (oneI bs l (rmP bs l p + 1) 3 [1001, -1001, 1000]), .int .i64 (rmE bs l p 1), .int .i64 (rmE bs l p 2), .int .i64 (rmE bs l p 3)]⟩, some ⟨.row 3 1, .vals [.int .i64 (1001), .int .i64 (-1001), .int .i64 (1000)]⟩]))) (brT (pickI bs l (rmP bs l p) 14 == 1) (.need (rdC bs l (rmP bs l p + (1 : Int))) (.need ((1 : Nat) ≤ (3 : Nat) ∧ (3 : Nat) ≤ (3 : Nat) ∧ (3 : Nat) = (3 : Nat)) (.fin (.agg #[.int .i64 (rmE bs l p 0), .int .i64 (rmE bs l p 1), .int .i64 (rmE bs l p 2), .int .i64 (oneI bs l (rmP bs l p + 1) 3 [1001, -1001, 1000])]) [some ⟨.view, .bytes (bs)⟩, some ⟨.box, .vals [.slice (some ⟨0, 0, none⟩) (l) (c), .int .i64 (rmP bs l p + 1 + 1)]⟩, some ⟨.box, .vals [.int .i64 (rmE bs l p 0), .int .i64 (rmE bs l p 1), .int .i64 (rmE bs l p 2), .int .i64 (oneI bs l (rmP bs l p + 1) 3 [1001, -1001, 1000])]⟩, some ⟨.box, .vals [.int .i64 (rmE bs l p 0), .int .i64 (rmE bs l p 1), .int .i64 (rmE bs l p 2), .int .i64 (oneI bs l (rmP bs l p + 1) 3 [1001, -1001, 1000])]⟩, some ⟨.row 3 1, .vals [.int .i64 (1001), .int .i64 (-1001), .int .i64 (1000)]⟩]))) (.fin (.agg #[.int .i64 (rmE bs l p 0), .int .i64 (rmE bs l p 1), .int .i64 (rmE bs l p 2), .int .i64 (rmE bs l p 3)]) [some ⟨.view, .bytes (bs)⟩, some ⟨.box, .vals [.slice (some ⟨0, 0, none⟩) (l) (c), .int .i64 (rmP bs l p + 1)]⟩, some ⟨.box, .vals [.int .i64 (rmE bs l p 0), .int .i64 (rmE bs l p 1), .int .i64 (rmE bs l p 2), .int .i64 (rmE bs l p 3)]⟩, some ⟨.box, .vals [.int .i64 (rmE bs l p 0), .int .i64 (rmE bs l p 1), .int .i64 (rmE bs l p 2), .int .i64 (rmE bs l p 3)]⟩])))) := by kernel_rfl
def amL : List Int := [1001, -1001, 1000]
def amQ (bs : List Int) (l : Nat) (p : Int) : Int := pickI bs l (rmP bs l p) 14
/-- The entries of a drawn matrix. -/
def amE (bs : List Int) (l : Nat) (p : Int) : Nat → Int
  | 0 => if amQ bs l p = 0 then oneI bs l (rmP bs l p + 1) 3 amL else rmE bs l p 0
  | 1 => rmE bs l p 1
  | 2 => rmE bs l p 2
  | _ => if amQ bs l p = 1 then oneI bs l (rmP bs l p + 1) 3 amL else rmE bs l p 3
def amP (bs : List Int) (l : Nat) (p : Int) : Int := if amQ bs l p = 0 ∨ amQ bs l p = 1 then rmP bs l p + 2 else rmP bs l p + 1
theorem amP_bd (bs : List Int) (l : Nat) (p : Int) : p + 4 ≤ amP bs l p ∧ amP bs l p ≤ p + 7 := by
  have := rmP_bd bs l p
  unfold amP
  split <;> omega
def amatS : RSpec := fun bs l p rest ex => match rest, ex with
  | [], none => some (ag4 (amE bs l p 0) (amE bs l p 1) (amE bs l p 2) (amE bs l p 3), amP bs l p, [rdK bs l p])
  | _, _ => none
theorem amatS_ok : SpecOk Try.prog 49 amatS := by
  intro bs l c p rest0 ex v p' C h hC
  unfold amatS at h
  split at h
  rotate_left
  · cases h
  obtain ⟨rfl, rfl, rfl⟩ : ag4 (amE bs l p 0) (amE bs l p 1) (amE bs l p 2) (amE bs l p 3) = v ∧ amP bs l p = p' ∧ [rdK bs l p] = C := by simpa using h
  have h1 := hC.1
  refine ⟨ERM, 30, 12, ERM_ok, rfl, ?_⟩
  rw [tr_amat]
  have hb := rmP_bd bs l p
  have r0 := h1.at (q := rmP bs l p) (by omega) (by omega)
  have r1 := h1.at (q := rmP bs l p + 1) (by omega) (by omega)
  refine ⟨h1, r0, brT_ok.2 ⟨fun hq => ?_, fun hq => brT_ok.2 ⟨fun hq' => ?_, fun hq' => ?_⟩⟩⟩
  · have hq : amQ bs l p = 0 := by simpa [amQ] using hq
    exact ⟨r1, by decide, vq4 (by simp only [amE]; rw [if_pos hq]; rfl) rfl rfl (by simp only [amE]; rw [if_neg (by omega)]), box2 (by unfold amP; rw [if_pos (.inl hq)]; omega) _⟩
  · have hq : ¬ amQ bs l p = 0 := by simpa [amQ] using hq
    have hq' : amQ bs l p = 1 := by simpa [amQ] using hq'
    exact ⟨r1, by decide, vq4 (by simp only [amE]; rw [if_neg hq]) rfl rfl (by simp only [amE]; rw [if_pos hq']; rfl), box2 (by unfold amP; rw [if_pos (.inr hq')]; omega) _⟩
  · have hq : ¬ amQ bs l p = 0 := by simpa [amQ] using hq
    have hq' : ¬ amQ bs l p = 1 := by simpa [amQ] using hq'
    exact ⟨vq4 (by simp only [amE]; rw [if_neg hq]) rfl rfl (by simp only [amE]; rw [if_neg hq']), box2 (by unfold amP; rw [if_neg (by omega)]) _⟩
def JMt2 : List (FuncId × RSpec) := (49, amatS) :: JMt
theorem JMt2_ok : JOk Try.prog JMt2 := JMt_ok.cons (entersB_res (by kernel_rfl)).1 amatS_ok
def ERM2 : Env := withJ (tabE B0) JMt2
theorem ERM2_ok : EnvOk Try.prog ERM2 := withJ_ok mixed (tabE_ok B0_ok) JMt2_ok
set_option maxRecDepth 100000 in
theorem tr_dCm (bs : List Int) (n : Nat) : bodyV Try.prog ERM2 30 12 26 [.row n (.bytes bs)] = brT (decide (2000 < (↑n : Int))) (.need ((0 : Int) ≤ bndI none (0 : Int) ∧ bndI none (0 : Int) ≤ bndI (some (IntKind.i64, (2000 : Int))) (↑n : Int) ∧ bndI (some (IntKind.i64, (2000 : Int))) (↑n : Int) ≤ (↑n : Int)) (.need (rdK bs (2000 : Nat) (0 : Int)) (.need (rdK bs (2000 : Nat) (amP bs (2000 : Nat) (0 : Int))) (.fin (.tuple #[.agg #[.int .i64 (amE bs 2000 0 0), .int .i64 (amE bs 2000 0 1), .int .i64 (amE bs 2000 0 2), .int .i64 (amE bs 2000 0 3)], .agg #[.int .i64 (amE bs 2000 (amP bs 2000 0) 0), .int .i64 (amE bs 2000 (amP bs 2000 0) 1), .int .i64 (amE bs 2000 (amP bs 2000 0) 2), .int .i64 (amE bs 2000 (amP bs 2000 0) 3)]]) [])))) (.need (rdK bs n (0 : Int)) (.need (rdK bs n (amP bs n (0 : Int))) (.fin (.tuple #[.agg #[.int .i64 (amE bs n 0 0), .int .i64 (amE bs n 0 1), .int .i64 (amE bs n 0 2), .int .i64 (amE bs n 0 3)], .agg #[.int .i64 (amE bs n (amP bs n 0) 0), .int .i64 (amE bs n (amP bs n 0) 1), .int .i64 (amE bs n (amP bs n 0) 2), .int .i64 (amE bs n (amP bs n 0) 3)]]) []))) := by kernel_rfl
set_option maxRecDepth 100000 in
theorem tr_dIv (bs : List Int) (n : Nat) : bodyV Try.prog ERM2 30 12 29 [.row n (.bytes bs)] = brT (decide (2000 < (↑n : Int))) (.need ((0 : Int) ≤ bndI none (0 : Int) ∧ bndI none (0 : Int) ≤ bndI (some (IntKind.i64, (2000 : Int))) (↑n : Int) ∧ bndI (some (IntKind.i64, (2000 : Int))) (↑n : Int) ≤ (↑n : Int)) (.need (rdK bs (2000 : Nat) (0 : Int)) (.fin (.agg #[.int .i64 (amE bs 2000 0 0), .int .i64 (amE bs 2000 0 1), .int .i64 (amE bs 2000 0 2), .int .i64 (amE bs 2000 0 3)]) []))) (.need (rdK bs n (0 : Int)) (.fin (.agg #[.int .i64 (amE bs n 0 0), .int .i64 (amE bs n 0 1), .int .i64 (amE bs n 0 2), .int .i64 (amE bs n 0 3)]) [])) := by kernel_rfl
def TDm : Tab := fun f ds => match f with
  | 52 => pThree ds
  | _ => none
set_option maxRecDepth 100000 in
theorem tr_dMh (bs : List Int) (n : Nat) : bodyV Try.prog (tabE TDm) 30 12 30 [.row n (.bytes bs)] = .need (Bytes (List.drop (0 : Nat) bs)) (.need (n ≤ (List.drop (0 : Nat) bs).length) (.fin (.tuple #[.agg #[.int .i64 (d3 (List.drop 0 bs) n 0), .int .i64 (d3 (List.drop 0 bs) n 1)], .agg #[.int .i64 (d3 (List.drop 0 bs) n 2), .int .i64 (d3 (List.drop 0 bs) n 3)]]) [])) := by kernel_rfl
end Go.Proofs.Ytfjcbindeimoiaa
