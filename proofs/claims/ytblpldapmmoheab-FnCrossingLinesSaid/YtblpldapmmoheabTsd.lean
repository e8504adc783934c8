/-
  Two drawn segments: what is drawn. Written by an AI agent.
-/
import Derived.Test.YtblpldapmmoheabRdC
import Derived.Test.YtblpldapmmoheabTabB
import Derived.Test.YtblpldapmmoheabBc
namespace Go.Proofs.Ytblpldapmmoheab
set_option linter.all false
open Go.RowKit

set_option maxRecDepth 100000 in
theorem tr_aseg (bs : List Int) (l c : Nat) (p : Int) : bodyM Try.prog ER3 (runM Try.prog ER3 30 12) 30 93 [.pointer (some ⟨1, 0, none⟩)] (memR bs l c p none) .fin = .need (rdK bs l p) (.need (rdK bs l (apP bs l p)) (brT (negB false (apX bs l p == pickI bs l (apP bs l p) 9 - 2 && (apY bs l p == pickI bs l (apP bs l p + 1) 9 - 2 && true))) (.need (rdC bs l (apP bs l p + (2 : Int))) (brT (decide (0 < pickI bs l (apP bs l p + 2) 4)) (.fin (.agg #[.int .i64 (apX bs l p), .int .i64 (apY bs l p), .int .i64 (IntKind.i64.wrap (pickI bs l (apP bs l p) 9 - 2 + 1)), .int .i64 (pickI bs l (apP bs l p + 1) 9 - 2)]) [some ⟨.view, .bytes (bs)⟩, some ⟨.box, .vals [.slice (some ⟨0, 0, none⟩) (l) (c), .int .i64 (apP bs l p + 2 + 1)]⟩, some ⟨.box, .vals [.int .i64 (apX bs l p), .int .i64 (apY bs l p), .int .i64 (IntKind.i64.wrap (pickI bs l (apP bs l p) 9 - 2 + 1)), .int .i64 (pickI bs l (apP bs l p + 1) 9 - 2)]⟩, some ⟨.box, .vals [.int .i64 (apX bs l p), .int .i64 (apY bs l p), .int .i64 (IntKind.i64.wrap (pickI bs l (apP bs l p) 9 - 2 + 1)), .int .i64 (pickI bs l (apP bs l p + 1) 9 - 2)]⟩]) (.fin (.agg #[.int .i64 (apX bs l p), .int .i64 (apY bs l p), .int .i64 (pickI bs l (apP bs l p) 9 - 2), .int .i64 (pickI bs l (apP bs l p + 1) 9 - 2)]) [some ⟨.view, .bytes (bs)⟩, some ⟨.box, .vals [.slice (some ⟨0, 0, none⟩) (l) (c), .int .i64 (apP bs l p + 2 + 1)]⟩, some ⟨.box, .vals [.int .i64 (apX bs l p), .int .i64 (apY bs l p), .int .i64 (pickI bs l (apP bs l p) 9 - 2), .int .i64 (pickI bs l (apP bs l p + 1) 9 - 2)]⟩, some ⟨.box, .vals [.int .i64 (apX bs l p), .int .i64 (apY bs l p), .int .i64 (pickI bs l (apP bs l p) 9 - 2), .int .i64 (pickI bs l (apP bs l p + 1) 9 - 2)]⟩]))) (.fin (.agg #[.int .i64 (apX bs l p), .int .i64 (apY bs l p), .int .i64 (pickI bs l (apP bs l p) 9 - 2), .int .i64 (pickI bs l (apP bs l p + 1) 9 - 2)]) [some ⟨.view, .bytes (bs)⟩, some ⟨.box, .vals [.slice (some ⟨0, 0, none⟩) (l) (c), .int .i64 (apP bs l p + 2)]⟩, some ⟨.box, .vals [.int .i64 (apX bs l p), .int .i64 (apY bs l p), .int .i64 (pickI bs l (apP bs l p) 9 - 2), .int .i64 (pickI bs l (apP bs l p + 1) 9 - 2)]⟩, some ⟨.box, .vals [.int .i64 (apX bs l p), .int .i64 (apY bs l p), .int .i64 (pickI bs l (apP bs l p) 9 - 2), .int .i64 (pickI bs l (apP bs l p + 1) 9 - 2)]⟩]))) := by kernel_rfl
def asQ (bs : List Int) (l : Nat) (p : Int) : Prop := apX bs l p = pickI bs l (apP bs l p) 9 - 2 ∧ apY bs l p = pickI bs l (apP bs l p + 1) 9 - 2
instance (bs : List Int) (l : Nat) (p : Int) : Decidable (asQ bs l p) := inferInstanceAs (Decidable (_ ∧ _))
def asX (bs : List Int) (l : Nat) (p : Int) : Int := if asQ bs l p ∧ 0 < pickI bs l (apP bs l p + 2) 4 then pickI bs l (apP bs l p) 9 - 2 + 1 else pickI bs l (apP bs l p) 9 - 2
def asY (bs : List Int) (l : Nat) (p : Int) : Int := pickI bs l (apP bs l p + 1) 9 - 2
def asP (bs : List Int) (l : Nat) (p : Int) : Int := if asQ bs l p then apP bs l p + 3 else apP bs l p + 2
theorem asP_bd (bs : List Int) (l : Nat) (p : Int) : p + 5 ≤ asP bs l p ∧ asP bs l p ≤ p + 7 := by have := apP_bd bs l p; unfold asP; split <;> omega
def asegS : RSpec := fun bs l p rest ex => match rest, ex with
  | [], none => some (.agg #[.int .i64 (apX bs l p), .int .i64 (apY bs l p), .int .i64 (asX bs l p), .int .i64 (asY bs l p)], asP bs l p, [rdK bs l p, rdK bs l (apP bs l p)])
  | _, _ => none
theorem veq4 {a b c c' d d' : Int} (h : c = c') (k : d = d') : Value.agg #[.int .i64 a, .int .i64 b, .int .i64 c, .int .i64 d] = .agg #[.int .i64 a, .int .i64 b, .int .i64 c', .int .i64 d'] := by rw [h, k]
theorem asegS_ok : SpecOk Try.prog 93 asegS := by
  intro bs l c p rest0 ex v p' C h hC
  unfold asegS at h
  split at h
  rotate_left
  · cases h
  obtain ⟨rfl, rfl, rfl⟩ : Value.agg #[.int .i64 (apX bs l p), .int .i64 (apY bs l p), .int .i64 (asX bs l p), .int .i64 (asY bs l p)] = v ∧ asP bs l p = p' ∧ [rdK bs l p, rdK bs l (apP bs l p)] = C := by simpa using h
  obtain ⟨h1, h2, _⟩ := hC
  refine ⟨ER3, 30, 12, ER3_ok, rfl, ?_⟩
  rw [tr_aseg]
  have r1 := h2.at (q := apP bs l p) (by omega) (by omega)
  have r3 := h2.at (q := apP bs l p + 2) (by omega) (by omega)
  have b1 := pickI_bd (k := 9) r1 (by omega)
  have w : IntKind.i64.wrap (pickI bs l (apP bs l p) 9 - 2 + 1) = pickI bs l (apP bs l p) 9 - 2 + 1 := wr (by omega)
  have en : negB false (apX bs l p == pickI bs l (apP bs l p) 9 - 2 && (apY bs l p == pickI bs l (apP bs l p + 1) 9 - 2 && true)) = decide (asQ bs l p) := by
    show (apX bs l p == pickI bs l (apP bs l p) 9 - 2 && (apY bs l p == pickI bs l (apP bs l p + 1) 9 - 2 && true)) = decide (asQ bs l p)
    exact Bool.eq_iff_iff.2 ⟨fun h => decide_eq_true (by simpa [asQ] using h), fun h => by
      have := of_decide_eq_true h
      simpa [asQ] using this⟩
  rw [en, w]
  refine ⟨h1, h2, brT_ok.2 ⟨fun hq => ⟨r3, brT_ok.2 ⟨fun hz => ?_, fun hz => ?_⟩⟩, fun hq => ?_⟩⟩
  · have hq := of_decide_eq_true hq
    have hz := of_decide_eq_true hz
    exact ⟨veq4 (by unfold asX; rw [if_pos ⟨hq, hz⟩]) rfl, box2 (by unfold asP; rw [if_pos hq]; omega) _⟩
  · have hq := of_decide_eq_true hq
    have hz := of_decide_eq_false hz
    exact ⟨veq4 (by unfold asX; rw [if_neg (fun h => hz h.2)]) rfl, box2 (by unfold asP; rw [if_pos hq]; omega) _⟩
  · have hq := of_decide_eq_false hq
    exact ⟨veq4 (by unfold asX; rw [if_neg (fun h => hq h.1)]) rfl, box2 (by unfold asP; rw [if_neg hq]) _⟩
set_option maxRecDepth 100000 in
theorem tr_rpts (bs : List Int) (l c : Nat) (p x y z w : Int) : bodyM Try.prog ER3 (runM Try.prog ER3 30 12) 30 135 [.pointer (some ⟨1, 0, none⟩), .agg #[.int .i64 x, .int .i64 y, .int .i64 z, .int .i64 w]] (memR bs l c p none) .fin = .need (rdC bs l p) (brT (pickI bs l p 2 == 0) (.fin (.agg #[.int .i64 (x), .int .i64 (y)]) [some ⟨.view, .bytes (bs)⟩, some ⟨.box, .vals [.slice (some ⟨0, 0, none⟩) (l) (c), .int .i64 (p + 1)]⟩, some ⟨.box, .vals [.int .i64 (x), .int .i64 (y), .int .i64 (z), .int .i64 (w)]⟩, some ⟨.box, .vals [.int .i64 (x), .int .i64 (y)]⟩]) (.fin (.agg #[.int .i64 (z), .int .i64 (w)]) [some ⟨.view, .bytes (bs)⟩, some ⟨.box, .vals [.slice (some ⟨0, 0, none⟩) (l) (c), .int .i64 (p + 1)]⟩, some ⟨.box, .vals [.int .i64 (x), .int .i64 (y), .int .i64 (z), .int .i64 (w)]⟩, some ⟨.box, .vals [.int .i64 (z), .int .i64 (w)]⟩])) := by kernel_rfl
/-- An end of a segment. -/
def enS : RSpec := fun bs l p rest ex => match rest, ex with
  | [.agg ⟨[.int .i64 x, .int .i64 y, .int .i64 z, .int .i64 w]⟩], none => some (.agg #[.int .i64 (if pickI bs l p 2 = 0 then x else z), .int .i64 (if pickI bs l p 2 = 0 then y else w)], p + 1, [rdC bs l p])
  | _, _ => none
theorem enS_ok : SpecOk Try.prog 135 enS := by
  intro bs l c p rest0 ex v p' C h hC
  unfold enS at h
  split at h
  rotate_left
  · cases h
  rename_i x y z w
  obtain ⟨rfl, rfl, rfl⟩ : Value.agg #[.int .i64 (if pickI bs l p 2 = 0 then x else z), .int .i64 (if pickI bs l p 2 = 0 then y else w)] = v ∧ p + 1 = p' ∧ [rdC bs l p] = C := by simpa using h
  have h1 := hC.1
  refine ⟨ER3, 30, 12, ER3_ok, rfl, ?_⟩
  rw [tr_rpts]
  refine ⟨h1, brT_ok.2 ⟨fun hq => ?_, fun hq => ?_⟩⟩
  · have hq : pickI bs l p 2 = 0 := by simpa using hq
    exact ⟨veq2 (by rw [if_pos hq]) (by rw [if_pos hq]), rfl⟩
  · have hq : ¬ pickI bs l p 2 = 0 := by simpa using hq
    exact ⟨veq2 (by rw [if_neg hq]) (by rw [if_neg hq]), rfl⟩
def JTs : List (FuncId × RSpec) := (135, enS) :: (93, asegS) :: J3
theorem JTs_ok : JOk Try.prog JTs := (J3_ok.cons (entersB_res (by kernel_rfl)).1 asegS_ok).cons (entersB_res (by kernel_rfl)).1 enS_ok
def ETs : Env := withJ (tabE T1) JTs
theorem ETs_ok : EnvOk Try.prog ETs := withJ_ok mixed (tabE_ok T1_ok) JTs_ok
set_option maxRecDepth 100000 in
theorem tr_twoS (bs : List Int) (n : Nat) : bodyX Try.prog ETs 30 12 80 [.row n (.bytes bs)] = brT (decide (2000 < (↑n : Int))) (.need ((0 : Int) ≤ bndI none (0 : Int) ∧ bndI none (0 : Int) ≤ bndI (some (IntKind.i64, (2000 : Int))) (↑n : Int) ∧ bndI (some (IntKind.i64, (2000 : Int))) (↑n : Int) ≤ (↑n : Int)) (.need (rdK bs (2000 : Nat) (0 : Int)) (.need (rdK bs (2000 : Nat) (apP bs (2000 : Nat) (0 : Int))) (.need (rdK bs (2000 : Nat) (asP bs (2000 : Nat) (0 : Int))) (.need (rdK bs (2000 : Nat) (apP bs (2000 : Nat) (asP bs (2000 : Nat) (0 : Int)))) (.need (rdC bs (2000 : Nat) (asP bs (2000 : Nat) (asP bs (2000 : Nat) (0 : Int)))) (brT (pickI bs 2000 (asP bs 2000 (asP bs 2000 0)) 5 == 0) (.fin (.tuple #[.agg #[.int .i64 (apX bs 2000 0), .int .i64 (apY bs 2000 0), .int .i64 (asX bs 2000 0), .int .i64 (asY bs 2000 0)], .agg #[.int .i64 (asX bs 2000 0), .int .i64 (asY bs 2000 0), .int .i64 (asX bs 2000 (asP bs 2000 0)), .int .i64 (asY bs 2000 (asP bs 2000 0))]]) [some ⟨.view, .bytes (bs)⟩, some ⟨.box, .vals [.int .i64 (apX bs 2000 0), .int .i64 (apY bs 2000 0), .int .i64 (asX bs 2000 0), .int .i64 (asY bs 2000 0)]⟩, some ⟨.box, .vals [.int .i64 (asX bs 2000 0), .int .i64 (asY bs 2000 0), .int .i64 (asX bs 2000 (asP bs 2000 0)), .int .i64 (asY bs 2000 (asP bs 2000 0))]⟩, some ⟨.box, .vals [.slice (some ⟨0, 0, none⟩) (2000) (2000), .int .i64 (asP bs 2000 (asP bs 2000 0) + 1)]⟩, some ⟨.box, .vals [.int .i64 (apX bs 2000 0), .int .i64 (apY bs 2000 0), .int .i64 (asX bs 2000 0), .int .i64 (asY bs 2000 0)]⟩, some ⟨.box, .vals [.int .i64 (asX bs 2000 0), .int .i64 (asY bs 2000 0), .int .i64 (asX bs 2000 (asP bs 2000 0)), .int .i64 (asY bs 2000 (asP bs 2000 0))]⟩]) (brT (pickI bs 2000 (asP bs 2000 (asP bs 2000 0)) 5 == 1) (.need (rdC bs (2000 : Nat) (asP bs (2000 : Nat) (asP bs (2000 : Nat) (0 : Int)) + (1 : Int))) (.fin (.tuple #[.agg #[.int .i64 (apX bs 2000 0), .int .i64 (apY bs 2000 0), .int .i64 (asX bs 2000 0), .int .i64 (asY bs 2000 0)], .agg #[.int .i64 (IntKind.i64.wrap (IntKind.i64.wrap (2 * asX bs 2000 0) - apX bs 2000 0)), .int .i64 (IntKind.i64.wrap (IntKind.i64.wrap (2 * asY bs 2000 0) - apY bs 2000 0)), .int .i64 (if pickI bs 2000 (asP bs 2000 (asP bs 2000 0) + 1) 2 = 0 then apX bs 2000 0 else asX bs 2000 0), .int .i64 (if pickI bs 2000 (asP bs 2000 (asP bs 2000 0) + 1) 2 = 0 then apY bs 2000 0 else asY bs 2000 0)]]) [some ⟨.view, .bytes (bs)⟩, some ⟨.box, .vals [.int .i64 (apX bs 2000 0), .int .i64 (apY bs 2000 0), .int .i64 (asX bs 2000 0), .int .i64 (asY bs 2000 0)]⟩, some ⟨.box, .vals [.int .i64 (IntKind.i64.wrap (IntKind.i64.wrap (2 * asX bs 2000 0) - apX bs 2000 0)), .int .i64 (IntKind.i64.wrap (IntKind.i64.wrap (2 * asY bs 2000 0) - apY bs 2000 0)), .int .i64 (if pickI bs 2000 (asP bs 2000 (asP bs 2000 0) + 1) 2 = 0 then apX bs 2000 0 else asX bs 2000 0), .int .i64 (if pickI bs 2000 (asP bs 2000 (asP bs 2000 0) + 1) 2 = 0 then apY bs 2000 0 else asY bs 2000 0)]⟩, some ⟨.box, .vals [.slice (some ⟨0, 0, none⟩) (2000) (2000), .int .i64 (asP bs 2000 (asP bs 2000 0) + 1 + 1)]⟩, some ⟨.box, .vals [.int .i64 (apX bs 2000 0), .int .i64 (apY bs 2000 0), .int .i64 (asX bs 2000 0), .int .i64 (asY bs 2000 0)]⟩, some ⟨.box, .vals [.int .i64 (IntKind.i64.wrap (IntKind.i64.wrap (2 * asX bs 2000 0) - apX bs 2000 0)), .int .i64 (IntKind.i64.wrap (IntKind.i64.wrap (2 * asY bs 2000 0) - apY bs 2000 0)), .int .i64 (if pickI bs 2000 (asP bs 2000 (asP bs 2000 0) + 1) 2 = 0 then apX bs 2000 0 else asX bs 2000 0), .int .i64 (if pickI bs 2000 (asP bs 2000 (asP bs 2000 0) + 1) 2 = 0 then apY bs 2000 0 else asY bs 2000 0)]⟩, none])) (.fin (.tuple #[.agg #[.int .i64 (apX bs 2000 0), .int .i64 (apY bs 2000 0), .int .i64 (asX bs 2000 0), .int .i64 (asY bs 2000 0)], .agg #[.int .i64 (apX bs 2000 (asP bs 2000 0)), .int .i64 (apY bs 2000 (asP bs 2000 0)), .int .i64 (asX bs 2000 (asP bs 2000 0)), .int .i64 (asY bs 2000 (asP bs 2000 0))]]) [some ⟨.view, .bytes (bs)⟩, some ⟨.box, .vals [.int .i64 (apX bs 2000 0), .int .i64 (apY bs 2000 0), .int .i64 (asX bs 2000 0), .int .i64 (asY bs 2000 0)]⟩, some ⟨.box, .vals [.int .i64 (apX bs 2000 (asP bs 2000 0)), .int .i64 (apY bs 2000 (asP bs 2000 0)), .int .i64 (asX bs 2000 (asP bs 2000 0)), .int .i64 (asY bs 2000 (asP bs 2000 0))]⟩, some ⟨.box, .vals [.slice (some ⟨0, 0, none⟩) (2000) (2000), .int .i64 (asP bs 2000 (asP bs 2000 0) + 1)]⟩, some ⟨.box, .vals [.int .i64 (apX bs 2000 0), .int .i64 (apY bs 2000 0), .int .i64 (asX bs 2000 0), .int .i64 (asY bs 2000 0)]⟩, some ⟨.box, .vals [.int .i64 (apX bs 2000 (asP bs 2000 0)), .int .i64 (apY bs 2000 (asP bs 2000 0)), .int .i64 (asX bs 2000 (asP bs 2000 0)), .int .i64 (asY bs 2000 (asP bs 2000 0))]⟩]))))))))) (.need (rdK bs n (0 : Int)) (.need (rdK bs n (apP bs n (0 : Int))) (.need (rdK bs n (asP bs n (0 : Int))) (.need (rdK bs n (apP bs n (asP bs n (0 : Int)))) (.need (rdC bs n (asP bs n (asP bs n (0 : Int)))) (brT (pickI bs n (asP bs n (asP bs n 0)) 5 == 0) (.fin (.tuple #[.agg #[.int .i64 (apX bs n 0), .int .i64 (apY bs n 0), .int .i64 (asX bs n 0), .int .i64 (asY bs n 0)], .agg #[.int .i64 (asX bs n 0), .int .i64 (asY bs n 0), .int .i64 (asX bs n (asP bs n 0)), .int .i64 (asY bs n (asP bs n 0))]]) [some ⟨.view, .bytes (bs)⟩, some ⟨.box, .vals [.int .i64 (apX bs n 0), .int .i64 (apY bs n 0), .int .i64 (asX bs n 0), .int .i64 (asY bs n 0)]⟩, some ⟨.box, .vals [.int .i64 (asX bs n 0), .int .i64 (asY bs n 0), .int .i64 (asX bs n (asP bs n 0)), .int .i64 (asY bs n (asP bs n 0))]⟩, some ⟨.box, .vals [.slice (some ⟨0, 0, none⟩) (n) (n), .int .i64 (asP bs n (asP bs n 0) + 1)]⟩, some ⟨.box, .vals [.int .i64 (apX bs n 0), .int .i64 (apY bs n 0), .int .i64 (asX bs n 0), .int .i64 (asY bs n 0)]⟩, some ⟨.box, .vals [.int .i64 (asX bs n 0), .int .i64 (asY bs n 0), .int .i64 (asX bs n (asP bs n 0)), .int .i64 (asY bs n (asP bs n 0))]⟩]) (brT (pickI bs n (asP bs n (asP bs n 0)) 5 == 1) (.need (rdC bs n (asP bs n (asP bs n (0 : Int)) + (1 : Int))) (.fin (.tuple #[.agg #[.int .i64 (apX bs n 0), .int .i64 (apY bs n 0), .int .i64 (asX bs n 0), .int .i64 (asY bs n 0)], .agg #[.int .i64 (IntKind.i64.wrap (IntKind.i64.wrap (2 * asX bs n 0) - apX bs n 0)), .int .i64 (IntKind.i64.wrap (IntKind.i64.wrap (2 * asY bs n 0) - apY bs n 0)), .int .i64 (if pickI bs n (asP bs n (asP bs n 0) + 1) 2 = 0 then apX bs n 0 else asX bs n 0), .int .i64 (if pickI bs n (asP bs n (asP bs n 0) + 1) 2 = 0 then apY bs n 0 else asY bs n 0)]]) [some ⟨.view, .bytes (bs)⟩, some ⟨.box, .vals [.int .i64 (apX bs n 0), .int .i64 (apY bs n 0), .int .i64 (asX bs n 0), .int .i64 (asY bs n 0)]⟩, some ⟨.box, .vals [.int .i64 (IntKind.i64.wrap (IntKind.i64.wrap (2 * asX bs n 0) - apX bs n 0)), .int .i64 (IntKind.i64.wrap (IntKind.i64.wrap (2 * asY bs n 0) - apY bs n 0)), .int .i64 (if pickI bs n (asP bs n (asP bs n 0) + 1) 2 = 0 then apX bs n 0 else asX bs n 0), .int .i64 (if pickI bs n (asP bs n (asP bs n 0) + 1) 2 = 0 then apY bs n 0 else asY bs n 0)]⟩, some ⟨.box, .vals [.slice (some ⟨0, 0, none⟩) (n) (n), .int .i64 (asP bs n (asP bs n 0) + 1 + 1)]⟩, some ⟨.box, .vals [.int .i64 (apX bs n 0), .int .i64 (apY bs n 0), .int .i64 (asX bs n 0), .int .i64 (asY bs n 0)]⟩, some ⟨.box, .vals [.int .i64 (IntKind.i64.wrap (IntKind.i64.wrap (2 * asX bs n 0) - apX bs n 0)), .int .i64 (IntKind.i64.wrap (IntKind.i64.wrap (2 * asY bs n 0) - apY bs n 0)), .int .i64 (if pickI bs n (asP bs n (asP bs n 0) + 1) 2 = 0 then apX bs n 0 else asX bs n 0), .int .i64 (if pickI bs n (asP bs n (asP bs n 0) + 1) 2 = 0 then apY bs n 0 else asY bs n 0)]⟩, none])) (.fin (.tuple #[.agg #[.int .i64 (apX bs n 0), .int .i64 (apY bs n 0), .int .i64 (asX bs n 0), .int .i64 (asY bs n 0)], .agg #[.int .i64 (apX bs n (asP bs n 0)), .int .i64 (apY bs n (asP bs n 0)), .int .i64 (asX bs n (asP bs n 0)), .int .i64 (asY bs n (asP bs n 0))]]) [some ⟨.view, .bytes (bs)⟩, some ⟨.box, .vals [.int .i64 (apX bs n 0), .int .i64 (apY bs n 0), .int .i64 (asX bs n 0), .int .i64 (asY bs n 0)]⟩, some ⟨.box, .vals [.int .i64 (apX bs n (asP bs n 0)), .int .i64 (apY bs n (asP bs n 0)), .int .i64 (asX bs n (asP bs n 0)), .int .i64 (asY bs n (asP bs n 0))]⟩, some ⟨.box, .vals [.slice (some ⟨0, 0, none⟩) (n) (n), .int .i64 (asP bs n (asP bs n 0) + 1)]⟩, some ⟨.box, .vals [.int .i64 (apX bs n 0), .int .i64 (apY bs n 0), .int .i64 (asX bs n 0), .int .i64 (asY bs n 0)]⟩, some ⟨.box, .vals [.int .i64 (apX bs n (asP bs n 0)), .int .i64 (apY bs n (asP bs n 0)), .int .i64 (asX bs n (asP bs n 0)), .int .i64 (asY bs n (asP bs n 0))]⟩])))))))) := by kernel_rfl
def tsP (bs : List Int) (l : Nat) : Int := asP bs l 0
def tsQ (bs : List Int) (l : Nat) : Int := pickI bs l (asP bs l (asP bs l 0)) 5
def tsH (bs : List Int) (l : Nat) : Int := pickI bs l (asP bs l (asP bs l 0) + 1) 2
/-- The second of two drawn segments. -/
def tsV (bs : List Int) (l : Nat) : Nat → Int
  | 0 => if tsQ bs l = 0 then asX bs l 0 else if tsQ bs l = 1 then IntKind.i64.wrap (IntKind.i64.wrap (2 * asX bs l 0) - apX bs l 0) else apX bs l (asP bs l 0)
  | 1 => if tsQ bs l = 0 then asY bs l 0 else if tsQ bs l = 1 then IntKind.i64.wrap (IntKind.i64.wrap (2 * asY bs l 0) - apY bs l 0) else apY bs l (asP bs l 0)
  | 2 => if tsQ bs l = 1 then (if tsH bs l = 0 then apX bs l 0 else asX bs l 0) else asX bs l (asP bs l 0)
  | _ => if tsQ bs l = 1 then (if tsH bs l = 0 then apY bs l 0 else asY bs l 0) else asY bs l (asP bs l 0)
def twoV (bs : List Int) (l : Nat) : Value := .tuple #[.agg #[.int .i64 (apX bs l 0), .int .i64 (apY bs l 0), .int .i64 (asX bs l 0), .int .i64 (asY bs l 0)], .agg #[.int .i64 (tsV bs l 0), .int .i64 (tsV bs l 1), .int .i64 (tsV bs l 2), .int .i64 (tsV bs l 3)]]
theorem res_twoS (bs : List Int) (n : Nat) (hb : Bytes bs) (hn : n ≤ bs.length) : Res Try.prog 80 [.row n (.bytes bs)] (twoV bs (rdL n)) := by
  refine bodyX_res mixed ETs_ok (m := 30) (n := 12) rfl ?_
  rw [tr_twoS]
  have key : ∀ l, l ≤ n → l ≤ 2000 → rdK bs l 0 ∧ rdK bs l (apP bs l 0) ∧ rdK bs l (asP bs l 0) ∧ rdK bs l (apP bs l (asP bs l 0)) ∧ rdC bs l (asP bs l (asP bs l 0)) ∧ rdC bs l (asP bs l (asP bs l 0) + 1) := fun l h1 h2 => by
    have b1 := asP_bd bs l 0
    have b2 := asP_bd bs l (asP bs l 0)
    have b3 := apP_bd bs l 0
    have b4 := apP_bd bs l (asP bs l 0)
    exact ⟨rdK0 hb hn h1 h2 (by omega) (by omega), rdK0 hb hn h1 h2 (by omega) (by omega), rdK0 hb hn h1 h2 (by omega) (by omega), rdK0 hb hn h1 h2 (by omega) (by omega), (rdK0 hb hn h1 h2 (by omega) (by omega)).1, (rdK0 hb hn h1 h2 (by omega) (by omega)).1⟩
  have fin : ∀ l, (tsQ bs l = 0 → twoV bs l = .tuple #[.agg #[.int .i64 (apX bs l 0), .int .i64 (apY bs l 0), .int .i64 (asX bs l 0), .int .i64 (asY bs l 0)], .agg #[.int .i64 (asX bs l 0), .int .i64 (asY bs l 0), .int .i64 (asX bs l (asP bs l 0)), .int .i64 (asY bs l (asP bs l 0))]])
      ∧ (tsQ bs l = 1 → twoV bs l = .tuple #[.agg #[.int .i64 (apX bs l 0), .int .i64 (apY bs l 0), .int .i64 (asX bs l 0), .int .i64 (asY bs l 0)], .agg #[.int .i64 (IntKind.i64.wrap (IntKind.i64.wrap (2 * asX bs l 0) - apX bs l 0)), .int .i64 (IntKind.i64.wrap (IntKind.i64.wrap (2 * asY bs l 0) - apY bs l 0)), .int .i64 (if tsH bs l = 0 then apX bs l 0 else asX bs l 0), .int .i64 (if tsH bs l = 0 then apY bs l 0 else asY bs l 0)]])
      ∧ (¬ tsQ bs l = 0 → ¬ tsQ bs l = 1 → twoV bs l = .tuple #[.agg #[.int .i64 (apX bs l 0), .int .i64 (apY bs l 0), .int .i64 (asX bs l 0), .int .i64 (asY bs l 0)], .agg #[.int .i64 (apX bs l (asP bs l 0)), .int .i64 (apY bs l (asP bs l 0)), .int .i64 (asX bs l (asP bs l 0)), .int .i64 (asY bs l (asP bs l 0))]]) := fun l => by
    refine ⟨fun h => ?_, fun h => ?_, fun h h2 => ?_⟩
    · unfold twoV tsV
      simp [h]
    · unfold twoV tsV
      simp [h]
    · unfold twoV tsV
      simp [h, h2]
  refine brT_ok.2 ⟨fun h => ?_, fun h => ?_⟩
  · have h := of_decide_eq_true h
    obtain ⟨k1, k2, k3, k4, k5, k6⟩ := key 2000 (by omega) (by omega)
    obtain ⟨f1, f2, f3⟩ := fin 2000
    rw [rdL_of h]
    refine ⟨bnd2000 h, k1, k2, k3, k4, k5, brT_ok.2 ⟨fun q => ?_, fun q => brT_ok.2 ⟨fun q2 => ⟨k6, ?_⟩, fun q2 => ?_⟩⟩⟩
    · exact (f1 (eq_of_beq q)).symm
    · exact (f2 (eq_of_beq q2)).symm
    · exact (f3 (by simpa [tsQ] using q) (by simpa [tsQ] using q2)).symm
  · have h := of_decide_eq_false h
    obtain ⟨k1, k2, k3, k4, k5, k6⟩ := key n (by omega) (by omega)
    obtain ⟨f1, f2, f3⟩ := fin n
    rw [rdL_no h]
    refine ⟨k1, k2, k3, k4, k5, brT_ok.2 ⟨fun q => ?_, fun q => brT_ok.2 ⟨fun q2 => ⟨k6, ?_⟩, fun q2 => ?_⟩⟩⟩
    · exact (f1 (eq_of_beq q)).symm
    · exact (f2 (eq_of_beq q2)).symm
    · exact (f3 (by simpa [tsQ] using q) (by simpa [tsQ] using q2)).symm
def pTwoS : List DArg → Option (Value × List Prop)
  | [.row n (.bytes bs)] => some (twoV bs (rdL n), [Bytes bs, n ≤ bs.length])
  | _ => none
theorem pTwoS_ok {ds : List DArg} {v : Value} {C : List Prop} (h : pTwoS ds = some (v, C)) (hC : AllP C) : Res Try.prog 80 ds v := by
  unfold pTwoS at h
  split at h
  · obtain ⟨rfl, rfl⟩ : _ ∧ _ := by simpa using h
    exact res_twoS _ _ hC.1 hC.2.1
  · cases h
end Go.Proofs.Ytblpldapmmoheab
