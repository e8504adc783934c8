/-
  Two drawn segments; the laws of Relation over them. Written by an AI agent.
-/
import Derived.Test.YtfbcbmckicmalaaRdC
import Derived.Test.YtfbcbmckicmalaaIsb
import Derived.Test.YtfbcbmckicmalaaBc
namespace Go.Proofs.Ytfbcbmckicmalaa
open Go.RowKit

set_option maxRecDepth 100000 in
theorem tr_aseg (bs : List Int) (l c : Nat) (p : Int) : bodyM Try.prog ER3 (runM Try.prog ER3 30 12) 30 104 [.pointer (some ⟨1, 0, none⟩)] (memR bs l c p none) .fin = .need (rdK bs l p) (.need (rdK bs l (apP bs l p)) (brT (negB false (apX bs l p == pickI bs l (apP bs l p) 9 - 2 && (apY bs l p == pickI bs l (apP bs l p + 1) 9 - 2 && true))) (.need (rdC bs l (apP bs l p + (2 : Int))) (brT (decide (0 < pickI bs l (apP bs l p + 2) 4)) (.fin (.agg #[.int .i64 (apX bs l p), .int .i64 (apY bs l p), .int .i64 (IntKind.i64.wrap (pickI bs l (apP bs l p) 9 - 2 + 1)), .int .i64 (pickI bs l (apP bs l p + 1) 9 - 2)]) [some ⟨.view, .bytes (bs)⟩, some ⟨.box, .vals [.slice (some ⟨0, 0, none⟩) (l) (c), .int .i64 (apP bs l p + 2 + 1)]⟩, some ⟨.box, .vals [.int .i64 (apX bs l p), .int .i64 (apY bs l p), .int .i64 (IntKind.i64.wrap (pickI bs l (apP bs l p) 9 - 2 + 1)), .int .i64 (pickI bs l (apP bs l p + 1) 9 - 2)]⟩, some ⟨.box, .vals [.int .i64 (apX bs l p), .int .i64 (apY bs l p), .int .i64 (IntKind.i64.wrap (pickI bs l (apP bs l p) 9 - 2 + 1)), .int .i64 (pickI bs l (apP bs l p + 1) 9 - 2)]⟩]) (.fin (.agg #[.int .i64 (apX bs l p), .int .i64 (apY bs l p), .int .i64 (pickI bs l (apP bs l p) 9 - 2), .int .i64 (pickI bs l (apP bs l p + 1) 9 - 2)]) [some ⟨.view, .bytes (bs)⟩, some ⟨.box, .vals [.slice (some ⟨0, 0, none⟩) (l) (c), .int .i64 (apP bs l p + 2 + 1)]⟩, some ⟨.box, .vals [.int .i64 (apX bs l p), .int .i64 (apY bs l p), .int .i64 (pickI bs l (apP bs l p) 9 - 2), .int .i64 (pickI bs l (apP bs l p + 1) 9 - 2)]⟩, some ⟨.box, .vals [.int .i64 (apX bs l p), .int .i64 (apY bs l p), .int .i64 (pickI bs l (apP bs l p) 9 - 2), .int .i64 (pickI bs l (apP bs l p + 1) 9 - 2)]⟩]))) (.fin (.agg #[.int .i64 (apX bs l p), .int .i64 (apY bs l p), .int .i64 (pickI bs l (apP bs l p) 9 - 2), .int .i64 (pickI bs l (apP bs l p + 1) 9 - 2)]) [some ⟨.view, .bytes (bs)⟩, some ⟨.box, .vals [.slice (some ⟨0, 0, none⟩) (l) (c), .int .i64 (apP bs l p + 2)]⟩, some ⟨.box, .vals [.int .i64 (apX bs l p), .int .i64 (apY bs l p), .int .i64 (pickI bs l (apP bs l p) 9 - 2), .int .i64 (pickI bs l (apP bs l p + 1) 9 - 2)]⟩, some ⟨.box, .vals [.int .i64 (apX bs l p), .int .i64 (apY bs l p), .int .i64 (pickI bs l (apP bs l p) 9 - 2), .int .i64 (pickI bs l (apP bs l p + 1) 9 - 2)]⟩]))) := by kernel_rfl
def asQ (bs : List Int) (l : Nat) (p : Int) : Prop := apX bs l p = pickI bs l (apP bs l p) 9 - 2 ∧ apY bs l p = pickI bs l (apP bs l p + 1) 9 - 2
instance (bs : List Int) (l : Nat) (p : Int) : Decidable (asQ bs l p) := inferInstanceAs (Decidable (_ ∧ _))
def asX (bs : List Int) (l : Nat) (p : Int) : Int := if asQ bs l p ∧ 0 < pickI bs l (apP bs l p + 2) 4 then pickI bs l (apP bs l p) 9 - 2 + 1 else pickI bs l (apP bs l p) 9 - 2
def asY (bs : List Int) (l : Nat) (p : Int) : Int := pickI bs l (apP bs l p + 1) 9 - 2
def asP (bs : List Int) (l : Nat) (p : Int) : Int := if asQ bs l p then apP bs l p + 3 else apP bs l p + 2
theorem asP_bd (bs : List Int) (l : Nat) (p : Int) : p + 5 ≤ asP bs l p ∧ asP bs l p ≤ p + 7 := by have := apP_bd bs l p; unfold asP; split <;> omega
def asegS : RSpec := fun bs l p rest ex => match rest, ex with
  | [], none => some (.agg #[.int .i64 (apX bs l p), .int .i64 (apY bs l p), .int .i64 (asX bs l p), .int .i64 (asY bs l p)], asP bs l p, [rdK bs l p, rdK bs l (apP bs l p)])
  | _, _ => none
theorem veq4 {a b c c' d d' : Int} (h : c = c') (k : d = d') : Value.agg #[.int .i64 a, .int .i64 b, .int .i64 c, .int .i64 d] = .agg #[.int .i64 a, .int .i64 b, .int .i64 c', .int .i64 d'] := by rw [h, k]
theorem asegS_ok : SpecOk Try.prog 104 asegS := by
  intro bs l c p rest0 ex v p' C h hC
  unfold asegS at h
  split at h
  rotate_left
  · cases h
  obtain ⟨rfl, rfl, rfl⟩ : Value.agg #[.int .i64 (apX bs l p), .int .i64 (apY bs l p), .int .i64 (asX bs l p), .int .i64 (asY bs l p)] = v ∧ asP bs l p = p' ∧ [rdK bs l p, rdK bs l (apP bs l p)] = C := by simpa using h
  obtain ⟨h1, h2, _⟩ := hC
  refine ⟨ER3, 30, 12, ER3_ok, rfl, ?_⟩
  rw [tr_aseg]
  have r1 := h2.at (q := apP bs l p) (by omega) (by omega)
  have r3 := h2.at (q := apP bs l p + 2) (by omega) (by omega)
  have b1 := pickI_bd (k := 9) r1 (by omega)
  have w : IntKind.i64.wrap (pickI bs l (apP bs l p) 9 - 2 + 1) = pickI bs l (apP bs l p) 9 - 2 + 1 := wr (by omega)
  have en : negB false (apX bs l p == pickI bs l (apP bs l p) 9 - 2 && (apY bs l p == pickI bs l (apP bs l p + 1) 9 - 2 && true)) = decide (asQ bs l p) := by
    show (apX bs l p == pickI bs l (apP bs l p) 9 - 2 && (apY bs l p == pickI bs l (apP bs l p + 1) 9 - 2 && true)) = decide (asQ bs l p)
    exact Bool.eq_iff_iff.2 ⟨fun h => decide_eq_true (by simpa [asQ] using h), fun h => by
      have := of_decide_eq_true h
      simpa [asQ] using this⟩
  rw [en, w]
  refine ⟨h1, h2, brT_ok.2 ⟨fun hq => ⟨r3, brT_ok.2 ⟨fun hz => ?_, fun hz => ?_⟩⟩, fun hq => ?_⟩⟩
  · have hq := of_decide_eq_true hq
    have hz := of_decide_eq_true hz
    exact ⟨veq4 (by unfold asX; rw [if_pos ⟨hq, hz⟩]) rfl, box2 (by unfold asP; rw [if_pos hq]; omega) _⟩
  · have hq := of_decide_eq_true hq
    have hz := of_decide_eq_false hz
    exact ⟨veq4 (by unfold asX; rw [if_neg (fun h => hz h.2)]) rfl, box2 (by unfold asP; rw [if_pos hq]; omega) _⟩
  · have hq := of_decide_eq_false hq
    exact ⟨veq4 (by unfold asX; rw [if_neg (fun h => hq h.1)]) rfl, box2 (by unfold asP; rw [if_neg hq]) _⟩
set_option maxRecDepth 100000 in
theorem tr_rpts (bs : List Int) (l c : Nat) (p x y z w : Int) : bodyM Try.prog ER3 (runM Try.prog ER3 30 12) 30 106 [.pointer (some ⟨1, 0, none⟩), .agg #[.int .i64 x, .int .i64 y, .int .i64 z, .int .i64 w]] (memR bs l c p none) .fin = .need (rdC bs l p) (brT (pickI bs l p 2 == 0) (.fin (.agg #[.int .i64 (x), .int .i64 (y)]) [some ⟨.view, .bytes (bs)⟩, some ⟨.box, .vals [.slice (some ⟨0, 0, none⟩) (l) (c), .int .i64 (p + 1)]⟩, some ⟨.box, .vals [.int .i64 (x), .int .i64 (y), .int .i64 (z), .int .i64 (w)]⟩, some ⟨.box, .vals [.int .i64 (x), .int .i64 (y)]⟩]) (.fin (.agg #[.int .i64 (z), .int .i64 (w)]) [some ⟨.view, .bytes (bs)⟩, some ⟨.box, .vals [.slice (some ⟨0, 0, none⟩) (l) (c), .int .i64 (p + 1)]⟩, some ⟨.box, .vals [.int .i64 (x), .int .i64 (y), .int .i64 (z), .int .i64 (w)]⟩, some ⟨.box, .vals [.int .i64 (z), .int .i64 (w)]⟩])) := by kernel_rfl
/-- An end of a segment. -/
def enS : RSpec := fun bs l p rest ex => match rest, ex with
  | [.agg ⟨[.int .i64 x, .int .i64 y, .int .i64 z, .int .i64 w]⟩], none => some (.agg #[.int .i64 (if pickI bs l p 2 = 0 then x else z), .int .i64 (if pickI bs l p 2 = 0 then y else w)], p + 1, [rdC bs l p])
  | _, _ => none
theorem enS_ok : SpecOk Try.prog 106 enS := by
  intro bs l c p rest0 ex v p' C h hC
  unfold enS at h
  split at h
  rotate_left
  · cases h
  rename_i x y z w
  obtain ⟨rfl, rfl, rfl⟩ : Value.agg #[.int .i64 (if pickI bs l p 2 = 0 then x else z), .int .i64 (if pickI bs l p 2 = 0 then y else w)] = v ∧ p + 1 = p' ∧ [rdC bs l p] = C := by simpa using h
  have h1 := hC.1
  refine ⟨ER3, 30, 12, ER3_ok, rfl, ?_⟩
  rw [tr_rpts]
  refine ⟨h1, brT_ok.2 ⟨fun hq => ?_, fun hq => ?_⟩⟩
  · have hq : pickI bs l p 2 = 0 := by simpa using hq
    exact ⟨veq2 (by rw [if_pos hq]) (by rw [if_pos hq]), rfl⟩
  · have hq : ¬ pickI bs l p 2 = 0 := by simpa using hq
    exact ⟨veq2 (by rw [if_neg hq]) (by rw [if_neg hq]), rfl⟩
def JTs : List (FuncId × RSpec) := (106, enS) :: (104, asegS) :: J3
theorem JTs_ok : JOk Try.prog JTs := (J3_ok.cons (entersB_res (by kernel_rfl)).1 asegS_ok).cons (entersB_res (by kernel_rfl)).1 enS_ok
def ETs : Env := withJ (tabE T1) JTs
theorem ETs_ok : EnvOk Try.prog ETs := withJ_ok mixed (tabE_ok T1_ok) JTs_ok
set_option maxRecDepth 100000 in
theorem tr_twoS (bs : List Int) (n : Nat) : bodyX Try.prog ETs 30 12 76 [.row n (.bytes bs)] = brT (decide (2000 < (↑n : Int))) (.need ((0 : Int) ≤ bndI none (0 : Int) ∧ bndI none (0 : Int) ≤ bndI (some (IntKind.i64, (2000 : Int))) (↑n : Int) ∧ bndI (some (IntKind.i64, (2000 : Int))) (↑n : Int) ≤ (↑n : Int)) (.need (rdK bs (2000 : Nat) (0 : Int)) (.need (rdK bs (2000 : Nat) (apP bs (2000 : Nat) (0 : Int))) (.need (rdK bs (2000 : Nat) (asP bs (2000 : Nat) (0 : Int))) (.need (rdK bs (2000 : Nat) (apP bs (2000 : Nat) (asP bs (2000 : Nat) (0 : Int)))) (.need (rdC bs (2000 : Nat) (asP bs (2000 : Nat) (asP bs (2000 : Nat) (0 : Int)))) (brT (pickI bs 2000 (asP bs 2000 (asP bs 2000 0)) 5 == 0) (.fin (.tuple #[.agg #[.int .i64 (apX bs 2000 0), .int .i64 (apY bs 2000 0), .int .i64 (asX bs 2000 0), .int .i64 (asY bs 2000 0)], .agg #[.int .i64 (asX bs 2000 0), .int .i64 (asY bs 2000 0), .int .i64 (asX bs 2000 (asP bs 2000 0)), .int .i64 (asY bs 2000 (asP bs 2000 0))]]) [some ⟨.view, .bytes (bs)⟩, some ⟨.box, .vals [.int .i64 (apX bs 2000 0), .int .i64 (apY bs 2000 0), .int .i64 (asX bs 2000 0), .int .i64 (asY bs 2000 0)]⟩, some ⟨.box, .vals [.int .i64 (asX bs 2000 0), .int .i64 (asY bs 2000 0), .int .i64 (asX bs 2000 (asP bs 2000 0)), .int .i64 (asY bs 2000 (asP bs 2000 0))]⟩, some ⟨.box, .vals [.slice (some ⟨0, 0, none⟩) (2000) (2000), .int .i64 (asP bs 2000 (asP bs 2000 0) + 1)]⟩, some ⟨.box, .vals [.int .i64 (apX bs 2000 0), .int .i64 (apY bs 2000 0), .int .i64 (asX bs 2000 0), .int .i64 (asY bs 2000 0)]⟩, some ⟨.box, .vals [.int .i64 (asX bs 2000 0), .int .i64 (asY bs 2000 0), .int .i64 (asX bs 2000 (asP bs 2000 0)), .int .i64 (asY bs 2000 (asP bs 2000 0))]⟩]) (brT (pickI bs 2000 (asP bs 2000 (asP bs 2000 0)) 5 == 1) (.need (rdC bs (2000 : Nat) (asP bs (2000 : Nat) (asP bs (2000 : Nat) (0 : Int)) + (1 : Int))) (.fin (.tuple #[.agg #[.int .i64 (apX bs 2000 0), .int .i64 (apY bs 2000 0), .int .i64 (asX bs 2000 0), .int .i64 (asY bs 2000 0)], .agg #[.int .i64 (IntKind.i64.wrap (IntKind.i64.wrap (2 * asX bs 2000 0) - apX bs 2000 0)), .int .i64 (IntKind.i64.wrap (IntKind.i64.wrap (2 * asY bs 2000 0) - apY bs 2000 0)), .int .i64 (if pickI bs 2000 (asP bs 2000 (asP bs 2000 0) + 1) 2 = 0 then apX bs 2000 0 else asX bs 2000 0), .int .i64 (if pickI bs 2000 (asP bs 2000 (asP bs 2000 0) + 1) 2 = 0 then apY bs 2000 0 else asY bs 2000 0)]]) [some ⟨.view, .bytes (bs)⟩, some ⟨.box, .vals [.int .i64 (apX bs 2000 0), .int .i64 (apY bs 2000 0), .int .i64 (asX bs 2000 0), .int .i64 (asY bs 2000 0)]⟩, some ⟨.box, .vals [.int .i64 (IntKind.i64.wrap (IntKind.i64.wrap (2 * asX bs 2000 0) - apX bs 2000 0)), .int .i64 (IntKind.i64.wrap (IntKind.i64.wrap (2 * asY bs 2000 0) - apY bs 2000 0)), .int .i64 (if pickI bs 2000 (asP bs 2000 (asP bs 2000 0) + 1) 2 = 0 then apX bs 2000 0 else asX bs 2000 0), .int .i64 (if pickI bs 2000 (asP bs 2000 (asP bs 2000 0) + 1) 2 = 0 then apY bs 2000 0 else asY bs 2000 0)]⟩, some ⟨.box, .vals [.slice (some ⟨0, 0, none⟩) (2000) (2000), .int .i64 (asP bs 2000 (asP bs 2000 0) + 1 + 1)]⟩, some ⟨.box, .vals [.int .i64 (apX bs 2000 0), .int .i64 (apY bs 2000 0), .int .i64 (asX bs 2000 0), .int .i64 (asY bs 2000 0)]⟩, some ⟨.box, .vals [.int .i64 (IntKind.i64.wrap (IntKind.i64.wrap (2 * asX bs 2000 0) - apX bs 2000 0)), .int .i64 (IntKind.i64.wrap (IntKind.i64.wrap (2 * asY bs 2000 0) - apY bs 2000 0)), .int .i64 (if pickI bs 2000 (asP bs 2000 (asP bs 2000 0) + 1) 2 = 0 then apX bs 2000 0 else asX bs 2000 0), .int .i64 (if pickI bs 2000 (asP bs 2000 (asP bs 2000 0) + 1) 2 = 0 then apY bs 2000 0 else asY bs 2000 0)]⟩, none])) (.fin (.tuple #[.agg #[.int .i64 (apX bs 2000 0), .int .i64 (apY bs 2000 0), .int .i64 (asX bs 2000 0), .int .i64 (asY bs 2000 0)], .agg #[.int .i64 (apX bs 2000 (asP bs 2000 0)), .int .i64 (apY bs 2000 (asP bs 2000 0)), .int .i64 (asX bs 2000 (asP bs 2000 0)), .int .i64 (asY bs 2000 (asP bs 2000 0))]]) [some ⟨.view, .bytes (bs)⟩, some ⟨.box, .vals [.int .i64 (apX bs 2000 0), .int .i64 (apY bs 2000 0), .int .i64 (asX bs 2000 0), .int .i64 (asY bs 2000 0)]⟩, some ⟨.box, .vals [.int .i64 (apX bs 2000 (asP bs 2000 0)), .int .i64 (apY bs 2000 (asP bs 2000 0)), .int .i64 (asX bs 2000 (asP bs 2000 0)), .int .i64 (asY bs 2000 (asP bs 2000 0))]⟩, some ⟨.box, .vals [.slice (some ⟨0, 0, none⟩) (2000) (2000), .int .i64 (asP bs 2000 (asP bs 2000 0) + 1)]⟩, some ⟨.box, .vals [.int .i64 (apX bs 2000 0), .int .i64 (apY bs 2000 0), .int .i64 (asX bs 2000 0), .int .i64 (asY bs 2000 0)]⟩, some ⟨.box, .vals [.int .i64 (apX bs 2000 (asP bs 2000 0)), .int .i64 (apY bs 2000 (asP bs 2000 0)), .int .i64 (asX bs 2000 (asP bs 2000 0)), .int .i64 (asY bs 2000 (asP bs 2000 0))]⟩]))))))))) (.need (rdK bs n (0 : Int)) (.need (rdK bs n (apP bs n (0 : Int))) (.need (rdK bs n (asP bs n (0 : Int))) (.need (rdK bs n (apP bs n (asP bs n (0 : Int)))) (.need (rdC bs n (asP bs n (asP bs n (0 : Int)))) (brT (pickI bs n (asP bs n (asP bs n 0)) 5 == 0) (.fin (.tuple #[.agg #[.int .i64 (apX bs n 0), .int .i64 (apY bs n 0), .int .i64 (asX bs n 0), .int .i64 (asY bs n 0)], .agg #[.int .i64 (asX bs n 0), .int .i64 (asY bs n 0), .int .i64 (asX bs n (asP bs n 0)), .int .i64 (asY bs n (asP bs n 0))]]) [some ⟨.view, .bytes (bs)⟩, some ⟨.box, .vals [.int .i64 (apX bs n 0), .int .i64 (apY bs n 0), .int .i64 (asX bs n 0), .int .i64 (asY bs n 0)]⟩, some ⟨.box, .vals [.int .i64 (asX bs n 0), .int .i64 (asY bs n 0), .int .i64 (asX bs n (asP bs n 0)), .int .i64 (asY bs n (asP bs n 0))]⟩, some ⟨.box, .vals [.slice (some ⟨0, 0, none⟩) (n) (n), .int .i64 (asP bs n (asP bs n 0) + 1)]⟩, some ⟨.box, .vals [.int .i64 (apX bs n 0), .int .i64 (apY bs n 0), .int .i64 (asX bs n 0), .int .i64 (asY bs n 0)]⟩, some ⟨.box, .vals [.int .i64 (asX bs n 0), .int .i64 (asY bs n 0), .int .i64 (asX bs n (asP bs n 0)), .int .i64 (asY bs n (asP bs n 0))]⟩]) (brT (pickI bs n (asP bs n (asP bs n 0)) 5 == 1) (.need (rdC bs n (asP bs n (asP bs n (0 : Int)) + (1 : Int))) (.fin (.tuple #[.agg #[.int .i64 (apX bs n 0), .int .i64 (apY bs n 0), .int .i64 (asX bs n 0), .int .i64 (asY bs n 0)], .agg #[.int .i64 (IntKind.i64.wrap (IntKind.i64.wrap (2 * asX bs n 0) - apX bs n 0)), .int .i64 (IntKind.i64.wrap (IntKind.i64.wrap (2 * asY bs n 0) - apY bs n 0)), .int .i64 (if pickI bs n (asP bs n (asP bs n 0) + 1) 2 = 0 then apX bs n 0 else asX bs n 0), .int .i64 (if pickI bs n (asP bs n (asP bs n 0) + 1) 2 = 0 then apY bs n 0 else asY bs n 0)]]) [some ⟨.view, .bytes (bs)⟩, some ⟨.box, .vals [.int .i64 (apX bs n 0), .int .i64 (apY bs n 0), .int .i64 (asX bs n 0), .int .i64 (asY bs n 0)]⟩, some ⟨.box, .vals [.int .i64 (IntKind.i64.wrap (IntKind.i64.wrap (2 * asX bs n 0) - apX bs n 0)), .int .i64 (IntKind.i64.wrap (IntKind.i64.wrap (2 * asY bs n 0) - apY bs n 0)), .int .i64 (if pickI bs n (asP bs n (asP bs n 0) + 1) 2 = 0 then apX bs n 0 else asX bs n 0), .int .i64 (if pickI bs n (asP bs n (asP bs n 0) + 1) 2 = 0 then apY bs n 0 else asY bs n 0)]⟩, some ⟨.box, .vals [.slice (some ⟨0, 0, none⟩) (n) (n), .int .i64 (asP bs n (asP bs n 0) + 1 + 1)]⟩, some ⟨.box, .vals [.int .i64 (apX bs n 0), .int .i64 (apY bs n 0), .int .i64 (asX bs n 0), .int .i64 (asY bs n 0)]⟩, some ⟨.box, .vals [.int .i64 (IntKind.i64.wrap (IntKind.i64.wrap (2 * asX bs n 0) - apX bs n 0)), .int .i64 (IntKind.i64.wrap (IntKind.i64.wrap (2 * asY bs n 0) - apY bs n 0)), .int .i64 (if pickI bs n (asP bs n (asP bs n 0) + 1) 2 = 0 then apX bs n 0 else asX bs n 0), .int .i64 (if pickI bs n (asP bs n (asP bs n 0) + 1) 2 = 0 then apY bs n 0 else asY bs n 0)]⟩, none])) (.fin (.tuple #[.agg #[.int .i64 (apX bs n 0), .int .i64 (apY bs n 0), .int .i64 (asX bs n 0), .int .i64 (asY bs n 0)], .agg #[.int .i64 (apX bs n (asP bs n 0)), .int .i64 (apY bs n (asP bs n 0)), .int .i64 (asX bs n (asP bs n 0)), .int .i64 (asY bs n (asP bs n 0))]]) [some ⟨.view, .bytes (bs)⟩, some ⟨.box, .vals [.int .i64 (apX bs n 0), .int .i64 (apY bs n 0), .int .i64 (asX bs n 0), .int .i64 (asY bs n 0)]⟩, some ⟨.box, .vals [.int .i64 (apX bs n (asP bs n 0)), .int .i64 (apY bs n (asP bs n 0)), .int .i64 (asX bs n (asP bs n 0)), .int .i64 (asY bs n (asP bs n 0))]⟩, some ⟨.box, .vals [.slice (some ⟨0, 0, none⟩) (n) (n), .int .i64 (asP bs n (asP bs n 0) + 1)]⟩, some ⟨.box, .vals [.int .i64 (apX bs n 0), .int .i64 (apY bs n 0), .int .i64 (asX bs n 0), .int .i64 (asY bs n 0)]⟩, some ⟨.box, .vals [.int .i64 (apX bs n (asP bs n 0)), .int .i64 (apY bs n (asP bs n 0)), .int .i64 (asX bs n (asP bs n 0)), .int .i64 (asY bs n (asP bs n 0))]⟩])))))))) := by kernel_rfl
def tsP (bs : List Int) (l : Nat) : Int := asP bs l 0
def tsQ (bs : List Int) (l : Nat) : Int := pickI bs l (asP bs l (asP bs l 0)) 5
def tsH (bs : List Int) (l : Nat) : Int := pickI bs l (asP bs l (asP bs l 0) + 1) 2
/-- The second of two drawn segments. -/
def tsV (bs : List Int) (l : Nat) : Nat → Int
  | 0 => if tsQ bs l = 0 then asX bs l 0 else if tsQ bs l = 1 then IntKind.i64.wrap (IntKind.i64.wrap (2 * asX bs l 0) - apX bs l 0) else apX bs l (asP bs l 0)
  | 1 => if tsQ bs l = 0 then asY bs l 0 else if tsQ bs l = 1 then IntKind.i64.wrap (IntKind.i64.wrap (2 * asY bs l 0) - apY bs l 0) else apY bs l (asP bs l 0)
  | 2 => if tsQ bs l = 1 then (if tsH bs l = 0 then apX bs l 0 else asX bs l 0) else asX bs l (asP bs l 0)
  | _ => if tsQ bs l = 1 then (if tsH bs l = 0 then apY bs l 0 else asY bs l 0) else asY bs l (asP bs l 0)
def twoV (bs : List Int) (l : Nat) : Value := .tuple #[.agg #[.int .i64 (apX bs l 0), .int .i64 (apY bs l 0), .int .i64 (asX bs l 0), .int .i64 (asY bs l 0)], .agg #[.int .i64 (tsV bs l 0), .int .i64 (tsV bs l 1), .int .i64 (tsV bs l 2), .int .i64 (tsV bs l 3)]]
theorem res_twoS (bs : List Int) (n : Nat) (hb : Bytes bs) (hn : n ≤ bs.length) : Res Try.prog 76 [.row n (.bytes bs)] (twoV bs (rdL n)) := by
  refine bodyX_res mixed ETs_ok (m := 30) (n := 12) rfl ?_
  rw [tr_twoS]
  have key : ∀ l, l ≤ n → l ≤ 2000 → rdK bs l 0 ∧ rdK bs l (apP bs l 0) ∧ rdK bs l (asP bs l 0) ∧ rdK bs l (apP bs l (asP bs l 0)) ∧ rdC bs l (asP bs l (asP bs l 0)) ∧ rdC bs l (asP bs l (asP bs l 0) + 1) := fun l h1 h2 => by
    have b1 := asP_bd bs l 0
    have b2 := asP_bd bs l (asP bs l 0)
    have b3 := apP_bd bs l 0
    have b4 := apP_bd bs l (asP bs l 0)
    exact ⟨rdK0 hb hn h1 h2 (by omega) (by omega), rdK0 hb hn h1 h2 (by omega) (by omega), rdK0 hb hn h1 h2 (by omega) (by omega), rdK0 hb hn h1 h2 (by omega) (by omega), (rdK0 hb hn h1 h2 (by omega) (by omega)).1, (rdK0 hb hn h1 h2 (by omega) (by omega)).1⟩
  have fin : ∀ l, (tsQ bs l = 0 → twoV bs l = .tuple #[.agg #[.int .i64 (apX bs l 0), .int .i64 (apY bs l 0), .int .i64 (asX bs l 0), .int .i64 (asY bs l 0)], .agg #[.int .i64 (asX bs l 0), .int .i64 (asY bs l 0), .int .i64 (asX bs l (asP bs l 0)), .int .i64 (asY bs l (asP bs l 0))]])
      ∧ (tsQ bs l = 1 → twoV bs l = .tuple #[.agg #[.int .i64 (apX bs l 0), .int .i64 (apY bs l 0), .int .i64 (asX bs l 0), .int .i64 (asY bs l 0)], .agg #[.int .i64 (IntKind.i64.wrap (IntKind.i64.wrap (2 * asX bs l 0) - apX bs l 0)), .int .i64 (IntKind.i64.wrap (IntKind.i64.wrap (2 * asY bs l 0) - apY bs l 0)), .int .i64 (if tsH bs l = 0 then apX bs l 0 else asX bs l 0), .int .i64 (if tsH bs l = 0 then apY bs l 0 else asY bs l 0)]])
      ∧ (¬ tsQ bs l = 0 → ¬ tsQ bs l = 1 → twoV bs l = .tuple #[.agg #[.int .i64 (apX bs l 0), .int .i64 (apY bs l 0), .int .i64 (asX bs l 0), .int .i64 (asY bs l 0)], .agg #[.int .i64 (apX bs l (asP bs l 0)), .int .i64 (apY bs l (asP bs l 0)), .int .i64 (asX bs l (asP bs l 0)), .int .i64 (asY bs l (asP bs l 0))]]) := fun l => by
    refine ⟨fun h => ?_, fun h => ?_, fun h h2 => ?_⟩
    · unfold twoV tsV
      simp [h]
    · unfold twoV tsV
      simp [h]
    · unfold twoV tsV
      simp [h, h2]
  refine brT_ok.2 ⟨fun h => ?_, fun h => ?_⟩
  · have h := of_decide_eq_true h
    obtain ⟨k1, k2, k3, k4, k5, k6⟩ := key 2000 (by omega) (by omega)
    obtain ⟨f1, f2, f3⟩ := fin 2000
    rw [rdL_of h]
    refine ⟨bnd2000 h, k1, k2, k3, k4, k5, brT_ok.2 ⟨fun q => ?_, fun q => brT_ok.2 ⟨fun q2 => ⟨k6, ?_⟩, fun q2 => ?_⟩⟩⟩
    · exact (f1 (eq_of_beq q)).symm
    · exact (f2 (eq_of_beq q2)).symm
    · exact (f3 (by simpa [tsQ] using q) (by simpa [tsQ] using q2)).symm
  · have h := of_decide_eq_false h
    obtain ⟨k1, k2, k3, k4, k5, k6⟩ := key n (by omega) (by omega)
    obtain ⟨f1, f2, f3⟩ := fin n
    rw [rdL_no h]
    refine ⟨k1, k2, k3, k4, k5, brT_ok.2 ⟨fun q => ?_, fun q => brT_ok.2 ⟨fun q2 => ⟨k6, ?_⟩, fun q2 => ?_⟩⟩⟩
    · exact (f1 (eq_of_beq q)).symm
    · exact (f2 (eq_of_beq q2)).symm
    · exact (f3 (by simpa [tsQ] using q) (by simpa [tsQ] using q2)).symm
def pTwoS : List DArg → Option (Value × List Prop)
  | [.row n (.bytes bs)] => some (twoV bs (rdL n), [Bytes bs, n ≤ bs.length])
  | _ => none
theorem pTwoS_ok {ds : List DArg} {v : Value} {C : List Prop} (h : pTwoS ds = some (v, C)) (hC : AllP C) : Res Try.prog 76 ds v := by
  unfold pTwoS at h
  split at h
  · obtain ⟨rfl, rfl⟩ : _ ∧ _ := by simpa using h
    exact res_twoS _ _ hC.1 hC.2.1
  · cases h
set_option maxRecDepth 100000 in
theorem tr_iOn (a b c d x y : Int) : bodyV Try.prog (tabE TRb) 30 12 40 [.v (.agg #[iv a, iv b, iv c, iv d]), .v (.agg #[iv x, iv y])] = brT (segB a b c d) (brT (ptB x y) (.need (ptB a b = true) (.need (ptB c d = true) (.need (ptB x y = true) (.fin (.bool (hasB a b c d x y)) [])))) (.fin (.bool (false)) [])) (.fin (.bool (false)) []) := by kernel_rfl
def onV (a b c d x y : Int) : Bool := segB a b c d && ptB x y && hasB a b c d x y
theorem res_iOn (a b c d x y : Int) : Res Try.prog 40 [.v (.agg #[iv a, iv b, iv c, iv d]), .v (.agg #[iv x, iv y])] (.bool (onV a b c d x y)) := by
  refine bodyV_res mixed (tabE_ok TRb_ok) (m := 30) (n := 12) rfl ?_
  rw [tr_iOn]
  unfold onV
  rcases s1 : segB a b c d with _ | _
  · simp [brT_ok, Tree.ok]
  obtain ⟨h1, h2⟩ := segB_pt s1
  rcases s2 : ptB x y with _ | _
  · simp [brT_ok, Tree.ok]
  · simp [brT_ok, Tree.ok, h1, h2]
def pOnV : List DArg → Option (Value × List Prop)
  | [.v (.agg ⟨[.int .i64 a, .int .i64 b, .int .i64 c, .int .i64 d]⟩), .v (.agg ⟨[.int .i64 x, .int .i64 y]⟩)] => some (.bool (onV a b c d x y), [])
  | _ => none
theorem pOnV_ok {ds : List DArg} {v : Value} {C : List Prop} (h : pOnV ds = some (v, C)) : Res Try.prog 40 ds v := by
  unfold pOnV at h
  split at h
  · obtain ⟨rfl, rfl⟩ : _ ∧ _ := by simpa using h
    exact res_iOn _ _ _ _ _ _
  · cases h
def TTs : Tab := fun f ds => match f with
  | 76 => pTwoS ds
  | 40 => pOnV ds
  | f => TRb f ds
theorem TTs_ok : TabOk Try.prog TTs := by
  intro f ds v C h hC
  unfold TTs at h
  split at h
  all_goals first | with_reducible exact pTwoS_ok h hC | with_reducible exact pOnV_ok h | exact TRb_ok _ _ _ _ h hC
theorem relV_comm (a b c d e f g h : Int) : relV a b c d e f g h = relV e f g h a b c d := by
  unfold relV
  rw [relA_comm, Bool.and_comm]
theorem crossI_rev (a b c d x y : Int) : crossI c d a b x y = -(crossI a b c d x y) := by unfold crossI; grind
theorem cmpI_neg (x : Int) : cmpI (-x) 0 = -(cmpI x 0) := by
  unfold cmpI
  split <;> split <;> (try split) <;> (try split) <;> omega
theorem hasB_rev (a b c d x y : Int) : hasB c d a b x y = hasB a b c d x y := by
  unfold hasB
  have e1 : (c - x) * (b - y) - (d - y) * (a - x) = -((a - x) * (d - y) - (b - y) * (c - x)) := by grind
  have e2 : (c - x) * (a - x) + (d - y) * (b - y) = (a - x) * (c - x) + (b - y) * (d - y) := by grind
  rw [e1, e2]
  congr 1
  rw [Bool.eq_iff_iff]
  simp only [beq_iff_eq]
  omega
theorem dvB_rev (a b c d e f g h : Int) : dvB c d a b e f g h = dvB a b c d e f g h := by
  unfold dvB
  rw [crossI_rev a b c d e f, crossI_rev a b c d g h, cmpI_neg, cmpI_neg, Int.neg_mul_neg]
theorem dvB_swap (a b c d e f g h : Int) : dvB a b c d g h e f = dvB a b c d e f g h := by
  unfold dvB
  rw [Int.mul_comm]
theorem segB_rev (a b c d : Int) : segB c d a b = segB a b c d := by
  unfold segB eqB
  rw [Bool.and_comm (ptB c d), show (c == a) = (a == c) from by rw [Bool.eq_iff_iff]; simp; exact eq_comm, show (d == b) = (b == d) from by rw [Bool.eq_iff_iff]; simp; exact eq_comm]
theorem relV_rev (a b c d e f g h : Int) : relV c d a b e f g h = relV a b c d e f g h := by
  unfold relV relA
  have e1 : ceS c d a b e f g h = ceS a b c d e f g h := by
    refine asc_ext (ce_asc ..) (ce_asc ..) fun z => ?_
    rw [ce_mem, ce_mem]
    unfold onB
    rw [hasB_rev]
    refine and_congr_right fun _ => ?_
    constructor
    · rintro (h | h | h | h) <;> simp [h]
    · rintro (h | h | h | h) <;> simp [h]
  rw [e1, segB_rev, dvB_rev, dvB_swap e f g h a b c d]
theorem relV_self {a b c d e f g h : Int} (k : ¬ relV a b c d e f g h < 0) : relV a b c d a b c d = 3 := by
  have hs : segB a b c d = true := by
    unfold relV at k
    rcases q : segB a b c d with _ | _
    · rw [q] at k
      exact absurd (by show (-1 : Int) < 0; decide) k
    · rfl
  have hne : ((a, b) : Pt) ≠ (c, d) := fun e => by
    obtain ⟨rfl, rfl⟩ := Prod.mk.inj e
    unfold segB eqB at hs
    simp at hs
  have m1 : ((a, b) : Pt) ∈ ceS a b c d a b c d := by
    rw [ce_mem]
    exact ⟨by unfold onB; simp only [hasB_a]; rfl, .inl rfl⟩
  have m2 : ((c, d) : Pt) ∈ ceS a b c d a b c d := by
    rw [ce_mem]
    exact ⟨by unfold onB; simp only [hasB_b]; rfl, .inr (.inl rfl)⟩
  have hl : 1 < (ceS a b c d a b c d).length := by
    generalize ceS a b c d a b c d = l at m1 m2
    match l, m1, m2 with
    | [], m1, _ => cases m1
    | [z], m1, m2 =>
      exfalso
      have h1 : ((a, b) : Pt) = z := by simpa using m1
      have h2 : ((c, d) : Pt) = z := by simpa using m2
      exact hne (h1.trans h2.symm)
    | _ :: _ :: _, _, _ => simp
  unfold relV relA relN
  rw [hs, if_pos hl]
  rfl
theorem relV_ends {a b c d e f g h : Int} (k : ¬ relV a b c d e f g h < 0) : (onV a b c d e f || onV a b c d g h || onV e f g h a b || onV e f g h c d) = ((relV a b c d e f g h == 1) || (relV a b c d e f g h == 3)) := by
  have hs : segB a b c d = true ∧ segB e f g h = true := by
    unfold relV at k
    rcases q : segB a b c d with _ | _
    · rw [q] at k
      exact absurd (by show (-1 : Int) < 0; decide) k
    · rcases q2 : segB e f g h with _ | _
      · rw [q, q2] at k
        exact absurd (by show (-1 : Int) < 0; decide) k
      · exact ⟨rfl, rfl⟩
  obtain ⟨s1, s2⟩ := hs
  obtain ⟨p1, p2⟩ := segB_pt s1
  obtain ⟨p3, p4⟩ := segB_pt s2
  have hv : relV a b c d e f g h = relA a b c d e f g h := by unfold relV; rw [s1, s2]; rfl
  rw [hv]
  unfold onV
  simp only [s1, s2, p1, p2, p3, p4, Bool.true_and]
  have hm : (hasB a b c d e f || hasB a b c d g h || hasB e f g h a b || hasB e f g h c d) = decide (0 < (ceS a b c d e f g h).length) := by
    rw [Bool.eq_iff_iff]
    simp only [Bool.or_eq_true, decide_eq_true_eq]
    constructor
    · rintro (((q | q) | q) | q)
      · exact List.length_pos_of_mem (a := (e, f)) (ce_mem.2 ⟨by unfold onB; rw [q, hasB_a]; rfl, by simp⟩)
      · exact List.length_pos_of_mem (a := (g, h)) (ce_mem.2 ⟨by unfold onB; rw [q, hasB_b]; rfl, by simp⟩)
      · exact List.length_pos_of_mem (a := (a, b)) (ce_mem.2 ⟨by unfold onB; rw [q, hasB_a]; rfl, by simp⟩)
      · exact List.length_pos_of_mem (a := (c, d)) (ce_mem.2 ⟨by unfold onB; rw [q, hasB_b]; rfl, by simp⟩)
    · intro q
      obtain ⟨z, hz⟩ := List.exists_mem_of_length_pos q
      obtain ⟨h1, h2⟩ := ce_mem.1 hz
      unfold onB at h1
      simp only [Bool.and_eq_true] at h1
      rcases h2 with rfl | rfl | rfl | rfl
      · exact .inl (.inr h1.2)
      · exact .inr h1.2
      · exact .inl (.inl (.inl h1.1))
      · exact .inl (.inl (.inr h1.1))
  rw [hm]
  unfold relA relN
  by_cases q1 : 1 < (ceS a b c d e f g h).length
  · rw [if_pos q1, decide_eq_true (by omega)]
    rfl
  · rw [if_neg q1]
    by_cases q2 : (ceS a b c d e f g h).length = 1
    · rw [if_pos q2, decide_eq_true (by omega)]
      rfl
    · rw [if_neg q2, decide_eq_false (by omega)]
      cases (dvB a b c d e f g h && dvB e f g h a b c d) <;> rfl
set_option maxRecDepth 100000 in
theorem tr_lRel (bs : List Int) : bodyV Try.prog (tabE TTs) 30 12 11 [.row bs.length (.bytes bs)] = brT (decide (1048576 < (↑bs.length : Int))) (.fin (.bool (true)) []) (.need (Bytes (List.drop (0 : Nat) bs)) (.need (bs.length ≤ (List.drop (0 : Nat) bs).length) (brT (!relV (apX (List.drop 0 bs) (rdL bs.length) 0) (apY (List.drop 0 bs) (rdL bs.length) 0) (asX (List.drop 0 bs) (rdL bs.length) 0) (asY (List.drop 0 bs) (rdL bs.length) 0) (tsV (List.drop 0 bs) (rdL bs.length) 0) (tsV (List.drop 0 bs) (rdL bs.length) 1) (tsV (List.drop 0 bs) (rdL bs.length) 2) (tsV (List.drop 0 bs) (rdL bs.length) 3) == relV (apX (List.drop 0 bs) (rdL bs.length) 0) (apY (List.drop 0 bs) (rdL bs.length) 0) (asX (List.drop 0 bs) (rdL bs.length) 0) (asY (List.drop 0 bs) (rdL bs.length) 0) (tsV (List.drop 0 bs) (rdL bs.length) 0) (tsV (List.drop 0 bs) (rdL bs.length) 1) (tsV (List.drop 0 bs) (rdL bs.length) 2) (tsV (List.drop 0 bs) (rdL bs.length) 3)) (.fin (.bool (relV (apX (List.drop 0 bs) (rdL bs.length) 0) (apY (List.drop 0 bs) (rdL bs.length) 0) (asX (List.drop 0 bs) (rdL bs.length) 0) (asY (List.drop 0 bs) (rdL bs.length) 0) (tsV (List.drop 0 bs) (rdL bs.length) 0) (tsV (List.drop 0 bs) (rdL bs.length) 1) (tsV (List.drop 0 bs) (rdL bs.length) 2) (tsV (List.drop 0 bs) (rdL bs.length) 3) == relV (apX (List.drop 0 bs) (rdL bs.length) 0) (apY (List.drop 0 bs) (rdL bs.length) 0) (asX (List.drop 0 bs) (rdL bs.length) 0) (asY (List.drop 0 bs) (rdL bs.length) 0) (tsV (List.drop 0 bs) (rdL bs.length) 0) (tsV (List.drop 0 bs) (rdL bs.length) 1) (tsV (List.drop 0 bs) (rdL bs.length) 2) (tsV (List.drop 0 bs) (rdL bs.length) 3))) []) (brT (decide (relV (apX (List.drop 0 bs) (rdL bs.length) 0) (apY (List.drop 0 bs) (rdL bs.length) 0) (asX (List.drop 0 bs) (rdL bs.length) 0) (asY (List.drop 0 bs) (rdL bs.length) 0) (tsV (List.drop 0 bs) (rdL bs.length) 0) (tsV (List.drop 0 bs) (rdL bs.length) 1) (tsV (List.drop 0 bs) (rdL bs.length) 2) (tsV (List.drop 0 bs) (rdL bs.length) 3) < 0)) (.fin (.bool (relV (apX (List.drop 0 bs) (rdL bs.length) 0) (apY (List.drop 0 bs) (rdL bs.length) 0) (asX (List.drop 0 bs) (rdL bs.length) 0) (asY (List.drop 0 bs) (rdL bs.length) 0) (tsV (List.drop 0 bs) (rdL bs.length) 0) (tsV (List.drop 0 bs) (rdL bs.length) 1) (tsV (List.drop 0 bs) (rdL bs.length) 2) (tsV (List.drop 0 bs) (rdL bs.length) 3) == relV (apX (List.drop 0 bs) (rdL bs.length) 0) (apY (List.drop 0 bs) (rdL bs.length) 0) (asX (List.drop 0 bs) (rdL bs.length) 0) (asY (List.drop 0 bs) (rdL bs.length) 0) (tsV (List.drop 0 bs) (rdL bs.length) 0) (tsV (List.drop 0 bs) (rdL bs.length) 1) (tsV (List.drop 0 bs) (rdL bs.length) 2) (tsV (List.drop 0 bs) (rdL bs.length) 3))) []) (brT (relV (tsV (List.drop 0 bs) (rdL bs.length) 0) (tsV (List.drop 0 bs) (rdL bs.length) 1) (tsV (List.drop 0 bs) (rdL bs.length) 2) (tsV (List.drop 0 bs) (rdL bs.length) 3) (apX (List.drop 0 bs) (rdL bs.length) 0) (apY (List.drop 0 bs) (rdL bs.length) 0) (asX (List.drop 0 bs) (rdL bs.length) 0) (asY (List.drop 0 bs) (rdL bs.length) 0) == relV (apX (List.drop 0 bs) (rdL bs.length) 0) (apY (List.drop 0 bs) (rdL bs.length) 0) (asX (List.drop 0 bs) (rdL bs.length) 0) (asY (List.drop 0 bs) (rdL bs.length) 0) (tsV (List.drop 0 bs) (rdL bs.length) 0) (tsV (List.drop 0 bs) (rdL bs.length) 1) (tsV (List.drop 0 bs) (rdL bs.length) 2) (tsV (List.drop 0 bs) (rdL bs.length) 3)) (brT (relV (asX (List.drop 0 bs) (rdL bs.length) 0) (asY (List.drop 0 bs) (rdL bs.length) 0) (apX (List.drop 0 bs) (rdL bs.length) 0) (apY (List.drop 0 bs) (rdL bs.length) 0) (tsV (List.drop 0 bs) (rdL bs.length) 0) (tsV (List.drop 0 bs) (rdL bs.length) 1) (tsV (List.drop 0 bs) (rdL bs.length) 2) (tsV (List.drop 0 bs) (rdL bs.length) 3) == relV (apX (List.drop 0 bs) (rdL bs.length) 0) (apY (List.drop 0 bs) (rdL bs.length) 0) (asX (List.drop 0 bs) (rdL bs.length) 0) (asY (List.drop 0 bs) (rdL bs.length) 0) (tsV (List.drop 0 bs) (rdL bs.length) 0) (tsV (List.drop 0 bs) (rdL bs.length) 1) (tsV (List.drop 0 bs) (rdL bs.length) 2) (tsV (List.drop 0 bs) (rdL bs.length) 3)) (.fin (.bool (relV (apX (List.drop 0 bs) (rdL bs.length) 0) (apY (List.drop 0 bs) (rdL bs.length) 0) (asX (List.drop 0 bs) (rdL bs.length) 0) (asY (List.drop 0 bs) (rdL bs.length) 0) (apX (List.drop 0 bs) (rdL bs.length) 0) (apY (List.drop 0 bs) (rdL bs.length) 0) (asX (List.drop 0 bs) (rdL bs.length) 0) (asY (List.drop 0 bs) (rdL bs.length) 0) == 3)) []) (.fin (.bool (false)) [])) (.fin (.bool (false)) [])))))) := by kernel_rfl
set_option maxRecDepth 100000 in
theorem tr_lRle (bs : List Int) : bodyV Try.prog (tabE TTs) 30 12 12 [.row bs.length (.bytes bs)] = brT (decide (1048576 < (↑bs.length : Int))) (.fin (.bool (true)) []) (.need (Bytes (List.drop (0 : Nat) bs)) (.need (bs.length ≤ (List.drop (0 : Nat) bs).length) (brT (!relV (apX (List.drop 0 bs) (rdL bs.length) 0) (apY (List.drop 0 bs) (rdL bs.length) 0) (asX (List.drop 0 bs) (rdL bs.length) 0) (asY (List.drop 0 bs) (rdL bs.length) 0) (tsV (List.drop 0 bs) (rdL bs.length) 0) (tsV (List.drop 0 bs) (rdL bs.length) 1) (tsV (List.drop 0 bs) (rdL bs.length) 2) (tsV (List.drop 0 bs) (rdL bs.length) 3) == relV (apX (List.drop 0 bs) (rdL bs.length) 0) (apY (List.drop 0 bs) (rdL bs.length) 0) (asX (List.drop 0 bs) (rdL bs.length) 0) (asY (List.drop 0 bs) (rdL bs.length) 0) (tsV (List.drop 0 bs) (rdL bs.length) 0) (tsV (List.drop 0 bs) (rdL bs.length) 1) (tsV (List.drop 0 bs) (rdL bs.length) 2) (tsV (List.drop 0 bs) (rdL bs.length) 3)) (.fin (.bool (relV (apX (List.drop 0 bs) (rdL bs.length) 0) (apY (List.drop 0 bs) (rdL bs.length) 0) (asX (List.drop 0 bs) (rdL bs.length) 0) (asY (List.drop 0 bs) (rdL bs.length) 0) (tsV (List.drop 0 bs) (rdL bs.length) 0) (tsV (List.drop 0 bs) (rdL bs.length) 1) (tsV (List.drop 0 bs) (rdL bs.length) 2) (tsV (List.drop 0 bs) (rdL bs.length) 3) == relV (apX (List.drop 0 bs) (rdL bs.length) 0) (apY (List.drop 0 bs) (rdL bs.length) 0) (asX (List.drop 0 bs) (rdL bs.length) 0) (asY (List.drop 0 bs) (rdL bs.length) 0) (tsV (List.drop 0 bs) (rdL bs.length) 0) (tsV (List.drop 0 bs) (rdL bs.length) 1) (tsV (List.drop 0 bs) (rdL bs.length) 2) (tsV (List.drop 0 bs) (rdL bs.length) 3))) []) (brT (decide (relV (apX (List.drop 0 bs) (rdL bs.length) 0) (apY (List.drop 0 bs) (rdL bs.length) 0) (asX (List.drop 0 bs) (rdL bs.length) 0) (asY (List.drop 0 bs) (rdL bs.length) 0) (tsV (List.drop 0 bs) (rdL bs.length) 0) (tsV (List.drop 0 bs) (rdL bs.length) 1) (tsV (List.drop 0 bs) (rdL bs.length) 2) (tsV (List.drop 0 bs) (rdL bs.length) 3) < 0)) (.fin (.bool (relV (apX (List.drop 0 bs) (rdL bs.length) 0) (apY (List.drop 0 bs) (rdL bs.length) 0) (asX (List.drop 0 bs) (rdL bs.length) 0) (asY (List.drop 0 bs) (rdL bs.length) 0) (tsV (List.drop 0 bs) (rdL bs.length) 0) (tsV (List.drop 0 bs) (rdL bs.length) 1) (tsV (List.drop 0 bs) (rdL bs.length) 2) (tsV (List.drop 0 bs) (rdL bs.length) 3) == relV (apX (List.drop 0 bs) (rdL bs.length) 0) (apY (List.drop 0 bs) (rdL bs.length) 0) (asX (List.drop 0 bs) (rdL bs.length) 0) (asY (List.drop 0 bs) (rdL bs.length) 0) (tsV (List.drop 0 bs) (rdL bs.length) 0) (tsV (List.drop 0 bs) (rdL bs.length) 1) (tsV (List.drop 0 bs) (rdL bs.length) 2) (tsV (List.drop 0 bs) (rdL bs.length) 3))) []) (brT (onV (apX (List.drop 0 bs) (rdL bs.length) 0) (apY (List.drop 0 bs) (rdL bs.length) 0) (asX (List.drop 0 bs) (rdL bs.length) 0) (asY (List.drop 0 bs) (rdL bs.length) 0) (tsV (List.drop 0 bs) (rdL bs.length) 0) (tsV (List.drop 0 bs) (rdL bs.length) 1)) (brT (relV (apX (List.drop 0 bs) (rdL bs.length) 0) (apY (List.drop 0 bs) (rdL bs.length) 0) (asX (List.drop 0 bs) (rdL bs.length) 0) (asY (List.drop 0 bs) (rdL bs.length) 0) (tsV (List.drop 0 bs) (rdL bs.length) 0) (tsV (List.drop 0 bs) (rdL bs.length) 1) (tsV (List.drop 0 bs) (rdL bs.length) 2) (tsV (List.drop 0 bs) (rdL bs.length) 3) == 1) (.fin (.bool (true == true)) []) (.fin (.bool (true == (relV (apX (List.drop 0 bs) (rdL bs.length) 0) (apY (List.drop 0 bs) (rdL bs.length) 0) (asX (List.drop 0 bs) (rdL bs.length) 0) (asY (List.drop 0 bs) (rdL bs.length) 0) (tsV (List.drop 0 bs) (rdL bs.length) 0) (tsV (List.drop 0 bs) (rdL bs.length) 1) (tsV (List.drop 0 bs) (rdL bs.length) 2) (tsV (List.drop 0 bs) (rdL bs.length) 3) == 3))) [])) (brT (onV (apX (List.drop 0 bs) (rdL bs.length) 0) (apY (List.drop 0 bs) (rdL bs.length) 0) (asX (List.drop 0 bs) (rdL bs.length) 0) (asY (List.drop 0 bs) (rdL bs.length) 0) (tsV (List.drop 0 bs) (rdL bs.length) 2) (tsV (List.drop 0 bs) (rdL bs.length) 3)) (brT (relV (apX (List.drop 0 bs) (rdL bs.length) 0) (apY (List.drop 0 bs) (rdL bs.length) 0) (asX (List.drop 0 bs) (rdL bs.length) 0) (asY (List.drop 0 bs) (rdL bs.length) 0) (tsV (List.drop 0 bs) (rdL bs.length) 0) (tsV (List.drop 0 bs) (rdL bs.length) 1) (tsV (List.drop 0 bs) (rdL bs.length) 2) (tsV (List.drop 0 bs) (rdL bs.length) 3) == 1) (.fin (.bool (true == true)) []) (.fin (.bool (true == (relV (apX (List.drop 0 bs) (rdL bs.length) 0) (apY (List.drop 0 bs) (rdL bs.length) 0) (asX (List.drop 0 bs) (rdL bs.length) 0) (asY (List.drop 0 bs) (rdL bs.length) 0) (tsV (List.drop 0 bs) (rdL bs.length) 0) (tsV (List.drop 0 bs) (rdL bs.length) 1) (tsV (List.drop 0 bs) (rdL bs.length) 2) (tsV (List.drop 0 bs) (rdL bs.length) 3) == 3))) [])) (brT (onV (tsV (List.drop 0 bs) (rdL bs.length) 0) (tsV (List.drop 0 bs) (rdL bs.length) 1) (tsV (List.drop 0 bs) (rdL bs.length) 2) (tsV (List.drop 0 bs) (rdL bs.length) 3) (apX (List.drop 0 bs) (rdL bs.length) 0) (apY (List.drop 0 bs) (rdL bs.length) 0)) (brT (relV (apX (List.drop 0 bs) (rdL bs.length) 0) (apY (List.drop 0 bs) (rdL bs.length) 0) (asX (List.drop 0 bs) (rdL bs.length) 0) (asY (List.drop 0 bs) (rdL bs.length) 0) (tsV (List.drop 0 bs) (rdL bs.length) 0) (tsV (List.drop 0 bs) (rdL bs.length) 1) (tsV (List.drop 0 bs) (rdL bs.length) 2) (tsV (List.drop 0 bs) (rdL bs.length) 3) == 1) (.fin (.bool (true == true)) []) (.fin (.bool (true == (relV (apX (List.drop 0 bs) (rdL bs.length) 0) (apY (List.drop 0 bs) (rdL bs.length) 0) (asX (List.drop 0 bs) (rdL bs.length) 0) (asY (List.drop 0 bs) (rdL bs.length) 0) (tsV (List.drop 0 bs) (rdL bs.length) 0) (tsV (List.drop 0 bs) (rdL bs.length) 1) (tsV (List.drop 0 bs) (rdL bs.length) 2) (tsV (List.drop 0 bs) (rdL bs.length) 3) == 3))) [])) (brT (relV (apX (List.drop 0 bs) (rdL bs.length) 0) (apY (List.drop 0 bs) (rdL bs.length) 0) (asX (List.drop 0 bs) (rdL bs.length) 0) (asY (List.drop 0 bs) (rdL bs.length) 0) (tsV (List.drop 0 bs) (rdL bs.length) 0) (tsV (List.drop 0 bs) (rdL bs.length) 1) (tsV (List.drop 0 bs) (rdL bs.length) 2) (tsV (List.drop 0 bs) (rdL bs.length) 3) == 1) (.fin (.bool (onV (tsV (List.drop 0 bs) (rdL bs.length) 0) (tsV (List.drop 0 bs) (rdL bs.length) 1) (tsV (List.drop 0 bs) (rdL bs.length) 2) (tsV (List.drop 0 bs) (rdL bs.length) 3) (asX (List.drop 0 bs) (rdL bs.length) 0) (asY (List.drop 0 bs) (rdL bs.length) 0) == true)) []) (.fin (.bool (onV (tsV (List.drop 0 bs) (rdL bs.length) 0) (tsV (List.drop 0 bs) (rdL bs.length) 1) (tsV (List.drop 0 bs) (rdL bs.length) 2) (tsV (List.drop 0 bs) (rdL bs.length) 3) (asX (List.drop 0 bs) (rdL bs.length) 0) (asY (List.drop 0 bs) (rdL bs.length) 0) == (relV (apX (List.drop 0 bs) (rdL bs.length) 0) (apY (List.drop 0 bs) (rdL bs.length) 0) (asX (List.drop 0 bs) (rdL bs.length) 0) (asY (List.drop 0 bs) (rdL bs.length) 0) (tsV (List.drop 0 bs) (rdL bs.length) 0) (tsV (List.drop 0 bs) (rdL bs.length) 1) (tsV (List.drop 0 bs) (rdL bs.length) 2) (tsV (List.drop 0 bs) (rdL bs.length) 3) == 3))) []))))))))) := by kernel_rfl
theorem law_rel (bs : List Int) (hb : Bytes bs) (_ : bs.length ≤ maxLen) : Res Try.prog 11 [.row bs.length (.bytes bs)] (.bool true) := by
  refine bodyV_res mixed (tabE_ok TTs_ok) (m := 30) (n := 12) rfl ?_
  rw [tr_lRel]
  simp only [List.drop_zero]
  generalize apX bs (rdL bs.length) 0 = a
  generalize apY bs (rdL bs.length) 0 = b
  generalize asX bs (rdL bs.length) 0 = c
  generalize asY bs (rdL bs.length) 0 = d
  generalize tsV bs (rdL bs.length) 0 = e
  generalize tsV bs (rdL bs.length) 1 = f
  generalize tsV bs (rdL bs.length) 2 = g
  generalize tsV bs (rdL bs.length) 3 = h
  rw [relV_comm e f g h a b c d, relV_rev a b c d e f g h]
  by_cases k : relV a b c d e f g h < 0
  · simp [brT_ok, Tree.ok, hb, k]
  · have hs := relV_self k
    simp [brT_ok, Tree.ok, hb, k, hs]
theorem law_rle (bs : List Int) (hb : Bytes bs) (_ : bs.length ≤ maxLen) : Res Try.prog 12 [.row bs.length (.bytes bs)] (.bool true) := by
  refine bodyV_res mixed (tabE_ok TTs_ok) (m := 30) (n := 12) rfl ?_
  rw [tr_lRle]
  simp only [List.drop_zero]
  generalize apX bs (rdL bs.length) 0 = a
  generalize apY bs (rdL bs.length) 0 = b
  generalize asX bs (rdL bs.length) 0 = c
  generalize asY bs (rdL bs.length) 0 = d
  generalize tsV bs (rdL bs.length) 0 = e
  generalize tsV bs (rdL bs.length) 1 = f
  generalize tsV bs (rdL bs.length) 2 = g
  generalize tsV bs (rdL bs.length) 3 = h
  by_cases k : relV a b c d e f g h < 0
  · simp [brT_ok, Tree.ok, hb, k]
  · have hs := relV_ends k
    revert hs
    generalize relV a b c d e f g h = r at *
    cases onV a b c d e f <;> cases onV a b c d g h <;> cases onV e f g h a b <;> cases onV e f g h c d <;> intro hs <;> simp [brT_ok, Tree.ok, hb, k] <;> simp at hs <;> omega
end Go.Proofs.Ytfbcbmckicmalaa
