/-
  Drawn fractions and segments. Written by an AI agent.
-/
import Derived.Test.YtblpldapmmoheabRdC
namespace Go.Proofs.Ytblpldapmmoheab
open Go.RowKit

def ER4 : Env := withJ (tabE T1) J3
theorem ER4_ok : EnvOk Try.prog ER4 := withJ_ok mixed (tabE_ok T1_ok) J3_ok
set_option maxRecDepth 100000 in
theorem tr_rrat (bs : List Int) (l c : Nat) (p : Int) : bodyM Try.prog ER4 (runM Try.prog ER4 30 12) 30 131 [.pointer (some ⟨1, 0, none⟩)] (memR bs l c p none) .fin = .need (rdC bs l p) (.need (rdC bs l (p + (1 : Int))) (.need (big (IntKind.i64.wrap (pickI bs l p (40 : Int) - (15 : Int)))) (.need (big (IntKind.i64.wrap ((1 : Int) + pickI bs l (p + (1 : Int)) (9 : Int)))) (.need (¬IntKind.i64.wrap ((1 : Int) + pickI bs l (p + (1 : Int)) (9 : Int)) = (0 : Int)) (.fin (.agg #[.int .i64 (qN (IntKind.i64.wrap (pickI bs l p 40 - 15)) (IntKind.i64.wrap (1 + pickI bs l (p + 1) 9))), .int .i64 (qD (IntKind.i64.wrap (pickI bs l p 40 - 15)) (IntKind.i64.wrap (1 + pickI bs l (p + 1) 9)))]) [some ⟨.view, .bytes (bs)⟩, some ⟨.box, .vals [.slice (some ⟨0, 0, none⟩) (l) (c), .int .i64 (p + 1 + 1)]⟩, some ⟨.box, .vals [.int .i64 (qN (IntKind.i64.wrap (pickI bs l p 40 - 15)) (IntKind.i64.wrap (1 + pickI bs l (p + 1) 9))), .int .i64 (qD (IntKind.i64.wrap (pickI bs l p 40 - 15)) (IntKind.i64.wrap (1 + pickI bs l (p + 1) 9)))]⟩]))))) := by kernel_rfl
def rrN (bs : List Int) (l : Nat) (p : Int) : Int := qN (pickI bs l p 40 - 15) (1 + pickI bs l (p + 1) 9)
def rrD (bs : List Int) (l : Nat) (p : Int) : Int := qD (pickI bs l p 40 - 15) (1 + pickI bs l (p + 1) 9)
def rratS : RSpec := fun bs l p rest ex => match rest, ex with
  | [], none => some (.agg #[.int .i64 (rrN bs l p), .int .i64 (rrD bs l p)], p + 2, [rdK bs l p])
  | _, _ => none
theorem rratS_ok : SpecOk Try.prog 131 rratS := by
  intro bs l c p rest0 ex v p' C h hC
  unfold rratS at h
  split at h
  rotate_left
  · cases h
  obtain ⟨rfl, rfl, rfl⟩ : Value.agg #[.int .i64 (rrN bs l p), .int .i64 (rrD bs l p)] = v ∧ p + 2 = p' ∧ [rdK bs l p] = C := by simpa using h
  have h1 := hC.1
  refine ⟨ER4, 30, 12, ER4_ok, rfl, ?_⟩
  rw [tr_rrat]
  have h2 := h1.at (q := p) (by omega) (by omega)
  have h3 := h1.at (q := p + 1) (by omega) (by omega)
  have b1 := pickI_bd (k := 40) h2 (by omega)
  have b2 := pickI_bd (k := 9) h3 (by omega)
  rw [wr (x := pickI bs l p 40 - 15) (by omega), wr (x := 1 + pickI bs l (p + 1) 9) (by omega)]
  exact ⟨h2, h3, by unfold big; omega, by unfold big; omega, by omega, rfl, box2 (by omega) _⟩
def J4 : List (FuncId × RSpec) := (131, rratS) :: J3
theorem J4_ok : JOk Try.prog J4 := J3_ok.cons (entersB_res (by kernel_rfl)).1 rratS_ok
def ER5 : Env := withJ (tabE T1) J4
theorem ER5_ok : EnvOk Try.prog ER5 := withJ_ok mixed (tabE_ok T1_ok) J4_ok
set_option maxRecDepth 100000 in
theorem tr_arat (bs : List Int) (l c : Nat) (p : Int) : bodyM Try.prog ER5 (runM Try.prog ER5 30 12) 30 76 [.pointer (some ⟨1, 0, none⟩)] (memR bs l c p none) .fin = .need (rdK bs l p) (.need (rdC bs l (p + (2 : Int))) (brT (pickI bs l (p + 2) 16 == 0) (.need (rdC bs l (p + (2 : Int) + (1 : Int))) (.need ((1 : Nat) ≤ (4 : Nat) ∧ (4 : Nat) ≤ (4 : Nat) ∧ (4 : Nat) = (4 : Nat)) (.fin (.agg #[.int .i64 (rrN bs l p), .int .i64 (oneI bs l (p + 2 + 1) 4 [0, -1, 20000001, 20000000])]) [some ⟨.view, .bytes (bs)⟩, some ⟨.box, .vals [.slice (some ⟨0, 0, none⟩) (l) (c), .int .i64 (p + 2 + 1 + 1)]⟩, some ⟨.box, .vals [.int .i64 (rrN bs l p), .int .i64 (oneI bs l (p + 2 + 1) 4 [0, -1, 20000001, 20000000])]⟩, some ⟨.box, .vals [.int .i64 (rrN bs l p), .int .i64 (oneI bs l (p + 2 + 1) 4 [0, -1, 20000001, 20000000])]⟩, some ⟨.row 3 1, .vals [.int .i64 (0), .int .i64 (-1), .int .i64 (20000001), .int .i64 (20000000)]⟩]))) (brT (pickI bs l (p + 2) 16 == 1) (.fin (.agg #[.int .i64 (2), .int .i64 (4)]) [some ⟨.view, .bytes (bs)⟩, some ⟨.box, .vals [.slice (some ⟨0, 0, none⟩) (l) (c), .int .i64 (p + 2 + 1)]⟩, some ⟨.box, .vals [.int .i64 (2), .int .i64 (4)]⟩, some ⟨.box, .vals [.int .i64 (2), .int .i64 (4)]⟩]) (brT (pickI bs l (p + 2) 16 == 2) (.need (rdC bs l (p + (2 : Int) + (1 : Int))) (.need ((1 : Nat) ≤ (3 : Nat) ∧ (3 : Nat) ≤ (3 : Nat) ∧ (3 : Nat) = (3 : Nat)) (.fin (.agg #[.int .i64 (oneI bs l (p + 2 + 1) 3 [100000000000, -100000000000, 100000000001]), .int .i64 (1)]) [some ⟨.view, .bytes (bs)⟩, some ⟨.box, .vals [.slice (some ⟨0, 0, none⟩) (l) (c), .int .i64 (p + 2 + 1 + 1)]⟩, some ⟨.box, .vals [.int .i64 (oneI bs l (p + 2 + 1) 3 [100000000000, -100000000000, 100000000001]), .int .i64 (1)]⟩, some ⟨.box, .vals [.int .i64 (oneI bs l (p + 2 + 1) 3 [100000000000, -100000000000, 100000000001]), .int .i64 (1)]⟩, some ⟨.row 3 1, .vals [.int .i64 (100000000000), .int .i64 (-100000000000), .int .i64 (100000000001)]⟩]))) (.fin (.agg #[.int .i64 (rrN bs l p), .int .i64 (rrD bs l p)]) [some ⟨.view, .bytes (bs)⟩, some ⟨.box, .vals [.slice (some ⟨0, 0, none⟩) (l) (c), .int .i64 (p + 2 + 1)]⟩, some ⟨.box, .vals [.int .i64 (rrN bs l p), .int .i64 (rrD bs l p)]⟩, some ⟨.box, .vals [.int .i64 (rrN bs l p), .int .i64 (rrD bs l p)]⟩]))))) := by kernel_rfl
set_option maxRecDepth 100000 in
theorem tr_aseg (bs : List Int) (l c : Nat) (p : Int) : bodyM Try.prog ER5 (runM Try.prog ER5 30 12) 30 93 [.pointer (some ⟨1, 0, none⟩)] (memR bs l c p none) .fin = .need (rdK bs l p) (.need (rdK bs l (apP bs l p)) (brT (negB false (apX bs l p == pickI bs l (apP bs l p) 9 - 2 && (apY bs l p == pickI bs l (apP bs l p + 1) 9 - 2 && true))) (.need (rdC bs l (apP bs l p + (2 : Int))) (brT (decide (0 < pickI bs l (apP bs l p + 2) 4)) (.fin (.agg #[.int .i64 (apX bs l p), .int .i64 (apY bs l p), .int .i64 (IntKind.i64.wrap (pickI bs l (apP bs l p) 9 - 2 + 1)), .int .i64 (pickI bs l (apP bs l p + 1) 9 - 2)]) [some ⟨.view, .bytes (bs)⟩, some ⟨.box, .vals [.slice (some ⟨0, 0, none⟩) (l) (c), .int .i64 (apP bs l p + 2 + 1)]⟩, some ⟨.box, .vals [.int .i64 (apX bs l p), .int .i64 (apY bs l p), .int .i64 (IntKind.i64.wrap (pickI bs l (apP bs l p) 9 - 2 + 1)), .int .i64 (pickI bs l (apP bs l p + 1) 9 - 2)]⟩, some ⟨.box, .vals [.int .i64 (apX bs l p), .int .i64 (apY bs l p), .int .i64 (IntKind.i64.wrap (pickI bs l (apP bs l p) 9 - 2 + 1)), .int .i64 (pickI bs l (apP bs l p + 1) 9 - 2)]⟩]) (.fin (.agg #[.int .i64 (apX bs l p), .int .i64 (apY bs l p), .int .i64 (pickI bs l (apP bs l p) 9 - 2), .int .i64 (pickI bs l (apP bs l p + 1) 9 - 2)]) [some ⟨.view, .bytes (bs)⟩, some ⟨.box, .vals [.slice (some ⟨0, 0, none⟩) (l) (c), .int .i64 (apP bs l p + 2 + 1)]⟩, some ⟨.box, .vals [.int .i64 (apX bs l p), .int .i64 (apY bs l p), .int .i64 (pickI bs l (apP bs l p) 9 - 2), .int .i64 (pickI bs l (apP bs l p + 1) 9 - 2)]⟩, some ⟨.box, .vals [.int .i64 (apX bs l p), .int .i64 (apY bs l p), .int .i64 (pickI bs l (apP bs l p) 9 - 2), .int .i64 (pickI bs l (apP bs l p + 1) 9 - 2)]⟩]))) (.fin (.agg #[.int .i64 (apX bs l p), .int .i64 (apY bs l p), .int .i64 (pickI bs l (apP bs l p) 9 - 2), .int .i64 (pickI bs l (apP bs l p + 1) 9 - 2)]) [some ⟨.view, .bytes (bs)⟩, some ⟨.box, .vals [.slice (some ⟨0, 0, none⟩) (l) (c), .int .i64 (apP bs l p + 2)]⟩, some ⟨.box, .vals [.int .i64 (apX bs l p), .int .i64 (apY bs l p), .int .i64 (pickI bs l (apP bs l p) 9 - 2), .int .i64 (pickI bs l (apP bs l p + 1) 9 - 2)]⟩, some ⟨.box, .vals [.int .i64 (apX bs l p), .int .i64 (apY bs l p), .int .i64 (pickI bs l (apP bs l p) 9 - 2), .int .i64 (pickI bs l (apP bs l p + 1) 9 - 2)]⟩]))) := by kernel_rfl
def arA : List Int := [0, -1, 20000001, 20000000]
def arB : List Int := [100000000000, -100000000000, 100000000001]
def arQ (bs : List Int) (l : Nat) (p : Int) : Int := pickI bs l (p + 2) 16
def arN (bs : List Int) (l : Nat) (p : Int) : Int := if arQ bs l p = 1 then 2 else if arQ bs l p = 2 then oneI bs l (p + 3) 3 arB else rrN bs l p
def arD (bs : List Int) (l : Nat) (p : Int) : Int := if arQ bs l p = 0 then oneI bs l (p + 3) 4 arA else if arQ bs l p = 1 then 4 else if arQ bs l p = 2 then 1 else rrD bs l p
def arP (bs : List Int) (l : Nat) (p : Int) : Int := if arQ bs l p = 0 ∨ arQ bs l p = 2 then p + 4 else p + 3
theorem arP_bd (bs : List Int) (l : Nat) (p : Int) : p + 3 ≤ arP bs l p ∧ arP bs l p ≤ p + 4 := by unfold arP; split <;> omega
def aratS : RSpec := fun bs l p rest ex => match rest, ex with
  | [], none => some (.agg #[.int .i64 (arN bs l p), .int .i64 (arD bs l p)], arP bs l p, [rdK bs l p])
  | _, _ => none
theorem aratS_ok : SpecOk Try.prog 76 aratS := by
  intro bs l c p rest0 ex v p' C h hC
  unfold aratS at h
  split at h
  rotate_left
  · cases h
  obtain ⟨rfl, rfl, rfl⟩ : Value.agg #[.int .i64 (arN bs l p), .int .i64 (arD bs l p)] = v ∧ arP bs l p = p' ∧ [rdK bs l p] = C := by simpa using h
  have h1 := hC.1
  refine ⟨ER5, 30, 12, ER5_ok, rfl, ?_⟩
  rw [tr_arat]
  have e3 : p + 2 + 1 = p + 3 := by omega
  have e4 : p + 3 + 1 = p + 4 := by omega
  simp only [e3, e4]
  refine ⟨h1, h1.at (by omega) (by omega), brT_ok.2 ⟨fun hq => ?_, fun hq => brT_ok.2 ⟨fun hq' => ?_, fun hq' => brT_ok.2 ⟨fun hr => ?_, fun hr => ?_⟩⟩⟩⟩
  · have hq : arQ bs l p = 0 := by simpa [arQ] using hq
    exact ⟨h1.at (by omega) (by omega), by decide, veq2 (by unfold arN; rw [if_neg (by omega), if_neg (by omega)]) (by unfold arD; rw [if_pos hq]; rfl), box2 (by unfold arP; rw [if_pos (.inl hq)]) _⟩
  · have hq' : arQ bs l p = 1 := by simpa [arQ] using hq'
    exact ⟨veq2 (by unfold arN; rw [if_pos hq']) (by unfold arD; rw [if_neg (by omega), if_pos hq']), box2 (by unfold arP; rw [if_neg (by omega)]) _⟩
  · have hr : arQ bs l p = 2 := by simpa [arQ] using hr
    exact ⟨h1.at (by omega) (by omega), by decide, veq2 (by unfold arN; rw [if_neg (by omega), if_pos hr]; rfl) (by unfold arD; rw [if_neg (by omega), if_neg (by omega), if_pos hr]), box2 (by unfold arP; rw [if_pos (.inr hr)]) _⟩
  · have hq : ¬ arQ bs l p = 0 := by simpa [arQ] using hq
    have hq' : ¬ arQ bs l p = 1 := by simpa [arQ] using hq'
    have hr : ¬ arQ bs l p = 2 := by simpa [arQ] using hr
    exact ⟨veq2 (by unfold arN; rw [if_neg hq', if_neg hr]) (by unfold arD; rw [if_neg hq, if_neg hq', if_neg hr]), box2 (by unfold arP; rw [if_neg (by omega)]) _⟩
def asQ (bs : List Int) (l : Nat) (p : Int) : Prop := apX bs l p = pickI bs l (apP bs l p) 9 - 2 ∧ apY bs l p = pickI bs l (apP bs l p + 1) 9 - 2
instance (bs : List Int) (l : Nat) (p : Int) : Decidable (asQ bs l p) := inferInstanceAs (Decidable (_ ∧ _))
def asX (bs : List Int) (l : Nat) (p : Int) : Int := if asQ bs l p ∧ 0 < pickI bs l (apP bs l p + 2) 4 then pickI bs l (apP bs l p) 9 - 2 + 1 else pickI bs l (apP bs l p) 9 - 2
def asY (bs : List Int) (l : Nat) (p : Int) : Int := pickI bs l (apP bs l p + 1) 9 - 2
def asP (bs : List Int) (l : Nat) (p : Int) : Int := if asQ bs l p then apP bs l p + 3 else apP bs l p + 2
theorem asP_bd (bs : List Int) (l : Nat) (p : Int) : p + 5 ≤ asP bs l p ∧ asP bs l p ≤ p + 7 := by have := apP_bd bs l p; unfold asP; split <;> omega
def asegS : RSpec := fun bs l p rest ex => match rest, ex with
  | [], none => some (.agg #[.int .i64 (apX bs l p), .int .i64 (apY bs l p), .int .i64 (asX bs l p), .int .i64 (asY bs l p)], asP bs l p, [rdK bs l p, rdK bs l (apP bs l p)])
  | _, _ => none
theorem veq4 {a b c c' d d' : Int} (h : c = c') (k : d = d') : Value.agg #[.int .i64 a, .int .i64 b, .int .i64 c, .int .i64 d] = .agg #[.int .i64 a, .int .i64 b, .int .i64 c', .int .i64 d'] := by rw [h, k]
theorem asegS_ok : SpecOk Try.prog 93 asegS := by
  intro bs l c p rest0 ex v p' C h hC
  unfold asegS at h
  split at h
  rotate_left
  · cases h
  obtain ⟨rfl, rfl, rfl⟩ : Value.agg #[.int .i64 (apX bs l p), .int .i64 (apY bs l p), .int .i64 (asX bs l p), .int .i64 (asY bs l p)] = v ∧ asP bs l p = p' ∧ [rdK bs l p, rdK bs l (apP bs l p)] = C := by simpa using h
  obtain ⟨h1, h2, _⟩ := hC
  refine ⟨ER5, 30, 12, ER5_ok, rfl, ?_⟩
  rw [tr_aseg]
  have r1 := h2.at (q := apP bs l p) (by omega) (by omega)
  have r3 := h2.at (q := apP bs l p + 2) (by omega) (by omega)
  have b1 := pickI_bd (k := 9) r1 (by omega)
  have w : IntKind.i64.wrap (pickI bs l (apP bs l p) 9 - 2 + 1) = pickI bs l (apP bs l p) 9 - 2 + 1 := wr (by omega)
  have en : negB false (apX bs l p == pickI bs l (apP bs l p) 9 - 2 && (apY bs l p == pickI bs l (apP bs l p + 1) 9 - 2 && true)) = decide (asQ bs l p) := by
    show (apX bs l p == pickI bs l (apP bs l p) 9 - 2 && (apY bs l p == pickI bs l (apP bs l p + 1) 9 - 2 && true)) = decide (asQ bs l p)
    exact Bool.eq_iff_iff.2 ⟨fun h => decide_eq_true (by simpa [asQ] using h), fun h => by
      have := of_decide_eq_true h
      simpa [asQ] using this⟩
  rw [en, w]
  refine ⟨h1, h2, brT_ok.2 ⟨fun hq => ⟨r3, brT_ok.2 ⟨fun hz => ?_, fun hz => ?_⟩⟩, fun hq => ?_⟩⟩
  · have hq := of_decide_eq_true hq
    have hz := of_decide_eq_true hz
    exact ⟨veq4 (by unfold asX; rw [if_pos ⟨hq, hz⟩]) rfl, box2 (by unfold asP; rw [if_pos hq]; omega) _⟩
  · have hq := of_decide_eq_true hq
    have hz := of_decide_eq_false hz
    exact ⟨veq4 (by unfold asX; rw [if_neg (fun h => hz h.2)]) rfl, box2 (by unfold asP; rw [if_pos hq]; omega) _⟩
  · have hq := of_decide_eq_false hq
    exact ⟨veq4 (by unfold asX; rw [if_neg (fun h => hq h.1)]) rfl, box2 (by unfold asP; rw [if_neg hq]) _⟩
def J5 : List (FuncId × RSpec) := (76, aratS) :: (93, asegS) :: J4
theorem J5_ok : JOk Try.prog J5 := (J4_ok.cons (entersB_res (by kernel_rfl)).1 asegS_ok).cons (entersB_res (by kernel_rfl)).1 aratS_ok
def ER6 : Env := withJ (tabE T1) J5
theorem ER6_ok : EnvOk Try.prog ER6 := withJ_ok mixed (tabE_ok T1_ok) J5_ok
set_option maxRecDepth 100000 in
theorem tr_dOnSeg (bs : List Int) (n : Nat) : bodyX Try.prog ER6 30 12 30 [.row n (.bytes bs)] = brT (decide (2000 < (↑n : Int))) (.need ((0 : Int) ≤ bndI none (0 : Int) ∧ bndI none (0 : Int) ≤ bndI (some (IntKind.i64, (2000 : Int))) (↑n : Int) ∧ bndI (some (IntKind.i64, (2000 : Int))) (↑n : Int) ≤ (↑n : Int)) (.need (rdK bs (2000 : Nat) (0 : Int)) (.need (rdK bs (2000 : Nat) (apP bs (2000 : Nat) (0 : Int))) (.need (rdC bs (2000 : Nat) (asP bs (2000 : Nat) (0 : Int))) (brT (pickI bs 2000 (asP bs 2000 0) 2 == 0) (.need (¬(2 : Int) = (0 : Int)) (.need (¬(2 : Int) = (0 : Int)) (.fin (.tuple #[.agg #[.int .i64 (apX bs 2000 0), .int .i64 (apY bs 2000 0), .int .i64 (asX bs 2000 0), .int .i64 (asY bs 2000 0)], .agg #[.int .i64 (IntKind.i64.wrap ((IntKind.i64.wrap (apX bs 2000 0 + asX bs 2000 0)).tdiv 2)), .int .i64 (IntKind.i64.wrap ((IntKind.i64.wrap (apY bs 2000 0 + asY bs 2000 0)).tdiv 2))]]) [some ⟨.view, .bytes (bs)⟩, some ⟨.box, .vals [.int .i64 (apX bs 2000 0), .int .i64 (apY bs 2000 0), .int .i64 (asX bs 2000 0), .int .i64 (asY bs 2000 0)]⟩, some ⟨.box, .vals [.int .i64 (IntKind.i64.wrap ((IntKind.i64.wrap (apX bs 2000 0 + asX bs 2000 0)).tdiv 2)), .int .i64 (IntKind.i64.wrap ((IntKind.i64.wrap (apY bs 2000 0 + asY bs 2000 0)).tdiv 2))]⟩, some ⟨.box, .vals [.slice (some ⟨0, 0, none⟩) (2000) (2000), .int .i64 (asP bs 2000 0 + 1)]⟩, some ⟨.box, .vals [.int .i64 (apX bs 2000 0), .int .i64 (apY bs 2000 0), .int .i64 (asX bs 2000 0), .int .i64 (asY bs 2000 0)]⟩]))) (.need (rdK bs (2000 : Nat) (asP bs (2000 : Nat) (0 : Int) + (1 : Int))) (.fin (.tuple #[.agg #[.int .i64 (apX bs 2000 0), .int .i64 (apY bs 2000 0), .int .i64 (asX bs 2000 0), .int .i64 (asY bs 2000 0)], .agg #[.int .i64 (apX bs 2000 (asP bs 2000 0 + 1)), .int .i64 (apY bs 2000 (asP bs 2000 0 + 1))]]) [some ⟨.view, .bytes (bs)⟩, some ⟨.box, .vals [.int .i64 (apX bs 2000 0), .int .i64 (apY bs 2000 0), .int .i64 (asX bs 2000 0), .int .i64 (asY bs 2000 0)]⟩, some ⟨.box, .vals [.int .i64 (apX bs 2000 (asP bs 2000 0 + 1)), .int .i64 (apY bs 2000 (asP bs 2000 0 + 1))]⟩, some ⟨.box, .vals [.slice (some ⟨0, 0, none⟩) (2000) (2000), .int .i64 (apP bs 2000 (asP bs 2000 0 + 1))]⟩, some ⟨.box, .vals [.int .i64 (apX bs 2000 0), .int .i64 (apY bs 2000 0), .int .i64 (asX bs 2000 0), .int .i64 (asY bs 2000 0)]⟩, none]))))))) (.need (rdK bs n (0 : Int)) (.need (rdK bs n (apP bs n (0 : Int))) (.need (rdC bs n (asP bs n (0 : Int))) (brT (pickI bs n (asP bs n 0) 2 == 0) (.need (¬(2 : Int) = (0 : Int)) (.need (¬(2 : Int) = (0 : Int)) (.fin (.tuple #[.agg #[.int .i64 (apX bs n 0), .int .i64 (apY bs n 0), .int .i64 (asX bs n 0), .int .i64 (asY bs n 0)], .agg #[.int .i64 (IntKind.i64.wrap ((IntKind.i64.wrap (apX bs n 0 + asX bs n 0)).tdiv 2)), .int .i64 (IntKind.i64.wrap ((IntKind.i64.wrap (apY bs n 0 + asY bs n 0)).tdiv 2))]]) [some ⟨.view, .bytes (bs)⟩, some ⟨.box, .vals [.int .i64 (apX bs n 0), .int .i64 (apY bs n 0), .int .i64 (asX bs n 0), .int .i64 (asY bs n 0)]⟩, some ⟨.box, .vals [.int .i64 (IntKind.i64.wrap ((IntKind.i64.wrap (apX bs n 0 + asX bs n 0)).tdiv 2)), .int .i64 (IntKind.i64.wrap ((IntKind.i64.wrap (apY bs n 0 + asY bs n 0)).tdiv 2))]⟩, some ⟨.box, .vals [.slice (some ⟨0, 0, none⟩) (n) (n), .int .i64 (asP bs n 0 + 1)]⟩, some ⟨.box, .vals [.int .i64 (apX bs n 0), .int .i64 (apY bs n 0), .int .i64 (asX bs n 0), .int .i64 (asY bs n 0)]⟩]))) (.need (rdK bs n (asP bs n (0 : Int) + (1 : Int))) (.fin (.tuple #[.agg #[.int .i64 (apX bs n 0), .int .i64 (apY bs n 0), .int .i64 (asX bs n 0), .int .i64 (asY bs n 0)], .agg #[.int .i64 (apX bs n (asP bs n 0 + 1)), .int .i64 (apY bs n (asP bs n 0 + 1))]]) [some ⟨.view, .bytes (bs)⟩, some ⟨.box, .vals [.int .i64 (apX bs n 0), .int .i64 (apY bs n 0), .int .i64 (asX bs n 0), .int .i64 (asY bs n 0)]⟩, some ⟨.box, .vals [.int .i64 (apX bs n (asP bs n 0 + 1)), .int .i64 (apY bs n (asP bs n 0 + 1))]⟩, some ⟨.box, .vals [.slice (some ⟨0, 0, none⟩) (n) (n), .int .i64 (apP bs n (asP bs n 0 + 1))]⟩, some ⟨.box, .vals [.int .i64 (apX bs n 0), .int .i64 (apY bs n 0), .int .i64 (asX bs n 0), .int .i64 (asY bs n 0)]⟩, none])))))) := by kernel_rfl
/-- Two drawn fractions. -/
def d2r (bs : List Int) (n : Nat) : Nat → Int
  | 0 => arN bs (rdL n) 0
  | 1 => arD bs (rdL n) 0
  | 2 => arN bs (rdL n) (arP bs (rdL n) 0)
  | _ => arD bs (rdL n) (arP bs (rdL n) 0)
def pTwoR : List DArg → Option (Value × List Prop)
  | [.row n (.bytes bs)] => some (.tuple #[agg2 (d2r bs n 0) (d2r bs n 1), agg2 (d2r bs n 2) (d2r bs n 3)], [Bytes bs, n ≤ bs.length])
  | _ => none
def pFl : List DArg → Option (Value × List Prop)
  | [.row n (.bytes bs)] => some (agg2 (d2r bs n 0) (d2r bs n 1), [Bytes bs, n ≤ bs.length])
  | _ => none
end Go.Proofs.Ytblpldapmmoheab
