/-
  Drawn graphs. Written by an AI agent.
-/
import Derived.Test.YtoijfjifaljpaaaRdC
import Derived.Test.YtoijfjifaljpaaaAbsV
namespace Go.Proofs.Ytoijfjifaljpaaa
open Go.RowKit

set_option maxRecDepth 100000 in
theorem tr_rgr (bs : List Int) (l c : Nat) (p : Int) : bodyM Try.prog ER2 (runM Try.prog ER2 30 12) 30 85 [.pointer (some ⟨1, 0, none⟩)] (memR bs l c p none) .fin = .need (rdC bs l p) (.need (rdC bs l (p + (1 : Int))) (.fin (.agg #[.int .i64 (IntKind.i64.wrap (pickI bs l p 7 - 3)), .int .i64 (IntKind.i64.wrap (pickI bs l (p + 1) 9 - 4))]) [some ⟨.view, .bytes (bs)⟩, some ⟨.box, .vals [.slice (some ⟨0, 0, none⟩) (l) (c), .int .i64 (p + 1 + 1)]⟩, some ⟨.box, .vals [.int .i64 (IntKind.i64.wrap (pickI bs l p 7 - 3)), .int .i64 (IntKind.i64.wrap (pickI bs l (p + 1) 9 - 4))]⟩])) := by kernel_rfl
def rgrS : RSpec := fun bs l p rest ex => match rest, ex with
  | [], none => some (.agg #[.int .i64 (pickI bs l p 7 - 3), .int .i64 (pickI bs l (p + 1) 9 - 4)], p + 2, [rdK bs l p])
  | _, _ => none
theorem rgrS_ok : SpecOk Try.prog 85 rgrS := by
  intro bs l c p rest0 ex v p' C h hC
  unfold rgrS at h
  split at h
  rotate_left
  · cases h
  obtain ⟨rfl, rfl, rfl⟩ : Value.agg #[.int .i64 (pickI bs l p 7 - 3), .int .i64 (pickI bs l (p + 1) 9 - 4)] = v ∧ p + 2 = p' ∧ [rdK bs l p] = C := by simpa using h
  have h1 := hC.1
  refine ⟨ER2, 30, 12, ER2_ok, rfl, ?_⟩
  rw [tr_rgr]
  have h2 := h1.at (q := p) (by omega) (by omega)
  have h3 := h1.at (q := p + 1) (by omega) (by omega)
  have b1 := pickI_bd (k := 7) h2 (by omega)
  have b2 := pickI_bd (k := 9) h3 (by omega)
  exact ⟨h2, h3, by rw [wr (by omega), wr (by omega)], box2 (by omega) _⟩
def JGr : List (FuncId × RSpec) := (85, rgrS) :: (53, aptS) :: J2
theorem JGr_ok : JOk Try.prog JGr := (J2_ok.cons (entersB_res (by kernel_rfl)).1 aptS_ok).cons (entersB_res (by kernel_rfl)).1 rgrS_ok
def ERG : Env := withJ (tabE B0) JGr
theorem ERG_ok : EnvOk Try.prog ERG := withJ_ok mixed (tabE_ok B0_ok) JGr_ok
set_option maxRecDepth 100000 in
theorem tr_agr (bs : List Int) (l c : Nat) (p : Int) : bodyM Try.prog ERG (runM Try.prog ERG 30 12) 30 55 [.pointer (some ⟨1, 0, none⟩)] (memR bs l c p none) .fin = .need (rdK bs l p) (.need (rdC bs l (p + (2 : Int))) (brT (pickI bs l (p + 2) 16 == 0) (.need (rdC bs l (p + (2 : Int) + (1 : Int))) (.need ((1 : Nat) ≤ (3 : Nat) ∧ (3 : Nat) ≤ (3 : Nat) ∧ (3 : Nat) = (3 : Nat)) (.fin (.agg #[.int .i64 (oneI bs l (p + 2 + 1) 3 [1001, -1001, 1000]), .int .i64 (pickI bs l (p + 1) 9 - 4)]) [some ⟨.view, .bytes (bs)⟩, some ⟨.box, .vals [.slice (some ⟨0, 0, none⟩) (l) (c), .int .i64 (p + 2 + 1 + 1)]⟩, some ⟨.box, .vals [.int .i64 (oneI bs l (p + 2 + 1) 3 [1001, -1001, 1000]), .int .i64 (pickI bs l (p + 1) 9 - 4)]⟩, some ⟨.box, .vals [.int .i64 (oneI bs l (p + 2 + 1) 3 [1001, -1001, 1000]), .int .i64 (pickI bs l (p + 1) 9 - 4)]⟩, some ⟨.row 3 1, .vals [.int .i64 (1001), .int .i64 (-1001), .int .i64 (1000)]⟩]))) (brT (pickI bs l (p + 2) 16 == 1) (.need (rdC bs l (p + (2 : Int) + (1 : Int))) (.need ((1 : Nat) ≤ (3 : Nat) ∧ (3 : Nat) ≤ (3 : Nat) ∧ (3 : Nat) = (3 : Nat)) (.fin (.agg #[.int .i64 (pickI bs l p 7 - 3), .int .i64 (oneI bs l (p + 2 + 1) 3 [1001, -1001, 1000])]) [some ⟨.view, .bytes (bs)⟩, some ⟨.box, .vals [.slice (some ⟨0, 0, none⟩) (l) (c), .int .i64 (p + 2 + 1 + 1)]⟩, some ⟨.box, .vals [.int .i64 (pickI bs l p 7 - 3), .int .i64 (oneI bs l (p + 2 + 1) 3 [1001, -1001, 1000])]⟩, some ⟨.box, .vals [.int .i64 (pickI bs l p 7 - 3), .int .i64 (oneI bs l (p + 2 + 1) 3 [1001, -1001, 1000])]⟩, some ⟨.row 3 1, .vals [.int .i64 (1001), .int .i64 (-1001), .int .i64 (1000)]⟩]))) (.fin (.agg #[.int .i64 (pickI bs l p 7 - 3), .int .i64 (pickI bs l (p + 1) 9 - 4)]) [some ⟨.view, .bytes (bs)⟩, some ⟨.box, .vals [.slice (some ⟨0, 0, none⟩) (l) (c), .int .i64 (p + 2 + 1)]⟩, some ⟨.box, .vals [.int .i64 (pickI bs l p 7 - 3), .int .i64 (pickI bs l (p + 1) 9 - 4)]⟩, some ⟨.box, .vals [.int .i64 (pickI bs l p 7 - 3), .int .i64 (pickI bs l (p + 1) 9 - 4)]⟩])))) := by kernel_rfl
def agL : List Int := [1001, -1001, 1000]
def agQ (bs : List Int) (l : Nat) (p : Int) : Int := pickI bs l (p + 2) 16
def agM (bs : List Int) (l : Nat) (p : Int) : Int := if agQ bs l p = 0 then oneI bs l (p + 3) 3 agL else pickI bs l p 7 - 3
def agB (bs : List Int) (l : Nat) (p : Int) : Int := if agQ bs l p = 1 then oneI bs l (p + 3) 3 agL else pickI bs l (p + 1) 9 - 4
def agP (bs : List Int) (l : Nat) (p : Int) : Int := if agQ bs l p = 0 ∨ agQ bs l p = 1 then p + 4 else p + 3
theorem agP_bd (bs : List Int) (l : Nat) (p : Int) : p + 3 ≤ agP bs l p ∧ agP bs l p ≤ p + 4 := by unfold agP; split <;> omega
def agrS : RSpec := fun bs l p rest ex => match rest, ex with
  | [], none => some (.agg #[.int .i64 (agM bs l p), .int .i64 (agB bs l p)], agP bs l p, [rdK bs l p])
  | _, _ => none
theorem agrS_ok : SpecOk Try.prog 55 agrS := by
  intro bs l c p rest0 ex v p' C h hC
  unfold agrS at h
  split at h
  rotate_left
  · cases h
  obtain ⟨rfl, rfl, rfl⟩ : Value.agg #[.int .i64 (agM bs l p), .int .i64 (agB bs l p)] = v ∧ agP bs l p = p' ∧ [rdK bs l p] = C := by simpa using h
  have h1 := hC.1
  refine ⟨ERG, 30, 12, ERG_ok, rfl, ?_⟩
  rw [tr_agr]
  have e3 : p + 2 + 1 = p + 3 := by omega
  have e4 : p + 3 + 1 = p + 4 := by omega
  simp only [e3, e4]
  refine ⟨h1, h1.at (by omega) (by omega), brT_ok.2 ⟨fun hq => ?_, fun hq => brT_ok.2 ⟨fun hq' => ?_, fun hq' => ?_⟩⟩⟩
  · have hq : agQ bs l p = 0 := by simpa [agQ] using hq
    exact ⟨h1.at (by omega) (by omega), by decide, veq2 (by unfold agM; rw [if_pos hq]; rfl) (by unfold agB; rw [if_neg (by omega)]), box2 (by unfold agP; rw [if_pos (.inl hq)]) _⟩
  · have hq : ¬ agQ bs l p = 0 := by simpa [agQ] using hq
    have hq' : agQ bs l p = 1 := by simpa [agQ] using hq'
    exact ⟨h1.at (by omega) (by omega), by decide, veq2 (by unfold agM; rw [if_neg hq]) (by unfold agB; rw [if_pos hq']; rfl), box2 (by unfold agP; rw [if_pos (.inr hq')]) _⟩
  · have hq : ¬ agQ bs l p = 0 := by simpa [agQ] using hq
    have hq' : ¬ agQ bs l p = 1 := by simpa [agQ] using hq'
    exact ⟨veq2 (by unfold agM; rw [if_neg hq]) (by unfold agB; rw [if_neg hq']), box2 (by unfold agP; rw [if_neg (by omega)]) _⟩
def JGr2 : List (FuncId × RSpec) := (55, agrS) :: JGr
theorem JGr2_ok : JOk Try.prog JGr2 := JGr_ok.cons (entersB_res (by kernel_rfl)).1 agrS_ok
def ERG2 : Env := withJ (tabE B0) JGr2
theorem ERG2_ok : EnvOk Try.prog ERG2 := withJ_ok mixed (tabE_ok B0_ok) JGr2_ok
set_option maxRecDepth 100000 in
theorem tr_dDg (bs : List Int) (n : Nat) : bodyV Try.prog ERG2 30 12 27 [.row n (.bytes bs)] = brT (decide (2000 < (↑n : Int))) (.need ((0 : Int) ≤ bndI none (0 : Int) ∧ bndI none (0 : Int) ≤ bndI (some (IntKind.i64, (2000 : Int))) (↑n : Int) ∧ bndI (some (IntKind.i64, (2000 : Int))) (↑n : Int) ≤ (↑n : Int)) (.need (rdK bs (2000 : Nat) (0 : Int)) (.fin (.agg #[.int .i64 (apX bs 2000 0), .int .i64 (apY bs 2000 0)]) []))) (.need (rdK bs n (0 : Int)) (.fin (.agg #[.int .i64 (apX bs n 0), .int .i64 (apY bs n 0)]) [])) := by kernel_rfl
set_option maxRecDepth 100000 in
theorem tr_dDp (bs : List Int) (n : Nat) : bodyV Try.prog ERG2 30 12 29 [.row n (.bytes bs)] = brT (decide (2000 < (↑n : Int))) (.need ((0 : Int) ≤ bndI none (0 : Int) ∧ bndI none (0 : Int) ≤ bndI (some (IntKind.i64, (2000 : Int))) (↑n : Int) ∧ bndI (some (IntKind.i64, (2000 : Int))) (↑n : Int) ≤ (↑n : Int)) (.need (rdK bs (2000 : Nat) (0 : Int)) (.fin (.agg #[.int .i64 (agM bs 2000 0), .int .i64 (agB bs 2000 0)]) []))) (.need (rdK bs n (0 : Int)) (.fin (.agg #[.int .i64 (agM bs n 0), .int .i64 (agB bs n 0)]) [])) := by kernel_rfl
set_option maxRecDepth 100000 in
theorem tr_dHo (bs : List Int) (n : Nat) : bodyV Try.prog ERG2 30 12 30 [.row n (.bytes bs)] = brT (decide (2000 < (↑n : Int))) (.need ((0 : Int) ≤ bndI none (0 : Int) ∧ bndI none (0 : Int) ≤ bndI (some (IntKind.i64, (2000 : Int))) (↑n : Int) ∧ bndI (some (IntKind.i64, (2000 : Int))) (↑n : Int) ≤ (↑n : Int)) (.need (rdK bs (2000 : Nat) (0 : Int)) (.need (rdK bs (2000 : Nat) (apP bs (2000 : Nat) (0 : Int))) (.fin (.tuple #[.agg #[.int .i64 (apX bs 2000 0), .int .i64 (apY bs 2000 0)], .agg #[.int .i64 (agM bs 2000 (apP bs 2000 0)), .int .i64 (agB bs 2000 (apP bs 2000 0))]]) [])))) (.need (rdK bs n (0 : Int)) (.need (rdK bs n (apP bs n (0 : Int))) (.fin (.tuple #[.agg #[.int .i64 (apX bs n 0), .int .i64 (apY bs n 0)], .agg #[.int .i64 (agM bs n (apP bs n 0)), .int .i64 (agB bs n (apP bs n 0))]]) []))) := by kernel_rfl
def dDgV (bs : List Int) (n : Nat) : Value := agg2 (apX bs (rdL n) 0) (apY bs (rdL n) 0)
def dDpV (bs : List Int) (n : Nat) : Value := agg2 (agM bs (rdL n) 0) (agB bs (rdL n) 0)
def dHoL (bs : List Int) (l : Nat) : Value := .tuple #[agg2 (apX bs l 0) (apY bs l 0), agg2 (agM bs l (apP bs l 0)) (agB bs l (apP bs l 0))]
def dHoV (bs : List Int) (n : Nat) : Value := dHoL bs (rdL n)
theorem res_dDg (bs : List Int) (n : Nat) (hb : Bytes bs) (hn : n ≤ bs.length) : Res Try.prog 27 [.row n (.bytes bs)] (dDgV bs n) := by
  refine bodyV_res mixed ERG2_ok (m := 30) (n := 12) rfl ?_
  rw [tr_dDg]
  unfold dDgV
  refine brT_ok.2 ⟨fun h => ?_, fun h => ?_⟩
  · have h := of_decide_eq_true h
    rw [rdL_of h]
    exact ⟨bnd2000 h, rdK0 hb hn (by omega) (by omega) (by omega) (by omega), rfl⟩
  · have h := of_decide_eq_false h
    rw [rdL_no h]
    exact ⟨rdK0 hb hn (by omega) (by omega) (by omega) (by omega), rfl⟩
theorem res_dDp (bs : List Int) (n : Nat) (hb : Bytes bs) (hn : n ≤ bs.length) : Res Try.prog 29 [.row n (.bytes bs)] (dDpV bs n) := by
  refine bodyV_res mixed ERG2_ok (m := 30) (n := 12) rfl ?_
  rw [tr_dDp]
  unfold dDpV
  refine brT_ok.2 ⟨fun h => ?_, fun h => ?_⟩
  · have h := of_decide_eq_true h
    rw [rdL_of h]
    exact ⟨bnd2000 h, rdK0 hb hn (by omega) (by omega) (by omega) (by omega), rfl⟩
  · have h := of_decide_eq_false h
    rw [rdL_no h]
    exact ⟨rdK0 hb hn (by omega) (by omega) (by omega) (by omega), rfl⟩
theorem res_dHo (bs : List Int) (n : Nat) (hb : Bytes bs) (hn : n ≤ bs.length) : Res Try.prog 30 [.row n (.bytes bs)] (dHoV bs n) := by
  refine bodyV_res mixed ERG2_ok (m := 30) (n := 12) rfl ?_
  rw [tr_dHo]
  unfold dHoV
  have key : ∀ l, l ≤ n → l ≤ 2000 → rdK bs l 0 ∧ rdK bs l (apP bs l 0) := fun l h1 h2 => by
    have b1 := apP_bd bs l 0
    exact ⟨rdK0 hb hn h1 h2 (by omega) (by omega), rdK0 hb hn h1 h2 (by omega) (by omega)⟩
  refine brT_ok.2 ⟨fun h => ?_, fun h => ?_⟩
  · have h := of_decide_eq_true h
    obtain ⟨k1, k2⟩ := key 2000 (by omega) (by omega)
    rw [rdL_of h]
    exact ⟨bnd2000 h, k1, k2, rfl⟩
  · have h := of_decide_eq_false h
    obtain ⟨k1, k2⟩ := key n (by omega) (by omega)
    rw [rdL_no h]
    exact ⟨k1, k2, rfl⟩
end Go.Proofs.Ytoijfjifaljpaaa
