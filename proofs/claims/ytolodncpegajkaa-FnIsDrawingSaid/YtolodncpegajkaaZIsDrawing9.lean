/-
  Texts that the proof needs, merged. Written by an AI agent.
-/
import Derived.Orders
import Derived.Below
import Derived.OrdersIn
import Derived.Deep.LoopGhost
import Derived.WalkKit
import Derived.Laws.CopyRow
import Derived.Laws.AppendOwn
import Derived.Laws.Slices
import Derived.Laws.MakeOwn
import Derived.Test.YtolodncpegajkaaRows
import Derived.ProofKit
import Derived.OpenShut
import Derived.Carry
import Derived.IntWalk
import Derived.Test.YtolodncpegajkaaProg
import Derived.WalkSpells
import Derived.WalkLawsBesides
import Derived.Lib.Hide
import Derived.Deep.QuietTactic
import Derived.BigQuiet
import Derived.KernelRfl
import Derived.Deep.RegionHeld3
import Derived.LoopTactic
import Derived.Laws.StructEq
import Derived.Laws.Tables
import Derived.RangeFuncNested
import Derived.RangeFuncLeaves
import Derived.Deep.Slices
import Derived.Deep.Fields
import Derived.ChangeSame
import Derived.Deep.DeepCutAuto
import Derived.Shelf.SlSortCmp.WholeK
import Derived.Sort.Grow
import Derived.Shelf.SlSortCmp.NoneTotal
import Derived.Test.YtolodncpegajkaaZIsDrawing8
namespace Go.Proofs.Ytolodncpegajkaa
set_option linter.all false
open Go.RowKit
set_option maxRecDepth 100000 in
set_option maxHeartbeats 1000000 in
theorem sh_run0 {bs : List Int} {l c : Nat} {p : Int} (h1 : rdC bs l p) (h2 : p ≤ 900000) (hk : pickI bs l p 6 = 0) : (bodyM Try.prog (ESh 0) (runM Try.prog (ESh 0) 30 12) 30 77 [.pointer (some ⟨1, 0, none⟩)] (memR bs l c p none) .fin).ok (fun _ _ => False) (fun u mem' => mem'.getD 1 none = some (rdBox 0 l c (p + 5)) ∧ RowIs (rowL (shV bs l p 0)) ⟨.row 37 2, .ints (flat (shV bs l p 0))⟩ u mem') := by
  rw [tr_sh0]
  try delta zB2 zB4 zR2 zI zsh0_0 zsh0_1 zsh0_2 zsh0_3 zsh0_4 zsh0_5 zsh0_6 zsh0_7 zsh0_8 zsh0_9
  have h0 := h1.2.2.1
  have R : ∀ q : Int, p ≤ q → q ≤ p + 5 → rdC bs l q := fun q g1 g2 => ⟨h1.1, h1.2.1, by omega, by omega, h1.2.2.2.2⟩
  have L : (shpK 0).length = 4 := rfl
  have T : Try.prog.types[(37 : Nat)].size = 2 := by kernel_rfl
  have a2 : p + 1 + 1 = p + 2 := by omega
  have a3 : p + 2 + 1 = p + 3 := by omega
  have a4 : p + 3 + 1 = p + 4 := by omega
  have a5 : p + 4 + 1 = p + 5 := by omega
  have a6 : p + 3 - 2 = p + 1 := by omega
  have a7 : p + 3 - 1 = p + 2 := by omega
  have N : ((4 : Nat) : Int).toNat = 4 := rfl
  have e0 : Int.toNat 0 = 0 := rfl
  have pA : ptsA 4 (flat (shL bs l (p + 3) 0)) = shL bs l (p + 3) 0 := by
    have := ptsA_flat (shL bs l (p + 3) 0)
    rwa [shL_len] at this
  simp only [L, T, a2, a3, a4, a5, a6, a7, bndI, List.nil_append, List.drop_zero, Nat.zero_add, Nat.sub_zero, Nat.zero_mul, pA]
  have hb := pickI_bd (k := ((4 : Nat) : Int)) (R (p + 4) (by omega) (by omega)) (by omega)
  have eV : shV bs l p 0 = rotS (pickI bs l (p + 4) ((4 : Nat) : Int)).toNat (shW bs l p 0) := rfl
  have hl := shW_len bs l p 0
  rw [L] at hl
  obtain ⟨r, hr⟩ := Int.eq_ofNat_of_zero_le hb.1
  rw [hr] at hb
  rw [eV]
  simp only [hr, Int.toNat_natCast, e0, Nat.sub_zero]
  have hq : (rotS r (shW bs l p 0)).length = 4 := by rw [rotS_len (by omega), hl]
  have hc := rot_cells (X := shW bs l p 0) (m := 4) (r := r) hl (by omega)
  have hx : 4 - r + r = 4 := by omega
  have hz : ∀ X : List Pt, X.length = 4 → (4 - r) * 2 ≤ (List.take ((4 - r) * 2) (List.drop (r * 2) (flat X))).length := fun X hX => by
    rw [List.length_take, List.length_drop, flat_length, hX]
    omega
  refine ⟨h1, hk, by decide, by decide, R _ (by omega) (by omega), R _ (by omega) (by omega), trivial, rfl, trivial, by decide, trivial, trivial, R _ (by omega) (by omega), ?_⟩
  unfold shW at hc hq hl ⊢
  rcases hs : pickI bs l (p + 3) 2 == 0 with _ | _
  · rw [hs] at hc hq hl
    simp only [cond_false] at hc hq hl ⊢
    simp only [brT_f, Tree.ok]
    refine ⟨R _ (by omega) (by omega), by omega, by omega, by omega, by omega, by omega, by omega, hz _ hl, rfl, some 13, ⟨rfl, rfl, by rw [hx, hq]⟩, rfl, rfl, ?_⟩
    · rw [← hc]
      rfl
  · rw [hs] at hc hq hl
    simp only [cond_true] at hc hq hl ⊢
    simp only [brT_t, Tree.ok]
    refine ⟨by decide, by decide, R _ (by omega) (by omega), by omega, by omega, by omega, by omega, by omega, by omega, hz _ hl, rfl, some 14, ⟨rfl, rfl, by rw [hx, hq]⟩, rfl, rfl, ?_⟩
    · rw [← hc]
      rfl
set_option maxRecDepth 100000 in
set_option maxHeartbeats 1000000 in
theorem sh_run1 {bs : List Int} {l c : Nat} {p : Int} (h1 : rdC bs l p) (h2 : p ≤ 900000) (hk : pickI bs l p 6 = 1) : (bodyM Try.prog (ESh 1) (runM Try.prog (ESh 1) 30 12) 30 77 [.pointer (some ⟨1, 0, none⟩)] (memR bs l c p none) .fin).ok (fun _ _ => False) (fun u mem' => mem'.getD 1 none = some (rdBox 0 l c (p + 5)) ∧ RowIs (rowL (shV bs l p 1)) ⟨.row 37 2, .ints (flat (shV bs l p 1))⟩ u mem') := by
  rw [tr_sh1]
  try delta zB2 zB4 zR2 zI zsh1_0 zsh1_1 zsh1_2 zsh1_3 zsh1_4 zsh1_5 zsh1_6 zsh1_7 zsh1_8 zsh1_9
  have h0 := h1.2.2.1
  have R : ∀ q : Int, p ≤ q → q ≤ p + 5 → rdC bs l q := fun q g1 g2 => ⟨h1.1, h1.2.1, by omega, by omega, h1.2.2.2.2⟩
  have L : (shpK 1).length = 5 := rfl
  have T : Try.prog.types[(37 : Nat)].size = 2 := by kernel_rfl
  have a2 : p + 1 + 1 = p + 2 := by omega
  have a3 : p + 2 + 1 = p + 3 := by omega
  have a4 : p + 3 + 1 = p + 4 := by omega
  have a5 : p + 4 + 1 = p + 5 := by omega
  have a6 : p + 3 - 2 = p + 1 := by omega
  have a7 : p + 3 - 1 = p + 2 := by omega
  have N : ((5 : Nat) : Int).toNat = 5 := rfl
  have e0 : Int.toNat 0 = 0 := rfl
  have pA : ptsA 5 (flat (shL bs l (p + 3) 1)) = shL bs l (p + 3) 1 := by
    have := ptsA_flat (shL bs l (p + 3) 1)
    rwa [shL_len] at this
  simp only [L, T, a2, a3, a4, a5, a6, a7, bndI, List.nil_append, List.drop_zero, Nat.zero_add, Nat.sub_zero, Nat.zero_mul, pA]
  have hb := pickI_bd (k := ((5 : Nat) : Int)) (R (p + 4) (by omega) (by omega)) (by omega)
  have eV : shV bs l p 1 = rotS (pickI bs l (p + 4) ((5 : Nat) : Int)).toNat (shW bs l p 1) := rfl
  have hl := shW_len bs l p 1
  rw [L] at hl
  obtain ⟨r, hr⟩ := Int.eq_ofNat_of_zero_le hb.1
  rw [hr] at hb
  rw [eV]
  simp only [hr, Int.toNat_natCast, e0, Nat.sub_zero]
  have hq : (rotS r (shW bs l p 1)).length = 5 := by rw [rotS_len (by omega), hl]
  have hc := rot_cells (X := shW bs l p 1) (m := 5) (r := r) hl (by omega)
  have hx : 5 - r + r = 5 := by omega
  have hz : ∀ X : List Pt, X.length = 5 → (5 - r) * 2 ≤ (List.take ((5 - r) * 2) (List.drop (r * 2) (flat X))).length := fun X hX => by
    rw [List.length_take, List.length_drop, flat_length, hX]
    omega
  refine ⟨h1, hk, by decide, by decide, R _ (by omega) (by omega), R _ (by omega) (by omega), trivial, rfl, trivial, by decide, trivial, trivial, R _ (by omega) (by omega), ?_⟩
  unfold shW at hc hq hl ⊢
  rcases hs : pickI bs l (p + 3) 2 == 0 with _ | _
  · rw [hs] at hc hq hl
    simp only [cond_false] at hc hq hl ⊢
    simp only [brT_f, Tree.ok]
    refine ⟨R _ (by omega) (by omega), by omega, by omega, by omega, by omega, by omega, by omega, hz _ hl, rfl, some 13, ⟨rfl, rfl, by rw [hx, hq]⟩, rfl, rfl, ?_⟩
    · rw [← hc]
      rfl
  · rw [hs] at hc hq hl
    simp only [cond_true] at hc hq hl ⊢
    simp only [brT_t, Tree.ok]
    refine ⟨by decide, by decide, R _ (by omega) (by omega), by omega, by omega, by omega, by omega, by omega, by omega, hz _ hl, rfl, some 14, ⟨rfl, rfl, by rw [hx, hq]⟩, rfl, rfl, ?_⟩
    · rw [← hc]
      rfl
set_option maxRecDepth 100000 in
set_option maxHeartbeats 1000000 in
theorem sh_run2 {bs : List Int} {l c : Nat} {p : Int} (h1 : rdC bs l p) (h2 : p ≤ 900000) (hk : pickI bs l p 6 = 2) : (bodyM Try.prog (ESh 2) (runM Try.prog (ESh 2) 30 12) 30 77 [.pointer (some ⟨1, 0, none⟩)] (memR bs l c p none) .fin).ok (fun _ _ => False) (fun u mem' => mem'.getD 1 none = some (rdBox 0 l c (p + 5)) ∧ RowIs (rowL (shV bs l p 2)) ⟨.row 37 2, .ints (flat (shV bs l p 2))⟩ u mem') := by
  rw [tr_sh2]
  try delta zB2 zB4 zR2 zI zsh2_0 zsh2_1 zsh2_2 zsh2_3 zsh2_4 zsh2_5 zsh2_6 zsh2_7 zsh2_8 zsh2_9
  have h0 := h1.2.2.1
  have R : ∀ q : Int, p ≤ q → q ≤ p + 5 → rdC bs l q := fun q g1 g2 => ⟨h1.1, h1.2.1, by omega, by omega, h1.2.2.2.2⟩
  have L : (shpK 2).length = 5 := rfl
  have T : Try.prog.types[(37 : Nat)].size = 2 := by kernel_rfl
  have a2 : p + 1 + 1 = p + 2 := by omega
  have a3 : p + 2 + 1 = p + 3 := by omega
  have a4 : p + 3 + 1 = p + 4 := by omega
  have a5 : p + 4 + 1 = p + 5 := by omega
  have a6 : p + 3 - 2 = p + 1 := by omega
  have a7 : p + 3 - 1 = p + 2 := by omega
  have N : ((5 : Nat) : Int).toNat = 5 := rfl
  have e0 : Int.toNat 0 = 0 := rfl
  have pA : ptsA 5 (flat (shL bs l (p + 3) 2)) = shL bs l (p + 3) 2 := by
    have := ptsA_flat (shL bs l (p + 3) 2)
    rwa [shL_len] at this
  simp only [L, T, a2, a3, a4, a5, a6, a7, bndI, List.nil_append, List.drop_zero, Nat.zero_add, Nat.sub_zero, Nat.zero_mul, pA]
  have hb := pickI_bd (k := ((5 : Nat) : Int)) (R (p + 4) (by omega) (by omega)) (by omega)
  have eV : shV bs l p 2 = rotS (pickI bs l (p + 4) ((5 : Nat) : Int)).toNat (shW bs l p 2) := rfl
  have hl := shW_len bs l p 2
  rw [L] at hl
  obtain ⟨r, hr⟩ := Int.eq_ofNat_of_zero_le hb.1
  rw [hr] at hb
  rw [eV]
  simp only [hr, Int.toNat_natCast, e0, Nat.sub_zero]
  have hq : (rotS r (shW bs l p 2)).length = 5 := by rw [rotS_len (by omega), hl]
  have hc := rot_cells (X := shW bs l p 2) (m := 5) (r := r) hl (by omega)
  have hx : 5 - r + r = 5 := by omega
  have hz : ∀ X : List Pt, X.length = 5 → (5 - r) * 2 ≤ (List.take ((5 - r) * 2) (List.drop (r * 2) (flat X))).length := fun X hX => by
    rw [List.length_take, List.length_drop, flat_length, hX]
    omega
  refine ⟨h1, hk, by decide, by decide, R _ (by omega) (by omega), R _ (by omega) (by omega), trivial, rfl, trivial, by decide, trivial, trivial, R _ (by omega) (by omega), ?_⟩
  unfold shW at hc hq hl ⊢
  rcases hs : pickI bs l (p + 3) 2 == 0 with _ | _
  · rw [hs] at hc hq hl
    simp only [cond_false] at hc hq hl ⊢
    simp only [brT_f, Tree.ok]
    refine ⟨R _ (by omega) (by omega), by omega, by omega, by omega, by omega, by omega, by omega, hz _ hl, rfl, some 13, ⟨rfl, rfl, by rw [hx, hq]⟩, rfl, rfl, ?_⟩
    · rw [← hc]
      rfl
  · rw [hs] at hc hq hl
    simp only [cond_true] at hc hq hl ⊢
    simp only [brT_t, Tree.ok]
    refine ⟨by decide, by decide, R _ (by omega) (by omega), by omega, by omega, by omega, by omega, by omega, by omega, hz _ hl, rfl, some 14, ⟨rfl, rfl, by rw [hx, hq]⟩, rfl, rfl, ?_⟩
    · rw [← hc]
      rfl
set_option maxRecDepth 100000 in
set_option maxHeartbeats 1000000 in
theorem sh_run3 {bs : List Int} {l c : Nat} {p : Int} (h1 : rdC bs l p) (h2 : p ≤ 900000) (hk : pickI bs l p 6 = 3) : (bodyM Try.prog (ESh 3) (runM Try.prog (ESh 3) 30 12) 30 77 [.pointer (some ⟨1, 0, none⟩)] (memR bs l c p none) .fin).ok (fun _ _ => False) (fun u mem' => mem'.getD 1 none = some (rdBox 0 l c (p + 5)) ∧ RowIs (rowL (shV bs l p 3)) ⟨.row 37 2, .ints (flat (shV bs l p 3))⟩ u mem') := by
  rw [tr_sh3]
  try delta zB2 zB4 zR2 zI zsh3_0 zsh3_1 zsh3_2 zsh3_3 zsh3_4 zsh3_5 zsh3_6 zsh3_7 zsh3_8 zsh3_9
  have h0 := h1.2.2.1
  have R : ∀ q : Int, p ≤ q → q ≤ p + 5 → rdC bs l q := fun q g1 g2 => ⟨h1.1, h1.2.1, by omega, by omega, h1.2.2.2.2⟩
  have L : (shpK 3).length = 8 := rfl
  have T : Try.prog.types[(37 : Nat)].size = 2 := by kernel_rfl
  have a2 : p + 1 + 1 = p + 2 := by omega
  have a3 : p + 2 + 1 = p + 3 := by omega
  have a4 : p + 3 + 1 = p + 4 := by omega
  have a5 : p + 4 + 1 = p + 5 := by omega
  have a6 : p + 3 - 2 = p + 1 := by omega
  have a7 : p + 3 - 1 = p + 2 := by omega
  have N : ((8 : Nat) : Int).toNat = 8 := rfl
  have e0 : Int.toNat 0 = 0 := rfl
  have pA : ptsA 8 (flat (shL bs l (p + 3) 3)) = shL bs l (p + 3) 3 := by
    have := ptsA_flat (shL bs l (p + 3) 3)
    rwa [shL_len] at this
  simp only [L, T, a2, a3, a4, a5, a6, a7, bndI, List.nil_append, List.drop_zero, Nat.zero_add, Nat.sub_zero, Nat.zero_mul, pA]
  have hb := pickI_bd (k := ((8 : Nat) : Int)) (R (p + 4) (by omega) (by omega)) (by omega)
  have eV : shV bs l p 3 = rotS (pickI bs l (p + 4) ((8 : Nat) : Int)).toNat (shW bs l p 3) := rfl
  have hl := shW_len bs l p 3
  rw [L] at hl
  obtain ⟨r, hr⟩ := Int.eq_ofNat_of_zero_le hb.1
  rw [hr] at hb
  rw [eV]
  simp only [hr, Int.toNat_natCast, e0, Nat.sub_zero]
  have hq : (rotS r (shW bs l p 3)).length = 8 := by rw [rotS_len (by omega), hl]
  have hc := rot_cells (X := shW bs l p 3) (m := 8) (r := r) hl (by omega)
  have hx : 8 - r + r = 8 := by omega
  have hz : ∀ X : List Pt, X.length = 8 → (8 - r) * 2 ≤ (List.take ((8 - r) * 2) (List.drop (r * 2) (flat X))).length := fun X hX => by
    rw [List.length_take, List.length_drop, flat_length, hX]
    omega
  refine ⟨h1, hk, by decide, by decide, R _ (by omega) (by omega), R _ (by omega) (by omega), trivial, rfl, trivial, by decide, trivial, trivial, R _ (by omega) (by omega), ?_⟩
  unfold shW at hc hq hl ⊢
  rcases hs : pickI bs l (p + 3) 2 == 0 with _ | _
  · rw [hs] at hc hq hl
    simp only [cond_false] at hc hq hl ⊢
    simp only [brT_f, Tree.ok]
    refine ⟨R _ (by omega) (by omega), by omega, by omega, by omega, by omega, by omega, by omega, hz _ hl, rfl, some 13, ⟨rfl, rfl, by rw [hx, hq]⟩, rfl, rfl, ?_⟩
    · rw [← hc]
      rfl
  · rw [hs] at hc hq hl
    simp only [cond_true] at hc hq hl ⊢
    simp only [brT_t, Tree.ok]
    refine ⟨by decide, by decide, R _ (by omega) (by omega), by omega, by omega, by omega, by omega, by omega, by omega, hz _ hl, rfl, some 14, ⟨rfl, rfl, by rw [hx, hq]⟩, rfl, rfl, ?_⟩
    · rw [← hc]
      rfl
set_option maxRecDepth 100000 in
set_option maxHeartbeats 1000000 in
theorem sh_run4 {bs : List Int} {l c : Nat} {p : Int} (h1 : rdC bs l p) (h2 : p ≤ 900000) (hk : pickI bs l p 6 = 4) : (bodyM Try.prog (ESh 4) (runM Try.prog (ESh 4) 30 12) 30 77 [.pointer (some ⟨1, 0, none⟩)] (memR bs l c p none) .fin).ok (fun _ _ => False) (fun u mem' => mem'.getD 1 none = some (rdBox 0 l c (p + 5)) ∧ RowIs (rowL (shV bs l p 4)) ⟨.row 37 2, .ints (flat (shV bs l p 4))⟩ u mem') := by
  rw [tr_sh4]
  try delta zB2 zB4 zR2 zI zsh4_0 zsh4_1 zsh4_2 zsh4_3 zsh4_4 zsh4_5 zsh4_6 zsh4_7 zsh4_8 zsh4_9
  have h0 := h1.2.2.1
  have R : ∀ q : Int, p ≤ q → q ≤ p + 5 → rdC bs l q := fun q g1 g2 => ⟨h1.1, h1.2.1, by omega, by omega, h1.2.2.2.2⟩
  have L : (shpK 4).length = 8 := rfl
  have T : Try.prog.types[(37 : Nat)].size = 2 := by kernel_rfl
  have a2 : p + 1 + 1 = p + 2 := by omega
  have a3 : p + 2 + 1 = p + 3 := by omega
  have a4 : p + 3 + 1 = p + 4 := by omega
  have a5 : p + 4 + 1 = p + 5 := by omega
  have a6 : p + 3 - 2 = p + 1 := by omega
  have a7 : p + 3 - 1 = p + 2 := by omega
  have N : ((8 : Nat) : Int).toNat = 8 := rfl
  have e0 : Int.toNat 0 = 0 := rfl
  have pA : ptsA 8 (flat (shL bs l (p + 3) 4)) = shL bs l (p + 3) 4 := by
    have := ptsA_flat (shL bs l (p + 3) 4)
    rwa [shL_len] at this
  simp only [L, T, a2, a3, a4, a5, a6, a7, bndI, List.nil_append, List.drop_zero, Nat.zero_add, Nat.sub_zero, Nat.zero_mul, pA]
  have hb := pickI_bd (k := ((8 : Nat) : Int)) (R (p + 4) (by omega) (by omega)) (by omega)
  have eV : shV bs l p 4 = rotS (pickI bs l (p + 4) ((8 : Nat) : Int)).toNat (shW bs l p 4) := rfl
  have hl := shW_len bs l p 4
  rw [L] at hl
  obtain ⟨r, hr⟩ := Int.eq_ofNat_of_zero_le hb.1
  rw [hr] at hb
  rw [eV]
  simp only [hr, Int.toNat_natCast, e0, Nat.sub_zero]
  have hq : (rotS r (shW bs l p 4)).length = 8 := by rw [rotS_len (by omega), hl]
  have hc := rot_cells (X := shW bs l p 4) (m := 8) (r := r) hl (by omega)
  have hx : 8 - r + r = 8 := by omega
  have hz : ∀ X : List Pt, X.length = 8 → (8 - r) * 2 ≤ (List.take ((8 - r) * 2) (List.drop (r * 2) (flat X))).length := fun X hX => by
    rw [List.length_take, List.length_drop, flat_length, hX]
    omega
  refine ⟨h1, hk, by decide, by decide, R _ (by omega) (by omega), R _ (by omega) (by omega), trivial, rfl, trivial, by decide, trivial, trivial, R _ (by omega) (by omega), ?_⟩
  unfold shW at hc hq hl ⊢
  rcases hs : pickI bs l (p + 3) 2 == 0 with _ | _
  · rw [hs] at hc hq hl
    simp only [cond_false] at hc hq hl ⊢
    simp only [brT_f, Tree.ok]
    refine ⟨R _ (by omega) (by omega), by omega, by omega, by omega, by omega, by omega, by omega, hz _ hl, rfl, some 13, ⟨rfl, rfl, by rw [hx, hq]⟩, rfl, rfl, ?_⟩
    · rw [← hc]
      rfl
  · rw [hs] at hc hq hl
    simp only [cond_true] at hc hq hl ⊢
    simp only [brT_t, Tree.ok]
    refine ⟨by decide, by decide, R _ (by omega) (by omega), by omega, by omega, by omega, by omega, by omega, by omega, hz _ hl, rfl, some 14, ⟨rfl, rfl, by rw [hx, hq]⟩, rfl, rfl, ?_⟩
    · rw [← hc]
      rfl
set_option maxRecDepth 100000 in
set_option maxHeartbeats 1000000 in
theorem sh_run5 {bs : List Int} {l c : Nat} {p : Int} (h1 : rdC bs l p) (h2 : p ≤ 900000) (hk : pickI bs l p 6 = 5) : (bodyM Try.prog (ESh 5) (runM Try.prog (ESh 5) 30 12) 30 77 [.pointer (some ⟨1, 0, none⟩)] (memR bs l c p none) .fin).ok (fun _ _ => False) (fun u mem' => mem'.getD 1 none = some (rdBox 0 l c (p + 5)) ∧ RowIs (rowL (shV bs l p 5)) ⟨.row 37 2, .ints (flat (shV bs l p 5))⟩ u mem') := by
  rw [tr_sh5]
  try delta zB2 zB4 zR2 zI zsh5_0 zsh5_1 zsh5_2 zsh5_3 zsh5_4 zsh5_5 zsh5_6 zsh5_7 zsh5_8 zsh5_9
  have h0 := h1.2.2.1
  have R : ∀ q : Int, p ≤ q → q ≤ p + 5 → rdC bs l q := fun q g1 g2 => ⟨h1.1, h1.2.1, by omega, by omega, h1.2.2.2.2⟩
  have L : (shpK 5).length = 3 := rfl
  have T : Try.prog.types[(37 : Nat)].size = 2 := by kernel_rfl
  have a2 : p + 1 + 1 = p + 2 := by omega
  have a3 : p + 2 + 1 = p + 3 := by omega
  have a4 : p + 3 + 1 = p + 4 := by omega
  have a5 : p + 4 + 1 = p + 5 := by omega
  have a6 : p + 3 - 2 = p + 1 := by omega
  have a7 : p + 3 - 1 = p + 2 := by omega
  have N : ((3 : Nat) : Int).toNat = 3 := rfl
  have e0 : Int.toNat 0 = 0 := rfl
  have pA : ptsA 3 (flat (shL bs l (p + 3) 5)) = shL bs l (p + 3) 5 := by
    have := ptsA_flat (shL bs l (p + 3) 5)
    rwa [shL_len] at this
  simp only [L, T, a2, a3, a4, a5, a6, a7, bndI, List.nil_append, List.drop_zero, Nat.zero_add, Nat.sub_zero, Nat.zero_mul, pA]
  have hb := pickI_bd (k := ((3 : Nat) : Int)) (R (p + 4) (by omega) (by omega)) (by omega)
  have eV : shV bs l p 5 = rotS (pickI bs l (p + 4) ((3 : Nat) : Int)).toNat (shW bs l p 5) := rfl
  have hl := shW_len bs l p 5
  rw [L] at hl
  obtain ⟨r, hr⟩ := Int.eq_ofNat_of_zero_le hb.1
  rw [hr] at hb
  rw [eV]
  simp only [hr, Int.toNat_natCast, e0, Nat.sub_zero]
  have hq : (rotS r (shW bs l p 5)).length = 3 := by rw [rotS_len (by omega), hl]
  have hc := rot_cells (X := shW bs l p 5) (m := 3) (r := r) hl (by omega)
  have hx : 3 - r + r = 3 := by omega
  have hz : ∀ X : List Pt, X.length = 3 → (3 - r) * 2 ≤ (List.take ((3 - r) * 2) (List.drop (r * 2) (flat X))).length := fun X hX => by
    rw [List.length_take, List.length_drop, flat_length, hX]
    omega
  refine ⟨h1, hk, by decide, by decide, R _ (by omega) (by omega), R _ (by omega) (by omega), trivial, rfl, trivial, by decide, trivial, trivial, R _ (by omega) (by omega), ?_⟩
  unfold shW at hc hq hl ⊢
  rcases hs : pickI bs l (p + 3) 2 == 0 with _ | _
  · rw [hs] at hc hq hl
    simp only [cond_false] at hc hq hl ⊢
    simp only [brT_f, Tree.ok]
    refine ⟨R _ (by omega) (by omega), by omega, by omega, by omega, by omega, by omega, by omega, hz _ hl, rfl, some 13, ⟨rfl, rfl, by rw [hx, hq]⟩, rfl, rfl, ?_⟩
    · rw [← hc]
      rfl
  · rw [hs] at hc hq hl
    simp only [cond_true] at hc hq hl ⊢
    simp only [brT_t, Tree.ok]
    refine ⟨by decide, by decide, R _ (by omega) (by omega), by omega, by omega, by omega, by omega, by omega, by omega, hz _ hl, rfl, some 14, ⟨rfl, rfl, by rw [hx, hq]⟩, rfl, rfl, ?_⟩
    · rw [← hc]
      rfl
/-- A drawn polygon's shape. -/
def shX (bs : List Int) (l : Nat) (p : Int) : List Pt := shV bs l p (pickI bs l p 6).toNat
def shpS : RSpecR := fun bs l p rest => match rest with
  | [] => some (rowL (shX bs l p), ⟨.row 37 2, .ints (flat (shX bs l p))⟩, p + 5, [rdC bs l p, p ≤ 900000])
  | _ => none
set_option maxRecDepth 100000 in
theorem shpS_ok : SpecROk Try.prog 77 shpS := by
  intro bs l c p rest v b p' C h hC
  unfold shpS at h
  split at h
  rotate_left
  · cases h
  obtain ⟨rfl, rfl, rfl, rfl⟩ : rowL (shX bs l p) = v ∧ (⟨.row 37 2, .ints (flat (shX bs l p))⟩ : Blk) = b ∧ p + 5 = p' ∧ [rdC bs l p, p ≤ 900000] = C := by simpa using h
  obtain ⟨h1, h2, _⟩ := hC
  have hb := pickI_bd (k := 6) h1 (by omega)
  obtain ⟨j, hj⟩ := Int.eq_ofNat_of_zero_le hb.1
  have hx : shX bs l p = shV bs l p j := by unfold shX; rw [hj]; rfl
  refine ⟨rfl, ESh j, 30, 12, ESh_ok j, ?_⟩
  rw [hx]
  rw [hj] at hb
  have hj6 : j < 6 := by omega
  have h06 : j = 0 ∨ j = 1 ∨ j = 2 ∨ j = 3 ∨ j = 4 ∨ j = 5 := by omega
  rcases h06 with rfl | rfl | rfl | rfl | rfl | rfl
  · have hj : pickI bs l p 6 = 0 := hj
    with_reducible exact sh_run0 h1 h2 hj
  · have hj : pickI bs l p 6 = 1 := hj
    with_reducible exact sh_run1 h1 h2 hj
  · have hj : pickI bs l p 6 = 2 := hj
    with_reducible exact sh_run2 h1 h2 hj
  · have hj : pickI bs l p 6 = 3 := hj
    with_reducible exact sh_run3 h1 h2 hj
  · have hj : pickI bs l p 6 = 4 := hj
    with_reducible exact sh_run4 h1 h2 hj
  · have hj : pickI bs l p 6 = 5 := hj
    with_reducible exact sh_run5 h1 h2 hj
theorem shX_len {bs : List Int} {l : Nat} {p : Int} (h1 : rdC bs l p) (h2 : p ≤ 900000) : 3 ≤ (shX bs l p).length ∧ (shX bs l p).length ≤ 8 := by
  have hb := pickI_bd (k := 6) h1 (by omega)
  have h0 := h1.2.2.1
  have key : ∀ j, j < 6 → 3 ≤ (shpK j).length ∧ (shpK j).length ≤ 8 := by decide
  have k := key (pickI bs l p 6).toNat (by omega)
  have R : rdC bs l (p + 4) := ⟨h1.1, h1.2.1, by omega, by omega, h1.2.2.2.2⟩
  have hr := pickI_bd (k := ((shpK (pickI bs l p 6).toNat).length : Int)) R (by omega)
  unfold shX shV
  rw [rotS_len (by rw [shW_len]; omega), shW_len]
  exact k
end Go.Proofs.Ytolodncpegajkaa
namespace Go.Proofs.Ytolodncpegajkaa
set_option linter.all false
open Go.RowKit
def ERa : Env := withJ (tabE B0) J3
theorem ERa_ok : EnvOk Try.prog ERa := withJ_ok mixed (tabE_ok B0_ok) J3_ok
set_option maxRecDepth 100000 in
theorem tr_aseg (bs : List Int) (l c : Nat) (p : Int) : bodyM Try.prog ERa (runM Try.prog ERa 30 12) 30 116 [.pointer (some ⟨1, 0, none⟩)] (memR bs l c p none) .fin = .need (rdK bs l p) (.need (rdK bs l (apP bs l p)) (brT (negB false (apX bs l p == pickI bs l (apP bs l p) 9 - 2 && (apY bs l p == pickI bs l (apP bs l p + 1) 9 - 2 && true))) (.need (rdC bs l (apP bs l p + (2 : Int))) (brT (decide (0 < pickI bs l (apP bs l p + 2) 4)) (.fin (.agg #[.int .i64 (apX bs l p), .int .i64 (apY bs l p), .int .i64 (IntKind.i64.wrap (pickI bs l (apP bs l p) 9 - 2 + 1)), .int .i64 (pickI bs l (apP bs l p + 1) 9 - 2)]) [some ⟨.view, .bytes (bs)⟩, some ⟨.box, .vals [.slice (some ⟨0, 0, none⟩) (l) (c), .int .i64 (apP bs l p + 2 + 1)]⟩, some ⟨.box, .vals [.int .i64 (apX bs l p), .int .i64 (apY bs l p), .int .i64 (IntKind.i64.wrap (pickI bs l (apP bs l p) 9 - 2 + 1)), .int .i64 (pickI bs l (apP bs l p + 1) 9 - 2)]⟩, some ⟨.box, .vals [.int .i64 (apX bs l p), .int .i64 (apY bs l p), .int .i64 (IntKind.i64.wrap (pickI bs l (apP bs l p) 9 - 2 + 1)), .int .i64 (pickI bs l (apP bs l p + 1) 9 - 2)]⟩]) (.fin (.agg #[.int .i64 (apX bs l p), .int .i64 (apY bs l p), .int .i64 (pickI bs l (apP bs l p) 9 - 2), .int .i64 (pickI bs l (apP bs l p + 1) 9 - 2)]) [some ⟨.view, .bytes (bs)⟩, some ⟨.box, .vals [.slice (some ⟨0, 0, none⟩) (l) (c), .int .i64 (apP bs l p + 2 + 1)]⟩, some ⟨.box, .vals [.int .i64 (apX bs l p), .int .i64 (apY bs l p), .int .i64 (pickI bs l (apP bs l p) 9 - 2), .int .i64 (pickI bs l (apP bs l p + 1) 9 - 2)]⟩, some ⟨.box, .vals [.int .i64 (apX bs l p), .int .i64 (apY bs l p), .int .i64 (pickI bs l (apP bs l p) 9 - 2), .int .i64 (pickI bs l (apP bs l p + 1) 9 - 2)]⟩]))) (.fin (.agg #[.int .i64 (apX bs l p), .int .i64 (apY bs l p), .int .i64 (pickI bs l (apP bs l p) 9 - 2), .int .i64 (pickI bs l (apP bs l p + 1) 9 - 2)]) [some ⟨.view, .bytes (bs)⟩, some ⟨.box, .vals [.slice (some ⟨0, 0, none⟩) (l) (c), .int .i64 (apP bs l p + 2)]⟩, some ⟨.box, .vals [.int .i64 (apX bs l p), .int .i64 (apY bs l p), .int .i64 (pickI bs l (apP bs l p) 9 - 2), .int .i64 (pickI bs l (apP bs l p + 1) 9 - 2)]⟩, some ⟨.box, .vals [.int .i64 (apX bs l p), .int .i64 (apY bs l p), .int .i64 (pickI bs l (apP bs l p) 9 - 2), .int .i64 (pickI bs l (apP bs l p + 1) 9 - 2)]⟩]))) := by kernel_rfl
def asQ (bs : List Int) (l : Nat) (p : Int) : Prop := apX bs l p = pickI bs l (apP bs l p) 9 - 2 ∧ apY bs l p = pickI bs l (apP bs l p + 1) 9 - 2
instance (bs : List Int) (l : Nat) (p : Int) : Decidable (asQ bs l p) := inferInstanceAs (Decidable (_ ∧ _))
def asX (bs : List Int) (l : Nat) (p : Int) : Int := if asQ bs l p ∧ 0 < pickI bs l (apP bs l p + 2) 4 then pickI bs l (apP bs l p) 9 - 2 + 1 else pickI bs l (apP bs l p) 9 - 2
def asY (bs : List Int) (l : Nat) (p : Int) : Int := pickI bs l (apP bs l p + 1) 9 - 2
def asP (bs : List Int) (l : Nat) (p : Int) : Int := if asQ bs l p then apP bs l p + 3 else apP bs l p + 2
def asegS : RSpec := fun bs l p rest ex => match rest, ex with
  | [], none => some (.agg #[.int .i64 (apX bs l p), .int .i64 (apY bs l p), .int .i64 (asX bs l p), .int .i64 (asY bs l p)], asP bs l p, [rdK bs l p, rdK bs l (apP bs l p)])
  | _, _ => none
theorem veq4 {a b c c' d d' : Int} (h : c = c') (k : d = d') : Value.agg #[.int .i64 a, .int .i64 b, .int .i64 c, .int .i64 d] = .agg #[.int .i64 a, .int .i64 b, .int .i64 c', .int .i64 d'] := by rw [h, k]
theorem asegS_ok : SpecOk Try.prog 116 asegS := by
  intro bs l c p rest0 ex v p' C h hC
  unfold asegS at h
  split at h
  rotate_left
  · cases h
  obtain ⟨rfl, rfl, rfl⟩ : Value.agg #[.int .i64 (apX bs l p), .int .i64 (apY bs l p), .int .i64 (asX bs l p), .int .i64 (asY bs l p)] = v ∧ asP bs l p = p' ∧ [rdK bs l p, rdK bs l (apP bs l p)] = C := by simpa using h
  obtain ⟨h1, h2, _⟩ := hC
  refine ⟨ERa, 30, 12, ERa_ok, rfl, ?_⟩
  rw [tr_aseg]
  have r1 := h2.at (q := apP bs l p) (by omega) (by omega)
  have r3 := h2.at (q := apP bs l p + 2) (by omega) (by omega)
  have b1 := pickI_bd (k := 9) r1 (by omega)
  have w : IntKind.i64.wrap (pickI bs l (apP bs l p) 9 - 2 + 1) = pickI bs l (apP bs l p) 9 - 2 + 1 := wr (by omega)
  have en : negB false (apX bs l p == pickI bs l (apP bs l p) 9 - 2 && (apY bs l p == pickI bs l (apP bs l p + 1) 9 - 2 && true)) = decide (asQ bs l p) := by
    show (apX bs l p == pickI bs l (apP bs l p) 9 - 2 && (apY bs l p == pickI bs l (apP bs l p + 1) 9 - 2 && true)) = decide (asQ bs l p)
    exact Bool.eq_iff_iff.2 ⟨fun h => decide_eq_true (by simpa [asQ] using h), fun h => by
      have := of_decide_eq_true h
      simpa [asQ] using this⟩
  rw [en, w]
  refine ⟨h1, h2, brT_ok.2 ⟨fun hq => ⟨r3, brT_ok.2 ⟨fun hz => ?_, fun hz => ?_⟩⟩, fun hq => ?_⟩⟩
  · have hq := of_decide_eq_true hq
    have hz := of_decide_eq_true hz
    exact ⟨veq4 (by unfold asX; rw [if_pos ⟨hq, hz⟩]) rfl, box2 (by unfold asP; rw [if_pos hq]; omega) _⟩
  · have hq := of_decide_eq_true hq
    have hz := of_decide_eq_false hz
    exact ⟨veq4 (by unfold asX; rw [if_neg (fun h => hz h.2)]) rfl, box2 (by unfold asP; rw [if_pos hq]; omega) _⟩
  · have hq := of_decide_eq_false hq
    exact ⟨veq4 (by unfold asX; rw [if_neg (fun h => hq h.1)]) rfl, box2 (by unfold asP; rw [if_neg hq]) _⟩
def J5a : List (FuncId × RSpec) := (116, asegS) :: J3
theorem J5a_ok : JOk Try.prog J5a := J3_ok.cons (entersB_res (by kernel_rfl)).1 asegS_ok
def ERs : Env := withJ (tabE B0) J5a
theorem ERs_ok : EnvOk Try.prog ERs := withJ_ok mixed (tabE_ok B0_ok) J5a_ok
end Go.Proofs.Ytolodncpegajkaa
namespace Go.Proofs.Ytolodncpegajkaa
set_option linter.all false
open Go.RowKit
/-- Does the next segment begin where another one ends? -/
def sjQ (bs : List Int) (l m : Nat) (p : Int) : Bool := decide (0 < m) && pickI bs l (p + 4) 3 == 0
def sjI (bs : List Int) (l m : Nat) (p : Int) : Nat := (pickI bs l (p + 5) m).toNat
def sjX (bs : List Int) (l m : Nat) (o : List Int) (p : Int) : Int := bif sjQ bs l m p then o.getD (sjI bs l m p * 4 + 2) 0 else pickI bs l p 9 - 2
def sjY (bs : List Int) (l m : Nat) (o : List Int) (p : Int) : Int := bif sjQ bs l m p then o.getD (sjI bs l m p * 4 + 3) 0 else pickI bs l (p + 1) 9 - 2
def sjP (bs : List Int) (l m : Nat) (p : Int) : Int := bif decide (0 < m) then (bif pickI bs l (p + 4) 3 == 0 then p + 6 else p + 5) else p + 4
def sjZ (bs : List Int) (l m : Nat) (o : List Int) (p : Int) : Int := bif eqB (sjX bs l m o p) (sjY bs l m o p) (pickI bs l (p + 2) 9 - 2) (pickI bs l (p + 3) 9 - 2) then pickI bs l (p + 3) 9 - 2 + 1 else pickI bs l (p + 3) 9 - 2
def sjO (bs : List Int) (l m : Nat) (o : List Int) (p : Int) : List Int := o ++ [sjX bs l m o p, sjY bs l m o p, pickI bs l (p + 2) 9 - 2, sjZ bs l m o p]
def ssL (bs : List Int) (l : Nat) : Nat → Nat → List Int → Int → List Int
  | 0, _, o, _ => o
  | n + 1, m, o, p => ssL bs l n (m + 1) (sjO bs l m o p) (sjP bs l m p)
def ssP (bs : List Int) (l : Nat) : Nat → Nat → List Int → Int → Int
  | 0, _, _, p => p
  | n + 1, m, o, p => ssP bs l n (m + 1) (sjO bs l m o p) (sjP bs l m p)
theorem eqB_v (a b c d : Int) : negB false (a == c && (b == d && true)) = eqB a b c d := by
  rw [Bool.and_true]
  rfl
noncomputable def c_ass : Code := ((loopsOf (codeOf Try.f69))[0]?).getD .skip
def k_ass : Ex → List Nat := keeps [0, 3, 4] [(0, [0, 3])] [2]
def s_ass (bs : List Int) (l c : Nat) : Nat × Nat × (List Int) × Int → St := fun (n, m, o, p) => ⟨(.pointer (some ⟨1, 0, none⟩) :: topV :: topV :: .slice (some ⟨4, 0, none⟩) m m :: .int .i64 n :: topV :: topV :: topV :: topV :: topV :: topV :: topV :: topV :: topV :: topV :: topV :: topV :: topV :: topV :: topV :: topV :: topV :: topV :: topV :: topV :: topV :: topV :: topV :: topV :: topV :: topV :: topV :: topV :: topV :: topV :: topV :: topV :: topV :: topV :: topV :: topV :: topV :: topV :: topV :: topV :: topV :: topV :: topV :: topV :: topV :: topV :: topV :: topV :: topV :: topV :: topV :: topV :: topV :: topV :: topV :: topV :: topV :: topV :: topV :: []), [some ⟨.view, .bytes bs⟩, some ⟨.box, .vals [.slice (some ⟨0, 0, none⟩) l c, .int .i64 p]⟩, some ⟨.dead, .vals []⟩, some ⟨.dead, .vals []⟩, some ⟨.row 39 4, .ints o⟩]⟩
def re_ass : Nat × Nat × (List Int) × Int → Ex := fun _ => .exit 0
def rs_ass (bs : List Int) (l c : Nat) : Nat × Nat × (List Int) × Int → St := fun (n, m, o, p) => ⟨(.pointer (some ⟨1, 0, none⟩) :: topV :: topV :: .slice (some ⟨4, 0, none⟩) (m + n) (m + n) :: topV :: topV :: topV :: topV :: topV :: topV :: topV :: topV :: topV :: topV :: topV :: topV :: topV :: topV :: topV :: topV :: topV :: topV :: topV :: topV :: topV :: topV :: topV :: topV :: topV :: topV :: topV :: topV :: topV :: topV :: topV :: topV :: topV :: topV :: topV :: topV :: topV :: topV :: topV :: topV :: topV :: topV :: topV :: topV :: topV :: topV :: topV :: topV :: topV :: topV :: topV :: topV :: topV :: topV :: topV :: topV :: topV :: topV :: topV :: topV :: []), [some ⟨.view, .bytes bs⟩, some ⟨.box, .vals [.slice (some ⟨0, 0, none⟩) l c, .int .i64 (ssP bs l n m o p)]⟩, some ⟨.dead, .vals []⟩, some ⟨.dead, .vals []⟩, some ⟨.row 39 4, .ints (ssL bs l n m o p)⟩]⟩
set_option maxRecDepth 100000 in
theorem tr_ass (bs : List Int) (l c : Nat) (n m : Nat) (o : List Int) (p : Int) : bodyL Try.prog ERs 30 12 noL 1 c_ass k_ass 16 (s_ass bs l c (n, m, o, p)) = brT (decide (0 < (↑n : Int))) (.need (rdK bs l p) (.need (rdK bs l (p + (2 : Int))) (brT (decide (0 < (↑m : Int))) (.need (rdC bs l (p + (2 : Int) + (2 : Int))) (brT (pickI bs l (p + 2 + 2) 3 == 0) (.need (rdC bs l (p + (2 : Int) + (2 : Int) + (1 : Int))) (.need ((0 : Int) ≤ pickI bs l (p + (2 : Int) + (2 : Int) + (1 : Int)) (↑m : Int) ∧ pickI bs l (p + (2 : Int) + (2 : Int) + (1 : Int)) (↑m : Int) < (↑m : Int)) (.need ((0 : Nat) + (pickI bs l (p + (2 : Int) + (2 : Int) + (1 : Int)) (↑m : Int)).toNat * (4 : Nat) + (2 : Nat) + (2 : Nat) ≤ o.length) (brT (negB false (o.getD (0 + (pickI bs l (p + 2 + 2 + 1) (↑m : Int)).toNat * 4 + 2) 0 == pickI bs l (p + 2) 9 - 2 && (o.getD (0 + (pickI bs l (p + 2 + 2 + 1) (↑m : Int)).toNat * 4 + 2 + 1) 0 == pickI bs l (p + 2 + 1) 9 - 2 && true))) (.need ((m + (1 : Nat)) * (32 : Nat) ≤ (140737488355328 : Nat) ∧ m + (1 : Nat) ≤ (1000000 : Nat)) (.need ((0 : Nat) + m * (4 : Nat) ≤ o.length) (.leaf .normal ⟨(.pointer (some ⟨1, 0, none⟩) :: topV :: topV :: .slice (some ⟨7, 0, none⟩) (m + 1) (m + 1) :: .int .i64 (IntKind.i64.wrap ((↑n : Int) - 1)) :: topV :: topV :: topV :: topV :: topV :: topV :: topV :: topV :: topV :: topV :: topV :: topV :: topV :: topV :: topV :: topV :: topV :: topV :: topV :: topV :: topV :: topV :: topV :: topV :: topV :: topV :: topV :: topV :: topV :: topV :: topV :: topV :: topV :: topV :: topV :: topV :: topV :: topV :: topV :: topV :: topV :: topV :: topV :: topV :: topV :: topV :: topV :: topV :: topV :: topV :: topV :: topV :: topV :: topV :: topV :: topV :: topV :: topV :: topV :: []), [some ⟨.view, .bytes (bs)⟩, some ⟨.box, .vals [.slice (some ⟨0, 0, none⟩) (l) (c), .int .i64 (p + 2 + 2 + 1 + 1)]⟩, some deadB, some deadB, some deadB, some ⟨.box, .vals [.int .i64 (o.getD (0 + (pickI bs l (p + 2 + 2 + 1) (↑m : Int)).toNat * 4 + 2) 0), .int .i64 (o.getD (0 + (pickI bs l (p + 2 + 2 + 1) (↑m : Int)).toNat * 4 + 2 + 1) 0), .int .i64 (pickI bs l (p + 2) 9 - 2), .int .i64 (IntKind.i64.wrap (pickI bs l (p + 2 + 1) 9 - 2 + 1))]⟩, some ⟨.row 39 4, .vals [.int .i64 (o.getD (0 + (pickI bs l (p + 2 + 2 + 1) (↑m : Int)).toNat * 4 + 2) 0), .int .i64 (o.getD (0 + (pickI bs l (p + 2 + 2 + 1) (↑m : Int)).toNat * 4 + 2 + 1) 0), .int .i64 (pickI bs l (p + 2) 9 - 2), .int .i64 (IntKind.i64.wrap (pickI bs l (p + 2 + 1) 9 - 2 + 1))]⟩, some ⟨.row 39 4, .ints (List.take (m * 4) (List.drop 0 o) ++ [o.getD (0 + (pickI bs l (p + 2 + 2 + 1) (↑m : Int)).toNat * 4 + 2) 0, o.getD (0 + (pickI bs l (p + 2 + 2 + 1) (↑m : Int)).toNat * 4 + 2 + 1) 0, pickI bs l (p + 2) 9 - 2, IntKind.i64.wrap (pickI bs l (p + 2 + 1) 9 - 2 + 1)])⟩]⟩))) (.need ((m + (1 : Nat)) * (32 : Nat) ≤ (140737488355328 : Nat) ∧ m + (1 : Nat) ≤ (1000000 : Nat)) (.need ((0 : Nat) + m * (4 : Nat) ≤ o.length) (.leaf .normal ⟨(.pointer (some ⟨1, 0, none⟩) :: topV :: topV :: .slice (some ⟨7, 0, none⟩) (m + 1) (m + 1) :: .int .i64 (IntKind.i64.wrap ((↑n : Int) - 1)) :: topV :: topV :: topV :: topV :: topV :: topV :: topV :: topV :: topV :: topV :: topV :: topV :: topV :: topV :: topV :: topV :: topV :: topV :: topV :: topV :: topV :: topV :: topV :: topV :: topV :: topV :: topV :: topV :: topV :: topV :: topV :: topV :: topV :: topV :: topV :: topV :: topV :: topV :: topV :: topV :: topV :: topV :: topV :: topV :: topV :: topV :: topV :: topV :: topV :: topV :: topV :: topV :: topV :: topV :: topV :: topV :: topV :: topV :: topV :: []), [some ⟨.view, .bytes (bs)⟩, some ⟨.box, .vals [.slice (some ⟨0, 0, none⟩) (l) (c), .int .i64 (p + 2 + 2 + 1 + 1)]⟩, some deadB, some deadB, some deadB, some ⟨.box, .vals [.int .i64 (o.getD (0 + (pickI bs l (p + 2 + 2 + 1) (↑m : Int)).toNat * 4 + 2) 0), .int .i64 (o.getD (0 + (pickI bs l (p + 2 + 2 + 1) (↑m : Int)).toNat * 4 + 2 + 1) 0), .int .i64 (pickI bs l (p + 2) 9 - 2), .int .i64 (pickI bs l (p + 2 + 1) 9 - 2)]⟩, some ⟨.row 39 4, .vals [.int .i64 (o.getD (0 + (pickI bs l (p + 2 + 2 + 1) (↑m : Int)).toNat * 4 + 2) 0), .int .i64 (o.getD (0 + (pickI bs l (p + 2 + 2 + 1) (↑m : Int)).toNat * 4 + 2 + 1) 0), .int .i64 (pickI bs l (p + 2) 9 - 2), .int .i64 (pickI bs l (p + 2 + 1) 9 - 2)]⟩, some ⟨.row 39 4, .ints (List.take (m * 4) (List.drop 0 o) ++ [o.getD (0 + (pickI bs l (p + 2 + 2 + 1) (↑m : Int)).toNat * 4 + 2) 0, o.getD (0 + (pickI bs l (p + 2 + 2 + 1) (↑m : Int)).toNat * 4 + 2 + 1) 0, pickI bs l (p + 2) 9 - 2, pickI bs l (p + 2 + 1) 9 - 2])⟩]⟩))))))) (brT (negB false (pickI bs l p 9 - 2 == pickI bs l (p + 2) 9 - 2 && (pickI bs l (p + 1) 9 - 2 == pickI bs l (p + 2 + 1) 9 - 2 && true))) (.need ((m + (1 : Nat)) * (32 : Nat) ≤ (140737488355328 : Nat) ∧ m + (1 : Nat) ≤ (1000000 : Nat)) (.need ((0 : Nat) + m * (4 : Nat) ≤ o.length) (.leaf .normal ⟨(.pointer (some ⟨1, 0, none⟩) :: topV :: topV :: .slice (some ⟨7, 0, none⟩) (m + 1) (m + 1) :: .int .i64 (IntKind.i64.wrap ((↑n : Int) - 1)) :: topV :: topV :: topV :: topV :: topV :: topV :: topV :: topV :: topV :: topV :: topV :: topV :: topV :: topV :: topV :: topV :: topV :: topV :: topV :: topV :: topV :: topV :: topV :: topV :: topV :: topV :: topV :: topV :: topV :: topV :: topV :: topV :: topV :: topV :: topV :: topV :: topV :: topV :: topV :: topV :: topV :: topV :: topV :: topV :: topV :: topV :: topV :: topV :: topV :: topV :: topV :: topV :: topV :: topV :: topV :: topV :: topV :: topV :: topV :: []), [some ⟨.view, .bytes (bs)⟩, some ⟨.box, .vals [.slice (some ⟨0, 0, none⟩) (l) (c), .int .i64 (p + 2 + 2 + 1)]⟩, some deadB, some deadB, some deadB, some ⟨.box, .vals [.int .i64 (pickI bs l p 9 - 2), .int .i64 (pickI bs l (p + 1) 9 - 2), .int .i64 (pickI bs l (p + 2) 9 - 2), .int .i64 (IntKind.i64.wrap (pickI bs l (p + 2 + 1) 9 - 2 + 1))]⟩, some ⟨.row 39 4, .vals [.int .i64 (pickI bs l p 9 - 2), .int .i64 (pickI bs l (p + 1) 9 - 2), .int .i64 (pickI bs l (p + 2) 9 - 2), .int .i64 (IntKind.i64.wrap (pickI bs l (p + 2 + 1) 9 - 2 + 1))]⟩, some ⟨.row 39 4, .ints (List.take (m * 4) (List.drop 0 o) ++ [pickI bs l p 9 - 2, pickI bs l (p + 1) 9 - 2, pickI bs l (p + 2) 9 - 2, IntKind.i64.wrap (pickI bs l (p + 2 + 1) 9 - 2 + 1)])⟩]⟩))) (.need ((m + (1 : Nat)) * (32 : Nat) ≤ (140737488355328 : Nat) ∧ m + (1 : Nat) ≤ (1000000 : Nat)) (.need ((0 : Nat) + m * (4 : Nat) ≤ o.length) (.leaf .normal ⟨(.pointer (some ⟨1, 0, none⟩) :: topV :: topV :: .slice (some ⟨7, 0, none⟩) (m + 1) (m + 1) :: .int .i64 (IntKind.i64.wrap ((↑n : Int) - 1)) :: topV :: topV :: topV :: topV :: topV :: topV :: topV :: topV :: topV :: topV :: topV :: topV :: topV :: topV :: topV :: topV :: topV :: topV :: topV :: topV :: topV :: topV :: topV :: topV :: topV :: topV :: topV :: topV :: topV :: topV :: topV :: topV :: topV :: topV :: topV :: topV :: topV :: topV :: topV :: topV :: topV :: topV :: topV :: topV :: topV :: topV :: topV :: topV :: topV :: topV :: topV :: topV :: topV :: topV :: topV :: topV :: topV :: topV :: topV :: []), [some ⟨.view, .bytes (bs)⟩, some ⟨.box, .vals [.slice (some ⟨0, 0, none⟩) (l) (c), .int .i64 (p + 2 + 2 + 1)]⟩, some deadB, some deadB, some deadB, some ⟨.box, .vals [.int .i64 (pickI bs l p 9 - 2), .int .i64 (pickI bs l (p + 1) 9 - 2), .int .i64 (pickI bs l (p + 2) 9 - 2), .int .i64 (pickI bs l (p + 2 + 1) 9 - 2)]⟩, some ⟨.row 39 4, .vals [.int .i64 (pickI bs l p 9 - 2), .int .i64 (pickI bs l (p + 1) 9 - 2), .int .i64 (pickI bs l (p + 2) 9 - 2), .int .i64 (pickI bs l (p + 2 + 1) 9 - 2)]⟩, some ⟨.row 39 4, .ints (List.take (m * 4) (List.drop 0 o) ++ [pickI bs l p 9 - 2, pickI bs l (p + 1) 9 - 2, pickI bs l (p + 2) 9 - 2, pickI bs l (p + 2 + 1) 9 - 2])⟩]⟩)))))) (brT (negB false (pickI bs l p 9 - 2 == pickI bs l (p + 2) 9 - 2 && (pickI bs l (p + 1) 9 - 2 == pickI bs l (p + 2 + 1) 9 - 2 && true))) (.need ((m + (1 : Nat)) * (32 : Nat) ≤ (140737488355328 : Nat) ∧ m + (1 : Nat) ≤ (1000000 : Nat)) (.need ((0 : Nat) + m * (4 : Nat) ≤ o.length) (.leaf .normal ⟨(.pointer (some ⟨1, 0, none⟩) :: topV :: topV :: .slice (some ⟨7, 0, none⟩) (m + 1) (m + 1) :: .int .i64 (IntKind.i64.wrap ((↑n : Int) - 1)) :: topV :: topV :: topV :: topV :: topV :: topV :: topV :: topV :: topV :: topV :: topV :: topV :: topV :: topV :: topV :: topV :: topV :: topV :: topV :: topV :: topV :: topV :: topV :: topV :: topV :: topV :: topV :: topV :: topV :: topV :: topV :: topV :: topV :: topV :: topV :: topV :: topV :: topV :: topV :: topV :: topV :: topV :: topV :: topV :: topV :: topV :: topV :: topV :: topV :: topV :: topV :: topV :: topV :: topV :: topV :: topV :: topV :: topV :: topV :: []), [some ⟨.view, .bytes (bs)⟩, some ⟨.box, .vals [.slice (some ⟨0, 0, none⟩) (l) (c), .int .i64 (p + 2 + 2)]⟩, some deadB, some deadB, some deadB, some ⟨.box, .vals [.int .i64 (pickI bs l p 9 - 2), .int .i64 (pickI bs l (p + 1) 9 - 2), .int .i64 (pickI bs l (p + 2) 9 - 2), .int .i64 (IntKind.i64.wrap (pickI bs l (p + 2 + 1) 9 - 2 + 1))]⟩, some ⟨.row 39 4, .vals [.int .i64 (pickI bs l p 9 - 2), .int .i64 (pickI bs l (p + 1) 9 - 2), .int .i64 (pickI bs l (p + 2) 9 - 2), .int .i64 (IntKind.i64.wrap (pickI bs l (p + 2 + 1) 9 - 2 + 1))]⟩, some ⟨.row 39 4, .ints (List.take (m * 4) (List.drop 0 o) ++ [pickI bs l p 9 - 2, pickI bs l (p + 1) 9 - 2, pickI bs l (p + 2) 9 - 2, IntKind.i64.wrap (pickI bs l (p + 2 + 1) 9 - 2 + 1)])⟩]⟩))) (.need ((m + (1 : Nat)) * (32 : Nat) ≤ (140737488355328 : Nat) ∧ m + (1 : Nat) ≤ (1000000 : Nat)) (.need ((0 : Nat) + m * (4 : Nat) ≤ o.length) (.leaf .normal ⟨(.pointer (some ⟨1, 0, none⟩) :: topV :: topV :: .slice (some ⟨7, 0, none⟩) (m + 1) (m + 1) :: .int .i64 (IntKind.i64.wrap ((↑n : Int) - 1)) :: topV :: topV :: topV :: topV :: topV :: topV :: topV :: topV :: topV :: topV :: topV :: topV :: topV :: topV :: topV :: topV :: topV :: topV :: topV :: topV :: topV :: topV :: topV :: topV :: topV :: topV :: topV :: topV :: topV :: topV :: topV :: topV :: topV :: topV :: topV :: topV :: topV :: topV :: topV :: topV :: topV :: topV :: topV :: topV :: topV :: topV :: topV :: topV :: topV :: topV :: topV :: topV :: topV :: topV :: topV :: topV :: topV :: topV :: topV :: []), [some ⟨.view, .bytes (bs)⟩, some ⟨.box, .vals [.slice (some ⟨0, 0, none⟩) (l) (c), .int .i64 (p + 2 + 2)]⟩, some deadB, some deadB, some deadB, some ⟨.box, .vals [.int .i64 (pickI bs l p 9 - 2), .int .i64 (pickI bs l (p + 1) 9 - 2), .int .i64 (pickI bs l (p + 2) 9 - 2), .int .i64 (pickI bs l (p + 2 + 1) 9 - 2)]⟩, some ⟨.row 39 4, .vals [.int .i64 (pickI bs l p 9 - 2), .int .i64 (pickI bs l (p + 1) 9 - 2), .int .i64 (pickI bs l (p + 2) 9 - 2), .int .i64 (pickI bs l (p + 2 + 1) 9 - 2)]⟩, some ⟨.row 39 4, .ints (List.take (m * 4) (List.drop 0 o) ++ [pickI bs l p 9 - 2, pickI bs l (p + 1) 9 - 2, pickI bs l (p + 2) 9 - 2, pickI bs l (p + 2 + 1) 9 - 2])⟩]⟩))))))) (.leaf (.exit 0) ⟨(.pointer (some ⟨1, 0, none⟩) :: topV :: topV :: .slice (some ⟨4, 0, none⟩) (m) (m) :: topV :: topV :: topV :: topV :: topV :: topV :: topV :: topV :: topV :: topV :: topV :: topV :: topV :: topV :: topV :: topV :: topV :: topV :: topV :: topV :: topV :: topV :: topV :: topV :: topV :: topV :: topV :: topV :: topV :: topV :: topV :: topV :: topV :: topV :: topV :: topV :: topV :: topV :: topV :: topV :: topV :: topV :: topV :: topV :: topV :: topV :: topV :: topV :: topV :: topV :: topV :: topV :: topV :: topV :: topV :: topV :: topV :: topV :: topV :: topV :: []), [some ⟨.view, .bytes (bs)⟩, some ⟨.box, .vals [.slice (some ⟨0, 0, none⟩) (l) (c), .int .i64 (p)]⟩, some deadB, some deadB, some ⟨.row 39 4, .ints (o)⟩]⟩) := by kernel_rfl
set_option maxRecDepth 100000 in
theorem nl_ass : loopsOf c_ass = [] := by kernel_rfl
def inv_ass (bs : List Int) (l c : Nat) : Nat × Nat × (List Int) × Int → Prop := fun (n, m, o, p) => m + n ≤ 100 ∧ o.length = m * 4 ∧ 0 ≤ p ∧ p + 6 * n ≤ 900000
def me_ass (bs : List Int) (l c : Nat) : Nat × Nat × (List Int) × Int → Nat := fun (n, m, o, p) => n
/-- A round of this loop. -/
def Round_ass (bs : List Int) (l c : Nat) : Prop := ∀ xx : Nat × Nat × (List Int) × Int, inv_ass bs l c xx → (bodyL Try.prog ERs 30 12 noL 1 c_ass k_ass 16 (s_ass bs l c xx)).ok (RoundEnd 4 (s_ass bs l c) (inv_ass bs l c) (me_ass bs l c) re_ass (rs_ass bs l c) xx) (fun _ _ => False)
def e_ass (s : St) (k : Ex → St → Tree) : Option Tree := match Nat.beq s.tmps.length 64, pickL s.tmps [0, 3, 4], s.mem with
  | true, [.pointer (some ⟨1, 0, none⟩), .slice (some ⟨2, 0, none⟩) z _, .int .i64 n1], [some ⟨.view, .bytes bs⟩, some ⟨.box, .vals [.slice (some ⟨0, 0, none⟩) l c, .int .i64 p]⟩, some ⟨.row 39 4, .vals []⟩, some ⟨.row 3 1, .vals w⟩] => some (needs [z = 0, 0 ≤ n1 ∧ n1 ≤ 100, l ≤ bs.length ∧ l ≤ 2000 ∧ Bytes bs, 0 ≤ p ∧ p ≤ 800000] (k (.exit 0) ⟨(.pointer (some ⟨1, 0, none⟩) :: topV :: topV :: .slice (some ⟨4, 0, none⟩) (0 + n1.toNat) (0 + n1.toNat) :: topV :: topV :: topV :: topV :: topV :: topV :: topV :: topV :: topV :: topV :: topV :: topV :: topV :: topV :: topV :: topV :: topV :: topV :: topV :: topV :: topV :: topV :: topV :: topV :: topV :: topV :: topV :: topV :: topV :: topV :: topV :: topV :: topV :: topV :: topV :: topV :: topV :: topV :: topV :: topV :: topV :: topV :: topV :: topV :: topV :: topV :: topV :: topV :: topV :: topV :: topV :: topV :: topV :: topV :: topV :: topV :: topV :: topV :: topV :: topV :: []), [some ⟨.view, .bytes bs⟩, some ⟨.box, .vals [.slice (some ⟨0, 0, none⟩) l c, .int .i64 (ssP bs l n1.toNat 0 [] p)]⟩, some ⟨.dead, .vals []⟩, some ⟨.dead, .vals []⟩, some ⟨.row 39 4, .ints (ssL bs l n1.toNat 0 [] p)⟩]⟩))
  | _, _, _ => none
set_option maxRecDepth 100000 in
set_option maxHeartbeats 4000000 in
theorem round_ass (bs : List Int) (l c : Nat) (h : l ≤ bs.length ∧ l ≤ 2000 ∧ Bytes bs) : Round_ass bs l c := by
  rintro ⟨n, m, o, p⟩ ⟨h1, h2, h3, h4⟩
  rw [tr_ass]
  have fk : List.take (m * 4) (List.drop 0 o) = o := by rw [List.drop_zero]; exact List.take_of_length_le (by omega)
  simp only [fk, Nat.zero_add, show p + 2 + 2 = p + 4 by omega, show p + 4 + 1 = p + 5 by omega, show p + 5 + 1 = p + 6 by omega, show p + 2 + 1 = p + 3 by omega, eqB_v]
  refine brT_ok.2 ⟨fun hlt => ?_, fun hge => ?_⟩
  · have hlt := of_decide_eq_true hlt
    obtain ⟨n, rfl⟩ : ∃ k, n = k + 1 := ⟨n - 1, by omega⟩
    have hr : rdK bs l p := ⟨⟨h.1, h.2.1, h3, by omega, h.2.2⟩, by omega⟩
    have hr2 : rdK bs l (p + 2) := ⟨⟨h.1, h.2.1, by omega, by omega, h.2.2⟩, by omega⟩
    have ra : ∀ q : Int, p ≤ q → q ≤ p + 100 → rdC bs l q := fun q g1 g2 => hr.at g1 (by omega)
    have e : IntKind.i64.wrap (((n + 1 : Nat) : Int) - 1) = (n : Int) := by rw [wr (by omega)]; omega
    have b3 := pickI_bd (k := 9) (ra (p + 3) (by omega) (by omega)) (by omega)
    have w3 : IntKind.i64.wrap (pickI bs l (p + 3) 9 - 2 + 1) = pickI bs l (p + 3) 9 - 2 + 1 := wr (by omega)
    rw [e, w3]
    have fin : ∀ x y z q, sjX bs l m o p = x → sjY bs l m o p = y → sjZ bs l m o p = z → sjP bs l m p = q → p + 4 ≤ q → q ≤ p + 6 →
        (Tree.leaf .normal ⟨[.pointer (some ⟨1, 0, none⟩), topV, topV, .slice (some ⟨7, 0, none⟩) (m + 1) (m + 1), .int .i64 n, topV, topV, topV, topV, topV, topV, topV, topV, topV, topV, topV, topV, topV, topV, topV, topV, topV, topV, topV, topV, topV, topV, topV, topV, topV, topV, topV, topV, topV, topV, topV, topV, topV, topV, topV, topV, topV, topV, topV, topV, topV, topV, topV, topV, topV, topV, topV, topV, topV, topV, topV, topV, topV, topV, topV, topV, topV, topV, topV], [some ⟨.view, .bytes bs⟩, some ⟨.box, .vals [.slice (some ⟨0, 0, none⟩) l c, .int .i64 q]⟩, some ⟨.dead, .vals []⟩, some ⟨.dead, .vals []⟩, some ⟨.dead, .vals []⟩, some ⟨.box, .vals [.int .i64 x, .int .i64 y, .int .i64 (pickI bs l (p + 2) 9 - 2), .int .i64 z]⟩, some ⟨.row 39 4, .vals [.int .i64 x, .int .i64 y, .int .i64 (pickI bs l (p + 2) 9 - 2), .int .i64 z]⟩, some ⟨.row 39 4, .ints (o ++ [x, y, pickI bs l (p + 2) 9 - 2, z])⟩]⟩).ok (RoundEnd 4 (s_ass bs l c) (inv_ass bs l c) (me_ass bs l c) re_ass (rs_ass bs l c) (n + 1, m, o, p)) (fun _ _ => False) := fun x y z q e1 e2 e3 e4 g1 g2 => by
      have eO : sjO bs l m o p = o ++ [x, y, pickI bs l (p + 2) 9 - 2, z] := by unfold sjO; rw [e1, e2, e3]
      refine ⟨(n, m + 1, o ++ [x, y, pickI bs l (p + 2) 9 - 2, z], q), [some 7], ⟨by omega, by simp; omega, by omega, by omega⟩, ?_, rfl, ?_, ?_⟩
      · show n < n + 1; omega
      · simp only [rs_ass, ssL, ssP, eO, e4]
        rw [show m + (n + 1) = m + 1 + n by omega]
      · repeat' (first | exact True.intro | exact rfl | exact fun _ => rfl | (simp; done) | refine And.intro ?_ ?_)
    refine ⟨hr, hr2, brT_ok.2 ⟨fun hm => ⟨ra _ (by omega) (by omega), brT_ok.2 ⟨fun hk => ?_, fun hk => ?_⟩⟩, fun hm => ?_⟩⟩
    · have hm := of_decide_eq_true hm
      have bm := pickI_bd (k := (m : Int)) (ra (p + 5) (by omega) (by omega)) (by omega)
      have q1 : sjQ bs l m p = true := by unfold sjQ; rw [decide_eq_true (show 0 < m by omega), hk]; rfl
      have eX : sjX bs l m o p = o.getD ((pickI bs l (p + 5) m).toNat * 4 + 2) 0 := by unfold sjX; rw [q1]; rfl
      have eY : sjY bs l m o p = o.getD ((pickI bs l (p + 5) m).toNat * 4 + 2 + 1) 0 := by unfold sjY; rw [q1]; rfl
      have eP : sjP bs l m p = p + 6 := by unfold sjP; rw [decide_eq_true (show 0 < m by omega), hk]; rfl
      refine ⟨ra _ (by omega) (by omega), ⟨by omega, by omega⟩, by omega, brT_ok.2 ⟨fun hz => ⟨by omega, by omega, ?_⟩, fun hz => ⟨by omega, by omega, ?_⟩⟩⟩
      · exact fin _ _ _ _ eX eY (by unfold sjZ; rw [eX, eY, hz]; rfl) eP (by omega) (by omega)
      · exact fin _ _ _ _ eX eY (by unfold sjZ; rw [eX, eY, hz]; rfl) eP (by omega) (by omega)
    · have hm := of_decide_eq_true hm
      have q1 : sjQ bs l m p = false := by unfold sjQ; rw [hk, Bool.and_false]
      have eX : sjX bs l m o p = pickI bs l p 9 - 2 := by unfold sjX; rw [q1]; rfl
      have eY : sjY bs l m o p = pickI bs l (p + 1) 9 - 2 := by unfold sjY; rw [q1]; rfl
      have eP : sjP bs l m p = p + 5 := by unfold sjP; rw [decide_eq_true (show 0 < m by omega), hk]; rfl
      refine brT_ok.2 ⟨fun hz => ⟨by omega, by omega, ?_⟩, fun hz => ⟨by omega, by omega, ?_⟩⟩
      · exact fin _ _ _ _ eX eY (by unfold sjZ; rw [eX, eY, hz]; rfl) eP (by omega) (by omega)
      · exact fin _ _ _ _ eX eY (by unfold sjZ; rw [eX, eY, hz]; rfl) eP (by omega) (by omega)
    · have hm := of_decide_eq_false hm
      have q1 : sjQ bs l m p = false := by unfold sjQ; rw [decide_eq_false (show ¬ 0 < m by omega)]; rfl
      have eX : sjX bs l m o p = pickI bs l p 9 - 2 := by unfold sjX; rw [q1]; rfl
      have eY : sjY bs l m o p = pickI bs l (p + 1) 9 - 2 := by unfold sjY; rw [q1]; rfl
      have eP : sjP bs l m p = p + 4 := by unfold sjP; rw [decide_eq_false (show ¬ 0 < m by omega)]; rfl
      refine brT_ok.2 ⟨fun hz => ⟨by omega, by omega, ?_⟩, fun hz => ⟨by omega, by omega, ?_⟩⟩
      · exact fin _ _ _ _ eX eY (by unfold sjZ; rw [eX, eY, hz]; rfl) eP (by omega) (by omega)
      · exact fin _ _ _ _ eX eY (by unfold sjZ; rw [eX, eY, hz]; rfl) eP (by omega) (by omega)
  · have hge := of_decide_eq_false hge
    obtain rfl : n = 0 := by omega
    refine ⟨rfl, [some 4], ?_⟩
    simp only [rs_ass, ssL, ssP]
    repeat' (first | exact True.intro | exact rfl | exact fun _ => rfl | (simp; done) | refine And.intro ?_ ?_)
set_option maxRecDepth 100000 in
theorem lg_ass : LoopE Try.prog e_ass c_ass := by
  intro s k t F H hlt ht
  unfold e_ass at hlt
  split at hlt
  rotate_left
  · cases hlt
  rename_i hlen hpick hmem
  obtain ⟨tmps, mem⟩ := s
  simp only at hlen hpick hmem
  subst hmem
  obtain rfl := Option.some.inj hlt
  obtain ⟨⟨rfl, h1, h2, h3, _⟩, ht2⟩ := needs_ok ht
  clear ht hlt
  obtain ⟨n, rfl⟩ := Int.eq_ofNat_of_zero_le h1.1
  simp only [Int.toNat_natCast] at ht2
  refine ⟨_, _, ht2, loop_run2 mixed ERs_ok (s_ass _ _ _) (inv_ass _ _ _) (me_ass _ _ _) re_ass (rs_ass _ _ _) k_ass (fun _ => rfl) (noLoops nl_ass) (round_ass _ _ _ h2) (x := (n, 0, [], _)) ⟨by omega, rfl, h3.1, by omega⟩ (π := [some 2]) rfl ?_⟩
  refine ⟨rfl, rfl, ?_, wvs_spread' [0, 3, 4] hlen rfl ?_⟩
  · repeat' (first | exact True.intro | exact rfl | exact wv_top _ _ | exact fun _ => rfl | assumption | exact Eq.symm (by assumption) | exact vI0 rfl | refine And.intro ?_ ?_)
  · rw [hpick]
    repeat' (first | exact True.intro | exact rfl | exact wv_top _ _ | exact fun _ => rfl | assumption | exact Eq.symm (by assumption) | exact vI0 rfl | refine And.intro ?_ ?_)
end Go.Proofs.Ytolodncpegajkaa
namespace Go.Proofs.Ytolodncpegajkaa
set_option linter.all false
open Go.RowKit
theorem Lr_ass {fn : Func} (hf : Try.prog.funcs[69]? = some fn) : LoopsGood Try.prog (lt1 e_ass) 0 (codeOf fn) := by
  obtain rfl := fn_is Try.func69 hf
  exact lt1_good lg_ass
def LAs : FuncId → LT := fun f => match f with
  | 69 => lt1 e_ass
  | _ => noL
def EAs : Env := ⟨B0, fun _ _ => none, LAs, tabJ J5a, fun _ => noR⟩
theorem EAs_ok : EnvOk Try.prog EAs := ⟨B0_ok, fun _ _ _ _ _ h => (by cases h), (by
  intro f fn hf
  show LoopsGood Try.prog (LAs f) 0 (codeOf fn)
  unfold LAs
  split
  all_goals first | with_reducible exact Lr_ass hf | exact noL_good), tabJ_sound mixed J5a_ok, fun _ _ _ => noR_good⟩
set_option maxRecDepth 100000 in
theorem tr_asF (bs : List Int) (l c : Nat) (p : Int) : bodyM Try.prog EAs (runM Try.prog EAs 30 12) 30 69 [.pointer (some ⟨1, 0, none⟩)] (memR bs l c p none) .fin = .need (rdC bs l p) (.need ((1 : Nat) ≤ (7 : Nat) ∧ (7 : Nat) ≤ (7 : Nat) ∧ (7 : Nat) = (7 : Nat)) (.need ((0 : Nat) = (0 : Nat)) (.need ((0 : Int) ≤ oneI bs l p (7 : Nat) [(0 : Int), (1 : Int), (2 : Int), (3 : Int), (4 : Int), (6 : Int), (13 : Int)] ∧ oneI bs l p (7 : Nat) [(0 : Int), (1 : Int), (2 : Int), (3 : Int), (4 : Int), (6 : Int), (13 : Int)] ≤ (100 : Int)) (.need (l ≤ bs.length ∧ l ≤ (2000 : Nat) ∧ Bytes bs) (.need ((0 : Int) ≤ p + (1 : Int) ∧ p + (1 : Int) ≤ (800000 : Int)) (brT (decide (0 < (↑(0 + (oneI bs l p 7 [0, 1, 2, 3, 4, 6, 13]).toNat) : Int))) (.need (rdC bs l (ssP bs l (oneI bs l p (7 : Nat) [(0 : Int), (1 : Int), (2 : Int), (3 : Int), (4 : Int), (6 : Int), (13 : Int)]).toNat (0 : Nat) [] (p + (1 : Int)))) (brT (pickI bs l (ssP bs l (oneI bs l p 7 [0, 1, 2, 3, 4, 6, 13]).toNat 0 [] (p + 1)) 12 == 0) (.need (rdK bs l (ssP bs l (oneI bs l p (7 : Nat) [(0 : Int), (1 : Int), (2 : Int), (3 : Int), (4 : Int), (6 : Int), (13 : Int)]).toNat (0 : Nat) [] (p + (1 : Int)) + (1 : Int))) (.need (rdK bs l (apP bs l (ssP bs l (oneI bs l p (7 : Nat) [(0 : Int), (1 : Int), (2 : Int), (3 : Int), (4 : Int), (6 : Int), (13 : Int)]).toNat (0 : Nat) [] (p + (1 : Int)) + (1 : Int)))) (.need ((0 : Int) ≤ (0 : Int) ∧ (0 : Int) < (↑((0 : Nat) + (oneI bs l p (7 : Nat) [(0 : Int), (1 : Int), (2 : Int), (3 : Int), (4 : Int), (6 : Int), (13 : Int)]).toNat) : Int)) (.need ((4 : Nat) ≤ (ssL bs l (oneI bs l p (7 : Nat) [(0 : Int), (1 : Int), (2 : Int), (3 : Int), (4 : Int), (6 : Int), (13 : Int)]).toNat (0 : Nat) [] (p + (1 : Int))).length) (.fin (.slice (some ⟨4, 0, none⟩) (0 + (oneI bs l p 7 [0, 1, 2, 3, 4, 6, 13]).toNat) (0 + (oneI bs l p 7 [0, 1, 2, 3, 4, 6, 13]).toNat)) [some ⟨.view, .bytes (bs)⟩, some ⟨.box, .vals [.slice (some ⟨0, 0, none⟩) (l) (c), .int .i64 (asP bs l (ssP bs l (oneI bs l p 7 [0, 1, 2, 3, 4, 6, 13]).toNat 0 [] (p + 1) + 1))]⟩, some deadB, some deadB, some ⟨.row 39 4, .ints (setInts (ssL bs l (oneI bs l p 7 [0, 1, 2, 3, 4, 6, 13]).toNat 0 [] (p + 1)) 0 [apX bs l (ssP bs l (oneI bs l p 7 [0, 1, 2, 3, 4, 6, 13]).toNat 0 [] (p + 1) + 1), apY bs l (ssP bs l (oneI bs l p 7 [0, 1, 2, 3, 4, 6, 13]).toNat 0 [] (p + 1) + 1), asX bs l (ssP bs l (oneI bs l p 7 [0, 1, 2, 3, 4, 6, 13]).toNat 0 [] (p + 1) + 1), asY bs l (ssP bs l (oneI bs l p 7 [0, 1, 2, 3, 4, 6, 13]).toNat 0 [] (p + 1) + 1)])⟩]))))) (.fin (.slice (some ⟨4, 0, none⟩) (0 + (oneI bs l p 7 [0, 1, 2, 3, 4, 6, 13]).toNat) (0 + (oneI bs l p 7 [0, 1, 2, 3, 4, 6, 13]).toNat)) [some ⟨.view, .bytes (bs)⟩, some ⟨.box, .vals [.slice (some ⟨0, 0, none⟩) (l) (c), .int .i64 (ssP bs l (oneI bs l p 7 [0, 1, 2, 3, 4, 6, 13]).toNat 0 [] (p + 1) + 1)]⟩, some deadB, some deadB, some ⟨.row 39 4, .ints (ssL bs l (oneI bs l p 7 [0, 1, 2, 3, 4, 6, 13]).toNat 0 [] (p + 1))⟩]))) (.fin (.slice (some ⟨4, 0, none⟩) (0 + (oneI bs l p 7 [0, 1, 2, 3, 4, 6, 13]).toNat) (0 + (oneI bs l p 7 [0, 1, 2, 3, 4, 6, 13]).toNat)) [some ⟨.view, .bytes (bs)⟩, some ⟨.box, .vals [.slice (some ⟨0, 0, none⟩) (l) (c), .int .i64 (ssP bs l (oneI bs l p 7 [0, 1, 2, 3, 4, 6, 13]).toNat 0 [] (p + 1))]⟩, some deadB, some deadB, some ⟨.row 39 4, .ints (ssL bs l (oneI bs l p 7 [0, 1, 2, 3, 4, 6, 13]).toNat 0 [] (p + 1))⟩]))))))) := by kernel_rfl
def asC : List Int := [0, 1, 2, 3, 4, 6, 13]
theorem asC_bd (k : Nat) : 0 ≤ asC.getD k 0 ∧ asC.getD k 0 ≤ 13 := by
  unfold asC
  match k with
  | 0 => decide
  | 1 => decide
  | 2 => decide
  | 3 => decide
  | 4 => decide
  | 5 => decide
  | 6 => decide
  | n + 7 => simp
/-- How many segments are drawn. -/
def asN (bs : List Int) (l : Nat) (p : Int) : Nat := (oneI bs l p 7 asC).toNat
def asM (bs : List Int) (l : Nat) (p : Int) : List Int := ssL bs l (asN bs l p) 0 [] (p + 1)
def asW (bs : List Int) (l : Nat) (p : Int) : Int := ssP bs l (asN bs l p) 0 [] (p + 1)
def anL (bs : List Int) (l : Nat) (p : Int) : List Int := bif decide (0 < asN bs l p) && pickI bs l (asW bs l p) 12 == 0 then setInts (asM bs l p) 0 [apX bs l (asW bs l p + 1), apY bs l (asW bs l p + 1), asX bs l (asW bs l p + 1), asY bs l (asW bs l p + 1)] else asM bs l p
def anE (bs : List Int) (l : Nat) (p : Int) : Int := bif decide (0 < asN bs l p) then (bif pickI bs l (asW bs l p) 12 == 0 then asP bs l (asW bs l p + 1) else asW bs l p + 1) else asW bs l p
theorem ss_bd (bs : List Int) (l : Nat) : ∀ (n m : Nat) (o : List Int) (p : Int), (ssL bs l n m o p).length = o.length + n * 4 ∧ p ≤ ssP bs l n m o p ∧ ssP bs l n m o p ≤ p + 6 * n
  | 0, m, o, p => ⟨rfl, Int.le_refl _, by simp [ssP]⟩
  | n + 1, m, o, p => by
    obtain ⟨h1, h2, h3⟩ := ss_bd bs l n (m + 1) (sjO bs l m o p) (sjP bs l m p)
    have k1 : (sjO bs l m o p).length = o.length + 4 := by unfold sjO; simp
    have k2 : p + 4 ≤ sjP bs l m p ∧ sjP bs l m p ≤ p + 6 := by
      unfold sjP
      cases decide (0 < m) <;> cases (pickI bs l (p + 4) 3 == 0) <;> simp only [cond_true, cond_false] <;> omega
    simp only [ssL, ssP]
    omega
theorem asN_bd (bs : List Int) (l : Nat) (p : Int) : asN bs l p ≤ 13 := by
  have := asC_bd (pickI bs l p (7 : Nat)).toNat
  unfold asN oneI
  omega
theorem anL_len (bs : List Int) (l : Nat) (p : Int) : (anL bs l p).length = asN bs l p * 4 := by
  have h := (ss_bd bs l (asN bs l p) 0 [] (p + 1)).1
  rw [List.length_nil, Nat.zero_add] at h
  have h : (asM bs l p).length = asN bs l p * 4 := h
  unfold anL
  rcases hc : (decide (0 < asN bs l p) && pickI bs l (asW bs l p) 12 == 0) with _ | _
  · exact h
  · have g := of_decide_eq_true (Bool.and_eq_true_iff.1 hc).1
    rw [cond_true]
    simp only [setInts, List.length_append, List.length_take, List.length_drop, List.length_cons, List.length_nil]
    omega
def anyS : RSpecR := fun bs l p rest => match rest with
  | [] => some (.slice (some ⟨0, 0, none⟩) (asN bs l p) (asN bs l p), ⟨.row 39 4, .ints (anL bs l p)⟩, anE bs l p, [rdC bs l p, p ≤ 700000])
  | _ => none
theorem anyS_ok : SpecROk Try.prog 69 anyS := by
  intro bs l c p rest v b p' C h hC
  unfold anyS at h
  split at h
  rotate_left
  · cases h
  obtain ⟨rfl, rfl, rfl, rfl⟩ : (.slice (some ⟨0, 0, none⟩) (asN bs l p) (asN bs l p) : Value) = v ∧ (⟨.row 39 4, .ints (anL bs l p)⟩ : Blk) = b ∧ anE bs l p = p' ∧ [rdC bs l p, p ≤ 700000] = C := by simpa using h
  obtain ⟨h1, h2, _⟩ := hC
  refine ⟨rfl, EAs, 30, 12, EAs_ok, ?_⟩
  rw [tr_asF]
  have h0 := h1.2.2.1
  have b0 := asC_bd (pickI bs l p (7 : Nat)).toNat
  have b1 : oneI bs l p 7 [0, 1, 2, 3, 4, 6, 13] = asC.getD (pickI bs l p (7 : Nat)).toNat 0 := rfl
  have bn := asN_bd bs l p
  obtain ⟨m1, m2, m3⟩ := ss_bd bs l (asN bs l p) 0 [] (p + 1)
  have eN : (oneI bs l p 7 [0, 1, 2, 3, 4, 6, 13]).toNat = asN bs l p := rfl
  rw [eN, b1]
  have eL : ssL bs l (asN bs l p) 0 [] (p + 1) = asM bs l p := rfl
  have eZ : ssP bs l (asN bs l p) 0 [] (p + 1) = asW bs l p := rfl
  rw [eL, List.length_nil] at m1
  rw [eZ] at m2 m3
  rw [eL, eZ]
  simp only [Nat.zero_add]
  have rk : ∀ q : Int, p ≤ q → q ≤ p + 1000 → rdK bs l q := fun q g1 g2 => ⟨⟨h1.1, h1.2.1, by omega, by omega, h1.2.2.2.2⟩, by omega⟩
  have ab := apP_bd bs l (asW bs l p + 1)
  refine ⟨h1, by decide, trivial, ⟨by omega, by omega⟩, ⟨h1.1, h1.2.1, h1.2.2.2.2⟩, ⟨by omega, by omega⟩, brT_ok.2 ⟨fun g => ?_, fun g => ?_⟩⟩
  · have g2 : 0 < asN bs l p := by have := of_decide_eq_true g; omega
    refine ⟨(rk _ (by omega) (by omega)).1, brT_ok.2 ⟨fun k => ?_, fun k => ?_⟩⟩
    · have eE : anE bs l p = asP bs l (asW bs l p + 1) := by unfold anE; rw [decide_eq_true g2, cond_true, k, cond_true]
      have eA : anL bs l p = setInts (asM bs l p) 0 [apX bs l (asW bs l p + 1), apY bs l (asW bs l p + 1), asX bs l (asW bs l p + 1), asY bs l (asW bs l p + 1)] := by unfold anL; rw [decide_eq_true g2, k]; rfl
      rw [eA, eE]
      exact ⟨rk _ (by omega) (by omega), rk _ (by omega) (by omega), ⟨by omega, by omega⟩, by omega, rfl, some 4, ⟨rfl, rfl, rfl⟩, rfl, rfl, rfl⟩
    · have eE : anE bs l p = asW bs l p + 1 := by unfold anE; rw [decide_eq_true g2, cond_true, k, cond_false]
      have eA : anL bs l p = asM bs l p := by unfold anL; rw [k, Bool.and_false]; rfl
      rw [eA, eE]
      exact ⟨rfl, some 4, ⟨rfl, rfl, rfl⟩, rfl, rfl, rfl⟩
  · have g2 : ¬ 0 < asN bs l p := by have := of_decide_eq_false g; omega
    have eE : anE bs l p = asW bs l p := by unfold anE; rw [decide_eq_false g2, cond_false]
    have eA : anL bs l p = asM bs l p := by unfold anL; rw [decide_eq_false g2]; rfl
    rw [eA, eE]
    exact ⟨rfl, some 4, ⟨rfl, rfl, rfl⟩, rfl, rfl, rfl⟩
def JAs : TabJ := consR 69 (rdGR anyS) (tabJ J2)
theorem JAs_ok : GSound Try.prog JAs.g := consR_ok mixed (tabJ_sound mixed J2_ok) (entersB_res (by kernel_rfl)).1 anyS_ok
end Go.Proofs.Ytolodncpegajkaa
namespace Go.Proofs.Ytolodncpegajkaa
set_option linter.all false
open Go.RowKit
theorem specCompare_any (an ad bn bd : Int) (w : World) (ha : ratB an ad = true) (hb : ratB bn bd = true) :
    Calls Try.prog 159 #[.agg #[.int .i64 an, .int .i64 ad], .agg #[.int .i64 bn, .int .i64 bd]] w fun e w' => e = .returned (.int .i64 (sgn (an * bd - bn * ad))) ∧ Below w.heap.size w w' := by
  have bd' := rat_bd ha hb
  clear ha hb
  go_enter Try.func159, Try.ntmps159
  go_wp2_with (go_at_call 112; refine (specSign_any _ _).mono ?_; rintro e w' ⟨rfl, rfl⟩)
  go_ret
  exact ⟨rfl, na (na (nr _) _) _⟩
end Go.Proofs.Ytolodncpegajkaa
namespace Go.Proofs.Ytolodncpegajkaa
set_option linter.all false
theorem q_spec {n d : Int} (hd : 0 < d) : ∃ g, 0 < g ∧ qN n d * g = n ∧ qD n d * g = d := by
  refine ⟨gI n d, gI_pos n d (by omega), ?_, ?_⟩
  · rw [qN_pos (by omega)]; exact Int.tdiv_mul_cancel (gI_dvd_left n d)
  · rw [qD_pos (by omega)]; exact Int.tdiv_mul_cancel (gI_dvd_right n d)
end Go.Proofs.Ytolodncpegajkaa
namespace Go.Proofs.Ytolodncpegajkaa
set_option linter.all false
theorem gcd_one' {p q : Int} (h : gI p q ≠ 0) : gI (p.tdiv (gI p q)) (q.tdiv (gI p q)) = 1 := by
  have h0 := gI_nonneg p q
  obtain ⟨u, hu⟩ := gI_dvd_left p q
  obtain ⟨v, hv⟩ := gI_dvd_right p q
  have e : gI p q = gI p q * gI u v := by
    generalize hg : gI p q = g at *
    have : gI (g * u) (g * v) = g := by rw [← hu, ← hv]; exact hg
    rw [← this]
    unfold gI
    rw [Int.gcd_mul_left]
    have hn : ((g.natAbs : Nat) : Int) = g := by omega
    push_cast
    rw [hn]
    have k := congrArg (fun z : Int => z) this
    unfold gI at k
    rw [Int.gcd_mul_left] at k
    push_cast at k
    rw [hn] at k
    rw [k]
    exact k.symm
  have e2 : gI u v = 1 := by
    have : gI p q * gI u v = gI p q * 1 := by rw [← e, Int.mul_one]
    exact Int.eq_of_mul_eq_mul_left h this
  have d1 : p.tdiv (gI p q) = u := by rw [show p.tdiv (gI p q) = (gI p q * u).tdiv (gI p q) by rw [← hu]]; exact Int.mul_tdiv_cancel_left _ h
  have d2 : q.tdiv (gI p q) = v := by rw [show q.tdiv (gI p q) = (gI p q * v).tdiv (gI p q) by rw [← hv]]; exact Int.mul_tdiv_cancel_left _ h
  rw [d1, d2, e2]
theorem q_low {n d : Int} (hd : 0 < d) : gI (qN n d) (qD n d) = 1 ∧ 1 ≤ qD n d := by
  refine ⟨?_, qD_ge (by omega)⟩
  rw [qN_pos (by omega), qD_pos (by omega)]
  have := gI_pos n d (by omega)
  exact gcd_one' (by omega)
end Go.Proofs.Ytolodncpegajkaa
namespace Go.Proofs.Ytolodncpegajkaa
set_option linter.all false
open Go.RowKit
theorem q_neg3 {n d : Int} (h : d ≠ 0) : qN (-n) (-d) = qN n d ∧ qD (-n) (-d) = qD n d := by
  have g : gI (-n) (-d) = gI n d := by unfold gI; simp
  by_cases hd : d < 0
  · rw [qN_neg hd, qD_neg hd, qN_pos (show ¬ -d < 0 by omega), qD_pos (show ¬ -d < 0 by omega), g]
    exact ⟨rfl, rfl⟩
  · rw [qN_pos hd, qD_pos hd, qN_neg (show -d < 0 by omega), qD_neg (show -d < 0 by omega), g, Int.neg_neg, Int.neg_neg]
    exact ⟨rfl, rfl⟩
theorem q_full3 {n d : Int} (h : d ≠ 0) : gI (qN n d) (qD n d) = 1 ∧ 1 ≤ qD n d ∧ qN n d * d = n * qD n d := by
  have pos : ∀ {n d : Int}, 0 < d → gI (qN n d) (qD n d) = 1 ∧ 1 ≤ qD n d ∧ qN n d * d = n * qD n d := fun {n d} hd => by
    obtain ⟨a1, a2⟩ := q_low (n := n) hd
    obtain ⟨g, _, b2, b3⟩ := q_spec (n := n) hd
    refine ⟨a1, a2, ?_⟩
    have : qN n d * (qD n d * g) = qN n d * g * qD n d := by rw [Int.mul_assoc, Int.mul_comm g]
    rw [b2, b3] at this
    exact this
  rcases Int.lt_or_gt_of_ne h with hd | hd
  · obtain ⟨c1, c2⟩ := q_neg3 (n := n) h
    have := pos (n := -n) (d := -d) (by omega)
    rw [c1, c2] at this
    refine ⟨this.1, this.2.1, ?_⟩
    have k := this.2.2
    rw [Int.mul_neg, Int.neg_mul] at k
    omega
  · exact pos hd
theorem q_rat3 {n d : Int} (h : d ≠ 0) (hn : -100000000000 ≤ n ∧ n ≤ 100000000000) (hd : -20000000 ≤ d ∧ d ≤ 20000000) : ratB (qN n d) (qD n d) = true := by
  obtain ⟨a1, a2, _⟩ := q_full3 (n := n) h
  have b1 := qN_bd (num := n) (den := d) (M := 100000000000) hn
  have b2 := qD_bd (num := n) (den := d) (M := 20000000) hd
  exact decide_eq_true ⟨b1.1, b1.2, a2, b2.2, a1⟩
end Go.Proofs.Ytolodncpegajkaa
namespace Go.Proofs.Ytolodncpegajkaa
set_option linter.all false
open Go.RowKit
/-- Both fractions of a point: numerator and denominator of X, then of Y. -/
abbrev Q4 := Int × Int × Int × Int
def z4 : Q4 := (0, 0, 0, 0)
def fl4 : List Q4 → List Int
  | [] => []
  | p :: r => p.1 :: p.2.1 :: p.2.2.1 :: p.2.2.2 :: fl4 r
def qs4 : List Int → List Q4
  | a :: b :: c :: d :: r => (a, b, c, d) :: qs4 r
  | _ => []
theorem qs4_fl4 : ∀ ps, qs4 (fl4 ps) = ps
  | [] => rfl
  | p :: r => by simp [fl4, qs4, qs4_fl4 r]
theorem fl4_length : ∀ ps, (fl4 ps).length = ps.length * 4
  | [] => rfl
  | p :: r => by simp [fl4, fl4_length r]; omega
theorem fl4_qs4 : ∀ (n : Nat) (xs : List Int), xs.length = n * 4 → fl4 (qs4 xs) = xs ∧ (qs4 xs).length = n
  | 0, xs, h => by
    obtain rfl : xs = [] := List.eq_nil_of_length_eq_zero (by omega)
    exact ⟨rfl, rfl⟩
  | n + 1, xs, h => by
    match xs, h with
    | a :: b :: c :: d :: r, h =>
      obtain ⟨h1, h2⟩ := fl4_qs4 n r (by simp at h; omega)
      exact ⟨by simp [qs4, fl4, h1], by simp [qs4, h2]⟩
    | [a, b, c], h => simp at h; omega
    | [a, b], h => simp at h; omega
    | [a], h => simp at h; omega
    | [], h => simp at h
theorem four_fl4 {n : Nat} {xs : List Int} (h : xs.length = n * 4) : ∃ ps : List Q4, xs = fl4 ps ∧ ps.length = n :=
  ⟨qs4 xs, (fl4_qs4 n xs h).1.symm, (fl4_qs4 n xs h).2⟩
theorem fl4_append : ∀ a b, fl4 (a ++ b) = fl4 a ++ fl4 b
  | [], b => rfl
  | p :: r, b => by simp [fl4, fl4_append r b]
theorem fl4_drop : ∀ (ps : List Q4) (k : Nat), (fl4 ps).drop (k * 4) = fl4 (ps.drop k)
  | ps, 0 => by simp
  | [], k + 1 => by simp [fl4]
  | p :: r, k + 1 => by
    rw [show (k + 1) * 4 = k * 4 + 4 by omega]
    simp [fl4, fl4_drop r k]
theorem fl4_take : ∀ (ps : List Q4) (k : Nat), (fl4 ps).take (k * 4) = fl4 (ps.take k)
  | ps, 0 => by simp [fl4]
  | [], k + 1 => by simp [fl4]
  | p :: r, k + 1 => by
    rw [show (k + 1) * 4 = k * 4 + 4 by omega]
    simp [fl4, fl4_take r k]
theorem fl4_all (ps : List Q4) : (fl4 ps).take (ps.length * 4) = fl4 ps := by rw [fl4_take, List.take_length]
theorem fl4_get : ∀ (ps : List Q4) (k : Nat), (fl4 ps).getD (k * 4) 0 = (ps.getD k z4).1 ∧ (fl4 ps).getD (k * 4 + 1) 0 = (ps.getD k z4).2.1 ∧ (fl4 ps).getD (k * 4 + 2) 0 = (ps.getD k z4).2.2.1 ∧ (fl4 ps).getD (k * 4 + 3) 0 = (ps.getD k z4).2.2.2
  | [], k => by simp [fl4, z4]
  | p :: r, 0 => by simp [fl4]
  | p :: r, k + 1 => by
    obtain ⟨h1, h2, h3, h4⟩ := fl4_get r k
    rw [show (k + 1) * 4 = k * 4 + 4 by omega, show k * 4 + 4 + 1 = k * 4 + 1 + 4 by omega, show k * 4 + 4 + 2 = k * 4 + 2 + 4 by omega, show k * 4 + 4 + 3 = k * 4 + 3 + 4 by omega]
    simp only [fl4, List.getD_eq_getElem?_getD, List.getElem?_cons_succ] at h1 h2 h3 h4 ⊢
    exact ⟨h1, h2, h3, h4⟩
theorem fl4_get0 (ps : List Q4) (k : Nat) : (fl4 ps).getD (k * 4) 0 = (ps.getD k z4).1 := (fl4_get ps k).1
theorem fl4_get1 (ps : List Q4) (k : Nat) : (fl4 ps).getD (k * 4 + 1) 0 = (ps.getD k z4).2.1 := (fl4_get ps k).2.1
theorem fl4_get2 (ps : List Q4) (k : Nat) : (fl4 ps).getD (k * 4 + 2) 0 = (ps.getD k z4).2.2.1 := (fl4_get ps k).2.2.1
theorem fl4_get3 (ps : List Q4) (k : Nat) : (fl4 ps).getD (k * 4 + 3) 0 = (ps.getD k z4).2.2.2 := (fl4_get ps k).2.2.2
theorem fl4_set (ps : List Q4) (k : Nat) (h : k < ps.length) (a b c d : Int) : setInts (fl4 ps) (k * 4) [a, b, c, d] = fl4 (ps.set k (a, b, c, d)) := by
  unfold setInts
  rw [fl4_take, show k * 4 + [a, b, c, d].length = (k + 1) * 4 by simp; omega, fl4_drop]
  rw [List.set_eq_take_append_cons_drop, if_pos h, fl4_append]
  simp [fl4]
theorem fl4_snoc (ps : List Q4) (a b c d : Int) : fl4 ps ++ [a, b, c, d] = fl4 (ps ++ [(a, b, c, d)]) := by rw [fl4_append]; rfl
def q4A (n : Nat) (xs : List Int) : List Q4 := qs4 (xs.take (n * 4))
theorem q4A_fl4 (ps : List Q4) : q4A ps.length (fl4 ps) = ps := by
  unfold q4A
  rw [fl4_take, List.take_length, qs4_fl4]
end Go.Proofs.Ytolodncpegajkaa
namespace Go.Proofs.Ytolodncpegajkaa
set_option linter.all false
open Go.RowKit Go.Sort
structure GB (a w : World) : Prop where
  b : Below a.heap.size a w
  d : a.drawn ≤ w.drawn
theorem gr (a : World) : GB a a := ⟨nr a, Nat.le_refl _⟩
theorem ga {a w : World} (h : GB a w) (o : Obj) : GB a (w.alloc o) := ⟨na h.b o, h.d⟩
theorem gd {a w : World} (h : GB a w) (n : Nat) : GB a (w.drewN n) := ⟨nd h.b n, Nat.le_trans h.d (Nat.le_add_right _ _)⟩
theorem gt {a b c : World} (h : GB a b) (k : GB b c) : GB a c := ⟨nt h.b k.b, Nat.le_trans h.d k.d⟩
theorem gb_grow {a w : World} (h : GB a w) : ∃ q os, w = grow (a.drewN q) os := by
  refine ⟨w.drawn - a.drawn, w.heap.extract a.heap.size w.heap.size, ?_⟩
  have hh : a.heap ++ w.heap.extract a.heap.size w.heap.size = w.heap := by
    apply Array.ext_getElem?
    intro k
    rw [Array.getElem?_append]
    split
    · rename_i hk
      exact (h.b.block k hk).symm
    · rename_i hk
      rw [Array.getElem?_extract]
      have := h.b.size
      split
      · rw [show a.heap.size + (k - a.heap.size) = k by omega]
      · rw [Array.getElem?_eq_none (by omega)]
  have h1 := h.b.os
  have h2 := h.b.tape
  have h3 := h.b.output
  have h4 := h.d
  cases w
  cases a
  simp only [grow, World.drewN] at *
  subst h1 h2 h3
  simp only [hh, World.mk.injEq, true_and, and_true]
  omega
theorem implGcd_g (A : Option Addr) (n c : Nat) (Z : Nat → Int) (w : World) (hn : n ≤ 9223372036854775807) (hp : Ints w w.heap.size A n Z) (hZ : ∀ k, k < n → -4500000000000000000 ≤ Z k ∧ Z k ≤ 4500000000000000000) :
    Calls Try.prog 107 #[.slice A n c] w fun e w' => e = .returned (.int .i64 (gL Z n)) ∧ GB w w' := by
  go_enter Try.func107, Try.ntmps107
  go_wp2
  go_loopw [3, 8] (fun v i wr => ∃ (k : Nat) (d : Int), k ≤ n ∧ i = .int .i64 k ∧ v = .int .i64 d ∧ GA d (gL Z k) ∧ -4500000000000000000 ≤ d ∧ d ≤ 4500000000000000000 ∧ GB w wr) (fun _ i _ => n - (intOf i).toNat)
  case atStart => exact ⟨0, 0, Nat.zero_le _, rfl, rfl, rfl, by omega, by omega, gr _⟩
  case round =>
    obtain ⟨k, d, hk, rfl, rfl, hd, h1, h2, hbr⟩ := hrel
    by_cases hlt : k < n
    · obtain ⟨b, off, rfl, hB, h0⟩ := hp.below hbr.b k hlt
      have hzk := hZ k hlt
      have hz := hbr.b.size
      clear hp hZ
      have HG : Hid (GI d (Z k) (gL Z (k + 1))) := by
        show gI d (Z k) = gI (gL Z k) (Z k)
        exact gI_of_abs (by have : (d.natAbs : Int) = gL Z k := hd; omega) _
      clear hd
      generalize hGe : gL Z (k + 1) = G at HG
      have HE := Lib.hid hGe
      clear hGe
      generalize Z k = z at *
      go_wp2
      go_loopw [3, 5] (fun v x wi => ∃ (d z : Int), v = .int .i64 d ∧ x = .int .i64 z ∧ GI d z G ∧ -4500000000000000000 ≤ d ∧ d ≤ 4500000000000000000 ∧ -4500000000000000000 ≤ z ∧ z ≤ 4500000000000000000 ∧ GB w wi) (fun _ x _ => (intOf x).natAbs)
      case atStart => exact ⟨d, z, rfl, rfl, HG.out, h1, h2, hzk.1, hzk.2, hbr⟩
      case round =>
        rename_i wi _ _ _ _ _ _ _ _
        clear h0 hzk HG hbr hz
        obtain ⟨d, z, rfl, rfl, hG, h1, h2, h3, h4, hbi⟩ := hrel
        have HG := Lib.hid hG
        clear hG
        by_cases hz0 : z = 0
        · subst hz0
          have hA := HG.out.last
          have HA := Lib.hid hA
          clear hA HG
          go_wp2
          refine ⟨⟨k + 1, d, by omega, by go_num, rfl, ?_, h1, h2, hbi⟩, by simp [intOf]; omega⟩
          rw [HE.out]
          exact HA.out
        · have ht := tmod_bd d z hz0
          go_wp2
          go_quiet (fail)
          go_wp2
          exact ⟨⟨z, d.tmod z, rfl, rfl, HG.out.next, h3, h4, by omega, by omega, gd hbi _⟩, by simp only [intOf]; exact ht⟩
    · have hk' : n = k := by omega
      subst hk'
      clear hp hZ
      have HA := Lib.hid hd
      clear hd
      go_wp2
      all_goals go_ret
      all_goals refine ⟨ret_int ?_, hbr⟩
      all_goals (have hA : (d.natAbs : Int) = gL Z n := HA.out)
      all_goals omega
theorem implGcd2_g (g c : Nat) (a b : Int) (w : World) (ha : -4500000000000000000 ≤ a ∧ a ≤ 4500000000000000000) (hb : -4500000000000000000 ≤ b ∧ b ≤ 4500000000000000000) (hg : g < w.heap.size) (h0 : w.cell? ⟨g, 0, none⟩ = some (.int .i64 a)) (h1 : w.cell? ⟨g, 1, none⟩ = some (.int .i64 b)) :
    Calls Try.prog 107 #[.slice (some ⟨g, 0, none⟩) 2 c] w fun e w' => e = .returned (.int .i64 (gI a b)) ∧ GB w w' := by
  rw [← gL2]
  refine implGcd_g _ 2 c _ w (by omega) (ints2 hg h0 h1) fun k hk => ?_
  match k, hk with
  | 0, _ => exact ha
  | 1, _ => exact hb
/-- ValidRat at a valid fraction. -/
theorem implRat_g {n d : Int} (w : World) (h : ratB n d = true) :
    Calls Try.prog 56 #[.agg #[.int .i64 n, .int .i64 d]] w fun e w' => e = .returned (.bool true) ∧ GB w w' := by
  obtain ⟨h1, h1', h2, h3, h5⟩ := ratB_true h
  clear h
  have HR := Lib.hid h5
  clear h5
  go_enter Try.func56, Try.ntmps56
  go_wp2_with fail
  refine (within_is true _ _ _ (by omega) (by omega) (in_yes (by omega))).mono ?_; rintro e w1 ⟨rfl, rfl⟩
  go_wp2_with fail
  refine (implGcd2_g _ _ n d _ (by omega) (by omega) ?_ ?_ ?_).mono ?_
  all_goals (try (simp [go_sem]; done))
  rintro e w1 ⟨rfl, hb1⟩
  go_wp2_with fail
  go_ret
  refine ⟨ret_bool ?_, gt (ga (ga (gr _) _) _) hb1⟩
  rw [HR.out]
  rfl
/-- CompareRats at valid fractions. -/
theorem implCompare_g {an ad bn bd : Int} (w : World) (va : ratB an ad = true) (vb : ratB bn bd = true) :
    Calls Try.prog 158 #[.agg #[.int .i64 an, .int .i64 ad], .agg #[.int .i64 bn, .int .i64 bd]] w fun e w' => e = .returned (.int .i64 (sgn (an * bd - bn * ad))) ∧ GB w w' := by
  go_enter Try.func158, Try.ntmps158
  have bd' := rat_bd va vb
  have VA := Lib.hid va
  have VB := Lib.hid vb
  clear va vb
  go_wp2_with fail
  refine (implRat_g _ VA.out).mono ?_; rintro e w1 ⟨rfl, hb1⟩; obtain ⟨hc1, hf1, hz1⟩ := bc2 w.heap.size hb1.b (by simp)
  go_wp2_with fail
  refine (implRat_g _ VB.out).mono ?_; rintro e w2 ⟨rfl, hb2⟩; obtain ⟨hc2, hf2, hz2⟩ := bc2 w.heap.size hb2.b (by omega)
  go_wp2_with (go_at_call 154; refine (compare_any _ _ _).mono ?_; rintro e w' ⟨rfl, rfl⟩)
  go_ret
  exact ⟨rfl, by repeat' (first | exact gr _ | apply ga | apply gd | refine gt ?_ (by assumption))⟩
end Go.Proofs.Ytolodncpegajkaa
namespace Go.Proofs.Ytolodncpegajkaa
set_option linter.all false
open Go.RowKit Go.Sort
def cmpRQ (a b c d e f g h : Int) : Int := orI (sgn (a * f - e * b)) (sgn (c * h - g * d))
set_option maxHeartbeats 2000000 in
theorem cmpRp_g {a b c d e f g h : Int} (w : World) (h1 : ratB a b = true) (h2 : ratB c d = true) (h3 : ratB e f = true) (h4 : ratB g h = true) :
    Calls Try.prog 127 #[.agg #[.int .i64 a, .int .i64 b, .int .i64 c, .int .i64 d], .agg #[.int .i64 e, .int .i64 f, .int .i64 g, .int .i64 h]] w fun x w' => x = .returned (.int .i64 (cmpRQ a b c d e f g h)) ∧ GB w w' := by
  go_enter Try.func127, Try.ntmps127
  have A := Lib.hid h1
  have B := Lib.hid h2
  have C := Lib.hid h3
  have D := Lib.hid h4
  clear h1 h2 h3 h4
  go_wp2_with fail
  go_region_held3 (fun w' => w'.cell? ⟨w.heap.size, 0, none⟩ = some (.int .i64 a) ∧ w'.cell? ⟨w.heap.size, 1, none⟩ = some (.int .i64 b) ∧ w'.cell? ⟨w.heap.size, 2, none⟩ = some (.int .i64 c) ∧ w'.cell? ⟨w.heap.size, 3, none⟩ = some (.int .i64 d) ∧ w'.cell? ⟨w.heap.size + 1, 0, none⟩ = some (.int .i64 e) ∧ w'.cell? ⟨w.heap.size + 1, 1, none⟩ = some (.int .i64 f) ∧ w'.cell? ⟨w.heap.size + 1, 2, none⟩ = some (.int .i64 g) ∧ w'.cell? ⟨w.heap.size + 1, 3, none⟩ = some (.int .i64 h))
    (first | (simp [*, go_sem]; done) | (go_split_ands; refine ⟨?_, ?_, ?_, ?_, ?_, ?_, ?_, ?_⟩ <;> exact keep1 (by assumption) (by assumption)))
    (first
      | (go_at_call 158; refine (implCompare_g _ (by first | exact A.out | exact B.out) (by first | exact C.out | exact D.out)).mono ?_; rintro e wx ⟨rfl, hx⟩; have hx1 := hx.b; have hz1 : w.heap.size < wx.heap.size := (by have := hx.b.size; (try simp at this); omega); have hz2 : w.heap.size + 1 < wx.heap.size := (by have := hx.b.size; (try simp at this); omega))
      | (go_at_call 157; refine (or2_any _ _ (sgn (a * f - e * b)) (sgn (c * h - g * d)) _ (by simp [go_sem]; done) (by simp [go_sem]; done)).mono ?_; rintro e wx ⟨rfl, rfl⟩))
  go_wp2_with fail
  go_ret
  exact ⟨rfl, by repeat' (first | exact gr _ | apply ga | apply gd | refine gt ?_ (by assumption))⟩
end Go.Proofs.Ytolodncpegajkaa
namespace Go.Proofs.Ytolodncpegajkaa
set_option linter.all false
open Go.RowKit Go.Sort Go.Lib
theorem dvd_of_cop {a b c : Int} (h : gI a b = 1) (k : b ∣ a * c) : b ∣ c := by
  have h2 : Int.gcd b a = 1 := by
    unfold gI at h
    rw [Int.gcd_comm]
    omega
  have := Int.dvd_gcd_mul_iff_dvd_mul.2 k
  rwa [h2, Int.natCast_one, Int.one_mul] at this
/-- Fractions in lowest terms that are equal have equal parts. -/
theorem rat_same {a b c d : Int} (h1 : ratB a b = true) (h2 : ratB c d = true) (h : a * d = c * b) : a = c ∧ b = d := by
  obtain ⟨_, _, b1, _, g1⟩ := ratB_true h1
  obtain ⟨_, _, d1, _, g2⟩ := ratB_true h2
  have k1 : b ∣ d := dvd_of_cop g1 ⟨c, by rw [h, Int.mul_comm]⟩
  have k2 : d ∣ b := dvd_of_cop g2 ⟨a, by rw [← h, Int.mul_comm]⟩
  have e : b = d := Int.dvd_antisymm (by omega) (by omega) k1 k2
  subst e
  exact ⟨Int.eq_of_mul_eq_mul_right (by omega) h, rfl⟩
/-- One fraction is less than another one. -/
def fLt (a b c d : Int) : Prop := a * d < c * b
theorem fLt_trans {a b c d e f : Int} (hb : 0 < b) (hd : 0 < d) (hf : 0 < f) (h1 : fLt a b c d) (h2 : fLt c d e f) : fLt a b e f := by
  unfold fLt at *
  have k1 := Int.mul_lt_mul_of_pos_right h1 hf
  have k2 := Int.mul_lt_mul_of_pos_right h2 hb
  have e1 : c * b * f = c * f * b := by rw [Int.mul_assoc, Int.mul_comm b f, ← Int.mul_assoc]
  have e2 : a * d * f = a * f * d := by rw [Int.mul_assoc, Int.mul_comm d f, ← Int.mul_assoc]
  have e3 : e * d * b = e * b * d := by rw [Int.mul_assoc, Int.mul_comm d b, ← Int.mul_assoc]
  rw [e1, e2] at k1
  rw [e3] at k2
  exact Int.lt_of_mul_lt_mul_right (Int.lt_trans k1 k2) (by omega)
theorem fLt_tri {a b c d : Int} (h1 : ratB a b = true) (h2 : ratB c d = true) : fLt a b c d ∨ (a = c ∧ b = d) ∨ fLt c d a b := by
  unfold fLt
  rcases Int.lt_trichotomy (a * d) (c * b) with h | h | h
  · exact .inl h
  · exact .inr (.inl (rat_same h1 h2 h))
  · exact .inr (.inr h)
def okQ (q : Q4) : Bool := ratB q.1 q.2.1 && ratB q.2.2.1 q.2.2.2
def cmQ (x y : Q4) : Int := cmpRQ x.1 x.2.1 x.2.2.1 x.2.2.2 y.1 y.2.1 y.2.2.1 y.2.2.2
/-- One point is ahead of another one. -/
def qLt (x y : Q4) : Bool := decide (cmQ x y < 0)
def QLt (x y : Q4) : Prop := fLt x.1 x.2.1 y.1 y.2.1 ∨ (x.1 * y.2.1 = y.1 * x.2.1 ∧ fLt x.2.2.1 x.2.2.2 y.2.2.1 y.2.2.2)
theorem qLt_iff {x y : Q4} : qLt x y = true ↔ QLt x y := by
  unfold qLt QLt fLt cmQ cmpRQ orI sgn
  rw [decide_eq_true_eq]
  generalize x.1 * y.2.1 = A
  generalize y.1 * x.2.1 = B
  generalize x.2.2.1 * y.2.2.2 = C
  generalize y.2.2.1 * x.2.2.2 = D
  split <;> (try split) <;> (try split) <;> (try split) <;> omega
theorem okQ_1 {q : Q4} (h : okQ q = true) : ratB q.1 q.2.1 = true ∧ ratB q.2.2.1 q.2.2.2 = true := by
  unfold okQ at h
  exact Bool.and_eq_true_iff.1 h
theorem den_pos {a b : Int} (h : ratB a b = true) : 0 < b := by
  have := (ratB_true h).2.2.1
  omega
theorem qLt_irr (x : Q4) : qLt x x = false := by
  rw [← Bool.not_eq_true, qLt_iff]
  unfold QLt fLt
  omega
theorem qLt_tri {x y : Q4} (h1 : okQ x = true) (h2 : okQ y = true) : qLt x y = true ∨ x = y ∨ qLt y x = true := by
  obtain ⟨a1, a2⟩ := okQ_1 h1
  obtain ⟨b1, b2⟩ := okQ_1 h2
  rw [qLt_iff, qLt_iff]
  unfold QLt
  rcases fLt_tri a1 b1 with h | ⟨e1, e2⟩ | h
  · exact .inl (.inl h)
  · rcases fLt_tri a2 b2 with h | ⟨e3, e4⟩ | h
    · exact .inl (.inr ⟨by rw [e1, e2], h⟩)
    · refine .inr (.inl ?_)
      obtain ⟨xa, xb, xc, xd⟩ := x
      obtain ⟨ya, yb, yc, yd⟩ := y
      simp only at e1 e2 e3 e4
      rw [e1, e2, e3, e4]
    · exact .inr (.inr (.inr ⟨by rw [e1, e2], h⟩))
  · exact .inr (.inr (.inl h))
theorem qLt_trans {x y z : Q4} (h1 : okQ x = true) (h2 : okQ y = true) (h3 : okQ z = true) (k1 : qLt x y = true) (k2 : qLt y z = true) : qLt x z = true := by
  obtain ⟨a1, a2⟩ := okQ_1 h1
  obtain ⟨b1, b2⟩ := okQ_1 h2
  obtain ⟨c1, c2⟩ := okQ_1 h3
  rw [qLt_iff] at *
  unfold QLt at *
  rcases k1 with k1 | ⟨e1, k1⟩
  · rcases k2 with k2 | ⟨e2, k2⟩
    · exact .inl (fLt_trans (den_pos a1) (den_pos b1) (den_pos c1) k1 k2)
    · obtain ⟨e2, e3⟩ := rat_same b1 c1 e2
      rw [e2, e3] at k1
      exact .inl k1
  · obtain ⟨e1, e3⟩ := rat_same a1 b1 e1
    rw [e1, e3]
    rcases k2 with k2 | ⟨e2, k2⟩
    · exact .inl k2
    · exact .inr ⟨e2, fLt_trans (den_pos a2) (den_pos b2) (den_pos c2) k1 k2⟩
theorem qLt_asymm {x y : Q4} (h1 : okQ x = true) (h2 : okQ y = true) (k1 : qLt x y = true) : qLt y x = false := by
  rcases h : qLt y x with _ | _
  · rfl
  · have := qLt_trans h1 h2 h1 k1 h
    rw [qLt_irr] at this
    cases this
/-- Points with valid fractions. -/
abbrev RP := { q : Q4 // okQ q = true }
instance : Inhabited RP := ⟨⟨(0, 1, 0, 1), by decide +kernel⟩⟩
def cfR (x y : RP) : Int := cmQ x.1 y.1
theorem cfR_lt (x y : RP) : ltOf cfR x y = qLt x.1 y.1 := rfl
theorem swoR : SWO (ltOf cfR) where
  irrefl x := by rw [cfR_lt]; exact qLt_irr _
  trans x y z h1 h2 := by rw [cfR_lt] at *; exact qLt_trans x.2 y.2 z.2 h1 h2
  ntrans x y z h1 h2 := by
    rw [cfR_lt] at *
    rcases qLt_tri x.2 z.2 with h | h | h
    · rcases qLt_tri y.2 z.2 with k | k | k
      · rw [k] at h2; cases h2
      · rw [← k] at h; rw [h] at h1; cases h1
      · have := qLt_trans x.2 z.2 y.2 h k
        rw [this] at h1; cases h1
    · rw [h]; exact qLt_irr _
    · exact qLt_asymm z.2 x.2 h
/-- Points with fractions in order. -/
def srtQ (qs : List Q4) : List Q4 := qs.mergeSort fun x y => !(qLt y x)
theorem srtQ_len (qs : List Q4) : (srtQ qs).length = qs.length := List.length_mergeSort _
theorem srtQ_mem (qs : List Q4) (z : Q4) : z ∈ srtQ qs ↔ z ∈ qs := List.mem_mergeSort
theorem srtQ_sub (rs : List RP) : (rs.mergeSort fun x y => !(ltOf cfR) y x).map Subtype.val = srtQ (rs.map Subtype.val) := by
  unfold srtQ
  exact List.map_mergeSort fun a _ b _ => rfl
theorem sub_all {qs : List Q4} (h : ∀ q ∈ qs, okQ q = true) : ∃ rs : List RP, rs.map Subtype.val = qs := by
  induction qs with
  | nil => exact ⟨[], rfl⟩
  | cons q qs ih =>
    obtain ⟨rs, hr⟩ := ih fun z hz => h z (List.mem_cons_of_mem _ hz)
    exact ⟨⟨q, h q (List.mem_cons_self ..)⟩ :: rs, by rw [List.map_cons, hr]⟩
theorem srtQ_up {qs : List Q4} (h : ∀ q ∈ qs, okQ q = true) : (srtQ qs).Pairwise fun x y => qLt y x = false := by
  obtain ⟨rs, rfl⟩ := sub_all h
  rw [← srtQ_sub, List.pairwise_map]
  have := List.pairwise_mergeSort (le := fun x y => !(ltOf cfR) y x) (fun a b c h1 h2 => by
    simp only [Bool.not_eq_true'] at *
    exact swoR.ntrans _ _ _ h2 h1) (fun a b => by
    simp only [Bool.or_eq_true, Bool.not_eq_true', cfR_lt]
    rcases h : qLt b.1 a.1 with _ | _
    · exact .inl rfl
    · exact .inr (qLt_asymm b.2 a.2 h)) rs
  exact this.imp fun h => by simpa [cfR_lt] using h
end Go.Proofs.Ytolodncpegajkaa
namespace Go.Proofs.Ytolodncpegajkaa
set_option linter.all false
open Go.RowKit
theorem prD_lt2 (n : Nat) : ∀ f a t, t < offR n a f → a + f = n → (prD n f a t).1 < n ∧ (prD n f a t).2 < n
  | 0, a, t, h, _ => by simp [offR] at h
  | f + 1, a, t, h, ha => by
    have h : t < (n - 1 - a) + offR n (a + 1) f := h
    simp only [prD]
    split
    · simp only
      omega
    · exact prD_lt2 n f (a + 1) (t - (n - 1 - a)) (by omega) (by omega)
theorem prA_lt2 {n t : Nat} (h : t < offR n 0 n) : (prA n t).1 < n ∧ (prA n t).2 < n := prD_lt2 n n 0 t h (by omega)
def cpX (a c u v : Int) : Int := a * (u - v) + (c - a) * u
/-- The cells of the point where two segments cross. -/
def xp1 (a b c d e f g h : Int) : Int := qN (cpX a c (crossI e f g h a b) (crossI e f g h c d)) (crossI e f g h a b - crossI e f g h c d)
def xp2 (a b c d e f g h : Int) : Int := qD (cpX a c (crossI e f g h a b) (crossI e f g h c d)) (crossI e f g h a b - crossI e f g h c d)
def xp3 (a b c d e f g h : Int) : Int := qN (cpX b d (crossI e f g h a b) (crossI e f g h c d)) (crossI e f g h a b - crossI e f g h c d)
def xp4 (a b c d e f g h : Int) : Int := qD (cpX b d (crossI e f g h a b) (crossI e f g h c d)) (crossI e f g h a b - crossI e f g h c d)
def xpQ (a b c d e f g h : Int) : Q4 := (xp1 a b c d e f g h, xp2 a b c d e f g h, xp3 a b c d e f g h, xp4 a b c d e f g h)
theorem crI_bd2 {ax ay bx b_y cx cy : Int} (h1 : ptB ax ay = true) (h2 : ptB bx b_y = true) (h3 : ptB cx cy = true) : -8000000 ≤ crossI ax ay bx b_y cx cy ∧ crossI ax ay bx b_y cx cy ≤ 8000000 := by
  obtain ⟨b1, b2⟩ := crs_bd h1 h2 h3
  unfold crossI
  omega
theorem relA_2b {a b c d e f g h : Int} (k : relA a b c d e f g h = 2) : dvB a b c d e f g h = true ∧ dvB e f g h a b c d = true := by
  unfold relA relN at k
  split at k
  · omega
  · split at k
    · omega
    · cases hx : (dvB a b c d e f g h && dvB e f g h a b c d) <;> rw [hx] at k
      · simp at k
      · simpa using hx
theorem dvB_ne2 {a b c d e f g h : Int} (k : dvB a b c d e f g h = true) : crossI a b c d e f ≠ crossI a b c d g h := by
  intro e1
  unfold dvB at k
  rw [e1] at k
  have k := of_decide_eq_true k
  have h3 : cmpI (crossI a b c d g h) 0 = -1 ∨ cmpI (crossI a b c d g h) 0 = 0 ∨ cmpI (crossI a b c d g h) 0 = 1 := by
    unfold cmpI
    split
    · exact .inl rfl
    · split
      · exact .inr (.inr rfl)
      · exact .inr (.inl rfl)
  rcases h3 with h3 | h3 | h3 <;> rw [h3] at k <;> revert k <;> decide
theorem cp_bd {a b c d e f g h : Int} (h1 : ptB a b = true) (h2 : ptB c d = true) (h3 : ptB e f = true) (h4 : ptB g h = true) : (-16000000 ≤ crossI e f g h a b - crossI e f g h c d ∧ crossI e f g h a b - crossI e f g h c d ≤ 16000000) ∧ (-32000000000 ≤ cpX a c (crossI e f g h a b) (crossI e f g h c d) ∧ cpX a c (crossI e f g h a b) (crossI e f g h c d) ≤ 32000000000) ∧ -32000000000 ≤ cpX b d (crossI e f g h a b) (crossI e f g h c d) ∧ cpX b d (crossI e f g h a b) (crossI e f g h c d) ≤ 32000000000 := by
  have u1 := crI_bd2 h3 h4 h1
  have v1 := crI_bd2 h3 h4 h2
  unfold cpX
  generalize crossI e f g h a b = u at *
  generalize crossI e f g h c d = v at *
  have a1 := ptB_true h1
  have a2 := ptB_true h2
  have m1 : -(1000 * 16000000) ≤ a * (u - v) ∧ a * (u - v) ≤ 1000 * 16000000 := mul_bd 1000 16000000 (by omega) (by omega)
  have m2 : -(2000 * 8000000) ≤ (c - a) * u ∧ (c - a) * u ≤ 2000 * 8000000 := mul_bd 2000 8000000 (by omega) (by omega)
  have m3 : -(1000 * 16000000) ≤ b * (u - v) ∧ b * (u - v) ≤ 1000 * 16000000 := mul_bd 1000 16000000 (by omega) (by omega)
  have m4 : -(2000 * 8000000) ≤ (d - b) * u ∧ (d - b) * u ≤ 2000 * 8000000 := mul_bd 2000 8000000 (by omega) (by omega)
  omega
/-- The point where segments cross has fractions in lowest terms. -/
theorem xp_ok {a b c d e f g h : Int} (h1 : ptB a b = true) (h2 : ptB c d = true) (h3 : ptB e f = true) (h4 : ptB g h = true) (hne : crossI e f g h a b ≠ crossI e f g h c d) : okQ (xpQ a b c d e f g h) = true := by
  obtain ⟨k1, k2, k3⟩ := cp_bd h1 h2 h3 h4
  unfold okQ xpQ xp1 xp2 xp3 xp4
  simp only
  rw [q_rat3 (by omega) (by omega) (by omega), q_rat3 (by omega) (by omega) (by omega)]
  rfl
def ECqb : Env := mkE TSl2 (fun _ _ => none) (fun _ => noL)
theorem ECqb_ok : EnvOk Try.prog ECqb := mkEOk TSl2_ok (fun _ _ _ _ _ h => (by cases h)) (fun _ _ _ => noL_good)
set_option maxRecDepth 100000 in
theorem tr_sXp (a b c d e f g h : Int) : bodyV Try.prog ECqb 30 12 82 [.v (.agg #[iv a, iv b, iv c, iv d]), .v (.agg #[iv e, iv f, iv g, iv h])] = .need (ptB e f = true) (.need (ptB g h = true) (.need (ptB a b = true) (.need (ptB e f = true) (.need (ptB g h = true) (.need (ptB c d = true) (.need (big (IntKind.i64.wrap (IntKind.i64.wrap (a * IntKind.i64.wrap (crossI e f g h a b - crossI e f g h c d)) + IntKind.i64.wrap (IntKind.i64.wrap (c - a) * crossI e f g h a b)))) (.need (big (IntKind.i64.wrap (crossI e f g h a b - crossI e f g h c d))) (.need (¬IntKind.i64.wrap (crossI e f g h a b - crossI e f g h c d) = (0 : Int)) (.need (big (IntKind.i64.wrap (IntKind.i64.wrap (b * IntKind.i64.wrap (crossI e f g h a b - crossI e f g h c d)) + IntKind.i64.wrap (IntKind.i64.wrap (d - b) * crossI e f g h a b)))) (.need (big (IntKind.i64.wrap (crossI e f g h a b - crossI e f g h c d))) (.need (¬IntKind.i64.wrap (crossI e f g h a b - crossI e f g h c d) = (0 : Int)) (.fin (.agg #[.int .i64 (qN (IntKind.i64.wrap (IntKind.i64.wrap (a * IntKind.i64.wrap (crossI e f g h a b - crossI e f g h c d)) + IntKind.i64.wrap (IntKind.i64.wrap (c - a) * crossI e f g h a b))) (IntKind.i64.wrap (crossI e f g h a b - crossI e f g h c d))), .int .i64 (qD (IntKind.i64.wrap (IntKind.i64.wrap (a * IntKind.i64.wrap (crossI e f g h a b - crossI e f g h c d)) + IntKind.i64.wrap (IntKind.i64.wrap (c - a) * crossI e f g h a b))) (IntKind.i64.wrap (crossI e f g h a b - crossI e f g h c d))), .int .i64 (qN (IntKind.i64.wrap (IntKind.i64.wrap (b * IntKind.i64.wrap (crossI e f g h a b - crossI e f g h c d)) + IntKind.i64.wrap (IntKind.i64.wrap (d - b) * crossI e f g h a b))) (IntKind.i64.wrap (crossI e f g h a b - crossI e f g h c d))), .int .i64 (qD (IntKind.i64.wrap (IntKind.i64.wrap (b * IntKind.i64.wrap (crossI e f g h a b - crossI e f g h c d)) + IntKind.i64.wrap (IntKind.i64.wrap (d - b) * crossI e f g h a b))) (IntKind.i64.wrap (crossI e f g h a b - crossI e f g h c d)))]) [])))))))))))) := by kernel_rfl
set_option maxRecDepth 100000 in
theorem tr_iXp (a b c d e f g h : Int) : bodyV Try.prog ECqb 30 12 79 [.v (.agg #[iv a, iv b, iv c, iv d]), .v (.agg #[iv e, iv f, iv g, iv h])] = .need (big (IntKind.i64.wrap (IntKind.i64.wrap (a * IntKind.i64.wrap (IntKind.i64.wrap (IntKind.i64.wrap (c - a) * IntKind.i64.wrap (h - f)) - IntKind.i64.wrap (IntKind.i64.wrap (d - b) * IntKind.i64.wrap (g - e)))) + IntKind.i64.wrap (IntKind.i64.wrap (c - a) * IntKind.i64.wrap (IntKind.i64.wrap (IntKind.i64.wrap (e - a) * IntKind.i64.wrap (h - f)) - IntKind.i64.wrap (IntKind.i64.wrap (f - b) * IntKind.i64.wrap (g - e))))))) (.need (big (IntKind.i64.wrap (IntKind.i64.wrap (IntKind.i64.wrap (c - a) * IntKind.i64.wrap (h - f)) - IntKind.i64.wrap (IntKind.i64.wrap (d - b) * IntKind.i64.wrap (g - e))))) (.need (¬IntKind.i64.wrap (IntKind.i64.wrap (IntKind.i64.wrap (c - a) * IntKind.i64.wrap (h - f)) - IntKind.i64.wrap (IntKind.i64.wrap (d - b) * IntKind.i64.wrap (g - e))) = (0 : Int)) (.need (big (IntKind.i64.wrap (IntKind.i64.wrap (b * IntKind.i64.wrap (IntKind.i64.wrap (IntKind.i64.wrap (c - a) * IntKind.i64.wrap (h - f)) - IntKind.i64.wrap (IntKind.i64.wrap (d - b) * IntKind.i64.wrap (g - e)))) + IntKind.i64.wrap (IntKind.i64.wrap (d - b) * IntKind.i64.wrap (IntKind.i64.wrap (IntKind.i64.wrap (e - a) * IntKind.i64.wrap (h - f)) - IntKind.i64.wrap (IntKind.i64.wrap (f - b) * IntKind.i64.wrap (g - e))))))) (.need (big (IntKind.i64.wrap (IntKind.i64.wrap (IntKind.i64.wrap (c - a) * IntKind.i64.wrap (h - f)) - IntKind.i64.wrap (IntKind.i64.wrap (d - b) * IntKind.i64.wrap (g - e))))) (.need (¬IntKind.i64.wrap (IntKind.i64.wrap (IntKind.i64.wrap (c - a) * IntKind.i64.wrap (h - f)) - IntKind.i64.wrap (IntKind.i64.wrap (d - b) * IntKind.i64.wrap (g - e))) = (0 : Int)) (.fin (.agg #[.int .i64 (qN (IntKind.i64.wrap (IntKind.i64.wrap (a * IntKind.i64.wrap (IntKind.i64.wrap (IntKind.i64.wrap (c - a) * IntKind.i64.wrap (h - f)) - IntKind.i64.wrap (IntKind.i64.wrap (d - b) * IntKind.i64.wrap (g - e)))) + IntKind.i64.wrap (IntKind.i64.wrap (c - a) * IntKind.i64.wrap (IntKind.i64.wrap (IntKind.i64.wrap (e - a) * IntKind.i64.wrap (h - f)) - IntKind.i64.wrap (IntKind.i64.wrap (f - b) * IntKind.i64.wrap (g - e)))))) (IntKind.i64.wrap (IntKind.i64.wrap (IntKind.i64.wrap (c - a) * IntKind.i64.wrap (h - f)) - IntKind.i64.wrap (IntKind.i64.wrap (d - b) * IntKind.i64.wrap (g - e))))), .int .i64 (qD (IntKind.i64.wrap (IntKind.i64.wrap (a * IntKind.i64.wrap (IntKind.i64.wrap (IntKind.i64.wrap (c - a) * IntKind.i64.wrap (h - f)) - IntKind.i64.wrap (IntKind.i64.wrap (d - b) * IntKind.i64.wrap (g - e)))) + IntKind.i64.wrap (IntKind.i64.wrap (c - a) * IntKind.i64.wrap (IntKind.i64.wrap (IntKind.i64.wrap (e - a) * IntKind.i64.wrap (h - f)) - IntKind.i64.wrap (IntKind.i64.wrap (f - b) * IntKind.i64.wrap (g - e)))))) (IntKind.i64.wrap (IntKind.i64.wrap (IntKind.i64.wrap (c - a) * IntKind.i64.wrap (h - f)) - IntKind.i64.wrap (IntKind.i64.wrap (d - b) * IntKind.i64.wrap (g - e))))), .int .i64 (qN (IntKind.i64.wrap (IntKind.i64.wrap (b * IntKind.i64.wrap (IntKind.i64.wrap (IntKind.i64.wrap (c - a) * IntKind.i64.wrap (h - f)) - IntKind.i64.wrap (IntKind.i64.wrap (d - b) * IntKind.i64.wrap (g - e)))) + IntKind.i64.wrap (IntKind.i64.wrap (d - b) * IntKind.i64.wrap (IntKind.i64.wrap (IntKind.i64.wrap (e - a) * IntKind.i64.wrap (h - f)) - IntKind.i64.wrap (IntKind.i64.wrap (f - b) * IntKind.i64.wrap (g - e)))))) (IntKind.i64.wrap (IntKind.i64.wrap (IntKind.i64.wrap (c - a) * IntKind.i64.wrap (h - f)) - IntKind.i64.wrap (IntKind.i64.wrap (d - b) * IntKind.i64.wrap (g - e))))), .int .i64 (qD (IntKind.i64.wrap (IntKind.i64.wrap (b * IntKind.i64.wrap (IntKind.i64.wrap (IntKind.i64.wrap (c - a) * IntKind.i64.wrap (h - f)) - IntKind.i64.wrap (IntKind.i64.wrap (d - b) * IntKind.i64.wrap (g - e)))) + IntKind.i64.wrap (IntKind.i64.wrap (d - b) * IntKind.i64.wrap (IntKind.i64.wrap (IntKind.i64.wrap (e - a) * IntKind.i64.wrap (h - f)) - IntKind.i64.wrap (IntKind.i64.wrap (f - b) * IntKind.i64.wrap (g - e)))))) (IntKind.i64.wrap (IntKind.i64.wrap (IntKind.i64.wrap (c - a) * IntKind.i64.wrap (h - f)) - IntKind.i64.wrap (IntKind.i64.wrap (d - b) * IntKind.i64.wrap (g - e)))))]) [])))))) := by kernel_rfl
abbrev xpV (a b c d e f g h : Int) : Value := .agg #[.int .i64 (xp1 a b c d e f g h), .int .i64 (xp2 a b c d e f g h), .int .i64 (xp3 a b c d e f g h), .int .i64 (xp4 a b c d e f g h)]
theorem res_sXp {a b c d e f g h : Int} (h1 : ptB a b = true) (h2 : ptB c d = true) (h3 : ptB e f = true) (h4 : ptB g h = true) (hne : crossI e f g h a b ≠ crossI e f g h c d) : Res Try.prog 82 [.v (.agg #[iv a, iv b, iv c, iv d]), .v (.agg #[iv e, iv f, iv g, iv h])] (xpV a b c d e f g h) := by
  refine bodyV_res mixed ECqb_ok (m := 30) (n := 12) rfl ?_
  rw [tr_sXp]
  unfold xpV xp1 xp2 xp3 xp4 cpX
  have u1 := crI_bd2 h3 h4 h1
  have v1 := crI_bd2 h3 h4 h2
  generalize crossI e f g h a b = u at *
  generalize crossI e f g h c d = v at *
  have a1 := ptB_true h1
  have a2 := ptB_true h2
  have m1 : -(1000 * 16000000) ≤ a * (u - v) ∧ a * (u - v) ≤ 1000 * 16000000 := mul_bd 1000 16000000 (by omega) (by omega)
  have m2 : -(2000 * 8000000) ≤ (c - a) * u ∧ (c - a) * u ≤ 2000 * 8000000 := mul_bd 2000 8000000 (by omega) (by omega)
  have m3 : -(1000 * 16000000) ≤ b * (u - v) ∧ b * (u - v) ≤ 1000 * 16000000 := mul_bd 1000 16000000 (by omega) (by omega)
  have m4 : -(2000 * 8000000) ≤ (d - b) * u ∧ (d - b) * u ≤ 2000 * 8000000 := mul_bd 2000 8000000 (by omega) (by omega)
  simp (disch := omega) only [wr]
  exact ⟨h3, h4, h1, h3, h4, h2, by unfold big; omega, by unfold big; omega, by omega, by unfold big; omega, by unfold big; omega, by omega, rfl⟩
theorem res_iXp {a b c d e f g h : Int} (h1 : ptB a b = true) (h2 : ptB c d = true) (h3 : ptB e f = true) (h4 : ptB g h = true) (hne : crossI e f g h a b ≠ crossI e f g h c d) : Res Try.prog 79 [.v (.agg #[iv a, iv b, iv c, iv d]), .v (.agg #[iv e, iv f, iv g, iv h])] (xpV a b c d e f g h) := by
  refine bodyV_res mixed ECqb_ok (m := 30) (n := 12) rfl ?_
  rw [tr_iXp]
  unfold xpV xp1 xp2 xp3 xp4 cpX
  have u1 := crI_bd2 h3 h4 h1
  have v1 := crI_bd2 h3 h4 h2
  have a1 := ptB_true h1
  have a2 := ptB_true h2
  have a3 := ptB_true h3
  have a4 := ptB_true h4
  have p1 : -(2000 * 2000) ≤ (c - a) * (h - f) ∧ (c - a) * (h - f) ≤ 2000 * 2000 := mul_bd 2000 2000 (by omega) (by omega)
  have p2 : -(2000 * 2000) ≤ (d - b) * (g - e) ∧ (d - b) * (g - e) ≤ 2000 * 2000 := mul_bd 2000 2000 (by omega) (by omega)
  have p3 : -(2000 * 2000) ≤ (e - a) * (h - f) ∧ (e - a) * (h - f) ≤ 2000 * 2000 := mul_bd 2000 2000 (by omega) (by omega)
  have p4 : -(2000 * 2000) ≤ (f - b) * (g - e) ∧ (f - b) * (g - e) ≤ 2000 * 2000 := mul_bd 2000 2000 (by omega) (by omega)
  have eA : (c - a) * (h - f) - (d - b) * (g - e) = crossI e f g h a b - crossI e f g h c d := by unfold crossI; grind
  have eP : (e - a) * (h - f) - (f - b) * (g - e) = crossI e f g h a b := by unfold crossI; grind
  simp (disch := omega) only [wr, eA, eP]
  generalize crossI e f g h a b = u at *
  generalize crossI e f g h c d = v at *
  have m1 : -(1000 * 16000000) ≤ a * (u - v) ∧ a * (u - v) ≤ 1000 * 16000000 := mul_bd 1000 16000000 (by omega) (by omega)
  have m2 : -(2000 * 8000000) ≤ (c - a) * u ∧ (c - a) * u ≤ 2000 * 8000000 := mul_bd 2000 8000000 (by omega) (by omega)
  have m3 : -(1000 * 16000000) ≤ b * (u - v) ∧ b * (u - v) ≤ 1000 * 16000000 := mul_bd 1000 16000000 (by omega) (by omega)
  have m4 : -(2000 * 8000000) ≤ (d - b) * u ∧ (d - b) * u ≤ 2000 * 8000000 := mul_bd 2000 8000000 (by omega) (by omega)
  simp (disch := omega) only [wr]
  exact ⟨by unfold big; omega, by unfold big; omega, by omega, by unfold big; omega, by unfold big; omega, by omega, rfl⟩
def pXp : List DArg → Option (Value × List Prop)
  | [.v (.agg ⟨[.int .i64 a, .int .i64 b, .int .i64 c, .int .i64 d]⟩), .v (.agg ⟨[.int .i64 e, .int .i64 f, .int .i64 g, .int .i64 h]⟩)] => some (xpV a b c d e f g h, [ptB a b = true, ptB c d = true, ptB e f = true, ptB g h = true, crossI e f g h a b ≠ crossI e f g h c d])
  | _ => none
theorem pXp_s {ds : List DArg} {v : Value} {C : List Prop} (h : pXp ds = some (v, C)) (hC : AllP C) : Res Try.prog 82 ds v := by
  unfold pXp at h
  split at h
  · obtain ⟨rfl, rfl⟩ : _ ∧ _ := by simpa using h
    obtain ⟨h1, h2, h3, h4, h5, _⟩ := hC
    exact res_sXp h1 h2 h3 h4 h5
  · cases h
theorem pXp_i {ds : List DArg} {v : Value} {C : List Prop} (h : pXp ds = some (v, C)) (hC : AllP C) : Res Try.prog 79 ds v := by
  unfold pXp at h
  split at h
  · obtain ⟨rfl, rfl⟩ : _ ∧ _ := by simpa using h
    obtain ⟨h1, h2, h3, h4, h5, _⟩ := hC
    exact res_iXp h1 h2 h3 h4 h5
  · cases h
def TCq : Tab := fun f ds => match f with
  | 82 => pXp ds
  | 79 => pXp ds
  | f => TSl2 f ds
theorem TCq_ok : TabOk Try.prog TCq := by
  intro f ds v C h hC
  unfold TCq at h
  (try split at h)
  all_goals first | with_reducible exact pXp_s h hC | with_reducible exact pXp_i h hC | exact TSl2_ok _ _ _ _ h hC
end Go.Proofs.Ytolodncpegajkaa
namespace Go.Proofs.Ytolodncpegajkaa
set_option linter.all false
open Go.RowKit
/-- The first m points, each once where equal ones stand side by side. -/
def dmN (ps : List Q4) : Nat → List Q4
  | 0 => []
  | m + 1 => if m = 0 ∨ ps.getD m z4 ≠ ps.getD (m - 1) z4 then dmN ps m ++ [ps.getD m z4] else dmN ps m
def dmP (ps : List Q4) : List Q4 := dmN ps ps.length
def dupB (ps : List Q4) (i : Nat) : Bool := ps.getD i z4 == ps.getD (i - 1) z4
theorem dmN_le (ps : List Q4) : ∀ m, (dmN ps m).length ≤ m
  | 0 => Nat.le_refl _
  | m + 1 => by
    have := dmN_le ps m
    simp only [dmN]
    split
    · simp; omega
    · omega
theorem dmN_take {ps : List Q4} : ∀ m, m ≤ ps.length → (∀ j, 1 ≤ j → j < m → dupB ps j = false) → dmN ps m = ps.take m
  | 0, _, _ => rfl
  | m + 1, hm, h => by
    have ih := dmN_take m (by omega) fun j h1 h2 => h j h1 (by omega)
    simp only [dmN]
    have ht : ps.take (m + 1) = ps.take m ++ [ps.getD m z4] := by
      rw [List.take_add_one]
      simp [List.getD, show m < ps.length by omega]
    rw [ht, ← ih]
    rcases Nat.eq_zero_or_pos m with h0 | h0
    · rw [if_pos (.inl h0)]
    · have := h m h0 (by omega)
      unfold dupB at this
      rw [beq_eq_false_iff_ne] at this
      rw [if_pos (.inr this)]
def EDp : Env := tabE B0
theorem EDp_ok : EnvOk Try.prog EDp := tabE_ok B0_ok
noncomputable def c_dpI : Code := ((loopsOf (codeOf Try.f128))[1]?).getD .skip
def k_dpI : Ex → List Nat := keeps [0, 3, 4, 5] [(2, [0, 3]), (1, [0, 3]), (0, [0])] [2]
def s_dpI (ps : List Q4) (k0 : Nat) : Nat × Nat × (List Q4) → St := fun (j, q, X) => ⟨(.slice (some ⟨0, 0, none⟩) ps.length ps.length :: topV :: topV :: .int .i64 q :: .slice (some ⟨0, k0 * 4, none⟩) (ps.length - k0) (ps.length - k0) :: .int .i64 j :: topV :: topV :: topV :: topV :: topV :: topV :: topV :: topV :: topV :: topV :: topV :: topV :: topV :: topV :: topV :: topV :: topV :: topV :: topV :: topV :: topV :: topV :: topV :: topV :: topV :: topV :: topV :: topV :: topV :: topV :: topV :: topV :: topV :: topV :: topV :: topV :: topV :: topV :: topV :: topV :: topV :: topV :: topV :: topV :: topV :: topV :: topV :: topV :: topV :: topV :: topV :: topV :: topV :: topV :: topV :: []), [some ⟨.row 52 4, .ints (fl4 X)⟩]⟩
def re_dpI : Nat × Nat × (List Q4) → Ex := fun _ => .exit 2
def rs_dpI (ps : List Q4) (k0 : Nat) : Nat × Nat × (List Q4) → St := fun (j, q, X) => ⟨(.slice (some ⟨0, 0, none⟩) ps.length ps.length :: topV :: topV :: .int .i64 ((dmN ps ps.length).length : Nat) :: topV :: topV :: topV :: topV :: topV :: topV :: topV :: topV :: topV :: topV :: topV :: topV :: topV :: topV :: topV :: topV :: topV :: topV :: topV :: topV :: topV :: topV :: topV :: topV :: topV :: topV :: topV :: topV :: topV :: topV :: topV :: topV :: topV :: topV :: topV :: topV :: topV :: topV :: topV :: topV :: topV :: topV :: topV :: topV :: topV :: topV :: topV :: topV :: topV :: topV :: topV :: topV :: topV :: topV :: topV :: topV :: topV :: []), [some ⟨.row 52 4, .ints (fl4 (dmN ps ps.length ++ ps.drop (dmN ps ps.length).length))⟩]⟩
set_option maxRecDepth 100000 in
theorem tr_dpI (ps : List Q4) (k0 : Nat) (j q : Nat) (X : List Q4) : bodyL Try.prog EDp 30 12 noL 2 c_dpI k_dpI 1 (s_dpI ps k0 (j, q, X)) = brT (decide ((↑j : Int) < (↑(ps.length - k0) : Int))) (.need ((0 : Int) ≤ (↑j : Int) ∧ (↑j : Int) < (↑(ps.length - k0) : Int)) (.need (k0 * (4 : Nat) + (↑j : Int).toNat * (4 : Nat) + (4 : Nat) ≤ (fl4 X).length) (.need ((0 : Int) ≤ IntKind.i64.wrap ((↑j : Int) - (1 : Int)) ∧ IntKind.i64.wrap ((↑j : Int) - (1 : Int)) < (↑(ps.length - k0) : Int)) (.need (k0 * (4 : Nat) + (IntKind.i64.wrap ((↑j : Int) - (1 : Int))).toNat * (4 : Nat) + (4 : Nat) ≤ (fl4 X).length) (brT (negB true ((fl4 X).getD (k0 * 4 + (↑j : Int).toNat * 4) 0 == (fl4 X).getD (k0 * 4 + (IntKind.i64.wrap ((↑j : Int) - 1)).toNat * 4) 0 && ((fl4 X).getD (k0 * 4 + (↑j : Int).toNat * 4 + 1) 0 == (fl4 X).getD (k0 * 4 + (IntKind.i64.wrap ((↑j : Int) - 1)).toNat * 4 + 1) 0 && true) && ((fl4 X).getD (k0 * 4 + (↑j : Int).toNat * 4 + 1 + 1) 0 == (fl4 X).getD (k0 * 4 + (IntKind.i64.wrap ((↑j : Int) - 1)).toNat * 4 + 1 + 1) 0 && ((fl4 X).getD (k0 * 4 + (↑j : Int).toNat * 4 + 1 + 1 + 1) 0 == (fl4 X).getD (k0 * 4 + (IntKind.i64.wrap ((↑j : Int) - 1)).toNat * 4 + 1 + 1 + 1) 0 && true) && true))) (.need ((0 : Int) ≤ (↑j : Int) ∧ (↑j : Int) < (↑(ps.length - k0) : Int)) (.need (k0 * (4 : Nat) + (↑j : Int).toNat * (4 : Nat) + (4 : Nat) ≤ (fl4 X).length) (.need ((0 : Int) ≤ (↑q : Int) ∧ (↑q : Int) < (↑ps.length : Int)) (.need ((0 : Nat) + (↑q : Int).toNat * (4 : Nat) + (4 : Nat) ≤ (fl4 X).length) (.leaf .normal ⟨(.slice (some ⟨0, 0, none⟩) (ps.length) (ps.length) :: topV :: topV :: .int .i64 (IntKind.i64.wrap ((↑q : Int) + 1)) :: .slice (some ⟨0, k0 * 4, none⟩) (ps.length - k0) (ps.length - k0) :: .int .i64 (IntKind.i64.wrap ((↑j : Int) + 1)) :: topV :: topV :: topV :: topV :: topV :: topV :: topV :: topV :: topV :: topV :: topV :: topV :: topV :: topV :: topV :: topV :: topV :: topV :: topV :: topV :: topV :: topV :: topV :: topV :: topV :: topV :: topV :: topV :: topV :: topV :: topV :: topV :: topV :: topV :: topV :: topV :: topV :: topV :: topV :: topV :: topV :: topV :: topV :: topV :: topV :: topV :: topV :: topV :: topV :: topV :: topV :: topV :: topV :: topV :: topV :: []), [some ⟨.row 52 4, .ints (setInts (fl4 X) (0 + (↑q : Int).toNat * 4) [(fl4 X).getD (k0 * 4 + (↑j : Int).toNat * 4) 0, (fl4 X).getD (k0 * 4 + (↑j : Int).toNat * 4 + 1) 0, (fl4 X).getD (k0 * 4 + (↑j : Int).toNat * 4 + 1 + 1) 0, (fl4 X).getD (k0 * 4 + (↑j : Int).toNat * 4 + 1 + 1 + 1) 0])⟩]⟩))))) (.leaf .normal ⟨(.slice (some ⟨0, 0, none⟩) (ps.length) (ps.length) :: topV :: topV :: .int .i64 ((↑q : Int)) :: .slice (some ⟨0, k0 * 4, none⟩) (ps.length - k0) (ps.length - k0) :: .int .i64 (IntKind.i64.wrap ((↑j : Int) + 1)) :: topV :: topV :: topV :: topV :: topV :: topV :: topV :: topV :: topV :: topV :: topV :: topV :: topV :: topV :: topV :: topV :: topV :: topV :: topV :: topV :: topV :: topV :: topV :: topV :: topV :: topV :: topV :: topV :: topV :: topV :: topV :: topV :: topV :: topV :: topV :: topV :: topV :: topV :: topV :: topV :: topV :: topV :: topV :: topV :: topV :: topV :: topV :: topV :: topV :: topV :: topV :: topV :: topV :: topV :: topV :: []), [some ⟨.row 52 4, .ints (fl4 X)⟩]⟩)))))) (.leaf (.exit 2) ⟨(.slice (some ⟨0, 0, none⟩) (ps.length) (ps.length) :: topV :: topV :: .int .i64 ((↑q : Int)) :: topV :: topV :: topV :: topV :: topV :: topV :: topV :: topV :: topV :: topV :: topV :: topV :: topV :: topV :: topV :: topV :: topV :: topV :: topV :: topV :: topV :: topV :: topV :: topV :: topV :: topV :: topV :: topV :: topV :: topV :: topV :: topV :: topV :: topV :: topV :: topV :: topV :: topV :: topV :: topV :: topV :: topV :: topV :: topV :: topV :: topV :: topV :: topV :: topV :: topV :: topV :: topV :: topV :: topV :: topV :: topV :: topV :: []), [some ⟨.row 52 4, .ints (fl4 X)⟩]⟩) := by kernel_rfl
set_option maxRecDepth 100000 in
theorem nl_dpI : loopsOf c_dpI = [] := by kernel_rfl
def inv_dpI (ps : List Q4) (k0 : Nat) : Nat × Nat × (List Q4) → Prop := fun (j, q, X) => 1 ≤ j ∧ k0 + j ≤ ps.length ∧ q ≤ k0 + j - 1 ∧ q = (dmN ps (k0 + j)).length ∧ X = dmN ps (k0 + j) ++ ps.drop q
def me_dpI (ps : List Q4) (k0 : Nat) : Nat × Nat × (List Q4) → Nat := fun (j, q, X) => ps.length - (k0 + j)
/-- A round of this loop. -/
def Round_dpI (ps : List Q4) (k0 : Nat) : Prop := ∀ xx : Nat × Nat × (List Q4), inv_dpI ps k0 xx → (bodyL Try.prog EDp 30 12 noL 2 c_dpI k_dpI 1 (s_dpI ps k0 xx)).ok (RoundEnd 1 (s_dpI ps k0) (inv_dpI ps k0) (me_dpI ps k0) re_dpI (rs_dpI ps k0) xx) (fun _ _ => False)
def e_dpI (s : St) (k : Ex → St → Tree) : Option Tree := match Nat.beq s.tmps.length 61, pickL s.tmps [0, 3, 4, 5], s.mem with
  | true, [.slice (some ⟨0, 0, none⟩) n _, .int .i64 kk, .slice (some ⟨0, o, none⟩) l _, .int .i64 k2], [some ⟨.row 52 4, .ints xs⟩] => some (needs [k2 = 1, xs.length = n * 4, 0 ≤ kk, 1 ≤ kk ∧ kk < n, o = kk.toNat * 4, l = n - kk.toNat, dupB (q4A n xs) kk.toNat = true, (∀ j, 1 ≤ j → j < kk.toNat → dupB (q4A n xs) j = false), n ≤ 1000000000] (k (.exit 2) ⟨(.slice (some ⟨0, 0, none⟩) n n :: topV :: topV :: .int .i64 ((dmN (q4A n xs) n).length : Nat) :: topV :: topV :: topV :: topV :: topV :: topV :: topV :: topV :: topV :: topV :: topV :: topV :: topV :: topV :: topV :: topV :: topV :: topV :: topV :: topV :: topV :: topV :: topV :: topV :: topV :: topV :: topV :: topV :: topV :: topV :: topV :: topV :: topV :: topV :: topV :: topV :: topV :: topV :: topV :: topV :: topV :: topV :: topV :: topV :: topV :: topV :: topV :: topV :: topV :: topV :: topV :: topV :: topV :: topV :: topV :: topV :: topV :: []), [some ⟨.row 52 4, .ints (fl4 (dmN (q4A n xs) n ++ (q4A n xs).drop (dmN (q4A n xs) n).length))⟩]⟩))
  | _, _, _ => none
theorem dp_dup {ps : List Q4} {m : Nat} (h : dupB ps m = true) (hm : m ≠ 0) : dmN ps (m + 1) = dmN ps m := by
  unfold dupB at h
  simp only [dmN]
  rw [if_neg]
  rintro (h1 | h1)
  · exact hm h1
  · exact h1 (by simpa using h)
theorem dp_new {ps : List Q4} {m : Nat} (h : dupB ps m = false) : dmN ps (m + 1) = dmN ps m ++ [ps.getD m z4] := by
  unfold dupB at h
  simp only [dmN]
  rw [if_pos (.inr (by simpa using h))]
theorem dp_start {ps : List Q4} {k : Nat} (h2 : 1 ≤ (k : Int) ∧ (k : Int) < (ps.length : Int)) (h3 : dupB ps k = true) (h4 : ∀ j, 1 ≤ j → j < k → dupB ps j = false) : 1 ≤ 1 ∧ k + 1 ≤ ps.length ∧ k ≤ k + 1 - 1 ∧ k = (dmN ps (k + 1)).length ∧ ps = dmN ps (k + 1) ++ ps.drop k := by
  have e := dp_dup h3 (by omega)
  rw [dmN_take k (by omega) h4] at e
  refine ⟨Nat.le_refl _, by omega, by omega, ?_, ?_⟩
  · rw [e, List.length_take]; omega
  · rw [e, List.take_append_drop]
theorem dp_get {ps : List Q4} {q : List Q4} {j : Nat} (h : q.length ≤ j) : (q ++ ps.drop q.length).getD j z4 = ps.getD j z4 := by
  simp only [List.getD]
  rw [List.getElem?_append_right h, List.getElem?_drop]
  congr 2
  omega
theorem dp_len {ps q : List Q4} (h : q.length ≤ ps.length) : (q ++ ps.drop q.length).length = ps.length := by
  rw [List.length_append, List.length_drop]
  omega
theorem dp_set {ps q : List Q4} (h : q.length < ps.length) (z : Q4) : (q ++ ps.drop q.length).set q.length z = (q ++ [z]) ++ ps.drop (q.length + 1) := by
  rw [List.set_append_right _ _ (Nat.le_refl _), Nat.sub_self, drop_cons h z4]
  simp
theorem fl4_g2 (ps : List Q4) (k : Nat) : (fl4 ps).getD (k * 4 + 1 + 1) 0 = (ps.getD k z4).2.2.1 := fl4_get2 ps k
theorem fl4_g3 (ps : List Q4) (k : Nat) : (fl4 ps).getD (k * 4 + 1 + 1 + 1) 0 = (ps.getD k z4).2.2.2 := fl4_get3 ps k
theorem eq_q4 (a b : Q4) : ((a.1 == b.1 && (a.2.1 == b.2.1 && true)) && ((a.2.2.1 == b.2.2.1 && (a.2.2.2 == b.2.2.2 && true)) && true)) = (a == b) := by
  simp only [Bool.and_true, Bool.and_assoc]
  rfl
theorem dup_iq (ps : List Q4) (m : Nat) : (((ps.getD m z4).1 == (ps.getD (m - 1) z4).1 && ((ps.getD m z4).2.1 == (ps.getD (m - 1) z4).2.1 && true)) && (((ps.getD m z4).2.2.1 == (ps.getD (m - 1) z4).2.2.1 && ((ps.getD m z4).2.2.2 == (ps.getD (m - 1) z4).2.2.2 && true)) && true)) = dupB ps m := eq_q4 _ _
set_option maxRecDepth 100000 in
theorem round_dpI (ps : List Q4) (k0 : Nat) (h : ps.length ≤ 1000000000) : Round_dpI ps k0 := by
  rintro ⟨j, q, X⟩ ⟨h1, h2, h3, hq0, rfl⟩
  rw [tr_dpI]
  have hq : (dmN ps (k0 + j)).length ≤ ps.length := by omega
  have hX := dp_len hq
  have g1 := dp_get (ps := ps) (q := dmN ps (k0 + j)) (j := k0 + j) (by omega)
  have g2 := dp_get (ps := ps) (q := dmN ps (k0 + j)) (j := k0 + j - 1) (by omega)
  rw [← hq0] at hX g1 g2
  have a2 : IntKind.i64.wrap ((j : Int) - 1) = ((j - 1 : Nat) : Int) := by rw [wr (by omega)]; omega
  refine brT_ok.2 ⟨fun hlt => ?_, fun hge => ?_⟩
  · have hlt := of_decide_eq_true hlt
    have hm : k0 + j < ps.length := by omega
    have a1 : k0 * 4 + (j : Int).toNat * 4 = (k0 + j) * 4 := by omega
    have a3 : k0 * 4 + ((j - 1 : Nat) : Int).toNat * 4 = (k0 + j - 1) * 4 := by omega
    have a4 : 0 + (q : Int).toNat * 4 = q * 4 := by omega
    have hs := fl4_set (dmN ps (k0 + j) ++ ps.drop q) q (by omega) (ps.getD (k0 + j) z4).1 (ps.getD (k0 + j) z4).2.1 (ps.getD (k0 + j) z4).2.2.1 (ps.getD (k0 + j) z4).2.2.2
    have hs2 := dp_set (ps := ps) (q := dmN ps (k0 + j)) (by omega) (ps.getD (k0 + j) z4)
    rw [← hq0] at hs2
    rw [hs2] at hs
    simp only [a2, a1, a3, a4, wsucc (i := j) (n := ps.length) (by omega) h, wsucc (i := q) (n := ps.length) (by omega) h, fl4_get0, fl4_get1, fl4_g2, fl4_g3, fl4_length, g1, g2, dup_iq, hX, hs]
    refine ⟨by omega, by omega, by omega, by omega, brT_ok.2 ⟨fun c => ⟨by omega, by omega, by omega, by omega, ?_⟩, fun c => ?_⟩⟩
    · have hd : dupB ps (k0 + j) = false := by simpa [negB] using c
      have e := dp_new hd
      have el : q + 1 = (dmN ps (k0 + j + 1)).length := by rw [e]; simp; omega
      refine ⟨(j + 1, q + 1, dmN ps (k0 + j) ++ [ps.getD (k0 + j) z4] ++ ps.drop (q + 1)), [], ⟨by omega, by omega, by omega, el, by show _ = dmN ps (k0 + j + 1) ++ _; rw [e]⟩, ?_, rfl, by simp only [rs_dpI], ?_⟩
      · show ps.length - (k0 + (j + 1)) < ps.length - (k0 + j); omega
      · repeat' (first | exact True.intro | exact rfl | exact fun _ => rfl | (simp; done) | refine And.intro ?_ ?_)
    · have hd : dupB ps (k0 + j) = true := by simpa [negB] using c
      have e := dp_dup hd (by omega)
      refine ⟨(j + 1, q, dmN ps (k0 + j) ++ ps.drop q), [], ⟨by omega, by omega, by omega, by show _ = (dmN ps (k0 + j + 1)).length; rw [e]; exact hq0, by show _ = dmN ps (k0 + j + 1) ++ _; rw [e]⟩, ?_, rfl, by simp only [rs_dpI], ?_⟩
      · show ps.length - (k0 + (j + 1)) < ps.length - (k0 + j); omega
      · repeat' (first | exact True.intro | exact rfl | exact fun _ => rfl | (simp; done) | refine And.intro ?_ ?_)
  · have hge := of_decide_eq_false hge
    have hm : k0 + j = ps.length := by omega
    refine ⟨rfl, [], ?_⟩
    rw [hm] at hq0
    simp only [rs_dpI, hm, ← hq0]
    repeat' (first | exact True.intro | exact rfl | exact fun _ => rfl | (simp; done) | refine And.intro ?_ ?_)
set_option maxRecDepth 100000 in
theorem lg_dpI : LoopE Try.prog e_dpI c_dpI := by
  intro s k t F H hlt ht
  unfold e_dpI at hlt
  split at hlt
  rotate_left
  · cases hlt
  rename_i hlen hpick hmem
  obtain ⟨tmps, mem⟩ := s
  simp only at hlen hpick hmem
  subst hmem
  obtain rfl := Option.some.inj hlt
  obtain ⟨⟨rfl, h1, h6, h2, rfl, rfl, h3, h4, h5, _⟩, ht2⟩ := needs_ok ht
  clear ht hlt
  obtain ⟨ps, rfl, rfl⟩ := four_fl4 h1
  obtain ⟨k, rfl⟩ := Int.eq_ofNat_of_zero_le h6
  rw [q4A_fl4] at ht2 h3 h4
  simp only [Int.toNat_natCast] at ht2 h3 h4
  refine ⟨_, _, ht2, loop_run mixed EDp_ok (s_dpI ps k) (inv_dpI ps k) (me_dpI ps k) re_dpI (rs_dpI ps k) k_dpI (fun _ => rfl) (noLoops nl_dpI) (round_dpI ps k h5) (x := (1, k, ps)) (dp_start h2 h3 h4) (π := []) rfl ?_⟩
  refine ⟨rfl, rfl, ?_, wvs_spread' [0, 3, 4, 5] hlen rfl ?_⟩
  · repeat' (first | exact True.intro | exact rfl | exact wv_top _ _ | exact fun _ => rfl | assumption | exact Eq.symm (by assumption) | exact vI0 rfl | refine And.intro ?_ ?_)
  · rw [hpick]
    repeat' (first | exact True.intro | exact rfl | exact wv_top _ _ | exact fun _ => rfl | assumption | exact Eq.symm (by assumption) | exact vI0 rfl | refine And.intro ?_ ?_)
def ltDp : LT := fun j s k => match j with
  | 1 => e_dpI s k
  | _ => none
noncomputable def c_dpO : Code := ((loopsOf (codeOf Try.f128))[0]?).getD .skip
def k_dpO : Ex → List Nat := keeps [0, 3] [(0, [0])] [2]
def s_dpO (ps : List Q4) : Nat → St := fun i => ⟨(.slice (some ⟨0, 0, none⟩) ps.length ps.length :: topV :: topV :: .int .i64 i :: topV :: topV :: topV :: topV :: topV :: topV :: topV :: topV :: topV :: topV :: topV :: topV :: topV :: topV :: topV :: topV :: topV :: topV :: topV :: topV :: topV :: topV :: topV :: topV :: topV :: topV :: topV :: topV :: topV :: topV :: topV :: topV :: topV :: topV :: topV :: topV :: topV :: topV :: topV :: topV :: topV :: topV :: topV :: topV :: topV :: topV :: topV :: topV :: topV :: topV :: topV :: topV :: topV :: topV :: topV :: topV :: topV :: []), [some ⟨.row 52 4, .ints (fl4 ps)⟩]⟩
def re_dpO (ps : List Q4) : Nat → Ex := fun i => bif allQ (fun j => !(dupB ps j)) i (ps.length - i) then .exit 0 else .ret
def rs_dpO (ps : List Q4) : Nat → St := fun i => bif allQ (fun j => !(dupB ps j)) i (ps.length - i) then ⟨(.slice (some ⟨0, 0, none⟩) ps.length ps.length :: topV :: topV :: topV :: topV :: topV :: topV :: topV :: topV :: topV :: topV :: topV :: topV :: topV :: topV :: topV :: topV :: topV :: topV :: topV :: topV :: topV :: topV :: topV :: topV :: topV :: topV :: topV :: topV :: topV :: topV :: topV :: topV :: topV :: topV :: topV :: topV :: topV :: topV :: topV :: topV :: topV :: topV :: topV :: topV :: topV :: topV :: topV :: topV :: topV :: topV :: topV :: topV :: topV :: topV :: topV :: topV :: topV :: topV :: topV :: topV :: []), [some ⟨.row 52 4, .ints (fl4 ps)⟩]⟩ else ⟨(topV :: topV :: .slice (some ⟨0, 0, none⟩) (dmP ps).length (dmP ps).length :: topV :: topV :: topV :: topV :: topV :: topV :: topV :: topV :: topV :: topV :: topV :: topV :: topV :: topV :: topV :: topV :: topV :: topV :: topV :: topV :: topV :: topV :: topV :: topV :: topV :: topV :: topV :: topV :: topV :: topV :: topV :: topV :: topV :: topV :: topV :: topV :: topV :: topV :: topV :: topV :: topV :: topV :: topV :: topV :: topV :: topV :: topV :: topV :: topV :: topV :: topV :: topV :: topV :: topV :: topV :: topV :: topV :: topV :: []), [some ⟨.row 52 4, .ints (fl4 (dmP ps))⟩]⟩
set_option maxRecDepth 100000 in
theorem tr_dpO (ps : List Q4) (i : Nat) : bodyL Try.prog EDp 30 12 ltDp 1 c_dpO k_dpO 1 (s_dpO ps i) = brT (decide ((↑i : Int) < (↑ps.length : Int))) (.need ((0 : Int) ≤ (↑i : Int) ∧ (↑i : Int) < (↑ps.length : Int)) (.need ((0 : Nat) + (↑i : Int).toNat * (4 : Nat) + (4 : Nat) ≤ (fl4 ps).length) (.need ((0 : Int) ≤ IntKind.i64.wrap ((↑i : Int) - (1 : Int)) ∧ IntKind.i64.wrap ((↑i : Int) - (1 : Int)) < (↑ps.length : Int)) (.need ((0 : Nat) + (IntKind.i64.wrap ((↑i : Int) - (1 : Int))).toNat * (4 : Nat) + (4 : Nat) ≤ (fl4 ps).length) (brT (negB false ((fl4 ps).getD (0 + (↑i : Int).toNat * 4) 0 == (fl4 ps).getD (0 + (IntKind.i64.wrap ((↑i : Int) - 1)).toNat * 4) 0 && ((fl4 ps).getD (0 + (↑i : Int).toNat * 4 + 1) 0 == (fl4 ps).getD (0 + (IntKind.i64.wrap ((↑i : Int) - 1)).toNat * 4 + 1) 0 && true) && ((fl4 ps).getD (0 + (↑i : Int).toNat * 4 + 1 + 1) 0 == (fl4 ps).getD (0 + (IntKind.i64.wrap ((↑i : Int) - 1)).toNat * 4 + 1 + 1) 0 && ((fl4 ps).getD (0 + (↑i : Int).toNat * 4 + 1 + 1 + 1) 0 == (fl4 ps).getD (0 + (IntKind.i64.wrap ((↑i : Int) - 1)).toNat * 4 + 1 + 1 + 1) 0 && true) && true))) (.need ((0 : Int) ≤ bndI (some (IntKind.i64, (↑i : Int))) (0 : Int) ∧ bndI (some (IntKind.i64, (↑i : Int))) (0 : Int) ≤ bndI none (↑ps.length : Int) ∧ bndI none (↑ps.length : Int) ≤ (↑ps.length : Int)) (.need ((1 : Int) = (1 : Int)) (.need ((fl4 ps).length = ps.length * (4 : Nat)) (.need ((0 : Int) ≤ (↑i : Int)) (.need ((1 : Int) ≤ (↑i : Int) ∧ (↑i : Int) < (↑ps.length : Int)) (.need ((0 : Nat) + (bndI (some (IntKind.i64, (↑i : Int))) (0 : Int)).toNat * (4 : Nat) = (↑i : Int).toNat * (4 : Nat)) (.need ((bndI none (↑ps.length : Int)).toNat - (bndI (some (IntKind.i64, (↑i : Int))) (0 : Int)).toNat = ps.length - (↑i : Int).toNat) (.need (dupB (q4A ps.length (fl4 ps)) (↑i : Int).toNat = true) (.need (∀ (j : Nat), (1 : Nat) ≤ j → j < (↑i : Int).toNat → dupB (q4A ps.length (fl4 ps)) j = false) (.need (ps.length ≤ (1000000000 : Nat)) (.need ((0 : Int) ≤ bndI (some (IntKind.i64, (↑(dmN (q4A ps.length (fl4 ps)) ps.length).length : Int))) (0 : Int) ∧ bndI (some (IntKind.i64, (↑(dmN (q4A ps.length (fl4 ps)) ps.length).length : Int))) (0 : Int) ≤ bndI none (↑ps.length : Int) ∧ bndI none (↑ps.length : Int) ≤ (↑ps.length : Int)) (.need ((0 : Nat) + (bndI (some (IntKind.i64, (↑(dmN (q4A ps.length (fl4 ps)) ps.length).length : Int))) (0 : Int)).toNat * (4 : Nat) + ((bndI none (↑ps.length : Int)).toNat - (bndI (some (IntKind.i64, (↑(dmN (q4A ps.length (fl4 ps)) ps.length).length : Int))) (0 : Int)).toNat) * (4 : Nat) ≤ (fl4 (dmN (q4A ps.length (fl4 ps)) ps.length ++ List.drop (dmN (q4A ps.length (fl4 ps)) ps.length).length (q4A ps.length (fl4 ps)))).length) (.need ((0 : Int) ≤ bndI none (0 : Int) ∧ bndI none (0 : Int) ≤ bndI (some (IntKind.i64, (↑(dmN (q4A ps.length (fl4 ps)) ps.length).length : Int))) (↑ps.length : Int) ∧ bndI (some (IntKind.i64, (↑(dmN (q4A ps.length (fl4 ps)) ps.length).length : Int))) (↑ps.length : Int) ≤ (↑ps.length : Int)) (.leaf .ret ⟨(topV :: topV :: .slice (some ⟨0, 0, none⟩) ((bndI (some (IntKind.i64, (↑(dmN (q4A ps.length (fl4 ps)) ps.length).length : Int))) (↑ps.length : Int)).toNat - 0) ((bndI (some (IntKind.i64, (↑(dmN (q4A ps.length (fl4 ps)) ps.length).length : Int))) (↑ps.length : Int)).toNat - 0) :: topV :: topV :: topV :: topV :: topV :: topV :: topV :: topV :: topV :: topV :: topV :: topV :: topV :: topV :: topV :: topV :: topV :: topV :: topV :: topV :: topV :: topV :: topV :: topV :: topV :: topV :: topV :: topV :: topV :: topV :: topV :: topV :: topV :: topV :: topV :: topV :: topV :: topV :: topV :: topV :: topV :: topV :: topV :: topV :: topV :: topV :: topV :: topV :: topV :: topV :: topV :: topV :: topV :: topV :: topV :: topV :: topV :: topV :: []), [some ⟨.row 52 4, .ints (List.take (0 + (bndI (some (IntKind.i64, (↑(dmN (q4A ps.length (fl4 ps)) ps.length).length : Int))) 0).toNat * 4) (fl4 (dmN (q4A ps.length (fl4 ps)) ps.length ++ List.drop (dmN (q4A ps.length (fl4 ps)) ps.length).length (q4A ps.length (fl4 ps)))))⟩]⟩)))))))))))))) (.leaf .normal ⟨(.slice (some ⟨0, 0, none⟩) (ps.length) (ps.length) :: topV :: topV :: .int .i64 (IntKind.i64.wrap ((↑i : Int) + 1)) :: topV :: topV :: topV :: topV :: topV :: topV :: topV :: topV :: topV :: topV :: topV :: topV :: topV :: topV :: topV :: topV :: topV :: topV :: topV :: topV :: topV :: topV :: topV :: topV :: topV :: topV :: topV :: topV :: topV :: topV :: topV :: topV :: topV :: topV :: topV :: topV :: topV :: topV :: topV :: topV :: topV :: topV :: topV :: topV :: topV :: topV :: topV :: topV :: topV :: topV :: topV :: topV :: topV :: topV :: topV :: topV :: topV :: []), [some ⟨.row 52 4, .ints (fl4 ps)⟩]⟩)))))) (.leaf (.exit 0) ⟨(.slice (some ⟨0, 0, none⟩) (ps.length) (ps.length) :: topV :: topV :: topV :: topV :: topV :: topV :: topV :: topV :: topV :: topV :: topV :: topV :: topV :: topV :: topV :: topV :: topV :: topV :: topV :: topV :: topV :: topV :: topV :: topV :: topV :: topV :: topV :: topV :: topV :: topV :: topV :: topV :: topV :: topV :: topV :: topV :: topV :: topV :: topV :: topV :: topV :: topV :: topV :: topV :: topV :: topV :: topV :: topV :: topV :: topV :: topV :: topV :: topV :: topV :: topV :: topV :: topV :: topV :: topV :: topV :: []), [some ⟨.row 52 4, .ints (fl4 ps)⟩]⟩) := by kernel_rfl
def inv_dpO (ps : List Q4) : Nat → Prop := fun i => 1 ≤ i ∧ i ≤ ps.length ∧ ∀ j, 1 ≤ j → j < i → dupB ps j = false
def me_dpO (ps : List Q4) : Nat → Nat := fun i => ps.length - i
/-- A round of this loop. -/
def Round_dpO (ps : List Q4) : Prop := ∀ xx : Nat, inv_dpO ps xx → (bodyL Try.prog EDp 30 12 ltDp 1 c_dpO k_dpO 1 (s_dpO ps xx)).ok (RoundEnd 1 (s_dpO ps) (inv_dpO ps) (me_dpO ps) (re_dpO ps) (rs_dpO ps) xx) (fun _ _ => False)
def e_dpO (s : St) (k : Ex → St → Tree) : Option Tree := match Nat.beq s.tmps.length 61, pickL s.tmps [0, 3], s.mem with
  | true, [.slice (some ⟨0, 0, none⟩) n _, .int .i64 i], [some ⟨.row 52 4, .ints xs⟩] => some (needs [i = 1, xs.length = n * 4, 2 ≤ n, n ≤ 1000000000] (brT (allQ (fun j => !(dupB (q4A n xs) j)) 1 (n - 1)) (k (.exit 0) ⟨(.slice (some ⟨0, 0, none⟩) n n :: topV :: topV :: topV :: topV :: topV :: topV :: topV :: topV :: topV :: topV :: topV :: topV :: topV :: topV :: topV :: topV :: topV :: topV :: topV :: topV :: topV :: topV :: topV :: topV :: topV :: topV :: topV :: topV :: topV :: topV :: topV :: topV :: topV :: topV :: topV :: topV :: topV :: topV :: topV :: topV :: topV :: topV :: topV :: topV :: topV :: topV :: topV :: topV :: topV :: topV :: topV :: topV :: topV :: topV :: topV :: topV :: topV :: topV :: topV :: topV :: []), [some ⟨.row 52 4, .ints xs⟩]⟩) (k .ret ⟨(topV :: topV :: .slice (some ⟨0, 0, none⟩) (dmP (q4A n xs)).length (dmP (q4A n xs)).length :: topV :: topV :: topV :: topV :: topV :: topV :: topV :: topV :: topV :: topV :: topV :: topV :: topV :: topV :: topV :: topV :: topV :: topV :: topV :: topV :: topV :: topV :: topV :: topV :: topV :: topV :: topV :: topV :: topV :: topV :: topV :: topV :: topV :: topV :: topV :: topV :: topV :: topV :: topV :: topV :: topV :: topV :: topV :: topV :: topV :: topV :: topV :: topV :: topV :: topV :: topV :: topV :: topV :: topV :: topV :: topV :: topV :: topV :: []), [some ⟨.row 52 4, .ints (fl4 (dmP (q4A n xs)))⟩]⟩)))
  | _, _, _ => none
theorem bnd_someD (x d : Int) : bndI (some (IntKind.i64, x)) d = x := rfl
theorem bnd_noneD (d : Int) : bndI none d = d := rfl
set_option maxRecDepth 100000 in
theorem in_dpO : loopsOf c_dpO = [c_dpI] := by kernel_rfl
theorem ltDp_good : LoopsGood Try.prog ltDp 1 c_dpO := by
  intro i d hd s k t F H hlt ht
  rw [in_dpO] at hd
  cases i with
  | zero =>
    obtain rfl : c_dpI = d := by simpa using hd
    exact lg_dpI s k t F H hlt ht
  | succ i => simp at hd
set_option maxRecDepth 100000 in
theorem round_dpO (ps : List Q4) (h : ps.length ≤ 1000000000) : Round_dpO ps := by
  rintro i ⟨h1, h2, h3⟩
  rw [tr_dpO]
  simp only [q4A_fl4, bnd_someD, bnd_noneD, Int.toNat_natCast, Nat.zero_add, Nat.sub_zero]
  refine brT_ok.2 ⟨fun hlt => ?_, fun hge => ?_⟩
  · have hi : i < ps.length := by have := of_decide_eq_true hlt; omega
    have w1 : IntKind.i64.wrap ((i : Int) - 1) = ((i - 1 : Nat) : Int) := by rw [wr (by omega)]; omega
    have step : allQ (fun j => !(dupB ps j)) i (ps.length - i) = (!(dupB ps i) && allQ (fun j => !(dupB ps j)) (i + 1) (ps.length - (i + 1))) := allQ_step hi
    have hle := dmN_le ps ps.length
    have hX := dp_len hle
    simp only [w1, Int.toNat_natCast, fl4_get0, fl4_get1, fl4_g2, fl4_g3, fl4_length, dup_iq, hX, wsucc hi h]
    refine ⟨by omega, by omega, by omega, by omega, brT_ok.2 ⟨fun q => ?_, fun q => ?_⟩⟩
    · have hd : dupB ps i = true := by simpa [negB] using q
      have e : allQ (fun j => !(dupB ps j)) i (ps.length - i) = false := by rw [step, hd]; rfl
      have hf : List.take ((dmN ps ps.length).length * 4) (fl4 (dmN ps ps.length ++ List.drop (dmN ps ps.length).length ps)) = fl4 (dmP ps) := by
        rw [fl4_take, List.take_left]
        rfl
      rw [hf]
      refine ⟨by omega, by first | exact True.intro | rfl, by first | exact True.intro | rfl, by omega, by omega, by first | exact True.intro | rfl, by first | exact True.intro | rfl, hd, h3, h, by omega, by omega, by omega, ?_⟩
      refine ⟨by simp only [re_dpO, e, cond_false], [], ?_⟩
      simp only [rs_dpO, e, cond_false]
      repeat' (first | exact True.intro | exact rfl | exact fun _ => rfl | (simp; done) | refine And.intro ?_ ?_)
    · have hd : dupB ps i = false := by simpa [negB] using q
      have e : allQ (fun j => !(dupB ps j)) i (ps.length - i) = allQ (fun j => !(dupB ps j)) (i + 1) (ps.length - (i + 1)) := by rw [step, hd]; rfl
      refine ⟨i + 1, [], ⟨by omega, by omega, fun j g1 g2 => ?_⟩, ?_, by simp only [re_dpO, e], by simp only [rs_dpO, e], ?_⟩
      · rcases Nat.lt_or_ge j i with g | g
        · exact h3 j g1 g
        · obtain rfl : j = i := by omega
          exact hd
      · show ps.length - (i + 1) < ps.length - i; omega
      · repeat' (first | exact True.intro | exact rfl | exact fun _ => rfl | (simp; done) | refine And.intro ?_ ?_)
  · have hge := of_decide_eq_false hge
    obtain rfl : i = ps.length := by omega
    have e : allQ (fun j => !(dupB ps j)) ps.length (ps.length - ps.length) = true := allQ_end (by omega)
    refine ⟨by simp only [re_dpO, e, cond_true], [], ?_⟩
    simp only [rs_dpO, e, cond_true]
    repeat' (first | exact True.intro | exact rfl | exact fun _ => rfl | (simp; done) | refine And.intro ?_ ?_)
set_option maxRecDepth 100000 in
theorem lg_dpO : LoopE Try.prog e_dpO c_dpO := by
  intro s k t F H hlt ht
  unfold e_dpO at hlt
  split at hlt
  rotate_left
  · cases hlt
  rename_i hlen hpick hmem
  obtain ⟨tmps, mem⟩ := s
  simp only at hlen hpick hmem
  subst hmem
  obtain rfl := Option.some.inj hlt
  obtain ⟨⟨rfl, h1, h2, h5, _⟩, ht2⟩ := needs_ok ht
  clear ht hlt
  obtain ⟨ps, rfl, rfl⟩ := four_fl4 h1
  rw [q4A_fl4] at ht2
  refine ⟨_, _, pick2k ht2, loop_run mixed EDp_ok (s_dpO ps) (inv_dpO ps) (me_dpO ps) (re_dpO ps) (rs_dpO ps) k_dpO (fun _ => rfl) ltDp_good (round_dpO ps h5) (x := 1) ⟨Nat.le_refl _, by omega, fun j h1 h2 => by omega⟩ (π := []) rfl ?_⟩
  refine ⟨rfl, rfl, ?_, wvs_spread' [0, 3] hlen rfl ?_⟩
  · repeat' (first | exact True.intro | exact rfl | exact wv_top _ _ | exact fun _ => rfl | assumption | exact Eq.symm (by assumption) | exact vI0 rfl | refine And.intro ?_ ?_)
  · rw [hpick]
    repeat' (first | exact True.intro | exact rfl | exact wv_top _ _ | exact fun _ => rfl | assumption | exact Eq.symm (by assumption) | exact vI0 rfl | refine And.intro ?_ ?_)
theorem Lr_dpO {fn : Func} (hf : Try.prog.funcs[128]? = some fn) : LoopsGood Try.prog (lt1 e_dpO) 0 (codeOf fn) := by
  obtain rfl := fn_is Try.func128 hf
  exact lt1_good lg_dpO
def LDp : FuncId → LT := fun f => match f with
  | 128 => lt1 e_dpO
  | _ => noL
def EDq : Env := mkE B0 (fun _ _ => none) LDp
theorem EDq_ok : EnvOk Try.prog EDq := mkEOk B0_ok (fun _ _ _ _ _ h => (by cases h)) (by
  intro f fn hf
  unfold LDp
  split
  all_goals first | with_reducible exact Lr_dpO hf | exact noL_good)
set_option maxRecDepth 100000 in
theorem tr_dpF (ps : List Q4) : bodyM Try.prog EDq (runM Try.prog EDq 30 12) 30 128 [.slice (some ⟨0, 0, none⟩) ps.length ps.length] [some ⟨.row 52 4, .ints (fl4 ps)⟩] .fin = brT (decide ((↑ps.length : Int) < 2)) (.fin (.slice (some ⟨0, 0, none⟩) (ps.length) (ps.length)) [some ⟨.row 52 4, .ints (fl4 ps)⟩]) (.need ((1 : Int) = (1 : Int)) (.need ((fl4 ps).length = ps.length * (4 : Nat)) (.need ((2 : Nat) ≤ ps.length) (.need (ps.length ≤ (1000000000 : Nat)) (brT (allQ (fun j => !dupB (q4A ps.length (fl4 ps)) j) 1 (ps.length - 1)) (.fin (.slice (some ⟨0, 0, none⟩) (ps.length) (ps.length)) [some ⟨.row 52 4, .ints (fl4 ps)⟩]) (.fin (.slice (some ⟨0, 0, none⟩) ((dmP (q4A ps.length (fl4 ps))).length) ((dmP (q4A ps.length (fl4 ps))).length)) [some ⟨.row 52 4, .ints (fl4 (dmP (q4A ps.length (fl4 ps))))⟩])))))) := by kernel_rfl
theorem dpt_row (ps : List Q4) (h : ps.length ≤ 1000000000) : (bodyM Try.prog EDq (runM Try.prog EDq 30 12) 30 128 [.slice (some ⟨0, 0, none⟩) ps.length ps.length] [some ⟨.row 52 4, .ints (fl4 ps)⟩] .fin).ok (fun _ _ => False) (fun u mem' => RowIs (.slice (some ⟨0, 0, none⟩) (dmP ps).length (dmP ps).length) ⟨.row 52 4, .ints (fl4 (dmP ps))⟩ u mem') := by
  rw [tr_dpF]
  simp only [q4A_fl4]
  have same : (∀ j, 1 ≤ j → j < ps.length → dupB ps j = false) → dmP ps = ps := fun hn => by
    unfold dmP
    rw [dmN_take _ (Nat.le_refl _) hn, List.take_length]
  refine brT_ok.2 ⟨fun hlt => ?_, fun hge => ?_⟩
  · have hlt := of_decide_eq_true hlt
    rw [same fun j h1 h2 => by omega]
    exact ⟨some 0, ⟨rfl, rfl, rfl⟩, rfl, rfl, rfl⟩
  · have hge := of_decide_eq_false hge
    refine ⟨by first | exact True.intro | rfl, fl4_length ps, by omega, h, brT_ok.2 ⟨fun q => ?_, fun q => ?_⟩⟩
    · have q : allQ (fun j => !(dupB ps j)) 1 (ps.length - 1) = true := q
      rw [same fun j h1 h2 => by simpa using allQ_get _ _ q j h1 (by omega)]
      exact ⟨some 0, ⟨rfl, rfl, rfl⟩, rfl, rfl, rfl⟩
    · exact ⟨some 0, ⟨rfl, rfl, rfl⟩, rfl, rfl, rfl⟩
def dptS : OSpec := fun e sz l xs rest => match e, sz, rest with
  | 52, 4, [] => some (.slice (some ⟨0, 0, none⟩) (dmP (q4A l xs)).length (dmP (q4A l xs)).length, ⟨.row 52 4, .ints (fl4 (dmP (q4A l xs)))⟩, [xs.length = l * 4, l ≤ 1000000000])
  | _, _, _ => none
set_option maxRecDepth 100000 in
theorem dptS_ok : OSpecOk Try.prog 128 dptS := by
  intro e sz l xs rest v b C h hC
  unfold dptS at h
  split at h
  rotate_left
  · cases h
  obtain ⟨rfl, rfl, rfl⟩ : _ ∧ _ ∧ _ := by simpa using h
  obtain ⟨h1, h2, _⟩ := hC
  obtain ⟨ps, rfl, rfl⟩ := four_fl4 h1
  rw [q4A_fl4]
  exact ⟨rfl, EDq, 30, 12, EDq_ok, dpt_row ps h2⟩
end Go.Proofs.Ytolodncpegajkaa
namespace Go.Proofs.Ytolodncpegajkaa
set_option linter.all false
open Go.RowKit
theorem dmN_mem (ps : List Q4) (z : Q4) : ∀ m, m ≤ ps.length → (z ∈ dmN ps m ↔ ∃ j, j < m ∧ ps.getD j z4 = z)
  | 0, _ => by simp [dmN]
  | m + 1, h => by
    have ih := dmN_mem ps z m (by omega)
    simp only [dmN]
    split
    · rw [List.mem_append, ih, List.mem_singleton]
      constructor
      · rintro (⟨j, h1, h2⟩ | rfl)
        · exact ⟨j, by omega, h2⟩
        · exact ⟨m, by omega, rfl⟩
      · rintro ⟨j, h1, h2⟩
        rcases Nat.lt_or_ge j m with g | g
        · exact .inl ⟨j, g, h2⟩
        · obtain rfl : j = m := by omega
          exact .inr h2.symm
    · rename_i hc
      have h0 : ¬ m = 0 := fun e => hc (.inl e)
      have h1 : ps.getD m z4 = ps.getD (m - 1) z4 := Classical.byContradiction fun e => hc (.inr e)
      rw [ih]
      constructor
      · rintro ⟨j, g1, g2⟩
        exact ⟨j, by omega, g2⟩
      · rintro ⟨j, g1, g2⟩
        rcases Nat.lt_or_ge j m with g | g
        · exact ⟨j, g, g2⟩
        · obtain rfl : j = m := by omega
          exact ⟨j - 1, by omega, by rw [← h1]; exact g2⟩
theorem getD_mem4 {ps : List Q4} {j : Nat} (h : j < ps.length) : ps.getD j z4 ∈ ps := by
  simp [List.getD, h]
theorem dmN_up {ps : List Q4} (ho : ∀ q ∈ ps, okQ q = true) (hu : ∀ i j, i < j → j < ps.length → qLt (ps.getD j z4) (ps.getD i z4) = false) : ∀ m, m ≤ ps.length → (dmN ps m).Pairwise fun x y => qLt x y = true
  | 0, _ => List.Pairwise.nil
  | m + 1, h => by
    have ih := dmN_up ho hu m (by omega)
    simp only [dmN]
    split
    · rename_i hc
      refine List.pairwise_append.2 ⟨ih, List.pairwise_singleton _ _, fun x hx y hy => ?_⟩
      obtain rfl := List.mem_singleton.1 hy
      obtain ⟨j, h1, rfl⟩ := (dmN_mem ps x m (by omega)).1 hx
      have k1 := hu j m h1 (by omega)
      have hne : ps.getD m z4 ≠ ps.getD (m - 1) z4 := hc.resolve_left (by omega)
      rcases qLt_tri (ho _ (getD_mem4 (j := j) (by omega))) (ho _ (getD_mem4 (j := m) (by omega))) with g | g | g
      · exact g
      · exfalso
        have k2 := hu (m - 1) m (by omega) (by omega)
        rcases qLt_tri (ho _ (getD_mem4 (j := m - 1) (by omega))) (ho _ (getD_mem4 (j := m) (by omega))) with e | e | e
        · rcases Nat.lt_or_ge j (m - 1) with d | d
          · have k3 := hu j (m - 1) d (by omega)
            rw [g, e] at k3
            cases k3
          · obtain rfl : j = m - 1 := by omega
            exact hne g.symm
        · exact hne e.symm
        · rw [e] at k2
          cases k2
      · rw [g] at k1
        cases k1
    · exact ih
/-- Points with fractions in order, each once. -/
def stQ (qs : List Q4) : List Q4 := dmP (srtQ qs)
theorem stQ_mem (qs : List Q4) (z : Q4) : z ∈ stQ qs ↔ z ∈ qs := by
  unfold stQ dmP
  rw [dmN_mem _ _ _ (Nat.le_refl _), ← srtQ_mem qs z]
  constructor
  · rintro ⟨j, h1, rfl⟩
    exact getD_mem4 h1
  · intro h
    obtain ⟨j, h1, rfl⟩ := List.mem_iff_getElem.1 h
    exact ⟨j, h1, by simp [List.getD, h1]⟩
end Go.Proofs.Ytolodncpegajkaa
namespace Go.Proofs.Ytolodncpegajkaa
set_option linter.all false
open Go.Shelf
def sortRp_ren : Go.Shelf.Ren := ⟨fun | 6 => 126 | 15 => 156 | 14 => 155 | 28 => 176 | 29 => 177 | 20 => 168 | 21 => 169 | 22 => 170 | 23 => 171 | 24 => 172 | 25 => 173 | 26 => 174 | 27 => 175 | 46 => 178 | 47 => 179 | 48 => 180 | 49 => 181 | 50 => 182 | 57 => 183 | n => n, fun | 22 => 44 | 24 => 52 | 25 => 140 | 3 => 3 | 39 => 162 | 0 => 0 | 53 => 175 | 55 => 177 | 4 => 4 | 46 => 168 | 45 => 167 | 50 => 172 | 5 => 5 | 9 => 9 | 66 => 178 | 70 => 182 | 76 => 184 | 77 => 185 | n => n, fun | n => n⟩
theorem sortRp : Go.Proofs.SlLaysF0.n6 Try.prog sortRp_ren := {
  mixed := by kernel_rfl
  f6 := ⟨Try.f126.name, by decide, Try.func126.trans (congrArg some (by kernel_rfl))⟩
  f14 := ⟨Try.f155.name, by decide, Try.func155.trans (congrArg some (by kernel_rfl))⟩
  f15 := Try.func156.trans (congrArg some (by kernel_rfl))
  f20 := ⟨Try.f168.name, by decide, Try.func168.trans (congrArg some (by kernel_rfl))⟩
  f21 := ⟨Try.f169.name, by decide, Try.func169.trans (congrArg some (by kernel_rfl))⟩
  f22 := ⟨Try.f170.name, by decide, Try.func170.trans (congrArg some (by kernel_rfl))⟩
  f23 := ⟨Try.f171.name, by decide, Try.func171.trans (congrArg some (by kernel_rfl))⟩
  f24 := ⟨Try.f172.name, by decide, Try.func172.trans (congrArg some (by kernel_rfl))⟩
  f25 := ⟨Try.f173.name, by decide, Try.func173.trans (congrArg some (by kernel_rfl))⟩
  f26 := ⟨Try.f174.name, by decide, Try.func174.trans (congrArg some (by kernel_rfl))⟩
  f27 := ⟨Try.f175.name, by decide, Try.func175.trans (congrArg some (by kernel_rfl))⟩
  f28 := Try.func176.trans (congrArg some (by kernel_rfl))
  f29 := Try.func177.trans (congrArg some (by kernel_rfl))
  f46 := ⟨Try.f178.name, by decide, Try.func178.trans (congrArg some (by kernel_rfl))⟩
  f47 := Try.func179.trans (congrArg some (by kernel_rfl))
  f48 := Try.func180.trans (congrArg some (by kernel_rfl))
  f49 := ⟨Try.f181.name, by decide, Try.func181.trans (congrArg some (by kernel_rfl))⟩
  f50 := ⟨Try.f182.name, by decide, Try.func182.trans (congrArg some (by kernel_rfl))⟩
  f57 := ⟨Try.f183.name, by decide, Try.func183.trans (congrArg some (by kernel_rfl))⟩
  t0 := Try.underlying0
  a0 := Try.isAgg0
  z0 := Try.sizeOf0
  v0 := Try.zeroValue0
  t3 := Try.underlying3
  a3 := Try.isAgg3
  z3 := Try.sizeOf3
  v3 := Try.zeroValue3
  t4 := Try.underlying4
  a4 := Try.isAgg4
  z4 := Try.sizeOf4
  v4 := Try.zeroValue4
  t5 := Try.underlying5
  a5 := Try.isAgg5
  z5 := Try.sizeOf5
  v5 := Try.zeroValue5
  t9 := Try.underlying9
  a9 := Try.isAgg9
  z9 := Try.sizeOf9
  v9 := Try.zeroValue9
  t22 := Try.underlying44
  a22 := Try.isAgg44
  z22 := Try.sizeOf44
  v22 := Try.zeroValue44
  t25 := Try.underlying140
  a25 := Try.isAgg140
  z25 := Try.sizeOf140
  v25 := Try.zeroValue140
  t39 := Try.underlying162
  a39 := Try.isAgg162
  z39 := Try.sizeOf162
  v39 := Try.zeroValue162
  t45 := Try.underlying167
  a45 := Try.isAgg167
  z45 := Try.sizeOf167
  v45 := Try.zeroValue167
  t46 := Try.underlying168
  a46 := Try.isAgg168
  z46 := Try.sizeOf168
  v46 := Try.zeroValue168
  t50 := Try.underlying172
  a50 := Try.isAgg172
  z50 := Try.sizeOf172
  v50 := Try.zeroValue172
  t53 := Try.underlying175
  a53 := Try.isAgg175
  z53 := Try.sizeOf175
  v53 := Try.zeroValue175
  t55 := Try.underlying177
  a55 := Try.isAgg177
  z55 := Try.sizeOf177
  v55 := Try.zeroValue177
  t66 := Try.underlying178
  a66 := Try.isAgg178
  z66 := Try.sizeOf178
  v66 := Try.zeroValue178
  t70 := Try.underlying182
  a70 := Try.isAgg182
  z70 := Try.sizeOf182
  v70 := Try.zeroValue182
  t76 := Try.underlying184
  a76 := Try.isAgg184
  z76 := Try.sizeOf184
  v76 := Try.zeroValue184
  t77 := Try.underlying185
  a77 := Try.isAgg185
  z77 := Try.sizeOf185
  v77 := Try.zeroValue185 }
end Go.Proofs.Ytolodncpegajkaa
namespace Go.Proofs.Ytolodncpegajkaa
set_option linter.all false
open Go.RowKit Go.Sort Go.Lib
def encQ (p : Q4) : List Value := [.int .i64 p.1, .int .i64 p.2.1, .int .i64 p.2.2.1, .int .i64 p.2.2.2]
def encS (p : RP) : List Value := encQ p.1
theorem sort4_any (ps : List RP) (blk cap : Nat) (w : World) (hH : HoldsK encS 4 w blk 0 ps.toArray) (hblk : blk < w.heap.size) (hsz : ps.length < 4611686018427387904) :
    Calls Try.prog 126 #[.slice (some ⟨blk, 0, none⟩) ps.length cap, .func (.func 127) #[] #[]] w fun e w' => e = .returned (.tuple #[]) ∧ ∃ n os, w' = sortWorldK encS 4 w blk 0 n (ps.mergeSort fun x y => !(ltOf cfR) y x).toArray os := by
  have eg : ∀ args w, (callFunc 127 args).run Try.prog w = .ok (.enter 127 args) w := Go.Proofs.enters_of Try.func127 (by kernel_rfl) rfl
  have h := AnyQ.slices_SortFunc_total sortRp 4 Try.isAgg52 Try.sizeOf52 encS (fun _ => rfl) (fun x v hv => by simp [encS, encQ] at hv; rcases hv with rfl | rfl | rfl | rfl <;> rfl) cfR swoR 127 #[] blk 0 cap ps.toArray w eg (fun _ _ _ _ x y => (cmpRp_g _ (okQ_1 x.2).1 (okQ_1 x.2).2 (okQ_1 y.2).1 (okQ_1 y.2).2).mono fun e w' hh => ⟨hh.1, gb_grow hh.2⟩) hH hblk (by simpa using hsz) (fun x y h1 h2 => by
    rw [cfR_lt] at h1 h2
    rcases qLt_tri x.2 y.2 with h | h | h
    · rw [h] at h1; cases h1
    · exact Subtype.ext h
    · rw [h] at h2; cases h2)
  change Calls Try.prog 126 _ _ _ at h
  simpa using h
theorem sort4_none (p : Option Addr) (cap : Nat) (fv : Value) (w : World) :
    Calls Try.prog 126 #[.slice p 0 cap, fv] w fun e w' => e = .returned (.tuple #[]) ∧ w' = w := AnyF.slices_SortFunc_none sortRp p cap fv w
theorem flatK_fl4 (rs : List RP) : flatK encS 4 rs.toArray = ((fl4 (rs.map Subtype.val)).map (Value.int .i64)).toArray := by
  apply Array.ext
  · simp [fl4_length]
  · intro i h1 h2
    have h1' : i < rs.length * 4 := by simpa using h1
    have hq : i / 4 < rs.length := by omega
    have e := get_flatK encS 4 rs.toArray i (by simpa using h1')
    rw [getElem!_pos _ i h1] at e
    rw [e]
    have hg := fl4_get (rs.map Subtype.val) (i / 4)
    have hd : (rs.map Subtype.val).getD (i / 4) z4 = rs[i / 4].1 := by simp [List.getD, hq]
    rw [hd] at hg
    have hp : rs.toArray[i / 4]! = rs[i / 4] := by simp [hq]
    rw [hp]
    have hl : i < (fl4 (rs.map Subtype.val)).length := by rw [fl4_length, List.length_map]; exact h1'
    have hr : ((fl4 (rs.map Subtype.val)).map (Value.int .i64)).toArray[i] = .int .i64 ((fl4 (rs.map Subtype.val)).getD i 0) := by simp [List.getD, hl]
    rw [hr]
    have hm : i % 4 = 0 ∨ i % 4 = 1 ∨ i % 4 = 2 ∨ i % 4 = 3 := by omega
    rcases hm with h | h | h | h
    · rw [h, show (fl4 (rs.map Subtype.val)).getD i 0 = (fl4 (rs.map Subtype.val)).getD (i / 4 * 4) 0 by rw [show i / 4 * 4 = i by omega], hg.1]
      rfl
    · rw [h, show (fl4 (rs.map Subtype.val)).getD i 0 = (fl4 (rs.map Subtype.val)).getD (i / 4 * 4 + 1) 0 by rw [show i / 4 * 4 + 1 = i by omega], hg.2.1]
      rfl
    · rw [h, show (fl4 (rs.map Subtype.val)).getD i 0 = (fl4 (rs.map Subtype.val)).getD (i / 4 * 4 + 2) 0 by rw [show i / 4 * 4 + 2 = i by omega], hg.2.2.1]
      rfl
    · rw [h, show (fl4 (rs.map Subtype.val)).getD i 0 = (fl4 (rs.map Subtype.val)).getD (i / 4 * 4 + 3) 0 by rw [show i / 4 * 4 + 3 = i by omega], hg.2.2.2]
      rfl
def allV4 (l : Nat) (xs : List Int) : Prop := ∀ q ∈ q4A l xs, okQ q = true
def so4 (cf : FuncId) (args : List Value) : Rd Eff := match args with
  | [.slice (some ⟨nr, 0, none⟩) l _, .func (.func g) ⟨[]⟩ ⟨[]⟩] => .blk nr fun b => match b with
    | some ⟨.row e 4, .ints xs⟩ => (match Nat.beq g cf with
      | true => .ret ⟨.tuple #[], [(nr, ⟨.row e 4, .ints (fl4 (srtQ (q4A l xs)))⟩)], [xs.length = l * 4, l ≤ 1000000000, allV4 l xs]⟩
      | false => .fail)
    | _ => .fail
  | _ => .fail
theorem sw4_heap (w : World) (blk n : Nat) (d : Array RP) (os : Array Obj) : (sortWorldK encS 4 w blk 0 n d os).os = w.os ∧ (sortWorldK encS 4 w blk 0 n d os).tape = w.tape ∧ (sortWorldK encS 4 w blk 0 n d os).output = w.output ∧ w.heap.size ≤ (sortWorldK encS 4 w blk 0 n d os).heap.size ∧
    (∀ k, k < w.heap.size → k ≠ blk → (sortWorldK encS 4 w blk 0 n d os).heap[k]? = w.heap[k]?) ∧ ∀ cs e, w.heap[blk]? = some (.cells cs e (0, 0)) → (sortWorldK encS 4 w blk 0 n d os).heap[blk]? = some (.cells (putCells id 0 (flatK encS 4 d) cs) e (0, 0)) := by
  refine ⟨rfl, rfl, rfl, ?_, ?_, ?_⟩
  · simp [sortWorldK, grow, putRowK, putRow, mapBlock, ahead]
  · intro k hk hne
    simp [sortWorldK, grow, putRowK, putRow, mapBlock, ahead, Array.getElem?_append, hk]
    rw [Array.getElem_modify, if_neg (Ne.symm hne)]
  · intro cs e h
    have hk : blk < w.heap.size := (Array.getElem?_eq_some_iff.1 h).1
    have ha : (Sort.ahead w n).heap = w.heap := rfl
    simp only [sortWorldK, grow, putRowK, putRow, mapBlock, Array.getElem?_append, Array.size_modify, Array.getElem?_modify, ha, hk, if_true, h]
    rfl
theorem so4_sound {J : TabJ} (hJ : GSound Try.prog J.g) : GSound Try.prog (consJ 126 (fun _ => so4 127) J).g := by
  intro h name args s eff hr hn
  simp only [consJ] at hr
  split at hr
  rotate_left
  · exact hJ h name args s eff hr hn
  rename_i heq
  obtain rfl := Nat.eq_of_beq_eq_true heq
  refine ⟨(entersB_res (by kernel_rfl)).1, fun B ρ0 ρ w args' ha hm hB hcond => ?_⟩
  unfold so4 at hr
  split at hr
  rotate_left
  · simp [Rd.run] at hr
  rename_i nr l c g
  simp only [Rd.run] at hr
  split at hr
  rotate_left
  · simp [Rd.run] at hr
  rename_i e xs hb
  split at hr
  rotate_left
  · simp [Rd.run] at hr
  rename_i hg
  obtain rfl := Nat.eq_of_beq_eq_true hg
  obtain rfl : (⟨.tuple #[], [(nr, ⟨.row e 4, .ints (fl4 (srtQ (q4A l xs)))⟩)], [xs.length = l * 4, l ≤ 1000000000, allV4 l xs]⟩ : Eff) = eff := by simpa [Rd.run] using hr
  obtain ⟨hxl, hl, hv4, _⟩ := hcond
  obtain ⟨qs, rfl, rfl⟩ := four_fl4 hxl
  unfold allV4 at hv4
  rw [q4A_fl4] at hv4 ⊢
  obtain ⟨ps, rfl⟩ := sub_all hv4
  rw [← srtQ_sub]
  simp only [List.length_map] at hl
  obtain ⟨hsz, hval⟩ := ha
  obtain ⟨x0, x1, rfl⟩ : ∃ x0 x1, args' = #[x0, x1] := by
    have h2 : args'.size = 2 := by simpa using hsz.symm
    match args', h2 with
    | ⟨[x0, x1]⟩, _ => exact ⟨x0, x1, rfl⟩
  have v0 := hval 0 _ x0 rfl rfl
  have v1 := hval 1 _ x1 rfl rfl
  obtain rfl := v1.plain rfl
  rw [upd_one]
  rw [List.length_map] at v0
  have hok := hm.ok nr _ hb
  have none_ : ∀ ad c', ps = [] → x0 = .slice ad 0 c' → Calls Try.prog 126 #[x0, .func (.func 127) #[] #[]] w fun e' w' => ∃ v' ρ', e' = .returned v' ∧ Ext ρ ρ' ∧ VR ρ' (.tuple #[]) v' ∧ BelowK B w w' ∧ MemOk ρ0 ρ' B (setB s.blk nr ⟨.row e 4, .ints (fl4 ((ps.mergeSort fun x y => !(ltOf cfR) y x).map Subtype.val))⟩) w' := by
    rintro ad c' rfl rfl
    refine (sort4_none _ _ _ _).mono ?_
    rintro e' w' ⟨rfl, rfl⟩
    refine ⟨_, ρ, rfl, Ext.refl ρ, .lit rfl, BelowK.refl _ _, ?_⟩
    have e0 : (([] : List RP).mergeSort fun x y => !(ltOf cfR) y x) = [] := by simp
    rw [e0]
    rcases hok with ⟨p, k1, k2, k3⟩ | ⟨g, cap, k1, k2, cs', k3, k4, k5⟩
    · exact hm.setNil hb k1 ⟨k2, 0, k3⟩ (.inl ⟨p, k1, k2, k3⟩)
    · exact hm.set hb rfl k1 (okPl.not (.inl rfl)) (Nat.le_refl _) (fun k _ _ => rfl) (.inr ⟨g, cap, k1, k2, cs', k3, k4, k5⟩)
  rcases v0.slice_inv with ⟨g, f, cp, c', j1, jok, j2, j3, j4⟩ | ⟨hl0, _, ad, c', j2⟩ | ⟨hl0, ad, c', p, j2, _, _, _⟩
  rotate_left
  · exact none_ _ _ (List.eq_nil_of_length_eq_zero hl0) j2
  · exact none_ _ _ (List.eq_nil_of_length_eq_zero hl0) j2
  rcases hok with ⟨p, k1, k2, k3⟩ | ⟨g2, cap, k1, k2, cs', k3, k4, k5⟩
  · rw [k1] at j1
    obtain rfl : p = (g, f, cp) := by simpa using j1
    exact absurd ⟨k2, 0, k3⟩ jok.not
  rw [k1] at j1
  obtain ⟨rfl, rfl, rfl⟩ : g2 = g ∧ 0 = f ∧ some cap = cp := by simpa using j1
  subst j2
  have hfl : (fl4 (ps.map Subtype.val)).length = ps.length * 4 := by rw [fl4_length, List.length_map]
  have hcell : ∀ j, j < ps.length * 4 → cs'[j]? = some (.int .i64 ((fl4 (ps.map Subtype.val)).getD j 0)) := fun j hj => by
    have hjl : j < (fl4 (ps.map Subtype.val)).length := by rw [hfl]; exact hj
    obtain ⟨v', h6, h7⟩ := k5 j (.int .i64 ((fl4 (ps.map Subtype.val)).getD j 0)) (by show ((fl4 (ps.map Subtype.val)).map (Value.int .i64))[j]? = _; simp [List.getD, hjl])
    rw [h7.plain rfl] at h6
    exact h6
  have hH : HoldsK encS 4 w g2 0 ps.toArray := by
    intro j hj
    have hj' : j < ps.length * 4 := by simpa using hj
    have hjl : j < (fl4 (ps.map Subtype.val)).length := by rw [hfl]; exact hj'
    refine ⟨?_, ?_⟩
    · simp only [World.cell?, Nat.zero_add, k3, Option.isSome_none, Bool.false_eq_true, if_false, hcell j hj', flatK_fl4]
      simp [List.getD, hjl]
    · simp [World.frozen?, k3]
  have hg : g2 < w.heap.size := (Array.getElem?_eq_some_iff.1 k3).1
  refine (sort4_any ps g2 c' w hH hg (by omega)).mono ?_
  rintro e' w' ⟨rfl, n, os, rfl⟩
  have hln : (ps.mergeSort fun x y => !(ltOf cfR) y x).length = ps.length := List.length_mergeSort _
  generalize (ps.mergeSort fun x y => !(ltOf cfR) y x) = rs at *
  obtain ⟨s1, s2, s3, s4, s5, s6⟩ := sw4_heap w g2 n rs.toArray os
  have hrl : (fl4 (rs.map Subtype.val)).length = ps.length * 4 := by rw [fl4_length, List.length_map, hln]
  refine ⟨_, ρ, rfl, Ext.refl ρ, .lit rfl, ⟨s1, s2, s3, s4, fun k hk => s5 k (hB k hk) fun e => k2 (e ▸ hk)⟩, ?_⟩
  refine hm.set hb rfl k1 (okPl.not (.inl rfl)) s4 (fun k hk hne => s5 k hk hne) (.inr ⟨g2, cap, k1, k2, _, s6 cs' e k3, ?_, ?_⟩)
  · simpa [putCells] using k4
  · intro k v hk
    have hk' : ((fl4 (rs.map Subtype.val)).map (Value.int .i64))[k]? = some v := hk
    have hkl : k < ps.length * 4 := by
      have := (List.getElem?_eq_some_iff.1 hk').1
      rw [List.length_map, hrl] at this
      exact this
    have hkc : k < cs'.size := (Array.getElem?_eq_some_iff.1 (hcell k hkl)).1
    refine ⟨v, ?_, ?_⟩
    · rw [flatK_fl4]
      simp only [putCells, Array.getElem?_mapIdx, Array.getElem?_eq_getElem hkc, Option.map_some, Nat.zero_le, true_and, Nat.zero_add, List.size_toArray, List.length_map, hrl, hkl, if_true, Nat.sub_zero, id]
      rw [← hk']
      have hkl2 : k < (fl4 (rs.map Subtype.val)).length := by rw [hrl]; exact hkl
      simp [hkl2]
    · obtain ⟨y, _, rfl⟩ := List.mem_map.1 (List.mem_of_getElem? hk')
      exact .lit rfl
end Go.Proofs.Ytolodncpegajkaa
namespace Go.Proofs.Ytolodncpegajkaa
set_option linter.all false
open Go.RowKit
/-- Do the segments of a pair cross? -/
def cpQ (xs : List Int) (n t : Nat) : Bool := rl4V xs (prA n t).1 (prA n t).2 == 2
/-- Where two segments of the list cross. -/
def xpAt (xs : List Int) (i k : Nat) : Q4 := xpQ (xs.getD (i * 4) 0) (xs.getD (i * 4 + 1) 0) (xs.getD (i * 4 + 2) 0) (xs.getD (i * 4 + 3) 0) (xs.getD (k * 4) 0) (xs.getD (k * 4 + 1) 0) (xs.getD (k * 4 + 2) 0) (xs.getD (k * 4 + 3) 0)
/-- The points where segments cross, of so many pairs. -/
def cpL (xs : List Int) (n : Nat) : Nat → List Q4
  | 0 => []
  | t + 1 => bif cpQ xs n t then cpL xs n t ++ [xpAt xs (prA n t).1 (prA n t).2] else cpL xs n t
theorem cpL_len (xs : List Int) (n : Nat) : ∀ t, (cpL xs n t).length ≤ t
  | 0 => Nat.le_refl _
  | t + 1 => by
    have := cpL_len xs n t
    simp only [cpL]
    cases cpQ xs n t <;> simp <;> omega
theorem cp_yes {xs : List Int} {n i k : Nat} (hv : vsB n xs = true) (hi : i < n) (hk : k < n) (h : rl4V xs i k = 2) :
    ptB (xs.getD (i * 4) 0) (xs.getD (i * 4 + 1) 0) = true ∧ ptB (xs.getD (i * 4 + 2) 0) (xs.getD (i * 4 + 3) 0) = true ∧ ptB (xs.getD (k * 4) 0) (xs.getD (k * 4 + 1) 0) = true ∧ ptB (xs.getD (k * 4 + 2) 0) (xs.getD (k * 4 + 3) 0) = true ∧
    crossI (xs.getD (k * 4) 0) (xs.getD (k * 4 + 1) 0) (xs.getD (k * 4 + 2) 0) (xs.getD (k * 4 + 3) 0) (xs.getD (i * 4) 0) (xs.getD (i * 4 + 1) 0) ≠ crossI (xs.getD (k * 4) 0) (xs.getD (k * 4 + 1) 0) (xs.getD (k * 4 + 2) 0) (xs.getD (k * 4 + 3) 0) (xs.getD (i * 4 + 2) 0) (xs.getD (i * 4 + 3) 0) := by
  obtain ⟨p1, p2⟩ := slQ_pt (vs_seg hv hi)
  obtain ⟨p3, p4⟩ := slQ_pt (vs_seg hv hk)
  rw [rl4_A hv hi hk] at h
  exact ⟨p1, p2, p3, p4, dvB_ne2 (relA_2b h).2⟩
theorem xpAt_ok {xs : List Int} {n i k : Nat} (hv : vsB n xs = true) (hi : i < n) (hk : k < n) (h : rl4V xs i k = 2) : okQ (xpAt xs i k) = true := by
  obtain ⟨p1, p2, p3, p4, p5⟩ := cp_yes hv hi hk h
  exact xp_ok p1 p2 p3 p4 p5
def JSr : TabJ := consJ 126 (fun _ => so4 127) noJ
theorem JSr_ok : GSound Try.prog JSr.g := so4_sound (failG_sound _)
def JSs : TabJ := consR 128 (owG dptS) JSr
theorem JSs_ok : GSound Try.prog JSs.g := consO_ok mixed JSr_ok (entersB_res (by kernel_rfl)).1 dptS_ok
def ECqp : Env := mkE TCq (fun _ _ => none) (fun _ => noL)
theorem ECqp_ok : EnvOk Try.prog ECqp := mkEOk TCq_ok (fun _ _ _ _ _ h => (by cases h)) (fun _ _ _ => noL_good)
noncomputable def gc_cpg : Code := (rangesOf (codeOf Try.f30)).getD 0 .skip
def k_cpg : Ex → List Nat := keeps [1, 3, 10] [] [2]
def s_cpg (xs : List Int) (n : Nat) : Nat → St := fun i => ⟨(topV :: .pointer (some ⟨1, 0, none⟩) :: topV :: .pointer (some ⟨2, 0, none⟩) :: topV :: topV :: topV :: topV :: topV :: topV :: .func (.func 113) #[] #[.pointer (some ⟨3, 0, none⟩)] :: topV :: topV :: topV :: topV :: topV :: topV :: topV :: topV :: topV :: topV :: topV :: topV :: topV :: topV :: topV :: topV :: topV :: topV :: topV :: topV :: []), [some ⟨.view, .ints xs⟩, some ⟨.box, .vals [.slice (some ⟨0, 0, none⟩) n n]⟩, some ⟨.box, .vals [.slice (some ⟨4, 0, none⟩) (cpL xs n i).length (cpL xs n i).length]⟩, some ⟨.view, .vals [.slice (some ⟨0, 0, none⟩) n n]⟩, some ⟨.row 52 4, .ints (fl4 (cpL xs n i))⟩]⟩
def g_cpg (xs : List Int) (n : Nat) : Nat → Prop := fun i => i ≤ offR n 0 n
def re_cpg (xs : List Int) (n : Nat) : Ex := .normal
def rs_cpg (xs : List Int) (n : Nat) : St := ⟨(topV :: topV :: topV :: .pointer (some ⟨2, 0, none⟩) :: topV :: topV :: topV :: topV :: topV :: topV :: topV :: topV :: topV :: topV :: topV :: topV :: topV :: topV :: topV :: topV :: topV :: topV :: topV :: topV :: topV :: topV :: topV :: topV :: topV :: topV :: topV :: []), [some ⟨.view, .ints xs⟩, some ⟨.box, .vals [.slice (some ⟨0, 0, none⟩) n n]⟩, some ⟨.box, .vals [.slice (some ⟨4, 0, none⟩) (cpL xs n (offR n 0 n)).length (cpL xs n (offR n 0 n)).length]⟩, some ⟨.view, .vals [.slice (some ⟨0, 0, none⟩) n n]⟩, some ⟨.row 52 4, .ints (fl4 (cpL xs n (offR n 0 n)))⟩]⟩
set_option maxRecDepth 100000 in
theorem tr_cpg (xs : List Int) (n : Nat) (i : Nat) : bodyR Try.prog ECqp 30 12 noL noR (asgOf gc_cpg) (bodOf gc_cpg) ([11, 12].zip (encR xs n i)) k_cpg 16 (s_cpg xs n i) = brT (rl4V xs (prA n i).fst (prA n i).snd == 2) (.need (ptB (xs.getD ((0 : Nat) + (↑(prA n i).fst : Int).toNat * (4 : Nat)) (0 : Int)) (xs.getD ((0 : Nat) + (↑(prA n i).fst : Int).toNat * (4 : Nat) + (1 : Nat)) (0 : Int)) = true) (.need (ptB (xs.getD ((0 : Nat) + (↑(prA n i).fst : Int).toNat * (4 : Nat) + (1 : Nat) + (1 : Nat)) (0 : Int)) (xs.getD ((0 : Nat) + (↑(prA n i).fst : Int).toNat * (4 : Nat) + (1 : Nat) + (1 : Nat) + (1 : Nat)) (0 : Int)) = true) (.need (ptB (xs.getD ((0 : Nat) + (↑(prA n i).snd : Int).toNat * (4 : Nat)) (0 : Int)) (xs.getD ((0 : Nat) + (↑(prA n i).snd : Int).toNat * (4 : Nat) + (1 : Nat)) (0 : Int)) = true) (.need (ptB (xs.getD ((0 : Nat) + (↑(prA n i).snd : Int).toNat * (4 : Nat) + (1 : Nat) + (1 : Nat)) (0 : Int)) (xs.getD ((0 : Nat) + (↑(prA n i).snd : Int).toNat * (4 : Nat) + (1 : Nat) + (1 : Nat) + (1 : Nat)) (0 : Int)) = true) (.need (¬crossI (xs.getD ((0 : Nat) + (↑(prA n i).snd : Int).toNat * (4 : Nat)) (0 : Int)) (xs.getD ((0 : Nat) + (↑(prA n i).snd : Int).toNat * (4 : Nat) + (1 : Nat)) (0 : Int)) (xs.getD ((0 : Nat) + (↑(prA n i).snd : Int).toNat * (4 : Nat) + (1 : Nat) + (1 : Nat)) (0 : Int)) (xs.getD ((0 : Nat) + (↑(prA n i).snd : Int).toNat * (4 : Nat) + (1 : Nat) + (1 : Nat) + (1 : Nat)) (0 : Int)) (xs.getD ((0 : Nat) + (↑(prA n i).fst : Int).toNat * (4 : Nat)) (0 : Int)) (xs.getD ((0 : Nat) + (↑(prA n i).fst : Int).toNat * (4 : Nat) + (1 : Nat)) (0 : Int)) = crossI (xs.getD ((0 : Nat) + (↑(prA n i).snd : Int).toNat * (4 : Nat)) (0 : Int)) (xs.getD ((0 : Nat) + (↑(prA n i).snd : Int).toNat * (4 : Nat) + (1 : Nat)) (0 : Int)) (xs.getD ((0 : Nat) + (↑(prA n i).snd : Int).toNat * (4 : Nat) + (1 : Nat) + (1 : Nat)) (0 : Int)) (xs.getD ((0 : Nat) + (↑(prA n i).snd : Int).toNat * (4 : Nat) + (1 : Nat) + (1 : Nat) + (1 : Nat)) (0 : Int)) (xs.getD ((0 : Nat) + (↑(prA n i).fst : Int).toNat * (4 : Nat) + (1 : Nat) + (1 : Nat)) (0 : Int)) (xs.getD ((0 : Nat) + (↑(prA n i).fst : Int).toNat * (4 : Nat) + (1 : Nat) + (1 : Nat) + (1 : Nat)) (0 : Int))) (.need ((0 : Int) ≤ (↑(prA n i).fst : Int) ∧ (↑(prA n i).fst : Int) < (↑n : Int)) (.need ((0 : Nat) + (↑(prA n i).fst : Int).toNat * (4 : Nat) + (4 : Nat) ≤ xs.length) (.need ((0 : Int) ≤ (↑(prA n i).snd : Int) ∧ (↑(prA n i).snd : Int) < (↑n : Int)) (.need ((0 : Nat) + (↑(prA n i).snd : Int).toNat * (4 : Nat) + (4 : Nat) ≤ xs.length) (.need (((cpL xs n i).length + (1 : Nat)) * (32 : Nat) ≤ (140737488355328 : Nat) ∧ (cpL xs n i).length + (1 : Nat) ≤ (1000000 : Nat)) (.need ((0 : Nat) + (cpL xs n i).length * (4 : Nat) ≤ (fl4 (cpL xs n i)).length) (.leaf .normal ⟨(topV :: .pointer (some ⟨1, 0, none⟩) :: topV :: .pointer (some ⟨2, 0, none⟩) :: topV :: topV :: topV :: topV :: topV :: topV :: .func (Fn.func 113) #[] #[.pointer (some ⟨3, 0, none⟩)] :: topV :: topV :: topV :: topV :: topV :: topV :: topV :: topV :: topV :: topV :: topV :: topV :: topV :: topV :: topV :: topV :: topV :: topV :: topV :: topV :: []), [some ⟨.view, .ints (xs)⟩, some ⟨.box, .vals [.slice (some ⟨0, 0, none⟩) (n) (n)]⟩, some ⟨.box, .vals [.slice (some ⟨8, 0, none⟩) ((cpL xs n i).length + 1) ((cpL xs n i).length + 1)]⟩, some ⟨.view, .vals [.slice (some ⟨0, 0, none⟩) (n) (n)]⟩, some deadB, some ⟨.box, .vals [.int .i64 ((↑(prA n i).fst : Int)), .int .i64 ((↑(prA n i).snd : Int))]⟩, none, some ⟨.row 52 4, .vals [.int .i64 (xp1 (xs.getD (0 + (↑(prA n i).fst : Int).toNat * 4) 0) (xs.getD (0 + (↑(prA n i).fst : Int).toNat * 4 + 1) 0) (xs.getD (0 + (↑(prA n i).fst : Int).toNat * 4 + 1 + 1) 0) (xs.getD (0 + (↑(prA n i).fst : Int).toNat * 4 + 1 + 1 + 1) 0) (xs.getD (0 + (↑(prA n i).snd : Int).toNat * 4) 0) (xs.getD (0 + (↑(prA n i).snd : Int).toNat * 4 + 1) 0) (xs.getD (0 + (↑(prA n i).snd : Int).toNat * 4 + 1 + 1) 0) (xs.getD (0 + (↑(prA n i).snd : Int).toNat * 4 + 1 + 1 + 1) 0)), .int .i64 (xp2 (xs.getD (0 + (↑(prA n i).fst : Int).toNat * 4) 0) (xs.getD (0 + (↑(prA n i).fst : Int).toNat * 4 + 1) 0) (xs.getD (0 + (↑(prA n i).fst : Int).toNat * 4 + 1 + 1) 0) (xs.getD (0 + (↑(prA n i).fst : Int).toNat * 4 + 1 + 1 + 1) 0) (xs.getD (0 + (↑(prA n i).snd : Int).toNat * 4) 0) (xs.getD (0 + (↑(prA n i).snd : Int).toNat * 4 + 1) 0) (xs.getD (0 + (↑(prA n i).snd : Int).toNat * 4 + 1 + 1) 0) (xs.getD (0 + (↑(prA n i).snd : Int).toNat * 4 + 1 + 1 + 1) 0)), .int .i64 (xp3 (xs.getD (0 + (↑(prA n i).fst : Int).toNat * 4) 0) (xs.getD (0 + (↑(prA n i).fst : Int).toNat * 4 + 1) 0) (xs.getD (0 + (↑(prA n i).fst : Int).toNat * 4 + 1 + 1) 0) (xs.getD (0 + (↑(prA n i).fst : Int).toNat * 4 + 1 + 1 + 1) 0) (xs.getD (0 + (↑(prA n i).snd : Int).toNat * 4) 0) (xs.getD (0 + (↑(prA n i).snd : Int).toNat * 4 + 1) 0) (xs.getD (0 + (↑(prA n i).snd : Int).toNat * 4 + 1 + 1) 0) (xs.getD (0 + (↑(prA n i).snd : Int).toNat * 4 + 1 + 1 + 1) 0)), .int .i64 (xp4 (xs.getD (0 + (↑(prA n i).fst : Int).toNat * 4) 0) (xs.getD (0 + (↑(prA n i).fst : Int).toNat * 4 + 1) 0) (xs.getD (0 + (↑(prA n i).fst : Int).toNat * 4 + 1 + 1) 0) (xs.getD (0 + (↑(prA n i).fst : Int).toNat * 4 + 1 + 1 + 1) 0) (xs.getD (0 + (↑(prA n i).snd : Int).toNat * 4) 0) (xs.getD (0 + (↑(prA n i).snd : Int).toNat * 4 + 1) 0) (xs.getD (0 + (↑(prA n i).snd : Int).toNat * 4 + 1 + 1) 0) (xs.getD (0 + (↑(prA n i).snd : Int).toNat * 4 + 1 + 1 + 1) 0))]⟩, some ⟨.row 52 4, .ints (List.take ((cpL xs n i).length * 4) (List.drop 0 (fl4 (cpL xs n i))) ++ [xp1 (xs.getD (0 + (↑(prA n i).fst : Int).toNat * 4) 0) (xs.getD (0 + (↑(prA n i).fst : Int).toNat * 4 + 1) 0) (xs.getD (0 + (↑(prA n i).fst : Int).toNat * 4 + 1 + 1) 0) (xs.getD (0 + (↑(prA n i).fst : Int).toNat * 4 + 1 + 1 + 1) 0) (xs.getD (0 + (↑(prA n i).snd : Int).toNat * 4) 0) (xs.getD (0 + (↑(prA n i).snd : Int).toNat * 4 + 1) 0) (xs.getD (0 + (↑(prA n i).snd : Int).toNat * 4 + 1 + 1) 0) (xs.getD (0 + (↑(prA n i).snd : Int).toNat * 4 + 1 + 1 + 1) 0), xp2 (xs.getD (0 + (↑(prA n i).fst : Int).toNat * 4) 0) (xs.getD (0 + (↑(prA n i).fst : Int).toNat * 4 + 1) 0) (xs.getD (0 + (↑(prA n i).fst : Int).toNat * 4 + 1 + 1) 0) (xs.getD (0 + (↑(prA n i).fst : Int).toNat * 4 + 1 + 1 + 1) 0) (xs.getD (0 + (↑(prA n i).snd : Int).toNat * 4) 0) (xs.getD (0 + (↑(prA n i).snd : Int).toNat * 4 + 1) 0) (xs.getD (0 + (↑(prA n i).snd : Int).toNat * 4 + 1 + 1) 0) (xs.getD (0 + (↑(prA n i).snd : Int).toNat * 4 + 1 + 1 + 1) 0), xp3 (xs.getD (0 + (↑(prA n i).fst : Int).toNat * 4) 0) (xs.getD (0 + (↑(prA n i).fst : Int).toNat * 4 + 1) 0) (xs.getD (0 + (↑(prA n i).fst : Int).toNat * 4 + 1 + 1) 0) (xs.getD (0 + (↑(prA n i).fst : Int).toNat * 4 + 1 + 1 + 1) 0) (xs.getD (0 + (↑(prA n i).snd : Int).toNat * 4) 0) (xs.getD (0 + (↑(prA n i).snd : Int).toNat * 4 + 1) 0) (xs.getD (0 + (↑(prA n i).snd : Int).toNat * 4 + 1 + 1) 0) (xs.getD (0 + (↑(prA n i).snd : Int).toNat * 4 + 1 + 1 + 1) 0), xp4 (xs.getD (0 + (↑(prA n i).fst : Int).toNat * 4) 0) (xs.getD (0 + (↑(prA n i).fst : Int).toNat * 4 + 1) 0) (xs.getD (0 + (↑(prA n i).fst : Int).toNat * 4 + 1 + 1) 0) (xs.getD (0 + (↑(prA n i).fst : Int).toNat * 4 + 1 + 1 + 1) 0) (xs.getD (0 + (↑(prA n i).snd : Int).toNat * 4) 0) (xs.getD (0 + (↑(prA n i).snd : Int).toNat * 4 + 1) 0) (xs.getD (0 + (↑(prA n i).snd : Int).toNat * 4 + 1 + 1) 0) (xs.getD (0 + (↑(prA n i).snd : Int).toNat * 4 + 1 + 1 + 1) 0)])⟩]⟩)))))))))))) (.leaf .normal ⟨(topV :: .pointer (some ⟨1, 0, none⟩) :: topV :: .pointer (some ⟨2, 0, none⟩) :: topV :: topV :: topV :: topV :: topV :: topV :: .func (Fn.func 113) #[] #[.pointer (some ⟨3, 0, none⟩)] :: topV :: topV :: topV :: topV :: topV :: topV :: topV :: topV :: topV :: topV :: topV :: topV :: topV :: topV :: topV :: topV :: topV :: topV :: topV :: topV :: []), [some ⟨.view, .ints (xs)⟩, some ⟨.box, .vals [.slice (some ⟨0, 0, none⟩) (n) (n)]⟩, some ⟨.box, .vals [.slice (some ⟨4, 0, none⟩) ((cpL xs n i).length) ((cpL xs n i).length)]⟩, some ⟨.view, .vals [.slice (some ⟨0, 0, none⟩) (n) (n)]⟩, some ⟨.row 52 4, .ints (fl4 (cpL xs n i))⟩, some ⟨.box, .vals [.int .i64 ((↑(prA n i).fst : Int)), .int .i64 ((↑(prA n i).snd : Int))]⟩]⟩) := by kernel_rfl
/-- A round of this loop. -/
def Round_cpg (xs : List Int) (n : Nat) : Prop := ∀ i : Nat, g_cpg xs n i → i < offR n 0 n → (bodyR Try.prog ECqp 30 12 noL noR (asgOf gc_cpg) (bodOf gc_cpg) ([11, 12].zip (encR xs n i)) k_cpg 16 (s_cpg xs n i)).ok (RoundEndR 4 (s_cpg xs n) (g_cpg xs n) (re_cpg xs n) (rs_cpg xs n) i) (fun _ _ => False)
set_option maxRecDepth 100000 in
theorem gcode_cpg : gc_cpg = .rangeFunc (.tmp 10) ([11, 12] : List Nat).toArray (asgOf gc_cpg) (bodOf gc_cpg) := by kernel_rfl
def e_cpg (s : St) (k : Ex → St → Tree) : Option Tree := match Nat.beq s.tmps.length 31, pickL s.tmps [1, 3, 10], s.mem with
  | true, [.pointer (some ⟨1, 0, none⟩), .pointer (some ⟨2, 0, none⟩), .func (.func 113) ⟨[]⟩ ⟨[.pointer (some ⟨3, 0, none⟩)]⟩], [some ⟨.view, .ints xs⟩, some ⟨.box, .vals [.slice (some ⟨0, 0, none⟩) n1 _]⟩, some ⟨.box, .vals [.slice none 0 0]⟩, some ⟨.box, .vals [.slice (some ⟨0, 0, none⟩) n _]⟩] => some (needs [n1 = n, xs.length = n * 4, n ≤ 12, vsB n xs = true] (k .normal ⟨(topV :: topV :: topV :: .pointer (some ⟨2, 0, none⟩) :: topV :: topV :: topV :: topV :: topV :: topV :: topV :: topV :: topV :: topV :: topV :: topV :: topV :: topV :: topV :: topV :: topV :: topV :: topV :: topV :: topV :: topV :: topV :: topV :: topV :: topV :: topV :: []), [some ⟨.view, .ints xs⟩, some ⟨.box, .vals [.slice (some ⟨0, 0, none⟩) n n]⟩, some ⟨.box, .vals [.slice (some ⟨4, 0, none⟩) (cpL xs n (offR n 0 n)).length (cpL xs n (offR n 0 n)).length]⟩, some ⟨.view, .vals [.slice (some ⟨0, 0, none⟩) n n]⟩, some ⟨.row 52 4, .ints (fl4 (cpL xs n (offR n 0 n)))⟩]⟩))
  | _, _, _ => none
theorem fl4B (o : List Q4) : List.take (o.length * 4) (List.drop 0 (fl4 o)) = fl4 o := by rw [List.drop_zero, fl4_all]
set_option maxRecDepth 100000 in
set_option maxHeartbeats 2000000 in
theorem round_cpg (xs : List Int) (n : Nat) (hx : xs.length = n * 4) (h : n ≤ 12) (hv : vsB n xs = true) : Round_cpg xs n := by
  intro i hg hi
  rw [tr_cpg]
  have hg : i ≤ offR n 0 n := hg
  obtain ⟨l1, l2⟩ := prA_lt2 hi
  have hl := cpL_len xs n i
  have hb := offR_le n n 0
  have hnn : n * n ≤ 12 * 12 := Nat.mul_le_mul h h
  have fl := fl4_length (cpL xs n i)
  simp only [Int.toNat_natCast, Nat.zero_add, fl4B]
  refine brT_ok.2 ⟨fun c => ?_, fun c => ?_⟩
  · obtain ⟨p1, p2, p3, p4, p5⟩ := cp_yes hv l1 l2 (beq_iff_eq.1 c)
    have e : cpL xs n (i + 1) = cpL xs n i ++ [xpAt xs (prA n i).1 (prA n i).2] := by
      have c : cpQ xs n i = true := c
      simp only [cpL, c, cond_true]
    refine ⟨p1, p2, p3, p4, p5, by omega, by omega, by omega, by omega, by omega, by omega, ?_, [some 8], ?_⟩
    · show i + 1 ≤ offR n 0 n; omega
    · unfold s_cpg
      rw [e, fl4_append]
      refine ⟨rfl, rfl, ?_, ?_⟩ <;> repeat' (first | exact True.intro | exact rfl | exact wv_top _ _ | exact fun _ => rfl | (simp; done) | refine And.intro ?_ ?_)
  · have e : cpL xs n (i + 1) = cpL xs n i := by
      have c : cpQ xs n i = false := c
      simp only [cpL, c, cond_false]
    refine ⟨?_, [some 4], ?_⟩
    · show i + 1 ≤ offR n 0 n; omega
    · unfold s_cpg
      rw [e]
      refine ⟨rfl, rfl, ?_, ?_⟩ <;> repeat' (first | exact True.intro | exact rfl | exact wv_top _ _ | exact fun _ => rfl | (simp; done) | refine And.intro ?_ ?_)
set_option maxRecDepth 100000 in
theorem lg_cpg : RangeE Try.prog e_cpg gc_cpg := by
  intro s k t F H hlt ht
  unfold e_cpg at hlt
  split at hlt
  rotate_left
  · cases hlt
  rename_i hlen hpick hmem
  obtain ⟨tmps, mem⟩ := s
  simp only at hlen hpick hmem
  subst hmem
  obtain rfl := Option.some.inj hlt
  obtain ⟨⟨rfl, h1, h3, h4, _⟩, ht2⟩ := needs_ok ht
  clear ht hlt
  rename_i xs n c1 c2 rr
  refine ⟨re_cpg xs n, rs_cpg xs n, ht2, ?_⟩
  rw [gcode_cpg]
  refine range_detP (enc := encR xs n) (len := offR n 0 n) (St_of := s_cpg xs n) (Good := g_cpg xs n) (N := 4) (M := 16) (Kn := [0, 3]) (cap := [.pointer (some ⟨3, 0, none⟩)]) (kf := (k_cpg .normal)) (π := [none]) (fun _ => rfl) (fun _ => rfl) (fun i hg hlt => bodyR_ok mixed ECqp_ok (noL_good) (noR_good) (round_cpg xs n h1 h3 h4 i hg hlt)) (entersB_res (by kernel_rfl)).1 rfl ?_ (fun ρ0 ρ B w lb g1 g2 => rl_iter xs n h1 (by omega) (s := (s_cpg xs n 0).fs) (nb := 3) (nr := 0) (c := n) (Kn := [0, 3]) rfl rfl (by decide) (by decide) ρ0 ρ B w lb g1 g2) ?_ rfl (by decide) ?_ (Nat.zero_le _)
  · intro n hn b hb
    simp only [List.mem_cons, List.not_mem_nil, or_false] at hn
    rcases hn with rfl | rfl <;> (obtain rfl := Option.some.inj hb; rfl)
  · exact fun _ => ⟨rfl, [some 4], by refine ⟨rfl, rfl, ?_, ?_⟩ <;> repeat' (first | exact True.intro | exact rfl | exact wv_top _ _ | exact fun _ => rfl | (simp; done) | refine And.intro ?_ ?_)⟩
  · refine ⟨rfl, rfl, ?_, wvs_spread' [1, 3, 10] hlen rfl ?_⟩
    · repeat' (first | exact True.intro | exact rfl | exact wv_top _ _ | exact fun _ => rfl | assumption | exact Eq.symm (by assumption) | exact vI0 rfl | refine And.intro ?_ ?_)
    · rw [show pickL (viewS [0, 3] ⟨tmps, _⟩).tmps [1, 3, 10] = pickL tmps [1, 3, 10] from rfl, hpick]
      repeat' (first | exact True.intro | exact rfl | exact wv_top _ _ | exact fun _ => rfl | assumption | exact Eq.symm (by assumption) | exact vI0 rfl | refine And.intro ?_ ?_)
end Go.Proofs.Ytolodncpegajkaa
