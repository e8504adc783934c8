/-
  Texts that the proof needs, merged. Written by an AI agent.
-/
import Derived.Orders
import Derived.Below
import Derived.OrdersIn
import Derived.Deep.LoopGhost
import Derived.WalkKit
import Derived.Laws.CopyRow
import Derived.Laws.AppendOwn
import Derived.Laws.Slices
import Derived.Laws.MakeOwn
import Derived.Test.YtbhdhejefpdjfaaRows
import Derived.ProofKit
import Derived.OpenShut
import Derived.Carry
import Derived.IntWalk
import Derived.Test.YtbhdhejefpdjfaaProg
import Derived.WalkSpells
import Derived.WalkLawsBesides
import Derived.Lib.Hide
import Derived.Deep.QuietTactic
import Derived.BigQuiet
import Derived.KernelRfl
import Derived.Deep.RegionHeld3
import Derived.LoopTactic
import Derived.Laws.StructEq
import Derived.Laws.Tables
import Derived.RangeFuncNested
import Derived.RangeFuncLeaves
import Derived.Deep.Slices
import Derived.Deep.Fields
import Derived.ChangeSame
import Derived.Deep.DeepCutAuto
import Derived.Shelf.SlSortCmp.WholeK
import Derived.Sort.Grow
import Derived.Shelf.SlSortCmp.NoneTotal
import Derived.Test.YtbhdhejefpdjfaaZConvexDiagonals8
namespace Go.Proofs.Ytbhdhejefpdjfaa
set_option linter.all false
open Go.RowKit
set_option maxRecDepth 100000 in
set_option maxHeartbeats 1000000 in
theorem sh_run0 {bs : List Int} {l c : Nat} {p : Int} (h1 : rdC bs l p) (h2 : p ≤ 900000) (hk : pickI bs l p 6 = 0) : (bodyM Try.prog (ESh 0) (runM Try.prog (ESh 0) 30 12) 30 40 [.pointer (some ⟨1, 0, none⟩)] (memR bs l c p none) .fin).ok (fun _ _ => False) (fun u mem' => mem'.getD 1 none = some (rdBox 0 l c (p + 5)) ∧ RowIs (rowL (shV bs l p 0)) ⟨.row 25 2, .ints (flat (shV bs l p 0))⟩ u mem') := by
  rw [tr_sh0]
  try delta zB2 zB4 zR2 zI zsh0_0 zsh0_1 zsh0_2 zsh0_3 zsh0_4 zsh0_5 zsh0_6 zsh0_7 zsh0_8 zsh0_9
  have h0 := h1.2.2.1
  have R : ∀ q : Int, p ≤ q → q ≤ p + 5 → rdC bs l q := fun q g1 g2 => ⟨h1.1, h1.2.1, by omega, by omega, h1.2.2.2.2⟩
  have L : (shpK 0).length = 4 := rfl
  have T : Try.prog.types[(25 : Nat)].size = 2 := by kernel_rfl
  have a2 : p + 1 + 1 = p + 2 := by omega
  have a3 : p + 2 + 1 = p + 3 := by omega
  have a4 : p + 3 + 1 = p + 4 := by omega
  have a5 : p + 4 + 1 = p + 5 := by omega
  have a6 : p + 3 - 2 = p + 1 := by omega
  have a7 : p + 3 - 1 = p + 2 := by omega
  have N : ((4 : Nat) : Int).toNat = 4 := rfl
  have e0 : Int.toNat 0 = 0 := rfl
  have pA : ptsA 4 (flat (shL bs l (p + 3) 0)) = shL bs l (p + 3) 0 := by
    have := ptsA_flat (shL bs l (p + 3) 0)
    rwa [shL_len] at this
  simp only [L, T, a2, a3, a4, a5, a6, a7, bndI, List.nil_append, List.drop_zero, Nat.zero_add, Nat.sub_zero, Nat.zero_mul, pA]
  have hb := pickI_bd (k := ((4 : Nat) : Int)) (R (p + 4) (by omega) (by omega)) (by omega)
  have eV : shV bs l p 0 = rotS (pickI bs l (p + 4) ((4 : Nat) : Int)).toNat (shW bs l p 0) := rfl
  have hl := shW_len bs l p 0
  rw [L] at hl
  obtain ⟨r, hr⟩ := Int.eq_ofNat_of_zero_le hb.1
  rw [hr] at hb
  rw [eV]
  simp only [hr, Int.toNat_natCast, e0, Nat.sub_zero]
  have hq : (rotS r (shW bs l p 0)).length = 4 := by rw [rotS_len (by omega), hl]
  have hc := rot_cells (X := shW bs l p 0) (m := 4) (r := r) hl (by omega)
  have hx : 4 - r + r = 4 := by omega
  have hz : ∀ X : List Pt, X.length = 4 → (4 - r) * 2 ≤ (List.take ((4 - r) * 2) (List.drop (r * 2) (flat X))).length := fun X hX => by
    rw [List.length_take, List.length_drop, flat_length, hX]
    omega
  refine ⟨h1, hk, by decide, by decide, R _ (by omega) (by omega), R _ (by omega) (by omega), trivial, rfl, trivial, by decide, trivial, trivial, R _ (by omega) (by omega), ?_⟩
  unfold shW at hc hq hl ⊢
  rcases hs : pickI bs l (p + 3) 2 == 0 with _ | _
  · rw [hs] at hc hq hl
    simp only [cond_false] at hc hq hl ⊢
    simp only [brT_f, Tree.ok]
    refine ⟨R _ (by omega) (by omega), by omega, by omega, by omega, by omega, by omega, by omega, hz _ hl, rfl, some 13, ⟨rfl, rfl, by rw [hx, hq]⟩, rfl, rfl, ?_⟩
    · rw [← hc]
      rfl
  · rw [hs] at hc hq hl
    simp only [cond_true] at hc hq hl ⊢
    simp only [brT_t, Tree.ok]
    refine ⟨by decide, by decide, R _ (by omega) (by omega), by omega, by omega, by omega, by omega, by omega, by omega, hz _ hl, rfl, some 14, ⟨rfl, rfl, by rw [hx, hq]⟩, rfl, rfl, ?_⟩
    · rw [← hc]
      rfl
set_option maxRecDepth 100000 in
set_option maxHeartbeats 1000000 in
theorem sh_run1 {bs : List Int} {l c : Nat} {p : Int} (h1 : rdC bs l p) (h2 : p ≤ 900000) (hk : pickI bs l p 6 = 1) : (bodyM Try.prog (ESh 1) (runM Try.prog (ESh 1) 30 12) 30 40 [.pointer (some ⟨1, 0, none⟩)] (memR bs l c p none) .fin).ok (fun _ _ => False) (fun u mem' => mem'.getD 1 none = some (rdBox 0 l c (p + 5)) ∧ RowIs (rowL (shV bs l p 1)) ⟨.row 25 2, .ints (flat (shV bs l p 1))⟩ u mem') := by
  rw [tr_sh1]
  try delta zB2 zB4 zR2 zI zsh1_0 zsh1_1 zsh1_2 zsh1_3 zsh1_4 zsh1_5 zsh1_6 zsh1_7 zsh1_8 zsh1_9
  have h0 := h1.2.2.1
  have R : ∀ q : Int, p ≤ q → q ≤ p + 5 → rdC bs l q := fun q g1 g2 => ⟨h1.1, h1.2.1, by omega, by omega, h1.2.2.2.2⟩
  have L : (shpK 1).length = 5 := rfl
  have T : Try.prog.types[(25 : Nat)].size = 2 := by kernel_rfl
  have a2 : p + 1 + 1 = p + 2 := by omega
  have a3 : p + 2 + 1 = p + 3 := by omega
  have a4 : p + 3 + 1 = p + 4 := by omega
  have a5 : p + 4 + 1 = p + 5 := by omega
  have a6 : p + 3 - 2 = p + 1 := by omega
  have a7 : p + 3 - 1 = p + 2 := by omega
  have N : ((5 : Nat) : Int).toNat = 5 := rfl
  have e0 : Int.toNat 0 = 0 := rfl
  have pA : ptsA 5 (flat (shL bs l (p + 3) 1)) = shL bs l (p + 3) 1 := by
    have := ptsA_flat (shL bs l (p + 3) 1)
    rwa [shL_len] at this
  simp only [L, T, a2, a3, a4, a5, a6, a7, bndI, List.nil_append, List.drop_zero, Nat.zero_add, Nat.sub_zero, Nat.zero_mul, pA]
  have hb := pickI_bd (k := ((5 : Nat) : Int)) (R (p + 4) (by omega) (by omega)) (by omega)
  have eV : shV bs l p 1 = rotS (pickI bs l (p + 4) ((5 : Nat) : Int)).toNat (shW bs l p 1) := rfl
  have hl := shW_len bs l p 1
  rw [L] at hl
  obtain ⟨r, hr⟩ := Int.eq_ofNat_of_zero_le hb.1
  rw [hr] at hb
  rw [eV]
  simp only [hr, Int.toNat_natCast, e0, Nat.sub_zero]
  have hq : (rotS r (shW bs l p 1)).length = 5 := by rw [rotS_len (by omega), hl]
  have hc := rot_cells (X := shW bs l p 1) (m := 5) (r := r) hl (by omega)
  have hx : 5 - r + r = 5 := by omega
  have hz : ∀ X : List Pt, X.length = 5 → (5 - r) * 2 ≤ (List.take ((5 - r) * 2) (List.drop (r * 2) (flat X))).length := fun X hX => by
    rw [List.length_take, List.length_drop, flat_length, hX]
    omega
  refine ⟨h1, hk, by decide, by decide, R _ (by omega) (by omega), R _ (by omega) (by omega), trivial, rfl, trivial, by decide, trivial, trivial, R _ (by omega) (by omega), ?_⟩
  unfold shW at hc hq hl ⊢
  rcases hs : pickI bs l (p + 3) 2 == 0 with _ | _
  · rw [hs] at hc hq hl
    simp only [cond_false] at hc hq hl ⊢
    simp only [brT_f, Tree.ok]
    refine ⟨R _ (by omega) (by omega), by omega, by omega, by omega, by omega, by omega, by omega, hz _ hl, rfl, some 13, ⟨rfl, rfl, by rw [hx, hq]⟩, rfl, rfl, ?_⟩
    · rw [← hc]
      rfl
  · rw [hs] at hc hq hl
    simp only [cond_true] at hc hq hl ⊢
    simp only [brT_t, Tree.ok]
    refine ⟨by decide, by decide, R _ (by omega) (by omega), by omega, by omega, by omega, by omega, by omega, by omega, hz _ hl, rfl, some 14, ⟨rfl, rfl, by rw [hx, hq]⟩, rfl, rfl, ?_⟩
    · rw [← hc]
      rfl
set_option maxRecDepth 100000 in
set_option maxHeartbeats 1000000 in
theorem sh_run2 {bs : List Int} {l c : Nat} {p : Int} (h1 : rdC bs l p) (h2 : p ≤ 900000) (hk : pickI bs l p 6 = 2) : (bodyM Try.prog (ESh 2) (runM Try.prog (ESh 2) 30 12) 30 40 [.pointer (some ⟨1, 0, none⟩)] (memR bs l c p none) .fin).ok (fun _ _ => False) (fun u mem' => mem'.getD 1 none = some (rdBox 0 l c (p + 5)) ∧ RowIs (rowL (shV bs l p 2)) ⟨.row 25 2, .ints (flat (shV bs l p 2))⟩ u mem') := by
  rw [tr_sh2]
  try delta zB2 zB4 zR2 zI zsh2_0 zsh2_1 zsh2_2 zsh2_3 zsh2_4 zsh2_5 zsh2_6 zsh2_7 zsh2_8 zsh2_9
  have h0 := h1.2.2.1
  have R : ∀ q : Int, p ≤ q → q ≤ p + 5 → rdC bs l q := fun q g1 g2 => ⟨h1.1, h1.2.1, by omega, by omega, h1.2.2.2.2⟩
  have L : (shpK 2).length = 5 := rfl
  have T : Try.prog.types[(25 : Nat)].size = 2 := by kernel_rfl
  have a2 : p + 1 + 1 = p + 2 := by omega
  have a3 : p + 2 + 1 = p + 3 := by omega
  have a4 : p + 3 + 1 = p + 4 := by omega
  have a5 : p + 4 + 1 = p + 5 := by omega
  have a6 : p + 3 - 2 = p + 1 := by omega
  have a7 : p + 3 - 1 = p + 2 := by omega
  have N : ((5 : Nat) : Int).toNat = 5 := rfl
  have e0 : Int.toNat 0 = 0 := rfl
  have pA : ptsA 5 (flat (shL bs l (p + 3) 2)) = shL bs l (p + 3) 2 := by
    have := ptsA_flat (shL bs l (p + 3) 2)
    rwa [shL_len] at this
  simp only [L, T, a2, a3, a4, a5, a6, a7, bndI, List.nil_append, List.drop_zero, Nat.zero_add, Nat.sub_zero, Nat.zero_mul, pA]
  have hb := pickI_bd (k := ((5 : Nat) : Int)) (R (p + 4) (by omega) (by omega)) (by omega)
  have eV : shV bs l p 2 = rotS (pickI bs l (p + 4) ((5 : Nat) : Int)).toNat (shW bs l p 2) := rfl
  have hl := shW_len bs l p 2
  rw [L] at hl
  obtain ⟨r, hr⟩ := Int.eq_ofNat_of_zero_le hb.1
  rw [hr] at hb
  rw [eV]
  simp only [hr, Int.toNat_natCast, e0, Nat.sub_zero]
  have hq : (rotS r (shW bs l p 2)).length = 5 := by rw [rotS_len (by omega), hl]
  have hc := rot_cells (X := shW bs l p 2) (m := 5) (r := r) hl (by omega)
  have hx : 5 - r + r = 5 := by omega
  have hz : ∀ X : List Pt, X.length = 5 → (5 - r) * 2 ≤ (List.take ((5 - r) * 2) (List.drop (r * 2) (flat X))).length := fun X hX => by
    rw [List.length_take, List.length_drop, flat_length, hX]
    omega
  refine ⟨h1, hk, by decide, by decide, R _ (by omega) (by omega), R _ (by omega) (by omega), trivial, rfl, trivial, by decide, trivial, trivial, R _ (by omega) (by omega), ?_⟩
  unfold shW at hc hq hl ⊢
  rcases hs : pickI bs l (p + 3) 2 == 0 with _ | _
  · rw [hs] at hc hq hl
    simp only [cond_false] at hc hq hl ⊢
    simp only [brT_f, Tree.ok]
    refine ⟨R _ (by omega) (by omega), by omega, by omega, by omega, by omega, by omega, by omega, hz _ hl, rfl, some 13, ⟨rfl, rfl, by rw [hx, hq]⟩, rfl, rfl, ?_⟩
    · rw [← hc]
      rfl
  · rw [hs] at hc hq hl
    simp only [cond_true] at hc hq hl ⊢
    simp only [brT_t, Tree.ok]
    refine ⟨by decide, by decide, R _ (by omega) (by omega), by omega, by omega, by omega, by omega, by omega, by omega, hz _ hl, rfl, some 14, ⟨rfl, rfl, by rw [hx, hq]⟩, rfl, rfl, ?_⟩
    · rw [← hc]
      rfl
set_option maxRecDepth 100000 in
set_option maxHeartbeats 1000000 in
theorem sh_run3 {bs : List Int} {l c : Nat} {p : Int} (h1 : rdC bs l p) (h2 : p ≤ 900000) (hk : pickI bs l p 6 = 3) : (bodyM Try.prog (ESh 3) (runM Try.prog (ESh 3) 30 12) 30 40 [.pointer (some ⟨1, 0, none⟩)] (memR bs l c p none) .fin).ok (fun _ _ => False) (fun u mem' => mem'.getD 1 none = some (rdBox 0 l c (p + 5)) ∧ RowIs (rowL (shV bs l p 3)) ⟨.row 25 2, .ints (flat (shV bs l p 3))⟩ u mem') := by
  rw [tr_sh3]
  try delta zB2 zB4 zR2 zI zsh3_0 zsh3_1 zsh3_2 zsh3_3 zsh3_4 zsh3_5 zsh3_6 zsh3_7 zsh3_8 zsh3_9
  have h0 := h1.2.2.1
  have R : ∀ q : Int, p ≤ q → q ≤ p + 5 → rdC bs l q := fun q g1 g2 => ⟨h1.1, h1.2.1, by omega, by omega, h1.2.2.2.2⟩
  have L : (shpK 3).length = 8 := rfl
  have T : Try.prog.types[(25 : Nat)].size = 2 := by kernel_rfl
  have a2 : p + 1 + 1 = p + 2 := by omega
  have a3 : p + 2 + 1 = p + 3 := by omega
  have a4 : p + 3 + 1 = p + 4 := by omega
  have a5 : p + 4 + 1 = p + 5 := by omega
  have a6 : p + 3 - 2 = p + 1 := by omega
  have a7 : p + 3 - 1 = p + 2 := by omega
  have N : ((8 : Nat) : Int).toNat = 8 := rfl
  have e0 : Int.toNat 0 = 0 := rfl
  have pA : ptsA 8 (flat (shL bs l (p + 3) 3)) = shL bs l (p + 3) 3 := by
    have := ptsA_flat (shL bs l (p + 3) 3)
    rwa [shL_len] at this
  simp only [L, T, a2, a3, a4, a5, a6, a7, bndI, List.nil_append, List.drop_zero, Nat.zero_add, Nat.sub_zero, Nat.zero_mul, pA]
  have hb := pickI_bd (k := ((8 : Nat) : Int)) (R (p + 4) (by omega) (by omega)) (by omega)
  have eV : shV bs l p 3 = rotS (pickI bs l (p + 4) ((8 : Nat) : Int)).toNat (shW bs l p 3) := rfl
  have hl := shW_len bs l p 3
  rw [L] at hl
  obtain ⟨r, hr⟩ := Int.eq_ofNat_of_zero_le hb.1
  rw [hr] at hb
  rw [eV]
  simp only [hr, Int.toNat_natCast, e0, Nat.sub_zero]
  have hq : (rotS r (shW bs l p 3)).length = 8 := by rw [rotS_len (by omega), hl]
  have hc := rot_cells (X := shW bs l p 3) (m := 8) (r := r) hl (by omega)
  have hx : 8 - r + r = 8 := by omega
  have hz : ∀ X : List Pt, X.length = 8 → (8 - r) * 2 ≤ (List.take ((8 - r) * 2) (List.drop (r * 2) (flat X))).length := fun X hX => by
    rw [List.length_take, List.length_drop, flat_length, hX]
    omega
  refine ⟨h1, hk, by decide, by decide, R _ (by omega) (by omega), R _ (by omega) (by omega), trivial, rfl, trivial, by decide, trivial, trivial, R _ (by omega) (by omega), ?_⟩
  unfold shW at hc hq hl ⊢
  rcases hs : pickI bs l (p + 3) 2 == 0 with _ | _
  · rw [hs] at hc hq hl
    simp only [cond_false] at hc hq hl ⊢
    simp only [brT_f, Tree.ok]
    refine ⟨R _ (by omega) (by omega), by omega, by omega, by omega, by omega, by omega, by omega, hz _ hl, rfl, some 13, ⟨rfl, rfl, by rw [hx, hq]⟩, rfl, rfl, ?_⟩
    · rw [← hc]
      rfl
  · rw [hs] at hc hq hl
    simp only [cond_true] at hc hq hl ⊢
    simp only [brT_t, Tree.ok]
    refine ⟨by decide, by decide, R _ (by omega) (by omega), by omega, by omega, by omega, by omega, by omega, by omega, hz _ hl, rfl, some 14, ⟨rfl, rfl, by rw [hx, hq]⟩, rfl, rfl, ?_⟩
    · rw [← hc]
      rfl
set_option maxRecDepth 100000 in
set_option maxHeartbeats 1000000 in
theorem sh_run4 {bs : List Int} {l c : Nat} {p : Int} (h1 : rdC bs l p) (h2 : p ≤ 900000) (hk : pickI bs l p 6 = 4) : (bodyM Try.prog (ESh 4) (runM Try.prog (ESh 4) 30 12) 30 40 [.pointer (some ⟨1, 0, none⟩)] (memR bs l c p none) .fin).ok (fun _ _ => False) (fun u mem' => mem'.getD 1 none = some (rdBox 0 l c (p + 5)) ∧ RowIs (rowL (shV bs l p 4)) ⟨.row 25 2, .ints (flat (shV bs l p 4))⟩ u mem') := by
  rw [tr_sh4]
  try delta zB2 zB4 zR2 zI zsh4_0 zsh4_1 zsh4_2 zsh4_3 zsh4_4 zsh4_5 zsh4_6 zsh4_7 zsh4_8 zsh4_9
  have h0 := h1.2.2.1
  have R : ∀ q : Int, p ≤ q → q ≤ p + 5 → rdC bs l q := fun q g1 g2 => ⟨h1.1, h1.2.1, by omega, by omega, h1.2.2.2.2⟩
  have L : (shpK 4).length = 8 := rfl
  have T : Try.prog.types[(25 : Nat)].size = 2 := by kernel_rfl
  have a2 : p + 1 + 1 = p + 2 := by omega
  have a3 : p + 2 + 1 = p + 3 := by omega
  have a4 : p + 3 + 1 = p + 4 := by omega
  have a5 : p + 4 + 1 = p + 5 := by omega
  have a6 : p + 3 - 2 = p + 1 := by omega
  have a7 : p + 3 - 1 = p + 2 := by omega
  have N : ((8 : Nat) : Int).toNat = 8 := rfl
  have e0 : Int.toNat 0 = 0 := rfl
  have pA : ptsA 8 (flat (shL bs l (p + 3) 4)) = shL bs l (p + 3) 4 := by
    have := ptsA_flat (shL bs l (p + 3) 4)
    rwa [shL_len] at this
  simp only [L, T, a2, a3, a4, a5, a6, a7, bndI, List.nil_append, List.drop_zero, Nat.zero_add, Nat.sub_zero, Nat.zero_mul, pA]
  have hb := pickI_bd (k := ((8 : Nat) : Int)) (R (p + 4) (by omega) (by omega)) (by omega)
  have eV : shV bs l p 4 = rotS (pickI bs l (p + 4) ((8 : Nat) : Int)).toNat (shW bs l p 4) := rfl
  have hl := shW_len bs l p 4
  rw [L] at hl
  obtain ⟨r, hr⟩ := Int.eq_ofNat_of_zero_le hb.1
  rw [hr] at hb
  rw [eV]
  simp only [hr, Int.toNat_natCast, e0, Nat.sub_zero]
  have hq : (rotS r (shW bs l p 4)).length = 8 := by rw [rotS_len (by omega), hl]
  have hc := rot_cells (X := shW bs l p 4) (m := 8) (r := r) hl (by omega)
  have hx : 8 - r + r = 8 := by omega
  have hz : ∀ X : List Pt, X.length = 8 → (8 - r) * 2 ≤ (List.take ((8 - r) * 2) (List.drop (r * 2) (flat X))).length := fun X hX => by
    rw [List.length_take, List.length_drop, flat_length, hX]
    omega
  refine ⟨h1, hk, by decide, by decide, R _ (by omega) (by omega), R _ (by omega) (by omega), trivial, rfl, trivial, by decide, trivial, trivial, R _ (by omega) (by omega), ?_⟩
  unfold shW at hc hq hl ⊢
  rcases hs : pickI bs l (p + 3) 2 == 0 with _ | _
  · rw [hs] at hc hq hl
    simp only [cond_false] at hc hq hl ⊢
    simp only [brT_f, Tree.ok]
    refine ⟨R _ (by omega) (by omega), by omega, by omega, by omega, by omega, by omega, by omega, hz _ hl, rfl, some 13, ⟨rfl, rfl, by rw [hx, hq]⟩, rfl, rfl, ?_⟩
    · rw [← hc]
      rfl
  · rw [hs] at hc hq hl
    simp only [cond_true] at hc hq hl ⊢
    simp only [brT_t, Tree.ok]
    refine ⟨by decide, by decide, R _ (by omega) (by omega), by omega, by omega, by omega, by omega, by omega, by omega, hz _ hl, rfl, some 14, ⟨rfl, rfl, by rw [hx, hq]⟩, rfl, rfl, ?_⟩
    · rw [← hc]
      rfl
set_option maxRecDepth 100000 in
set_option maxHeartbeats 1000000 in
theorem sh_run5 {bs : List Int} {l c : Nat} {p : Int} (h1 : rdC bs l p) (h2 : p ≤ 900000) (hk : pickI bs l p 6 = 5) : (bodyM Try.prog (ESh 5) (runM Try.prog (ESh 5) 30 12) 30 40 [.pointer (some ⟨1, 0, none⟩)] (memR bs l c p none) .fin).ok (fun _ _ => False) (fun u mem' => mem'.getD 1 none = some (rdBox 0 l c (p + 5)) ∧ RowIs (rowL (shV bs l p 5)) ⟨.row 25 2, .ints (flat (shV bs l p 5))⟩ u mem') := by
  rw [tr_sh5]
  try delta zB2 zB4 zR2 zI zsh5_0 zsh5_1 zsh5_2 zsh5_3 zsh5_4 zsh5_5 zsh5_6 zsh5_7 zsh5_8 zsh5_9
  have h0 := h1.2.2.1
  have R : ∀ q : Int, p ≤ q → q ≤ p + 5 → rdC bs l q := fun q g1 g2 => ⟨h1.1, h1.2.1, by omega, by omega, h1.2.2.2.2⟩
  have L : (shpK 5).length = 3 := rfl
  have T : Try.prog.types[(25 : Nat)].size = 2 := by kernel_rfl
  have a2 : p + 1 + 1 = p + 2 := by omega
  have a3 : p + 2 + 1 = p + 3 := by omega
  have a4 : p + 3 + 1 = p + 4 := by omega
  have a5 : p + 4 + 1 = p + 5 := by omega
  have a6 : p + 3 - 2 = p + 1 := by omega
  have a7 : p + 3 - 1 = p + 2 := by omega
  have N : ((3 : Nat) : Int).toNat = 3 := rfl
  have e0 : Int.toNat 0 = 0 := rfl
  have pA : ptsA 3 (flat (shL bs l (p + 3) 5)) = shL bs l (p + 3) 5 := by
    have := ptsA_flat (shL bs l (p + 3) 5)
    rwa [shL_len] at this
  simp only [L, T, a2, a3, a4, a5, a6, a7, bndI, List.nil_append, List.drop_zero, Nat.zero_add, Nat.sub_zero, Nat.zero_mul, pA]
  have hb := pickI_bd (k := ((3 : Nat) : Int)) (R (p + 4) (by omega) (by omega)) (by omega)
  have eV : shV bs l p 5 = rotS (pickI bs l (p + 4) ((3 : Nat) : Int)).toNat (shW bs l p 5) := rfl
  have hl := shW_len bs l p 5
  rw [L] at hl
  obtain ⟨r, hr⟩ := Int.eq_ofNat_of_zero_le hb.1
  rw [hr] at hb
  rw [eV]
  simp only [hr, Int.toNat_natCast, e0, Nat.sub_zero]
  have hq : (rotS r (shW bs l p 5)).length = 3 := by rw [rotS_len (by omega), hl]
  have hc := rot_cells (X := shW bs l p 5) (m := 3) (r := r) hl (by omega)
  have hx : 3 - r + r = 3 := by omega
  have hz : ∀ X : List Pt, X.length = 3 → (3 - r) * 2 ≤ (List.take ((3 - r) * 2) (List.drop (r * 2) (flat X))).length := fun X hX => by
    rw [List.length_take, List.length_drop, flat_length, hX]
    omega
  refine ⟨h1, hk, by decide, by decide, R _ (by omega) (by omega), R _ (by omega) (by omega), trivial, rfl, trivial, by decide, trivial, trivial, R _ (by omega) (by omega), ?_⟩
  unfold shW at hc hq hl ⊢
  rcases hs : pickI bs l (p + 3) 2 == 0 with _ | _
  · rw [hs] at hc hq hl
    simp only [cond_false] at hc hq hl ⊢
    simp only [brT_f, Tree.ok]
    refine ⟨R _ (by omega) (by omega), by omega, by omega, by omega, by omega, by omega, by omega, hz _ hl, rfl, some 13, ⟨rfl, rfl, by rw [hx, hq]⟩, rfl, rfl, ?_⟩
    · rw [← hc]
      rfl
  · rw [hs] at hc hq hl
    simp only [cond_true] at hc hq hl ⊢
    simp only [brT_t, Tree.ok]
    refine ⟨by decide, by decide, R _ (by omega) (by omega), by omega, by omega, by omega, by omega, by omega, by omega, hz _ hl, rfl, some 14, ⟨rfl, rfl, by rw [hx, hq]⟩, rfl, rfl, ?_⟩
    · rw [← hc]
      rfl
/-- A drawn polygon's shape. -/
def shX (bs : List Int) (l : Nat) (p : Int) : List Pt := shV bs l p (pickI bs l p 6).toNat
def shpS : RSpecR := fun bs l p rest => match rest with
  | [] => some (rowL (shX bs l p), ⟨.row 25 2, .ints (flat (shX bs l p))⟩, p + 5, [rdC bs l p, p ≤ 900000])
  | _ => none
set_option maxRecDepth 100000 in
theorem shpS_ok : SpecROk Try.prog 40 shpS := by
  intro bs l c p rest v b p' C h hC
  unfold shpS at h
  split at h
  rotate_left
  · cases h
  obtain ⟨rfl, rfl, rfl, rfl⟩ : rowL (shX bs l p) = v ∧ (⟨.row 25 2, .ints (flat (shX bs l p))⟩ : Blk) = b ∧ p + 5 = p' ∧ [rdC bs l p, p ≤ 900000] = C := by simpa using h
  obtain ⟨h1, h2, _⟩ := hC
  have hb := pickI_bd (k := 6) h1 (by omega)
  obtain ⟨j, hj⟩ := Int.eq_ofNat_of_zero_le hb.1
  have hx : shX bs l p = shV bs l p j := by unfold shX; rw [hj]; rfl
  refine ⟨rfl, ESh j, 30, 12, ESh_ok j, ?_⟩
  rw [hx]
  rw [hj] at hb
  have hj6 : j < 6 := by omega
  have h06 : j = 0 ∨ j = 1 ∨ j = 2 ∨ j = 3 ∨ j = 4 ∨ j = 5 := by omega
  rcases h06 with rfl | rfl | rfl | rfl | rfl | rfl
  · have hj : pickI bs l p 6 = 0 := hj
    with_reducible exact sh_run0 h1 h2 hj
  · have hj : pickI bs l p 6 = 1 := hj
    with_reducible exact sh_run1 h1 h2 hj
  · have hj : pickI bs l p 6 = 2 := hj
    with_reducible exact sh_run2 h1 h2 hj
  · have hj : pickI bs l p 6 = 3 := hj
    with_reducible exact sh_run3 h1 h2 hj
  · have hj : pickI bs l p 6 = 4 := hj
    with_reducible exact sh_run4 h1 h2 hj
  · have hj : pickI bs l p 6 = 5 := hj
    with_reducible exact sh_run5 h1 h2 hj
theorem shX_len {bs : List Int} {l : Nat} {p : Int} (h1 : rdC bs l p) (h2 : p ≤ 900000) : 3 ≤ (shX bs l p).length ∧ (shX bs l p).length ≤ 8 := by
  have hb := pickI_bd (k := 6) h1 (by omega)
  have h0 := h1.2.2.1
  have key : ∀ j, j < 6 → 3 ≤ (shpK j).length ∧ (shpK j).length ≤ 8 := by decide
  have k := key (pickI bs l p 6).toNat (by omega)
  have R : rdC bs l (p + 4) := ⟨h1.1, h1.2.1, by omega, by omega, h1.2.2.2.2⟩
  have hr := pickI_bd (k := ((shpK (pickI bs l p 6).toNat).length : Int)) R (by omega)
  unfold shX shV
  rw [rotS_len (by rw [shW_len]; omega), shW_len]
  exact k
end Go.Proofs.Ytbhdhejefpdjfaa
namespace Go.Proofs.Ytbhdhejefpdjfaa
set_option linter.all false
open Go.RowKit
def TCh : Tab := orT T3 TOl
theorem TCh_ok : TabOk Try.prog TCh := orT_ok T3_ok TOl_ok
def ECh : Env := mkE TCh RSq (fun _ => noL)
theorem ECh_ok : EnvOk Try.prog ECh := mkEOk TCh_ok RSq_ok (fun _ _ _ => noL_good)
noncomputable def c_chS : Code := ((loopsOf (codeOf Try.f38))[1]?).getD .skip
def k_chS : Ex → List Nat := keeps [0, 3, 4] [(2, [0, 3, 4]), (1, [0, 3, 4]), (0, [3])] [2]
def s_chS (ps st : List Pt) (i : Nat) : Nat → St := fun j => ⟨(.slice (some ⟨0, 0, none⟩) ps.length ps.length :: topV :: topV :: .slice (some ⟨2, 0, none⟩) j j :: .int .i64 i :: topV :: topV :: topV :: topV :: topV :: topV :: topV :: topV :: topV :: topV :: topV :: topV :: topV :: topV :: topV :: topV :: topV :: topV :: topV :: topV :: topV :: topV :: topV :: topV :: topV :: topV :: topV :: topV :: topV :: topV :: topV :: topV :: topV :: topV :: topV :: topV :: topV :: topV :: topV :: topV :: topV :: topV :: topV :: []), [some ⟨.view, .ints (flat ps)⟩, some ⟨.dead, .vals []⟩, some ⟨.row 25 2, .ints (flat st)⟩]⟩
def re_chS : Nat → Ex := fun _ => .exit 2
def rs_chS (ps st : List Pt) (i : Nat) : Nat → St := fun j => ⟨(.slice (some ⟨0, 0, none⟩) ps.length ps.length :: topV :: topV :: .slice (some ⟨2, 0, none⟩) (popN st (ps.getD i (0, 0)) st.length) (popN st (ps.getD i (0, 0)) st.length) :: .int .i64 i :: topV :: topV :: topV :: topV :: topV :: topV :: topV :: topV :: topV :: topV :: topV :: topV :: topV :: topV :: topV :: topV :: topV :: topV :: topV :: topV :: topV :: topV :: topV :: topV :: topV :: topV :: topV :: topV :: topV :: topV :: topV :: topV :: topV :: topV :: topV :: topV :: topV :: topV :: topV :: topV :: topV :: topV :: topV :: []), [some ⟨.view, .ints (flat ps)⟩, some ⟨.dead, .vals []⟩, some ⟨.row 25 2, .ints (flat st)⟩]⟩
set_option maxRecDepth 100000 in
theorem tr_chS (ps st : List Pt) (i : Nat) (j : Nat) : bodyL Try.prog ECh 30 12 noL 2 c_chS k_chS 3 (s_chS ps st i j) = brT (decide (1 < (↑j : Int))) (.need (ptB ((flat st).getD ((0 : Nat) + (IntKind.i64.wrap ((↑j : Int) - (2 : Int))).toNat * (2 : Nat)) (0 : Int)) ((flat st).getD ((0 : Nat) + (IntKind.i64.wrap ((↑j : Int) - (2 : Int))).toNat * (2 : Nat) + (1 : Nat)) (0 : Int)) = true) (.need (ptB ((flat st).getD ((0 : Nat) + (IntKind.i64.wrap ((↑j : Int) - (1 : Int))).toNat * (2 : Nat)) (0 : Int)) ((flat st).getD ((0 : Nat) + (IntKind.i64.wrap ((↑j : Int) - (1 : Int))).toNat * (2 : Nat) + (1 : Nat)) (0 : Int)) = true) (.need (ptB ((flat ps).getD ((0 : Nat) + (↑i : Int).toNat * (2 : Nat)) (0 : Int)) ((flat ps).getD ((0 : Nat) + (↑i : Int).toNat * (2 : Nat) + (1 : Nat)) (0 : Int)) = true) (.need ((0 : Int) ≤ IntKind.i64.wrap ((↑j : Int) - (2 : Int)) ∧ IntKind.i64.wrap ((↑j : Int) - (2 : Int)) < (↑j : Int)) (.need ((0 : Nat) + (IntKind.i64.wrap ((↑j : Int) - (2 : Int))).toNat * (2 : Nat) + (2 : Nat) ≤ (flat st).length) (.need ((0 : Int) ≤ IntKind.i64.wrap ((↑j : Int) - (1 : Int)) ∧ IntKind.i64.wrap ((↑j : Int) - (1 : Int)) < (↑j : Int)) (.need ((0 : Nat) + (IntKind.i64.wrap ((↑j : Int) - (1 : Int))).toNat * (2 : Nat) + (2 : Nat) ≤ (flat st).length) (.need ((0 : Int) ≤ (↑i : Int) ∧ (↑i : Int) < (↑ps.length : Int)) (.need ((0 : Nat) + (↑i : Int).toNat * (2 : Nat) + (2 : Nat) ≤ (flat ps).length) (brT (decide (crossI ((flat st).getD (0 + (IntKind.i64.wrap ((↑j : Int) - 2)).toNat * 2) 0) ((flat st).getD (0 + (IntKind.i64.wrap ((↑j : Int) - 2)).toNat * 2 + 1) 0) ((flat st).getD (0 + (IntKind.i64.wrap ((↑j : Int) - 1)).toNat * 2) 0) ((flat st).getD (0 + (IntKind.i64.wrap ((↑j : Int) - 1)).toNat * 2 + 1) 0) ((flat ps).getD (0 + (↑i : Int).toNat * 2) 0) ((flat ps).getD (0 + (↑i : Int).toNat * 2 + 1) 0) ≤ 0)) (.need ((0 : Int) ≤ bndI none (0 : Int) ∧ bndI none (0 : Int) ≤ bndI (some (IntKind.i64, IntKind.i64.wrap ((↑j : Int) - (1 : Int)))) (↑j : Int) ∧ bndI (some (IntKind.i64, IntKind.i64.wrap ((↑j : Int) - (1 : Int)))) (↑j : Int) ≤ (↑j : Int)) (.leaf .normal ⟨(.slice (some ⟨0, 0, none⟩) (ps.length) (ps.length) :: topV :: topV :: .slice (some ⟨2, 0, none⟩) ((bndI (some (IntKind.i64, IntKind.i64.wrap ((↑j : Int) - 1))) (↑j : Int)).toNat - 0) ((bndI (some (IntKind.i64, IntKind.i64.wrap ((↑j : Int) - 1))) (↑j : Int)).toNat - 0) :: .int .i64 ((↑i : Int)) :: topV :: topV :: topV :: topV :: topV :: topV :: topV :: topV :: topV :: topV :: topV :: topV :: topV :: topV :: topV :: topV :: topV :: topV :: topV :: topV :: topV :: topV :: topV :: topV :: topV :: topV :: topV :: topV :: topV :: topV :: topV :: topV :: topV :: topV :: topV :: topV :: topV :: topV :: topV :: topV :: topV :: topV :: topV :: []), [some ⟨.view, .ints (flat ps)⟩, some deadB, some ⟨.row 25 2, .ints (flat st)⟩]⟩)) (.leaf (.exit 2) ⟨(.slice (some ⟨0, 0, none⟩) (ps.length) (ps.length) :: topV :: topV :: .slice (some ⟨2, 0, none⟩) (j) (j) :: .int .i64 ((↑i : Int)) :: topV :: topV :: topV :: topV :: topV :: topV :: topV :: topV :: topV :: topV :: topV :: topV :: topV :: topV :: topV :: topV :: topV :: topV :: topV :: topV :: topV :: topV :: topV :: topV :: topV :: topV :: topV :: topV :: topV :: topV :: topV :: topV :: topV :: topV :: topV :: topV :: topV :: topV :: topV :: topV :: topV :: topV :: topV :: []), [some ⟨.view, .ints (flat ps)⟩, some deadB, some ⟨.row 25 2, .ints (flat st)⟩]⟩))))))))))) (.leaf (.exit 2) ⟨(.slice (some ⟨0, 0, none⟩) (ps.length) (ps.length) :: topV :: topV :: .slice (some ⟨2, 0, none⟩) (j) (j) :: .int .i64 ((↑i : Int)) :: topV :: topV :: topV :: topV :: topV :: topV :: topV :: topV :: topV :: topV :: topV :: topV :: topV :: topV :: topV :: topV :: topV :: topV :: topV :: topV :: topV :: topV :: topV :: topV :: topV :: topV :: topV :: topV :: topV :: topV :: topV :: topV :: topV :: topV :: topV :: topV :: topV :: topV :: topV :: topV :: topV :: topV :: topV :: []), [some ⟨.view, .ints (flat ps)⟩, some deadB, some ⟨.row 25 2, .ints (flat st)⟩]⟩) := by kernel_rfl
set_option maxRecDepth 100000 in
theorem nl_chS : loopsOf c_chS = [] := by kernel_rfl
def inv_chS (ps st : List Pt) (i : Nat) : Nat → Prop := fun j => j ≤ st.length ∧ popN st (ps.getD i (0, 0)) j = popN st (ps.getD i (0, 0)) st.length
def me_chS (ps st : List Pt) (i : Nat) : Nat → Nat := fun j => j
/-- A round of this loop. -/
def Round_chS (ps st : List Pt) (i : Nat) : Prop := ∀ xx : Nat, inv_chS ps st i xx → (bodyL Try.prog ECh 30 12 noL 2 c_chS k_chS 3 (s_chS ps st i xx)).ok (RoundEnd 3 (s_chS ps st i) (inv_chS ps st i) (me_chS ps st i) re_chS (rs_chS ps st i) xx) (fun _ _ => False)
def e_chS (s : St) (k : Ex → St → Tree) : Option Tree := match Nat.beq s.tmps.length 48, pickL s.tmps [0, 3, 4], s.mem with
  | true, [.slice (some ⟨0, 0, none⟩) n _, .slice (some ⟨2, 0, none⟩) l _, .int .i64 ii], [some ⟨.view, .ints xs⟩, some ⟨.dead, .vals []⟩, some ⟨.row 25 2, .ints ys⟩] => some (needs [xs.length = n * 2, allV (ptsA n xs) = true, 0 ≤ ii, ii < n, ys.length = l * 2, allV (ptsA l ys) = true, l ≤ 1000] (k (.exit 2) ⟨(.slice (some ⟨0, 0, none⟩) n n :: topV :: topV :: .slice (some ⟨2, 0, none⟩) (popN (ptsA l ys) ((ptsA n xs).getD ii.toNat (0, 0)) l) (popN (ptsA l ys) ((ptsA n xs).getD ii.toNat (0, 0)) l) :: .int .i64 ii :: topV :: topV :: topV :: topV :: topV :: topV :: topV :: topV :: topV :: topV :: topV :: topV :: topV :: topV :: topV :: topV :: topV :: topV :: topV :: topV :: topV :: topV :: topV :: topV :: topV :: topV :: topV :: topV :: topV :: topV :: topV :: topV :: topV :: topV :: topV :: topV :: topV :: topV :: topV :: topV :: topV :: topV :: topV :: []), [some ⟨.view, .ints xs⟩, some ⟨.dead, .vals []⟩, some ⟨.row 25 2, .ints ys⟩]⟩))
  | _, _, _ => none
theorem popN_yes {st : List Pt} {p : Pt} {m : Nat} (h : crP (st.getD m (0, 0)) (st.getD (m + 1) (0, 0)) p ≤ 0) : popN st p (m + 2) = popN st p (m + 1) := by simp only [popN, h, if_true]
theorem popN_no {st : List Pt} {p : Pt} {m : Nat} (h : ¬ crP (st.getD m (0, 0)) (st.getD (m + 1) (0, 0)) p ≤ 0) : popN st p (m + 2) = m + 2 := by simp only [popN, h, if_false]
theorem popN_low {st : List Pt} {p : Pt} {j : Nat} (h : j < 2) : popN st p j = j := by
  match j, h with
  | 0, _ => rfl
  | 1, _ => rfl
set_option maxRecDepth 100000 in
theorem round_chS (ps st : List Pt) (i : Nat) (hv : allV st = true) (hp : allV ps = true) (h : st.length ≤ 1000) (hi : i < ps.length) : Round_chS ps st i := by
  rintro j ⟨h1, h2⟩
  rw [tr_chS]
  refine brT_ok.2 ⟨fun hlt => ?_, fun hge => ?_⟩
  · have hlt := of_decide_eq_true hlt
    obtain ⟨m, rfl⟩ : ∃ m, j = m + 2 := ⟨j - 2, by omega⟩
    have w1 : IntKind.i64.wrap (((m + 2 : Nat) : Int) - 2) = (m : Int) := by rw [wr (by omega)]; omega
    have w2 : IntKind.i64.wrap (((m + 2 : Nat) : Int) - 1) = ((m + 1 : Nat) : Int) := by rw [wr (by omega)]; omega
    simp only [w1, w2, bnd_some, bnd_none, Int.toNat_natCast, flat_get0, flat_get1, flat_length, Nat.zero_add, Nat.sub_zero]
    refine ⟨allV_at hv (by omega), allV_at hv (by omega), allV_at hp hi, by omega, by omega, by omega, by omega, by omega, by omega, brT_ok.2 ⟨fun q => ⟨by omega, ?_⟩, fun q => ?_⟩⟩
    · have e := popN_yes (st := st) (p := ps.getD i (0, 0)) (m := m) (of_decide_eq_true q)
      refine ⟨m + 1, [], ⟨by omega, by rw [← e]; exact h2⟩, ?_, rfl, by simp only [rs_chS], ?_⟩
      · show m + 1 < m + 2; omega
      · repeat' (first | exact True.intro | exact rfl | exact fun _ => rfl | (simp; done) | refine And.intro ?_ ?_)
    · have e := popN_no (st := st) (p := ps.getD i (0, 0)) (m := m) (of_decide_eq_false q)
      refine ⟨rfl, [], ?_⟩
      simp only [rs_chS, ← h2, e]
      repeat' (first | exact True.intro | exact rfl | exact fun _ => rfl | (simp; done) | refine And.intro ?_ ?_)
  · have hge := of_decide_eq_false hge
    have e := popN_low (st := st) (p := ps.getD i (0, 0)) (j := j) (by omega)
    refine ⟨rfl, [], ?_⟩
    simp only [rs_chS, ← h2, e]
    repeat' (first | exact True.intro | exact rfl | exact fun _ => rfl | (simp; done) | refine And.intro ?_ ?_)
set_option maxRecDepth 100000 in
theorem lg_chS : LoopE Try.prog e_chS c_chS := by
  intro s k t F H hlt ht
  unfold e_chS at hlt
  split at hlt
  rotate_left
  · cases hlt
  rename_i hlen hpick hmem
  obtain ⟨tmps, mem⟩ := s
  simp only at hlen hpick hmem
  subst hmem
  obtain rfl := Option.some.inj hlt
  obtain ⟨⟨h0, h5, h6, h7, h1, h2, h4, _⟩, ht2⟩ := needs_ok ht
  clear ht hlt
  obtain ⟨st, rfl, rfl⟩ := even_flat h1
  obtain ⟨ps, rfl, rfl⟩ := even_flat h0
  obtain ⟨i, rfl⟩ := Int.eq_ofNat_of_zero_le h6
  rw [ptsA_flat] at ht2 h2 h5
  simp only [ptsA_flat, Int.toNat_natCast] at ht2
  refine ⟨_, _, ht2, loop_run mixed ECh_ok (s_chS ps st i) (inv_chS ps st i) (me_chS ps st i) re_chS (rs_chS ps st i) k_chS (fun _ => rfl) (noLoops nl_chS) (round_chS ps st i h2 h5 h4 (by omega)) (x := st.length) ⟨Nat.le_refl _, rfl⟩ (π := []) rfl ?_⟩
  refine ⟨rfl, rfl, ?_, wvs_spread' [0, 3, 4] hlen rfl ?_⟩
  · repeat' (first | exact True.intro | exact rfl | exact wv_top _ _ | exact fun _ => rfl | assumption | exact Eq.symm (by assumption) | exact vI0 rfl | refine And.intro ?_ ?_)
  · rw [hpick]
    repeat' (first | exact True.intro | exact rfl | exact wv_top _ _ | exact fun _ => rfl | assumption | exact Eq.symm (by assumption) | exact vI0 rfl | refine And.intro ?_ ?_)
def ltCs : LT := fun j s k => match j with
  | 1 => e_chS s k
  | _ => none
noncomputable def c_chP : Code := ((loopsOf (codeOf Try.f38))[0]?).getD .skip
def k_chP : Ex → List Nat := keeps [0, 3, 4] [(0, [3])] [2]
def s_chP (ps : List Pt) : Nat × (List Pt) → St := fun (i, st) => ⟨(.slice (some ⟨0, 0, none⟩) ps.length ps.length :: topV :: topV :: .slice (some ⟨2, 0, none⟩) st.length st.length :: .int .i64 i :: topV :: topV :: topV :: topV :: topV :: topV :: topV :: topV :: topV :: topV :: topV :: topV :: topV :: topV :: topV :: topV :: topV :: topV :: topV :: topV :: topV :: topV :: topV :: topV :: topV :: topV :: topV :: topV :: topV :: topV :: topV :: topV :: topV :: topV :: topV :: topV :: topV :: topV :: topV :: topV :: topV :: topV :: topV :: []), [some ⟨.view, .ints (flat ps)⟩, some ⟨.dead, .vals []⟩, some ⟨.row 25 2, .ints (flat st)⟩]⟩
def re_chP : Nat × (List Pt) → Ex := fun _ => .exit 0
def rs_chP (ps : List Pt) : Nat × (List Pt) → St := fun (i, st) => ⟨(topV :: topV :: topV :: .slice (some ⟨2, 0, none⟩) (chn st (ps.drop i)).length (chn st (ps.drop i)).length :: topV :: topV :: topV :: topV :: topV :: topV :: topV :: topV :: topV :: topV :: topV :: topV :: topV :: topV :: topV :: topV :: topV :: topV :: topV :: topV :: topV :: topV :: topV :: topV :: topV :: topV :: topV :: topV :: topV :: topV :: topV :: topV :: topV :: topV :: topV :: topV :: topV :: topV :: topV :: topV :: topV :: topV :: topV :: topV :: []), [some ⟨.view, .ints (flat ps)⟩, some ⟨.dead, .vals []⟩, some ⟨.row 25 2, .ints (flat (chn st (ps.drop i)))⟩]⟩
set_option maxRecDepth 100000 in
theorem tr_chP (ps : List Pt) (i : Nat) (st : List Pt) : bodyL Try.prog ECh 30 12 ltCs 1 c_chP k_chP 16 (s_chP ps (i, st)) = brT (decide ((↑i : Int) < (↑ps.length : Int))) (.need ((flat ps).length = ps.length * (2 : Nat)) (.need (allV (ptsA ps.length (flat ps)) = true) (.need ((0 : Int) ≤ (↑i : Int)) (.need ((↑i : Int) < (↑ps.length : Int)) (.need ((flat st).length = st.length * (2 : Nat)) (.need (allV (ptsA st.length (flat st)) = true) (.need (st.length ≤ (1000 : Nat)) (.need ((0 : Int) ≤ (↑i : Int) ∧ (↑i : Int) < (↑ps.length : Int)) (.need ((0 : Nat) + (↑i : Int).toNat * (2 : Nat) + (2 : Nat) ≤ (flat ps).length) (.need ((popN (ptsA st.length (flat st)) ((ptsA ps.length (flat ps)).getD (↑i : Int).toNat ((0 : Int), (0 : Int))) st.length + (1 : Nat)) * (16 : Nat) ≤ (140737488355328 : Nat) ∧ popN (ptsA st.length (flat st)) ((ptsA ps.length (flat ps)).getD (↑i : Int).toNat ((0 : Int), (0 : Int))) st.length + (1 : Nat) ≤ (2000000 : Nat)) (.need ((0 : Nat) + popN (ptsA st.length (flat st)) ((ptsA ps.length (flat ps)).getD (↑i : Int).toNat ((0 : Int), (0 : Int))) st.length * (2 : Nat) ≤ (flat st).length) (.leaf .normal ⟨(.slice (some ⟨0, 0, none⟩) (ps.length) (ps.length) :: topV :: topV :: .slice (some ⟨4, 0, none⟩) (popN (ptsA st.length (flat st)) ((ptsA ps.length (flat ps)).getD (↑i : Int).toNat (0, 0)) st.length + 1) (popN (ptsA st.length (flat st)) ((ptsA ps.length (flat ps)).getD (↑i : Int).toNat (0, 0)) st.length + 1) :: .int .i64 (IntKind.i64.wrap ((↑i : Int) + 1)) :: topV :: topV :: topV :: topV :: topV :: topV :: topV :: topV :: topV :: topV :: topV :: topV :: topV :: topV :: topV :: topV :: topV :: topV :: topV :: topV :: topV :: topV :: topV :: topV :: topV :: topV :: topV :: topV :: topV :: topV :: topV :: topV :: topV :: topV :: topV :: topV :: topV :: topV :: topV :: topV :: topV :: topV :: topV :: []), [some ⟨.view, .ints (flat ps)⟩, some deadB, some deadB, some ⟨.row 25 2, .vals [.int .i64 ((flat ps).getD (0 + (↑i : Int).toNat * 2) 0), .int .i64 ((flat ps).getD (0 + (↑i : Int).toNat * 2 + 1) 0)]⟩, some ⟨.row 25 2, .ints (List.take (popN (ptsA st.length (flat st)) ((ptsA ps.length (flat ps)).getD (↑i : Int).toNat (0, 0)) st.length * 2) (List.drop 0 (flat st)) ++ [(flat ps).getD (0 + (↑i : Int).toNat * 2) 0, (flat ps).getD (0 + (↑i : Int).toNat * 2 + 1) 0])⟩]⟩)))))))))))) (.leaf (.exit 0) ⟨(topV :: topV :: topV :: .slice (some ⟨2, 0, none⟩) (st.length) (st.length) :: topV :: topV :: topV :: topV :: topV :: topV :: topV :: topV :: topV :: topV :: topV :: topV :: topV :: topV :: topV :: topV :: topV :: topV :: topV :: topV :: topV :: topV :: topV :: topV :: topV :: topV :: topV :: topV :: topV :: topV :: topV :: topV :: topV :: topV :: topV :: topV :: topV :: topV :: topV :: topV :: topV :: topV :: topV :: topV :: []), [some ⟨.view, .ints (flat ps)⟩, some deadB, some ⟨.row 25 2, .ints (flat st)⟩]⟩) := by kernel_rfl
def inv_chP (ps : List Pt) : Nat × (List Pt) → Prop := fun (i, st) => i ≤ ps.length ∧ st.length ≤ i ∧ allV st = true
def me_chP (ps : List Pt) : Nat × (List Pt) → Nat := fun (i, st) => ps.length - i
/-- A round of this loop. -/
def Round_chP (ps : List Pt) : Prop := ∀ xx : Nat × (List Pt), inv_chP ps xx → (bodyL Try.prog ECh 30 12 ltCs 1 c_chP k_chP 16 (s_chP ps xx)).ok (RoundEnd 2 (s_chP ps) (inv_chP ps) (me_chP ps) re_chP (rs_chP ps) xx) (fun _ _ => False)
def e_chP (s : St) (k : Ex → St → Tree) : Option Tree := match Nat.beq s.tmps.length 48, pickL s.tmps [0, 3, 4], s.mem with
  | true, [.slice (some ⟨0, 0, none⟩) n _, .slice (some ⟨1, 0, none⟩) z _, .int .i64 i], [some ⟨.view, .ints xs⟩, some ⟨.row 25 2, .vals []⟩] => some (needs [i = 0, z = 0, xs.length = n * 2, allV (ptsA n xs) = true, n ≤ 1000] (k (.exit 0) ⟨(topV :: topV :: topV :: .slice (some ⟨2, 0, none⟩) (chn [] (ptsA n xs)).length (chn [] (ptsA n xs)).length :: topV :: topV :: topV :: topV :: topV :: topV :: topV :: topV :: topV :: topV :: topV :: topV :: topV :: topV :: topV :: topV :: topV :: topV :: topV :: topV :: topV :: topV :: topV :: topV :: topV :: topV :: topV :: topV :: topV :: topV :: topV :: topV :: topV :: topV :: topV :: topV :: topV :: topV :: topV :: topV :: topV :: topV :: topV :: topV :: []), [some ⟨.view, .ints xs⟩, some ⟨.dead, .vals []⟩, some ⟨.row 25 2, .ints (flat (chn [] (ptsA n xs)))⟩]⟩))
  | _, _, _ => none
set_option maxRecDepth 100000 in
theorem in_chP : loopsOf c_chP = [c_chS] := by kernel_rfl
theorem ltCs_good : LoopsGood Try.prog ltCs 1 c_chP := by
  intro i d hd s k t F H hlt ht
  rw [in_chP] at hd
  cases i with
  | zero =>
    obtain rfl : c_chS = d := by simpa using hd
    exact lg_chS s k t F H hlt ht
  | succ i => simp at hd
theorem chn_step {ps st : List Pt} {i : Nat} (hi : i < ps.length) : chn st (ps.drop i) = chn (pushP st (ps.getD i (0, 0))) (ps.drop (i + 1)) := by rw [drop_cons hi (0, 0)]; rfl
theorem chn_end {ps st : List Pt} {i : Nat} (hi : ps.length ≤ i) : chn st (ps.drop i) = st := by rw [List.drop_of_length_le hi]; rfl
set_option maxRecDepth 100000 in
theorem round_chP (ps : List Pt) (hp : allV ps = true) (h : ps.length ≤ 1000) : Round_chP ps := by
  rintro ⟨i, st⟩ ⟨h1, h2, h3⟩
  rw [tr_chP]
  simp only [ptsA_flat, Int.toNat_natCast, Nat.zero_add, flat_get0, flat_get1, flat_length, List.drop_zero, flat_take, flat_snoc]
  refine brT_ok.2 ⟨fun hlt => ?_, fun hge => ?_⟩
  · have hi : i < ps.length := by have := of_decide_eq_true hlt; omega
    have hk : popN st (ps.getD i (0, 0)) st.length ≤ st.length := popN_le st _ _
    have el : popN st (ps.getD i (0, 0)) st.length + 1 = (pushP st (ps.getD i (0, 0))).length := (pushP_len1 st _).symm
    refine ⟨by first | exact True.intro | rfl, hp, by omega, by omega, by first | exact True.intro | rfl, h3, by omega, by omega, by omega, ⟨by omega, by omega⟩, by omega, ?_⟩
    rw [wsucc hi (by omega), el]
    refine ⟨(i + 1, pushP st (ps.getD i (0, 0))), [some 4], ⟨by omega, by omega, allV_push h3 (allV_at hp hi)⟩, ?_, rfl, by simp only [rs_chP, chn_step hi], ?_⟩
    · show ps.length - (i + 1) < ps.length - i; omega
    · repeat' (first | exact True.intro | exact rfl | exact fun _ => rfl | (simp; done) | refine And.intro ?_ ?_)
  · have hge := of_decide_eq_false hge
    refine ⟨rfl, [some 2], ?_⟩
    simp only [rs_chP, chn_end (ps := ps) (st := st) (i := i) (by omega)]
    repeat' (first | exact True.intro | exact rfl | exact fun _ => rfl | (simp; done) | refine And.intro ?_ ?_)
set_option maxRecDepth 100000 in
theorem lg_chP : LoopE Try.prog e_chP c_chP := by
  intro s k t F H hlt ht
  unfold e_chP at hlt
  split at hlt
  rotate_left
  · cases hlt
  rename_i hlen hpick hmem
  obtain ⟨tmps, mem⟩ := s
  simp only at hlen hpick hmem
  subst hmem
  obtain rfl := Option.some.inj hlt
  obtain ⟨⟨rfl, rfl, h1, h2, h3, _⟩, ht2⟩ := needs_ok ht
  clear ht hlt
  obtain ⟨ps, rfl, rfl⟩ := even_flat h1
  rw [ptsA_flat] at ht2 h2
  refine ⟨_, _, ht2, loop_run2 mixed ECh_ok (s_chP ps) (inv_chP ps) (me_chP ps) re_chP (rs_chP ps) k_chP (fun _ => rfl) ltCs_good (round_chP ps h2 h3) (x := (0, [])) ⟨Nat.zero_le _, Nat.le_refl _, rfl⟩ (π := [some 1]) rfl ?_⟩
  refine ⟨rfl, rfl, ?_, wvs_spread' [0, 3, 4] hlen rfl ?_⟩
  · repeat' (first | exact True.intro | exact rfl | exact wv_top _ _ | exact fun _ => rfl | assumption | exact Eq.symm (by assumption) | exact vI0 rfl | refine And.intro ?_ ?_)
  · rw [hpick]
    repeat' (first | exact True.intro | exact rfl | exact wv_top _ _ | exact fun _ => rfl | assumption | exact Eq.symm (by assumption) | exact vI0 rfl | refine And.intro ?_ ?_)
theorem Lr_chP {fn : Func} (hf : Try.prog.funcs[38]? = some fn) : LoopsGood Try.prog (lt1 e_chP) 0 (codeOf fn) := by
  obtain rfl := fn_is Try.func38 hf
  exact lt1_good lg_chP
def LCn : FuncId → LT := fun f => match f with
  | 38 => lt1 e_chP
  | _ => noL
def ECn : Env := mkE TCh RSq LCn
theorem ECn_ok : EnvOk Try.prog ECn := mkEOk TCh_ok RSq_ok (by
  intro f fn hf
  unfold LCn
  split
  all_goals first | with_reducible exact Lr_chO hf | with_reducible exact Lr_chP hf | exact noL_good)
set_option maxRecDepth 100000 in
theorem tr_sCn (ps : List Pt) : bodyX Try.prog ECn 30 12 38 [.row ps.length (.ints (flat ps))] = .need ((0 : Int) = (0 : Int)) (.need ((0 : Nat) = (0 : Nat)) (.need ((flat ps).length = ps.length * (2 : Nat)) (.need (allV (ptsA ps.length (flat ps)) = true) (.need (ps.length ≤ (1000 : Nat)) (.fin (.slice (some ⟨2, 0, none⟩) ((chn [] (ptsA ps.length (flat ps))).length) ((chn [] (ptsA ps.length (flat ps))).length)) [some ⟨.view, .ints (flat ps)⟩, some deadB, some ⟨.row 25 2, .ints (flat (chn [] (ptsA ps.length (flat ps))))⟩]))))) := by kernel_rfl
theorem resR_sCn {ps : List Pt} (hv : allV ps = true) (h : ps.length ≤ 1000) : ResR Try.prog 38 [.row ps.length (.ints (flat ps))] (rowP (chn [] ps)) (blkP (chn [] ps)) := by
  refine bodyX_resR mixed ECn_ok (m := 30) (n := 12) rfl ?_
  rw [tr_sCn]
  simp only [ptsA_flat]
  exact ⟨trivial, trivial, flat_length ps, hv, h, some 2, ⟨rfl, rfl, rfl⟩, rfl, rfl, rfl⟩
end Go.Proofs.Ytbhdhejefpdjfaa
namespace Go.Proofs.Ytbhdhejefpdjfaa
set_option linter.all false
open Go.RowKit
def RHu : TabR := fun f ds => match f, ds with
  | 38, [.row m (.ints xs)] => some (rowP (chn [] (ptsA m xs)), blkP (chn [] (ptsA m xs)), [m * 2 ≤ xs.length, allV (ptsA m xs) = true, m ≤ 1000])
  | 39, [.row m (.ints xs)] => some (rowP (revP (ptsA m xs)), blkP (revP (ptsA m xs)), [m * 2 ≤ xs.length, m ≤ 100000])
  | f, ds => RSq f ds
theorem RHu_ok : TabROk Try.prog RHu := by
  intro f ds v b C h hC
  unfold RHu at h
  (try split at h)
  all_goals first
    | (obtain ⟨rfl, rfl, rfl⟩ : _ ∧ _ ∧ _ := by simpa using h
       obtain ⟨_, h2⟩ := ptsA_spec hC.1
       have h1 := resR_pts1 (pre := []) (post := []) hC.1 (resR_iCn hC.2.1 (by rw [h2]; exact hC.2.2.1))
       simp only [List.nil_append, List.append_nil] at h1
       with_reducible exact h1)
    | (obtain ⟨rfl, rfl, rfl⟩ : _ ∧ _ ∧ _ := by simpa using h
       obtain ⟨_, h2⟩ := ptsA_spec hC.1
       have h1 := resR_pts1 (pre := []) (post := []) hC.1 (resR_sCn hC.2.1 (by rw [h2]; exact hC.2.2.1))
       simp only [List.nil_append, List.append_nil] at h1
       with_reducible exact h1)
    | (obtain ⟨rfl, rfl, rfl⟩ : _ ∧ _ ∧ _ := by simpa using h
       obtain ⟨_, h2⟩ := ptsA_spec hC.1
       have h1 := resR_pts1 (pre := []) (post := []) hC.1 (resR_rvd (by rw [h2]; exact hC.2.1))
       simp only [List.nil_append, List.append_nil] at h1
       with_reducible exact h1)
    | exact RSq_ok _ _ _ _ _ h hC
def EHvs : Env := mkE T3 RHu (fun _ => noL)
theorem EHvs_ok : EnvOk Try.prog EHvs := mkEOk T3_ok RHu_ok (fun _ _ _ => noL_good)
abbrev zsHu_0 (ps : List Pt) := (ptsA (srtL (ptsA ps.length (List.drop (0 : Nat) (flat ps)))).length (List.drop (0 : Nat) (flat (srtL (ptsA ps.length (List.drop (0 : Nat) (flat ps)))))))
abbrev zsHu_1 (ps : List Pt) := (chn [] (ptsA (revP (ptsA (srtL (ptsA ps.length (List.drop 0 (flat ps)))).length (List.drop 0 (flat (srtL (ptsA ps.length (List.drop 0 (flat ps)))))))).length (List.drop 0 (flat (revP (ptsA (srtL (ptsA ps.length (List.drop 0 (flat ps)))).length (List.drop 0 (flat (srtL (ptsA ps.length (List.drop 0 (flat ps))))))))))))
abbrev zsHu_2 (ps : List Pt) := (chn [] (ptsA (revP (zsHu_0 ps)).length (List.drop (0 : Nat) (flat (revP (zsHu_0 ps))))))
abbrev zsHu_3 (ps : List Pt) := (ptsA (srtL (ptsA ps.length (List.drop 0 (flat ps)))).length (List.drop 0 (flat (srtL (ptsA ps.length (List.drop 0 (flat ps)))))))
abbrev zsHu_4 (ps : List Pt) := (bndI (some (IntKind.i64, IntKind.i64.wrap ((↑(zsHu_2 ps).length : Int) - (1 : Int)))) (↑(zsHu_2 ps).length : Int))
abbrev zsHu_5 (ps : List Pt) := (bndI (some (IntKind.i64, IntKind.i64.wrap ((↑(zsHu_1 ps).length : Int) - 1))) (↑(zsHu_1 ps).length : Int))
set_option maxRecDepth 100000 in
theorem tr_sHu (ps : List Pt) : bodyX Try.prog EHvs 30 12 23 [.row ps.length (.ints (flat ps))] = .need (ps.length * (2 : Nat) ≤ (List.drop (0 : Nat) (flat ps)).length) (.need (ps.length ≤ (1000 : Nat)) (brT (decide ((↑(srtL (ptsA ps.length (List.drop 0 (flat ps)))).length : Int) < 3)) (.fin (.slice (some ⟨1, 0, none⟩) ((srtL (ptsA ps.length (List.drop 0 (flat ps)))).length) ((srtL (ptsA ps.length (List.drop 0 (flat ps)))).length)) [some ⟨.view, .ints (flat ps)⟩, some ⟨.row 25 2, .ints (flat (srtL (ptsA ps.length (List.drop 0 (flat ps)))))⟩]) (.need ((srtL (ptsA ps.length (List.drop (0 : Nat) (flat ps)))).length * (2 : Nat) ≤ (List.drop (0 : Nat) (flat (srtL (ptsA ps.length (List.drop (0 : Nat) (flat ps)))))).length) (.need (allV (zsHu_0 ps) = true) (.need ((srtL (ptsA ps.length (List.drop (0 : Nat) (flat ps)))).length ≤ (1000 : Nat)) (.need ((srtL (ptsA ps.length (List.drop (0 : Nat) (flat ps)))).length * (2 : Nat) ≤ (List.drop (0 : Nat) (flat (srtL (ptsA ps.length (List.drop (0 : Nat) (flat ps)))))).length) (.need ((srtL (ptsA ps.length (List.drop (0 : Nat) (flat ps)))).length ≤ (100000 : Nat)) (.need ((revP (zsHu_0 ps)).length * (2 : Nat) ≤ (List.drop (0 : Nat) (flat (revP (zsHu_0 ps)))).length) (.need (allV (ptsA (revP (zsHu_0 ps)).length (List.drop (0 : Nat) (flat (revP (zsHu_0 ps))))) = true) (.need ((revP (zsHu_0 ps)).length ≤ (1000 : Nat)) (.need ((0 : Int) ≤ bndI none (0 : Int) ∧ bndI none (0 : Int) ≤ bndI (some (IntKind.i64, IntKind.i64.wrap ((↑(chn [] (zsHu_0 ps)).length : Int) - (1 : Int)))) (↑(chn [] (zsHu_0 ps)).length : Int) ∧ bndI (some (IntKind.i64, IntKind.i64.wrap ((↑(chn [] (zsHu_0 ps)).length : Int) - (1 : Int)))) (↑(chn [] (zsHu_0 ps)).length : Int) ≤ (↑(chn [] (zsHu_0 ps)).length : Int)) (.need ((0 : Int) ≤ bndI none (0 : Int) ∧ bndI none (0 : Int) ≤ bndI (some (IntKind.i64, IntKind.i64.wrap ((↑(zsHu_2 ps).length : Int) - (1 : Int)))) (↑(zsHu_2 ps).length : Int) ∧ bndI (some (IntKind.i64, IntKind.i64.wrap ((↑(zsHu_2 ps).length : Int) - (1 : Int)))) (↑(zsHu_2 ps).length : Int) ≤ (↑(zsHu_2 ps).length : Int)) (.need (((bndI (some (IntKind.i64, IntKind.i64.wrap ((↑(chn [] (zsHu_0 ps)).length : Int) - (1 : Int)))) (↑(chn [] (zsHu_0 ps)).length : Int)).toNat - (0 : Nat) + ((zsHu_4 ps).toNat - (bndI none (0 : Int)).toNat, Cs.ints (List.take (((zsHu_4 ps).toNat - (bndI none (0 : Int)).toNat) * Try.prog.types[(25 : Nat)].size) (List.drop ((0 : Nat) + (bndI none (0 : Int)).toNat * Try.prog.types[(25 : Nat)].size) (flat (zsHu_2 ps)))), [(0 : Nat) + (bndI none (0 : Int)).toNat * Try.prog.types[(25 : Nat)].size + ((zsHu_4 ps).toNat - (bndI none (0 : Int)).toNat) * Try.prog.types[(25 : Nat)].size ≤ (flat (zsHu_2 ps)).length]).fst) * (16 : Nat) ≤ (140737488355328 : Nat) ∧ (bndI (some (IntKind.i64, IntKind.i64.wrap ((↑(chn [] (zsHu_0 ps)).length : Int) - (1 : Int)))) (↑(chn [] (zsHu_0 ps)).length : Int)).toNat - (0 : Nat) + ((zsHu_4 ps).toNat - (bndI none (0 : Int)).toNat, Cs.ints (List.take (((zsHu_4 ps).toNat - (bndI none (0 : Int)).toNat) * Try.prog.types[(25 : Nat)].size) (List.drop ((0 : Nat) + (bndI none (0 : Int)).toNat * Try.prog.types[(25 : Nat)].size) (flat (zsHu_2 ps)))), [(0 : Nat) + (bndI none (0 : Int)).toNat * Try.prog.types[(25 : Nat)].size + ((zsHu_4 ps).toNat - (bndI none (0 : Int)).toNat) * Try.prog.types[(25 : Nat)].size ≤ (flat (zsHu_2 ps)).length]).fst ≤ (2000000 : Nat)) (.need ((0 : Nat) + ((zsHu_4 ps).toNat - (0 : Nat)) * (2 : Nat) ≤ (flat (zsHu_2 ps)).length) (.need ((0 : Nat) + ((bndI (some (IntKind.i64, IntKind.i64.wrap ((↑(chn [] (zsHu_0 ps)).length : Int) - (1 : Int)))) (↑(chn [] (zsHu_0 ps)).length : Int)).toNat - (0 : Nat)) * (2 : Nat) ≤ (flat (chn [] (zsHu_0 ps))).length) (.fin (.slice (some ⟨5, 0, none⟩) ((bndI (some (IntKind.i64, IntKind.i64.wrap ((↑(chn [] (zsHu_3 ps)).length : Int) - 1))) (↑(chn [] (zsHu_3 ps)).length : Int)).toNat - 0 + ((zsHu_5 ps).toNat - (bndI none 0).toNat, Cs.ints (List.take (((zsHu_5 ps).toNat - (bndI none 0).toNat) * Try.prog.types[25].size) (List.drop (0 + (bndI none 0).toNat * Try.prog.types[25].size) (flat (zsHu_1 ps)))), [0 + (bndI none 0).toNat * Try.prog.types[25].size + ((zsHu_5 ps).toNat - (bndI none 0).toNat) * Try.prog.types[25].size ≤ (flat (zsHu_1 ps)).length]).fst) ((bndI (some (IntKind.i64, IntKind.i64.wrap ((↑(chn [] (zsHu_3 ps)).length : Int) - 1))) (↑(chn [] (zsHu_3 ps)).length : Int)).toNat - 0 + ((zsHu_5 ps).toNat - (bndI none 0).toNat, Cs.ints (List.take (((zsHu_5 ps).toNat - (bndI none 0).toNat) * Try.prog.types[25].size) (List.drop (0 + (bndI none 0).toNat * Try.prog.types[25].size) (flat (zsHu_1 ps)))), [0 + (bndI none 0).toNat * Try.prog.types[25].size + ((zsHu_5 ps).toNat - (bndI none 0).toNat) * Try.prog.types[25].size ≤ (flat (zsHu_1 ps)).length]).fst)) [some ⟨.view, .ints (flat ps)⟩, some ⟨.row 25 2, .ints (flat (srtL (ptsA ps.length (List.drop 0 (flat ps)))))⟩, some deadB, some ⟨.row 25 2, .ints (flat (revP (zsHu_3 ps)))⟩, some ⟨.row 25 2, .ints (flat (zsHu_1 ps))⟩, some ⟨.row 25 2, .ints (List.take (((bndI (some (IntKind.i64, IntKind.i64.wrap ((↑(chn [] (zsHu_3 ps)).length : Int) - 1))) (↑(chn [] (zsHu_3 ps)).length : Int)).toNat - 0) * 2) (List.drop 0 (flat (chn [] (zsHu_3 ps)))) ++ List.take (((zsHu_5 ps).toNat - 0) * 2) (List.drop 0 (flat (zsHu_1 ps))))⟩])))))))))))))))) := by kernel_rfl
theorem allV_srt {ps : List Pt} (h : allV ps = true) : allV (srtL ps) = true := List.all_eq_true.2 fun z hz => List.all_eq_true.1 h z ((srtL_mem ps z).1 hz)
theorem srtL_le (ps : List Pt) : (srtL ps).length ≤ ps.length := by
  have := srtO_le ps []
  simpa [srtL] using this
theorem resR_sHu {ps : List Pt} (hv : allV ps = true) (h : ps.length ≤ 1000) : ResR Try.prog 23 [.row ps.length (.ints (flat ps))] (rowP (hulL (srtL ps))) (blkP (hulL (srtL ps))) := by
  refine bodyX_resR mixed EHvs_ok (m := 30) (n := 12) rfl ?_
  rw [tr_sHu]
  try delta zB2 zB4 zR2 zI zsHu_0 zsHu_1 zsHu_2 zsHu_3 zsHu_4 zsHu_5
  have hs := allV_srt hv
  have hle := srtL_le ps
  simp only [List.drop_zero, ptsA_flat, flat_length, bnd_some, bnd_none, Int.toNat_zero, Nat.sub_zero, Nat.zero_mul, Nat.zero_add, Nat.add_zero]
  generalize srtL ps = s at *
  have c1 := chn_len s []
  have c2 := chn_len (revP s) []
  have r1 := revP_len s
  simp only [List.length_nil, Nat.zero_add] at c1 c2
  refine ⟨by omega, by omega, brT_ok.2 ⟨fun q => ?_, fun q => ?_⟩⟩
  · have q := of_decide_eq_true q
    have e : hulL s = s := by unfold hulL; rw [if_pos (by omega)]
    rw [e]
    exact ⟨some 1, ⟨rfl, rfl, rfl⟩, rfl, rfl, rfl⟩
  · have q := of_decide_eq_false q
    have p1 := chn_pos (ps := s) (st := []) (.inr (by omega))
    have p2 := chn_pos (ps := revP s) (st := []) (.inr (by omega))
    have hr := allV_rev hs
    have e : hulL s = (chn [] s).take ((chn [] s).length - 1) ++ (chn [] (revP s)).take ((chn [] (revP s)).length - 1) := by unfold hulL; rw [if_neg (by omega)]
    rw [e]
    have hr2 := r1
    generalize revP s = t at *
    generalize chn [] s = u at *
    generalize chn [] t = v at *
    have w1 : IntKind.i64.wrap ((u.length : Int) - 1) = ((u.length - 1 : Nat) : Int) := by rw [wr (by omega)]; omega
    have w2 : IntKind.i64.wrap ((v.length : Int) - 1) = ((v.length - 1 : Nat) : Int) := by rw [wr (by omega)]; omega
    simp only [w1, w2, Int.toNat_natCast]
    simp only [flat_take, ← flat_append]
    have hl : (u.take (u.length - 1) ++ v.take (v.length - 1)).length = u.length - 1 + (v.length - 1) := by simp
    refine ⟨by omega, hs, by omega, by omega, by omega, by omega, hr, by omega, ⟨by omega, by omega, by omega⟩, ⟨by omega, by omega, by omega⟩, ⟨by omega, by omega⟩, by omega, by omega, some 5, ⟨rfl, rfl, hl.symm⟩, rfl, rfl, rfl⟩
def RHv : TabR := fun f ds => match f, ds with
  | 23, [.row m (.ints xs)] => some (rowP (hulL (srtL (ptsA m xs))), blkP (hulL (srtL (ptsA m xs))), [m * 2 ≤ xs.length, allV (ptsA m xs) = true, m ≤ 1000])
  | f, ds => RSq f ds
theorem RHv_ok : TabROk Try.prog RHv := by
  intro f ds v b C h hC
  unfold RHv at h
  (try split at h)
  all_goals first
    | (obtain ⟨rfl, rfl, rfl⟩ : _ ∧ _ ∧ _ := by simpa using h
       obtain ⟨_, h2⟩ := ptsA_spec hC.1
       have h1 := resR_pts1 (pre := []) (post := []) hC.1 (resR_sHu hC.2.1 (by rw [h2]; exact hC.2.2.1))
       simp only [List.nil_append, List.append_nil] at h1
       with_reducible exact h1)
    | (obtain ⟨rfl, rfl, rfl⟩ : _ ∧ _ ∧ _ := by simpa using h
       obtain ⟨_, h2⟩ := ptsA_spec hC.1
       have h1 := resR_pts1 (pre := []) (post := []) hC.1 (resR_iHu _ (by unfold Big; rw [h2]; exact hC.2.1))
       simp only [List.nil_append, List.append_nil] at h1
       with_reducible exact h1)
    | exact RSq_ok _ _ _ _ _ h hC
end Go.Proofs.Ytbhdhejefpdjfaa
namespace Go.Proofs.Ytbhdhejefpdjfaa
set_option linter.all false
open Go.RowKit
def JPg : TabJ := consR 40 (rdGR shpS) (consR 24 (rdGR rptsS) (tabJ J3))
theorem JPg_ok : GSound Try.prog JPg.g := consR_ok mixed (consR_ok mixed (tabJ_sound mixed J3_ok) (entersB_res (by kernel_rfl)).1 rptsS_ok) (entersB_res (by kernel_rfl)).1 shpS_ok
def EPg : Env := ⟨B0, RHv, fun _ => noL, JPg, fun _ => noR⟩
theorem EPg_ok : EnvOk Try.prog EPg := ⟨B0_ok, RHv_ok, fun _ _ _ => noL_good, JPg_ok, fun _ _ _ => noR_good⟩
set_option maxRecDepth 100000 in
theorem tr_pg (bs : List Int) (l c : Nat) (p : Int) : bodyM Try.prog EPg (runM Try.prog EPg 30 12) 30 25 [.pointer (some ⟨1, 0, none⟩)] (memR bs l c p none) .fin = .need (rdC bs l p) (.need (p ≤ (900000 : Int)) (.need (rdC bs l (p + (5 : Int))) (brT (pickI bs l (p + 5) 10 == 0) (.need (rdC bs l (p + (5 : Int) + (1 : Int))) (.need (p + (5 : Int) + (1 : Int) ≤ (700000 : Int)) (.need ((0 : Int) ≤ (6 : Int) ∧ (6 : Int) ≤ (90 : Int)) (.fin (.slice (some ⟨3, 0, none⟩) ((rpsL bs l (p + 5 + 1) 6).length) ((rpsL bs l (p + 5 + 1) 6).length)) [some ⟨.view, .bytes (bs)⟩, some ⟨.box, .vals [.slice (some ⟨0, 0, none⟩) (l) (c), .int .i64 (p + 5 + 1 + 2 + 2 * rpN bs l (p + 5 + 1) 6)]⟩, some ⟨.row 25 2, .ints (flat (shX bs l p))⟩, some ⟨.row 25 2, .ints (flat (rpsL bs l (p + 5 + 1) 6))⟩])))) (brT (pickI bs l (p + 5) 10 == 1) (.need (rdC bs l (p + (5 : Int) + (1 : Int))) (.need (rdK bs l (p + (5 : Int) + (1 : Int) + (1 : Int))) (.need ((0 : Int) ≤ pickI bs l (p + (5 : Int) + (1 : Int)) (↑(shX bs l p).length : Int) ∧ pickI bs l (p + (5 : Int) + (1 : Int)) (↑(shX bs l p).length : Int) < (↑(shX bs l p).length : Int)) (.need ((0 : Nat) + (pickI bs l (p + (5 : Int) + (1 : Int)) (↑(shX bs l p).length : Int)).toNat * (2 : Nat) + (2 : Nat) ≤ (flat (shX bs l p)).length) (.fin (.slice (some ⟨2, 0, none⟩) ((shX bs l p).length) ((shX bs l p).length)) [some ⟨.view, .bytes (bs)⟩, some ⟨.box, .vals [.slice (some ⟨0, 0, none⟩) (l) (c), .int .i64 (apP bs l (p + 5 + 1 + 1))]⟩, some ⟨.row 25 2, .ints (setInts (flat (shX bs l p)) (0 + (pickI bs l (p + 5 + 1) (↑(shX bs l p).length : Int)).toNat * 2) [apX bs l (p + 5 + 1 + 1), apY bs l (p + 5 + 1 + 1)])⟩]))))) (brT (pickI bs l (p + 5) 10 == 2) (.need (rdC bs l (p + (5 : Int) + (1 : Int))) (.need (p + (5 : Int) + (1 : Int) ≤ (700000 : Int)) (.need ((0 : Int) ≤ (9 : Int) ∧ (9 : Int) ≤ (90 : Int)) (.need ((rpsL bs l (p + (5 : Int) + (1 : Int)) (9 : Int)).length * (2 : Nat) ≤ (List.drop (0 : Nat) (flat (rpsL bs l (p + (5 : Int) + (1 : Int)) (9 : Int)))).length) (.need (allV (ptsA (rpsL bs l (p + (5 : Int) + (1 : Int)) (9 : Int)).length (List.drop (0 : Nat) (flat (rpsL bs l (p + (5 : Int) + (1 : Int)) (9 : Int))))) = true) (.need ((rpsL bs l (p + (5 : Int) + (1 : Int)) (9 : Int)).length ≤ (1000 : Nat)) (.fin (.slice (some ⟨4, 0, none⟩) ((hulL (srtL (ptsA (rpsL bs l (p + 5 + 1) 9).length (List.drop 0 (flat (rpsL bs l (p + 5 + 1) 9)))))).length) ((hulL (srtL (ptsA (rpsL bs l (p + 5 + 1) 9).length (List.drop 0 (flat (rpsL bs l (p + 5 + 1) 9)))))).length)) [some ⟨.view, .bytes (bs)⟩, some ⟨.box, .vals [.slice (some ⟨0, 0, none⟩) (l) (c), .int .i64 (p + 5 + 1 + 2 + 2 * rpN bs l (p + 5 + 1) 9)]⟩, some ⟨.row 25 2, .ints (flat (shX bs l p))⟩, some ⟨.row 25 2, .ints (flat (rpsL bs l (p + 5 + 1) 9))⟩, some ⟨.row 25 2, .ints (flat (hulL (srtL (ptsA (rpsL bs l (p + 5 + 1) 9).length (List.drop 0 (flat (rpsL bs l (p + 5 + 1) 9)))))))⟩]))))))) (brT (pickI bs l (p + 5) 10 == 3) (.need ((0 : Int) ≤ (1 : Int) ∧ (1 : Int) < (↑(shX bs l p).length : Int)) (.need ((4 : Nat) ≤ (flat (shX bs l p)).length) (.need ((0 : Int) ≤ (0 : Int) ∧ (0 : Int) < (↑(shX bs l p).length : Int)) (.need ((2 : Nat) ≤ (flat (shX bs l p)).length) (.need ((0 : Int) ≤ (0 : Int) ∧ (0 : Int) < (↑(shX bs l p).length : Int)) (.need ((0 : Nat) < (flat (shX bs l p)).length) (.need (¬(2 : Int) = (0 : Int)) (.need ((0 : Int) ≤ (0 : Int) ∧ (0 : Int) < (↑(shX bs l p).length : Int)) (.need ((1 : Nat) < (flat (shX bs l p)).length) (.need (¬(2 : Int) = (0 : Int)) (.need ((48 : Nat) ≤ (140737488355328 : Nat) ∧ (3 : Nat) ≤ (2000000 : Nat)) (.need ((0 : Int) ≤ bndI (some (IntKind.i64, (2 : Int))) (0 : Int) ∧ bndI (some (IntKind.i64, (2 : Int))) (0 : Int) ≤ bndI none (↑(shX bs l p).length : Int) ∧ bndI none (↑(shX bs l p).length : Int) ≤ (↑(shX bs l p).length : Int)) (.need (((3 : Nat) + ((bndI none (↑(shX bs l p).length : Int)).toNat - (bndI (some (IntKind.i64, (2 : Int))) (0 : Int)).toNat, Cs.ints (List.take (((bndI none (↑(shX bs l p).length : Int)).toNat - (bndI (some (IntKind.i64, (2 : Int))) (0 : Int)).toNat) * Try.prog.types[(25 : Nat)].size) (List.drop ((0 : Nat) + (bndI (some (IntKind.i64, (2 : Int))) (0 : Int)).toNat * Try.prog.types[(25 : Nat)].size) (flat (shX bs l p)))), [(0 : Nat) + (bndI (some (IntKind.i64, (2 : Int))) (0 : Int)).toNat * Try.prog.types[(25 : Nat)].size + ((bndI none (↑(shX bs l p).length : Int)).toNat - (bndI (some (IntKind.i64, (2 : Int))) (0 : Int)).toNat) * Try.prog.types[(25 : Nat)].size ≤ (flat (shX bs l p)).length]).fst) * (16 : Nat) ≤ (140737488355328 : Nat) ∧ (3 : Nat) + ((bndI none (↑(shX bs l p).length : Int)).toNat - (bndI (some (IntKind.i64, (2 : Int))) (0 : Int)).toNat, Cs.ints (List.take (((bndI none (↑(shX bs l p).length : Int)).toNat - (bndI (some (IntKind.i64, (2 : Int))) (0 : Int)).toNat) * Try.prog.types[(25 : Nat)].size) (List.drop ((0 : Nat) + (bndI (some (IntKind.i64, (2 : Int))) (0 : Int)).toNat * Try.prog.types[(25 : Nat)].size) (flat (shX bs l p)))), [(0 : Nat) + (bndI (some (IntKind.i64, (2 : Int))) (0 : Int)).toNat * Try.prog.types[(25 : Nat)].size + ((bndI none (↑(shX bs l p).length : Int)).toNat - (bndI (some (IntKind.i64, (2 : Int))) (0 : Int)).toNat) * Try.prog.types[(25 : Nat)].size ≤ (flat (shX bs l p)).length]).fst ≤ (2000000 : Nat)) (.need ((4 : Nat) + ((bndI none (↑(shX bs l p).length : Int)).toNat - (2 : Nat)) * (2 : Nat) ≤ (flat (shX bs l p)).length) (.fin (.slice (some ⟨7, 0, none⟩) (3 + ((bndI none (↑(shX bs l p).length : Int)).toNat - (bndI (some (IntKind.i64, 2)) 0).toNat, Cs.ints (List.take (((bndI none (↑(shX bs l p).length : Int)).toNat - (bndI (some (IntKind.i64, 2)) 0).toNat) * Try.prog.types[25].size) (List.drop (0 + (bndI (some (IntKind.i64, 2)) 0).toNat * Try.prog.types[25].size) (flat (shX bs l p)))), [0 + (bndI (some (IntKind.i64, 2)) 0).toNat * Try.prog.types[25].size + ((bndI none (↑(shX bs l p).length : Int)).toNat - (bndI (some (IntKind.i64, 2)) 0).toNat) * Try.prog.types[25].size ≤ (flat (shX bs l p)).length]).fst) (3 + ((bndI none (↑(shX bs l p).length : Int)).toNat - (bndI (some (IntKind.i64, 2)) 0).toNat, Cs.ints (List.take (((bndI none (↑(shX bs l p).length : Int)).toNat - (bndI (some (IntKind.i64, 2)) 0).toNat) * Try.prog.types[25].size) (List.drop (0 + (bndI (some (IntKind.i64, 2)) 0).toNat * Try.prog.types[25].size) (flat (shX bs l p)))), [0 + (bndI (some (IntKind.i64, 2)) 0).toNat * Try.prog.types[25].size + ((bndI none (↑(shX bs l p).length : Int)).toNat - (bndI (some (IntKind.i64, 2)) 0).toNat) * Try.prog.types[25].size ≤ (flat (shX bs l p)).length]).fst)) [some ⟨.view, .bytes (bs)⟩, some ⟨.box, .vals [.slice (some ⟨0, 0, none⟩) (l) (c), .int .i64 (p + 5 + 1)]⟩, some ⟨.row 25 2, .ints (flat (shX bs l p))⟩, some ⟨.box, .vals [.int .i64 ((flat (shX bs l p)).getD 2 0), .int .i64 ((flat (shX bs l p)).getD 3 0)]⟩, some deadB, some ⟨.row 25 2, .vals [.int .i64 ((flat (shX bs l p)).getD 2 0), .int .i64 ((flat (shX bs l p)).getD 3 0)]⟩, some deadB, some ⟨.row 25 2, .ints ([(flat (shX bs l p)).getD 0 0, (flat (shX bs l p)).getD 1 0, IntKind.i64.wrap ((IntKind.i64.wrap ((flat (shX bs l p)).getD 0 0 + (flat (shX bs l p)).getD 2 0)).tdiv 2), IntKind.i64.wrap ((IntKind.i64.wrap ((flat (shX bs l p)).getD 1 0 + (flat (shX bs l p)).getD 3 0)).tdiv 2), (flat (shX bs l p)).getD 2 0, (flat (shX bs l p)).getD 3 0] ++ List.take (((bndI none (↑(shX bs l p).length : Int)).toNat - 2) * 2) (List.drop 4 (flat (shX bs l p))))⟩]))))))))))))))) (.fin (.slice (some ⟨2, 0, none⟩) ((shX bs l p).length) ((shX bs l p).length)) [some ⟨.view, .bytes (bs)⟩, some ⟨.box, .vals [.slice (some ⟨0, 0, none⟩) (l) (c), .int .i64 (p + 5 + 1)]⟩, some ⟨.row 25 2, .ints (flat (shX bs l p))⟩]))))))) := by kernel_rfl
/-- A point more in the first edge. -/
def pgM (ps : List Pt) : List Pt := [ps.getD 0 (0, 0), (IntKind.i64.wrap ((IntKind.i64.wrap ((ps.getD 0 (0, 0)).1 + (ps.getD 1 (0, 0)).1)).tdiv 2), IntKind.i64.wrap ((IntKind.i64.wrap ((ps.getD 0 (0, 0)).2 + (ps.getD 1 (0, 0)).2)).tdiv 2)), ps.getD 1 (0, 0)] ++ ps.drop 2
/-- A drawn polygon. -/
def pgL (bs : List Int) (l : Nat) (p : Int) : List Pt :=
  if pickI bs l (p + 5) 10 = 0 then rpsL bs l (p + 6) 6
  else if pickI bs l (p + 5) 10 = 1 then (shX bs l p).set (pickI bs l (p + 6) (shX bs l p).length).toNat (apX bs l (p + 7), apY bs l (p + 7))
  else if pickI bs l (p + 5) 10 = 2 then hulL (srtL (rpsL bs l (p + 6) 9))
  else if pickI bs l (p + 5) 10 = 3 then pgM (shX bs l p)
  else shX bs l p
def pgP (bs : List Int) (l : Nat) (p : Int) : Int :=
  if pickI bs l (p + 5) 10 = 0 then p + 6 + 2 + 2 * rpN bs l (p + 6) 6
  else if pickI bs l (p + 5) 10 = 1 then apP bs l (p + 7)
  else if pickI bs l (p + 5) 10 = 2 then p + 6 + 2 + 2 * rpN bs l (p + 6) 9
  else p + 6
theorem rdC_up {bs : List Int} {l : Nat} {p q : Int} (h : rdC bs l p) (h1 : p ≤ q) (h2 : q ≤ 1000000) : rdC bs l q := ⟨h.1, h.2.1, Int.le_trans h.2.2.1 h1, h2, h.2.2.2.2⟩
theorem rpt_ok {bs : List Int} {l : Nat} {k p : Int} (h : rdC bs l p) (hp : p ≤ 999990) : ptB (rpt bs l k p).1 (rpt bs l k p).2 = true := by
  have h0 := h.2.2.1
  have b1 := pickI_bd (k := 9) h (by omega)
  have b2 := pickI_bd (k := 9) (rdC_up h (show p ≤ p + 1 by omega) (by omega)) (by omega)
  by_cases k0 : k = 0
  · rw [rpt0 k0]
    simp (disch := omega) only [wr]
    exact decide_eq_true (by omega)
  · by_cases k1 : k = 1
    · rw [rpt1 k1]
      simp (disch := omega) only [wr]
      exact decide_eq_true (by omega)
    · rw [rpt2 k0 k1]
      exact decide_eq_true (by omega)
theorem rpL_ok {bs : List Int} {l : Nat} {k : Int} : ∀ (n : Nat) (p : Int), rdC bs l p → p + 2 * n ≤ 999990 → allV (rpL bs l k n p) = true
  | 0, _, _, _ => rfl
  | n + 1, p, h, hp => by
    have h0 := h.2.2.1
    show (vB (rpt bs l k p) && allV (rpL bs l k n (p + 2))) = true
    rw [rpL_ok n (p + 2) (rdC_up h (by omega) (by omega)) (by omega), show vB (rpt bs l k p) = true from rpt_ok h (by omega)]
    rfl
theorem rpsL_ok {bs : List Int} {l : Nat} {p m : Int} (h : rdC bs l p) (hp : p ≤ 700000) (hm : 0 ≤ m ∧ m ≤ 20) : allV (rpsL bs l p m) = true := by
  have h0 := h.2.2.1
  have := rpsL_len (m := m) (rdC_up h (show p ≤ p + 1 by omega) (by omega)) hm
  unfold rpsL
  exact rpL_ok _ _ (rdC_up h (by omega) (by omega)) (by omega)
theorem pgM_cells {ps : List Pt} (h : 2 ≤ ps.length) : [(flat ps).getD 0 0, (flat ps).getD 1 0, IntKind.i64.wrap ((IntKind.i64.wrap ((flat ps).getD 0 0 + (flat ps).getD 2 0)).tdiv 2), IntKind.i64.wrap ((IntKind.i64.wrap ((flat ps).getD 1 0 + (flat ps).getD 3 0)).tdiv 2), (flat ps).getD 2 0, (flat ps).getD 3 0] ++ List.take ((ps.length - 2) * 2) (List.drop 4 (flat ps)) = flat (pgM ps) := by
  match ps, h with
  | a :: b :: t, _ =>
    have e : List.take (((a :: b :: t).length - 2) * 2) (List.drop 4 (flat (a :: b :: t))) = flat t := by
      show List.take ((t.length + 1 + 1 - 2) * 2) (flat t) = flat t
      rw [List.take_of_length_le]
      rw [flat_length]
      omega
    rw [e]
    rfl
theorem pgM_len {ps : List Pt} (h : 2 ≤ ps.length) : (pgM ps).length = ps.length + 1 := by
  unfold pgM
  rw [List.length_append, List.length_drop]
  show 3 + (ps.length - 2) = _
  omega
def pgS : RSpecR := fun bs l p rest => match rest with
  | [] => some (rowL (pgL bs l p), ⟨.row 25 2, .ints (flat (pgL bs l p))⟩, pgP bs l p, [rdC bs l p, p ≤ 600000])
  | _ => none
set_option maxRecDepth 100000 in
theorem pgS_ok : SpecROk Try.prog 25 pgS := by
  intro bs l c p rest v b p' C h hC
  unfold pgS at h
  split at h
  rotate_left
  · cases h
  obtain ⟨rfl, rfl, rfl, rfl⟩ : rowL (pgL bs l p) = v ∧ (⟨.row 25 2, .ints (flat (pgL bs l p))⟩ : Blk) = b ∧ pgP bs l p = p' ∧ [rdC bs l p, p ≤ 600000] = C := by simpa using h
  obtain ⟨h1, h2, _⟩ := hC
  refine ⟨rfl, EPg, 30, 12, EPg_ok, ?_⟩
  rw [tr_pg]
  have h0 := h1.2.2.1
  have R : ∀ q : Int, p ≤ q → q ≤ p + 100 → rdC bs l q := fun q g1 g2 => rdC_up h1 g1 (by omega)
  have T : Try.prog.types[(25 : Nat)].size = 2 := by kernel_rfl
  have a6 : p + 5 + 1 = p + 6 := by omega
  have a7 : p + 6 + 1 = p + 7 := by omega
  have eN : ∀ n : Nat, bndI none (n : Int) = n := fun _ => rfl
  have e2 : bndI (some (IntKind.i64, (2 : Int))) 0 = 2 := rfl
  have e22 : Int.toNat 2 = 2 := rfl
  obtain ⟨s1, s2⟩ := shX_len h1 (by omega)
  have pb := pickI_bd (k := ((shX bs l p).length : Int)) (R (p + 6) (by omega) (by omega)) (by omega)
  have rl6 := rpsL_len (p := p + 6) (m := 6) (R (p + 6 + 1) (by omega) (by omega)) (by omega)
  have rl9 := rpsL_len (p := p + 6) (m := 9) (R (p + 6 + 1) (by omega) (by omega)) (by omega)
  have ok9 := rpsL_ok (m := 9) (R (p + 6) (by omega) (by omega)) (by omega) (by omega)
  simp only [a6, a7, T, eN, e2, e22, Int.toNat_natCast, List.drop_zero, ptsA_flat, flat_length, Nat.zero_add]
  unfold pgL pgP
  refine ⟨h1, by omega, R _ (by omega) (by omega), brT_ok.2 ⟨fun g0 => ?_, fun g0 => brT_ok.2 ⟨fun g1 => ?_, fun g1 => brT_ok.2 ⟨fun g2 => ?_, fun g2 => brT_ok.2 ⟨fun g3 => ?_, fun g3 => ?_⟩⟩⟩⟩⟩
  · rw [beq_iff_eq] at g0
    rw [if_pos g0, if_pos g0]
    exact ⟨R _ (by omega) (by omega), by omega, by omega, rfl, some 3, ⟨rfl, rfl, rfl⟩, rfl, rfl, rfl⟩
  · rw [beq_eq_false_iff_ne] at g0
    rw [beq_iff_eq] at g1
    rw [if_neg g0, if_neg g0, if_pos g1, if_pos g1]
    have hs := flat_set (shX bs l p) (pickI bs l (p + 6) (shX bs l p).length).toNat (by omega) (apX bs l (p + 7)) (apY bs l (p + 7))
    refine ⟨R _ (by omega) (by omega), ⟨R _ (by omega) (by omega), by omega⟩, by omega, by omega, rfl, some 2, ⟨rfl, rfl, by rw [List.length_set]⟩, rfl, rfl, ?_⟩
    rw [← hs]
    rfl
  · rw [beq_eq_false_iff_ne] at g0 g1
    rw [beq_iff_eq] at g2
    rw [if_neg g0, if_neg g0, if_neg g1, if_neg g1, if_pos g2, if_pos g2]
    exact ⟨R _ (by omega) (by omega), by omega, by omega, by omega, ok9, by omega, rfl, some 4, ⟨rfl, rfl, rfl⟩, rfl, rfl, rfl⟩
  · rw [beq_eq_false_iff_ne] at g0 g1 g2
    rw [beq_iff_eq] at g3
    rw [if_neg g0, if_neg g0, if_neg g1, if_neg g1, if_neg g2, if_neg g2, if_pos g3]
    have hc := pgM_cells (ps := shX bs l p) (by omega)
    have hl := pgM_len (ps := shX bs l p) (by omega)
    refine ⟨by omega, by omega, by omega, by omega, by omega, by omega, by omega, by omega, by omega, by omega, by omega, by omega, by omega, by omega, rfl, some 7, ⟨rfl, rfl, ?_⟩, rfl, rfl, ?_⟩
    · rw [hl]; omega
    · rw [← hc]
      exact rfl
  · rw [beq_eq_false_iff_ne] at g0 g1 g2 g3
    rw [if_neg g0, if_neg g0, if_neg g1, if_neg g1, if_neg g2, if_neg g2, if_neg g3]
    exact ⟨rfl, some 2, ⟨rfl, rfl, rfl⟩, rfl, rfl, rfl⟩
theorem pgL_len {bs : List Int} {l : Nat} {p : Int} (h1 : rdC bs l p) (h2 : p ≤ 600000) : (pgL bs l p).length ≤ 40 := by
  have h0 := h1.2.2.1
  obtain ⟨s1, s2⟩ := shX_len h1 (by omega)
  have rl6 := rpsL_len (p := p + 6) (m := 6) (rdC_up h1 (by omega) (by omega)) (by omega)
  have rl9 := rpsL_len (p := p + 6) (m := 9) (rdC_up h1 (by omega) (by omega)) (by omega)
  unfold pgL
  split
  · omega
  split
  · rw [List.length_set]; omega
  split
  · exact hulL_len (Nat.le_trans (srtL_le _) (by omega))
  split
  · rw [pgM_len (by omega)]; omega
  · omega
theorem pgP_bd {bs : List Int} {l : Nat} {p : Int} (h1 : rdC bs l p) (h2 : p ≤ 600000) : p + 6 ≤ pgP bs l p ∧ pgP bs l p ≤ p + 100 := by
  have h0 := h1.2.2.1
  have rl6 := rpsL_len (p := p + 6) (m := 6) (rdC_up h1 (by omega) (by omega)) (by omega)
  have rl9 := rpsL_len (p := p + 6) (m := 9) (rdC_up h1 (by omega) (by omega)) (by omega)
  have ab := apP_bd bs l (p + 7)
  unfold pgP
  split
  · omega
  split
  · omega
  split
  · omega
  · omega
end Go.Proofs.Ytbhdhejefpdjfaa
namespace Go.Proofs.Ytbhdhejefpdjfaa
set_option linter.all false
open Go.RowKit
def JPc : TabJ := consR 25 (rdGR pgS) (consR 24 (rdGR rptsS) (tabJ J3))
theorem JPc_ok : GSound Try.prog JPc.g := consR_ok mixed (consR_ok mixed (tabJ_sound mixed J3_ok) (entersB_res (by kernel_rfl)).1 rptsS_ok) (entersB_res (by kernel_rfl)).1 pgS_ok
def EDc : Env := ⟨B0, RHv, fun _ => noL, JPc, fun _ => noR⟩
theorem EDc_ok : EnvOk Try.prog EDc := ⟨B0_ok, RHv_ok, fun _ _ _ => noL_good, JPc_ok, fun _ _ _ => noR_good⟩
set_option maxRecDepth 100000 in
theorem tr_dc0 (bs : List Int) (n : Nat) : bodyX Try.prog EDc 30 12 8 [.row n (.bytes bs)] = brT (decide (2000 < (↑n : Int))) (.need ((0 : Int) ≤ bndI none (0 : Int) ∧ bndI none (0 : Int) ≤ bndI (some (IntKind.i64, (2000 : Int))) (↑n : Int) ∧ bndI (some (IntKind.i64, (2000 : Int))) (↑n : Int) ≤ (↑n : Int)) (.need (rdC bs (2000 : Nat) (0 : Int)) (brT (pickI bs 2000 0 2 == 0) (.need (rdC bs (2000 : Nat) ((0 : Int) + (1 : Int))) (.need ((0 : Int) + (1 : Int) ≤ (700000 : Int)) (.need ((0 : Int) ≤ (10 : Int) ∧ (10 : Int) ≤ (90 : Int)) (.need ((rpsL bs (2000 : Nat) ((0 : Int) + (1 : Int)) (10 : Int)).length * (2 : Nat) ≤ (List.drop (0 : Nat) (flat (rpsL bs (2000 : Nat) ((0 : Int) + (1 : Int)) (10 : Int)))).length) (.need (allV (ptsA (rpsL bs (2000 : Nat) ((0 : Int) + (1 : Int)) (10 : Int)).length (List.drop (0 : Nat) (flat (rpsL bs (2000 : Nat) ((0 : Int) + (1 : Int)) (10 : Int))))) = true) (.need ((rpsL bs (2000 : Nat) ((0 : Int) + (1 : Int)) (10 : Int)).length ≤ (1000 : Nat)) (.fin (.slice (some ⟨3, 0, none⟩) ((hulL (srtL (ptsA (rpsL bs 2000 (0 + 1) 10).length (List.drop 0 (flat (rpsL bs 2000 (0 + 1) 10)))))).length) ((hulL (srtL (ptsA (rpsL bs 2000 (0 + 1) 10).length (List.drop 0 (flat (rpsL bs 2000 (0 + 1) 10)))))).length)) [some ⟨.view, .bytes (bs)⟩, some ⟨.box, .vals [.slice (some ⟨0, 0, none⟩) (2000) (2000), .int .i64 (0 + 1 + 2 + 2 * rpN bs 2000 (0 + 1) 10)]⟩, some ⟨.row 25 2, .ints (flat (rpsL bs 2000 (0 + 1) 10))⟩, some ⟨.row 25 2, .ints (flat (hulL (srtL (ptsA (rpsL bs 2000 (0 + 1) 10).length (List.drop 0 (flat (rpsL bs 2000 (0 + 1) 10)))))))⟩]))))))) (.need (rdC bs (2000 : Nat) ((0 : Int) + (1 : Int))) (.need ((0 : Int) + (1 : Int) ≤ (600000 : Int)) (.fin (.slice (some ⟨2, 0, none⟩) ((pgL bs 2000 (0 + 1)).length) ((pgL bs 2000 (0 + 1)).length)) [some ⟨.view, .bytes (bs)⟩, some ⟨.box, .vals [.slice (some ⟨0, 0, none⟩) (2000) (2000), .int .i64 (pgP bs 2000 (0 + 1))]⟩, some ⟨.row 25 2, .ints (flat (pgL bs 2000 (0 + 1)))⟩])))))) (.need (rdC bs n (0 : Int)) (brT (pickI bs n 0 2 == 0) (.need (rdC bs n ((0 : Int) + (1 : Int))) (.need ((0 : Int) + (1 : Int) ≤ (700000 : Int)) (.need ((0 : Int) ≤ (10 : Int) ∧ (10 : Int) ≤ (90 : Int)) (.need ((rpsL bs n ((0 : Int) + (1 : Int)) (10 : Int)).length * (2 : Nat) ≤ (List.drop (0 : Nat) (flat (rpsL bs n ((0 : Int) + (1 : Int)) (10 : Int)))).length) (.need (allV (ptsA (rpsL bs n ((0 : Int) + (1 : Int)) (10 : Int)).length (List.drop (0 : Nat) (flat (rpsL bs n ((0 : Int) + (1 : Int)) (10 : Int))))) = true) (.need ((rpsL bs n ((0 : Int) + (1 : Int)) (10 : Int)).length ≤ (1000 : Nat)) (.fin (.slice (some ⟨3, 0, none⟩) ((hulL (srtL (ptsA (rpsL bs n (0 + 1) 10).length (List.drop 0 (flat (rpsL bs n (0 + 1) 10)))))).length) ((hulL (srtL (ptsA (rpsL bs n (0 + 1) 10).length (List.drop 0 (flat (rpsL bs n (0 + 1) 10)))))).length)) [some ⟨.view, .bytes (bs)⟩, some ⟨.box, .vals [.slice (some ⟨0, 0, none⟩) (n) (n), .int .i64 (0 + 1 + 2 + 2 * rpN bs n (0 + 1) 10)]⟩, some ⟨.row 25 2, .ints (flat (rpsL bs n (0 + 1) 10))⟩, some ⟨.row 25 2, .ints (flat (hulL (srtL (ptsA (rpsL bs n (0 + 1) 10).length (List.drop 0 (flat (rpsL bs n (0 + 1) 10)))))))⟩]))))))) (.need (rdC bs n ((0 : Int) + (1 : Int))) (.need ((0 : Int) + (1 : Int) ≤ (600000 : Int)) (.fin (.slice (some ⟨2, 0, none⟩) ((pgL bs n (0 + 1)).length) ((pgL bs n (0 + 1)).length)) [some ⟨.view, .bytes (bs)⟩, some ⟨.box, .vals [.slice (some ⟨0, 0, none⟩) (n) (n), .int .i64 (pgP bs n (0 + 1))]⟩, some ⟨.row 25 2, .ints (flat (pgL bs n (0 + 1)))⟩]))))) := by kernel_rfl
/-- A drawn polygon, often a hull. -/
def dcL0 (bs : List Int) (l : Nat) : List Pt := if pickI bs l 0 2 = 0 then hulL (srtL (rpsL bs l 1 10)) else pgL bs l 1
theorem dcKey {bs : List Int} {n : Nat} (hb : Bytes bs) (hn : n ≤ bs.length) {l : Nat} (h1 : l ≤ n) (h2 : l ≤ 2000) : rdC bs l 0 ∧ rdC bs l 1 ∧ allV (rpsL bs l 0 10) = true ∧ allV (rpsL bs l 1 10) = true ∧ (rpsL bs l 0 10).length ≤ 20 ∧ (rpsL bs l 1 10).length ≤ 20 ∧ (0 ≤ rpN bs l 0 10 ∧ rpN bs l 0 10 ≤ 20) ∧ (pgP bs l (2 + 2 * rpN bs l 0 10 + 1) ≤ 200 ∧ 0 ≤ pgP bs l (2 + 2 * rpN bs l 0 10 + 1)) := by
  have r0 : rdK bs l 0 := rdK0 hb hn h1 h2 (by omega) (by omega)
  have R : ∀ q : Int, 0 ≤ q → q ≤ 100 → rdC bs l q := fun q g1 g2 => rdC_up r0.1 g1 (by omega)
  have l0 := rpsL_len (p := 0) (m := 10) (R (0 + 1) (by omega) (by omega)) (by omega)
  have l1 := rpsL_len (p := 1) (m := 10) (R (1 + 1) (by omega) (by omega)) (by omega)
  have b := pgP_bd (R (2 + 2 * rpN bs l 0 10 + 1) (by omega) (by omega)) (by omega)
  exact ⟨r0.1, R _ (by omega) (by omega), rpsL_ok (R _ (by omega) (by omega)) (by omega) (by omega), rpsL_ok (R _ (by omega) (by omega)) (by omega) (by omega), by omega, by omega, by omega, by omega⟩
theorem resR_dc0 (bs : List Int) (n : Nat) (hb : Bytes bs) (hn : n ≤ bs.length) : ResR Try.prog 8 [.row n (.bytes bs)] (rowP (dcL0 bs (rdL n))) (blkP (dcL0 bs (rdL n))) := by
  refine bodyX_resR mixed EDc_ok (m := 30) (n := 12) rfl ?_
  rw [tr_dc0]
  refine brT_ok.2 ⟨fun h => ?_, fun h => ?_⟩
  · have h := of_decide_eq_true h
    obtain ⟨k1, k2, k3, k4, k5, k6, k7, k8⟩ := dcKey hb hn (l := 2000) (by omega) (by omega)
    rw [rdL_of h]
    simp only [Int.zero_add, List.drop_zero, ptsA_flat, flat_length]
    refine ⟨bnd2000 h, k1, brT_ok.2 ⟨fun g => ?_, fun g => ?_⟩⟩
    · have g : pickI bs 2000 0 2 = 0 := by simpa using g
      have e : dcL0 bs 2000 = hulL (srtL (rpsL bs 2000 1 10)) := by unfold dcL0; rw [if_pos g]
      rw [e]
      exact ⟨k2, by omega, by omega, by omega, k4, by omega, some 3, ⟨rfl, rfl, rfl⟩, rfl, rfl, rfl⟩
    · have g : ¬ pickI bs 2000 0 2 = 0 := by simpa using g
      have e : dcL0 bs 2000 = pgL bs 2000 1 := by unfold dcL0; rw [if_neg g]
      rw [e]
      exact ⟨k2, by omega, some 2, ⟨rfl, rfl, rfl⟩, rfl, rfl, rfl⟩
  · have h := of_decide_eq_false h
    obtain ⟨k1, k2, k3, k4, k5, k6, k7, k8⟩ := dcKey hb hn (l := n) (by omega) (by omega)
    rw [rdL_no h]
    simp only [Int.zero_add, List.drop_zero, ptsA_flat, flat_length]
    refine ⟨k1, brT_ok.2 ⟨fun g => ?_, fun g => ?_⟩⟩
    · have g : pickI bs n 0 2 = 0 := by simpa using g
      have e : dcL0 bs n = hulL (srtL (rpsL bs n 1 10)) := by unfold dcL0; rw [if_pos g]
      rw [e]
      exact ⟨k2, by omega, by omega, by omega, k4, by omega, some 3, ⟨rfl, rfl, rfl⟩, rfl, rfl, rfl⟩
    · have g : ¬ pickI bs n 0 2 = 0 := by simpa using g
      have e : dcL0 bs n = pgL bs n 1 := by unfold dcL0; rw [if_neg g]
      rw [e]
      exact ⟨k2, by omega, some 2, ⟨rfl, rfl, rfl⟩, rfl, rfl, rfl⟩
theorem dcL0_len {bs : List Int} {l : Nat} (hb : Bytes bs) (h1 : l ≤ bs.length) (h2 : l ≤ 2000) : (dcL0 bs l).length ≤ 40 := by
  obtain ⟨k1, k2, k3, k4, k5, k6, k7, k8⟩ := dcKey hb (Nat.le_refl _) h1 h2
  unfold dcL0
  split
  · exact hulL_len (Nat.le_trans (srtL_le _) (by omega))
  · exact pgL_len k2 (by omega)
def RDc : TabR := fun f ds => match f, ds with
  | 8, [.row n (.bytes bs)] => some (rowP (dcL0 bs (rdL n)), blkP (dcL0 bs (rdL n)), [Bytes bs, n ≤ bs.length])
  | f, ds => RHv f ds
theorem RDc_ok : TabROk Try.prog RDc := by
  intro f ds v b C h hC
  unfold RDc at h
  (try split at h)
  all_goals first
    | (obtain ⟨rfl, rfl, rfl⟩ : _ ∧ _ ∧ _ := by simpa using h
       have h1 := hC.1
       have h2 := hC.2.1
       first | with_reducible exact resR_dc0 _ _ h1 h2 | with_reducible exact resR_dc1 _ _ h1 h2)
    | exact RHv_ok _ _ _ _ _ h hC
end Go.Proofs.Ytbhdhejefpdjfaa
namespace Go.Proofs.Ytbhdhejefpdjfaa
set_option linter.all false
open Go.RowKit
def RLc : TabR := fun f ds => match f, ds with
  | 11, [.row m (.ints xs)] => some (rowP (dgO (dgT (ptsA m xs)) m 0 m), blkR (dgO (dgT (ptsA m xs)) m 0 m), [m * 2 ≤ xs.length, issI (ptsA m xs) = true])
  | f, ds => RDc f ds
theorem RLc_ok : TabROk Try.prog RLc := by
  intro f ds v b C h hC
  unfold RLc at h
  split at h
  · rename_i m xs
    obtain ⟨rfl, rfl, rfl⟩ : _ ∧ _ ∧ _ := by simpa using h
    obtain ⟨_, h2⟩ := ptsA_spec hC.1
    have h1 := resR_pts1 (pre := []) (post := []) hC.1 (resR_iDg hC.2.1)
    simp only [List.nil_append, List.append_nil, h2] at h1
    exact h1
  · exact RDc_ok _ _ _ _ _ h hC
def ELc : Env := mkE TCx RLc (fun _ => noL)
theorem ELc_ok : EnvOk Try.prog ELc := mkEOk TCx_ok RLc_ok (fun _ _ _ => noL_good)
set_option maxRecDepth 100000 in
theorem tr_lCd (bs : List Int) : bodyV Try.prog ELc 30 12 4 [.row bs.length (.bytes bs)] = brT (decide (1048576 < (↑bs.length : Int))) (.fin (.bool (true)) []) (.need (Bytes (List.drop (0 : Nat) bs)) (.need (bs.length ≤ (List.drop (0 : Nat) bs).length) (.need ((dcL0 (List.drop (0 : Nat) bs) (rdL bs.length)).length * (2 : Nat) ≤ (List.drop (0 : Nat) (flat (dcL0 (List.drop (0 : Nat) bs) (rdL bs.length)))).length) (.need ((dcL0 (List.drop (0 : Nat) bs) (rdL bs.length)).length ≤ (1000000000 : Nat)) (.need ((dcL0 (List.drop (0 : Nat) bs) (rdL bs.length)).length * (2 : Nat) ≤ (List.drop (0 : Nat) (flat (dcL0 (List.drop (0 : Nat) bs) (rdL bs.length)))).length) (.need ((dcL0 (List.drop (0 : Nat) bs) (rdL bs.length)).length ≤ (1000000000 : Nat)) (brT (!cvxI (ptsA (dcL0 (List.drop 0 bs) (rdL bs.length)).length (List.drop 0 (flat (dcL0 (List.drop 0 bs) (rdL bs.length))))) == cvxI (ptsA (dcL0 (List.drop 0 bs) (rdL bs.length)).length (List.drop 0 (flat (dcL0 (List.drop 0 bs) (rdL bs.length)))))) (.need ((dcL0 (List.drop (0 : Nat) bs) (rdL bs.length)).length * (2 : Nat) ≤ (List.drop (0 : Nat) (flat (dcL0 (List.drop (0 : Nat) bs) (rdL bs.length)))).length) (.need ((dcL0 (List.drop (0 : Nat) bs) (rdL bs.length)).length ≤ (1000000000 : Nat)) (.fin (.bool (cvxI (ptsA (dcL0 (List.drop 0 bs) (rdL bs.length)).length (List.drop 0 (flat (dcL0 (List.drop 0 bs) (rdL bs.length))))) == cvxI (ptsA (dcL0 (List.drop 0 bs) (rdL bs.length)).length (List.drop 0 (flat (dcL0 (List.drop 0 bs) (rdL bs.length))))))) []))) (brT (!cvxI (ptsA (dcL0 (List.drop 0 bs) (rdL bs.length)).length (List.drop 0 (flat (dcL0 (List.drop 0 bs) (rdL bs.length)))))) (.need ((dcL0 (List.drop (0 : Nat) bs) (rdL bs.length)).length * (2 : Nat) ≤ (List.drop (0 : Nat) (flat (dcL0 (List.drop (0 : Nat) bs) (rdL bs.length)))).length) (.need ((dcL0 (List.drop (0 : Nat) bs) (rdL bs.length)).length ≤ (1000000000 : Nat)) (.fin (.bool (cvxI (ptsA (dcL0 (List.drop 0 bs) (rdL bs.length)).length (List.drop 0 (flat (dcL0 (List.drop 0 bs) (rdL bs.length))))) == cvxI (ptsA (dcL0 (List.drop 0 bs) (rdL bs.length)).length (List.drop 0 (flat (dcL0 (List.drop 0 bs) (rdL bs.length))))))) []))) (.need ((dcL0 (List.drop (0 : Nat) bs) (rdL bs.length)).length * (2 : Nat) ≤ (List.drop (0 : Nat) (flat (dcL0 (List.drop (0 : Nat) bs) (rdL bs.length)))).length) (.need (issI (ptsA (dcL0 (List.drop (0 : Nat) bs) (rdL bs.length)).length (List.drop (0 : Nat) (flat (dcL0 (List.drop (0 : Nat) bs) (rdL bs.length))))) = true) (.need (¬(2 : Int) = (0 : Int)) (.fin (.bool ((↑(dgO (dgT (ptsA (dcL0 (List.drop 0 bs) (rdL bs.length)).length (List.drop 0 (flat (dcL0 (List.drop 0 bs) (rdL bs.length)))))) (dcL0 (List.drop 0 bs) (rdL bs.length)).length 0 (dcL0 (List.drop 0 bs) (rdL bs.length)).length).length : Int) == IntKind.i64.wrap ((IntKind.i64.wrap ((↑(dcL0 (List.drop 0 bs) (rdL bs.length)).length : Int) * IntKind.i64.wrap ((↑(dcL0 (List.drop 0 bs) (rdL bs.length)).length : Int) - 3))).tdiv 2))) [])))))))))))) := by kernel_rfl
theorem law_lcd (bs : List Int) (hb : Bytes bs) (_ : bs.length ≤ maxLen) : Res Try.prog 4 [.row bs.length (.bytes bs)] (.bool true) := by
  refine bodyV_res mixed ELc_ok (m := 30) (n := 12) rfl ?_
  rw [tr_lCd]
  simp only [List.drop_zero, ptsA_flat, flat_length]
  have hl := dcL0_len hb (l := rdL bs.length) (by unfold rdL; omega) (by unfold rdL; omega)
  generalize dcL0 bs (rdL bs.length) = p at *
  refine brT_ok.2 ⟨fun _ => rfl, fun _ => ?_⟩
  rcases hc : cvxI p with _ | _
  · simp only [beq_self_eq_true, Bool.not_true, Bool.not_false, brT_t, brT_f]
    repeat' (first | exact True.intro | assumption | omega | exact rfl | refine And.intro ?_ ?_)
  · have H := cvx_cvh hc
    obtain ⟨h3, ho, hv, hs, hT⟩ := cvx_parts hc
    have hi : issI p = true := by
      unfold cvxI at hc
      simp only [Bool.and_eq_true] at hc
      exact hc.1
    have key := dgO_all (P := dgT p) (n := p.length) (fun a b h1 h2 => dg_cvx H ho h1 h2) h3
    have e1 : IntKind.i64.wrap ((p.length : Int) - 3) = (p.length : Int) - 3 := wr (by omega)
    have b1 := mul_bd 40 40 (x := (p.length : Int)) (y := (p.length : Int) - 3) (by omega) (by omega)
    have e2 : IntKind.i64.wrap ((p.length : Int) * ((p.length : Int) - 3)) = (p.length : Int) * ((p.length : Int) - 3) := wr (by omega)
    have e3 : ((p.length : Int) * ((p.length : Int) - 3)).tdiv 2 = ((dgO (dgT p) p.length 0 p.length).length : Int) := by
      rw [← key, Int.mul_tdiv_cancel_left _ (by decide)]
    have e4 : IntKind.i64.wrap ((dgO (dgT p) p.length 0 p.length).length : Int) = ((dgO (dgT p) p.length 0 p.length).length : Int) := wr (by omega)
    rw [e1, e2, e3, e4]
    simp only [hi, beq_self_eq_true, Bool.not_true, Bool.not_false, brT_t, brT_f]
    repeat' (first | exact True.intro | assumption | omega | exact rfl | decide | refine And.intro ?_ ?_)
end Go.Proofs.Ytbhdhejefpdjfaa
