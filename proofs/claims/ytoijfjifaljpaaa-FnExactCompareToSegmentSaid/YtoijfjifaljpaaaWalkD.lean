/-
  Contracts: the greatest common divisor, the program's over a row of numbers and the model's over two. Written by an AI agent.
-/
import Derived.Test.YtoijfjifaljpaaaWalkC
import Derived.Test.YtoijfjifaljpaaaMath
import Derived.LoopTactic
namespace Go.Proofs.Ytoijfjifaljpaaa
open Go.RowKit

/-- The slice's places hold the numbers Z k. -/
def Ints (w : World) (B : Nat) (A : Option Addr) (n : Nat) (Z : Nat → Int) : Prop :=
  ∀ k, k < n → ∃ b off, A = some ⟨b, off, none⟩ ∧ b < B ∧ w.cell? ⟨b, off + k, none⟩ = some (.int .i64 (Z k))
theorem Ints.below {w w' : World} {B : Nat} {A : Option Addr} {n : Nat} {Z : Nat → Int} (h : Ints w B A n Z) (hb : Below B w w') : Ints w' B A n Z := by
  intro k hk
  obtain ⟨b, off, hA, hB, h0⟩ := h k hk
  exact ⟨b, off, hA, hB, (hb.cell (p := ⟨b, _, none⟩) hB).trans h0⟩

/-- What the rounds of Euclid's loop leave alone. -/
def GI (a b G : Int) : Prop := gI a b = G
def GA (a G : Int) : Prop := (a.natAbs : Int) = G
theorem GI.next {a b G : Int} (h : GI a b G) : GI b (a.tmod b) G := (gI_step a b).trans h
theorem GI.last {a G : Int} (h : GI a 0 G) : GA a G := (gI_zero a).symm.trans h

theorem implGcd_any (A : Option Addr) (n c : Nat) (Z : Nat → Int) (w : World) (hn : n ≤ 9223372036854775807) (hp : Ints w w.heap.size A n Z) (hZ : ∀ k, k < n → -4500000000000000000 ≤ Z k ∧ Z k ≤ 4500000000000000000) :
    Calls Try.prog 77 #[.slice A n c] w fun e w' => e = .returned (.int .i64 (gL Z n)) ∧ Below w.heap.size w w' := by
  go_enter Try.func77, Try.ntmps77
  go_wp2
  go_loopw [3, 8] (fun v i wr => ∃ (k : Nat) (d : Int), k ≤ n ∧ i = .int .i64 k ∧ v = .int .i64 d ∧ GA d (gL Z k) ∧ -4500000000000000000 ≤ d ∧ d ≤ 4500000000000000000 ∧ Below w.heap.size w wr) (fun _ i _ => n - (intOf i).toNat)
  case atStart => exact ⟨0, 0, Nat.zero_le _, rfl, rfl, rfl, by omega, by omega, nr _⟩
  case round =>
    obtain ⟨k, d, hk, rfl, rfl, hd, h1, h2, hbr⟩ := hrel
    by_cases hlt : k < n
    · obtain ⟨b, off, rfl, hB, h0⟩ := hp.below hbr k hlt
      have hzk := hZ k hlt
      have hz := hbr.size
      clear hp hZ
      have HG : Hid (GI d (Z k) (gL Z (k + 1))) := by
        show gI d (Z k) = gI (gL Z k) (Z k)
        exact gI_of_abs (by have : (d.natAbs : Int) = gL Z k := hd; omega) _
      clear hd
      generalize hGe : gL Z (k + 1) = G at HG
      have HE := Lib.hid hGe
      clear hGe
      generalize Z k = z at *
      go_wp2
      go_loopw [3, 5] (fun v x wi => ∃ (d z : Int), v = .int .i64 d ∧ x = .int .i64 z ∧ GI d z G ∧ -4500000000000000000 ≤ d ∧ d ≤ 4500000000000000000 ∧ -4500000000000000000 ≤ z ∧ z ≤ 4500000000000000000 ∧ Below w.heap.size w wi) (fun _ x _ => (intOf x).natAbs)
      case atStart => exact ⟨d, z, rfl, rfl, HG.out, h1, h2, hzk.1, hzk.2, hbr⟩
      case round =>
        rename_i wi _ _ _ _ _ _ _ _
        clear h0 hzk HG hbr hz
        obtain ⟨d, z, rfl, rfl, hG, h1, h2, h3, h4, hbi⟩ := hrel
        have HG := Lib.hid hG
        clear hG
        by_cases hz0 : z = 0
        · subst hz0
          have hA := HG.out.last
          have HA := Lib.hid hA
          clear hA HG
          go_wp2
          refine ⟨⟨k + 1, d, by omega, by go_num, rfl, ?_, h1, h2, hbi⟩, by simp [intOf]; omega⟩
          rw [HE.out]
          exact HA.out
        · have ht := tmod_bd d z hz0
          go_wp2
          go_quiet (fail)
          go_wp2
          exact ⟨⟨z, d.tmod z, rfl, rfl, HG.out.next, h3, h4, by omega, by omega, nd hbi _⟩, by simp only [intOf]; exact ht⟩
    · have hk' : n = k := by omega
      subst hk'
      clear hp hZ
      have HA := Lib.hid hd
      clear hd
      go_wp2
      all_goals go_ret
      all_goals refine ⟨ret_int ?_, hbr⟩
      all_goals (have hA : (d.natAbs : Int) = gL Z n := HA.out)
      all_goals omega

theorem ints2 {w : World} {g : Nat} {a b : Int} (hg : g < w.heap.size) (h0 : w.cell? ⟨g, 0, none⟩ = some (.int .i64 a)) (h1 : w.cell? ⟨g, 1, none⟩ = some (.int .i64 b)) : Ints w w.heap.size (some ⟨g, 0, none⟩) 2 (pick2 a b) := by
  intro k hk
  match k, hk with
  | 0, _ => exact ⟨g, 0, rfl, hg, h0⟩
  | 1, _ => exact ⟨g, 0, rfl, hg, h1⟩
theorem gL2 (a b : Int) : gL (pick2 a b) 2 = gI a b := by
  show gI (gI 0 a) b = gI a b
  rw [gI_zero_left, gI_abs]
theorem implGcd2_any (g c : Nat) (a b : Int) (w : World) (ha : -4500000000000000000 ≤ a ∧ a ≤ 4500000000000000000) (hb : -4500000000000000000 ≤ b ∧ b ≤ 4500000000000000000) (hg : g < w.heap.size) (h0 : w.cell? ⟨g, 0, none⟩ = some (.int .i64 a)) (h1 : w.cell? ⟨g, 1, none⟩ = some (.int .i64 b)) :
    Calls Try.prog 77 #[.slice (some ⟨g, 0, none⟩) 2 c] w fun e w' => e = .returned (.int .i64 (gI a b)) ∧ Below w.heap.size w w' := by
  rw [← gL2]
  refine implGcd_any _ 2 c _ w (by omega) (ints2 hg h0 h1) fun k hk => ?_
  match k, hk with
  | 0, _ => exact ha
  | 1, _ => exact hb

theorem GI.step {a b G : Int} (h : GI a b G) (h0 : 0 ≤ a) : GI b (a % b) G := by
  rw [← Int.tmod_eq_emod_of_nonneg h0]
  exact h.next
theorem specGcd_any (a b : Int) (w : World) (ha : 0 ≤ a ∧ a ≤ 4500000000000000000) (hb : 0 ≤ b ∧ b ≤ 4500000000000000000) :
    Calls Try.prog 91 #[.int .i64 a, .int .i64 b] w fun e w' => e = .returned (.int .i64 (gI a b)) ∧ w = w' := by
  have HG : Hid (GI a b (gI a b)) := rfl
  generalize gI a b = G at HG ⊢
  go_enter Try.func91, Try.ntmps91
  go_wp2
  go_loop [0, 1] (fun u v => ∃ (x y : Int), u = .int .i64 x ∧ v = .int .i64 y ∧ GI x y G ∧ 0 ≤ x ∧ x ≤ 4500000000000000000 ∧ 0 ≤ y ∧ y ≤ 4500000000000000000) (fun _ v => (intOf v).toNat)
  case atStart => exact ⟨a, b, rfl, rfl, HG.out, ha.1, ha.2, hb.1, hb.2⟩
  case round =>
    clear HG ha hb
    obtain ⟨x, y, rfl, rfl, hG, h1, h2, h3, h4⟩ := hrel
    have HG := Lib.hid hG
    clear hG
    by_cases hy : 0 < y
    · have hm := Int.emod_lt_of_pos x hy
      have hm0 := Int.emod_nonneg x (show y ≠ 0 by omega)
      go_wp2
      refine ⟨⟨y, x % y, rfl, rfl, HG.out.step h1, h3, h4, hm0, by omega⟩, by simp only [intOf]; omega⟩
    · have hy0 : y = 0 := by omega
      subst hy0
      have hA : (x.natAbs : Int) = G := HG.out.last
      have HA := Lib.hid hA
      clear hA HG
      go_wp2
      go_ret
      refine ⟨ret_int ?_, rfl⟩
      have := HA.out
      omega
theorem abs_any (n : Int) (w : World) (h : -9223372036854775807 ≤ n) :
    Calls Try.prog 92 #[.int .i64 n] w fun e w' => e = .returned (.int .i64 (n.natAbs : Int)) ∧ w = w' := by
  by_cases h1 : n < 0
  · go_enter Try.func92, Try.ntmps92
    go_wp2
    go_ret
    exact ⟨ret_int (by omega), rfl⟩
  · go_enter Try.func92, Try.ntmps92
    go_wp2
    go_ret
    exact ⟨ret_int (by omega), rfl⟩
end Go.Proofs.Ytoijfjifaljpaaa
