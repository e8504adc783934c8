/-
  A law's argument that is a slice of bytes, opened to the cells that lie in memory. Written by an AI agent.
-/
import Derived.Test.YtoijfjifaljpaabRowL
import Derived.Test.YtoijfjifaljpaabAbsL
namespace Go.Proofs.Ytoijfjifaljpaab
open Go.ChangeShapes Go.WideShapes Go.ChangeAt Go.RowKit Go.Deep

section
variable {H : Type} {enc : TypeId × Value → H} {P : Program} {w : World} {base : Nat} {spare : Nat → Bool} {held : Bool}
theorem bytes_choose {len : Nat} {a : Addr} (h : ∀ q, q < len → ∃ z : Int, (0 ≤ z ∧ z ≤ 255) ∧ w.cell? (a.add q) = some (.int .u8 z)) : ∃ xs : List Int, xs.length = len ∧ Bytes xs ∧ ∀ (k : Nat) v, (xs.map (Value.int .u8))[k]? = some v → w.cell? (a.add k) = some v := by
  classical
  refine ⟨(List.range len).map fun q => if hq : q < len then Classical.choose (h q hq) else 0, by simp, fun b hb => ?_, fun k v hv => ?_⟩
  · obtain ⟨q, hq, rfl⟩ := List.mem_map.1 hb
    have hq' : q < len := by simpa using hq
    rw [dif_pos hq']
    exact (Classical.choose_spec (h q hq')).1
  · have hk : k < len := by
      rcases Nat.lt_or_ge k len with hk | hk
      · exact hk
      · rw [List.getElem?_eq_none (by simp; omega)] at hv; cases hv
    have := (Classical.choose_spec (h k hk)).2
    rw [this]
    simp [hk] at hv
    rw [← hv]
/-- A slice of bytes. -/
theorem arg_bytes {t e : TypeId} (ht : P.underlying t = some (.slice e)) (he : P.underlying e = some (.int .u8)) (hC : P.cellsOf e = 1) {r : Reach} {b0 : Nat} {v : Value} {d : DataW H} {ps : List MemPlace} (hv : Value.okWide P w r b0 t v) (h : DataW.Trod enc P w base spare held t v d ps) :
    ∃ bs : List Int, bs.length ≤ maxLen ∧ Bytes bs ∧ DOk w (.row bs.length (.bytes bs)) v := by
  obtain ⟨ad, len, cap, rfl⟩ := okWide_slice ht hv
  obtain ⟨fuel, hf⟩ := h
  rcases open_slice ht hf with ⟨hcs, _⟩ | ⟨a, len', cap', m, n, D, Pl, hcs, hb, hl, hm, hmm, _, hi⟩
  · obtain ⟨rfl, rfl, rfl⟩ : ad = none ∧ len = 0 ∧ cap = 0 := by simpa [Value.cells] using hcs
    exact ⟨[], Nat.zero_le _, fun b hb => by simp at hb, rfl, none, 0, rfl, Nat.le_refl _, .inl rfl⟩
  · obtain ⟨rfl, rfl, rfl⟩ : ad = some a ∧ len = len' ∧ cap = cap' := by simpa [Value.cells] using hcs
    have hlm : len ≤ m := by rw [hmm]; split <;> omega
    have each : ∀ q, q < len → ∃ z : Int, (0 ≤ z ∧ z ≤ 255) ∧ w.cell? (a.add q) = some (.int .u8 z) := by
      intro q hq
      obtain ⟨cs', hc, htr⟩ := hi q (by omega)
      rw [hC] at hc
      obtain ⟨_, hcl, hat⟩ := World.cells?_some hc
      obtain ⟨z, hz, _, hr⟩ := DataW.trod_int he htr
      have hcell := hat 0 (by omega)
      rw [Go.Deep.add_add] at hcell
      simp only [Nat.mul_one, Nat.add_zero] at hcell
      subst hz
      refine ⟨z, ?_, by simpa using hcell⟩
      have hr' := hr
      simp [Lit.wf, IntKind.has, IntKind.min, IntKind.max, IntKind.signed, IntKind.bits] at hr'
      omega
    obtain ⟨xs, hx1, hx0, hx2⟩ := bytes_choose each
    refine ⟨xs, by omega, hx0, rfl, some a, cap, by rw [hx1], by omega, ?_⟩
    rw [hx1]
    rcases Nat.eq_zero_or_pos len with h0 | hpos
    · exact .inl h0
    · right
      obtain ⟨z, _, hz⟩ := each 0 hpos
      have ha0 : a.add 0 = a := by simp [Addr.add]
      rw [ha0] at hz
      have hsp : a.spot = none := by
        unfold World.cell? at hz
        split at hz
        · split at hz
          · cases hz
          · rename_i hs; simpa using hs
        · cases hz
      obtain ⟨g, f, sp⟩ := a
      simp only at hsp
      subst hsp
      refine ⟨g, f, rfl, World.block_lt_of_cell? w _ hz, fun q v hv => ?_⟩
      rw [← addr_add]
      exact hx2 q v hv
end
end Go.Proofs.Ytoijfjifaljpaab
