/-
  A law's argument that is a slice of structs of ints, opened to the cells that lie in memory. Written by an AI agent.
-/
import Derived.Test.YtoijfjifaljpaabFrame
import Derived.Test.YtoijfjifaljpaabAbsI
import Derived.Deep.Slices
import Derived.Deep.Fields
import Derived.ChangeSame
namespace Go.Proofs.Ytoijfjifaljpaab
open Go.ChangeShapes Go.WideShapes Go.ChangeAt Go.RowKit Go.Deep

section
variable {H : Type} {enc : TypeId × Value → H} {P : Program} {w : World} {base : Nat} {spare : Nat → Bool} {held : Bool}
theorem cells_choose {len : Nat} {a : Addr} (h : ∀ q, q < len → ∃ z : Int, w.cell? (a.add q) = some (.int .i64 z)) : ∃ xs : List Int, xs.length = len ∧ ∀ (k : Nat) v, (xs.map (Value.int .i64))[k]? = some v → w.cell? (a.add k) = some v := by
  classical
  refine ⟨(List.range len).map fun q => if hq : q < len then Classical.choose (h q hq) else 0, by simp, fun k v hv => ?_⟩
  have hk : k < len := by
    rcases Nat.lt_or_ge k len with hk | hk
    · exact hk
    · rw [List.getElem?_eq_none (by simp; omega)] at hv; cases hv
  have := Classical.choose_spec (h k hk)
  rw [this]
  simp [hk] at hv
  rw [← hv]
/-- A slice of structs of k ints. -/
theorem arg_rows {t e : TypeId} {fs : Array Field} {k : Nat} (hk : 0 < k) (ht : P.underlying t = some (.slice e)) (he : P.underlying e = some (.struct fs)) (hone : oneCellFields P fs = true) (hC : P.cellsOf e = k) (hfs : fs.size = k)
    (hint : ∀ (j : Nat) f, fs[j]? = some f → P.underlying f.type = some (.int .i64)) {r : Reach} {b0 : Nat} {v : Value} {d : DataW H} {ps : List MemPlace} (hv : Value.okWide P w r b0 t v) (h : DataW.Trod enc P w base spare held t v d ps) :
    ∃ (n : Nat) (xs : List Int), n ≤ maxLen ∧ xs.length = n * k ∧ DOk w (.row n (.ints xs)) v := by
  obtain ⟨ad, len, cap, rfl⟩ := okWide_slice ht hv
  obtain ⟨fuel, hf⟩ := h
  rcases open_slice ht hf with ⟨hcs, _⟩ | ⟨a, len', cap', m, n, D, Pl, hcs, hb, hl, hm, hmm, _, hi⟩
  · obtain ⟨rfl, rfl, rfl⟩ : ad = none ∧ len = 0 ∧ cap = 0 := by simpa [Value.cells] using hcs
    exact ⟨0, [], Nat.zero_le _, by simp, rfl, none, 0, rfl, Nat.le_refl _, .inl rfl⟩
  · obtain ⟨rfl, rfl, rfl⟩ : ad = some a ∧ len = len' ∧ cap = cap' := by simpa [Value.cells] using hcs
    have hlm : len ≤ m := by rw [hmm]; split <;> omega
    have each : ∀ q, q < len * k → ∃ z : Int, w.cell? (a.add q) = some (.int .i64 z) := by
      intro q hq
      have hiq : q / k < len := Nat.div_lt_of_lt_mul (by rw [Nat.mul_comm]; exact hq)
      have hjq : q % k < k := Nat.mod_lt _ hk
      obtain ⟨cs', hc, htr⟩ := hi (q / k) (by omega)
      rw [hC] at hc
      obtain ⟨_, hcl, hat⟩ := World.cells?_some hc
      obtain ⟨ys, n', _, _, _, hyl, hfd⟩ := DataW.trod_struct he htr
      have hj : fs[q % k]? = some (fs[q % k]'(by omega)) := by simp [hfs, hjq]
      obtain ⟨ho, hc1⟩ := hone_of hone _ _ hj
      have h1 := hfd _ _ hj
      rw [ho, hc1] at h1
      have hone' : (cs'.drop (q % k)).take 1 = [cs'[q % k]'(by omega)] := by
        rw [List.drop_eq_getElem_cons (by omega)]
        rfl
      rw [hone'] at h1
      have hys : ys[q % k]? = some (ys[q % k]'(by omega)) := List.getElem?_eq_getElem (by omega)
      rw [hys] at h1
      obtain ⟨z, hz, _⟩ := DataW.trod_int (hint _ _ hj) h1
      have hcell := hat (q % k) hjq
      rw [Go.Deep.add_add] at hcell
      have eq : q / k * k + q % k = q := by rw [Nat.mul_comm]; exact Nat.div_add_mod q k
      rw [eq] at hcell
      refine ⟨z, ?_⟩
      rw [hcell, List.getElem?_eq_getElem (by omega : q % k < cs'.length)]
      simp only [List.cons.injEq, and_true] at hz
      rw [hz]
    obtain ⟨xs, hx1, hx2⟩ := cells_choose each
    refine ⟨len, xs, by omega, hx1, rfl, some a, cap, rfl, hl, ?_⟩
    rcases Nat.eq_zero_or_pos len with h0 | hpos
    · exact .inl h0
    · right
      obtain ⟨z, hz⟩ := each 0 (Nat.mul_pos hpos hk)
      have ha0 : a.add 0 = a := by simp [Addr.add]
      rw [ha0] at hz
      have hsp : a.spot = none := by
        unfold World.cell? at hz
        split at hz
        · split at hz
          · cases hz
          · rename_i hs; simpa using hs
        · cases hz
      obtain ⟨g, f, sp⟩ := a
      simp only at hsp
      subst hsp
      refine ⟨g, f, rfl, World.block_lt_of_cell? w _ hz, fun q v hv => ?_⟩
      rw [← addr_add]
      exact hx2 q v hv
theorem doks_nil : DOks w [] #[] := ⟨rfl, fun i d y h => by simp at h⟩
theorem doks_cons {d : DArg} {y : Value} {ds : List DArg} {ys : List Value} (h : DOk w d y) (hr : DOks w ds ys.toArray) : DOks w (d :: ds) (y :: ys).toArray := by
  refine ⟨by have := hr.1; simp at this ⊢; omega, fun i d' y' hd hy => ?_⟩
  cases i with
  | zero =>
    obtain rfl : d = d' := by simpa using hd
    obtain rfl : y = y' := by simpa using hy
    exact h
  | succ i => exact hr.2 i d' y' (by simpa using hd) (by simpa using hy)
theorem len_fits {n : Nat} (h : n ≤ maxLen) : (n : Int) ≤ 9223372036854775807 := by
  simp [maxLen] at h
  omega
theorem fields_int {fs : Array Field} (h : (fs.toList.all fun f => match P.underlying f.type with
    | some (.int .i64) => true
    | _ => false) = true) : ∀ (j : Nat) f, fs[j]? = some f → P.underlying f.type = some (.int .i64) := by
  intro j f hj
  have hm : f ∈ fs.toList := by
    obtain ⟨hi, rfl⟩ := Array.getElem?_eq_some_iff.1 hj
    simp
  have := List.all_eq_true.1 h f hm
  split at this
  · assumption
  · cases this
end
end Go.Proofs.Ytoijfjifaljpaab
