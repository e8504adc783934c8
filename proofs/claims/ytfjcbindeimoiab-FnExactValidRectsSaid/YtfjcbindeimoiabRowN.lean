/-
  A law's argument that is a slice of structs of structs of ints, opened to the cells that lie in memory. Written by an AI agent.
-/
import Derived.Test.YtfjcbindeimoiabRowL
namespace Go.Proofs.Ytfjcbindeimoiab
open Go.ChangeShapes Go.WideShapes Go.ChangeAt Go.RowKit Go.Deep

section
variable {H : Type} {enc : TypeId × Value → H} {P : Program} {w : World} {base : Nat} {spare : Nat → Bool} {held : Bool}
/-- A slice of structs of m structs of k ints. -/
theorem arg_rows2 {t e : TypeId} {fs : Array Field} {m k : Nat} (hk : 0 < k) (hm0 : 0 < m) (ht : P.underlying t = some (.slice e)) (he : P.underlying e = some (.struct fs)) (hfs : fs.size = m) (hC : P.cellsOf e = m * k)
    (hin : ∀ (j : Nat) f, fs[j]? = some f → f.offset = j * k ∧ P.cellsOf f.type = k ∧ ∃ fs2, P.underlying f.type = some (.struct fs2) ∧ oneCellFields P fs2 = true ∧ fs2.size = k ∧ ∀ (i : Nat) f2, fs2[i]? = some f2 → P.underlying f2.type = some (.int .i64)) {r : Reach} {b0 : Nat} {v : Value} {d : DataW H} {ps : List MemPlace} (hv : Value.okWide P w r b0 t v) (h : DataW.Trod enc P w base spare held t v d ps) :
    ∃ (n : Nat) (xs : List Int), n ≤ maxLen ∧ xs.length = n * (m * k) ∧ DOk w (.row n (.ints xs)) v := by
  obtain ⟨ad, len, cap, rfl⟩ := okWide_slice ht hv
  obtain ⟨fuel, hf⟩ := h
  have hmk : 0 < m * k := Nat.mul_pos hm0 hk
  rcases open_slice ht hf with ⟨hcs, _⟩ | ⟨a, len', cap', mm, n, D, Pl, hcs, hb, hl, hm, hmm, _, hi⟩
  · obtain ⟨rfl, rfl, rfl⟩ : ad = none ∧ len = 0 ∧ cap = 0 := by simpa [Value.cells] using hcs
    exact ⟨0, [], Nat.zero_le _, by simp, rfl, none, 0, rfl, Nat.le_refl _, .inl rfl⟩
  · obtain ⟨rfl, rfl, rfl⟩ : ad = some a ∧ len = len' ∧ cap = cap' := by simpa [Value.cells] using hcs
    have hlm : len ≤ mm := by rw [hmm]; split <;> omega
    have each : ∀ q, q < len * (m * k) → ∃ z : Int, w.cell? (a.add q) = some (.int .i64 z) := by
      intro q hq
      have hiq : q / (m * k) < len := Nat.div_lt_of_lt_mul (by rw [Nat.mul_comm]; exact hq)
      have hjq : q % (m * k) < m * k := Nat.mod_lt _ hmk
      obtain ⟨cs', hc, htr⟩ := hi (q / (m * k)) (by omega)
      rw [hC] at hc
      obtain ⟨_, hcl, hat⟩ := World.cells?_some hc
      obtain ⟨ys, n', _, _, _, hyl, hfd⟩ := DataW.trod_struct he htr
      have hjm : q % (m * k) / k < m := Nat.div_lt_of_lt_mul (Nat.lt_of_lt_of_eq hjq (Nat.mul_comm m k))
      have hj : fs[q % (m * k) / k]? = some (fs[q % (m * k) / k]'(by omega)) := by simp [hfs, hjm]
      obtain ⟨ho, hc1, fs2, he2, hone, hfs2, hint⟩ := hin _ _ hj
      have h1 := hfd _ _ hj
      rw [ho, hc1] at h1
      have hys : ys[q % (m * k) / k]? = some (ys[q % (m * k) / k]'(by omega)) := List.getElem?_eq_getElem (by omega)
      rw [hys] at h1
      have hj2 : q % (m * k) % k < k := Nat.mod_lt _ hk
      have hdm : q % (m * k) / k * k + q % (m * k) % k = q % (m * k) := by rw [Nat.mul_comm]; exact Nat.div_add_mod _ k
      have hlen2 : ((cs'.drop (q % (m * k) / k * k)).take k).length = k := by
        rw [List.length_take, List.length_drop, hcl]
        have : (q % (m * k) / k + 1) * k ≤ m * k := Nat.mul_le_mul_right k hjm
        rw [Nat.add_mul] at this
        omega
      obtain ⟨zs, n2, _, _, _, hzl, hfd2⟩ := DataW.trod_struct he2 h1
      have hj3 : fs2[q % (m * k) % k]? = some (fs2[q % (m * k) % k]'(by omega)) := by simp [hfs2, hj2]
      obtain ⟨ho2, hc2⟩ := hone_of hone _ _ hj3
      have h2 := hfd2 _ _ hj3
      rw [ho2, hc2] at h2
      have hone' : (((cs'.drop (q % (m * k) / k * k)).take k).drop (q % (m * k) % k)).take 1 = [((cs'.drop (q % (m * k) / k * k)).take k)[q % (m * k) % k]'(by omega)] := by
        rw [List.drop_eq_getElem_cons (by omega)]
        rfl
      rw [hone'] at h2
      have hzs : zs[q % (m * k) % k]? = some (zs[q % (m * k) % k]'(by omega)) := List.getElem?_eq_getElem (by omega)
      rw [hzs] at h2
      obtain ⟨z, hz, _⟩ := DataW.trod_int (hint _ _ hj3) h2
      have hcell := hat (q % (m * k)) hjq
      rw [Go.Deep.add_add] at hcell
      have eq : q / (m * k) * (m * k) + q % (m * k) = q := by rw [Nat.mul_comm]; exact Nat.div_add_mod q (m * k)
      rw [eq] at hcell
      refine ⟨z, ?_⟩
      rw [hcell, List.getElem?_eq_getElem (by omega : q % (m * k) < cs'.length)]
      simp only [List.cons.injEq, and_true] at hz
      rw [← hz]
      simp only [List.getElem_take, List.getElem_drop, hdm]
    obtain ⟨xs, hx1, hx2⟩ := cells_choose each
    refine ⟨len, xs, by omega, hx1, rfl, some a, cap, rfl, hl, ?_⟩
    rcases Nat.eq_zero_or_pos len with h0 | hpos
    · exact .inl h0
    · right
      obtain ⟨z, hz⟩ := each 0 (Nat.mul_pos hpos hmk)
      have ha0 : a.add 0 = a := by simp [Addr.add]
      rw [ha0] at hz
      have hsp : a.spot = none := by
        unfold World.cell? at hz
        split at hz
        · split at hz
          · cases hz
          · rename_i hs; simpa using hs
        · cases hz
      obtain ⟨g, f, sp⟩ := a
      simp only at hsp
      subst hsp
      refine ⟨g, f, rfl, World.block_lt_of_cell? w _ hz, fun q v hv => ?_⟩
      rw [← addr_add]
      exact hx2 q v hv
/-- Each of the fields is a struct of k ints. -/
def nestB (P : Program) (k : Nat) : Nat → List Field → Bool
  | _, [] => true
  | j, f :: r => (f.offset == j * k && P.cellsOf f.type == k && (match P.underlying f.type with
    | some (.struct fs2) => oneCellFields P fs2 && fs2.size == k && (fs2.toList.all fun f2 => match P.underlying f2.type with
      | some (.int .i64) => true
      | _ => false)
    | _ => false)) && nestB P k (j + 1) r
theorem nestB_get {P : Program} {k : Nat} : ∀ (l : List Field) (j : Nat), nestB P k j l = true → ∀ (i : Nat) f, l[i]? = some f → f.offset = (j + i) * k ∧ P.cellsOf f.type = k ∧ ∃ fs2, P.underlying f.type = some (.struct fs2) ∧ oneCellFields P fs2 = true ∧ fs2.size = k ∧ ∀ (i : Nat) f2, fs2[i]? = some f2 → P.underlying f2.type = some (.int .i64)
  | [], j, _, i, f, hi => by simp at hi
  | g :: r, j, h, i, f, hi => by
    simp only [nestB, Bool.and_eq_true, beq_iff_eq] at h
    obtain ⟨⟨⟨h1, h2⟩, h3⟩, h4⟩ := h
    cases i with
    | zero =>
      obtain rfl : g = f := by simpa using hi
      split at h3
      · rename_i fs2 hu
        simp only [Bool.and_eq_true, beq_iff_eq] at h3
        exact ⟨h1, h2, fs2, hu, h3.1.1, h3.1.2, fields_int h3.2⟩
      · cases h3
    | succ i =>
      have := nestB_get r (j + 1) h4 i f (by simpa using hi)
      rw [show j + (i + 1) = j + 1 + i by omega]
      exact this
theorem nest_fields {P : Program} {k : Nat} {fs : Array Field} (h : nestB P k 0 fs.toList = true) : ∀ (j : Nat) f, fs[j]? = some f → f.offset = j * k ∧ P.cellsOf f.type = k ∧ ∃ fs2, P.underlying f.type = some (.struct fs2) ∧ oneCellFields P fs2 = true ∧ fs2.size = k ∧ ∀ (i : Nat) f2, fs2[i]? = some f2 → P.underlying f2.type = some (.int .i64) := fun j f hf => by
  have := nestB_get fs.toList 0 h j f (by simpa using hf)
  rw [Nat.zero_add] at this
  exact this
end
end Go.Proofs.Ytfjcbindeimoiab
