/-
  The small machine: new rows of zeros. Written by an AI agent.
-/
import Derived.Test.YtoijfjifaljpaabAbsQ
import Derived.Laws.MakeOwn
namespace Go.Proofs.Ytoijfjifaljpaab
open Go.RowKit

def isZero (v : Value) : Bool := match v with
  | .int .i64 n => decide (n = 0)
  | _ => false
theorem isZero_spec {v : Value} (h : isZero v = true) : v = .int .i64 0 := by
  unfold isZero at h
  split at h
  · obtain rfl := of_decide_eq_true h
    rfl
  · cases h
def makeOp (P : Program) (name : Nat) (t : TypeId) (x y : Operand) : Rd Eff := (rdv x).bind fun vl => (rdv y).bind fun vc => match vl, vc with
  | .int _ l, .int _ c => (match P.underlying t with
    | some (.slice e) => (match P.info? e with
      | some i => (match i.zero with
        | some z => (match z.cells.toList.all isZero && Nat.beq z.cells.size i.size with
          | true => .ret ⟨.slice (some ⟨name, 0, none⟩) l.toNat l.toNat, [(name, ⟨.row e i.size, .ints (List.replicate (c.toNat * i.size) 0)⟩)], [0 ≤ l ∧ l ≤ c ∧ i.bytes * c.toNat ≤ 281474976710656 ∧ c ≤ 9223372036854775807]⟩
          | false => .fail)
        | none => .fail)
      | none => .fail)
    | _ => .fail)
  | _, _ => .fail
theorem made_zero {cs : Array Value} (h : cs.toList.all isZero = true) {n : Nat} (hn : n = 0 ∨ 0 < cs.size) : (madeCells cs n).size = n ∧ ∀ k, k < n → (madeCells cs n)[k]? = some (.int .i64 0) := by
  refine ⟨by simp [madeCells], fun k hk => ?_⟩
  have hpos : 0 < cs.size := by omega
  have hlt : k % cs.size < cs.size := Nat.mod_lt _ hpos
  have e : (madeCells cs n)[k]? = some (cs[k % cs.size]!) := by simp [madeCells, hk]
  have hz : cs[k % cs.size] = .int .i64 0 := isZero_spec (List.all_eq_true.1 h _ (by simp))
  rw [e, getElem!_pos cs _ hlt, hz]
theorem makeOp_sound {P : Program} {o : Oper} {t : TypeId} {x y : Operand} (ho : o.op = .makeSlice t x y) {name : Nat} {s : FS} {eff : Eff} {w0 : Start} {a : Act} {w : World} {Q : Exit → Act → World → Prop} {K : Act → World → Prop}
    (hr : (makeOp P name t x y).run s = some eff) (hn : s.blk name = none) (hc : Conc w0 s a w) (hcond : eff.cond) (hK : ∀ a' w', Conc w0 (s.upd o.dst eff) a' w' → K a' w') : owp P w0 o a w K Q := by
  obtain ⟨ρ, ht, hm⟩ := hc.2.2.2
  obtain ⟨vl, h1, h2⟩ := bind_some hr
  obtain ⟨vc, h3, h4⟩ := bind_some h2
  split at h4
  rotate_left
  · simp [Rd.run] at h4
  rename_i kl l kc c
  split at h4
  rotate_left
  · simp [Rd.run] at h4
  rename_i e hu
  split at h4
  rotate_left
  · simp [Rd.run] at h4
  rename_i i hi
  split at h4
  rotate_left
  · simp [Rd.run] at h4
  rename_i z hz
  split at h4
  rotate_left
  · simp [Rd.run] at h4
  rename_i hchk
  simp only [Bool.and_eq_true] at hchk
  have hsz : z.cells.size = i.size := Nat.eq_of_beq_eq_true hchk.2
  obtain rfl : (⟨.slice (some ⟨name, 0, none⟩) l.toNat l.toNat, [(name, ⟨.row e i.size, .ints (List.replicate (c.toNat * i.size) 0)⟩)], [0 ≤ l ∧ l ≤ c ∧ i.bytes * c.toNat ≤ 281474976710656 ∧ c ≤ 9223372036854775807]⟩ : Eff) = eff := by simpa [Rd.run] using h4
  obtain ⟨c1, c2, c3, c4⟩ : 0 ≤ l ∧ l ≤ c ∧ i.bytes * c.toNat ≤ 281474976710656 ∧ c ≤ 9223372036854775807 := hcond.1
  have e1 := (rdv_ok h1 ht).plain rfl
  have e2 := (rdv_ok h3 ht).plain rfl
  have c3' : (i.bytes : Int) * c ≤ 281474976710656 := by
    have e : (c.toNat : Int) = c := Int.toNat_of_nonneg (by omega)
    have : ((i.bytes * c.toNat : Nat) : Int) ≤ 281474976710656 := by omega
    rw [Int.natCast_mul, e] at this
    exact this
  have hrun := run_make (P := P) w t e i z hu hi hz kl kc l c c1 c2 c3' c4
  have hpos : c.toNat * i.size = 0 ∨ 0 < z.cells.size := by
    rw [hsz]
    rcases Nat.eq_zero_or_pos i.size with h | h
    · left; rw [h]; rfl
    · right; exact h
  obtain ⟨m1, m2⟩ := made_zero hchk.1 hpos
  refine value_wp (v := .slice (some ⟨w.heap.size, 0, none⟩) l.toNat c.toNat) (w' := w.alloc (.cells (madeCells z.cells (c.toNat * i.size)) e)) ?_ (hK _ _ (newRow_conc (cs := .ints (List.replicate (c.toNat * i.size) 0)) hc hn ht hm (by omega) m1 ?_ _))
  · simp only [execOp, ho, e1, e2, hrun, Sem.run_bind, Result.andThen_ok, Sem.run_pure]
  · intro k v hv
    simp only [Cs.list, List.getElem?_map] at hv
    have hk : k < c.toNat * i.size := by
      rcases Nat.lt_or_ge k (c.toNat * i.size) with h | h
      · exact h
      · rw [List.getElem?_eq_none (by simpa using h)] at hv; simp at hv
    obtain rfl : Value.int .i64 0 = v := by simpa [hk] using hv
    exact ⟨_, m2 k hk, .lit rfl⟩
end Go.Proofs.Ytoijfjifaljpaab
