/-
  The small machine beside the model's: operations on memory. Written by an AI agent.
-/
import Derived.Test.YtkbbdcgknebdbabAbsD
namespace Go.Proofs.Ytkbbdcgknebdbab
open Go.RowKit

def addPl (ρ : Nat → Option Pl) (n : Nat) (p : Pl) : Nat → Option Pl := fun k => if k = n then some p else ρ k
theorem addPl_same (ρ : Nat → Option Pl) (n : Nat) (p : Pl) : addPl ρ n p n = some p := by simp [addPl]
theorem addPl_ne {ρ : Nat → Option Pl} {n k : Nat} {p : Pl} (h : k ≠ n) : addPl ρ n p k = ρ k := by simp [addPl, h]
theorem addPl_ext {ρ : Nat → Option Pl} {n : Nat} {p : Pl} (h : ρ n = none) : Ext ρ (addPl ρ n p) := fun k q hk => by
  have : k ≠ n := fun e => by subst e; rw [h] at hk; cases hk
  rw [addPl_ne this]; exact hk
def setB (m : Nat → Option Blk) (n : Nat) (b : Blk) : Nat → Option Blk := fun k => if k = n then some b else m k
theorem upd_one (s : FS) (dst : Option Tmp) (v : Value) (n : Nat) (b : Blk) (c : List Prop) : (s.upd dst ⟨v, [(n, b)], c⟩).blk = setB s.blk n b := by
  funext k
  simp only [FS.upd, lookW, setB]
  by_cases h : n = k
  · subst h; simp
  · have : ¬ k = n := fun e => h e.symm
    simp [h, this]

theorem MemOk.new {ρ : Nat → Option Pl} {B : Nat} {m : Nat → Option Blk} {w : World} (h : MemOk ρ B m w) {n : Nat} (hn : m n = none) {b : Blk} {p : Pl} {o : Obj} (hp : p.1 = w.heap.size) (hb : BlkOk (addPl ρ n p) B (w.alloc o) n b) :
    MemOk (addPl ρ n p) B (setB m n b) (w.alloc o) where
  fresh := fun k hk => by
    by_cases hkn : k = n
    · subst hkn; simp [setB] at hk
    · rw [addPl_ne hkn]
      exact h.fresh k (by simpa [setB, hkn] using hk)
  ok := fun k c hk => by
    by_cases hkn : k = n
    · subst hkn
      obtain rfl : b = c := by simpa [setB] using hk
      exact hb
    · have hk' : m k = some c := by simpa [setB, hkn] using hk
      refine (h.ok k c hk').keep (addPl_ext (h.fresh n hn)) (by simp) fun q hl hq => ?_
      obtain ⟨q', h1, h2, _⟩ := (h.ok k c hk').place hl
      rw [hq] at h1
      obtain rfl : q = q' := by simpa using h1
      exact Below.heap_alloc w o _ h2
  sep := fun k k' c c' q q' hk hown hk' hlive hne hq hq' => by
    by_cases hkn : k = n
    · subst hkn
      have hk'n : k' ≠ k := fun e => hne e.symm
      have hm : m k' = some c' := by simpa [setB, hk'n] using hk'
      rw [addPl_same] at hq
      rw [addPl_ne hk'n] at hq'
      obtain ⟨q2, h1, h2, _⟩ := (h.ok k' c' hm).place hlive
      rw [hq'] at h1
      obtain rfl : q' = q2 := by simpa using h1
      obtain rfl : p = q := by simpa using hq
      omega
    · have hm : m k = some c := by simpa [setB, hkn] using hk
      rw [addPl_ne hkn] at hq
      have hcl : c.live = true := own_live hown
      obtain ⟨q2, h1, h2, _⟩ := (h.ok k c hm).place hcl
      rw [hq] at h1
      obtain rfl : q = q2 := by simpa using h1
      by_cases hk'n : k' = n
      · subst hk'n
        rw [addPl_same] at hq'
        obtain rfl : p = q' := by simpa using hq'
        omega
      · have hm' : m k' = some c' := by simpa [setB, hk'n] using hk'
        rw [addPl_ne hk'n] at hq'
        exact h.sep k k' c c' q q' hm hown hm' hlive hne hq hq'
/-- A store into a block that the call owns. -/
theorem MemOk.set {ρ : Nat → Option Pl} {B : Nat} {m : Nat → Option Blk} {w w' : World} (h : MemOk ρ B m w) {n : Nat} {b c : Blk} (hn : m n = some b) (hown : b.own = true) {p : Pl} (hp : ρ n = some p) (hs : w.heap.size ≤ w'.heap.size) (hh : ∀ k, k < w.heap.size → k ≠ p.1 → w'.heap[k]? = w.heap[k]?)
    (hb : BlkOk ρ B w' n c) : MemOk ρ B (setB m n c) w' where
  fresh := fun k hk => by
    by_cases hkn : k = n
    · subst hkn; simp [setB] at hk
    · exact h.fresh k (by simpa [setB, hkn] using hk)
  ok := fun k d hk => by
    by_cases hkn : k = n
    · subst hkn
      obtain rfl : c = d := by simpa [setB] using hk
      exact hb
    · have hk' : m k = some d := by simpa [setB, hkn] using hk
      refine (h.ok k d hk').keep (Ext.refl ρ) hs fun q hl hq => ?_
      obtain ⟨q', h1, h2, _⟩ := (h.ok k d hk').place hl
      rw [hq] at h1
      obtain rfl : q = q' := by simpa using h1
      exact hh _ h2 (fun e => h.sep n k b d p q hn hown hk' hl (fun e => hkn e.symm) hp hq e.symm)
  sep := fun k k' d d' q q' hk hown' hk' hlive hne hq hq' => by
    by_cases hkn : k = n
    · subst hkn
      have hk'n : k' ≠ k := fun e => hne e.symm
      exact h.sep k k' b d' q q' hn hown (by simpa [setB, hk'n] using hk') hlive hne hq hq'
    · have hm : m k = some d := by simpa [setB, hkn] using hk
      by_cases hk'n : k' = n
      · subst hk'n
        exact h.sep k k' d b q q' hm hown' hn (own_live hown) hne hq hq'
      · exact h.sep k k' d d' q q' hm hown' (by simpa [setB, hk'n] using hk') hlive hne hq hq'

theorem cells_list {ρ : Nat → Option Pl} {v v' : Value} (k : VR ρ v v') : v.cells.toList.length = v'.cells.size ∧ Cells ρ v.cells.toList v'.cells := by
  obtain ⟨h1, h2⟩ := k.cells
  refine ⟨by simpa using h1, fun i x hx => ?_⟩
  have hx' : v.cells[i]? = some x := by simpa using hx
  have hi : i < v.cells.size := (Array.getElem?_eq_some_iff.1 hx').1
  have hi' : i < v'.cells.size := by omega
  exact ⟨v'.cells[i], by simp [hi'], h2 i _ _ hx' (by simp [hi'])⟩

/-- A new block of cells, a pointer to it. -/
theorem new_conc {w0 : World} {s : FS} {a : Act} {w : World} (hc : Conc w0 s a w) {dst : Option Tmp} {name : Nat} (hn : s.blk name = none) {v v' : Value} {ρ : Nat → Option Pl} (ht : ∀ t, VR ρ (s.tmp t) (a.tmps.getD t undef)) (hm : MemOk ρ w0.heap.size s.blk w) (hv : VR ρ v v') (e : TypeId) (c : List Prop) :
    Conc w0 (s.upd dst ⟨.pointer (some ⟨name, 0, none⟩), [(name, ⟨.box, .vals v.cells.toList⟩)], c⟩) (a.put dst (.pointer (some ⟨w.heap.size, 0, none⟩))) (w.alloc (.cells v'.cells e)) := by
  obtain ⟨h1, h2, h3, _⟩ := hc
  have hB := h3.size
  have hext : Ext ρ (addPl ρ name (w.heap.size, 0, none)) := addPl_ext (hm.fresh name hn)
  have hcl := cells_list hv
  refine put_conc (w := w) h1 h2 (h3.alloc hB _) (fun t => (ht t).ext hext) (.ptr (f := 0) (addPl_same _ _ _)) ?_
  rw [upd_one]
  refine hm.new hn rfl ⟨w.heap.size, addPl_same _ _ _, hB, v'.cells, e, heap_alloc_new w _, hcl.1.symm, hcl.2.ext hext⟩

def boxOp (name : Nat) (x : Operand) : Rd Eff := (rdv x).bind fun v => .ret ⟨.pointer (some ⟨name, 0, none⟩), [(name, ⟨.box, .vals v.cells.toList⟩)], []⟩
theorem boxOp_sound {P : Program} {o : Oper} {t : TypeId} {x : Operand} (ho : o.op = .box t x) {name : Nat} {s : FS} {eff : Eff} {w0 : World} {a : Act} {w : World} {Q : Exit → Act → World → Prop} {K : Act → World → Prop}
    (hr : (boxOp name x).run s = some eff) (hn : s.blk name = none) (hc : Conc w0 s a w) (hK : ∀ a' w', Conc w0 (s.upd o.dst eff) a' w' → K a' w') : o.wp P a w K Q := by
  obtain ⟨ρ, ht, hm⟩ := hc.2.2.2
  obtain ⟨v, h1, h2⟩ := bind_some hr
  obtain rfl : (⟨.pointer (some ⟨name, 0, none⟩), [(name, ⟨.box, .vals v.cells.toList⟩)], []⟩ : Eff) = eff := by simpa [Rd.run] using h2
  exact value_wp (v := .pointer (some ⟨w.heap.size, 0, none⟩)) (w' := w.alloc (.cells (a.eval x).cells t)) (by simp only [execOp, ho]; rfl) (hK _ _ (new_conc hc hn ht hm (rdv_ok h1 ht) t []))

def zeroOf (P : Program) (t : TypeId) : Option Value := (P.info? t).bind (·.zero)
def allocOp (P : Program) (name : Nat) (t : TypeId) : Rd Eff :=
  match zeroOf P t with
  | some z => (match plainV z with
    | true => .ret ⟨.pointer (some ⟨name, 0, none⟩), [(name, ⟨.box, .vals z.cells.toList⟩)], []⟩
    | false => .fail)
  | none => .fail
theorem allocOp_sound {P : Program} {o : Oper} {t : TypeId} (ho : o.op = .alloc t) {name : Nat} {s : FS} {eff : Eff} {w0 : World} {a : Act} {w : World} {Q : Exit → Act → World → Prop} {K : Act → World → Prop}
    (hr : (allocOp P name t).run s = some eff) (hn : s.blk name = none) (hc : Conc w0 s a w) (hK : ∀ a' w', Conc w0 (s.upd o.dst eff) a' w' → K a' w') : o.wp P a w K Q := by
  obtain ⟨ρ, ht, hm⟩ := hc.2.2.2
  unfold allocOp at hr
  split at hr
  rotate_left
  · simp [Rd.run] at hr
  rename_i z hz
  split at hr
  rotate_left
  · simp [Rd.run] at hr
  rename_i hp
  obtain rfl : (⟨.pointer (some ⟨name, 0, none⟩), [(name, ⟨.box, .vals z.cells.toList⟩)], []⟩ : Eff) = eff := by simpa [Rd.run] using hr
  unfold zeroOf at hz
  rcases hi : P.info? t with _ | i
  · simp [hi] at hz
  simp only [hi, Option.bind_some] at hz
  refine value_wp (v := .pointer (some ⟨w.heap.size, 0, none⟩)) (w' := w.alloc (.cells z.cells t)) ?_ (hK _ _ (new_conc hc hn ht hm (.lit hp) t []))
  simp only [execOp, ho]
  simp [Instr.alloc, zeroValue, typeInfo, hi, hz, newVar, newRow, go_sem]

/-- k cells from o on. -/
def cellsAt (cs : List Value) : Nat → Nat → Option (List Value)
  | _, 0 => some []
  | o, k + 1 => match cs[o]? with
    | none => none
    | some v => match cellsAt cs (o + 1) k with
      | none => none
      | some l => some (v :: l)
theorem cellsAt_spec {cs : List Value} : ∀ (k o : Nat) (l : List Value), cellsAt cs o k = some l → l.length = k ∧ ∀ j v, l[j]? = some v → cs[o + j]? = some v
  | 0, o, l, h => by
    obtain rfl : [] = l := by simpa [cellsAt] using h
    exact ⟨rfl, fun j v hj => by simp at hj⟩
  | k + 1, o, l, h => by
    simp only [cellsAt] at h
    split at h
    · cases h
    rename_i v hv
    split at h
    · cases h
    rename_i l' hl'
    obtain rfl : v :: l' = l := by simpa using h
    obtain ⟨h1, h2⟩ := cellsAt_spec k (o + 1) l' hl'
    refine ⟨by simp [h1], fun j u hj => ?_⟩
    cases j with
    | zero =>
      obtain rfl : v = u := by simpa using hj
      exact hv
    | succ j =>
      rw [show o + (j + 1) = o + 1 + j by omega]
      exact h2 j u (by simpa using hj)
def isAggT (P : Program) (t : TypeId) : Option Bool :=
  match P.underlying t with
  | some (.struct _) | some (.array _ _) => some true
  | some _ => some false
  | none => none
def sizeT (P : Program) (t : TypeId) : Option Nat := (P.info? t).map (·.size)
/-- The value of type t that lies in the cells from o on. -/
def loadV (P : Program) (t : TypeId) (cs : List Value) (o : Nat) : Option Value :=
  match isAggT P t with
  | some true => (match sizeT P t with
    | some k => (match cellsAt cs o k with
      | some l => some (.agg l.toArray)
      | none => none)
    | none => none)
  | some false => cs[o]?
  | none => none
theorem VR.ptr_inv {ρ : Nat → Option Pl} {n o : Nat} {v' : Value} (k : VR ρ (.pointer (some ⟨n, o, none⟩)) v') : ∃ g f cp, ρ n = some (g, f, cp) ∧ v' = .pointer (some ⟨g, f + o, none⟩) := by
  cases k with
  | lit hp => simp [plainV, atomV] at hp
  | ptr hn => exact ⟨_, _, _, hn, rfl⟩
def loadOp (P : Program) (t : TypeId) (x : Operand) : Rd Eff := (rdv x).bind fun v => match v with
  | .pointer (some ⟨n, o, none⟩) => .blk n fun b => match b with
    | some b => (match b.live, loadV P t b.cells o with
      | true, some v => .ret ⟨v, [], []⟩
      | _, _ => .fail)
    | none => .fail
  | _ => .fail
/-- What a live block's cells say of memory. -/
theorem live_cell {ρ : Nat → Option Pl} {B : Nat} {w : World} {n : Nat} {b : Blk} (h : BlkOk ρ B w n b) (hl : b.live = true) : ∃ g f cp, ρ n = some (g, f, cp) ∧ ∀ (k : Nat) v, b.cells[k]? = some v → ∃ v', w.cell? ⟨g, f + k, none⟩ = some v' ∧ VR ρ v v' := by
  have at_ : ∀ {g : Nat} {cs' : Array Value} {e : TypeId} (k : Nat), w.heap[g]? = some (.cells cs' e (0, 0)) → w.cell? ⟨g, k, none⟩ = cs'[k]? := fun {g cs' e} k hh => by simp [World.cell?, hh]
  obtain ⟨kd, cs⟩ := b
  cases kd with
  | dead => cases hl
  | view => obtain ⟨g, f, cp, h1, h2, h3⟩ := h; exact ⟨g, f, cp, h1, h3⟩
  | box =>
    obtain ⟨g, h1, h2, cs', e, h3, h4, h5⟩ := h
    exact ⟨g, 0, none, h1, fun k v hv => by rw [Nat.zero_add, at_ k h3]; exact h5 k v hv⟩
  | row e sz =>
    obtain ⟨g, cap, h1, h2, cs', h3, h4, h5⟩ := h
    exact ⟨g, 0, some cap, h1, fun k v hv => by rw [Nat.zero_add, at_ k h3]; exact h5 k v hv⟩
theorem addr_add (g f j : Nat) : (⟨g, f, none⟩ : Addr).add j = ⟨g, f + j, none⟩ := by
  unfold Addr.add
  split
  · subst_vars; rfl
  · rfl
theorem loadV_run {P : Program} {t : TypeId} {cs : List Value} {o : Nat} {v : Value} (h : loadV P t cs o = some v) {ρ : Nat → Option Pl} {w : World} {g f : Nat} (hc : ∀ (k : Nat) v, cs[k]? = some v → ∃ v', w.cell? ⟨g, f + k, none⟩ = some v' ∧ VR ρ v v') :
    ∃ v', (loadVar t ⟨g, f + o, none⟩).run P w = .ok v' w ∧ VR ρ v v' := by
  unfold loadV at h
  have hagg : ∀ b, isAggT P t = some b → (isAgg t).run P w = .ok b w := by
    intro b hb
    unfold isAggT at hb
    unfold isAgg underlying
    split at hb <;> rename_i hu <;> simp [go_sem, hu] at hb ⊢
    · exact hb
    · exact hb
    · exact hb
  split at h
  · rename_i ha
    split at h
    rotate_left
    · cases h
    rename_i k hk
    split at h
    rotate_left
    · cases h
    rename_i l hl
    obtain rfl : Value.agg l.toArray = v := by simpa using h
    obtain ⟨h1, h2⟩ := cellsAt_spec k o l hl
    have hex : ∀ j, ∃ v', j < k → (w.cell? ⟨g, f + o + j, none⟩ = some v' ∧ ∀ u, l[j]? = some u → VR ρ u v') := by
      intro j
      by_cases hj : j < k
      · have hj' : l[j]? = some l[j] := by simp [h1, hj]
        obtain ⟨v', h3, h4⟩ := hc _ _ (h2 j _ hj')
        refine ⟨v', fun _ => ⟨by rw [Nat.add_assoc]; exact h3, fun u hu => ?_⟩⟩
        rw [hj'] at hu
        obtain rfl : l[j] = u := by simpa using hu
        exact h4
      · exact ⟨undef, fun h => absurd h hj⟩
    let fv : Nat → Value := fun j => Classical.choose (hex j)
    have hfv := fun j => Classical.choose_spec (hex j)
    have hrun := run_loadCells (P := P) (w := w) (⟨g, f + o, none⟩) k fv (fun j hj => by rw [addr_add]; exact (hfv j hj).1)
    unfold sizeT at hk
    rcases hi : P.info? t with _ | i
    · simp [hi] at hk
    simp only [hi, Option.map_some, Option.some.injEq] at hk
    refine ⟨.agg ((List.range k).map fv).toArray, ?_, .agg (by simp [h1]) fun j u u' hu hu' => ?_⟩
    · have hrun' : (loadCellsFrom ⟨g, f + o, none⟩ 0 k #[]).run P w = .ok ((List.range k).map fv).toArray w := hrun
      unfold loadVar
      simp [go_sem, hagg _ ha, sizeOf, typeInfo, hi, hk, hrun']
    · have hj : j < k := by
        have := (Array.getElem?_eq_some_iff.1 hu').1
        simpa using this
      have e1 : fv j = u' := by
        have : ((List.range k).map fv).toArray[j]? = some (fv j) := by simp [hj]
        rw [this] at hu'
        simpa using hu'
      rw [← e1]
      exact (hfv j hj).2 u (by simpa using hu)
  · rename_i ha
    obtain ⟨v', h3, h4⟩ := hc _ _ h
    refine ⟨v', ?_, h4⟩
    unfold loadVar
    simp [go_sem, hagg _ ha, h3]
  · cases h
theorem loadOp_sound {P : Program} {o : Oper} {t : TypeId} {x : Operand} (ho : o.op = .load t x) {s : FS} {eff : Eff} {w0 : World} {a : Act} {w : World} {Q : Exit → Act → World → Prop} {K : Act → World → Prop}
    (hr : (loadOp P t x).run s = some eff) (hc : Conc w0 s a w) (hK : ∀ a' w', Conc w0 (s.upd o.dst eff) a' w' → K a' w') : o.wp P a w K Q := by
  obtain ⟨ρ, ht, hm⟩ := hc.2.2.2
  obtain ⟨v, h1, h2⟩ := bind_some hr
  split at h2
  rotate_left
  · simp [Rd.run] at h2
  rename_i n off
  simp only [Rd.run] at h2
  split at h2
  rotate_left
  · simp [Rd.run] at h2
  rename_i b hb
  split at h2
  rotate_left
  · simp [Rd.run] at h2
  rename_i u hl hu
  obtain rfl : (⟨u, [], []⟩ : Eff) = eff := by simpa [Rd.run] using h2
  obtain ⟨g, f, cp, h3, h4⟩ := live_cell (hm.ok n b hb) hl
  obtain ⟨u', h5, h6⟩ := loadV_run hu h4
  have hv := rdv_ok h1 ht
  obtain ⟨g', f', cp', h7, h8⟩ := hv.ptr_inv
  rw [h3] at h7
  obtain ⟨rfl, rfl, rfl⟩ : g = g' ∧ f = f' ∧ cp = cp' := by simpa using h7
  refine value_wp (v := u') (w' := w) ?_ (hK _ _ (quiet_conc hc ht hm h6))
  simp only [execOp, ho, h8, Instr.loadAt, Instr.sureAddr, Sem.run_bind, Sem.run_pure, Result.andThen_ok, h5]
end Go.Proofs.Ytkbbdcgknebdbab
