/-
  The small machine beside the model's: operations on memory. Written by an AI agent.
-/
import Derived.Test.YtoijfjifaljpaabAbsD
namespace Go.Proofs.Ytoijfjifaljpaab
open Go.RowKit

def addPl (ρ : Nat → Option Pl) (n : Nat) (p : Pl) : Nat → Option Pl := fun k => if k = n then some p else ρ k
theorem addPl_same (ρ : Nat → Option Pl) (n : Nat) (p : Pl) : addPl ρ n p n = some p := by simp [addPl]
theorem addPl_ne {ρ : Nat → Option Pl} {n k : Nat} {p : Pl} (h : k ≠ n) : addPl ρ n p k = ρ k := by simp [addPl, h]
theorem addPl_ext {ρ : Nat → Option Pl} {n : Nat} {p : Pl} (h : ρ n = none) : Ext ρ (addPl ρ n p) := fun k q hk => by
  have : k ≠ n := fun e => by subst e; rw [h] at hk; cases hk
  rw [addPl_ne this]; exact hk
def setB (m : Nat → Option Blk) (n : Nat) (b : Blk) : Nat → Option Blk := fun k => if k = n then some b else m k
theorem upd_one (s : FS) (dst : Option Tmp) (v : Value) (n : Nat) (b : Blk) (c : List Prop) : (s.upd dst ⟨v, [(n, b)], c⟩).blk = setB s.blk n b := by
  funext k
  simp only [FS.upd, lookW, setB]
  by_cases h : n = k
  · subst h; simp
  · have : ¬ k = n := fun e => h e.symm
    simp [h, this]

theorem MemOk.new {ρ0 ρ : Nat → Option Pl} {B : Nat → Prop} {m : Nat → Option Blk} {w : World} (h : MemOk ρ0 ρ B m w) {n : Nat} (hn : m n = none) {b : Blk} {p : Pl} {o : Obj} (hp : p.1 = w.heap.size) (hb : BlkOk (addPl ρ n p) B (w.alloc o) n b) :
    MemOk ρ0 (addPl ρ n p) B (setB m n b) (w.alloc o) where
  ext := h.ext.trans (addPl_ext (h.fresh n hn))
  fresh := fun k hk => by
    by_cases hkn : k = n
    · subst hkn; simp [setB] at hk
    · rw [addPl_ne hkn]
      exact h.fresh k (by simpa [setB, hkn] using hk)
  ok := fun k c hk => by
    by_cases hkn : k = n
    · subst hkn
      obtain rfl : b = c := by simpa [setB] using hk
      exact hb
    · have hk' : m k = some c := by simpa [setB, hkn] using hk
      exact (h.ok k c hk').keep (addPl_ext (h.fresh n hn)) (by simp) fun q hl hq hnq => Below.heap_alloc w o _ ((h.ok k c hk').real hl hq hnq).1
  sep := fun k k' c c' q q' hk hown hk' hlive hne hq hq' hnq hnq' => by
    by_cases hkn : k = n
    · subst hkn
      have hk'n : k' ≠ k := fun e => hne e.symm
      have hm : m k' = some c' := by simpa [setB, hk'n] using hk'
      rw [addPl_same] at hq
      rw [addPl_ne hk'n] at hq'
      have h2 := ((h.ok k' c' hm).real hlive hq' hnq').1
      obtain rfl : p = q := by simpa using hq
      omega
    · have hm : m k = some c := by simpa [setB, hkn] using hk
      rw [addPl_ne hkn] at hq
      have hcl : c.live = true := own_live hown
      have h2 := ((h.ok k c hm).real hcl hq hnq).1
      by_cases hk'n : k' = n
      · subst hk'n
        rw [addPl_same] at hq'
        obtain rfl : p = q' := by simpa using hq'
        omega
      · have hm' : m k' = some c' := by simpa [setB, hk'n] using hk'
        rw [addPl_ne hk'n] at hq'
        exact h.sep k k' c c' q q' hm hown hm' hlive hne hq hq' hnq hnq'
/-- A store into a block that the call owns. -/
theorem MemOk.set {ρ0 ρ : Nat → Option Pl} {B : Nat → Prop} {m : Nat → Option Blk} {w w' : World} (h : MemOk ρ0 ρ B m w) {n : Nat} {b c : Blk} (hn : m n = some b) (hown : b.own = true) {p : Pl} (hp : ρ n = some p) (hnp : ¬ nilPl p) (hs : w.heap.size ≤ w'.heap.size) (hh : ∀ k, k < w.heap.size → k ≠ p.1 → w'.heap[k]? = w.heap[k]?)
    (hb : BlkOk ρ B w' n c) : MemOk ρ0 ρ B (setB m n c) w' where
  ext := h.ext
  fresh := fun k hk => by
    by_cases hkn : k = n
    · subst hkn; simp [setB] at hk
    · exact h.fresh k (by simpa [setB, hkn] using hk)
  ok := fun k d hk => by
    by_cases hkn : k = n
    · subst hkn
      obtain rfl : c = d := by simpa [setB] using hk
      exact hb
    · have hk' : m k = some d := by simpa [setB, hkn] using hk
      exact (h.ok k d hk').keep (Ext.refl ρ) hs fun q hl hq hnq => hh _ ((h.ok k d hk').real hl hq hnq).1 (fun e => h.sep n k b d p q hn hown hk' hl (fun e => hkn e.symm) hp hq hnp hnq e.symm)
  sep := fun k k' d d' q q' hk hown' hk' hlive hne hq hq' hnq hnq' => by
    by_cases hkn : k = n
    · subst hkn
      have hk'n : k' ≠ k := fun e => hne e.symm
      exact h.sep k k' b d' q q' hn hown (by simpa [setB, hk'n] using hk') hlive hne hq hq' hnq hnq'
    · have hm : m k = some d := by simpa [setB, hkn] using hk
      by_cases hk'n : k' = n
      · subst hk'n
        exact h.sep k k' d b q q' hm hown' hn (own_live hown) hne hq hq' hnq hnq'
      · exact h.sep k k' d d' q q' hm hown' (by simpa [setB, hk'n] using hk') hlive hne hq hq' hnq hnq'

theorem cells_list {ρ : Nat → Option Pl} {v v' : Value} (k : VR ρ v v') (hnt : isTop v = false) : v.cells.toList.length = v'.cells.size ∧ Cells ρ v.cells.toList v'.cells := by
  obtain ⟨h1, h2⟩ := k.cells hnt
  refine ⟨by simpa using h1, fun i x hx => ?_⟩
  have hx' : v.cells[i]? = some x := by simpa using hx
  have hi : i < v.cells.size := (Array.getElem?_eq_some_iff.1 hx').1
  have hi' : i < v'.cells.size := by omega
  exact ⟨v'.cells[i], by simp [hi'], h2 i _ _ hx' (by simp [hi'])⟩

/-- A new block of cells, a pointer to it. -/
theorem new_conc {w0 : Start} {s : FS} {a : Act} {w : World} (hc : Conc w0 s a w) {dst : Option Tmp} {name : Nat} (hn : s.blk name = none) {v v' : Value} {ρ : Nat → Option Pl} (ht : ∀ t, VR ρ (s.tmp t) (a.tmps.getD t undef)) (hm : MemOk w0.ρ0 ρ w0.kp s.blk w) (hv : VR ρ v v') (hnt : isTop v = false) (e : TypeId) (c : List Prop) :
    Conc w0 (s.upd dst ⟨.pointer (some ⟨name, 0, none⟩), [(name, ⟨.box, .vals v.cells.toList⟩)], c⟩) (a.put dst (.pointer (some ⟨w.heap.size, 0, none⟩))) (w.alloc (.cells v'.cells e)) := by
  obtain ⟨h1, h2, h3, _⟩ := hc
  have hB : ∀ k, w0.kp k → k < w.heap.size := fun k hk => Nat.lt_of_lt_of_le (w0.kpl k hk) h3.size
  have hext : Ext ρ (addPl ρ name (w.heap.size, 0, none)) := addPl_ext (hm.fresh name hn)
  have hcl := cells_list hv hnt
  refine put_conc (w := w) h1 h2 (h3.alloc hB _) (fun t => (ht t).ext hext) (.ptr (f := 0) (addPl_same _ _ _) (.inl rfl)) ?_
  rw [upd_one]
  refine hm.new hn rfl ⟨w.heap.size, addPl_same _ _ _, new_free hB, v'.cells, e, heap_alloc_new w _, hcl.1.symm, hcl.2.ext hext⟩

def boxOp (name : Nat) (x : Operand) : Rd Eff := (rdv x).bind fun v => match isTop v with
  | false => .ret ⟨.pointer (some ⟨name, 0, none⟩), [(name, ⟨.box, .vals v.cells.toList⟩)], []⟩
  | true => .fail
theorem boxOp_sound {P : Program} {o : Oper} {t : TypeId} {x : Operand} (ho : o.op = .box t x) {name : Nat} {s : FS} {eff : Eff} {w0 : Start} {a : Act} {w : World} {Q : Exit → Act → World → Prop} {K : Act → World → Prop}
    (hr : (boxOp name x).run s = some eff) (hn : s.blk name = none) (hc : Conc w0 s a w) (hK : ∀ a' w', Conc w0 (s.upd o.dst eff) a' w' → K a' w') : owp P w0 o a w K Q := by
  obtain ⟨ρ, ht, hm⟩ := hc.2.2.2
  obtain ⟨v, h1, h2⟩ := bind_some hr
  split at h2
  rotate_left
  · simp [Rd.run] at h2
  rename_i hnt
  obtain rfl : (⟨.pointer (some ⟨name, 0, none⟩), [(name, ⟨.box, .vals v.cells.toList⟩)], []⟩ : Eff) = eff := by simpa [Rd.run] using h2
  exact value_wp (v := .pointer (some ⟨w.heap.size, 0, none⟩)) (w' := w.alloc (.cells (a.eval x).cells t)) (by simp only [execOp, ho]; rfl) (hK _ _ (new_conc hc hn ht hm (rdv_ok h1 ht) hnt t []))

def zeroOf (P : Program) (t : TypeId) : Option Value := (P.info? t).bind (·.zero)
def allocOp (P : Program) (name : Nat) (t : TypeId) : Rd Eff :=
  match zeroOf P t with
  | some z => (match plainV z with
    | true => .ret ⟨.pointer (some ⟨name, 0, none⟩), [(name, ⟨.box, .vals z.cells.toList⟩)], []⟩
    | false => .fail)
  | none => .fail
theorem allocOp_sound {P : Program} {o : Oper} {t : TypeId} (ho : o.op = .alloc t) {name : Nat} {s : FS} {eff : Eff} {w0 : Start} {a : Act} {w : World} {Q : Exit → Act → World → Prop} {K : Act → World → Prop}
    (hr : (allocOp P name t).run s = some eff) (hn : s.blk name = none) (hc : Conc w0 s a w) (hK : ∀ a' w', Conc w0 (s.upd o.dst eff) a' w' → K a' w') : owp P w0 o a w K Q := by
  obtain ⟨ρ, ht, hm⟩ := hc.2.2.2
  unfold allocOp at hr
  split at hr
  rotate_left
  · simp [Rd.run] at hr
  rename_i z hz
  split at hr
  rotate_left
  · simp [Rd.run] at hr
  rename_i hp
  obtain rfl : (⟨.pointer (some ⟨name, 0, none⟩), [(name, ⟨.box, .vals z.cells.toList⟩)], []⟩ : Eff) = eff := by simpa [Rd.run] using hr
  unfold zeroOf at hz
  rcases hi : P.info? t with _ | i
  · simp [hi] at hz
  simp only [hi, Option.bind_some] at hz
  refine value_wp (v := .pointer (some ⟨w.heap.size, 0, none⟩)) (w' := w.alloc (.cells z.cells t)) ?_ (hK _ _ (new_conc hc hn ht hm (.lit hp) (by cases z <;> first | rfl | (simp [plainV, atomV] at hp)) t []))
  simp only [execOp, ho]
  simp [Instr.alloc, zeroValue, typeInfo, hi, hz, newVar, newRow, go_sem]

/-- k cells from o on. -/
def cellsAt (cs : List Value) : Nat → Nat → Option (List Value)
  | _, 0 => some []
  | o, k + 1 => match cs[o]? with
    | none => none
    | some v => match cellsAt cs (o + 1) k with
      | none => none
      | some l => some (v :: l)
theorem cellsAt_spec {cs : List Value} : ∀ (k o : Nat) (l : List Value), cellsAt cs o k = some l → l.length = k ∧ ∀ j v, l[j]? = some v → cs[o + j]? = some v
  | 0, o, l, h => by
    obtain rfl : [] = l := by simpa [cellsAt] using h
    exact ⟨rfl, fun j v hj => by simp at hj⟩
  | k + 1, o, l, h => by
    simp only [cellsAt] at h
    split at h
    · cases h
    rename_i v hv
    split at h
    · cases h
    rename_i l' hl'
    obtain rfl : v :: l' = l := by simpa using h
    obtain ⟨h1, h2⟩ := cellsAt_spec k (o + 1) l' hl'
    refine ⟨by simp [h1], fun j u hj => ?_⟩
    cases j with
    | zero =>
      obtain rfl : v = u := by simpa using hj
      exact hv
    | succ j =>
      rw [show o + (j + 1) = o + 1 + j by omega]
      exact h2 j u (by simpa using hj)
def isAggT (P : Program) (t : TypeId) : Option Bool :=
  match P.underlying t with
  | some (.struct _) | some (.array _ _) => some true
  | some _ => some false
  | none => none
def sizeT (P : Program) (t : TypeId) : Option Nat := (P.info? t).map (·.size)
/-- The value of type t that lies in the cells from o on. -/
def loadV (P : Program) (t : TypeId) (cs : List Value) (o : Nat) : Option Value :=
  match isAggT P t with
  | some true => (match sizeT P t with
    | some k => (match cellsAt cs o k with
      | some l => some (.agg l.toArray)
      | none => none)
    | none => none)
  | some false => cs[o]?
  | none => none
theorem VR.ptr_inv {ρ : Nat → Option Pl} {n o : Nat} {v' : Value} (k : VR ρ (.pointer (some ⟨n, o, none⟩)) v') : ∃ g f cp, ρ n = some (g, f, cp) ∧ okPl f cp ∧ v' = .pointer (some ⟨g, f + o, none⟩) := by
  cases k with
  | lit hp => simp [plainV, atomV] at hp
  | ptr hn hq => exact ⟨_, _, _, hn, hq, rfl⟩
/-- Ints from o on. -/
def intsFrom (xs : List Int) : Nat → Nat → List Value
  | _, 0 => []
  | o, k + 1 => .int .i64 (xs.getD o 0) :: intsFrom xs (o + 1) k
theorem intsFrom_at {xs : List Int} : ∀ (k o : Nat), o + k ≤ xs.length → cellsAt (xs.map (Value.int .i64)) o k = some (intsFrom xs o k)
  | 0, _, _ => rfl
  | k + 1, o, h => by
    have ih := intsFrom_at (xs := xs) k (o + 1) (by omega)
    have e : (xs.map (Value.int .i64))[o]? = some (.int .i64 (xs.getD o 0)) := by
      have : o < xs.length := by omega
      simp [this]
    simp only [cellsAt, e, ih, intsFrom]
/-- The value of type t that lies in the cells from o on, and on which condition. -/
def loadC (P : Program) (t : TypeId) (cs : Cs) (o : Nat) : Option (Value × List Prop) :=
  match cs with
  | .vals l => (match loadV P t l o with
    | some v => some (v, [])
    | none => none)
  | .ints xs => (match isAggT P t with
    | some true => (match sizeT P t with
      | some k => some (.agg (intsFrom xs o k).toArray, [o + k ≤ xs.length])
      | none => none)
    | some false => some (.int .i64 (xs.getD o 0), [o < xs.length])
    | none => none)
  | .bytes bs => (match isAggT P t with
    | some false => some (.int .u8 (bs.getD o 0), [o < bs.length])
    | _ => none)
theorem loadC_is {P : Program} {t : TypeId} {cs : Cs} {o : Nat} {v : Value} {C : List Prop} (h : loadC P t cs o = some (v, C)) (hC : AllP C) : loadV P t cs.list o = some v := by
  unfold loadC at h
  split at h
  · split at h
    · rename_i u hu
      obtain ⟨rfl, rfl⟩ : u = v ∧ [] = C := by simpa using h
      exact hu
    · cases h
  · rename_i xs
    split at h
    · rename_i ha
      split at h
      · rename_i k hk
        obtain ⟨rfl, rfl⟩ : Value.agg (intsFrom xs o k).toArray = v ∧ [o + k ≤ xs.length] = C := by simpa using h
        simp only [loadV, ha, hk, Cs.list, intsFrom_at k o hC.1]
      · cases h
    · rename_i ha
      obtain ⟨rfl, rfl⟩ : Value.int .i64 (xs.getD o 0) = v ∧ [o < xs.length] = C := by simpa using h
      have : o < xs.length := hC.1
      simp [loadV, ha, Cs.list, this]
    · cases h
  · rename_i bs
    split at h
    · rename_i ha
      obtain ⟨rfl, rfl⟩ : Value.int .u8 (bs.getD o 0) = v ∧ [o < bs.length] = C := by simpa using h
      have : o < bs.length := hC.1
      simp [loadV, ha, Cs.list, this]
    · cases h
def loadOp (P : Program) (t : TypeId) (x : Operand) : Rd Eff := (rdv x).bind fun v => match v with
  | .pointer (some ⟨n, o, none⟩) => .blk n fun b => match b with
    | some b => (match b.live, loadC P t b.cs o with
      | true, some (v, C) => .ret ⟨v, [], C⟩
      | _, _ => .fail)
    | none => .fail
  | _ => .fail
/-- What a live block's cells say of memory. -/
theorem live_cell {ρ : Nat → Option Pl} {B : Nat → Prop} {w : World} {n : Nat} {b : Blk} (h : BlkOk ρ B w n b) (hl : b.live = true) {g f : Nat} {cp : Option Nat} (hp : ρ n = some (g, f, cp)) (hq : okPl f cp) : g < w.heap.size ∧ ∀ (k : Nat) v, b.cells[k]? = some v → ∃ v', w.cell? ⟨g, f + k, none⟩ = some v' ∧ VR ρ v v' := by
  have at_ : ∀ {g : Nat} {cs' : Array Value} {e : TypeId} (k : Nat), w.heap[g]? = some (.cells cs' e (0, 0)) → w.cell? ⟨g, k, none⟩ = cs'[k]? := fun {g cs' e} k hh => by simp [World.cell?, hh]
  refine ⟨(h.real hl hp hq.not).1, ?_⟩
  obtain ⟨kd, cs⟩ := b
  cases kd with
  | dead => cases hl
  | view =>
    rcases h with ⟨p, h2, h3⟩ | ⟨g', f', cp', h1, hq, h2, h3⟩
    · rw [hp] at h2
      obtain rfl : (g, f, cp) = p := by simpa using h2
      exact absurd h3 hq.not
    · rw [hp] at h1
      obtain ⟨rfl, rfl, rfl⟩ : g = g' ∧ f = f' ∧ cp = cp' := by simpa using h1
      exact h3
  | box =>
    obtain ⟨g', h1, h2, cs', e, h3, h4, h5⟩ := h
    rw [hp] at h1
    obtain ⟨rfl, rfl, rfl⟩ : g = g' ∧ f = 0 ∧ cp = none := by simpa using h1
    exact fun k v hv => by rw [Nat.zero_add, at_ k h3]; exact h5 k v hv
  | row e sz =>
    rcases h with ⟨p, h2, h3, h4⟩ | ⟨g', cap, h1, h2, cs', h3, h4, h5⟩
    · rw [hp] at h2
      obtain rfl : (g, f, cp) = p := by simpa using h2
      exact absurd ⟨h3, 0, h4⟩ hq.not
    rw [hp] at h1
    obtain ⟨rfl, rfl, rfl⟩ : g = g' ∧ f = 0 ∧ cp = some cap := by simpa using h1
    exact fun k v hv => by rw [Nat.zero_add, at_ k h3]; exact h5 k v hv
theorem addr_add (g f j : Nat) : (⟨g, f, none⟩ : Addr).add j = ⟨g, f + j, none⟩ := by
  unfold Addr.add
  split
  · subst_vars; rfl
  · rfl
theorem loadV_run {P : Program} {t : TypeId} {cs : List Value} {o : Nat} {v : Value} (h : loadV P t cs o = some v) {ρ : Nat → Option Pl} {w : World} {g f : Nat} (hc : ∀ (k : Nat) v, cs[k]? = some v → ∃ v', w.cell? ⟨g, f + k, none⟩ = some v' ∧ VR ρ v v') :
    ∃ v', (loadVar t ⟨g, f + o, none⟩).run P w = .ok v' w ∧ VR ρ v v' := by
  unfold loadV at h
  have hagg : ∀ b, isAggT P t = some b → (isAgg t).run P w = .ok b w := by
    intro b hb
    unfold isAggT at hb
    unfold isAgg underlying
    split at hb <;> rename_i hu <;> simp [go_sem, hu] at hb ⊢
    · exact hb
    · exact hb
    · exact hb
  split at h
  · rename_i ha
    split at h
    rotate_left
    · cases h
    rename_i k hk
    split at h
    rotate_left
    · cases h
    rename_i l hl
    obtain rfl : Value.agg l.toArray = v := by simpa using h
    obtain ⟨h1, h2⟩ := cellsAt_spec k o l hl
    have hex : ∀ j, ∃ v', j < k → (w.cell? ⟨g, f + o + j, none⟩ = some v' ∧ ∀ u, l[j]? = some u → VR ρ u v') := by
      intro j
      by_cases hj : j < k
      · have hj' : l[j]? = some l[j] := by simp [h1, hj]
        obtain ⟨v', h3, h4⟩ := hc _ _ (h2 j _ hj')
        refine ⟨v', fun _ => ⟨by rw [Nat.add_assoc]; exact h3, fun u hu => ?_⟩⟩
        rw [hj'] at hu
        obtain rfl : l[j] = u := by simpa using hu
        exact h4
      · exact ⟨undef, fun h => absurd h hj⟩
    let fv : Nat → Value := fun j => Classical.choose (hex j)
    have hfv := fun j => Classical.choose_spec (hex j)
    have hrun := run_loadCells (P := P) (w := w) (⟨g, f + o, none⟩) k fv (fun j hj => by rw [addr_add]; exact (hfv j hj).1)
    unfold sizeT at hk
    rcases hi : P.info? t with _ | i
    · simp [hi] at hk
    simp only [hi, Option.map_some, Option.some.injEq] at hk
    refine ⟨.agg ((List.range k).map fv).toArray, ?_, .agg (by simp [h1]) fun j u u' hu hu' => ?_⟩
    · have hrun' : (loadCellsFrom ⟨g, f + o, none⟩ 0 k #[]).run P w = .ok ((List.range k).map fv).toArray w := hrun
      unfold loadVar
      simp [go_sem, hagg _ ha, sizeOf, typeInfo, hi, hk, hrun']
    · have hj : j < k := by
        have := (Array.getElem?_eq_some_iff.1 hu').1
        simpa using this
      have e1 : fv j = u' := by
        have : ((List.range k).map fv).toArray[j]? = some (fv j) := by simp [hj]
        rw [this] at hu'
        simpa using hu'
      rw [← e1]
      exact (hfv j hj).2 u (by simpa using hu)
  · rename_i ha
    obtain ⟨v', h3, h4⟩ := hc _ _ h
    refine ⟨v', ?_, h4⟩
    unfold loadVar
    simp [go_sem, hagg _ ha, h3]
  · cases h
theorem loadOp_sound {P : Program} {o : Oper} {t : TypeId} {x : Operand} (ho : o.op = .load t x) {s : FS} {eff : Eff} {w0 : Start} {a : Act} {w : World} {Q : Exit → Act → World → Prop} {K : Act → World → Prop}
    (hr : (loadOp P t x).run s = some eff) (hc : Conc w0 s a w) (hcond : eff.cond) (hK : ∀ a' w', Conc w0 (s.upd o.dst eff) a' w' → K a' w') : owp P w0 o a w K Q := by
  obtain ⟨ρ, ht, hm⟩ := hc.2.2.2
  obtain ⟨v, h1, h2⟩ := bind_some hr
  split at h2
  rotate_left
  · simp [Rd.run] at h2
  rename_i n off
  simp only [Rd.run] at h2
  split at h2
  rotate_left
  · simp [Rd.run] at h2
  rename_i b hb
  split at h2
  rotate_left
  · simp [Rd.run] at h2
  rename_i u C hl hu
  obtain rfl : (⟨u, [], C⟩ : Eff) = eff := by simpa [Rd.run] using h2
  have hu := loadC_is hu hcond
  have hv := rdv_ok h1 ht
  obtain ⟨g, f, cp, h3, hq, h8⟩ := hv.ptr_inv
  have h4 := (live_cell (hm.ok n b hb) hl h3 hq).2
  obtain ⟨u', h5, h6⟩ := loadV_run hu h4
  refine value_wp (v := u') (w' := w) ?_ (hK _ _ (quiet_conc hc ht hm h6))
  simp only [execOp, ho, h8, Instr.loadAt, Instr.sureAddr, Sem.run_bind, Sem.run_pure, Result.andThen_ok, h5]
end Go.Proofs.Ytoijfjifaljpaab
