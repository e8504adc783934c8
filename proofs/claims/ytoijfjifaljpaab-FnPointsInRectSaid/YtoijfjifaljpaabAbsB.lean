/-
  The small machine beside the model's: what an abstract value says of a value, what an abstract state says of a frame and a world, and the rule for regions. Written by an AI agent.
-/
import Derived.Test.YtoijfjifaljpaabAbsA
namespace Go.Proofs.Ytoijfjifaljpaab
open Go.RowKit

/-- A one-cell value in which no address lies. -/
def atomV : Value → Bool
  | .bool _ | .int _ _ | .float _ _ | .complex _ _ _ | .string _ | .pointer none | .nilFunc | .nilIface => true
  | .slice none l c => l == 0 && c == 0
  | .func _ f c => f.isEmpty && c.isEmpty
  | _ => false
/-- A value in which no address lies. -/
def plainV : Value → Bool
  | .agg cs => cs.toList.all atomV
  | .tuple vs => vs.toList.all fun v => match v with
    | .agg cs => cs.toList.all atomV
    | v => atomV v
  | v => atomV v
theorem plain_of_atom {v : Value} (h : atomV v = true) : plainV v = true := by
  cases v <;> first | exact h | (simp [atomV] at h)

/-- Where a name lies: its block, the first cell, and, of a row that the call owns, its capacity. -/
abbrev Pl := Nat × Nat × Option Nat
/-- The place of an empty row that lies nowhere. -/
def nilPl (p : Pl) : Prop := p.2.1 = 1 ∧ ∃ k, p.2.2 = some k
/-- A place that is somewhere. -/
def okPl (f : Nat) (cp : Option Nat) : Prop := f = 0 ∨ cp = none
theorem okPl.not {g f : Nat} {cp : Option Nat} (h : okPl f cp) : ¬ nilPl (g, f, cp) := by
  rintro ⟨h1, k, h2⟩
  simp only at h1 h2
  rcases h with h | h
  · omega
  · rw [h] at h2; cases h2
/-- The value of which nothing is known. -/
def topV : Value := .chan (some 0)
def isTop : Value → Bool
  | .chan _ => true
  | _ => false

/-- What an abstract value says of a value. -/
inductive VR (ρ : Nat → Option Pl) : Value → Value → Prop where
  | lit {v : Value} (h : plainV v = true) : VR ρ v v
  | ptr {n o g f : Nat} {cp : Option Nat} (h : ρ n = some (g, f, cp)) (hq : okPl f cp) : VR ρ (.pointer (some ⟨n, o, none⟩)) (.pointer (some ⟨g, f + o, none⟩))
  | top {v' : Value} : VR ρ topV v'
  | nil_ {n o l c c' : Nat} {ad : Option Addr} {p : Pl} (h : ρ n = some p) (hp : nilPl p) (hl : l = 0) (hc : p.2.2 = some 0 → ad = none ∧ c' = 0) : VR ρ (.slice (some ⟨n, o, none⟩) l c) (.slice ad 0 c')
  | slice {n o l c g f c' : Nat} {cp : Option Nat} (h : ρ n = some (g, f, cp)) (hq : okPl f cp) (hl : l ≤ c') (hc : ∀ k, cp = some k → o = 0 → c' = k) : VR ρ (.slice (some ⟨n, o, none⟩) l c) (.slice (some ⟨g, f + o, none⟩) l c')
  | none_ {n o c c' : Nat} {ad : Addr} (ho : 0 < o) : VR ρ (.slice (some ⟨n, o, none⟩) 0 c) (.slice (some ad) 0 c')
  | agg {cs cs' : Array Value} (hs : cs.size = cs'.size) (h : ∀ (i : Nat) v v', cs[i]? = some v → cs'[i]? = some v' → VR ρ v v') : VR ρ (.agg cs) (.agg cs')
  | tuple {cs cs' : Array Value} (hs : cs.size = cs'.size) (h : ∀ (i : Nat) v v', cs[i]? = some v → cs'[i]? = some v' → VR ρ v v') : VR ρ (.tuple cs) (.tuple cs')
  | func {fn : Fn} {f f' c c' : Array Value} (hf : f.size = f'.size) (hc : c.size = c'.size) (h1 : ∀ (i : Nat) v v', f[i]? = some v → f'[i]? = some v' → VR ρ v v')
      (h2 : ∀ (i : Nat) v v', c[i]? = some v → c'[i]? = some v' → VR ρ v v') : VR ρ (.func fn f c) (.func fn f' c')

def Ext (ρ ρ' : Nat → Option Pl) : Prop := ∀ n p, ρ n = some p → ρ' n = some p
theorem Ext.refl (ρ : Nat → Option Pl) : Ext ρ ρ := fun _ _ h => h
theorem Ext.trans {ρ1 ρ2 ρ3 : Nat → Option Pl} (h : Ext ρ1 ρ2) (k : Ext ρ2 ρ3) : Ext ρ1 ρ3 := fun n p hn => k n p (h n p hn)
theorem VR.ext {ρ ρ' : Nat → Option Pl} (h : Ext ρ ρ') {v v' : Value} (k : VR ρ v v') : VR ρ' v v' := by
  induction k with
  | lit hp => exact .lit hp
  | ptr hn hq => exact .ptr (h _ _ hn) hq
  | top => exact .top
  | nil_ hn hp hl hc => exact .nil_ (h _ _ hn) hp hl hc
  | slice hn hq hl hc => exact .slice (h _ _ hn) hq hl hc
  | none_ ho => exact .none_ ho
  | agg hs _ ih => exact .agg hs ih
  | tuple hs _ ih => exact .tuple hs ih
  | func hf hc _ _ ih1 ih2 => exact .func hf hc ih1 ih2
theorem VR.plain {ρ : Nat → Option Pl} {v v' : Value} (k : VR ρ v v') (h : plainV v = true) : v' = v := by
  induction k with
  | lit _ => rfl
  | ptr hn hq => simp [plainV, atomV] at h
  | top => simp [plainV, atomV, topV] at h
  | nil_ hn hp hl hc => simp [plainV, atomV] at h
  | slice hn hq hl hc => simp [plainV, atomV] at h
  | none_ ho => simp [plainV, atomV] at h
  | @agg cs cs' hs hh ih =>
    simp only [plainV, List.all_eq_true] at h
    congr 1
    apply Array.ext hs.symm
    intro i h1 h2
    have hv : cs[i]? = some cs[i] := by simp [h2]
    have hv' : cs'[i]? = some cs'[i] := by simp [h1]
    exact ih i _ _ hv hv' (plain_of_atom (h _ (by simp)))
  | @tuple cs cs' hs hh ih =>
    simp only [plainV, List.all_eq_true] at h
    congr 1
    apply Array.ext hs.symm
    intro i h1 h2
    have hv : cs[i]? = some cs[i] := by simp [h2]
    have hv' : cs'[i]? = some cs'[i] := by simp [h1]
    refine ih i _ _ hv hv' ?_
    have hm := h cs[i] (by simp)
    generalize cs[i] = x at hm
    cases x <;> first | exact hm | exact plain_of_atom hm
  | @func fn f f' c c' hf hc h1 h2 ih1 ih2 =>
    simp [plainV, atomV] at h
    obtain ⟨rfl, rfl⟩ := h
    have e1 : f' = #[] := Array.eq_empty_of_size_eq_zero (by simpa using hf.symm)
    have e2 : c' = #[] := Array.eq_empty_of_size_eq_zero (by simpa using hc.symm)
    rw [e1, e2]
theorem VR.agg_inv {ρ : Nat → Option Pl} {cs : Array Value} {v' : Value} (k : VR ρ (.agg cs) v') :
    ∃ cs' : Array Value, v' = .agg cs' ∧ cs.size = cs'.size ∧ ∀ (i : Nat) v v', cs[i]? = some v → cs'[i]? = some v' → VR ρ v v' := by
  cases k with
  | lit hp =>
    refine ⟨cs, rfl, rfl, fun i v v' h h' => ?_⟩
    rw [h] at h'
    obtain rfl : v = v' := by simpa using h'
    simp only [plainV, List.all_eq_true] at hp
    exact .lit (plain_of_atom (hp _ (by
      obtain ⟨hi, rfl⟩ := Array.getElem?_eq_some_iff.1 h
      simp)))
  | agg hs h => exact ⟨_, rfl, hs, h⟩
theorem VR.tuple_inv {ρ : Nat → Option Pl} {cs : Array Value} {v' : Value} (k : VR ρ (.tuple cs) v') :
    ∃ cs' : Array Value, v' = .tuple cs' ∧ cs.size = cs'.size ∧ ∀ (i : Nat) v v', cs[i]? = some v → cs'[i]? = some v' → VR ρ v v' := by
  cases k with
  | lit hp =>
    refine ⟨cs, rfl, rfl, fun i v v' h h' => ?_⟩
    rw [h] at h'
    obtain rfl : v = v' := by simpa using h'
    simp only [plainV, List.all_eq_true] at hp
    have hm := hp v (by
      obtain ⟨hi, rfl⟩ := Array.getElem?_eq_some_iff.1 h
      simp)
    refine .lit ?_
    cases v <;> first | exact hm | exact plain_of_atom hm
  | tuple hs h => exact ⟨_, rfl, hs, h⟩
theorem VR.cells {ρ : Nat → Option Pl} {v v' : Value} (k : VR ρ v v') (hnt : isTop v = false) : v.cells.size = v'.cells.size ∧ ∀ (i : Nat) x x', v.cells[i]? = some x → v'.cells[i]? = some x' → VR ρ x x' := by
  have one : ∀ {v v' : Value}, VR ρ v v' → v.cells = #[v] → v'.cells = #[v'] → v.cells.size = v'.cells.size ∧ ∀ (i : Nat) x x', v.cells[i]? = some x → v'.cells[i]? = some x' → VR ρ x x' := by
    intro v v' k h h'
    rw [h, h']
    refine ⟨rfl, fun i x x' hx hx' => ?_⟩
    cases i with
    | zero =>
      obtain rfl : v = x := by simpa using hx
      obtain rfl : v' = x' := by simpa using hx'
      exact k
    | succ i => simp at hx
  cases v with
  | agg cs =>
    obtain ⟨cs', rfl, hs, h⟩ := k.agg_inv
    exact ⟨hs, h⟩
  | chan r => cases hnt
  | _ => have k0 := k; cases k <;> exact one k0 rfl rfl

def Blk.own (b : Blk) : Bool :=
  match b.kind with
  | .box | .row _ _ => true
  | _ => false
def Blk.live (b : Blk) : Bool :=
  match b.kind with
  | .dead => false
  | _ => true
theorem own_live {b : Blk} (h : b.own = true) : b.live = true := by
  unfold Blk.own at h
  unfold Blk.live
  split at h <;> simp_all
def Cells (ρ : Nat → Option Pl) (cs : List Value) (cs' : Array Value) : Prop := ∀ (k : Nat) v, cs[k]? = some v → ∃ v', cs'[k]? = some v' ∧ VR ρ v v'
def BlkOk (ρ : Nat → Option Pl) (B : Nat → Prop) (w : World) (n : Nat) (b : Blk) : Prop :=
  match b.kind with
  | .dead => True
  | .view => (∃ p, ρ n = some p ∧ nilPl p) ∨ ∃ g f cp, ρ n = some (g, f, cp) ∧ okPl f cp ∧ g < w.heap.size ∧ ∀ (k : Nat) v, b.cells[k]? = some v → ∃ v', w.cell? ⟨g, f + k, none⟩ = some v' ∧ VR ρ v v'
  | .box => ∃ g, ρ n = some (g, 0, none) ∧ ¬ B g ∧ ∃ cs' e, w.heap[g]? = some (.cells cs' e (0, 0)) ∧ cs'.size = b.cells.length ∧ Cells ρ b.cells cs'
  | .row e sz => (∃ p, ρ n = some p ∧ p.2.1 = 1 ∧ p.2.2 = some 0) ∨ ∃ g cap, ρ n = some (g, 0, some cap) ∧ ¬ B g ∧ ∃ cs', w.heap[g]? = some (.cells cs' e (0, 0)) ∧ cs'.size = cap * sz ∧ Cells ρ b.cells cs'
/-- The blocks that are to be kept are as they were; the streams are as they were; no block has gone. -/
structure BelowK (K : Nat → Prop) (w w' : World) : Prop where
  os : w'.os = w.os
  tape : w'.tape = w.tape
  output : w'.output = w.output
  size : w.heap.size ≤ w'.heap.size
  block : ∀ k, K k → w'.heap[k]? = w.heap[k]?
theorem BelowK.refl (K : Nat → Prop) (w : World) : BelowK K w w := ⟨rfl, rfl, rfl, Nat.le_refl _, fun _ _ => rfl⟩
theorem BelowK.trans {K : Nat → Prop} {a b c : World} (h : BelowK K a b) (k : BelowK K b c) : BelowK K a c :=
  ⟨k.os.trans h.os, k.tape.trans h.tape, k.output.trans h.output, Nat.le_trans h.size k.size, fun i hi => (k.block i hi).trans (h.block i hi)⟩
theorem BelowK.drew {K : Nat → Prop} {a w : World} (h : BelowK K a w) : BelowK K a w.drew := ⟨h.os, h.tape, h.output, h.size, h.block⟩
theorem BelowK.of {K : Nat → Prop} {n : Nat} {a b : World} (h : Below n a b) (hK : ∀ k, K k → k < n) : BelowK K a b := ⟨h.os, h.tape, h.output, h.size, fun k hk => h.block k (hK k hk)⟩
theorem BelowK.to {n : Nat} {a b : World} (h : BelowK (fun k => k < n) a b) : Below n a b := ⟨h.os, h.tape, h.output, h.size, h.block⟩
theorem BelowK.alloc {K : Nat → Prop} {a w : World} (h : BelowK K a w) (hK : ∀ k, K k → k < w.heap.size) (o : Obj) : BelowK K a (w.alloc o) :=
  h.trans ⟨rfl, rfl, rfl, by simp, fun k hk => Below.heap_alloc _ _ _ (hK k hk)⟩
theorem new_free {K : Nat → Prop} {n : Nat} (hK : ∀ k, K k → k < n) : ¬ K n := fun h => Nat.lt_irrefl _ (hK n h)
/-- Where a call begins: its world, and the places that names have for good. -/
structure Start extends World where
  ρ0 : Nat → Option Pl
  kp : Nat → Prop
  kpl : ∀ k, kp k → k < toWorld.heap.size
  df : List Deferred
  ro : Option Nat
instance : Coe Start World := ⟨Start.toWorld⟩
/-- What is known of memory. -/
structure MemOk (ρ0 ρ : Nat → Option Pl) (B : Nat → Prop) (m : Nat → Option Blk) (w : World) : Prop where
  ext : Ext ρ0 ρ
  fresh : ∀ n, m n = none → ρ n = none
  ok : ∀ n b, m n = some b → BlkOk ρ B w n b
  sep : ∀ n n' b b' p p', m n = some b → b.own = true → m n' = some b' → b'.live = true → n ≠ n' → ρ n = some p → ρ n' = some p' → ¬ nilPl p → ¬ nilPl p' → p.1 ≠ p'.1

/-- What an abstract state says of a frame and a world, for a call that began in w0. -/
def Conc (w0 : Start) (s : FS) (a : Act) (w : World) : Prop :=
  a.defers = w0.df ∧ a.tmps.size = s.n ∧ BelowK w0.kp w0.toWorld w ∧ ∃ ρ, (∀ t, VR ρ (s.tmp t) (a.tmps.getD t undef)) ∧ MemOk w0.ρ0 ρ w0.kp s.blk w

/-- The fence of a round of the loop at that block, or of none: all functions, any depth. -/
abbrev fz (ro : Option Nat) : Fence := { Fence.wide with round := ro }
/-- What an operation must achieve. -/
def owp (P : Program) (w0 : Start) (o : Oper) (a : Act) (w : World) (K : Act → World → Prop) (Q : Exit → Act → World → Prop) : Prop := o.wpIn (fz w0.ro) 3 P a w K Q
theorem calls_fz {ro : Option Nat} {n : Nat} {P : Program} {f : FuncId} {args : Array Value} {w : World} {R : Ending → World → Prop} (h : Calls P f args w R) : CallsIn (fz ro) n P f args w R := (callsIn_wide (n := n)).2 h
theorem Cells.ext {ρ ρ' : Nat → Option Pl} (h : Ext ρ ρ') {cs : List Value} {cs' : Array Value} (k : Cells ρ cs cs') : Cells ρ' cs cs' := fun i v hv => by
  obtain ⟨v', h1, h2⟩ := k i v hv
  exact ⟨v', h1, h2.ext h⟩
theorem heap_lt {w : World} {g : Nat} {o : Obj} (h : w.heap[g]? = some o) : g < w.heap.size := by
  rcases Nat.lt_or_ge g w.heap.size with h' | h'
  · exact h'
  · rw [Array.getElem?_eq_none h'] at h; cases h
/-- A block's facts stand in a world that has that block as it was. -/
theorem BlkOk.keep {ρ ρ' : Nat → Option Pl} {B : Nat → Prop} {w w' : World} {n : Nat} {b : Blk} (h : BlkOk ρ B w n b) (he : Ext ρ ρ') (hs : w.heap.size ≤ w'.heap.size)
    (hk : ∀ p, b.live = true → ρ n = some p → ¬ nilPl p → w'.heap[p.1]? = w.heap[p.1]?) : BlkOk ρ' B w' n b := by
  obtain ⟨kd, cs⟩ := b
  cases kd with
  | dead => trivial
  | view =>
    rcases h with ⟨p, h2, h3⟩ | ⟨g, f, cp, h1, hq, h2, h3⟩
    · exact .inl ⟨p, he _ _ h2, h3⟩
    have hh := hk _ rfl h1 hq.not
    refine .inr ⟨g, f, cp, he _ _ h1, hq, by omega, fun k v hv => ?_⟩
    obtain ⟨v', h4, h5⟩ := h3 k v hv
    exact ⟨v', (World.cell?_of_block (w := w) (a := ⟨g, f + k, none⟩) hh).trans h4, h5.ext he⟩
  | box =>
    obtain ⟨g, h1, h2, cs', e, h3, h4, h5⟩ := h
    exact ⟨g, he _ _ h1, h2, cs', e, (hk _ rfl h1 (okPl.not (.inl rfl))).trans h3, h4, h5.ext he⟩
  | row e sz =>
    rcases h with ⟨p, h2, h3⟩ | ⟨g, cap, h1, h2, cs', h3, h4, h5⟩
    · exact .inl ⟨p, he _ _ h2, h3⟩
    exact .inr ⟨g, cap, he _ _ h1, h2, cs', (hk _ rfl h1 (okPl.not (.inl rfl))).trans h3, h4, h5.ext he⟩
theorem BlkOk.place {ρ : Nat → Option Pl} {B : Nat → Prop} {w : World} {n : Nat} {b : Blk} (h : BlkOk ρ B w n b) (hl : b.live = true) : ∃ p, ρ n = some p ∧ (nilPl p ∨ (p.1 < w.heap.size ∧ (b.own = true → ¬ B p.1))) := by
  obtain ⟨kd, cs⟩ := b
  cases kd with
  | dead => cases hl
  | view =>
    rcases h with ⟨p, h2, h3⟩ | ⟨g, f, cp, h1, hq, h2, h3⟩
    · exact ⟨p, h2, .inl h3⟩
    exact ⟨_, h1, .inr ⟨h2, fun h => by cases h⟩⟩
  | box =>
    obtain ⟨g, h1, h2, cs', e, h3, h4, h5⟩ := h
    exact ⟨_, h1, .inr ⟨heap_lt h3, fun _ => h2⟩⟩
  | row e sz =>
    rcases h with ⟨p, h2, h3, h4⟩ | ⟨g, cap, h1, h2, cs', h3, h4, h5⟩
    · exact ⟨p, h2, .inl ⟨h3, 0, h4⟩⟩
    exact ⟨_, h1, .inr ⟨heap_lt h3, fun _ => h2⟩⟩
theorem BlkOk.real {ρ : Nat → Option Pl} {B : Nat → Prop} {w : World} {n : Nat} {b : Blk} {p : Pl} (h : BlkOk ρ B w n b) (hl : b.live = true) (hp : ρ n = some p) (hn : ¬ nilPl p) : p.1 < w.heap.size ∧ (b.own = true → ¬ B p.1) := by
  obtain ⟨p', h1, h2⟩ := h.place hl
  rw [hp] at h1
  obtain rfl : p = p' := by simpa using h1
  exact h2.resolve_left hn
/-- All blocks that there were are as they were: the same memory, with one more draw or callees' blocks. -/
theorem MemOk.rebase {ρ0 ρ : Nat → Option Pl} {B : Nat → Prop} {m : Nat → Option Blk} {w : World} (h : MemOk ρ0 ρ B m w) : MemOk ρ ρ B m w := ⟨Ext.refl ρ, h.fresh, h.ok, h.sep⟩
theorem MemOk.back {ρ0 ρ1 ρ : Nat → Option Pl} {B : Nat → Prop} {m : Nat → Option Blk} {w : World} (h : MemOk ρ1 ρ B m w) (k : Ext ρ0 ρ1) : MemOk ρ0 ρ B m w := ⟨k.trans h.ext, h.fresh, h.ok, h.sep⟩
theorem MemOk.keep {ρ0 ρ : Nat → Option Pl} {B : Nat → Prop} {m : Nat → Option Blk} {w w' : World} (h : MemOk ρ0 ρ B m w) (hb : Below w.heap.size w w') : MemOk ρ0 ρ B m w' where
  ext := h.ext
  fresh := h.fresh
  ok := fun n b hn => (h.ok n b hn).keep (Ext.refl ρ) hb.size fun p hl hp hnp => hb.block _ ((h.ok n b hn).real hl hp hnp).1
  sep := h.sep

def skipE : Eff := ⟨undef, [], []⟩
/-- An operation, its guard asked first; its own name must be free. -/
def gop (A : Nat → Oper → Rd Eff) (ops : Array Oper) (name : Nat) (o : Oper) : Rd Eff :=
  .blk name fun b => match b with
    | some _ => .fail
    | none => match o.guard with
      | none => A name o
      | some (g, want) => match (ops[g]?).bind (·.dst) with
        | none => .ret skipE
        | some t => .tmp t fun v => match v with
          | .bool b => if b = want then A name o else .ret skipE
          | .chan _ => .fail
          | _ => .ret skipE

/-- The abstract operations are sound. -/
def Sound (P : Program) (A : Nat → Oper → Rd Eff) : Prop :=
  ∀ (name : Nat) (o : Oper) (s : FS) (eff : Eff) (w0 : Start) (a : Act) (w : World) (Q : Exit → Act → World → Prop) (K : Act → World → Prop),
    (A name o).run s = some eff → s.blk name = none → Conc w0 s a w → eff.cond → (∀ a' w', Conc w0 (s.upd o.dst eff) a' w' → K a' w') → owp P w0 o a w K Q

theorem VR.not_bool {ρ : Nat → Option Pl} {v v' : Value} (k : VR ρ v v') (hnt : isTop v = false) (h : ∀ b, v ≠ .bool b) : ∀ b, v' ≠ .bool b := by
  intro b e
  subst e
  cases k
  · exact h b rfl
  · simp [isTop, topV] at hnt
theorem eval_tmp (a : Act) (t : Nat) : a.eval (.tmp t) = a.tmps.getD t undef := rfl

theorem put_conc {w0 : Start} {s : FS} {a : Act} {w w' : World} {dst : Option Tmp} {e : Eff} {v' : Value} {ρ : Nat → Option Pl} (hd : a.defers = w0.df) (hn : a.tmps.size = s.n) (hb : BelowK w0.kp w0.toWorld w')
    (ht : ∀ t, VR ρ (s.tmp t) (a.tmps.getD t undef)) (hv : VR ρ e.val v') (hm : MemOk w0.ρ0 ρ w0.kp (s.upd dst e).blk w') : Conc w0 (s.upd dst e) (a.put dst v') w' := by
  have hw : w' = w' ∧ w = w := ⟨rfl, rfl⟩
  cases dst with
  | none =>
    refine ⟨hd, hn, hb, ρ, fun t => ?_, hm⟩
    rw [FS.upd_tmp_ne (by simp)]
    exact ht t
  | some d =>
    refine ⟨hd, (by show (a.tmps.setIfInBounds d v').size = s.n; simpa using hn), hb, ρ, fun t => ?_, hm⟩
    by_cases hdt : d = t
    · subst hdt
      by_cases hlt : d < s.n
      · simp only [FS.upd, hlt, and_self, if_true]
        have : d < a.tmps.size := by rw [hn]; exact hlt
        simpa [Act.put, this] using hv
      · simp only [FS.upd, hlt, and_false, if_false]
        have : ¬ d < a.tmps.size := by rw [hn]; exact hlt
        have h := ht d
        simpa [Act.put, this] using h
    · rw [FS.upd_tmp_ne (by simpa using hdt)]
      have h := ht t
      simpa [Act.put, Array.getElem?_setIfInBounds_ne hdt] using h

theorem wpOp_gop {P : Program} {A : Nat → Oper → Rd Eff} (hA : Sound P A) {ops : Array Oper} {i name : Nat} {o : Oper} (ho : ops[i]? = some o) {s : FS} {eff : Eff} (hr : (gop A ops name o).run s = some eff) {w0 : Start} {a : Act} {w : World}
    (hc : Conc w0 s a w) (hcond : eff.cond) {Q : Exit → Act → World → Prop} {K : Act → World → Prop} (hK : ∀ a' w', Conc w0 (s.upd o.dst eff) a' w' → K a' w') : wpOpIn (fz w0.ro) 3 P ops Q i K a w := by
  have hskip : (Rd.ret skipE).run s = some eff → K (a.put o.dst undef) w := by
    intro h
    obtain rfl : skipE = eff := by simpa [Rd.run] using h
    obtain ⟨h1, h2, h3, ρ, h4, h5⟩ := hc
    exact hK _ _ (put_conc (w := w) h1 h2 h3 h4 (.lit rfl) (by
      have : (s.upd o.dst skipE).blk = s.blk := by funext m; simp [FS.upd, skipE, lookW]
      rw [this]; exact h5))
  have yes : Region.wanted o (yielded ops a.tmps) = true → (A name o).run s = some eff → s.blk name = none → wpOpIn (fz w0.ro) 3 P ops Q i K a w := fun h hr hb => by
    unfold wpOpIn
    simp only [ho, h, if_true]
    exact hA name o s eff w0 a w Q K hr hb hc hcond hK
  have no : Region.wanted o (yielded ops a.tmps) = false → (Rd.ret skipE).run s = some eff → wpOpIn (fz w0.ro) 3 P ops Q i K a w := fun h hr => by
    unfold wpOpIn
    simp only [ho, h, Bool.false_eq_true, if_false]
    exact ⟨fun _ _ => trivial, hskip hr⟩
  simp only [gop, Rd.run] at hr
  rcases hb : s.blk name with _ | b
  rotate_left
  · rw [hb] at hr; simp [Rd.run] at hr
  rw [hb] at hr
  simp only at hr
  rcases hg : o.guard with _ | ⟨g, want⟩
  · rw [hg] at hr
    exact yes (by simp [Region.wanted, hg]) hr hb
  · rw [hg] at hr
    simp only at hr
    rcases ht : (ops[g]?).bind (·.dst) with _ | t
    · rw [ht] at hr
      refine no ?_ hr
      simp only [Region.wanted, hg, yielded, ht]
      simp
    · rw [ht] at hr
      simp only [Rd.run] at hr
      obtain ⟨ρ, hv, _⟩ := hc.2.2.2
      have hvt := hv t
      by_cases hbool : ∃ b, s.tmp t = .bool b
      · obtain ⟨b, hb'⟩ := hbool
        rw [hb'] at hr hvt
        have e := hvt.plain rfl
        have e' : a.tmps[t]? = some (.bool b) := by
          rcases hx : a.tmps[t]? with _ | x
          · simp [hx, undef] at e
          · simp [hx] at e; rw [e]
        have hy : yielded ops a.tmps g = some b := by simp [yielded, ht, e']
        by_cases hw : b = want
        · subst hw
          simp only [if_true] at hr
          exact yes (by simp [Region.wanted, hg, hy]) hr hb
        · simp only [if_neg hw] at hr
          exact no (by simp [Region.wanted, hg, hy, hw]) hr
      · have hnb : ∀ b, s.tmp t ≠ .bool b := fun b hb => hbool ⟨b, hb⟩
        have hr' : isTop (s.tmp t) = false ∧ (Rd.ret skipE).run s = some eff := by
          revert hr
          generalize s.tmp t = x at hnb
          cases x <;> first | exact fun h => ⟨rfl, h⟩ | (intro _; exact absurd rfl (hnb _)) | (intro h; simp [Rd.run] at h)
        obtain ⟨hnt, hr'⟩ := hr'
        have hnv := hvt.not_bool hnt hnb
        have hy : yielded ops a.tmps g = none := by
          simp only [yielded, ht, Option.bind_some]
          rcases hx : a.tmps[t]? with _ | x
          · rfl
          · have : a.tmps.getD t undef = x := by simp [hx]
            rw [this] at hnv
            cases x <;> first | rfl | exact absurd rfl (hnv _)
        exact no (by simp [Region.wanted, hg, hy]) hr'

def validT (ops : Array Oper) (T : List (List Nat)) : Bool :=
  (List.range ops.size).all fun j => ((ops[j]?).map fun o => o.after.all (fun e => !Region.binds .any e || decide (e.on < j)) &&
    (T.getD j []).all fun k => o.after.any fun e => Region.binds .any e && (k == e.on || (T.getD e.on []).contains k)).getD true
def meets (xs ys : List Nat) : Bool := xs.any ys.contains
/-- Do two operations get in each other's way? -/
def clash (d d' : Option Tmp) (e e' : Eff) (rt rt' rb rb' : List Nat) : Bool :=
  meets d.toList rt' || meets d.toList d'.toList || meets rt d'.toList || meets (e.wr.map (·.1)) rb' || meets (e.wr.map (·.1)) (e'.wr.map (·.1)) || meets rb (e'.wr.map (·.1))
theorem meets_false {xs ys : List Nat} (h : meets xs ys = false) : ∀ x ∈ xs, x ∉ ys := by
  intro x hx hy
  unfold meets at h
  rw [List.any_eq_false] at h
  exact h x hx (by simpa using hy)
theorem clash_false {d d' : Option Tmp} {e e' : Eff} {rt rt' rb rb' : List Nat} (h : clash d d' e e' rt rt' rb rb' = false) :
    (∀ t, d = some t → t ∉ rt') ∧ (∀ t, d = some t → d' ≠ some t) ∧ (∀ t ∈ rt, d' ≠ some t) ∧ (∀ n ∈ e.wr.map (·.1), n ∉ rb') ∧ (∀ n ∈ e.wr.map (·.1), n ∉ e'.wr.map (·.1)) ∧ (∀ n ∈ rb, n ∉ e'.wr.map (·.1)) := by
  unfold clash at h
  simp only [Bool.or_eq_false_iff] at h
  obtain ⟨⟨⟨⟨⟨h1, h2⟩, h3⟩, h4⟩, h5⟩, h6⟩ := h
  refine ⟨fun t ht => meets_false h1 t (by simp [ht]), fun t ht h' => meets_false h2 t (by simp [ht]) (by simp [h']), fun t ht h' => meets_false h3 t ht (by simp [h']), meets_false h4, meets_false h5, meets_false h6⟩

theorem validT_spec {ops : Array Oper} {T : List (List Nat)} (h : validT ops T = true) {j : Nat} {o : Oper} (ho : ops[j]? = some o) :
    (∀ e ∈ o.after, Region.binds .any e = true → e.on < j) ∧ ∀ k ∈ T.getD j [], ∃ e ∈ o.after, Region.binds .any e = true ∧ (k = e.on ∨ k ∈ T.getD e.on []) := by
  unfold validT at h
  have hj : j < ops.size := (Array.getElem?_eq_some_iff.1 ho).1
  have h1 := List.all_eq_true.1 h j (by simpa using hj)
  rw [ho] at h1
  simp only [Option.map_some, Option.getD_some, Bool.and_eq_true] at h1
  refine ⟨fun e he hb => ?_, fun k hk => ?_⟩
  · have := Array.all_eq_true_iff_forall_mem.1 h1.1 e he
    simpa [hb] using this
  · have := List.all_eq_true.1 h1.2 k hk
    obtain ⟨e, he, hb⟩ := Array.any_eq_true'.1 this
    simp only [Bool.and_eq_true, Bool.or_eq_true, beq_iff_eq] at hb
    exact ⟨e, he, hb.1, hb.2.imp id (by simp)⟩

def dstOf (ops : Array Oper) (j : Nat) : Option Tmp := (ops[j]?).bind (·.dst)
/-- A drawn region whose operations only get in each other's way where an edge orders them: the order of the text serves for all. -/
theorem region_any {P : Program} {A : Nat → Oper → Rd Eff} (hA : Sound P A) (hm : P.follows .mixedOrders = true) {ops : Array Oper} {nm : Nat → Nat} {s0 : FS} {eff : Nat → Eff} {T : List (List Nat)} (hT : validT ops T = true)
    (hrun : ∀ i o, ops[i]? = some o → (gop A ops (nm i) o).run (sAt (dstOf ops) eff s0 (fun _ => true) i) = some (eff i) ∧ (eff i).cond)
    (hclash : ∀ i j oi oj, i < j → ops[i]? = some oi → ops[j]? = some oj →
      clash oi.dst oj.dst (eff i) (eff j) ((gop A ops (nm i) oi).tmps (sAt (dstOf ops) eff s0 (fun _ => true) i)) ((gop A ops (nm j) oj).tmps (sAt (dstOf ops) eff s0 (fun _ => true) j))
        ((gop A ops (nm i) oi).blks (sAt (dstOf ops) eff s0 (fun _ => true) i)) ((gop A ops (nm j) oj).blks (sAt (dstOf ops) eff s0 (fun _ => true) j)) = true → i ∈ T.getD j [])
    {w0 : Start} {a : Act} {w : World} (hc : Conc w0 s0 a w) {Q : Exit → Act → World → Prop} {id : Nat}
    (hQ : ∀ a' w', Conc w0 (sAt (dstOf ops) eff s0 (fun _ => true) ops.size) a' w' → Q .normal a' w') : (Code.region id ops true).wpIn (fz w0.ro) 3 P Q a w := by
  generalize hdst : dstOf ops = dst at *
  have hd : ∀ {j : Nat} {o : Oper}, ops[j]? = some o → dst j = o.dst := fun {j o} ho => by rw [← hdst]; simp [dstOf, ho]
  refine wpIn_region_any hm (wpAny_inv (fun l a w => l.size = ops.size ∧ (∀ (j : Nat) o, ops[j]? = some o → l.getD j false = true → ∀ e ∈ o.after, Region.binds .any e = true → l.getD e.on false = true) ∧
    Conc w0 (sAt dst eff s0 (fun j => l.getD j false) ops.size) a w) ?_ ?_ ops.size _ a _ ?_ (by simp))
  · rintro l a w ⟨hsz, hcl, hcc⟩ hr
    refine hQ a w ?_
    have hall : ∀ j, j < ops.size → l.getD j false = true := by
      intro j
      induction j using Nat.strongRecOn with
      | _ j ih =>
        intro hj
        rcases hlj : l.getD j false with _ | _
        · exfalso
          have hjo : ops[j]? = some ops[j] := by simp [hj]
          have : j ∈ Region.ready .any ops l := mem_ready.2 ⟨by
            have hj' : j < l.size := by omega
            simpa [hj'] using hlj, ops[j], hjo, fun e he hb => by
              have hlt := (validT_spec hT hjo).1 e he hb
              exact ih e.on hlt (by omega)⟩
          rw [hr] at this
          cases this
        · rfl
    rw [← sAt_same (D := fun j => l.getD j false) ops.size hall]
    exact hcc
  · rintro l a w i ⟨hsz, hcl, hcc⟩ hi
    obtain ⟨hun, o, ho, haft⟩ := mem_ready.1 hi
    have hi' : i < ops.size := (Array.getElem?_eq_some_iff.1 ho).1
    have hil : l.getD i false = false := by
      have hi2 : i < l.size := by omega
      simpa [hi2] using hun
    -- all that is sure to come ahead of a listed operation is listed
    have hanc : ∀ j, l.getD j false = true → ∀ k ∈ T.getD j [], l.getD k false = true := by
      intro j
      induction j using Nat.strongRecOn with
      | _ j ih =>
        intro hj k hk
        have hj' : j < ops.size := by
          rcases Nat.lt_or_ge j l.size with h' | h'
          · omega
          · simp [Array.getElem?_eq_none h'] at hj
        have hjo : ops[j]? = some ops[j] := by simp [hj']
        obtain ⟨e, he, hb, hk'⟩ := (validT_spec hT hjo).2 k hk
        have hel := hcl j _ hjo hj e he hb
        rcases hk' with rfl | hk'
        · exact hel
        · exact ih e.on ((validT_spec hT hjo).1 e he hb) hel k hk'
    have hanci : ∀ k ∈ T.getD i [], l.getD k false = true := by
      intro k hk
      obtain ⟨e, he, hb, hk'⟩ := (validT_spec hT ho).2 k hk
      have hel := haft e he hb
      rcases hk' with rfl | hk'
      · exact hel
      · exact hanc e.on hel k hk'
    obtain ⟨hri, hci⟩ := hrun i o ho
    -- what clashes with this operation has been run if and only if it stands earlier
    have hpre : ∀ j, j < ops.size → ∀ oj, ops[j]? = some oj → j ≠ i →
        (j < i → clash oj.dst o.dst (eff j) (eff i) ((gop A ops (nm j) oj).tmps (sAt dst eff s0 (fun _ => true) j)) ((gop A ops (nm i) o).tmps (sAt dst eff s0 (fun _ => true) i))
          ((gop A ops (nm j) oj).blks (sAt dst eff s0 (fun _ => true) j)) ((gop A ops (nm i) o).blks (sAt dst eff s0 (fun _ => true) i)) = true → l.getD j false = true) ∧
        (i < j → clash o.dst oj.dst (eff i) (eff j) ((gop A ops (nm i) o).tmps (sAt dst eff s0 (fun _ => true) i)) ((gop A ops (nm j) oj).tmps (sAt dst eff s0 (fun _ => true) j))
          ((gop A ops (nm i) o).blks (sAt dst eff s0 (fun _ => true) i)) ((gop A ops (nm j) oj).blks (sAt dst eff s0 (fun _ => true) j)) = true → l.getD j false = false) := by
      intro j hj oj hoj hne
      refine ⟨fun hlt hcl' => hanci j (hclash j i oj o hlt hoj ho hcl'), fun hlt hcl' => ?_⟩
      have hm := hclash i j o oj hlt ho hoj hcl'
      rcases hlj : l.getD j false with _ | _
      · rfl
      · have := hanc j hlj i hm
        rw [hil] at this
        cases this
    have eqT : sAt dst eff s0 (fun j => decide (j < i)) ops.size = sAt dst eff s0 (fun _ => true) i := by
      have h1 : ∀ k, sAt dst eff s0 (fun j => decide (j < i)) (i + k) = sAt dst eff s0 (fun j => decide (j < i)) i := by
        intro k
        induction k with
        | zero => rfl
        | succ k ih =>
          show (if decide (i + k < i) then _ else _) = _
          rw [if_neg (by simp)]
          exact ih
      have h2 := h1 (ops.size - i)
      rw [show i + (ops.size - i) = ops.size by omega] at h2
      rw [h2]
      exact sAt_same i fun j hj => by simp [hj]
    have agreeT : ∀ t ∈ (gop A ops (nm i) o).tmps (sAt dst eff s0 (fun _ => true) i), (sAt dst eff s0 (fun _ => true) i).tmp t = (sAt dst eff s0 (fun j => l.getD j false) ops.size).tmp t := by
      intro t ht
      rw [← eqT]
      refine sAt_tmp ops.size fun j hj hdj => ?_
      have hjo : ops[j]? = some ops[j] := by simp [hj]
      rw [hd hjo] at hdj
      by_cases hji : j = i
      · subst hji; simp [hil]
      obtain ⟨p1, p2⟩ := hpre j hj _ hjo hji
      rcases Nat.lt_or_ge j i with hlt | hge
      · simp only [hlt, decide_true]
        refine (p1 hlt ?_).symm
        rcases hcc' : clash ops[j].dst o.dst (eff j) (eff i) _ _ _ _ with _ | _
        · exact absurd ht ((clash_false hcc').1 t hdj)
        · rfl
      · have hlt : i < j := by omega
        simp only [show ¬ j < i by omega, decide_false]
        refine (p2 hlt ?_).symm
        rcases hcc' : clash o.dst ops[j].dst (eff i) (eff j) _ _ _ _ with _ | _
        · exact absurd hdj ((clash_false hcc').2.2.1 t ht)
        · rfl
    have agreeB : ∀ n ∈ (gop A ops (nm i) o).blks (sAt dst eff s0 (fun _ => true) i), (sAt dst eff s0 (fun _ => true) i).blk n = (sAt dst eff s0 (fun j => l.getD j false) ops.size).blk n := by
      intro n hn
      rw [← eqT]
      refine sAt_blk ops.size fun j hj hdj => ?_
      have hjo : ops[j]? = some ops[j] := by simp [hj]
      by_cases hji : j = i
      · subst hji; simp [hil]
      obtain ⟨p1, p2⟩ := hpre j hj _ hjo hji
      rcases Nat.lt_or_ge j i with hlt | hge
      · simp only [hlt, decide_true]
        refine (p1 hlt ?_).symm
        rcases hcc' : clash ops[j].dst o.dst (eff j) (eff i) _ _ _ _ with _ | _
        · exact absurd hn ((clash_false hcc').2.2.2.1 n hdj)
        · rfl
      · have hlt : i < j := by omega
        simp only [show ¬ j < i by omega, decide_false]
        refine (p2 hlt ?_).symm
        rcases hcc' : clash o.dst ops[j].dst (eff i) (eff j) _ _ _ _ with _ | _
        · exact absurd hdj ((clash_false hcc').2.2.2.2.2 n hn)
        · rfl
    have hri' : (gop A ops (nm i) o).run (sAt dst eff s0 (fun j => l.getD j false) ops.size) = some (eff i) := (Rd.run_congr _ agreeT agreeB).trans hri
    refine wpOp_gop hA ho hri' hcc hci fun a' w' hcc' => ⟨by simpa using hsz, ?_, ?_⟩
    · intro j oj hoj hlj e he hb
      by_cases hji : i = j
      · subst hji
        obtain rfl : o = oj := by rw [ho] at hoj; simpa using hoj
        exact getD_set_true (haft e he hb)
      · rw [getD_set_ne false hji] at hlj
        exact getD_set_true (hcl j oj hoj hlj e he hb)
    · have := sAt_add (dst := dst) (eff := eff) (s0 := s0) (D := fun j => l.getD j false) (D' := fun j => (l.setIfInBounds i true).getD j false) (i := i) hil (fun j => by
          by_cases hji : i = j
          · subst hji
            have : i < l.size := by omega
            simp [this]
          · rw [getD_set_ne false hji]
            have : (j == i) = false := by simp; omega
            simp [this]) (fun j hij hj => by
          have hj' : j < ops.size := by
            rcases Nat.lt_or_ge j l.size with h' | h'
            · omega
            · simp [Array.getElem?_eq_none h'] at hj
          have hjo : ops[j]? = some ops[j] := by simp [hj']
          obtain ⟨p1, p2⟩ := hpre j hj' _ hjo (by omega)
          have hcf : clash o.dst ops[j].dst (eff i) (eff j) ((gop A ops (nm i) o).tmps (sAt dst eff s0 (fun _ => true) i)) ((gop A ops (nm j) ops[j]).tmps (sAt dst eff s0 (fun _ => true) j))
              ((gop A ops (nm i) o).blks (sAt dst eff s0 (fun _ => true) i)) ((gop A ops (nm j) ops[j]).blks (sAt dst eff s0 (fun _ => true) j)) = false := by
            rcases hcc'' : clash o.dst ops[j].dst (eff i) (eff j) _ _ _ _ with _ | _
            · rfl
            · have := p2 hij hcc''
              rw [this] at hj
              cases hj
          have := clash_false hcf
          rw [hd ho, hd hjo]
          exact ⟨this.2.1, this.2.2.2.2.1⟩) (ops.size - (i + 1))
      rw [show i + 1 + (ops.size - (i + 1)) = ops.size by omega, hd ho] at this
      rw [this]
      exact hcc'
  · refine ⟨by simp, fun j o ho hl => ?_, ?_⟩
    · exfalso
      have hj : j < ops.size := (Array.getElem?_eq_some_iff.1 ho).1
      simp [hj] at hl
    · have e0 : ∀ m, m ≤ ops.size → sAt dst eff s0 (fun j => (Array.replicate ops.size false).getD j false) m = s0 := by
        intro m
        induction m with
        | zero => intro _; rfl
        | succ m ih =>
          intro hm'
          show (if (Array.replicate ops.size false).getD m false then _ else _) = _
          have : m < ops.size := by omega
          rw [if_neg (by simp [this])]
          exact ih (by omega)
      rw [e0 ops.size (Nat.le_refl _)]
      obtain ⟨h1, h2, h3, ρ, h4, h5⟩ := hc
      exact ⟨h1, h2, ⟨h3.os, h3.tape, h3.output, h3.size, h3.block⟩, ρ, h4, h5.keep ⟨rfl, rfl, rfl, Nat.le_refl _, fun _ _ => rfl⟩⟩

theorem listed_set {ops : Array Oper} {l : Array Bool} {i : Nat} {o : Oper} (ho : ops[i]? = some o) (haft : ∀ e ∈ o.after, Region.binds .any e = true → l.getD e.on false = true)
    (hcl : ∀ (j : Nat) o, ops[j]? = some o → l.getD j false = true → ∀ e ∈ o.after, Region.binds .any e = true → l.getD e.on false = true) :
    ∀ (j : Nat) o, ops[j]? = some o → (l.setIfInBounds i true).getD j false = true → ∀ e ∈ o.after, Region.binds .any e = true → (l.setIfInBounds i true).getD e.on false = true := by
  intro j oj hoj hlj e he hb
  by_cases hji : i = j
  · subst hji
    obtain rfl : o = oj := by rw [ho] at hoj; simpa using hoj
    exact getD_set_true (haft e he hb)
  · rw [getD_set_ne false hji] at hlj
    exact getD_set_true (hcl j oj hoj hlj e he hb)
/-- A drawn region whose last operations come behind all others, one after the other: the machine runs the first ones, then these come. -/
theorem region_then {P : Program} {A : Nat → Oper → Rd Eff} (hA : Sound P A) (hm : P.follows .mixedOrders = true) {ops : Array Oper} {nm : Nat → Nat} {s0 : FS} {eff : Nat → Eff} {T : List (List Nat)} (hT : validT ops T = true) {m : Nat} (hmm : m ≤ ops.size)
    (hrun : ∀ i o, i < m → ops[i]? = some o → (gop A ops (nm i) o).run (sAt (dstOf ops) eff s0 (fun _ => true) i) = some (eff i) ∧ (eff i).cond)
    (hclash : ∀ i j oi oj, i < j → j < m → ops[i]? = some oi → ops[j]? = some oj →
      clash oi.dst oj.dst (eff i) (eff j) ((gop A ops (nm i) oi).tmps (sAt (dstOf ops) eff s0 (fun _ => true) i)) ((gop A ops (nm j) oj).tmps (sAt (dstOf ops) eff s0 (fun _ => true) j))
        ((gop A ops (nm i) oi).blks (sAt (dstOf ops) eff s0 (fun _ => true) i)) ((gop A ops (nm j) oj).blks (sAt (dstOf ops) eff s0 (fun _ => true) j)) = true → i ∈ T.getD j [])
    (hlast : ∀ j, m ≤ j → j < ops.size → ∀ i, i < j → i ∈ T.getD j [])
    {w0 : Start} {a : Act} {w : World} (hc : Conc w0 s0 a w) {Q : Exit → Act → World → Prop} {id : Nat}
    (hQ : ∀ a' w', Conc w0 (sAt (dstOf ops) eff s0 (fun _ => true) m) a' w' → wpOpsIn (fz w0.ro) 3 P ops Q (List.range' m (ops.size - m)) a' w') : (Code.region id ops true).wpIn (fz w0.ro) 3 P Q a w := by
  generalize hdst : dstOf ops = dst at *
  have hd : ∀ {j : Nat} {o : Oper}, ops[j]? = some o → dst j = o.dst := fun {j o} ho => by rw [← hdst]; simp [dstOf, ho]
  refine wpIn_region_any hm (wpAny_inv (fun l a w => l.size = ops.size ∧ (∀ (j : Nat) o, ops[j]? = some o → l.getD j false = true → ∀ e ∈ o.after, Region.binds .any e = true → l.getD e.on false = true) ∧
    (((∀ j, m ≤ j → l.getD j false = false) ∧ Conc w0 (sAt dst eff s0 (fun j => l.getD j false) m) a w) ∨
      ∃ k, m < k ∧ k ≤ ops.size ∧ (∀ j, j < ops.size → (l.getD j false = true ↔ j < k)) ∧ wpOpsIn (fz w0.ro) 3 P ops Q (List.range' k (ops.size - k)) a w)) ?_ ?_ ops.size _ a _ ?_ (by simp))
  · rintro l a w ⟨hsz, hcl, hph⟩ hr
    have hall : ∀ j, j < ops.size → l.getD j false = true := by
      intro j
      induction j using Nat.strongRecOn with
      | _ j ih =>
        intro hj
        rcases hlj : l.getD j false with _ | _
        · exfalso
          have hjo : ops[j]? = some ops[j] := by simp [hj]
          have : j ∈ Region.ready .any ops l := mem_ready.2 ⟨by
            have hj' : j < l.size := by omega
            simpa [hj'] using hlj, ops[j], hjo, fun e he hb => by
              have hlt := (validT_spec hT hjo).1 e he hb
              exact ih e.on hlt (by omega)⟩
          rw [hr] at this
          cases this
        · rfl
    rcases hph with ⟨hun, hcc⟩ | ⟨k, hk1, hk2, hk3, hw⟩
    · have hme : m = ops.size := by
        rcases Nat.lt_or_ge m ops.size with h | h
        · have h1 := hall m h
          rw [hun m (Nat.le_refl _)] at h1
          cases h1
        · omega
      have := hQ a w (by
        rw [← sAt_same (D := fun j => l.getD j false) m (fun j hj => hall j (by omega))]
        exact hcc)
      rw [hme, Nat.sub_self] at this
      exact this
    · have hke : k = ops.size := by
        rcases Nat.lt_or_ge k ops.size with h | h
        · have := (hk3 k h).1 (hall k h)
          omega
        · omega
      rw [hke, Nat.sub_self] at hw
      exact hw
  · rintro l a w i ⟨hsz, hcl, hph⟩ hi
    obtain ⟨hun, o, ho, haft⟩ := mem_ready.1 hi
    have hi' : i < ops.size := (Array.getElem?_eq_some_iff.1 ho).1
    have hil : l.getD i false = false := by
      have hi2 : i < l.size := by omega
      simpa [hi2] using hun
    have hanc : ∀ j, l.getD j false = true → ∀ k ∈ T.getD j [], l.getD k false = true := by
      intro j
      induction j using Nat.strongRecOn with
      | _ j ih =>
        intro hj k hk
        have hj' : j < ops.size := by
          rcases Nat.lt_or_ge j l.size with h' | h'
          · omega
          · simp [Array.getElem?_eq_none h'] at hj
        have hjo : ops[j]? = some ops[j] := by simp [hj']
        obtain ⟨e, he, hb, hk'⟩ := (validT_spec hT hjo).2 k hk
        have hel := hcl j _ hjo hj e he hb
        rcases hk' with rfl | hk'
        · exact hel
        · exact ih e.on ((validT_spec hT hjo).1 e he hb) hel k hk'
    have hanci : ∀ k ∈ T.getD i [], l.getD k false = true := by
      intro k hk
      obtain ⟨e, he, hb, hk'⟩ := (validT_spec hT ho).2 k hk
      have hel := haft e he hb
      rcases hk' with rfl | hk'
      · exact hel
      · exact hanc e.on hel k hk'
    have setk : ∀ k, (∀ j, j < ops.size → (l.getD j false = true ↔ j < k)) → i = k → ∀ j, j < ops.size → ((l.setIfInBounds i true).getD j false = true ↔ j < k + 1) := by
      rintro k h rfl j hj
      by_cases hji : i = j
      · subst hji
        have hi2 : i < l.size := by omega
        simp [hi2]
      · rw [getD_set_ne false hji, h j hj]
        omega
    rcases hph with ⟨hpre0, hcc⟩ | ⟨k, hk1, hk2, hk3, hw⟩
    rotate_left
    · have hik : i = k := by
        have h1 : ¬ i < k := fun h => by rw [(hk3 i hi').2 h] at hil; cases hil
        have h2 : ¬ k < i := fun h => by
          have := (hk3 k (by omega)).1 (hanci k (hlast i (by omega) hi' k h))
          omega
        omega
      rw [show ops.size - k = (ops.size - (k + 1)) + 1 by omega, List.range'_succ, wpOpsIn_cons] at hw
      rw [hik]
      refine wpOpIn_mono (fun a' w' h => ?_) hw
      exact ⟨by simpa using hsz, by rw [← hik]; exact listed_set ho haft hcl, .inr ⟨k + 1, by omega, by omega, by rw [← hik]; simpa [hik] using setk k hk3 hik, h⟩⟩
    rcases Nat.lt_or_ge i m with him | him
    rotate_left
    · have hie : i = m := by
        rcases Nat.lt_or_ge m i with h | h
        · have := hanci m (hlast i him hi' m h)
          rw [hpre0 m (Nat.le_refl _)] at this
          cases this
        · omega
      have hall : ∀ j, j < m → l.getD j false = true := fun j hj => hanci j (hlast i him hi' j (by omega))
      have hw := hQ a w (by
        rw [← sAt_same (D := fun j => l.getD j false) m hall]
        exact hcc)
      rw [show ops.size - m = (ops.size - (m + 1)) + 1 by omega, List.range'_succ, wpOpsIn_cons] at hw
      rw [hie]
      refine wpOpIn_mono (fun a' w' h => ?_) hw
      refine ⟨by simpa using hsz, by rw [← hie]; exact listed_set ho haft hcl, .inr ⟨m + 1, by omega, by omega, ?_, h⟩⟩
      have hk3 : ∀ j, j < ops.size → (l.getD j false = true ↔ j < m) := fun j hj => ⟨fun h => (by
        rcases Nat.lt_or_ge j m with h' | h'
        · exact h'
        · rw [hpre0 j h'] at h; cases h), hall j⟩
      rw [← hie]
      simpa [hie] using setk m hk3 hie
    obtain ⟨hri, hci⟩ := hrun i o him ho
    have hpre : ∀ j, j < m → ∀ oj, ops[j]? = some oj → j ≠ i →
        (j < i → clash oj.dst o.dst (eff j) (eff i) ((gop A ops (nm j) oj).tmps (sAt dst eff s0 (fun _ => true) j)) ((gop A ops (nm i) o).tmps (sAt dst eff s0 (fun _ => true) i))
          ((gop A ops (nm j) oj).blks (sAt dst eff s0 (fun _ => true) j)) ((gop A ops (nm i) o).blks (sAt dst eff s0 (fun _ => true) i)) = true → l.getD j false = true) ∧
        (i < j → clash o.dst oj.dst (eff i) (eff j) ((gop A ops (nm i) o).tmps (sAt dst eff s0 (fun _ => true) i)) ((gop A ops (nm j) oj).tmps (sAt dst eff s0 (fun _ => true) j))
          ((gop A ops (nm i) o).blks (sAt dst eff s0 (fun _ => true) i)) ((gop A ops (nm j) oj).blks (sAt dst eff s0 (fun _ => true) j)) = true → l.getD j false = false) := by
      intro j hj oj hoj hne
      refine ⟨fun hlt hcl' => hanci j (hclash j i oj o hlt him hoj ho hcl'), fun hlt hcl' => ?_⟩
      have hm := hclash i j o oj hlt hj ho hoj hcl'
      rcases hlj : l.getD j false with _ | _
      · rfl
      · have := hanc j hlj i hm
        rw [hil] at this
        cases this
    have eqT : sAt dst eff s0 (fun j => decide (j < i)) m = sAt dst eff s0 (fun _ => true) i := by
      have h1 : ∀ k, sAt dst eff s0 (fun j => decide (j < i)) (i + k) = sAt dst eff s0 (fun j => decide (j < i)) i := by
        intro k
        induction k with
        | zero => rfl
        | succ k ih =>
          show (if decide (i + k < i) then _ else _) = _
          rw [if_neg (by simp)]
          exact ih
      have h2 := h1 (m - i)
      rw [show i + (m - i) = m by omega] at h2
      rw [h2]
      exact sAt_same i fun j hj => by simp [hj]
    have agreeT : ∀ t ∈ (gop A ops (nm i) o).tmps (sAt dst eff s0 (fun _ => true) i), (sAt dst eff s0 (fun _ => true) i).tmp t = (sAt dst eff s0 (fun j => l.getD j false) m).tmp t := by
      intro t ht
      rw [← eqT]
      refine sAt_tmp m fun j hj hdj => ?_
      have hjo : ops[j]? = some ops[j] := by simp [show j < ops.size by omega]
      rw [hd hjo] at hdj
      by_cases hji : j = i
      · subst hji; simp [hil]
      obtain ⟨p1, p2⟩ := hpre j hj _ hjo hji
      rcases Nat.lt_or_ge j i with hlt | hge
      · simp only [hlt, decide_true]
        refine (p1 hlt ?_).symm
        rcases hcc' : clash ops[j].dst o.dst (eff j) (eff i) _ _ _ _ with _ | _
        · exact absurd ht ((clash_false hcc').1 t hdj)
        · rfl
      · have hlt : i < j := by omega
        simp only [show ¬ j < i by omega, decide_false]
        refine (p2 hlt ?_).symm
        rcases hcc' : clash o.dst ops[j].dst (eff i) (eff j) _ _ _ _ with _ | _
        · exact absurd hdj ((clash_false hcc').2.2.1 t ht)
        · rfl
    have agreeB : ∀ n ∈ (gop A ops (nm i) o).blks (sAt dst eff s0 (fun _ => true) i), (sAt dst eff s0 (fun _ => true) i).blk n = (sAt dst eff s0 (fun j => l.getD j false) m).blk n := by
      intro n hn
      rw [← eqT]
      refine sAt_blk m fun j hj hdj => ?_
      have hjo : ops[j]? = some ops[j] := by simp [show j < ops.size by omega]
      by_cases hji : j = i
      · subst hji; simp [hil]
      obtain ⟨p1, p2⟩ := hpre j hj _ hjo hji
      rcases Nat.lt_or_ge j i with hlt | hge
      · simp only [hlt, decide_true]
        refine (p1 hlt ?_).symm
        rcases hcc' : clash ops[j].dst o.dst (eff j) (eff i) _ _ _ _ with _ | _
        · exact absurd hn ((clash_false hcc').2.2.2.1 n hdj)
        · rfl
      · have hlt : i < j := by omega
        simp only [show ¬ j < i by omega, decide_false]
        refine (p2 hlt ?_).symm
        rcases hcc' : clash o.dst ops[j].dst (eff i) (eff j) _ _ _ _ with _ | _
        · exact absurd hdj ((clash_false hcc').2.2.2.2.2 n hn)
        · rfl
    have hri' : (gop A ops (nm i) o).run (sAt dst eff s0 (fun j => l.getD j false) m) = some (eff i) := (Rd.run_congr _ agreeT agreeB).trans hri
    refine wpOp_gop hA ho hri' hcc hci fun a' w' hcc' => ⟨by simpa using hsz, listed_set ho haft hcl, .inl ⟨fun j hj => ?_, ?_⟩⟩
    · rw [getD_set_ne false (by omega)]
      exact hpre0 j hj
    · have := sAt_add (dst := dst) (eff := eff) (s0 := s0) (D := fun j => l.getD j false) (D' := fun j => (l.setIfInBounds i true).getD j false) (i := i) hil (fun j => by
          by_cases hji : i = j
          · subst hji
            have : i < l.size := by omega
            simp [this]
          · rw [getD_set_ne false hji]
            have : (j == i) = false := by simp; omega
            simp [this]) (fun j hij hj => by
          have hjm : j < m := by
            rcases Nat.lt_or_ge j m with h' | h'
            · exact h'
            · rw [hpre0 j h'] at hj; cases hj
          have hjo : ops[j]? = some ops[j] := by simp [show j < ops.size by omega]
          obtain ⟨p1, p2⟩ := hpre j hjm _ hjo (by omega)
          have hcf : clash o.dst ops[j].dst (eff i) (eff j) ((gop A ops (nm i) o).tmps (sAt dst eff s0 (fun _ => true) i)) ((gop A ops (nm j) ops[j]).tmps (sAt dst eff s0 (fun _ => true) j))
              ((gop A ops (nm i) o).blks (sAt dst eff s0 (fun _ => true) i)) ((gop A ops (nm j) ops[j]).blks (sAt dst eff s0 (fun _ => true) j)) = false := by
            rcases hcc'' : clash o.dst ops[j].dst (eff i) (eff j) _ _ _ _ with _ | _
            · rfl
            · have := p2 hij hcc''
              rw [this] at hj
              cases hj
          have := clash_false hcf
          rw [hd ho, hd hjo]
          exact ⟨this.2.1, this.2.2.2.2.1⟩) (m - (i + 1))
      rw [show i + 1 + (m - (i + 1)) = m by omega, hd ho] at this
      rw [this]
      exact hcc'
  · refine ⟨by simp, fun j o ho hl => ?_, .inl ⟨fun j hj => ?_, ?_⟩⟩
    · exfalso
      have hj : j < ops.size := (Array.getElem?_eq_some_iff.1 ho).1
      simp [hj] at hl
    · rcases Nat.lt_or_ge j ops.size with h | h
      · simp [h]
      · simp [Array.getElem?_eq_none (xs := Array.replicate ops.size false) (by simpa using h)]
    · have e0 : ∀ k, k ≤ m → sAt dst eff s0 (fun j => (Array.replicate ops.size false).getD j false) k = s0 := by
        intro k
        induction k with
        | zero => intro _; rfl
        | succ k ih =>
          intro hm'
          show (if (Array.replicate ops.size false).getD k false then _ else _) = _
          have : k < ops.size := by omega
          rw [if_neg (by simp [this])]
          exact ih (by omega)
      rw [e0 m (Nat.le_refl _)]
      obtain ⟨h1, h2, h3, ρ, h4, h5⟩ := hc
      exact ⟨h1, h2, ⟨h3.os, h3.tape, h3.output, h3.size, h3.block⟩, ρ, h4, h5.keep ⟨rfl, rfl, rfl, Nat.le_refl _, fun _ _ => rfl⟩⟩

/-- A region in the order of the text. -/
theorem region_text {P : Program} {A : Nat → Oper → Rd Eff} (hA : Sound P A) {ops : Array Oper} {nm : Nat → Nat} {s0 : FS} {eff : Nat → Eff}
    (hrun : ∀ i o, ops[i]? = some o → (gop A ops (nm i) o).run (sAt (dstOf ops) eff s0 (fun _ => true) i) = some (eff i) ∧ (eff i).cond)
    {w0 : Start} {a : Act} {w : World} (hc : Conc w0 s0 a w) {Q : Exit → Act → World → Prop} {id : Nat}
    (hQ : ∀ a' w', Conc w0 (sAt (dstOf ops) eff s0 (fun _ => true) ops.size) a' w' → Q .normal a' w') : (Code.region id ops false).wpIn (fz w0.ro) 3 P Q a w := by
  refine wpIn_region ?_
  rw [List.range_eq_range']
  have key : ∀ k i a w, i + k = ops.size → Conc w0 (sAt (dstOf ops) eff s0 (fun _ => true) i) a w → wpOpsIn (fz w0.ro) 3 P ops Q (List.range' i k) a w := by
    intro k
    induction k with
    | zero =>
      intro i a w hi hcc
      obtain rfl : i = ops.size := by omega
      exact hQ a w hcc
    | succ k ih =>
      intro i a w hi hcc
      rw [List.range'_succ, wpOpsIn_cons]
      have ho : ops[i]? = some ops[i] := by
        have : i < ops.size := by omega
        simp [this]
      obtain ⟨h1, h2⟩ := hrun i _ ho
      refine wpOp_gop hA ho h1 hcc h2 fun a' w' hcc' => ih (i + 1) a' w' (by omega) ?_
      have e : sAt (dstOf ops) eff s0 (fun _ => true) (i + 1) = (sAt (dstOf ops) eff s0 (fun _ => true) i).upd ops[i].dst (eff i) := by
        have hd : dstOf ops i = ops[i].dst := by simp [dstOf, ho]
        rw [← hd]
        rfl
      rw [e]
      exact hcc'
  exact key ops.size 0 a w (by omega) hc
end Go.Proofs.Ytoijfjifaljpaab
