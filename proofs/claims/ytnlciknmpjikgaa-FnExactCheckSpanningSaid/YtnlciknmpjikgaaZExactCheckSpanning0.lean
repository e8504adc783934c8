/-
  Texts that the proof needs, merged. Written by an AI agent.
-/
import Derived.Orders
import Derived.Below
import Derived.OrdersIn
import Derived.Deep.LoopGhost
import Derived.WalkKit
import Derived.Laws.CopyRow
import Derived.Laws.AppendOwn
import Derived.Laws.Slices
import Derived.Laws.MakeOwn
import Derived.Test.YtnlciknmpjikgaaRows
import Derived.ProofKit
import Derived.OpenShut
import Derived.Carry
import Derived.IntWalk
import Derived.Test.YtnlciknmpjikgaaProg
import Derived.WalkSpells
import Derived.WalkLawsBesides
import Derived.Lib.Hide
import Derived.Deep.QuietTactic
import Derived.BigQuiet
import Derived.KernelRfl
import Derived.Deep.RegionHeld3
import Derived.LoopTactic
import Derived.Laws.StructEq
import Derived.Laws.Tables
import Derived.RangeFuncNested
import Derived.RangeFuncLeaves
import Derived.Deep.Slices
import Derived.Deep.Fields
import Derived.ChangeSame
namespace Go.Proofs.Ytnlciknmpjikgaa
set_option linter.all false
open Go.RowKit
/-- What kind of block a name stands for: one that the call owns whole, a row that it owns (of elements of that type and size), cells that can be read, none any more. -/
inductive BK where
  | box
  | row (elem : TypeId) (size : Nat)
  | view
  | dead
/-- Known cells: values, or ints, or bytes. -/
inductive Cs where
  | vals (l : List Value)
  | ints (xs : List Int)
  | bytes (bs : List Int)
def Cs.list : Cs → List Value
  | .vals l => l
  | .ints xs => xs.map (Value.int .i64)
  | .bytes bs => bs.map (Value.int .u8)
/-- How many cells are known. -/
def Cs.size : Cs → Nat
  | .vals l => l.length
  | .ints xs => xs.length
  | .bytes bs => bs.length
theorem Cs.size_is (c : Cs) : c.size = c.list.length := by
  cases c <;> simp [Cs.size, Cs.list]
/-- What a name stands for. -/
structure Blk where
  kind : BK
  cs : Cs
/-- The cells that are known. -/
def Blk.cells (b : Blk) : List Value := b.cs.list
/-- A reading of slots and names that ends in an answer, or in none. -/
inductive Rd (α : Type) where
  | ret (a : α)
  | fail
  | tmp (t : Nat) (k : Value → Rd α)
  | blk (n : Nat) (k : Option Blk → Rd α)
namespace Rd
def bind {α β : Type} : Rd α → (α → Rd β) → Rd β
  | .ret a, f => f a
  | .fail, _ => .fail
  | .tmp t k, f => .tmp t fun v => (k v).bind f
  | .blk n k, f => .blk n fun v => (k v).bind f
instance : Monad Rd where
  pure := Rd.ret
  bind := Rd.bind
end Rd
/-- The abstract state. -/
structure FS where
  n : Nat
  tmp : Nat → Value
  blk : Nat → Option Blk
theorem FS.ext' {s s' : FS} (h : s.n = s'.n) (h1 : ∀ t, s.tmp t = s'.tmp t) (h2 : ∀ n, s.blk n = s'.blk n) : s = s' := by
  cases s; cases s'
  simp at h
  subst h
  congr
  · exact funext h1
  · exact funext h2
def Rd.run {α : Type} (s : FS) : Rd α → Option α
  | .ret a => some a
  | .fail => none
  | .tmp t k => (k (s.tmp t)).run s
  | .blk n k => (k (s.blk n)).run s
/-- The slots that are read. -/
def Rd.tmps {α : Type} (s : FS) : Rd α → List Nat
  | .ret _ => []
  | .fail => []
  | .tmp t k => t :: (k (s.tmp t)).tmps s
  | .blk n k => (k (s.blk n)).tmps s
/-- The names that are read. -/
def Rd.blks {α : Type} (s : FS) : Rd α → List Nat
  | .ret _ => []
  | .fail => []
  | .tmp t k => (k (s.tmp t)).blks s
  | .blk n k => n :: (k (s.blk n)).blks s
theorem Rd.run_congr {α : Type} {s s' : FS} : ∀ (r : Rd α), (∀ t ∈ r.tmps s, s.tmp t = s'.tmp t) → (∀ n ∈ r.blks s, s.blk n = s'.blk n) → r.run s' = r.run s
  | .ret _, _, _ => rfl
  | .fail, _, _ => rfl
  | .tmp t k, h1, h2 => by
    have e := h1 t (by simp [Rd.tmps])
    simp only [Rd.run, ← e]
    exact Rd.run_congr (k (s.tmp t)) (fun x hx => h1 x (by simp [Rd.tmps, hx])) (fun x hx => h2 x (by simpa [Rd.blks] using hx))
  | .blk n k, h1, h2 => by
    have e := h2 n (by simp [Rd.blks])
    simp only [Rd.run, ← e]
    exact Rd.run_congr (k (s.blk n)) (fun x hx => h1 x (by simpa [Rd.tmps] using hx)) (fun x hx => h2 x (by simp [Rd.blks, hx]))
theorem Rd.run_bind {α β : Type} (s : FS) : ∀ (r : Rd α) (f : α → Rd β), (r.bind f).run s = (r.run s).bind fun a => (f a).run s
  | .ret _, _ => rfl
  | .fail, _ => rfl
  | .tmp t k, f => by simp only [Rd.bind, Rd.run]; exact Rd.run_bind s (k (s.tmp t)) f
  | .blk n k, f => by simp only [Rd.bind, Rd.run]; exact Rd.run_bind s (k (s.blk n)) f
/-- What an operation does: the value for its slot, new contents of names, and what must hold for it to end well. -/
structure Eff where
  val : Value
  wr : List (Nat × Blk)
  conds : List Prop
def AllP : List Prop → Prop
  | [] => True
  | p :: r => p ∧ AllP r
theorem AllP.append : ∀ {l r : List Prop}, AllP (l ++ r) → AllP l ∧ AllP r
  | [], _, h => ⟨trivial, h⟩
  | _ :: _, _, h => ⟨⟨h.1, (AllP.append h.2).1⟩, (AllP.append h.2).2⟩
def Eff.cond (e : Eff) : Prop := AllP e.conds
def lookW : List (Nat × Blk) → Nat → Option Blk
  | [], _ => none
  | (k, b) :: r, n => if k = n then some b else lookW r n
theorem lookW_none : ∀ {l : List (Nat × Blk)} {n : Nat}, n ∉ l.map (·.1) → lookW l n = none
  | [], _, _ => rfl
  | (k, b) :: r, n, h => by
    simp only [List.map_cons, List.mem_cons, not_or] at h
    simp only [lookW]
    rw [if_neg (fun e => h.1 e.symm)]
    exact lookW_none h.2
def FS.upd (s : FS) (dst : Option Tmp) (e : Eff) : FS where
  n := s.n
  tmp := fun t => if dst = some t ∧ t < s.n then e.val else s.tmp t
  blk := fun m => match lookW e.wr m with
    | some b => some b
    | none => s.blk m
theorem FS.upd_tmp_ne {s : FS} {dst : Option Tmp} {e : Eff} {t : Nat} (h : dst ≠ some t) : (s.upd dst e).tmp t = s.tmp t := by
  simp [FS.upd, h]
theorem FS.upd_blk_ne {s : FS} {dst : Option Tmp} {e : Eff} {m : Nat} (h : m ∉ e.wr.map (·.1)) : (s.upd dst e).blk m = s.blk m := by
  simp only [FS.upd, lookW_none h]
theorem FS.upd_comm {s : FS} {d d' : Option Tmp} {e e' : Eff} (h : ∀ t, d = some t → d' ≠ some t) (hw : ∀ m ∈ e.wr.map (·.1), m ∉ e'.wr.map (·.1)) :
    (s.upd d e).upd d' e' = (s.upd d' e').upd d e := by
  refine FS.ext' rfl (fun t => ?_) (fun m => ?_)
  · by_cases h1 : d = some t
    · have h2 := h t h1
      rw [FS.upd_tmp_ne h2]
      simp only [FS.upd, h1, true_and]
      by_cases ht : t < s.n
      · simp [ht]
      · simp [ht, h2]
    · rw [FS.upd_tmp_ne (s := s.upd d' e') h1]
      simp only [FS.upd, h1, false_and, if_false]
  · by_cases hm : m ∈ e.wr.map (·.1)
    · have h2 := hw m hm
      rw [FS.upd_blk_ne h2]
      simp only [FS.upd, lookW_none h2]
    · rw [FS.upd_blk_ne (s := s.upd d' e') hm]
      simp only [FS.upd, lookW_none hm]
section region
variable (dst : Nat → Option Tmp) (eff : Nat → Eff) (s0 : FS)
/-- The state when, of the first m operations, those of D have been run. -/
def sAt (D : Nat → Bool) : Nat → FS
  | 0 => s0
  | j + 1 => if D j then (sAt D j).upd (dst j) (eff j) else sAt D j
variable {dst eff s0}
theorem sAt_n (D : Nat → Bool) : ∀ m, (sAt dst eff s0 D m).n = s0.n
  | 0 => rfl
  | m + 1 => by
    unfold sAt
    split
    · exact sAt_n D m
    · exact sAt_n D m
theorem sAt_tmp {D D' : Nat → Bool} {t : Nat} : ∀ m, (∀ j, j < m → dst j = some t → D j = D' j) → (sAt dst eff s0 D m).tmp t = (sAt dst eff s0 D' m).tmp t
  | 0, _ => rfl
  | m + 1, h => by
    have ih := sAt_tmp (D := D) (D' := D') m fun j hj hd => h j (by omega) hd
    unfold sAt
    by_cases hd : dst m = some t
    · rw [← h m (by omega) hd]
      split
      · simp only [FS.upd, hd, true_and, sAt_n]
        split
        · rfl
        · exact ih
      · exact ih
    · have e1 : ∀ D : Nat → Bool, (if D m then (sAt dst eff s0 D m).upd (dst m) (eff m) else sAt dst eff s0 D m).tmp t = (sAt dst eff s0 D m).tmp t := by
        intro D
        split
        · exact FS.upd_tmp_ne hd
        · rfl
      rw [e1, e1]
      exact ih
theorem sAt_blk {D D' : Nat → Bool} {n : Nat} : ∀ m, (∀ j, j < m → n ∈ (eff j).wr.map (·.1) → D j = D' j) → (sAt dst eff s0 D m).blk n = (sAt dst eff s0 D' m).blk n
  | 0, _ => rfl
  | m + 1, h => by
    have ih := sAt_blk (D := D) (D' := D') m fun j hj hd => h j (by omega) hd
    unfold sAt
    by_cases hd : n ∈ (eff m).wr.map (·.1)
    · rw [← h m (by omega) hd]
      split
      · simp only [FS.upd]
        split
        · rfl
        · exact ih
      · exact ih
    · have e1 : ∀ D : Nat → Bool, (if D m then (sAt dst eff s0 D m).upd (dst m) (eff m) else sAt dst eff s0 D m).blk n = (sAt dst eff s0 D m).blk n := by
        intro D
        split
        · exact FS.upd_blk_ne hd
        · rfl
      rw [e1, e1]
      exact ih
theorem sAt_same {D D' : Nat → Bool} : ∀ m, (∀ j, j < m → D j = D' j) → sAt dst eff s0 D m = sAt dst eff s0 D' m
  | 0, _ => rfl
  | m + 1, h => by
    unfold sAt
    rw [h m (by omega), sAt_same m fun j hj => h j (by omega)]
/-- One more operation has been run, which no later one that has been run gets in the way of. -/
theorem sAt_add {D D' : Nat → Bool} {i : Nat} (hi : D i = false) (hD' : ∀ j, D' j = (D j || j == i)) (hc : ∀ j, i < j → D j = true → (∀ t, dst i = some t → dst j ≠ some t) ∧ ∀ m ∈ (eff i).wr.map (·.1), m ∉ (eff j).wr.map (·.1)) :
    ∀ k, sAt dst eff s0 D' (i + 1 + k) = (sAt dst eff s0 D (i + 1 + k)).upd (dst i) (eff i)
  | 0 => by
    have e1 : D' i = true := by rw [hD']; simp
    have e2 : sAt dst eff s0 D' i = sAt dst eff s0 D i := sAt_same i fun j hj => by
      rw [hD']
      have : (j == i) = false := by simp; omega
      simp [this]
    show (if D' i then (sAt dst eff s0 D' i).upd (dst i) (eff i) else sAt dst eff s0 D' i) = (if D i then (sAt dst eff s0 D i).upd (dst i) (eff i) else sAt dst eff s0 D i).upd (dst i) (eff i)
    rw [e1, hi, e2]
    rfl
  | k + 1 => by
    have ih := sAt_add hi hD' hc k
    have e1 : D' (i + 1 + k) = D (i + 1 + k) := by
      rw [hD']
      have : (i + 1 + k == i) = false := by simp; omega
      simp [this]
    show (if D' (i + 1 + k) then (sAt dst eff s0 D' (i + 1 + k)).upd (dst (i + 1 + k)) (eff (i + 1 + k)) else sAt dst eff s0 D' (i + 1 + k)) = (if D (i + 1 + k) then (sAt dst eff s0 D (i + 1 + k)).upd (dst (i + 1 + k)) (eff (i + 1 + k)) else sAt dst eff s0 D (i + 1 + k)).upd (dst i) (eff i)
    rw [e1, ih]
    rcases hd : D (i + 1 + k) with _ | _
    · rfl
    · obtain ⟨h1, h2⟩ := hc (i + 1 + k) (by omega) hd
      exact FS.upd_comm h1 h2
end region
/-- The operations that are sure to have been run ahead: by the edges, each to an earlier one. -/
def ancOf (ops : List Oper) : List (List Nat)  :=
  ops.foldl (fun acc o => acc ++ [o.after.toList.foldl (fun l e => if Region.binds .any e && decide (e.on < acc.length) then l ++ (e.on :: acc.getD e.on []).filter (fun k => !l.contains k) else l) []]) []
section
variable {F : Fence} {n : Nat} {P : Program} {ops : Array Oper} {Q : Exit → Act → World → Prop}
/-- An assertion of what has been run, kept by every operation that may come next, carries over a drawn region. -/
theorem wpAny_inv {md : Region.Mode} (I : Array Bool → Act → World → Prop)
    (hend : ∀ l a w, I l a w → Region.ready md ops l = [] → Q .normal a w)
    (hstep : ∀ l a w i, I l a w → i ∈ Region.ready md ops l → wpOpIn F n P ops Q i (I (l.setIfInBounds i true)) a w) :
    ∀ (fuel : Nat) (l : Array Bool) (a : Act) (w : World), I l a w → l.toList.count false ≤ fuel → wpAnyIn F n P md ops Q fuel l a w := by
  intro fuel
  induction fuel with
  | zero =>
    intro l a w h hf
    have hr : Region.ready md ops l = [] := by
      rcases hl : Region.ready md ops l with _ | ⟨i, r⟩
      · rfl
      · exfalso
        have hi : i ∈ Region.ready md ops l := by rw [hl]; exact List.mem_cons_self ..
        have h0 := (mem_ready.1 hi).1
        have hlt : i < l.size := by
          rcases Nat.lt_or_ge i l.size with h' | h'
          · exact h'
          · simp [Array.getElem?_eq_none h'] at h0
        have hv : l[i] = false := by simpa [hlt] using h0
        have hm : false ∈ l.toList := by rw [← hv]; exact Array.getElem_mem_toList hlt
        have := List.count_pos_iff.2 hm
        omega
    exact ⟨hr, hend l a w h hr⟩
  | succ fuel ih =>
    intro l a w h hf
    refine ⟨fun hr => hend l a w h hr, fun i hi => ?_⟩
    refine wpOpIn_mono (fun a' w' h' => ih _ _ _ h' ?_) (hstep l a w i h hi)
    have h0 := (mem_ready.1 hi).1
    have hlt : i < l.size := by
      rcases Nat.lt_or_ge i l.size with h' | h'
      · exact h'
      · simp [Array.getElem?_eq_none h'] at h0
    have hv : l[i] = false := by simpa [hlt] using h0
    have key : ∀ (xs : List Bool) (i : Nat) (hi : i < xs.length), xs[i] = false → (xs.set i true).count false + 1 = xs.count false := by
      intro xs
      induction xs with
      | nil => intro i hi; simp at hi
      | cons x xs ihx =>
        intro i hi hx
        cases i with
        | zero => simp at hx; subst hx; simp
        | succ i =>
          have := ihx i (by simpa using hi) (by simpa using hx)
          simp only [List.set_cons_succ, List.count_cons]
          omega
    have := key l.toList i (by simpa using hlt) (by simpa using hv)
    simp only [Array.toList_setIfInBounds]
    omega
end
/-- A one-cell value in which no address lies, not in an interface. -/
def atom0 : Value → Bool
  | .bool _ | .int _ _ | .float _ _ | .complex _ _ _ | .string _ | .pointer none | .nilFunc | .nilIface => true
  | .slice none l c => l == 0 && c == 0
  | .func _ f c => f.isEmpty && c.isEmpty
  | _ => false
/-- A one-cell value in which no address lies. -/
def atomV : Value → Bool
  | .bool _ | .int _ _ | .float _ _ | .complex _ _ _ | .string _ | .pointer none | .nilFunc | .nilIface => true
  | .slice none l c => l == 0 && c == 0
  | .func _ f c => f.isEmpty && c.isEmpty
  | .iface _ (.agg cs) => cs.toList.all atom0
  | .iface _ v => atom0 v
  | _ => false
/-- A value in which no address lies. -/
def plainV : Value → Bool
  | .agg cs => cs.toList.all atomV
  | .tuple vs => vs.toList.all fun v => match v with
    | .agg cs => cs.toList.all atomV
    | v => atomV v
  | v => atomV v
theorem plain_of_atom {v : Value} (h : atomV v = true) : plainV v = true := by
  cases v <;> first | exact h | (simp [atomV] at h)
/-- Where a name lies: its block, the first cell, and, of a row that the call owns, its capacity. -/
abbrev Pl := Nat × Nat × Option Nat
/-- The place of an empty row that lies nowhere. -/
def nilPl (p : Pl) : Prop := p.2.1 = 1 ∧ ∃ k, p.2.2 = some k
/-- A place that is somewhere. -/
def okPl (f : Nat) (cp : Option Nat) : Prop := f = 0 ∨ cp = none
theorem okPl.not {g f : Nat} {cp : Option Nat} (h : okPl f cp) : ¬ nilPl (g, f, cp) := by
  rintro ⟨h1, k, h2⟩
  simp only at h1 h2
  rcases h with h | h
  · omega
  · rw [h] at h2; cases h2
/-- The value of which nothing is known. -/
def topV : Value := .chan (some 0)
def isTop : Value → Bool
  | .chan _ => true
  | _ => false
/-- What an abstract value says of a value. -/
inductive VR (ρ : Nat → Option Pl) : Value → Value → Prop where
  | lit {v : Value} (h : plainV v = true) : VR ρ v v
  | ptr {n o g f : Nat} {cp : Option Nat} (h : ρ n = some (g, f, cp)) (hq : okPl f cp) : VR ρ (.pointer (some ⟨n, o, none⟩)) (.pointer (some ⟨g, f + o, none⟩))
  | top {v' : Value} : VR ρ topV v'
  | nil_ {n o l c c' : Nat} {ad : Option Addr} {p : Pl} (h : ρ n = some p) (hp : nilPl p) (hl : l = 0) (hc : p.2.2 = some 0 → ad = none ∧ c' = 0) : VR ρ (.slice (some ⟨n, o, none⟩) l c) (.slice ad 0 c')
  | slice {n o l c g f c' : Nat} {cp : Option Nat} (h : ρ n = some (g, f, cp)) (hq : okPl f cp) (hl : l ≤ c') (hc : ∀ k, cp = some k → o = 0 → c' = k) : VR ρ (.slice (some ⟨n, o, none⟩) l c) (.slice (some ⟨g, f + o, none⟩) l c')
  | none_ {n o c c' : Nat} {ad : Addr} (ho : 0 < o) : VR ρ (.slice (some ⟨n, o, none⟩) 0 c) (.slice (some ad) 0 c')
  | agg {cs cs' : Array Value} (hs : cs.size = cs'.size) (h : ∀ (i : Nat) v v', cs[i]? = some v → cs'[i]? = some v' → VR ρ v v') : VR ρ (.agg cs) (.agg cs')
  | tuple {cs cs' : Array Value} (hs : cs.size = cs'.size) (h : ∀ (i : Nat) v v', cs[i]? = some v → cs'[i]? = some v' → VR ρ v v') : VR ρ (.tuple cs) (.tuple cs')
  | func {fn : Fn} {f f' c c' : Array Value} (hf : f.size = f'.size) (hc : c.size = c'.size) (h1 : ∀ (i : Nat) v v', f[i]? = some v → f'[i]? = some v' → VR ρ v v')
      (h2 : ∀ (i : Nat) v v', c[i]? = some v → c'[i]? = some v' → VR ρ v v') : VR ρ (.func fn f c) (.func fn f' c')
def Ext (ρ ρ' : Nat → Option Pl) : Prop := ∀ n p, ρ n = some p → ρ' n = some p
theorem Ext.refl (ρ : Nat → Option Pl) : Ext ρ ρ := fun _ _ h => h
theorem Ext.trans {ρ1 ρ2 ρ3 : Nat → Option Pl} (h : Ext ρ1 ρ2) (k : Ext ρ2 ρ3) : Ext ρ1 ρ3 := fun n p hn => k n p (h n p hn)
theorem VR.ext {ρ ρ' : Nat → Option Pl} (h : Ext ρ ρ') {v v' : Value} (k : VR ρ v v') : VR ρ' v v' := by
  induction k with
  | lit hp => exact .lit hp
  | ptr hn hq => exact .ptr (h _ _ hn) hq
  | top => exact .top
  | nil_ hn hp hl hc => exact .nil_ (h _ _ hn) hp hl hc
  | slice hn hq hl hc => exact .slice (h _ _ hn) hq hl hc
  | none_ ho => exact .none_ ho
  | agg hs _ ih => exact .agg hs ih
  | tuple hs _ ih => exact .tuple hs ih
  | func hf hc _ _ ih1 ih2 => exact .func hf hc ih1 ih2
theorem VR.plain {ρ : Nat → Option Pl} {v v' : Value} (k : VR ρ v v') (h : plainV v = true) : v' = v := by
  induction k with
  | lit _ => rfl
  | ptr hn hq => simp [plainV, atomV] at h
  | top => simp [plainV, atomV, topV] at h
  | nil_ hn hp hl hc => simp [plainV, atomV] at h
  | slice hn hq hl hc => simp [plainV, atomV] at h
  | none_ ho => simp [plainV, atomV] at h
  | @agg cs cs' hs hh ih =>
    simp only [plainV, List.all_eq_true] at h
    congr 1
    apply Array.ext hs.symm
    intro i h1 h2
    have hv : cs[i]? = some cs[i] := by simp [h2]
    have hv' : cs'[i]? = some cs'[i] := by simp [h1]
    exact ih i _ _ hv hv' (plain_of_atom (h _ (by simp)))
  | @tuple cs cs' hs hh ih =>
    simp only [plainV, List.all_eq_true] at h
    congr 1
    apply Array.ext hs.symm
    intro i h1 h2
    have hv : cs[i]? = some cs[i] := by simp [h2]
    have hv' : cs'[i]? = some cs'[i] := by simp [h1]
    refine ih i _ _ hv hv' ?_
    have hm := h cs[i] (by simp)
    generalize cs[i] = x at hm
    cases x <;> first | exact hm | exact plain_of_atom hm
  | @func fn f f' c c' hf hc h1 h2 ih1 ih2 =>
    simp [plainV, atomV] at h
    obtain ⟨rfl, rfl⟩ := h
    have e1 : f' = #[] := Array.eq_empty_of_size_eq_zero (by simpa using hf.symm)
    have e2 : c' = #[] := Array.eq_empty_of_size_eq_zero (by simpa using hc.symm)
    rw [e1, e2]
theorem VR.agg_inv {ρ : Nat → Option Pl} {cs : Array Value} {v' : Value} (k : VR ρ (.agg cs) v') :
    ∃ cs' : Array Value, v' = .agg cs' ∧ cs.size = cs'.size ∧ ∀ (i : Nat) v v', cs[i]? = some v → cs'[i]? = some v' → VR ρ v v' := by
  cases k with
  | lit hp =>
    refine ⟨cs, rfl, rfl, fun i v v' h h' => ?_⟩
    rw [h] at h'
    obtain rfl : v = v' := by simpa using h'
    simp only [plainV, List.all_eq_true] at hp
    exact .lit (plain_of_atom (hp _ (by
      obtain ⟨hi, rfl⟩ := Array.getElem?_eq_some_iff.1 h
      simp)))
  | agg hs h => exact ⟨_, rfl, hs, h⟩
theorem VR.tuple_inv {ρ : Nat → Option Pl} {cs : Array Value} {v' : Value} (k : VR ρ (.tuple cs) v') :
    ∃ cs' : Array Value, v' = .tuple cs' ∧ cs.size = cs'.size ∧ ∀ (i : Nat) v v', cs[i]? = some v → cs'[i]? = some v' → VR ρ v v' := by
  cases k with
  | lit hp =>
    refine ⟨cs, rfl, rfl, fun i v v' h h' => ?_⟩
    rw [h] at h'
    obtain rfl : v = v' := by simpa using h'
    simp only [plainV, List.all_eq_true] at hp
    have hm := hp v (by
      obtain ⟨hi, rfl⟩ := Array.getElem?_eq_some_iff.1 h
      simp)
    refine .lit ?_
    cases v <;> first | exact hm | exact plain_of_atom hm
  | tuple hs h => exact ⟨_, rfl, hs, h⟩
theorem VR.cells {ρ : Nat → Option Pl} {v v' : Value} (k : VR ρ v v') (hnt : isTop v = false) : v.cells.size = v'.cells.size ∧ ∀ (i : Nat) x x', v.cells[i]? = some x → v'.cells[i]? = some x' → VR ρ x x' := by
  have one : ∀ {v v' : Value}, VR ρ v v' → v.cells = #[v] → v'.cells = #[v'] → v.cells.size = v'.cells.size ∧ ∀ (i : Nat) x x', v.cells[i]? = some x → v'.cells[i]? = some x' → VR ρ x x' := by
    intro v v' k h h'
    rw [h, h']
    refine ⟨rfl, fun i x x' hx hx' => ?_⟩
    cases i with
    | zero =>
      obtain rfl : v = x := by simpa using hx
      obtain rfl : v' = x' := by simpa using hx'
      exact k
    | succ i => simp at hx
  cases v with
  | agg cs =>
    obtain ⟨cs', rfl, hs, h⟩ := k.agg_inv
    exact ⟨hs, h⟩
  | chan r => cases hnt
  | _ => have k0 := k; cases k <;> exact one k0 rfl rfl
def Blk.own (b : Blk) : Bool :=
  match b.kind with
  | .box | .row _ _ => true
  | _ => false
def Blk.live (b : Blk) : Bool :=
  match b.kind with
  | .dead => false
  | _ => true
theorem own_live {b : Blk} (h : b.own = true) : b.live = true := by
  unfold Blk.own at h
  unfold Blk.live
  split at h <;> simp_all
def Cells (ρ : Nat → Option Pl) (cs : List Value) (cs' : Array Value) : Prop := ∀ (k : Nat) v, cs[k]? = some v → ∃ v', cs'[k]? = some v' ∧ VR ρ v v'
def BlkOk (ρ : Nat → Option Pl) (B : Nat → Prop) (w : World) (n : Nat) (b : Blk) : Prop :=
  match b.kind with
  | .dead => True
  | .view => (∃ p, ρ n = some p ∧ nilPl p) ∨ ∃ g f cp, ρ n = some (g, f, cp) ∧ okPl f cp ∧ g < w.heap.size ∧ ∀ (k : Nat) v, b.cells[k]? = some v → ∃ v', w.cell? ⟨g, f + k, none⟩ = some v' ∧ VR ρ v v'
  | .box => ∃ g, ρ n = some (g, 0, none) ∧ ¬ B g ∧ ∃ cs' e, w.heap[g]? = some (.cells cs' e (0, 0)) ∧ cs'.size = b.cells.length ∧ Cells ρ b.cells cs'
  | .row e sz => (∃ p, ρ n = some p ∧ p.2.1 = 1 ∧ p.2.2 = some 0) ∨ ∃ g cap, ρ n = some (g, 0, some cap) ∧ ¬ B g ∧ ∃ cs', w.heap[g]? = some (.cells cs' e (0, 0)) ∧ cs'.size = cap * sz ∧ Cells ρ b.cells cs'
/-- The blocks that are to be kept are as they were; the streams are as they were; no block has gone. -/
structure BelowK (K : Nat → Prop) (w w' : World) : Prop where
  os : w'.os = w.os
  tape : w'.tape = w.tape
  output : w'.output = w.output
  size : w.heap.size ≤ w'.heap.size
  block : ∀ k, K k → w'.heap[k]? = w.heap[k]?
theorem BelowK.refl (K : Nat → Prop) (w : World) : BelowK K w w := ⟨rfl, rfl, rfl, Nat.le_refl _, fun _ _ => rfl⟩
theorem BelowK.trans {K : Nat → Prop} {a b c : World} (h : BelowK K a b) (k : BelowK K b c) : BelowK K a c :=
  ⟨k.os.trans h.os, k.tape.trans h.tape, k.output.trans h.output, Nat.le_trans h.size k.size, fun i hi => (k.block i hi).trans (h.block i hi)⟩
theorem BelowK.drew {K : Nat → Prop} {a w : World} (h : BelowK K a w) : BelowK K a w.drew := ⟨h.os, h.tape, h.output, h.size, h.block⟩
theorem BelowK.of {K : Nat → Prop} {n : Nat} {a b : World} (h : Below n a b) (hK : ∀ k, K k → k < n) : BelowK K a b := ⟨h.os, h.tape, h.output, h.size, fun k hk => h.block k (hK k hk)⟩
theorem BelowK.to {n : Nat} {a b : World} (h : BelowK (fun k => k < n) a b) : Below n a b := ⟨h.os, h.tape, h.output, h.size, h.block⟩
theorem BelowK.alloc {K : Nat → Prop} {a w : World} (h : BelowK K a w) (hK : ∀ k, K k → k < w.heap.size) (o : Obj) : BelowK K a (w.alloc o) :=
  h.trans ⟨rfl, rfl, rfl, by simp, fun k hk => Below.heap_alloc _ _ _ (hK k hk)⟩
theorem new_free {K : Nat → Prop} {n : Nat} (hK : ∀ k, K k → k < n) : ¬ K n := fun h => Nat.lt_irrefl _ (hK n h)
/-- Where a call begins: its world, and the places that names have for good. -/
structure Start extends World where
  ρ0 : Nat → Option Pl
  kp : Nat → Prop
  kpl : ∀ k, kp k → k < toWorld.heap.size
  df : List Deferred
  ro : Option Nat
instance : Coe Start World := ⟨Start.toWorld⟩
/-- What is known of memory. -/
structure MemOk (ρ0 ρ : Nat → Option Pl) (B : Nat → Prop) (m : Nat → Option Blk) (w : World) : Prop where
  ext : Ext ρ0 ρ
  fresh : ∀ n, m n = none → ρ n = none
  ok : ∀ n b, m n = some b → BlkOk ρ B w n b
  sep : ∀ n n' b b' p p', m n = some b → b.own = true → m n' = some b' → b'.live = true → n ≠ n' → ρ n = some p → ρ n' = some p' → ¬ nilPl p → ¬ nilPl p' → p.1 ≠ p'.1
/-- What an abstract state says of a frame and a world, for a call that began in w0. -/
def Conc (w0 : Start) (s : FS) (a : Act) (w : World) : Prop :=
  a.defers = w0.df ∧ a.tmps.size = s.n ∧ BelowK w0.kp w0.toWorld w ∧ ∃ ρ, (∀ t, VR ρ (s.tmp t) (a.tmps.getD t undef)) ∧ MemOk w0.ρ0 ρ w0.kp s.blk w
/-- The fence of a round of the loop at that block, or of none: all functions, any depth. -/
abbrev fz (ro : Option Nat) : Fence := { Fence.wide with round := ro }
/-- What an operation must achieve. -/
def owp (P : Program) (w0 : Start) (o : Oper) (a : Act) (w : World) (K : Act → World → Prop) (Q : Exit → Act → World → Prop) : Prop := o.wpIn (fz w0.ro) 3 P a w K Q
theorem calls_fz {ro : Option Nat} {n : Nat} {P : Program} {f : FuncId} {args : Array Value} {w : World} {R : Ending → World → Prop} (h : Calls P f args w R) : CallsIn (fz ro) n P f args w R := (callsIn_wide (n := n)).2 h
theorem Cells.ext {ρ ρ' : Nat → Option Pl} (h : Ext ρ ρ') {cs : List Value} {cs' : Array Value} (k : Cells ρ cs cs') : Cells ρ' cs cs' := fun i v hv => by
  obtain ⟨v', h1, h2⟩ := k i v hv
  exact ⟨v', h1, h2.ext h⟩
theorem heap_lt {w : World} {g : Nat} {o : Obj} (h : w.heap[g]? = some o) : g < w.heap.size := by
  rcases Nat.lt_or_ge g w.heap.size with h' | h'
  · exact h'
  · rw [Array.getElem?_eq_none h'] at h; cases h
/-- A block's facts stand in a world that has that block as it was. -/
theorem BlkOk.keep {ρ ρ' : Nat → Option Pl} {B : Nat → Prop} {w w' : World} {n : Nat} {b : Blk} (h : BlkOk ρ B w n b) (he : Ext ρ ρ') (hs : w.heap.size ≤ w'.heap.size)
    (hk : ∀ p, b.live = true → ρ n = some p → ¬ nilPl p → w'.heap[p.1]? = w.heap[p.1]?) : BlkOk ρ' B w' n b := by
  obtain ⟨kd, cs⟩ := b
  cases kd with
  | dead => trivial
  | view =>
    rcases h with ⟨p, h2, h3⟩ | ⟨g, f, cp, h1, hq, h2, h3⟩
    · exact .inl ⟨p, he _ _ h2, h3⟩
    have hh := hk _ rfl h1 hq.not
    refine .inr ⟨g, f, cp, he _ _ h1, hq, by omega, fun k v hv => ?_⟩
    obtain ⟨v', h4, h5⟩ := h3 k v hv
    exact ⟨v', (World.cell?_of_block (w := w) (a := ⟨g, f + k, none⟩) hh).trans h4, h5.ext he⟩
  | box =>
    obtain ⟨g, h1, h2, cs', e, h3, h4, h5⟩ := h
    exact ⟨g, he _ _ h1, h2, cs', e, (hk _ rfl h1 (okPl.not (.inl rfl))).trans h3, h4, h5.ext he⟩
  | row e sz =>
    rcases h with ⟨p, h2, h3⟩ | ⟨g, cap, h1, h2, cs', h3, h4, h5⟩
    · exact .inl ⟨p, he _ _ h2, h3⟩
    exact .inr ⟨g, cap, he _ _ h1, h2, cs', (hk _ rfl h1 (okPl.not (.inl rfl))).trans h3, h4, h5.ext he⟩
theorem BlkOk.place {ρ : Nat → Option Pl} {B : Nat → Prop} {w : World} {n : Nat} {b : Blk} (h : BlkOk ρ B w n b) (hl : b.live = true) : ∃ p, ρ n = some p ∧ (nilPl p ∨ (p.1 < w.heap.size ∧ (b.own = true → ¬ B p.1))) := by
  obtain ⟨kd, cs⟩ := b
  cases kd with
  | dead => cases hl
  | view =>
    rcases h with ⟨p, h2, h3⟩ | ⟨g, f, cp, h1, hq, h2, h3⟩
    · exact ⟨p, h2, .inl h3⟩
    exact ⟨_, h1, .inr ⟨h2, fun h => by cases h⟩⟩
  | box =>
    obtain ⟨g, h1, h2, cs', e, h3, h4, h5⟩ := h
    exact ⟨_, h1, .inr ⟨heap_lt h3, fun _ => h2⟩⟩
  | row e sz =>
    rcases h with ⟨p, h2, h3, h4⟩ | ⟨g, cap, h1, h2, cs', h3, h4, h5⟩
    · exact ⟨p, h2, .inl ⟨h3, 0, h4⟩⟩
    exact ⟨_, h1, .inr ⟨heap_lt h3, fun _ => h2⟩⟩
theorem BlkOk.real {ρ : Nat → Option Pl} {B : Nat → Prop} {w : World} {n : Nat} {b : Blk} {p : Pl} (h : BlkOk ρ B w n b) (hl : b.live = true) (hp : ρ n = some p) (hn : ¬ nilPl p) : p.1 < w.heap.size ∧ (b.own = true → ¬ B p.1) := by
  obtain ⟨p', h1, h2⟩ := h.place hl
  rw [hp] at h1
  obtain rfl : p = p' := by simpa using h1
  exact h2.resolve_left hn
/-- All blocks that there were are as they were: the same memory, with one more draw or callees' blocks. -/
theorem MemOk.rebase {ρ0 ρ : Nat → Option Pl} {B : Nat → Prop} {m : Nat → Option Blk} {w : World} (h : MemOk ρ0 ρ B m w) : MemOk ρ ρ B m w := ⟨Ext.refl ρ, h.fresh, h.ok, h.sep⟩
theorem MemOk.keep {ρ0 ρ : Nat → Option Pl} {B : Nat → Prop} {m : Nat → Option Blk} {w w' : World} (h : MemOk ρ0 ρ B m w) (hb : Below w.heap.size w w') : MemOk ρ0 ρ B m w' where
  ext := h.ext
  fresh := h.fresh
  ok := fun n b hn => (h.ok n b hn).keep (Ext.refl ρ) hb.size fun p hl hp hnp => hb.block _ ((h.ok n b hn).real hl hp hnp).1
  sep := h.sep
def skipE : Eff := ⟨undef, [], []⟩
/-- An operation, its guard asked first; its own name must be free. -/
def gop (A : Nat → Oper → Rd Eff) (ops : Array Oper) (name : Nat) (o : Oper) : Rd Eff :=
  .blk name fun b => match b with
    | some _ => .fail
    | none => match o.guard with
      | none => A name o
      | some (g, want) => match (ops[g]?).bind (·.dst) with
        | none => .ret skipE
        | some t => .tmp t fun v => match v with
          | .bool b => if b = want then A name o else .ret skipE
          | .chan _ => .fail
          | _ => .ret skipE
/-- The abstract operations are sound. -/
def Sound (P : Program) (A : Nat → Oper → Rd Eff) : Prop :=
  ∀ (name : Nat) (o : Oper) (s : FS) (eff : Eff) (w0 : Start) (a : Act) (w : World) (Q : Exit → Act → World → Prop) (K : Act → World → Prop),
    (A name o).run s = some eff → s.blk name = none → Conc w0 s a w → eff.cond → (∀ a' w', Conc w0 (s.upd o.dst eff) a' w' → K a' w') → owp P w0 o a w K Q
theorem VR.not_bool {ρ : Nat → Option Pl} {v v' : Value} (k : VR ρ v v') (hnt : isTop v = false) (h : ∀ b, v ≠ .bool b) : ∀ b, v' ≠ .bool b := by
  intro b e
  subst e
  cases k
  · exact h b rfl
  · simp [isTop, topV] at hnt
theorem eval_tmp (a : Act) (t : Nat) : a.eval (.tmp t) = a.tmps.getD t undef := rfl
theorem put_conc {w0 : Start} {s : FS} {a : Act} {w w' : World} {dst : Option Tmp} {e : Eff} {v' : Value} {ρ : Nat → Option Pl} (hd : a.defers = w0.df) (hn : a.tmps.size = s.n) (hb : BelowK w0.kp w0.toWorld w')
    (ht : ∀ t, VR ρ (s.tmp t) (a.tmps.getD t undef)) (hv : VR ρ e.val v') (hm : MemOk w0.ρ0 ρ w0.kp (s.upd dst e).blk w') : Conc w0 (s.upd dst e) (a.put dst v') w' := by
  have hw : w' = w' ∧ w = w := ⟨rfl, rfl⟩
  cases dst with
  | none =>
    refine ⟨hd, hn, hb, ρ, fun t => ?_, hm⟩
    rw [FS.upd_tmp_ne (by simp)]
    exact ht t
  | some d =>
    refine ⟨hd, (by show (a.tmps.setIfInBounds d v').size = s.n; simpa using hn), hb, ρ, fun t => ?_, hm⟩
    by_cases hdt : d = t
    · subst hdt
      by_cases hlt : d < s.n
      · simp only [FS.upd, hlt, and_self, if_true]
        have : d < a.tmps.size := by rw [hn]; exact hlt
        simpa [Act.put, this] using hv
      · simp only [FS.upd, hlt, and_false, if_false]
        have : ¬ d < a.tmps.size := by rw [hn]; exact hlt
        have h := ht d
        simpa [Act.put, this] using h
    · rw [FS.upd_tmp_ne (by simpa using hdt)]
      have h := ht t
      simpa [Act.put, Array.getElem?_setIfInBounds_ne hdt] using h
theorem wpOp_gop {P : Program} {A : Nat → Oper → Rd Eff} (hA : Sound P A) {ops : Array Oper} {i name : Nat} {o : Oper} (ho : ops[i]? = some o) {s : FS} {eff : Eff} (hr : (gop A ops name o).run s = some eff) {w0 : Start} {a : Act} {w : World}
    (hc : Conc w0 s a w) (hcond : eff.cond) {Q : Exit → Act → World → Prop} {K : Act → World → Prop} (hK : ∀ a' w', Conc w0 (s.upd o.dst eff) a' w' → K a' w') : wpOpIn (fz w0.ro) 3 P ops Q i K a w := by
  have hskip : (Rd.ret skipE).run s = some eff → K (a.put o.dst undef) w := by
    intro h
    obtain rfl : skipE = eff := by simpa [Rd.run] using h
    obtain ⟨h1, h2, h3, ρ, h4, h5⟩ := hc
    exact hK _ _ (put_conc (w := w) h1 h2 h3 h4 (.lit rfl) (by
      have : (s.upd o.dst skipE).blk = s.blk := by funext m; simp [FS.upd, skipE, lookW]
      rw [this]; exact h5))
  have yes : Region.wanted o (yielded ops a.tmps) = true → (A name o).run s = some eff → s.blk name = none → wpOpIn (fz w0.ro) 3 P ops Q i K a w := fun h hr hb => by
    unfold wpOpIn
    simp only [ho, h, if_true]
    exact hA name o s eff w0 a w Q K hr hb hc hcond hK
  have no : Region.wanted o (yielded ops a.tmps) = false → (Rd.ret skipE).run s = some eff → wpOpIn (fz w0.ro) 3 P ops Q i K a w := fun h hr => by
    unfold wpOpIn
    simp only [ho, h, Bool.false_eq_true, if_false]
    exact ⟨fun _ _ => trivial, hskip hr⟩
  simp only [gop, Rd.run] at hr
  rcases hb : s.blk name with _ | b
  rotate_left
  · rw [hb] at hr; simp [Rd.run] at hr
  rw [hb] at hr
  simp only at hr
  rcases hg : o.guard with _ | ⟨g, want⟩
  · rw [hg] at hr
    exact yes (by simp [Region.wanted, hg]) hr hb
  · rw [hg] at hr
    simp only at hr
    rcases ht : (ops[g]?).bind (·.dst) with _ | t
    · rw [ht] at hr
      refine no ?_ hr
      simp only [Region.wanted, hg, yielded, ht]
      simp
    · rw [ht] at hr
      simp only [Rd.run] at hr
      obtain ⟨ρ, hv, _⟩ := hc.2.2.2
      have hvt := hv t
      by_cases hbool : ∃ b, s.tmp t = .bool b
      · obtain ⟨b, hb'⟩ := hbool
        rw [hb'] at hr hvt
        have e := hvt.plain rfl
        have e' : a.tmps[t]? = some (.bool b) := by
          rcases hx : a.tmps[t]? with _ | x
          · simp [hx, undef] at e
          · simp [hx] at e; rw [e]
        have hy : yielded ops a.tmps g = some b := by simp [yielded, ht, e']
        by_cases hw : b = want
        · subst hw
          simp only [if_true] at hr
          exact yes (by simp [Region.wanted, hg, hy]) hr hb
        · simp only [if_neg hw] at hr
          exact no (by simp [Region.wanted, hg, hy, hw]) hr
      · have hnb : ∀ b, s.tmp t ≠ .bool b := fun b hb => hbool ⟨b, hb⟩
        have hr' : isTop (s.tmp t) = false ∧ (Rd.ret skipE).run s = some eff := by
          revert hr
          generalize s.tmp t = x at hnb
          cases x <;> first | exact fun h => ⟨rfl, h⟩ | (intro _; exact absurd rfl (hnb _)) | (intro h; simp [Rd.run] at h)
        obtain ⟨hnt, hr'⟩ := hr'
        have hnv := hvt.not_bool hnt hnb
        have hy : yielded ops a.tmps g = none := by
          simp only [yielded, ht, Option.bind_some]
          rcases hx : a.tmps[t]? with _ | x
          · rfl
          · have : a.tmps.getD t undef = x := by simp [hx]
            rw [this] at hnv
            cases x <;> first | rfl | exact absurd rfl (hnv _)
        exact no (by simp [Region.wanted, hg, hy]) hr'
def validT (ops : Array Oper) (T : List (List Nat)) : Bool :=
  (List.range ops.size).all fun j => ((ops[j]?).map fun o => o.after.all (fun e => !Region.binds .any e || decide (e.on < j)) &&
    (T.getD j []).all fun k => o.after.any fun e => Region.binds .any e && (k == e.on || (T.getD e.on []).contains k)).getD true
def meets (xs ys : List Nat) : Bool := xs.any ys.contains
/-- Do two operations get in each other's way? -/
def clash (d d' : Option Tmp) (e e' : Eff) (rt rt' rb rb' : List Nat) : Bool :=
  meets d.toList rt' || meets d.toList d'.toList || meets rt d'.toList || meets (e.wr.map (·.1)) rb' || meets (e.wr.map (·.1)) (e'.wr.map (·.1)) || meets rb (e'.wr.map (·.1))
theorem meets_false {xs ys : List Nat} (h : meets xs ys = false) : ∀ x ∈ xs, x ∉ ys := by
  intro x hx hy
  unfold meets at h
  rw [List.any_eq_false] at h
  exact h x hx (by simpa using hy)
theorem clash_false {d d' : Option Tmp} {e e' : Eff} {rt rt' rb rb' : List Nat} (h : clash d d' e e' rt rt' rb rb' = false) :
    (∀ t, d = some t → t ∉ rt') ∧ (∀ t, d = some t → d' ≠ some t) ∧ (∀ t ∈ rt, d' ≠ some t) ∧ (∀ n ∈ e.wr.map (·.1), n ∉ rb') ∧ (∀ n ∈ e.wr.map (·.1), n ∉ e'.wr.map (·.1)) ∧ (∀ n ∈ rb, n ∉ e'.wr.map (·.1)) := by
  unfold clash at h
  simp only [Bool.or_eq_false_iff] at h
  obtain ⟨⟨⟨⟨⟨h1, h2⟩, h3⟩, h4⟩, h5⟩, h6⟩ := h
  refine ⟨fun t ht => meets_false h1 t (by simp [ht]), fun t ht h' => meets_false h2 t (by simp [ht]) (by simp [h']), fun t ht h' => meets_false h3 t ht (by simp [h']), meets_false h4, meets_false h5, meets_false h6⟩
theorem validT_spec {ops : Array Oper} {T : List (List Nat)} (h : validT ops T = true) {j : Nat} {o : Oper} (ho : ops[j]? = some o) :
    (∀ e ∈ o.after, Region.binds .any e = true → e.on < j) ∧ ∀ k ∈ T.getD j [], ∃ e ∈ o.after, Region.binds .any e = true ∧ (k = e.on ∨ k ∈ T.getD e.on []) := by
  unfold validT at h
  have hj : j < ops.size := (Array.getElem?_eq_some_iff.1 ho).1
  have h1 := List.all_eq_true.1 h j (by simpa using hj)
  rw [ho] at h1
  simp only [Option.map_some, Option.getD_some, Bool.and_eq_true] at h1
  refine ⟨fun e he hb => ?_, fun k hk => ?_⟩
  · have := Array.all_eq_true_iff_forall_mem.1 h1.1 e he
    simpa [hb] using this
  · have := List.all_eq_true.1 h1.2 k hk
    obtain ⟨e, he, hb⟩ := Array.any_eq_true'.1 this
    simp only [Bool.and_eq_true, Bool.or_eq_true, beq_iff_eq] at hb
    exact ⟨e, he, hb.1, hb.2.imp id (by simp)⟩
def dstOf (ops : Array Oper) (j : Nat) : Option Tmp := (ops[j]?).bind (·.dst)
/-- A drawn region whose operations only get in each other's way where an edge orders them: the order of the text serves for all. -/
theorem region_any {P : Program} {A : Nat → Oper → Rd Eff} (hA : Sound P A) (hm : P.follows .mixedOrders = true) {ops : Array Oper} {nm : Nat → Nat} {s0 : FS} {eff : Nat → Eff} {T : List (List Nat)} (hT : validT ops T = true)
    (hrun : ∀ i o, ops[i]? = some o → (gop A ops (nm i) o).run (sAt (dstOf ops) eff s0 (fun _ => true) i) = some (eff i) ∧ (eff i).cond)
    (hclash : ∀ i j oi oj, i < j → ops[i]? = some oi → ops[j]? = some oj →
      clash oi.dst oj.dst (eff i) (eff j) ((gop A ops (nm i) oi).tmps (sAt (dstOf ops) eff s0 (fun _ => true) i)) ((gop A ops (nm j) oj).tmps (sAt (dstOf ops) eff s0 (fun _ => true) j))
        ((gop A ops (nm i) oi).blks (sAt (dstOf ops) eff s0 (fun _ => true) i)) ((gop A ops (nm j) oj).blks (sAt (dstOf ops) eff s0 (fun _ => true) j)) = true → i ∈ T.getD j [])
    {w0 : Start} {a : Act} {w : World} (hc : Conc w0 s0 a w) {Q : Exit → Act → World → Prop} {id : Nat}
    (hQ : ∀ a' w', Conc w0 (sAt (dstOf ops) eff s0 (fun _ => true) ops.size) a' w' → Q .normal a' w') : (Code.region id ops true).wpIn (fz w0.ro) 3 P Q a w := by
  generalize hdst : dstOf ops = dst at *
  have hd : ∀ {j : Nat} {o : Oper}, ops[j]? = some o → dst j = o.dst := fun {j o} ho => by rw [← hdst]; simp [dstOf, ho]
  refine wpIn_region_any hm (wpAny_inv (fun l a w => l.size = ops.size ∧ (∀ (j : Nat) o, ops[j]? = some o → l.getD j false = true → ∀ e ∈ o.after, Region.binds .any e = true → l.getD e.on false = true) ∧
    Conc w0 (sAt dst eff s0 (fun j => l.getD j false) ops.size) a w) ?_ ?_ ops.size _ a _ ?_ (by simp))
  · rintro l a w ⟨hsz, hcl, hcc⟩ hr
    refine hQ a w ?_
    have hall : ∀ j, j < ops.size → l.getD j false = true := by
      intro j
      induction j using Nat.strongRecOn with
      | _ j ih =>
        intro hj
        rcases hlj : l.getD j false with _ | _
        · exfalso
          have hjo : ops[j]? = some ops[j] := by simp [hj]
          have : j ∈ Region.ready .any ops l := mem_ready.2 ⟨by
            have hj' : j < l.size := by omega
            simpa [hj'] using hlj, ops[j], hjo, fun e he hb => by
              have hlt := (validT_spec hT hjo).1 e he hb
              exact ih e.on hlt (by omega)⟩
          rw [hr] at this
          cases this
        · rfl
    rw [← sAt_same (D := fun j => l.getD j false) ops.size hall]
    exact hcc
  · rintro l a w i ⟨hsz, hcl, hcc⟩ hi
    obtain ⟨hun, o, ho, haft⟩ := mem_ready.1 hi
    have hi' : i < ops.size := (Array.getElem?_eq_some_iff.1 ho).1
    have hil : l.getD i false = false := by
      have hi2 : i < l.size := by omega
      simpa [hi2] using hun
    -- all that is sure to come ahead of a listed operation is listed
    have hanc : ∀ j, l.getD j false = true → ∀ k ∈ T.getD j [], l.getD k false = true := by
      intro j
      induction j using Nat.strongRecOn with
      | _ j ih =>
        intro hj k hk
        have hj' : j < ops.size := by
          rcases Nat.lt_or_ge j l.size with h' | h'
          · omega
          · simp [Array.getElem?_eq_none h'] at hj
        have hjo : ops[j]? = some ops[j] := by simp [hj']
        obtain ⟨e, he, hb, hk'⟩ := (validT_spec hT hjo).2 k hk
        have hel := hcl j _ hjo hj e he hb
        rcases hk' with rfl | hk'
        · exact hel
        · exact ih e.on ((validT_spec hT hjo).1 e he hb) hel k hk'
    have hanci : ∀ k ∈ T.getD i [], l.getD k false = true := by
      intro k hk
      obtain ⟨e, he, hb, hk'⟩ := (validT_spec hT ho).2 k hk
      have hel := haft e he hb
      rcases hk' with rfl | hk'
      · exact hel
      · exact hanc e.on hel k hk'
    obtain ⟨hri, hci⟩ := hrun i o ho
    -- what clashes with this operation has been run if and only if it stands earlier
    have hpre : ∀ j, j < ops.size → ∀ oj, ops[j]? = some oj → j ≠ i →
        (j < i → clash oj.dst o.dst (eff j) (eff i) ((gop A ops (nm j) oj).tmps (sAt dst eff s0 (fun _ => true) j)) ((gop A ops (nm i) o).tmps (sAt dst eff s0 (fun _ => true) i))
          ((gop A ops (nm j) oj).blks (sAt dst eff s0 (fun _ => true) j)) ((gop A ops (nm i) o).blks (sAt dst eff s0 (fun _ => true) i)) = true → l.getD j false = true) ∧
        (i < j → clash o.dst oj.dst (eff i) (eff j) ((gop A ops (nm i) o).tmps (sAt dst eff s0 (fun _ => true) i)) ((gop A ops (nm j) oj).tmps (sAt dst eff s0 (fun _ => true) j))
          ((gop A ops (nm i) o).blks (sAt dst eff s0 (fun _ => true) i)) ((gop A ops (nm j) oj).blks (sAt dst eff s0 (fun _ => true) j)) = true → l.getD j false = false) := by
      intro j hj oj hoj hne
      refine ⟨fun hlt hcl' => hanci j (hclash j i oj o hlt hoj ho hcl'), fun hlt hcl' => ?_⟩
      have hm := hclash i j o oj hlt ho hoj hcl'
      rcases hlj : l.getD j false with _ | _
      · rfl
      · have := hanc j hlj i hm
        rw [hil] at this
        cases this
    have eqT : sAt dst eff s0 (fun j => decide (j < i)) ops.size = sAt dst eff s0 (fun _ => true) i := by
      have h1 : ∀ k, sAt dst eff s0 (fun j => decide (j < i)) (i + k) = sAt dst eff s0 (fun j => decide (j < i)) i := by
        intro k
        induction k with
        | zero => rfl
        | succ k ih =>
          show (if decide (i + k < i) then _ else _) = _
          rw [if_neg (by simp)]
          exact ih
      have h2 := h1 (ops.size - i)
      rw [show i + (ops.size - i) = ops.size by omega] at h2
      rw [h2]
      exact sAt_same i fun j hj => by simp [hj]
    have agreeT : ∀ t ∈ (gop A ops (nm i) o).tmps (sAt dst eff s0 (fun _ => true) i), (sAt dst eff s0 (fun _ => true) i).tmp t = (sAt dst eff s0 (fun j => l.getD j false) ops.size).tmp t := by
      intro t ht
      rw [← eqT]
      refine sAt_tmp ops.size fun j hj hdj => ?_
      have hjo : ops[j]? = some ops[j] := by simp [hj]
      rw [hd hjo] at hdj
      by_cases hji : j = i
      · subst hji; simp [hil]
      obtain ⟨p1, p2⟩ := hpre j hj _ hjo hji
      rcases Nat.lt_or_ge j i with hlt | hge
      · simp only [hlt, decide_true]
        refine (p1 hlt ?_).symm
        rcases hcc' : clash ops[j].dst o.dst (eff j) (eff i) _ _ _ _ with _ | _
        · exact absurd ht ((clash_false hcc').1 t hdj)
        · rfl
      · have hlt : i < j := by omega
        simp only [show ¬ j < i by omega, decide_false]
        refine (p2 hlt ?_).symm
        rcases hcc' : clash o.dst ops[j].dst (eff i) (eff j) _ _ _ _ with _ | _
        · exact absurd hdj ((clash_false hcc').2.2.1 t ht)
        · rfl
    have agreeB : ∀ n ∈ (gop A ops (nm i) o).blks (sAt dst eff s0 (fun _ => true) i), (sAt dst eff s0 (fun _ => true) i).blk n = (sAt dst eff s0 (fun j => l.getD j false) ops.size).blk n := by
      intro n hn
      rw [← eqT]
      refine sAt_blk ops.size fun j hj hdj => ?_
      have hjo : ops[j]? = some ops[j] := by simp [hj]
      by_cases hji : j = i
      · subst hji; simp [hil]
      obtain ⟨p1, p2⟩ := hpre j hj _ hjo hji
      rcases Nat.lt_or_ge j i with hlt | hge
      · simp only [hlt, decide_true]
        refine (p1 hlt ?_).symm
        rcases hcc' : clash ops[j].dst o.dst (eff j) (eff i) _ _ _ _ with _ | _
        · exact absurd hn ((clash_false hcc').2.2.2.1 n hdj)
        · rfl
      · have hlt : i < j := by omega
        simp only [show ¬ j < i by omega, decide_false]
        refine (p2 hlt ?_).symm
        rcases hcc' : clash o.dst ops[j].dst (eff i) (eff j) _ _ _ _ with _ | _
        · exact absurd hdj ((clash_false hcc').2.2.2.2.2 n hn)
        · rfl
    have hri' : (gop A ops (nm i) o).run (sAt dst eff s0 (fun j => l.getD j false) ops.size) = some (eff i) := (Rd.run_congr _ agreeT agreeB).trans hri
    refine wpOp_gop hA ho hri' hcc hci fun a' w' hcc' => ⟨by simpa using hsz, ?_, ?_⟩
    · intro j oj hoj hlj e he hb
      by_cases hji : i = j
      · subst hji
        obtain rfl : o = oj := by rw [ho] at hoj; simpa using hoj
        exact getD_set_true (haft e he hb)
      · rw [getD_set_ne false hji] at hlj
        exact getD_set_true (hcl j oj hoj hlj e he hb)
    · have := sAt_add (dst := dst) (eff := eff) (s0 := s0) (D := fun j => l.getD j false) (D' := fun j => (l.setIfInBounds i true).getD j false) (i := i) hil (fun j => by
          by_cases hji : i = j
          · subst hji
            have : i < l.size := by omega
            simp [this]
          · rw [getD_set_ne false hji]
            have : (j == i) = false := by simp; omega
            simp [this]) (fun j hij hj => by
          have hj' : j < ops.size := by
            rcases Nat.lt_or_ge j l.size with h' | h'
            · omega
            · simp [Array.getElem?_eq_none h'] at hj
          have hjo : ops[j]? = some ops[j] := by simp [hj']
          obtain ⟨p1, p2⟩ := hpre j hj' _ hjo (by omega)
          have hcf : clash o.dst ops[j].dst (eff i) (eff j) ((gop A ops (nm i) o).tmps (sAt dst eff s0 (fun _ => true) i)) ((gop A ops (nm j) ops[j]).tmps (sAt dst eff s0 (fun _ => true) j))
              ((gop A ops (nm i) o).blks (sAt dst eff s0 (fun _ => true) i)) ((gop A ops (nm j) ops[j]).blks (sAt dst eff s0 (fun _ => true) j)) = false := by
            rcases hcc'' : clash o.dst ops[j].dst (eff i) (eff j) _ _ _ _ with _ | _
            · rfl
            · have := p2 hij hcc''
              rw [this] at hj
              cases hj
          have := clash_false hcf
          rw [hd ho, hd hjo]
          exact ⟨this.2.1, this.2.2.2.2.1⟩) (ops.size - (i + 1))
      rw [show i + 1 + (ops.size - (i + 1)) = ops.size by omega, hd ho] at this
      rw [this]
      exact hcc'
  · refine ⟨by simp, fun j o ho hl => ?_, ?_⟩
    · exfalso
      have hj : j < ops.size := (Array.getElem?_eq_some_iff.1 ho).1
      simp [hj] at hl
    · have e0 : ∀ m, m ≤ ops.size → sAt dst eff s0 (fun j => (Array.replicate ops.size false).getD j false) m = s0 := by
        intro m
        induction m with
        | zero => intro _; rfl
        | succ m ih =>
          intro hm'
          show (if (Array.replicate ops.size false).getD m false then _ else _) = _
          have : m < ops.size := by omega
          rw [if_neg (by simp [this])]
          exact ih (by omega)
      rw [e0 ops.size (Nat.le_refl _)]
      obtain ⟨h1, h2, h3, ρ, h4, h5⟩ := hc
      exact ⟨h1, h2, ⟨h3.os, h3.tape, h3.output, h3.size, h3.block⟩, ρ, h4, h5.keep ⟨rfl, rfl, rfl, Nat.le_refl _, fun _ _ => rfl⟩⟩
/-- A region in the order of the text. -/
theorem region_text {P : Program} {A : Nat → Oper → Rd Eff} (hA : Sound P A) {ops : Array Oper} {nm : Nat → Nat} {s0 : FS} {eff : Nat → Eff}
    (hrun : ∀ i o, ops[i]? = some o → (gop A ops (nm i) o).run (sAt (dstOf ops) eff s0 (fun _ => true) i) = some (eff i) ∧ (eff i).cond)
    {w0 : Start} {a : Act} {w : World} (hc : Conc w0 s0 a w) {Q : Exit → Act → World → Prop} {id : Nat}
    (hQ : ∀ a' w', Conc w0 (sAt (dstOf ops) eff s0 (fun _ => true) ops.size) a' w' → Q .normal a' w') : (Code.region id ops false).wpIn (fz w0.ro) 3 P Q a w := by
  refine wpIn_region ?_
  rw [List.range_eq_range']
  have key : ∀ k i a w, i + k = ops.size → Conc w0 (sAt (dstOf ops) eff s0 (fun _ => true) i) a w → wpOpsIn (fz w0.ro) 3 P ops Q (List.range' i k) a w := by
    intro k
    induction k with
    | zero =>
      intro i a w hi hcc
      obtain rfl : i = ops.size := by omega
      exact hQ a w hcc
    | succ k ih =>
      intro i a w hi hcc
      rw [List.range'_succ, wpOpsIn_cons]
      have ho : ops[i]? = some ops[i] := by
        have : i < ops.size := by omega
        simp [this]
      obtain ⟨h1, h2⟩ := hrun i _ ho
      refine wpOp_gop hA ho h1 hcc h2 fun a' w' hcc' => ih (i + 1) a' w' (by omega) ?_
      have e : sAt (dstOf ops) eff s0 (fun _ => true) (i + 1) = (sAt (dstOf ops) eff s0 (fun _ => true) i).upd ops[i].dst (eff i) := by
        have hd : dstOf ops i = ops[i].dst := by simp [dstOf, ho]
        rw [← hd]
        rfl
      rw [e]
      exact hcc'
  exact key ops.size 0 a w (by omega) hc
/-- The state as lists: the slots, the names. -/
structure St where
  tmps : List Value
  mem : List (Option Blk)
def St.fs (s : St) : FS := { n := s.tmps.length, tmp := fun t => s.tmps.getD t undef, blk := fun n => s.mem.getD n none }
def setMem (m : List (Option Blk)) : List (Nat × Blk) → List (Option Blk)
  | [] => m
  | (k, b) :: r => (setMem m r).set k (some b)
def setTmp (l : List Value) (d : Option Tmp) (v : Value) : List Value :=
  match d with
  | some d => l.set d v
  | none => l
def St.upd (s : St) (dst : Option Tmp) (e : Eff) : St := { tmps := setTmp s.tmps dst e.val, mem := setMem s.mem e.wr }
theorem setMem_length (m : List (Option Blk)) : ∀ l, (setMem m l).length = m.length
  | [] => rfl
  | (k, b) :: r => by simp [setMem, setMem_length m r]
theorem setMem_getD (m : List (Option Blk)) (n : Nat) : ∀ l : List (Nat × Blk), (∀ p ∈ l, p.1 < m.length) → (setMem m l).getD n none = match lookW l n with
    | some b => some b
    | none => m.getD n none
  | [], _ => rfl
  | (k, b) :: r, h => by
    have hk : k < m.length := h (k, b) (List.mem_cons_self ..)
    have ih := setMem_getD m n r fun p hp => h p (List.mem_cons_of_mem _ hp)
    simp only [setMem, lookW]
    by_cases hkn : k = n
    · subst hkn
      simp [setMem_length, hk]
    · rw [if_neg hkn, ← ih]
      simp [hkn]
theorem St.upd_fs {s : St} {dst : Option Tmp} {e : Eff} (h : (e.wr.all fun p => decide (p.1 < s.mem.length)) = true) : (s.upd dst e).fs = s.fs.upd dst e := by
  refine FS.ext' ?_ (fun t => ?_) (fun n => ?_)
  · cases dst <;> simp [St.upd, St.fs, setTmp, FS.upd]
  · cases dst with
    | none => simp [St.upd, St.fs, setTmp, FS.upd]
    | some d =>
      simp only [St.upd, St.fs, setTmp, FS.upd, Option.some.injEq]
      by_cases hd : d = t
      · subst hd
        by_cases hl : d < s.tmps.length
        · simp [hl]
        · simp [hl]
      · simp [hd]
  · simp only [St.upd, St.fs, FS.upd]
    exact setMem_getD s.mem n e.wr fun p hp => by simpa using List.all_eq_true.1 h p hp
/-- One operation after the other: what each did and read, and the state behind them. -/
def stepsOf (A : Nat → Oper → Rd Eff) (ops : Array Oper) (nm : Nat → Nat) : Nat → List Oper → St → Option (List (Eff × List Nat × List Nat) × St)
  | _, [], s => some ([], s)
  | i, o :: rest, s =>
    match (gop A ops (nm i) o).run s.fs with
    | none => none
    | some e =>
      match e.wr.all fun p => decide (p.1 < s.mem.length) with
      | false => none
      | true =>
        match stepsOf A ops nm (i + 1) rest (s.upd o.dst e) with
        | none => none
        | some (l, s') => some ((e, (gop A ops (nm i) o).tmps s.fs, (gop A ops (nm i) o).blks s.fs) :: l, s')
def clashAll (T : List (List Nat)) : Nat → List (Oper × Eff × List Nat × List Nat) → Bool
  | _, [] => true
  | i, (o, e, rt, rb) :: rest => (rest.zipIdx (i + 1)).all (fun q => !clash o.dst q.1.1.dst e q.1.2.1 rt q.1.2.2.1 rb q.1.2.2.2 || (T.getD q.2 []).contains i) && clashAll T (i + 1) rest
def condsOf : List (Eff × List Nat × List Nat) → List Prop
  | [] => []
  | (e, _) :: r => e.conds ++ condsOf r
def countB {α : Type} (f : α → Bool) : List α → Nat
  | [] => 0
  | x :: r => (if f x then 1 else 0) + countB f r
/-- The name of what an operation may make. -/
def nameOf (al : Oper → Bool) (ops : List Oper) (n : Nat) (i : Nat) : Nat :=
  match ops[i]? with
  | some o => (match al o with
    | true => n + countB al (ops.take i)
    | false => n + countB al ops + i)
  | none => n + countB al ops + i
/-- A region run on a state. Names are laid aside for the operations that may make memory. -/
def regionRun (A : Nat → Oper → Rd Eff) (al : Oper → Bool) (draw : Bool) (ops : List Oper) (s : St) : Option (St × List Prop) :=
  match stepsOf A ops.toArray (nameOf al ops s.mem.length) 0 ops { tmps := s.tmps, mem := s.mem ++ List.replicate (countB al ops) none } with
  | none => none
  | some (l, s') =>
    match !draw || (validT ops.toArray (ancOf ops) && clashAll (ancOf ops) 0 (ops.zip l)) with
    | false => none
    | true => some (s', condsOf l)
theorem stepsOf_spec {A : Nat → Oper → Rd Eff} {ops : Array Oper} {nm : Nat → Nat} {s0 : FS} {eff : Nat → Eff} : ∀ (rest : List Oper) (i : Nat) (s s' : St) (l : List (Eff × List Nat × List Nat)), stepsOf A ops nm i rest s = some (l, s') →
    (∀ j o, rest[j]? = some o → ops[i + j]? = some o) → (∀ j x, l[j]? = some x → eff (i + j) = x.1) → s.fs = sAt (dstOf ops) eff s0 (fun _ => true) i →
    l.length = rest.length ∧ s'.fs = sAt (dstOf ops) eff s0 (fun _ => true) (i + rest.length) ∧
    ∀ j o, rest[j]? = some o → ∃ x, l[j]? = some x ∧ (gop A ops (nm (i + j)) o).run (sAt (dstOf ops) eff s0 (fun _ => true) (i + j)) = some x.1 ∧
      x.2.1 = (gop A ops (nm (i + j)) o).tmps (sAt (dstOf ops) eff s0 (fun _ => true) (i + j)) ∧ x.2.2 = (gop A ops (nm (i + j)) o).blks (sAt (dstOf ops) eff s0 (fun _ => true) (i + j))
  | [], i, s, s', l, h, _, _, hs => by
    simp only [stepsOf, Option.some.injEq, Prod.mk.injEq] at h
    obtain ⟨rfl, rfl⟩ := h
    exact ⟨rfl, hs, fun j o h => by simp at h⟩
  | o :: rest, i, s, s', l, h, hr, he, hs => by
    simp only [stepsOf] at h
    split at h
    · cases h
    rename_i e hrun
    split at h
    · cases h
    rename_i hall
    split at h
    · cases h
    rename_i l1 s1 hrest
    simp only [Option.some.injEq, Prod.mk.injEq] at h
    obtain ⟨rfl, rfl⟩ := h
    have h0 : ops[i]? = some o := by simpa using hr 0 o rfl
    have e0 : eff i = e := by simpa using he 0 _ rfl
    have hs1 : (s.upd o.dst e).fs = sAt (dstOf ops) eff s0 (fun _ => true) (i + 1) := by
      rw [St.upd_fs hall, hs]
      show _ = (sAt (dstOf ops) eff s0 (fun _ => true) i).upd (dstOf ops i) (eff i)
      rw [e0]
      simp [dstOf, h0]
    obtain ⟨g1, g2, g3⟩ := stepsOf_spec rest (i + 1) _ _ _ hrest (fun j o' h => by have := hr (j + 1) o' (by simpa using h); simpa [Nat.add_assoc, Nat.add_comm 1 j] using this)
      (fun j x hx => by have := he (j + 1) x (by simpa using hx); rw [← this]; congr 1; omega) hs1
    refine ⟨by simp [g1], by rw [g2]; congr 1; simp; omega, fun j o' hj => ?_⟩
    cases j with
    | zero =>
      obtain rfl : o = o' := by simpa using hj
      exact ⟨_, rfl, by rw [Nat.add_zero, ← hs]; exact hrun, by rw [Nat.add_zero, ← hs], by rw [Nat.add_zero, ← hs]⟩
    | succ j =>
      obtain ⟨x, k1, k2, k3, k4⟩ := g3 j o' (by simpa using hj)
      rw [show i + (j + 1) = i + 1 + j by omega]
      exact ⟨x, by simpa using k1, k2, k3, k4⟩
theorem condsOf_get : ∀ {l : List (Eff × List Nat × List Nat)}, AllP (condsOf l) → ∀ (j : Nat) x, l[j]? = some x → x.1.cond
  | [], _, _, _, h => by simp at h
  | (e, _) :: r, hc, j, x, h => by
    cases j with
    | zero =>
      simp only [List.getElem?_cons_zero, Option.some.injEq] at h
      subst h
      exact hc.append.1
    | succ j => exact condsOf_get hc.append.2 j x (by simpa using h)
theorem clashAll_get {T : List (List Nat)} : ∀ (l : List (Oper × Eff × List Nat × List Nat)) (k : Nat), clashAll T k l = true → ∀ (i j : Nat) x y, i < j → l[i]? = some x → l[j]? = some y →
    clash x.1.dst y.1.dst x.2.1 y.2.1 x.2.2.1 y.2.2.1 x.2.2.2 y.2.2.2 = true → k + i ∈ T.getD (k + j) []
  | [], _, _, _, _, _, _, _, h, _, _ => by simp at h
  | (o, e, rt, rb) :: rest, k, h, i, j, x, y, hij, hx, hy, hc => by
    simp only [clashAll, Bool.and_eq_true] at h
    obtain ⟨h1, h2⟩ := h
    cases i with
    | zero =>
      simp only [List.getElem?_cons_zero, Option.some.injEq] at hx
      subst hx
      obtain ⟨j, rfl⟩ : ∃ j', j = j' + 1 := ⟨j - 1, by omega⟩
      have hm : (y, k + 1 + j) ∈ rest.zipIdx (k + 1) := by
        rw [List.mem_iff_getElem?]
        exact ⟨j, by rw [List.getElem?_zipIdx]; simp at hy; simp [hy]⟩
      have := List.all_eq_true.1 h1 _ hm
      simp only [hc, Bool.not_true, Bool.false_or] at this
      rw [show k + (j + 1) = k + 1 + j by omega]
      simpa using this
    | succ i =>
      obtain ⟨j, rfl⟩ : ∃ j', j = j' + 1 := ⟨j - 1, by omega⟩
      have := clashAll_get rest (k + 1) h2 i j x y (by omega) (by simpa using hx) (by simpa using hy) hc
      rw [show k + (i + 1) = k + 1 + i by omega, show k + (j + 1) = k + 1 + j by omega]
      exact this
theorem St.pad_fs (s : St) (n : Nat) : St.fs { tmps := s.tmps, mem := s.mem ++ List.replicate n none } = s.fs := by
  refine FS.ext' rfl (fun t => rfl) (fun m => ?_)
  simp only [St.fs]
  simp only [List.getD_eq_getElem?_getD]
  by_cases hm : m < s.mem.length
  · rw [List.getElem?_append_left hm]
  · rw [List.getElem?_append_right (by omega), List.getElem?_eq_none (l := s.mem) (by omega), List.getElem?_replicate]
    split <;> rfl
theorem region_run {P : Program} {A : Nat → Oper → Rd Eff} (hA : Sound P A) (hm : P.follows .mixedOrders = true) {al : Oper → Bool} {draw : Bool} {ops : List Oper} {s s' : St} {C : List Prop} (h : regionRun A al draw ops s = some (s', C)) (hC : AllP C)
    {w0 : Start} {a : Act} {w : World} (hc : Conc w0 s.fs a w) {Q : Exit → Act → World → Prop} {id : Nat} (hQ : ∀ a' w', Conc w0 s'.fs a' w' → Q .normal a' w') : (Code.region id ops.toArray draw).wpIn (fz w0.ro) 3 P Q a w := by
  unfold regionRun at h
  split at h
  · cases h
  rename_i l s1 hst
  split at h
  · cases h
  rename_i hchk
  simp only [Option.some.injEq, Prod.mk.injEq] at h
  obtain ⟨rfl, rfl⟩ := h
  have hspec := stepsOf_spec (s0 := s.fs) (eff := fun i => ((l[i]?).map (·.1)).getD skipE) ops 0 _ _ _ hst (fun j o h => by simpa using h) (fun j x hx => by simp [hx]) (by rw [St.pad_fs]; rfl)
  obtain ⟨h1, h2, h3⟩ := hspec
  have hrun : ∀ i o, ops.toArray[i]? = some o → (gop A ops.toArray (nameOf al ops s.mem.length i) o).run (sAt (dstOf ops.toArray) (fun i => ((l[i]?).map (·.1)).getD skipE) s.fs (fun _ => true) i) = some (((l[i]?).map (·.1)).getD skipE) ∧ (((l[i]?).map (·.1)).getD skipE).cond := by
    intro i o ho
    obtain ⟨x, k1, k2, _, _⟩ := h3 i o (by simpa using ho)
    rw [Nat.zero_add] at k2
    rw [k2, k1]
    exact ⟨rfl, condsOf_get hC i x k1⟩
  have hend : ∀ a' w', Conc w0 (sAt (dstOf ops.toArray) (fun i => ((l[i]?).map (·.1)).getD skipE) s.fs (fun _ => true) ops.toArray.size) a' w' → Q .normal a' w' := by
    intro a' w' hcc
    refine hQ a' w' ?_
    rw [h2, Nat.zero_add]
    simpa using hcc
  cases draw with
  | false => exact region_text hA (nm := nameOf al ops s.mem.length) hrun hc hend
  | true =>
    simp only [Bool.not_true, Bool.false_or, Bool.and_eq_true] at hchk
    refine region_any hA hm hchk.1 (nm := nameOf al ops s.mem.length) hrun (fun i j oi oj hij hoi hoj hcl => ?_) hc hend
    obtain ⟨x, k1, _, k3, k4⟩ := h3 i oi (by simpa using hoi)
    obtain ⟨y, m1, _, m3, m4⟩ := h3 j oj (by simpa using hoj)
    rw [Nat.zero_add] at k3 k4 m3 m4
    have := clashAll_get (ops.zip l) 0 hchk.2 i j (oi, x) (oj, y) hij (by rw [List.getElem?_zip_eq_some]; exact ⟨by simpa using hoi, k1⟩) (by rw [List.getElem?_zip_eq_some]; exact ⟨by simpa using hoj, m1⟩)
      (by simp only [k3, k4, m3, m4]; simpa [k1, m1] using hcl)
    simpa using this
def evalO (s : St) : Operand → Value
  | .tmp t => s.tmps.getD t undef
  | .const v => v
  | _ => undef
theorem noDefer {P : Program} {o : Oper} {ρ : Operand → Value} {w w' : World} {x : Next} (h : (execOp ρ o).run P w = .ok x w') (hx : ∀ d, x ≠ .defer d) : ∀ c, o.op ≠ .defer c := by
  intro c hc
  simp only [execOp, hc, Sem.run_bind, Sem.run_pure] at h
  rcases hr : (resolve ρ c o.type).run P w with ⟨d, w1⟩ | ⟨e, w1⟩
  · rw [hr] at h
    simp only [Result.andThen] at h
    injection h with h1 h2
    exact hx d h1.symm
  · rw [hr] at h
    simp only [Result.andThen] at h
    cases h
theorem value_wp {P : Program} {w0 : Start} {o : Oper} {a : Act} {w w' : World} {v : Value} {K : Act → World → Prop} {Q : Exit → Act → World → Prop} (h : (execOp a.eval o).run P w = .ok (.value v) w') (hK : K (a.put o.dst v) w') : owp P w0 o a w K Q := by
  refine ⟨fun _ _ => trivial, ?_⟩
  rw [Oper.semAt_eq _ _ _ (noDefer h (fun d hd => by cases hd)), h]
  exact hK
theorem skip_wp {P : Program} {w0 : Start} {o : Oper} {a : Act} {w w' : World} {K : Act → World → Prop} {Q : Exit → Act → World → Prop} (h : (execOp a.eval o).run P w = .ok .skip w') (hK : K (a.put o.dst undef) w') : owp P w0 o a w K Q := by
  refine ⟨fun _ _ => trivial, ?_⟩
  rw [Oper.semAt_eq _ _ _ (noDefer h (fun d hd => by cases hd)), h]
  exact hK
theorem enter_wp {P : Program} {w0 : Start} {o : Oper} {a : Act} {w w' : World} {f : FuncId} {args : Array Value} {K : Act → World → Prop} {Q : Exit → Act → World → Prop} (h : (execOp a.eval o).run P w = .ok (.enter f args) w')
    (hK : Calls P f args w' fun e w'' => ∃ v, e = .returned v ∧ K (a.put o.dst v) w'') : owp P w0 o a w K Q := by
  refine ⟨fun _ _ => trivial, ?_⟩
  rw [Oper.semAt_eq _ _ _ (noDefer h (fun d hd => by cases hd)), h]
  refine ⟨fun hd => (by cases hd), calls_fz (hK.mono ?_)⟩
  rintro e w'' ⟨v, rfl, hk⟩
  exact hk
def rdv : Operand → Rd Value
  | .tmp t => .tmp t .ret
  | .const v => match plainV v with
    | true => .ret v
    | false => .fail
  | .func f => .ret (.func (.func f) #[] #[])
  | .global _ => .fail
theorem rdv_ok {ρ : Nat → Option Pl} {s : FS} {a : Act} {x : Operand} {v : Value} (h : (rdv x).run s = some v) (ht : ∀ t, VR ρ (s.tmp t) (a.tmps.getD t undef)) : VR ρ v (a.eval x) := by
  cases x with
  | tmp t =>
    obtain rfl : s.tmp t = v := by simpa [rdv, Rd.run] using h
    exact ht t
  | const u =>
    simp only [rdv] at h
    split at h
    · rename_i hp
      obtain rfl : u = v := by simpa [Rd.run] using h
      exact .lit hp
    · simp [Rd.run] at h
  | func f =>
    obtain rfl : (Value.func (.func f) #[] #[]) = v := by simpa [rdv, Rd.run] using h
    exact .lit rfl
  | global g => simp [rdv, Rd.run] at h
/-- A program of the model that neither reads nor writes memory. -/
def still {α : Type} (P : Program) : Sem α → Option α
  | .pure x => some x
  | .program k => still P (k P)
  | _ => none
theorem still_run {α : Type} (P : Program) (w : World) : ∀ (m : Sem α) (x : α), still P m = some x → m.run P w = .ok x w
  | .pure x, y, h => by
    obtain rfl : x = y := by simpa [still] using h
    rfl
  | .program k, y, h => still_run P w (k P) y h
  | .load .., _, h => by simp [still] at h
  | .store .., _, h => by simp [still] at h
  | .new .., _, h => by simp [still] at h
  | .shape .., _, h => by simp [still] at h
  | .freeze .., _, h => by simp [still] at h
  | .frozen .., _, h => by simp [still] at h
  | .getObj .., _, h => by simp [still] at h
  | .setObj .., _, h => by simp [still] at h
  | .choose .., _, h => by simp [still] at h
  | .sys .., _, h => by simp [still] at h
  | .mark .., _, h => by simp [still] at h
  | .halt .., _, h => by simp [still] at h
/-- The plain values of the operands, read. -/
def rdAll : List Operand → Rd (List (Nat × Value))
  | [] => .ret []
  | .tmp t :: r => .tmp t fun v => match plainV v with
    | true => (rdAll r).bind fun l => .ret ((t, v) :: l)
    | false => .fail
  | .global _ :: _ => .fail
  | _ :: r => rdAll r
def envOf (l : List (Nat × Value)) : Operand → Value
  | .tmp t => (l.lookup t).getD undef
  | .const v => v
  | .global g => .pointer (some ⟨g, 0, none⟩)
  | .func f => .func (.func f) #[] #[]
theorem rdAll_ok {ρ : Nat → Option Pl} {s : FS} {a : Act} (ht : ∀ t, VR ρ (s.tmp t) (a.tmps.getD t undef)) : ∀ (xs : List Operand) (l : List (Nat × Value)), (rdAll xs).run s = some l → ∀ x ∈ xs, envOf l x = a.eval x
  | [], _, _, x, hx => by cases hx
  | y :: r, l, h, x, hx => by
    have other : (rdAll r).run s = some l → (∀ t, y ≠ .tmp t) → (∀ g, y ≠ .global g) → envOf l x = a.eval x := by
      intro h h1 h2
      rcases List.mem_cons.1 hx with rfl | hx
      · cases x <;> first | rfl | exact absurd rfl (h1 _)
      · exact rdAll_ok ht r l h x hx
    cases y with
    | tmp t =>
      simp only [rdAll, Rd.run] at h
      split at h
      rotate_left
      · simp [Rd.run] at h
      rename_i hp
      rw [Rd.run_bind] at h
      rcases hr : (rdAll r).run s with _ | l'
      · simp [hr] at h
      · simp only [hr, Option.bind_some, Rd.run, Option.some.injEq] at h
        subst h
        have et : s.tmp t = a.eval (.tmp t) := ((ht t).plain hp).symm
        have base : ∀ u, u ≠ t → envOf ((t, s.tmp t) :: l') (.tmp u) = envOf l' (.tmp u) := by
          intro u hu
          have hu' : (u == t) = false := beq_false_of_ne hu
          simp [envOf, List.lookup_cons, hu']
        rcases List.mem_cons.1 hx with rfl | hx
        · simp [envOf, et]
        · have ih := rdAll_ok ht r l' hr x hx
          cases x with
          | tmp u =>
            by_cases hu : u = t
            · subst hu; simp [envOf, et]
            · rw [base u hu]; exact ih
          | _ => exact ih
    | global g => simp [rdAll, Rd.run] at h
    | const v => exact other (by simpa [rdAll] using h) (by simp) (by simp)
    | func f => exact other (by simpa [rdAll] using h) (by simp) (by simp)
def noSel : Op → Bool
  | .select _ _ => false
  | _ => true
/-- An operation on plain values that touches no memory: what the model itself makes of it. -/
def plainOp (P : Program) (o : Oper) : Rd Eff :=
  match noSel o.op with
  | false => .fail
  | true => (rdAll o.op.operands.toList).bind fun l => match still P (execOp (envOf l) o) with
    | some (.value v) => (match plainV v with
      | true => .ret ⟨v, [], []⟩
      | false => .fail)
    | _ => .fail
theorem quiet_conc {w0 : Start} {s : FS} {a : Act} {w : World} (hc : Conc w0 s a w) {dst : Option Tmp} {v v' : Value} {c : List Prop} {ρ : Nat → Option Pl} (ht : ∀ t, VR ρ (s.tmp t) (a.tmps.getD t undef)) (hm : MemOk w0.ρ0 ρ w0.kp s.blk w) (hv : VR ρ v v') : Conc w0 (s.upd dst ⟨v, [], c⟩) (a.put dst v') w := by
  obtain ⟨h1, h2, h3, _⟩ := hc
  exact put_conc (w := w) h1 h2 h3 ht hv (by
    have : (s.upd dst ⟨v, [], c⟩).blk = s.blk := by funext m; simp [FS.upd, lookW]
    rw [this]; exact hm)
theorem plainOp_sound (P : Program) : Sound P (fun _ o => plainOp P o) := by
  intro name o s eff w0 a w Q K hr hb hc hcond hK
  obtain ⟨ρ, ht, hm⟩ := hc.2.2.2
  simp only [plainOp] at hr
  split at hr
  · simp [Rd.run] at hr
  rename_i hsel
  rw [Rd.run_bind] at hr
  rcases hl : (rdAll o.op.operands.toList).run s with _ | l
  · simp [hl] at hr
  simp only [hl, Option.bind_some] at hr
  split at hr
  rotate_left
  · simp [Rd.run] at hr
  rename_i v hst
  split at hr
  rotate_left
  · simp [Rd.run] at hr
  rename_i hp
  obtain rfl : (⟨v, [], []⟩ : Eff) = eff := by simpa [Rd.run] using hr
  have he : execOp (envOf l) o = execOp a.eval o := execOp_congr o (fun cs b h => by simp [noSel, h] at hsel) fun x hx => rdAll_ok ht _ l hl x (by simpa using hx)
  rw [he] at hst
  exact value_wp (still_run P w _ _ hst) (hK _ _ (quiet_conc hc ht hm (.lit hp)))
def pickV (b : Bool) (x y : Value) : Value :=
  match x, y with
  | .bool p, .bool q => .bool (match b with
    | true => p
    | false => q)
  | x, y => match b with
    | true => x
    | false => y
theorem pickV_true (x y : Value) : pickV true x y = x := by
  unfold pickV
  split <;> rfl
theorem pickV_false (x y : Value) : pickV false x y = y := by
  unfold pickV
  split <;> rfl
def moveOp (x : Operand) : Rd Eff := (rdv x).bind fun v => .ret ⟨v, [], []⟩
def pickOp (c x y : Operand) : Rd Eff := (rdv c).bind fun c => match c with
  | .bool b => (rdv x).bind fun x => (rdv y).bind fun y => .ret ⟨pickV b x y, [], []⟩
  | _ => .fail
theorem bind_some {α β : Type} {s : FS} {r : Rd α} {f : α → Rd β} {b : β} (h : (r.bind f).run s = some b) : ∃ x, r.run s = some x ∧ (f x).run s = some b := by
  rw [Rd.run_bind] at h
  rcases hr : r.run s with _ | x
  · simp [hr] at h
  · exact ⟨x, rfl, by simpa [hr] using h⟩
theorem moveOp_sound {P : Program} {o : Oper} {x : Operand} (ho : ∀ ρ, execOp ρ o = pure (.value (ρ x))) {s : FS} {eff : Eff} {w0 : Start} {a : Act} {w : World} {Q : Exit → Act → World → Prop} {K : Act → World → Prop}
    (hr : (moveOp x).run s = some eff) (hc : Conc w0 s a w) (hK : ∀ a' w', Conc w0 (s.upd o.dst eff) a' w' → K a' w') : owp P w0 o a w K Q := by
  obtain ⟨ρ, ht, hm⟩ := hc.2.2.2
  obtain ⟨v, h1, h2⟩ := bind_some hr
  obtain rfl : (⟨v, [], []⟩ : Eff) = eff := by simpa [Rd.run] using h2
  exact value_wp (v := a.eval x) (w' := w) (by rw [ho]; rfl) (hK _ _ (quiet_conc hc ht hm (rdv_ok h1 ht)))
theorem pickOp_sound {P : Program} {o : Oper} {c x y : Operand} (ho : o.op = .pick c x y) {s : FS} {eff : Eff} {w0 : Start} {a : Act} {w : World} {Q : Exit → Act → World → Prop} {K : Act → World → Prop}
    (hr : (pickOp c x y).run s = some eff) (hc : Conc w0 s a w) (hK : ∀ a' w', Conc w0 (s.upd o.dst eff) a' w' → K a' w') : owp P w0 o a w K Q := by
  obtain ⟨ρ, ht, hm⟩ := hc.2.2.2
  obtain ⟨c', h1, h2⟩ := bind_some hr
  split at h2
  rotate_left
  · simp [Rd.run] at h2
  rename_i b
  obtain ⟨x', h3, h4⟩ := bind_some h2
  obtain ⟨y', h5, h6⟩ := bind_some h4
  obtain rfl : (⟨pickV b x' y', [], []⟩ : Eff) = eff := by simpa [Rd.run] using h6
  have e1 : a.eval c = .bool b := (rdv_ok h1 ht).plain rfl
  refine value_wp (v := if b then a.eval x else a.eval y) (w' := w) (by
    simp only [execOp, ho, e1]
    rfl) (hK _ _ (quiet_conc hc ht hm ?_))
  cases b
  · rw [pickV_false]; exact rdv_ok h5 ht
  · rw [pickV_true]; exact rdv_ok h3 ht
def addPl (ρ : Nat → Option Pl) (n : Nat) (p : Pl) : Nat → Option Pl := fun k => if k = n then some p else ρ k
theorem addPl_same (ρ : Nat → Option Pl) (n : Nat) (p : Pl) : addPl ρ n p n = some p := by simp [addPl]
theorem addPl_ne {ρ : Nat → Option Pl} {n k : Nat} {p : Pl} (h : k ≠ n) : addPl ρ n p k = ρ k := by simp [addPl, h]
theorem addPl_ext {ρ : Nat → Option Pl} {n : Nat} {p : Pl} (h : ρ n = none) : Ext ρ (addPl ρ n p) := fun k q hk => by
  have : k ≠ n := fun e => by subst e; rw [h] at hk; cases hk
  rw [addPl_ne this]; exact hk
def setB (m : Nat → Option Blk) (n : Nat) (b : Blk) : Nat → Option Blk := fun k => if k = n then some b else m k
theorem upd_one (s : FS) (dst : Option Tmp) (v : Value) (n : Nat) (b : Blk) (c : List Prop) : (s.upd dst ⟨v, [(n, b)], c⟩).blk = setB s.blk n b := by
  funext k
  simp only [FS.upd, lookW, setB]
  by_cases h : n = k
  · subst h; simp
  · have : ¬ k = n := fun e => h e.symm
    simp [h, this]
theorem MemOk.new {ρ0 ρ : Nat → Option Pl} {B : Nat → Prop} {m : Nat → Option Blk} {w : World} (h : MemOk ρ0 ρ B m w) {n : Nat} (hn : m n = none) {b : Blk} {p : Pl} {o : Obj} (hp : p.1 = w.heap.size) (hb : BlkOk (addPl ρ n p) B (w.alloc o) n b) :
    MemOk ρ0 (addPl ρ n p) B (setB m n b) (w.alloc o) where
  ext := h.ext.trans (addPl_ext (h.fresh n hn))
  fresh := fun k hk => by
    by_cases hkn : k = n
    · subst hkn; simp [setB] at hk
    · rw [addPl_ne hkn]
      exact h.fresh k (by simpa [setB, hkn] using hk)
  ok := fun k c hk => by
    by_cases hkn : k = n
    · subst hkn
      obtain rfl : b = c := by simpa [setB] using hk
      exact hb
    · have hk' : m k = some c := by simpa [setB, hkn] using hk
      exact (h.ok k c hk').keep (addPl_ext (h.fresh n hn)) (by simp) fun q hl hq hnq => Below.heap_alloc w o _ ((h.ok k c hk').real hl hq hnq).1
  sep := fun k k' c c' q q' hk hown hk' hlive hne hq hq' hnq hnq' => by
    by_cases hkn : k = n
    · subst hkn
      have hk'n : k' ≠ k := fun e => hne e.symm
      have hm : m k' = some c' := by simpa [setB, hk'n] using hk'
      rw [addPl_same] at hq
      rw [addPl_ne hk'n] at hq'
      have h2 := ((h.ok k' c' hm).real hlive hq' hnq').1
      obtain rfl : p = q := by simpa using hq
      omega
    · have hm : m k = some c := by simpa [setB, hkn] using hk
      rw [addPl_ne hkn] at hq
      have hcl : c.live = true := own_live hown
      have h2 := ((h.ok k c hm).real hcl hq hnq).1
      by_cases hk'n : k' = n
      · subst hk'n
        rw [addPl_same] at hq'
        obtain rfl : p = q' := by simpa using hq'
        omega
      · have hm' : m k' = some c' := by simpa [setB, hk'n] using hk'
        rw [addPl_ne hk'n] at hq'
        exact h.sep k k' c c' q q' hm hown hm' hlive hne hq hq' hnq hnq'
/-- A store into a block that the call owns. -/
theorem MemOk.set {ρ0 ρ : Nat → Option Pl} {B : Nat → Prop} {m : Nat → Option Blk} {w w' : World} (h : MemOk ρ0 ρ B m w) {n : Nat} {b c : Blk} (hn : m n = some b) (hown : b.own = true) {p : Pl} (hp : ρ n = some p) (hnp : ¬ nilPl p) (hs : w.heap.size ≤ w'.heap.size) (hh : ∀ k, k < w.heap.size → k ≠ p.1 → w'.heap[k]? = w.heap[k]?)
    (hb : BlkOk ρ B w' n c) : MemOk ρ0 ρ B (setB m n c) w' where
  ext := h.ext
  fresh := fun k hk => by
    by_cases hkn : k = n
    · subst hkn; simp [setB] at hk
    · exact h.fresh k (by simpa [setB, hkn] using hk)
  ok := fun k d hk => by
    by_cases hkn : k = n
    · subst hkn
      obtain rfl : c = d := by simpa [setB] using hk
      exact hb
    · have hk' : m k = some d := by simpa [setB, hkn] using hk
      exact (h.ok k d hk').keep (Ext.refl ρ) hs fun q hl hq hnq => hh _ ((h.ok k d hk').real hl hq hnq).1 (fun e => h.sep n k b d p q hn hown hk' hl (fun e => hkn e.symm) hp hq hnp hnq e.symm)
  sep := fun k k' d d' q q' hk hown' hk' hlive hne hq hq' hnq hnq' => by
    by_cases hkn : k = n
    · subst hkn
      have hk'n : k' ≠ k := fun e => hne e.symm
      exact h.sep k k' b d' q q' hn hown (by simpa [setB, hk'n] using hk') hlive hne hq hq' hnq hnq'
    · have hm : m k = some d := by simpa [setB, hkn] using hk
      by_cases hk'n : k' = n
      · subst hk'n
        exact h.sep k k' d b q q' hm hown' hn (own_live hown) hne hq hq' hnq hnq'
      · exact h.sep k k' d d' q q' hm hown' (by simpa [setB, hk'n] using hk') hlive hne hq hq' hnq hnq'
theorem cells_list {ρ : Nat → Option Pl} {v v' : Value} (k : VR ρ v v') (hnt : isTop v = false) : v.cells.toList.length = v'.cells.size ∧ Cells ρ v.cells.toList v'.cells := by
  obtain ⟨h1, h2⟩ := k.cells hnt
  refine ⟨by simpa using h1, fun i x hx => ?_⟩
  have hx' : v.cells[i]? = some x := by simpa using hx
  have hi : i < v.cells.size := (Array.getElem?_eq_some_iff.1 hx').1
  have hi' : i < v'.cells.size := by omega
  exact ⟨v'.cells[i], by simp [hi'], h2 i _ _ hx' (by simp [hi'])⟩
/-- A new block of cells, a pointer to it. -/
theorem new_conc {w0 : Start} {s : FS} {a : Act} {w : World} (hc : Conc w0 s a w) {dst : Option Tmp} {name : Nat} (hn : s.blk name = none) {v v' : Value} {ρ : Nat → Option Pl} (ht : ∀ t, VR ρ (s.tmp t) (a.tmps.getD t undef)) (hm : MemOk w0.ρ0 ρ w0.kp s.blk w) (hv : VR ρ v v') (hnt : isTop v = false) (e : TypeId) (c : List Prop) :
    Conc w0 (s.upd dst ⟨.pointer (some ⟨name, 0, none⟩), [(name, ⟨.box, .vals v.cells.toList⟩)], c⟩) (a.put dst (.pointer (some ⟨w.heap.size, 0, none⟩))) (w.alloc (.cells v'.cells e)) := by
  obtain ⟨h1, h2, h3, _⟩ := hc
  have hB : ∀ k, w0.kp k → k < w.heap.size := fun k hk => Nat.lt_of_lt_of_le (w0.kpl k hk) h3.size
  have hext : Ext ρ (addPl ρ name (w.heap.size, 0, none)) := addPl_ext (hm.fresh name hn)
  have hcl := cells_list hv hnt
  refine put_conc (w := w) h1 h2 (h3.alloc hB _) (fun t => (ht t).ext hext) (.ptr (f := 0) (addPl_same _ _ _) (.inl rfl)) ?_
  rw [upd_one]
  refine hm.new hn rfl ⟨w.heap.size, addPl_same _ _ _, new_free hB, v'.cells, e, heap_alloc_new w _, hcl.1.symm, hcl.2.ext hext⟩
def boxOp (name : Nat) (x : Operand) : Rd Eff := (rdv x).bind fun v => match isTop v with
  | false => .ret ⟨.pointer (some ⟨name, 0, none⟩), [(name, ⟨.box, .vals v.cells.toList⟩)], []⟩
  | true => .fail
theorem boxOp_sound {P : Program} {o : Oper} {t : TypeId} {x : Operand} (ho : o.op = .box t x) {name : Nat} {s : FS} {eff : Eff} {w0 : Start} {a : Act} {w : World} {Q : Exit → Act → World → Prop} {K : Act → World → Prop}
    (hr : (boxOp name x).run s = some eff) (hn : s.blk name = none) (hc : Conc w0 s a w) (hK : ∀ a' w', Conc w0 (s.upd o.dst eff) a' w' → K a' w') : owp P w0 o a w K Q := by
  obtain ⟨ρ, ht, hm⟩ := hc.2.2.2
  obtain ⟨v, h1, h2⟩ := bind_some hr
  split at h2
  rotate_left
  · simp [Rd.run] at h2
  rename_i hnt
  obtain rfl : (⟨.pointer (some ⟨name, 0, none⟩), [(name, ⟨.box, .vals v.cells.toList⟩)], []⟩ : Eff) = eff := by simpa [Rd.run] using h2
  exact value_wp (v := .pointer (some ⟨w.heap.size, 0, none⟩)) (w' := w.alloc (.cells (a.eval x).cells t)) (by simp only [execOp, ho]; rfl) (hK _ _ (new_conc hc hn ht hm (rdv_ok h1 ht) hnt t []))
def zeroOf (P : Program) (t : TypeId) : Option Value := (P.info? t).bind (·.zero)
def allocOp (P : Program) (name : Nat) (t : TypeId) : Rd Eff :=
  match zeroOf P t with
  | some z => (match plainV z with
    | true => .ret ⟨.pointer (some ⟨name, 0, none⟩), [(name, ⟨.box, .vals z.cells.toList⟩)], []⟩
    | false => .fail)
  | none => .fail
theorem allocOp_sound {P : Program} {o : Oper} {t : TypeId} (ho : o.op = .alloc t) {name : Nat} {s : FS} {eff : Eff} {w0 : Start} {a : Act} {w : World} {Q : Exit → Act → World → Prop} {K : Act → World → Prop}
    (hr : (allocOp P name t).run s = some eff) (hn : s.blk name = none) (hc : Conc w0 s a w) (hK : ∀ a' w', Conc w0 (s.upd o.dst eff) a' w' → K a' w') : owp P w0 o a w K Q := by
  obtain ⟨ρ, ht, hm⟩ := hc.2.2.2
  unfold allocOp at hr
  split at hr
  rotate_left
  · simp [Rd.run] at hr
  rename_i z hz
  split at hr
  rotate_left
  · simp [Rd.run] at hr
  rename_i hp
  obtain rfl : (⟨.pointer (some ⟨name, 0, none⟩), [(name, ⟨.box, .vals z.cells.toList⟩)], []⟩ : Eff) = eff := by simpa [Rd.run] using hr
  unfold zeroOf at hz
  rcases hi : P.info? t with _ | i
  · simp [hi] at hz
  simp only [hi, Option.bind_some] at hz
  refine value_wp (v := .pointer (some ⟨w.heap.size, 0, none⟩)) (w' := w.alloc (.cells z.cells t)) ?_ (hK _ _ (new_conc hc hn ht hm (.lit hp) (by cases z <;> first | rfl | (simp [plainV, atomV] at hp)) t []))
  simp only [execOp, ho]
  simp [Instr.alloc, zeroValue, typeInfo, hi, hz, newVar, newRow, go_sem]
/-- k cells from o on. -/
def cellsAt (cs : List Value) : Nat → Nat → Option (List Value)
  | _, 0 => some []
  | o, k + 1 => match cs[o]? with
    | none => none
    | some v => match cellsAt cs (o + 1) k with
      | none => none
      | some l => some (v :: l)
theorem cellsAt_spec {cs : List Value} : ∀ (k o : Nat) (l : List Value), cellsAt cs o k = some l → l.length = k ∧ ∀ j v, l[j]? = some v → cs[o + j]? = some v
  | 0, o, l, h => by
    obtain rfl : [] = l := by simpa [cellsAt] using h
    exact ⟨rfl, fun j v hj => by simp at hj⟩
  | k + 1, o, l, h => by
    simp only [cellsAt] at h
    split at h
    · cases h
    rename_i v hv
    split at h
    · cases h
    rename_i l' hl'
    obtain rfl : v :: l' = l := by simpa using h
    obtain ⟨h1, h2⟩ := cellsAt_spec k (o + 1) l' hl'
    refine ⟨by simp [h1], fun j u hj => ?_⟩
    cases j with
    | zero =>
      obtain rfl : v = u := by simpa using hj
      exact hv
    | succ j =>
      rw [show o + (j + 1) = o + 1 + j by omega]
      exact h2 j u (by simpa using hj)
def isAggT (P : Program) (t : TypeId) : Option Bool :=
  match P.underlying t with
  | some (.struct _) | some (.array _ _) => some true
  | some _ => some false
  | none => none
def sizeT (P : Program) (t : TypeId) : Option Nat := (P.info? t).map (·.size)
/-- The value of type t that lies in the cells from o on. -/
def loadV (P : Program) (t : TypeId) (cs : List Value) (o : Nat) : Option Value :=
  match isAggT P t with
  | some true => (match sizeT P t with
    | some k => (match cellsAt cs o k with
      | some l => some (.agg l.toArray)
      | none => none)
    | none => none)
  | some false => cs[o]?
  | none => none
theorem VR.ptr_inv {ρ : Nat → Option Pl} {n o : Nat} {v' : Value} (k : VR ρ (.pointer (some ⟨n, o, none⟩)) v') : ∃ g f cp, ρ n = some (g, f, cp) ∧ okPl f cp ∧ v' = .pointer (some ⟨g, f + o, none⟩) := by
  cases k with
  | lit hp => simp [plainV, atomV] at hp
  | ptr hn hq => exact ⟨_, _, _, hn, hq, rfl⟩
/-- Ints from o on. -/
def intsFrom (xs : List Int) : Nat → Nat → List Value
  | _, 0 => []
  | o, k + 1 => .int .i64 (xs.getD o 0) :: intsFrom xs (o + 1) k
theorem intsFrom_at {xs : List Int} : ∀ (k o : Nat), o + k ≤ xs.length → cellsAt (xs.map (Value.int .i64)) o k = some (intsFrom xs o k)
  | 0, _, _ => rfl
  | k + 1, o, h => by
    have ih := intsFrom_at (xs := xs) k (o + 1) (by omega)
    have e : (xs.map (Value.int .i64))[o]? = some (.int .i64 (xs.getD o 0)) := by
      have : o < xs.length := by omega
      simp [this]
    simp only [cellsAt, e, ih, intsFrom]
/-- The value of type t that lies in the cells from o on, and on which condition. -/
def loadC (P : Program) (t : TypeId) (cs : Cs) (o : Nat) : Option (Value × List Prop) :=
  match cs with
  | .vals l => (match loadV P t l o with
    | some v => some (v, [])
    | none => none)
  | .ints xs => (match isAggT P t with
    | some true => (match sizeT P t with
      | some k => some (.agg (intsFrom xs o k).toArray, [o + k ≤ xs.length])
      | none => none)
    | some false => some (.int .i64 (xs.getD o 0), [o < xs.length])
    | none => none)
  | .bytes bs => (match isAggT P t with
    | some false => some (.int .u8 (bs.getD o 0), [o < bs.length])
    | _ => none)
theorem loadC_is {P : Program} {t : TypeId} {cs : Cs} {o : Nat} {v : Value} {C : List Prop} (h : loadC P t cs o = some (v, C)) (hC : AllP C) : loadV P t cs.list o = some v := by
  unfold loadC at h
  split at h
  · split at h
    · rename_i u hu
      obtain ⟨rfl, rfl⟩ : u = v ∧ [] = C := by simpa using h
      exact hu
    · cases h
  · rename_i xs
    split at h
    · rename_i ha
      split at h
      · rename_i k hk
        obtain ⟨rfl, rfl⟩ : Value.agg (intsFrom xs o k).toArray = v ∧ [o + k ≤ xs.length] = C := by simpa using h
        simp only [loadV, ha, hk, Cs.list, intsFrom_at k o hC.1]
      · cases h
    · rename_i ha
      obtain ⟨rfl, rfl⟩ : Value.int .i64 (xs.getD o 0) = v ∧ [o < xs.length] = C := by simpa using h
      have : o < xs.length := hC.1
      simp [loadV, ha, Cs.list, this]
    · cases h
  · rename_i bs
    split at h
    · rename_i ha
      obtain ⟨rfl, rfl⟩ : Value.int .u8 (bs.getD o 0) = v ∧ [o < bs.length] = C := by simpa using h
      have : o < bs.length := hC.1
      simp [loadV, ha, Cs.list, this]
    · cases h
def loadOp (P : Program) (t : TypeId) (x : Operand) : Rd Eff := (rdv x).bind fun v => match v with
  | .pointer (some ⟨n, o, none⟩) => .blk n fun b => match b with
    | some b => (match b.live, loadC P t b.cs o with
      | true, some (v, C) => .ret ⟨v, [], C⟩
      | _, _ => .fail)
    | none => .fail
  | _ => .fail
/-- What a live block's cells say of memory. -/
theorem live_cell {ρ : Nat → Option Pl} {B : Nat → Prop} {w : World} {n : Nat} {b : Blk} (h : BlkOk ρ B w n b) (hl : b.live = true) {g f : Nat} {cp : Option Nat} (hp : ρ n = some (g, f, cp)) (hq : okPl f cp) : g < w.heap.size ∧ ∀ (k : Nat) v, b.cells[k]? = some v → ∃ v', w.cell? ⟨g, f + k, none⟩ = some v' ∧ VR ρ v v' := by
  have at_ : ∀ {g : Nat} {cs' : Array Value} {e : TypeId} (k : Nat), w.heap[g]? = some (.cells cs' e (0, 0)) → w.cell? ⟨g, k, none⟩ = cs'[k]? := fun {g cs' e} k hh => by simp [World.cell?, hh]
  refine ⟨(h.real hl hp hq.not).1, ?_⟩
  obtain ⟨kd, cs⟩ := b
  cases kd with
  | dead => cases hl
  | view =>
    rcases h with ⟨p, h2, h3⟩ | ⟨g', f', cp', h1, hq, h2, h3⟩
    · rw [hp] at h2
      obtain rfl : (g, f, cp) = p := by simpa using h2
      exact absurd h3 hq.not
    · rw [hp] at h1
      obtain ⟨rfl, rfl, rfl⟩ : g = g' ∧ f = f' ∧ cp = cp' := by simpa using h1
      exact h3
  | box =>
    obtain ⟨g', h1, h2, cs', e, h3, h4, h5⟩ := h
    rw [hp] at h1
    obtain ⟨rfl, rfl, rfl⟩ : g = g' ∧ f = 0 ∧ cp = none := by simpa using h1
    exact fun k v hv => by rw [Nat.zero_add, at_ k h3]; exact h5 k v hv
  | row e sz =>
    rcases h with ⟨p, h2, h3, h4⟩ | ⟨g', cap, h1, h2, cs', h3, h4, h5⟩
    · rw [hp] at h2
      obtain rfl : (g, f, cp) = p := by simpa using h2
      exact absurd ⟨h3, 0, h4⟩ hq.not
    rw [hp] at h1
    obtain ⟨rfl, rfl, rfl⟩ : g = g' ∧ f = 0 ∧ cp = some cap := by simpa using h1
    exact fun k v hv => by rw [Nat.zero_add, at_ k h3]; exact h5 k v hv
theorem addr_add (g f j : Nat) : (⟨g, f, none⟩ : Addr).add j = ⟨g, f + j, none⟩ := by
  unfold Addr.add
  split
  · subst_vars; rfl
  · rfl
theorem loadV_run {P : Program} {t : TypeId} {cs : List Value} {o : Nat} {v : Value} (h : loadV P t cs o = some v) {ρ : Nat → Option Pl} {w : World} {g f : Nat} (hc : ∀ (k : Nat) v, cs[k]? = some v → ∃ v', w.cell? ⟨g, f + k, none⟩ = some v' ∧ VR ρ v v') :
    ∃ v', (loadVar t ⟨g, f + o, none⟩).run P w = .ok v' w ∧ VR ρ v v' := by
  unfold loadV at h
  have hagg : ∀ b, isAggT P t = some b → (isAgg t).run P w = .ok b w := by
    intro b hb
    unfold isAggT at hb
    unfold isAgg underlying
    split at hb <;> rename_i hu <;> simp [go_sem, hu] at hb ⊢
    · exact hb
    · exact hb
    · exact hb
  split at h
  · rename_i ha
    split at h
    rotate_left
    · cases h
    rename_i k hk
    split at h
    rotate_left
    · cases h
    rename_i l hl
    obtain rfl : Value.agg l.toArray = v := by simpa using h
    obtain ⟨h1, h2⟩ := cellsAt_spec k o l hl
    have hex : ∀ j, ∃ v', j < k → (w.cell? ⟨g, f + o + j, none⟩ = some v' ∧ ∀ u, l[j]? = some u → VR ρ u v') := by
      intro j
      by_cases hj : j < k
      · have hj' : l[j]? = some l[j] := by simp [h1, hj]
        obtain ⟨v', h3, h4⟩ := hc _ _ (h2 j _ hj')
        refine ⟨v', fun _ => ⟨by rw [Nat.add_assoc]; exact h3, fun u hu => ?_⟩⟩
        rw [hj'] at hu
        obtain rfl : l[j] = u := by simpa using hu
        exact h4
      · exact ⟨undef, fun h => absurd h hj⟩
    let fv : Nat → Value := fun j => Classical.choose (hex j)
    have hfv := fun j => Classical.choose_spec (hex j)
    have hrun := run_loadCells (P := P) (w := w) (⟨g, f + o, none⟩) k fv (fun j hj => by rw [addr_add]; exact (hfv j hj).1)
    unfold sizeT at hk
    rcases hi : P.info? t with _ | i
    · simp [hi] at hk
    simp only [hi, Option.map_some, Option.some.injEq] at hk
    refine ⟨.agg ((List.range k).map fv).toArray, ?_, .agg (by simp [h1]) fun j u u' hu hu' => ?_⟩
    · have hrun' : (loadCellsFrom ⟨g, f + o, none⟩ 0 k #[]).run P w = .ok ((List.range k).map fv).toArray w := hrun
      unfold loadVar
      simp [go_sem, hagg _ ha, sizeOf, typeInfo, hi, hk, hrun']
    · have hj : j < k := by
        have := (Array.getElem?_eq_some_iff.1 hu').1
        simpa using this
      have e1 : fv j = u' := by
        have : ((List.range k).map fv).toArray[j]? = some (fv j) := by simp [hj]
        rw [this] at hu'
        simpa using hu'
      rw [← e1]
      exact (hfv j hj).2 u (by simpa using hu)
  · rename_i ha
    obtain ⟨v', h3, h4⟩ := hc _ _ h
    refine ⟨v', ?_, h4⟩
    unfold loadVar
    simp [go_sem, hagg _ ha, h3]
  · cases h
theorem loadOp_sound {P : Program} {o : Oper} {t : TypeId} {x : Operand} (ho : o.op = .load t x) {s : FS} {eff : Eff} {w0 : Start} {a : Act} {w : World} {Q : Exit → Act → World → Prop} {K : Act → World → Prop}
    (hr : (loadOp P t x).run s = some eff) (hc : Conc w0 s a w) (hcond : eff.cond) (hK : ∀ a' w', Conc w0 (s.upd o.dst eff) a' w' → K a' w') : owp P w0 o a w K Q := by
  obtain ⟨ρ, ht, hm⟩ := hc.2.2.2
  obtain ⟨v, h1, h2⟩ := bind_some hr
  split at h2
  rotate_left
  · simp [Rd.run] at h2
  rename_i n off
  simp only [Rd.run] at h2
  split at h2
  rotate_left
  · simp [Rd.run] at h2
  rename_i b hb
  split at h2
  rotate_left
  · simp [Rd.run] at h2
  rename_i u C hl hu
  obtain rfl : (⟨u, [], C⟩ : Eff) = eff := by simpa [Rd.run] using h2
  have hu := loadC_is hu hcond
  have hv := rdv_ok h1 ht
  obtain ⟨g, f, cp, h3, hq, h8⟩ := hv.ptr_inv
  have h4 := (live_cell (hm.ok n b hb) hl h3 hq).2
  obtain ⟨u', h5, h6⟩ := loadV_run hu h4
  refine value_wp (v := u') (w' := w) ?_ (hK _ _ (quiet_conc hc ht hm h6))
  simp only [execOp, ho, h8, Instr.loadAt, Instr.sureAddr, Sem.run_bind, Sem.run_pure, Result.andThen_ok, h5]
def oneV : Value → Bool
  | .agg _ | .tuple _ | .chan _ => false
  | _ => true
theorem oneV_of {ρ : Nat → Option Pl} {v v' : Value} (k : VR ρ v v') (h : oneV v = true) : v'.oneCell' = true := by
  cases k with
  | @lit v hp => cases v <;> first | rfl | (simp [oneV] at h)
  | agg hs hh => simp [oneV] at h
  | tuple hs hh => simp [oneV] at h
  | top => simp [oneV, topV] at h
  | _ => rfl
def writeAt (cs : List Value) (o : Nat) (vs : List Value) : List Value := cs.take o ++ vs ++ cs.drop (o + vs.length)
/-- The ints of cells. -/
def intsOf : List Value → Option (List Int)
  | [] => some []
  | .int .i64 n :: r => (match intsOf r with
    | some l => some (n :: l)
    | none => none)
  | _ => none
theorem intsOf_spec : ∀ {vs : List Value} {ns : List Int}, intsOf vs = some ns → vs = ns.map (Value.int .i64)
  | [], ns, h => by
    obtain rfl : [] = ns := by simpa [intsOf] using h
    rfl
  | v :: r, ns, h => by
    unfold intsOf at h
    split at h
    · rename_i hv
      cases hv
    · rename_i n r' hv
      obtain ⟨rfl, rfl⟩ : v = .int .i64 n ∧ r = r' := by simpa using hv
      split at h
      · rename_i l hl
        obtain rfl : n :: l = ns := by simpa using h
        rw [intsOf_spec hl]
        rfl
      · cases h
    · cases h
def setInts (xs : List Int) (o : Nat) (ns : List Int) : List Int := xs.take o ++ ns ++ xs.drop (o + ns.length)
/-- Cells written: ints among ints stay ints. -/
def Cs.write : Cs → Nat → List Value → Cs
  | .vals cs, o, vs => .vals (writeAt cs o vs)
  | .ints xs, o, vs => match intsOf vs with
    | some ns => .ints (setInts xs o ns)
    | none => .vals (writeAt (xs.map (Value.int .i64)) o vs)
  | .bytes bs, o, vs => .vals (writeAt (bs.map (Value.int .u8)) o vs)
theorem Cs.write_list (c : Cs) (o : Nat) (vs : List Value) : (c.write o vs).list = writeAt c.list o vs := by
  cases c with
  | vals l => rfl
  | ints xs =>
    simp only [Cs.write]
    split
    · rename_i ns hns
      rw [intsOf_spec hns]
      simp [Cs.list, writeAt, setInts]
    · rfl
  | bytes bs => rfl
theorem writeAt_length {cs vs : List Value} {o : Nat} (h : o + vs.length ≤ cs.length) : (writeAt cs o vs).length = cs.length := by
  simp [writeAt]
  omega
theorem Cells.write {ρ : Nat → Option Pl} {cs : List Value} {cs' : Array Value} (h : Cells ρ cs cs') {vs : List Value} {vs' : Array Value} (hv : Cells ρ vs vs') (hl : vs.length = vs'.size) {o : Nat} (ho : o + vs.length ≤ cs.length) (ho' : o + vs.length ≤ cs'.size) :
    Cells ρ (writeAt cs o vs) (cs'.toList.take o ++ vs'.toList ++ cs'.toList.drop (o + vs'.toList.length)).toArray := by
  intro k v hk
  have e1 : vs'.toList.length = vs.length := by simp [hl]
  rw [e1]
  unfold writeAt at hk
  have m1 : min o cs.length = o := by omega
  have m2 : min o cs'.size = o := by omega
  rw [List.getElem?_append, List.getElem?_append] at hk
  simp only [List.length_append, List.length_take, m1] at hk
  simp only [List.getElem?_toArray]
  rw [List.getElem?_append, List.getElem?_append]
  simp only [List.length_append, List.length_take, Array.length_toList, m2, e1]
  split at hk
  · rename_i h1
    rw [if_pos h1]
    split at hk
    · rename_i h2
      rw [if_pos h2]
      rw [List.getElem?_take_of_lt h2] at hk
      obtain ⟨v', h3, h4⟩ := h k v hk
      exact ⟨v', by rw [List.getElem?_take_of_lt h2]; simpa using h3, h4⟩
    · rename_i h2
      rw [if_neg h2]
      obtain ⟨v', h3, h4⟩ := hv _ v hk
      exact ⟨v', by simpa using h3, h4⟩
  · rename_i h1
    rw [if_neg h1]
    rw [List.getElem?_drop] at hk
    obtain ⟨v', h3, h4⟩ := h _ v hk
    exact ⟨v', by rw [List.getElem?_drop]; simpa using h3, h4⟩
theorem setRow_ne (w : World) (g : Nat) (cs : Array Value) (k : Nat) (h : k ≠ g) : (w.setRow g cs).heap[k]? = w.heap[k]? := by
  simp only [World.setRow, Array.getElem?_modify]
  rw [if_neg (fun e => h e.symm)]
theorem setRow_below {B : Nat → Prop} {a w : World} (h : BelowK B a w) {g : Nat} (hg : ¬ B g) (cs : Array Value) : BelowK B a (w.setRow g cs) :=
  h.trans ⟨rfl, rfl, rfl, by simp [World.setRow], fun k hk => setRow_ne w g cs k (fun e => hg (e ▸ hk))⟩
theorem run_storeVar_at {P : Program} {t : TypeId} {g off : Nat} {v : Value} {cur : Array Value} {e : TypeId} {w : World} (hsz : (P.info? t).map (·.size) = some v.cells.size) (hh : w.heap[g]? = some (.cells cur e (0, 0))) (hfit : off + v.cells.size ≤ cur.size)
    (h1 : ∀ u ∈ v.cells.toList, u.oneCell' = true) : (storeVar t ⟨g, off, none⟩ v).run P w = .ok () (w.setRow g (cur.toList.take off ++ v.cells.toList ++ cur.toList.drop (off + v.cells.toList.length)).toArray) := by
  have hst := run_storeCells_at P g off e v.cells.toList 0 cur w hh (by simpa using hfit) h1
  rw [Nat.add_zero] at hst
  rcases hi : P.info? t with _ | i
  · simp [hi] at hsz
  simp only [hi, Option.map_some, Option.some.injEq] at hsz
  have hz : (sizeOf t).run P w = .ok v.cells.size w := by simp [sizeOf, typeInfo, hi, hsz]
  unfold storeVar
  simp only [Sem.run_bind, hz, Result.andThen_ok, ne_eq, not_true_eq_false, if_false]
  exact hst
def storeOp (P : Program) (t : TypeId) (x y : Operand) : Rd Eff := (rdv x).bind fun p => (rdv y).bind fun v => match p with
  | .pointer (some ⟨n, o, none⟩) => .blk n fun b => match b with
    | some b => (match decide (sizeT P t = some v.cells.toList.length), v.cells.toList.all oneV with
      | true, true => (match b.kind with
        | .box => (match Nat.ble (o + v.cells.toList.length) b.cells.length with
          | true => .ret ⟨undef, [(n, ⟨.box, b.cs.write o v.cells.toList⟩)], []⟩
          | false => .fail)
        | .row e sz => (match Nat.ble 1 v.cells.toList.length with
          | true => .ret ⟨undef, [(n, ⟨.row e sz, b.cs.write o v.cells.toList⟩)], [o + v.cells.toList.length ≤ b.cs.size]⟩
          | false => .fail)
        | _ => .fail)
      | _, _ => .fail)
    | none => .fail
  | _ => .fail
theorem storeOp_sound {P : Program} {o : Oper} {t : TypeId} {x y : Operand} (ho : o.op = .store t x y) {s : FS} {eff : Eff} {w0 : Start} {a : Act} {w : World} {Q : Exit → Act → World → Prop} {K : Act → World → Prop}
    (hr : (storeOp P t x y).run s = some eff) (hc : Conc w0 s a w) (hcond : eff.cond) (hK : ∀ a' w', Conc w0 (s.upd o.dst eff) a' w' → K a' w') : owp P w0 o a w K Q := by
  obtain ⟨ρ, ht, hm⟩ := hc.2.2.2
  obtain ⟨p, h1, h2⟩ := bind_some hr
  obtain ⟨v, h3, h4⟩ := bind_some h2
  split at h4
  rotate_left
  · simp [Rd.run] at h4
  rename_i n off
  simp only [Rd.run] at h4
  split at h4
  rotate_left
  · simp [Rd.run] at h4
  rename_i b hb
  split at h4
  rotate_left
  · simp [Rd.run] at h4
  rename_i hsz hone
  obtain ⟨hval, hwr, hcond', hkind⟩ : eff.val = undef ∧ eff.wr = [(n, ⟨b.kind, b.cs.write off v.cells.toList⟩)] ∧ off + v.cells.toList.length ≤ b.cells.length ∧ (b.kind = .box ∨ 1 ≤ v.cells.toList.length ∧ ∃ e sz, b.kind = .row e sz) := by
    split at h4
    · rename_i hk
      split at h4
      · rename_i hle
        obtain rfl : (⟨undef, [(n, ⟨.box, b.cs.write off v.cells.toList⟩)], []⟩ : Eff) = eff := by simpa [Rd.run] using h4
        exact ⟨rfl, by rw [hk], Nat.le_of_ble_eq_true hle, .inl hk⟩
      · simp [Rd.run] at h4
    · rename_i e sz hk
      split at h4
      rotate_left
      · simp [Rd.run] at h4
      rename_i hle
      obtain rfl : (⟨undef, [(n, ⟨.row e sz, b.cs.write off v.cells.toList⟩)], [off + v.cells.toList.length ≤ b.cs.size]⟩ : Eff) = eff := by simpa [Rd.run] using h4
      exact ⟨rfl, by rw [hk], by have := hcond.1; rwa [Cs.size_is] at this, .inr ⟨Nat.le_of_ble_eq_true hle, e, sz, hk⟩⟩
    · simp [Rd.run] at h4
  obtain ⟨ev, ew, ec⟩ := eff
  simp only at hval hwr
  subst hval hwr
  have hsz := of_decide_eq_true hsz
  have hv := rdv_ok h3 ht
  have hnt : isTop v = false := by
    cases v <;> first | rfl | (simp [Value.cells, oneV] at hone)
  obtain ⟨hl, hcs⟩ := cells_list hv hnt
  have hone' : ∀ u ∈ (a.eval y).cells.toList, u.oneCell' = true := by
    intro u hu
    obtain ⟨i, hi, rfl⟩ := List.getElem_of_mem hu
    have hi' : i < v.cells.toList.length := by rw [hl]; simpa using hi
    obtain ⟨u', h5, h6⟩ := hcs i v.cells.toList[i] (by simp)
    have e : u' = (a.eval y).cells.toList[i] := by
      have : (a.eval y).cells[i]? = some (a.eval y).cells.toList[i] := by
        rw [← Array.getElem?_toList]; simp
      rw [this] at h5
      simpa using h5.symm
    rw [← e]
    exact oneV_of h6 (List.all_eq_true.1 hone _ (List.getElem_mem hi'))
  obtain ⟨g, f, cp, h7, hq7, h8⟩ := (rdv_ok h1 ht).ptr_inv
  have hrun : ∀ (cur : Array Value) (e : TypeId), f = 0 → w.heap[g]? = some (.cells cur e (0, 0)) → off + v.cells.toList.length ≤ cur.size →
      (execOp a.eval o).run P w = .ok .skip (w.setRow g (cur.toList.take off ++ (a.eval y).cells.toList ++ cur.toList.drop (off + (a.eval y).cells.toList.length)).toArray) := by
    intro cur e hf hh hfit
    subst hf
    have hst := run_storeVar_at (P := P) (t := t) (v := a.eval y) (off := off) (by unfold sizeT at hsz; rw [hsz, hl]) hh (by rw [← hl]; exact hfit) hone'
    simp only [execOp, ho, h8, Instr.storeAt, Instr.sureAddr, Sem.run_bind, Sem.run_pure, Result.andThen_ok, Nat.zero_add, hst]
  have hok := hm.ok n b hb
  obtain ⟨kd, cs⟩ := b
  have hcells : (⟨kd, cs.write off v.cells.toList⟩ : Blk).cells = writeAt (⟨kd, cs⟩ : Blk).cells off v.cells.toList := Cs.write_list cs off _
  rcases hkind with hkind | ⟨hpos, e, sz, hkind⟩
  · simp only at hkind
    subst hkind
    obtain ⟨g', k1, k2, cur, e, k3, k4, k5⟩ := hok
    rw [h7] at k1
    obtain ⟨rfl, rfl, rfl⟩ : g = g' ∧ f = 0 ∧ cp = none := by simpa using k1
    have hfit : off + v.cells.toList.length ≤ cur.size := by rw [k4]; exact hcond'
    refine skip_wp (hrun cur e rfl k3 hfit) (hK _ _ (put_conc (w := w) hc.1 hc.2.1 (setRow_below hc.2.2.1 k2 _) ht (.lit rfl) ?_))
    rw [upd_one]
    refine hm.set hb rfl h7 (okPl.not (.inl rfl)) (by simp [World.setRow]) (fun k _ hk => setRow_ne w g _ k hk) ⟨g, h7, k2, _, e, setRow_heap w g cur _ e _ k3, ?_, by rw [hcells]; exact k5.write hcs hl hcond' hfit⟩
    rw [hcells, writeAt_length hcond', ← k4]
    simp at hl hfit ⊢
    omega
  · simp only at hkind
    subst hkind
    rcases hok with ⟨p, h0, h00, h01⟩ | ⟨g', cap, k1, k2, cur, k3, k4, k5⟩
    · rw [h7] at h0
      obtain rfl : (g, f, cp) = p := by simpa using h0
      exact absurd ⟨h00, 0, h01⟩ hq7.not
    rw [h7] at k1
    obtain ⟨rfl, rfl, rfl⟩ : g = g' ∧ f = 0 ∧ cp = some cap := by simpa using k1
    have hlen : (⟨.row e sz, cs⟩ : Blk).cells.length ≤ cur.size := by
      rcases Nat.lt_or_ge cur.size (⟨.row e sz, cs⟩ : Blk).cells.length with h | h
      · exfalso
        obtain ⟨u, hu, _⟩ := k5 cur.size (⟨.row e sz, cs⟩ : Blk).cells[cur.size] (by simp)
        simp at hu
      · exact h
    have hfit : off + v.cells.toList.length ≤ cur.size := Nat.le_trans hcond' hlen
    refine skip_wp (hrun cur e rfl k3 hfit) (hK _ _ (put_conc (w := w) hc.1 hc.2.1 (setRow_below hc.2.2.1 k2 _) ht (.lit rfl) ?_))
    rw [upd_one]
    refine hm.set hb rfl h7 (okPl.not (.inl rfl)) (by simp [World.setRow]) (fun k _ hk => setRow_ne w g _ k hk) (.inr ⟨g, cap, h7, k2, _, setRow_heap w g cur _ e _ k3, ?_, by rw [hcells]; exact k5.write hcs hl hcond' hfit⟩)
    rw [← k4]
    simp at hl hfit ⊢
    omega
def fieldOp (P : Program) (t : TypeId) (x : Operand) (f : Nat) : Rd Eff := (rdv x).bind fun p => match p with
  | .pointer (some ⟨n, o, none⟩) => (match P.underlying t with
    | some (.struct fs) => (match fs[f]? with
      | some fd => (match sizeT P fd.type with
        | some (_ + 1) => .ret ⟨.pointer (some ⟨n, o + fd.offset, none⟩), [], []⟩
        | _ => .fail)
      | none => .fail)
    | _ => .fail)
  | _ => .fail
theorem fieldOp_sound {P : Program} {o : Oper} {t : TypeId} {x : Operand} {f : Nat} (ho : o.op = .fieldAddr t x f) {s : FS} {eff : Eff} {w0 : Start} {a : Act} {w : World} {Q : Exit → Act → World → Prop} {K : Act → World → Prop}
    (hr : (fieldOp P t x f).run s = some eff) (hc : Conc w0 s a w) (hK : ∀ a' w', Conc w0 (s.upd o.dst eff) a' w' → K a' w') : owp P w0 o a w K Q := by
  obtain ⟨ρ, ht, hm⟩ := hc.2.2.2
  obtain ⟨p, h1, h2⟩ := bind_some hr
  split at h2
  rotate_left
  · simp [Rd.run] at h2
  rename_i n off
  split at h2
  rotate_left
  · simp [Rd.run] at h2
  rename_i fs hu
  split at h2
  rotate_left
  · simp [Rd.run] at h2
  rename_i fd hf
  split at h2
  rotate_left
  · simp [Rd.run] at h2
  rename_i k hk
  obtain rfl : (⟨.pointer (some ⟨n, off + fd.offset, none⟩), [], []⟩ : Eff) = eff := by simpa [Rd.run] using h2
  obtain ⟨g, f', cp, h7, hq, h8⟩ := (rdv_ok h1 ht).ptr_inv
  unfold sizeT at hk
  rcases hi : P.info? fd.type with _ | i
  · simp [hi] at hk
  simp only [hi, Option.map_some, Option.some.injEq] at hk
  have hp : (fieldPlace ⟨g, f' + off, none⟩ fd).run P w = .ok ⟨g, f' + off + fd.offset, none⟩ w := by
    unfold fieldPlace
    simp [sizeOf, typeInfo, hi, hk, addr_add]
  refine value_wp (v := .pointer (some ⟨g, f' + off + fd.offset, none⟩)) (w' := w) ?_ (hK _ _ (quiet_conc hc ht hm (by rw [Nat.add_assoc]; exact .ptr h7 hq)))
  simp only [execOp, ho, h8, Instr.fieldAt, Instr.sureAddr, Sem.run_bind, run_underlying hu, Result.andThen_ok, hf, Sem.run_pure, hp]
def indexOp (P : Program) (t : TypeId) (x i : Operand) : Rd Eff := (rdv x).bind fun p => (rdv i).bind fun i => match p, i with
  | .slice (some ⟨n, o, none⟩) l _, .int _ i => (match P.underlying t with
    | some (.slice e) => (match sizeT P e with
      | some sz => .ret ⟨.pointer (some ⟨n, o + i.toNat * sz, none⟩), [], [0 ≤ i ∧ i < l]⟩
      | none => .fail)
    | _ => .fail)
  | .pointer (some ⟨n, o, none⟩), .int _ i => (match P.underlying t with
    | some (.array l e) => (match sizeT P e with
      | some sz => .ret ⟨.pointer (some ⟨n, o + i.toNat * sz, none⟩), [], [0 ≤ i ∧ i < l]⟩
      | none => .fail)
    | _ => .fail)
  | _, _ => .fail
theorem VR.slice_inv {ρ : Nat → Option Pl} {n o l c : Nat} {v' : Value} (k : VR ρ (.slice (some ⟨n, o, none⟩) l c) v') :
    (∃ g f cp c', ρ n = some (g, f, cp) ∧ okPl f cp ∧ v' = .slice (some ⟨g, f + o, none⟩) l c' ∧ l ≤ c' ∧ ∀ k, cp = some k → o = 0 → c' = k) ∨ (l = 0 ∧ 0 < o ∧ ∃ ad c', v' = .slice (some ad) 0 c') ∨
    (l = 0 ∧ ∃ ad c' p, v' = .slice ad 0 c' ∧ ρ n = some p ∧ nilPl p ∧ (p.2.2 = some 0 → ad = none ∧ c' = 0)) := by
  cases k with
  | lit hp => simp [plainV, atomV] at hp
  | nil_ hn hp hl hc => exact .inr (.inr ⟨hl, _, _, _, rfl, hn, hp, hc⟩)
  | slice hn hq hl hc => exact .inl ⟨_, _, _, _, hn, hq, rfl, hl, hc⟩
  | none_ ho => exact .inr (.inl ⟨rfl, ho, _, _, rfl⟩)
theorem VR.int_inv {ρ : Nat → Option Pl} {k : IntKind} {i : Int} {v' : Value} (h : VR ρ (.int k i) v') : v' = .int k i := h.plain rfl
theorem indexOp_sound {P : Program} {o : Oper} {t : TypeId} {x i : Operand} (ho : o.op = .indexAddr t x i) {s : FS} {eff : Eff} {w0 : Start} {a : Act} {w : World} {Q : Exit → Act → World → Prop} {K : Act → World → Prop}
    (hr : (indexOp P t x i).run s = some eff) (hc : Conc w0 s a w) (hcond : eff.cond) (hK : ∀ a' w', Conc w0 (s.upd o.dst eff) a' w' → K a' w') : owp P w0 o a w K Q := by
  obtain ⟨ρ, ht, hm⟩ := hc.2.2.2
  obtain ⟨p, h1, h2⟩ := bind_some hr
  obtain ⟨j, h3, h4⟩ := bind_some h2
  split at h4
  · rename_i n off l c kd i'
    split at h4
    rotate_left
    · simp [Rd.run] at h4
    rename_i e hu
    split at h4
    rotate_left
    · simp [Rd.run] at h4
    rename_i sz hs
    obtain rfl : (⟨.pointer (some ⟨n, off + i'.toNat * sz, none⟩), [], [0 ≤ i' ∧ i' < l]⟩ : Eff) = eff := by simpa [Rd.run] using h4
    have hcond' : 0 ≤ i' ∧ i' < l := hcond.1
    have hi := (rdv_ok h3 ht).int_inv
    rcases (rdv_ok h1 ht).slice_inv with ⟨g, f, cp, c', h7, hq, h8, _, _⟩ | ⟨h5, _⟩ | ⟨h5, _⟩
    rotate_left
    · omega
    · omega
    unfold sizeT at hs
    rcases hin : P.info? e with _ | ti
    · simp [hin] at hs
    simp only [hin, Option.map_some, Option.some.injEq] at hs
    refine value_wp (v := .pointer (some ⟨g, f + off + i'.toNat * sz, none⟩)) (w' := w) ?_ (hK _ _ (quiet_conc hc ht hm (by rw [Nat.add_assoc]; exact .ptr h7 hq)))
    simp only [execOp, ho, h8, hi, Instr.indexAt, asIntOf, Sem.run_bind, run_underlying hu, Result.andThen_ok, Sem.run_pure, hcond', and_self, if_true]
    simp [sizeOf, typeInfo, hin, hs, addr_add]
  · rename_i n off kd i'
    split at h4
    rotate_left
    · simp [Rd.run] at h4
    rename_i l e hu
    split at h4
    rotate_left
    · simp [Rd.run] at h4
    rename_i sz hs
    obtain rfl : (⟨.pointer (some ⟨n, off + i'.toNat * sz, none⟩), [], [0 ≤ i' ∧ i' < l]⟩ : Eff) = eff := by simpa [Rd.run] using h4
    have hcond' : 0 ≤ i' ∧ i' < l := hcond.1
    have hi := (rdv_ok h3 ht).int_inv
    obtain ⟨g, f, cp, h7, hq, h8⟩ := (rdv_ok h1 ht).ptr_inv
    unfold sizeT at hs
    rcases hin : P.info? e with _ | ti
    · simp [hin] at hs
    simp only [hin, Option.map_some, Option.some.injEq] at hs
    refine value_wp (v := .pointer (some ⟨g, f + off + i'.toNat * sz, none⟩)) (w' := w) ?_ (hK _ _ (quiet_conc hc ht hm (by rw [Nat.add_assoc]; exact .ptr h7 hq)))
    simp only [execOp, ho, h8, hi, Instr.indexAt, Instr.sureAddr, asIntOf, Sem.run_bind, run_underlying hu, Result.andThen_ok, Sem.run_pure, hcond', and_self, if_true]
    simp [sizeOf, typeInfo, hin, hs, addr_add]
  · simp [Rd.run] at h4
def lenOp (P : Program) (t : TypeId) (x : Operand) : Rd Eff := (rdv x).bind fun p => match p with
  | .slice (some _) l _ => (match P.underlying t with
    | some (.slice _) => .ret ⟨.int .i64 l, [], []⟩
    | _ => .fail)
  | .slice none 0 0 => (match P.underlying t with
    | some (.slice _) => .ret ⟨.int .i64 0, [], []⟩
    | _ => .fail)
  | _ => .fail
theorem VR.slice_len {ρ : Nat → Option Pl} {ad : Addr} {l c : Nat} {v' : Value} (k : VR ρ (.slice (some ad) l c) v') : ∃ ad' c', v' = .slice ad' l c' := by
  cases k with
  | lit hp => simp [plainV, atomV] at hp
  | nil_ hn hp hl hc => subst hl; exact ⟨_, _, rfl⟩
  | slice hn hq hl hc => exact ⟨_, _, rfl⟩
  | none_ ho => exact ⟨_, _, rfl⟩
theorem lenOp_sound {P : Program} {o : Oper} {t : TypeId} {x : Operand} (ho : o.op = .call { callee := .builtin .len, args := #[x], argTypes := #[t] }) {s : FS} {eff : Eff} {w0 : Start} {a : Act} {w : World} {Q : Exit → Act → World → Prop} {K : Act → World → Prop}
    (hr : (lenOp P t x).run s = some eff) (hc : Conc w0 s a w) (hK : ∀ a' w', Conc w0 (s.upd o.dst eff) a' w' → K a' w') : owp P w0 o a w K Q := by
  obtain ⟨ρ, ht, hm⟩ := hc.2.2.2
  obtain ⟨p, h1, h2⟩ := bind_some hr
  split at h2
  · rename_i ad l c
    split at h2
    rotate_left
    · simp [Rd.run] at h2
    rename_i e hu
    obtain rfl : (⟨.int .i64 l, [], []⟩ : Eff) = eff := by simpa [Rd.run] using h2
    obtain ⟨ad', c', h8⟩ := (rdv_ok h1 ht).slice_len
    refine value_wp (v := .int .i64 l) (w' := w) ?_ (hK _ _ (quiet_conc hc ht hm (.lit rfl)))
    simp only [execOp, ho, resolve, invoke, builtin, Builtin.len_, Sem.run_bind, Sem.run_pure, Result.andThen_ok, List.map_toArray, List.map_cons, List.map_nil, h8, List.getElem?_toArray, List.getElem?_cons_zero, run_underlying hu]
    rfl
  · split at h2
    rotate_left
    · simp [Rd.run] at h2
    rename_i e hu
    obtain rfl : (⟨.int .i64 0, [], []⟩ : Eff) = eff := by simpa [Rd.run] using h2
    have h8 := (rdv_ok h1 ht).plain rfl
    refine value_wp (v := .int .i64 0) (w' := w) ?_ (hK _ _ (quiet_conc hc ht hm (.lit rfl)))
    simp only [execOp, ho, resolve, invoke, builtin, Builtin.len_, Sem.run_bind, Sem.run_pure, Result.andThen_ok, List.map_toArray, List.map_cons, List.map_nil, h8, List.getElem?_toArray, List.getElem?_cons_zero, run_underlying hu]
    rfl
  · simp [Rd.run] at h2
/-- Several operands, read. -/
def rdvs : List Operand → Rd (List Value)
  | [] => .ret []
  | x :: r => (rdv x).bind fun v => (rdvs r).bind fun l => .ret (v :: l)
def VRs (ρ : Nat → Option Pl) (vs : List Value) (vs' : Array Value) : Prop := vs.length = vs'.size ∧ ∀ (i : Nat) v v', vs[i]? = some v → vs'[i]? = some v' → VR ρ v v'
theorem rdvs_ok {ρ : Nat → Option Pl} {s : FS} {a : Act} (ht : ∀ t, VR ρ (s.tmp t) (a.tmps.getD t undef)) : ∀ (xs : List Operand) (l : List Value), (rdvs xs).run s = some l → l.length = xs.length ∧ ∀ (i : Nat) v x, l[i]? = some v → xs[i]? = some x → VR ρ v (a.eval x)
  | [], l, h => by
    obtain rfl : [] = l := by simpa [rdvs, Rd.run] using h
    exact ⟨rfl, fun i v x hv => by simp at hv⟩
  | x :: r, l, h => by
    obtain ⟨v, h1, h2⟩ := bind_some h
    obtain ⟨l', h3, h4⟩ := bind_some h2
    obtain rfl : v :: l' = l := by simpa [Rd.run] using h4
    obtain ⟨g1, g2⟩ := rdvs_ok ht r l' h3
    refine ⟨by simp [g1], fun i u y hu hy => ?_⟩
    cases i with
    | zero =>
      obtain rfl : v = u := by simpa using hu
      obtain rfl : x = y := by simpa using hy
      exact rdv_ok h1 ht
    | succ i => exact g2 i u y (by simpa using hu) (by simpa using hy)
theorem rdvs_map {ρ : Nat → Option Pl} {s : FS} {a : Act} (ht : ∀ t, VR ρ (s.tmp t) (a.tmps.getD t undef)) {xs : Array Operand} {l : List Value} (h : (rdvs xs.toList).run s = some l) : VRs ρ l (xs.map a.eval) := by
  obtain ⟨h1, h2⟩ := rdvs_ok ht _ _ h
  refine ⟨by simpa using h1, fun i v v' hv hv' => ?_⟩
  rw [Array.getElem?_map] at hv'
  rcases hx : xs[i]? with _ | x
  · simp [hx] at hv'
  · obtain rfl : a.eval x = v' := by simpa [hx] using hv'
    exact h2 i v x hv (by simpa using hx)
theorem VRs.append {ρ : Nat → Option Pl} {xs ys : List Value} {xs' ys' : Array Value} (h : VRs ρ xs xs') (k : VRs ρ ys ys') : VRs ρ (xs ++ ys) (xs' ++ ys') := by
  refine ⟨by simp [h.1, k.1], fun i v v' hv hv' => ?_⟩
  rw [List.getElem?_append] at hv
  rw [Array.getElem?_append] at hv'
  rw [h.1] at hv
  split at hv
  · rename_i hi
    rw [if_pos hi] at hv'
    exact h.2 i v v' hv hv'
  · rename_i hi
    rw [if_neg hi] at hv'
    exact k.2 _ v v' hv hv'
def makeFuncOp (fn : Fn) (first captured : Array Operand) : Rd Eff := (rdvs first.toList).bind fun f => (rdvs captured.toList).bind fun c => .ret ⟨.func fn f.toArray c.toArray, [], []⟩
theorem VRs.arr {ρ : Nat → Option Pl} {xs : List Value} {xs' : Array Value} (h : VRs ρ xs xs') : xs.toArray.size = xs'.size ∧ ∀ (i : Nat) v v', xs.toArray[i]? = some v → xs'[i]? = some v' → VR ρ v v' :=
  ⟨by simpa using h.1, fun i v v' hv hv' => h.2 i v v' (by simpa using hv) hv'⟩
theorem makeFuncOp_sound {P : Program} {o : Oper} {fn : Fn} {first captured : Array Operand} (ho : o.op = .makeFunc fn first captured) {s : FS} {eff : Eff} {w0 : Start} {a : Act} {w : World} {Q : Exit → Act → World → Prop} {K : Act → World → Prop}
    (hr : (makeFuncOp fn first captured).run s = some eff) (hc : Conc w0 s a w) (hK : ∀ a' w', Conc w0 (s.upd o.dst eff) a' w' → K a' w') : owp P w0 o a w K Q := by
  obtain ⟨ρ, ht, hm⟩ := hc.2.2.2
  obtain ⟨f, h1, h2⟩ := bind_some hr
  obtain ⟨c, h3, h4⟩ := bind_some h2
  obtain rfl : (⟨.func fn f.toArray c.toArray, [], []⟩ : Eff) = eff := by simpa [Rd.run] using h4
  have k1 := (rdvs_map ht h1).arr
  have k2 := (rdvs_map ht h3).arr
  refine value_wp (v := .func fn (first.map a.eval) (captured.map a.eval)) (w' := w) ?_ (hK _ _ (quiet_conc hc ht hm (.func k1.1 k2.1 k1.2 k2.2)))
  simp only [execOp, ho]
  rfl
/-- Two rows of cells, pairwise. -/
def CellsA (ρ : Nat → Option Pl) (cs cs' : Array Value) : Prop := cs.size = cs'.size ∧ ∀ (i : Nat) v v', cs[i]? = some v → cs'[i]? = some v' → VR ρ v v'
theorem CellsA.set {ρ : Nat → Option Pl} {cs cs' : Array Value} (h : CellsA ρ cs cs') {v v' : Value} (hv : VR ρ v v') (k : Nat) : CellsA ρ (cs.setIfInBounds k v) (cs'.setIfInBounds k v') := by
  refine ⟨by simpa using h.1, fun i x x' hx hx' => ?_⟩
  by_cases hk : k = i
  · subst hk
    by_cases hl : k < cs.size
    · have hl' : k < cs'.size := by rw [← h.1]; exact hl
      simp [hl] at hx
      simp [hl'] at hx'
      rw [← hx, ← hx']
      exact hv
    · rw [Array.getElem?_eq_none (by simpa using hl)] at hx
      cases hx
  · rw [Array.getElem?_setIfInBounds_ne hk] at hx hx'
    exact h.2 i x x' hx hx'
theorem fill_rel {ρ : Nat → Option Pl} {place : Nat → Option (Nat × Nat)} : ∀ (ps ps' : List (Nat × Value)), ps.length = ps'.length → (∀ (i : Nat) p p', ps[i]? = some p → ps'[i]? = some p' → p.1 = p'.1 ∧ VR ρ p.2 p'.2 ∧ isTop p.2 = false) → ∀ (cs cs' : Array Value), CellsA ρ cs cs' → ∀ r, Instr.fill place cs ps = some r →
    ∃ r', Instr.fill place cs' ps' = some r' ∧ CellsA ρ r r'
  | [], [], _, _, cs, cs', h, r, hr => by
    obtain rfl : cs = r := by simpa [Instr.fill] using hr
    exact ⟨cs', rfl, h⟩
  | [], _ :: _, hl, _, _, _, _, _, _ => by simp at hl
  | _ :: _, [], hl, _, _, _, _, _, _ => by simp at hl
  | (i, v) :: ps, (i', v') :: ps', hl, hp, cs, cs', h, r, hr => by
    obtain ⟨hi, hv, hnt⟩ := hp 0 _ _ rfl rfl
    subst hi
    obtain ⟨hsz, hvc⟩ := hv.cells hnt
    simp only [Instr.fill] at hr ⊢
    split at hr
    · cases hr
    rename_i off size hpl
    split at hr
    · cases hr
    rename_i hcond
    rw [← hsz, ← h.1, if_neg hcond]
    refine fill_rel ps ps' (by simpa using hl) (fun j p p' hj hj' => hp (j + 1) p p' (by simpa using hj) (by simpa using hj')) _ _ ?_ r hr
    have key : ∀ (n : Nat) (a a' : Array Value), a.size = n → a'.size = n → (∀ (i : Nat) x x', a[i]? = some x → a'[i]? = some x' → VR ρ x x') → ∀ (c c' : Array Value), CellsA ρ c c' →
        CellsA ρ (a.zipIdx.foldl (fun cs (c, j) => cs.setIfInBounds (off + j) c) c) (a'.zipIdx.foldl (fun cs (c, j) => cs.setIfInBounds (off + j) c) c') := by
      intro n a a' ha ha' hx c c' hc
      rw [← Array.foldl_toList, ← Array.foldl_toList, Array.toList_zipIdx, Array.toList_zipIdx]
      have inner : ∀ (l l' : List Value) (k : Nat), l.length = l'.length → (∀ (i : Nat) x x', l[i]? = some x → l'[i]? = some x' → VR ρ x x') → ∀ (c c' : Array Value), CellsA ρ c c' →
          CellsA ρ ((l.zipIdx k).foldl (fun cs (c, j) => cs.setIfInBounds (off + j) c) c) ((l'.zipIdx k).foldl (fun cs (c, j) => cs.setIfInBounds (off + j) c) c') := by
        intro l
        induction l with
        | nil =>
          intro l' k hl _ c c' hc
          cases l' with
          | nil => exact hc
          | cons _ _ => simp at hl
        | cons x l ih =>
          intro l' k hl hx c c' hc
          cases l' with
          | nil => simp at hl
          | cons x' l' =>
            simp only [List.zipIdx_cons, List.foldl_cons]
            exact ih l' (k + 1) (by simpa using hl) (fun i y y' hy hy' => hx (i + 1) y y' (by simpa using hy) (by simpa using hy')) _ _ (hc.set (hx 0 x x' rfl rfl) _)
      exact inner a.toList a'.toList 0 (by simp [ha, ha']) (fun i x x' hi hi' => hx i x x' (by simpa using hi) (by simpa using hi')) c c' hc
    exact key _ _ _ hsz rfl hvc cs cs' h
/-- The parts of a literal, read. -/
def rdParts : List (Nat × Operand) → Rd (List (Nat × Value))
  | [] => .ret []
  | (i, x) :: r => (rdv x).bind fun v => (rdParts r).bind fun l => match isTop v with
    | false => .ret ((i, v) :: l)
    | true => .fail
theorem rdParts_ok {ρ : Nat → Option Pl} {s : FS} {a : Act} (ht : ∀ t, VR ρ (s.tmp t) (a.tmps.getD t undef)) : ∀ (xs : List (Nat × Operand)) (l : List (Nat × Value)), (rdParts xs).run s = some l → l.length = (xs.map fun p => (p.1, a.eval p.2)).length ∧
    ∀ (i : Nat) p p', l[i]? = some p → (xs.map fun p => (p.1, a.eval p.2))[i]? = some p' → p.1 = p'.1 ∧ VR ρ p.2 p'.2 ∧ isTop p.2 = false
  | [], l, h => by
    obtain rfl : [] = l := by simpa [rdParts, Rd.run] using h
    exact ⟨rfl, fun i p p' hp => by simp at hp⟩
  | (i, x) :: r, l, h => by
    obtain ⟨v, h1, h2⟩ := bind_some h
    obtain ⟨l', h3, h4⟩ := bind_some h2
    split at h4
    rotate_left
    · simp [Rd.run] at h4
    rename_i hnt
    obtain rfl : (i, v) :: l' = l := by simpa [Rd.run] using h4
    obtain ⟨g1, g2⟩ := rdParts_ok ht r l' h3
    refine ⟨by simpa using g1, fun j p p' hp hp' => ?_⟩
    cases j with
    | zero =>
      obtain rfl : (i, v) = p := by simpa using hp
      obtain rfl : (i, a.eval x) = p' := by simpa using hp'
      exact ⟨rfl, rdv_ok h1 ht, hnt⟩
    | succ j => exact g2 j p p' (by simpa using hp) (by simpa using hp')
/-- A slice literal: its parts in a new row. -/
def buildSliceOp (P : Program) (name : Nat) (t : TypeId) (len : Nat) (parts : Array (Nat × Operand)) : Rd Eff := (rdParts parts.toList).bind fun l => match P.underlying t with
  | some (.slice e) => (match P.info? e with
    | some i => (match Nat.ble (len * i.size) 1000, i.zero with
      | true, some z => (match plainV z, (z.cells.toList.all atomV), Instr.fill (fun k => some (k * i.size, i.size)) ((Array.range (len * i.size)).map (z.cells[· % z.cells.size]!)) l with
        | true, true, some r => .ret ⟨.slice (some ⟨name, 0, none⟩) len len, [(name, ⟨.row e i.size, .vals r.toList⟩)], []⟩
        | _, _, _ => .fail)
      | _, _ => .fail)
    | none => .fail)
  | _ => .fail
theorem cellsA_same {ρ : Nat → Option Pl} {cs : Array Value} (h : ∀ v ∈ cs.toList, atomV v = true) : CellsA ρ cs cs := ⟨rfl, fun i v v' hv hv' => by
  rw [hv] at hv'
  obtain rfl : v = v' := by simpa using hv'
  exact .lit (plain_of_atom (h v (by
    obtain ⟨hi, rfl⟩ := Array.getElem?_eq_some_iff.1 hv
    simp)))⟩
theorem CellsA.cells {ρ : Nat → Option Pl} {cs cs' : Array Value} (h : CellsA ρ cs cs') : Cells ρ cs.toList cs' := fun k v hv => by
  have hv' : cs[k]? = some v := by simpa using hv
  have hk : k < cs'.size := by rw [← h.1]; exact (Array.getElem?_eq_some_iff.1 hv').1
  exact ⟨cs'[k], by simp [hk], h.2 k _ _ hv' (by simp [hk])⟩
/-- A new row, a slice over it. -/
theorem newRow_conc {w0 : Start} {s : FS} {a : Act} {w : World} (hc : Conc w0 s a w) {dst : Option Tmp} {name : Nat} (hn : s.blk name = none) {ρ : Nat → Option Pl} (ht : ∀ t, VR ρ (s.tmp t) (a.tmps.getD t undef)) (hm : MemOk w0.ρ0 ρ w0.kp s.blk w) {cs : Cs} {cs' : Array Value} {e : TypeId} {sz len cap : Nat} (hlen : len ≤ cap)
    (hcap : cs'.size = cap * sz) (hcs : Cells ρ cs.list cs') (c : List Prop) :
    Conc w0 (s.upd dst ⟨.slice (some ⟨name, 0, none⟩) len len, [(name, ⟨.row e sz, cs⟩)], c⟩) (a.put dst (.slice (some ⟨w.heap.size, 0, none⟩) len cap)) (w.alloc (.cells cs' e)) := by
  obtain ⟨h1, h2, h3, _⟩ := hc
  have hB : ∀ k, w0.kp k → k < w.heap.size := fun k hk => Nat.lt_of_lt_of_le (w0.kpl k hk) h3.size
  have hext : Ext ρ (addPl ρ name (w.heap.size, 0, some cap)) := addPl_ext (hm.fresh name hn)
  refine put_conc (w := w) h1 h2 (h3.alloc hB _) (fun t => (ht t).ext hext) (.slice (f := 0) (addPl_same _ _ _) (.inl rfl) hlen (fun k hk _ => by simpa using hk)) ?_
  rw [upd_one]
  exact hm.new hn rfl (.inr ⟨w.heap.size, cap, addPl_same _ _ _, new_free hB, cs', heap_alloc_new w _, hcap, hcs.ext hext⟩)
theorem buildSliceOp_sound {P : Program} {o : Oper} {t : TypeId} {len : Nat} {parts : Array (Nat × Operand)} (ho : o.op = .buildSlice t len parts) {name : Nat} {s : FS} {eff : Eff} {w0 : Start} {a : Act} {w : World} {Q : Exit → Act → World → Prop} {K : Act → World → Prop}
    (hr : (buildSliceOp P name t len parts).run s = some eff) (hn : s.blk name = none) (hc : Conc w0 s a w) (hK : ∀ a' w', Conc w0 (s.upd o.dst eff) a' w' → K a' w') : owp P w0 o a w K Q := by
  obtain ⟨ρ, ht, hm⟩ := hc.2.2.2
  obtain ⟨l, h1, h2⟩ := bind_some hr
  split at h2
  rotate_left
  · simp [Rd.run] at h2
  rename_i e hu
  split at h2
  rotate_left
  · simp [Rd.run] at h2
  rename_i i hi
  split at h2
  rotate_left
  · simp [Rd.run] at h2
  rename_i z hle hz
  split at h2
  rotate_left
  · simp [Rd.run] at h2
  rename_i r hp hat hf
  obtain rfl : (⟨.slice (some ⟨name, 0, none⟩) len len, [(name, ⟨.row e i.size, .vals r.toList⟩)], []⟩ : Eff) = eff := by simpa [Rd.run] using h2
  have hle' : len * i.size ≤ 1000 := Nat.le_of_ble_eq_true hle
  obtain ⟨g1, g2⟩ := rdParts_ok ht _ _ h1
  have hzc : ∀ v ∈ ((Array.range (len * i.size)).map (z.cells[· % z.cells.size]!)).toList, atomV v = true := by
    intro v hv
    simp only [Array.toList_map, List.mem_map] at hv
    obtain ⟨k, hk, rfl⟩ := hv
    have hk0 : k < len * i.size := by simpa using hk
    by_cases hz0 : z.cells.size = 0
    · have e0 : z.cells = #[] := Array.eq_empty_of_size_eq_zero hz0
      rw [e0]
      rfl
    · have hlt : k % z.cells.size < z.cells.size := Nat.mod_lt _ (by omega)
      rw [getElem!_pos z.cells _ hlt]
      exact List.all_eq_true.1 hat _ (by simp)
  obtain ⟨r', hf', hr'⟩ := fill_rel l _ g1 g2 _ _ (cellsA_same hzc) r hf
  have hsz : r'.size = len * i.size := by
    have key : ∀ (ps : List (Nat × Value)) (cs r : Array Value), Instr.fill (fun k => some (k * i.size, i.size)) cs ps = some r → r.size = cs.size := by
      intro ps
      induction ps with
      | nil =>
        intro cs r h
        obtain rfl : cs = r := by simpa [Instr.fill] using h
        rfl
      | cons p ps ih =>
        intro cs r h
        obtain ⟨j, v⟩ := p
        simp only [Instr.fill] at h
        split at h
        · cases h
        rw [ih _ _ h]
        have inner : ∀ (xs : List (Value × Nat)) (c : Array Value), (xs.foldl (fun cs (c, q) => cs.setIfInBounds (j * i.size + q) c) c).size = c.size := by
          intro xs
          induction xs with
          | nil => intro c; rfl
          | cons x xs ihx => intro c; rw [List.foldl_cons, ihx]; simp
        rw [← Array.foldl_toList]
        exact inner _ _
    rw [key _ _ _ hf']
    simp
  refine value_wp (v := .slice (some ⟨w.heap.size, 0, none⟩) len len) (w' := w.alloc (.cells r' e)) ?_ (hK _ _ (newRow_conc (cs := .vals r.toList) hc hn ht hm (Nat.le_refl _) hsz hr'.cells []))
  have hparts : (parts.map fun (i, x) => (i, a.eval x)).toList = parts.toList.map fun p => (p.1, a.eval p.2) := by simp
  have hbig : ¬ (2 ^ 24 < len * i.size) := by omega
  simp only [execOp, ho, Instr.buildSlice, Sem.run_bind, run_underlying hu, Result.andThen_ok, hparts]
  have hz1 : (sizeOf e).run P w = .ok i.size w := by simp [sizeOf, typeInfo, hi]
  have hz2 : (zeroValue e).run P w = .ok z w := by simp [zeroValue, typeInfo, hi, hz]
  simp only [hz1, Result.andThen_ok]
  rw [if_neg (by omega)]
  by_cases h0 : len * i.size = 0
  · have e0 : ∀ g : Nat → Value, (Array.range (len * i.size)).map g = #[] := fun g => Array.eq_empty_of_size_eq_zero (by simp [h0])
    rw [e0] at hf'
    rw [if_pos h0]
    simp only [Sem.run_pure, e0, hf']
    rfl
  · rw [if_neg h0]
    simp only [Sem.run_bind, Sem.run_pure, Result.andThen_ok, hz2, hf']
    rfl
/-- What is known of functions that are called. -/
abbrev Ctx := FuncId → Nat → List Value → Rd Eff
def enters (P : Program) (f : FuncId) : Prop := ∀ (args : Array Value) (w : World), (callFunc f args).run P w = .ok (.enter f args) w
theorem enters_of {P : Program} {f : FuncId} {fn : Func} (h : P.funcs[f]? = some fn) (hn : (fn.name == "runtime.NumGoroutine") = false) (hb : fn.body.isNone = false) : enters P f := fun args w => by
  have hn' : ¬ fn.name = "runtime.NumGoroutine" := by simpa using hn
  have hb' : ¬ fn.body = none := by
    intro e
    rw [e] at hb
    cases hb
  simp [callFunc, h, hn', hb']
def GSound (P : Program) (G : Ctx) : Prop := ∀ (f : FuncId) (name : Nat) (args : List Value) (s : FS) (eff : Eff), (G f name args).run s = some eff → s.blk name = none → enters P f ∧
  ∀ (B : Nat → Prop) (ρ0 ρ : Nat → Option Pl) (w : World) (args' : Array Value), VRs ρ args args' → MemOk ρ0 ρ B s.blk w → (∀ k, B k → k < w.heap.size) → eff.cond →
    Calls P f args' w fun e w' => ∃ v' ρ', e = .returned v' ∧ Ext ρ ρ' ∧ VR ρ' eff.val v' ∧ BelowK B w w' ∧ MemOk ρ0 ρ' B (s.upd none eff).blk w'
def callOp (G : Ctx) (name : Nat) (f : Operand) (args : Array Operand) : Rd Eff := (rdv f).bind fun fv => (rdvs args.toList).bind fun l => match fv with
  | .func (.func fid) first cap => G fid name (first.toList ++ l ++ cap.toList)
  | _ => .fail
theorem VR.func_inv {ρ : Nat → Option Pl} {fn : Fn} {f c : Array Value} {v' : Value} (k : VR ρ (.func fn f c) v') : ∃ f' c', v' = .func fn f' c' ∧ VRs ρ f.toList f' ∧ VRs ρ c.toList c' := by
  cases k with
  | lit hp =>
    simp [plainV, atomV] at hp
    obtain ⟨rfl, rfl⟩ := hp
    exact ⟨#[], #[], rfl, ⟨rfl, fun i v v' h => by simp at h⟩, ⟨rfl, fun i v v' h => by simp at h⟩⟩
  | func hf hc h1 h2 => exact ⟨_, _, rfl, ⟨by simpa using hf, fun i v v' h h' => h1 i v v' (by simpa using h) h'⟩, ⟨by simpa using hc, fun i v v' h h' => h2 i v v' (by simpa using h) h'⟩⟩
theorem callOp_sound {P : Program} {G : Ctx} (hG : GSound P G) {o : Oper} {f : Operand} {args : Array Operand} {ts : Array TypeId} (ho : o.op = .call { callee := .value f, args := args, argTypes := ts }) {name : Nat} {s : FS} {eff : Eff} {w0 : Start} {a : Act} {w : World} {Q : Exit → Act → World → Prop} {K : Act → World → Prop}
    (hr : (callOp G name f args).run s = some eff) (hn : s.blk name = none) (hc : Conc w0 s a w) (hcond : eff.cond) (hK : ∀ a' w', Conc w0 (s.upd o.dst eff) a' w' → K a' w') : owp P w0 o a w K Q := by
  obtain ⟨c1, c2, c3, ρ, ht, hm⟩ := hc
  obtain ⟨fv, h1, h2⟩ := bind_some hr
  obtain ⟨l, h3, h4⟩ := bind_some h2
  split at h4
  rotate_left
  · simp [Rd.run] at h4
  rename_i fid first cap
  obtain ⟨first', cap', h5, h6, h7⟩ := (rdv_ok h1 ht).func_inv
  obtain ⟨hent, hcall⟩ := hG fid name _ s eff h4 hn
  have hargs := (h6.append (rdvs_map ht h3)).append h7
  have hex : (execOp a.eval o).run P w = .ok (.enter fid (first' ++ args.map a.eval ++ cap')) w := by
    simp only [execOp, ho, resolve, h5, Deferred.ofValue, invoke, Sem.run_bind, Sem.run_pure, Result.andThen_ok]
    exact hent _ _
  refine enter_wp hex ?_
  refine (hcall w0.kp w0.ρ0 ρ w _ hargs hm (fun k hk => Nat.lt_of_lt_of_le (w0.kpl k hk) c3.size) hcond).mono ?_
  rintro e w' ⟨v', ρ', rfl, h8, h9, h10, h11⟩
  refine ⟨v', rfl, ?_⟩
  refine hK _ _ (put_conc (w := w) c1 c2 (c3.trans h10) (fun t => (ht t).ext h8) h9 ?_)
  have : (s.upd o.dst eff).blk = (s.upd none eff).blk := rfl
  rw [this]
  exact h11
def deadB : Blk := ⟨.dead, .vals []⟩
/-- Some cells of known ones. -/
def partC (cs : Cs) (o n : Nat) : Option (Cs × List Prop) :=
  match cs with
  | .vals l => (match cellsAt l o n with
    | some r => some (.vals r, [])
    | none => none)
  | .ints xs => some (.ints ((xs.drop o).take n), [o + n ≤ xs.length])
  | .bytes _ => none
def joinC : Cs → Cs → Cs
  | .vals a, .vals b => .vals (a ++ b)
  | .ints x, .ints y => .ints (x ++ y)
  | .ints x, .vals b => (match intsOf b with
    | some y => .ints (x ++ y)
    | none => .vals (x.map (Value.int .i64) ++ b))
  | .vals a, .ints y => (match intsOf a with
    | some x => .ints (x ++ y)
    | none => .vals (a ++ y.map (Value.int .i64)))
  | .bytes x, b => .vals (x.map (Value.int .u8) ++ b.list)
  | a, .bytes y => .vals (a.list ++ y.map (Value.int .u8))
theorem joinC_list (a b : Cs) : (joinC a b).list = a.list ++ b.list := by
  cases a with
  | vals l =>
    cases b with
    | vals r => rfl
    | ints y =>
      simp only [joinC]
      split
      · rename_i h
        rw [intsOf_spec h]
        simp [Cs.list]
      · rfl
    | bytes y => rfl
  | ints x =>
    cases b with
    | vals r =>
      simp only [joinC]
      split
      · rename_i h
        rw [intsOf_spec h]
        simp [Cs.list]
      · rfl
    | ints y => simp [joinC, Cs.list]
    | bytes y => rfl
  | bytes x => cases b <;> rfl
theorem partC_spec {cs c : Cs} {o n : Nat} {C : List Prop} (h : partC cs o n = some (c, C)) (hC : AllP C) : c.list.length = n ∧ ∀ (j : Nat) v, c.list[j]? = some v → cs.list[o + j]? = some v := by
  unfold partC at h
  split at h
  · split at h
    · rename_i l r hr
      obtain ⟨rfl, rfl⟩ : Cs.vals r = c ∧ [] = C := by simpa using h
      exact cellsAt_spec n o r hr
    · cases h
  · rename_i xs
    obtain ⟨rfl, rfl⟩ : Cs.ints ((xs.drop o).take n) = c ∧ [o + n ≤ xs.length] = C := by simpa using h
    have h1 : o + n ≤ xs.length := hC.1
    refine ⟨by simp [Cs.list]; omega, fun j v hj => ?_⟩
    simp only [Cs.list, List.getElem?_map] at hj ⊢
    have hjn : j < n := by
      rcases Nat.lt_or_ge j n with h | h
      · exact h
      · rw [List.getElem?_eq_none (by simp; omega)] at hj; simp at hj
    rw [List.getElem?_take_of_lt hjn, List.getElem?_drop] at hj
    exact hj
  · cases h
def oneC : Cs → Bool
  | .vals l => l.all oneV
  | .ints _ => true
  | .bytes _ => true
theorem oneC_spec {c : Cs} (h : oneC c = true) : ∀ v ∈ c.list, oneV v = true := by
  cases c with
  | vals l => exact List.all_eq_true.1 h
  | ints xs =>
    intro v hv
    obtain ⟨x, _, rfl⟩ := List.mem_map.1 hv
    rfl
  | bytes xs =>
    intro v hv
    obtain ⟨x, _, rfl⟩ := List.mem_map.1 hv
    rfl
/-- The slice that is appended: its length and its cells. -/
def rdNews (vy : Value) (sz : Nat) : Rd (Nat × Cs × List Prop) :=
  match vy with
  | .slice none 0 0 => .ret (0, .vals [], [])
  | .slice (some ⟨k, o, none⟩) m _ => .blk k fun bk => match bk with
    | some bk => (match bk.live, partC bk.cs o (m * sz) with
      | true, some (c, C) => (match oneC c with
        | true => .ret (m, c, C)
        | false => .fail)
      | _, _ => .fail)
    | none => .fail
  | _ => .fail
/-- append: the old row's name is dead behind it, the new name has all. -/
def appendOp (P : Program) (name : Nat) (t : TypeId) (x y : Operand) : Rd Eff := (rdv x).bind fun vx => (rdv y).bind fun vy =>
  match P.underlying t with
  | some (.slice e) => (match P.info? e with
    | some i => (match i.zero with
      | some z => (match Nat.beq z.cells.size i.size with
        | true => (rdNews vy i.size).bind fun r => match vx with
          | .slice none 0 0 => .ret ⟨.slice (some ⟨name, 0, none⟩) (0 + r.1) (0 + r.1), [(name, ⟨.row e i.size, joinC (.vals []) r.2.1⟩)], ((0 + r.1) * i.bytes ≤ 140737488355328 ∧ 0 + r.1 ≤ 2000000) :: r.2.2⟩
          | .slice (some ⟨n, 0, none⟩) l _ => .blk n fun bn => match bn with
            | some ⟨.row e' sz, cs⟩ => (match decide (e' = e) && Nat.beq sz i.size, partC cs 0 (l * i.size) with
              | true, some (olds, C) => .ret ⟨.slice (some ⟨name, 0, none⟩) (l + r.1) (l + r.1), [(name, ⟨.row e i.size, joinC olds r.2.1⟩), (n, deadB)], ((l + r.1) * i.bytes ≤ 140737488355328 ∧ l + r.1 ≤ 2000000) :: (r.2.2 ++ C)⟩
              | _, _ => .fail)
            | _ => .fail
          | _ => .fail
        | false => .fail)
      | none => .fail)
    | none => .fail)
  | _ => .fail
theorem upd_two (s : FS) (dst : Option Tmp) (v : Value) (n n' : Nat) (b b' : Blk) (c : List Prop) : (s.upd dst ⟨v, [(n, b), (n', b')], c⟩).blk = setB (setB s.blk n' b') n b := by
  funext k
  simp only [FS.upd, lookW, setB]
  by_cases h : n = k
  · subst h; simp
  · have h2 : ¬ k = n := fun e => h e.symm
    simp only [h, h2, if_false]
    by_cases h3 : n' = k
    · subst h3; simp
    · have : ¬ k = n' := fun e => h3 e.symm
      simp [h3, this]
/-- An owned row's name dies, a new name gets a row in its place or in a new block. -/
theorem MemOk.passOn {ρ0 ρ : Nat → Option Pl} {B : Nat → Prop} {m : Nat → Option Blk} {w w' : World} (h : MemOk ρ0 ρ B m w) {n name : Nat} {b b' : Blk} {p p' : Pl} (hn : m n = some b) (hown : b.own = true) (hp : ρ n = some p) (hname : m name = none)
    (hp' : (¬ nilPl p ∧ p'.1 = p.1) ∨ p'.1 = w.heap.size) (hsz : w.heap.size ≤ w'.heap.size) (hk : ∀ k, k < w.heap.size → nilPl p ∨ k ≠ p.1 → w'.heap[k]? = w.heap[k]?) (hb : BlkOk (addPl ρ name p') B w' name b') :
    MemOk ρ0 (addPl ρ name p') B (setB (setB m n deadB) name b') w' := by
  have hext : Ext ρ (addPl ρ name p') := addPl_ext (h.fresh name hname)
  have hnn : n ≠ name := fun e => by subst e; rw [hname] at hn; cases hn
  have old : ∀ k c, k ≠ name → setB (setB m n deadB) name b' k = some c → c.live = true → k ≠ n ∧ m k = some c := by
    intro k c hkn hc hl
    by_cases hkn2 : k = n
    · subst hkn2
      have : some deadB = some c := by simpa [setB, hkn] using hc
      obtain rfl : deadB = c := by simpa using this
      cases hl
    · exact ⟨hkn2, by simpa [setB, hkn, hkn2] using hc⟩
  have far : ∀ k c q, k ≠ n → m k = some c → c.live = true → ρ k = some q → ¬ nilPl q → q.1 < w.heap.size ∧ (nilPl p ∨ q.1 ≠ p.1) := by
    intro k c q hkn hc hl hq hnq
    have h2 := ((h.ok k c hc).real hl hq hnq).1
    refine ⟨h2, ?_⟩
    by_cases hnp : nilPl p
    · exact .inl hnp
    · exact .inr fun e => h.sep n k b c p q hn hown hc hl (fun e => hkn e.symm) hp hq hnp hnq e.symm
  refine ⟨h.ext.trans hext, fun k hk0 => ?_, fun k c hc => ?_, fun k k' c c' q q' hc hcown hc' hl' hne hq hq' hnq hnq' => ?_⟩
  · by_cases hkn : k = name
    · subst hkn; simp [setB] at hk0
    · rw [addPl_ne hkn]
      by_cases hkn2 : k = n
      · subst hkn2; simp [setB, hkn] at hk0
      · exact h.fresh k (by simpa [setB, hkn, hkn2] using hk0)
  · by_cases hkn : k = name
    · subst hkn
      obtain rfl : b' = c := by simpa [setB] using hc
      exact hb
    · by_cases hl : c.live = true
      · obtain ⟨hkn2, hmk⟩ := old k c hkn hc hl
        refine (h.ok k c hmk).keep hext hsz fun q hl2 hq hnq => ?_
        obtain ⟨h1, h2⟩ := far k c q hkn2 hmk hl2 hq hnq
        exact hk _ h1 h2
      · obtain ⟨kd, cs⟩ := c
        cases kd with
        | dead => trivial
        | _ => exact absurd rfl hl
  · have hl := own_live hcown
    by_cases hkn : k = name
    · subst hkn
      have hk'n : k' ≠ k := fun e => hne e.symm
      obtain ⟨g1, g2⟩ := old k' c' hk'n hc' hl'
      rw [addPl_same] at hq
      rw [addPl_ne hk'n] at hq'
      obtain rfl : p' = q := by simpa using hq
      obtain ⟨f1, f2⟩ := far k' c' q' g1 g2 hl' hq' hnq'
      rcases hp' with ⟨x1, x2⟩ | x2
      · have := f2.resolve_left x1
        omega
      · omega
    · obtain ⟨g1, g2⟩ := old k c hkn hc hl
      rw [addPl_ne hkn] at hq
      obtain ⟨f1, f2⟩ := far k c q g1 g2 hl hq hnq
      by_cases hk'n : k' = name
      · subst hk'n
        rw [addPl_same] at hq'
        obtain rfl : p' = q' := by simpa using hq'
        rcases hp' with ⟨x1, x2⟩ | x2
        · have := f2.resolve_left x1
          omega
        · omega
      · obtain ⟨g1', g2'⟩ := old k' c' hk'n hc' hl'
        rw [addPl_ne hk'n] at hq'
        exact h.sep k k' c c' q q' g2 hcown g2' hl' hne hq hq' hnq hnq'
theorem choose_list {R : Nat → Value → Value → Prop} : ∀ (l : List Value) (k : Nat), (∀ (j : Nat) v, l[j]? = some v → ∃ v', R (k + j) v v') → ∃ l' : List Value, l'.length = l.length ∧ ∀ (j : Nat) v v', l[j]? = some v → l'[j]? = some v' → R (k + j) v v'
  | [], _, _ => ⟨[], rfl, fun j v v' h => by simp at h⟩
  | v :: r, k, h => by
    obtain ⟨v', hv⟩ := h 0 v rfl
    obtain ⟨r', h1, h2⟩ := choose_list r (k + 1) fun j u hu => by
      have := h (j + 1) u (by simpa using hu)
      rw [show k + 1 + j = k + (j + 1) by omega]
      exact this
    refine ⟨v' :: r', by simp [h1], fun j u u' hu hu' => ?_⟩
    cases j with
    | zero =>
      obtain rfl : v = u := by simpa using hu
      obtain rfl : v' = u' := by simpa using hu'
      exact hv
    | succ j =>
      rw [show k + (j + 1) = k + 1 + j by omega]
      exact h2 j u u' (by simpa using hu) (by simpa using hu')
/-- What is appended, as it lies in memory. -/
def NewsAt (w : World) (ρ : Nat → Option Pl) (m sz : Nat) (c : Cs) (vy' : Value) : Prop :=
  ∃ (ad : Option Addr) (cy : Nat) (news : List Value), vy' = .slice ad m cy ∧ (0 < m → ∃ a, ad = some a ∧ ∀ (j : Nat) u, news[j]? = some u → w.cell? (a.add j) = some u) ∧ news.length = m * sz ∧ c.list.length = m * sz ∧ (∀ u ∈ news, u.oneCell' = true) ∧ ∀ (j : Nat) v v', c.list[j]? = some v → news[j]? = some v' → VR ρ v v'
theorem rdNews_ok {s : FS} {vy : Value} {sz m : Nat} {c : Cs} {C : List Prop} (h : (rdNews vy sz).run s = some (m, c, C)) (hC : AllP C) {ρ0 ρ : Nat → Option Pl} {B : Nat → Prop} {w : World} {vy' : Value} (hv : VR ρ vy vy') (hm : MemOk ρ0 ρ B s.blk w) : NewsAt w ρ m sz c vy' := by
  unfold rdNews at h
  split at h
  · obtain ⟨rfl, rfl, rfl⟩ : 0 = m ∧ Cs.vals [] = c ∧ [] = C := by simpa [Rd.run] using h
    obtain rfl := hv.plain rfl
    exact ⟨none, 0, [], rfl, fun h => by omega, by simp, by simp [Cs.list], by simp, by simp⟩
  · rename_i k o m' c0
    simp only [Rd.run] at h
    split at h
    rotate_left
    · simp [Rd.run] at h
    rename_i bk hbk
    split at h
    rotate_left
    · simp [Rd.run] at h
    rename_i c' C' hlive hpart
    split at h
    rotate_left
    · simp [Rd.run] at h
    rename_i hone
    obtain ⟨rfl, rfl, rfl⟩ : m' = m ∧ c' = c ∧ C' = C := by simpa [Rd.run] using h
    obtain ⟨p1, p2⟩ := partC_spec hpart hC
    rcases hv.slice_inv with ⟨gy, fy, cpy, c2, k1, kq, h8, h9, _⟩ | ⟨h0, _, ad, c2, h8⟩ | ⟨h0, ad, c2, _, h8, _⟩
    rotate_left
    · subst h0
      exact ⟨_, _, [], h8, fun h => by omega, by simp, p1, by simp, by simp⟩
    · subst h0
      exact ⟨_, _, [], h8, fun h => by omega, by simp, p1, by simp, by simp⟩
    have k2 := (live_cell (hm.ok k bk hbk) hlive k1 kq).2
    obtain ⟨news, n1, n2⟩ := choose_list (R := fun j v v' => w.cell? ⟨gy, fy + (o + j), none⟩ = some v' ∧ VR ρ v v') c'.list 0 fun j v hj => by
      rw [Nat.zero_add]
      exact k2 _ _ (p2 j v hj)
    have hnv : ∀ (j : Nat) u, news[j]? = some u → w.cell? ⟨gy, fy + (o + j), none⟩ = some u ∧ ∃ v, c'.list[j]? = some v ∧ VR ρ v u := by
      intro j u hu
      have hj : j < c'.list.length := by rw [← n1]; exact (List.getElem?_eq_some_iff.1 hu).1
      have := n2 j c'.list[j] u (by simp) hu
      rw [Nat.zero_add] at this
      exact ⟨this.1, _, by simp, this.2⟩
    have hones : ∀ u ∈ news, u.oneCell' = true := by
      intro u hu
      obtain ⟨j, hj⟩ := List.getElem?_of_mem hu
      obtain ⟨_, v, hv1, hv2⟩ := hnv j u hj
      exact oneV_of hv2 (oneC_spec hone v (List.mem_of_getElem? hv1))
    have hrel : ∀ (j : Nat) v v', c'.list[j]? = some v → news[j]? = some v' → VR ρ v v' := fun j v v' h1 h2 => (n2 j v v' h1 h2).2
    refine ⟨some ⟨gy, fy + o, none⟩, c2, news, h8, fun _ => ⟨_, rfl, fun j u hu => ?_⟩, by rw [n1, p1], p1, hones, hrel⟩
    rw [addr_add, Nat.add_assoc]
    exact (hnv j u hu).1
  · simp [Rd.run] at h
theorem cells_join {ρ : Nat → Option Pl} {olds newc news rest xs : List Value} {arr : Array Value} (h : arr.toList = xs ++ news ++ rest) (hl : xs.length = olds.length) (hl2 : news.length = newc.length) (ho : ∀ (j : Nat) v, olds[j]? = some v → ∃ v', xs[j]? = some v' ∧ VR ρ v v') (hn : ∀ (j : Nat) v v', newc[j]? = some v → news[j]? = some v' → VR ρ v v') : Cells ρ (olds ++ newc) arr := by
  intro j v hj
  have harr : arr[j]? = (xs ++ news ++ rest)[j]? := by rw [← h]; simp
  by_cases hlt : j < olds.length
  · rw [List.getElem?_append_left hlt] at hj
    obtain ⟨v', h1, h2⟩ := ho j v hj
    exact ⟨v', by rw [harr, List.append_assoc, List.getElem?_append_left (by omega), h1], h2⟩
  · rw [List.getElem?_append_right (by omega)] at hj
    have hlt2 : j - olds.length < newc.length := (List.getElem?_eq_some_iff.1 hj).1
    have hv' : news[j - olds.length]? = some news[j - olds.length] := by simp
    exact ⟨news[j - olds.length], by rw [harr, List.append_assoc, List.getElem?_append_right (by omega), List.getElem?_append_left (by omega), hl]; exact hv', hn _ _ _ hj hv'⟩
theorem run_append_zero {P : Program} (w : World) {t ty e : TypeId} {i : TypeInfo} (ht : P.underlying t = some (.slice e)) (hi : P.info? e = some i) (ad ad2 : Option Addr) (l c c2 : Nat) (h : l ≤ c) :
    (Builtin.append_ #[t, t] ty #[.slice ad l c, .slice ad2 0 c2]).run P w = .ok (.slice ad l c) w := by
  cases ad <;> cases ad2 <;> simp [Builtin.append_, run_underlying ht, sizeOf, typeInfo, hi, Builtin.lenOf, Builtin.firstCells, loadCells, loadCellsFrom, storeCells, h]
/-- An empty row that lies nowhere. -/
theorem MemOk.newNil {ρ0 ρ : Nat → Option Pl} {B : Nat → Prop} {m : Nat → Option Blk} {w : World} (h : MemOk ρ0 ρ B m w) {n : Nat} (hn : m n = none) {b : Blk} {p : Pl} (hp : nilPl p) (hb : BlkOk (addPl ρ n p) B w n b) :
    MemOk ρ0 (addPl ρ n p) B (setB m n b) w where
  ext := h.ext.trans (addPl_ext (h.fresh n hn))
  fresh := fun k hk => by
    by_cases hkn : k = n
    · subst hkn; simp [setB] at hk
    · rw [addPl_ne hkn]
      exact h.fresh k (by simpa [setB, hkn] using hk)
  ok := fun k c hk => by
    by_cases hkn : k = n
    · subst hkn
      obtain rfl : b = c := by simpa [setB] using hk
      exact hb
    · have hk' : m k = some c := by simpa [setB, hkn] using hk
      exact (h.ok k c hk').keep (addPl_ext (h.fresh n hn)) (Nat.le_refl _) fun q hl hq hnq => rfl
  sep := fun k k' c c' q q' hk hown hk' hlive hne hq hq' hnq hnq' => by
    by_cases hkn : k = n
    · subst hkn
      rw [addPl_same] at hq
      obtain rfl : p = q := by simpa using hq
      exact absurd hp hnq
    · rw [addPl_ne hkn] at hq
      by_cases hk'n : k' = n
      · subst hk'n
        rw [addPl_same] at hq'
        obtain rfl : p = q' := by simpa using hq'
        exact absurd hp hnq'
      · rw [addPl_ne hk'n] at hq'
        exact h.sep k k' c c' q q' (by simpa [setB, hkn] using hk) hown (by simpa [setB, hk'n] using hk') hlive hne hq hq' hnq hnq'
theorem MemOk.kill {ρ0 ρ : Nat → Option Pl} {B : Nat → Prop} {m : Nat → Option Blk} {w : World} (h : MemOk ρ0 ρ B m w) {n : Nat} {b : Blk} (hn : m n = some b) : MemOk ρ0 ρ B (setB m n deadB) w where
  ext := h.ext
  fresh := fun k hk => by
    by_cases hkn : k = n
    · subst hkn; simp [setB] at hk
    · exact h.fresh k (by simpa [setB, hkn] using hk)
  ok := fun k c hk => by
    by_cases hkn : k = n
    · subst hkn
      obtain rfl : deadB = c := by simpa [setB] using hk
      trivial
    · exact h.ok k c (by simpa [setB, hkn] using hk)
  sep := fun k k' c c' q q' hk hown hk' hlive hne hq hq' hnq hnq' => by
    by_cases hkn : k = n
    · subst hkn
      obtain rfl : deadB = c := by simpa [setB] using hk
      cases hown
    · by_cases hk'n : k' = n
      · subst hk'n
        obtain rfl : deadB = c' := by simpa [setB] using hk'
        cases hlive
      · exact h.sep k k' c c' q q' (by simpa [setB, hkn] using hk) hown (by simpa [setB, hk'n] using hk') hlive hne hq hq' hnq hnq'
theorem appendOp_sound {P : Program} {o : Oper} {t : TypeId} {x y : Operand} (ho : o.op = .call { callee := .builtin .append, args := #[x, y], argTypes := #[t, t] }) {name : Nat} {s : FS} {eff : Eff} {w0 : Start} {a : Act} {w : World} {Q : Exit → Act → World → Prop} {K : Act → World → Prop}
    (hr : (appendOp P name t x y).run s = some eff) (hnm : s.blk name = none) (hc : Conc w0 s a w) (hcond : eff.cond) (hK : ∀ a' w', Conc w0 (s.upd o.dst eff) a' w' → K a' w') : owp P w0 o a w K Q := by
  obtain ⟨d1, d2, d3, ρ, ht, hm⟩ := hc
  obtain ⟨vx, h1, h2⟩ := bind_some hr
  obtain ⟨vy, h3, h4⟩ := bind_some h2
  clear h2
  split at h4
  rotate_left
  · simp [Rd.run] at h4
  rename_i e hu
  split at h4
  rotate_left
  · simp [Rd.run] at h4
  rename_i i hi
  split at h4
  rotate_left
  · simp [Rd.run] at h4
  rename_i z hz
  split at h4
  rotate_left
  · simp [Rd.run] at h4
  rename_i hzs
  have hzs : z.cells.size = i.size := Nat.eq_of_beq_eq_true hzs
  obtain ⟨⟨m, nc, C1⟩, hnews, h5⟩ := bind_some h4
  clear h4
  have hB : ∀ k, w0.kp k → k < w.heap.size := fun k hk => Nat.lt_of_lt_of_le (w0.kpl k hk) d3.size
  have hexec : ∀ (vx' vy' r : Value) (w' : World), a.eval x = vx' → a.eval y = vy' → (Builtin.append_ #[t, t] o.type #[vx', vy']).run P w = .ok r w' → (execOp a.eval o).run P w = .ok (.value r) w' := by
    intro vx' vy' r w' ex ey hrun
    simp only [execOp, ho, resolve, invoke, builtin, Sem.run_bind, Sem.run_pure, Result.andThen_ok, List.map_toArray, List.map_cons, List.map_nil, ex, ey, hrun]
  split at h5
  · -- onto nil
    obtain rfl : (⟨.slice (some ⟨name, 0, none⟩) (0 + m) (0 + m), [(name, ⟨.row e i.size, joinC (.vals []) nc⟩)], ((0 + m) * i.bytes ≤ 140737488355328 ∧ 0 + m ≤ 2000000) :: C1⟩ : Eff) = eff := by simpa [Rd.run] using h5
    obtain ⟨⟨hb1, hb2⟩, hC1⟩ : ((0 + m) * i.bytes ≤ 140737488355328 ∧ 0 + m ≤ 2000000) ∧ AllP C1 := hcond
    obtain ⟨ad, cy, news, ey, hnl, hlen, hlen2, hone, hrel⟩ := rdNews_ok hnews hC1 (rdv_ok h3 ht) hm
    have ex := (rdv_ok h1 ht).plain rfl
    rw [Nat.zero_add] at hb1 hb2 hK
    have hlist : (joinC (.vals []) nc).list = nc.list := by rw [joinC_list]; rfl
    by_cases hm0 : m = 0
    · subst hm0
      refine value_wp (hexec _ _ _ _ ex ey (run_append_zero w hu hi none ad 0 0 cy (Nat.le_refl _))) (hK _ _ ?_)
      have hnp : nilPl (0, 1, some 0) := ⟨rfl, 0, rfl⟩
      have hext : Ext ρ (addPl ρ name (0, 1, some 0)) := addPl_ext (hm.fresh name hnm)
      refine put_conc (w := w) d1 d2 d3 (fun t => (ht t).ext hext) (.nil_ (addPl_same _ _ _) hnp rfl (fun _ => ⟨rfl, rfl⟩)) ?_
      rw [upd_one]
      exact hm.newNil hnm hnp (.inl ⟨_, addPl_same _ _ _, rfl, rfl⟩)
    · obtain ⟨ad', rfl, hnc⟩ := hnl (by omega)
      have hrun := run_append_nil (P := P) w t o.type e i z hu hi hz ad' m cy news hlen hnc (by omega) (by omega) (by omega)
      refine value_wp (hexec _ _ _ _ ex ey hrun) (hK _ _ ?_)
      have hge := grownCap_ge w m 0 e
      have hcd : Conc w0 s a w.drew := ⟨d1, d2, d3.drew, ρ, ht, hm.keep (Below.drew (Below.refl _ _))⟩
      refine newRow_conc (w := w.drew) (cs := joinC (.vals []) nc) hcd hnm ht (hm.keep (Below.drew (Below.refl _ _))) hge ?_ ?_ _
      · simp only [Array.size_append, List.size_toArray, size_zeroCells, hzs, hlen, ← Nat.add_mul]
        congr 1
        omega
      · rw [hlist]
        intro j v hj
        have hlt : j < news.length := by rw [hlen, ← hlen2]; exact (List.getElem?_eq_some_iff.1 hj).1
        exact ⟨news[j], by rw [Array.getElem?_append_left (by simpa using hlt)]; simp, hrel j v _ hj (by simp)⟩
  · -- onto a row
    rename_i n l c1
    simp only [Rd.run] at h5
    split at h5
    rotate_left
    · simp [Rd.run] at h5
    rename_i e' sz cs hbn
    split at h5
    rotate_left
    · simp [Rd.run] at h5
    rename_i olds C2 hchk2 holds
    simp only [Bool.and_eq_true] at hchk2
    obtain ⟨he, hs1⟩ := hchk2
    obtain rfl := of_decide_eq_true he
    obtain rfl := Nat.eq_of_beq_eq_true hs1
    obtain rfl : (⟨.slice (some ⟨name, 0, none⟩) (l + m) (l + m), [(name, ⟨.row e' i.size, joinC olds nc⟩), (n, deadB)], ((l + m) * i.bytes ≤ 140737488355328 ∧ l + m ≤ 2000000) :: (C1 ++ C2)⟩ : Eff) = eff := by simpa [Rd.run] using h5
    obtain ⟨⟨hb1, hb2⟩, hC⟩ : ((l + m) * i.bytes ≤ 140737488355328 ∧ l + m ≤ 2000000) ∧ AllP (C1 ++ C2) := hcond
    obtain ⟨hC1, hC2⟩ := hC.append
    obtain ⟨ad, cy, news, ey, hnl, hlen, hlen2, hone, hrel⟩ := rdNews_ok hnews hC1 (rdv_ok h3 ht) hm
    obtain ⟨q1, q2⟩ := partC_spec holds hC2
    simp only [Nat.zero_add] at q2
    have hnn : n ≠ name := fun h => by subst h; rw [hnm] at hbn; cases hbn
    rcases hm.ok n _ hbn with ⟨pn, hpn, hpn1, hpn2⟩ | ⟨g, cap, k1, k2, cs', k3, k4, k5⟩
    · -- nil
      have hpnil : nilPl pn := ⟨hpn1, 0, hpn2⟩
      have ex : l = 0 ∧ a.eval x = .slice none 0 0 := by
        rcases (rdv_ok h1 ht).slice_inv with ⟨g2, f, cp, c', h7, hok, h8, h9, h10⟩ | ⟨_, h0, _⟩ | ⟨h0, ad2, c2, p2, h8, h7, _, h11⟩
        · rw [hpn] at h7
          obtain rfl : pn = (g2, f, cp) := by simpa using h7
          exact absurd hpnil hok.not
        · omega
        · rw [hpn] at h7
          obtain rfl : pn = p2 := by simpa using h7
          obtain ⟨rfl, rfl⟩ := h11 hpn2
          exact ⟨h0, h8⟩
      obtain ⟨rfl, ex⟩ := ex
      have hl0' : olds.list = [] := List.eq_nil_of_length_eq_zero (by rw [q1]; simp)
      have hlist : (joinC olds nc).list = nc.list := by rw [joinC_list, hl0']; rfl
      by_cases hm0 : m = 0
      · subst hm0
        refine value_wp (hexec _ _ _ _ ex ey (run_append_zero w hu hi none ad 0 0 cy (Nat.le_refl _))) (hK _ _ ?_)
        have hnp : nilPl (0, 1, some 0) := ⟨rfl, 0, rfl⟩
        have hext : Ext ρ (addPl ρ name (0, 1, some 0)) := addPl_ext (hm.fresh name hnm)
        refine put_conc (w := w) d1 d2 d3 (fun t => (ht t).ext hext) (.nil_ (addPl_same _ _ _) hnp rfl (fun _ => ⟨rfl, rfl⟩)) ?_
        rw [upd_two]
        exact (hm.kill hbn).newNil (by simp [setB, Ne.symm hnn, hnm]) hnp (.inl ⟨_, addPl_same _ _ _, rfl, rfl⟩)
      · obtain ⟨ad', rfl, hnc⟩ := hnl (by omega)
        rw [Nat.zero_add] at hb1 hb2 hK
        have hrun := run_append_nil (P := P) w t o.type e' i z hu hi hz ad' m cy news hlen hnc (by omega) (by omega) (by omega)
        refine value_wp (hexec _ _ _ _ ex ey hrun) (hK _ _ ?_)
        have hge := grownCap_ge w m 0 e'
        have hext : Ext ρ (addPl ρ name (w.heap.size, 0, some (grownCap w m 0 e'))) := addPl_ext (hm.fresh name hnm)
        refine put_conc (w := w) d1 d2 (d3.drew.alloc hB _) (fun t => (ht t).ext hext) (.slice (f := 0) (addPl_same _ _ _) (.inl rfl) hge (fun k hk _ => by simpa using hk)) ?_
        rw [upd_two]
        refine hm.passOn hbn rfl hpn hnm (.inr rfl) (by simp) (fun k hk _ => Below.heap_alloc w.drew _ k hk) (.inr ⟨w.heap.size, _, addPl_same _ _ _, new_free hB, _, heap_alloc_new w.drew _, ?_, ?_⟩)
        · simp only [Array.size_append, List.size_toArray, size_zeroCells, hzs, hlen, ← Nat.add_mul]
          congr 1
          omega
        · show Cells _ (joinC olds nc).list _
          rw [hlist]
          intro j v hj
          have hlt : j < news.length := by rw [hlen, ← hlen2]; exact (List.getElem?_eq_some_iff.1 hj).1
          exact ⟨news[j], by rw [Array.getElem?_append_left (by simpa using hlt)]; simp, (hrel j v _ hj (by simp)).ext hext⟩
    obtain ⟨c', ex, hlc, hcc⟩ : ∃ c', a.eval x = .slice (some ⟨g, 0, none⟩) l c' ∧ l ≤ c' ∧ c' = cap := by
      rcases (rdv_ok h1 ht).slice_inv with ⟨g2, f, cp, c', h7, _, h8, h9, h10⟩ | ⟨_, h0, _⟩ | ⟨_, _, _, p, _, hp1, hp2, _⟩
      · rw [k1] at h7
        obtain ⟨rfl, rfl, rfl⟩ : g = g2 ∧ 0 = f ∧ some cap = cp := by simpa using h7
        exact ⟨c', h8, h9, h10 cap rfl rfl⟩
      · omega
      · rw [k1] at hp1
        obtain rfl : (g, 0, some cap) = p := by simpa using hp1
        exact absurd hp2 (okPl.not (.inl rfl))
    subst hcc
    have hLc : l * i.size ≤ cs'.size := by rw [k4]; exact Nat.mul_le_mul_right _ hlc
    have hxl : (cs'.toList.take (l * i.size)).length = olds.list.length := by rw [List.length_take, Array.length_toList, q1]; omega
    have hxo : ∀ (j : Nat) v, olds.list[j]? = some v → ∃ v', (cs'.toList.take (l * i.size))[j]? = some v' ∧ VR ρ v v' := by
      intro j v hj
      have hjl : j < l * i.size := by rw [← q1]; exact (List.getElem?_eq_some_iff.1 hj).1
      obtain ⟨v', r1, r2⟩ := k5 j v (q2 j v hj)
      exact ⟨v', by rw [List.getElem?_take_of_lt hjl]; simpa using r1, r2⟩
    have hlist : (joinC olds nc).list = olds.list ++ nc.list := joinC_list _ _
    by_cases hm0 : m = 0
    · subst hm0
      refine value_wp (hexec _ _ _ _ ex ey (run_append_zero w hu hi (some ⟨g, 0, none⟩) ad l c' cy hlc)) (hK _ _ ?_)
      have hext : Ext ρ (addPl ρ name (g, 0, some c')) := addPl_ext (hm.fresh name hnm)
      refine put_conc (w := w) d1 d2 d3 (fun t => (ht t).ext hext) (.slice (f := 0) (addPl_same _ _ _) (.inl rfl) hlc (fun k hk _ => by simpa using hk)) ?_
      rw [upd_two]
      refine hm.passOn hbn rfl k1 hnm (.inl ⟨okPl.not (.inl rfl), rfl⟩) (Nat.le_refl _) (fun k _ _ => rfl) (.inr ⟨g, c', addPl_same _ _ _, k2, _, k3, k4, ?_⟩)
      show Cells _ (joinC olds nc).list _
      rw [hlist, show nc.list = [] from List.eq_nil_of_length_eq_zero (by rw [hlen2]; simp), List.append_nil]
      intro j v hj
      obtain ⟨v', r1, r2⟩ := k5 j v (q2 j v hj)
      exact ⟨v', r1, r2.ext hext⟩
    obtain ⟨ad', rfl, hnc⟩ := hnl (by omega)
    by_cases hroom : l + m ≤ c'
    · have hfit : l * i.size + news.length ≤ cs'.size := by rw [hlen, k4, ← Nat.add_mul]; exact Nat.mul_le_mul_right _ hroom
      have hrun := run_append_room (P := P) w t o.type e' i hu hi g l c' cs' k3 ad' m cy news hlen hnc hone hroom hfit
      refine value_wp (hexec _ _ _ _ ex ey hrun) (hK _ _ ?_)
      have hext : Ext ρ (addPl ρ name (g, 0, some c')) := addPl_ext (hm.fresh name hnm)
      refine put_conc (w := w) d1 d2 ⟨d3.os, d3.tape, d3.output, by simp only [World.setRow, Array.size_modify]; exact d3.size, fun k hk => (setRow_other w g k _ (fun e => k2 (e ▸ hk))).trans (d3.block k hk)⟩ (fun t => (ht t).ext hext) (.slice (f := 0) (addPl_same _ _ _) (.inl rfl) hroom (fun k hk _ => by simpa using hk)) ?_
      rw [upd_two]
      refine hm.passOn hbn rfl k1 hnm (.inl ⟨okPl.not (.inl rfl), rfl⟩) (by simp [World.setRow]) (fun k _ hk => setRow_other w g k _ (hk.resolve_left (okPl.not (.inl rfl)))) (.inr ⟨g, c', addPl_same _ _ _, k2, _, setRow_heap w g cs' _ e' _ k3, ?_, ?_⟩)
      · simp only [List.size_toArray, List.length_append, List.length_take, List.length_drop, Array.length_toList]
        omega
      · show Cells _ (joinC olds nc).list _
        rw [hlist]
        exact (cells_join (rest := cs'.toList.drop (l * i.size + news.length)) (by simp) hxl (by rw [hlen, hlen2]) hxo hrel).ext hext
    · have hrun := run_append_grow (P := P) w t o.type e' i z hu hi hz ⟨g, 0, none⟩ l c' (cs'.toList.take (l * i.size)) (by rw [hxl, q1]) (fun j v hj => by
          have hjl : j < l * i.size := by rw [← q1, ← hxl]; exact (List.getElem?_eq_some_iff.1 hj).1
          rw [List.getElem?_take_of_lt hjl] at hj
          rw [addr_add, Nat.zero_add]
          simp only [World.cell?, k3]
          simpa using hj) ad' m cy news hlen hnc (by omega) (by omega) (growslice_fits (by omega) hb1)
      refine value_wp (hexec _ _ _ _ ex ey hrun) (hK _ _ ?_)
      have hge := grownCap_ge w (l + m) c' e'
      have hext : Ext ρ (addPl ρ name (w.heap.size, 0, some (grownCap w (l + m) c' e'))) := addPl_ext (hm.fresh name hnm)
      refine put_conc (w := w) d1 d2 (d3.drew.alloc hB _) (fun t => (ht t).ext hext) (.slice (f := 0) (addPl_same _ _ _) (.inl rfl) hge (fun k hk _ => by simpa using hk)) ?_
      rw [upd_two]
      refine hm.passOn hbn rfl k1 hnm (.inr rfl) (by simp) (fun k hk _ => Below.heap_alloc w.drew _ k hk) (.inr ⟨w.heap.size, _, addPl_same _ _ _, new_free hB, _, heap_alloc_new w.drew _, ?_, ?_⟩)
      · simp only [Array.size_append, List.size_toArray, size_zeroCells, hzs, hlen, hxl, q1, ← Nat.add_mul]
        congr 1
        omega
      · show Cells _ (joinC olds nc).list _
        rw [hlist]
        exact (cells_join (rest := (Builtin.zeroCells z.cells (grownCap w (l + m) c' e' - (l + m))).toList) (by simp) hxl (by rw [hlen, hlen2]) hxo hrel).ext hext
  · simp [Rd.run] at h5
/-- A bound of a cut, read. -/
def rdBnd : Option Operand → Rd (Option (IntKind × Int))
  | none => .ret none
  | some x => (rdv x).bind fun v => match v with
    | .int k i => .ret (some (k, i))
    | _ => .fail
def bndI (b : Option (IntKind × Int)) (d : Int) : Int :=
  match b with
  | some (_, i) => i
  | none => d
theorem rdBnd_ok {ρ : Nat → Option Pl} {s : FS} {a : Act} {x : Option Operand} {b : Option (IntKind × Int)} (h : (rdBnd x).run s = some b) (ht : ∀ t, VR ρ (s.tmp t) (a.tmps.getD t undef)) : x.map a.eval = b.map fun p => Value.int p.1 p.2 := by
  cases x with
  | none =>
    obtain rfl : none = b := by simpa [rdBnd, Rd.run] using h
    rfl
  | some x =>
    obtain ⟨v, h1, h2⟩ := bind_some h
    split at h2
    · rename_i k i
      obtain rfl : some (k, i) = b := by simpa [Rd.run] using h2
      simp [(rdv_ok h1 ht).plain rfl]
    · simp [Rd.run] at h2
theorem run_bounds {P : Program} (w : World) (b1 b2 : Option (IntKind × Int)) (len cap : Nat) (h : 0 ≤ bndI b1 0 ∧ bndI b1 0 ≤ bndI b2 len ∧ bndI b2 len ≤ len) (hc : len ≤ cap) :
    (Instr.sliceBounds true len cap (b1.map fun p => Value.int p.1 p.2) (b2.map fun p => Value.int p.1 p.2) none).run P w = .ok ((bndI b1 0).toNat, (bndI b2 len).toNat, cap) w := by
  obtain ⟨h1, h2, h3⟩ := h
  rcases b1 with _ | ⟨k1, i1⟩ <;> rcases b2 with _ | ⟨k2, i2⟩ <;> simp only [bndI] at h1 h2 h3 ⊢
  · simp [Instr.sliceBounds]
  · simp [Instr.sliceBounds, run_sliceBound w k2 i2 cap _ (by omega) (by omega)]
  · simp [Instr.sliceBounds, run_sliceBound w k1 i1 len _ (by omega) (by omega)]
  · have e := Int.toNat_of_nonneg (a := i2) (by omega)
    simp [Instr.sliceBounds, run_sliceBound w k2 i2 cap _ (by omega) (by omega), run_sliceBound w k1 i1 i2.toNat _ (by omega) (by omega)]
def cutOp (P : Program) (t : TypeId) (x : Operand) (lo hi : Option Operand) : Rd Eff := (rdv x).bind fun vx => (rdBnd lo).bind fun b1 => (rdBnd hi).bind fun b2 =>
  match P.underlying t with
  | some (.slice e) => (match P.info? e with
    | some i => (match Nat.ble 1 i.size with
      | true => (match vx with
        | .slice (some ⟨n, o, none⟩) len _ => .ret ⟨.slice (some ⟨n, o + (bndI b1 0).toNat * i.size, none⟩) ((bndI b2 len).toNat - (bndI b1 0).toNat) ((bndI b2 len).toNat - (bndI b1 0).toNat), [], [0 ≤ bndI b1 0 ∧ bndI b1 0 ≤ bndI b2 len ∧ bndI b2 len ≤ len]⟩
        | .slice none 0 0 => .ret ⟨.slice none 0 0, [], [bndI b1 0 = 0 ∧ bndI b2 0 = 0]⟩
        | _ => .fail)
      | false => .fail)
    | none => .fail)
  | _ => .fail
theorem cut_rel {ρ : Nat → Option Pl} {n off len c0 l h sz : Nat} {v' : Value} (hv : VR ρ (.slice (some ⟨n, off, none⟩) len c0) v') (hsz : 1 ≤ sz) (hl : l ≤ h ∧ h ≤ len) :
    ∃ ad cap, v' = .slice ad len cap ∧ len ≤ cap ∧ VR ρ (.slice (some ⟨n, off + l * sz, none⟩) (h - l) (h - l)) (.slice (if cap = l then ad else ad.map (·.add (l * sz))) (h - l) (cap - l)) := by
  rcases hv.slice_inv with ⟨g, f, cp, c', h7, hq, h8, h9, h10⟩ | ⟨h0, hpos, ad, c', h8⟩ | ⟨h0, ad, c', p, h8, hp1, hp2, hp3⟩
  · refine ⟨_, _, h8, h9, ?_⟩
    by_cases hml : c' = l
    · rw [if_pos hml]
      by_cases hl0 : l = 0
      · subst hl0
        rw [show off + 0 * sz = off by omega]
        exact .slice h7 hq (by omega) (fun k hk ho => by rw [h10 k hk ho]; rfl)
      · rw [show h - l = 0 by omega]
        exact .none_ (by have := Nat.mul_pos (show 0 < l by omega) hsz; omega)
    · rw [if_neg hml]
      simp only [Option.map_some, addr_add]
      rw [Nat.add_assoc]
      refine .slice h7 hq (by omega) (fun k hk ho => ?_)
      have hl0 : l = 0 := by
        rcases Nat.eq_zero_or_pos l with hz | hz
        · exact hz
        · have := Nat.mul_pos hz hsz; omega
      have ho0 : off = 0 := by omega
      rw [hl0, h10 k hk ho0]
      rfl
  · subst h0
    refine ⟨some ad, c', h8, by omega, ?_⟩
    rw [show h - l = 0 by omega]
    by_cases hc0 : c' = l
    · rw [if_pos hc0]
      exact .none_ (by omega)
    · rw [if_neg hc0]
      exact .none_ (by omega)
  · subst h0
    refine ⟨ad, c', h8, Nat.zero_le _, ?_⟩
    obtain rfl : l = 0 := by omega
    obtain rfl : h = 0 := by omega
    refine .nil_ hp1 hp2 rfl fun h0 => ?_
    obtain ⟨rfl, rfl⟩ := hp3 h0
    exact ⟨rfl, rfl⟩
theorem cutOp_sound {P : Program} {o : Oper} {t : TypeId} {x : Operand} {lo hi : Option Operand} (ho : o.op = .slice t x lo hi none) {s : FS} {eff : Eff} {w0 : Start} {a : Act} {w : World} {Q : Exit → Act → World → Prop} {K : Act → World → Prop}
    (hr : (cutOp P t x lo hi).run s = some eff) (hc : Conc w0 s a w) (hcond : eff.cond) (hK : ∀ a' w', Conc w0 (s.upd o.dst eff) a' w' → K a' w') : owp P w0 o a w K Q := by
  obtain ⟨ρ, ht, hm⟩ := hc.2.2.2
  obtain ⟨vx, h1, h2⟩ := bind_some hr
  obtain ⟨b1, h3, h4⟩ := bind_some h2
  obtain ⟨b2, h5, h6⟩ := bind_some h4
  clear h2 h4
  have e1 := rdBnd_ok h3 ht
  have e2 := rdBnd_ok h5 ht
  split at h6
  rotate_left
  · simp [Rd.run] at h6
  rename_i e hu
  split at h6
  rotate_left
  · simp [Rd.run] at h6
  rename_i i hi'
  split at h6
  rotate_left
  · simp [Rd.run] at h6
  rename_i hsz
  have hsz : 1 ≤ i.size := Nat.le_of_ble_eq_true hsz
  have hrun : ∀ (ad : Option Addr) (len cap : Nat), a.eval x = .slice ad len cap → 0 ≤ bndI b1 0 ∧ bndI b1 0 ≤ bndI b2 len ∧ bndI b2 len ≤ len → len ≤ cap →
      (execOp a.eval o).run P w = .ok (.value (.slice (if cap = (bndI b1 0).toNat then ad else ad.map (·.add ((bndI b1 0).toNat * i.size))) ((bndI b2 len).toNat - (bndI b1 0).toNat) (cap - (bndI b1 0).toNat))) w := by
    intro ad len cap hx hb hlc
    have hbs := run_bounds (P := P) w b1 b2 len cap hb hlc
    simp [execOp, ho, hx, e1, e2, Instr.sliceAt, Instr.slice, run_underlying hu, hbs, sizeOf, typeInfo, hi']
  split at h6
  · rename_i n off len c0
    obtain rfl : (⟨.slice (some ⟨n, off + (bndI b1 0).toNat * i.size, none⟩) ((bndI b2 len).toNat - (bndI b1 0).toNat) ((bndI b2 len).toNat - (bndI b1 0).toNat), [], [0 ≤ bndI b1 0 ∧ bndI b1 0 ≤ bndI b2 len ∧ bndI b2 len ≤ len]⟩ : Eff) = eff := by simpa [Rd.run] using h6
    have hb : 0 ≤ bndI b1 0 ∧ bndI b1 0 ≤ bndI b2 len ∧ bndI b2 len ≤ len := hcond.1
    obtain ⟨ad, cap, g1, g2, g3⟩ := cut_rel (rdv_ok h1 ht) hsz (l := (bndI b1 0).toNat) (h := (bndI b2 len).toNat) (by omega)
    exact value_wp (w' := w) (hrun _ _ _ g1 hb g2) (hK _ _ (quiet_conc hc ht hm g3))
  · obtain rfl : (⟨.slice none 0 0, [], [bndI b1 0 = 0 ∧ bndI b2 0 = 0]⟩ : Eff) = eff := by simpa [Rd.run] using h6
    have hb : bndI b1 0 = 0 ∧ bndI b2 0 = 0 := hcond.1
    have hx := (rdv_ok h1 ht).plain rfl
    have hr0 := hrun none 0 0 hx (by
      have e : ((0 : Nat) : Int) = 0 := rfl
      rw [e, hb.1, hb.2]
      omega) (Nat.le_refl _)
    refine value_wp (v := .slice none 0 0) (w' := w) ?_ (hK _ _ (quiet_conc hc ht hm (.lit rfl)))
    rw [hr0]
    have e : ((0 : Nat) : Int) = 0 := rfl
    rw [e, hb.1, hb.2]
    rfl
  · simp [Rd.run] at h6
/-- A whole array's block as a slice. -/
def arrOf (P : Program) (t : TypeId) : Option (Nat × TypeId) :=
  match P.underlying t with
  | some (.pointer arr) => (match P.underlying arr with
    | some (.array l e) => some (l, e)
    | _ => none)
  | some (.array l e) => some (l, e)
  | _ => none
theorem arrOf_spec {P : Program} {t : TypeId} {l : Nat} {e : TypeId} (h : arrOf P t = some (l, e)) : (∃ arr, P.underlying t = some (.pointer arr) ∧ P.underlying arr = some (.array l e)) ∨ P.underlying t = some (.array l e) := by
  unfold arrOf at h
  split at h
  · rename_i arr hu
    split at h
    · rename_i l' e' ha
      obtain ⟨rfl, rfl⟩ : _ ∧ _ := by simpa using h
      exact .inl ⟨arr, hu, ha⟩
    · cases h
  · rename_i l' e' hu
    obtain ⟨rfl, rfl⟩ : _ ∧ _ := by simpa using h
    exact .inr hu
  · cases h
def arrOp (P : Program) (t : TypeId) (x : Operand) : Rd Eff := (rdv x).bind fun vx =>
  match arrOf P t with
  | some (l, e) => (match P.info? e with
    | some _ => (match Nat.ble 1 l with
      | true => (match vx with
        | .pointer (some ⟨n, o, none⟩) => .blk n fun b => (match b with
          | some ⟨.box, _⟩ => .ret ⟨.slice (some ⟨n, o, none⟩) l l, [], []⟩
          | _ => .fail)
        | _ => .fail)
      | false => .fail)
    | none => .fail)
  | none => .fail
theorem arrOp_sound {P : Program} {o : Oper} {t : TypeId} {x : Operand} (ho : o.op = .slice t x none none none) {s : FS} {eff : Eff} {w0 : Start} {a : Act} {w : World} {Q : Exit → Act → World → Prop} {K : Act → World → Prop}
    (hr : (arrOp P t x).run s = some eff) (hc : Conc w0 s a w) (hK : ∀ a' w', Conc w0 (s.upd o.dst eff) a' w' → K a' w') : owp P w0 o a w K Q := by
  obtain ⟨ρ, ht, hm⟩ := hc.2.2.2
  obtain ⟨vx, h1, h2⟩ := bind_some hr
  split at h2
  rotate_left
  · simp [Rd.run] at h2
  rename_i l e har
  split at h2
  rotate_left
  · simp [Rd.run] at h2
  rename_i i hi
  split at h2
  rotate_left
  · simp [Rd.run] at h2
  rename_i hsz
  have hl : 1 ≤ l := Nat.le_of_ble_eq_true hsz
  split at h2
  rotate_left
  · simp [Rd.run] at h2
  rename_i n off
  simp only [Rd.run] at h2
  split at h2
  rotate_left
  · simp [Rd.run] at h2
  rename_i cs hb
  obtain rfl : (⟨.slice (some ⟨n, off, none⟩) l l, [], []⟩ : Eff) = eff := by simpa [Rd.run] using h2
  obtain ⟨g, hg, _⟩ := hm.ok n _ hb
  have hx := rdv_ok h1 ht
  obtain ⟨g', f, cp, hp, hq, he⟩ : ∃ g f cp, ρ n = some (g, f, cp) ∧ okPl f cp ∧ a.eval x = .pointer (some ⟨g, f + off, none⟩) := by
    generalize a.eval x = vv at hx
    cases hx with
    | lit hp => simp [plainV, atomV] at hp
    | ptr hn hq => exact ⟨_, _, _, hn, hq, rfl⟩
  have hgg : (g', f, cp) = (g, 0, none) := Option.some.inj (hp.symm.trans hg)
  obtain ⟨rfl, rfl, rfl⟩ : g' = g ∧ f = 0 ∧ cp = none := by simpa using hgg
  have hl0 : ¬ l = 0 := by omega
  refine value_wp (v := .slice (some ⟨g', 0 + off, none⟩) l l) (w' := w) ?_ (hK _ _ (quiet_conc hc ht hm (.slice hp hq (Nat.le_refl _) (by intro k hk; cases hk))))
  rcases arrOf_spec har with ⟨arr, hu, ha⟩ | hu
  · simp [execOp, ho, he, Instr.sliceAt, Instr.slice, run_underlying hu, run_underlying ha, sizeOf, typeInfo, hi, Instr.sliceBounds, asAddr, hl0]
    rfl
  · simp [execOp, ho, he, Instr.sliceAt, run_underlying hu, sizeOf, typeInfo, hi, Instr.sliceBounds, Instr.sureAddr, asAddr, hl0]
    rfl
/-- append of nothing. -/
def isCut : Value → Bool
  | .slice none 0 0 => true
  | .slice (some ⟨_, _, none⟩) _ _ => true
  | _ => false
theorem cut_open {ρ : Nat → Option Pl} {v v' : Value} (h : isCut v = true) (k : VR ρ v v') : ∃ ad l c, v' = .slice ad l c ∧ l ≤ c := by
  unfold isCut at h
  split at h
  · exact ⟨none, 0, 0, k.plain rfl, Nat.le_refl _⟩
  · rename_i n o l c
    rcases k.slice_inv with ⟨g, f, cp, c', _, _, h8, h9, _⟩ | ⟨h0, _, ad, c', h8⟩ | ⟨h0, ad, c', _, h8, _⟩
    · exact ⟨_, _, _, h8, h9⟩
    · exact ⟨_, _, _, h8, by omega⟩
    · exact ⟨_, _, _, h8, by omega⟩
  · cases h
def appendZ (P : Program) (t : TypeId) (x : Operand) : Rd Eff := (rdv x).bind fun vx =>
  match P.underlying t with
  | some (.slice e) => (match P.info? e with
    | some _ => (match isCut vx with
      | true => .ret ⟨vx, [], []⟩
      | false => .fail)
    | none => .fail)
  | _ => .fail
def appendAny (P : Program) (name : Nat) (t : TypeId) (x y : Operand) : Rd Eff := (rdv y).bind fun vy => match vy with
  | .slice none 0 0 => appendZ P t x
  | _ => appendOp P name t x y
theorem appendAny_sound {P : Program} {o : Oper} {t : TypeId} {x y : Operand} (ho : o.op = .call { callee := .builtin .append, args := #[x, y], argTypes := #[t, t] }) {name : Nat} {s : FS} {eff : Eff} {w0 : Start} {a : Act} {w : World} {Q : Exit → Act → World → Prop} {K : Act → World → Prop}
    (hr : (appendAny P name t x y).run s = some eff) (hnm : s.blk name = none) (hc : Conc w0 s a w) (hcond : eff.cond) (hK : ∀ a' w', Conc w0 (s.upd o.dst eff) a' w' → K a' w') : owp P w0 o a w K Q := by
  obtain ⟨vy, h1, h2⟩ := bind_some hr
  split at h2
  rotate_left
  · exact appendOp_sound ho h2 hnm hc hcond hK
  obtain ⟨vx, h3, h4⟩ := bind_some h2
  split at h4
  rotate_left
  · simp [Rd.run] at h4
  rename_i e hu
  split at h4
  rotate_left
  · simp [Rd.run] at h4
  rename_i i hi
  split at h4
  rotate_left
  · simp [Rd.run] at h4
  rename_i hcx
  obtain rfl : (⟨vx, [], []⟩ : Eff) = eff := by simpa [Rd.run] using h4
  obtain ⟨ρ, ht, hm⟩ := hc.2.2.2
  obtain ⟨ax, lx, cx, ex, hlx⟩ := cut_open hcx (rdv_ok h3 ht)
  have ey := (rdv_ok h1 ht).plain rfl
  have hv := rdv_ok h3 ht
  rw [ex] at hv
  refine value_wp (v := .slice ax lx cx) (w' := w) ?_ (hK _ _ (quiet_conc hc ht hm hv))
  simp only [execOp, ho, resolve, invoke, builtin, Sem.run_bind, Sem.run_pure, Result.andThen_ok, List.map_toArray, List.map_cons, List.map_nil, ex, ey, run_append_zero (P := P) w hu hi ax none lx cx 0 hlx]
def isZero (v : Value) : Bool := match v with
  | .int .i64 n => decide (n = 0)
  | _ => false
theorem isZero_spec {v : Value} (h : isZero v = true) : v = .int .i64 0 := by
  unfold isZero at h
  split at h
  · obtain rfl := of_decide_eq_true h
    rfl
  · cases h
def makeOp (P : Program) (name : Nat) (t : TypeId) (x y : Operand) : Rd Eff := (rdv x).bind fun vl => (rdv y).bind fun vc => match vl, vc with
  | .int _ l, .int _ c => (match P.underlying t with
    | some (.slice e) => (match P.info? e with
      | some i => (match i.zero with
        | some z => (match z.cells.toList.all isZero && Nat.beq z.cells.size i.size with
          | true => .ret ⟨.slice (some ⟨name, 0, none⟩) l.toNat l.toNat, [(name, ⟨.row e i.size, .ints (List.replicate (c.toNat * i.size) 0)⟩)], [0 ≤ l ∧ l ≤ c ∧ i.bytes * c.toNat ≤ 281474976710656 ∧ c ≤ 9223372036854775807]⟩
          | false => .fail)
        | none => .fail)
      | none => .fail)
    | _ => .fail)
  | _, _ => .fail
theorem made_zero {cs : Array Value} (h : cs.toList.all isZero = true) {n : Nat} (hn : n = 0 ∨ 0 < cs.size) : (madeCells cs n).size = n ∧ ∀ k, k < n → (madeCells cs n)[k]? = some (.int .i64 0) := by
  refine ⟨by simp [madeCells], fun k hk => ?_⟩
  have hpos : 0 < cs.size := by omega
  have hlt : k % cs.size < cs.size := Nat.mod_lt _ hpos
  have e : (madeCells cs n)[k]? = some (cs[k % cs.size]!) := by simp [madeCells, hk]
  have hz : cs[k % cs.size] = .int .i64 0 := isZero_spec (List.all_eq_true.1 h _ (by simp))
  rw [e, getElem!_pos cs _ hlt, hz]
theorem makeOp_sound {P : Program} {o : Oper} {t : TypeId} {x y : Operand} (ho : o.op = .makeSlice t x y) {name : Nat} {s : FS} {eff : Eff} {w0 : Start} {a : Act} {w : World} {Q : Exit → Act → World → Prop} {K : Act → World → Prop}
    (hr : (makeOp P name t x y).run s = some eff) (hn : s.blk name = none) (hc : Conc w0 s a w) (hcond : eff.cond) (hK : ∀ a' w', Conc w0 (s.upd o.dst eff) a' w' → K a' w') : owp P w0 o a w K Q := by
  obtain ⟨ρ, ht, hm⟩ := hc.2.2.2
  obtain ⟨vl, h1, h2⟩ := bind_some hr
  obtain ⟨vc, h3, h4⟩ := bind_some h2
  split at h4
  rotate_left
  · simp [Rd.run] at h4
  rename_i kl l kc c
  split at h4
  rotate_left
  · simp [Rd.run] at h4
  rename_i e hu
  split at h4
  rotate_left
  · simp [Rd.run] at h4
  rename_i i hi
  split at h4
  rotate_left
  · simp [Rd.run] at h4
  rename_i z hz
  split at h4
  rotate_left
  · simp [Rd.run] at h4
  rename_i hchk
  simp only [Bool.and_eq_true] at hchk
  have hsz : z.cells.size = i.size := Nat.eq_of_beq_eq_true hchk.2
  obtain rfl : (⟨.slice (some ⟨name, 0, none⟩) l.toNat l.toNat, [(name, ⟨.row e i.size, .ints (List.replicate (c.toNat * i.size) 0)⟩)], [0 ≤ l ∧ l ≤ c ∧ i.bytes * c.toNat ≤ 281474976710656 ∧ c ≤ 9223372036854775807]⟩ : Eff) = eff := by simpa [Rd.run] using h4
  obtain ⟨c1, c2, c3, c4⟩ : 0 ≤ l ∧ l ≤ c ∧ i.bytes * c.toNat ≤ 281474976710656 ∧ c ≤ 9223372036854775807 := hcond.1
  have e1 := (rdv_ok h1 ht).plain rfl
  have e2 := (rdv_ok h3 ht).plain rfl
  have c3' : (i.bytes : Int) * c ≤ 281474976710656 := by
    have e : (c.toNat : Int) = c := Int.toNat_of_nonneg (by omega)
    have : ((i.bytes * c.toNat : Nat) : Int) ≤ 281474976710656 := by omega
    rw [Int.natCast_mul, e] at this
    exact this
  have hrun := run_make (P := P) w t e i z hu hi hz kl kc l c c1 c2 c3' c4
  have hpos : c.toNat * i.size = 0 ∨ 0 < z.cells.size := by
    rw [hsz]
    rcases Nat.eq_zero_or_pos i.size with h | h
    · left; rw [h]; rfl
    · right; exact h
  obtain ⟨m1, m2⟩ := made_zero hchk.1 hpos
  refine value_wp (v := .slice (some ⟨w.heap.size, 0, none⟩) l.toNat c.toNat) (w' := w.alloc (.cells (madeCells z.cells (c.toNat * i.size)) e)) ?_ (hK _ _ (newRow_conc (cs := .ints (List.replicate (c.toNat * i.size) 0)) hc hn ht hm (by omega) m1 ?_ _))
  · simp only [execOp, ho, e1, e2, hrun, Sem.run_bind, Result.andThen_ok, Sem.run_pure]
  · intro k v hv
    simp only [Cs.list, List.getElem?_map] at hv
    have hk : k < c.toNat * i.size := by
      rcases Nat.lt_or_ge k (c.toNat * i.size) with h | h
      · exact h
      · rw [List.getElem?_eq_none (by simpa using h)] at hv; simp at hv
    obtain rfl : Value.int .i64 0 = v := by simpa [hk] using hv
    exact ⟨_, m2 k hk, .lit rfl⟩
end Go.Proofs.Ytnlciknmpjikgaa
