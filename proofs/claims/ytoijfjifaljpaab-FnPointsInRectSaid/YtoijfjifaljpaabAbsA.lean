/-
  A small machine beside the model's: slots and blocks by name. This file: reads that are told, effects, and that a region whose operations do not get in each other's way may be run in the order of the text. Written by an AI agent.
-/
import Derived.Orders
import Derived.Below
import Derived.OrdersIn
namespace Go.Proofs.Ytoijfjifaljpaab
open Go.RowKit

/-- What kind of block a name stands for: one that the call owns whole, a row that it owns (of elements of that type and size), cells that can be read, none any more. -/
inductive BK where
  | box
  | row (elem : TypeId) (size : Nat)
  | view
  | dead
/-- Known cells: values, or ints, or bytes. -/
inductive Cs where
  | vals (l : List Value)
  | ints (xs : List Int)
  | bytes (bs : List Int)
def Cs.list : Cs → List Value
  | .vals l => l
  | .ints xs => xs.map (Value.int .i64)
  | .bytes bs => bs.map (Value.int .u8)
/-- How many cells are known. -/
def Cs.size : Cs → Nat
  | .vals l => l.length
  | .ints xs => xs.length
  | .bytes bs => bs.length
theorem Cs.size_is (c : Cs) : c.size = c.list.length := by
  cases c <;> simp [Cs.size, Cs.list]
/-- What a name stands for. -/
structure Blk where
  kind : BK
  cs : Cs
/-- The cells that are known. -/
def Blk.cells (b : Blk) : List Value := b.cs.list

/-- A reading of slots and names that ends in an answer, or in none. -/
inductive Rd (α : Type) where
  | ret (a : α)
  | fail
  | tmp (t : Nat) (k : Value → Rd α)
  | blk (n : Nat) (k : Option Blk → Rd α)
namespace Rd
def bind {α β : Type} : Rd α → (α → Rd β) → Rd β
  | .ret a, f => f a
  | .fail, _ => .fail
  | .tmp t k, f => .tmp t fun v => (k v).bind f
  | .blk n k, f => .blk n fun v => (k v).bind f
instance : Monad Rd where
  pure := Rd.ret
  bind := Rd.bind
end Rd

/-- The abstract state. -/
structure FS where
  n : Nat
  tmp : Nat → Value
  blk : Nat → Option Blk

theorem FS.ext' {s s' : FS} (h : s.n = s'.n) (h1 : ∀ t, s.tmp t = s'.tmp t) (h2 : ∀ n, s.blk n = s'.blk n) : s = s' := by
  cases s; cases s'
  simp at h
  subst h
  congr
  · exact funext h1
  · exact funext h2

def Rd.run {α : Type} (s : FS) : Rd α → Option α
  | .ret a => some a
  | .fail => none
  | .tmp t k => (k (s.tmp t)).run s
  | .blk n k => (k (s.blk n)).run s
/-- The slots that are read. -/
def Rd.tmps {α : Type} (s : FS) : Rd α → List Nat
  | .ret _ => []
  | .fail => []
  | .tmp t k => t :: (k (s.tmp t)).tmps s
  | .blk n k => (k (s.blk n)).tmps s
/-- The names that are read. -/
def Rd.blks {α : Type} (s : FS) : Rd α → List Nat
  | .ret _ => []
  | .fail => []
  | .tmp t k => (k (s.tmp t)).blks s
  | .blk n k => n :: (k (s.blk n)).blks s
theorem Rd.run_congr {α : Type} {s s' : FS} : ∀ (r : Rd α), (∀ t ∈ r.tmps s, s.tmp t = s'.tmp t) → (∀ n ∈ r.blks s, s.blk n = s'.blk n) → r.run s' = r.run s
  | .ret _, _, _ => rfl
  | .fail, _, _ => rfl
  | .tmp t k, h1, h2 => by
    have e := h1 t (by simp [Rd.tmps])
    simp only [Rd.run, ← e]
    exact Rd.run_congr (k (s.tmp t)) (fun x hx => h1 x (by simp [Rd.tmps, hx])) (fun x hx => h2 x (by simpa [Rd.blks] using hx))
  | .blk n k, h1, h2 => by
    have e := h2 n (by simp [Rd.blks])
    simp only [Rd.run, ← e]
    exact Rd.run_congr (k (s.blk n)) (fun x hx => h1 x (by simpa [Rd.tmps] using hx)) (fun x hx => h2 x (by simp [Rd.blks, hx]))
theorem Rd.run_bind {α β : Type} (s : FS) : ∀ (r : Rd α) (f : α → Rd β), (r.bind f).run s = (r.run s).bind fun a => (f a).run s
  | .ret _, _ => rfl
  | .fail, _ => rfl
  | .tmp t k, f => by simp only [Rd.bind, Rd.run]; exact Rd.run_bind s (k (s.tmp t)) f
  | .blk n k, f => by simp only [Rd.bind, Rd.run]; exact Rd.run_bind s (k (s.blk n)) f

/-- What an operation does: the value for its slot, new contents of names, and what must hold for it to end well. -/
structure Eff where
  val : Value
  wr : List (Nat × Blk)
  conds : List Prop
def AllP : List Prop → Prop
  | [] => True
  | p :: r => p ∧ AllP r
theorem AllP.append : ∀ {l r : List Prop}, AllP (l ++ r) → AllP l ∧ AllP r
  | [], _, h => ⟨trivial, h⟩
  | _ :: _, _, h => ⟨⟨h.1, (AllP.append h.2).1⟩, (AllP.append h.2).2⟩
def Eff.cond (e : Eff) : Prop := AllP e.conds

def lookW : List (Nat × Blk) → Nat → Option Blk
  | [], _ => none
  | (k, b) :: r, n => if k = n then some b else lookW r n
theorem lookW_none : ∀ {l : List (Nat × Blk)} {n : Nat}, n ∉ l.map (·.1) → lookW l n = none
  | [], _, _ => rfl
  | (k, b) :: r, n, h => by
    simp only [List.map_cons, List.mem_cons, not_or] at h
    simp only [lookW]
    rw [if_neg (fun e => h.1 e.symm)]
    exact lookW_none h.2

def FS.upd (s : FS) (dst : Option Tmp) (e : Eff) : FS where
  n := s.n
  tmp := fun t => if dst = some t ∧ t < s.n then e.val else s.tmp t
  blk := fun m => match lookW e.wr m with
    | some b => some b
    | none => s.blk m

theorem FS.upd_tmp_ne {s : FS} {dst : Option Tmp} {e : Eff} {t : Nat} (h : dst ≠ some t) : (s.upd dst e).tmp t = s.tmp t := by
  simp [FS.upd, h]
theorem FS.upd_blk_ne {s : FS} {dst : Option Tmp} {e : Eff} {m : Nat} (h : m ∉ e.wr.map (·.1)) : (s.upd dst e).blk m = s.blk m := by
  simp only [FS.upd, lookW_none h]
theorem FS.upd_comm {s : FS} {d d' : Option Tmp} {e e' : Eff} (h : ∀ t, d = some t → d' ≠ some t) (hw : ∀ m ∈ e.wr.map (·.1), m ∉ e'.wr.map (·.1)) :
    (s.upd d e).upd d' e' = (s.upd d' e').upd d e := by
  refine FS.ext' rfl (fun t => ?_) (fun m => ?_)
  · by_cases h1 : d = some t
    · have h2 := h t h1
      rw [FS.upd_tmp_ne h2]
      simp only [FS.upd, h1, true_and]
      by_cases ht : t < s.n
      · simp [ht]
      · simp [ht, h2]
    · rw [FS.upd_tmp_ne (s := s.upd d' e') h1]
      simp only [FS.upd, h1, false_and, if_false]
  · by_cases hm : m ∈ e.wr.map (·.1)
    · have h2 := hw m hm
      rw [FS.upd_blk_ne h2]
      simp only [FS.upd, lookW_none h2]
    · rw [FS.upd_blk_ne (s := s.upd d' e') hm]
      simp only [FS.upd, lookW_none hm]

section region
variable (dst : Nat → Option Tmp) (eff : Nat → Eff) (s0 : FS)
/-- The state when, of the first m operations, those of D have been run. -/
def sAt (D : Nat → Bool) : Nat → FS
  | 0 => s0
  | j + 1 => if D j then (sAt D j).upd (dst j) (eff j) else sAt D j
variable {dst eff s0}
theorem sAt_n (D : Nat → Bool) : ∀ m, (sAt dst eff s0 D m).n = s0.n
  | 0 => rfl
  | m + 1 => by
    unfold sAt
    split
    · exact sAt_n D m
    · exact sAt_n D m
theorem sAt_tmp {D D' : Nat → Bool} {t : Nat} : ∀ m, (∀ j, j < m → dst j = some t → D j = D' j) → (sAt dst eff s0 D m).tmp t = (sAt dst eff s0 D' m).tmp t
  | 0, _ => rfl
  | m + 1, h => by
    have ih := sAt_tmp (D := D) (D' := D') m fun j hj hd => h j (by omega) hd
    unfold sAt
    by_cases hd : dst m = some t
    · rw [← h m (by omega) hd]
      split
      · simp only [FS.upd, hd, true_and, sAt_n]
        split
        · rfl
        · exact ih
      · exact ih
    · have e1 : ∀ D : Nat → Bool, (if D m then (sAt dst eff s0 D m).upd (dst m) (eff m) else sAt dst eff s0 D m).tmp t = (sAt dst eff s0 D m).tmp t := by
        intro D
        split
        · exact FS.upd_tmp_ne hd
        · rfl
      rw [e1, e1]
      exact ih
theorem sAt_blk {D D' : Nat → Bool} {n : Nat} : ∀ m, (∀ j, j < m → n ∈ (eff j).wr.map (·.1) → D j = D' j) → (sAt dst eff s0 D m).blk n = (sAt dst eff s0 D' m).blk n
  | 0, _ => rfl
  | m + 1, h => by
    have ih := sAt_blk (D := D) (D' := D') m fun j hj hd => h j (by omega) hd
    unfold sAt
    by_cases hd : n ∈ (eff m).wr.map (·.1)
    · rw [← h m (by omega) hd]
      split
      · simp only [FS.upd]
        split
        · rfl
        · exact ih
      · exact ih
    · have e1 : ∀ D : Nat → Bool, (if D m then (sAt dst eff s0 D m).upd (dst m) (eff m) else sAt dst eff s0 D m).blk n = (sAt dst eff s0 D m).blk n := by
        intro D
        split
        · exact FS.upd_blk_ne hd
        · rfl
      rw [e1, e1]
      exact ih
theorem sAt_same {D D' : Nat → Bool} : ∀ m, (∀ j, j < m → D j = D' j) → sAt dst eff s0 D m = sAt dst eff s0 D' m
  | 0, _ => rfl
  | m + 1, h => by
    unfold sAt
    rw [h m (by omega), sAt_same m fun j hj => h j (by omega)]
/-- One more operation has been run, which no later one that has been run gets in the way of. -/
theorem sAt_add {D D' : Nat → Bool} {i : Nat} (hi : D i = false) (hD' : ∀ j, D' j = (D j || j == i)) (hc : ∀ j, i < j → D j = true → (∀ t, dst i = some t → dst j ≠ some t) ∧ ∀ m ∈ (eff i).wr.map (·.1), m ∉ (eff j).wr.map (·.1)) :
    ∀ k, sAt dst eff s0 D' (i + 1 + k) = (sAt dst eff s0 D (i + 1 + k)).upd (dst i) (eff i)
  | 0 => by
    have e1 : D' i = true := by rw [hD']; simp
    have e2 : sAt dst eff s0 D' i = sAt dst eff s0 D i := sAt_same i fun j hj => by
      rw [hD']
      have : (j == i) = false := by simp; omega
      simp [this]
    show (if D' i then (sAt dst eff s0 D' i).upd (dst i) (eff i) else sAt dst eff s0 D' i) = (if D i then (sAt dst eff s0 D i).upd (dst i) (eff i) else sAt dst eff s0 D i).upd (dst i) (eff i)
    rw [e1, hi, e2]
    rfl
  | k + 1 => by
    have ih := sAt_add hi hD' hc k
    have e1 : D' (i + 1 + k) = D (i + 1 + k) := by
      rw [hD']
      have : (i + 1 + k == i) = false := by simp; omega
      simp [this]
    show (if D' (i + 1 + k) then (sAt dst eff s0 D' (i + 1 + k)).upd (dst (i + 1 + k)) (eff (i + 1 + k)) else sAt dst eff s0 D' (i + 1 + k)) = (if D (i + 1 + k) then (sAt dst eff s0 D (i + 1 + k)).upd (dst (i + 1 + k)) (eff (i + 1 + k)) else sAt dst eff s0 D (i + 1 + k)).upd (dst i) (eff i)
    rw [e1, ih]
    rcases hd : D (i + 1 + k) with _ | _
    · rfl
    · obtain ⟨h1, h2⟩ := hc (i + 1 + k) (by omega) hd
      exact FS.upd_comm h1 h2
end region

/-- The operations that are sure to have been run ahead: by the edges, each to an earlier one. -/
def ancOf (ops : List Oper) : List (List Nat)  :=
  ops.foldl (fun acc o => acc ++ [o.after.toList.foldl (fun l e => if Region.binds .any e && decide (e.on < acc.length) then l ++ (e.on :: acc.getD e.on []).filter (fun k => !l.contains k) else l) []]) []

section
variable {F : Fence} {n : Nat} {P : Program} {ops : Array Oper} {Q : Exit → Act → World → Prop}
/-- An assertion of what has been run, kept by every operation that may come next, carries over a drawn region. -/
theorem wpAny_inv {md : Region.Mode} (I : Array Bool → Act → World → Prop)
    (hend : ∀ l a w, I l a w → Region.ready md ops l = [] → Q .normal a w)
    (hstep : ∀ l a w i, I l a w → i ∈ Region.ready md ops l → wpOpIn F n P ops Q i (I (l.setIfInBounds i true)) a w) :
    ∀ (fuel : Nat) (l : Array Bool) (a : Act) (w : World), I l a w → l.toList.count false ≤ fuel → wpAnyIn F n P md ops Q fuel l a w := by
  intro fuel
  induction fuel with
  | zero =>
    intro l a w h hf
    have hr : Region.ready md ops l = [] := by
      rcases hl : Region.ready md ops l with _ | ⟨i, r⟩
      · rfl
      · exfalso
        have hi : i ∈ Region.ready md ops l := by rw [hl]; exact List.mem_cons_self ..
        have h0 := (mem_ready.1 hi).1
        have hlt : i < l.size := by
          rcases Nat.lt_or_ge i l.size with h' | h'
          · exact h'
          · simp [Array.getElem?_eq_none h'] at h0
        have hv : l[i] = false := by simpa [hlt] using h0
        have hm : false ∈ l.toList := by rw [← hv]; exact Array.getElem_mem_toList hlt
        have := List.count_pos_iff.2 hm
        omega
    exact ⟨hr, hend l a w h hr⟩
  | succ fuel ih =>
    intro l a w h hf
    refine ⟨fun hr => hend l a w h hr, fun i hi => ?_⟩
    refine wpOpIn_mono (fun a' w' h' => ih _ _ _ h' ?_) (hstep l a w i h hi)
    have h0 := (mem_ready.1 hi).1
    have hlt : i < l.size := by
      rcases Nat.lt_or_ge i l.size with h' | h'
      · exact h'
      · simp [Array.getElem?_eq_none h'] at h0
    have hv : l[i] = false := by simpa [hlt] using h0
    have key : ∀ (xs : List Bool) (i : Nat) (hi : i < xs.length), xs[i] = false → (xs.set i true).count false + 1 = xs.count false := by
      intro xs
      induction xs with
      | nil => intro i hi; simp at hi
      | cons x xs ihx =>
        intro i hi hx
        cases i with
        | zero => simp at hx; subst hx; simp
        | succ i =>
          have := ihx i (by simpa using hi) (by simpa using hx)
          simp only [List.set_cons_succ, List.count_cons]
          omega
    have := key l.toList i (by simpa using hlt) (by simpa using hv)
    simp only [Array.toList_setIfInBounds]
    omega
end
end Go.Proofs.Ytoijfjifaljpaab
