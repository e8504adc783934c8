/-
  The small machine beside the model's: states as lists, regions and code run on them. Written by an AI agent.
-/
import Derived.Test.YtoijfjifaljpaabAbsB
import Derived.Deep.LoopGhost
namespace Go.Proofs.Ytoijfjifaljpaab
open Go.RowKit

/-- The state as lists: the slots, the names. -/
structure St where
  tmps : List Value
  mem : List (Option Blk)
def St.fs (s : St) : FS := { n := s.tmps.length, tmp := fun t => s.tmps.getD t undef, blk := fun n => s.mem.getD n none }
def setMem (m : List (Option Blk)) : List (Nat × Blk) → List (Option Blk)
  | [] => m
  | (k, b) :: r => (setMem m r).set k (some b)
def setTmp (l : List Value) (d : Option Tmp) (v : Value) : List Value :=
  match d with
  | some d => l.set d v
  | none => l
def St.upd (s : St) (dst : Option Tmp) (e : Eff) : St := { tmps := setTmp s.tmps dst e.val, mem := setMem s.mem e.wr }
theorem setMem_length (m : List (Option Blk)) : ∀ l, (setMem m l).length = m.length
  | [] => rfl
  | (k, b) :: r => by simp [setMem, setMem_length m r]
theorem setMem_getD (m : List (Option Blk)) (n : Nat) : ∀ l : List (Nat × Blk), (∀ p ∈ l, p.1 < m.length) → (setMem m l).getD n none = match lookW l n with
    | some b => some b
    | none => m.getD n none
  | [], _ => rfl
  | (k, b) :: r, h => by
    have hk : k < m.length := h (k, b) (List.mem_cons_self ..)
    have ih := setMem_getD m n r fun p hp => h p (List.mem_cons_of_mem _ hp)
    simp only [setMem, lookW]
    by_cases hkn : k = n
    · subst hkn
      simp [setMem_length, hk]
    · rw [if_neg hkn, ← ih]
      simp [hkn]
theorem St.upd_fs {s : St} {dst : Option Tmp} {e : Eff} (h : (e.wr.all fun p => decide (p.1 < s.mem.length)) = true) : (s.upd dst e).fs = s.fs.upd dst e := by
  refine FS.ext' ?_ (fun t => ?_) (fun n => ?_)
  · cases dst <;> simp [St.upd, St.fs, setTmp, FS.upd]
  · cases dst with
    | none => simp [St.upd, St.fs, setTmp, FS.upd]
    | some d =>
      simp only [St.upd, St.fs, setTmp, FS.upd, Option.some.injEq]
      by_cases hd : d = t
      · subst hd
        by_cases hl : d < s.tmps.length
        · simp [hl]
        · simp [hl]
      · simp [hd]
  · simp only [St.upd, St.fs, FS.upd]
    exact setMem_getD s.mem n e.wr fun p hp => by simpa using List.all_eq_true.1 h p hp

/-- One operation after the other: what each did and read, and the state behind them. -/
def stepsOf (A : Nat → Oper → Rd Eff) (ops : Array Oper) (nm : Nat → Nat) : Nat → List Oper → St → Option (List (Eff × List Nat × List Nat) × St)
  | _, [], s => some ([], s)
  | i, o :: rest, s =>
    match (gop A ops (nm i) o).run s.fs with
    | none => none
    | some e =>
      match e.wr.all fun p => decide (p.1 < s.mem.length) with
      | false => none
      | true =>
        match stepsOf A ops nm (i + 1) rest (s.upd o.dst e) with
        | none => none
        | some (l, s') => some ((e, (gop A ops (nm i) o).tmps s.fs, (gop A ops (nm i) o).blks s.fs) :: l, s')
def clashAll (T : List (List Nat)) : Nat → List (Oper × Eff × List Nat × List Nat) → Bool
  | _, [] => true
  | i, (o, e, rt, rb) :: rest => (rest.zipIdx (i + 1)).all (fun q => !clash o.dst q.1.1.dst e q.1.2.1 rt q.1.2.2.1 rb q.1.2.2.2 || (T.getD q.2 []).contains i) && clashAll T (i + 1) rest
def condsOf : List (Eff × List Nat × List Nat) → List Prop
  | [] => []
  | (e, _) :: r => e.conds ++ condsOf r
def countB {α : Type} (f : α → Bool) : List α → Nat
  | [] => 0
  | x :: r => (if f x then 1 else 0) + countB f r
/-- The name of what an operation may make. -/
def nameOf (al : Oper → Bool) (ops : List Oper) (n : Nat) (i : Nat) : Nat :=
  match ops[i]? with
  | some o => (match al o with
    | true => n + countB al (ops.take i)
    | false => n + countB al ops + i)
  | none => n + countB al ops + i
/-- A region run on a state. Names are laid aside for the operations that may make memory. -/
def regionRun (A : Nat → Oper → Rd Eff) (al : Oper → Bool) (draw : Bool) (ops : List Oper) (s : St) : Option (St × List Prop) :=
  match stepsOf A ops.toArray (nameOf al ops s.mem.length) 0 ops { tmps := s.tmps, mem := s.mem ++ List.replicate (countB al ops) none } with
  | none => none
  | some (l, s') =>
    match !draw || (validT ops.toArray (ancOf ops) && clashAll (ancOf ops) 0 (ops.zip l)) with
    | false => none
    | true => some (s', condsOf l)

theorem stepsOf_spec {A : Nat → Oper → Rd Eff} {ops : Array Oper} {nm : Nat → Nat} {s0 : FS} {eff : Nat → Eff} : ∀ (rest : List Oper) (i : Nat) (s s' : St) (l : List (Eff × List Nat × List Nat)), stepsOf A ops nm i rest s = some (l, s') →
    (∀ j o, rest[j]? = some o → ops[i + j]? = some o) → (∀ j x, l[j]? = some x → eff (i + j) = x.1) → s.fs = sAt (dstOf ops) eff s0 (fun _ => true) i →
    l.length = rest.length ∧ s'.fs = sAt (dstOf ops) eff s0 (fun _ => true) (i + rest.length) ∧
    ∀ j o, rest[j]? = some o → ∃ x, l[j]? = some x ∧ (gop A ops (nm (i + j)) o).run (sAt (dstOf ops) eff s0 (fun _ => true) (i + j)) = some x.1 ∧
      x.2.1 = (gop A ops (nm (i + j)) o).tmps (sAt (dstOf ops) eff s0 (fun _ => true) (i + j)) ∧ x.2.2 = (gop A ops (nm (i + j)) o).blks (sAt (dstOf ops) eff s0 (fun _ => true) (i + j))
  | [], i, s, s', l, h, _, _, hs => by
    simp only [stepsOf, Option.some.injEq, Prod.mk.injEq] at h
    obtain ⟨rfl, rfl⟩ := h
    exact ⟨rfl, hs, fun j o h => by simp at h⟩
  | o :: rest, i, s, s', l, h, hr, he, hs => by
    simp only [stepsOf] at h
    split at h
    · cases h
    rename_i e hrun
    split at h
    · cases h
    rename_i hall
    split at h
    · cases h
    rename_i l1 s1 hrest
    simp only [Option.some.injEq, Prod.mk.injEq] at h
    obtain ⟨rfl, rfl⟩ := h
    have h0 : ops[i]? = some o := by simpa using hr 0 o rfl
    have e0 : eff i = e := by simpa using he 0 _ rfl
    have hs1 : (s.upd o.dst e).fs = sAt (dstOf ops) eff s0 (fun _ => true) (i + 1) := by
      rw [St.upd_fs hall, hs]
      show _ = (sAt (dstOf ops) eff s0 (fun _ => true) i).upd (dstOf ops i) (eff i)
      rw [e0]
      simp [dstOf, h0]
    obtain ⟨g1, g2, g3⟩ := stepsOf_spec rest (i + 1) _ _ _ hrest (fun j o' h => by have := hr (j + 1) o' (by simpa using h); simpa [Nat.add_assoc, Nat.add_comm 1 j] using this)
      (fun j x hx => by have := he (j + 1) x (by simpa using hx); rw [← this]; congr 1; omega) hs1
    refine ⟨by simp [g1], by rw [g2]; congr 1; simp; omega, fun j o' hj => ?_⟩
    cases j with
    | zero =>
      obtain rfl : o = o' := by simpa using hj
      exact ⟨_, rfl, by rw [Nat.add_zero, ← hs]; exact hrun, by rw [Nat.add_zero, ← hs], by rw [Nat.add_zero, ← hs]⟩
    | succ j =>
      obtain ⟨x, k1, k2, k3, k4⟩ := g3 j o' (by simpa using hj)
      rw [show i + (j + 1) = i + 1 + j by omega]
      exact ⟨x, by simpa using k1, k2, k3, k4⟩

theorem condsOf_get : ∀ {l : List (Eff × List Nat × List Nat)}, AllP (condsOf l) → ∀ (j : Nat) x, l[j]? = some x → x.1.cond
  | [], _, _, _, h => by simp at h
  | (e, _) :: r, hc, j, x, h => by
    cases j with
    | zero =>
      simp only [List.getElem?_cons_zero, Option.some.injEq] at h
      subst h
      exact hc.append.1
    | succ j => exact condsOf_get hc.append.2 j x (by simpa using h)
theorem clashAll_get {T : List (List Nat)} : ∀ (l : List (Oper × Eff × List Nat × List Nat)) (k : Nat), clashAll T k l = true → ∀ (i j : Nat) x y, i < j → l[i]? = some x → l[j]? = some y →
    clash x.1.dst y.1.dst x.2.1 y.2.1 x.2.2.1 y.2.2.1 x.2.2.2 y.2.2.2 = true → k + i ∈ T.getD (k + j) []
  | [], _, _, _, _, _, _, _, h, _, _ => by simp at h
  | (o, e, rt, rb) :: rest, k, h, i, j, x, y, hij, hx, hy, hc => by
    simp only [clashAll, Bool.and_eq_true] at h
    obtain ⟨h1, h2⟩ := h
    cases i with
    | zero =>
      simp only [List.getElem?_cons_zero, Option.some.injEq] at hx
      subst hx
      obtain ⟨j, rfl⟩ : ∃ j', j = j' + 1 := ⟨j - 1, by omega⟩
      have hm : (y, k + 1 + j) ∈ rest.zipIdx (k + 1) := by
        rw [List.mem_iff_getElem?]
        exact ⟨j, by rw [List.getElem?_zipIdx]; simp at hy; simp [hy]⟩
      have := List.all_eq_true.1 h1 _ hm
      simp only [hc, Bool.not_true, Bool.false_or] at this
      rw [show k + (j + 1) = k + 1 + j by omega]
      simpa using this
    | succ i =>
      obtain ⟨j, rfl⟩ : ∃ j', j = j' + 1 := ⟨j - 1, by omega⟩
      have := clashAll_get rest (k + 1) h2 i j x y (by omega) (by simpa using hx) (by simpa using hy) hc
      rw [show k + (i + 1) = k + 1 + i by omega, show k + (j + 1) = k + 1 + j by omega]
      exact this

theorem St.pad_fs (s : St) (n : Nat) : St.fs { tmps := s.tmps, mem := s.mem ++ List.replicate n none } = s.fs := by
  refine FS.ext' rfl (fun t => rfl) (fun m => ?_)
  simp only [St.fs]
  simp only [List.getD_eq_getElem?_getD]
  by_cases hm : m < s.mem.length
  · rw [List.getElem?_append_left hm]
  · rw [List.getElem?_append_right (by omega), List.getElem?_eq_none (l := s.mem) (by omega), List.getElem?_replicate]
    split <;> rfl

theorem region_run {P : Program} {A : Nat → Oper → Rd Eff} (hA : Sound P A) (hm : P.follows .mixedOrders = true) {al : Oper → Bool} {draw : Bool} {ops : List Oper} {s s' : St} {C : List Prop} (h : regionRun A al draw ops s = some (s', C)) (hC : AllP C)
    {w0 : Start} {a : Act} {w : World} (hc : Conc w0 s.fs a w) {Q : Exit → Act → World → Prop} {id : Nat} (hQ : ∀ a' w', Conc w0 s'.fs a' w' → Q .normal a' w') : (Code.region id ops.toArray draw).wpIn (fz w0.ro) 3 P Q a w := by
  unfold regionRun at h
  split at h
  · cases h
  rename_i l s1 hst
  split at h
  · cases h
  rename_i hchk
  simp only [Option.some.injEq, Prod.mk.injEq] at h
  obtain ⟨rfl, rfl⟩ := h
  have hspec := stepsOf_spec (s0 := s.fs) (eff := fun i => ((l[i]?).map (·.1)).getD skipE) ops 0 _ _ _ hst (fun j o h => by simpa using h) (fun j x hx => by simp [hx]) (by rw [St.pad_fs]; rfl)
  obtain ⟨h1, h2, h3⟩ := hspec
  have hrun : ∀ i o, ops.toArray[i]? = some o → (gop A ops.toArray (nameOf al ops s.mem.length i) o).run (sAt (dstOf ops.toArray) (fun i => ((l[i]?).map (·.1)).getD skipE) s.fs (fun _ => true) i) = some (((l[i]?).map (·.1)).getD skipE) ∧ (((l[i]?).map (·.1)).getD skipE).cond := by
    intro i o ho
    obtain ⟨x, k1, k2, _, _⟩ := h3 i o (by simpa using ho)
    rw [Nat.zero_add] at k2
    rw [k2, k1]
    exact ⟨rfl, condsOf_get hC i x k1⟩
  have hend : ∀ a' w', Conc w0 (sAt (dstOf ops.toArray) (fun i => ((l[i]?).map (·.1)).getD skipE) s.fs (fun _ => true) ops.toArray.size) a' w' → Q .normal a' w' := by
    intro a' w' hcc
    refine hQ a' w' ?_
    rw [h2, Nat.zero_add]
    simpa using hcc
  cases draw with
  | false => exact region_text hA (nm := nameOf al ops s.mem.length) hrun hc hend
  | true =>
    simp only [Bool.not_true, Bool.false_or, Bool.and_eq_true] at hchk
    refine region_any hA hm hchk.1 (nm := nameOf al ops s.mem.length) hrun (fun i j oi oj hij hoi hoj hcl => ?_) hc hend
    obtain ⟨x, k1, _, k3, k4⟩ := h3 i oi (by simpa using hoi)
    obtain ⟨y, m1, _, m3, m4⟩ := h3 j oj (by simpa using hoj)
    rw [Nat.zero_add] at k3 k4 m3 m4
    have := clashAll_get (ops.zip l) 0 hchk.2 i j (oi, x) (oj, y) hij (by rw [List.getElem?_zip_eq_some]; exact ⟨by simpa using hoi, k1⟩) (by rw [List.getElem?_zip_eq_some]; exact ⟨by simpa using hoj, m1⟩)
      (by simp only [k3, k4, m3, m4]; simpa [k1, m1] using hcl)
    simpa using this

def evalO (s : St) : Operand → Value
  | .tmp t => s.tmps.getD t undef
  | .const v => v
  | _ => undef
end Go.Proofs.Ytoijfjifaljpaab
