/-
  The small machine: loops over functions. Written by an AI agent.
-/
import Derived.Test.YtieibbdfdepmbaaLst
namespace Go.Proofs.Ytieibbdfdepmbaa
set_option linter.all false
open Go.RowKit

theorem room_fz (ro : Option Nat) (n : Nat) : (fz ro).room n := fun _ h => by cases h
theorem wpIn_n {ro : Option Nat} {n n' : Nat} {P : Program} {c : Code} {Q : Exit → Act → World → Prop} {a : Act} {w : World} (h : c.wpIn (fz ro) n P Q a w) : c.wpIn (fz ro) n' P Q a w := fun b k cs h1 h2 _ => h b k cs h1 h2 (room_fz _ _)

/-- Names that are looked at alone. -/
def vwK : BK → BK
  | .dead => .dead
  | _ => .view
def vwB (t : Bool) (b : Option Blk) : Option Blk :=
  match b, t with
  | some b, true => some ⟨vwK b.kind, b.cs⟩
  | b, _ => b
def toView (l : List Nat) : Nat → List (Option Blk) → List (Option Blk)
  | _, [] => []
  | k, b :: r => vwB (l.contains k) b :: toView l (k + 1) r
def viewS (l : List Nat) (s : St) : St := { tmps := s.tmps, mem := toView l 0 s.mem }
theorem toView_get (l : List Nat) : ∀ (r : List (Option Blk)) (k i : Nat), (toView l k r).getD i none = vwB (l.contains (k + i)) (r.getD i none)
  | [], k, i => by simp [toView, vwB]
  | b :: r, k, i => by
    cases i with
    | zero => simp [toView]
    | succ i =>
      have := toView_get l r (k + 1) i
      rw [show k + 1 + i = k + (i + 1) by omega] at this
      simpa [toView] using this
theorem toView_length (l : List Nat) : ∀ (r : List (Option Blk)) (k : Nat), (toView l k r).length = r.length
  | [], _ => rfl
  | _ :: r, k => by simp [toView, toView_length l r]
theorem viewS_blk (l : List Nat) (s : St) (n : Nat) : (viewS l s).fs.blk n = vwB (l.contains n) (s.fs.blk n) := by
  have := toView_get l s.mem 0 n
  rw [Nat.zero_add] at this
  exact this
theorem vwB_some {t : Bool} {b : Option Blk} {c : Blk} (h : vwB t b = some c) : ∃ b', b = some b' ∧ ((c = b' ∧ t = false) ∨ (c = ⟨vwK b'.kind, b'.cs⟩ ∧ t = true)) := by
  unfold vwB at h
  split at h
  · exact ⟨_, rfl, .inr ⟨by simpa using h.symm, rfl⟩⟩
  · rename_i hn
    cases b with
    | none => cases h
    | some b' =>
      cases t with
      | true => exact absurd rfl (hn b' rfl)
      | false => exact ⟨b', rfl, .inl ⟨by simpa using h.symm, rfl⟩⟩
theorem vwK_own (k : BK) (cs : Cs) : (Blk.own ⟨vwK k, cs⟩) = false := by cases k <;> rfl
theorem vwK_live {k : BK} {cs cs' : Cs} (h : Blk.live ⟨vwK k, cs⟩ = true) : Blk.live ⟨k, cs'⟩ = true := by cases k <;> first | rfl | exact h
theorem BlkOk.view {ρ : Nat → Option Pl} {B : Nat → Prop} {w : World} {n : Nat} {b : Blk} (h : BlkOk ρ B w n b) : BlkOk ρ B w n ⟨vwK b.kind, b.cs⟩ := by
  obtain ⟨kd, cs⟩ := b
  have cell : ∀ (g k : Nat) (arr : Array Value) (e z v), w.heap[g]? = some (.cells arr e z) → arr[k]? = some v → w.cell? ⟨g, 0 + k, none⟩ = some v := fun g k arr e z v h1 h2 => by
    rw [Nat.zero_add]
    simp only [World.cell?, h1]
    exact h2
  cases kd with
  | dead => trivial
  | view => exact h
  | box =>
    obtain ⟨g, h1, h2, cs', e, h3, h4, h5⟩ := h
    refine .inr ⟨g, 0, none, h1, .inl rfl, heap_lt h3, fun k v hv => ?_⟩
    obtain ⟨v', k1, k2⟩ := h5 k v hv
    exact ⟨v', cell _ _ _ _ _ _ h3 k1, k2⟩
  | row e sz =>
    rcases h with ⟨p, h1, h2, h3⟩ | ⟨g, cap, h1, h2, cs', h3, h4, h5⟩
    · exact .inl ⟨p, h1, h2, 0, h3⟩
    · refine .inr ⟨g, 0, some cap, h1, .inl rfl, heap_lt h3, fun k v hv => ?_⟩
      obtain ⟨v', k1, k2⟩ := h5 k v hv
      exact ⟨v', cell _ _ _ _ _ _ h3 k1, k2⟩
theorem view_conc {l : List Nat} {s : St} {w0 : Start} {a : Act} {w : World} (hc : Conc w0 s.fs a w) : Conc w0 (viewS l s).fs a w := by
  obtain ⟨c1, c2, c3, ρ, ht, hm⟩ := hc
  refine ⟨c1, c2, c3, ρ, ht, hm.ext, fun n hn => ?_, fun n b hn => ?_, fun n n' b b' p p' hn ho hn' hl hne => ?_⟩
  · rw [viewS_blk] at hn
    refine hm.fresh n ?_
    rcases hb : s.fs.blk n with _ | b
    · rfl
    · rw [hb] at hn
      cases hc : l.contains n <;> rw [hc] at hn <;> cases hn
  · rw [viewS_blk] at hn
    obtain ⟨b', h1, ⟨rfl, _⟩ | ⟨rfl, _⟩⟩ := vwB_some hn
    · exact hm.ok n _ h1
    · exact (hm.ok n _ h1).view
  · rw [viewS_blk] at hn hn'
    obtain ⟨c, h1, h2⟩ := vwB_some hn
    obtain ⟨c', h1', h2'⟩ := vwB_some hn'
    have hc : b = c := by
      rcases h2 with ⟨h2, _⟩ | ⟨rfl, _⟩
      · exact h2
      · rw [vwK_own] at ho; cases ho
    have hl' : c'.live = true := by
      rcases h2' with ⟨rfl, _⟩ | ⟨rfl, _⟩
      · exact hl
      · exact vwK_live hl
    exact hm.sep n n' c c' p p' h1 (by rw [← hc]; exact ho) h1' hl' hne

/-- A piece of code that only goes straight on, from one state to another. -/
def DetA (P : Program) (c : Code) (s s' : St) : Prop := ∀ w0 a w, Conc w0 s.fs a w → c.wpIn (fz w0.ro) 3 P (fun e a w => e = .normal ∧ Conc w0 s'.fs a w) a w
/-- Regions one after the other. -/
def asT (P : Program) (J : TabJ) (callM : CallM) : Code → (St → Tree) → St → Tree
  | .skip, k, s => k s
  | .region _ ops draw, k, s => match draw with
    | true => .bad
    | false => seqT P J callM ops.toList s.mem.length (fun s' => forceS s' k) 0 ops.toList { tmps := s.tmps, mem := s.mem ++ List.replicate (countB alStd ops.toList) none }
  | .seq x y, k, s => asT P J callM x (asT P J callM y k) s
  | _, _, _ => .bad
theorem asT_det {P : Program} {J : TabJ} {callM : CallM} (hJ : GSound P J.g) (hcallM : CallMOk P callM) {F : Ex → St → Prop} {H : Value → List (Option Blk) → Prop} : ∀ (c : Code) (k : St → Tree) (s : St), (asT P J callM c k s).ok F H → ∃ s', (k s').ok F H ∧ DetA P c s s' := by
  intro c
  induction c with
  | skip => intro k s h; exact ⟨s, h, fun w0 a w hc => wpIn_skip ⟨rfl, hc⟩⟩
  | region id ops draw =>
    intro k s h
    cases draw with
    | true => exact h.elim
    | false =>
      obtain ⟨s', h1, h2⟩ := seqT_ok hJ hcallM ops.toList 0 _ (fun j => by simp) h
      rw [forceS_eq] at h1
      refine ⟨s', h1, fun w0 a w hc => wpIn_region ?_⟩
      have := h2 w0 a w (fun e a w => e = Exit.normal ∧ Conc w0 s'.fs a w) (by rw [St.pad_fs]; exact hc) fun a' w' hcc => ⟨rfl, hcc⟩
      rw [List.range_eq_range']
      simpa using this
  | seq x y ihx ihy =>
    intro k s h
    obtain ⟨s1, h1, h2⟩ := ihx _ s h
    obtain ⟨s2, h3, h4⟩ := ihy _ s1 h1
    refine ⟨s2, h3, fun w0 a w hc => wpIn_seq (wpIn_mono (h2 w0 a w hc) ?_)⟩
    rintro e a' w' ⟨rfl, hcc⟩
    exact h4 w0 a' w' hcc
  | _ => intro k s h; exact h.elim

/-- Slots set, one after the other. -/
def putL : List (Nat × Value) → List Value → List Value
  | [], t => t
  | (p, v) :: r, t => putL r (t.set p v)
theorem putL_ok {ρ : Nat → Option Pl} : ∀ (l : List (Nat × Value)) (T : List Value) (t : Array Value), T.length = t.size → (∀ j, VR ρ (T.getD j undef) (t.getD j undef)) → (∀ q ∈ l, plainV q.2 = true) →
    (putL l T).length = (l.foldl (fun t q => t.setIfInBounds q.1 q.2) t).size ∧ (∀ j, VR ρ ((putL l T).getD j undef) ((l.foldl (fun t q => t.setIfInBounds q.1 q.2) t).getD j undef))
  | [], T, t, h1, h2, _ => ⟨h1, h2⟩
  | (p, v) :: r, T, t, h1, h2, h3 => by
    refine putL_ok r (T.set p v) (t.setIfInBounds p v) (by simpa using h1) (fun j => ?_) fun q hq => h3 q (List.mem_cons_of_mem _ hq)
    by_cases hj : p = j
    · subst hj
      by_cases hlt : p < T.length
      · have e1 : (T.set p v).getD p undef = v := by simp [hlt]
        have e2 : (t.setIfInBounds p v).getD p undef = v := by
          have : p < t.size := by omega
          simp [this]
        rw [e1, e2]
        exact .lit (h3 _ (List.mem_cons_self ..))
      · have e1 : (T.set p v).getD p undef = T.getD p undef := by simp [List.getElem?_eq_none (by simpa using Nat.le_of_not_lt hlt : (T.set p v).length ≤ p), List.getElem?_eq_none (Nat.le_of_not_lt hlt)]
        have e2 : (t.setIfInBounds p v).getD p undef = t.getD p undef := by
          have : ¬ p < t.size := by omega
          simp [this]
        rw [e1, e2]
        exact h2 p
    · have e1 : (T.set p v).getD j undef = T.getD j undef := by simp [hj]
      have e2 : (t.setIfInBounds p v).getD j undef = t.getD j undef := by simp [Array.getElem?_setIfInBounds_ne hj]
      rw [e1, e2]
      exact h2 j

/-- What holds no cells. -/
def nonC (w : World) (k : Nat) : Prop := ∃ o, w.heap[k]? = some o ∧ o.isCells = false
/-- Where names lie. -/
def gsOf (s : FS) (ρ : Nat → Option Pl) (Kn : List Nat) (g : Nat) : Prop := ∃ n ∈ Kn, ∃ b p, s.blk n = some b ∧ b.live = true ∧ ρ n = some p ∧ ¬ nilPl p ∧ p.1 = g
def KpG (G : Nat → Prop) (W W' : World) : Prop := W.heap.size ≤ W'.heap.size ∧ ∀ g, G g → W'.heap[g]? = W.heap[g]?
/-- The contract of an iterator: its elements are enc 0, .., enc (len - 1), in this order; a round may say 'no more'. -/
def Iter (P : Program) (gf : FuncId) (lb : Array Value) (len : Nat) (enc : Nat → List Value) (G : Nat → Prop) (w : World) : Prop :=
  ∀ (l : Nat) (J : Nat → World → Prop) (Jx : World → Prop) (W : World), (∀ g, G g → W.heap[g]? = w.heap[g]?) → w.heap.size ≤ W.heap.size →
    (∀ i W1 W2, J i W1 → W1.grownBy W2 none → J i W2) → (∀ W1 W2, Jx W1 → W1.grownBy W2 none → Jx W2) →
    (∀ i W1, J i W1 → i < len → YieldAt Fence.wide 2 P l (enc i).toArray W1 fun e W2 => (e = .returned (.bool true) ∧ J (i + 1) W2 ∧ KpG G W1 W2) ∨ (e = .returned (.bool false) ∧ Jx W2)) →
    J 0 W → CallsIn Fence.wide 2 P gf (#[.func (.yield l) #[] #[]] ++ lb) W fun e W2 => (∃ v, e = .returned v) ∧ (J len W2 ∨ Jx W2)

theorem BelowK.less {K K' : Nat → Prop} {w w' : World} (h : BelowK K w w') (hk : ∀ k, K' k → K k) : BelowK K' w w' := ⟨h.os, h.tape, h.output, h.size, fun k hk' => h.block k (hk k hk')⟩
theorem BelowK.putObj {K : Nat → Prop} {w w' : World} (h : BelowK K w w') {l : Nat} (o : Obj) (hl : ¬ K l) : BelowK K w (w'.putObj l o) := h.trans ⟨rfl, rfl, rfl, by simp, fun k hk => World.putObj_heap_other (fun e => hl (by rw [← e]; exact hk))⟩
theorem BelowK.grown {K : Nat → Prop} {w w' w'' : World} (h : BelowK K w w') (hK : ∀ k, K k → k < w.heap.size) (hg : w'.grownBy w'' none) : BelowK K w w'' := h.trans ⟨hg.os, hg.tape, hg.output, hg.size, fun k hk => hg.block k (Nat.lt_of_lt_of_le (hK k hk) h.size) (by simp)⟩
theorem Conc.grown {w0 : Start} {s : FS} {a : Act} {w w' : World} (h : Conc w0 s a w) (hg : w.grownBy w' none) : Conc w0 s a w' := by
  obtain ⟨c1, c2, c3, ρ, ht, hm⟩ := h
  exact ⟨c1, c2, c3.grown w0.kpl hg, ρ, ht, hm.grown hg.size fun k o ho _ => hg.block k (heap_lt ho) (by simp)⟩
theorem Conc.putObj {w0 : Start} {s : FS} {a : Act} {w : World} (h : Conc w0 s a w) {l : Nat} {o : Obj} (o' : Obj) (hl : ¬ w0.kp l) (ho : w.heap[l]? = some o) (hc : o.isCells = false) : Conc w0 s a (w.putObj l o') := by
  obtain ⟨c1, c2, c3, ρ, ht, hm⟩ := h
  refine ⟨c1, c2, c3.putObj o' hl, ρ, ht, hm.grown (by simp) fun k o2 ho2 hc2 => World.putObj_heap_other fun e => ?_⟩
  rw [e, ho] at ho2
  cases ho2
  rw [hc] at hc2
  cases hc2
/-- The jump by which a round leaves. -/
def exCode : Ex → Code
  | .normal => .skip
  | .exit id => .exit id
  | .ret => .ret
/-- What a round must come to. -/
def RoundOk (P : Program) (assign body : Code) (pv : Nat → List (Nat × Value)) (St_of : Nat → St) (Good : Nat → Prop) (re : Ex) (rs : St) (N M : Nat) (keep : Ex → List Nat) (i : Nat) : Prop :=
  ∃ s1 e' s', DetA P assign { tmps := putL (pv i) (St_of i).tmps, mem := (St_of i).mem } s1 ∧ Det P body s1 e' s' ∧ match e' with
    | .normal => Good (i + 1) ∧ ∃ π, WS N π (cutS M (keep .normal) { tmps := (St_of i).tmps, mem := s'.mem }) (St_of (i + 1))
    | e => e = re ∧ ∃ π, WS N π (cutS M (keep e) { tmps := (St_of i).tmps, mem := s'.mem }) rs
section
variable {P : Program} {ps : List Nat} {assign body : Code} {enc : Nat → List Value} {St_of : Nat → St} {Good : Nat → Prop} {re : Ex} {rs : St} {N M len : Nat} {keep : Ex → List Nat}
/-- The record of the loop. -/
def recOf (fn : FuncId) (tmps : Array Value) (ps : List Nat) (assign body : Code) (D : Nat) (st : LoopState) (pe : Option Code) : Loop := { state := st, pending := pe, fn := fn, tmps := tmps, params := ps.toArray, assign := assign, body := body, defers := D }
/-- One round of a loop over a function. -/
theorem range_round (hps : ∀ i, (enc i).length = ps.length) (hpl : ∀ i, (enc i).all plainV = true) (hround : ∀ i, Good i → i < len → RoundOk P assign body (fun i => ps.zip (enc i)) St_of Good re rs N M keep i)
    {w2 : Start} {a : Act} {fn : FuncId} {D l : Nat} {X : World → Prop} (hX : ∀ W W', X W → (∀ k, nonC W k → k ≠ l → W'.heap[k]? = W.heap[k]?) → X W') (hl : w2.heap.size ≤ l) {G : Nat → Prop} (hG : ∀ g, G g → w2.kp g)
    (hdom : ∀ n, N ≤ n → w2.ρ0 n = none) (hdomM : ∀ n, M ≤ n → w2.ρ0 n = none)
    {i : Nat} {W : World} (hg : Good i) (hlt : i < len) (hc : Conc w2 (St_of i).fs a W) (hL : W.heap[l]? = some (.loop (recOf fn a.tmps ps assign body D .ready none))) (hXW : X W) :
    YieldAt Fence.wide 2 P l (enc i).toArray W fun e W2 =>
      (e = .returned (.bool true) ∧ (Good (i + 1) ∧ Conc w2 (St_of (i + 1)).fs a W2 ∧ W2.heap[l]? = some (.loop (recOf fn a.tmps ps assign body D .ready none)) ∧ X W2) ∧ KpG G W W2) ∨
      (e = .returned (.bool false) ∧ ∃ e', e' ≠ .normal ∧ e' = re ∧ Conc w2 rs.fs a W2 ∧ W2.heap[l]? = some (.loop (recOf fn a.tmps ps assign body D .done (some (exCode e')))) ∧ X W2) := by
  obtain ⟨s1, e', s', hA, hB, hend⟩ := hround i hg hlt
  have hy := run_yield (P := P) (args := (enc i).toArray) hL (by simp [recOf, hps i])
  refine ⟨fn, _, assign, body, hy, roundIn_of_wpIn trivial ?_⟩
  obtain ⟨c1, c2, c3, ρ, ht, hm⟩ := hc
  have hkl : ¬ w2.kp l := fun h => by have := w2.kpl l h; omega
  have hlW : l < W.heap.size := heap_lt hL
  -- the assignment
  let wa : Start := ⟨W, ρ, fun k => k < W.heap.size ∧ (w2.kp k ∨ nonC W k), fun k h => h.1, [], some l⟩
  have hma : MemOk ρ ρ wa.kp (St_of i).fs.blk W := hm.rebase.other fun n b p cs e z hn ho hp hnp hh hk => by
    rcases hk.2 with h | ⟨o, h1, h2⟩
    · exact h
    · rw [hh] at h1
      cases h1
      cases h2
  obtain ⟨q1, q2⟩ := putL_ok (ρ := ρ) (ps.zip (enc i)) (St_of i).tmps a.tmps c2.symm (fun j => ht j) (fun q hq => by
    have := List.all_eq_true.1 (hpl i) q.2 (List.of_mem_zip (show (q.1, q.2) ∈ ps.zip (enc i) from hq)).2
    exact this)
  have efold : ((recOf fn a.tmps ps assign body D .ready none).params.zip (enc i).toArray).foldl (fun tmps (t, v) => tmps.setIfInBounds t v) a.tmps = (ps.zip (enc i)).foldl (fun t q => t.setIfInBounds q.1 q.2) a.tmps := by
    simp [recOf, ← Array.foldl_toList]
  have hca : Conc wa (St.fs { tmps := putL (ps.zip (enc i)) (St_of i).tmps, mem := (St_of i).mem }) { tmps := ((recOf fn a.tmps ps assign body D .ready none).params.zip (enc i).toArray).foldl (fun tmps (t, v) => tmps.setIfInBounds t v) a.tmps, defers := [] } W := by
    rw [efold]
    exact ⟨rfl, q1.symm, BelowK.refl _ _, ρ, q2, hma⟩
  refine wpIn_n (wpIn_mono (hA wa _ W hca) ?_)
  rintro e a1 W1 ⟨rfl, d1, d2, d3, ρ1, dt, dm⟩
  have hkl1 : wa.kp l := ⟨hlW, .inr ⟨_, hL, rfl⟩⟩
  have hL1 : W1.heap[l]? = some (.loop (recOf fn a.tmps ps assign body D .ready none)) := (d3.block l hkl1).trans hL
  refine ⟨_, run_beginRound hL1 rfl, ?_⟩
  have hl1 : l < W1.heap.size := heap_lt hL1
  generalize hW2 : W1.putObj l (.loop { recOf fn a.tmps ps assign body D .ready none with state := .busy }) = W2
  have hL2 : W2.heap[l]? = some (.loop (recOf fn a.tmps ps assign body D .busy none)) := by rw [← hW2]; exact World.putObj_heap_same hl1
  have hoth : ∀ k, k ≠ l → W2.heap[k]? = W1.heap[k]? := fun k hk => by rw [← hW2]; exact World.putObj_heap_other hk
  have hsz2 : W2.heap.size = W1.heap.size := by rw [← hW2]; simp
  -- the body
  let wb : Start := ⟨W2, ρ1, fun k => k < W2.heap.size ∧ (w2.kp k ∨ nonC W2 k), fun k h => h.1, [], some l⟩
  have dm2 : MemOk wa.ρ0 ρ1 wa.kp s1.fs.blk W2 := dm.grown (by omega) fun k o ho hc => hoth k fun e => by
    rw [e, hL1] at ho
    cases ho
    cases hc
  have hmb : MemOk ρ1 ρ1 wb.kp s1.fs.blk W2 := dm2.rebase.other fun n b p cs e z hn ho hp hnp hh hk => by
    rcases hk.2 with h | ⟨o, h1, h2⟩
    · refine ⟨Nat.lt_of_lt_of_le (w2.kpl _ h) ?_, .inl h⟩
      exact Nat.le_trans c3.size (Nat.le_refl _)
    · rw [hh] at h1
      cases h1
      cases h2
  have hcb : Conc wb s1.fs a1 W2 := ⟨d1, d2, BelowK.refl _ _, ρ1, dt, hmb⟩
  have hrec : RecOk wb := fun k hk => by
    obtain rfl : l = k := by simpa [wb] using hk
    exact ⟨⟨by show l < W2.heap.size; omega, .inr ⟨_, hL2, rfl⟩⟩, _, hL2⟩
  have hext1 : Ext ρ ρ1 := dm.ext
  refine wpIn_n (wpIn_mono (hB wb a1 W2 (Con.of hrec hcb)) ?_)
  rintro e a3 W3 ⟨rfl, _, w3, hl3, f1, f2, f3, ρ3, ft, fm⟩
  -- back to the loop's own start
  have hb3 : BelowK wb.kp W2 W3 := ⟨f3.os.trans hl3.bel.os, f3.tape.trans hl3.bel.tape, f3.output.trans hl3.bel.output, Nat.le_trans hl3.bel.size f3.size, fun k hk => (f3.block k (hl3.kp k hk)).trans (hl3.bel.block k hk)⟩
  have hL3 : W3.heap[l]? = some (.loop (recOf fn a.tmps ps assign body D .busy none)) := (hb3.block l (hrec l rfl).1).trans hL2
  have hext3 : Ext ρ1 ρ3 := by have := fm.ext; rwa [hl3.ρ0] at this
  have kp1 : ∀ k, w2.kp k → wa.kp k := fun k hk => ⟨Nat.lt_of_lt_of_le (w2.kpl k hk) c3.size, .inl hk⟩
  have sz1 : W.heap.size ≤ W2.heap.size := by rw [hsz2]; exact d3.size
  have kp2 : ∀ k, w2.kp k → wb.kp k := fun k hk => ⟨Nat.lt_of_lt_of_le (w2.kpl k hk) (Nat.le_trans c3.size sz1), .inl hk⟩
  have keep3 : ∀ k, w2.kp k → W3.heap[k]? = W.heap[k]? := fun k hk =>
    (hb3.block k (kp2 k hk)).trans ((hoth k fun e => hkl (by rw [← e]; exact hk)).trans (d3.block k (kp1 k hk)))
  have hbel : BelowK w2.kp w2.toWorld W3 := c3.trans ⟨hb3.os.trans ((by rw [← hW2]; rfl : W2.os = W1.os).trans d3.os), hb3.tape.trans ((by rw [← hW2]; rfl : W2.tape = W1.tape).trans d3.tape), hb3.output.trans ((by rw [← hW2]; rfl : W2.output = W1.output).trans d3.output), Nat.le_trans sz1 hb3.size, keep3⟩
  have hback : Conc w2 (St.fs { tmps := (St_of i).tmps, mem := s'.mem }) a W3 :=
    ⟨c1, c2, hbel, ρ3, fun t => ((ht t).ext hext1).ext hext3, MemOk.less ⟨hm.ext.trans (hext1.trans hext3), fm.fresh, fm.ok, fm.sep⟩ fun k hk => hl3.kp k (kp2 k hk)⟩
  have hX3 : X W3 := hX W W3 hXW fun k hk hne => by
    obtain ⟨o, h1, h2⟩ := hk
    have e1 : W1.heap[k]? = W.heap[k]? := d3.block k ⟨heap_lt h1, .inr ⟨o, h1, h2⟩⟩
    have e2 : W2.heap[k]? = W.heap[k]? := (hoth k hne).trans e1
    exact (hb3.block k ⟨heap_lt (e2.trans h1), .inr ⟨o, e2.trans h1, h2⟩⟩).trans e2
  have fin : ∀ (pe : Option Code) (st : LoopState), X (W3.putObj l (.loop (recOf fn a.tmps ps assign body D st pe))) := fun pe st => hX W3 _ hX3 fun k _ hne => World.putObj_heap_other hne
  have hl3' : l < W3.heap.size := heap_lt hL3
  cases e' with
  | normal =>
    obtain ⟨g1, π, g2⟩ := hend
    have hn := weak_conc g2 hdom (cut_conc hdomM hback)
    refine ⟨_, _, run_endRound none hL3, .inl ⟨rfl, ⟨g1, ?_, ?_, ?_⟩, ?_⟩⟩
    · exact hn.putObj _ hkl hL3 rfl
    · exact World.putObj_heap_same hl3'
    · exact fin none .ready
    · exact ⟨by rw [World.putObj_size]; exact Nat.le_trans sz1 hb3.size, fun g hgg => (World.putObj_heap_other (fun e => hkl (by rw [← e]; exact hG g hgg))).trans (keep3 g (hG g hgg))⟩
  | exit id =>
    obtain ⟨g1, π, g2⟩ := hend
    have hn := weak_conc g2 hdom (cut_conc hdomM hback)
    exact ⟨_, _, run_endRound (some (.exit id)) hL3, .inr ⟨rfl, .exit id, by simp, g1, hn.putObj _ hkl hL3 rfl, World.putObj_heap_same hl3', fin (some (.exit id)) .done⟩⟩
  | ret =>
    obtain ⟨g1, π, g2⟩ := hend
    have hn := weak_conc g2 hdom (cut_conc hdomM hback)
    exact ⟨_, _, run_endRound (some .ret) hL3, .inr ⟨rfl, .ret, by simp, g1, hn.putObj _ hkl hL3 rfl, World.putObj_heap_same hl3', fin (some .ret) .done⟩⟩
set_option maxHeartbeats 1000000 in
/-- A loop over a function whose iterator has its contract, from its head to its end. -/
theorem range_det (hps : ∀ i, (enc i).length = ps.length) (hpl : ∀ i, (enc i).all plainV = true) (hround : ∀ i, Good i → i < len → RoundOk P assign body (fun i => ps.zip (enc i)) St_of Good re rs N M keep i)
    {gt : Tmp} {Kn : List Nat} {gf : FuncId} {cap : List Value} (hent : enters P gf) (hT : (St_of 0).tmps.getD gt undef = .func (.func gf) #[] cap.toArray)
    (hK : ∀ n ∈ Kn, ∀ b, (St_of 0).fs.blk n = some b → b.own = false)
    (hiter : ∀ (ρ0 ρ : Nat → Option Pl) (B : Nat → Prop) (w : World) (lb : Array Value), VRs ρ cap lb → MemOk ρ0 ρ B (St_of 0).fs.blk w → Iter P gf lb len enc (gsOf (St_of 0).fs ρ Kn) w)
    {kf : List Nat} (hfin : Good len → re = .normal ∧ ∃ π, WS N π (cutS M kf (St_of len)) rs) {s : St} {π : List (Option Nat)} (hN : s.mem.length = N) (hNM : N ≤ M) (hs : WS N π (viewS Kn s) (St_of 0)) (hg0 : Good 0) :
    Det P (.rangeFunc (.tmp gt) ps.toArray assign body) s re rs := by
  rintro w0 a w ⟨hr, w1, hlat, hc⟩
  have hr1 := hr.later hlat
  have hρ : ∀ n, N ≤ n → w1.ρ0 n = none := fun n hn => conc_dom hc n (by omega)
  have hρM : ∀ n, M ≤ n → w1.ρ0 n = none := fun n hn => hρ n (by omega)
  have c0 : Conc w1 (St_of 0).fs a w := weak_conc hs hρ (view_conc hc)
  obtain ⟨d1, d2, d3, ρ, ht, hm⟩ := c0
  have hGl : ∀ g, gsOf (St_of 0).fs ρ Kn g → g < w.heap.size := by
    rintro g ⟨n, hn, b, p, h1, h2, h3, h4, rfl⟩
    exact ((hm.ok n b h1).real h2 h3 h4).1
  have hlb0 := ht gt
  rw [show (St_of 0).fs.tmp gt = .func (.func gf) #[] cap.toArray from hT] at hlb0
  obtain ⟨f', lb, hgv, hf', hlb⟩ := hlb0.func_inv
  have hf0 : f' = #[] := Array.eq_empty_of_size_eq_zero (by simpa using hf'.1.symm)
  rw [hf0] at hgv
  have hit := hiter w1.ρ0 ρ w1.kp w lb (by simpa using hlb) hm
  generalize hGd : gsOf (St_of 0).fs ρ Kn = G at hGl hit
  let w2 : Start := ⟨w, w1.ρ0, fun k => k < w.heap.size ∧ (w1.kp k ∨ G k ∨ nonC w k), fun k h => h.1, w1.df, w1.ro⟩
  have l12 : Later w1 w2 := ⟨rfl, rfl, fun k hk => ⟨Nat.lt_of_lt_of_le (w1.kpl k hk) d3.size, .inl hk⟩, d3, [], rfl, List.nodup_nil, fun D hD => by cases hD⟩
  have hm2 : MemOk w1.ρ0 ρ w2.kp (St_of 0).fs.blk w := hm.other fun n b p cs e z hn ho hp hnp hh hk => by
    rcases hk.2 with h | h | ⟨o, h1, h2⟩
    · exact h
    · exfalso
      rw [← hGd] at h
      obtain ⟨n', hn', b', p', h1, h2, h3, h4, h5⟩ := h
      have hne : n ≠ n' := fun e => by
        subst e
        have := hK n hn' b hn
        rw [ho] at this
        cases this
      exact hm.sep n n' b b' p p' hn ho h1 h2 hne hp h3 hnp h4 h5.symm
    · rw [hh] at h1
      cases h1
      cases h2
  have c2 : Conc w2 (St_of 0).fs a w := ⟨d1, d2, BelowK.refl _ _, ρ, ht, hm2⟩
  have hkl : ∀ l, w.heap.size ≤ l → ¬ w2.kp l := fun l hl h => by have := h.1; omega
  -- behind the loop
  have final : ∀ (mk : List Nat) (W : World), Conc w2 rs.fs a W → mk.Nodup → (∀ D ∈ mk, w.heap.size ≤ D ∧ W.heap[D]? = some (.deferred (some []))) → Con w1 rs.fs { a with defers := mk.map mkDf ++ a.defers } W := by
    rintro mk W ⟨e1, e2, e3, ρ', et, em⟩ hnd hmk
    let w3 : Start := ⟨W, w1.ρ0, fun k => k < W.heap.size ∧ (w2.kp k ∨ k ∈ mk), fun k h => h.1, mk.map mkDf ++ w1.df, w1.ro⟩
    have l23 : Later w2 w3 := ⟨rfl, rfl, fun k hk => ⟨Nat.lt_of_lt_of_le (w2.kpl k hk) e3.size, .inl hk⟩, e3, mk, rfl, hnd, fun D hD => ⟨hkl D (hmk D hD).1, (hmk D hD).1, ⟨heap_lt (hmk D hD).2, .inr hD⟩, (hmk D hD).2⟩⟩
    refine ⟨hr1, w3, l12.trans l23, by show _ = mk.map mkDf ++ w1.df; rw [← show a.defers = w1.df from e1], e2, BelowK.refl _ _, ρ', et, em.other fun n b p cs e z hn ho hp hnp hh hk => ?_⟩
    rcases hk.2 with h | h
    · exact h
    · rw [(hmk _ h).2] at hh
      cases hh
  -- the iterator's call
  have calls : ∀ (mk : List Nat) (l D : Nat) (fn : FuncId) (W1 : World), w.heap.size ≤ l → w.grownBy W1 none → W1.heap[l]? = some (.loop (recOf fn a.tmps ps assign body D .ready none)) → mk.Nodup → (∀ D ∈ mk, w.heap.size ≤ D ∧ D ≠ l ∧ W1.heap[D]? = some (.deferred (some []))) →
      CallsIn (fz w1.ro) 2 P gf (#[.func (.yield l) #[] #[]] ++ lb) W1 (rangePost (fz w1.ro) 3 P l (fun e a w => e = re.out ∧ Con w1 rs.fs a w) { a with defers := mk.map mkDf ++ a.defers }) := by
    intro mk l D fn W1 hl hW hL hnd hmk
    have hXk : ∀ W W' : World, (∀ D ∈ mk, W.heap[D]? = some (.deferred (some []))) → (∀ k, nonC W k → k ≠ l → W'.heap[k]? = W.heap[k]?) → ∀ D ∈ mk, W'.heap[D]? = some (.deferred (some [])) := fun W W' h hk D' hD' => (hk D' ⟨_, h D' hD', rfl⟩ (hmk D' hD').2.1).trans (h D' hD')
    have base := hit l (fun i W => Good i ∧ Conc w2 (St_of i).fs a W ∧ W.heap[l]? = some (.loop (recOf fn a.tmps ps assign body D .ready none)) ∧ ∀ D ∈ mk, W.heap[D]? = some (.deferred (some [])))
      (fun W => ∃ e', e' ≠ .normal ∧ e' = re ∧ Conc w2 rs.fs a W ∧ W.heap[l]? = some (.loop (recOf fn a.tmps ps assign body D .done (some (exCode e')))) ∧ ∀ D ∈ mk, W.heap[D]? = some (.deferred (some []))) W1
      (fun g hg => hW.block g (hGl g hg) (by simp)) hW.size
      (fun i W W' ⟨g, c, hl', hx⟩ hgr => ⟨g, c.grown hgr, (hgr.block l (heap_lt hl') (by simp)).trans hl', hXk W W' hx fun k ⟨o, hk, _⟩ _ => hgr.block k (heap_lt hk) (by simp)⟩)
      (fun W W' ⟨e', q1, q2, c, hl', hx⟩ hgr => ⟨e', q1, q2, c.grown hgr, (hgr.block l (heap_lt hl') (by simp)).trans hl', hXk W W' hx fun k ⟨o, hk, _⟩ _ => hgr.block k (heap_lt hk) (by simp)⟩)
      (fun i W ⟨g, c, hl', hx⟩ hlt => range_round (w2 := w2) (G := G) (X := fun W => ∀ D ∈ mk, W.heap[D]? = some (.deferred (some []))) hps hpl hround hXk hl (fun g hg => ⟨hGl g hg, .inr (.inl hg)⟩) hρ hρM g hlt c hl' hx)
      ⟨hg0, c2.grown hW, hL, fun D hD => (hmk D hD).2.2⟩
    have base' : CallsIn (fz w1.ro) 2 P gf (#[.func (.yield l) #[] #[]] ++ lb) W1 _ := base
    refine base'.mono ?_
    rintro e W2 ⟨⟨v, rfl⟩, ⟨g, c, hl', hx⟩ | ⟨e', hne, he, c, hl', hx⟩⟩
    · obtain ⟨hre, π', g2⟩ := hfin g
      refine ⟨none, _, run_endLoop hl' (by simp [recOf]), by rw [hre]; rfl, final mk _ ((weak_conc (w0 := w2) g2 hρ (cut_conc (w0 := w2) hρM c)).putObj _ (hkl l hl) hl' rfl) hnd fun D' hD' => ⟨(hmk D' hD').1, (World.putObj_heap_other (hmk D' hD').2.1).trans (hx D' hD')⟩⟩
    · have fin2 := final mk _ (c.putObj (.loop { recOf fn a.tmps ps assign body D .done (some (exCode e')) with state := .exhausted }) (hkl l hl) hl' rfl) hnd fun D' hD' => ⟨(hmk D' hD').1, (World.putObj_heap_other (hmk D' hD').2.1).trans (hx D' hD')⟩
      refine ⟨some (exCode e'), _, run_endLoop hl' (by simp [recOf]), ?_⟩
      cases e' with
      | normal => exact absurd rfl hne
      | exit id => exact wpIn_exit ⟨by rw [← he]; rfl, fin2⟩
      | ret => exact wpIn_ret ⟨by rw [← he]; rfl, fin2⟩
  have hg : a.eval (.tmp gt) = .func (.func gf) #[] lb := hgv
  have main : (Code.rangeFunc (.tmp gt) ps.toArray assign body).wpIn (fz w1.ro) 3 P (fun e a w => e = re.out ∧ Con w1 rs.fs a w) a w := by
    refine wpIn_rangeFunc fun fn hfn => ?_
    have hres : ∀ (l : Nat) (W : World), (resolve a.eval (rangeCall (.tmp gt) l) 0).run P W = .ok { target := .fn (.func gf) lb, args := #[.func (.yield l) #[] #[]] } W := fun l W => by
      simp only [resolve, hg]
      simp [go_sem]
    have hinv : ∀ (l : Nat) (W : World), (invoke (.fn (.func gf) lb) #[.func (.yield l) #[] #[]]).run P W = .ok (.enter gf (#[.func (.yield l) #[] #[]] ++ lb)) W := fun l W => by
      simp only [invoke]
      exact hent _ _
    have close : ∀ (mk : List Nat) (l D : Nat) (W1 : World), (Instr.enterLoop fn a.tmps ps.toArray assign body w1.ro).run P w = .ok (l, mk.map mkDf) W1 →
        CallsIn (fz w1.ro) 2 P gf (#[.func (.yield l) #[] #[]] ++ lb) W1 (rangePost (fz w1.ro) 3 P l (fun e a w => e = re.out ∧ Con w1 rs.fs a w) { a with defers := mk.map mkDf ++ a.defers }) →
        ∃ (l : Nat) (mark : List Deferred) (w₁ : World) (d : Deferred) (w₁' : World) (f : FuncId) (args : Array Value) (w₂ : World),
          (Instr.enterLoop fn a.tmps ps.toArray assign body (fz w1.ro).round).run P w = .ok (l, mark) w₁ ∧
          (resolve a.eval (rangeCall (.tmp gt) l) 0).run P w₁ = .ok d w₁' ∧
          (∀ f', Target.leads P w₁' d.target d.args = some f' → (fz w1.ro).fn f') ∧
          (invoke d.target d.args).run P w₁' = .ok (.enter f args) w₂ ∧
          ((fz w1.ro).depth.isSome = true → 1 ≤ 3) ∧
          CallsIn (fz w1.ro) (3 - 1) P f args w₂ (rangePost (fz w1.ro) 3 P l (fun e a w => e = re.out ∧ Con w1 rs.fs a w) { a with defers := mark ++ a.defers }) :=
      fun mk l D W1 h1 h2 => ⟨l, mk.map mkDf, W1, _, W1, gf, _, W1, h1, hres l W1, fun _ _ => trivial, hinv l W1, fun h => (by cases h), h2⟩
    rcases hro : w1.ro with _ | l₀
    · have hgr : w.grownBy ((w.alloc (.deferred (some []))).alloc (.loop (recOf fn a.tmps ps assign body w.heap.size .ready none))) none :=
        ⟨rfl, rfl, rfl, by simp; omega, fun k hk _ => (Below.heap_alloc _ _ k (by simp; omega)).trans (Below.heap_alloc _ _ k hk)⟩
      have hL := World.alloc_heap_new (w.alloc (.deferred (some []))) (.loop (recOf fn a.tmps ps assign body w.heap.size .ready none))
      rw [World.size_alloc] at hL
      have hD : ((w.alloc (.deferred (some []))).alloc (.loop (recOf fn a.tmps ps assign body w.heap.size .ready none))).heap[w.heap.size]? = some (.deferred (some [])) :=
        (Below.heap_alloc _ _ _ (by simp)).trans (World.alloc_heap_new w _)
      have hent1 : (Instr.enterLoop fn a.tmps ps.toArray assign body w1.ro).run P w = .ok (w.heap.size + 1, [w.heap.size].map mkDf) ((w.alloc (.deferred (some []))).alloc (.loop (recOf fn a.tmps ps assign body w.heap.size .ready none))) := by
        rw [hro]
        exact run_enterLoop_outer _ _ _ _ _
      generalize (w.alloc (.deferred (some []))).alloc (.loop (recOf fn a.tmps ps assign body w.heap.size .ready none)) = W1 at hgr hL hD hent1
      have := close [w.heap.size] (w.heap.size + 1) w.heap.size W1 hent1 (calls [w.heap.size] (w.heap.size + 1) w.heap.size fn W1 (by omega) hgr hL (by simp) (by
        intro D hD'
        obtain rfl : D = w.heap.size := by simpa using hD'
        exact ⟨Nat.le_refl _, by omega, hD⟩))
      rwa [hro] at this
    · obtain ⟨hk, r₀, hr₀⟩ := hr1 l₀ hro
      have hr₀ : w.heap[l₀]? = some (.loop r₀) := (d3.block l₀ hk).trans hr₀
      have hgr : w.grownBy (w.alloc (.loop (recOf fn a.tmps ps assign body r₀.defers .ready none))) none := World.grownBy_alloc w _ none
      have hL := World.alloc_heap_new w (.loop (recOf fn a.tmps ps assign body r₀.defers .ready none))
      have hent1 : (Instr.enterLoop fn a.tmps ps.toArray assign body w1.ro).run P w = .ok (w.heap.size, ([] : List Nat).map mkDf) (w.alloc (.loop (recOf fn a.tmps ps assign body r₀.defers .ready none))) := by
        rw [hro]
        exact run_enterLoop_inner hr₀ _ _ _ _ _
      generalize w.alloc (.loop (recOf fn a.tmps ps assign body r₀.defers .ready none)) = W1 at hgr hL hent1
      have := close [] w.heap.size r₀.defers W1 hent1 (calls [] w.heap.size r₀.defers fn W1 (Nat.le_refl _) hgr hL List.nodup_nil (fun D hD => by cases hD))
      rwa [hro] at this
  have := wpIn_mono main fun e a w ⟨he, hc⟩ => (⟨he, hc.later hr hlat⟩ : e = re.out ∧ Con w0 rs.fs a w)
  rwa [hlat.ro] at this
end
/-- A round on a state: what is set, the assignment, the body; the slots are as they were behind it. -/
def bodyR (P : Program) (E : Env) (m n : Nat) (lt : LT) (rt : RT) (asg bod : Code) (pv : List (Nat × Value)) (keep : Ex → List Nat) (M : Nat) (s : St) : Tree :=
  asT P E.J (runM P E m n) asg (fun s1 => runN P E.R E.J (asK P E (runM P E m n)) (runM P E m n) lt rt m bod 0 (fun e s' => .leaf e (cutS M (keep e) { tmps := s.tmps, mem := s'.mem })) s1) { tmps := putL pv s.tmps, mem := s.mem }
/-- The end of a round. -/
def RoundEndR (N : Nat) (St_of : Nat → St) (Good : Nat → Prop) (re : Ex) (rs : St) (i : Nat) (e : Ex) (s : St) : Prop :=
  match e with
  | .normal => Good (i + 1) ∧ ∃ π, WS N π s (St_of (i + 1))
  | e => e = re ∧ ∃ π, WS N π s rs
theorem bodyR_ok {P : Program} (hm : P.follows .mixedOrders = true) {E : Env} (hE : EnvOk P E) {m n : Nat} {lt : LT} {rt : RT} {asg bod : Code} {pv : Nat → List (Nat × Value)} {St_of : Nat → St} {Good : Nat → Prop} {re : Ex} {rs : St} {N M i : Nat} {keep : Ex → List Nat}
    (hL : LoopsGood P lt 0 bod) (hR : RangesGood P rt bod) (h : (bodyR P E m n lt rt asg bod (pv i) keep M (St_of i)).ok (RoundEndR N St_of Good re rs i) (fun _ _ => False)) : RoundOk P asg bod pv St_of Good re rs N M keep i := by
  obtain ⟨s1, h1, h2⟩ := asT_det hE.J (runM_ok hm hE m n) asg _ _ h
  obtain ⟨e', s', h3, h4⟩ := runN_det hE.R hE.J (asK_ok hE (runM_ok hm hE m n)) (runM_ok hm hE m n) hm bod 0 hL hR _ _ _ s1 h1
  refine ⟨s1, e', s', h2, h4, ?_⟩
  unfold Tree.ok RoundEndR at h3
  cases e' <;> exact h3
/-- An entry for a loop over a function is sound. -/
def RangeE (P : Program) (e : St → (Ex → St → Tree) → Option Tree) (c : Code) : Prop := ∀ s k t F H, e s k = some t → t.ok F H → ∃ e' s', (k e' s').ok F H ∧ Det P c s e' s'
def slotR : Code → Nat
  | .rangeFunc f _ _ _ => slotOf f
  | _ => 0
/-- Code with one such loop. -/
def rt1 (t : Nat) (e : St → (Ex → St → Tree) → Option Tree) : RT := fun j s k => match Nat.beq j t with
  | true => e s k
  | false => none
theorem rt1_good {P : Program} {e : St → (Ex → St → Tree) → Option Tree} {t : Nat} {c : Code} (hs : (rangesOf c).map slotR = [t]) (h : RangeE P e ((rangesOf c).getD 0 .skip)) : RangesGood P (rt1 t e) c := by
  intro d hd f ps x y hdd s k tr F H hlt ht
  unfold rt1 at hlt
  split at hlt
  rotate_left
  · cases hlt
  have hlen : (rangesOf c).length = 1 := by have := congrArg List.length hs; simpa using this
  obtain ⟨r, hr⟩ := List.length_eq_one_iff.1 hlen
  rw [hr] at hd h
  obtain rfl : d = r := by simpa using hd
  exact h s k tr F H hlt ht
/-- Do the operations from m on come behind all others, one after the other? -/
def lastOk (m : Nat) (T : List (List Nat)) (n : Nat) : Bool := (List.range n).all fun j => Nat.blt j m || (List.range j).all fun i => (T.getD j []).contains i
/-- The first m operations of a drawn region, run. -/
def thenT (P : Program) (m : Nat) (ops : List Oper) (s : St) (k : St → Tree) : Tree :=
  match stepsOf (aop P failG) ops.toArray (nameOf alAll ops s.mem.length) 0 (ops.take m) { tmps := s.tmps, mem := s.mem ++ List.replicate (countB alAll ops) none } with
  | none => .bad
  | some (l, s') => match validT ops.toArray (ancOf ops) && clashAll (ancOf ops) 0 ((ops.take m).zip l) && lastOk m (ancOf ops) ops.length && Nat.ble m ops.length with
    | false => .bad
    | true => needs (condsOf l) (k s')
theorem thenT_ok {P : Program} (hm : P.follows .mixedOrders = true) {m : Nat} {ops : List Oper} {s : St} {k : St → Tree} {F : Ex → St → Prop} {H : Value → List (Option Blk) → Prop} (h : (thenT P m ops s k).ok F H) :
    ∃ s', (k s').ok F H ∧ ∀ (w0 : Start) (a : Act) (w : World) (Q : Exit → Act → World → Prop) (id : Nat), Conc w0 s.fs a w → (∀ a' w', Conc w0 s'.fs a' w' → wpOpsIn (fz w0.ro) 3 P ops.toArray Q (List.range' m (ops.length - m)) a' w') → (Code.region id ops.toArray true).wpIn (fz w0.ro) 3 P Q a w := by
  unfold thenT at h
  split at h
  · exact h.elim
  rename_i l s1 hst
  split at h
  · exact h.elim
  rename_i hchk
  simp only [Bool.and_eq_true] at hchk
  obtain ⟨⟨⟨hv, hcl⟩, hla⟩, hml⟩ := hchk
  have hml := Nat.le_of_ble_eq_true hml
  obtain ⟨hC, hk⟩ := needs_ok h
  refine ⟨s1, hk, fun w0 a w Q id hc hQ => ?_⟩
  have htl : (ops.take m).length = m := by simp [hml]
  obtain ⟨h1, h2, h3⟩ := stepsOf_spec (s0 := s.fs) (eff := fun i => ((l[i]?).map (·.1)).getD skipE) (ops.take m) 0 _ _ _ hst (fun j o h => by
    rw [List.getElem?_take] at h
    split at h
    · simpa using h
    · cases h) (fun j x hx => by simp [hx]) (by rw [St.pad_fs]; rfl)
  have hget : ∀ j o, j < m → ops.toArray[j]? = some o → (ops.take m)[j]? = some o := fun j o hj ho => by
    rw [List.getElem?_take, if_pos hj]
    simpa using ho
  have hrun : ∀ i o, i < m → ops.toArray[i]? = some o → (gop (aop P failG) ops.toArray (nameOf alAll ops s.mem.length i) o).run (sAt (dstOf ops.toArray) (fun i => ((l[i]?).map (·.1)).getD skipE) s.fs (fun _ => true) i) = some (((l[i]?).map (·.1)).getD skipE) ∧ (((l[i]?).map (·.1)).getD skipE).cond := by
    intro i o hi ho
    obtain ⟨x, k1, k2, _, _⟩ := h3 i o (hget i o hi ho)
    rw [Nat.zero_add] at k2
    rw [k2, k1]
    exact ⟨rfl, condsOf_get hC i x k1⟩
  refine region_then (aop_sound (failG_sound P)) hm hv (m := m) (by simpa using hml) (nm := nameOf alAll ops s.mem.length) hrun (fun i j oi oj hij hj hoi hoj hcl' => ?_) (fun j hj1 hj2 i hi => ?_) hc (fun a' w' hcc => ?_)
  · obtain ⟨x, k1, _, k3, k4⟩ := h3 i oi (hget i oi (by omega) hoi)
    obtain ⟨y, m1, _, m3, m4⟩ := h3 j oj (hget j oj hj hoj)
    rw [Nat.zero_add] at k3 k4 m3 m4
    have := clashAll_get ((ops.take m).zip l) 0 hcl i j (oi, x) (oj, y) hij (by rw [List.getElem?_zip_eq_some]; exact ⟨hget i oi (by omega) hoi, k1⟩) (by rw [List.getElem?_zip_eq_some]; exact ⟨hget j oj hj hoj, m1⟩)
      (by simp only [k3, k4, m3, m4]; simpa [k1, m1] using hcl')
    simpa using this
  · have := List.all_eq_true.1 hla j (by simpa using hj2)
    have hb : Nat.blt j m = false := by
      rcases hb : Nat.blt j m with _ | _
      · rfl
      · have := Nat.le_of_ble_eq_true hb
        omega
    rw [hb, Bool.false_or] at this
    have := List.all_eq_true.1 this i (by simpa using hi)
    simpa using this
  · have := hQ a' w' (by rw [h2, Nat.zero_add, htl]; exact hcc)
    simpa using this
/-- The parts of such a loop. -/
def asgOf : Code → Code
  | .rangeFunc _ _ a _ => a
  | _ => .skip
def bodOf : Code → Code
  | .rangeFunc _ _ _ b => b
  | _ => .skip
end Go.Proofs.Ytieibbdfdepmbaa
