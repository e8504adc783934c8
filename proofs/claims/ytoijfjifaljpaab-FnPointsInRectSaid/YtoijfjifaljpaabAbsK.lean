/-
  The small machine: weaker states, loops. Written by an AI agent.
-/
import Derived.Test.YtoijfjifaljpaabAbsH
import Derived.RangeFuncNested
import Derived.RangeFuncLeaves
import Derived.Deep.LoopGhost
namespace Go.Proofs.Ytoijfjifaljpaab
open Go.RowKit

def Ex.out : Ex → Exit
  | .normal => .normal
  | .exit id => .exit id
  | .ret => .ret
theorem evalO_is {s : St} {c : Operand} {t : Bool} {w0 : Start} {a : Act} {w : World} (hc : Conc w0 s.fs a w) (ht : evalO s c = .bool t) : a.eval c = .bool t := by
  obtain ⟨h1, h2, h3, ρ, h4, h5⟩ := hc
  cases c with
  | tmp n =>
    have := (h4 n).plain (by
      show plainV (s.tmps.getD n undef) = true
      rw [show s.tmps.getD n undef = .bool t from ht]; rfl)
    rw [eval_tmp, this]
    exact ht
  | const v => exact ht
  | global g => cases ht
  | func f => cases ht
/-- Other blocks are to be kept: none of them a block that a name owns. -/
theorem BlkOk.less {ρ : Nat → Option Pl} {B B' : Nat → Prop} {w : World} {n : Nat} {b : Blk} (h : BlkOk ρ B w n b) (hk : b.own = true → ∀ p cs e z, ρ n = some p → ¬ nilPl p → w.heap[p.1]? = some (.cells cs e z) → B' p.1 → B p.1) : BlkOk ρ B' w n b := by
  obtain ⟨kd, cs⟩ := b
  cases kd with
  | dead => trivial
  | view => exact h
  | box =>
    obtain ⟨g, h1, h2, cs', e, h3, h4⟩ := h
    exact ⟨g, h1, fun hB => h2 (hk rfl _ _ _ _ h1 (okPl.not (.inl rfl)) h3 hB), cs', e, h3, h4⟩
  | row e sz =>
    rcases h with h | ⟨g, cap, h1, h2, cs', h3, h4⟩
    · exact .inl h
    · exact .inr ⟨g, cap, h1, fun hB => h2 (hk rfl _ _ _ _ h1 (okPl.not (.inl rfl)) h3 hB), cs', h3, h4⟩
theorem MemOk.other {ρ0 ρ : Nat → Option Pl} {B B' : Nat → Prop} {m : Nat → Option Blk} {w : World} (h : MemOk ρ0 ρ B m w) (hk : ∀ n b p cs e z, m n = some b → b.own = true → ρ n = some p → ¬ nilPl p → w.heap[p.1]? = some (.cells cs e z) → B' p.1 → B p.1) : MemOk ρ0 ρ B' m w :=
  ⟨h.ext, h.fresh, fun n b hn => (h.ok n b hn).less (fun ho p cs e z => hk n b p cs e z hn ho), h.sep⟩
theorem MemOk.less {ρ0 ρ : Nat → Option Pl} {B B' : Nat → Prop} {m : Nat → Option Blk} {w : World} (h : MemOk ρ0 ρ B m w) (hk : ∀ k, B' k → B k) : MemOk ρ0 ρ B' m w := h.other fun _ _ p _ _ _ _ _ _ _ _ => hk p.1
/-- What holds of names stands where all cells lie as they lay. -/
theorem BlkOk.grown {ρ : Nat → Option Pl} {B : Nat → Prop} {w w' : World} {n : Nat} {b : Blk} (h : BlkOk ρ B w n b) (hs : w.heap.size ≤ w'.heap.size) (hb : ∀ (k : Nat) (o : Obj), w.heap[k]? = some o → o.isCells = true → w'.heap[k]? = w.heap[k]?) : BlkOk ρ B w' n b := by
  obtain ⟨kd, cs⟩ := b
  cases kd with
  | dead => trivial
  | view =>
    rcases h with h | ⟨g, f, cp, h1, hq, h2, h3⟩
    · exact .inl h
    · refine .inr ⟨g, f, cp, h1, hq, by omega, fun k v hv => ?_⟩
      obtain ⟨v', h4, h5⟩ := h3 k v hv
      obtain ⟨o, ho, hc⟩ := cells_of_cell h4
      exact ⟨v', (World.cell?_of_block (w := w) (a := ⟨g, f + k, none⟩) (hb g o ho hc)).trans h4, h5⟩
  | box =>
    obtain ⟨g, h1, h2, cs', e, h3, h4, h5⟩ := h
    exact ⟨g, h1, h2, cs', e, (hb g _ h3 rfl).trans h3, h4, h5⟩
  | row e sz =>
    rcases h with h | ⟨g, cap, h1, h2, cs', h3, h4, h5⟩
    · exact .inl h
    · exact .inr ⟨g, cap, h1, h2, cs', (hb g _ h3 rfl).trans h3, h4, h5⟩
theorem MemOk.grown {ρ0 ρ : Nat → Option Pl} {B : Nat → Prop} {m : Nat → Option Blk} {w w' : World} (h : MemOk ρ0 ρ B m w) (hs : w.heap.size ≤ w'.heap.size) (hb : ∀ (k : Nat) (o : Obj), w.heap[k]? = some o → o.isCells = true → w'.heap[k]? = w.heap[k]?) : MemOk ρ0 ρ B m w' :=
  ⟨h.ext, h.fresh, fun n b hn => (h.ok n b hn).grown hs hb, h.sep⟩
/-- The mark of a loop over a function among the deferred calls. -/
def mkDf (D : Nat) : Deferred := { target := .collected D, args := #[] }
/-- A later start of the same call: more is kept, more marks. -/
structure Later (w0 w1 : Start) : Prop where
  ρ0 : w1.ρ0 = w0.ρ0
  ro : w1.ro = w0.ro
  kp : ∀ k, w0.kp k → w1.kp k
  bel : BelowK w0.kp w0.toWorld w1.toWorld
  df : ∃ ms : List Nat, w1.df = ms.map mkDf ++ w0.df ∧ ms.Nodup ∧ ∀ D ∈ ms, ¬ w0.kp D ∧ w0.heap.size ≤ D ∧ w1.kp D ∧ w1.heap[D]? = some (.deferred (some []))
theorem Later.refl (w0 : Start) : Later w0 w0 := ⟨rfl, rfl, fun _ h => h, BelowK.refl _ _, [], rfl, List.nodup_nil, fun D hD => by cases hD⟩
theorem Later.trans {a b c : Start} (h : Later a b) (k : Later b c) : Later a c := by
  obtain ⟨ms, e1, n1, p1⟩ := h.df
  obtain ⟨ns, e2, n2, p2⟩ := k.df
  refine ⟨k.ρ0.trans h.ρ0, k.ro.trans h.ro, fun x hx => k.kp x (h.kp x hx), ?_, ns ++ ms, by rw [e2, e1]; simp, ?_, ?_⟩
  · exact ⟨k.bel.os.trans h.bel.os, k.bel.tape.trans h.bel.tape, k.bel.output.trans h.bel.output, Nat.le_trans h.bel.size k.bel.size, fun x hx => (k.bel.block x (h.kp x hx)).trans (h.bel.block x hx)⟩
  · refine List.nodup_append.2 ⟨n2, n1, fun D hD D' hD' he => ?_⟩
    subst he
    exact (p2 D hD).1 (p1 D hD').2.2.1
  · intro D hD
    rcases List.mem_append.1 hD with hD | hD
    · obtain ⟨q1, q2, q3, q4⟩ := p2 D hD
      exact ⟨fun hk => q1 (h.kp D hk), Nat.le_trans h.bel.size q2, q3, q4⟩
    · obtain ⟨q1, q2, q3, q4⟩ := p1 D hD
      exact ⟨q1, q2, k.kp D q3, (k.bel.block D q3).trans q4⟩
/-- A function's end with marks among its deferred calls: each is shut; what is kept through that holds at the end. -/
theorem marks_leave {P : Program} {fn : Func} {tmps : Array Value} {R : Ending → World → Prop} (J : World → Prop) : ∀ (ms : List Nat) (w : World), (∀ D ∈ ms, w.heap[D]? = some (.deferred (some []))) → ms.Nodup →
    (∀ (w : World) (D : Nat), D ∈ ms → J w → w.heap[D]? = some (.deferred (some [])) → J (w.putObj D (.deferred none))) → J w → (∀ w, J w → ∃ v, (results fn tmps).run P w = .ok v w ∧ R (.returned v) w) →
    LeavesInM Fence.wide 3 P fn tmps R (ms.map mkDf) .returning w
  | [], w, _, _, _, h, hend => hend w h
  | D :: ms, w, hm, hnd, hst, h, hend => by
    obtain ⟨hn1, hn2⟩ := List.nodup_cons.1 hnd
    have hD := hm D (List.mem_cons_self ..)
    refine ⟨by simp, .inl ⟨D, _, rfl, run_takeDeferred hD, ?_⟩⟩
    refine marks_leave J ms _ (fun D' hD' => ?_) hn2 (fun w D' hD' => hst w D' (List.mem_cons_of_mem _ hD')) (hst w D (List.mem_cons_self ..) h hD) hend
    have hne : D' ≠ D := fun e => hn1 (by rw [← e]; exact hD')
    exact (World.putObj_heap_other hne).trans (hm D' (List.mem_cons_of_mem _ hD'))
/-- A state at some later start. -/
def RecOk (w0 : Start) : Prop := ∀ l, w0.ro = some l → w0.kp l ∧ ∃ r, w0.heap[l]? = some (.loop r)
theorem RecOk.later {w0 w1 : Start} (h : RecOk w0) (k : Later w0 w1) : RecOk w1 := fun l hl => by
  obtain ⟨h1, r, h2⟩ := h l (by rw [← k.ro]; exact hl)
  exact ⟨k.kp l h1, r, (k.bel.block l h1).trans h2⟩
def Con (w0 : Start) (s : FS) (a : Act) (w : World) : Prop := RecOk w0 ∧ ∃ w1, Later w0 w1 ∧ Conc w1 s a w
theorem Con.of {w0 : Start} (hr : RecOk w0) {s : FS} {a : Act} {w : World} (h : Conc w0 s a w) : Con w0 s a w := ⟨hr, w0, Later.refl _, h⟩
theorem Con.later {w0 w1 : Start} {s : FS} {a : Act} {w : World} (hr : RecOk w0) (h : Later w0 w1) (k : Con w1 s a w) : Con w0 s a w := let ⟨_, w2, h1, h2⟩ := k; ⟨hr, w2, h.trans h1, h2⟩
/-- A piece of code comes from one state to one end at another, whatever the frame and the world. -/
def Det (P : Program) (c : Code) (s : St) (e' : Ex) (s' : St) : Prop := ∀ w0 a w, Con w0 s.fs a w → c.wpIn (fz w0.ro) 3 P (fun e a w => e = e'.out ∧ Con w0 s'.fs a w) a w
/-- The same from the start itself. -/
theorem Det.of {P : Program} {c : Code} {s : St} {e' : Ex} {s' : St} (h : ∀ w0 a w, RecOk w0 → Conc w0 s.fs a w → c.wpIn (fz w0.ro) 3 P (fun e a w => e = e'.out ∧ Con w0 s'.fs a w) a w) : Det P c s e' s' := by
  rintro w0 a w ⟨hr, w1, h1, h2⟩
  have := h w1 a w (hr.later h1) h2
  rw [h1.ro] at this
  exact wpIn_mono this fun e a w ⟨he, hc⟩ => ⟨he, hc.later hr h1⟩
theorem evalO_con {s : St} {c : Operand} {t : Bool} {w0 : Start} {a : Act} {w : World} (hc : Con w0 s.fs a w) (ht : evalO s c = .bool t) : a.eval c = .bool t := let ⟨_, _, _, h⟩ := hc; evalO_is h ht
theorem wpIn_loop_ghost {F : Fence} {n : Nat} {P : Program} {Q : Exit → Act → World → Prop} {a : Act} {w : World} {c : Code} (I : Nat → Act → World → Prop) (n₀ : Nat) (h₀ : I n₀ a w)
    (round : ∀ n' a w, I n' a w → c.wpIn F n P (Exit.then (fun a' w' => ∃ m, m < n' ∧ I m a' w') Q) a w) : (Code.loop c).wpIn F n P Q a w := by
  refine wpIn_loop (fun a w => ∃ n, I n a w) (fun a w => leastOf (fun n => I n a w)) ⟨n₀, h₀⟩ ?_
  intro a w hI
  refine wpIn_mono (round _ a w (leastOf_spec hI).1) ?_
  intro e a' w' hq
  cases e with
  | normal =>
    obtain ⟨n', hlt, hI'⟩ := hq
    exact show (∃ n, I n a' w') ∧ leastOf (fun n => I n a' w') < leastOf (fun n => I n a w) from ⟨⟨n', hI'⟩, Nat.lt_of_le_of_lt ((leastOf_spec ⟨n', hI'⟩).2 n' hI') hlt⟩
  | exit id => exact hq
  | goto l => exact hq
  | ret => exact hq
  | panic ch => exact hq
  | outgrown => exact hq

/-- One cell of a weaker state: f tells for a name of the weaker state the name that it stands for (or that it stands for nothing: an empty row). -/
def wv0 (f : Nat → Option (Option Nat)) : Value → Value → Prop
  | _, .chan (some 0) => True
  | .pointer (some ⟨n, o, none⟩), .pointer (some ⟨n', o', none⟩) => f n' = some (some n) ∧ o = o'
  | .slice (some ⟨n, o, none⟩) l _, .slice (some ⟨n', o', none⟩) l' _ => f n' = some (some n) ∧ o = o' ∧ l = l'
  | .slice none 0 0, .slice (some ⟨n', _, none⟩) l' _ => f n' = some none ∧ l' = 0
  | v, v' => v = v' ∧ plainV v = true
def wl0 (f : Nat → Option (Option Nat)) : List Value → List Value → Prop
  | [], [] => True
  | a :: r, b :: r' => wv0 f a b ∧ wl0 f r r'
  | _, _ => False
def wv (f : Nat → Option (Option Nat)) : Value → Value → Prop
  | .agg ⟨l⟩, .agg ⟨l'⟩ => wl0 f l l'
  | .tuple ⟨l⟩, .tuple ⟨l'⟩ => wl0 f l l'
  | .func fn ⟨a⟩ ⟨c⟩, .func fn' ⟨a'⟩ ⟨c'⟩ => fn = fn' ∧ wl0 f a a' ∧ wl0 f c c'
  | v, v' => wv0 f v v'
def wvs (f : Nat → Option (Option Nat)) : List Value → List Value → Prop
  | [], [] => True
  | a :: r, b :: r' => wv f a b ∧ wvs f r r'
  | _, _ => False
def rhoOf (ρ : Nat → Option Pl) (f : Nat → Option (Option Nat)) : Nat → Option Pl := fun n' => match f n' with
  | none => none
  | some none => some (0, 1, some 0)
  | some (some n) => ρ n
theorem rhoOf_some {ρ : Nat → Option Pl} {f : Nat → Option (Option Nat)} {n n' : Nat} (h : f n' = some (some n)) : rhoOf ρ f n' = ρ n := by simp [rhoOf, h]
theorem wv0_ok {ρ : Nat → Option Pl} {f : Nat → Option (Option Nat)} {v v' x : Value} (h : wv0 f v v') (k : VR ρ v x) : VR (rhoOf ρ f) v' x := by
  unfold wv0 at h
  split at h
  · exact .top
  · rename_i n o n' o'
    obtain ⟨h1, rfl⟩ := h
    obtain ⟨g, f', cp, h2, h3, rfl⟩ := k.ptr_inv
    exact .ptr ((rhoOf_some h1).trans h2) h3
  · rename_i n o l c n' o' l' c'
    obtain ⟨h1, rfl, rfl⟩ := h
    rcases k.slice_inv with ⟨g, f', cp, c2, h2, hq, rfl, h4, h5⟩ | ⟨rfl, h2, ad, c2, rfl⟩ | ⟨rfl, ad, c2, p, rfl, h2, h3, h4⟩
    · exact .slice ((rhoOf_some h1).trans h2) hq h4 h5
    · exact .none_ h2
    · exact .nil_ ((rhoOf_some h1).trans h2) h3 rfl h4
  · obtain ⟨h1, rfl⟩ := h
    obtain rfl := k.plain rfl
    exact .nil_ (p := (0, 1, some 0)) (by simp [rhoOf, h1]) ⟨rfl, 0, rfl⟩ rfl (fun _ => ⟨rfl, rfl⟩)
  · obtain ⟨rfl, h1⟩ := h
    obtain rfl := k.plain h1
    exact .lit h1
theorem wl0_ok {ρ : Nat → Option Pl} {f : Nat → Option (Option Nat)} : ∀ {l l' : List Value}, wl0 f l l' → l.length = l'.length ∧ ∀ (i : Nat) v' x, l'[i]? = some v' → (∀ v, l[i]? = some v → VR ρ v x) → VR (rhoOf ρ f) v' x
  | [], [], _ => ⟨rfl, fun i v' x h => by simp at h⟩
  | [], _ :: _, h => h.elim
  | _ :: _, [], h => h.elim
  | a :: r, b :: r', h => by
    obtain ⟨h1, h2⟩ := h
    obtain ⟨h3, h4⟩ := wl0_ok (ρ := ρ) h2
    refine ⟨by simp [h3], fun i v' x hv' hx => ?_⟩
    cases i with
    | zero =>
      obtain rfl : b = v' := by simpa using hv'
      exact wv0_ok h1 (hx a rfl)
    | succ i => exact h4 i v' x (by simpa using hv') fun v hv => hx v (by simpa using hv)
theorem wv_ok {ρ : Nat → Option Pl} {f : Nat → Option (Option Nat)} {v v' x : Value} (h : wv f v v') (k : VR ρ v x) : VR (rhoOf ρ f) v' x := by
  have rel : ∀ {l l' : List Value} {cs : Array Value}, wl0 f l l' → l.length = cs.size → (∀ (i : Nat) v y, l[i]? = some v → cs[i]? = some y → VR ρ v y) → l'.length = cs.size ∧ ∀ (i : Nat) v' y, l'[i]? = some v' → cs[i]? = some y → VR (rhoOf ρ f) v' y := by
    intro l l' cs hl hs hr
    obtain ⟨h1, h2⟩ := wl0_ok (ρ := ρ) hl
    exact ⟨by omega, fun i v' y hv' hy => h2 i v' y hv' fun v hv => hr i v y hv hy⟩
  unfold wv at h
  split at h
  · obtain ⟨cs, rfl, h1, h2⟩ := k.agg_inv
    obtain ⟨h3, h4⟩ := rel h (by simpa using h1) (fun i v y hv hy => h2 i v y (by simpa using hv) hy)
    exact .agg (by simpa using h3) fun i v y hv hy => h4 i v y (by simpa using hv) hy
  · obtain ⟨cs, rfl, h1, h2⟩ := k.tuple_inv
    obtain ⟨h3, h4⟩ := rel h (by simpa using h1) (fun i v y hv hy => h2 i v y (by simpa using hv) hy)
    exact .tuple (by simpa using h3) fun i v y hv hy => h4 i v y (by simpa using hv) hy
  · obtain ⟨rfl, ha, hc⟩ := h
    obtain ⟨f', c', rfl, h1, h2⟩ := k.func_inv
    obtain ⟨h3, h4⟩ := rel ha h1.1 h1.2
    obtain ⟨h5, h6⟩ := rel hc h2.1 h2.2
    exact .func (by simpa using h3) (by simpa using h5) (fun i v y hv hy => h4 i v y (by simpa using hv) hy) fun i v y hv hy => h6 i v y (by simpa using hv) hy
  · exact wv0_ok h k
theorem wvs_ok {ρ : Nat → Option Pl} {f : Nat → Option (Option Nat)} : ∀ {l l' : List Value}, wvs f l l' → l.length = l'.length ∧ ∀ (i : Nat) v', l'[i]? = some v' → ∃ v, l[i]? = some v ∧ ∀ x, VR ρ v x → VR (rhoOf ρ f) v' x
  | [], [], _ => ⟨rfl, fun i v' h => by simp at h⟩
  | [], _ :: _, h => h.elim
  | _ :: _, [], h => h.elim
  | a :: r, b :: r', h => by
    obtain ⟨h1, h2⟩ := h
    obtain ⟨h3, h4⟩ := wvs_ok (ρ := ρ) h2
    refine ⟨by simp [h3], fun i v' hv' => ?_⟩
    cases i with
    | zero =>
      obtain rfl : b = v' := by simpa using hv'
      exact ⟨a, rfl, fun x hx => wv_ok h1 hx⟩
    | succ i => exact h4 i v' (by simpa using hv')
/-- Known cells of a weaker state. -/
def wc (f : Nat → Option (Option Nat)) : Cs → Cs → Prop
  | .ints xs, .ints ys => xs = ys
  | .vals l, .ints ys => intsOf l = some ys
  | .vals l, .vals l' => wvs f l l'
  | .ints _, .vals _ => False
  | .bytes xs, .bytes ys => xs = ys
  | _, _ => False
theorem wc_ok {ρ : Nat → Option Pl} {f : Nat → Option (Option Nat)} {c c' : Cs} (h : wc f c c') : c.list.length = c'.list.length ∧ ∀ (i : Nat) v', c'.list[i]? = some v' → ∃ v, c.list[i]? = some v ∧ ∀ x, VR ρ v x → VR (rhoOf ρ f) v' x := by
  have same : ∀ xs : List Int, ∀ (i : Nat) v', (xs.map (Value.int .i64))[i]? = some v' → ∃ v, (xs.map (Value.int .i64))[i]? = some v ∧ ∀ x, VR ρ v x → VR (rhoOf ρ f) v' x := by
    intro xs i v' hv'
    refine ⟨v', hv', fun x hx => ?_⟩
    obtain ⟨n, _, rfl⟩ := List.mem_map.1 (List.mem_of_getElem? hv')
    obtain rfl := hx.plain rfl
    exact .lit rfl
  unfold wc at h
  split at h
  · subst h
    exact ⟨rfl, same _⟩
  · have := intsOf_spec h
    subst this
    exact ⟨rfl, same _⟩
  · exact wvs_ok h
  · exact h.elim
  · rename_i xs _
    subst h
    refine ⟨rfl, fun i v' hv' => ⟨v', hv', fun x hx => ?_⟩⟩
    obtain ⟨n, _, rfl⟩ := List.mem_map.1 (List.mem_of_getElem? hv')
    obtain rfl := hx.plain rfl
    exact .lit rfl
  · exact h.elim
/-- A block of a weaker state. -/
def wb (f : Nat → Option (Option Nat)) (b b' : Blk) : Prop :=
  match b'.kind, b.kind with
  | .dead, _ => True
  | .box, .box => wc f b.cs b'.cs
  | .row e' sz', .row e sz => e = e' ∧ sz = sz' ∧ wc f b.cs b'.cs
  | .view, .box => wc f b.cs b'.cs
  | .view, .row _ _ => wc f b.cs b'.cs
  | .view, .view => wc f b.cs b'.cs
  | _, _ => False
theorem wb_ok {ρ : Nat → Option Pl} {f : Nat → Option (Option Nat)} {b b' : Blk} (h : wb f b b') {B : Nat → Prop} {n n' : Nat} {w : World} (hn : f n' = some (some n)) (k : BlkOk ρ B w n b) : BlkOk (rhoOf ρ f) B w n' b' ∧ (b'.live = true → b.live = true) ∧ (b'.own = true → b.own = true) := by
  have hr := rhoOf_some (ρ := ρ) hn
  obtain ⟨kd, cs⟩ := b
  obtain ⟨kd', cs'⟩ := b'
  have cells : wc f cs cs' → ∀ {arr : Array Value}, Cells ρ cs.list arr → Cells (rhoOf ρ f) cs'.list arr := fun hc arr hcl i v' hv' => by
    obtain ⟨v, h1, h2⟩ := (wc_ok (ρ := ρ) hc).2 i v' hv'
    obtain ⟨x, h3, h4⟩ := hcl i v h1
    exact ⟨x, h3, h2 x h4⟩
  have at_ : ∀ {g : Nat} {arr : Array Value} {e : TypeId} (k : Nat), w.heap[g]? = some (.cells arr e (0, 0)) → w.cell? ⟨g, k, none⟩ = arr[k]? := fun {g arr e} k hh => by simp [World.cell?, hh]
  cases kd' with
  | dead => exact ⟨trivial, ⟨fun h => (by cases h), fun h => (by cases h)⟩⟩
  | box =>
    cases kd <;> first | exact h.elim | skip
    obtain ⟨g, h1, h2, arr, e, h3, h4, h5⟩ := k
    exact ⟨⟨g, hr.trans h1, h2, arr, e, h3, by rw [h4]; exact (wc_ok (ρ := ρ) h).1, cells h h5⟩, fun _ => rfl, fun _ => rfl⟩
  | row e' sz' =>
    cases kd <;> first | exact h.elim | skip
    obtain ⟨rfl, rfl, hc⟩ := h
    refine ⟨?_, fun _ => rfl, fun _ => rfl⟩
    rcases k with ⟨p, h1, h2⟩ | ⟨g, cap, h1, h2, arr, h3, h4, h5⟩
    · exact .inl ⟨p, hr.trans h1, h2⟩
    · exact .inr ⟨g, cap, hr.trans h1, h2, arr, h3, h4, cells hc h5⟩
  | view =>
    cases kd with
    | dead => exact h.elim
    | box =>
      refine ⟨?_, fun _ => rfl, fun h => (by cases h)⟩
      obtain ⟨g, h1, h2, arr, e, h3, h4, h5⟩ := k
      refine .inr ⟨g, 0, none, hr.trans h1, .inl rfl, heap_lt h3, fun i v hv => ?_⟩
      rw [Nat.zero_add, at_ i h3]
      exact cells h h5 i v hv
    | row e sz =>
      refine ⟨?_, fun _ => rfl, fun h => (by cases h)⟩
      rcases k with ⟨p, h1, h2, h3⟩ | ⟨g, cap, h1, h2, arr, h3, h4, h5⟩
      · exact .inl ⟨p, hr.trans h1, h2, 0, h3⟩
      · refine .inr ⟨g, 0, some cap, hr.trans h1, .inl rfl, heap_lt h3, fun i v hv => ?_⟩
        rw [Nat.zero_add, at_ i h3]
        exact cells h h5 i v hv
    | view =>
      refine ⟨?_, fun _ => rfl, fun h => (by cases h)⟩
      rcases k with ⟨p, h1, h2⟩ | ⟨g, f', cp, h1, hq, h2, h3⟩
      · exact .inl ⟨p, hr.trans h1, h2⟩
      · refine .inr ⟨g, f', cp, hr.trans h1, hq, h2, fun i v' hv' => ?_⟩
        obtain ⟨v, h4, h5⟩ := (wc_ok (ρ := ρ) h).2 i v' hv'
        obtain ⟨x, h6, h7⟩ := h3 i v h4
        exact ⟨x, h6, h5 x h7⟩
def nilKind : BK → Bool
  | .row _ _ => true
  | .view => true
  | _ => false
/-- The blocks of a weaker state, from a name on. -/
def wm (f : Nat → Option (Option Nat)) (N : Nat) (src : List (Option Blk)) : Nat → List (Option Blk) → Prop
  | _, [] => True
  | n', none :: r => (n' < N → src.getD n' none = none) ∧ wm f N src (n' + 1) r
  | n', some b' :: r => (match b'.kind with
    | .dead => True
    | _ => match f n' with
      | some (some n) => (match src.getD n none with
        | some b => wb f b b'
        | none => False)
      | some none => nilKind b'.kind = true
      | none => False) ∧ wm f N src (n' + 1) r
def nmOf (N : Nat) (π : List (Option Nat)) (m : List (Option Blk)) (n' : Nat) : Option (Option Nat) :=
  match m.getD n' none with
  | none => none
  | some _ => some (match Nat.blt n' N with
    | true => some n'
    | false => π.getD (n' - N) none)
def liveSrc (f : Nat → Option (Option Nat)) : Nat → List (Option Blk) → List (Nat × Bool)
  | _, [] => []
  | n', none :: r => liveSrc f (n' + 1) r
  | n', some b :: r => match b.live, f n' with
    | true, some (some n) => (n, b.own) :: liveSrc f (n' + 1) r
    | _, _ => liveSrc f (n' + 1) r
def injB : List (Nat × Bool) → Bool
  | [] => true
  | (n, o) :: r => (r.all fun q => !(o || q.2) || !(Nat.beq q.1 n)) && injB r
/-- A weaker state: slots of which nothing is known, names given up or changed. -/
def WS (N : Nat) (π : List (Option Nat)) (s s' : St) : Prop :=
  Nat.ble N s'.mem.length = true ∧ injB (liveSrc (nmOf N π s'.mem) 0 s'.mem) = true ∧ wm (nmOf N π s'.mem) N s.mem 0 s'.mem ∧ wvs (nmOf N π s'.mem) s.tmps s'.tmps

theorem liveSrc_mem {f : Nat → Option (Option Nat)} : ∀ (l : List (Option Blk)) (k i : Nat) (b : Blk) (n : Nat), l[i]? = some (some b) → b.live = true → f (k + i) = some (some n) → (n, b.own) ∈ liveSrc f k l
  | [], k, i, b, n, h, _, _ => by simp at h
  | x :: r, k, i, b, n, h, hl, hf => by
    cases i with
    | zero =>
      obtain rfl : x = some b := by simpa using h
      simp only [liveSrc]
      rw [Nat.add_zero] at hf
      simp [hl, hf]
    | succ i =>
      have ih := liveSrc_mem r (k + 1) i b n (by simpa using h) hl (by rw [show k + 1 + i = k + (i + 1) by omega]; exact hf)
      cases x with
      | none => exact ih
      | some c =>
        simp only [liveSrc]
        split
        · exact List.mem_cons_of_mem _ ih
        · exact ih
theorem inj_spec {f : Nat → Option (Option Nat)} : ∀ (l : List (Option Blk)) (k : Nat), injB (liveSrc f k l) = true → ∀ (i j : Nat) (b c : Blk) (n n' : Nat), i < j → l[i]? = some (some b) → l[j]? = some (some c) → b.live = true → c.live = true → (b.own = true ∨ c.own = true) → f (k + i) = some (some n) → f (k + j) = some (some n') → n ≠ n'
  | [], k, _, i, j, b, c, n, n', _, h, _, _, _, _, _, _ => by simp at h
  | x :: r, k, hinj, i, j, b, c, n, n', hij, hi, hj, hb, hc, ho, hf, hf' => by
    obtain ⟨j, rfl⟩ : ∃ j', j = j' + 1 := ⟨j - 1, by omega⟩
    have hj' : r[j]? = some (some c) := by simpa using hj
    have hf2 : f (k + 1 + j) = some (some n') := by rw [show k + 1 + j = k + (j + 1) by omega]; exact hf'
    have tail : injB (liveSrc f (k + 1) r) = true := by
      cases x with
      | none => exact hinj
      | some d =>
        simp only [liveSrc] at hinj
        split at hinj
        · simp only [injB, Bool.and_eq_true] at hinj
          exact hinj.2
        · exact hinj
    cases i with
    | zero =>
      obtain rfl : x = some b := by simpa using hi
      rw [Nat.add_zero] at hf
      simp only [liveSrc, hb, hf, injB, Bool.and_eq_true] at hinj
      have := List.all_eq_true.1 hinj.1 _ (liveSrc_mem r (k + 1) j c n' hj' hc hf2)
      rintro rfl
      rcases ho with ho | ho <;> simp [ho] at this
    | succ i =>
      exact inj_spec r (k + 1) tail i j b c n n' (by omega) (by simpa using hi) hj' hb hc ho (by rw [show k + 1 + i = k + (i + 1) by omega]; exact hf) hf2
theorem wm_spec {f : Nat → Option (Option Nat)} {N : Nat} {src : List (Option Blk)} : ∀ (l : List (Option Blk)) (k : Nat), wm f N src k l → ∀ i, (l[i]? = some none → k + i < N → src.getD (k + i) none = none) ∧ ∀ b', l[i]? = some (some b') → b'.kind = .dead ∨
    (∃ n b, f (k + i) = some (some n) ∧ src.getD n none = some b ∧ wb f b b') ∨ (f (k + i) = some none ∧ nilKind b'.kind = true)
  | [], k, _, i => ⟨fun h => by simp at h, fun b' h => by simp at h⟩
  | x :: r, k, h, i => by
    cases i with
    | zero =>
      refine ⟨fun hx hN => ?_, fun b' hx => ?_⟩
      · obtain rfl : x = none := by simpa using hx
        exact h.1 hN
      · obtain rfl : x = some b' := by simpa using hx
        have h1 := h.1
        split at h1
        · rename_i hd; exact .inl hd
        · split at h1
          · rename_i n hf
            split at h1
            · rename_i b hb
              exact .inr (.inl ⟨n, b, hf, hb, h1⟩)
            · exact h1.elim
          · rename_i hf
            exact .inr (.inr ⟨hf, h1⟩)
          · exact h1.elim
    | succ i =>
      have ht : wm f N src (k + 1) r := by cases x <;> exact h.2
      have := wm_spec r (k + 1) ht i
      rw [show k + 1 + i = k + (i + 1) by omega] at this
      exact ⟨fun hx => this.1 (by simpa using hx), fun b' hx => this.2 b' (by simpa using hx)⟩
theorem getD_some {l : List (Option Blk)} {n : Nat} {b : Blk} (h : l.getD n none = some b) : l[n]? = some (some b) := by
  rw [List.getD_eq_getElem?_getD] at h
  rcases hx : l[n]? with _ | x
  · simp [hx] at h
  · simp only [hx, Option.getD_some] at h
    rw [h]
theorem weak_conc {N : Nat} {π : List (Option Nat)} {s s' : St} (h : WS N π s s') {w0 : Start} {a : Act} {w : World} (hρ : ∀ n, N ≤ n → w0.ρ0 n = none) (hc : Conc w0 s.fs a w) : Conc w0 s'.fs a w := by
  obtain ⟨h1, h2, h3, h4⟩ := h
  obtain ⟨c1, c2, c3, ρ, ht, hm⟩ := hc
  have hN := Nat.le_of_ble_eq_true h1
  generalize hf : nmOf N π s'.mem = f at h2 h3 h4
  have fnone : ∀ n', s'.mem.getD n' none = none → f n' = none := fun n' hn => by rw [← hf]; simp only [nmOf, hn]
  have flow : ∀ n' b, s'.mem.getD n' none = some b → n' < N → f n' = some (some n') := fun n' b hn hlt => by
    rw [← hf]
    have : Nat.blt n' N = true := Nat.le_of_ble_eq_true (by simpa [Nat.blt] using Nat.ble_eq_true_of_le hlt) |> fun h => by simpa [Nat.blt] using Nat.ble_eq_true_of_le h
    simp only [nmOf, hn, this]
  obtain ⟨w1, w2⟩ := wvs_ok (ρ := ρ) h4
  have hspec := wm_spec s'.mem 0 h3
  simp only [Nat.zero_add] at hspec
  refine ⟨c1, by rw [c2]; exact w1, c3, rhoOf ρ f, fun t => ?_, ?_⟩
  · simp only [St.fs] at ht ⊢
    rcases hx : s'.tmps[t]? with _ | v'
    · have hx2 : s.tmps[t]? = none := by
        rw [List.getElem?_eq_none_iff] at hx ⊢
        omega
      have := ht t
      rw [List.getD_eq_getElem?_getD, hx2, Option.getD_none] at this
      rw [List.getD_eq_getElem?_getD, hx, Option.getD_none, this.plain rfl]
      exact .lit rfl
    · obtain ⟨v, h5, h6⟩ := w2 t v' hx
      have := ht t
      rw [List.getD_eq_getElem?_getD, h5, Option.getD_some] at this
      rw [List.getD_eq_getElem?_getD, hx, Option.getD_some]
      exact h6 _ this
  · have blk : ∀ n' b', s'.mem.getD n' none = some b' → b'.live = true → (∃ n b, f n' = some (some n) ∧ s.mem.getD n none = some b ∧ wb f b b') ∨ (f n' = some none ∧ nilKind b'.kind = true) := by
      intro n' b' hb' hl
      rcases (hspec n').2 b' (getD_some hb') with hd | hx
      · obtain ⟨kd, cs⟩ := b'
        simp only at hd
        subst hd
        cases hl
      · exact hx
    refine ⟨fun n p hn => ?_, fun n' hn' => ?_, fun n' b' hb' => ?_, fun k k' b b' p p' hk hown hk' hlive hne hp hp' hnp hnp' => ?_⟩
    · have hlt : n < N := by
        rcases Nat.lt_or_ge n N with hlt | hge
        · exact hlt
        · rw [hρ n hge] at hn; cases hn
      have hρn := hm.ext n p hn
      have hsrc : s.mem.getD n none ≠ none := fun h => by
        have := hm.fresh n h
        rw [hρn] at this; cases this
      rcases hx : s'.mem.getD n none with _ | b'
      · exfalso
        have hlen : n < s'.mem.length := by omega
        have h7 : s'.mem[n]? = some none := by
          rw [List.getD_eq_getElem?_getD] at hx
          have : s'.mem[n]? = some s'.mem[n] := by simp [hlen]
          rw [this, Option.getD_some] at hx
          rw [this, hx]
        exact hsrc ((hspec n).1 h7 hlt)
      · rw [rhoOf_some (flow n b' hx hlt)]
        exact hρn
    · simp only [rhoOf, fnone n' hn']
    · by_cases hl : b'.live = true
      · rcases blk n' b' hb' hl with ⟨n, b, g1, g2, g3⟩ | ⟨g1, g2⟩
        · exact (wb_ok g3 g1 (hm.ok n b g2)).1
        · obtain ⟨kd, cs⟩ := b'
          have hr : rhoOf ρ f n' = some (0, 1, some 0) := by simp only [rhoOf, g1]
          cases kd with
          | row e sz => exact .inl ⟨_, hr, rfl, rfl⟩
          | view => exact .inl ⟨_, hr, rfl, 0, rfl⟩
          | box => cases g2
          | dead => cases g2
      · obtain ⟨kd, cs⟩ := b'
        cases kd with
        | dead => trivial
        | _ => exact absurd rfl hl
    · have hlk := own_live hown
      rcases blk k b hk hlk with ⟨n, c, g1, g2, g3⟩ | ⟨g1, _⟩
      rotate_left
      · exfalso
        have : rhoOf ρ f k = some (0, 1, some 0) := by simp only [rhoOf, g1]
        rw [this] at hp
        obtain rfl : (0, 1, some 0) = p := by simpa using hp
        exact hnp ⟨rfl, 0, rfl⟩
      rcases blk k' b' hk' hlive with ⟨n', c', g1', g2', g3'⟩ | ⟨g1', _⟩
      rotate_left
      · exfalso
        have : rhoOf ρ f k' = some (0, 1, some 0) := by simp only [rhoOf, g1']
        rw [this] at hp'
        obtain rfl : (0, 1, some 0) = p' := by simpa using hp'
        exact hnp' ⟨rfl, 0, rfl⟩
      obtain ⟨_, e1, e2⟩ := wb_ok g3 g1 (hm.ok n c g2)
      obtain ⟨_, e1', e2'⟩ := wb_ok g3' g1' (hm.ok n' c' g2')
      have hnn : n ≠ n' := by
        rcases Nat.lt_or_gt_of_ne hne with hlt | hgt
        · exact inj_spec s'.mem 0 h2 k k' b b' n n' hlt (getD_some hk) (getD_some hk') hlk hlive (.inl hown) (by simpa using g1) (by simpa using g1')
        · exact (inj_spec s'.mem 0 h2 k' k b' b n' n hgt (getD_some hk') (getD_some hk) hlive hlk (.inr hown) (by simpa using g1') (by simpa using g1)).symm
      rw [rhoOf_some g1] at hp
      rw [rhoOf_some g1'] at hp'
      exact hm.sep n n' c c' p p' g2 (e2 hown) g2' (e1' hlive) hnn hp hp' hnp hnp'
theorem conc_dom {s : St} {w0 : Start} {a : Act} {w : World} (hc : Conc w0 s.fs a w) : ∀ n, s.mem.length ≤ n → w0.ρ0 n = none := by
  obtain ⟨_, _, _, ρ, _, hm⟩ := hc
  intro n hn
  have h1 := hm.fresh n (by simp [St.fs, List.getElem?_eq_none hn])
  rcases h : w0.ρ0 n with _ | p
  · rfl
  · rw [hm.ext n p h] at h1; cases h1
/-- A value that names nothing from N on. -/
def nbV1 (N : Nat) : Value → Bool
  | .pointer (some ⟨n, _, none⟩) => Nat.blt n N
  | .slice (some ⟨n, _, none⟩) _ _ => Nat.blt n N
  | v => plainV v
def nbV (N : Nat) : Value → Bool
  | .agg ⟨l⟩ => l.all (nbV1 N)
  | .tuple ⟨l⟩ => l.all (nbV1 N)
  | .func _ ⟨a⟩ ⟨c⟩ => a.all (nbV1 N) && c.all (nbV1 N)
  | v => nbV1 N v
def rhoB (ρ : Nat → Option Pl) (N : Nat) : Nat → Option Pl := fun n => if n < N then ρ n else none
theorem rhoB_lt {ρ : Nat → Option Pl} {N n : Nat} (h : Nat.blt n N = true) : rhoB ρ N n = ρ n := by
  have : n < N := Nat.le_of_ble_eq_true h
  simp [rhoB, this]
theorem nbV1_ok {ρ : Nat → Option Pl} {N : Nat} {v x : Value} (h : nbV1 N v = true) (k : VR ρ v x) : VR (rhoB ρ N) v x := by
  unfold nbV1 at h
  split at h
  · obtain ⟨g, f', cp, h2, h3, rfl⟩ := k.ptr_inv
    exact .ptr ((rhoB_lt h).trans h2) h3
  · rcases k.slice_inv with ⟨g, f', cp, c2, h2, hq, rfl, h4, h5⟩ | ⟨rfl, h2, ad, c2, rfl⟩ | ⟨rfl, ad, c2, p, rfl, h2, h3, h4⟩
    · exact .slice ((rhoB_lt h).trans h2) hq h4 h5
    · exact .none_ h2
    · exact .nil_ ((rhoB_lt h).trans h2) h3 rfl h4
  · obtain rfl := k.plain h
    exact .lit h
theorem nbV_ok {ρ : Nat → Option Pl} {N : Nat} {v x : Value} (h : nbV N v = true) (k : VR ρ v x) : VR (rhoB ρ N) v x := by
  have rel : ∀ {l : List Value} {cs : Array Value}, l.all (nbV1 N) = true → (∀ (i : Nat) v y, l[i]? = some v → cs[i]? = some y → VR ρ v y) → ∀ (i : Nat) v y, l[i]? = some v → cs[i]? = some y → VR (rhoB ρ N) v y :=
    fun hl hr i v y hv hy => nbV1_ok (List.all_eq_true.1 hl v (List.mem_of_getElem? hv)) (hr i v y hv hy)
  unfold nbV at h
  split at h
  · obtain ⟨cs, rfl, h1, h2⟩ := k.agg_inv
    have := rel h (fun i v y hv hy => h2 i v y (by simpa using hv) hy)
    exact .agg h1 fun i v y hv hy => this i v y (by simpa using hv) hy
  · obtain ⟨cs, rfl, h1, h2⟩ := k.tuple_inv
    have := rel h (fun i v y hv hy => h2 i v y (by simpa using hv) hy)
    exact .tuple h1 fun i v y hv hy => this i v y (by simpa using hv) hy
  · simp only [Bool.and_eq_true] at h
    obtain ⟨f', c', rfl, h1, h2⟩ := k.func_inv
    have r1 := rel h.1 h1.2
    have r2 := rel h.2 h2.2
    exact .func (by simpa using h1.1) (by simpa using h2.1) (fun i v y hv hy => r1 i v y (by simpa using hv) hy) fun i v y hv hy => r2 i v y (by simpa using hv) hy
  · exact nbV1_ok h k
def keepV (N : Nat) (v : Value) : Value := match nbV N v with
  | true => v
  | false => topV
/-- Some slots kept, of the others nothing is known. -/
def keepT (N : Nat) (l : List Nat) : Nat → List Value → List Value
  | _, [] => []
  | i, v :: r => (match l.contains i with
    | true => keepV N v
    | false => topV) :: keepT N l (i + 1) r
def nbC (N : Nat) : Cs → Bool
  | .vals l => l.all (nbV N)
  | .ints _ => true
  | .bytes _ => true
def cutM (N : Nat) : List (Option Blk) → List (Option Blk)
  | [] => []
  | none :: r => none :: cutM N r
  | some b :: r => (match nbC N b.cs with
    | true => some b
    | false => some ⟨.dead, .vals []⟩) :: cutM N r
def cutS (N : Nat) (l : List Nat) (s : St) : St := { tmps := keepT N l 0 s.tmps, mem := cutM N (s.mem.take N) }
theorem keepT_get (N : Nat) (l : List Nat) : ∀ (r : List Value) (k i : Nat), (keepT N l k r)[i]? = (r[i]?).map fun v => match l.contains (k + i) with
    | true => keepV N v
    | false => topV
  | [], k, i => by simp [keepT]
  | v :: r, k, i => by
    cases i with
    | zero => simp [keepT]
    | succ i =>
      simp only [keepT, List.getElem?_cons_succ]
      rw [keepT_get N l r (k + 1) i, show k + 1 + i = k + (i + 1) by omega]
theorem cutM_get (N : Nat) : ∀ (r : List (Option Blk)) (i : Nat), (cutM N r)[i]? = (r[i]?).map fun o => o.map fun b => match nbC N b.cs with
    | true => b
    | false => ⟨.dead, .vals []⟩
  | [], i => by simp [cutM]
  | none :: r, i => by
    cases i with
    | zero => simp [cutM]
    | succ i => simp only [cutM, List.getElem?_cons_succ, cutM_get N r i]
  | some b :: r, i => by
    cases i with
    | zero =>
      simp only [cutM, List.getElem?_cons_zero, Option.map_some]
      split <;> rfl
    | succ i => simp only [cutM, List.getElem?_cons_succ, cutM_get N r i]
theorem cut_conc {N : Nat} {l : List Nat} {s : St} {w0 : Start} {a : Act} {w : World} (hρ : ∀ n, N ≤ n → w0.ρ0 n = none) (hc : Conc w0 s.fs a w) : Conc w0 (cutS N l s).fs a w := by
  obtain ⟨c1, c2, c3, ρ, ht, hm⟩ := hc
  have hlen : (keepT N l 0 s.tmps).length = s.tmps.length := by
    have key : ∀ (r : List Value) k, (keepT N l k r).length = r.length := by
      intro r
      induction r with
      | nil => intro k; rfl
      | cons v r ih => intro k; simp [keepT, ih]
    exact key _ _
  have blk : ∀ n b', (cutS N l s).mem.getD n none = some b' → n < N ∧ ∃ b, s.mem.getD n none = some b ∧ ((nbC N b.cs = true ∧ b' = b) ∨ b'.kind = .dead) := by
    intro n b' h
    have h1 := getD_some h
    simp only [cutS, cutM_get, List.getElem?_take] at h1
    split at h1
    rotate_left
    · simp at h1
    rename_i hlt
    refine ⟨hlt, ?_⟩
    rcases hx : s.mem[n]? with _ | o
    · simp [hx] at h1
    rcases o with _ | b
    · simp [hx] at h1
    refine ⟨b, by rw [List.getD_eq_getElem?_getD, hx]; rfl, ?_⟩
    simp only [hx, Option.map_some, Option.some.injEq] at h1
    rcases hnb : nbC N b.cs with _ | _
    · rw [hnb] at h1
      exact .inr (by rw [← h1])
    · rw [hnb] at h1
      exact .inl ⟨rfl, h1.symm⟩
  have live_ : ∀ n b', (cutS N l s).mem.getD n none = some b' → b'.live = true → n < N ∧ s.mem.getD n none = some b' ∧ nbC N b'.cs = true := by
    intro n b' h hl
    obtain ⟨h1, b, h2, ⟨h3, rfl⟩ | h3⟩ := blk n b' h
    · exact ⟨h1, h2, h3⟩
    · obtain ⟨kd, cs⟩ := b'
      simp only at h3
      subst h3
      cases hl
  have cells : ∀ {cs : Cs} {i : Nat} {v x : Value}, nbC N cs = true → cs.list[i]? = some v → VR ρ v x → VR (rhoB ρ N) v x := by
    intro cs i v x hnb hv k
    cases cs with
    | vals l => exact nbV_ok (List.all_eq_true.1 hnb v (List.mem_of_getElem? hv)) k
    | ints xs =>
      obtain ⟨n, _, rfl⟩ := List.mem_map.1 (List.mem_of_getElem? hv)
      obtain rfl := k.plain rfl
      exact .lit rfl
    | bytes xs =>
      obtain ⟨n, _, rfl⟩ := List.mem_map.1 (List.mem_of_getElem? hv)
      obtain rfl := k.plain rfl
      exact .lit rfl
  refine ⟨c1, by rw [c2]; simp [St.fs, cutS, hlen], c3, rhoB ρ N, fun t => ?_, ?_⟩
  · have := ht t
    simp only [St.fs, cutS, List.getD_eq_getElem?_getD] at this ⊢
    rw [keepT_get, Nat.zero_add]
    rcases hx : s.tmps[t]? with _ | v
    · rw [hx] at this
      simp only [Option.map_none, Option.getD_none] at this ⊢
      rw [this.plain rfl]
      exact .lit rfl
    · rw [hx] at this
      simp only [Option.map_some, Option.getD_some] at this ⊢
      split
      · unfold keepV
        split
        · rename_i hnb; exact nbV_ok hnb this
        · exact .top
      · exact .top
  · refine ⟨fun n p hn => ?_, fun n hn => ?_, fun n b' hb' => ?_, fun k k' b b' p p' hk hown hk' hlive hne hp hp' hnp hnp' => ?_⟩
    · have hlt : n < N := by
        rcases Nat.lt_or_ge n N with hlt | hge
        · exact hlt
        · rw [hρ n hge] at hn; cases hn
      simp only [rhoB, hlt, if_true]
      exact hm.ext n p hn
    · by_cases hlt : n < N
      · simp only [rhoB, hlt, if_true]
        refine hm.fresh n ?_
        simp only [St.fs, cutS, List.getD_eq_getElem?_getD] at hn ⊢
        rw [cutM_get, List.getElem?_take_of_lt hlt] at hn
        rcases hx : s.mem[n]? with _ | o
        · rfl
        · rcases o with _ | b
          · rfl
          · simp [hx] at hn
      · simp [rhoB, hlt]
    · by_cases hl : b'.live = true
      · obtain ⟨h1, h2, h3⟩ := live_ n b' hb' hl
        have hr : rhoB ρ N n = ρ n := by simp [rhoB, h1]
        have h4 := hm.ok n b' h2
        obtain ⟨kd, cs⟩ := b'
        cases kd with
        | dead => trivial
        | view =>
          rcases h4 with ⟨p, g1, g2⟩ | ⟨g, f, cp, g1, hq, g2, g3⟩
          · exact .inl ⟨p, hr.trans g1, g2⟩
          · refine .inr ⟨g, f, cp, hr.trans g1, hq, g2, fun i v hv => ?_⟩
            obtain ⟨v', e1, e2⟩ := g3 i v hv
            exact ⟨v', e1, cells h3 hv e2⟩
        | box =>
          obtain ⟨g, g1, g2, arr, e, g3, g4, g5⟩ := h4
          refine ⟨g, hr.trans g1, g2, arr, e, g3, g4, fun i v hv => ?_⟩
          obtain ⟨v', e1, e2⟩ := g5 i v hv
          exact ⟨v', e1, cells h3 hv e2⟩
        | row e sz =>
          rcases h4 with ⟨p, g1, g2⟩ | ⟨g, cap, g1, g2, arr, g3, g4, g5⟩
          · exact .inl ⟨p, hr.trans g1, g2⟩
          · refine .inr ⟨g, cap, hr.trans g1, g2, arr, g3, g4, fun i v hv => ?_⟩
            obtain ⟨v', e1, e2⟩ := g5 i v hv
            exact ⟨v', e1, cells h3 hv e2⟩
      · obtain ⟨kd, cs⟩ := b'
        cases kd with
        | dead => trivial
        | _ => exact absurd rfl hl
    · obtain ⟨h1, h2, _⟩ := live_ k b hk (own_live hown)
      obtain ⟨h1', h2', _⟩ := live_ k' b' hk' hlive
      simp only [rhoB, h1, h1', if_true] at hp hp'
      exact hm.sep k k' b b' p p' h2 hown h2' hlive hne hp hp' hnp hnp'
theorem weak_con {N : Nat} {π : List (Option Nat)} {s s' : St} (h : WS N π s s') {w0 : Start} {a : Act} {w : World} (hρ : ∀ n, N ≤ n → w0.ρ0 n = none) (hc : Con w0 s.fs a w) : Con w0 s'.fs a w :=
  let ⟨hr, w1, h1, h2⟩ := hc; ⟨hr, w1, h1, weak_conc h (fun n hn => by rw [h1.ρ0]; exact hρ n hn) h2⟩
theorem con_dom {s : St} {w0 : Start} {a : Act} {w : World} (hc : Con w0 s.fs a w) : ∀ n, s.mem.length ≤ n → w0.ρ0 n = none :=
  let ⟨_, _, h1, h2⟩ := hc; fun n hn => by have := conc_dom h2 n hn; rwa [h1.ρ0] at this
theorem cut_con {N : Nat} {l : List Nat} {s : St} {w0 : Start} {a : Act} {w : World} (hρ : ∀ n, N ≤ n → w0.ρ0 n = none) (hc : Con w0 s.fs a w) : Con w0 (cutS N l s).fs a w :=
  let ⟨hr, w1, h1, h2⟩ := hc; ⟨hr, w1, h1, cut_conc (fun n hn => by rw [h1.ρ0]; exact hρ n hn) h2⟩
/-- A loop whose heads are known: each round goes on to a head that stands for fewer rounds and the same end, or ends. -/
theorem loop_det {P : Program} {c : Code} {N : Nat} {X : Type} (St_of : X → St) (Inv : X → Prop) (μ : X → Nat) (re : X → Ex) (rs : X → St) (keep : Ex → List Nat)
    (h : ∀ x, Inv x → ∃ e' s', Det P c (St_of x) e' s' ∧ match e' with
      | .normal => ∃ x' π, Inv x' ∧ μ x' < μ x ∧ re x' = re x ∧ rs x' = rs x ∧ WS N π (cutS (St_of x).mem.length (keep .normal) s') (St_of x')
      | e => e = re x ∧ ∃ π, WS N π (cutS (St_of x).mem.length (keep e) s') (rs x))
    {x : X} (hx : Inv x) {s : St} {π : List (Option Nat)} (hN : s.mem.length = N) (hs : WS N π s (St_of x)) : Det P (.loop c) s (re x) (rs x) := by
  intro w0 a w hc
  have hρ := con_dom hc
  rw [hN] at hρ
  have hρ' : ∀ {x' π' s'}, WS N π' s' (St_of x') → ∀ n, (St_of x').mem.length ≤ n → w0.ρ0 n = none := fun h n hn => hρ n (Nat.le_trans (Nat.le_of_ble_eq_true h.1) hn)
  refine wpIn_loop_ghost (fun n a w => ∃ x', Inv x' ∧ μ x' = n ∧ re x' = re x ∧ rs x' = rs x ∧ (∀ n, (St_of x').mem.length ≤ n → w0.ρ0 n = none) ∧ Con w0 (St_of x').fs a w) (μ x) ⟨x, hx, rfl, rfl, rfl, hρ' hs, weak_con hs hρ hc⟩ ?_
  rintro n a w ⟨x', hI, rfl, hre, hrs, hdom, hcc⟩
  obtain ⟨e', s', hd, hend⟩ := h x' hI
  refine wpIn_mono (hd w0 a w hcc) ?_
  rintro e a' w' ⟨rfl, hcc'⟩
  cases e' with
  | normal =>
    obtain ⟨x2, π2, g1, g2, g3, g4, g5⟩ := hend
    exact ⟨_, g2, x2, g1, rfl, g3.trans hre, g4.trans hrs, hρ' g5, weak_con g5 hρ (cut_con hdom hcc')⟩
  | exit id =>
    obtain ⟨g1, π2, g2⟩ := hend
    exact ⟨by rw [← hre, ← g1], by rw [← hrs]; exact weak_con g2 hρ (cut_con hdom hcc')⟩
  | ret =>
    obtain ⟨g1, π2, g2⟩ := hend
    exact ⟨by rw [← hre, ← g1], by rw [← hrs]; exact weak_con g2 hρ (cut_con hdom hcc')⟩
/-- Rounds of a loop, to its end. -/
inductive Chain (P : Program) (c : Code) : Nat → St → Ex → St → Prop where
  | stop {n : Nat} {s s' : St} {e : Ex} (h : Det P c s e s') (hne : e ≠ .normal) : Chain P c (n + 1) s e s'
  | more {n : Nat} {s s1 s' : St} {e : Ex} (h : Det P c s .normal s1) (hc : Chain P c n s1 e s') : Chain P c (n + 1) s e s'
theorem Chain.det {P : Program} {c : Code} {n : Nat} {s s' : St} {e : Ex} (h : Chain P c n s e s') : Det P (.loop c) s e s' := by
  intro w0 a w hc
  refine wpIn_loop_ghost (fun n a w => ∃ u, Chain P c n u e s' ∧ Con w0 u.fs a w) n ⟨s, h, hc⟩ ?_
  rintro n a w ⟨u, hu, hcc⟩
  cases hu with
  | stop h hne =>
    refine wpIn_mono (h w0 a w hcc) ?_
    rintro e2 a' w' ⟨rfl, hcc'⟩
    cases e with
    | normal => exact absurd rfl hne
    | exit id => exact ⟨rfl, hcc'⟩
    | ret => exact ⟨rfl, hcc'⟩
  | @more n _ s1 _ _ h hch =>
    refine wpIn_mono (h w0 a w hcc) ?_
    rintro e2 a' w' ⟨rfl, hcc'⟩
    exact ⟨n, by omega, s1, hch, hcc'⟩
end Go.Proofs.Ytoijfjifaljpaab
