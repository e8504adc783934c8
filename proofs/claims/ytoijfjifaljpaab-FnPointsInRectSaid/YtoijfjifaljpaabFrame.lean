/-
  What every law of this seat shares on the row's side: arguments made of integers are opened out of the form's own promise on values; arguments read behind the call as they read before; the row's post. Written by an AI agent.
-/
import Derived.Test.YtoijfjifaljpaabRows
import Derived.WalkKit
import Derived.ProofKit
import Derived.OpenShut
import Derived.Carry
namespace Go.Proofs.Ytoijfjifaljpaab
open Go.ChangeShapes Go.WideShapes Go.ChangeAt Go.RowKit

theorem own : ownKnob Try.prog.godebug = none := by kernel_rfl
theorem laid_out : laidOutB Try.prog = true := by kernel_rfl
theorem u3 : Try.prog.underlying 3 = some (.int .i64) := by kernel_rfl
theorem u4 : Try.prog.underlying 4 = some .bool := by kernel_rfl

/-- An integer that an int holds. -/
def I64 (x : Int) : Prop := -9223372036854775808 ≤ x ∧ x ≤ 9223372036854775807

set_option maxRecDepth 100000 in
theorem cell_int {w : World} {r : Reach} {b : Nat} {v : Value} (h : Cell.okWide Try.prog w r b 3 v) : ∃ n, v = .int .i64 n ∧ I64 n := by
  cases v <;> simp [Cell.okWide, Cell.ok] at h
  rename_i k n
  obtain ⟨rfl, hn⟩ := h
  refine ⟨n, rfl, ?_⟩
  simp [IntKind.has, IntKind.min, IntKind.max, IntKind.signed, IntKind.bits] at hn
  unfold I64
  omega
set_option maxRecDepth 100000 in
theorem val_int {w : World} {r : Reach} {b : Nat} {v : Value} (h : Value.okWide Try.prog w r b 3 v) : ∃ n, v = .int .i64 n ∧ I64 n := by
  simp only [Value.okWide, u3] at h
  exact cell_int h

set_option maxRecDepth 100000 in
/-- A struct all of whose cells are ints. -/
theorem val_agg {t : TypeId} {fs : Array Field} (k : Nat) (hk : 0 < k) (ht : Try.prog.underlying t = some (.struct fs)) (hc : Try.prog.cellsOf t = k) (hct : Try.prog.cellTypes Try.prog.depth t = some (List.replicate k 3))
    {w : World} {r : Reach} {b : Nat} {v : Value} (h : Value.okWide Try.prog w r b t v) :
    ∃ xs : List Int, xs.length = k ∧ v = .agg (xs.map (Value.int .i64)).toArray ∧ ∀ x ∈ xs, I64 x := by
  simp only [Value.okWide, ht] at h
  obtain ⟨cs, rfl, hsz, ts, hts, _, hcell⟩ := h
  rw [hct] at hts
  injection hts with hts
  subst hts
  rw [hc] at hsz
  have each : ∀ v ∈ cs.toList, ∃ n, v = .int .i64 n ∧ I64 n := by
    intro v hv
    obtain ⟨i, hi, rfl⟩ := List.getElem_of_mem hv
    have hi' : i < cs.size := by simpa using hi
    obtain ⟨u, hu, hok⟩ := hcell i cs[i] (by simp [hi'])
    have hu3 : u = 3 := by
      rw [List.length_replicate] at hu
      have hm : i % k < k := Nat.mod_lt _ hk
      simp [hm] at hu
      exact hu.symm
    subst hu3
    obtain ⟨n, hn⟩ := cell_int (w := w) (r := r) (b := b) (v := cs[i]) hok
    exact ⟨n, hn⟩
  have all : ∀ l : List Value, (∀ v ∈ l, ∃ n, v = .int .i64 n ∧ I64 n) → ∃ xs : List Int, l = xs.map (Value.int .i64) ∧ ∀ x ∈ xs, I64 x := by
    intro l
    induction l with
    | nil => exact fun _ => ⟨[], rfl, by simp⟩
    | cons v l ih =>
      intro hl
      obtain ⟨n, rfl, hn⟩ := hl _ (List.mem_cons_self ..)
      obtain ⟨xs, rfl, hxs⟩ := ih fun v hv => hl v (List.mem_cons_of_mem _ hv)
      exact ⟨n :: xs, rfl, by
        intro x hx
        rcases List.mem_cons.1 hx with rfl | hx
        · exact hn
        · exact hxs x hx⟩
  obtain ⟨xs, hxs, hr⟩ := all _ each
  refine ⟨xs, ?_, ?_, hr⟩
  · have := congrArg List.length hxs
    simp at this
    omega
  · rw [← hxs]

theorem two {xs : List Int} (h : xs.length = 2) : ∃ a b, xs = [a, b] := by
  match xs, h with
  | [a, b], _ => exact ⟨a, b, rfl⟩
theorem three {xs : List Int} (h : xs.length = 3) : ∃ a b c, xs = [a, b, c] := by
  match xs, h with
  | [a, b, c], _ => exact ⟨a, b, c, rfl⟩
theorem four {xs : List Int} (h : xs.length = 4) : ∃ a b c d, xs = [a, b, c, d] := by
  match xs, h with
  | [a, b, c, d], _ => exact ⟨a, b, c, d, rfl⟩

section
variable {H : Type} {enc : TypeId × Value → H} {P : Program} {W W' : World}
/-- Below the heap's old size nothing has turned: every argument reads as it did. -/
theorem trodAll_stays (hl : laidOutB P = true) (hb : Below W.heap.size W W') : ∀ {ts : List TypeId} {vs : List Value} {ds : List (DataW H)} {ps : List MemPlace},
    (∀ t ∈ ts, P.readableRec t = true ∧ t < P.types.size) → DataW.TrodAll enc P W 0 (fun _ => true) true ts vs ds ps → (∀ x ∈ ps, x.block < W.heap.size) →
    DataW.TrodAll enc P W' 0 (fun b => decide (b < W.heap.size)) true ts vs ds ps
  | [], _, _, _, _, h, _ => by
    obtain ⟨rfl, rfl, rfl⟩ := trodAll_nil h
    exact trodAll_mk0
  | t :: ts, _, _, _, ht, h, hp => by
    obtain ⟨v, vs1, d, ds1, a, b, rfl, rfl, rfl, h1, h2⟩ := trodAll_cons h
    refine ⟨a, b, ?_, trodAll_stays hl hb (fun t h => ht t (List.mem_cons_of_mem _ h)) h2 fun x hx => hp x (List.mem_append_right _ hx), rfl⟩
    exact Below.trod hl (ht t (List.mem_cons_self ..)).1 (ht t (List.mem_cons_self ..)).2 h1 hb fun x hx => hp x (List.mem_append_left _ hx)

theorem law_post {f : Func} {s : ChangeSpec} {args : Array Value} {ds gs : List (DataW H)} {before : List MemPlace} (hl : laidOutB P = true) (h4 : P.underlying 4 = some .bool) (hr : f.resultTypes = #[4]) (hs : s.vars = [])
    (hts : ∀ t ∈ f.params.toList, P.readableRec t = true ∧ t < P.types.size)
    (hfn : (s.fn H (ds ++ gs)).results = [.lit (.bool true)] ∧ (s.fn H (ds ++ gs)).args = ds ∧ (s.fn H (ds ++ gs)).vars = [])
    (hW : DataW.Whole enc P f.params.toList s.vars false W args.toList ds gs before) (hb : Below W.heap.size W W') :
    s.post enc P f false true false false W args (.bool true) W' := by
  have hlt : ∀ p ∈ before, p.block < W.heap.size := fun p hp => by simpa using hW.lt p hp
  have hW0 := hW
  obtain ⟨p, q, hA, hV, rfl, _, _⟩ := hW0
  rw [hs] at hV
  obtain ⟨rfl, rfl⟩ := trodVars_none hV
  refine ⟨ds, [], _, [], p, [], hW, ?_, ?_, ?_, hb.frame _, fun h => by cases h⟩
  · rw [hfn.1, hr]
    exact trodAll_mk1 (shut_bool h4 _)
  · rw [hfn.2.1]
    exact trodAll_stays hl hb hts hA fun x hx => hlt x (by simpa using hx)
  · rw [hfn.2.2, hs]
    rfl
end
end Go.Proofs.Ytoijfjifaljpaab
