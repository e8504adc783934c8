/-
  The small machine beside the model's: what a run of code, of a body, of a function says. Written by an AI agent.
-/
import Derived.Test.YtkbbdcgknebdbabAbsH
namespace Go.Proofs.Ytkbbdcgknebdbab
open Go.RowKit

def Ex.out : Ex → Exit
  | .normal => .normal
  | .exit id => .exit id
  | .ret => .ret
/-- The assertion on frames and worlds that a way on stands for. -/
def Lift (w0 : World) (k : Ex → St → Tree) (F : Ex → St → Prop) (H : Value → List (Option Blk) → Prop) : Exit → Act → World → Prop := fun e a w => ∃ s e', e = e'.out ∧ (k e' s).ok F H ∧ Conc w0 s.fs a w
theorem evalO_is {s : St} {c : Operand} {t : Bool} {w0 : World} {a : Act} {w : World} (hc : Conc w0 s.fs a w) (ht : evalO s c = .bool t) : a.eval c = .bool t := by
  obtain ⟨h1, h2, h3, ρ, h4, h5⟩ := hc
  cases c with
  | tmp n =>
    have := (h4 n).plain (by
      show plainV (s.tmps.getD n undef) = true
      rw [show s.tmps.getD n undef = .bool t from ht]; rfl)
    rw [eval_tmp, this]
    exact ht
  | const v => exact ht
  | global g => cases ht
  | func f => cases ht
theorem runA_sound {P : Program} {call : CallK} (hcall : CallOk P call) (hm : P.follows .mixedOrders = true) {lp : Option Nat} {w0 : World} : ∀ (c : Code) (k : Ex → St → Tree) (F : Ex → St → Prop) (H : Value → List (Option Blk) → Prop) (s : St) (a : Act) (w : World),
    (runA P call lp c k s).ok F H → Conc w0 s.fs a w → c.wp P (Lift w0 k F H) a w := by
  obtain ⟨G, K, hGs, hGK, hGv⟩ := allG P
  intro c
  induction c with
  | skip => intro k F H s a w h hc; exact wp_skip ⟨s, .normal, rfl, h, hc⟩
  | region id ops draw =>
    intro k F H s a w h hc
    obtain ⟨s', C, hr, h1, h2⟩ := regionT_ok hcall hGK hGv h
    have := region_run (aop_sound hGs) hm hr h1 hc (Q := Lift w0 k F H) (id := id) fun a' w' hcc => ⟨s', .normal, rfl, h2, hcc⟩
    simpa using this
  | seq x y ihx ihy =>
    intro k F H s a w h hc
    refine wp_seq (Code.wp_mono ?_ (ihx _ F H s a w h hc))
    rintro e a' w' ⟨s', e', rfl, hs, hcc⟩
    cases e' with
    | normal => exact ihy k F H s' a' w' hs hcc
    | exit id => exact ⟨s', .exit id, rfl, hs, hcc⟩
    | ret => exact ⟨s', .ret, rfl, hs, hcc⟩
  | cond c x y ihx ihy =>
    intro k F H s a w h hc
    simp only [runA] at h
    split at h
    · rename_i t ht
      obtain ⟨h1, h2⟩ := brT_ok.1 h
      exact wp_cond_split (evalO_is hc ht) (fun e => ihx k F H s a w (h1 e) hc) (fun e => ihy k F H s a w (h2 e) hc)
    · exact h.elim
  | block id c ih =>
    intro k F H s a w h hc
    refine wp_block (Code.wp_mono ?_ (ih _ F H s a w h hc))
    rintro e a' w' ⟨s', e', rfl, hs, hcc⟩
    cases e' with
    | exit id' =>
      simp only [Ex.out, Exit.inBlock] at hs ⊢
      split at hs
      · rename_i he
        rw [if_pos (Nat.eq_of_beq_eq_true he)]
        exact ⟨s', .normal, rfl, hs, hcc⟩
      · rename_i he
        rw [if_neg (fun e => by subst e; simp at he)]
        exact ⟨s', .exit id', rfl, hs, hcc⟩
    | normal => exact ⟨s', .normal, rfl, hs, hcc⟩
    | ret => exact ⟨s', .ret, rfl, hs, hcc⟩
  | loop c ih =>
    intro k F H s a w h hc
    cases lp with
    | none =>
      obtain ⟨I, n, h0, hr⟩ := h
      refine wp_loop_ghost (fun n a w => ∃ s, I n s ∧ Conc w0 s.fs a w) n ⟨s, h0, hc⟩ ?_
      rintro n a w ⟨s, hI, hcc⟩
      refine Code.wp_mono ?_ (ih .leaf _ _ s a w (hr n s hI) hcc)
      rintro e a' w' ⟨s', e', rfl, hs, hcc'⟩
      cases e' with
      | normal =>
        obtain ⟨n', hlt, hI'⟩ := hs
        exact ⟨n', hlt, s', hI', hcc'⟩
      | exit id => exact ⟨s', .exit id, rfl, hs, hcc'⟩
      | ret => exact ⟨s', .ret, rfl, hs, hcc'⟩
    | some m =>
      rw [runA_rounds] at h
      refine wp_loop_ghost (fun n a w => ∃ s, (roundsT P call (some m) c k n s).ok F H ∧ Conc w0 s.fs a w) m ⟨s, h, hc⟩ ?_
      rintro n a w ⟨s, hI, hcc⟩
      cases n with
      | zero => exact hI.elim
      | succ n =>
        refine Code.wp_mono ?_ (ih _ _ _ s a w hI hcc)
        rintro e a' w' ⟨s', e', rfl, hs, hcc'⟩
        cases e' with
        | normal => exact ⟨n, by omega, s', hs, hcc'⟩
        | exit id => exact ⟨s', .exit id, rfl, hs, hcc'⟩
        | ret => exact ⟨s', .ret, rfl, hs, hcc'⟩
  | exit id => intro k F H s a w h hc; exact wp_exit ⟨s, .exit id, rfl, h, hc⟩
  | ret => intro k F H s a w h hc; exact wp_ret ⟨s, .ret, rfl, h, hc⟩
  | _ => intro k F H s a w h hc; exact h.elim

/-- A piece of code comes from one state to one end at another, whatever the frame and the world. -/
def Det (P : Program) (c : Code) (s : St) (e' : Ex) (s' : St) : Prop := ∀ w0 a w, Conc w0 s.fs a w → c.wp P (fun e a w => e = e'.out ∧ Conc w0 s'.fs a w) a w
/-- Rounds of a loop, to its end. -/
inductive Chain (P : Program) (c : Code) : Nat → St → Ex → St → Prop where
  | stop {n : Nat} {s s' : St} {e : Ex} (h : Det P c s e s') (hne : e ≠ .normal) : Chain P c (n + 1) s e s'
  | more {n : Nat} {s s1 s' : St} {e : Ex} (h : Det P c s .normal s1) (hc : Chain P c n s1 e s') : Chain P c (n + 1) s e s'
theorem Chain.det {P : Program} {c : Code} {n : Nat} {s s' : St} {e : Ex} (h : Chain P c n s e s') : Det P (.loop c) s e s' := by
  intro w0 a w hc
  refine wp_loop_ghost (fun n a w => ∃ u, Chain P c n u e s' ∧ Conc w0 u.fs a w) n ⟨s, h, hc⟩ ?_
  rintro n a w ⟨u, hu, hcc⟩
  cases hu with
  | stop h hne =>
    refine Code.wp_mono ?_ (h w0 a w hcc)
    rintro e2 a' w' ⟨rfl, hcc'⟩
    cases e with
    | normal => exact absurd rfl hne
    | exit id => exact ⟨rfl, hcc'⟩
    | ret => exact ⟨rfl, hcc'⟩
  | @more n _ s1 _ _ h hch =>
    refine Code.wp_mono ?_ (h w0 a w hcc)
    rintro e2 a' w' ⟨rfl, hcc'⟩
    exact ⟨n, by omega, s1, hch, hcc'⟩
/-- Code whose loops are run: one end, whatever the frame and the world. -/
theorem runA_det {P : Program} {call : CallK} (hcall : CallOk P call) (hm : P.follows .mixedOrders = true) {m : Nat} : ∀ (c : Code) (k : Ex → St → Tree) (F : Ex → St → Prop) (H : Value → List (Option Blk) → Prop) (s : St), (runA P call (some m) c k s).ok F H →
    ∃ e' s', (k e' s').ok F H ∧ Det P c s e' s' := by
  obtain ⟨G, K, hGs, hGK, hGv⟩ := allG P
  intro c
  induction c with
  | skip => intro k F H s h; exact ⟨.normal, s, h, fun w0 a w hc => wp_skip ⟨rfl, hc⟩⟩
  | region id ops draw =>
    intro k F H s h
    obtain ⟨s', C, hr, h1, h2⟩ := regionT_ok hcall hGK hGv h
    refine ⟨.normal, s', h2, fun w0 a w hc => ?_⟩
    have := region_run (aop_sound hGs) hm hr h1 hc (Q := fun e a w => e = Ex.normal.out ∧ Conc w0 s'.fs a w) (id := id) fun a' w' hcc => ⟨rfl, hcc⟩
    simpa using this
  | seq x y ihx ihy =>
    intro k F H s h
    obtain ⟨e1, s1, h1, h2⟩ := ihx _ F H s h
    cases e1 with
    | normal =>
      obtain ⟨e2, s2, h3, h4⟩ := ihy k F H s1 h1
      refine ⟨e2, s2, h3, fun w0 a w hc => wp_seq (Code.wp_mono ?_ (h2 w0 a w hc))⟩
      rintro e a' w' ⟨rfl, hcc⟩
      exact h4 w0 a' w' hcc
    | exit id =>
      refine ⟨.exit id, s1, h1, fun w0 a w hc => wp_seq (Code.wp_mono ?_ (h2 w0 a w hc))⟩
      rintro e a' w' ⟨rfl, hcc⟩
      exact ⟨rfl, hcc⟩
    | ret =>
      refine ⟨.ret, s1, h1, fun w0 a w hc => wp_seq (Code.wp_mono ?_ (h2 w0 a w hc))⟩
      rintro e a' w' ⟨rfl, hcc⟩
      exact ⟨rfl, hcc⟩
  | cond c x y ihx ihy =>
    intro k F H s h
    simp only [runA] at h
    split at h
    · rename_i t ht
      obtain ⟨h1, h2⟩ := brT_ok.1 h
      cases t with
      | true =>
        obtain ⟨e1, s1, h3, h4⟩ := ihx k F H s (h1 rfl)
        exact ⟨e1, s1, h3, fun w0 a w hc => wp_cond_true (evalO_is hc ht) (h4 w0 a w hc)⟩
      | false =>
        obtain ⟨e1, s1, h3, h4⟩ := ihy k F H s (h2 rfl)
        exact ⟨e1, s1, h3, fun w0 a w hc => wp_cond_false (evalO_is hc ht) (h4 w0 a w hc)⟩
    · exact h.elim
  | block id c ih =>
    intro k F H s h
    obtain ⟨e1, s1, h1, h2⟩ := ih _ F H s h
    cases e1 with
    | exit id' =>
      simp only at h1
      split at h1
      · rename_i he
        refine ⟨.normal, s1, h1, fun w0 a w hc => wp_block (Code.wp_mono ?_ (h2 w0 a w hc))⟩
        rintro e a' w' ⟨rfl, hcc⟩
        show Exit.inBlock id _ (.exit id') a' w'
        dsimp only [Exit.inBlock]
        rw [if_pos (Nat.eq_of_beq_eq_true he)]
        exact ⟨rfl, hcc⟩
      · rename_i he
        refine ⟨.exit id', s1, h1, fun w0 a w hc => wp_block (Code.wp_mono ?_ (h2 w0 a w hc))⟩
        rintro e a' w' ⟨rfl, hcc⟩
        show Exit.inBlock id _ (.exit id') a' w'
        dsimp only [Exit.inBlock]
        rw [if_neg (fun e => by subst e; simp at he)]
        exact ⟨rfl, hcc⟩
    | normal =>
      refine ⟨.normal, s1, h1, fun w0 a w hc => wp_block (Code.wp_mono ?_ (h2 w0 a w hc))⟩
      rintro e a' w' ⟨rfl, hcc⟩
      exact ⟨rfl, hcc⟩
    | ret =>
      refine ⟨.ret, s1, h1, fun w0 a w hc => wp_block (Code.wp_mono ?_ (h2 w0 a w hc))⟩
      rintro e a' w' ⟨rfl, hcc⟩
      exact ⟨rfl, hcc⟩
  | loop c ih =>
    intro k F H s h
    rw [runA_rounds] at h
    have key : ∀ n s, (roundsT P call (some m) c k n s).ok F H → ∃ e' s', (k e' s').ok F H ∧ Chain P c n s e' s' := by
      intro n
      induction n with
      | zero => intro s h; exact h.elim
      | succ n ihn =>
        intro s h
        obtain ⟨e1, s1, h1, h2⟩ := ih _ F H s h
        cases e1 with
        | normal =>
          obtain ⟨e2, s2, h3, h4⟩ := ihn s1 h1
          exact ⟨e2, s2, h3, .more h2 h4⟩
        | exit id => exact ⟨.exit id, s1, h1, .stop h2 (by simp)⟩
        | ret => exact ⟨.ret, s1, h1, .stop h2 (by simp)⟩
    obtain ⟨e', s', h1, h2⟩ := key m s h
    exact ⟨e', s', h1, h2.det⟩
  | exit id => intro k F H s h; exact ⟨.exit id, s, h, fun w0 a w hc => wp_exit ⟨rfl, hc⟩⟩
  | ret => intro k F H s h; exact ⟨.ret, s, h, fun w0 a w hc => wp_ret ⟨rfl, hc⟩⟩
  | _ => intro k F H s h; exact h.elim

/-- A body run from the memory at hand, its results read at the end. -/
def runF (P : Program) (call : CallK) (lp : Option Nat) (c : Code) (l : List ResultVar) (n : Nat) (args : List Value) (mem : List (Option Blk)) (k : Value → List (Option Blk) → Tree) : Tree :=
  runA P call lp c (fun e s => match e with
    | .normal => finT P l s k
    | .ret => finT P l s k
    | .exit _ => .bad) { tmps := args ++ List.replicate (n - args.length) undef, mem := mem }
where finT (P : Program) (l : List ResultVar) (s : St) (k : Value → List (Option Blk) → Tree) : Tree := match resV P s l with
  | none => .bad
  | some v => k v s.mem
def codeOf (f : Func) : Code := f.body.getD .skip
theorem start_conc {n : Nat} {args : List Value} {mem : List (Option Blk)} {w0 w : World} {ρ : Nat → Option Pl} {args' : Array Value} (ha : VRs ρ args args') (hmem : MemOk ρ w0.heap.size (fun n => mem.getD n none) w) (hbel : Below w0.heap.size w0 w) :
    Conc w0 (St.fs { tmps := args ++ List.replicate (n - args.length) undef, mem := mem }) { tmps := args' ++ Array.replicate (n - args'.size) undef, defers := [] } w := by
  refine ⟨rfl, by simp [St.fs, ha.1], hbel, ρ, fun t => ?_, hmem⟩
  simp only [St.fs, List.getD_eq_getElem?_getD]
  by_cases ht : t < args.length
  · have h1 : args[t]? = some args[t] := by simp
    have ht' : t < args'.size := by rw [← ha.1]; exact ht
    have h2 : args'[t]? = some args'[t] := by simp [ht']
    have := ha.2 t _ _ h1 h2
    rw [List.getElem?_append_left ht, h1]
    simpa [Array.getElem?_append, ht'] using this
  · have ht' : ¬ t < args'.size := by rw [← ha.1]; exact ht
    rw [List.getElem?_append_right (by omega)]
    have e1 : ((List.replicate (n - args.length) undef)[t - args.length]?).getD undef = undef := by
      rw [List.getElem?_replicate]
      split <;> rfl
    rw [e1]
    have e2 : (args' ++ Array.replicate (n - args'.size) undef).getD t undef = undef := by
      simp only [Array.getD_eq_getD_getElem?, Array.getElem?_append, ht', if_false, Array.getElem?_replicate]
      split <;> rfl
    rw [e2]
    exact .lit rfl
theorem memOk_none (B : Nat) (w : World) : MemOk (fun _ => none) B (fun n => ([] : List (Option Blk)).getD n none) w where
  fresh := fun _ _ => rfl
  ok := fun n b h => by simp at h
  sep := fun n n' b b' p p' h => by simp at h
/-- The state in which a call with arguments laid open begins. -/
def argVal : Nat → DArg → Value
  | _, .v x => x
  | i, .row l _ => .slice (some ⟨i, 0, none⟩) l l
def argBlk : DArg → Option Blk
  | .v _ => none
  | .row _ cs => some ⟨.view, cs⟩
def argVals : Nat → List DArg → List Value
  | _, [] => []
  | i, d :: r => argVal i d :: argVals (i + 1) r
theorem argVals_get : ∀ (ds : List DArg) (k i : Nat), (argVals k ds)[i]? = (ds[i]?).map (argVal (k + i))
  | [], k, i => by simp [argVals]
  | d :: r, k, i => by
    cases i with
    | zero => simp [argVals]
    | succ i =>
      simp only [argVals, List.getElem?_cons_succ]
      rw [argVals_get r (k + 1) i, show k + 1 + i = k + (i + 1) by omega]
theorem argVals_length : ∀ (ds : List DArg) (k : Nat), (argVals k ds).length = ds.length
  | [], _ => rfl
  | _ :: r, k => by simp [argVals, argVals_length r]
theorem args_open {w : World} {ds : List DArg} {args : Array Value} (h : DOks w ds args) (B : Nat) : ∃ ρ, VRs ρ (argVals 0 ds) args ∧ MemOk ρ B (fun n => (ds.map argBlk).getD n none) w := by
  let ρ : Nat → Option Pl := fun n => match ds[n]?, args[n]? with
    | some (.row _ _), some (.slice (some ad) _ _) => some (ad.block, ad.off, none)
    | _, _ => none
  have hρ : ∀ n l cs, ds[n]? = some (.row l cs) → ∃ g f c', args[n]? = some (.slice (some ⟨g, f, none⟩) l c') ∧ l ≤ c' ∧ g < w.heap.size ∧ ρ n = some (g, f, none) ∧ allAtoms cs = true ∧ ∀ (k : Nat) v, cs.list[k]? = some v → w.cell? ⟨g, f + k, none⟩ = some v := by
    intro n l cs hn
    have hlt : n < args.size := by
      rw [← h.1]
      rcases Nat.lt_or_ge n ds.length with h' | h'
      · exact h'
      · simp [List.getElem?_eq_none h'] at hn
    have ha : args[n]? = some args[n] := by simp [hlt]
    obtain ⟨hat, g, f, c', h1, h2, h3, h4⟩ := h.2 n _ _ hn ha
    refine ⟨g, f, c', by rw [ha, h1], h2, h3, ?_, hat, h4⟩
    simp only [ρ, hn, ha, h1]
  refine ⟨ρ, ⟨by rw [argVals_length]; exact h.1, fun i v v' hv hv' => ?_⟩, ⟨fun n hn => ?_, fun n b hn => ?_, fun n n' b b' p p' hn hown => ?_⟩⟩
  · rw [argVals_get, Nat.zero_add] at hv
    rcases hd : ds[i]? with _ | d
    · simp [hd] at hv
    rw [hd] at hv
    obtain rfl : argVal i d = v := by simpa using hv
    cases d with
    | v x =>
      obtain ⟨hp, rfl⟩ := h.2 i _ _ hd hv'
      exact .lit hp
    | row l cs =>
      obtain ⟨g, f, c', h1, h2, h3, h4, _⟩ := hρ i l cs hd
      rw [h1] at hv'
      obtain rfl : Value.slice (some ⟨g, f, none⟩) l c' = v' := by simpa using hv'
      exact .slice (o := 0) h4 h2 (fun k hk => by simp at hk)
  · rcases hd : ds[n]? with _ | d
    · simp only [ρ, hd]
    · cases d with
      | v x => simp only [ρ, hd]
      | row l cs => simp [hd, argBlk] at hn
  · rcases hd : ds[n]? with _ | d
    · simp [hd] at hn
    · cases d with
      | v x => simp [hd, argBlk] at hn
      | row l cs =>
        have hb : b = ⟨.view, cs⟩ := by
          have : some (⟨.view, cs⟩ : Blk) = some b := by simpa [hd, argBlk] using hn
          simpa using this.symm
        subst hb
        obtain ⟨g, f, c', h1, h2, h3, h4, hat, h5⟩ := hρ n l cs hd
        exact ⟨g, f, none, h4, h3, fun k v hv => ⟨v, h5 k v hv, .lit (plain_of_atom (allAtoms_spec hat v (List.mem_of_getElem? hv)))⟩⟩
  · exfalso
    rcases hd : ds[n]? with _ | d
    · simp [hd] at hn
    · cases d with
      | v x => simp [hd, argBlk] at hn
      | row l cs =>
        have hb : b = ⟨.view, cs⟩ := by
          have : some (⟨.view, cs⟩ : Blk) = some b := by simpa [hd, argBlk] using hn
          simpa using this.symm
        subst hb
        cases hown

/-- Is f a function of the text that can be entered? -/
def entersB (P : Program) (f : FuncId) : Bool :=
  match P.funcs[f]? with
  | some fn => !(fn.name == "runtime.NumGoroutine") && fn.body.isSome && (P.inits.idxOf? f).isNone
  | none => false
def DArg.goodB : DArg → Bool
  | .v x => plainV x
  | .row _ cs => allAtoms cs
/-- A table of what is known of functions. -/
abbrev Tab := FuncId → List DArg → Option (Value × List Prop)
/-- The table is sound. -/
def TabOk (P : Program) (B : Tab) : Prop := ∀ f ds v C, B f ds = some (v, C) → AllP C → Res P f ds v
/-- A function run in place to a depth, its loops that many rounds at most; the table is asked first. -/
def runX (P : Program) (B : Tab) (m : Nat) : Nat → CallK
  | 0, f, ds, k => match B f ds with
    | some (v, C) => needs C (k v)
    | none => .bad
  | n + 1, f, ds, k => match B f ds with
    | some (v, C) => needs C (k v)
    | none => match P.funcs[f]?, entersB P f, ds.all DArg.goodB with
      | some fn, true, true => runF P (runX P B m n) (some m) (codeOf fn) fn.results.toList fn.ntmps (argVals 0 ds) (ds.map argBlk) fun v _ => match plainV v with
        | true => k v
        | false => .bad
      | _, _, _ => .bad
theorem entersB_spec {P : Program} {f : FuncId} {fn : Func} (hf : P.funcs[f]? = some fn) (h : entersB P f = true) : enters P f ∧ P.inits.idxOf? f = none ∧ ∃ c, fn.body = some c ∧ codeOf fn = c := by
  unfold entersB at h
  rw [hf] at h
  simp only [Bool.and_eq_true, Bool.not_eq_true'] at h
  obtain ⟨⟨h1, h2⟩, h3⟩ := h
  obtain ⟨c, hc⟩ := Option.isSome_iff_exists.1 h2
  refine ⟨enters_of hf h1 (by simp [hc]), by simpa using h3, c, hc, by simp [codeOf, hc]⟩
theorem goodB_good {d : DArg} (h : d.goodB = true) : d.good := by
  cases d <;> exact h
theorem runX_ok {P : Program} (hm : P.follows .mixedOrders = true) {B : Tab} (hB : TabOk P B) (m : Nat) : ∀ n, CallOk P (runX P B m n) := by
  intro n
  induction n with
  | zero =>
    intro f ds k F H h
    simp only [runX] at h
    split at h
    · rename_i v C hv
      obtain ⟨h1, h2⟩ := needs_ok h
      exact ⟨v, hB f ds v C hv h1, h2⟩
    · exact h.elim
  | succ n ih =>
    intro f ds k F H h
    simp only [runX] at h
    split at h
    · rename_i v C hv
      obtain ⟨h1, h2⟩ := needs_ok h
      exact ⟨v, hB f ds v C hv h1, h2⟩
    split at h
    rotate_left
    · exact h.elim
    rename_i fn hf hen hpl
    obtain ⟨h1, h2, c, hbody, hcode⟩ := entersB_spec hf hen
    unfold runF at h
    rw [hcode] at h
    obtain ⟨e', s', hk, hdet⟩ := runA_det ih hm c _ F H _ h
    have fin : (e' = .normal ∨ e' = .ret) ∧ ∃ v, resV P s' fn.results.toList = some v ∧ plainV v = true ∧ (k v).ok F H := by
      have key : (runF.finT P fn.results.toList s' fun v _ => match plainV v with
          | true => k v
          | false => .bad).ok F H → ∃ v, resV P s' fn.results.toList = some v ∧ plainV v = true ∧ (k v).ok F H := by
        intro hk
        unfold runF.finT at hk
        split at hk
        · exact hk.elim
        rename_i v hv
        dsimp only at hk
        split at hk
        · rename_i hpv
          exact ⟨v, hv, hpv, hk⟩
        · exact hk.elim
      cases e' with
      | normal => exact ⟨.inl rfl, key hk⟩
      | ret => exact ⟨.inr rfl, key hk⟩
      | exit id => exact hk.elim
    obtain ⟨he', v, hv, hpv, hkv⟩ := fin
    refine ⟨v, ⟨h1, h2, hpv, fun d hd => goodB_good (List.all_eq_true.1 hpl d hd), fun w args hargs => ?_⟩, hkv⟩
    obtain ⟨ρ, ha, hmem⟩ := args_open hargs w.heap.size
    refine calls_of_wp hf hbody (Code.wp_mono ?_ (hdet w _ w (start_conc ha hmem (Below.refl _ _))))
    rintro e a' w' ⟨rfl, c1, c2, c3, ρ', c4, c5⟩
    obtain ⟨v', k1, k2⟩ := resV_run (fn := fn) (l := fn.results.toList) (by simp) hv c4 c5
    obtain rfl := k2.plain hpv
    rcases he' with rfl | rfl <;> exact ⟨c1, v', k1, rfl, c3⟩

/-- What a function's tree says is what it answers. -/
theorem res_of {P : Program} (hm : P.follows .mixedOrders = true) {B : Tab} (hB : TabOk P B) {m n : Nat} {f : FuncId} {ds : List DArg} {v : Value}
    (h : (runX P B m n f ds fun u => .fin u []).ok (fun _ _ => False) (fun u _ => u = v)) : Res P f ds v := by
  obtain ⟨u, hu, hk⟩ := runX_ok hm hB m n f ds _ _ _ h
  obtain rfl : u = v := hk
  exact hu
/-- A call with plain arguments. -/
theorem Res.plain_call {P : Program} {f : FuncId} {args : List Value} {v : Value} (h : Res P f (args.map .v) v) (hp : args.all plainV = true) (w : World) : Calls P f args.toArray w fun e w' => e = .returned v ∧ Below w.heap.size w w' := by
  refine h.2.2.2.2 w args.toArray ⟨by simp, fun i d y hd hy => ?_⟩
  have hy' : args[i]? = some y := by simpa using hy
  rw [List.getElem?_map, hy'] at hd
  obtain rfl : DArg.v y = d := by simpa using hd
  exact ⟨List.all_eq_true.1 hp y (List.mem_of_getElem? hy'), rfl⟩
end Go.Proofs.Ytkbbdcgknebdbab
