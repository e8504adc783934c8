/-
  Texts that the proof needs, merged. Written by an AI agent.
-/
import Derived.Orders
import Derived.Below
import Derived.OrdersIn
import Derived.Deep.LoopGhost
import Derived.WalkKit
import Derived.Laws.CopyRow
import Derived.Laws.AppendOwn
import Derived.Laws.Slices
import Derived.Laws.MakeOwn
import Derived.Test.YtnlciknmpjikgaaRows
import Derived.ProofKit
import Derived.OpenShut
import Derived.Carry
import Derived.IntWalk
import Derived.Test.YtnlciknmpjikgaaProg
import Derived.WalkSpells
import Derived.WalkLawsBesides
import Derived.Lib.Hide
import Derived.Deep.QuietTactic
import Derived.BigQuiet
import Derived.KernelRfl
import Derived.Deep.RegionHeld3
import Derived.LoopTactic
import Derived.Laws.StructEq
import Derived.Laws.Tables
import Derived.RangeFuncNested
import Derived.RangeFuncLeaves
import Derived.Deep.Slices
import Derived.Deep.Fields
import Derived.ChangeSame
import Derived.Test.YtnlciknmpjikgaaZExactCheckSpanning1
namespace Go.Proofs.Ytnlciknmpjikgaa
set_option linter.all false
open Go.RowKit
open Go.ChangeShapes Go.WideShapes Go.ChangeAt Go.RowKit Go.Deep
/-- A field of a struct's cells. -/
def partV (P : Program) (t : TypeId) (xs : Array Value) (off : Nat) : Option Value :=
  match isAggT P t with
  | some true => (match sizeT P t with
    | some k => some (.agg (xs.extract off (off + k)))
    | none => none)
  | some false => xs[off]?
  | none => none
theorem isAgg_run {P : Program} {t : TypeId} {b : Bool} (hb : isAggT P t = some b) (w : World) : (isAgg t).run P w = .ok b w := by
  unfold isAggT at hb
  unfold isAgg underlying
  split at hb <;> rename_i hu <;> simp [go_sem, hu] at hb ⊢
  · exact hb
  · exact hb
  · exact hb
theorem partV_run {P : Program} {t : TypeId} {xs : Array Value} {off : Nat} {v : Value} (h : partV P t xs off = some v) (w : World) : (part t xs off).run P w = .ok v w := by
  unfold partV at h
  unfold part
  split at h
  · rename_i ha
    split at h
    · rename_i k hk
      obtain rfl : Value.agg (xs.extract off (off + k)) = v := by simpa using h
      unfold sizeT at hk
      rcases hi : P.info? t with _ | i
      · simp [hi] at hk
      simp only [hi, Option.map_some, Option.some.injEq] at hk
      simp [go_sem, isAgg_run ha, sizeOf, typeInfo, hi, hk]
    · cases h
  · rename_i ha
    simp [go_sem, isAgg_run ha, h]
  · cases h
def eqFs (eq : TypeId → Value → Value → Option Bool) (P : Program) (xs ys : Array Value) : List Field → Option Bool
  | [] => some true
  | f :: fs => match f.name == "_" with
    | true => eqFs eq P xs ys fs
    | false => match partV P f.type xs f.offset, partV P f.type ys f.offset with
      | some a, some b => (match eq f.type a b, eqFs eq P xs ys fs with
        | some r, some r' => some (r && r')
        | _, _ => none)
      | _, _ => none
/-- Are two plain values equal? -/
def eqV (P : Program) : Nat → TypeId → Value → Value → Option Bool
  | 0, _, _, _ => none
  | d + 1, t, x, y => match P.underlying t, x, y with
    | some .bool, .bool a, .bool b => some (a == b)
    | some (.int _), .int k a, .int k' b => if k = k' then some (a == b) else none
    | some .string, .string a, .string b => some (a.toList == b.toList)
    | some (.struct fs), .agg xs, .agg ys => (match P.stoodInHeld t with
      | true => none
      | false => eqFs (eqV P d) P xs ys fs.toList)
    | _, _, _ => none
theorem eqV_run {P : Program} : ∀ (n : Nat) (t : TypeId) (x y : Value) (r : Bool), eqV P n t x y = some r → ∀ d, n ≤ d → ∀ w, (Op.equalIn d t x y).run P w = .ok r w
  | 0, _, _, _, _, h, _, _, _ => by simp [eqV] at h
  | n + 1, t, x, y, r, h, d, hd, w => by
    obtain ⟨d, rfl⟩ : ∃ d', d = d' + 1 := ⟨d - 1, by omega⟩
    simp only [eqV] at h
    split at h
    · rename_i hu
      obtain rfl : _ = r := by simpa using h
      exact run_equalIn_bool' w d t _ _ hu
    · rename_i hu
      split at h
      · rename_i hk
        subst hk
        obtain rfl : _ = r := by simpa using h
        exact run_equalIn_int w d t _ _ _ _ hu
      · cases h
    · rename_i hu
      obtain rfl : _ = r := by simpa using h
      exact run_equalIn_string w d t _ _ hu
    · rename_i fs xs ys hu
      split at h
      · cases h
      rename_i hp
      have hf : P.fieldsOf t = fs := by simp [Program.fieldsOf, hu]
      rw [run_equalIn_struct w d t xs ys (by rw [hf]; exact hu) hp, hf]
      have key : ∀ (l : List Field) (r : Bool), eqFs (eqV P n) P xs ys l = some r → ∀ w, (Op.eqFields d xs ys l).run P w = .ok r w := by
        intro l
        induction l with
        | nil =>
          intro r h w
          obtain rfl : true = r := by simpa [eqFs] using h
          rfl
        | cons f l ih =>
          intro r h w
          simp only [eqFs] at h
          split at h
          · rename_i hn
            have hn' : f.name = "_" := by simpa using hn
            simp only [Op.eqFields, ne_eq, hn', not_true_eq_false, if_false]
            exact ih r h w
          · rename_i hn
            have hn' : ¬ f.name = "_" := by simpa using hn
            split at h
            rotate_left
            · cases h
            rename_i a b ha hb
            split at h
            rotate_left
            · cases h
            rename_i q q' hq hq'
            obtain rfl : (q && q') = r := by simpa using h
            simp only [Op.eqFields, ne_eq, hn', not_false_eq_true, if_true, Sem.run_bind, partV_run ha, partV_run hb, Result.andThen_ok, eqV_run n f.type a b q hq d (by omega)]
            cases q
            · rfl
            · simpa using ih q' hq' w
      exact key fs.toList r h w
    · cases h
def negB (neg b : Bool) : Bool :=
  match neg with
  | true => !b
  | false => b
def opB (neg : Bool) : BinOp :=
  match neg with
  | true => .neq
  | false => .eql
def eqOp (P : Program) (o : Oper) (t : TypeId) (x y : Operand) (neg : Bool) : Rd Eff := (rdv x).bind fun vx => (rdv y).bind fun vy => match vx, vy with
  | .agg xs, .agg ys => (match (xs.toList.all atomV && ys.toList.all atomV && !(P.eqGuardType P.depth t)), eqV P 6 t (.agg xs) (.agg ys) with
    | true, some b => .ret ⟨.bool (negB neg b), [], []⟩
    | _, _ => .fail)
  | .slice (some ⟨_, _, none⟩) l _, .slice none 0 0 => (match P.underlying t with
    | some (.slice _) => .ret ⟨.bool (negB neg false), [], [0 < l]⟩
    | _ => .fail)
  | _, _ => plainOp P o
theorem eqNil_guard {P : Program} (op : BinOp) (t : TypeId) (x y : Operand) (ad ad' : Option Addr) (n c n' c' : Nat) (w : World) : (eqGuard op t x y (.slice ad n c) (.slice ad' n' c')).run P w = .ok () w := by
  cases op <;> simp [eqGuard]
theorem eqNil_run {P : Program} (t e : TypeId) (ad : Addr) (n c : Nat) (w : World) (h : P.underlying t = some (.slice e)) (neg : Bool) : (binOp (opB neg) t (.slice (some ad) n c) (.slice none 0 0)).run P w = .ok (.bool (negB neg false)) w := by
  have he : ∀ d, (Op.equalIn (d + 1) t (.slice (some ad) n c) (.slice none 0 0)).run P w = .ok false w := fun d => by simp [Op.equalIn, run_underlying h]
  cases neg
  · simp only [opB, negB, binOp]
    simp [Op.equal, Op.maxDepth, he 9999]
  · simp only [opB, negB, binOp]
    simp [Op.equal, Op.maxDepth, he 9999]
theorem eqOp_sound {P : Program} {name : Nat} {o : Oper} {t u : TypeId} {x y : Operand} {neg : Bool} (ho : o.op = .binOp (opB neg) t x y u) {s : FS} {eff : Eff} {w0 : Start} {a : Act} {w : World} {Q : Exit → Act → World → Prop} {K : Act → World → Prop}
    (hr : (eqOp P o t x y neg).run s = some eff) (hn : s.blk name = none) (hc : Conc w0 s a w) (hcond : eff.cond) (hK : ∀ a' w', Conc w0 (s.upd o.dst eff) a' w' → K a' w') : owp P w0 o a w K Q := by
  obtain ⟨ρ, ht, hm⟩ := hc.2.2.2
  obtain ⟨vx, h1, h2⟩ := bind_some hr
  obtain ⟨vy, h3, h4⟩ := bind_some h2
  split at h4
  · rename_i xs ys
    split at h4
    rotate_left
    · simp [Rd.run] at h4
    rename_i b hpl hb
    obtain rfl : (⟨.bool (negB neg b), [], []⟩ : Eff) = eff := by simpa [Rd.run] using h4
    simp only [Bool.and_eq_true, Bool.not_eq_true'] at hpl
    obtain ⟨⟨p1, p2⟩, p3⟩ := hpl
    have e1 : a.eval x = .agg xs := (rdv_ok h1 ht).plain p1
    have e2 : a.eval y = .agg ys := (rdv_ok h3 ht).plain p2
    refine value_wp (v := .bool (negB neg b)) (w' := w) ?_ (hK _ _ (quiet_conc hc ht hm (.lit rfl)))
    cases neg with
    | true => simp only [execOp, ho, opB, negB, e1, e2, Sem.run_bind, run_eqGuard_agg w .neq t x y xs ys p3, Result.andThen_ok, run_neq_struct, eqV_run 6 t _ _ b hb 10000 (by omega), Sem.run_pure]
    | false => simp only [execOp, ho, opB, negB, e1, e2, Sem.run_bind, run_eqGuard_agg w .eql t x y xs ys p3, Result.andThen_ok, run_eql_struct, eqV_run 6 t _ _ b hb 10000 (by omega), Sem.run_pure]
  · rename_i n f l c
    split at h4
    rotate_left
    · simp [Rd.run] at h4
    rename_i e hu
    obtain rfl : (⟨.bool (negB neg false), [], [0 < l]⟩ : Eff) = eff := by simpa [Rd.run] using h4
    have hl : 0 < l := hcond.1
    have e2 : a.eval y = .slice none 0 0 := (rdv_ok h3 ht).plain rfl
    rcases (rdv_ok h1 ht).slice_inv with ⟨g, f', cp, c', j1, jok, j2, j3, j4⟩ | ⟨h0, _⟩ | ⟨h0, _⟩
    rotate_left
    · omega
    · omega
    refine value_wp (v := .bool (negB neg false)) (w' := w) ?_ (hK _ _ (quiet_conc hc ht hm (.lit rfl)))
    simp only [execOp, ho, j2, e2, Sem.run_bind, eqNil_guard, Result.andThen_ok, eqNil_run t e _ _ _ w hu neg, Sem.run_pure]
  · exact plainOp_sound P name o s eff w0 a w Q K h4 hn hc hcond hK
/-- Division, by a number of which it is asked that it is not zero. -/
def opD : Bool → BinOp
  | false => .quo
  | true => .rem
def quoV (rem : Bool) (k : IntKind) (a b : Int) : Value := match rem with
  | false => .int k (k.wrap (a.tdiv b))
  | true => .int k (a.tmod b)
def divOp (P : Program) (o : Oper) (x y : Operand) (rem : Bool) : Rd Eff := (rdv x).bind fun vx => (rdv y).bind fun vy => match vx, vy with
  | .int k a, .int k' b => (match decide (k = k') with
    | true => .ret ⟨quoV rem k a b, [], [b ≠ 0]⟩
    | false => .fail)
  | _, _ => plainOp P o
theorem divOp_sound {P : Program} {name : Nat} {o : Oper} {t u : TypeId} {x y : Operand} {rem : Bool} (ho : o.op = .binOp (opD rem) t x y u) {s : FS} {eff : Eff} {w0 : Start} {a : Act} {w : World} {Q : Exit → Act → World → Prop} {K : Act → World → Prop}
    (hr : (divOp P o x y rem).run s = some eff) (hn : s.blk name = none) (hc : Conc w0 s a w) (hcond : eff.cond) (hK : ∀ a' w', Conc w0 (s.upd o.dst eff) a' w' → K a' w') : owp P w0 o a w K Q := by
  obtain ⟨ρ, ht, hm⟩ := hc.2.2.2
  obtain ⟨vx, h1, h2⟩ := bind_some hr
  obtain ⟨vy, h3, h4⟩ := bind_some h2
  split at h4
  · rename_i k i k' j
    split at h4
    rotate_left
    · simp [Rd.run] at h4
    rename_i hk
    obtain rfl := of_decide_eq_true hk
    obtain rfl : (⟨quoV rem k i j, [], [j ≠ 0]⟩ : Eff) = eff := by simpa [Rd.run] using h4
    have hj : j ≠ 0 := hcond.1
    have e1 : a.eval x = .int k i := (rdv_ok h1 ht).plain rfl
    have e2 : a.eval y = .int k j := (rdv_ok h3 ht).plain rfl
    cases rem with
    | true =>
      refine value_wp (v := quoV true k i j) (w' := w) ?_ (hK _ _ (quiet_conc hc ht hm (.lit rfl)))
      simp [execOp, ho, opD, e1, e2, eqGuard, binOp, Op.intDiv, hj, quoV, Sem.run_pure]
    | false =>
      refine value_wp (v := quoV false k i j) (w' := w) ?_ (hK _ _ (quiet_conc hc ht hm (.lit rfl)))
      simp [execOp, ho, opD, e1, e2, eqGuard, binOp, Op.intDiv, hj, quoV, Sem.run_pure]
  · exact plainOp_sound P name o s eff w0 a w Q K h4 hn hc hcond hK
/-- An operation. -/

def isPtrT (P : Program) (t : TypeId) : Bool := match P.underlying t with
  | some (.pointer _) => true
  | some (.array _ _) => true
  | _ => false
/-- A struct's parts, some of them with places in memory. -/
def zeroAtoms (P : Program) (t : TypeId) : Bool := match zeroOf P t with
  | some z => z.cells.toList.all atomV
  | none => false
def buildOp (P : Program) (o : Oper) (t : TypeId) (parts : Array (Nat × Operand)) : Rd Eff := (rdParts parts.toList).bind fun l => match l.all fun q => plainV q.2 with
  | true => plainOp P o
  | false => (match zeroAtoms P t, P.built t l with
    | true, some r => .ret ⟨.agg r, [], []⟩
    | _, _ => .fail)
theorem built_rel {P : Program} {ρ : Nat → Option Pl} {t : TypeId} {l l' : List (Nat × Value)} (hl : l.length = l'.length) (h : ∀ (i : Nat) p p', l[i]? = some p → l'[i]? = some p' → p.1 = p'.1 ∧ VR ρ p.2 p'.2 ∧ isTop p.2 = false) (hz : zeroAtoms P t = true) {r : Array Value} (hr : P.built t l = some r) :
    ∃ r', P.built t l' = some r' ∧ CellsA ρ r r' := by
  unfold Program.built at hr ⊢
  unfold zeroAtoms zeroOf at hz
  rcases hit : P.info? t with _ | it
  · simp [hit] at hr
  rcases hu : P.underlying t with _ | d
  · simp [hit, hu] at hr
  rw [hit] at hz
  simp only [Option.bind_some] at hz
  cases d <;> try (simp [hit, hu] at hr; done)
  all_goals
    simp only [hit, hu] at hr ⊢
    split at hr
    · rename_i z x hz1 hx
      rw [hz1] at hz
      simp only at hz
      obtain ⟨r', h1, h2⟩ := fill_rel l l' hl h _ _ (cellsA_same (List.all_eq_true.1 hz)) r hr
      exact ⟨r', h1, h2⟩
    · cases hr
theorem buildOp_sound {P : Program} {o : Oper} {t : TypeId} {parts : Array (Nat × Operand)} (ho : o.op = .build t parts) {name : Nat} {s : FS} {eff : Eff} {w0 : Start} {a : Act} {w : World} {Q : Exit → Act → World → Prop} {K : Act → World → Prop}
    (hr : (buildOp P o t parts).run s = some eff) (hb : s.blk name = none) (hc : Conc w0 s a w) (hcond : eff.cond) (hK : ∀ a' w', Conc w0 (s.upd o.dst eff) a' w' → K a' w') : owp P w0 o a w K Q := by
  obtain ⟨ρ, ht, hm⟩ := hc.2.2.2
  obtain ⟨l, h1, h2⟩ := bind_some hr
  split at h2
  · exact plainOp_sound P name o s eff w0 a w Q K h2 hb hc hcond hK
  split at h2
  rotate_left
  · simp [Rd.run] at h2
  rename_i r hz hbt
  obtain rfl : (⟨.agg r, [], []⟩ : Eff) = eff := by simpa [Rd.run] using h2
  obtain ⟨g1, g2⟩ := rdParts_ok ht _ _ h1
  obtain ⟨r', h3, h4⟩ := built_rel g1 g2 hz hbt
  refine value_wp (v := .agg r') (w' := w) ?_ (hK _ _ (quiet_conc hc ht hm (.agg h4.1 h4.2)))
  have hparts : (parts.map fun (i, x) => (i, a.eval x)).toList = parts.toList.map fun p => (p.1, a.eval p.2) := by simp
  simp only [execOp, ho, Sem.run_bind, run_build w t _ r' (by rw [hparts]; exact h3), Result.andThen_ok]
  rfl
/-- A pointer that is not nil. -/
def nilOp (P : Program) (o : Oper) (x : Operand) : Rd Eff := (rdv x).bind fun v => match v with
  | .pointer (some ⟨n, f, none⟩) => .ret ⟨.pointer (some ⟨n, f, none⟩), [], []⟩
  | _ => plainOp P o
theorem nilOp_sound {P : Program} {o : Oper} {x : Operand} (ho : o.op = .nilCheck x) {name : Nat} {s : FS} {eff : Eff} {w0 : Start} {a : Act} {w : World} {Q : Exit → Act → World → Prop} {K : Act → World → Prop}
    (hr : (nilOp P o x).run s = some eff) (hb : s.blk name = none) (hc : Conc w0 s a w) (hcond : eff.cond) (hK : ∀ a' w', Conc w0 (s.upd o.dst eff) a' w' → K a' w') : owp P w0 o a w K Q := by
  obtain ⟨ρ, ht, hm⟩ := hc.2.2.2
  obtain ⟨v, h1, h2⟩ := bind_some hr
  split at h2
  rotate_left
  · exact plainOp_sound P name o s eff w0 a w Q K h2 hb hc hcond hK
  rename_i n f
  obtain rfl : (⟨.pointer (some ⟨n, f, none⟩), [], []⟩ : Eff) = eff := by simpa [Rd.run] using h2
  have hv := rdv_ok h1 ht
  obtain ⟨g, f', cp, h3, hq, h8⟩ := hv.ptr_inv
  refine value_wp (v := a.eval x) (w' := w) ?_ (hK _ _ (quiet_conc hc ht hm hv))
  simp only [execOp, ho, h8]
  rfl
def nthV : List Value → Nat → Option Value
  | [], _ => none
  | v :: _, 0 => some v
  | _ :: r, i + 1 => nthV r i
theorem nthV_get : ∀ {l : List Value} {i : Nat} {u : Value}, nthV l i = some u → l[i]? = some u
  | [], _, _, h => by cases h
  | v :: r, 0, u, h => by simpa [nthV] using h
  | v :: r, i + 1, u, h => by simpa using nthV_get (l := r) h
/-- A part of several results. -/
def extractOp (x : Operand) (i : Nat) : Rd Eff := (rdv x).bind fun v => match v with
  | .tuple ⟨l⟩ => (match nthV l i with
    | some u => .ret ⟨u, [], []⟩
    | none => .fail)
  | _ => .fail
theorem extractOp_sound {P : Program} {o : Oper} {x : Operand} {i : Nat} (ho : o.op = .extract x i) {s : FS} {eff : Eff} {w0 : Start} {a : Act} {w : World} {Q : Exit → Act → World → Prop} {K : Act → World → Prop}
    (hr : (extractOp x i).run s = some eff) (hc : Conc w0 s a w) (hK : ∀ a' w', Conc w0 (s.upd o.dst eff) a' w' → K a' w') : owp P w0 o a w K Q := by
  obtain ⟨ρ, ht, hm⟩ := hc.2.2.2
  obtain ⟨v, h1, h2⟩ := bind_some hr
  split at h2
  rotate_left
  · simp [Rd.run] at h2
  rename_i l
  split at h2
  rotate_left
  · simp [Rd.run] at h2
  rename_i u hu
  obtain rfl : (⟨u, [], []⟩ : Eff) = eff := by simpa [Rd.run] using h2
  obtain ⟨cs', h3, h4, h5⟩ := (rdv_ok h1 ht).tuple_inv
  have hu := nthV_get hu
  have hi : i < cs'.size := by
    have := (List.getElem?_eq_some_iff.1 hu).1
    simp at h4
    omega
  refine value_wp (v := cs'[i]) (w' := w) ?_ (hK _ _ (quiet_conc hc ht hm (h5 i _ _ (by simpa using hu) (by simp [hi]))))
  simp only [execOp, ho, h3, Instr.extract, Array.getElem?_eq_getElem hi]
  rfl
theorem MemOk.setNil {ρ0 ρ : Nat → Option Pl} {B : Nat → Prop} {m : Nat → Option Blk} {w : World} (h : MemOk ρ0 ρ B m w) {n : Nat} {b c : Blk} (hn : m n = some b) {p : Pl} (hp : ρ n = some p) (hnp : nilPl p) (hb : BlkOk ρ B w n c) : MemOk ρ0 ρ B (setB m n c) w where
  ext := h.ext
  fresh := fun k hk => by
    by_cases hkn : k = n
    · subst hkn; simp [setB] at hk
    · exact h.fresh k (by simpa [setB, hkn] using hk)
  ok := fun k d hk => by
    by_cases hkn : k = n
    · subst hkn
      obtain rfl : c = d := by simpa [setB] using hk
      exact hb
    · exact h.ok k d (by simpa [setB, hkn] using hk)
  sep := fun k k' d d' q q' hk hown' hk' hlive hne hq hq' hnq hnq' => by
    by_cases hkn : k = n
    · subst hkn
      rw [hp] at hq
      obtain rfl : p = q := by simpa using hq
      exact absurd hnp hnq
    · by_cases hk'n : k' = n
      · subst hk'n
        rw [hp] at hq'
        obtain rfl : p = q' := by simpa using hq'
        exact absurd hnp hnq'
      · exact h.sep k k' d d' q q' (by simpa [setB, hkn] using hk) hown' (by simpa [setB, hk'n] using hk') hlive hne hq hq' hnq hnq'
/-- The elements of a slice are set to zero: of the row what lies ahead of them is still known. -/
def clearOp (P : Program) (t : TypeId) (x : Operand) : Rd Eff := (rdv x).bind fun v => match v with
  | .slice (some ⟨n, o, none⟩) l _ => (match P.underlying t with
    | some (.slice e) => (match P.info? e with
      | some i => (match i.zero with
        | some z => (match z.cells.toList.all isZero && Nat.beq z.cells.size i.size with
          | true => .blk n fun b => (match b with
            | some ⟨.row e' sz, .ints xs⟩ => .ret ⟨.tuple #[], [(n, ⟨.row e' sz, .ints (xs.take o)⟩)], [o + l * i.size ≤ xs.length]⟩
            | _ => .fail)
          | false => .fail)
        | none => .fail)
      | none => .fail)
    | _ => .fail)
  | _ => .fail
theorem ints_shrink {ρ : Nat → Option Pl} {xs : List Int} {cs' : Array Value} {o : Nat} (h : Cells ρ (Cs.ints xs).list cs') : Cells ρ (Cs.ints (xs.take o)).list cs' := by
  intro k v hk
  refine h k v ?_
  have hk' : ((xs.take o).map (Value.int .i64))[k]? = some v := hk
  show (xs.map (Value.int .i64))[k]? = some v
  rw [List.map_take, List.getElem?_take] at hk'
  split at hk'
  · exact hk'
  · cases hk'
theorem clearOp_sound {P : Program} {o : Oper} {t : TypeId} {x : Operand} (ho : o.op = .call { callee := .builtin .clear, args := #[x], argTypes := #[t] }) {s : FS} {eff : Eff} {w0 : Start} {a : Act} {w : World} {Q : Exit → Act → World → Prop} {K : Act → World → Prop}
    (hr : (clearOp P t x).run s = some eff) (hc : Conc w0 s a w) (hcond : eff.cond) (hK : ∀ a' w', Conc w0 (s.upd o.dst eff) a' w' → K a' w') : owp P w0 o a w K Q := by
  obtain ⟨d1, d2, d3, ρ, ht, hm⟩ := hc
  obtain ⟨v, h1, h2⟩ := bind_some hr
  split at h2
  rotate_left
  · simp [Rd.run] at h2
  rename_i n off l c
  split at h2
  rotate_left
  · simp [Rd.run] at h2
  rename_i e hu
  split at h2
  rotate_left
  · simp [Rd.run] at h2
  rename_i i hi
  split at h2
  rotate_left
  · simp [Rd.run] at h2
  rename_i z hz
  split at h2
  rotate_left
  · simp [Rd.run] at h2
  rename_i hchk
  simp only [Bool.and_eq_true] at hchk
  have hsz : z.cells.size = i.size := Nat.eq_of_beq_eq_true hchk.2
  simp only [Rd.run] at h2
  split at h2
  rotate_left
  · simp [Rd.run] at h2
  rename_i e' sz xs hb
  obtain rfl : (⟨.tuple #[], [(n, ⟨.row e' sz, .ints (xs.take off)⟩)], [off + l * i.size ≤ xs.length]⟩ : Eff) = eff := by simpa [Rd.run] using h2
  obtain ⟨hfit, _⟩ := hcond
  have hexec : ∀ (vx r : Value) (w' : World), a.eval x = vx → (Builtin.clear_ #[t] o.type #[vx]).run P w = .ok r w' → (execOp a.eval o).run P w = .ok (.value r) w' := by
    intro vx r w' ex hrun
    simp only [execOp, ho, resolve, invoke, builtin, Sem.run_bind, Sem.run_pure, Result.andThen_ok, List.map_toArray, List.map_cons, List.map_nil, ex, hrun]
  have hok := hm.ok n _ hb
  -- the same world, of a row less is said
  have less : MemOk w0.ρ0 ρ w0.kp (setB s.blk n ⟨.row e' sz, .ints (xs.take off)⟩) w := by
    rcases hok with ⟨p, k1, k2, k3⟩ | ⟨g, cap, k1, k2, cs', k3, k4, k5⟩
    · exact hm.setNil hb k1 ⟨k2, 0, k3⟩ (.inl ⟨p, k1, k2, k3⟩)
    · exact hm.set hb rfl k1 (okPl.not (.inl rfl)) (Nat.le_refl _) (fun k _ _ => rfl) (.inr ⟨g, cap, k1, k2, cs', k3, k4, ints_shrink k5⟩)
  have none_ : ∀ ad c', a.eval x = .slice ad 0 c' → owp P w0 o a w K Q := fun ad c' ex => by
    have hrun : (Builtin.clear_ #[t] o.type #[.slice ad 0 c']).run P w = .ok (.tuple #[]) w := by
      cases ad <;> simp [Builtin.clear_, run_underlying hu]
    refine value_wp (hexec _ _ _ ex hrun) (hK _ _ (put_conc (w := w) d1 d2 d3 (fun t => ht t) (.lit rfl) ?_))
    rw [upd_one]
    exact less
  rcases (rdv_ok h1 ht).slice_inv with ⟨g, f, cp, c', j1, jok, j2, j3, j4⟩ | ⟨rfl, _, ad, c', j2⟩ | ⟨rfl, ad, c', p, j2, _, _, _⟩
  rotate_left
  · exact none_ _ _ j2
  · exact none_ _ _ j2
  by_cases hl0 : l = 0
  · subst hl0
    exact none_ _ _ j2
  rcases hok with ⟨p, k1, k2, k3⟩ | ⟨g2, cap, k1, k2, cs', k3, k4, k5⟩
  · rw [k1] at j1
    obtain rfl : p = (g, f, cp) := by simpa using j1
    exact absurd ⟨k2, 0, k3⟩ jok.not
  rw [k1] at j1
  obtain ⟨rfl, rfl, rfl⟩ : g2 = g ∧ 0 = f ∧ some cap = cp := by simpa using j1
  have hlen : xs.length ≤ cs'.size := by
    rcases Nat.eq_zero_or_pos xs.length with h0 | h0
    · omega
    · have hx : (Cs.ints xs).list[xs.length - 1]? = some (.int .i64 (xs[xs.length - 1]'(by omega))) := by
        show (xs.map (Value.int .i64))[xs.length - 1]? = _
        simp
      obtain ⟨v', h6, _⟩ := k5 _ _ hx
      have := (Array.getElem?_eq_some_iff.1 h6).1
      omega
  have hzl : (Builtin.zeroCells z.cells l).toList.length = l * i.size := by
    rw [Array.length_toList, size_zeroCells, hsz]
  have hone : ∀ u ∈ (Builtin.zeroCells z.cells l).toList, u.oneCell' = true := by
    intro u hu'
    have : ∃ j, j < l * z.cells.size ∧ z.cells[j % z.cells.size]! = u := by
      simpa [Builtin.zeroCells] using hu'
    obtain ⟨j, hj, rfl⟩ := this
    have hpos : 0 < z.cells.size := by
      rcases Nat.eq_zero_or_pos z.cells.size with h | h
      · rw [h] at hj; simp at hj
      · exact h
    have hlt := Nat.mod_lt j hpos
    rw [getElem!_pos z.cells _ hlt, isZero_spec (List.all_eq_true.1 hchk.1 z.cells[j % z.cells.size] (by simp))]
    rfl
  have hst := run_storeCells_at P g2 off e' (Builtin.zeroCells z.cells l).toList 0 cs' w k3 (by rw [hzl]; omega) hone
  rw [Nat.add_zero] at hst
  have hrun : (Builtin.clear_ #[t] o.type #[.slice (some ⟨g2, 0 + off, none⟩) l c']).run P w = .ok (.tuple #[]) (w.setRow g2 (cs'.toList.take off ++ (Builtin.zeroCells z.cells l).toList ++ cs'.toList.drop (off + (Builtin.zeroCells z.cells l).toList.length)).toArray) := by
    obtain ⟨m, rfl⟩ : ∃ m, l = m + 1 := ⟨l - 1, by omega⟩
    rw [Nat.zero_add]
    have hv : (zeroValue e).run P w = .ok z w := by simp [zeroValue, typeInfo, hi, hz]
    simp [Builtin.clear_, run_underlying hu, hv, hst]
  refine value_wp (hexec _ _ _ j2 hrun) (hK _ _ ?_)
  refine put_conc (w := w) d1 d2 (setRow_below d3 k2 _) (fun t => ht t) (.lit rfl) ?_
  rw [upd_one]
  refine hm.set hb rfl k1 (okPl.not (.inl rfl)) (by simp [World.setRow]) (fun k _ hk => setRow_ne w g2 _ k hk) (.inr ⟨g2, cap, k1, k2, _, setRow_heap w g2 cs' _ e' _ k3, ?_, ?_⟩)
  · simp only [List.size_toArray, List.length_append, List.length_take, List.length_drop, hzl, Array.length_toList]
    omega
  · intro k v hk
    have hk' : (xs.take off)[k]?.map (Value.int .i64) = some v := by
      have h0 : ((xs.take off).map (Value.int .i64))[k]? = some v := hk
      rwa [List.getElem?_map] at h0
    obtain ⟨y, hy, rfl⟩ := Option.map_eq_some_iff.1 hk'
    rw [List.getElem?_take] at hy
    split at hy
    rotate_left
    · cases hy
    rename_i hko
    obtain ⟨v', h6, h7⟩ := k5 k (.int .i64 y) (by show (xs.map (Value.int .i64))[k]? = _; simp [hy])
    refine ⟨v', ?_, h7⟩
    have hkc : k < cs'.size := (Array.getElem?_eq_some_iff.1 h6).1
    rw [List.append_assoc, List.getElem?_toArray, List.getElem?_append_left (by simp; omega), List.getElem?_take_of_lt hko]
    simpa using h6
/-- The capacity, of nil alone. -/
def capOp (P : Program) (t : TypeId) (x : Operand) : Rd Eff := (rdv x).bind fun p => match p with
  | .slice none 0 0 => (match P.underlying t with
    | some (.slice _) => .ret ⟨.int .i64 0, [], []⟩
    | _ => .fail)
  | _ => .fail
theorem capOp_sound {P : Program} {o : Oper} {t : TypeId} {x : Operand} (ho : o.op = .call { callee := .builtin .cap, args := #[x], argTypes := #[t] }) {s : FS} {eff : Eff} {w0 : Start} {a : Act} {w : World} {Q : Exit → Act → World → Prop} {K : Act → World → Prop}
    (hr : (capOp P t x).run s = some eff) (hc : Conc w0 s a w) (hK : ∀ a' w', Conc w0 (s.upd o.dst eff) a' w' → K a' w') : owp P w0 o a w K Q := by
  obtain ⟨ρ, ht, hm⟩ := hc.2.2.2
  obtain ⟨p, h1, h2⟩ := bind_some hr
  split at h2
  · split at h2
    rotate_left
    · simp [Rd.run] at h2
    rename_i e hu
    obtain rfl : (⟨.int .i64 0, [], []⟩ : Eff) = eff := by simpa [Rd.run] using h2
    have h8 : a.eval x = .slice none 0 0 := (rdv_ok h1 ht).plain rfl
    refine value_wp (v := .int .i64 0) (w' := w) ?_ (hK _ _ (quiet_conc hc ht hm (.lit rfl)))
    simp only [execOp, ho, resolve, invoke, builtin, Builtin.cap_, Sem.run_bind, Sem.run_pure, Result.andThen_ok, List.map_toArray, List.map_cons, List.map_nil, h8, List.getElem?_toArray, List.getElem?_cons_zero, run_underlying hu]
    rfl
  · simp [Rd.run] at h2
/-- The call of a method of an interface value in which no address lies. -/
def invOp (P : Program) (G : Ctx) (name : Nat) (recv : Operand) (mn : String) (args : Array Operand) : Rd Eff := (rdv recv).bind fun rv => (rdvs args.toList).bind fun l => match rv with
  | .iface t v => (match atomV (.iface t v), still P (method (P.types.size + Made.depth) t v mn) with
    | true, some (f, x) => (match plainV x with
      | true => G f name (x :: l)
      | false => .fail)
    | _, _ => .fail)
  | _ => .fail
theorem arr_hd (x : Value) (ys : Array Value) : (#[x] ++ ys)[0]? = some x := by
  rw [Array.getElem?_append]
  simp
theorem arr_tl (x : Value) (ys : Array Value) : (#[x] ++ ys).extract 1 (#[x] ++ ys).size = ys := by
  apply Array.ext
  · simp
  · intro i h1 h2
    rw [Array.getElem_extract, Array.getElem_append]
    simp
theorem invOp_sound {P : Program} {G : Ctx} (hG : GSound P G) {o : Oper} {recv : Operand} {mn : String} {args : Array Operand} {ts : Array TypeId} (ho : o.op = .call { callee := .invoke recv mn, args := args, argTypes := ts }) {name : Nat} {s : FS} {eff : Eff} {w0 : Start} {a : Act} {w : World} {Q : Exit → Act → World → Prop} {K : Act → World → Prop}
    (hr : (invOp P G name recv mn args).run s = some eff) (hn : s.blk name = none) (hc : Conc w0 s a w) (hcond : eff.cond) (hK : ∀ a' w', Conc w0 (s.upd o.dst eff) a' w' → K a' w') : owp P w0 o a w K Q := by
  obtain ⟨c1, c2, c3, ρ, ht, hm⟩ := hc
  obtain ⟨rv, h1, h2⟩ := bind_some hr
  obtain ⟨l, h3, h4⟩ := bind_some h2
  split at h4
  rotate_left
  · simp [Rd.run] at h4
  rename_i t v
  split at h4
  rotate_left
  · simp [Rd.run] at h4
  rename_i f x hat hst
  split at h4
  rotate_left
  · simp [Rd.run] at h4
  rename_i hp
  have h5 : a.eval recv = .iface t v := (rdv_ok h1 ht).plain (plain_of_atom hat)
  obtain ⟨hent, hcall⟩ := hG f name _ s eff h4 hn
  have hargs : VRs ρ (x :: l) (#[x] ++ args.map a.eval) := by
    have := (show VRs ρ [x] #[x] from ⟨rfl, fun i u u' hu hu' => by
      cases i with
      | zero =>
        obtain rfl : x = u := by simpa using hu
        obtain rfl : x = u' := by simpa using hu'
        exact .lit hp
      | succ i => simp at hu⟩).append (rdvs_map ht h3)
    exact this
  have hex : (execOp a.eval o).run P w = .ok (.enter f (#[x] ++ args.map a.eval)) w := by
    have e3 : (#[Value.iface t v] ++ args.map a.eval)[0]? = some (Value.iface t v) := arr_hd _ _
    have e4 : (#[Value.iface t v] ++ args.map a.eval).extract 1 (#[Value.iface t v] ++ args.map a.eval).size = args.map a.eval := arr_tl _ _
    have e5 := still_run P w _ _ hst
    simp only [execOp, ho, resolve, invoke, Sem.run_bind, Sem.run_pure, Result.andThen_ok, h5, e3, e4, callMethod, run_program, e5]
    exact hent _ _
  refine enter_wp hex ?_
  refine (hcall w0.kp w0.ρ0 ρ w _ hargs hm (fun k hk => Nat.lt_of_lt_of_le (w0.kpl k hk) c3.size) hcond).mono ?_
  rintro e w' ⟨v', ρ', rfl, h8, h9, h10, h11⟩
  refine ⟨v', rfl, ?_⟩
  refine hK _ _ (put_conc (w := w) c1 c2 (c3.trans h10) (fun t => (ht t).ext h8) h9 ?_)
  have : (s.upd o.dst eff).blk = (s.upd none eff).blk := rfl
  rw [this]
  exact h11
def aop (P : Program) (G : Ctx) (name : Nat) (o : Oper) : Rd Eff :=
  match o.op with
  | .nilCheck x => nilOp P o x
  | .build t parts => buildOp P o t parts
  | .move x => moveOp x
  | .assign x => moveOp x
  | .pick c x y => pickOp c x y
  | .alloc t => allocOp P name t
  | .box _ x => boxOp name x
  | .load t x => loadOp P t x
  | .store t x y => storeOp P t x y
  | .fieldAddr t x f => fieldOp P t x f
  | .indexAddr t x i => indexOp P t x i
  | .makeFunc fn first captured => makeFuncOp fn first captured
  | .buildSlice t len parts => buildSliceOp P name t len parts
  | .call { callee := .value f, args := args, argTypes := _ } => callOp G name f args
  | .call { callee := .invoke recv mn, args := args, argTypes := _ } => invOp P G name recv mn args
  | .call { callee := .builtin .len, args := ⟨[x]⟩, argTypes := ⟨[t]⟩ } => lenOp P t x
  | .call { callee := .builtin .clear, args := ⟨[x]⟩, argTypes := ⟨[t]⟩ } => clearOp P t x
  | .call { callee := .builtin .cap, args := ⟨[x]⟩, argTypes := ⟨[t]⟩ } => capOp P t x
  | .call { callee := .builtin .append, args := ⟨[x, y]⟩, argTypes := ⟨[t, t']⟩ } => (match decide (t = t') with
    | true => appendAny P name t x y
    | false => .fail)
  | .slice t x none none none => (match isPtrT P t with
    | true => arrOp P t x
    | false => cutOp P t x none none)
  | .slice t x lo hi none => cutOp P t x lo hi
  | .makeSlice t x y => makeOp P name t x y
  | .binOp .eql t x y _ => eqOp P o t x y false
  | .binOp .neq t x y _ => eqOp P o t x y true
  | .binOp .quo _ x y _ => divOp P o x y false
  | .binOp .rem _ x y _ => divOp P o x y true
  | .extract x i => extractOp x i
  | _ => plainOp P o
theorem aop_sound {P : Program} {G : Ctx} (hG : GSound P G) : Sound P (aop P G) := by
  intro name o s eff w0 a w Q K hr hb hc hcond hK
  unfold aop at hr
  split at hr
  · rename_i x ho
    exact nilOp_sound ho hr hb hc hcond hK
  · rename_i t parts ho
    exact buildOp_sound ho hr hb hc hcond hK
  · rename_i x ho
    exact moveOp_sound (x := x) (fun ρ => by simp only [execOp, ho]) hr hc hK
  · rename_i x ho
    exact moveOp_sound (x := x) (fun ρ => by simp only [execOp, ho]) hr hc hK
  · rename_i c x y ho
    exact pickOp_sound ho hr hc hK
  · rename_i t ho
    exact allocOp_sound ho hr hb hc hK
  · rename_i t x ho
    exact boxOp_sound ho hr hb hc hK
  · rename_i t x ho
    exact loadOp_sound ho hr hc hcond hK
  · rename_i t x y ho
    exact storeOp_sound ho hr hc hcond hK
  · rename_i t x f ho
    exact fieldOp_sound ho hr hc hK
  · rename_i t x i ho
    exact indexOp_sound ho hr hc hcond hK
  · rename_i fn first captured ho
    exact makeFuncOp_sound ho hr hc hK
  · rename_i t len parts ho
    exact buildSliceOp_sound ho hr hb hc hK
  · rename_i f args ts ho
    exact callOp_sound hG ho hr hb hc hcond hK
  · rename_i recv mn args ts ho
    exact invOp_sound hG ho hr hb hc hcond hK
  · rename_i x t ho
    exact lenOp_sound ho hr hc hK
  · rename_i x t ho
    exact clearOp_sound ho hr hc hcond hK
  · rename_i x t ho
    exact capOp_sound ho hr hc hK
  · rename_i x y t t' ho
    split at hr
    · rename_i ht
      obtain rfl := of_decide_eq_true ht
      exact appendAny_sound ho hr hb hc hcond hK
    · simp [Rd.run] at hr
  · rename_i t x ho
    split at hr
    · exact arrOp_sound ho hr hc hK
    · exact cutOp_sound ho hr hc hcond hK
  · rename_i t x lo hi _ ho
    exact cutOp_sound ho hr hc hcond hK
  · rename_i t x y ho
    exact makeOp_sound ho hr hb hc hcond hK
  · rename_i t x y u ho
    exact eqOp_sound (neg := false) ho hr hb hc hcond hK
  · rename_i t x y u ho
    exact eqOp_sound (neg := true) ho hr hb hc hcond hK
  · rename_i t x y u ho
    exact divOp_sound (rem := false) ho hr hb hc hcond hK
  · rename_i t x y u ho
    exact divOp_sound (rem := true) ho hr hb hc hcond hK
  · rename_i x i ho
    exact extractOp_sound ho hr hc hK
  · exact plainOp_sound P name o s eff w0 a w Q K hr hb hc hcond hK
/-- One result. -/
def resOne (P : Program) (s : St) : ResultVar → Option Value
  | .tmp t => some (s.tmps.getD t undef)
  | .cell t ty => match s.tmps.getD t undef with
    | .pointer (some ⟨n, o, none⟩) => (match s.mem.getD n none with
      | some b => (match b.live with
        | true => loadV P ty b.cells o
        | false => none)
      | none => none)
    | _ => none
/-- What a function hands back. -/
def resV (P : Program) (s : St) : List ResultVar → Option Value
  | [] => some (.tuple #[])
  | [r] => resOne P s r
  | [r1, r2] => (match resOne P s r1, resOne P s r2 with
    | some v1, some v2 => some (.tuple #[v1, v2])
    | _, _ => none)
  | [r1, r2, r3] => (match resOne P s r1, resOne P s r2, resOne P s r3 with
    | some v1, some v2, some v3 => some (.tuple #[v1, v2, v3])
    | _, _, _ => none)
  | [r1, r2, r3, r4] => (match resOne P s r1, resOne P s r2, resOne P s r3, resOne P s r4 with
    | some v1, some v2, some v3, some v4 => some (.tuple #[v1, v2, v3, v4])
    | _, _, _, _ => none)
  | _ => none
def oneRes (tmps : Array Value) : ResultVar → Sem Value
  | .tmp t => pure (tmps.getD t undef)
  | .cell a t => do loadVar t (← asAddr (tmps.getD a undef))
theorem resOne_run {P : Program} {s : St} {r : ResultVar} {v : Value} (h : resOne P s r = some v) {ρ0 ρ : Nat → Option Pl} {B : Nat → Prop} {a : Act} {w : World} (ht : ∀ t, VR ρ (s.fs.tmp t) (a.tmps.getD t undef)) (hm : MemOk ρ0 ρ B s.fs.blk w) :
    ∃ v', (oneRes a.tmps r).run P w = .ok v' w ∧ VR ρ v v' := by
  cases r with
  | tmp t =>
    obtain rfl : s.tmps.getD t undef = v := by simpa [resOne] using h
    exact ⟨_, rfl, ht t⟩
  | cell t ty =>
    simp only [resOne] at h
    split at h
    rotate_left
    · cases h
    rename_i n o hp
    split at h
    rotate_left
    · cases h
    rename_i b hb
    split at h
    rotate_left
    · cases h
    rename_i hl
    have hv := ht t
    rw [show s.fs.tmp t = _ from hp] at hv
    obtain ⟨g, f, cp, h3, hq, h8⟩ := hv.ptr_inv
    have h4 := (live_cell (hm.ok n b hb) hl h3 hq).2
    obtain ⟨u', h5, h6⟩ := loadV_run h h4
    refine ⟨u', ?_, h6⟩
    simp only [oneRes, h8, asAddr, Sem.run_bind, Sem.run_pure, Result.andThen_ok, h5]
theorem results_eq (fn : Func) (tmps : Array Value) : results fn tmps = fn.results.mapM (oneRes tmps) >>= fun vs => pure (if h : vs.size = 1 then vs[0] else .tuple vs) := rfl
theorem resV_run {P : Program} {s : St} {fn : Func} {l : List ResultVar} (hl : fn.results = l.toArray) {v : Value} (h : resV P s l = some v) {ρ0 ρ : Nat → Option Pl} {B : Nat → Prop} {a : Act} {w : World} (ht : ∀ t, VR ρ (s.fs.tmp t) (a.tmps.getD t undef)) (hm : MemOk ρ0 ρ B s.fs.blk w) :
    ∃ v', (results fn a.tmps).run P w = .ok v' w ∧ VR ρ v v' := by
  rw [results_eq, hl]
  unfold resV at h
  split at h
  · obtain rfl : Value.tuple #[] = v := by simpa using h
    exact ⟨.tuple #[], by simp, .lit rfl⟩
  · rename_i r
    obtain ⟨v', h1, h2⟩ := resOne_run h ht hm
    exact ⟨v', by simp [h1], h2⟩
  · rename_i r1 r2
    split at h
    rotate_left
    · cases h
    rename_i v1 v2 e1 e2
    obtain rfl : Value.tuple #[v1, v2] = v := by simpa using h
    obtain ⟨u1, h1, k1⟩ := resOne_run e1 ht hm
    obtain ⟨u2, h2, k2⟩ := resOne_run e2 ht hm
    refine ⟨.tuple #[u1, u2], by simp [h1, h2], .tuple rfl fun i x x' hx hx' => ?_⟩
    match i, hx, hx' with
    | 0, hx, hx' =>
      obtain rfl : v1 = x := by simpa using hx
      obtain rfl : u1 = x' := by simpa using hx'
      exact k1
    | 1, hx, hx' =>
      obtain rfl : v2 = x := by simpa using hx
      obtain rfl : u2 = x' := by simpa using hx'
      exact k2
    | i + 2, hx, hx' => simp at hx
  · rename_i r1 r2 r3
    split at h
    rotate_left
    · cases h
    rename_i v1 v2 v3 e1 e2 e3
    obtain rfl : Value.tuple #[v1, v2, v3] = v := by simpa using h
    obtain ⟨u1, h1, k1⟩ := resOne_run e1 ht hm
    obtain ⟨u2, h2, k2⟩ := resOne_run e2 ht hm
    obtain ⟨u3, h3, k3⟩ := resOne_run e3 ht hm
    refine ⟨.tuple #[u1, u2, u3], by simp [h1, h2, h3], .tuple rfl fun i x x' hx hx' => ?_⟩
    match i, hx, hx' with
    | 0, hx, hx' =>
      obtain rfl : v1 = x := by simpa using hx
      obtain rfl : u1 = x' := by simpa using hx'
      exact k1
    | 1, hx, hx' =>
      obtain rfl : v2 = x := by simpa using hx
      obtain rfl : u2 = x' := by simpa using hx'
      exact k2
    | 2, hx, hx' =>
      obtain rfl : v3 = x := by simpa using hx
      obtain rfl : u3 = x' := by simpa using hx'
      exact k3
    | i + 3, hx, hx' => simp at hx
  · rename_i r1 r2 r3 r4
    split at h
    rotate_left
    · cases h
    rename_i v1 v2 v3 v4 e1 e2 e3 e4
    obtain rfl : Value.tuple #[v1, v2, v3, v4] = v := by simpa using h
    obtain ⟨u1, h1, k1⟩ := resOne_run e1 ht hm
    obtain ⟨u2, h2, k2⟩ := resOne_run e2 ht hm
    obtain ⟨u3, h3, k3⟩ := resOne_run e3 ht hm
    obtain ⟨u4, h4, k4⟩ := resOne_run e4 ht hm
    refine ⟨.tuple #[u1, u2, u3, u4], by simp [h1, h2, h3, h4], .tuple rfl fun i x x' hx hx' => ?_⟩
    match i, hx, hx' with
    | 0, hx, hx' =>
      obtain rfl : v1 = x := by simpa using hx
      obtain rfl : u1 = x' := by simpa using hx'
      exact k1
    | 1, hx, hx' =>
      obtain rfl : v2 = x := by simpa using hx
      obtain rfl : u2 = x' := by simpa using hx'
      exact k2
    | 2, hx, hx' =>
      obtain rfl : v3 = x := by simpa using hx
      obtain rfl : u3 = x' := by simpa using hx'
      exact k3
    | 3, hx, hx' =>
      obtain rfl : v4 = x := by simpa using hx
      obtain rfl : u4 = x' := by simpa using hx'
      exact k4
    | i + 4, hx, hx' => simp at hx
  · cases h
/-- Operations for which a name is laid aside in a drawn region. -/
def alAll (o : Oper) : Bool := match o.op with
  | .alloc _ | .box _ _ | .buildSlice _ _ _ | .makeSlice _ _ _ | .call { callee := .builtin .append, args := _, argTypes := _ } | .call { callee := .value _, args := _, argTypes := _ } => true
  | _ => false
/-- The operations that may make memory of their own. -/
def alStd (o : Oper) : Bool := match o.op with
  | .alloc _ | .box _ _ | .buildSlice _ _ _ | .makeSlice _ _ _ | .call { callee := .builtin .append, args := _, argTypes := _ } => true
  | _ => false
/-- Functions that are run as operations on names. -/
structure TabJ where
  on : FuncId → Bool
  g : Ctx
  /-- Does it make a row? -/
  row : FuncId → Bool
def failG : Ctx := fun _ _ _ => .fail
theorem failG_sound (P : Program) : GSound P failG := fun f name args s eff h => by simp [failG, Rd.run] at h
def noJ : TabJ := ⟨fun _ => false, failG, fun _ => false⟩
/-- How a piece of code ends. -/
inductive Ex where
  | normal
  | exit (id : Nat)
  | ret
/-- What a run may come to. -/
inductive Tree where
  | leaf (e : Ex) (s : St)
  | fin (v : Value) (m : List (Option Blk))
  | need (p : Prop) (t : Tree)
  | bad
/-- One way or the other. -/
def brT (b : Bool) (x y : Tree) : Tree :=
  match b with
  | true => x
  | false => y
def needs : List Prop → Tree → Tree
  | [], t => t
  | p :: r, t => .need p (needs r t)
/-- All that a run may come to is well. -/
def Tree.ok (F : Ex → St → Prop) (H : Value → List (Option Blk) → Prop) : Tree → Prop
  | .leaf e s => F e s
  | .fin v m => H v m
  | .need p t => p ∧ t.ok F H
  | .bad => False
theorem needs_ok {F : Ex → St → Prop} {H : Value → List (Option Blk) → Prop} {t : Tree} : ∀ {C : List Prop}, (needs C t).ok F H → AllP C ∧ t.ok F H
  | [], h => ⟨trivial, h⟩
  | _ :: _, h => ⟨⟨h.1, (needs_ok h.2).1⟩, (needs_ok h.2).2⟩
theorem brT_ok {F : Ex → St → Prop} {H : Value → List (Option Blk) → Prop} {b : Bool} {x y : Tree} : (brT b x y).ok F H ↔ (b = true → x.ok F H) ∧ (b = false → y.ok F H) := by
  cases b <;> simp [brT]
/-- An argument laid open: a plain value, or a slice of l elements over known cells in which no address lies. -/
inductive DArg where
  | v (x : Value)
  | row (l : Nat) (cs : Cs)
def allAtoms : Cs → Bool
  | .vals l => l.all atomV
  | .ints _ => true
  | .bytes _ => true
theorem allAtoms_spec {c : Cs} (h : allAtoms c = true) : ∀ v ∈ c.list, atomV v = true := by
  cases c with
  | vals l => exact List.all_eq_true.1 h
  | ints xs =>
    intro v hv
    obtain ⟨x, _, rfl⟩ := List.mem_map.1 hv
    rfl
  | bytes xs =>
    intro v hv
    obtain ⟨x, _, rfl⟩ := List.mem_map.1 hv
    rfl
def dropC (cs : Cs) (o : Nat) : Cs :=
  match cs with
  | .vals l => .vals (l.drop o)
  | .ints xs => .ints (xs.drop o)
  | .bytes xs => .bytes (xs.drop o)
theorem dropC_list (cs : Cs) (o : Nat) : (dropC cs o).list = cs.list.drop o := by
  cases cs
  · rfl
  · simp [dropC, Cs.list]
  · simp [dropC, Cs.list]
theorem dropC_atoms {cs : Cs} (h : allAtoms cs = true) (o : Nat) : allAtoms (dropC cs o) = true := by
  cases cs with
  | vals l =>
    simp only [dropC, allAtoms, List.all_eq_true] at h ⊢
    exact fun v hv => h v (List.mem_of_mem_drop hv)
  | ints xs => rfl
  | bytes xs => rfl
def DArg.good : DArg → Prop
  | .v x => plainV x = true
  | .row _ cs => allAtoms cs = true
/-- An argument, read. -/
def rdArg (v : Value) : Rd DArg :=
  match plainV v with
  | true => .ret (.v v)
  | false => match v with
    | .slice (some ⟨n, o, none⟩) l _ => .blk n fun b => match b with
      | some b => (match b.live, allAtoms b.cs with
        | true, true => .ret (.row l (dropC b.cs o))
        | _, _ => .fail)
      | none => .fail
    | _ => .fail
def rdArgs : List Value → Rd (List DArg)
  | [] => .ret []
  | v :: r => (rdArg v).bind fun d => (rdArgs r).bind fun l => .ret (d :: l)
/-- How functions whose arguments can be laid open are called. -/
abbrev CallK := FuncId → List DArg → (Value → Tree) → Tree
def constG (v : Value) : Ctx := fun _ _ args => (rdArgs args).bind fun _ => .ret ⟨v, [], []⟩
/-- A value whose slices lie at a name. -/
def atName1 (name : Nat) : Value → Value
  | .slice (some ⟨_, o, none⟩) l c => .slice (some ⟨name, o, none⟩) l c
  | v => v
def atName (name : Nat) : Value → Value
  | .tuple ⟨l⟩ => .tuple ⟨l.map (atName1 name)⟩
  | v => atName1 name v
/-- A value of a call and the row that it has made. -/
def rowG (v : Value) (b : Blk) : Ctx := fun _ name args => (rdArgs args).bind fun _ => .ret ⟨atName name v, [(name, b)], []⟩
/-- What is known of functions that make a row. -/
abbrev TabR := FuncId → List DArg → Option (Value × Blk × List Prop)
def guardSlot (ops : Array Oper) (o : Oper) : Option Tmp :=
  match o.guard with
  | some (g, _) => (ops[g]?).bind (·.dst)
  | none => none
/-- Does the guard let the operation run? -/
def wantedS (ops : Array Oper) (s : St) (o : Oper) : Bool :=
  match o.guard with
  | none => true
  | some (g, want) => match (ops[g]?).bind (·.dst) with
    | none => false
    | some t => match s.tmps.getD t undef with
      | .bool b => b == want
      | _ => false
def rdCall (f : Operand) (args : List Operand) : Rd (FuncId × List DArg) := (rdv f).bind fun fv => (rdvs args).bind fun l => match fv with
  | .func (.func fid) first cap => (rdArgs (first.toList ++ l ++ cap.toList)).bind fun ds => .ret (fid, ds)
  | _ => .fail
/-- The function and the arguments of a call. -/
def callOf (s : St) (o : Oper) : Option (FuncId × List DArg) :=
  match o.op with
  | .call { callee := .value f, args := args, argTypes := _ } => (rdCall f args.toList).run s.fs
  | _ => none
def rdCallV (f : Operand) (args : List Operand) : Rd (FuncId × List Value) := (rdv f).bind fun fv => (rdvs args).bind fun l => match fv with
  | .func (.func fid) first cap => .ret (fid, first.toList ++ l ++ cap.toList)
  | _ => .fail
def callOfV (s : St) (o : Oper) : Option (FuncId × List Value) :=
  match o.op with
  | .call { callee := .value f, args := args, argTypes := _ } => (rdCallV f args.toList).run s.fs
  | _ => none
/-- Is it the call of a function that is run as an operation? -/
def jCall (J : TabJ) (s : St) (o : Oper) : Bool :=
  match callOfV s o with
  | some (f, _) => J.on f
  | none => false
/-- The operations of a region, parted at each guard; calls of plain values run in place. -/
def stepsT (P : Program) (R : TabR) (J : TabJ) (call : CallK) (ops : Array Oper) (nm : Nat → Nat) (fin : List (Eff × List Nat × List Nat) → St → Tree) : Nat → List Oper → St → List (Eff × List Nat × List Nat) → Tree
  | _, [], s, acc => fin acc s
  | i, o :: rest, s, acc =>
    let one := fun (G : Ctx) (s : St) => match (gop (aop P G) ops (nm i) o).run s.fs with
      | none => Tree.bad
      | some e =>
        match e.wr.all fun p => decide (p.1 < s.mem.length) with
        | false => .bad
        | true => stepsT P R J call ops nm fin (i + 1) rest (s.upd o.dst e) (acc ++ [(e, (gop (aop P G) ops (nm i) o).tmps s.fs, (gop (aop P G) ops (nm i) o).blks s.fs)])
    let step := fun s : St => match wantedS ops s o with
      | false => one failG s
      | true => match jCall J s o with
        | true => one J.g s
        | false => match callOf s o with
          | some (f, args) => (match R f args with
            | some (v, b, C) => needs C (one (rowG v b) s)
            | none => call f args fun v => one (constG v) s)
          | none => one failG s
    match guardSlot ops o with
    | none => step s
    | some t =>
      match s.tmps.getD t undef with
      | .bool b => brT b (step { tmps := s.tmps.set t (.bool true), mem := s.mem }) (step { tmps := s.tmps.set t (.bool false), mem := s.mem })
      | _ => step s
/-- A region run on a state, and what follows. -/
def regionT (P : Program) (R : TabR) (J : TabJ) (call : CallK) (draw : Bool) (ops : List Oper) (s : St) (k : St → Tree) : Tree :=
  stepsT P R J call ops.toArray (nameOf alAll ops s.mem.length) (fun l s' => match !draw || (validT ops.toArray (ancOf ops) && clashAll (ancOf ops) 0 (ops.zip l)) with
    | false => .bad
    | true => needs (condsOf l) (k s')) 0 ops { tmps := s.tmps, mem := s.mem ++ List.replicate (countB alAll ops) none } []
/-- An argument is what it was laid open to be. -/
def DOk (w : World) (d : DArg) (y : Value) : Prop :=
  match d with
  | .v x => plainV x = true ∧ y = x
  | .row l cs => allAtoms cs = true ∧ ∃ ad c', y = .slice ad l c' ∧ l ≤ c' ∧ (l = 0 ∨ ∃ g f, ad = some ⟨g, f, none⟩ ∧ g < w.heap.size ∧ ∀ (k : Nat) v, cs.list[k]? = some v → w.cell? ⟨g, f + k, none⟩ = some v)
def DOks (w : World) (ds : List DArg) (args : Array Value) : Prop := ds.length = args.size ∧ ∀ (i : Nat) d y, ds[i]? = some d → args[i]? = some y → DOk w d y
/-- What a function answers, whatever the world. -/
def Res (P : Program) (f : FuncId) (ds : List DArg) (v : Value) : Prop :=
  enters P f ∧ P.inits.idxOf? f = none ∧ plainV v = true ∧ (∀ d ∈ ds, d.good) ∧ ∀ w args, DOks w ds args → Calls P f args w fun e w' => e = .returned v ∧ Below w.heap.size w w'
/-- There is a world in which arguments lie as they were laid open. -/
theorem dOks_some (ds : List DArg) (hg : ∀ d ∈ ds, d.good) : ∃ (w : World) (args : Array Value), DOks w ds args := by
  let objs : List Obj := ds.map fun d => match d with
    | .v _ => .cells #[] 0
    | .row _ cs => .cells cs.list.toArray 0
  let vals : Nat → DArg → Value := fun i d => match d with
    | .v x => x
    | .row l _ => .slice (some ⟨i, 0, none⟩) l l
  refine ⟨{ (default : World) with heap := objs.toArray }, (ds.mapIdx vals).toArray, by simp, fun i d y hd hy => ?_⟩
  have hy' : y = vals i d := by
    have : (ds.mapIdx vals)[i]? = some (vals i d) := by simp [hd]
    simp only [List.getElem?_toArray] at hy
    rw [this] at hy
    simpa using hy.symm
  subst hy'
  have hmem := List.mem_of_getElem? hd
  have hi : i < ds.length := by
    rcases Nat.lt_or_ge i ds.length with h | h
    · exact h
    · simp [List.getElem?_eq_none h] at hd
  cases d with
  | v x => exact ⟨hg _ hmem, rfl⟩
  | row l cs =>
    refine ⟨hg _ hmem, _, l, rfl, Nat.le_refl _, .inr ⟨i, 0, rfl, by simpa [objs] using hi, fun k v hv => ?_⟩⟩
    have ho : objs.toArray[i]? = some (.cells cs.list.toArray 0 (0, 0)) := by
      simp [objs, hd]
    simp only [World.cell?, ho]
    simpa using hv
/-- The answer is one: a run has one end. -/
theorem Res.uniq {P : Program} {f : FuncId} {ds : List DArg} {v v' : Value} (h : Res P f ds v) (h' : Res P f ds v') : v = v' := by
  obtain ⟨_, hi, _, hg, hc⟩ := h
  obtain ⟨_, _, _, _, hc'⟩ := h'
  obtain ⟨w, args, hd⟩ := dOks_some ds hg
  have d : ∀ {u : Value}, (∀ w args, DOks w ds args → Calls P f args w fun e w' => e = .returned u ∧ Below w.heap.size w w') → ∃ n w', runN P n (lone (Frame.enter P f args .normal) [] w) = .ended (.done u) w' := by
    intro u hu
    obtain ⟨n, x, w', h1, h2⟩ := Calls.done (R := fun x _ => x = u) ((hu w args hd).mono fun e w' he => by
      obtain ⟨rfl, _⟩ := he
      rfl) hi
    subst h2
    exact ⟨n, w', h1⟩
  obtain ⟨n, w1, h1⟩ := d hc
  obtain ⟨n', w2, h2⟩ := d hc'
  have e1 := runN_add P n n' (lone (Frame.enter P f args .normal) [] w)
  have e2 := runN_add P n' n (lone (Frame.enter P f args .normal) [] w)
  rw [h1] at e1
  rw [h2] at e2
  rw [Nat.add_comm n' n, e1] at e2
  simp only at e2
  injection e2 with e3
  injection e3
theorem rdArg_ok {s : FS} {v : Value} {d : DArg} (h : (rdArg v).run s = some d) : d.good ∧ ∀ {ρ0 ρ : Nat → Option Pl} {B : Nat → Prop} {w : World} {v' : Value}, VR ρ v v' → MemOk ρ0 ρ B s.blk w → DOk w d v' := by
  unfold rdArg at h
  split at h
  · rename_i hp
    obtain rfl : DArg.v v = d := by simpa [Rd.run] using h
    exact ⟨hp, fun hv _ => ⟨hp, hv.plain hp⟩⟩
  split at h
  rotate_left
  · simp [Rd.run] at h
  rename_i _ n o l _ _
  simp only [Rd.run] at h
  split at h
  rotate_left
  · simp [Rd.run] at h
  rename_i b hb
  split at h
  rotate_left
  · simp [Rd.run] at h
  rename_i hl hat
  obtain rfl : DArg.row l (dropC b.cs o) = d := by simpa [Rd.run] using h
  refine ⟨dropC_atoms hat o, fun {ρ0 ρ B w v'} hv hm => ⟨dropC_atoms hat o, ?_⟩⟩
  rcases hv.slice_inv with ⟨g, f, cp, c', h7, hq, h8, h9, _⟩ | ⟨h0, _, ad, c', h8⟩ | ⟨h0, ad, c', _, h8, _⟩
  · obtain ⟨hp2, k2⟩ := live_cell (hm.ok n b hb) hl h7 hq
    refine ⟨_, c', h8, h9, .inr ⟨g, f + o, rfl, hp2, fun k v hv => ?_⟩⟩
    rw [dropC_list, List.getElem?_drop] at hv
    obtain ⟨u, hu1, hu2⟩ := k2 _ v hv
    rw [Nat.add_assoc, hu1, hu2.plain (plain_of_atom (allAtoms_spec hat v (List.mem_of_getElem? hv)))]
  · subst h0; exact ⟨_, _, h8, Nat.zero_le _, .inl rfl⟩
  · subst h0; exact ⟨_, _, h8, Nat.zero_le _, .inl rfl⟩
theorem rdArgs_ok {s : FS} : ∀ {vs : List Value} {ds : List DArg}, (rdArgs vs).run s = some ds → (∀ d ∈ ds, d.good) ∧ ∀ {ρ0 ρ : Nat → Option Pl} {B : Nat → Prop} {w : World} {vs' : Array Value}, VRs ρ vs vs' → MemOk ρ0 ρ B s.blk w → DOks w ds vs'
  | [], ds, h => by
    obtain rfl : [] = ds := by simpa [rdArgs, Rd.run] using h
    exact ⟨fun d hd => by simp at hd, fun hv _ => ⟨hv.1, fun i d y hd => by simp at hd⟩⟩
  | v :: r, ds, h => by
    obtain ⟨d, h1, h2⟩ := bind_some h
    obtain ⟨l, h3, h4⟩ := bind_some h2
    obtain rfl : d :: l = ds := by simpa [Rd.run] using h4
    obtain ⟨g1, g2⟩ := rdArgs_ok h3
    obtain ⟨k1, k2⟩ := rdArg_ok h1
    refine ⟨fun d' hd' => ?_, fun {ρ0 ρ B w vs'} hv hm => ?_⟩
    · rcases List.mem_cons.1 hd' with rfl | hd'
      · exact k1
      · exact g1 d' hd'
    · have hsz : r.length = (vs'.extract 1 vs'.size).size := by
        have := hv.1
        simp at this ⊢
        omega
      have hg := g2 (ρ0 := ρ0) (ρ := ρ) (B := B) (w := w) (vs' := vs'.extract 1 vs'.size) ⟨hsz, fun i x x' hx hx' => hv.2 (i + 1) x x' (by simpa using hx) (by
        rw [Array.getElem?_extract] at hx'
        split at hx'
        · rw [Nat.add_comm] at hx'; exact hx'
        · cases hx')⟩ hm
      refine ⟨by have h1 := hv.1; have h2 := hg.1; simp only [List.length_cons] at h1 ⊢; omega, fun i d' y hd' hy => ?_⟩
      cases i with
      | zero =>
        obtain rfl : d = d' := by simpa using hd'
        exact k2 (hv.2 0 v y rfl hy) hm
      | succ i =>
        refine hg.2 i d' y (by simpa using hd') ?_
        have hlt : i + 1 < vs'.size := (Array.getElem?_eq_some_iff.1 hy).1
        rw [Array.getElem?_extract, if_pos (by omega), Nat.add_comm]
        exact hy
/-- What a function that makes a row answers. -/
def ResR (P : Program) (f : FuncId) (ds : List DArg) (v : Value) (b : Blk) : Prop :=
  enters P f ∧ P.inits.idxOf? f = none ∧ (b.own = true) ∧ (∀ d ∈ ds, d.good) ∧ ∀ w args, DOks w ds args → Calls P f args w fun e w' => ∃ v' p, e = .returned v' ∧ Below w.heap.size w w' ∧
    ∀ ρ name, ρ name = some p → VR ρ (atName name v) v' ∧ BlkOk ρ (fun k => k < w.heap.size) w' name b
/-- The table of rows is sound. -/
def TabROk (P : Program) (R : TabR) : Prop := ∀ f ds v b C, R f ds = some (v, b, C) → AllP C → ResR P f ds v b
/-- A new name for a row that a callee has made. -/
theorem MemOk.newRow {ρ0 ρ : Nat → Option Pl} {B : Nat → Prop} {m : Nat → Option Blk} {w w' : World} (h : MemOk ρ0 ρ B m w) (hB : ∀ k, B k → k < w.heap.size) (hbel : Below w.heap.size w w') {n : Nat} (hn : m n = none) {b : Blk} {p : Pl} (hown : b.own = true) (hb : BlkOk (addPl ρ n p) (fun k => k < w.heap.size) w' n b) :
    MemOk ρ0 (addPl ρ n p) B (setB m n b) w' where
  ext := h.ext.trans (addPl_ext (h.fresh n hn))
  fresh := fun k hk => by
    by_cases hkn : k = n
    · subst hkn; simp [setB] at hk
    · rw [addPl_ne hkn]
      exact h.fresh k (by simpa [setB, hkn] using hk)
  ok := fun k c hk => by
    by_cases hkn : k = n
    · subst hkn
      obtain rfl : b = c := by simpa [setB] using hk
      obtain ⟨kd, cs⟩ := b
      cases kd with
      | dead => trivial
      | view => exact hb
      | box =>
        obtain ⟨g, h1, h2, rest⟩ := hb
        exact ⟨g, h1, fun h => h2 (hB _ h), rest⟩
      | row e sz =>
        rcases hb with hb | ⟨g, cap, h1, h2, rest⟩
        · exact .inl hb
        · exact .inr ⟨g, cap, h1, fun h => h2 (hB _ h), rest⟩
    · have hk' : m k = some c := by simpa [setB, hkn] using hk
      exact (h.ok k c hk').keep (addPl_ext (h.fresh n hn)) hbel.size fun q hl hq hnq => hbel.block _ ((h.ok k c hk').real hl hq hnq).1
  sep := fun k k' c c' q q' hk hown' hk' hlive hne hq hq' hnq hnq' => by
    by_cases hkn : k = n
    · subst hkn
      have hk'n : k' ≠ k := fun e => hne e.symm
      have hm : m k' = some c' := by simpa [setB, hk'n] using hk'
      rw [addPl_ne hk'n] at hq'
      have h2 := ((h.ok k' c' hm).real hlive hq' hnq').1
      obtain rfl : b = c := by simpa [setB] using hk
      have h3 : ¬ q.1 < w.heap.size := (hb.real (own_live hown) hq hnq).2 hown
      omega
    · have hm : m k = some c := by simpa [setB, hkn] using hk
      rw [addPl_ne hkn] at hq
      have h2 := ((h.ok k c hm).real (own_live hown') hq hnq).1
      by_cases hk'n : k' = n
      · subst hk'n
        have h3 : ¬ q'.1 < w.heap.size := (hb.real (own_live hown) hq' hnq').2 hown
        omega
      · have hm' : m k' = some c' := by simpa [setB, hk'n] using hk'
        rw [addPl_ne hk'n] at hq'
        exact h.sep k k' c c' q q' hm hown' hm' hlive hne hq hq' hnq hnq'
/-- All functions whose arguments can be laid open, together. -/
theorem allG (P : Program) {J : TabJ} (hJ : GSound P J.g) {R : TabR} (hR : TabROk P R) : ∃ (G : Ctx) (K : FuncId → Nat → List DArg → Rd Eff), GSound P G ∧ ((∀ f, J.on f = false → ∀ name args, G f name args = (rdArgs args).bind (K f name)) ∧ ∀ f, J.on f = true → ∀ name args, G f name args = J.g f name args) ∧ (∀ f name ds v, R f ds = none → Res P f ds v → K f name ds = .ret ⟨v, [], []⟩) ∧
    ∀ f name ds v b C, R f ds = some (v, b, C) → AllP C → K f name ds = .ret ⟨atName name v, [(name, b)], []⟩ := by
  classical
  let K : FuncId → Nat → List DArg → Rd Eff := fun f name ds => match R f ds with
    | some (v, b, C) => if AllP C then .ret ⟨atName name v, [(name, b)], []⟩ else .fail
    | none => if h : ∃ v, Res P f ds v then .ret ⟨Classical.choose h, [], []⟩ else .fail
  refine ⟨fun f name args => match J.on f with
    | true => J.g f name args
    | false => (rdArgs args).bind (K f name), K, ?_, ⟨fun f hf _ _ => by simp only [hf], fun f hf _ _ => by simp only [hf]⟩, ?_, ?_⟩
  · intro f name args s eff hr hn
    rcases hj : J.on f with _ | _
    rotate_left
    · simp only [hj] at hr
      exact hJ f name args s eff hr hn
    simp only [hj] at hr
    obtain ⟨ds, hds, hr⟩ := bind_some hr
    simp only [K] at hr
    split at hr
    · rename_i v b C hx
      by_cases hC : AllP C
      rotate_left
      · rw [if_neg hC] at hr
        simp [Rd.run] at hr
      rw [if_pos hC] at hr
      obtain rfl : (⟨atName name v, [(name, b)], []⟩ : Eff) = eff := by simpa [Rd.run] using hr
      obtain ⟨h1, _, hown, _, h4⟩ := hR f ds v b C hx hC
      refine ⟨h1, fun B ρ0 ρ w args' ha hm hB _ => ?_⟩
      refine (h4 w args' ((rdArgs_ok hds).2 ha hm)).mono ?_
      rintro e w' ⟨v', p, rfl, hb, hrow⟩
      obtain ⟨g1, g2⟩ := hrow (addPl ρ name p) name (addPl_same _ _ _)
      refine ⟨v', addPl ρ name p, rfl, addPl_ext (hm.fresh name hn), g1, BelowK.of hb hB, ?_⟩
      rw [upd_one]
      exact hm.newRow hB hb hn hown g2
    · rename_i hx0
      by_cases hx : ∃ v, Res P f ds v
      rotate_left
      · simp only [dif_neg hx] at hr
        simp [Rd.run] at hr
      have hv := Classical.choose_spec hx
      simp only [dif_pos hx] at hr
      generalize Classical.choose hx = v at hv hr
      obtain rfl : (⟨v, [], []⟩ : Eff) = eff := by simpa [Rd.run] using hr
      obtain ⟨h1, _, h3, _, h4⟩ := hv
      refine ⟨h1, fun B ρ0 ρ w args' ha hm hB _ => ?_⟩
      refine (h4 w args' ((rdArgs_ok hds).2 ha hm)).mono ?_
      rintro e w' ⟨rfl, hb⟩
      refine ⟨v, ρ, rfl, Ext.refl ρ, .lit h3, BelowK.of hb hB, ?_⟩
      have : (s.upd none ⟨v, [], []⟩).blk = s.blk := by funext m; simp [FS.upd, lookW]
      rw [this]
      exact hm.keep hb
  · intro f name ds v hx0 h
    have hx : ∃ v, Res P f ds v := ⟨v, h⟩
    simp only [K, hx0, dif_pos hx]
    rw [(Classical.choose_spec hx).uniq h]
  · intro f name ds v b C hx hC
    simp only [K, hx, if_pos hC]
theorem rd_bind_tmps {α β : Type} {s : FS} {r : Rd α} {f g : α → Rd β} (h : ∀ x, r.run s = some x → (f x).tmps s = (g x).tmps s) : (r.bind f).tmps s = (r.bind g).tmps s := by
  induction r with
  | ret x => exact h x rfl
  | fail => rfl
  | tmp t k ih => simp only [Rd.bind, Rd.tmps]; rw [ih _ fun x hx => h x hx]
  | blk n k ih => simp only [Rd.bind, Rd.tmps]; rw [ih _ fun x hx => h x hx]
theorem rd_bind_blks {α β : Type} {s : FS} {r : Rd α} {f g : α → Rd β} (h : ∀ x, r.run s = some x → (f x).blks s = (g x).blks s) : (r.bind f).blks s = (r.bind g).blks s := by
  induction r with
  | ret x => exact h x rfl
  | fail => rfl
  | tmp t k ih => simp only [Rd.bind, Rd.blks]; exact ih _ fun x hx => h x hx
  | blk n k ih => simp only [Rd.bind, Rd.blks]; rw [ih _ fun x hx => h x hx]
theorem rd_bind_run {α β : Type} {s : FS} {r : Rd α} {f g : α → Rd β} (h : ∀ x, r.run s = some x → (f x).run s = (g x).run s) : (r.bind f).run s = (r.bind g).run s := by
  rw [Rd.run_bind, Rd.run_bind]
  rcases hr : r.run s with _ | x
  · rfl
  · exact h x hr
/-- Two contexts that say the same of a call are the same to the operation. -/
def SameOp (P : Program) (G G' : Ctx) (name : Nat) (o : Oper) (s : FS) : Prop :=
  (aop P G name o).run s = (aop P G' name o).run s ∧ (aop P G name o).tmps s = (aop P G' name o).tmps s ∧ (aop P G name o).blks s = (aop P G' name o).blks s
theorem sameOp_call {P : Program} {G G' : Ctx} {K K' : FuncId → Nat → List DArg → Rd Eff} {name : Nat} {o : Oper} {s : FS} {f : Operand} {args : Array Operand} {ts : Array TypeId}
    (ho : o.op = .call { callee := .value f, args := args, argTypes := ts }) {fid : FuncId} (hG : ∀ name args, G fid name args = (rdArgs args).bind (K fid name)) (hG' : ∀ name args, G' fid name args = (rdArgs args).bind (K' fid name)) {ds : List DArg} (hcall : (rdCall f args.toList).run s = some (fid, ds)) (h : K fid name ds = K' fid name ds) : SameOp P G G' name o s := by
  have e : ∀ G, aop P G name o = callOp G name f args := fun G => by simp only [aop, ho]
  unfold SameOp
  rw [e, e]
  unfold rdCall at hcall
  obtain ⟨fv0, h1, h2⟩ := bind_some hcall
  obtain ⟨l0, h3, h4⟩ := bind_some h2
  have key : ∀ fv l, (rdv f).run s = some fv → (rdvs args.toList).run s = some l → ∀ {γ : Type} (q : Rd Eff → γ), (∀ vals, (rdArgs vals).run s = some ds → q ((rdArgs vals).bind (K fid name)) = q ((rdArgs vals).bind (K' fid name))) → q (match fv with
      | .func (.func fid) first cap => G fid name (first.toList ++ l ++ cap.toList)
      | _ => .fail) = q (match fv with
      | .func (.func fid) first cap => G' fid name (first.toList ++ l ++ cap.toList)
      | _ => .fail) := by
    intro fv l hf hl γ q hq
    rw [h1] at hf
    rw [h3] at hl
    obtain rfl : fv0 = fv := by simpa using hf
    obtain rfl : l0 = l := by simpa using hl
    split at h4
    · rename_i fid' first cap
      obtain ⟨ds', h5, h6⟩ := bind_some h4
      obtain ⟨rfl, rfl⟩ : fid' = fid ∧ ds' = ds := by simpa [Rd.run] using h6
      rw [hG, hG']
      exact hq _ h5
    · simp [Rd.run] at h4
  refine ⟨rd_bind_run fun fv hf => rd_bind_run fun l hl => ?_, rd_bind_tmps fun fv hf => rd_bind_tmps fun l hl => ?_, rd_bind_blks fun fv hf => rd_bind_blks fun l hl => ?_⟩
  · refine key fv l hf hl (fun r => r.run s) fun vals hv => rd_bind_run fun x hx => ?_
    rw [hv] at hx
    obtain rfl : ds = x := by simpa using hx
    rw [h]
  · refine key fv l hf hl (fun r => r.tmps s) fun vals hv => rd_bind_tmps fun x hx => ?_
    rw [hv] at hx
    obtain rfl : ds = x := by simpa using hx
    rw [h]
  · refine key fv l hf hl (fun r => r.blks s) fun vals hv => rd_bind_blks fun x hx => ?_
    rw [hv] at hx
    obtain rfl : ds = x := by simpa using hx
    rw [h]
theorem sameOp_j {P : Program} {G G' : Ctx} {name : Nat} {o : Oper} {s : FS} {f : Operand} {args : Array Operand} {ts : Array TypeId}
    (ho : o.op = .call { callee := .value f, args := args, argTypes := ts }) {fid : FuncId} {vs : List Value} (hcall : (rdCallV f args.toList).run s = some (fid, vs)) (h : ∀ name args, G fid name args = G' fid name args) : SameOp P G G' name o s := by
  have e : ∀ G, aop P G name o = callOp G name f args := fun G => by simp only [aop, ho]
  unfold SameOp
  rw [e, e]
  unfold rdCallV at hcall
  obtain ⟨fv0, h1, h2⟩ := bind_some hcall
  obtain ⟨l0, h3, h4⟩ := bind_some h2
  have fin : ∀ fv, (rdv f).run s = some fv → ∃ first cap, fv = .func (.func fid) first cap := by
    intro fv hf
    rw [h1] at hf
    obtain rfl : fv0 = fv := by simpa using hf
    split at h4
    · rename_i fid' first cap
      obtain ⟨rfl, _⟩ : fid' = fid ∧ first.toList ++ l0 ++ cap.toList = vs := by simpa [Rd.run] using h4
      exact ⟨_, _, rfl⟩
    · simp [Rd.run] at h4
  unfold callOp
  refine ⟨rd_bind_run fun fv hf => rd_bind_run fun l hl => ?_, rd_bind_tmps fun fv hf => rd_bind_tmps fun l hl => ?_, rd_bind_blks fun fv hf => rd_bind_blks fun l hl => ?_⟩
  all_goals (obtain ⟨first, cap, rfl⟩ := fin fv hf; simp only [h])
/-- The function of a call, told twice. -/
theorem call_fid {f : Operand} {args : List Operand} {s : FS} {fid : FuncId} {ds : List DArg} (h : (rdCall f args).run s = some (fid, ds)) : ∃ vs, (rdCallV f args).run s = some (fid, vs) := by
  unfold rdCall at h
  obtain ⟨fv0, h1, h2⟩ := bind_some h
  obtain ⟨l0, h3, h4⟩ := bind_some h2
  split at h4
  · rename_i fid' first cap
    obtain ⟨ds', h5, h6⟩ := bind_some h4
    obtain ⟨rfl, rfl⟩ : fid' = fid ∧ ds' = ds := by simpa [Rd.run] using h6
    exact ⟨_, by unfold rdCallV; rw [Rd.run_bind, h1, Option.bind_some, Rd.run_bind, h3]; rfl⟩
  · simp [Rd.run] at h4
theorem sameOp_other {P : Program} {G G' : Ctx} {name : Nat} {o : Oper} {s : FS} (ho : ∀ f args ts, o.op ≠ .call { callee := .value f, args := args, argTypes := ts }) (ho2 : ∀ r m args ts, o.op ≠ .call { callee := .invoke r m, args := args, argTypes := ts }) : SameOp P G G' name o s := by
  have e : aop P G name o = aop P G' name o := by
    unfold aop
    split <;> first | rfl | (rename_i h; exact absurd h (ho _ _ _)) | (rename_i h; exact absurd h (ho2 _ _ _ _))
  unfold SameOp
  rw [e]
  exact ⟨rfl, rfl, rfl⟩
/-- The operation as it stands in its region, with its guard. -/
theorem gop_same {P : Program} {G G' : Ctx} {ops : Array Oper} {name : Nat} {o : Oper} {s : St} (h : wantedS ops s o = true → SameOp P G G' name o s.fs) :
    (gop (aop P G) ops name o).run s.fs = (gop (aop P G') ops name o).run s.fs ∧ (gop (aop P G) ops name o).tmps s.fs = (gop (aop P G') ops name o).tmps s.fs ∧ (gop (aop P G) ops name o).blks s.fs = (gop (aop P G') ops name o).blks s.fs := by
  simp only [gop, Rd.run, Rd.tmps, Rd.blks]
  rcases hb : s.fs.blk name with _ | b
  rotate_left
  · exact ⟨rfl, rfl, rfl⟩
  simp only
  unfold wantedS at h
  rcases hg : o.guard with _ | ⟨g, want⟩
  · rw [hg] at h
    obtain ⟨h1, h2, h3⟩ := h rfl
    exact ⟨h1, h2, by rw [h3]⟩
  · rw [hg] at h
    simp only at h ⊢
    rcases ht : (ops[g]?).bind (·.dst) with _ | t
    · exact ⟨rfl, rfl, rfl⟩
    · rw [ht] at h
      simp only [Rd.run, Rd.tmps, Rd.blks] at h ⊢
      have hst : s.fs.tmp t = s.tmps.getD t undef := rfl
      rw [hst]
      generalize s.tmps.getD t undef = v at h
      cases v <;> first | exact ⟨rfl, rfl, rfl⟩ | skip
      rename_i b
      simp only at h ⊢
      by_cases hw : b = want
      · obtain ⟨h1, h2, h3⟩ := h (by simpa using hw)
        simp only [if_pos hw]
        exact ⟨h1, by rw [h2], by rw [h3]⟩
      · simp only [if_neg hw]
        exact ⟨trivial, trivial, trivial⟩
theorem set_same_list {l : List Value} {t : Nat} {v : Value} (h : l.getD t undef = v) : l.set t v = l := by
  apply List.ext_getElem?
  intro k
  rw [List.getElem?_set]
  split
  · rename_i hk
    subst hk
    split
    · rename_i hl
      simp [hl] at h
      simp [hl, h]
    · rename_i hl
      rw [List.getElem?_eq_none (by omega)]
  · rfl
/-- Calls run in place are what the functions answer. -/
def CallOk (P : Program) (call : CallK) : Prop := ∀ f args k F H, (call f args k).ok F H → ∃ v, Res P f args v ∧ (k v).ok F H
theorem stepsT_ok {P : Program} {call : CallK} (hcall : CallOk P call) {R : TabR} {J : TabJ} {G : Ctx} {K : FuncId → Nat → List DArg → Rd Eff} (hGK : (∀ f, J.on f = false → ∀ name args, G f name args = (rdArgs args).bind (K f name)) ∧ ∀ f, J.on f = true → ∀ name args, G f name args = J.g f name args) (hK : ∀ f name ds v, R f ds = none → Res P f ds v → K f name ds = .ret ⟨v, [], []⟩) (hKR : ∀ f name ds v b C, R f ds = some (v, b, C) → AllP C → K f name ds = .ret ⟨atName name v, [(name, b)], []⟩) {ops : Array Oper} {nm : Nat → Nat} {fin : List (Eff × List Nat × List Nat) → St → Tree} {F : Ex → St → Prop} {H : Value → List (Option Blk) → Prop} :
    ∀ (rest : List Oper) (i : Nat) (s : St) (acc : List (Eff × List Nat × List Nat)), (stepsT P R J call ops nm fin i rest s acc).ok F H → ∃ l s', stepsOf (aop P G) ops nm i rest s = some (l, s') ∧ (fin (acc ++ l) s').ok F H
  | [], i, s, acc, h => ⟨[], s, rfl, by simpa [stepsT] using h⟩
  | o :: rest, i, s, acc, h => by
    have one : ∀ (G' : Ctx) (u : St), u = s → (wantedS ops u o = true → SameOp P G' G (nm i) o u.fs) → (match (gop (aop P G') ops (nm i) o).run u.fs with
        | none => Tree.bad
        | some e =>
          match e.wr.all fun p => decide (p.1 < u.mem.length) with
          | false => .bad
          | true => stepsT P R J call ops nm fin (i + 1) rest (u.upd o.dst e) (acc ++ [(e, (gop (aop P G') ops (nm i) o).tmps u.fs, (gop (aop P G') ops (nm i) o).blks u.fs)])).ok F H →
        ∃ l s', stepsOf (aop P G) ops nm i (o :: rest) s = some (l, s') ∧ (fin (acc ++ l) s').ok F H := by
      rintro G' u rfl hsame h
      obtain ⟨e1, e2, e3⟩ := gop_same (ops := ops) hsame
      rw [e1, e2, e3] at h
      split at h
      · exact h.elim
      rename_i e he
      split at h
      · exact h.elim
      rename_i hall
      obtain ⟨l, s', h1, h2⟩ := stepsT_ok hcall hGK hK hKR rest (i + 1) _ _ h
      exact ⟨(e, (gop (aop P G) ops (nm i) o).tmps u.fs, (gop (aop P G) ops (nm i) o).blks u.fs) :: l, s', by simp only [stepsOf, he, hall, h1], by simpa using h2⟩
    have noCall : ∀ u : St, u = s → (match (gop (aop P failG) ops (nm i) o).run u.fs with
        | none => Tree.bad
        | some e =>
          match e.wr.all fun p => decide (p.1 < u.mem.length) with
          | false => .bad
          | true => stepsT P R J call ops nm fin (i + 1) rest (u.upd o.dst e) (acc ++ [(e, (gop (aop P failG) ops (nm i) o).tmps u.fs, (gop (aop P failG) ops (nm i) o).blks u.fs)])).ok F H →
        ∃ l s', stepsOf (aop P G) ops nm i (o :: rest) s = some (l, s') ∧ (fin (acc ++ l) s').ok F H := by
      intro u hu h
      have hval : ∀ f args ts, o.op = .call { callee := .value f, args := args, argTypes := ts } → ∀ s : FS, (aop P failG (nm i) o).run s = none := by
        intro f args ts ho s
        have e : aop P failG (nm i) o = callOp failG (nm i) f args := by simp only [aop, ho]
        rw [e]
        unfold callOp
        rw [Rd.run_bind]
        rcases (rdv f).run s with _ | fv
        · rfl
        simp only [Option.bind_some]
        rw [Rd.run_bind]
        rcases (rdvs args.toList).run s with _ | l
        · rfl
        simp only [Option.bind_some]
        split <;> rfl
      have hinv : ∀ r m args ts, o.op = .call { callee := .invoke r m, args := args, argTypes := ts } → ∀ s : FS, (aop P failG (nm i) o).run s = none := by
        intro r m args ts ho s
        have e : aop P failG (nm i) o = invOp P failG (nm i) r m args := by simp only [aop, ho]
        rw [e]
        unfold invOp
        rw [Rd.run_bind]
        rcases (rdv r).run s with _ | fv
        · rfl
        simp only [Option.bind_some]
        rw [Rd.run_bind]
        rcases (rdvs args.toList).run s with _ | l
        · rfl
        simp only [Option.bind_some]
        repeat' (first | rfl | split)
      by_cases hw : wantedS ops u o = true ∧ ∀ s : FS, (aop P failG (nm i) o).run s = none
      · obtain ⟨hw, hfail⟩ := hw
        exfalso
        have hnone : (gop (aop P failG) ops (nm i) o).run u.fs = none := by
          simp only [gop, Rd.run]
          rcases hb : u.fs.blk (nm i) with _ | b
          rotate_left
          · rfl
          simp only
          unfold wantedS at hw
          rcases hg : o.guard with _ | ⟨g, want⟩
          · exact hfail _
          · rw [hg] at hw
            simp only at hw ⊢
            rcases ht : (ops[g]?).bind (·.dst) with _ | t
            · rw [ht] at hw; simp at hw
            · rw [ht] at hw
              simp only [Rd.run] at hw ⊢
              have hst : u.fs.tmp t = u.tmps.getD t undef := rfl
              rw [hst]
              generalize u.tmps.getD t undef = v at hw
              cases v <;> first | (simp at hw; done) | skip
              rename_i b
              have hbw : b = want := by simpa using hw
              simp only [if_pos hbw]
              exact hfail _
        rw [hnone] at h
        exact h
      · refine one failG u hu (fun hwt => sameOp_other (fun f args ts ho => hw ⟨hwt, hval f args ts ho⟩) (fun r m args ts ho => hw ⟨hwt, hinv r m args ts ho⟩)) h
    have step : ∀ u : St, u = s → (match wantedS ops u o with
        | false => (match (gop (aop P failG) ops (nm i) o).run u.fs with
          | none => Tree.bad
          | some e =>
            match e.wr.all fun p => decide (p.1 < u.mem.length) with
            | false => .bad
            | true => stepsT P R J call ops nm fin (i + 1) rest (u.upd o.dst e) (acc ++ [(e, (gop (aop P failG) ops (nm i) o).tmps u.fs, (gop (aop P failG) ops (nm i) o).blks u.fs)]))
        | true => match jCall J u o with
          | true => (match (gop (aop P J.g) ops (nm i) o).run u.fs with
          | none => Tree.bad
          | some e =>
            match e.wr.all fun p => decide (p.1 < u.mem.length) with
            | false => .bad
            | true => stepsT P R J call ops nm fin (i + 1) rest (u.upd o.dst e) (acc ++ [(e, (gop (aop P J.g) ops (nm i) o).tmps u.fs, (gop (aop P J.g) ops (nm i) o).blks u.fs)]))
          | false => match callOf u o with
            | some (f, args) => (match R f args with
              | some (v, b, C) => needs C (match (gop (aop P (rowG v b)) ops (nm i) o).run u.fs with
          | none => Tree.bad
          | some e =>
            match e.wr.all fun p => decide (p.1 < u.mem.length) with
            | false => .bad
            | true => stepsT P R J call ops nm fin (i + 1) rest (u.upd o.dst e) (acc ++ [(e, (gop (aop P (rowG v b)) ops (nm i) o).tmps u.fs, (gop (aop P (rowG v b)) ops (nm i) o).blks u.fs)]))
              | none => call f args fun v => (match (gop (aop P (constG v)) ops (nm i) o).run u.fs with
          | none => Tree.bad
          | some e =>
            match e.wr.all fun p => decide (p.1 < u.mem.length) with
            | false => .bad
            | true => stepsT P R J call ops nm fin (i + 1) rest (u.upd o.dst e) (acc ++ [(e, (gop (aop P (constG v)) ops (nm i) o).tmps u.fs, (gop (aop P (constG v)) ops (nm i) o).blks u.fs)])))
            | none => (match (gop (aop P failG) ops (nm i) o).run u.fs with
          | none => Tree.bad
          | some e =>
            match e.wr.all fun p => decide (p.1 < u.mem.length) with
            | false => .bad
            | true => stepsT P R J call ops nm fin (i + 1) rest (u.upd o.dst e) (acc ++ [(e, (gop (aop P failG) ops (nm i) o).tmps u.fs, (gop (aop P failG) ops (nm i) o).blks u.fs)]))).ok F H →
        ∃ l s', stepsOf (aop P G) ops nm i (o :: rest) s = some (l, s') ∧ (fin (acc ++ l) s').ok F H := by
      intro u hu h
      split at h
      · exact noCall u hu h
      split at h
      · rename_i hj
        unfold jCall at hj
        split at hj
        rotate_left
        · cases hj
        rename_i f vs hcv
        unfold callOfV at hcv
        split at hcv
        rotate_left
        · cases hcv
        rename_i fo ags ts ho
        exact one J.g u hu (fun _ => sameOp_j ho hcv fun name args => (hGK.2 f hj name args).symm) h
      rename_i hj
      split at h
      · rename_i f args hc
        have hc0 := hc
        unfold callOf at hc
        split at hc
        rotate_left
        · cases hc
        rename_i fo ags ts ho
        have hjf : J.on f = false := by
          obtain ⟨vs, hvs⟩ := call_fid hc
          have : callOfV u o = some (f, vs) := by unfold callOfV; rw [ho]; exact hvs
          unfold jCall at hj
          rw [this] at hj
          exact hj
        split at h
        · rename_i v b C hx
          obtain ⟨hC, h2⟩ := needs_ok h
          exact one (rowG v b) u hu (fun _ => sameOp_call (K := fun _ name _ => .ret ⟨atName name v, [(name, b)], []⟩) ho (fun _ _ => rfl) (hGK.1 f hjf) hc (hKR _ _ _ _ _ _ hx hC).symm) h2
        · rename_i hx
          obtain ⟨v, hres, h2⟩ := hcall _ _ _ _ _ h
          exact one (constG v) u hu (fun _ => sameOp_call (K := fun _ _ _ => .ret ⟨v, [], []⟩) ho (fun _ _ => rfl) (hGK.1 f hjf) hc (hK _ _ _ _ hx hres).symm) h2
      · exact noCall u hu h
    simp only [stepsT] at h
    split at h
    · exact step s rfl h
    rename_i t _
    split at h
    · rename_i b hb
      have hset : ∀ c, b = c → ({ tmps := s.tmps.set t (.bool c), mem := s.mem } : St) = s := by
        intro c hc
        subst hc
        rw [set_same_list hb]
      obtain ⟨h1, h2⟩ := brT_ok.1 h
      cases b with
      | true => exact step _ (hset true rfl) (h1 rfl)
      | false => exact step _ (hset false rfl) (h2 rfl)
    · exact step s rfl h
theorem regionT_ok {P : Program} {call : CallK} (hcall : CallOk P call) {R : TabR} {J : TabJ} {G : Ctx} {K : FuncId → Nat → List DArg → Rd Eff} (hGK : (∀ f, J.on f = false → ∀ name args, G f name args = (rdArgs args).bind (K f name)) ∧ ∀ f, J.on f = true → ∀ name args, G f name args = J.g f name args) (hK : ∀ f name ds v, R f ds = none → Res P f ds v → K f name ds = .ret ⟨v, [], []⟩) (hKR : ∀ f name ds v b C, R f ds = some (v, b, C) → AllP C → K f name ds = .ret ⟨atName name v, [(name, b)], []⟩) {draw : Bool} {ops : List Oper} {s : St} {k : St → Tree} {F : Ex → St → Prop} {H : Value → List (Option Blk) → Prop}
    (h : (regionT P R J call draw ops s k).ok F H) : ∃ s' C, regionRun (aop P G) alAll draw ops s = some (s', C) ∧ AllP C ∧ (k s').ok F H := by
  obtain ⟨l, s', h1, h2⟩ := stepsT_ok hcall hGK hK hKR ops 0 _ [] h
  simp only [List.nil_append] at h2
  split at h2
  · exact h2.elim
  rename_i hchk
  obtain ⟨h3, h4⟩ := needs_ok h2
  exact ⟨s', condsOf l, by simp only [regionRun, h1, hchk], h3, h4⟩
def Ex.out : Ex → Exit
  | .normal => .normal
  | .exit id => .exit id
  | .ret => .ret
theorem evalO_is {s : St} {c : Operand} {t : Bool} {w0 : Start} {a : Act} {w : World} (hc : Conc w0 s.fs a w) (ht : evalO s c = .bool t) : a.eval c = .bool t := by
  obtain ⟨h1, h2, h3, ρ, h4, h5⟩ := hc
  cases c with
  | tmp n =>
    have := (h4 n).plain (by
      show plainV (s.tmps.getD n undef) = true
      rw [show s.tmps.getD n undef = .bool t from ht]; rfl)
    rw [eval_tmp, this]
    exact ht
  | const v => exact ht
  | global g => cases ht
  | func f => cases ht
/-- Other blocks are to be kept: none of them a block that a name owns. -/
theorem BlkOk.less {ρ : Nat → Option Pl} {B B' : Nat → Prop} {w : World} {n : Nat} {b : Blk} (h : BlkOk ρ B w n b) (hk : b.own = true → ∀ p cs e z, ρ n = some p → ¬ nilPl p → w.heap[p.1]? = some (.cells cs e z) → B' p.1 → B p.1) : BlkOk ρ B' w n b := by
  obtain ⟨kd, cs⟩ := b
  cases kd with
  | dead => trivial
  | view => exact h
  | box =>
    obtain ⟨g, h1, h2, cs', e, h3, h4⟩ := h
    exact ⟨g, h1, fun hB => h2 (hk rfl _ _ _ _ h1 (okPl.not (.inl rfl)) h3 hB), cs', e, h3, h4⟩
  | row e sz =>
    rcases h with h | ⟨g, cap, h1, h2, cs', h3, h4⟩
    · exact .inl h
    · exact .inr ⟨g, cap, h1, fun hB => h2 (hk rfl _ _ _ _ h1 (okPl.not (.inl rfl)) h3 hB), cs', h3, h4⟩
theorem MemOk.other {ρ0 ρ : Nat → Option Pl} {B B' : Nat → Prop} {m : Nat → Option Blk} {w : World} (h : MemOk ρ0 ρ B m w) (hk : ∀ n b p cs e z, m n = some b → b.own = true → ρ n = some p → ¬ nilPl p → w.heap[p.1]? = some (.cells cs e z) → B' p.1 → B p.1) : MemOk ρ0 ρ B' m w :=
  ⟨h.ext, h.fresh, fun n b hn => (h.ok n b hn).less (fun ho p cs e z => hk n b p cs e z hn ho), h.sep⟩
theorem MemOk.less {ρ0 ρ : Nat → Option Pl} {B B' : Nat → Prop} {m : Nat → Option Blk} {w : World} (h : MemOk ρ0 ρ B m w) (hk : ∀ k, B' k → B k) : MemOk ρ0 ρ B' m w := h.other fun _ _ p _ _ _ _ _ _ _ _ => hk p.1
/-- What holds of names stands where all cells lie as they lay. -/
theorem BlkOk.grown {ρ : Nat → Option Pl} {B : Nat → Prop} {w w' : World} {n : Nat} {b : Blk} (h : BlkOk ρ B w n b) (hs : w.heap.size ≤ w'.heap.size) (hb : ∀ (k : Nat) (o : Obj), w.heap[k]? = some o → o.isCells = true → w'.heap[k]? = w.heap[k]?) : BlkOk ρ B w' n b := by
  obtain ⟨kd, cs⟩ := b
  cases kd with
  | dead => trivial
  | view =>
    rcases h with h | ⟨g, f, cp, h1, hq, h2, h3⟩
    · exact .inl h
    · refine .inr ⟨g, f, cp, h1, hq, by omega, fun k v hv => ?_⟩
      obtain ⟨v', h4, h5⟩ := h3 k v hv
      obtain ⟨o, ho, hc⟩ := cells_of_cell h4
      exact ⟨v', (World.cell?_of_block (w := w) (a := ⟨g, f + k, none⟩) (hb g o ho hc)).trans h4, h5⟩
  | box =>
    obtain ⟨g, h1, h2, cs', e, h3, h4, h5⟩ := h
    exact ⟨g, h1, h2, cs', e, (hb g _ h3 rfl).trans h3, h4, h5⟩
  | row e sz =>
    rcases h with h | ⟨g, cap, h1, h2, cs', h3, h4, h5⟩
    · exact .inl h
    · exact .inr ⟨g, cap, h1, h2, cs', (hb g _ h3 rfl).trans h3, h4, h5⟩
theorem MemOk.grown {ρ0 ρ : Nat → Option Pl} {B : Nat → Prop} {m : Nat → Option Blk} {w w' : World} (h : MemOk ρ0 ρ B m w) (hs : w.heap.size ≤ w'.heap.size) (hb : ∀ (k : Nat) (o : Obj), w.heap[k]? = some o → o.isCells = true → w'.heap[k]? = w.heap[k]?) : MemOk ρ0 ρ B m w' :=
  ⟨h.ext, h.fresh, fun n b hn => (h.ok n b hn).grown hs hb, h.sep⟩
/-- The mark of a loop over a function among the deferred calls. -/
def mkDf (D : Nat) : Deferred := { target := .collected D, args := #[] }
/-- A later start of the same call: more is kept, more marks. -/
structure Later (w0 w1 : Start) : Prop where
  ρ0 : w1.ρ0 = w0.ρ0
  ro : w1.ro = w0.ro
  kp : ∀ k, w0.kp k → w1.kp k
  bel : BelowK w0.kp w0.toWorld w1.toWorld
  df : ∃ ms : List Nat, w1.df = ms.map mkDf ++ w0.df ∧ ms.Nodup ∧ ∀ D ∈ ms, ¬ w0.kp D ∧ w0.heap.size ≤ D ∧ w1.kp D ∧ w1.heap[D]? = some (.deferred (some []))
theorem Later.refl (w0 : Start) : Later w0 w0 := ⟨rfl, rfl, fun _ h => h, BelowK.refl _ _, [], rfl, List.nodup_nil, fun D hD => by cases hD⟩
theorem Later.trans {a b c : Start} (h : Later a b) (k : Later b c) : Later a c := by
  obtain ⟨ms, e1, n1, p1⟩ := h.df
  obtain ⟨ns, e2, n2, p2⟩ := k.df
  refine ⟨k.ρ0.trans h.ρ0, k.ro.trans h.ro, fun x hx => k.kp x (h.kp x hx), ?_, ns ++ ms, by rw [e2, e1]; simp, ?_, ?_⟩
  · exact ⟨k.bel.os.trans h.bel.os, k.bel.tape.trans h.bel.tape, k.bel.output.trans h.bel.output, Nat.le_trans h.bel.size k.bel.size, fun x hx => (k.bel.block x (h.kp x hx)).trans (h.bel.block x hx)⟩
  · refine List.nodup_append.2 ⟨n2, n1, fun D hD D' hD' he => ?_⟩
    subst he
    exact (p2 D hD).1 (p1 D hD').2.2.1
  · intro D hD
    rcases List.mem_append.1 hD with hD | hD
    · obtain ⟨q1, q2, q3, q4⟩ := p2 D hD
      exact ⟨fun hk => q1 (h.kp D hk), Nat.le_trans h.bel.size q2, q3, q4⟩
    · obtain ⟨q1, q2, q3, q4⟩ := p1 D hD
      exact ⟨q1, q2, k.kp D q3, (k.bel.block D q3).trans q4⟩
/-- A function's end with marks among its deferred calls: each is shut; what is kept through that holds at the end. -/
theorem marks_leave {P : Program} {fn : Func} {tmps : Array Value} {R : Ending → World → Prop} (J : World → Prop) : ∀ (ms : List Nat) (w : World), (∀ D ∈ ms, w.heap[D]? = some (.deferred (some []))) → ms.Nodup →
    (∀ (w : World) (D : Nat), D ∈ ms → J w → w.heap[D]? = some (.deferred (some [])) → J (w.putObj D (.deferred none))) → J w → (∀ w, J w → ∃ v, (results fn tmps).run P w = .ok v w ∧ R (.returned v) w) →
    LeavesInM Fence.wide 3 P fn tmps R (ms.map mkDf) .returning w
  | [], w, _, _, _, h, hend => hend w h
  | D :: ms, w, hm, hnd, hst, h, hend => by
    obtain ⟨hn1, hn2⟩ := List.nodup_cons.1 hnd
    have hD := hm D (List.mem_cons_self ..)
    refine ⟨by simp, .inl ⟨D, _, rfl, run_takeDeferred hD, ?_⟩⟩
    refine marks_leave J ms _ (fun D' hD' => ?_) hn2 (fun w D' hD' => hst w D' (List.mem_cons_of_mem _ hD')) (hst w D (List.mem_cons_self ..) h hD) hend
    have hne : D' ≠ D := fun e => hn1 (by rw [← e]; exact hD')
    exact (World.putObj_heap_other hne).trans (hm D' (List.mem_cons_of_mem _ hD'))
/-- A state at some later start. -/
def RecOk (w0 : Start) : Prop := ∀ l, w0.ro = some l → w0.kp l ∧ ∃ r, w0.heap[l]? = some (.loop r)
theorem RecOk.later {w0 w1 : Start} (h : RecOk w0) (k : Later w0 w1) : RecOk w1 := fun l hl => by
  obtain ⟨h1, r, h2⟩ := h l (by rw [← k.ro]; exact hl)
  exact ⟨k.kp l h1, r, (k.bel.block l h1).trans h2⟩
def Con (w0 : Start) (s : FS) (a : Act) (w : World) : Prop := RecOk w0 ∧ ∃ w1, Later w0 w1 ∧ Conc w1 s a w
theorem Con.of {w0 : Start} (hr : RecOk w0) {s : FS} {a : Act} {w : World} (h : Conc w0 s a w) : Con w0 s a w := ⟨hr, w0, Later.refl _, h⟩
theorem Con.later {w0 w1 : Start} {s : FS} {a : Act} {w : World} (hr : RecOk w0) (h : Later w0 w1) (k : Con w1 s a w) : Con w0 s a w := let ⟨_, w2, h1, h2⟩ := k; ⟨hr, w2, h.trans h1, h2⟩
/-- A piece of code comes from one state to one end at another, whatever the frame and the world. -/
def Det (P : Program) (c : Code) (s : St) (e' : Ex) (s' : St) : Prop := ∀ w0 a w, Con w0 s.fs a w → c.wpIn (fz w0.ro) 3 P (fun e a w => e = e'.out ∧ Con w0 s'.fs a w) a w
/-- The same from the start itself. -/
theorem Det.of {P : Program} {c : Code} {s : St} {e' : Ex} {s' : St} (h : ∀ w0 a w, RecOk w0 → Conc w0 s.fs a w → c.wpIn (fz w0.ro) 3 P (fun e a w => e = e'.out ∧ Con w0 s'.fs a w) a w) : Det P c s e' s' := by
  rintro w0 a w ⟨hr, w1, h1, h2⟩
  have := h w1 a w (hr.later h1) h2
  rw [h1.ro] at this
  exact wpIn_mono this fun e a w ⟨he, hc⟩ => ⟨he, hc.later hr h1⟩
theorem evalO_con {s : St} {c : Operand} {t : Bool} {w0 : Start} {a : Act} {w : World} (hc : Con w0 s.fs a w) (ht : evalO s c = .bool t) : a.eval c = .bool t := let ⟨_, _, _, h⟩ := hc; evalO_is h ht
theorem wpIn_loop_ghost {F : Fence} {n : Nat} {P : Program} {Q : Exit → Act → World → Prop} {a : Act} {w : World} {c : Code} (I : Nat → Act → World → Prop) (n₀ : Nat) (h₀ : I n₀ a w)
    (round : ∀ n' a w, I n' a w → c.wpIn F n P (Exit.then (fun a' w' => ∃ m, m < n' ∧ I m a' w') Q) a w) : (Code.loop c).wpIn F n P Q a w := by
  refine wpIn_loop (fun a w => ∃ n, I n a w) (fun a w => leastOf (fun n => I n a w)) ⟨n₀, h₀⟩ ?_
  intro a w hI
  refine wpIn_mono (round _ a w (leastOf_spec hI).1) ?_
  intro e a' w' hq
  cases e with
  | normal =>
    obtain ⟨n', hlt, hI'⟩ := hq
    exact show (∃ n, I n a' w') ∧ leastOf (fun n => I n a' w') < leastOf (fun n => I n a w) from ⟨⟨n', hI'⟩, Nat.lt_of_le_of_lt ((leastOf_spec ⟨n', hI'⟩).2 n' hI') hlt⟩
  | exit id => exact hq
  | goto l => exact hq
  | ret => exact hq
  | panic ch => exact hq
  | outgrown => exact hq
/-- One cell of a weaker state: f tells for a name of the weaker state the name that it stands for (or that it stands for nothing: an empty row). -/
def wv0 (f : Nat → Option (Option Nat)) : Value → Value → Prop
  | _, .chan (some 0) => True
  | .pointer (some ⟨n, o, none⟩), .pointer (some ⟨n', o', none⟩) => f n' = some (some n) ∧ o = o'
  | .slice (some ⟨n, o, none⟩) l _, .slice (some ⟨n', o', none⟩) l' _ => f n' = some (some n) ∧ o = o' ∧ l = l'
  | .slice none 0 0, .slice (some ⟨n', _, none⟩) l' _ => f n' = some none ∧ l' = 0
  | v, v' => v = v' ∧ plainV v = true
def wl0 (f : Nat → Option (Option Nat)) : List Value → List Value → Prop
  | [], [] => True
  | a :: r, b :: r' => wv0 f a b ∧ wl0 f r r'
  | _, _ => False
def wv (f : Nat → Option (Option Nat)) : Value → Value → Prop
  | .agg ⟨l⟩, .agg ⟨l'⟩ => wl0 f l l'
  | .tuple ⟨l⟩, .tuple ⟨l'⟩ => wl0 f l l'
  | .func fn ⟨a⟩ ⟨c⟩, .func fn' ⟨a'⟩ ⟨c'⟩ => fn = fn' ∧ wl0 f a a' ∧ wl0 f c c'
  | v, v' => wv0 f v v'
def wvs (f : Nat → Option (Option Nat)) : List Value → List Value → Prop
  | [], [] => True
  | a :: r, b :: r' => wv f a b ∧ wvs f r r'
  | _, _ => False
def rhoOf (ρ : Nat → Option Pl) (f : Nat → Option (Option Nat)) : Nat → Option Pl := fun n' => match f n' with
  | none => none
  | some none => some (0, 1, some 0)
  | some (some n) => ρ n
theorem rhoOf_some {ρ : Nat → Option Pl} {f : Nat → Option (Option Nat)} {n n' : Nat} (h : f n' = some (some n)) : rhoOf ρ f n' = ρ n := by simp [rhoOf, h]
theorem wv0_ok {ρ : Nat → Option Pl} {f : Nat → Option (Option Nat)} {v v' x : Value} (h : wv0 f v v') (k : VR ρ v x) : VR (rhoOf ρ f) v' x := by
  unfold wv0 at h
  split at h
  · exact .top
  · rename_i n o n' o'
    obtain ⟨h1, rfl⟩ := h
    obtain ⟨g, f', cp, h2, h3, rfl⟩ := k.ptr_inv
    exact .ptr ((rhoOf_some h1).trans h2) h3
  · rename_i n o l c n' o' l' c'
    obtain ⟨h1, rfl, rfl⟩ := h
    rcases k.slice_inv with ⟨g, f', cp, c2, h2, hq, rfl, h4, h5⟩ | ⟨rfl, h2, ad, c2, rfl⟩ | ⟨rfl, ad, c2, p, rfl, h2, h3, h4⟩
    · exact .slice ((rhoOf_some h1).trans h2) hq h4 h5
    · exact .none_ h2
    · exact .nil_ ((rhoOf_some h1).trans h2) h3 rfl h4
  · obtain ⟨h1, rfl⟩ := h
    obtain rfl := k.plain rfl
    exact .nil_ (p := (0, 1, some 0)) (by simp [rhoOf, h1]) ⟨rfl, 0, rfl⟩ rfl (fun _ => ⟨rfl, rfl⟩)
  · obtain ⟨rfl, h1⟩ := h
    obtain rfl := k.plain h1
    exact .lit h1
theorem wl0_ok {ρ : Nat → Option Pl} {f : Nat → Option (Option Nat)} : ∀ {l l' : List Value}, wl0 f l l' → l.length = l'.length ∧ ∀ (i : Nat) v' x, l'[i]? = some v' → (∀ v, l[i]? = some v → VR ρ v x) → VR (rhoOf ρ f) v' x
  | [], [], _ => ⟨rfl, fun i v' x h => by simp at h⟩
  | [], _ :: _, h => h.elim
  | _ :: _, [], h => h.elim
  | a :: r, b :: r', h => by
    obtain ⟨h1, h2⟩ := h
    obtain ⟨h3, h4⟩ := wl0_ok (ρ := ρ) h2
    refine ⟨by simp [h3], fun i v' x hv' hx => ?_⟩
    cases i with
    | zero =>
      obtain rfl : b = v' := by simpa using hv'
      exact wv0_ok h1 (hx a rfl)
    | succ i => exact h4 i v' x (by simpa using hv') fun v hv => hx v (by simpa using hv)
theorem wv_ok {ρ : Nat → Option Pl} {f : Nat → Option (Option Nat)} {v v' x : Value} (h : wv f v v') (k : VR ρ v x) : VR (rhoOf ρ f) v' x := by
  have rel : ∀ {l l' : List Value} {cs : Array Value}, wl0 f l l' → l.length = cs.size → (∀ (i : Nat) v y, l[i]? = some v → cs[i]? = some y → VR ρ v y) → l'.length = cs.size ∧ ∀ (i : Nat) v' y, l'[i]? = some v' → cs[i]? = some y → VR (rhoOf ρ f) v' y := by
    intro l l' cs hl hs hr
    obtain ⟨h1, h2⟩ := wl0_ok (ρ := ρ) hl
    exact ⟨by omega, fun i v' y hv' hy => h2 i v' y hv' fun v hv => hr i v y hv hy⟩
  unfold wv at h
  split at h
  · obtain ⟨cs, rfl, h1, h2⟩ := k.agg_inv
    obtain ⟨h3, h4⟩ := rel h (by simpa using h1) (fun i v y hv hy => h2 i v y (by simpa using hv) hy)
    exact .agg (by simpa using h3) fun i v y hv hy => h4 i v y (by simpa using hv) hy
  · obtain ⟨cs, rfl, h1, h2⟩ := k.tuple_inv
    obtain ⟨h3, h4⟩ := rel h (by simpa using h1) (fun i v y hv hy => h2 i v y (by simpa using hv) hy)
    exact .tuple (by simpa using h3) fun i v y hv hy => h4 i v y (by simpa using hv) hy
  · obtain ⟨rfl, ha, hc⟩ := h
    obtain ⟨f', c', rfl, h1, h2⟩ := k.func_inv
    obtain ⟨h3, h4⟩ := rel ha h1.1 h1.2
    obtain ⟨h5, h6⟩ := rel hc h2.1 h2.2
    exact .func (by simpa using h3) (by simpa using h5) (fun i v y hv hy => h4 i v y (by simpa using hv) hy) fun i v y hv hy => h6 i v y (by simpa using hv) hy
  · exact wv0_ok h k
theorem wvs_ok {ρ : Nat → Option Pl} {f : Nat → Option (Option Nat)} : ∀ {l l' : List Value}, wvs f l l' → l.length = l'.length ∧ ∀ (i : Nat) v', l'[i]? = some v' → ∃ v, l[i]? = some v ∧ ∀ x, VR ρ v x → VR (rhoOf ρ f) v' x
  | [], [], _ => ⟨rfl, fun i v' h => by simp at h⟩
  | [], _ :: _, h => h.elim
  | _ :: _, [], h => h.elim
  | a :: r, b :: r', h => by
    obtain ⟨h1, h2⟩ := h
    obtain ⟨h3, h4⟩ := wvs_ok (ρ := ρ) h2
    refine ⟨by simp [h3], fun i v' hv' => ?_⟩
    cases i with
    | zero =>
      obtain rfl : b = v' := by simpa using hv'
      exact ⟨a, rfl, fun x hx => wv_ok h1 hx⟩
    | succ i => exact h4 i v' (by simpa using hv')
/-- Known cells of a weaker state. -/
def wc (f : Nat → Option (Option Nat)) : Cs → Cs → Prop
  | .ints xs, .ints ys => xs = ys
  | .vals l, .ints ys => intsOf l = some ys
  | .vals l, .vals l' => wvs f l l'
  | .ints _, .vals _ => False
  | .bytes xs, .bytes ys => xs = ys
  | _, _ => False
theorem wc_ok {ρ : Nat → Option Pl} {f : Nat → Option (Option Nat)} {c c' : Cs} (h : wc f c c') : c.list.length = c'.list.length ∧ ∀ (i : Nat) v', c'.list[i]? = some v' → ∃ v, c.list[i]? = some v ∧ ∀ x, VR ρ v x → VR (rhoOf ρ f) v' x := by
  have same : ∀ xs : List Int, ∀ (i : Nat) v', (xs.map (Value.int .i64))[i]? = some v' → ∃ v, (xs.map (Value.int .i64))[i]? = some v ∧ ∀ x, VR ρ v x → VR (rhoOf ρ f) v' x := by
    intro xs i v' hv'
    refine ⟨v', hv', fun x hx => ?_⟩
    obtain ⟨n, _, rfl⟩ := List.mem_map.1 (List.mem_of_getElem? hv')
    obtain rfl := hx.plain rfl
    exact .lit rfl
  unfold wc at h
  split at h
  · subst h
    exact ⟨rfl, same _⟩
  · have := intsOf_spec h
    subst this
    exact ⟨rfl, same _⟩
  · exact wvs_ok h
  · exact h.elim
  · rename_i xs _
    subst h
    refine ⟨rfl, fun i v' hv' => ⟨v', hv', fun x hx => ?_⟩⟩
    obtain ⟨n, _, rfl⟩ := List.mem_map.1 (List.mem_of_getElem? hv')
    obtain rfl := hx.plain rfl
    exact .lit rfl
  · exact h.elim
/-- A block of a weaker state. -/
def wb (f : Nat → Option (Option Nat)) (b b' : Blk) : Prop :=
  match b'.kind, b.kind with
  | .dead, _ => True
  | .box, .box => wc f b.cs b'.cs
  | .row e' sz', .row e sz => e = e' ∧ sz = sz' ∧ wc f b.cs b'.cs
  | .view, .box => wc f b.cs b'.cs
  | .view, .row _ _ => wc f b.cs b'.cs
  | .view, .view => wc f b.cs b'.cs
  | _, _ => False
theorem wb_ok {ρ : Nat → Option Pl} {f : Nat → Option (Option Nat)} {b b' : Blk} (h : wb f b b') {B : Nat → Prop} {n n' : Nat} {w : World} (hn : f n' = some (some n)) (k : BlkOk ρ B w n b) : BlkOk (rhoOf ρ f) B w n' b' ∧ (b'.live = true → b.live = true) ∧ (b'.own = true → b.own = true) := by
  have hr := rhoOf_some (ρ := ρ) hn
  obtain ⟨kd, cs⟩ := b
  obtain ⟨kd', cs'⟩ := b'
  have cells : wc f cs cs' → ∀ {arr : Array Value}, Cells ρ cs.list arr → Cells (rhoOf ρ f) cs'.list arr := fun hc arr hcl i v' hv' => by
    obtain ⟨v, h1, h2⟩ := (wc_ok (ρ := ρ) hc).2 i v' hv'
    obtain ⟨x, h3, h4⟩ := hcl i v h1
    exact ⟨x, h3, h2 x h4⟩
  have at_ : ∀ {g : Nat} {arr : Array Value} {e : TypeId} (k : Nat), w.heap[g]? = some (.cells arr e (0, 0)) → w.cell? ⟨g, k, none⟩ = arr[k]? := fun {g arr e} k hh => by simp [World.cell?, hh]
  cases kd' with
  | dead => exact ⟨trivial, ⟨fun h => (by cases h), fun h => (by cases h)⟩⟩
  | box =>
    cases kd <;> first | exact h.elim | skip
    obtain ⟨g, h1, h2, arr, e, h3, h4, h5⟩ := k
    exact ⟨⟨g, hr.trans h1, h2, arr, e, h3, by rw [h4]; exact (wc_ok (ρ := ρ) h).1, cells h h5⟩, fun _ => rfl, fun _ => rfl⟩
  | row e' sz' =>
    cases kd <;> first | exact h.elim | skip
    obtain ⟨rfl, rfl, hc⟩ := h
    refine ⟨?_, fun _ => rfl, fun _ => rfl⟩
    rcases k with ⟨p, h1, h2⟩ | ⟨g, cap, h1, h2, arr, h3, h4, h5⟩
    · exact .inl ⟨p, hr.trans h1, h2⟩
    · exact .inr ⟨g, cap, hr.trans h1, h2, arr, h3, h4, cells hc h5⟩
  | view =>
    cases kd with
    | dead => exact h.elim
    | box =>
      refine ⟨?_, fun _ => rfl, fun h => (by cases h)⟩
      obtain ⟨g, h1, h2, arr, e, h3, h4, h5⟩ := k
      refine .inr ⟨g, 0, none, hr.trans h1, .inl rfl, heap_lt h3, fun i v hv => ?_⟩
      rw [Nat.zero_add, at_ i h3]
      exact cells h h5 i v hv
    | row e sz =>
      refine ⟨?_, fun _ => rfl, fun h => (by cases h)⟩
      rcases k with ⟨p, h1, h2, h3⟩ | ⟨g, cap, h1, h2, arr, h3, h4, h5⟩
      · exact .inl ⟨p, hr.trans h1, h2, 0, h3⟩
      · refine .inr ⟨g, 0, some cap, hr.trans h1, .inl rfl, heap_lt h3, fun i v hv => ?_⟩
        rw [Nat.zero_add, at_ i h3]
        exact cells h h5 i v hv
    | view =>
      refine ⟨?_, fun _ => rfl, fun h => (by cases h)⟩
      rcases k with ⟨p, h1, h2⟩ | ⟨g, f', cp, h1, hq, h2, h3⟩
      · exact .inl ⟨p, hr.trans h1, h2⟩
      · refine .inr ⟨g, f', cp, hr.trans h1, hq, h2, fun i v' hv' => ?_⟩
        obtain ⟨v, h4, h5⟩ := (wc_ok (ρ := ρ) h).2 i v' hv'
        obtain ⟨x, h6, h7⟩ := h3 i v h4
        exact ⟨x, h6, h5 x h7⟩
def nilKind : BK → Bool
  | .row _ _ => true
  | .view => true
  | _ => false
/-- The blocks of a weaker state, from a name on. -/
def wm (f : Nat → Option (Option Nat)) (N : Nat) (src : List (Option Blk)) : Nat → List (Option Blk) → Prop
  | _, [] => True
  | n', none :: r => (n' < N → src.getD n' none = none) ∧ wm f N src (n' + 1) r
  | n', some b' :: r => (match b'.kind with
    | .dead => True
    | _ => match f n' with
      | some (some n) => (match src.getD n none with
        | some b => wb f b b'
        | none => False)
      | some none => nilKind b'.kind = true
      | none => False) ∧ wm f N src (n' + 1) r
def nmOf (N : Nat) (π : List (Option Nat)) (m : List (Option Blk)) (n' : Nat) : Option (Option Nat) :=
  match m.getD n' none with
  | none => none
  | some _ => some (match Nat.blt n' N with
    | true => some n'
    | false => π.getD (n' - N) none)
def liveSrc (f : Nat → Option (Option Nat)) : Nat → List (Option Blk) → List (Nat × Bool)
  | _, [] => []
  | n', none :: r => liveSrc f (n' + 1) r
  | n', some b :: r => match b.live, f n' with
    | true, some (some n) => (n, b.own) :: liveSrc f (n' + 1) r
    | _, _ => liveSrc f (n' + 1) r
def injB : List (Nat × Bool) → Bool
  | [] => true
  | (n, o) :: r => (r.all fun q => !(o || q.2) || !(Nat.beq q.1 n)) && injB r
/-- A weaker state: slots of which nothing is known, names given up or changed. -/
def WS (N : Nat) (π : List (Option Nat)) (s s' : St) : Prop :=
  Nat.ble N s'.mem.length = true ∧ injB (liveSrc (nmOf N π s'.mem) 0 s'.mem) = true ∧ wm (nmOf N π s'.mem) N s.mem 0 s'.mem ∧ wvs (nmOf N π s'.mem) s.tmps s'.tmps
theorem liveSrc_mem {f : Nat → Option (Option Nat)} : ∀ (l : List (Option Blk)) (k i : Nat) (b : Blk) (n : Nat), l[i]? = some (some b) → b.live = true → f (k + i) = some (some n) → (n, b.own) ∈ liveSrc f k l
  | [], k, i, b, n, h, _, _ => by simp at h
  | x :: r, k, i, b, n, h, hl, hf => by
    cases i with
    | zero =>
      obtain rfl : x = some b := by simpa using h
      simp only [liveSrc]
      rw [Nat.add_zero] at hf
      simp [hl, hf]
    | succ i =>
      have ih := liveSrc_mem r (k + 1) i b n (by simpa using h) hl (by rw [show k + 1 + i = k + (i + 1) by omega]; exact hf)
      cases x with
      | none => exact ih
      | some c =>
        simp only [liveSrc]
        split
        · exact List.mem_cons_of_mem _ ih
        · exact ih
theorem inj_spec {f : Nat → Option (Option Nat)} : ∀ (l : List (Option Blk)) (k : Nat), injB (liveSrc f k l) = true → ∀ (i j : Nat) (b c : Blk) (n n' : Nat), i < j → l[i]? = some (some b) → l[j]? = some (some c) → b.live = true → c.live = true → (b.own = true ∨ c.own = true) → f (k + i) = some (some n) → f (k + j) = some (some n') → n ≠ n'
  | [], k, _, i, j, b, c, n, n', _, h, _, _, _, _, _, _ => by simp at h
  | x :: r, k, hinj, i, j, b, c, n, n', hij, hi, hj, hb, hc, ho, hf, hf' => by
    obtain ⟨j, rfl⟩ : ∃ j', j = j' + 1 := ⟨j - 1, by omega⟩
    have hj' : r[j]? = some (some c) := by simpa using hj
    have hf2 : f (k + 1 + j) = some (some n') := by rw [show k + 1 + j = k + (j + 1) by omega]; exact hf'
    have tail : injB (liveSrc f (k + 1) r) = true := by
      cases x with
      | none => exact hinj
      | some d =>
        simp only [liveSrc] at hinj
        split at hinj
        · simp only [injB, Bool.and_eq_true] at hinj
          exact hinj.2
        · exact hinj
    cases i with
    | zero =>
      obtain rfl : x = some b := by simpa using hi
      rw [Nat.add_zero] at hf
      simp only [liveSrc, hb, hf, injB, Bool.and_eq_true] at hinj
      have := List.all_eq_true.1 hinj.1 _ (liveSrc_mem r (k + 1) j c n' hj' hc hf2)
      rintro rfl
      rcases ho with ho | ho <;> simp [ho] at this
    | succ i =>
      exact inj_spec r (k + 1) tail i j b c n n' (by omega) (by simpa using hi) hj' hb hc ho (by rw [show k + 1 + i = k + (i + 1) by omega]; exact hf) hf2
theorem wm_spec {f : Nat → Option (Option Nat)} {N : Nat} {src : List (Option Blk)} : ∀ (l : List (Option Blk)) (k : Nat), wm f N src k l → ∀ i, (l[i]? = some none → k + i < N → src.getD (k + i) none = none) ∧ ∀ b', l[i]? = some (some b') → b'.kind = .dead ∨
    (∃ n b, f (k + i) = some (some n) ∧ src.getD n none = some b ∧ wb f b b') ∨ (f (k + i) = some none ∧ nilKind b'.kind = true)
  | [], k, _, i => ⟨fun h => by simp at h, fun b' h => by simp at h⟩
  | x :: r, k, h, i => by
    cases i with
    | zero =>
      refine ⟨fun hx hN => ?_, fun b' hx => ?_⟩
      · obtain rfl : x = none := by simpa using hx
        exact h.1 hN
      · obtain rfl : x = some b' := by simpa using hx
        have h1 := h.1
        split at h1
        · rename_i hd; exact .inl hd
        · split at h1
          · rename_i n hf
            split at h1
            · rename_i b hb
              exact .inr (.inl ⟨n, b, hf, hb, h1⟩)
            · exact h1.elim
          · rename_i hf
            exact .inr (.inr ⟨hf, h1⟩)
          · exact h1.elim
    | succ i =>
      have ht : wm f N src (k + 1) r := by cases x <;> exact h.2
      have := wm_spec r (k + 1) ht i
      rw [show k + 1 + i = k + (i + 1) by omega] at this
      exact ⟨fun hx => this.1 (by simpa using hx), fun b' hx => this.2 b' (by simpa using hx)⟩
theorem getD_some {l : List (Option Blk)} {n : Nat} {b : Blk} (h : l.getD n none = some b) : l[n]? = some (some b) := by
  rw [List.getD_eq_getElem?_getD] at h
  rcases hx : l[n]? with _ | x
  · simp [hx] at h
  · simp only [hx, Option.getD_some] at h
    rw [h]
theorem weak_conc {N : Nat} {π : List (Option Nat)} {s s' : St} (h : WS N π s s') {w0 : Start} {a : Act} {w : World} (hρ : ∀ n, N ≤ n → w0.ρ0 n = none) (hc : Conc w0 s.fs a w) : Conc w0 s'.fs a w := by
  obtain ⟨h1, h2, h3, h4⟩ := h
  obtain ⟨c1, c2, c3, ρ, ht, hm⟩ := hc
  have hN := Nat.le_of_ble_eq_true h1
  generalize hf : nmOf N π s'.mem = f at h2 h3 h4
  have fnone : ∀ n', s'.mem.getD n' none = none → f n' = none := fun n' hn => by rw [← hf]; simp only [nmOf, hn]
  have flow : ∀ n' b, s'.mem.getD n' none = some b → n' < N → f n' = some (some n') := fun n' b hn hlt => by
    rw [← hf]
    have : Nat.blt n' N = true := Nat.le_of_ble_eq_true (by simpa [Nat.blt] using Nat.ble_eq_true_of_le hlt) |> fun h => by simpa [Nat.blt] using Nat.ble_eq_true_of_le h
    simp only [nmOf, hn, this]
  obtain ⟨w1, w2⟩ := wvs_ok (ρ := ρ) h4
  have hspec := wm_spec s'.mem 0 h3
  simp only [Nat.zero_add] at hspec
  refine ⟨c1, by rw [c2]; exact w1, c3, rhoOf ρ f, fun t => ?_, ?_⟩
  · simp only [St.fs] at ht ⊢
    rcases hx : s'.tmps[t]? with _ | v'
    · have hx2 : s.tmps[t]? = none := by
        rw [List.getElem?_eq_none_iff] at hx ⊢
        omega
      have := ht t
      rw [List.getD_eq_getElem?_getD, hx2, Option.getD_none] at this
      rw [List.getD_eq_getElem?_getD, hx, Option.getD_none, this.plain rfl]
      exact .lit rfl
    · obtain ⟨v, h5, h6⟩ := w2 t v' hx
      have := ht t
      rw [List.getD_eq_getElem?_getD, h5, Option.getD_some] at this
      rw [List.getD_eq_getElem?_getD, hx, Option.getD_some]
      exact h6 _ this
  · have blk : ∀ n' b', s'.mem.getD n' none = some b' → b'.live = true → (∃ n b, f n' = some (some n) ∧ s.mem.getD n none = some b ∧ wb f b b') ∨ (f n' = some none ∧ nilKind b'.kind = true) := by
      intro n' b' hb' hl
      rcases (hspec n').2 b' (getD_some hb') with hd | hx
      · obtain ⟨kd, cs⟩ := b'
        simp only at hd
        subst hd
        cases hl
      · exact hx
    refine ⟨fun n p hn => ?_, fun n' hn' => ?_, fun n' b' hb' => ?_, fun k k' b b' p p' hk hown hk' hlive hne hp hp' hnp hnp' => ?_⟩
    · have hlt : n < N := by
        rcases Nat.lt_or_ge n N with hlt | hge
        · exact hlt
        · rw [hρ n hge] at hn; cases hn
      have hρn := hm.ext n p hn
      have hsrc : s.mem.getD n none ≠ none := fun h => by
        have := hm.fresh n h
        rw [hρn] at this; cases this
      rcases hx : s'.mem.getD n none with _ | b'
      · exfalso
        have hlen : n < s'.mem.length := by omega
        have h7 : s'.mem[n]? = some none := by
          rw [List.getD_eq_getElem?_getD] at hx
          have : s'.mem[n]? = some s'.mem[n] := by simp [hlen]
          rw [this, Option.getD_some] at hx
          rw [this, hx]
        exact hsrc ((hspec n).1 h7 hlt)
      · rw [rhoOf_some (flow n b' hx hlt)]
        exact hρn
    · simp only [rhoOf, fnone n' hn']
    · by_cases hl : b'.live = true
      · rcases blk n' b' hb' hl with ⟨n, b, g1, g2, g3⟩ | ⟨g1, g2⟩
        · exact (wb_ok g3 g1 (hm.ok n b g2)).1
        · obtain ⟨kd, cs⟩ := b'
          have hr : rhoOf ρ f n' = some (0, 1, some 0) := by simp only [rhoOf, g1]
          cases kd with
          | row e sz => exact .inl ⟨_, hr, rfl, rfl⟩
          | view => exact .inl ⟨_, hr, rfl, 0, rfl⟩
          | box => cases g2
          | dead => cases g2
      · obtain ⟨kd, cs⟩ := b'
        cases kd with
        | dead => trivial
        | _ => exact absurd rfl hl
    · have hlk := own_live hown
      rcases blk k b hk hlk with ⟨n, c, g1, g2, g3⟩ | ⟨g1, _⟩
      rotate_left
      · exfalso
        have : rhoOf ρ f k = some (0, 1, some 0) := by simp only [rhoOf, g1]
        rw [this] at hp
        obtain rfl : (0, 1, some 0) = p := by simpa using hp
        exact hnp ⟨rfl, 0, rfl⟩
      rcases blk k' b' hk' hlive with ⟨n', c', g1', g2', g3'⟩ | ⟨g1', _⟩
      rotate_left
      · exfalso
        have : rhoOf ρ f k' = some (0, 1, some 0) := by simp only [rhoOf, g1']
        rw [this] at hp'
        obtain rfl : (0, 1, some 0) = p' := by simpa using hp'
        exact hnp' ⟨rfl, 0, rfl⟩
      obtain ⟨_, e1, e2⟩ := wb_ok g3 g1 (hm.ok n c g2)
      obtain ⟨_, e1', e2'⟩ := wb_ok g3' g1' (hm.ok n' c' g2')
      have hnn : n ≠ n' := by
        rcases Nat.lt_or_gt_of_ne hne with hlt | hgt
        · exact inj_spec s'.mem 0 h2 k k' b b' n n' hlt (getD_some hk) (getD_some hk') hlk hlive (.inl hown) (by simpa using g1) (by simpa using g1')
        · exact (inj_spec s'.mem 0 h2 k' k b' b n' n hgt (getD_some hk') (getD_some hk) hlive hlk (.inr hown) (by simpa using g1') (by simpa using g1)).symm
      rw [rhoOf_some g1] at hp
      rw [rhoOf_some g1'] at hp'
      exact hm.sep n n' c c' p p' g2 (e2 hown) g2' (e1' hlive) hnn hp hp' hnp hnp'
theorem conc_dom {s : St} {w0 : Start} {a : Act} {w : World} (hc : Conc w0 s.fs a w) : ∀ n, s.mem.length ≤ n → w0.ρ0 n = none := by
  obtain ⟨_, _, _, ρ, _, hm⟩ := hc
  intro n hn
  have h1 := hm.fresh n (by simp [St.fs, List.getElem?_eq_none hn])
  rcases h : w0.ρ0 n with _ | p
  · rfl
  · rw [hm.ext n p h] at h1; cases h1
/-- A value that names nothing from N on. -/
def nbV1 (N : Nat) : Value → Bool
  | .pointer (some ⟨n, _, none⟩) => Nat.blt n N
  | .slice (some ⟨n, _, none⟩) _ _ => Nat.blt n N
  | v => plainV v
def nbV (N : Nat) : Value → Bool
  | .agg ⟨l⟩ => l.all (nbV1 N)
  | .tuple ⟨l⟩ => l.all (nbV1 N)
  | .func _ ⟨a⟩ ⟨c⟩ => a.all (nbV1 N) && c.all (nbV1 N)
  | v => nbV1 N v
def rhoB (ρ : Nat → Option Pl) (N : Nat) : Nat → Option Pl := fun n => if n < N then ρ n else none
theorem rhoB_lt {ρ : Nat → Option Pl} {N n : Nat} (h : Nat.blt n N = true) : rhoB ρ N n = ρ n := by
  have : n < N := Nat.le_of_ble_eq_true h
  simp [rhoB, this]
theorem nbV1_ok {ρ : Nat → Option Pl} {N : Nat} {v x : Value} (h : nbV1 N v = true) (k : VR ρ v x) : VR (rhoB ρ N) v x := by
  unfold nbV1 at h
  split at h
  · obtain ⟨g, f', cp, h2, h3, rfl⟩ := k.ptr_inv
    exact .ptr ((rhoB_lt h).trans h2) h3
  · rcases k.slice_inv with ⟨g, f', cp, c2, h2, hq, rfl, h4, h5⟩ | ⟨rfl, h2, ad, c2, rfl⟩ | ⟨rfl, ad, c2, p, rfl, h2, h3, h4⟩
    · exact .slice ((rhoB_lt h).trans h2) hq h4 h5
    · exact .none_ h2
    · exact .nil_ ((rhoB_lt h).trans h2) h3 rfl h4
  · obtain rfl := k.plain h
    exact .lit h
theorem nbV_ok {ρ : Nat → Option Pl} {N : Nat} {v x : Value} (h : nbV N v = true) (k : VR ρ v x) : VR (rhoB ρ N) v x := by
  have rel : ∀ {l : List Value} {cs : Array Value}, l.all (nbV1 N) = true → (∀ (i : Nat) v y, l[i]? = some v → cs[i]? = some y → VR ρ v y) → ∀ (i : Nat) v y, l[i]? = some v → cs[i]? = some y → VR (rhoB ρ N) v y :=
    fun hl hr i v y hv hy => nbV1_ok (List.all_eq_true.1 hl v (List.mem_of_getElem? hv)) (hr i v y hv hy)
  unfold nbV at h
  split at h
  · obtain ⟨cs, rfl, h1, h2⟩ := k.agg_inv
    have := rel h (fun i v y hv hy => h2 i v y (by simpa using hv) hy)
    exact .agg h1 fun i v y hv hy => this i v y (by simpa using hv) hy
  · obtain ⟨cs, rfl, h1, h2⟩ := k.tuple_inv
    have := rel h (fun i v y hv hy => h2 i v y (by simpa using hv) hy)
    exact .tuple h1 fun i v y hv hy => this i v y (by simpa using hv) hy
  · simp only [Bool.and_eq_true] at h
    obtain ⟨f', c', rfl, h1, h2⟩ := k.func_inv
    have r1 := rel h.1 h1.2
    have r2 := rel h.2 h2.2
    exact .func (by simpa using h1.1) (by simpa using h2.1) (fun i v y hv hy => r1 i v y (by simpa using hv) hy) fun i v y hv hy => r2 i v y (by simpa using hv) hy
  · exact nbV1_ok h k
def keepV (N : Nat) (v : Value) : Value := match nbV N v with
  | true => v
  | false => topV
/-- Some slots kept, of the others nothing is known. -/
def keepT (N : Nat) (l : List Nat) : Nat → List Value → List Value
  | _, [] => []
  | i, v :: r => (match l.contains i with
    | true => keepV N v
    | false => topV) :: keepT N l (i + 1) r
def nbC (N : Nat) : Cs → Bool
  | .vals l => l.all (nbV N)
  | .ints _ => true
  | .bytes _ => true
def cutM (N : Nat) : List (Option Blk) → List (Option Blk)
  | [] => []
  | none :: r => none :: cutM N r
  | some b :: r => (match nbC N b.cs with
    | true => some b
    | false => some ⟨.dead, .vals []⟩) :: cutM N r
def cutS (N : Nat) (l : List Nat) (s : St) : St := { tmps := keepT N l 0 s.tmps, mem := cutM N (s.mem.take N) }
theorem keepT_get (N : Nat) (l : List Nat) : ∀ (r : List Value) (k i : Nat), (keepT N l k r)[i]? = (r[i]?).map fun v => match l.contains (k + i) with
    | true => keepV N v
    | false => topV
  | [], k, i => by simp [keepT]
  | v :: r, k, i => by
    cases i with
    | zero => simp [keepT]
    | succ i =>
      simp only [keepT, List.getElem?_cons_succ]
      rw [keepT_get N l r (k + 1) i, show k + 1 + i = k + (i + 1) by omega]
theorem cutM_get (N : Nat) : ∀ (r : List (Option Blk)) (i : Nat), (cutM N r)[i]? = (r[i]?).map fun o => o.map fun b => match nbC N b.cs with
    | true => b
    | false => ⟨.dead, .vals []⟩
  | [], i => by simp [cutM]
  | none :: r, i => by
    cases i with
    | zero => simp [cutM]
    | succ i => simp only [cutM, List.getElem?_cons_succ, cutM_get N r i]
  | some b :: r, i => by
    cases i with
    | zero =>
      simp only [cutM, List.getElem?_cons_zero, Option.map_some]
      split <;> rfl
    | succ i => simp only [cutM, List.getElem?_cons_succ, cutM_get N r i]
theorem cut_conc {N : Nat} {l : List Nat} {s : St} {w0 : Start} {a : Act} {w : World} (hρ : ∀ n, N ≤ n → w0.ρ0 n = none) (hc : Conc w0 s.fs a w) : Conc w0 (cutS N l s).fs a w := by
  obtain ⟨c1, c2, c3, ρ, ht, hm⟩ := hc
  have hlen : (keepT N l 0 s.tmps).length = s.tmps.length := by
    have key : ∀ (r : List Value) k, (keepT N l k r).length = r.length := by
      intro r
      induction r with
      | nil => intro k; rfl
      | cons v r ih => intro k; simp [keepT, ih]
    exact key _ _
  have blk : ∀ n b', (cutS N l s).mem.getD n none = some b' → n < N ∧ ∃ b, s.mem.getD n none = some b ∧ ((nbC N b.cs = true ∧ b' = b) ∨ b'.kind = .dead) := by
    intro n b' h
    have h1 := getD_some h
    simp only [cutS, cutM_get, List.getElem?_take] at h1
    split at h1
    rotate_left
    · simp at h1
    rename_i hlt
    refine ⟨hlt, ?_⟩
    rcases hx : s.mem[n]? with _ | o
    · simp [hx] at h1
    rcases o with _ | b
    · simp [hx] at h1
    refine ⟨b, by rw [List.getD_eq_getElem?_getD, hx]; rfl, ?_⟩
    simp only [hx, Option.map_some, Option.some.injEq] at h1
    rcases hnb : nbC N b.cs with _ | _
    · rw [hnb] at h1
      exact .inr (by rw [← h1])
    · rw [hnb] at h1
      exact .inl ⟨rfl, h1.symm⟩
  have live_ : ∀ n b', (cutS N l s).mem.getD n none = some b' → b'.live = true → n < N ∧ s.mem.getD n none = some b' ∧ nbC N b'.cs = true := by
    intro n b' h hl
    obtain ⟨h1, b, h2, ⟨h3, rfl⟩ | h3⟩ := blk n b' h
    · exact ⟨h1, h2, h3⟩
    · obtain ⟨kd, cs⟩ := b'
      simp only at h3
      subst h3
      cases hl
  have cells : ∀ {cs : Cs} {i : Nat} {v x : Value}, nbC N cs = true → cs.list[i]? = some v → VR ρ v x → VR (rhoB ρ N) v x := by
    intro cs i v x hnb hv k
    cases cs with
    | vals l => exact nbV_ok (List.all_eq_true.1 hnb v (List.mem_of_getElem? hv)) k
    | ints xs =>
      obtain ⟨n, _, rfl⟩ := List.mem_map.1 (List.mem_of_getElem? hv)
      obtain rfl := k.plain rfl
      exact .lit rfl
    | bytes xs =>
      obtain ⟨n, _, rfl⟩ := List.mem_map.1 (List.mem_of_getElem? hv)
      obtain rfl := k.plain rfl
      exact .lit rfl
  refine ⟨c1, by rw [c2]; simp [St.fs, cutS, hlen], c3, rhoB ρ N, fun t => ?_, ?_⟩
  · have := ht t
    simp only [St.fs, cutS, List.getD_eq_getElem?_getD] at this ⊢
    rw [keepT_get, Nat.zero_add]
    rcases hx : s.tmps[t]? with _ | v
    · rw [hx] at this
      simp only [Option.map_none, Option.getD_none] at this ⊢
      rw [this.plain rfl]
      exact .lit rfl
    · rw [hx] at this
      simp only [Option.map_some, Option.getD_some] at this ⊢
      split
      · unfold keepV
        split
        · rename_i hnb; exact nbV_ok hnb this
        · exact .top
      · exact .top
  · refine ⟨fun n p hn => ?_, fun n hn => ?_, fun n b' hb' => ?_, fun k k' b b' p p' hk hown hk' hlive hne hp hp' hnp hnp' => ?_⟩
    · have hlt : n < N := by
        rcases Nat.lt_or_ge n N with hlt | hge
        · exact hlt
        · rw [hρ n hge] at hn; cases hn
      simp only [rhoB, hlt, if_true]
      exact hm.ext n p hn
    · by_cases hlt : n < N
      · simp only [rhoB, hlt, if_true]
        refine hm.fresh n ?_
        simp only [St.fs, cutS, List.getD_eq_getElem?_getD] at hn ⊢
        rw [cutM_get, List.getElem?_take_of_lt hlt] at hn
        rcases hx : s.mem[n]? with _ | o
        · rfl
        · rcases o with _ | b
          · rfl
          · simp [hx] at hn
      · simp [rhoB, hlt]
    · by_cases hl : b'.live = true
      · obtain ⟨h1, h2, h3⟩ := live_ n b' hb' hl
        have hr : rhoB ρ N n = ρ n := by simp [rhoB, h1]
        have h4 := hm.ok n b' h2
        obtain ⟨kd, cs⟩ := b'
        cases kd with
        | dead => trivial
        | view =>
          rcases h4 with ⟨p, g1, g2⟩ | ⟨g, f, cp, g1, hq, g2, g3⟩
          · exact .inl ⟨p, hr.trans g1, g2⟩
          · refine .inr ⟨g, f, cp, hr.trans g1, hq, g2, fun i v hv => ?_⟩
            obtain ⟨v', e1, e2⟩ := g3 i v hv
            exact ⟨v', e1, cells h3 hv e2⟩
        | box =>
          obtain ⟨g, g1, g2, arr, e, g3, g4, g5⟩ := h4
          refine ⟨g, hr.trans g1, g2, arr, e, g3, g4, fun i v hv => ?_⟩
          obtain ⟨v', e1, e2⟩ := g5 i v hv
          exact ⟨v', e1, cells h3 hv e2⟩
        | row e sz =>
          rcases h4 with ⟨p, g1, g2⟩ | ⟨g, cap, g1, g2, arr, g3, g4, g5⟩
          · exact .inl ⟨p, hr.trans g1, g2⟩
          · refine .inr ⟨g, cap, hr.trans g1, g2, arr, g3, g4, fun i v hv => ?_⟩
            obtain ⟨v', e1, e2⟩ := g5 i v hv
            exact ⟨v', e1, cells h3 hv e2⟩
      · obtain ⟨kd, cs⟩ := b'
        cases kd with
        | dead => trivial
        | _ => exact absurd rfl hl
    · obtain ⟨h1, h2, _⟩ := live_ k b hk (own_live hown)
      obtain ⟨h1', h2', _⟩ := live_ k' b' hk' hlive
      simp only [rhoB, h1, h1', if_true] at hp hp'
      exact hm.sep k k' b b' p p' h2 hown h2' hlive hne hp hp' hnp hnp'
theorem weak_con {N : Nat} {π : List (Option Nat)} {s s' : St} (h : WS N π s s') {w0 : Start} {a : Act} {w : World} (hρ : ∀ n, N ≤ n → w0.ρ0 n = none) (hc : Con w0 s.fs a w) : Con w0 s'.fs a w :=
  let ⟨hr, w1, h1, h2⟩ := hc; ⟨hr, w1, h1, weak_conc h (fun n hn => by rw [h1.ρ0]; exact hρ n hn) h2⟩
theorem con_dom {s : St} {w0 : Start} {a : Act} {w : World} (hc : Con w0 s.fs a w) : ∀ n, s.mem.length ≤ n → w0.ρ0 n = none :=
  let ⟨_, _, h1, h2⟩ := hc; fun n hn => by have := conc_dom h2 n hn; rwa [h1.ρ0] at this
theorem cut_con {N : Nat} {l : List Nat} {s : St} {w0 : Start} {a : Act} {w : World} (hρ : ∀ n, N ≤ n → w0.ρ0 n = none) (hc : Con w0 s.fs a w) : Con w0 (cutS N l s).fs a w :=
  let ⟨hr, w1, h1, h2⟩ := hc; ⟨hr, w1, h1, cut_conc (fun n hn => by rw [h1.ρ0]; exact hρ n hn) h2⟩
/-- A loop whose heads are known: each round goes on to a head that stands for fewer rounds and the same end, or ends. -/
theorem loop_det {P : Program} {c : Code} {N : Nat} {X : Type} (St_of : X → St) (Inv : X → Prop) (μ : X → Nat) (re : X → Ex) (rs : X → St) (keep : Ex → List Nat)
    (h : ∀ x, Inv x → ∃ e' s', Det P c (St_of x) e' s' ∧ match e' with
      | .normal => ∃ x' π, Inv x' ∧ μ x' < μ x ∧ re x' = re x ∧ rs x' = rs x ∧ WS N π (cutS (St_of x).mem.length (keep .normal) s') (St_of x')
      | e => e = re x ∧ ∃ π, WS N π (cutS (St_of x).mem.length (keep e) s') (rs x))
    {x : X} (hx : Inv x) {s : St} {π : List (Option Nat)} (hN : s.mem.length = N) (hs : WS N π s (St_of x)) : Det P (.loop c) s (re x) (rs x) := by
  intro w0 a w hc
  have hρ := con_dom hc
  rw [hN] at hρ
  have hρ' : ∀ {x' π' s'}, WS N π' s' (St_of x') → ∀ n, (St_of x').mem.length ≤ n → w0.ρ0 n = none := fun h n hn => hρ n (Nat.le_trans (Nat.le_of_ble_eq_true h.1) hn)
  refine wpIn_loop_ghost (fun n a w => ∃ x', Inv x' ∧ μ x' = n ∧ re x' = re x ∧ rs x' = rs x ∧ (∀ n, (St_of x').mem.length ≤ n → w0.ρ0 n = none) ∧ Con w0 (St_of x').fs a w) (μ x) ⟨x, hx, rfl, rfl, rfl, hρ' hs, weak_con hs hρ hc⟩ ?_
  rintro n a w ⟨x', hI, rfl, hre, hrs, hdom, hcc⟩
  obtain ⟨e', s', hd, hend⟩ := h x' hI
  refine wpIn_mono (hd w0 a w hcc) ?_
  rintro e a' w' ⟨rfl, hcc'⟩
  cases e' with
  | normal =>
    obtain ⟨x2, π2, g1, g2, g3, g4, g5⟩ := hend
    exact ⟨_, g2, x2, g1, rfl, g3.trans hre, g4.trans hrs, hρ' g5, weak_con g5 hρ (cut_con hdom hcc')⟩
  | exit id =>
    obtain ⟨g1, π2, g2⟩ := hend
    exact ⟨by rw [← hre, ← g1], by rw [← hrs]; exact weak_con g2 hρ (cut_con hdom hcc')⟩
  | ret =>
    obtain ⟨g1, π2, g2⟩ := hend
    exact ⟨by rw [← hre, ← g1], by rw [← hrs]; exact weak_con g2 hρ (cut_con hdom hcc')⟩
/-- Rounds of a loop, to its end. -/
inductive Chain (P : Program) (c : Code) : Nat → St → Ex → St → Prop where
  | stop {n : Nat} {s s' : St} {e : Ex} (h : Det P c s e s') (hne : e ≠ .normal) : Chain P c (n + 1) s e s'
  | more {n : Nat} {s s1 s' : St} {e : Ex} (h : Det P c s .normal s1) (hc : Chain P c n s1 e s') : Chain P c (n + 1) s e s'
theorem Chain.det {P : Program} {c : Code} {n : Nat} {s s' : St} {e : Ex} (h : Chain P c n s e s') : Det P (.loop c) s e s' := by
  intro w0 a w hc
  refine wpIn_loop_ghost (fun n a w => ∃ u, Chain P c n u e s' ∧ Con w0 u.fs a w) n ⟨s, h, hc⟩ ?_
  rintro n a w ⟨u, hu, hcc⟩
  cases hu with
  | stop h hne =>
    refine wpIn_mono (h w0 a w hcc) ?_
    rintro e2 a' w' ⟨rfl, hcc'⟩
    cases e with
    | normal => exact absurd rfl hne
    | exit id => exact ⟨rfl, hcc'⟩
    | ret => exact ⟨rfl, hcc'⟩
  | @more n _ s1 _ _ h hch =>
    refine wpIn_mono (h w0 a w hcc) ?_
    rintro e2 a' w' ⟨rfl, hcc'⟩
    exact ⟨n, by omega, s1, hch, hcc'⟩
/-- How functions are called on a memory. -/
abbrev CallM := FuncId → List Value → List (Option Blk) → (Value → List (Option Blk) → Tree) → Tree
def nameS (ops : List Oper) (n i : Nat) (s : St) : Nat :=
  match ops[i]? with
  | some o => (match alStd o with
    | true => n + countB alStd (ops.take i)
    | false => s.mem.length)
  | none => s.mem.length
/-- Is it the call of such a function that makes a row? -/
def jMk (J : TabJ) (s : St) (o : Oper) : Bool :=
  match callOfV s o with
  | some (f, _) => J.row f
  | none => false
/-- A region in the order of its text, calls run in place. -/
def seqT (P : Program) (J : TabJ) (call : CallM) (ops : List Oper) (n : Nat) (k : St → Tree) : Nat → List Oper → St → Tree
  | _, [], s => k s
  | i, o :: rest, s =>
    let one := fun (G : Ctx) (s : St) => match (gop (aop P G) ops.toArray (nameS ops n i s) o).run s.fs with
      | none => Tree.bad
      | some e =>
        match e.wr.all fun p => decide (p.1 < s.mem.length) with
        | false => .bad
        | true => needs e.conds (seqT P J call ops n k (i + 1) rest (s.upd o.dst e))
    let step := fun s : St => match wantedS ops.toArray s o with
      | false => one failG s
      | true => match jCall J s o with
        | true => (match jMk J s o with
          | false => one J.g s
          | true => match (gop (aop P J.g) ops.toArray s.mem.length o).run s.fs with
            | none => Tree.bad
            | some e =>
              match e.wr.all fun p => decide (p.1 < (s.mem ++ [none]).length) with
              | false => .bad
              | true => needs e.conds (seqT P J call ops n k (i + 1) rest (St.upd { tmps := s.tmps, mem := s.mem ++ [none] } o.dst e)))
        | false => match callOfV s o with
          | some (f, args) => call f args s.mem fun v mem => seqT P J call ops n k (i + 1) rest (St.upd { tmps := s.tmps, mem := mem } o.dst ⟨v, [], []⟩)
          | none => one J.g s
    match guardSlot ops.toArray o with
    | none => step s
    | some t =>
      match s.tmps.getD t undef with
      | .bool b => brT b (step { tmps := s.tmps.set t (.bool true), mem := s.mem }) (step { tmps := s.tmps.set t (.bool false), mem := s.mem })
      | _ => step s
/-- What a call on a memory must be. -/
def CallMOk (P : Program) (call : CallM) : Prop := ∀ f args mem k F H, (call f args mem k).ok F H → ∃ v mem', (k v mem').ok F H ∧ enters P f ∧
  ∀ (w0 : Start) (ρ : Nat → Option Pl) (args' : Array Value) (w : World), VRs ρ args args' → MemOk w0.ρ0 ρ w0.kp (fun n => mem.getD n none) w → BelowK w0.kp w0.toWorld w →
    Calls P f args' w fun e w' => ∃ v' ρ', e = .returned v' ∧ Ext ρ ρ' ∧ VR ρ' v v' ∧ BelowK w0.kp w0.toWorld w' ∧ MemOk w0.ρ0 ρ' w0.kp (fun n => mem'.getD n none) w'
theorem wanted_of {ops : Array Oper} {s : St} {o : Oper} {w0 : Start} {a : Act} {w : World} (hc : Conc w0 s.fs a w) (h : wantedS ops s o = true) : Region.wanted o (yielded ops a.tmps) = true := by
  obtain ⟨_, _, _, ρ, hv, _⟩ := hc
  unfold wantedS at h
  rcases hg : o.guard with _ | ⟨g, want⟩
  · simp [Region.wanted, hg]
  · rw [hg] at h
    simp only at h
    rcases ht : (ops[g]?).bind (·.dst) with _ | t
    · rw [ht] at h; simp at h
    · rw [ht] at h
      simp only at h
      have hvt := hv t
      split at h
      · rename_i b hb
        have hb' : s.fs.tmp t = .bool b := hb
        rw [hb'] at hvt
        have e := hvt.plain rfl
        have e' : a.tmps[t]? = some (.bool b) := by
          rcases hx : a.tmps[t]? with _ | x
          · simp [hx, undef] at e
          · simp [hx] at e; rw [e]
        have hy : yielded ops a.tmps g = some b := by simp [yielded, ht, e']
        have hbw : b = want := by simpa using h
        simp [Region.wanted, hg, hy, hbw]
      · cases h
theorem seqT_ok {P : Program} {J : TabJ} (hJ : GSound P J.g) {call : CallM} (hcall : CallMOk P call) {ops : List Oper} {n : Nat} {k : St → Tree} {F : Ex → St → Prop} {H : Value → List (Option Blk) → Prop} :
    ∀ (rest : List Oper) (i : Nat) (s : St), (∀ j, rest[j]? = ops[i + j]?) → (seqT P J call ops n k i rest s).ok F H →
    ∃ s', (k s').ok F H ∧ ∀ (w0 : Start) (a : Act) (w : World) (Q : Exit → Act → World → Prop), Conc w0 s.fs a w → (∀ a' w', Conc w0 s'.fs a' w' → Q .normal a' w') → wpOpsIn (fz w0.ro) 3 P ops.toArray Q (List.range' i rest.length) a w
  | [], i, s, _, h => ⟨s, h, fun w0 a w Q hc hQ => hQ a w hc⟩
  | o :: rest, i, s, hr, h => by
    have h0 : ops.toArray[i]? = some o := by simpa using (hr 0).symm
    have hr' : ∀ j, rest[j]? = ops[i + 1 + j]? := fun j => by have := hr (j + 1); simpa [Nat.add_assoc, Nat.add_comm 1 j] using this
    have one : ∀ (G : Ctx) (_ : GSound P G) (u : St), u = s → (match (gop (aop P G) ops.toArray (nameS ops n i u) o).run u.fs with
        | none => Tree.bad
        | some e =>
          match e.wr.all fun p => decide (p.1 < u.mem.length) with
          | false => .bad
          | true => needs e.conds (seqT P J call ops n k (i + 1) rest (u.upd o.dst e))).ok F H →
        ∃ s', (k s').ok F H ∧ ∀ (w0 : Start) (a : Act) (w : World) (Q : Exit → Act → World → Prop), Conc w0 s.fs a w → (∀ a' w', Conc w0 s'.fs a' w' → Q .normal a' w') → wpOpsIn (fz w0.ro) 3 P ops.toArray Q (List.range' i (o :: rest).length) a w := by
      rintro G hG u rfl h
      split at h
      · exact h.elim
      rename_i e he
      split at h
      · exact h.elim
      rename_i hall
      obtain ⟨hcond, h⟩ := needs_ok h
      obtain ⟨s', h1, h2⟩ := seqT_ok hJ hcall rest (i + 1) _ hr' h
      refine ⟨s', h1, fun w0 a w Q hc hQ => ?_⟩
      rw [List.length_cons, List.range'_succ, wpOpsIn_cons]
      refine wpOp_gop (aop_sound hG) h0 he hc hcond fun a' w' hcc => h2 w0 a' w' Q ?_ hQ
      rw [St.upd_fs hall]
      exact hcc
    have step : ∀ u : St, u = s → (match wantedS ops.toArray u o with
        | false => (match (gop (aop P failG) ops.toArray (nameS ops n i u) o).run u.fs with
          | none => Tree.bad
          | some e =>
            match e.wr.all fun p => decide (p.1 < u.mem.length) with
            | false => .bad
            | true => needs e.conds (seqT P J call ops n k (i + 1) rest (u.upd o.dst e)))
        | true => match jCall J u o with
          | true => (match jMk J u o with
            | false => (match (gop (aop P J.g) ops.toArray (nameS ops n i u) o).run u.fs with
              | none => Tree.bad
              | some e =>
                match e.wr.all fun p => decide (p.1 < u.mem.length) with
                | false => .bad
                | true => needs e.conds (seqT P J call ops n k (i + 1) rest (u.upd o.dst e)))
            | true => (match (gop (aop P J.g) ops.toArray u.mem.length o).run u.fs with
              | none => Tree.bad
              | some e =>
                match e.wr.all fun p => decide (p.1 < (u.mem ++ [none]).length) with
                | false => .bad
                | true => needs e.conds (seqT P J call ops n k (i + 1) rest (St.upd { tmps := u.tmps, mem := u.mem ++ [none] } o.dst e))))
          | false => match callOfV u o with
            | some (f, args) => call f args u.mem fun v mem => seqT P J call ops n k (i + 1) rest (St.upd { tmps := u.tmps, mem := mem } o.dst ⟨v, [], []⟩)
            | none => (match (gop (aop P J.g) ops.toArray (nameS ops n i u) o).run u.fs with
          | none => Tree.bad
          | some e =>
            match e.wr.all fun p => decide (p.1 < u.mem.length) with
            | false => .bad
            | true => needs e.conds (seqT P J call ops n k (i + 1) rest (u.upd o.dst e)))).ok F H →
        ∃ s', (k s').ok F H ∧ ∀ (w0 : Start) (a : Act) (w : World) (Q : Exit → Act → World → Prop), Conc w0 s.fs a w → (∀ a' w', Conc w0 s'.fs a' w' → Q .normal a' w') → wpOpsIn (fz w0.ro) 3 P ops.toArray Q (List.range' i (o :: rest).length) a w := by
      rintro u rfl h
      split at h
      · exact one failG (failG_sound P) u rfl h
      rename_i hwant
      split at h
      · split at h
        · exact one J.g hJ u rfl h
        split at h
        · exact h.elim
        rename_i e he
        split at h
        · exact h.elim
        rename_i hall
        obtain ⟨hcond, h⟩ := needs_ok h
        obtain ⟨s', h1, h2⟩ := seqT_ok hJ hcall rest (i + 1) _ hr' h
        have hfs : St.fs { tmps := u.tmps, mem := u.mem ++ [none] } = u.fs := by
          unfold St.fs
          simp only
          congr 1
          funext m
          simp only [List.getD_eq_getElem?_getD, List.getElem?_append]
          split
          · rfl
          · rename_i hge
            rw [List.getElem?_eq_none (by omega : u.mem.length ≤ m)]
            rcases hm : m - u.mem.length with _ | q <;> simp
        refine ⟨s', h1, fun w0 a w Q hc hQ => ?_⟩
        rw [List.length_cons, List.range'_succ, wpOpsIn_cons]
        refine wpOp_gop (aop_sound hJ) h0 he hc hcond fun a' w' hcc => h2 w0 a' w' Q ?_ hQ
        rw [St.upd_fs hall, hfs]
        exact hcc
      split at h
      rotate_left
      · exact one J.g hJ u rfl h
      rename_i f args hcv
      obtain ⟨v, mem', hk, hent, hdet⟩ := hcall _ _ _ _ _ _ h
      obtain ⟨s', h1, h2⟩ := seqT_ok hJ hcall rest (i + 1) _ hr' hk
      refine ⟨s', h1, fun w0 a w Q hc hQ => ?_⟩
      rw [List.length_cons, List.range'_succ, wpOpsIn_cons]
      have hw := wanted_of hc hwant
      obtain ⟨c1, c2, c3, ρ, ht, hm⟩ := hc
      unfold callOfV at hcv
      split at hcv
      rotate_left
      · cases hcv
      rename_i fo ags ts ho
      unfold rdCallV at hcv
      obtain ⟨fv, k1, k2⟩ := bind_some hcv
      obtain ⟨l, k3, k4⟩ := bind_some k2
      split at k4
      rotate_left
      · simp [Rd.run] at k4
      rename_i fid first cap
      obtain ⟨rfl, rfl⟩ : fid = f ∧ first.toList ++ l ++ cap.toList = args := by simpa [Rd.run] using k4
      obtain ⟨first', cap', h5, h6, h7⟩ := (rdv_ok k1 ht).func_inv
      have hargs := (h6.append (rdvs_map ht k3)).append h7
      have hex : (execOp a.eval o).run P w = .ok (.enter fid (first' ++ ags.map a.eval ++ cap')) w := by
        simp only [execOp, ho, resolve, h5, Deferred.ofValue, invoke, Sem.run_bind, Sem.run_pure, Result.andThen_ok]
        exact hent _ _
      unfold wpOpIn
      simp only [h0, hw, if_true]
      refine enter_wp (w0 := w0) hex ?_
      refine (hdet w0 ρ _ w hargs hm c3).mono ?_
      rintro e w' ⟨v', ρ', rfl, g1, g2, g3, g4⟩
      refine ⟨v', rfl, ?_⟩
      refine h2 w0 _ w' Q ?_ hQ
      rw [St.upd_fs (by rfl)]
      refine put_conc (w := w) (s := St.fs { tmps := u.tmps, mem := mem' }) c1 c2 g3 (fun t => (ht t).ext g1) g2 ?_
      have : ((St.fs { tmps := u.tmps, mem := mem' }).upd o.dst ⟨v, [], []⟩).blk = fun n => mem'.getD n none := by funext m; simp [FS.upd, lookW, St.fs]
      rw [this]
      exact g4
    simp only [seqT] at h
    split at h
    · exact step s rfl h
    rename_i t _
    split at h
    · rename_i b hb
      have hset : ∀ c, b = c → ({ tmps := s.tmps.set t (.bool c), mem := s.mem } : St) = s := by
        intro c hc
        subst hc
        rw [set_same_list hb]
      obtain ⟨h1, h2⟩ := brT_ok.1 h
      cases b with
      | true => exact step _ (hset true rfl) (h1 rfl)
      | false => exact step _ (hset false rfl) (h2 rfl)
    · exact step s rfl h
/-- A value laid open before what follows. -/
def forceV {R : Type} (v : Value) (k : Value → R) : R :=
  match v with
  | .int kd n => k (.int kd n)
  | .bool b => k (.bool b)
  | .agg ⟨l⟩ => k (.agg ⟨l⟩)
  | .slice a l c => k (.slice a l c)
  | .pointer a => k (.pointer a)
  | v => k v
theorem forceV_eq {R : Type} (v : Value) (k : Value → R) : forceV v k = k v := by
  unfold forceV
  split <;> rfl
def forceL {R : Type} : List Value → (List Value → R) → R
  | [], k => k []
  | v :: r, k => forceV v fun v => forceL r fun r => k (v :: r)
theorem forceL_eq {R : Type} : ∀ (l : List Value) (k : List Value → R), forceL l k = k l
  | [], _ => rfl
  | v :: r, k => by rw [forceL, forceV_eq, forceL_eq r]
def forceB {R : Type} (b : Option Blk) (k : Option Blk → R) : R :=
  match b with
  | none => k none
  | some ⟨kd, .vals l⟩ => forceL l fun l => k (some ⟨kd, .vals l⟩)
  | some b => k (some b)
theorem forceB_eq {R : Type} (b : Option Blk) (k : Option Blk → R) : forceB b k = k b := by
  unfold forceB
  split
  · rfl
  · rw [forceL_eq]
  · rfl
def forceM {R : Type} : List (Option Blk) → (List (Option Blk) → R) → R
  | [], k => k []
  | b :: r, k => forceB b fun b => forceM r fun r => k (b :: r)
theorem forceM_eq {R : Type} : ∀ (l : List (Option Blk)) (k : List (Option Blk) → R), forceM l k = k l
  | [], _ => rfl
  | b :: r, k => by rw [forceM, forceB_eq, forceM_eq r]
def forceS {R : Type} (s : St) (k : St → R) : R := forceL s.tmps fun t => forceM s.mem fun m => k { tmps := t, mem := m }
theorem forceS_eq {R : Type} (s : St) (k : St → R) : forceS s k = k s := by
  unfold forceS
  rw [forceL_eq, forceM_eq]
/-- What is known of a function's loops, by their number in its text. -/
abbrev LT := Nat → St → (Ex → St → Tree) → Option Tree
def loopsOf : Code → List Code
  | .seq x y => loopsOf x ++ loopsOf y
  | .cond _ x y => loopsOf x ++ loopsOf y
  | .block _ c => loopsOf c
  | .loop c => c :: loopsOf c
  | _ => []
def nLoops : Code → Nat
  | .seq x y => nLoops x + nLoops y
  | .cond _ x y => nLoops x + nLoops y
  | .block _ c => nLoops c
  | .loop c => nLoops c + 1
  | _ => 0
theorem nLoops_is (c : Code) : nLoops c = (loopsOf c).length := by
  induction c with
  | seq x y ihx ihy => simp only [nLoops, loopsOf, List.length_append, ihx, ihy]
  | cond _ x y ihx ihy => simp only [nLoops, loopsOf, List.length_append, ihx, ihy]
  | block _ c ih => simp only [nLoops, loopsOf, ih]
  | loop c ih => simp only [nLoops, loopsOf, List.length_cons, ih]
  | _ => rfl
def LoopGood (P : Program) (lt : LT) (j : Nat) (c : Code) : Prop := ∀ s k t F H, lt j s k = some t → t.ok F H → ∃ e' s', (k e' s').ok F H ∧ Det P (.loop c) s e' s'
/-- The table of a function's loops is sound, from a number on. -/
def LoopsGood (P : Program) (lt : LT) (j : Nat) (c : Code) : Prop := ∀ i d, (loopsOf c)[i]? = some d → LoopGood P lt (j + i) d
/-- What is known of a function's loops over functions, by the slot that holds the function. -/
abbrev RT := Nat → St → (Ex → St → Tree) → Option Tree
def rangesOf : Code → List Code
  | .seq x y => rangesOf x ++ rangesOf y
  | .cond _ x y => rangesOf x ++ rangesOf y
  | .block _ c => rangesOf c
  | .loop c => rangesOf c
  | .rangeFunc f ps x y => [.rangeFunc f ps x y]
  | _ => []
def slotOf : Operand → Nat
  | .tmp t => t
  | _ => 0
def RangesGood (P : Program) (rt : RT) (c : Code) : Prop := ∀ d ∈ rangesOf c, ∀ f ps x y, d = .rangeFunc f ps x y → ∀ s k t F H, rt (slotOf f) s k = some t → t.ok F H → ∃ e' s', (k e' s').ok F H ∧ Det P d s e' s'
def noR : RT := fun _ _ _ => none
theorem noR_good {P : Program} {c : Code} : RangesGood P noR c := fun _ _ _ _ _ _ _ _ _ _ _ _ h => by cases h
/-- Code run on a state, calls in place on its memory where the order is the text's. -/
def runN (P : Program) (R : TabR) (J : TabJ) (call : CallK) (callM : CallM) (lt : LT) (rt : RT) (m : Nat) : Code → Nat → (Ex → St → Tree) → St → Tree
  | .skip, _, k, s => k .normal s
  | .region _ ops draw, _, k, s => match draw with
    | true => regionT P R J call true ops.toList s fun s' => forceS s' (k .normal)
    | false => seqT P J callM ops.toList s.mem.length (fun s' => forceS s' (k .normal)) 0 ops.toList { tmps := s.tmps, mem := s.mem ++ List.replicate (countB alStd ops.toList) none }
  | .seq x y, j, k, s => runN P R J call callM lt rt m x j (fun e s' => match e with
    | .normal => runN P R J call callM lt rt m y (j + nLoops x) k s'
    | e => k e s') s
  | .cond c x y, j, k, s =>
    match evalO s c with
    | .bool t => brT t (runN P R J call callM lt rt m x j k s) (runN P R J call callM lt rt m y (j + nLoops x) k s)
    | _ => .bad
  | .block id c, j, k, s => runN P R J call callM lt rt m c j (fun e s' => match e with
    | .exit id' => (match Nat.beq id' id with
      | true => k .normal s'
      | false => k (.exit id') s')
    | e => k e s') s
  | .loop c, j, k, s => match lt j s k with
    | some t => t
    | none => Nat.rec (motive := fun _ => St → Tree) (fun _ => .bad) (fun _ more s => runN P R J call callM lt rt m c (j + 1) (fun e s' => match e with
      | .normal => more s'
      | e => k e s') s) m s
  | .exit id, _, k, s => k (.exit id) s
  | .ret, _, k, s => k .ret s
  | .rangeFunc f _ _ _, _, k, s => match rt (slotOf f) s k with
    | some t => t
    | none => .bad
  | _, _, _, _ => .bad
def roundsN (P : Program) (R : TabR) (J : TabJ) (call : CallK) (callM : CallM) (lt : LT) (rt : RT) (m : Nat) (c : Code) (j : Nat) (k : Ex → St → Tree) : Nat → St → Tree
  | 0, _ => .bad
  | n + 1, s => runN P R J call callM lt rt m c (j + 1) (fun e s' => match e with
    | .normal => roundsN P R J call callM lt rt m c j k n s'
    | e => k e s') s
theorem runN_rounds {P : Program} {R : TabR} {J : TabJ} {call : CallK} {callM : CallM} {lt : LT} {rt : RT} {m : Nat} {c : Code} {j : Nat} {k : Ex → St → Tree} {s : St} (hlt : lt j s k = none) : runN P R J call callM lt rt m (.loop c) j k s = roundsN P R J call callM lt rt m c j k m s := by
  have key : ∀ n s, Nat.rec (motive := fun _ => St → Tree) (fun _ => .bad) (fun _ more s => runN P R J call callM lt rt m c (j + 1) (fun e s' => match e with
      | .normal => more s'
      | e => k e s') s) n s = roundsN P R J call callM lt rt m c j k n s := by
    intro n
    induction n with
    | zero => intro s; rfl
    | succ n ih =>
      intro s
      show runN P R J call callM lt rt m c (j + 1) _ s = runN P R J call callM lt rt m c (j + 1) _ s
      congr 1
      funext e s'
      cases e with
      | normal => exact ih s'
      | _ => rfl
  simp only [runN, hlt]
  exact key m s
theorem runN_det {P : Program} {R : TabR} {J : TabJ} {call : CallK} {callM : CallM} {lt : LT} {rt : RT} (hR : TabROk P R) (hJ : GSound P J.g) (hcall : CallOk P call) (hcallM : CallMOk P callM) (hm : P.follows .mixedOrders = true) {m : Nat} :
    ∀ (c : Code) (j : Nat) (_ : LoopsGood P lt j c) (_ : RangesGood P rt c) (k : Ex → St → Tree) (F : Ex → St → Prop) (H : Value → List (Option Blk) → Prop) (s : St), (runN P R J call callM lt rt m c j k s).ok F H → ∃ e' s', (k e' s').ok F H ∧ Det P c s e' s' := by
  obtain ⟨G, K, hGs, hGK, hGv, hGR⟩ := allG P hJ hR
  intro c
  induction c with
  | skip => intro j hL hRg k F H s h; exact ⟨.normal, s, h, fun w0 a w hc => wpIn_skip ⟨rfl, hc⟩⟩
  | region id ops draw =>
    intro j hL hRg k F H s h
    cases draw with
    | true =>
      obtain ⟨s', C, hr, h1, h2⟩ := regionT_ok hcall hGK hGv hGR h
      rw [forceS_eq] at h2
      refine ⟨.normal, s', h2, Det.of fun w0 a w hrec hc => ?_⟩
      have := region_run (aop_sound hGs) hm hr h1 hc (Q := fun e a w => e = Ex.normal.out ∧ Con w0 s'.fs a w) (id := id) fun a' w' hcc => ⟨rfl, Con.of hrec hcc⟩
      simpa using this
    | false =>
      obtain ⟨s', h1, h2⟩ := seqT_ok hJ hcallM ops.toList 0 _ (fun j => by simp) h
      rw [forceS_eq] at h1
      refine ⟨.normal, s', h1, Det.of fun w0 a w hrec hc => wpIn_region ?_⟩
      have := h2 w0 a w (fun e a w => e = Ex.normal.out ∧ Con w0 s'.fs a w) (by rw [St.pad_fs]; exact hc) fun a' w' hcc => ⟨rfl, Con.of hrec hcc⟩
      rw [List.range_eq_range']
      simpa using this
  | seq x y ihx ihy =>
    intro j hL hRg k F H s h
    have hLx : LoopsGood P lt j x := fun i d hd => hL i d (by
      have hi := (List.getElem?_eq_some_iff.1 hd).1
      simp only [loopsOf]
      rw [List.getElem?_append_left hi]; exact hd)
    have hLy : LoopsGood P lt (j + nLoops x) y := fun i d hd => by
      have := hL (nLoops x + i) d (by
        simp only [loopsOf, nLoops_is]
        rw [List.getElem?_append_right (by omega)]
        simpa using hd)
      rw [Nat.add_assoc]; exact this
    obtain ⟨e1, s1, h1, h2⟩ := ihx j hLx (fun d hd => hRg d (List.mem_append_left _ hd)) _ F H s h
    cases e1 with
    | normal =>
      obtain ⟨e2, s2, h3, h4⟩ := ihy _ hLy (fun d hd => hRg d (List.mem_append_right _ hd)) k F H s1 h1
      refine ⟨e2, s2, h3, fun w0 a w hc => wpIn_seq (wpIn_mono (h2 w0 a w hc) ?_)⟩
      rintro e a' w' ⟨rfl, hcc⟩
      exact h4 w0 a' w' hcc
    | exit id =>
      refine ⟨.exit id, s1, h1, fun w0 a w hc => wpIn_seq (wpIn_mono (h2 w0 a w hc) ?_)⟩
      rintro e a' w' ⟨rfl, hcc⟩
      exact ⟨rfl, hcc⟩
    | ret =>
      refine ⟨.ret, s1, h1, fun w0 a w hc => wpIn_seq (wpIn_mono (h2 w0 a w hc) ?_)⟩
      rintro e a' w' ⟨rfl, hcc⟩
      exact ⟨rfl, hcc⟩
  | cond c x y ihx ihy =>
    intro j hL hRg k F H s h
    have hLx : LoopsGood P lt j x := fun i d hd => hL i d (by
      have hi := (List.getElem?_eq_some_iff.1 hd).1
      simp only [loopsOf]
      rw [List.getElem?_append_left hi]; exact hd)
    have hLy : LoopsGood P lt (j + nLoops x) y := fun i d hd => by
      have := hL (nLoops x + i) d (by
        simp only [loopsOf, nLoops_is]
        rw [List.getElem?_append_right (by omega)]
        simpa using hd)
      rw [Nat.add_assoc]; exact this
    simp only [runN] at h
    split at h
    · rename_i t ht
      obtain ⟨h1, h2⟩ := brT_ok.1 h
      cases t with
      | true =>
        obtain ⟨e1, s1, h3, h4⟩ := ihx _ hLx (fun d hd => hRg d (List.mem_append_left _ hd)) k F H s (h1 rfl)
        exact ⟨e1, s1, h3, fun w0 a w hc => wpIn_cond_true (evalO_con hc ht) (h4 w0 a w hc)⟩
      | false =>
        obtain ⟨e1, s1, h3, h4⟩ := ihy _ hLy (fun d hd => hRg d (List.mem_append_right _ hd)) k F H s (h2 rfl)
        exact ⟨e1, s1, h3, fun w0 a w hc => wpIn_cond_false (evalO_con hc ht) (h4 w0 a w hc)⟩
    · exact h.elim
  | block id c ih =>
    intro j hL hRg k F H s h
    obtain ⟨e1, s1, h1, h2⟩ := ih j (fun i d hd => hL i d hd) (fun d hd => hRg d hd) _ F H s h
    cases e1 with
    | exit id' =>
      simp only at h1
      split at h1
      · rename_i he
        refine ⟨.normal, s1, h1, fun w0 a w hc => wpIn_block (wpIn_mono (h2 w0 a w hc) ?_)⟩
        rintro e a' w' ⟨rfl, hcc⟩
        show Exit.inBlock id _ (.exit id') a' w'
        dsimp only [Exit.inBlock]
        rw [if_pos (Nat.eq_of_beq_eq_true he)]
        exact ⟨rfl, hcc⟩
      · rename_i he
        refine ⟨.exit id', s1, h1, fun w0 a w hc => wpIn_block (wpIn_mono (h2 w0 a w hc) ?_)⟩
        rintro e a' w' ⟨rfl, hcc⟩
        show Exit.inBlock id _ (.exit id') a' w'
        dsimp only [Exit.inBlock]
        rw [if_neg (fun e => by subst e; simp at he)]
        exact ⟨rfl, hcc⟩
    | normal =>
      refine ⟨.normal, s1, h1, fun w0 a w hc => wpIn_block (wpIn_mono (h2 w0 a w hc) ?_)⟩
      rintro e a' w' ⟨rfl, hcc⟩
      exact ⟨rfl, hcc⟩
    | ret =>
      refine ⟨.ret, s1, h1, fun w0 a w hc => wpIn_block (wpIn_mono (h2 w0 a w hc) ?_)⟩
      rintro e a' w' ⟨rfl, hcc⟩
      exact ⟨rfl, hcc⟩
  | loop c ih =>
    intro j hL hRg k F H s h
    have hLc : LoopsGood P lt (j + 1) c := fun i d hd => by
      have := hL (i + 1) d (by simpa [loopsOf] using hd)
      rw [show j + 1 + i = j + (i + 1) by omega]; exact this
    rcases hlt : lt j s k with _ | t
    rotate_left
    · simp only [runN, hlt] at h
      exact hL 0 c (by simp [loopsOf]) s k t F H hlt h
    rw [runN_rounds hlt] at h
    have key : ∀ n s, (roundsN P R J call callM lt rt m c j k n s).ok F H → ∃ e' s', (k e' s').ok F H ∧ Chain P c n s e' s' := by
      intro n
      induction n with
      | zero => intro s h; exact h.elim
      | succ n ihn =>
        intro s h
        obtain ⟨e1, s1, h1, h2⟩ := ih _ hLc (fun d hd => hRg d hd) _ F H s h
        cases e1 with
        | normal =>
          obtain ⟨e2, s2, h3, h4⟩ := ihn s1 h1
          exact ⟨e2, s2, h3, .more h2 h4⟩
        | exit id => exact ⟨.exit id, s1, h1, .stop h2 (by simp)⟩
        | ret => exact ⟨.ret, s1, h1, .stop h2 (by simp)⟩
    obtain ⟨e', s', h1, h2⟩ := key m s h
    exact ⟨e', s', h1, h2.det⟩
  | exit id => intro j hL hRg k F H s h; exact ⟨.exit id, s, h, fun w0 a w hc => wpIn_exit ⟨rfl, hc⟩⟩
  | ret => intro j hL hRg k F H s h; exact ⟨.ret, s, h, fun w0 a w hc => wpIn_ret ⟨rfl, hc⟩⟩
  | rangeFunc f ps x y =>
    intro j hL hRg k F H s h
    simp only [runN] at h
    split at h
    · rename_i t ht
      exact hRg (.rangeFunc f ps x y) (by simp [rangesOf]) f ps x y rfl s k t F H ht h
    · exact h.elim
  | _ => intro j hL hRg k F H s h; exact h.elim
/-- The results of a body, read at its end. -/
def finT (P : Program) (l : List ResultVar) (s : St) (k : Value → List (Option Blk) → Tree) : Tree := match resV P s l with
  | none => .bad
  | some v => k v s.mem
def codeOf (f : Func) : Code := f.body.getD .skip
theorem start_conc {n : Nat} {args : List Value} {mem : List (Option Blk)} {w0 : Start} {w : World} {ρ : Nat → Option Pl} {args' : Array Value} (ha : VRs ρ args args') (hmem : MemOk w0.ρ0 ρ w0.kp (fun n => mem.getD n none) w) (hbel : BelowK w0.kp w0.toWorld w) (hdf : w0.df = []) :
    Conc w0 (St.fs { tmps := args ++ List.replicate (n - args.length) undef, mem := mem }) { tmps := args' ++ Array.replicate (n - args'.size) undef, defers := [] } w := by
  refine ⟨hdf.symm, by simp [St.fs, ha.1], hbel, ρ, fun t => ?_, hmem⟩
  simp only [St.fs, List.getD_eq_getElem?_getD]
  by_cases ht : t < args.length
  · have h1 : args[t]? = some args[t] := by simp
    have ht' : t < args'.size := by rw [← ha.1]; exact ht
    have h2 : args'[t]? = some args'[t] := by simp [ht']
    have := ha.2 t _ _ h1 h2
    rw [List.getElem?_append_left ht, h1]
    simpa [Array.getElem?_append, ht'] using this
  · have ht' : ¬ t < args'.size := by rw [← ha.1]; exact ht
    rw [List.getElem?_append_right (by omega)]
    have e1 : ((List.replicate (n - args.length) undef)[t - args.length]?).getD undef = undef := by
      rw [List.getElem?_replicate]
      split <;> rfl
    rw [e1]
    have e2 : (args' ++ Array.replicate (n - args'.size) undef).getD t undef = undef := by
      simp only [Array.getD_eq_getD_getElem?, Array.getElem?_append, ht', if_false, Array.getElem?_replicate]
      split <;> rfl
    rw [e2]
    exact .lit rfl
/-- The state in which a call with arguments laid open begins. -/
def argVal : Nat → DArg → Value
  | _, .v x => x
  | i, .row l _ => .slice (some ⟨i, 0, none⟩) l l
def argBlk : DArg → Option Blk
  | .v _ => none
  | .row _ cs => some ⟨.view, cs⟩
def argVals : Nat → List DArg → List Value
  | _, [] => []
  | i, d :: r => argVal i d :: argVals (i + 1) r
theorem argVals_get : ∀ (ds : List DArg) (k i : Nat), (argVals k ds)[i]? = (ds[i]?).map (argVal (k + i))
  | [], k, i => by simp [argVals]
  | d :: r, k, i => by
    cases i with
    | zero => simp [argVals]
    | succ i =>
      simp only [argVals, List.getElem?_cons_succ]
      rw [argVals_get r (k + 1) i, show k + 1 + i = k + (i + 1) by omega]
theorem argVals_length : ∀ (ds : List DArg) (k : Nat), (argVals k ds).length = ds.length
  | [], _ => rfl
  | _ :: r, k => by simp [argVals, argVals_length r]
theorem args_open {w : World} {ds : List DArg} {args : Array Value} (h : DOks w ds args) (B : Nat → Prop) : ∃ ρ, VRs ρ (argVals 0 ds) args ∧ MemOk (fun _ => none) ρ B (fun n => (ds.map argBlk).getD n none) w := by
  classical
  let ρ : Nat → Option Pl := fun n => match ds[n]?, args[n]? with
    | some (.row l _), some (.slice ad _ _) => if l = 0 then some (0, 1, some 1) else match ad with
      | some ad => some (ad.block, ad.off, none)
      | none => none
    | _, _ => none
  have hρ : ∀ n l cs, ds[n]? = some (.row l cs) → allAtoms cs = true ∧ ∃ ad c', args[n]? = some (.slice ad l c') ∧ l ≤ c' ∧ ((l = 0 ∧ ρ n = some (0, 1, some 1)) ∨ (∃ g f, ad = some ⟨g, f, none⟩ ∧ g < w.heap.size ∧ ρ n = some (g, f, none) ∧ ∀ (k : Nat) v, cs.list[k]? = some v → w.cell? ⟨g, f + k, none⟩ = some v)) := by
    intro n l cs hn
    have hlt : n < args.size := by
      rw [← h.1]
      rcases Nat.lt_or_ge n ds.length with h' | h'
      · exact h'
      · simp [List.getElem?_eq_none h'] at hn
    have ha : args[n]? = some args[n] := by simp [hlt]
    obtain ⟨hat, ad, c', h1, h2, h3⟩ := h.2 n _ _ hn ha
    refine ⟨hat, ad, c', by rw [ha, h1], h2, ?_⟩
    by_cases h0 : l = 0
    · exact .inl ⟨h0, by simp only [ρ, hn, ha, h1, if_pos h0]⟩
    · obtain ⟨g, f, rfl, h4, h5⟩ := h3.resolve_left h0
      exact .inr ⟨g, f, rfl, h4, by simp only [ρ, hn, ha, h1, if_neg h0], h5⟩
  refine ⟨ρ, ⟨by rw [argVals_length]; exact h.1, fun i v v' hv hv' => ?_⟩, ⟨fun n p hn => by simp at hn, fun n hn => ?_, fun n b hn => ?_, fun n n' b b' p p' hn hown => ?_⟩⟩
  · rw [argVals_get, Nat.zero_add] at hv
    rcases hd : ds[i]? with _ | d
    · simp [hd] at hv
    rw [hd] at hv
    obtain rfl : argVal i d = v := by simpa using hv
    cases d with
    | v x =>
      obtain ⟨hp, rfl⟩ := h.2 i _ _ hd hv'
      exact .lit hp
    | row l cs =>
      obtain ⟨hat, ad, c', h1, h2, h3⟩ := hρ i l cs hd
      rw [h1] at hv'
      obtain rfl : Value.slice ad l c' = v' := by simpa using hv'
      rcases h3 with ⟨rfl, h4⟩ | ⟨g, f, rfl, h4, h5, _⟩
      · exact .nil_ h4 ⟨rfl, 1, rfl⟩ rfl (fun h => by simp at h)
      · exact .slice (o := 0) h5 (.inr rfl) h2 (fun k hk => by simp at hk)
  · rcases hd : ds[n]? with _ | d
    · simp only [ρ, hd]
    · cases d with
      | v x => simp only [ρ, hd]
      | row l cs => simp [hd, argBlk] at hn
  · rcases hd : ds[n]? with _ | d
    · simp [hd] at hn
    · cases d with
      | v x => simp [hd, argBlk] at hn
      | row l cs =>
        have hb : b = ⟨.view, cs⟩ := by
          have : some (⟨.view, cs⟩ : Blk) = some b := by simpa [hd, argBlk] using hn
          simpa using this.symm
        subst hb
        obtain ⟨hat, ad, c', h1, h2, h3⟩ := hρ n l cs hd
        rcases h3 with ⟨rfl, h4⟩ | ⟨g, f, rfl, h4, h5, h6⟩
        · exact .inl ⟨_, h4, rfl, 1, rfl⟩
        · exact .inr ⟨g, f, none, h5, .inr rfl, h4, fun k v hv => ⟨v, h6 k v hv, .lit (plain_of_atom (allAtoms_spec hat v (List.mem_of_getElem? hv)))⟩⟩
  · exfalso
    rcases hd : ds[n]? with _ | d
    · simp [hd] at hn
    · cases d with
      | v x => simp [hd, argBlk] at hn
      | row l cs =>
        have hb : b = ⟨.view, cs⟩ := by
          have : some (⟨.view, cs⟩ : Blk) = some b := by simpa [hd, argBlk] using hn
          simpa using this.symm
        subst hb
        cases hown
/-- Is f a function of the text that can be entered? -/
def entersB (P : Program) (f : FuncId) : Bool :=
  match P.funcs[f]? with
  | some fn => !(fn.name == "runtime.NumGoroutine") && fn.body.isSome && (P.inits.idxOf? f).isNone
  | none => false
def DArg.goodB : DArg → Bool
  | .v x => plainV x
  | .row _ cs => allAtoms cs
/-- A table of what is known of functions. -/
abbrev Tab := FuncId → List DArg → Option (Value × List Prop)
/-- The table is sound. -/
def TabOk (P : Program) (B : Tab) : Prop := ∀ f ds v C, B f ds = some (v, C) → AllP C → Res P f ds v
theorem entersB_spec {P : Program} {f : FuncId} {fn : Func} (hf : P.funcs[f]? = some fn) (h : entersB P f = true) : enters P f ∧ P.inits.idxOf? f = none ∧ ∃ c, fn.body = some c ∧ codeOf fn = c := by
  unfold entersB at h
  rw [hf] at h
  simp only [Bool.and_eq_true, Bool.not_eq_true'] at h
  obtain ⟨⟨h1, h2⟩, h3⟩ := h
  obtain ⟨c, hc⟩ := Option.isSome_iff_exists.1 h2
  refine ⟨enters_of hf h1 (by simp [hc]), by simpa using h3, c, hc, by simp [codeOf, hc]⟩
theorem goodB_good {d : DArg} (h : d.goodB = true) : d.good := by
  cases d <;> exact h
/-- What is known: answers of functions, rows that functions make, loops. -/
structure Env where
  B : Tab
  R : TabR
  L : FuncId → LT
  J : TabJ
  G : FuncId → RT
def mkE (B : Tab) (R : TabR) (L : FuncId → LT) : Env := ⟨B, R, L, noJ, fun _ => noR⟩
def tabE (B : Tab) : Env := mkE B (fun _ _ => none) (fun _ _ _ _ => none)
structure EnvOk (P : Program) (E : Env) : Prop where
  B : TabOk P E.B
  R : TabROk P E.R
  L : ∀ f fn, P.funcs[f]? = some fn → LoopsGood P (E.L f) 0 (codeOf fn)
  J : GSound P E.J.g
  G : ∀ f fn, P.funcs[f]? = some fn → RangesGood P (E.G f) (codeOf fn)
theorem mkEOk {P : Program} {B : Tab} {R : TabR} {L : FuncId → LT} (hB : TabOk P B) (hR : TabROk P R) (hL : ∀ f fn, P.funcs[f]? = some fn → LoopsGood P (L f) 0 (codeOf fn)) : EnvOk P (mkE B R L) := ⟨hB, hR, hL, failG_sound P, fun _ _ _ => noR_good⟩
theorem tabE_ok {P : Program} {B : Tab} (h : TabOk P B) : EnvOk P (tabE B) := mkEOk h (fun _ _ _ _ _ h => (by cases h)) (fun _ _ _ _ _ _ _ _ _ _ _ h => (by cases h))
/-- What the table says of a call on a memory. -/
def dsOf (args : List Value) (mem : List (Option Blk)) : Option (List DArg) := (rdArgs args).run { n := 0, tmp := fun _ => undef, blk := fun n => mem.getD n none }
/-- The answer that the tables have. -/
def tabM (E : Env) (f : FuncId) (args : List Value) (mem : List (Option Blk)) (k : Value → List (Option Blk) → Tree) : Option Tree :=
  match dsOf args mem with
  | some ds => (match E.B f ds with
    | some (v, C) => some (needs C (k v mem))
    | none => (match E.R f ds with
      | some (v, b, C) => some (needs C (k (atName mem.length v) (mem ++ [some b])))
      | none => none))
  | none => none
/-- A function run in place on a memory; the tables are asked first. -/
def asK (P : Program) (E : Env) (callM : CallM) : CallK := fun f ds k => match E.B f ds with
  | some (v, C) => needs C (k v)
  | none => match entersB P f, ds.all DArg.goodB with
    | true, true => callM f (argVals 0 ds) (ds.map argBlk) fun v _ => (match plainV v with
      | true => k v
      | false => .bad)
    | _, _ => .bad
def bodyM (P : Program) (E : Env) (callM : CallM) (m : Nat) (f : FuncId) (args : List Value) (mem : List (Option Blk)) (k : Value → List (Option Blk) → Tree) : Tree :=
  match P.funcs[f]?, entersB P f with
  | some fn, true => runN P E.R E.J (asK P E callM) callM (E.L f) (E.G f) m (codeOf fn) 0 (fun e s => match e with
    | .normal => finT P fn.results.toList s k
    | .ret => finT P fn.results.toList s k
    | .exit _ => .bad) { tmps := args ++ List.replicate (fn.ntmps - args.length) undef, mem := mem }
  | _, _ => .bad
def runM (P : Program) (E : Env) (m : Nat) : Nat → CallM
  | 0, f, args, mem, k => (tabM E f args mem k).getD .bad
  | n + 1, f, args, mem, k => match tabM E f args mem k with
    | some t => t
    | none => bodyM P E (runM P E m n) m f args mem k
def runX (P : Program) (E : Env) (m n : Nat) : CallK := asK P E (runM P E m n)
theorem tabM_ok {P : Program} {E : Env} (hE : EnvOk P E) {f : FuncId} {args : List Value} {mem : List (Option Blk)} {k : Value → List (Option Blk) → Tree} {t : Tree} (h : tabM E f args mem k = some t) {F : Ex → St → Prop} {H : Value → List (Option Blk) → Prop} (ht : t.ok F H) :
    ∃ v mem', (k v mem').ok F H ∧ enters P f ∧
    ∀ (w0 : Start) (ρ : Nat → Option Pl) (args' : Array Value) (w : World), VRs ρ args args' → MemOk w0.ρ0 ρ w0.kp (fun n => mem.getD n none) w → BelowK w0.kp w0.toWorld w →
    Calls P f args' w fun e w' => ∃ v' ρ', e = .returned v' ∧ Ext ρ ρ' ∧ VR ρ' v v' ∧ BelowK w0.kp w0.toWorld w' ∧ MemOk w0.ρ0 ρ' w0.kp (fun n => mem'.getD n none) w' := by
  unfold tabM at h
  split at h
  rotate_left
  · cases h
  rename_i ds hds
  split at h
  · rename_i v C hB
    obtain rfl : needs C (k v mem) = t := by simpa using h
    obtain ⟨hC, hk⟩ := needs_ok ht
    obtain ⟨h1, _, h3, _, h4⟩ := hE.B f ds v C hB hC
    refine ⟨v, mem, hk, h1, fun w0 ρ args' w ha hm hb => (h4 w args' ((rdArgs_ok hds).2 ha hm)).mono ?_⟩
    rintro e w' ⟨rfl, hbw⟩
    have hsz : ∀ k, w0.kp k → k < w.heap.size := fun k hk => Nat.lt_of_lt_of_le (w0.kpl k hk) hb.size
    exact ⟨v, ρ, rfl, Ext.refl ρ, .lit h3, hb.trans (BelowK.of hbw hsz), hm.keep hbw⟩
  · split at h
    rotate_left
    · cases h
    rename_i v b C hR
    obtain rfl : needs C (k (atName mem.length v) (mem ++ [some b])) = t := by simpa using h
    obtain ⟨hC, hk⟩ := needs_ok ht
    obtain ⟨h1, _, hown, _, h4⟩ := hE.R f ds v b C hR hC
    refine ⟨_, _, hk, h1, fun w0 ρ args' w ha hm hb => (h4 w args' ((rdArgs_ok hds).2 ha hm)).mono ?_⟩
    rintro e w' ⟨v', p, rfl, hbw, hrow⟩
    have hsz : ∀ k, w0.kp k → k < w.heap.size := fun k hk => Nat.lt_of_lt_of_le (w0.kpl k hk) hb.size
    have hfree : (fun n => mem.getD n none) mem.length = none := by simp
    obtain ⟨g1, g2⟩ := hrow (addPl ρ mem.length p) mem.length (addPl_same _ _ _)
    refine ⟨v', addPl ρ mem.length p, rfl, addPl_ext (hm.fresh _ hfree), g1, hb.trans (BelowK.of hbw hsz), ?_⟩
    have e : (fun n => (mem ++ [some b]).getD n none) = setB (fun n => mem.getD n none) mem.length b := by
      funext n
      simp only [setB, List.getD_eq_getElem?_getD]
      by_cases hn : n = mem.length
      · subst hn; simp
      · rw [if_neg hn]
        rcases Nat.lt_or_ge n mem.length with hlt | hge
        · rw [List.getElem?_append_left hlt]
        · rw [List.getElem?_append_right hge, List.getElem?_eq_none (by simp; omega), List.getElem?_eq_none hge]
    rw [e]
    exact hm.newRow hsz hbw hfree hown g2
theorem asK_ok {P : Program} {E : Env} (hE : EnvOk P E) {callM : CallM} (hcallM : CallMOk P callM) : CallOk P (asK P E callM) := by
  intro f ds k F H h
  simp only [asK] at h
  split at h
  · rename_i v C hv
    obtain ⟨h1, h2⟩ := needs_ok h
    exact ⟨v, hE.B f ds v C hv h1, h2⟩
  split at h
  rotate_left
  · exact h.elim
  rename_i hen hg
  obtain ⟨v, mem', hk, hent, hdet⟩ := hcallM f _ _ _ _ _ h
  split at hk
  rotate_left
  · exact hk.elim
  rename_i hv
  have hin : P.inits.idxOf? f = none := by
    unfold entersB at hen
    split at hen
    · rename_i fn hf
      exact (entersB_spec hf (by unfold entersB; rw [hf]; exact hen)).2.1
    · cases hen
  refine ⟨v, ⟨hent, hin, hv, fun d hd => goodB_good (List.all_eq_true.1 hg d hd), fun w args hargs => ?_⟩, hk⟩
  obtain ⟨ρ, ha, hmem⟩ := args_open hargs (fun k => k < w.heap.size)
  refine (hdet ⟨w, fun _ => none, fun k => k < w.heap.size, fun _ h => h, [], none⟩ ρ args w ha hmem (BelowK.refl _ _)).mono ?_
  rintro e w' ⟨v', ρ', rfl, _, g2, g3, _⟩
  rw [g2.plain hv]
  exact ⟨rfl, g3.to⟩
theorem bodyM_ok {P : Program} {E : Env} (hE : EnvOk P E) (hm : P.follows .mixedOrders = true) {callM : CallM} (hcallM : CallMOk P callM) (m : Nat) : CallMOk P (bodyM P E callM m) := by
  intro f args mem k F H h
  unfold bodyM at h
  split at h
  rotate_left
  · exact h.elim
  rename_i fn hf hen
  obtain ⟨h1, h2, c, hbody, hcode⟩ := entersB_spec hf hen
  have hL := hE.L f fn hf
  have hG := hE.G f fn hf
  rw [hcode] at h hL hG
  obtain ⟨e', s', hk, hdet⟩ := runN_det hE.R hE.J (asK_ok hE hcallM) hcallM hm c 0 hL hG _ F H _ h
  have key : (finT P fn.results.toList s' k).ok F H → ∃ v, resV P s' fn.results.toList = some v ∧ (k v s'.mem).ok F H := by
    intro hk
    unfold finT at hk
    split at hk
    · exact hk.elim
    rename_i v hv
    exact ⟨v, hv, hk⟩
  have fin : (e' = .normal ∨ e' = .ret) ∧ ∃ v, resV P s' fn.results.toList = some v ∧ (k v s'.mem).ok F H := by
    cases e' with
    | normal => exact ⟨.inl rfl, key hk⟩
    | ret => exact ⟨.inr rfl, key hk⟩
    | exit id => exact hk.elim
  obtain ⟨he', v, hv, hkv⟩ := fin
  refine ⟨v, s'.mem, hkv, h1, fun w0 ρ args' w ha hmem hbel => ?_⟩
  refine (callsIn_wide (n := 3)).1 (callsIn_of_wp_marks hf hbody trivial (wpIn_mono (hdet ⟨w0.toWorld, ρ, w0.kp, w0.kpl, [], none⟩ _ w (Con.of (fun l h => by cases h) (start_conc (w0 := ⟨w0.toWorld, ρ, w0.kp, w0.kpl, [], none⟩) ha hmem.rebase hbel rfl))) ?_) rfl)
  rintro e a' w' ⟨rfl, _, w1, hl, c1, c2, c3, ρ', c4, c5⟩
  obtain ⟨ms, hms, hnd, hmk⟩ := hl.df
  have hdf : a'.defers = ms.map mkDf := by rw [c1, hms]; simp
  have fin : LeavesInM Fence.wide 3 P fn a'.tmps (fun e w' => ∃ v' ρ', e = .returned v' ∧ Ext ρ ρ' ∧ VR ρ' v v' ∧ BelowK w0.kp w0.toWorld w' ∧ MemOk w0.ρ0 ρ' w0.kp (fun n => s'.mem.getD n none) w') a'.defers .returning w' := by
    rw [hdf]
    have hext : Ext ρ ρ' := by have := c5.ext; rwa [hl.ρ0] at this
    have c5' : MemOk w0.ρ0 ρ' w0.kp s'.fs.blk w' := MemOk.less ⟨hmem.ext.trans hext, c5.fresh, c5.ok, c5.sep⟩ hl.kp
    refine marks_leave (fun W => BelowK w0.kp w0.toWorld W ∧ MemOk w0.ρ0 ρ' w0.kp s'.fs.blk W) ms w' (fun D hD => ((c3.block D (hmk D hD).2.2.1).trans (hmk D hD).2.2.2)) hnd (fun W D hD hJ hW => ⟨?_, ?_⟩) ⟨?_, c5'⟩ (fun W hJ => ?_)
    · exact hJ.1.trans ⟨rfl, rfl, rfl, by simp, fun k hk => World.putObj_heap_other (fun e => (hmk D hD).1 (by rw [← e]; exact hk))⟩
    · refine hJ.2.grown (by simp) fun k o ho hc => World.putObj_heap_other (fun e => ?_)
      rw [e, hW] at ho
      cases ho
      cases hc
    · exact ⟨c3.os.trans hl.bel.os, c3.tape.trans hl.bel.tape, c3.output.trans hl.bel.output, Nat.le_trans hl.bel.size c3.size, fun x hx => (c3.block x (hl.kp x hx)).trans (hl.bel.block x hx)⟩
    · obtain ⟨v', k1, k2⟩ := resV_run (fn := fn) (l := fn.results.toList) (by simp) hv c4 hJ.2
      exact ⟨v', k1, v', ρ', rfl, hext, k2, hJ.1, hJ.2⟩
  rcases he' with rfl | rfl <;> exact fin
theorem runM_ok {P : Program} (hm : P.follows .mixedOrders = true) {E : Env} (hE : EnvOk P E) (m : Nat) : ∀ n, CallMOk P (runM P E m n) := by
  intro n
  induction n with
  | zero =>
    intro f args mem k F H h
    simp only [runM] at h
    rcases ht : tabM E f args mem k with _ | t
    · rw [ht] at h; exact h.elim
    · rw [ht] at h
      exact tabM_ok hE ht h
  | succ n ih =>
    intro f args mem k F H h
    simp only [runM] at h
    split at h
    · rename_i t ht
      exact tabM_ok hE ht h
    · exact bodyM_ok hE hm ih m f args mem k F H h
theorem runX_ok {P : Program} (hm : P.follows .mixedOrders = true) {E : Env} (hE : EnvOk P E) (m n : Nat) : CallOk P (runX P E m n) := asK_ok hE (runM_ok hm hE m n)
/-- What a function's tree says is what it answers. -/
theorem res_of {P : Program} (hm : P.follows .mixedOrders = true) {E : Env} (hE : EnvOk P E) {m n : Nat} {f : FuncId} {ds : List DArg} {v : Value}
    (h : (runX P E m n f ds fun u => .fin u []).ok (fun _ _ => False) (fun u _ => u = v)) : Res P f ds v := by
  obtain ⟨u, hu, hk⟩ := runX_ok hm hE m n f ds _ _ _ h
  obtain rfl : u = v := hk
  exact hu
/-- A function's body on its arguments, what it hands back and its memory. -/
def bodyX (P : Program) (E : Env) (m n : Nat) (f : FuncId) (ds : List DArg) : Tree :=
  match ds.all DArg.goodB with
  | true => bodyM P E (runM P E m n) m f (argVals 0 ds) (ds.map argBlk) .fin
  | false => .bad
theorem bodyX_res {P : Program} (hm : P.follows .mixedOrders = true) {E : Env} (hE : EnvOk P E) {m n : Nat} {f : FuncId} {ds : List DArg} {v : Value} (hv : plainV v = true)
    (h : (bodyX P E m n f ds).ok (fun _ _ => False) (fun u _ => u = v)) : Res P f ds v := by
  unfold bodyX at h
  split at h
  rotate_left
  · exact h.elim
  rename_i hg
  obtain ⟨u, mem', hk, hent, hdet⟩ := bodyM_ok hE hm (runM_ok hm hE m n) m f _ _ _ _ _ h
  obtain rfl : u = v := hk
  have hin : P.inits.idxOf? f = none := by
    unfold bodyM at h
    split at h
    rotate_left
    · exact h.elim
    rename_i fn hf hen
    exact (entersB_spec hf hen).2.1
  refine ⟨hent, hin, hv, fun d hd => goodB_good (List.all_eq_true.1 hg d hd), fun w args hargs => ?_⟩
  obtain ⟨ρ, ha, hmem⟩ := args_open hargs (fun k => k < w.heap.size)
  refine (hdet ⟨w, fun _ => none, fun k => k < w.heap.size, fun _ h => h, [], none⟩ ρ args w ha hmem (BelowK.refl _ _)).mono ?_
  rintro e w' ⟨v', ρ', rfl, _, g2, g3, _⟩
  rw [g2.plain hv]
  exact ⟨rfl, g3.to⟩
/-- What a body hands back, beside what is told of it: src is the name of the row, none if it is nil. -/
def rv1 (src : Option Nat) : Value → Value → Prop
  | .slice (some ⟨n, o, none⟩) l _, .slice (some ⟨0, o', none⟩) l' _ => src = some n ∧ o = o' ∧ l = l'
  | .slice none 0 0, .slice (some ⟨0, _, none⟩) l' _ => src = none ∧ l' = 0
  | u, v => u = v ∧ plainV v = true
def rvl (src : Option Nat) : List Value → List Value → Prop
  | [], [] => True
  | u :: r, v :: r' => rv1 src u v ∧ rvl src r r'
  | _, _ => False
def rv (src : Option Nat) : Value → Value → Prop
  | .tuple ⟨l⟩, .tuple ⟨l'⟩ => rvl src l l'
  | u, v => rv1 src u v
def rc : Cs → Cs → Prop
  | .ints xs, .ints ys => xs = ys
  | .vals l, .ints ys => intsOf l = some ys
  | .vals l, .vals l' => l = l' ∧ allAtoms (.vals l') = true
  | .ints _, .vals _ => False
  | .bytes xs, .bytes ys => xs = ys
  | _, _ => False
def rb (b' b : Blk) : Prop :=
  match b'.kind, b.kind with
  | .row e sz, .row e' sz' => e = e' ∧ sz = sz' ∧ rc b'.cs b.cs
  | _, _ => False
def isRow (b : Blk) : Bool := match b.kind with
  | .row _ _ => true
  | _ => false
def RowIs (v : Value) (b : Blk) (u : Value) (mem : List (Option Blk)) : Prop :=
  ∃ src : Option Nat, rv src u v ∧ match src with
    | some n => (match mem.getD n none with
      | some b' => rb b' b
      | none => False)
    | none => True
theorem atName1_plain {name : Nat} {v : Value} (h : plainV v = true) : atName1 name v = v := by
  unfold atName1
  split
  · simp [plainV, atomV] at h
  · rfl
theorem rv1_ok {src : Option Nat} {ρ ρ' : Nat → Option Pl} {name : Nat} (h0 : match src with
    | some n => ρ' name = ρ n
    | none => ρ' name = some (0, 1, some 0)) {u v x : Value} (h : rv1 src u v) (k : VR ρ u x) : VR ρ' (atName1 name v) x := by
  unfold rv1 at h
  split at h
  · rename_i n o l c o' l' c'
    obtain ⟨rfl, rfl, rfl⟩ := h
    simp only at h0
    rcases k.slice_inv with ⟨g, f', cp, c2, h2, hq, rfl, h4, h5⟩ | ⟨rfl, h2, ad, c2, rfl⟩ | ⟨rfl, ad, c2, p, rfl, h2, h3, h4⟩
    · exact .slice (h0.trans h2) hq h4 h5
    · exact .none_ h2
    · exact .nil_ (h0.trans h2) h3 rfl h4
  · obtain ⟨rfl, rfl⟩ := h
    obtain rfl := k.plain rfl
    exact .nil_ h0 ⟨rfl, 0, rfl⟩ rfl (fun _ => ⟨rfl, rfl⟩)
  · obtain ⟨rfl, h1⟩ := h
    obtain rfl := k.plain h1
    rw [atName1_plain h1]
    exact .lit h1
theorem rvl_ok {src : Option Nat} {ρ ρ' : Nat → Option Pl} {name : Nat} (h0 : match src with
    | some n => ρ' name = ρ n
    | none => ρ' name = some (0, 1, some 0)) : ∀ {l l' : List Value}, rvl src l l' → l.length = l'.length ∧ ∀ (i : Nat) v x, (l'.map (atName1 name))[i]? = some v → (∀ u, l[i]? = some u → VR ρ u x) → VR ρ' v x
  | [], [], _ => ⟨rfl, fun i v x h => by simp at h⟩
  | [], _ :: _, h => h.elim
  | _ :: _, [], h => h.elim
  | u :: r, v :: r', h => by
    obtain ⟨h1, h2⟩ := h
    obtain ⟨h3, h4⟩ := rvl_ok h0 h2
    refine ⟨by simp [h3], fun i y x hy hx => ?_⟩
    cases i with
    | zero =>
      obtain rfl : atName1 name v = y := by simpa using hy
      exact rv1_ok h0 h1 (hx u rfl)
    | succ i => exact h4 i y x (by simpa using hy) fun v hv => hx v (by simpa using hv)
theorem rv_ok {src : Option Nat} {ρ ρ' : Nat → Option Pl} {name : Nat} (h0 : match src with
    | some n => ρ' name = ρ n
    | none => ρ' name = some (0, 1, some 0)) {u v x : Value} (h : rv src u v) (k : VR ρ u x) : VR ρ' (atName name v) x := by
  unfold rv at h
  split at h
  · rename_i l l'
    obtain ⟨cs, rfl, h1, h2⟩ := k.tuple_inv
    obtain ⟨h3, h4⟩ := rvl_ok h0 h
    refine .tuple (by simp at h1 ⊢; omega) fun i v y hv hy => h4 i v y (by simpa using hv) fun u hu => h2 i u y (by simpa using hu) hy
  · rename_i hne
    have e : atName name v = atName1 name v := by
      unfold atName
      split
      · rename_i l'
        exfalso
        unfold rv1 at h
        split at h
        · rename_i h1; cases h1
        · rename_i h1; cases h1
        · obtain ⟨rfl, _⟩ := h
          exact hne _ _ rfl rfl
      · rfl
    rw [e]
    exact rv1_ok h0 h k
theorem rc_list {c c' : Cs} (h : rc c c') : c.list = c'.list ∧ ∀ v ∈ c'.list, atomV v = true := by
  have ints : ∀ xs : List Int, ∀ v ∈ xs.map (Value.int .i64), atomV v = true := by
    intro xs v hv
    obtain ⟨x, _, rfl⟩ := List.mem_map.1 hv
    rfl
  unfold rc at h
  split at h
  · subst h; exact ⟨rfl, ints _⟩
  · have := intsOf_spec h
    subst this
    exact ⟨rfl, ints _⟩
  · obtain ⟨rfl, h⟩ := h
    exact ⟨rfl, allAtoms_spec h⟩
  · exact h.elim
  · subst h
    exact ⟨rfl, fun v hv => by
      obtain ⟨x, _, rfl⟩ := List.mem_map.1 hv
      rfl⟩
  · exact h.elim
theorem bodyX_resR {P : Program} (hm : P.follows .mixedOrders = true) {E : Env} (hE : EnvOk P E) {m n : Nat} {f : FuncId} {ds : List DArg} {v : Value} {b : Blk} (hb : isRow b = true)
    (h : (bodyX P E m n f ds).ok (fun _ _ => False) (fun u mem => RowIs v b u mem)) : ResR P f ds v b := by
  unfold bodyX at h
  split at h
  rotate_left
  · exact h.elim
  rename_i hg
  obtain ⟨u, mem', ⟨src, hrv, hsrc⟩, hent, hdet⟩ := bodyM_ok hE hm (runM_ok hm hE m n) m f _ _ _ _ _ h
  have hin : P.inits.idxOf? f = none := by
    unfold bodyM at h
    split at h
    rotate_left
    · exact h.elim
    rename_i fn hf hen
    exact (entersB_spec hf hen).2.1
  obtain ⟨kd, cs⟩ := b
  cases kd with
  | row e sz =>
    refine ⟨hent, hin, rfl, fun d hd => goodB_good (List.all_eq_true.1 hg d hd), fun w args hargs => ?_⟩
    obtain ⟨ρ, ha, hmem⟩ := args_open hargs (fun k => k < w.heap.size)
    refine (hdet ⟨w, fun _ => none, fun k => k < w.heap.size, fun _ h => h, [], none⟩ ρ args w ha hmem (BelowK.refl _ _)).mono ?_
    rintro e' w' ⟨v', ρ', rfl, _, g2, g3, g4⟩
    cases src with
    | none => exact ⟨v', (0, 1, some 0), rfl, g3.to, fun ρ2 name hp => ⟨rv_ok (ρ := ρ') (src := none) hp hrv g2, .inl ⟨_, hp, rfl, rfl⟩⟩⟩
    | some k =>
      simp only at hsrc
      split at hsrc
      rotate_left
      · exact hsrc.elim
      rename_i b' hb'
      obtain ⟨kd', cs'⟩ := b'
      cases kd' with
      | row e2 sz2 =>
        obtain ⟨rfl, rfl, hc⟩ := hsrc
        obtain ⟨c1, c2⟩ := rc_list hc
        rcases g4.ok k _ hb' with ⟨p, h1, h2, h3⟩ | ⟨g, cap, h1, h2, arr, h3, h4, h5⟩
        · exact ⟨v', p, rfl, g3.to, fun ρ2 name hp => ⟨rv_ok (ρ := ρ') (src := some k) (hp.trans h1.symm) hrv g2, .inl ⟨p, hp, h2, h3⟩⟩⟩
        · refine ⟨v', _, rfl, g3.to, fun ρ2 name hp => ⟨rv_ok (ρ := ρ') (src := some k) (hp.trans h1.symm) hrv g2, .inr ⟨g, cap, hp, h2, arr, h3, h4, ?_⟩⟩⟩
          intro i x hx
          obtain ⟨x', k1, k2⟩ := h5 i x (by show cs'.list[i]? = some x; rw [c1]; exact hx)
          refine ⟨x', k1, ?_⟩
          have hat := plain_of_atom (c2 x (List.mem_of_getElem? hx))
          rw [k2.plain hat]
          exact .lit hat
      | _ => exact hsrc.elim
  | _ => cases hb
/-- The reader's box. -/
def rdBox (cn l c : Nat) (p : Int) : Blk := ⟨.box, .vals [.slice (some ⟨cn, 0, none⟩) l c, .int .i64 p]⟩
/-- A row of ints beside it. -/
def third : Option (List Int) → List (Option Blk)
  | none => []
  | some xs => [some ⟨.view, .ints xs⟩]
def memR (bs : List Int) (l c : Nat) (p : Int) (ex : Option (List Int)) : List (Option Blk) := some ⟨.view, .bytes bs⟩ :: some (rdBox 0 l c p) :: third ex
/-- Arguments beside the reader: plain ones, or a slice of the row. -/
def RestRel (nl : Nat) : List Value → List Value → Prop
  | [], [] => True
  | a :: r, b :: r' => ((a = b ∧ plainV a = true) ∨ ∃ l c c', a = .slice (some ⟨2, 0, none⟩) l c ∧ b = .slice (some ⟨nl, 0, none⟩) l c') ∧ RestRel nl r r'
  | _, _ => False
theorem vr_ren {ρ ρ' : Nat → Option Pl} {a b l c c0 : Nat} {x : Value} (h : ρ' b = ρ a) (k : VR ρ (.slice (some ⟨a, 0, none⟩) l c) x) : VR ρ' (.slice (some ⟨b, 0, none⟩) l c0) x := by
  rcases k.slice_inv with ⟨g, f', cp, c2, h2, hq, rfl, h4, h5⟩ | ⟨rfl, h2, ad, c2, rfl⟩ | ⟨rfl, ad, c2, p, rfl, h2, h3, h4⟩
  · exact .slice (h.trans h2) hq h4 h5
  · omega
  · exact .nil_ (h.trans h2) h3 rfl h4
/-- What a function makes of a reader: bytes, how many, the place; further arguments, a row of ints; its answer, the new place, conditions. -/
abbrev RSpec := List Int → Nat → Int → List Value → Option (List Int) → Option (Value × Int × List Prop)
def intsC : Cs → Option (List Int)
  | .ints xs => some xs
  | .vals l => intsOf l
  | .bytes _ => none
theorem intsC_spec {c : Cs} {xs : List Int} (h : intsC c = some xs) : c.list = xs.map (Value.int .i64) := by
  cases c with
  | vals l => exact intsOf_spec h
  | ints ys =>
    obtain rfl : ys = xs := by simpa [intsC] using h
    rfl
  | bytes b => simp [intsC] at h
/-- The told answer is what the function's tree says. -/
def SpecOk (P : Program) (f : FuncId) (sp : RSpec) : Prop := ∀ bs l c p rest0 ex v p' C, sp bs l p rest0 ex = some (v, p', C) → AllP C → ∃ (E : Env) (m n : Nat), EnvOk P E ∧ plainV v = true ∧
  (bodyM P E (runM P E m n) m f (.pointer (some ⟨1, 0, none⟩) :: rest0) (memR bs l c p ex) .fin).ok (fun _ _ => False) (fun u mem' => u = v ∧ mem'.getD 1 none = some (rdBox 0 l c p'))
theorem RestRel.same {nl : Nat} : ∀ {r : List Value}, r.all plainV = true → RestRel nl r r
  | [], _ => trivial
  | a :: r, h => by
    simp only [List.all_cons, Bool.and_eq_true] at h
    exact ⟨.inl ⟨rfl, h.1⟩, RestRel.same h.2⟩
def lookJ : List (FuncId × RSpec) → FuncId → Option RSpec
  | [], _ => none
  | (g, sp) :: r, f => match Nat.beq g f with
    | true => some sp
    | false => lookJ r f
def JOk (P : Program) (l : List (FuncId × RSpec)) : Prop := ∀ f sp, lookJ l f = some sp → enters P f ∧ SpecOk P f sp
theorem JOk.nil {P : Program} : JOk P [] := fun f sp h => by cases h
theorem JOk.cons {P : Program} {l : List (FuncId × RSpec)} (h : JOk P l) {f : FuncId} {sp : RSpec} (he : enters P f) (hs : SpecOk P f sp) : JOk P ((f, sp) :: l) := fun g sp' hg => by
  simp only [lookJ] at hg
  split at hg
  · rename_i e
    obtain rfl := Nat.eq_of_beq_eq_true e
    obtain rfl : sp = sp' := by simpa using hg
    exact ⟨he, hs⟩
  · exact h g sp' hg
section
variable {H : Type} {enc : TypeId × Value → H} {P : Program} {w : World} {base : Nat} {spare : Nat → Bool} {held : Bool}
theorem cells_choose {len : Nat} {a : Addr} (h : ∀ q, q < len → ∃ z : Int, w.cell? (a.add q) = some (.int .i64 z)) : ∃ xs : List Int, xs.length = len ∧ ∀ (k : Nat) v, (xs.map (Value.int .i64))[k]? = some v → w.cell? (a.add k) = some v := by
  classical
  refine ⟨(List.range len).map fun q => if hq : q < len then Classical.choose (h q hq) else 0, by simp, fun k v hv => ?_⟩
  have hk : k < len := by
    rcases Nat.lt_or_ge k len with hk | hk
    · exact hk
    · rw [List.getElem?_eq_none (by simp; omega)] at hv; cases hv
  have := Classical.choose_spec (h k hk)
  rw [this]
  simp [hk] at hv
  rw [← hv]
/-- A slice of structs of k ints. -/
theorem arg_rows {t e : TypeId} {fs : Array Field} {k : Nat} (hk : 0 < k) (ht : P.underlying t = some (.slice e)) (he : P.underlying e = some (.struct fs)) (hone : oneCellFields P fs = true) (hC : P.cellsOf e = k) (hfs : fs.size = k)
    (hint : ∀ (j : Nat) f, fs[j]? = some f → P.underlying f.type = some (.int .i64)) {r : Reach} {b0 : Nat} {v : Value} {d : DataW H} {ps : List MemPlace} (hv : Value.okWide P w r b0 t v) (h : DataW.Trod enc P w base spare held t v d ps) :
    ∃ (n : Nat) (xs : List Int), n ≤ maxLen ∧ xs.length = n * k ∧ DOk w (.row n (.ints xs)) v := by
  obtain ⟨ad, len, cap, rfl⟩ := okWide_slice ht hv
  obtain ⟨fuel, hf⟩ := h
  rcases open_slice ht hf with ⟨hcs, _⟩ | ⟨a, len', cap', m, n, D, Pl, hcs, hb, hl, hm, hmm, _, hi⟩
  · obtain ⟨rfl, rfl, rfl⟩ : ad = none ∧ len = 0 ∧ cap = 0 := by simpa [Value.cells] using hcs
    exact ⟨0, [], Nat.zero_le _, by simp, rfl, none, 0, rfl, Nat.le_refl _, .inl rfl⟩
  · obtain ⟨rfl, rfl, rfl⟩ : ad = some a ∧ len = len' ∧ cap = cap' := by simpa [Value.cells] using hcs
    have hlm : len ≤ m := by rw [hmm]; split <;> omega
    have each : ∀ q, q < len * k → ∃ z : Int, w.cell? (a.add q) = some (.int .i64 z) := by
      intro q hq
      have hiq : q / k < len := Nat.div_lt_of_lt_mul (by rw [Nat.mul_comm]; exact hq)
      have hjq : q % k < k := Nat.mod_lt _ hk
      obtain ⟨cs', hc, htr⟩ := hi (q / k) (by omega)
      rw [hC] at hc
      obtain ⟨_, hcl, hat⟩ := World.cells?_some hc
      obtain ⟨ys, n', _, _, _, hyl, hfd⟩ := DataW.trod_struct he htr
      have hj : fs[q % k]? = some (fs[q % k]'(by omega)) := by simp [hfs, hjq]
      obtain ⟨ho, hc1⟩ := hone_of hone _ _ hj
      have h1 := hfd _ _ hj
      rw [ho, hc1] at h1
      have hone' : (cs'.drop (q % k)).take 1 = [cs'[q % k]'(by omega)] := by
        rw [List.drop_eq_getElem_cons (by omega)]
        rfl
      rw [hone'] at h1
      have hys : ys[q % k]? = some (ys[q % k]'(by omega)) := List.getElem?_eq_getElem (by omega)
      rw [hys] at h1
      obtain ⟨z, hz, _⟩ := DataW.trod_int (hint _ _ hj) h1
      have hcell := hat (q % k) hjq
      rw [Go.Deep.add_add] at hcell
      have eq : q / k * k + q % k = q := by rw [Nat.mul_comm]; exact Nat.div_add_mod q k
      rw [eq] at hcell
      refine ⟨z, ?_⟩
      rw [hcell, List.getElem?_eq_getElem (by omega : q % k < cs'.length)]
      simp only [List.cons.injEq, and_true] at hz
      rw [hz]
    obtain ⟨xs, hx1, hx2⟩ := cells_choose each
    refine ⟨len, xs, by omega, hx1, rfl, some a, cap, rfl, hl, ?_⟩
    rcases Nat.eq_zero_or_pos len with h0 | hpos
    · exact .inl h0
    · right
      obtain ⟨z, hz⟩ := each 0 (Nat.mul_pos hpos hk)
      have ha0 : a.add 0 = a := by simp [Addr.add]
      rw [ha0] at hz
      have hsp : a.spot = none := by
        unfold World.cell? at hz
        split at hz
        · split at hz
          · cases hz
          · rename_i hs; simpa using hs
        · cases hz
      obtain ⟨g, f, sp⟩ := a
      simp only at hsp
      subst hsp
      refine ⟨g, f, rfl, World.block_lt_of_cell? w _ hz, fun q v hv => ?_⟩
      rw [← addr_add]
      exact hx2 q v hv
theorem doks_nil : DOks w [] #[] := ⟨rfl, fun i d y h => by simp at h⟩
theorem doks_cons {d : DArg} {y : Value} {ds : List DArg} {ys : List Value} (h : DOk w d y) (hr : DOks w ds ys.toArray) : DOks w (d :: ds) (y :: ys).toArray := by
  refine ⟨by have := hr.1; simp at this ⊢; omega, fun i d' y' hd hy => ?_⟩
  cases i with
  | zero =>
    obtain rfl : d = d' := by simpa using hd
    obtain rfl : y = y' := by simpa using hy
    exact h
  | succ i => exact hr.2 i d' y' (by simpa using hd) (by simpa using hy)
theorem len_fits {n : Nat} (h : n ≤ maxLen) : (n : Int) ≤ 9223372036854775807 := by
  simp [maxLen] at h
  omega
theorem fields_int {fs : Array Field} (h : (fs.toList.all fun f => match P.underlying f.type with
    | some (.int .i64) => true
    | _ => false) = true) : ∀ (j : Nat) f, fs[j]? = some f → P.underlying f.type = some (.int .i64) := by
  intro j f hj
  have hm : f ∈ fs.toList := by
    obtain ⟨hi, rfl⟩ := Array.getElem?_eq_some_iff.1 hj
    simp
  have := List.all_eq_true.1 h f hm
  split at this
  · assumption
  · cases this
end
section
variable {H : Type} {enc : TypeId × Value → H} {P : Program} {w : World} {base : Nat} {spare : Nat → Bool} {held : Bool}
end
/-- A function's body on its arguments, what it hands back alone. -/
def bodyV (P : Program) (E : Env) (m n : Nat) (f : FuncId) (ds : List DArg) : Tree :=
  match ds.all DArg.goodB with
  | true => bodyM P E (runM P E m n) m f (argVals 0 ds) (ds.map argBlk) fun v _ => .fin v []
  | false => .bad
theorem bodyV_res {P : Program} (hm : P.follows .mixedOrders = true) {E : Env} (hE : EnvOk P E) {m n : Nat} {f : FuncId} {ds : List DArg} {v : Value} (hv : plainV v = true)
    (h : (bodyV P E m n f ds).ok (fun _ _ => False) (fun u _ => u = v)) : Res P f ds v := by
  unfold bodyV at h
  split at h
  rotate_left
  · exact h.elim
  rename_i hg
  obtain ⟨u, mem', hk, hent, hdet⟩ := bodyM_ok hE hm (runM_ok hm hE m n) m f _ _ _ _ _ h
  obtain rfl : u = v := hk
  have hin : P.inits.idxOf? f = none := by
    unfold bodyM at h
    split at h
    rotate_left
    · exact h.elim
    rename_i fn hf hen
    exact (entersB_spec hf hen).2.1
  refine ⟨hent, hin, hv, fun d hd => goodB_good (List.all_eq_true.1 hg d hd), fun w args hargs => ?_⟩
  obtain ⟨ρ, ha, hmem⟩ := args_open hargs (fun k => k < w.heap.size)
  refine (hdet ⟨w, fun _ => none, fun k => k < w.heap.size, fun _ h => h, [], none⟩ ρ args w ha hmem (BelowK.refl _ _)).mono ?_
  rintro e w' ⟨v', ρ', rfl, _, g2, g3, _⟩
  rw [g2.plain hv]
  exact ⟨rfl, g3.to⟩
theorem lift_row {P : Program} {E : Env} (hE : EnvOk P E) (hmx : P.follows .mixedOrders = true) {m n : Nat} {f : FuncId} {e sz l : Nat} {xs ys : List Int} {v : Value} (hv : plainV v = true) {rest : List Value} (hrest : rest.all plainV = true)
    (h : (bodyM P E (runM P E m n) m f (.slice (some ⟨0, 0, none⟩) l l :: rest) [some ⟨.row e sz, .ints xs⟩] .fin).ok (fun _ _ => False) (fun u mem' => u = v ∧ ∃ b', mem'.getD 0 none = some b' ∧ b'.kind = .row e sz ∧ b'.cs.list = ys.map (Value.int .i64)))
    {s : FS} {nr c : Nat} {cs0 : Cs} (hb : s.blk nr = some ⟨.row e sz, cs0⟩) (hcs : cs0.list = xs.map (Value.int .i64)) : enters P f ∧ ∀ (B : Nat → Prop) (ρ0 ρ : Nat → Option Pl) (w : World) (args' : Array Value), VRs ρ (.slice (some ⟨nr, 0, none⟩) l c :: rest) args' → MemOk ρ0 ρ B s.blk w → (∀ k, B k → k < w.heap.size) →
    Calls P f args' w fun e' w' => ∃ v' ρ', e' = .returned v' ∧ Ext ρ ρ' ∧ VR ρ' v v' ∧ BelowK B w w' ∧ MemOk ρ0 ρ' B (setB s.blk nr ⟨.row e sz, .ints ys⟩) w' := by
  obtain ⟨u, mem', ⟨rfl, b', hmem', hkind, hlist⟩, hent, hdet⟩ := bodyM_ok hE hmx (runM_ok hmx hE m n) m f _ _ _ _ _ h
  refine ⟨hent, fun B ρ0 ρ w args' ha hm hB => ?_⟩
  have hatx : ∀ x ∈ xs.map (Value.int .i64), plainV x = true := fun x hx => by
    obtain ⟨y, _, rfl⟩ := List.mem_map.1 hx
    rfl
  let ρs : Nat → Option Pl := fun k => match k with
    | 0 => ρ nr
    | _ => none
  let Bs : Nat → Prop := fun k => k < w.heap.size ∧ ∀ p, ρ nr = some p → ¬ nilPl p → k ≠ p.1
  have hblk : (∃ p, ρ nr = some p ∧ p.2.1 = 1 ∧ p.2.2 = some 0) ∨ ∃ g cap, ρ nr = some (g, 0, some cap) ∧ ¬ B g ∧ ∃ cs', w.heap[g]? = some (.cells cs' e (0, 0)) ∧ cs'.size = cap * sz ∧ Cells ρ cs0.list cs' := hm.ok nr _ hb
  have hmem : MemOk (fun _ => none) ρs Bs (fun k => [some (⟨.row e sz, .ints xs⟩ : Blk)].getD k none) w := by
    refine ⟨fun k q hq => by simp at hq, fun k hk => ?_, fun k b hk => ?_, fun k k' b b2 q q' hk hown hk' hlive hne' hq hq' hnq hnq' => ?_⟩
    · match k with
      | 0 => simp at hk
      | k + 1 => rfl
    · match k with
      | 0 =>
        obtain rfl : (⟨.row e sz, .ints xs⟩ : Blk) = b := by simpa using hk
        rcases hblk with ⟨p, h1, h2, h3⟩ | ⟨g, cap, h1, h2, cs', h3, h4, h5⟩
        · exact .inl ⟨p, h1, h2, h3⟩
        · refine .inr ⟨g, cap, h1, fun hbs => hbs.2 _ h1 (okPl.not (.inl rfl)) rfl, cs', h3, h4, fun k x hx => ?_⟩
          have hx' : cs0.list[k]? = some x := by rw [hcs]; exact hx
          obtain ⟨x', h6, h7⟩ := h5 k x hx'
          have hat := hatx x (List.mem_of_getElem? hx)
          rw [h7.plain hat] at h6
          exact ⟨x, h6, .lit hat⟩
      | k + 1 => simp at hk
    · match k, k' with
      | 0, 0 => exact absurd rfl hne'
      | k + 1, _ => simp at hk
      | 0, k' + 1 => simp at hk'
  have hargs : VRs ρs (.slice (some ⟨0, 0, none⟩) l l :: rest) args' := by
    refine ⟨ha.1, fun i a x hi hx => ?_⟩
    cases i with
    | zero =>
      obtain rfl : Value.slice (some ⟨0, 0, none⟩) l l = a := by simpa using hi
      exact vr_ren (a := nr) rfl (ha.2 0 _ x rfl hx)
    | succ i =>
      have hi' : rest[i]? = some a := by simpa using hi
      have hp := List.all_eq_true.1 hrest a (List.mem_of_getElem? hi')
      have := ha.2 (i + 1) a x (by simpa using hi') hx
      rw [this.plain hp]
      exact .lit hp
  refine (hdet ⟨w, fun _ => none, Bs, fun k h => h.1, [], none⟩ ρs args' w hargs hmem (BelowK.refl _ _)).mono ?_
  rintro e1 w' ⟨v', ρ', rfl, hext, hvv, hbel, hm'⟩
  refine ⟨v', ρ, rfl, Ext.refl ρ, by rw [hvv.plain hv]; exact .lit hv, ⟨hbel.os, hbel.tape, hbel.output, hbel.size, fun k hk => hbel.block k ⟨hB k hk, fun p hp hnp => ?_⟩⟩, ?_⟩
  · rintro rfl
    exact ((hm.ok nr _ hb).real rfl hp hnp).2 rfl hk
  obtain ⟨kd, cs1⟩ := b'
  simp only at hkind hlist
  subst hkind
  have haty : ∀ x ∈ ys.map (Value.int .i64), plainV x = true := fun x hx => by
    obtain ⟨y, _, rfl⟩ := List.mem_map.1 hx
    rfl
  have h0 : (∃ p, ρ' 0 = some p ∧ p.2.1 = 1 ∧ p.2.2 = some 0) ∨ ∃ g cap, ρ' 0 = some (g, 0, some cap) ∧ ¬ Bs g ∧ ∃ cs', w'.heap[g]? = some (.cells cs' e (0, 0)) ∧ cs'.size = cap * sz ∧ Cells ρ' cs1.list cs' := hm'.ok 0 _ hmem'
  rcases hblk with ⟨p, h1, h2, h3⟩ | ⟨g, cap, h1, h2, cs', h3, h4, h5⟩
  · have hkeep : MemOk ρ0 ρ B s.blk w' := hm.keep ⟨hbel.os, hbel.tape, hbel.output, hbel.size, fun k hk => hbel.block k ⟨hk, fun q hq hnq => by
      rw [h1] at hq
      obtain rfl : p = q := by simpa using hq
      exact absurd ⟨h2, 0, h3⟩ hnq⟩⟩
    exact hkeep.setNil hb h1 ⟨h2, 0, h3⟩ (.inl ⟨p, h1, h2, h3⟩)
  · have hρ1 : ρ' 0 = some (g, 0, some cap) := hext 0 _ h1
    refine hm.set hb rfl h1 (okPl.not (.inl rfl)) hbel.size (fun k hk hkg => hbel.block k ⟨hk, fun p hp hnp => ?_⟩) (.inr ⟨g, cap, h1, h2, ?_⟩)
    · rw [h1] at hp
      obtain rfl : (g, 0, some cap) = p := by simpa using hp
      exact hkg
    · rcases h0 with ⟨p, k1, k2, k3⟩ | ⟨g', cap', k1, _, cs2, k2, k3, k4⟩
      · rw [hρ1] at k1
        obtain rfl : (g, 0, some cap) = p := by simpa using k1
        simp at k2
      · rw [hρ1] at k1
        obtain ⟨rfl, rfl⟩ : g = g' ∧ cap = cap' := by simpa using k1
        refine ⟨cs2, k2, k3, fun j x hx => ?_⟩
        have hx' : cs1.list[j]? = some x := by rw [hlist]; exact hx
        obtain ⟨x', h6, h7⟩ := k4 j x hx'
        have hat := haty x (List.mem_of_getElem? hx)
        rw [h7.plain hat] at h6
        exact ⟨x, h6, .lit hat⟩
/-- What a function makes of a row: its type, the size of an element, the length, the ints, further arguments; its answer, the new ints, conditions. -/
abbrev WSpec := Nat → Nat → Nat → List Int → List Value → Option (Value × List Int × List Prop)
def wrG (sp : WSpec) (args : List Value) : Rd Eff :=
  match args with
  | .slice (some ⟨nr, 0, none⟩) l _ :: rest => .blk nr fun b => match b with
    | some ⟨.row e sz, cs⟩ => (match rest.all plainV, intsC cs with
      | true, some xs => (match sp e sz l xs rest with
        | some (v, ys, C) => .ret ⟨v, [(nr, ⟨.row e sz, .ints ys⟩)], C⟩
        | none => .fail)
      | _, _ => .fail)
    | _ => .fail
  | _ => .fail
def WSpecOk (P : Program) (f : FuncId) (sp : WSpec) : Prop := ∀ e sz l xs rest v ys C, sp e sz l xs rest = some (v, ys, C) → AllP C → ∃ (E : Env) (m n : Nat), EnvOk P E ∧ plainV v = true ∧
  (bodyM P E (runM P E m n) m f (.slice (some ⟨0, 0, none⟩) l l :: rest) [some ⟨.row e sz, .ints xs⟩] .fin).ok (fun _ _ => False) (fun u mem' => u = v ∧ ∃ b', mem'.getD 0 none = some b' ∧ b'.kind = .row e sz ∧ b'.cs.list = ys.map (Value.int .i64))
/-- One function more is run as an operation on names. -/
def consJ (f : FuncId) (g : Nat → List Value → Rd Eff) (J : TabJ) : TabJ := ⟨fun h => Nat.beq f h || J.on h, fun h name args => match Nat.beq f h with
  | true => g name args
  | false => J.g h name args, J.row⟩
theorem consJ_wr {P : Program} (hmx : P.follows .mixedOrders = true) {J : TabJ} (hJ : GSound P J.g) {f : FuncId} {sp : WSpec} (hent : enters P f) (hsp : WSpecOk P f sp) : GSound P (consJ f (fun _ => wrG sp) J).g := by
  intro h name args s eff hr hn
  simp only [consJ] at hr
  split at hr
  rotate_left
  · exact hJ h name args s eff hr hn
  rename_i heq
  obtain rfl := Nat.eq_of_beq_eq_true heq
  refine ⟨hent, fun B ρ0 ρ w args' ha hm hB hcond => ?_⟩
  unfold wrG at hr
  split at hr
  rotate_left
  · simp [Rd.run] at hr
  rename_i nr l c rest
  simp only [Rd.run] at hr
  split at hr
  rotate_left
  · simp [Rd.run] at hr
  rename_i e sz cs hb
  split at hr
  rotate_left
  · simp [Rd.run] at hr
  rename_i xs hall hxs
  split at hr
  rotate_left
  · simp [Rd.run] at hr
  rename_i v ys C hs
  obtain rfl : (⟨v, [(nr, ⟨.row e sz, .ints ys⟩)], C⟩ : Eff) = eff := by simpa [Rd.run] using hr
  obtain ⟨E, m, n, hE, hv, ht⟩ := hsp _ _ _ _ _ _ _ _ hs hcond
  rw [upd_one]
  exact (lift_row hE hmx hv hall ht hb (intsC_spec hxs)).2 B ρ0 ρ w args' ha hm hB
def withT (E : Env) (J : TabJ) : Env := ⟨E.B, E.R, E.L, J, E.G⟩
theorem withT_ok {P : Program} {E : Env} (hE : EnvOk P E) {J : TabJ} (hJ : GSound P J.g) : EnvOk P (withT E J) := ⟨hE.B, hE.R, hE.L, hJ, hE.G⟩
end Go.Proofs.Ytnlciknmpjikgaa
