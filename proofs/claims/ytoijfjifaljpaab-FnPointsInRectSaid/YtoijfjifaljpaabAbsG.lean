/-
  The small machine beside the model's: all operations together, results, and what a run of it says of a call. Written by an AI agent.
-/
import Derived.Test.YtoijfjifaljpaabAbsR
import Derived.Laws.StructEq
import Derived.Laws.Tables
namespace Go.Proofs.Ytoijfjifaljpaab
open Go.RowKit

/-- A field of a struct's cells. -/
def partV (P : Program) (t : TypeId) (xs : Array Value) (off : Nat) : Option Value :=
  match isAggT P t with
  | some true => (match sizeT P t with
    | some k => some (.agg (xs.extract off (off + k)))
    | none => none)
  | some false => xs[off]?
  | none => none
theorem isAgg_run {P : Program} {t : TypeId} {b : Bool} (hb : isAggT P t = some b) (w : World) : (isAgg t).run P w = .ok b w := by
  unfold isAggT at hb
  unfold isAgg underlying
  split at hb <;> rename_i hu <;> simp [go_sem, hu] at hb ⊢
  · exact hb
  · exact hb
  · exact hb
theorem partV_run {P : Program} {t : TypeId} {xs : Array Value} {off : Nat} {v : Value} (h : partV P t xs off = some v) (w : World) : (part t xs off).run P w = .ok v w := by
  unfold partV at h
  unfold part
  split at h
  · rename_i ha
    split at h
    · rename_i k hk
      obtain rfl : Value.agg (xs.extract off (off + k)) = v := by simpa using h
      unfold sizeT at hk
      rcases hi : P.info? t with _ | i
      · simp [hi] at hk
      simp only [hi, Option.map_some, Option.some.injEq] at hk
      simp [go_sem, isAgg_run ha, sizeOf, typeInfo, hi, hk]
    · cases h
  · rename_i ha
    simp [go_sem, isAgg_run ha, h]
  · cases h
def eqFs (eq : TypeId → Value → Value → Option Bool) (P : Program) (xs ys : Array Value) : List Field → Option Bool
  | [] => some true
  | f :: fs => match f.name == "_" with
    | true => eqFs eq P xs ys fs
    | false => match partV P f.type xs f.offset, partV P f.type ys f.offset with
      | some a, some b => (match eq f.type a b, eqFs eq P xs ys fs with
        | some r, some r' => some (r && r')
        | _, _ => none)
      | _, _ => none
/-- Are two plain values equal? -/
def eqV (P : Program) : Nat → TypeId → Value → Value → Option Bool
  | 0, _, _, _ => none
  | d + 1, t, x, y => match P.underlying t, x, y with
    | some .bool, .bool a, .bool b => some (a == b)
    | some (.int _), .int k a, .int k' b => if k = k' then some (a == b) else none
    | some .string, .string a, .string b => some (a.toList == b.toList)
    | some (.struct fs), .agg xs, .agg ys => (match P.stoodInHeld t with
      | true => none
      | false => eqFs (eqV P d) P xs ys fs.toList)
    | _, _, _ => none
theorem eqV_run {P : Program} : ∀ (n : Nat) (t : TypeId) (x y : Value) (r : Bool), eqV P n t x y = some r → ∀ d, n ≤ d → ∀ w, (Op.equalIn d t x y).run P w = .ok r w
  | 0, _, _, _, _, h, _, _, _ => by simp [eqV] at h
  | n + 1, t, x, y, r, h, d, hd, w => by
    obtain ⟨d, rfl⟩ : ∃ d', d = d' + 1 := ⟨d - 1, by omega⟩
    simp only [eqV] at h
    split at h
    · rename_i hu
      obtain rfl : _ = r := by simpa using h
      exact run_equalIn_bool' w d t _ _ hu
    · rename_i hu
      split at h
      · rename_i hk
        subst hk
        obtain rfl : _ = r := by simpa using h
        exact run_equalIn_int w d t _ _ _ _ hu
      · cases h
    · rename_i hu
      obtain rfl : _ = r := by simpa using h
      exact run_equalIn_string w d t _ _ hu
    · rename_i fs xs ys hu
      split at h
      · cases h
      rename_i hp
      have hf : P.fieldsOf t = fs := by simp [Program.fieldsOf, hu]
      rw [run_equalIn_struct w d t xs ys (by rw [hf]; exact hu) hp, hf]
      have key : ∀ (l : List Field) (r : Bool), eqFs (eqV P n) P xs ys l = some r → ∀ w, (Op.eqFields d xs ys l).run P w = .ok r w := by
        intro l
        induction l with
        | nil =>
          intro r h w
          obtain rfl : true = r := by simpa [eqFs] using h
          rfl
        | cons f l ih =>
          intro r h w
          simp only [eqFs] at h
          split at h
          · rename_i hn
            have hn' : f.name = "_" := by simpa using hn
            simp only [Op.eqFields, ne_eq, hn', not_true_eq_false, if_false]
            exact ih r h w
          · rename_i hn
            have hn' : ¬ f.name = "_" := by simpa using hn
            split at h
            rotate_left
            · cases h
            rename_i a b ha hb
            split at h
            rotate_left
            · cases h
            rename_i q q' hq hq'
            obtain rfl : (q && q') = r := by simpa using h
            simp only [Op.eqFields, ne_eq, hn', not_false_eq_true, if_true, Sem.run_bind, partV_run ha, partV_run hb, Result.andThen_ok, eqV_run n f.type a b q hq d (by omega)]
            cases q
            · rfl
            · simpa using ih q' hq' w
      exact key fs.toList r h w
    · cases h
def negB (neg b : Bool) : Bool :=
  match neg with
  | true => !b
  | false => b
def opB (neg : Bool) : BinOp :=
  match neg with
  | true => .neq
  | false => .eql
def eqOp (P : Program) (o : Oper) (t : TypeId) (x y : Operand) (neg : Bool) : Rd Eff := (rdv x).bind fun vx => (rdv y).bind fun vy => match vx, vy with
  | .agg xs, .agg ys => (match (xs.toList.all atomV && ys.toList.all atomV && !(P.eqGuardType P.depth t)), eqV P 6 t (.agg xs) (.agg ys) with
    | true, some b => .ret ⟨.bool (negB neg b), [], []⟩
    | _, _ => .fail)
  | _, _ => plainOp P o
theorem eqOp_sound {P : Program} {name : Nat} {o : Oper} {t u : TypeId} {x y : Operand} {neg : Bool} (ho : o.op = .binOp (opB neg) t x y u) {s : FS} {eff : Eff} {w0 : Start} {a : Act} {w : World} {Q : Exit → Act → World → Prop} {K : Act → World → Prop}
    (hr : (eqOp P o t x y neg).run s = some eff) (hn : s.blk name = none) (hc : Conc w0 s a w) (hcond : eff.cond) (hK : ∀ a' w', Conc w0 (s.upd o.dst eff) a' w' → K a' w') : owp P w0 o a w K Q := by
  obtain ⟨ρ, ht, hm⟩ := hc.2.2.2
  obtain ⟨vx, h1, h2⟩ := bind_some hr
  obtain ⟨vy, h3, h4⟩ := bind_some h2
  split at h4
  · rename_i xs ys
    split at h4
    rotate_left
    · simp [Rd.run] at h4
    rename_i b hpl hb
    obtain rfl : (⟨.bool (negB neg b), [], []⟩ : Eff) = eff := by simpa [Rd.run] using h4
    simp only [Bool.and_eq_true, Bool.not_eq_true'] at hpl
    obtain ⟨⟨p1, p2⟩, p3⟩ := hpl
    have e1 : a.eval x = .agg xs := (rdv_ok h1 ht).plain p1
    have e2 : a.eval y = .agg ys := (rdv_ok h3 ht).plain p2
    refine value_wp (v := .bool (negB neg b)) (w' := w) ?_ (hK _ _ (quiet_conc hc ht hm (.lit rfl)))
    cases neg with
    | true => simp only [execOp, ho, opB, negB, e1, e2, Sem.run_bind, run_eqGuard_agg w .neq t x y xs ys p3, Result.andThen_ok, run_neq_struct, eqV_run 6 t _ _ b hb 10000 (by omega), Sem.run_pure]
    | false => simp only [execOp, ho, opB, negB, e1, e2, Sem.run_bind, run_eqGuard_agg w .eql t x y xs ys p3, Result.andThen_ok, run_eql_struct, eqV_run 6 t _ _ b hb 10000 (by omega), Sem.run_pure]
  · exact plainOp_sound P name o s eff w0 a w Q K h4 hn hc hcond hK

/-- Division, by a number of which it is asked that it is not zero. -/
def opD : Bool → BinOp
  | false => .quo
  | true => .rem
def quoV (rem : Bool) (k : IntKind) (a b : Int) : Value := match rem with
  | false => .int k (k.wrap (a.tdiv b))
  | true => .int k (a.tmod b)
def divOp (P : Program) (o : Oper) (x y : Operand) (rem : Bool) : Rd Eff := (rdv x).bind fun vx => (rdv y).bind fun vy => match vx, vy with
  | .int k a, .int k' b => (match decide (k = k') with
    | true => .ret ⟨quoV rem k a b, [], [b ≠ 0]⟩
    | false => .fail)
  | _, _ => plainOp P o
theorem divOp_sound {P : Program} {name : Nat} {o : Oper} {t u : TypeId} {x y : Operand} {rem : Bool} (ho : o.op = .binOp (opD rem) t x y u) {s : FS} {eff : Eff} {w0 : Start} {a : Act} {w : World} {Q : Exit → Act → World → Prop} {K : Act → World → Prop}
    (hr : (divOp P o x y rem).run s = some eff) (hn : s.blk name = none) (hc : Conc w0 s a w) (hcond : eff.cond) (hK : ∀ a' w', Conc w0 (s.upd o.dst eff) a' w' → K a' w') : owp P w0 o a w K Q := by
  obtain ⟨ρ, ht, hm⟩ := hc.2.2.2
  obtain ⟨vx, h1, h2⟩ := bind_some hr
  obtain ⟨vy, h3, h4⟩ := bind_some h2
  split at h4
  · rename_i k i k' j
    split at h4
    rotate_left
    · simp [Rd.run] at h4
    rename_i hk
    obtain rfl := of_decide_eq_true hk
    obtain rfl : (⟨quoV rem k i j, [], [j ≠ 0]⟩ : Eff) = eff := by simpa [Rd.run] using h4
    have hj : j ≠ 0 := hcond.1
    have e1 : a.eval x = .int k i := (rdv_ok h1 ht).plain rfl
    have e2 : a.eval y = .int k j := (rdv_ok h3 ht).plain rfl
    cases rem with
    | true =>
      refine value_wp (v := quoV true k i j) (w' := w) ?_ (hK _ _ (quiet_conc hc ht hm (.lit rfl)))
      simp [execOp, ho, opD, e1, e2, eqGuard, binOp, Op.intDiv, hj, quoV, Sem.run_pure]
    | false =>
      refine value_wp (v := quoV false k i j) (w' := w) ?_ (hK _ _ (quiet_conc hc ht hm (.lit rfl)))
      simp [execOp, ho, opD, e1, e2, eqGuard, binOp, Op.intDiv, hj, quoV, Sem.run_pure]
  · exact plainOp_sound P name o s eff w0 a w Q K h4 hn hc hcond hK

/-- An operation. -/

def isPtrT (P : Program) (t : TypeId) : Bool := match P.underlying t with
  | some (.pointer _) => true
  | _ => false
/-- A struct's parts, some of them with places in memory. -/
def zeroAtoms (P : Program) (t : TypeId) : Bool := match zeroOf P t with
  | some z => z.cells.toList.all atomV
  | none => false
def buildOp (P : Program) (o : Oper) (t : TypeId) (parts : Array (Nat × Operand)) : Rd Eff := (rdParts parts.toList).bind fun l => match l.all fun q => plainV q.2 with
  | true => plainOp P o
  | false => (match zeroAtoms P t, P.built t l with
    | true, some r => .ret ⟨.agg r, [], []⟩
    | _, _ => .fail)
theorem built_rel {P : Program} {ρ : Nat → Option Pl} {t : TypeId} {l l' : List (Nat × Value)} (hl : l.length = l'.length) (h : ∀ (i : Nat) p p', l[i]? = some p → l'[i]? = some p' → p.1 = p'.1 ∧ VR ρ p.2 p'.2 ∧ isTop p.2 = false) (hz : zeroAtoms P t = true) {r : Array Value} (hr : P.built t l = some r) :
    ∃ r', P.built t l' = some r' ∧ CellsA ρ r r' := by
  unfold Program.built at hr ⊢
  unfold zeroAtoms zeroOf at hz
  rcases hit : P.info? t with _ | it
  · simp [hit] at hr
  rcases hu : P.underlying t with _ | d
  · simp [hit, hu] at hr
  rw [hit] at hz
  simp only [Option.bind_some] at hz
  cases d <;> try (simp [hit, hu] at hr; done)
  all_goals
    simp only [hit, hu] at hr ⊢
    split at hr
    · rename_i z x hz1 hx
      rw [hz1] at hz
      simp only at hz
      obtain ⟨r', h1, h2⟩ := fill_rel l l' hl h _ _ (cellsA_same (List.all_eq_true.1 hz)) r hr
      exact ⟨r', h1, h2⟩
    · cases hr
theorem buildOp_sound {P : Program} {o : Oper} {t : TypeId} {parts : Array (Nat × Operand)} (ho : o.op = .build t parts) {name : Nat} {s : FS} {eff : Eff} {w0 : Start} {a : Act} {w : World} {Q : Exit → Act → World → Prop} {K : Act → World → Prop}
    (hr : (buildOp P o t parts).run s = some eff) (hb : s.blk name = none) (hc : Conc w0 s a w) (hcond : eff.cond) (hK : ∀ a' w', Conc w0 (s.upd o.dst eff) a' w' → K a' w') : owp P w0 o a w K Q := by
  obtain ⟨ρ, ht, hm⟩ := hc.2.2.2
  obtain ⟨l, h1, h2⟩ := bind_some hr
  split at h2
  · exact plainOp_sound P name o s eff w0 a w Q K h2 hb hc hcond hK
  split at h2
  rotate_left
  · simp [Rd.run] at h2
  rename_i r hz hbt
  obtain rfl : (⟨.agg r, [], []⟩ : Eff) = eff := by simpa [Rd.run] using h2
  obtain ⟨g1, g2⟩ := rdParts_ok ht _ _ h1
  obtain ⟨r', h3, h4⟩ := built_rel g1 g2 hz hbt
  refine value_wp (v := .agg r') (w' := w) ?_ (hK _ _ (quiet_conc hc ht hm (.agg h4.1 h4.2)))
  have hparts : (parts.map fun (i, x) => (i, a.eval x)).toList = parts.toList.map fun p => (p.1, a.eval p.2) := by simp
  simp only [execOp, ho, Sem.run_bind, run_build w t _ r' (by rw [hparts]; exact h3), Result.andThen_ok]
  rfl
/-- A pointer that is not nil. -/
def nilOp (P : Program) (o : Oper) (x : Operand) : Rd Eff := (rdv x).bind fun v => match v with
  | .pointer (some ⟨n, f, none⟩) => .ret ⟨.pointer (some ⟨n, f, none⟩), [], []⟩
  | _ => plainOp P o
theorem nilOp_sound {P : Program} {o : Oper} {x : Operand} (ho : o.op = .nilCheck x) {name : Nat} {s : FS} {eff : Eff} {w0 : Start} {a : Act} {w : World} {Q : Exit → Act → World → Prop} {K : Act → World → Prop}
    (hr : (nilOp P o x).run s = some eff) (hb : s.blk name = none) (hc : Conc w0 s a w) (hcond : eff.cond) (hK : ∀ a' w', Conc w0 (s.upd o.dst eff) a' w' → K a' w') : owp P w0 o a w K Q := by
  obtain ⟨ρ, ht, hm⟩ := hc.2.2.2
  obtain ⟨v, h1, h2⟩ := bind_some hr
  split at h2
  rotate_left
  · exact plainOp_sound P name o s eff w0 a w Q K h2 hb hc hcond hK
  rename_i n f
  obtain rfl : (⟨.pointer (some ⟨n, f, none⟩), [], []⟩ : Eff) = eff := by simpa [Rd.run] using h2
  have hv := rdv_ok h1 ht
  obtain ⟨g, f', cp, h3, hq, h8⟩ := hv.ptr_inv
  refine value_wp (v := a.eval x) (w' := w) ?_ (hK _ _ (quiet_conc hc ht hm hv))
  simp only [execOp, ho, h8]
  rfl
def nthV : List Value → Nat → Option Value
  | [], _ => none
  | v :: _, 0 => some v
  | _ :: r, i + 1 => nthV r i
theorem nthV_get : ∀ {l : List Value} {i : Nat} {u : Value}, nthV l i = some u → l[i]? = some u
  | [], _, _, h => by cases h
  | v :: r, 0, u, h => by simpa [nthV] using h
  | v :: r, i + 1, u, h => by simpa using nthV_get (l := r) h
/-- A part of several results. -/
def extractOp (x : Operand) (i : Nat) : Rd Eff := (rdv x).bind fun v => match v with
  | .tuple ⟨l⟩ => (match nthV l i with
    | some u => .ret ⟨u, [], []⟩
    | none => .fail)
  | _ => .fail
theorem extractOp_sound {P : Program} {o : Oper} {x : Operand} {i : Nat} (ho : o.op = .extract x i) {s : FS} {eff : Eff} {w0 : Start} {a : Act} {w : World} {Q : Exit → Act → World → Prop} {K : Act → World → Prop}
    (hr : (extractOp x i).run s = some eff) (hc : Conc w0 s a w) (hK : ∀ a' w', Conc w0 (s.upd o.dst eff) a' w' → K a' w') : owp P w0 o a w K Q := by
  obtain ⟨ρ, ht, hm⟩ := hc.2.2.2
  obtain ⟨v, h1, h2⟩ := bind_some hr
  split at h2
  rotate_left
  · simp [Rd.run] at h2
  rename_i l
  split at h2
  rotate_left
  · simp [Rd.run] at h2
  rename_i u hu
  obtain rfl : (⟨u, [], []⟩ : Eff) = eff := by simpa [Rd.run] using h2
  obtain ⟨cs', h3, h4, h5⟩ := (rdv_ok h1 ht).tuple_inv
  have hu := nthV_get hu
  have hi : i < cs'.size := by
    have := (List.getElem?_eq_some_iff.1 hu).1
    simp at h4
    omega
  refine value_wp (v := cs'[i]) (w' := w) ?_ (hK _ _ (quiet_conc hc ht hm (h5 i _ _ (by simpa using hu) (by simp [hi]))))
  simp only [execOp, ho, h3, Instr.extract, Array.getElem?_eq_getElem hi]
  rfl
def aop (P : Program) (G : Ctx) (name : Nat) (o : Oper) : Rd Eff :=
  match o.op with
  | .nilCheck x => nilOp P o x
  | .build t parts => buildOp P o t parts
  | .move x => moveOp x
  | .assign x => moveOp x
  | .pick c x y => pickOp c x y
  | .alloc t => allocOp P name t
  | .box _ x => boxOp name x
  | .load t x => loadOp P t x
  | .store t x y => storeOp P t x y
  | .fieldAddr t x f => fieldOp P t x f
  | .indexAddr t x i => indexOp P t x i
  | .makeFunc fn first captured => makeFuncOp fn first captured
  | .buildSlice t len parts => buildSliceOp P name t len parts
  | .call { callee := .value f, args := args, argTypes := _ } => callOp G name f args
  | .call { callee := .builtin .len, args := ⟨[x]⟩, argTypes := ⟨[t]⟩ } => lenOp P t x
  | .call { callee := .builtin .append, args := ⟨[x, y]⟩, argTypes := ⟨[t, t']⟩ } => (match decide (t = t') with
    | true => appendAny P name t x y
    | false => .fail)
  | .slice t x none none none => (match isPtrT P t with
    | true => arrOp P t x
    | false => cutOp P t x none none)
  | .slice t x lo hi none => cutOp P t x lo hi
  | .makeSlice t x y => makeOp P name t x y
  | .binOp .eql t x y _ => eqOp P o t x y false
  | .binOp .neq t x y _ => eqOp P o t x y true
  | .binOp .quo _ x y _ => divOp P o x y false
  | .binOp .rem _ x y _ => divOp P o x y true
  | .extract x i => extractOp x i
  | _ => plainOp P o
theorem aop_sound {P : Program} {G : Ctx} (hG : GSound P G) : Sound P (aop P G) := by
  intro name o s eff w0 a w Q K hr hb hc hcond hK
  unfold aop at hr
  split at hr
  · rename_i x ho
    exact nilOp_sound ho hr hb hc hcond hK
  · rename_i t parts ho
    exact buildOp_sound ho hr hb hc hcond hK
  · rename_i x ho
    exact moveOp_sound (x := x) (fun ρ => by simp only [execOp, ho]) hr hc hK
  · rename_i x ho
    exact moveOp_sound (x := x) (fun ρ => by simp only [execOp, ho]) hr hc hK
  · rename_i c x y ho
    exact pickOp_sound ho hr hc hK
  · rename_i t ho
    exact allocOp_sound ho hr hb hc hK
  · rename_i t x ho
    exact boxOp_sound ho hr hb hc hK
  · rename_i t x ho
    exact loadOp_sound ho hr hc hcond hK
  · rename_i t x y ho
    exact storeOp_sound ho hr hc hcond hK
  · rename_i t x f ho
    exact fieldOp_sound ho hr hc hK
  · rename_i t x i ho
    exact indexOp_sound ho hr hc hcond hK
  · rename_i fn first captured ho
    exact makeFuncOp_sound ho hr hc hK
  · rename_i t len parts ho
    exact buildSliceOp_sound ho hr hb hc hK
  · rename_i f args ts ho
    exact callOp_sound hG ho hr hb hc hcond hK
  · rename_i x t ho
    exact lenOp_sound ho hr hc hK
  · rename_i x y t t' ho
    split at hr
    · rename_i ht
      obtain rfl := of_decide_eq_true ht
      exact appendAny_sound ho hr hb hc hcond hK
    · simp [Rd.run] at hr
  · rename_i t x ho
    split at hr
    · exact arrOp_sound ho hr hc hK
    · exact cutOp_sound ho hr hc hcond hK
  · rename_i t x lo hi _ ho
    exact cutOp_sound ho hr hc hcond hK
  · rename_i t x y ho
    exact makeOp_sound ho hr hb hc hcond hK
  · rename_i t x y u ho
    exact eqOp_sound (neg := false) ho hr hb hc hcond hK
  · rename_i t x y u ho
    exact eqOp_sound (neg := true) ho hr hb hc hcond hK
  · rename_i t x y u ho
    exact divOp_sound (rem := false) ho hr hb hc hcond hK
  · rename_i t x y u ho
    exact divOp_sound (rem := true) ho hr hb hc hcond hK
  · rename_i x i ho
    exact extractOp_sound ho hr hc hK
  · exact plainOp_sound P name o s eff w0 a w Q K hr hb hc hcond hK

/-- One result. -/
def resOne (P : Program) (s : St) : ResultVar → Option Value
  | .tmp t => some (s.tmps.getD t undef)
  | .cell t ty => match s.tmps.getD t undef with
    | .pointer (some ⟨n, o, none⟩) => (match s.mem.getD n none with
      | some b => (match b.live with
        | true => loadV P ty b.cells o
        | false => none)
      | none => none)
    | _ => none
/-- What a function hands back. -/
def resV (P : Program) (s : St) : List ResultVar → Option Value
  | [] => some (.tuple #[])
  | [r] => resOne P s r
  | [r1, r2] => (match resOne P s r1, resOne P s r2 with
    | some v1, some v2 => some (.tuple #[v1, v2])
    | _, _ => none)
  | [r1, r2, r3] => (match resOne P s r1, resOne P s r2, resOne P s r3 with
    | some v1, some v2, some v3 => some (.tuple #[v1, v2, v3])
    | _, _, _ => none)
  | _ => none
def oneRes (tmps : Array Value) : ResultVar → Sem Value
  | .tmp t => pure (tmps.getD t undef)
  | .cell a t => do loadVar t (← asAddr (tmps.getD a undef))
theorem resOne_run {P : Program} {s : St} {r : ResultVar} {v : Value} (h : resOne P s r = some v) {ρ0 ρ : Nat → Option Pl} {B : Nat → Prop} {a : Act} {w : World} (ht : ∀ t, VR ρ (s.fs.tmp t) (a.tmps.getD t undef)) (hm : MemOk ρ0 ρ B s.fs.blk w) :
    ∃ v', (oneRes a.tmps r).run P w = .ok v' w ∧ VR ρ v v' := by
  cases r with
  | tmp t =>
    obtain rfl : s.tmps.getD t undef = v := by simpa [resOne] using h
    exact ⟨_, rfl, ht t⟩
  | cell t ty =>
    simp only [resOne] at h
    split at h
    rotate_left
    · cases h
    rename_i n o hp
    split at h
    rotate_left
    · cases h
    rename_i b hb
    split at h
    rotate_left
    · cases h
    rename_i hl
    have hv := ht t
    rw [show s.fs.tmp t = _ from hp] at hv
    obtain ⟨g, f, cp, h3, hq, h8⟩ := hv.ptr_inv
    have h4 := (live_cell (hm.ok n b hb) hl h3 hq).2
    obtain ⟨u', h5, h6⟩ := loadV_run h h4
    refine ⟨u', ?_, h6⟩
    simp only [oneRes, h8, asAddr, Sem.run_bind, Sem.run_pure, Result.andThen_ok, h5]
theorem results_eq (fn : Func) (tmps : Array Value) : results fn tmps = fn.results.mapM (oneRes tmps) >>= fun vs => pure (if h : vs.size = 1 then vs[0] else .tuple vs) := rfl
theorem resV_run {P : Program} {s : St} {fn : Func} {l : List ResultVar} (hl : fn.results = l.toArray) {v : Value} (h : resV P s l = some v) {ρ0 ρ : Nat → Option Pl} {B : Nat → Prop} {a : Act} {w : World} (ht : ∀ t, VR ρ (s.fs.tmp t) (a.tmps.getD t undef)) (hm : MemOk ρ0 ρ B s.fs.blk w) :
    ∃ v', (results fn a.tmps).run P w = .ok v' w ∧ VR ρ v v' := by
  rw [results_eq, hl]
  unfold resV at h
  split at h
  · obtain rfl : Value.tuple #[] = v := by simpa using h
    exact ⟨.tuple #[], by simp, .lit rfl⟩
  · rename_i r
    obtain ⟨v', h1, h2⟩ := resOne_run h ht hm
    exact ⟨v', by simp [h1], h2⟩
  · rename_i r1 r2
    split at h
    rotate_left
    · cases h
    rename_i v1 v2 e1 e2
    obtain rfl : Value.tuple #[v1, v2] = v := by simpa using h
    obtain ⟨u1, h1, k1⟩ := resOne_run e1 ht hm
    obtain ⟨u2, h2, k2⟩ := resOne_run e2 ht hm
    refine ⟨.tuple #[u1, u2], by simp [h1, h2], .tuple rfl fun i x x' hx hx' => ?_⟩
    match i, hx, hx' with
    | 0, hx, hx' =>
      obtain rfl : v1 = x := by simpa using hx
      obtain rfl : u1 = x' := by simpa using hx'
      exact k1
    | 1, hx, hx' =>
      obtain rfl : v2 = x := by simpa using hx
      obtain rfl : u2 = x' := by simpa using hx'
      exact k2
    | i + 2, hx, hx' => simp at hx
  · rename_i r1 r2 r3
    split at h
    rotate_left
    · cases h
    rename_i v1 v2 v3 e1 e2 e3
    obtain rfl : Value.tuple #[v1, v2, v3] = v := by simpa using h
    obtain ⟨u1, h1, k1⟩ := resOne_run e1 ht hm
    obtain ⟨u2, h2, k2⟩ := resOne_run e2 ht hm
    obtain ⟨u3, h3, k3⟩ := resOne_run e3 ht hm
    refine ⟨.tuple #[u1, u2, u3], by simp [h1, h2, h3], .tuple rfl fun i x x' hx hx' => ?_⟩
    match i, hx, hx' with
    | 0, hx, hx' =>
      obtain rfl : v1 = x := by simpa using hx
      obtain rfl : u1 = x' := by simpa using hx'
      exact k1
    | 1, hx, hx' =>
      obtain rfl : v2 = x := by simpa using hx
      obtain rfl : u2 = x' := by simpa using hx'
      exact k2
    | 2, hx, hx' =>
      obtain rfl : v3 = x := by simpa using hx
      obtain rfl : u3 = x' := by simpa using hx'
      exact k3
    | i + 3, hx, hx' => simp at hx
  · cases h
/-- Operations for which a name is laid aside in a drawn region. -/
def alAll (o : Oper) : Bool := match o.op with
  | .alloc _ | .box _ _ | .buildSlice _ _ _ | .makeSlice _ _ _ | .call { callee := .builtin .append, args := _, argTypes := _ } | .call { callee := .value _, args := _, argTypes := _ } => true
  | _ => false
/-- The operations that may make memory of their own. -/
def alStd (o : Oper) : Bool := match o.op with
  | .alloc _ | .box _ _ | .buildSlice _ _ _ | .makeSlice _ _ _ | .call { callee := .builtin .append, args := _, argTypes := _ } => true
  | _ => false
end Go.Proofs.Ytoijfjifaljpaab
