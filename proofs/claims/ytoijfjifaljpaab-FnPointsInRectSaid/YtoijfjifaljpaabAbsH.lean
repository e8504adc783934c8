/-
  The small machine beside the model's: trees of ways, calls of plain functions run in place, and what a run says of a call. Written by an AI agent.
-/
import Derived.Test.YtoijfjifaljpaabAbsJ
namespace Go.Proofs.Ytoijfjifaljpaab
open Go.RowKit

/-- How a piece of code ends. -/
inductive Ex where
  | normal
  | exit (id : Nat)
  | ret
/-- What a run may come to. -/
inductive Tree where
  | leaf (e : Ex) (s : St)
  | fin (v : Value) (m : List (Option Blk))
  | need (p : Prop) (t : Tree)
  | bad
/-- One way or the other. -/
def brT (b : Bool) (x y : Tree) : Tree :=
  match b with
  | true => x
  | false => y
def needs : List Prop → Tree → Tree
  | [], t => t
  | p :: r, t => .need p (needs r t)
/-- All that a run may come to is well. -/
def Tree.ok (F : Ex → St → Prop) (H : Value → List (Option Blk) → Prop) : Tree → Prop
  | .leaf e s => F e s
  | .fin v m => H v m
  | .need p t => p ∧ t.ok F H
  | .bad => False
theorem needs_ok {F : Ex → St → Prop} {H : Value → List (Option Blk) → Prop} {t : Tree} : ∀ {C : List Prop}, (needs C t).ok F H → AllP C ∧ t.ok F H
  | [], h => ⟨trivial, h⟩
  | _ :: _, h => ⟨⟨h.1, (needs_ok h.2).1⟩, (needs_ok h.2).2⟩
theorem brT_ok {F : Ex → St → Prop} {H : Value → List (Option Blk) → Prop} {b : Bool} {x y : Tree} : (brT b x y).ok F H ↔ (b = true → x.ok F H) ∧ (b = false → y.ok F H) := by
  cases b <;> simp [brT]

/-- An argument laid open: a plain value, or a slice of l elements over known cells in which no address lies. -/
inductive DArg where
  | v (x : Value)
  | row (l : Nat) (cs : Cs)
def allAtoms : Cs → Bool
  | .vals l => l.all atomV
  | .ints _ => true
  | .bytes _ => true
theorem allAtoms_spec {c : Cs} (h : allAtoms c = true) : ∀ v ∈ c.list, atomV v = true := by
  cases c with
  | vals l => exact List.all_eq_true.1 h
  | ints xs =>
    intro v hv
    obtain ⟨x, _, rfl⟩ := List.mem_map.1 hv
    rfl
  | bytes xs =>
    intro v hv
    obtain ⟨x, _, rfl⟩ := List.mem_map.1 hv
    rfl
def dropC (cs : Cs) (o : Nat) : Cs :=
  match cs with
  | .vals l => .vals (l.drop o)
  | .ints xs => .ints (xs.drop o)
  | .bytes xs => .bytes (xs.drop o)
theorem dropC_list (cs : Cs) (o : Nat) : (dropC cs o).list = cs.list.drop o := by
  cases cs
  · rfl
  · simp [dropC, Cs.list]
  · simp [dropC, Cs.list]
theorem dropC_atoms {cs : Cs} (h : allAtoms cs = true) (o : Nat) : allAtoms (dropC cs o) = true := by
  cases cs with
  | vals l =>
    simp only [dropC, allAtoms, List.all_eq_true] at h ⊢
    exact fun v hv => h v (List.mem_of_mem_drop hv)
  | ints xs => rfl
  | bytes xs => rfl
def DArg.good : DArg → Prop
  | .v x => plainV x = true
  | .row _ cs => allAtoms cs = true
/-- An argument, read. -/
def rdArg (v : Value) : Rd DArg :=
  match plainV v with
  | true => .ret (.v v)
  | false => match v with
    | .slice (some ⟨n, o, none⟩) l _ => .blk n fun b => match b with
      | some b => (match b.live, allAtoms b.cs with
        | true, true => .ret (.row l (dropC b.cs o))
        | _, _ => .fail)
      | none => .fail
    | _ => .fail
def rdArgs : List Value → Rd (List DArg)
  | [] => .ret []
  | v :: r => (rdArg v).bind fun d => (rdArgs r).bind fun l => .ret (d :: l)
/-- How functions whose arguments can be laid open are called. -/
abbrev CallK := FuncId → List DArg → (Value → Tree) → Tree
def constG (v : Value) : Ctx := fun _ _ args => (rdArgs args).bind fun _ => .ret ⟨v, [], []⟩
/-- A value whose slices lie at a name. -/
def atName1 (name : Nat) : Value → Value
  | .slice (some ⟨_, o, none⟩) l c => .slice (some ⟨name, o, none⟩) l c
  | v => v
def atName (name : Nat) : Value → Value
  | .tuple ⟨l⟩ => .tuple ⟨l.map (atName1 name)⟩
  | v => atName1 name v
/-- A value of a call and the row that it has made. -/
def rowG (v : Value) (b : Blk) : Ctx := fun _ name args => (rdArgs args).bind fun _ => .ret ⟨atName name v, [(name, b)], []⟩
/-- What is known of functions that make a row. -/
abbrev TabR := FuncId → List DArg → Option (Value × Blk × List Prop)
def guardSlot (ops : Array Oper) (o : Oper) : Option Tmp :=
  match o.guard with
  | some (g, _) => (ops[g]?).bind (·.dst)
  | none => none
/-- Does the guard let the operation run? -/
def wantedS (ops : Array Oper) (s : St) (o : Oper) : Bool :=
  match o.guard with
  | none => true
  | some (g, want) => match (ops[g]?).bind (·.dst) with
    | none => false
    | some t => match s.tmps.getD t undef with
      | .bool b => b == want
      | _ => false
def rdCall (f : Operand) (args : List Operand) : Rd (FuncId × List DArg) := (rdv f).bind fun fv => (rdvs args).bind fun l => match fv with
  | .func (.func fid) first cap => (rdArgs (first.toList ++ l ++ cap.toList)).bind fun ds => .ret (fid, ds)
  | _ => .fail
/-- The function and the arguments of a call. -/
def callOf (s : St) (o : Oper) : Option (FuncId × List DArg) :=
  match o.op with
  | .call { callee := .value f, args := args, argTypes := _ } => (rdCall f args.toList).run s.fs
  | _ => none
def rdCallV (f : Operand) (args : List Operand) : Rd (FuncId × List Value) := (rdv f).bind fun fv => (rdvs args).bind fun l => match fv with
  | .func (.func fid) first cap => .ret (fid, first.toList ++ l ++ cap.toList)
  | _ => .fail
def callOfV (s : St) (o : Oper) : Option (FuncId × List Value) :=
  match o.op with
  | .call { callee := .value f, args := args, argTypes := _ } => (rdCallV f args.toList).run s.fs
  | _ => none
/-- Is it the call of a function that is run as an operation? -/
def jCall (J : TabJ) (s : St) (o : Oper) : Bool :=
  match callOfV s o with
  | some (f, _) => J.on f
  | none => false
/-- The operations of a region, parted at each guard; calls of plain values run in place. -/
def stepsT (P : Program) (R : TabR) (J : TabJ) (call : CallK) (ops : Array Oper) (nm : Nat → Nat) (fin : List (Eff × List Nat × List Nat) → St → Tree) : Nat → List Oper → St → List (Eff × List Nat × List Nat) → Tree
  | _, [], s, acc => fin acc s
  | i, o :: rest, s, acc =>
    let one := fun (G : Ctx) (s : St) => match (gop (aop P G) ops (nm i) o).run s.fs with
      | none => Tree.bad
      | some e =>
        match e.wr.all fun p => decide (p.1 < s.mem.length) with
        | false => .bad
        | true => stepsT P R J call ops nm fin (i + 1) rest (s.upd o.dst e) (acc ++ [(e, (gop (aop P G) ops (nm i) o).tmps s.fs, (gop (aop P G) ops (nm i) o).blks s.fs)])
    let step := fun s : St => match wantedS ops s o with
      | false => one failG s
      | true => match jCall J s o with
        | true => one J.g s
        | false => match callOf s o with
          | some (f, args) => (match R f args with
            | some (v, b, C) => needs C (one (rowG v b) s)
            | none => call f args fun v => one (constG v) s)
          | none => one failG s
    match guardSlot ops o with
    | none => step s
    | some t =>
      match s.tmps.getD t undef with
      | .bool b => brT b (step { tmps := s.tmps.set t (.bool true), mem := s.mem }) (step { tmps := s.tmps.set t (.bool false), mem := s.mem })
      | _ => step s
/-- A region run on a state, and what follows. -/
def regionT (P : Program) (R : TabR) (J : TabJ) (call : CallK) (draw : Bool) (ops : List Oper) (s : St) (k : St → Tree) : Tree :=
  stepsT P R J call ops.toArray (nameOf alAll ops s.mem.length) (fun l s' => match !draw || (validT ops.toArray (ancOf ops) && clashAll (ancOf ops) 0 (ops.zip l)) with
    | false => .bad
    | true => needs (condsOf l) (k s')) 0 ops { tmps := s.tmps, mem := s.mem ++ List.replicate (countB alAll ops) none } []

/-- An argument is what it was laid open to be. -/
def DOk (w : World) (d : DArg) (y : Value) : Prop :=
  match d with
  | .v x => plainV x = true ∧ y = x
  | .row l cs => allAtoms cs = true ∧ ∃ ad c', y = .slice ad l c' ∧ l ≤ c' ∧ (l = 0 ∨ ∃ g f, ad = some ⟨g, f, none⟩ ∧ g < w.heap.size ∧ ∀ (k : Nat) v, cs.list[k]? = some v → w.cell? ⟨g, f + k, none⟩ = some v)
def DOks (w : World) (ds : List DArg) (args : Array Value) : Prop := ds.length = args.size ∧ ∀ (i : Nat) d y, ds[i]? = some d → args[i]? = some y → DOk w d y
/-- What a function answers, whatever the world. -/
def Res (P : Program) (f : FuncId) (ds : List DArg) (v : Value) : Prop :=
  enters P f ∧ P.inits.idxOf? f = none ∧ plainV v = true ∧ (∀ d ∈ ds, d.good) ∧ ∀ w args, DOks w ds args → Calls P f args w fun e w' => e = .returned v ∧ Below w.heap.size w w'
/-- There is a world in which arguments lie as they were laid open. -/
theorem dOks_some (ds : List DArg) (hg : ∀ d ∈ ds, d.good) : ∃ (w : World) (args : Array Value), DOks w ds args := by
  let objs : List Obj := ds.map fun d => match d with
    | .v _ => .cells #[] 0
    | .row _ cs => .cells cs.list.toArray 0
  let vals : Nat → DArg → Value := fun i d => match d with
    | .v x => x
    | .row l _ => .slice (some ⟨i, 0, none⟩) l l
  refine ⟨{ (default : World) with heap := objs.toArray }, (ds.mapIdx vals).toArray, by simp, fun i d y hd hy => ?_⟩
  have hy' : y = vals i d := by
    have : (ds.mapIdx vals)[i]? = some (vals i d) := by simp [hd]
    simp only [List.getElem?_toArray] at hy
    rw [this] at hy
    simpa using hy.symm
  subst hy'
  have hmem := List.mem_of_getElem? hd
  have hi : i < ds.length := by
    rcases Nat.lt_or_ge i ds.length with h | h
    · exact h
    · simp [List.getElem?_eq_none h] at hd
  cases d with
  | v x => exact ⟨hg _ hmem, rfl⟩
  | row l cs =>
    refine ⟨hg _ hmem, _, l, rfl, Nat.le_refl _, .inr ⟨i, 0, rfl, by simpa [objs] using hi, fun k v hv => ?_⟩⟩
    have ho : objs.toArray[i]? = some (.cells cs.list.toArray 0 (0, 0)) := by
      simp [objs, hd]
    simp only [World.cell?, ho]
    simpa using hv
/-- The answer is one: a run has one end. -/
theorem Res.uniq {P : Program} {f : FuncId} {ds : List DArg} {v v' : Value} (h : Res P f ds v) (h' : Res P f ds v') : v = v' := by
  obtain ⟨_, hi, _, hg, hc⟩ := h
  obtain ⟨_, _, _, _, hc'⟩ := h'
  obtain ⟨w, args, hd⟩ := dOks_some ds hg
  have d : ∀ {u : Value}, (∀ w args, DOks w ds args → Calls P f args w fun e w' => e = .returned u ∧ Below w.heap.size w w') → ∃ n w', runN P n (lone (Frame.enter P f args .normal) [] w) = .ended (.done u) w' := by
    intro u hu
    obtain ⟨n, x, w', h1, h2⟩ := Calls.done (R := fun x _ => x = u) ((hu w args hd).mono fun e w' he => by
      obtain ⟨rfl, _⟩ := he
      rfl) hi
    subst h2
    exact ⟨n, w', h1⟩
  obtain ⟨n, w1, h1⟩ := d hc
  obtain ⟨n', w2, h2⟩ := d hc'
  have e1 := runN_add P n n' (lone (Frame.enter P f args .normal) [] w)
  have e2 := runN_add P n' n (lone (Frame.enter P f args .normal) [] w)
  rw [h1] at e1
  rw [h2] at e2
  rw [Nat.add_comm n' n, e1] at e2
  simp only at e2
  injection e2 with e3
  injection e3
theorem rdArg_ok {s : FS} {v : Value} {d : DArg} (h : (rdArg v).run s = some d) : d.good ∧ ∀ {ρ0 ρ : Nat → Option Pl} {B : Nat → Prop} {w : World} {v' : Value}, VR ρ v v' → MemOk ρ0 ρ B s.blk w → DOk w d v' := by
  unfold rdArg at h
  split at h
  · rename_i hp
    obtain rfl : DArg.v v = d := by simpa [Rd.run] using h
    exact ⟨hp, fun hv _ => ⟨hp, hv.plain hp⟩⟩
  split at h
  rotate_left
  · simp [Rd.run] at h
  rename_i _ n o l _ _
  simp only [Rd.run] at h
  split at h
  rotate_left
  · simp [Rd.run] at h
  rename_i b hb
  split at h
  rotate_left
  · simp [Rd.run] at h
  rename_i hl hat
  obtain rfl : DArg.row l (dropC b.cs o) = d := by simpa [Rd.run] using h
  refine ⟨dropC_atoms hat o, fun {ρ0 ρ B w v'} hv hm => ⟨dropC_atoms hat o, ?_⟩⟩
  rcases hv.slice_inv with ⟨g, f, cp, c', h7, hq, h8, h9, _⟩ | ⟨h0, _, ad, c', h8⟩ | ⟨h0, ad, c', _, h8, _⟩
  · obtain ⟨hp2, k2⟩ := live_cell (hm.ok n b hb) hl h7 hq
    refine ⟨_, c', h8, h9, .inr ⟨g, f + o, rfl, hp2, fun k v hv => ?_⟩⟩
    rw [dropC_list, List.getElem?_drop] at hv
    obtain ⟨u, hu1, hu2⟩ := k2 _ v hv
    rw [Nat.add_assoc, hu1, hu2.plain (plain_of_atom (allAtoms_spec hat v (List.mem_of_getElem? hv)))]
  · subst h0; exact ⟨_, _, h8, Nat.zero_le _, .inl rfl⟩
  · subst h0; exact ⟨_, _, h8, Nat.zero_le _, .inl rfl⟩
theorem rdArgs_ok {s : FS} : ∀ {vs : List Value} {ds : List DArg}, (rdArgs vs).run s = some ds → (∀ d ∈ ds, d.good) ∧ ∀ {ρ0 ρ : Nat → Option Pl} {B : Nat → Prop} {w : World} {vs' : Array Value}, VRs ρ vs vs' → MemOk ρ0 ρ B s.blk w → DOks w ds vs'
  | [], ds, h => by
    obtain rfl : [] = ds := by simpa [rdArgs, Rd.run] using h
    exact ⟨fun d hd => by simp at hd, fun hv _ => ⟨hv.1, fun i d y hd => by simp at hd⟩⟩
  | v :: r, ds, h => by
    obtain ⟨d, h1, h2⟩ := bind_some h
    obtain ⟨l, h3, h4⟩ := bind_some h2
    obtain rfl : d :: l = ds := by simpa [Rd.run] using h4
    obtain ⟨g1, g2⟩ := rdArgs_ok h3
    obtain ⟨k1, k2⟩ := rdArg_ok h1
    refine ⟨fun d' hd' => ?_, fun {ρ0 ρ B w vs'} hv hm => ?_⟩
    · rcases List.mem_cons.1 hd' with rfl | hd'
      · exact k1
      · exact g1 d' hd'
    · have hsz : r.length = (vs'.extract 1 vs'.size).size := by
        have := hv.1
        simp at this ⊢
        omega
      have hg := g2 (ρ0 := ρ0) (ρ := ρ) (B := B) (w := w) (vs' := vs'.extract 1 vs'.size) ⟨hsz, fun i x x' hx hx' => hv.2 (i + 1) x x' (by simpa using hx) (by
        rw [Array.getElem?_extract] at hx'
        split at hx'
        · rw [Nat.add_comm] at hx'; exact hx'
        · cases hx')⟩ hm
      refine ⟨by have h1 := hv.1; have h2 := hg.1; simp only [List.length_cons] at h1 ⊢; omega, fun i d' y hd' hy => ?_⟩
      cases i with
      | zero =>
        obtain rfl : d = d' := by simpa using hd'
        exact k2 (hv.2 0 v y rfl hy) hm
      | succ i =>
        refine hg.2 i d' y (by simpa using hd') ?_
        have hlt : i + 1 < vs'.size := (Array.getElem?_eq_some_iff.1 hy).1
        rw [Array.getElem?_extract, if_pos (by omega), Nat.add_comm]
        exact hy
/-- What a function that makes a row answers. -/
def ResR (P : Program) (f : FuncId) (ds : List DArg) (v : Value) (b : Blk) : Prop :=
  enters P f ∧ P.inits.idxOf? f = none ∧ (b.own = true) ∧ (∀ d ∈ ds, d.good) ∧ ∀ w args, DOks w ds args → Calls P f args w fun e w' => ∃ v' p, e = .returned v' ∧ Below w.heap.size w w' ∧
    ∀ ρ name, ρ name = some p → VR ρ (atName name v) v' ∧ BlkOk ρ (fun k => k < w.heap.size) w' name b
/-- The table of rows is sound. -/
def TabROk (P : Program) (R : TabR) : Prop := ∀ f ds v b C, R f ds = some (v, b, C) → AllP C → ResR P f ds v b
/-- A new name for a row that a callee has made. -/
theorem MemOk.newRow {ρ0 ρ : Nat → Option Pl} {B : Nat → Prop} {m : Nat → Option Blk} {w w' : World} (h : MemOk ρ0 ρ B m w) (hB : ∀ k, B k → k < w.heap.size) (hbel : Below w.heap.size w w') {n : Nat} (hn : m n = none) {b : Blk} {p : Pl} (hown : b.own = true) (hb : BlkOk (addPl ρ n p) (fun k => k < w.heap.size) w' n b) :
    MemOk ρ0 (addPl ρ n p) B (setB m n b) w' where
  ext := h.ext.trans (addPl_ext (h.fresh n hn))
  fresh := fun k hk => by
    by_cases hkn : k = n
    · subst hkn; simp [setB] at hk
    · rw [addPl_ne hkn]
      exact h.fresh k (by simpa [setB, hkn] using hk)
  ok := fun k c hk => by
    by_cases hkn : k = n
    · subst hkn
      obtain rfl : b = c := by simpa [setB] using hk
      obtain ⟨kd, cs⟩ := b
      cases kd with
      | dead => trivial
      | view => exact hb
      | box =>
        obtain ⟨g, h1, h2, rest⟩ := hb
        exact ⟨g, h1, fun h => h2 (hB _ h), rest⟩
      | row e sz =>
        rcases hb with hb | ⟨g, cap, h1, h2, rest⟩
        · exact .inl hb
        · exact .inr ⟨g, cap, h1, fun h => h2 (hB _ h), rest⟩
    · have hk' : m k = some c := by simpa [setB, hkn] using hk
      exact (h.ok k c hk').keep (addPl_ext (h.fresh n hn)) hbel.size fun q hl hq hnq => hbel.block _ ((h.ok k c hk').real hl hq hnq).1
  sep := fun k k' c c' q q' hk hown' hk' hlive hne hq hq' hnq hnq' => by
    by_cases hkn : k = n
    · subst hkn
      have hk'n : k' ≠ k := fun e => hne e.symm
      have hm : m k' = some c' := by simpa [setB, hk'n] using hk'
      rw [addPl_ne hk'n] at hq'
      have h2 := ((h.ok k' c' hm).real hlive hq' hnq').1
      obtain rfl : b = c := by simpa [setB] using hk
      have h3 : ¬ q.1 < w.heap.size := (hb.real (own_live hown) hq hnq).2 hown
      omega
    · have hm : m k = some c := by simpa [setB, hkn] using hk
      rw [addPl_ne hkn] at hq
      have h2 := ((h.ok k c hm).real (own_live hown') hq hnq).1
      by_cases hk'n : k' = n
      · subst hk'n
        have h3 : ¬ q'.1 < w.heap.size := (hb.real (own_live hown) hq' hnq').2 hown
        omega
      · have hm' : m k' = some c' := by simpa [setB, hk'n] using hk'
        rw [addPl_ne hk'n] at hq'
        exact h.sep k k' c c' q q' hm hown' hm' hlive hne hq hq' hnq hnq'
/-- All functions whose arguments can be laid open, together. -/
theorem allG (P : Program) {J : TabJ} (hJ : GSound P J.g) {R : TabR} (hR : TabROk P R) : ∃ (G : Ctx) (K : FuncId → Nat → List DArg → Rd Eff), GSound P G ∧ ((∀ f, J.on f = false → ∀ name args, G f name args = (rdArgs args).bind (K f name)) ∧ ∀ f, J.on f = true → ∀ name args, G f name args = J.g f name args) ∧ (∀ f name ds v, R f ds = none → Res P f ds v → K f name ds = .ret ⟨v, [], []⟩) ∧
    ∀ f name ds v b C, R f ds = some (v, b, C) → AllP C → K f name ds = .ret ⟨atName name v, [(name, b)], []⟩ := by
  classical
  let K : FuncId → Nat → List DArg → Rd Eff := fun f name ds => match R f ds with
    | some (v, b, C) => if AllP C then .ret ⟨atName name v, [(name, b)], []⟩ else .fail
    | none => if h : ∃ v, Res P f ds v then .ret ⟨Classical.choose h, [], []⟩ else .fail
  refine ⟨fun f name args => match J.on f with
    | true => J.g f name args
    | false => (rdArgs args).bind (K f name), K, ?_, ⟨fun f hf _ _ => by simp only [hf], fun f hf _ _ => by simp only [hf]⟩, ?_, ?_⟩
  · intro f name args s eff hr hn
    rcases hj : J.on f with _ | _
    rotate_left
    · simp only [hj] at hr
      exact hJ f name args s eff hr hn
    simp only [hj] at hr
    obtain ⟨ds, hds, hr⟩ := bind_some hr
    simp only [K] at hr
    split at hr
    · rename_i v b C hx
      by_cases hC : AllP C
      rotate_left
      · rw [if_neg hC] at hr
        simp [Rd.run] at hr
      rw [if_pos hC] at hr
      obtain rfl : (⟨atName name v, [(name, b)], []⟩ : Eff) = eff := by simpa [Rd.run] using hr
      obtain ⟨h1, _, hown, _, h4⟩ := hR f ds v b C hx hC
      refine ⟨h1, fun B ρ0 ρ w args' ha hm hB _ => ?_⟩
      refine (h4 w args' ((rdArgs_ok hds).2 ha hm)).mono ?_
      rintro e w' ⟨v', p, rfl, hb, hrow⟩
      obtain ⟨g1, g2⟩ := hrow (addPl ρ name p) name (addPl_same _ _ _)
      refine ⟨v', addPl ρ name p, rfl, addPl_ext (hm.fresh name hn), g1, BelowK.of hb hB, ?_⟩
      rw [upd_one]
      exact hm.newRow hB hb hn hown g2
    · rename_i hx0
      by_cases hx : ∃ v, Res P f ds v
      rotate_left
      · simp only [dif_neg hx] at hr
        simp [Rd.run] at hr
      have hv := Classical.choose_spec hx
      simp only [dif_pos hx] at hr
      generalize Classical.choose hx = v at hv hr
      obtain rfl : (⟨v, [], []⟩ : Eff) = eff := by simpa [Rd.run] using hr
      obtain ⟨h1, _, h3, _, h4⟩ := hv
      refine ⟨h1, fun B ρ0 ρ w args' ha hm hB _ => ?_⟩
      refine (h4 w args' ((rdArgs_ok hds).2 ha hm)).mono ?_
      rintro e w' ⟨rfl, hb⟩
      refine ⟨v, ρ, rfl, Ext.refl ρ, .lit h3, BelowK.of hb hB, ?_⟩
      have : (s.upd none ⟨v, [], []⟩).blk = s.blk := by funext m; simp [FS.upd, lookW]
      rw [this]
      exact hm.keep hb
  · intro f name ds v hx0 h
    have hx : ∃ v, Res P f ds v := ⟨v, h⟩
    simp only [K, hx0, dif_pos hx]
    rw [(Classical.choose_spec hx).uniq h]
  · intro f name ds v b C hx hC
    simp only [K, hx, if_pos hC]

theorem rd_bind_tmps {α β : Type} {s : FS} {r : Rd α} {f g : α → Rd β} (h : ∀ x, r.run s = some x → (f x).tmps s = (g x).tmps s) : (r.bind f).tmps s = (r.bind g).tmps s := by
  induction r with
  | ret x => exact h x rfl
  | fail => rfl
  | tmp t k ih => simp only [Rd.bind, Rd.tmps]; rw [ih _ fun x hx => h x hx]
  | blk n k ih => simp only [Rd.bind, Rd.tmps]; rw [ih _ fun x hx => h x hx]
theorem rd_bind_blks {α β : Type} {s : FS} {r : Rd α} {f g : α → Rd β} (h : ∀ x, r.run s = some x → (f x).blks s = (g x).blks s) : (r.bind f).blks s = (r.bind g).blks s := by
  induction r with
  | ret x => exact h x rfl
  | fail => rfl
  | tmp t k ih => simp only [Rd.bind, Rd.blks]; exact ih _ fun x hx => h x hx
  | blk n k ih => simp only [Rd.bind, Rd.blks]; rw [ih _ fun x hx => h x hx]
theorem rd_bind_run {α β : Type} {s : FS} {r : Rd α} {f g : α → Rd β} (h : ∀ x, r.run s = some x → (f x).run s = (g x).run s) : (r.bind f).run s = (r.bind g).run s := by
  rw [Rd.run_bind, Rd.run_bind]
  rcases hr : r.run s with _ | x
  · rfl
  · exact h x hr
/-- Two contexts that say the same of a call are the same to the operation. -/
def SameOp (P : Program) (G G' : Ctx) (name : Nat) (o : Oper) (s : FS) : Prop :=
  (aop P G name o).run s = (aop P G' name o).run s ∧ (aop P G name o).tmps s = (aop P G' name o).tmps s ∧ (aop P G name o).blks s = (aop P G' name o).blks s
theorem sameOp_call {P : Program} {G G' : Ctx} {K K' : FuncId → Nat → List DArg → Rd Eff} {name : Nat} {o : Oper} {s : FS} {f : Operand} {args : Array Operand} {ts : Array TypeId}
    (ho : o.op = .call { callee := .value f, args := args, argTypes := ts }) {fid : FuncId} (hG : ∀ name args, G fid name args = (rdArgs args).bind (K fid name)) (hG' : ∀ name args, G' fid name args = (rdArgs args).bind (K' fid name)) {ds : List DArg} (hcall : (rdCall f args.toList).run s = some (fid, ds)) (h : K fid name ds = K' fid name ds) : SameOp P G G' name o s := by
  have e : ∀ G, aop P G name o = callOp G name f args := fun G => by simp only [aop, ho]
  unfold SameOp
  rw [e, e]
  unfold rdCall at hcall
  obtain ⟨fv0, h1, h2⟩ := bind_some hcall
  obtain ⟨l0, h3, h4⟩ := bind_some h2
  have key : ∀ fv l, (rdv f).run s = some fv → (rdvs args.toList).run s = some l → ∀ {γ : Type} (q : Rd Eff → γ), (∀ vals, (rdArgs vals).run s = some ds → q ((rdArgs vals).bind (K fid name)) = q ((rdArgs vals).bind (K' fid name))) → q (match fv with
      | .func (.func fid) first cap => G fid name (first.toList ++ l ++ cap.toList)
      | _ => .fail) = q (match fv with
      | .func (.func fid) first cap => G' fid name (first.toList ++ l ++ cap.toList)
      | _ => .fail) := by
    intro fv l hf hl γ q hq
    rw [h1] at hf
    rw [h3] at hl
    obtain rfl : fv0 = fv := by simpa using hf
    obtain rfl : l0 = l := by simpa using hl
    split at h4
    · rename_i fid' first cap
      obtain ⟨ds', h5, h6⟩ := bind_some h4
      obtain ⟨rfl, rfl⟩ : fid' = fid ∧ ds' = ds := by simpa [Rd.run] using h6
      rw [hG, hG']
      exact hq _ h5
    · simp [Rd.run] at h4
  refine ⟨rd_bind_run fun fv hf => rd_bind_run fun l hl => ?_, rd_bind_tmps fun fv hf => rd_bind_tmps fun l hl => ?_, rd_bind_blks fun fv hf => rd_bind_blks fun l hl => ?_⟩
  · refine key fv l hf hl (fun r => r.run s) fun vals hv => rd_bind_run fun x hx => ?_
    rw [hv] at hx
    obtain rfl : ds = x := by simpa using hx
    rw [h]
  · refine key fv l hf hl (fun r => r.tmps s) fun vals hv => rd_bind_tmps fun x hx => ?_
    rw [hv] at hx
    obtain rfl : ds = x := by simpa using hx
    rw [h]
  · refine key fv l hf hl (fun r => r.blks s) fun vals hv => rd_bind_blks fun x hx => ?_
    rw [hv] at hx
    obtain rfl : ds = x := by simpa using hx
    rw [h]
theorem sameOp_j {P : Program} {G G' : Ctx} {name : Nat} {o : Oper} {s : FS} {f : Operand} {args : Array Operand} {ts : Array TypeId}
    (ho : o.op = .call { callee := .value f, args := args, argTypes := ts }) {fid : FuncId} {vs : List Value} (hcall : (rdCallV f args.toList).run s = some (fid, vs)) (h : ∀ name args, G fid name args = G' fid name args) : SameOp P G G' name o s := by
  have e : ∀ G, aop P G name o = callOp G name f args := fun G => by simp only [aop, ho]
  unfold SameOp
  rw [e, e]
  unfold rdCallV at hcall
  obtain ⟨fv0, h1, h2⟩ := bind_some hcall
  obtain ⟨l0, h3, h4⟩ := bind_some h2
  have fin : ∀ fv, (rdv f).run s = some fv → ∃ first cap, fv = .func (.func fid) first cap := by
    intro fv hf
    rw [h1] at hf
    obtain rfl : fv0 = fv := by simpa using hf
    split at h4
    · rename_i fid' first cap
      obtain ⟨rfl, _⟩ : fid' = fid ∧ first.toList ++ l0 ++ cap.toList = vs := by simpa [Rd.run] using h4
      exact ⟨_, _, rfl⟩
    · simp [Rd.run] at h4
  unfold callOp
  refine ⟨rd_bind_run fun fv hf => rd_bind_run fun l hl => ?_, rd_bind_tmps fun fv hf => rd_bind_tmps fun l hl => ?_, rd_bind_blks fun fv hf => rd_bind_blks fun l hl => ?_⟩
  all_goals (obtain ⟨first, cap, rfl⟩ := fin fv hf; simp only [h])
/-- The function of a call, told twice. -/
theorem call_fid {f : Operand} {args : List Operand} {s : FS} {fid : FuncId} {ds : List DArg} (h : (rdCall f args).run s = some (fid, ds)) : ∃ vs, (rdCallV f args).run s = some (fid, vs) := by
  unfold rdCall at h
  obtain ⟨fv0, h1, h2⟩ := bind_some h
  obtain ⟨l0, h3, h4⟩ := bind_some h2
  split at h4
  · rename_i fid' first cap
    obtain ⟨ds', h5, h6⟩ := bind_some h4
    obtain ⟨rfl, rfl⟩ : fid' = fid ∧ ds' = ds := by simpa [Rd.run] using h6
    exact ⟨_, by unfold rdCallV; rw [Rd.run_bind, h1, Option.bind_some, Rd.run_bind, h3]; rfl⟩
  · simp [Rd.run] at h4
theorem sameOp_other {P : Program} {G G' : Ctx} {name : Nat} {o : Oper} {s : FS} (ho : ∀ f args ts, o.op ≠ .call { callee := .value f, args := args, argTypes := ts }) : SameOp P G G' name o s := by
  have e : aop P G name o = aop P G' name o := by
    unfold aop
    split <;> first | rfl | (rename_i h; exact absurd h (ho _ _ _))
  unfold SameOp
  rw [e]
  exact ⟨rfl, rfl, rfl⟩

/-- The operation as it stands in its region, with its guard. -/
theorem gop_same {P : Program} {G G' : Ctx} {ops : Array Oper} {name : Nat} {o : Oper} {s : St} (h : wantedS ops s o = true → SameOp P G G' name o s.fs) :
    (gop (aop P G) ops name o).run s.fs = (gop (aop P G') ops name o).run s.fs ∧ (gop (aop P G) ops name o).tmps s.fs = (gop (aop P G') ops name o).tmps s.fs ∧ (gop (aop P G) ops name o).blks s.fs = (gop (aop P G') ops name o).blks s.fs := by
  simp only [gop, Rd.run, Rd.tmps, Rd.blks]
  rcases hb : s.fs.blk name with _ | b
  rotate_left
  · exact ⟨rfl, rfl, rfl⟩
  simp only
  unfold wantedS at h
  rcases hg : o.guard with _ | ⟨g, want⟩
  · rw [hg] at h
    obtain ⟨h1, h2, h3⟩ := h rfl
    exact ⟨h1, h2, by rw [h3]⟩
  · rw [hg] at h
    simp only at h ⊢
    rcases ht : (ops[g]?).bind (·.dst) with _ | t
    · exact ⟨rfl, rfl, rfl⟩
    · rw [ht] at h
      simp only [Rd.run, Rd.tmps, Rd.blks] at h ⊢
      have hst : s.fs.tmp t = s.tmps.getD t undef := rfl
      rw [hst]
      generalize s.tmps.getD t undef = v at h
      cases v <;> first | exact ⟨rfl, rfl, rfl⟩ | skip
      rename_i b
      simp only at h ⊢
      by_cases hw : b = want
      · obtain ⟨h1, h2, h3⟩ := h (by simpa using hw)
        simp only [if_pos hw]
        exact ⟨h1, by rw [h2], by rw [h3]⟩
      · simp only [if_neg hw]
        exact ⟨trivial, trivial, trivial⟩

theorem set_same_list {l : List Value} {t : Nat} {v : Value} (h : l.getD t undef = v) : l.set t v = l := by
  apply List.ext_getElem?
  intro k
  rw [List.getElem?_set]
  split
  · rename_i hk
    subst hk
    split
    · rename_i hl
      simp [hl] at h
      simp [hl, h]
    · rename_i hl
      rw [List.getElem?_eq_none (by omega)]
  · rfl
/-- Calls run in place are what the functions answer. -/
def CallOk (P : Program) (call : CallK) : Prop := ∀ f args k F H, (call f args k).ok F H → ∃ v, Res P f args v ∧ (k v).ok F H
theorem stepsT_ok {P : Program} {call : CallK} (hcall : CallOk P call) {R : TabR} {J : TabJ} {G : Ctx} {K : FuncId → Nat → List DArg → Rd Eff} (hGK : (∀ f, J.on f = false → ∀ name args, G f name args = (rdArgs args).bind (K f name)) ∧ ∀ f, J.on f = true → ∀ name args, G f name args = J.g f name args) (hK : ∀ f name ds v, R f ds = none → Res P f ds v → K f name ds = .ret ⟨v, [], []⟩) (hKR : ∀ f name ds v b C, R f ds = some (v, b, C) → AllP C → K f name ds = .ret ⟨atName name v, [(name, b)], []⟩) {ops : Array Oper} {nm : Nat → Nat} {fin : List (Eff × List Nat × List Nat) → St → Tree} {F : Ex → St → Prop} {H : Value → List (Option Blk) → Prop} :
    ∀ (rest : List Oper) (i : Nat) (s : St) (acc : List (Eff × List Nat × List Nat)), (stepsT P R J call ops nm fin i rest s acc).ok F H → ∃ l s', stepsOf (aop P G) ops nm i rest s = some (l, s') ∧ (fin (acc ++ l) s').ok F H
  | [], i, s, acc, h => ⟨[], s, rfl, by simpa [stepsT] using h⟩
  | o :: rest, i, s, acc, h => by
    have one : ∀ (G' : Ctx) (u : St), u = s → (wantedS ops u o = true → SameOp P G' G (nm i) o u.fs) → (match (gop (aop P G') ops (nm i) o).run u.fs with
        | none => Tree.bad
        | some e =>
          match e.wr.all fun p => decide (p.1 < u.mem.length) with
          | false => .bad
          | true => stepsT P R J call ops nm fin (i + 1) rest (u.upd o.dst e) (acc ++ [(e, (gop (aop P G') ops (nm i) o).tmps u.fs, (gop (aop P G') ops (nm i) o).blks u.fs)])).ok F H →
        ∃ l s', stepsOf (aop P G) ops nm i (o :: rest) s = some (l, s') ∧ (fin (acc ++ l) s').ok F H := by
      rintro G' u rfl hsame h
      obtain ⟨e1, e2, e3⟩ := gop_same (ops := ops) hsame
      rw [e1, e2, e3] at h
      split at h
      · exact h.elim
      rename_i e he
      split at h
      · exact h.elim
      rename_i hall
      obtain ⟨l, s', h1, h2⟩ := stepsT_ok hcall hGK hK hKR rest (i + 1) _ _ h
      exact ⟨(e, (gop (aop P G) ops (nm i) o).tmps u.fs, (gop (aop P G) ops (nm i) o).blks u.fs) :: l, s', by simp only [stepsOf, he, hall, h1], by simpa using h2⟩
    have noCall : ∀ u : St, u = s → (match (gop (aop P failG) ops (nm i) o).run u.fs with
        | none => Tree.bad
        | some e =>
          match e.wr.all fun p => decide (p.1 < u.mem.length) with
          | false => .bad
          | true => stepsT P R J call ops nm fin (i + 1) rest (u.upd o.dst e) (acc ++ [(e, (gop (aop P failG) ops (nm i) o).tmps u.fs, (gop (aop P failG) ops (nm i) o).blks u.fs)])).ok F H →
        ∃ l s', stepsOf (aop P G) ops nm i (o :: rest) s = some (l, s') ∧ (fin (acc ++ l) s').ok F H := by
      intro u hu h
      by_cases hw : wantedS ops u o = true ∧ ∃ f args ts, o.op = .call { callee := .value f, args := args, argTypes := ts }
      · obtain ⟨hw, f, args, ts, ho⟩ := hw
        exfalso
        have hfail : ∀ s : FS, (callOp failG (nm i) f args).run s = none := by
          intro s
          unfold callOp
          rw [Rd.run_bind]
          rcases (rdv f).run s with _ | fv
          · rfl
          simp only [Option.bind_some]
          rw [Rd.run_bind]
          rcases (rdvs args.toList).run s with _ | l
          · rfl
          simp only [Option.bind_some]
          split <;> rfl
        have hnone : (gop (aop P failG) ops (nm i) o).run u.fs = none := by
          have e : aop P failG (nm i) o = callOp failG (nm i) f args := by simp only [aop, ho]
          simp only [gop, Rd.run]
          rcases hb : u.fs.blk (nm i) with _ | b
          rotate_left
          · rfl
          simp only
          unfold wantedS at hw
          rcases hg : o.guard with _ | ⟨g, want⟩
          · rw [e]; exact hfail _
          · rw [hg] at hw
            simp only at hw ⊢
            rcases ht : (ops[g]?).bind (·.dst) with _ | t
            · rw [ht] at hw; simp at hw
            · rw [ht] at hw
              simp only [Rd.run] at hw ⊢
              have hst : u.fs.tmp t = u.tmps.getD t undef := rfl
              rw [hst]
              generalize u.tmps.getD t undef = v at hw
              cases v <;> first | (simp at hw; done) | skip
              rename_i b
              have hbw : b = want := by simpa using hw
              simp only [if_pos hbw]
              rw [e]; exact hfail _
        rw [hnone] at h
        exact h
      · refine one failG u hu (fun hwt => sameOp_other fun f args ts ho => hw ⟨hwt, f, args, ts, ho⟩) h
    have step : ∀ u : St, u = s → (match wantedS ops u o with
        | false => (match (gop (aop P failG) ops (nm i) o).run u.fs with
          | none => Tree.bad
          | some e =>
            match e.wr.all fun p => decide (p.1 < u.mem.length) with
            | false => .bad
            | true => stepsT P R J call ops nm fin (i + 1) rest (u.upd o.dst e) (acc ++ [(e, (gop (aop P failG) ops (nm i) o).tmps u.fs, (gop (aop P failG) ops (nm i) o).blks u.fs)]))
        | true => match jCall J u o with
          | true => (match (gop (aop P J.g) ops (nm i) o).run u.fs with
          | none => Tree.bad
          | some e =>
            match e.wr.all fun p => decide (p.1 < u.mem.length) with
            | false => .bad
            | true => stepsT P R J call ops nm fin (i + 1) rest (u.upd o.dst e) (acc ++ [(e, (gop (aop P J.g) ops (nm i) o).tmps u.fs, (gop (aop P J.g) ops (nm i) o).blks u.fs)]))
          | false => match callOf u o with
            | some (f, args) => (match R f args with
              | some (v, b, C) => needs C (match (gop (aop P (rowG v b)) ops (nm i) o).run u.fs with
          | none => Tree.bad
          | some e =>
            match e.wr.all fun p => decide (p.1 < u.mem.length) with
            | false => .bad
            | true => stepsT P R J call ops nm fin (i + 1) rest (u.upd o.dst e) (acc ++ [(e, (gop (aop P (rowG v b)) ops (nm i) o).tmps u.fs, (gop (aop P (rowG v b)) ops (nm i) o).blks u.fs)]))
              | none => call f args fun v => (match (gop (aop P (constG v)) ops (nm i) o).run u.fs with
          | none => Tree.bad
          | some e =>
            match e.wr.all fun p => decide (p.1 < u.mem.length) with
            | false => .bad
            | true => stepsT P R J call ops nm fin (i + 1) rest (u.upd o.dst e) (acc ++ [(e, (gop (aop P (constG v)) ops (nm i) o).tmps u.fs, (gop (aop P (constG v)) ops (nm i) o).blks u.fs)])))
            | none => (match (gop (aop P failG) ops (nm i) o).run u.fs with
          | none => Tree.bad
          | some e =>
            match e.wr.all fun p => decide (p.1 < u.mem.length) with
            | false => .bad
            | true => stepsT P R J call ops nm fin (i + 1) rest (u.upd o.dst e) (acc ++ [(e, (gop (aop P failG) ops (nm i) o).tmps u.fs, (gop (aop P failG) ops (nm i) o).blks u.fs)]))).ok F H →
        ∃ l s', stepsOf (aop P G) ops nm i (o :: rest) s = some (l, s') ∧ (fin (acc ++ l) s').ok F H := by
      intro u hu h
      split at h
      · exact noCall u hu h
      split at h
      · rename_i hj
        unfold jCall at hj
        split at hj
        rotate_left
        · cases hj
        rename_i f vs hcv
        unfold callOfV at hcv
        split at hcv
        rotate_left
        · cases hcv
        rename_i fo ags ts ho
        exact one J.g u hu (fun _ => sameOp_j ho hcv fun name args => (hGK.2 f hj name args).symm) h
      rename_i hj
      split at h
      · rename_i f args hc
        have hc0 := hc
        unfold callOf at hc
        split at hc
        rotate_left
        · cases hc
        rename_i fo ags ts ho
        have hjf : J.on f = false := by
          obtain ⟨vs, hvs⟩ := call_fid hc
          have : callOfV u o = some (f, vs) := by unfold callOfV; rw [ho]; exact hvs
          unfold jCall at hj
          rw [this] at hj
          exact hj
        split at h
        · rename_i v b C hx
          obtain ⟨hC, h2⟩ := needs_ok h
          exact one (rowG v b) u hu (fun _ => sameOp_call (K := fun _ name _ => .ret ⟨atName name v, [(name, b)], []⟩) ho (fun _ _ => rfl) (hGK.1 f hjf) hc (hKR _ _ _ _ _ _ hx hC).symm) h2
        · rename_i hx
          obtain ⟨v, hres, h2⟩ := hcall _ _ _ _ _ h
          exact one (constG v) u hu (fun _ => sameOp_call (K := fun _ _ _ => .ret ⟨v, [], []⟩) ho (fun _ _ => rfl) (hGK.1 f hjf) hc (hK _ _ _ _ hx hres).symm) h2
      · exact noCall u hu h
    simp only [stepsT] at h
    split at h
    · exact step s rfl h
    rename_i t _
    split at h
    · rename_i b hb
      have hset : ∀ c, b = c → ({ tmps := s.tmps.set t (.bool c), mem := s.mem } : St) = s := by
        intro c hc
        subst hc
        rw [set_same_list hb]
      obtain ⟨h1, h2⟩ := brT_ok.1 h
      cases b with
      | true => exact step _ (hset true rfl) (h1 rfl)
      | false => exact step _ (hset false rfl) (h2 rfl)
    · exact step s rfl h
theorem regionT_ok {P : Program} {call : CallK} (hcall : CallOk P call) {R : TabR} {J : TabJ} {G : Ctx} {K : FuncId → Nat → List DArg → Rd Eff} (hGK : (∀ f, J.on f = false → ∀ name args, G f name args = (rdArgs args).bind (K f name)) ∧ ∀ f, J.on f = true → ∀ name args, G f name args = J.g f name args) (hK : ∀ f name ds v, R f ds = none → Res P f ds v → K f name ds = .ret ⟨v, [], []⟩) (hKR : ∀ f name ds v b C, R f ds = some (v, b, C) → AllP C → K f name ds = .ret ⟨atName name v, [(name, b)], []⟩) {draw : Bool} {ops : List Oper} {s : St} {k : St → Tree} {F : Ex → St → Prop} {H : Value → List (Option Blk) → Prop}
    (h : (regionT P R J call draw ops s k).ok F H) : ∃ s' C, regionRun (aop P G) alAll draw ops s = some (s', C) ∧ AllP C ∧ (k s').ok F H := by
  obtain ⟨l, s', h1, h2⟩ := stepsT_ok hcall hGK hK hKR ops 0 _ [] h
  simp only [List.nil_append] at h2
  split at h2
  · exact h2.elim
  rename_i hchk
  obtain ⟨h3, h4⟩ := needs_ok h2
  exact ⟨s', condsOf l, by simp only [regionRun, h1, hchk], h3, h4⟩
end Go.Proofs.Ytoijfjifaljpaab
