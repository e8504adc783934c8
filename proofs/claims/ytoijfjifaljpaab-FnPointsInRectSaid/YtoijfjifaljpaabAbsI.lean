/-
  The small machine: code, bodies and functions run on states, loops by a table; what a run says of a call. Written by an AI agent.
-/
import Derived.Test.YtoijfjifaljpaabAbsK
namespace Go.Proofs.Ytoijfjifaljpaab
open Go.RowKit

/-- How functions are called on a memory. -/
abbrev CallM := FuncId → List Value → List (Option Blk) → (Value → List (Option Blk) → Tree) → Tree
def nameS (ops : List Oper) (n i : Nat) (s : St) : Nat :=
  match ops[i]? with
  | some o => (match alStd o with
    | true => n + countB alStd (ops.take i)
    | false => s.mem.length)
  | none => s.mem.length
/-- Is it the call of such a function that makes a row? -/
def jMk (J : TabJ) (s : St) (o : Oper) : Bool :=
  match callOfV s o with
  | some (f, _) => J.row f
  | none => false
/-- A region in the order of its text, calls run in place. -/
def seqT (P : Program) (J : TabJ) (call : CallM) (ops : List Oper) (n : Nat) (k : St → Tree) : Nat → List Oper → St → Tree
  | _, [], s => k s
  | i, o :: rest, s =>
    let one := fun (G : Ctx) (s : St) => match (gop (aop P G) ops.toArray (nameS ops n i s) o).run s.fs with
      | none => Tree.bad
      | some e =>
        match e.wr.all fun p => decide (p.1 < s.mem.length) with
        | false => .bad
        | true => needs e.conds (seqT P J call ops n k (i + 1) rest (s.upd o.dst e))
    let step := fun s : St => match wantedS ops.toArray s o with
      | false => one failG s
      | true => match jCall J s o with
        | true => (match jMk J s o with
          | false => one J.g s
          | true => match (gop (aop P J.g) ops.toArray s.mem.length o).run s.fs with
            | none => Tree.bad
            | some e =>
              match e.wr.all fun p => decide (p.1 < (s.mem ++ [none]).length) with
              | false => .bad
              | true => needs e.conds (seqT P J call ops n k (i + 1) rest (St.upd { tmps := s.tmps, mem := s.mem ++ [none] } o.dst e)))
        | false => match callOfV s o with
          | some (f, args) => call f args s.mem fun v mem => seqT P J call ops n k (i + 1) rest (St.upd { tmps := s.tmps, mem := mem } o.dst ⟨v, [], []⟩)
          | none => one failG s
    match guardSlot ops.toArray o with
    | none => step s
    | some t =>
      match s.tmps.getD t undef with
      | .bool b => brT b (step { tmps := s.tmps.set t (.bool true), mem := s.mem }) (step { tmps := s.tmps.set t (.bool false), mem := s.mem })
      | _ => step s
/-- What a call on a memory must be. -/
def CallMOk (P : Program) (call : CallM) : Prop := ∀ f args mem k F H, (call f args mem k).ok F H → ∃ v mem', (k v mem').ok F H ∧ enters P f ∧
  ∀ (w0 : Start) (ρ : Nat → Option Pl) (args' : Array Value) (w : World), VRs ρ args args' → MemOk w0.ρ0 ρ w0.kp (fun n => mem.getD n none) w → BelowK w0.kp w0.toWorld w →
    Calls P f args' w fun e w' => ∃ v' ρ', e = .returned v' ∧ Ext ρ ρ' ∧ VR ρ' v v' ∧ BelowK w0.kp w0.toWorld w' ∧ MemOk w0.ρ0 ρ' w0.kp (fun n => mem'.getD n none) w'
theorem wanted_of {ops : Array Oper} {s : St} {o : Oper} {w0 : Start} {a : Act} {w : World} (hc : Conc w0 s.fs a w) (h : wantedS ops s o = true) : Region.wanted o (yielded ops a.tmps) = true := by
  obtain ⟨_, _, _, ρ, hv, _⟩ := hc
  unfold wantedS at h
  rcases hg : o.guard with _ | ⟨g, want⟩
  · simp [Region.wanted, hg]
  · rw [hg] at h
    simp only at h
    rcases ht : (ops[g]?).bind (·.dst) with _ | t
    · rw [ht] at h; simp at h
    · rw [ht] at h
      simp only at h
      have hvt := hv t
      split at h
      · rename_i b hb
        have hb' : s.fs.tmp t = .bool b := hb
        rw [hb'] at hvt
        have e := hvt.plain rfl
        have e' : a.tmps[t]? = some (.bool b) := by
          rcases hx : a.tmps[t]? with _ | x
          · simp [hx, undef] at e
          · simp [hx] at e; rw [e]
        have hy : yielded ops a.tmps g = some b := by simp [yielded, ht, e']
        have hbw : b = want := by simpa using h
        simp [Region.wanted, hg, hy, hbw]
      · cases h
theorem seqT_ok {P : Program} {J : TabJ} (hJ : GSound P J.g) {call : CallM} (hcall : CallMOk P call) {ops : List Oper} {n : Nat} {k : St → Tree} {F : Ex → St → Prop} {H : Value → List (Option Blk) → Prop} :
    ∀ (rest : List Oper) (i : Nat) (s : St), (∀ j, rest[j]? = ops[i + j]?) → (seqT P J call ops n k i rest s).ok F H →
    ∃ s', (k s').ok F H ∧ ∀ (w0 : Start) (a : Act) (w : World) (Q : Exit → Act → World → Prop), Conc w0 s.fs a w → (∀ a' w', Conc w0 s'.fs a' w' → Q .normal a' w') → wpOpsIn (fz w0.ro) 3 P ops.toArray Q (List.range' i rest.length) a w
  | [], i, s, _, h => ⟨s, h, fun w0 a w Q hc hQ => hQ a w hc⟩
  | o :: rest, i, s, hr, h => by
    have h0 : ops.toArray[i]? = some o := by simpa using (hr 0).symm
    have hr' : ∀ j, rest[j]? = ops[i + 1 + j]? := fun j => by have := hr (j + 1); simpa [Nat.add_assoc, Nat.add_comm 1 j] using this
    have one : ∀ (G : Ctx) (_ : GSound P G) (u : St), u = s → (match (gop (aop P G) ops.toArray (nameS ops n i u) o).run u.fs with
        | none => Tree.bad
        | some e =>
          match e.wr.all fun p => decide (p.1 < u.mem.length) with
          | false => .bad
          | true => needs e.conds (seqT P J call ops n k (i + 1) rest (u.upd o.dst e))).ok F H →
        ∃ s', (k s').ok F H ∧ ∀ (w0 : Start) (a : Act) (w : World) (Q : Exit → Act → World → Prop), Conc w0 s.fs a w → (∀ a' w', Conc w0 s'.fs a' w' → Q .normal a' w') → wpOpsIn (fz w0.ro) 3 P ops.toArray Q (List.range' i (o :: rest).length) a w := by
      rintro G hG u rfl h
      split at h
      · exact h.elim
      rename_i e he
      split at h
      · exact h.elim
      rename_i hall
      obtain ⟨hcond, h⟩ := needs_ok h
      obtain ⟨s', h1, h2⟩ := seqT_ok hJ hcall rest (i + 1) _ hr' h
      refine ⟨s', h1, fun w0 a w Q hc hQ => ?_⟩
      rw [List.length_cons, List.range'_succ, wpOpsIn_cons]
      refine wpOp_gop (aop_sound hG) h0 he hc hcond fun a' w' hcc => h2 w0 a' w' Q ?_ hQ
      rw [St.upd_fs hall]
      exact hcc
    have step : ∀ u : St, u = s → (match wantedS ops.toArray u o with
        | false => (match (gop (aop P failG) ops.toArray (nameS ops n i u) o).run u.fs with
          | none => Tree.bad
          | some e =>
            match e.wr.all fun p => decide (p.1 < u.mem.length) with
            | false => .bad
            | true => needs e.conds (seqT P J call ops n k (i + 1) rest (u.upd o.dst e)))
        | true => match jCall J u o with
          | true => (match jMk J u o with
            | false => (match (gop (aop P J.g) ops.toArray (nameS ops n i u) o).run u.fs with
              | none => Tree.bad
              | some e =>
                match e.wr.all fun p => decide (p.1 < u.mem.length) with
                | false => .bad
                | true => needs e.conds (seqT P J call ops n k (i + 1) rest (u.upd o.dst e)))
            | true => (match (gop (aop P J.g) ops.toArray u.mem.length o).run u.fs with
              | none => Tree.bad
              | some e =>
                match e.wr.all fun p => decide (p.1 < (u.mem ++ [none]).length) with
                | false => .bad
                | true => needs e.conds (seqT P J call ops n k (i + 1) rest (St.upd { tmps := u.tmps, mem := u.mem ++ [none] } o.dst e))))
          | false => match callOfV u o with
            | some (f, args) => call f args u.mem fun v mem => seqT P J call ops n k (i + 1) rest (St.upd { tmps := u.tmps, mem := mem } o.dst ⟨v, [], []⟩)
            | none => (match (gop (aop P failG) ops.toArray (nameS ops n i u) o).run u.fs with
          | none => Tree.bad
          | some e =>
            match e.wr.all fun p => decide (p.1 < u.mem.length) with
            | false => .bad
            | true => needs e.conds (seqT P J call ops n k (i + 1) rest (u.upd o.dst e)))).ok F H →
        ∃ s', (k s').ok F H ∧ ∀ (w0 : Start) (a : Act) (w : World) (Q : Exit → Act → World → Prop), Conc w0 s.fs a w → (∀ a' w', Conc w0 s'.fs a' w' → Q .normal a' w') → wpOpsIn (fz w0.ro) 3 P ops.toArray Q (List.range' i (o :: rest).length) a w := by
      rintro u rfl h
      split at h
      · exact one failG (failG_sound P) u rfl h
      rename_i hwant
      split at h
      · split at h
        · exact one J.g hJ u rfl h
        split at h
        · exact h.elim
        rename_i e he
        split at h
        · exact h.elim
        rename_i hall
        obtain ⟨hcond, h⟩ := needs_ok h
        obtain ⟨s', h1, h2⟩ := seqT_ok hJ hcall rest (i + 1) _ hr' h
        have hfs : St.fs { tmps := u.tmps, mem := u.mem ++ [none] } = u.fs := by
          unfold St.fs
          simp only
          congr 1
          funext m
          simp only [List.getD_eq_getElem?_getD, List.getElem?_append]
          split
          · rfl
          · rename_i hge
            rw [List.getElem?_eq_none (by omega : u.mem.length ≤ m)]
            rcases hm : m - u.mem.length with _ | q <;> simp
        refine ⟨s', h1, fun w0 a w Q hc hQ => ?_⟩
        rw [List.length_cons, List.range'_succ, wpOpsIn_cons]
        refine wpOp_gop (aop_sound hJ) h0 he hc hcond fun a' w' hcc => h2 w0 a' w' Q ?_ hQ
        rw [St.upd_fs hall, hfs]
        exact hcc
      split at h
      rotate_left
      · exact one failG (failG_sound P) u rfl h
      rename_i f args hcv
      obtain ⟨v, mem', hk, hent, hdet⟩ := hcall _ _ _ _ _ _ h
      obtain ⟨s', h1, h2⟩ := seqT_ok hJ hcall rest (i + 1) _ hr' hk
      refine ⟨s', h1, fun w0 a w Q hc hQ => ?_⟩
      rw [List.length_cons, List.range'_succ, wpOpsIn_cons]
      have hw := wanted_of hc hwant
      obtain ⟨c1, c2, c3, ρ, ht, hm⟩ := hc
      unfold callOfV at hcv
      split at hcv
      rotate_left
      · cases hcv
      rename_i fo ags ts ho
      unfold rdCallV at hcv
      obtain ⟨fv, k1, k2⟩ := bind_some hcv
      obtain ⟨l, k3, k4⟩ := bind_some k2
      split at k4
      rotate_left
      · simp [Rd.run] at k4
      rename_i fid first cap
      obtain ⟨rfl, rfl⟩ : fid = f ∧ first.toList ++ l ++ cap.toList = args := by simpa [Rd.run] using k4
      obtain ⟨first', cap', h5, h6, h7⟩ := (rdv_ok k1 ht).func_inv
      have hargs := (h6.append (rdvs_map ht k3)).append h7
      have hex : (execOp a.eval o).run P w = .ok (.enter fid (first' ++ ags.map a.eval ++ cap')) w := by
        simp only [execOp, ho, resolve, h5, Deferred.ofValue, invoke, Sem.run_bind, Sem.run_pure, Result.andThen_ok]
        exact hent _ _
      unfold wpOpIn
      simp only [h0, hw, if_true]
      refine enter_wp (w0 := w0) hex ?_
      refine (hdet w0 ρ _ w hargs hm c3).mono ?_
      rintro e w' ⟨v', ρ', rfl, g1, g2, g3, g4⟩
      refine ⟨v', rfl, ?_⟩
      refine h2 w0 _ w' Q ?_ hQ
      rw [St.upd_fs (by rfl)]
      refine put_conc (w := w) (s := St.fs { tmps := u.tmps, mem := mem' }) c1 c2 g3 (fun t => (ht t).ext g1) g2 ?_
      have : ((St.fs { tmps := u.tmps, mem := mem' }).upd o.dst ⟨v, [], []⟩).blk = fun n => mem'.getD n none := by funext m; simp [FS.upd, lookW, St.fs]
      rw [this]
      exact g4
    simp only [seqT] at h
    split at h
    · exact step s rfl h
    rename_i t _
    split at h
    · rename_i b hb
      have hset : ∀ c, b = c → ({ tmps := s.tmps.set t (.bool c), mem := s.mem } : St) = s := by
        intro c hc
        subst hc
        rw [set_same_list hb]
      obtain ⟨h1, h2⟩ := brT_ok.1 h
      cases b with
      | true => exact step _ (hset true rfl) (h1 rfl)
      | false => exact step _ (hset false rfl) (h2 rfl)
    · exact step s rfl h
/-- A value laid open before what follows. -/
def forceV {R : Type} (v : Value) (k : Value → R) : R :=
  match v with
  | .int kd n => k (.int kd n)
  | .bool b => k (.bool b)
  | .agg ⟨l⟩ => k (.agg ⟨l⟩)
  | .slice a l c => k (.slice a l c)
  | .pointer a => k (.pointer a)
  | v => k v
theorem forceV_eq {R : Type} (v : Value) (k : Value → R) : forceV v k = k v := by
  unfold forceV
  split <;> rfl
def forceL {R : Type} : List Value → (List Value → R) → R
  | [], k => k []
  | v :: r, k => forceV v fun v => forceL r fun r => k (v :: r)
theorem forceL_eq {R : Type} : ∀ (l : List Value) (k : List Value → R), forceL l k = k l
  | [], _ => rfl
  | v :: r, k => by rw [forceL, forceV_eq, forceL_eq r]
def forceB {R : Type} (b : Option Blk) (k : Option Blk → R) : R :=
  match b with
  | none => k none
  | some ⟨kd, .vals l⟩ => forceL l fun l => k (some ⟨kd, .vals l⟩)
  | some b => k (some b)
theorem forceB_eq {R : Type} (b : Option Blk) (k : Option Blk → R) : forceB b k = k b := by
  unfold forceB
  split
  · rfl
  · rw [forceL_eq]
  · rfl
def forceM {R : Type} : List (Option Blk) → (List (Option Blk) → R) → R
  | [], k => k []
  | b :: r, k => forceB b fun b => forceM r fun r => k (b :: r)
theorem forceM_eq {R : Type} : ∀ (l : List (Option Blk)) (k : List (Option Blk) → R), forceM l k = k l
  | [], _ => rfl
  | b :: r, k => by rw [forceM, forceB_eq, forceM_eq r]
def forceS {R : Type} (s : St) (k : St → R) : R := forceL s.tmps fun t => forceM s.mem fun m => k { tmps := t, mem := m }
theorem forceS_eq {R : Type} (s : St) (k : St → R) : forceS s k = k s := by
  unfold forceS
  rw [forceL_eq, forceM_eq]
/-- What is known of a function's loops, by their number in its text. -/
abbrev LT := Nat → St → (Ex → St → Tree) → Option Tree
def loopsOf : Code → List Code
  | .seq x y => loopsOf x ++ loopsOf y
  | .cond _ x y => loopsOf x ++ loopsOf y
  | .block _ c => loopsOf c
  | .loop c => c :: loopsOf c
  | _ => []
def nLoops : Code → Nat
  | .seq x y => nLoops x + nLoops y
  | .cond _ x y => nLoops x + nLoops y
  | .block _ c => nLoops c
  | .loop c => nLoops c + 1
  | _ => 0
theorem nLoops_is (c : Code) : nLoops c = (loopsOf c).length := by
  induction c with
  | seq x y ihx ihy => simp only [nLoops, loopsOf, List.length_append, ihx, ihy]
  | cond _ x y ihx ihy => simp only [nLoops, loopsOf, List.length_append, ihx, ihy]
  | block _ c ih => simp only [nLoops, loopsOf, ih]
  | loop c ih => simp only [nLoops, loopsOf, List.length_cons, ih]
  | _ => rfl
def LoopGood (P : Program) (lt : LT) (j : Nat) (c : Code) : Prop := ∀ s k t F H, lt j s k = some t → t.ok F H → ∃ e' s', (k e' s').ok F H ∧ Det P (.loop c) s e' s'
/-- The table of a function's loops is sound, from a number on. -/
def LoopsGood (P : Program) (lt : LT) (j : Nat) (c : Code) : Prop := ∀ i d, (loopsOf c)[i]? = some d → LoopGood P lt (j + i) d
/-- What is known of a function's loops over functions, by the slot that holds the function. -/
abbrev RT := Nat → St → (Ex → St → Tree) → Option Tree
def rangesOf : Code → List Code
  | .seq x y => rangesOf x ++ rangesOf y
  | .cond _ x y => rangesOf x ++ rangesOf y
  | .block _ c => rangesOf c
  | .loop c => rangesOf c
  | .rangeFunc f ps x y => [.rangeFunc f ps x y]
  | _ => []
def slotOf : Operand → Nat
  | .tmp t => t
  | _ => 0
def RangesGood (P : Program) (rt : RT) (c : Code) : Prop := ∀ d ∈ rangesOf c, ∀ f ps x y, d = .rangeFunc f ps x y → ∀ s k t F H, rt (slotOf f) s k = some t → t.ok F H → ∃ e' s', (k e' s').ok F H ∧ Det P d s e' s'
def noR : RT := fun _ _ _ => none
theorem noR_good {P : Program} {c : Code} : RangesGood P noR c := fun _ _ _ _ _ _ _ _ _ _ _ _ h => by cases h
/-- Code run on a state, calls in place on its memory where the order is the text's. -/
def runN (P : Program) (R : TabR) (J : TabJ) (call : CallK) (callM : CallM) (lt : LT) (rt : RT) (m : Nat) : Code → Nat → (Ex → St → Tree) → St → Tree
  | .skip, _, k, s => k .normal s
  | .region _ ops draw, _, k, s => match draw with
    | true => regionT P R J call true ops.toList s fun s' => forceS s' (k .normal)
    | false => seqT P J callM ops.toList s.mem.length (fun s' => forceS s' (k .normal)) 0 ops.toList { tmps := s.tmps, mem := s.mem ++ List.replicate (countB alStd ops.toList) none }
  | .seq x y, j, k, s => runN P R J call callM lt rt m x j (fun e s' => match e with
    | .normal => runN P R J call callM lt rt m y (j + nLoops x) k s'
    | e => k e s') s
  | .cond c x y, j, k, s =>
    match evalO s c with
    | .bool t => brT t (runN P R J call callM lt rt m x j k s) (runN P R J call callM lt rt m y (j + nLoops x) k s)
    | _ => .bad
  | .block id c, j, k, s => runN P R J call callM lt rt m c j (fun e s' => match e with
    | .exit id' => (match Nat.beq id' id with
      | true => k .normal s'
      | false => k (.exit id') s')
    | e => k e s') s
  | .loop c, j, k, s => match lt j s k with
    | some t => t
    | none => Nat.rec (motive := fun _ => St → Tree) (fun _ => .bad) (fun _ more s => runN P R J call callM lt rt m c (j + 1) (fun e s' => match e with
      | .normal => more s'
      | e => k e s') s) m s
  | .exit id, _, k, s => k (.exit id) s
  | .ret, _, k, s => k .ret s
  | .rangeFunc f _ _ _, _, k, s => match rt (slotOf f) s k with
    | some t => t
    | none => .bad
  | _, _, _, _ => .bad
def roundsN (P : Program) (R : TabR) (J : TabJ) (call : CallK) (callM : CallM) (lt : LT) (rt : RT) (m : Nat) (c : Code) (j : Nat) (k : Ex → St → Tree) : Nat → St → Tree
  | 0, _ => .bad
  | n + 1, s => runN P R J call callM lt rt m c (j + 1) (fun e s' => match e with
    | .normal => roundsN P R J call callM lt rt m c j k n s'
    | e => k e s') s
theorem runN_rounds {P : Program} {R : TabR} {J : TabJ} {call : CallK} {callM : CallM} {lt : LT} {rt : RT} {m : Nat} {c : Code} {j : Nat} {k : Ex → St → Tree} {s : St} (hlt : lt j s k = none) : runN P R J call callM lt rt m (.loop c) j k s = roundsN P R J call callM lt rt m c j k m s := by
  have key : ∀ n s, Nat.rec (motive := fun _ => St → Tree) (fun _ => .bad) (fun _ more s => runN P R J call callM lt rt m c (j + 1) (fun e s' => match e with
      | .normal => more s'
      | e => k e s') s) n s = roundsN P R J call callM lt rt m c j k n s := by
    intro n
    induction n with
    | zero => intro s; rfl
    | succ n ih =>
      intro s
      show runN P R J call callM lt rt m c (j + 1) _ s = runN P R J call callM lt rt m c (j + 1) _ s
      congr 1
      funext e s'
      cases e with
      | normal => exact ih s'
      | _ => rfl
  simp only [runN, hlt]
  exact key m s
theorem runN_det {P : Program} {R : TabR} {J : TabJ} {call : CallK} {callM : CallM} {lt : LT} {rt : RT} (hR : TabROk P R) (hJ : GSound P J.g) (hcall : CallOk P call) (hcallM : CallMOk P callM) (hm : P.follows .mixedOrders = true) {m : Nat} :
    ∀ (c : Code) (j : Nat) (_ : LoopsGood P lt j c) (_ : RangesGood P rt c) (k : Ex → St → Tree) (F : Ex → St → Prop) (H : Value → List (Option Blk) → Prop) (s : St), (runN P R J call callM lt rt m c j k s).ok F H → ∃ e' s', (k e' s').ok F H ∧ Det P c s e' s' := by
  obtain ⟨G, K, hGs, hGK, hGv, hGR⟩ := allG P hJ hR
  intro c
  induction c with
  | skip => intro j hL hRg k F H s h; exact ⟨.normal, s, h, fun w0 a w hc => wpIn_skip ⟨rfl, hc⟩⟩
  | region id ops draw =>
    intro j hL hRg k F H s h
    cases draw with
    | true =>
      obtain ⟨s', C, hr, h1, h2⟩ := regionT_ok hcall hGK hGv hGR h
      rw [forceS_eq] at h2
      refine ⟨.normal, s', h2, Det.of fun w0 a w hrec hc => ?_⟩
      have := region_run (aop_sound hGs) hm hr h1 hc (Q := fun e a w => e = Ex.normal.out ∧ Con w0 s'.fs a w) (id := id) fun a' w' hcc => ⟨rfl, Con.of hrec hcc⟩
      simpa using this
    | false =>
      obtain ⟨s', h1, h2⟩ := seqT_ok hJ hcallM ops.toList 0 _ (fun j => by simp) h
      rw [forceS_eq] at h1
      refine ⟨.normal, s', h1, Det.of fun w0 a w hrec hc => wpIn_region ?_⟩
      have := h2 w0 a w (fun e a w => e = Ex.normal.out ∧ Con w0 s'.fs a w) (by rw [St.pad_fs]; exact hc) fun a' w' hcc => ⟨rfl, Con.of hrec hcc⟩
      rw [List.range_eq_range']
      simpa using this
  | seq x y ihx ihy =>
    intro j hL hRg k F H s h
    have hLx : LoopsGood P lt j x := fun i d hd => hL i d (by
      have hi := (List.getElem?_eq_some_iff.1 hd).1
      simp only [loopsOf]
      rw [List.getElem?_append_left hi]; exact hd)
    have hLy : LoopsGood P lt (j + nLoops x) y := fun i d hd => by
      have := hL (nLoops x + i) d (by
        simp only [loopsOf, nLoops_is]
        rw [List.getElem?_append_right (by omega)]
        simpa using hd)
      rw [Nat.add_assoc]; exact this
    obtain ⟨e1, s1, h1, h2⟩ := ihx j hLx (fun d hd => hRg d (List.mem_append_left _ hd)) _ F H s h
    cases e1 with
    | normal =>
      obtain ⟨e2, s2, h3, h4⟩ := ihy _ hLy (fun d hd => hRg d (List.mem_append_right _ hd)) k F H s1 h1
      refine ⟨e2, s2, h3, fun w0 a w hc => wpIn_seq (wpIn_mono (h2 w0 a w hc) ?_)⟩
      rintro e a' w' ⟨rfl, hcc⟩
      exact h4 w0 a' w' hcc
    | exit id =>
      refine ⟨.exit id, s1, h1, fun w0 a w hc => wpIn_seq (wpIn_mono (h2 w0 a w hc) ?_)⟩
      rintro e a' w' ⟨rfl, hcc⟩
      exact ⟨rfl, hcc⟩
    | ret =>
      refine ⟨.ret, s1, h1, fun w0 a w hc => wpIn_seq (wpIn_mono (h2 w0 a w hc) ?_)⟩
      rintro e a' w' ⟨rfl, hcc⟩
      exact ⟨rfl, hcc⟩
  | cond c x y ihx ihy =>
    intro j hL hRg k F H s h
    have hLx : LoopsGood P lt j x := fun i d hd => hL i d (by
      have hi := (List.getElem?_eq_some_iff.1 hd).1
      simp only [loopsOf]
      rw [List.getElem?_append_left hi]; exact hd)
    have hLy : LoopsGood P lt (j + nLoops x) y := fun i d hd => by
      have := hL (nLoops x + i) d (by
        simp only [loopsOf, nLoops_is]
        rw [List.getElem?_append_right (by omega)]
        simpa using hd)
      rw [Nat.add_assoc]; exact this
    simp only [runN] at h
    split at h
    · rename_i t ht
      obtain ⟨h1, h2⟩ := brT_ok.1 h
      cases t with
      | true =>
        obtain ⟨e1, s1, h3, h4⟩ := ihx _ hLx (fun d hd => hRg d (List.mem_append_left _ hd)) k F H s (h1 rfl)
        exact ⟨e1, s1, h3, fun w0 a w hc => wpIn_cond_true (evalO_con hc ht) (h4 w0 a w hc)⟩
      | false =>
        obtain ⟨e1, s1, h3, h4⟩ := ihy _ hLy (fun d hd => hRg d (List.mem_append_right _ hd)) k F H s (h2 rfl)
        exact ⟨e1, s1, h3, fun w0 a w hc => wpIn_cond_false (evalO_con hc ht) (h4 w0 a w hc)⟩
    · exact h.elim
  | block id c ih =>
    intro j hL hRg k F H s h
    obtain ⟨e1, s1, h1, h2⟩ := ih j (fun i d hd => hL i d hd) (fun d hd => hRg d hd) _ F H s h
    cases e1 with
    | exit id' =>
      simp only at h1
      split at h1
      · rename_i he
        refine ⟨.normal, s1, h1, fun w0 a w hc => wpIn_block (wpIn_mono (h2 w0 a w hc) ?_)⟩
        rintro e a' w' ⟨rfl, hcc⟩
        show Exit.inBlock id _ (.exit id') a' w'
        dsimp only [Exit.inBlock]
        rw [if_pos (Nat.eq_of_beq_eq_true he)]
        exact ⟨rfl, hcc⟩
      · rename_i he
        refine ⟨.exit id', s1, h1, fun w0 a w hc => wpIn_block (wpIn_mono (h2 w0 a w hc) ?_)⟩
        rintro e a' w' ⟨rfl, hcc⟩
        show Exit.inBlock id _ (.exit id') a' w'
        dsimp only [Exit.inBlock]
        rw [if_neg (fun e => by subst e; simp at he)]
        exact ⟨rfl, hcc⟩
    | normal =>
      refine ⟨.normal, s1, h1, fun w0 a w hc => wpIn_block (wpIn_mono (h2 w0 a w hc) ?_)⟩
      rintro e a' w' ⟨rfl, hcc⟩
      exact ⟨rfl, hcc⟩
    | ret =>
      refine ⟨.ret, s1, h1, fun w0 a w hc => wpIn_block (wpIn_mono (h2 w0 a w hc) ?_)⟩
      rintro e a' w' ⟨rfl, hcc⟩
      exact ⟨rfl, hcc⟩
  | loop c ih =>
    intro j hL hRg k F H s h
    have hLc : LoopsGood P lt (j + 1) c := fun i d hd => by
      have := hL (i + 1) d (by simpa [loopsOf] using hd)
      rw [show j + 1 + i = j + (i + 1) by omega]; exact this
    rcases hlt : lt j s k with _ | t
    rotate_left
    · simp only [runN, hlt] at h
      exact hL 0 c (by simp [loopsOf]) s k t F H hlt h
    rw [runN_rounds hlt] at h
    have key : ∀ n s, (roundsN P R J call callM lt rt m c j k n s).ok F H → ∃ e' s', (k e' s').ok F H ∧ Chain P c n s e' s' := by
      intro n
      induction n with
      | zero => intro s h; exact h.elim
      | succ n ihn =>
        intro s h
        obtain ⟨e1, s1, h1, h2⟩ := ih _ hLc (fun d hd => hRg d hd) _ F H s h
        cases e1 with
        | normal =>
          obtain ⟨e2, s2, h3, h4⟩ := ihn s1 h1
          exact ⟨e2, s2, h3, .more h2 h4⟩
        | exit id => exact ⟨.exit id, s1, h1, .stop h2 (by simp)⟩
        | ret => exact ⟨.ret, s1, h1, .stop h2 (by simp)⟩
    obtain ⟨e', s', h1, h2⟩ := key m s h
    exact ⟨e', s', h1, h2.det⟩
  | exit id => intro j hL hRg k F H s h; exact ⟨.exit id, s, h, fun w0 a w hc => wpIn_exit ⟨rfl, hc⟩⟩
  | ret => intro j hL hRg k F H s h; exact ⟨.ret, s, h, fun w0 a w hc => wpIn_ret ⟨rfl, hc⟩⟩
  | rangeFunc f ps x y =>
    intro j hL hRg k F H s h
    simp only [runN] at h
    split at h
    · rename_i t ht
      exact hRg (.rangeFunc f ps x y) (by simp [rangesOf]) f ps x y rfl s k t F H ht h
    · exact h.elim
  | _ => intro j hL hRg k F H s h; exact h.elim

/-- The results of a body, read at its end. -/
def finT (P : Program) (l : List ResultVar) (s : St) (k : Value → List (Option Blk) → Tree) : Tree := match resV P s l with
  | none => .bad
  | some v => k v s.mem
def codeOf (f : Func) : Code := f.body.getD .skip
theorem start_conc {n : Nat} {args : List Value} {mem : List (Option Blk)} {w0 : Start} {w : World} {ρ : Nat → Option Pl} {args' : Array Value} (ha : VRs ρ args args') (hmem : MemOk w0.ρ0 ρ w0.kp (fun n => mem.getD n none) w) (hbel : BelowK w0.kp w0.toWorld w) (hdf : w0.df = []) :
    Conc w0 (St.fs { tmps := args ++ List.replicate (n - args.length) undef, mem := mem }) { tmps := args' ++ Array.replicate (n - args'.size) undef, defers := [] } w := by
  refine ⟨hdf.symm, by simp [St.fs, ha.1], hbel, ρ, fun t => ?_, hmem⟩
  simp only [St.fs, List.getD_eq_getElem?_getD]
  by_cases ht : t < args.length
  · have h1 : args[t]? = some args[t] := by simp
    have ht' : t < args'.size := by rw [← ha.1]; exact ht
    have h2 : args'[t]? = some args'[t] := by simp [ht']
    have := ha.2 t _ _ h1 h2
    rw [List.getElem?_append_left ht, h1]
    simpa [Array.getElem?_append, ht'] using this
  · have ht' : ¬ t < args'.size := by rw [← ha.1]; exact ht
    rw [List.getElem?_append_right (by omega)]
    have e1 : ((List.replicate (n - args.length) undef)[t - args.length]?).getD undef = undef := by
      rw [List.getElem?_replicate]
      split <;> rfl
    rw [e1]
    have e2 : (args' ++ Array.replicate (n - args'.size) undef).getD t undef = undef := by
      simp only [Array.getD_eq_getD_getElem?, Array.getElem?_append, ht', if_false, Array.getElem?_replicate]
      split <;> rfl
    rw [e2]
    exact .lit rfl
/-- The state in which a call with arguments laid open begins. -/
def argVal : Nat → DArg → Value
  | _, .v x => x
  | i, .row l _ => .slice (some ⟨i, 0, none⟩) l l
def argBlk : DArg → Option Blk
  | .v _ => none
  | .row _ cs => some ⟨.view, cs⟩
def argVals : Nat → List DArg → List Value
  | _, [] => []
  | i, d :: r => argVal i d :: argVals (i + 1) r
theorem argVals_get : ∀ (ds : List DArg) (k i : Nat), (argVals k ds)[i]? = (ds[i]?).map (argVal (k + i))
  | [], k, i => by simp [argVals]
  | d :: r, k, i => by
    cases i with
    | zero => simp [argVals]
    | succ i =>
      simp only [argVals, List.getElem?_cons_succ]
      rw [argVals_get r (k + 1) i, show k + 1 + i = k + (i + 1) by omega]
theorem argVals_length : ∀ (ds : List DArg) (k : Nat), (argVals k ds).length = ds.length
  | [], _ => rfl
  | _ :: r, k => by simp [argVals, argVals_length r]
theorem args_open {w : World} {ds : List DArg} {args : Array Value} (h : DOks w ds args) (B : Nat → Prop) : ∃ ρ, VRs ρ (argVals 0 ds) args ∧ MemOk (fun _ => none) ρ B (fun n => (ds.map argBlk).getD n none) w := by
  classical
  let ρ : Nat → Option Pl := fun n => match ds[n]?, args[n]? with
    | some (.row l _), some (.slice ad _ _) => if l = 0 then some (0, 1, some 1) else match ad with
      | some ad => some (ad.block, ad.off, none)
      | none => none
    | _, _ => none
  have hρ : ∀ n l cs, ds[n]? = some (.row l cs) → allAtoms cs = true ∧ ∃ ad c', args[n]? = some (.slice ad l c') ∧ l ≤ c' ∧ ((l = 0 ∧ ρ n = some (0, 1, some 1)) ∨ (∃ g f, ad = some ⟨g, f, none⟩ ∧ g < w.heap.size ∧ ρ n = some (g, f, none) ∧ ∀ (k : Nat) v, cs.list[k]? = some v → w.cell? ⟨g, f + k, none⟩ = some v)) := by
    intro n l cs hn
    have hlt : n < args.size := by
      rw [← h.1]
      rcases Nat.lt_or_ge n ds.length with h' | h'
      · exact h'
      · simp [List.getElem?_eq_none h'] at hn
    have ha : args[n]? = some args[n] := by simp [hlt]
    obtain ⟨hat, ad, c', h1, h2, h3⟩ := h.2 n _ _ hn ha
    refine ⟨hat, ad, c', by rw [ha, h1], h2, ?_⟩
    by_cases h0 : l = 0
    · exact .inl ⟨h0, by simp only [ρ, hn, ha, h1, if_pos h0]⟩
    · obtain ⟨g, f, rfl, h4, h5⟩ := h3.resolve_left h0
      exact .inr ⟨g, f, rfl, h4, by simp only [ρ, hn, ha, h1, if_neg h0], h5⟩
  refine ⟨ρ, ⟨by rw [argVals_length]; exact h.1, fun i v v' hv hv' => ?_⟩, ⟨fun n p hn => by simp at hn, fun n hn => ?_, fun n b hn => ?_, fun n n' b b' p p' hn hown => ?_⟩⟩
  · rw [argVals_get, Nat.zero_add] at hv
    rcases hd : ds[i]? with _ | d
    · simp [hd] at hv
    rw [hd] at hv
    obtain rfl : argVal i d = v := by simpa using hv
    cases d with
    | v x =>
      obtain ⟨hp, rfl⟩ := h.2 i _ _ hd hv'
      exact .lit hp
    | row l cs =>
      obtain ⟨hat, ad, c', h1, h2, h3⟩ := hρ i l cs hd
      rw [h1] at hv'
      obtain rfl : Value.slice ad l c' = v' := by simpa using hv'
      rcases h3 with ⟨rfl, h4⟩ | ⟨g, f, rfl, h4, h5, _⟩
      · exact .nil_ h4 ⟨rfl, 1, rfl⟩ rfl (fun h => by simp at h)
      · exact .slice (o := 0) h5 (.inr rfl) h2 (fun k hk => by simp at hk)
  · rcases hd : ds[n]? with _ | d
    · simp only [ρ, hd]
    · cases d with
      | v x => simp only [ρ, hd]
      | row l cs => simp [hd, argBlk] at hn
  · rcases hd : ds[n]? with _ | d
    · simp [hd] at hn
    · cases d with
      | v x => simp [hd, argBlk] at hn
      | row l cs =>
        have hb : b = ⟨.view, cs⟩ := by
          have : some (⟨.view, cs⟩ : Blk) = some b := by simpa [hd, argBlk] using hn
          simpa using this.symm
        subst hb
        obtain ⟨hat, ad, c', h1, h2, h3⟩ := hρ n l cs hd
        rcases h3 with ⟨rfl, h4⟩ | ⟨g, f, rfl, h4, h5, h6⟩
        · exact .inl ⟨_, h4, rfl, 1, rfl⟩
        · exact .inr ⟨g, f, none, h5, .inr rfl, h4, fun k v hv => ⟨v, h6 k v hv, .lit (plain_of_atom (allAtoms_spec hat v (List.mem_of_getElem? hv)))⟩⟩
  · exfalso
    rcases hd : ds[n]? with _ | d
    · simp [hd] at hn
    · cases d with
      | v x => simp [hd, argBlk] at hn
      | row l cs =>
        have hb : b = ⟨.view, cs⟩ := by
          have : some (⟨.view, cs⟩ : Blk) = some b := by simpa [hd, argBlk] using hn
          simpa using this.symm
        subst hb
        cases hown

/-- Is f a function of the text that can be entered? -/
def entersB (P : Program) (f : FuncId) : Bool :=
  match P.funcs[f]? with
  | some fn => !(fn.name == "runtime.NumGoroutine") && fn.body.isSome && (P.inits.idxOf? f).isNone
  | none => false
def DArg.goodB : DArg → Bool
  | .v x => plainV x
  | .row _ cs => allAtoms cs
/-- A table of what is known of functions. -/
abbrev Tab := FuncId → List DArg → Option (Value × List Prop)
/-- The table is sound. -/
def TabOk (P : Program) (B : Tab) : Prop := ∀ f ds v C, B f ds = some (v, C) → AllP C → Res P f ds v
theorem entersB_spec {P : Program} {f : FuncId} {fn : Func} (hf : P.funcs[f]? = some fn) (h : entersB P f = true) : enters P f ∧ P.inits.idxOf? f = none ∧ ∃ c, fn.body = some c ∧ codeOf fn = c := by
  unfold entersB at h
  rw [hf] at h
  simp only [Bool.and_eq_true, Bool.not_eq_true'] at h
  obtain ⟨⟨h1, h2⟩, h3⟩ := h
  obtain ⟨c, hc⟩ := Option.isSome_iff_exists.1 h2
  refine ⟨enters_of hf h1 (by simp [hc]), by simpa using h3, c, hc, by simp [codeOf, hc]⟩
theorem goodB_good {d : DArg} (h : d.goodB = true) : d.good := by
  cases d <;> exact h
/-- What is known: answers of functions, rows that functions make, loops. -/
structure Env where
  B : Tab
  R : TabR
  L : FuncId → LT
  J : TabJ
  G : FuncId → RT
def mkE (B : Tab) (R : TabR) (L : FuncId → LT) : Env := ⟨B, R, L, noJ, fun _ => noR⟩
def tabE (B : Tab) : Env := mkE B (fun _ _ => none) (fun _ _ _ _ => none)
structure EnvOk (P : Program) (E : Env) : Prop where
  B : TabOk P E.B
  R : TabROk P E.R
  L : ∀ f fn, P.funcs[f]? = some fn → LoopsGood P (E.L f) 0 (codeOf fn)
  J : GSound P E.J.g
  G : ∀ f fn, P.funcs[f]? = some fn → RangesGood P (E.G f) (codeOf fn)
/-- With loops over functions. -/
def withG (E : Env) (G : FuncId → RT) : Env := ⟨E.B, E.R, E.L, E.J, G⟩
theorem withG_ok {P : Program} {E : Env} (hE : EnvOk P E) {G : FuncId → RT} (hG : ∀ f fn, P.funcs[f]? = some fn → RangesGood P (G f) (codeOf fn)) : EnvOk P (withG E G) := ⟨hE.B, hE.R, hE.L, hE.J, hG⟩
theorem mkEOk {P : Program} {B : Tab} {R : TabR} {L : FuncId → LT} (hB : TabOk P B) (hR : TabROk P R) (hL : ∀ f fn, P.funcs[f]? = some fn → LoopsGood P (L f) 0 (codeOf fn)) : EnvOk P (mkE B R L) := ⟨hB, hR, hL, failG_sound P, fun _ _ _ => noR_good⟩
theorem tabE_ok {P : Program} {B : Tab} (h : TabOk P B) : EnvOk P (tabE B) := mkEOk h (fun _ _ _ _ _ h => (by cases h)) (fun _ _ _ _ _ _ _ _ _ _ _ h => (by cases h))
/-- What the table says of a call on a memory. -/
def dsOf (args : List Value) (mem : List (Option Blk)) : Option (List DArg) := (rdArgs args).run { n := 0, tmp := fun _ => undef, blk := fun n => mem.getD n none }
/-- The answer that the tables have. -/
def tabM (E : Env) (f : FuncId) (args : List Value) (mem : List (Option Blk)) (k : Value → List (Option Blk) → Tree) : Option Tree :=
  match dsOf args mem with
  | some ds => (match E.B f ds with
    | some (v, C) => some (needs C (k v mem))
    | none => (match E.R f ds with
      | some (v, b, C) => some (needs C (k (atName mem.length v) (mem ++ [some b])))
      | none => none))
  | none => none
/-- A function run in place on a memory; the tables are asked first. -/
def asK (P : Program) (E : Env) (callM : CallM) : CallK := fun f ds k => match E.B f ds with
  | some (v, C) => needs C (k v)
  | none => match entersB P f, ds.all DArg.goodB with
    | true, true => callM f (argVals 0 ds) (ds.map argBlk) fun v _ => (match plainV v with
      | true => k v
      | false => .bad)
    | _, _ => .bad
def bodyM (P : Program) (E : Env) (callM : CallM) (m : Nat) (f : FuncId) (args : List Value) (mem : List (Option Blk)) (k : Value → List (Option Blk) → Tree) : Tree :=
  match P.funcs[f]?, entersB P f with
  | some fn, true => runN P E.R E.J (asK P E callM) callM (E.L f) (E.G f) m (codeOf fn) 0 (fun e s => match e with
    | .normal => finT P fn.results.toList s k
    | .ret => finT P fn.results.toList s k
    | .exit _ => .bad) { tmps := args ++ List.replicate (fn.ntmps - args.length) undef, mem := mem }
  | _, _ => .bad
def runM (P : Program) (E : Env) (m : Nat) : Nat → CallM
  | 0, f, args, mem, k => (tabM E f args mem k).getD .bad
  | n + 1, f, args, mem, k => match tabM E f args mem k with
    | some t => t
    | none => bodyM P E (runM P E m n) m f args mem k
def runX (P : Program) (E : Env) (m n : Nat) : CallK := asK P E (runM P E m n)
theorem tabM_ok {P : Program} {E : Env} (hE : EnvOk P E) {f : FuncId} {args : List Value} {mem : List (Option Blk)} {k : Value → List (Option Blk) → Tree} {t : Tree} (h : tabM E f args mem k = some t) {F : Ex → St → Prop} {H : Value → List (Option Blk) → Prop} (ht : t.ok F H) :
    ∃ v mem', (k v mem').ok F H ∧ enters P f ∧
    ∀ (w0 : Start) (ρ : Nat → Option Pl) (args' : Array Value) (w : World), VRs ρ args args' → MemOk w0.ρ0 ρ w0.kp (fun n => mem.getD n none) w → BelowK w0.kp w0.toWorld w →
    Calls P f args' w fun e w' => ∃ v' ρ', e = .returned v' ∧ Ext ρ ρ' ∧ VR ρ' v v' ∧ BelowK w0.kp w0.toWorld w' ∧ MemOk w0.ρ0 ρ' w0.kp (fun n => mem'.getD n none) w' := by
  unfold tabM at h
  split at h
  rotate_left
  · cases h
  rename_i ds hds
  split at h
  · rename_i v C hB
    obtain rfl : needs C (k v mem) = t := by simpa using h
    obtain ⟨hC, hk⟩ := needs_ok ht
    obtain ⟨h1, _, h3, _, h4⟩ := hE.B f ds v C hB hC
    refine ⟨v, mem, hk, h1, fun w0 ρ args' w ha hm hb => (h4 w args' ((rdArgs_ok hds).2 ha hm)).mono ?_⟩
    rintro e w' ⟨rfl, hbw⟩
    have hsz : ∀ k, w0.kp k → k < w.heap.size := fun k hk => Nat.lt_of_lt_of_le (w0.kpl k hk) hb.size
    exact ⟨v, ρ, rfl, Ext.refl ρ, .lit h3, hb.trans (BelowK.of hbw hsz), hm.keep hbw⟩
  · split at h
    rotate_left
    · cases h
    rename_i v b C hR
    obtain rfl : needs C (k (atName mem.length v) (mem ++ [some b])) = t := by simpa using h
    obtain ⟨hC, hk⟩ := needs_ok ht
    obtain ⟨h1, _, hown, _, h4⟩ := hE.R f ds v b C hR hC
    refine ⟨_, _, hk, h1, fun w0 ρ args' w ha hm hb => (h4 w args' ((rdArgs_ok hds).2 ha hm)).mono ?_⟩
    rintro e w' ⟨v', p, rfl, hbw, hrow⟩
    have hsz : ∀ k, w0.kp k → k < w.heap.size := fun k hk => Nat.lt_of_lt_of_le (w0.kpl k hk) hb.size
    have hfree : (fun n => mem.getD n none) mem.length = none := by simp
    obtain ⟨g1, g2⟩ := hrow (addPl ρ mem.length p) mem.length (addPl_same _ _ _)
    refine ⟨v', addPl ρ mem.length p, rfl, addPl_ext (hm.fresh _ hfree), g1, hb.trans (BelowK.of hbw hsz), ?_⟩
    have e : (fun n => (mem ++ [some b]).getD n none) = setB (fun n => mem.getD n none) mem.length b := by
      funext n
      simp only [setB, List.getD_eq_getElem?_getD]
      by_cases hn : n = mem.length
      · subst hn; simp
      · rw [if_neg hn]
        rcases Nat.lt_or_ge n mem.length with hlt | hge
        · rw [List.getElem?_append_left hlt]
        · rw [List.getElem?_append_right hge, List.getElem?_eq_none (by simp; omega), List.getElem?_eq_none hge]
    rw [e]
    exact hm.newRow hsz hbw hfree hown g2
theorem asK_ok {P : Program} {E : Env} (hE : EnvOk P E) {callM : CallM} (hcallM : CallMOk P callM) : CallOk P (asK P E callM) := by
  intro f ds k F H h
  simp only [asK] at h
  split at h
  · rename_i v C hv
    obtain ⟨h1, h2⟩ := needs_ok h
    exact ⟨v, hE.B f ds v C hv h1, h2⟩
  split at h
  rotate_left
  · exact h.elim
  rename_i hen hg
  obtain ⟨v, mem', hk, hent, hdet⟩ := hcallM f _ _ _ _ _ h
  split at hk
  rotate_left
  · exact hk.elim
  rename_i hv
  have hin : P.inits.idxOf? f = none := by
    unfold entersB at hen
    split at hen
    · rename_i fn hf
      exact (entersB_spec hf (by unfold entersB; rw [hf]; exact hen)).2.1
    · cases hen
  refine ⟨v, ⟨hent, hin, hv, fun d hd => goodB_good (List.all_eq_true.1 hg d hd), fun w args hargs => ?_⟩, hk⟩
  obtain ⟨ρ, ha, hmem⟩ := args_open hargs (fun k => k < w.heap.size)
  refine (hdet ⟨w, fun _ => none, fun k => k < w.heap.size, fun _ h => h, [], none⟩ ρ args w ha hmem (BelowK.refl _ _)).mono ?_
  rintro e w' ⟨v', ρ', rfl, _, g2, g3, _⟩
  rw [g2.plain hv]
  exact ⟨rfl, g3.to⟩
theorem bodyM_ok {P : Program} {E : Env} (hE : EnvOk P E) (hm : P.follows .mixedOrders = true) {callM : CallM} (hcallM : CallMOk P callM) (m : Nat) : CallMOk P (bodyM P E callM m) := by
  intro f args mem k F H h
  unfold bodyM at h
  split at h
  rotate_left
  · exact h.elim
  rename_i fn hf hen
  obtain ⟨h1, h2, c, hbody, hcode⟩ := entersB_spec hf hen
  have hL := hE.L f fn hf
  have hG := hE.G f fn hf
  rw [hcode] at h hL hG
  obtain ⟨e', s', hk, hdet⟩ := runN_det hE.R hE.J (asK_ok hE hcallM) hcallM hm c 0 hL hG _ F H _ h
  have key : (finT P fn.results.toList s' k).ok F H → ∃ v, resV P s' fn.results.toList = some v ∧ (k v s'.mem).ok F H := by
    intro hk
    unfold finT at hk
    split at hk
    · exact hk.elim
    rename_i v hv
    exact ⟨v, hv, hk⟩
  have fin : (e' = .normal ∨ e' = .ret) ∧ ∃ v, resV P s' fn.results.toList = some v ∧ (k v s'.mem).ok F H := by
    cases e' with
    | normal => exact ⟨.inl rfl, key hk⟩
    | ret => exact ⟨.inr rfl, key hk⟩
    | exit id => exact hk.elim
  obtain ⟨he', v, hv, hkv⟩ := fin
  refine ⟨v, s'.mem, hkv, h1, fun w0 ρ args' w ha hmem hbel => ?_⟩
  refine (callsIn_wide (n := 3)).1 (callsIn_of_wp_marks hf hbody trivial (wpIn_mono (hdet ⟨w0.toWorld, ρ, w0.kp, w0.kpl, [], none⟩ _ w (Con.of (fun l h => by cases h) (start_conc (w0 := ⟨w0.toWorld, ρ, w0.kp, w0.kpl, [], none⟩) ha hmem.rebase hbel rfl))) ?_) rfl)
  rintro e a' w' ⟨rfl, _, w1, hl, c1, c2, c3, ρ', c4, c5⟩
  obtain ⟨ms, hms, hnd, hmk⟩ := hl.df
  have hdf : a'.defers = ms.map mkDf := by rw [c1, hms]; simp
  have fin : LeavesInM Fence.wide 3 P fn a'.tmps (fun e w' => ∃ v' ρ', e = .returned v' ∧ Ext ρ ρ' ∧ VR ρ' v v' ∧ BelowK w0.kp w0.toWorld w' ∧ MemOk w0.ρ0 ρ' w0.kp (fun n => s'.mem.getD n none) w') a'.defers .returning w' := by
    rw [hdf]
    have hext : Ext ρ ρ' := by have := c5.ext; rwa [hl.ρ0] at this
    have c5' : MemOk w0.ρ0 ρ' w0.kp s'.fs.blk w' := MemOk.less ⟨hmem.ext.trans hext, c5.fresh, c5.ok, c5.sep⟩ hl.kp
    refine marks_leave (fun W => BelowK w0.kp w0.toWorld W ∧ MemOk w0.ρ0 ρ' w0.kp s'.fs.blk W) ms w' (fun D hD => ((c3.block D (hmk D hD).2.2.1).trans (hmk D hD).2.2.2)) hnd (fun W D hD hJ hW => ⟨?_, ?_⟩) ⟨?_, c5'⟩ (fun W hJ => ?_)
    · exact hJ.1.trans ⟨rfl, rfl, rfl, by simp, fun k hk => World.putObj_heap_other (fun e => (hmk D hD).1 (by rw [← e]; exact hk))⟩
    · refine hJ.2.grown (by simp) fun k o ho hc => World.putObj_heap_other (fun e => ?_)
      rw [e, hW] at ho
      cases ho
      cases hc
    · exact ⟨c3.os.trans hl.bel.os, c3.tape.trans hl.bel.tape, c3.output.trans hl.bel.output, Nat.le_trans hl.bel.size c3.size, fun x hx => (c3.block x (hl.kp x hx)).trans (hl.bel.block x hx)⟩
    · obtain ⟨v', k1, k2⟩ := resV_run (fn := fn) (l := fn.results.toList) (by simp) hv c4 hJ.2
      exact ⟨v', k1, v', ρ', rfl, hext, k2, hJ.1, hJ.2⟩
  rcases he' with rfl | rfl <;> exact fin
theorem runM_ok {P : Program} (hm : P.follows .mixedOrders = true) {E : Env} (hE : EnvOk P E) (m : Nat) : ∀ n, CallMOk P (runM P E m n) := by
  intro n
  induction n with
  | zero =>
    intro f args mem k F H h
    simp only [runM] at h
    rcases ht : tabM E f args mem k with _ | t
    · rw [ht] at h; exact h.elim
    · rw [ht] at h
      exact tabM_ok hE ht h
  | succ n ih =>
    intro f args mem k F H h
    simp only [runM] at h
    split at h
    · rename_i t ht
      exact tabM_ok hE ht h
    · exact bodyM_ok hE hm ih m f args mem k F H h
theorem runX_ok {P : Program} (hm : P.follows .mixedOrders = true) {E : Env} (hE : EnvOk P E) (m n : Nat) : CallOk P (runX P E m n) := asK_ok hE (runM_ok hm hE m n)
/-- What a function's tree says is what it answers. -/
theorem res_of {P : Program} (hm : P.follows .mixedOrders = true) {E : Env} (hE : EnvOk P E) {m n : Nat} {f : FuncId} {ds : List DArg} {v : Value}
    (h : (runX P E m n f ds fun u => .fin u []).ok (fun _ _ => False) (fun u _ => u = v)) : Res P f ds v := by
  obtain ⟨u, hu, hk⟩ := runX_ok hm hE m n f ds _ _ _ h
  obtain rfl : u = v := hk
  exact hu
/-- A function's body on its arguments, what it hands back and its memory. -/
def bodyX (P : Program) (E : Env) (m n : Nat) (f : FuncId) (ds : List DArg) : Tree :=
  match ds.all DArg.goodB with
  | true => bodyM P E (runM P E m n) m f (argVals 0 ds) (ds.map argBlk) .fin
  | false => .bad
theorem bodyX_res {P : Program} (hm : P.follows .mixedOrders = true) {E : Env} (hE : EnvOk P E) {m n : Nat} {f : FuncId} {ds : List DArg} {v : Value} (hv : plainV v = true)
    (h : (bodyX P E m n f ds).ok (fun _ _ => False) (fun u _ => u = v)) : Res P f ds v := by
  unfold bodyX at h
  split at h
  rotate_left
  · exact h.elim
  rename_i hg
  obtain ⟨u, mem', hk, hent, hdet⟩ := bodyM_ok hE hm (runM_ok hm hE m n) m f _ _ _ _ _ h
  obtain rfl : u = v := hk
  have hin : P.inits.idxOf? f = none := by
    unfold bodyM at h
    split at h
    rotate_left
    · exact h.elim
    rename_i fn hf hen
    exact (entersB_spec hf hen).2.1
  refine ⟨hent, hin, hv, fun d hd => goodB_good (List.all_eq_true.1 hg d hd), fun w args hargs => ?_⟩
  obtain ⟨ρ, ha, hmem⟩ := args_open hargs (fun k => k < w.heap.size)
  refine (hdet ⟨w, fun _ => none, fun k => k < w.heap.size, fun _ h => h, [], none⟩ ρ args w ha hmem (BelowK.refl _ _)).mono ?_
  rintro e w' ⟨v', ρ', rfl, _, g2, g3, _⟩
  rw [g2.plain hv]
  exact ⟨rfl, g3.to⟩
/-- What a body hands back, beside what is told of it: src is the name of the row, none if it is nil. -/
def rv1 (src : Option Nat) : Value → Value → Prop
  | .slice (some ⟨n, o, none⟩) l _, .slice (some ⟨0, o', none⟩) l' _ => src = some n ∧ o = o' ∧ l = l'
  | .slice none 0 0, .slice (some ⟨0, _, none⟩) l' _ => src = none ∧ l' = 0
  | u, v => u = v ∧ plainV v = true
def rvl (src : Option Nat) : List Value → List Value → Prop
  | [], [] => True
  | u :: r, v :: r' => rv1 src u v ∧ rvl src r r'
  | _, _ => False
def rv (src : Option Nat) : Value → Value → Prop
  | .tuple ⟨l⟩, .tuple ⟨l'⟩ => rvl src l l'
  | u, v => rv1 src u v
def rc : Cs → Cs → Prop
  | .ints xs, .ints ys => xs = ys
  | .vals l, .ints ys => intsOf l = some ys
  | .vals l, .vals l' => l = l' ∧ allAtoms (.vals l') = true
  | .ints _, .vals _ => False
  | .bytes xs, .bytes ys => xs = ys
  | _, _ => False
def rb (b' b : Blk) : Prop :=
  match b'.kind, b.kind with
  | .row e sz, .row e' sz' => e = e' ∧ sz = sz' ∧ rc b'.cs b.cs
  | _, _ => False
def isRow (b : Blk) : Bool := match b.kind with
  | .row _ _ => true
  | _ => false
def RowIs (v : Value) (b : Blk) (u : Value) (mem : List (Option Blk)) : Prop :=
  ∃ src : Option Nat, rv src u v ∧ match src with
    | some n => (match mem.getD n none with
      | some b' => rb b' b
      | none => False)
    | none => True
theorem atName1_plain {name : Nat} {v : Value} (h : plainV v = true) : atName1 name v = v := by
  unfold atName1
  split
  · simp [plainV, atomV] at h
  · rfl
theorem rv1_ok {src : Option Nat} {ρ ρ' : Nat → Option Pl} {name : Nat} (h0 : match src with
    | some n => ρ' name = ρ n
    | none => ρ' name = some (0, 1, some 0)) {u v x : Value} (h : rv1 src u v) (k : VR ρ u x) : VR ρ' (atName1 name v) x := by
  unfold rv1 at h
  split at h
  · rename_i n o l c o' l' c'
    obtain ⟨rfl, rfl, rfl⟩ := h
    simp only at h0
    rcases k.slice_inv with ⟨g, f', cp, c2, h2, hq, rfl, h4, h5⟩ | ⟨rfl, h2, ad, c2, rfl⟩ | ⟨rfl, ad, c2, p, rfl, h2, h3, h4⟩
    · exact .slice (h0.trans h2) hq h4 h5
    · exact .none_ h2
    · exact .nil_ (h0.trans h2) h3 rfl h4
  · obtain ⟨rfl, rfl⟩ := h
    obtain rfl := k.plain rfl
    exact .nil_ h0 ⟨rfl, 0, rfl⟩ rfl (fun _ => ⟨rfl, rfl⟩)
  · obtain ⟨rfl, h1⟩ := h
    obtain rfl := k.plain h1
    rw [atName1_plain h1]
    exact .lit h1
theorem rvl_ok {src : Option Nat} {ρ ρ' : Nat → Option Pl} {name : Nat} (h0 : match src with
    | some n => ρ' name = ρ n
    | none => ρ' name = some (0, 1, some 0)) : ∀ {l l' : List Value}, rvl src l l' → l.length = l'.length ∧ ∀ (i : Nat) v x, (l'.map (atName1 name))[i]? = some v → (∀ u, l[i]? = some u → VR ρ u x) → VR ρ' v x
  | [], [], _ => ⟨rfl, fun i v x h => by simp at h⟩
  | [], _ :: _, h => h.elim
  | _ :: _, [], h => h.elim
  | u :: r, v :: r', h => by
    obtain ⟨h1, h2⟩ := h
    obtain ⟨h3, h4⟩ := rvl_ok h0 h2
    refine ⟨by simp [h3], fun i y x hy hx => ?_⟩
    cases i with
    | zero =>
      obtain rfl : atName1 name v = y := by simpa using hy
      exact rv1_ok h0 h1 (hx u rfl)
    | succ i => exact h4 i y x (by simpa using hy) fun v hv => hx v (by simpa using hv)
theorem rv_ok {src : Option Nat} {ρ ρ' : Nat → Option Pl} {name : Nat} (h0 : match src with
    | some n => ρ' name = ρ n
    | none => ρ' name = some (0, 1, some 0)) {u v x : Value} (h : rv src u v) (k : VR ρ u x) : VR ρ' (atName name v) x := by
  unfold rv at h
  split at h
  · rename_i l l'
    obtain ⟨cs, rfl, h1, h2⟩ := k.tuple_inv
    obtain ⟨h3, h4⟩ := rvl_ok h0 h
    refine .tuple (by simp at h1 ⊢; omega) fun i v y hv hy => h4 i v y (by simpa using hv) fun u hu => h2 i u y (by simpa using hu) hy
  · rename_i hne
    have e : atName name v = atName1 name v := by
      unfold atName
      split
      · rename_i l'
        exfalso
        unfold rv1 at h
        split at h
        · rename_i h1; cases h1
        · rename_i h1; cases h1
        · obtain ⟨rfl, _⟩ := h
          exact hne _ _ rfl rfl
      · rfl
    rw [e]
    exact rv1_ok h0 h k
theorem rc_list {c c' : Cs} (h : rc c c') : c.list = c'.list ∧ ∀ v ∈ c'.list, atomV v = true := by
  have ints : ∀ xs : List Int, ∀ v ∈ xs.map (Value.int .i64), atomV v = true := by
    intro xs v hv
    obtain ⟨x, _, rfl⟩ := List.mem_map.1 hv
    rfl
  unfold rc at h
  split at h
  · subst h; exact ⟨rfl, ints _⟩
  · have := intsOf_spec h
    subst this
    exact ⟨rfl, ints _⟩
  · obtain ⟨rfl, h⟩ := h
    exact ⟨rfl, allAtoms_spec h⟩
  · exact h.elim
  · subst h
    exact ⟨rfl, fun v hv => by
      obtain ⟨x, _, rfl⟩ := List.mem_map.1 hv
      rfl⟩
  · exact h.elim
theorem bodyX_resR {P : Program} (hm : P.follows .mixedOrders = true) {E : Env} (hE : EnvOk P E) {m n : Nat} {f : FuncId} {ds : List DArg} {v : Value} {b : Blk} (hb : isRow b = true)
    (h : (bodyX P E m n f ds).ok (fun _ _ => False) (fun u mem => RowIs v b u mem)) : ResR P f ds v b := by
  unfold bodyX at h
  split at h
  rotate_left
  · exact h.elim
  rename_i hg
  obtain ⟨u, mem', ⟨src, hrv, hsrc⟩, hent, hdet⟩ := bodyM_ok hE hm (runM_ok hm hE m n) m f _ _ _ _ _ h
  have hin : P.inits.idxOf? f = none := by
    unfold bodyM at h
    split at h
    rotate_left
    · exact h.elim
    rename_i fn hf hen
    exact (entersB_spec hf hen).2.1
  obtain ⟨kd, cs⟩ := b
  cases kd with
  | row e sz =>
    refine ⟨hent, hin, rfl, fun d hd => goodB_good (List.all_eq_true.1 hg d hd), fun w args hargs => ?_⟩
    obtain ⟨ρ, ha, hmem⟩ := args_open hargs (fun k => k < w.heap.size)
    refine (hdet ⟨w, fun _ => none, fun k => k < w.heap.size, fun _ h => h, [], none⟩ ρ args w ha hmem (BelowK.refl _ _)).mono ?_
    rintro e' w' ⟨v', ρ', rfl, _, g2, g3, g4⟩
    cases src with
    | none => exact ⟨v', (0, 1, some 0), rfl, g3.to, fun ρ2 name hp => ⟨rv_ok (ρ := ρ') (src := none) hp hrv g2, .inl ⟨_, hp, rfl, rfl⟩⟩⟩
    | some k =>
      simp only at hsrc
      split at hsrc
      rotate_left
      · exact hsrc.elim
      rename_i b' hb'
      obtain ⟨kd', cs'⟩ := b'
      cases kd' with
      | row e2 sz2 =>
        obtain ⟨rfl, rfl, hc⟩ := hsrc
        obtain ⟨c1, c2⟩ := rc_list hc
        rcases g4.ok k _ hb' with ⟨p, h1, h2, h3⟩ | ⟨g, cap, h1, h2, arr, h3, h4, h5⟩
        · exact ⟨v', p, rfl, g3.to, fun ρ2 name hp => ⟨rv_ok (ρ := ρ') (src := some k) (hp.trans h1.symm) hrv g2, .inl ⟨p, hp, h2, h3⟩⟩⟩
        · refine ⟨v', _, rfl, g3.to, fun ρ2 name hp => ⟨rv_ok (ρ := ρ') (src := some k) (hp.trans h1.symm) hrv g2, .inr ⟨g, cap, hp, h2, arr, h3, h4, ?_⟩⟩⟩
          intro i x hx
          obtain ⟨x', k1, k2⟩ := h5 i x (by show cs'.list[i]? = some x; rw [c1]; exact hx)
          refine ⟨x', k1, ?_⟩
          have hat := plain_of_atom (c2 x (List.mem_of_getElem? hx))
          rw [k2.plain hat]
          exact .lit hat
      | _ => exact hsrc.elim
  | _ => cases hb
/-- A call with plain arguments. -/
theorem Res.plain_call {P : Program} {f : FuncId} {args : List Value} {v : Value} (h : Res P f (args.map .v) v) (hp : args.all plainV = true) (w : World) : Calls P f args.toArray w fun e w' => e = .returned v ∧ Below w.heap.size w w' := by
  refine h.2.2.2.2 w args.toArray ⟨by simp, fun i d y hd hy => ?_⟩
  have hy' : args[i]? = some y := by simpa using hy
  rw [List.getElem?_map, hy'] at hd
  obtain rfl : DArg.v y = d := by simpa using hd
  exact ⟨List.all_eq_true.1 hp y (List.mem_of_getElem? hy'), rfl⟩
end Go.Proofs.Ytoijfjifaljpaab
