/-
  The small machine beside the model's: stores, addresses, slices, calls. Written by an AI agent.
-/
import Derived.Test.YtoijfjifaljpaabAbsE
import Derived.Laws.CopyRow
namespace Go.Proofs.Ytoijfjifaljpaab
open Go.RowKit

def oneV : Value → Bool
  | .agg _ | .tuple _ | .chan _ => false
  | _ => true
theorem oneV_of {ρ : Nat → Option Pl} {v v' : Value} (k : VR ρ v v') (h : oneV v = true) : v'.oneCell' = true := by
  cases k with
  | @lit v hp => cases v <;> first | rfl | (simp [oneV] at h)
  | agg hs hh => simp [oneV] at h
  | tuple hs hh => simp [oneV] at h
  | top => simp [oneV, topV] at h
  | _ => rfl
def writeAt (cs : List Value) (o : Nat) (vs : List Value) : List Value := cs.take o ++ vs ++ cs.drop (o + vs.length)
/-- The ints of cells. -/
def intsOf : List Value → Option (List Int)
  | [] => some []
  | .int .i64 n :: r => (match intsOf r with
    | some l => some (n :: l)
    | none => none)
  | _ => none
theorem intsOf_spec : ∀ {vs : List Value} {ns : List Int}, intsOf vs = some ns → vs = ns.map (Value.int .i64)
  | [], ns, h => by
    obtain rfl : [] = ns := by simpa [intsOf] using h
    rfl
  | v :: r, ns, h => by
    unfold intsOf at h
    split at h
    · rename_i hv
      cases hv
    · rename_i n r' hv
      obtain ⟨rfl, rfl⟩ : v = .int .i64 n ∧ r = r' := by simpa using hv
      split at h
      · rename_i l hl
        obtain rfl : n :: l = ns := by simpa using h
        rw [intsOf_spec hl]
        rfl
      · cases h
    · cases h
def setInts (xs : List Int) (o : Nat) (ns : List Int) : List Int := xs.take o ++ ns ++ xs.drop (o + ns.length)
/-- Cells written: ints among ints stay ints. -/
def Cs.write : Cs → Nat → List Value → Cs
  | .vals cs, o, vs => .vals (writeAt cs o vs)
  | .ints xs, o, vs => match intsOf vs with
    | some ns => .ints (setInts xs o ns)
    | none => .vals (writeAt (xs.map (Value.int .i64)) o vs)
  | .bytes bs, o, vs => .vals (writeAt (bs.map (Value.int .u8)) o vs)
theorem Cs.write_list (c : Cs) (o : Nat) (vs : List Value) : (c.write o vs).list = writeAt c.list o vs := by
  cases c with
  | vals l => rfl
  | ints xs =>
    simp only [Cs.write]
    split
    · rename_i ns hns
      rw [intsOf_spec hns]
      simp [Cs.list, writeAt, setInts]
    · rfl
  | bytes bs => rfl
theorem writeAt_length {cs vs : List Value} {o : Nat} (h : o + vs.length ≤ cs.length) : (writeAt cs o vs).length = cs.length := by
  simp [writeAt]
  omega
theorem Cells.write {ρ : Nat → Option Pl} {cs : List Value} {cs' : Array Value} (h : Cells ρ cs cs') {vs : List Value} {vs' : Array Value} (hv : Cells ρ vs vs') (hl : vs.length = vs'.size) {o : Nat} (ho : o + vs.length ≤ cs.length) (ho' : o + vs.length ≤ cs'.size) :
    Cells ρ (writeAt cs o vs) (cs'.toList.take o ++ vs'.toList ++ cs'.toList.drop (o + vs'.toList.length)).toArray := by
  intro k v hk
  have e1 : vs'.toList.length = vs.length := by simp [hl]
  rw [e1]
  unfold writeAt at hk
  have m1 : min o cs.length = o := by omega
  have m2 : min o cs'.size = o := by omega
  rw [List.getElem?_append, List.getElem?_append] at hk
  simp only [List.length_append, List.length_take, m1] at hk
  simp only [List.getElem?_toArray]
  rw [List.getElem?_append, List.getElem?_append]
  simp only [List.length_append, List.length_take, Array.length_toList, m2, e1]
  split at hk
  · rename_i h1
    rw [if_pos h1]
    split at hk
    · rename_i h2
      rw [if_pos h2]
      rw [List.getElem?_take_of_lt h2] at hk
      obtain ⟨v', h3, h4⟩ := h k v hk
      exact ⟨v', by rw [List.getElem?_take_of_lt h2]; simpa using h3, h4⟩
    · rename_i h2
      rw [if_neg h2]
      obtain ⟨v', h3, h4⟩ := hv _ v hk
      exact ⟨v', by simpa using h3, h4⟩
  · rename_i h1
    rw [if_neg h1]
    rw [List.getElem?_drop] at hk
    obtain ⟨v', h3, h4⟩ := h _ v hk
    exact ⟨v', by rw [List.getElem?_drop]; simpa using h3, h4⟩
theorem setRow_ne (w : World) (g : Nat) (cs : Array Value) (k : Nat) (h : k ≠ g) : (w.setRow g cs).heap[k]? = w.heap[k]? := by
  simp only [World.setRow, Array.getElem?_modify]
  rw [if_neg (fun e => h e.symm)]
theorem setRow_below {B : Nat → Prop} {a w : World} (h : BelowK B a w) {g : Nat} (hg : ¬ B g) (cs : Array Value) : BelowK B a (w.setRow g cs) :=
  h.trans ⟨rfl, rfl, rfl, by simp [World.setRow], fun k hk => setRow_ne w g cs k (fun e => hg (e ▸ hk))⟩

theorem run_storeVar_at {P : Program} {t : TypeId} {g off : Nat} {v : Value} {cur : Array Value} {e : TypeId} {w : World} (hsz : (P.info? t).map (·.size) = some v.cells.size) (hh : w.heap[g]? = some (.cells cur e (0, 0))) (hfit : off + v.cells.size ≤ cur.size)
    (h1 : ∀ u ∈ v.cells.toList, u.oneCell' = true) : (storeVar t ⟨g, off, none⟩ v).run P w = .ok () (w.setRow g (cur.toList.take off ++ v.cells.toList ++ cur.toList.drop (off + v.cells.toList.length)).toArray) := by
  have hst := run_storeCells_at P g off e v.cells.toList 0 cur w hh (by simpa using hfit) h1
  rw [Nat.add_zero] at hst
  rcases hi : P.info? t with _ | i
  · simp [hi] at hsz
  simp only [hi, Option.map_some, Option.some.injEq] at hsz
  have hz : (sizeOf t).run P w = .ok v.cells.size w := by simp [sizeOf, typeInfo, hi, hsz]
  unfold storeVar
  simp only [Sem.run_bind, hz, Result.andThen_ok, ne_eq, not_true_eq_false, if_false]
  exact hst

def storeOp (P : Program) (t : TypeId) (x y : Operand) : Rd Eff := (rdv x).bind fun p => (rdv y).bind fun v => match p with
  | .pointer (some ⟨n, o, none⟩) => .blk n fun b => match b with
    | some b => (match decide (sizeT P t = some v.cells.toList.length), v.cells.toList.all oneV with
      | true, true => (match b.kind with
        | .box => (match Nat.ble (o + v.cells.toList.length) b.cells.length with
          | true => .ret ⟨undef, [(n, ⟨.box, b.cs.write o v.cells.toList⟩)], []⟩
          | false => .fail)
        | .row e sz => (match Nat.ble 1 v.cells.toList.length with
          | true => .ret ⟨undef, [(n, ⟨.row e sz, b.cs.write o v.cells.toList⟩)], [o + v.cells.toList.length ≤ b.cs.size]⟩
          | false => .fail)
        | _ => .fail)
      | _, _ => .fail)
    | none => .fail
  | _ => .fail
theorem storeOp_sound {P : Program} {o : Oper} {t : TypeId} {x y : Operand} (ho : o.op = .store t x y) {s : FS} {eff : Eff} {w0 : Start} {a : Act} {w : World} {Q : Exit → Act → World → Prop} {K : Act → World → Prop}
    (hr : (storeOp P t x y).run s = some eff) (hc : Conc w0 s a w) (hcond : eff.cond) (hK : ∀ a' w', Conc w0 (s.upd o.dst eff) a' w' → K a' w') : owp P w0 o a w K Q := by
  obtain ⟨ρ, ht, hm⟩ := hc.2.2.2
  obtain ⟨p, h1, h2⟩ := bind_some hr
  obtain ⟨v, h3, h4⟩ := bind_some h2
  split at h4
  rotate_left
  · simp [Rd.run] at h4
  rename_i n off
  simp only [Rd.run] at h4
  split at h4
  rotate_left
  · simp [Rd.run] at h4
  rename_i b hb
  split at h4
  rotate_left
  · simp [Rd.run] at h4
  rename_i hsz hone
  obtain ⟨hval, hwr, hcond', hkind⟩ : eff.val = undef ∧ eff.wr = [(n, ⟨b.kind, b.cs.write off v.cells.toList⟩)] ∧ off + v.cells.toList.length ≤ b.cells.length ∧ (b.kind = .box ∨ 1 ≤ v.cells.toList.length ∧ ∃ e sz, b.kind = .row e sz) := by
    split at h4
    · rename_i hk
      split at h4
      · rename_i hle
        obtain rfl : (⟨undef, [(n, ⟨.box, b.cs.write off v.cells.toList⟩)], []⟩ : Eff) = eff := by simpa [Rd.run] using h4
        exact ⟨rfl, by rw [hk], Nat.le_of_ble_eq_true hle, .inl hk⟩
      · simp [Rd.run] at h4
    · rename_i e sz hk
      split at h4
      rotate_left
      · simp [Rd.run] at h4
      rename_i hle
      obtain rfl : (⟨undef, [(n, ⟨.row e sz, b.cs.write off v.cells.toList⟩)], [off + v.cells.toList.length ≤ b.cs.size]⟩ : Eff) = eff := by simpa [Rd.run] using h4
      exact ⟨rfl, by rw [hk], by have := hcond.1; rwa [Cs.size_is] at this, .inr ⟨Nat.le_of_ble_eq_true hle, e, sz, hk⟩⟩
    · simp [Rd.run] at h4
  obtain ⟨ev, ew, ec⟩ := eff
  simp only at hval hwr
  subst hval hwr
  have hsz := of_decide_eq_true hsz
  have hv := rdv_ok h3 ht
  have hnt : isTop v = false := by
    cases v <;> first | rfl | (simp [Value.cells, oneV] at hone)
  obtain ⟨hl, hcs⟩ := cells_list hv hnt
  have hone' : ∀ u ∈ (a.eval y).cells.toList, u.oneCell' = true := by
    intro u hu
    obtain ⟨i, hi, rfl⟩ := List.getElem_of_mem hu
    have hi' : i < v.cells.toList.length := by rw [hl]; simpa using hi
    obtain ⟨u', h5, h6⟩ := hcs i v.cells.toList[i] (by simp)
    have e : u' = (a.eval y).cells.toList[i] := by
      have : (a.eval y).cells[i]? = some (a.eval y).cells.toList[i] := by
        rw [← Array.getElem?_toList]; simp
      rw [this] at h5
      simpa using h5.symm
    rw [← e]
    exact oneV_of h6 (List.all_eq_true.1 hone _ (List.getElem_mem hi'))
  obtain ⟨g, f, cp, h7, hq7, h8⟩ := (rdv_ok h1 ht).ptr_inv
  have hrun : ∀ (cur : Array Value) (e : TypeId), f = 0 → w.heap[g]? = some (.cells cur e (0, 0)) → off + v.cells.toList.length ≤ cur.size →
      (execOp a.eval o).run P w = .ok .skip (w.setRow g (cur.toList.take off ++ (a.eval y).cells.toList ++ cur.toList.drop (off + (a.eval y).cells.toList.length)).toArray) := by
    intro cur e hf hh hfit
    subst hf
    have hst := run_storeVar_at (P := P) (t := t) (v := a.eval y) (off := off) (by unfold sizeT at hsz; rw [hsz, hl]) hh (by rw [← hl]; exact hfit) hone'
    simp only [execOp, ho, h8, Instr.storeAt, Instr.sureAddr, Sem.run_bind, Sem.run_pure, Result.andThen_ok, Nat.zero_add, hst]
  have hok := hm.ok n b hb
  obtain ⟨kd, cs⟩ := b
  have hcells : (⟨kd, cs.write off v.cells.toList⟩ : Blk).cells = writeAt (⟨kd, cs⟩ : Blk).cells off v.cells.toList := Cs.write_list cs off _
  rcases hkind with hkind | ⟨hpos, e, sz, hkind⟩
  · simp only at hkind
    subst hkind
    obtain ⟨g', k1, k2, cur, e, k3, k4, k5⟩ := hok
    rw [h7] at k1
    obtain ⟨rfl, rfl, rfl⟩ : g = g' ∧ f = 0 ∧ cp = none := by simpa using k1
    have hfit : off + v.cells.toList.length ≤ cur.size := by rw [k4]; exact hcond'
    refine skip_wp (hrun cur e rfl k3 hfit) (hK _ _ (put_conc (w := w) hc.1 hc.2.1 (setRow_below hc.2.2.1 k2 _) ht (.lit rfl) ?_))
    rw [upd_one]
    refine hm.set hb rfl h7 (okPl.not (.inl rfl)) (by simp [World.setRow]) (fun k _ hk => setRow_ne w g _ k hk) ⟨g, h7, k2, _, e, setRow_heap w g cur _ e _ k3, ?_, by rw [hcells]; exact k5.write hcs hl hcond' hfit⟩
    rw [hcells, writeAt_length hcond', ← k4]
    simp at hl hfit ⊢
    omega
  · simp only at hkind
    subst hkind
    rcases hok with ⟨p, h0, h00, h01⟩ | ⟨g', cap, k1, k2, cur, k3, k4, k5⟩
    · rw [h7] at h0
      obtain rfl : (g, f, cp) = p := by simpa using h0
      exact absurd ⟨h00, 0, h01⟩ hq7.not
    rw [h7] at k1
    obtain ⟨rfl, rfl, rfl⟩ : g = g' ∧ f = 0 ∧ cp = some cap := by simpa using k1
    have hlen : (⟨.row e sz, cs⟩ : Blk).cells.length ≤ cur.size := by
      rcases Nat.lt_or_ge cur.size (⟨.row e sz, cs⟩ : Blk).cells.length with h | h
      · exfalso
        obtain ⟨u, hu, _⟩ := k5 cur.size (⟨.row e sz, cs⟩ : Blk).cells[cur.size] (by simp)
        simp at hu
      · exact h
    have hfit : off + v.cells.toList.length ≤ cur.size := Nat.le_trans hcond' hlen
    refine skip_wp (hrun cur e rfl k3 hfit) (hK _ _ (put_conc (w := w) hc.1 hc.2.1 (setRow_below hc.2.2.1 k2 _) ht (.lit rfl) ?_))
    rw [upd_one]
    refine hm.set hb rfl h7 (okPl.not (.inl rfl)) (by simp [World.setRow]) (fun k _ hk => setRow_ne w g _ k hk) (.inr ⟨g, cap, h7, k2, _, setRow_heap w g cur _ e _ k3, ?_, by rw [hcells]; exact k5.write hcs hl hcond' hfit⟩)
    rw [← k4]
    simp at hl hfit ⊢
    omega

def fieldOp (P : Program) (t : TypeId) (x : Operand) (f : Nat) : Rd Eff := (rdv x).bind fun p => match p with
  | .pointer (some ⟨n, o, none⟩) => (match P.underlying t with
    | some (.struct fs) => (match fs[f]? with
      | some fd => (match sizeT P fd.type with
        | some (_ + 1) => .ret ⟨.pointer (some ⟨n, o + fd.offset, none⟩), [], []⟩
        | _ => .fail)
      | none => .fail)
    | _ => .fail)
  | _ => .fail
theorem fieldOp_sound {P : Program} {o : Oper} {t : TypeId} {x : Operand} {f : Nat} (ho : o.op = .fieldAddr t x f) {s : FS} {eff : Eff} {w0 : Start} {a : Act} {w : World} {Q : Exit → Act → World → Prop} {K : Act → World → Prop}
    (hr : (fieldOp P t x f).run s = some eff) (hc : Conc w0 s a w) (hK : ∀ a' w', Conc w0 (s.upd o.dst eff) a' w' → K a' w') : owp P w0 o a w K Q := by
  obtain ⟨ρ, ht, hm⟩ := hc.2.2.2
  obtain ⟨p, h1, h2⟩ := bind_some hr
  split at h2
  rotate_left
  · simp [Rd.run] at h2
  rename_i n off
  split at h2
  rotate_left
  · simp [Rd.run] at h2
  rename_i fs hu
  split at h2
  rotate_left
  · simp [Rd.run] at h2
  rename_i fd hf
  split at h2
  rotate_left
  · simp [Rd.run] at h2
  rename_i k hk
  obtain rfl : (⟨.pointer (some ⟨n, off + fd.offset, none⟩), [], []⟩ : Eff) = eff := by simpa [Rd.run] using h2
  obtain ⟨g, f', cp, h7, hq, h8⟩ := (rdv_ok h1 ht).ptr_inv
  unfold sizeT at hk
  rcases hi : P.info? fd.type with _ | i
  · simp [hi] at hk
  simp only [hi, Option.map_some, Option.some.injEq] at hk
  have hp : (fieldPlace ⟨g, f' + off, none⟩ fd).run P w = .ok ⟨g, f' + off + fd.offset, none⟩ w := by
    unfold fieldPlace
    simp [sizeOf, typeInfo, hi, hk, addr_add]
  refine value_wp (v := .pointer (some ⟨g, f' + off + fd.offset, none⟩)) (w' := w) ?_ (hK _ _ (quiet_conc hc ht hm (by rw [Nat.add_assoc]; exact .ptr h7 hq)))
  simp only [execOp, ho, h8, Instr.fieldAt, Instr.sureAddr, Sem.run_bind, run_underlying hu, Result.andThen_ok, hf, Sem.run_pure, hp]

def indexOp (P : Program) (t : TypeId) (x i : Operand) : Rd Eff := (rdv x).bind fun p => (rdv i).bind fun i => match p, i with
  | .slice (some ⟨n, o, none⟩) l _, .int _ i => (match P.underlying t with
    | some (.slice e) => (match sizeT P e with
      | some sz => .ret ⟨.pointer (some ⟨n, o + i.toNat * sz, none⟩), [], [0 ≤ i ∧ i < l]⟩
      | none => .fail)
    | _ => .fail)
  | .pointer (some ⟨n, o, none⟩), .int _ i => (match P.underlying t with
    | some (.array l e) => (match sizeT P e with
      | some sz => .ret ⟨.pointer (some ⟨n, o + i.toNat * sz, none⟩), [], [0 ≤ i ∧ i < l]⟩
      | none => .fail)
    | _ => .fail)
  | _, _ => .fail
theorem VR.slice_inv {ρ : Nat → Option Pl} {n o l c : Nat} {v' : Value} (k : VR ρ (.slice (some ⟨n, o, none⟩) l c) v') :
    (∃ g f cp c', ρ n = some (g, f, cp) ∧ okPl f cp ∧ v' = .slice (some ⟨g, f + o, none⟩) l c' ∧ l ≤ c' ∧ ∀ k, cp = some k → o = 0 → c' = k) ∨ (l = 0 ∧ 0 < o ∧ ∃ ad c', v' = .slice (some ad) 0 c') ∨
    (l = 0 ∧ ∃ ad c' p, v' = .slice ad 0 c' ∧ ρ n = some p ∧ nilPl p ∧ (p.2.2 = some 0 → ad = none ∧ c' = 0)) := by
  cases k with
  | lit hp => simp [plainV, atomV] at hp
  | nil_ hn hp hl hc => exact .inr (.inr ⟨hl, _, _, _, rfl, hn, hp, hc⟩)
  | slice hn hq hl hc => exact .inl ⟨_, _, _, _, hn, hq, rfl, hl, hc⟩
  | none_ ho => exact .inr (.inl ⟨rfl, ho, _, _, rfl⟩)
theorem VR.int_inv {ρ : Nat → Option Pl} {k : IntKind} {i : Int} {v' : Value} (h : VR ρ (.int k i) v') : v' = .int k i := h.plain rfl
theorem indexOp_sound {P : Program} {o : Oper} {t : TypeId} {x i : Operand} (ho : o.op = .indexAddr t x i) {s : FS} {eff : Eff} {w0 : Start} {a : Act} {w : World} {Q : Exit → Act → World → Prop} {K : Act → World → Prop}
    (hr : (indexOp P t x i).run s = some eff) (hc : Conc w0 s a w) (hcond : eff.cond) (hK : ∀ a' w', Conc w0 (s.upd o.dst eff) a' w' → K a' w') : owp P w0 o a w K Q := by
  obtain ⟨ρ, ht, hm⟩ := hc.2.2.2
  obtain ⟨p, h1, h2⟩ := bind_some hr
  obtain ⟨j, h3, h4⟩ := bind_some h2
  split at h4
  · rename_i n off l c kd i'
    split at h4
    rotate_left
    · simp [Rd.run] at h4
    rename_i e hu
    split at h4
    rotate_left
    · simp [Rd.run] at h4
    rename_i sz hs
    obtain rfl : (⟨.pointer (some ⟨n, off + i'.toNat * sz, none⟩), [], [0 ≤ i' ∧ i' < l]⟩ : Eff) = eff := by simpa [Rd.run] using h4
    have hcond' : 0 ≤ i' ∧ i' < l := hcond.1
    have hi := (rdv_ok h3 ht).int_inv
    rcases (rdv_ok h1 ht).slice_inv with ⟨g, f, cp, c', h7, hq, h8, _, _⟩ | ⟨h5, _⟩ | ⟨h5, _⟩
    rotate_left
    · omega
    · omega
    unfold sizeT at hs
    rcases hin : P.info? e with _ | ti
    · simp [hin] at hs
    simp only [hin, Option.map_some, Option.some.injEq] at hs
    refine value_wp (v := .pointer (some ⟨g, f + off + i'.toNat * sz, none⟩)) (w' := w) ?_ (hK _ _ (quiet_conc hc ht hm (by rw [Nat.add_assoc]; exact .ptr h7 hq)))
    simp only [execOp, ho, h8, hi, Instr.indexAt, asIntOf, Sem.run_bind, run_underlying hu, Result.andThen_ok, Sem.run_pure, hcond', and_self, if_true]
    simp [sizeOf, typeInfo, hin, hs, addr_add]
  · rename_i n off kd i'
    split at h4
    rotate_left
    · simp [Rd.run] at h4
    rename_i l e hu
    split at h4
    rotate_left
    · simp [Rd.run] at h4
    rename_i sz hs
    obtain rfl : (⟨.pointer (some ⟨n, off + i'.toNat * sz, none⟩), [], [0 ≤ i' ∧ i' < l]⟩ : Eff) = eff := by simpa [Rd.run] using h4
    have hcond' : 0 ≤ i' ∧ i' < l := hcond.1
    have hi := (rdv_ok h3 ht).int_inv
    obtain ⟨g, f, cp, h7, hq, h8⟩ := (rdv_ok h1 ht).ptr_inv
    unfold sizeT at hs
    rcases hin : P.info? e with _ | ti
    · simp [hin] at hs
    simp only [hin, Option.map_some, Option.some.injEq] at hs
    refine value_wp (v := .pointer (some ⟨g, f + off + i'.toNat * sz, none⟩)) (w' := w) ?_ (hK _ _ (quiet_conc hc ht hm (by rw [Nat.add_assoc]; exact .ptr h7 hq)))
    simp only [execOp, ho, h8, hi, Instr.indexAt, Instr.sureAddr, asIntOf, Sem.run_bind, run_underlying hu, Result.andThen_ok, Sem.run_pure, hcond', and_self, if_true]
    simp [sizeOf, typeInfo, hin, hs, addr_add]
  · simp [Rd.run] at h4

def lenOp (P : Program) (t : TypeId) (x : Operand) : Rd Eff := (rdv x).bind fun p => match p with
  | .slice (some _) l _ => (match P.underlying t with
    | some (.slice _) => .ret ⟨.int .i64 l, [], []⟩
    | _ => .fail)
  | .slice none 0 0 => (match P.underlying t with
    | some (.slice _) => .ret ⟨.int .i64 0, [], []⟩
    | _ => .fail)
  | _ => .fail
theorem VR.slice_len {ρ : Nat → Option Pl} {ad : Addr} {l c : Nat} {v' : Value} (k : VR ρ (.slice (some ad) l c) v') : ∃ ad' c', v' = .slice ad' l c' := by
  cases k with
  | lit hp => simp [plainV, atomV] at hp
  | nil_ hn hp hl hc => subst hl; exact ⟨_, _, rfl⟩
  | slice hn hq hl hc => exact ⟨_, _, rfl⟩
  | none_ ho => exact ⟨_, _, rfl⟩
theorem lenOp_sound {P : Program} {o : Oper} {t : TypeId} {x : Operand} (ho : o.op = .call { callee := .builtin .len, args := #[x], argTypes := #[t] }) {s : FS} {eff : Eff} {w0 : Start} {a : Act} {w : World} {Q : Exit → Act → World → Prop} {K : Act → World → Prop}
    (hr : (lenOp P t x).run s = some eff) (hc : Conc w0 s a w) (hK : ∀ a' w', Conc w0 (s.upd o.dst eff) a' w' → K a' w') : owp P w0 o a w K Q := by
  obtain ⟨ρ, ht, hm⟩ := hc.2.2.2
  obtain ⟨p, h1, h2⟩ := bind_some hr
  split at h2
  · rename_i ad l c
    split at h2
    rotate_left
    · simp [Rd.run] at h2
    rename_i e hu
    obtain rfl : (⟨.int .i64 l, [], []⟩ : Eff) = eff := by simpa [Rd.run] using h2
    obtain ⟨ad', c', h8⟩ := (rdv_ok h1 ht).slice_len
    refine value_wp (v := .int .i64 l) (w' := w) ?_ (hK _ _ (quiet_conc hc ht hm (.lit rfl)))
    simp only [execOp, ho, resolve, invoke, builtin, Builtin.len_, Sem.run_bind, Sem.run_pure, Result.andThen_ok, List.map_toArray, List.map_cons, List.map_nil, h8, List.getElem?_toArray, List.getElem?_cons_zero, run_underlying hu]
    rfl
  · split at h2
    rotate_left
    · simp [Rd.run] at h2
    rename_i e hu
    obtain rfl : (⟨.int .i64 0, [], []⟩ : Eff) = eff := by simpa [Rd.run] using h2
    have h8 := (rdv_ok h1 ht).plain rfl
    refine value_wp (v := .int .i64 0) (w' := w) ?_ (hK _ _ (quiet_conc hc ht hm (.lit rfl)))
    simp only [execOp, ho, resolve, invoke, builtin, Builtin.len_, Sem.run_bind, Sem.run_pure, Result.andThen_ok, List.map_toArray, List.map_cons, List.map_nil, h8, List.getElem?_toArray, List.getElem?_cons_zero, run_underlying hu]
    rfl
  · simp [Rd.run] at h2

/-- Several operands, read. -/
def rdvs : List Operand → Rd (List Value)
  | [] => .ret []
  | x :: r => (rdv x).bind fun v => (rdvs r).bind fun l => .ret (v :: l)
def VRs (ρ : Nat → Option Pl) (vs : List Value) (vs' : Array Value) : Prop := vs.length = vs'.size ∧ ∀ (i : Nat) v v', vs[i]? = some v → vs'[i]? = some v' → VR ρ v v'
theorem rdvs_ok {ρ : Nat → Option Pl} {s : FS} {a : Act} (ht : ∀ t, VR ρ (s.tmp t) (a.tmps.getD t undef)) : ∀ (xs : List Operand) (l : List Value), (rdvs xs).run s = some l → l.length = xs.length ∧ ∀ (i : Nat) v x, l[i]? = some v → xs[i]? = some x → VR ρ v (a.eval x)
  | [], l, h => by
    obtain rfl : [] = l := by simpa [rdvs, Rd.run] using h
    exact ⟨rfl, fun i v x hv => by simp at hv⟩
  | x :: r, l, h => by
    obtain ⟨v, h1, h2⟩ := bind_some h
    obtain ⟨l', h3, h4⟩ := bind_some h2
    obtain rfl : v :: l' = l := by simpa [Rd.run] using h4
    obtain ⟨g1, g2⟩ := rdvs_ok ht r l' h3
    refine ⟨by simp [g1], fun i u y hu hy => ?_⟩
    cases i with
    | zero =>
      obtain rfl : v = u := by simpa using hu
      obtain rfl : x = y := by simpa using hy
      exact rdv_ok h1 ht
    | succ i => exact g2 i u y (by simpa using hu) (by simpa using hy)
theorem rdvs_map {ρ : Nat → Option Pl} {s : FS} {a : Act} (ht : ∀ t, VR ρ (s.tmp t) (a.tmps.getD t undef)) {xs : Array Operand} {l : List Value} (h : (rdvs xs.toList).run s = some l) : VRs ρ l (xs.map a.eval) := by
  obtain ⟨h1, h2⟩ := rdvs_ok ht _ _ h
  refine ⟨by simpa using h1, fun i v v' hv hv' => ?_⟩
  rw [Array.getElem?_map] at hv'
  rcases hx : xs[i]? with _ | x
  · simp [hx] at hv'
  · obtain rfl : a.eval x = v' := by simpa [hx] using hv'
    exact h2 i v x hv (by simpa using hx)
theorem VRs.append {ρ : Nat → Option Pl} {xs ys : List Value} {xs' ys' : Array Value} (h : VRs ρ xs xs') (k : VRs ρ ys ys') : VRs ρ (xs ++ ys) (xs' ++ ys') := by
  refine ⟨by simp [h.1, k.1], fun i v v' hv hv' => ?_⟩
  rw [List.getElem?_append] at hv
  rw [Array.getElem?_append] at hv'
  rw [h.1] at hv
  split at hv
  · rename_i hi
    rw [if_pos hi] at hv'
    exact h.2 i v v' hv hv'
  · rename_i hi
    rw [if_neg hi] at hv'
    exact k.2 _ v v' hv hv'

def makeFuncOp (fn : Fn) (first captured : Array Operand) : Rd Eff := (rdvs first.toList).bind fun f => (rdvs captured.toList).bind fun c => .ret ⟨.func fn f.toArray c.toArray, [], []⟩
theorem VRs.arr {ρ : Nat → Option Pl} {xs : List Value} {xs' : Array Value} (h : VRs ρ xs xs') : xs.toArray.size = xs'.size ∧ ∀ (i : Nat) v v', xs.toArray[i]? = some v → xs'[i]? = some v' → VR ρ v v' :=
  ⟨by simpa using h.1, fun i v v' hv hv' => h.2 i v v' (by simpa using hv) hv'⟩
theorem makeFuncOp_sound {P : Program} {o : Oper} {fn : Fn} {first captured : Array Operand} (ho : o.op = .makeFunc fn first captured) {s : FS} {eff : Eff} {w0 : Start} {a : Act} {w : World} {Q : Exit → Act → World → Prop} {K : Act → World → Prop}
    (hr : (makeFuncOp fn first captured).run s = some eff) (hc : Conc w0 s a w) (hK : ∀ a' w', Conc w0 (s.upd o.dst eff) a' w' → K a' w') : owp P w0 o a w K Q := by
  obtain ⟨ρ, ht, hm⟩ := hc.2.2.2
  obtain ⟨f, h1, h2⟩ := bind_some hr
  obtain ⟨c, h3, h4⟩ := bind_some h2
  obtain rfl : (⟨.func fn f.toArray c.toArray, [], []⟩ : Eff) = eff := by simpa [Rd.run] using h4
  have k1 := (rdvs_map ht h1).arr
  have k2 := (rdvs_map ht h3).arr
  refine value_wp (v := .func fn (first.map a.eval) (captured.map a.eval)) (w' := w) ?_ (hK _ _ (quiet_conc hc ht hm (.func k1.1 k2.1 k1.2 k2.2)))
  simp only [execOp, ho]
  rfl

/-- Two rows of cells, pairwise. -/
def CellsA (ρ : Nat → Option Pl) (cs cs' : Array Value) : Prop := cs.size = cs'.size ∧ ∀ (i : Nat) v v', cs[i]? = some v → cs'[i]? = some v' → VR ρ v v'
theorem CellsA.set {ρ : Nat → Option Pl} {cs cs' : Array Value} (h : CellsA ρ cs cs') {v v' : Value} (hv : VR ρ v v') (k : Nat) : CellsA ρ (cs.setIfInBounds k v) (cs'.setIfInBounds k v') := by
  refine ⟨by simpa using h.1, fun i x x' hx hx' => ?_⟩
  by_cases hk : k = i
  · subst hk
    by_cases hl : k < cs.size
    · have hl' : k < cs'.size := by rw [← h.1]; exact hl
      simp [hl] at hx
      simp [hl'] at hx'
      rw [← hx, ← hx']
      exact hv
    · rw [Array.getElem?_eq_none (by simpa using hl)] at hx
      cases hx
  · rw [Array.getElem?_setIfInBounds_ne hk] at hx hx'
    exact h.2 i x x' hx hx'
theorem fill_rel {ρ : Nat → Option Pl} {place : Nat → Option (Nat × Nat)} : ∀ (ps ps' : List (Nat × Value)), ps.length = ps'.length → (∀ (i : Nat) p p', ps[i]? = some p → ps'[i]? = some p' → p.1 = p'.1 ∧ VR ρ p.2 p'.2 ∧ isTop p.2 = false) → ∀ (cs cs' : Array Value), CellsA ρ cs cs' → ∀ r, Instr.fill place cs ps = some r →
    ∃ r', Instr.fill place cs' ps' = some r' ∧ CellsA ρ r r'
  | [], [], _, _, cs, cs', h, r, hr => by
    obtain rfl : cs = r := by simpa [Instr.fill] using hr
    exact ⟨cs', rfl, h⟩
  | [], _ :: _, hl, _, _, _, _, _, _ => by simp at hl
  | _ :: _, [], hl, _, _, _, _, _, _ => by simp at hl
  | (i, v) :: ps, (i', v') :: ps', hl, hp, cs, cs', h, r, hr => by
    obtain ⟨hi, hv, hnt⟩ := hp 0 _ _ rfl rfl
    subst hi
    obtain ⟨hsz, hvc⟩ := hv.cells hnt
    simp only [Instr.fill] at hr ⊢
    split at hr
    · cases hr
    rename_i off size hpl
    split at hr
    · cases hr
    rename_i hcond
    rw [← hsz, ← h.1, if_neg hcond]
    refine fill_rel ps ps' (by simpa using hl) (fun j p p' hj hj' => hp (j + 1) p p' (by simpa using hj) (by simpa using hj')) _ _ ?_ r hr
    have key : ∀ (n : Nat) (a a' : Array Value), a.size = n → a'.size = n → (∀ (i : Nat) x x', a[i]? = some x → a'[i]? = some x' → VR ρ x x') → ∀ (c c' : Array Value), CellsA ρ c c' →
        CellsA ρ (a.zipIdx.foldl (fun cs (c, j) => cs.setIfInBounds (off + j) c) c) (a'.zipIdx.foldl (fun cs (c, j) => cs.setIfInBounds (off + j) c) c') := by
      intro n a a' ha ha' hx c c' hc
      rw [← Array.foldl_toList, ← Array.foldl_toList, Array.toList_zipIdx, Array.toList_zipIdx]
      have inner : ∀ (l l' : List Value) (k : Nat), l.length = l'.length → (∀ (i : Nat) x x', l[i]? = some x → l'[i]? = some x' → VR ρ x x') → ∀ (c c' : Array Value), CellsA ρ c c' →
          CellsA ρ ((l.zipIdx k).foldl (fun cs (c, j) => cs.setIfInBounds (off + j) c) c) ((l'.zipIdx k).foldl (fun cs (c, j) => cs.setIfInBounds (off + j) c) c') := by
        intro l
        induction l with
        | nil =>
          intro l' k hl _ c c' hc
          cases l' with
          | nil => exact hc
          | cons _ _ => simp at hl
        | cons x l ih =>
          intro l' k hl hx c c' hc
          cases l' with
          | nil => simp at hl
          | cons x' l' =>
            simp only [List.zipIdx_cons, List.foldl_cons]
            exact ih l' (k + 1) (by simpa using hl) (fun i y y' hy hy' => hx (i + 1) y y' (by simpa using hy) (by simpa using hy')) _ _ (hc.set (hx 0 x x' rfl rfl) _)
      exact inner a.toList a'.toList 0 (by simp [ha, ha']) (fun i x x' hi hi' => hx i x x' (by simpa using hi) (by simpa using hi')) c c' hc
    exact key _ _ _ hsz rfl hvc cs cs' h
/-- The parts of a literal, read. -/
def rdParts : List (Nat × Operand) → Rd (List (Nat × Value))
  | [] => .ret []
  | (i, x) :: r => (rdv x).bind fun v => (rdParts r).bind fun l => match isTop v with
    | false => .ret ((i, v) :: l)
    | true => .fail
theorem rdParts_ok {ρ : Nat → Option Pl} {s : FS} {a : Act} (ht : ∀ t, VR ρ (s.tmp t) (a.tmps.getD t undef)) : ∀ (xs : List (Nat × Operand)) (l : List (Nat × Value)), (rdParts xs).run s = some l → l.length = (xs.map fun p => (p.1, a.eval p.2)).length ∧
    ∀ (i : Nat) p p', l[i]? = some p → (xs.map fun p => (p.1, a.eval p.2))[i]? = some p' → p.1 = p'.1 ∧ VR ρ p.2 p'.2 ∧ isTop p.2 = false
  | [], l, h => by
    obtain rfl : [] = l := by simpa [rdParts, Rd.run] using h
    exact ⟨rfl, fun i p p' hp => by simp at hp⟩
  | (i, x) :: r, l, h => by
    obtain ⟨v, h1, h2⟩ := bind_some h
    obtain ⟨l', h3, h4⟩ := bind_some h2
    split at h4
    rotate_left
    · simp [Rd.run] at h4
    rename_i hnt
    obtain rfl : (i, v) :: l' = l := by simpa [Rd.run] using h4
    obtain ⟨g1, g2⟩ := rdParts_ok ht r l' h3
    refine ⟨by simpa using g1, fun j p p' hp hp' => ?_⟩
    cases j with
    | zero =>
      obtain rfl : (i, v) = p := by simpa using hp
      obtain rfl : (i, a.eval x) = p' := by simpa using hp'
      exact ⟨rfl, rdv_ok h1 ht, hnt⟩
    | succ j => exact g2 j p p' (by simpa using hp) (by simpa using hp')
/-- A slice literal: its parts in a new row. -/
def buildSliceOp (P : Program) (name : Nat) (t : TypeId) (len : Nat) (parts : Array (Nat × Operand)) : Rd Eff := (rdParts parts.toList).bind fun l => match P.underlying t with
  | some (.slice e) => (match P.info? e with
    | some i => (match Nat.ble (len * i.size) 1000, i.zero with
      | true, some z => (match plainV z, (z.cells.toList.all atomV), Instr.fill (fun k => some (k * i.size, i.size)) ((Array.range (len * i.size)).map (z.cells[· % z.cells.size]!)) l with
        | true, true, some r => .ret ⟨.slice (some ⟨name, 0, none⟩) len len, [(name, ⟨.row e i.size, .vals r.toList⟩)], []⟩
        | _, _, _ => .fail)
      | _, _ => .fail)
    | none => .fail)
  | _ => .fail

theorem cellsA_same {ρ : Nat → Option Pl} {cs : Array Value} (h : ∀ v ∈ cs.toList, atomV v = true) : CellsA ρ cs cs := ⟨rfl, fun i v v' hv hv' => by
  rw [hv] at hv'
  obtain rfl : v = v' := by simpa using hv'
  exact .lit (plain_of_atom (h v (by
    obtain ⟨hi, rfl⟩ := Array.getElem?_eq_some_iff.1 hv
    simp)))⟩
theorem CellsA.cells {ρ : Nat → Option Pl} {cs cs' : Array Value} (h : CellsA ρ cs cs') : Cells ρ cs.toList cs' := fun k v hv => by
  have hv' : cs[k]? = some v := by simpa using hv
  have hk : k < cs'.size := by rw [← h.1]; exact (Array.getElem?_eq_some_iff.1 hv').1
  exact ⟨cs'[k], by simp [hk], h.2 k _ _ hv' (by simp [hk])⟩
/-- A new row, a slice over it. -/
theorem newRow_conc {w0 : Start} {s : FS} {a : Act} {w : World} (hc : Conc w0 s a w) {dst : Option Tmp} {name : Nat} (hn : s.blk name = none) {ρ : Nat → Option Pl} (ht : ∀ t, VR ρ (s.tmp t) (a.tmps.getD t undef)) (hm : MemOk w0.ρ0 ρ w0.kp s.blk w) {cs : Cs} {cs' : Array Value} {e : TypeId} {sz len cap : Nat} (hlen : len ≤ cap)
    (hcap : cs'.size = cap * sz) (hcs : Cells ρ cs.list cs') (c : List Prop) :
    Conc w0 (s.upd dst ⟨.slice (some ⟨name, 0, none⟩) len len, [(name, ⟨.row e sz, cs⟩)], c⟩) (a.put dst (.slice (some ⟨w.heap.size, 0, none⟩) len cap)) (w.alloc (.cells cs' e)) := by
  obtain ⟨h1, h2, h3, _⟩ := hc
  have hB : ∀ k, w0.kp k → k < w.heap.size := fun k hk => Nat.lt_of_lt_of_le (w0.kpl k hk) h3.size
  have hext : Ext ρ (addPl ρ name (w.heap.size, 0, some cap)) := addPl_ext (hm.fresh name hn)
  refine put_conc (w := w) h1 h2 (h3.alloc hB _) (fun t => (ht t).ext hext) (.slice (f := 0) (addPl_same _ _ _) (.inl rfl) hlen (fun k hk _ => by simpa using hk)) ?_
  rw [upd_one]
  exact hm.new hn rfl (.inr ⟨w.heap.size, cap, addPl_same _ _ _, new_free hB, cs', heap_alloc_new w _, hcap, hcs.ext hext⟩)
theorem buildSliceOp_sound {P : Program} {o : Oper} {t : TypeId} {len : Nat} {parts : Array (Nat × Operand)} (ho : o.op = .buildSlice t len parts) {name : Nat} {s : FS} {eff : Eff} {w0 : Start} {a : Act} {w : World} {Q : Exit → Act → World → Prop} {K : Act → World → Prop}
    (hr : (buildSliceOp P name t len parts).run s = some eff) (hn : s.blk name = none) (hc : Conc w0 s a w) (hK : ∀ a' w', Conc w0 (s.upd o.dst eff) a' w' → K a' w') : owp P w0 o a w K Q := by
  obtain ⟨ρ, ht, hm⟩ := hc.2.2.2
  obtain ⟨l, h1, h2⟩ := bind_some hr
  split at h2
  rotate_left
  · simp [Rd.run] at h2
  rename_i e hu
  split at h2
  rotate_left
  · simp [Rd.run] at h2
  rename_i i hi
  split at h2
  rotate_left
  · simp [Rd.run] at h2
  rename_i z hle hz
  split at h2
  rotate_left
  · simp [Rd.run] at h2
  rename_i r hp hat hf
  obtain rfl : (⟨.slice (some ⟨name, 0, none⟩) len len, [(name, ⟨.row e i.size, .vals r.toList⟩)], []⟩ : Eff) = eff := by simpa [Rd.run] using h2
  have hle' : len * i.size ≤ 1000 := Nat.le_of_ble_eq_true hle
  obtain ⟨g1, g2⟩ := rdParts_ok ht _ _ h1
  have hzc : ∀ v ∈ ((Array.range (len * i.size)).map (z.cells[· % z.cells.size]!)).toList, atomV v = true := by
    intro v hv
    simp only [Array.toList_map, List.mem_map] at hv
    obtain ⟨k, hk, rfl⟩ := hv
    have hk0 : k < len * i.size := by simpa using hk
    by_cases hz0 : z.cells.size = 0
    · have e0 : z.cells = #[] := Array.eq_empty_of_size_eq_zero hz0
      rw [e0]
      rfl
    · have hlt : k % z.cells.size < z.cells.size := Nat.mod_lt _ (by omega)
      rw [getElem!_pos z.cells _ hlt]
      exact List.all_eq_true.1 hat _ (by simp)
  obtain ⟨r', hf', hr'⟩ := fill_rel l _ g1 g2 _ _ (cellsA_same hzc) r hf
  have hsz : r'.size = len * i.size := by
    have key : ∀ (ps : List (Nat × Value)) (cs r : Array Value), Instr.fill (fun k => some (k * i.size, i.size)) cs ps = some r → r.size = cs.size := by
      intro ps
      induction ps with
      | nil =>
        intro cs r h
        obtain rfl : cs = r := by simpa [Instr.fill] using h
        rfl
      | cons p ps ih =>
        intro cs r h
        obtain ⟨j, v⟩ := p
        simp only [Instr.fill] at h
        split at h
        · cases h
        rw [ih _ _ h]
        have inner : ∀ (xs : List (Value × Nat)) (c : Array Value), (xs.foldl (fun cs (c, q) => cs.setIfInBounds (j * i.size + q) c) c).size = c.size := by
          intro xs
          induction xs with
          | nil => intro c; rfl
          | cons x xs ihx => intro c; rw [List.foldl_cons, ihx]; simp
        rw [← Array.foldl_toList]
        exact inner _ _
    rw [key _ _ _ hf']
    simp
  refine value_wp (v := .slice (some ⟨w.heap.size, 0, none⟩) len len) (w' := w.alloc (.cells r' e)) ?_ (hK _ _ (newRow_conc (cs := .vals r.toList) hc hn ht hm (Nat.le_refl _) hsz hr'.cells []))
  have hparts : (parts.map fun (i, x) => (i, a.eval x)).toList = parts.toList.map fun p => (p.1, a.eval p.2) := by simp
  have hbig : ¬ (2 ^ 24 < len * i.size) := by omega
  simp only [execOp, ho, Instr.buildSlice, Sem.run_bind, run_underlying hu, Result.andThen_ok, hparts]
  have hz1 : (sizeOf e).run P w = .ok i.size w := by simp [sizeOf, typeInfo, hi]
  have hz2 : (zeroValue e).run P w = .ok z w := by simp [zeroValue, typeInfo, hi, hz]
  simp only [hz1, Result.andThen_ok]
  rw [if_neg (by omega)]
  by_cases h0 : len * i.size = 0
  · have e0 : ∀ g : Nat → Value, (Array.range (len * i.size)).map g = #[] := fun g => Array.eq_empty_of_size_eq_zero (by simp [h0])
    rw [e0] at hf'
    rw [if_pos h0]
    simp only [Sem.run_pure, e0, hf']
    rfl
  · rw [if_neg h0]
    simp only [Sem.run_bind, Sem.run_pure, Result.andThen_ok, hz2, hf']
    rfl

/-- What is known of functions that are called. -/
abbrev Ctx := FuncId → Nat → List Value → Rd Eff
def enters (P : Program) (f : FuncId) : Prop := ∀ (args : Array Value) (w : World), (callFunc f args).run P w = .ok (.enter f args) w
theorem enters_of {P : Program} {f : FuncId} {fn : Func} (h : P.funcs[f]? = some fn) (hn : (fn.name == "runtime.NumGoroutine") = false) (hb : fn.body.isNone = false) : enters P f := fun args w => by
  have hn' : ¬ fn.name = "runtime.NumGoroutine" := by simpa using hn
  have hb' : ¬ fn.body = none := by
    intro e
    rw [e] at hb
    cases hb
  simp [callFunc, h, hn', hb']
def GSound (P : Program) (G : Ctx) : Prop := ∀ (f : FuncId) (name : Nat) (args : List Value) (s : FS) (eff : Eff), (G f name args).run s = some eff → s.blk name = none → enters P f ∧
  ∀ (B : Nat → Prop) (ρ0 ρ : Nat → Option Pl) (w : World) (args' : Array Value), VRs ρ args args' → MemOk ρ0 ρ B s.blk w → (∀ k, B k → k < w.heap.size) → eff.cond →
    Calls P f args' w fun e w' => ∃ v' ρ', e = .returned v' ∧ Ext ρ ρ' ∧ VR ρ' eff.val v' ∧ BelowK B w w' ∧ MemOk ρ0 ρ' B (s.upd none eff).blk w'
def callOp (G : Ctx) (name : Nat) (f : Operand) (args : Array Operand) : Rd Eff := (rdv f).bind fun fv => (rdvs args.toList).bind fun l => match fv with
  | .func (.func fid) first cap => G fid name (first.toList ++ l ++ cap.toList)
  | _ => .fail
theorem VR.func_inv {ρ : Nat → Option Pl} {fn : Fn} {f c : Array Value} {v' : Value} (k : VR ρ (.func fn f c) v') : ∃ f' c', v' = .func fn f' c' ∧ VRs ρ f.toList f' ∧ VRs ρ c.toList c' := by
  cases k with
  | lit hp =>
    simp [plainV, atomV] at hp
    obtain ⟨rfl, rfl⟩ := hp
    exact ⟨#[], #[], rfl, ⟨rfl, fun i v v' h => by simp at h⟩, ⟨rfl, fun i v v' h => by simp at h⟩⟩
  | func hf hc h1 h2 => exact ⟨_, _, rfl, ⟨by simpa using hf, fun i v v' h h' => h1 i v v' (by simpa using h) h'⟩, ⟨by simpa using hc, fun i v v' h h' => h2 i v v' (by simpa using h) h'⟩⟩
theorem callOp_sound {P : Program} {G : Ctx} (hG : GSound P G) {o : Oper} {f : Operand} {args : Array Operand} {ts : Array TypeId} (ho : o.op = .call { callee := .value f, args := args, argTypes := ts }) {name : Nat} {s : FS} {eff : Eff} {w0 : Start} {a : Act} {w : World} {Q : Exit → Act → World → Prop} {K : Act → World → Prop}
    (hr : (callOp G name f args).run s = some eff) (hn : s.blk name = none) (hc : Conc w0 s a w) (hcond : eff.cond) (hK : ∀ a' w', Conc w0 (s.upd o.dst eff) a' w' → K a' w') : owp P w0 o a w K Q := by
  obtain ⟨c1, c2, c3, ρ, ht, hm⟩ := hc
  obtain ⟨fv, h1, h2⟩ := bind_some hr
  obtain ⟨l, h3, h4⟩ := bind_some h2
  split at h4
  rotate_left
  · simp [Rd.run] at h4
  rename_i fid first cap
  obtain ⟨first', cap', h5, h6, h7⟩ := (rdv_ok h1 ht).func_inv
  obtain ⟨hent, hcall⟩ := hG fid name _ s eff h4 hn
  have hargs := (h6.append (rdvs_map ht h3)).append h7
  have hex : (execOp a.eval o).run P w = .ok (.enter fid (first' ++ args.map a.eval ++ cap')) w := by
    simp only [execOp, ho, resolve, h5, Deferred.ofValue, invoke, Sem.run_bind, Sem.run_pure, Result.andThen_ok]
    exact hent _ _
  refine enter_wp hex ?_
  refine (hcall w0.kp w0.ρ0 ρ w _ hargs hm (fun k hk => Nat.lt_of_lt_of_le (w0.kpl k hk) c3.size) hcond).mono ?_
  rintro e w' ⟨v', ρ', rfl, h8, h9, h10, h11⟩
  refine ⟨v', rfl, ?_⟩
  refine hK _ _ (put_conc (w := w) c1 c2 (c3.trans h10) (fun t => (ht t).ext h8) h9 ?_)
  have : (s.upd o.dst eff).blk = (s.upd none eff).blk := rfl
  rw [this]
  exact h11
end Go.Proofs.Ytoijfjifaljpaab
