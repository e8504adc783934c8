/-
  The small machine beside the model's: its operations, and that each is sound. Written by an AI agent.
-/
import Derived.Test.YtoijfjifaljpaabAbsC
import Derived.WalkKit
namespace Go.Proofs.Ytoijfjifaljpaab
open Go.RowKit

theorem noDefer {P : Program} {o : Oper} {ρ : Operand → Value} {w w' : World} {x : Next} (h : (execOp ρ o).run P w = .ok x w') (hx : ∀ d, x ≠ .defer d) : ∀ c, o.op ≠ .defer c := by
  intro c hc
  simp only [execOp, hc, Sem.run_bind, Sem.run_pure] at h
  rcases hr : (resolve ρ c o.type).run P w with ⟨d, w1⟩ | ⟨e, w1⟩
  · rw [hr] at h
    simp only [Result.andThen] at h
    injection h with h1 h2
    exact hx d h1.symm
  · rw [hr] at h
    simp only [Result.andThen] at h
    cases h
theorem value_wp {P : Program} {w0 : Start} {o : Oper} {a : Act} {w w' : World} {v : Value} {K : Act → World → Prop} {Q : Exit → Act → World → Prop} (h : (execOp a.eval o).run P w = .ok (.value v) w') (hK : K (a.put o.dst v) w') : owp P w0 o a w K Q := by
  refine ⟨fun _ _ => trivial, ?_⟩
  rw [Oper.semAt_eq _ _ _ (noDefer h (fun d hd => by cases hd)), h]
  exact hK
theorem skip_wp {P : Program} {w0 : Start} {o : Oper} {a : Act} {w w' : World} {K : Act → World → Prop} {Q : Exit → Act → World → Prop} (h : (execOp a.eval o).run P w = .ok .skip w') (hK : K (a.put o.dst undef) w') : owp P w0 o a w K Q := by
  refine ⟨fun _ _ => trivial, ?_⟩
  rw [Oper.semAt_eq _ _ _ (noDefer h (fun d hd => by cases hd)), h]
  exact hK
theorem enter_wp {P : Program} {w0 : Start} {o : Oper} {a : Act} {w w' : World} {f : FuncId} {args : Array Value} {K : Act → World → Prop} {Q : Exit → Act → World → Prop} (h : (execOp a.eval o).run P w = .ok (.enter f args) w')
    (hK : Calls P f args w' fun e w'' => ∃ v, e = .returned v ∧ K (a.put o.dst v) w'') : owp P w0 o a w K Q := by
  refine ⟨fun _ _ => trivial, ?_⟩
  rw [Oper.semAt_eq _ _ _ (noDefer h (fun d hd => by cases hd)), h]
  refine ⟨fun hd => (by cases hd), calls_fz (hK.mono ?_)⟩
  rintro e w'' ⟨v, rfl, hk⟩
  exact hk

def rdv : Operand → Rd Value
  | .tmp t => .tmp t .ret
  | .const v => match plainV v with
    | true => .ret v
    | false => .fail
  | .func f => .ret (.func (.func f) #[] #[])
  | .global _ => .fail
theorem rdv_ok {ρ : Nat → Option Pl} {s : FS} {a : Act} {x : Operand} {v : Value} (h : (rdv x).run s = some v) (ht : ∀ t, VR ρ (s.tmp t) (a.tmps.getD t undef)) : VR ρ v (a.eval x) := by
  cases x with
  | tmp t =>
    obtain rfl : s.tmp t = v := by simpa [rdv, Rd.run] using h
    exact ht t
  | const u =>
    simp only [rdv] at h
    split at h
    · rename_i hp
      obtain rfl : u = v := by simpa [Rd.run] using h
      exact .lit hp
    · simp [Rd.run] at h
  | func f =>
    obtain rfl : (Value.func (.func f) #[] #[]) = v := by simpa [rdv, Rd.run] using h
    exact .lit rfl
  | global g => simp [rdv, Rd.run] at h

/-- A program of the model that neither reads nor writes memory. -/
def still {α : Type} (P : Program) : Sem α → Option α
  | .pure x => some x
  | .program k => still P (k P)
  | _ => none
theorem still_run {α : Type} (P : Program) (w : World) : ∀ (m : Sem α) (x : α), still P m = some x → m.run P w = .ok x w
  | .pure x, y, h => by
    obtain rfl : x = y := by simpa [still] using h
    rfl
  | .program k, y, h => still_run P w (k P) y h
  | .load .., _, h => by simp [still] at h
  | .store .., _, h => by simp [still] at h
  | .new .., _, h => by simp [still] at h
  | .shape .., _, h => by simp [still] at h
  | .freeze .., _, h => by simp [still] at h
  | .frozen .., _, h => by simp [still] at h
  | .getObj .., _, h => by simp [still] at h
  | .setObj .., _, h => by simp [still] at h
  | .choose .., _, h => by simp [still] at h
  | .sys .., _, h => by simp [still] at h
  | .mark .., _, h => by simp [still] at h
  | .halt .., _, h => by simp [still] at h

/-- The plain values of the operands, read. -/
def rdAll : List Operand → Rd (List (Nat × Value))
  | [] => .ret []
  | .tmp t :: r => .tmp t fun v => match plainV v with
    | true => (rdAll r).bind fun l => .ret ((t, v) :: l)
    | false => .fail
  | .global _ :: _ => .fail
  | _ :: r => rdAll r
def envOf (l : List (Nat × Value)) : Operand → Value
  | .tmp t => (l.lookup t).getD undef
  | .const v => v
  | .global g => .pointer (some ⟨g, 0, none⟩)
  | .func f => .func (.func f) #[] #[]
theorem rdAll_ok {ρ : Nat → Option Pl} {s : FS} {a : Act} (ht : ∀ t, VR ρ (s.tmp t) (a.tmps.getD t undef)) : ∀ (xs : List Operand) (l : List (Nat × Value)), (rdAll xs).run s = some l → ∀ x ∈ xs, envOf l x = a.eval x
  | [], _, _, x, hx => by cases hx
  | y :: r, l, h, x, hx => by
    have other : (rdAll r).run s = some l → (∀ t, y ≠ .tmp t) → (∀ g, y ≠ .global g) → envOf l x = a.eval x := by
      intro h h1 h2
      rcases List.mem_cons.1 hx with rfl | hx
      · cases x <;> first | rfl | exact absurd rfl (h1 _)
      · exact rdAll_ok ht r l h x hx
    cases y with
    | tmp t =>
      simp only [rdAll, Rd.run] at h
      split at h
      rotate_left
      · simp [Rd.run] at h
      rename_i hp
      rw [Rd.run_bind] at h
      rcases hr : (rdAll r).run s with _ | l'
      · simp [hr] at h
      · simp only [hr, Option.bind_some, Rd.run, Option.some.injEq] at h
        subst h
        have et : s.tmp t = a.eval (.tmp t) := ((ht t).plain hp).symm
        have base : ∀ u, u ≠ t → envOf ((t, s.tmp t) :: l') (.tmp u) = envOf l' (.tmp u) := by
          intro u hu
          have hu' : (u == t) = false := beq_false_of_ne hu
          simp [envOf, List.lookup_cons, hu']
        rcases List.mem_cons.1 hx with rfl | hx
        · simp [envOf, et]
        · have ih := rdAll_ok ht r l' hr x hx
          cases x with
          | tmp u =>
            by_cases hu : u = t
            · subst hu; simp [envOf, et]
            · rw [base u hu]; exact ih
          | _ => exact ih
    | global g => simp [rdAll, Rd.run] at h
    | const v => exact other (by simpa [rdAll] using h) (by simp) (by simp)
    | func f => exact other (by simpa [rdAll] using h) (by simp) (by simp)

def noSel : Op → Bool
  | .select _ _ => false
  | _ => true
/-- An operation on plain values that touches no memory: what the model itself makes of it. -/
def plainOp (P : Program) (o : Oper) : Rd Eff :=
  match noSel o.op with
  | false => .fail
  | true => (rdAll o.op.operands.toList).bind fun l => match still P (execOp (envOf l) o) with
    | some (.value v) => (match plainV v with
      | true => .ret ⟨v, [], []⟩
      | false => .fail)
    | _ => .fail

theorem quiet_conc {w0 : Start} {s : FS} {a : Act} {w : World} (hc : Conc w0 s a w) {dst : Option Tmp} {v v' : Value} {c : List Prop} {ρ : Nat → Option Pl} (ht : ∀ t, VR ρ (s.tmp t) (a.tmps.getD t undef)) (hm : MemOk w0.ρ0 ρ w0.kp s.blk w) (hv : VR ρ v v') : Conc w0 (s.upd dst ⟨v, [], c⟩) (a.put dst v') w := by
  obtain ⟨h1, h2, h3, _⟩ := hc
  exact put_conc (w := w) h1 h2 h3 ht hv (by
    have : (s.upd dst ⟨v, [], c⟩).blk = s.blk := by funext m; simp [FS.upd, lookW]
    rw [this]; exact hm)

theorem plainOp_sound (P : Program) : Sound P (fun _ o => plainOp P o) := by
  intro name o s eff w0 a w Q K hr hb hc hcond hK
  obtain ⟨ρ, ht, hm⟩ := hc.2.2.2
  simp only [plainOp] at hr
  split at hr
  · simp [Rd.run] at hr
  rename_i hsel
  rw [Rd.run_bind] at hr
  rcases hl : (rdAll o.op.operands.toList).run s with _ | l
  · simp [hl] at hr
  simp only [hl, Option.bind_some] at hr
  split at hr
  rotate_left
  · simp [Rd.run] at hr
  rename_i v hst
  split at hr
  rotate_left
  · simp [Rd.run] at hr
  rename_i hp
  obtain rfl : (⟨v, [], []⟩ : Eff) = eff := by simpa [Rd.run] using hr
  have he : execOp (envOf l) o = execOp a.eval o := execOp_congr o (fun cs b h => by simp [noSel, h] at hsel) fun x hx => rdAll_ok ht _ l hl x (by simpa using hx)
  rw [he] at hst
  exact value_wp (still_run P w _ _ hst) (hK _ _ (quiet_conc hc ht hm (.lit hp)))

def pickV (b : Bool) (x y : Value) : Value :=
  match x, y with
  | .bool p, .bool q => .bool (match b with
    | true => p
    | false => q)
  | x, y => match b with
    | true => x
    | false => y
theorem pickV_true (x y : Value) : pickV true x y = x := by
  unfold pickV
  split <;> rfl
theorem pickV_false (x y : Value) : pickV false x y = y := by
  unfold pickV
  split <;> rfl
def moveOp (x : Operand) : Rd Eff := (rdv x).bind fun v => .ret ⟨v, [], []⟩
def pickOp (c x y : Operand) : Rd Eff := (rdv c).bind fun c => match c with
  | .bool b => (rdv x).bind fun x => (rdv y).bind fun y => .ret ⟨pickV b x y, [], []⟩
  | _ => .fail

theorem bind_some {α β : Type} {s : FS} {r : Rd α} {f : α → Rd β} {b : β} (h : (r.bind f).run s = some b) : ∃ x, r.run s = some x ∧ (f x).run s = some b := by
  rw [Rd.run_bind] at h
  rcases hr : r.run s with _ | x
  · simp [hr] at h
  · exact ⟨x, rfl, by simpa [hr] using h⟩

theorem moveOp_sound {P : Program} {o : Oper} {x : Operand} (ho : ∀ ρ, execOp ρ o = pure (.value (ρ x))) {s : FS} {eff : Eff} {w0 : Start} {a : Act} {w : World} {Q : Exit → Act → World → Prop} {K : Act → World → Prop}
    (hr : (moveOp x).run s = some eff) (hc : Conc w0 s a w) (hK : ∀ a' w', Conc w0 (s.upd o.dst eff) a' w' → K a' w') : owp P w0 o a w K Q := by
  obtain ⟨ρ, ht, hm⟩ := hc.2.2.2
  obtain ⟨v, h1, h2⟩ := bind_some hr
  obtain rfl : (⟨v, [], []⟩ : Eff) = eff := by simpa [Rd.run] using h2
  exact value_wp (v := a.eval x) (w' := w) (by rw [ho]; rfl) (hK _ _ (quiet_conc hc ht hm (rdv_ok h1 ht)))
theorem pickOp_sound {P : Program} {o : Oper} {c x y : Operand} (ho : o.op = .pick c x y) {s : FS} {eff : Eff} {w0 : Start} {a : Act} {w : World} {Q : Exit → Act → World → Prop} {K : Act → World → Prop}
    (hr : (pickOp c x y).run s = some eff) (hc : Conc w0 s a w) (hK : ∀ a' w', Conc w0 (s.upd o.dst eff) a' w' → K a' w') : owp P w0 o a w K Q := by
  obtain ⟨ρ, ht, hm⟩ := hc.2.2.2
  obtain ⟨c', h1, h2⟩ := bind_some hr
  split at h2
  rotate_left
  · simp [Rd.run] at h2
  rename_i b
  obtain ⟨x', h3, h4⟩ := bind_some h2
  obtain ⟨y', h5, h6⟩ := bind_some h4
  obtain rfl : (⟨pickV b x' y', [], []⟩ : Eff) = eff := by simpa [Rd.run] using h6
  have e1 : a.eval c = .bool b := (rdv_ok h1 ht).plain rfl
  refine value_wp (v := if b then a.eval x else a.eval y) (w' := w) (by
    simp only [execOp, ho, e1]
    rfl) (hK _ _ (quiet_conc hc ht hm ?_))
  cases b
  · rw [pickV_false]; exact rdv_ok h5 ht
  · rw [pickV_true]; exact rdv_ok h3 ht
end Go.Proofs.Ytoijfjifaljpaab
