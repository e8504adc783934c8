/-
  The small machine: cuts of slices. Written by an AI agent.
-/
import Derived.Test.YtoijfjifaljpaabAbsP
import Derived.Laws.Slices
namespace Go.Proofs.Ytoijfjifaljpaab
open Go.RowKit

/-- A bound of a cut, read. -/
def rdBnd : Option Operand → Rd (Option (IntKind × Int))
  | none => .ret none
  | some x => (rdv x).bind fun v => match v with
    | .int k i => .ret (some (k, i))
    | _ => .fail
def bndI (b : Option (IntKind × Int)) (d : Int) : Int :=
  match b with
  | some (_, i) => i
  | none => d
theorem rdBnd_ok {ρ : Nat → Option Pl} {s : FS} {a : Act} {x : Option Operand} {b : Option (IntKind × Int)} (h : (rdBnd x).run s = some b) (ht : ∀ t, VR ρ (s.tmp t) (a.tmps.getD t undef)) : x.map a.eval = b.map fun p => Value.int p.1 p.2 := by
  cases x with
  | none =>
    obtain rfl : none = b := by simpa [rdBnd, Rd.run] using h
    rfl
  | some x =>
    obtain ⟨v, h1, h2⟩ := bind_some h
    split at h2
    · rename_i k i
      obtain rfl : some (k, i) = b := by simpa [Rd.run] using h2
      simp [(rdv_ok h1 ht).plain rfl]
    · simp [Rd.run] at h2
theorem run_bounds {P : Program} (w : World) (b1 b2 : Option (IntKind × Int)) (len cap : Nat) (h : 0 ≤ bndI b1 0 ∧ bndI b1 0 ≤ bndI b2 len ∧ bndI b2 len ≤ len) (hc : len ≤ cap) :
    (Instr.sliceBounds true len cap (b1.map fun p => Value.int p.1 p.2) (b2.map fun p => Value.int p.1 p.2) none).run P w = .ok ((bndI b1 0).toNat, (bndI b2 len).toNat, cap) w := by
  obtain ⟨h1, h2, h3⟩ := h
  rcases b1 with _ | ⟨k1, i1⟩ <;> rcases b2 with _ | ⟨k2, i2⟩ <;> simp only [bndI] at h1 h2 h3 ⊢
  · simp [Instr.sliceBounds]
  · simp [Instr.sliceBounds, run_sliceBound w k2 i2 cap _ (by omega) (by omega)]
  · simp [Instr.sliceBounds, run_sliceBound w k1 i1 len _ (by omega) (by omega)]
  · have e := Int.toNat_of_nonneg (a := i2) (by omega)
    simp [Instr.sliceBounds, run_sliceBound w k2 i2 cap _ (by omega) (by omega), run_sliceBound w k1 i1 i2.toNat _ (by omega) (by omega)]
def cutOp (P : Program) (t : TypeId) (x : Operand) (lo hi : Option Operand) : Rd Eff := (rdv x).bind fun vx => (rdBnd lo).bind fun b1 => (rdBnd hi).bind fun b2 =>
  match P.underlying t with
  | some (.slice e) => (match P.info? e with
    | some i => (match Nat.ble 1 i.size with
      | true => (match vx with
        | .slice (some ⟨n, o, none⟩) len _ => .ret ⟨.slice (some ⟨n, o + (bndI b1 0).toNat * i.size, none⟩) ((bndI b2 len).toNat - (bndI b1 0).toNat) ((bndI b2 len).toNat - (bndI b1 0).toNat), [], [0 ≤ bndI b1 0 ∧ bndI b1 0 ≤ bndI b2 len ∧ bndI b2 len ≤ len]⟩
        | .slice none 0 0 => .ret ⟨.slice none 0 0, [], [bndI b1 0 = 0 ∧ bndI b2 0 = 0]⟩
        | _ => .fail)
      | false => .fail)
    | none => .fail)
  | _ => .fail
theorem cut_rel {ρ : Nat → Option Pl} {n off len c0 l h sz : Nat} {v' : Value} (hv : VR ρ (.slice (some ⟨n, off, none⟩) len c0) v') (hsz : 1 ≤ sz) (hl : l ≤ h ∧ h ≤ len) :
    ∃ ad cap, v' = .slice ad len cap ∧ len ≤ cap ∧ VR ρ (.slice (some ⟨n, off + l * sz, none⟩) (h - l) (h - l)) (.slice (if cap = l then ad else ad.map (·.add (l * sz))) (h - l) (cap - l)) := by
  rcases hv.slice_inv with ⟨g, f, cp, c', h7, hq, h8, h9, h10⟩ | ⟨h0, hpos, ad, c', h8⟩ | ⟨h0, ad, c', p, h8, hp1, hp2, hp3⟩
  · refine ⟨_, _, h8, h9, ?_⟩
    by_cases hml : c' = l
    · rw [if_pos hml]
      by_cases hl0 : l = 0
      · subst hl0
        rw [show off + 0 * sz = off by omega]
        exact .slice h7 hq (by omega) (fun k hk ho => by rw [h10 k hk ho]; rfl)
      · rw [show h - l = 0 by omega]
        exact .none_ (by have := Nat.mul_pos (show 0 < l by omega) hsz; omega)
    · rw [if_neg hml]
      simp only [Option.map_some, addr_add]
      rw [Nat.add_assoc]
      refine .slice h7 hq (by omega) (fun k hk ho => ?_)
      have hl0 : l = 0 := by
        rcases Nat.eq_zero_or_pos l with hz | hz
        · exact hz
        · have := Nat.mul_pos hz hsz; omega
      have ho0 : off = 0 := by omega
      rw [hl0, h10 k hk ho0]
      rfl
  · subst h0
    refine ⟨some ad, c', h8, by omega, ?_⟩
    rw [show h - l = 0 by omega]
    by_cases hc0 : c' = l
    · rw [if_pos hc0]
      exact .none_ (by omega)
    · rw [if_neg hc0]
      exact .none_ (by omega)
  · subst h0
    refine ⟨ad, c', h8, Nat.zero_le _, ?_⟩
    obtain rfl : l = 0 := by omega
    obtain rfl : h = 0 := by omega
    refine .nil_ hp1 hp2 rfl fun h0 => ?_
    obtain ⟨rfl, rfl⟩ := hp3 h0
    exact ⟨rfl, rfl⟩
theorem cutOp_sound {P : Program} {o : Oper} {t : TypeId} {x : Operand} {lo hi : Option Operand} (ho : o.op = .slice t x lo hi none) {s : FS} {eff : Eff} {w0 : Start} {a : Act} {w : World} {Q : Exit → Act → World → Prop} {K : Act → World → Prop}
    (hr : (cutOp P t x lo hi).run s = some eff) (hc : Conc w0 s a w) (hcond : eff.cond) (hK : ∀ a' w', Conc w0 (s.upd o.dst eff) a' w' → K a' w') : owp P w0 o a w K Q := by
  obtain ⟨ρ, ht, hm⟩ := hc.2.2.2
  obtain ⟨vx, h1, h2⟩ := bind_some hr
  obtain ⟨b1, h3, h4⟩ := bind_some h2
  obtain ⟨b2, h5, h6⟩ := bind_some h4
  clear h2 h4
  have e1 := rdBnd_ok h3 ht
  have e2 := rdBnd_ok h5 ht
  split at h6
  rotate_left
  · simp [Rd.run] at h6
  rename_i e hu
  split at h6
  rotate_left
  · simp [Rd.run] at h6
  rename_i i hi'
  split at h6
  rotate_left
  · simp [Rd.run] at h6
  rename_i hsz
  have hsz : 1 ≤ i.size := Nat.le_of_ble_eq_true hsz
  have hrun : ∀ (ad : Option Addr) (len cap : Nat), a.eval x = .slice ad len cap → 0 ≤ bndI b1 0 ∧ bndI b1 0 ≤ bndI b2 len ∧ bndI b2 len ≤ len → len ≤ cap →
      (execOp a.eval o).run P w = .ok (.value (.slice (if cap = (bndI b1 0).toNat then ad else ad.map (·.add ((bndI b1 0).toNat * i.size))) ((bndI b2 len).toNat - (bndI b1 0).toNat) (cap - (bndI b1 0).toNat))) w := by
    intro ad len cap hx hb hlc
    have hbs := run_bounds (P := P) w b1 b2 len cap hb hlc
    simp [execOp, ho, hx, e1, e2, Instr.sliceAt, Instr.slice, run_underlying hu, hbs, sizeOf, typeInfo, hi']
  split at h6
  · rename_i n off len c0
    obtain rfl : (⟨.slice (some ⟨n, off + (bndI b1 0).toNat * i.size, none⟩) ((bndI b2 len).toNat - (bndI b1 0).toNat) ((bndI b2 len).toNat - (bndI b1 0).toNat), [], [0 ≤ bndI b1 0 ∧ bndI b1 0 ≤ bndI b2 len ∧ bndI b2 len ≤ len]⟩ : Eff) = eff := by simpa [Rd.run] using h6
    have hb : 0 ≤ bndI b1 0 ∧ bndI b1 0 ≤ bndI b2 len ∧ bndI b2 len ≤ len := hcond.1
    obtain ⟨ad, cap, g1, g2, g3⟩ := cut_rel (rdv_ok h1 ht) hsz (l := (bndI b1 0).toNat) (h := (bndI b2 len).toNat) (by omega)
    exact value_wp (w' := w) (hrun _ _ _ g1 hb g2) (hK _ _ (quiet_conc hc ht hm g3))
  · obtain rfl : (⟨.slice none 0 0, [], [bndI b1 0 = 0 ∧ bndI b2 0 = 0]⟩ : Eff) = eff := by simpa [Rd.run] using h6
    have hb : bndI b1 0 = 0 ∧ bndI b2 0 = 0 := hcond.1
    have hx := (rdv_ok h1 ht).plain rfl
    have hr0 := hrun none 0 0 hx (by
      have e : ((0 : Nat) : Int) = 0 := rfl
      rw [e, hb.1, hb.2]
      omega) (Nat.le_refl _)
    refine value_wp (v := .slice none 0 0) (w' := w) ?_ (hK _ _ (quiet_conc hc ht hm (.lit rfl)))
    rw [hr0]
    have e : ((0 : Nat) : Int) = 0 := rfl
    rw [e, hb.1, hb.2]
    rfl
  · simp [Rd.run] at h6
/-- A whole array's block as a slice. -/
def arrOp (P : Program) (t : TypeId) (x : Operand) : Rd Eff := (rdv x).bind fun vx =>
  match P.underlying t with
  | some (.pointer arr) => (match P.underlying arr with
    | some (.array l e) => (match P.info? e with
      | some _ => (match Nat.ble 1 l with
        | true => (match vx with
          | .pointer (some ⟨n, o, none⟩) => .blk n fun b => (match b with
            | some ⟨.box, _⟩ => .ret ⟨.slice (some ⟨n, o, none⟩) l l, [], []⟩
            | _ => .fail)
          | _ => .fail)
        | false => .fail)
      | none => .fail)
    | _ => .fail)
  | _ => .fail
theorem arrOp_sound {P : Program} {o : Oper} {t : TypeId} {x : Operand} (ho : o.op = .slice t x none none none) {s : FS} {eff : Eff} {w0 : Start} {a : Act} {w : World} {Q : Exit → Act → World → Prop} {K : Act → World → Prop}
    (hr : (arrOp P t x).run s = some eff) (hc : Conc w0 s a w) (hK : ∀ a' w', Conc w0 (s.upd o.dst eff) a' w' → K a' w') : owp P w0 o a w K Q := by
  obtain ⟨ρ, ht, hm⟩ := hc.2.2.2
  obtain ⟨vx, h1, h2⟩ := bind_some hr
  split at h2
  rotate_left
  · simp [Rd.run] at h2
  rename_i arr hu
  split at h2
  rotate_left
  · simp [Rd.run] at h2
  rename_i l e ha
  split at h2
  rotate_left
  · simp [Rd.run] at h2
  rename_i i hi
  split at h2
  rotate_left
  · simp [Rd.run] at h2
  rename_i hsz
  have hl : 1 ≤ l := Nat.le_of_ble_eq_true hsz
  split at h2
  rotate_left
  · simp [Rd.run] at h2
  rename_i n off
  simp only [Rd.run] at h2
  split at h2
  rotate_left
  · simp [Rd.run] at h2
  rename_i cs hb
  obtain rfl : (⟨.slice (some ⟨n, off, none⟩) l l, [], []⟩ : Eff) = eff := by simpa [Rd.run] using h2
  obtain ⟨g, hg, _⟩ := hm.ok n _ hb
  have hx := rdv_ok h1 ht
  obtain ⟨g', f, cp, hp, hq, he⟩ : ∃ g f cp, ρ n = some (g, f, cp) ∧ okPl f cp ∧ a.eval x = .pointer (some ⟨g, f + off, none⟩) := by
    generalize a.eval x = vv at hx
    cases hx with
    | lit hp => simp [plainV, atomV] at hp
    | ptr hn hq => exact ⟨_, _, _, hn, hq, rfl⟩
  have hgg : (g', f, cp) = (g, 0, none) := Option.some.inj (hp.symm.trans hg)
  obtain ⟨rfl, rfl, rfl⟩ : g' = g ∧ f = 0 ∧ cp = none := by simpa using hgg
  have hl0 : ¬ l = 0 := by omega
  refine value_wp (v := .slice (some ⟨g', 0 + off, none⟩) l l) (w' := w) ?_ (hK _ _ (quiet_conc hc ht hm (.slice hp hq (Nat.le_refl _) (by intro k hk; cases hk))))
  simp [execOp, ho, he, Instr.sliceAt, Instr.slice, run_underlying hu, run_underlying ha, sizeOf, typeInfo, hi, Instr.sliceBounds, asAddr, hl0]
  rfl
/-- append of nothing. -/
def isCut : Value → Bool
  | .slice none 0 0 => true
  | .slice (some ⟨_, _, none⟩) _ _ => true
  | _ => false
theorem cut_open {ρ : Nat → Option Pl} {v v' : Value} (h : isCut v = true) (k : VR ρ v v') : ∃ ad l c, v' = .slice ad l c ∧ l ≤ c := by
  unfold isCut at h
  split at h
  · exact ⟨none, 0, 0, k.plain rfl, Nat.le_refl _⟩
  · rename_i n o l c
    rcases k.slice_inv with ⟨g, f, cp, c', _, _, h8, h9, _⟩ | ⟨h0, _, ad, c', h8⟩ | ⟨h0, ad, c', _, h8, _⟩
    · exact ⟨_, _, _, h8, h9⟩
    · exact ⟨_, _, _, h8, by omega⟩
    · exact ⟨_, _, _, h8, by omega⟩
  · cases h
def appendZ (P : Program) (t : TypeId) (x : Operand) : Rd Eff := (rdv x).bind fun vx =>
  match P.underlying t with
  | some (.slice e) => (match P.info? e with
    | some _ => (match isCut vx with
      | true => .ret ⟨vx, [], []⟩
      | false => .fail)
    | none => .fail)
  | _ => .fail
def appendAny (P : Program) (name : Nat) (t : TypeId) (x y : Operand) : Rd Eff := (rdv y).bind fun vy => match vy with
  | .slice none 0 0 => appendZ P t x
  | _ => appendOp P name t x y
theorem appendAny_sound {P : Program} {o : Oper} {t : TypeId} {x y : Operand} (ho : o.op = .call { callee := .builtin .append, args := #[x, y], argTypes := #[t, t] }) {name : Nat} {s : FS} {eff : Eff} {w0 : Start} {a : Act} {w : World} {Q : Exit → Act → World → Prop} {K : Act → World → Prop}
    (hr : (appendAny P name t x y).run s = some eff) (hnm : s.blk name = none) (hc : Conc w0 s a w) (hcond : eff.cond) (hK : ∀ a' w', Conc w0 (s.upd o.dst eff) a' w' → K a' w') : owp P w0 o a w K Q := by
  obtain ⟨vy, h1, h2⟩ := bind_some hr
  split at h2
  rotate_left
  · exact appendOp_sound ho h2 hnm hc hcond hK
  obtain ⟨vx, h3, h4⟩ := bind_some h2
  split at h4
  rotate_left
  · simp [Rd.run] at h4
  rename_i e hu
  split at h4
  rotate_left
  · simp [Rd.run] at h4
  rename_i i hi
  split at h4
  rotate_left
  · simp [Rd.run] at h4
  rename_i hcx
  obtain rfl : (⟨vx, [], []⟩ : Eff) = eff := by simpa [Rd.run] using h4
  obtain ⟨ρ, ht, hm⟩ := hc.2.2.2
  obtain ⟨ax, lx, cx, ex, hlx⟩ := cut_open hcx (rdv_ok h3 ht)
  have ey := (rdv_ok h1 ht).plain rfl
  have hv := rdv_ok h3 ht
  rw [ex] at hv
  refine value_wp (v := .slice ax lx cx) (w' := w) ?_ (hK _ _ (quiet_conc hc ht hm hv))
  simp only [execOp, ho, resolve, invoke, builtin, Sem.run_bind, Sem.run_pure, Result.andThen_ok, List.map_toArray, List.map_cons, List.map_nil, ex, ey, run_append_zero (P := P) w hu hi ax none lx cx 0 hlx]
end Go.Proofs.Ytoijfjifaljpaab
