/-
  Calls that only read, as operations: told on the least memory, whatever names their arguments hold. Written by an AI agent.
-/
import Derived.Test.YtblpldapmmoheabBc
namespace Go.Proofs.Ytblpldapmmoheab
set_option linter.all false
open Go.RowKit

/-- A value with its names counted anew. -/
def canA (ns : List Nat) : Value → Option (Value × List Nat)
  | .pointer (some ⟨n, o, none⟩) => some (.pointer (some ⟨ns.length, o, none⟩), ns ++ [n])
  | .slice (some ⟨n, 0, none⟩) l _ => some (.slice (some ⟨ns.length, 0, none⟩) l l, ns ++ [n])
  | v => match plainV v with
    | true => some (v, ns)
    | false => none
def canL (ns : List Nat) : List Value → Option (List Value × List Nat)
  | [] => some ([], ns)
  | v :: r => match canA ns v with
    | some (v', ns1) => (match canL ns1 r with
      | some (r', ns2) => some (v' :: r', ns2)
      | none => none)
    | none => none
def canV (ns : List Nat) : Value → Option (Value × List Nat)
  | .func fn ⟨[]⟩ ⟨c⟩ => match canL ns c with
    | some (c', ns1) => some (.func fn ⟨[]⟩ ⟨c'⟩, ns1)
    | none => none
  | v => canA ns v
def canVs (ns : List Nat) : List Value → Option (List Value × List Nat)
  | [] => some ([], ns)
  | v :: r => match canV ns v with
    | some (v', ns1) => (match canVs ns1 r with
      | some (r', ns2) => some (v' :: r', ns2)
      | none => none)
    | none => none
/-- The blocks of names, and of the names that lie in them. -/
def rdMem : Nat → Nat → List Nat → List Cs → Rd (List Nat × List Cs)
  | 0, _, _, _ => .fail
  | q + 1, i, ns, css => match ns[i]? with
    | none => .ret (ns, css)
    | some n => .blk n fun b => match b with
      | some b => (match b.live with
        | true => (match b.cs with
          | .vals l => (match canVs ns l with
            | some (l', ns') => rdMem q (i + 1) ns' (css ++ [.vals l'])
            | none => .fail)
          | cs => rdMem q (i + 1) ns (css ++ [cs]))
        | false => .fail)
      | none => .fail
/-- What a function answers: its arguments and the cells of the blocks that they name, counted anew. -/
abbrev PSpec := List Value → List Cs → Option (Value × List Prop)
def rfG (sp : PSpec) (args : List Value) : Rd Eff := match canVs [] args with
  | some (zs, ns) => (rdMem 20 0 ns []).bind fun r => (match sp zs r.2 with
    | some (v, C) => .ret ⟨v, [], C⟩
    | none => .fail)
  | none => .fail
def PSpecOk (P : Program) (f : FuncId) (sp : PSpec) : Prop := ∀ zs css v C, sp zs css = some (v, C) → AllP C → ∃ (E : Env) (m n : Nat), EnvOk P E ∧ plainV v = true ∧
  (bodyM P E (runM P E m n) m f zs (css.map fun cs => some ⟨.view, cs⟩) .fin).ok (fun _ _ => False) (fun u _ => u = v)

/-- The one value is the other with its names counted anew. -/
def Ren (ns : List Nat) (v v' : Value) : Prop := ∀ (ρ ρs : Nat → Option Pl) (x : Value), (∀ (k : Nat) n, ns[k]? = some n → ρs k = ρ n) → VR ρ v x → VR ρs v' x
theorem Ren.mono {ns t : List Nat} {v v' : Value} (h : Ren ns v v') : Ren (ns ++ t) v v' := fun ρ ρs x hk => h ρ ρs x fun k n hn => hk k n (by
  rw [List.getElem?_append_left (by
    have := List.getElem?_eq_some_iff.1 hn
    exact this.1)]
  exact hn)
theorem ren_plain {ns : List Nat} {v : Value} (h : plainV v = true) : Ren ns v v := fun ρ ρs x _ hx => by
  rw [hx.plain h]
  exact .lit h
theorem canA_ok {ns ns1 : List Nat} {v v' : Value} (h : canA ns v = some (v', ns1)) : ∃ t, ns1 = ns ++ t ∧ Ren ns1 v v' := by
  unfold canA at h
  split at h
  · rename_i n o
    obtain ⟨rfl, rfl⟩ : _ ∧ _ := by simpa using h
    refine ⟨[n], rfl, fun ρ ρs x hk hx => ?_⟩
    obtain ⟨g, f, cp, h1, h2, rfl⟩ := hx.ptr_inv
    exact .ptr ((hk ns.length n (by simp)).trans h1) h2
  · rename_i n l c
    obtain ⟨rfl, rfl⟩ : _ ∧ _ := by simpa using h
    exact ⟨[n], rfl, fun ρ ρs x hk hx => vr_ren (hk ns.length n (by simp)) hx⟩
  · split at h
    · rename_i hp
      obtain ⟨rfl, rfl⟩ : _ ∧ _ := by simpa using h
      exact ⟨[], by simp, ren_plain hp⟩
    · cases h
def RenL (ns : List Nat) (l l' : List Value) : Prop := l.length = l'.length ∧ ∀ (k : Nat) v v', l[k]? = some v → l'[k]? = some v' → Ren ns v v'
theorem RenL.mono {ns t : List Nat} {l l' : List Value} (h : RenL ns l l') : RenL (ns ++ t) l l' := ⟨h.1, fun k v v' h1 h2 => (h.2 k v v' h1 h2).mono⟩
theorem RenL.cons {ns : List Nat} {l l' : List Value} {v v' : Value} (hv : Ren ns v v') (h : RenL ns l l') : RenL ns (v :: l) (v' :: l') := by
  refine ⟨by simp [h.1], fun k u u' h1 h2 => ?_⟩
  cases k with
  | zero =>
    obtain rfl : v = u := by simpa using h1
    obtain rfl : v' = u' := by simpa using h2
    exact hv
  | succ k => exact h.2 k u u' (by simpa using h1) (by simpa using h2)
theorem canL_ok : ∀ {l l' : List Value} {ns ns1 : List Nat}, canL ns l = some (l', ns1) → ∃ t, ns1 = ns ++ t ∧ RenL ns1 l l'
  | [], l', ns, ns1, h => by
    obtain ⟨rfl, rfl⟩ : _ ∧ _ := by simpa [canL] using h
    exact ⟨[], by simp, rfl, fun k v v' h1 _ => by simp at h1⟩
  | v :: r, l', ns, ns1, h => by
    simp only [canL] at h
    split at h
    rotate_left
    · cases h
    rename_i v' ns2 h1
    split at h
    rotate_left
    · cases h
    rename_i r' ns3 h2
    obtain ⟨rfl, rfl⟩ : _ ∧ _ := by simpa using h
    obtain ⟨t1, rfl, k1⟩ := canA_ok h1
    obtain ⟨t2, rfl, k2⟩ := canL_ok h2
    exact ⟨t1 ++ t2, by simp, k2.cons k1.mono⟩
theorem canV_ok {ns ns1 : List Nat} {v v' : Value} (h : canV ns v = some (v', ns1)) : ∃ t, ns1 = ns ++ t ∧ Ren ns1 v v' := by
  unfold canV at h
  split at h
  · rename_i fn c
    split at h
    rotate_left
    · cases h
    rename_i c' ns2 h1
    obtain ⟨rfl, rfl⟩ : _ ∧ _ := by simpa using h
    obtain ⟨t, rfl, hl, hr⟩ := canL_ok h1
    refine ⟨t, rfl, fun ρ ρs x hk hx => ?_⟩
    obtain ⟨f', c2, rfl, hf, hc⟩ := hx.func_inv
    refine .func (by simpa using hf.1) (by simpa [← hl] using hc.1) (fun i u u' h1 _ => by simp at h1) fun i u u' h1 h2 => ?_
    have h1 : c'[i]? = some u := by simpa using h1
    have hi : i < c.length := by
      have := (List.getElem?_eq_some_iff.1 h1).1
      omega
    obtain ⟨u0, h0⟩ : ∃ u0, c[i]? = some u0 := ⟨c[i], by simp [hi]⟩
    exact hr i u0 u h0 h1 ρ ρs u' hk (hc.2 i u0 u' (by simpa using h0) h2)
  · exact canA_ok h
theorem canVs_ok : ∀ {l l' : List Value} {ns ns1 : List Nat}, canVs ns l = some (l', ns1) → ∃ t, ns1 = ns ++ t ∧ RenL ns1 l l'
  | [], l', ns, ns1, h => by
    obtain ⟨rfl, rfl⟩ : _ ∧ _ := by simpa [canVs] using h
    exact ⟨[], by simp, rfl, fun k v v' h1 _ => by simp at h1⟩
  | v :: r, l', ns, ns1, h => by
    simp only [canVs] at h
    split at h
    rotate_left
    · cases h
    rename_i v' ns2 h1
    split at h
    rotate_left
    · cases h
    rename_i r' ns3 h2
    obtain ⟨rfl, rfl⟩ : _ ∧ _ := by simpa using h
    obtain ⟨t1, rfl, k1⟩ := canV_ok h1
    obtain ⟨t2, rfl, k2⟩ := canVs_ok h2
    exact ⟨t1 ++ t2, by simp, k2.cons k1.mono⟩
/-- So many blocks have been read. -/
def Red (s : FS) (ns : List Nat) (css : List Cs) (i : Nat) : Prop := css.length = i ∧ ∀ (j : Nat) cs, css[j]? = some cs → ∃ n b, ns[j]? = some n ∧ s.blk n = some b ∧ b.live = true ∧ RenL ns b.cells cs.list
theorem Red.mono {s : FS} {ns t : List Nat} {css : List Cs} {i : Nat} (h : Red s ns css i) : Red s (ns ++ t) css i := ⟨h.1, fun j cs hj => by
  obtain ⟨n, b, h1, h2, h3, h4⟩ := h.2 j cs hj
  refine ⟨n, b, ?_, h2, h3, h4.mono⟩
  rw [List.getElem?_append_left (List.getElem?_eq_some_iff.1 h1).1]
  exact h1⟩
theorem Red.snoc {s : FS} {ns : List Nat} {css : List Cs} {i : Nat} (h : Red s ns css i) {n : Nat} {b : Blk} {cs : Cs} (h1 : ns[i]? = some n) (h2 : s.blk n = some b) (h3 : b.live = true) (h4 : RenL ns b.cells cs.list) : Red s ns (css ++ [cs]) (i + 1) := by
  refine ⟨by simp [h.1], fun j cs' hj => ?_⟩
  rw [List.getElem?_append] at hj
  split at hj
  · exact h.2 j cs' hj
  · rename_i hlt
    have hlt' : j < css.length + 1 := by
      have := (List.getElem?_eq_some_iff.1 hj).1
      simp at this
      omega
    obtain rfl : j = i := by have := h.1; omega
    have hz : j - css.length = 0 := by have := h.1; omega
    rw [hz] at hj
    obtain rfl : cs = cs' := by simpa using hj
    exact ⟨n, b, h1, h2, h3, h4⟩
theorem renL_self {ns : List Nat} {l : List Value} (h : ∀ v ∈ l, plainV v = true) : RenL ns l l := ⟨rfl, fun k v v' h1 h2 => by
  rw [h1] at h2
  obtain rfl : v = v' := by simpa using h2
  exact ren_plain (h v (List.mem_of_getElem? h1))⟩
theorem rdMem_ok {s : FS} : ∀ (q i : Nat) {ns : List Nat} {css : List Cs} {F : List Nat} {D : List Cs}, (rdMem q i ns css).run s = some (F, D) → Red s ns css i → ∃ t, F = ns ++ t ∧ Red s F D F.length
  | 0, i, ns, css, F, D, h, _ => by simp [rdMem, Rd.run] at h
  | q + 1, i, ns, css, F, D, h, hr => by
    simp only [rdMem] at h
    split at h
    · rename_i hn
      obtain ⟨rfl, rfl⟩ : _ ∧ _ := by simpa [Rd.run] using h
      refine ⟨[], by simp, ?_⟩
      have hle : ns.length ≤ i := by simpa using hn
      have hge : i ≤ ns.length := by
        rcases Nat.eq_zero_or_pos i with h0 | h0
        · omega
        · obtain ⟨n, b, h1, _⟩ := hr.2 (i - 1) (css[i - 1]'(by have := hr.1; omega)) (by simp)
          have := (List.getElem?_eq_some_iff.1 h1).1
          omega
      have e : ns.length = i := by omega
      rw [e]
      exact hr
    · rename_i n hn
      simp only [Rd.run] at h
      split at h
      rotate_left
      · simp [Rd.run] at h
      rename_i b hb
      split at h
      rotate_left
      · simp [Rd.run] at h
      rename_i hl
      split at h
      · rename_i l hcs
        split at h
        rotate_left
        · simp [Rd.run] at h
        rename_i l' ns' hc
        obtain ⟨t1, rfl, k1⟩ := canVs_ok hc
        have hn' : (ns ++ t1)[i]? = some n := by
          rw [List.getElem?_append_left (List.getElem?_eq_some_iff.1 hn).1]
          exact hn
        obtain ⟨t2, rfl, k2⟩ := rdMem_ok q (i + 1) h (hr.mono.snoc hn' hb hl (cs := .vals l') (by unfold Blk.cells; rw [hcs]; exact k1))
        exact ⟨t1 ++ t2, by simp, k2⟩
      · rename_i cs hcs
        have hp : ∀ v ∈ b.cells, plainV v = true := by
          intro v hv
          unfold Blk.cells at hv
          generalize b.cs = c at *
          cases c with
          | vals l => exact absurd rfl (hcs l)
          | ints xs =>
            obtain ⟨y, _, rfl⟩ := List.mem_map.1 hv
            rfl
          | bytes xs =>
            obtain ⟨y, _, rfl⟩ := List.mem_map.1 hv
            rfl
        obtain ⟨t2, rfl, k2⟩ := rdMem_ok q (i + 1) h (hr.snoc hn hb hl (renL_self hp))
        exact ⟨t2, rfl, k2⟩
theorem live_place {ρ : Nat → Option Pl} {B : Nat → Prop} {w : World} {n : Nat} {b : Blk} (h : BlkOk ρ B w n b) (hl : b.live = true) : (∃ p, ρ n = some p ∧ nilPl p) ∨ ∃ g f cp, ρ n = some (g, f, cp) ∧ okPl f cp := by
  obtain ⟨kd, cs⟩ := b
  cases kd with
  | dead => cases hl
  | view =>
    rcases h with h | ⟨g, f, cp, h1, h2, _⟩
    · exact .inl h
    · exact .inr ⟨g, f, cp, h1, h2⟩
  | box =>
    obtain ⟨g, h1, _⟩ := h
    exact .inr ⟨g, 0, none, h1, .inl rfl⟩
  | row e sz =>
    rcases h with ⟨p, h1, h2, h3⟩ | ⟨g, cap, h1, _⟩
    · exact .inl ⟨p, h1, h2, 0, h3⟩
    · exact .inr ⟨g, 0, some cap, h1, .inl rfl⟩
theorem rfG_calls {P : Program} (hmx : P.follows .mixedOrders = true) {f : FuncId} {sp : PSpec} (hsp : PSpecOk P f sp) {args : List Value} {s : FS} {eff : Eff} (hr : (rfG sp args).run s = some eff)
    {B : Nat → Prop} {ρ0 ρ : Nat → Option Pl} {w : World} {args' : Array Value} (ha : VRs ρ args args') (hm : MemOk ρ0 ρ B s.blk w) (hB : ∀ k, B k → k < w.heap.size) (hcond : eff.cond) :
    Calls P f args' w fun e w' => ∃ v' ρ', e = .returned v' ∧ Ext ρ ρ' ∧ VR ρ' eff.val v' ∧ BelowK B w w' ∧ MemOk ρ0 ρ' B (s.upd none eff).blk w' := by
  unfold rfG at hr
  split at hr
  rotate_left
  · simp [Rd.run] at hr
  rename_i zs ns0 hc
  obtain ⟨⟨F, D⟩, h1, h2⟩ := bind_some hr
  split at h2
  rotate_left
  · simp [Rd.run] at h2
  rename_i v C hs
  obtain rfl : (⟨v, [], C⟩ : Eff) = eff := by simpa [Rd.run] using h2
  obtain ⟨t0, e0, k0⟩ := canVs_ok hc
  obtain ⟨t1, e1, hD, hR⟩ := rdMem_ok _ _ h1 ⟨rfl, fun j cs hj => by simp at hj⟩
  have k1 : RenL F args zs := by rw [e1]; exact k0.mono
  clear h1 h2 hr hc k0
  obtain ⟨E, m, n, hE, hv, ht⟩ := hsp _ _ _ _ hs hcond
  obtain ⟨u, mem', rfl, _, hdet⟩ := bodyM_ok hE hmx (runM_ok hmx hE m n) m f _ _ _ _ _ ht
  let ρs : Nat → Option Pl := fun k => (F[k]?).bind ρ
  have hk : ∀ (k : Nat) n, F[k]? = some n → ρs k = ρ n := fun k n h => by
    show (F[k]?).bind ρ = ρ n
    rw [h]
    rfl
  have hmem : MemOk (fun _ => none) ρs (fun k => k < w.heap.size) (fun k => (D.map fun cs => some (⟨.view, cs⟩ : Blk)).getD k none) w := by
    refine ⟨fun k q hq => by simp at hq, fun k hz => ?_, fun k b hb => ?_, fun k k' b b2 q q' hz hown _ _ _ _ _ _ _ => ?_⟩
    · have hz : D.length ≤ k := by
        rcases Nat.lt_or_ge k D.length with hlt | hge
        · simp [List.getD, hlt] at hz
        · exact hge
      show (F[k]?).bind ρ = none
      rw [List.getElem?_eq_none (by omega)]
      rfl
    · have hlt : k < D.length := by
        rcases Nat.lt_or_ge k D.length with hlt | hge
        · exact hlt
        · simp [List.getD, hge] at hb
      have hb : (⟨.view, D[k]⟩ : Blk) = b := by simpa [List.getD, hlt] using hb
      obtain ⟨n0, b0, q1, q2, q3, q4⟩ := hR k D[k] (by simp [hlt])
      rw [← hb]
      have hbo := hm.ok n0 b0 q2
      rcases live_place hbo q3 with ⟨p, p1, p2⟩ | ⟨g, fo, cp, p1, p2⟩
      · exact .inl ⟨p, (hk k n0 q1).trans p1, p2⟩
      · obtain ⟨c1, c2⟩ := live_cell hbo q3 p1 p2
        refine .inr ⟨g, fo, cp, (hk k n0 q1).trans p1, p2, c1, fun j v' hj => ?_⟩
        have hj : D[k].list[j]? = some v' := hj
        have hl : j < b0.cells.length := by
          have := (List.getElem?_eq_some_iff.1 hj).1
          have := q4.1
          omega
        obtain ⟨x, d1, d2⟩ := c2 j b0.cells[j] (by simp [hl])
        exact ⟨x, d1, q4.2 j b0.cells[j] v' (by simp [hl]) hj ρ ρs x hk d2⟩
    · have hlt : k < D.length := by
        rcases Nat.lt_or_ge k D.length with hlt | hge
        · exact hlt
        · simp [List.getD, hge] at hz
      have hz : (⟨.view, D[k]⟩ : Blk) = b := by simpa [List.getD, hlt] using hz
      rw [← hz] at hown
      cases hown
  have hargs : VRs ρs zs args' := ⟨by rw [← k1.1]; exact ha.1, fun i a x hi hx => by
    have hl : i < args.length := by
      have := (List.getElem?_eq_some_iff.1 hi).1
      have := k1.1
      omega
    exact k1.2 i args[i] a (by simp [hl]) hi ρ ρs x hk (ha.2 i args[i] x (by simp [hl]) hx)⟩
  refine (hdet ⟨w, fun _ => none, fun k => k < w.heap.size, fun k h => h, [], none⟩ ρs args' w hargs hmem (BelowK.refl _ _)).mono ?_
  rintro e2 w' ⟨v', ρ', rfl, _, hvv, hbel, _⟩
  have hb := hbel.to
  refine ⟨v', ρ, rfl, Ext.refl ρ, by rw [hvv.plain hv]; exact .lit hv, ⟨hbel.os, hbel.tape, hbel.output, hbel.size, fun k hkB => hbel.block k (hB k hkB)⟩, hm.keep hb⟩
theorem consJ_rf {P : Program} (hmx : P.follows .mixedOrders = true) {J : TabJ} (hJ : GSound P J.g) {f : FuncId} {sp : PSpec} (hent : enters P f) (hsp : PSpecOk P f sp) : GSound P (consJ f (fun _ => rfG sp) J).g := by
  intro h name args s eff hr hn
  simp only [consJ] at hr
  split at hr
  rotate_left
  · exact hJ h name args s eff hr hn
  rename_i heq
  obtain rfl := Nat.eq_of_beq_eq_true heq
  exact ⟨hent, fun B ρ0 ρ w args' ha hm hB hcond => rfG_calls hmx hsp hr ha hm hB hcond⟩
end Go.Proofs.Ytblpldapmmoheab
