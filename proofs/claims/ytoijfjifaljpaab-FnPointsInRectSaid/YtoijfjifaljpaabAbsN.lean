/-
  The small machine: functions that write into a row that the caller owns are told as operations of any memory, out of their trees on the smallest one. Written by an AI agent.
-/
import Derived.Test.YtoijfjifaljpaabAbsM
namespace Go.Proofs.Ytoijfjifaljpaab
open Go.RowKit

theorem MemOk.setNil {ρ0 ρ : Nat → Option Pl} {B : Nat → Prop} {m : Nat → Option Blk} {w : World} (h : MemOk ρ0 ρ B m w) {n : Nat} {b c : Blk} (hn : m n = some b) {p : Pl} (hp : ρ n = some p) (hnp : nilPl p) (hb : BlkOk ρ B w n c) : MemOk ρ0 ρ B (setB m n c) w where
  ext := h.ext
  fresh := fun k hk => by
    by_cases hkn : k = n
    · subst hkn; simp [setB] at hk
    · exact h.fresh k (by simpa [setB, hkn] using hk)
  ok := fun k d hk => by
    by_cases hkn : k = n
    · subst hkn
      obtain rfl : c = d := by simpa [setB] using hk
      exact hb
    · exact h.ok k d (by simpa [setB, hkn] using hk)
  sep := fun k k' d d' q q' hk hown' hk' hlive hne hq hq' hnq hnq' => by
    by_cases hkn : k = n
    · subst hkn
      rw [hp] at hq
      obtain rfl : p = q := by simpa using hq
      exact absurd hnp hnq
    · by_cases hk'n : k' = n
      · subst hk'n
        rw [hp] at hq'
        obtain rfl : p = q' := by simpa using hq'
        exact absurd hnp hnq'
      · exact h.sep k k' d d' q q' (by simpa [setB, hkn] using hk) hown' (by simpa [setB, hk'n] using hk') hlive hne hq hq' hnq hnq'

theorem lift_row {P : Program} {E : Env} (hE : EnvOk P E) (hmx : P.follows .mixedOrders = true) {m n : Nat} {f : FuncId} {e sz l : Nat} {xs ys : List Int} {v : Value} (hv : plainV v = true) {rest : List Value} (hrest : rest.all plainV = true)
    (h : (bodyM P E (runM P E m n) m f (.slice (some ⟨0, 0, none⟩) l l :: rest) [some ⟨.row e sz, .ints xs⟩] .fin).ok (fun _ _ => False) (fun u mem' => u = v ∧ ∃ b', mem'.getD 0 none = some b' ∧ b'.kind = .row e sz ∧ b'.cs.list = ys.map (Value.int .i64)))
    {s : FS} {nr c : Nat} {cs0 : Cs} (hb : s.blk nr = some ⟨.row e sz, cs0⟩) (hcs : cs0.list = xs.map (Value.int .i64)) : enters P f ∧ ∀ (B : Nat → Prop) (ρ0 ρ : Nat → Option Pl) (w : World) (args' : Array Value), VRs ρ (.slice (some ⟨nr, 0, none⟩) l c :: rest) args' → MemOk ρ0 ρ B s.blk w → (∀ k, B k → k < w.heap.size) →
    Calls P f args' w fun e' w' => ∃ v' ρ', e' = .returned v' ∧ Ext ρ ρ' ∧ VR ρ' v v' ∧ BelowK B w w' ∧ MemOk ρ0 ρ' B (setB s.blk nr ⟨.row e sz, .ints ys⟩) w' := by
  obtain ⟨u, mem', ⟨rfl, b', hmem', hkind, hlist⟩, hent, hdet⟩ := bodyM_ok hE hmx (runM_ok hmx hE m n) m f _ _ _ _ _ h
  refine ⟨hent, fun B ρ0 ρ w args' ha hm hB => ?_⟩
  have hatx : ∀ x ∈ xs.map (Value.int .i64), plainV x = true := fun x hx => by
    obtain ⟨y, _, rfl⟩ := List.mem_map.1 hx
    rfl
  let ρs : Nat → Option Pl := fun k => match k with
    | 0 => ρ nr
    | _ => none
  let Bs : Nat → Prop := fun k => k < w.heap.size ∧ ∀ p, ρ nr = some p → ¬ nilPl p → k ≠ p.1
  have hblk : (∃ p, ρ nr = some p ∧ p.2.1 = 1 ∧ p.2.2 = some 0) ∨ ∃ g cap, ρ nr = some (g, 0, some cap) ∧ ¬ B g ∧ ∃ cs', w.heap[g]? = some (.cells cs' e (0, 0)) ∧ cs'.size = cap * sz ∧ Cells ρ cs0.list cs' := hm.ok nr _ hb
  have hmem : MemOk (fun _ => none) ρs Bs (fun k => [some (⟨.row e sz, .ints xs⟩ : Blk)].getD k none) w := by
    refine ⟨fun k q hq => by simp at hq, fun k hk => ?_, fun k b hk => ?_, fun k k' b b2 q q' hk hown hk' hlive hne' hq hq' hnq hnq' => ?_⟩
    · match k with
      | 0 => simp at hk
      | k + 1 => rfl
    · match k with
      | 0 =>
        obtain rfl : (⟨.row e sz, .ints xs⟩ : Blk) = b := by simpa using hk
        rcases hblk with ⟨p, h1, h2, h3⟩ | ⟨g, cap, h1, h2, cs', h3, h4, h5⟩
        · exact .inl ⟨p, h1, h2, h3⟩
        · refine .inr ⟨g, cap, h1, fun hbs => hbs.2 _ h1 (okPl.not (.inl rfl)) rfl, cs', h3, h4, fun k x hx => ?_⟩
          have hx' : cs0.list[k]? = some x := by rw [hcs]; exact hx
          obtain ⟨x', h6, h7⟩ := h5 k x hx'
          have hat := hatx x (List.mem_of_getElem? hx)
          rw [h7.plain hat] at h6
          exact ⟨x, h6, .lit hat⟩
      | k + 1 => simp at hk
    · match k, k' with
      | 0, 0 => exact absurd rfl hne'
      | k + 1, _ => simp at hk
      | 0, k' + 1 => simp at hk'
  have hargs : VRs ρs (.slice (some ⟨0, 0, none⟩) l l :: rest) args' := by
    refine ⟨ha.1, fun i a x hi hx => ?_⟩
    cases i with
    | zero =>
      obtain rfl : Value.slice (some ⟨0, 0, none⟩) l l = a := by simpa using hi
      exact vr_ren (a := nr) rfl (ha.2 0 _ x rfl hx)
    | succ i =>
      have hi' : rest[i]? = some a := by simpa using hi
      have hp := List.all_eq_true.1 hrest a (List.mem_of_getElem? hi')
      have := ha.2 (i + 1) a x (by simpa using hi') hx
      rw [this.plain hp]
      exact .lit hp
  refine (hdet ⟨w, fun _ => none, Bs, fun k h => h.1, [], none⟩ ρs args' w hargs hmem (BelowK.refl _ _)).mono ?_
  rintro e1 w' ⟨v', ρ', rfl, hext, hvv, hbel, hm'⟩
  refine ⟨v', ρ, rfl, Ext.refl ρ, by rw [hvv.plain hv]; exact .lit hv, ⟨hbel.os, hbel.tape, hbel.output, hbel.size, fun k hk => hbel.block k ⟨hB k hk, fun p hp hnp => ?_⟩⟩, ?_⟩
  · rintro rfl
    exact ((hm.ok nr _ hb).real rfl hp hnp).2 rfl hk
  obtain ⟨kd, cs1⟩ := b'
  simp only at hkind hlist
  subst hkind
  have haty : ∀ x ∈ ys.map (Value.int .i64), plainV x = true := fun x hx => by
    obtain ⟨y, _, rfl⟩ := List.mem_map.1 hx
    rfl
  have h0 : (∃ p, ρ' 0 = some p ∧ p.2.1 = 1 ∧ p.2.2 = some 0) ∨ ∃ g cap, ρ' 0 = some (g, 0, some cap) ∧ ¬ Bs g ∧ ∃ cs', w'.heap[g]? = some (.cells cs' e (0, 0)) ∧ cs'.size = cap * sz ∧ Cells ρ' cs1.list cs' := hm'.ok 0 _ hmem'
  rcases hblk with ⟨p, h1, h2, h3⟩ | ⟨g, cap, h1, h2, cs', h3, h4, h5⟩
  · have hkeep : MemOk ρ0 ρ B s.blk w' := hm.keep ⟨hbel.os, hbel.tape, hbel.output, hbel.size, fun k hk => hbel.block k ⟨hk, fun q hq hnq => by
      rw [h1] at hq
      obtain rfl : p = q := by simpa using hq
      exact absurd ⟨h2, 0, h3⟩ hnq⟩⟩
    exact hkeep.setNil hb h1 ⟨h2, 0, h3⟩ (.inl ⟨p, h1, h2, h3⟩)
  · have hρ1 : ρ' 0 = some (g, 0, some cap) := hext 0 _ h1
    refine hm.set hb rfl h1 (okPl.not (.inl rfl)) hbel.size (fun k hk hkg => hbel.block k ⟨hk, fun p hp hnp => ?_⟩) (.inr ⟨g, cap, h1, h2, ?_⟩)
    · rw [h1] at hp
      obtain rfl : (g, 0, some cap) = p := by simpa using hp
      exact hkg
    · rcases h0 with ⟨p, k1, k2, k3⟩ | ⟨g', cap', k1, _, cs2, k2, k3, k4⟩
      · rw [hρ1] at k1
        obtain rfl : (g, 0, some cap) = p := by simpa using k1
        simp at k2
      · rw [hρ1] at k1
        obtain ⟨rfl, rfl⟩ : g = g' ∧ cap = cap' := by simpa using k1
        refine ⟨cs2, k2, k3, fun j x hx => ?_⟩
        have hx' : cs1.list[j]? = some x := by rw [hlist]; exact hx
        obtain ⟨x', h6, h7⟩ := k4 j x hx'
        have hat := haty x (List.mem_of_getElem? hx)
        rw [h7.plain hat] at h6
        exact ⟨x, h6, .lit hat⟩

/-- What a function makes of a row: its type, the size of an element, the length, the ints, further arguments; its answer, the new ints, conditions. -/
abbrev WSpec := Nat → Nat → Nat → List Int → List Value → Option (Value × List Int × List Prop)
def wrG (sp : WSpec) (args : List Value) : Rd Eff :=
  match args with
  | .slice (some ⟨nr, 0, none⟩) l _ :: rest => .blk nr fun b => match b with
    | some ⟨.row e sz, cs⟩ => (match rest.all plainV, intsC cs with
      | true, some xs => (match sp e sz l xs rest with
        | some (v, ys, C) => .ret ⟨v, [(nr, ⟨.row e sz, .ints ys⟩)], C⟩
        | none => .fail)
      | _, _ => .fail)
    | _ => .fail
  | _ => .fail
def WSpecOk (P : Program) (f : FuncId) (sp : WSpec) : Prop := ∀ e sz l xs rest v ys C, sp e sz l xs rest = some (v, ys, C) → AllP C → ∃ (E : Env) (m n : Nat), EnvOk P E ∧ plainV v = true ∧
  (bodyM P E (runM P E m n) m f (.slice (some ⟨0, 0, none⟩) l l :: rest) [some ⟨.row e sz, .ints xs⟩] .fin).ok (fun _ _ => False) (fun u mem' => u = v ∧ ∃ b', mem'.getD 0 none = some b' ∧ b'.kind = .row e sz ∧ b'.cs.list = ys.map (Value.int .i64))
/-- One function more is run as an operation on names. -/
def consJ (f : FuncId) (g : Nat → List Value → Rd Eff) (J : TabJ) : TabJ := ⟨fun h => Nat.beq f h || J.on h, fun h name args => match Nat.beq f h with
  | true => g name args
  | false => J.g h name args, J.row⟩
theorem consJ_wr {P : Program} (hmx : P.follows .mixedOrders = true) {J : TabJ} (hJ : GSound P J.g) {f : FuncId} {sp : WSpec} (hent : enters P f) (hsp : WSpecOk P f sp) : GSound P (consJ f (fun _ => wrG sp) J).g := by
  intro h name args s eff hr hn
  simp only [consJ] at hr
  split at hr
  rotate_left
  · exact hJ h name args s eff hr hn
  rename_i heq
  obtain rfl := Nat.eq_of_beq_eq_true heq
  refine ⟨hent, fun B ρ0 ρ w args' ha hm hB hcond => ?_⟩
  unfold wrG at hr
  split at hr
  rotate_left
  · simp [Rd.run] at hr
  rename_i nr l c rest
  simp only [Rd.run] at hr
  split at hr
  rotate_left
  · simp [Rd.run] at hr
  rename_i e sz cs hb
  split at hr
  rotate_left
  · simp [Rd.run] at hr
  rename_i xs hall hxs
  split at hr
  rotate_left
  · simp [Rd.run] at hr
  rename_i v ys C hs
  obtain rfl : (⟨v, [(nr, ⟨.row e sz, .ints ys⟩)], C⟩ : Eff) = eff := by simpa [Rd.run] using hr
  obtain ⟨E, m, n, hE, hv, ht⟩ := hsp _ _ _ _ _ _ _ _ hs hcond
  rw [upd_one]
  exact (lift_row hE hmx hv hall ht hb (intsC_spec hxs)).2 B ρ0 ρ w args' ha hm hB
def withT (E : Env) (J : TabJ) : Env := ⟨E.B, E.R, E.L, J, E.G⟩
theorem withT_ok {P : Program} {E : Env} (hE : EnvOk P E) {J : TabJ} (hJ : GSound P J.g) : EnvOk P (withT E J) := ⟨hE.B, hE.R, hE.L, hJ, hE.G⟩
end Go.Proofs.Ytoijfjifaljpaab
