/-
  The small machine: functions that take a reader and answer with a fresh row are told as operations. Written by an AI agent.
-/
import Derived.Test.YtoijfjifaljpaabAbsN
namespace Go.Proofs.Ytoijfjifaljpaab
open Go.RowKit

/-- A new row beside blocks that all lie below. -/
theorem MemOk.addRow {ρ0 ρ : Nat → Option Pl} {B : Nat → Prop} {m : Nat → Option Blk} {w' : World} (h : MemOk ρ0 ρ B m w') {W : Nat} (hW : ∀ k c q, m k = some c → c.live = true → ρ k = some q → ¬ nilPl q → q.1 < W) {n : Nat} (hn : m n = none) {b : Blk} {p : Pl} (hp : nilPl p ∨ W ≤ p.1) (hb : BlkOk (addPl ρ n p) B w' n b) :
    MemOk ρ0 (addPl ρ n p) B (setB m n b) w' where
  ext := h.ext.trans (addPl_ext (h.fresh n hn))
  fresh := fun k hk => by
    by_cases hkn : k = n
    · subst hkn; simp [setB] at hk
    · rw [addPl_ne hkn]
      exact h.fresh k (by simpa [setB, hkn] using hk)
  ok := fun k c hk => by
    by_cases hkn : k = n
    · subst hkn
      obtain rfl : b = c := by simpa [setB] using hk
      exact hb
    · have hk' : m k = some c := by simpa [setB, hkn] using hk
      exact (h.ok k c hk').keep (addPl_ext (h.fresh n hn)) (Nat.le_refl _) fun q hl hq hnq => rfl
  sep := fun k k' c c' q q' hk hown' hk' hlive hne hq hq' hnq hnq' => by
    by_cases hkn : k = n
    · subst hkn
      have hk'n : k' ≠ k := fun e => hne e.symm
      have hm : m k' = some c' := by simpa [setB, hk'n] using hk'
      rw [addPl_ne hk'n] at hq'
      rw [addPl_same] at hq
      obtain rfl : p = q := by simpa using hq
      have h2 := hW k' c' q' hm hlive hq' hnq'
      have h3 := hp.resolve_left hnq
      omega
    · have hm : m k = some c := by simpa [setB, hkn] using hk
      rw [addPl_ne hkn] at hq
      have h2 := hW k c q hm (own_live hown') hq hnq
      by_cases hk'n : k' = n
      · subst hk'n
        rw [addPl_same] at hq'
        obtain rfl : p = q' := by simpa using hq'
        have h3 := hp.resolve_left hnq'
        omega
      · have hm' : m k' = some c' := by simpa [setB, hk'n] using hk'
        rw [addPl_ne hk'n] at hq'
        exact h.sep k k' c c' q q' hm hown' hm' hlive hne hq hq' hnq hnq'

theorem lift_callsR {P : Program} {E : Env} (hE : EnvOk P E) (hmx : P.follows .mixedOrders = true) {m n : Nat} {f : FuncId} {bs : List Int} {l c : Nat} {p p' : Int} {v : Value} {b : Blk} (hb0 : isRow b = true) {rest : List Value} (hrest : rest.all plainV = true)
    (h : (bodyM P E (runM P E m n) m f (.pointer (some ⟨1, 0, none⟩) :: rest) (memR bs l c p none) .fin).ok (fun _ _ => False) (fun u mem' => mem'.getD 1 none = some (rdBox 0 l c p') ∧ RowIs v b u mem'))
    {s : FS} {nr cn name : Nat} (hb : s.blk nr = some (rdBox cn l c p)) (hcb : s.blk cn = some ⟨.view, .bytes bs⟩) (hname : s.blk name = none) : enters P f ∧ ∀ (B : Nat → Prop) (ρ0 ρ : Nat → Option Pl) (w : World) (args' : Array Value), VRs ρ (.pointer (some ⟨nr, 0, none⟩) :: rest) args' → MemOk ρ0 ρ B s.blk w → (∀ k, B k → k < w.heap.size) →
    Calls P f args' w fun e w' => ∃ v' ρ', e = .returned v' ∧ Ext ρ ρ' ∧ VR ρ' (atName name v) v' ∧ BelowK B w w' ∧ MemOk ρ0 ρ' B (setB (setB s.blk nr (rdBox cn l c p')) name b) w' := by
  obtain ⟨u, mem', ⟨hmem', src, hrv, hsrc⟩, hent, hdet⟩ := bodyM_ok hE hmx (runM_ok hmx hE m n) m f _ _ _ _ _ h
  refine ⟨hent, fun B ρ0 ρ w args' ha hm hB => ?_⟩
  obtain ⟨g, hρn, hBg, cs', e, hheap, hsz, hcs⟩ := hm.ok nr _ hb
  have hview : (∃ p, ρ cn = some p ∧ nilPl p) ∨ ∃ g f cp, ρ cn = some (g, f, cp) ∧ okPl f cp ∧ g < w.heap.size ∧ ∀ (k : Nat) v, (Blk.cells ⟨.view, .bytes bs⟩)[k]? = some v → ∃ v', w.cell? ⟨g, f + k, none⟩ = some v' ∧ VR ρ v v' := hm.ok cn _ hcb
  have hne : nr ≠ cn := fun e => by rw [e, hcb] at hb; simp [rdBox] at hb
  have hnn : nr ≠ name := fun e => by rw [e, hname] at hb; cases hb
  let ρs : Nat → Option Pl := fun k => match k with
    | 0 => ρ cn
    | 1 => some (g, 0, none)
    | _ => none
  have hglt : g < w.heap.size := heap_lt hheap
  have slot0 : ∀ x, cs'[0]? = some x → VR ρs (.slice (some ⟨0, 0, none⟩) l c) x := by
    intro x hx
    obtain ⟨x', h1, h2⟩ := hcs 0 _ rfl
    rw [hx] at h1
    obtain rfl : x = x' := by simpa using h1
    exact vr_ren (a := cn) rfl h2
  have slot1 : ∀ x, cs'[1]? = some x → x = .int .i64 p := by
    intro x hx
    obtain ⟨x', h1, h2⟩ := hcs 1 _ rfl
    rw [hx] at h1
    obtain rfl : x = x' := by simpa using h1
    exact h2.plain rfl
  have hsz2 : cs'.size = 2 := hsz
  have hmem : MemOk (fun _ => none) ρs (fun k => k < w.heap.size ∧ k ≠ g) (fun k => (memR bs l c p none).getD k none) w := by
    refine ⟨fun k q hq => by simp at hq, fun k hk => ?_, fun k b hk => ?_, fun k k' b b' q q' hk hown hk' hlive hne' hq hq' hnq hnq' => ?_⟩
    · match k with
      | 0 => simp [memR] at hk
      | 1 => simp [memR] at hk
      | k + 2 => rfl
    · match k with
      | 0 =>
        obtain rfl : (⟨.view, .bytes bs⟩ : Blk) = b := by simpa [memR] using hk
        rcases hview with hn | ⟨g2, f2, cp2, k1, k2, k3, k4⟩
        · exact .inl hn
        · refine .inr ⟨g2, f2, cp2, k1, k2, k3, fun j x hx => ?_⟩
          obtain ⟨x', h1, h2⟩ := k4 j x hx
          have hat : plainV x = true := plain_of_atom (allAtoms_spec (c := .bytes bs) rfl x (List.mem_of_getElem? hx))
          rw [h2.plain hat] at h1
          exact ⟨x, h1, .lit hat⟩
      | 1 =>
        obtain rfl : rdBox 0 l c p = b := by simpa [memR] using hk
        refine ⟨g, rfl, fun h => h.2 rfl, cs', e, hheap, hsz, fun j x hx => ?_⟩
        match j, hx with
        | 0, hx =>
          obtain rfl : Value.slice (some ⟨0, 0, none⟩) l c = x := by simpa [rdBox, Blk.cells, Cs.list] using hx
          exact ⟨cs'[0]'(by omega), by simp, slot0 _ (by simp)⟩
        | 1, hx =>
          obtain rfl : Value.int .i64 p = x := by simpa [rdBox, Blk.cells, Cs.list] using hx
          refine ⟨cs'[1]'(by omega), by simp, ?_⟩
          rw [slot1 (cs'[1]'(by omega)) (by simp)]
          exact .lit rfl
        | j + 2, hx => simp [rdBox, Blk.cells, Cs.list] at hx
      | k + 2 => simp [memR, third] at hk
    · have hk1 : k = 1 := by
        match k with
        | 0 =>
          obtain rfl : (⟨.view, .bytes bs⟩ : Blk) = b := by simpa [memR] using hk
          cases hown
        | 1 => rfl
        | k + 2 => simp [memR, third] at hk
      subst hk1
      obtain rfl : (g, 0, none) = q := by simpa [ρs] using hq
      match k' with
      | 0 => exact hm.sep nr cn _ _ _ q' hb rfl hcb rfl hne hρn hq' (okPl.not (.inl rfl)) hnq'
      | 1 => exact absurd rfl hne'
      | k' + 2 => simp [memR, third] at hk'
  have hargs : VRs ρs (.pointer (some ⟨1, 0, none⟩) :: rest) args' := by
    refine ⟨ha.1, fun i a x hi hx => ?_⟩
    cases i with
    | zero =>
      obtain rfl : Value.pointer (some ⟨1, 0, none⟩) = a := by simpa using hi
      obtain ⟨g', f', cp', k1, k2, rfl⟩ := (ha.2 0 _ x rfl hx).ptr_inv
      rw [hρn] at k1
      obtain ⟨rfl, rfl, rfl⟩ : g = g' ∧ 0 = f' ∧ none = cp' := by simpa using k1
      exact .ptr rfl (.inl rfl)
    | succ i =>
      have hi' : rest[i]? = some a := by simpa using hi
      have hp := List.all_eq_true.1 hrest a (List.mem_of_getElem? hi')
      rw [(ha.2 (i + 1) a x (by simpa using hi') hx).plain hp]
      exact .lit hp
  refine (hdet ⟨w, fun _ => none, fun k => k < w.heap.size ∧ k ≠ g, fun k h => h.1, [], none⟩ ρs args' w hargs hmem (BelowK.refl _ _)).mono ?_
  rintro e1 w' ⟨v', ρ', rfl, hext, hvv, hbel, hm'⟩
  have hρ1 : ρ' 1 = some (g, 0, none) := hext 1 _ rfl
  obtain ⟨g', h1, _, cs2, e2, h2, h3, h4⟩ := hm'.ok 1 _ hmem'
  rw [hρ1] at h1
  obtain rfl : g = g' := by simpa using h1
  have hset : MemOk ρ0 ρ B (setB s.blk nr (rdBox cn l c p')) w' := by
    refine hm.set hb rfl hρn (okPl.not (.inl rfl)) hbel.size (fun k hk hkg => hbel.block k ⟨hk, hkg⟩) ⟨g, hρn, hBg, cs2, e2, h2, h3, fun j x hx => ?_⟩
    match j, hx with
    | 0, hx =>
      obtain rfl : Value.slice (some ⟨cn, 0, none⟩) l c = x := by simpa [rdBox, Blk.cells, Cs.list] using hx
      obtain ⟨x', k1, k2⟩ := h4 0 _ rfl
      refine ⟨x', k1, ?_⟩
      rcases hcn : ρ cn with _ | q
      · exfalso
        rcases hview with ⟨q, k1, _⟩ | ⟨_, _, _, k1, _⟩ <;> rw [hcn] at k1 <;> cases k1
      · have : ρ' 0 = some q := hext 0 q hcn
        exact vr_ren (a := 0) (by rw [hcn, this]) k2
    | 1, hx =>
      obtain rfl : Value.int .i64 p' = x := by simpa [rdBox, Blk.cells, Cs.list] using hx
      obtain ⟨x', k1, k2⟩ := h4 1 _ rfl
      rw [k2.plain rfl] at k1
      exact ⟨_, k1, .lit rfl⟩
    | j + 2, hx => simp [rdBox, Blk.cells, Cs.list] at hx
  have hn0 : setB s.blk nr (rdBox cn l c p') name = none := by simp [setB, Ne.symm hnn, hname]
  have hW : ∀ k d q, setB s.blk nr (rdBox cn l c p') k = some d → d.live = true → ρ k = some q → ¬ nilPl q → q.1 < w.heap.size := fun k d q hk hl hq hnq => by
    by_cases hkn : k = nr
    · subst hkn
      rw [hρn] at hq
      obtain rfl : (g, 0, none) = q := by simpa using hq
      exact hglt
    · exact ((hm.ok k d (by simpa [setB, hkn] using hk)).real hl hq hnq).1
  have hBel : BelowK B w w' := ⟨hbel.os, hbel.tape, hbel.output, hbel.size, fun k hk => hbel.block k ⟨hB k hk, fun e => hBg (e ▸ hk)⟩⟩
  obtain ⟨kd, cs⟩ := b
  cases kd with
  | row ee sz =>
    cases src with
    | none =>
      refine ⟨v', addPl ρ name (0, 1, some 0), rfl, addPl_ext (hm.fresh name hname), rv_ok (ρ := ρ') (src := none) (addPl_same _ _ _) hrv hvv, hBel, ?_⟩
      exact hset.addRow hW hn0 (.inl ⟨rfl, 0, rfl⟩) (.inl ⟨_, addPl_same _ _ _, rfl, rfl⟩)
    | some k =>
      simp only at hsrc
      split at hsrc
      rotate_left
      · exact hsrc.elim
      rename_i b' hb'
      obtain ⟨kd', cs'⟩ := b'
      cases kd' with
      | row e2 sz2 =>
        obtain ⟨rfl, rfl, hc⟩ := hsrc
        obtain ⟨c1, c2⟩ := rc_list hc
        have hk1 : (1 : Nat) ≠ k := fun e => by
          subst e
          rw [hmem'] at hb'
          simp [rdBox] at hb'
        rcases hm'.ok k _ hb' with ⟨q, k1, k2, k3⟩ | ⟨g2, cap, k1, k2, arr, k3, k4, k5⟩
        · refine ⟨v', addPl ρ name q, rfl, addPl_ext (hm.fresh name hname), rv_ok (ρ := ρ') (src := some k) ((addPl_same _ _ _).trans k1.symm) hrv hvv, hBel, ?_⟩
          exact hset.addRow hW hn0 (.inl ⟨k2, 0, k3⟩) (.inl ⟨_, addPl_same _ _ _, k2, k3⟩)
        · have hgg : g ≠ g2 := hm'.sep 1 k _ _ _ _ hmem' rfl hb' rfl hk1 hρ1 k1 (okPl.not (.inl rfl)) (okPl.not (.inl rfl))
          have hge : w.heap.size ≤ g2 := by
            rcases Nat.lt_or_ge g2 w.heap.size with h | h
            · exact absurd ⟨h, fun e => hgg e.symm⟩ k2
            · exact h
          refine ⟨v', addPl ρ name (g2, 0, some cap), rfl, addPl_ext (hm.fresh name hname), rv_ok (ρ := ρ') (src := some k) ((addPl_same _ _ _).trans k1.symm) hrv hvv, hBel, ?_⟩
          refine hset.addRow hW hn0 (.inr hge) (.inr ⟨g2, cap, addPl_same _ _ _, fun hBg2 => ?_, arr, k3, k4, fun i x hx => ?_⟩)
          · have := hB g2 hBg2
            omega
          · obtain ⟨x', j1, j2⟩ := k5 i x (by show cs'.list[i]? = some x; rw [c1]; exact hx)
            refine ⟨x', j1, ?_⟩
            have hat := plain_of_atom (c2 x (List.mem_of_getElem? hx))
            rw [j2.plain hat]
            exact .lit hat
      | _ => exact hsrc.elim
  | _ => cases hb0

/-- What a function makes of a reader when it answers with a row: bytes, how many, the place, further arguments; its answer, the row, the new place, conditions. -/
abbrev RSpecR := List Int → Nat → Int → List Value → Option (Value × Blk × Int × List Prop)
def rdGR (sp : RSpecR) (name : Nat) (args : List Value) : Rd Eff :=
  match args with
  | .pointer (some ⟨nr, 0, none⟩) :: rest => .blk nr fun b => match b with
    | some ⟨.box, .vals [.slice (some ⟨cn, 0, none⟩) l c, .int .i64 p]⟩ => .blk cn fun cb => match cb with
      | some ⟨.view, .bytes bs⟩ => (match rest.all plainV with
        | true => (match sp bs l p rest with
          | some (v, rb, p', C) => .ret ⟨atName name v, [(name, rb), (nr, rdBox cn l c p')], C⟩
          | none => .fail)
        | false => .fail)
      | _ => .fail
    | _ => .fail
  | _ => .fail
def SpecROk (P : Program) (f : FuncId) (sp : RSpecR) : Prop := ∀ bs l c p rest v b p' C, sp bs l p rest = some (v, b, p', C) → AllP C → isRow b = true ∧ ∃ (E : Env) (m n : Nat), EnvOk P E ∧
  (bodyM P E (runM P E m n) m f (.pointer (some ⟨1, 0, none⟩) :: rest) (memR bs l c p none) .fin).ok (fun _ _ => False) (fun u mem' => mem'.getD 1 none = some (rdBox 0 l c p') ∧ RowIs v b u mem')
/-- One function more, that makes a row, is run as an operation on names. -/
def consR (f : FuncId) (g : Nat → List Value → Rd Eff) (J : TabJ) : TabJ := ⟨fun h => Nat.beq f h || J.on h, fun h name args => match Nat.beq f h with
  | true => g name args
  | false => J.g h name args, fun h => Nat.beq f h || J.row h⟩
theorem consR_ok {P : Program} (hmx : P.follows .mixedOrders = true) {J : TabJ} (hJ : GSound P J.g) {f : FuncId} {sp : RSpecR} (hent : enters P f) (hsp : SpecROk P f sp) : GSound P (consR f (rdGR sp) J).g := by
  intro h name args s eff hr hn
  simp only [consR] at hr
  split at hr
  rotate_left
  · exact hJ h name args s eff hr hn
  rename_i heq
  obtain rfl := Nat.eq_of_beq_eq_true heq
  refine ⟨hent, fun B ρ0 ρ w args' ha hm hB hcond => ?_⟩
  unfold rdGR at hr
  split at hr
  rotate_left
  · simp [Rd.run] at hr
  rename_i nr rest
  simp only [Rd.run] at hr
  split at hr
  rotate_left
  · simp [Rd.run] at hr
  rename_i cn l c p hb
  simp only [Rd.run] at hr
  split at hr
  rotate_left
  · simp [Rd.run] at hr
  rename_i bs hcb
  split at hr
  rotate_left
  · simp [Rd.run] at hr
  rename_i hall
  split at hr
  rotate_left
  · simp [Rd.run] at hr
  rename_i v rb p' C hs
  obtain rfl : (⟨atName name v, [(name, rb), (nr, rdBox cn l c p')], C⟩ : Eff) = eff := by simpa [Rd.run] using hr
  obtain ⟨hrow, E, m, n, hE, ht⟩ := hsp _ _ c _ _ _ _ _ _ hs hcond
  rw [upd_two]
  exact (lift_callsR hE hmx hrow hall ht hb hcb hn).2 B ρ0 ρ w args' ha hm hB
end Go.Proofs.Ytoijfjifaljpaab
