/-
  The small machine: functions that take a reader (a box with a slice of bytes and a place) are told as operations of any memory, out of their trees on the smallest one. Written by an AI agent.
-/
import Derived.Test.YtoijfjifaljpaabAbsI
namespace Go.Proofs.Ytoijfjifaljpaab
open Go.RowKit

/-- Bytes. -/
def Bytes (bs : List Int) : Prop := ∀ b ∈ bs, 0 ≤ b ∧ b ≤ 255
/-- The reader's box. -/
def rdBox (cn l c : Nat) (p : Int) : Blk := ⟨.box, .vals [.slice (some ⟨cn, 0, none⟩) l c, .int .i64 p]⟩
/-- A row of ints beside it. -/
def third : Option (List Int) → List (Option Blk)
  | none => []
  | some xs => [some ⟨.view, .ints xs⟩]
def memR (bs : List Int) (l c : Nat) (p : Int) (ex : Option (List Int)) : List (Option Blk) := some ⟨.view, .bytes bs⟩ :: some (rdBox 0 l c p) :: third ex
/-- Arguments beside the reader: plain ones, or a slice of the row. -/
def RestRel (nl : Nat) : List Value → List Value → Prop
  | [], [] => True
  | a :: r, b :: r' => ((a = b ∧ plainV a = true) ∨ ∃ l c c', a = .slice (some ⟨2, 0, none⟩) l c ∧ b = .slice (some ⟨nl, 0, none⟩) l c') ∧ RestRel nl r r'
  | _, _ => False
theorem RestRel.get {nl : Nat} : ∀ {r r' : List Value}, RestRel nl r r' → r.length = r'.length ∧ ∀ (i : Nat) a b, r[i]? = some a → r'[i]? = some b → (a = b ∧ plainV a = true) ∨ ∃ l c c', a = .slice (some ⟨2, 0, none⟩) l c ∧ b = .slice (some ⟨nl, 0, none⟩) l c'
  | [], [], _ => ⟨rfl, fun i a b h => by simp at h⟩
  | [], _ :: _, h => h.elim
  | _ :: _, [], h => h.elim
  | x :: r, y :: r', h => by
    obtain ⟨h1, h2⟩ := h
    obtain ⟨g1, g2⟩ := h2.get
    refine ⟨by simp [g1], fun i a b ha hb => ?_⟩
    cases i with
    | zero =>
      obtain rfl : x = a := by simpa using ha
      obtain rfl : y = b := by simpa using hb
      exact h1
    | succ i => exact g2 i a b (by simpa using ha) (by simpa using hb)
theorem vr_ren {ρ ρ' : Nat → Option Pl} {a b l c c0 : Nat} {x : Value} (h : ρ' b = ρ a) (k : VR ρ (.slice (some ⟨a, 0, none⟩) l c) x) : VR ρ' (.slice (some ⟨b, 0, none⟩) l c0) x := by
  rcases k.slice_inv with ⟨g, f', cp, c2, h2, hq, rfl, h4, h5⟩ | ⟨rfl, h2, ad, c2, rfl⟩ | ⟨rfl, ad, c2, p, rfl, h2, h3, h4⟩
  · exact .slice (h.trans h2) hq h4 h5
  · omega
  · exact .nil_ (h.trans h2) h3 rfl h4

theorem lift_calls {P : Program} {E : Env} (hE : EnvOk P E) (hmx : P.follows .mixedOrders = true) {m n : Nat} {f : FuncId} {bs : List Int} {l c : Nat} {p p' : Int} {v : Value} (hv : plainV v = true) {rest0 : List Value} {ex : Option (List Int)}
    (h : (bodyM P E (runM P E m n) m f (.pointer (some ⟨1, 0, none⟩) :: rest0) (memR bs l c p ex) .fin).ok (fun _ _ => False) (fun u mem' => u = v ∧ mem'.getD 1 none = some (rdBox 0 l c p')))
    {s : FS} {nr cn nl : Nat} (hb : s.blk nr = some (rdBox cn l c p)) (hcb : s.blk cn = some ⟨.view, .bytes bs⟩) (hex : ∀ xs, ex = some xs → nl ≠ nr ∧ ∃ b, s.blk nl = some b ∧ b.live = true ∧ b.cells = xs.map (Value.int .i64))
    {rest : List Value} (hrest : RestRel nl rest0 rest) (hex2 : ex = none → rest0.all plainV = true) : enters P f ∧ ∀ (B : Nat → Prop) (ρ0 ρ : Nat → Option Pl) (w : World) (args' : Array Value), VRs ρ (.pointer (some ⟨nr, 0, none⟩) :: rest) args' → MemOk ρ0 ρ B s.blk w → (∀ k, B k → k < w.heap.size) →
    Calls P f args' w fun e w' => ∃ v' ρ', e = .returned v' ∧ Ext ρ ρ' ∧ VR ρ' v v' ∧ BelowK B w w' ∧ MemOk ρ0 ρ' B (setB s.blk nr (rdBox cn l c p')) w' := by
  obtain ⟨u, mem', ⟨rfl, hmem'⟩, hent, hdet⟩ := bodyM_ok hE hmx (runM_ok hmx hE m n) m f _ _ _ _ _ h
  refine ⟨hent, fun B ρ0 ρ w args' ha hm hB => ?_⟩
  obtain ⟨g, hρn, hBg, cs', e, hheap, hsz, hcs⟩ := hm.ok nr _ hb
  have hview : (∃ p, ρ cn = some p ∧ nilPl p) ∨ ∃ g f cp, ρ cn = some (g, f, cp) ∧ okPl f cp ∧ g < w.heap.size ∧ ∀ (k : Nat) v, (Blk.cells ⟨.view, .bytes bs⟩)[k]? = some v → ∃ v', w.cell? ⟨g, f + k, none⟩ = some v' ∧ VR ρ v v' := hm.ok cn _ hcb
  have hne : nr ≠ cn := fun e => by rw [e, hcb] at hb; simp [rdBox] at hb
  let ρs : Nat → Option Pl := fun k => match k with
    | 0 => ρ cn
    | 1 => some (g, 0, none)
    | 2 => (match ex with
      | some _ => ρ nl
      | none => none)
    | _ => none
  have hglt : g < w.heap.size := heap_lt hheap
  have slot0 : ∀ x, cs'[0]? = some x → VR ρs (.slice (some ⟨0, 0, none⟩) l c) x := by
    intro x hx
    obtain ⟨x', h1, h2⟩ := hcs 0 _ rfl
    rw [hx] at h1
    obtain rfl : x = x' := by simpa using h1
    exact vr_ren (a := cn) rfl h2
  have slot1 : ∀ x, cs'[1]? = some x → x = .int .i64 p := by
    intro x hx
    obtain ⟨x', h1, h2⟩ := hcs 1 _ rfl
    rw [hx] at h1
    obtain rfl : x = x' := by simpa using h1
    exact h2.plain rfl
  have hsz2 : cs'.size = 2 := hsz
  have hmem : MemOk (fun _ => none) ρs (fun k => k < w.heap.size ∧ k ≠ g) (fun k => (memR bs l c p ex).getD k none) w := by
    refine ⟨fun k q hq => by simp at hq, fun k hk => ?_, fun k b hk => ?_, fun k k' b b' q q' hk hown hk' hlive hne' hq hq' hnq hnq' => ?_⟩
    · match k with
      | 0 => simp [memR] at hk
      | 1 => simp [memR] at hk
      | 2 =>
        cases ex with
        | none => rfl
        | some xs => simp [memR, third] at hk
      | k + 3 => rfl
    · match k with
      | 0 =>
        obtain rfl : (⟨.view, .bytes bs⟩ : Blk) = b := by simpa [memR] using hk
        rcases hview with hn | ⟨g2, f2, cp2, k1, k2, k3, k4⟩
        · exact .inl hn
        · refine .inr ⟨g2, f2, cp2, k1, k2, k3, fun j x hx => ?_⟩
          obtain ⟨x', h1, h2⟩ := k4 j x hx
          have hat : plainV x = true := plain_of_atom (allAtoms_spec (c := .bytes bs) rfl x (List.mem_of_getElem? hx))
          rw [h2.plain hat] at h1
          exact ⟨x, h1, .lit hat⟩
      | 1 =>
        obtain rfl : rdBox 0 l c p = b := by simpa [memR] using hk
        refine ⟨g, rfl, fun h => h.2 rfl, cs', e, hheap, hsz, fun j x hx => ?_⟩
        match j, hx with
        | 0, hx =>
          obtain rfl : Value.slice (some ⟨0, 0, none⟩) l c = x := by simpa [rdBox, Blk.cells, Cs.list] using hx
          exact ⟨cs'[0]'(by omega), by simp, slot0 _ (by simp)⟩
        | 1, hx =>
          obtain rfl : Value.int .i64 p = x := by simpa [rdBox, Blk.cells, Cs.list] using hx
          refine ⟨cs'[1]'(by omega), by simp, ?_⟩
          rw [slot1 (cs'[1]'(by omega)) (by simp)]
          exact .lit rfl
        | j + 2, hx => simp [rdBox, Blk.cells, Cs.list] at hx
      | 2 =>
        cases ex with
        | none => simp [memR, third] at hk
        | some xs =>
          obtain rfl : (⟨.view, .ints xs⟩ : Blk) = b := by simpa [memR, third] using hk
          obtain ⟨hnn, b0, h1, h2, h3⟩ := hex xs rfl
          obtain ⟨q, h4, h5⟩ := (hm.ok nl b0 h1).place h2
          by_cases hq : nilPl q
          · exact .inl ⟨q, h4, hq⟩
          · obtain ⟨g2, f2, cp2⟩ := q
            have hok : okPl f2 cp2 := by
              by_cases hf : f2 = 0
              · exact .inl hf
              · right
                rcases hcp : cp2 with _ | cp3
                · rfl
                · exfalso
                  have := hm.ok nl b0 h1
                  obtain ⟨kd, cs0⟩ := b0
                  cases kd with
                  | dead => cases h2
                  | view =>
                    rcases this with ⟨q, k1, k2⟩ | ⟨g', f', cp', k1, hq', k2, k3⟩
                    · rw [h4] at k1
                      obtain rfl : (g2, f2, cp2) = q := by simpa using k1
                      exact hq k2
                    · rw [h4] at k1
                      obtain ⟨rfl, rfl, rfl⟩ : g2 = g' ∧ f2 = f' ∧ cp2 = cp' := by simpa using k1
                      rcases hq' with h | h
                      · exact hf h
                      · rw [h] at hcp; cases hcp
                  | box =>
                    obtain ⟨g', k1, _⟩ := this
                    rw [h4] at k1
                    obtain ⟨rfl, rfl, rfl⟩ : g2 = g' ∧ f2 = 0 ∧ cp2 = none := by simpa using k1
                    exact hf rfl
                  | row e1 sz1 =>
                    rcases this with ⟨q, k1, k2, k3⟩ | ⟨g', cap, k1, _⟩
                    · rw [h4] at k1
                      obtain rfl : (g2, f2, cp2) = q := by simpa using k1
                      exact hq ⟨k2, 0, k3⟩
                    · rw [h4] at k1
                      obtain ⟨rfl, rfl, rfl⟩ : g2 = g' ∧ f2 = 0 ∧ cp2 = some cap := by simpa using k1
                      exact hf rfl
            obtain ⟨k1, k2⟩ := live_cell (hm.ok nl b0 h1) h2 h4 hok
            refine .inr ⟨g2, f2, cp2, h4, hok, k1, fun j x hx => ?_⟩
            have hx' : b0.cells[j]? = some x := by rw [h3]; exact hx
            obtain ⟨x', h6, h7⟩ := k2 j x hx'
            have hat : plainV x = true := plain_of_atom (allAtoms_spec (c := .ints xs) rfl x (List.mem_of_getElem? hx))
            rw [h7.plain hat] at h6
            exact ⟨x, h6, .lit hat⟩
      | k + 3 => cases ex <;> simp [memR, third] at hk
    · have hk1 : k = 1 := by
        match k with
        | 0 =>
          obtain rfl : (⟨.view, .bytes bs⟩ : Blk) = b := by simpa [memR] using hk
          cases hown
        | 1 => rfl
        | 2 =>
          cases ex with
          | none => simp [memR, third] at hk
          | some xs =>
            obtain rfl : (⟨.view, .ints xs⟩ : Blk) = b := by simpa [memR, third] using hk
            cases hown
        | k + 3 => cases ex <;> simp [memR, third] at hk
      subst hk1
      obtain rfl : (g, 0, none) = q := by simpa [ρs] using hq
      match k' with
      | 0 =>
        exact hm.sep nr cn _ _ _ q' hb rfl hcb rfl hne hρn hq' (okPl.not (.inl rfl)) hnq'
      | 1 => exact absurd rfl hne'
      | 2 =>
        cases ex with
        | none => simp [memR, third] at hk'
        | some xs =>
          obtain ⟨hnn, b0, h1, h2, h3⟩ := hex xs rfl
          exact hm.sep nr nl _ _ _ q' hb rfl h1 h2 (Ne.symm hnn) hρn hq' (okPl.not (.inl rfl)) hnq'
      | k' + 3 => cases ex <;> simp [memR, third] at hk'
  have hargs : VRs ρs (.pointer (some ⟨1, 0, none⟩) :: rest0) args' := by
    obtain ⟨hr1, hr2⟩ := hrest.get
    refine ⟨by rw [← ha.1]; simp [hr1], fun i a x hi hx => ?_⟩
    cases i with
    | zero =>
      obtain rfl : Value.pointer (some ⟨1, 0, none⟩) = a := by simpa using hi
      obtain ⟨g', f', cp', k1, k2, rfl⟩ := (ha.2 0 _ x rfl hx).ptr_inv
      rw [hρn] at k1
      obtain ⟨rfl, rfl, rfl⟩ : g = g' ∧ 0 = f' ∧ none = cp' := by simpa using k1
      exact .ptr rfl (.inl rfl)
    | succ i =>
      have hi' : rest0[i]? = some a := by simpa using hi
      have hlt : i < rest.length := by rw [← hr1]; exact (List.getElem?_eq_some_iff.1 hi').1
      have hb' : rest[i]? = some rest[i] := by simp [hlt]
      have hv' := ha.2 (i + 1) rest[i] x (by simp) hx
      rcases hr2 i a _ hi' hb' with ⟨h1, h2⟩ | ⟨l2, c2, c3, h1, h2⟩
      · rw [← h1] at hv'
        rw [hv'.plain h2]
        exact .lit h2
      · rw [h2] at hv'
        subst h1
        cases ex with
        | none =>
          have := List.all_eq_true.1 (hex2 rfl) _ (List.mem_of_getElem? hi')
          simp [plainV, atomV] at this
        | some xs => exact vr_ren (a := nl) rfl hv'
  refine (hdet ⟨w, fun _ => none, fun k => k < w.heap.size ∧ k ≠ g, fun k h => h.1, [], none⟩ ρs args' w hargs hmem (BelowK.refl _ _)).mono ?_
  rintro e1 w' ⟨v', ρ', rfl, hext, hvv, hbel, hm'⟩
  have hρ1 : ρ' 1 = some (g, 0, none) := hext 1 _ rfl
  obtain ⟨g', h1, _, cs2, e2, h2, h3, h4⟩ := hm'.ok 1 _ hmem'
  rw [hρ1] at h1
  obtain rfl : g = g' := by simpa using h1
  refine ⟨v', ρ, rfl, Ext.refl ρ, by rw [hvv.plain hv]; exact .lit hv, ⟨hbel.os, hbel.tape, hbel.output, hbel.size, fun k hk => hbel.block k ⟨hB k hk, fun e => hBg (e ▸ hk)⟩⟩, ?_⟩
  refine hm.set hb rfl hρn (okPl.not (.inl rfl)) hbel.size (fun k hk hkg => hbel.block k ⟨hk, hkg⟩) ⟨g, hρn, hBg, cs2, e2, h2, h3, fun j x hx => ?_⟩
  match j, hx with
  | 0, hx =>
    obtain rfl : Value.slice (some ⟨cn, 0, none⟩) l c = x := by simpa [rdBox, Blk.cells, Cs.list] using hx
    obtain ⟨x', k1, k2⟩ := h4 0 _ rfl
    refine ⟨x', k1, ?_⟩
    rcases hcn : ρ cn with _ | q
    · exfalso
      rcases hview with ⟨q, k1, _⟩ | ⟨_, _, _, k1, _⟩ <;> rw [hcn] at k1 <;> cases k1
    · have : ρ' 0 = some q := hext 0 q hcn
      exact vr_ren (a := 0) (by rw [hcn, this]) k2
  | 1, hx =>
    obtain rfl : Value.int .i64 p' = x := by simpa [rdBox, Blk.cells, Cs.list] using hx
    obtain ⟨x', k1, k2⟩ := h4 1 _ rfl
    rw [k2.plain rfl] at k1
    exact ⟨_, k1, .lit rfl⟩
  | j + 2, hx => simp [rdBox, Blk.cells, Cs.list] at hx
end Go.Proofs.Ytoijfjifaljpaab
