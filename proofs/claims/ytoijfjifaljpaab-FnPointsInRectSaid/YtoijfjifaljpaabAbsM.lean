/-
  The small machine: a table of functions that take a reader, told as operations. Written by an AI agent.
-/
import Derived.Test.YtoijfjifaljpaabAbsL
namespace Go.Proofs.Ytoijfjifaljpaab
open Go.RowKit

/-- What a function makes of a reader: bytes, how many, the place; further arguments, a row of ints; its answer, the new place, conditions. -/
abbrev RSpec := List Int → Nat → Int → List Value → Option (List Int) → Option (Value × Int × List Prop)
def intsC : Cs → Option (List Int)
  | .ints xs => some xs
  | .vals l => intsOf l
  | .bytes _ => none
theorem intsC_spec {c : Cs} {xs : List Int} (h : intsC c = some xs) : c.list = xs.map (Value.int .i64) := by
  cases c with
  | vals l => exact intsOf_spec h
  | ints ys =>
    obtain rfl : ys = xs := by simpa [intsC] using h
    rfl
  | bytes b => simp [intsC] at h
def effR (nr cn l c : Nat) : Option (Value × Int × List Prop) → Rd Eff
  | some (v, p', C) => .ret ⟨v, [(nr, rdBox cn l c p')], C⟩
  | none => .fail
def rdG (sp : RSpec) (args : List Value) : Rd Eff :=
  match args with
  | .pointer (some ⟨nr, 0, none⟩) :: rest => .blk nr fun b => match b with
    | some ⟨.box, .vals [.slice (some ⟨cn, 0, none⟩) l c, .int .i64 p]⟩ => .blk cn fun cb => match cb with
      | some ⟨.view, .bytes bs⟩ => (match rest.all plainV with
        | true => effR nr cn l c (sp bs l p rest none)
        | false => (match rest with
          | [.slice (some ⟨nl, 0, none⟩) l2 _] => .blk nl fun bl => match bl with
            | some bl => (match bl.live, Nat.beq nl nr, intsC bl.cs with
              | true, false, some xs => effR nr cn l c (sp bs l p [.slice (some ⟨2, 0, none⟩) l2 l2] (some xs))
              | _, _, _ => .fail)
            | none => .fail
          | _ => .fail))
      | _ => .fail
    | _ => .fail
  | _ => .fail
/-- The told answer is what the function's tree says. -/
def SpecOk (P : Program) (f : FuncId) (sp : RSpec) : Prop := ∀ bs l c p rest0 ex v p' C, sp bs l p rest0 ex = some (v, p', C) → AllP C → ∃ (E : Env) (m n : Nat), EnvOk P E ∧ plainV v = true ∧
  (bodyM P E (runM P E m n) m f (.pointer (some ⟨1, 0, none⟩) :: rest0) (memR bs l c p ex) .fin).ok (fun _ _ => False) (fun u mem' => u = v ∧ mem'.getD 1 none = some (rdBox 0 l c p'))
theorem RestRel.same {nl : Nat} : ∀ {r : List Value}, r.all plainV = true → RestRel nl r r
  | [], _ => trivial
  | a :: r, h => by
    simp only [List.all_cons, Bool.and_eq_true] at h
    exact ⟨.inl ⟨rfl, h.1⟩, RestRel.same h.2⟩
theorem rdG_ok {P : Program} (hmx : P.follows .mixedOrders = true) {f : FuncId} {sp : RSpec} (hsp : SpecOk P f sp) (hent : enters P f) (name : Nat) (args : List Value) (s : FS) (eff : Eff) (hr : (rdG sp args).run s = some eff) (_ : s.blk name = none) : enters P f ∧
  ∀ (B : Nat → Prop) (ρ0 ρ : Nat → Option Pl) (w : World) (args' : Array Value), VRs ρ args args' → MemOk ρ0 ρ B s.blk w → (∀ k, B k → k < w.heap.size) → eff.cond →
    Calls P f args' w fun e w' => ∃ v' ρ', e = .returned v' ∧ Ext ρ ρ' ∧ VR ρ' eff.val v' ∧ BelowK B w w' ∧ MemOk ρ0 ρ' B (s.upd none eff).blk w' := by
  refine ⟨hent, fun B ρ0 ρ w args' ha hm hB hcond => ?_⟩
  unfold rdG at hr
  split at hr
  rotate_left
  · simp [Rd.run] at hr
  rename_i nr rest
  simp only [Rd.run] at hr
  split at hr
  rotate_left
  · simp [Rd.run] at hr
  rename_i cn l c p hb
  simp only [Rd.run] at hr
  split at hr
  rotate_left
  · simp [Rd.run] at hr
  rename_i bs hcb
  have inv : ∀ {o : Option (Value × Int × List Prop)}, (effR nr cn l c o).run s = some eff → ∃ v p' C, o = some (v, p', C) ∧ eff = ⟨v, [(nr, rdBox cn l c p')], C⟩ := by
    intro o ho
    rcases o with _ | ⟨v, p', C⟩
    · simp [effR, Rd.run] at ho
    · exact ⟨v, p', C, rfl, by simpa [effR, Rd.run] using ho.symm⟩
  split at hr
  · rename_i hall
    obtain ⟨v, p', C, hs, rfl⟩ := inv hr
    obtain ⟨E, m, n, hE, hv, ht⟩ := hsp _ _ c _ _ _ _ _ _ hs hcond
    rw [upd_one]
    exact (lift_calls hE hmx hv ht hb hcb (nl := nr) (fun xs h => by cases h) (RestRel.same hall) (fun _ => hall)).2 B ρ0 ρ w args' ha hm hB
  · split at hr
    rotate_left
    · simp [Rd.run] at hr
    rename_i nl l2 c2 _
    simp only [Rd.run] at hr
    split at hr
    rotate_left
    · simp [Rd.run] at hr
    rename_i bl hbl
    split at hr
    rotate_left
    · simp [Rd.run] at hr
    rename_i xs hlive hne hxs
    obtain ⟨v, p', C, hs, rfl⟩ := inv hr
    obtain ⟨E, m, n, hE, hv, ht⟩ := hsp _ _ c _ _ _ _ _ _ hs hcond
    rw [upd_one]
    refine (lift_calls hE hmx hv ht hb hcb (nl := nl) (rest := [.slice (some ⟨nl, 0, none⟩) l2 c2]) (fun ys h => ?_) ⟨.inr ⟨l2, l2, c2, rfl, rfl⟩, trivial⟩ (fun h => by cases h)).2 B ρ0 ρ w args' ha hm hB
    obtain rfl : xs = ys := by simpa using h
    exact ⟨fun e => by subst e; simp at hne, bl, hbl, hlive, intsC_spec hxs⟩
def lookJ : List (FuncId × RSpec) → FuncId → Option RSpec
  | [], _ => none
  | (g, sp) :: r, f => match Nat.beq g f with
    | true => some sp
    | false => lookJ r f
def tabJ (l : List (FuncId × RSpec)) : TabJ := ⟨fun f => (lookJ l f).isSome, fun f _ args => match lookJ l f with
  | some sp => rdG sp args
  | none => .fail, fun _ => false⟩
def JOk (P : Program) (l : List (FuncId × RSpec)) : Prop := ∀ f sp, lookJ l f = some sp → enters P f ∧ SpecOk P f sp
theorem JOk.nil {P : Program} : JOk P [] := fun f sp h => by cases h
theorem JOk.cons {P : Program} {l : List (FuncId × RSpec)} (h : JOk P l) {f : FuncId} {sp : RSpec} (he : enters P f) (hs : SpecOk P f sp) : JOk P ((f, sp) :: l) := fun g sp' hg => by
  simp only [lookJ] at hg
  split at hg
  · rename_i e
    obtain rfl := Nat.eq_of_beq_eq_true e
    obtain rfl : sp = sp' := by simpa using hg
    exact ⟨he, hs⟩
  · exact h g sp' hg
theorem tabJ_sound {P : Program} (hmx : P.follows .mixedOrders = true) {l : List (FuncId × RSpec)} (h : JOk P l) : GSound P (tabJ l).g := by
  intro f name args s eff hr hn
  simp only [tabJ] at hr
  split at hr
  rotate_left
  · simp [Rd.run] at hr
  rename_i sp hl
  obtain ⟨h1, h2⟩ := h f sp hl
  exact rdG_ok hmx h2 h1 name args s eff hr hn
def withJ (E : Env) (l : List (FuncId × RSpec)) : Env := ⟨E.B, E.R, E.L, tabJ l, E.G⟩
theorem withJ_ok {P : Program} (hmx : P.follows .mixedOrders = true) {E : Env} (hE : EnvOk P E) {l : List (FuncId × RSpec)} (h : JOk P l) : EnvOk P (withJ E l) := ⟨hE.B, hE.R, hE.L, tabJ_sound hmx h, hE.G⟩
end Go.Proofs.Ytoijfjifaljpaab
