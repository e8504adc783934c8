/-
  Rows of literal ints taken as rows of ints. Written by an AI agent.
-/
import Derived.Test.YtieibbdfdepmbaaBc
namespace Go.Proofs.Ytieibbdfdepmbaa
set_option linter.all false
open Go.RowKit

theorem atoms_ints {cs : Cs} {xs : List Int} (h : cs.list = xs.map (Value.int .i64)) : allAtoms cs = true := by
  have key : ∀ v ∈ cs.list, atomV v = true := fun v hv => by
    rw [h] at hv
    obtain ⟨x, _, rfl⟩ := List.mem_map.1 hv
    rfl
  cases cs with
  | vals l => exact List.all_eq_true.2 key
  | ints _ => rfl
  | bytes _ => rfl
theorem DOk.ints {w : World} {l : Nat} {cs : Cs} {xs : List Int} (h : cs.list = xs.map (Value.int .i64)) {y : Value} (k : DOk w (.row l cs) y) : DOk w (.row l (.ints xs)) y := by
  obtain ⟨_, ad, c', h2, h3, h4⟩ := k
  refine ⟨rfl, ad, c', h2, h3, h4.imp id ?_⟩
  rintro ⟨g, f, h5, h6, h7⟩
  exact ⟨g, f, h5, h6, fun j v hv => h7 j v (by rw [h]; exact hv)⟩
/-- What is known for a row of ints is known for the same cells written otherwise. -/
theorem DOks.ints {w : World} : ∀ {ds ds' : List DArg} {args : Array Value}, DOks w ds args → ds.length = ds'.length → (∀ (i : Nat) d d', ds[i]? = some d → ds'[i]? = some d' → d = d' ∨ ∃ l cs xs, d = .row l cs ∧ d' = .row l (.ints xs) ∧ cs.list = xs.map (Value.int .i64)) → DOks w ds' args := by
  intro ds ds' args h hl hi
  refine ⟨by rw [← hl]; exact h.1, fun i d' y hd' hy => ?_⟩
  have hlt : i < ds.length := by rw [hl]; exact (List.getElem?_eq_some_iff.1 hd').1
  have hd : ds[i]? = some ds[i] := by simp [hlt]
  have h0 := h.2 i ds[i] y hd hy
  rcases hi i ds[i] d' hd hd' with e | ⟨l, cs, xs, e1, e2, e3⟩
  · rw [← e]; exact h0
  · rw [e1] at h0
    rw [e2]
    exact h0.ints e3
theorem row2_ints {w : World} {a : DArg} {l : Nat} {cs : Cs} {xs : List Int} {args : Array Value} (h : cs.list = xs.map (Value.int .i64)) (k : DOks w [a, .row l cs] args) : DOks w [a, .row l (.ints xs)] args :=
  k.ints rfl fun i d d' hd hd' => by
    match i with
    | 0 =>
      obtain rfl : a = d := by simpa using hd
      obtain rfl : a = d' := by simpa using hd'
      exact .inl rfl
    | 1 =>
      obtain rfl : DArg.row l cs = d := by simpa using hd
      obtain rfl : DArg.row l (.ints xs) = d' := by simpa using hd'
      exact .inr ⟨l, cs, xs, rfl, rfl, h⟩
    | i + 2 => simp at hd
theorem resR_row2 {P : Program} {f : FuncId} {a : DArg} {l : Nat} {cs : Cs} {xs : List Int} {v : Value} {b : Blk} (h : cs.list = xs.map (Value.int .i64)) (k : ResR P f [a, .row l (.ints xs)] v b) : ResR P f [a, .row l cs] v b :=
  ⟨k.1, k.2.1, k.2.2.1, fun d hd => by
    rcases List.mem_cons.1 hd with rfl | hd
    · exact k.2.2.2.1 _ (List.mem_cons_self ..)
    · obtain rfl : d = .row l cs := by simpa using hd
      exact atoms_ints h, fun w args ha => k.2.2.2.2 w args (row2_ints h ha)⟩
end Go.Proofs.Ytieibbdfdepmbaa
