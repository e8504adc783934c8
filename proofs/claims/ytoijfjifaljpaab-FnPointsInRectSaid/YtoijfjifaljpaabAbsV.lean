/-
  The small machine: a body's answer alone. Written by an AI agent.
-/
import Derived.Test.YtoijfjifaljpaabAbsI
namespace Go.Proofs.Ytoijfjifaljpaab
open Go.RowKit
/-- A function's body on its arguments, what it hands back alone. -/
def bodyV (P : Program) (E : Env) (m n : Nat) (f : FuncId) (ds : List DArg) : Tree :=
  match ds.all DArg.goodB with
  | true => bodyM P E (runM P E m n) m f (argVals 0 ds) (ds.map argBlk) fun v _ => .fin v []
  | false => .bad
theorem bodyV_res {P : Program} (hm : P.follows .mixedOrders = true) {E : Env} (hE : EnvOk P E) {m n : Nat} {f : FuncId} {ds : List DArg} {v : Value} (hv : plainV v = true)
    (h : (bodyV P E m n f ds).ok (fun _ _ => False) (fun u _ => u = v)) : Res P f ds v := by
  unfold bodyV at h
  split at h
  rotate_left
  · exact h.elim
  rename_i hg
  obtain ⟨u, mem', hk, hent, hdet⟩ := bodyM_ok hE hm (runM_ok hm hE m n) m f _ _ _ _ _ h
  obtain rfl : u = v := hk
  have hin : P.inits.idxOf? f = none := by
    unfold bodyM at h
    split at h
    rotate_left
    · exact h.elim
    rename_i fn hf hen
    exact (entersB_spec hf hen).2.1
  refine ⟨hent, hin, hv, fun d hd => goodB_good (List.all_eq_true.1 hg d hd), fun w args hargs => ?_⟩
  obtain ⟨ρ, ha, hmem⟩ := args_open hargs (fun k => k < w.heap.size)
  refine (hdet ⟨w, fun _ => none, fun k => k < w.heap.size, fun _ h => h, [], none⟩ ρ args w ha hmem (BelowK.refl _ _)).mono ?_
  rintro e w' ⟨v', ρ', rfl, _, g2, g3, _⟩
  rw [g2.plain hv]
  exact ⟨rfl, g3.to⟩
end Go.Proofs.Ytoijfjifaljpaab
