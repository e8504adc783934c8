/-
  The laws of a line through two drawn points. Written by an AI agent.
-/
import Derived.Test.YtblpldapmmoheabThru
namespace Go.Proofs.Ytblpldapmmoheab
open Go.RowKit
def TT2 : Tab := fun f ds => match f with
  | _ => TT f ds
theorem TT2_ok : TabOk Try.prog TT2 := by
  intro f ds v C h hC
  unfold TT2 at h
  (try split at h)
  all_goals first | with_reducible exact TT2_r0 h hC | exact TT_ok _ _ _ _ h hC | cases h
theorem thO_comm (a b c d : Int) : thO c d a b = thO a b c d := by
  rw [thO_is, thO_is]
  have : eqB c d a b = eqB a b c d := by
    unfold eqB
    rw [Bool.eq_iff_iff]
    simp
    grind
  rw [this, Bool.and_comm (ptB c d)]
/-- Both ends are on the line. -/
theorem th_on {a b c d : Int} (h : thO a b c d = true) : thP a b c d 0 * c + thP a b c d 1 * d = thP a b c d 2 := by
  obtain ⟨g, s, hg, hs, k1, k2, k3, _, _, _⟩ := th_spec h
  generalize thP a b c d 0 = A at *
  generalize thP a b c d 1 = B at *
  generalize thP a b c d 2 = C at *
  have e : (A * (c - a) + B * (d - b)) * g = 0 := by grind
  have := (Int.mul_eq_zero.1 e).resolve_right (by omega)
  grind
theorem th_same {a b c d : Int} (h : thO a b c d = true) : thP c d a b 0 = thP a b c d 0 ∧ thP c d a b 1 = thP a b c d 1 ∧ thP c d a b 2 = thP a b c d 2 := by
  have h' : thO c d a b = true := by rw [thO_comm]; exact h
  have o1 := th_on h
  obtain ⟨_, _, _, _, _, _, q3, _, _, _⟩ := th_spec h'
  rw [thO_is] at h h'
  have key : thP c d a b 0 = thP a b c d 0 ∧ thP c d a b 1 = thP a b c d 1 := by
    obtain ⟨h1, h2, h3⟩ := and3 h
    have h3 : eqB a b c d = false := by simpa using h3
    obtain ⟨_, _, _, _, b5⟩ := thru_bd h1 h2 h3
    by_cases hn : thNeg a b c d
    · have hn' : ¬ thNeg c d a b := by unfold thNeg at hn ⊢; omega
      have v1 : thV a b c d = .tuple #[lnV (0 - (d - b)) (0 - (a - c)) a b, .bool true] := by unfold thV; rw [if_pos h, if_pos hn]
      have v2 : thV c d a b = .tuple #[lnV (b - d) (c - a) c d, .bool true] := by unfold thV; rw [if_pos h', if_neg hn']
      have e1 : b - d = 0 - (d - b) := by omega
      have e2 : c - a = 0 - (a - c) := by omega
      unfold thP
      rw [v1, v2, e1, e2]
      exact ⟨rfl, rfl⟩
    · have hn' : thNeg c d a b := by unfold thNeg at hn ⊢; omega
      have v1 : thV a b c d = .tuple #[lnV (d - b) (a - c) a b, .bool true] := by unfold thV; rw [if_pos h, if_neg hn]
      have v2 : thV c d a b = .tuple #[lnV (0 - (b - d)) (0 - (c - a)) c d, .bool true] := by unfold thV; rw [if_pos h', if_pos hn']
      have e1 : 0 - (b - d) = d - b := by omega
      have e2 : 0 - (c - a) = a - c := by omega
      unfold thP
      rw [v1, v2, e1, e2]
      exact ⟨rfl, rfl⟩
  refine ⟨key.1, key.2, ?_⟩
  rw [q3, key.1, key.2, ← o1]
theorem side_of {a b c x y : Int} (hl : lineB a b c = true) (hp : ptB x y = true) (h : a * x + b * y = c) : sideR a b c x y = 0 := by
  rw [sideR_yes (by rw [hl, hp]; rfl)]
  exact sgn_zero (by omega)
end Go.Proofs.Ytblpldapmmoheab
