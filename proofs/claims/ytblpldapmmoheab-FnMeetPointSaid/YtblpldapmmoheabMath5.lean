/-
  Plain arithmetic: the common point of two lines is on both. Nothing of Go in sight. Written by an AI agent.
-/
import Derived.Test.YtblpldapmmoheabMath4
namespace Go.Proofs.Ytblpldapmmoheab
set_option linter.all false
theorem meet_side {a b c d e f n p m q u v g D : Int} (hD : a * e - b * d = D) (h0 : D ≠ 0) (hg : 0 < g) (hu : u * g = p) (hv : v * g = q) (h1 : n * D = (c * e - b * f) * p) (h2 : m * D = (a * f - c * d) * q) :
    a * (n * v) + b * (m * u) - c * u * q = 0 := by
  have key : (a * (n * v) + b * (m * u) - c * u * q) * (g * D) = 0 := by
    calc (a * (n * v) + b * (m * u) - c * u * q) * (g * D) = a * (n * D) * (v * g) + b * (m * D) * (u * g) - c * (u * g) * q * D := by grind
      _ = a * ((c * e - b * f) * p) * q + b * ((a * f - c * d) * q) * p - c * p * q * (a * e - b * d) := by rw [h1, h2, hu, hv, hD]
      _ = 0 := by grind
  rcases Int.mul_eq_zero.1 key with h | h
  · exact h
  · rcases Int.mul_eq_zero.1 h with h | h
    · omega
    · exact absurd h h0
end Go.Proofs.Ytblpldapmmoheab
