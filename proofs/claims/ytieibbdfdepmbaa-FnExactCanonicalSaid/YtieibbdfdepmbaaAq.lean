/-
  All of a range. Written by an AI agent.
-/
import Derived.Test.YtieibbdfdepmbaaMrkF
import Derived.Test.YtieibbdfdepmbaaFnB
namespace Go.Proofs.Ytieibbdfdepmbaa
set_option linter.all false
open Go.RowKit

/-- Of so many from i on, all. -/
def allQ (P : Nat → Bool) : Nat → Nat → Bool
  | _, 0 => true
  | i, m + 1 => P i && allQ P (i + 1) m
theorem allQ_step {P : Nat → Bool} {i n : Nat} (h : i < n) : allQ P i (n - i) = (P i && allQ P (i + 1) (n - (i + 1))) := by
  rw [show n - i = (n - (i + 1)) + 1 by omega]
  rfl
theorem allQ_end {P : Nat → Bool} {i n : Nat} (h : n ≤ i) : allQ P i (n - i) = true := by
  rw [show n - i = 0 by omega]
  rfl
theorem allQ_get {P : Nat → Bool} : ∀ (m i : Nat), allQ P i m = true → ∀ j, i ≤ j → j < i + m → P j = true
  | 0, i, _, j, h1, h2 => by omega
  | m + 1, i, h, j, h1, h2 => by
    simp only [allQ, Bool.and_eq_true] at h
    rcases Nat.lt_or_ge i j with h3 | h3
    · exact allQ_get m (i + 1) h.2 j (by omega) (by omega)
    · obtain rfl : j = i := by omega
      exact h.1
theorem set_step {xs ys ns : List Int} {o k : Nat} (hl : ns.length = k) (hx : xs.drop o = ns ++ xs.drop (o + k)) (hy : o + k ≤ ys.length) (h0 : o ≤ xs.length) (h : ys.take o = xs.take o) : (setInts ys o ns).take (o + k) = xs.take (o + k) ∧ (setInts ys o ns).length = ys.length := by
  unfold setInts
  rw [hl, h]
  have l1 : (xs.take o).length = o := by simp; omega
  constructor
  · have e : xs.take (o + k) = xs.take o ++ ns := by
      have : xs = xs.take o ++ (ns ++ xs.drop (o + k)) := by rw [← hx, List.take_append_drop]
      rw [List.take_add, hx]
      congr 1
      exact List.take_left' hl
    rw [e]
    exact List.take_left' (by rw [List.length_append, l1, hl])
  · simp
    omega
end Go.Proofs.Ytieibbdfdepmbaa
