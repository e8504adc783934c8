/-
  The hull of points in order: what it is. Written by an AI agent.
-/
import Derived.Test.YtieibbdfdepmbaaChd
namespace Go.Proofs.Ytieibbdfdepmbaa
set_option linter.all false
open Go.RowKit

/-- The vertices of the hull of points in order. -/
def hulL (s : List Pt) : List Pt := if s.length < 3 then s else (chn [] s).take ((chn [] s).length - 1) ++ (chn [] (revP s)).take ((chn [] (revP s)).length - 1)
theorem chn_pos : ∀ {ps st : List Pt}, 0 < st.length ∨ 0 < ps.length → 0 < (chn st ps).length
  | [], st, h => by simpa [chn] using h
  | p :: r, st, _ => by
    have h1 := pushP_len1 st p
    have := chn_pos (ps := r) (st := pushP st p) (.inl (by omega))
    exact this
theorem allV_rev {ps : List Pt} (h : allV ps = true) : allV (revP ps) = true := List.all_eq_true.2 fun z hz => List.all_eq_true.1 h z (List.mem_reverse.1 hz)
theorem revP_len (ps : List Pt) : (revP ps).length = ps.length := List.length_reverse ..
theorem hul_two {s : List Pt} (h : s.length = 2) : (chn [] s).take ((chn [] s).length - 1) ++ (chn [] (revP s)).take ((chn [] (revP s)).length - 1) = s := by
  match s, h with
  | [a, b], _ => rfl
theorem popN_pos (st : List Pt) (p : Pt) : ∀ j, 1 ≤ j → 1 ≤ popN st p j
  | 0, h => by omega
  | 1, _ => Nat.le_refl _
  | j + 2, _ => by
    have := popN_pos st p (j + 1) (by omega)
    simp only [popN]
    split <;> omega
theorem chn_two : ∀ {ps st : List Pt}, 2 ≤ st.length ∨ (1 ≤ st.length ∧ 1 ≤ ps.length) → 2 ≤ (chn st ps).length
  | [], st, h => by
    show 2 ≤ st.length
    simpa using h
  | p :: r, st, h => by
    have h0 : 1 ≤ st.length := by omega
    have h1 := pushP_len1 st p
    have h2 := popN_pos st p st.length h0
    exact chn_two (ps := r) (st := pushP st p) (.inl (by omega))
theorem chn_ge {s : List Pt} (h : 2 ≤ s.length) : 2 ≤ (chn [] s).length := by
  match s, h with
  | a :: b :: r, _ => exact chn_two (ps := b :: r) (st := pushP [] a) (.inr ⟨by rw [pushP_len1]; exact Nat.le_add_left _ _, by simp⟩)
theorem hulL_len {s : List Pt} (h : s.length ≤ 20) : (hulL s).length ≤ 40 := by
  have c1 := chn_len s []
  have c2 := chn_len (revP s) []
  have r1 := revP_len s
  simp only [List.length_nil, Nat.zero_add] at c1 c2
  unfold hulL
  split
  · omega
  · simp only [List.length_append, List.length_take]
    omega
theorem allV_hul {s : List Pt} (h : allV s = true) : allV (hulL s) = true := by
  unfold hulL
  split
  · exact h
  · refine List.all_eq_true.2 fun z hz => ?_
    rcases List.mem_append.1 hz with hz | hz
    · exact List.all_eq_true.1 (allV_chn (ps := s) (st := []) rfl h) z (List.mem_of_mem_take hz)
    · exact List.all_eq_true.1 (allV_chn (ps := revP s) (st := []) rfl (allV_rev h)) z (List.mem_of_mem_take hz)
end Go.Proofs.Ytieibbdfdepmbaa
