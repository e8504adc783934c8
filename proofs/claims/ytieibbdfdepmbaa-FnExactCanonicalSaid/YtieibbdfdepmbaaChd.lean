/-
  A chain of points on a stack: what it is. Written by an AI agent.
-/
import Derived.Test.YtieibbdfdepmbaaColl
import Derived.Test.YtieibbdfdepmbaaSrt
import Derived.Test.YtieibbdfdepmbaaSga
namespace Go.Proofs.Ytieibbdfdepmbaa
set_option linter.all false
open Go.RowKit

def crP (a b c : Pt) : Int := crossI a.1 a.2 b.1 b.2 c.1 c.2
/-- How many of so many points stay on the stack ahead of another one. -/
def popN (st : List Pt) (p : Pt) : Nat → Nat
  | 0 => 0
  | 1 => 1
  | j + 2 => if crP (st.getD j (0, 0)) (st.getD (j + 1) (0, 0)) p ≤ 0 then popN st p (j + 1) else j + 2
def pushP (st : List Pt) (p : Pt) : List Pt := st.take (popN st p st.length) ++ [p]
def chn (st ps : List Pt) : List Pt := ps.foldl pushP st
theorem popN_le (st : List Pt) (p : Pt) : ∀ j, popN st p j ≤ j
  | 0 => Nat.le_refl _
  | 1 => Nat.le_refl _
  | j + 2 => by
    have := popN_le st p (j + 1)
    simp only [popN]
    split <;> omega
theorem pushP_len (st : List Pt) (p : Pt) : (pushP st p).length ≤ st.length + 1 := by
  unfold pushP
  simp
  omega
theorem allV_at {ps : List Pt} (h : allV ps = true) {j : Nat} (hj : j < ps.length) : ptB (ps.getD j (0, 0)).1 (ps.getD j (0, 0)).2 = true := List.all_eq_true.1 h (ps.getD j (0, 0)) (by simp [hj])
theorem allV_push {st : List Pt} {p : Pt} (h : allV st = true) (hp : ptB p.1 p.2 = true) : allV (pushP st p) = true := by
  unfold pushP
  refine List.all_eq_true.2 fun z hz => ?_
  rcases List.mem_append.1 hz with hz | hz
  · exact List.all_eq_true.1 h z (List.mem_of_mem_take hz)
  · obtain rfl : z = p := by simpa using hz
    exact hp
theorem allV_chn : ∀ {ps st : List Pt}, allV st = true → allV ps = true → allV (chn st ps) = true
  | [], _, h, _ => h
  | p :: r, st, h, hp => by
    have h1 : ptB p.1 p.2 = true := List.all_eq_true.1 hp p List.mem_cons_self
    have h2 : allV r = true := List.all_eq_true.2 fun z hz => List.all_eq_true.1 hp z (List.mem_cons_of_mem _ hz)
    show allV (chn (pushP st p) r) = true
    exact allV_chn (allV_push h h1) h2
theorem chn_len : ∀ (ps st : List Pt), (chn st ps).length ≤ st.length + ps.length
  | [], st => Nat.le_refl _
  | p :: r, st => by
    have h1 := chn_len r (pushP st p)
    have h2 := pushP_len st p
    simp only [chn, List.foldl_cons, List.length_cons] at h1 ⊢
    omega
theorem pushP_len1 (st : List Pt) (p : Pt) : (pushP st p).length = popN st p st.length + 1 := by
  have := popN_le st p st.length
  unfold pushP
  simp
  omega
def revP (ps : List Pt) : List Pt := ps.reverse
theorem getD_rev {ps : List Pt} {k : Nat} (h : k < ps.length) : ps.reverse.getD k (0, 0) = ps.getD (ps.length - 1 - k) (0, 0) := by
  simp [List.getD, h, show ps.length - 1 - k < ps.length by omega]
theorem ext_getD {a b : List Pt} (hl : a.length = b.length) (h : ∀ k, k < a.length → a.getD k (0, 0) = b.getD k (0, 0)) : a = b := by
  refine List.ext_getElem hl fun k h1 h2 => ?_
  have := h k h1
  simpa [List.getD, h1, h2] using this
end Go.Proofs.Ytieibbdfdepmbaa
