/-
  PointsInRect: its loops, both ways. Written by an AI agent.
-/
import Derived.Test.YtoijfjifaljpaabFnB
import Derived.Test.YtoijfjifaljpaabLop
import Derived.Test.YtoijfjifaljpaabRc
import Derived.Test.YtoijfjifaljpaabMrkF
namespace Go.Proofs.Ytoijfjifaljpaab
open Go.RowKit

/-- The places of those elements that pass a test. -/
def idxF (P : Pt → Bool) : List Pt → Nat → List Int
  | [], _ => []
  | p :: r, k => bif P p then (k : Int) :: idxF P r (k + 1) else idxF P r (k + 1)
theorem idx_yes {P : Pt → Bool} {ps : List Pt} {i : Nat} (h : i < ps.length) (hP : P (ps.getD i (0, 0)) = true) (o : List Int) : o ++ idxF P (ps.drop i) i = (o ++ [(i : Int)]) ++ idxF P (ps.drop (i + 1)) (i + 1) := by
  rw [drop_cons h (0, 0)]
  simp only [idxF, hP, cond_true, List.append_assoc, List.singleton_append]
theorem idx_no {P : Pt → Bool} {ps : List Pt} {i : Nat} (h : i < ps.length) (hP : P (ps.getD i (0, 0)) = false) : idxF P (ps.drop i) i = idxF P (ps.drop (i + 1)) (i + 1) := by
  rw [drop_cons h (0, 0)]
  simp only [idxF, hP, cond_false]
theorem idx_end {P : Pt → Bool} {ps : List Pt} {i : Nat} (h : ps.length ≤ i) : idxF P (ps.drop i) i = [] := by
  rw [List.drop_of_length_le h]
  rfl
theorem idx_len (P : Pt → Bool) : ∀ (ps : List Pt) (k : Nat), (idxF P ps k).length ≤ ps.length
  | [], _ => Nat.le_refl _
  | p :: r, k => by
    have := idx_len P r (k + 1)
    simp only [idxF]
    cases P p <;> simp <;> omega
def inR (a b c d : Int) (p : Pt) : Bool := decide (a ≤ p.1) && decide (p.1 ≤ c) && (decide (b ≤ p.2) && decide (p.2 ≤ d))
def TP : Tab := fun f ds => match f with
  | 64 => pRc ds
  | 60 => pRc ds
  | f => T2 f ds
theorem TP_ok : TabOk Try.prog TP := by
  intro f ds v C h hC
  unfold TP at h
  split at h
  · exact rcS h
  · exact rcI h
  · exact T2_ok _ _ _ _ h hC
def EP0 : Env := mkE TP (fun _ _ => none) (fun _ => noL)
theorem EP0_ok : EnvOk Try.prog EP0 := mkEOk TP_ok (fun _ _ _ _ _ h => (by cases h)) (fun _ _ _ => noL_good)
noncomputable def c_specPir : Code := ((loopsOf (codeOf Try.f18))[0]?).getD .skip
def k_specPir : Ex → List Nat := keeps [0, 3, 5, 6] [(0, [5])] [4]
def s_specPir (ps : List Pt) (a b c d : Int) : Nat × (List Int) → St := fun (i, o) => ⟨(.slice (some ⟨0, 0, none⟩) ps.length ps.length :: topV :: topV :: .pointer (some ⟨2, 0, none⟩) :: topV :: .slice (some ⟨4, 0, none⟩) o.length o.length :: .int .i64 i :: topV :: topV :: topV :: topV :: topV :: topV :: topV :: topV :: topV :: topV :: topV :: topV :: topV :: topV :: topV :: topV :: topV :: topV :: topV :: topV :: topV :: topV :: topV :: topV :: topV :: topV :: []), [some ⟨.view, .ints (flat ps)⟩, none, some ⟨.box, .vals [.int .i64 a, .int .i64 b, .int .i64 c, .int .i64 d]⟩, some ⟨.dead, .vals []⟩, some ⟨.row 3 1, .ints o⟩]⟩
def re_specPir : Nat × (List Int) → Ex := fun _ => .exit 0
def rs_specPir (ps : List Pt) (a b c d : Int) : Nat × (List Int) → St := fun (i, o) => ⟨(topV :: topV :: topV :: topV :: topV :: .slice (some ⟨4, 0, none⟩) (o ++ idxF (inR a b c d) (ps.drop i) i).length (o ++ idxF (inR a b c d) (ps.drop i) i).length :: topV :: topV :: topV :: topV :: topV :: topV :: topV :: topV :: topV :: topV :: topV :: topV :: topV :: topV :: topV :: topV :: topV :: topV :: topV :: topV :: topV :: topV :: topV :: topV :: topV :: topV :: topV :: []), [some ⟨.view, .ints (flat ps)⟩, none, some ⟨.box, .vals [.int .i64 a, .int .i64 b, .int .i64 c, .int .i64 d]⟩, some ⟨.dead, .vals []⟩, some ⟨.row 3 1, .ints (o ++ idxF (inR a b c d) (ps.drop i) i)⟩]⟩
set_option maxRecDepth 100000 in
theorem tr_specPir (ps : List Pt) (a b c d : Int) (i : Nat) (o : List Int) : bodyL Try.prog EP0 30 12 noL 1 c_specPir k_specPir 8 (s_specPir ps a b c d (i, o)) = brT (decide ((↑i : Int) < (↑ps.length : Int))) (brT (decide (a ≤ (flat ps).getD (0 + (↑i : Int).toNat * 2) 0)) (brT (decide ((flat ps).getD (0 + (↑i : Int).toNat * 2) 0 ≤ c)) (brT (decide (b ≤ (flat ps).getD (0 + (↑i : Int).toNat * 2 + 1) 0)) (.need ((0 : Int) ≤ (↑i : Int) ∧ (↑i : Int) < (↑ps.length : Int)) (.need ((0 : Nat) + (↑i : Int).toNat * (2 : Nat) + (2 : Nat) ≤ (flat ps).length) (brT (decide ((flat ps).getD (0 + (↑i : Int).toNat * 2 + 1) 0 ≤ d)) (.need ((o.length + (1 : Nat)) * (8 : Nat) ≤ (140737488355328 : Nat) ∧ o.length + (1 : Nat) ≤ (1000000 : Nat)) (.need ((0 : Nat) + o.length * (1 : Nat) ≤ o.length) (.leaf .normal ⟨(.slice (some ⟨0, 0, none⟩) (ps.length) (ps.length) :: topV :: topV :: .pointer (some ⟨2, 0, none⟩) :: topV :: .slice (some ⟨7, 0, none⟩) (o.length + 1) (o.length + 1) :: .int .i64 (IntKind.i64.wrap ((↑i : Int) + 1)) :: topV :: topV :: topV :: topV :: topV :: topV :: topV :: topV :: topV :: topV :: topV :: topV :: topV :: topV :: topV :: topV :: topV :: topV :: topV :: topV :: topV :: topV :: topV :: topV :: topV :: topV :: []), [some ⟨.view, .ints (flat ps)⟩, none, some ⟨.box, .vals [.int .i64 (a), .int .i64 (b), .int .i64 (c), .int .i64 (d)]⟩, some deadB, some deadB, none, some ⟨.row 3 1, .vals [.int .i64 ((↑i : Int))]⟩, some ⟨.row 3 1, .ints (List.take (o.length * 1) (List.drop 0 o) ++ [(↑i : Int)])⟩]⟩))) (.leaf .normal ⟨(.slice (some ⟨0, 0, none⟩) (ps.length) (ps.length) :: topV :: topV :: .pointer (some ⟨2, 0, none⟩) :: topV :: .slice (some ⟨4, 0, none⟩) (o.length) (o.length) :: .int .i64 (IntKind.i64.wrap ((↑i : Int) + 1)) :: topV :: topV :: topV :: topV :: topV :: topV :: topV :: topV :: topV :: topV :: topV :: topV :: topV :: topV :: topV :: topV :: topV :: topV :: topV :: topV :: topV :: topV :: topV :: topV :: topV :: topV :: []), [some ⟨.view, .ints (flat ps)⟩, none, some ⟨.box, .vals [.int .i64 (a), .int .i64 (b), .int .i64 (c), .int .i64 (d)]⟩, some deadB, some ⟨.row 3 1, .ints (o)⟩, none]⟩)))) (.need ((0 : Int) ≤ (↑i : Int) ∧ (↑i : Int) < (↑ps.length : Int)) (.need ((0 : Nat) + (↑i : Int).toNat * (2 : Nat) + (2 : Nat) ≤ (flat ps).length) (.leaf .normal ⟨(.slice (some ⟨0, 0, none⟩) (ps.length) (ps.length) :: topV :: topV :: .pointer (some ⟨2, 0, none⟩) :: topV :: .slice (some ⟨4, 0, none⟩) (o.length) (o.length) :: .int .i64 (IntKind.i64.wrap ((↑i : Int) + 1)) :: topV :: topV :: topV :: topV :: topV :: topV :: topV :: topV :: topV :: topV :: topV :: topV :: topV :: topV :: topV :: topV :: topV :: topV :: topV :: topV :: topV :: topV :: topV :: topV :: topV :: topV :: []), [some ⟨.view, .ints (flat ps)⟩, none, some ⟨.box, .vals [.int .i64 (a), .int .i64 (b), .int .i64 (c), .int .i64 (d)]⟩, some deadB, some ⟨.row 3 1, .ints (o)⟩, none]⟩)))) (.need ((0 : Int) ≤ (↑i : Int) ∧ (↑i : Int) < (↑ps.length : Int)) (.need ((0 : Nat) + (↑i : Int).toNat * (2 : Nat) + (2 : Nat) ≤ (flat ps).length) (.leaf .normal ⟨(.slice (some ⟨0, 0, none⟩) (ps.length) (ps.length) :: topV :: topV :: .pointer (some ⟨2, 0, none⟩) :: topV :: .slice (some ⟨4, 0, none⟩) (o.length) (o.length) :: .int .i64 (IntKind.i64.wrap ((↑i : Int) + 1)) :: topV :: topV :: topV :: topV :: topV :: topV :: topV :: topV :: topV :: topV :: topV :: topV :: topV :: topV :: topV :: topV :: topV :: topV :: topV :: topV :: topV :: topV :: topV :: topV :: topV :: topV :: []), [some ⟨.view, .ints (flat ps)⟩, none, some ⟨.box, .vals [.int .i64 (a), .int .i64 (b), .int .i64 (c), .int .i64 (d)]⟩, some deadB, some ⟨.row 3 1, .ints (o)⟩, none]⟩)))) (.need ((0 : Int) ≤ (↑i : Int) ∧ (↑i : Int) < (↑ps.length : Int)) (.need ((0 : Nat) + (↑i : Int).toNat * (2 : Nat) + (2 : Nat) ≤ (flat ps).length) (.leaf .normal ⟨(.slice (some ⟨0, 0, none⟩) (ps.length) (ps.length) :: topV :: topV :: .pointer (some ⟨2, 0, none⟩) :: topV :: .slice (some ⟨4, 0, none⟩) (o.length) (o.length) :: .int .i64 (IntKind.i64.wrap ((↑i : Int) + 1)) :: topV :: topV :: topV :: topV :: topV :: topV :: topV :: topV :: topV :: topV :: topV :: topV :: topV :: topV :: topV :: topV :: topV :: topV :: topV :: topV :: topV :: topV :: topV :: topV :: topV :: topV :: []), [some ⟨.view, .ints (flat ps)⟩, none, some ⟨.box, .vals [.int .i64 (a), .int .i64 (b), .int .i64 (c), .int .i64 (d)]⟩, some deadB, some ⟨.row 3 1, .ints (o)⟩, none]⟩)))) (.leaf (.exit 0) ⟨(topV :: topV :: topV :: topV :: topV :: .slice (some ⟨4, 0, none⟩) (o.length) (o.length) :: topV :: topV :: topV :: topV :: topV :: topV :: topV :: topV :: topV :: topV :: topV :: topV :: topV :: topV :: topV :: topV :: topV :: topV :: topV :: topV :: topV :: topV :: topV :: topV :: topV :: topV :: topV :: []), [some ⟨.view, .ints (flat ps)⟩, none, some ⟨.box, .vals [.int .i64 (a), .int .i64 (b), .int .i64 (c), .int .i64 (d)]⟩, some deadB, some ⟨.row 3 1, .ints (o)⟩]⟩) := by kernel_rfl
set_option maxRecDepth 100000 in
theorem nl_specPir : loopsOf c_specPir = [] := by kernel_rfl
def inv_specPir (ps : List Pt) (a b c d : Int) : Nat × (List Int) → Prop := fun (i, o) => i ≤ ps.length ∧ o.length ≤ i
def me_specPir (ps : List Pt) (a b c d : Int) : Nat × (List Int) → Nat := fun (i, o) => ps.length - i
/-- A round of this loop. -/
def Round_specPir (ps : List Pt) (a b c d : Int) : Prop := ∀ xx : Nat × (List Int), inv_specPir ps a b c d xx → (bodyL Try.prog EP0 30 12 noL 1 c_specPir k_specPir 8 (s_specPir ps a b c d xx)).ok (RoundEnd 4 (s_specPir ps a b c d) (inv_specPir ps a b c d) (me_specPir ps a b c d) re_specPir (rs_specPir ps a b c d) xx) (fun _ _ => False)
def e_specPir (s : St) (k : Ex → St → Tree) : Option Tree := match Nat.beq s.tmps.length 33, pickL s.tmps [0, 3, 5, 6], s.mem with
  | true, [.slice (some ⟨0, 0, none⟩) m _, .pointer (some ⟨2, 0, none⟩), .slice (some ⟨3, 0, none⟩) z _, .int .i64 i], [some ⟨.view, .ints xs⟩, none, some ⟨.box, .vals [.int .i64 a, .int .i64 b, .int .i64 c, .int .i64 d]⟩, some ⟨.row 3 1, .vals []⟩] => some (needs [i = 0, z = 0, xs.length = m * 2, m ≤ 20] (k (.exit 0) ⟨(topV :: topV :: topV :: topV :: topV :: .slice (some ⟨4, 0, none⟩) (idxF (inR a b c d) (ptsA m xs) 0).length (idxF (inR a b c d) (ptsA m xs) 0).length :: topV :: topV :: topV :: topV :: topV :: topV :: topV :: topV :: topV :: topV :: topV :: topV :: topV :: topV :: topV :: topV :: topV :: topV :: topV :: topV :: topV :: topV :: topV :: topV :: topV :: topV :: topV :: []), [some ⟨.view, .ints xs⟩, none, some ⟨.box, .vals [.int .i64 a, .int .i64 b, .int .i64 c, .int .i64 d]⟩, some ⟨.dead, .vals []⟩, some ⟨.row 3 1, .ints (idxF (inR a b c d) (ptsA m xs) 0)⟩]⟩))
  | _, _, _ => none
noncomputable def c_implPir : Code := ((loopsOf (codeOf Try.f61))[0]?).getD .skip
def k_implPir : Ex → List Nat := keeps [1, 5, 8, 9, 10] [(0, [5])] [4]
def s_implPir (ps : List Pt) (a b c d : Int) : Nat × (List Int) → St := fun (i, o) => ⟨[topV, .func (.func 62) #[.agg #[.int .i64 a, .int .i64 b, .int .i64 c, .int .i64 d]] #[], topV, topV, topV, .slice (some ⟨3, 0, none⟩) o.length o.length, topV, topV, .slice (some ⟨0, 0, none⟩) ps.length ps.length, .int .i64 ps.length, .int .i64 i, topV, topV, topV, topV, topV, topV, topV, topV, topV, topV, topV, topV, topV], [some ⟨.view, .ints (flat ps)⟩, none, some ⟨.box, .vals [.int .i64 a, .int .i64 b, .int .i64 c, .int .i64 d]⟩, some ⟨.row 3 1, .ints o⟩]⟩
def re_implPir : Nat × (List Int) → Ex := fun _ => .exit 0
def rs_implPir (ps : List Pt) (a b c d : Int) : Nat × (List Int) → St := fun (i, o) => ⟨[topV, topV, topV, topV, topV, .slice (some ⟨3, 0, none⟩) (o ++ idxF (inR a b c d) (ps.drop i) i).length (o ++ idxF (inR a b c d) (ps.drop i) i).length, topV, topV, topV, topV, topV, topV, topV, topV, topV, topV, topV, topV, topV, topV, topV, topV, topV, topV], [some ⟨.view, .ints (flat ps)⟩, none, some ⟨.box, .vals [.int .i64 a, .int .i64 b, .int .i64 c, .int .i64 d]⟩, some ⟨.row 3 1, .ints (o ++ idxF (inR a b c d) (ps.drop i) i)⟩]⟩
set_option maxRecDepth 100000 in
theorem tr_implPir (ps : List Pt) (a b c d : Int) (i : Nat) (o : List Int) : bodyL Try.prog EP0 30 12 noL 1 c_implPir k_implPir 14 (s_implPir ps a b c d (i, o)) = brT (decide ((↑i : Int) < (↑ps.length : Int))) (.need ((0 : Int) ≤ (↑i : Int) ∧ (↑i : Int) < (↑ps.length : Int)) (.need ((0 : Nat) + (↑i : Int).toNat * (2 : Nat) + (2 : Nat) ≤ (flat ps).length) (brT (decide ((flat ps).getD (0 + (↑i : Int).toNat * 2) 0 ≤ c)) (brT (decide ((flat ps).getD (0 + (↑i : Int).toNat * 2 + 1) 0 ≤ d)) (brT (decide (a ≤ (flat ps).getD (0 + (↑i : Int).toNat * 2) 0)) (brT (decide (b ≤ (flat ps).getD (0 + (↑i : Int).toNat * 2 + 1) 0)) (.need ((o.length + (1 : Nat)) * (8 : Nat) ≤ (140737488355328 : Nat) ∧ o.length + (1 : Nat) ≤ (1000000 : Nat)) (.need ((0 : Nat) + o.length * (1 : Nat) ≤ o.length) (.leaf .normal ⟨[topV, .func (Fn.func 62) #[.agg #[.int .i64 (a), .int .i64 (b), .int .i64 (c), .int .i64 (d)]] #[], topV, topV, topV, .slice (some ⟨12, 0, none⟩) (o.length + 1) (o.length + 1), topV, topV, .slice (some ⟨0, 0, none⟩) (ps.length) (ps.length), .int .i64 ((↑ps.length : Int)), .int .i64 (IntKind.i64.wrap ((↑i : Int) + 1)), topV, topV, topV, topV, topV, topV, topV, topV, topV, topV, topV, topV, topV], [some ⟨.view, .ints (flat ps)⟩, none, some ⟨.box, .vals [.int .i64 (a), .int .i64 (b), .int .i64 (c), .int .i64 (d)]⟩, some deadB, some ⟨.box, .vals [.int .i64 ((flat ps).getD (0 + (↑i : Int).toNat * 2) 0), .int .i64 ((flat ps).getD (0 + (↑i : Int).toNat * 2 + 1) 0)]⟩, some ⟨.box, .vals [.int .i64 (a), .int .i64 (b), .int .i64 (c), .int .i64 (d)]⟩, some ⟨.box, .vals [.int .i64 ((flat ps).getD (0 + (↑i : Int).toNat * 2) 0), .int .i64 ((flat ps).getD (0 + (↑i : Int).toNat * 2 + 1) 0)]⟩, some ⟨.box, .vals [.int .i64 (c), .int .i64 (d)]⟩, some ⟨.box, .vals [.int .i64 ((flat ps).getD (0 + (↑i : Int).toNat * 2) 0), .int .i64 ((flat ps).getD (0 + (↑i : Int).toNat * 2 + 1) 0)]⟩, some ⟨.box, .vals [.int .i64 ((flat ps).getD (0 + (↑i : Int).toNat * 2) 0), .int .i64 ((flat ps).getD (0 + (↑i : Int).toNat * 2 + 1) 0)]⟩, some ⟨.box, .vals [.int .i64 (a), .int .i64 (b)]⟩, some ⟨.row 3 1, .vals [.int .i64 ((↑i : Int))]⟩, some ⟨.row 3 1, .ints (List.take (o.length * 1) (List.drop 0 o) ++ [(↑i : Int)])⟩]⟩))) (.leaf .normal ⟨[topV, .func (Fn.func 62) #[.agg #[.int .i64 (a), .int .i64 (b), .int .i64 (c), .int .i64 (d)]] #[], topV, topV, topV, .slice (some ⟨3, 0, none⟩) (o.length) (o.length), topV, topV, .slice (some ⟨0, 0, none⟩) (ps.length) (ps.length), .int .i64 ((↑ps.length : Int)), .int .i64 (IntKind.i64.wrap ((↑i : Int) + 1)), topV, topV, topV, topV, topV, topV, topV, topV, topV, topV, topV, topV, topV], [some ⟨.view, .ints (flat ps)⟩, none, some ⟨.box, .vals [.int .i64 (a), .int .i64 (b), .int .i64 (c), .int .i64 (d)]⟩, some ⟨.row 3 1, .ints (o)⟩, some ⟨.box, .vals [.int .i64 ((flat ps).getD (0 + (↑i : Int).toNat * 2) 0), .int .i64 ((flat ps).getD (0 + (↑i : Int).toNat * 2 + 1) 0)]⟩, some ⟨.box, .vals [.int .i64 (a), .int .i64 (b), .int .i64 (c), .int .i64 (d)]⟩, some ⟨.box, .vals [.int .i64 ((flat ps).getD (0 + (↑i : Int).toNat * 2) 0), .int .i64 ((flat ps).getD (0 + (↑i : Int).toNat * 2 + 1) 0)]⟩, some ⟨.box, .vals [.int .i64 (c), .int .i64 (d)]⟩, some ⟨.box, .vals [.int .i64 ((flat ps).getD (0 + (↑i : Int).toNat * 2) 0), .int .i64 ((flat ps).getD (0 + (↑i : Int).toNat * 2 + 1) 0)]⟩, some ⟨.box, .vals [.int .i64 ((flat ps).getD (0 + (↑i : Int).toNat * 2) 0), .int .i64 ((flat ps).getD (0 + (↑i : Int).toNat * 2 + 1) 0)]⟩, some ⟨.box, .vals [.int .i64 (a), .int .i64 (b)]⟩]⟩)) (.leaf .normal ⟨[topV, .func (Fn.func 62) #[.agg #[.int .i64 (a), .int .i64 (b), .int .i64 (c), .int .i64 (d)]] #[], topV, topV, topV, .slice (some ⟨3, 0, none⟩) (o.length) (o.length), topV, topV, .slice (some ⟨0, 0, none⟩) (ps.length) (ps.length), .int .i64 ((↑ps.length : Int)), .int .i64 (IntKind.i64.wrap ((↑i : Int) + 1)), topV, topV, topV, topV, topV, topV, topV, topV, topV, topV, topV, topV, topV], [some ⟨.view, .ints (flat ps)⟩, none, some ⟨.box, .vals [.int .i64 (a), .int .i64 (b), .int .i64 (c), .int .i64 (d)]⟩, some ⟨.row 3 1, .ints (o)⟩, some ⟨.box, .vals [.int .i64 ((flat ps).getD (0 + (↑i : Int).toNat * 2) 0), .int .i64 ((flat ps).getD (0 + (↑i : Int).toNat * 2 + 1) 0)]⟩, some ⟨.box, .vals [.int .i64 (a), .int .i64 (b), .int .i64 (c), .int .i64 (d)]⟩, some ⟨.box, .vals [.int .i64 ((flat ps).getD (0 + (↑i : Int).toNat * 2) 0), .int .i64 ((flat ps).getD (0 + (↑i : Int).toNat * 2 + 1) 0)]⟩, some ⟨.box, .vals [.int .i64 (c), .int .i64 (d)]⟩, some ⟨.box, .vals [.int .i64 ((flat ps).getD (0 + (↑i : Int).toNat * 2) 0), .int .i64 ((flat ps).getD (0 + (↑i : Int).toNat * 2 + 1) 0)]⟩, some ⟨.box, .vals [.int .i64 ((flat ps).getD (0 + (↑i : Int).toNat * 2) 0), .int .i64 ((flat ps).getD (0 + (↑i : Int).toNat * 2 + 1) 0)]⟩, some ⟨.box, .vals [.int .i64 (a), .int .i64 (b)]⟩]⟩)) (.leaf .normal ⟨[topV, .func (Fn.func 62) #[.agg #[.int .i64 (a), .int .i64 (b), .int .i64 (c), .int .i64 (d)]] #[], topV, topV, topV, .slice (some ⟨3, 0, none⟩) (o.length) (o.length), topV, topV, .slice (some ⟨0, 0, none⟩) (ps.length) (ps.length), .int .i64 ((↑ps.length : Int)), .int .i64 (IntKind.i64.wrap ((↑i : Int) + 1)), topV, topV, topV, topV, topV, topV, topV, topV, topV, topV, topV, topV, topV], [some ⟨.view, .ints (flat ps)⟩, none, some ⟨.box, .vals [.int .i64 (a), .int .i64 (b), .int .i64 (c), .int .i64 (d)]⟩, some ⟨.row 3 1, .ints (o)⟩, some ⟨.box, .vals [.int .i64 ((flat ps).getD (0 + (↑i : Int).toNat * 2) 0), .int .i64 ((flat ps).getD (0 + (↑i : Int).toNat * 2 + 1) 0)]⟩, some ⟨.box, .vals [.int .i64 (a), .int .i64 (b), .int .i64 (c), .int .i64 (d)]⟩, some ⟨.box, .vals [.int .i64 ((flat ps).getD (0 + (↑i : Int).toNat * 2) 0), .int .i64 ((flat ps).getD (0 + (↑i : Int).toNat * 2 + 1) 0)]⟩, some ⟨.box, .vals [.int .i64 (c), .int .i64 (d)]⟩, some ⟨.box, .vals [.int .i64 ((flat ps).getD (0 + (↑i : Int).toNat * 2) 0), .int .i64 ((flat ps).getD (0 + (↑i : Int).toNat * 2 + 1) 0)]⟩]⟩)) (.leaf .normal ⟨[topV, .func (Fn.func 62) #[.agg #[.int .i64 (a), .int .i64 (b), .int .i64 (c), .int .i64 (d)]] #[], topV, topV, topV, .slice (some ⟨3, 0, none⟩) (o.length) (o.length), topV, topV, .slice (some ⟨0, 0, none⟩) (ps.length) (ps.length), .int .i64 ((↑ps.length : Int)), .int .i64 (IntKind.i64.wrap ((↑i : Int) + 1)), topV, topV, topV, topV, topV, topV, topV, topV, topV, topV, topV, topV, topV], [some ⟨.view, .ints (flat ps)⟩, none, some ⟨.box, .vals [.int .i64 (a), .int .i64 (b), .int .i64 (c), .int .i64 (d)]⟩, some ⟨.row 3 1, .ints (o)⟩, some ⟨.box, .vals [.int .i64 ((flat ps).getD (0 + (↑i : Int).toNat * 2) 0), .int .i64 ((flat ps).getD (0 + (↑i : Int).toNat * 2 + 1) 0)]⟩, some ⟨.box, .vals [.int .i64 (a), .int .i64 (b), .int .i64 (c), .int .i64 (d)]⟩, some ⟨.box, .vals [.int .i64 ((flat ps).getD (0 + (↑i : Int).toNat * 2) 0), .int .i64 ((flat ps).getD (0 + (↑i : Int).toNat * 2 + 1) 0)]⟩, some ⟨.box, .vals [.int .i64 (c), .int .i64 (d)]⟩, some ⟨.box, .vals [.int .i64 ((flat ps).getD (0 + (↑i : Int).toNat * 2) 0), .int .i64 ((flat ps).getD (0 + (↑i : Int).toNat * 2 + 1) 0)]⟩]⟩)))) (.leaf (.exit 0) ⟨[topV, topV, topV, topV, topV, .slice (some ⟨3, 0, none⟩) (o.length) (o.length), topV, topV, topV, topV, topV, topV, topV, topV, topV, topV, topV, topV, topV, topV, topV, topV, topV, topV], [some ⟨.view, .ints (flat ps)⟩, none, some ⟨.box, .vals [.int .i64 (a), .int .i64 (b), .int .i64 (c), .int .i64 (d)]⟩, some ⟨.row 3 1, .ints (o)⟩]⟩) := by kernel_rfl
set_option maxRecDepth 100000 in
theorem nl_implPir : loopsOf c_implPir = [] := by kernel_rfl
def inv_implPir (ps : List Pt) (a b c d : Int) : Nat × (List Int) → Prop := fun (i, o) => i ≤ ps.length ∧ o.length ≤ i
def me_implPir (ps : List Pt) (a b c d : Int) : Nat × (List Int) → Nat := fun (i, o) => ps.length - i
/-- A round of this loop. -/
def Round_implPir (ps : List Pt) (a b c d : Int) : Prop := ∀ xx : Nat × (List Int), inv_implPir ps a b c d xx → (bodyL Try.prog EP0 30 12 noL 1 c_implPir k_implPir 14 (s_implPir ps a b c d xx)).ok (RoundEnd 3 (s_implPir ps a b c d) (inv_implPir ps a b c d) (me_implPir ps a b c d) re_implPir (rs_implPir ps a b c d) xx) (fun _ _ => False)
def e_implPir (s : St) (k : Ex → St → Tree) : Option Tree := match Nat.beq s.tmps.length 24, pickL s.tmps [1, 5, 8, 9, 10], s.mem with
  | true, [.func (.func 62) ⟨[.agg ⟨[.int .i64 a, .int .i64 b, .int .i64 c, .int .i64 d]⟩]⟩ ⟨[]⟩, .slice none 0 0, .slice (some ⟨0, 0, none⟩) m _, .int .i64 l, .int .i64 i], [some ⟨.view, .ints xs⟩, none, some ⟨.box, .vals [.int .i64 a', .int .i64 b', .int .i64 c', .int .i64 d']⟩] => some (needs [i = 0, l = m, a' = a, b' = b, c' = c, d' = d, xs.length = m * 2, m ≤ 20] (k (.exit 0) ⟨[topV, topV, topV, topV, topV, .slice (some ⟨3, 0, none⟩) (idxF (inR a b c d) (ptsA m xs) 0).length (idxF (inR a b c d) (ptsA m xs) 0).length, topV, topV, topV, topV, topV, topV, topV, topV, topV, topV, topV, topV, topV, topV, topV, topV, topV, topV], [some ⟨.view, .ints xs⟩, none, some ⟨.box, .vals [.int .i64 a, .int .i64 b, .int .i64 c, .int .i64 d]⟩, some ⟨.row 3 1, .ints (idxF (inR a b c d) (ptsA m xs) 0)⟩]⟩))
  | _, _, _ => none
theorem take_all1 (o : List Int) : List.take (o.length * 1) (List.drop 0 o) = o := by rw [Nat.mul_one, List.drop_zero, List.take_length]
set_option maxRecDepth 100000 in
theorem round_specPir (ps : List Pt) (a b c d : Int) (h : ps.length ≤ 20) : Round_specPir ps a b c d := by
  rintro ⟨i, o⟩ ⟨h1, h2⟩
  rw [tr_specPir]
  simp only [brT_ok, Tree.ok, decide_eq_true_eq, decide_eq_false_iff_not, Int.toNat_natCast, Nat.zero_add, flat_length, flat_get0, flat_get1, take_all1]
  refine ⟨fun hlt => ?_, fun hge => ?_⟩
  · rw [wsucc (n := ps.length) (by omega) (by omega)]
    refine ⟨fun g1 => ⟨fun g2 => ⟨fun g3 => ⟨by omega, by omega, fun g4 => ⟨by omega, by omega, ?_⟩, fun g4 => ?_⟩, fun g3 => ⟨by omega, by omega, ?_⟩⟩, fun g2 => ⟨by omega, by omega, ?_⟩⟩, fun g1 => ⟨by omega, by omega, ?_⟩⟩
    · have hP : inR a b c d (ps.getD i (0, 0)) = true := by simp only [inR, Bool.and_eq_true, decide_eq_true_eq]; omega
      refine ⟨(i + 1, o ++ [(i : Int)]), [some 7], ⟨by omega, by simp; omega⟩, ?_, rfl, ?_, ?_⟩
      · show ps.length - (i + 1) < ps.length - i; omega
      · simp only [rs_specPir, idx_yes (P := inR a b c d) (ps := ps) (i := i) (by omega) hP o]
      · repeat' (first | exact True.intro | exact rfl | exact fun _ => rfl | (simp; done) | refine And.intro ?_ ?_)
    all_goals
      have hP : inR a b c d (ps.getD i (0, 0)) = false := by
        rw [Bool.eq_false_iff]
        intro hh
        simp only [inR, Bool.and_eq_true, decide_eq_true_eq] at hh
        omega
      refine ⟨(i + 1, o), [some 4], ⟨by omega, by omega⟩, ?_, rfl, ?_, ?_⟩
      · show ps.length - (i + 1) < ps.length - i; omega
      · simp only [rs_specPir, idx_no (P := inR a b c d) (ps := ps) (i := i) (by omega) hP]
      · repeat' (first | exact True.intro | exact rfl | exact fun _ => rfl | refine And.intro ?_ ?_)
  · refine ⟨rfl, [some 4], ?_⟩
    simp only [rs_specPir, idx_end (P := inR a b c d) (ps := ps) (i := i) (by omega), List.append_nil]
    repeat' (first | exact True.intro | exact rfl | exact fun _ => rfl | refine And.intro ?_ ?_)
set_option maxRecDepth 100000 in
theorem lg_specPir : LoopE Try.prog e_specPir c_specPir := by
  intro s k t F H hlt ht
  unfold e_specPir at hlt
  split at hlt
  rotate_left
  · cases hlt
  rename_i hlen hpick hmem
  obtain ⟨tmps, mem⟩ := s
  simp only at hlen hpick hmem
  subst hmem
  obtain rfl := Option.some.inj hlt
  obtain ⟨⟨rfl, rfl, h1, h3, _⟩, ht2⟩ := needs_ok ht
  clear ht hlt
  obtain ⟨ps, rfl, rfl⟩ := even_flat h1
  rw [ptsA_flat] at ht2
  refine ⟨_, _, ht2, loop_run2 mixed EP0_ok (s_specPir ps _ _ _ _) (inv_specPir ps _ _ _ _) (me_specPir ps _ _ _ _) re_specPir (rs_specPir ps _ _ _ _) k_specPir (fun _ => rfl) (noLoops nl_specPir) (round_specPir ps _ _ _ _ h3) (x := (0, [])) ⟨Nat.zero_le _, Nat.le_refl _⟩ (π := [some 3]) rfl ?_⟩
  refine ⟨rfl, rfl, ?_, wvs_spread' [0, 3, 5, 6] hlen rfl ?_⟩
  · repeat' (first | exact True.intro | exact rfl | exact wv_top _ _ | exact fun _ => rfl | assumption | exact Eq.symm (by assumption) | exact vI0 rfl | refine And.intro ?_ ?_)
  · rw [hpick]
    repeat' (first | exact True.intro | exact rfl | exact wv_top _ _ | exact fun _ => rfl | assumption | exact Eq.symm (by assumption) | exact vI0 rfl | refine And.intro ?_ ?_)
set_option maxRecDepth 100000 in
theorem round_implPir (ps : List Pt) (a b c d : Int) (h : ps.length ≤ 20) : Round_implPir ps a b c d := by
  rintro ⟨i, o⟩ ⟨h1, h2⟩
  rw [tr_implPir]
  simp only [brT_ok, Tree.ok, decide_eq_true_eq, decide_eq_false_iff_not, Int.toNat_natCast, Nat.zero_add, flat_length, flat_get0, flat_get1, take_all1]
  refine ⟨fun hlt => ?_, fun hge => ?_⟩
  · rw [wsucc (n := ps.length) (by omega) (by omega)]
    refine ⟨by omega, by omega, fun g1 => ⟨fun g2 => ⟨fun g3 => ⟨fun g4 => ⟨by omega, by omega, ?_⟩, fun g4 => ?_⟩, fun g3 => ?_⟩, fun g2 => ?_⟩, fun g1 => ?_⟩
    · have hP : inR a b c d (ps.getD i (0, 0)) = true := by simp only [inR, Bool.and_eq_true, decide_eq_true_eq]; omega
      refine ⟨(i + 1, o ++ [(i : Int)]), [some 12], ⟨by omega, by simp; omega⟩, ?_, rfl, ?_, ?_⟩
      · show ps.length - (i + 1) < ps.length - i; omega
      · simp only [rs_implPir, idx_yes (P := inR a b c d) (ps := ps) (i := i) (by omega) hP o]
      · repeat' (first | exact True.intro | exact rfl | exact fun _ => rfl | (simp; done) | refine And.intro ?_ ?_)
    all_goals
      have hP : inR a b c d (ps.getD i (0, 0)) = false := by
        rw [Bool.eq_false_iff]
        intro hh
        simp only [inR, Bool.and_eq_true, decide_eq_true_eq] at hh
        omega
      refine ⟨(i + 1, o), [some 3], ⟨by omega, by omega⟩, ?_, rfl, ?_, ?_⟩
      · show ps.length - (i + 1) < ps.length - i; omega
      · simp only [rs_implPir, idx_no (P := inR a b c d) (ps := ps) (i := i) (by omega) hP]
      · repeat' (first | exact True.intro | exact rfl | exact fun _ => rfl | refine And.intro ?_ ?_)
  · refine ⟨rfl, [some 3], ?_⟩
    simp only [rs_implPir, idx_end (P := inR a b c d) (ps := ps) (i := i) (by omega), List.append_nil]
    repeat' (first | exact True.intro | exact rfl | exact fun _ => rfl | refine And.intro ?_ ?_)
set_option maxRecDepth 100000 in
theorem lg_implPir : LoopE Try.prog e_implPir c_implPir := by
  intro s k t F H hlt ht
  unfold e_implPir at hlt
  split at hlt
  rotate_left
  · cases hlt
  rename_i hlen hpick hmem
  obtain ⟨tmps, mem⟩ := s
  simp only at hlen hpick hmem
  subst hmem
  obtain rfl := Option.some.inj hlt
  obtain ⟨⟨rfl, rfl, rfl, rfl, rfl, rfl, h1, h3, _⟩, ht2⟩ := needs_ok ht
  clear ht hlt
  obtain ⟨ps, rfl, rfl⟩ := even_flat h1
  rw [ptsA_flat] at ht2
  refine ⟨_, _, ht2, loop_run2 mixed EP0_ok (s_implPir ps _ _ _ _) (inv_implPir ps _ _ _ _) (me_implPir ps _ _ _ _) re_implPir (rs_implPir ps _ _ _ _) k_implPir (fun _ => rfl) (noLoops nl_implPir) (round_implPir ps _ _ _ _ h3) (x := (0, [])) ⟨Nat.zero_le _, Nat.le_refl _⟩ (π := [none]) rfl ?_⟩
  refine ⟨rfl, rfl, ?_, wvs_spread' [1, 5, 8, 9, 10] hlen rfl ?_⟩
  · repeat' (first | exact True.intro | exact rfl | exact wv_top _ _ | exact fun _ => rfl | assumption | exact Eq.symm (by assumption) | exact vI0 rfl | refine And.intro ?_ ?_)
  · rw [hpick]
    repeat' (first | exact True.intro | exact rfl | exact wv_top _ _ | exact fun _ => rfl | assumption | exact Eq.symm (by assumption) | exact vI0 rfl | refine And.intro ?_ ?_)
end Go.Proofs.Ytoijfjifaljpaab
