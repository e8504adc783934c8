/-
  Loops of the laws' own helpers that mark a row of ints or points. Written by an AI agent.
-/
import Derived.Test.YtieibbdfdepmbaaLst
import Derived.Test.YtieibbdfdepmbaaTabB
namespace Go.Proofs.Ytieibbdfdepmbaa
set_option linter.all false
open Go.RowKit

def EM : Env := mkE B0 (fun _ _ => none) (fun _ => noL)
theorem EM_ok : EnvOk Try.prog EM := mkEOk B0_ok (fun _ _ _ _ _ h => (by cases h)) (fun _ _ _ => noL_good)
/-- k, k + 1, ..: so many. -/
def marks : Int → Nat → List Int
  | _, 0 => []
  | k, n + 1 => k :: marks (k + 1) n
theorem marks_length : ∀ (n : Nat) (k : Int), (marks k n).length = n
  | 0, _ => rfl
  | n + 1, k => by simp [marks, marks_length n]
theorem marks_get : ∀ (n : Nat) (k : Int) (i : Nat), i < n → (marks k n).getD i 0 = k + i
  | 0, _, i, h => by omega
  | n + 1, k, 0, _ => by simp [marks]
  | n + 1, k, i + 1, h => by
    have := marks_get n (k + 1) i (by omega)
    simp only [marks, List.getD_eq_getElem?_getD, List.getElem?_cons_succ] at this ⊢
    rw [this]
    omega
theorem setInts_one (xs : List Int) (i : Nat) (h : i < xs.length) (a : Int) : setInts xs i [a] = xs.set i a := by
  unfold setInts
  rw [List.set_eq_take_append_cons_drop, if_pos h]
  simp
theorem vI0 {k : Int} {n : Nat} (h : n = 0) : Value.int .i64 k = .int .i64 (k + (n : Int)) := by subst h; simp
noncomputable def c_markP : Code := ((loopsOf (codeOf Try.f25))[0]?).getD .skip
def k_markP : Ex → List Nat := keeps [0, 1, 5] [(0, [1])] [4]
def s_markP (n : Nat) (k0 : Int) : Nat × (List Int) → St := fun (i, ys) => ⟨[.slice (some ⟨0, 0, none⟩) n n, .int .i64 (k0 + (i * 2 : Nat)), topV, topV, topV, .int .i64 i, topV, topV, topV, topV, topV, topV, topV, topV, topV, topV, topV, topV, topV, topV, topV, topV, topV, topV, topV, topV, topV], [some ⟨.row 32 2, .ints ys⟩]⟩
def re_markP : Nat × (List Int) → Ex := fun _ => .exit 0
def rs_markP (n : Nat) (k0 : Int) : Nat × (List Int) → St := fun (i, ys) => ⟨[topV, .int .i64 (k0 + (n * 2 : Nat)), topV, topV, topV, topV, topV, topV, topV, topV, topV, topV, topV, topV, topV, topV, topV, topV, topV, topV, topV, topV, topV, topV, topV, topV, topV], [some ⟨.row 32 2, .ints (marks k0 (n * 2))⟩]⟩
set_option maxRecDepth 100000 in
theorem tr_markP (n : Nat) (k0 : Int) (i : Nat) (ys : List Int) : bodyL Try.prog EM 30 12 noL 1 c_markP k_markP 1 (s_markP n k0 (i, ys)) = brT (decide ((↑i : Int) < (↑n : Int))) (.need ((0 : Int) ≤ (↑i : Int) ∧ (↑i : Int) < (↑n : Int)) (.need ((0 : Nat) + (↑i : Int).toNat * (2 : Nat) + (0 : Nat) + (1 : Nat) ≤ ys.length) (.need ((0 : Int) ≤ (↑i : Int) ∧ (↑i : Int) < (↑n : Int)) (.need ((0 : Nat) + (↑i : Int).toNat * (2 : Nat) + (1 : Nat) + (1 : Nat) ≤ (setInts ys ((0 : Nat) + (↑i : Int).toNat * (2 : Nat) + (0 : Nat)) [k0 + (↑(i * (2 : Nat)) : Int)]).length) (.leaf .normal ⟨[.slice (some ⟨0, 0, none⟩) (n) (n), .int .i64 (IntKind.i64.wrap (IntKind.i64.wrap (k0 + (↑(i * 2) : Int) + 1) + 1)), topV, topV, topV, .int .i64 (IntKind.i64.wrap ((↑i : Int) + 1)), topV, topV, topV, topV, topV, topV, topV, topV, topV, topV, topV, topV, topV, topV, topV, topV, topV, topV, topV, topV, topV], [some ⟨.row 32 2, .ints (setInts (setInts ys (0 + (↑i : Int).toNat * 2 + 0) [k0 + (↑(i * 2) : Int)]) (0 + (↑i : Int).toNat * 2 + 1) [IntKind.i64.wrap (k0 + (↑(i * 2) : Int) + 1)])⟩]⟩))))) (.leaf (.exit 0) ⟨[topV, .int .i64 (k0 + (↑(i * 2) : Int)), topV, topV, topV, topV, topV, topV, topV, topV, topV, topV, topV, topV, topV, topV, topV, topV, topV, topV, topV, topV, topV, topV, topV, topV, topV], [some ⟨.row 32 2, .ints (ys)⟩]⟩) := by kernel_rfl
set_option maxRecDepth 100000 in
theorem nl_markP : loopsOf c_markP = [] := by kernel_rfl
def inv_markP (n : Nat) (k0 : Int) : Nat × (List Int) → Prop := fun (i, ys) => i ≤ n ∧ ys.length = n * 2 ∧ ys.take (i * 2) = (marks k0 (n * 2)).take (i * 2)
def me_markP (n : Nat) (k0 : Int) : Nat × (List Int) → Nat := fun (i, ys) => n - i
/-- A round of this loop. -/
def Round_markP (n : Nat) (k0 : Int) : Prop := ∀ xx : Nat × (List Int), inv_markP n k0 xx → (bodyL Try.prog EM 30 12 noL 1 c_markP k_markP 1 (s_markP n k0 xx)).ok (RoundEnd 1 (s_markP n k0) (inv_markP n k0) (me_markP n k0) re_markP (rs_markP n k0) xx) (fun _ _ => False)
def e_markP (s : St) (k : Ex → St → Tree) : Option Tree := match Nat.beq s.tmps.length 27, pickL s.tmps [0, 1, 5], s.mem with
  | true, [.slice (some ⟨0, 0, none⟩) n _, .int .i64 k1, .int .i64 i], [some ⟨.row 32 2, .ints xs⟩] => some (needs [i = 0, xs.length = n * 2, n ≤ 1000000000, 0 ≤ k1 ∧ k1 ≤ 1000000000] (k (.exit 0) ⟨[topV, .int .i64 (k1 + (n * 2 : Nat)), topV, topV, topV, topV, topV, topV, topV, topV, topV, topV, topV, topV, topV, topV, topV, topV, topV, topV, topV, topV, topV, topV, topV, topV, topV], [some ⟨.row 32 2, .ints (marks k1 (n * 2))⟩]⟩))
  | _, _, _ => none
theorem take_set_two {l m : List Int} {i : Nat} (hl : i * 2 + 1 < l.length) (hm : i * 2 + 1 < m.length) (h : l.take (i * 2) = m.take (i * 2)) : ((l.set (i * 2) (m.getD (i * 2) 0)).set (i * 2 + 1) (m.getD (i * 2 + 1) 0)).take ((i + 1) * 2) = m.take ((i + 1) * 2) := by
  have h1 := take_set_succ (l := l) (m := m) (i := i * 2) (by omega) (by omega) h 0
  have h2 := take_set_succ (l := l.set (i * 2) (m.getD (i * 2) 0)) (m := m) (i := i * 2 + 1) (by simp; omega) (by omega) h1 0
  rw [show (i + 1) * 2 = i * 2 + 1 + 1 by omega]
  exact h2
set_option maxRecDepth 100000 in
theorem round_markP (n : Nat) (k0 : Int) (h : n ≤ 1000000000) (hk : 0 ≤ k0 ∧ k0 ≤ 1000000000) : Round_markP n k0 := by
  rintro ⟨i, ys⟩ ⟨h1, h2, h3⟩
  rw [tr_markP]
  simp only [brT_ok, Tree.ok, decide_eq_true_eq, decide_eq_false_iff_not, Int.toNat_natCast, Nat.zero_add, Nat.add_zero]
  refine ⟨fun hlt => ?_, fun hge => ?_⟩
  · rw [wsucc (n := n) (by omega) h, setInts_one _ _ (by omega), setInts_one _ _ (by simp; omega)]
    have e0 : IntKind.i64.wrap (k0 + ((i * 2 : Nat) : Int) + 1) = k0 + ((i * 2 + 1 : Nat) : Int) := by rw [wr (by omega)]; omega
    have e : IntKind.i64.wrap (k0 + ((i * 2 + 1 : Nat) : Int) + 1) = k0 + (((i + 1) * 2 : Nat) : Int) := by rw [wr (by omega)]; omega
    rw [e0, e]
    refine ⟨by omega, by omega, by omega, by simp; omega, (i + 1, (ys.set (i * 2) (k0 + ((i * 2 : Nat) : Int))).set (i * 2 + 1) (k0 + ((i * 2 + 1 : Nat) : Int))), [], ⟨by omega, by simp [h2], ?_⟩, ?_, rfl, rfl, ?_⟩
    · have := take_set_two (l := ys) (m := marks k0 (n * 2)) (i := i) (by omega) (by rw [marks_length]; omega) h3
      rwa [marks_get _ _ _ (by omega), marks_get _ _ _ (by omega)] at this
    · show n - (i + 1) < n - i; omega
    · repeat' (first | exact True.intro | exact rfl | exact fun _ => rfl | refine And.intro ?_ ?_)
  · obtain rfl : i = n := by omega
    have e : ys = marks k0 (i * 2) := by
      rw [List.take_of_length_le (by omega), List.take_of_length_le (by rw [marks_length]; omega)] at h3
      exact h3
    subst e
    refine ⟨rfl, [], ?_⟩
    repeat' (first | exact True.intro | exact rfl | exact fun _ => rfl | refine And.intro ?_ ?_)
set_option maxRecDepth 100000 in
theorem lg_markP : LoopE Try.prog e_markP c_markP := by
  intro s k t F H hlt ht
  unfold e_markP at hlt
  split at hlt
  rotate_left
  · cases hlt
  rename_i hlen hpick hmem
  obtain ⟨tmps, mem⟩ := s
  simp only at hlen hpick hmem
  subst hmem
  obtain rfl := Option.some.inj hlt
  obtain ⟨⟨rfl, h1, h2, h3, _⟩, ht2⟩ := needs_ok ht
  clear ht hlt
  refine ⟨_, _, ht2, loop_run mixed EM_ok (s_markP _ _) (inv_markP _ _) (me_markP _ _) re_markP (rs_markP _ _) k_markP (fun _ => rfl) (noLoops nl_markP) (round_markP _ _ h2 h3) (x := (0, _)) ⟨Nat.zero_le _, h1, rfl⟩ (π := []) rfl ?_⟩
  refine ⟨rfl, rfl, ?_, wvs_spread' [0, 1, 5] hlen rfl ?_⟩
  · repeat' (first | exact True.intro | exact rfl | exact wv_top _ _ | exact fun _ => rfl | assumption | exact Eq.symm (by assumption) | exact vI0 rfl | refine And.intro ?_ ?_)
  · rw [hpick]
    repeat' (first | exact True.intro | exact rfl | exact wv_top _ _ | exact fun _ => rfl | assumption | exact Eq.symm (by assumption) | exact vI0 rfl | refine And.intro ?_ ?_)
noncomputable def c_heldP : Code := ((loopsOf (codeOf Try.f26))[0]?).getD .skip
def k_heldP : Ex → List Nat := keeps [0, 1, 5] [(0, [1])] [4]
def s_heldP (n : Nat) (k0 : Int) : Nat → St := fun i => ⟨(.slice (some ⟨0, 0, none⟩) n n :: .int .i64 (k0 + (i * 2 : Nat)) :: topV :: topV :: topV :: .int .i64 i :: topV :: topV :: topV :: topV :: topV :: topV :: topV :: topV :: topV :: topV :: topV :: topV :: topV :: topV :: topV :: topV :: topV :: topV :: topV :: topV :: topV :: topV :: topV :: topV :: topV :: []), [some ⟨.view, .ints (marks k0 (n * 2))⟩, none]⟩
def re_heldP : Nat → Ex := fun _ => .exit 0
def rs_heldP (n : Nat) (k0 : Int) : Nat → St := fun i => ⟨(topV :: .int .i64 (k0 + (n * 2 : Nat)) :: topV :: topV :: topV :: topV :: topV :: topV :: topV :: topV :: topV :: topV :: topV :: topV :: topV :: topV :: topV :: topV :: topV :: topV :: topV :: topV :: topV :: topV :: topV :: topV :: topV :: topV :: topV :: topV :: topV :: []), [some ⟨.view, .ints (marks k0 (n * 2))⟩, none]⟩
set_option maxRecDepth 100000 in
theorem tr_heldP (n : Nat) (k0 : Int) (i : Nat) : bodyL Try.prog EM 30 12 noL 1 c_heldP k_heldP 2 (s_heldP n k0 i) = brT (decide ((↑i : Int) < (↑n : Int))) (.need ((0 : Int) ≤ (↑i : Int) ∧ (↑i : Int) < (↑n : Int)) (.need ((0 : Nat) + (↑i : Int).toNat * (2 : Nat) + (0 : Nat) < (marks k0 (n * (2 : Nat))).length) (brT (!(marks k0 (n * 2)).getD (0 + (↑i : Int).toNat * 2 + 0) 0 == k0 + (↑(i * 2) : Int)) (.leaf .ret ⟨(topV :: topV :: topV :: topV :: .int .i64 (-1) :: topV :: topV :: topV :: topV :: topV :: topV :: topV :: topV :: topV :: topV :: topV :: topV :: topV :: topV :: topV :: topV :: topV :: topV :: topV :: topV :: topV :: topV :: topV :: topV :: topV :: topV :: []), [some ⟨.view, .ints (marks k0 (n * 2))⟩, none]⟩) (.need ((0 : Int) ≤ (↑i : Int) ∧ (↑i : Int) < (↑n : Int)) (.need ((0 : Nat) + (↑i : Int).toNat * (2 : Nat) + (1 : Nat) < (marks k0 (n * (2 : Nat))).length) (brT (!(marks k0 (n * 2)).getD (0 + (↑i : Int).toNat * 2 + 1) 0 == IntKind.i64.wrap (k0 + (↑(i * 2) : Int) + 1)) (.leaf .ret ⟨(topV :: topV :: topV :: topV :: .int .i64 (-1) :: topV :: topV :: topV :: topV :: topV :: topV :: topV :: topV :: topV :: topV :: topV :: topV :: topV :: topV :: topV :: topV :: topV :: topV :: topV :: topV :: topV :: topV :: topV :: topV :: topV :: topV :: []), [some ⟨.view, .ints (marks k0 (n * 2))⟩, none]⟩) (.leaf .normal ⟨(.slice (some ⟨0, 0, none⟩) (n) (n) :: .int .i64 (IntKind.i64.wrap (IntKind.i64.wrap (k0 + (↑(i * 2) : Int) + 1) + 1)) :: topV :: topV :: topV :: .int .i64 (IntKind.i64.wrap ((↑i : Int) + 1)) :: topV :: topV :: topV :: topV :: topV :: topV :: topV :: topV :: topV :: topV :: topV :: topV :: topV :: topV :: topV :: topV :: topV :: topV :: topV :: topV :: topV :: topV :: topV :: topV :: topV :: []), [some ⟨.view, .ints (marks k0 (n * 2))⟩, none]⟩))))))) (.leaf (.exit 0) ⟨(topV :: .int .i64 (k0 + (↑(i * 2) : Int)) :: topV :: topV :: topV :: topV :: topV :: topV :: topV :: topV :: topV :: topV :: topV :: topV :: topV :: topV :: topV :: topV :: topV :: topV :: topV :: topV :: topV :: topV :: topV :: topV :: topV :: topV :: topV :: topV :: topV :: []), [some ⟨.view, .ints (marks k0 (n * 2))⟩, none]⟩) := by kernel_rfl
set_option maxRecDepth 100000 in
theorem nl_heldP : loopsOf c_heldP = [] := by kernel_rfl
def inv_heldP (n : Nat) (k0 : Int) : Nat → Prop := fun i => i ≤ n
def me_heldP (n : Nat) (k0 : Int) : Nat → Nat := fun i => n - i
/-- A round of this loop. -/
def Round_heldP (n : Nat) (k0 : Int) : Prop := ∀ xx : Nat, inv_heldP n k0 xx → (bodyL Try.prog EM 30 12 noL 1 c_heldP k_heldP 2 (s_heldP n k0 xx)).ok (RoundEnd 2 (s_heldP n k0) (inv_heldP n k0) (me_heldP n k0) re_heldP (rs_heldP n k0) xx) (fun _ _ => False)
def e_heldP (s : St) (k : Ex → St → Tree) : Option Tree := match Nat.beq s.tmps.length 31, pickL s.tmps [0, 1, 5], s.mem with
  | true, [.slice (some ⟨0, 0, none⟩) n _, .int .i64 k1, .int .i64 i], [some ⟨.view, .ints xs⟩, none] => some (needs [i = 0, xs = marks k1 (n * 2), n ≤ 1000000000, 0 ≤ k1 ∧ k1 ≤ 1000000000] (k (.exit 0) ⟨(topV :: .int .i64 (k1 + (n * 2 : Nat)) :: topV :: topV :: topV :: topV :: topV :: topV :: topV :: topV :: topV :: topV :: topV :: topV :: topV :: topV :: topV :: topV :: topV :: topV :: topV :: topV :: topV :: topV :: topV :: topV :: topV :: topV :: topV :: topV :: topV :: []), [some ⟨.view, .ints (marks k1 (n * 2))⟩, none]⟩))
  | _, _, _ => none
set_option maxRecDepth 100000 in
theorem round_heldP (n : Nat) (k0 : Int) (h : n ≤ 1000000000) (hk : 0 ≤ k0 ∧ k0 ≤ 1000000000) : Round_heldP n k0 := by
  intro i h1
  have h1 : i ≤ n := h1
  rw [tr_heldP]
  simp only [brT_ok, Tree.ok, decide_eq_true_eq, decide_eq_false_iff_not, Int.toNat_natCast, Nat.zero_add, Nat.add_zero, Bool.not_eq_true', Bool.not_eq_false', beq_iff_eq, beq_eq_false_iff_ne]
  refine ⟨fun hlt => ?_, fun hge => ?_⟩
  · rw [marks_get _ _ _ (by omega), marks_get _ _ _ (by omega), wsucc (n := n) (by omega) h]
    have e0 : IntKind.i64.wrap (k0 + ((i * 2 : Nat) : Int) + 1) = k0 + ((i * 2 + 1 : Nat) : Int) := by rw [wr (by omega)]; omega
    have e : IntKind.i64.wrap (k0 + ((i * 2 + 1 : Nat) : Int) + 1) = k0 + (((i + 1) * 2 : Nat) : Int) := by rw [wr (by omega)]; omega
    simp only [marks_length, e0, e]
    refine ⟨by omega, by omega, fun hc => absurd rfl hc, fun _ => ⟨by omega, by omega, fun hc => absurd rfl hc, fun _ => ⟨i + 1, [], ?_, ?_, rfl, rfl, ?_⟩⟩⟩
    · show i + 1 ≤ n; omega
    · show n - (i + 1) < n - i; omega
    · repeat' (first | exact True.intro | exact rfl | exact fun _ => rfl | refine And.intro ?_ ?_)
  · obtain rfl : i = n := by omega
    refine ⟨rfl, [], ?_⟩
    repeat' (first | exact True.intro | exact rfl | exact fun _ => rfl | refine And.intro ?_ ?_)
set_option maxRecDepth 100000 in
theorem lg_heldP : LoopE Try.prog e_heldP c_heldP := by
  intro s k t F H hlt ht
  unfold e_heldP at hlt
  split at hlt
  rotate_left
  · cases hlt
  rename_i hlen hpick hmem
  obtain ⟨tmps, mem⟩ := s
  simp only at hlen hpick hmem
  subst hmem
  obtain rfl := Option.some.inj hlt
  obtain ⟨⟨rfl, rfl, h2, h3, _⟩, ht2⟩ := needs_ok ht
  clear ht hlt
  refine ⟨_, _, ht2, loop_run mixed EM_ok (s_heldP _ _) (inv_heldP _ _) (me_heldP _ _) re_heldP (rs_heldP _ _) k_heldP (fun _ => rfl) (noLoops nl_heldP) (round_heldP _ _ h2 h3) (x := 0) (Nat.zero_le _) (π := []) rfl ?_⟩
  refine ⟨rfl, rfl, ?_, wvs_spread' [0, 1, 5] hlen rfl ?_⟩
  · repeat' (first | exact True.intro | exact rfl | exact wv_top _ _ | exact fun _ => rfl | assumption | exact Eq.symm (by assumption) | exact vI0 rfl | refine And.intro ?_ ?_)
  · rw [hpick]
    repeat' (first | exact True.intro | exact rfl | exact wv_top _ _ | exact fun _ => rfl | assumption | exact Eq.symm (by assumption) | exact vI0 rfl | refine And.intro ?_ ?_)
end Go.Proofs.Ytieibbdfdepmbaa
