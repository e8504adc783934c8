/-
  FnExactDiameter: Diameter answers as its model at every list, writes into nothing of its argument.
  No conditions: every argument, every world, every order that the model lets a run take. Written by an AI agent.
-/
import Derived.Orders
import Derived.Below
import Derived.OrdersIn
import Derived.Deep.LoopGhost
import Derived.WalkKit
import Derived.Laws.CopyRow
import Derived.Laws.AppendOwn
import Derived.Laws.Slices
import Derived.Laws.MakeOwn
import Derived.Test.YtnjmepbblcfnfaaRows
import Derived.ProofKit
import Derived.OpenShut
import Derived.Carry
import Derived.IntWalk
import Derived.Test.YtnjmepbblcfnfaaProg
import Derived.WalkSpells
import Derived.WalkLawsBesides
import Derived.Lib.Hide
import Derived.Deep.QuietTactic
import Derived.BigQuiet
import Derived.KernelRfl
import Derived.Deep.RegionHeld3
import Derived.LoopTactic
import Derived.Laws.StructEq
import Derived.Laws.Tables
import Derived.RangeFuncNested
import Derived.RangeFuncLeaves
import Derived.Deep.Slices
import Derived.Deep.Fields
import Derived.ChangeSame
import Derived.Test.YtnjmepbblcfnfaaZExactDiameter1
namespace Go.Proofs.Ytnjmepbblcfnfaa
set_option linter.all false
open Go.RowKit
/-- The pairs of a row from k on. -/
def prK (n i k : Nat) : List Pt := prR i (n - k) k
theorem prK_step {n i k : Nat} (h : k < n) (o : List Pt) : o ++ prK n i k = (o ++ [((i : Int), (k : Int))]) ++ prK n i (k + 1) := by
  unfold prK
  rw [show n - k = (n - (k + 1)) + 1 by omega, prR_step]
  simp
theorem prK_end {n i k : Nat} (h : n ≤ k) : prK n i k = [] := by
  unfold prK
  rw [show n - k = 0 by omega]
  rfl
/-- The rows of pairs from i on. -/
def prI (n i : Nat) : List Pt := prA n (n - i) i
theorem prI_step {n i : Nat} (h : i < n) (o : List Pt) : o ++ prI n i = (o ++ prK n i i) ++ prI n (i + 1) := by
  unfold prI
  rw [show n - i = (n - (i + 1)) + 1 by omega, prA_step]
  unfold prK
  simp
theorem prI_end {n i : Nat} (h : n ≤ i) : prI n i = [] := by
  unfold prI
  rw [show n - i = 0 by omega]
  rfl
theorem prK_len (n i k : Nat) : (prK n i k).length = n - k := prR_len ..
noncomputable def c_pwi : Code := ((loopsOf (codeOf Try.f86))[1]?).getD .skip
def k_pwi : Ex → List Nat := keeps [0, 3, 4, 5, 6, 7] [(2, [0, 3, 6, 7]), (1, [0, 3, 6, 7]), (0, [3])] [2]
def s_pwi (n i : Nat) : Nat × (List Pt) → St := fun (k, o) => ⟨[.int .i64 n, topV, topV, .slice (some ⟨2, 0, none⟩) o.length o.length, .int .i64 i, .int .i64 k, .int .i64 n, .int .i64 i, topV, topV, topV, topV, topV, topV, topV, topV, topV, topV, topV, topV, topV, topV, topV, topV], [none, some ⟨.dead, .vals []⟩, some ⟨.row 88 2, .ints (flat o)⟩]⟩
def re_pwi : Nat × (List Pt) → Ex := fun _ => .exit 2
def rs_pwi (n i : Nat) : Nat × (List Pt) → St := fun (k, o) => ⟨[.int .i64 n, topV, topV, .slice (some ⟨2, 0, none⟩) (o ++ prK n i k).length (o ++ prK n i k).length, topV, topV, .int .i64 n, .int .i64 i, topV, topV, topV, topV, topV, topV, topV, topV, topV, topV, topV, topV, topV, topV, topV, topV], [none, some ⟨.dead, .vals []⟩, some ⟨.row 88 2, .ints (flat (o ++ prK n i k))⟩]⟩
set_option maxRecDepth 100000 in
theorem tr_pwi (n i : Nat) (k : Nat) (o : List Pt) : bodyL Try.prog E3 30 12 noL 2 c_pwi k_pwi 12 (s_pwi n i (k, o)) = brT (decide ((↑k : Int) < (↑n : Int))) (.need ((o.length + (1 : Nat)) * (16 : Nat) ≤ (140737488355328 : Nat) ∧ o.length + (1 : Nat) ≤ (1000000 : Nat)) (.need ((0 : Nat) + o.length * (2 : Nat) ≤ (flat o).length) (.leaf .normal ⟨[.int .i64 ((↑n : Int)), topV, topV, .slice (some ⟨4, 0, none⟩) (o.length + 1) (o.length + 1), .int .i64 ((↑i : Int)), .int .i64 (IntKind.i64.wrap ((↑k : Int) + 1)), .int .i64 ((↑n : Int)), .int .i64 ((↑i : Int)), topV, topV, topV, topV, topV, topV, topV, topV, topV, topV, topV, topV, topV, topV, topV, topV], [none, some deadB, some deadB, some ⟨.row 88 2, .vals [.int .i64 ((↑i : Int)), .int .i64 ((↑k : Int))]⟩, some ⟨.row 88 2, .ints (List.take (o.length * 2) (List.drop 0 (flat o)) ++ [(↑i : Int), (↑k : Int)])⟩]⟩))) (.leaf (.exit 2) ⟨[.int .i64 ((↑n : Int)), topV, topV, .slice (some ⟨2, 0, none⟩) (o.length) (o.length), topV, topV, .int .i64 ((↑n : Int)), .int .i64 ((↑i : Int)), topV, topV, topV, topV, topV, topV, topV, topV, topV, topV, topV, topV, topV, topV, topV, topV], [none, some deadB, some ⟨.row 88 2, .ints (flat o)⟩]⟩) := by kernel_rfl
set_option maxRecDepth 100000 in
theorem nl_pwi : loopsOf c_pwi = [] := by kernel_rfl
def inv_pwi (n i : Nat) : Nat × (List Pt) → Prop := fun (k, o) => k ≤ n ∧ o.length + (n - k) ≤ 1000
def me_pwi (n i : Nat) : Nat × (List Pt) → Nat := fun (k, o) => n - k
/-- A round of this loop. -/
def Round_pwi (n i : Nat) : Prop := ∀ xx : Nat × (List Pt), inv_pwi n i xx → (bodyL Try.prog E3 30 12 noL 2 c_pwi k_pwi 12 (s_pwi n i xx)).ok (RoundEnd 2 (s_pwi n i) (inv_pwi n i) (me_pwi n i) re_pwi (rs_pwi n i) xx) (fun _ _ => False)
def e_pwi (s : St) (k : Ex → St → Tree) : Option Tree := match Nat.beq s.tmps.length 24, pickL s.tmps [0, 3, 4, 5, 6, 7], s.mem with
  | true, [.int .i64 n1, .slice (some ⟨1, 0, none⟩) z _, .int .i64 i1, .int .i64 k1, .int .i64 n2, .int .i64 i2], [none, some ⟨.row 88 2, .ints xs⟩] => some (needs [n2 = n1, i2 = i1, k1 = i1, xs.length = z * 2, z ≤ 500, 0 ≤ i1 ∧ i1 < n1 ∧ n1 ≤ 20] (k (.exit 2) ⟨[.int .i64 n1, topV, topV, .slice (some ⟨2, 0, none⟩) (ptsA z xs ++ prK n1.toNat i1.toNat i1.toNat).length (ptsA z xs ++ prK n1.toNat i1.toNat i1.toNat).length, topV, topV, .int .i64 n1, .int .i64 i1, topV, topV, topV, topV, topV, topV, topV, topV, topV, topV, topV, topV, topV, topV, topV, topV], [none, some ⟨.dead, .vals []⟩, some ⟨.row 88 2, .ints (flat (ptsA z xs ++ prK n1.toNat i1.toNat i1.toNat))⟩]⟩))
  | _, _, _ => none
theorem flatB (o : List Pt) : List.take (o.length * 2) (List.drop 0 (flat o)) = flat o := by rw [List.drop_zero, flat_all]
set_option maxRecDepth 100000 in
theorem round_pwi (n i : Nat) (h : n ≤ 20) : Round_pwi n i := by
  rintro ⟨k, o⟩ ⟨h1, h2⟩
  rw [tr_pwi]
  simp only [brT_ok, Tree.ok, decide_eq_true_eq, decide_eq_false_iff_not, flatB, flat_length, Nat.zero_add]
  refine ⟨fun hlt => ?_, fun hge => ?_⟩
  · rw [wsucc (n := n) (by omega) (by omega), flat_snoc]
    refine ⟨by omega, by omega, (k + 1, o ++ [((i : Int), (k : Int))]), [some 4], ⟨by omega, by simp; omega⟩, ?_, rfl, ?_, ?_⟩
    · show n - (k + 1) < n - k; omega
    · simp only [rs_pwi, prK_step (n := n) (i := i) (k := k) (by omega) o]
    · repeat' (first | exact True.intro | exact rfl | exact fun _ => rfl | (simp; done) | refine And.intro ?_ ?_)
  · refine ⟨rfl, [some 2], ?_⟩
    simp only [rs_pwi, prK_end (n := n) (i := i) (k := k) (by omega), List.append_nil]
    repeat' (first | exact True.intro | exact rfl | exact fun _ => rfl | (simp; done) | refine And.intro ?_ ?_)
set_option maxRecDepth 100000 in
theorem lg_pwi : LoopE Try.prog e_pwi c_pwi := by
  intro s k t F H hlt ht
  unfold e_pwi at hlt
  split at hlt
  rotate_left
  · cases hlt
  rename_i hlen hpick hmem
  obtain ⟨tmps, mem⟩ := s
  simp only at hlen hpick hmem
  subst hmem
  obtain rfl := Option.some.inj hlt
  obtain ⟨⟨rfl, rfl, rfl, h1, h2, h3, _⟩, ht2⟩ := needs_ok ht
  clear ht hlt
  obtain ⟨o, rfl, rfl⟩ := even_flat h1
  obtain ⟨i, rfl⟩ := Int.eq_ofNat_of_zero_le h3.1
  obtain ⟨n, rfl⟩ := Int.eq_ofNat_of_zero_le (Int.le_trans h3.1 (Int.le_of_lt h3.2.1))
  rw [ptsA_flat] at ht2
  simp only [Int.toNat_natCast] at ht2
  refine ⟨_, _, ht2, loop_run2 mixed E3_ok (s_pwi n i) (inv_pwi n i) (me_pwi n i) re_pwi (rs_pwi n i) k_pwi (fun _ => rfl) (noLoops nl_pwi) (round_pwi n i (by omega)) (x := (i, o)) ⟨by omega, by omega⟩ (π := [some 1]) rfl ?_⟩
  refine ⟨rfl, rfl, ?_, wvs_spread' [0, 3, 4, 5, 6, 7] hlen rfl ?_⟩
  · repeat' (first | exact True.intro | exact rfl | exact wv_top _ _ | exact fun _ => rfl | assumption | exact Eq.symm (by assumption) | exact vI0 rfl | refine And.intro ?_ ?_)
  · rw [hpick]
    repeat' (first | exact True.intro | exact rfl | exact wv_top _ _ | exact fun _ => rfl | assumption | exact Eq.symm (by assumption) | exact vI0 rfl | refine And.intro ?_ ?_)
def ltPw : LT := fun j s k => match j with
  | 1 => e_pwi s k
  | _ => none
noncomputable def c_pwo : Code := ((loopsOf (codeOf Try.f86))[0]?).getD .skip
def k_pwo : Ex → List Nat := keeps [0, 3, 6, 7] [(0, [3])] [2]
def s_pwo (n : Nat) : Nat × (List Pt) → St := fun (i, o) => ⟨[.int .i64 n, topV, topV, .slice (some ⟨1, 0, none⟩) o.length o.length, topV, topV, .int .i64 n, .int .i64 i, topV, topV, topV, topV, topV, topV, topV, topV, topV, topV, topV, topV, topV, topV, topV, topV], [none, some ⟨.row 88 2, .ints (flat o)⟩]⟩
def re_pwo : Nat × (List Pt) → Ex := fun _ => .exit 0
def rs_pwo (n : Nat) : Nat × (List Pt) → St := fun (i, o) => ⟨[topV, topV, topV, .slice (some ⟨1, 0, none⟩) (o ++ prI n i).length (o ++ prI n i).length, topV, topV, topV, topV, topV, topV, topV, topV, topV, topV, topV, topV, topV, topV, topV, topV, topV, topV, topV, topV], [none, some ⟨.row 88 2, .ints (flat (o ++ prI n i))⟩]⟩
set_option maxRecDepth 100000 in
theorem tr_pwo (n : Nat) (i : Nat) (o : List Pt) : bodyL Try.prog E3 30 12 ltPw 1 c_pwo k_pwo 12 (s_pwo n (i, o)) = brT (decide ((↑i : Int) < (↑n : Int))) (.need ((↑n : Int) = (↑n : Int)) (.need ((↑i : Int) = (↑i : Int)) (.need ((↑i : Int) = (↑i : Int)) (.need ((flat o).length = o.length * (2 : Nat)) (.need (o.length ≤ (500 : Nat)) (.need ((0 : Int) ≤ (↑i : Int) ∧ (↑i : Int) < (↑n : Int) ∧ (↑n : Int) ≤ (20 : Int)) (.leaf .normal ⟨[.int .i64 ((↑n : Int)), topV, topV, .slice (some ⟨2, 0, none⟩) ((ptsA o.length (flat o) ++ prK (↑n : Int).toNat (↑i : Int).toNat (↑i : Int).toNat).length) ((ptsA o.length (flat o) ++ prK (↑n : Int).toNat (↑i : Int).toNat (↑i : Int).toNat).length), topV, topV, .int .i64 ((↑n : Int)), .int .i64 (IntKind.i64.wrap ((↑i : Int) + 1)), topV, topV, topV, topV, topV, topV, topV, topV, topV, topV, topV, topV, topV, topV, topV, topV], [none, some deadB, some ⟨.row 88 2, .ints (flat (ptsA o.length (flat o) ++ prK (↑n : Int).toNat (↑i : Int).toNat (↑i : Int).toNat))⟩]⟩))))))) (.leaf (.exit 0) ⟨[topV, topV, topV, .slice (some ⟨1, 0, none⟩) (o.length) (o.length), topV, topV, topV, topV, topV, topV, topV, topV, topV, topV, topV, topV, topV, topV, topV, topV, topV, topV, topV, topV], [none, some ⟨.row 88 2, .ints (flat o)⟩]⟩) := by kernel_rfl
def inv_pwo (n : Nat) : Nat × (List Pt) → Prop := fun (i, o) => i ≤ n ∧ o.length ≤ 20 * i
def me_pwo (n : Nat) : Nat × (List Pt) → Nat := fun (i, o) => n - i
/-- A round of this loop. -/
def Round_pwo (n : Nat) : Prop := ∀ xx : Nat × (List Pt), inv_pwo n xx → (bodyL Try.prog E3 30 12 ltPw 1 c_pwo k_pwo 12 (s_pwo n xx)).ok (RoundEnd 1 (s_pwo n) (inv_pwo n) (me_pwo n) re_pwo (rs_pwo n) xx) (fun _ _ => False)
def e_pwo (s : St) (k : Ex → St → Tree) : Option Tree := match Nat.beq s.tmps.length 24, pickL s.tmps [0, 3, 6, 7], s.mem with
  | true, [.int .i64 n1, .slice none 0 0, .int .i64 n2, .int .i64 i1], [none] => some (needs [n2 = n1, i1 = 0, 0 ≤ n1 ∧ n1 ≤ 20] (k (.exit 0) ⟨[topV, topV, topV, .slice (some ⟨1, 0, none⟩) (prI n1.toNat 0).length (prI n1.toNat 0).length, topV, topV, topV, topV, topV, topV, topV, topV, topV, topV, topV, topV, topV, topV, topV, topV, topV, topV, topV, topV], [none, some ⟨.row 88 2, .ints (flat (prI n1.toNat 0))⟩]⟩))
  | _, _, _ => none
set_option maxRecDepth 100000 in
theorem in_pwo : loopsOf c_pwo = [c_pwi] := by kernel_rfl
theorem ltPw_good : LoopsGood Try.prog ltPw 1 c_pwo := by
  intro i d hd s k t F H hlt ht
  rw [in_pwo] at hd
  cases i with
  | zero =>
    obtain rfl : c_pwi = d := by simpa using hd
    exact lg_pwi s k t F H hlt ht
  | succ i => simp at hd
set_option maxRecDepth 100000 in
theorem round_pwo (n : Nat) (h : n ≤ 20) : Round_pwo n := by
  rintro ⟨i, o⟩ ⟨h1, h2⟩
  rw [tr_pwo]
  simp only [brT_ok, Tree.ok, decide_eq_true_eq, decide_eq_false_iff_not, Int.toNat_natCast, Nat.zero_add, flat_length, ptsA_flat]
  refine ⟨fun hlt => ?_, fun hge => ?_⟩
  · rw [wsucc (n := n) (by omega) (by omega)]
    have e := prI_step (n := n) (i := i) (by omega) o
    have hk := prK_len n i i
    refine ⟨trivial, trivial, trivial, trivial, by omega, ⟨by omega, by omega, by omega⟩, (i + 1, o ++ prK n i i), [some 2], ⟨by omega, by simp [hk]; omega⟩, ?_, rfl, ?_, ?_⟩
    · show n - (i + 1) < n - i; omega
    · simp only [rs_pwo, e]
    · repeat' (first | exact True.intro | exact rfl | exact fun _ => rfl | (simp; done) | refine And.intro ?_ ?_)
  · refine ⟨rfl, [some 1], ?_⟩
    simp only [rs_pwo, prI_end (n := n) (i := i) (by omega), List.append_nil]
    repeat' (first | exact True.intro | exact rfl | exact fun _ => rfl | (simp; done) | refine And.intro ?_ ?_)
set_option maxRecDepth 100000 in
theorem lg_pwo : LoopE Try.prog e_pwo c_pwo := by
  intro s k t F H hlt ht
  unfold e_pwo at hlt
  split at hlt
  rotate_left
  · cases hlt
  rename_i hlen hpick hmem
  obtain ⟨tmps, mem⟩ := s
  simp only at hlen hpick hmem
  subst hmem
  obtain rfl := Option.some.inj hlt
  obtain ⟨⟨rfl, rfl, h1, _⟩, ht2⟩ := needs_ok ht
  clear ht hlt
  obtain ⟨n, rfl⟩ := Int.eq_ofNat_of_zero_le h1.1
  simp only [Int.toNat_natCast] at ht2
  refine ⟨_, _, ht2, loop_run2 mixed E3_ok (s_pwo n) (inv_pwo n) (me_pwo n) re_pwo (rs_pwo n) k_pwo (fun _ => rfl) ltPw_good (round_pwo n (by omega)) (x := (0, [])) ⟨Nat.zero_le _, Nat.le_refl _⟩ (π := [none]) rfl ?_⟩
  refine ⟨rfl, rfl, ?_, wvs_spread' [0, 3, 6, 7] hlen rfl ?_⟩
  · repeat' (first | exact True.intro | exact rfl | exact wv_top _ _ | exact fun _ => rfl | assumption | exact Eq.symm (by assumption) | exact vI0 rfl | refine And.intro ?_ ?_)
  · rw [hpick]
    repeat' (first | exact True.intro | exact rfl | exact wv_top _ _ | exact fun _ => rfl | assumption | exact Eq.symm (by assumption) | exact vI0 rfl | refine And.intro ?_ ?_)
theorem Lr_pwo {fn : Func} (hf : Try.prog.funcs[86]? = some fn) : LoopsGood Try.prog (lt1 e_pwo) 0 (codeOf fn) := by
  obtain rfl := fn_is Try.func86 hf
  exact lt1_good lg_pwo
/-- The best of a row. -/
def bsK (ps : List Pt) (i k : Nat) (q : Pt) : Pt := (prK ps.length i k).foldl (mxS (dmV ps)) q
def inI (n : Nat) (q : Pt) : Prop := 0 ≤ q.1 ∧ q.1 < n ∧ 0 ≤ q.2 ∧ q.2 < n
theorem bsK_step {ps : List Pt} {i k : Nat} (h : k < ps.length) (q : Pt) : bsK ps i k q = bsK ps i (k + 1) (mxS (dmV ps) q ((i : Int), (k : Int))) := by
  have := prK_step (i := i) h []
  simp only [List.nil_append] at this
  unfold bsK
  rw [this]
  rfl
theorem bsK_end {ps : List Pt} {i k : Nat} (h : ps.length ≤ k) (q : Pt) : bsK ps i k q = q := by
  unfold bsK
  rw [prK_end h]
  rfl
theorem bsK_in {ps : List Pt} {i k : Nat} {q : Pt} (hi : i < ps.length) (h : inI ps.length q) : inI ps.length (bsK ps i k q) := by
  unfold bsK prK
  rcases (fold_mx (dmV ps) (prR i (ps.length - k) k) q).2.2 with e | e
  · rw [e]; exact h
  · have e := prR_mem.1 e
    unfold inI
    rcases Nat.le_total ps.length k with h2 | h2 <;> omega
noncomputable def c_fai : Code := ((loopsOf (codeOf Try.f82))[1]?).getD .skip
def k_fai : Ex → List Nat := keeps [0, 4, 5, 6, 7] [(2, [0, 4, 5, 6])] [2, 3]
def s_fai (ps : List Pt) (i : Nat) : Nat × Pt → St := fun (k, q) => ⟨(.slice (some ⟨0, 0, none⟩) ps.length ps.length :: topV :: topV :: topV :: .int .i64 q.1 :: .int .i64 q.2 :: .int .i64 i :: .int .i64 k :: topV :: topV :: topV :: topV :: topV :: topV :: topV :: topV :: topV :: topV :: topV :: topV :: topV :: topV :: topV :: topV :: topV :: topV :: topV :: topV :: topV :: topV :: topV :: topV :: topV :: topV :: topV :: topV :: topV :: topV :: topV :: topV :: topV :: topV :: topV :: topV :: topV :: []), [some ⟨.view, .ints (flat ps)⟩]⟩
def re_fai : Nat × Pt → Ex := fun _ => .exit 2
def rs_fai (ps : List Pt) (i : Nat) : Nat × Pt → St := fun (k, q) => ⟨(.slice (some ⟨0, 0, none⟩) ps.length ps.length :: topV :: topV :: topV :: .int .i64 (bsK ps i k q).1 :: .int .i64 (bsK ps i k q).2 :: .int .i64 i :: topV :: topV :: topV :: topV :: topV :: topV :: topV :: topV :: topV :: topV :: topV :: topV :: topV :: topV :: topV :: topV :: topV :: topV :: topV :: topV :: topV :: topV :: topV :: topV :: topV :: topV :: topV :: topV :: topV :: topV :: topV :: topV :: topV :: topV :: topV :: topV :: topV :: topV :: []), [some ⟨.view, .ints (flat ps)⟩]⟩
set_option maxRecDepth 100000 in
theorem tr_fai (ps : List Pt) (i : Nat) (k : Nat) (q : Pt) : bodyL Try.prog E3 30 12 noL 2 c_fai k_fai 1 (s_fai ps i (k, q)) = brT (decide ((↑k : Int) < (↑ps.length : Int))) (.need ((0 : Int) ≤ (↑i : Int) ∧ (↑i : Int) < (↑ps.length : Int)) (.need ((0 : Nat) + (↑i : Int).toNat * (2 : Nat) + (2 : Nat) ≤ (flat ps).length) (.need ((0 : Int) ≤ (↑k : Int) ∧ (↑k : Int) < (↑ps.length : Int)) (.need ((0 : Nat) + (↑k : Int).toNat * (2 : Nat) + (2 : Nat) ≤ (flat ps).length) (.need ((0 : Int) ≤ q.1 ∧ q.1 < (↑ps.length : Int)) (.need ((0 : Nat) + q.1.toNat * (2 : Nat) + (2 : Nat) ≤ (flat ps).length) (.need ((0 : Int) ≤ q.2 ∧ q.2 < (↑ps.length : Int)) (.need ((0 : Nat) + q.2.toNat * (2 : Nat) + (2 : Nat) ≤ (flat ps).length) (brT (decide (IntKind.i64.wrap (IntKind.i64.wrap (IntKind.i64.wrap ((flat ps).getD (0 + q.1.toNat * 2) 0 - (flat ps).getD (0 + q.2.toNat * 2) 0) * IntKind.i64.wrap ((flat ps).getD (0 + q.1.toNat * 2) 0 - (flat ps).getD (0 + q.2.toNat * 2) 0)) + IntKind.i64.wrap (IntKind.i64.wrap ((flat ps).getD (0 + q.1.toNat * 2 + 1) 0 - (flat ps).getD (0 + q.2.toNat * 2 + 1) 0) * IntKind.i64.wrap ((flat ps).getD (0 + q.1.toNat * 2 + 1) 0 - (flat ps).getD (0 + q.2.toNat * 2 + 1) 0))) < IntKind.i64.wrap (IntKind.i64.wrap (IntKind.i64.wrap ((flat ps).getD (0 + (↑i : Int).toNat * 2) 0 - (flat ps).getD (0 + (↑k : Int).toNat * 2) 0) * IntKind.i64.wrap ((flat ps).getD (0 + (↑i : Int).toNat * 2) 0 - (flat ps).getD (0 + (↑k : Int).toNat * 2) 0)) + IntKind.i64.wrap (IntKind.i64.wrap ((flat ps).getD (0 + (↑i : Int).toNat * 2 + 1) 0 - (flat ps).getD (0 + (↑k : Int).toNat * 2 + 1) 0) * IntKind.i64.wrap ((flat ps).getD (0 + (↑i : Int).toNat * 2 + 1) 0 - (flat ps).getD (0 + (↑k : Int).toNat * 2 + 1) 0))))) (.leaf .normal ⟨(.slice (some ⟨0, 0, none⟩) (ps.length) (ps.length) :: topV :: topV :: topV :: .int .i64 ((↑i : Int)) :: .int .i64 ((↑k : Int)) :: .int .i64 ((↑i : Int)) :: .int .i64 (IntKind.i64.wrap ((↑k : Int) + 1)) :: topV :: topV :: topV :: topV :: topV :: topV :: topV :: topV :: topV :: topV :: topV :: topV :: topV :: topV :: topV :: topV :: topV :: topV :: topV :: topV :: topV :: topV :: topV :: topV :: topV :: topV :: topV :: topV :: topV :: topV :: topV :: topV :: topV :: topV :: topV :: topV :: topV :: []), [some ⟨.view, .ints (flat ps)⟩]⟩) (.leaf .normal ⟨(.slice (some ⟨0, 0, none⟩) (ps.length) (ps.length) :: topV :: topV :: topV :: .int .i64 (q.1) :: .int .i64 (q.2) :: .int .i64 ((↑i : Int)) :: .int .i64 (IntKind.i64.wrap ((↑k : Int) + 1)) :: topV :: topV :: topV :: topV :: topV :: topV :: topV :: topV :: topV :: topV :: topV :: topV :: topV :: topV :: topV :: topV :: topV :: topV :: topV :: topV :: topV :: topV :: topV :: topV :: topV :: topV :: topV :: topV :: topV :: topV :: topV :: topV :: topV :: topV :: topV :: topV :: topV :: []), [some ⟨.view, .ints (flat ps)⟩]⟩)))))))))) (.leaf (.exit 2) ⟨(.slice (some ⟨0, 0, none⟩) (ps.length) (ps.length) :: topV :: topV :: topV :: .int .i64 (q.1) :: .int .i64 (q.2) :: .int .i64 ((↑i : Int)) :: topV :: topV :: topV :: topV :: topV :: topV :: topV :: topV :: topV :: topV :: topV :: topV :: topV :: topV :: topV :: topV :: topV :: topV :: topV :: topV :: topV :: topV :: topV :: topV :: topV :: topV :: topV :: topV :: topV :: topV :: topV :: topV :: topV :: topV :: topV :: topV :: topV :: topV :: []), [some ⟨.view, .ints (flat ps)⟩]⟩) := by kernel_rfl
set_option maxRecDepth 100000 in
theorem nl_fai : loopsOf c_fai = [] := by kernel_rfl
def inv_fai (ps : List Pt) (i : Nat) : Nat × Pt → Prop := fun (k, q) => k ≤ ps.length ∧ inI ps.length q
def me_fai (ps : List Pt) (i : Nat) : Nat × Pt → Nat := fun (k, q) => ps.length - k
/-- A round of this loop. -/
def Round_fai (ps : List Pt) (i : Nat) : Prop := ∀ xx : Nat × Pt, inv_fai ps i xx → (bodyL Try.prog E3 30 12 noL 2 c_fai k_fai 1 (s_fai ps i xx)).ok (RoundEnd 1 (s_fai ps i) (inv_fai ps i) (me_fai ps i) re_fai (rs_fai ps i) xx) (fun _ _ => False)
def e_fai (s : St) (k : Ex → St → Tree) : Option Tree := match Nat.beq s.tmps.length 45, pickL s.tmps [0, 4, 5, 6, 7], s.mem with
  | true, [.slice (some ⟨0, 0, none⟩) n _, .int .i64 a, .int .i64 b, .int .i64 ii, .int .i64 kk], [some ⟨.view, .ints xs⟩] => some (needs [kk = ii + 1, xs.length = n * 2, n ≤ 20, allV (ptsA n xs) = true, 0 ≤ ii, ii < n, inI n (a, b)] (k (.exit 2) ⟨(.slice (some ⟨0, 0, none⟩) n n :: topV :: topV :: topV :: .int .i64 (bsK (ptsA n xs) ii.toNat (ii.toNat + 1) (a, b)).1 :: .int .i64 (bsK (ptsA n xs) ii.toNat (ii.toNat + 1) (a, b)).2 :: .int .i64 ii :: topV :: topV :: topV :: topV :: topV :: topV :: topV :: topV :: topV :: topV :: topV :: topV :: topV :: topV :: topV :: topV :: topV :: topV :: topV :: topV :: topV :: topV :: topV :: topV :: topV :: topV :: topV :: topV :: topV :: topV :: topV :: topV :: topV :: topV :: topV :: topV :: topV :: topV :: []), [some ⟨.view, .ints xs⟩]⟩))
  | _, _, _ => none
set_option maxRecDepth 100000 in
theorem round_fai (ps : List Pt) (i : Nat) (h : ps.length ≤ 20) (hv : allV ps = true) (hi : i < ps.length) : Round_fai ps i := by
  rintro ⟨k, q⟩ ⟨h1, h2⟩
  rw [tr_fai]
  obtain ⟨q1, q2, q3, q4⟩ := h2
  obtain ⟨a, ha⟩ := Int.eq_ofNat_of_zero_le q1
  obtain ⟨b, hb⟩ := Int.eq_ofNat_of_zero_le q3
  have b1 := allV_get hv i
  have b2 := allV_get hv k
  have b3 := allV_get hv a
  have b4 := allV_get hv b
  have m1 := mul_bd (x := (ps.getD i (0, 0)).1 - (ps.getD k (0, 0)).1) (y := (ps.getD i (0, 0)).1 - (ps.getD k (0, 0)).1) 2000 2000 (by omega) (by omega)
  have m2 := mul_bd (x := (ps.getD i (0, 0)).2 - (ps.getD k (0, 0)).2) (y := (ps.getD i (0, 0)).2 - (ps.getD k (0, 0)).2) 2000 2000 (by omega) (by omega)
  have m3 := mul_bd (x := (ps.getD a (0, 0)).1 - (ps.getD b (0, 0)).1) (y := (ps.getD a (0, 0)).1 - (ps.getD b (0, 0)).1) 2000 2000 (by omega) (by omega)
  have m4 := mul_bd (x := (ps.getD a (0, 0)).2 - (ps.getD b (0, 0)).2) (y := (ps.getD a (0, 0)).2 - (ps.getD b (0, 0)).2) 2000 2000 (by omega) (by omega)
  have hq : q = ((a : Int), (b : Int)) := Prod.ext ha hb
  subst hq
  simp only [brT_ok, Tree.ok, decide_eq_true_eq, decide_eq_false_iff_not, Int.toNat_natCast, Nat.zero_add, flat_length, flat_get0, flat_get1]
  refine ⟨fun hlt => ?_, fun hge => ?_⟩
  · have st := bsK_step (ps := ps) (i := i) (k := k) (by omega) ((a : Int), (b : Int))
    rw [wsucc (n := ps.length) (by omega) (by omega)]
    simp (disch := omega) only [wr]
    repeat refine And.intro (by first | omega | exact ⟨by omega, by omega⟩) ?_
    refine ⟨fun hle => ?_, fun hle => ?_⟩
    · have e : mxS (dmV ps) ((a : Int), (b : Int)) ((i : Int), (k : Int)) = ((i : Int), (k : Int)) := by
        unfold mxS
        rw [if_pos]
        unfold dmV sq
        simp only [Int.toNat_natCast]
        omega
      rw [e] at st
      refine ⟨(k + 1, ((i : Int), (k : Int))), [], ⟨by omega, by unfold inI; simp only; omega⟩, ?_, rfl, by simp only [rs_fai, st], ?_⟩
      · show ps.length - (k + 1) < ps.length - k; omega
      · repeat' (first | exact True.intro | exact rfl | exact fun _ => rfl | refine And.intro ?_ ?_)
    · have e : mxS (dmV ps) ((a : Int), (b : Int)) ((i : Int), (k : Int)) = ((a : Int), (b : Int)) := by
        unfold mxS
        rw [if_neg]
        unfold dmV sq
        simp only [Int.toNat_natCast]
        omega
      rw [e] at st
      refine ⟨(k + 1, ((a : Int), (b : Int))), [], ⟨by omega, by unfold inI; simp only; omega⟩, ?_, rfl, by simp only [rs_fai, st], ?_⟩
      · show ps.length - (k + 1) < ps.length - k; omega
      · repeat' (first | exact True.intro | exact rfl | exact fun _ => rfl | refine And.intro ?_ ?_)
  · refine ⟨rfl, [], ?_⟩
    simp only [rs_fai, bsK_end (ps := ps) (i := i) (k := k) (by omega)]
    repeat' (first | exact True.intro | exact rfl | exact fun _ => rfl | refine And.intro ?_ ?_)
set_option maxRecDepth 100000 in
theorem lg_fai : LoopE Try.prog e_fai c_fai := by
  intro s k t F H hlt ht
  unfold e_fai at hlt
  split at hlt
  rotate_left
  · cases hlt
  rename_i hlen hpick hmem
  obtain ⟨tmps, mem⟩ := s
  simp only at hlen hpick hmem
  subst hmem
  obtain rfl := Option.some.inj hlt
  obtain ⟨⟨rfl, h1, h2, h3, h4, h5, h6, _⟩, ht2⟩ := needs_ok ht
  clear ht hlt
  obtain ⟨ps, rfl, rfl⟩ := even_flat h1
  obtain ⟨i, rfl⟩ := Int.eq_ofNat_of_zero_le h4
  rw [ptsA_flat] at ht2 h3
  simp only [Int.toNat_natCast] at ht2
  refine ⟨_, _, ht2, loop_run mixed E3_ok (s_fai ps i) (inv_fai ps i) (me_fai ps i) re_fai (rs_fai ps i) k_fai (fun _ => rfl) (noLoops nl_fai) (round_fai ps i h2 h3 (by omega)) (x := (i + 1, (_, _))) ⟨by omega, h6⟩ (π := []) rfl ?_⟩
  refine ⟨rfl, rfl, ?_, wvs_spread' [0, 4, 5, 6, 7] hlen rfl ?_⟩
  · repeat' (first | exact True.intro | exact rfl | exact wv_top _ _ | exact fun _ => rfl | assumption | exact Eq.symm (by assumption) | exact vI0 rfl | refine And.intro ?_ ?_)
  · rw [hpick]
    repeat' (first | exact True.intro | exact rfl | exact wv_top _ _ | exact fun _ => rfl | assumption | exact Eq.symm (by assumption) | exact vI0 rfl | refine And.intro ?_ ?_)
def ltFa : LT := fun j s k => match j with
  | 1 => e_fai s k
  | _ => none
/-- The best of the rows from i on. -/
def bsI (ps : List Pt) (i : Nat) (q : Pt) : Pt := (prB ps.length (ps.length - i) i).foldl (mxS (dmV ps)) q
theorem bsI_step {ps : List Pt} {i : Nat} (h : i < ps.length) (q : Pt) : bsI ps i q = bsI ps (i + 1) (bsK ps i (i + 1) q) := by
  unfold bsI bsK prK
  rw [show ps.length - i = (ps.length - (i + 1)) + 1 by omega, prB_step, List.foldl_append]
theorem bsI_end {ps : List Pt} {i : Nat} (h : ps.length ≤ i) (q : Pt) : bsI ps i q = q := by
  unfold bsI
  rw [show ps.length - i = 0 by omega]
  rfl
noncomputable def c_fao : Code := ((loopsOf (codeOf Try.f82))[0]?).getD .skip
def k_fao : Ex → List Nat := keeps [0, 4, 5, 6] [(0, [4, 5])] [2, 3]
def s_fao (ps : List Pt) : Nat × Pt → St := fun (i, q) => ⟨(.slice (some ⟨0, 0, none⟩) ps.length ps.length :: topV :: topV :: topV :: .int .i64 q.1 :: .int .i64 q.2 :: .int .i64 i :: topV :: topV :: topV :: topV :: topV :: topV :: topV :: topV :: topV :: topV :: topV :: topV :: topV :: topV :: topV :: topV :: topV :: topV :: topV :: topV :: topV :: topV :: topV :: topV :: topV :: topV :: topV :: topV :: topV :: topV :: topV :: topV :: topV :: topV :: topV :: topV :: topV :: topV :: []), [some ⟨.view, .ints (flat ps)⟩]⟩
def re_fao : Nat × Pt → Ex := fun _ => .exit 0
def rs_fao (ps : List Pt) : Nat × Pt → St := fun (i, q) => ⟨(topV :: topV :: topV :: topV :: .int .i64 (bsI ps i q).1 :: .int .i64 (bsI ps i q).2 :: topV :: topV :: topV :: topV :: topV :: topV :: topV :: topV :: topV :: topV :: topV :: topV :: topV :: topV :: topV :: topV :: topV :: topV :: topV :: topV :: topV :: topV :: topV :: topV :: topV :: topV :: topV :: topV :: topV :: topV :: topV :: topV :: topV :: topV :: topV :: topV :: topV :: topV :: topV :: []), [some ⟨.view, .ints (flat ps)⟩]⟩
set_option maxRecDepth 100000 in
theorem tr_fao (ps : List Pt) (i : Nat) (q : Pt) : bodyL Try.prog E3 30 12 ltFa 1 c_fao k_fao 1 (s_fao ps (i, q)) = brT (decide ((↑i : Int) < (↑ps.length : Int))) (.need (IntKind.i64.wrap ((↑i : Int) + (1 : Int)) = (↑i : Int) + (1 : Int)) (.need ((flat ps).length = ps.length * (2 : Nat)) (.need (ps.length ≤ (20 : Nat)) (.need (allV (ptsA ps.length (flat ps)) = true) (.need ((0 : Int) ≤ (↑i : Int)) (.need ((↑i : Int) < (↑ps.length : Int)) (.need (inI ps.length (q.fst, q.snd)) (.leaf .normal ⟨(.slice (some ⟨0, 0, none⟩) (ps.length) (ps.length) :: topV :: topV :: topV :: .int .i64 ((bsK (ptsA ps.length (flat ps)) (↑i : Int).toNat ((↑i : Int).toNat + 1) (q.fst, q.snd)).1) :: .int .i64 ((bsK (ptsA ps.length (flat ps)) (↑i : Int).toNat ((↑i : Int).toNat + 1) (q.fst, q.snd)).2) :: .int .i64 (IntKind.i64.wrap ((↑i : Int) + 1)) :: topV :: topV :: topV :: topV :: topV :: topV :: topV :: topV :: topV :: topV :: topV :: topV :: topV :: topV :: topV :: topV :: topV :: topV :: topV :: topV :: topV :: topV :: topV :: topV :: topV :: topV :: topV :: topV :: topV :: topV :: topV :: topV :: topV :: topV :: topV :: topV :: topV :: topV :: []), [some ⟨.view, .ints (flat ps)⟩]⟩)))))))) (.leaf (.exit 0) ⟨(topV :: topV :: topV :: topV :: .int .i64 (q.1) :: .int .i64 (q.2) :: topV :: topV :: topV :: topV :: topV :: topV :: topV :: topV :: topV :: topV :: topV :: topV :: topV :: topV :: topV :: topV :: topV :: topV :: topV :: topV :: topV :: topV :: topV :: topV :: topV :: topV :: topV :: topV :: topV :: topV :: topV :: topV :: topV :: topV :: topV :: topV :: topV :: topV :: topV :: []), [some ⟨.view, .ints (flat ps)⟩]⟩) := by kernel_rfl
def inv_fao (ps : List Pt) : Nat × Pt → Prop := fun (i, q) => i ≤ ps.length ∧ inI ps.length q
def me_fao (ps : List Pt) : Nat × Pt → Nat := fun (i, q) => ps.length - i
/-- A round of this loop. -/
def Round_fao (ps : List Pt) : Prop := ∀ xx : Nat × Pt, inv_fao ps xx → (bodyL Try.prog E3 30 12 ltFa 1 c_fao k_fao 1 (s_fao ps xx)).ok (RoundEnd 1 (s_fao ps) (inv_fao ps) (me_fao ps) re_fao (rs_fao ps) xx) (fun _ _ => False)
def e_fao (s : St) (k : Ex → St → Tree) : Option Tree := match Nat.beq s.tmps.length 45, pickL s.tmps [0, 4, 5, 6], s.mem with
  | true, [.slice (some ⟨0, 0, none⟩) n _, .int .i64 a, .int .i64 b, .int .i64 ii], [some ⟨.view, .ints xs⟩] => some (needs [ii = 0, a = 0, b = 0, xs.length = n * 2, n ≤ 20, allV (ptsA n xs) = true, 0 < n] (k (.exit 0) ⟨(topV :: topV :: topV :: topV :: .int .i64 (bsI (ptsA n xs) 0 (0, 0)).1 :: .int .i64 (bsI (ptsA n xs) 0 (0, 0)).2 :: topV :: topV :: topV :: topV :: topV :: topV :: topV :: topV :: topV :: topV :: topV :: topV :: topV :: topV :: topV :: topV :: topV :: topV :: topV :: topV :: topV :: topV :: topV :: topV :: topV :: topV :: topV :: topV :: topV :: topV :: topV :: topV :: topV :: topV :: topV :: topV :: topV :: topV :: topV :: []), [some ⟨.view, .ints xs⟩]⟩))
  | _, _, _ => none
set_option maxRecDepth 100000 in
theorem in_fao : loopsOf c_fao = [c_fai] := by kernel_rfl
theorem ltFa_good : LoopsGood Try.prog ltFa 1 c_fao := by
  intro i d hd s k t F H hlt ht
  rw [in_fao] at hd
  cases i with
  | zero =>
    obtain rfl : c_fai = d := by simpa using hd
    exact lg_fai s k t F H hlt ht
  | succ i => simp at hd
set_option maxRecDepth 100000 in
theorem round_fao (ps : List Pt) (h : ps.length ≤ 20) (hv : allV ps = true) : Round_fao ps := by
  rintro ⟨i, q⟩ ⟨h1, h2⟩
  rw [tr_fao]
  simp only [brT_ok, Tree.ok, decide_eq_true_eq, decide_eq_false_iff_not, Int.toNat_natCast, Nat.zero_add, flat_length, ptsA_flat]
  refine ⟨fun hlt => ?_, fun hge => ?_⟩
  · have hi : i < ps.length := by omega
    rw [wsucc (n := ps.length) hi (by omega)]
    have st := bsI_step (ps := ps) (i := i) hi q
    refine ⟨by first | trivial | omega, trivial, h, hv, by omega, by omega, h2, (i + 1, bsK ps i (i + 1) q), [], ⟨by omega, bsK_in hi h2⟩, ?_, rfl, by simp only [rs_fao, st], ?_⟩
    · show ps.length - (i + 1) < ps.length - i; omega
    · repeat' (first | exact True.intro | exact rfl | exact fun _ => rfl | refine And.intro ?_ ?_)
  · refine ⟨rfl, [], ?_⟩
    simp only [rs_fao, bsI_end (ps := ps) (i := i) (by omega)]
    repeat' (first | exact True.intro | exact rfl | exact fun _ => rfl | refine And.intro ?_ ?_)
set_option maxRecDepth 100000 in
theorem lg_fao : LoopE Try.prog e_fao c_fao := by
  intro s k t F H hlt ht
  unfold e_fao at hlt
  split at hlt
  rotate_left
  · cases hlt
  rename_i hlen hpick hmem
  obtain ⟨tmps, mem⟩ := s
  simp only at hlen hpick hmem
  subst hmem
  obtain rfl := Option.some.inj hlt
  obtain ⟨⟨rfl, rfl, rfl, h1, h2, h3, h4, _⟩, ht2⟩ := needs_ok ht
  clear ht hlt
  obtain ⟨ps, rfl, rfl⟩ := even_flat h1
  rw [ptsA_flat] at ht2 h3
  refine ⟨_, _, ht2, loop_run mixed E3_ok (s_fao ps) (inv_fao ps) (me_fao ps) re_fao (rs_fao ps) k_fao (fun _ => rfl) ltFa_good (round_fao ps h2 h3) (x := (0, (0, 0))) ⟨Nat.zero_le _, by unfold inI; simp only; omega⟩ (π := []) rfl ?_⟩
  refine ⟨rfl, rfl, ?_, wvs_spread' [0, 4, 5, 6] hlen rfl ?_⟩
  · repeat' (first | exact True.intro | exact rfl | exact wv_top _ _ | exact fun _ => rfl | assumption | exact Eq.symm (by assumption) | exact vI0 rfl | refine And.intro ?_ ?_)
  · rw [hpick]
    repeat' (first | exact True.intro | exact rfl | exact wv_top _ _ | exact fun _ => rfl | assumption | exact Eq.symm (by assumption) | exact vI0 rfl | refine And.intro ?_ ?_)
theorem Lr_fao {fn : Func} (hf : Try.prog.funcs[82]? = some fn) : LoopsGood Try.prog (lt1 e_fao) 0 (codeOf fn) := by
  obtain rfl := fn_is Try.func82 hf
  exact lt1_good lg_fao
noncomputable def c_fld : Code := ((loopsOf (codeOf Try.f87))[0]?).getD .skip
def k_fld : Ex → List Nat := keeps [1, 5, 6, 10, 11, 12] [(0, [5])] [4]
def s_fld (ps qs : List Pt) : Nat × Int × Int → St := fun (i, b, m) => ⟨(topV :: .func (.func 85) #[] #[.pointer (some ⟨1, 0, none⟩)] :: topV :: topV :: topV :: .int .i64 b :: .int .i64 m :: topV :: topV :: topV :: .slice (some ⟨2, 0, none⟩) qs.length qs.length :: .int .i64 qs.length :: .int .i64 i :: topV :: topV :: topV :: topV :: topV :: topV :: topV :: topV :: topV :: topV :: topV :: topV :: topV :: topV :: topV :: topV :: topV :: topV :: []), [some ⟨.view, .ints (flat ps)⟩, some ⟨.box, .vals [.slice (some ⟨0, 0, none⟩) ps.length ps.length]⟩, some ⟨.row 88 2, .ints (flat qs)⟩, none]⟩
def re_fld : Nat × Int × Int → Ex := fun _ => .exit 0
def rs_fld (ps qs : List Pt) : Nat × Int × Int → St := fun (i, b, m) => ⟨(topV :: topV :: topV :: topV :: topV :: .int .i64 (fl (dmV ps) qs i b) :: topV :: topV :: topV :: topV :: topV :: topV :: topV :: topV :: topV :: topV :: topV :: topV :: topV :: topV :: topV :: topV :: topV :: topV :: topV :: topV :: topV :: topV :: topV :: topV :: topV :: []), [some ⟨.view, .ints (flat ps)⟩, some ⟨.box, .vals [.slice (some ⟨0, 0, none⟩) ps.length ps.length]⟩, some ⟨.row 88 2, .ints (flat qs)⟩, none]⟩
set_option maxRecDepth 100000 in
theorem tr_fld (ps qs : List Pt) (i : Nat) (b m : Int) : bodyL Try.prog E3 30 12 noL 1 c_fld k_fld 4 (s_fld ps qs (i, b, m)) = brT (decide ((↑i : Int) < (↑qs.length : Int))) (.need ((0 : Int) ≤ (↑i : Int) ∧ (↑i : Int) < (↑qs.length : Int)) (.need ((0 : Nat) + (↑i : Int).toNat * (2 : Nat) + (2 : Nat) ≤ (flat qs).length) (brT (!(ptB ((flat ps).getD (0 + ((flat qs).getD (0 + (↑i : Int).toNat * 2) 0).toNat * 2) 0) ((flat ps).getD (0 + ((flat qs).getD (0 + (↑i : Int).toNat * 2) 0).toNat * 2 + 1) 0) && ptB ((flat ps).getD (0 + ((flat qs).getD (0 + (↑i : Int).toNat * 2 + 1) 0).toNat * 2) 0) ((flat ps).getD (0 + ((flat qs).getD (0 + (↑i : Int).toNat * 2 + 1) 0).toNat * 2 + 1) 0))) (.need ((0 : Int) ≤ (flat qs).getD ((0 : Nat) + (↑i : Int).toNat * (2 : Nat)) (0 : Int) ∧ (flat qs).getD ((0 : Nat) + (↑i : Int).toNat * (2 : Nat)) (0 : Int) < (↑ps.length : Int)) (.need ((0 : Nat) + ((flat qs).getD ((0 : Nat) + (↑i : Int).toNat * (2 : Nat)) (0 : Int)).toNat * (2 : Nat) + (2 : Nat) ≤ (flat ps).length) (.need ((0 : Int) ≤ (flat qs).getD ((0 : Nat) + (↑i : Int).toNat * (2 : Nat) + (1 : Nat)) (0 : Int) ∧ (flat qs).getD ((0 : Nat) + (↑i : Int).toNat * (2 : Nat) + (1 : Nat)) (0 : Int) < (↑ps.length : Int)) (.need ((0 : Nat) + ((flat qs).getD ((0 : Nat) + (↑i : Int).toNat * (2 : Nat) + (1 : Nat)) (0 : Int)).toNat * (2 : Nat) + (2 : Nat) ≤ (flat ps).length) (brT (decide (b < 0)) (.leaf .normal ⟨(topV :: .func (Fn.func 85) #[] #[.pointer (some ⟨1, 0, none⟩)] :: topV :: topV :: topV :: .int .i64 ((↑i : Int)) :: .int .i64 (-1) :: topV :: topV :: topV :: .slice (some ⟨2, 0, none⟩) (qs.length) (qs.length) :: .int .i64 ((↑qs.length : Int)) :: .int .i64 (IntKind.i64.wrap ((↑i : Int) + 1)) :: topV :: topV :: topV :: topV :: topV :: topV :: topV :: topV :: topV :: topV :: topV :: topV :: topV :: topV :: topV :: topV :: topV :: topV :: []), [some ⟨.view, .ints (flat ps)⟩, some ⟨.box, .vals [.slice (some ⟨0, 0, none⟩) (ps.length) (ps.length)]⟩, some ⟨.row 88 2, .ints (flat qs)⟩, none]⟩) (brT (decide (m < -1)) (.leaf .normal ⟨(topV :: .func (Fn.func 85) #[] #[.pointer (some ⟨1, 0, none⟩)] :: topV :: topV :: topV :: .int .i64 ((↑i : Int)) :: .int .i64 (-1) :: topV :: topV :: topV :: .slice (some ⟨2, 0, none⟩) (qs.length) (qs.length) :: .int .i64 ((↑qs.length : Int)) :: .int .i64 (IntKind.i64.wrap ((↑i : Int) + 1)) :: topV :: topV :: topV :: topV :: topV :: topV :: topV :: topV :: topV :: topV :: topV :: topV :: topV :: topV :: topV :: topV :: topV :: topV :: []), [some ⟨.view, .ints (flat ps)⟩, some ⟨.box, .vals [.slice (some ⟨0, 0, none⟩) (ps.length) (ps.length)]⟩, some ⟨.row 88 2, .ints (flat qs)⟩, none]⟩) (.leaf .normal ⟨(topV :: .func (Fn.func 85) #[] #[.pointer (some ⟨1, 0, none⟩)] :: topV :: topV :: topV :: .int .i64 (b) :: .int .i64 (m) :: topV :: topV :: topV :: .slice (some ⟨2, 0, none⟩) (qs.length) (qs.length) :: .int .i64 ((↑qs.length : Int)) :: .int .i64 (IntKind.i64.wrap ((↑i : Int) + 1)) :: topV :: topV :: topV :: topV :: topV :: topV :: topV :: topV :: topV :: topV :: topV :: topV :: topV :: topV :: topV :: topV :: topV :: topV :: []), [some ⟨.view, .ints (flat ps)⟩, some ⟨.box, .vals [.slice (some ⟨0, 0, none⟩) (ps.length) (ps.length)]⟩, some ⟨.row 88 2, .ints (flat qs)⟩, none]⟩))))))) (.need ((0 : Int) ≤ (flat qs).getD ((0 : Nat) + (↑i : Int).toNat * (2 : Nat)) (0 : Int) ∧ (flat qs).getD ((0 : Nat) + (↑i : Int).toNat * (2 : Nat)) (0 : Int) < (↑ps.length : Int)) (.need ((0 : Nat) + ((flat qs).getD ((0 : Nat) + (↑i : Int).toNat * (2 : Nat)) (0 : Int)).toNat * (2 : Nat) + (2 : Nat) ≤ (flat ps).length) (.need ((0 : Int) ≤ (flat qs).getD ((0 : Nat) + (↑i : Int).toNat * (2 : Nat) + (1 : Nat)) (0 : Int) ∧ (flat qs).getD ((0 : Nat) + (↑i : Int).toNat * (2 : Nat) + (1 : Nat)) (0 : Int) < (↑ps.length : Int)) (.need ((0 : Nat) + ((flat qs).getD ((0 : Nat) + (↑i : Int).toNat * (2 : Nat) + (1 : Nat)) (0 : Int)).toNat * (2 : Nat) + (2 : Nat) ≤ (flat ps).length) (brT (decide (b < 0)) (.leaf .normal ⟨(topV :: .func (Fn.func 85) #[] #[.pointer (some ⟨1, 0, none⟩)] :: topV :: topV :: topV :: .int .i64 ((↑i : Int)) :: .int .i64 (IntKind.i64.wrap (IntKind.i64.wrap (IntKind.i64.wrap ((flat ps).getD (0 + ((flat qs).getD (0 + (↑i : Int).toNat * 2) 0).toNat * 2) 0 - (flat ps).getD (0 + ((flat qs).getD (0 + (↑i : Int).toNat * 2 + 1) 0).toNat * 2) 0) * IntKind.i64.wrap ((flat ps).getD (0 + ((flat qs).getD (0 + (↑i : Int).toNat * 2) 0).toNat * 2) 0 - (flat ps).getD (0 + ((flat qs).getD (0 + (↑i : Int).toNat * 2 + 1) 0).toNat * 2) 0)) + IntKind.i64.wrap (IntKind.i64.wrap ((flat ps).getD (0 + ((flat qs).getD (0 + (↑i : Int).toNat * 2) 0).toNat * 2 + 1) 0 - (flat ps).getD (0 + ((flat qs).getD (0 + (↑i : Int).toNat * 2 + 1) 0).toNat * 2 + 1) 0) * IntKind.i64.wrap ((flat ps).getD (0 + ((flat qs).getD (0 + (↑i : Int).toNat * 2) 0).toNat * 2 + 1) 0 - (flat ps).getD (0 + ((flat qs).getD (0 + (↑i : Int).toNat * 2 + 1) 0).toNat * 2 + 1) 0)))) :: topV :: topV :: topV :: .slice (some ⟨2, 0, none⟩) (qs.length) (qs.length) :: .int .i64 ((↑qs.length : Int)) :: .int .i64 (IntKind.i64.wrap ((↑i : Int) + 1)) :: topV :: topV :: topV :: topV :: topV :: topV :: topV :: topV :: topV :: topV :: topV :: topV :: topV :: topV :: topV :: topV :: topV :: topV :: []), [some ⟨.view, .ints (flat ps)⟩, some ⟨.box, .vals [.slice (some ⟨0, 0, none⟩) (ps.length) (ps.length)]⟩, some ⟨.row 88 2, .ints (flat qs)⟩, none]⟩) (brT (decide (m < IntKind.i64.wrap (IntKind.i64.wrap (IntKind.i64.wrap ((flat ps).getD (0 + ((flat qs).getD (0 + (↑i : Int).toNat * 2) 0).toNat * 2) 0 - (flat ps).getD (0 + ((flat qs).getD (0 + (↑i : Int).toNat * 2 + 1) 0).toNat * 2) 0) * IntKind.i64.wrap ((flat ps).getD (0 + ((flat qs).getD (0 + (↑i : Int).toNat * 2) 0).toNat * 2) 0 - (flat ps).getD (0 + ((flat qs).getD (0 + (↑i : Int).toNat * 2 + 1) 0).toNat * 2) 0)) + IntKind.i64.wrap (IntKind.i64.wrap ((flat ps).getD (0 + ((flat qs).getD (0 + (↑i : Int).toNat * 2) 0).toNat * 2 + 1) 0 - (flat ps).getD (0 + ((flat qs).getD (0 + (↑i : Int).toNat * 2 + 1) 0).toNat * 2 + 1) 0) * IntKind.i64.wrap ((flat ps).getD (0 + ((flat qs).getD (0 + (↑i : Int).toNat * 2) 0).toNat * 2 + 1) 0 - (flat ps).getD (0 + ((flat qs).getD (0 + (↑i : Int).toNat * 2 + 1) 0).toNat * 2 + 1) 0))))) (.leaf .normal ⟨(topV :: .func (Fn.func 85) #[] #[.pointer (some ⟨1, 0, none⟩)] :: topV :: topV :: topV :: .int .i64 ((↑i : Int)) :: .int .i64 (IntKind.i64.wrap (IntKind.i64.wrap (IntKind.i64.wrap ((flat ps).getD (0 + ((flat qs).getD (0 + (↑i : Int).toNat * 2) 0).toNat * 2) 0 - (flat ps).getD (0 + ((flat qs).getD (0 + (↑i : Int).toNat * 2 + 1) 0).toNat * 2) 0) * IntKind.i64.wrap ((flat ps).getD (0 + ((flat qs).getD (0 + (↑i : Int).toNat * 2) 0).toNat * 2) 0 - (flat ps).getD (0 + ((flat qs).getD (0 + (↑i : Int).toNat * 2 + 1) 0).toNat * 2) 0)) + IntKind.i64.wrap (IntKind.i64.wrap ((flat ps).getD (0 + ((flat qs).getD (0 + (↑i : Int).toNat * 2) 0).toNat * 2 + 1) 0 - (flat ps).getD (0 + ((flat qs).getD (0 + (↑i : Int).toNat * 2 + 1) 0).toNat * 2 + 1) 0) * IntKind.i64.wrap ((flat ps).getD (0 + ((flat qs).getD (0 + (↑i : Int).toNat * 2) 0).toNat * 2 + 1) 0 - (flat ps).getD (0 + ((flat qs).getD (0 + (↑i : Int).toNat * 2 + 1) 0).toNat * 2 + 1) 0)))) :: topV :: topV :: topV :: .slice (some ⟨2, 0, none⟩) (qs.length) (qs.length) :: .int .i64 ((↑qs.length : Int)) :: .int .i64 (IntKind.i64.wrap ((↑i : Int) + 1)) :: topV :: topV :: topV :: topV :: topV :: topV :: topV :: topV :: topV :: topV :: topV :: topV :: topV :: topV :: topV :: topV :: topV :: topV :: []), [some ⟨.view, .ints (flat ps)⟩, some ⟨.box, .vals [.slice (some ⟨0, 0, none⟩) (ps.length) (ps.length)]⟩, some ⟨.row 88 2, .ints (flat qs)⟩, none]⟩) (.leaf .normal ⟨(topV :: .func (Fn.func 85) #[] #[.pointer (some ⟨1, 0, none⟩)] :: topV :: topV :: topV :: .int .i64 (b) :: .int .i64 (m) :: topV :: topV :: topV :: .slice (some ⟨2, 0, none⟩) (qs.length) (qs.length) :: .int .i64 ((↑qs.length : Int)) :: .int .i64 (IntKind.i64.wrap ((↑i : Int) + 1)) :: topV :: topV :: topV :: topV :: topV :: topV :: topV :: topV :: topV :: topV :: topV :: topV :: topV :: topV :: topV :: topV :: topV :: topV :: []), [some ⟨.view, .ints (flat ps)⟩, some ⟨.box, .vals [.slice (some ⟨0, 0, none⟩) (ps.length) (ps.length)]⟩, some ⟨.row 88 2, .ints (flat qs)⟩, none]⟩)))))))))) (.leaf (.exit 0) ⟨(topV :: topV :: topV :: topV :: topV :: .int .i64 (b) :: topV :: topV :: topV :: topV :: topV :: topV :: topV :: topV :: topV :: topV :: topV :: topV :: topV :: topV :: topV :: topV :: topV :: topV :: topV :: topV :: topV :: topV :: topV :: topV :: topV :: []), [some ⟨.view, .ints (flat ps)⟩, some ⟨.box, .vals [.slice (some ⟨0, 0, none⟩) (ps.length) (ps.length)]⟩, some ⟨.row 88 2, .ints (flat qs)⟩, none]⟩) := by kernel_rfl
set_option maxRecDepth 100000 in
theorem nl_fld : loopsOf c_fld = [] := by kernel_rfl
def inv_fld (ps qs : List Pt) : Nat × Int × Int → Prop := fun (i, b, m) => i ≤ qs.length ∧ (b = -1 ∨ 0 ≤ b ∧ b < i ∧ m = dmV ps (qs.getD b.toNat (0, 0)))
def me_fld (ps qs : List Pt) : Nat × Int × Int → Nat := fun (i, b, m) => qs.length - i
/-- A round of this loop. -/
def Round_fld (ps qs : List Pt) : Prop := ∀ xx : Nat × Int × Int, inv_fld ps qs xx → (bodyL Try.prog E3 30 12 noL 1 c_fld k_fld 4 (s_fld ps qs xx)).ok (RoundEnd 4 (s_fld ps qs) (inv_fld ps qs) (me_fld ps qs) re_fld (rs_fld ps qs) xx) (fun _ _ => False)
def e_fld (s : St) (k : Ex → St → Tree) : Option Tree := match Nat.beq s.tmps.length 31, pickL s.tmps [1, 5, 6, 10, 11, 12], s.mem with
  | true, [.func (.func 85) ⟨[]⟩ ⟨[.pointer (some ⟨1, 0, none⟩)]⟩, .int .i64 b, .int .i64 mm, .slice (some ⟨2, 0, none⟩) m _, .int .i64 l, .int .i64 i], [some ⟨.view, .ints xs⟩, some ⟨.box, .vals [.slice (some ⟨0, 0, none⟩) n _]⟩, some ⟨.row 88 2, .ints ys⟩, none] => some (needs [i = 0, b = -1, mm = 0, l = m, xs.length = n * 2, n ≤ 20, allV (ptsA n xs) = true, ys.length = m * 2, m ≤ 1000000000, ∀ q ∈ ptsA m ys, inI n q] (k (.exit 0) ⟨(topV :: topV :: topV :: topV :: topV :: .int .i64 (fl (dmV (ptsA n xs)) (ptsA m ys) 0 (-1)) :: topV :: topV :: topV :: topV :: topV :: topV :: topV :: topV :: topV :: topV :: topV :: topV :: topV :: topV :: topV :: topV :: topV :: topV :: topV :: topV :: topV :: topV :: topV :: topV :: topV :: []), [some ⟨.view, .ints xs⟩, some ⟨.box, .vals [.slice (some ⟨0, 0, none⟩) n n]⟩, some ⟨.row 88 2, .ints ys⟩, none]⟩))
  | _, _, _ => none
set_option maxRecDepth 100000 in
theorem round_fld (ps qs : List Pt) (h : ps.length ≤ 20) (hv : allV ps = true) (g2 : qs.length ≤ 1000000000) (g3 : ∀ q ∈ qs, inI ps.length q) : Round_fld ps qs := by
  rintro ⟨i, b, m⟩ ⟨h1, h2⟩
  rw [tr_fld]
  simp only [Int.toNat_natCast, Nat.zero_add, flat_length, flat_get0, flat_get1]
  refine brT_ok.2 ⟨fun hlt => ?_, fun hge => ?_⟩
  · have hlt := of_decide_eq_true hlt
    have hi : i < qs.length := by omega
    have hq := g3 (qs.getD i (0, 0)) (by simp [hi])
    rw [wsucc (n := qs.length) hi g2]
    have hf0 : dmV ps (qs.getD i (0, 0)) = sq (ps.getD (qs.getD i (0, 0)).1.toNat (0, 0)) (ps.getD (qs.getD i (0, 0)).2.toNat (0, 0)) := rfl
    have new : fl (dmV ps) qs i b = fl (dmV ps) qs (i + 1) i → RoundEnd 4 (s_fld ps qs) (inv_fld ps qs) (me_fld ps qs) re_fld (rs_fld ps qs) (i, b, m) .normal (s_fld ps qs (i + 1, i, dmV ps (qs.getD i (0, 0)))) := fun e => by
      refine ⟨(i + 1, i, dmV ps (qs.getD i (0, 0))), [], ⟨by omega, .inr ⟨by omega, by omega, by rw [Int.toNat_natCast]⟩⟩, ?_, rfl, by simp only [rs_fld]; rw [e], ?_⟩
      · show qs.length - (i + 1) < qs.length - i; omega
      · repeat' (first | exact True.intro | exact rfl | exact fun _ => rfl | refine And.intro ?_ ?_)
    have f1 := fl_first (f := dmV ps) (ps := qs) (i := i) hi (b := b)
    have f2 := fl_yes (f := dmV ps) (ps := qs) (i := i) hi (b := b)
    have f3 := fl_no (f := dmV ps) (ps := qs) (i := i) hi (b := b)
    generalize qs.getD i (0, 0) = p at *
    obtain ⟨q1, q2, q3, q4⟩ := hq
    obtain ⟨x, y⟩ := p
    simp only at q1 q2 q3 q4
    obtain ⟨u, rfl⟩ := Int.eq_ofNat_of_zero_le q1
    obtain ⟨v, rfl⟩ := Int.eq_ofNat_of_zero_le q3
    simp only [Int.toNat_natCast] at hf0
    have b1 := allV_get hv u
    have b2 := allV_get hv v
    have t1 : ptB (ps.getD u (0, 0)).1 (ps.getD u (0, 0)).2 = true := by simpa [ptB] using b1
    have t2 : ptB (ps.getD v (0, 0)).1 (ps.getD v (0, 0)).2 = true := by simpa [ptB] using b2
    have m1 := mul_bd (x := (ps.getD u (0, 0)).1 - (ps.getD v (0, 0)).1) (y := (ps.getD u (0, 0)).1 - (ps.getD v (0, 0)).1) 2000 2000 (by omega) (by omega)
    have m2 := mul_bd (x := (ps.getD u (0, 0)).2 - (ps.getD v (0, 0)).2) (y := (ps.getD u (0, 0)).2 - (ps.getD v (0, 0)).2) 2000 2000 (by omega) (by omega)
    simp only [Int.toNat_natCast, flat_get0, flat_get1, t1, t2, Bool.and_self, Bool.not_true, brT_f]
    simp (disch := omega) only [wr]
    have hf : dmV ps ((u : Int), (v : Int)) = ((ps.getD u (0, 0)).1 - (ps.getD v (0, 0)).1) * ((ps.getD u (0, 0)).1 - (ps.getD v (0, 0)).1) + ((ps.getD u (0, 0)).2 - (ps.getD v (0, 0)).2) * ((ps.getD u (0, 0)).2 - (ps.getD v (0, 0)).2) := hf0
    rw [← hf]
    simp only [brT_ok, Tree.ok, decide_eq_true_eq, decide_eq_false_iff_not]
    repeat refine And.intro (by first | omega | exact ⟨by omega, by omega⟩) ?_
    refine ⟨fun hb => new (f1 hb), fun hb => ?_⟩
    obtain ⟨g1, g2, g3⟩ := h2.resolve_left (by omega)
    refine ⟨fun hle => new (f2 g1 (by rw [← g3]; exact hle)), fun hle => ?_⟩
    refine ⟨(i + 1, b, m), [], ⟨by omega, .inr ⟨by omega, by omega, g3⟩⟩, ?_, rfl, by simp only [rs_fld]; rw [f3 g1 (by rw [← g3]; exact hle)], ?_⟩
    · show qs.length - (i + 1) < qs.length - i; omega
    · repeat' (first | exact True.intro | exact rfl | exact fun _ => rfl | refine And.intro ?_ ?_)
  · have hge := of_decide_eq_false hge
    refine ⟨rfl, [], ?_⟩
    simp only [rs_fld, fl_end (f := dmV ps) (ps := qs) (i := i) (by omega) (b := b) (h2.imp id fun h => h.1)]
    repeat' (first | exact True.intro | exact rfl | exact fun _ => rfl | refine And.intro ?_ ?_)
set_option maxRecDepth 100000 in
theorem lg_fld : LoopE Try.prog e_fld c_fld := by
  intro s k t F H hlt ht
  unfold e_fld at hlt
  split at hlt
  rotate_left
  · cases hlt
  rename_i hlen hpick hmem
  obtain ⟨tmps, mem⟩ := s
  simp only at hlen hpick hmem
  subst hmem
  obtain rfl := Option.some.inj hlt
  obtain ⟨⟨rfl, rfl, rfl, rfl, h1, h3, h4, g1, g2, g3, _⟩, ht2⟩ := needs_ok ht
  clear ht hlt
  obtain ⟨ps, rfl, rfl⟩ := even_flat h1
  obtain ⟨qs, rfl, rfl⟩ := even_flat g1
  rw [ptsA_flat] at ht2 h4 g3
  rw [ptsA_flat] at ht2
  refine ⟨_, _, ht2, loop_run mixed E3_ok (s_fld ps qs) (inv_fld ps qs) (me_fld ps qs) re_fld (rs_fld ps qs) k_fld (fun _ => rfl) (noLoops nl_fld) (round_fld ps qs h3 h4 g2 g3) (x := (0, -1, 0)) ⟨Nat.zero_le _, .inl rfl⟩ (π := []) rfl ?_⟩
  refine ⟨rfl, rfl, ?_, wvs_spread' [1, 5, 6, 10, 11, 12] hlen rfl ?_⟩
  · repeat' (first | exact True.intro | exact rfl | exact wv_top _ _ | exact fun _ => rfl | assumption | exact Eq.symm (by assumption) | exact vI0 rfl | refine And.intro ?_ ?_)
  · rw [hpick]
    repeat' (first | exact True.intro | exact rfl | exact wv_top _ _ | exact fun _ => rfl | assumption | exact Eq.symm (by assumption) | exact vI0 rfl | refine And.intro ?_ ?_)
theorem Lr_fld {fn : Func} (hf : Try.prog.funcs[87]? = some fn) : LoopsGood Try.prog (lt1 e_fld) 0 (codeOf fn) := by
  obtain rfl := fn_is Try.func87 hf
  exact lt1_good lg_fld
end Go.Proofs.Ytnjmepbblcfnfaa
namespace Go.Proofs.Ytnjmepbblcfnfaa
set_option linter.all false
open Go.RowKit
/-- A value with its names counted anew. -/
def canA (ns : List Nat) : Value → Option (Value × List Nat)
  | .pointer (some ⟨n, o, none⟩) => some (.pointer (some ⟨ns.length, o, none⟩), ns ++ [n])
  | .slice (some ⟨n, 0, none⟩) l _ => some (.slice (some ⟨ns.length, 0, none⟩) l l, ns ++ [n])
  | v => match plainV v with
    | true => some (v, ns)
    | false => none
def canL (ns : List Nat) : List Value → Option (List Value × List Nat)
  | [] => some ([], ns)
  | v :: r => match canA ns v with
    | some (v', ns1) => (match canL ns1 r with
      | some (r', ns2) => some (v' :: r', ns2)
      | none => none)
    | none => none
def canV (ns : List Nat) : Value → Option (Value × List Nat)
  | .func fn ⟨[]⟩ ⟨c⟩ => match canL ns c with
    | some (c', ns1) => some (.func fn ⟨[]⟩ ⟨c'⟩, ns1)
    | none => none
  | v => canA ns v
def canVs (ns : List Nat) : List Value → Option (List Value × List Nat)
  | [] => some ([], ns)
  | v :: r => match canV ns v with
    | some (v', ns1) => (match canVs ns1 r with
      | some (r', ns2) => some (v' :: r', ns2)
      | none => none)
    | none => none
/-- The blocks of names, and of the names that lie in them. -/
def rdMem : Nat → Nat → List Nat → List Cs → Rd (List Nat × List Cs)
  | 0, _, _, _ => .fail
  | q + 1, i, ns, css => match ns[i]? with
    | none => .ret (ns, css)
    | some n => .blk n fun b => match b with
      | some b => (match b.live with
        | true => (match b.cs with
          | .vals l => (match canVs ns l with
            | some (l', ns') => rdMem q (i + 1) ns' (css ++ [.vals l'])
            | none => .fail)
          | cs => rdMem q (i + 1) ns (css ++ [cs]))
        | false => .fail)
      | none => .fail
/-- What a function answers: its arguments and the cells of the blocks that they name, counted anew. -/
abbrev PSpec := List Value → List Cs → Option (Value × List Prop)
def rfG (sp : PSpec) (args : List Value) : Rd Eff := match canVs [] args with
  | some (zs, ns) => (rdMem 20 0 ns []).bind fun r => (match sp zs r.2 with
    | some (v, C) => .ret ⟨v, [], C⟩
    | none => .fail)
  | none => .fail
def PSpecOk (P : Program) (f : FuncId) (sp : PSpec) : Prop := ∀ zs css v C, sp zs css = some (v, C) → AllP C → ∃ (E : Env) (m n : Nat), EnvOk P E ∧ plainV v = true ∧
  (bodyM P E (runM P E m n) m f zs (css.map fun cs => some ⟨.view, cs⟩) .fin).ok (fun _ _ => False) (fun u _ => u = v)
/-- The one value is the other with its names counted anew. -/
def Ren (ns : List Nat) (v v' : Value) : Prop := ∀ (ρ ρs : Nat → Option Pl) (x : Value), (∀ (k : Nat) n, ns[k]? = some n → ρs k = ρ n) → VR ρ v x → VR ρs v' x
theorem Ren.mono {ns t : List Nat} {v v' : Value} (h : Ren ns v v') : Ren (ns ++ t) v v' := fun ρ ρs x hk => h ρ ρs x fun k n hn => hk k n (by
  rw [List.getElem?_append_left (by
    have := List.getElem?_eq_some_iff.1 hn
    exact this.1)]
  exact hn)
theorem ren_plain {ns : List Nat} {v : Value} (h : plainV v = true) : Ren ns v v := fun ρ ρs x _ hx => by
  rw [hx.plain h]
  exact .lit h
theorem canA_ok {ns ns1 : List Nat} {v v' : Value} (h : canA ns v = some (v', ns1)) : ∃ t, ns1 = ns ++ t ∧ Ren ns1 v v' := by
  unfold canA at h
  split at h
  · rename_i n o
    obtain ⟨rfl, rfl⟩ : _ ∧ _ := by simpa using h
    refine ⟨[n], rfl, fun ρ ρs x hk hx => ?_⟩
    obtain ⟨g, f, cp, h1, h2, rfl⟩ := hx.ptr_inv
    exact .ptr ((hk ns.length n (by simp)).trans h1) h2
  · rename_i n l c
    obtain ⟨rfl, rfl⟩ : _ ∧ _ := by simpa using h
    exact ⟨[n], rfl, fun ρ ρs x hk hx => vr_ren (hk ns.length n (by simp)) hx⟩
  · split at h
    · rename_i hp
      obtain ⟨rfl, rfl⟩ : _ ∧ _ := by simpa using h
      exact ⟨[], by simp, ren_plain hp⟩
    · cases h
def RenL (ns : List Nat) (l l' : List Value) : Prop := l.length = l'.length ∧ ∀ (k : Nat) v v', l[k]? = some v → l'[k]? = some v' → Ren ns v v'
theorem RenL.mono {ns t : List Nat} {l l' : List Value} (h : RenL ns l l') : RenL (ns ++ t) l l' := ⟨h.1, fun k v v' h1 h2 => (h.2 k v v' h1 h2).mono⟩
theorem RenL.cons {ns : List Nat} {l l' : List Value} {v v' : Value} (hv : Ren ns v v') (h : RenL ns l l') : RenL ns (v :: l) (v' :: l') := by
  refine ⟨by simp [h.1], fun k u u' h1 h2 => ?_⟩
  cases k with
  | zero =>
    obtain rfl : v = u := by simpa using h1
    obtain rfl : v' = u' := by simpa using h2
    exact hv
  | succ k => exact h.2 k u u' (by simpa using h1) (by simpa using h2)
theorem canL_ok : ∀ {l l' : List Value} {ns ns1 : List Nat}, canL ns l = some (l', ns1) → ∃ t, ns1 = ns ++ t ∧ RenL ns1 l l'
  | [], l', ns, ns1, h => by
    obtain ⟨rfl, rfl⟩ : _ ∧ _ := by simpa [canL] using h
    exact ⟨[], by simp, rfl, fun k v v' h1 _ => by simp at h1⟩
  | v :: r, l', ns, ns1, h => by
    simp only [canL] at h
    split at h
    rotate_left
    · cases h
    rename_i v' ns2 h1
    split at h
    rotate_left
    · cases h
    rename_i r' ns3 h2
    obtain ⟨rfl, rfl⟩ : _ ∧ _ := by simpa using h
    obtain ⟨t1, rfl, k1⟩ := canA_ok h1
    obtain ⟨t2, rfl, k2⟩ := canL_ok h2
    exact ⟨t1 ++ t2, by simp, k2.cons k1.mono⟩
theorem canV_ok {ns ns1 : List Nat} {v v' : Value} (h : canV ns v = some (v', ns1)) : ∃ t, ns1 = ns ++ t ∧ Ren ns1 v v' := by
  unfold canV at h
  split at h
  · rename_i fn c
    split at h
    rotate_left
    · cases h
    rename_i c' ns2 h1
    obtain ⟨rfl, rfl⟩ : _ ∧ _ := by simpa using h
    obtain ⟨t, rfl, hl, hr⟩ := canL_ok h1
    refine ⟨t, rfl, fun ρ ρs x hk hx => ?_⟩
    obtain ⟨f', c2, rfl, hf, hc⟩ := hx.func_inv
    refine .func (by simpa using hf.1) (by simpa [← hl] using hc.1) (fun i u u' h1 _ => by simp at h1) fun i u u' h1 h2 => ?_
    have h1 : c'[i]? = some u := by simpa using h1
    have hi : i < c.length := by
      have := (List.getElem?_eq_some_iff.1 h1).1
      omega
    obtain ⟨u0, h0⟩ : ∃ u0, c[i]? = some u0 := ⟨c[i], by simp [hi]⟩
    exact hr i u0 u h0 h1 ρ ρs u' hk (hc.2 i u0 u' (by simpa using h0) h2)
  · exact canA_ok h
theorem canVs_ok : ∀ {l l' : List Value} {ns ns1 : List Nat}, canVs ns l = some (l', ns1) → ∃ t, ns1 = ns ++ t ∧ RenL ns1 l l'
  | [], l', ns, ns1, h => by
    obtain ⟨rfl, rfl⟩ : _ ∧ _ := by simpa [canVs] using h
    exact ⟨[], by simp, rfl, fun k v v' h1 _ => by simp at h1⟩
  | v :: r, l', ns, ns1, h => by
    simp only [canVs] at h
    split at h
    rotate_left
    · cases h
    rename_i v' ns2 h1
    split at h
    rotate_left
    · cases h
    rename_i r' ns3 h2
    obtain ⟨rfl, rfl⟩ : _ ∧ _ := by simpa using h
    obtain ⟨t1, rfl, k1⟩ := canV_ok h1
    obtain ⟨t2, rfl, k2⟩ := canVs_ok h2
    exact ⟨t1 ++ t2, by simp, k2.cons k1.mono⟩
/-- So many blocks have been read. -/
def Red (s : FS) (ns : List Nat) (css : List Cs) (i : Nat) : Prop := css.length = i ∧ ∀ (j : Nat) cs, css[j]? = some cs → ∃ n b, ns[j]? = some n ∧ s.blk n = some b ∧ b.live = true ∧ RenL ns b.cells cs.list
theorem Red.mono {s : FS} {ns t : List Nat} {css : List Cs} {i : Nat} (h : Red s ns css i) : Red s (ns ++ t) css i := ⟨h.1, fun j cs hj => by
  obtain ⟨n, b, h1, h2, h3, h4⟩ := h.2 j cs hj
  refine ⟨n, b, ?_, h2, h3, h4.mono⟩
  rw [List.getElem?_append_left (List.getElem?_eq_some_iff.1 h1).1]
  exact h1⟩
theorem Red.snoc {s : FS} {ns : List Nat} {css : List Cs} {i : Nat} (h : Red s ns css i) {n : Nat} {b : Blk} {cs : Cs} (h1 : ns[i]? = some n) (h2 : s.blk n = some b) (h3 : b.live = true) (h4 : RenL ns b.cells cs.list) : Red s ns (css ++ [cs]) (i + 1) := by
  refine ⟨by simp [h.1], fun j cs' hj => ?_⟩
  rw [List.getElem?_append] at hj
  split at hj
  · exact h.2 j cs' hj
  · rename_i hlt
    have hlt' : j < css.length + 1 := by
      have := (List.getElem?_eq_some_iff.1 hj).1
      simp at this
      omega
    obtain rfl : j = i := by have := h.1; omega
    have hz : j - css.length = 0 := by have := h.1; omega
    rw [hz] at hj
    obtain rfl : cs = cs' := by simpa using hj
    exact ⟨n, b, h1, h2, h3, h4⟩
theorem renL_self {ns : List Nat} {l : List Value} (h : ∀ v ∈ l, plainV v = true) : RenL ns l l := ⟨rfl, fun k v v' h1 h2 => by
  rw [h1] at h2
  obtain rfl : v = v' := by simpa using h2
  exact ren_plain (h v (List.mem_of_getElem? h1))⟩
theorem rdMem_ok {s : FS} : ∀ (q i : Nat) {ns : List Nat} {css : List Cs} {F : List Nat} {D : List Cs}, (rdMem q i ns css).run s = some (F, D) → Red s ns css i → ∃ t, F = ns ++ t ∧ Red s F D F.length
  | 0, i, ns, css, F, D, h, _ => by simp [rdMem, Rd.run] at h
  | q + 1, i, ns, css, F, D, h, hr => by
    simp only [rdMem] at h
    split at h
    · rename_i hn
      obtain ⟨rfl, rfl⟩ : _ ∧ _ := by simpa [Rd.run] using h
      refine ⟨[], by simp, ?_⟩
      have hle : ns.length ≤ i := by simpa using hn
      have hge : i ≤ ns.length := by
        rcases Nat.eq_zero_or_pos i with h0 | h0
        · omega
        · obtain ⟨n, b, h1, _⟩ := hr.2 (i - 1) (css[i - 1]'(by have := hr.1; omega)) (by simp)
          have := (List.getElem?_eq_some_iff.1 h1).1
          omega
      have e : ns.length = i := by omega
      rw [e]
      exact hr
    · rename_i n hn
      simp only [Rd.run] at h
      split at h
      rotate_left
      · simp [Rd.run] at h
      rename_i b hb
      split at h
      rotate_left
      · simp [Rd.run] at h
      rename_i hl
      split at h
      · rename_i l hcs
        split at h
        rotate_left
        · simp [Rd.run] at h
        rename_i l' ns' hc
        obtain ⟨t1, rfl, k1⟩ := canVs_ok hc
        have hn' : (ns ++ t1)[i]? = some n := by
          rw [List.getElem?_append_left (List.getElem?_eq_some_iff.1 hn).1]
          exact hn
        obtain ⟨t2, rfl, k2⟩ := rdMem_ok q (i + 1) h (hr.mono.snoc hn' hb hl (cs := .vals l') (by unfold Blk.cells; rw [hcs]; exact k1))
        exact ⟨t1 ++ t2, by simp, k2⟩
      · rename_i cs hcs
        have hp : ∀ v ∈ b.cells, plainV v = true := by
          intro v hv
          unfold Blk.cells at hv
          generalize b.cs = c at *
          cases c with
          | vals l => exact absurd rfl (hcs l)
          | ints xs =>
            obtain ⟨y, _, rfl⟩ := List.mem_map.1 hv
            rfl
          | bytes xs =>
            obtain ⟨y, _, rfl⟩ := List.mem_map.1 hv
            rfl
        obtain ⟨t2, rfl, k2⟩ := rdMem_ok q (i + 1) h (hr.snoc hn hb hl (renL_self hp))
        exact ⟨t2, rfl, k2⟩
theorem live_place {ρ : Nat → Option Pl} {B : Nat → Prop} {w : World} {n : Nat} {b : Blk} (h : BlkOk ρ B w n b) (hl : b.live = true) : (∃ p, ρ n = some p ∧ nilPl p) ∨ ∃ g f cp, ρ n = some (g, f, cp) ∧ okPl f cp := by
  obtain ⟨kd, cs⟩ := b
  cases kd with
  | dead => cases hl
  | view =>
    rcases h with h | ⟨g, f, cp, h1, h2, _⟩
    · exact .inl h
    · exact .inr ⟨g, f, cp, h1, h2⟩
  | box =>
    obtain ⟨g, h1, _⟩ := h
    exact .inr ⟨g, 0, none, h1, .inl rfl⟩
  | row e sz =>
    rcases h with ⟨p, h1, h2, h3⟩ | ⟨g, cap, h1, _⟩
    · exact .inl ⟨p, h1, h2, 0, h3⟩
    · exact .inr ⟨g, 0, some cap, h1, .inl rfl⟩
theorem rfG_calls {P : Program} (hmx : P.follows .mixedOrders = true) {f : FuncId} {sp : PSpec} (hsp : PSpecOk P f sp) {args : List Value} {s : FS} {eff : Eff} (hr : (rfG sp args).run s = some eff)
    {B : Nat → Prop} {ρ0 ρ : Nat → Option Pl} {w : World} {args' : Array Value} (ha : VRs ρ args args') (hm : MemOk ρ0 ρ B s.blk w) (hB : ∀ k, B k → k < w.heap.size) (hcond : eff.cond) :
    Calls P f args' w fun e w' => ∃ v' ρ', e = .returned v' ∧ Ext ρ ρ' ∧ VR ρ' eff.val v' ∧ BelowK B w w' ∧ MemOk ρ0 ρ' B (s.upd none eff).blk w' := by
  unfold rfG at hr
  split at hr
  rotate_left
  · simp [Rd.run] at hr
  rename_i zs ns0 hc
  obtain ⟨⟨F, D⟩, h1, h2⟩ := bind_some hr
  split at h2
  rotate_left
  · simp [Rd.run] at h2
  rename_i v C hs
  obtain rfl : (⟨v, [], C⟩ : Eff) = eff := by simpa [Rd.run] using h2
  obtain ⟨t0, e0, k0⟩ := canVs_ok hc
  obtain ⟨t1, e1, hD, hR⟩ := rdMem_ok _ _ h1 ⟨rfl, fun j cs hj => by simp at hj⟩
  have k1 : RenL F args zs := by rw [e1]; exact k0.mono
  clear h1 h2 hr hc k0
  obtain ⟨E, m, n, hE, hv, ht⟩ := hsp _ _ _ _ hs hcond
  obtain ⟨u, mem', rfl, _, hdet⟩ := bodyM_ok hE hmx (runM_ok hmx hE m n) m f _ _ _ _ _ ht
  let ρs : Nat → Option Pl := fun k => (F[k]?).bind ρ
  have hk : ∀ (k : Nat) n, F[k]? = some n → ρs k = ρ n := fun k n h => by
    show (F[k]?).bind ρ = ρ n
    rw [h]
    rfl
  have hmem : MemOk (fun _ => none) ρs (fun k => k < w.heap.size) (fun k => (D.map fun cs => some (⟨.view, cs⟩ : Blk)).getD k none) w := by
    refine ⟨fun k q hq => by simp at hq, fun k hz => ?_, fun k b hb => ?_, fun k k' b b2 q q' hz hown _ _ _ _ _ _ _ => ?_⟩
    · have hz : D.length ≤ k := by
        rcases Nat.lt_or_ge k D.length with hlt | hge
        · simp [List.getD, hlt] at hz
        · exact hge
      show (F[k]?).bind ρ = none
      rw [List.getElem?_eq_none (by omega)]
      rfl
    · have hlt : k < D.length := by
        rcases Nat.lt_or_ge k D.length with hlt | hge
        · exact hlt
        · simp [List.getD, hge] at hb
      have hb : (⟨.view, D[k]⟩ : Blk) = b := by simpa [List.getD, hlt] using hb
      obtain ⟨n0, b0, q1, q2, q3, q4⟩ := hR k D[k] (by simp [hlt])
      rw [← hb]
      have hbo := hm.ok n0 b0 q2
      rcases live_place hbo q3 with ⟨p, p1, p2⟩ | ⟨g, fo, cp, p1, p2⟩
      · exact .inl ⟨p, (hk k n0 q1).trans p1, p2⟩
      · obtain ⟨c1, c2⟩ := live_cell hbo q3 p1 p2
        refine .inr ⟨g, fo, cp, (hk k n0 q1).trans p1, p2, c1, fun j v' hj => ?_⟩
        have hj : D[k].list[j]? = some v' := hj
        have hl : j < b0.cells.length := by
          have := (List.getElem?_eq_some_iff.1 hj).1
          have := q4.1
          omega
        obtain ⟨x, d1, d2⟩ := c2 j b0.cells[j] (by simp [hl])
        exact ⟨x, d1, q4.2 j b0.cells[j] v' (by simp [hl]) hj ρ ρs x hk d2⟩
    · have hlt : k < D.length := by
        rcases Nat.lt_or_ge k D.length with hlt | hge
        · exact hlt
        · simp [List.getD, hge] at hz
      have hz : (⟨.view, D[k]⟩ : Blk) = b := by simpa [List.getD, hlt] using hz
      rw [← hz] at hown
      cases hown
  have hargs : VRs ρs zs args' := ⟨by rw [← k1.1]; exact ha.1, fun i a x hi hx => by
    have hl : i < args.length := by
      have := (List.getElem?_eq_some_iff.1 hi).1
      have := k1.1
      omega
    exact k1.2 i args[i] a (by simp [hl]) hi ρ ρs x hk (ha.2 i args[i] x (by simp [hl]) hx)⟩
  refine (hdet ⟨w, fun _ => none, fun k => k < w.heap.size, fun k h => h, [], none⟩ ρs args' w hargs hmem (BelowK.refl _ _)).mono ?_
  rintro e2 w' ⟨v', ρ', rfl, _, hvv, hbel, _⟩
  have hb := hbel.to
  refine ⟨v', ρ, rfl, Ext.refl ρ, by rw [hvv.plain hv]; exact .lit hv, ⟨hbel.os, hbel.tape, hbel.output, hbel.size, fun k hkB => hbel.block k (hB k hkB)⟩, hm.keep hb⟩
theorem consJ_rf {P : Program} (hmx : P.follows .mixedOrders = true) {J : TabJ} (hJ : GSound P J.g) {f : FuncId} {sp : PSpec} (hent : enters P f) (hsp : PSpecOk P f sp) : GSound P (consJ f (fun _ => rfG sp) J).g := by
  intro h name args s eff hr hn
  simp only [consJ] at hr
  split at hr
  rotate_left
  · exact hJ h name args s eff hr hn
  rename_i heq
  obtain rfl := Nat.eq_of_beq_eq_true heq
  exact ⟨hent, fun B ρ0 ρ w args' ha hm hB hcond => rfG_calls hmx hsp hr ha hm hB hcond⟩
end Go.Proofs.Ytnjmepbblcfnfaa
namespace Go.Proofs.Ytnjmepbblcfnfaa
set_option linter.all false
open Go.RowKit
def LPw : FuncId → LT := fun f => match f with
  | 86 => lt1 e_pwo
  | _ => noL
def EPw : Env := mkE B0 (fun _ _ => none) LPw
theorem EPw_ok : EnvOk Try.prog EPw := mkEOk B0_ok (fun _ _ _ _ _ h => (by cases h)) (by
  intro f fn hf
  unfold LPw
  split
  all_goals first | with_reducible exact Lr_pwo hf | exact noL_good)
set_option maxRecDepth 100000 in
theorem tr_pw (n : Int) : bodyX Try.prog EPw 30 12 86 [.v (.int .i64 n)] = .need (n = n) (.need ((0 : Int) = (0 : Int)) (.need ((0 : Int) ≤ n ∧ n ≤ (20 : Int)) (.fin (.slice (some ⟨1, 0, none⟩) ((prI n.toNat 0).length) ((prI n.toNat 0).length)) [none, some ⟨.row 88 2, .ints (flat (prI n.toNat 0))⟩]))) := by kernel_rfl
abbrev rowQ (qs : List Pt) : Value := .slice (some ⟨0, 0, none⟩) qs.length qs.length
abbrev blkQ (qs : List Pt) : Blk := ⟨.row 88 2, .ints (flat qs)⟩
theorem resR_pw (n : Int) (h : 0 ≤ n ∧ n ≤ 20) : ResR Try.prog 86 [.v (.int .i64 n)] (rowQ (prL n.toNat)) (blkQ (prL n.toNat)) := by
  refine bodyX_resR mixed EPw_ok (m := 30) (n := 12) rfl ?_
  rw [tr_pw]
  exact ⟨rfl, rfl, h, some 1, ⟨rfl, rfl, rfl⟩, rfl, rfl, rfl⟩
def RPw : TabR := fun f ds => match f, ds with
  | 86, [.v (.int .i64 n)] => some (rowQ (prL n.toNat), blkQ (prL n.toNat), [0 ≤ n ∧ n ≤ 20])
  | _, _ => none
theorem RPw_ok : TabROk Try.prog RPw := by
  intro f ds v b C h hC
  unfold RPw at h
  split at h
  · obtain ⟨rfl, rfl, rfl⟩ : _ ∧ _ ∧ _ := by simpa using h
    exact resR_pw _ hC.1
  · cases h
def LDi : FuncId → LT := fun f => match f with
  | 82 => lt1 e_fao
  | 87 => lt1 e_fld
  | _ => noL
def ESq0 : Env := mkE T3 (fun _ _ => none) (fun _ => noL)
theorem ESq0_ok : EnvOk Try.prog ESq0 := mkEOk T3_ok (fun _ _ _ _ _ h => (by cases h)) (fun _ _ _ => noL_good)
set_option maxRecDepth 100000 in
theorem tr_dsq (xs : List Int) (n : Nat) (a b : Int) : bodyM Try.prog ESq0 (runM Try.prog ESq0 30 12) 30 85 [.agg ⟨[iv a, iv b]⟩, .pointer (some ⟨0, 0, none⟩)] [some ⟨.view, .vals [.slice (some ⟨1, 0, none⟩) n n]⟩, some ⟨.view, .ints xs⟩] .fin = brT (!(ptB (xs.getD (0 + a.toNat * 2) 0) (xs.getD (0 + a.toNat * 2 + 1) 0) && ptB (xs.getD (0 + b.toNat * 2) 0) (xs.getD (0 + b.toNat * 2 + 1) 0))) (.need ((0 : Int) ≤ a ∧ a < (↑n : Int)) (.need ((0 : Nat) + a.toNat * (2 : Nat) + (2 : Nat) ≤ xs.length) (.need ((0 : Int) ≤ b ∧ b < (↑n : Int)) (.need ((0 : Nat) + b.toNat * (2 : Nat) + (2 : Nat) ≤ xs.length) (.fin (.int .i64 (-1)) [some ⟨.view, .vals [.slice (some ⟨1, 0, none⟩) (n) (n)]⟩, some ⟨.view, .ints (xs)⟩, some ⟨.box, .vals [.int .i64 (a), .int .i64 (b)]⟩, none]))))) (.need ((0 : Int) ≤ a ∧ a < (↑n : Int)) (.need ((0 : Nat) + a.toNat * (2 : Nat) + (2 : Nat) ≤ xs.length) (.need ((0 : Int) ≤ b ∧ b < (↑n : Int)) (.need ((0 : Nat) + b.toNat * (2 : Nat) + (2 : Nat) ≤ xs.length) (.fin (.int .i64 (IntKind.i64.wrap (IntKind.i64.wrap (IntKind.i64.wrap (xs.getD (0 + a.toNat * 2) 0 - xs.getD (0 + b.toNat * 2) 0) * IntKind.i64.wrap (xs.getD (0 + a.toNat * 2) 0 - xs.getD (0 + b.toNat * 2) 0)) + IntKind.i64.wrap (IntKind.i64.wrap (xs.getD (0 + a.toNat * 2 + 1) 0 - xs.getD (0 + b.toNat * 2 + 1) 0) * IntKind.i64.wrap (xs.getD (0 + a.toNat * 2 + 1) 0 - xs.getD (0 + b.toNat * 2 + 1) 0))))) [some ⟨.view, .vals [.slice (some ⟨1, 0, none⟩) (n) (n)]⟩, some ⟨.view, .ints (xs)⟩, some ⟨.box, .vals [.int .i64 (a), .int .i64 (b)]⟩, none]))))) := by kernel_rfl
theorem dsq_run {ps : List Pt} {a b : Int} (h : ps.length ≤ 20) (hv : allV ps = true) (hi : inI ps.length (a, b)) :
    (bodyM Try.prog ESq0 (runM Try.prog ESq0 30 12) 30 85 [.agg ⟨[iv a, iv b]⟩, .pointer (some ⟨0, 0, none⟩)] [some ⟨.view, .vals [.slice (some ⟨1, 0, none⟩) ps.length ps.length]⟩, some ⟨.view, .ints (flat ps)⟩] .fin).ok (fun _ _ => False) (fun u _ => u = iv (dmV ps (a, b))) := by
  rw [tr_dsq]
  obtain ⟨q1, q2, q3, q4⟩ := hi
  simp only at q1 q2 q3 q4
  obtain ⟨u, rfl⟩ := Int.eq_ofNat_of_zero_le q1
  obtain ⟨v, rfl⟩ := Int.eq_ofNat_of_zero_le q3
  have b1 := allV_get hv u
  have b2 := allV_get hv v
  have t1 : ptB (ps.getD u (0, 0)).1 (ps.getD u (0, 0)).2 = true := by simpa [ptB] using b1
  have t2 : ptB (ps.getD v (0, 0)).1 (ps.getD v (0, 0)).2 = true := by simpa [ptB] using b2
  have m1 := mul_bd (x := (ps.getD u (0, 0)).1 - (ps.getD v (0, 0)).1) (y := (ps.getD u (0, 0)).1 - (ps.getD v (0, 0)).1) 2000 2000 (by omega) (by omega)
  have m2 := mul_bd (x := (ps.getD u (0, 0)).2 - (ps.getD v (0, 0)).2) (y := (ps.getD u (0, 0)).2 - (ps.getD v (0, 0)).2) 2000 2000 (by omega) (by omega)
  simp only [Int.toNat_natCast, Nat.zero_add, flat_get0, flat_get1, flat_length, t1, t2, Bool.and_self, Bool.not_true, brT_f]
  simp (disch := omega) only [wr]
  simp only [Tree.ok]
  repeat refine And.intro (by first | omega | exact ⟨by omega, by omega⟩) ?_
  rfl
def spDi : PSpec := fun zs css => match zs, css with
  | [.agg ⟨[.int .i64 a, .int .i64 b]⟩, .pointer (some ⟨0, 0, none⟩)], [.vals [.slice (some ⟨1, 0, none⟩) n c], .ints xs] => some (iv (dmV (ptsA n xs) (a, b)), [c = n, xs.length = n * 2, n ≤ 20, allV (ptsA n xs) = true, inI n (a, b)])
  | _, _ => none
theorem spDi_ok : PSpecOk Try.prog 85 spDi := by
  intro zs css v C h hC
  unfold spDi at h
  split at h
  rotate_left
  · cases h
  obtain ⟨rfl, rfl⟩ := Prod.mk.inj (Option.some.inj h)
  obtain ⟨rfl, h1, h2, h3, h4, _⟩ := hC
  obtain ⟨ps, rfl, rfl⟩ := even_flat h1
  rw [ptsA_flat] at h3 ⊢
  refine ⟨ESq0, 30, 12, ESq0_ok, rfl, ?_⟩
  simp only [List.map_cons, List.map_nil]
  with_reducible exact dsq_run h2 h3 h4
def JDi : TabJ := consJ 85 (fun _ => rfG spDi) noJ
theorem JDi_ok : GSound Try.prog JDi.g := consJ_rf mixed (failG_sound Try.prog) (entersB_res (by kernel_rfl)).1 spDi_ok
def EDi : Env := withT (mkE T3 RPw LDi) JDi
theorem EDi_ok : EnvOk Try.prog EDi := withT_ok (mkEOk T3_ok RPw_ok (by
  intro f fn hf
  unfold LDi
  split
  all_goals first | with_reducible exact Lr_fao hf | with_reducible exact Lr_fld hf | exact noL_good)) JDi_ok
set_option maxRecDepth 100000 in
theorem tr_iDi (ps : List Pt) : bodyV Try.prog EDi 30 12 27 [.row ps.length (.ints (flat ps))] = brT (decide ((↑ps.length : Int) ≤ 20)) (.need (ps.length * (2 : Nat) ≤ (List.drop (0 : Nat) (flat ps)).length) (.need (ps.length ≤ (1000000000 : Nat)) (brT (!allV (ptsA ps.length (List.drop 0 (flat ps)))) (.fin (.tuple #[.int .i64 (0), .int .i64 (0), .int .i64 (-1)]) []) (brT ((↑ps.length : Int) == 0) (.fin (.tuple #[.int .i64 (0), .int .i64 (0), .int .i64 (-1)]) []) (.need ((0 : Int) ≤ (↑ps.length : Int) ∧ (↑ps.length : Int) ≤ (20 : Int)) (.need ((0 : Int) = (0 : Int)) (.need ((-1 : Int) = (-1 : Int)) (.need ((0 : Int) = (0 : Int)) (.need ((↑(prL (↑ps.length : Int).toNat).length : Int) = (↑(prL (↑ps.length : Int).toNat).length : Int)) (.need ((flat ps).length = ps.length * (2 : Nat)) (.need (ps.length ≤ (20 : Nat)) (.need (allV (ptsA ps.length (flat ps)) = true) (.need ((flat (prL (↑ps.length : Int).toNat)).length = (prL (↑ps.length : Int).toNat).length * (2 : Nat)) (.need ((prL (↑ps.length : Int).toNat).length ≤ (1000000000 : Nat)) (.need (∀ (q : Pt), q ∈ ptsA (prL (↑ps.length : Int).toNat).length (flat (prL (↑ps.length : Int).toNat)) → inI ps.length q) (.need ((0 : Int) ≤ fl (dmV (ptsA ps.length (flat ps))) (ptsA (prL (↑ps.length : Int).toNat).length (flat (prL (↑ps.length : Int).toNat))) (0 : Nat) (-1 : Int) ∧ fl (dmV (ptsA ps.length (flat ps))) (ptsA (prL (↑ps.length : Int).toNat).length (flat (prL (↑ps.length : Int).toNat))) (0 : Nat) (-1 : Int) < (↑(prL (↑ps.length : Int).toNat).length : Int)) (.need ((0 : Nat) + (fl (dmV (ptsA ps.length (flat ps))) (ptsA (prL (↑ps.length : Int).toNat).length (flat (prL (↑ps.length : Int).toNat))) (0 : Nat) (-1 : Int)).toNat * (2 : Nat) + (2 : Nat) ≤ (flat (prL (↑ps.length : Int).toNat)).length) (.need (ps.length = ps.length) (.need ((flat ps).length = ps.length * (2 : Nat)) (.need (ps.length ≤ (20 : Nat)) (.need (allV (ptsA ps.length (flat ps)) = true) (.need (inI ps.length ((flat (prL (↑ps.length : Int).toNat)).getD ((0 : Nat) + (fl (dmV (ptsA ps.length (flat ps))) (ptsA (prL (↑ps.length : Int).toNat).length (flat (prL (↑ps.length : Int).toNat))) (0 : Nat) (-1 : Int)).toNat * (2 : Nat)) (0 : Int), (flat (prL (↑ps.length : Int).toNat)).getD ((0 : Nat) + (fl (dmV (ptsA ps.length (flat ps))) (ptsA (prL (↑ps.length : Int).toNat).length (flat (prL (↑ps.length : Int).toNat))) (0 : Nat) (-1 : Int)).toNat * (2 : Nat) + (1 : Nat)) (0 : Int))) (.fin (.tuple #[.int .i64 ((flat (prL (↑ps.length : Int).toNat)).getD (0 + (fl (dmV (ptsA ps.length (flat ps))) (ptsA (prL (↑ps.length : Int).toNat).length (flat (prL (↑ps.length : Int).toNat))) 0 (-1)).toNat * 2) 0), .int .i64 ((flat (prL (↑ps.length : Int).toNat)).getD (0 + (fl (dmV (ptsA ps.length (flat ps))) (ptsA (prL (↑ps.length : Int).toNat).length (flat (prL (↑ps.length : Int).toNat))) 0 (-1)).toNat * 2 + 1) 0), .int .i64 (dmV (ptsA ps.length (flat ps)) ((flat (prL (↑ps.length : Int).toNat)).getD (0 + (fl (dmV (ptsA ps.length (flat ps))) (ptsA (prL (↑ps.length : Int).toNat).length (flat (prL (↑ps.length : Int).toNat))) 0 (-1)).toNat * (2 : Nat)) 0, (flat (prL (↑ps.length : Int).toNat)).getD (0 + (fl (dmV (ptsA ps.length (flat ps))) (ptsA (prL (↑ps.length : Int).toNat).length (flat (prL (↑ps.length : Int).toNat))) 0 (-1)).toNat * (2 : Nat) + 1) 0))]) []))))))))))))))))))))))) (.fin (.tuple #[.int .i64 (0), .int .i64 (0), .int .i64 (-1)]) []) := by kernel_rfl
set_option maxRecDepth 100000 in
theorem tr_sFa (ps : List Pt) : bodyV Try.prog EDi 30 12 82 [.row ps.length (.ints (flat ps))] = .need ((0 : Int) = (0 : Int)) (.need ((0 : Int) = (0 : Int)) (.need ((0 : Int) = (0 : Int)) (.need ((flat ps).length = ps.length * (2 : Nat)) (.need (ps.length ≤ (20 : Nat)) (.need (allV (ptsA ps.length (flat ps)) = true) (.need ((0 : Nat) < ps.length) (.fin (.tuple #[.int .i64 ((bsI (ptsA ps.length (flat ps)) 0 (0, 0)).1), .int .i64 ((bsI (ptsA ps.length (flat ps)) 0 (0, 0)).2)]) []))))))) := by kernel_rfl
theorem res_sFa {ps : List Pt} (hv : allV ps = true) (h : ps.length ≤ 20) (h0 : 0 < ps.length) : Res Try.prog 82 [.row ps.length (.ints (flat ps))] (.tuple #[iv (dmP ps).1, iv (dmP ps).2]) := by
  refine bodyV_res mixed EDi_ok (m := 30) (n := 12) rfl ?_
  rw [tr_sFa]
  simp only [ptsA_flat]
  refine ⟨?_, ?_, ?_, flat_length ps, h, hv, h0, rfl⟩ <;> first | trivial | rfl
def pFar : List DArg → Option (Value × List Prop)
  | [.row m (.ints xs)] => some (.tuple #[iv (dmP (ptsA m xs)).1, iv (dmP (ptsA m xs)).2], [m * 2 ≤ xs.length, m ≤ 20, allV (ptsA m xs) = true, 0 < m])
  | _ => none
theorem pFar_ok {ds : List DArg} {v : Value} {C : List Prop} (h : pFar ds = some (v, C)) (hC : AllP C) : Res Try.prog 82 ds v := by
  unfold pFar at h
  split at h
  · rename_i m xs
    obtain ⟨rfl, rfl⟩ := Prod.mk.inj (Option.some.inj h)
    obtain ⟨_, h2⟩ := ptsA_spec hC.1
    exact res_pts1 (pre := []) (post := []) hC.1 (res_sFa hC.2.2.1 (by rw [h2]; exact hC.2.1) (by rw [h2]; exact hC.2.2.2.1))
  · cases h
def TFa : Tab := fun f ds => match f with
  | 82 => pFar ds
  | f => T3 f ds
theorem TFa_ok : TabOk Try.prog TFa := by
  intro f ds v C h hC
  unfold TFa at h
  (try split at h)
  all_goals first | with_reducible exact pFar_ok h hC | exact T3_ok _ _ _ _ h hC
def EFa : Env := mkE TFa (fun _ _ => none) (fun _ => noL)
theorem EFa_ok : EnvOk Try.prog EFa := mkEOk TFa_ok (fun _ _ _ _ _ h => (by cases h)) (fun _ _ _ => noL_good)
set_option maxRecDepth 100000 in
theorem tr_sDi (ps : List Pt) : bodyV Try.prog EFa 30 12 25 [.row ps.length (.ints (flat ps))] = .need (ps.length * (2 : Nat) ≤ (List.drop (0 : Nat) (flat ps)).length) (.need (ps.length ≤ (1000000000 : Nat)) (brT (!okL (ptsA ps.length (List.drop 0 (flat ps)))) (.fin (.tuple #[.int .i64 (0), .int .i64 (0), .int .i64 (-1)]) []) (brT ((↑ps.length : Int) == 0) (.fin (.tuple #[.int .i64 (0), .int .i64 (0), .int .i64 (-1)]) []) (.need (ps.length * (2 : Nat) ≤ (List.drop (0 : Nat) (flat ps)).length) (.need (ps.length ≤ (20 : Nat)) (.need (allV (ptsA ps.length (List.drop (0 : Nat) (flat ps))) = true) (.need ((0 : Nat) < ps.length) (.need ((0 : Int) ≤ (dmP (ptsA ps.length (List.drop (0 : Nat) (flat ps)))).1 ∧ (dmP (ptsA ps.length (List.drop (0 : Nat) (flat ps)))).1 < (↑ps.length : Int)) (.need ((0 : Nat) + (dmP (ptsA ps.length (List.drop (0 : Nat) (flat ps)))).1.toNat * (2 : Nat) + (2 : Nat) ≤ (flat ps).length) (.need ((0 : Int) ≤ (dmP (ptsA ps.length (List.drop (0 : Nat) (flat ps)))).2 ∧ (dmP (ptsA ps.length (List.drop (0 : Nat) (flat ps)))).2 < (↑ps.length : Int)) (.need ((0 : Nat) + (dmP (ptsA ps.length (List.drop (0 : Nat) (flat ps)))).2.toNat * (2 : Nat) + (2 : Nat) ≤ (flat ps).length) (.fin (.tuple #[.int .i64 ((dmP (ptsA ps.length (List.drop 0 (flat ps)))).1), .int .i64 ((dmP (ptsA ps.length (List.drop 0 (flat ps)))).2), .int .i64 (IntKind.i64.wrap (IntKind.i64.wrap (IntKind.i64.wrap ((flat ps).getD (0 + (dmP (ptsA ps.length (List.drop 0 (flat ps)))).1.toNat * 2) 0 - (flat ps).getD (0 + (dmP (ptsA ps.length (List.drop 0 (flat ps)))).2.toNat * 2) 0) * IntKind.i64.wrap ((flat ps).getD (0 + (dmP (ptsA ps.length (List.drop 0 (flat ps)))).1.toNat * 2) 0 - (flat ps).getD (0 + (dmP (ptsA ps.length (List.drop 0 (flat ps)))).2.toNat * 2) 0)) + IntKind.i64.wrap (IntKind.i64.wrap ((flat ps).getD (0 + (dmP (ptsA ps.length (List.drop 0 (flat ps)))).1.toNat * 2 + 1) 0 - (flat ps).getD (0 + (dmP (ptsA ps.length (List.drop 0 (flat ps)))).2.toNat * 2 + 1) 0) * IntKind.i64.wrap ((flat ps).getD (0 + (dmP (ptsA ps.length (List.drop 0 (flat ps)))).1.toNat * 2 + 1) 0 - (flat ps).getD (0 + (dmP (ptsA ps.length (List.drop 0 (flat ps)))).2.toNat * 2 + 1) 0))))]) [])))))))))))) := by kernel_rfl
def diK (ps : List Pt) : Bool := okL ps && decide (0 < ps.length)
def diA (ps : List Pt) : Int := bif diK ps then (dmP ps).1 else 0
def diB (ps : List Pt) : Int := bif diK ps then (dmP ps).2 else 0
def diN (ps : List Pt) : Int := bif diK ps then dmV ps (dmP ps) else -1
abbrev diV (ps : List Pt) : Value := .tuple #[iv (diA ps), iv (diB ps), iv (diN ps)]
theorem okL_20' {ps : List Pt} (h : okL ps = true) : allV ps = true ∧ ps.length ≤ 20 := by
  simpa only [okL, Bool.and_eq_true, decide_eq_true_eq] using h
theorem res_iDi (ps : List Pt) (h : Big ps) : Res Try.prog 27 [.row ps.length (.ints (flat ps))] (diV ps) := by
  refine bodyV_res mixed EDi_ok (m := 30) (n := 12) rfl ?_
  rw [tr_iDi]
  unfold Big at h
  simp only [List.drop_zero, ptsA_flat, flat_length, Int.toNat_natCast, Nat.zero_add]
  unfold diV diA diB diN diK okL
  by_cases hl : ps.length ≤ 20
  · have hl2 : (ps.length : Int) ≤ 20 := by omega
    rw [decide_eq_true hl2, decide_eq_true hl]
    rcases hk : allV ps with _ | _
    · simp [Tree.ok, brT, h]
    · rcases Nat.eq_zero_or_pos ps.length with h0 | h0
      · simp [Tree.ok, brT, h0]
      · have hb : ((ps.length : Int) == 0) = false := beq_eq_false_iff_ne.2 (by omega)
        obtain ⟨p1, p2⟩ := prL_0 h0
        have pl : (prL ps.length).length ≤ 1000 := by
          have := prA_len ps.length ps.length 0
          have m : ps.length * ps.length ≤ 20 * 20 := Nat.mul_le_mul hl hl
          unfold prL
          omega
        have e1 : fl (dmV ps) (prL ps.length) 0 (-1) = (ag (dmV ps) (prL ps.length) (prL ps.length).length 0 0 : Nat) := by
          have e := ag_step (f := dmV ps) p2 0
          rw [Nat.sub_zero, if_neg (Int.lt_irrefl _)] at e
          unfold fl
          rw [if_pos (by omega), if_neg (by omega), e]
        have e2 := dmP_ag h0
        have jl : ag (dmV ps) (prL ps.length) (prL ps.length).length 0 0 < (prL ps.length).length := by
          have key : ∀ (n i b : Nat), b < (prL ps.length).length → i + n ≤ (prL ps.length).length → ag (dmV ps) (prL ps.length) n i b < (prL ps.length).length := by
            intro n
            induction n with
            | zero => exact fun i b h _ => h
            | succ n ih => exact fun i b h h2 => ih (i + 1) _ (by split <;> omega) (by omega)
          exact key _ _ _ p2 (by omega)
        have hin := dmP_in h0
        rw [e1]
        simp only [Int.toNat_natCast, flat_get0, flat_get1, e2, hb, decide_eq_true h0, Bool.and_self, Bool.not_true, cond_true, brT_t, brT_f, Tree.ok]
        generalize ag (dmV ps) (prL ps.length) (prL ps.length).length 0 0 = j at *
        repeat' (first | exact True.intro | exact rfl | assumption | omega | exact (fun q hq => (by have := prL_mem.1 hq; exact ⟨by omega, by omega, by omega, by omega⟩)) | exact (⟨by omega, by omega, by omega, by omega⟩ : inI ps.length _) | refine And.intro ?_ ?_)
  · have hl2 : ¬ (ps.length : Int) ≤ 20 := by omega
    rw [decide_eq_false hl2, decide_eq_false hl]
    simp [Tree.ok, brT]
theorem dm_sq {ps : List Pt} (h0 : 0 < ps.length) : (dmP ps).1 = ((dmP ps).1.toNat : Int) ∧ (dmP ps).2 = ((dmP ps).2.toNat : Int) ∧ (dmP ps).1.toNat < ps.length ∧ (dmP ps).2.toNat < ps.length := by
  have hin := dmP_in h0
  omega
theorem res_sDi (ps : List Pt) (h : Big ps) : Res Try.prog 25 [.row ps.length (.ints (flat ps))] (diV ps) := by
  refine bodyV_res mixed EFa_ok (m := 30) (n := 12) rfl ?_
  rw [tr_sDi]
  unfold Big at h
  simp only [List.drop_zero, ptsA_flat, flat_length, Nat.zero_add]
  unfold diV diA diB diN diK
  rcases ho : okL ps with _ | _
  · simp [Tree.ok, brT, h]
  · obtain ⟨hv, hl⟩ := okL_20' ho
    rcases Nat.eq_zero_or_pos ps.length with h0 | h0
    · simp [Tree.ok, brT, h0]
    · have hb : ((ps.length : Int) == 0) = false := beq_eq_false_iff_ne.2 (by omega)
      have hin := dmP_in h0
      obtain ⟨d1, d2, d3, d4⟩ := dm_sq h0
      have b1 := allV_get hv (dmP ps).1.toNat
      have b2 := allV_get hv (dmP ps).2.toNat
      have hd : dmV ps (dmP ps) = sq (ps.getD (dmP ps).1.toNat (0, 0)) (ps.getD (dmP ps).2.toNat (0, 0)) := rfl
      unfold sq at hd
      simp only [flat_get0, flat_get1]
      generalize ps.getD (dmP ps).1.toNat (0, 0) = p at *
      generalize ps.getD (dmP ps).2.toNat (0, 0) = q at *
      have m1 := mul_bd (x := p.1 - q.1) (y := p.1 - q.1) 2000 2000 (by omega) (by omega)
      have m2 := mul_bd (x := p.2 - q.2) (y := p.2 - q.2) 2000 2000 (by omega) (by omega)
      simp (disch := omega) only [wr]
      rw [hd]
      simp only [hb, decide_eq_true h0, Bool.and_self, Bool.not_true, cond_true, brT_t, brT_f, Tree.ok]
      repeat' (first | exact True.intro | exact rfl | assumption | omega | refine And.intro ?_ ?_)
def pDi : List DArg → Option (Value × List Prop)
  | [.row m (.ints xs)] => some (.tuple #[iv (diA (ptsA m xs)), iv (diB (ptsA m xs)), iv (diN (ptsA m xs))], [m * 2 ≤ xs.length, m ≤ 1000000000])
  | _ => none
theorem pDi_ok {f : FuncId} (H : ∀ ps : List Pt, Big ps → Res Try.prog f [.row ps.length (.ints (flat ps))] (diV ps)) {ds : List DArg} {v : Value} {C : List Prop} (h : pDi ds = some (v, C)) (hC : AllP C) : Res Try.prog f ds v := by
  unfold pDi at h
  split at h
  · rename_i m xs
    obtain ⟨rfl, rfl⟩ := Prod.mk.inj (Option.some.inj h)
    obtain ⟨_, h2⟩ := ptsA_spec hC.1
    exact res_pts1 (pre := []) (post := []) hC.1 (H (ptsA m xs) (by unfold Big; rw [h2]; exact hC.2.1))
  · cases h
def TDi : Tab := fun f ds => match f with
  | 27 => pDi ds
  | 25 => pDi ds
  | f => T3 f ds
theorem TDi_ok : TabOk Try.prog TDi := by
  intro f ds v C h hC
  unfold TDi at h
  (try split at h)
  all_goals first | with_reducible exact pDi_ok res_iDi h hC | with_reducible exact pDi_ok res_sDi h hC | exact T3_ok _ _ _ _ h hC
def EDj : Env := mkE TDi R4 (fun _ => noL)
theorem EDj_ok : EnvOk Try.prog EDj := mkEOk TDi_ok R4_ok (fun _ _ _ => noL_good)
set_option maxRecDepth 100000 in
theorem tr_exDi (ps : List Pt) : bodyV Try.prog EDj 30 12 4 [.row ps.length (.ints (flat ps))] = brT (decide (IntKind.i64.wrap (1048576 - (↑ps.length : Int)) < 0)) (.fin (.bool (true)) []) (brT (decide (IntKind.i64.wrap (1048576 - (↑ps.length : Int)) < 0)) (.fin (.bool (true)) []) (.need (ps.length * (2 : Nat) ≤ (List.drop (0 : Nat) (flat ps)).length) (.need (ps.length ≤ (1000000000 : Nat)) (.need (ps.length * (2 : Nat) ≤ (List.drop (0 : Nat) (List.take (ps.length * (2 : Nat)) (List.drop (0 : Nat) (flat ps)))).length) (.need (ps.length ≤ (1000000000 : Nat)) (.need (ps.length * (2 : Nat) ≤ (List.drop (0 : Nat) (flat ps)).length) (.need (ps.length ≤ (1000000000 : Nat)) (.need (ps.length * (2 : Nat) ≤ (List.drop (0 : Nat) (List.take (ps.length * (2 : Nat)) (List.drop (0 : Nat) (flat ps)))).length) (.need (ps.length ≤ (1000000000 : Nat)) (brT (!diA (ptsA ps.length (List.drop 0 (List.take (ps.length * 2) (List.drop 0 (flat ps))))) == diA (ptsA ps.length (List.drop 0 (List.take (ps.length * 2) (List.drop 0 (flat ps)))))) (.fin (.bool (false)) []) (brT (!diB (ptsA ps.length (List.drop 0 (List.take (ps.length * 2) (List.drop 0 (flat ps))))) == diB (ptsA ps.length (List.drop 0 (List.take (ps.length * 2) (List.drop 0 (flat ps)))))) (.fin (.bool (false)) []) (brT (!diN (ptsA ps.length (List.drop 0 (List.take (ps.length * 2) (List.drop 0 (flat ps))))) == diN (ptsA ps.length (List.drop 0 (List.take (ps.length * 2) (List.drop 0 (flat ps)))))) (.fin (.bool (false)) []) (.need (ps.length * (2 : Nat) ≤ (List.drop (0 : Nat) (flat ps)).length) (.need (ps.length ≤ (1000000000 : Nat)) (.need (ps.length * (2 : Nat) ≤ (List.drop (0 : Nat) (List.take (ps.length * (2 : Nat)) (List.drop (0 : Nat) (flat ps)))).length) (.need (ps.length * (2 : Nat) ≤ (List.drop (0 : Nat) (List.take (ps.length * (2 : Nat)) (List.drop (0 : Nat) (flat ps)))).length) (.need (ps.length ≤ (1000000000 : Nat)) (brT (!eqL (ptsA ps.length (List.drop 0 (List.take (ps.length * 2) (List.drop 0 (flat ps))))) (ptsA ps.length (List.drop 0 (List.take (ps.length * 2) (List.drop 0 (flat ps)))))) (.fin (.bool (false)) []) (.fin (.bool (true)) []))))))))))))))))))) := by kernel_rfl
theorem ExactDiameter_res (ps : List Pt) (h : (ps.length : Int) ≤ 9223372036854775807) : Res Try.prog 4 [.row ps.length (.ints (flat ps))] (.bool true) := by
  refine bodyV_res mixed EDj_ok (m := 30) (n := 12) rfl ?_
  rw [tr_exDi]
  simp only [List.drop_zero, flat_all, ptsA_flat, flat_length]
  by_cases hl : (1048576 : Int) - ps.length < 0
  · simp (disch := omega) only [wr]
    simp only [hl, decide_true, brT_t, Tree.ok]
  · simp (disch := omega) only [wr]
    simp only [hl, decide_false, brT_f, Tree.ok, beq_self_eq_true, bne_self_eq_false, Bool.not_true, eqL, decide_true]
    repeat' (first | exact True.intro | omega | exact rfl | refine And.intro ?_ ?_)
end Go.Proofs.Ytnjmepbblcfnfaa
namespace Go.Proofs.Ytnjmepbblcfnfaa.fnExactDiameter
set_option linter.all false
open Go.ChangeShapes Go.WideShapes Go.ChangeAt Go.RowKit
set_option maxRecDepth 100000 in
theorem lifted (os : Os) (started : os.Started) (H : Type) (enc : TypeId × Value → H) :
    ReturnsInHanded {} Try.checked os 4 .any (Rows.fnExactDiameterSpec.pre6 enc Try.prog Try.f4 Rows.fnExactDiameterRow.domain false) (Rows.fnExactDiameterSpec.post enc Try.prog Try.f4 false true false false) := by
  refine returnsInHanded_of_change (C := Try.checked) own started (by kernel_rfl) Try.func4
    (ChangeSpec.witness6 (enc := enc) (C := Try.checked) false ⟨#[], #[.slice none 0 0], []⟩ 8 (by kernel_rfl) (by kernel_rfl) (by kernel_rfl) (by kernel_rfl)) ?_
  intro W base args ds gs before hval0 hW _ _
  have hval : ∀ (j : Nat) t v, Try.f4.params[j]? = some t → args[j]? = some v → Value.okWide Try.prog W .any base t v := hval0
  have hW0 := hW
  obtain ⟨p, q, hA, hV, rfl, _, _⟩ := hW0
  rw [Try.params4] at hA hval
  obtain ⟨v0, vs0, d0, ds0, p0, q0, hargs, rfl, rfl, h0, r0⟩ := trodAll_cons hA
  obtain ⟨rfl, rfl, rfl⟩ := trodAll_nil r0
  obtain rfl : args = #[v0] := by cases args; simp_all
  obtain ⟨rfl, rfl⟩ := trodVars_none hV
  obtain ⟨n0, xs0, hm0, hx0, hd0⟩ := arg_rows (k := 2) (by omega) Try.underlying33 Try.underlying86 (by kernel_rfl) (by kernel_rfl) rfl (fields_int (by kernel_rfl)) (hval 0 33 v0 rfl rfl) h0
  obtain ⟨ps0, rfl, rfl⟩ := even_flat hx0
  refine ((ExactDiameter_res ps0 (len_fits hm0)).2.2.2.2 W _ (doks_cons hd0 doks_nil)).mono fun e W' ⟨he, hb⟩ => ?_
  subst he
  exact ⟨_, rfl, law_post laid_out u4 rfl rfl (by rw [Try.params4]; exact of_decide_eq_true (by kernel_rfl)) ⟨rfl, rfl, rfl⟩ hW hb⟩
theorem proved : Rows.FnExactDiameterSaid :=
  OpenClaim.holds_of_wide 4 Try.f4 rfl rfl rfl rfl rfl rfl rfl ⟨rfl, rfl, rfl, rfl, rfl⟩ rfl rfl rfl rfl rfl (by kernel_rfl) Try.func4 (by kernel_rfl)
    (of_decide_eq_true (by kernel_rfl)) (by unfold Func.isWrapper; rw [if_neg (of_decide_eq_false (by kernel_rfl))]; exact ⟨rfl, rfl⟩)
    (fun os started H enc _ => lifted os started H enc)
end Go.Proofs.Ytnjmepbblcfnfaa.fnExactDiameter
