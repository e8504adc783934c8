/-
  Lists of rectangles: copied, compared, which are valid; loops. Written by an AI agent.
-/
import Derived.Test.YtfjcbindeimoiabHf
import Derived.Test.YtfjcbindeimoiabRc
namespace Go.Proofs.Ytfjcbindeimoiab
open Go.RowKit

def TRc : Tab := fun f ds => match f with
  | 68 => pRc ds
  | 71 => pRc ds
  | f => T3 f ds
theorem TRc_ok : TabOk Try.prog TRc := by
  intro f ds v C h hC
  unfold TRc at h
  split at h
  all_goals first | with_reducible exact rcS h | with_reducible exact rcI h | exact T3_ok _ _ _ _ h hC
def ERc : Env := mkE TRc (fun _ _ => none) (fun _ => noL)
theorem ERc_ok : EnvOk Try.prog ERc := mkEOk TRc_ok (fun _ _ _ _ _ h => (by cases h)) (fun _ _ _ => noL_good)
/-- The rectangle at j. -/
def rcQ (xs : List Int) (j : Nat) : Bool := rcB (xs.getD (j * 4) 0) (xs.getD (j * 4 + 1) 0) (xs.getD (j * 4 + 2) 0) (xs.getD (j * 4 + 3) 0)
theorem drop4 {xs : List Int} {o : Nat} (h : o + 4 ≤ xs.length) : xs.drop o = [xs.getD o 0, xs.getD (o + 1) 0, xs.getD (o + 2) 0, xs.getD (o + 3) 0] ++ xs.drop (o + 4) := by
  rw [drop_cons (l := xs) (k := o) (by omega) 0, drop_cons (l := xs) (k := o + 1) (by omega) 0, drop_cons (l := xs) (k := o + 2) (by omega) 0, drop_cons (l := xs) (k := o + 3) (by omega) 0]
  rfl
noncomputable def c_toRc : Code := ((loopsOf (codeOf Try.f61))[0]?).getD .skip
def k_toRc : Ex → List Nat := keeps [0, 3, 4] [(0, [3])] [2]
def s_toRc (xs : List Int) (n : Nat) : Nat × (List Int) → St := fun (i, ys) => ⟨[.slice (some ⟨0, 0, none⟩) n n, topV, topV, .slice (some ⟨1, 0, none⟩) n n, .int .i64 i, topV, topV, topV, topV, topV, topV, topV, topV, topV, topV, topV, topV, topV, topV, topV, topV, topV, topV], [some ⟨.view, .ints xs⟩, some ⟨.row 34 4, .ints ys⟩]⟩
def re_toRc : Nat × (List Int) → Ex := fun _ => .exit 0
def rs_toRc (xs : List Int) (n : Nat) : Nat × (List Int) → St := fun (i, ys) => ⟨[topV, topV, topV, .slice (some ⟨1, 0, none⟩) n n, topV, topV, topV, topV, topV, topV, topV, topV, topV, topV, topV, topV, topV, topV, topV, topV, topV, topV, topV], [some ⟨.view, .ints xs⟩, some ⟨.row 34 4, .ints xs⟩]⟩
set_option maxRecDepth 100000 in
theorem tr_toRc (xs : List Int) (n : Nat) (i : Nat) (ys : List Int) : bodyL Try.prog EM 30 12 noL 1 c_toRc k_toRc 2 (s_toRc xs n (i, ys)) = brT (decide ((↑i : Int) < (↑n : Int))) (.need ((0 : Int) ≤ (↑i : Int) ∧ (↑i : Int) < (↑n : Int)) (.need ((0 : Nat) + (↑i : Int).toNat * (4 : Nat) + (4 : Nat) ≤ xs.length) (.need ((0 : Int) ≤ (↑i : Int) ∧ (↑i : Int) < (↑n : Int)) (.need ((0 : Nat) + (↑i : Int).toNat * (4 : Nat) + (4 : Nat) ≤ ys.length) (.leaf .normal ⟨[.slice (some ⟨0, 0, none⟩) (n) (n), topV, topV, .slice (some ⟨1, 0, none⟩) (n) (n), .int .i64 (IntKind.i64.wrap ((↑i : Int) + 1)), topV, topV, topV, topV, topV, topV, topV, topV, topV, topV, topV, topV, topV, topV, topV, topV, topV, topV], [some ⟨.view, .ints (xs)⟩, some ⟨.row 34 4, .ints (setInts ys (0 + (↑i : Int).toNat * 4) [xs.getD (0 + (↑i : Int).toNat * 4) 0, xs.getD (0 + (↑i : Int).toNat * 4 + 1) 0, xs.getD (0 + (↑i : Int).toNat * 4 + 1 + 1) 0, xs.getD (0 + (↑i : Int).toNat * 4 + 1 + 1 + 1) 0])⟩]⟩))))) (.leaf (.exit 0) ⟨[topV, topV, topV, .slice (some ⟨1, 0, none⟩) (n) (n), topV, topV, topV, topV, topV, topV, topV, topV, topV, topV, topV, topV, topV, topV, topV, topV, topV, topV, topV], [some ⟨.view, .ints (xs)⟩, some ⟨.row 34 4, .ints (ys)⟩]⟩) := by kernel_rfl
set_option maxRecDepth 100000 in
theorem nl_toRc : loopsOf c_toRc = [] := by kernel_rfl
def inv_toRc (xs : List Int) (n : Nat) : Nat × (List Int) → Prop := fun (i, ys) => i ≤ n ∧ ys.length = n * 4 ∧ ys.take (i * 4) = xs.take (i * 4)
def me_toRc (xs : List Int) (n : Nat) : Nat × (List Int) → Nat := fun (i, ys) => n - i
/-- A round of this loop. -/
def Round_toRc (xs : List Int) (n : Nat) : Prop := ∀ xx : Nat × (List Int), inv_toRc xs n xx → (bodyL Try.prog EM 30 12 noL 1 c_toRc k_toRc 2 (s_toRc xs n xx)).ok (RoundEnd 2 (s_toRc xs n) (inv_toRc xs n) (me_toRc xs n) re_toRc (rs_toRc xs n) xx) (fun _ _ => False)
def e_toRc (s : St) (k : Ex → St → Tree) : Option Tree := match Nat.beq s.tmps.length 23, pickL s.tmps [0, 3, 4], s.mem with
  | true, [.slice (some ⟨0, 0, none⟩) n _, .slice (some ⟨1, 0, none⟩) m _, .int .i64 i], [some ⟨.view, .ints xs⟩, some ⟨.row 34 4, .ints ys⟩] => some (needs [i = 0, m = n, xs.length = n * 4, ys.length = n * 4, n ≤ 1000000000] (k (.exit 0) ⟨[topV, topV, topV, .slice (some ⟨1, 0, none⟩) n n, topV, topV, topV, topV, topV, topV, topV, topV, topV, topV, topV, topV, topV, topV, topV, topV, topV, topV, topV], [some ⟨.view, .ints xs⟩, some ⟨.row 34 4, .ints xs⟩]⟩))
  | _, _, _ => none
set_option maxRecDepth 100000 in
theorem round_toRc (xs : List Int) (n : Nat) (hx : xs.length = n * 4) (h : n ≤ 1000000000) : Round_toRc xs n := by
  rintro ⟨i, ys⟩ ⟨h1, h2, h3⟩
  rw [tr_toRc]
  simp only [brT_ok, Tree.ok, decide_eq_true_eq, decide_eq_false_iff_not, Int.toNat_natCast, Nat.zero_add, Nat.add_zero, Cs.size]
  refine ⟨fun hlt => ?_, fun hge => ?_⟩
  · rw [wsucc (n := n) (by omega) h]
    obtain ⟨e1, e2⟩ := set_step (k := 4) (ns := [xs.getD (i * 4) 0, xs.getD (i * 4 + 1) 0, xs.getD (i * 4 + 2) 0, xs.getD (i * 4 + 3) 0]) rfl (drop4 (by omega)) (by omega) (by omega) h3
    refine ⟨by omega, by omega, by omega, by omega, (i + 1, setInts ys (i * 4) [xs.getD (i * 4) 0, xs.getD (i * 4 + 1) 0, xs.getD (i * 4 + 2) 0, xs.getD (i * 4 + 3) 0]), [], ⟨by omega, by omega, ?_⟩, ?_, rfl, rfl, ?_⟩
    · rw [show (i + 1) * 4 = i * 4 + 4 by omega]
      exact e1
    · show n - (i + 1) < n - i; omega
    · repeat' (first | exact True.intro | exact rfl | exact fun _ => rfl | refine And.intro ?_ ?_)
  · obtain rfl : i = n := by omega
    have e : ys = xs := by
      rw [List.take_of_length_le (by omega), List.take_of_length_le (by omega)] at h3
      exact h3
    subst e
    refine ⟨rfl, [], ?_⟩
    repeat' (first | exact True.intro | exact rfl | exact fun _ => rfl | refine And.intro ?_ ?_)
set_option maxRecDepth 100000 in
theorem lg_toRc : LoopE Try.prog e_toRc c_toRc := by
  intro s k t F H hlt ht
  unfold e_toRc at hlt
  split at hlt
  rotate_left
  · cases hlt
  rename_i hlen hpick hmem
  obtain ⟨tmps, mem⟩ := s
  simp only at hlen hpick hmem
  subst hmem
  obtain rfl := Option.some.inj hlt
  obtain ⟨⟨rfl, rfl, h1, h2, h3, _⟩, ht2⟩ := needs_ok ht
  clear ht hlt
  refine ⟨_, _, ht2, loop_run mixed EM_ok (s_toRc _ _) (inv_toRc _ _) (me_toRc _ _) re_toRc (rs_toRc _ _) k_toRc (fun _ => rfl) (noLoops nl_toRc) (round_toRc _ _ h1 h3) (x := (0, _)) ⟨Nat.zero_le _, h2, rfl⟩ (π := []) rfl ?_⟩
  refine ⟨rfl, rfl, ?_, wvs_spread' [0, 3, 4] hlen rfl ?_⟩
  · repeat' (first | exact True.intro | exact rfl | exact wv_top _ _ | exact fun _ => rfl | assumption | exact Eq.symm (by assumption) | exact vI0 rfl | refine And.intro ?_ ?_)
  · rw [hpick]
    repeat' (first | exact True.intro | exact rfl | exact wv_top _ _ | exact fun _ => rfl | assumption | exact Eq.symm (by assumption) | exact vI0 rfl | refine And.intro ?_ ?_)
noncomputable def c_eqRc : Code := ((loopsOf (codeOf Try.f63))[0]?).getD .skip
def k_eqRc : Ex → List Nat := keeps [0, 1, 5] [(0, [])] [4]
def s_eqRc (n : Nat) (xs : List Int) : Nat → St := fun i => ⟨[.slice (some ⟨0, 0, none⟩) n n, .slice (some ⟨1, 0, none⟩) n n, topV, topV, topV, .int .i64 i, topV, topV, topV, topV, topV, topV, topV, topV, topV, topV, topV, topV, topV, topV, topV, topV, topV, topV, topV, topV, topV], [some ⟨.view, .ints xs⟩, some ⟨.view, .ints xs⟩]⟩
def re_eqRc : Nat → Ex := fun _ => .exit 0
def rs_eqRc (n : Nat) (xs : List Int) : Nat → St := fun i => ⟨[topV, topV, topV, topV, topV, topV, topV, topV, topV, topV, topV, topV, topV, topV, topV, topV, topV, topV, topV, topV, topV, topV, topV, topV, topV, topV, topV], [some ⟨.view, .ints xs⟩, some ⟨.view, .ints xs⟩]⟩
set_option maxRecDepth 100000 in
theorem tr_eqRc (n : Nat) (xs : List Int) (i : Nat) : bodyL Try.prog EM 30 12 noL 1 c_eqRc k_eqRc 2 (s_eqRc n xs i) = brT (decide ((↑i : Int) < (↑n : Int))) (brT (!xs.getD (0 + (↑i : Int).toNat * 4) 0 == xs.getD (0 + (↑i : Int).toNat * 4) 0) (.need ((0 : Int) ≤ (↑i : Int) ∧ (↑i : Int) < (↑n : Int)) (.need ((0 : Nat) + (↑i : Int).toNat * (4 : Nat) + (4 : Nat) ≤ xs.length) (.need ((0 : Int) ≤ (↑i : Int) ∧ (↑i : Int) < (↑n : Int)) (.need ((0 : Nat) + (↑i : Int).toNat * (4 : Nat) + (4 : Nat) ≤ xs.length) (.leaf .ret ⟨[topV, topV, topV, topV, .bool (false), topV, topV, topV, topV, topV, topV, topV, topV, topV, topV, topV, topV, topV, topV, topV, topV, topV, topV, topV, topV, topV, topV], [some ⟨.view, .ints (xs)⟩, some ⟨.view, .ints (xs)⟩]⟩))))) (brT (!xs.getD (0 + (↑i : Int).toNat * 4 + 1) 0 == xs.getD (0 + (↑i : Int).toNat * 4 + 1) 0) (.need ((0 : Int) ≤ (↑i : Int) ∧ (↑i : Int) < (↑n : Int)) (.need ((0 : Nat) + (↑i : Int).toNat * (4 : Nat) + (4 : Nat) ≤ xs.length) (.need ((0 : Int) ≤ (↑i : Int) ∧ (↑i : Int) < (↑n : Int)) (.need ((0 : Nat) + (↑i : Int).toNat * (4 : Nat) + (4 : Nat) ≤ xs.length) (.leaf .ret ⟨[topV, topV, topV, topV, .bool (false), topV, topV, topV, topV, topV, topV, topV, topV, topV, topV, topV, topV, topV, topV, topV, topV, topV, topV, topV, topV, topV, topV], [some ⟨.view, .ints (xs)⟩, some ⟨.view, .ints (xs)⟩]⟩))))) (brT (!xs.getD (0 + (↑i : Int).toNat * 4 + 1 + 1) 0 == xs.getD (0 + (↑i : Int).toNat * 4 + 1 + 1) 0) (.need ((0 : Int) ≤ (↑i : Int) ∧ (↑i : Int) < (↑n : Int)) (.need ((0 : Nat) + (↑i : Int).toNat * (4 : Nat) + (4 : Nat) ≤ xs.length) (.need ((0 : Int) ≤ (↑i : Int) ∧ (↑i : Int) < (↑n : Int)) (.need ((0 : Nat) + (↑i : Int).toNat * (4 : Nat) + (4 : Nat) ≤ xs.length) (.leaf .ret ⟨[topV, topV, topV, topV, .bool (false), topV, topV, topV, topV, topV, topV, topV, topV, topV, topV, topV, topV, topV, topV, topV, topV, topV, topV, topV, topV, topV, topV], [some ⟨.view, .ints (xs)⟩, some ⟨.view, .ints (xs)⟩]⟩))))) (brT (!xs.getD (0 + (↑i : Int).toNat * 4 + 1 + 1 + 1) 0 == xs.getD (0 + (↑i : Int).toNat * 4 + 1 + 1 + 1) 0) (.need ((0 : Int) ≤ (↑i : Int) ∧ (↑i : Int) < (↑n : Int)) (.need ((0 : Nat) + (↑i : Int).toNat * (4 : Nat) + (4 : Nat) ≤ xs.length) (.need ((0 : Int) ≤ (↑i : Int) ∧ (↑i : Int) < (↑n : Int)) (.need ((0 : Nat) + (↑i : Int).toNat * (4 : Nat) + (4 : Nat) ≤ xs.length) (.leaf .ret ⟨[topV, topV, topV, topV, .bool (false), topV, topV, topV, topV, topV, topV, topV, topV, topV, topV, topV, topV, topV, topV, topV, topV, topV, topV, topV, topV, topV, topV], [some ⟨.view, .ints (xs)⟩, some ⟨.view, .ints (xs)⟩]⟩))))) (.need ((0 : Int) ≤ (↑i : Int) ∧ (↑i : Int) < (↑n : Int)) (.need ((0 : Nat) + (↑i : Int).toNat * (4 : Nat) + (4 : Nat) ≤ xs.length) (.need ((0 : Int) ≤ (↑i : Int) ∧ (↑i : Int) < (↑n : Int)) (.need ((0 : Nat) + (↑i : Int).toNat * (4 : Nat) + (4 : Nat) ≤ xs.length) (.leaf .normal ⟨[.slice (some ⟨0, 0, none⟩) (n) (n), .slice (some ⟨1, 0, none⟩) (n) (n), topV, topV, topV, .int .i64 (IntKind.i64.wrap ((↑i : Int) + 1)), topV, topV, topV, topV, topV, topV, topV, topV, topV, topV, topV, topV, topV, topV, topV, topV, topV, topV, topV, topV, topV], [some ⟨.view, .ints (xs)⟩, some ⟨.view, .ints (xs)⟩]⟩))))))))) (.leaf (.exit 0) ⟨[topV, topV, topV, topV, topV, topV, topV, topV, topV, topV, topV, topV, topV, topV, topV, topV, topV, topV, topV, topV, topV, topV, topV, topV, topV, topV, topV], [some ⟨.view, .ints (xs)⟩, some ⟨.view, .ints (xs)⟩]⟩) := by kernel_rfl
set_option maxRecDepth 100000 in
theorem nl_eqRc : loopsOf c_eqRc = [] := by kernel_rfl
def inv_eqRc (n : Nat) (xs : List Int) : Nat → Prop := fun i => i ≤ n
def me_eqRc (n : Nat) (xs : List Int) : Nat → Nat := fun i => n - i
/-- A round of this loop. -/
def Round_eqRc (n : Nat) (xs : List Int) : Prop := ∀ xx : Nat, inv_eqRc n xs xx → (bodyL Try.prog EM 30 12 noL 1 c_eqRc k_eqRc 2 (s_eqRc n xs xx)).ok (RoundEnd 2 (s_eqRc n xs) (inv_eqRc n xs) (me_eqRc n xs) re_eqRc (rs_eqRc n xs) xx) (fun _ _ => False)
def e_eqRc (s : St) (k : Ex → St → Tree) : Option Tree := match Nat.beq s.tmps.length 27, pickL s.tmps [0, 1, 5], s.mem with
  | true, [.slice (some ⟨0, 0, none⟩) n _, .slice (some ⟨1, 0, none⟩) m _, .int .i64 i], [some ⟨.view, .ints xs⟩, some ⟨.view, .ints ys⟩] => some (needs [i = 0, m = n, ys = xs, xs.length = n * 4, n ≤ 1000000000] (k (.exit 0) ⟨[topV, topV, topV, topV, topV, topV, topV, topV, topV, topV, topV, topV, topV, topV, topV, topV, topV, topV, topV, topV, topV, topV, topV, topV, topV, topV, topV], [some ⟨.view, .ints xs⟩, some ⟨.view, .ints xs⟩]⟩))
  | _, _, _ => none
set_option maxRecDepth 100000 in
theorem round_eqRc (n : Nat) (xs : List Int) (hx : xs.length = n * 4) (h : n ≤ 1000000000) : Round_eqRc n xs := by
  intro i h1
  have h1 : i ≤ n := h1
  rw [tr_eqRc]
  simp only [beq_self_eq_true, Bool.not_true, brT_f, brT_ok, Tree.ok, decide_eq_true_eq, decide_eq_false_iff_not, Int.toNat_natCast, Nat.zero_add, Nat.add_zero]
  refine ⟨fun hlt => ?_, fun hge => ?_⟩
  · rw [wsucc (n := n) (by omega) h]
    refine ⟨by omega, by omega, by omega, by omega, i + 1, [], ?_, ?_, rfl, rfl, ?_⟩
    · show i + 1 ≤ n; omega
    · show n - (i + 1) < n - i; omega
    · repeat' (first | exact True.intro | exact rfl | exact fun _ => rfl | refine And.intro ?_ ?_)
  · refine ⟨rfl, [], ?_⟩
    repeat' (first | exact True.intro | exact rfl | exact fun _ => rfl | refine And.intro ?_ ?_)
set_option maxRecDepth 100000 in
theorem lg_eqRc : LoopE Try.prog e_eqRc c_eqRc := by
  intro s k t F H hlt ht
  unfold e_eqRc at hlt
  split at hlt
  rotate_left
  · cases hlt
  rename_i hlen hpick hmem
  obtain ⟨tmps, mem⟩ := s
  simp only at hlen hpick hmem
  subst hmem
  obtain rfl := Option.some.inj hlt
  obtain ⟨⟨rfl, rfl, rfl, h1, h2, _⟩, ht2⟩ := needs_ok ht
  clear ht hlt
  refine ⟨_, _, ht2, loop_run mixed EM_ok (s_eqRc _ _) (inv_eqRc _ _) (me_eqRc _ _) re_eqRc (rs_eqRc _ _) k_eqRc (fun _ => rfl) (noLoops nl_eqRc) (round_eqRc _ _ h1 h2) (x := 0) (Nat.zero_le _) (π := []) rfl ?_⟩
  refine ⟨rfl, rfl, ?_, wvs_spread' [0, 1, 5] hlen rfl ?_⟩
  · repeat' (first | exact True.intro | exact rfl | exact wv_top _ _ | exact fun _ => rfl | assumption | exact Eq.symm (by assumption) | exact vI0 rfl | refine And.intro ?_ ?_)
  · rw [hpick]
    repeat' (first | exact True.intro | exact rfl | exact wv_top _ _ | exact fun _ => rfl | assumption | exact Eq.symm (by assumption) | exact vI0 rfl | refine And.intro ?_ ?_)
noncomputable def c_svRc : Code := ((loopsOf (codeOf Try.f120))[0]?).getD .skip
def k_svRc : Ex → List Nat := keeps [0, 3] [(0, [0])] [2]
def s_svRc (n : Nat) (xs : List Int) : Nat → St := fun i => ⟨[.slice (some ⟨0, 0, none⟩) n n, topV, topV, .int .i64 i, topV, topV, topV, topV, topV, topV, topV, topV, topV, topV, topV, topV, topV, topV, topV], [some ⟨.view, .ints xs⟩]⟩
def re_svRc (n : Nat) (xs : List Int) : Nat → Ex := fun i => bif allQ (rcQ xs) i (n - i) then .exit 0 else .ret
def rs_svRc (n : Nat) (xs : List Int) : Nat → St := fun i => bif allQ (rcQ xs) i (n - i) then ⟨[.slice (some ⟨0, 0, none⟩) n n, topV, topV, topV, topV, topV, topV, topV, topV, topV, topV, topV, topV, topV, topV, topV, topV, topV, topV], [some ⟨.view, .ints xs⟩]⟩ else ⟨[topV, topV, .bool false, topV, topV, topV, topV, topV, topV, topV, topV, topV, topV, topV, topV, topV, topV, topV, topV], [some ⟨.view, .ints xs⟩]⟩
set_option maxRecDepth 100000 in
theorem tr_svRc (n : Nat) (xs : List Int) (i : Nat) : bodyL Try.prog ERc 30 12 noL 1 c_svRc k_svRc 1 (s_svRc n xs i) = brT (decide ((↑i : Int) < (↑n : Int))) (.need ((0 : Int) ≤ (↑i : Int) ∧ (↑i : Int) < (↑n : Int)) (.need ((0 : Nat) + (↑i : Int).toNat * (4 : Nat) + (4 : Nat) ≤ xs.length) (brT (!rcB (xs.getD (0 + (↑i : Int).toNat * 4) 0) (xs.getD (0 + (↑i : Int).toNat * 4 + 1) 0) (xs.getD (0 + (↑i : Int).toNat * 4 + 1 + 1) 0) (xs.getD (0 + (↑i : Int).toNat * 4 + 1 + 1 + 1) 0)) (.leaf .ret ⟨[topV, topV, .bool (false), topV, topV, topV, topV, topV, topV, topV, topV, topV, topV, topV, topV, topV, topV, topV, topV], [some ⟨.view, .ints (xs)⟩]⟩) (.leaf .normal ⟨[.slice (some ⟨0, 0, none⟩) (n) (n), topV, topV, .int .i64 (IntKind.i64.wrap ((↑i : Int) + 1)), topV, topV, topV, topV, topV, topV, topV, topV, topV, topV, topV, topV, topV, topV, topV], [some ⟨.view, .ints (xs)⟩]⟩)))) (.leaf (.exit 0) ⟨[.slice (some ⟨0, 0, none⟩) (n) (n), topV, topV, topV, topV, topV, topV, topV, topV, topV, topV, topV, topV, topV, topV, topV, topV, topV, topV], [some ⟨.view, .ints (xs)⟩]⟩) := by kernel_rfl
set_option maxRecDepth 100000 in
theorem nl_svRc : loopsOf c_svRc = [] := by kernel_rfl
def inv_svRc (n : Nat) (xs : List Int) : Nat → Prop := fun i => i ≤ n
def me_svRc (n : Nat) (xs : List Int) : Nat → Nat := fun i => n - i
/-- A round of this loop. -/
def Round_svRc (n : Nat) (xs : List Int) : Prop := ∀ xx : Nat, inv_svRc n xs xx → (bodyL Try.prog ERc 30 12 noL 1 c_svRc k_svRc 1 (s_svRc n xs xx)).ok (RoundEnd 1 (s_svRc n xs) (inv_svRc n xs) (me_svRc n xs) (re_svRc n xs) (rs_svRc n xs) xx) (fun _ _ => False)
def e_svRc (s : St) (k : Ex → St → Tree) : Option Tree := match Nat.beq s.tmps.length 19, pickL s.tmps [0, 3], s.mem with
  | true, [.slice (some ⟨0, 0, none⟩) n _, .int .i64 i], [some ⟨.view, .ints xs⟩] => some (needs [i = 0, xs.length = n * 4, n ≤ 1000000000] (brT (allQ (rcQ xs) 0 n) (k (.exit 0) ⟨[.slice (some ⟨0, 0, none⟩) n n, topV, topV, topV, topV, topV, topV, topV, topV, topV, topV, topV, topV, topV, topV, topV, topV, topV, topV], [some ⟨.view, .ints xs⟩]⟩) (k .ret ⟨[topV, topV, .bool false, topV, topV, topV, topV, topV, topV, topV, topV, topV, topV, topV, topV, topV, topV, topV, topV], [some ⟨.view, .ints xs⟩]⟩)))
  | _, _, _ => none
set_option maxRecDepth 100000 in
theorem round_svRc (n : Nat) (xs : List Int) (hx : xs.length = n * 4) (h : n ≤ 1000000000) : Round_svRc n xs := by
  intro i h1
  have h1 : i ≤ n := h1
  rw [tr_svRc]
  simp only [brT_ok, Tree.ok, decide_eq_true_eq, decide_eq_false_iff_not, Int.toNat_natCast, Nat.zero_add, Bool.not_eq_true', Bool.not_eq_false']
  refine ⟨fun hlt => ⟨by omega, by omega, fun hv => ?_, fun hv => ?_⟩, fun hge => ?_⟩
  · have e : allQ (rcQ xs) i (n - i) = false := by rw [allQ_step (by omega)]; unfold rcQ; rw [hv, Bool.false_and]
    refine ⟨by simp only [re_svRc, e, cond_false], [], ?_⟩
    simp only [rs_svRc, e, cond_false]
    repeat' (first | exact True.intro | exact rfl | exact fun _ => rfl | refine And.intro ?_ ?_)
  · have e : allQ (rcQ xs) i (n - i) = allQ (rcQ xs) (i + 1) (n - (i + 1)) := by
      rw [allQ_step (by omega)]
      have : rcQ xs i = true := hv
      rw [this, Bool.true_and]
    rw [wsucc (n := n) (by omega) h]
    refine ⟨i + 1, [], ?_, ?_, by simp only [re_svRc, e], by simp only [rs_svRc, e], ?_⟩
    · show i + 1 ≤ n; omega
    · show n - (i + 1) < n - i; omega
    · repeat' (first | exact True.intro | exact rfl | exact fun _ => rfl | refine And.intro ?_ ?_)
  · have e : allQ (rcQ xs) i (n - i) = true := allQ_end (by omega)
    refine ⟨by simp only [re_svRc, e, cond_true], [], ?_⟩
    simp only [rs_svRc, e, cond_true]
    repeat' (first | exact True.intro | exact rfl | exact fun _ => rfl | refine And.intro ?_ ?_)
set_option maxRecDepth 100000 in
theorem lg_svRc : LoopE Try.prog e_svRc c_svRc := by
  intro s k t F H hlt ht
  unfold e_svRc at hlt
  split at hlt
  rotate_left
  · cases hlt
  rename_i hlen hpick hmem
  obtain ⟨tmps, mem⟩ := s
  simp only at hlen hpick hmem
  subst hmem
  obtain rfl := Option.some.inj hlt
  obtain ⟨⟨rfl, h1, h2, _⟩, ht2⟩ := needs_ok ht
  clear ht hlt
  refine ⟨_, _, pick2k ht2, loop_run mixed ERc_ok (s_svRc _ _) (inv_svRc _ _) (me_svRc _ _) (re_svRc _ _) (rs_svRc _ _) k_svRc (fun _ => rfl) (noLoops nl_svRc) (round_svRc _ _ h1 h2) (x := 0) (Nat.zero_le _) (π := []) rfl ?_⟩
  refine ⟨rfl, rfl, ?_, wvs_spread' [0, 3] hlen rfl ?_⟩
  · repeat' (first | exact True.intro | exact rfl | exact wv_top _ _ | exact fun _ => rfl | assumption | exact Eq.symm (by assumption) | exact vI0 rfl | refine And.intro ?_ ?_)
  · rw [hpick]
    repeat' (first | exact True.intro | exact rfl | exact wv_top _ _ | exact fun _ => rfl | assumption | exact Eq.symm (by assumption) | exact vI0 rfl | refine And.intro ?_ ?_)
noncomputable def c_ivRc : Code := ((loopsOf (codeOf Try.f62))[0]?).getD .skip
def k_ivRc : Ex → List Nat := keeps [0, 5, 6, 7] [(0, [0])] [2]
def s_ivRc (n : Nat) (xs : List Int) : Nat → St := fun i => ⟨[.slice (some ⟨0, 0, none⟩) n n, topV, topV, topV, topV, .slice (some ⟨0, 0, none⟩) n n, .int .i64 n, .int .i64 i, topV, topV, topV, topV, topV, topV, topV, topV, topV, topV], [some ⟨.view, .ints xs⟩]⟩
def re_ivRc (n : Nat) (xs : List Int) : Nat → Ex := fun i => bif allQ (rcQ xs) i (n - i) then .exit 0 else .ret
def rs_ivRc (n : Nat) (xs : List Int) : Nat → St := fun i => bif allQ (rcQ xs) i (n - i) then ⟨[.slice (some ⟨0, 0, none⟩) n n, topV, topV, topV, topV, topV, topV, topV, topV, topV, topV, topV, topV, topV, topV, topV, topV, topV], [some ⟨.view, .ints xs⟩]⟩ else ⟨[topV, topV, .bool false, topV, topV, topV, topV, topV, topV, topV, topV, topV, topV, topV, topV, topV, topV, topV], [some ⟨.view, .ints xs⟩]⟩
set_option maxRecDepth 100000 in
theorem tr_ivRc (n : Nat) (xs : List Int) (i : Nat) : bodyL Try.prog ERc 30 12 noL 1 c_ivRc k_ivRc 1 (s_ivRc n xs i) = brT (decide ((↑i : Int) < (↑n : Int))) (.need ((0 : Int) ≤ (↑i : Int) ∧ (↑i : Int) < (↑n : Int)) (.need ((0 : Nat) + (↑i : Int).toNat * (4 : Nat) + (4 : Nat) ≤ xs.length) (brT (!rcB (xs.getD (0 + (↑i : Int).toNat * 4) 0) (xs.getD (0 + (↑i : Int).toNat * 4 + 1) 0) (xs.getD (0 + (↑i : Int).toNat * 4 + 1 + 1) 0) (xs.getD (0 + (↑i : Int).toNat * 4 + 1 + 1 + 1) 0)) (.leaf .ret ⟨[topV, topV, .bool (false), topV, topV, topV, topV, topV, topV, topV, topV, topV, topV, topV, topV, topV, topV, topV], [some ⟨.view, .ints (xs)⟩]⟩) (.leaf .normal ⟨[.slice (some ⟨0, 0, none⟩) (n) (n), topV, topV, topV, topV, .slice (some ⟨0, 0, none⟩) (n) (n), .int .i64 ((↑n : Int)), .int .i64 (IntKind.i64.wrap ((↑i : Int) + 1)), topV, topV, topV, topV, topV, topV, topV, topV, topV, topV], [some ⟨.view, .ints (xs)⟩]⟩)))) (.leaf (.exit 0) ⟨[.slice (some ⟨0, 0, none⟩) (n) (n), topV, topV, topV, topV, topV, topV, topV, topV, topV, topV, topV, topV, topV, topV, topV, topV, topV], [some ⟨.view, .ints (xs)⟩]⟩) := by kernel_rfl
set_option maxRecDepth 100000 in
theorem nl_ivRc : loopsOf c_ivRc = [] := by kernel_rfl
def inv_ivRc (n : Nat) (xs : List Int) : Nat → Prop := fun i => i ≤ n
def me_ivRc (n : Nat) (xs : List Int) : Nat → Nat := fun i => n - i
/-- A round of this loop. -/
def Round_ivRc (n : Nat) (xs : List Int) : Prop := ∀ xx : Nat, inv_ivRc n xs xx → (bodyL Try.prog ERc 30 12 noL 1 c_ivRc k_ivRc 1 (s_ivRc n xs xx)).ok (RoundEnd 1 (s_ivRc n xs) (inv_ivRc n xs) (me_ivRc n xs) (re_ivRc n xs) (rs_ivRc n xs) xx) (fun _ _ => False)
def e_ivRc (s : St) (k : Ex → St → Tree) : Option Tree := match Nat.beq s.tmps.length 18, pickL s.tmps [0, 5, 6, 7], s.mem with
  | true, [.slice (some ⟨0, 0, none⟩) n _, .slice (some ⟨0, 0, none⟩) n2 _, .int .i64 n3, .int .i64 i], [some ⟨.view, .ints xs⟩] => some (needs [i = 0, n2 = n, n3 = n, xs.length = n * 4, n ≤ 1000000000] (brT (allQ (rcQ xs) 0 n) (k (.exit 0) ⟨[.slice (some ⟨0, 0, none⟩) n n, topV, topV, topV, topV, topV, topV, topV, topV, topV, topV, topV, topV, topV, topV, topV, topV, topV], [some ⟨.view, .ints xs⟩]⟩) (k .ret ⟨[topV, topV, .bool false, topV, topV, topV, topV, topV, topV, topV, topV, topV, topV, topV, topV, topV, topV, topV], [some ⟨.view, .ints xs⟩]⟩)))
  | _, _, _ => none
set_option maxRecDepth 100000 in
theorem round_ivRc (n : Nat) (xs : List Int) (hx : xs.length = n * 4) (h : n ≤ 1000000000) : Round_ivRc n xs := by
  intro i h1
  have h1 : i ≤ n := h1
  rw [tr_ivRc]
  simp only [brT_ok, Tree.ok, decide_eq_true_eq, decide_eq_false_iff_not, Int.toNat_natCast, Nat.zero_add, Bool.not_eq_true', Bool.not_eq_false']
  refine ⟨fun hlt => ⟨by omega, by omega, fun hv => ?_, fun hv => ?_⟩, fun hge => ?_⟩
  · have e : allQ (rcQ xs) i (n - i) = false := by rw [allQ_step (by omega)]; unfold rcQ; rw [hv, Bool.false_and]
    refine ⟨by simp only [re_ivRc, e, cond_false], [], ?_⟩
    simp only [rs_ivRc, e, cond_false]
    repeat' (first | exact True.intro | exact rfl | exact fun _ => rfl | refine And.intro ?_ ?_)
  · have e : allQ (rcQ xs) i (n - i) = allQ (rcQ xs) (i + 1) (n - (i + 1)) := by
      rw [allQ_step (by omega)]
      have : rcQ xs i = true := hv
      rw [this, Bool.true_and]
    rw [wsucc (n := n) (by omega) h]
    refine ⟨i + 1, [], ?_, ?_, by simp only [re_ivRc, e], by simp only [rs_ivRc, e], ?_⟩
    · show i + 1 ≤ n; omega
    · show n - (i + 1) < n - i; omega
    · repeat' (first | exact True.intro | exact rfl | exact fun _ => rfl | refine And.intro ?_ ?_)
  · have e : allQ (rcQ xs) i (n - i) = true := allQ_end (by omega)
    refine ⟨by simp only [re_ivRc, e, cond_true], [], ?_⟩
    simp only [rs_ivRc, e, cond_true]
    repeat' (first | exact True.intro | exact rfl | exact fun _ => rfl | refine And.intro ?_ ?_)
set_option maxRecDepth 100000 in
theorem lg_ivRc : LoopE Try.prog e_ivRc c_ivRc := by
  intro s k t F H hlt ht
  unfold e_ivRc at hlt
  split at hlt
  rotate_left
  · cases hlt
  rename_i hlen hpick hmem
  obtain ⟨tmps, mem⟩ := s
  simp only at hlen hpick hmem
  subst hmem
  obtain rfl := Option.some.inj hlt
  obtain ⟨⟨rfl, rfl, rfl, h1, h2, _⟩, ht2⟩ := needs_ok ht
  clear ht hlt
  refine ⟨_, _, pick2k ht2, loop_run mixed ERc_ok (s_ivRc _ _) (inv_ivRc _ _) (me_ivRc _ _) (re_ivRc _ _) (rs_ivRc _ _) k_ivRc (fun _ => rfl) (noLoops nl_ivRc) (round_ivRc _ _ h1 h2) (x := 0) (Nat.zero_le _) (π := []) rfl ?_⟩
  refine ⟨rfl, rfl, ?_, wvs_spread' [0, 5, 6, 7] hlen rfl ?_⟩
  · repeat' (first | exact True.intro | exact rfl | exact wv_top _ _ | exact fun _ => rfl | assumption | exact Eq.symm (by assumption) | exact vI0 rfl | refine And.intro ?_ ?_)
  · rw [hpick]
    repeat' (first | exact True.intro | exact rfl | exact wv_top _ _ | exact fun _ => rfl | assumption | exact Eq.symm (by assumption) | exact vI0 rfl | refine And.intro ?_ ?_)
end Go.Proofs.Ytfjcbindeimoiab
