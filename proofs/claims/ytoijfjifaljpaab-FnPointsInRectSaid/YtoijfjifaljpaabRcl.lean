/-
  Lists of rectangles: copied, compared, which are valid; loops. Written by an AI agent.
-/
import Derived.Test.YtoijfjifaljpaabAq
import Derived.Test.YtoijfjifaljpaabRc
namespace Go.Proofs.Ytoijfjifaljpaab
open Go.RowKit

def TRc : Tab := fun f ds => match f with
  | 64 => pRc ds
  | 60 => pRc ds
  | f => T3 f ds
theorem TRc_ok : TabOk Try.prog TRc := by
  intro f ds v C h hC
  unfold TRc at h
  split at h
  all_goals first | with_reducible exact rcS h | with_reducible exact rcI h | exact T3_ok _ _ _ _ h hC
def ERc : Env := mkE TRc (fun _ _ => none) (fun _ => noL)
theorem ERc_ok : EnvOk Try.prog ERc := mkEOk TRc_ok (fun _ _ _ _ _ h => (by cases h)) (fun _ _ _ => noL_good)
/-- The rectangle at j. -/
def rcQ (xs : List Int) (j : Nat) : Bool := rcB (xs.getD (j * 4) 0) (xs.getD (j * 4 + 1) 0) (xs.getD (j * 4 + 2) 0) (xs.getD (j * 4 + 3) 0)
theorem drop4 {xs : List Int} {o : Nat} (h : o + 4 ≤ xs.length) : xs.drop o = [xs.getD o 0, xs.getD (o + 1) 0, xs.getD (o + 2) 0, xs.getD (o + 3) 0] ++ xs.drop (o + 4) := by
  rw [drop_cons (l := xs) (k := o) (by omega) 0, drop_cons (l := xs) (k := o + 1) (by omega) 0, drop_cons (l := xs) (k := o + 2) (by omega) 0, drop_cons (l := xs) (k := o + 3) (by omega) 0]
  rfl
noncomputable def c_ivRc : Code := ((loopsOf (codeOf Try.f19))[0]?).getD .skip
def k_ivRc : Ex → List Nat := keeps [0, 5, 6, 7] [(0, [0])] [2]
def s_ivRc (n : Nat) (xs : List Int) : Nat → St := fun i => ⟨[.slice (some ⟨0, 0, none⟩) n n, topV, topV, topV, topV, .slice (some ⟨0, 0, none⟩) n n, .int .i64 n, .int .i64 i, topV, topV, topV, topV, topV, topV, topV, topV, topV, topV], [some ⟨.view, .ints xs⟩]⟩
def re_ivRc (n : Nat) (xs : List Int) : Nat → Ex := fun i => bif allQ (rcQ xs) i (n - i) then .exit 0 else .ret
def rs_ivRc (n : Nat) (xs : List Int) : Nat → St := fun i => bif allQ (rcQ xs) i (n - i) then ⟨[.slice (some ⟨0, 0, none⟩) n n, topV, topV, topV, topV, topV, topV, topV, topV, topV, topV, topV, topV, topV, topV, topV, topV, topV], [some ⟨.view, .ints xs⟩]⟩ else ⟨[topV, topV, .bool false, topV, topV, topV, topV, topV, topV, topV, topV, topV, topV, topV, topV, topV, topV, topV], [some ⟨.view, .ints xs⟩]⟩
set_option maxRecDepth 100000 in
theorem tr_ivRc (n : Nat) (xs : List Int) (i : Nat) : bodyL Try.prog ERc 30 12 noL 1 c_ivRc k_ivRc 1 (s_ivRc n xs i) = brT (decide ((↑i : Int) < (↑n : Int))) (.need ((0 : Int) ≤ (↑i : Int) ∧ (↑i : Int) < (↑n : Int)) (.need ((0 : Nat) + (↑i : Int).toNat * (4 : Nat) + (4 : Nat) ≤ xs.length) (brT (!rcB (xs.getD (0 + (↑i : Int).toNat * 4) 0) (xs.getD (0 + (↑i : Int).toNat * 4 + 1) 0) (xs.getD (0 + (↑i : Int).toNat * 4 + 1 + 1) 0) (xs.getD (0 + (↑i : Int).toNat * 4 + 1 + 1 + 1) 0)) (.leaf .ret ⟨[topV, topV, .bool (false), topV, topV, topV, topV, topV, topV, topV, topV, topV, topV, topV, topV, topV, topV, topV], [some ⟨.view, .ints (xs)⟩]⟩) (.leaf .normal ⟨[.slice (some ⟨0, 0, none⟩) (n) (n), topV, topV, topV, topV, .slice (some ⟨0, 0, none⟩) (n) (n), .int .i64 ((↑n : Int)), .int .i64 (IntKind.i64.wrap ((↑i : Int) + 1)), topV, topV, topV, topV, topV, topV, topV, topV, topV, topV], [some ⟨.view, .ints (xs)⟩]⟩)))) (.leaf (.exit 0) ⟨[.slice (some ⟨0, 0, none⟩) (n) (n), topV, topV, topV, topV, topV, topV, topV, topV, topV, topV, topV, topV, topV, topV, topV, topV, topV], [some ⟨.view, .ints (xs)⟩]⟩) := by kernel_rfl
set_option maxRecDepth 100000 in
theorem nl_ivRc : loopsOf c_ivRc = [] := by kernel_rfl
def inv_ivRc (n : Nat) (xs : List Int) : Nat → Prop := fun i => i ≤ n
def me_ivRc (n : Nat) (xs : List Int) : Nat → Nat := fun i => n - i
/-- A round of this loop. -/
def Round_ivRc (n : Nat) (xs : List Int) : Prop := ∀ xx : Nat, inv_ivRc n xs xx → (bodyL Try.prog ERc 30 12 noL 1 c_ivRc k_ivRc 1 (s_ivRc n xs xx)).ok (RoundEnd 1 (s_ivRc n xs) (inv_ivRc n xs) (me_ivRc n xs) (re_ivRc n xs) (rs_ivRc n xs) xx) (fun _ _ => False)
def e_ivRc (s : St) (k : Ex → St → Tree) : Option Tree := match Nat.beq s.tmps.length 18, pickL s.tmps [0, 5, 6, 7], s.mem with
  | true, [.slice (some ⟨0, 0, none⟩) n _, .slice (some ⟨0, 0, none⟩) n2 _, .int .i64 n3, .int .i64 i], [some ⟨.view, .ints xs⟩] => some (needs [i = 0, n2 = n, n3 = n, xs.length = n * 4, n ≤ 1000000000] (brT (allQ (rcQ xs) 0 n) (k (.exit 0) ⟨[.slice (some ⟨0, 0, none⟩) n n, topV, topV, topV, topV, topV, topV, topV, topV, topV, topV, topV, topV, topV, topV, topV, topV, topV], [some ⟨.view, .ints xs⟩]⟩) (k .ret ⟨[topV, topV, .bool false, topV, topV, topV, topV, topV, topV, topV, topV, topV, topV, topV, topV, topV, topV, topV], [some ⟨.view, .ints xs⟩]⟩)))
  | _, _, _ => none
set_option maxRecDepth 100000 in
theorem round_ivRc (n : Nat) (xs : List Int) (hx : xs.length = n * 4) (h : n ≤ 1000000000) : Round_ivRc n xs := by
  intro i h1
  have h1 : i ≤ n := h1
  rw [tr_ivRc]
  simp only [brT_ok, Tree.ok, decide_eq_true_eq, decide_eq_false_iff_not, Int.toNat_natCast, Nat.zero_add, Bool.not_eq_true', Bool.not_eq_false']
  refine ⟨fun hlt => ⟨by omega, by omega, fun hv => ?_, fun hv => ?_⟩, fun hge => ?_⟩
  · have e : allQ (rcQ xs) i (n - i) = false := by rw [allQ_step (by omega)]; unfold rcQ; rw [hv, Bool.false_and]
    refine ⟨by simp only [re_ivRc, e, cond_false], [], ?_⟩
    simp only [rs_ivRc, e, cond_false]
    repeat' (first | exact True.intro | exact rfl | exact fun _ => rfl | refine And.intro ?_ ?_)
  · have e : allQ (rcQ xs) i (n - i) = allQ (rcQ xs) (i + 1) (n - (i + 1)) := by
      rw [allQ_step (by omega)]
      have : rcQ xs i = true := hv
      rw [this, Bool.true_and]
    rw [wsucc (n := n) (by omega) h]
    refine ⟨i + 1, [], ?_, ?_, by simp only [re_ivRc, e], by simp only [rs_ivRc, e], ?_⟩
    · show i + 1 ≤ n; omega
    · show n - (i + 1) < n - i; omega
    · repeat' (first | exact True.intro | exact rfl | exact fun _ => rfl | refine And.intro ?_ ?_)
  · have e : allQ (rcQ xs) i (n - i) = true := allQ_end (by omega)
    refine ⟨by simp only [re_ivRc, e, cond_true], [], ?_⟩
    simp only [rs_ivRc, e, cond_true]
    repeat' (first | exact True.intro | exact rfl | exact fun _ => rfl | refine And.intro ?_ ?_)
set_option maxRecDepth 100000 in
theorem lg_ivRc : LoopE Try.prog e_ivRc c_ivRc := by
  intro s k t F H hlt ht
  unfold e_ivRc at hlt
  split at hlt
  rotate_left
  · cases hlt
  rename_i hlen hpick hmem
  obtain ⟨tmps, mem⟩ := s
  simp only at hlen hpick hmem
  subst hmem
  obtain rfl := Option.some.inj hlt
  obtain ⟨⟨rfl, rfl, rfl, h1, h2, _⟩, ht2⟩ := needs_ok ht
  clear ht hlt
  refine ⟨_, _, pick2k ht2, loop_run mixed ERc_ok (s_ivRc _ _) (inv_ivRc _ _) (me_ivRc _ _) (re_ivRc _ _) (rs_ivRc _ _) k_ivRc (fun _ => rfl) (noLoops nl_ivRc) (round_ivRc _ _ h1 h2) (x := 0) (Nat.zero_le _) (π := []) rfl ?_⟩
  refine ⟨rfl, rfl, ?_, wvs_spread' [0, 5, 6, 7] hlen rfl ?_⟩
  · repeat' (first | exact True.intro | exact rfl | exact wv_top _ _ | exact fun _ => rfl | assumption | exact Eq.symm (by assumption) | exact vI0 rfl | refine And.intro ?_ ?_)
  · rw [hpick]
    repeat' (first | exact True.intro | exact rfl | exact wv_top _ _ | exact fun _ => rfl | assumption | exact Eq.symm (by assumption) | exact vI0 rfl | refine And.intro ?_ ?_)
end Go.Proofs.Ytoijfjifaljpaab
