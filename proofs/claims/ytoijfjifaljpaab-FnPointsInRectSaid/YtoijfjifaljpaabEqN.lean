/-
  The laws' equalInts and isIn. Written by an AI agent.
-/
import Derived.Test.YtoijfjifaljpaabRcl
namespace Go.Proofs.Ytoijfjifaljpaab
open Go.RowKit

noncomputable def c_eqN : Code := ((loopsOf (codeOf Try.f17))[0]?).getD .skip
def k_eqN : Ex → List Nat := keeps [0, 1, 5] [(0, [])] [4]
def s_eqN (n : Nat) (xs : List Int) : Nat → St := fun i => ⟨[.slice (some ⟨0, 0, none⟩) n n, .slice (some ⟨1, 0, none⟩) n n, topV, topV, topV, .int .i64 i, topV, topV, topV, topV, topV, topV, topV, topV, topV, topV, topV, topV, topV, topV, topV, topV, topV, topV, topV, topV], [some ⟨.view, .ints xs⟩, some ⟨.view, .ints xs⟩]⟩
def re_eqN : Nat → Ex := fun _ => .exit 0
def rs_eqN (n : Nat) (xs : List Int) : Nat → St := fun i => ⟨[topV, topV, topV, topV, topV, topV, topV, topV, topV, topV, topV, topV, topV, topV, topV, topV, topV, topV, topV, topV, topV, topV, topV, topV, topV, topV], [some ⟨.view, .ints xs⟩, some ⟨.view, .ints xs⟩]⟩
set_option maxRecDepth 100000 in
theorem tr_eqN (n : Nat) (xs : List Int) (i : Nat) : bodyL Try.prog EM 30 12 noL 1 c_eqN k_eqN 2 (s_eqN n xs i) = brT (decide ((↑i : Int) < (↑n : Int))) (.need ((0 : Int) ≤ (↑i : Int) ∧ (↑i : Int) < (↑n : Int)) (.need ((0 : Nat) + (↑i : Int).toNat * (1 : Nat) < xs.length) (.need ((0 : Int) ≤ (↑i : Int) ∧ (↑i : Int) < (↑n : Int)) (.need ((0 : Nat) + (↑i : Int).toNat * (1 : Nat) < xs.length) (brT (!xs.getD (0 + (↑i : Int).toNat * 1) 0 == xs.getD (0 + (↑i : Int).toNat * 1) 0) (.leaf .ret ⟨[topV, topV, topV, topV, .bool (false), topV, topV, topV, topV, topV, topV, topV, topV, topV, topV, topV, topV, topV, topV, topV, topV, topV, topV, topV, topV, topV], [some ⟨.view, .ints (xs)⟩, some ⟨.view, .ints (xs)⟩]⟩) (.leaf .normal ⟨[.slice (some ⟨0, 0, none⟩) (n) (n), .slice (some ⟨1, 0, none⟩) (n) (n), topV, topV, topV, .int .i64 (IntKind.i64.wrap ((↑i : Int) + 1)), topV, topV, topV, topV, topV, topV, topV, topV, topV, topV, topV, topV, topV, topV, topV, topV, topV, topV, topV, topV], [some ⟨.view, .ints (xs)⟩, some ⟨.view, .ints (xs)⟩]⟩)))))) (.leaf (.exit 0) ⟨[topV, topV, topV, topV, topV, topV, topV, topV, topV, topV, topV, topV, topV, topV, topV, topV, topV, topV, topV, topV, topV, topV, topV, topV, topV, topV], [some ⟨.view, .ints (xs)⟩, some ⟨.view, .ints (xs)⟩]⟩) := by kernel_rfl
set_option maxRecDepth 100000 in
theorem nl_eqN : loopsOf c_eqN = [] := by kernel_rfl
def inv_eqN (n : Nat) (xs : List Int) : Nat → Prop := fun i => i ≤ n
def me_eqN (n : Nat) (xs : List Int) : Nat → Nat := fun i => n - i
/-- A round of this loop. -/
def Round_eqN (n : Nat) (xs : List Int) : Prop := ∀ xx : Nat, inv_eqN n xs xx → (bodyL Try.prog EM 30 12 noL 1 c_eqN k_eqN 2 (s_eqN n xs xx)).ok (RoundEnd 2 (s_eqN n xs) (inv_eqN n xs) (me_eqN n xs) re_eqN (rs_eqN n xs) xx) (fun _ _ => False)
def e_eqN (s : St) (k : Ex → St → Tree) : Option Tree := match Nat.beq s.tmps.length 26, pickL s.tmps [0, 1, 5], s.mem with
  | true, [.slice (some ⟨0, 0, none⟩) n _, .slice (some ⟨1, 0, none⟩) m _, .int .i64 i], [some ⟨.view, .ints xs⟩, some ⟨.view, .ints ys⟩] => some (needs [i = 0, m = n, ys = xs, n ≤ xs.length, n ≤ 1000000000] (k (.exit 0) ⟨[topV, topV, topV, topV, topV, topV, topV, topV, topV, topV, topV, topV, topV, topV, topV, topV, topV, topV, topV, topV, topV, topV, topV, topV, topV, topV], [some ⟨.view, .ints xs⟩, some ⟨.view, .ints xs⟩]⟩))
  | _, _, _ => none
set_option maxRecDepth 100000 in
theorem round_eqN (n : Nat) (xs : List Int) (hx : n ≤ xs.length) (h : n ≤ 1000000000) : Round_eqN n xs := by
  intro i h1
  have h1 : i ≤ n := h1
  rw [tr_eqN]
  simp only [brT_ok, Tree.ok, decide_eq_true_eq, decide_eq_false_iff_not, Int.toNat_natCast, Nat.zero_add, Nat.mul_one, Bool.not_eq_true', Bool.not_eq_false', beq_iff_eq, beq_eq_false_iff_ne]
  refine ⟨fun hlt => ?_, fun hge => ?_⟩
  · rw [wsucc (n := n) (by omega) h]
    refine ⟨by omega, by omega, by omega, by omega, fun hc => absurd rfl hc, fun _ => ⟨i + 1, [], ?_, ?_, rfl, rfl, ?_⟩⟩
    · show i + 1 ≤ n; omega
    · show n - (i + 1) < n - i; omega
    · repeat' (first | exact True.intro | exact rfl | exact fun _ => rfl | refine And.intro ?_ ?_)
  · refine ⟨rfl, [], ?_⟩
    repeat' (first | exact True.intro | exact rfl | exact fun _ => rfl | refine And.intro ?_ ?_)
set_option maxRecDepth 100000 in
theorem lg_eqN : LoopE Try.prog e_eqN c_eqN := by
  intro s k t F H hlt ht
  unfold e_eqN at hlt
  split at hlt
  rotate_left
  · cases hlt
  rename_i hlen hpick hmem
  obtain ⟨tmps, mem⟩ := s
  simp only at hlen hpick hmem
  subst hmem
  obtain rfl := Option.some.inj hlt
  obtain ⟨⟨rfl, rfl, rfl, h1, h2, _⟩, ht2⟩ := needs_ok ht
  clear ht hlt
  refine ⟨_, _, ht2, loop_run mixed EM_ok (s_eqN _ _) (inv_eqN _ _) (me_eqN _ _) re_eqN (rs_eqN _ _) k_eqN (fun _ => rfl) (noLoops nl_eqN) (round_eqN _ _ h1 h2) (x := 0) (Nat.zero_le _) (π := []) rfl ?_⟩
  refine ⟨rfl, rfl, ?_, wvs_spread' [0, 1, 5] hlen rfl ?_⟩
  · repeat' (first | exact True.intro | exact rfl | exact wv_top _ _ | exact fun _ => rfl | assumption | exact Eq.symm (by assumption) | exact vI0 rfl | refine And.intro ?_ ?_)
  · rw [hpick]
    repeat' (first | exact True.intro | exact rfl | exact wv_top _ _ | exact fun _ => rfl | assumption | exact Eq.symm (by assumption) | exact vI0 rfl | refine And.intro ?_ ?_)
/-- Not k at j. -/
def neQ (xs : List Int) (k : Int) (j : Nat) : Bool := !(xs.getD j 0 == k)
noncomputable def c_isN : Code := ((loopsOf (codeOf Try.f21))[0]?).getD .skip
def k_isN : Ex → List Nat := keeps [0, 1, 5] [(0, [])] [4]
def s_isN (n : Nat) (xs : List Int) (q : Int) : Nat → St := fun i => ⟨[.slice (some ⟨0, 0, none⟩) n n, .int .i64 q, topV, topV, topV, .int .i64 i, topV, topV, topV, topV, topV, topV, topV, topV, topV, topV, topV, topV], [some ⟨.view, .ints xs⟩, none]⟩
def re_isN (n : Nat) (xs : List Int) (q : Int) : Nat → Ex := fun i => bif allQ (neQ xs q) i (n - i) then .exit 0 else .ret
def rs_isN (n : Nat) (xs : List Int) (q : Int) : Nat → St := fun i => bif allQ (neQ xs q) i (n - i) then ⟨[topV, topV, topV, topV, topV, topV, topV, topV, topV, topV, topV, topV, topV, topV, topV, topV, topV, topV], [some ⟨.view, .ints xs⟩, none]⟩ else ⟨[topV, topV, topV, topV, .bool true, topV, topV, topV, topV, topV, topV, topV, topV, topV, topV, topV, topV, topV], [some ⟨.view, .ints xs⟩, none]⟩
set_option maxRecDepth 100000 in
theorem tr_isN (n : Nat) (xs : List Int) (q : Int) (i : Nat) : bodyL Try.prog EM 30 12 noL 1 c_isN k_isN 2 (s_isN n xs q i) = brT (decide ((↑i : Int) < (↑n : Int))) (.need ((0 : Int) ≤ (↑i : Int) ∧ (↑i : Int) < (↑n : Int)) (.need ((0 : Nat) + (↑i : Int).toNat * (1 : Nat) < xs.length) (brT (xs.getD (0 + (↑i : Int).toNat * 1) 0 == q) (.leaf .ret ⟨[topV, topV, topV, topV, .bool (true), topV, topV, topV, topV, topV, topV, topV, topV, topV, topV, topV, topV, topV], [some ⟨.view, .ints (xs)⟩, none]⟩) (.leaf .normal ⟨[.slice (some ⟨0, 0, none⟩) (n) (n), .int .i64 (q), topV, topV, topV, .int .i64 (IntKind.i64.wrap ((↑i : Int) + 1)), topV, topV, topV, topV, topV, topV, topV, topV, topV, topV, topV, topV], [some ⟨.view, .ints (xs)⟩, none]⟩)))) (.leaf (.exit 0) ⟨[topV, topV, topV, topV, topV, topV, topV, topV, topV, topV, topV, topV, topV, topV, topV, topV, topV, topV], [some ⟨.view, .ints (xs)⟩, none]⟩) := by kernel_rfl
set_option maxRecDepth 100000 in
theorem nl_isN : loopsOf c_isN = [] := by kernel_rfl
def inv_isN (n : Nat) (xs : List Int) (q : Int) : Nat → Prop := fun i => i ≤ n
def me_isN (n : Nat) (xs : List Int) (q : Int) : Nat → Nat := fun i => n - i
/-- A round of this loop. -/
def Round_isN (n : Nat) (xs : List Int) (q : Int) : Prop := ∀ xx : Nat, inv_isN n xs q xx → (bodyL Try.prog EM 30 12 noL 1 c_isN k_isN 2 (s_isN n xs q xx)).ok (RoundEnd 2 (s_isN n xs q) (inv_isN n xs q) (me_isN n xs q) (re_isN n xs q) (rs_isN n xs q) xx) (fun _ _ => False)
def e_isN (s : St) (k : Ex → St → Tree) : Option Tree := match Nat.beq s.tmps.length 18, pickL s.tmps [0, 1, 5], s.mem with
  | true, [.slice (some ⟨0, 0, none⟩) n _, .int .i64 q, .int .i64 i], [some ⟨.view, .ints xs⟩, none] => some (needs [i = 0, n ≤ xs.length, n ≤ 1000000000] (brT (allQ (neQ xs q) 0 n) (k (.exit 0) ⟨[topV, topV, topV, topV, topV, topV, topV, topV, topV, topV, topV, topV, topV, topV, topV, topV, topV, topV], [some ⟨.view, .ints xs⟩, none]⟩) (k .ret ⟨[topV, topV, topV, topV, .bool true, topV, topV, topV, topV, topV, topV, topV, topV, topV, topV, topV, topV, topV], [some ⟨.view, .ints xs⟩, none]⟩)))
  | _, _, _ => none
set_option maxRecDepth 100000 in
theorem round_isN (n : Nat) (xs : List Int) (q : Int) (hx : n ≤ xs.length) (h : n ≤ 1000000000) : Round_isN n xs q := by
  intro i h1
  have h1 : i ≤ n := h1
  rw [tr_isN]
  simp only [brT_ok, Tree.ok, decide_eq_true_eq, decide_eq_false_iff_not, Int.toNat_natCast, Nat.zero_add, Nat.mul_one, Bool.not_eq_true', Bool.not_eq_false']
  refine ⟨fun hlt => ⟨by omega, by omega, fun hv => ?_, fun hv => ?_⟩, fun hge => ?_⟩
  · have e : allQ (neQ xs q) i (n - i) = false := by rw [allQ_step (by omega)]; unfold neQ; rw [hv]; rfl
    refine ⟨by simp only [re_isN, e, cond_false], [], ?_⟩
    simp only [rs_isN, e, cond_false]
    repeat' (first | exact True.intro | exact rfl | exact fun _ => rfl | refine And.intro ?_ ?_)
  · have e : allQ (neQ xs q) i (n - i) = allQ (neQ xs q) (i + 1) (n - (i + 1)) := by
      rw [allQ_step (by omega)]
      have : neQ xs q i = true := by unfold neQ; rw [hv]; rfl
      rw [this, Bool.true_and]
    rw [wsucc (n := n) (by omega) h]
    refine ⟨i + 1, [], ?_, ?_, by simp only [re_isN, e], by simp only [rs_isN, e], ?_⟩
    · show i + 1 ≤ n; omega
    · show n - (i + 1) < n - i; omega
    · repeat' (first | exact True.intro | exact rfl | exact fun _ => rfl | refine And.intro ?_ ?_)
  · have e : allQ (neQ xs q) i (n - i) = true := allQ_end (by omega)
    refine ⟨by simp only [re_isN, e, cond_true], [], ?_⟩
    simp only [rs_isN, e, cond_true]
    repeat' (first | exact True.intro | exact rfl | exact fun _ => rfl | refine And.intro ?_ ?_)
set_option maxRecDepth 100000 in
theorem lg_isN : LoopE Try.prog e_isN c_isN := by
  intro s k t F H hlt ht
  unfold e_isN at hlt
  split at hlt
  rotate_left
  · cases hlt
  rename_i hlen hpick hmem
  obtain ⟨tmps, mem⟩ := s
  simp only at hlen hpick hmem
  subst hmem
  obtain rfl := Option.some.inj hlt
  obtain ⟨⟨rfl, h1, h2, _⟩, ht2⟩ := needs_ok ht
  clear ht hlt
  refine ⟨_, _, pick2k ht2, loop_run mixed EM_ok (s_isN _ _ _) (inv_isN _ _ _) (me_isN _ _ _) (re_isN _ _ _) (rs_isN _ _ _) k_isN (fun _ => rfl) (noLoops nl_isN) (round_isN _ _ _ h1 h2) (x := 0) (Nat.zero_le _) (π := []) rfl ?_⟩
  refine ⟨rfl, rfl, ?_, wvs_spread' [0, 1, 5] hlen rfl ?_⟩
  · repeat' (first | exact True.intro | exact rfl | exact wv_top _ _ | exact fun _ => rfl | assumption | exact Eq.symm (by assumption) | exact vI0 rfl | refine And.intro ?_ ?_)
  · rw [hpick]
    repeat' (first | exact True.intro | exact rfl | exact wv_top _ _ | exact fun _ => rfl | assumption | exact Eq.symm (by assumption) | exact vI0 rfl | refine And.intro ?_ ?_)
theorem Lr_eqN {fn : Func} (hf : Try.prog.funcs[17]? = some fn) : LoopsGood Try.prog (lt1 e_eqN) 0 (codeOf fn) := by
  obtain rfl := fn_is Try.func17 hf
  exact lt1_good lg_eqN
theorem Lr_isN {fn : Func} (hf : Try.prog.funcs[21]? = some fn) : LoopsGood Try.prog (lt1 e_isN) 0 (codeOf fn) := by
  obtain rfl := fn_is Try.func21 hf
  exact lt1_good lg_isN
theorem Lr_ivRc {fn : Func} (hf : Try.prog.funcs[19]? = some fn) : LoopsGood Try.prog (lt1 e_ivRc) 0 (codeOf fn) := by
  obtain rfl := fn_is Try.func19 hf
  exact lt1_good lg_ivRc
def LEq : FuncId → LT := fun f => match f with
  | 17 => lt1 e_eqN
  | 21 => lt1 e_isN
  | 19 => lt1 e_ivRc
  | _ => noL
def EEq : Env := mkE TRc (fun _ _ => none) LEq
theorem EEq_ok : EnvOk Try.prog EEq := mkEOk TRc_ok (fun _ _ _ _ _ h => (by cases h)) (by
  intro f fn hf
  unfold LEq
  split
  all_goals first | with_reducible exact Lr_eqN hf | with_reducible exact Lr_isN hf | with_reducible exact Lr_ivRc hf | exact noL_good)
set_option maxRecDepth 100000 in
theorem tr_eqNF (n m : Nat) (xs ys : List Int) : bodyV Try.prog EEq 30 12 17 [.row n (.ints xs), .row m (.ints ys)] = brT (!(↑n : Int) == (↑m : Int)) (.fin (.bool (false)) []) (.need ((0 : Int) = (0 : Int)) (.need (m = n) (.need (ys = xs) (.need (n ≤ xs.length) (.need (n ≤ (1000000000 : Nat)) (.fin (.bool (true)) [])))))) := by kernel_rfl
set_option maxRecDepth 100000 in
theorem tr_isNF (n : Nat) (xs : List Int) (q : Int) : bodyV Try.prog EEq 30 12 21 [.row n (.ints xs), .v (.int .i64 q)] = .need ((0 : Int) = (0 : Int)) (.need (n ≤ xs.length) (.need (n ≤ (1000000000 : Nat)) (brT (allQ (neQ xs q) 0 n) (.fin (.bool (false)) []) (.fin (.bool (true)) [])))) := by kernel_rfl
set_option maxRecDepth 100000 in
theorem tr_ivRcF (n : Nat) (xs : List Int) : bodyV Try.prog EEq 30 12 19 [.row n (.ints xs)] = .need ((0 : Int) = (0 : Int)) (.need (n = n) (.need ((↑n : Int) = (↑n : Int)) (.need (xs.length = n * (4 : Nat)) (.need (n ≤ (1000000000 : Nat)) (brT (allQ (rcQ xs) 0 n) (.fin (.bool (decide ((↑n : Int) ≤ 12))) []) (.fin (.bool (false)) [])))))) := by kernel_rfl
theorem res_eqN (n : Nat) (xs : List Int) (h : n ≤ xs.length) (hn : Lim n) : Res Try.prog 17 [.row n (.ints xs), .row n (.ints xs)] (.bool true) := by
  refine bodyV_res mixed EEq_ok (m := 30) (n := 12) rfl ?_
  rw [tr_eqNF]
  simp [brT_ok, Tree.ok]
  exact ⟨h, hn⟩
def pEqN : List DArg → Option (Value × List Prop)
  | [.row n (.ints xs), .row m (.ints ys)] => some (.bool true, [n = m, xs = ys, n ≤ xs.length, Lim n])
  | _ => none
theorem pEqN_ok {ds : List DArg} {v : Value} {C : List Prop} (h : pEqN ds = some (v, C)) (hC : AllP C) : Res Try.prog 17 ds v := by
  unfold pEqN at h
  split at h
  · obtain ⟨rfl, rfl⟩ : _ ∧ _ := by simpa using h
    obtain ⟨rfl, rfl, h1, h2, _⟩ := hC
    exact res_eqN _ _ h1 h2
  · cases h
theorem res_isN (n : Nat) (xs : List Int) (q : Int) (h : n ≤ xs.length) (hn : Lim n) : Res Try.prog 21 [.row n (.ints xs), .v (.int .i64 q)] (.bool (!allQ (neQ xs q) 0 n)) := by
  refine bodyV_res mixed EEq_ok (m := 30) (n := 12) rfl ?_
  rw [tr_isNF]
  rcases hq : allQ (neQ xs q) 0 n with _ | _
  all_goals exact ⟨rfl, h, hn, rfl⟩
def pIsN : List DArg → Option (Value × List Prop)
  | [.row n (.ints xs), .v (.int .i64 q)] => some (.bool (!allQ (neQ xs q) 0 n), [n ≤ xs.length, Lim n])
  | _ => none
theorem pIsN_ok {ds : List DArg} {v : Value} {C : List Prop} (h : pIsN ds = some (v, C)) (hC : AllP C) : Res Try.prog 21 ds v := by
  unfold pIsN at h
  split at h
  · obtain ⟨rfl, rfl⟩ : _ ∧ _ := by simpa using h
    exact res_isN _ _ _ hC.1 hC.2.1
  · cases h
/-- One rectangle in a list. -/
theorem res_ivR1 (xs : List Int) (h : xs.length = 4) : Res Try.prog 19 [.row 1 (.ints xs)] (.bool (rcQ xs 0)) := by
  refine bodyV_res mixed EEq_ok (m := 30) (n := 12) rfl ?_
  rw [tr_ivRcF]
  have e : allQ (rcQ xs) 0 1 = rcQ xs 0 := Bool.and_true _
  rw [e]
  rcases hq : rcQ xs 0 with _ | _
  all_goals simp [brT, Tree.ok, h]
def pIvR1 : List DArg → Option (Value × List Prop)
  | [.row n (.ints xs)] => some (.bool (rcQ xs 0), [n = 1, xs.length = 4])
  | _ => none
theorem pIvR1_ok {ds : List DArg} {v : Value} {C : List Prop} (h : pIvR1 ds = some (v, C)) (hC : AllP C) : Res Try.prog 19 ds v := by
  unfold pIvR1 at h
  split at h
  · obtain ⟨rfl, rfl⟩ : _ ∧ _ := by simpa using h
    obtain ⟨rfl, h1, _⟩ := hC
    exact res_ivR1 _ h1
  · cases h
end Go.Proofs.Ytoijfjifaljpaab
