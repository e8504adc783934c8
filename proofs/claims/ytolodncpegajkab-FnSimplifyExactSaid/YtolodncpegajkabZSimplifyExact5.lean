/-
  Texts that the proof needs, merged. Written by an AI agent.
-/
import Derived.Orders
import Derived.Below
import Derived.OrdersIn
import Derived.Deep.LoopGhost
import Derived.WalkKit
import Derived.Laws.CopyRow
import Derived.Laws.AppendOwn
import Derived.Laws.Slices
import Derived.Laws.MakeOwn
import Derived.Test.YtolodncpegajkabRows
import Derived.ProofKit
import Derived.OpenShut
import Derived.Carry
import Derived.IntWalk
import Derived.Test.YtolodncpegajkabProg
import Derived.WalkSpells
import Derived.WalkLawsBesides
import Derived.Lib.Hide
import Derived.Deep.QuietTactic
import Derived.BigQuiet
import Derived.KernelRfl
import Derived.Deep.RegionHeld3
import Derived.LoopTactic
import Derived.Laws.StructEq
import Derived.Laws.Tables
import Derived.RangeFuncNested
import Derived.RangeFuncLeaves
import Derived.Deep.Slices
import Derived.Deep.Fields
import Derived.ChangeSame
import Derived.Shelf.SlSortCmp.WholeK
import Derived.Sort.Grow
import Derived.Deep.DeepCutAuto
import Derived.Shelf.SlSortCmp.NoneTotal
import Derived.Test.YtolodncpegajkabZSimplifyExact4
namespace Go.Proofs.Ytolodncpegajkab
set_option linter.all false
open Go.RowKit
noncomputable def c_eqN : Code := ((loopsOf (codeOf Try.f25))[0]?).getD .skip
def k_eqN : Ex → List Nat := keeps [0, 1, 5] [(0, [])] [4]
def s_eqN (n : Nat) (xs : List Int) : Nat → St := fun i => ⟨[.slice (some ⟨0, 0, none⟩) n n, .slice (some ⟨1, 0, none⟩) n n, topV, topV, topV, .int .i64 i, topV, topV, topV, topV, topV, topV, topV, topV, topV, topV, topV, topV, topV, topV, topV, topV, topV, topV, topV, topV], [some ⟨.view, .ints xs⟩, some ⟨.view, .ints xs⟩]⟩
def re_eqN : Nat → Ex := fun _ => .exit 0
def rs_eqN (n : Nat) (xs : List Int) : Nat → St := fun i => ⟨[topV, topV, topV, topV, topV, topV, topV, topV, topV, topV, topV, topV, topV, topV, topV, topV, topV, topV, topV, topV, topV, topV, topV, topV, topV, topV], [some ⟨.view, .ints xs⟩, some ⟨.view, .ints xs⟩]⟩
set_option maxRecDepth 100000 in
theorem tr_eqN (n : Nat) (xs : List Int) (i : Nat) : bodyL Try.prog E3 30 12 noL 1 c_eqN k_eqN 2 (s_eqN n xs i) = brT (decide ((↑i : Int) < (↑n : Int))) (.need ((0 : Int) ≤ (↑i : Int) ∧ (↑i : Int) < (↑n : Int)) (.need ((0 : Nat) + (↑i : Int).toNat * (1 : Nat) < xs.length) (.need ((0 : Int) ≤ (↑i : Int) ∧ (↑i : Int) < (↑n : Int)) (.need ((0 : Nat) + (↑i : Int).toNat * (1 : Nat) < xs.length) (brT (!xs.getD (0 + (↑i : Int).toNat * 1) 0 == xs.getD (0 + (↑i : Int).toNat * 1) 0) (.leaf .ret ⟨[topV, topV, topV, topV, .bool (false), topV, topV, topV, topV, topV, topV, topV, topV, topV, topV, topV, topV, topV, topV, topV, topV, topV, topV, topV, topV, topV], [some ⟨.view, .ints (xs)⟩, some ⟨.view, .ints (xs)⟩]⟩) (.leaf .normal ⟨[.slice (some ⟨0, 0, none⟩) (n) (n), .slice (some ⟨1, 0, none⟩) (n) (n), topV, topV, topV, .int .i64 (IntKind.i64.wrap ((↑i : Int) + 1)), topV, topV, topV, topV, topV, topV, topV, topV, topV, topV, topV, topV, topV, topV, topV, topV, topV, topV, topV, topV], [some ⟨.view, .ints (xs)⟩, some ⟨.view, .ints (xs)⟩]⟩)))))) (.leaf (.exit 0) ⟨[topV, topV, topV, topV, topV, topV, topV, topV, topV, topV, topV, topV, topV, topV, topV, topV, topV, topV, topV, topV, topV, topV, topV, topV, topV, topV], [some ⟨.view, .ints (xs)⟩, some ⟨.view, .ints (xs)⟩]⟩) := by kernel_rfl
set_option maxRecDepth 100000 in
theorem nl_eqN : loopsOf c_eqN = [] := by kernel_rfl
def inv_eqN (n : Nat) (xs : List Int) : Nat → Prop := fun i => i ≤ n
def me_eqN (n : Nat) (xs : List Int) : Nat → Nat := fun i => n - i
/-- A round of this loop. -/
def Round_eqN (n : Nat) (xs : List Int) : Prop := ∀ xx : Nat, inv_eqN n xs xx → (bodyL Try.prog E3 30 12 noL 1 c_eqN k_eqN 2 (s_eqN n xs xx)).ok (RoundEnd 2 (s_eqN n xs) (inv_eqN n xs) (me_eqN n xs) re_eqN (rs_eqN n xs) xx) (fun _ _ => False)
def e_eqN (s : St) (k : Ex → St → Tree) : Option Tree := match Nat.beq s.tmps.length 26, pickL s.tmps [0, 1, 5], s.mem with
  | true, [.slice (some ⟨0, 0, none⟩) n _, .slice (some ⟨1, 0, none⟩) m _, .int .i64 i], [some ⟨.view, .ints xs⟩, some ⟨.view, .ints ys⟩] => some (needs [i = 0, m = n, ys = xs, n ≤ xs.length, n ≤ 1000000000] (k (.exit 0) ⟨[topV, topV, topV, topV, topV, topV, topV, topV, topV, topV, topV, topV, topV, topV, topV, topV, topV, topV, topV, topV, topV, topV, topV, topV, topV, topV], [some ⟨.view, .ints xs⟩, some ⟨.view, .ints xs⟩]⟩))
  | _, _, _ => none
set_option maxRecDepth 100000 in
theorem round_eqN (n : Nat) (xs : List Int) (hx : n ≤ xs.length) (h : n ≤ 1000000000) : Round_eqN n xs := by
  intro i h1
  have h1 : i ≤ n := h1
  rw [tr_eqN]
  simp only [brT_ok, Tree.ok, decide_eq_true_eq, decide_eq_false_iff_not, Int.toNat_natCast, Nat.zero_add, Nat.mul_one, Bool.not_eq_true', Bool.not_eq_false', beq_iff_eq, beq_eq_false_iff_ne]
  refine ⟨fun hlt => ?_, fun hge => ?_⟩
  · rw [wsucc (n := n) (by omega) h]
    refine ⟨by omega, by omega, by omega, by omega, fun hc => absurd rfl hc, fun _ => ⟨i + 1, [], ?_, ?_, rfl, rfl, ?_⟩⟩
    · show i + 1 ≤ n; omega
    · show n - (i + 1) < n - i; omega
    · repeat' (first | exact True.intro | exact rfl | exact fun _ => rfl | refine And.intro ?_ ?_)
  · refine ⟨rfl, [], ?_⟩
    repeat' (first | exact True.intro | exact rfl | exact fun _ => rfl | refine And.intro ?_ ?_)
set_option maxRecDepth 100000 in
theorem lg_eqN : LoopE Try.prog e_eqN c_eqN := by
  intro s k t F H hlt ht
  unfold e_eqN at hlt
  split at hlt
  rotate_left
  · cases hlt
  rename_i hlen hpick hmem
  obtain ⟨tmps, mem⟩ := s
  simp only at hlen hpick hmem
  subst hmem
  obtain rfl := Option.some.inj hlt
  obtain ⟨⟨rfl, rfl, rfl, h1, h2, _⟩, ht2⟩ := needs_ok ht
  clear ht hlt
  refine ⟨_, _, ht2, loop_run mixed E3_ok (s_eqN _ _) (inv_eqN _ _) (me_eqN _ _) re_eqN (rs_eqN _ _) k_eqN (fun _ => rfl) (noLoops nl_eqN) (round_eqN _ _ h1 h2) (x := 0) (Nat.zero_le _) (π := []) rfl ?_⟩
  refine ⟨rfl, rfl, ?_, wvs_spread' [0, 1, 5] hlen rfl ?_⟩
  · repeat' (first | exact True.intro | exact rfl | exact wv_top _ _ | exact fun _ => rfl | assumption | exact Eq.symm (by assumption) | exact vI0 rfl | refine And.intro ?_ ?_)
  · rw [hpick]
    repeat' (first | exact True.intro | exact rfl | exact wv_top _ _ | exact fun _ => rfl | assumption | exact Eq.symm (by assumption) | exact vI0 rfl | refine And.intro ?_ ?_)
/-- Not k at j. -/
def neQ (xs : List Int) (k : Int) (j : Nat) : Bool := !(xs.getD j 0 == k)
noncomputable def c_isN : Code := ((loopsOf (codeOf Try.f29))[0]?).getD .skip
def k_isN : Ex → List Nat := keeps [0, 1, 5] [(0, [])] [4]
def s_isN (n : Nat) (xs : List Int) (q : Int) : Nat → St := fun i => ⟨[.slice (some ⟨0, 0, none⟩) n n, .int .i64 q, topV, topV, topV, .int .i64 i, topV, topV, topV, topV, topV, topV, topV, topV, topV, topV, topV, topV], [some ⟨.view, .ints xs⟩, none]⟩
def re_isN (n : Nat) (xs : List Int) (q : Int) : Nat → Ex := fun i => bif allQ (neQ xs q) i (n - i) then .exit 0 else .ret
def rs_isN (n : Nat) (xs : List Int) (q : Int) : Nat → St := fun i => bif allQ (neQ xs q) i (n - i) then ⟨[topV, topV, topV, topV, topV, topV, topV, topV, topV, topV, topV, topV, topV, topV, topV, topV, topV, topV], [some ⟨.view, .ints xs⟩, none]⟩ else ⟨[topV, topV, topV, topV, .bool true, topV, topV, topV, topV, topV, topV, topV, topV, topV, topV, topV, topV, topV], [some ⟨.view, .ints xs⟩, none]⟩
set_option maxRecDepth 100000 in
theorem tr_isN (n : Nat) (xs : List Int) (q : Int) (i : Nat) : bodyL Try.prog E3 30 12 noL 1 c_isN k_isN 2 (s_isN n xs q i) = brT (decide ((↑i : Int) < (↑n : Int))) (.need ((0 : Int) ≤ (↑i : Int) ∧ (↑i : Int) < (↑n : Int)) (.need ((0 : Nat) + (↑i : Int).toNat * (1 : Nat) < xs.length) (brT (xs.getD (0 + (↑i : Int).toNat * 1) 0 == q) (.leaf .ret ⟨[topV, topV, topV, topV, .bool (true), topV, topV, topV, topV, topV, topV, topV, topV, topV, topV, topV, topV, topV], [some ⟨.view, .ints (xs)⟩, none]⟩) (.leaf .normal ⟨[.slice (some ⟨0, 0, none⟩) (n) (n), .int .i64 (q), topV, topV, topV, .int .i64 (IntKind.i64.wrap ((↑i : Int) + 1)), topV, topV, topV, topV, topV, topV, topV, topV, topV, topV, topV, topV], [some ⟨.view, .ints (xs)⟩, none]⟩)))) (.leaf (.exit 0) ⟨[topV, topV, topV, topV, topV, topV, topV, topV, topV, topV, topV, topV, topV, topV, topV, topV, topV, topV], [some ⟨.view, .ints (xs)⟩, none]⟩) := by kernel_rfl
set_option maxRecDepth 100000 in
theorem nl_isN : loopsOf c_isN = [] := by kernel_rfl
def inv_isN (n : Nat) (xs : List Int) (q : Int) : Nat → Prop := fun i => i ≤ n
def me_isN (n : Nat) (xs : List Int) (q : Int) : Nat → Nat := fun i => n - i
/-- A round of this loop. -/
def Round_isN (n : Nat) (xs : List Int) (q : Int) : Prop := ∀ xx : Nat, inv_isN n xs q xx → (bodyL Try.prog E3 30 12 noL 1 c_isN k_isN 2 (s_isN n xs q xx)).ok (RoundEnd 2 (s_isN n xs q) (inv_isN n xs q) (me_isN n xs q) (re_isN n xs q) (rs_isN n xs q) xx) (fun _ _ => False)
def e_isN (s : St) (k : Ex → St → Tree) : Option Tree := match Nat.beq s.tmps.length 18, pickL s.tmps [0, 1, 5], s.mem with
  | true, [.slice (some ⟨0, 0, none⟩) n _, .int .i64 q, .int .i64 i], [some ⟨.view, .ints xs⟩, none] => some (needs [i = 0, n ≤ xs.length, n ≤ 1000000000] (brT (allQ (neQ xs q) 0 n) (k (.exit 0) ⟨[topV, topV, topV, topV, topV, topV, topV, topV, topV, topV, topV, topV, topV, topV, topV, topV, topV, topV], [some ⟨.view, .ints xs⟩, none]⟩) (k .ret ⟨[topV, topV, topV, topV, .bool true, topV, topV, topV, topV, topV, topV, topV, topV, topV, topV, topV, topV, topV], [some ⟨.view, .ints xs⟩, none]⟩)))
  | _, _, _ => none
set_option maxRecDepth 100000 in
theorem round_isN (n : Nat) (xs : List Int) (q : Int) (hx : n ≤ xs.length) (h : n ≤ 1000000000) : Round_isN n xs q := by
  intro i h1
  have h1 : i ≤ n := h1
  rw [tr_isN]
  simp only [brT_ok, Tree.ok, decide_eq_true_eq, decide_eq_false_iff_not, Int.toNat_natCast, Nat.zero_add, Nat.mul_one, Bool.not_eq_true', Bool.not_eq_false']
  refine ⟨fun hlt => ⟨by omega, by omega, fun hv => ?_, fun hv => ?_⟩, fun hge => ?_⟩
  · have e : allQ (neQ xs q) i (n - i) = false := by rw [allQ_step (by omega)]; unfold neQ; rw [hv]; rfl
    refine ⟨by simp only [re_isN, e, cond_false], [], ?_⟩
    simp only [rs_isN, e, cond_false]
    repeat' (first | exact True.intro | exact rfl | exact fun _ => rfl | refine And.intro ?_ ?_)
  · have e : allQ (neQ xs q) i (n - i) = allQ (neQ xs q) (i + 1) (n - (i + 1)) := by
      rw [allQ_step (by omega)]
      have : neQ xs q i = true := by unfold neQ; rw [hv]; rfl
      rw [this, Bool.true_and]
    rw [wsucc (n := n) (by omega) h]
    refine ⟨i + 1, [], ?_, ?_, by simp only [re_isN, e], by simp only [rs_isN, e], ?_⟩
    · show i + 1 ≤ n; omega
    · show n - (i + 1) < n - i; omega
    · repeat' (first | exact True.intro | exact rfl | exact fun _ => rfl | refine And.intro ?_ ?_)
  · have e : allQ (neQ xs q) i (n - i) = true := allQ_end (by omega)
    refine ⟨by simp only [re_isN, e, cond_true], [], ?_⟩
    simp only [rs_isN, e, cond_true]
    repeat' (first | exact True.intro | exact rfl | exact fun _ => rfl | refine And.intro ?_ ?_)
set_option maxRecDepth 100000 in
theorem lg_isN : LoopE Try.prog e_isN c_isN := by
  intro s k t F H hlt ht
  unfold e_isN at hlt
  split at hlt
  rotate_left
  · cases hlt
  rename_i hlen hpick hmem
  obtain ⟨tmps, mem⟩ := s
  simp only at hlen hpick hmem
  subst hmem
  obtain rfl := Option.some.inj hlt
  obtain ⟨⟨rfl, h1, h2, _⟩, ht2⟩ := needs_ok ht
  clear ht hlt
  refine ⟨_, _, pick2k ht2, loop_run mixed E3_ok (s_isN _ _ _) (inv_isN _ _ _) (me_isN _ _ _) (re_isN _ _ _) (rs_isN _ _ _) k_isN (fun _ => rfl) (noLoops nl_isN) (round_isN _ _ _ h1 h2) (x := 0) (Nat.zero_le _) (π := []) rfl ?_⟩
  refine ⟨rfl, rfl, ?_, wvs_spread' [0, 1, 5] hlen rfl ?_⟩
  · repeat' (first | exact True.intro | exact rfl | exact wv_top _ _ | exact fun _ => rfl | assumption | exact Eq.symm (by assumption) | exact vI0 rfl | refine And.intro ?_ ?_)
  · rw [hpick]
    repeat' (first | exact True.intro | exact rfl | exact wv_top _ _ | exact fun _ => rfl | assumption | exact Eq.symm (by assumption) | exact vI0 rfl | refine And.intro ?_ ?_)
theorem Lr_eqN {fn : Func} (hf : Try.prog.funcs[25]? = some fn) : LoopsGood Try.prog (lt1 e_eqN) 0 (codeOf fn) := by
  obtain rfl := fn_is Try.func25 hf
  exact lt1_good lg_eqN
theorem Lr_isN {fn : Func} (hf : Try.prog.funcs[29]? = some fn) : LoopsGood Try.prog (lt1 e_isN) 0 (codeOf fn) := by
  obtain rfl := fn_is Try.func29 hf
  exact lt1_good lg_isN
def LEq : FuncId → LT := fun f => match f with
  | 25 => lt1 e_eqN
  | 29 => lt1 e_isN
  | _ => noL
def EEq : Env := mkE T2 (fun _ _ => none) LEq
theorem EEq_ok : EnvOk Try.prog EEq := mkEOk T2_ok (fun _ _ _ _ _ h => (by cases h)) (by
  intro f fn hf
  unfold LEq
  split
  all_goals first | with_reducible exact Lr_eqN hf | with_reducible exact Lr_isN hf | exact noL_good)
set_option maxRecDepth 100000 in
theorem tr_eqNF (n m : Nat) (xs ys : List Int) : bodyV Try.prog EEq 30 12 25 [.row n (.ints xs), .row m (.ints ys)] = brT (!(↑n : Int) == (↑m : Int)) (.fin (.bool (false)) []) (.need ((0 : Int) = (0 : Int)) (.need (m = n) (.need (ys = xs) (.need (n ≤ xs.length) (.need (n ≤ (1000000000 : Nat)) (.fin (.bool (true)) [])))))) := by kernel_rfl
set_option maxRecDepth 100000 in
theorem tr_isNF (n : Nat) (xs : List Int) (q : Int) : bodyV Try.prog EEq 30 12 29 [.row n (.ints xs), .v (.int .i64 q)] = .need ((0 : Int) = (0 : Int)) (.need (n ≤ xs.length) (.need (n ≤ (1000000000 : Nat)) (brT (allQ (neQ xs q) 0 n) (.fin (.bool (false)) []) (.fin (.bool (true)) [])))) := by kernel_rfl
theorem res_eqN (n : Nat) (xs : List Int) (h : n ≤ xs.length) (hn : Lim n) : Res Try.prog 25 [.row n (.ints xs), .row n (.ints xs)] (.bool true) := by
  refine bodyV_res mixed EEq_ok (m := 30) (n := 12) rfl ?_
  rw [tr_eqNF]
  simp [brT_ok, Tree.ok]
  exact ⟨h, hn⟩
def pEqN : List DArg → Option (Value × List Prop)
  | [.row n (.ints xs), .row m (.ints ys)] => some (.bool true, [n = m, xs = ys, n ≤ xs.length, Lim n])
  | _ => none
theorem pEqN_ok {ds : List DArg} {v : Value} {C : List Prop} (h : pEqN ds = some (v, C)) (hC : AllP C) : Res Try.prog 25 ds v := by
  unfold pEqN at h
  split at h
  · obtain ⟨rfl, rfl⟩ : _ ∧ _ := by simpa using h
    obtain ⟨rfl, rfl, h1, h2, _⟩ := hC
    exact res_eqN _ _ h1 h2
  · cases h
theorem res_isN (n : Nat) (xs : List Int) (q : Int) (h : n ≤ xs.length) (hn : Lim n) : Res Try.prog 29 [.row n (.ints xs), .v (.int .i64 q)] (.bool (!allQ (neQ xs q) 0 n)) := by
  refine bodyV_res mixed EEq_ok (m := 30) (n := 12) rfl ?_
  rw [tr_isNF]
  rcases hq : allQ (neQ xs q) 0 n with _ | _
  all_goals exact ⟨rfl, h, hn, rfl⟩
def pIsN : List DArg → Option (Value × List Prop)
  | [.row n (.ints xs), .v (.int .i64 q)] => some (.bool (!allQ (neQ xs q) 0 n), [n ≤ xs.length, Lim n])
  | _ => none
theorem pIsN_ok {ds : List DArg} {v : Value} {C : List Prop} (h : pIsN ds = some (v, C)) (hC : AllP C) : Res Try.prog 29 ds v := by
  unfold pIsN at h
  split at h
  · obtain ⟨rfl, rfl⟩ : _ ∧ _ := by simpa using h
    exact res_isN _ _ _ hC.1 hC.2.1
  · cases h
end Go.Proofs.Ytolodncpegajkab
namespace Go.Proofs.Ytolodncpegajkab
set_option linter.all false
open Go.RowKit
set_option maxRecDepth 100000 in
theorem tr_iOx (a b c d x y : Int) : bodyV Try.prog (tabE TRl) 30 12 30 [.v (.agg #[iv a, iv b, iv c, iv d]), .v (.agg #[iv x, iv y])] = brT (segB a b c d) (brT (ptB x y) (.need (ptB a b = true) (.need (ptB c d = true) (.need (ptB x y = true) (.fin (.bool (hasB a b c d x y)) [])))) (.fin (.bool (false)) [])) (.fin (.bool (false)) []) := by kernel_rfl
def onX (a b c d x y : Int) : Bool := segB a b c d && ptB x y && hasB a b c d x y
theorem res_iOx (a b c d x y : Int) : Res Try.prog 30 [.v (.agg #[iv a, iv b, iv c, iv d]), .v (.agg #[iv x, iv y])] (.bool (onX a b c d x y)) := by
  refine bodyV_res mixed (tabE_ok TRl_ok) (m := 30) (n := 12) rfl ?_
  rw [tr_iOx]
  unfold onX
  rcases s1 : segB a b c d with _ | _
  · simp [brT_ok, Tree.ok]
  obtain ⟨h1, h2⟩ : ptB a b = true ∧ ptB c d = true := by
    unfold segB at s1
    simp only [Bool.and_eq_true] at s1
    exact s1.1
  rcases s2 : ptB x y with _ | _
  · simp [brT_ok, Tree.ok]
  · simp [brT_ok, Tree.ok, h1, h2]
def pOnX : List DArg → Option (Value × List Prop)
  | [.v (.agg ⟨[.int .i64 a, .int .i64 b, .int .i64 c, .int .i64 d]⟩), .v (.agg ⟨[.int .i64 x, .int .i64 y]⟩)] => some (.bool (onX a b c d x y), [])
  | _ => none
theorem pOnX_ok {ds : List DArg} {v : Value} {C : List Prop} (h : pOnX ds = some (v, C)) : Res Try.prog 30 ds v := by
  unfold pOnX at h
  split at h
  · obtain ⟨rfl, rfl⟩ : _ ∧ _ := by simpa using h
    exact res_iOx _ _ _ _ _ _
  · cases h
def TSx : Tab := fun f ds => match f with
  | 25 => pEqN ds
  | 29 => pIsN ds
  | 30 => pOnX ds
  | f => B0 f ds
theorem TSx_ok : TabOk Try.prog TSx := by
  intro f ds v C h hC
  unfold TSx at h
  (try split at h)
  all_goals first | with_reducible exact pEqN_ok h hC | with_reducible exact pIsN_ok h hC | with_reducible exact pOnX_ok h | exact B0_ok _ _ _ _ h hC
def RDx : TabR := fun f ds => match f, ds with
  | 26, [.row n (.bytes bs)] => some (dSpL bs (rdL n), ⟨.row 44 2, .ints (flat (apthL bs (rdL n) 0))⟩, [Bytes bs, n ≤ bs.length])
  | f, ds => RSy f ds
theorem RDx_ok : TabROk Try.prog RDx := by
  intro f ds v b C h hC
  unfold RDx at h
  split at h
  · obtain ⟨rfl, rfl, rfl⟩ : _ ∧ _ ∧ _ := by simpa using h
    exact resR_dSp _ _ hC.1 hC.2.1
  · exact RSy_ok _ _ _ _ _ h hC
def ESx0 : Env := mkE TSx RDx (fun _ => noL)
theorem ESx0_ok : EnvOk Try.prog ESx0 := mkEOk TSx_ok RDx_ok (fun _ _ _ => noL_good)
/-- A path with what is kept of it without a tolerance. -/
structure SxOk (ps : List Pt) (es : List Int) : Prop where
  v : allV ps = true
  len : ps.length ≤ 20
  el : es.length ≤ 1000
  pos : 2 ≤ es.length
  rng : ∀ k, k < es.length → 0 ≤ es.getD k 0 ∧ es.getD k 0 < ps.length
  st : ∀ k, k + 1 < es.length → es.getD k 0 < es.getD (k + 1) 0 ∧ stpB ps (es.getD k 0).toNat (es.getD (k + 1) 0).toNat 0 = true
  first : es.getD 0 0 = 0
  last : es.getD (es.length - 1) 0 = (ps.length : Int) - 1
/-- How far the place of the next kept point moves on. -/
def adv (es : List Int) (i : Int) : Nat → Nat → Nat
  | 0, a => a
  | f + 1, a => if a + 1 < es.length ∧ es.getD a 0 < i then adv es i f (a + 1) else a
theorem adv_spec {es : List Int} {i : Int} : ∀ f a, a < es.length → es.length ≤ a + f → a ≤ adv es i f a ∧ adv es i f a < es.length ∧ (adv es i f a = a ∨ es.getD (adv es i f a - 1) 0 < i) ∧ (es.length ≤ adv es i f a + 1 ∨ i ≤ es.getD (adv es i f a) 0)
  | 0, a, h, h1 => by omega
  | f + 1, a, h, h1 => by
    simp only [adv]
    split
    · rename_i c
      obtain ⟨k1, k2, k3, k4⟩ := adv_spec (es := es) (i := i) f (a + 1) (by omega) (by omega)
      refine ⟨by omega, k2, .inr ?_, k4⟩
      rcases k3 with k3 | k3
      · rw [k3, Nat.add_sub_cancel]
        exact c.2
      · exact k3
    · rename_i c
      exact ⟨Nat.le_refl _, h, .inl rfl, by omega⟩
theorem sq_zero {X P : Pt} (h : sqP X P ≤ 0) : X = P := by
  unfold sqP at h
  have q1 := sq_nn (X.1 - P.1)
  have q2 := sq_nn (X.2 - P.2)
  refine Prod.ext ?_ ?_
  · refine Classical.byContradiction fun hn => ?_
    have := sq_ps (x := X.1 - P.1) (by omega)
    omega
  · refine Classical.byContradiction fun hn => ?_
    have := sq_ps (x := X.2 - P.2) (by omega)
    omega
theorem onB_a (A B : Pt) : hasB A.1 A.2 B.1 B.2 A.1 A.2 = true := by
  unfold hasB
  simp
theorem onB_b (A B : Pt) : hasB A.1 A.2 B.1 B.2 B.1 B.2 = true := by
  unfold hasB
  simp
theorem sc_on {A B P : Pt} (h : scS A B P ≤ 0) : hasB A.1 A.2 B.1 B.2 P.1 P.2 = true := by
  have sp := scl_pos A B
  unfold scS at h
  have s0 : ∀ X : Pt, sqP X P * sclP A B ≤ 0 → X = P := fun X hx => sq_zero (Int.le_of_not_gt fun hg => by
    have := Int.mul_pos hg (show 0 < sclP A B by omega)
    omega)
  split at h
  · obtain rfl := s0 A h
    exact onB_a _ _
  rename_i d1
  split at h
  · obtain rfl := s0 B h
    exact onB_b _ _
  rename_i d2
  have c0 : crP A B P = 0 := by
    refine Classical.byContradiction fun hn => ?_
    have := sq_ps hn
    omega
  have lg : crP A B P * crP A B P + dotP A B P * dotP A B P = sqP B A * sqP A P := by
    unfold crP dotP sqP crossI
    grind
  rw [c0] at lg
  have e1 : (A.1 - P.1) * (B.1 - P.1) + (A.2 - P.2) * (B.2 - P.2) = sqP A P - dotP A B P := by
    unfold dotP sqP
    grind
  have e2 : (A.1 - P.1) * (B.2 - P.2) - (A.2 - P.2) * (B.1 - P.1) = crP A B P := by
    unfold crP crossI
    grind
  unfold hasB
  rw [e1, e2, c0, Bool.and_eq_true]
  refine ⟨rfl, decide_eq_true ?_⟩
  have le : sqP A P ≤ dotP A B P := Int.le_of_not_gt fun hg => by
    have m1 := Int.mul_lt_mul_of_pos_left hg (show 0 < sqP B A by omega)
    have m2 := Int.mul_lt_mul_of_pos_right (show dotP A B P < sqP B A by omega) (show 0 < dotP A B P by omega)
    omega
  omega
/-- The points between two kept ones are on their segment. -/
theorem SxOk.on {ps : List Pt} {es : List Int} (h : SxOk ps es) {k i : Nat} (hk : k + 1 < es.length) (h1 : es.getD k 0 ≤ i) (h2 : (i : Int) ≤ es.getD (k + 1) 0) : hasB (gP ps (es.getD k 0).toNat).1 (gP ps (es.getD k 0).toNat).2 (gP ps (es.getD (k + 1) 0).toNat).1 (gP ps (es.getD (k + 1) 0).toNat).2 (gP ps i).1 (gP ps i).2 = true := by
  have r1 := h.rng k (by omega)
  have r2 := h.rng (k + 1) hk
  obtain ⟨s1, s2⟩ := h.st k hk
  rcases Int.lt_or_le (i : Int) (es.getD (k + 1) 0) with g | g
  · have q := all_stp h.v (a := (es.getD k 0).toNat) (b := (es.getD (k + 1) 0).toNat) (by omega) (by omega) (most := 0) (Int.le_refl _)
    rw [s2] at q
    have q1 := allQ_get _ _ q i (by omega) (by omega)
    rw [dvQ_sc h.v] at q1
    have q2 := of_decide_eq_true q1
    rw [Int.zero_mul] at q2
    exact sc_on q2
  · have e : (es.getD (k + 1) 0).toNat = i := by omega
    rw [e]
    exact onB_b _ _
end Go.Proofs.Ytolodncpegajkab
namespace Go.Proofs.Ytolodncpegajkab
set_option linter.all false
open Go.RowKit
noncomputable def c_sxI : Code := ((loopsOf (codeOf Try.f6))[1]?).getD .skip
def k_sxI : Ex → List Nat := keeps [3, 6, 7, 8] [(2, [3, 6, 7, 8]), (1, [3, 6, 7, 8]), (0, [])] [2]
def s_sxI (bs : List Int) (ps : List Pt) (ks ls es : List Int) (i a0 : Nat) : Nat → St := fun a => ⟨(topV :: topV :: topV :: .slice (some ⟨1, 0, none⟩) ps.length ps.length :: topV :: topV :: .slice (some ⟨4, 0, none⟩) es.length es.length :: .int .i64 a :: .int .i64 i :: topV :: topV :: topV :: topV :: topV :: topV :: topV :: topV :: topV :: topV :: topV :: topV :: topV :: topV :: topV :: topV :: topV :: topV :: topV :: topV :: topV :: topV :: topV :: topV :: topV :: topV :: topV :: topV :: topV :: topV :: topV :: topV :: topV :: topV :: topV :: topV :: topV :: topV :: topV :: topV :: topV :: topV :: topV :: topV :: topV :: topV :: topV :: topV :: topV :: topV :: topV :: topV :: topV :: topV :: topV :: topV :: topV :: topV :: topV :: topV :: topV :: topV :: topV :: topV :: topV :: topV :: topV :: topV :: topV :: topV :: topV :: topV :: topV :: topV :: topV :: topV :: topV :: topV :: topV :: topV :: topV :: topV :: topV :: topV :: topV :: topV :: topV :: topV :: topV :: topV :: []), [some ⟨.view, .bytes bs⟩, some ⟨.row 44 2, .ints (flat ps)⟩, some ⟨.row 3 1, .ints ks⟩, some ⟨.row 3 1, .ints ls⟩, some ⟨.row 3 1, .ints es⟩]⟩
def re_sxI : Nat → Ex := fun _ => .exit 2
def rs_sxI (bs : List Int) (ps : List Pt) (ks ls es : List Int) (i a0 : Nat) : Nat → St := fun a => ⟨(topV :: topV :: topV :: .slice (some ⟨1, 0, none⟩) ps.length ps.length :: topV :: topV :: .slice (some ⟨4, 0, none⟩) es.length es.length :: .int .i64 (adv es i (es.length - a0) a0 : Nat) :: .int .i64 i :: topV :: topV :: topV :: topV :: topV :: topV :: topV :: topV :: topV :: topV :: topV :: topV :: topV :: topV :: topV :: topV :: topV :: topV :: topV :: topV :: topV :: topV :: topV :: topV :: topV :: topV :: topV :: topV :: topV :: topV :: topV :: topV :: topV :: topV :: topV :: topV :: topV :: topV :: topV :: topV :: topV :: topV :: topV :: topV :: topV :: topV :: topV :: topV :: topV :: topV :: topV :: topV :: topV :: topV :: topV :: topV :: topV :: topV :: topV :: topV :: topV :: topV :: topV :: topV :: topV :: topV :: topV :: topV :: topV :: topV :: topV :: topV :: topV :: topV :: topV :: topV :: topV :: topV :: topV :: topV :: topV :: topV :: topV :: topV :: topV :: topV :: topV :: topV :: topV :: topV :: []), [some ⟨.view, .bytes bs⟩, some ⟨.row 44 2, .ints (flat ps)⟩, some ⟨.row 3 1, .ints ks⟩, some ⟨.row 3 1, .ints ls⟩, some ⟨.row 3 1, .ints es⟩]⟩
set_option maxRecDepth 100000 in
theorem tr_sxI (bs : List Int) (ps : List Pt) (ks ls es : List Int) (i a0 : Nat) (a : Nat) : bodyL Try.prog ESx0 30 12 noL 2 c_sxI k_sxI 5 (s_sxI bs ps ks ls es i a0 a) = brT (decide (IntKind.i64.wrap ((↑a : Int) + 1) < (↑es.length : Int))) (.need ((0 : Int) ≤ (↑a : Int) ∧ (↑a : Int) < (↑es.length : Int)) (.need ((0 : Nat) + (↑a : Int).toNat * (1 : Nat) < es.length) (brT (decide (es.getD (0 + (↑a : Int).toNat * 1) 0 < (↑i : Int))) (.leaf .normal ⟨(topV :: topV :: topV :: .slice (some ⟨1, 0, none⟩) (ps.length) (ps.length) :: topV :: topV :: .slice (some ⟨4, 0, none⟩) (es.length) (es.length) :: .int .i64 (IntKind.i64.wrap ((↑a : Int) + 1)) :: .int .i64 ((↑i : Int)) :: topV :: topV :: topV :: topV :: topV :: topV :: topV :: topV :: topV :: topV :: topV :: topV :: topV :: topV :: topV :: topV :: topV :: topV :: topV :: topV :: topV :: topV :: topV :: topV :: topV :: topV :: topV :: topV :: topV :: topV :: topV :: topV :: topV :: topV :: topV :: topV :: topV :: topV :: topV :: topV :: topV :: topV :: topV :: topV :: topV :: topV :: topV :: topV :: topV :: topV :: topV :: topV :: topV :: topV :: topV :: topV :: topV :: topV :: topV :: topV :: topV :: topV :: topV :: topV :: topV :: topV :: topV :: topV :: topV :: topV :: topV :: topV :: topV :: topV :: topV :: topV :: topV :: topV :: topV :: topV :: topV :: topV :: topV :: topV :: topV :: topV :: topV :: topV :: topV :: topV :: []), [some ⟨.view, .bytes (bs)⟩, some ⟨.row 44 2, .ints (flat ps)⟩, some ⟨.row 3 1, .ints (ks)⟩, some ⟨.row 3 1, .ints (ls)⟩, some ⟨.row 3 1, .ints (es)⟩]⟩) (.leaf (.exit 2) ⟨(topV :: topV :: topV :: .slice (some ⟨1, 0, none⟩) (ps.length) (ps.length) :: topV :: topV :: .slice (some ⟨4, 0, none⟩) (es.length) (es.length) :: .int .i64 ((↑a : Int)) :: .int .i64 ((↑i : Int)) :: topV :: topV :: topV :: topV :: topV :: topV :: topV :: topV :: topV :: topV :: topV :: topV :: topV :: topV :: topV :: topV :: topV :: topV :: topV :: topV :: topV :: topV :: topV :: topV :: topV :: topV :: topV :: topV :: topV :: topV :: topV :: topV :: topV :: topV :: topV :: topV :: topV :: topV :: topV :: topV :: topV :: topV :: topV :: topV :: topV :: topV :: topV :: topV :: topV :: topV :: topV :: topV :: topV :: topV :: topV :: topV :: topV :: topV :: topV :: topV :: topV :: topV :: topV :: topV :: topV :: topV :: topV :: topV :: topV :: topV :: topV :: topV :: topV :: topV :: topV :: topV :: topV :: topV :: topV :: topV :: topV :: topV :: topV :: topV :: topV :: topV :: topV :: topV :: topV :: topV :: []), [some ⟨.view, .bytes (bs)⟩, some ⟨.row 44 2, .ints (flat ps)⟩, some ⟨.row 3 1, .ints (ks)⟩, some ⟨.row 3 1, .ints (ls)⟩, some ⟨.row 3 1, .ints (es)⟩]⟩)))) (.leaf (.exit 2) ⟨(topV :: topV :: topV :: .slice (some ⟨1, 0, none⟩) (ps.length) (ps.length) :: topV :: topV :: .slice (some ⟨4, 0, none⟩) (es.length) (es.length) :: .int .i64 ((↑a : Int)) :: .int .i64 ((↑i : Int)) :: topV :: topV :: topV :: topV :: topV :: topV :: topV :: topV :: topV :: topV :: topV :: topV :: topV :: topV :: topV :: topV :: topV :: topV :: topV :: topV :: topV :: topV :: topV :: topV :: topV :: topV :: topV :: topV :: topV :: topV :: topV :: topV :: topV :: topV :: topV :: topV :: topV :: topV :: topV :: topV :: topV :: topV :: topV :: topV :: topV :: topV :: topV :: topV :: topV :: topV :: topV :: topV :: topV :: topV :: topV :: topV :: topV :: topV :: topV :: topV :: topV :: topV :: topV :: topV :: topV :: topV :: topV :: topV :: topV :: topV :: topV :: topV :: topV :: topV :: topV :: topV :: topV :: topV :: topV :: topV :: topV :: topV :: topV :: topV :: topV :: topV :: topV :: topV :: topV :: topV :: []), [some ⟨.view, .bytes (bs)⟩, some ⟨.row 44 2, .ints (flat ps)⟩, some ⟨.row 3 1, .ints (ks)⟩, some ⟨.row 3 1, .ints (ls)⟩, some ⟨.row 3 1, .ints (es)⟩]⟩) := by kernel_rfl
set_option maxRecDepth 100000 in
theorem nl_sxI : loopsOf c_sxI = [] := by kernel_rfl
def inv_sxI (bs : List Int) (ps : List Pt) (ks ls es : List Int) (i a0 : Nat) : Nat → Prop := fun a => a < es.length ∧ adv es i (es.length - a) a = adv es i (es.length - a0) a0
def me_sxI (bs : List Int) (ps : List Pt) (ks ls es : List Int) (i a0 : Nat) : Nat → Nat := fun a => es.length - a
/-- A round of this loop. -/
def Round_sxI (bs : List Int) (ps : List Pt) (ks ls es : List Int) (i a0 : Nat) : Prop := ∀ xx : Nat, inv_sxI bs ps ks ls es i a0 xx → (bodyL Try.prog ESx0 30 12 noL 2 c_sxI k_sxI 5 (s_sxI bs ps ks ls es i a0 xx)).ok (RoundEnd 5 (s_sxI bs ps ks ls es i a0) (inv_sxI bs ps ks ls es i a0) (me_sxI bs ps ks ls es i a0) re_sxI (rs_sxI bs ps ks ls es i a0) xx) (fun _ _ => False)
def e_sxI (s : St) (k : Ex → St → Tree) : Option Tree := match Nat.beq s.tmps.length 99, pickL s.tmps [3, 6, 7, 8], s.mem with
  | true, [.slice (some ⟨1, 0, none⟩) n _, .slice (some ⟨4, 0, none⟩) m _, .int .i64 aa, .int .i64 ii], [some ⟨.view, .bytes bs⟩, some ⟨.row 44 2, .ints xs⟩, some ⟨.row 3 1, .ints ks⟩, some ⟨.row 3 1, .ints ls⟩, some ⟨.row 3 1, .ints es⟩] => some (needs [0 ≤ ii, 0 ≤ aa, m = es.length, aa.toNat < es.length, xs.length = n * 2, es.length ≤ 1000] (k (.exit 2) ⟨(topV :: topV :: topV :: .slice (some ⟨1, 0, none⟩) n n :: topV :: topV :: .slice (some ⟨4, 0, none⟩) m m :: .int .i64 (adv es ii (m - aa.toNat) aa.toNat : Nat) :: .int .i64 ii :: topV :: topV :: topV :: topV :: topV :: topV :: topV :: topV :: topV :: topV :: topV :: topV :: topV :: topV :: topV :: topV :: topV :: topV :: topV :: topV :: topV :: topV :: topV :: topV :: topV :: topV :: topV :: topV :: topV :: topV :: topV :: topV :: topV :: topV :: topV :: topV :: topV :: topV :: topV :: topV :: topV :: topV :: topV :: topV :: topV :: topV :: topV :: topV :: topV :: topV :: topV :: topV :: topV :: topV :: topV :: topV :: topV :: topV :: topV :: topV :: topV :: topV :: topV :: topV :: topV :: topV :: topV :: topV :: topV :: topV :: topV :: topV :: topV :: topV :: topV :: topV :: topV :: topV :: topV :: topV :: topV :: topV :: topV :: topV :: topV :: topV :: topV :: topV :: topV :: topV :: []), [some ⟨.view, .bytes bs⟩, some ⟨.row 44 2, .ints xs⟩, some ⟨.row 3 1, .ints ks⟩, some ⟨.row 3 1, .ints ls⟩, some ⟨.row 3 1, .ints es⟩]⟩))
  | _, _, _ => none
set_option maxRecDepth 100000 in
theorem round_sxI (bs : List Int) (ps : List Pt) (ks ls es : List Int) (i a0 : Nat) (h : es.length ≤ 1000) : Round_sxI bs ps ks ls es i a0 := by
  rintro a ⟨h1, h2⟩
  rw [tr_sxI]
  have w := wsucc (i := a) (n := es.length) h1 (by omega)
  have st : adv es i (es.length - a) a = if a + 1 < es.length ∧ es.getD a 0 < i then adv es i (es.length - (a + 1)) (a + 1) else a := by
    rw [show es.length - a = (es.length - (a + 1)) + 1 by omega]
    rfl
  simp only [w, Int.toNat_natCast, Nat.zero_add, Nat.mul_one]
  refine brT_ok.2 ⟨fun g => ⟨by omega, by omega, brT_ok.2 ⟨fun q => ?_, fun q => ?_⟩⟩, fun g => ?_⟩
  · have g := of_decide_eq_true g
    have q := of_decide_eq_true q
    rw [if_pos ⟨by omega, q⟩] at st
    refine ⟨a + 1, [], ⟨by omega, by rw [← st]; exact h2⟩, ?_, rfl, rfl, ?_⟩
    · show es.length - (a + 1) < es.length - a; omega
    · repeat' (first | exact True.intro | exact rfl | exact fun _ => rfl | (simp; done) | refine And.intro ?_ ?_)
  · have q := of_decide_eq_false q
    rw [if_neg (fun c => q c.2)] at st
    refine ⟨rfl, [], ?_⟩
    simp only [rs_sxI, ← h2, st]
    repeat' (first | exact True.intro | exact rfl | exact fun _ => rfl | (simp; done) | refine And.intro ?_ ?_)
  · have g := of_decide_eq_false g
    rw [if_neg (fun c => g (by omega))] at st
    refine ⟨rfl, [], ?_⟩
    simp only [rs_sxI, ← h2, st]
    repeat' (first | exact True.intro | exact rfl | exact fun _ => rfl | (simp; done) | refine And.intro ?_ ?_)
set_option maxRecDepth 100000 in
theorem lg_sxI : LoopE Try.prog e_sxI c_sxI := by
  intro s k t F H hlt ht
  unfold e_sxI at hlt
  split at hlt
  rotate_left
  · cases hlt
  rename_i hlen hpick hmem
  obtain ⟨tmps, mem⟩ := s
  simp only at hlen hpick hmem
  subst hmem
  obtain rfl := Option.some.inj hlt
  obtain ⟨⟨h0, h1, h2, h3, h4, h5, _⟩, ht2⟩ := needs_ok ht
  clear ht hlt
  subst h2
  obtain ⟨ps, rfl, rfl⟩ := even_flat h4
  obtain ⟨i, rfl⟩ := Int.eq_ofNat_of_zero_le h0
  obtain ⟨a, rfl⟩ := Int.eq_ofNat_of_zero_le h1
  simp only [Int.toNat_natCast] at ht2 h3
  refine ⟨_, _, ht2, loop_run mixed ESx0_ok (s_sxI _ ps _ _ _ i a) (inv_sxI _ ps _ _ _ i a) (me_sxI _ ps _ _ _ i a) re_sxI (rs_sxI _ ps _ _ _ i a) k_sxI (fun _ => rfl) (noLoops nl_sxI) (round_sxI _ ps _ _ _ i a h5) (x := a) ⟨h3, rfl⟩ (π := []) rfl ?_⟩
  refine ⟨rfl, rfl, ?_, wvs_spread' [3, 6, 7, 8] hlen rfl ?_⟩
  · repeat' (first | exact True.intro | exact rfl | exact wv_top _ _ | exact fun _ => rfl | assumption | exact Eq.symm (by assumption) | exact vI0 rfl | refine And.intro ?_ ?_)
  · rw [hpick]
    repeat' (first | exact True.intro | exact rfl | exact wv_top _ _ | exact fun _ => rfl | assumption | exact Eq.symm (by assumption) | exact vI0 rfl | refine And.intro ?_ ?_)
def ltSx : LT := fun j s k => match j with
  | 1 => e_sxI s k
  | _ => none
noncomputable def c_sxO : Code := ((loopsOf (codeOf Try.f6))[0]?).getD .skip
def k_sxO : Ex → List Nat := keeps [3, 6, 7, 8] [(0, [])] [2]
def s_sxO (bs : List Int) (ps : List Pt) (ks ls es : List Int) : Nat × Nat → St := fun (i, a) => ⟨(topV :: topV :: topV :: .slice (some ⟨1, 0, none⟩) ps.length ps.length :: topV :: topV :: .slice (some ⟨4, 0, none⟩) es.length es.length :: .int .i64 a :: .int .i64 i :: topV :: topV :: topV :: topV :: topV :: topV :: topV :: topV :: topV :: topV :: topV :: topV :: topV :: topV :: topV :: topV :: topV :: topV :: topV :: topV :: topV :: topV :: topV :: topV :: topV :: topV :: topV :: topV :: topV :: topV :: topV :: topV :: topV :: topV :: topV :: topV :: topV :: topV :: topV :: topV :: topV :: topV :: topV :: topV :: topV :: topV :: topV :: topV :: topV :: topV :: topV :: topV :: topV :: topV :: topV :: topV :: topV :: topV :: topV :: topV :: topV :: topV :: topV :: topV :: topV :: topV :: topV :: topV :: topV :: topV :: topV :: topV :: topV :: topV :: topV :: topV :: topV :: topV :: topV :: topV :: topV :: topV :: topV :: topV :: topV :: topV :: topV :: topV :: topV :: topV :: []), [some ⟨.view, .bytes bs⟩, some ⟨.row 44 2, .ints (flat ps)⟩, some ⟨.row 3 1, .ints ks⟩, some ⟨.row 3 1, .ints ls⟩, some ⟨.row 3 1, .ints es⟩]⟩
def re_sxO : Nat × Nat → Ex := fun _ => .exit 0
def rs_sxO (bs : List Int) (ps : List Pt) (ks ls es : List Int) : Nat × Nat → St := fun (i, a) => ⟨(topV :: topV :: topV :: topV :: topV :: topV :: topV :: topV :: topV :: topV :: topV :: topV :: topV :: topV :: topV :: topV :: topV :: topV :: topV :: topV :: topV :: topV :: topV :: topV :: topV :: topV :: topV :: topV :: topV :: topV :: topV :: topV :: topV :: topV :: topV :: topV :: topV :: topV :: topV :: topV :: topV :: topV :: topV :: topV :: topV :: topV :: topV :: topV :: topV :: topV :: topV :: topV :: topV :: topV :: topV :: topV :: topV :: topV :: topV :: topV :: topV :: topV :: topV :: topV :: topV :: topV :: topV :: topV :: topV :: topV :: topV :: topV :: topV :: topV :: topV :: topV :: topV :: topV :: topV :: topV :: topV :: topV :: topV :: topV :: topV :: topV :: topV :: topV :: topV :: topV :: topV :: topV :: topV :: topV :: topV :: topV :: topV :: topV :: topV :: []), [some ⟨.view, .bytes bs⟩, some ⟨.row 44 2, .ints (flat ps)⟩, some ⟨.row 3 1, .ints ks⟩, some ⟨.row 3 1, .ints ls⟩, some ⟨.row 3 1, .ints es⟩]⟩
set_option maxRecDepth 100000 in
theorem tr_sxO (bs : List Int) (ps : List Pt) (ks ls es : List Int) (i a : Nat) : bodyL Try.prog ESx0 30 12 ltSx 1 c_sxO k_sxO 5 (s_sxO bs ps ks ls es (i, a)) = brT (decide ((↑i : Int) < (↑ps.length : Int))) (.need ((0 : Int) ≤ (↑i : Int)) (.need ((0 : Int) ≤ (↑a : Int)) (.need (es.length = es.length) (.need ((↑a : Int).toNat < es.length) (.need ((flat ps).length = ps.length * (2 : Nat)) (.need (es.length ≤ (1000 : Nat)) (.need ((0 : Int) ≤ IntKind.i64.wrap ((↑(adv es (↑i : Int) (es.length - (↑a : Int).toNat) (↑a : Int).toNat) : Int) - (1 : Int)) ∧ IntKind.i64.wrap ((↑(adv es (↑i : Int) (es.length - (↑a : Int).toNat) (↑a : Int).toNat) : Int) - (1 : Int)) < (↑es.length : Int)) (.need ((0 : Nat) + (IntKind.i64.wrap ((↑(adv es (↑i : Int) (es.length - (↑a : Int).toNat) (↑a : Int).toNat) : Int) - (1 : Int))).toNat * (1 : Nat) < es.length) (.need ((0 : Int) ≤ es.getD ((0 : Nat) + (IntKind.i64.wrap ((↑(adv es (↑i : Int) (es.length - (↑a : Int).toNat) (↑a : Int).toNat) : Int) - (1 : Int))).toNat * (1 : Nat)) (0 : Int) ∧ es.getD ((0 : Nat) + (IntKind.i64.wrap ((↑(adv es (↑i : Int) (es.length - (↑a : Int).toNat) (↑a : Int).toNat) : Int) - (1 : Int))).toNat * (1 : Nat)) (0 : Int) < (↑ps.length : Int)) (.need ((0 : Nat) + (es.getD ((0 : Nat) + (IntKind.i64.wrap ((↑(adv es (↑i : Int) (es.length - (↑a : Int).toNat) (↑a : Int).toNat) : Int) - (1 : Int))).toNat * (1 : Nat)) (0 : Int)).toNat * (2 : Nat) + (2 : Nat) ≤ (flat ps).length) (.need ((0 : Int) ≤ (↑(adv es (↑i : Int) (es.length - (↑a : Int).toNat) (↑a : Int).toNat) : Int) ∧ (↑(adv es (↑i : Int) (es.length - (↑a : Int).toNat) (↑a : Int).toNat) : Int) < (↑es.length : Int)) (.need ((0 : Nat) + (↑(adv es (↑i : Int) (es.length - (↑a : Int).toNat) (↑a : Int).toNat) : Int).toNat * (1 : Nat) < es.length) (.need ((0 : Int) ≤ es.getD ((0 : Nat) + (↑(adv es (↑i : Int) (es.length - (↑a : Int).toNat) (↑a : Int).toNat) : Int).toNat * (1 : Nat)) (0 : Int) ∧ es.getD ((0 : Nat) + (↑(adv es (↑i : Int) (es.length - (↑a : Int).toNat) (↑a : Int).toNat) : Int).toNat * (1 : Nat)) (0 : Int) < (↑ps.length : Int)) (.need ((0 : Nat) + (es.getD ((0 : Nat) + (↑(adv es (↑i : Int) (es.length - (↑a : Int).toNat) (↑a : Int).toNat) : Int).toNat * (1 : Nat)) (0 : Int)).toNat * (2 : Nat) + (2 : Nat) ≤ (flat ps).length) (brT (negB true ((flat ps).getD (0 + (es.getD (0 + (IntKind.i64.wrap ((↑(adv es (↑i : Int) (es.length - (↑a : Int).toNat) (↑a : Int).toNat) : Int) - 1)).toNat * 1) 0).toNat * 2) 0 == (flat ps).getD (0 + (es.getD (0 + (↑(adv es (↑i : Int) (es.length - (↑a : Int).toNat) (↑a : Int).toNat) : Int).toNat * 1) 0).toNat * 2) 0 && ((flat ps).getD (0 + (es.getD (0 + (IntKind.i64.wrap ((↑(adv es (↑i : Int) (es.length - (↑a : Int).toNat) (↑a : Int).toNat) : Int) - 1)).toNat * 1) 0).toNat * 2 + 1) 0 == (flat ps).getD (0 + (es.getD (0 + (↑(adv es (↑i : Int) (es.length - (↑a : Int).toNat) (↑a : Int).toNat) : Int).toNat * 1) 0).toNat * 2 + 1) 0 && true))) (.need (es.length ≤ (List.drop (0 : Nat) es).length) (.need (Lim es.length) (brT (!!allQ (neQ (List.drop 0 es) (↑i : Int)) 0 es.length) (.need ((0 : Int) ≤ (↑i : Int) ∧ (↑i : Int) < (↑ps.length : Int)) (.need ((0 : Nat) + (↑i : Int).toNat * (2 : Nat) + (2 : Nat) ≤ (flat ps).length) (brT (!onX ((flat ps).getD (0 + (es.getD (0 + (IntKind.i64.wrap ((↑(adv es (↑i : Int) (es.length - (↑a : Int).toNat) (↑a : Int).toNat) : Int) - 1)).toNat * 1) 0).toNat * 2) 0) ((flat ps).getD (0 + (es.getD (0 + (IntKind.i64.wrap ((↑(adv es (↑i : Int) (es.length - (↑a : Int).toNat) (↑a : Int).toNat) : Int) - 1)).toNat * 1) 0).toNat * 2 + 1) 0) ((flat ps).getD (0 + (es.getD (0 + (↑(adv es (↑i : Int) (es.length - (↑a : Int).toNat) (↑a : Int).toNat) : Int).toNat * 1) 0).toNat * 2) 0) ((flat ps).getD (0 + (es.getD (0 + (↑(adv es (↑i : Int) (es.length - (↑a : Int).toNat) (↑a : Int).toNat) : Int).toNat * 1) 0).toNat * 2 + 1) 0) ((flat ps).getD (0 + (↑i : Int).toNat * 2) 0) ((flat ps).getD (0 + (↑i : Int).toNat * 2 + 1) 0)) (.leaf .ret ⟨(topV :: topV :: .bool (false) :: topV :: topV :: topV :: topV :: topV :: topV :: topV :: topV :: topV :: topV :: topV :: topV :: topV :: topV :: topV :: topV :: topV :: topV :: topV :: topV :: topV :: topV :: topV :: topV :: topV :: topV :: topV :: topV :: topV :: topV :: topV :: topV :: topV :: topV :: topV :: topV :: topV :: topV :: topV :: topV :: topV :: topV :: topV :: topV :: topV :: topV :: topV :: topV :: topV :: topV :: topV :: topV :: topV :: topV :: topV :: topV :: topV :: topV :: topV :: topV :: topV :: topV :: topV :: topV :: topV :: topV :: topV :: topV :: topV :: topV :: topV :: topV :: topV :: topV :: topV :: topV :: topV :: topV :: topV :: topV :: topV :: topV :: topV :: topV :: topV :: topV :: topV :: topV :: topV :: topV :: topV :: topV :: topV :: topV :: topV :: topV :: []), [some ⟨.view, .bytes (bs)⟩, some ⟨.row 44 2, .ints (flat ps)⟩, some ⟨.row 3 1, .ints (ks)⟩, some ⟨.row 3 1, .ints (ls)⟩, some ⟨.row 3 1, .ints (es)⟩]⟩) (.leaf .normal ⟨(topV :: topV :: topV :: .slice (some ⟨1, 0, none⟩) (ps.length) (ps.length) :: topV :: topV :: .slice (some ⟨4, 0, none⟩) (es.length) (es.length) :: .int .i64 ((↑(adv es (↑i : Int) (es.length - (↑a : Int).toNat) (↑a : Int).toNat) : Int)) :: .int .i64 (IntKind.i64.wrap ((↑i : Int) + 1)) :: topV :: topV :: topV :: topV :: topV :: topV :: topV :: topV :: topV :: topV :: topV :: topV :: topV :: topV :: topV :: topV :: topV :: topV :: topV :: topV :: topV :: topV :: topV :: topV :: topV :: topV :: topV :: topV :: topV :: topV :: topV :: topV :: topV :: topV :: topV :: topV :: topV :: topV :: topV :: topV :: topV :: topV :: topV :: topV :: topV :: topV :: topV :: topV :: topV :: topV :: topV :: topV :: topV :: topV :: topV :: topV :: topV :: topV :: topV :: topV :: topV :: topV :: topV :: topV :: topV :: topV :: topV :: topV :: topV :: topV :: topV :: topV :: topV :: topV :: topV :: topV :: topV :: topV :: topV :: topV :: topV :: topV :: topV :: topV :: topV :: topV :: topV :: topV :: topV :: topV :: []), [some ⟨.view, .bytes (bs)⟩, some ⟨.row 44 2, .ints (flat ps)⟩, some ⟨.row 3 1, .ints (ks)⟩, some ⟨.row 3 1, .ints (ls)⟩, some ⟨.row 3 1, .ints (es)⟩]⟩)))) (.leaf .normal ⟨(topV :: topV :: topV :: .slice (some ⟨1, 0, none⟩) (ps.length) (ps.length) :: topV :: topV :: .slice (some ⟨4, 0, none⟩) (es.length) (es.length) :: .int .i64 ((↑(adv es (↑i : Int) (es.length - (↑a : Int).toNat) (↑a : Int).toNat) : Int)) :: .int .i64 (IntKind.i64.wrap ((↑i : Int) + 1)) :: topV :: topV :: topV :: topV :: topV :: topV :: topV :: topV :: topV :: topV :: topV :: topV :: topV :: topV :: topV :: topV :: topV :: topV :: topV :: topV :: topV :: topV :: topV :: topV :: topV :: topV :: topV :: topV :: topV :: topV :: topV :: topV :: topV :: topV :: topV :: topV :: topV :: topV :: topV :: topV :: topV :: topV :: topV :: topV :: topV :: topV :: topV :: topV :: topV :: topV :: topV :: topV :: topV :: topV :: topV :: topV :: topV :: topV :: topV :: topV :: topV :: topV :: topV :: topV :: topV :: topV :: topV :: topV :: topV :: topV :: topV :: topV :: topV :: topV :: topV :: topV :: topV :: topV :: topV :: topV :: topV :: topV :: topV :: topV :: topV :: topV :: topV :: topV :: topV :: topV :: []), [some ⟨.view, .bytes (bs)⟩, some ⟨.row 44 2, .ints (flat ps)⟩, some ⟨.row 3 1, .ints (ks)⟩, some ⟨.row 3 1, .ints (ls)⟩, some ⟨.row 3 1, .ints (es)⟩]⟩)))) (.leaf .normal ⟨(topV :: topV :: topV :: .slice (some ⟨1, 0, none⟩) (ps.length) (ps.length) :: topV :: topV :: .slice (some ⟨4, 0, none⟩) (es.length) (es.length) :: .int .i64 ((↑(adv es (↑i : Int) (es.length - (↑a : Int).toNat) (↑a : Int).toNat) : Int)) :: .int .i64 (IntKind.i64.wrap ((↑i : Int) + 1)) :: topV :: topV :: topV :: topV :: topV :: topV :: topV :: topV :: topV :: topV :: topV :: topV :: topV :: topV :: topV :: topV :: topV :: topV :: topV :: topV :: topV :: topV :: topV :: topV :: topV :: topV :: topV :: topV :: topV :: topV :: topV :: topV :: topV :: topV :: topV :: topV :: topV :: topV :: topV :: topV :: topV :: topV :: topV :: topV :: topV :: topV :: topV :: topV :: topV :: topV :: topV :: topV :: topV :: topV :: topV :: topV :: topV :: topV :: topV :: topV :: topV :: topV :: topV :: topV :: topV :: topV :: topV :: topV :: topV :: topV :: topV :: topV :: topV :: topV :: topV :: topV :: topV :: topV :: topV :: topV :: topV :: topV :: topV :: topV :: topV :: topV :: topV :: topV :: topV :: topV :: []), [some ⟨.view, .bytes (bs)⟩, some ⟨.row 44 2, .ints (flat ps)⟩, some ⟨.row 3 1, .ints (ks)⟩, some ⟨.row 3 1, .ints (ls)⟩, some ⟨.row 3 1, .ints (es)⟩]⟩)))))))))))))))) (.leaf (.exit 0) ⟨(topV :: topV :: topV :: topV :: topV :: topV :: topV :: topV :: topV :: topV :: topV :: topV :: topV :: topV :: topV :: topV :: topV :: topV :: topV :: topV :: topV :: topV :: topV :: topV :: topV :: topV :: topV :: topV :: topV :: topV :: topV :: topV :: topV :: topV :: topV :: topV :: topV :: topV :: topV :: topV :: topV :: topV :: topV :: topV :: topV :: topV :: topV :: topV :: topV :: topV :: topV :: topV :: topV :: topV :: topV :: topV :: topV :: topV :: topV :: topV :: topV :: topV :: topV :: topV :: topV :: topV :: topV :: topV :: topV :: topV :: topV :: topV :: topV :: topV :: topV :: topV :: topV :: topV :: topV :: topV :: topV :: topV :: topV :: topV :: topV :: topV :: topV :: topV :: topV :: topV :: topV :: topV :: topV :: topV :: topV :: topV :: topV :: topV :: topV :: []), [some ⟨.view, .bytes (bs)⟩, some ⟨.row 44 2, .ints (flat ps)⟩, some ⟨.row 3 1, .ints (ks)⟩, some ⟨.row 3 1, .ints (ls)⟩, some ⟨.row 3 1, .ints (es)⟩]⟩) := by kernel_rfl
def inv_sxO (bs : List Int) (ps : List Pt) (ks ls es : List Int) : Nat × Nat → Prop := fun (i, a) => i ≤ ps.length ∧ 1 ≤ a ∧ a < es.length ∧ es.getD (a - 1) 0 ≤ i
def me_sxO (bs : List Int) (ps : List Pt) (ks ls es : List Int) : Nat × Nat → Nat := fun (i, a) => ps.length - i
/-- A round of this loop. -/
def Round_sxO (bs : List Int) (ps : List Pt) (ks ls es : List Int) : Prop := ∀ xx : Nat × Nat, inv_sxO bs ps ks ls es xx → (bodyL Try.prog ESx0 30 12 ltSx 1 c_sxO k_sxO 5 (s_sxO bs ps ks ls es xx)).ok (RoundEnd 5 (s_sxO bs ps ks ls es) (inv_sxO bs ps ks ls es) (me_sxO bs ps ks ls es) re_sxO (rs_sxO bs ps ks ls es) xx) (fun _ _ => False)
def e_sxO (s : St) (k : Ex → St → Tree) : Option Tree := match Nat.beq s.tmps.length 99, pickL s.tmps [3, 6, 7, 8], s.mem with
  | true, [.slice (some ⟨1, 0, none⟩) n _, .slice (some ⟨4, 0, none⟩) m _, .int .i64 aa, .int .i64 ii], [some ⟨.view, .bytes bs⟩, some ⟨.row 44 2, .ints xs⟩, some ⟨.row 3 1, .ints ks⟩, some ⟨.row 3 1, .ints ls⟩, some ⟨.row 3 1, .ints es⟩] => some (needs [ii = 0, aa = 1, m = es.length, xs.length = n * 2, SxOk (ptsA n xs) es] (k (.exit 0) ⟨(topV :: topV :: topV :: topV :: topV :: topV :: topV :: topV :: topV :: topV :: topV :: topV :: topV :: topV :: topV :: topV :: topV :: topV :: topV :: topV :: topV :: topV :: topV :: topV :: topV :: topV :: topV :: topV :: topV :: topV :: topV :: topV :: topV :: topV :: topV :: topV :: topV :: topV :: topV :: topV :: topV :: topV :: topV :: topV :: topV :: topV :: topV :: topV :: topV :: topV :: topV :: topV :: topV :: topV :: topV :: topV :: topV :: topV :: topV :: topV :: topV :: topV :: topV :: topV :: topV :: topV :: topV :: topV :: topV :: topV :: topV :: topV :: topV :: topV :: topV :: topV :: topV :: topV :: topV :: topV :: topV :: topV :: topV :: topV :: topV :: topV :: topV :: topV :: topV :: topV :: topV :: topV :: topV :: topV :: topV :: topV :: topV :: topV :: topV :: []), [some ⟨.view, .bytes bs⟩, some ⟨.row 44 2, .ints xs⟩, some ⟨.row 3 1, .ints ks⟩, some ⟨.row 3 1, .ints ls⟩, some ⟨.row 3 1, .ints es⟩]⟩))
  | _, _, _ => none
set_option maxRecDepth 100000 in
theorem in_sxO : loopsOf c_sxO = [c_sxI] := by kernel_rfl
theorem ltSx_good : LoopsGood Try.prog ltSx 1 c_sxO := by
  intro i d hd s k t F H hlt ht
  rw [in_sxO] at hd
  cases i with
  | zero =>
    obtain rfl : c_sxI = d := by simpa using hd
    exact lg_sxI s k t F H hlt ht
  | succ i => simp at hd
set_option maxRecDepth 100000 in
set_option maxHeartbeats 2000000 in
theorem round_sxO (bs : List Int) (ps : List Pt) (ks ls es : List Int) (h : SxOk ps es) : Round_sxO bs ps ks ls es := by
  rintro ⟨i, a⟩ ⟨h1, h2, h3, h4⟩
  rw [tr_sxO]
  have fl := flat_length ps
  have hl := h.len
  have he := h.el
  have hL : Lim es.length := Nat.le_trans he (by decide)
  obtain ⟨p1, p2, p3, p4⟩ := adv_spec (es := es) (i := i) (es.length - a) a h3 (by omega)
  simp only [Int.toNat_natCast]
  generalize adv es i (es.length - a) a = r at *
  obtain ⟨q, rfl⟩ : ∃ q, r = q + 1 := ⟨r - 1, by omega⟩
  have w : IntKind.i64.wrap (((q + 1 : Nat) : Int) - 1) = (q : Int) := by rw [wr (by omega)]; omega
  have b1 : es.getD q 0 ≤ i := by
    rcases p3 with e | e
    · rw [show q = a - 1 by omega]
      exact h4
    · rw [Nat.add_sub_cancel] at e
      omega
  simp only [w, Int.toNat_natCast, Nat.zero_add, Nat.mul_one, flat_get0, flat_get1, List.drop_zero]
  refine brT_ok.2 ⟨fun g => ?_, fun g => ?_⟩
  · have hi : i < ps.length := by have := of_decide_eq_true g; omega
    have b2 : (i : Int) ≤ es.getD (q + 1) 0 := by
      rcases p4 with e | e
      · have := h.last
        rw [show es.length - 1 = q + 1 by omega] at this
        omega
      · exact e
    have r1 := h.rng q (by omega)
    have r2 := h.rng (q + 1) p2
    have on := h.on (k := q) p2 b1 b2
    have vA := vP_pt (gP_v h.v (es.getD q 0).toNat)
    have vB := vP_pt (gP_v h.v (es.getD (q + 1) 0).toNat)
    have vI := vP_pt (gP_v h.v i)
    unfold gP at on vA vB vI
    rw [wsucc (n := ps.length) hi (by omega)]
    refine ⟨by omega, by omega, trivial, h3, fl, he, by omega, by omega, by omega, by omega, by omega, p2, by omega, by omega, brT_ok.2 ⟨fun c => ⟨Nat.le_refl _, hL, brT_ok.2 ⟨fun d => ⟨by omega, by omega, ?_⟩, fun d => ?_⟩⟩, fun c => ?_⟩⟩
    · have ne : (!eqB (ps.getD (es.getD q 0).toNat (0, 0)).1 (ps.getD (es.getD q 0).toNat (0, 0)).2 (ps.getD (es.getD (q + 1) 0).toNat (0, 0)).1 (ps.getD (es.getD (q + 1) 0).toNat (0, 0)).2) = true := by
        rw [Bool.and_true] at c
        exact c
      have o : onX (ps.getD (es.getD q 0).toNat (0, 0)).1 (ps.getD (es.getD q 0).toNat (0, 0)).2 (ps.getD (es.getD (q + 1) 0).toNat (0, 0)).1 (ps.getD (es.getD (q + 1) 0).toNat (0, 0)).2 (ps.getD i (0, 0)).1 (ps.getD i (0, 0)).2 = true := by
        unfold onX segB
        rw [vA, vB, vI, ne, on]
        rfl
      rw [o]
      refine ⟨(i + 1, q + 1), [], ⟨by omega, by omega, p2, by show es.getD (q + 1 - 1) 0 ≤ _; rw [Nat.add_sub_cancel]; omega⟩, ?_, rfl, rfl, ?_⟩
      · show ps.length - (i + 1) < ps.length - i; omega
      · repeat' (first | exact True.intro | exact rfl | exact fun _ => rfl | (simp; done) | refine And.intro ?_ ?_)
    · refine ⟨(i + 1, q + 1), [], ⟨by omega, by omega, p2, by show es.getD (q + 1 - 1) 0 ≤ _; rw [Nat.add_sub_cancel]; omega⟩, ?_, rfl, rfl, ?_⟩
      · show ps.length - (i + 1) < ps.length - i; omega
      · repeat' (first | exact True.intro | exact rfl | exact fun _ => rfl | (simp; done) | refine And.intro ?_ ?_)
    · refine ⟨(i + 1, q + 1), [], ⟨by omega, by omega, p2, by show es.getD (q + 1 - 1) 0 ≤ _; rw [Nat.add_sub_cancel]; omega⟩, ?_, rfl, rfl, ?_⟩
      · show ps.length - (i + 1) < ps.length - i; omega
      · repeat' (first | exact True.intro | exact rfl | exact fun _ => rfl | (simp; done) | refine And.intro ?_ ?_)
  · refine ⟨rfl, [], ?_⟩
    repeat' (first | exact True.intro | exact rfl | exact fun _ => rfl | (simp; done) | refine And.intro ?_ ?_)
set_option maxRecDepth 100000 in
theorem lg_sxO : LoopE Try.prog e_sxO c_sxO := by
  intro s k t F H hlt ht
  unfold e_sxO at hlt
  split at hlt
  rotate_left
  · cases hlt
  rename_i hlen hpick hmem
  obtain ⟨tmps, mem⟩ := s
  simp only at hlen hpick hmem
  subst hmem
  obtain rfl := Option.some.inj hlt
  obtain ⟨⟨rfl, rfl, h2, h4, h5, _⟩, ht2⟩ := needs_ok ht
  clear ht hlt
  subst h2
  obtain ⟨ps, rfl, rfl⟩ := even_flat h4
  rw [ptsA_flat] at h5
  refine ⟨_, _, ht2, loop_run mixed ESx0_ok (s_sxO _ ps _ _ _) (inv_sxO _ ps _ _ _) (me_sxO _ ps _ _ _) re_sxO (rs_sxO _ ps _ _ _) k_sxO (fun _ => rfl) ltSx_good (round_sxO _ ps _ _ _ h5) (x := (0, 1)) ⟨Nat.zero_le _, Nat.le_refl _, h5.pos, Int.le_of_eq h5.first⟩ (π := []) rfl ?_⟩
  refine ⟨rfl, rfl, ?_, wvs_spread' [3, 6, 7, 8] hlen rfl ?_⟩
  · repeat' (first | exact True.intro | exact rfl | exact wv_top _ _ | exact fun _ => rfl | assumption | exact Eq.symm (by assumption) | exact vI0 rfl | refine And.intro ?_ ?_)
  · rw [hpick]
    repeat' (first | exact True.intro | exact rfl | exact wv_top _ _ | exact fun _ => rfl | assumption | exact Eq.symm (by assumption) | exact vI0 rfl | refine And.intro ?_ ?_)
theorem Lr_sxO {fn : Func} (hf : Try.prog.funcs[6]? = some fn) : LoopsGood Try.prog (lt1 e_sxO) 0 (codeOf fn) := by
  obtain rfl := fn_is Try.func6 hf
  exact lt1_good lg_sxO
def LSx : FuncId → LT := fun f => match f with
  | 6 => lt1 e_sxO
  | _ => noL
def ESx2 : Env := mkE TSx RDx LSx
theorem ESx2_ok : EnvOk Try.prog ESx2 := mkEOk TSx_ok RDx_ok (by
  intro f fn hf
  unfold LSx
  split
  all_goals first | with_reducible exact Lr_sxO hf | exact noL_good)
end Go.Proofs.Ytolodncpegajkab
namespace Go.Proofs.Ytolodncpegajkab
set_option linter.all false
open Go.RowKit
set_option maxRecDepth 100000 in
theorem tr_lsx (bs : List Int) : bodyV Try.prog ESx2 30 12 6 [.row bs.length (.bytes bs)] = brT (decide (1048576 < (↑bs.length : Int))) (.fin (.bool (true)) []) (.need (Bytes (List.drop (0 : Nat) bs)) (.need (bs.length ≤ (List.drop (0 : Nat) bs).length) (.need ((apthL (List.drop (0 : Nat) bs) (rdL bs.length) (0 : Int)).length * (2 : Nat) ≤ (List.drop (0 : Nat) (flat (apthL (List.drop (0 : Nat) bs) (rdL bs.length) (0 : Int)))).length) (.need ((apthL (List.drop (0 : Nat) bs) (rdL bs.length) (0 : Int)).length ≤ (1000000000 : Nat)) (.need ((apthL (List.drop (0 : Nat) bs) (rdL bs.length) (0 : Int)).length * (2 : Nat) ≤ (List.drop (0 : Nat) (flat (apthL (List.drop (0 : Nat) bs) (rdL bs.length) (0 : Int)))).length) (.need ((apthL (List.drop (0 : Nat) bs) (rdL bs.length) (0 : Int)).length ≤ (1000000000 : Nat)) (.need ((skV (ptsA (apthL (List.drop (0 : Nat) bs) (rdL bs.length) (0 : Int)).length (List.drop (0 : Nat) (flat (apthL (List.drop (0 : Nat) bs) (rdL bs.length) (0 : Int))))) (oneI (List.drop (0 : Nat) bs) (rdL bs.length) (apthE (List.drop (0 : Nat) bs) (rdL bs.length) (0 : Int)) (8 : Nat) spNs)).length = (skV (ptsA (apthL (List.drop (0 : Nat) bs) (rdL bs.length) (0 : Int)).length (List.drop (0 : Nat) (flat (apthL (List.drop (0 : Nat) bs) (rdL bs.length) (0 : Int))))) (oneI (List.drop (0 : Nat) bs) (rdL bs.length) (apthE (List.drop (0 : Nat) bs) (rdL bs.length) (0 : Int)) (8 : Nat) spNs)).length) (.need (List.drop (0 : Nat) (skV (ptsA (apthL (List.drop (0 : Nat) bs) (rdL bs.length) (0 : Int)).length (List.drop (0 : Nat) (flat (apthL (List.drop (0 : Nat) bs) (rdL bs.length) (0 : Int))))) (oneI (List.drop (0 : Nat) bs) (rdL bs.length) (apthE (List.drop (0 : Nat) bs) (rdL bs.length) (0 : Int)) (8 : Nat) spNs)) = List.drop (0 : Nat) (skV (ptsA (apthL (List.drop (0 : Nat) bs) (rdL bs.length) (0 : Int)).length (List.drop (0 : Nat) (flat (apthL (List.drop (0 : Nat) bs) (rdL bs.length) (0 : Int))))) (oneI (List.drop (0 : Nat) bs) (rdL bs.length) (apthE (List.drop (0 : Nat) bs) (rdL bs.length) (0 : Int)) (8 : Nat) spNs))) (.need ((skV (ptsA (apthL (List.drop (0 : Nat) bs) (rdL bs.length) (0 : Int)).length (List.drop (0 : Nat) (flat (apthL (List.drop (0 : Nat) bs) (rdL bs.length) (0 : Int))))) (oneI (List.drop (0 : Nat) bs) (rdL bs.length) (apthE (List.drop (0 : Nat) bs) (rdL bs.length) (0 : Int)) (8 : Nat) spNs)).length ≤ (List.drop (0 : Nat) (skV (ptsA (apthL (List.drop (0 : Nat) bs) (rdL bs.length) (0 : Int)).length (List.drop (0 : Nat) (flat (apthL (List.drop (0 : Nat) bs) (rdL bs.length) (0 : Int))))) (oneI (List.drop (0 : Nat) bs) (rdL bs.length) (apthE (List.drop (0 : Nat) bs) (rdL bs.length) (0 : Int)) (8 : Nat) spNs))).length) (.need (Lim (skV (ptsA (apthL (List.drop (0 : Nat) bs) (rdL bs.length) (0 : Int)).length (List.drop (0 : Nat) (flat (apthL (List.drop (0 : Nat) bs) (rdL bs.length) (0 : Int))))) (oneI (List.drop (0 : Nat) bs) (rdL bs.length) (apthE (List.drop (0 : Nat) bs) (rdL bs.length) (0 : Int)) (8 : Nat) spNs)).length) (brT ((↑(skV (ptsA (apthL (List.drop 0 bs) (rdL bs.length) 0).length (List.drop 0 (flat (apthL (List.drop 0 bs) (rdL bs.length) 0)))) (oneI (List.drop 0 bs) (rdL bs.length) (apthE (List.drop 0 bs) (rdL bs.length) 0) 8 spNs)).length : Int) == 0) (.need ((apthL (List.drop (0 : Nat) bs) (rdL bs.length) (0 : Int)).length * (2 : Nat) ≤ (List.drop (0 : Nat) (flat (apthL (List.drop (0 : Nat) bs) (rdL bs.length) (0 : Int)))).length) (.need ((apthL (List.drop (0 : Nat) bs) (rdL bs.length) (0 : Int)).length ≤ (1000000000 : Nat)) (.need ((skV (ptsA (apthL (List.drop (0 : Nat) bs) (rdL bs.length) (0 : Int)).length (List.drop (0 : Nat) (flat (apthL (List.drop (0 : Nat) bs) (rdL bs.length) (0 : Int))))) (oneI (List.drop (0 : Nat) bs) (rdL bs.length) (apthE (List.drop (0 : Nat) bs) (rdL bs.length) (0 : Int)) (8 : Nat) spNs)).length = (skV (ptsA (apthL (List.drop (0 : Nat) bs) (rdL bs.length) (0 : Int)).length (List.drop (0 : Nat) (flat (apthL (List.drop (0 : Nat) bs) (rdL bs.length) (0 : Int))))) (oneI (List.drop (0 : Nat) bs) (rdL bs.length) (apthE (List.drop (0 : Nat) bs) (rdL bs.length) (0 : Int)) (8 : Nat) spNs)).length) (.need (List.drop (0 : Nat) (skV (ptsA (apthL (List.drop (0 : Nat) bs) (rdL bs.length) (0 : Int)).length (List.drop (0 : Nat) (flat (apthL (List.drop (0 : Nat) bs) (rdL bs.length) (0 : Int))))) (oneI (List.drop (0 : Nat) bs) (rdL bs.length) (apthE (List.drop (0 : Nat) bs) (rdL bs.length) (0 : Int)) (8 : Nat) spNs)) = List.drop (0 : Nat) (skV (ptsA (apthL (List.drop (0 : Nat) bs) (rdL bs.length) (0 : Int)).length (List.drop (0 : Nat) (flat (apthL (List.drop (0 : Nat) bs) (rdL bs.length) (0 : Int))))) (oneI (List.drop (0 : Nat) bs) (rdL bs.length) (apthE (List.drop (0 : Nat) bs) (rdL bs.length) (0 : Int)) (8 : Nat) spNs))) (.need ((skV (ptsA (apthL (List.drop (0 : Nat) bs) (rdL bs.length) (0 : Int)).length (List.drop (0 : Nat) (flat (apthL (List.drop (0 : Nat) bs) (rdL bs.length) (0 : Int))))) (oneI (List.drop (0 : Nat) bs) (rdL bs.length) (apthE (List.drop (0 : Nat) bs) (rdL bs.length) (0 : Int)) (8 : Nat) spNs)).length ≤ (List.drop (0 : Nat) (skV (ptsA (apthL (List.drop (0 : Nat) bs) (rdL bs.length) (0 : Int)).length (List.drop (0 : Nat) (flat (apthL (List.drop (0 : Nat) bs) (rdL bs.length) (0 : Int))))) (oneI (List.drop (0 : Nat) bs) (rdL bs.length) (apthE (List.drop (0 : Nat) bs) (rdL bs.length) (0 : Int)) (8 : Nat) spNs))).length) (.need (Lim (skV (ptsA (apthL (List.drop (0 : Nat) bs) (rdL bs.length) (0 : Int)).length (List.drop (0 : Nat) (flat (apthL (List.drop (0 : Nat) bs) (rdL bs.length) (0 : Int))))) (oneI (List.drop (0 : Nat) bs) (rdL bs.length) (apthE (List.drop (0 : Nat) bs) (rdL bs.length) (0 : Int)) (8 : Nat) spNs)).length) (.fin (.bool (true)) []))))))) (.need ((apthL (List.drop (0 : Nat) bs) (rdL bs.length) (0 : Int)).length * (2 : Nat) ≤ (List.drop (0 : Nat) (flat (apthL (List.drop (0 : Nat) bs) (rdL bs.length) (0 : Int)))).length) (.need ((apthL (List.drop (0 : Nat) bs) (rdL bs.length) (0 : Int)).length ≤ (1000000000 : Nat)) (brT (decide ((↑(skV (ptsA (apthL (List.drop 0 bs) (rdL bs.length) 0).length (List.drop 0 (flat (apthL (List.drop 0 bs) (rdL bs.length) 0)))) 0).length : Int) < 2)) (.fin (.bool (false)) []) (.need ((0 : Int) = (0 : Int)) (.need ((1 : Int) = (1 : Int)) (.need ((skV (ptsA (apthL (List.drop (0 : Nat) bs) (rdL bs.length) (0 : Int)).length (List.drop (0 : Nat) (flat (apthL (List.drop (0 : Nat) bs) (rdL bs.length) (0 : Int))))) (0 : Int)).length = (skV (ptsA (apthL (List.drop (0 : Nat) bs) (rdL bs.length) (0 : Int)).length (List.drop (0 : Nat) (flat (apthL (List.drop (0 : Nat) bs) (rdL bs.length) (0 : Int))))) (0 : Int)).length) (.need ((flat (apthL (List.drop (0 : Nat) bs) (rdL bs.length) (0 : Int))).length = (apthL (List.drop (0 : Nat) bs) (rdL bs.length) (0 : Int)).length * (2 : Nat)) (.need (SxOk (ptsA (apthL (List.drop (0 : Nat) bs) (rdL bs.length) (0 : Int)).length (flat (apthL (List.drop (0 : Nat) bs) (rdL bs.length) (0 : Int)))) (skV (ptsA (apthL (List.drop (0 : Nat) bs) (rdL bs.length) (0 : Int)).length (List.drop (0 : Nat) (flat (apthL (List.drop (0 : Nat) bs) (rdL bs.length) (0 : Int))))) (0 : Int))) (.fin (.bool (true)) [])))))))))))))))))))) := by kernel_rfl
theorem ascE_le {es : List Int} (h : ∀ k, k + 1 < es.length → es.getD k 0 < es.getD (k + 1) 0) : ∀ d j, j + d < es.length → es.getD j 0 ≤ es.getD (j + d) 0
  | 0, _, _ => Int.le_refl _
  | d + 1, j, hj => by
    have h1 := ascE_le h d j (by omega)
    have h2 := h (j + d) (by omega)
    rw [show j + (d + 1) = j + d + 1 by omega]
    omega
theorem sx_ok {ps : List Pt} {most : Int} (h : 0 < (skV ps most).length) : SxOk ps (skV ps 0) := by
  unfold skV at h
  rcases hk : (pathB ps && (decide (0 ≤ most) && decide (most ≤ 8000000))) with _ | _
  · rw [hk] at h; simp at h
  rw [Bool.and_eq_true, Bool.and_eq_true] at hk
  obtain ⟨hp, _, _⟩ := hk
  have hl := skV_len ps 0
  obtain ⟨⟨p1, p2⟩, p3, _⟩ := path_iff.1 hp
  have e : skV ps 0 = (((0 : Nat) : Int) :: smL ps 0 0 (ps.length - 1)) := by
    unfold skV
    rw [hp, decide_eq_true (Int.le_refl 0), decide_eq_true (show (0 : Int) ≤ 8000000 by decide)]
    rfl
  rw [e] at hl ⊢
  obtain ⟨c1, c2⟩ := sml_ch ps 0 _ 0 (ps.length - 1) (by omega) (Nat.le_refl _)
  change chO ps 0 0 (smL ps 0 0 (ps.length - 1)) at c1
  change lastN 0 (smL ps 0 0 (ps.length - 1)) = _ at c2
  have hpos : 0 < (smL ps 0 0 (ps.length - 1)).length := by
    rcases hz : smL ps 0 0 (ps.length - 1) with _ | ⟨x, r⟩
    · rw [hz] at c2
      simp only [lastN] at c2
      omega
    · simp
  generalize smL ps 0 0 (ps.length - 1) = L at *
  have st : ∀ k, k + 1 < (((0 : Nat) : Int) :: L).length → (((0 : Nat) : Int) :: L).getD k 0 < (((0 : Nat) : Int) :: L).getD (k + 1) 0 ∧ stpB ps ((((0 : Nat) : Int) :: L).getD k 0).toNat ((((0 : Nat) : Int) :: L).getD (k + 1) 0).toNat 0 = true := fun k hk => chO_get L 0 k c1 (by simpa using hk)
  have gl := chO_last L 0 c1
  rw [c2] at gl
  have le := ascE_le (es := (((0 : Nat) : Int) :: L)) fun k hk => (st k hk).1
  have ln : (((0 : Nat) : Int) :: L).length = L.length + 1 := by simp
  refine ⟨p1, p2, by omega, by omega, fun k hk => ?_, st, rfl, ?_⟩
  · have h1 := le k 0 (by omega)
    have h2 := le (L.length - k) k (by omega)
    rw [show k + (L.length - k) = L.length by omega, gl] at h2
    rw [Nat.zero_add] at h1
    have h3 : (((0 : Nat) : Int) :: L).getD 0 0 = 0 := rfl
    omega
  · rw [ln, Nat.add_sub_cancel, gl]
    omega
theorem SimplifyExact_res (bs : List Int) (hb : Bytes bs) (_ : bs.length ≤ maxLen) : Res Try.prog 6 [.row bs.length (.bytes bs)] (.bool true) := by
  refine bodyV_res mixed ESx2_ok (m := 30) (n := 12) rfl ?_
  rw [tr_lsx]
  simp only [List.drop_zero, ptsA_flat, flat_length]
  generalize oneI bs (rdL bs.length) (apthE bs (rdL bs.length) 0) 8 spNs = most
  have hq : (apthL bs (rdL bs.length) 0).length ≤ 9 := apthL_len (rdK0 hb (Nat.le_refl _) (l := rdL bs.length) (by unfold rdL; omega) (by unfold rdL; omega) (by omega) (by omega)).1
  generalize apthL bs (rdL bs.length) 0 = ps at *
  have hV := skV_len ps most
  have hk := fun h => sx_ok (ps := ps) (most := most) h
  have hL : Lim (skV ps most).length := Nat.le_trans hV (by decide)
  generalize skV ps most = V at *
  refine brT_ok.2 ⟨fun _ => rfl, fun hs => ?_⟩
  refine ⟨hb, Nat.le_refl _, Nat.le_refl _, by omega, Nat.le_refl _, by omega, trivial, trivial, Nat.le_refl _, hL, brT_ok.2 ⟨fun g => ?_, fun g => ?_⟩⟩
  · exact ⟨Nat.le_refl _, by omega, trivial, trivial, Nat.le_refl _, hL, rfl⟩
  · have g : ¬ (V.length : Int) = 0 := by simpa using g
    have h := hk (by omega)
    have hp := h.pos
    refine ⟨Nat.le_refl _, by omega, brT_ok.2 ⟨fun c => ?_, fun c => ?_⟩⟩
    · have c := of_decide_eq_true c
      omega
    · exact ⟨trivial, trivial, trivial, trivial, h, rfl⟩
end Go.Proofs.Ytolodncpegajkab
