/-
  Lists of half-planes: copied, compared, which are valid; loops. Written by an AI agent.
-/
import Derived.Test.YtfjcbindeimoiabMrkF
import Derived.Test.YtfjcbindeimoiabFnB
namespace Go.Proofs.Ytfjcbindeimoiab
open Go.RowKit

/-- Of so many from i on, all. -/
def allQ (P : Nat → Bool) : Nat → Nat → Bool
  | _, 0 => true
  | i, m + 1 => P i && allQ P (i + 1) m
theorem allQ_step {P : Nat → Bool} {i n : Nat} (h : i < n) : allQ P i (n - i) = (P i && allQ P (i + 1) (n - (i + 1))) := by
  rw [show n - i = (n - (i + 1)) + 1 by omega]
  rfl
theorem allQ_end {P : Nat → Bool} {i n : Nat} (h : n ≤ i) : allQ P i (n - i) = true := by
  rw [show n - i = 0 by omega]
  rfl
theorem allQ_get {P : Nat → Bool} : ∀ (m i : Nat), allQ P i m = true → ∀ j, i ≤ j → j < i + m → P j = true
  | 0, i, _, j, h1, h2 => by omega
  | m + 1, i, h, j, h1, h2 => by
    simp only [allQ, Bool.and_eq_true] at h
    rcases Nat.lt_or_ge i j with h3 | h3
    · exact allQ_get m (i + 1) h.2 j (by omega) (by omega)
    · obtain rfl : j = i := by omega
      exact h.1
def hfB (a b c : Int) : Bool := decide (-2000 ≤ a) && decide (a ≤ 2000) && decide (-2000 ≤ b) && decide (b ≤ 2000) && decide (-4000000 ≤ c) && decide (c ≤ 4000000) && !(decide (a = 0) && decide (b = 0))
set_option maxRecDepth 100000 in
theorem tr_specHf (a b c : Int) : bodyV Try.prog (tabE T1) 30 12 139 [.v (.agg #[iv a, iv b, iv c])] = brT (decide (-2000 ≤ a)) (brT (decide (a ≤ 2000)) (brT (decide (-2000 ≤ b)) (brT (decide (b ≤ 2000)) (brT (decide (-4000000 ≤ c)) (brT (decide (c ≤ 4000000)) (brT (!a == 0) (.fin (.bool (true)) []) (.fin (.bool (!b == 0)) [])) (.fin (.bool (false)) [])) (.fin (.bool (false)) [])) (.fin (.bool (false)) [])) (.fin (.bool (false)) [])) (.fin (.bool (false)) [])) (.fin (.bool (false)) []) := by kernel_rfl
set_option maxRecDepth 100000 in
theorem tr_implHf (a b c : Int) : bodyV Try.prog (tabE T1) 30 12 117 [.v (.agg #[iv a, iv b, iv c])] = brT (a == 0) (brT (b == 0) (.fin (.bool (false)) []) (brT (decide (IntKind.i64.wrap (0 - 2000) ≤ a)) (brT (decide (a ≤ 2000)) (brT (decide (IntKind.i64.wrap (0 - 2000) ≤ b)) (brT (decide (b ≤ 2000)) (brT (decide (IntKind.i64.wrap (0 - 4000000) ≤ c)) (.fin (.bool (decide (c ≤ 4000000))) []) (.fin (.bool (false)) [])) (.fin (.bool (false)) [])) (.fin (.bool (false)) [])) (.fin (.bool (false)) [])) (.fin (.bool (false)) []))) (brT (decide (IntKind.i64.wrap (0 - 2000) ≤ a)) (brT (decide (a ≤ 2000)) (brT (decide (IntKind.i64.wrap (0 - 2000) ≤ b)) (brT (decide (b ≤ 2000)) (brT (decide (IntKind.i64.wrap (0 - 4000000) ≤ c)) (.fin (.bool (decide (c ≤ 4000000))) []) (.fin (.bool (false)) [])) (.fin (.bool (false)) [])) (.fin (.bool (false)) [])) (.fin (.bool (false)) [])) (.fin (.bool (false)) [])) := by kernel_rfl
theorem w2000 : IntKind.i64.wrap (0 - 2000) = -2000 := by decide
theorem w4000 : IntKind.i64.wrap (0 - 4000000) = -4000000 := by decide
theorem res_specHf (a b c : Int) : Res Try.prog 139 [.v (.agg #[iv a, iv b, iv c])] (.bool (hfB a b c)) := by
  refine bodyV_res mixed (tabE_ok T1_ok) (m := 30) (n := 12) rfl ?_
  rw [tr_specHf]
  simp only [brT_ok, Tree.ok, decide_eq_true_eq, decide_eq_false_iff_not, beq_iff_eq, beq_eq_false_iff_ne, ne_eq, Bool.not_eq_true', Bool.not_eq_false']
  repeat' (first | apply And.intro | intro _)
  all_goals (refine vbool_eq ?_; unfold hfB; rw [Bool.eq_iff_iff]; simp; try omega)
theorem res_implHf (a b c : Int) : Res Try.prog 117 [.v (.agg #[iv a, iv b, iv c])] (.bool (hfB a b c)) := by
  refine bodyV_res mixed (tabE_ok T1_ok) (m := 30) (n := 12) rfl ?_
  rw [tr_implHf]
  simp only [brT_ok, Tree.ok, decide_eq_true_eq, decide_eq_false_iff_not, w2000, w4000, beq_iff_eq, beq_eq_false_iff_ne, ne_eq, Bool.not_eq_true', Bool.not_eq_false']
  repeat' (first | apply And.intro | intro _)
  all_goals (refine vbool_eq ?_; unfold hfB; rw [Bool.eq_iff_iff]; simp; try omega)
def pHf : List DArg → Option (Value × List Prop)
  | [.v (.agg ⟨[.int .i64 a, .int .i64 b, .int .i64 c]⟩)] => some (.bool (hfB a b c), [])
  | _ => none
theorem hfS {ds : List DArg} {v : Value} {C : List Prop} (h : pHf ds = some (v, C)) : Res Try.prog 139 ds v := by
  unfold pHf at h
  split at h
  · obtain ⟨rfl, rfl⟩ : _ ∧ _ := by simpa using h
    exact res_specHf _ _ _
  · cases h
theorem hfI {ds : List DArg} {v : Value} {C : List Prop} (h : pHf ds = some (v, C)) : Res Try.prog 117 ds v := by
  unfold pHf at h
  split at h
  · obtain ⟨rfl, rfl⟩ : _ ∧ _ := by simpa using h
    exact res_implHf _ _ _
  · cases h
def THf : Tab := fun f ds => match f with
  | 139 => pHf ds
  | 117 => pHf ds
  | f => T3 f ds
theorem THf_ok : TabOk Try.prog THf := by
  intro f ds v C h hC
  unfold THf at h
  split at h
  all_goals first | with_reducible exact hfS h | with_reducible exact hfI h | exact T3_ok _ _ _ _ h hC
def EHf : Env := mkE THf (fun _ _ => none) (fun _ => noL)
theorem EHf_ok : EnvOk Try.prog EHf := mkEOk THf_ok (fun _ _ _ _ _ h => (by cases h)) (fun _ _ _ => noL_good)
/-- The half-plane at j. -/
def hfQ (xs : List Int) (j : Nat) : Bool := hfB (xs.getD (j * 3) 0) (xs.getD (j * 3 + 1) 0) (xs.getD (j * 3 + 2) 0)
theorem set_step {xs ys ns : List Int} {o k : Nat} (hl : ns.length = k) (hx : xs.drop o = ns ++ xs.drop (o + k)) (hy : o + k ≤ ys.length) (h0 : o ≤ xs.length) (h : ys.take o = xs.take o) : (setInts ys o ns).take (o + k) = xs.take (o + k) ∧ (setInts ys o ns).length = ys.length := by
  unfold setInts
  rw [hl, h]
  have l1 : (xs.take o).length = o := by simp; omega
  constructor
  · have e : xs.take (o + k) = xs.take o ++ ns := by
      have : xs = xs.take o ++ (ns ++ xs.drop (o + k)) := by rw [← hx, List.take_append_drop]
      rw [List.take_add, hx]
      congr 1
      exact List.take_left' hl
    rw [e]
    exact List.take_left' (by rw [List.length_append, l1, hl])
  · simp
    omega
theorem drop3 {xs : List Int} {o : Nat} (h : o + 3 ≤ xs.length) : xs.drop o = [xs.getD o 0, xs.getD (o + 1) 0, xs.getD (o + 2) 0] ++ xs.drop (o + 3) := by
  rw [drop_cons (l := xs) (k := o) (by omega) 0, drop_cons (l := xs) (k := o + 1) (by omega) 0, drop_cons (l := xs) (k := o + 2) (by omega) 0]
  rfl
noncomputable def c_toHf : Code := ((loopsOf (codeOf Try.f53))[0]?).getD .skip
def k_toHf : Ex → List Nat := keeps [0, 3, 4] [(0, [3])] [2]
def s_toHf (xs : List Int) (n : Nat) : Nat × (List Int) → St := fun (i, ys) => ⟨[.slice (some ⟨0, 0, none⟩) n n, topV, topV, .slice (some ⟨1, 0, none⟩) n n, .int .i64 i, topV, topV, topV, topV, topV, topV, topV, topV, topV, topV, topV, topV, topV, topV, topV, topV, topV, topV], [some ⟨.view, .ints xs⟩, some ⟨.row 136 3, .ints ys⟩]⟩
def re_toHf : Nat × (List Int) → Ex := fun _ => .exit 0
def rs_toHf (xs : List Int) (n : Nat) : Nat × (List Int) → St := fun (i, ys) => ⟨[topV, topV, topV, .slice (some ⟨1, 0, none⟩) n n, topV, topV, topV, topV, topV, topV, topV, topV, topV, topV, topV, topV, topV, topV, topV, topV, topV, topV, topV], [some ⟨.view, .ints xs⟩, some ⟨.row 136 3, .ints xs⟩]⟩
set_option maxRecDepth 100000 in
theorem tr_toHf (xs : List Int) (n : Nat) (i : Nat) (ys : List Int) : bodyL Try.prog EM 30 12 noL 1 c_toHf k_toHf 2 (s_toHf xs n (i, ys)) = brT (decide ((↑i : Int) < (↑n : Int))) (.need ((0 : Int) ≤ (↑i : Int) ∧ (↑i : Int) < (↑n : Int)) (.need ((0 : Nat) + (↑i : Int).toNat * (3 : Nat) + (3 : Nat) ≤ xs.length) (.need ((0 : Int) ≤ (↑i : Int) ∧ (↑i : Int) < (↑n : Int)) (.need ((0 : Nat) + (↑i : Int).toNat * (3 : Nat) + (3 : Nat) ≤ ys.length) (.leaf .normal ⟨[.slice (some ⟨0, 0, none⟩) (n) (n), topV, topV, .slice (some ⟨1, 0, none⟩) (n) (n), .int .i64 (IntKind.i64.wrap ((↑i : Int) + 1)), topV, topV, topV, topV, topV, topV, topV, topV, topV, topV, topV, topV, topV, topV, topV, topV, topV, topV], [some ⟨.view, .ints (xs)⟩, some ⟨.row 136 3, .ints (setInts ys (0 + (↑i : Int).toNat * 3) [xs.getD (0 + (↑i : Int).toNat * 3) 0, xs.getD (0 + (↑i : Int).toNat * 3 + 1) 0, xs.getD (0 + (↑i : Int).toNat * 3 + 1 + 1) 0])⟩]⟩))))) (.leaf (.exit 0) ⟨[topV, topV, topV, .slice (some ⟨1, 0, none⟩) (n) (n), topV, topV, topV, topV, topV, topV, topV, topV, topV, topV, topV, topV, topV, topV, topV, topV, topV, topV, topV], [some ⟨.view, .ints (xs)⟩, some ⟨.row 136 3, .ints (ys)⟩]⟩) := by kernel_rfl
set_option maxRecDepth 100000 in
theorem nl_toHf : loopsOf c_toHf = [] := by kernel_rfl
def inv_toHf (xs : List Int) (n : Nat) : Nat × (List Int) → Prop := fun (i, ys) => i ≤ n ∧ ys.length = n * 3 ∧ ys.take (i * 3) = xs.take (i * 3)
def me_toHf (xs : List Int) (n : Nat) : Nat × (List Int) → Nat := fun (i, ys) => n - i
/-- A round of this loop. -/
def Round_toHf (xs : List Int) (n : Nat) : Prop := ∀ xx : Nat × (List Int), inv_toHf xs n xx → (bodyL Try.prog EM 30 12 noL 1 c_toHf k_toHf 2 (s_toHf xs n xx)).ok (RoundEnd 2 (s_toHf xs n) (inv_toHf xs n) (me_toHf xs n) re_toHf (rs_toHf xs n) xx) (fun _ _ => False)
def e_toHf (s : St) (k : Ex → St → Tree) : Option Tree := match Nat.beq s.tmps.length 23, pickL s.tmps [0, 3, 4], s.mem with
  | true, [.slice (some ⟨0, 0, none⟩) n _, .slice (some ⟨1, 0, none⟩) m _, .int .i64 i], [some ⟨.view, .ints xs⟩, some ⟨.row 136 3, .ints ys⟩] => some (needs [i = 0, m = n, xs.length = n * 3, ys.length = n * 3, n ≤ 1000000000] (k (.exit 0) ⟨[topV, topV, topV, .slice (some ⟨1, 0, none⟩) n n, topV, topV, topV, topV, topV, topV, topV, topV, topV, topV, topV, topV, topV, topV, topV, topV, topV, topV, topV], [some ⟨.view, .ints xs⟩, some ⟨.row 136 3, .ints xs⟩]⟩))
  | _, _, _ => none
set_option maxRecDepth 100000 in
theorem round_toHf (xs : List Int) (n : Nat) (hx : xs.length = n * 3) (h : n ≤ 1000000000) : Round_toHf xs n := by
  rintro ⟨i, ys⟩ ⟨h1, h2, h3⟩
  rw [tr_toHf]
  simp only [brT_ok, Tree.ok, decide_eq_true_eq, decide_eq_false_iff_not, Int.toNat_natCast, Nat.zero_add, Nat.add_zero, Cs.size]
  refine ⟨fun hlt => ?_, fun hge => ?_⟩
  · rw [wsucc (n := n) (by omega) h]
    obtain ⟨e1, e2⟩ := set_step (k := 3) (ns := [xs.getD (i * 3) 0, xs.getD (i * 3 + 1) 0, xs.getD (i * 3 + 2) 0]) rfl (drop3 (by omega)) (by omega) (by omega) h3
    refine ⟨by omega, by omega, by omega, by omega, (i + 1, setInts ys (i * 3) [xs.getD (i * 3) 0, xs.getD (i * 3 + 1) 0, xs.getD (i * 3 + 2) 0]), [], ⟨by omega, by omega, ?_⟩, ?_, rfl, rfl, ?_⟩
    · rw [show (i + 1) * 3 = i * 3 + 3 by omega]
      exact e1
    · show n - (i + 1) < n - i; omega
    · repeat' (first | exact True.intro | exact rfl | exact fun _ => rfl | refine And.intro ?_ ?_)
  · obtain rfl : i = n := by omega
    have e : ys = xs := by
      rw [List.take_of_length_le (by omega), List.take_of_length_le (by omega)] at h3
      exact h3
    subst e
    refine ⟨rfl, [], ?_⟩
    repeat' (first | exact True.intro | exact rfl | exact fun _ => rfl | refine And.intro ?_ ?_)
set_option maxRecDepth 100000 in
theorem lg_toHf : LoopE Try.prog e_toHf c_toHf := by
  intro s k t F H hlt ht
  unfold e_toHf at hlt
  split at hlt
  rotate_left
  · cases hlt
  rename_i hlen hpick hmem
  obtain ⟨tmps, mem⟩ := s
  simp only at hlen hpick hmem
  subst hmem
  obtain rfl := Option.some.inj hlt
  obtain ⟨⟨rfl, rfl, h1, h2, h3, _⟩, ht2⟩ := needs_ok ht
  clear ht hlt
  refine ⟨_, _, ht2, loop_run mixed EM_ok (s_toHf _ _) (inv_toHf _ _) (me_toHf _ _) re_toHf (rs_toHf _ _) k_toHf (fun _ => rfl) (noLoops nl_toHf) (round_toHf _ _ h1 h3) (x := (0, _)) ⟨Nat.zero_le _, h2, rfl⟩ (π := []) rfl ?_⟩
  refine ⟨rfl, rfl, ?_, wvs_spread' [0, 3, 4] hlen rfl ?_⟩
  · repeat' (first | exact True.intro | exact rfl | exact wv_top _ _ | exact fun _ => rfl | assumption | exact Eq.symm (by assumption) | exact vI0 rfl | refine And.intro ?_ ?_)
  · rw [hpick]
    repeat' (first | exact True.intro | exact rfl | exact wv_top _ _ | exact fun _ => rfl | assumption | exact Eq.symm (by assumption) | exact vI0 rfl | refine And.intro ?_ ?_)
noncomputable def c_eqHf : Code := ((loopsOf (codeOf Try.f55))[0]?).getD .skip
def k_eqHf : Ex → List Nat := keeps [0, 1, 5] [(0, [])] [4]
def s_eqHf (n : Nat) (xs : List Int) : Nat → St := fun i => ⟨[.slice (some ⟨0, 0, none⟩) n n, .slice (some ⟨1, 0, none⟩) n n, topV, topV, topV, .int .i64 i, topV, topV, topV, topV, topV, topV, topV, topV, topV, topV, topV, topV, topV, topV, topV, topV, topV, topV, topV, topV, topV], [some ⟨.view, .ints xs⟩, some ⟨.view, .ints xs⟩]⟩
def re_eqHf : Nat → Ex := fun _ => .exit 0
def rs_eqHf (n : Nat) (xs : List Int) : Nat → St := fun i => ⟨[topV, topV, topV, topV, topV, topV, topV, topV, topV, topV, topV, topV, topV, topV, topV, topV, topV, topV, topV, topV, topV, topV, topV, topV, topV, topV, topV], [some ⟨.view, .ints xs⟩, some ⟨.view, .ints xs⟩]⟩
set_option maxRecDepth 100000 in
theorem tr_eqHf (n : Nat) (xs : List Int) (i : Nat) : bodyL Try.prog EM 30 12 noL 1 c_eqHf k_eqHf 2 (s_eqHf n xs i) = brT (decide ((↑i : Int) < (↑n : Int))) (brT (!xs.getD (0 + (↑i : Int).toNat * 3) 0 == xs.getD (0 + (↑i : Int).toNat * 3) 0) (.need ((0 : Int) ≤ (↑i : Int) ∧ (↑i : Int) < (↑n : Int)) (.need ((0 : Nat) + (↑i : Int).toNat * (3 : Nat) + (3 : Nat) ≤ xs.length) (.need ((0 : Int) ≤ (↑i : Int) ∧ (↑i : Int) < (↑n : Int)) (.need ((0 : Nat) + (↑i : Int).toNat * (3 : Nat) + (3 : Nat) ≤ xs.length) (.leaf .ret ⟨[topV, topV, topV, topV, .bool (false), topV, topV, topV, topV, topV, topV, topV, topV, topV, topV, topV, topV, topV, topV, topV, topV, topV, topV, topV, topV, topV, topV], [some ⟨.view, .ints (xs)⟩, some ⟨.view, .ints (xs)⟩]⟩))))) (brT (!xs.getD (0 + (↑i : Int).toNat * 3 + 1) 0 == xs.getD (0 + (↑i : Int).toNat * 3 + 1) 0) (.need ((0 : Int) ≤ (↑i : Int) ∧ (↑i : Int) < (↑n : Int)) (.need ((0 : Nat) + (↑i : Int).toNat * (3 : Nat) + (3 : Nat) ≤ xs.length) (.need ((0 : Int) ≤ (↑i : Int) ∧ (↑i : Int) < (↑n : Int)) (.need ((0 : Nat) + (↑i : Int).toNat * (3 : Nat) + (3 : Nat) ≤ xs.length) (.leaf .ret ⟨[topV, topV, topV, topV, .bool (false), topV, topV, topV, topV, topV, topV, topV, topV, topV, topV, topV, topV, topV, topV, topV, topV, topV, topV, topV, topV, topV, topV], [some ⟨.view, .ints (xs)⟩, some ⟨.view, .ints (xs)⟩]⟩))))) (brT (!xs.getD (0 + (↑i : Int).toNat * 3 + 1 + 1) 0 == xs.getD (0 + (↑i : Int).toNat * 3 + 1 + 1) 0) (.need ((0 : Int) ≤ (↑i : Int) ∧ (↑i : Int) < (↑n : Int)) (.need ((0 : Nat) + (↑i : Int).toNat * (3 : Nat) + (3 : Nat) ≤ xs.length) (.need ((0 : Int) ≤ (↑i : Int) ∧ (↑i : Int) < (↑n : Int)) (.need ((0 : Nat) + (↑i : Int).toNat * (3 : Nat) + (3 : Nat) ≤ xs.length) (.leaf .ret ⟨[topV, topV, topV, topV, .bool (false), topV, topV, topV, topV, topV, topV, topV, topV, topV, topV, topV, topV, topV, topV, topV, topV, topV, topV, topV, topV, topV, topV], [some ⟨.view, .ints (xs)⟩, some ⟨.view, .ints (xs)⟩]⟩))))) (.need ((0 : Int) ≤ (↑i : Int) ∧ (↑i : Int) < (↑n : Int)) (.need ((0 : Nat) + (↑i : Int).toNat * (3 : Nat) + (3 : Nat) ≤ xs.length) (.need ((0 : Int) ≤ (↑i : Int) ∧ (↑i : Int) < (↑n : Int)) (.need ((0 : Nat) + (↑i : Int).toNat * (3 : Nat) + (3 : Nat) ≤ xs.length) (.leaf .normal ⟨[.slice (some ⟨0, 0, none⟩) (n) (n), .slice (some ⟨1, 0, none⟩) (n) (n), topV, topV, topV, .int .i64 (IntKind.i64.wrap ((↑i : Int) + 1)), topV, topV, topV, topV, topV, topV, topV, topV, topV, topV, topV, topV, topV, topV, topV, topV, topV, topV, topV, topV, topV], [some ⟨.view, .ints (xs)⟩, some ⟨.view, .ints (xs)⟩]⟩)))))))) (.leaf (.exit 0) ⟨[topV, topV, topV, topV, topV, topV, topV, topV, topV, topV, topV, topV, topV, topV, topV, topV, topV, topV, topV, topV, topV, topV, topV, topV, topV, topV, topV], [some ⟨.view, .ints (xs)⟩, some ⟨.view, .ints (xs)⟩]⟩) := by kernel_rfl
set_option maxRecDepth 100000 in
theorem nl_eqHf : loopsOf c_eqHf = [] := by kernel_rfl
def inv_eqHf (n : Nat) (xs : List Int) : Nat → Prop := fun i => i ≤ n
def me_eqHf (n : Nat) (xs : List Int) : Nat → Nat := fun i => n - i
/-- A round of this loop. -/
def Round_eqHf (n : Nat) (xs : List Int) : Prop := ∀ xx : Nat, inv_eqHf n xs xx → (bodyL Try.prog EM 30 12 noL 1 c_eqHf k_eqHf 2 (s_eqHf n xs xx)).ok (RoundEnd 2 (s_eqHf n xs) (inv_eqHf n xs) (me_eqHf n xs) re_eqHf (rs_eqHf n xs) xx) (fun _ _ => False)
def e_eqHf (s : St) (k : Ex → St → Tree) : Option Tree := match Nat.beq s.tmps.length 27, pickL s.tmps [0, 1, 5], s.mem with
  | true, [.slice (some ⟨0, 0, none⟩) n _, .slice (some ⟨1, 0, none⟩) m _, .int .i64 i], [some ⟨.view, .ints xs⟩, some ⟨.view, .ints ys⟩] => some (needs [i = 0, m = n, ys = xs, xs.length = n * 3, n ≤ 1000000000] (k (.exit 0) ⟨[topV, topV, topV, topV, topV, topV, topV, topV, topV, topV, topV, topV, topV, topV, topV, topV, topV, topV, topV, topV, topV, topV, topV, topV, topV, topV, topV], [some ⟨.view, .ints xs⟩, some ⟨.view, .ints xs⟩]⟩))
  | _, _, _ => none
set_option maxRecDepth 100000 in
theorem round_eqHf (n : Nat) (xs : List Int) (hx : xs.length = n * 3) (h : n ≤ 1000000000) : Round_eqHf n xs := by
  intro i h1
  have h1 : i ≤ n := h1
  rw [tr_eqHf]
  simp only [beq_self_eq_true, Bool.not_true, brT_f, brT_ok, Tree.ok, decide_eq_true_eq, decide_eq_false_iff_not, Int.toNat_natCast, Nat.zero_add, Nat.add_zero]
  refine ⟨fun hlt => ?_, fun hge => ?_⟩
  · rw [wsucc (n := n) (by omega) h]
    refine ⟨by omega, by omega, by omega, by omega, i + 1, [], ?_, ?_, rfl, rfl, ?_⟩
    · show i + 1 ≤ n; omega
    · show n - (i + 1) < n - i; omega
    · repeat' (first | exact True.intro | exact rfl | exact fun _ => rfl | refine And.intro ?_ ?_)
  · refine ⟨rfl, [], ?_⟩
    repeat' (first | exact True.intro | exact rfl | exact fun _ => rfl | refine And.intro ?_ ?_)
set_option maxRecDepth 100000 in
theorem lg_eqHf : LoopE Try.prog e_eqHf c_eqHf := by
  intro s k t F H hlt ht
  unfold e_eqHf at hlt
  split at hlt
  rotate_left
  · cases hlt
  rename_i hlen hpick hmem
  obtain ⟨tmps, mem⟩ := s
  simp only at hlen hpick hmem
  subst hmem
  obtain rfl := Option.some.inj hlt
  obtain ⟨⟨rfl, rfl, rfl, h1, h2, _⟩, ht2⟩ := needs_ok ht
  clear ht hlt
  refine ⟨_, _, ht2, loop_run mixed EM_ok (s_eqHf _ _) (inv_eqHf _ _) (me_eqHf _ _) re_eqHf (rs_eqHf _ _) k_eqHf (fun _ => rfl) (noLoops nl_eqHf) (round_eqHf _ _ h1 h2) (x := 0) (Nat.zero_le _) (π := []) rfl ?_⟩
  refine ⟨rfl, rfl, ?_, wvs_spread' [0, 1, 5] hlen rfl ?_⟩
  · repeat' (first | exact True.intro | exact rfl | exact wv_top _ _ | exact fun _ => rfl | assumption | exact Eq.symm (by assumption) | exact vI0 rfl | refine And.intro ?_ ?_)
  · rw [hpick]
    repeat' (first | exact True.intro | exact rfl | exact wv_top _ _ | exact fun _ => rfl | assumption | exact Eq.symm (by assumption) | exact vI0 rfl | refine And.intro ?_ ?_)
noncomputable def c_svHf : Code := ((loopsOf (codeOf Try.f115))[0]?).getD .skip
def k_svHf : Ex → List Nat := keeps [0, 3] [(0, [0])] [2]
def s_svHf (n : Nat) (xs : List Int) : Nat → St := fun i => ⟨[.slice (some ⟨0, 0, none⟩) n n, topV, topV, .int .i64 i, topV, topV, topV, topV, topV, topV, topV, topV, topV, topV, topV, topV, topV, topV, topV], [some ⟨.view, .ints xs⟩]⟩
def re_svHf (n : Nat) (xs : List Int) : Nat → Ex := fun i => bif allQ (hfQ xs) i (n - i) then .exit 0 else .ret
def rs_svHf (n : Nat) (xs : List Int) : Nat → St := fun i => bif allQ (hfQ xs) i (n - i) then ⟨[.slice (some ⟨0, 0, none⟩) n n, topV, topV, topV, topV, topV, topV, topV, topV, topV, topV, topV, topV, topV, topV, topV, topV, topV, topV], [some ⟨.view, .ints xs⟩]⟩ else ⟨[topV, topV, .bool false, topV, topV, topV, topV, topV, topV, topV, topV, topV, topV, topV, topV, topV, topV, topV, topV], [some ⟨.view, .ints xs⟩]⟩
set_option maxRecDepth 100000 in
theorem tr_svHf (n : Nat) (xs : List Int) (i : Nat) : bodyL Try.prog EHf 30 12 noL 1 c_svHf k_svHf 1 (s_svHf n xs i) = brT (decide ((↑i : Int) < (↑n : Int))) (.need ((0 : Int) ≤ (↑i : Int) ∧ (↑i : Int) < (↑n : Int)) (.need ((0 : Nat) + (↑i : Int).toNat * (3 : Nat) + (3 : Nat) ≤ xs.length) (brT (!hfB (xs.getD (0 + (↑i : Int).toNat * 3) 0) (xs.getD (0 + (↑i : Int).toNat * 3 + 1) 0) (xs.getD (0 + (↑i : Int).toNat * 3 + 1 + 1) 0)) (.leaf .ret ⟨[topV, topV, .bool (false), topV, topV, topV, topV, topV, topV, topV, topV, topV, topV, topV, topV, topV, topV, topV, topV], [some ⟨.view, .ints (xs)⟩]⟩) (.leaf .normal ⟨[.slice (some ⟨0, 0, none⟩) (n) (n), topV, topV, .int .i64 (IntKind.i64.wrap ((↑i : Int) + 1)), topV, topV, topV, topV, topV, topV, topV, topV, topV, topV, topV, topV, topV, topV, topV], [some ⟨.view, .ints (xs)⟩]⟩)))) (.leaf (.exit 0) ⟨[.slice (some ⟨0, 0, none⟩) (n) (n), topV, topV, topV, topV, topV, topV, topV, topV, topV, topV, topV, topV, topV, topV, topV, topV, topV, topV], [some ⟨.view, .ints (xs)⟩]⟩) := by kernel_rfl
set_option maxRecDepth 100000 in
theorem nl_svHf : loopsOf c_svHf = [] := by kernel_rfl
def inv_svHf (n : Nat) (xs : List Int) : Nat → Prop := fun i => i ≤ n
def me_svHf (n : Nat) (xs : List Int) : Nat → Nat := fun i => n - i
/-- A round of this loop. -/
def Round_svHf (n : Nat) (xs : List Int) : Prop := ∀ xx : Nat, inv_svHf n xs xx → (bodyL Try.prog EHf 30 12 noL 1 c_svHf k_svHf 1 (s_svHf n xs xx)).ok (RoundEnd 1 (s_svHf n xs) (inv_svHf n xs) (me_svHf n xs) (re_svHf n xs) (rs_svHf n xs) xx) (fun _ _ => False)
def e_svHf (s : St) (k : Ex → St → Tree) : Option Tree := match Nat.beq s.tmps.length 19, pickL s.tmps [0, 3], s.mem with
  | true, [.slice (some ⟨0, 0, none⟩) n _, .int .i64 i], [some ⟨.view, .ints xs⟩] => some (needs [i = 0, xs.length = n * 3, n ≤ 1000000000] (brT (allQ (hfQ xs) 0 n) (k (.exit 0) ⟨[.slice (some ⟨0, 0, none⟩) n n, topV, topV, topV, topV, topV, topV, topV, topV, topV, topV, topV, topV, topV, topV, topV, topV, topV, topV], [some ⟨.view, .ints xs⟩]⟩) (k .ret ⟨[topV, topV, .bool false, topV, topV, topV, topV, topV, topV, topV, topV, topV, topV, topV, topV, topV, topV, topV, topV], [some ⟨.view, .ints xs⟩]⟩)))
  | _, _, _ => none
set_option maxRecDepth 100000 in
theorem round_svHf (n : Nat) (xs : List Int) (hx : xs.length = n * 3) (h : n ≤ 1000000000) : Round_svHf n xs := by
  intro i h1
  have h1 : i ≤ n := h1
  rw [tr_svHf]
  simp only [brT_ok, Tree.ok, decide_eq_true_eq, decide_eq_false_iff_not, Int.toNat_natCast, Nat.zero_add, Bool.not_eq_true', Bool.not_eq_false']
  refine ⟨fun hlt => ⟨by omega, by omega, fun hv => ?_, fun hv => ?_⟩, fun hge => ?_⟩
  · have e : allQ (hfQ xs) i (n - i) = false := by rw [allQ_step (by omega)]; unfold hfQ; rw [hv, Bool.false_and]
    refine ⟨by simp only [re_svHf, e, cond_false], [], ?_⟩
    simp only [rs_svHf, e, cond_false]
    repeat' (first | exact True.intro | exact rfl | exact fun _ => rfl | refine And.intro ?_ ?_)
  · have e : allQ (hfQ xs) i (n - i) = allQ (hfQ xs) (i + 1) (n - (i + 1)) := by
      rw [allQ_step (by omega)]
      have : hfQ xs i = true := hv
      rw [this, Bool.true_and]
    rw [wsucc (n := n) (by omega) h]
    refine ⟨i + 1, [], ?_, ?_, by simp only [re_svHf, e], by simp only [rs_svHf, e], ?_⟩
    · show i + 1 ≤ n; omega
    · show n - (i + 1) < n - i; omega
    · repeat' (first | exact True.intro | exact rfl | exact fun _ => rfl | refine And.intro ?_ ?_)
  · have e : allQ (hfQ xs) i (n - i) = true := allQ_end (by omega)
    refine ⟨by simp only [re_svHf, e, cond_true], [], ?_⟩
    simp only [rs_svHf, e, cond_true]
    repeat' (first | exact True.intro | exact rfl | exact fun _ => rfl | refine And.intro ?_ ?_)
set_option maxRecDepth 100000 in
theorem lg_svHf : LoopE Try.prog e_svHf c_svHf := by
  intro s k t F H hlt ht
  unfold e_svHf at hlt
  split at hlt
  rotate_left
  · cases hlt
  rename_i hlen hpick hmem
  obtain ⟨tmps, mem⟩ := s
  simp only at hlen hpick hmem
  subst hmem
  obtain rfl := Option.some.inj hlt
  obtain ⟨⟨rfl, h1, h2, _⟩, ht2⟩ := needs_ok ht
  clear ht hlt
  refine ⟨_, _, pick2k ht2, loop_run mixed EHf_ok (s_svHf _ _) (inv_svHf _ _) (me_svHf _ _) (re_svHf _ _) (rs_svHf _ _) k_svHf (fun _ => rfl) (noLoops nl_svHf) (round_svHf _ _ h1 h2) (x := 0) (Nat.zero_le _) (π := []) rfl ?_⟩
  refine ⟨rfl, rfl, ?_, wvs_spread' [0, 3] hlen rfl ?_⟩
  · repeat' (first | exact True.intro | exact rfl | exact wv_top _ _ | exact fun _ => rfl | assumption | exact Eq.symm (by assumption) | exact vI0 rfl | refine And.intro ?_ ?_)
  · rw [hpick]
    repeat' (first | exact True.intro | exact rfl | exact wv_top _ _ | exact fun _ => rfl | assumption | exact Eq.symm (by assumption) | exact vI0 rfl | refine And.intro ?_ ?_)
noncomputable def c_ivHf : Code := ((loopsOf (codeOf Try.f54))[0]?).getD .skip
def k_ivHf : Ex → List Nat := keeps [0, 5, 6, 7] [(0, [0])] [2]
def s_ivHf (n : Nat) (xs : List Int) : Nat → St := fun i => ⟨[.slice (some ⟨0, 0, none⟩) n n, topV, topV, topV, topV, .slice (some ⟨0, 0, none⟩) n n, .int .i64 n, .int .i64 i, topV, topV, topV, topV, topV, topV, topV, topV, topV, topV], [some ⟨.view, .ints xs⟩]⟩
def re_ivHf (n : Nat) (xs : List Int) : Nat → Ex := fun i => bif allQ (hfQ xs) i (n - i) then .exit 0 else .ret
def rs_ivHf (n : Nat) (xs : List Int) : Nat → St := fun i => bif allQ (hfQ xs) i (n - i) then ⟨[.slice (some ⟨0, 0, none⟩) n n, topV, topV, topV, topV, topV, topV, topV, topV, topV, topV, topV, topV, topV, topV, topV, topV, topV], [some ⟨.view, .ints xs⟩]⟩ else ⟨[topV, topV, .bool false, topV, topV, topV, topV, topV, topV, topV, topV, topV, topV, topV, topV, topV, topV, topV], [some ⟨.view, .ints xs⟩]⟩
set_option maxRecDepth 100000 in
theorem tr_ivHf (n : Nat) (xs : List Int) (i : Nat) : bodyL Try.prog EHf 30 12 noL 1 c_ivHf k_ivHf 1 (s_ivHf n xs i) = brT (decide ((↑i : Int) < (↑n : Int))) (.need ((0 : Int) ≤ (↑i : Int) ∧ (↑i : Int) < (↑n : Int)) (.need ((0 : Nat) + (↑i : Int).toNat * (3 : Nat) + (3 : Nat) ≤ xs.length) (brT (!hfB (xs.getD (0 + (↑i : Int).toNat * 3) 0) (xs.getD (0 + (↑i : Int).toNat * 3 + 1) 0) (xs.getD (0 + (↑i : Int).toNat * 3 + 1 + 1) 0)) (.leaf .ret ⟨[topV, topV, .bool (false), topV, topV, topV, topV, topV, topV, topV, topV, topV, topV, topV, topV, topV, topV, topV], [some ⟨.view, .ints (xs)⟩]⟩) (.leaf .normal ⟨[.slice (some ⟨0, 0, none⟩) (n) (n), topV, topV, topV, topV, .slice (some ⟨0, 0, none⟩) (n) (n), .int .i64 ((↑n : Int)), .int .i64 (IntKind.i64.wrap ((↑i : Int) + 1)), topV, topV, topV, topV, topV, topV, topV, topV, topV, topV], [some ⟨.view, .ints (xs)⟩]⟩)))) (.leaf (.exit 0) ⟨[.slice (some ⟨0, 0, none⟩) (n) (n), topV, topV, topV, topV, topV, topV, topV, topV, topV, topV, topV, topV, topV, topV, topV, topV, topV], [some ⟨.view, .ints (xs)⟩]⟩) := by kernel_rfl
set_option maxRecDepth 100000 in
theorem nl_ivHf : loopsOf c_ivHf = [] := by kernel_rfl
def inv_ivHf (n : Nat) (xs : List Int) : Nat → Prop := fun i => i ≤ n
def me_ivHf (n : Nat) (xs : List Int) : Nat → Nat := fun i => n - i
/-- A round of this loop. -/
def Round_ivHf (n : Nat) (xs : List Int) : Prop := ∀ xx : Nat, inv_ivHf n xs xx → (bodyL Try.prog EHf 30 12 noL 1 c_ivHf k_ivHf 1 (s_ivHf n xs xx)).ok (RoundEnd 1 (s_ivHf n xs) (inv_ivHf n xs) (me_ivHf n xs) (re_ivHf n xs) (rs_ivHf n xs) xx) (fun _ _ => False)
def e_ivHf (s : St) (k : Ex → St → Tree) : Option Tree := match Nat.beq s.tmps.length 18, pickL s.tmps [0, 5, 6, 7], s.mem with
  | true, [.slice (some ⟨0, 0, none⟩) n _, .slice (some ⟨0, 0, none⟩) n2 _, .int .i64 n3, .int .i64 i], [some ⟨.view, .ints xs⟩] => some (needs [i = 0, n2 = n, n3 = n, xs.length = n * 3, n ≤ 1000000000] (brT (allQ (hfQ xs) 0 n) (k (.exit 0) ⟨[.slice (some ⟨0, 0, none⟩) n n, topV, topV, topV, topV, topV, topV, topV, topV, topV, topV, topV, topV, topV, topV, topV, topV, topV], [some ⟨.view, .ints xs⟩]⟩) (k .ret ⟨[topV, topV, .bool false, topV, topV, topV, topV, topV, topV, topV, topV, topV, topV, topV, topV, topV, topV, topV], [some ⟨.view, .ints xs⟩]⟩)))
  | _, _, _ => none
set_option maxRecDepth 100000 in
theorem round_ivHf (n : Nat) (xs : List Int) (hx : xs.length = n * 3) (h : n ≤ 1000000000) : Round_ivHf n xs := by
  intro i h1
  have h1 : i ≤ n := h1
  rw [tr_ivHf]
  simp only [brT_ok, Tree.ok, decide_eq_true_eq, decide_eq_false_iff_not, Int.toNat_natCast, Nat.zero_add, Bool.not_eq_true', Bool.not_eq_false']
  refine ⟨fun hlt => ⟨by omega, by omega, fun hv => ?_, fun hv => ?_⟩, fun hge => ?_⟩
  · have e : allQ (hfQ xs) i (n - i) = false := by rw [allQ_step (by omega)]; unfold hfQ; rw [hv, Bool.false_and]
    refine ⟨by simp only [re_ivHf, e, cond_false], [], ?_⟩
    simp only [rs_ivHf, e, cond_false]
    repeat' (first | exact True.intro | exact rfl | exact fun _ => rfl | refine And.intro ?_ ?_)
  · have e : allQ (hfQ xs) i (n - i) = allQ (hfQ xs) (i + 1) (n - (i + 1)) := by
      rw [allQ_step (by omega)]
      have : hfQ xs i = true := hv
      rw [this, Bool.true_and]
    rw [wsucc (n := n) (by omega) h]
    refine ⟨i + 1, [], ?_, ?_, by simp only [re_ivHf, e], by simp only [rs_ivHf, e], ?_⟩
    · show i + 1 ≤ n; omega
    · show n - (i + 1) < n - i; omega
    · repeat' (first | exact True.intro | exact rfl | exact fun _ => rfl | refine And.intro ?_ ?_)
  · have e : allQ (hfQ xs) i (n - i) = true := allQ_end (by omega)
    refine ⟨by simp only [re_ivHf, e, cond_true], [], ?_⟩
    simp only [rs_ivHf, e, cond_true]
    repeat' (first | exact True.intro | exact rfl | exact fun _ => rfl | refine And.intro ?_ ?_)
set_option maxRecDepth 100000 in
theorem lg_ivHf : LoopE Try.prog e_ivHf c_ivHf := by
  intro s k t F H hlt ht
  unfold e_ivHf at hlt
  split at hlt
  rotate_left
  · cases hlt
  rename_i hlen hpick hmem
  obtain ⟨tmps, mem⟩ := s
  simp only at hlen hpick hmem
  subst hmem
  obtain rfl := Option.some.inj hlt
  obtain ⟨⟨rfl, rfl, rfl, h1, h2, _⟩, ht2⟩ := needs_ok ht
  clear ht hlt
  refine ⟨_, _, pick2k ht2, loop_run mixed EHf_ok (s_ivHf _ _) (inv_ivHf _ _) (me_ivHf _ _) (re_ivHf _ _) (rs_ivHf _ _) k_ivHf (fun _ => rfl) (noLoops nl_ivHf) (round_ivHf _ _ h1 h2) (x := 0) (Nat.zero_le _) (π := []) rfl ?_⟩
  refine ⟨rfl, rfl, ?_, wvs_spread' [0, 5, 6, 7] hlen rfl ?_⟩
  · repeat' (first | exact True.intro | exact rfl | exact wv_top _ _ | exact fun _ => rfl | assumption | exact Eq.symm (by assumption) | exact vI0 rfl | refine And.intro ?_ ?_)
  · rw [hpick]
    repeat' (first | exact True.intro | exact rfl | exact wv_top _ _ | exact fun _ => rfl | assumption | exact Eq.symm (by assumption) | exact vI0 rfl | refine And.intro ?_ ?_)
end Go.Proofs.Ytfjcbindeimoiab
