/-
  Loops of MinFunc and MaxFunc over points in order; the loops of Collinear. Written by an AI agent.
-/
import Derived.Test.YtieibbdfdepmbaaFnX
import Derived.Test.YtieibbdfdepmbaaColl
namespace Go.Proofs.Ytieibbdfdepmbaa
set_option linter.all false
open Go.RowKit

set_option maxRecDepth 100000 in
theorem tr_comparePt (x y z w : Int) : bodyX Try.prog E7 30 12 69 [.v (.agg #[iv x, iv y]), .v (.agg #[iv z, iv w])] = .need ((0 : Int) ≤ (0 : Int) ∧ (0 : Int) < (↑(2 : Nat) : Int)) (brT (!cmpI x z == 0) (.fin (.int .i64 (cmpI x z)) [none, none, some ⟨.box, .vals [.int .i64 (x), .int .i64 (y)]⟩, some ⟨.box, .vals [.int .i64 (z), .int .i64 (w)]⟩, none, none, some ⟨.row 3 1, .vals [.int .i64 (cmpI x z), .int .i64 (cmpI y w)]⟩, none]) (.need ((0 : Int) ≤ IntKind.i64.wrap ((0 : Int) + (1 : Int)) ∧ IntKind.i64.wrap ((0 : Int) + (1 : Int)) < (↑(2 : Nat) : Int)) (brT (!cmpI y w == 0) (.fin (.int .i64 (cmpI y w)) [none, none, some ⟨.box, .vals [.int .i64 (x), .int .i64 (y)]⟩, some ⟨.box, .vals [.int .i64 (z), .int .i64 (w)]⟩, none, none, some ⟨.row 3 1, .vals [.int .i64 (cmpI x z), .int .i64 (cmpI y w)]⟩, none]) (.fin (.int .i64 (0)) [none, none, some ⟨.box, .vals [.int .i64 (x), .int .i64 (y)]⟩, some ⟨.box, .vals [.int .i64 (z), .int .i64 (w)]⟩, none, none, some ⟨.row 3 1, .vals [.int .i64 (cmpI x z), .int .i64 (cmpI y w)]⟩, none])))) := by kernel_rfl
def cmpP (x y z w : Int) : Int := if pltB (x, y) (z, w) then -1 else if pltB (z, w) (x, y) then 1 else 0
theorem res_comparePt (x y z w : Int) : Res Try.prog 69 [.v (.agg #[iv x, iv y]), .v (.agg #[iv z, iv w])] (iv (cmpP x y z w)) := by
  refine bodyX_res mixed E7_ok (m := 30) (n := 12) rfl ?_
  rw [tr_comparePt]
  have w1 : IntKind.i64.wrap ((0 : Int) + 1) = 1 := by decide
  simp only [brT_ok, Tree.ok, w1, Bool.not_eq_true', Bool.not_eq_false', beq_iff_eq, beq_eq_false_iff_ne]
  have key : ∀ a b : Int, (cmpI a b = -1 ∧ a < b) ∨ (cmpI a b = 0 ∧ a = b) ∨ (cmpI a b = 1 ∧ b < a) := by
    intro a b
    unfold cmpI
    split
    · exact .inl ⟨rfl, by assumption⟩
    · split
      · exact .inr (.inr ⟨rfl, by omega⟩)
      · exact .inr (.inl ⟨rfl, by omega⟩)
  have kp : (cmpP x y z w = -1 ∧ (x < z ∨ x = z ∧ y < w)) ∨ (cmpP x y z w = 0 ∧ x = z ∧ y = w) ∨ (cmpP x y z w = 1 ∧ (z < x ∨ x = z ∧ w < y)) := by
    unfold cmpP
    simp only [pltB_iff]
    split
    · exact .inl ⟨rfl, by assumption⟩
    · split
      · exact .inr (.inr ⟨rfl, by omega⟩)
      · exact .inr (.inl ⟨rfl, by omega⟩)
  have k1 := key x z
  have k2 := key y w
  refine ⟨by omega, fun h => vint_eq (by omega), fun h => ⟨by omega, fun h2 => vint_eq (by omega), fun h2 => vint_eq (by omega)⟩⟩
def pCmpPt : List DArg → Option (Value × List Prop)
  | [.v (.agg ⟨[.int .i64 x, .int .i64 y]⟩), .v (.agg ⟨[.int .i64 z, .int .i64 w]⟩)] => some (iv (cmpP x y z w), [])
  | _ => none
def T5' : Tab := fun f ds => match f with
  | 69 => pCmpPt ds
  | f => T4' f ds
theorem T5'_ok : TabOk Try.prog T5' := by
  intro f ds v C h hC
  unfold T5' at h
  split at h
  · unfold pCmpPt at h
    split at h
    · obtain ⟨rfl, rfl⟩ : _ ∧ _ := by simpa using h
      exact res_comparePt _ _ _ _
    · cases h
  · exact T4'_ok _ _ _ _ h hC
def E8 : Env := mkE (T5') (R4) (fun _ => noL)
theorem E8_ok : EnvOk Try.prog E8 := mkEOk (T5'_ok) (R4_ok) (fun _ _ _ => noL_good)
noncomputable def c_minF : Code := ((loopsOf (codeOf Try.f68))[0]?).getD .skip
def k_minF : Ex → List Nat := keeps [0, 1, 4, 5, 6] [(0, [4, 5])] [4]
def s_minF (ps : List Pt) : Nat × Pt → St := fun (i, m) => ⟨(.slice (some ⟨0, 0, none⟩) ps.length ps.length :: .func (.func 69) #[] #[] :: topV :: topV :: .pointer (some ⟨2, 0, none⟩) :: .pointer (some ⟨3, 0, none⟩) :: .int .i64 i :: topV :: topV :: topV :: topV :: topV :: topV :: topV :: topV :: topV :: topV :: topV :: topV :: topV :: topV :: topV :: topV :: topV :: topV :: topV :: topV :: topV :: topV :: topV :: topV :: topV :: topV :: []), [some ⟨.view, .ints (flat ps)⟩, none, some ⟨.box, .vals [.int .i64 0, .int .i64 0]⟩, some ⟨.box, .vals [.int .i64 m.1, .int .i64 m.2]⟩]⟩
def re_minF : Nat × Pt → Ex := fun _ => .exit 0
def rs_minF (ps : List Pt) : Nat × Pt → St := fun (i, m) => ⟨(topV :: topV :: topV :: topV :: .pointer (some ⟨2, 0, none⟩) :: .pointer (some ⟨3, 0, none⟩) :: topV :: topV :: topV :: topV :: topV :: topV :: topV :: topV :: topV :: topV :: topV :: topV :: topV :: topV :: topV :: topV :: topV :: topV :: topV :: topV :: topV :: topV :: topV :: topV :: topV :: topV :: topV :: []), [some ⟨.view, .ints (flat ps)⟩, none, some ⟨.box, .vals [.int .i64 0, .int .i64 0]⟩, some ⟨.box, .vals [.int .i64 (minL m (ps.drop i)).1, .int .i64 (minL m (ps.drop i)).2]⟩]⟩
set_option maxRecDepth 100000 in
theorem tr_minF (ps : List Pt) (i : Nat) (m : Pt) : bodyL Try.prog E8 30 12 noL 1 c_minF k_minF 4 (s_minF ps (i, m)) = brT (decide ((↑i : Int) < (↑ps.length : Int))) (.need ((0 : Int) ≤ (↑i : Int) ∧ (↑i : Int) < (↑ps.length : Int)) (.need ((0 : Nat) + (↑i : Int).toNat * (2 : Nat) + (2 : Nat) ≤ (flat ps).length) (brT (decide (cmpP ((flat ps).getD (0 + (↑i : Int).toNat * 2) 0) ((flat ps).getD (0 + (↑i : Int).toNat * 2 + 1) 0) m.1 m.2 < 0)) (.need ((0 : Int) ≤ (↑i : Int) ∧ (↑i : Int) < (↑ps.length : Int)) (.need ((0 : Nat) + (↑i : Int).toNat * (2 : Nat) + (2 : Nat) ≤ (flat ps).length) (.leaf .normal ⟨(.slice (some ⟨0, 0, none⟩) (ps.length) (ps.length) :: .func (Fn.func 69) #[] #[] :: topV :: topV :: .pointer (some ⟨2, 0, none⟩) :: .pointer (some ⟨3, 0, none⟩) :: .int .i64 (IntKind.i64.wrap ((↑i : Int) + 1)) :: topV :: topV :: topV :: topV :: topV :: topV :: topV :: topV :: topV :: topV :: topV :: topV :: topV :: topV :: topV :: topV :: topV :: topV :: topV :: topV :: topV :: topV :: topV :: topV :: topV :: topV :: []), [some ⟨.view, .ints (flat ps)⟩, none, some ⟨.box, .vals [.int .i64 (0), .int .i64 (0)]⟩, some ⟨.box, .vals [.int .i64 ((flat ps).getD (0 + (↑i : Int).toNat * 2) 0), .int .i64 ((flat ps).getD (0 + (↑i : Int).toNat * 2 + 1) 0)]⟩]⟩))) (.leaf .normal ⟨(.slice (some ⟨0, 0, none⟩) (ps.length) (ps.length) :: .func (Fn.func 69) #[] #[] :: topV :: topV :: .pointer (some ⟨2, 0, none⟩) :: .pointer (some ⟨3, 0, none⟩) :: .int .i64 (IntKind.i64.wrap ((↑i : Int) + 1)) :: topV :: topV :: topV :: topV :: topV :: topV :: topV :: topV :: topV :: topV :: topV :: topV :: topV :: topV :: topV :: topV :: topV :: topV :: topV :: topV :: topV :: topV :: topV :: topV :: topV :: topV :: []), [some ⟨.view, .ints (flat ps)⟩, none, some ⟨.box, .vals [.int .i64 (0), .int .i64 (0)]⟩, some ⟨.box, .vals [.int .i64 (m.1), .int .i64 (m.2)]⟩]⟩)))) (.leaf (.exit 0) ⟨(topV :: topV :: topV :: topV :: .pointer (some ⟨2, 0, none⟩) :: .pointer (some ⟨3, 0, none⟩) :: topV :: topV :: topV :: topV :: topV :: topV :: topV :: topV :: topV :: topV :: topV :: topV :: topV :: topV :: topV :: topV :: topV :: topV :: topV :: topV :: topV :: topV :: topV :: topV :: topV :: topV :: topV :: []), [some ⟨.view, .ints (flat ps)⟩, none, some ⟨.box, .vals [.int .i64 (0), .int .i64 (0)]⟩, some ⟨.box, .vals [.int .i64 (m.1), .int .i64 (m.2)]⟩]⟩) := by kernel_rfl
set_option maxRecDepth 100000 in
theorem nl_minF : loopsOf c_minF = [] := by kernel_rfl
def inv_minF (ps : List Pt) : Nat × Pt → Prop := fun (i, m) => i ≤ ps.length
def me_minF (ps : List Pt) : Nat × Pt → Nat := fun (i, m) => ps.length - i
/-- A round of this loop. -/
def Round_minF (ps : List Pt) : Prop := ∀ xx : Nat × Pt, inv_minF ps xx → (bodyL Try.prog E8 30 12 noL 1 c_minF k_minF 4 (s_minF ps xx)).ok (RoundEnd 4 (s_minF ps) (inv_minF ps) (me_minF ps) re_minF (rs_minF ps) xx) (fun _ _ => False)
def e_minF (s : St) (k : Ex → St → Tree) : Option Tree := match Nat.beq s.tmps.length 33, pickL s.tmps [0, 1, 4, 5, 6], s.mem with
  | true, [.slice (some ⟨0, 0, none⟩) n _, .func (.func 69) ⟨[]⟩ ⟨[]⟩, .pointer (some ⟨2, 0, none⟩), .pointer (some ⟨3, 0, none⟩), .int .i64 i], [some ⟨.view, .ints xs⟩, none, some ⟨.box, .vals [.int .i64 z1, .int .i64 z2]⟩, some ⟨.box, .vals [.int .i64 x, .int .i64 y]⟩] => some (needs [i = 1, z1 = 0, z2 = 0, xs.length = n * 2, n ≤ 1000000000, 0 < n] (k (.exit 0) ⟨(topV :: topV :: topV :: topV :: .pointer (some ⟨2, 0, none⟩) :: .pointer (some ⟨3, 0, none⟩) :: topV :: topV :: topV :: topV :: topV :: topV :: topV :: topV :: topV :: topV :: topV :: topV :: topV :: topV :: topV :: topV :: topV :: topV :: topV :: topV :: topV :: topV :: topV :: topV :: topV :: topV :: topV :: []), [some ⟨.view, .ints xs⟩, none, some ⟨.box, .vals [.int .i64 0, .int .i64 0]⟩, some ⟨.box, .vals [.int .i64 (minL (x, y) ((ptsA n xs).drop 1)).1, .int .i64 (minL (x, y) ((ptsA n xs).drop 1)).2]⟩]⟩))
  | _, _, _ => none
set_option maxRecDepth 100000 in
theorem round_minF (ps : List Pt) (h : ps.length ≤ 1000000000) : Round_minF ps := by
  rintro ⟨i, m⟩ h1
  simp only [inv_minF] at h1
  rw [tr_minF]
  simp only [brT_ok, Tree.ok, decide_eq_true_eq, decide_eq_false_iff_not, Int.toNat_natCast, Nat.zero_add, flat_length, flat_get0, flat_get1]
  refine ⟨fun hlt => ?_, fun hge => ?_⟩
  · have hd : ps.drop i = ps.getD i (0, 0) :: ps.drop (i + 1) := drop_cons (by omega) _
    rw [wsucc (n := ps.length) (by omega) h]
    refine ⟨by omega, by omega, fun hle => ⟨by omega, by omega, ?_⟩, fun hle => ?_⟩
    · have e : pltB (ps.getD i (0, 0)) m = true := by
        unfold cmpP at hle
        by_cases hp : pltB (ps.getD i (0, 0)) m = true
        · exact hp
        · exfalso
          rw [if_neg hp] at hle
          split at hle <;> omega
      refine ⟨(i + 1, ps.getD i (0, 0)), [], by show i + 1 ≤ ps.length; omega, ?_, rfl, ?_, ?_⟩
      · show ps.length - (i + 1) < ps.length - i; omega
      · have em : minL m (ps.drop i) = minL (ps.getD i (0, 0)) (ps.drop (i + 1)) := by
          rw [hd]
          show minL (if pltB (ps.getD i (0, 0)) m then ps.getD i (0, 0) else m) (ps.drop (i + 1)) = _
          rw [if_pos e]
        simp only [rs_minF, em]
      · repeat' (first | exact True.intro | exact rfl | exact fun _ => rfl | refine And.intro ?_ ?_)
    · have e : ¬ pltB (ps.getD i (0, 0)) m = true := by
        unfold cmpP at hle
        intro hp
        rw [if_pos hp] at hle
        omega
      refine ⟨(i + 1, m), [], by show i + 1 ≤ ps.length; omega, ?_, rfl, ?_, ?_⟩
      · show ps.length - (i + 1) < ps.length - i; omega
      · have em : minL m (ps.drop i) = minL m (ps.drop (i + 1)) := by
          rw [hd]
          show minL (if pltB (ps.getD i (0, 0)) m then ps.getD i (0, 0) else m) (ps.drop (i + 1)) = _
          rw [if_neg e]
        simp only [rs_minF, em]
      · repeat' (first | exact True.intro | exact rfl | exact fun _ => rfl | refine And.intro ?_ ?_)
  · refine ⟨rfl, [], ?_⟩
    have em : minL m (ps.drop i) = m := by rw [List.drop_of_length_le (by omega)]; rfl
    simp only [rs_minF, em]
    repeat' (first | exact True.intro | exact rfl | exact fun _ => rfl | refine And.intro ?_ ?_)
set_option maxRecDepth 100000 in
theorem lg_minF : LoopE Try.prog e_minF c_minF := by
  intro s k t F H hlt ht
  unfold e_minF at hlt
  split at hlt
  rotate_left
  · cases hlt
  rename_i hlen hpick hmem
  obtain ⟨tmps, mem⟩ := s
  simp only at hlen hpick hmem
  subst hmem
  obtain rfl := Option.some.inj hlt
  obtain ⟨⟨rfl, rfl, rfl, h1, h2, h3, _⟩, ht2⟩ := needs_ok ht
  clear ht hlt
  obtain ⟨ps, rfl, rfl⟩ := even_flat h1
  rw [ptsA_flat] at ht2
  refine ⟨_, _, ht2, loop_run mixed E8_ok (s_minF ps) (inv_minF ps) (me_minF ps) re_minF (rs_minF ps) k_minF (fun _ => rfl) (noLoops nl_minF) (round_minF ps h2) (x := (1, (_, _))) h3 (π := []) rfl ?_⟩
  refine ⟨rfl, rfl, ?_, wvs_spread' [0, 1, 4, 5, 6] hlen rfl ?_⟩
  · repeat' (first | exact True.intro | exact rfl | exact wv_top _ _ | exact fun _ => rfl | assumption | exact Eq.symm (by assumption) | exact vI0 rfl | refine And.intro ?_ ?_)
  · rw [hpick]
    repeat' (first | exact True.intro | exact rfl | exact wv_top _ _ | exact fun _ => rfl | assumption | exact Eq.symm (by assumption) | exact vI0 rfl | refine And.intro ?_ ?_)
noncomputable def c_maxF : Code := ((loopsOf (codeOf Try.f77))[0]?).getD .skip
def k_maxF : Ex → List Nat := keeps [0, 1, 4, 5, 6] [(0, [4, 5])] [4]
def s_maxF (ps : List Pt) : Nat × Pt → St := fun (i, m) => ⟨(.slice (some ⟨0, 0, none⟩) ps.length ps.length :: .func (.func 69) #[] #[] :: topV :: topV :: .pointer (some ⟨2, 0, none⟩) :: .pointer (some ⟨3, 0, none⟩) :: .int .i64 i :: topV :: topV :: topV :: topV :: topV :: topV :: topV :: topV :: topV :: topV :: topV :: topV :: topV :: topV :: topV :: topV :: topV :: topV :: topV :: topV :: topV :: topV :: topV :: topV :: topV :: topV :: []), [some ⟨.view, .ints (flat ps)⟩, none, some ⟨.box, .vals [.int .i64 0, .int .i64 0]⟩, some ⟨.box, .vals [.int .i64 m.1, .int .i64 m.2]⟩]⟩
def re_maxF : Nat × Pt → Ex := fun _ => .exit 0
def rs_maxF (ps : List Pt) : Nat × Pt → St := fun (i, m) => ⟨(topV :: topV :: topV :: topV :: .pointer (some ⟨2, 0, none⟩) :: .pointer (some ⟨3, 0, none⟩) :: topV :: topV :: topV :: topV :: topV :: topV :: topV :: topV :: topV :: topV :: topV :: topV :: topV :: topV :: topV :: topV :: topV :: topV :: topV :: topV :: topV :: topV :: topV :: topV :: topV :: topV :: topV :: []), [some ⟨.view, .ints (flat ps)⟩, none, some ⟨.box, .vals [.int .i64 0, .int .i64 0]⟩, some ⟨.box, .vals [.int .i64 (maxL m (ps.drop i)).1, .int .i64 (maxL m (ps.drop i)).2]⟩]⟩
set_option maxRecDepth 100000 in
theorem tr_maxF (ps : List Pt) (i : Nat) (m : Pt) : bodyL Try.prog E8 30 12 noL 1 c_maxF k_maxF 4 (s_maxF ps (i, m)) = brT (decide ((↑i : Int) < (↑ps.length : Int))) (.need ((0 : Int) ≤ (↑i : Int) ∧ (↑i : Int) < (↑ps.length : Int)) (.need ((0 : Nat) + (↑i : Int).toNat * (2 : Nat) + (2 : Nat) ≤ (flat ps).length) (brT (decide (0 < cmpP ((flat ps).getD (0 + (↑i : Int).toNat * 2) 0) ((flat ps).getD (0 + (↑i : Int).toNat * 2 + 1) 0) m.1 m.2)) (.need ((0 : Int) ≤ (↑i : Int) ∧ (↑i : Int) < (↑ps.length : Int)) (.need ((0 : Nat) + (↑i : Int).toNat * (2 : Nat) + (2 : Nat) ≤ (flat ps).length) (.leaf .normal ⟨(.slice (some ⟨0, 0, none⟩) (ps.length) (ps.length) :: .func (Fn.func 69) #[] #[] :: topV :: topV :: .pointer (some ⟨2, 0, none⟩) :: .pointer (some ⟨3, 0, none⟩) :: .int .i64 (IntKind.i64.wrap ((↑i : Int) + 1)) :: topV :: topV :: topV :: topV :: topV :: topV :: topV :: topV :: topV :: topV :: topV :: topV :: topV :: topV :: topV :: topV :: topV :: topV :: topV :: topV :: topV :: topV :: topV :: topV :: topV :: topV :: []), [some ⟨.view, .ints (flat ps)⟩, none, some ⟨.box, .vals [.int .i64 (0), .int .i64 (0)]⟩, some ⟨.box, .vals [.int .i64 ((flat ps).getD (0 + (↑i : Int).toNat * 2) 0), .int .i64 ((flat ps).getD (0 + (↑i : Int).toNat * 2 + 1) 0)]⟩]⟩))) (.leaf .normal ⟨(.slice (some ⟨0, 0, none⟩) (ps.length) (ps.length) :: .func (Fn.func 69) #[] #[] :: topV :: topV :: .pointer (some ⟨2, 0, none⟩) :: .pointer (some ⟨3, 0, none⟩) :: .int .i64 (IntKind.i64.wrap ((↑i : Int) + 1)) :: topV :: topV :: topV :: topV :: topV :: topV :: topV :: topV :: topV :: topV :: topV :: topV :: topV :: topV :: topV :: topV :: topV :: topV :: topV :: topV :: topV :: topV :: topV :: topV :: topV :: topV :: []), [some ⟨.view, .ints (flat ps)⟩, none, some ⟨.box, .vals [.int .i64 (0), .int .i64 (0)]⟩, some ⟨.box, .vals [.int .i64 (m.1), .int .i64 (m.2)]⟩]⟩)))) (.leaf (.exit 0) ⟨(topV :: topV :: topV :: topV :: .pointer (some ⟨2, 0, none⟩) :: .pointer (some ⟨3, 0, none⟩) :: topV :: topV :: topV :: topV :: topV :: topV :: topV :: topV :: topV :: topV :: topV :: topV :: topV :: topV :: topV :: topV :: topV :: topV :: topV :: topV :: topV :: topV :: topV :: topV :: topV :: topV :: topV :: []), [some ⟨.view, .ints (flat ps)⟩, none, some ⟨.box, .vals [.int .i64 (0), .int .i64 (0)]⟩, some ⟨.box, .vals [.int .i64 (m.1), .int .i64 (m.2)]⟩]⟩) := by kernel_rfl
set_option maxRecDepth 100000 in
theorem nl_maxF : loopsOf c_maxF = [] := by kernel_rfl
def inv_maxF (ps : List Pt) : Nat × Pt → Prop := fun (i, m) => i ≤ ps.length
def me_maxF (ps : List Pt) : Nat × Pt → Nat := fun (i, m) => ps.length - i
/-- A round of this loop. -/
def Round_maxF (ps : List Pt) : Prop := ∀ xx : Nat × Pt, inv_maxF ps xx → (bodyL Try.prog E8 30 12 noL 1 c_maxF k_maxF 4 (s_maxF ps xx)).ok (RoundEnd 4 (s_maxF ps) (inv_maxF ps) (me_maxF ps) re_maxF (rs_maxF ps) xx) (fun _ _ => False)
def e_maxF (s : St) (k : Ex → St → Tree) : Option Tree := match Nat.beq s.tmps.length 33, pickL s.tmps [0, 1, 4, 5, 6], s.mem with
  | true, [.slice (some ⟨0, 0, none⟩) n _, .func (.func 69) ⟨[]⟩ ⟨[]⟩, .pointer (some ⟨2, 0, none⟩), .pointer (some ⟨3, 0, none⟩), .int .i64 i], [some ⟨.view, .ints xs⟩, none, some ⟨.box, .vals [.int .i64 z1, .int .i64 z2]⟩, some ⟨.box, .vals [.int .i64 x, .int .i64 y]⟩] => some (needs [i = 1, z1 = 0, z2 = 0, xs.length = n * 2, n ≤ 1000000000, 0 < n] (k (.exit 0) ⟨(topV :: topV :: topV :: topV :: .pointer (some ⟨2, 0, none⟩) :: .pointer (some ⟨3, 0, none⟩) :: topV :: topV :: topV :: topV :: topV :: topV :: topV :: topV :: topV :: topV :: topV :: topV :: topV :: topV :: topV :: topV :: topV :: topV :: topV :: topV :: topV :: topV :: topV :: topV :: topV :: topV :: topV :: []), [some ⟨.view, .ints xs⟩, none, some ⟨.box, .vals [.int .i64 0, .int .i64 0]⟩, some ⟨.box, .vals [.int .i64 (maxL (x, y) ((ptsA n xs).drop 1)).1, .int .i64 (maxL (x, y) ((ptsA n xs).drop 1)).2]⟩]⟩))
  | _, _, _ => none
set_option maxRecDepth 100000 in
theorem round_maxF (ps : List Pt) (h : ps.length ≤ 1000000000) : Round_maxF ps := by
  rintro ⟨i, m⟩ h1
  simp only [inv_maxF] at h1
  rw [tr_maxF]
  simp only [brT_ok, Tree.ok, decide_eq_true_eq, decide_eq_false_iff_not, Int.toNat_natCast, Nat.zero_add, flat_length, flat_get0, flat_get1]
  refine ⟨fun hlt => ?_, fun hge => ?_⟩
  · have hd : ps.drop i = ps.getD i (0, 0) :: ps.drop (i + 1) := drop_cons (by omega) _
    have key : 0 < cmpP (ps.getD i (0, 0)).1 (ps.getD i (0, 0)).2 m.1 m.2 ↔ pltB m (ps.getD i (0, 0)) = true := by
      unfold cmpP
      simp only [pltB_iff]
      split
      · omega
      · split <;> omega
    rw [wsucc (n := ps.length) (by omega) h]
    refine ⟨by omega, by omega, fun hle => ⟨by omega, by omega, ?_⟩, fun hle => ?_⟩
    · have e := key.1 hle
      refine ⟨(i + 1, ps.getD i (0, 0)), [], by show i + 1 ≤ ps.length; omega, ?_, rfl, ?_, ?_⟩
      · show ps.length - (i + 1) < ps.length - i; omega
      · have em : maxL m (ps.drop i) = maxL (ps.getD i (0, 0)) (ps.drop (i + 1)) := by
          rw [hd]
          show maxL (if pltB m (ps.getD i (0, 0)) then ps.getD i (0, 0) else m) (ps.drop (i + 1)) = _
          rw [if_pos e]
        simp only [rs_maxF, em]
      · repeat' (first | exact True.intro | exact rfl | exact fun _ => rfl | refine And.intro ?_ ?_)
    · have e : ¬ pltB m (ps.getD i (0, 0)) = true := fun h => hle (key.2 h)
      refine ⟨(i + 1, m), [], by show i + 1 ≤ ps.length; omega, ?_, rfl, ?_, ?_⟩
      · show ps.length - (i + 1) < ps.length - i; omega
      · have em : maxL m (ps.drop i) = maxL m (ps.drop (i + 1)) := by
          rw [hd]
          show maxL (if pltB m (ps.getD i (0, 0)) then ps.getD i (0, 0) else m) (ps.drop (i + 1)) = _
          rw [if_neg e]
        simp only [rs_maxF, em]
      · repeat' (first | exact True.intro | exact rfl | exact fun _ => rfl | refine And.intro ?_ ?_)
  · refine ⟨rfl, [], ?_⟩
    have em : maxL m (ps.drop i) = m := by rw [List.drop_of_length_le (by omega)]; rfl
    simp only [rs_maxF, em]
    repeat' (first | exact True.intro | exact rfl | exact fun _ => rfl | refine And.intro ?_ ?_)
set_option maxRecDepth 100000 in
theorem lg_maxF : LoopE Try.prog e_maxF c_maxF := by
  intro s k t F H hlt ht
  unfold e_maxF at hlt
  split at hlt
  rotate_left
  · cases hlt
  rename_i hlen hpick hmem
  obtain ⟨tmps, mem⟩ := s
  simp only at hlen hpick hmem
  subst hmem
  obtain rfl := Option.some.inj hlt
  obtain ⟨⟨rfl, rfl, rfl, h1, h2, h3, _⟩, ht2⟩ := needs_ok ht
  clear ht hlt
  obtain ⟨ps, rfl, rfl⟩ := even_flat h1
  rw [ptsA_flat] at ht2
  refine ⟨_, _, ht2, loop_run mixed E8_ok (s_maxF ps) (inv_maxF ps) (me_maxF ps) re_maxF (rs_maxF ps) k_maxF (fun _ => rfl) (noLoops nl_maxF) (round_maxF ps h2) (x := (1, (_, _))) h3 (π := []) rfl ?_⟩
  refine ⟨rfl, rfl, ?_, wvs_spread' [0, 1, 4, 5, 6] hlen rfl ?_⟩
  · repeat' (first | exact True.intro | exact rfl | exact wv_top _ _ | exact fun _ => rfl | assumption | exact Eq.symm (by assumption) | exact vI0 rfl | refine And.intro ?_ ?_)
  · rw [hpick]
    repeat' (first | exact True.intro | exact rfl | exact wv_top _ _ | exact fun _ => rfl | assumption | exact Eq.symm (by assumption) | exact vI0 rfl | refine And.intro ?_ ?_)
end Go.Proofs.Ytieibbdfdepmbaa
