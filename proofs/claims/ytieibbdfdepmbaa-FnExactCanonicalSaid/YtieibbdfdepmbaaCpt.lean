/-
  slices.Compact at points: a row taken over and handed back. Written by an AI agent.
-/
import Derived.Test.YtieibbdfdepmbaaSrt
import Derived.Test.YtieibbdfdepmbaaAq
namespace Go.Proofs.Ytieibbdfdepmbaa
set_option linter.all false
open Go.RowKit

/-- The first m points, each once where equal ones stand side by side. -/
def cmN (ps : List Pt) : Nat → List Pt
  | 0 => []
  | m + 1 => if m = 0 ∨ ps.getD m (0, 0) ≠ ps.getD (m - 1) (0, 0) then cmN ps m ++ [ps.getD m (0, 0)] else cmN ps m
def cmP (ps : List Pt) : List Pt := cmN ps ps.length
def dupA (ps : List Pt) (i : Nat) : Bool := ps.getD i (0, 0) == ps.getD (i - 1) (0, 0)
theorem cmN_le (ps : List Pt) : ∀ m, (cmN ps m).length ≤ m
  | 0 => Nat.le_refl _
  | m + 1 => by
    have := cmN_le ps m
    simp only [cmN]
    split
    · simp; omega
    · omega
theorem cmN_take {ps : List Pt} : ∀ m, m ≤ ps.length → (∀ j, 1 ≤ j → j < m → dupA ps j = false) → cmN ps m = ps.take m
  | 0, _, _ => rfl
  | m + 1, hm, h => by
    have ih := cmN_take m (by omega) fun j h1 h2 => h j h1 (by omega)
    simp only [cmN]
    have ht : ps.take (m + 1) = ps.take m ++ [ps.getD m (0, 0)] := by
      rw [List.take_add_one]
      simp [List.getD, show m < ps.length by omega]
    rw [ht, ← ih]
    rcases Nat.eq_zero_or_pos m with h0 | h0
    · rw [if_pos (.inl h0)]
    · have := h m h0 (by omega)
      unfold dupA at this
      rw [beq_eq_false_iff_ne] at this
      rw [if_pos (.inr this)]
def ECp : Env := tabE B0
theorem ECp_ok : EnvOk Try.prog ECp := tabE_ok B0_ok
noncomputable def c_cpI : Code := ((loopsOf (codeOf Try.f79))[1]?).getD .skip
def k_cpI : Ex → List Nat := keeps [0, 3, 4, 5] [(2, [0, 3]), (1, [0, 3]), (0, [0])] [2]
def s_cpI (ps : List Pt) (k0 : Nat) : Nat × Nat × (List Pt) → St := fun (j, q, X) => ⟨(.slice (some ⟨0, 0, none⟩) ps.length ps.length :: topV :: topV :: .int .i64 q :: .slice (some ⟨0, k0 * 2, none⟩) (ps.length - k0) (ps.length - k0) :: .int .i64 j :: topV :: topV :: topV :: topV :: topV :: topV :: topV :: topV :: topV :: topV :: topV :: topV :: topV :: topV :: topV :: topV :: topV :: topV :: topV :: topV :: topV :: topV :: topV :: topV :: topV :: topV :: topV :: topV :: topV :: topV :: topV :: topV :: topV :: topV :: topV :: topV :: topV :: topV :: topV :: topV :: topV :: topV :: topV :: topV :: topV :: topV :: topV :: topV :: topV :: topV :: topV :: topV :: topV :: topV :: topV :: []), [some ⟨.row 32 2, .ints (flat X)⟩]⟩
def re_cpI : Nat × Nat × (List Pt) → Ex := fun _ => .exit 2
def rs_cpI (ps : List Pt) (k0 : Nat) : Nat × Nat × (List Pt) → St := fun (j, q, X) => ⟨(.slice (some ⟨0, 0, none⟩) ps.length ps.length :: topV :: topV :: .int .i64 ((cmN ps ps.length).length : Nat) :: topV :: topV :: topV :: topV :: topV :: topV :: topV :: topV :: topV :: topV :: topV :: topV :: topV :: topV :: topV :: topV :: topV :: topV :: topV :: topV :: topV :: topV :: topV :: topV :: topV :: topV :: topV :: topV :: topV :: topV :: topV :: topV :: topV :: topV :: topV :: topV :: topV :: topV :: topV :: topV :: topV :: topV :: topV :: topV :: topV :: topV :: topV :: topV :: topV :: topV :: topV :: topV :: topV :: topV :: topV :: topV :: topV :: []), [some ⟨.row 32 2, .ints (flat (cmN ps ps.length ++ ps.drop (cmN ps ps.length).length))⟩]⟩
set_option maxRecDepth 100000 in
theorem tr_cpI (ps : List Pt) (k0 : Nat) (j q : Nat) (X : List Pt) : bodyL Try.prog ECp 30 12 noL 2 c_cpI k_cpI 1 (s_cpI ps k0 (j, q, X)) = brT (decide ((↑j : Int) < (↑(ps.length - k0) : Int))) (.need ((0 : Int) ≤ (↑j : Int) ∧ (↑j : Int) < (↑(ps.length - k0) : Int)) (.need (k0 * (2 : Nat) + (↑j : Int).toNat * (2 : Nat) + (2 : Nat) ≤ (flat X).length) (.need ((0 : Int) ≤ IntKind.i64.wrap ((↑j : Int) - (1 : Int)) ∧ IntKind.i64.wrap ((↑j : Int) - (1 : Int)) < (↑(ps.length - k0) : Int)) (.need (k0 * (2 : Nat) + (IntKind.i64.wrap ((↑j : Int) - (1 : Int))).toNat * (2 : Nat) + (2 : Nat) ≤ (flat X).length) (brT (negB true ((flat X).getD (k0 * 2 + (↑j : Int).toNat * 2) 0 == (flat X).getD (k0 * 2 + (IntKind.i64.wrap ((↑j : Int) - 1)).toNat * 2) 0 && ((flat X).getD (k0 * 2 + (↑j : Int).toNat * 2 + 1) 0 == (flat X).getD (k0 * 2 + (IntKind.i64.wrap ((↑j : Int) - 1)).toNat * 2 + 1) 0 && true))) (.need ((0 : Int) ≤ (↑j : Int) ∧ (↑j : Int) < (↑(ps.length - k0) : Int)) (.need (k0 * (2 : Nat) + (↑j : Int).toNat * (2 : Nat) + (2 : Nat) ≤ (flat X).length) (.need ((0 : Int) ≤ (↑q : Int) ∧ (↑q : Int) < (↑ps.length : Int)) (.need ((0 : Nat) + (↑q : Int).toNat * (2 : Nat) + (2 : Nat) ≤ (flat X).length) (.leaf .normal ⟨(.slice (some ⟨0, 0, none⟩) (ps.length) (ps.length) :: topV :: topV :: .int .i64 (IntKind.i64.wrap ((↑q : Int) + 1)) :: .slice (some ⟨0, k0 * 2, none⟩) (ps.length - k0) (ps.length - k0) :: .int .i64 (IntKind.i64.wrap ((↑j : Int) + 1)) :: topV :: topV :: topV :: topV :: topV :: topV :: topV :: topV :: topV :: topV :: topV :: topV :: topV :: topV :: topV :: topV :: topV :: topV :: topV :: topV :: topV :: topV :: topV :: topV :: topV :: topV :: topV :: topV :: topV :: topV :: topV :: topV :: topV :: topV :: topV :: topV :: topV :: topV :: topV :: topV :: topV :: topV :: topV :: topV :: topV :: topV :: topV :: topV :: topV :: topV :: topV :: topV :: topV :: topV :: topV :: []), [some ⟨.row 32 2, .ints (setInts (flat X) (0 + (↑q : Int).toNat * 2) [(flat X).getD (k0 * 2 + (↑j : Int).toNat * 2) 0, (flat X).getD (k0 * 2 + (↑j : Int).toNat * 2 + 1) 0])⟩]⟩))))) (.leaf .normal ⟨(.slice (some ⟨0, 0, none⟩) (ps.length) (ps.length) :: topV :: topV :: .int .i64 ((↑q : Int)) :: .slice (some ⟨0, k0 * 2, none⟩) (ps.length - k0) (ps.length - k0) :: .int .i64 (IntKind.i64.wrap ((↑j : Int) + 1)) :: topV :: topV :: topV :: topV :: topV :: topV :: topV :: topV :: topV :: topV :: topV :: topV :: topV :: topV :: topV :: topV :: topV :: topV :: topV :: topV :: topV :: topV :: topV :: topV :: topV :: topV :: topV :: topV :: topV :: topV :: topV :: topV :: topV :: topV :: topV :: topV :: topV :: topV :: topV :: topV :: topV :: topV :: topV :: topV :: topV :: topV :: topV :: topV :: topV :: topV :: topV :: topV :: topV :: topV :: topV :: []), [some ⟨.row 32 2, .ints (flat X)⟩]⟩)))))) (.leaf (.exit 2) ⟨(.slice (some ⟨0, 0, none⟩) (ps.length) (ps.length) :: topV :: topV :: .int .i64 ((↑q : Int)) :: topV :: topV :: topV :: topV :: topV :: topV :: topV :: topV :: topV :: topV :: topV :: topV :: topV :: topV :: topV :: topV :: topV :: topV :: topV :: topV :: topV :: topV :: topV :: topV :: topV :: topV :: topV :: topV :: topV :: topV :: topV :: topV :: topV :: topV :: topV :: topV :: topV :: topV :: topV :: topV :: topV :: topV :: topV :: topV :: topV :: topV :: topV :: topV :: topV :: topV :: topV :: topV :: topV :: topV :: topV :: topV :: topV :: []), [some ⟨.row 32 2, .ints (flat X)⟩]⟩) := by kernel_rfl
set_option maxRecDepth 100000 in
theorem nl_cpI : loopsOf c_cpI = [] := by kernel_rfl
def inv_cpI (ps : List Pt) (k0 : Nat) : Nat × Nat × (List Pt) → Prop := fun (j, q, X) => 1 ≤ j ∧ k0 + j ≤ ps.length ∧ q ≤ k0 + j - 1 ∧ q = (cmN ps (k0 + j)).length ∧ X = cmN ps (k0 + j) ++ ps.drop q
def me_cpI (ps : List Pt) (k0 : Nat) : Nat × Nat × (List Pt) → Nat := fun (j, q, X) => ps.length - (k0 + j)
/-- A round of this loop. -/
def Round_cpI (ps : List Pt) (k0 : Nat) : Prop := ∀ xx : Nat × Nat × (List Pt), inv_cpI ps k0 xx → (bodyL Try.prog ECp 30 12 noL 2 c_cpI k_cpI 1 (s_cpI ps k0 xx)).ok (RoundEnd 1 (s_cpI ps k0) (inv_cpI ps k0) (me_cpI ps k0) re_cpI (rs_cpI ps k0) xx) (fun _ _ => False)
def e_cpI (s : St) (k : Ex → St → Tree) : Option Tree := match Nat.beq s.tmps.length 61, pickL s.tmps [0, 3, 4, 5], s.mem with
  | true, [.slice (some ⟨0, 0, none⟩) n _, .int .i64 kk, .slice (some ⟨0, o, none⟩) l _, .int .i64 k2], [some ⟨.row 32 2, .ints xs⟩] => some (needs [k2 = 1, xs.length = n * 2, 0 ≤ kk, 1 ≤ kk ∧ kk < n, o = kk.toNat * 2, l = n - kk.toNat, dupA (ptsA n xs) kk.toNat = true, (∀ j, 1 ≤ j → j < kk.toNat → dupA (ptsA n xs) j = false), n ≤ 1000000000] (k (.exit 2) ⟨(.slice (some ⟨0, 0, none⟩) n n :: topV :: topV :: .int .i64 ((cmN (ptsA n xs) n).length : Nat) :: topV :: topV :: topV :: topV :: topV :: topV :: topV :: topV :: topV :: topV :: topV :: topV :: topV :: topV :: topV :: topV :: topV :: topV :: topV :: topV :: topV :: topV :: topV :: topV :: topV :: topV :: topV :: topV :: topV :: topV :: topV :: topV :: topV :: topV :: topV :: topV :: topV :: topV :: topV :: topV :: topV :: topV :: topV :: topV :: topV :: topV :: topV :: topV :: topV :: topV :: topV :: topV :: topV :: topV :: topV :: topV :: topV :: []), [some ⟨.row 32 2, .ints (flat (cmN (ptsA n xs) n ++ (ptsA n xs).drop (cmN (ptsA n xs) n).length))⟩]⟩))
  | _, _, _ => none
theorem cp_dup {ps : List Pt} {m : Nat} (h : dupA ps m = true) (hm : m ≠ 0) : cmN ps (m + 1) = cmN ps m := by
  unfold dupA at h
  simp only [cmN]
  rw [if_neg]
  rintro (h1 | h1)
  · exact hm h1
  · exact h1 (by simpa using h)
theorem cp_new {ps : List Pt} {m : Nat} (h : dupA ps m = false) : cmN ps (m + 1) = cmN ps m ++ [ps.getD m (0, 0)] := by
  unfold dupA at h
  simp only [cmN]
  rw [if_pos (.inr (by simpa using h))]
theorem cp_start {ps : List Pt} {k : Nat} (h2 : 1 ≤ (k : Int) ∧ (k : Int) < (ps.length : Int)) (h3 : dupA ps k = true) (h4 : ∀ j, 1 ≤ j → j < k → dupA ps j = false) : 1 ≤ 1 ∧ k + 1 ≤ ps.length ∧ k ≤ k + 1 - 1 ∧ k = (cmN ps (k + 1)).length ∧ ps = cmN ps (k + 1) ++ ps.drop k := by
  have e := cp_dup h3 (by omega)
  rw [cmN_take k (by omega) h4] at e
  refine ⟨Nat.le_refl _, by omega, by omega, ?_, ?_⟩
  · rw [e, List.length_take]; omega
  · rw [e, List.take_append_drop]
theorem cp_get {ps : List Pt} {q : List Pt} {j : Nat} (h : q.length ≤ j) : (q ++ ps.drop q.length).getD j (0, 0) = ps.getD j (0, 0) := by
  simp only [List.getD]
  rw [List.getElem?_append_right h, List.getElem?_drop]
  congr 2
  omega
theorem cp_len {ps q : List Pt} (h : q.length ≤ ps.length) : (q ++ ps.drop q.length).length = ps.length := by
  rw [List.length_append, List.length_drop]
  omega
theorem cp_set {ps q : List Pt} (h : q.length < ps.length) (z : Pt) : (q ++ ps.drop q.length).set q.length z = (q ++ [z]) ++ ps.drop (q.length + 1) := by
  rw [List.set_append_right _ _ (Nat.le_refl _), Nat.sub_self, drop_cons h (0, 0)]
  simp
theorem eq_pt (a b : Pt) : (a.1 == b.1 && (a.2 == b.2 && true)) = (a == b) := by
  rw [Bool.and_true]
  rfl
theorem dup_is (ps : List Pt) (m : Nat) : ((ps.getD m (0, 0)).1 == (ps.getD (m - 1) (0, 0)).1 && ((ps.getD m (0, 0)).2 == (ps.getD (m - 1) (0, 0)).2 && true)) = dupA ps m := eq_pt _ _
set_option maxRecDepth 100000 in
theorem round_cpI (ps : List Pt) (k0 : Nat) (h : ps.length ≤ 1000000000) : Round_cpI ps k0 := by
  rintro ⟨j, q, X⟩ ⟨h1, h2, h3, hq0, rfl⟩
  rw [tr_cpI]
  have hq : (cmN ps (k0 + j)).length ≤ ps.length := by omega
  have hX := cp_len hq
  have g1 := cp_get (ps := ps) (q := cmN ps (k0 + j)) (j := k0 + j) (by omega)
  have g2 := cp_get (ps := ps) (q := cmN ps (k0 + j)) (j := k0 + j - 1) (by omega)
  rw [← hq0] at hX g1 g2
  have a2 : IntKind.i64.wrap ((j : Int) - 1) = ((j - 1 : Nat) : Int) := by rw [wr (by omega)]; omega
  refine brT_ok.2 ⟨fun hlt => ?_, fun hge => ?_⟩
  · have hlt := of_decide_eq_true hlt
    have hm : k0 + j < ps.length := by omega
    have a1 : k0 * 2 + (j : Int).toNat * 2 = (k0 + j) * 2 := by omega
    have a3 : k0 * 2 + ((j - 1 : Nat) : Int).toNat * 2 = (k0 + j - 1) * 2 := by omega
    have a4 : 0 + (q : Int).toNat * 2 = q * 2 := by omega
    have hs := flat_set (cmN ps (k0 + j) ++ ps.drop q) q (by omega) (ps.getD (k0 + j) (0, 0)).1 (ps.getD (k0 + j) (0, 0)).2
    have hs2 := cp_set (ps := ps) (q := cmN ps (k0 + j)) (by omega) (ps.getD (k0 + j) (0, 0))
    rw [← hq0] at hs2
    rw [hs2] at hs
    simp only [a2, a1, a3, a4, wsucc (i := j) (n := ps.length) (by omega) h, wsucc (i := q) (n := ps.length) (by omega) h, flat_get0, flat_get1, flat_length, g1, g2, dup_is, hX, hs]
    refine ⟨by omega, by omega, by omega, by omega, brT_ok.2 ⟨fun c => ⟨by omega, by omega, by omega, by omega, ?_⟩, fun c => ?_⟩⟩
    · have hd : dupA ps (k0 + j) = false := by simpa [negB] using c
      have e := cp_new hd
      have el : q + 1 = (cmN ps (k0 + j + 1)).length := by rw [e]; simp; omega
      refine ⟨(j + 1, q + 1, cmN ps (k0 + j) ++ [ps.getD (k0 + j) (0, 0)] ++ ps.drop (q + 1)), [], ⟨by omega, by omega, by omega, el, by show _ = cmN ps (k0 + j + 1) ++ _; rw [e]⟩, ?_, rfl, by simp only [rs_cpI], ?_⟩
      · show ps.length - (k0 + (j + 1)) < ps.length - (k0 + j); omega
      · repeat' (first | exact True.intro | exact rfl | exact fun _ => rfl | (simp; done) | refine And.intro ?_ ?_)
    · have hd : dupA ps (k0 + j) = true := by simpa [negB] using c
      have e := cp_dup hd (by omega)
      refine ⟨(j + 1, q, cmN ps (k0 + j) ++ ps.drop q), [], ⟨by omega, by omega, by omega, by show _ = (cmN ps (k0 + j + 1)).length; rw [e]; exact hq0, by show _ = cmN ps (k0 + j + 1) ++ _; rw [e]⟩, ?_, rfl, by simp only [rs_cpI], ?_⟩
      · show ps.length - (k0 + (j + 1)) < ps.length - (k0 + j); omega
      · repeat' (first | exact True.intro | exact rfl | exact fun _ => rfl | (simp; done) | refine And.intro ?_ ?_)
  · have hge := of_decide_eq_false hge
    have hm : k0 + j = ps.length := by omega
    refine ⟨rfl, [], ?_⟩
    rw [hm] at hq0
    simp only [rs_cpI, hm, ← hq0]
    repeat' (first | exact True.intro | exact rfl | exact fun _ => rfl | (simp; done) | refine And.intro ?_ ?_)
set_option maxRecDepth 100000 in
theorem lg_cpI : LoopE Try.prog e_cpI c_cpI := by
  intro s k t F H hlt ht
  unfold e_cpI at hlt
  split at hlt
  rotate_left
  · cases hlt
  rename_i hlen hpick hmem
  obtain ⟨tmps, mem⟩ := s
  simp only at hlen hpick hmem
  subst hmem
  obtain rfl := Option.some.inj hlt
  obtain ⟨⟨rfl, h1, h6, h2, rfl, rfl, h3, h4, h5, _⟩, ht2⟩ := needs_ok ht
  clear ht hlt
  obtain ⟨ps, rfl, rfl⟩ := even_flat h1
  obtain ⟨k, rfl⟩ := Int.eq_ofNat_of_zero_le h6
  rw [ptsA_flat] at ht2 h3 h4
  simp only [Int.toNat_natCast] at ht2 h3 h4
  refine ⟨_, _, ht2, loop_run mixed ECp_ok (s_cpI ps k) (inv_cpI ps k) (me_cpI ps k) re_cpI (rs_cpI ps k) k_cpI (fun _ => rfl) (noLoops nl_cpI) (round_cpI ps k h5) (x := (1, k, ps)) (cp_start h2 h3 h4) (π := []) rfl ?_⟩
  refine ⟨rfl, rfl, ?_, wvs_spread' [0, 3, 4, 5] hlen rfl ?_⟩
  · repeat' (first | exact True.intro | exact rfl | exact wv_top _ _ | exact fun _ => rfl | assumption | exact Eq.symm (by assumption) | exact vI0 rfl | refine And.intro ?_ ?_)
  · rw [hpick]
    repeat' (first | exact True.intro | exact rfl | exact wv_top _ _ | exact fun _ => rfl | assumption | exact Eq.symm (by assumption) | exact vI0 rfl | refine And.intro ?_ ?_)
def ltCp : LT := fun j s k => match j with
  | 1 => e_cpI s k
  | _ => none
noncomputable def c_cpO : Code := ((loopsOf (codeOf Try.f79))[0]?).getD .skip
def k_cpO : Ex → List Nat := keeps [0, 3] [(0, [0])] [2]
def s_cpO (ps : List Pt) : Nat → St := fun i => ⟨(.slice (some ⟨0, 0, none⟩) ps.length ps.length :: topV :: topV :: .int .i64 i :: topV :: topV :: topV :: topV :: topV :: topV :: topV :: topV :: topV :: topV :: topV :: topV :: topV :: topV :: topV :: topV :: topV :: topV :: topV :: topV :: topV :: topV :: topV :: topV :: topV :: topV :: topV :: topV :: topV :: topV :: topV :: topV :: topV :: topV :: topV :: topV :: topV :: topV :: topV :: topV :: topV :: topV :: topV :: topV :: topV :: topV :: topV :: topV :: topV :: topV :: topV :: topV :: topV :: topV :: topV :: topV :: topV :: []), [some ⟨.row 32 2, .ints (flat ps)⟩]⟩
def re_cpO (ps : List Pt) : Nat → Ex := fun i => bif allQ (fun j => !(dupA ps j)) i (ps.length - i) then .exit 0 else .ret
def rs_cpO (ps : List Pt) : Nat → St := fun i => bif allQ (fun j => !(dupA ps j)) i (ps.length - i) then ⟨(.slice (some ⟨0, 0, none⟩) ps.length ps.length :: topV :: topV :: topV :: topV :: topV :: topV :: topV :: topV :: topV :: topV :: topV :: topV :: topV :: topV :: topV :: topV :: topV :: topV :: topV :: topV :: topV :: topV :: topV :: topV :: topV :: topV :: topV :: topV :: topV :: topV :: topV :: topV :: topV :: topV :: topV :: topV :: topV :: topV :: topV :: topV :: topV :: topV :: topV :: topV :: topV :: topV :: topV :: topV :: topV :: topV :: topV :: topV :: topV :: topV :: topV :: topV :: topV :: topV :: topV :: topV :: []), [some ⟨.row 32 2, .ints (flat ps)⟩]⟩ else ⟨(topV :: topV :: .slice (some ⟨0, 0, none⟩) (cmP ps).length (cmP ps).length :: topV :: topV :: topV :: topV :: topV :: topV :: topV :: topV :: topV :: topV :: topV :: topV :: topV :: topV :: topV :: topV :: topV :: topV :: topV :: topV :: topV :: topV :: topV :: topV :: topV :: topV :: topV :: topV :: topV :: topV :: topV :: topV :: topV :: topV :: topV :: topV :: topV :: topV :: topV :: topV :: topV :: topV :: topV :: topV :: topV :: topV :: topV :: topV :: topV :: topV :: topV :: topV :: topV :: topV :: topV :: topV :: topV :: topV :: []), [some ⟨.row 32 2, .ints (flat (cmP ps))⟩]⟩
set_option maxRecDepth 100000 in
theorem tr_cpO (ps : List Pt) (i : Nat) : bodyL Try.prog ECp 30 12 ltCp 1 c_cpO k_cpO 1 (s_cpO ps i) = brT (decide ((↑i : Int) < (↑ps.length : Int))) (.need ((0 : Int) ≤ (↑i : Int) ∧ (↑i : Int) < (↑ps.length : Int)) (.need ((0 : Nat) + (↑i : Int).toNat * (2 : Nat) + (2 : Nat) ≤ (flat ps).length) (.need ((0 : Int) ≤ IntKind.i64.wrap ((↑i : Int) - (1 : Int)) ∧ IntKind.i64.wrap ((↑i : Int) - (1 : Int)) < (↑ps.length : Int)) (.need ((0 : Nat) + (IntKind.i64.wrap ((↑i : Int) - (1 : Int))).toNat * (2 : Nat) + (2 : Nat) ≤ (flat ps).length) (brT (negB false ((flat ps).getD (0 + (↑i : Int).toNat * 2) 0 == (flat ps).getD (0 + (IntKind.i64.wrap ((↑i : Int) - 1)).toNat * 2) 0 && ((flat ps).getD (0 + (↑i : Int).toNat * 2 + 1) 0 == (flat ps).getD (0 + (IntKind.i64.wrap ((↑i : Int) - 1)).toNat * 2 + 1) 0 && true))) (.need ((0 : Int) ≤ bndI (some (IntKind.i64, (↑i : Int))) (0 : Int) ∧ bndI (some (IntKind.i64, (↑i : Int))) (0 : Int) ≤ bndI none (↑ps.length : Int) ∧ bndI none (↑ps.length : Int) ≤ (↑ps.length : Int)) (.need ((1 : Int) = (1 : Int)) (.need ((flat ps).length = ps.length * (2 : Nat)) (.need ((0 : Int) ≤ (↑i : Int)) (.need ((1 : Int) ≤ (↑i : Int) ∧ (↑i : Int) < (↑ps.length : Int)) (.need ((0 : Nat) + (bndI (some (IntKind.i64, (↑i : Int))) (0 : Int)).toNat * (2 : Nat) = (↑i : Int).toNat * (2 : Nat)) (.need ((bndI none (↑ps.length : Int)).toNat - (bndI (some (IntKind.i64, (↑i : Int))) (0 : Int)).toNat = ps.length - (↑i : Int).toNat) (.need (dupA (ptsA ps.length (flat ps)) (↑i : Int).toNat = true) (.need (∀ (j : Nat), (1 : Nat) ≤ j → j < (↑i : Int).toNat → dupA (ptsA ps.length (flat ps)) j = false) (.need (ps.length ≤ (1000000000 : Nat)) (.need ((0 : Int) ≤ bndI (some (IntKind.i64, (↑(cmN (ptsA ps.length (flat ps)) ps.length).length : Int))) (0 : Int) ∧ bndI (some (IntKind.i64, (↑(cmN (ptsA ps.length (flat ps)) ps.length).length : Int))) (0 : Int) ≤ bndI none (↑ps.length : Int) ∧ bndI none (↑ps.length : Int) ≤ (↑ps.length : Int)) (.need ((0 : Nat) + (bndI (some (IntKind.i64, (↑(cmN (ptsA ps.length (flat ps)) ps.length).length : Int))) (0 : Int)).toNat * (2 : Nat) + ((bndI none (↑ps.length : Int)).toNat - (bndI (some (IntKind.i64, (↑(cmN (ptsA ps.length (flat ps)) ps.length).length : Int))) (0 : Int)).toNat) * (2 : Nat) ≤ (flat (cmN (ptsA ps.length (flat ps)) ps.length ++ List.drop (cmN (ptsA ps.length (flat ps)) ps.length).length (ptsA ps.length (flat ps)))).length) (.need ((0 : Int) ≤ bndI none (0 : Int) ∧ bndI none (0 : Int) ≤ bndI (some (IntKind.i64, (↑(cmN (ptsA ps.length (flat ps)) ps.length).length : Int))) (↑ps.length : Int) ∧ bndI (some (IntKind.i64, (↑(cmN (ptsA ps.length (flat ps)) ps.length).length : Int))) (↑ps.length : Int) ≤ (↑ps.length : Int)) (.leaf .ret ⟨(topV :: topV :: .slice (some ⟨0, 0, none⟩) ((bndI (some (IntKind.i64, (↑(cmN (ptsA ps.length (flat ps)) ps.length).length : Int))) (↑ps.length : Int)).toNat - 0) ((bndI (some (IntKind.i64, (↑(cmN (ptsA ps.length (flat ps)) ps.length).length : Int))) (↑ps.length : Int)).toNat - 0) :: topV :: topV :: topV :: topV :: topV :: topV :: topV :: topV :: topV :: topV :: topV :: topV :: topV :: topV :: topV :: topV :: topV :: topV :: topV :: topV :: topV :: topV :: topV :: topV :: topV :: topV :: topV :: topV :: topV :: topV :: topV :: topV :: topV :: topV :: topV :: topV :: topV :: topV :: topV :: topV :: topV :: topV :: topV :: topV :: topV :: topV :: topV :: topV :: topV :: topV :: topV :: topV :: topV :: topV :: topV :: topV :: topV :: topV :: []), [some ⟨.row 32 2, .ints (List.take (0 + (bndI (some (IntKind.i64, (↑(cmN (ptsA ps.length (flat ps)) ps.length).length : Int))) 0).toNat * 2) (flat (cmN (ptsA ps.length (flat ps)) ps.length ++ List.drop (cmN (ptsA ps.length (flat ps)) ps.length).length (ptsA ps.length (flat ps)))))⟩]⟩)))))))))))))) (.leaf .normal ⟨(.slice (some ⟨0, 0, none⟩) (ps.length) (ps.length) :: topV :: topV :: .int .i64 (IntKind.i64.wrap ((↑i : Int) + 1)) :: topV :: topV :: topV :: topV :: topV :: topV :: topV :: topV :: topV :: topV :: topV :: topV :: topV :: topV :: topV :: topV :: topV :: topV :: topV :: topV :: topV :: topV :: topV :: topV :: topV :: topV :: topV :: topV :: topV :: topV :: topV :: topV :: topV :: topV :: topV :: topV :: topV :: topV :: topV :: topV :: topV :: topV :: topV :: topV :: topV :: topV :: topV :: topV :: topV :: topV :: topV :: topV :: topV :: topV :: topV :: topV :: topV :: []), [some ⟨.row 32 2, .ints (flat ps)⟩]⟩)))))) (.leaf (.exit 0) ⟨(.slice (some ⟨0, 0, none⟩) (ps.length) (ps.length) :: topV :: topV :: topV :: topV :: topV :: topV :: topV :: topV :: topV :: topV :: topV :: topV :: topV :: topV :: topV :: topV :: topV :: topV :: topV :: topV :: topV :: topV :: topV :: topV :: topV :: topV :: topV :: topV :: topV :: topV :: topV :: topV :: topV :: topV :: topV :: topV :: topV :: topV :: topV :: topV :: topV :: topV :: topV :: topV :: topV :: topV :: topV :: topV :: topV :: topV :: topV :: topV :: topV :: topV :: topV :: topV :: topV :: topV :: topV :: topV :: []), [some ⟨.row 32 2, .ints (flat ps)⟩]⟩) := by kernel_rfl
def inv_cpO (ps : List Pt) : Nat → Prop := fun i => 1 ≤ i ∧ i ≤ ps.length ∧ ∀ j, 1 ≤ j → j < i → dupA ps j = false
def me_cpO (ps : List Pt) : Nat → Nat := fun i => ps.length - i
/-- A round of this loop. -/
def Round_cpO (ps : List Pt) : Prop := ∀ xx : Nat, inv_cpO ps xx → (bodyL Try.prog ECp 30 12 ltCp 1 c_cpO k_cpO 1 (s_cpO ps xx)).ok (RoundEnd 1 (s_cpO ps) (inv_cpO ps) (me_cpO ps) (re_cpO ps) (rs_cpO ps) xx) (fun _ _ => False)
def e_cpO (s : St) (k : Ex → St → Tree) : Option Tree := match Nat.beq s.tmps.length 61, pickL s.tmps [0, 3], s.mem with
  | true, [.slice (some ⟨0, 0, none⟩) n _, .int .i64 i], [some ⟨.row 32 2, .ints xs⟩] => some (needs [i = 1, xs.length = n * 2, 2 ≤ n, n ≤ 1000000000] (brT (allQ (fun j => !(dupA (ptsA n xs) j)) 1 (n - 1)) (k (.exit 0) ⟨(.slice (some ⟨0, 0, none⟩) n n :: topV :: topV :: topV :: topV :: topV :: topV :: topV :: topV :: topV :: topV :: topV :: topV :: topV :: topV :: topV :: topV :: topV :: topV :: topV :: topV :: topV :: topV :: topV :: topV :: topV :: topV :: topV :: topV :: topV :: topV :: topV :: topV :: topV :: topV :: topV :: topV :: topV :: topV :: topV :: topV :: topV :: topV :: topV :: topV :: topV :: topV :: topV :: topV :: topV :: topV :: topV :: topV :: topV :: topV :: topV :: topV :: topV :: topV :: topV :: topV :: []), [some ⟨.row 32 2, .ints xs⟩]⟩) (k .ret ⟨(topV :: topV :: .slice (some ⟨0, 0, none⟩) (cmP (ptsA n xs)).length (cmP (ptsA n xs)).length :: topV :: topV :: topV :: topV :: topV :: topV :: topV :: topV :: topV :: topV :: topV :: topV :: topV :: topV :: topV :: topV :: topV :: topV :: topV :: topV :: topV :: topV :: topV :: topV :: topV :: topV :: topV :: topV :: topV :: topV :: topV :: topV :: topV :: topV :: topV :: topV :: topV :: topV :: topV :: topV :: topV :: topV :: topV :: topV :: topV :: topV :: topV :: topV :: topV :: topV :: topV :: topV :: topV :: topV :: topV :: topV :: topV :: topV :: []), [some ⟨.row 32 2, .ints (flat (cmP (ptsA n xs)))⟩]⟩)))
  | _, _, _ => none
theorem bnd_some (x d : Int) : bndI (some (IntKind.i64, x)) d = x := rfl
theorem bnd_none (d : Int) : bndI none d = d := rfl
theorem cm_more (ps : List Pt) : ∀ (d m : Nat), (cmN ps m).length ≤ (cmN ps (m + d)).length
  | 0, m => Nat.le_refl _
  | d + 1, m => by
    have := cm_more ps d m
    have e : (cmN ps (m + d)).length ≤ (cmN ps (m + d + 1)).length := by
      simp only [cmN]
      split <;> simp
    exact Nat.le_trans this e
set_option maxRecDepth 100000 in
theorem in_cpO : loopsOf c_cpO = [c_cpI] := by kernel_rfl
theorem ltCp_good : LoopsGood Try.prog ltCp 1 c_cpO := by
  intro i d hd s k t F H hlt ht
  rw [in_cpO] at hd
  cases i with
  | zero =>
    obtain rfl : c_cpI = d := by simpa using hd
    exact lg_cpI s k t F H hlt ht
  | succ i => simp at hd
set_option maxRecDepth 100000 in
theorem round_cpO (ps : List Pt) (h : ps.length ≤ 1000000000) : Round_cpO ps := by
  rintro i ⟨h1, h2, h3⟩
  rw [tr_cpO]
  simp only [ptsA_flat, bnd_some, bnd_none, Int.toNat_natCast, Nat.zero_add, Nat.sub_zero]
  refine brT_ok.2 ⟨fun hlt => ?_, fun hge => ?_⟩
  · have hi : i < ps.length := by have := of_decide_eq_true hlt; omega
    have w1 : IntKind.i64.wrap ((i : Int) - 1) = ((i - 1 : Nat) : Int) := by rw [wr (by omega)]; omega
    have step : allQ (fun j => !(dupA ps j)) i (ps.length - i) = (!(dupA ps i) && allQ (fun j => !(dupA ps j)) (i + 1) (ps.length - (i + 1))) := allQ_step hi
    have hle := cmN_le ps ps.length
    have hX := cp_len hle
    simp only [w1, Int.toNat_natCast, flat_get0, flat_get1, flat_length, dup_is, hX, wsucc hi h]
    refine ⟨by omega, by omega, by omega, by omega, brT_ok.2 ⟨fun q => ?_, fun q => ?_⟩⟩
    · have hd : dupA ps i = true := by simpa [negB] using q
      have e : allQ (fun j => !(dupA ps j)) i (ps.length - i) = false := by rw [step, hd]; rfl
      have hf : List.take ((cmN ps ps.length).length * 2) (flat (cmN ps ps.length ++ List.drop (cmN ps ps.length).length ps)) = flat (cmP ps) := by
        rw [flat_take, List.take_left]
        rfl
      rw [hf]
      refine ⟨by omega, by first | exact True.intro | rfl, by first | exact True.intro | rfl, by omega, by omega, by first | exact True.intro | rfl, by first | exact True.intro | rfl, hd, h3, h, by omega, by omega, by omega, ?_⟩
      refine ⟨by simp only [re_cpO, e, cond_false], [], ?_⟩
      simp only [rs_cpO, e, cond_false]
      repeat' (first | exact True.intro | exact rfl | exact fun _ => rfl | (simp; done) | refine And.intro ?_ ?_)
    · have hd : dupA ps i = false := by simpa [negB] using q
      have e : allQ (fun j => !(dupA ps j)) i (ps.length - i) = allQ (fun j => !(dupA ps j)) (i + 1) (ps.length - (i + 1)) := by rw [step, hd]; rfl
      refine ⟨i + 1, [], ⟨by omega, by omega, fun j g1 g2 => ?_⟩, ?_, by simp only [re_cpO, e], by simp only [rs_cpO, e], ?_⟩
      · rcases Nat.lt_or_ge j i with g | g
        · exact h3 j g1 g
        · obtain rfl : j = i := by omega
          exact hd
      · show ps.length - (i + 1) < ps.length - i; omega
      · repeat' (first | exact True.intro | exact rfl | exact fun _ => rfl | (simp; done) | refine And.intro ?_ ?_)
  · have hge := of_decide_eq_false hge
    obtain rfl : i = ps.length := by omega
    have e : allQ (fun j => !(dupA ps j)) ps.length (ps.length - ps.length) = true := allQ_end (by omega)
    refine ⟨by simp only [re_cpO, e, cond_true], [], ?_⟩
    simp only [rs_cpO, e, cond_true]
    repeat' (first | exact True.intro | exact rfl | exact fun _ => rfl | (simp; done) | refine And.intro ?_ ?_)
set_option maxRecDepth 100000 in
theorem lg_cpO : LoopE Try.prog e_cpO c_cpO := by
  intro s k t F H hlt ht
  unfold e_cpO at hlt
  split at hlt
  rotate_left
  · cases hlt
  rename_i hlen hpick hmem
  obtain ⟨tmps, mem⟩ := s
  simp only at hlen hpick hmem
  subst hmem
  obtain rfl := Option.some.inj hlt
  obtain ⟨⟨rfl, h1, h2, h5, _⟩, ht2⟩ := needs_ok ht
  clear ht hlt
  obtain ⟨ps, rfl, rfl⟩ := even_flat h1
  rw [ptsA_flat] at ht2
  refine ⟨_, _, pick2k ht2, loop_run mixed ECp_ok (s_cpO ps) (inv_cpO ps) (me_cpO ps) (re_cpO ps) (rs_cpO ps) k_cpO (fun _ => rfl) ltCp_good (round_cpO ps h5) (x := 1) ⟨Nat.le_refl _, by omega, fun j h1 h2 => by omega⟩ (π := []) rfl ?_⟩
  refine ⟨rfl, rfl, ?_, wvs_spread' [0, 3] hlen rfl ?_⟩
  · repeat' (first | exact True.intro | exact rfl | exact wv_top _ _ | exact fun _ => rfl | assumption | exact Eq.symm (by assumption) | exact vI0 rfl | refine And.intro ?_ ?_)
  · rw [hpick]
    repeat' (first | exact True.intro | exact rfl | exact wv_top _ _ | exact fun _ => rfl | assumption | exact Eq.symm (by assumption) | exact vI0 rfl | refine And.intro ?_ ?_)
theorem Lr_cpO {fn : Func} (hf : Try.prog.funcs[79]? = some fn) : LoopsGood Try.prog (lt1 e_cpO) 0 (codeOf fn) := by
  obtain rfl := fn_is Try.func79 hf
  exact lt1_good lg_cpO
def LCp : FuncId → LT := fun f => match f with
  | 79 => lt1 e_cpO
  | _ => noL
def ECq : Env := mkE B0 (fun _ _ => none) LCp
theorem ECq_ok : EnvOk Try.prog ECq := mkEOk B0_ok (fun _ _ _ _ _ h => (by cases h)) (by
  intro f fn hf
  unfold LCp
  split
  all_goals first | with_reducible exact Lr_cpO hf | exact noL_good)
set_option maxRecDepth 100000 in
theorem tr_cpF (ps : List Pt) : bodyM Try.prog ECq (runM Try.prog ECq 30 12) 30 79 [.slice (some ⟨0, 0, none⟩) ps.length ps.length] [some ⟨.row 32 2, .ints (flat ps)⟩] .fin = brT (decide ((↑ps.length : Int) < 2)) (.fin (.slice (some ⟨0, 0, none⟩) (ps.length) (ps.length)) [some ⟨.row 32 2, .ints (flat ps)⟩]) (.need ((1 : Int) = (1 : Int)) (.need ((flat ps).length = ps.length * (2 : Nat)) (.need ((2 : Nat) ≤ ps.length) (.need (ps.length ≤ (1000000000 : Nat)) (brT (allQ (fun j => !dupA (ptsA ps.length (flat ps)) j) 1 (ps.length - 1)) (.fin (.slice (some ⟨0, 0, none⟩) (ps.length) (ps.length)) [some ⟨.row 32 2, .ints (flat ps)⟩]) (.fin (.slice (some ⟨0, 0, none⟩) ((cmP (ptsA ps.length (flat ps))).length) ((cmP (ptsA ps.length (flat ps))).length)) [some ⟨.row 32 2, .ints (flat (cmP (ptsA ps.length (flat ps))))⟩])))))) := by kernel_rfl
theorem cpt_row (ps : List Pt) (h : ps.length ≤ 1000000000) : (bodyM Try.prog ECq (runM Try.prog ECq 30 12) 30 79 [.slice (some ⟨0, 0, none⟩) ps.length ps.length] [some ⟨.row 32 2, .ints (flat ps)⟩] .fin).ok (fun _ _ => False) (fun u mem' => RowIs (.slice (some ⟨0, 0, none⟩) (cmP ps).length (cmP ps).length) ⟨.row 32 2, .ints (flat (cmP ps))⟩ u mem') := by
  rw [tr_cpF]
  simp only [ptsA_flat]
  have same : (∀ j, 1 ≤ j → j < ps.length → dupA ps j = false) → cmP ps = ps := fun hn => by
    unfold cmP
    rw [cmN_take _ (Nat.le_refl _) hn, List.take_length]
  refine brT_ok.2 ⟨fun hlt => ?_, fun hge => ?_⟩
  · have hlt := of_decide_eq_true hlt
    rw [same fun j h1 h2 => by omega]
    exact ⟨some 0, ⟨rfl, rfl, rfl⟩, rfl, rfl, rfl⟩
  · have hge := of_decide_eq_false hge
    refine ⟨by first | exact True.intro | rfl, flat_length ps, by omega, h, brT_ok.2 ⟨fun q => ?_, fun q => ?_⟩⟩
    · have q : allQ (fun j => !(dupA ps j)) 1 (ps.length - 1) = true := q
      rw [same fun j h1 h2 => by simpa using allQ_get _ _ q j h1 (by omega)]
      exact ⟨some 0, ⟨rfl, rfl, rfl⟩, rfl, rfl, rfl⟩
    · exact ⟨some 0, ⟨rfl, rfl, rfl⟩, rfl, rfl, rfl⟩
def cptS : OSpec := fun e sz l xs rest => match e, sz, rest with
  | 32, 2, [] => some (.slice (some ⟨0, 0, none⟩) (cmP (ptsA l xs)).length (cmP (ptsA l xs)).length, ⟨.row 32 2, .ints (flat (cmP (ptsA l xs)))⟩, [xs.length = l * 2, l ≤ 1000000000])
  | _, _, _ => none
set_option maxRecDepth 100000 in
theorem cptS_ok : OSpecOk Try.prog 79 cptS := by
  intro e sz l xs rest v b C h hC
  unfold cptS at h
  split at h
  rotate_left
  · cases h
  obtain ⟨rfl, rfl, rfl⟩ : _ ∧ _ ∧ _ := by simpa using h
  obtain ⟨h1, h2, _⟩ := hC
  obtain ⟨ps, rfl, rfl⟩ := even_flat h1
  rw [ptsA_flat]
  exact ⟨rfl, ECq, 30, 12, ECq_ok, cpt_row ps h2⟩
end Go.Proofs.Ytieibbdfdepmbaa
