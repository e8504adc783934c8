/-
  The loop of the model's Canonical. Written by an AI agent.
-/
import Derived.Test.YtieibbdfdepmbaaIdx
import Derived.Test.YtieibbdfdepmbaaHud
namespace Go.Proofs.Ytieibbdfdepmbaa
set_option linter.all false
open Go.RowKit

/-- The place of the first of the least of so many points. -/
def mnI (ps : List Pt) : Nat → Nat
  | 0 => 0
  | i + 1 => bif pltB (ps.getD i (0, 0)) (ps.getD (mnI ps i) (0, 0)) then i else mnI ps i
theorem mnI_le (ps : List Pt) : ∀ i, mnI ps i ≤ i
  | 0 => Nat.le_refl _
  | i + 1 => by
    have := mnI_le ps i
    show (bif pltB (ps.getD i (0, 0)) (ps.getD (mnI ps i) (0, 0)) then i else mnI ps i) ≤ i + 1
    cases pltB (ps.getD i (0, 0)) (ps.getD (mnI ps i) (0, 0)) <;> simp <;> omega
def TPl0 : Tab := fun f ds => match f with
  | 102 => pPls ds
  | f => TMh f ds
theorem TPl0_ok : TabOk Try.prog TPl0 := by
  intro f ds v C h hC
  unfold TPl0 at h
  (try split at h)
  all_goals first | with_reducible exact pPls_ok h | exact TMh_ok _ _ _ _ h hC
def ECa : Env := mkE TPl0 (fun _ _ => none) (fun _ => noL)
theorem ECa_ok : EnvOk Try.prog ECa := mkEOk TPl0_ok (fun _ _ _ _ _ h => (by cases h)) (fun _ _ _ => noL_good)
noncomputable def c_caa : Code := ((loopsOf (codeOf Try.f63))[0]?).getD .skip
def k_caa : Ex → List Nat := keeps [0, 3, 4] [(0, [0, 3])] []
def s_caa (ps : List Pt) : Nat → St := fun i => ⟨(.slice (some ⟨0, 0, none⟩) ps.length ps.length :: topV :: topV :: .int .i64 (mnI ps i : Nat) :: .int .i64 i :: topV :: topV :: topV :: topV :: topV :: topV :: topV :: topV :: topV :: topV :: topV :: topV :: topV :: topV :: topV :: topV :: topV :: topV :: topV :: topV :: topV :: topV :: topV :: topV :: topV :: topV :: topV :: topV :: topV :: topV :: []), [some ⟨.view, .ints (flat ps)⟩]⟩
def re_caa : Nat → Ex := fun _ => .exit 0
def rs_caa (ps : List Pt) : Nat → St := fun i => ⟨(.slice (some ⟨0, 0, none⟩) ps.length ps.length :: topV :: topV :: .int .i64 (mnI ps ps.length : Nat) :: topV :: topV :: topV :: topV :: topV :: topV :: topV :: topV :: topV :: topV :: topV :: topV :: topV :: topV :: topV :: topV :: topV :: topV :: topV :: topV :: topV :: topV :: topV :: topV :: topV :: topV :: topV :: topV :: topV :: topV :: topV :: []), [some ⟨.view, .ints (flat ps)⟩]⟩
set_option maxRecDepth 100000 in
theorem tr_caa (ps : List Pt) (i : Nat) : bodyL Try.prog ECa 30 12 noL 1 c_caa k_caa 1 (s_caa ps i) = brT (decide ((↑i : Int) < (↑ps.length : Int))) (.need ((0 : Int) ≤ (↑i : Int) ∧ (↑i : Int) < (↑ps.length : Int)) (.need ((0 : Nat) + (↑i : Int).toNat * (2 : Nat) + (2 : Nat) ≤ (flat ps).length) (.need ((0 : Int) ≤ (↑(mnI ps i) : Int) ∧ (↑(mnI ps i) : Int) < (↑ps.length : Int)) (.need ((0 : Nat) + (↑(mnI ps i) : Int).toNat * (2 : Nat) + (2 : Nat) ≤ (flat ps).length) (brT (pltB ((flat ps).getD (0 + (↑i : Int).toNat * (2 : Nat)) 0, (flat ps).getD (0 + (↑i : Int).toNat * (2 : Nat) + 1) 0) ((flat ps).getD (0 + (↑(mnI ps i) : Int).toNat * (2 : Nat)) 0, (flat ps).getD (0 + (↑(mnI ps i) : Int).toNat * (2 : Nat) + 1) 0)) (.leaf .normal ⟨(.slice (some ⟨0, 0, none⟩) (ps.length) (ps.length) :: topV :: topV :: .int .i64 ((↑i : Int)) :: .int .i64 (IntKind.i64.wrap ((↑i : Int) + 1)) :: topV :: topV :: topV :: topV :: topV :: topV :: topV :: topV :: topV :: topV :: topV :: topV :: topV :: topV :: topV :: topV :: topV :: topV :: topV :: topV :: topV :: topV :: topV :: topV :: topV :: topV :: topV :: topV :: topV :: topV :: []), [some ⟨.view, .ints (flat ps)⟩]⟩) (.leaf .normal ⟨(.slice (some ⟨0, 0, none⟩) (ps.length) (ps.length) :: topV :: topV :: .int .i64 ((↑(mnI ps i) : Int)) :: .int .i64 (IntKind.i64.wrap ((↑i : Int) + 1)) :: topV :: topV :: topV :: topV :: topV :: topV :: topV :: topV :: topV :: topV :: topV :: topV :: topV :: topV :: topV :: topV :: topV :: topV :: topV :: topV :: topV :: topV :: topV :: topV :: topV :: topV :: topV :: topV :: topV :: topV :: []), [some ⟨.view, .ints (flat ps)⟩]⟩)))))) (.leaf (.exit 0) ⟨(.slice (some ⟨0, 0, none⟩) (ps.length) (ps.length) :: topV :: topV :: .int .i64 ((↑(mnI ps i) : Int)) :: topV :: topV :: topV :: topV :: topV :: topV :: topV :: topV :: topV :: topV :: topV :: topV :: topV :: topV :: topV :: topV :: topV :: topV :: topV :: topV :: topV :: topV :: topV :: topV :: topV :: topV :: topV :: topV :: topV :: topV :: topV :: []), [some ⟨.view, .ints (flat ps)⟩]⟩) := by kernel_rfl
set_option maxRecDepth 100000 in
theorem nl_caa : loopsOf c_caa = [] := by kernel_rfl
def inv_caa (ps : List Pt) : Nat → Prop := fun i => i ≤ ps.length
def me_caa (ps : List Pt) : Nat → Nat := fun i => ps.length - i
/-- A round of this loop. -/
def Round_caa (ps : List Pt) : Prop := ∀ xx : Nat, inv_caa ps xx → (bodyL Try.prog ECa 30 12 noL 1 c_caa k_caa 1 (s_caa ps xx)).ok (RoundEnd 1 (s_caa ps) (inv_caa ps) (me_caa ps) re_caa (rs_caa ps) xx) (fun _ _ => False)
def e_caa (s : St) (k : Ex → St → Tree) : Option Tree := match Nat.beq s.tmps.length 35, pickL s.tmps [0, 3, 4], s.mem with
  | true, [.slice (some ⟨0, 0, none⟩) n _, .int .i64 a0, .int .i64 i], [some ⟨.view, .ints xs⟩] => some (needs [i = 0, a0 = 0, xs.length = n * 2, n ≤ 1000000000] (k (.exit 0) ⟨(.slice (some ⟨0, 0, none⟩) n n :: topV :: topV :: .int .i64 (mnI (ptsA n xs) n : Nat) :: topV :: topV :: topV :: topV :: topV :: topV :: topV :: topV :: topV :: topV :: topV :: topV :: topV :: topV :: topV :: topV :: topV :: topV :: topV :: topV :: topV :: topV :: topV :: topV :: topV :: topV :: topV :: topV :: topV :: topV :: topV :: []), [some ⟨.view, .ints xs⟩]⟩))
  | _, _, _ => none
set_option maxRecDepth 100000 in
theorem round_caa (ps : List Pt) (h : ps.length ≤ 1000000000) : Round_caa ps := by
  intro i h1
  have h1 : i ≤ ps.length := h1
  rw [tr_caa]
  simp only [Int.toNat_natCast, Nat.zero_add, Nat.add_zero, flat_length, flat_get0, flat_get1]
  refine brT_ok.2 ⟨fun hlt => ?_, fun hge => ?_⟩
  · have hlt := of_decide_eq_true hlt
    have hi : i < ps.length := by omega
    have hk := mnI_le ps i
    have st : mnI ps (i + 1) = bif pltB (ps.getD i (0, 0)) (ps.getD (mnI ps i) (0, 0)) then i else mnI ps i := rfl
    rw [wsucc (n := ps.length) hi h]
    rcases hp : pltB (ps.getD i (0, 0)) (ps.getD (mnI ps i) (0, 0)) with _ | _
    all_goals
      rw [hp] at st
      have hp' : pltB ((ps.getD i (0, 0)).1, (ps.getD i (0, 0)).2) ((ps.getD (mnI ps i) (0, 0)).1, (ps.getD (mnI ps i) (0, 0)).2) = _ := hp
      simp only [hp', brT_t, brT_f, Tree.ok]
      repeat (refine And.intro (by first | omega | exact Nat.le_refl _) ?_)
      refine ⟨i + 1, [], ?_, ?_, rfl, rfl, ?_⟩
      · show i + 1 ≤ ps.length; omega
      · show ps.length - (i + 1) < ps.length - i; omega
      · unfold s_caa
        simp only [st, cond_true, cond_false]
        repeat' (first | exact True.intro | exact rfl | exact fun _ => rfl | refine And.intro ?_ ?_)
  · have hge := of_decide_eq_false hge
    obtain rfl : i = ps.length := by omega
    refine ⟨rfl, [], ?_⟩
    repeat' (first | exact True.intro | exact rfl | exact fun _ => rfl | refine And.intro ?_ ?_)
set_option maxRecDepth 100000 in
theorem lg_caa : LoopE Try.prog e_caa c_caa := by
  intro s k t F H hlt ht
  unfold e_caa at hlt
  split at hlt
  rotate_left
  · cases hlt
  rename_i hlen hpick hmem
  obtain ⟨tmps, mem⟩ := s
  simp only at hlen hpick hmem
  subst hmem
  obtain rfl := Option.some.inj hlt
  obtain ⟨⟨rfl, rfl, h1, h2, _⟩, ht2⟩ := needs_ok ht
  clear ht hlt
  obtain ⟨ps, rfl, rfl⟩ := even_flat h1
  rw [ptsA_flat] at ht2
  refine ⟨_, _, ht2, loop_run mixed ECa_ok (s_caa ps) (inv_caa ps) (me_caa ps) re_caa (rs_caa ps) k_caa (fun _ => rfl) (noLoops nl_caa) (round_caa ps h2) (x := 0) (Nat.zero_le _) (π := []) rfl ?_⟩
  refine ⟨rfl, rfl, ?_, wvs_spread' [0, 3, 4] hlen rfl ?_⟩
  · repeat' (first | exact True.intro | exact rfl | exact wv_top _ _ | exact fun _ => rfl | assumption | exact Eq.symm (by assumption) | exact vI0 rfl | refine And.intro ?_ ?_)
  · rw [hpick]
    repeat' (first | exact True.intro | exact rfl | exact wv_top _ _ | exact fun _ => rfl | assumption | exact Eq.symm (by assumption) | exact vI0 rfl | refine And.intro ?_ ?_)
noncomputable def c_cab : Code := ((loopsOf (codeOf Try.f63))[0]?).getD .skip
def k_cab : Ex → List Nat := keeps [0, 3, 4] [(0, [0, 3])] []
def s_cab (ps : List Pt) (zs : List Int) : Nat → St := fun i => ⟨(.slice (some ⟨1, 0, none⟩) ps.length ps.length :: topV :: topV :: .int .i64 (mnI ps i : Nat) :: .int .i64 i :: topV :: topV :: topV :: topV :: topV :: topV :: topV :: topV :: topV :: topV :: topV :: topV :: topV :: topV :: topV :: topV :: topV :: topV :: topV :: topV :: topV :: topV :: topV :: topV :: topV :: topV :: topV :: topV :: topV :: topV :: []), [some ⟨.view, .ints zs⟩, some ⟨.row 32 2, .ints (flat ps)⟩]⟩
def re_cab : Nat → Ex := fun _ => .exit 0
def rs_cab (ps : List Pt) (zs : List Int) : Nat → St := fun i => ⟨(.slice (some ⟨1, 0, none⟩) ps.length ps.length :: topV :: topV :: .int .i64 (mnI ps ps.length : Nat) :: topV :: topV :: topV :: topV :: topV :: topV :: topV :: topV :: topV :: topV :: topV :: topV :: topV :: topV :: topV :: topV :: topV :: topV :: topV :: topV :: topV :: topV :: topV :: topV :: topV :: topV :: topV :: topV :: topV :: topV :: topV :: []), [some ⟨.view, .ints zs⟩, some ⟨.row 32 2, .ints (flat ps)⟩]⟩
set_option maxRecDepth 100000 in
theorem tr_cab (ps : List Pt) (zs : List Int) (i : Nat) : bodyL Try.prog ECa 30 12 noL 1 c_cab k_cab 2 (s_cab ps zs i) = brT (decide ((↑i : Int) < (↑ps.length : Int))) (.need ((0 : Int) ≤ (↑i : Int) ∧ (↑i : Int) < (↑ps.length : Int)) (.need ((0 : Nat) + (↑i : Int).toNat * (2 : Nat) + (2 : Nat) ≤ (flat ps).length) (.need ((0 : Int) ≤ (↑(mnI ps i) : Int) ∧ (↑(mnI ps i) : Int) < (↑ps.length : Int)) (.need ((0 : Nat) + (↑(mnI ps i) : Int).toNat * (2 : Nat) + (2 : Nat) ≤ (flat ps).length) (brT (pltB ((flat ps).getD (0 + (↑i : Int).toNat * (2 : Nat)) 0, (flat ps).getD (0 + (↑i : Int).toNat * (2 : Nat) + 1) 0) ((flat ps).getD (0 + (↑(mnI ps i) : Int).toNat * (2 : Nat)) 0, (flat ps).getD (0 + (↑(mnI ps i) : Int).toNat * (2 : Nat) + 1) 0)) (.leaf .normal ⟨(.slice (some ⟨1, 0, none⟩) (ps.length) (ps.length) :: topV :: topV :: .int .i64 ((↑i : Int)) :: .int .i64 (IntKind.i64.wrap ((↑i : Int) + 1)) :: topV :: topV :: topV :: topV :: topV :: topV :: topV :: topV :: topV :: topV :: topV :: topV :: topV :: topV :: topV :: topV :: topV :: topV :: topV :: topV :: topV :: topV :: topV :: topV :: topV :: topV :: topV :: topV :: topV :: topV :: []), [some ⟨.view, .ints (zs)⟩, some ⟨.row 32 2, .ints (flat ps)⟩]⟩) (.leaf .normal ⟨(.slice (some ⟨1, 0, none⟩) (ps.length) (ps.length) :: topV :: topV :: .int .i64 ((↑(mnI ps i) : Int)) :: .int .i64 (IntKind.i64.wrap ((↑i : Int) + 1)) :: topV :: topV :: topV :: topV :: topV :: topV :: topV :: topV :: topV :: topV :: topV :: topV :: topV :: topV :: topV :: topV :: topV :: topV :: topV :: topV :: topV :: topV :: topV :: topV :: topV :: topV :: topV :: topV :: topV :: topV :: []), [some ⟨.view, .ints (zs)⟩, some ⟨.row 32 2, .ints (flat ps)⟩]⟩)))))) (.leaf (.exit 0) ⟨(.slice (some ⟨1, 0, none⟩) (ps.length) (ps.length) :: topV :: topV :: .int .i64 ((↑(mnI ps i) : Int)) :: topV :: topV :: topV :: topV :: topV :: topV :: topV :: topV :: topV :: topV :: topV :: topV :: topV :: topV :: topV :: topV :: topV :: topV :: topV :: topV :: topV :: topV :: topV :: topV :: topV :: topV :: topV :: topV :: topV :: topV :: topV :: []), [some ⟨.view, .ints (zs)⟩, some ⟨.row 32 2, .ints (flat ps)⟩]⟩) := by kernel_rfl
set_option maxRecDepth 100000 in
theorem nl_cab : loopsOf c_cab = [] := by kernel_rfl
def inv_cab (ps : List Pt) (zs : List Int) : Nat → Prop := fun i => i ≤ ps.length
def me_cab (ps : List Pt) (zs : List Int) : Nat → Nat := fun i => ps.length - i
/-- A round of this loop. -/
def Round_cab (ps : List Pt) (zs : List Int) : Prop := ∀ xx : Nat, inv_cab ps zs xx → (bodyL Try.prog ECa 30 12 noL 1 c_cab k_cab 2 (s_cab ps zs xx)).ok (RoundEnd 2 (s_cab ps zs) (inv_cab ps zs) (me_cab ps zs) re_cab (rs_cab ps zs) xx) (fun _ _ => False)
def e_cab (s : St) (k : Ex → St → Tree) : Option Tree := match Nat.beq s.tmps.length 35, pickL s.tmps [0, 3, 4], s.mem with
  | true, [.slice (some ⟨1, 0, none⟩) n _, .int .i64 a0, .int .i64 i], [some ⟨.view, .ints zs⟩, some ⟨.row 32 2, .ints xs⟩] => some (needs [i = 0, a0 = 0, xs.length = n * 2, n ≤ 1000000000] (k (.exit 0) ⟨(.slice (some ⟨1, 0, none⟩) n n :: topV :: topV :: .int .i64 (mnI (ptsA n xs) n : Nat) :: topV :: topV :: topV :: topV :: topV :: topV :: topV :: topV :: topV :: topV :: topV :: topV :: topV :: topV :: topV :: topV :: topV :: topV :: topV :: topV :: topV :: topV :: topV :: topV :: topV :: topV :: topV :: topV :: topV :: topV :: topV :: []), [some ⟨.view, .ints zs⟩, some ⟨.row 32 2, .ints xs⟩]⟩))
  | _, _, _ => none
set_option maxRecDepth 100000 in
theorem round_cab (ps : List Pt) (zs : List Int) (h : ps.length ≤ 1000000000) : Round_cab ps zs := by
  intro i h1
  have h1 : i ≤ ps.length := h1
  rw [tr_cab]
  simp only [Int.toNat_natCast, Nat.zero_add, Nat.add_zero, flat_length, flat_get0, flat_get1]
  refine brT_ok.2 ⟨fun hlt => ?_, fun hge => ?_⟩
  · have hlt := of_decide_eq_true hlt
    have hi : i < ps.length := by omega
    have hk := mnI_le ps i
    have st : mnI ps (i + 1) = bif pltB (ps.getD i (0, 0)) (ps.getD (mnI ps i) (0, 0)) then i else mnI ps i := rfl
    rw [wsucc (n := ps.length) hi h]
    rcases hp : pltB (ps.getD i (0, 0)) (ps.getD (mnI ps i) (0, 0)) with _ | _
    all_goals
      rw [hp] at st
      have hp' : pltB ((ps.getD i (0, 0)).1, (ps.getD i (0, 0)).2) ((ps.getD (mnI ps i) (0, 0)).1, (ps.getD (mnI ps i) (0, 0)).2) = _ := hp
      simp only [hp', brT_t, brT_f, Tree.ok]
      repeat (refine And.intro (by first | omega | exact Nat.le_refl _) ?_)
      refine ⟨i + 1, [], ?_, ?_, rfl, rfl, ?_⟩
      · show i + 1 ≤ ps.length; omega
      · show ps.length - (i + 1) < ps.length - i; omega
      · unfold s_cab
        simp only [st, cond_true, cond_false]
        repeat' (first | exact True.intro | exact rfl | exact fun _ => rfl | refine And.intro ?_ ?_)
  · have hge := of_decide_eq_false hge
    obtain rfl : i = ps.length := by omega
    refine ⟨rfl, [], ?_⟩
    repeat' (first | exact True.intro | exact rfl | exact fun _ => rfl | refine And.intro ?_ ?_)
set_option maxRecDepth 100000 in
theorem lg_cab : LoopE Try.prog e_cab c_cab := by
  intro s k t F H hlt ht
  unfold e_cab at hlt
  split at hlt
  rotate_left
  · cases hlt
  rename_i hlen hpick hmem
  obtain ⟨tmps, mem⟩ := s
  simp only at hlen hpick hmem
  subst hmem
  obtain rfl := Option.some.inj hlt
  obtain ⟨⟨rfl, rfl, h1, h2, _⟩, ht2⟩ := needs_ok ht
  clear ht hlt
  obtain ⟨ps, rfl, rfl⟩ := even_flat h1
  rw [ptsA_flat] at ht2
  refine ⟨_, _, ht2, loop_run mixed ECa_ok (s_cab ps _) (inv_cab ps _) (me_cab ps _) re_cab (rs_cab ps _) k_cab (fun _ => rfl) (noLoops nl_cab) (round_cab ps _ h2) (x := 0) (Nat.zero_le _) (π := []) rfl ?_⟩
  refine ⟨rfl, rfl, ?_, wvs_spread' [0, 3, 4] hlen rfl ?_⟩
  · repeat' (first | exact True.intro | exact rfl | exact wv_top _ _ | exact fun _ => rfl | assumption | exact Eq.symm (by assumption) | exact vI0 rfl | refine And.intro ?_ ?_)
  · rw [hpick]
    repeat' (first | exact True.intro | exact rfl | exact wv_top _ _ | exact fun _ => rfl | assumption | exact Eq.symm (by assumption) | exact vI0 rfl | refine And.intro ?_ ?_)
end Go.Proofs.Ytieibbdfdepmbaa
