/-
  Texts that the proof needs, merged. Written by an AI agent.
-/
import Derived.Orders
import Derived.Below
import Derived.OrdersIn
import Derived.Deep.LoopGhost
import Derived.WalkKit
import Derived.Laws.CopyRow
import Derived.Laws.AppendOwn
import Derived.Laws.Slices
import Derived.Laws.MakeOwn
import Derived.Test.YtolodncpegajkabRows
import Derived.ProofKit
import Derived.OpenShut
import Derived.Carry
import Derived.IntWalk
import Derived.Test.YtolodncpegajkabProg
import Derived.WalkSpells
import Derived.WalkLawsBesides
import Derived.Lib.Hide
import Derived.Deep.QuietTactic
import Derived.BigQuiet
import Derived.KernelRfl
import Derived.Deep.RegionHeld3
import Derived.LoopTactic
import Derived.Laws.StructEq
import Derived.Laws.Tables
import Derived.RangeFuncNested
import Derived.RangeFuncLeaves
import Derived.Deep.Slices
import Derived.Deep.Fields
import Derived.ChangeSame
import Derived.Shelf.SlSortCmp.WholeK
import Derived.Deep.DeepCutAuto
import Derived.Sort.Grow
import Derived.Shelf.SlSortCmp.NoneTotal
import Derived.Test.YtolodncpegajkabZArrangementMore3
namespace Go.Proofs.Ytolodncpegajkab
set_option linter.all false
open Go.RowKit
/-- The first m points, each once where equal ones stand side by side. -/
def dmN (ps : List Q4) : Nat → List Q4
  | 0 => []
  | m + 1 => if m = 0 ∨ ps.getD m z4 ≠ ps.getD (m - 1) z4 then dmN ps m ++ [ps.getD m z4] else dmN ps m
def dmP (ps : List Q4) : List Q4 := dmN ps ps.length
def dupB (ps : List Q4) (i : Nat) : Bool := ps.getD i z4 == ps.getD (i - 1) z4
theorem dmN_le (ps : List Q4) : ∀ m, (dmN ps m).length ≤ m
  | 0 => Nat.le_refl _
  | m + 1 => by
    have := dmN_le ps m
    simp only [dmN]
    split
    · simp; omega
    · omega
theorem dmN_take {ps : List Q4} : ∀ m, m ≤ ps.length → (∀ j, 1 ≤ j → j < m → dupB ps j = false) → dmN ps m = ps.take m
  | 0, _, _ => rfl
  | m + 1, hm, h => by
    have ih := dmN_take m (by omega) fun j h1 h2 => h j h1 (by omega)
    simp only [dmN]
    have ht : ps.take (m + 1) = ps.take m ++ [ps.getD m z4] := by
      rw [List.take_add_one]
      simp [List.getD, show m < ps.length by omega]
    rw [ht, ← ih]
    rcases Nat.eq_zero_or_pos m with h0 | h0
    · rw [if_pos (.inl h0)]
    · have := h m h0 (by omega)
      unfold dupB at this
      rw [beq_eq_false_iff_ne] at this
      rw [if_pos (.inr this)]
def EDp : Env := tabE B0
theorem EDp_ok : EnvOk Try.prog EDp := tabE_ok B0_ok
noncomputable def c_dpI : Code := ((loopsOf (codeOf Try.f126))[1]?).getD .skip
def k_dpI : Ex → List Nat := keeps [0, 3, 4, 5] [(2, [0, 3]), (1, [0, 3]), (0, [0])] [2]
def s_dpI (ps : List Q4) (k0 : Nat) : Nat × Nat × (List Q4) → St := fun (j, q, X) => ⟨(.slice (some ⟨0, 0, none⟩) ps.length ps.length :: topV :: topV :: .int .i64 q :: .slice (some ⟨0, k0 * 4, none⟩) (ps.length - k0) (ps.length - k0) :: .int .i64 j :: topV :: topV :: topV :: topV :: topV :: topV :: topV :: topV :: topV :: topV :: topV :: topV :: topV :: topV :: topV :: topV :: topV :: topV :: topV :: topV :: topV :: topV :: topV :: topV :: topV :: topV :: topV :: topV :: topV :: topV :: topV :: topV :: topV :: topV :: topV :: topV :: topV :: topV :: topV :: topV :: topV :: topV :: topV :: topV :: topV :: topV :: topV :: topV :: topV :: topV :: topV :: topV :: topV :: topV :: topV :: []), [some ⟨.row 100 4, .ints (fl4 X)⟩]⟩
def re_dpI : Nat × Nat × (List Q4) → Ex := fun _ => .exit 2
def rs_dpI (ps : List Q4) (k0 : Nat) : Nat × Nat × (List Q4) → St := fun (j, q, X) => ⟨(.slice (some ⟨0, 0, none⟩) ps.length ps.length :: topV :: topV :: .int .i64 ((dmN ps ps.length).length : Nat) :: topV :: topV :: topV :: topV :: topV :: topV :: topV :: topV :: topV :: topV :: topV :: topV :: topV :: topV :: topV :: topV :: topV :: topV :: topV :: topV :: topV :: topV :: topV :: topV :: topV :: topV :: topV :: topV :: topV :: topV :: topV :: topV :: topV :: topV :: topV :: topV :: topV :: topV :: topV :: topV :: topV :: topV :: topV :: topV :: topV :: topV :: topV :: topV :: topV :: topV :: topV :: topV :: topV :: topV :: topV :: topV :: topV :: []), [some ⟨.row 100 4, .ints (fl4 (dmN ps ps.length ++ ps.drop (dmN ps ps.length).length))⟩]⟩
set_option maxRecDepth 100000 in
theorem tr_dpI (ps : List Q4) (k0 : Nat) (j q : Nat) (X : List Q4) : bodyL Try.prog EDp 30 12 noL 2 c_dpI k_dpI 1 (s_dpI ps k0 (j, q, X)) = brT (decide ((↑j : Int) < (↑(ps.length - k0) : Int))) (.need ((0 : Int) ≤ (↑j : Int) ∧ (↑j : Int) < (↑(ps.length - k0) : Int)) (.need (k0 * (4 : Nat) + (↑j : Int).toNat * (4 : Nat) + (4 : Nat) ≤ (fl4 X).length) (.need ((0 : Int) ≤ IntKind.i64.wrap ((↑j : Int) - (1 : Int)) ∧ IntKind.i64.wrap ((↑j : Int) - (1 : Int)) < (↑(ps.length - k0) : Int)) (.need (k0 * (4 : Nat) + (IntKind.i64.wrap ((↑j : Int) - (1 : Int))).toNat * (4 : Nat) + (4 : Nat) ≤ (fl4 X).length) (brT (negB true ((fl4 X).getD (k0 * 4 + (↑j : Int).toNat * 4) 0 == (fl4 X).getD (k0 * 4 + (IntKind.i64.wrap ((↑j : Int) - 1)).toNat * 4) 0 && ((fl4 X).getD (k0 * 4 + (↑j : Int).toNat * 4 + 1) 0 == (fl4 X).getD (k0 * 4 + (IntKind.i64.wrap ((↑j : Int) - 1)).toNat * 4 + 1) 0 && true) && ((fl4 X).getD (k0 * 4 + (↑j : Int).toNat * 4 + 1 + 1) 0 == (fl4 X).getD (k0 * 4 + (IntKind.i64.wrap ((↑j : Int) - 1)).toNat * 4 + 1 + 1) 0 && ((fl4 X).getD (k0 * 4 + (↑j : Int).toNat * 4 + 1 + 1 + 1) 0 == (fl4 X).getD (k0 * 4 + (IntKind.i64.wrap ((↑j : Int) - 1)).toNat * 4 + 1 + 1 + 1) 0 && true) && true))) (.need ((0 : Int) ≤ (↑j : Int) ∧ (↑j : Int) < (↑(ps.length - k0) : Int)) (.need (k0 * (4 : Nat) + (↑j : Int).toNat * (4 : Nat) + (4 : Nat) ≤ (fl4 X).length) (.need ((0 : Int) ≤ (↑q : Int) ∧ (↑q : Int) < (↑ps.length : Int)) (.need ((0 : Nat) + (↑q : Int).toNat * (4 : Nat) + (4 : Nat) ≤ (fl4 X).length) (.leaf .normal ⟨(.slice (some ⟨0, 0, none⟩) (ps.length) (ps.length) :: topV :: topV :: .int .i64 (IntKind.i64.wrap ((↑q : Int) + 1)) :: .slice (some ⟨0, k0 * 4, none⟩) (ps.length - k0) (ps.length - k0) :: .int .i64 (IntKind.i64.wrap ((↑j : Int) + 1)) :: topV :: topV :: topV :: topV :: topV :: topV :: topV :: topV :: topV :: topV :: topV :: topV :: topV :: topV :: topV :: topV :: topV :: topV :: topV :: topV :: topV :: topV :: topV :: topV :: topV :: topV :: topV :: topV :: topV :: topV :: topV :: topV :: topV :: topV :: topV :: topV :: topV :: topV :: topV :: topV :: topV :: topV :: topV :: topV :: topV :: topV :: topV :: topV :: topV :: topV :: topV :: topV :: topV :: topV :: topV :: []), [some ⟨.row 100 4, .ints (setInts (fl4 X) (0 + (↑q : Int).toNat * 4) [(fl4 X).getD (k0 * 4 + (↑j : Int).toNat * 4) 0, (fl4 X).getD (k0 * 4 + (↑j : Int).toNat * 4 + 1) 0, (fl4 X).getD (k0 * 4 + (↑j : Int).toNat * 4 + 1 + 1) 0, (fl4 X).getD (k0 * 4 + (↑j : Int).toNat * 4 + 1 + 1 + 1) 0])⟩]⟩))))) (.leaf .normal ⟨(.slice (some ⟨0, 0, none⟩) (ps.length) (ps.length) :: topV :: topV :: .int .i64 ((↑q : Int)) :: .slice (some ⟨0, k0 * 4, none⟩) (ps.length - k0) (ps.length - k0) :: .int .i64 (IntKind.i64.wrap ((↑j : Int) + 1)) :: topV :: topV :: topV :: topV :: topV :: topV :: topV :: topV :: topV :: topV :: topV :: topV :: topV :: topV :: topV :: topV :: topV :: topV :: topV :: topV :: topV :: topV :: topV :: topV :: topV :: topV :: topV :: topV :: topV :: topV :: topV :: topV :: topV :: topV :: topV :: topV :: topV :: topV :: topV :: topV :: topV :: topV :: topV :: topV :: topV :: topV :: topV :: topV :: topV :: topV :: topV :: topV :: topV :: topV :: topV :: []), [some ⟨.row 100 4, .ints (fl4 X)⟩]⟩)))))) (.leaf (.exit 2) ⟨(.slice (some ⟨0, 0, none⟩) (ps.length) (ps.length) :: topV :: topV :: .int .i64 ((↑q : Int)) :: topV :: topV :: topV :: topV :: topV :: topV :: topV :: topV :: topV :: topV :: topV :: topV :: topV :: topV :: topV :: topV :: topV :: topV :: topV :: topV :: topV :: topV :: topV :: topV :: topV :: topV :: topV :: topV :: topV :: topV :: topV :: topV :: topV :: topV :: topV :: topV :: topV :: topV :: topV :: topV :: topV :: topV :: topV :: topV :: topV :: topV :: topV :: topV :: topV :: topV :: topV :: topV :: topV :: topV :: topV :: topV :: topV :: []), [some ⟨.row 100 4, .ints (fl4 X)⟩]⟩) := by kernel_rfl
set_option maxRecDepth 100000 in
theorem nl_dpI : loopsOf c_dpI = [] := by kernel_rfl
def inv_dpI (ps : List Q4) (k0 : Nat) : Nat × Nat × (List Q4) → Prop := fun (j, q, X) => 1 ≤ j ∧ k0 + j ≤ ps.length ∧ q ≤ k0 + j - 1 ∧ q = (dmN ps (k0 + j)).length ∧ X = dmN ps (k0 + j) ++ ps.drop q
def me_dpI (ps : List Q4) (k0 : Nat) : Nat × Nat × (List Q4) → Nat := fun (j, q, X) => ps.length - (k0 + j)
/-- A round of this loop. -/
def Round_dpI (ps : List Q4) (k0 : Nat) : Prop := ∀ xx : Nat × Nat × (List Q4), inv_dpI ps k0 xx → (bodyL Try.prog EDp 30 12 noL 2 c_dpI k_dpI 1 (s_dpI ps k0 xx)).ok (RoundEnd 1 (s_dpI ps k0) (inv_dpI ps k0) (me_dpI ps k0) re_dpI (rs_dpI ps k0) xx) (fun _ _ => False)
def e_dpI (s : St) (k : Ex → St → Tree) : Option Tree := match Nat.beq s.tmps.length 61, pickL s.tmps [0, 3, 4, 5], s.mem with
  | true, [.slice (some ⟨0, 0, none⟩) n _, .int .i64 kk, .slice (some ⟨0, o, none⟩) l _, .int .i64 k2], [some ⟨.row 100 4, .ints xs⟩] => some (needs [k2 = 1, xs.length = n * 4, 0 ≤ kk, 1 ≤ kk ∧ kk < n, o = kk.toNat * 4, l = n - kk.toNat, dupB (q4A n xs) kk.toNat = true, (∀ j, 1 ≤ j → j < kk.toNat → dupB (q4A n xs) j = false), n ≤ 1000000000] (k (.exit 2) ⟨(.slice (some ⟨0, 0, none⟩) n n :: topV :: topV :: .int .i64 ((dmN (q4A n xs) n).length : Nat) :: topV :: topV :: topV :: topV :: topV :: topV :: topV :: topV :: topV :: topV :: topV :: topV :: topV :: topV :: topV :: topV :: topV :: topV :: topV :: topV :: topV :: topV :: topV :: topV :: topV :: topV :: topV :: topV :: topV :: topV :: topV :: topV :: topV :: topV :: topV :: topV :: topV :: topV :: topV :: topV :: topV :: topV :: topV :: topV :: topV :: topV :: topV :: topV :: topV :: topV :: topV :: topV :: topV :: topV :: topV :: topV :: topV :: []), [some ⟨.row 100 4, .ints (fl4 (dmN (q4A n xs) n ++ (q4A n xs).drop (dmN (q4A n xs) n).length))⟩]⟩))
  | _, _, _ => none
theorem dp_dup {ps : List Q4} {m : Nat} (h : dupB ps m = true) (hm : m ≠ 0) : dmN ps (m + 1) = dmN ps m := by
  unfold dupB at h
  simp only [dmN]
  rw [if_neg]
  rintro (h1 | h1)
  · exact hm h1
  · exact h1 (by simpa using h)
theorem dp_new {ps : List Q4} {m : Nat} (h : dupB ps m = false) : dmN ps (m + 1) = dmN ps m ++ [ps.getD m z4] := by
  unfold dupB at h
  simp only [dmN]
  rw [if_pos (.inr (by simpa using h))]
theorem dp_start {ps : List Q4} {k : Nat} (h2 : 1 ≤ (k : Int) ∧ (k : Int) < (ps.length : Int)) (h3 : dupB ps k = true) (h4 : ∀ j, 1 ≤ j → j < k → dupB ps j = false) : 1 ≤ 1 ∧ k + 1 ≤ ps.length ∧ k ≤ k + 1 - 1 ∧ k = (dmN ps (k + 1)).length ∧ ps = dmN ps (k + 1) ++ ps.drop k := by
  have e := dp_dup h3 (by omega)
  rw [dmN_take k (by omega) h4] at e
  refine ⟨Nat.le_refl _, by omega, by omega, ?_, ?_⟩
  · rw [e, List.length_take]; omega
  · rw [e, List.take_append_drop]
theorem dp_get {ps : List Q4} {q : List Q4} {j : Nat} (h : q.length ≤ j) : (q ++ ps.drop q.length).getD j z4 = ps.getD j z4 := by
  simp only [List.getD]
  rw [List.getElem?_append_right h, List.getElem?_drop]
  congr 2
  omega
theorem dp_len {ps q : List Q4} (h : q.length ≤ ps.length) : (q ++ ps.drop q.length).length = ps.length := by
  rw [List.length_append, List.length_drop]
  omega
theorem dp_set {ps q : List Q4} (h : q.length < ps.length) (z : Q4) : (q ++ ps.drop q.length).set q.length z = (q ++ [z]) ++ ps.drop (q.length + 1) := by
  rw [List.set_append_right _ _ (Nat.le_refl _), Nat.sub_self, drop_cons h z4]
  simp
theorem fl4_g2 (ps : List Q4) (k : Nat) : (fl4 ps).getD (k * 4 + 1 + 1) 0 = (ps.getD k z4).2.2.1 := fl4_get2 ps k
theorem fl4_g3 (ps : List Q4) (k : Nat) : (fl4 ps).getD (k * 4 + 1 + 1 + 1) 0 = (ps.getD k z4).2.2.2 := fl4_get3 ps k
theorem eq_q4 (a b : Q4) : ((a.1 == b.1 && (a.2.1 == b.2.1 && true)) && ((a.2.2.1 == b.2.2.1 && (a.2.2.2 == b.2.2.2 && true)) && true)) = (a == b) := by
  simp only [Bool.and_true, Bool.and_assoc]
  rfl
theorem dup_iq (ps : List Q4) (m : Nat) : (((ps.getD m z4).1 == (ps.getD (m - 1) z4).1 && ((ps.getD m z4).2.1 == (ps.getD (m - 1) z4).2.1 && true)) && (((ps.getD m z4).2.2.1 == (ps.getD (m - 1) z4).2.2.1 && ((ps.getD m z4).2.2.2 == (ps.getD (m - 1) z4).2.2.2 && true)) && true)) = dupB ps m := eq_q4 _ _
set_option maxRecDepth 100000 in
theorem round_dpI (ps : List Q4) (k0 : Nat) (h : ps.length ≤ 1000000000) : Round_dpI ps k0 := by
  rintro ⟨j, q, X⟩ ⟨h1, h2, h3, hq0, rfl⟩
  rw [tr_dpI]
  have hq : (dmN ps (k0 + j)).length ≤ ps.length := by omega
  have hX := dp_len hq
  have g1 := dp_get (ps := ps) (q := dmN ps (k0 + j)) (j := k0 + j) (by omega)
  have g2 := dp_get (ps := ps) (q := dmN ps (k0 + j)) (j := k0 + j - 1) (by omega)
  rw [← hq0] at hX g1 g2
  have a2 : IntKind.i64.wrap ((j : Int) - 1) = ((j - 1 : Nat) : Int) := by rw [wr (by omega)]; omega
  refine brT_ok.2 ⟨fun hlt => ?_, fun hge => ?_⟩
  · have hlt := of_decide_eq_true hlt
    have hm : k0 + j < ps.length := by omega
    have a1 : k0 * 4 + (j : Int).toNat * 4 = (k0 + j) * 4 := by omega
    have a3 : k0 * 4 + ((j - 1 : Nat) : Int).toNat * 4 = (k0 + j - 1) * 4 := by omega
    have a4 : 0 + (q : Int).toNat * 4 = q * 4 := by omega
    have hs := fl4_set (dmN ps (k0 + j) ++ ps.drop q) q (by omega) (ps.getD (k0 + j) z4).1 (ps.getD (k0 + j) z4).2.1 (ps.getD (k0 + j) z4).2.2.1 (ps.getD (k0 + j) z4).2.2.2
    have hs2 := dp_set (ps := ps) (q := dmN ps (k0 + j)) (by omega) (ps.getD (k0 + j) z4)
    rw [← hq0] at hs2
    rw [hs2] at hs
    simp only [a2, a1, a3, a4, wsucc (i := j) (n := ps.length) (by omega) h, wsucc (i := q) (n := ps.length) (by omega) h, fl4_get0, fl4_get1, fl4_g2, fl4_g3, fl4_length, g1, g2, dup_iq, hX, hs]
    refine ⟨by omega, by omega, by omega, by omega, brT_ok.2 ⟨fun c => ⟨by omega, by omega, by omega, by omega, ?_⟩, fun c => ?_⟩⟩
    · have hd : dupB ps (k0 + j) = false := by simpa [negB] using c
      have e := dp_new hd
      have el : q + 1 = (dmN ps (k0 + j + 1)).length := by rw [e]; simp; omega
      refine ⟨(j + 1, q + 1, dmN ps (k0 + j) ++ [ps.getD (k0 + j) z4] ++ ps.drop (q + 1)), [], ⟨by omega, by omega, by omega, el, by show _ = dmN ps (k0 + j + 1) ++ _; rw [e]⟩, ?_, rfl, by simp only [rs_dpI], ?_⟩
      · show ps.length - (k0 + (j + 1)) < ps.length - (k0 + j); omega
      · repeat' (first | exact True.intro | exact rfl | exact fun _ => rfl | (simp; done) | refine And.intro ?_ ?_)
    · have hd : dupB ps (k0 + j) = true := by simpa [negB] using c
      have e := dp_dup hd (by omega)
      refine ⟨(j + 1, q, dmN ps (k0 + j) ++ ps.drop q), [], ⟨by omega, by omega, by omega, by show _ = (dmN ps (k0 + j + 1)).length; rw [e]; exact hq0, by show _ = dmN ps (k0 + j + 1) ++ _; rw [e]⟩, ?_, rfl, by simp only [rs_dpI], ?_⟩
      · show ps.length - (k0 + (j + 1)) < ps.length - (k0 + j); omega
      · repeat' (first | exact True.intro | exact rfl | exact fun _ => rfl | (simp; done) | refine And.intro ?_ ?_)
  · have hge := of_decide_eq_false hge
    have hm : k0 + j = ps.length := by omega
    refine ⟨rfl, [], ?_⟩
    rw [hm] at hq0
    simp only [rs_dpI, hm, ← hq0]
    repeat' (first | exact True.intro | exact rfl | exact fun _ => rfl | (simp; done) | refine And.intro ?_ ?_)
set_option maxRecDepth 100000 in
theorem lg_dpI : LoopE Try.prog e_dpI c_dpI := by
  intro s k t F H hlt ht
  unfold e_dpI at hlt
  split at hlt
  rotate_left
  · cases hlt
  rename_i hlen hpick hmem
  obtain ⟨tmps, mem⟩ := s
  simp only at hlen hpick hmem
  subst hmem
  obtain rfl := Option.some.inj hlt
  obtain ⟨⟨rfl, h1, h6, h2, rfl, rfl, h3, h4, h5, _⟩, ht2⟩ := needs_ok ht
  clear ht hlt
  obtain ⟨ps, rfl, rfl⟩ := four_fl4 h1
  obtain ⟨k, rfl⟩ := Int.eq_ofNat_of_zero_le h6
  rw [q4A_fl4] at ht2 h3 h4
  simp only [Int.toNat_natCast] at ht2 h3 h4
  refine ⟨_, _, ht2, loop_run mixed EDp_ok (s_dpI ps k) (inv_dpI ps k) (me_dpI ps k) re_dpI (rs_dpI ps k) k_dpI (fun _ => rfl) (noLoops nl_dpI) (round_dpI ps k h5) (x := (1, k, ps)) (dp_start h2 h3 h4) (π := []) rfl ?_⟩
  refine ⟨rfl, rfl, ?_, wvs_spread' [0, 3, 4, 5] hlen rfl ?_⟩
  · repeat' (first | exact True.intro | exact rfl | exact wv_top _ _ | exact fun _ => rfl | assumption | exact Eq.symm (by assumption) | exact vI0 rfl | refine And.intro ?_ ?_)
  · rw [hpick]
    repeat' (first | exact True.intro | exact rfl | exact wv_top _ _ | exact fun _ => rfl | assumption | exact Eq.symm (by assumption) | exact vI0 rfl | refine And.intro ?_ ?_)
def ltDp : LT := fun j s k => match j with
  | 1 => e_dpI s k
  | _ => none
noncomputable def c_dpO : Code := ((loopsOf (codeOf Try.f126))[0]?).getD .skip
def k_dpO : Ex → List Nat := keeps [0, 3] [(0, [0])] [2]
def s_dpO (ps : List Q4) : Nat → St := fun i => ⟨(.slice (some ⟨0, 0, none⟩) ps.length ps.length :: topV :: topV :: .int .i64 i :: topV :: topV :: topV :: topV :: topV :: topV :: topV :: topV :: topV :: topV :: topV :: topV :: topV :: topV :: topV :: topV :: topV :: topV :: topV :: topV :: topV :: topV :: topV :: topV :: topV :: topV :: topV :: topV :: topV :: topV :: topV :: topV :: topV :: topV :: topV :: topV :: topV :: topV :: topV :: topV :: topV :: topV :: topV :: topV :: topV :: topV :: topV :: topV :: topV :: topV :: topV :: topV :: topV :: topV :: topV :: topV :: topV :: []), [some ⟨.row 100 4, .ints (fl4 ps)⟩]⟩
def re_dpO (ps : List Q4) : Nat → Ex := fun i => bif allQ (fun j => !(dupB ps j)) i (ps.length - i) then .exit 0 else .ret
def rs_dpO (ps : List Q4) : Nat → St := fun i => bif allQ (fun j => !(dupB ps j)) i (ps.length - i) then ⟨(.slice (some ⟨0, 0, none⟩) ps.length ps.length :: topV :: topV :: topV :: topV :: topV :: topV :: topV :: topV :: topV :: topV :: topV :: topV :: topV :: topV :: topV :: topV :: topV :: topV :: topV :: topV :: topV :: topV :: topV :: topV :: topV :: topV :: topV :: topV :: topV :: topV :: topV :: topV :: topV :: topV :: topV :: topV :: topV :: topV :: topV :: topV :: topV :: topV :: topV :: topV :: topV :: topV :: topV :: topV :: topV :: topV :: topV :: topV :: topV :: topV :: topV :: topV :: topV :: topV :: topV :: topV :: []), [some ⟨.row 100 4, .ints (fl4 ps)⟩]⟩ else ⟨(topV :: topV :: .slice (some ⟨0, 0, none⟩) (dmP ps).length (dmP ps).length :: topV :: topV :: topV :: topV :: topV :: topV :: topV :: topV :: topV :: topV :: topV :: topV :: topV :: topV :: topV :: topV :: topV :: topV :: topV :: topV :: topV :: topV :: topV :: topV :: topV :: topV :: topV :: topV :: topV :: topV :: topV :: topV :: topV :: topV :: topV :: topV :: topV :: topV :: topV :: topV :: topV :: topV :: topV :: topV :: topV :: topV :: topV :: topV :: topV :: topV :: topV :: topV :: topV :: topV :: topV :: topV :: topV :: topV :: []), [some ⟨.row 100 4, .ints (fl4 (dmP ps))⟩]⟩
set_option maxRecDepth 100000 in
theorem tr_dpO (ps : List Q4) (i : Nat) : bodyL Try.prog EDp 30 12 ltDp 1 c_dpO k_dpO 1 (s_dpO ps i) = brT (decide ((↑i : Int) < (↑ps.length : Int))) (.need ((0 : Int) ≤ (↑i : Int) ∧ (↑i : Int) < (↑ps.length : Int)) (.need ((0 : Nat) + (↑i : Int).toNat * (4 : Nat) + (4 : Nat) ≤ (fl4 ps).length) (.need ((0 : Int) ≤ IntKind.i64.wrap ((↑i : Int) - (1 : Int)) ∧ IntKind.i64.wrap ((↑i : Int) - (1 : Int)) < (↑ps.length : Int)) (.need ((0 : Nat) + (IntKind.i64.wrap ((↑i : Int) - (1 : Int))).toNat * (4 : Nat) + (4 : Nat) ≤ (fl4 ps).length) (brT (negB false ((fl4 ps).getD (0 + (↑i : Int).toNat * 4) 0 == (fl4 ps).getD (0 + (IntKind.i64.wrap ((↑i : Int) - 1)).toNat * 4) 0 && ((fl4 ps).getD (0 + (↑i : Int).toNat * 4 + 1) 0 == (fl4 ps).getD (0 + (IntKind.i64.wrap ((↑i : Int) - 1)).toNat * 4 + 1) 0 && true) && ((fl4 ps).getD (0 + (↑i : Int).toNat * 4 + 1 + 1) 0 == (fl4 ps).getD (0 + (IntKind.i64.wrap ((↑i : Int) - 1)).toNat * 4 + 1 + 1) 0 && ((fl4 ps).getD (0 + (↑i : Int).toNat * 4 + 1 + 1 + 1) 0 == (fl4 ps).getD (0 + (IntKind.i64.wrap ((↑i : Int) - 1)).toNat * 4 + 1 + 1 + 1) 0 && true) && true))) (.need ((0 : Int) ≤ bndI (some (IntKind.i64, (↑i : Int))) (0 : Int) ∧ bndI (some (IntKind.i64, (↑i : Int))) (0 : Int) ≤ bndI none (↑ps.length : Int) ∧ bndI none (↑ps.length : Int) ≤ (↑ps.length : Int)) (.need ((1 : Int) = (1 : Int)) (.need ((fl4 ps).length = ps.length * (4 : Nat)) (.need ((0 : Int) ≤ (↑i : Int)) (.need ((1 : Int) ≤ (↑i : Int) ∧ (↑i : Int) < (↑ps.length : Int)) (.need ((0 : Nat) + (bndI (some (IntKind.i64, (↑i : Int))) (0 : Int)).toNat * (4 : Nat) = (↑i : Int).toNat * (4 : Nat)) (.need ((bndI none (↑ps.length : Int)).toNat - (bndI (some (IntKind.i64, (↑i : Int))) (0 : Int)).toNat = ps.length - (↑i : Int).toNat) (.need (dupB (q4A ps.length (fl4 ps)) (↑i : Int).toNat = true) (.need (∀ (j : Nat), (1 : Nat) ≤ j → j < (↑i : Int).toNat → dupB (q4A ps.length (fl4 ps)) j = false) (.need (ps.length ≤ (1000000000 : Nat)) (.need ((0 : Int) ≤ bndI (some (IntKind.i64, (↑(dmN (q4A ps.length (fl4 ps)) ps.length).length : Int))) (0 : Int) ∧ bndI (some (IntKind.i64, (↑(dmN (q4A ps.length (fl4 ps)) ps.length).length : Int))) (0 : Int) ≤ bndI none (↑ps.length : Int) ∧ bndI none (↑ps.length : Int) ≤ (↑ps.length : Int)) (.need ((0 : Nat) + (bndI (some (IntKind.i64, (↑(dmN (q4A ps.length (fl4 ps)) ps.length).length : Int))) (0 : Int)).toNat * (4 : Nat) + ((bndI none (↑ps.length : Int)).toNat - (bndI (some (IntKind.i64, (↑(dmN (q4A ps.length (fl4 ps)) ps.length).length : Int))) (0 : Int)).toNat) * (4 : Nat) ≤ (fl4 (dmN (q4A ps.length (fl4 ps)) ps.length ++ List.drop (dmN (q4A ps.length (fl4 ps)) ps.length).length (q4A ps.length (fl4 ps)))).length) (.need ((0 : Int) ≤ bndI none (0 : Int) ∧ bndI none (0 : Int) ≤ bndI (some (IntKind.i64, (↑(dmN (q4A ps.length (fl4 ps)) ps.length).length : Int))) (↑ps.length : Int) ∧ bndI (some (IntKind.i64, (↑(dmN (q4A ps.length (fl4 ps)) ps.length).length : Int))) (↑ps.length : Int) ≤ (↑ps.length : Int)) (.leaf .ret ⟨(topV :: topV :: .slice (some ⟨0, 0, none⟩) ((bndI (some (IntKind.i64, (↑(dmN (q4A ps.length (fl4 ps)) ps.length).length : Int))) (↑ps.length : Int)).toNat - 0) ((bndI (some (IntKind.i64, (↑(dmN (q4A ps.length (fl4 ps)) ps.length).length : Int))) (↑ps.length : Int)).toNat - 0) :: topV :: topV :: topV :: topV :: topV :: topV :: topV :: topV :: topV :: topV :: topV :: topV :: topV :: topV :: topV :: topV :: topV :: topV :: topV :: topV :: topV :: topV :: topV :: topV :: topV :: topV :: topV :: topV :: topV :: topV :: topV :: topV :: topV :: topV :: topV :: topV :: topV :: topV :: topV :: topV :: topV :: topV :: topV :: topV :: topV :: topV :: topV :: topV :: topV :: topV :: topV :: topV :: topV :: topV :: topV :: topV :: topV :: topV :: []), [some ⟨.row 100 4, .ints (List.take (0 + (bndI (some (IntKind.i64, (↑(dmN (q4A ps.length (fl4 ps)) ps.length).length : Int))) 0).toNat * 4) (fl4 (dmN (q4A ps.length (fl4 ps)) ps.length ++ List.drop (dmN (q4A ps.length (fl4 ps)) ps.length).length (q4A ps.length (fl4 ps)))))⟩]⟩)))))))))))))) (.leaf .normal ⟨(.slice (some ⟨0, 0, none⟩) (ps.length) (ps.length) :: topV :: topV :: .int .i64 (IntKind.i64.wrap ((↑i : Int) + 1)) :: topV :: topV :: topV :: topV :: topV :: topV :: topV :: topV :: topV :: topV :: topV :: topV :: topV :: topV :: topV :: topV :: topV :: topV :: topV :: topV :: topV :: topV :: topV :: topV :: topV :: topV :: topV :: topV :: topV :: topV :: topV :: topV :: topV :: topV :: topV :: topV :: topV :: topV :: topV :: topV :: topV :: topV :: topV :: topV :: topV :: topV :: topV :: topV :: topV :: topV :: topV :: topV :: topV :: topV :: topV :: topV :: topV :: []), [some ⟨.row 100 4, .ints (fl4 ps)⟩]⟩)))))) (.leaf (.exit 0) ⟨(.slice (some ⟨0, 0, none⟩) (ps.length) (ps.length) :: topV :: topV :: topV :: topV :: topV :: topV :: topV :: topV :: topV :: topV :: topV :: topV :: topV :: topV :: topV :: topV :: topV :: topV :: topV :: topV :: topV :: topV :: topV :: topV :: topV :: topV :: topV :: topV :: topV :: topV :: topV :: topV :: topV :: topV :: topV :: topV :: topV :: topV :: topV :: topV :: topV :: topV :: topV :: topV :: topV :: topV :: topV :: topV :: topV :: topV :: topV :: topV :: topV :: topV :: topV :: topV :: topV :: topV :: topV :: topV :: []), [some ⟨.row 100 4, .ints (fl4 ps)⟩]⟩) := by kernel_rfl
def inv_dpO (ps : List Q4) : Nat → Prop := fun i => 1 ≤ i ∧ i ≤ ps.length ∧ ∀ j, 1 ≤ j → j < i → dupB ps j = false
def me_dpO (ps : List Q4) : Nat → Nat := fun i => ps.length - i
/-- A round of this loop. -/
def Round_dpO (ps : List Q4) : Prop := ∀ xx : Nat, inv_dpO ps xx → (bodyL Try.prog EDp 30 12 ltDp 1 c_dpO k_dpO 1 (s_dpO ps xx)).ok (RoundEnd 1 (s_dpO ps) (inv_dpO ps) (me_dpO ps) (re_dpO ps) (rs_dpO ps) xx) (fun _ _ => False)
def e_dpO (s : St) (k : Ex → St → Tree) : Option Tree := match Nat.beq s.tmps.length 61, pickL s.tmps [0, 3], s.mem with
  | true, [.slice (some ⟨0, 0, none⟩) n _, .int .i64 i], [some ⟨.row 100 4, .ints xs⟩] => some (needs [i = 1, xs.length = n * 4, 2 ≤ n, n ≤ 1000000000] (brT (allQ (fun j => !(dupB (q4A n xs) j)) 1 (n - 1)) (k (.exit 0) ⟨(.slice (some ⟨0, 0, none⟩) n n :: topV :: topV :: topV :: topV :: topV :: topV :: topV :: topV :: topV :: topV :: topV :: topV :: topV :: topV :: topV :: topV :: topV :: topV :: topV :: topV :: topV :: topV :: topV :: topV :: topV :: topV :: topV :: topV :: topV :: topV :: topV :: topV :: topV :: topV :: topV :: topV :: topV :: topV :: topV :: topV :: topV :: topV :: topV :: topV :: topV :: topV :: topV :: topV :: topV :: topV :: topV :: topV :: topV :: topV :: topV :: topV :: topV :: topV :: topV :: topV :: []), [some ⟨.row 100 4, .ints xs⟩]⟩) (k .ret ⟨(topV :: topV :: .slice (some ⟨0, 0, none⟩) (dmP (q4A n xs)).length (dmP (q4A n xs)).length :: topV :: topV :: topV :: topV :: topV :: topV :: topV :: topV :: topV :: topV :: topV :: topV :: topV :: topV :: topV :: topV :: topV :: topV :: topV :: topV :: topV :: topV :: topV :: topV :: topV :: topV :: topV :: topV :: topV :: topV :: topV :: topV :: topV :: topV :: topV :: topV :: topV :: topV :: topV :: topV :: topV :: topV :: topV :: topV :: topV :: topV :: topV :: topV :: topV :: topV :: topV :: topV :: topV :: topV :: topV :: topV :: topV :: topV :: []), [some ⟨.row 100 4, .ints (fl4 (dmP (q4A n xs)))⟩]⟩)))
  | _, _, _ => none
theorem bnd_someD (x d : Int) : bndI (some (IntKind.i64, x)) d = x := rfl
theorem bnd_noneD (d : Int) : bndI none d = d := rfl
set_option maxRecDepth 100000 in
theorem in_dpO : loopsOf c_dpO = [c_dpI] := by kernel_rfl
theorem ltDp_good : LoopsGood Try.prog ltDp 1 c_dpO := by
  intro i d hd s k t F H hlt ht
  rw [in_dpO] at hd
  cases i with
  | zero =>
    obtain rfl : c_dpI = d := by simpa using hd
    exact lg_dpI s k t F H hlt ht
  | succ i => simp at hd
set_option maxRecDepth 100000 in
theorem round_dpO (ps : List Q4) (h : ps.length ≤ 1000000000) : Round_dpO ps := by
  rintro i ⟨h1, h2, h3⟩
  rw [tr_dpO]
  simp only [q4A_fl4, bnd_someD, bnd_noneD, Int.toNat_natCast, Nat.zero_add, Nat.sub_zero]
  refine brT_ok.2 ⟨fun hlt => ?_, fun hge => ?_⟩
  · have hi : i < ps.length := by have := of_decide_eq_true hlt; omega
    have w1 : IntKind.i64.wrap ((i : Int) - 1) = ((i - 1 : Nat) : Int) := by rw [wr (by omega)]; omega
    have step : allQ (fun j => !(dupB ps j)) i (ps.length - i) = (!(dupB ps i) && allQ (fun j => !(dupB ps j)) (i + 1) (ps.length - (i + 1))) := allQ_step hi
    have hle := dmN_le ps ps.length
    have hX := dp_len hle
    simp only [w1, Int.toNat_natCast, fl4_get0, fl4_get1, fl4_g2, fl4_g3, fl4_length, dup_iq, hX, wsucc hi h]
    refine ⟨by omega, by omega, by omega, by omega, brT_ok.2 ⟨fun q => ?_, fun q => ?_⟩⟩
    · have hd : dupB ps i = true := by simpa [negB] using q
      have e : allQ (fun j => !(dupB ps j)) i (ps.length - i) = false := by rw [step, hd]; rfl
      have hf : List.take ((dmN ps ps.length).length * 4) (fl4 (dmN ps ps.length ++ List.drop (dmN ps ps.length).length ps)) = fl4 (dmP ps) := by
        rw [fl4_take, List.take_left]
        rfl
      rw [hf]
      refine ⟨by omega, by first | exact True.intro | rfl, by first | exact True.intro | rfl, by omega, by omega, by first | exact True.intro | rfl, by first | exact True.intro | rfl, hd, h3, h, by omega, by omega, by omega, ?_⟩
      refine ⟨by simp only [re_dpO, e, cond_false], [], ?_⟩
      simp only [rs_dpO, e, cond_false]
      repeat' (first | exact True.intro | exact rfl | exact fun _ => rfl | (simp; done) | refine And.intro ?_ ?_)
    · have hd : dupB ps i = false := by simpa [negB] using q
      have e : allQ (fun j => !(dupB ps j)) i (ps.length - i) = allQ (fun j => !(dupB ps j)) (i + 1) (ps.length - (i + 1)) := by rw [step, hd]; rfl
      refine ⟨i + 1, [], ⟨by omega, by omega, fun j g1 g2 => ?_⟩, ?_, by simp only [re_dpO, e], by simp only [rs_dpO, e], ?_⟩
      · rcases Nat.lt_or_ge j i with g | g
        · exact h3 j g1 g
        · obtain rfl : j = i := by omega
          exact hd
      · show ps.length - (i + 1) < ps.length - i; omega
      · repeat' (first | exact True.intro | exact rfl | exact fun _ => rfl | (simp; done) | refine And.intro ?_ ?_)
  · have hge := of_decide_eq_false hge
    obtain rfl : i = ps.length := by omega
    have e : allQ (fun j => !(dupB ps j)) ps.length (ps.length - ps.length) = true := allQ_end (by omega)
    refine ⟨by simp only [re_dpO, e, cond_true], [], ?_⟩
    simp only [rs_dpO, e, cond_true]
    repeat' (first | exact True.intro | exact rfl | exact fun _ => rfl | (simp; done) | refine And.intro ?_ ?_)
set_option maxRecDepth 100000 in
theorem lg_dpO : LoopE Try.prog e_dpO c_dpO := by
  intro s k t F H hlt ht
  unfold e_dpO at hlt
  split at hlt
  rotate_left
  · cases hlt
  rename_i hlen hpick hmem
  obtain ⟨tmps, mem⟩ := s
  simp only at hlen hpick hmem
  subst hmem
  obtain rfl := Option.some.inj hlt
  obtain ⟨⟨rfl, h1, h2, h5, _⟩, ht2⟩ := needs_ok ht
  clear ht hlt
  obtain ⟨ps, rfl, rfl⟩ := four_fl4 h1
  rw [q4A_fl4] at ht2
  refine ⟨_, _, pick2k ht2, loop_run mixed EDp_ok (s_dpO ps) (inv_dpO ps) (me_dpO ps) (re_dpO ps) (rs_dpO ps) k_dpO (fun _ => rfl) ltDp_good (round_dpO ps h5) (x := 1) ⟨Nat.le_refl _, by omega, fun j h1 h2 => by omega⟩ (π := []) rfl ?_⟩
  refine ⟨rfl, rfl, ?_, wvs_spread' [0, 3] hlen rfl ?_⟩
  · repeat' (first | exact True.intro | exact rfl | exact wv_top _ _ | exact fun _ => rfl | assumption | exact Eq.symm (by assumption) | exact vI0 rfl | refine And.intro ?_ ?_)
  · rw [hpick]
    repeat' (first | exact True.intro | exact rfl | exact wv_top _ _ | exact fun _ => rfl | assumption | exact Eq.symm (by assumption) | exact vI0 rfl | refine And.intro ?_ ?_)
theorem Lr_dpO {fn : Func} (hf : Try.prog.funcs[126]? = some fn) : LoopsGood Try.prog (lt1 e_dpO) 0 (codeOf fn) := by
  obtain rfl := fn_is Try.func126 hf
  exact lt1_good lg_dpO
def LDp : FuncId → LT := fun f => match f with
  | 126 => lt1 e_dpO
  | _ => noL
def EDq : Env := mkE B0 (fun _ _ => none) LDp
theorem EDq_ok : EnvOk Try.prog EDq := mkEOk B0_ok (fun _ _ _ _ _ h => (by cases h)) (by
  intro f fn hf
  unfold LDp
  split
  all_goals first | with_reducible exact Lr_dpO hf | exact noL_good)
set_option maxRecDepth 100000 in
theorem tr_dpF (ps : List Q4) : bodyM Try.prog EDq (runM Try.prog EDq 30 12) 30 126 [.slice (some ⟨0, 0, none⟩) ps.length ps.length] [some ⟨.row 100 4, .ints (fl4 ps)⟩] .fin = brT (decide ((↑ps.length : Int) < 2)) (.fin (.slice (some ⟨0, 0, none⟩) (ps.length) (ps.length)) [some ⟨.row 100 4, .ints (fl4 ps)⟩]) (.need ((1 : Int) = (1 : Int)) (.need ((fl4 ps).length = ps.length * (4 : Nat)) (.need ((2 : Nat) ≤ ps.length) (.need (ps.length ≤ (1000000000 : Nat)) (brT (allQ (fun j => !dupB (q4A ps.length (fl4 ps)) j) 1 (ps.length - 1)) (.fin (.slice (some ⟨0, 0, none⟩) (ps.length) (ps.length)) [some ⟨.row 100 4, .ints (fl4 ps)⟩]) (.fin (.slice (some ⟨0, 0, none⟩) ((dmP (q4A ps.length (fl4 ps))).length) ((dmP (q4A ps.length (fl4 ps))).length)) [some ⟨.row 100 4, .ints (fl4 (dmP (q4A ps.length (fl4 ps))))⟩])))))) := by kernel_rfl
theorem dpt_row (ps : List Q4) (h : ps.length ≤ 1000000000) : (bodyM Try.prog EDq (runM Try.prog EDq 30 12) 30 126 [.slice (some ⟨0, 0, none⟩) ps.length ps.length] [some ⟨.row 100 4, .ints (fl4 ps)⟩] .fin).ok (fun _ _ => False) (fun u mem' => RowIs (.slice (some ⟨0, 0, none⟩) (dmP ps).length (dmP ps).length) ⟨.row 100 4, .ints (fl4 (dmP ps))⟩ u mem') := by
  rw [tr_dpF]
  simp only [q4A_fl4]
  have same : (∀ j, 1 ≤ j → j < ps.length → dupB ps j = false) → dmP ps = ps := fun hn => by
    unfold dmP
    rw [dmN_take _ (Nat.le_refl _) hn, List.take_length]
  refine brT_ok.2 ⟨fun hlt => ?_, fun hge => ?_⟩
  · have hlt := of_decide_eq_true hlt
    rw [same fun j h1 h2 => by omega]
    exact ⟨some 0, ⟨rfl, rfl, rfl⟩, rfl, rfl, rfl⟩
  · have hge := of_decide_eq_false hge
    refine ⟨by first | exact True.intro | rfl, fl4_length ps, by omega, h, brT_ok.2 ⟨fun q => ?_, fun q => ?_⟩⟩
    · have q : allQ (fun j => !(dupB ps j)) 1 (ps.length - 1) = true := q
      rw [same fun j h1 h2 => by simpa using allQ_get _ _ q j h1 (by omega)]
      exact ⟨some 0, ⟨rfl, rfl, rfl⟩, rfl, rfl, rfl⟩
    · exact ⟨some 0, ⟨rfl, rfl, rfl⟩, rfl, rfl, rfl⟩
def dptS : OSpec := fun e sz l xs rest => match e, sz, rest with
  | 100, 4, [] => some (.slice (some ⟨0, 0, none⟩) (dmP (q4A l xs)).length (dmP (q4A l xs)).length, ⟨.row 100 4, .ints (fl4 (dmP (q4A l xs)))⟩, [xs.length = l * 4, l ≤ 1000000000])
  | _, _, _ => none
set_option maxRecDepth 100000 in
theorem dptS_ok : OSpecOk Try.prog 126 dptS := by
  intro e sz l xs rest v b C h hC
  unfold dptS at h
  split at h
  rotate_left
  · cases h
  obtain ⟨rfl, rfl, rfl⟩ : _ ∧ _ ∧ _ := by simpa using h
  obtain ⟨h1, h2, _⟩ := hC
  obtain ⟨ps, rfl, rfl⟩ := four_fl4 h1
  rw [q4A_fl4]
  exact ⟨rfl, EDq, 30, 12, EDq_ok, dpt_row ps h2⟩
end Go.Proofs.Ytolodncpegajkab
namespace Go.Proofs.Ytolodncpegajkab
set_option linter.all false
open Go.RowKit
def TAr : Tab := fun f ds => match f with
  | 81 => pRatio ds
  | 147 => pRatio ds
  | f => TVg f ds
theorem TAr_ok : TabOk Try.prog TAr := by
  intro f ds v C h hC
  unfold TAr at h
  (try split at h)
  all_goals first | with_reducible exact T1r_8 h hC | with_reducible exact T1r_9 h hC | exact TVg_ok _ _ _ _ h hC
def JSr : TabJ := consJ 124 (fun _ => so4 125) noJ
theorem JSr_ok : GSound Try.prog JSr.g := so4_sound (failG_sound _)
def JSs : TabJ := consR 126 (owG dptS) JSr
theorem JSs_ok : GSound Try.prog JSs.g := consO_ok mixed JSr_ok (entersB_res (by kernel_rfl)).1 dptS_ok
def EAr : Env := withT (mkE TAr (fun _ _ => none) (fun _ => noL)) JSs
theorem EAr_ok : EnvOk Try.prog EAr := withT_ok (mkEOk TAr_ok (fun _ _ _ _ _ h => (by cases h)) (fun _ _ _ => noL_good)) JSs_ok
end Go.Proofs.Ytolodncpegajkab
namespace Go.Proofs.Ytolodncpegajkab
set_option linter.all false
open Go.RowKit
/-- The point where two graphs of different slopes meet. -/
def meQ (a b : Int) (h : Pt) : Q4 := (qN (h.2 - b) (h.1 - a), qD (h.2 - b) (h.1 - a), qN (a * h.2 - h.1 * b) (h.1 - a), qD (a * h.2 - h.1 * b) (h.1 - a))
def meL (gs : List Pt) (a b : Int) : Nat → List Q4
  | 0 => []
  | i + 1 => bif (gs.getD i (0, 0)).1 == a then meL gs a b i else meL gs a b i ++ [meQ a b (gs.getD i (0, 0))]
theorem meL_len (gs : List Pt) (a b : Int) : ∀ i, (meL gs a b i).length ≤ i
  | 0 => Nat.le_refl _
  | i + 1 => by
    have := meL_len gs a b i
    simp only [meL]
    cases (gs.getD i (0, 0)).1 == a <;> simp <;> omega
noncomputable def c_mee : Code := ((loopsOf (codeOf Try.f82))[0]?).getD .skip
def k_mee : Ex → List Nat := keeps [2, 5, 8, 9, 10] [(0, [5])] [4]
def s_mee (gs : List Pt) (a b : Int) : Nat → St := fun i => ⟨[topV, topV, .pointer (some ⟨2, 0, none⟩), topV, topV, .slice (some ⟨3, 0, none⟩) (meL gs a b i).length (meL gs a b i).length, topV, topV, .slice (some ⟨1, 0, none⟩) gs.length gs.length, .int .i64 gs.length, .int .i64 i, topV, topV, topV, topV, topV, topV, topV, topV, topV, topV, topV, topV, topV, topV, topV, topV, topV, topV, topV], [none, some ⟨.view, .ints (flat gs)⟩, some ⟨.box, .vals [.int .i64 a, .int .i64 b]⟩, some ⟨.row 100 4, .ints (fl4 (meL gs a b i))⟩]⟩
def re_mee : Nat → Ex := fun _ => .exit 0
def rs_mee (gs : List Pt) (a b : Int) : Nat → St := fun i => ⟨[topV, topV, topV, topV, topV, .slice (some ⟨3, 0, none⟩) (meL gs a b gs.length).length (meL gs a b gs.length).length, topV, topV, topV, topV, topV, topV, topV, topV, topV, topV, topV, topV, topV, topV, topV, topV, topV, topV, topV, topV, topV, topV, topV, topV], [none, some ⟨.view, .ints (flat gs)⟩, some ⟨.box, .vals [.int .i64 a, .int .i64 b]⟩, some ⟨.row 100 4, .ints (fl4 (meL gs a b gs.length))⟩]⟩
set_option maxRecDepth 100000 in
theorem tr_mee (gs : List Pt) (a b : Int) (i : Nat) : bodyL Try.prog EAr 30 12 noL 1 c_mee k_mee 20 (s_mee gs a b i) = brT (decide ((↑i : Int) < (↑gs.length : Int))) (.need ((0 : Int) ≤ (↑i : Int) ∧ (↑i : Int) < (↑gs.length : Int)) (.need ((0 : Nat) + (↑i : Int).toNat * (2 : Nat) + (2 : Nat) ≤ (flat gs).length) (brT (!(flat gs).getD (0 + (↑i : Int).toNat * 2) 0 == a) (.need (big (IntKind.i64.wrap (IntKind.i64.wrap (b * (-1 : Int)) - IntKind.i64.wrap ((flat gs).getD ((0 : Nat) + (↑i : Int).toNat * (2 : Nat) + (1 : Nat)) (0 : Int) * (-1 : Int))))) (.need (big (IntKind.i64.wrap (IntKind.i64.wrap (a * (-1 : Int)) - IntKind.i64.wrap ((flat gs).getD ((0 : Nat) + (↑i : Int).toNat * (2 : Nat)) (0 : Int) * (-1 : Int))))) (.need (¬IntKind.i64.wrap (IntKind.i64.wrap (a * (-1 : Int)) - IntKind.i64.wrap ((flat gs).getD ((0 : Nat) + (↑i : Int).toNat * (2 : Nat)) (0 : Int) * (-1 : Int))) = (0 : Int)) (.need (big (IntKind.i64.wrap (IntKind.i64.wrap (a * (flat gs).getD ((0 : Nat) + (↑i : Int).toNat * (2 : Nat) + (1 : Nat)) (0 : Int)) - IntKind.i64.wrap ((flat gs).getD ((0 : Nat) + (↑i : Int).toNat * (2 : Nat)) (0 : Int) * b)))) (.need (big (IntKind.i64.wrap (IntKind.i64.wrap (a * (-1 : Int)) - IntKind.i64.wrap ((flat gs).getD ((0 : Nat) + (↑i : Int).toNat * (2 : Nat)) (0 : Int) * (-1 : Int))))) (.need (¬IntKind.i64.wrap (IntKind.i64.wrap (a * (-1 : Int)) - IntKind.i64.wrap ((flat gs).getD ((0 : Nat) + (↑i : Int).toNat * (2 : Nat)) (0 : Int) * (-1 : Int))) = (0 : Int)) (.need (((meL gs a b i).length + (1 : Nat)) * (32 : Nat) ≤ (140737488355328 : Nat) ∧ (meL gs a b i).length + (1 : Nat) ≤ (1000000 : Nat)) (.need ((0 : Nat) + (meL gs a b i).length * (4 : Nat) ≤ (fl4 (meL gs a b i)).length) (.leaf .normal ⟨[topV, topV, .pointer (some ⟨2, 0, none⟩), topV, topV, .slice (some ⟨9, 0, none⟩) ((meL gs a b i).length + 1) ((meL gs a b i).length + 1), topV, topV, .slice (some ⟨1, 0, none⟩) (gs.length) (gs.length), .int .i64 ((↑gs.length : Int)), .int .i64 (IntKind.i64.wrap ((↑i : Int) + 1)), topV, topV, topV, topV, topV, topV, topV, topV, topV, topV, topV, topV, topV, topV, topV, topV, topV, topV, topV], [none, some ⟨.view, .ints (flat gs)⟩, some ⟨.box, .vals [.int .i64 (a), .int .i64 (b)]⟩, some deadB, some ⟨.box, .vals [.int .i64 ((flat gs).getD (0 + (↑i : Int).toNat * 2) 0), .int .i64 ((flat gs).getD (0 + (↑i : Int).toNat * 2 + 1) 0)]⟩, none, none, none, some ⟨.row 100 4, .vals [.int .i64 (qN (IntKind.i64.wrap (IntKind.i64.wrap (b * -1) - IntKind.i64.wrap ((flat gs).getD (0 + (↑i : Int).toNat * 2 + 1) 0 * -1))) (IntKind.i64.wrap (IntKind.i64.wrap (a * -1) - IntKind.i64.wrap ((flat gs).getD (0 + (↑i : Int).toNat * 2) 0 * -1)))), .int .i64 (qD (IntKind.i64.wrap (IntKind.i64.wrap (b * -1) - IntKind.i64.wrap ((flat gs).getD (0 + (↑i : Int).toNat * 2 + 1) 0 * -1))) (IntKind.i64.wrap (IntKind.i64.wrap (a * -1) - IntKind.i64.wrap ((flat gs).getD (0 + (↑i : Int).toNat * 2) 0 * -1)))), .int .i64 (qN (IntKind.i64.wrap (IntKind.i64.wrap (a * (flat gs).getD (0 + (↑i : Int).toNat * 2 + 1) 0) - IntKind.i64.wrap ((flat gs).getD (0 + (↑i : Int).toNat * 2) 0 * b))) (IntKind.i64.wrap (IntKind.i64.wrap (a * -1) - IntKind.i64.wrap ((flat gs).getD (0 + (↑i : Int).toNat * 2) 0 * -1)))), .int .i64 (qD (IntKind.i64.wrap (IntKind.i64.wrap (a * (flat gs).getD (0 + (↑i : Int).toNat * 2 + 1) 0) - IntKind.i64.wrap ((flat gs).getD (0 + (↑i : Int).toNat * 2) 0 * b))) (IntKind.i64.wrap (IntKind.i64.wrap (a * -1) - IntKind.i64.wrap ((flat gs).getD (0 + (↑i : Int).toNat * 2) 0 * -1))))]⟩, some ⟨.row 100 4, .ints (List.take ((meL gs a b i).length * 4) (List.drop 0 (fl4 (meL gs a b i))) ++ [qN (IntKind.i64.wrap (IntKind.i64.wrap (b * -1) - IntKind.i64.wrap ((flat gs).getD (0 + (↑i : Int).toNat * 2 + 1) 0 * -1))) (IntKind.i64.wrap (IntKind.i64.wrap (a * -1) - IntKind.i64.wrap ((flat gs).getD (0 + (↑i : Int).toNat * 2) 0 * -1))), qD (IntKind.i64.wrap (IntKind.i64.wrap (b * -1) - IntKind.i64.wrap ((flat gs).getD (0 + (↑i : Int).toNat * 2 + 1) 0 * -1))) (IntKind.i64.wrap (IntKind.i64.wrap (a * -1) - IntKind.i64.wrap ((flat gs).getD (0 + (↑i : Int).toNat * 2) 0 * -1))), qN (IntKind.i64.wrap (IntKind.i64.wrap (a * (flat gs).getD (0 + (↑i : Int).toNat * 2 + 1) 0) - IntKind.i64.wrap ((flat gs).getD (0 + (↑i : Int).toNat * 2) 0 * b))) (IntKind.i64.wrap (IntKind.i64.wrap (a * -1) - IntKind.i64.wrap ((flat gs).getD (0 + (↑i : Int).toNat * 2) 0 * -1))), qD (IntKind.i64.wrap (IntKind.i64.wrap (a * (flat gs).getD (0 + (↑i : Int).toNat * 2 + 1) 0) - IntKind.i64.wrap ((flat gs).getD (0 + (↑i : Int).toNat * 2) 0 * b))) (IntKind.i64.wrap (IntKind.i64.wrap (a * -1) - IntKind.i64.wrap ((flat gs).getD (0 + (↑i : Int).toNat * 2) 0 * -1)))])⟩]⟩))))))))) (.leaf .normal ⟨[topV, topV, .pointer (some ⟨2, 0, none⟩), topV, topV, .slice (some ⟨3, 0, none⟩) ((meL gs a b i).length) ((meL gs a b i).length), topV, topV, .slice (some ⟨1, 0, none⟩) (gs.length) (gs.length), .int .i64 ((↑gs.length : Int)), .int .i64 (IntKind.i64.wrap ((↑i : Int) + 1)), topV, topV, topV, topV, topV, topV, topV, topV, topV, topV, topV, topV, topV, topV, topV, topV, topV, topV, topV], [none, some ⟨.view, .ints (flat gs)⟩, some ⟨.box, .vals [.int .i64 (a), .int .i64 (b)]⟩, some ⟨.row 100 4, .ints (fl4 (meL gs a b i))⟩, some ⟨.box, .vals [.int .i64 ((flat gs).getD (0 + (↑i : Int).toNat * 2) 0), .int .i64 ((flat gs).getD (0 + (↑i : Int).toNat * 2 + 1) 0)]⟩]⟩)))) (.leaf (.exit 0) ⟨[topV, topV, topV, topV, topV, .slice (some ⟨3, 0, none⟩) ((meL gs a b i).length) ((meL gs a b i).length), topV, topV, topV, topV, topV, topV, topV, topV, topV, topV, topV, topV, topV, topV, topV, topV, topV, topV, topV, topV, topV, topV, topV, topV], [none, some ⟨.view, .ints (flat gs)⟩, some ⟨.box, .vals [.int .i64 (a), .int .i64 (b)]⟩, some ⟨.row 100 4, .ints (fl4 (meL gs a b i))⟩]⟩) := by kernel_rfl
set_option maxRecDepth 100000 in
theorem nl_mee : loopsOf c_mee = [] := by kernel_rfl
def inv_mee (gs : List Pt) (a b : Int) : Nat → Prop := fun i => i ≤ gs.length
def me_mee (gs : List Pt) (a b : Int) : Nat → Nat := fun i => gs.length - i
/-- A round of this loop. -/
def Round_mee (gs : List Pt) (a b : Int) : Prop := ∀ xx : Nat, inv_mee gs a b xx → (bodyL Try.prog EAr 30 12 noL 1 c_mee k_mee 20 (s_mee gs a b xx)).ok (RoundEnd 3 (s_mee gs a b) (inv_mee gs a b) (me_mee gs a b) re_mee (rs_mee gs a b) xx) (fun _ _ => False)
def e_mee (s : St) (k : Ex → St → Tree) : Option Tree := match Nat.beq s.tmps.length 30, pickL s.tmps [2, 5, 8, 9, 10], s.mem with
  | true, [.pointer (some ⟨2, 0, none⟩), .slice none 0 0, .slice (some ⟨1, 0, none⟩) n _, .int .i64 n2, .int .i64 ii], [none, some ⟨.view, .ints xs⟩, some ⟨.box, .vals [.int .i64 a, .int .i64 b]⟩] => some (needs [ii = 0, n2 = n, xs.length = n * 2, n ≤ 8, allV (ptsA n xs) = true, (-1000 ≤ a ∧ a ≤ 1000) ∧ -1000 ≤ b ∧ b ≤ 1000] (k (.exit 0) ⟨[topV, topV, topV, topV, topV, .slice (some ⟨3, 0, none⟩) (meL (ptsA n xs) a b n).length (meL (ptsA n xs) a b n).length, topV, topV, topV, topV, topV, topV, topV, topV, topV, topV, topV, topV, topV, topV, topV, topV, topV, topV, topV, topV, topV, topV, topV, topV], [none, some ⟨.view, .ints xs⟩, some ⟨.box, .vals [.int .i64 a, .int .i64 b]⟩, some ⟨.row 100 4, .ints (fl4 (meL (ptsA n xs) a b n))⟩]⟩))
  | _, _, _ => none
theorem me_wr {a b x y : Int} (ha : -1000 ≤ a ∧ a ≤ 1000) (hb : -1000 ≤ b ∧ b ≤ 1000) (hx : -1000 ≤ x ∧ x ≤ 1000) (hy : -1000 ≤ y ∧ y ≤ 1000) : IntKind.i64.wrap (IntKind.i64.wrap (b * -1) - IntKind.i64.wrap (y * -1)) = y - b ∧ IntKind.i64.wrap (IntKind.i64.wrap (a * -1) - IntKind.i64.wrap (x * -1)) = x - a ∧ IntKind.i64.wrap (IntKind.i64.wrap (a * y) - IntKind.i64.wrap (x * b)) = a * y - x * b ∧ -2000000 ≤ a * y - x * b ∧ a * y - x * b ≤ 2000000 := by
  have m1 := mul_bd 1000 1000 ha hy
  have m2 := mul_bd 1000 1000 hx hb
  generalize a * y = u at *
  generalize x * b = v at *
  rw [wr (x := b * -1) (by omega), wr (x := y * -1) (by omega), wr (x := a * -1) (by omega), wr (x := x * -1) (by omega), wr (x := u) (by omega), wr (x := v) (by omega)]
  rw [wr (x := b * -1 - y * -1) (by omega), wr (x := a * -1 - x * -1) (by omega), wr (x := u - v) (by omega)]
  omega
theorem fl4A (o : List Q4) : List.take (o.length * 4) (List.drop 0 (fl4 o)) = fl4 o := by rw [List.drop_zero, fl4_all]
set_option maxRecDepth 100000 in
set_option maxHeartbeats 2000000 in
theorem round_mee (gs : List Pt) (a b : Int) (h : gs.length ≤ 8) (hv : allV gs = true) (hab : (-1000 ≤ a ∧ a ≤ 1000) ∧ -1000 ≤ b ∧ b ≤ 1000) : Round_mee gs a b := by
  intro i h1
  have h1 : i ≤ gs.length := h1
  rw [tr_mee]
  have fl := flat_length gs
  have ml := meL_len gs a b i
  have f4 := fl4_length (meL gs a b i)
  refine brT_ok.2 ⟨fun hlt => ?_, fun hge => ?_⟩
  · have hi : i < gs.length := by have := of_decide_eq_true hlt; omega
    obtain ⟨v1, v2, v3, v4⟩ := allV_get hv i
    obtain ⟨w1, w2, w3, w4, w5⟩ := me_wr hab.1 hab.2 ⟨v1, v2⟩ ⟨v3, v4⟩
    rw [wsucc (n := gs.length) hi (by omega)]
    simp only [Int.toNat_natCast, Nat.zero_add, flat_get0, flat_get1, w1, w2, w3, fl4A, fl4_snoc]
    refine ⟨by omega, by omega, brT_ok.2 ⟨fun q => ?_, fun q => ?_⟩⟩
    · have q : ¬ (gs.getD i (0, 0)).1 = a := by simpa using q
      have e : meL gs a b (i + 1) = meL gs a b i ++ [meQ a b (gs.getD i (0, 0))] := by
        simp only [meL, beq_eq_false_iff_ne.2 q, cond_false]
      have el : (meL gs a b (i + 1)).length = (meL gs a b i).length + 1 := by rw [e]; simp
      refine ⟨by unfold big; omega, by unfold big; omega, by omega, by unfold big; omega, by unfold big; omega, by omega, by omega, by omega, i + 1, [some 9], by show i + 1 ≤ gs.length; omega, ?_, rfl, by simp only [rs_mee], ?_⟩
      · show gs.length - (i + 1) < gs.length - i; omega
      · simp only [s_mee, el]
        rw [e]
        repeat' (first | exact True.intro | exact rfl | exact fun _ => rfl | (simp; done) | refine And.intro ?_ ?_)
    · have q : (gs.getD i (0, 0)).1 = a := by simpa using q
      have e : meL gs a b (i + 1) = meL gs a b i := by
        simp only [meL, beq_iff_eq.2 q, cond_true]
      refine ⟨i + 1, [some 3], by show i + 1 ≤ gs.length; omega, ?_, rfl, by simp only [rs_mee], ?_⟩
      · show gs.length - (i + 1) < gs.length - i; omega
      · simp only [s_mee]
        rw [e]
        repeat' (first | exact True.intro | exact rfl | exact fun _ => rfl | (simp; done) | refine And.intro ?_ ?_)
  · have hge := of_decide_eq_false hge
    obtain rfl : i = gs.length := by omega
    refine ⟨rfl, [some 3], ?_⟩
    repeat' (first | exact True.intro | exact rfl | exact fun _ => rfl | (simp; done) | refine And.intro ?_ ?_)
set_option maxRecDepth 100000 in
theorem lg_mee : LoopE Try.prog e_mee c_mee := by
  intro s k t F H hlt ht
  unfold e_mee at hlt
  split at hlt
  rotate_left
  · cases hlt
  rename_i hlen hpick hmem
  obtain ⟨tmps, mem⟩ := s
  simp only at hlen hpick hmem
  subst hmem
  obtain rfl := Option.some.inj hlt
  obtain ⟨⟨rfl, rfl, h1, h2, h3, h4, _⟩, ht2⟩ := needs_ok ht
  clear ht hlt
  obtain ⟨gs, rfl, rfl⟩ := even_flat h1
  rw [ptsA_flat] at h3
  rw [ptsA_flat] at ht2
  refine ⟨_, _, ht2, loop_run2 mixed EAr_ok (s_mee gs _ _) (inv_mee gs _ _) (me_mee gs _ _) re_mee (rs_mee gs _ _) k_mee (fun _ => rfl) (noLoops nl_mee) (round_mee gs _ _ h2 h3 h4) (x := 0) (Nat.zero_le _) (π := [none]) rfl ?_⟩
  refine ⟨rfl, rfl, ?_, wvs_spread' [2, 5, 8, 9, 10] hlen rfl ?_⟩
  · repeat' (first | exact True.intro | exact rfl | exact wv_top _ _ | exact fun _ => rfl | assumption | exact Eq.symm (by assumption) | exact vI0 rfl | refine And.intro ?_ ?_)
  · rw [hpick]
    repeat' (first | exact True.intro | exact rfl | exact wv_top _ _ | exact fun _ => rfl | assumption | exact Eq.symm (by assumption) | exact vI0 rfl | refine And.intro ?_ ?_)
theorem Lr_mee {fn : Func} (hf : Try.prog.funcs[82]? = some fn) : LoopsGood Try.prog (lt1 e_mee) 0 (codeOf fn) := by
  obtain rfl := fn_is Try.func82 hf
  exact lt1_good lg_mee
def LMe : FuncId → LT := fun f => match f with
  | 82 => lt1 e_mee
  | _ => noL
def EMee : Env := withT (mkE TAr (fun _ _ => none) LMe) JSs
theorem EMee_ok : EnvOk Try.prog EMee := withT_ok (mkEOk TAr_ok (fun _ _ _ _ _ h => (by cases h)) (by
  intro f fn hf
  unfold LMe
  split
  all_goals first | with_reducible exact Lr_mee hf | exact noL_good)) JSs_ok
set_option maxRecDepth 100000 in
theorem tr_meF (gs : List Pt) (a b : Int) : bodyX Try.prog EMee 30 12 82 [.v (.agg #[iv a, iv b]), .row gs.length (.ints (flat gs))] = .need ((0 : Int) = (0 : Int)) (.need ((↑gs.length : Int) = (↑gs.length : Int)) (.need ((flat gs).length = gs.length * (2 : Nat)) (.need (gs.length ≤ (8 : Nat)) (.need (allV (ptsA gs.length (flat gs)) = true) (.need (((-1000 : Int) ≤ a ∧ a ≤ (1000 : Int)) ∧ (-1000 : Int) ≤ b ∧ b ≤ (1000 : Int)) (.need ((fl4 (meL (ptsA gs.length (flat gs)) a b gs.length)).length = (meL (ptsA gs.length (flat gs)) a b gs.length).length * (4 : Nat)) (.need ((meL (ptsA gs.length (flat gs)) a b gs.length).length ≤ (1000000000 : Nat)) (.need (allV4 (meL (ptsA gs.length (flat gs)) a b gs.length).length (fl4 (meL (ptsA gs.length (flat gs)) a b gs.length))) (.need ((fl4 (srtQ (q4A (meL (ptsA gs.length (flat gs)) a b gs.length).length (fl4 (meL (ptsA gs.length (flat gs)) a b gs.length))))).length = (meL (ptsA gs.length (flat gs)) a b gs.length).length * (4 : Nat)) (.need ((meL (ptsA gs.length (flat gs)) a b gs.length).length ≤ (1000000000 : Nat)) (.fin (.slice (some ⟨4, 0, none⟩) ((dmP (q4A (meL (ptsA gs.length (flat gs)) a b gs.length).length (fl4 (srtQ (q4A (meL (ptsA gs.length (flat gs)) a b gs.length).length (fl4 (meL (ptsA gs.length (flat gs)) a b gs.length))))))).length) ((dmP (q4A (meL (ptsA gs.length (flat gs)) a b gs.length).length (fl4 (srtQ (q4A (meL (ptsA gs.length (flat gs)) a b gs.length).length (fl4 (meL (ptsA gs.length (flat gs)) a b gs.length))))))).length)) [none, some ⟨.view, .ints (flat gs)⟩, some ⟨.box, .vals [.int .i64 (a), .int .i64 (b)]⟩, some deadB, some ⟨.row 100 4, .ints (fl4 (dmP (q4A (meL (ptsA gs.length (flat gs)) a b gs.length).length (fl4 (srtQ (q4A (meL (ptsA gs.length (flat gs)) a b gs.length).length (fl4 (meL (ptsA gs.length (flat gs)) a b gs.length))))))))⟩]))))))))))) := by kernel_rfl
end Go.Proofs.Ytolodncpegajkab
namespace Go.Proofs.Ytolodncpegajkab
set_option linter.all false
theorem q_spec {n d : Int} (hd : 0 < d) : ∃ g, 0 < g ∧ qN n d * g = n ∧ qD n d * g = d := by
  refine ⟨gI n d, gI_pos n d (by omega), ?_, ?_⟩
  · rw [qN_pos (by omega)]; exact Int.tdiv_mul_cancel (gI_dvd_left n d)
  · rw [qD_pos (by omega)]; exact Int.tdiv_mul_cancel (gI_dvd_right n d)
end Go.Proofs.Ytolodncpegajkab
namespace Go.Proofs.Ytolodncpegajkab
set_option linter.all false
theorem gcd_one' {p q : Int} (h : gI p q ≠ 0) : gI (p.tdiv (gI p q)) (q.tdiv (gI p q)) = 1 := by
  have h0 := gI_nonneg p q
  obtain ⟨u, hu⟩ := gI_dvd_left p q
  obtain ⟨v, hv⟩ := gI_dvd_right p q
  have e : gI p q = gI p q * gI u v := by
    generalize hg : gI p q = g at *
    have : gI (g * u) (g * v) = g := by rw [← hu, ← hv]; exact hg
    rw [← this]
    unfold gI
    rw [Int.gcd_mul_left]
    have hn : ((g.natAbs : Nat) : Int) = g := by omega
    push_cast
    rw [hn]
    have k := congrArg (fun z : Int => z) this
    unfold gI at k
    rw [Int.gcd_mul_left] at k
    push_cast at k
    rw [hn] at k
    rw [k]
    exact k.symm
  have e2 : gI u v = 1 := by
    have : gI p q * gI u v = gI p q * 1 := by rw [← e, Int.mul_one]
    exact Int.eq_of_mul_eq_mul_left h this
  have d1 : p.tdiv (gI p q) = u := by rw [show p.tdiv (gI p q) = (gI p q * u).tdiv (gI p q) by rw [← hu]]; exact Int.mul_tdiv_cancel_left _ h
  have d2 : q.tdiv (gI p q) = v := by rw [show q.tdiv (gI p q) = (gI p q * v).tdiv (gI p q) by rw [← hv]]; exact Int.mul_tdiv_cancel_left _ h
  rw [d1, d2, e2]
theorem q_low {n d : Int} (hd : 0 < d) : gI (qN n d) (qD n d) = 1 ∧ 1 ≤ qD n d := by
  refine ⟨?_, qD_ge (by omega)⟩
  rw [qN_pos (by omega), qD_pos (by omega)]
  have := gI_pos n d (by omega)
  exact gcd_one' (by omega)
end Go.Proofs.Ytolodncpegajkab
namespace Go.Proofs.Ytolodncpegajkab
set_option linter.all false
open Go.RowKit
theorem q_neg3 {n d : Int} (h : d ≠ 0) : qN (-n) (-d) = qN n d ∧ qD (-n) (-d) = qD n d := by
  have g : gI (-n) (-d) = gI n d := by unfold gI; simp
  by_cases hd : d < 0
  · rw [qN_neg hd, qD_neg hd, qN_pos (show ¬ -d < 0 by omega), qD_pos (show ¬ -d < 0 by omega), g]
    exact ⟨rfl, rfl⟩
  · rw [qN_pos hd, qD_pos hd, qN_neg (show -d < 0 by omega), qD_neg (show -d < 0 by omega), g, Int.neg_neg, Int.neg_neg]
    exact ⟨rfl, rfl⟩
theorem q_full3 {n d : Int} (h : d ≠ 0) : gI (qN n d) (qD n d) = 1 ∧ 1 ≤ qD n d ∧ qN n d * d = n * qD n d := by
  have pos : ∀ {n d : Int}, 0 < d → gI (qN n d) (qD n d) = 1 ∧ 1 ≤ qD n d ∧ qN n d * d = n * qD n d := fun {n d} hd => by
    obtain ⟨a1, a2⟩ := q_low (n := n) hd
    obtain ⟨g, _, b2, b3⟩ := q_spec (n := n) hd
    refine ⟨a1, a2, ?_⟩
    have : qN n d * (qD n d * g) = qN n d * g * qD n d := by rw [Int.mul_assoc, Int.mul_comm g]
    rw [b2, b3] at this
    exact this
  rcases Int.lt_or_gt_of_ne h with hd | hd
  · obtain ⟨c1, c2⟩ := q_neg3 (n := n) h
    have := pos (n := -n) (d := -d) (by omega)
    rw [c1, c2] at this
    refine ⟨this.1, this.2.1, ?_⟩
    have k := this.2.2
    rw [Int.mul_neg, Int.neg_mul] at k
    omega
  · exact pos hd
theorem q_rat3 {n d : Int} (h : d ≠ 0) (hn : -100000000000 ≤ n ∧ n ≤ 100000000000) (hd : -20000000 ≤ d ∧ d ≤ 20000000) : ratB (qN n d) (qD n d) = true := by
  obtain ⟨a1, a2, _⟩ := q_full3 (n := n) h
  have b1 := qN_bd (num := n) (den := d) (M := 100000000000) hn
  have b2 := qD_bd (num := n) (den := d) (M := 20000000) hd
  exact decide_eq_true ⟨b1.1, b1.2, a2, b2.2, a1⟩
end Go.Proofs.Ytolodncpegajkab
namespace Go.Proofs.Ytolodncpegajkab
set_option linter.all false
open Go.RowKit
theorem dmN_mem (ps : List Q4) (z : Q4) : ∀ m, m ≤ ps.length → (z ∈ dmN ps m ↔ ∃ j, j < m ∧ ps.getD j z4 = z)
  | 0, _ => by simp [dmN]
  | m + 1, h => by
    have ih := dmN_mem ps z m (by omega)
    simp only [dmN]
    split
    · rw [List.mem_append, ih, List.mem_singleton]
      constructor
      · rintro (⟨j, h1, h2⟩ | rfl)
        · exact ⟨j, by omega, h2⟩
        · exact ⟨m, by omega, rfl⟩
      · rintro ⟨j, h1, h2⟩
        rcases Nat.lt_or_ge j m with g | g
        · exact .inl ⟨j, g, h2⟩
        · obtain rfl : j = m := by omega
          exact .inr h2.symm
    · rename_i hc
      have h0 : ¬ m = 0 := fun e => hc (.inl e)
      have h1 : ps.getD m z4 = ps.getD (m - 1) z4 := Classical.byContradiction fun e => hc (.inr e)
      rw [ih]
      constructor
      · rintro ⟨j, g1, g2⟩
        exact ⟨j, by omega, g2⟩
      · rintro ⟨j, g1, g2⟩
        rcases Nat.lt_or_ge j m with g | g
        · exact ⟨j, g, g2⟩
        · obtain rfl : j = m := by omega
          exact ⟨j - 1, by omega, by rw [← h1]; exact g2⟩
theorem getD_mem4 {ps : List Q4} {j : Nat} (h : j < ps.length) : ps.getD j z4 ∈ ps := by
  simp [List.getD, h]
theorem dmN_up {ps : List Q4} (ho : ∀ q ∈ ps, okQ q = true) (hu : ∀ i j, i < j → j < ps.length → qLt (ps.getD j z4) (ps.getD i z4) = false) : ∀ m, m ≤ ps.length → (dmN ps m).Pairwise fun x y => qLt x y = true
  | 0, _ => List.Pairwise.nil
  | m + 1, h => by
    have ih := dmN_up ho hu m (by omega)
    simp only [dmN]
    split
    · rename_i hc
      refine List.pairwise_append.2 ⟨ih, List.pairwise_singleton _ _, fun x hx y hy => ?_⟩
      obtain rfl := List.mem_singleton.1 hy
      obtain ⟨j, h1, rfl⟩ := (dmN_mem ps x m (by omega)).1 hx
      have k1 := hu j m h1 (by omega)
      have hne : ps.getD m z4 ≠ ps.getD (m - 1) z4 := hc.resolve_left (by omega)
      rcases qLt_tri (ho _ (getD_mem4 (j := j) (by omega))) (ho _ (getD_mem4 (j := m) (by omega))) with g | g | g
      · exact g
      · exfalso
        have k2 := hu (m - 1) m (by omega) (by omega)
        rcases qLt_tri (ho _ (getD_mem4 (j := m - 1) (by omega))) (ho _ (getD_mem4 (j := m) (by omega))) with e | e | e
        · rcases Nat.lt_or_ge j (m - 1) with d | d
          · have k3 := hu j (m - 1) d (by omega)
            rw [g, e] at k3
            cases k3
          · obtain rfl : j = m - 1 := by omega
            exact hne g.symm
        · exact hne e.symm
        · rw [e] at k2
          cases k2
      · rw [g] at k1
        cases k1
    · exact ih
/-- Points with fractions in order, each once. -/
def stQ (qs : List Q4) : List Q4 := dmP (srtQ qs)
theorem stQ_mem (qs : List Q4) (z : Q4) : z ∈ stQ qs ↔ z ∈ qs := by
  unfold stQ dmP
  rw [dmN_mem _ _ _ (Nat.le_refl _), ← srtQ_mem qs z]
  constructor
  · rintro ⟨j, h1, rfl⟩
    exact getD_mem4 h1
  · intro h
    obtain ⟨j, h1, rfl⟩ := List.mem_iff_getElem.1 h
    exact ⟨j, h1, by simp [List.getD, h1]⟩
theorem stQ_nodup {qs : List Q4} (h : ∀ q ∈ qs, okQ q = true) : (stQ qs).Nodup := by
  have hu := srtQ_up h
  have ho : ∀ q ∈ srtQ qs, okQ q = true := fun q hq => h q ((srtQ_mem qs q).1 hq)
  have := dmN_up ho (fun i j h1 h2 => by
    have := List.pairwise_iff_getElem.1 hu i j (by omega) h2 h1
    simpa [List.getD, h2, show i < (srtQ qs).length by omega] using this) (srtQ qs).length (Nat.le_refl _)
  unfold stQ dmP
  exact this.imp fun {x y} hxy e => by
    subst e
    rw [qLt_irr] at hxy
    cases hxy
theorem stQ_len (qs : List Q4) : (stQ qs).length ≤ qs.length := by
  have := dmN_le (srtQ qs) (srtQ qs).length
  rw [srtQ_len] at this
  unfold stQ dmP
  rw [srtQ_len]
  exact this
theorem meQ_ok {a b x y : Int} (ha : -1000 ≤ a ∧ a ≤ 1000) (hb : -1000 ≤ b ∧ b ≤ 1000) (hx : -1000 ≤ x ∧ x ≤ 1000) (hy : -1000 ≤ y ∧ y ≤ 1000) (hne : x ≠ a) : okQ (meQ a b (x, y)) = true := by
  obtain ⟨_, _, _, w4, w5⟩ := me_wr ha hb hx hy
  unfold okQ meQ
  simp only
  rw [q_rat3 (by omega) (by omega) (by omega), q_rat3 (by omega) (by omega) (by omega)]
  rfl
theorem meL_mem (gs : List Pt) (a b : Int) (z : Q4) : ∀ i, z ∈ meL gs a b i ↔ ∃ k, k < i ∧ (gs.getD k (0, 0)).1 ≠ a ∧ z = meQ a b (gs.getD k (0, 0))
  | 0 => by simp [meL]
  | i + 1 => by
    have ih := meL_mem gs a b z i
    simp only [meL]
    rcases h : (gs.getD i (0, 0)).1 == a with _ | _
    · have h := beq_eq_false_iff_ne.1 h
      rw [cond_false, List.mem_append, ih, List.mem_singleton]
      constructor
      · rintro (⟨k, h1, h2⟩ | e)
        · exact ⟨k, by omega, h2⟩
        · exact ⟨i, by omega, h, e⟩
      · rintro ⟨k, h1, h2, h3⟩
        rcases Nat.lt_or_ge k i with g | g
        · exact .inl ⟨k, g, h2, h3⟩
        · obtain rfl : k = i := by omega
          exact .inr h3
    · have h := beq_iff_eq.1 h
      rw [cond_true, ih]
      constructor
      · rintro ⟨k, h1, h2⟩
        exact ⟨k, by omega, h2⟩
      · rintro ⟨k, h1, h2, h3⟩
        rcases Nat.lt_or_ge k i with g | g
        · exact ⟨k, g, h2, h3⟩
        · obtain rfl : k = i := by omega
          exact absurd h h2
theorem meL_ok {gs : List Pt} {a b : Int} (hv : allV gs = true) (hab : (-1000 ≤ a ∧ a ≤ 1000) ∧ -1000 ≤ b ∧ b ≤ 1000) (i : Nat) : ∀ q ∈ meL gs a b i, okQ q = true := fun q hq => by
  obtain ⟨k, _, h2, rfl⟩ := (meL_mem gs a b q i).1 hq
  obtain ⟨v1, v2, v3, v4⟩ := allV_get hv k
  exact meQ_ok hab.1 hab.2 ⟨v1, v2⟩ ⟨v3, v4⟩ h2
/-- The points in which a graph meets others. -/
def mtL (gs : List Pt) (a b : Int) : List Q4 := stQ (meL gs a b gs.length)
theorem resR_me (gs : List Pt) (a b : Int) (h : gs.length ≤ 8) (hv : allV gs = true) (hab : (-1000 ≤ a ∧ a ≤ 1000) ∧ -1000 ≤ b ∧ b ≤ 1000) : ResR Try.prog 82 [.v (.agg #[iv a, iv b]), .row gs.length (.ints (flat gs))] (.slice (some ⟨0, 0, none⟩) (mtL gs a b).length (mtL gs a b).length) ⟨.row 100 4, .ints (fl4 (mtL gs a b))⟩ := by
  refine bodyX_resR mixed EMee_ok (m := 30) (n := 12) rfl ?_
  rw [tr_meF]
  have fl := flat_length gs
  have ml := meL_len gs a b gs.length
  have mo := meL_ok hv hab gs.length
  have sl := srtQ_len (meL gs a b gs.length)
  have e2 : q4A (meL gs a b gs.length).length (fl4 (srtQ (meL gs a b gs.length))) = srtQ (meL gs a b gs.length) := by
    have := q4A_fl4 (srtQ (meL gs a b gs.length))
    rwa [sl] at this
  have l1 := fl4_length (meL gs a b gs.length)
  have l2 := fl4_length (srtQ (meL gs a b gs.length))
  rw [sl] at l2
  simp only [ptsA_flat, q4A_fl4, e2]
  refine ⟨trivial, trivial, fl, h, hv, hab, l1, by omega, ?_, l2, by omega, some 4, ⟨rfl, rfl, rfl⟩, rfl, rfl, rfl⟩
  unfold allV4
  rw [q4A_fl4]
  exact mo
def RMe : TabR := fun f ds => match f, ds with
  | 82, [.v (.agg ⟨[.int .i64 a, .int .i64 b]⟩), .row n (.ints xs)] => some (.slice (some ⟨0, 0, none⟩) (mtL (ptsA n xs) a b).length (mtL (ptsA n xs) a b).length, ⟨.row 100 4, .ints (fl4 (mtL (ptsA n xs) a b))⟩, [xs.length = n * 2, n ≤ 8, allV (ptsA n xs) = true, (-1000 ≤ a ∧ a ≤ 1000) ∧ -1000 ≤ b ∧ b ≤ 1000])
  | _, _ => none
theorem RMe_ok : TabROk Try.prog RMe := by
  intro f ds v bl C h hC
  unfold RMe at h
  split at h
  · obtain ⟨rfl, rfl, rfl⟩ : _ ∧ _ ∧ _ := by simpa using h
    obtain ⟨h1, h2, h3, h4, _⟩ := hC
    obtain ⟨gs, rfl, rfl⟩ := even_flat h1
    rw [ptsA_flat] at h3 ⊢
    exact resR_me gs _ _ h2 h3 h4
  · cases h
end Go.Proofs.Ytolodncpegajkab
namespace Go.Proofs.Ytolodncpegajkab
set_option linter.all false
open Go.RowKit
theorem vg_iff {gs : List Pt} (h : vgB gs = true) : allV gs = true ∧ gs.length ≤ 8 := by
  unfold vgB at h
  rw [Bool.and_eq_true] at h
  refine ⟨List.all_eq_true.2 fun p hp => ?_, of_decide_eq_true h.2⟩
  obtain ⟨k, hk, rfl⟩ := List.mem_iff_getElem.1 hp
  have := allQ_get _ _ h.1 k (Nat.zero_le _) (by omega)
  unfold vgQ gG at this
  rw [Bool.and_eq_true] at this
  have e : gs.getD k (0, 0) = gs[k] := by simp [hk]
  rw [e] at this
  exact this.1
end Go.Proofs.Ytolodncpegajkab
namespace Go.Proofs.Ytolodncpegajkab
set_option linter.all false
open Go.RowKit
/-- The points in which a graph of the list meets others. -/
def mtI (gs : List Pt) (i : Nat) : List Q4 := mtL gs (gs.getD i (0, 0)).1 (gs.getD i (0, 0)).2
def arA (gs : List Pt) : Nat → List Q4
  | 0 => []
  | i + 1 => arA gs i ++ mtI gs i
def arE (gs : List Pt) : Nat → Nat
  | 0 => 0
  | i + 1 => arE gs i + (mtI gs i).length + 1
theorem mtI_len (gs : List Pt) (i : Nat) : (mtI gs i).length ≤ gs.length := by
  have h1 := stQ_len (meL gs (gs.getD i (0, 0)).1 (gs.getD i (0, 0)).2 gs.length)
  have h2 := meL_len gs (gs.getD i (0, 0)).1 (gs.getD i (0, 0)).2 gs.length
  unfold mtI mtL
  omega
theorem arA_len (gs : List Pt) : ∀ i, (arA gs i).length ≤ i * gs.length ∧ arE gs i ≤ i * (gs.length + 1)
  | 0 => ⟨by simp [arA], by simp [arE]⟩
  | i + 1 => by
    obtain ⟨h1, h2⟩ := arA_len gs i
    have h3 := mtI_len gs i
    simp only [arA, arE, List.length_append, Nat.succ_mul]
    exact ⟨by omega, by omega⟩
def EAp : Env := withT (mkE TAr RMe (fun _ => noL)) JSs
theorem EAp_ok : EnvOk Try.prog EAp := withT_ok (mkEOk TAr_ok RMe_ok (fun _ _ _ => noL_good)) JSs_ok
noncomputable def c_arp : Code := ((loopsOf (codeOf Try.f35))[0]?).getD .skip
def k_arp : Ex → List Nat := keeps [0, 5, 6, 14, 15, 16] [(0, [5, 6])] [2, 3, 4]
def s_arp (gs : List Pt) : Nat → St := fun i => ⟨(.slice (some ⟨0, 0, none⟩) gs.length gs.length :: topV :: topV :: topV :: topV :: .slice (some ⟨1, 0, none⟩) (arA gs i).length (arA gs i).length :: .int .i64 (arE gs i : Nat) :: topV :: topV :: topV :: topV :: topV :: topV :: topV :: .slice (some ⟨0, 0, none⟩) gs.length gs.length :: .int .i64 gs.length :: .int .i64 i :: topV :: topV :: topV :: topV :: topV :: topV :: topV :: topV :: topV :: topV :: topV :: topV :: topV :: topV :: topV :: topV :: topV :: topV :: topV :: topV :: topV :: topV :: topV :: topV :: []), [some ⟨.view, .ints (flat gs)⟩, some ⟨.row 100 4, .ints (fl4 (arA gs i))⟩]⟩
def re_arp : Nat → Ex := fun _ => .exit 0
def rs_arp (gs : List Pt) : Nat → St := fun i => ⟨(topV :: topV :: topV :: topV :: topV :: .slice (some ⟨1, 0, none⟩) (arA gs gs.length).length (arA gs gs.length).length :: .int .i64 (arE gs gs.length : Nat) :: topV :: topV :: topV :: topV :: topV :: topV :: topV :: topV :: topV :: topV :: topV :: topV :: topV :: topV :: topV :: topV :: topV :: topV :: topV :: topV :: topV :: topV :: topV :: topV :: topV :: topV :: topV :: topV :: topV :: topV :: topV :: topV :: topV :: topV :: []), [some ⟨.view, .ints (flat gs)⟩, some ⟨.row 100 4, .ints (fl4 (arA gs gs.length))⟩]⟩
set_option maxRecDepth 100000 in
theorem tr_arp (gs : List Pt) (i : Nat) : bodyL Try.prog EAp 30 12 noL 1 c_arp k_arp 20 (s_arp gs i) = brT (decide ((↑i : Int) < (↑gs.length : Int))) (.need ((0 : Int) ≤ (↑i : Int) ∧ (↑i : Int) < (↑gs.length : Int)) (.need ((0 : Nat) + (↑i : Int).toNat * (2 : Nat) + (2 : Nat) ≤ (flat gs).length) (.need ((List.drop (0 : Nat) (flat gs)).length = gs.length * (2 : Nat)) (.need (gs.length ≤ (8 : Nat)) (.need (allV (ptsA gs.length (List.drop (0 : Nat) (flat gs))) = true) (.need (((-1000 : Int) ≤ (flat gs).getD ((0 : Nat) + (↑i : Int).toNat * (2 : Nat)) (0 : Int) ∧ (flat gs).getD ((0 : Nat) + (↑i : Int).toNat * (2 : Nat)) (0 : Int) ≤ (1000 : Int)) ∧ (-1000 : Int) ≤ (flat gs).getD ((0 : Nat) + (↑i : Int).toNat * (2 : Nat) + (1 : Nat)) (0 : Int) ∧ (flat gs).getD ((0 : Nat) + (↑i : Int).toNat * (2 : Nat) + (1 : Nat)) (0 : Int) ≤ (1000 : Int)) (.need (((arA gs i).length + ((mtL (ptsA gs.length (List.drop (0 : Nat) (flat gs))) ((flat gs).getD ((0 : Nat) + (↑i : Int).toNat * (2 : Nat)) (0 : Int)) ((flat gs).getD ((0 : Nat) + (↑i : Int).toNat * (2 : Nat) + (1 : Nat)) (0 : Int))).length, Cs.ints (List.take ((mtL (ptsA gs.length (List.drop (0 : Nat) (flat gs))) ((flat gs).getD ((0 : Nat) + (↑i : Int).toNat * (2 : Nat)) (0 : Int)) ((flat gs).getD ((0 : Nat) + (↑i : Int).toNat * (2 : Nat) + (1 : Nat)) (0 : Int))).length * Try.prog.types[(100 : Nat)].size) (List.drop (0 : Nat) (fl4 (mtL (ptsA gs.length (List.drop (0 : Nat) (flat gs))) ((flat gs).getD ((0 : Nat) + (↑i : Int).toNat * (2 : Nat)) (0 : Int)) ((flat gs).getD ((0 : Nat) + (↑i : Int).toNat * (2 : Nat) + (1 : Nat)) (0 : Int)))))), [(0 : Nat) + (mtL (ptsA gs.length (List.drop (0 : Nat) (flat gs))) ((flat gs).getD ((0 : Nat) + (↑i : Int).toNat * (2 : Nat)) (0 : Int)) ((flat gs).getD ((0 : Nat) + (↑i : Int).toNat * (2 : Nat) + (1 : Nat)) (0 : Int))).length * Try.prog.types[(100 : Nat)].size ≤ (fl4 (mtL (ptsA gs.length (List.drop (0 : Nat) (flat gs))) ((flat gs).getD ((0 : Nat) + (↑i : Int).toNat * (2 : Nat)) (0 : Int)) ((flat gs).getD ((0 : Nat) + (↑i : Int).toNat * (2 : Nat) + (1 : Nat)) (0 : Int)))).length]).fst) * (32 : Nat) ≤ (140737488355328 : Nat) ∧ (arA gs i).length + ((mtL (ptsA gs.length (List.drop (0 : Nat) (flat gs))) ((flat gs).getD ((0 : Nat) + (↑i : Int).toNat * (2 : Nat)) (0 : Int)) ((flat gs).getD ((0 : Nat) + (↑i : Int).toNat * (2 : Nat) + (1 : Nat)) (0 : Int))).length, Cs.ints (List.take ((mtL (ptsA gs.length (List.drop (0 : Nat) (flat gs))) ((flat gs).getD ((0 : Nat) + (↑i : Int).toNat * (2 : Nat)) (0 : Int)) ((flat gs).getD ((0 : Nat) + (↑i : Int).toNat * (2 : Nat) + (1 : Nat)) (0 : Int))).length * Try.prog.types[(100 : Nat)].size) (List.drop (0 : Nat) (fl4 (mtL (ptsA gs.length (List.drop (0 : Nat) (flat gs))) ((flat gs).getD ((0 : Nat) + (↑i : Int).toNat * (2 : Nat)) (0 : Int)) ((flat gs).getD ((0 : Nat) + (↑i : Int).toNat * (2 : Nat) + (1 : Nat)) (0 : Int)))))), [(0 : Nat) + (mtL (ptsA gs.length (List.drop (0 : Nat) (flat gs))) ((flat gs).getD ((0 : Nat) + (↑i : Int).toNat * (2 : Nat)) (0 : Int)) ((flat gs).getD ((0 : Nat) + (↑i : Int).toNat * (2 : Nat) + (1 : Nat)) (0 : Int))).length * Try.prog.types[(100 : Nat)].size ≤ (fl4 (mtL (ptsA gs.length (List.drop (0 : Nat) (flat gs))) ((flat gs).getD ((0 : Nat) + (↑i : Int).toNat * (2 : Nat)) (0 : Int)) ((flat gs).getD ((0 : Nat) + (↑i : Int).toNat * (2 : Nat) + (1 : Nat)) (0 : Int)))).length]).fst ≤ (1000000 : Nat)) (.need ((0 : Nat) + (mtL (ptsA gs.length (List.drop (0 : Nat) (flat gs))) ((flat gs).getD ((0 : Nat) + (↑i : Int).toNat * (2 : Nat)) (0 : Int)) ((flat gs).getD ((0 : Nat) + (↑i : Int).toNat * (2 : Nat) + (1 : Nat)) (0 : Int))).length * (4 : Nat) ≤ (fl4 (mtL (ptsA gs.length (List.drop (0 : Nat) (flat gs))) ((flat gs).getD ((0 : Nat) + (↑i : Int).toNat * (2 : Nat)) (0 : Int)) ((flat gs).getD ((0 : Nat) + (↑i : Int).toNat * (2 : Nat) + (1 : Nat)) (0 : Int)))).length) (.need ((0 : Nat) + (arA gs i).length * (4 : Nat) ≤ (fl4 (arA gs i)).length) (.leaf .normal ⟨(.slice (some ⟨0, 0, none⟩) (gs.length) (gs.length) :: topV :: topV :: topV :: topV :: .slice (some ⟨4, 0, none⟩) ((arA gs i).length + ((mtL (ptsA gs.length (List.drop 0 (flat gs))) ((flat gs).getD (0 + (↑i : Int).toNat * (2 : Nat)) 0) ((flat gs).getD (0 + (↑i : Int).toNat * (2 : Nat) + 1) 0)).length, Cs.ints (List.take ((mtL (ptsA gs.length (List.drop 0 (flat gs))) ((flat gs).getD (0 + (↑i : Int).toNat * (2 : Nat)) 0) ((flat gs).getD (0 + (↑i : Int).toNat * (2 : Nat) + 1) 0)).length * Try.prog.types[100].size) (List.drop 0 (fl4 (mtL (ptsA gs.length (List.drop 0 (flat gs))) ((flat gs).getD (0 + (↑i : Int).toNat * (2 : Nat)) 0) ((flat gs).getD (0 + (↑i : Int).toNat * (2 : Nat) + 1) 0))))), [0 + (mtL (ptsA gs.length (List.drop 0 (flat gs))) ((flat gs).getD (0 + (↑i : Int).toNat * (2 : Nat)) 0) ((flat gs).getD (0 + (↑i : Int).toNat * (2 : Nat) + 1) 0)).length * Try.prog.types[100].size ≤ (fl4 (mtL (ptsA gs.length (List.drop 0 (flat gs))) ((flat gs).getD (0 + (↑i : Int).toNat * (2 : Nat)) 0) ((flat gs).getD (0 + (↑i : Int).toNat * (2 : Nat) + 1) 0))).length]).fst) ((arA gs i).length + ((mtL (ptsA gs.length (List.drop 0 (flat gs))) ((flat gs).getD (0 + (↑i : Int).toNat * (2 : Nat)) 0) ((flat gs).getD (0 + (↑i : Int).toNat * (2 : Nat) + 1) 0)).length, Cs.ints (List.take ((mtL (ptsA gs.length (List.drop 0 (flat gs))) ((flat gs).getD (0 + (↑i : Int).toNat * (2 : Nat)) 0) ((flat gs).getD (0 + (↑i : Int).toNat * (2 : Nat) + 1) 0)).length * Try.prog.types[100].size) (List.drop 0 (fl4 (mtL (ptsA gs.length (List.drop 0 (flat gs))) ((flat gs).getD (0 + (↑i : Int).toNat * (2 : Nat)) 0) ((flat gs).getD (0 + (↑i : Int).toNat * (2 : Nat) + 1) 0))))), [0 + (mtL (ptsA gs.length (List.drop 0 (flat gs))) ((flat gs).getD (0 + (↑i : Int).toNat * (2 : Nat)) 0) ((flat gs).getD (0 + (↑i : Int).toNat * (2 : Nat) + 1) 0)).length * Try.prog.types[100].size ≤ (fl4 (mtL (ptsA gs.length (List.drop 0 (flat gs))) ((flat gs).getD (0 + (↑i : Int).toNat * (2 : Nat)) 0) ((flat gs).getD (0 + (↑i : Int).toNat * (2 : Nat) + 1) 0))).length]).fst) :: .int .i64 (IntKind.i64.wrap ((↑(arE gs i) : Int) + IntKind.i64.wrap ((↑(mtL (ptsA gs.length (List.drop 0 (flat gs))) ((flat gs).getD (0 + (↑i : Int).toNat * 2) 0) ((flat gs).getD (0 + (↑i : Int).toNat * 2 + 1) 0)).length : Int) + 1))) :: topV :: topV :: topV :: topV :: topV :: topV :: topV :: .slice (some ⟨0, 0, none⟩) (gs.length) (gs.length) :: .int .i64 ((↑gs.length : Int)) :: .int .i64 (IntKind.i64.wrap ((↑i : Int) + 1)) :: topV :: topV :: topV :: topV :: topV :: topV :: topV :: topV :: topV :: topV :: topV :: topV :: topV :: topV :: topV :: topV :: topV :: topV :: topV :: topV :: topV :: topV :: topV :: topV :: []), [some ⟨.view, .ints (flat gs)⟩, some deadB, some ⟨.box, .vals [.int .i64 ((flat gs).getD (0 + (↑i : Int).toNat * 2) 0), .int .i64 ((flat gs).getD (0 + (↑i : Int).toNat * 2 + 1) 0)]⟩, some ⟨.row 100 4, .ints (fl4 (mtL (ptsA gs.length (List.drop 0 (flat gs))) ((flat gs).getD (0 + (↑i : Int).toNat * 2) 0) ((flat gs).getD (0 + (↑i : Int).toNat * 2 + 1) 0)))⟩, some ⟨.row 100 4, .ints (List.take ((arA gs i).length * 4) (List.drop 0 (fl4 (arA gs i))) ++ List.take ((mtL (ptsA gs.length (List.drop 0 (flat gs))) ((flat gs).getD (0 + (↑i : Int).toNat * 2) 0) ((flat gs).getD (0 + (↑i : Int).toNat * 2 + 1) 0)).length * 4) (List.drop 0 (fl4 (mtL (ptsA gs.length (List.drop 0 (flat gs))) ((flat gs).getD (0 + (↑i : Int).toNat * 2) 0) ((flat gs).getD (0 + (↑i : Int).toNat * 2 + 1) 0)))))⟩]⟩)))))))))) (.leaf (.exit 0) ⟨(topV :: topV :: topV :: topV :: topV :: .slice (some ⟨1, 0, none⟩) ((arA gs i).length) ((arA gs i).length) :: .int .i64 ((↑(arE gs i) : Int)) :: topV :: topV :: topV :: topV :: topV :: topV :: topV :: topV :: topV :: topV :: topV :: topV :: topV :: topV :: topV :: topV :: topV :: topV :: topV :: topV :: topV :: topV :: topV :: topV :: topV :: topV :: topV :: topV :: topV :: topV :: topV :: topV :: topV :: topV :: []), [some ⟨.view, .ints (flat gs)⟩, some ⟨.row 100 4, .ints (fl4 (arA gs i))⟩]⟩) := by kernel_rfl
set_option maxRecDepth 100000 in
theorem nl_arp : loopsOf c_arp = [] := by kernel_rfl
def inv_arp (gs : List Pt) : Nat → Prop := fun i => i ≤ gs.length
def me_arp (gs : List Pt) : Nat → Nat := fun i => gs.length - i
/-- A round of this loop. -/
def Round_arp (gs : List Pt) : Prop := ∀ xx : Nat, inv_arp gs xx → (bodyL Try.prog EAp 30 12 noL 1 c_arp k_arp 20 (s_arp gs xx)).ok (RoundEnd 1 (s_arp gs) (inv_arp gs) (me_arp gs) re_arp (rs_arp gs) xx) (fun _ _ => False)
def e_arp (s : St) (k : Ex → St → Tree) : Option Tree := match Nat.beq s.tmps.length 41, pickL s.tmps [0, 5, 6, 14, 15, 16], s.mem with
  | true, [.slice (some ⟨0, 0, none⟩) n _, .slice none 0 0, .int .i64 e0, .slice (some ⟨0, 0, none⟩) n1 _, .int .i64 n2, .int .i64 ii], [some ⟨.view, .ints xs⟩] => some (needs [ii = 0, e0 = 0, n2 = n, n1 = n, xs.length = n * 2, n ≤ 8, allV (ptsA n xs) = true] (k (.exit 0) ⟨(topV :: topV :: topV :: topV :: topV :: .slice (some ⟨1, 0, none⟩) (arA (ptsA n xs) n).length (arA (ptsA n xs) n).length :: .int .i64 (arE (ptsA n xs) n : Nat) :: topV :: topV :: topV :: topV :: topV :: topV :: topV :: topV :: topV :: topV :: topV :: topV :: topV :: topV :: topV :: topV :: topV :: topV :: topV :: topV :: topV :: topV :: topV :: topV :: topV :: topV :: topV :: topV :: topV :: topV :: topV :: topV :: topV :: topV :: []), [some ⟨.view, .ints xs⟩, some ⟨.row 100 4, .ints (fl4 (arA (ptsA n xs) n))⟩]⟩))
  | _, _, _ => none
set_option maxRecDepth 100000 in
theorem ty_rp : Try.prog.types[(100 : Nat)].size = 4 := by kernel_rfl
set_option maxRecDepth 100000 in
set_option maxHeartbeats 4000000 in
theorem round_arp (gs : List Pt) (h : gs.length ≤ 8) (hv : allV gs = true) : Round_arp gs := by
  intro i h1
  have h1 : i ≤ gs.length := h1
  rw [tr_arp]
  have fl := flat_length gs
  have ml := mtI_len gs i
  obtain ⟨al, ae⟩ := arA_len gs i
  have f4 := fl4_length (arA gs i)
  have f5 := fl4_length (mtI gs i)
  have b1 : i * gs.length ≤ 64 := Nat.mul_le_mul (show i ≤ 8 by omega) h
  have b2 : i * (gs.length + 1) ≤ 72 := Nat.mul_le_mul (show i ≤ 8 by omega) (show gs.length + 1 ≤ 9 by omega)
  refine brT_ok.2 ⟨fun hlt => ?_, fun hge => ?_⟩
  · have hi : i < gs.length := by have := of_decide_eq_true hlt; omega
    obtain ⟨v1, v2, v3, v4⟩ := allV_get hv i
    have em : mtL gs (gs.getD i (0, 0)).1 (gs.getD i (0, 0)).2 = mtI gs i := rfl
    have w1 : IntKind.i64.wrap (((mtI gs i).length : Int) + 1) = (((mtI gs i).length + 1 : Nat) : Int) := by rw [wr (by omega)]; omega
    have w2 : IntKind.i64.wrap ((arE gs i : Int) + (((mtI gs i).length + 1 : Nat) : Int)) = ((arE gs i + (mtI gs i).length + 1 : Nat) : Int) := by rw [wr (by omega)]; omega
    have tk : List.take ((mtI gs i).length * 4) (fl4 (mtI gs i)) = fl4 (mtI gs i) := fl4_all _
    have tk2 : List.take ((arA gs i).length * 4) (fl4 (arA gs i)) = fl4 (arA gs i) := fl4_all _
    rw [wsucc (n := gs.length) hi (by omega)]
    simp only [Int.toNat_natCast, Nat.zero_add, flat_get0, flat_get1, List.drop_zero, ptsA_flat, ty_rp, em, w1, w2, tk, tk2]
    rw [← fl4_append]
    have el : (arA gs (i + 1)).length = (arA gs i).length + (mtI gs i).length := by simp only [arA, List.length_append]
    refine ⟨by omega, by omega, fl, h, hv, ⟨⟨v1, v2⟩, v3, v4⟩, by omega, by omega, by omega, i + 1, [some 4], by show i + 1 ≤ gs.length; omega, ?_, rfl, by simp only [rs_arp], ?_⟩
    · show gs.length - (i + 1) < gs.length - i; omega
    · simp only [s_arp, el]
      repeat' (first | exact True.intro | exact rfl | exact fun _ => rfl | (simp; done) | refine And.intro ?_ ?_)
  · have hge := of_decide_eq_false hge
    obtain rfl : i = gs.length := by omega
    refine ⟨rfl, [some 1], ?_⟩
    repeat' (first | exact True.intro | exact rfl | exact fun _ => rfl | (simp; done) | refine And.intro ?_ ?_)
set_option maxRecDepth 100000 in
theorem lg_arp : LoopE Try.prog e_arp c_arp := by
  intro s k t F H hlt ht
  unfold e_arp at hlt
  split at hlt
  rotate_left
  · cases hlt
  rename_i hlen hpick hmem
  obtain ⟨tmps, mem⟩ := s
  simp only at hlen hpick hmem
  subst hmem
  obtain rfl := Option.some.inj hlt
  obtain ⟨⟨rfl, rfl, rfl, rfl, h1, h2, h3, _⟩, ht2⟩ := needs_ok ht
  clear ht hlt
  obtain ⟨gs, rfl, rfl⟩ := even_flat h1
  rw [ptsA_flat] at h3
  rw [ptsA_flat] at ht2
  refine ⟨_, _, ht2, loop_run2 mixed EAp_ok (s_arp gs) (inv_arp gs) (me_arp gs) re_arp (rs_arp gs) k_arp (fun _ => rfl) (noLoops nl_arp) (round_arp gs h2 h3) (x := 0) (Nat.zero_le _) (π := [none]) rfl ?_⟩
  refine ⟨rfl, rfl, ?_, wvs_spread' [0, 5, 6, 14, 15, 16] hlen rfl ?_⟩
  · repeat' (first | exact True.intro | exact rfl | exact wv_top _ _ | exact fun _ => rfl | assumption | exact Eq.symm (by assumption) | exact vI0 rfl | refine And.intro ?_ ?_)
  · rw [hpick]
    repeat' (first | exact True.intro | exact rfl | exact wv_top _ _ | exact fun _ => rfl | assumption | exact Eq.symm (by assumption) | exact vI0 rfl | refine And.intro ?_ ?_)
theorem Lr_arp {fn : Func} (hf : Try.prog.funcs[35]? = some fn) : LoopsGood Try.prog (lt1 e_arp) 0 (codeOf fn) := by
  obtain rfl := fn_is Try.func35 hf
  exact lt1_good lg_arp
def LAp : FuncId → LT := fun f => match f with
  | 35 => lt1 e_arp
  | _ => noL
def EAo : Env := withT (mkE TAr RMe LAp) JSs
theorem EAo_ok : EnvOk Try.prog EAo := withT_ok (mkEOk TAr_ok RMe_ok (by
  intro f fn hf
  unfold LAp
  split
  all_goals first | with_reducible exact Lr_arp hf | exact noL_good)) JSs_ok
set_option maxRecDepth 100000 in
theorem tr_arF (gs : List Pt) : bodyV Try.prog EAo 30 12 35 [.row gs.length (.ints (flat gs))] = .need (gs.length * (2 : Nat) ≤ (List.drop (0 : Nat) (flat gs)).length) (.need (gs.length ≤ (1000000000 : Nat)) (brT (!vgB (ptsA gs.length (List.drop 0 (flat gs)))) (.fin (.tuple #[.int .i64 (-1), .int .i64 (-1), .int .i64 (-1)]) []) (.need ((0 : Int) = (0 : Int)) (.need ((0 : Int) = (0 : Int)) (.need ((↑gs.length : Int) = (↑gs.length : Int)) (.need (gs.length = gs.length) (.need ((flat gs).length = gs.length * (2 : Nat)) (.need (gs.length ≤ (8 : Nat)) (.need (allV (ptsA gs.length (flat gs)) = true) (.need ((fl4 (arA (ptsA gs.length (flat gs)) gs.length)).length = (arA (ptsA gs.length (flat gs)) gs.length).length * (4 : Nat)) (.need ((arA (ptsA gs.length (flat gs)) gs.length).length ≤ (1000000000 : Nat)) (.need (allV4 (arA (ptsA gs.length (flat gs)) gs.length).length (fl4 (arA (ptsA gs.length (flat gs)) gs.length))) (.need ((fl4 (srtQ (q4A (arA (ptsA gs.length (flat gs)) gs.length).length (fl4 (arA (ptsA gs.length (flat gs)) gs.length))))).length = (arA (ptsA gs.length (flat gs)) gs.length).length * (4 : Nat)) (.need ((arA (ptsA gs.length (flat gs)) gs.length).length ≤ (1000000000 : Nat)) (.fin (.tuple #[.int .i64 ((↑(dmP (q4A (arA (ptsA gs.length (flat gs)) gs.length).length (fl4 (srtQ (q4A (arA (ptsA gs.length (flat gs)) gs.length).length (fl4 (arA (ptsA gs.length (flat gs)) gs.length))))))).length : Int)), .int .i64 ((↑(arE (ptsA gs.length (flat gs)) gs.length) : Int)), .int .i64 (IntKind.i64.wrap (IntKind.i64.wrap ((↑(arE (ptsA gs.length (flat gs)) gs.length) : Int) - (↑(dmP (q4A (arA (ptsA gs.length (flat gs)) gs.length).length (fl4 (srtQ (q4A (arA (ptsA gs.length (flat gs)) gs.length).length (fl4 (arA (ptsA gs.length (flat gs)) gs.length))))))).length : Int)) + 1))]) []))))))))))))))) := by kernel_rfl
theorem arA_ok {gs : List Pt} (hv : allV gs = true) : ∀ i, ∀ q ∈ arA gs i, okQ q = true
  | 0, q, h => by simp [arA] at h
  | i + 1, q, h => by
    simp only [arA, List.mem_append] at h
    rcases h with h | h
    · exact arA_ok hv i q h
    · obtain ⟨v1, v2, v3, v4⟩ := allV_get hv i
      exact meL_ok hv ⟨⟨v1, v2⟩, v3, v4⟩ _ q ((stQ_mem _ _).1 h)
/-- Vertices, edges, faces. -/
def arV (gs : List Pt) : Nat := (stQ (arA gs gs.length)).length
def arR (gs : List Pt) : Value := bif vgB gs then .tuple #[iv (arV gs : Nat), iv (arE gs gs.length : Nat), iv (arE gs gs.length - arV gs + 1)] else .tuple #[iv (-1), iv (-1), iv (-1)]
theorem res_iAr (gs : List Pt) (h : Big gs) : Res Try.prog 35 [.row gs.length (.ints (flat gs))] (arR gs) := by
  refine bodyV_res mixed EAo_ok (m := 30) (n := 12) (by unfold arR; cases vgB gs <;> rfl) ?_
  rw [tr_arF]
  unfold Big at h
  have fl := flat_length gs
  simp only [List.drop_zero, ptsA_flat, q4A_fl4]
  unfold arR
  rcases hv : vgB gs with _ | _
  · exact ⟨by omega, h, rfl⟩
  · obtain ⟨h1, h2⟩ := vg_iff hv
    have ho := arA_ok h1 gs.length
    obtain ⟨al, ae⟩ := arA_len gs gs.length
    have b1 : gs.length * gs.length ≤ 64 := Nat.mul_le_mul h2 h2
    have b2 : gs.length * (gs.length + 1) ≤ 72 := Nat.mul_le_mul h2 (show gs.length + 1 ≤ 9 by omega)
    have l1 := fl4_length (arA gs gs.length)
    have l2 := fl4_length (srtQ (arA gs gs.length))
    rw [srtQ_len] at l2
    have e2 : q4A (arA gs gs.length).length (fl4 (srtQ (arA gs gs.length))) = srtQ (arA gs gs.length) := by
      have := q4A_fl4 (srtQ (arA gs gs.length))
      rwa [srtQ_len] at this
    have sl := stQ_len (arA gs gs.length)
    have ev : dmP (srtQ (arA gs gs.length)) = stQ (arA gs gs.length) := rfl
    rw [e2, ev]
    refine ⟨by omega, h, trivial, trivial, trivial, trivial, fl, h2, h1, l1, by omega, by unfold allV4; rw [q4A_fl4]; exact ho, l2, by omega, ?_⟩
    show Value.tuple _ = Value.tuple _
    unfold arV
    rw [wr (x := (arE gs gs.length : Int) - ((stQ (arA gs gs.length)).length : Nat)) (by omega), wr (by omega)]
end Go.Proofs.Ytolodncpegajkab
namespace Go.Proofs.Ytolodncpegajkab
set_option linter.all false
open Go.RowKit
/-- The place of a point among others in order. -/
def kQ (p : Q4) : List Q4 → Nat
  | [] => 0
  | q :: r => if qLt q p then kQ p r + 1 else 0
/-- A point put in its place, unless it is there. -/
def inQ (p : Q4) : List Q4 → List Q4
  | [] => [p]
  | q :: r => if qLt q p then q :: inQ p r else if q = p then q :: r else p :: q :: r
theorem kQ_le (p : Q4) : ∀ ps : List Q4, kQ p ps ≤ ps.length
  | [] => Nat.le_refl _
  | q :: r => by
    have := kQ_le p r
    simp only [kQ, List.length_cons]
    split <;> omega
theorem inQ_is (p : Q4) : ∀ ps : List Q4, inQ p ps = if kQ p ps < ps.length ∧ ps.getD (kQ p ps) z4 = p then ps else ps.take (kQ p ps) ++ (p :: ps.drop (kQ p ps))
  | [] => by simp [inQ, kQ]
  | q :: r => by
    have ih := inQ_is p r
    simp only [inQ, kQ]
    split
    · rw [ih]
      simp only [List.length_cons, Nat.add_lt_add_iff_right, List.getD_cons_succ, List.take_succ_cons, List.drop_succ_cons, List.cons_append]
      split <;> rfl
    · simp
theorem inQ_mem (p : Q4) : ∀ (ps : List Q4) (z : Q4), z ∈ inQ p ps ↔ z ∈ ps ∨ z = p
  | [], z => by simp [inQ]
  | q :: r, z => by
    have ih := inQ_mem p r z
    simp only [inQ]
    split
    · simp only [List.mem_cons, ih]
      constructor
      · rintro (h | h | h) <;> simp [h]
      · rintro ((h | h) | h) <;> simp [h]
    · split
      · rename_i h1 h2
        subst h2
        simp only [List.mem_cons]
        constructor
        · intro h; exact .inl h
        · rintro (h | h)
          · exact h
          · exact .inl h
      · simp only [List.mem_cons]
        constructor
        · rintro (h | h | h) <;> simp [h]
        · rintro ((h | h) | h) <;> simp [h]
def pCm4 : List DArg → Option (Value × List Prop)
  | [.v (.agg ⟨[.int .i64 a, .int .i64 b]⟩), .v (.agg ⟨[.int .i64 c, .int .i64 d]⟩)] => some (iv (sgn (a * d - c * b)), [ratB a b = true, ratB c d = true])
  | _ => none
theorem pCm4_ok {ds : List DArg} {v : Value} {C : List Prop} (h : pCm4 ds = some (v, C)) (hC : AllP C) : Res Try.prog 146 ds v := by
  unfold pCm4 at h
  split at h
  · obtain ⟨rfl, rfl⟩ : _ ∧ _ := by simpa using h
    have h1 := hC.1
    have h2 := hC.2.1
    exact res_calls (by kernel_rfl) rfl rfl fun w => specCompare_any _ _ _ _ w h1 h2
  · cases h
def TCm4 : Tab := fun f ds => match f with
  | 146 => pCm4 ds
  | f => TAr f ds
theorem TCm4_ok : TabOk Try.prog TCm4 := by
  intro f ds v C h hC
  unfold TCm4 at h
  (try split at h)
  all_goals first | with_reducible exact pCm4_ok h hC | exact TAr_ok _ _ _ _ h hC
def ECm4 : Env := tabE TCm4
theorem ECm4_ok : EnvOk Try.prog ECm4 := tabE_ok TCm4_ok
set_option maxRecDepth 100000 in
theorem tr_rpl (a b c d e f g h : Int) : bodyV Try.prog ECm4 30 12 119 [.v (.agg #[iv a, iv b, iv c, iv d]), .v (.agg #[iv e, iv f, iv g, iv h])] = .need (ratB a b = true) (.need (ratB e f = true) (brT (decide (sgn (a * f - e * b) < 0)) (.fin (.bool (true)) []) (brT (sgn (a * f - e * b) == 0) (.need (ratB c d = true) (.need (ratB g h = true) (.fin (.bool (decide (sgn (c * h - g * d) < 0))) []))) (.fin (.bool (false)) [])))) := by kernel_rfl
theorem res_rpl {a b c d e f g h : Int} (h1 : okQ (a, b, c, d) = true) (h2 : okQ (e, f, g, h) = true) : Res Try.prog 119 [.v (.agg #[iv a, iv b, iv c, iv d]), .v (.agg #[iv e, iv f, iv g, iv h])] (.bool (qLt (a, b, c, d) (e, f, g, h))) := by
  refine bodyV_res mixed ECm4_ok (m := 30) (n := 12) rfl ?_
  rw [tr_rpl]
  obtain ⟨k1, k2⟩ := okQ_1 h1
  obtain ⟨k3, k4⟩ := okQ_1 h2
  have hs : ∀ x : Int, sgn x = 1 ∨ sgn x = 0 ∨ sgn x = -1 := fun x => by unfold sgn; split <;> (try split) <;> simp
  unfold qLt cmQ cmpRQ orI
  simp only at k1 k2 k3 k4 ⊢
  generalize sgn (a * f - e * b) = A at *
  generalize sgn (c * h - g * d) = B at *
  refine ⟨k1, k3, brT_ok.2 ⟨fun q => ?_, fun q => brT_ok.2 ⟨fun q2 => ⟨k2, k4, ?_⟩, fun q2 => ?_⟩⟩⟩
  · have q := of_decide_eq_true q
    show Value.bool _ = Value.bool _
    rw [if_neg (by omega), decide_eq_true q]
  · show Value.bool _ = Value.bool _
    rw [if_pos (beq_iff_eq.1 q2)]
  · have q := of_decide_eq_false q
    have q2 := beq_eq_false_iff_ne.1 q2
    show Value.bool _ = Value.bool _
    rw [if_neg q2, decide_eq_false q]
/-- The order, and what is valid, of numbers. -/
def rpB (a b c d e f g h : Int) : Bool := qLt (a, b, c, d) (e, f, g, h)
def okB (a b c d : Int) : Bool := okQ (a, b, c, d)
def pRpl : List DArg → Option (Value × List Prop)
  | [.v (.agg ⟨[.int .i64 a, .int .i64 b, .int .i64 c, .int .i64 d]⟩), .v (.agg ⟨[.int .i64 e, .int .i64 f, .int .i64 g, .int .i64 h]⟩)] => some (.bool (rpB a b c d e f g h), [okB a b c d = true, okB e f g h = true])
  | _ => none
theorem pRpl_ok {ds : List DArg} {v : Value} {C : List Prop} (h : pRpl ds = some (v, C)) (hC : AllP C) : Res Try.prog 119 ds v := by
  unfold pRpl at h
  split at h
  · obtain ⟨rfl, rfl⟩ : _ ∧ _ := by simpa using h
    exact res_rpl hC.1 hC.2.1
  · cases h
def TAl : Tab := fun f ds => match f with
  | 119 => pRpl ds
  | f => TAr f ds
theorem TAl_ok : TabOk Try.prog TAl := by
  intro f ds v C h hC
  unfold TAl at h
  (try split at h)
  all_goals first | with_reducible exact pRpl_ok h hC | exact TAr_ok _ _ _ _ h hC
def EAl : Env := tabE TAl
theorem EAl_ok : EnvOk Try.prog EAl := tabE_ok TAl_ok
/-- The place among the first cells. -/
def kZ (x y u v : Int) (n : Nat) (xs : List Int) : Nat := 0 + kQ (x, y, u, v) ((q4A n xs).drop 0)
theorem kZ_is (x y u v : Int) (ps : List Q4) : kZ x y u v ps.length (fl4 ps) = kQ (x, y, u, v) ps := by
  unfold kZ
  rw [q4A_fl4, List.drop_zero, Nat.zero_add]
noncomputable def c_adq : Code := ((loopsOf (codeOf Try.f80))[0]?).getD .skip
def k_adq : Ex → List Nat := keeps [0, 3, 5] [(0, [0, 3, 5])] [4]
def s_adq (ps : List Q4) (p : Q4) : Nat → St := fun i => ⟨(.slice (some ⟨0, 0, none⟩) ps.length ps.length :: topV :: topV :: .pointer (some ⟨1, 0, none⟩) :: topV :: .int .i64 i :: topV :: topV :: topV :: topV :: topV :: topV :: topV :: topV :: topV :: topV :: topV :: topV :: topV :: topV :: topV :: topV :: topV :: topV :: topV :: topV :: topV :: topV :: topV :: topV :: topV :: topV :: topV :: topV :: topV :: topV :: topV :: topV :: topV :: topV :: topV :: topV :: topV :: topV :: topV :: topV :: topV :: topV :: []), [some ⟨.row 100 4, .ints (fl4 ps)⟩, some ⟨.box, .vals [.int .i64 p.1, .int .i64 p.2.1, .int .i64 p.2.2.1, .int .i64 p.2.2.2]⟩]⟩
def re_adq : Nat → Ex := fun _ => .exit 0
def rs_adq (ps : List Q4) (p : Q4) : Nat → St := fun i => ⟨(.slice (some ⟨0, 0, none⟩) ps.length ps.length :: topV :: topV :: .pointer (some ⟨1, 0, none⟩) :: topV :: .int .i64 ((i + kQ p (ps.drop i) : Nat) : Int) :: topV :: topV :: topV :: topV :: topV :: topV :: topV :: topV :: topV :: topV :: topV :: topV :: topV :: topV :: topV :: topV :: topV :: topV :: topV :: topV :: topV :: topV :: topV :: topV :: topV :: topV :: topV :: topV :: topV :: topV :: topV :: topV :: topV :: topV :: topV :: topV :: topV :: topV :: topV :: topV :: topV :: topV :: []), [some ⟨.row 100 4, .ints (fl4 ps)⟩, some ⟨.box, .vals [.int .i64 p.1, .int .i64 p.2.1, .int .i64 p.2.2.1, .int .i64 p.2.2.2]⟩]⟩
set_option maxRecDepth 100000 in
theorem tr_adq (ps : List Q4) (p : Q4) (i : Nat) : bodyL Try.prog EAl 30 12 noL 1 c_adq k_adq 2 (s_adq ps p i) = brT (decide ((↑i : Int) < (↑ps.length : Int))) (.need (okB ((fl4 ps).getD ((0 : Nat) + (↑i : Int).toNat * (4 : Nat)) (0 : Int)) ((fl4 ps).getD ((0 : Nat) + (↑i : Int).toNat * (4 : Nat) + (1 : Nat)) (0 : Int)) ((fl4 ps).getD ((0 : Nat) + (↑i : Int).toNat * (4 : Nat) + (1 : Nat) + (1 : Nat)) (0 : Int)) ((fl4 ps).getD ((0 : Nat) + (↑i : Int).toNat * (4 : Nat) + (1 : Nat) + (1 : Nat) + (1 : Nat)) (0 : Int)) = true) (.need (okB p.1 p.snd.1 p.snd.snd.1 p.snd.snd.2 = true) (.need ((0 : Int) ≤ (↑i : Int) ∧ (↑i : Int) < (↑ps.length : Int)) (.need ((0 : Nat) + (↑i : Int).toNat * (4 : Nat) + (4 : Nat) ≤ (fl4 ps).length) (brT (rpB ((fl4 ps).getD (0 + (↑i : Int).toNat * 4) 0) ((fl4 ps).getD (0 + (↑i : Int).toNat * 4 + 1) 0) ((fl4 ps).getD (0 + (↑i : Int).toNat * 4 + 1 + 1) 0) ((fl4 ps).getD (0 + (↑i : Int).toNat * 4 + 1 + 1 + 1) 0) p.1 p.snd.1 p.snd.snd.1 p.snd.snd.2) (.leaf .normal ⟨(.slice (some ⟨0, 0, none⟩) (ps.length) (ps.length) :: topV :: topV :: .pointer (some ⟨1, 0, none⟩) :: topV :: .int .i64 (IntKind.i64.wrap ((↑i : Int) + 1)) :: topV :: topV :: topV :: topV :: topV :: topV :: topV :: topV :: topV :: topV :: topV :: topV :: topV :: topV :: topV :: topV :: topV :: topV :: topV :: topV :: topV :: topV :: topV :: topV :: topV :: topV :: topV :: topV :: topV :: topV :: topV :: topV :: topV :: topV :: topV :: topV :: topV :: topV :: topV :: topV :: topV :: topV :: []), [some ⟨.row 100 4, .ints (fl4 ps)⟩, some ⟨.box, .vals [.int .i64 (p.1), .int .i64 (p.snd.1), .int .i64 (p.snd.snd.1), .int .i64 (p.snd.snd.2)]⟩]⟩) (.leaf (.exit 0) ⟨(.slice (some ⟨0, 0, none⟩) (ps.length) (ps.length) :: topV :: topV :: .pointer (some ⟨1, 0, none⟩) :: topV :: .int .i64 ((↑i : Int)) :: topV :: topV :: topV :: topV :: topV :: topV :: topV :: topV :: topV :: topV :: topV :: topV :: topV :: topV :: topV :: topV :: topV :: topV :: topV :: topV :: topV :: topV :: topV :: topV :: topV :: topV :: topV :: topV :: topV :: topV :: topV :: topV :: topV :: topV :: topV :: topV :: topV :: topV :: topV :: topV :: topV :: topV :: []), [some ⟨.row 100 4, .ints (fl4 ps)⟩, some ⟨.box, .vals [.int .i64 (p.1), .int .i64 (p.snd.1), .int .i64 (p.snd.snd.1), .int .i64 (p.snd.snd.2)]⟩]⟩)))))) (.leaf (.exit 0) ⟨(.slice (some ⟨0, 0, none⟩) (ps.length) (ps.length) :: topV :: topV :: .pointer (some ⟨1, 0, none⟩) :: topV :: .int .i64 ((↑i : Int)) :: topV :: topV :: topV :: topV :: topV :: topV :: topV :: topV :: topV :: topV :: topV :: topV :: topV :: topV :: topV :: topV :: topV :: topV :: topV :: topV :: topV :: topV :: topV :: topV :: topV :: topV :: topV :: topV :: topV :: topV :: topV :: topV :: topV :: topV :: topV :: topV :: topV :: topV :: topV :: topV :: topV :: topV :: []), [some ⟨.row 100 4, .ints (fl4 ps)⟩, some ⟨.box, .vals [.int .i64 (p.1), .int .i64 (p.snd.1), .int .i64 (p.snd.snd.1), .int .i64 (p.snd.snd.2)]⟩]⟩) := by kernel_rfl
set_option maxRecDepth 100000 in
theorem nl_adq : loopsOf c_adq = [] := by kernel_rfl
def inv_adq (ps : List Q4) (p : Q4) : Nat → Prop := fun i => i ≤ ps.length
def me_adq (ps : List Q4) (p : Q4) : Nat → Nat := fun i => ps.length - i
/-- A round of this loop. -/
def Round_adq (ps : List Q4) (p : Q4) : Prop := ∀ xx : Nat, inv_adq ps p xx → (bodyL Try.prog EAl 30 12 noL 1 c_adq k_adq 2 (s_adq ps p xx)).ok (RoundEnd 2 (s_adq ps p) (inv_adq ps p) (me_adq ps p) re_adq (rs_adq ps p) xx) (fun _ _ => False)
def e_adq (s : St) (k : Ex → St → Tree) : Option Tree := match Nat.beq s.tmps.length 48, pickL s.tmps [0, 3, 5], s.mem with
  | true, [.slice (some ⟨0, 0, none⟩) n _, .pointer (some ⟨1, 0, none⟩), .int .i64 i], [some ⟨.row 100 4, .ints xs⟩, some ⟨.box, .vals [.int .i64 x, .int .i64 y, .int .i64 u, .int .i64 v]⟩] => some (needs [i = 0, xs.length = n * 4, n ≤ 1000000000, allV4 n xs, okB x y u v = true] (k (.exit 0) ⟨(.slice (some ⟨0, 0, none⟩) n n :: topV :: topV :: .pointer (some ⟨1, 0, none⟩) :: topV :: .int .i64 ((kZ x y u v n xs : Nat) : Int) :: topV :: topV :: topV :: topV :: topV :: topV :: topV :: topV :: topV :: topV :: topV :: topV :: topV :: topV :: topV :: topV :: topV :: topV :: topV :: topV :: topV :: topV :: topV :: topV :: topV :: topV :: topV :: topV :: topV :: topV :: topV :: topV :: topV :: topV :: topV :: topV :: topV :: topV :: topV :: topV :: topV :: topV :: []), [some ⟨.row 100 4, .ints xs⟩, some ⟨.box, .vals [.int .i64 x, .int .i64 y, .int .i64 u, .int .i64 v]⟩]⟩))
  | _, _, _ => none
theorem kQ_no {p q : Q4} {r : List Q4} (h : qLt q p = false) : kQ p (q :: r) = 0 := by simp [kQ, h]
theorem kQ_yes {p q : Q4} {r : List Q4} (h : qLt q p = true) : kQ p (q :: r) = kQ p r + 1 := by simp [kQ, h]
set_option maxRecDepth 100000 in
theorem round_adq (ps : List Q4) (p : Q4) (h : ps.length ≤ 1000000000) (ho : ∀ q ∈ ps, okQ q = true) (hp : okQ p = true) : Round_adq ps p := by
  intro i h1
  have h1 : i ≤ ps.length := h1
  rw [tr_adq]
  simp only [brT_ok, Tree.ok, decide_eq_true_eq, decide_eq_false_iff_not, Int.toNat_natCast, Nat.zero_add, fl4_length, fl4_get0, fl4_get1, fl4_g2, fl4_g3]
  refine ⟨fun hlt => ⟨ho _ (getD_mem4 (by omega)), hp, by omega, by omega, fun g => ?_, fun g => ?_⟩, fun hge => ?_⟩
  · have hd : ps.drop i = ps.getD i z4 :: ps.drop (i + 1) := drop_cons (by omega) _
    have g : qLt (ps.getD i z4) p = true := g
    have e : i + kQ p (ps.drop i) = (i + 1) + kQ p (ps.drop (i + 1)) := by rw [hd, kQ_yes g]; omega
    rw [wsucc (n := ps.length) (by omega) h]
    refine ⟨i + 1, [], ?_, ?_, rfl, by simp only [rs_adq, e], ?_⟩
    · show i + 1 ≤ ps.length; omega
    · show ps.length - (i + 1) < ps.length - i; omega
    · repeat' (first | exact True.intro | exact rfl | exact fun _ => rfl | (simp; done) | refine And.intro ?_ ?_)
  · have hd : ps.drop i = ps.getD i z4 :: ps.drop (i + 1) := drop_cons (by omega) _
    have g : qLt (ps.getD i z4) p = false := g
    have e : i + kQ p (ps.drop i) = i := by rw [hd, kQ_no g]; rfl
    refine ⟨rfl, [], ?_⟩
    simp only [rs_adq, e]
    repeat' (first | exact True.intro | exact rfl | exact fun _ => rfl | (simp; done) | refine And.intro ?_ ?_)
  · have e : i + kQ p (ps.drop i) = i := by rw [List.drop_of_length_le (by omega)]; rfl
    refine ⟨rfl, [], ?_⟩
    simp only [rs_adq, e]
    repeat' (first | exact True.intro | exact rfl | exact fun _ => rfl | (simp; done) | refine And.intro ?_ ?_)
set_option maxRecDepth 100000 in
theorem lg_adq : LoopE Try.prog e_adq c_adq := by
  intro s k t F H hlt ht
  unfold e_adq at hlt
  split at hlt
  rotate_left
  · cases hlt
  rename_i hlen hpick hmem
  obtain ⟨tmps, mem⟩ := s
  simp only at hlen hpick hmem
  subst hmem
  obtain rfl := Option.some.inj hlt
  obtain ⟨⟨rfl, h1, h2, h3, h4, _⟩, ht2⟩ := needs_ok ht
  clear ht hlt
  obtain ⟨ps, rfl, rfl⟩ := four_fl4 h1
  unfold allV4 at h3
  rw [q4A_fl4] at h3
  unfold kZ at ht2
  rw [q4A_fl4] at ht2
  refine ⟨_, _, ht2, loop_run mixed EAl_ok (s_adq ps (_, _, _, _)) (inv_adq ps (_, _, _, _)) (me_adq ps (_, _, _, _)) re_adq (rs_adq ps (_, _, _, _)) k_adq (fun _ => rfl) (noLoops nl_adq) (round_adq ps (_, _, _, _) h2 h3 h4) (x := 0) (Nat.zero_le _) (π := []) rfl ?_⟩
  refine ⟨rfl, rfl, ?_, wvs_spread' [0, 3, 5] hlen rfl ?_⟩
  · repeat' (first | exact True.intro | exact rfl | exact wv_top _ _ | exact fun _ => rfl | assumption | exact Eq.symm (by assumption) | exact vI0 rfl | refine And.intro ?_ ?_)
  · rw [hpick]
    repeat' (first | exact True.intro | exact rfl | exact wv_top _ _ | exact fun _ => rfl | assumption | exact Eq.symm (by assumption) | exact vI0 rfl | refine And.intro ?_ ?_)
theorem Lr_adq {fn : Func} (hf : Try.prog.funcs[80]? = some fn) : LoopsGood Try.prog (lt1 e_adq) 0 (codeOf fn) := by
  obtain rfl := fn_is Try.func80 hf
  exact lt1_good lg_adq
def LAq : FuncId → LT := fun f => match f with
  | 80 => lt1 e_adq
  | _ => noL
def EAq : Env := mkE TAl (fun _ _ => none) LAq
theorem EAq_ok : EnvOk Try.prog EAq := mkEOk TAl_ok (fun _ _ _ _ _ h => (by cases h)) (by
  intro f fn hf
  unfold LAq
  split
  all_goals first | with_reducible exact Lr_adq hf | exact noL_good)
set_option maxRecDepth 100000 in
theorem tr_adqF (ps : List Q4) (x y u v : Int) : bodyM Try.prog EAq (runM Try.prog EAq 30 12) 30 80 [.slice (some ⟨0, 0, none⟩) ps.length ps.length, .agg #[.int .i64 x, .int .i64 y, .int .i64 u, .int .i64 v]] [some ⟨.row 100 4, .ints (fl4 ps)⟩] .fin = .need ((0 : Int) = (0 : Int)) (.need ((fl4 ps).length = ps.length * (4 : Nat)) (.need (ps.length ≤ (1000000000 : Nat)) (.need (allV4 ps.length (fl4 ps)) (.need (okB x y u v = true) (brT (decide ((↑(kZ x y u v ps.length (fl4 ps)) : Int) < (↑ps.length : Int))) (.need ((0 : Int) ≤ (↑(kZ x y u v ps.length (fl4 ps)) : Int) ∧ (↑(kZ x y u v ps.length (fl4 ps)) : Int) < (↑ps.length : Int)) (.need ((0 : Nat) + (↑(kZ x y u v ps.length (fl4 ps)) : Int).toNat * (4 : Nat) + (4 : Nat) ≤ (fl4 ps).length) (brT (negB false ((fl4 ps).getD (0 + (↑(kZ x y u v ps.length (fl4 ps)) : Int).toNat * 4) 0 == x && ((fl4 ps).getD (0 + (↑(kZ x y u v ps.length (fl4 ps)) : Int).toNat * 4 + 1) 0 == y && true) && ((fl4 ps).getD (0 + (↑(kZ x y u v ps.length (fl4 ps)) : Int).toNat * 4 + 1 + 1) 0 == u && ((fl4 ps).getD (0 + (↑(kZ x y u v ps.length (fl4 ps)) : Int).toNat * 4 + 1 + 1 + 1) 0 == v && true) && true))) (.fin (.slice (some ⟨0, 0, none⟩) (ps.length) (ps.length)) [some ⟨.row 100 4, .ints (fl4 ps)⟩, some ⟨.box, .vals [.int .i64 (x), .int .i64 (y), .int .i64 (u), .int .i64 (v)]⟩]) (.need ((0 : Int) ≤ bndI none (0 : Int) ∧ bndI none (0 : Int) ≤ bndI (some (IntKind.i64, (↑(kZ x y u v ps.length (fl4 ps)) : Int))) (↑ps.length : Int) ∧ bndI (some (IntKind.i64, (↑(kZ x y u v ps.length (fl4 ps)) : Int))) (↑ps.length : Int) ≤ (↑ps.length : Int)) (.need (((0 : Nat) + ((bndI (some (IntKind.i64, (↑(kZ x y u v ps.length (fl4 ps)) : Int))) (↑ps.length : Int)).toNat - (bndI none (0 : Int)).toNat, Cs.ints (List.take (((bndI (some (IntKind.i64, (↑(kZ x y u v ps.length (fl4 ps)) : Int))) (↑ps.length : Int)).toNat - (bndI none (0 : Int)).toNat) * Try.prog.types[(100 : Nat)].size) (List.drop ((0 : Nat) + (bndI none (0 : Int)).toNat * Try.prog.types[(100 : Nat)].size) (fl4 ps))), [(0 : Nat) + (bndI none (0 : Int)).toNat * Try.prog.types[(100 : Nat)].size + ((bndI (some (IntKind.i64, (↑(kZ x y u v ps.length (fl4 ps)) : Int))) (↑ps.length : Int)).toNat - (bndI none (0 : Int)).toNat) * Try.prog.types[(100 : Nat)].size ≤ (fl4 ps).length]).fst) * (32 : Nat) ≤ (140737488355328 : Nat) ∧ (0 : Nat) + ((bndI (some (IntKind.i64, (↑(kZ x y u v ps.length (fl4 ps)) : Int))) (↑ps.length : Int)).toNat - (bndI none (0 : Int)).toNat, Cs.ints (List.take (((bndI (some (IntKind.i64, (↑(kZ x y u v ps.length (fl4 ps)) : Int))) (↑ps.length : Int)).toNat - (bndI none (0 : Int)).toNat) * Try.prog.types[(100 : Nat)].size) (List.drop ((0 : Nat) + (bndI none (0 : Int)).toNat * Try.prog.types[(100 : Nat)].size) (fl4 ps))), [(0 : Nat) + (bndI none (0 : Int)).toNat * Try.prog.types[(100 : Nat)].size + ((bndI (some (IntKind.i64, (↑(kZ x y u v ps.length (fl4 ps)) : Int))) (↑ps.length : Int)).toNat - (bndI none (0 : Int)).toNat) * Try.prog.types[(100 : Nat)].size ≤ (fl4 ps).length]).fst ≤ (1000000 : Nat)) (.need ((0 : Nat) + ((bndI (some (IntKind.i64, (↑(kZ x y u v ps.length (fl4 ps)) : Int))) (↑ps.length : Int)).toNat - (0 : Nat)) * (4 : Nat) ≤ (fl4 ps).length) (.need (((0 : Nat) + ((bndI (some (IntKind.i64, (↑(kZ x y u v ps.length (fl4 ps)) : Int))) (↑ps.length : Int)).toNat - (bndI none (0 : Int)).toNat, Cs.ints (List.take (((bndI (some (IntKind.i64, (↑(kZ x y u v ps.length (fl4 ps)) : Int))) (↑ps.length : Int)).toNat - (bndI none (0 : Int)).toNat) * Try.prog.types[(100 : Nat)].size) (List.drop ((0 : Nat) + (bndI none (0 : Int)).toNat * Try.prog.types[(100 : Nat)].size) (fl4 ps))), [(0 : Nat) + (bndI none (0 : Int)).toNat * Try.prog.types[(100 : Nat)].size + ((bndI (some (IntKind.i64, (↑(kZ x y u v ps.length (fl4 ps)) : Int))) (↑ps.length : Int)).toNat - (bndI none (0 : Int)).toNat) * Try.prog.types[(100 : Nat)].size ≤ (fl4 ps).length]).fst + (1 : Nat)) * (32 : Nat) ≤ (140737488355328 : Nat) ∧ (0 : Nat) + ((bndI (some (IntKind.i64, (↑(kZ x y u v ps.length (fl4 ps)) : Int))) (↑ps.length : Int)).toNat - (bndI none (0 : Int)).toNat, Cs.ints (List.take (((bndI (some (IntKind.i64, (↑(kZ x y u v ps.length (fl4 ps)) : Int))) (↑ps.length : Int)).toNat - (bndI none (0 : Int)).toNat) * Try.prog.types[(100 : Nat)].size) (List.drop ((0 : Nat) + (bndI none (0 : Int)).toNat * Try.prog.types[(100 : Nat)].size) (fl4 ps))), [(0 : Nat) + (bndI none (0 : Int)).toNat * Try.prog.types[(100 : Nat)].size + ((bndI (some (IntKind.i64, (↑(kZ x y u v ps.length (fl4 ps)) : Int))) (↑ps.length : Int)).toNat - (bndI none (0 : Int)).toNat) * Try.prog.types[(100 : Nat)].size ≤ (fl4 ps).length]).fst + (1 : Nat) ≤ (1000000 : Nat)) (.need ((0 : Nat) + ((0 : Nat) + ((bndI (some (IntKind.i64, (↑(kZ x y u v ps.length (fl4 ps)) : Int))) (↑ps.length : Int)).toNat - (bndI none (0 : Int)).toNat, Cs.ints (List.take (((bndI (some (IntKind.i64, (↑(kZ x y u v ps.length (fl4 ps)) : Int))) (↑ps.length : Int)).toNat - (bndI none (0 : Int)).toNat) * Try.prog.types[(100 : Nat)].size) (List.drop ((0 : Nat) + (bndI none (0 : Int)).toNat * Try.prog.types[(100 : Nat)].size) (fl4 ps))), [(0 : Nat) + (bndI none (0 : Int)).toNat * Try.prog.types[(100 : Nat)].size + ((bndI (some (IntKind.i64, (↑(kZ x y u v ps.length (fl4 ps)) : Int))) (↑ps.length : Int)).toNat - (bndI none (0 : Int)).toNat) * Try.prog.types[(100 : Nat)].size ≤ (fl4 ps).length]).fst) * (4 : Nat) ≤ ([] ++ List.take (((bndI (some (IntKind.i64, (↑(kZ x y u v ps.length (fl4 ps)) : Int))) (↑ps.length : Int)).toNat - (0 : Nat)) * (4 : Nat)) (List.drop (0 : Nat) (fl4 ps))).length) (.need ((0 : Int) ≤ bndI (some (IntKind.i64, (↑(kZ x y u v ps.length (fl4 ps)) : Int))) (0 : Int) ∧ bndI (some (IntKind.i64, (↑(kZ x y u v ps.length (fl4 ps)) : Int))) (0 : Int) ≤ bndI none (↑ps.length : Int) ∧ bndI none (↑ps.length : Int) ≤ (↑ps.length : Int)) (.need (((0 : Nat) + ((bndI (some (IntKind.i64, (↑(kZ x y u v ps.length (fl4 ps)) : Int))) (↑ps.length : Int)).toNat - (bndI none (0 : Int)).toNat, Cs.ints (List.take (((bndI (some (IntKind.i64, (↑(kZ x y u v ps.length (fl4 ps)) : Int))) (↑ps.length : Int)).toNat - (bndI none (0 : Int)).toNat) * Try.prog.types[(100 : Nat)].size) (List.drop ((0 : Nat) + (bndI none (0 : Int)).toNat * Try.prog.types[(100 : Nat)].size) (fl4 ps))), [(0 : Nat) + (bndI none (0 : Int)).toNat * Try.prog.types[(100 : Nat)].size + ((bndI (some (IntKind.i64, (↑(kZ x y u v ps.length (fl4 ps)) : Int))) (↑ps.length : Int)).toNat - (bndI none (0 : Int)).toNat) * Try.prog.types[(100 : Nat)].size ≤ (fl4 ps).length]).fst + (1 : Nat) + ((bndI none (↑ps.length : Int)).toNat - (bndI (some (IntKind.i64, (↑(kZ x y u v ps.length (fl4 ps)) : Int))) (0 : Int)).toNat, Cs.ints (List.take (((bndI none (↑ps.length : Int)).toNat - (bndI (some (IntKind.i64, (↑(kZ x y u v ps.length (fl4 ps)) : Int))) (0 : Int)).toNat) * Try.prog.types[(100 : Nat)].size) (List.drop ((0 : Nat) + (bndI (some (IntKind.i64, (↑(kZ x y u v ps.length (fl4 ps)) : Int))) (0 : Int)).toNat * Try.prog.types[(100 : Nat)].size) (fl4 ps))), [(0 : Nat) + (bndI (some (IntKind.i64, (↑(kZ x y u v ps.length (fl4 ps)) : Int))) (0 : Int)).toNat * Try.prog.types[(100 : Nat)].size + ((bndI none (↑ps.length : Int)).toNat - (bndI (some (IntKind.i64, (↑(kZ x y u v ps.length (fl4 ps)) : Int))) (0 : Int)).toNat) * Try.prog.types[(100 : Nat)].size ≤ (fl4 ps).length]).fst) * (32 : Nat) ≤ (140737488355328 : Nat) ∧ (0 : Nat) + ((bndI (some (IntKind.i64, (↑(kZ x y u v ps.length (fl4 ps)) : Int))) (↑ps.length : Int)).toNat - (bndI none (0 : Int)).toNat, Cs.ints (List.take (((bndI (some (IntKind.i64, (↑(kZ x y u v ps.length (fl4 ps)) : Int))) (↑ps.length : Int)).toNat - (bndI none (0 : Int)).toNat) * Try.prog.types[(100 : Nat)].size) (List.drop ((0 : Nat) + (bndI none (0 : Int)).toNat * Try.prog.types[(100 : Nat)].size) (fl4 ps))), [(0 : Nat) + (bndI none (0 : Int)).toNat * Try.prog.types[(100 : Nat)].size + ((bndI (some (IntKind.i64, (↑(kZ x y u v ps.length (fl4 ps)) : Int))) (↑ps.length : Int)).toNat - (bndI none (0 : Int)).toNat) * Try.prog.types[(100 : Nat)].size ≤ (fl4 ps).length]).fst + (1 : Nat) + ((bndI none (↑ps.length : Int)).toNat - (bndI (some (IntKind.i64, (↑(kZ x y u v ps.length (fl4 ps)) : Int))) (0 : Int)).toNat, Cs.ints (List.take (((bndI none (↑ps.length : Int)).toNat - (bndI (some (IntKind.i64, (↑(kZ x y u v ps.length (fl4 ps)) : Int))) (0 : Int)).toNat) * Try.prog.types[(100 : Nat)].size) (List.drop ((0 : Nat) + (bndI (some (IntKind.i64, (↑(kZ x y u v ps.length (fl4 ps)) : Int))) (0 : Int)).toNat * Try.prog.types[(100 : Nat)].size) (fl4 ps))), [(0 : Nat) + (bndI (some (IntKind.i64, (↑(kZ x y u v ps.length (fl4 ps)) : Int))) (0 : Int)).toNat * Try.prog.types[(100 : Nat)].size + ((bndI none (↑ps.length : Int)).toNat - (bndI (some (IntKind.i64, (↑(kZ x y u v ps.length (fl4 ps)) : Int))) (0 : Int)).toNat) * Try.prog.types[(100 : Nat)].size ≤ (fl4 ps).length]).fst ≤ (1000000 : Nat)) (.need ((0 : Nat) + (bndI (some (IntKind.i64, (↑(kZ x y u v ps.length (fl4 ps)) : Int))) (0 : Int)).toNat * (4 : Nat) + ((bndI none (↑ps.length : Int)).toNat - (bndI (some (IntKind.i64, (↑(kZ x y u v ps.length (fl4 ps)) : Int))) (0 : Int)).toNat) * (4 : Nat) ≤ (fl4 ps).length) (.need ((0 : Nat) + ((0 : Nat) + ((bndI (some (IntKind.i64, (↑(kZ x y u v ps.length (fl4 ps)) : Int))) (↑ps.length : Int)).toNat - (bndI none (0 : Int)).toNat, Cs.ints (List.take (((bndI (some (IntKind.i64, (↑(kZ x y u v ps.length (fl4 ps)) : Int))) (↑ps.length : Int)).toNat - (bndI none (0 : Int)).toNat) * Try.prog.types[(100 : Nat)].size) (List.drop ((0 : Nat) + (bndI none (0 : Int)).toNat * Try.prog.types[(100 : Nat)].size) (fl4 ps))), [(0 : Nat) + (bndI none (0 : Int)).toNat * Try.prog.types[(100 : Nat)].size + ((bndI (some (IntKind.i64, (↑(kZ x y u v ps.length (fl4 ps)) : Int))) (↑ps.length : Int)).toNat - (bndI none (0 : Int)).toNat) * Try.prog.types[(100 : Nat)].size ≤ (fl4 ps).length]).fst + (1 : Nat)) * (4 : Nat) ≤ (List.take (((0 : Nat) + ((bndI (some (IntKind.i64, (↑(kZ x y u v ps.length (fl4 ps)) : Int))) (↑ps.length : Int)).toNat - (bndI none (0 : Int)).toNat, Cs.ints (List.take (((bndI (some (IntKind.i64, (↑(kZ x y u v ps.length (fl4 ps)) : Int))) (↑ps.length : Int)).toNat - (bndI none (0 : Int)).toNat) * Try.prog.types[(100 : Nat)].size) (List.drop ((0 : Nat) + (bndI none (0 : Int)).toNat * Try.prog.types[(100 : Nat)].size) (fl4 ps))), [(0 : Nat) + (bndI none (0 : Int)).toNat * Try.prog.types[(100 : Nat)].size + ((bndI (some (IntKind.i64, (↑(kZ x y u v ps.length (fl4 ps)) : Int))) (↑ps.length : Int)).toNat - (bndI none (0 : Int)).toNat) * Try.prog.types[(100 : Nat)].size ≤ (fl4 ps).length]).fst) * (4 : Nat)) (List.drop (0 : Nat) ([] ++ List.take (((bndI (some (IntKind.i64, (↑(kZ x y u v ps.length (fl4 ps)) : Int))) (↑ps.length : Int)).toNat - (0 : Nat)) * (4 : Nat)) (List.drop (0 : Nat) (fl4 ps)))) ++ [x, y, u, v]).length) (.fin (.slice (some ⟨6, 0, none⟩) (0 + ((bndI (some (IntKind.i64, (↑(kZ x y u v ps.length (fl4 ps)) : Int))) (↑ps.length : Int)).toNat - (bndI none 0).toNat, Cs.ints (List.take (((bndI (some (IntKind.i64, (↑(kZ x y u v ps.length (fl4 ps)) : Int))) (↑ps.length : Int)).toNat - (bndI none 0).toNat) * Try.prog.types[100].size) (List.drop (0 + (bndI none 0).toNat * Try.prog.types[100].size) (fl4 ps))), [0 + (bndI none 0).toNat * Try.prog.types[100].size + ((bndI (some (IntKind.i64, (↑(kZ x y u v ps.length (fl4 ps)) : Int))) (↑ps.length : Int)).toNat - (bndI none 0).toNat) * Try.prog.types[100].size ≤ (fl4 ps).length]).fst + 1 + ((bndI none (↑ps.length : Int)).toNat - (bndI (some (IntKind.i64, (↑(kZ x y u v ps.length (fl4 ps)) : Int))) 0).toNat, Cs.ints (List.take (((bndI none (↑ps.length : Int)).toNat - (bndI (some (IntKind.i64, (↑(kZ x y u v ps.length (fl4 ps)) : Int))) 0).toNat) * Try.prog.types[100].size) (List.drop (0 + (bndI (some (IntKind.i64, (↑(kZ x y u v ps.length (fl4 ps)) : Int))) 0).toNat * Try.prog.types[100].size) (fl4 ps))), [0 + (bndI (some (IntKind.i64, (↑(kZ x y u v ps.length (fl4 ps)) : Int))) 0).toNat * Try.prog.types[100].size + ((bndI none (↑ps.length : Int)).toNat - (bndI (some (IntKind.i64, (↑(kZ x y u v ps.length (fl4 ps)) : Int))) 0).toNat) * Try.prog.types[100].size ≤ (fl4 ps).length]).fst) (0 + ((bndI (some (IntKind.i64, (↑(kZ x y u v ps.length (fl4 ps)) : Int))) (↑ps.length : Int)).toNat - (bndI none 0).toNat, Cs.ints (List.take (((bndI (some (IntKind.i64, (↑(kZ x y u v ps.length (fl4 ps)) : Int))) (↑ps.length : Int)).toNat - (bndI none 0).toNat) * Try.prog.types[100].size) (List.drop (0 + (bndI none 0).toNat * Try.prog.types[100].size) (fl4 ps))), [0 + (bndI none 0).toNat * Try.prog.types[100].size + ((bndI (some (IntKind.i64, (↑(kZ x y u v ps.length (fl4 ps)) : Int))) (↑ps.length : Int)).toNat - (bndI none 0).toNat) * Try.prog.types[100].size ≤ (fl4 ps).length]).fst + 1 + ((bndI none (↑ps.length : Int)).toNat - (bndI (some (IntKind.i64, (↑(kZ x y u v ps.length (fl4 ps)) : Int))) 0).toNat, Cs.ints (List.take (((bndI none (↑ps.length : Int)).toNat - (bndI (some (IntKind.i64, (↑(kZ x y u v ps.length (fl4 ps)) : Int))) 0).toNat) * Try.prog.types[100].size) (List.drop (0 + (bndI (some (IntKind.i64, (↑(kZ x y u v ps.length (fl4 ps)) : Int))) 0).toNat * Try.prog.types[100].size) (fl4 ps))), [0 + (bndI (some (IntKind.i64, (↑(kZ x y u v ps.length (fl4 ps)) : Int))) 0).toNat * Try.prog.types[100].size + ((bndI none (↑ps.length : Int)).toNat - (bndI (some (IntKind.i64, (↑(kZ x y u v ps.length (fl4 ps)) : Int))) 0).toNat) * Try.prog.types[100].size ≤ (fl4 ps).length]).fst)) [some ⟨.row 100 4, .ints (fl4 ps)⟩, some ⟨.box, .vals [.int .i64 (x), .int .i64 (y), .int .i64 (u), .int .i64 (v)]⟩, some deadB, some deadB, some ⟨.row 100 4, .vals [.int .i64 (x), .int .i64 (y), .int .i64 (u), .int .i64 (v)]⟩, some deadB, some ⟨.row 100 4, .ints (List.take ((0 + ((bndI (some (IntKind.i64, (↑(kZ x y u v ps.length (fl4 ps)) : Int))) (↑ps.length : Int)).toNat - (bndI none 0).toNat, Cs.ints (List.take (((bndI (some (IntKind.i64, (↑(kZ x y u v ps.length (fl4 ps)) : Int))) (↑ps.length : Int)).toNat - (bndI none 0).toNat) * Try.prog.types[100].size) (List.drop (0 + (bndI none 0).toNat * Try.prog.types[100].size) (fl4 ps))), [0 + (bndI none 0).toNat * Try.prog.types[100].size + ((bndI (some (IntKind.i64, (↑(kZ x y u v ps.length (fl4 ps)) : Int))) (↑ps.length : Int)).toNat - (bndI none 0).toNat) * Try.prog.types[100].size ≤ (fl4 ps).length]).fst + 1) * 4) (List.drop 0 (List.take ((0 + ((bndI (some (IntKind.i64, (↑(kZ x y u v ps.length (fl4 ps)) : Int))) (↑ps.length : Int)).toNat - (bndI none 0).toNat, Cs.ints (List.take (((bndI (some (IntKind.i64, (↑(kZ x y u v ps.length (fl4 ps)) : Int))) (↑ps.length : Int)).toNat - (bndI none 0).toNat) * Try.prog.types[100].size) (List.drop (0 + (bndI none 0).toNat * Try.prog.types[100].size) (fl4 ps))), [0 + (bndI none 0).toNat * Try.prog.types[100].size + ((bndI (some (IntKind.i64, (↑(kZ x y u v ps.length (fl4 ps)) : Int))) (↑ps.length : Int)).toNat - (bndI none 0).toNat) * Try.prog.types[100].size ≤ (fl4 ps).length]).fst) * 4) (List.drop 0 ([] ++ List.take (((bndI (some (IntKind.i64, (↑(kZ x y u v ps.length (fl4 ps)) : Int))) (↑ps.length : Int)).toNat - 0) * 4) (List.drop 0 (fl4 ps)))) ++ [x, y, u, v])) ++ List.take (((bndI none (↑ps.length : Int)).toNat - (bndI (some (IntKind.i64, (↑(kZ x y u v ps.length (fl4 ps)) : Int))) 0).toNat) * 4) (List.drop (0 + (bndI (some (IntKind.i64, (↑(kZ x y u v ps.length (fl4 ps)) : Int))) 0).toNat * 4) (fl4 ps)))⟩]))))))))))))) (.need ((0 : Int) ≤ bndI none (0 : Int) ∧ bndI none (0 : Int) ≤ bndI (some (IntKind.i64, (↑(kZ x y u v ps.length (fl4 ps)) : Int))) (↑ps.length : Int) ∧ bndI (some (IntKind.i64, (↑(kZ x y u v ps.length (fl4 ps)) : Int))) (↑ps.length : Int) ≤ (↑ps.length : Int)) (.need (((0 : Nat) + ((bndI (some (IntKind.i64, (↑(kZ x y u v ps.length (fl4 ps)) : Int))) (↑ps.length : Int)).toNat - (bndI none (0 : Int)).toNat, Cs.ints (List.take (((bndI (some (IntKind.i64, (↑(kZ x y u v ps.length (fl4 ps)) : Int))) (↑ps.length : Int)).toNat - (bndI none (0 : Int)).toNat) * Try.prog.types[(100 : Nat)].size) (List.drop ((0 : Nat) + (bndI none (0 : Int)).toNat * Try.prog.types[(100 : Nat)].size) (fl4 ps))), [(0 : Nat) + (bndI none (0 : Int)).toNat * Try.prog.types[(100 : Nat)].size + ((bndI (some (IntKind.i64, (↑(kZ x y u v ps.length (fl4 ps)) : Int))) (↑ps.length : Int)).toNat - (bndI none (0 : Int)).toNat) * Try.prog.types[(100 : Nat)].size ≤ (fl4 ps).length]).fst) * (32 : Nat) ≤ (140737488355328 : Nat) ∧ (0 : Nat) + ((bndI (some (IntKind.i64, (↑(kZ x y u v ps.length (fl4 ps)) : Int))) (↑ps.length : Int)).toNat - (bndI none (0 : Int)).toNat, Cs.ints (List.take (((bndI (some (IntKind.i64, (↑(kZ x y u v ps.length (fl4 ps)) : Int))) (↑ps.length : Int)).toNat - (bndI none (0 : Int)).toNat) * Try.prog.types[(100 : Nat)].size) (List.drop ((0 : Nat) + (bndI none (0 : Int)).toNat * Try.prog.types[(100 : Nat)].size) (fl4 ps))), [(0 : Nat) + (bndI none (0 : Int)).toNat * Try.prog.types[(100 : Nat)].size + ((bndI (some (IntKind.i64, (↑(kZ x y u v ps.length (fl4 ps)) : Int))) (↑ps.length : Int)).toNat - (bndI none (0 : Int)).toNat) * Try.prog.types[(100 : Nat)].size ≤ (fl4 ps).length]).fst ≤ (1000000 : Nat)) (.need ((0 : Nat) + ((bndI (some (IntKind.i64, (↑(kZ x y u v ps.length (fl4 ps)) : Int))) (↑ps.length : Int)).toNat - (0 : Nat)) * (4 : Nat) ≤ (fl4 ps).length) (.need (((0 : Nat) + ((bndI (some (IntKind.i64, (↑(kZ x y u v ps.length (fl4 ps)) : Int))) (↑ps.length : Int)).toNat - (bndI none (0 : Int)).toNat, Cs.ints (List.take (((bndI (some (IntKind.i64, (↑(kZ x y u v ps.length (fl4 ps)) : Int))) (↑ps.length : Int)).toNat - (bndI none (0 : Int)).toNat) * Try.prog.types[(100 : Nat)].size) (List.drop ((0 : Nat) + (bndI none (0 : Int)).toNat * Try.prog.types[(100 : Nat)].size) (fl4 ps))), [(0 : Nat) + (bndI none (0 : Int)).toNat * Try.prog.types[(100 : Nat)].size + ((bndI (some (IntKind.i64, (↑(kZ x y u v ps.length (fl4 ps)) : Int))) (↑ps.length : Int)).toNat - (bndI none (0 : Int)).toNat) * Try.prog.types[(100 : Nat)].size ≤ (fl4 ps).length]).fst + (1 : Nat)) * (32 : Nat) ≤ (140737488355328 : Nat) ∧ (0 : Nat) + ((bndI (some (IntKind.i64, (↑(kZ x y u v ps.length (fl4 ps)) : Int))) (↑ps.length : Int)).toNat - (bndI none (0 : Int)).toNat, Cs.ints (List.take (((bndI (some (IntKind.i64, (↑(kZ x y u v ps.length (fl4 ps)) : Int))) (↑ps.length : Int)).toNat - (bndI none (0 : Int)).toNat) * Try.prog.types[(100 : Nat)].size) (List.drop ((0 : Nat) + (bndI none (0 : Int)).toNat * Try.prog.types[(100 : Nat)].size) (fl4 ps))), [(0 : Nat) + (bndI none (0 : Int)).toNat * Try.prog.types[(100 : Nat)].size + ((bndI (some (IntKind.i64, (↑(kZ x y u v ps.length (fl4 ps)) : Int))) (↑ps.length : Int)).toNat - (bndI none (0 : Int)).toNat) * Try.prog.types[(100 : Nat)].size ≤ (fl4 ps).length]).fst + (1 : Nat) ≤ (1000000 : Nat)) (.need ((0 : Nat) + ((0 : Nat) + ((bndI (some (IntKind.i64, (↑(kZ x y u v ps.length (fl4 ps)) : Int))) (↑ps.length : Int)).toNat - (bndI none (0 : Int)).toNat, Cs.ints (List.take (((bndI (some (IntKind.i64, (↑(kZ x y u v ps.length (fl4 ps)) : Int))) (↑ps.length : Int)).toNat - (bndI none (0 : Int)).toNat) * Try.prog.types[(100 : Nat)].size) (List.drop ((0 : Nat) + (bndI none (0 : Int)).toNat * Try.prog.types[(100 : Nat)].size) (fl4 ps))), [(0 : Nat) + (bndI none (0 : Int)).toNat * Try.prog.types[(100 : Nat)].size + ((bndI (some (IntKind.i64, (↑(kZ x y u v ps.length (fl4 ps)) : Int))) (↑ps.length : Int)).toNat - (bndI none (0 : Int)).toNat) * Try.prog.types[(100 : Nat)].size ≤ (fl4 ps).length]).fst) * (4 : Nat) ≤ ([] ++ List.take (((bndI (some (IntKind.i64, (↑(kZ x y u v ps.length (fl4 ps)) : Int))) (↑ps.length : Int)).toNat - (0 : Nat)) * (4 : Nat)) (List.drop (0 : Nat) (fl4 ps))).length) (.need ((0 : Int) ≤ bndI (some (IntKind.i64, (↑(kZ x y u v ps.length (fl4 ps)) : Int))) (0 : Int) ∧ bndI (some (IntKind.i64, (↑(kZ x y u v ps.length (fl4 ps)) : Int))) (0 : Int) ≤ bndI none (↑ps.length : Int) ∧ bndI none (↑ps.length : Int) ≤ (↑ps.length : Int)) (.need (((0 : Nat) + ((bndI (some (IntKind.i64, (↑(kZ x y u v ps.length (fl4 ps)) : Int))) (↑ps.length : Int)).toNat - (bndI none (0 : Int)).toNat, Cs.ints (List.take (((bndI (some (IntKind.i64, (↑(kZ x y u v ps.length (fl4 ps)) : Int))) (↑ps.length : Int)).toNat - (bndI none (0 : Int)).toNat) * Try.prog.types[(100 : Nat)].size) (List.drop ((0 : Nat) + (bndI none (0 : Int)).toNat * Try.prog.types[(100 : Nat)].size) (fl4 ps))), [(0 : Nat) + (bndI none (0 : Int)).toNat * Try.prog.types[(100 : Nat)].size + ((bndI (some (IntKind.i64, (↑(kZ x y u v ps.length (fl4 ps)) : Int))) (↑ps.length : Int)).toNat - (bndI none (0 : Int)).toNat) * Try.prog.types[(100 : Nat)].size ≤ (fl4 ps).length]).fst + (1 : Nat) + ((bndI none (↑ps.length : Int)).toNat - (bndI (some (IntKind.i64, (↑(kZ x y u v ps.length (fl4 ps)) : Int))) (0 : Int)).toNat, Cs.ints (List.take (((bndI none (↑ps.length : Int)).toNat - (bndI (some (IntKind.i64, (↑(kZ x y u v ps.length (fl4 ps)) : Int))) (0 : Int)).toNat) * Try.prog.types[(100 : Nat)].size) (List.drop ((0 : Nat) + (bndI (some (IntKind.i64, (↑(kZ x y u v ps.length (fl4 ps)) : Int))) (0 : Int)).toNat * Try.prog.types[(100 : Nat)].size) (fl4 ps))), [(0 : Nat) + (bndI (some (IntKind.i64, (↑(kZ x y u v ps.length (fl4 ps)) : Int))) (0 : Int)).toNat * Try.prog.types[(100 : Nat)].size + ((bndI none (↑ps.length : Int)).toNat - (bndI (some (IntKind.i64, (↑(kZ x y u v ps.length (fl4 ps)) : Int))) (0 : Int)).toNat) * Try.prog.types[(100 : Nat)].size ≤ (fl4 ps).length]).fst) * (32 : Nat) ≤ (140737488355328 : Nat) ∧ (0 : Nat) + ((bndI (some (IntKind.i64, (↑(kZ x y u v ps.length (fl4 ps)) : Int))) (↑ps.length : Int)).toNat - (bndI none (0 : Int)).toNat, Cs.ints (List.take (((bndI (some (IntKind.i64, (↑(kZ x y u v ps.length (fl4 ps)) : Int))) (↑ps.length : Int)).toNat - (bndI none (0 : Int)).toNat) * Try.prog.types[(100 : Nat)].size) (List.drop ((0 : Nat) + (bndI none (0 : Int)).toNat * Try.prog.types[(100 : Nat)].size) (fl4 ps))), [(0 : Nat) + (bndI none (0 : Int)).toNat * Try.prog.types[(100 : Nat)].size + ((bndI (some (IntKind.i64, (↑(kZ x y u v ps.length (fl4 ps)) : Int))) (↑ps.length : Int)).toNat - (bndI none (0 : Int)).toNat) * Try.prog.types[(100 : Nat)].size ≤ (fl4 ps).length]).fst + (1 : Nat) + ((bndI none (↑ps.length : Int)).toNat - (bndI (some (IntKind.i64, (↑(kZ x y u v ps.length (fl4 ps)) : Int))) (0 : Int)).toNat, Cs.ints (List.take (((bndI none (↑ps.length : Int)).toNat - (bndI (some (IntKind.i64, (↑(kZ x y u v ps.length (fl4 ps)) : Int))) (0 : Int)).toNat) * Try.prog.types[(100 : Nat)].size) (List.drop ((0 : Nat) + (bndI (some (IntKind.i64, (↑(kZ x y u v ps.length (fl4 ps)) : Int))) (0 : Int)).toNat * Try.prog.types[(100 : Nat)].size) (fl4 ps))), [(0 : Nat) + (bndI (some (IntKind.i64, (↑(kZ x y u v ps.length (fl4 ps)) : Int))) (0 : Int)).toNat * Try.prog.types[(100 : Nat)].size + ((bndI none (↑ps.length : Int)).toNat - (bndI (some (IntKind.i64, (↑(kZ x y u v ps.length (fl4 ps)) : Int))) (0 : Int)).toNat) * Try.prog.types[(100 : Nat)].size ≤ (fl4 ps).length]).fst ≤ (1000000 : Nat)) (.need ((0 : Nat) + (bndI (some (IntKind.i64, (↑(kZ x y u v ps.length (fl4 ps)) : Int))) (0 : Int)).toNat * (4 : Nat) + ((bndI none (↑ps.length : Int)).toNat - (bndI (some (IntKind.i64, (↑(kZ x y u v ps.length (fl4 ps)) : Int))) (0 : Int)).toNat) * (4 : Nat) ≤ (fl4 ps).length) (.need ((0 : Nat) + ((0 : Nat) + ((bndI (some (IntKind.i64, (↑(kZ x y u v ps.length (fl4 ps)) : Int))) (↑ps.length : Int)).toNat - (bndI none (0 : Int)).toNat, Cs.ints (List.take (((bndI (some (IntKind.i64, (↑(kZ x y u v ps.length (fl4 ps)) : Int))) (↑ps.length : Int)).toNat - (bndI none (0 : Int)).toNat) * Try.prog.types[(100 : Nat)].size) (List.drop ((0 : Nat) + (bndI none (0 : Int)).toNat * Try.prog.types[(100 : Nat)].size) (fl4 ps))), [(0 : Nat) + (bndI none (0 : Int)).toNat * Try.prog.types[(100 : Nat)].size + ((bndI (some (IntKind.i64, (↑(kZ x y u v ps.length (fl4 ps)) : Int))) (↑ps.length : Int)).toNat - (bndI none (0 : Int)).toNat) * Try.prog.types[(100 : Nat)].size ≤ (fl4 ps).length]).fst + (1 : Nat)) * (4 : Nat) ≤ (List.take (((0 : Nat) + ((bndI (some (IntKind.i64, (↑(kZ x y u v ps.length (fl4 ps)) : Int))) (↑ps.length : Int)).toNat - (bndI none (0 : Int)).toNat, Cs.ints (List.take (((bndI (some (IntKind.i64, (↑(kZ x y u v ps.length (fl4 ps)) : Int))) (↑ps.length : Int)).toNat - (bndI none (0 : Int)).toNat) * Try.prog.types[(100 : Nat)].size) (List.drop ((0 : Nat) + (bndI none (0 : Int)).toNat * Try.prog.types[(100 : Nat)].size) (fl4 ps))), [(0 : Nat) + (bndI none (0 : Int)).toNat * Try.prog.types[(100 : Nat)].size + ((bndI (some (IntKind.i64, (↑(kZ x y u v ps.length (fl4 ps)) : Int))) (↑ps.length : Int)).toNat - (bndI none (0 : Int)).toNat) * Try.prog.types[(100 : Nat)].size ≤ (fl4 ps).length]).fst) * (4 : Nat)) (List.drop (0 : Nat) ([] ++ List.take (((bndI (some (IntKind.i64, (↑(kZ x y u v ps.length (fl4 ps)) : Int))) (↑ps.length : Int)).toNat - (0 : Nat)) * (4 : Nat)) (List.drop (0 : Nat) (fl4 ps)))) ++ [x, y, u, v]).length) (.fin (.slice (some ⟨6, 0, none⟩) (0 + ((bndI (some (IntKind.i64, (↑(kZ x y u v ps.length (fl4 ps)) : Int))) (↑ps.length : Int)).toNat - (bndI none 0).toNat, Cs.ints (List.take (((bndI (some (IntKind.i64, (↑(kZ x y u v ps.length (fl4 ps)) : Int))) (↑ps.length : Int)).toNat - (bndI none 0).toNat) * Try.prog.types[100].size) (List.drop (0 + (bndI none 0).toNat * Try.prog.types[100].size) (fl4 ps))), [0 + (bndI none 0).toNat * Try.prog.types[100].size + ((bndI (some (IntKind.i64, (↑(kZ x y u v ps.length (fl4 ps)) : Int))) (↑ps.length : Int)).toNat - (bndI none 0).toNat) * Try.prog.types[100].size ≤ (fl4 ps).length]).fst + 1 + ((bndI none (↑ps.length : Int)).toNat - (bndI (some (IntKind.i64, (↑(kZ x y u v ps.length (fl4 ps)) : Int))) 0).toNat, Cs.ints (List.take (((bndI none (↑ps.length : Int)).toNat - (bndI (some (IntKind.i64, (↑(kZ x y u v ps.length (fl4 ps)) : Int))) 0).toNat) * Try.prog.types[100].size) (List.drop (0 + (bndI (some (IntKind.i64, (↑(kZ x y u v ps.length (fl4 ps)) : Int))) 0).toNat * Try.prog.types[100].size) (fl4 ps))), [0 + (bndI (some (IntKind.i64, (↑(kZ x y u v ps.length (fl4 ps)) : Int))) 0).toNat * Try.prog.types[100].size + ((bndI none (↑ps.length : Int)).toNat - (bndI (some (IntKind.i64, (↑(kZ x y u v ps.length (fl4 ps)) : Int))) 0).toNat) * Try.prog.types[100].size ≤ (fl4 ps).length]).fst) (0 + ((bndI (some (IntKind.i64, (↑(kZ x y u v ps.length (fl4 ps)) : Int))) (↑ps.length : Int)).toNat - (bndI none 0).toNat, Cs.ints (List.take (((bndI (some (IntKind.i64, (↑(kZ x y u v ps.length (fl4 ps)) : Int))) (↑ps.length : Int)).toNat - (bndI none 0).toNat) * Try.prog.types[100].size) (List.drop (0 + (bndI none 0).toNat * Try.prog.types[100].size) (fl4 ps))), [0 + (bndI none 0).toNat * Try.prog.types[100].size + ((bndI (some (IntKind.i64, (↑(kZ x y u v ps.length (fl4 ps)) : Int))) (↑ps.length : Int)).toNat - (bndI none 0).toNat) * Try.prog.types[100].size ≤ (fl4 ps).length]).fst + 1 + ((bndI none (↑ps.length : Int)).toNat - (bndI (some (IntKind.i64, (↑(kZ x y u v ps.length (fl4 ps)) : Int))) 0).toNat, Cs.ints (List.take (((bndI none (↑ps.length : Int)).toNat - (bndI (some (IntKind.i64, (↑(kZ x y u v ps.length (fl4 ps)) : Int))) 0).toNat) * Try.prog.types[100].size) (List.drop (0 + (bndI (some (IntKind.i64, (↑(kZ x y u v ps.length (fl4 ps)) : Int))) 0).toNat * Try.prog.types[100].size) (fl4 ps))), [0 + (bndI (some (IntKind.i64, (↑(kZ x y u v ps.length (fl4 ps)) : Int))) 0).toNat * Try.prog.types[100].size + ((bndI none (↑ps.length : Int)).toNat - (bndI (some (IntKind.i64, (↑(kZ x y u v ps.length (fl4 ps)) : Int))) 0).toNat) * Try.prog.types[100].size ≤ (fl4 ps).length]).fst)) [some ⟨.row 100 4, .ints (fl4 ps)⟩, some ⟨.box, .vals [.int .i64 (x), .int .i64 (y), .int .i64 (u), .int .i64 (v)]⟩, some deadB, some deadB, some ⟨.row 100 4, .vals [.int .i64 (x), .int .i64 (y), .int .i64 (u), .int .i64 (v)]⟩, some deadB, some ⟨.row 100 4, .ints (List.take ((0 + ((bndI (some (IntKind.i64, (↑(kZ x y u v ps.length (fl4 ps)) : Int))) (↑ps.length : Int)).toNat - (bndI none 0).toNat, Cs.ints (List.take (((bndI (some (IntKind.i64, (↑(kZ x y u v ps.length (fl4 ps)) : Int))) (↑ps.length : Int)).toNat - (bndI none 0).toNat) * Try.prog.types[100].size) (List.drop (0 + (bndI none 0).toNat * Try.prog.types[100].size) (fl4 ps))), [0 + (bndI none 0).toNat * Try.prog.types[100].size + ((bndI (some (IntKind.i64, (↑(kZ x y u v ps.length (fl4 ps)) : Int))) (↑ps.length : Int)).toNat - (bndI none 0).toNat) * Try.prog.types[100].size ≤ (fl4 ps).length]).fst + 1) * 4) (List.drop 0 (List.take ((0 + ((bndI (some (IntKind.i64, (↑(kZ x y u v ps.length (fl4 ps)) : Int))) (↑ps.length : Int)).toNat - (bndI none 0).toNat, Cs.ints (List.take (((bndI (some (IntKind.i64, (↑(kZ x y u v ps.length (fl4 ps)) : Int))) (↑ps.length : Int)).toNat - (bndI none 0).toNat) * Try.prog.types[100].size) (List.drop (0 + (bndI none 0).toNat * Try.prog.types[100].size) (fl4 ps))), [0 + (bndI none 0).toNat * Try.prog.types[100].size + ((bndI (some (IntKind.i64, (↑(kZ x y u v ps.length (fl4 ps)) : Int))) (↑ps.length : Int)).toNat - (bndI none 0).toNat) * Try.prog.types[100].size ≤ (fl4 ps).length]).fst) * 4) (List.drop 0 ([] ++ List.take (((bndI (some (IntKind.i64, (↑(kZ x y u v ps.length (fl4 ps)) : Int))) (↑ps.length : Int)).toNat - 0) * 4) (List.drop 0 (fl4 ps)))) ++ [x, y, u, v])) ++ List.take (((bndI none (↑ps.length : Int)).toNat - (bndI (some (IntKind.i64, (↑(kZ x y u v ps.length (fl4 ps)) : Int))) 0).toNat) * 4) (List.drop (0 + (bndI (some (IntKind.i64, (↑(kZ x y u v ps.length (fl4 ps)) : Int))) 0).toNat * 4) (fl4 ps)))⟩]))))))))))))))) := by kernel_rfl
theorem ins_fl4 {ps : List Q4} {k : Nat} (h : k ≤ ps.length) (x y u v : Int) : List.take ((k + 1) * 4) (List.take (k * 4) (List.take (k * 4) (fl4 ps)) ++ [x, y, u, v]) ++ List.take ((ps.length - k) * 4) (List.drop (k * 4) (fl4 ps)) = fl4 (ps.take k ++ ((x, y, u, v) :: ps.drop k)) := by
  have l1 : (ps.take k).length = k := by simp; omega
  have l2 : (ps.drop k).length = ps.length - k := by simp
  have l3 : (ps.take k ++ [(x, y, u, v)]).length = k + 1 := by rw [List.length_append, l1]; rfl
  have e1 : List.take (k + 1) (ps.take k ++ [(x, y, u, v)]) = ps.take k ++ [(x, y, u, v)] := List.take_of_length_le (by omega)
  have e2 : List.take (ps.length - k) (ps.drop k) = ps.drop k := List.take_of_length_le (by omega)
  rw [fl4_take, fl4_take, List.take_take, Nat.min_self, fl4_snoc, fl4_take, fl4_drop, fl4_take, e1, e2, ← fl4_append, List.append_assoc]
  rfl
set_option maxRecDepth 100000 in
theorem ty_rp2 : Try.prog.types[(100 : Nat)].size = 4 := by kernel_rfl
set_option maxHeartbeats 2000000 in
theorem adq_row (ps : List Q4) (x y u v : Int) (h : ps.length ≤ 1000) (ho : ∀ q ∈ ps, okQ q = true) (hp : okB x y u v = true) : (bodyM Try.prog EAq (runM Try.prog EAq 30 12) 30 80 [.slice (some ⟨0, 0, none⟩) ps.length ps.length, .agg #[.int .i64 x, .int .i64 y, .int .i64 u, .int .i64 v]] [some ⟨.row 100 4, .ints (fl4 ps)⟩] .fin).ok (fun _ _ => False) (fun uu mem' => RowIs (.slice (some ⟨0, 0, none⟩) (inQ (x, y, u, v) ps).length (inQ (x, y, u, v) ps).length) ⟨.row 100 4, .ints (fl4 (inQ (x, y, u, v) ps))⟩ uu mem') := by
  rw [tr_adqF]
  have hk := kQ_le (x, y, u, v) ps
  have hi := inQ_is (x, y, u, v) ps
  simp only [List.drop_zero, kZ_is, ty_rp2, q4A_fl4, fl4_length, Nat.zero_add, Int.toNat_natCast, bndI, Nat.sub_zero, Int.toNat_zero, Nat.zero_mul, List.nil_append]
  generalize kQ (x, y, u, v) ps = k at *
  have hfl := ins_fl4 hk x y u v
  refine ⟨trivial, trivial, by omega, by unfold allV4; rw [q4A_fl4]; exact ho, hp, ?_⟩
  simp only [brT_ok, Tree.ok, decide_eq_true_eq, decide_eq_false_iff_not, fl4_get0, fl4_get1, fl4_g2, fl4_g3, hfl]
  have lt2 : (List.take (k * 4) (fl4 ps)).length = k * 4 := by rw [List.length_take, fl4_length]; omega
  have lt3 : (List.take (k * 4) (List.take (k * 4) (fl4 ps)) ++ [x, y, u, v]).length = (k + 1) * 4 := by rw [List.length_append, List.length_take, lt2]; simp; omega
  have fin : inQ (x, y, u, v) ps = ps.take k ++ ((x, y, u, v) :: ps.drop k) → RowIs (.slice (some ⟨0, 0, none⟩) (inQ (x, y, u, v) ps).length (inQ (x, y, u, v) ps).length) ⟨.row 100 4, .ints (fl4 (inQ (x, y, u, v) ps))⟩ (.slice (some ⟨6, 0, none⟩) (k + 1 + (ps.length - k)) (k + 1 + (ps.length - k)))
      [some ⟨.row 100 4, .ints (fl4 ps)⟩, some ⟨.box, .vals [.int .i64 x, .int .i64 y, .int .i64 u, .int .i64 v]⟩, some deadB, some deadB, some ⟨.row 100 4, .vals [.int .i64 x, .int .i64 y, .int .i64 u, .int .i64 v]⟩, some deadB, some ⟨.row 100 4, .ints (fl4 (ps.take k ++ ((x, y, u, v) :: ps.drop k)))⟩] := fun e => by
    have l : (inQ (x, y, u, v) ps).length = k + 1 + (ps.length - k) := by rw [e]; simp; omega
    rw [l, e]
    exact ⟨some 6, ⟨rfl, rfl, rfl⟩, rfl, rfl, rfl⟩
  refine ⟨fun hlt => ⟨by omega, by omega, fun g => ?_, fun g => ?_⟩, fun hge => ?_⟩
  · have e : inQ (x, y, u, v) ps = ps := by
      have g : (ps.getD k z4 == (x, y, u, v)) = true := (eq_q4 (ps.getD k z4) (x, y, u, v)).symm.trans g
      rw [hi, if_pos ⟨by omega, beq_iff_eq.1 g⟩]
    rw [e]
    exact ⟨some 0, ⟨rfl, rfl, rfl⟩, rfl, rfl, rfl⟩
  · have e : inQ (x, y, u, v) ps = ps.take k ++ ((x, y, u, v) :: ps.drop k) := by
      rw [hi, if_neg]
      rintro ⟨_, e⟩
      have g : (ps.getD k z4 == (x, y, u, v)) = false := (eq_q4 (ps.getD k z4) (x, y, u, v)).symm.trans g
      exact beq_eq_false_iff_ne.1 g e
    exact ⟨by omega, by omega, by omega, by omega, by omega, by omega, by omega, by omega, by omega, fin e⟩
  · have e : inQ (x, y, u, v) ps = ps.take k ++ ((x, y, u, v) :: ps.drop k) := by
      rw [hi, if_neg]
      rintro ⟨h1, _⟩
      omega
    exact ⟨by omega, by omega, by omega, by omega, by omega, by omega, by omega, by omega, by omega, fin e⟩
/-- The model's addPoint: it takes over a list. -/
def adqS : OSpec := fun e sz l xs rest => match e, sz, rest with
  | 100, 4, [.agg ⟨[.int .i64 x, .int .i64 y, .int .i64 u, .int .i64 v]⟩] => some (.slice (some ⟨0, 0, none⟩) (inQ (x, y, u, v) (q4A l xs)).length (inQ (x, y, u, v) (q4A l xs)).length, ⟨.row 100 4, .ints (fl4 (inQ (x, y, u, v) (q4A l xs)))⟩, [xs.length = l * 4, l ≤ 1000, allV4 l xs, okB x y u v = true])
  | _, _, _ => none
set_option maxRecDepth 100000 in
theorem adqS_ok : OSpecOk Try.prog 80 adqS := by
  intro e sz l xs rest v b C h hC
  unfold adqS at h
  split at h
  rotate_left
  · cases h
  obtain ⟨rfl, rfl, rfl⟩ : _ ∧ _ ∧ _ := by simpa using h
  obtain ⟨h1, h2, h3, h4, _⟩ := hC
  obtain ⟨ps, rfl, rfl⟩ := four_fl4 h1
  unfold allV4 at h3
  rw [q4A_fl4] at h3 ⊢
  exact ⟨rfl, EAq, 30, 12, EAq_ok, adq_row ps _ _ _ _ h2 h3 h4⟩
end Go.Proofs.Ytolodncpegajkab
namespace Go.Proofs.Ytolodncpegajkab
set_option linter.all false
open Go.RowKit
/-- Is a fraction in a list? -/
def hasC (o : List Pt) (x y : Int) : Bool := !(allQ (ngQ o x y) 0 o.length)
noncomputable def c_cri : Code := ((loopsOf (codeOf Try.f79))[1]?).getD .skip
def k_cri : Ex → List Nat := keeps [0, 1, 5, 6, 7, 8, 9] [(2, [0, 1, 5, 6, 7, 8]), (1, [0, 1, 5, 6]), (0, [5])] [4]
def s_cri (gs o : List Pt) (i k x y : Int) : Nat × Bool → St := fun (n, b) => ⟨(.slice (some ⟨0, 0, none⟩) gs.length gs.length :: .int .i64 i :: topV :: topV :: topV :: .slice (some ⟨3, 0, none⟩) o.length o.length :: .int .i64 k :: .pointer (some ⟨5, 0, none⟩) :: .bool b :: .int .i64 n :: topV :: topV :: topV :: topV :: topV :: topV :: topV :: topV :: topV :: topV :: topV :: topV :: topV :: topV :: topV :: topV :: topV :: topV :: topV :: topV :: topV :: topV :: topV :: topV :: topV :: topV :: topV :: topV :: topV :: topV :: topV :: topV :: topV :: topV :: topV :: topV :: topV :: topV :: topV :: topV :: topV :: topV :: topV :: topV :: topV :: topV :: topV :: topV :: topV :: topV :: topV :: topV :: topV :: topV :: topV :: topV :: topV :: topV :: topV :: topV :: topV :: topV :: topV :: []), [some ⟨.view, .ints (flat gs)⟩, none, some ⟨.dead, .vals []⟩, some ⟨.row 97 2, .ints (flat o)⟩, none, some ⟨.box, .vals [.int .i64 x, .int .i64 y]⟩]⟩
def re_cri : Nat × Bool → Ex := fun _ => .exit 2
def rs_cri (gs o : List Pt) (i k x y : Int) : Nat × Bool → St := fun (n, b) => ⟨(.slice (some ⟨0, 0, none⟩) gs.length gs.length :: .int .i64 i :: topV :: topV :: topV :: .slice (some ⟨3, 0, none⟩) o.length o.length :: .int .i64 k :: .pointer (some ⟨5, 0, none⟩) :: .bool (hasC o x y) :: topV :: topV :: topV :: topV :: topV :: topV :: topV :: topV :: topV :: topV :: topV :: topV :: topV :: topV :: topV :: topV :: topV :: topV :: topV :: topV :: topV :: topV :: topV :: topV :: topV :: topV :: topV :: topV :: topV :: topV :: topV :: topV :: topV :: topV :: topV :: topV :: topV :: topV :: topV :: topV :: topV :: topV :: topV :: topV :: topV :: topV :: topV :: topV :: topV :: topV :: topV :: topV :: topV :: topV :: topV :: topV :: topV :: topV :: topV :: topV :: topV :: topV :: topV :: topV :: []), [some ⟨.view, .ints (flat gs)⟩, none, some ⟨.dead, .vals []⟩, some ⟨.row 97 2, .ints (flat o)⟩, none, some ⟨.box, .vals [.int .i64 x, .int .i64 y]⟩]⟩
set_option maxRecDepth 100000 in
theorem tr_cri (gs o : List Pt) (i k x y : Int) (n : Nat) (b : Bool) : bodyL Try.prog EAl 30 12 noL 2 c_cri k_cri 6 (s_cri gs o i k x y (n, b)) = brT (decide ((↑n : Int) < (↑o.length : Int))) (brT (b) (.leaf .normal ⟨(.slice (some ⟨0, 0, none⟩) (gs.length) (gs.length) :: .int .i64 (i) :: topV :: topV :: topV :: .slice (some ⟨3, 0, none⟩) (o.length) (o.length) :: .int .i64 (k) :: .pointer (some ⟨5, 0, none⟩) :: .bool (true) :: .int .i64 (IntKind.i64.wrap ((↑n : Int) + 1)) :: topV :: topV :: topV :: topV :: topV :: topV :: topV :: topV :: topV :: topV :: topV :: topV :: topV :: topV :: topV :: topV :: topV :: topV :: topV :: topV :: topV :: topV :: topV :: topV :: topV :: topV :: topV :: topV :: topV :: topV :: topV :: topV :: topV :: topV :: topV :: topV :: topV :: topV :: topV :: topV :: topV :: topV :: topV :: topV :: topV :: topV :: topV :: topV :: topV :: topV :: topV :: topV :: topV :: topV :: topV :: topV :: topV :: topV :: topV :: topV :: topV :: topV :: topV :: []), [some ⟨.view, .ints (flat gs)⟩, none, some deadB, some ⟨.row 97 2, .ints (flat o)⟩, none, some ⟨.box, .vals [.int .i64 (x), .int .i64 (y)]⟩]⟩) (.need ((0 : Int) ≤ (↑n : Int) ∧ (↑n : Int) < (↑o.length : Int)) (.need ((0 : Nat) + (↑n : Int).toNat * (2 : Nat) + (2 : Nat) ≤ (flat o).length) (.leaf .normal ⟨(.slice (some ⟨0, 0, none⟩) (gs.length) (gs.length) :: .int .i64 (i) :: topV :: topV :: topV :: .slice (some ⟨3, 0, none⟩) (o.length) (o.length) :: .int .i64 (k) :: .pointer (some ⟨5, 0, none⟩) :: .bool (negB false ((flat o).getD (0 + (↑n : Int).toNat * 2) 0 == x && ((flat o).getD (0 + (↑n : Int).toNat * 2 + 1) 0 == y && true))) :: .int .i64 (IntKind.i64.wrap ((↑n : Int) + 1)) :: topV :: topV :: topV :: topV :: topV :: topV :: topV :: topV :: topV :: topV :: topV :: topV :: topV :: topV :: topV :: topV :: topV :: topV :: topV :: topV :: topV :: topV :: topV :: topV :: topV :: topV :: topV :: topV :: topV :: topV :: topV :: topV :: topV :: topV :: topV :: topV :: topV :: topV :: topV :: topV :: topV :: topV :: topV :: topV :: topV :: topV :: topV :: topV :: topV :: topV :: topV :: topV :: topV :: topV :: topV :: topV :: topV :: topV :: topV :: topV :: topV :: topV :: topV :: []), [some ⟨.view, .ints (flat gs)⟩, none, some deadB, some ⟨.row 97 2, .ints (flat o)⟩, none, some ⟨.box, .vals [.int .i64 (x), .int .i64 (y)]⟩]⟩)))) (.leaf (.exit 2) ⟨(.slice (some ⟨0, 0, none⟩) (gs.length) (gs.length) :: .int .i64 (i) :: topV :: topV :: topV :: .slice (some ⟨3, 0, none⟩) (o.length) (o.length) :: .int .i64 (k) :: .pointer (some ⟨5, 0, none⟩) :: .bool (b) :: topV :: topV :: topV :: topV :: topV :: topV :: topV :: topV :: topV :: topV :: topV :: topV :: topV :: topV :: topV :: topV :: topV :: topV :: topV :: topV :: topV :: topV :: topV :: topV :: topV :: topV :: topV :: topV :: topV :: topV :: topV :: topV :: topV :: topV :: topV :: topV :: topV :: topV :: topV :: topV :: topV :: topV :: topV :: topV :: topV :: topV :: topV :: topV :: topV :: topV :: topV :: topV :: topV :: topV :: topV :: topV :: topV :: topV :: topV :: topV :: topV :: topV :: topV :: topV :: []), [some ⟨.view, .ints (flat gs)⟩, none, some deadB, some ⟨.row 97 2, .ints (flat o)⟩, none, some ⟨.box, .vals [.int .i64 (x), .int .i64 (y)]⟩]⟩) := by kernel_rfl
set_option maxRecDepth 100000 in
theorem nl_cri : loopsOf c_cri = [] := by kernel_rfl
def inv_cri (gs o : List Pt) (i k x y : Int) : Nat × Bool → Prop := fun (n, b) => n ≤ o.length ∧ (b || !(allQ (ngQ o x y) n (o.length - n))) = hasC o x y
def me_cri (gs o : List Pt) (i k x y : Int) : Nat × Bool → Nat := fun (n, b) => o.length - n
/-- A round of this loop. -/
def Round_cri (gs o : List Pt) (i k x y : Int) : Prop := ∀ xx : Nat × Bool, inv_cri gs o i k x y xx → (bodyL Try.prog EAl 30 12 noL 2 c_cri k_cri 6 (s_cri gs o i k x y xx)).ok (RoundEnd 6 (s_cri gs o i k x y) (inv_cri gs o i k x y) (me_cri gs o i k x y) re_cri (rs_cri gs o i k x y) xx) (fun _ _ => False)
def e_cri (s : St) (k : Ex → St → Tree) : Option Tree := match Nat.beq s.tmps.length 73, pickL s.tmps [0, 1, 5, 6, 7, 8, 9], s.mem with
  | true, [.slice (some ⟨0, 0, none⟩) m _, .int .i64 i, .slice (some ⟨3, 0, none⟩) z _, .int .i64 kk, .pointer (some ⟨5, 0, none⟩), .bool b0, .int .i64 ii], [some ⟨.view, .ints xs⟩, none, some ⟨.dead, .vals []⟩, some ⟨.row 97 2, .ints ys⟩, none, some ⟨.box, .vals [.int .i64 x, .int .i64 y]⟩] => some (needs [ii = 0, b0 = false, xs.length = m * 2, ys.length = z * 2, z ≤ 1000] (k (.exit 2) ⟨(.slice (some ⟨0, 0, none⟩) m m :: .int .i64 i :: topV :: topV :: topV :: .slice (some ⟨3, 0, none⟩) z z :: .int .i64 kk :: .pointer (some ⟨5, 0, none⟩) :: .bool (hasC (ptsA z ys) x y) :: topV :: topV :: topV :: topV :: topV :: topV :: topV :: topV :: topV :: topV :: topV :: topV :: topV :: topV :: topV :: topV :: topV :: topV :: topV :: topV :: topV :: topV :: topV :: topV :: topV :: topV :: topV :: topV :: topV :: topV :: topV :: topV :: topV :: topV :: topV :: topV :: topV :: topV :: topV :: topV :: topV :: topV :: topV :: topV :: topV :: topV :: topV :: topV :: topV :: topV :: topV :: topV :: topV :: topV :: topV :: topV :: topV :: topV :: topV :: topV :: topV :: topV :: topV :: topV :: []), [some ⟨.view, .ints xs⟩, none, some ⟨.dead, .vals []⟩, some ⟨.row 97 2, .ints ys⟩, none, some ⟨.box, .vals [.int .i64 x, .int .i64 y]⟩]⟩))
  | _, _, _ => none
set_option maxRecDepth 100000 in
set_option maxHeartbeats 2000000 in
theorem round_cri (gs o : List Pt) (i k x y : Int) (h : o.length ≤ 1000) : Round_cri gs o i k x y := by
  rintro ⟨n, b⟩ ⟨h1, h2⟩
  rw [tr_cri]
  have fl := flat_length o
  refine brT_ok.2 ⟨fun hlt => ?_, fun hge => ?_⟩
  · have hi : n < o.length := by have := of_decide_eq_true hlt; omega
    have st := allQ_step (P := ngQ o x y) (i := n) (n := o.length) hi
    rw [wsucc (n := o.length) hi (by omega)]
    simp only [Int.toNat_natCast, Nat.zero_add, flat_get0, flat_get1]
    refine brT_ok.2 ⟨fun q => ?_, fun q => ?_⟩
    · subst q
      rw [Bool.true_or] at h2
      refine ⟨(n + 1, true), [], ⟨by omega, by rw [Bool.true_or]; exact h2⟩, ?_, rfl, by simp only [rs_cri], ?_⟩
      · show o.length - (n + 1) < o.length - n; omega
      · repeat' (first | exact True.intro | exact rfl | exact fun _ => rfl | (simp; done) | refine And.intro ?_ ?_)
    · subst q
      have e : negB false ((o.getD n (0, 0)).1 == x && ((o.getD n (0, 0)).2 == y && true)) = !(ngQ o x y n) := by
        unfold ngQ
        rw [Bool.and_true, Bool.not_not]
        rfl
      rw [e]
      refine ⟨by omega, by omega, (n + 1, !(ngQ o x y n)), [], ⟨by omega, ?_⟩, ?_, rfl, by simp only [rs_cri], ?_⟩
      · rw [← h2, st, Bool.false_or, Bool.not_and]
      · show o.length - (n + 1) < o.length - n; omega
      · repeat' (first | exact True.intro | exact rfl | exact fun _ => rfl | (simp; done) | refine And.intro ?_ ?_)
  · have hge := of_decide_eq_false hge
    obtain rfl : n = o.length := by omega
    have e : b = hasC o x y := by
      rw [← h2, show allQ (ngQ o x y) o.length (o.length - o.length) = true from allQ_end (by omega)]
      simp
    refine ⟨rfl, [], ?_⟩
    simp only [rs_cri, e]
    repeat' (first | exact True.intro | exact rfl | exact fun _ => rfl | (simp; done) | refine And.intro ?_ ?_)
set_option maxRecDepth 100000 in
theorem lg_cri : LoopE Try.prog e_cri c_cri := by
  intro s k t F H hlt ht
  unfold e_cri at hlt
  split at hlt
  rotate_left
  · cases hlt
  rename_i hlen hpick hmem
  obtain ⟨tmps, mem⟩ := s
  simp only at hlen hpick hmem
  subst hmem
  obtain rfl := Option.some.inj hlt
  obtain ⟨⟨rfl, rfl, h1, h2, h3, _⟩, ht2⟩ := needs_ok ht
  clear ht hlt
  obtain ⟨gs, rfl, rfl⟩ := even_flat h1
  obtain ⟨o, rfl, rfl⟩ := even_flat h2
  rw [ptsA_flat] at ht2
  refine ⟨_, _, ht2, loop_run mixed EAl_ok (s_cri gs o _ _ _ _) (inv_cri gs o _ _ _ _) (me_cri gs o _ _ _ _) re_cri (rs_cri gs o _ _ _ _) k_cri (fun _ => rfl) (noLoops nl_cri) (round_cri gs o _ _ _ _ h3) (x := (0, false)) ⟨Nat.zero_le _, by simp [hasC]⟩ (π := []) rfl ?_⟩
  refine ⟨rfl, rfl, ?_, wvs_spread' [0, 1, 5, 6, 7, 8, 9] hlen rfl ?_⟩
  · repeat' (first | exact True.intro | exact rfl | exact wv_top _ _ | exact fun _ => rfl | assumption | exact Eq.symm (by assumption) | exact vI0 rfl | refine And.intro ?_ ?_)
  · rw [hpick]
    repeat' (first | exact True.intro | exact rfl | exact wv_top _ _ | exact fun _ => rfl | assumption | exact Eq.symm (by assumption) | exact vI0 rfl | refine And.intro ?_ ?_)
def ltCr : LT := fun j s k => match j with
  | 1 => e_cri s k
  | _ => none
/-- The place where a graph meets another one. -/
def cxQ (g h : Pt) : Pt := (qN (h.2 - g.2) (h.1 - g.1), qD (h.2 - g.2) (h.1 - g.1))
def crO (g : Pt) (o : List Pt) (h : Pt) : List Pt := bif h.1 == g.1 then o else bif hasC o (cxQ g h).1 (cxQ g h).2 then o else o ++ [cxQ g h]
def crL (gs : List Pt) (g : Pt) : Nat → List Pt
  | 0 => []
  | k + 1 => crO g (crL gs g k) (gs.getD k (0, 0))
theorem crL_len (gs : List Pt) (g : Pt) : ∀ k, (crL gs g k).length ≤ k
  | 0 => Nat.le_refl _
  | k + 1 => by
    have := crL_len gs g k
    simp only [crL, crO]
    cases (gs.getD k (0, 0)).1 == g.1
    · cases hasC (crL gs g k) (cxQ g (gs.getD k (0, 0))).1 (cxQ g (gs.getD k (0, 0))).2
      · simp; omega
      · simp only [cond_false, cond_true]; omega
    · simp only [cond_true]; omega
noncomputable def c_cro : Code := ((loopsOf (codeOf Try.f79))[0]?).getD .skip
def k_cro : Ex → List Nat := keeps [0, 1, 5, 6] [(0, [5])] [4]
def s_cro (gs : List Pt) (i : Nat) : Nat → St := fun k => ⟨(.slice (some ⟨0, 0, none⟩) gs.length gs.length :: .int .i64 i :: topV :: topV :: topV :: .slice (some ⟨3, 0, none⟩) (crL gs (gs.getD i (0, 0)) k).length (crL gs (gs.getD i (0, 0)) k).length :: .int .i64 k :: topV :: topV :: topV :: topV :: topV :: topV :: topV :: topV :: topV :: topV :: topV :: topV :: topV :: topV :: topV :: topV :: topV :: topV :: topV :: topV :: topV :: topV :: topV :: topV :: topV :: topV :: topV :: topV :: topV :: topV :: topV :: topV :: topV :: topV :: topV :: topV :: topV :: topV :: topV :: topV :: topV :: topV :: topV :: topV :: topV :: topV :: topV :: topV :: topV :: topV :: topV :: topV :: topV :: topV :: topV :: topV :: topV :: topV :: topV :: topV :: topV :: topV :: topV :: topV :: topV :: topV :: []), [some ⟨.view, .ints (flat gs)⟩, none, some ⟨.dead, .vals []⟩, some ⟨.row 97 2, .ints (flat (crL gs (gs.getD i (0, 0)) k))⟩]⟩
def re_cro : Nat → Ex := fun _ => .exit 0
def rs_cro (gs : List Pt) (i : Nat) : Nat → St := fun k => ⟨(topV :: topV :: topV :: topV :: topV :: .slice (some ⟨3, 0, none⟩) (crL gs (gs.getD i (0, 0)) gs.length).length (crL gs (gs.getD i (0, 0)) gs.length).length :: topV :: topV :: topV :: topV :: topV :: topV :: topV :: topV :: topV :: topV :: topV :: topV :: topV :: topV :: topV :: topV :: topV :: topV :: topV :: topV :: topV :: topV :: topV :: topV :: topV :: topV :: topV :: topV :: topV :: topV :: topV :: topV :: topV :: topV :: topV :: topV :: topV :: topV :: topV :: topV :: topV :: topV :: topV :: topV :: topV :: topV :: topV :: topV :: topV :: topV :: topV :: topV :: topV :: topV :: topV :: topV :: topV :: topV :: topV :: topV :: topV :: topV :: topV :: topV :: topV :: topV :: topV :: []), [some ⟨.view, .ints (flat gs)⟩, none, some ⟨.dead, .vals []⟩, some ⟨.row 97 2, .ints (flat (crL gs (gs.getD i (0, 0)) gs.length))⟩]⟩
set_option maxRecDepth 100000 in
theorem tr_cro (gs : List Pt) (i : Nat) (k : Nat) : bodyL Try.prog EAl 30 12 ltCr 1 c_cro k_cro 16 (s_cro gs i k) = brT (decide ((↑k : Int) < (↑gs.length : Int))) (.need ((0 : Int) ≤ (↑k : Int) ∧ (↑k : Int) < (↑gs.length : Int)) (.need ((0 : Nat) + (↑k : Int).toNat * (2 : Nat) + (0 : Nat) < (flat gs).length) (.need ((0 : Int) ≤ (↑i : Int) ∧ (↑i : Int) < (↑gs.length : Int)) (.need ((0 : Nat) + (↑i : Int).toNat * (2 : Nat) + (0 : Nat) < (flat gs).length) (brT ((flat gs).getD (0 + (↑k : Int).toNat * 2 + 0) 0 == (flat gs).getD (0 + (↑i : Int).toNat * 2 + 0) 0) (.leaf .normal ⟨(.slice (some ⟨0, 0, none⟩) (gs.length) (gs.length) :: .int .i64 ((↑i : Int)) :: topV :: topV :: topV :: .slice (some ⟨3, 0, none⟩) ((crL gs (gs.getD i (0, 0)) k).length) ((crL gs (gs.getD i (0, 0)) k).length) :: .int .i64 (IntKind.i64.wrap ((↑k : Int) + 1)) :: topV :: topV :: topV :: topV :: topV :: topV :: topV :: topV :: topV :: topV :: topV :: topV :: topV :: topV :: topV :: topV :: topV :: topV :: topV :: topV :: topV :: topV :: topV :: topV :: topV :: topV :: topV :: topV :: topV :: topV :: topV :: topV :: topV :: topV :: topV :: topV :: topV :: topV :: topV :: topV :: topV :: topV :: topV :: topV :: topV :: topV :: topV :: topV :: topV :: topV :: topV :: topV :: topV :: topV :: topV :: topV :: topV :: topV :: topV :: topV :: topV :: topV :: topV :: topV :: topV :: topV :: []), [some ⟨.view, .ints (flat gs)⟩, none, some deadB, some ⟨.row 97 2, .ints (flat (crL gs (gs.getD i (0, 0)) k))⟩]⟩) (.need (big (IntKind.i64.wrap ((flat gs).getD ((0 : Nat) + (↑k : Int).toNat * (2 : Nat) + (1 : Nat)) (0 : Int) - (flat gs).getD ((0 : Nat) + (↑i : Int).toNat * (2 : Nat) + (1 : Nat)) (0 : Int)))) (.need (big (IntKind.i64.wrap ((flat gs).getD ((0 : Nat) + (↑k : Int).toNat * (2 : Nat) + (0 : Nat)) (0 : Int) - (flat gs).getD ((0 : Nat) + (↑i : Int).toNat * (2 : Nat) + (0 : Nat)) (0 : Int)))) (.need (¬IntKind.i64.wrap ((flat gs).getD ((0 : Nat) + (↑k : Int).toNat * (2 : Nat) + (0 : Nat)) (0 : Int) - (flat gs).getD ((0 : Nat) + (↑i : Int).toNat * (2 : Nat) + (0 : Nat)) (0 : Int)) = (0 : Int)) (.need ((0 : Int) ≤ (↑k : Int) ∧ (↑k : Int) < (↑gs.length : Int)) (.need ((0 : Nat) + (↑k : Int).toNat * (2 : Nat) + (1 : Nat) < (flat gs).length) (.need ((0 : Int) ≤ (↑i : Int) ∧ (↑i : Int) < (↑gs.length : Int)) (.need ((0 : Nat) + (↑i : Int).toNat * (2 : Nat) + (1 : Nat) < (flat gs).length) (.need ((0 : Int) ≤ (↑k : Int) ∧ (↑k : Int) < (↑gs.length : Int)) (.need ((0 : Nat) + (↑k : Int).toNat * (2 : Nat) + (0 : Nat) < (flat gs).length) (.need ((0 : Int) ≤ (↑i : Int) ∧ (↑i : Int) < (↑gs.length : Int)) (.need ((0 : Nat) + (↑i : Int).toNat * (2 : Nat) + (0 : Nat) < (flat gs).length) (.need ((0 : Int) = (0 : Int)) (.need (false = false) (.need ((flat gs).length = gs.length * (2 : Nat)) (.need ((flat (crL gs (gs.getD i ((0 : Int), (0 : Int))) k)).length = (crL gs (gs.getD i ((0 : Int), (0 : Int))) k).length * (2 : Nat)) (.need ((crL gs (gs.getD i ((0 : Int), (0 : Int))) k).length ≤ (1000 : Nat)) (brT (!hasC (ptsA (crL gs (gs.getD i (0, 0)) k).length (flat (crL gs (gs.getD i (0, 0)) k))) (qN (IntKind.i64.wrap ((flat gs).getD (0 + (↑k : Int).toNat * 2 + 1) 0 - (flat gs).getD (0 + (↑i : Int).toNat * 2 + 1) 0)) (IntKind.i64.wrap ((flat gs).getD (0 + (↑k : Int).toNat * 2 + 0) 0 - (flat gs).getD (0 + (↑i : Int).toNat * 2 + 0) 0))) (qD (IntKind.i64.wrap ((flat gs).getD (0 + (↑k : Int).toNat * 2 + 1) 0 - (flat gs).getD (0 + (↑i : Int).toNat * 2 + 1) 0)) (IntKind.i64.wrap ((flat gs).getD (0 + (↑k : Int).toNat * 2 + 0) 0 - (flat gs).getD (0 + (↑i : Int).toNat * 2 + 0) 0)))) (.need (((crL gs (gs.getD i ((0 : Int), (0 : Int))) k).length + (1 : Nat)) * (16 : Nat) ≤ (140737488355328 : Nat) ∧ (crL gs (gs.getD i ((0 : Int), (0 : Int))) k).length + (1 : Nat) ≤ (1000000 : Nat)) (.need ((0 : Nat) + (crL gs (gs.getD i ((0 : Int), (0 : Int))) k).length * (2 : Nat) ≤ (flat (crL gs (gs.getD i ((0 : Int), (0 : Int))) k)).length) (.leaf .normal ⟨(.slice (some ⟨0, 0, none⟩) (gs.length) (gs.length) :: .int .i64 ((↑i : Int)) :: topV :: topV :: topV :: .slice (some ⟨7, 0, none⟩) ((crL gs (gs.getD i (0, 0)) k).length + 1) ((crL gs (gs.getD i (0, 0)) k).length + 1) :: .int .i64 (IntKind.i64.wrap ((↑k : Int) + 1)) :: topV :: topV :: topV :: topV :: topV :: topV :: topV :: topV :: topV :: topV :: topV :: topV :: topV :: topV :: topV :: topV :: topV :: topV :: topV :: topV :: topV :: topV :: topV :: topV :: topV :: topV :: topV :: topV :: topV :: topV :: topV :: topV :: topV :: topV :: topV :: topV :: topV :: topV :: topV :: topV :: topV :: topV :: topV :: topV :: topV :: topV :: topV :: topV :: topV :: topV :: topV :: topV :: topV :: topV :: topV :: topV :: topV :: topV :: topV :: topV :: topV :: topV :: topV :: topV :: topV :: topV :: []), [some ⟨.view, .ints (flat gs)⟩, none, some deadB, some deadB, none, some ⟨.box, .vals [.int .i64 (qN (IntKind.i64.wrap ((flat gs).getD (0 + (↑k : Int).toNat * 2 + 1) 0 - (flat gs).getD (0 + (↑i : Int).toNat * 2 + 1) 0)) (IntKind.i64.wrap ((flat gs).getD (0 + (↑k : Int).toNat * 2 + 0) 0 - (flat gs).getD (0 + (↑i : Int).toNat * 2 + 0) 0))), .int .i64 (qD (IntKind.i64.wrap ((flat gs).getD (0 + (↑k : Int).toNat * 2 + 1) 0 - (flat gs).getD (0 + (↑i : Int).toNat * 2 + 1) 0)) (IntKind.i64.wrap ((flat gs).getD (0 + (↑k : Int).toNat * 2 + 0) 0 - (flat gs).getD (0 + (↑i : Int).toNat * 2 + 0) 0)))]⟩, some ⟨.row 97 2, .vals [.int .i64 (qN (IntKind.i64.wrap ((flat gs).getD (0 + (↑k : Int).toNat * 2 + 1) 0 - (flat gs).getD (0 + (↑i : Int).toNat * 2 + 1) 0)) (IntKind.i64.wrap ((flat gs).getD (0 + (↑k : Int).toNat * 2 + 0) 0 - (flat gs).getD (0 + (↑i : Int).toNat * 2 + 0) 0))), .int .i64 (qD (IntKind.i64.wrap ((flat gs).getD (0 + (↑k : Int).toNat * 2 + 1) 0 - (flat gs).getD (0 + (↑i : Int).toNat * 2 + 1) 0)) (IntKind.i64.wrap ((flat gs).getD (0 + (↑k : Int).toNat * 2 + 0) 0 - (flat gs).getD (0 + (↑i : Int).toNat * 2 + 0) 0)))]⟩, some ⟨.row 97 2, .ints (List.take ((crL gs (gs.getD i (0, 0)) k).length * 2) (List.drop 0 (flat (crL gs (gs.getD i (0, 0)) k))) ++ [qN (IntKind.i64.wrap ((flat gs).getD (0 + (↑k : Int).toNat * 2 + 1) 0 - (flat gs).getD (0 + (↑i : Int).toNat * 2 + 1) 0)) (IntKind.i64.wrap ((flat gs).getD (0 + (↑k : Int).toNat * 2 + 0) 0 - (flat gs).getD (0 + (↑i : Int).toNat * 2 + 0) 0)), qD (IntKind.i64.wrap ((flat gs).getD (0 + (↑k : Int).toNat * 2 + 1) 0 - (flat gs).getD (0 + (↑i : Int).toNat * 2 + 1) 0)) (IntKind.i64.wrap ((flat gs).getD (0 + (↑k : Int).toNat * 2 + 0) 0 - (flat gs).getD (0 + (↑i : Int).toNat * 2 + 0) 0))])⟩]⟩))) (.leaf .normal ⟨(.slice (some ⟨0, 0, none⟩) (gs.length) (gs.length) :: .int .i64 ((↑i : Int)) :: topV :: topV :: topV :: .slice (some ⟨3, 0, none⟩) ((crL gs (gs.getD i (0, 0)) k).length) ((crL gs (gs.getD i (0, 0)) k).length) :: .int .i64 (IntKind.i64.wrap ((↑k : Int) + 1)) :: topV :: topV :: topV :: topV :: topV :: topV :: topV :: topV :: topV :: topV :: topV :: topV :: topV :: topV :: topV :: topV :: topV :: topV :: topV :: topV :: topV :: topV :: topV :: topV :: topV :: topV :: topV :: topV :: topV :: topV :: topV :: topV :: topV :: topV :: topV :: topV :: topV :: topV :: topV :: topV :: topV :: topV :: topV :: topV :: topV :: topV :: topV :: topV :: topV :: topV :: topV :: topV :: topV :: topV :: topV :: topV :: topV :: topV :: topV :: topV :: topV :: topV :: topV :: topV :: topV :: topV :: []), [some ⟨.view, .ints (flat gs)⟩, none, some deadB, some ⟨.row 97 2, .ints (flat (crL gs (gs.getD i (0, 0)) k))⟩, none, some ⟨.box, .vals [.int .i64 (qN (IntKind.i64.wrap ((flat gs).getD (0 + (↑k : Int).toNat * 2 + 1) 0 - (flat gs).getD (0 + (↑i : Int).toNat * 2 + 1) 0)) (IntKind.i64.wrap ((flat gs).getD (0 + (↑k : Int).toNat * 2 + 0) 0 - (flat gs).getD (0 + (↑i : Int).toNat * 2 + 0) 0))), .int .i64 (qD (IntKind.i64.wrap ((flat gs).getD (0 + (↑k : Int).toNat * 2 + 1) 0 - (flat gs).getD (0 + (↑i : Int).toNat * 2 + 1) 0)) (IntKind.i64.wrap ((flat gs).getD (0 + (↑k : Int).toNat * 2 + 0) 0 - (flat gs).getD (0 + (↑i : Int).toNat * 2 + 0) 0)))]⟩]⟩))))))))))))))))))))))) (.leaf (.exit 0) ⟨(topV :: topV :: topV :: topV :: topV :: .slice (some ⟨3, 0, none⟩) ((crL gs (gs.getD i (0, 0)) k).length) ((crL gs (gs.getD i (0, 0)) k).length) :: topV :: topV :: topV :: topV :: topV :: topV :: topV :: topV :: topV :: topV :: topV :: topV :: topV :: topV :: topV :: topV :: topV :: topV :: topV :: topV :: topV :: topV :: topV :: topV :: topV :: topV :: topV :: topV :: topV :: topV :: topV :: topV :: topV :: topV :: topV :: topV :: topV :: topV :: topV :: topV :: topV :: topV :: topV :: topV :: topV :: topV :: topV :: topV :: topV :: topV :: topV :: topV :: topV :: topV :: topV :: topV :: topV :: topV :: topV :: topV :: topV :: topV :: topV :: topV :: topV :: topV :: topV :: []), [some ⟨.view, .ints (flat gs)⟩, none, some deadB, some ⟨.row 97 2, .ints (flat (crL gs (gs.getD i (0, 0)) k))⟩]⟩) := by kernel_rfl
def inv_cro (gs : List Pt) (i : Nat) : Nat → Prop := fun k => k ≤ gs.length
def me_cro (gs : List Pt) (i : Nat) : Nat → Nat := fun k => gs.length - k
/-- A round of this loop. -/
def Round_cro (gs : List Pt) (i : Nat) : Prop := ∀ xx : Nat, inv_cro gs i xx → (bodyL Try.prog EAl 30 12 ltCr 1 c_cro k_cro 16 (s_cro gs i xx)).ok (RoundEnd 3 (s_cro gs i) (inv_cro gs i) (me_cro gs i) re_cro (rs_cro gs i) xx) (fun _ _ => False)
def e_cro (s : St) (k : Ex → St → Tree) : Option Tree := match Nat.beq s.tmps.length 73, pickL s.tmps [0, 1, 5, 6], s.mem with
  | true, [.slice (some ⟨0, 0, none⟩) m _, .int .i64 i, .slice (some ⟨2, 0, none⟩) z _, .int .i64 k0], [some ⟨.view, .ints xs⟩, none, some ⟨.row 97 2, .vals []⟩] => some (needs [k0 = 0, z = 0, xs.length = m * 2, m ≤ 8, allV (ptsA m xs) = true, 0 ≤ i ∧ i < m] (k (.exit 0) ⟨(topV :: topV :: topV :: topV :: topV :: .slice (some ⟨3, 0, none⟩) (crL (ptsA m xs) ((ptsA m xs).getD i.toNat (0, 0)) m).length (crL (ptsA m xs) ((ptsA m xs).getD i.toNat (0, 0)) m).length :: topV :: topV :: topV :: topV :: topV :: topV :: topV :: topV :: topV :: topV :: topV :: topV :: topV :: topV :: topV :: topV :: topV :: topV :: topV :: topV :: topV :: topV :: topV :: topV :: topV :: topV :: topV :: topV :: topV :: topV :: topV :: topV :: topV :: topV :: topV :: topV :: topV :: topV :: topV :: topV :: topV :: topV :: topV :: topV :: topV :: topV :: topV :: topV :: topV :: topV :: topV :: topV :: topV :: topV :: topV :: topV :: topV :: topV :: topV :: topV :: topV :: topV :: topV :: topV :: topV :: topV :: topV :: []), [some ⟨.view, .ints xs⟩, none, some ⟨.dead, .vals []⟩, some ⟨.row 97 2, .ints (flat (crL (ptsA m xs) ((ptsA m xs).getD i.toNat (0, 0)) m))⟩]⟩))
  | _, _, _ => none
set_option maxRecDepth 100000 in
theorem in_cro : loopsOf c_cro = [c_cri] := by kernel_rfl
theorem ltCr_good : LoopsGood Try.prog ltCr 1 c_cro := by
  intro i d hd s k t F H hlt ht
  rw [in_cro] at hd
  cases i with
  | zero =>
    obtain rfl : c_cri = d := by simpa using hd
    exact lg_cri s k t F H hlt ht
  | succ i => simp at hd
set_option maxRecDepth 100000 in
set_option maxHeartbeats 4000000 in
theorem round_cro (gs : List Pt) (i : Nat) (h : gs.length ≤ 8) (hv : allV gs = true) (hi : i < gs.length) : Round_cro gs i := by
  intro k h1
  have h1 : k ≤ gs.length := h1
  rw [tr_cro]
  have fl := flat_length gs
  have cl := crL_len gs (gs.getD i (0, 0)) k
  have fo := flat_length (crL gs (gs.getD i (0, 0)) k)
  have fk : List.take ((crL gs (gs.getD i (0, 0)) k).length * 2) (flat (crL gs (gs.getD i (0, 0)) k)) = flat (crL gs (gs.getD i (0, 0)) k) := List.take_of_length_le (by omega)
  refine brT_ok.2 ⟨fun hlt => ?_, fun hge => ?_⟩
  · have hk : k < gs.length := by have := of_decide_eq_true hlt; omega
    obtain ⟨v1, v2, v3, v4⟩ := allV_get hv i
    obtain ⟨u1, u2, u3, u4⟩ := allV_get hv k
    have w1 : IntKind.i64.wrap ((gs.getD k (0, 0)).1 - (gs.getD i (0, 0)).1) = (gs.getD k (0, 0)).1 - (gs.getD i (0, 0)).1 := wr (by omega)
    have w2 : IntKind.i64.wrap ((gs.getD k (0, 0)).2 - (gs.getD i (0, 0)).2) = (gs.getD k (0, 0)).2 - (gs.getD i (0, 0)).2 := wr (by omega)
    rw [wsucc (n := gs.length) hk (by omega)]
    simp only [Int.toNat_natCast, Nat.zero_add, Nat.add_zero, flat_get0, flat_get1, List.drop_zero, ptsA_flat, w1, w2, fk]
    have es : crL gs (gs.getD i (0, 0)) (k + 1) = crO (gs.getD i (0, 0)) (crL gs (gs.getD i (0, 0)) k) (gs.getD k (0, 0)) := rfl
    refine ⟨by omega, by omega, by omega, by omega, brT_ok.2 ⟨fun q => ?_, fun q => ?_⟩⟩
    · have e : crL gs (gs.getD i (0, 0)) (k + 1) = crL gs (gs.getD i (0, 0)) k := by rw [es]; unfold crO; rw [q]; rfl
      refine ⟨k + 1, [some 3], by show k + 1 ≤ gs.length; omega, ?_, rfl, by simp only [rs_cro], ?_⟩
      · show gs.length - (k + 1) < gs.length - k; omega
      · simp only [s_cro]
        rw [e]
        repeat' (first | exact True.intro | exact rfl | exact fun _ => rfl | (simp; done) | refine And.intro ?_ ?_)
    · have q0 : ¬ (gs.getD k (0, 0)).1 = (gs.getD i (0, 0)).1 := by simpa using q
      have sn : flat (crL gs (gs.getD i (0, 0)) k) ++ [qN ((gs.getD k (0, 0)).2 - (gs.getD i (0, 0)).2) ((gs.getD k (0, 0)).1 - (gs.getD i (0, 0)).1), qD ((gs.getD k (0, 0)).2 - (gs.getD i (0, 0)).2) ((gs.getD k (0, 0)).1 - (gs.getD i (0, 0)).1)] = flat (crL gs (gs.getD i (0, 0)) k ++ [cxQ (gs.getD i (0, 0)) (gs.getD k (0, 0))]) := by rw [flat_snoc]; rfl
      rw [sn]
      refine ⟨by unfold big; omega, by unfold big; omega, by omega, by omega, by omega, by omega, by omega, by omega, by omega, by omega, by omega, trivial, trivial, fl, fo, by omega, brT_ok.2 ⟨fun g => ?_, fun g => ?_⟩⟩
      · have g : hasC (crL gs (gs.getD i (0, 0)) k) (cxQ (gs.getD i (0, 0)) (gs.getD k (0, 0))).1 (cxQ (gs.getD i (0, 0)) (gs.getD k (0, 0))).2 = false := by simpa [cxQ] using g
        have e : crL gs (gs.getD i (0, 0)) (k + 1) = crL gs (gs.getD i (0, 0)) k ++ [cxQ (gs.getD i (0, 0)) (gs.getD k (0, 0))] := by rw [es]; unfold crO; rw [q, cond_false, g, cond_false]
        have el : (crL gs (gs.getD i (0, 0)) k ++ [cxQ (gs.getD i (0, 0)) (gs.getD k (0, 0))]).length = (crL gs (gs.getD i (0, 0)) k).length + 1 := by simp
        refine ⟨by omega, by omega, k + 1, [some 7], by show k + 1 ≤ gs.length; omega, ?_, rfl, by simp only [rs_cro], ?_⟩
        · show gs.length - (k + 1) < gs.length - k; omega
        · simp only [s_cro]
          rw [e, el]
          repeat' (first | exact True.intro | exact rfl | exact fun _ => rfl | (simp; done) | refine And.intro ?_ ?_)
      · have g : hasC (crL gs (gs.getD i (0, 0)) k) (cxQ (gs.getD i (0, 0)) (gs.getD k (0, 0))).1 (cxQ (gs.getD i (0, 0)) (gs.getD k (0, 0))).2 = true := by simpa [cxQ] using g
        have e : crL gs (gs.getD i (0, 0)) (k + 1) = crL gs (gs.getD i (0, 0)) k := by rw [es]; unfold crO; rw [q, cond_false, g, cond_true]
        refine ⟨k + 1, [some 3], by show k + 1 ≤ gs.length; omega, ?_, rfl, by simp only [rs_cro], ?_⟩
        · show gs.length - (k + 1) < gs.length - k; omega
        · simp only [s_cro]
          rw [e]
          repeat' (first | exact True.intro | exact rfl | exact fun _ => rfl | (simp; done) | refine And.intro ?_ ?_)
  · have hge := of_decide_eq_false hge
    obtain rfl : k = gs.length := by omega
    refine ⟨rfl, [some 3], ?_⟩
    repeat' (first | exact True.intro | exact rfl | exact fun _ => rfl | (simp; done) | refine And.intro ?_ ?_)
set_option maxRecDepth 100000 in
theorem lg_cro : LoopE Try.prog e_cro c_cro := by
  intro s k t F H hlt ht
  unfold e_cro at hlt
  split at hlt
  rotate_left
  · cases hlt
  rename_i hlen hpick hmem
  obtain ⟨tmps, mem⟩ := s
  simp only at hlen hpick hmem
  subst hmem
  obtain rfl := Option.some.inj hlt
  obtain ⟨⟨rfl, rfl, h1, h2, h3, h4, _⟩, ht2⟩ := needs_ok ht
  clear ht hlt
  obtain ⟨gs, rfl, rfl⟩ := even_flat h1
  obtain ⟨i, rfl⟩ := Int.eq_ofNat_of_zero_le h4.1
  simp only [Int.toNat_natCast] at ht2
  rw [ptsA_flat] at h3
  rw [ptsA_flat] at ht2
  have h4 : i < gs.length := by omega
  refine ⟨_, _, ht2, loop_run2 mixed EAl_ok (s_cro gs i) (inv_cro gs i) (me_cro gs i) re_cro (rs_cro gs i) k_cro (fun _ => rfl) ltCr_good (round_cro gs i h2 h3 h4) (x := 0) (Nat.zero_le _) (π := [some 2]) rfl ?_⟩
  refine ⟨rfl, rfl, ?_, wvs_spread' [0, 1, 5, 6] hlen rfl ?_⟩
  · repeat' (first | exact True.intro | exact rfl | exact wv_top _ _ | exact fun _ => rfl | assumption | exact Eq.symm (by assumption) | exact vI0 rfl | refine And.intro ?_ ?_)
  · rw [hpick]
    repeat' (first | exact True.intro | exact rfl | exact wv_top _ _ | exact fun _ => rfl | assumption | exact Eq.symm (by assumption) | exact vI0 rfl | refine And.intro ?_ ?_)
theorem Lr_cro {fn : Func} (hf : Try.prog.funcs[79]? = some fn) : LoopsGood Try.prog (lt1 e_cro) 0 (codeOf fn) := by
  obtain rfl := fn_is Try.func79 hf
  exact lt1_good lg_cro
def LCr : FuncId → LT := fun f => match f with
  | 79 => lt1 e_cro
  | _ => noL
def ECr : Env := mkE TAl (fun _ _ => none) LCr
theorem ECr_ok : EnvOk Try.prog ECr := mkEOk TAl_ok (fun _ _ _ _ _ h => (by cases h)) (by
  intro f fn hf
  unfold LCr
  split
  all_goals first | with_reducible exact Lr_cro hf | exact noL_good)
set_option maxRecDepth 100000 in
theorem tr_crF (gs : List Pt) (i : Int) : bodyX Try.prog ECr 30 12 79 [.row gs.length (.ints (flat gs)), .v (iv i)] = .need ((0 : Int) = (0 : Int)) (.need ((0 : Nat) = (0 : Nat)) (.need ((flat gs).length = gs.length * (2 : Nat)) (.need (gs.length ≤ (8 : Nat)) (.need (allV (ptsA gs.length (flat gs)) = true) (.need ((0 : Int) ≤ i ∧ i < (↑gs.length : Int)) (.fin (.slice (some ⟨3, 0, none⟩) ((crL (ptsA gs.length (flat gs)) ((ptsA gs.length (flat gs)).getD i.toNat (0, 0)) gs.length).length) ((crL (ptsA gs.length (flat gs)) ((ptsA gs.length (flat gs)).getD i.toNat (0, 0)) gs.length).length)) [some ⟨.view, .ints (flat gs)⟩, none, some deadB, some ⟨.row 97 2, .ints (flat (crL (ptsA gs.length (flat gs)) ((ptsA gs.length (flat gs)).getD i.toNat (0, 0)) gs.length))⟩])))))) := by kernel_rfl
theorem resR_cr (gs : List Pt) (i : Nat) (h : gs.length ≤ 8) (hv : allV gs = true) (hi : i < gs.length) : ResR Try.prog 79 [.row gs.length (.ints (flat gs)), .v (iv i)] (.slice (some ⟨0, 0, none⟩) (crL gs (gs.getD i (0, 0)) gs.length).length (crL gs (gs.getD i (0, 0)) gs.length).length) ⟨.row 97 2, .ints (flat (crL gs (gs.getD i (0, 0)) gs.length))⟩ := by
  refine bodyX_resR mixed ECr_ok (m := 30) (n := 12) rfl ?_
  rw [tr_crF]
  simp only [ptsA_flat, Int.toNat_natCast]
  exact ⟨trivial, trivial, flat_length gs, h, hv, by omega, some 3, ⟨rfl, rfl, rfl⟩, rfl, rfl, rfl⟩
/-- The places where a graph of the list meets others. -/
def crI (gs : List Pt) (i : Nat) : List Pt := crL gs (gs.getD i (0, 0)) gs.length
def RCrs : TabR := fun f ds => match f, ds with
  | 79, [.row n (.ints xs), .v (.int .i64 i)] => some (.slice (some ⟨0, 0, none⟩) (crI (ptsA n xs) i.toNat).length (crI (ptsA n xs) i.toNat).length, ⟨.row 97 2, .ints (flat (crI (ptsA n xs) i.toNat))⟩, [xs.length = n * 2, n ≤ 8, allV (ptsA n xs) = true, 0 ≤ i ∧ i < n])
  | _, _ => none
theorem RCrs_ok : TabROk Try.prog RCrs := by
  intro f ds v bl C h hC
  unfold RCrs at h
  split at h
  · obtain ⟨rfl, rfl, rfl⟩ : _ ∧ _ ∧ _ := by simpa using h
    obtain ⟨h1, h2, h3, h4, _⟩ := hC
    obtain ⟨gs, rfl, rfl⟩ := even_flat h1
    rename_i i
    obtain ⟨i, rfl⟩ := Int.eq_ofNat_of_zero_le h4.1
    rw [ptsA_flat] at h3 ⊢
    exact resR_cr gs i h2 h3 (by omega)
  · cases h
end Go.Proofs.Ytolodncpegajkab
