/-
  Texts that the proof needs, merged. Written by an AI agent.
-/
import Derived.Orders
import Derived.Below
import Derived.OrdersIn
import Derived.Deep.LoopGhost
import Derived.WalkKit
import Derived.Laws.CopyRow
import Derived.Laws.AppendOwn
import Derived.Laws.Slices
import Derived.Laws.MakeOwn
import Derived.Test.YtolodncpegajkaaRows
import Derived.ProofKit
import Derived.OpenShut
import Derived.Carry
import Derived.IntWalk
import Derived.Test.YtolodncpegajkaaProg
import Derived.WalkSpells
import Derived.WalkLawsBesides
import Derived.Lib.Hide
import Derived.Deep.QuietTactic
import Derived.BigQuiet
import Derived.KernelRfl
import Derived.Deep.RegionHeld3
import Derived.LoopTactic
import Derived.Laws.StructEq
import Derived.Laws.Tables
import Derived.RangeFuncNested
import Derived.RangeFuncLeaves
import Derived.Deep.Slices
import Derived.Deep.Fields
import Derived.ChangeSame
import Derived.Deep.DeepCutAuto
import Derived.Test.YtolodncpegajkaaZExactMeetingPairs6
namespace Go.Proofs.Ytolodncpegajkaa
set_option linter.all false
open Go.RowKit
theorem vs_seg {n : Nat} {xs : List Int} (h : vsB n xs = true) {j : Nat} (hj : j < n) : slQ xs j = true := by
  unfold vsB at h
  exact allQ_get _ _ (Bool.and_eq_true_iff.1 h).1 j (Nat.zero_le _) (by omega)
theorem slQ_pt {xs : List Int} {j : Nat} (h : slQ xs j = true) : ptB (xs.getD (j * 4) 0) (xs.getD (j * 4 + 1) 0) = true ∧ ptB (xs.getD (j * 4 + 2) 0) (xs.getD (j * 4 + 3) 0) = true := segB_pt h
theorem rl4_A {n : Nat} {xs : List Int} (h : vsB n xs = true) {i k : Nat} (hi : i < n) (hk : k < n) : rl4V xs i k = relA (xs.getD (i * 4) 0) (xs.getD (i * 4 + 1) 0) (xs.getD (i * 4 + 2) 0) (xs.getD (i * 4 + 3) 0) (xs.getD (k * 4) 0) (xs.getD (k * 4 + 1) 0) (xs.getD (k * 4 + 2) 0) (xs.getD (k * 4 + 3) 0) := by
  have h1 := vs_seg h hi
  have h2 := vs_seg h hk
  unfold slQ at h1 h2
  unfold rl4V relV
  rw [h1, h2]
  rfl
def ESl2 : Env := mkE TSl2 RSl1 (fun _ => noL)
theorem ESl2_ok : EnvOk Try.prog ESl2 := mkEOk TSl2_ok RSl1_ok (fun _ _ _ => noL_good)
noncomputable def c_smI : Code := ((loopsOf (codeOf Try.f16))[1]?).getD .skip
def k_smI : Ex → List Nat := keeps [0, 3, 4, 5] [(2, [0, 3, 4]), (1, [0, 3, 4]), (0, [3])] [2]
def s_smI (xs : List Int) (n i : Nat) : Nat → St := fun j => ⟨(.slice (some ⟨0, 0, none⟩) n n :: topV :: topV :: .slice (some ⟨3, 0, none⟩) (mpL xs n (offR n 0 i + j)).length (mpL xs n (offR n 0 i + j)).length :: .int .i64 i :: .int .i64 (i + 1 + j : Nat) :: topV :: topV :: topV :: topV :: topV :: topV :: topV :: topV :: topV :: topV :: topV :: topV :: topV :: topV :: topV :: topV :: topV :: topV :: topV :: topV :: topV :: topV :: topV :: topV :: topV :: topV :: topV :: topV :: topV :: topV :: topV :: topV :: topV :: topV :: topV :: []), [some ⟨.view, .ints xs⟩, some ⟨.dead, .vals []⟩, some ⟨.dead, .vals []⟩, some ⟨.row 41 2, .ints (flat (mpL xs n (offR n 0 i + j)))⟩]⟩
def re_smI : Nat → Ex := fun _ => .exit 2
def rs_smI (xs : List Int) (n i : Nat) : Nat → St := fun j => ⟨(.slice (some ⟨0, 0, none⟩) n n :: topV :: topV :: .slice (some ⟨3, 0, none⟩) (mpL xs n (offR n 0 (i + 1))).length (mpL xs n (offR n 0 (i + 1))).length :: .int .i64 i :: topV :: topV :: topV :: topV :: topV :: topV :: topV :: topV :: topV :: topV :: topV :: topV :: topV :: topV :: topV :: topV :: topV :: topV :: topV :: topV :: topV :: topV :: topV :: topV :: topV :: topV :: topV :: topV :: topV :: topV :: topV :: topV :: topV :: topV :: topV :: topV :: []), [some ⟨.view, .ints xs⟩, some ⟨.dead, .vals []⟩, some ⟨.dead, .vals []⟩, some ⟨.row 41 2, .ints (flat (mpL xs n (offR n 0 (i + 1))))⟩]⟩
set_option maxRecDepth 100000 in
theorem tr_smI (xs : List Int) (n i : Nat) (j : Nat) : bodyL Try.prog ESl2 30 12 noL 2 c_smI k_smI 16 (s_smI xs n i j) = brT (decide ((↑(i + 1 + j) : Int) < (↑n : Int))) (.need (ptB (xs.getD ((0 : Nat) + (↑i : Int).toNat * (4 : Nat)) (0 : Int)) (xs.getD ((0 : Nat) + (↑i : Int).toNat * (4 : Nat) + (1 : Nat)) (0 : Int)) = true) (.need (ptB (xs.getD ((0 : Nat) + (↑i : Int).toNat * (4 : Nat) + (1 : Nat) + (1 : Nat)) (0 : Int)) (xs.getD ((0 : Nat) + (↑i : Int).toNat * (4 : Nat) + (1 : Nat) + (1 : Nat) + (1 : Nat)) (0 : Int)) = true) (.need (ptB (xs.getD ((0 : Nat) + (↑(i + (1 : Nat) + j) : Int).toNat * (4 : Nat)) (0 : Int)) (xs.getD ((0 : Nat) + (↑(i + (1 : Nat) + j) : Int).toNat * (4 : Nat) + (1 : Nat)) (0 : Int)) = true) (.need (ptB (xs.getD ((0 : Nat) + (↑(i + (1 : Nat) + j) : Int).toNat * (4 : Nat) + (1 : Nat) + (1 : Nat)) (0 : Int)) (xs.getD ((0 : Nat) + (↑(i + (1 : Nat) + j) : Int).toNat * (4 : Nat) + (1 : Nat) + (1 : Nat) + (1 : Nat)) (0 : Int)) = true) (.need ((0 : Int) ≤ (↑i : Int) ∧ (↑i : Int) < (↑n : Int)) (.need ((0 : Nat) + (↑i : Int).toNat * (4 : Nat) + (4 : Nat) ≤ xs.length) (.need ((0 : Int) ≤ (↑(i + (1 : Nat) + j) : Int) ∧ (↑(i + (1 : Nat) + j) : Int) < (↑n : Int)) (.need ((0 : Nat) + (↑(i + (1 : Nat) + j) : Int).toNat * (4 : Nat) + (4 : Nat) ≤ xs.length) (brT (!relA (xs.getD (0 + (↑i : Int).toNat * 4) 0) (xs.getD (0 + (↑i : Int).toNat * 4 + 1) 0) (xs.getD (0 + (↑i : Int).toNat * 4 + 1 + 1) 0) (xs.getD (0 + (↑i : Int).toNat * 4 + 1 + 1 + 1) 0) (xs.getD (0 + (↑(i + 1 + j) : Int).toNat * 4) 0) (xs.getD (0 + (↑(i + 1 + j) : Int).toNat * 4 + 1) 0) (xs.getD (0 + (↑(i + 1 + j) : Int).toNat * 4 + 1 + 1) 0) (xs.getD (0 + (↑(i + 1 + j) : Int).toNat * 4 + 1 + 1 + 1) 0) == 0) (.need (((mpL xs n (offR n (0 : Nat) i + j)).length + (1 : Nat)) * (16 : Nat) ≤ (140737488355328 : Nat) ∧ (mpL xs n (offR n (0 : Nat) i + j)).length + (1 : Nat) ≤ (1000000 : Nat)) (.need ((0 : Nat) + (mpL xs n (offR n (0 : Nat) i + j)).length * (2 : Nat) ≤ (flat (mpL xs n (offR n (0 : Nat) i + j))).length) (.leaf .normal ⟨(.slice (some ⟨0, 0, none⟩) (n) (n) :: topV :: topV :: .slice (some ⟨6, 0, none⟩) ((mpL xs n (offR n 0 i + j)).length + 1) ((mpL xs n (offR n 0 i + j)).length + 1) :: .int .i64 ((↑i : Int)) :: .int .i64 (IntKind.i64.wrap ((↑(i + 1 + j) : Int) + 1)) :: topV :: topV :: topV :: topV :: topV :: topV :: topV :: topV :: topV :: topV :: topV :: topV :: topV :: topV :: topV :: topV :: topV :: topV :: topV :: topV :: topV :: topV :: topV :: topV :: topV :: topV :: topV :: topV :: topV :: topV :: topV :: topV :: topV :: topV :: topV :: []), [some ⟨.view, .ints (xs)⟩, some deadB, some deadB, some deadB, none, some ⟨.row 41 2, .vals [.int .i64 ((↑i : Int)), .int .i64 ((↑(i + 1 + j) : Int))]⟩, some ⟨.row 41 2, .ints (List.take ((mpL xs n (offR n 0 i + j)).length * 2) (List.drop 0 (flat (mpL xs n (offR n 0 i + j)))) ++ [(↑i : Int), (↑(i + 1 + j) : Int)])⟩]⟩))) (.leaf .normal ⟨(.slice (some ⟨0, 0, none⟩) (n) (n) :: topV :: topV :: .slice (some ⟨3, 0, none⟩) ((mpL xs n (offR n 0 i + j)).length) ((mpL xs n (offR n 0 i + j)).length) :: .int .i64 ((↑i : Int)) :: .int .i64 (IntKind.i64.wrap ((↑(i + 1 + j) : Int) + 1)) :: topV :: topV :: topV :: topV :: topV :: topV :: topV :: topV :: topV :: topV :: topV :: topV :: topV :: topV :: topV :: topV :: topV :: topV :: topV :: topV :: topV :: topV :: topV :: topV :: topV :: topV :: topV :: topV :: topV :: topV :: topV :: topV :: topV :: topV :: topV :: []), [some ⟨.view, .ints (xs)⟩, some deadB, some deadB, some ⟨.row 41 2, .ints (flat (mpL xs n (offR n 0 i + j)))⟩, none]⟩)))))))))) (.leaf (.exit 2) ⟨(.slice (some ⟨0, 0, none⟩) (n) (n) :: topV :: topV :: .slice (some ⟨3, 0, none⟩) ((mpL xs n (offR n 0 i + j)).length) ((mpL xs n (offR n 0 i + j)).length) :: .int .i64 ((↑i : Int)) :: topV :: topV :: topV :: topV :: topV :: topV :: topV :: topV :: topV :: topV :: topV :: topV :: topV :: topV :: topV :: topV :: topV :: topV :: topV :: topV :: topV :: topV :: topV :: topV :: topV :: topV :: topV :: topV :: topV :: topV :: topV :: topV :: topV :: topV :: topV :: topV :: []), [some ⟨.view, .ints (xs)⟩, some deadB, some deadB, some ⟨.row 41 2, .ints (flat (mpL xs n (offR n 0 i + j)))⟩]⟩) := by kernel_rfl
set_option maxRecDepth 100000 in
theorem nl_smI : loopsOf c_smI = [] := by kernel_rfl
def inv_smI (xs : List Int) (n i : Nat) : Nat → Prop := fun j => i + 1 + j ≤ n
def me_smI (xs : List Int) (n i : Nat) : Nat → Nat := fun j => n - (i + 1 + j)
/-- A round of this loop. -/
def Round_smI (xs : List Int) (n i : Nat) : Prop := ∀ xx : Nat, inv_smI xs n i xx → (bodyL Try.prog ESl2 30 12 noL 2 c_smI k_smI 16 (s_smI xs n i xx)).ok (RoundEnd 3 (s_smI xs n i) (inv_smI xs n i) (me_smI xs n i) re_smI (rs_smI xs n i) xx) (fun _ _ => False)
def e_smI (s : St) (k : Ex → St → Tree) : Option Tree := match Nat.beq s.tmps.length 41, pickL s.tmps [0, 3, 4, 5], s.mem with
  | true, [.slice (some ⟨0, 0, none⟩) n _, .slice (some ⟨2, 0, none⟩) m _, .int .i64 ii, .int .i64 kk], [some ⟨.view, .ints xs⟩, some ⟨.dead, .vals []⟩, some ⟨.row 41 2, .ints ys⟩] => some (needs [0 ≤ ii, kk = ii + 1, xs.length = n * 4, n ≤ 12, vsB n xs = true, ii < n, ys = flat (mpL xs n (offR n 0 ii.toNat)), m = (mpL xs n (offR n 0 ii.toNat)).length] (k (.exit 2) ⟨(.slice (some ⟨0, 0, none⟩) n n :: topV :: topV :: .slice (some ⟨3, 0, none⟩) (mpL xs n (offR n 0 (ii.toNat + 1))).length (mpL xs n (offR n 0 (ii.toNat + 1))).length :: .int .i64 ii :: topV :: topV :: topV :: topV :: topV :: topV :: topV :: topV :: topV :: topV :: topV :: topV :: topV :: topV :: topV :: topV :: topV :: topV :: topV :: topV :: topV :: topV :: topV :: topV :: topV :: topV :: topV :: topV :: topV :: topV :: topV :: topV :: topV :: topV :: topV :: topV :: []), [some ⟨.view, .ints xs⟩, some ⟨.dead, .vals []⟩, some ⟨.dead, .vals []⟩, some ⟨.row 41 2, .ints (flat (mpL xs n (offR n 0 (ii.toNat + 1))))⟩]⟩))
  | _, _, _ => none
set_option maxRecDepth 100000 in
theorem round_smI (xs : List Int) (n i : Nat) (hx : xs.length = n * 4) (h : n ≤ 12) (hv : vsB n xs = true) (hi : i < n) : Round_smI xs n i := by
  intro j h1
  have h1 : i + 1 + j ≤ n := h1
  rw [tr_smI]
  have hl := mpL_len xs n (offR n 0 i + j)
  have hb := offR_le n n 0
  have hm := offR_mono n (show i ≤ n by omega)
  have hnn : n * n ≤ 12 * 12 := Nat.mul_le_mul h h
  have fl := flat_length (mpL xs n (offR n 0 i + j))
  have fk : List.take ((mpL xs n (offR n 0 i + j)).length * 2) (List.drop 0 (flat (mpL xs n (offR n 0 i + j)))) = flat (mpL xs n (offR n 0 i + j)) := by rw [List.drop_zero]; exact List.take_of_length_le (by omega)
  simp only [Int.toNat_natCast, Nat.zero_add, fk]
  refine brT_ok.2 ⟨fun hlt => ?_, fun hge => ?_⟩
  · have hlt : i + 1 + j < n := by have := of_decide_eq_true hlt; omega
    have ep : prA n (offR n 0 i + j) = (i, i + 1 + j) := by
      have := prA_at (n := n) (a := i) (b := i + 1 + j) (by omega) hlt
      rwa [show i + 1 + j - i - 1 = j by omega] at this
    have ol : offR n 0 i + j < offR n 0 n := by
      have := off_lt (n := n) (a := i) (b := i + 1 + j) (by omega) hlt
      rwa [show i + 1 + j - i - 1 = j by omega] at this
    have eq : mpQ xs n (offR n 0 i + j) = !(relA (xs.getD (i * 4) 0) (xs.getD (i * 4 + 1) 0) (xs.getD (i * 4 + 2) 0) (xs.getD (i * 4 + 3) 0) (xs.getD ((i + 1 + j) * 4) 0) (xs.getD ((i + 1 + j) * 4 + 1) 0) (xs.getD ((i + 1 + j) * 4 + 2) 0) (xs.getD ((i + 1 + j) * 4 + 3) 0) == 0) := by
      unfold mpQ
      rw [ep, rl4_A hv hi hlt]
    have sn : flat (mpL xs n (offR n 0 i + j)) ++ [((i : Nat) : Int), ((i + 1 + j : Nat) : Int)] = flat (mpL xs n (offR n 0 i + j) ++ [prP n (offR n 0 i + j)]) := by rw [flat_snoc, prP, ep]
    obtain ⟨p1, p2⟩ := slQ_pt (vs_seg hv hi)
    obtain ⟨p3, p4⟩ := slQ_pt (vs_seg hv hlt)
    rw [wsucc (n := n) hlt (by omega), sn]
    refine ⟨p1, p2, p3, p4, ⟨by omega, by omega⟩, by omega, ⟨by omega, by omega⟩, by omega, brT_ok.2 ⟨fun c => ?_, fun c => ?_⟩⟩
    · have e : mpL xs n (offR n 0 i + (j + 1)) = mpL xs n (offR n 0 i + j) ++ [prP n (offR n 0 i + j)] := by
        show mpL xs n (offR n 0 i + j + 1) = _
        have c : mpQ xs n (offR n 0 i + j) = true := eq.trans c
        simp only [mpL, c, cond_true]
      refine ⟨by omega, by omega, j + 1, [some 6], ?_, ?_, rfl, rfl, ?_⟩
      · show i + 1 + (j + 1) ≤ n; omega
      · show n - (i + 1 + (j + 1)) < n - (i + 1 + j); omega
      · unfold s_smI
        rw [e]
        repeat' (first | exact True.intro | exact rfl | exact fun _ => rfl | (simp; done) | refine And.intro ?_ ?_)
    · have e : mpL xs n (offR n 0 i + (j + 1)) = mpL xs n (offR n 0 i + j) := by
        show mpL xs n (offR n 0 i + j + 1) = _
        have c : mpQ xs n (offR n 0 i + j) = false := eq.trans c
        simp only [mpL, c, cond_false]
      refine ⟨j + 1, [some 3], ?_, ?_, rfl, rfl, ?_⟩
      · show i + 1 + (j + 1) ≤ n; omega
      · show n - (i + 1 + (j + 1)) < n - (i + 1 + j); omega
      · unfold s_smI
        rw [e]
        repeat' (first | exact True.intro | exact rfl | exact fun _ => rfl | (simp; done) | refine And.intro ?_ ?_)
  · have hge := of_decide_eq_false hge
    have e : offR n 0 (i + 1) = offR n 0 i + j := by
      rw [offR_succ]
      omega
    refine ⟨rfl, [some 3], ?_⟩
    unfold rs_smI
    rw [e]
    repeat' (first | exact True.intro | exact rfl | exact fun _ => rfl | (simp; done) | refine And.intro ?_ ?_)
set_option maxRecDepth 100000 in
theorem lg_smI : LoopE Try.prog e_smI c_smI := by
  intro s k t F H hlt ht
  unfold e_smI at hlt
  split at hlt
  rotate_left
  · cases hlt
  rename_i hlen hpick hmem
  obtain ⟨tmps, mem⟩ := s
  simp only at hlen hpick hmem
  subst hmem
  obtain rfl := Option.some.inj hlt
  obtain ⟨⟨h0, h1, h2, h3, h4, h5, h6, h7, _⟩, ht2⟩ := needs_ok ht
  clear ht hlt
  subst h6 h7
  obtain ⟨i, rfl⟩ := Int.eq_ofNat_of_zero_le h0
  simp only [Int.toNat_natCast] at ht2
  obtain rfl := h1
  refine ⟨_, _, ht2, loop_run2 mixed ESl2_ok (s_smI _ _ i) (inv_smI _ _ i) (me_smI _ _ i) re_smI (rs_smI _ _ i) k_smI (fun _ => rfl) (noLoops nl_smI) (round_smI _ _ i h2 h3 h4 (by omega)) (x := 0) (by show i + 1 + 0 ≤ _; omega) (π := [some 2]) rfl ?_⟩
  refine ⟨rfl, rfl, ?_, wvs_spread' [0, 3, 4, 5] hlen rfl ?_⟩
  · repeat' (first | exact True.intro | exact rfl | exact wv_top _ _ | exact fun _ => rfl | assumption | exact Eq.symm (by assumption) | exact vI0 rfl | refine And.intro ?_ ?_)
  · rw [hpick]
    repeat' (first | exact True.intro | exact rfl | exact wv_top _ _ | exact fun _ => rfl | assumption | exact Eq.symm (by assumption) | exact vI0 rfl | refine And.intro ?_ ?_)
def ltSm : LT := fun j s k => match j with
  | 1 => e_smI s k
  | _ => none
noncomputable def c_smO : Code := ((loopsOf (codeOf Try.f16))[0]?).getD .skip
def k_smO : Ex → List Nat := keeps [0, 3, 4] [(0, [3])] [2]
def s_smO (xs : List Int) (n : Nat) : Nat → St := fun i => ⟨(.slice (some ⟨0, 0, none⟩) n n :: topV :: topV :: .slice (some ⟨2, 0, none⟩) (mpL xs n (offR n 0 i)).length (mpL xs n (offR n 0 i)).length :: .int .i64 i :: topV :: topV :: topV :: topV :: topV :: topV :: topV :: topV :: topV :: topV :: topV :: topV :: topV :: topV :: topV :: topV :: topV :: topV :: topV :: topV :: topV :: topV :: topV :: topV :: topV :: topV :: topV :: topV :: topV :: topV :: topV :: topV :: topV :: topV :: topV :: topV :: []), [some ⟨.view, .ints xs⟩, some ⟨.dead, .vals []⟩, some ⟨.row 41 2, .ints (flat (mpL xs n (offR n 0 i)))⟩]⟩
def re_smO : Nat → Ex := fun _ => .exit 0
def rs_smO (xs : List Int) (n : Nat) : Nat → St := fun i => ⟨(topV :: topV :: topV :: .slice (some ⟨2, 0, none⟩) (mpL xs n (offR n 0 n)).length (mpL xs n (offR n 0 n)).length :: topV :: topV :: topV :: topV :: topV :: topV :: topV :: topV :: topV :: topV :: topV :: topV :: topV :: topV :: topV :: topV :: topV :: topV :: topV :: topV :: topV :: topV :: topV :: topV :: topV :: topV :: topV :: topV :: topV :: topV :: topV :: topV :: topV :: topV :: topV :: topV :: topV :: []), [some ⟨.view, .ints xs⟩, some ⟨.dead, .vals []⟩, some ⟨.row 41 2, .ints (flat (mpL xs n (offR n 0 n)))⟩]⟩
set_option maxRecDepth 100000 in
theorem tr_smO (xs : List Int) (n : Nat) (i : Nat) : bodyL Try.prog ESl2 30 12 ltSm 1 c_smO k_smO 16 (s_smO xs n i) = brT (decide ((↑i : Int) < (↑n : Int))) (.need ((0 : Int) ≤ (↑i : Int)) (.need (IntKind.i64.wrap ((↑i : Int) + (1 : Int)) = (↑i : Int) + (1 : Int)) (.need (xs.length = n * (4 : Nat)) (.need (n ≤ (12 : Nat)) (.need (vsB n xs = true) (.need ((↑i : Int) < (↑n : Int)) (.need (flat (mpL xs n (offR n (0 : Nat) i)) = flat (mpL xs n (offR n (0 : Nat) (↑i : Int).toNat))) (.need ((mpL xs n (offR n (0 : Nat) i)).length = (mpL xs n (offR n (0 : Nat) (↑i : Int).toNat)).length) (.leaf .normal ⟨(.slice (some ⟨0, 0, none⟩) (n) (n) :: topV :: topV :: .slice (some ⟨3, 0, none⟩) ((mpL xs n (offR n 0 ((↑i : Int).toNat + 1))).length) ((mpL xs n (offR n 0 ((↑i : Int).toNat + 1))).length) :: .int .i64 (IntKind.i64.wrap ((↑i : Int) + 1)) :: topV :: topV :: topV :: topV :: topV :: topV :: topV :: topV :: topV :: topV :: topV :: topV :: topV :: topV :: topV :: topV :: topV :: topV :: topV :: topV :: topV :: topV :: topV :: topV :: topV :: topV :: topV :: topV :: topV :: topV :: topV :: topV :: topV :: topV :: topV :: topV :: []), [some ⟨.view, .ints (xs)⟩, some deadB, some deadB, some ⟨.row 41 2, .ints (flat (mpL xs n (offR n 0 ((↑i : Int).toNat + 1))))⟩]⟩))))))))) (.leaf (.exit 0) ⟨(topV :: topV :: topV :: .slice (some ⟨2, 0, none⟩) ((mpL xs n (offR n 0 i)).length) ((mpL xs n (offR n 0 i)).length) :: topV :: topV :: topV :: topV :: topV :: topV :: topV :: topV :: topV :: topV :: topV :: topV :: topV :: topV :: topV :: topV :: topV :: topV :: topV :: topV :: topV :: topV :: topV :: topV :: topV :: topV :: topV :: topV :: topV :: topV :: topV :: topV :: topV :: topV :: topV :: topV :: topV :: []), [some ⟨.view, .ints (xs)⟩, some deadB, some ⟨.row 41 2, .ints (flat (mpL xs n (offR n 0 i)))⟩]⟩) := by kernel_rfl
def inv_smO (xs : List Int) (n : Nat) : Nat → Prop := fun i => i ≤ n
def me_smO (xs : List Int) (n : Nat) : Nat → Nat := fun i => n - i
/-- A round of this loop. -/
def Round_smO (xs : List Int) (n : Nat) : Prop := ∀ xx : Nat, inv_smO xs n xx → (bodyL Try.prog ESl2 30 12 ltSm 1 c_smO k_smO 16 (s_smO xs n xx)).ok (RoundEnd 2 (s_smO xs n) (inv_smO xs n) (me_smO xs n) re_smO (rs_smO xs n) xx) (fun _ _ => False)
def e_smO (s : St) (k : Ex → St → Tree) : Option Tree := match Nat.beq s.tmps.length 41, pickL s.tmps [0, 3, 4], s.mem with
  | true, [.slice (some ⟨0, 0, none⟩) n _, .slice (some ⟨1, 0, none⟩) z _, .int .i64 ii], [some ⟨.view, .ints xs⟩, some ⟨.row 41 2, .vals []⟩] => some (needs [ii = 0, z = 0, xs.length = n * 4, n ≤ 12, vsB n xs = true] (k (.exit 0) ⟨(topV :: topV :: topV :: .slice (some ⟨2, 0, none⟩) (mpL xs n (offR n 0 n)).length (mpL xs n (offR n 0 n)).length :: topV :: topV :: topV :: topV :: topV :: topV :: topV :: topV :: topV :: topV :: topV :: topV :: topV :: topV :: topV :: topV :: topV :: topV :: topV :: topV :: topV :: topV :: topV :: topV :: topV :: topV :: topV :: topV :: topV :: topV :: topV :: topV :: topV :: topV :: topV :: topV :: topV :: []), [some ⟨.view, .ints xs⟩, some ⟨.dead, .vals []⟩, some ⟨.row 41 2, .ints (flat (mpL xs n (offR n 0 n)))⟩]⟩))
  | _, _, _ => none
set_option maxRecDepth 100000 in
theorem in_smO : loopsOf c_smO = [c_smI] := by kernel_rfl
theorem ltSm_good : LoopsGood Try.prog ltSm 1 c_smO := by
  intro i d hd s k t F H hlt ht
  rw [in_smO] at hd
  cases i with
  | zero =>
    obtain rfl : c_smI = d := by simpa using hd
    exact lg_smI s k t F H hlt ht
  | succ i => simp at hd
set_option maxRecDepth 100000 in
theorem round_smO (xs : List Int) (n : Nat) (hx : xs.length = n * 4) (h : n ≤ 12) (hv : vsB n xs = true) : Round_smO xs n := by
  intro i h1
  have h1 : i ≤ n := h1
  rw [tr_smO]
  refine brT_ok.2 ⟨fun hlt => ?_, fun hge => ?_⟩
  · have hlt : i < n := by have := of_decide_eq_true hlt; omega
    have w : IntKind.i64.wrap ((i : Int) + 1) = ((i + 1 : Nat) : Int) := wsucc (n := n) hlt (by omega)
    rw [w]
    refine ⟨by omega, by omega, hx, h, hv, by omega, rfl, rfl, i + 1, [some 3], ?_, ?_, rfl, rfl, ?_⟩
    · show i + 1 ≤ n; omega
    · show n - (i + 1) < n - i; omega
    · unfold s_smO
      repeat' (first | exact True.intro | exact rfl | exact fun _ => rfl | (simp; done) | refine And.intro ?_ ?_)
  · have hge := of_decide_eq_false hge
    obtain rfl : i = n := by omega
    refine ⟨rfl, [some 2], ?_⟩
    unfold rs_smO
    repeat' (first | exact True.intro | exact rfl | exact fun _ => rfl | (simp; done) | refine And.intro ?_ ?_)
set_option maxRecDepth 100000 in
theorem lg_smO : LoopE Try.prog e_smO c_smO := by
  intro s k t F H hlt ht
  unfold e_smO at hlt
  split at hlt
  rotate_left
  · cases hlt
  rename_i hlen hpick hmem
  obtain ⟨tmps, mem⟩ := s
  simp only at hlen hpick hmem
  subst hmem
  obtain rfl := Option.some.inj hlt
  obtain ⟨⟨rfl, rfl, h2, h3, h4, _⟩, ht2⟩ := needs_ok ht
  clear ht hlt
  refine ⟨_, _, ht2, loop_run2 mixed ESl2_ok (s_smO _ _) (inv_smO _ _) (me_smO _ _) re_smO (rs_smO _ _) k_smO (fun _ => rfl) ltSm_good (round_smO _ _ h2 h3 h4) (x := 0) (Nat.zero_le _) (π := [some 1]) rfl ?_⟩
  refine ⟨rfl, rfl, ?_, wvs_spread' [0, 3, 4] hlen rfl ?_⟩
  · repeat' (first | exact True.intro | exact rfl | exact wv_top _ _ | exact fun _ => rfl | assumption | exact Eq.symm (by assumption) | exact vI0 rfl | refine And.intro ?_ ?_)
  · rw [hpick]
    repeat' (first | exact True.intro | exact rfl | exact wv_top _ _ | exact fun _ => rfl | assumption | exact Eq.symm (by assumption) | exact vI0 rfl | refine And.intro ?_ ?_)
end Go.Proofs.Ytolodncpegajkaa
namespace Go.Proofs.Ytolodncpegajkaa
set_option linter.all false
open Go.RowKit
theorem Lr_smO {fn : Func} (hf : Try.prog.funcs[16]? = some fn) : LoopsGood Try.prog (lt1 e_smO) 0 (codeOf fn) := by
  obtain rfl := fn_is Try.func16 hf
  exact lt1_good lg_smO
def LMm : FuncId → LT := fun f => match f with
  | 16 => lt1 e_smO
  | _ => noL
theorem Gr_mpg {fn : Func} (hf : Try.prog.funcs[18]? = some fn) : RangesGood Try.prog (rt1 10 e_mpg) (codeOf fn) := by
  obtain rfl := fn_is Try.func18 hf
  exact rt1_good (by kernel_rfl) lg_mpg
def GMp : FuncId → RT := fun f => match f with
  | 18 => rt1 10 e_mpg
  | _ => noR
def EMm : Env := withG (mkE TSl2 RSl1 LMm) GMp
theorem EMm_ok : EnvOk Try.prog EMm := withG_ok (mkEOk TSl2_ok RSl1_ok (by
  intro f fn hf
  unfold LMm
  split
  all_goals first | with_reducible exact Lr_smO hf | exact noL_good)) (by
  intro f fn hf
  unfold GMp
  split
  all_goals first | with_reducible exact Gr_mpg hf | exact noR_good)
set_option maxRecDepth 100000 in
theorem tr_sMpF (n : Nat) (xs : List Int) : bodyX Try.prog EMm 30 12 16 [.row n (.ints xs)] = .need ((List.drop (0 : Nat) xs).length = n * (4 : Nat)) (.need (Lim n) (brT (!vsB n (List.drop 0 xs)) (.fin (.slice none (0) (0)) [some ⟨.view, .ints (xs)⟩, some ⟨.row 41 2, .vals []⟩]) (.need ((0 : Int) = (0 : Int)) (.need ((0 : Nat) = (0 : Nat)) (.need (xs.length = n * (4 : Nat)) (.need (n ≤ (12 : Nat)) (.need (vsB n xs = true) (.fin (.slice (some ⟨2, 0, none⟩) ((mpL xs n (offR n 0 n)).length) ((mpL xs n (offR n 0 n)).length)) [some ⟨.view, .ints (xs)⟩, some deadB, some ⟨.row 41 2, .ints (flat (mpL xs n (offR n 0 n)))⟩])))))))) := by kernel_rfl
set_option maxRecDepth 100000 in
theorem tr_iMpF (n : Nat) (xs : List Int) : bodyX Try.prog EMm 30 12 18 [.row n (.ints xs)] = .need ((List.drop (0 : Nat) xs).length = n * (4 : Nat)) (.need (Lim n) (brT (!vsB n (List.drop 0 xs)) (.fin (.slice none (0) (0)) [some ⟨.view, .ints (xs)⟩]) (.need (xs.length = n * (4 : Nat)) (.need (n ≤ (12 : Nat)) (.fin (.slice (some ⟨3, 0, none⟩) ((mpL xs n (offR n 0 n)).length) ((mpL xs n (offR n 0 n)).length)) [some ⟨.view, .ints (xs)⟩, some ⟨.box, .vals [.slice (some ⟨3, 0, none⟩) ((mpL xs n (offR n 0 n)).length) ((mpL xs n (offR n 0 n)).length)]⟩, some ⟨.view, .vals [.slice (some ⟨0, 0, none⟩) (n) (n)]⟩, some ⟨.row 41 2, .ints (flat (mpL xs n (offR n 0 n)))⟩]))))) := by kernel_rfl
/-- The pairs that meet. -/
def mpV (n : Nat) (xs : List Int) : List Pt := bif vsB n xs then mpL xs n (offR n 0 n) else []
abbrev rowPr (ps : List Pt) : Value := .slice (some ⟨0, 0, none⟩) ps.length ps.length
theorem vs_12 {n : Nat} {xs : List Int} (h : vsB n xs = true) : n ≤ 12 := by
  unfold vsB at h
  exact of_decide_eq_true (Bool.and_eq_true_iff.1 h).2
theorem resR_sMp (n : Nat) (xs : List Int) (hx : xs.length = n * 4) (h : Lim n) : ResR Try.prog 16 [.row n (.ints xs)] (rowPr (mpV n xs)) ⟨.row 41 2, .ints (flat (mpV n xs))⟩ := by
  refine bodyX_resR mixed EMm_ok (m := 30) (n := 12) rfl ?_
  rw [tr_sMpF]
  simp only [List.drop_zero]
  unfold mpV
  rcases hv : vsB n xs with _ | _
  · exact ⟨hx, h, none, ⟨rfl, rfl⟩, trivial⟩
  · exact ⟨hx, h, trivial, trivial, hx, vs_12 hv, rfl, some 2, ⟨rfl, rfl, rfl⟩, rfl, rfl, rfl⟩
theorem resR_iMp (n : Nat) (xs : List Int) (hx : xs.length = n * 4) (h : Lim n) : ResR Try.prog 18 [.row n (.ints xs)] (rowPr (mpV n xs)) ⟨.row 41 2, .ints (flat (mpV n xs))⟩ := by
  refine bodyX_resR mixed EMm_ok (m := 30) (n := 12) rfl ?_
  rw [tr_iMpF]
  simp only [List.drop_zero]
  unfold mpV
  rcases hv : vsB n xs with _ | _
  · exact ⟨hx, h, none, ⟨rfl, rfl⟩, trivial⟩
  · exact ⟨hx, h, hx, vs_12 hv, some 3, ⟨rfl, rfl, rfl⟩, rfl, rfl, rfl⟩
theorem mpV_len (n : Nat) (xs : List Int) : (mpV n xs).length ≤ 144 := by
  unfold mpV
  rcases hv : vsB n xs with _ | _
  · exact Nat.zero_le _
  · have h1 := mpL_len xs n (offR n 0 n)
    have h2 := offR_le n n 0
    have h3 := vs_12 hv
    have h4 : n * n ≤ 12 * 12 := Nat.mul_le_mul h3 h3
    simp only [cond_true]
    omega
def RMp : TabR := fun f ds => match f, ds with
  | 16, [.row n (.ints xs)] => some (rowPr (mpV n xs), ⟨.row 41 2, .ints (flat (mpV n xs))⟩, [xs.length = n * 4, Lim n])
  | 18, [.row n (.ints xs)] => some (rowPr (mpV n xs), ⟨.row 41 2, .ints (flat (mpV n xs))⟩, [xs.length = n * 4, Lim n])
  | f, ds => RSl1 f ds
theorem RMp_ok : TabROk Try.prog RMp := by
  intro f ds v b C h hC
  unfold RMp at h
  split at h
  · obtain ⟨rfl, rfl, rfl⟩ : _ ∧ _ ∧ _ := by simpa using h
    exact resR_sMp _ _ hC.1 hC.2.1
  · obtain ⟨rfl, rfl, rfl⟩ : _ ∧ _ ∧ _ := by simpa using h
    exact resR_iMp _ _ hC.1 hC.2.1
  · exact RSl1_ok _ _ _ _ _ h hC
def TMpx : Tab := fun f ds => match f with
  | 23 => pHeldR ds
  | 19 => pEqR ds
  | f => TSl2 f ds
theorem TMpx_ok : TabOk Try.prog TMpx := by
  intro f ds v C h hC
  unfold TMpx at h
  (try split at h)
  all_goals first | with_reducible exact pHeldR_ok h hC | with_reducible exact pEqR_ok h hC | exact TSl2_ok _ _ _ _ h hC
def EMpx : Env := withT (mkE TMpx RMp (fun _ => noL)) JmT
theorem EMpx_ok : EnvOk Try.prog EMpx := withT_ok (mkEOk TMpx_ok RMp_ok (fun _ _ _ => noL_good)) JmT_ok
set_option maxRecDepth 100000 in
theorem tr_exMp (n : Nat) (xs : List Int) : bodyV Try.prog EMpx 30 12 3 [.row n (.ints xs)] = brT (decide (IntKind.i64.wrap (1048576 - (↑n : Int)) < 0)) (.fin (.bool (true)) []) (brT (decide (IntKind.i64.wrap (1048576 - (↑n : Int)) < 0)) (.fin (.bool (true)) []) (.need ((List.drop (0 : Nat) xs).length = n * (4 : Nat)) (.need (Lim n) (.need ((List.drop (0 : Nat) (List.drop (0 : Nat) xs)).length = n * (4 : Nat)) (.need (Lim n) (.need ((List.drop (0 : Nat) xs).length = n * (4 : Nat)) (.need (Lim n) (.need ((List.drop (0 : Nat) (List.drop (0 : Nat) xs)).length = n * (4 : Nat)) (.need (Lim n) (.need ((mpV n (List.drop (0 : Nat) (List.drop (0 : Nat) xs))).length = (mpV n (List.drop (0 : Nat) (List.drop (0 : Nat) xs))).length) (.need (List.drop (0 : Nat) (flat (mpV n (List.drop (0 : Nat) (List.drop (0 : Nat) xs)))) = List.drop (0 : Nat) (flat (mpV n (List.drop (0 : Nat) (List.drop (0 : Nat) xs))))) (.need ((List.drop (0 : Nat) (flat (mpV n (List.drop (0 : Nat) (List.drop (0 : Nat) xs))))).length = (mpV n (List.drop (0 : Nat) (List.drop (0 : Nat) xs))).length * (2 : Nat)) (.need (Lim (mpV n (List.drop (0 : Nat) (List.drop (0 : Nat) xs))).length) (.need ((List.drop (0 : Nat) xs).length = n * (4 : Nat)) (.need (Lim n) (.need (n = n) (.need (List.drop (0 : Nat) (List.drop (0 : Nat) xs) = List.drop (0 : Nat) (List.drop (0 : Nat) xs)) (.need ((List.drop (0 : Nat) (List.drop (0 : Nat) xs)).length = n * (4 : Nat)) (.need (Lim n) (.need ((List.drop (0 : Nat) xs).length = n * (4 : Nat)) (.need (Lim n) (.need ((0 : Int) ≤ (1 : Int) ∧ (1 : Int) ≤ (1000000000 : Int)) (.need ((mpV n (List.drop (0 : Nat) (List.drop (0 : Nat) xs))).length = (mpV n (List.drop (0 : Nat) (List.drop (0 : Nat) xs))).length) (.need (List.drop (0 : Nat) (flat (mpV n (List.drop (0 : Nat) (List.drop (0 : Nat) xs)))) = List.drop (0 : Nat) (flat (mpV n (List.drop (0 : Nat) (List.drop (0 : Nat) xs))))) (.need ((List.drop (0 : Nat) (flat (mpV n (List.drop (0 : Nat) (List.drop (0 : Nat) xs))))).length = (mpV n (List.drop (0 : Nat) (List.drop (0 : Nat) xs))).length * (2 : Nat)) (.need (Lim (mpV n (List.drop (0 : Nat) (List.drop (0 : Nat) xs))).length) (.need ((flat (mpV n (List.drop (0 : Nat) (List.drop (0 : Nat) xs)))).length = (mpV n (List.drop (0 : Nat) (List.drop (0 : Nat) xs))).length * (2 : Nat)) (.need (Lim (mpV n (List.drop (0 : Nat) (List.drop (0 : Nat) xs))).length) (.need ((0 : Int) ≤ (1 : Int) ∧ (1 : Int) ≤ (1000000000 : Int)) (.need (Lim (mpV n (List.drop (0 : Nat) (List.drop (0 : Nat) xs))).length) (.need ((0 : Int) ≤ (1 : Int) ∧ (1 : Int) ≤ (1000000000 : Int)) (.need (List.drop (0 : Nat) (marks (1 : Int) ((mpV n (List.drop (0 : Nat) (List.drop (0 : Nat) xs))).length * (2 : Nat))) = marks (1 : Int) ((mpV n (List.drop (0 : Nat) (List.drop (0 : Nat) xs))).length * (2 : Nat))) (brT (!1 + (↑((mpV n (List.drop 0 (List.drop 0 xs))).length * 2) : Int) == 1 + (↑((mpV n (List.drop 0 (List.drop 0 xs))).length * 2) : Int)) (.fin (.bool (false)) []) (.need ((List.drop (0 : Nat) xs).length = n * (4 : Nat)) (.need (Lim n) (.need ((List.drop (0 : Nat) (List.drop (0 : Nat) xs)).length = n * (4 : Nat)) (.need (Lim n) (.need ((mpV n (List.drop (0 : Nat) (List.drop (0 : Nat) xs))).length = (mpV n (List.drop (0 : Nat) (List.drop (0 : Nat) xs))).length) (.need (List.drop (0 : Nat) (flat (mpV n (List.drop (0 : Nat) (List.drop (0 : Nat) xs)))) = List.drop (0 : Nat) (flat (mpV n (List.drop (0 : Nat) (List.drop (0 : Nat) xs))))) (.need ((List.drop (0 : Nat) (flat (mpV n (List.drop (0 : Nat) (List.drop (0 : Nat) xs))))).length = (mpV n (List.drop (0 : Nat) (List.drop (0 : Nat) xs))).length * (2 : Nat)) (.need (Lim (mpV n (List.drop (0 : Nat) (List.drop (0 : Nat) xs))).length) (.need (Lim (mpV n (List.drop (0 : Nat) (List.drop (0 : Nat) xs))).length) (.need ((0 : Int) ≤ (1 : Int) ∧ (1 : Int) ≤ (1000000000 : Int)) (.need (List.drop (0 : Nat) (marks (1 : Int) ((mpV n (List.drop (0 : Nat) (List.drop (0 : Nat) xs))).length * (2 : Nat))) = marks (1 : Int) ((mpV n (List.drop (0 : Nat) (List.drop (0 : Nat) xs))).length * (2 : Nat))) (brT (!1 + (↑((mpV n (List.drop 0 (List.drop 0 xs))).length * 2) : Int) == 1 + (↑((mpV n (List.drop 0 (List.drop 0 xs))).length * 2) : Int)) (.fin (.bool (false)) []) (.fin (.bool (true)) [])))))))))))))))))))))))))))))))))))))))))))))) := by kernel_rfl
theorem ExactMeetingPairs_res (n : Nat) (xs : List Int) (hx : xs.length = n * 4) (h : (n : Int) ≤ 9223372036854775807) : Res Try.prog 3 [.row n (.ints xs)] (.bool true) := by
  refine bodyV_res mixed EMpx_ok (m := 30) (n := 12) rfl ?_
  rw [tr_exMp]
  simp only [List.drop_zero]
  by_cases hl : (1048576 : Int) - n < 0
  · simp (disch := omega) only [wr]
    simp only [hl, decide_true, brT_t, Tree.ok]
  · have hP : Lim n := by unfold Lim; omega
    have hV := mpV_len n xs
    have hL : Lim (mpV n xs).length := Nat.le_trans hV (by decide)
    have fl := flat_length (mpV n xs)
    generalize mpV n xs = V at *
    have k1 : decide ((1 : Int) + (V.length * 2 : Nat) < 0) = false := decide_eq_false (by omega)
    have k2 : decide ((1 : Int) + (n * 4 : Nat) < 0) = false := decide_eq_false (by omega)
    simp (disch := omega) only [wr]
    simp only [hl, decide_false, brT_f, Tree.ok, beq_self_eq_true, Bool.not_true, k1, k2]
    repeat' (first | exact True.intro | assumption | omega | exact rfl | refine And.intro ?_ ?_)
end Go.Proofs.Ytolodncpegajkaa
