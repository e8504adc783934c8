/-
  Texts that the proof needs, merged. Written by an AI agent.
-/
import Derived.Orders
import Derived.Below
import Derived.OrdersIn
import Derived.Deep.LoopGhost
import Derived.WalkKit
import Derived.Laws.CopyRow
import Derived.Laws.AppendOwn
import Derived.Laws.Slices
import Derived.Laws.MakeOwn
import Derived.Test.YtolodncpegajkaaRows
import Derived.ProofKit
import Derived.OpenShut
import Derived.Carry
import Derived.IntWalk
import Derived.Test.YtolodncpegajkaaProg
import Derived.WalkSpells
import Derived.WalkLawsBesides
import Derived.Lib.Hide
import Derived.Deep.QuietTactic
import Derived.BigQuiet
import Derived.KernelRfl
import Derived.Deep.RegionHeld3
import Derived.LoopTactic
import Derived.Laws.StructEq
import Derived.Laws.Tables
import Derived.RangeFuncNested
import Derived.RangeFuncLeaves
import Derived.Deep.Slices
import Derived.Deep.Fields
import Derived.ChangeSame
import Derived.Deep.DeepCutAuto
import Derived.Test.YtolodncpegajkaaZMeetingPairs6
namespace Go.Proofs.Ytolodncpegajkaa
set_option linter.all false
open Go.RowKit
theorem vs_seg {n : Nat} {xs : List Int} (h : vsB n xs = true) {j : Nat} (hj : j < n) : slQ xs j = true := by
  unfold vsB at h
  exact allQ_get _ _ (Bool.and_eq_true_iff.1 h).1 j (Nat.zero_le _) (by omega)
theorem slQ_pt {xs : List Int} {j : Nat} (h : slQ xs j = true) : ptB (xs.getD (j * 4) 0) (xs.getD (j * 4 + 1) 0) = true ∧ ptB (xs.getD (j * 4 + 2) 0) (xs.getD (j * 4 + 3) 0) = true := segB_pt h
theorem rl4_A {n : Nat} {xs : List Int} (h : vsB n xs = true) {i k : Nat} (hi : i < n) (hk : k < n) : rl4V xs i k = relA (xs.getD (i * 4) 0) (xs.getD (i * 4 + 1) 0) (xs.getD (i * 4 + 2) 0) (xs.getD (i * 4 + 3) 0) (xs.getD (k * 4) 0) (xs.getD (k * 4 + 1) 0) (xs.getD (k * 4 + 2) 0) (xs.getD (k * 4 + 3) 0) := by
  have h1 := vs_seg h hi
  have h2 := vs_seg h hk
  unfold slQ at h1 h2
  unfold rl4V relV
  rw [h1, h2]
  rfl
def ESl2 : Env := mkE TSl2 RSl1 (fun _ => noL)
theorem ESl2_ok : EnvOk Try.prog ESl2 := mkEOk TSl2_ok RSl1_ok (fun _ _ _ => noL_good)
noncomputable def c_smI : Code := ((loopsOf (codeOf Try.f16))[1]?).getD .skip
def k_smI : Ex → List Nat := keeps [0, 3, 4, 5] [(2, [0, 3, 4]), (1, [0, 3, 4]), (0, [3])] [2]
def s_smI (xs : List Int) (n i : Nat) : Nat → St := fun j => ⟨(.slice (some ⟨0, 0, none⟩) n n :: topV :: topV :: .slice (some ⟨3, 0, none⟩) (mpL xs n (offR n 0 i + j)).length (mpL xs n (offR n 0 i + j)).length :: .int .i64 i :: .int .i64 (i + 1 + j : Nat) :: topV :: topV :: topV :: topV :: topV :: topV :: topV :: topV :: topV :: topV :: topV :: topV :: topV :: topV :: topV :: topV :: topV :: topV :: topV :: topV :: topV :: topV :: topV :: topV :: topV :: topV :: topV :: topV :: topV :: topV :: topV :: topV :: topV :: topV :: topV :: []), [some ⟨.view, .ints xs⟩, some ⟨.dead, .vals []⟩, some ⟨.dead, .vals []⟩, some ⟨.row 41 2, .ints (flat (mpL xs n (offR n 0 i + j)))⟩]⟩
def re_smI : Nat → Ex := fun _ => .exit 2
def rs_smI (xs : List Int) (n i : Nat) : Nat → St := fun j => ⟨(.slice (some ⟨0, 0, none⟩) n n :: topV :: topV :: .slice (some ⟨3, 0, none⟩) (mpL xs n (offR n 0 (i + 1))).length (mpL xs n (offR n 0 (i + 1))).length :: .int .i64 i :: topV :: topV :: topV :: topV :: topV :: topV :: topV :: topV :: topV :: topV :: topV :: topV :: topV :: topV :: topV :: topV :: topV :: topV :: topV :: topV :: topV :: topV :: topV :: topV :: topV :: topV :: topV :: topV :: topV :: topV :: topV :: topV :: topV :: topV :: topV :: topV :: []), [some ⟨.view, .ints xs⟩, some ⟨.dead, .vals []⟩, some ⟨.dead, .vals []⟩, some ⟨.row 41 2, .ints (flat (mpL xs n (offR n 0 (i + 1))))⟩]⟩
set_option maxRecDepth 100000 in
theorem tr_smI (xs : List Int) (n i : Nat) (j : Nat) : bodyL Try.prog ESl2 30 12 noL 2 c_smI k_smI 16 (s_smI xs n i j) = brT (decide ((↑(i + 1 + j) : Int) < (↑n : Int))) (.need (ptB (xs.getD ((0 : Nat) + (↑i : Int).toNat * (4 : Nat)) (0 : Int)) (xs.getD ((0 : Nat) + (↑i : Int).toNat * (4 : Nat) + (1 : Nat)) (0 : Int)) = true) (.need (ptB (xs.getD ((0 : Nat) + (↑i : Int).toNat * (4 : Nat) + (1 : Nat) + (1 : Nat)) (0 : Int)) (xs.getD ((0 : Nat) + (↑i : Int).toNat * (4 : Nat) + (1 : Nat) + (1 : Nat) + (1 : Nat)) (0 : Int)) = true) (.need (ptB (xs.getD ((0 : Nat) + (↑(i + (1 : Nat) + j) : Int).toNat * (4 : Nat)) (0 : Int)) (xs.getD ((0 : Nat) + (↑(i + (1 : Nat) + j) : Int).toNat * (4 : Nat) + (1 : Nat)) (0 : Int)) = true) (.need (ptB (xs.getD ((0 : Nat) + (↑(i + (1 : Nat) + j) : Int).toNat * (4 : Nat) + (1 : Nat) + (1 : Nat)) (0 : Int)) (xs.getD ((0 : Nat) + (↑(i + (1 : Nat) + j) : Int).toNat * (4 : Nat) + (1 : Nat) + (1 : Nat) + (1 : Nat)) (0 : Int)) = true) (.need ((0 : Int) ≤ (↑i : Int) ∧ (↑i : Int) < (↑n : Int)) (.need ((0 : Nat) + (↑i : Int).toNat * (4 : Nat) + (4 : Nat) ≤ xs.length) (.need ((0 : Int) ≤ (↑(i + (1 : Nat) + j) : Int) ∧ (↑(i + (1 : Nat) + j) : Int) < (↑n : Int)) (.need ((0 : Nat) + (↑(i + (1 : Nat) + j) : Int).toNat * (4 : Nat) + (4 : Nat) ≤ xs.length) (brT (!relA (xs.getD (0 + (↑i : Int).toNat * 4) 0) (xs.getD (0 + (↑i : Int).toNat * 4 + 1) 0) (xs.getD (0 + (↑i : Int).toNat * 4 + 1 + 1) 0) (xs.getD (0 + (↑i : Int).toNat * 4 + 1 + 1 + 1) 0) (xs.getD (0 + (↑(i + 1 + j) : Int).toNat * 4) 0) (xs.getD (0 + (↑(i + 1 + j) : Int).toNat * 4 + 1) 0) (xs.getD (0 + (↑(i + 1 + j) : Int).toNat * 4 + 1 + 1) 0) (xs.getD (0 + (↑(i + 1 + j) : Int).toNat * 4 + 1 + 1 + 1) 0) == 0) (.need (((mpL xs n (offR n (0 : Nat) i + j)).length + (1 : Nat)) * (16 : Nat) ≤ (140737488355328 : Nat) ∧ (mpL xs n (offR n (0 : Nat) i + j)).length + (1 : Nat) ≤ (1000000 : Nat)) (.need ((0 : Nat) + (mpL xs n (offR n (0 : Nat) i + j)).length * (2 : Nat) ≤ (flat (mpL xs n (offR n (0 : Nat) i + j))).length) (.leaf .normal ⟨(.slice (some ⟨0, 0, none⟩) (n) (n) :: topV :: topV :: .slice (some ⟨6, 0, none⟩) ((mpL xs n (offR n 0 i + j)).length + 1) ((mpL xs n (offR n 0 i + j)).length + 1) :: .int .i64 ((↑i : Int)) :: .int .i64 (IntKind.i64.wrap ((↑(i + 1 + j) : Int) + 1)) :: topV :: topV :: topV :: topV :: topV :: topV :: topV :: topV :: topV :: topV :: topV :: topV :: topV :: topV :: topV :: topV :: topV :: topV :: topV :: topV :: topV :: topV :: topV :: topV :: topV :: topV :: topV :: topV :: topV :: topV :: topV :: topV :: topV :: topV :: topV :: []), [some ⟨.view, .ints (xs)⟩, some deadB, some deadB, some deadB, none, some ⟨.row 41 2, .vals [.int .i64 ((↑i : Int)), .int .i64 ((↑(i + 1 + j) : Int))]⟩, some ⟨.row 41 2, .ints (List.take ((mpL xs n (offR n 0 i + j)).length * 2) (List.drop 0 (flat (mpL xs n (offR n 0 i + j)))) ++ [(↑i : Int), (↑(i + 1 + j) : Int)])⟩]⟩))) (.leaf .normal ⟨(.slice (some ⟨0, 0, none⟩) (n) (n) :: topV :: topV :: .slice (some ⟨3, 0, none⟩) ((mpL xs n (offR n 0 i + j)).length) ((mpL xs n (offR n 0 i + j)).length) :: .int .i64 ((↑i : Int)) :: .int .i64 (IntKind.i64.wrap ((↑(i + 1 + j) : Int) + 1)) :: topV :: topV :: topV :: topV :: topV :: topV :: topV :: topV :: topV :: topV :: topV :: topV :: topV :: topV :: topV :: topV :: topV :: topV :: topV :: topV :: topV :: topV :: topV :: topV :: topV :: topV :: topV :: topV :: topV :: topV :: topV :: topV :: topV :: topV :: topV :: []), [some ⟨.view, .ints (xs)⟩, some deadB, some deadB, some ⟨.row 41 2, .ints (flat (mpL xs n (offR n 0 i + j)))⟩, none]⟩)))))))))) (.leaf (.exit 2) ⟨(.slice (some ⟨0, 0, none⟩) (n) (n) :: topV :: topV :: .slice (some ⟨3, 0, none⟩) ((mpL xs n (offR n 0 i + j)).length) ((mpL xs n (offR n 0 i + j)).length) :: .int .i64 ((↑i : Int)) :: topV :: topV :: topV :: topV :: topV :: topV :: topV :: topV :: topV :: topV :: topV :: topV :: topV :: topV :: topV :: topV :: topV :: topV :: topV :: topV :: topV :: topV :: topV :: topV :: topV :: topV :: topV :: topV :: topV :: topV :: topV :: topV :: topV :: topV :: topV :: topV :: []), [some ⟨.view, .ints (xs)⟩, some deadB, some deadB, some ⟨.row 41 2, .ints (flat (mpL xs n (offR n 0 i + j)))⟩]⟩) := by kernel_rfl
set_option maxRecDepth 100000 in
theorem nl_smI : loopsOf c_smI = [] := by kernel_rfl
def inv_smI (xs : List Int) (n i : Nat) : Nat → Prop := fun j => i + 1 + j ≤ n
def me_smI (xs : List Int) (n i : Nat) : Nat → Nat := fun j => n - (i + 1 + j)
/-- A round of this loop. -/
def Round_smI (xs : List Int) (n i : Nat) : Prop := ∀ xx : Nat, inv_smI xs n i xx → (bodyL Try.prog ESl2 30 12 noL 2 c_smI k_smI 16 (s_smI xs n i xx)).ok (RoundEnd 3 (s_smI xs n i) (inv_smI xs n i) (me_smI xs n i) re_smI (rs_smI xs n i) xx) (fun _ _ => False)
def e_smI (s : St) (k : Ex → St → Tree) : Option Tree := match Nat.beq s.tmps.length 41, pickL s.tmps [0, 3, 4, 5], s.mem with
  | true, [.slice (some ⟨0, 0, none⟩) n _, .slice (some ⟨2, 0, none⟩) m _, .int .i64 ii, .int .i64 kk], [some ⟨.view, .ints xs⟩, some ⟨.dead, .vals []⟩, some ⟨.row 41 2, .ints ys⟩] => some (needs [0 ≤ ii, kk = ii + 1, xs.length = n * 4, n ≤ 12, vsB n xs = true, ii < n, ys = flat (mpL xs n (offR n 0 ii.toNat)), m = (mpL xs n (offR n 0 ii.toNat)).length] (k (.exit 2) ⟨(.slice (some ⟨0, 0, none⟩) n n :: topV :: topV :: .slice (some ⟨3, 0, none⟩) (mpL xs n (offR n 0 (ii.toNat + 1))).length (mpL xs n (offR n 0 (ii.toNat + 1))).length :: .int .i64 ii :: topV :: topV :: topV :: topV :: topV :: topV :: topV :: topV :: topV :: topV :: topV :: topV :: topV :: topV :: topV :: topV :: topV :: topV :: topV :: topV :: topV :: topV :: topV :: topV :: topV :: topV :: topV :: topV :: topV :: topV :: topV :: topV :: topV :: topV :: topV :: topV :: []), [some ⟨.view, .ints xs⟩, some ⟨.dead, .vals []⟩, some ⟨.dead, .vals []⟩, some ⟨.row 41 2, .ints (flat (mpL xs n (offR n 0 (ii.toNat + 1))))⟩]⟩))
  | _, _, _ => none
set_option maxRecDepth 100000 in
theorem round_smI (xs : List Int) (n i : Nat) (hx : xs.length = n * 4) (h : n ≤ 12) (hv : vsB n xs = true) (hi : i < n) : Round_smI xs n i := by
  intro j h1
  have h1 : i + 1 + j ≤ n := h1
  rw [tr_smI]
  have hl := mpL_len xs n (offR n 0 i + j)
  have hb := offR_le n n 0
  have hm := offR_mono n (show i ≤ n by omega)
  have hnn : n * n ≤ 12 * 12 := Nat.mul_le_mul h h
  have fl := flat_length (mpL xs n (offR n 0 i + j))
  have fk : List.take ((mpL xs n (offR n 0 i + j)).length * 2) (List.drop 0 (flat (mpL xs n (offR n 0 i + j)))) = flat (mpL xs n (offR n 0 i + j)) := by rw [List.drop_zero]; exact List.take_of_length_le (by omega)
  simp only [Int.toNat_natCast, Nat.zero_add, fk]
  refine brT_ok.2 ⟨fun hlt => ?_, fun hge => ?_⟩
  · have hlt : i + 1 + j < n := by have := of_decide_eq_true hlt; omega
    have ep : prA n (offR n 0 i + j) = (i, i + 1 + j) := by
      have := prA_at (n := n) (a := i) (b := i + 1 + j) (by omega) hlt
      rwa [show i + 1 + j - i - 1 = j by omega] at this
    have ol : offR n 0 i + j < offR n 0 n := by
      have := off_lt (n := n) (a := i) (b := i + 1 + j) (by omega) hlt
      rwa [show i + 1 + j - i - 1 = j by omega] at this
    have eq : mpQ xs n (offR n 0 i + j) = !(relA (xs.getD (i * 4) 0) (xs.getD (i * 4 + 1) 0) (xs.getD (i * 4 + 2) 0) (xs.getD (i * 4 + 3) 0) (xs.getD ((i + 1 + j) * 4) 0) (xs.getD ((i + 1 + j) * 4 + 1) 0) (xs.getD ((i + 1 + j) * 4 + 2) 0) (xs.getD ((i + 1 + j) * 4 + 3) 0) == 0) := by
      unfold mpQ
      rw [ep, rl4_A hv hi hlt]
    have sn : flat (mpL xs n (offR n 0 i + j)) ++ [((i : Nat) : Int), ((i + 1 + j : Nat) : Int)] = flat (mpL xs n (offR n 0 i + j) ++ [prP n (offR n 0 i + j)]) := by rw [flat_snoc, prP, ep]
    obtain ⟨p1, p2⟩ := slQ_pt (vs_seg hv hi)
    obtain ⟨p3, p4⟩ := slQ_pt (vs_seg hv hlt)
    rw [wsucc (n := n) hlt (by omega), sn]
    refine ⟨p1, p2, p3, p4, ⟨by omega, by omega⟩, by omega, ⟨by omega, by omega⟩, by omega, brT_ok.2 ⟨fun c => ?_, fun c => ?_⟩⟩
    · have e : mpL xs n (offR n 0 i + (j + 1)) = mpL xs n (offR n 0 i + j) ++ [prP n (offR n 0 i + j)] := by
        show mpL xs n (offR n 0 i + j + 1) = _
        have c : mpQ xs n (offR n 0 i + j) = true := eq.trans c
        simp only [mpL, c, cond_true]
      refine ⟨by omega, by omega, j + 1, [some 6], ?_, ?_, rfl, rfl, ?_⟩
      · show i + 1 + (j + 1) ≤ n; omega
      · show n - (i + 1 + (j + 1)) < n - (i + 1 + j); omega
      · unfold s_smI
        rw [e]
        repeat' (first | exact True.intro | exact rfl | exact fun _ => rfl | (simp; done) | refine And.intro ?_ ?_)
    · have e : mpL xs n (offR n 0 i + (j + 1)) = mpL xs n (offR n 0 i + j) := by
        show mpL xs n (offR n 0 i + j + 1) = _
        have c : mpQ xs n (offR n 0 i + j) = false := eq.trans c
        simp only [mpL, c, cond_false]
      refine ⟨j + 1, [some 3], ?_, ?_, rfl, rfl, ?_⟩
      · show i + 1 + (j + 1) ≤ n; omega
      · show n - (i + 1 + (j + 1)) < n - (i + 1 + j); omega
      · unfold s_smI
        rw [e]
        repeat' (first | exact True.intro | exact rfl | exact fun _ => rfl | (simp; done) | refine And.intro ?_ ?_)
  · have hge := of_decide_eq_false hge
    have e : offR n 0 (i + 1) = offR n 0 i + j := by
      rw [offR_succ]
      omega
    refine ⟨rfl, [some 3], ?_⟩
    unfold rs_smI
    rw [e]
    repeat' (first | exact True.intro | exact rfl | exact fun _ => rfl | (simp; done) | refine And.intro ?_ ?_)
set_option maxRecDepth 100000 in
theorem lg_smI : LoopE Try.prog e_smI c_smI := by
  intro s k t F H hlt ht
  unfold e_smI at hlt
  split at hlt
  rotate_left
  · cases hlt
  rename_i hlen hpick hmem
  obtain ⟨tmps, mem⟩ := s
  simp only at hlen hpick hmem
  subst hmem
  obtain rfl := Option.some.inj hlt
  obtain ⟨⟨h0, h1, h2, h3, h4, h5, h6, h7, _⟩, ht2⟩ := needs_ok ht
  clear ht hlt
  subst h6 h7
  obtain ⟨i, rfl⟩ := Int.eq_ofNat_of_zero_le h0
  simp only [Int.toNat_natCast] at ht2
  obtain rfl := h1
  refine ⟨_, _, ht2, loop_run2 mixed ESl2_ok (s_smI _ _ i) (inv_smI _ _ i) (me_smI _ _ i) re_smI (rs_smI _ _ i) k_smI (fun _ => rfl) (noLoops nl_smI) (round_smI _ _ i h2 h3 h4 (by omega)) (x := 0) (by show i + 1 + 0 ≤ _; omega) (π := [some 2]) rfl ?_⟩
  refine ⟨rfl, rfl, ?_, wvs_spread' [0, 3, 4, 5] hlen rfl ?_⟩
  · repeat' (first | exact True.intro | exact rfl | exact wv_top _ _ | exact fun _ => rfl | assumption | exact Eq.symm (by assumption) | exact vI0 rfl | refine And.intro ?_ ?_)
  · rw [hpick]
    repeat' (first | exact True.intro | exact rfl | exact wv_top _ _ | exact fun _ => rfl | assumption | exact Eq.symm (by assumption) | exact vI0 rfl | refine And.intro ?_ ?_)
def ltSm : LT := fun j s k => match j with
  | 1 => e_smI s k
  | _ => none
noncomputable def c_smO : Code := ((loopsOf (codeOf Try.f16))[0]?).getD .skip
def k_smO : Ex → List Nat := keeps [0, 3, 4] [(0, [3])] [2]
def s_smO (xs : List Int) (n : Nat) : Nat → St := fun i => ⟨(.slice (some ⟨0, 0, none⟩) n n :: topV :: topV :: .slice (some ⟨2, 0, none⟩) (mpL xs n (offR n 0 i)).length (mpL xs n (offR n 0 i)).length :: .int .i64 i :: topV :: topV :: topV :: topV :: topV :: topV :: topV :: topV :: topV :: topV :: topV :: topV :: topV :: topV :: topV :: topV :: topV :: topV :: topV :: topV :: topV :: topV :: topV :: topV :: topV :: topV :: topV :: topV :: topV :: topV :: topV :: topV :: topV :: topV :: topV :: topV :: []), [some ⟨.view, .ints xs⟩, some ⟨.dead, .vals []⟩, some ⟨.row 41 2, .ints (flat (mpL xs n (offR n 0 i)))⟩]⟩
def re_smO : Nat → Ex := fun _ => .exit 0
def rs_smO (xs : List Int) (n : Nat) : Nat → St := fun i => ⟨(topV :: topV :: topV :: .slice (some ⟨2, 0, none⟩) (mpL xs n (offR n 0 n)).length (mpL xs n (offR n 0 n)).length :: topV :: topV :: topV :: topV :: topV :: topV :: topV :: topV :: topV :: topV :: topV :: topV :: topV :: topV :: topV :: topV :: topV :: topV :: topV :: topV :: topV :: topV :: topV :: topV :: topV :: topV :: topV :: topV :: topV :: topV :: topV :: topV :: topV :: topV :: topV :: topV :: topV :: []), [some ⟨.view, .ints xs⟩, some ⟨.dead, .vals []⟩, some ⟨.row 41 2, .ints (flat (mpL xs n (offR n 0 n)))⟩]⟩
set_option maxRecDepth 100000 in
theorem tr_smO (xs : List Int) (n : Nat) (i : Nat) : bodyL Try.prog ESl2 30 12 ltSm 1 c_smO k_smO 16 (s_smO xs n i) = brT (decide ((↑i : Int) < (↑n : Int))) (.need ((0 : Int) ≤ (↑i : Int)) (.need (IntKind.i64.wrap ((↑i : Int) + (1 : Int)) = (↑i : Int) + (1 : Int)) (.need (xs.length = n * (4 : Nat)) (.need (n ≤ (12 : Nat)) (.need (vsB n xs = true) (.need ((↑i : Int) < (↑n : Int)) (.need (flat (mpL xs n (offR n (0 : Nat) i)) = flat (mpL xs n (offR n (0 : Nat) (↑i : Int).toNat))) (.need ((mpL xs n (offR n (0 : Nat) i)).length = (mpL xs n (offR n (0 : Nat) (↑i : Int).toNat)).length) (.leaf .normal ⟨(.slice (some ⟨0, 0, none⟩) (n) (n) :: topV :: topV :: .slice (some ⟨3, 0, none⟩) ((mpL xs n (offR n 0 ((↑i : Int).toNat + 1))).length) ((mpL xs n (offR n 0 ((↑i : Int).toNat + 1))).length) :: .int .i64 (IntKind.i64.wrap ((↑i : Int) + 1)) :: topV :: topV :: topV :: topV :: topV :: topV :: topV :: topV :: topV :: topV :: topV :: topV :: topV :: topV :: topV :: topV :: topV :: topV :: topV :: topV :: topV :: topV :: topV :: topV :: topV :: topV :: topV :: topV :: topV :: topV :: topV :: topV :: topV :: topV :: topV :: topV :: []), [some ⟨.view, .ints (xs)⟩, some deadB, some deadB, some ⟨.row 41 2, .ints (flat (mpL xs n (offR n 0 ((↑i : Int).toNat + 1))))⟩]⟩))))))))) (.leaf (.exit 0) ⟨(topV :: topV :: topV :: .slice (some ⟨2, 0, none⟩) ((mpL xs n (offR n 0 i)).length) ((mpL xs n (offR n 0 i)).length) :: topV :: topV :: topV :: topV :: topV :: topV :: topV :: topV :: topV :: topV :: topV :: topV :: topV :: topV :: topV :: topV :: topV :: topV :: topV :: topV :: topV :: topV :: topV :: topV :: topV :: topV :: topV :: topV :: topV :: topV :: topV :: topV :: topV :: topV :: topV :: topV :: topV :: []), [some ⟨.view, .ints (xs)⟩, some deadB, some ⟨.row 41 2, .ints (flat (mpL xs n (offR n 0 i)))⟩]⟩) := by kernel_rfl
def inv_smO (xs : List Int) (n : Nat) : Nat → Prop := fun i => i ≤ n
def me_smO (xs : List Int) (n : Nat) : Nat → Nat := fun i => n - i
/-- A round of this loop. -/
def Round_smO (xs : List Int) (n : Nat) : Prop := ∀ xx : Nat, inv_smO xs n xx → (bodyL Try.prog ESl2 30 12 ltSm 1 c_smO k_smO 16 (s_smO xs n xx)).ok (RoundEnd 2 (s_smO xs n) (inv_smO xs n) (me_smO xs n) re_smO (rs_smO xs n) xx) (fun _ _ => False)
def e_smO (s : St) (k : Ex → St → Tree) : Option Tree := match Nat.beq s.tmps.length 41, pickL s.tmps [0, 3, 4], s.mem with
  | true, [.slice (some ⟨0, 0, none⟩) n _, .slice (some ⟨1, 0, none⟩) z _, .int .i64 ii], [some ⟨.view, .ints xs⟩, some ⟨.row 41 2, .vals []⟩] => some (needs [ii = 0, z = 0, xs.length = n * 4, n ≤ 12, vsB n xs = true] (k (.exit 0) ⟨(topV :: topV :: topV :: .slice (some ⟨2, 0, none⟩) (mpL xs n (offR n 0 n)).length (mpL xs n (offR n 0 n)).length :: topV :: topV :: topV :: topV :: topV :: topV :: topV :: topV :: topV :: topV :: topV :: topV :: topV :: topV :: topV :: topV :: topV :: topV :: topV :: topV :: topV :: topV :: topV :: topV :: topV :: topV :: topV :: topV :: topV :: topV :: topV :: topV :: topV :: topV :: topV :: topV :: topV :: []), [some ⟨.view, .ints xs⟩, some ⟨.dead, .vals []⟩, some ⟨.row 41 2, .ints (flat (mpL xs n (offR n 0 n)))⟩]⟩))
  | _, _, _ => none
set_option maxRecDepth 100000 in
theorem in_smO : loopsOf c_smO = [c_smI] := by kernel_rfl
theorem ltSm_good : LoopsGood Try.prog ltSm 1 c_smO := by
  intro i d hd s k t F H hlt ht
  rw [in_smO] at hd
  cases i with
  | zero =>
    obtain rfl : c_smI = d := by simpa using hd
    exact lg_smI s k t F H hlt ht
  | succ i => simp at hd
set_option maxRecDepth 100000 in
theorem round_smO (xs : List Int) (n : Nat) (hx : xs.length = n * 4) (h : n ≤ 12) (hv : vsB n xs = true) : Round_smO xs n := by
  intro i h1
  have h1 : i ≤ n := h1
  rw [tr_smO]
  refine brT_ok.2 ⟨fun hlt => ?_, fun hge => ?_⟩
  · have hlt : i < n := by have := of_decide_eq_true hlt; omega
    have w : IntKind.i64.wrap ((i : Int) + 1) = ((i + 1 : Nat) : Int) := wsucc (n := n) hlt (by omega)
    rw [w]
    refine ⟨by omega, by omega, hx, h, hv, by omega, rfl, rfl, i + 1, [some 3], ?_, ?_, rfl, rfl, ?_⟩
    · show i + 1 ≤ n; omega
    · show n - (i + 1) < n - i; omega
    · unfold s_smO
      repeat' (first | exact True.intro | exact rfl | exact fun _ => rfl | (simp; done) | refine And.intro ?_ ?_)
  · have hge := of_decide_eq_false hge
    obtain rfl : i = n := by omega
    refine ⟨rfl, [some 2], ?_⟩
    unfold rs_smO
    repeat' (first | exact True.intro | exact rfl | exact fun _ => rfl | (simp; done) | refine And.intro ?_ ?_)
set_option maxRecDepth 100000 in
theorem lg_smO : LoopE Try.prog e_smO c_smO := by
  intro s k t F H hlt ht
  unfold e_smO at hlt
  split at hlt
  rotate_left
  · cases hlt
  rename_i hlen hpick hmem
  obtain ⟨tmps, mem⟩ := s
  simp only at hlen hpick hmem
  subst hmem
  obtain rfl := Option.some.inj hlt
  obtain ⟨⟨rfl, rfl, h2, h3, h4, _⟩, ht2⟩ := needs_ok ht
  clear ht hlt
  refine ⟨_, _, ht2, loop_run2 mixed ESl2_ok (s_smO _ _) (inv_smO _ _) (me_smO _ _) re_smO (rs_smO _ _) k_smO (fun _ => rfl) ltSm_good (round_smO _ _ h2 h3 h4) (x := 0) (Nat.zero_le _) (π := [some 1]) rfl ?_⟩
  refine ⟨rfl, rfl, ?_, wvs_spread' [0, 3, 4] hlen rfl ?_⟩
  · repeat' (first | exact True.intro | exact rfl | exact wv_top _ _ | exact fun _ => rfl | assumption | exact Eq.symm (by assumption) | exact vI0 rfl | refine And.intro ?_ ?_)
  · rw [hpick]
    repeat' (first | exact True.intro | exact rfl | exact wv_top _ _ | exact fun _ => rfl | assumption | exact Eq.symm (by assumption) | exact vI0 rfl | refine And.intro ?_ ?_)
end Go.Proofs.Ytolodncpegajkaa
namespace Go.Proofs.Ytolodncpegajkaa
set_option linter.all false
open Go.RowKit
theorem Lr_smO {fn : Func} (hf : Try.prog.funcs[16]? = some fn) : LoopsGood Try.prog (lt1 e_smO) 0 (codeOf fn) := by
  obtain rfl := fn_is Try.func16 hf
  exact lt1_good lg_smO
def LMm : FuncId → LT := fun f => match f with
  | 16 => lt1 e_smO
  | _ => noL
theorem Gr_mpg {fn : Func} (hf : Try.prog.funcs[18]? = some fn) : RangesGood Try.prog (rt1 10 e_mpg) (codeOf fn) := by
  obtain rfl := fn_is Try.func18 hf
  exact rt1_good (by kernel_rfl) lg_mpg
def GMp : FuncId → RT := fun f => match f with
  | 18 => rt1 10 e_mpg
  | _ => noR
def EMm : Env := withG (mkE TSl2 RSl1 LMm) GMp
theorem EMm_ok : EnvOk Try.prog EMm := withG_ok (mkEOk TSl2_ok RSl1_ok (by
  intro f fn hf
  unfold LMm
  split
  all_goals first | with_reducible exact Lr_smO hf | exact noL_good)) (by
  intro f fn hf
  unfold GMp
  split
  all_goals first | with_reducible exact Gr_mpg hf | exact noR_good)
set_option maxRecDepth 100000 in
theorem tr_sMpF (n : Nat) (xs : List Int) : bodyX Try.prog EMm 30 12 16 [.row n (.ints xs)] = .need ((List.drop (0 : Nat) xs).length = n * (4 : Nat)) (.need (Lim n) (brT (!vsB n (List.drop 0 xs)) (.fin (.slice none (0) (0)) [some ⟨.view, .ints (xs)⟩, some ⟨.row 41 2, .vals []⟩]) (.need ((0 : Int) = (0 : Int)) (.need ((0 : Nat) = (0 : Nat)) (.need (xs.length = n * (4 : Nat)) (.need (n ≤ (12 : Nat)) (.need (vsB n xs = true) (.fin (.slice (some ⟨2, 0, none⟩) ((mpL xs n (offR n 0 n)).length) ((mpL xs n (offR n 0 n)).length)) [some ⟨.view, .ints (xs)⟩, some deadB, some ⟨.row 41 2, .ints (flat (mpL xs n (offR n 0 n)))⟩])))))))) := by kernel_rfl
set_option maxRecDepth 100000 in
theorem tr_iMpF (n : Nat) (xs : List Int) : bodyX Try.prog EMm 30 12 18 [.row n (.ints xs)] = .need ((List.drop (0 : Nat) xs).length = n * (4 : Nat)) (.need (Lim n) (brT (!vsB n (List.drop 0 xs)) (.fin (.slice none (0) (0)) [some ⟨.view, .ints (xs)⟩]) (.need (xs.length = n * (4 : Nat)) (.need (n ≤ (12 : Nat)) (.fin (.slice (some ⟨3, 0, none⟩) ((mpL xs n (offR n 0 n)).length) ((mpL xs n (offR n 0 n)).length)) [some ⟨.view, .ints (xs)⟩, some ⟨.box, .vals [.slice (some ⟨3, 0, none⟩) ((mpL xs n (offR n 0 n)).length) ((mpL xs n (offR n 0 n)).length)]⟩, some ⟨.view, .vals [.slice (some ⟨0, 0, none⟩) (n) (n)]⟩, some ⟨.row 41 2, .ints (flat (mpL xs n (offR n 0 n)))⟩]))))) := by kernel_rfl
/-- The pairs that meet. -/
def mpV (n : Nat) (xs : List Int) : List Pt := bif vsB n xs then mpL xs n (offR n 0 n) else []
abbrev rowPr (ps : List Pt) : Value := .slice (some ⟨0, 0, none⟩) ps.length ps.length
theorem vs_12 {n : Nat} {xs : List Int} (h : vsB n xs = true) : n ≤ 12 := by
  unfold vsB at h
  exact of_decide_eq_true (Bool.and_eq_true_iff.1 h).2
theorem resR_sMp (n : Nat) (xs : List Int) (hx : xs.length = n * 4) (h : Lim n) : ResR Try.prog 16 [.row n (.ints xs)] (rowPr (mpV n xs)) ⟨.row 41 2, .ints (flat (mpV n xs))⟩ := by
  refine bodyX_resR mixed EMm_ok (m := 30) (n := 12) rfl ?_
  rw [tr_sMpF]
  simp only [List.drop_zero]
  unfold mpV
  rcases hv : vsB n xs with _ | _
  · exact ⟨hx, h, none, ⟨rfl, rfl⟩, trivial⟩
  · exact ⟨hx, h, trivial, trivial, hx, vs_12 hv, rfl, some 2, ⟨rfl, rfl, rfl⟩, rfl, rfl, rfl⟩
theorem resR_iMp (n : Nat) (xs : List Int) (hx : xs.length = n * 4) (h : Lim n) : ResR Try.prog 18 [.row n (.ints xs)] (rowPr (mpV n xs)) ⟨.row 41 2, .ints (flat (mpV n xs))⟩ := by
  refine bodyX_resR mixed EMm_ok (m := 30) (n := 12) rfl ?_
  rw [tr_iMpF]
  simp only [List.drop_zero]
  unfold mpV
  rcases hv : vsB n xs with _ | _
  · exact ⟨hx, h, none, ⟨rfl, rfl⟩, trivial⟩
  · exact ⟨hx, h, hx, vs_12 hv, some 3, ⟨rfl, rfl, rfl⟩, rfl, rfl, rfl⟩
theorem mpV_len (n : Nat) (xs : List Int) : (mpV n xs).length ≤ 144 := by
  unfold mpV
  rcases hv : vsB n xs with _ | _
  · exact Nat.zero_le _
  · have h1 := mpL_len xs n (offR n 0 n)
    have h2 := offR_le n n 0
    have h3 := vs_12 hv
    have h4 : n * n ≤ 12 * 12 := Nat.mul_le_mul h3 h3
    simp only [cond_true]
    omega
def RMp : TabR := fun f ds => match f, ds with
  | 16, [.row n (.ints xs)] => some (rowPr (mpV n xs), ⟨.row 41 2, .ints (flat (mpV n xs))⟩, [xs.length = n * 4, Lim n])
  | 18, [.row n (.ints xs)] => some (rowPr (mpV n xs), ⟨.row 41 2, .ints (flat (mpV n xs))⟩, [xs.length = n * 4, Lim n])
  | f, ds => RSl1 f ds
theorem RMp_ok : TabROk Try.prog RMp := by
  intro f ds v b C h hC
  unfold RMp at h
  split at h
  · obtain ⟨rfl, rfl, rfl⟩ : _ ∧ _ ∧ _ := by simpa using h
    exact resR_sMp _ _ hC.1 hC.2.1
  · obtain ⟨rfl, rfl, rfl⟩ : _ ∧ _ ∧ _ := by simpa using h
    exact resR_iMp _ _ hC.1 hC.2.1
  · exact RSl1_ok _ _ _ _ _ h hC
end Go.Proofs.Ytolodncpegajkaa
namespace Go.Proofs.Ytolodncpegajkaa
set_option linter.all false
open Go.RowKit
set_option maxRecDepth 100000 in
theorem tr_pick (bs : List Int) (l c : Nat) (p k : Int) : bodyM Try.prog (tabE B0) (runM Try.prog (tabE B0) 30 12) 30 76 [.pointer (some ⟨1, 0, none⟩), .int .i64 k] (memR bs l c p none) .fin = brT (decide (k < 1)) (.fin (.int .i64 (0)) [some ⟨.view, .bytes (bs)⟩, some ⟨.box, .vals [.slice (some ⟨0, 0, none⟩) (l) (c), .int .i64 (IntKind.i64.wrap (p + 1))]⟩]) (brT ((↑l : Int) == 0) (.fin (.int .i64 (0)) [some ⟨.view, .bytes (bs)⟩, some ⟨.box, .vals [.slice (some ⟨0, 0, none⟩) (l) (c), .int .i64 (IntKind.i64.wrap (p + 1))]⟩]) (brT (decide (IntKind.i64.wrap (IntKind.i64.wrap (p + 1) - 1) < (↑l : Int))) (.need ((0 : Int) ≤ IntKind.i64.wrap (IntKind.i64.wrap (p + (1 : Int)) - (1 : Int)) ∧ IntKind.i64.wrap (IntKind.i64.wrap (p + (1 : Int)) - (1 : Int)) < (↑l : Int)) (.need ((0 : Nat) + (IntKind.i64.wrap (IntKind.i64.wrap (p + (1 : Int)) - (1 : Int))).toNat * (1 : Nat) < bs.length) (.need (¬k = (0 : Int)) (.fin (.int .i64 ((IntKind.i64.wrap (bs.getD (0 + (IntKind.i64.wrap (IntKind.i64.wrap (p + 1) - 1)).toNat * 1) 0)).tmod k)) [some ⟨.view, .bytes (bs)⟩, some ⟨.box, .vals [.slice (some ⟨0, 0, none⟩) (l) (c), .int .i64 (IntKind.i64.wrap (p + 1))]⟩])))) (.need (¬(↑l : Int) = (0 : Int)) (.need ((0 : Int) ≤ (IntKind.i64.wrap (IntKind.i64.wrap (p + (1 : Int)) - (1 : Int))).tmod (↑l : Int) ∧ (IntKind.i64.wrap (IntKind.i64.wrap (p + (1 : Int)) - (1 : Int))).tmod (↑l : Int) < (↑l : Int)) (.need ((0 : Nat) + ((IntKind.i64.wrap (IntKind.i64.wrap (p + (1 : Int)) - (1 : Int))).tmod (↑l : Int)).toNat * (1 : Nat) < bs.length) (.need (¬(↑l : Int) = (0 : Int)) (.need ((0 : Int) ≤ (IntKind.i64.wrap (IntKind.i64.wrap (IntKind.i64.wrap (IntKind.i64.wrap (p + (1 : Int)) - (1 : Int)) * (7 : Int)) + (3 : Int))).tmod (↑l : Int) ∧ (IntKind.i64.wrap (IntKind.i64.wrap (IntKind.i64.wrap (IntKind.i64.wrap (p + (1 : Int)) - (1 : Int)) * (7 : Int)) + (3 : Int))).tmod (↑l : Int) < (↑l : Int)) (.need ((0 : Nat) + ((IntKind.i64.wrap (IntKind.i64.wrap (IntKind.i64.wrap (IntKind.i64.wrap (p + (1 : Int)) - (1 : Int)) * (7 : Int)) + (3 : Int))).tmod (↑l : Int)).toNat * (1 : Nat) < bs.length) (.need (¬(↑l : Int) = (0 : Int)) (.need (¬(64 : Int) = (0 : Int)) (.need (¬k = (0 : Int)) (.fin (.int .i64 ((IntKind.i64.wrap (↑(BitVec.ofInt IntKind.i64.bits (IntKind.i64.wrap (IntKind.i64.wrap (IntKind.i64.wrap (IntKind.i64.wrap (IntKind.i64.wrap (bs.getD (0 + ((IntKind.i64.wrap (IntKind.i64.wrap (p + 1) - 1)).tmod (↑l : Int)).toNat * (1 : Nat)) 0) * 131) + IntKind.i64.wrap (IntKind.i64.wrap (bs.getD (0 + ((IntKind.i64.wrap (IntKind.i64.wrap (IntKind.i64.wrap (IntKind.i64.wrap (p + 1) - 1) * 7) + 3)).tmod (↑l : Int)).toNat * (1 : Nat)) 0) * 1117)) + IntKind.i64.wrap (IntKind.i64.wrap (IntKind.i64.wrap (p + 1) - 1) * 29)) + IntKind.i64.wrap (IntKind.i64.wrap ((IntKind.i64.wrap (IntKind.i64.wrap (p + 1) - 1)).tdiv (↑l : Int)) * 53))) ^^^ BitVec.ofInt IntKind.i64.bits (IntKind.i64.wrap ((IntKind.i64.wrap (IntKind.i64.wrap (IntKind.i64.wrap (IntKind.i64.wrap (IntKind.i64.wrap (bs.getD (0 + ((IntKind.i64.wrap (IntKind.i64.wrap (p + 1) - 1)).tmod (↑l : Int)).toNat * (1 : Nat)) 0) * 131) + IntKind.i64.wrap (IntKind.i64.wrap (bs.getD (0 + ((IntKind.i64.wrap (IntKind.i64.wrap (IntKind.i64.wrap (IntKind.i64.wrap (p + 1) - 1) * 7) + 3)).tmod (↑l : Int)).toNat * (1 : Nat)) 0) * 1117)) + IntKind.i64.wrap (IntKind.i64.wrap (IntKind.i64.wrap (p + 1) - 1) * 29)) + IntKind.i64.wrap (IntKind.i64.wrap ((IntKind.i64.wrap (IntKind.i64.wrap (p + 1) - 1)).tdiv (↑l : Int)) * 53))).tdiv 64))).toNat : Int)).tmod k)) [some ⟨.view, .bytes (bs)⟩, some ⟨.box, .vals [.slice (some ⟨0, 0, none⟩) (l) (c), .int .i64 (IntKind.i64.wrap (p + 1))]⟩])))))))))))) := by kernel_rfl
def xorI (x : Int) : Int := IntKind.i64.wrap (↑(BitVec.ofInt IntKind.i64.bits x ^^^ BitVec.ofInt IntKind.i64.bits (IntKind.i64.wrap (x.tdiv 64))).toNat : Int)
def mixI (bs : List Int) (l : Nat) (p : Int) : Int := bs.getD (p.tmod l).toNat 0 * 131 + bs.getD ((p * 7 + 3).tmod l).toNat 0 * 1117 + p * 29 + p.tdiv l * 53
/-- What pick answers. -/
def pickI (bs : List Int) (l : Nat) (p k : Int) : Int := if k < 1 ∨ l = 0 then 0 else if p < l then (bs.getD p.toNat 0).tmod k else (xorI (mixI bs l p)).tmod k
/-- Is the reader in order? -/
def rdC (bs : List Int) (l : Nat) (p : Int) : Prop := l ≤ bs.length ∧ l ≤ 2000 ∧ 0 ≤ p ∧ p ≤ 1000000 ∧ Bytes bs
def pickS : RSpec := fun bs l p rest ex => match rest, ex with
  | [.int .i64 k], none => some (.int .i64 (pickI bs l p k), p + 1, [rdC bs l p])
  | _, _ => none
theorem Bytes.get {bs : List Int} (h : Bytes bs) (i : Nat) : 0 ≤ bs.getD i 0 ∧ bs.getD i 0 ≤ 255 := by
  rw [List.getD_eq_getElem?_getD]
  rcases hx : bs[i]? with _ | b
  · simp
  · simpa using h b (List.mem_of_getElem? hx)
theorem xorI_bd {x : Int} (h0 : 0 ≤ x) (h1 : x < 4611686018427387904) : 0 ≤ xorI x ∧ xorI x < 9223372036854775808 := by
  have hq : 0 ≤ x.tdiv 64 ∧ x.tdiv 64 ≤ x := by
    rw [Int.tdiv_eq_ediv_of_nonneg h0]
    omega
  unfold xorI
  rw [wr (x := x.tdiv 64) (by omega)]
  obtain ⟨a, rfl⟩ := Int.eq_ofNat_of_zero_le h0
  obtain ⟨b, hb⟩ := Int.eq_ofNat_of_zero_le hq.1
  rw [hb]
  have hb' : (b : Int) ≤ a := by rw [← hb]; exact hq.2
  have e : (BitVec.ofInt IntKind.i64.bits (a : Int) ^^^ BitVec.ofInt IntKind.i64.bits (b : Int)).toNat = a ^^^ b := by
    show (BitVec.ofInt 64 (a : Int) ^^^ BitVec.ofInt 64 (b : Int)).toNat = a ^^^ b
    rw [BitVec.toNat_xor]
    simp only [BitVec.ofInt_natCast, BitVec.toNat_ofNat]
    rw [Nat.mod_eq_of_lt (by omega), Nat.mod_eq_of_lt (by omega)]
  have hlt : a ^^^ b < 2 ^ 63 := Nat.xor_lt_two_pow (by omega) (by omega)
  rw [e, wr (by omega)]
  omega
theorem mixI_bd {bs : List Int} {l : Nat} {p : Int} (h : rdC bs l p) (hl : 0 < l) : 0 ≤ mixI bs l p ∧ mixI bs l p < 1000000000 := by
  obtain ⟨_, h2, h3, h4, h5⟩ := h
  have b1 := h5.get (p.tmod l).toNat
  have b2 := h5.get ((p * 7 + 3).tmod l).toNat
  have q : 0 ≤ p.tdiv l ∧ p.tdiv l ≤ p := by
    rw [Int.tdiv_eq_ediv_of_nonneg h3]
    exact ⟨Int.ediv_nonneg h3 (by omega), Int.ediv_le_self _ h3⟩
  unfold mixI
  omega
theorem pickI_bd {bs : List Int} {l : Nat} {p k : Int} (h : rdC bs l p) (hk : 1 ≤ k) : 0 ≤ pickI bs l p k ∧ pickI bs l p k < k := by
  unfold pickI
  split
  · omega
  rename_i hn
  have hl : 0 < l := by omega
  split
  · exact ⟨Int.tmod_nonneg _ (h.2.2.2.2.get _).1, Int.tmod_lt_of_pos _ (by omega)⟩
  · have hm := mixI_bd h hl
    exact ⟨Int.tmod_nonneg _ (xorI_bd hm.1 (by omega)).1, Int.tmod_lt_of_pos _ (by omega)⟩
theorem vk {k : IntKind} {a b : Int} (h : a = b) : Value.int k a = .int k b := by rw [h]
theorem pickS_ok : SpecOk Try.prog 76 pickS := by
  intro bs l c p rest0 ex v p' C h hC
  unfold pickS at h
  split at h
  rotate_left
  · cases h
  rename_i k
  obtain ⟨rfl, rfl, rfl⟩ : Value.int .i64 (pickI bs l p k) = v ∧ p + 1 = p' ∧ [rdC bs l p] = C := by simpa using h
  have hC := hC.1
  have hg := fun i => hC.2.2.2.2.get i
  have hC0 := hC
  obtain ⟨h1, h2, h3, h4, h5⟩ := hC
  refine ⟨tabE B0, 30, 12, tabE_ok B0_ok, rfl, ?_⟩
  rw [tr_pick]
  have e1 : IntKind.i64.wrap (p + 1) = p + 1 := wr (by omega)
  have e2 : IntKind.i64.wrap (p + 1 - 1) = p := by rw [wr (by omega)]; omega
  have e3 : IntKind.i64.wrap (p * 7) = p * 7 := wr (by omega)
  have e4 : IntKind.i64.wrap (p * 7 + 3) = p * 7 + 3 := wr (by omega)
  simp only [e1, e2, e3, e4, Nat.zero_add, Nat.mul_one]
  refine brT_ok.2 ⟨fun hk => ?_, fun hk => brT_ok.2 ⟨fun hl => ?_, fun hl => brT_ok.2 ⟨fun hp => ?_, fun hp => ?_⟩⟩⟩
  · have hk := of_decide_eq_true hk
    refine ⟨vk ?_, rfl⟩
    unfold pickI
    rw [if_pos (.inl hk)]
  · have hl : l = 0 := by simpa using hl
    refine ⟨vk ?_, rfl⟩
    unfold pickI
    rw [if_pos (.inr hl)]
  · have hk := of_decide_eq_false hk
    have hl : ¬ l = 0 := by simpa using hl
    have hp := of_decide_eq_true hp
    refine ⟨⟨h3, hp⟩, by omega, by omega, vk ?_, rfl⟩
    rw [wr (by have := hg p.toNat; omega)]
    unfold pickI
    rw [if_neg (by omega), if_pos hp]
  · have hk := of_decide_eq_false hk
    have hl : ¬ l = 0 := by simpa using hl
    have hp := of_decide_eq_false hp
    have hl0 : (0 : Int) < l := by omega
    have t1 : 0 ≤ p.tmod l ∧ p.tmod l < l := ⟨Int.tmod_nonneg _ h3, Int.tmod_lt_of_pos _ hl0⟩
    have t2 : 0 ≤ (p * 7 + 3).tmod l ∧ (p * 7 + 3).tmod l < l := ⟨Int.tmod_nonneg _ (by omega), Int.tmod_lt_of_pos _ hl0⟩
    have q : 0 ≤ p.tdiv l ∧ p.tdiv l ≤ p := by
      rw [Int.tdiv_eq_ediv_of_nonneg h3]
      exact ⟨Int.ediv_nonneg h3 (by omega), Int.ediv_le_self _ h3⟩
    have b1 := hg (p.tmod l).toNat
    have b2 := hg ((p * 7 + 3).tmod l).toNat
    have hm := mixI_bd hC0 (by omega)
    refine ⟨by omega, t1, by omega, by omega, t2, by omega, by omega, by omega, by omega, vk ?_, rfl⟩
    unfold pickI
    rw [if_neg (by omega), if_neg (by omega)]
    have em : IntKind.i64.wrap (IntKind.i64.wrap (IntKind.i64.wrap (IntKind.i64.wrap (IntKind.i64.wrap (bs.getD (p.tmod l).toNat 0) * 131) + IntKind.i64.wrap (IntKind.i64.wrap (bs.getD ((p * 7 + 3).tmod l).toNat 0) * 1117)) + IntKind.i64.wrap (p * 29)) + IntKind.i64.wrap (IntKind.i64.wrap (p.tdiv l) * 53)) = mixI bs l p := by
      clear hm
      unfold mixI
      generalize bs.getD (p.tmod l).toNat 0 = x1 at *
      generalize bs.getD ((p * 7 + 3).tmod l).toNat 0 = x2 at *
      generalize p.tdiv l = x3 at *
      simp (disch := omega) only [wr]
    rw [em]
    rfl
/-- The first table: pick. -/
def J1 : List (FuncId × RSpec) := [(76, pickS)]
theorem J1_ok : JOk Try.prog J1 := JOk.nil.cons (entersB_res (by kernel_rfl)).1 pickS_ok
def ER1 : Env := withJ (tabE B0) J1
theorem ER1_ok : EnvOk Try.prog ER1 := withJ_ok mixed (tabE_ok B0_ok) J1_ok
set_option maxRecDepth 100000 in
theorem tr_one (bs : List Int) (l c : Nat) (p : Int) (n : Nat) (xs : List Int) : bodyM Try.prog ER1 (runM Try.prog ER1 30 12) 30 114 [.pointer (some ⟨1, 0, none⟩), .slice (some ⟨2, 0, none⟩) n n] (memR bs l c p (some xs)) .fin = .need (rdC bs l p) (.need ((0 : Int) ≤ pickI bs l p (↑n : Int) ∧ pickI bs l p (↑n : Int) < (↑n : Int)) (.need ((0 : Nat) + (pickI bs l p (↑n : Int)).toNat * (1 : Nat) < xs.length) (.fin (.int .i64 (xs.getD (0 + (pickI bs l p (↑n : Int)).toNat * 1) 0)) [some ⟨.view, .bytes (bs)⟩, some ⟨.box, .vals [.slice (some ⟨0, 0, none⟩) (l) (c), .int .i64 (p + 1)]⟩, some ⟨.view, .ints (xs)⟩]))) := by kernel_rfl
set_option maxRecDepth 100000 in
theorem tr_rpt (bs : List Int) (l c : Nat) (p : Int) : bodyM Try.prog ER1 (runM Try.prog ER1 30 12) 30 115 [.pointer (some ⟨1, 0, none⟩)] (memR bs l c p none) .fin = .need (rdC bs l p) (.need (rdC bs l (p + (1 : Int))) (.fin (.agg #[.int .i64 (IntKind.i64.wrap (pickI bs l p 9 - 2)), .int .i64 (IntKind.i64.wrap (pickI bs l (p + 1) 9 - 2))]) [some ⟨.view, .bytes (bs)⟩, some ⟨.box, .vals [.slice (some ⟨0, 0, none⟩) (l) (c), .int .i64 (p + 1 + 1)]⟩, some ⟨.box, .vals [.int .i64 (IntKind.i64.wrap (pickI bs l p 9 - 2)), .int .i64 (IntKind.i64.wrap (pickI bs l (p + 1) 9 - 2))]⟩])) := by kernel_rfl
end Go.Proofs.Ytolodncpegajkaa
namespace Go.Proofs.Ytolodncpegajkaa
set_option linter.all false
open Go.RowKit
/-- The reader in order, with room for many more. -/
def rdK (bs : List Int) (l : Nat) (p : Int) : Prop := rdC bs l p ∧ p ≤ 900000
theorem rdK.at {bs : List Int} {l : Nat} {p : Int} (h : rdK bs l p) {q : Int} (h0 : p ≤ q) (h1 : q ≤ p + 90000) : rdC bs l q :=
  ⟨h.1.1, h.1.2.1, by have := h.1.2.2.1; omega, by have := h.2; omega, h.1.2.2.2.2⟩
def oneI (bs : List Int) (l : Nat) (p : Int) (n : Nat) (xs : List Int) : Int := xs.getD (pickI bs l p n).toNat 0
def oneS : RSpec := fun bs l p rest ex => match rest, ex with
  | [.slice (some ⟨2, 0, none⟩) n n'], some xs => some (.int .i64 (oneI bs l p n xs), p + 1, [rdC bs l p, 1 ≤ n ∧ n ≤ xs.length ∧ n' = n])
  | _, _ => none
theorem oneS_ok : SpecOk Try.prog 114 oneS := by
  intro bs l c p rest0 ex v p' C h hC
  unfold oneS at h
  split at h
  rotate_left
  · cases h
  rename_i n n' xs
  obtain ⟨rfl, rfl, rfl⟩ : Value.int .i64 (oneI bs l p n xs) = v ∧ p + 1 = p' ∧ [rdC bs l p, 1 ≤ n ∧ n ≤ xs.length ∧ n' = n] = C := by simpa using h
  obtain ⟨h1, ⟨h2, h3, rfl⟩, _⟩ := hC
  refine ⟨ER1, 30, 12, ER1_ok, rfl, ?_⟩
  rw [tr_one]
  have hb := pickI_bd (k := (n' : Int)) h1 (by omega)
  exact ⟨h1, hb, by omega, by simp only [oneI, Nat.zero_add, Nat.mul_one], rfl⟩
def rptS : RSpec := fun bs l p rest ex => match rest, ex with
  | [], none => some (.agg #[.int .i64 (pickI bs l p 9 - 2), .int .i64 (pickI bs l (p + 1) 9 - 2)], p + 2, [rdK bs l p])
  | _, _ => none
theorem box2 {bs : List Int} {l c : Nat} {p q : Int} (h : q = p) (r : List (Option Blk)) : (some ⟨.view, .bytes bs⟩ :: some ⟨.box, .vals [.slice (some ⟨0, 0, none⟩) l c, .int .i64 q]⟩ :: r : List (Option Blk)).getD 1 none = some (rdBox 0 l c p) := by rw [h]; rfl
theorem rptS_ok : SpecOk Try.prog 115 rptS := by
  intro bs l c p rest0 ex v p' C h hC
  unfold rptS at h
  split at h
  rotate_left
  · cases h
  obtain ⟨rfl, rfl, rfl⟩ : Value.agg #[.int .i64 (pickI bs l p 9 - 2), .int .i64 (pickI bs l (p + 1) 9 - 2)] = v ∧ p + 2 = p' ∧ [rdK bs l p] = C := by simpa using h
  have h1 := hC.1
  refine ⟨ER1, 30, 12, ER1_ok, rfl, ?_⟩
  rw [tr_rpt]
  have h2 := h1.at (q := p) (by omega) (by omega)
  have h3 := h1.at (q := p + 1) (by omega) (by omega)
  have b1 := pickI_bd (k := 9) h2 (by omega)
  have b2 := pickI_bd (k := 9) h3 (by omega)
  exact ⟨h2, h3, by rw [wr (by omega), wr (by omega)], box2 (by omega) _⟩
def J2 : List (FuncId × RSpec) := (114, oneS) :: (115, rptS) :: J1
theorem J2_ok : JOk Try.prog J2 := (J1_ok.cons (entersB_res (by kernel_rfl)).1 rptS_ok).cons (entersB_res (by kernel_rfl)).1 oneS_ok
def ER2 : Env := withJ (tabE B0) J2
theorem ER2_ok : EnvOk Try.prog ER2 := withJ_ok mixed (tabE_ok B0_ok) J2_ok
set_option maxRecDepth 100000 in
theorem tr_apt (bs : List Int) (l c : Nat) (p : Int) : bodyM Try.prog ER2 (runM Try.prog ER2 30 12) 30 131 [.pointer (some ⟨1, 0, none⟩)] (memR bs l c p none) .fin = .need (rdK bs l p) (.need (rdC bs l (p + (2 : Int))) (brT (pickI bs l (p + 2) 16 == 0) (.need (rdC bs l (p + (2 : Int) + (1 : Int))) (.need ((1 : Nat) ≤ (4 : Nat) ∧ (4 : Nat) ≤ (4 : Nat) ∧ (4 : Nat) = (4 : Nat)) (.fin (.agg #[.int .i64 (oneI bs l (p + 2 + 1) 4 [1001, -1001, 1000, -1000]), .int .i64 (pickI bs l (p + 1) 9 - 2)]) [some ⟨.view, .bytes (bs)⟩, some ⟨.box, .vals [.slice (some ⟨0, 0, none⟩) (l) (c), .int .i64 (p + 2 + 1 + 1)]⟩, some ⟨.box, .vals [.int .i64 (oneI bs l (p + 2 + 1) 4 [1001, -1001, 1000, -1000]), .int .i64 (pickI bs l (p + 1) 9 - 2)]⟩, some ⟨.box, .vals [.int .i64 (oneI bs l (p + 2 + 1) 4 [1001, -1001, 1000, -1000]), .int .i64 (pickI bs l (p + 1) 9 - 2)]⟩, some ⟨.row 3 1, .vals [.int .i64 (1001), .int .i64 (-1001), .int .i64 (1000), .int .i64 (-1000)]⟩]))) (brT (pickI bs l (p + 2) 16 == 1) (.need (rdC bs l (p + (2 : Int) + (1 : Int))) (.need ((1 : Nat) ≤ (4 : Nat) ∧ (4 : Nat) ≤ (4 : Nat) ∧ (4 : Nat) = (4 : Nat)) (.fin (.agg #[.int .i64 (pickI bs l p 9 - 2), .int .i64 (oneI bs l (p + 2 + 1) 4 [1001, -1001, 1000, -1000])]) [some ⟨.view, .bytes (bs)⟩, some ⟨.box, .vals [.slice (some ⟨0, 0, none⟩) (l) (c), .int .i64 (p + 2 + 1 + 1)]⟩, some ⟨.box, .vals [.int .i64 (pickI bs l p 9 - 2), .int .i64 (oneI bs l (p + 2 + 1) 4 [1001, -1001, 1000, -1000])]⟩, some ⟨.box, .vals [.int .i64 (pickI bs l p 9 - 2), .int .i64 (oneI bs l (p + 2 + 1) 4 [1001, -1001, 1000, -1000])]⟩, some ⟨.row 3 1, .vals [.int .i64 (1001), .int .i64 (-1001), .int .i64 (1000), .int .i64 (-1000)]⟩]))) (.fin (.agg #[.int .i64 (pickI bs l p 9 - 2), .int .i64 (pickI bs l (p + 1) 9 - 2)]) [some ⟨.view, .bytes (bs)⟩, some ⟨.box, .vals [.slice (some ⟨0, 0, none⟩) (l) (c), .int .i64 (p + 2 + 1)]⟩, some ⟨.box, .vals [.int .i64 (pickI bs l p 9 - 2), .int .i64 (pickI bs l (p + 1) 9 - 2)]⟩, some ⟨.box, .vals [.int .i64 (pickI bs l p 9 - 2), .int .i64 (pickI bs l (p + 1) 9 - 2)]⟩])))) := by kernel_rfl
def farI : List Int := [1001, -1001, 1000, -1000]
def apQ (bs : List Int) (l : Nat) (p : Int) : Int := pickI bs l (p + 2) 16
def apX (bs : List Int) (l : Nat) (p : Int) : Int := if apQ bs l p = 0 then oneI bs l (p + 3) 4 farI else pickI bs l p 9 - 2
def apY (bs : List Int) (l : Nat) (p : Int) : Int := if apQ bs l p = 1 then oneI bs l (p + 3) 4 farI else pickI bs l (p + 1) 9 - 2
def apP (bs : List Int) (l : Nat) (p : Int) : Int := if apQ bs l p = 0 ∨ apQ bs l p = 1 then p + 4 else p + 3
theorem apP_bd (bs : List Int) (l : Nat) (p : Int) : p + 3 ≤ apP bs l p ∧ apP bs l p ≤ p + 4 := by unfold apP; split <;> omega
def aptS : RSpec := fun bs l p rest ex => match rest, ex with
  | [], none => some (.agg #[.int .i64 (apX bs l p), .int .i64 (apY bs l p)], apP bs l p, [rdK bs l p])
  | _, _ => none
theorem veq2 {a a' b b' : Int} (h : a = a') (k : b = b') : Value.agg #[.int .i64 a, .int .i64 b] = .agg #[.int .i64 a', .int .i64 b'] := by rw [h, k]
theorem aptS_ok : SpecOk Try.prog 131 aptS := by
  intro bs l c p rest0 ex v p' C h hC
  unfold aptS at h
  split at h
  rotate_left
  · cases h
  obtain ⟨rfl, rfl, rfl⟩ : Value.agg #[.int .i64 (apX bs l p), .int .i64 (apY bs l p)] = v ∧ apP bs l p = p' ∧ [rdK bs l p] = C := by simpa using h
  have h1 := hC.1
  refine ⟨ER2, 30, 12, ER2_ok, rfl, ?_⟩
  rw [tr_apt]
  have e3 : p + 2 + 1 = p + 3 := by omega
  have e4 : p + 3 + 1 = p + 4 := by omega
  simp only [e3, e4]
  refine ⟨h1, h1.at (by omega) (by omega), brT_ok.2 ⟨fun hq => ?_, fun hq => brT_ok.2 ⟨fun hq' => ?_, fun hq' => ?_⟩⟩⟩
  · have hq : apQ bs l p = 0 := by simpa [apQ] using hq
    exact ⟨h1.at (by omega) (by omega), by decide, veq2 (by unfold apX; rw [if_pos hq]; rfl) (by unfold apY; rw [if_neg (by omega)]), box2 (by unfold apP; rw [if_pos (.inl hq)]) _⟩
  · have hq : ¬ apQ bs l p = 0 := by simpa [apQ] using hq
    have hq' : apQ bs l p = 1 := by simpa [apQ] using hq'
    exact ⟨h1.at (by omega) (by omega), by decide, veq2 (by unfold apX; rw [if_neg hq]) (by unfold apY; rw [if_pos hq']; rfl), box2 (by unfold apP; rw [if_pos (.inr hq')]) _⟩
  · have hq : ¬ apQ bs l p = 0 := by simpa [apQ] using hq
    have hq' : ¬ apQ bs l p = 1 := by simpa [apQ] using hq'
    exact ⟨veq2 (by unfold apX; rw [if_neg hq]) (by unfold apY; rw [if_neg hq']), box2 (by unfold apP; rw [if_neg (by omega)]) _⟩
def J3 : List (FuncId × RSpec) := (131, aptS) :: J2
theorem J3_ok : JOk Try.prog J3 := J2_ok.cons (entersB_res (by kernel_rfl)).1 aptS_ok
end Go.Proofs.Ytolodncpegajkaa
namespace Go.Proofs.Ytolodncpegajkaa
set_option linter.all false
open Go.RowKit
/-- How many bytes are read. -/
def rdL (n : Nat) : Nat := min n 2000
theorem rdL_of {n : Nat} (h : 2000 < (n : Int)) : rdL n = 2000 := by unfold rdL; omega
theorem rdL_no {n : Nat} (h : ¬ 2000 < (n : Int)) : rdL n = n := by unfold rdL; omega
theorem rdK0 {bs : List Int} {n : Nat} (h : Bytes bs) (hn : n ≤ bs.length) {l : Nat} (hl : l ≤ n) (h2 : l ≤ 2000) {p : Int} (h3 : 0 ≤ p) (h4 : p ≤ 900000) : rdK bs l p :=
  ⟨⟨by omega, h2, h3, by omega, h⟩, h4⟩
theorem bnd2000 {n : Nat} (h : 2000 < (n : Int)) : (0 : Int) ≤ bndI none (0 : Int) ∧ bndI none (0 : Int) ≤ bndI (some (IntKind.i64, (2000 : Int))) (↑n : Int) ∧ bndI (some (IntKind.i64, (2000 : Int))) (↑n : Int) ≤ (↑n : Int) := by
  refine ⟨Int.le_refl _, ?_, ?_⟩
  · show (0 : Int) ≤ 2000; omega
  · show (2000 : Int) ≤ n; omega
/-- The coordinates of the three points. -/
def d3 (bs : List Int) (n : Nat) : Nat → Int
  | 0 => apX bs (rdL n) 0
  | 1 => apY bs (rdL n) 0
  | 2 => apX bs (rdL n) (apP bs (rdL n) 0)
  | 3 => apY bs (rdL n) (apP bs (rdL n) 0)
  | 4 => apX bs (rdL n) (apP bs (rdL n) (apP bs (rdL n) 0))
  | _ => apY bs (rdL n) (apP bs (rdL n) (apP bs (rdL n) 0))
end Go.Proofs.Ytolodncpegajkaa
namespace Go.Proofs.Ytolodncpegajkaa
set_option linter.all false
open Go.RowKit
def ERa : Env := withJ (tabE B0) J3
theorem ERa_ok : EnvOk Try.prog ERa := withJ_ok mixed (tabE_ok B0_ok) J3_ok
set_option maxRecDepth 100000 in
theorem tr_aseg (bs : List Int) (l c : Nat) (p : Int) : bodyM Try.prog ERa (runM Try.prog ERa 30 12) 30 116 [.pointer (some ⟨1, 0, none⟩)] (memR bs l c p none) .fin = .need (rdK bs l p) (.need (rdK bs l (apP bs l p)) (brT (negB false (apX bs l p == pickI bs l (apP bs l p) 9 - 2 && (apY bs l p == pickI bs l (apP bs l p + 1) 9 - 2 && true))) (.need (rdC bs l (apP bs l p + (2 : Int))) (brT (decide (0 < pickI bs l (apP bs l p + 2) 4)) (.fin (.agg #[.int .i64 (apX bs l p), .int .i64 (apY bs l p), .int .i64 (IntKind.i64.wrap (pickI bs l (apP bs l p) 9 - 2 + 1)), .int .i64 (pickI bs l (apP bs l p + 1) 9 - 2)]) [some ⟨.view, .bytes (bs)⟩, some ⟨.box, .vals [.slice (some ⟨0, 0, none⟩) (l) (c), .int .i64 (apP bs l p + 2 + 1)]⟩, some ⟨.box, .vals [.int .i64 (apX bs l p), .int .i64 (apY bs l p), .int .i64 (IntKind.i64.wrap (pickI bs l (apP bs l p) 9 - 2 + 1)), .int .i64 (pickI bs l (apP bs l p + 1) 9 - 2)]⟩, some ⟨.box, .vals [.int .i64 (apX bs l p), .int .i64 (apY bs l p), .int .i64 (IntKind.i64.wrap (pickI bs l (apP bs l p) 9 - 2 + 1)), .int .i64 (pickI bs l (apP bs l p + 1) 9 - 2)]⟩]) (.fin (.agg #[.int .i64 (apX bs l p), .int .i64 (apY bs l p), .int .i64 (pickI bs l (apP bs l p) 9 - 2), .int .i64 (pickI bs l (apP bs l p + 1) 9 - 2)]) [some ⟨.view, .bytes (bs)⟩, some ⟨.box, .vals [.slice (some ⟨0, 0, none⟩) (l) (c), .int .i64 (apP bs l p + 2 + 1)]⟩, some ⟨.box, .vals [.int .i64 (apX bs l p), .int .i64 (apY bs l p), .int .i64 (pickI bs l (apP bs l p) 9 - 2), .int .i64 (pickI bs l (apP bs l p + 1) 9 - 2)]⟩, some ⟨.box, .vals [.int .i64 (apX bs l p), .int .i64 (apY bs l p), .int .i64 (pickI bs l (apP bs l p) 9 - 2), .int .i64 (pickI bs l (apP bs l p + 1) 9 - 2)]⟩]))) (.fin (.agg #[.int .i64 (apX bs l p), .int .i64 (apY bs l p), .int .i64 (pickI bs l (apP bs l p) 9 - 2), .int .i64 (pickI bs l (apP bs l p + 1) 9 - 2)]) [some ⟨.view, .bytes (bs)⟩, some ⟨.box, .vals [.slice (some ⟨0, 0, none⟩) (l) (c), .int .i64 (apP bs l p + 2)]⟩, some ⟨.box, .vals [.int .i64 (apX bs l p), .int .i64 (apY bs l p), .int .i64 (pickI bs l (apP bs l p) 9 - 2), .int .i64 (pickI bs l (apP bs l p + 1) 9 - 2)]⟩, some ⟨.box, .vals [.int .i64 (apX bs l p), .int .i64 (apY bs l p), .int .i64 (pickI bs l (apP bs l p) 9 - 2), .int .i64 (pickI bs l (apP bs l p + 1) 9 - 2)]⟩]))) := by kernel_rfl
def asQ (bs : List Int) (l : Nat) (p : Int) : Prop := apX bs l p = pickI bs l (apP bs l p) 9 - 2 ∧ apY bs l p = pickI bs l (apP bs l p + 1) 9 - 2
instance (bs : List Int) (l : Nat) (p : Int) : Decidable (asQ bs l p) := inferInstanceAs (Decidable (_ ∧ _))
def asX (bs : List Int) (l : Nat) (p : Int) : Int := if asQ bs l p ∧ 0 < pickI bs l (apP bs l p + 2) 4 then pickI bs l (apP bs l p) 9 - 2 + 1 else pickI bs l (apP bs l p) 9 - 2
def asY (bs : List Int) (l : Nat) (p : Int) : Int := pickI bs l (apP bs l p + 1) 9 - 2
def asP (bs : List Int) (l : Nat) (p : Int) : Int := if asQ bs l p then apP bs l p + 3 else apP bs l p + 2
def asegS : RSpec := fun bs l p rest ex => match rest, ex with
  | [], none => some (.agg #[.int .i64 (apX bs l p), .int .i64 (apY bs l p), .int .i64 (asX bs l p), .int .i64 (asY bs l p)], asP bs l p, [rdK bs l p, rdK bs l (apP bs l p)])
  | _, _ => none
theorem veq4 {a b c c' d d' : Int} (h : c = c') (k : d = d') : Value.agg #[.int .i64 a, .int .i64 b, .int .i64 c, .int .i64 d] = .agg #[.int .i64 a, .int .i64 b, .int .i64 c', .int .i64 d'] := by rw [h, k]
theorem asegS_ok : SpecOk Try.prog 116 asegS := by
  intro bs l c p rest0 ex v p' C h hC
  unfold asegS at h
  split at h
  rotate_left
  · cases h
  obtain ⟨rfl, rfl, rfl⟩ : Value.agg #[.int .i64 (apX bs l p), .int .i64 (apY bs l p), .int .i64 (asX bs l p), .int .i64 (asY bs l p)] = v ∧ asP bs l p = p' ∧ [rdK bs l p, rdK bs l (apP bs l p)] = C := by simpa using h
  obtain ⟨h1, h2, _⟩ := hC
  refine ⟨ERa, 30, 12, ERa_ok, rfl, ?_⟩
  rw [tr_aseg]
  have r1 := h2.at (q := apP bs l p) (by omega) (by omega)
  have r3 := h2.at (q := apP bs l p + 2) (by omega) (by omega)
  have b1 := pickI_bd (k := 9) r1 (by omega)
  have w : IntKind.i64.wrap (pickI bs l (apP bs l p) 9 - 2 + 1) = pickI bs l (apP bs l p) 9 - 2 + 1 := wr (by omega)
  have en : negB false (apX bs l p == pickI bs l (apP bs l p) 9 - 2 && (apY bs l p == pickI bs l (apP bs l p + 1) 9 - 2 && true)) = decide (asQ bs l p) := by
    show (apX bs l p == pickI bs l (apP bs l p) 9 - 2 && (apY bs l p == pickI bs l (apP bs l p + 1) 9 - 2 && true)) = decide (asQ bs l p)
    exact Bool.eq_iff_iff.2 ⟨fun h => decide_eq_true (by simpa [asQ] using h), fun h => by
      have := of_decide_eq_true h
      simpa [asQ] using this⟩
  rw [en, w]
  refine ⟨h1, h2, brT_ok.2 ⟨fun hq => ⟨r3, brT_ok.2 ⟨fun hz => ?_, fun hz => ?_⟩⟩, fun hq => ?_⟩⟩
  · have hq := of_decide_eq_true hq
    have hz := of_decide_eq_true hz
    exact ⟨veq4 (by unfold asX; rw [if_pos ⟨hq, hz⟩]) rfl, box2 (by unfold asP; rw [if_pos hq]; omega) _⟩
  · have hq := of_decide_eq_true hq
    have hz := of_decide_eq_false hz
    exact ⟨veq4 (by unfold asX; rw [if_neg (fun h => hz h.2)]) rfl, box2 (by unfold asP; rw [if_pos hq]; omega) _⟩
  · have hq := of_decide_eq_false hq
    exact ⟨veq4 (by unfold asX; rw [if_neg (fun h => hq h.1)]) rfl, box2 (by unfold asP; rw [if_neg hq]) _⟩
def J5a : List (FuncId × RSpec) := (116, asegS) :: J3
theorem J5a_ok : JOk Try.prog J5a := J3_ok.cons (entersB_res (by kernel_rfl)).1 asegS_ok
def ERs : Env := withJ (tabE B0) J5a
theorem ERs_ok : EnvOk Try.prog ERs := withJ_ok mixed (tabE_ok B0_ok) J5a_ok
end Go.Proofs.Ytolodncpegajkaa
namespace Go.Proofs.Ytolodncpegajkaa
set_option linter.all false
open Go.RowKit
/-- Does the next segment begin where another one ends? -/
def sjQ (bs : List Int) (l m : Nat) (p : Int) : Bool := decide (0 < m) && pickI bs l (p + 4) 3 == 0
def sjI (bs : List Int) (l m : Nat) (p : Int) : Nat := (pickI bs l (p + 5) m).toNat
def sjX (bs : List Int) (l m : Nat) (o : List Int) (p : Int) : Int := bif sjQ bs l m p then o.getD (sjI bs l m p * 4 + 2) 0 else pickI bs l p 9 - 2
def sjY (bs : List Int) (l m : Nat) (o : List Int) (p : Int) : Int := bif sjQ bs l m p then o.getD (sjI bs l m p * 4 + 3) 0 else pickI bs l (p + 1) 9 - 2
def sjP (bs : List Int) (l m : Nat) (p : Int) : Int := bif decide (0 < m) then (bif pickI bs l (p + 4) 3 == 0 then p + 6 else p + 5) else p + 4
def sjZ (bs : List Int) (l m : Nat) (o : List Int) (p : Int) : Int := bif eqB (sjX bs l m o p) (sjY bs l m o p) (pickI bs l (p + 2) 9 - 2) (pickI bs l (p + 3) 9 - 2) then pickI bs l (p + 3) 9 - 2 + 1 else pickI bs l (p + 3) 9 - 2
def sjO (bs : List Int) (l m : Nat) (o : List Int) (p : Int) : List Int := o ++ [sjX bs l m o p, sjY bs l m o p, pickI bs l (p + 2) 9 - 2, sjZ bs l m o p]
def ssL (bs : List Int) (l : Nat) : Nat → Nat → List Int → Int → List Int
  | 0, _, o, _ => o
  | n + 1, m, o, p => ssL bs l n (m + 1) (sjO bs l m o p) (sjP bs l m p)
def ssP (bs : List Int) (l : Nat) : Nat → Nat → List Int → Int → Int
  | 0, _, _, p => p
  | n + 1, m, o, p => ssP bs l n (m + 1) (sjO bs l m o p) (sjP bs l m p)
theorem eqB_v (a b c d : Int) : negB false (a == c && (b == d && true)) = eqB a b c d := by
  rw [Bool.and_true]
  rfl
noncomputable def c_ass : Code := ((loopsOf (codeOf Try.f69))[0]?).getD .skip
def k_ass : Ex → List Nat := keeps [0, 3, 4] [(0, [0, 3])] [2]
def s_ass (bs : List Int) (l c : Nat) : Nat × Nat × (List Int) × Int → St := fun (n, m, o, p) => ⟨(.pointer (some ⟨1, 0, none⟩) :: topV :: topV :: .slice (some ⟨4, 0, none⟩) m m :: .int .i64 n :: topV :: topV :: topV :: topV :: topV :: topV :: topV :: topV :: topV :: topV :: topV :: topV :: topV :: topV :: topV :: topV :: topV :: topV :: topV :: topV :: topV :: topV :: topV :: topV :: topV :: topV :: topV :: topV :: topV :: topV :: topV :: topV :: topV :: topV :: topV :: topV :: topV :: topV :: topV :: topV :: topV :: topV :: topV :: topV :: topV :: topV :: topV :: topV :: topV :: topV :: topV :: topV :: topV :: topV :: topV :: topV :: topV :: topV :: topV :: []), [some ⟨.view, .bytes bs⟩, some ⟨.box, .vals [.slice (some ⟨0, 0, none⟩) l c, .int .i64 p]⟩, some ⟨.dead, .vals []⟩, some ⟨.dead, .vals []⟩, some ⟨.row 39 4, .ints o⟩]⟩
def re_ass : Nat × Nat × (List Int) × Int → Ex := fun _ => .exit 0
def rs_ass (bs : List Int) (l c : Nat) : Nat × Nat × (List Int) × Int → St := fun (n, m, o, p) => ⟨(.pointer (some ⟨1, 0, none⟩) :: topV :: topV :: .slice (some ⟨4, 0, none⟩) (m + n) (m + n) :: topV :: topV :: topV :: topV :: topV :: topV :: topV :: topV :: topV :: topV :: topV :: topV :: topV :: topV :: topV :: topV :: topV :: topV :: topV :: topV :: topV :: topV :: topV :: topV :: topV :: topV :: topV :: topV :: topV :: topV :: topV :: topV :: topV :: topV :: topV :: topV :: topV :: topV :: topV :: topV :: topV :: topV :: topV :: topV :: topV :: topV :: topV :: topV :: topV :: topV :: topV :: topV :: topV :: topV :: topV :: topV :: topV :: topV :: topV :: topV :: []), [some ⟨.view, .bytes bs⟩, some ⟨.box, .vals [.slice (some ⟨0, 0, none⟩) l c, .int .i64 (ssP bs l n m o p)]⟩, some ⟨.dead, .vals []⟩, some ⟨.dead, .vals []⟩, some ⟨.row 39 4, .ints (ssL bs l n m o p)⟩]⟩
set_option maxRecDepth 100000 in
theorem tr_ass (bs : List Int) (l c : Nat) (n m : Nat) (o : List Int) (p : Int) : bodyL Try.prog ERs 30 12 noL 1 c_ass k_ass 16 (s_ass bs l c (n, m, o, p)) = brT (decide (0 < (↑n : Int))) (.need (rdK bs l p) (.need (rdK bs l (p + (2 : Int))) (brT (decide (0 < (↑m : Int))) (.need (rdC bs l (p + (2 : Int) + (2 : Int))) (brT (pickI bs l (p + 2 + 2) 3 == 0) (.need (rdC bs l (p + (2 : Int) + (2 : Int) + (1 : Int))) (.need ((0 : Int) ≤ pickI bs l (p + (2 : Int) + (2 : Int) + (1 : Int)) (↑m : Int) ∧ pickI bs l (p + (2 : Int) + (2 : Int) + (1 : Int)) (↑m : Int) < (↑m : Int)) (.need ((0 : Nat) + (pickI bs l (p + (2 : Int) + (2 : Int) + (1 : Int)) (↑m : Int)).toNat * (4 : Nat) + (2 : Nat) + (2 : Nat) ≤ o.length) (brT (negB false (o.getD (0 + (pickI bs l (p + 2 + 2 + 1) (↑m : Int)).toNat * 4 + 2) 0 == pickI bs l (p + 2) 9 - 2 && (o.getD (0 + (pickI bs l (p + 2 + 2 + 1) (↑m : Int)).toNat * 4 + 2 + 1) 0 == pickI bs l (p + 2 + 1) 9 - 2 && true))) (.need ((m + (1 : Nat)) * (32 : Nat) ≤ (140737488355328 : Nat) ∧ m + (1 : Nat) ≤ (1000000 : Nat)) (.need ((0 : Nat) + m * (4 : Nat) ≤ o.length) (.leaf .normal ⟨(.pointer (some ⟨1, 0, none⟩) :: topV :: topV :: .slice (some ⟨7, 0, none⟩) (m + 1) (m + 1) :: .int .i64 (IntKind.i64.wrap ((↑n : Int) - 1)) :: topV :: topV :: topV :: topV :: topV :: topV :: topV :: topV :: topV :: topV :: topV :: topV :: topV :: topV :: topV :: topV :: topV :: topV :: topV :: topV :: topV :: topV :: topV :: topV :: topV :: topV :: topV :: topV :: topV :: topV :: topV :: topV :: topV :: topV :: topV :: topV :: topV :: topV :: topV :: topV :: topV :: topV :: topV :: topV :: topV :: topV :: topV :: topV :: topV :: topV :: topV :: topV :: topV :: topV :: topV :: topV :: topV :: topV :: topV :: []), [some ⟨.view, .bytes (bs)⟩, some ⟨.box, .vals [.slice (some ⟨0, 0, none⟩) (l) (c), .int .i64 (p + 2 + 2 + 1 + 1)]⟩, some deadB, some deadB, some deadB, some ⟨.box, .vals [.int .i64 (o.getD (0 + (pickI bs l (p + 2 + 2 + 1) (↑m : Int)).toNat * 4 + 2) 0), .int .i64 (o.getD (0 + (pickI bs l (p + 2 + 2 + 1) (↑m : Int)).toNat * 4 + 2 + 1) 0), .int .i64 (pickI bs l (p + 2) 9 - 2), .int .i64 (IntKind.i64.wrap (pickI bs l (p + 2 + 1) 9 - 2 + 1))]⟩, some ⟨.row 39 4, .vals [.int .i64 (o.getD (0 + (pickI bs l (p + 2 + 2 + 1) (↑m : Int)).toNat * 4 + 2) 0), .int .i64 (o.getD (0 + (pickI bs l (p + 2 + 2 + 1) (↑m : Int)).toNat * 4 + 2 + 1) 0), .int .i64 (pickI bs l (p + 2) 9 - 2), .int .i64 (IntKind.i64.wrap (pickI bs l (p + 2 + 1) 9 - 2 + 1))]⟩, some ⟨.row 39 4, .ints (List.take (m * 4) (List.drop 0 o) ++ [o.getD (0 + (pickI bs l (p + 2 + 2 + 1) (↑m : Int)).toNat * 4 + 2) 0, o.getD (0 + (pickI bs l (p + 2 + 2 + 1) (↑m : Int)).toNat * 4 + 2 + 1) 0, pickI bs l (p + 2) 9 - 2, IntKind.i64.wrap (pickI bs l (p + 2 + 1) 9 - 2 + 1)])⟩]⟩))) (.need ((m + (1 : Nat)) * (32 : Nat) ≤ (140737488355328 : Nat) ∧ m + (1 : Nat) ≤ (1000000 : Nat)) (.need ((0 : Nat) + m * (4 : Nat) ≤ o.length) (.leaf .normal ⟨(.pointer (some ⟨1, 0, none⟩) :: topV :: topV :: .slice (some ⟨7, 0, none⟩) (m + 1) (m + 1) :: .int .i64 (IntKind.i64.wrap ((↑n : Int) - 1)) :: topV :: topV :: topV :: topV :: topV :: topV :: topV :: topV :: topV :: topV :: topV :: topV :: topV :: topV :: topV :: topV :: topV :: topV :: topV :: topV :: topV :: topV :: topV :: topV :: topV :: topV :: topV :: topV :: topV :: topV :: topV :: topV :: topV :: topV :: topV :: topV :: topV :: topV :: topV :: topV :: topV :: topV :: topV :: topV :: topV :: topV :: topV :: topV :: topV :: topV :: topV :: topV :: topV :: topV :: topV :: topV :: topV :: topV :: topV :: []), [some ⟨.view, .bytes (bs)⟩, some ⟨.box, .vals [.slice (some ⟨0, 0, none⟩) (l) (c), .int .i64 (p + 2 + 2 + 1 + 1)]⟩, some deadB, some deadB, some deadB, some ⟨.box, .vals [.int .i64 (o.getD (0 + (pickI bs l (p + 2 + 2 + 1) (↑m : Int)).toNat * 4 + 2) 0), .int .i64 (o.getD (0 + (pickI bs l (p + 2 + 2 + 1) (↑m : Int)).toNat * 4 + 2 + 1) 0), .int .i64 (pickI bs l (p + 2) 9 - 2), .int .i64 (pickI bs l (p + 2 + 1) 9 - 2)]⟩, some ⟨.row 39 4, .vals [.int .i64 (o.getD (0 + (pickI bs l (p + 2 + 2 + 1) (↑m : Int)).toNat * 4 + 2) 0), .int .i64 (o.getD (0 + (pickI bs l (p + 2 + 2 + 1) (↑m : Int)).toNat * 4 + 2 + 1) 0), .int .i64 (pickI bs l (p + 2) 9 - 2), .int .i64 (pickI bs l (p + 2 + 1) 9 - 2)]⟩, some ⟨.row 39 4, .ints (List.take (m * 4) (List.drop 0 o) ++ [o.getD (0 + (pickI bs l (p + 2 + 2 + 1) (↑m : Int)).toNat * 4 + 2) 0, o.getD (0 + (pickI bs l (p + 2 + 2 + 1) (↑m : Int)).toNat * 4 + 2 + 1) 0, pickI bs l (p + 2) 9 - 2, pickI bs l (p + 2 + 1) 9 - 2])⟩]⟩))))))) (brT (negB false (pickI bs l p 9 - 2 == pickI bs l (p + 2) 9 - 2 && (pickI bs l (p + 1) 9 - 2 == pickI bs l (p + 2 + 1) 9 - 2 && true))) (.need ((m + (1 : Nat)) * (32 : Nat) ≤ (140737488355328 : Nat) ∧ m + (1 : Nat) ≤ (1000000 : Nat)) (.need ((0 : Nat) + m * (4 : Nat) ≤ o.length) (.leaf .normal ⟨(.pointer (some ⟨1, 0, none⟩) :: topV :: topV :: .slice (some ⟨7, 0, none⟩) (m + 1) (m + 1) :: .int .i64 (IntKind.i64.wrap ((↑n : Int) - 1)) :: topV :: topV :: topV :: topV :: topV :: topV :: topV :: topV :: topV :: topV :: topV :: topV :: topV :: topV :: topV :: topV :: topV :: topV :: topV :: topV :: topV :: topV :: topV :: topV :: topV :: topV :: topV :: topV :: topV :: topV :: topV :: topV :: topV :: topV :: topV :: topV :: topV :: topV :: topV :: topV :: topV :: topV :: topV :: topV :: topV :: topV :: topV :: topV :: topV :: topV :: topV :: topV :: topV :: topV :: topV :: topV :: topV :: topV :: topV :: []), [some ⟨.view, .bytes (bs)⟩, some ⟨.box, .vals [.slice (some ⟨0, 0, none⟩) (l) (c), .int .i64 (p + 2 + 2 + 1)]⟩, some deadB, some deadB, some deadB, some ⟨.box, .vals [.int .i64 (pickI bs l p 9 - 2), .int .i64 (pickI bs l (p + 1) 9 - 2), .int .i64 (pickI bs l (p + 2) 9 - 2), .int .i64 (IntKind.i64.wrap (pickI bs l (p + 2 + 1) 9 - 2 + 1))]⟩, some ⟨.row 39 4, .vals [.int .i64 (pickI bs l p 9 - 2), .int .i64 (pickI bs l (p + 1) 9 - 2), .int .i64 (pickI bs l (p + 2) 9 - 2), .int .i64 (IntKind.i64.wrap (pickI bs l (p + 2 + 1) 9 - 2 + 1))]⟩, some ⟨.row 39 4, .ints (List.take (m * 4) (List.drop 0 o) ++ [pickI bs l p 9 - 2, pickI bs l (p + 1) 9 - 2, pickI bs l (p + 2) 9 - 2, IntKind.i64.wrap (pickI bs l (p + 2 + 1) 9 - 2 + 1)])⟩]⟩))) (.need ((m + (1 : Nat)) * (32 : Nat) ≤ (140737488355328 : Nat) ∧ m + (1 : Nat) ≤ (1000000 : Nat)) (.need ((0 : Nat) + m * (4 : Nat) ≤ o.length) (.leaf .normal ⟨(.pointer (some ⟨1, 0, none⟩) :: topV :: topV :: .slice (some ⟨7, 0, none⟩) (m + 1) (m + 1) :: .int .i64 (IntKind.i64.wrap ((↑n : Int) - 1)) :: topV :: topV :: topV :: topV :: topV :: topV :: topV :: topV :: topV :: topV :: topV :: topV :: topV :: topV :: topV :: topV :: topV :: topV :: topV :: topV :: topV :: topV :: topV :: topV :: topV :: topV :: topV :: topV :: topV :: topV :: topV :: topV :: topV :: topV :: topV :: topV :: topV :: topV :: topV :: topV :: topV :: topV :: topV :: topV :: topV :: topV :: topV :: topV :: topV :: topV :: topV :: topV :: topV :: topV :: topV :: topV :: topV :: topV :: topV :: []), [some ⟨.view, .bytes (bs)⟩, some ⟨.box, .vals [.slice (some ⟨0, 0, none⟩) (l) (c), .int .i64 (p + 2 + 2 + 1)]⟩, some deadB, some deadB, some deadB, some ⟨.box, .vals [.int .i64 (pickI bs l p 9 - 2), .int .i64 (pickI bs l (p + 1) 9 - 2), .int .i64 (pickI bs l (p + 2) 9 - 2), .int .i64 (pickI bs l (p + 2 + 1) 9 - 2)]⟩, some ⟨.row 39 4, .vals [.int .i64 (pickI bs l p 9 - 2), .int .i64 (pickI bs l (p + 1) 9 - 2), .int .i64 (pickI bs l (p + 2) 9 - 2), .int .i64 (pickI bs l (p + 2 + 1) 9 - 2)]⟩, some ⟨.row 39 4, .ints (List.take (m * 4) (List.drop 0 o) ++ [pickI bs l p 9 - 2, pickI bs l (p + 1) 9 - 2, pickI bs l (p + 2) 9 - 2, pickI bs l (p + 2 + 1) 9 - 2])⟩]⟩)))))) (brT (negB false (pickI bs l p 9 - 2 == pickI bs l (p + 2) 9 - 2 && (pickI bs l (p + 1) 9 - 2 == pickI bs l (p + 2 + 1) 9 - 2 && true))) (.need ((m + (1 : Nat)) * (32 : Nat) ≤ (140737488355328 : Nat) ∧ m + (1 : Nat) ≤ (1000000 : Nat)) (.need ((0 : Nat) + m * (4 : Nat) ≤ o.length) (.leaf .normal ⟨(.pointer (some ⟨1, 0, none⟩) :: topV :: topV :: .slice (some ⟨7, 0, none⟩) (m + 1) (m + 1) :: .int .i64 (IntKind.i64.wrap ((↑n : Int) - 1)) :: topV :: topV :: topV :: topV :: topV :: topV :: topV :: topV :: topV :: topV :: topV :: topV :: topV :: topV :: topV :: topV :: topV :: topV :: topV :: topV :: topV :: topV :: topV :: topV :: topV :: topV :: topV :: topV :: topV :: topV :: topV :: topV :: topV :: topV :: topV :: topV :: topV :: topV :: topV :: topV :: topV :: topV :: topV :: topV :: topV :: topV :: topV :: topV :: topV :: topV :: topV :: topV :: topV :: topV :: topV :: topV :: topV :: topV :: topV :: []), [some ⟨.view, .bytes (bs)⟩, some ⟨.box, .vals [.slice (some ⟨0, 0, none⟩) (l) (c), .int .i64 (p + 2 + 2)]⟩, some deadB, some deadB, some deadB, some ⟨.box, .vals [.int .i64 (pickI bs l p 9 - 2), .int .i64 (pickI bs l (p + 1) 9 - 2), .int .i64 (pickI bs l (p + 2) 9 - 2), .int .i64 (IntKind.i64.wrap (pickI bs l (p + 2 + 1) 9 - 2 + 1))]⟩, some ⟨.row 39 4, .vals [.int .i64 (pickI bs l p 9 - 2), .int .i64 (pickI bs l (p + 1) 9 - 2), .int .i64 (pickI bs l (p + 2) 9 - 2), .int .i64 (IntKind.i64.wrap (pickI bs l (p + 2 + 1) 9 - 2 + 1))]⟩, some ⟨.row 39 4, .ints (List.take (m * 4) (List.drop 0 o) ++ [pickI bs l p 9 - 2, pickI bs l (p + 1) 9 - 2, pickI bs l (p + 2) 9 - 2, IntKind.i64.wrap (pickI bs l (p + 2 + 1) 9 - 2 + 1)])⟩]⟩))) (.need ((m + (1 : Nat)) * (32 : Nat) ≤ (140737488355328 : Nat) ∧ m + (1 : Nat) ≤ (1000000 : Nat)) (.need ((0 : Nat) + m * (4 : Nat) ≤ o.length) (.leaf .normal ⟨(.pointer (some ⟨1, 0, none⟩) :: topV :: topV :: .slice (some ⟨7, 0, none⟩) (m + 1) (m + 1) :: .int .i64 (IntKind.i64.wrap ((↑n : Int) - 1)) :: topV :: topV :: topV :: topV :: topV :: topV :: topV :: topV :: topV :: topV :: topV :: topV :: topV :: topV :: topV :: topV :: topV :: topV :: topV :: topV :: topV :: topV :: topV :: topV :: topV :: topV :: topV :: topV :: topV :: topV :: topV :: topV :: topV :: topV :: topV :: topV :: topV :: topV :: topV :: topV :: topV :: topV :: topV :: topV :: topV :: topV :: topV :: topV :: topV :: topV :: topV :: topV :: topV :: topV :: topV :: topV :: topV :: topV :: topV :: []), [some ⟨.view, .bytes (bs)⟩, some ⟨.box, .vals [.slice (some ⟨0, 0, none⟩) (l) (c), .int .i64 (p + 2 + 2)]⟩, some deadB, some deadB, some deadB, some ⟨.box, .vals [.int .i64 (pickI bs l p 9 - 2), .int .i64 (pickI bs l (p + 1) 9 - 2), .int .i64 (pickI bs l (p + 2) 9 - 2), .int .i64 (pickI bs l (p + 2 + 1) 9 - 2)]⟩, some ⟨.row 39 4, .vals [.int .i64 (pickI bs l p 9 - 2), .int .i64 (pickI bs l (p + 1) 9 - 2), .int .i64 (pickI bs l (p + 2) 9 - 2), .int .i64 (pickI bs l (p + 2 + 1) 9 - 2)]⟩, some ⟨.row 39 4, .ints (List.take (m * 4) (List.drop 0 o) ++ [pickI bs l p 9 - 2, pickI bs l (p + 1) 9 - 2, pickI bs l (p + 2) 9 - 2, pickI bs l (p + 2 + 1) 9 - 2])⟩]⟩))))))) (.leaf (.exit 0) ⟨(.pointer (some ⟨1, 0, none⟩) :: topV :: topV :: .slice (some ⟨4, 0, none⟩) (m) (m) :: topV :: topV :: topV :: topV :: topV :: topV :: topV :: topV :: topV :: topV :: topV :: topV :: topV :: topV :: topV :: topV :: topV :: topV :: topV :: topV :: topV :: topV :: topV :: topV :: topV :: topV :: topV :: topV :: topV :: topV :: topV :: topV :: topV :: topV :: topV :: topV :: topV :: topV :: topV :: topV :: topV :: topV :: topV :: topV :: topV :: topV :: topV :: topV :: topV :: topV :: topV :: topV :: topV :: topV :: topV :: topV :: topV :: topV :: topV :: topV :: []), [some ⟨.view, .bytes (bs)⟩, some ⟨.box, .vals [.slice (some ⟨0, 0, none⟩) (l) (c), .int .i64 (p)]⟩, some deadB, some deadB, some ⟨.row 39 4, .ints (o)⟩]⟩) := by kernel_rfl
set_option maxRecDepth 100000 in
theorem nl_ass : loopsOf c_ass = [] := by kernel_rfl
def inv_ass (bs : List Int) (l c : Nat) : Nat × Nat × (List Int) × Int → Prop := fun (n, m, o, p) => m + n ≤ 100 ∧ o.length = m * 4 ∧ 0 ≤ p ∧ p + 6 * n ≤ 900000
def me_ass (bs : List Int) (l c : Nat) : Nat × Nat × (List Int) × Int → Nat := fun (n, m, o, p) => n
/-- A round of this loop. -/
def Round_ass (bs : List Int) (l c : Nat) : Prop := ∀ xx : Nat × Nat × (List Int) × Int, inv_ass bs l c xx → (bodyL Try.prog ERs 30 12 noL 1 c_ass k_ass 16 (s_ass bs l c xx)).ok (RoundEnd 4 (s_ass bs l c) (inv_ass bs l c) (me_ass bs l c) re_ass (rs_ass bs l c) xx) (fun _ _ => False)
def e_ass (s : St) (k : Ex → St → Tree) : Option Tree := match Nat.beq s.tmps.length 64, pickL s.tmps [0, 3, 4], s.mem with
  | true, [.pointer (some ⟨1, 0, none⟩), .slice (some ⟨2, 0, none⟩) z _, .int .i64 n1], [some ⟨.view, .bytes bs⟩, some ⟨.box, .vals [.slice (some ⟨0, 0, none⟩) l c, .int .i64 p]⟩, some ⟨.row 39 4, .vals []⟩, some ⟨.row 3 1, .vals w⟩] => some (needs [z = 0, 0 ≤ n1 ∧ n1 ≤ 100, l ≤ bs.length ∧ l ≤ 2000 ∧ Bytes bs, 0 ≤ p ∧ p ≤ 800000] (k (.exit 0) ⟨(.pointer (some ⟨1, 0, none⟩) :: topV :: topV :: .slice (some ⟨4, 0, none⟩) (0 + n1.toNat) (0 + n1.toNat) :: topV :: topV :: topV :: topV :: topV :: topV :: topV :: topV :: topV :: topV :: topV :: topV :: topV :: topV :: topV :: topV :: topV :: topV :: topV :: topV :: topV :: topV :: topV :: topV :: topV :: topV :: topV :: topV :: topV :: topV :: topV :: topV :: topV :: topV :: topV :: topV :: topV :: topV :: topV :: topV :: topV :: topV :: topV :: topV :: topV :: topV :: topV :: topV :: topV :: topV :: topV :: topV :: topV :: topV :: topV :: topV :: topV :: topV :: topV :: topV :: []), [some ⟨.view, .bytes bs⟩, some ⟨.box, .vals [.slice (some ⟨0, 0, none⟩) l c, .int .i64 (ssP bs l n1.toNat 0 [] p)]⟩, some ⟨.dead, .vals []⟩, some ⟨.dead, .vals []⟩, some ⟨.row 39 4, .ints (ssL bs l n1.toNat 0 [] p)⟩]⟩))
  | _, _, _ => none
set_option maxRecDepth 100000 in
set_option maxHeartbeats 4000000 in
theorem round_ass (bs : List Int) (l c : Nat) (h : l ≤ bs.length ∧ l ≤ 2000 ∧ Bytes bs) : Round_ass bs l c := by
  rintro ⟨n, m, o, p⟩ ⟨h1, h2, h3, h4⟩
  rw [tr_ass]
  have fk : List.take (m * 4) (List.drop 0 o) = o := by rw [List.drop_zero]; exact List.take_of_length_le (by omega)
  simp only [fk, Nat.zero_add, show p + 2 + 2 = p + 4 by omega, show p + 4 + 1 = p + 5 by omega, show p + 5 + 1 = p + 6 by omega, show p + 2 + 1 = p + 3 by omega, eqB_v]
  refine brT_ok.2 ⟨fun hlt => ?_, fun hge => ?_⟩
  · have hlt := of_decide_eq_true hlt
    obtain ⟨n, rfl⟩ : ∃ k, n = k + 1 := ⟨n - 1, by omega⟩
    have hr : rdK bs l p := ⟨⟨h.1, h.2.1, h3, by omega, h.2.2⟩, by omega⟩
    have hr2 : rdK bs l (p + 2) := ⟨⟨h.1, h.2.1, by omega, by omega, h.2.2⟩, by omega⟩
    have ra : ∀ q : Int, p ≤ q → q ≤ p + 100 → rdC bs l q := fun q g1 g2 => hr.at g1 (by omega)
    have e : IntKind.i64.wrap (((n + 1 : Nat) : Int) - 1) = (n : Int) := by rw [wr (by omega)]; omega
    have b3 := pickI_bd (k := 9) (ra (p + 3) (by omega) (by omega)) (by omega)
    have w3 : IntKind.i64.wrap (pickI bs l (p + 3) 9 - 2 + 1) = pickI bs l (p + 3) 9 - 2 + 1 := wr (by omega)
    rw [e, w3]
    have fin : ∀ x y z q, sjX bs l m o p = x → sjY bs l m o p = y → sjZ bs l m o p = z → sjP bs l m p = q → p + 4 ≤ q → q ≤ p + 6 →
        (Tree.leaf .normal ⟨[.pointer (some ⟨1, 0, none⟩), topV, topV, .slice (some ⟨7, 0, none⟩) (m + 1) (m + 1), .int .i64 n, topV, topV, topV, topV, topV, topV, topV, topV, topV, topV, topV, topV, topV, topV, topV, topV, topV, topV, topV, topV, topV, topV, topV, topV, topV, topV, topV, topV, topV, topV, topV, topV, topV, topV, topV, topV, topV, topV, topV, topV, topV, topV, topV, topV, topV, topV, topV, topV, topV, topV, topV, topV, topV, topV, topV, topV, topV, topV, topV], [some ⟨.view, .bytes bs⟩, some ⟨.box, .vals [.slice (some ⟨0, 0, none⟩) l c, .int .i64 q]⟩, some ⟨.dead, .vals []⟩, some ⟨.dead, .vals []⟩, some ⟨.dead, .vals []⟩, some ⟨.box, .vals [.int .i64 x, .int .i64 y, .int .i64 (pickI bs l (p + 2) 9 - 2), .int .i64 z]⟩, some ⟨.row 39 4, .vals [.int .i64 x, .int .i64 y, .int .i64 (pickI bs l (p + 2) 9 - 2), .int .i64 z]⟩, some ⟨.row 39 4, .ints (o ++ [x, y, pickI bs l (p + 2) 9 - 2, z])⟩]⟩).ok (RoundEnd 4 (s_ass bs l c) (inv_ass bs l c) (me_ass bs l c) re_ass (rs_ass bs l c) (n + 1, m, o, p)) (fun _ _ => False) := fun x y z q e1 e2 e3 e4 g1 g2 => by
      have eO : sjO bs l m o p = o ++ [x, y, pickI bs l (p + 2) 9 - 2, z] := by unfold sjO; rw [e1, e2, e3]
      refine ⟨(n, m + 1, o ++ [x, y, pickI bs l (p + 2) 9 - 2, z], q), [some 7], ⟨by omega, by simp; omega, by omega, by omega⟩, ?_, rfl, ?_, ?_⟩
      · show n < n + 1; omega
      · simp only [rs_ass, ssL, ssP, eO, e4]
        rw [show m + (n + 1) = m + 1 + n by omega]
      · repeat' (first | exact True.intro | exact rfl | exact fun _ => rfl | (simp; done) | refine And.intro ?_ ?_)
    refine ⟨hr, hr2, brT_ok.2 ⟨fun hm => ⟨ra _ (by omega) (by omega), brT_ok.2 ⟨fun hk => ?_, fun hk => ?_⟩⟩, fun hm => ?_⟩⟩
    · have hm := of_decide_eq_true hm
      have bm := pickI_bd (k := (m : Int)) (ra (p + 5) (by omega) (by omega)) (by omega)
      have q1 : sjQ bs l m p = true := by unfold sjQ; rw [decide_eq_true (show 0 < m by omega), hk]; rfl
      have eX : sjX bs l m o p = o.getD ((pickI bs l (p + 5) m).toNat * 4 + 2) 0 := by unfold sjX; rw [q1]; rfl
      have eY : sjY bs l m o p = o.getD ((pickI bs l (p + 5) m).toNat * 4 + 2 + 1) 0 := by unfold sjY; rw [q1]; rfl
      have eP : sjP bs l m p = p + 6 := by unfold sjP; rw [decide_eq_true (show 0 < m by omega), hk]; rfl
      refine ⟨ra _ (by omega) (by omega), ⟨by omega, by omega⟩, by omega, brT_ok.2 ⟨fun hz => ⟨by omega, by omega, ?_⟩, fun hz => ⟨by omega, by omega, ?_⟩⟩⟩
      · exact fin _ _ _ _ eX eY (by unfold sjZ; rw [eX, eY, hz]; rfl) eP (by omega) (by omega)
      · exact fin _ _ _ _ eX eY (by unfold sjZ; rw [eX, eY, hz]; rfl) eP (by omega) (by omega)
    · have hm := of_decide_eq_true hm
      have q1 : sjQ bs l m p = false := by unfold sjQ; rw [hk, Bool.and_false]
      have eX : sjX bs l m o p = pickI bs l p 9 - 2 := by unfold sjX; rw [q1]; rfl
      have eY : sjY bs l m o p = pickI bs l (p + 1) 9 - 2 := by unfold sjY; rw [q1]; rfl
      have eP : sjP bs l m p = p + 5 := by unfold sjP; rw [decide_eq_true (show 0 < m by omega), hk]; rfl
      refine brT_ok.2 ⟨fun hz => ⟨by omega, by omega, ?_⟩, fun hz => ⟨by omega, by omega, ?_⟩⟩
      · exact fin _ _ _ _ eX eY (by unfold sjZ; rw [eX, eY, hz]; rfl) eP (by omega) (by omega)
      · exact fin _ _ _ _ eX eY (by unfold sjZ; rw [eX, eY, hz]; rfl) eP (by omega) (by omega)
    · have hm := of_decide_eq_false hm
      have q1 : sjQ bs l m p = false := by unfold sjQ; rw [decide_eq_false (show ¬ 0 < m by omega)]; rfl
      have eX : sjX bs l m o p = pickI bs l p 9 - 2 := by unfold sjX; rw [q1]; rfl
      have eY : sjY bs l m o p = pickI bs l (p + 1) 9 - 2 := by unfold sjY; rw [q1]; rfl
      have eP : sjP bs l m p = p + 4 := by unfold sjP; rw [decide_eq_false (show ¬ 0 < m by omega)]; rfl
      refine brT_ok.2 ⟨fun hz => ⟨by omega, by omega, ?_⟩, fun hz => ⟨by omega, by omega, ?_⟩⟩
      · exact fin _ _ _ _ eX eY (by unfold sjZ; rw [eX, eY, hz]; rfl) eP (by omega) (by omega)
      · exact fin _ _ _ _ eX eY (by unfold sjZ; rw [eX, eY, hz]; rfl) eP (by omega) (by omega)
  · have hge := of_decide_eq_false hge
    obtain rfl : n = 0 := by omega
    refine ⟨rfl, [some 4], ?_⟩
    simp only [rs_ass, ssL, ssP]
    repeat' (first | exact True.intro | exact rfl | exact fun _ => rfl | (simp; done) | refine And.intro ?_ ?_)
set_option maxRecDepth 100000 in
theorem lg_ass : LoopE Try.prog e_ass c_ass := by
  intro s k t F H hlt ht
  unfold e_ass at hlt
  split at hlt
  rotate_left
  · cases hlt
  rename_i hlen hpick hmem
  obtain ⟨tmps, mem⟩ := s
  simp only at hlen hpick hmem
  subst hmem
  obtain rfl := Option.some.inj hlt
  obtain ⟨⟨rfl, h1, h2, h3, _⟩, ht2⟩ := needs_ok ht
  clear ht hlt
  obtain ⟨n, rfl⟩ := Int.eq_ofNat_of_zero_le h1.1
  simp only [Int.toNat_natCast] at ht2
  refine ⟨_, _, ht2, loop_run2 mixed ERs_ok (s_ass _ _ _) (inv_ass _ _ _) (me_ass _ _ _) re_ass (rs_ass _ _ _) k_ass (fun _ => rfl) (noLoops nl_ass) (round_ass _ _ _ h2) (x := (n, 0, [], _)) ⟨by omega, rfl, h3.1, by omega⟩ (π := [some 2]) rfl ?_⟩
  refine ⟨rfl, rfl, ?_, wvs_spread' [0, 3, 4] hlen rfl ?_⟩
  · repeat' (first | exact True.intro | exact rfl | exact wv_top _ _ | exact fun _ => rfl | assumption | exact Eq.symm (by assumption) | exact vI0 rfl | refine And.intro ?_ ?_)
  · rw [hpick]
    repeat' (first | exact True.intro | exact rfl | exact wv_top _ _ | exact fun _ => rfl | assumption | exact Eq.symm (by assumption) | exact vI0 rfl | refine And.intro ?_ ?_)
end Go.Proofs.Ytolodncpegajkaa
namespace Go.Proofs.Ytolodncpegajkaa
set_option linter.all false
open Go.RowKit
theorem Lr_ass {fn : Func} (hf : Try.prog.funcs[69]? = some fn) : LoopsGood Try.prog (lt1 e_ass) 0 (codeOf fn) := by
  obtain rfl := fn_is Try.func69 hf
  exact lt1_good lg_ass
def LAs : FuncId → LT := fun f => match f with
  | 69 => lt1 e_ass
  | _ => noL
def EAs : Env := ⟨B0, fun _ _ => none, LAs, tabJ J5a, fun _ => noR⟩
theorem EAs_ok : EnvOk Try.prog EAs := ⟨B0_ok, fun _ _ _ _ _ h => (by cases h), (by
  intro f fn hf
  show LoopsGood Try.prog (LAs f) 0 (codeOf fn)
  unfold LAs
  split
  all_goals first | with_reducible exact Lr_ass hf | exact noL_good), tabJ_sound mixed J5a_ok, fun _ _ _ => noR_good⟩
set_option maxRecDepth 100000 in
theorem tr_asF (bs : List Int) (l c : Nat) (p : Int) : bodyM Try.prog EAs (runM Try.prog EAs 30 12) 30 69 [.pointer (some ⟨1, 0, none⟩)] (memR bs l c p none) .fin = .need (rdC bs l p) (.need ((1 : Nat) ≤ (7 : Nat) ∧ (7 : Nat) ≤ (7 : Nat) ∧ (7 : Nat) = (7 : Nat)) (.need ((0 : Nat) = (0 : Nat)) (.need ((0 : Int) ≤ oneI bs l p (7 : Nat) [(0 : Int), (1 : Int), (2 : Int), (3 : Int), (4 : Int), (6 : Int), (13 : Int)] ∧ oneI bs l p (7 : Nat) [(0 : Int), (1 : Int), (2 : Int), (3 : Int), (4 : Int), (6 : Int), (13 : Int)] ≤ (100 : Int)) (.need (l ≤ bs.length ∧ l ≤ (2000 : Nat) ∧ Bytes bs) (.need ((0 : Int) ≤ p + (1 : Int) ∧ p + (1 : Int) ≤ (800000 : Int)) (brT (decide (0 < (↑(0 + (oneI bs l p 7 [0, 1, 2, 3, 4, 6, 13]).toNat) : Int))) (.need (rdC bs l (ssP bs l (oneI bs l p (7 : Nat) [(0 : Int), (1 : Int), (2 : Int), (3 : Int), (4 : Int), (6 : Int), (13 : Int)]).toNat (0 : Nat) [] (p + (1 : Int)))) (brT (pickI bs l (ssP bs l (oneI bs l p 7 [0, 1, 2, 3, 4, 6, 13]).toNat 0 [] (p + 1)) 12 == 0) (.need (rdK bs l (ssP bs l (oneI bs l p (7 : Nat) [(0 : Int), (1 : Int), (2 : Int), (3 : Int), (4 : Int), (6 : Int), (13 : Int)]).toNat (0 : Nat) [] (p + (1 : Int)) + (1 : Int))) (.need (rdK bs l (apP bs l (ssP bs l (oneI bs l p (7 : Nat) [(0 : Int), (1 : Int), (2 : Int), (3 : Int), (4 : Int), (6 : Int), (13 : Int)]).toNat (0 : Nat) [] (p + (1 : Int)) + (1 : Int)))) (.need ((0 : Int) ≤ (0 : Int) ∧ (0 : Int) < (↑((0 : Nat) + (oneI bs l p (7 : Nat) [(0 : Int), (1 : Int), (2 : Int), (3 : Int), (4 : Int), (6 : Int), (13 : Int)]).toNat) : Int)) (.need ((4 : Nat) ≤ (ssL bs l (oneI bs l p (7 : Nat) [(0 : Int), (1 : Int), (2 : Int), (3 : Int), (4 : Int), (6 : Int), (13 : Int)]).toNat (0 : Nat) [] (p + (1 : Int))).length) (.fin (.slice (some ⟨4, 0, none⟩) (0 + (oneI bs l p 7 [0, 1, 2, 3, 4, 6, 13]).toNat) (0 + (oneI bs l p 7 [0, 1, 2, 3, 4, 6, 13]).toNat)) [some ⟨.view, .bytes (bs)⟩, some ⟨.box, .vals [.slice (some ⟨0, 0, none⟩) (l) (c), .int .i64 (asP bs l (ssP bs l (oneI bs l p 7 [0, 1, 2, 3, 4, 6, 13]).toNat 0 [] (p + 1) + 1))]⟩, some deadB, some deadB, some ⟨.row 39 4, .ints (setInts (ssL bs l (oneI bs l p 7 [0, 1, 2, 3, 4, 6, 13]).toNat 0 [] (p + 1)) 0 [apX bs l (ssP bs l (oneI bs l p 7 [0, 1, 2, 3, 4, 6, 13]).toNat 0 [] (p + 1) + 1), apY bs l (ssP bs l (oneI bs l p 7 [0, 1, 2, 3, 4, 6, 13]).toNat 0 [] (p + 1) + 1), asX bs l (ssP bs l (oneI bs l p 7 [0, 1, 2, 3, 4, 6, 13]).toNat 0 [] (p + 1) + 1), asY bs l (ssP bs l (oneI bs l p 7 [0, 1, 2, 3, 4, 6, 13]).toNat 0 [] (p + 1) + 1)])⟩]))))) (.fin (.slice (some ⟨4, 0, none⟩) (0 + (oneI bs l p 7 [0, 1, 2, 3, 4, 6, 13]).toNat) (0 + (oneI bs l p 7 [0, 1, 2, 3, 4, 6, 13]).toNat)) [some ⟨.view, .bytes (bs)⟩, some ⟨.box, .vals [.slice (some ⟨0, 0, none⟩) (l) (c), .int .i64 (ssP bs l (oneI bs l p 7 [0, 1, 2, 3, 4, 6, 13]).toNat 0 [] (p + 1) + 1)]⟩, some deadB, some deadB, some ⟨.row 39 4, .ints (ssL bs l (oneI bs l p 7 [0, 1, 2, 3, 4, 6, 13]).toNat 0 [] (p + 1))⟩]))) (.fin (.slice (some ⟨4, 0, none⟩) (0 + (oneI bs l p 7 [0, 1, 2, 3, 4, 6, 13]).toNat) (0 + (oneI bs l p 7 [0, 1, 2, 3, 4, 6, 13]).toNat)) [some ⟨.view, .bytes (bs)⟩, some ⟨.box, .vals [.slice (some ⟨0, 0, none⟩) (l) (c), .int .i64 (ssP bs l (oneI bs l p 7 [0, 1, 2, 3, 4, 6, 13]).toNat 0 [] (p + 1))]⟩, some deadB, some deadB, some ⟨.row 39 4, .ints (ssL bs l (oneI bs l p 7 [0, 1, 2, 3, 4, 6, 13]).toNat 0 [] (p + 1))⟩]))))))) := by kernel_rfl
def asC : List Int := [0, 1, 2, 3, 4, 6, 13]
theorem asC_bd (k : Nat) : 0 ≤ asC.getD k 0 ∧ asC.getD k 0 ≤ 13 := by
  unfold asC
  match k with
  | 0 => decide
  | 1 => decide
  | 2 => decide
  | 3 => decide
  | 4 => decide
  | 5 => decide
  | 6 => decide
  | n + 7 => simp
/-- How many segments are drawn. -/
def asN (bs : List Int) (l : Nat) (p : Int) : Nat := (oneI bs l p 7 asC).toNat
def asM (bs : List Int) (l : Nat) (p : Int) : List Int := ssL bs l (asN bs l p) 0 [] (p + 1)
def asW (bs : List Int) (l : Nat) (p : Int) : Int := ssP bs l (asN bs l p) 0 [] (p + 1)
def anL (bs : List Int) (l : Nat) (p : Int) : List Int := bif decide (0 < asN bs l p) && pickI bs l (asW bs l p) 12 == 0 then setInts (asM bs l p) 0 [apX bs l (asW bs l p + 1), apY bs l (asW bs l p + 1), asX bs l (asW bs l p + 1), asY bs l (asW bs l p + 1)] else asM bs l p
def anE (bs : List Int) (l : Nat) (p : Int) : Int := bif decide (0 < asN bs l p) then (bif pickI bs l (asW bs l p) 12 == 0 then asP bs l (asW bs l p + 1) else asW bs l p + 1) else asW bs l p
theorem ss_bd (bs : List Int) (l : Nat) : ∀ (n m : Nat) (o : List Int) (p : Int), (ssL bs l n m o p).length = o.length + n * 4 ∧ p ≤ ssP bs l n m o p ∧ ssP bs l n m o p ≤ p + 6 * n
  | 0, m, o, p => ⟨rfl, Int.le_refl _, by simp [ssP]⟩
  | n + 1, m, o, p => by
    obtain ⟨h1, h2, h3⟩ := ss_bd bs l n (m + 1) (sjO bs l m o p) (sjP bs l m p)
    have k1 : (sjO bs l m o p).length = o.length + 4 := by unfold sjO; simp
    have k2 : p + 4 ≤ sjP bs l m p ∧ sjP bs l m p ≤ p + 6 := by
      unfold sjP
      cases decide (0 < m) <;> cases (pickI bs l (p + 4) 3 == 0) <;> simp only [cond_true, cond_false] <;> omega
    simp only [ssL, ssP]
    omega
theorem asN_bd (bs : List Int) (l : Nat) (p : Int) : asN bs l p ≤ 13 := by
  have := asC_bd (pickI bs l p (7 : Nat)).toNat
  unfold asN oneI
  omega
theorem anL_len (bs : List Int) (l : Nat) (p : Int) : (anL bs l p).length = asN bs l p * 4 := by
  have h := (ss_bd bs l (asN bs l p) 0 [] (p + 1)).1
  rw [List.length_nil, Nat.zero_add] at h
  have h : (asM bs l p).length = asN bs l p * 4 := h
  unfold anL
  rcases hc : (decide (0 < asN bs l p) && pickI bs l (asW bs l p) 12 == 0) with _ | _
  · exact h
  · have g := of_decide_eq_true (Bool.and_eq_true_iff.1 hc).1
    rw [cond_true]
    simp only [setInts, List.length_append, List.length_take, List.length_drop, List.length_cons, List.length_nil]
    omega
def anyS : RSpecR := fun bs l p rest => match rest with
  | [] => some (.slice (some ⟨0, 0, none⟩) (asN bs l p) (asN bs l p), ⟨.row 39 4, .ints (anL bs l p)⟩, anE bs l p, [rdC bs l p, p ≤ 700000])
  | _ => none
theorem anyS_ok : SpecROk Try.prog 69 anyS := by
  intro bs l c p rest v b p' C h hC
  unfold anyS at h
  split at h
  rotate_left
  · cases h
  obtain ⟨rfl, rfl, rfl, rfl⟩ : (.slice (some ⟨0, 0, none⟩) (asN bs l p) (asN bs l p) : Value) = v ∧ (⟨.row 39 4, .ints (anL bs l p)⟩ : Blk) = b ∧ anE bs l p = p' ∧ [rdC bs l p, p ≤ 700000] = C := by simpa using h
  obtain ⟨h1, h2, _⟩ := hC
  refine ⟨rfl, EAs, 30, 12, EAs_ok, ?_⟩
  rw [tr_asF]
  have h0 := h1.2.2.1
  have b0 := asC_bd (pickI bs l p (7 : Nat)).toNat
  have b1 : oneI bs l p 7 [0, 1, 2, 3, 4, 6, 13] = asC.getD (pickI bs l p (7 : Nat)).toNat 0 := rfl
  have bn := asN_bd bs l p
  obtain ⟨m1, m2, m3⟩ := ss_bd bs l (asN bs l p) 0 [] (p + 1)
  have eN : (oneI bs l p 7 [0, 1, 2, 3, 4, 6, 13]).toNat = asN bs l p := rfl
  rw [eN, b1]
  have eL : ssL bs l (asN bs l p) 0 [] (p + 1) = asM bs l p := rfl
  have eZ : ssP bs l (asN bs l p) 0 [] (p + 1) = asW bs l p := rfl
  rw [eL, List.length_nil] at m1
  rw [eZ] at m2 m3
  rw [eL, eZ]
  simp only [Nat.zero_add]
  have rk : ∀ q : Int, p ≤ q → q ≤ p + 1000 → rdK bs l q := fun q g1 g2 => ⟨⟨h1.1, h1.2.1, by omega, by omega, h1.2.2.2.2⟩, by omega⟩
  have ab := apP_bd bs l (asW bs l p + 1)
  refine ⟨h1, by decide, trivial, ⟨by omega, by omega⟩, ⟨h1.1, h1.2.1, h1.2.2.2.2⟩, ⟨by omega, by omega⟩, brT_ok.2 ⟨fun g => ?_, fun g => ?_⟩⟩
  · have g2 : 0 < asN bs l p := by have := of_decide_eq_true g; omega
    refine ⟨(rk _ (by omega) (by omega)).1, brT_ok.2 ⟨fun k => ?_, fun k => ?_⟩⟩
    · have eE : anE bs l p = asP bs l (asW bs l p + 1) := by unfold anE; rw [decide_eq_true g2, cond_true, k, cond_true]
      have eA : anL bs l p = setInts (asM bs l p) 0 [apX bs l (asW bs l p + 1), apY bs l (asW bs l p + 1), asX bs l (asW bs l p + 1), asY bs l (asW bs l p + 1)] := by unfold anL; rw [decide_eq_true g2, k]; rfl
      rw [eA, eE]
      exact ⟨rk _ (by omega) (by omega), rk _ (by omega) (by omega), ⟨by omega, by omega⟩, by omega, rfl, some 4, ⟨rfl, rfl, rfl⟩, rfl, rfl, rfl⟩
    · have eE : anE bs l p = asW bs l p + 1 := by unfold anE; rw [decide_eq_true g2, cond_true, k, cond_false]
      have eA : anL bs l p = asM bs l p := by unfold anL; rw [k, Bool.and_false]; rfl
      rw [eA, eE]
      exact ⟨rfl, some 4, ⟨rfl, rfl, rfl⟩, rfl, rfl, rfl⟩
  · have g2 : ¬ 0 < asN bs l p := by have := of_decide_eq_false g; omega
    have eE : anE bs l p = asW bs l p := by unfold anE; rw [decide_eq_false g2, cond_false]
    have eA : anL bs l p = asM bs l p := by unfold anL; rw [decide_eq_false g2]; rfl
    rw [eA, eE]
    exact ⟨rfl, some 4, ⟨rfl, rfl, rfl⟩, rfl, rfl, rfl⟩
def JAs : TabJ := consR 69 (rdGR anyS) (tabJ J2)
theorem JAs_ok : GSound Try.prog JAs.g := consR_ok mixed (tabJ_sound mixed J2_ok) (entersB_res (by kernel_rfl)).1 anyS_ok
def EDs : Env := ⟨B0, fun _ _ => none, fun _ => noL, JAs, fun _ => noR⟩
theorem EDs_ok : EnvOk Try.prog EDs := ⟨B0_ok, fun _ _ _ _ _ h => (by cases h), fun _ _ _ => noL_good, JAs_ok, fun _ _ _ => noR_good⟩
set_option maxRecDepth 100000 in
theorem tr_dMp (bs : List Int) (n : Nat) : bodyX Try.prog EDs 30 12 24 [.row n (.bytes bs)] = brT (decide (2000 < (↑n : Int))) (.need ((0 : Int) ≤ bndI none (0 : Int) ∧ bndI none (0 : Int) ≤ bndI (some (IntKind.i64, (2000 : Int))) (↑n : Int) ∧ bndI (some (IntKind.i64, (2000 : Int))) (↑n : Int) ≤ (↑n : Int)) (.need (rdC bs (2000 : Nat) (0 : Int)) (.need ((0 : Int) ≤ (700000 : Int)) (.fin (.slice (some ⟨2, 0, none⟩) (asN bs 2000 0) (asN bs 2000 0)) [some ⟨.view, .bytes (bs)⟩, some ⟨.box, .vals [.slice (some ⟨0, 0, none⟩) (2000) (2000), .int .i64 (anE bs 2000 0)]⟩, some ⟨.row 39 4, .ints (anL bs 2000 0)⟩])))) (.need (rdC bs n (0 : Int)) (.need ((0 : Int) ≤ (700000 : Int)) (.fin (.slice (some ⟨2, 0, none⟩) (asN bs n 0) (asN bs n 0)) [some ⟨.view, .bytes (bs)⟩, some ⟨.box, .vals [.slice (some ⟨0, 0, none⟩) (n) (n), .int .i64 (anE bs n 0)]⟩, some ⟨.row 39 4, .ints (anL bs n 0)⟩]))) := by kernel_rfl
theorem resR_dMp (bs : List Int) (n : Nat) (hb : Bytes bs) (hn : n ≤ bs.length) : ResR Try.prog 24 [.row n (.bytes bs)] (.slice (some ⟨0, 0, none⟩) (asN bs (rdL n) 0) (asN bs (rdL n) 0)) ⟨.row 39 4, .ints (anL bs (rdL n) 0)⟩ := by
  refine bodyX_resR mixed EDs_ok (m := 30) (n := 12) rfl ?_
  rw [tr_dMp]
  refine brT_ok.2 ⟨fun h => ?_, fun h => ?_⟩
  · have h := of_decide_eq_true h
    have k1 : rdC bs 2000 0 := (rdK0 hb hn (l := 2000) (by omega) (by omega) (p := 0) (by omega) (by omega)).1
    rw [rdL_of h]
    exact ⟨bnd2000 h, k1, by omega, some 2, ⟨rfl, rfl, rfl⟩, rfl, rfl, rfl⟩
  · have h := of_decide_eq_false h
    have k1 : rdC bs n 0 := (rdK0 hb hn (l := n) (by omega) (by omega) (p := 0) (by omega) (by omega)).1
    rw [rdL_no h]
    exact ⟨k1, by omega, some 2, ⟨rfl, rfl, rfl⟩, rfl, rfl, rfl⟩
end Go.Proofs.Ytolodncpegajkaa
namespace Go.Proofs.Ytolodncpegajkaa
set_option linter.all false
open Go.RowKit
theorem negTw (b : Bool) : negB true b = !b := by cases b <;> rfl
theorem negFw (b : Bool) : negB false b = b := by cases b <;> rfl
noncomputable def c_eqW : Code := ((loopsOf (codeOf Try.f25))[0]?).getD .skip
def k_eqW : Ex → List Nat := keeps [0, 1, 5] [(0, [])] [4]
def s_eqW (ps : List Pt) : Nat → St := fun i => ⟨[.slice (some ⟨0, 0, none⟩) ps.length ps.length, .slice (some ⟨1, 0, none⟩) ps.length ps.length, topV, topV, topV, .int .i64 i, topV, topV, topV, topV, topV, topV, topV, topV, topV, topV, topV, topV, topV, topV, topV, topV, topV, topV, topV, topV], [some ⟨.view, .ints (flat ps)⟩, some ⟨.view, .ints (flat ps)⟩]⟩
def re_eqW : Nat → Ex := fun _ => .exit 0
def rs_eqW (ps : List Pt) : Nat → St := fun i => ⟨[topV, topV, topV, topV, topV, topV, topV, topV, topV, topV, topV, topV, topV, topV, topV, topV, topV, topV, topV, topV, topV, topV, topV, topV, topV, topV], [some ⟨.view, .ints (flat ps)⟩, some ⟨.view, .ints (flat ps)⟩]⟩
set_option maxRecDepth 100000 in
theorem tr_eqW (ps : List Pt) (i : Nat) : bodyL Try.prog EM 30 12 noL 1 c_eqW k_eqW 2 (s_eqW ps i) = brT (decide ((↑i : Int) < (↑ps.length : Int))) (.need ((0 : Int) ≤ (↑i : Int) ∧ (↑i : Int) < (↑ps.length : Int)) (.need ((0 : Nat) + (↑i : Int).toNat * (2 : Nat) + (2 : Nat) ≤ (flat ps).length) (.need ((0 : Int) ≤ (↑i : Int) ∧ (↑i : Int) < (↑ps.length : Int)) (.need ((0 : Nat) + (↑i : Int).toNat * (2 : Nat) + (2 : Nat) ≤ (flat ps).length) (brT (negB true ((flat ps).getD (0 + (↑i : Int).toNat * 2) 0 == (flat ps).getD (0 + (↑i : Int).toNat * 2) 0 && ((flat ps).getD (0 + (↑i : Int).toNat * 2 + 1) 0 == (flat ps).getD (0 + (↑i : Int).toNat * 2 + 1) 0 && true))) (.leaf .ret ⟨[topV, topV, topV, topV, .bool (false), topV, topV, topV, topV, topV, topV, topV, topV, topV, topV, topV, topV, topV, topV, topV, topV, topV, topV, topV, topV, topV], [some ⟨.view, .ints (flat ps)⟩, some ⟨.view, .ints (flat ps)⟩]⟩) (.leaf .normal ⟨[.slice (some ⟨0, 0, none⟩) (ps.length) (ps.length), .slice (some ⟨1, 0, none⟩) (ps.length) (ps.length), topV, topV, topV, .int .i64 (IntKind.i64.wrap ((↑i : Int) + 1)), topV, topV, topV, topV, topV, topV, topV, topV, topV, topV, topV, topV, topV, topV, topV, topV, topV, topV, topV, topV], [some ⟨.view, .ints (flat ps)⟩, some ⟨.view, .ints (flat ps)⟩]⟩)))))) (.leaf (.exit 0) ⟨[topV, topV, topV, topV, topV, topV, topV, topV, topV, topV, topV, topV, topV, topV, topV, topV, topV, topV, topV, topV, topV, topV, topV, topV, topV, topV], [some ⟨.view, .ints (flat ps)⟩, some ⟨.view, .ints (flat ps)⟩]⟩) := by kernel_rfl
set_option maxRecDepth 100000 in
theorem nl_eqW : loopsOf c_eqW = [] := by kernel_rfl
def inv_eqW (ps : List Pt) : Nat → Prop := fun i => i ≤ ps.length
def me_eqW (ps : List Pt) : Nat → Nat := fun i => ps.length - i
/-- A round of this loop. -/
def Round_eqW (ps : List Pt) : Prop := ∀ xx : Nat, inv_eqW ps xx → (bodyL Try.prog EM 30 12 noL 1 c_eqW k_eqW 2 (s_eqW ps xx)).ok (RoundEnd 2 (s_eqW ps) (inv_eqW ps) (me_eqW ps) re_eqW (rs_eqW ps) xx) (fun _ _ => False)
def e_eqW (s : St) (k : Ex → St → Tree) : Option Tree := match Nat.beq s.tmps.length 26, pickL s.tmps [0, 1, 5], s.mem with
  | true, [.slice (some ⟨0, 0, none⟩) n _, .slice (some ⟨1, 0, none⟩) m _, .int .i64 i], [some ⟨.view, .ints xs⟩, some ⟨.view, .ints ys⟩] => some (needs [i = 0, m = n, ys = xs, xs.length = n * 2, n ≤ 1000000000] (k (.exit 0) ⟨[topV, topV, topV, topV, topV, topV, topV, topV, topV, topV, topV, topV, topV, topV, topV, topV, topV, topV, topV, topV, topV, topV, topV, topV, topV, topV], [some ⟨.view, .ints xs⟩, some ⟨.view, .ints xs⟩]⟩))
  | _, _, _ => none
set_option maxRecDepth 100000 in
theorem round_eqW (ps : List Pt) (h : ps.length ≤ 1000000000) : Round_eqW ps := by
  intro i h1
  have h1 : i ≤ ps.length := h1
  rw [tr_eqW]
  simp only [brT_ok, Tree.ok, decide_eq_true_eq, decide_eq_false_iff_not, Int.toNat_natCast, Nat.zero_add, flat_length, flat_get0, flat_get1, Bool.not_eq_true', Bool.not_eq_false', beq_iff_eq, beq_eq_false_iff_ne, negTw, negFw, Bool.and_true, Bool.and_eq_true, Bool.and_eq_false_iff, beq_self_eq_true, Bool.and_self, Bool.not_true, Bool.false_eq_true]
  refine ⟨fun hlt => ?_, fun hge => ?_⟩
  · rw [wsucc (n := ps.length) (by omega) h]
    refine ⟨by omega, by omega, by omega, by omega, fun hc => hc.elim, fun _ => ⟨i + 1, [], ?_, ?_, rfl, rfl, ?_⟩⟩
    · show i + 1 ≤ ps.length; omega
    · show ps.length - (i + 1) < ps.length - i; omega
    · repeat' (first | exact True.intro | exact rfl | exact fun _ => rfl | refine And.intro ?_ ?_)
  · refine ⟨rfl, [], ?_⟩
    repeat' (first | exact True.intro | exact rfl | exact fun _ => rfl | refine And.intro ?_ ?_)
set_option maxRecDepth 100000 in
theorem lg_eqW : LoopE Try.prog e_eqW c_eqW := by
  intro s k t F H hlt ht
  unfold e_eqW at hlt
  split at hlt
  rotate_left
  · cases hlt
  rename_i hlen hpick hmem
  obtain ⟨tmps, mem⟩ := s
  simp only at hlen hpick hmem
  subst hmem
  obtain rfl := Option.some.inj hlt
  obtain ⟨⟨rfl, rfl, rfl, h1, h2, _⟩, ht2⟩ := needs_ok ht
  clear ht hlt
  obtain ⟨ps, rfl, rfl⟩ := even_flat h1
  refine ⟨_, _, ht2, loop_run mixed EM_ok (s_eqW _) (inv_eqW _) (me_eqW _) re_eqW (rs_eqW _) k_eqW (fun _ => rfl) (noLoops nl_eqW) (round_eqW _ h2) (x := 0) (Nat.zero_le _) (π := []) rfl ?_⟩
  refine ⟨rfl, rfl, ?_, wvs_spread' [0, 1, 5] hlen rfl ?_⟩
  · repeat' (first | exact True.intro | exact rfl | exact wv_top _ _ | exact fun _ => rfl | assumption | exact Eq.symm (by assumption) | exact vI0 rfl | refine And.intro ?_ ?_)
  · rw [hpick]
    repeat' (first | exact True.intro | exact rfl | exact wv_top _ _ | exact fun _ => rfl | assumption | exact Eq.symm (by assumption) | exact vI0 rfl | refine And.intro ?_ ?_)
theorem Lr_eqW {fn : Func} (hf : Try.prog.funcs[25]? = some fn) : LoopsGood Try.prog (lt1 e_eqW) 0 (codeOf fn) := by
  obtain rfl := fn_is Try.func25 hf
  exact lt1_good lg_eqW
def LEw : FuncId → LT := fun f => match f with
  | 25 => lt1 e_eqW
  | _ => noL
def EEw : Env := mkE TSl2 (fun _ _ => none) LEw
theorem EEw_ok : EnvOk Try.prog EEw := mkEOk TSl2_ok (fun _ _ _ _ _ h => (by cases h)) (by
  intro f fn hf
  unfold LEw
  split
  all_goals first | with_reducible exact Lr_eqW hf | exact noL_good)
set_option maxRecDepth 100000 in
theorem tr_eqWF (n : Nat) (xs : List Int) : bodyV Try.prog EEw 30 12 25 [.row n (.ints xs), .row n (.ints xs)] = brT (!(↑n : Int) == (↑n : Int)) (.fin (.bool (false)) []) (.need ((0 : Int) = (0 : Int)) (.need (n = n) (.need (xs = xs) (.need (xs.length = n * (2 : Nat)) (.need (n ≤ (1000000000 : Nat)) (.fin (.bool (true)) [])))))) := by kernel_rfl
theorem res_eqW (n : Nat) (xs : List Int) (h : xs.length = n * 2) (hn : Lim n) : Res Try.prog 25 [.row n (.ints xs), .row n (.ints xs)] (.bool true) := by
  refine bodyV_res mixed EEw_ok (m := 30) (n := 12) rfl ?_
  rw [tr_eqWF]
  unfold Lim at hn
  simp [brT_ok, Tree.ok, negTw, h, hn]
def pEqW : List DArg → Option (Value × List Prop)
  | [.row n (.ints xs), .row m (.ints ys)] => some (.bool true, [n = m, xs = ys, xs.length = n * 2, Lim n])
  | _ => none
theorem pEqW_ok {ds : List DArg} {v : Value} {C : List Prop} (h : pEqW ds = some (v, C)) (hC : AllP C) : Res Try.prog 25 ds v := by
  unfold pEqW at h
  split at h
  · obtain ⟨rfl, rfl⟩ : _ ∧ _ := by simpa using h
    obtain ⟨rfl, rfl, h1, h2, _⟩ := hC
    exact res_eqW _ _ h1 h2
  · cases h
def TLm : Tab := fun f ds => match f with
  | 25 => pEqW ds
  | f => TSl2 f ds
theorem TLm_ok : TabOk Try.prog TLm := by
  intro f ds v C h hC
  unfold TLm at h
  (try split at h)
  all_goals first | with_reducible exact pEqW_ok h hC | exact TSl2_ok _ _ _ _ h hC
def RLm : TabR := fun f ds => match f, ds with
  | 24, [.row n (.bytes bs)] => some (.slice (some ⟨0, 0, none⟩) (asN bs (rdL n) 0) (asN bs (rdL n) 0), ⟨.row 39 4, .ints (anL bs (rdL n) 0)⟩, [Bytes bs, n ≤ bs.length])
  | f, ds => RMp f ds
theorem RLm_ok : TabROk Try.prog RLm := by
  intro f ds v b C h hC
  unfold RLm at h
  split at h
  · obtain ⟨rfl, rfl, rfl⟩ : _ ∧ _ ∧ _ := by simpa using h
    exact resR_dMp _ _ hC.1 hC.2.1
  · exact RMp_ok _ _ _ _ _ h hC
def ELm : Env := mkE TLm RLm (fun _ => noL)
theorem ELm_ok : EnvOk Try.prog ELm := mkEOk TLm_ok RLm_ok (fun _ _ _ => noL_good)
theorem mpL_pre (xs : List Int) (n : Nat) {t : Nat} : ∀ d, ∃ r, mpL xs n (t + d) = mpL xs n t ++ r
  | 0 => ⟨[], by simp⟩
  | d + 1 => by
    obtain ⟨r, hr⟩ := mpL_pre xs n (t := t) d
    show ∃ r, mpL xs n (t + d + 1) = _
    simp only [mpL]
    cases mpQ xs n (t + d)
    · exact ⟨r, hr⟩
    · rw [cond_true, hr, List.append_assoc]
      exact ⟨_, rfl⟩
theorem mpL_next {xs : List Int} {n t T : Nat} (h : t < T) (hq : mpQ xs n t = true) : (mpL xs n t).length < (mpL xs n T).length ∧ (mpL xs n T).getD (mpL xs n t).length (0, 0) = prP n t := by
  obtain ⟨r, hr⟩ := mpL_pre xs n (t := t + 1) (T - (t + 1))
  rw [show t + 1 + (T - (t + 1)) = T by omega] at hr
  have e : mpL xs n (t + 1) = mpL xs n t ++ [prP n t] := by simp only [mpL, hq, cond_true]
  rw [hr, e]
  simp [List.getD]
noncomputable def c_lmI : Code := ((loopsOf (codeOf Try.f4))[1]?).getD .skip
def k_lmI : Ex → List Nat := keeps [3, 4, 5, 6, 7] [(2, [3, 4, 5, 6]), (1, [3, 4, 5, 6]), (0, [4, 5])] [2]
def s_lmI (bs xs : List Int) (n i : Nat) (fs : List Int) : Nat → St := fun j => ⟨(topV :: topV :: topV :: .slice (some ⟨1, 0, none⟩) n n :: .slice (some ⟨2, 0, none⟩) (mpL xs n (offR n 0 n)).length (mpL xs n (offR n 0 n)).length :: .int .i64 ((mpL xs n (offR n 0 i + j)).length : Nat) :: .int .i64 i :: .int .i64 (i + 1 + j : Nat) :: topV :: topV :: topV :: topV :: topV :: topV :: topV :: topV :: topV :: topV :: topV :: topV :: topV :: topV :: topV :: topV :: topV :: topV :: topV :: topV :: topV :: topV :: topV :: topV :: topV :: topV :: topV :: topV :: topV :: topV :: topV :: topV :: topV :: topV :: topV :: topV :: topV :: topV :: topV :: topV :: topV :: topV :: topV :: topV :: topV :: topV :: topV :: topV :: topV :: topV :: topV :: topV :: topV :: topV :: topV :: topV :: topV :: topV :: topV :: topV :: topV :: topV :: topV :: topV :: topV :: []), [some ⟨.view, .bytes bs⟩, some ⟨.row 39 4, .ints xs⟩, some ⟨.row 41 2, .ints (flat (mpL xs n (offR n 0 n)))⟩, some ⟨.row 41 2, .ints fs⟩]⟩
def re_lmI : Nat → Ex := fun _ => .exit 2
def rs_lmI (bs xs : List Int) (n i : Nat) (fs : List Int) : Nat → St := fun j => ⟨(topV :: topV :: topV :: .slice (some ⟨1, 0, none⟩) n n :: .slice (some ⟨2, 0, none⟩) (mpL xs n (offR n 0 n)).length (mpL xs n (offR n 0 n)).length :: .int .i64 ((mpL xs n (offR n 0 (i + 1))).length : Nat) :: .int .i64 i :: topV :: topV :: topV :: topV :: topV :: topV :: topV :: topV :: topV :: topV :: topV :: topV :: topV :: topV :: topV :: topV :: topV :: topV :: topV :: topV :: topV :: topV :: topV :: topV :: topV :: topV :: topV :: topV :: topV :: topV :: topV :: topV :: topV :: topV :: topV :: topV :: topV :: topV :: topV :: topV :: topV :: topV :: topV :: topV :: topV :: topV :: topV :: topV :: topV :: topV :: topV :: topV :: topV :: topV :: topV :: topV :: topV :: topV :: topV :: topV :: topV :: topV :: topV :: topV :: topV :: topV :: []), [some ⟨.view, .bytes bs⟩, some ⟨.row 39 4, .ints xs⟩, some ⟨.row 41 2, .ints (flat (mpL xs n (offR n 0 n)))⟩, some ⟨.row 41 2, .ints fs⟩]⟩
set_option maxRecDepth 100000 in
theorem tr_lmI (bs xs : List Int) (n i : Nat) (fs : List Int) (j : Nat) : bodyL Try.prog ELm 30 12 noL 2 c_lmI k_lmI 4 (s_lmI bs xs n i fs j) = brT (decide ((↑(i + 1 + j) : Int) < (↑n : Int))) (.need ((0 : Int) ≤ (↑i : Int) ∧ (↑i : Int) < (↑n : Int)) (.need ((0 : Nat) + (↑i : Int).toNat * (4 : Nat) + (4 : Nat) ≤ xs.length) (.need ((0 : Int) ≤ (↑(i + (1 : Nat) + j) : Int) ∧ (↑(i + (1 : Nat) + j) : Int) < (↑n : Int)) (.need ((0 : Nat) + (↑(i + (1 : Nat) + j) : Int).toNat * (4 : Nat) + (4 : Nat) ≤ xs.length) (brT (relV (xs.getD (0 + (↑i : Int).toNat * 4) 0) (xs.getD (0 + (↑i : Int).toNat * 4 + 1) 0) (xs.getD (0 + (↑i : Int).toNat * 4 + 1 + 1) 0) (xs.getD (0 + (↑i : Int).toNat * 4 + 1 + 1 + 1) 0) (xs.getD (0 + (↑(i + 1 + j) : Int).toNat * 4) 0) (xs.getD (0 + (↑(i + 1 + j) : Int).toNat * 4 + 1) 0) (xs.getD (0 + (↑(i + 1 + j) : Int).toNat * 4 + 1 + 1) 0) (xs.getD (0 + (↑(i + 1 + j) : Int).toNat * 4 + 1 + 1 + 1) 0) == 0) (.leaf .normal ⟨(topV :: topV :: topV :: .slice (some ⟨1, 0, none⟩) (n) (n) :: .slice (some ⟨2, 0, none⟩) ((mpL xs n (offR n 0 n)).length) ((mpL xs n (offR n 0 n)).length) :: .int .i64 ((↑(mpL xs n (offR n 0 i + j)).length : Int)) :: .int .i64 ((↑i : Int)) :: .int .i64 (IntKind.i64.wrap ((↑(i + 1 + j) : Int) + 1)) :: topV :: topV :: topV :: topV :: topV :: topV :: topV :: topV :: topV :: topV :: topV :: topV :: topV :: topV :: topV :: topV :: topV :: topV :: topV :: topV :: topV :: topV :: topV :: topV :: topV :: topV :: topV :: topV :: topV :: topV :: topV :: topV :: topV :: topV :: topV :: topV :: topV :: topV :: topV :: topV :: topV :: topV :: topV :: topV :: topV :: topV :: topV :: topV :: topV :: topV :: topV :: topV :: topV :: topV :: topV :: topV :: topV :: topV :: topV :: topV :: topV :: topV :: topV :: topV :: topV :: []), [some ⟨.view, .bytes (bs)⟩, some ⟨.row 39 4, .ints (xs)⟩, some ⟨.row 41 2, .ints (flat (mpL xs n (offR n 0 n)))⟩, some ⟨.row 41 2, .ints (fs)⟩]⟩) (brT ((↑(mpL xs n (offR n 0 i + j)).length : Int) == (↑(mpL xs n (offR n 0 n)).length : Int)) (.leaf .ret ⟨(topV :: topV :: .bool (false) :: topV :: topV :: topV :: topV :: topV :: topV :: topV :: topV :: topV :: topV :: topV :: topV :: topV :: topV :: topV :: topV :: topV :: topV :: topV :: topV :: topV :: topV :: topV :: topV :: topV :: topV :: topV :: topV :: topV :: topV :: topV :: topV :: topV :: topV :: topV :: topV :: topV :: topV :: topV :: topV :: topV :: topV :: topV :: topV :: topV :: topV :: topV :: topV :: topV :: topV :: topV :: topV :: topV :: topV :: topV :: topV :: topV :: topV :: topV :: topV :: topV :: topV :: topV :: topV :: topV :: topV :: topV :: topV :: topV :: topV :: []), [some ⟨.view, .bytes (bs)⟩, some ⟨.row 39 4, .ints (xs)⟩, some ⟨.row 41 2, .ints (flat (mpL xs n (offR n 0 n)))⟩, some ⟨.row 41 2, .ints (fs)⟩]⟩) (.need ((0 : Int) ≤ (↑(mpL xs n (offR n (0 : Nat) i + j)).length : Int) ∧ (↑(mpL xs n (offR n (0 : Nat) i + j)).length : Int) < (↑(mpL xs n (offR n (0 : Nat) n)).length : Int)) (.need ((0 : Nat) + (↑(mpL xs n (offR n (0 : Nat) i + j)).length : Int).toNat * (2 : Nat) + (2 : Nat) ≤ (flat (mpL xs n (offR n (0 : Nat) n))).length) (brT (negB true ((flat (mpL xs n (offR n 0 n))).getD (0 + (↑(mpL xs n (offR n 0 i + j)).length : Int).toNat * 2) 0 == (↑i : Int) && ((flat (mpL xs n (offR n 0 n))).getD (0 + (↑(mpL xs n (offR n 0 i + j)).length : Int).toNat * 2 + 1) 0 == (↑(i + 1 + j) : Int) && true))) (.leaf .ret ⟨(topV :: topV :: .bool (false) :: topV :: topV :: topV :: topV :: topV :: topV :: topV :: topV :: topV :: topV :: topV :: topV :: topV :: topV :: topV :: topV :: topV :: topV :: topV :: topV :: topV :: topV :: topV :: topV :: topV :: topV :: topV :: topV :: topV :: topV :: topV :: topV :: topV :: topV :: topV :: topV :: topV :: topV :: topV :: topV :: topV :: topV :: topV :: topV :: topV :: topV :: topV :: topV :: topV :: topV :: topV :: topV :: topV :: topV :: topV :: topV :: topV :: topV :: topV :: topV :: topV :: topV :: topV :: topV :: topV :: topV :: topV :: topV :: topV :: topV :: []), [some ⟨.view, .bytes (bs)⟩, some ⟨.row 39 4, .ints (xs)⟩, some ⟨.row 41 2, .ints (flat (mpL xs n (offR n 0 n)))⟩, some ⟨.row 41 2, .ints (fs)⟩]⟩) (.leaf .normal ⟨(topV :: topV :: topV :: .slice (some ⟨1, 0, none⟩) (n) (n) :: .slice (some ⟨2, 0, none⟩) ((mpL xs n (offR n 0 n)).length) ((mpL xs n (offR n 0 n)).length) :: .int .i64 (IntKind.i64.wrap ((↑(mpL xs n (offR n 0 i + j)).length : Int) + 1)) :: .int .i64 ((↑i : Int)) :: .int .i64 (IntKind.i64.wrap ((↑(i + 1 + j) : Int) + 1)) :: topV :: topV :: topV :: topV :: topV :: topV :: topV :: topV :: topV :: topV :: topV :: topV :: topV :: topV :: topV :: topV :: topV :: topV :: topV :: topV :: topV :: topV :: topV :: topV :: topV :: topV :: topV :: topV :: topV :: topV :: topV :: topV :: topV :: topV :: topV :: topV :: topV :: topV :: topV :: topV :: topV :: topV :: topV :: topV :: topV :: topV :: topV :: topV :: topV :: topV :: topV :: topV :: topV :: topV :: topV :: topV :: topV :: topV :: topV :: topV :: topV :: topV :: topV :: topV :: topV :: []), [some ⟨.view, .bytes (bs)⟩, some ⟨.row 39 4, .ints (xs)⟩, some ⟨.row 41 2, .ints (flat (mpL xs n (offR n 0 n)))⟩, some ⟨.row 41 2, .ints (fs)⟩]⟩)))))))))) (.leaf (.exit 2) ⟨(topV :: topV :: topV :: .slice (some ⟨1, 0, none⟩) (n) (n) :: .slice (some ⟨2, 0, none⟩) ((mpL xs n (offR n 0 n)).length) ((mpL xs n (offR n 0 n)).length) :: .int .i64 ((↑(mpL xs n (offR n 0 i + j)).length : Int)) :: .int .i64 ((↑i : Int)) :: topV :: topV :: topV :: topV :: topV :: topV :: topV :: topV :: topV :: topV :: topV :: topV :: topV :: topV :: topV :: topV :: topV :: topV :: topV :: topV :: topV :: topV :: topV :: topV :: topV :: topV :: topV :: topV :: topV :: topV :: topV :: topV :: topV :: topV :: topV :: topV :: topV :: topV :: topV :: topV :: topV :: topV :: topV :: topV :: topV :: topV :: topV :: topV :: topV :: topV :: topV :: topV :: topV :: topV :: topV :: topV :: topV :: topV :: topV :: topV :: topV :: topV :: topV :: topV :: topV :: topV :: []), [some ⟨.view, .bytes (bs)⟩, some ⟨.row 39 4, .ints (xs)⟩, some ⟨.row 41 2, .ints (flat (mpL xs n (offR n 0 n)))⟩, some ⟨.row 41 2, .ints (fs)⟩]⟩) := by kernel_rfl
set_option maxRecDepth 100000 in
theorem nl_lmI : loopsOf c_lmI = [] := by kernel_rfl
def inv_lmI (bs xs : List Int) (n i : Nat) (fs : List Int) : Nat → Prop := fun j => i + 1 + j ≤ n
def me_lmI (bs xs : List Int) (n i : Nat) (fs : List Int) : Nat → Nat := fun j => n - (i + 1 + j)
/-- A round of this loop. -/
def Round_lmI (bs xs : List Int) (n i : Nat) (fs : List Int) : Prop := ∀ xx : Nat, inv_lmI bs xs n i fs xx → (bodyL Try.prog ELm 30 12 noL 2 c_lmI k_lmI 4 (s_lmI bs xs n i fs xx)).ok (RoundEnd 4 (s_lmI bs xs n i fs) (inv_lmI bs xs n i fs) (me_lmI bs xs n i fs) re_lmI (rs_lmI bs xs n i fs) xx) (fun _ _ => False)
def e_lmI (s : St) (k : Ex → St → Tree) : Option Tree := match Nat.beq s.tmps.length 73, pickL s.tmps [3, 4, 5, 6, 7], s.mem with
  | true, [.slice (some ⟨1, 0, none⟩) n _, .slice (some ⟨2, 0, none⟩) m _, .int .i64 aa, .int .i64 ii, .int .i64 kk], [some ⟨.view, .bytes bs⟩, some ⟨.row 39 4, .ints xs⟩, some ⟨.row 41 2, .ints ys⟩, some ⟨.row 41 2, .ints fs⟩] => some (needs [0 ≤ ii, kk = ii + 1, xs.length = n * 4, n ≤ 12, ii < n, ys = flat (mpL xs n (offR n 0 n)), m = (mpL xs n (offR n 0 n)).length, aa = ((mpL xs n (offR n 0 ii.toNat)).length : Nat)] (k (.exit 2) ⟨(topV :: topV :: topV :: .slice (some ⟨1, 0, none⟩) n n :: .slice (some ⟨2, 0, none⟩) m m :: .int .i64 ((mpL xs n (offR n 0 (ii.toNat + 1))).length : Nat) :: .int .i64 ii :: topV :: topV :: topV :: topV :: topV :: topV :: topV :: topV :: topV :: topV :: topV :: topV :: topV :: topV :: topV :: topV :: topV :: topV :: topV :: topV :: topV :: topV :: topV :: topV :: topV :: topV :: topV :: topV :: topV :: topV :: topV :: topV :: topV :: topV :: topV :: topV :: topV :: topV :: topV :: topV :: topV :: topV :: topV :: topV :: topV :: topV :: topV :: topV :: topV :: topV :: topV :: topV :: topV :: topV :: topV :: topV :: topV :: topV :: topV :: topV :: topV :: topV :: topV :: topV :: topV :: topV :: []), [some ⟨.view, .bytes bs⟩, some ⟨.row 39 4, .ints xs⟩, some ⟨.row 41 2, .ints ys⟩, some ⟨.row 41 2, .ints fs⟩]⟩))
  | _, _, _ => none
set_option maxRecDepth 100000 in
theorem round_lmI (bs xs : List Int) (n i : Nat) (fs : List Int) (hx : xs.length = n * 4) (h : n ≤ 12) (hi : i < n) : Round_lmI bs xs n i fs := by
  intro j h1
  have h1 : i + 1 + j ≤ n := h1
  rw [tr_lmI]
  have hT := mpL_len xs n (offR n 0 n)
  have hb := offR_le n n 0
  have hnn : n * n ≤ 12 * 12 := Nat.mul_le_mul h h
  have fl := flat_length (mpL xs n (offR n 0 n))
  simp only [Int.toNat_natCast, Nat.zero_add, flat_get0, flat_get1]
  refine brT_ok.2 ⟨fun hlt => ?_, fun hge => ?_⟩
  · have hlt : i + 1 + j < n := by have := of_decide_eq_true hlt; omega
    have ep : prA n (offR n 0 i + j) = (i, i + 1 + j) := by
      have := prA_at (n := n) (a := i) (b := i + 1 + j) (by omega) hlt
      rwa [show i + 1 + j - i - 1 = j by omega] at this
    have ol : offR n 0 i + j < offR n 0 n := by
      have := off_lt (n := n) (a := i) (b := i + 1 + j) (by omega) hlt
      rwa [show i + 1 + j - i - 1 = j by omega] at this
    have eq : mpQ xs n (offR n 0 i + j) = !(relV (xs.getD (i * 4) 0) (xs.getD (i * 4 + 1) 0) (xs.getD (i * 4 + 1 + 1) 0) (xs.getD (i * 4 + 1 + 1 + 1) 0) (xs.getD ((i + 1 + j) * 4) 0) (xs.getD ((i + 1 + j) * 4 + 1) 0) (xs.getD ((i + 1 + j) * 4 + 1 + 1) 0) (xs.getD ((i + 1 + j) * 4 + 1 + 1 + 1) 0) == 0) := by
      unfold mpQ
      rw [ep]
      rfl
    rw [wsucc (n := n) hlt (by omega)]
    refine ⟨⟨by omega, by omega⟩, by omega, ⟨by omega, by omega⟩, by omega, brT_ok.2 ⟨fun c => ?_, fun c => ?_⟩⟩
    · have c2 : mpQ xs n (offR n 0 i + j) = false := by rw [eq, c]; rfl
      have e : mpL xs n (offR n 0 i + (j + 1)) = mpL xs n (offR n 0 i + j) := by
        show mpL xs n (offR n 0 i + j + 1) = _
        simp only [mpL, c2, cond_false]
      refine ⟨j + 1, [], ?_, ?_, rfl, rfl, ?_⟩
      · show i + 1 + (j + 1) ≤ n; omega
      · show n - (i + 1 + (j + 1)) < n - (i + 1 + j); omega
      · unfold s_lmI
        rw [e]
        repeat' (first | exact True.intro | exact rfl | exact fun _ => rfl | (simp; done) | refine And.intro ?_ ?_)
    · have c2 : mpQ xs n (offR n 0 i + j) = true := by rw [eq, c]; rfl
      have e : mpL xs n (offR n 0 i + (j + 1)) = mpL xs n (offR n 0 i + j) ++ [prP n (offR n 0 i + j)] := by
        show mpL xs n (offR n 0 i + j + 1) = _
        simp only [mpL, c2, cond_true]
      have el : (mpL xs n (offR n 0 i + (j + 1))).length = (mpL xs n (offR n 0 i + j)).length + 1 := by rw [e]; simp
      obtain ⟨n1, n2⟩ := mpL_next ol c2
      have w : IntKind.i64.wrap (((mpL xs n (offR n 0 i + j)).length : Int) + 1) = (((mpL xs n (offR n 0 i + j)).length + 1 : Nat) : Int) := wsucc n1 (by omega)
      have k1 : (((mpL xs n (offR n 0 i + j)).length : Int) == ((mpL xs n (offR n 0 n)).length : Int)) = false := beq_eq_false_iff_ne.2 (by omega)
      have k2 : negB true (((mpL xs n (offR n 0 n)).getD (mpL xs n (offR n 0 i + j)).length (0, 0)).1 == (i : Int) && (((mpL xs n (offR n 0 n)).getD (mpL xs n (offR n 0 i + j)).length (0, 0)).2 == ((i + 1 + j : Nat) : Int) && true)) = false := by
        rw [n2, prP, ep]
        simp [negB]
      rw [k1, k2, w]
      refine ⟨by omega, by omega, j + 1, [], ?_, ?_, rfl, rfl, ?_⟩
      · show i + 1 + (j + 1) ≤ n; omega
      · show n - (i + 1 + (j + 1)) < n - (i + 1 + j); omega
      · unfold s_lmI
        rw [el]
        repeat' (first | exact True.intro | exact rfl | exact fun _ => rfl | (simp; done) | refine And.intro ?_ ?_)
  · have hge := of_decide_eq_false hge
    have e : offR n 0 (i + 1) = offR n 0 i + j := by
      rw [offR_succ]
      omega
    refine ⟨rfl, [], ?_⟩
    unfold rs_lmI
    rw [e]
    repeat' (first | exact True.intro | exact rfl | exact fun _ => rfl | (simp; done) | refine And.intro ?_ ?_)
set_option maxRecDepth 100000 in
theorem lg_lmI : LoopE Try.prog e_lmI c_lmI := by
  intro s k t F H hlt ht
  unfold e_lmI at hlt
  split at hlt
  rotate_left
  · cases hlt
  rename_i hlen hpick hmem
  obtain ⟨tmps, mem⟩ := s
  simp only at hlen hpick hmem
  subst hmem
  obtain rfl := Option.some.inj hlt
  obtain ⟨⟨h0, h1, h2, h3, h5, h6, h7, h8, _⟩, ht2⟩ := needs_ok ht
  clear ht hlt
  obtain ⟨i, rfl⟩ := Int.eq_ofNat_of_zero_le h0
  simp only [Int.toNat_natCast] at ht2 h8
  obtain rfl := h1
  subst h6 h7 h8
  refine ⟨_, _, ht2, loop_run mixed ELm_ok (s_lmI _ _ _ i _) (inv_lmI _ _ _ i _) (me_lmI _ _ _ i _) re_lmI (rs_lmI _ _ _ i _) k_lmI (fun _ => rfl) (noLoops nl_lmI) (round_lmI _ _ _ i _ h2 h3 (by omega)) (x := 0) (by show i + 1 + 0 ≤ _; omega) (π := []) rfl ?_⟩
  refine ⟨rfl, rfl, ?_, wvs_spread' [3, 4, 5, 6, 7] hlen rfl ?_⟩
  · repeat' (first | exact True.intro | exact rfl | exact wv_top _ _ | exact fun _ => rfl | assumption | exact Eq.symm (by assumption) | exact vI0 rfl | refine And.intro ?_ ?_)
  · rw [hpick]
    repeat' (first | exact True.intro | exact rfl | exact wv_top _ _ | exact fun _ => rfl | assumption | exact Eq.symm (by assumption) | exact vI0 rfl | refine And.intro ?_ ?_)
def ltLm : LT := fun j s k => match j with
  | 1 => e_lmI s k
  | _ => none
noncomputable def c_lmO : Code := ((loopsOf (codeOf Try.f4))[0]?).getD .skip
def k_lmO : Ex → List Nat := keeps [3, 4, 5, 6] [(0, [4, 5])] [2]
def s_lmO (bs xs : List Int) (n : Nat) (fs : List Int) : Nat → St := fun i => ⟨(topV :: topV :: topV :: .slice (some ⟨1, 0, none⟩) n n :: .slice (some ⟨2, 0, none⟩) (mpL xs n (offR n 0 n)).length (mpL xs n (offR n 0 n)).length :: .int .i64 ((mpL xs n (offR n 0 i)).length : Nat) :: .int .i64 i :: topV :: topV :: topV :: topV :: topV :: topV :: topV :: topV :: topV :: topV :: topV :: topV :: topV :: topV :: topV :: topV :: topV :: topV :: topV :: topV :: topV :: topV :: topV :: topV :: topV :: topV :: topV :: topV :: topV :: topV :: topV :: topV :: topV :: topV :: topV :: topV :: topV :: topV :: topV :: topV :: topV :: topV :: topV :: topV :: topV :: topV :: topV :: topV :: topV :: topV :: topV :: topV :: topV :: topV :: topV :: topV :: topV :: topV :: topV :: topV :: topV :: topV :: topV :: topV :: topV :: topV :: []), [some ⟨.view, .bytes bs⟩, some ⟨.row 39 4, .ints xs⟩, some ⟨.row 41 2, .ints (flat (mpL xs n (offR n 0 n)))⟩, some ⟨.row 41 2, .ints fs⟩]⟩
def re_lmO : Nat → Ex := fun _ => .exit 0
def rs_lmO (bs xs : List Int) (n : Nat) (fs : List Int) : Nat → St := fun i => ⟨(topV :: topV :: topV :: topV :: .slice (some ⟨2, 0, none⟩) (mpL xs n (offR n 0 n)).length (mpL xs n (offR n 0 n)).length :: .int .i64 ((mpL xs n (offR n 0 n)).length : Nat) :: topV :: topV :: topV :: topV :: topV :: topV :: topV :: topV :: topV :: topV :: topV :: topV :: topV :: topV :: topV :: topV :: topV :: topV :: topV :: topV :: topV :: topV :: topV :: topV :: topV :: topV :: topV :: topV :: topV :: topV :: topV :: topV :: topV :: topV :: topV :: topV :: topV :: topV :: topV :: topV :: topV :: topV :: topV :: topV :: topV :: topV :: topV :: topV :: topV :: topV :: topV :: topV :: topV :: topV :: topV :: topV :: topV :: topV :: topV :: topV :: topV :: topV :: topV :: topV :: topV :: topV :: topV :: []), [some ⟨.view, .bytes bs⟩, some ⟨.row 39 4, .ints xs⟩, some ⟨.row 41 2, .ints (flat (mpL xs n (offR n 0 n)))⟩, some ⟨.row 41 2, .ints fs⟩]⟩
set_option maxRecDepth 100000 in
theorem tr_lmO (bs xs : List Int) (n : Nat) (fs : List Int) (i : Nat) : bodyL Try.prog ELm 30 12 ltLm 1 c_lmO k_lmO 4 (s_lmO bs xs n fs i) = brT (decide ((↑i : Int) < (↑n : Int))) (.need ((0 : Int) ≤ (↑i : Int)) (.need (IntKind.i64.wrap ((↑i : Int) + (1 : Int)) = (↑i : Int) + (1 : Int)) (.need (xs.length = n * (4 : Nat)) (.need (n ≤ (12 : Nat)) (.need ((↑i : Int) < (↑n : Int)) (.need (flat (mpL xs n (offR n (0 : Nat) n)) = flat (mpL xs n (offR n (0 : Nat) n))) (.need ((mpL xs n (offR n (0 : Nat) n)).length = (mpL xs n (offR n (0 : Nat) n)).length) (.need ((↑(mpL xs n (offR n (0 : Nat) i)).length : Int) = (↑(mpL xs n (offR n (0 : Nat) (↑i : Int).toNat)).length : Int)) (.leaf .normal ⟨(topV :: topV :: topV :: .slice (some ⟨1, 0, none⟩) (n) (n) :: .slice (some ⟨2, 0, none⟩) ((mpL xs n (offR n 0 n)).length) ((mpL xs n (offR n 0 n)).length) :: .int .i64 ((↑(mpL xs n (offR n 0 ((↑i : Int).toNat + 1))).length : Int)) :: .int .i64 (IntKind.i64.wrap ((↑i : Int) + 1)) :: topV :: topV :: topV :: topV :: topV :: topV :: topV :: topV :: topV :: topV :: topV :: topV :: topV :: topV :: topV :: topV :: topV :: topV :: topV :: topV :: topV :: topV :: topV :: topV :: topV :: topV :: topV :: topV :: topV :: topV :: topV :: topV :: topV :: topV :: topV :: topV :: topV :: topV :: topV :: topV :: topV :: topV :: topV :: topV :: topV :: topV :: topV :: topV :: topV :: topV :: topV :: topV :: topV :: topV :: topV :: topV :: topV :: topV :: topV :: topV :: topV :: topV :: topV :: topV :: topV :: topV :: []), [some ⟨.view, .bytes (bs)⟩, some ⟨.row 39 4, .ints (xs)⟩, some ⟨.row 41 2, .ints (flat (mpL xs n (offR n 0 n)))⟩, some ⟨.row 41 2, .ints (fs)⟩]⟩))))))))) (.leaf (.exit 0) ⟨(topV :: topV :: topV :: topV :: .slice (some ⟨2, 0, none⟩) ((mpL xs n (offR n 0 n)).length) ((mpL xs n (offR n 0 n)).length) :: .int .i64 ((↑(mpL xs n (offR n 0 i)).length : Int)) :: topV :: topV :: topV :: topV :: topV :: topV :: topV :: topV :: topV :: topV :: topV :: topV :: topV :: topV :: topV :: topV :: topV :: topV :: topV :: topV :: topV :: topV :: topV :: topV :: topV :: topV :: topV :: topV :: topV :: topV :: topV :: topV :: topV :: topV :: topV :: topV :: topV :: topV :: topV :: topV :: topV :: topV :: topV :: topV :: topV :: topV :: topV :: topV :: topV :: topV :: topV :: topV :: topV :: topV :: topV :: topV :: topV :: topV :: topV :: topV :: topV :: topV :: topV :: topV :: topV :: topV :: topV :: []), [some ⟨.view, .bytes (bs)⟩, some ⟨.row 39 4, .ints (xs)⟩, some ⟨.row 41 2, .ints (flat (mpL xs n (offR n 0 n)))⟩, some ⟨.row 41 2, .ints (fs)⟩]⟩) := by kernel_rfl
def inv_lmO (bs xs : List Int) (n : Nat) (fs : List Int) : Nat → Prop := fun i => i ≤ n
def me_lmO (bs xs : List Int) (n : Nat) (fs : List Int) : Nat → Nat := fun i => n - i
/-- A round of this loop. -/
def Round_lmO (bs xs : List Int) (n : Nat) (fs : List Int) : Prop := ∀ xx : Nat, inv_lmO bs xs n fs xx → (bodyL Try.prog ELm 30 12 ltLm 1 c_lmO k_lmO 4 (s_lmO bs xs n fs xx)).ok (RoundEnd 4 (s_lmO bs xs n fs) (inv_lmO bs xs n fs) (me_lmO bs xs n fs) re_lmO (rs_lmO bs xs n fs) xx) (fun _ _ => False)
def e_lmO (s : St) (k : Ex → St → Tree) : Option Tree := match Nat.beq s.tmps.length 73, pickL s.tmps [3, 4, 5, 6], s.mem with
  | true, [.slice (some ⟨1, 0, none⟩) n _, .slice (some ⟨2, 0, none⟩) m _, .int .i64 aa, .int .i64 ii], [some ⟨.view, .bytes bs⟩, some ⟨.row 39 4, .ints xs⟩, some ⟨.row 41 2, .ints ys⟩, some ⟨.row 41 2, .ints fs⟩] => some (needs [ii = 0, aa = 0, xs.length = n * 4, n ≤ 12, ys = flat (mpL xs n (offR n 0 n)), m = (mpL xs n (offR n 0 n)).length] (k (.exit 0) ⟨(topV :: topV :: topV :: topV :: .slice (some ⟨2, 0, none⟩) m m :: .int .i64 ((mpL xs n (offR n 0 n)).length : Nat) :: topV :: topV :: topV :: topV :: topV :: topV :: topV :: topV :: topV :: topV :: topV :: topV :: topV :: topV :: topV :: topV :: topV :: topV :: topV :: topV :: topV :: topV :: topV :: topV :: topV :: topV :: topV :: topV :: topV :: topV :: topV :: topV :: topV :: topV :: topV :: topV :: topV :: topV :: topV :: topV :: topV :: topV :: topV :: topV :: topV :: topV :: topV :: topV :: topV :: topV :: topV :: topV :: topV :: topV :: topV :: topV :: topV :: topV :: topV :: topV :: topV :: topV :: topV :: topV :: topV :: topV :: topV :: []), [some ⟨.view, .bytes bs⟩, some ⟨.row 39 4, .ints xs⟩, some ⟨.row 41 2, .ints ys⟩, some ⟨.row 41 2, .ints fs⟩]⟩))
  | _, _, _ => none
set_option maxRecDepth 100000 in
theorem in_lmO : loopsOf c_lmO = [c_lmI] := by kernel_rfl
theorem ltLm_good : LoopsGood Try.prog ltLm 1 c_lmO := by
  intro i d hd s k t F H hlt ht
  rw [in_lmO] at hd
  cases i with
  | zero =>
    obtain rfl : c_lmI = d := by simpa using hd
    exact lg_lmI s k t F H hlt ht
  | succ i => simp at hd
set_option maxRecDepth 100000 in
theorem round_lmO (bs xs : List Int) (n : Nat) (fs : List Int) (hx : xs.length = n * 4) (h : n ≤ 12) : Round_lmO bs xs n fs := by
  intro i h1
  have h1 : i ≤ n := h1
  rw [tr_lmO]
  refine brT_ok.2 ⟨fun hlt => ?_, fun hge => ?_⟩
  · have hlt : i < n := by have := of_decide_eq_true hlt; omega
    have w : IntKind.i64.wrap ((i : Int) + 1) = ((i + 1 : Nat) : Int) := wsucc (n := n) hlt (by omega)
    rw [w]
    refine ⟨by omega, by omega, hx, h, by omega, rfl, rfl, rfl, i + 1, [], ?_, ?_, rfl, rfl, ?_⟩
    · show i + 1 ≤ n; omega
    · show n - (i + 1) < n - i; omega
    · unfold s_lmO
      repeat' (first | exact True.intro | exact rfl | exact fun _ => rfl | (simp; done) | refine And.intro ?_ ?_)
  · have hge := of_decide_eq_false hge
    obtain rfl : i = n := by omega
    refine ⟨rfl, [], ?_⟩
    unfold rs_lmO
    repeat' (first | exact True.intro | exact rfl | exact fun _ => rfl | (simp; done) | refine And.intro ?_ ?_)
set_option maxRecDepth 100000 in
theorem lg_lmO : LoopE Try.prog e_lmO c_lmO := by
  intro s k t F H hlt ht
  unfold e_lmO at hlt
  split at hlt
  rotate_left
  · cases hlt
  rename_i hlen hpick hmem
  obtain ⟨tmps, mem⟩ := s
  simp only at hlen hpick hmem
  subst hmem
  obtain rfl := Option.some.inj hlt
  obtain ⟨⟨rfl, rfl, h2, h3, h6, h7, _⟩, ht2⟩ := needs_ok ht
  clear ht hlt
  subst h6 h7
  refine ⟨_, _, ht2, loop_run mixed ELm_ok (s_lmO _ _ _ _) (inv_lmO _ _ _ _) (me_lmO _ _ _ _) re_lmO (rs_lmO _ _ _ _) k_lmO (fun _ => rfl) ltLm_good (round_lmO _ _ _ _ h2 h3) (x := 0) (Nat.zero_le _) (π := []) rfl ?_⟩
  refine ⟨rfl, rfl, ?_, wvs_spread' [3, 4, 5, 6] hlen rfl ?_⟩
  · repeat' (first | exact True.intro | exact rfl | exact wv_top _ _ | exact fun _ => rfl | assumption | exact Eq.symm (by assumption) | exact vI0 rfl | refine And.intro ?_ ?_)
  · rw [hpick]
    repeat' (first | exact True.intro | exact rfl | exact wv_top _ _ | exact fun _ => rfl | assumption | exact Eq.symm (by assumption) | exact vI0 rfl | refine And.intro ?_ ?_)
theorem Lr_lmO {fn : Func} (hf : Try.prog.funcs[4]? = some fn) : LoopsGood Try.prog (lt1 e_lmO) 0 (codeOf fn) := by
  obtain rfl := fn_is Try.func4 hf
  exact lt1_good lg_lmO
def LLm : FuncId → LT := fun f => match f with
  | 4 => lt1 e_lmO
  | _ => noL
def ELm2 : Env := mkE TLm RLm LLm
theorem ELm2_ok : EnvOk Try.prog ELm2 := mkEOk TLm_ok RLm_ok (by
  intro f fn hf
  unfold LLm
  split
  all_goals first | with_reducible exact Lr_lmO hf | exact noL_good)
end Go.Proofs.Ytolodncpegajkaa
namespace Go.Proofs.Ytolodncpegajkaa
set_option linter.all false
open Go.RowKit
set_option maxRecDepth 100000 in
theorem tr_lmp (bs : List Int) : bodyV Try.prog ELm2 30 12 4 [.row bs.length (.bytes bs)] = brT (decide (1048576 < (↑bs.length : Int))) (.fin (.bool (true)) []) (.need (Bytes (List.drop (0 : Nat) bs)) (.need (bs.length ≤ (List.drop (0 : Nat) bs).length) (.need ((List.drop (0 : Nat) (anL (List.drop (0 : Nat) bs) (rdL bs.length) (0 : Int))).length = asN (List.drop (0 : Nat) bs) (rdL bs.length) (0 : Int) * (4 : Nat)) (.need (Lim (asN (List.drop (0 : Nat) bs) (rdL bs.length) (0 : Int))) (.need ((List.drop (0 : Nat) (anL (List.drop (0 : Nat) bs) (rdL bs.length) (0 : Int))).length = asN (List.drop (0 : Nat) bs) (rdL bs.length) (0 : Int) * (4 : Nat)) (.need (Lim (asN (List.drop (0 : Nat) bs) (rdL bs.length) (0 : Int))) (.need ((mpV (asN (List.drop (0 : Nat) bs) (rdL bs.length) (0 : Int)) (List.drop (0 : Nat) (anL (List.drop (0 : Nat) bs) (rdL bs.length) (0 : Int)))).length = (mpV (asN (List.drop (0 : Nat) bs) (rdL bs.length) (0 : Int)) (List.drop (0 : Nat) (anL (List.drop (0 : Nat) bs) (rdL bs.length) (0 : Int)))).length) (.need (List.drop (0 : Nat) (flat (mpV (asN (List.drop (0 : Nat) bs) (rdL bs.length) (0 : Int)) (List.drop (0 : Nat) (anL (List.drop (0 : Nat) bs) (rdL bs.length) (0 : Int))))) = List.drop (0 : Nat) (flat (mpV (asN (List.drop (0 : Nat) bs) (rdL bs.length) (0 : Int)) (List.drop (0 : Nat) (anL (List.drop (0 : Nat) bs) (rdL bs.length) (0 : Int)))))) (.need ((List.drop (0 : Nat) (flat (mpV (asN (List.drop (0 : Nat) bs) (rdL bs.length) (0 : Int)) (List.drop (0 : Nat) (anL (List.drop (0 : Nat) bs) (rdL bs.length) (0 : Int)))))).length = (mpV (asN (List.drop (0 : Nat) bs) (rdL bs.length) (0 : Int)) (List.drop (0 : Nat) (anL (List.drop (0 : Nat) bs) (rdL bs.length) (0 : Int)))).length * (2 : Nat)) (.need (Lim (mpV (asN (List.drop (0 : Nat) bs) (rdL bs.length) (0 : Int)) (List.drop (0 : Nat) (anL (List.drop (0 : Nat) bs) (rdL bs.length) (0 : Int)))).length) (brT ((↑(mpV (asN (List.drop 0 bs) (rdL bs.length) 0) (List.drop 0 (anL (List.drop 0 bs) (rdL bs.length) 0))).length : Int) == 0) (.need ((List.drop (0 : Nat) (anL (List.drop (0 : Nat) bs) (rdL bs.length) (0 : Int))).length = asN (List.drop (0 : Nat) bs) (rdL bs.length) (0 : Int) * (4 : Nat)) (.need (Lim (asN (List.drop (0 : Nat) bs) (rdL bs.length) (0 : Int))) (.need ((mpV (asN (List.drop (0 : Nat) bs) (rdL bs.length) (0 : Int)) (List.drop (0 : Nat) (anL (List.drop (0 : Nat) bs) (rdL bs.length) (0 : Int)))).length = (mpV (asN (List.drop (0 : Nat) bs) (rdL bs.length) (0 : Int)) (List.drop (0 : Nat) (anL (List.drop (0 : Nat) bs) (rdL bs.length) (0 : Int)))).length) (.need (List.drop (0 : Nat) (flat (mpV (asN (List.drop (0 : Nat) bs) (rdL bs.length) (0 : Int)) (List.drop (0 : Nat) (anL (List.drop (0 : Nat) bs) (rdL bs.length) (0 : Int))))) = List.drop (0 : Nat) (flat (mpV (asN (List.drop (0 : Nat) bs) (rdL bs.length) (0 : Int)) (List.drop (0 : Nat) (anL (List.drop (0 : Nat) bs) (rdL bs.length) (0 : Int)))))) (.need ((List.drop (0 : Nat) (flat (mpV (asN (List.drop (0 : Nat) bs) (rdL bs.length) (0 : Int)) (List.drop (0 : Nat) (anL (List.drop (0 : Nat) bs) (rdL bs.length) (0 : Int)))))).length = (mpV (asN (List.drop (0 : Nat) bs) (rdL bs.length) (0 : Int)) (List.drop (0 : Nat) (anL (List.drop (0 : Nat) bs) (rdL bs.length) (0 : Int)))).length * (2 : Nat)) (.need (Lim (mpV (asN (List.drop (0 : Nat) bs) (rdL bs.length) (0 : Int)) (List.drop (0 : Nat) (anL (List.drop (0 : Nat) bs) (rdL bs.length) (0 : Int)))).length) (.fin (.bool (true)) []))))))) (.need ((0 : Int) = (0 : Int)) (.need ((0 : Int) = (0 : Int)) (.need ((anL (List.drop (0 : Nat) bs) (rdL bs.length) (0 : Int)).length = asN (List.drop (0 : Nat) bs) (rdL bs.length) (0 : Int) * (4 : Nat)) (.need (asN (List.drop (0 : Nat) bs) (rdL bs.length) (0 : Int) ≤ (12 : Nat)) (.need (flat (mpV (asN (List.drop (0 : Nat) bs) (rdL bs.length) (0 : Int)) (List.drop (0 : Nat) (anL (List.drop (0 : Nat) bs) (rdL bs.length) (0 : Int)))) = flat (mpL (anL (List.drop (0 : Nat) bs) (rdL bs.length) (0 : Int)) (asN (List.drop (0 : Nat) bs) (rdL bs.length) (0 : Int)) (offR (asN (List.drop (0 : Nat) bs) (rdL bs.length) (0 : Int)) (0 : Nat) (asN (List.drop (0 : Nat) bs) (rdL bs.length) (0 : Int))))) (.need ((mpV (asN (List.drop (0 : Nat) bs) (rdL bs.length) (0 : Int)) (List.drop (0 : Nat) (anL (List.drop (0 : Nat) bs) (rdL bs.length) (0 : Int)))).length = (mpL (anL (List.drop (0 : Nat) bs) (rdL bs.length) (0 : Int)) (asN (List.drop (0 : Nat) bs) (rdL bs.length) (0 : Int)) (offR (asN (List.drop (0 : Nat) bs) (rdL bs.length) (0 : Int)) (0 : Nat) (asN (List.drop (0 : Nat) bs) (rdL bs.length) (0 : Int)))).length) (.fin (.bool ((↑(mpL (anL (List.drop 0 bs) (rdL bs.length) 0) (asN (List.drop 0 bs) (rdL bs.length) 0) (offR (asN (List.drop 0 bs) (rdL bs.length) 0) 0 (asN (List.drop 0 bs) (rdL bs.length) 0))).length : Int) == (↑(mpV (asN (List.drop 0 bs) (rdL bs.length) 0) (List.drop 0 (anL (List.drop 0 bs) (rdL bs.length) 0))).length : Int))) [])))))))))))))))))) := by kernel_rfl
theorem MeetingPairs_res (bs : List Int) (hb : Bytes bs) (_ : bs.length ≤ maxLen) : Res Try.prog 4 [.row bs.length (.bytes bs)] (.bool true) := by
  refine bodyV_res mixed ELm2_ok (m := 30) (n := 12) rfl ?_
  rw [tr_lmp]
  simp only [List.drop_zero]
  have hx := anL_len bs (rdL bs.length) 0
  have hn := asN_bd bs (rdL bs.length) 0
  generalize anL bs (rdL bs.length) 0 = xs at *
  generalize asN bs (rdL bs.length) 0 = n at *
  have hP : Lim n := Nat.le_trans hn (by decide)
  have hV := mpV_len n xs
  have hL : Lim (mpV n xs).length := Nat.le_trans hV (by decide)
  have fl := flat_length (mpV n xs)
  have hk : 0 < (mpV n xs).length → n ≤ 12 ∧ mpV n xs = mpL xs n (offR n 0 n) := fun h => by
    unfold mpV at h ⊢
    rcases hv : vsB n xs with _ | _
    · rw [hv] at h
      simp at h
    · exact ⟨vs_12 hv, rfl⟩
  refine brT_ok.2 ⟨fun _ => rfl, fun hs => ?_⟩
  refine ⟨hb, Nat.le_refl _, hx, hP, hx, hP, trivial, trivial, fl, hL, brT_ok.2 ⟨fun g => ?_, fun g => ?_⟩⟩
  · exact ⟨hx, hP, trivial, trivial, fl, hL, rfl⟩
  · have g : ¬ ((mpV n xs).length : Int) = 0 := by simpa using g
    obtain ⟨k1, k2⟩ := hk (by omega)
    rw [k2]
    refine ⟨trivial, trivial, hx, k1, rfl, rfl, ?_⟩
    show Value.bool _ = Value.bool _
    rw [beq_self_eq_true]
end Go.Proofs.Ytolodncpegajkaa
