/-
  Laws of drawn fractions: MakeRat, sums undone, floors moved. Written by an AI agent.
-/
import Derived.Test.YtoleenohcidegaaPubD
import Derived.Test.YtoleenohcidegaaMath4
import Derived.Test.YtoleenohcidegaaAbsV
namespace Go.Proofs.Ytoleenohcidegaa
open Go.RowKit
set_option maxRecDepth 100000 in
theorem tr_dMk (bs : List Int) (n : Nat) : bodyV Try.prog ER2 30 12 13 [.row n (.bytes bs)] = brT (decide (2000 < (↑n : Int))) (.need ((0 : Int) ≤ bndI none (0 : Int) ∧ bndI none (0 : Int) ≤ bndI (some (IntKind.i64, (2000 : Int))) (↑n : Int) ∧ bndI (some (IntKind.i64, (2000 : Int))) (↑n : Int) ≤ (↑n : Int)) (.need (rdC bs (2000 : Nat) (0 : Int)) (.need ((1 : Nat) ≤ (8 : Nat) ∧ (8 : Nat) ≤ (8 : Nat) ∧ (8 : Nat) = (8 : Nat)) (.need (rdC bs (2000 : Nat) ((0 : Int) + (1 : Int))) (.need ((1 : Nat) ≤ (8 : Nat) ∧ (8 : Nat) ≤ (8 : Nat) ∧ (8 : Nat) = (8 : Nat)) (.fin (.tuple #[.int .i64 (oneI bs 2000 0 8 [0, 1, -6, 12, 300, 100000000000, 100000000001, 2000000000000000001]), .int .i64 (oneI bs 2000 (0 + 1) 8 [1, 2, -4, 6, 0, 20000000, 40000000, 7])]) [])))))) (.need (rdC bs n (0 : Int)) (.need ((1 : Nat) ≤ (8 : Nat) ∧ (8 : Nat) ≤ (8 : Nat) ∧ (8 : Nat) = (8 : Nat)) (.need (rdC bs n ((0 : Int) + (1 : Int))) (.need ((1 : Nat) ≤ (8 : Nat) ∧ (8 : Nat) ≤ (8 : Nat) ∧ (8 : Nat) = (8 : Nat)) (.fin (.tuple #[.int .i64 (oneI bs n 0 8 [0, 1, -6, 12, 300, 100000000000, 100000000001, 2000000000000000001]), .int .i64 (oneI bs n (0 + 1) 8 [1, 2, -4, 6, 0, 20000000, 40000000, 7])]) []))))) := by kernel_rfl
def numsL : List Int := [0, 1, -6, 12, 300, 100000000000, 100000000001, 2000000000000000001]
def densL : List Int := [1, 2, -4, 6, 0, 20000000, 40000000, 7]
def dmk (bs : List Int) (n : Nat) : Nat → Int
  | 0 => oneI bs (rdL n) 0 8 numsL
  | _ => oneI bs (rdL n) 1 8 densL
theorem res_dMk (bs : List Int) (n : Nat) (hb : Bytes bs) (hn : n ≤ bs.length) : Res Try.prog 13 [.row n (.bytes bs)] (.tuple #[iv (dmk bs n 0), iv (dmk bs n 1)]) := by
  refine bodyV_res mixed ER2_ok (m := 30) (n := 12) rfl ?_
  rw [tr_dMk]
  simp only [dmk]
  have key : ∀ l, l ≤ n → l ≤ 2000 → rdC bs l 0 ∧ rdC bs l (0 + 1) := fun l h1 h2 =>
    ⟨(rdK0 hb hn h1 h2 (by omega) (by omega) : rdK bs l 0).1, (rdK0 hb hn h1 h2 (by omega) (by omega) : rdK bs l (0 + 1)).1⟩
  refine brT_ok.2 ⟨fun h => ?_, fun h => ?_⟩
  · have h := of_decide_eq_true h
    obtain ⟨k1, k2⟩ := key 2000 (by omega) (by omega)
    rw [rdL_of h]
    exact ⟨bnd2000 h, k1, by decide, k2, by decide, rfl⟩
  · have h := of_decide_eq_false h
    obtain ⟨k1, k2⟩ := key n (by omega) (by omega)
    rw [rdL_no h]
    exact ⟨k1, by decide, k2, by decide, rfl⟩
theorem getD_bd {xs : List Int} {B : Int} (h0 : 0 ≤ B) (h : ∀ x ∈ xs, -B ≤ x ∧ x ≤ B) (i : Nat) : -B ≤ xs.getD i 0 ∧ xs.getD i 0 ≤ B := by
  rw [List.getD_eq_getElem?_getD]
  rcases hx : xs[i]? with _ | b
  · simp; omega
  · simpa using h b (List.mem_of_getElem? hx)
theorem dmk_bd (bs : List Int) (n : Nat) : (-2000000000000000001 ≤ dmk bs n 0 ∧ dmk bs n 0 ≤ 2000000000000000001) ∧ (-40000000 ≤ dmk bs n 1 ∧ dmk bs n 1 ≤ 40000000) :=
  ⟨getD_bd (by omega) (by decide) _, getD_bd (by omega) (by decide) _⟩
def pDMk : List DArg → Option (Value × List Prop)
  | [.row n (.bytes bs)] => some (.tuple #[iv (dmk bs n 0), iv (dmk bs n 1)], [Bytes bs, n ≤ bs.length])
  | _ => none
def TF2 : Tab := fun f ds => match f with
  | 59 => pTwoR ds
  | 24 => pFl ds
  | 13 => pDMk ds
  | _ => TF f ds
theorem TF2_ok : TabOk Try.prog TF2 := by
  intro f ds v C h hC
  unfold TF2 at h
  split at h
  · unfold pTwoR at h
    split at h
    · obtain ⟨rfl, rfl⟩ : _ ∧ _ := by simpa using h
      exact res_twoR _ _ hC.1 hC.2.1
    · cases h
  · unfold pFl at h
    split at h
    · obtain ⟨rfl, rfl⟩ : _ ∧ _ := by simpa using h
      exact res_dFloor _ _ hC.1 hC.2.1
    · cases h
  · unfold pDMk at h
    split at h
    · obtain ⟨rfl, rfl⟩ : _ ∧ _ := by simpa using h
      exact res_dMk _ _ hC.1 hC.2.1
    · cases h
  · exact TF_ok _ _ _ _ h hC
def EF2 : Env := tabE TF2
theorem EF2_ok : EnvOk Try.prog EF2 := tabE_ok TF2_ok
theorem negT (b : Bool) : negB true b = !b := by cases b <;> rfl
theorem negF (b : Bool) : negB false b = b := by cases b <;> rfl
set_option maxRecDepth 100000 in
theorem tr_lMk (bs : List Int) : bodyV Try.prog EF2 30 12 3 [.row bs.length (.bytes bs)] = brT (decide (1048576 < (↑bs.length : Int))) (.fin (.bool (true)) []) (.need (Bytes (List.drop (0 : Nat) bs)) (.need (bs.length ≤ (List.drop (0 : Nat) bs).length) (brT (!mkB (dmk (List.drop 0 bs) bs.length 0) (dmk (List.drop 0 bs) bs.length 1) == mkB (dmk (List.drop 0 bs) bs.length 0) (dmk (List.drop 0 bs) bs.length 1)) (brT (mkB (dmk (List.drop 0 bs) bs.length 0) (dmk (List.drop 0 bs) bs.length 1) == mkB (dmk (List.drop 0 bs) bs.length 0) (dmk (List.drop 0 bs) bs.length 1)) (.fin (.bool (negB false (mkN (dmk (List.drop 0 bs) bs.length 0) (dmk (List.drop 0 bs) bs.length 1) == mkN (dmk (List.drop 0 bs) bs.length 0) (dmk (List.drop 0 bs) bs.length 1) && (mkD (dmk (List.drop 0 bs) bs.length 0) (dmk (List.drop 0 bs) bs.length 1) == mkD (dmk (List.drop 0 bs) bs.length 0) (dmk (List.drop 0 bs) bs.length 1) && true)))) []) (.fin (.bool (false)) [])) (brT (negB true (mkN (dmk (List.drop 0 bs) bs.length 0) (dmk (List.drop 0 bs) bs.length 1) == mkN (dmk (List.drop 0 bs) bs.length 0) (dmk (List.drop 0 bs) bs.length 1) && (mkD (dmk (List.drop 0 bs) bs.length 0) (dmk (List.drop 0 bs) bs.length 1) == mkD (dmk (List.drop 0 bs) bs.length 0) (dmk (List.drop 0 bs) bs.length 1) && true))) (brT (mkB (dmk (List.drop 0 bs) bs.length 0) (dmk (List.drop 0 bs) bs.length 1) == mkB (dmk (List.drop 0 bs) bs.length 0) (dmk (List.drop 0 bs) bs.length 1)) (.fin (.bool (negB false (mkN (dmk (List.drop 0 bs) bs.length 0) (dmk (List.drop 0 bs) bs.length 1) == mkN (dmk (List.drop 0 bs) bs.length 0) (dmk (List.drop 0 bs) bs.length 1) && (mkD (dmk (List.drop 0 bs) bs.length 0) (dmk (List.drop 0 bs) bs.length 1) == mkD (dmk (List.drop 0 bs) bs.length 0) (dmk (List.drop 0 bs) bs.length 1) && true)))) []) (.fin (.bool (false)) [])) (brT (!mkB (dmk (List.drop 0 bs) bs.length 0) (dmk (List.drop 0 bs) bs.length 1)) (brT (mkB (dmk (List.drop 0 bs) bs.length 0) (dmk (List.drop 0 bs) bs.length 1) == mkB (dmk (List.drop 0 bs) bs.length 0) (dmk (List.drop 0 bs) bs.length 1)) (.fin (.bool (negB false (mkN (dmk (List.drop 0 bs) bs.length 0) (dmk (List.drop 0 bs) bs.length 1) == mkN (dmk (List.drop 0 bs) bs.length 0) (dmk (List.drop 0 bs) bs.length 1) && (mkD (dmk (List.drop 0 bs) bs.length 0) (dmk (List.drop 0 bs) bs.length 1) == mkD (dmk (List.drop 0 bs) bs.length 0) (dmk (List.drop 0 bs) bs.length 1) && true)))) []) (.fin (.bool (false)) [])) (brT (ratB (mkN (dmk (List.drop 0 bs) bs.length 0) (dmk (List.drop 0 bs) bs.length 1)) (mkD (dmk (List.drop 0 bs) bs.length 0) (dmk (List.drop 0 bs) bs.length 1))) (brT (mkB (IntKind.i64.wrap (0 - dmk (List.drop 0 bs) bs.length 0)) (IntKind.i64.wrap (0 - dmk (List.drop 0 bs) bs.length 1))) (brT (negB false (mkN (IntKind.i64.wrap (0 - dmk (List.drop 0 bs) bs.length 0)) (IntKind.i64.wrap (0 - dmk (List.drop 0 bs) bs.length 1)) == mkN (dmk (List.drop 0 bs) bs.length 0) (dmk (List.drop 0 bs) bs.length 1) && (mkD (IntKind.i64.wrap (0 - dmk (List.drop 0 bs) bs.length 0)) (IntKind.i64.wrap (0 - dmk (List.drop 0 bs) bs.length 1)) == mkD (dmk (List.drop 0 bs) bs.length 0) (dmk (List.drop 0 bs) bs.length 1) && true))) (brT (decide (1000000 < dmk (List.drop 0 bs) bs.length 0)) (.fin (.bool (true)) []) (brT (decide (dmk (List.drop 0 bs) bs.length 0 < -1000000)) (.fin (.bool (true)) []) (.fin (.bool (IntKind.i64.wrap (mkN (dmk (List.drop 0 bs) bs.length 0) (dmk (List.drop 0 bs) bs.length 1) * dmk (List.drop 0 bs) bs.length 1) == IntKind.i64.wrap (dmk (List.drop 0 bs) bs.length 0 * mkD (dmk (List.drop 0 bs) bs.length 0) (dmk (List.drop 0 bs) bs.length 1)))) []))) (.fin (.bool (false)) [])) (.fin (.bool (false)) [])) (.fin (.bool (false)) []))))))) := by kernel_rfl
set_option maxRecDepth 100000 in
theorem tr_lSub (bs : List Int) : bodyV Try.prog EF2 30 12 4 [.row bs.length (.bytes bs)] = brT (decide (1048576 < (↑bs.length : Int))) (.fin (.bool (true)) []) (.need (Bytes (List.drop (0 : Nat) bs)) (.need (bs.length ≤ (List.drop (0 : Nat) bs).length) (brT (!addB (d2r (List.drop 0 bs) bs.length 0) (d2r (List.drop 0 bs) bs.length 1) (d2r (List.drop 0 bs) bs.length 2) (d2r (List.drop 0 bs) bs.length 3) == addB (d2r (List.drop 0 bs) bs.length 0) (d2r (List.drop 0 bs) bs.length 1) (d2r (List.drop 0 bs) bs.length 2) (d2r (List.drop 0 bs) bs.length 3)) (brT (addB (d2r (List.drop 0 bs) bs.length 0) (d2r (List.drop 0 bs) bs.length 1) (d2r (List.drop 0 bs) bs.length 2) (d2r (List.drop 0 bs) bs.length 3) == addB (d2r (List.drop 0 bs) bs.length 0) (d2r (List.drop 0 bs) bs.length 1) (d2r (List.drop 0 bs) bs.length 2) (d2r (List.drop 0 bs) bs.length 3)) (.fin (.bool (negB false (addN (d2r (List.drop 0 bs) bs.length 0) (d2r (List.drop 0 bs) bs.length 1) (d2r (List.drop 0 bs) bs.length 2) (d2r (List.drop 0 bs) bs.length 3) == addN (d2r (List.drop 0 bs) bs.length 0) (d2r (List.drop 0 bs) bs.length 1) (d2r (List.drop 0 bs) bs.length 2) (d2r (List.drop 0 bs) bs.length 3) && (addD (d2r (List.drop 0 bs) bs.length 0) (d2r (List.drop 0 bs) bs.length 1) (d2r (List.drop 0 bs) bs.length 2) (d2r (List.drop 0 bs) bs.length 3) == addD (d2r (List.drop 0 bs) bs.length 0) (d2r (List.drop 0 bs) bs.length 1) (d2r (List.drop 0 bs) bs.length 2) (d2r (List.drop 0 bs) bs.length 3) && true)))) []) (.fin (.bool (false)) [])) (brT (negB true (addN (d2r (List.drop 0 bs) bs.length 0) (d2r (List.drop 0 bs) bs.length 1) (d2r (List.drop 0 bs) bs.length 2) (d2r (List.drop 0 bs) bs.length 3) == addN (d2r (List.drop 0 bs) bs.length 0) (d2r (List.drop 0 bs) bs.length 1) (d2r (List.drop 0 bs) bs.length 2) (d2r (List.drop 0 bs) bs.length 3) && (addD (d2r (List.drop 0 bs) bs.length 0) (d2r (List.drop 0 bs) bs.length 1) (d2r (List.drop 0 bs) bs.length 2) (d2r (List.drop 0 bs) bs.length 3) == addD (d2r (List.drop 0 bs) bs.length 0) (d2r (List.drop 0 bs) bs.length 1) (d2r (List.drop 0 bs) bs.length 2) (d2r (List.drop 0 bs) bs.length 3) && true))) (brT (addB (d2r (List.drop 0 bs) bs.length 0) (d2r (List.drop 0 bs) bs.length 1) (d2r (List.drop 0 bs) bs.length 2) (d2r (List.drop 0 bs) bs.length 3) == addB (d2r (List.drop 0 bs) bs.length 0) (d2r (List.drop 0 bs) bs.length 1) (d2r (List.drop 0 bs) bs.length 2) (d2r (List.drop 0 bs) bs.length 3)) (.fin (.bool (negB false (addN (d2r (List.drop 0 bs) bs.length 0) (d2r (List.drop 0 bs) bs.length 1) (d2r (List.drop 0 bs) bs.length 2) (d2r (List.drop 0 bs) bs.length 3) == addN (d2r (List.drop 0 bs) bs.length 0) (d2r (List.drop 0 bs) bs.length 1) (d2r (List.drop 0 bs) bs.length 2) (d2r (List.drop 0 bs) bs.length 3) && (addD (d2r (List.drop 0 bs) bs.length 0) (d2r (List.drop 0 bs) bs.length 1) (d2r (List.drop 0 bs) bs.length 2) (d2r (List.drop 0 bs) bs.length 3) == addD (d2r (List.drop 0 bs) bs.length 0) (d2r (List.drop 0 bs) bs.length 1) (d2r (List.drop 0 bs) bs.length 2) (d2r (List.drop 0 bs) bs.length 3) && true)))) []) (.fin (.bool (false)) [])) (brT (!addB (d2r (List.drop 0 bs) bs.length 0) (d2r (List.drop 0 bs) bs.length 1) (d2r (List.drop 0 bs) bs.length 2) (d2r (List.drop 0 bs) bs.length 3)) (brT (addB (d2r (List.drop 0 bs) bs.length 0) (d2r (List.drop 0 bs) bs.length 1) (d2r (List.drop 0 bs) bs.length 2) (d2r (List.drop 0 bs) bs.length 3) == addB (d2r (List.drop 0 bs) bs.length 0) (d2r (List.drop 0 bs) bs.length 1) (d2r (List.drop 0 bs) bs.length 2) (d2r (List.drop 0 bs) bs.length 3)) (.fin (.bool (negB false (addN (d2r (List.drop 0 bs) bs.length 0) (d2r (List.drop 0 bs) bs.length 1) (d2r (List.drop 0 bs) bs.length 2) (d2r (List.drop 0 bs) bs.length 3) == addN (d2r (List.drop 0 bs) bs.length 0) (d2r (List.drop 0 bs) bs.length 1) (d2r (List.drop 0 bs) bs.length 2) (d2r (List.drop 0 bs) bs.length 3) && (addD (d2r (List.drop 0 bs) bs.length 0) (d2r (List.drop 0 bs) bs.length 1) (d2r (List.drop 0 bs) bs.length 2) (d2r (List.drop 0 bs) bs.length 3) == addD (d2r (List.drop 0 bs) bs.length 0) (d2r (List.drop 0 bs) bs.length 1) (d2r (List.drop 0 bs) bs.length 2) (d2r (List.drop 0 bs) bs.length 3) && true)))) []) (.fin (.bool (false)) [])) (brT (addB (addN (d2r (List.drop 0 bs) bs.length 0) (d2r (List.drop 0 bs) bs.length 1) (d2r (List.drop 0 bs) bs.length 2) (d2r (List.drop 0 bs) bs.length 3)) (addD (d2r (List.drop 0 bs) bs.length 0) (d2r (List.drop 0 bs) bs.length 1) (d2r (List.drop 0 bs) bs.length 2) (d2r (List.drop 0 bs) bs.length 3)) (IntKind.i64.wrap (0 - d2r (List.drop 0 bs) bs.length 2)) (d2r (List.drop 0 bs) bs.length 3)) (.fin (.bool (negB false (addN (addN (d2r (List.drop 0 bs) bs.length 0) (d2r (List.drop 0 bs) bs.length 1) (d2r (List.drop 0 bs) bs.length 2) (d2r (List.drop 0 bs) bs.length 3)) (addD (d2r (List.drop 0 bs) bs.length 0) (d2r (List.drop 0 bs) bs.length 1) (d2r (List.drop 0 bs) bs.length 2) (d2r (List.drop 0 bs) bs.length 3)) (IntKind.i64.wrap (0 - d2r (List.drop 0 bs) bs.length 2)) (d2r (List.drop 0 bs) bs.length 3) == d2r (List.drop 0 bs) bs.length 0 && (addD (addN (d2r (List.drop 0 bs) bs.length 0) (d2r (List.drop 0 bs) bs.length 1) (d2r (List.drop 0 bs) bs.length 2) (d2r (List.drop 0 bs) bs.length 3)) (addD (d2r (List.drop 0 bs) bs.length 0) (d2r (List.drop 0 bs) bs.length 1) (d2r (List.drop 0 bs) bs.length 2) (d2r (List.drop 0 bs) bs.length 3)) (IntKind.i64.wrap (0 - d2r (List.drop 0 bs) bs.length 2)) (d2r (List.drop 0 bs) bs.length 3) == d2r (List.drop 0 bs) bs.length 1 && true)))) []) (.fin (.bool (false)) []))))))) := by kernel_rfl
set_option maxRecDepth 100000 in
theorem tr_lShift (bs : List Int) : bodyV Try.prog EF2 30 12 6 [.row bs.length (.bytes bs)] = brT (decide (1048576 < (↑bs.length : Int))) (.fin (.bool (true)) []) (.need (Bytes (List.drop (0 : Nat) bs)) (.need (bs.length ≤ (List.drop (0 : Nat) bs).length) (brT (!flR (d2r (List.drop 0 bs) bs.length 0) (d2r (List.drop 0 bs) bs.length 1) == flR (d2r (List.drop 0 bs) bs.length 0) (d2r (List.drop 0 bs) bs.length 1)) (.fin (.bool (flR (d2r (List.drop 0 bs) bs.length 0) (d2r (List.drop 0 bs) bs.length 1) == flR (d2r (List.drop 0 bs) bs.length 0) (d2r (List.drop 0 bs) bs.length 1))) []) (brT (!addB (d2r (List.drop 0 bs) bs.length 0) (d2r (List.drop 0 bs) bs.length 1) 1 1) (.fin (.bool (flR (d2r (List.drop 0 bs) bs.length 0) (d2r (List.drop 0 bs) bs.length 1) == flR (d2r (List.drop 0 bs) bs.length 0) (d2r (List.drop 0 bs) bs.length 1))) []) (.fin (.bool (flR (addN (d2r (List.drop 0 bs) bs.length 0) (d2r (List.drop 0 bs) bs.length 1) 1 1) (addD (d2r (List.drop 0 bs) bs.length 0) (d2r (List.drop 0 bs) bs.length 1) 1 1) == IntKind.i64.wrap (flR (d2r (List.drop 0 bs) bs.length 0) (d2r (List.drop 0 bs) bs.length 1) + 1))) []))))) := by kernel_rfl
theorem law_sub (bs : List Int) (hb : Bytes bs) (_ : bs.length ≤ maxLen) : Res Try.prog 4 [.row bs.length (.bytes bs)] (.bool true) := by
  refine bodyV_res mixed EF2_ok (m := 30) (n := 12) rfl ?_
  rw [tr_lSub]
  simp only [List.drop_zero]
  generalize d2r bs bs.length 0 = an
  generalize d2r bs bs.length 1 = ad
  generalize d2r bs bs.length 2 = bn
  generalize d2r bs bs.length 3 = bd
  rcases hB : addB an ad bn bd with _ | _
  · simp [brT_ok, Tree.ok, negT, negF, hb, hB]
  · obtain ⟨k1, k2, k3⟩ := sub_part hB
    have hr : ratB bn bd = true := by
      unfold addB at hB
      simp only [Bool.and_eq_true] at hB
      exact hB.1.2
    have b := ratB_true hr
    have w : IntKind.i64.wrap (-bn) = -bn := wr (by omega)
    simp [brT_ok, Tree.ok, negT, negF, hb, hB, w, k1, k2, k3]
theorem law_shift (bs : List Int) (hb : Bytes bs) (_ : bs.length ≤ maxLen) : Res Try.prog 6 [.row bs.length (.bytes bs)] (.bool true) := by
  refine bodyV_res mixed EF2_ok (m := 30) (n := 12) rfl ?_
  rw [tr_lShift]
  simp only [List.drop_zero]
  generalize d2r bs bs.length 0 = n
  generalize d2r bs bs.length 1 = d
  rcases hB : addB n d 1 1 with _ | _
  · simp [brT_ok, Tree.ok, negT, negF, hb, hB]
  · obtain ⟨k1, k2⟩ := shift_part hB
    obtain ⟨_, _, _, _, f1, f2⟩ := floor_part k2
    have w : IntKind.i64.wrap (flR n d + 1) = flR n d + 1 := wr (by omega)
    simp [brT_ok, Tree.ok, negT, negF, hb, hB, w, k1]
theorem law_mk (bs : List Int) (hb : Bytes bs) (_ : bs.length ≤ maxLen) : Res Try.prog 3 [.row bs.length (.bytes bs)] (.bool true) := by
  refine bodyV_res mixed EF2_ok (m := 30) (n := 12) rfl ?_
  rw [tr_lMk]
  simp only [List.drop_zero]
  obtain ⟨b1, b2⟩ := dmk_bd bs bs.length
  generalize dmk bs bs.length 0 = num at *
  generalize dmk bs bs.length 1 = den at *
  obtain ⟨e1, e2, e3⟩ := mk_neg num den
  have w1 : IntKind.i64.wrap (-num) = -num := wr (by omega)
  have w2 : IntKind.i64.wrap (-den) = -den := wr (by omega)
  rcases hB : mkB num den with _ | _
  · simp [brT_ok, Tree.ok, negT, negF, hb, hB]
  · have hr := mkB_rat hB
    by_cases hs : -1000000 ≤ num ∧ num ≤ 1000000
    · obtain ⟨k1, k2, k3⟩ := mk_part hB hs b2
      have m1 := prod_bd (x := mkN num den) (y := den) 1000000 40000000 k2 b2
      have w3 : IntKind.i64.wrap (mkN num den * den) = mkN num den * den := wr (by omega)
      have w4 : IntKind.i64.wrap (num * mkD num den) = num * mkD num den := by rw [← k1]; exact w3
      simp [brT_ok, Tree.ok, negT, negF, hb, hB, w1, w2, e1, e2, e3, hr, w3, w4, k1]
    · simp [brT_ok, Tree.ok, negT, negF, hb, hB, w1, w2, e1, e2, e3, hr]
      intros
      exfalso
      omega
end Go.Proofs.Ytoleenohcidegaa
