/-
  Texts that the proof needs, merged. Written by an AI agent.
-/
import Derived.Orders
import Derived.Below
import Derived.OrdersIn
import Derived.Deep.LoopGhost
import Derived.WalkKit
import Derived.Laws.CopyRow
import Derived.Laws.AppendOwn
import Derived.Laws.Slices
import Derived.Laws.MakeOwn
import Derived.Test.YtolodncpegajkabRows
import Derived.ProofKit
import Derived.OpenShut
import Derived.Carry
import Derived.IntWalk
import Derived.Test.YtolodncpegajkabProg
import Derived.WalkSpells
import Derived.WalkLawsBesides
import Derived.Lib.Hide
import Derived.Deep.QuietTactic
import Derived.BigQuiet
import Derived.KernelRfl
import Derived.Deep.RegionHeld3
import Derived.LoopTactic
import Derived.Laws.StructEq
import Derived.Laws.Tables
import Derived.RangeFuncNested
import Derived.RangeFuncLeaves
import Derived.Deep.Slices
import Derived.Deep.Fields
import Derived.ChangeSame
import Derived.Shelf.SlSortCmp.WholeK
import Derived.Sort.Grow
import Derived.Deep.DeepCutAuto
import Derived.Shelf.SlSortCmp.NoneTotal
import Derived.Test.YtolodncpegajkabZCheckSimplified4
namespace Go.Proofs.Ytolodncpegajkab
set_option linter.all false
open Go.RowKit
/-- The points that are kept behind a up to b. -/
def sml (ps : List Pt) (most : Int) : Nat → Nat → Nat → List Int
  | 0, _, b => [(b : Int)]
  | f + 1, a, b => bif stpB ps a b most then [(b : Int)] else sml ps most f a (wrK ps a b) ++ sml ps most f (wrK ps a b) b
def smL (ps : List Pt) (most : Int) (a b : Nat) : List Int := sml ps most (b - a) a b
theorem stp_no {ps : List Pt} {most : Int} {a b : Nat} (h : a < b) (hs : stpB ps a b most = false) : a < wrK ps a b ∧ wrK ps a b < b := by
  have := wrK_bd ps h
  unfold stpB at hs
  rw [Bool.or_eq_false_iff] at hs
  have := of_decide_eq_false hs.1
  omega
theorem sml_fuel (ps : List Pt) (most : Int) : ∀ f a b, a < b → b - a ≤ f → sml ps most f a b = sml ps most (b - a) a b
  | 0, a, b, h, h1 => by omega
  | f + 1, a, b, h, h1 => by
    obtain ⟨g, hg⟩ : ∃ g, b - a = g + 1 := ⟨b - a - 1, by omega⟩
    rw [hg]
    simp only [sml]
    rcases hs : stpB ps a b most with _ | _
    · obtain ⟨k1, k2⟩ := stp_no h hs
      simp only [cond_false]
      rw [sml_fuel ps most f a _ k1 (by omega), sml_fuel ps most f _ b k2 (by omega), sml_fuel ps most g a _ k1 (by omega), sml_fuel ps most g _ b k2 (by omega)]
    · rfl
  termination_by f a b => f + (b - a)
theorem smL_yes {ps : List Pt} {most : Int} {a b : Nat} (hs : stpB ps a b most = true) : smL ps most a b = [(b : Int)] := by
  unfold smL
  rcases b - a with _ | f
  · rfl
  · simp only [sml, hs, cond_true]
theorem smL_no {ps : List Pt} {most : Int} {a b : Nat} (h : a < b) (hs : stpB ps a b most = false) : smL ps most a b = smL ps most a (wrK ps a b) ++ smL ps most (wrK ps a b) b := by
  obtain ⟨k1, k2⟩ := stp_no h hs
  unfold smL
  obtain ⟨g, hg⟩ : ∃ g, b - a = g + 1 := ⟨b - a - 1, by omega⟩
  rw [hg]
  simp only [sml, hs, cond_false]
  rw [sml_fuel ps most g a _ k1 (by omega), sml_fuel ps most g _ b k2 (by omega)]
theorem sml_len (ps : List Pt) (most : Int) : ∀ f a b, a < b → b - a ≤ f → (sml ps most f a b).length ≤ b - a
  | 0, a, b, h, h1 => by omega
  | f + 1, a, b, h, h1 => by
    simp only [sml]
    rcases hs : stpB ps a b most with _ | _
    · obtain ⟨k1, k2⟩ := stp_no h hs
      have h2 := sml_len ps most f a _ k1 (by omega)
      have h3 := sml_len ps most f _ b k2 (by omega)
      simp only [cond_false, List.length_append]
      omega
    · simp only [cond_true, List.length_cons, List.length_nil]
      omega
theorem smL_len {ps : List Pt} {most : Int} {a b : Nat} (h : a < b) : (smL ps most a b).length ≤ b - a := sml_len ps most _ a b h (Nat.le_refl _)
def smS (N : Nat) : VSpec := fun lv ys e sz l xs rest => match e, sz, rest with
  | 3, 1, [.int .i64 a, .int .i64 b, .int .i64 most] => some (.slice (some ⟨0, 0, none⟩) (xs ++ smL (ptsA lv ys) most a.toNat b.toNat).length (xs ++ smL (ptsA lv ys) most a.toNat b.toNat).length, ⟨.row 3 1, .ints (xs ++ smL (ptsA lv ys) most a.toNat b.toNat)⟩, [ys.length = lv * 2, lv ≤ 20, allV (ptsA lv ys) = true, xs.length = l, l + (b - a).toNat ≤ 1000, 0 ≤ a ∧ a < b, b < lv, 0 ≤ most ∧ most ≤ 8000000, b.toNat - a.toNat < N])
  | _, _, _ => none
def JSm (N : Nat) : TabJ := consR 72 (ovG (smS N)) noJ
def ESmS (N : Nat) : Env := withT (mkE TSm2 R4 (fun _ => noL)) (JSm N)
set_option maxRecDepth 100000 in
theorem tr_sim (N : Nat) (ps : List Pt) (a b : Nat) (most : Int) (l : Nat) (xs : List Int) : bodyM Try.prog (ESmS N) (runM Try.prog (ESmS N) 30 12) 30 72 [.slice (some ⟨0, 0, none⟩) ps.length ps.length, .int .i64 a, .int .i64 b, .int .i64 most, .slice (some ⟨1, 0, none⟩) l l] [some ⟨.view, .ints (flat ps)⟩, some ⟨.row 3 1, .ints xs⟩] .fin = .need (ps.length * (2 : Nat) ≤ (List.drop (0 : Nat) (flat ps)).length) (.need (ps.length ≤ (1000 : Nat)) (.need (allV (ptsA ps.length (List.drop (0 : Nat) (flat ps))) = true) (.need ((0 : Int) ≤ (↑a : Int) ∧ (↑a : Int) < (↑ps.length : Int)) (.need ((0 : Int) ≤ (↑b : Int) ∧ (↑b : Int) < (↑ps.length : Int)) (.need (ps.length * (2 : Nat) ≤ (List.drop (0 : Nat) (flat ps)).length) (.need (ps.length ≤ (1000 : Nat)) (.need (allV (ptsA ps.length (List.drop (0 : Nat) (flat ps))) = true) (.need ((0 : Int) ≤ (↑a : Int) ∧ (↑a : Int) < (↑ps.length : Int)) (.need ((0 : Int) ≤ (↑b : Int) ∧ (↑b : Int) < (↑ps.length : Int)) (.need ((0 : Int) ≤ (↑(wrK (ptsA ps.length (List.drop (0 : Nat) (flat ps))) (↑a : Int).toNat (↑b : Int).toNat) : Int) ∧ (↑(wrK (ptsA ps.length (List.drop (0 : Nat) (flat ps))) (↑a : Int).toNat (↑b : Int).toNat) : Int) < (↑ps.length : Int)) (brT ((↑(wrK (ptsA ps.length (List.drop 0 (flat ps))) (↑a : Int).toNat (↑b : Int).toNat) : Int) == (↑a : Int)) (.need ((l + (1 : Nat)) * (8 : Nat) ≤ (140737488355328 : Nat) ∧ l + (1 : Nat) ≤ (1000000 : Nat)) (.need ((0 : Nat) + l * (1 : Nat) ≤ xs.length) (.fin (.slice (some ⟨3, 0, none⟩) (l + 1) (l + 1)) [some ⟨.view, .ints (flat ps)⟩, some deadB, some ⟨.row 3 1, .vals [.int .i64 ((↑b : Int))]⟩, some ⟨.row 3 1, .ints (List.take (l * 1) (List.drop 0 xs) ++ [(↑b : Int)])⟩]))) (brT (decide (dvN (gP (ptsA ps.length (List.drop 0 (flat ps))) (↑a : Int).toNat) (gP (ptsA ps.length (List.drop 0 (flat ps))) (↑b : Int).toNat) (gP (ptsA ps.length (List.drop 0 (flat ps))) (↑(wrK (ptsA ps.length (List.drop 0 (flat ps))) (↑a : Int).toNat (↑b : Int).toNat) : Int).toNat) ≤ IntKind.i64.wrap (most * dvD (gP (ptsA ps.length (List.drop 0 (flat ps))) (↑a : Int).toNat) (gP (ptsA ps.length (List.drop 0 (flat ps))) (↑b : Int).toNat) (gP (ptsA ps.length (List.drop 0 (flat ps))) (↑(wrK (ptsA ps.length (List.drop 0 (flat ps))) (↑a : Int).toNat (↑b : Int).toNat) : Int).toNat)))) (.need ((l + (1 : Nat)) * (8 : Nat) ≤ (140737488355328 : Nat) ∧ l + (1 : Nat) ≤ (1000000 : Nat)) (.need ((0 : Nat) + l * (1 : Nat) ≤ xs.length) (.fin (.slice (some ⟨3, 0, none⟩) (l + 1) (l + 1)) [some ⟨.view, .ints (flat ps)⟩, some deadB, some ⟨.row 3 1, .vals [.int .i64 ((↑b : Int))]⟩, some ⟨.row 3 1, .ints (List.take (l * 1) (List.drop 0 xs) ++ [(↑b : Int)])⟩]))) (.need ((flat ps).length = ps.length * (2 : Nat)) (.need (ps.length ≤ (20 : Nat)) (.need (allV (ptsA ps.length (flat ps)) = true) (.need (xs.length = l) (.need (l + ((↑(wrK (ptsA ps.length (List.drop (0 : Nat) (flat ps))) (↑a : Int).toNat (↑b : Int).toNat) : Int) - (↑a : Int)).toNat ≤ (1000 : Nat)) (.need ((0 : Int) ≤ (↑a : Int) ∧ (↑a : Int) < (↑(wrK (ptsA ps.length (List.drop (0 : Nat) (flat ps))) (↑a : Int).toNat (↑b : Int).toNat) : Int)) (.need ((↑(wrK (ptsA ps.length (List.drop (0 : Nat) (flat ps))) (↑a : Int).toNat (↑b : Int).toNat) : Int) < (↑ps.length : Int)) (.need ((0 : Int) ≤ most ∧ most ≤ (8000000 : Int)) (.need ((↑(wrK (ptsA ps.length (List.drop (0 : Nat) (flat ps))) (↑a : Int).toNat (↑b : Int).toNat) : Int).toNat - (↑a : Int).toNat < N) (.need ((flat ps).length = ps.length * (2 : Nat)) (.need (ps.length ≤ (20 : Nat)) (.need (allV (ptsA ps.length (flat ps)) = true) (.need ((xs ++ smL (ptsA ps.length (flat ps)) most (↑a : Int).toNat (↑(wrK (ptsA ps.length (List.drop (0 : Nat) (flat ps))) (↑a : Int).toNat (↑b : Int).toNat) : Int).toNat).length = (xs ++ smL (ptsA ps.length (flat ps)) most (↑a : Int).toNat (↑(wrK (ptsA ps.length (List.drop (0 : Nat) (flat ps))) (↑a : Int).toNat (↑b : Int).toNat) : Int).toNat).length) (.need ((xs ++ smL (ptsA ps.length (flat ps)) most (↑a : Int).toNat (↑(wrK (ptsA ps.length (List.drop (0 : Nat) (flat ps))) (↑a : Int).toNat (↑b : Int).toNat) : Int).toNat).length + ((↑b : Int) - (↑(wrK (ptsA ps.length (List.drop (0 : Nat) (flat ps))) (↑a : Int).toNat (↑b : Int).toNat) : Int)).toNat ≤ (1000 : Nat)) (.need ((0 : Int) ≤ (↑(wrK (ptsA ps.length (List.drop (0 : Nat) (flat ps))) (↑a : Int).toNat (↑b : Int).toNat) : Int) ∧ (↑(wrK (ptsA ps.length (List.drop (0 : Nat) (flat ps))) (↑a : Int).toNat (↑b : Int).toNat) : Int) < (↑b : Int)) (.need ((↑b : Int) < (↑ps.length : Int)) (.need ((0 : Int) ≤ most ∧ most ≤ (8000000 : Int)) (.need ((↑b : Int).toNat - (↑(wrK (ptsA ps.length (List.drop (0 : Nat) (flat ps))) (↑a : Int).toNat (↑b : Int).toNat) : Int).toNat < N) (.fin (.slice (some ⟨3, 0, none⟩) ((xs ++ smL (ptsA ps.length (flat ps)) most (↑a : Int).toNat (↑(wrK (ptsA ps.length (List.drop 0 (flat ps))) (↑a : Int).toNat (↑b : Int).toNat) : Int).toNat ++ smL (ptsA ps.length (flat ps)) most (↑(wrK (ptsA ps.length (List.drop 0 (flat ps))) (↑a : Int).toNat (↑b : Int).toNat) : Int).toNat (↑b : Int).toNat).length) ((xs ++ smL (ptsA ps.length (flat ps)) most (↑a : Int).toNat (↑(wrK (ptsA ps.length (List.drop 0 (flat ps))) (↑a : Int).toNat (↑b : Int).toNat) : Int).toNat ++ smL (ptsA ps.length (flat ps)) most (↑(wrK (ptsA ps.length (List.drop 0 (flat ps))) (↑a : Int).toNat (↑b : Int).toNat) : Int).toNat (↑b : Int).toNat).length)) [some ⟨.view, .ints (flat ps)⟩, some deadB, some deadB, some ⟨.row 3 1, .ints (xs ++ smL (ptsA ps.length (flat ps)) most (↑a : Int).toNat (↑(wrK (ptsA ps.length (List.drop 0 (flat ps))) (↑a : Int).toNat (↑b : Int).toNat) : Int).toNat ++ smL (ptsA ps.length (flat ps)) most (↑(wrK (ptsA ps.length (List.drop 0 (flat ps))) (↑a : Int).toNat (↑b : Int).toNat) : Int).toNat (↑b : Int).toNat)⟩]))))))))))))))))))))))))))))))) := by kernel_rfl
set_option maxRecDepth 100000 in
set_option maxHeartbeats 1000000 in
theorem sim_row (N : Nat) (ps : List Pt) (a b : Nat) (most : Int) (xs : List Int) (hl : ps.length ≤ 20) (hv : allV ps = true) (hx : xs.length + (b - a) ≤ 1000) (hab : a < b) (hb : b < ps.length) (hm : 0 ≤ most ∧ most ≤ 8000000) (hN : b - a < N + 1) :
    (bodyM Try.prog (ESmS N) (runM Try.prog (ESmS N) 30 12) 30 72 [.slice (some ⟨0, 0, none⟩) ps.length ps.length, .int .i64 a, .int .i64 b, .int .i64 most, .slice (some ⟨1, 0, none⟩) xs.length xs.length] [some ⟨.view, .ints (flat ps)⟩, some ⟨.row 3 1, .ints xs⟩] .fin).ok (fun _ _ => False) (fun u mem' => RowIs (.slice (some ⟨0, 0, none⟩) (xs ++ smL ps most a b).length (xs ++ smL ps most a b).length) ⟨.row 3 1, .ints (xs ++ smL ps most a b)⟩ u mem') := by
  rw [tr_sim]
  have fl := flat_length ps
  simp only [List.drop_zero, ptsA_flat, Int.toNat_natCast, Nat.mul_one, Nat.zero_add, List.take_length, fl]
  have wb := wrK_bd ps hab
  have one : stpB ps a b most = true → RowIs (.slice (some ⟨0, 0, none⟩) (xs ++ smL ps most a b).length (xs ++ smL ps most a b).length) ⟨.row 3 1, .ints (xs ++ smL ps most a b)⟩ (.slice (some ⟨3, 0, none⟩) (xs.length + 1) (xs.length + 1)) [some ⟨.view, .ints (flat ps)⟩, some deadB, some ⟨.row 3 1, .vals [.int .i64 ((b : Nat) : Int)]⟩, some ⟨.row 3 1, .ints (xs ++ [(b : Int)])⟩] := fun h => by
    rw [smL_yes h, show (xs ++ [(b : Int)]).length = xs.length + 1 by simp]
    exact ⟨some 3, ⟨rfl, rfl, rfl⟩, rfl, rfl, rfl⟩
  simp only [Tree.ok]
  repeat (refine And.intro (by first | exact True.intro | assumption | omega) ?_)
  have d := dv_bd (gP_v hv a) (gP_v hv b) (gP_v hv (wrK ps a b))
  have mm := mul_bd (x := most) (y := dvD (gP ps a) (gP ps b) (gP ps (wrK ps a b))) 8000000 8000000 (by omega) (by omega)
  rw [wr (x := most * dvD (gP ps a) (gP ps b) (gP ps (wrK ps a b))) (by omega)]
  refine brT_ok.2 ⟨fun g => ?_, fun g => brT_ok.2 ⟨fun k => ?_, fun k => ?_⟩⟩
  · simp only [Tree.ok]
    refine ⟨by omega, by omega, one ?_⟩
    have e : wrK ps a b = a := by
      have : ((wrK ps a b : Nat) : Int) = a := by simpa using g
      omega
    unfold stpB
    rw [decide_eq_true e, Bool.true_or]
  · simp only [Tree.ok]
    refine ⟨by omega, by omega, one ?_⟩
    unfold stpB
    rw [k, Bool.or_true]
  · have hs : stpB ps a b most = false := by
      unfold stpB
      rw [k, Bool.or_false]
      refine decide_eq_false fun e => ?_
      rw [e] at g
      simp at g
    obtain ⟨k1, k2⟩ := stp_no hab hs
    have l1 := smL_len (ps := ps) (most := most) k1
    have l2 := smL_len (ps := ps) (most := most) k2
    rw [smL_no hab hs, ← List.append_assoc]
    simp only [Tree.ok, List.length_append]
    repeat (refine And.intro (by first | exact True.intro | assumption | omega) ?_)
    exact ⟨some 3, ⟨rfl, rfl, by simp⟩, rfl, rfl, rfl⟩
set_option maxRecDepth 100000 in
theorem smS_ok : ∀ N, VSpecOk Try.prog 72 (smS N) := by
  intro N
  induction N with
  | zero =>
    intro lv ys e sz l xs rest v b C h hC
    unfold smS at h
    split at h
    rotate_left
    · cases h
    obtain ⟨rfl, rfl, rfl⟩ : _ ∧ _ ∧ _ := by simpa using h
    obtain ⟨_, _, _, _, _, _, _, _, h9, _⟩ := hC
    first | exact h9.elim | exact absurd h9 (Nat.not_lt_zero _)
  | succ N ih =>
    intro lv ys e sz l xs rest v b C h hC
    unfold smS at h
    split at h
    rotate_left
    · cases h
    rename_i a b most
    obtain ⟨rfl, rfl, rfl⟩ : _ ∧ _ ∧ _ := by simpa using h
    obtain ⟨h1, h2, h3, rfl, h5, h6, h7, h8, h9, _⟩ := hC
    obtain ⟨ps, rfl, rfl⟩ := even_flat h1
    obtain ⟨a, rfl⟩ := Int.eq_ofNat_of_zero_le h6.1
    obtain ⟨b, rfl⟩ := Int.eq_ofNat_of_zero_le (show 0 ≤ b by omega)
    rw [ptsA_flat] at h3 ⊢
    simp only [Int.toNat_natCast] at *
    refine ⟨rfl, ESmS N, 30, 12, withT_ok (mkEOk TSm2_ok R4_ok (fun _ _ _ => noL_good)) (consV_ok mixed (J := noJ) (failG_sound _) (entersB_res (by kernel_rfl)).1 ih), ?_⟩
    have r := sim_row N ps a b most xs h2 h3 (by omega) (by omega) (by omega) h8 (by omega)
    rw [List.length_append] at r
    exact r
def ESmT : Env := withT (mkE TSm3 R4 (fun _ => noL)) (JSm 100)
theorem ESmT_ok : EnvOk Try.prog ESmT := withT_ok (mkEOk TSm3_ok R4_ok (fun _ _ _ => noL_good)) (consV_ok mixed (J := noJ) (failG_sound _) (entersB_res (by kernel_rfl)).1 (smS_ok 100))
set_option maxRecDepth 100000 in
theorem tr_sSp (ps : List Pt) (most : Int) : bodyX Try.prog ESmT 30 12 28 [.row ps.length (.ints (flat ps)), .v (iv most)] = .need (ps.length * (2 : Nat) ≤ (List.drop (0 : Nat) (flat ps)).length) (.need (ps.length ≤ (1000000000 : Nat)) (brT (!pathB (ptsA ps.length (List.drop 0 (flat ps)))) (.fin (.slice none (0) (0)) [some ⟨.view, .ints (flat ps)⟩, none]) (brT (decide (0 ≤ most)) (brT (!decide (most ≤ 8000000)) (.fin (.slice none (0) (0)) [some ⟨.view, .ints (flat ps)⟩, none]) (.need ((flat ps).length = ps.length * (2 : Nat)) (.need (ps.length ≤ (20 : Nat)) (.need (allV (ptsA ps.length (flat ps)) = true) (.need ((1 : Nat) = (1 : Nat)) (.need ((1 : Nat) + (IntKind.i64.wrap ((↑ps.length : Int) - (1 : Int)) - (0 : Int)).toNat ≤ (1000 : Nat)) (.need ((0 : Int) ≤ (0 : Int) ∧ (0 : Int) < IntKind.i64.wrap ((↑ps.length : Int) - (1 : Int))) (.need (IntKind.i64.wrap ((↑ps.length : Int) - (1 : Int)) < (↑ps.length : Int)) (.need ((0 : Int) ≤ most ∧ most ≤ (8000000 : Int)) (.need ((IntKind.i64.wrap ((↑ps.length : Int) - (1 : Int))).toNat - (0 : Nat) < (100 : Nat)) (.fin (.slice (some ⟨3, 0, none⟩) (([0] ++ smL (ptsA ps.length (flat ps)) most 0 (IntKind.i64.wrap ((↑ps.length : Int) - 1)).toNat).length) (([0] ++ smL (ptsA ps.length (flat ps)) most 0 (IntKind.i64.wrap ((↑ps.length : Int) - 1)).toNat).length)) [some ⟨.view, .ints (flat ps)⟩, none, some deadB, some ⟨.row 3 1, .ints ([0] ++ smL (ptsA ps.length (flat ps)) most 0 (IntKind.i64.wrap ((↑ps.length : Int) - 1)).toNat)⟩]))))))))))) (.fin (.slice none (0) (0)) [some ⟨.view, .ints (flat ps)⟩, none])))) := by kernel_rfl
end Go.Proofs.Ytolodncpegajkab
namespace Go.Proofs.Ytolodncpegajkab
set_option linter.all false
open Go.RowKit
/-- What is kept behind a point when a stack is worked off, the top first. -/
def restR (ps : List Pt) (most : Int) : Nat → List Int → List Int
  | _, [] => []
  | a, t :: r => smL ps most a t.toNat ++ restR ps most t.toNat r
def lastA (ks : List Int) : Nat := kA ks (ks.length - 1)
/-- The kept points in the end. -/
def spO (ps : List Pt) (most : Int) (kp st : List Int) (j : Nat) : List Int := kp ++ restR ps most (lastA kp) (st.take j).reverse
/-- A stack that rises from its top on, behind a point. -/
def ascR (L : Nat) : Nat → List Int → Prop
  | a, [] => a ≤ L
  | a, t :: r => (a : Int) < t ∧ ascR L t.toNat r
theorem ascR_le {L : Nat} : ∀ {s : List Int} {a : Nat}, ascR L a s → a + s.length ≤ L
  | [], a, h => h
  | t :: r, a, h => by
    have := ascR_le h.2
    have := h.1
    rw [List.length_cons]
    omega
theorem top_take {st : List Int} {m : Nat} (h : m + 1 ≤ st.length) : (st.take (m + 1)).reverse = st.getD m 0 :: (st.take m).reverse := by
  rw [List.take_succ_eq_append_getElem (by omega), List.reverse_append, List.getD_eq_getElem?_getD, List.getElem?_eq_getElem (by omega)]
  rfl
noncomputable def c_iSy : Code := ((loopsOf (codeOf Try.f27))[0]?).getD .skip
def k_iSy : Ex → List Nat := keeps [0, 1, 5, 6, 7] [(0, [5])] [4]
def s_iSy (ps : List Pt) (most : Int) : (List Int) × (List Int) × Nat → St := fun (kp, st, j) => ⟨(.slice (some ⟨0, 0, none⟩) ps.length ps.length :: .int .i64 most :: topV :: topV :: topV :: .slice (some ⟨4, 0, none⟩) kp.length kp.length :: .slice (some ⟨5, 0, none⟩) j j :: .int .i64 j :: topV :: topV :: topV :: topV :: topV :: topV :: topV :: topV :: topV :: topV :: topV :: topV :: topV :: topV :: topV :: topV :: topV :: topV :: topV :: topV :: topV :: topV :: topV :: topV :: topV :: topV :: topV :: topV :: topV :: topV :: topV :: topV :: topV :: topV :: topV :: topV :: topV :: topV :: topV :: topV :: topV :: topV :: topV :: topV :: topV :: topV :: topV :: topV :: topV :: topV :: topV :: topV :: topV :: topV :: []), [some ⟨.view, .ints (flat ps)⟩, none, some ⟨.dead, .vals []⟩, some ⟨.dead, .vals []⟩, some ⟨.row 3 1, .ints kp⟩, some ⟨.row 3 1, .ints st⟩]⟩
def re_iSy : (List Int) × (List Int) × Nat → Ex := fun _ => .exit 0
def rs_iSy (ps : List Pt) (most : Int) : (List Int) × (List Int) × Nat → St := fun (kp, st, j) => ⟨(topV :: topV :: topV :: topV :: topV :: .slice (some ⟨4, 0, none⟩) (spO ps most kp st j).length (spO ps most kp st j).length :: topV :: topV :: topV :: topV :: topV :: topV :: topV :: topV :: topV :: topV :: topV :: topV :: topV :: topV :: topV :: topV :: topV :: topV :: topV :: topV :: topV :: topV :: topV :: topV :: topV :: topV :: topV :: topV :: topV :: topV :: topV :: topV :: topV :: topV :: topV :: topV :: topV :: topV :: topV :: topV :: topV :: topV :: topV :: topV :: topV :: topV :: topV :: topV :: topV :: topV :: topV :: topV :: topV :: topV :: topV :: topV :: []), [some ⟨.view, .ints (flat ps)⟩, none, some ⟨.dead, .vals []⟩, some ⟨.dead, .vals []⟩, some ⟨.row 3 1, .ints (spO ps most kp st j)⟩]⟩
set_option maxRecDepth 100000 in
theorem tr_iSy (ps : List Pt) (most : Int) (kp st : List Int) (j : Nat) : bodyL Try.prog ESm3 30 12 noL 1 c_iSy k_iSy 16 (s_iSy ps most (kp, st, j)) = brT (decide (0 < (↑j : Int))) (.need ((0 : Int) ≤ IntKind.i64.wrap ((↑kp.length : Int) - (1 : Int)) ∧ IntKind.i64.wrap ((↑kp.length : Int) - (1 : Int)) < (↑kp.length : Int)) (.need ((0 : Nat) + (IntKind.i64.wrap ((↑kp.length : Int) - (1 : Int))).toNat * (1 : Nat) < kp.length) (.need ((0 : Int) ≤ IntKind.i64.wrap ((↑j : Int) - (1 : Int)) ∧ IntKind.i64.wrap ((↑j : Int) - (1 : Int)) < (↑j : Int)) (.need ((0 : Nat) + (IntKind.i64.wrap ((↑j : Int) - (1 : Int))).toNat * (1 : Nat) < st.length) (.need (ps.length * (2 : Nat) ≤ (List.drop (0 : Nat) (flat ps)).length) (.need (ps.length ≤ (1000 : Nat)) (.need (allV (ptsA ps.length (List.drop (0 : Nat) (flat ps))) = true) (.need ((0 : Int) ≤ kp.getD ((0 : Nat) + (IntKind.i64.wrap ((↑kp.length : Int) - (1 : Int))).toNat * (1 : Nat)) (0 : Int) ∧ kp.getD ((0 : Nat) + (IntKind.i64.wrap ((↑kp.length : Int) - (1 : Int))).toNat * (1 : Nat)) (0 : Int) < st.getD ((0 : Nat) + (IntKind.i64.wrap ((↑j : Int) - (1 : Int))).toNat * (1 : Nat)) (0 : Int)) (.need (st.getD ((0 : Nat) + (IntKind.i64.wrap ((↑j : Int) - (1 : Int))).toNat * (1 : Nat)) (0 : Int) < (↑ps.length : Int)) (.need ((0 : Int) ≤ most ∧ most ≤ (8000000 : Int)) (brT (!stpB (ptsA ps.length (List.drop 0 (flat ps))) (kp.getD (0 + (IntKind.i64.wrap ((↑kp.length : Int) - 1)).toNat * 1) 0).toNat (st.getD (0 + (IntKind.i64.wrap ((↑j : Int) - 1)).toNat * 1) 0).toNat most) (.need ((j + (1 : Nat)) * (8 : Nat) ≤ (140737488355328 : Nat) ∧ j + (1 : Nat) ≤ (1000000 : Nat)) (.need ((0 : Nat) + j * (1 : Nat) ≤ st.length) (.leaf .normal ⟨(.slice (some ⟨0, 0, none⟩) (ps.length) (ps.length) :: .int .i64 (most) :: topV :: topV :: topV :: .slice (some ⟨4, 0, none⟩) (kp.length) (kp.length) :: .slice (some ⟨7, 0, none⟩) (j + 1) (j + 1) :: .int .i64 ((↑(j + 1) : Int)) :: topV :: topV :: topV :: topV :: topV :: topV :: topV :: topV :: topV :: topV :: topV :: topV :: topV :: topV :: topV :: topV :: topV :: topV :: topV :: topV :: topV :: topV :: topV :: topV :: topV :: topV :: topV :: topV :: topV :: topV :: topV :: topV :: topV :: topV :: topV :: topV :: topV :: topV :: topV :: topV :: topV :: topV :: topV :: topV :: topV :: topV :: topV :: topV :: topV :: topV :: topV :: topV :: topV :: topV :: []), [some ⟨.view, .ints (flat ps)⟩, none, some deadB, some deadB, some ⟨.row 3 1, .ints (kp)⟩, some deadB, some ⟨.row 3 1, .vals [.int .i64 (Bool.rec ((fun _ => (↑(wrK (ptsA ps.length (List.drop 0 (flat ps))) (kp.getD (0 + (IntKind.i64.wrap ((↑kp.length : Int) - 1)).toNat * (1 : Nat)) 0).toNat (st.getD (0 + (IntKind.i64.wrap ((↑j : Int) - 1)).toNat * (1 : Nat)) 0).toNat) : Int)) ()) ((fun _ => 0) ()) (stpB (ptsA ps.length (List.drop 0 (flat ps))) (kp.getD (0 + (IntKind.i64.wrap ((↑kp.length : Int) - 1)).toNat * (1 : Nat)) 0).toNat (st.getD (0 + (IntKind.i64.wrap ((↑j : Int) - 1)).toNat * (1 : Nat)) 0).toNat most))]⟩, some ⟨.row 3 1, .ints (List.take (j * 1) (List.drop 0 st) ++ [Bool.rec ((fun _ => (↑(wrK (ptsA ps.length (List.drop 0 (flat ps))) (kp.getD (0 + (IntKind.i64.wrap ((↑kp.length : Int) - 1)).toNat * (1 : Nat)) 0).toNat (st.getD (0 + (IntKind.i64.wrap ((↑j : Int) - 1)).toNat * (1 : Nat)) 0).toNat) : Int)) ()) ((fun _ => 0) ()) (stpB (ptsA ps.length (List.drop 0 (flat ps))) (kp.getD (0 + (IntKind.i64.wrap ((↑kp.length : Int) - 1)).toNat * (1 : Nat)) 0).toNat (st.getD (0 + (IntKind.i64.wrap ((↑j : Int) - 1)).toNat * (1 : Nat)) 0).toNat most)])⟩]⟩))) (.need ((kp.length + (1 : Nat)) * (8 : Nat) ≤ (140737488355328 : Nat) ∧ kp.length + (1 : Nat) ≤ (1000000 : Nat)) (.need ((0 : Nat) + kp.length * (1 : Nat) ≤ kp.length) (.need ((0 : Int) ≤ bndI none (0 : Int) ∧ bndI none (0 : Int) ≤ bndI (some (IntKind.i64, IntKind.i64.wrap ((↑j : Int) - (1 : Int)))) (↑j : Int) ∧ bndI (some (IntKind.i64, IntKind.i64.wrap ((↑j : Int) - (1 : Int)))) (↑j : Int) ≤ (↑j : Int)) (.leaf .normal ⟨(.slice (some ⟨0, 0, none⟩) (ps.length) (ps.length) :: .int .i64 (most) :: topV :: topV :: topV :: .slice (some ⟨7, 0, none⟩) (kp.length + 1) (kp.length + 1) :: .slice (some ⟨5, 0, none⟩) ((bndI (some (IntKind.i64, IntKind.i64.wrap ((↑j : Int) - 1))) (↑j : Int)).toNat - 0) ((bndI (some (IntKind.i64, IntKind.i64.wrap ((↑j : Int) - 1))) (↑j : Int)).toNat - 0) :: .int .i64 ((↑((bndI (some (IntKind.i64, IntKind.i64.wrap ((↑j : Int) - 1))) (↑j : Int)).toNat - 0) : Int)) :: topV :: topV :: topV :: topV :: topV :: topV :: topV :: topV :: topV :: topV :: topV :: topV :: topV :: topV :: topV :: topV :: topV :: topV :: topV :: topV :: topV :: topV :: topV :: topV :: topV :: topV :: topV :: topV :: topV :: topV :: topV :: topV :: topV :: topV :: topV :: topV :: topV :: topV :: topV :: topV :: topV :: topV :: topV :: topV :: topV :: topV :: topV :: topV :: topV :: topV :: topV :: topV :: topV :: topV :: []), [some ⟨.view, .ints (flat ps)⟩, none, some deadB, some deadB, some deadB, some ⟨.row 3 1, .ints (st)⟩, some ⟨.row 3 1, .vals [.int .i64 (st.getD (0 + (IntKind.i64.wrap ((↑j : Int) - 1)).toNat * 1) 0)]⟩, some ⟨.row 3 1, .ints (List.take (kp.length * 1) (List.drop 0 kp) ++ [st.getD (0 + (IntKind.i64.wrap ((↑j : Int) - 1)).toNat * 1) 0])⟩]⟩))))))))))))))) (.leaf (.exit 0) ⟨(topV :: topV :: topV :: topV :: topV :: .slice (some ⟨4, 0, none⟩) (kp.length) (kp.length) :: topV :: topV :: topV :: topV :: topV :: topV :: topV :: topV :: topV :: topV :: topV :: topV :: topV :: topV :: topV :: topV :: topV :: topV :: topV :: topV :: topV :: topV :: topV :: topV :: topV :: topV :: topV :: topV :: topV :: topV :: topV :: topV :: topV :: topV :: topV :: topV :: topV :: topV :: topV :: topV :: topV :: topV :: topV :: topV :: topV :: topV :: topV :: topV :: topV :: topV :: topV :: topV :: topV :: topV :: topV :: topV :: []), [some ⟨.view, .ints (flat ps)⟩, none, some deadB, some deadB, some ⟨.row 3 1, .ints (kp)⟩, some ⟨.row 3 1, .ints (st)⟩]⟩) := by kernel_rfl
set_option maxRecDepth 100000 in
theorem nl_iSy : loopsOf c_iSy = [] := by kernel_rfl
def inv_iSy (ps : List Pt) (most : Int) : (List Int) × (List Int) × Nat → Prop := fun (kp, st, j) => 1 ≤ kp.length ∧ kp.length ≤ lastA kp + 1 ∧ 0 ≤ kp.getD (kp.length - 1) 0 ∧ j ≤ st.length ∧ ascR (ps.length - 1) (lastA kp) (st.take j).reverse
def me_iSy (ps : List Pt) (most : Int) : (List Int) × (List Int) × Nat → Nat := fun (kp, st, j) => 2 * (ps.length - 1 - lastA kp) - j
/-- A round of this loop. -/
def Round_iSy (ps : List Pt) (most : Int) : Prop := ∀ xx : (List Int) × (List Int) × Nat, inv_iSy ps most xx → (bodyL Try.prog ESm3 30 12 noL 1 c_iSy k_iSy 16 (s_iSy ps most xx)).ok (RoundEnd 4 (s_iSy ps most) (inv_iSy ps most) (me_iSy ps most) re_iSy (rs_iSy ps most) xx) (fun _ _ => False)
def e_iSy (s : St) (k : Ex → St → Tree) : Option Tree := match Nat.beq s.tmps.length 62, pickL s.tmps [0, 1, 5, 6, 7], s.mem with
  | true, [.slice (some ⟨0, 0, none⟩) n _, .int .i64 most, .slice (some ⟨2, 0, none⟩) z _, .slice (some ⟨3, 0, none⟩) y _, .int .i64 ii], [some ⟨.view, .ints xs⟩, none, some ⟨.row 3 1, .vals [.int .i64 k0]⟩, some ⟨.row 3 1, .vals [.int .i64 t0]⟩] => some (needs [ii = 1, z = 1, y = 1, k0 = 0, xs.length = n * 2, n ≤ 20, allV (ptsA n xs) = true, 2 ≤ n, t0 = n - 1, 0 ≤ most ∧ most ≤ 8000000] (k (.exit 0) ⟨(topV :: topV :: topV :: topV :: topV :: .slice (some ⟨4, 0, none⟩) (spO (ptsA n xs) most [0] [t0] 1).length (spO (ptsA n xs) most [0] [t0] 1).length :: topV :: topV :: topV :: topV :: topV :: topV :: topV :: topV :: topV :: topV :: topV :: topV :: topV :: topV :: topV :: topV :: topV :: topV :: topV :: topV :: topV :: topV :: topV :: topV :: topV :: topV :: topV :: topV :: topV :: topV :: topV :: topV :: topV :: topV :: topV :: topV :: topV :: topV :: topV :: topV :: topV :: topV :: topV :: topV :: topV :: topV :: topV :: topV :: topV :: topV :: topV :: topV :: topV :: topV :: topV :: topV :: []), [some ⟨.view, .ints xs⟩, none, some ⟨.dead, .vals []⟩, some ⟨.dead, .vals []⟩, some ⟨.row 3 1, .ints (spO (ptsA n xs) most [0] [t0] 1)⟩]⟩))
  | _, _, _ => none
theorem lastA_snoc (kp : List Int) (t : Nat) : lastA (kp ++ [(t : Int)]) = t := by
  unfold lastA kA
  rw [List.length_append, List.length_cons, List.length_nil, Nat.zero_add, Nat.add_sub_cancel, List.getD_eq_getElem?_getD, List.getElem?_append_right (Nat.le_refl _), Nat.sub_self]
  rfl
theorem snoc_get (kp : List Int) (t : Int) : (kp ++ [t]).getD ((kp ++ [t]).length - 1) 0 = t := by
  rw [List.length_append, List.length_cons, List.length_nil, Nat.zero_add, Nat.add_sub_cancel, List.getD_eq_getElem?_getD, List.getElem?_append_right (Nat.le_refl _), Nat.sub_self]
  rfl
set_option maxRecDepth 100000 in
set_option maxHeartbeats 2000000 in
theorem round_iSy (ps : List Pt) (most : Int) (hl : ps.length ≤ 20) (hv : allV ps = true) (hm : 0 ≤ most ∧ most ≤ 8000000) : Round_iSy ps most := by
  rintro ⟨kp, st, j⟩ ⟨h1, h2, h3, h4, h5⟩
  rw [tr_iSy]
  have fl := flat_length ps
  have hle := ascR_le h5
  rw [List.length_reverse, List.length_take] at hle
  have hk : kp.getD (kp.length - 1) 0 = (lastA kp : Int) := (Int.toNat_of_nonneg h3).symm
  refine brT_ok.2 ⟨fun hlt => ?_, fun hge => ?_⟩
  · have hlt := of_decide_eq_true hlt
    obtain ⟨m, rfl⟩ : ∃ m, j = m + 1 := ⟨j - 1, by omega⟩
    have w1 : IntKind.i64.wrap ((kp.length : Int) - 1) = ((kp.length - 1 : Nat) : Int) := by rw [wr (by omega)]; omega
    have w2 : IntKind.i64.wrap (((m + 1 : Nat) : Int) - 1) = (m : Int) := by rw [wr (by omega)]; omega
    have tt := top_take h4
    rw [tt] at h5
    have h6 := h5.1
    have h7 := ascR_le h5.2
    rw [List.length_reverse, List.length_take] at h7
    obtain ⟨t, ht⟩ := Int.eq_ofNat_of_zero_le (show 0 ≤ st.getD m 0 by omega)
    have e0 : spO ps most kp st (m + 1) = kp ++ (smL ps most (lastA kp) t ++ restR ps most t (st.take m).reverse) := by
      unfold spO
      rw [tt, ht]
      rfl
    rw [ht] at h6 h7 h5
    rw [Int.toNat_natCast] at h7
    have h5 : (lastA kp : Int) < t ∧ ascR (ps.length - 1) t (st.take m).reverse := h5
    simp only [w1, w2, bnd_some, bnd_none, List.drop_zero, ptsA_flat, Int.toNat_natCast, Nat.zero_add, Nat.mul_one, Nat.sub_zero, List.take_length, hk, ht]
    simp only [Tree.ok]
    repeat (refine And.intro (by first | exact True.intro | assumption | omega) ?_)
    refine brT_ok.2 ⟨fun g => ?_, fun g => ?_⟩
    · have hs : stpB ps (lastA kp) t most = false := by simpa using g
      obtain ⟨k1, k2⟩ := stp_no (by omega) hs
      have e1 := smL_no (by omega) hs
      simp only [hs, Tree.ok]
      refine ⟨by omega, by omega, (kp, st.take (m + 1) ++ [((wrK ps (lastA kp) t : Nat) : Int)], m + 2), [some 4, some 7], ⟨h1, h2, h3, by simp; omega, ?_⟩, ?_, rfl, ?_, ?_⟩
      · rw [List.take_of_length_le (by simp; omega), List.reverse_append, tt, ht]
        exact ⟨by show (lastA kp : Int) < ((wrK ps (lastA kp) t : Nat) : Int); omega, by show (((wrK ps (lastA kp) t : Nat) : Int).toNat : Int) < t; omega, h5.2⟩
      · show 2 * (ps.length - 1 - lastA kp) - (m + 2) < 2 * (ps.length - 1 - lastA kp) - (m + 1)
        omega
      · have e2 : spO ps most kp (st.take (m + 1) ++ [((wrK ps (lastA kp) t : Nat) : Int)]) (m + 2) = spO ps most kp st (m + 1) := by
          rw [e0, e1, List.append_assoc]
          unfold spO
          rw [List.take_of_length_le (by simp; omega), List.reverse_append, tt, ht]
          rfl
        simp only [rs_iSy, e2]
      · repeat' (first | exact True.intro | exact rfl | exact fun _ => rfl | (simp; done) | refine And.intro ?_ ?_)
    · have hs : stpB ps (lastA kp) t most = true := by simpa using g
      have e1 := smL_yes hs
      simp only [Tree.ok]
      refine ⟨by omega, by omega, by omega, (kp ++ [(t : Int)], st, m), [some 7, some 5], ⟨by simp, ?_, ?_, by omega, ?_⟩, ?_, rfl, ?_, ?_⟩
      · rw [lastA_snoc, List.length_append]
        show kp.length + 1 ≤ t + 1
        omega
      · rw [snoc_get]
        omega
      · rw [lastA_snoc]
        exact h5.2
      · show 2 * (ps.length - 1 - lastA (kp ++ [(t : Int)])) - m < 2 * (ps.length - 1 - lastA kp) - (m + 1)
        rw [lastA_snoc]
        omega
      · have e2 : spO ps most (kp ++ [(t : Int)]) st m = spO ps most kp st (m + 1) := by
          rw [e0, e1]
          unfold spO
          rw [lastA_snoc, List.append_assoc]
        simp only [rs_iSy, e2]
      · repeat' (first | exact True.intro | exact rfl | exact fun _ => rfl | (simp; done) | refine And.intro ?_ ?_)
  · have hge := of_decide_eq_false hge
    obtain rfl : j = 0 := by omega
    have e : spO ps most kp st 0 = kp := by
      unfold spO
      rw [List.take_zero]
      exact List.append_nil kp
    refine ⟨rfl, [some 4], ?_⟩
    simp only [rs_iSy, e]
    repeat' (first | exact True.intro | exact rfl | exact fun _ => rfl | (simp; done) | refine And.intro ?_ ?_)
set_option maxRecDepth 100000 in
theorem lg_iSy : LoopE Try.prog e_iSy c_iSy := by
  intro s k t F H hlt ht
  unfold e_iSy at hlt
  split at hlt
  rotate_left
  · cases hlt
  rename_i hlen hpick hmem
  obtain ⟨tmps, mem⟩ := s
  simp only at hlen hpick hmem
  subst hmem
  obtain rfl := Option.some.inj hlt
  obtain ⟨⟨rfl, rfl, rfl, rfl, h1, h2, h3, h4, h5, h6, _⟩, ht2⟩ := needs_ok ht
  clear ht hlt
  obtain ⟨ps, rfl, rfl⟩ := even_flat h1
  rw [ptsA_flat] at ht2 h3
  subst h5
  refine ⟨_, _, ht2, loop_run2 mixed ESm3_ok (s_iSy ps _) (inv_iSy ps _) (me_iSy ps _) re_iSy (rs_iSy ps _) k_iSy (fun _ => rfl) (noLoops nl_iSy) (round_iSy ps _ h2 h3 h6) (x := ([0], [(ps.length : Int) - 1], 1)) ⟨Nat.le_refl _, Nat.le_refl _, Int.le_refl _, Nat.le_refl _, ⟨by show ((0 : Nat) : Int) < (ps.length : Int) - 1; omega, by show ((ps.length : Int) - 1).toNat ≤ ps.length - 1; omega⟩⟩ (π := [some 2, some 3]) rfl ?_⟩
  refine ⟨rfl, rfl, ?_, wvs_spread' [0, 1, 5, 6, 7] hlen rfl ?_⟩
  · repeat' (first | exact True.intro | exact rfl | exact wv_top _ _ | exact fun _ => rfl | assumption | exact Eq.symm (by assumption) | exact vI0 rfl | refine And.intro ?_ ?_)
  · rw [hpick]
    repeat' (first | exact True.intro | exact rfl | exact wv_top _ _ | exact fun _ => rfl | assumption | exact Eq.symm (by assumption) | exact vI0 rfl | refine And.intro ?_ ?_)
theorem Lr_iSy {fn : Func} (hf : Try.prog.funcs[27]? = some fn) : LoopsGood Try.prog (lt1 e_iSy) 0 (codeOf fn) := by
  obtain rfl := fn_is Try.func27 hf
  exact lt1_good lg_iSy
def LSmh : FuncId → LT := fun f => match f with
  | 27 => lt1 e_iSy
  | _ => noL
def ESm6 : Env := mkE TSm3 R4 LSmh
theorem ESm6_ok : EnvOk Try.prog ESm6 := mkEOk TSm3_ok R4_ok (by
  intro f fn hf
  unfold LSmh
  split
  all_goals first | with_reducible exact Lr_iSy hf | exact noL_good)
set_option maxRecDepth 100000 in
theorem tr_iSyF (ps : List Pt) (most : Int) : bodyX Try.prog ESm6 30 12 27 [.row ps.length (.ints (flat ps)), .v (iv most)] = .need (ps.length * (2 : Nat) ≤ (List.drop (0 : Nat) (flat ps)).length) (.need (ps.length ≤ (1000000000 : Nat)) (brT (!pathB (ptsA ps.length (List.drop 0 (flat ps)))) (.fin (.slice none (0) (0)) [some ⟨.view, .ints (flat ps)⟩, none]) (brT (decide (0 ≤ most)) (brT (!decide (most ≤ 8000000)) (.fin (.slice none (0) (0)) [some ⟨.view, .ints (flat ps)⟩, none]) (.need ((1 : Int) = (1 : Int)) (.need ((1 : Nat) = (1 : Nat)) (.need ((1 : Nat) = (1 : Nat)) (.need ((0 : Int) = (0 : Int)) (.need ((flat ps).length = ps.length * (2 : Nat)) (.need (ps.length ≤ (20 : Nat)) (.need (allV (ptsA ps.length (flat ps)) = true) (.need ((2 : Nat) ≤ ps.length) (.need (IntKind.i64.wrap ((↑ps.length : Int) - (1 : Int)) = (↑ps.length : Int) - (1 : Int)) (.need ((0 : Int) ≤ most ∧ most ≤ (8000000 : Int)) (.fin (.slice (some ⟨4, 0, none⟩) ((spO (ptsA ps.length (flat ps)) most [0] [IntKind.i64.wrap ((↑ps.length : Int) - 1)] 1).length) ((spO (ptsA ps.length (flat ps)) most [0] [IntKind.i64.wrap ((↑ps.length : Int) - 1)] 1).length)) [some ⟨.view, .ints (flat ps)⟩, none, some deadB, some deadB, some ⟨.row 3 1, .ints (spO (ptsA ps.length (flat ps)) most [0] [IntKind.i64.wrap ((↑ps.length : Int) - 1)] 1)⟩])))))))))))) (.fin (.slice none (0) (0)) [some ⟨.view, .ints (flat ps)⟩, none])))) := by kernel_rfl
/-- What SimplifyPath answers. -/
def skV (ps : List Pt) (most : Int) : List Int := bif pathB ps && (decide (0 ≤ most) && decide (most ≤ 8000000)) then [0] ++ smL ps most 0 (ps.length - 1) else []
abbrev rowSp (xs : List Int) : Value := .slice (some ⟨0, 0, none⟩) xs.length xs.length
theorem spO_is (ps : List Pt) (most : Int) (h : 2 ≤ ps.length) : spO ps most [0] [(ps.length : Int) - 1] 1 = [0] ++ smL ps most 0 (ps.length - 1) := by
  show [0] ++ (smL ps most 0 ((ps.length : Int) - 1).toNat ++ []) = _
  rw [List.append_nil, show ((ps.length : Int) - 1).toNat = ps.length - 1 by omega]
theorem resR_sSy (ps : List Pt) (most : Int) (h : Big ps) : ResR Try.prog 28 [.row ps.length (.ints (flat ps)), .v (iv most)] (rowSp (skV ps most)) ⟨.row 3 1, .ints (skV ps most)⟩ := by
  refine bodyX_resR mixed ESmT_ok (m := 30) (n := 12) rfl ?_
  rw [tr_sSp]
  unfold Big at h
  simp only [List.drop_zero, ptsA_flat, flat_length]
  unfold skV
  rcases hp : pathB ps with _ | _
  · exact ⟨Nat.le_refl _, h, none, ⟨rfl, rfl⟩, trivial⟩
  obtain ⟨⟨p1, p2⟩, p3, _⟩ := path_iff.1 hp
  by_cases g1 : 0 ≤ most
  rotate_left
  · rw [decide_eq_false g1]
    exact ⟨Nat.le_refl _, h, none, ⟨rfl, rfl⟩, trivial⟩
  by_cases g2 : most ≤ 8000000
  rotate_left
  · rw [decide_eq_true g1, decide_eq_false g2]
    exact ⟨Nat.le_refl _, h, none, ⟨rfl, rfl⟩, trivial⟩
  have w : IntKind.i64.wrap ((ps.length : Int) - 1) = ((ps.length - 1 : Nat) : Int) := by rw [wr (by omega)]; omega
  rw [decide_eq_true g1, decide_eq_true g2, w, Int.toNat_natCast]
  exact ⟨Nat.le_refl _, h, trivial, p2, p1, trivial, by omega, ⟨by omega, by omega⟩, by omega, ⟨g1, g2⟩, by omega, some 3, ⟨rfl, rfl, rfl⟩, rfl, rfl, rfl⟩
theorem resR_iSy (ps : List Pt) (most : Int) (h : Big ps) : ResR Try.prog 27 [.row ps.length (.ints (flat ps)), .v (iv most)] (rowSp (skV ps most)) ⟨.row 3 1, .ints (skV ps most)⟩ := by
  refine bodyX_resR mixed ESm6_ok (m := 30) (n := 12) rfl ?_
  rw [tr_iSyF]
  unfold Big at h
  simp only [List.drop_zero, ptsA_flat, flat_length]
  unfold skV
  rcases hp : pathB ps with _ | _
  · exact ⟨Nat.le_refl _, h, none, ⟨rfl, rfl⟩, trivial⟩
  obtain ⟨⟨p1, p2⟩, p3, _⟩ := path_iff.1 hp
  by_cases g1 : 0 ≤ most
  rotate_left
  · rw [decide_eq_false g1]
    exact ⟨Nat.le_refl _, h, none, ⟨rfl, rfl⟩, trivial⟩
  by_cases g2 : most ≤ 8000000
  rotate_left
  · rw [decide_eq_true g1, decide_eq_false g2]
    exact ⟨Nat.le_refl _, h, none, ⟨rfl, rfl⟩, trivial⟩
  have w : IntKind.i64.wrap ((ps.length : Int) - 1) = (ps.length : Int) - 1 := wr (by omega)
  rw [decide_eq_true g1, decide_eq_true g2, w, spO_is ps most p3]
  exact ⟨Nat.le_refl _, h, trivial, trivial, trivial, trivial, trivial, p2, p1, p3, rfl, ⟨g1, g2⟩, some 4, ⟨rfl, rfl, rfl⟩, rfl, rfl, rfl⟩
def RSy : TabR := fun f ds => match f, ds with
  | 28, [.row m (.ints xs), .v (.int .i64 most)] => some (rowSp (skV (ptsA m xs) most), ⟨.row 3 1, .ints (skV (ptsA m xs) most)⟩, [m * 2 ≤ xs.length, m ≤ 1000000000])
  | 27, [.row m (.ints xs), .v (.int .i64 most)] => some (rowSp (skV (ptsA m xs) most), ⟨.row 3 1, .ints (skV (ptsA m xs) most)⟩, [m * 2 ≤ xs.length, m ≤ 1000000000])
  | f, ds => R4 f ds
theorem RSy_ok : TabROk Try.prog RSy := by
  intro f ds v b C h hC
  unfold RSy at h
  split at h
  · obtain ⟨rfl, rfl, rfl⟩ : _ ∧ _ ∧ _ := by simpa using h
    obtain ⟨_, h2⟩ := ptsA_spec hC.1
    exact resR_pts1 (pre := []) (post := [_]) hC.1 (resR_sSy _ _ (by unfold Big; rw [h2]; exact hC.2.1))
  · obtain ⟨rfl, rfl, rfl⟩ : _ ∧ _ ∧ _ := by simpa using h
    obtain ⟨_, h2⟩ := ptsA_spec hC.1
    exact resR_pts1 (pre := []) (post := [_]) hC.1 (resR_iSy _ _ (by unfold Big; rw [h2]; exact hC.2.1))
  · exact R4_ok _ _ _ _ _ h hC
theorem skV_len (ps : List Pt) (most : Int) : (skV ps most).length ≤ 20 := by
  unfold skV
  rcases hk : (pathB ps && (decide (0 ≤ most) && decide (most ≤ 8000000))) with _ | _
  · exact Nat.zero_le _
  · rw [Bool.and_eq_true] at hk
    obtain ⟨⟨p1, p2⟩, p3, _⟩ := path_iff.1 hk.1
    have := smL_len (ps := ps) (most := most) (show 0 < ps.length - 1 by omega)
    simp only [cond_true, List.length_append, List.length_cons, List.length_nil]
    omega
end Go.Proofs.Ytolodncpegajkab
namespace Go.Proofs.Ytolodncpegajkab
set_option linter.all false
open Go.RowKit
set_option maxRecDepth 100000 in
theorem tr_pick (bs : List Int) (l c : Nat) (p k : Int) : bodyM Try.prog (tabE B0) (runM Try.prog (tabE B0) 30 12) 30 76 [.pointer (some ⟨1, 0, none⟩), .int .i64 k] (memR bs l c p none) .fin = brT (decide (k < 1)) (.fin (.int .i64 (0)) [some ⟨.view, .bytes (bs)⟩, some ⟨.box, .vals [.slice (some ⟨0, 0, none⟩) (l) (c), .int .i64 (IntKind.i64.wrap (p + 1))]⟩]) (brT ((↑l : Int) == 0) (.fin (.int .i64 (0)) [some ⟨.view, .bytes (bs)⟩, some ⟨.box, .vals [.slice (some ⟨0, 0, none⟩) (l) (c), .int .i64 (IntKind.i64.wrap (p + 1))]⟩]) (brT (decide (IntKind.i64.wrap (IntKind.i64.wrap (p + 1) - 1) < (↑l : Int))) (.need ((0 : Int) ≤ IntKind.i64.wrap (IntKind.i64.wrap (p + (1 : Int)) - (1 : Int)) ∧ IntKind.i64.wrap (IntKind.i64.wrap (p + (1 : Int)) - (1 : Int)) < (↑l : Int)) (.need ((0 : Nat) + (IntKind.i64.wrap (IntKind.i64.wrap (p + (1 : Int)) - (1 : Int))).toNat * (1 : Nat) < bs.length) (.need (¬k = (0 : Int)) (.fin (.int .i64 ((IntKind.i64.wrap (bs.getD (0 + (IntKind.i64.wrap (IntKind.i64.wrap (p + 1) - 1)).toNat * 1) 0)).tmod k)) [some ⟨.view, .bytes (bs)⟩, some ⟨.box, .vals [.slice (some ⟨0, 0, none⟩) (l) (c), .int .i64 (IntKind.i64.wrap (p + 1))]⟩])))) (.need (¬(↑l : Int) = (0 : Int)) (.need ((0 : Int) ≤ (IntKind.i64.wrap (IntKind.i64.wrap (p + (1 : Int)) - (1 : Int))).tmod (↑l : Int) ∧ (IntKind.i64.wrap (IntKind.i64.wrap (p + (1 : Int)) - (1 : Int))).tmod (↑l : Int) < (↑l : Int)) (.need ((0 : Nat) + ((IntKind.i64.wrap (IntKind.i64.wrap (p + (1 : Int)) - (1 : Int))).tmod (↑l : Int)).toNat * (1 : Nat) < bs.length) (.need (¬(↑l : Int) = (0 : Int)) (.need ((0 : Int) ≤ (IntKind.i64.wrap (IntKind.i64.wrap (IntKind.i64.wrap (IntKind.i64.wrap (p + (1 : Int)) - (1 : Int)) * (7 : Int)) + (3 : Int))).tmod (↑l : Int) ∧ (IntKind.i64.wrap (IntKind.i64.wrap (IntKind.i64.wrap (IntKind.i64.wrap (p + (1 : Int)) - (1 : Int)) * (7 : Int)) + (3 : Int))).tmod (↑l : Int) < (↑l : Int)) (.need ((0 : Nat) + ((IntKind.i64.wrap (IntKind.i64.wrap (IntKind.i64.wrap (IntKind.i64.wrap (p + (1 : Int)) - (1 : Int)) * (7 : Int)) + (3 : Int))).tmod (↑l : Int)).toNat * (1 : Nat) < bs.length) (.need (¬(↑l : Int) = (0 : Int)) (.need (¬(64 : Int) = (0 : Int)) (.need (¬k = (0 : Int)) (.fin (.int .i64 ((IntKind.i64.wrap (↑(BitVec.ofInt IntKind.i64.bits (IntKind.i64.wrap (IntKind.i64.wrap (IntKind.i64.wrap (IntKind.i64.wrap (IntKind.i64.wrap (bs.getD (0 + ((IntKind.i64.wrap (IntKind.i64.wrap (p + 1) - 1)).tmod (↑l : Int)).toNat * (1 : Nat)) 0) * 131) + IntKind.i64.wrap (IntKind.i64.wrap (bs.getD (0 + ((IntKind.i64.wrap (IntKind.i64.wrap (IntKind.i64.wrap (IntKind.i64.wrap (p + 1) - 1) * 7) + 3)).tmod (↑l : Int)).toNat * (1 : Nat)) 0) * 1117)) + IntKind.i64.wrap (IntKind.i64.wrap (IntKind.i64.wrap (p + 1) - 1) * 29)) + IntKind.i64.wrap (IntKind.i64.wrap ((IntKind.i64.wrap (IntKind.i64.wrap (p + 1) - 1)).tdiv (↑l : Int)) * 53))) ^^^ BitVec.ofInt IntKind.i64.bits (IntKind.i64.wrap ((IntKind.i64.wrap (IntKind.i64.wrap (IntKind.i64.wrap (IntKind.i64.wrap (IntKind.i64.wrap (bs.getD (0 + ((IntKind.i64.wrap (IntKind.i64.wrap (p + 1) - 1)).tmod (↑l : Int)).toNat * (1 : Nat)) 0) * 131) + IntKind.i64.wrap (IntKind.i64.wrap (bs.getD (0 + ((IntKind.i64.wrap (IntKind.i64.wrap (IntKind.i64.wrap (IntKind.i64.wrap (p + 1) - 1) * 7) + 3)).tmod (↑l : Int)).toNat * (1 : Nat)) 0) * 1117)) + IntKind.i64.wrap (IntKind.i64.wrap (IntKind.i64.wrap (p + 1) - 1) * 29)) + IntKind.i64.wrap (IntKind.i64.wrap ((IntKind.i64.wrap (IntKind.i64.wrap (p + 1) - 1)).tdiv (↑l : Int)) * 53))).tdiv 64))).toNat : Int)).tmod k)) [some ⟨.view, .bytes (bs)⟩, some ⟨.box, .vals [.slice (some ⟨0, 0, none⟩) (l) (c), .int .i64 (IntKind.i64.wrap (p + 1))]⟩])))))))))))) := by kernel_rfl
def xorI (x : Int) : Int := IntKind.i64.wrap (↑(BitVec.ofInt IntKind.i64.bits x ^^^ BitVec.ofInt IntKind.i64.bits (IntKind.i64.wrap (x.tdiv 64))).toNat : Int)
def mixI (bs : List Int) (l : Nat) (p : Int) : Int := bs.getD (p.tmod l).toNat 0 * 131 + bs.getD ((p * 7 + 3).tmod l).toNat 0 * 1117 + p * 29 + p.tdiv l * 53
/-- What pick answers. -/
def pickI (bs : List Int) (l : Nat) (p k : Int) : Int := if k < 1 ∨ l = 0 then 0 else if p < l then (bs.getD p.toNat 0).tmod k else (xorI (mixI bs l p)).tmod k
/-- Is the reader in order? -/
def rdC (bs : List Int) (l : Nat) (p : Int) : Prop := l ≤ bs.length ∧ l ≤ 2000 ∧ 0 ≤ p ∧ p ≤ 1000000 ∧ Bytes bs
def pickS : RSpec := fun bs l p rest ex => match rest, ex with
  | [.int .i64 k], none => some (.int .i64 (pickI bs l p k), p + 1, [rdC bs l p])
  | _, _ => none
theorem Bytes.get {bs : List Int} (h : Bytes bs) (i : Nat) : 0 ≤ bs.getD i 0 ∧ bs.getD i 0 ≤ 255 := by
  rw [List.getD_eq_getElem?_getD]
  rcases hx : bs[i]? with _ | b
  · simp
  · simpa using h b (List.mem_of_getElem? hx)
theorem xorI_bd {x : Int} (h0 : 0 ≤ x) (h1 : x < 4611686018427387904) : 0 ≤ xorI x ∧ xorI x < 9223372036854775808 := by
  have hq : 0 ≤ x.tdiv 64 ∧ x.tdiv 64 ≤ x := by
    rw [Int.tdiv_eq_ediv_of_nonneg h0]
    omega
  unfold xorI
  rw [wr (x := x.tdiv 64) (by omega)]
  obtain ⟨a, rfl⟩ := Int.eq_ofNat_of_zero_le h0
  obtain ⟨b, hb⟩ := Int.eq_ofNat_of_zero_le hq.1
  rw [hb]
  have hb' : (b : Int) ≤ a := by rw [← hb]; exact hq.2
  have e : (BitVec.ofInt IntKind.i64.bits (a : Int) ^^^ BitVec.ofInt IntKind.i64.bits (b : Int)).toNat = a ^^^ b := by
    show (BitVec.ofInt 64 (a : Int) ^^^ BitVec.ofInt 64 (b : Int)).toNat = a ^^^ b
    rw [BitVec.toNat_xor]
    simp only [BitVec.ofInt_natCast, BitVec.toNat_ofNat]
    rw [Nat.mod_eq_of_lt (by omega), Nat.mod_eq_of_lt (by omega)]
  have hlt : a ^^^ b < 2 ^ 63 := Nat.xor_lt_two_pow (by omega) (by omega)
  rw [e, wr (by omega)]
  omega
theorem mixI_bd {bs : List Int} {l : Nat} {p : Int} (h : rdC bs l p) (hl : 0 < l) : 0 ≤ mixI bs l p ∧ mixI bs l p < 1000000000 := by
  obtain ⟨_, h2, h3, h4, h5⟩ := h
  have b1 := h5.get (p.tmod l).toNat
  have b2 := h5.get ((p * 7 + 3).tmod l).toNat
  have q : 0 ≤ p.tdiv l ∧ p.tdiv l ≤ p := by
    rw [Int.tdiv_eq_ediv_of_nonneg h3]
    exact ⟨Int.ediv_nonneg h3 (by omega), Int.ediv_le_self _ h3⟩
  unfold mixI
  omega
theorem pickI_bd {bs : List Int} {l : Nat} {p k : Int} (h : rdC bs l p) (hk : 1 ≤ k) : 0 ≤ pickI bs l p k ∧ pickI bs l p k < k := by
  unfold pickI
  split
  · omega
  rename_i hn
  have hl : 0 < l := by omega
  split
  · exact ⟨Int.tmod_nonneg _ (h.2.2.2.2.get _).1, Int.tmod_lt_of_pos _ (by omega)⟩
  · have hm := mixI_bd h hl
    exact ⟨Int.tmod_nonneg _ (xorI_bd hm.1 (by omega)).1, Int.tmod_lt_of_pos _ (by omega)⟩
theorem vk {k : IntKind} {a b : Int} (h : a = b) : Value.int k a = .int k b := by rw [h]
theorem pickS_ok : SpecOk Try.prog 76 pickS := by
  intro bs l c p rest0 ex v p' C h hC
  unfold pickS at h
  split at h
  rotate_left
  · cases h
  rename_i k
  obtain ⟨rfl, rfl, rfl⟩ : Value.int .i64 (pickI bs l p k) = v ∧ p + 1 = p' ∧ [rdC bs l p] = C := by simpa using h
  have hC := hC.1
  have hg := fun i => hC.2.2.2.2.get i
  have hC0 := hC
  obtain ⟨h1, h2, h3, h4, h5⟩ := hC
  refine ⟨tabE B0, 30, 12, tabE_ok B0_ok, rfl, ?_⟩
  rw [tr_pick]
  have e1 : IntKind.i64.wrap (p + 1) = p + 1 := wr (by omega)
  have e2 : IntKind.i64.wrap (p + 1 - 1) = p := by rw [wr (by omega)]; omega
  have e3 : IntKind.i64.wrap (p * 7) = p * 7 := wr (by omega)
  have e4 : IntKind.i64.wrap (p * 7 + 3) = p * 7 + 3 := wr (by omega)
  simp only [e1, e2, e3, e4, Nat.zero_add, Nat.mul_one]
  refine brT_ok.2 ⟨fun hk => ?_, fun hk => brT_ok.2 ⟨fun hl => ?_, fun hl => brT_ok.2 ⟨fun hp => ?_, fun hp => ?_⟩⟩⟩
  · have hk := of_decide_eq_true hk
    refine ⟨vk ?_, rfl⟩
    unfold pickI
    rw [if_pos (.inl hk)]
  · have hl : l = 0 := by simpa using hl
    refine ⟨vk ?_, rfl⟩
    unfold pickI
    rw [if_pos (.inr hl)]
  · have hk := of_decide_eq_false hk
    have hl : ¬ l = 0 := by simpa using hl
    have hp := of_decide_eq_true hp
    refine ⟨⟨h3, hp⟩, by omega, by omega, vk ?_, rfl⟩
    rw [wr (by have := hg p.toNat; omega)]
    unfold pickI
    rw [if_neg (by omega), if_pos hp]
  · have hk := of_decide_eq_false hk
    have hl : ¬ l = 0 := by simpa using hl
    have hp := of_decide_eq_false hp
    have hl0 : (0 : Int) < l := by omega
    have t1 : 0 ≤ p.tmod l ∧ p.tmod l < l := ⟨Int.tmod_nonneg _ h3, Int.tmod_lt_of_pos _ hl0⟩
    have t2 : 0 ≤ (p * 7 + 3).tmod l ∧ (p * 7 + 3).tmod l < l := ⟨Int.tmod_nonneg _ (by omega), Int.tmod_lt_of_pos _ hl0⟩
    have q : 0 ≤ p.tdiv l ∧ p.tdiv l ≤ p := by
      rw [Int.tdiv_eq_ediv_of_nonneg h3]
      exact ⟨Int.ediv_nonneg h3 (by omega), Int.ediv_le_self _ h3⟩
    have b1 := hg (p.tmod l).toNat
    have b2 := hg ((p * 7 + 3).tmod l).toNat
    have hm := mixI_bd hC0 (by omega)
    refine ⟨by omega, t1, by omega, by omega, t2, by omega, by omega, by omega, by omega, vk ?_, rfl⟩
    unfold pickI
    rw [if_neg (by omega), if_neg (by omega)]
    have em : IntKind.i64.wrap (IntKind.i64.wrap (IntKind.i64.wrap (IntKind.i64.wrap (IntKind.i64.wrap (bs.getD (p.tmod l).toNat 0) * 131) + IntKind.i64.wrap (IntKind.i64.wrap (bs.getD ((p * 7 + 3).tmod l).toNat 0) * 1117)) + IntKind.i64.wrap (p * 29)) + IntKind.i64.wrap (IntKind.i64.wrap (p.tdiv l) * 53)) = mixI bs l p := by
      clear hm
      unfold mixI
      generalize bs.getD (p.tmod l).toNat 0 = x1 at *
      generalize bs.getD ((p * 7 + 3).tmod l).toNat 0 = x2 at *
      generalize p.tdiv l = x3 at *
      simp (disch := omega) only [wr]
    rw [em]
    rfl
/-- The first table: pick. -/
def J1 : List (FuncId × RSpec) := [(76, pickS)]
theorem J1_ok : JOk Try.prog J1 := JOk.nil.cons (entersB_res (by kernel_rfl)).1 pickS_ok
def ER1 : Env := withJ (tabE B0) J1
theorem ER1_ok : EnvOk Try.prog ER1 := withJ_ok mixed (tabE_ok B0_ok) J1_ok
set_option maxRecDepth 100000 in
theorem tr_one (bs : List Int) (l c : Nat) (p : Int) (n : Nat) (xs : List Int) : bodyM Try.prog ER1 (runM Try.prog ER1 30 12) 30 66 [.pointer (some ⟨1, 0, none⟩), .slice (some ⟨2, 0, none⟩) n n] (memR bs l c p (some xs)) .fin = .need (rdC bs l p) (.need ((0 : Int) ≤ pickI bs l p (↑n : Int) ∧ pickI bs l p (↑n : Int) < (↑n : Int)) (.need ((0 : Nat) + (pickI bs l p (↑n : Int)).toNat * (1 : Nat) < xs.length) (.fin (.int .i64 (xs.getD (0 + (pickI bs l p (↑n : Int)).toNat * 1) 0)) [some ⟨.view, .bytes (bs)⟩, some ⟨.box, .vals [.slice (some ⟨0, 0, none⟩) (l) (c), .int .i64 (p + 1)]⟩, some ⟨.view, .ints (xs)⟩]))) := by kernel_rfl
set_option maxRecDepth 100000 in
theorem tr_rpt (bs : List Int) (l c : Nat) (p : Int) : bodyM Try.prog ER1 (runM Try.prog ER1 30 12) 30 109 [.pointer (some ⟨1, 0, none⟩)] (memR bs l c p none) .fin = .need (rdC bs l p) (.need (rdC bs l (p + (1 : Int))) (.fin (.agg #[.int .i64 (IntKind.i64.wrap (pickI bs l p 9 - 2)), .int .i64 (IntKind.i64.wrap (pickI bs l (p + 1) 9 - 2))]) [some ⟨.view, .bytes (bs)⟩, some ⟨.box, .vals [.slice (some ⟨0, 0, none⟩) (l) (c), .int .i64 (p + 1 + 1)]⟩, some ⟨.box, .vals [.int .i64 (IntKind.i64.wrap (pickI bs l p 9 - 2)), .int .i64 (IntKind.i64.wrap (pickI bs l (p + 1) 9 - 2))]⟩])) := by kernel_rfl
end Go.Proofs.Ytolodncpegajkab
namespace Go.Proofs.Ytolodncpegajkab
set_option linter.all false
open Go.RowKit
/-- The reader in order, with room for many more. -/
def rdK (bs : List Int) (l : Nat) (p : Int) : Prop := rdC bs l p ∧ p ≤ 900000
theorem rdK.at {bs : List Int} {l : Nat} {p : Int} (h : rdK bs l p) {q : Int} (h0 : p ≤ q) (h1 : q ≤ p + 90000) : rdC bs l q :=
  ⟨h.1.1, h.1.2.1, by have := h.1.2.2.1; omega, by have := h.2; omega, h.1.2.2.2.2⟩
def oneI (bs : List Int) (l : Nat) (p : Int) (n : Nat) (xs : List Int) : Int := xs.getD (pickI bs l p n).toNat 0
def oneS : RSpec := fun bs l p rest ex => match rest, ex with
  | [.slice (some ⟨2, 0, none⟩) n n'], some xs => some (.int .i64 (oneI bs l p n xs), p + 1, [rdC bs l p, 1 ≤ n ∧ n ≤ xs.length ∧ n' = n])
  | _, _ => none
theorem oneS_ok : SpecOk Try.prog 66 oneS := by
  intro bs l c p rest0 ex v p' C h hC
  unfold oneS at h
  split at h
  rotate_left
  · cases h
  rename_i n n' xs
  obtain ⟨rfl, rfl, rfl⟩ : Value.int .i64 (oneI bs l p n xs) = v ∧ p + 1 = p' ∧ [rdC bs l p, 1 ≤ n ∧ n ≤ xs.length ∧ n' = n] = C := by simpa using h
  obtain ⟨h1, ⟨h2, h3, rfl⟩, _⟩ := hC
  refine ⟨ER1, 30, 12, ER1_ok, rfl, ?_⟩
  rw [tr_one]
  have hb := pickI_bd (k := (n' : Int)) h1 (by omega)
  exact ⟨h1, hb, by omega, by simp only [oneI, Nat.zero_add, Nat.mul_one], rfl⟩
def rptS : RSpec := fun bs l p rest ex => match rest, ex with
  | [], none => some (.agg #[.int .i64 (pickI bs l p 9 - 2), .int .i64 (pickI bs l (p + 1) 9 - 2)], p + 2, [rdK bs l p])
  | _, _ => none
theorem box2 {bs : List Int} {l c : Nat} {p q : Int} (h : q = p) (r : List (Option Blk)) : (some ⟨.view, .bytes bs⟩ :: some ⟨.box, .vals [.slice (some ⟨0, 0, none⟩) l c, .int .i64 q]⟩ :: r : List (Option Blk)).getD 1 none = some (rdBox 0 l c p) := by rw [h]; rfl
theorem rptS_ok : SpecOk Try.prog 109 rptS := by
  intro bs l c p rest0 ex v p' C h hC
  unfold rptS at h
  split at h
  rotate_left
  · cases h
  obtain ⟨rfl, rfl, rfl⟩ : Value.agg #[.int .i64 (pickI bs l p 9 - 2), .int .i64 (pickI bs l (p + 1) 9 - 2)] = v ∧ p + 2 = p' ∧ [rdK bs l p] = C := by simpa using h
  have h1 := hC.1
  refine ⟨ER1, 30, 12, ER1_ok, rfl, ?_⟩
  rw [tr_rpt]
  have h2 := h1.at (q := p) (by omega) (by omega)
  have h3 := h1.at (q := p + 1) (by omega) (by omega)
  have b1 := pickI_bd (k := 9) h2 (by omega)
  have b2 := pickI_bd (k := 9) h3 (by omega)
  exact ⟨h2, h3, by rw [wr (by omega), wr (by omega)], box2 (by omega) _⟩
def J2 : List (FuncId × RSpec) := (66, oneS) :: (109, rptS) :: J1
theorem J2_ok : JOk Try.prog J2 := (J1_ok.cons (entersB_res (by kernel_rfl)).1 rptS_ok).cons (entersB_res (by kernel_rfl)).1 oneS_ok
def ER2 : Env := withJ (tabE B0) J2
theorem ER2_ok : EnvOk Try.prog ER2 := withJ_ok mixed (tabE_ok B0_ok) J2_ok
def farI : List Int := [1001, -1001, 1000, -1000]
def apQ (bs : List Int) (l : Nat) (p : Int) : Int := pickI bs l (p + 2) 16
def apX (bs : List Int) (l : Nat) (p : Int) : Int := if apQ bs l p = 0 then oneI bs l (p + 3) 4 farI else pickI bs l p 9 - 2
def apY (bs : List Int) (l : Nat) (p : Int) : Int := if apQ bs l p = 1 then oneI bs l (p + 3) 4 farI else pickI bs l (p + 1) 9 - 2
def apP (bs : List Int) (l : Nat) (p : Int) : Int := if apQ bs l p = 0 ∨ apQ bs l p = 1 then p + 4 else p + 3
end Go.Proofs.Ytolodncpegajkab
namespace Go.Proofs.Ytolodncpegajkab
set_option linter.all false
open Go.RowKit
/-- How many bytes are read. -/
def rdL (n : Nat) : Nat := min n 2000
theorem rdL_of {n : Nat} (h : 2000 < (n : Int)) : rdL n = 2000 := by unfold rdL; omega
theorem rdL_no {n : Nat} (h : ¬ 2000 < (n : Int)) : rdL n = n := by unfold rdL; omega
theorem rdK0 {bs : List Int} {n : Nat} (h : Bytes bs) (hn : n ≤ bs.length) {l : Nat} (hl : l ≤ n) (h2 : l ≤ 2000) {p : Int} (h3 : 0 ≤ p) (h4 : p ≤ 900000) : rdK bs l p :=
  ⟨⟨by omega, h2, h3, by omega, h⟩, h4⟩
/-- The coordinates of the three points. -/
def d3 (bs : List Int) (n : Nat) : Nat → Int
  | 0 => apX bs (rdL n) 0
  | 1 => apY bs (rdL n) 0
  | 2 => apX bs (rdL n) (apP bs (rdL n) 0)
  | 3 => apY bs (rdL n) (apP bs (rdL n) 0)
  | 4 => apX bs (rdL n) (apP bs (rdL n) (apP bs (rdL n) 0))
  | _ => apY bs (rdL n) (apP bs (rdL n) (apP bs (rdL n) 0))
end Go.Proofs.Ytolodncpegajkab
namespace Go.Proofs.Ytolodncpegajkab
set_option linter.all false
open Go.RowKit
theorem flatA (o : List Pt) : List.take (o.length * 2) (List.drop 0 (flat o)) = flat o := by rw [List.drop_zero, flat_all]
abbrev rowL (ps : List Pt) : Value := .slice (some ⟨0, 0, none⟩) ps.length ps.length
end Go.Proofs.Ytolodncpegajkab
namespace Go.Proofs.Ytolodncpegajkab
set_option linter.all false
open Go.RowKit
/-- The point that may come next, and the place behind it. -/
def pthQ (bs : List Int) (l : Nat) (n : Nat) (p : Int) : Pt := bif pickI bs l (p + 2) 8 == 0 then (pickI bs l (p + 3) 9 - 2, pickI bs l (p + 4) 9 - 2) else (IntKind.i64.wrap (IntKind.i64.wrap (n * 2) + pickI bs l p 3), pickI bs l (p + 1) 7)
def pthP (bs : List Int) (l : Nat) (p : Int) : Int := bif pickI bs l (p + 2) 8 == 0 then p + 5 else p + 3
/-- Is it another one than the last? -/
def pthN (o : List Pt) (q : Pt) : Bool := decide (o.length = 0) || !(decide (o.getD (o.length - 1) (0, 0) = q))
def pthO (bs : List Int) (l : Nat) (o : List Pt) (p : Int) : List Pt := bif pthN o (pthQ bs l o.length p) || pickI bs l (pthP bs l p) 10 == 0 then o ++ [pthQ bs l o.length p] else o
def pthE (bs : List Int) (l : Nat) (o : List Pt) (p : Int) : Int := bif pthN o (pthQ bs l o.length p) then pthP bs l p else pthP bs l p + 1
def ptL (bs : List Int) (l : Nat) : Nat → List Pt → Int → List Pt
  | 0, o, _ => o
  | n + 1, o, p => ptL bs l n (pthO bs l o p) (pthE bs l o p)
def ptE (bs : List Int) (l : Nat) : Nat → List Pt → Int → Int
  | 0, _, p => p
  | n + 1, o, p => ptE bs l n (pthO bs l o p) (pthE bs l o p)
noncomputable def c_pth : Code := ((loopsOf (codeOf Try.f65))[0]?).getD .skip
def k_pth : Ex → List Nat := keeps [0, 3, 4] [(0, [0, 3])] [2]
def s_pth (bs : List Int) (l c : Nat) : Nat × (List Pt) × Int → St := fun (n, o, p) => ⟨(.pointer (some ⟨1, 0, none⟩) :: topV :: topV :: .slice (some ⟨3, 0, none⟩) o.length o.length :: .int .i64 n :: topV :: topV :: topV :: topV :: topV :: topV :: topV :: topV :: topV :: topV :: topV :: topV :: topV :: topV :: topV :: topV :: topV :: topV :: topV :: topV :: topV :: topV :: topV :: topV :: topV :: topV :: topV :: topV :: topV :: topV :: topV :: topV :: topV :: topV :: topV :: topV :: topV :: topV :: topV :: topV :: topV :: topV :: topV :: topV :: topV :: topV :: topV :: topV :: topV :: topV :: topV :: topV :: topV :: topV :: topV :: topV :: topV :: topV :: topV :: topV :: topV :: topV :: []), [some ⟨.view, .bytes bs⟩, some ⟨.box, .vals [.slice (some ⟨0, 0, none⟩) l c, .int .i64 p]⟩, some ⟨.dead, .vals []⟩, some ⟨.row 44 2, .ints (flat o)⟩]⟩
def re_pth : Nat × (List Pt) × Int → Ex := fun _ => .exit 0
def rs_pth (bs : List Int) (l c : Nat) : Nat × (List Pt) × Int → St := fun (n, o, p) => ⟨(.pointer (some ⟨1, 0, none⟩) :: topV :: topV :: .slice (some ⟨3, 0, none⟩) (ptL bs l n o p).length (ptL bs l n o p).length :: topV :: topV :: topV :: topV :: topV :: topV :: topV :: topV :: topV :: topV :: topV :: topV :: topV :: topV :: topV :: topV :: topV :: topV :: topV :: topV :: topV :: topV :: topV :: topV :: topV :: topV :: topV :: topV :: topV :: topV :: topV :: topV :: topV :: topV :: topV :: topV :: topV :: topV :: topV :: topV :: topV :: topV :: topV :: topV :: topV :: topV :: topV :: topV :: topV :: topV :: topV :: topV :: topV :: topV :: topV :: topV :: topV :: topV :: topV :: topV :: topV :: topV :: topV :: []), [some ⟨.view, .bytes bs⟩, some ⟨.box, .vals [.slice (some ⟨0, 0, none⟩) l c, .int .i64 (ptE bs l n o p)]⟩, some ⟨.dead, .vals []⟩, some ⟨.row 44 2, .ints (flat (ptL bs l n o p))⟩]⟩
set_option maxRecDepth 100000 in
theorem tr_pth (bs : List Int) (l c : Nat) (n : Nat) (o : List Pt) (p : Int) : bodyL Try.prog ER2 30 12 noL 1 c_pth k_pth 16 (s_pth bs l c (n, o, p)) = brT (decide (0 < (↑n : Int))) (.need (rdC bs l p) (.need (rdC bs l (p + (1 : Int))) (.need (rdC bs l (p + (1 : Int) + (1 : Int))) (brT (pickI bs l (p + 1 + 1) 8 == 0) (.need (rdK bs l (p + (1 : Int) + (1 : Int) + (1 : Int))) (brT ((↑o.length : Int) == 0) (.need ((o.length + (1 : Nat)) * (16 : Nat) ≤ (140737488355328 : Nat) ∧ o.length + (1 : Nat) ≤ (1000000 : Nat)) (.need ((0 : Nat) + o.length * (2 : Nat) ≤ (flat o).length) (.leaf .normal ⟨(.pointer (some ⟨1, 0, none⟩) :: topV :: topV :: .slice (some ⟨7, 0, none⟩) (o.length + 1) (o.length + 1) :: .int .i64 (IntKind.i64.wrap ((↑n : Int) - 1)) :: topV :: topV :: topV :: topV :: topV :: topV :: topV :: topV :: topV :: topV :: topV :: topV :: topV :: topV :: topV :: topV :: topV :: topV :: topV :: topV :: topV :: topV :: topV :: topV :: topV :: topV :: topV :: topV :: topV :: topV :: topV :: topV :: topV :: topV :: topV :: topV :: topV :: topV :: topV :: topV :: topV :: topV :: topV :: topV :: topV :: topV :: topV :: topV :: topV :: topV :: topV :: topV :: topV :: topV :: topV :: topV :: topV :: topV :: topV :: topV :: topV :: topV :: []), [some ⟨.view, .bytes (bs)⟩, some ⟨.box, .vals [.slice (some ⟨0, 0, none⟩) (l) (c), .int .i64 (p + 1 + 1 + 1 + 2)]⟩, some deadB, some deadB, some ⟨.box, .vals [.int .i64 (pickI bs l (p + 1 + 1 + 1) 9 - 2), .int .i64 (pickI bs l (p + 1 + 1 + 1 + 1) 9 - 2)]⟩, none, some ⟨.row 44 2, .vals [.int .i64 (pickI bs l (p + 1 + 1 + 1) 9 - 2), .int .i64 (pickI bs l (p + 1 + 1 + 1 + 1) 9 - 2)]⟩, some ⟨.row 44 2, .ints (List.take (o.length * 2) (List.drop 0 (flat o)) ++ [pickI bs l (p + 1 + 1 + 1) 9 - 2, pickI bs l (p + 1 + 1 + 1 + 1) 9 - 2])⟩]⟩))) (brT (negB true ((flat o).getD (0 + (IntKind.i64.wrap ((↑o.length : Int) - 1)).toNat * 2) 0 == pickI bs l (p + 1 + 1 + 1) 9 - 2 && ((flat o).getD (0 + (IntKind.i64.wrap ((↑o.length : Int) - 1)).toNat * 2 + 1) 0 == pickI bs l (p + 1 + 1 + 1 + 1) 9 - 2 && true))) (.need ((0 : Int) ≤ IntKind.i64.wrap ((↑o.length : Int) - (1 : Int)) ∧ IntKind.i64.wrap ((↑o.length : Int) - (1 : Int)) < (↑o.length : Int)) (.need ((0 : Nat) + (IntKind.i64.wrap ((↑o.length : Int) - (1 : Int))).toNat * (2 : Nat) + (2 : Nat) ≤ (flat o).length) (.need ((o.length + (1 : Nat)) * (16 : Nat) ≤ (140737488355328 : Nat) ∧ o.length + (1 : Nat) ≤ (1000000 : Nat)) (.need ((0 : Nat) + o.length * (2 : Nat) ≤ (flat o).length) (.leaf .normal ⟨(.pointer (some ⟨1, 0, none⟩) :: topV :: topV :: .slice (some ⟨7, 0, none⟩) (o.length + 1) (o.length + 1) :: .int .i64 (IntKind.i64.wrap ((↑n : Int) - 1)) :: topV :: topV :: topV :: topV :: topV :: topV :: topV :: topV :: topV :: topV :: topV :: topV :: topV :: topV :: topV :: topV :: topV :: topV :: topV :: topV :: topV :: topV :: topV :: topV :: topV :: topV :: topV :: topV :: topV :: topV :: topV :: topV :: topV :: topV :: topV :: topV :: topV :: topV :: topV :: topV :: topV :: topV :: topV :: topV :: topV :: topV :: topV :: topV :: topV :: topV :: topV :: topV :: topV :: topV :: topV :: topV :: topV :: topV :: topV :: topV :: topV :: topV :: []), [some ⟨.view, .bytes (bs)⟩, some ⟨.box, .vals [.slice (some ⟨0, 0, none⟩) (l) (c), .int .i64 (p + 1 + 1 + 1 + 2)]⟩, some deadB, some deadB, some ⟨.box, .vals [.int .i64 (pickI bs l (p + 1 + 1 + 1) 9 - 2), .int .i64 (pickI bs l (p + 1 + 1 + 1 + 1) 9 - 2)]⟩, none, some ⟨.row 44 2, .vals [.int .i64 (pickI bs l (p + 1 + 1 + 1) 9 - 2), .int .i64 (pickI bs l (p + 1 + 1 + 1 + 1) 9 - 2)]⟩, some ⟨.row 44 2, .ints (List.take (o.length * 2) (List.drop 0 (flat o)) ++ [pickI bs l (p + 1 + 1 + 1) 9 - 2, pickI bs l (p + 1 + 1 + 1 + 1) 9 - 2])⟩]⟩))))) (.need ((0 : Int) ≤ IntKind.i64.wrap ((↑o.length : Int) - (1 : Int)) ∧ IntKind.i64.wrap ((↑o.length : Int) - (1 : Int)) < (↑o.length : Int)) (.need ((0 : Nat) + (IntKind.i64.wrap ((↑o.length : Int) - (1 : Int))).toNat * (2 : Nat) + (2 : Nat) ≤ (flat o).length) (.need (rdC bs l (p + (1 : Int) + (1 : Int) + (1 : Int) + (2 : Int))) (brT (pickI bs l (p + 1 + 1 + 1 + 2) 10 == 0) (.need ((o.length + (1 : Nat)) * (16 : Nat) ≤ (140737488355328 : Nat) ∧ o.length + (1 : Nat) ≤ (1000000 : Nat)) (.need ((0 : Nat) + o.length * (2 : Nat) ≤ (flat o).length) (.leaf .normal ⟨(.pointer (some ⟨1, 0, none⟩) :: topV :: topV :: .slice (some ⟨7, 0, none⟩) (o.length + 1) (o.length + 1) :: .int .i64 (IntKind.i64.wrap ((↑n : Int) - 1)) :: topV :: topV :: topV :: topV :: topV :: topV :: topV :: topV :: topV :: topV :: topV :: topV :: topV :: topV :: topV :: topV :: topV :: topV :: topV :: topV :: topV :: topV :: topV :: topV :: topV :: topV :: topV :: topV :: topV :: topV :: topV :: topV :: topV :: topV :: topV :: topV :: topV :: topV :: topV :: topV :: topV :: topV :: topV :: topV :: topV :: topV :: topV :: topV :: topV :: topV :: topV :: topV :: topV :: topV :: topV :: topV :: topV :: topV :: topV :: topV :: topV :: topV :: []), [some ⟨.view, .bytes (bs)⟩, some ⟨.box, .vals [.slice (some ⟨0, 0, none⟩) (l) (c), .int .i64 (p + 1 + 1 + 1 + 2 + 1)]⟩, some deadB, some deadB, some ⟨.box, .vals [.int .i64 (pickI bs l (p + 1 + 1 + 1) 9 - 2), .int .i64 (pickI bs l (p + 1 + 1 + 1 + 1) 9 - 2)]⟩, none, some ⟨.row 44 2, .vals [.int .i64 (pickI bs l (p + 1 + 1 + 1) 9 - 2), .int .i64 (pickI bs l (p + 1 + 1 + 1 + 1) 9 - 2)]⟩, some ⟨.row 44 2, .ints (List.take (o.length * 2) (List.drop 0 (flat o)) ++ [pickI bs l (p + 1 + 1 + 1) 9 - 2, pickI bs l (p + 1 + 1 + 1 + 1) 9 - 2])⟩]⟩))) (.leaf .normal ⟨(.pointer (some ⟨1, 0, none⟩) :: topV :: topV :: .slice (some ⟨3, 0, none⟩) (o.length) (o.length) :: .int .i64 (IntKind.i64.wrap ((↑n : Int) - 1)) :: topV :: topV :: topV :: topV :: topV :: topV :: topV :: topV :: topV :: topV :: topV :: topV :: topV :: topV :: topV :: topV :: topV :: topV :: topV :: topV :: topV :: topV :: topV :: topV :: topV :: topV :: topV :: topV :: topV :: topV :: topV :: topV :: topV :: topV :: topV :: topV :: topV :: topV :: topV :: topV :: topV :: topV :: topV :: topV :: topV :: topV :: topV :: topV :: topV :: topV :: topV :: topV :: topV :: topV :: topV :: topV :: topV :: topV :: topV :: topV :: topV :: topV :: []), [some ⟨.view, .bytes (bs)⟩, some ⟨.box, .vals [.slice (some ⟨0, 0, none⟩) (l) (c), .int .i64 (p + 1 + 1 + 1 + 2 + 1)]⟩, some deadB, some ⟨.row 44 2, .ints (flat o)⟩, some ⟨.box, .vals [.int .i64 (pickI bs l (p + 1 + 1 + 1) 9 - 2), .int .i64 (pickI bs l (p + 1 + 1 + 1 + 1) 9 - 2)]⟩, none]⟩)))))))) (brT ((↑o.length : Int) == 0) (.need ((o.length + (1 : Nat)) * (16 : Nat) ≤ (140737488355328 : Nat) ∧ o.length + (1 : Nat) ≤ (1000000 : Nat)) (.need ((0 : Nat) + o.length * (2 : Nat) ≤ (flat o).length) (.leaf .normal ⟨(.pointer (some ⟨1, 0, none⟩) :: topV :: topV :: .slice (some ⟨7, 0, none⟩) (o.length + 1) (o.length + 1) :: .int .i64 (IntKind.i64.wrap ((↑n : Int) - 1)) :: topV :: topV :: topV :: topV :: topV :: topV :: topV :: topV :: topV :: topV :: topV :: topV :: topV :: topV :: topV :: topV :: topV :: topV :: topV :: topV :: topV :: topV :: topV :: topV :: topV :: topV :: topV :: topV :: topV :: topV :: topV :: topV :: topV :: topV :: topV :: topV :: topV :: topV :: topV :: topV :: topV :: topV :: topV :: topV :: topV :: topV :: topV :: topV :: topV :: topV :: topV :: topV :: topV :: topV :: topV :: topV :: topV :: topV :: topV :: topV :: topV :: topV :: []), [some ⟨.view, .bytes (bs)⟩, some ⟨.box, .vals [.slice (some ⟨0, 0, none⟩) (l) (c), .int .i64 (p + 1 + 1 + 1)]⟩, some deadB, some deadB, some ⟨.box, .vals [.int .i64 (IntKind.i64.wrap (IntKind.i64.wrap ((↑o.length : Int) * 2) + pickI bs l p 3)), .int .i64 (pickI bs l (p + 1) 7)]⟩, none, some ⟨.row 44 2, .vals [.int .i64 (IntKind.i64.wrap (IntKind.i64.wrap ((↑o.length : Int) * 2) + pickI bs l p 3)), .int .i64 (pickI bs l (p + 1) 7)]⟩, some ⟨.row 44 2, .ints (List.take (o.length * 2) (List.drop 0 (flat o)) ++ [IntKind.i64.wrap (IntKind.i64.wrap ((↑o.length : Int) * 2) + pickI bs l p 3), pickI bs l (p + 1) 7])⟩]⟩))) (brT (negB true ((flat o).getD (0 + (IntKind.i64.wrap ((↑o.length : Int) - 1)).toNat * 2) 0 == IntKind.i64.wrap (IntKind.i64.wrap ((↑o.length : Int) * 2) + pickI bs l p 3) && ((flat o).getD (0 + (IntKind.i64.wrap ((↑o.length : Int) - 1)).toNat * 2 + 1) 0 == pickI bs l (p + 1) 7 && true))) (.need ((0 : Int) ≤ IntKind.i64.wrap ((↑o.length : Int) - (1 : Int)) ∧ IntKind.i64.wrap ((↑o.length : Int) - (1 : Int)) < (↑o.length : Int)) (.need ((0 : Nat) + (IntKind.i64.wrap ((↑o.length : Int) - (1 : Int))).toNat * (2 : Nat) + (2 : Nat) ≤ (flat o).length) (.need ((o.length + (1 : Nat)) * (16 : Nat) ≤ (140737488355328 : Nat) ∧ o.length + (1 : Nat) ≤ (1000000 : Nat)) (.need ((0 : Nat) + o.length * (2 : Nat) ≤ (flat o).length) (.leaf .normal ⟨(.pointer (some ⟨1, 0, none⟩) :: topV :: topV :: .slice (some ⟨7, 0, none⟩) (o.length + 1) (o.length + 1) :: .int .i64 (IntKind.i64.wrap ((↑n : Int) - 1)) :: topV :: topV :: topV :: topV :: topV :: topV :: topV :: topV :: topV :: topV :: topV :: topV :: topV :: topV :: topV :: topV :: topV :: topV :: topV :: topV :: topV :: topV :: topV :: topV :: topV :: topV :: topV :: topV :: topV :: topV :: topV :: topV :: topV :: topV :: topV :: topV :: topV :: topV :: topV :: topV :: topV :: topV :: topV :: topV :: topV :: topV :: topV :: topV :: topV :: topV :: topV :: topV :: topV :: topV :: topV :: topV :: topV :: topV :: topV :: topV :: topV :: topV :: []), [some ⟨.view, .bytes (bs)⟩, some ⟨.box, .vals [.slice (some ⟨0, 0, none⟩) (l) (c), .int .i64 (p + 1 + 1 + 1)]⟩, some deadB, some deadB, some ⟨.box, .vals [.int .i64 (IntKind.i64.wrap (IntKind.i64.wrap ((↑o.length : Int) * 2) + pickI bs l p 3)), .int .i64 (pickI bs l (p + 1) 7)]⟩, none, some ⟨.row 44 2, .vals [.int .i64 (IntKind.i64.wrap (IntKind.i64.wrap ((↑o.length : Int) * 2) + pickI bs l p 3)), .int .i64 (pickI bs l (p + 1) 7)]⟩, some ⟨.row 44 2, .ints (List.take (o.length * 2) (List.drop 0 (flat o)) ++ [IntKind.i64.wrap (IntKind.i64.wrap ((↑o.length : Int) * 2) + pickI bs l p 3), pickI bs l (p + 1) 7])⟩]⟩))))) (.need ((0 : Int) ≤ IntKind.i64.wrap ((↑o.length : Int) - (1 : Int)) ∧ IntKind.i64.wrap ((↑o.length : Int) - (1 : Int)) < (↑o.length : Int)) (.need ((0 : Nat) + (IntKind.i64.wrap ((↑o.length : Int) - (1 : Int))).toNat * (2 : Nat) + (2 : Nat) ≤ (flat o).length) (.need (rdC bs l (p + (1 : Int) + (1 : Int) + (1 : Int))) (brT (pickI bs l (p + 1 + 1 + 1) 10 == 0) (.need ((o.length + (1 : Nat)) * (16 : Nat) ≤ (140737488355328 : Nat) ∧ o.length + (1 : Nat) ≤ (1000000 : Nat)) (.need ((0 : Nat) + o.length * (2 : Nat) ≤ (flat o).length) (.leaf .normal ⟨(.pointer (some ⟨1, 0, none⟩) :: topV :: topV :: .slice (some ⟨7, 0, none⟩) (o.length + 1) (o.length + 1) :: .int .i64 (IntKind.i64.wrap ((↑n : Int) - 1)) :: topV :: topV :: topV :: topV :: topV :: topV :: topV :: topV :: topV :: topV :: topV :: topV :: topV :: topV :: topV :: topV :: topV :: topV :: topV :: topV :: topV :: topV :: topV :: topV :: topV :: topV :: topV :: topV :: topV :: topV :: topV :: topV :: topV :: topV :: topV :: topV :: topV :: topV :: topV :: topV :: topV :: topV :: topV :: topV :: topV :: topV :: topV :: topV :: topV :: topV :: topV :: topV :: topV :: topV :: topV :: topV :: topV :: topV :: topV :: topV :: topV :: topV :: []), [some ⟨.view, .bytes (bs)⟩, some ⟨.box, .vals [.slice (some ⟨0, 0, none⟩) (l) (c), .int .i64 (p + 1 + 1 + 1 + 1)]⟩, some deadB, some deadB, some ⟨.box, .vals [.int .i64 (IntKind.i64.wrap (IntKind.i64.wrap ((↑o.length : Int) * 2) + pickI bs l p 3)), .int .i64 (pickI bs l (p + 1) 7)]⟩, none, some ⟨.row 44 2, .vals [.int .i64 (IntKind.i64.wrap (IntKind.i64.wrap ((↑o.length : Int) * 2) + pickI bs l p 3)), .int .i64 (pickI bs l (p + 1) 7)]⟩, some ⟨.row 44 2, .ints (List.take (o.length * 2) (List.drop 0 (flat o)) ++ [IntKind.i64.wrap (IntKind.i64.wrap ((↑o.length : Int) * 2) + pickI bs l p 3), pickI bs l (p + 1) 7])⟩]⟩))) (.leaf .normal ⟨(.pointer (some ⟨1, 0, none⟩) :: topV :: topV :: .slice (some ⟨3, 0, none⟩) (o.length) (o.length) :: .int .i64 (IntKind.i64.wrap ((↑n : Int) - 1)) :: topV :: topV :: topV :: topV :: topV :: topV :: topV :: topV :: topV :: topV :: topV :: topV :: topV :: topV :: topV :: topV :: topV :: topV :: topV :: topV :: topV :: topV :: topV :: topV :: topV :: topV :: topV :: topV :: topV :: topV :: topV :: topV :: topV :: topV :: topV :: topV :: topV :: topV :: topV :: topV :: topV :: topV :: topV :: topV :: topV :: topV :: topV :: topV :: topV :: topV :: topV :: topV :: topV :: topV :: topV :: topV :: topV :: topV :: topV :: topV :: topV :: topV :: []), [some ⟨.view, .bytes (bs)⟩, some ⟨.box, .vals [.slice (some ⟨0, 0, none⟩) (l) (c), .int .i64 (p + 1 + 1 + 1 + 1)]⟩, some deadB, some ⟨.row 44 2, .ints (flat o)⟩, some ⟨.box, .vals [.int .i64 (IntKind.i64.wrap (IntKind.i64.wrap ((↑o.length : Int) * 2) + pickI bs l p 3)), .int .i64 (pickI bs l (p + 1) 7)]⟩, none]⟩))))))))))) (.leaf (.exit 0) ⟨(.pointer (some ⟨1, 0, none⟩) :: topV :: topV :: .slice (some ⟨3, 0, none⟩) (o.length) (o.length) :: topV :: topV :: topV :: topV :: topV :: topV :: topV :: topV :: topV :: topV :: topV :: topV :: topV :: topV :: topV :: topV :: topV :: topV :: topV :: topV :: topV :: topV :: topV :: topV :: topV :: topV :: topV :: topV :: topV :: topV :: topV :: topV :: topV :: topV :: topV :: topV :: topV :: topV :: topV :: topV :: topV :: topV :: topV :: topV :: topV :: topV :: topV :: topV :: topV :: topV :: topV :: topV :: topV :: topV :: topV :: topV :: topV :: topV :: topV :: topV :: topV :: topV :: topV :: []), [some ⟨.view, .bytes (bs)⟩, some ⟨.box, .vals [.slice (some ⟨0, 0, none⟩) (l) (c), .int .i64 (p)]⟩, some deadB, some ⟨.row 44 2, .ints (flat o)⟩]⟩) := by kernel_rfl
set_option maxRecDepth 100000 in
theorem nl_pth : loopsOf c_pth = [] := by kernel_rfl
def inv_pth (bs : List Int) (l c : Nat) : Nat × (List Pt) × Int → Prop := fun (n, o, p) => o.length + n ≤ 100 ∧ 0 ≤ p ∧ p + 6 * n ≤ 900000
def me_pth (bs : List Int) (l c : Nat) : Nat × (List Pt) × Int → Nat := fun (n, o, p) => n
/-- A round of this loop. -/
def Round_pth (bs : List Int) (l c : Nat) : Prop := ∀ xx : Nat × (List Pt) × Int, inv_pth bs l c xx → (bodyL Try.prog ER2 30 12 noL 1 c_pth k_pth 16 (s_pth bs l c xx)).ok (RoundEnd 3 (s_pth bs l c) (inv_pth bs l c) (me_pth bs l c) re_pth (rs_pth bs l c) xx) (fun _ _ => False)
def e_pth (s : St) (k : Ex → St → Tree) : Option Tree := match Nat.beq s.tmps.length 67, pickL s.tmps [0, 3, 4], s.mem with
  | true, [.pointer (some ⟨1, 0, none⟩), .slice (some ⟨2, 0, none⟩) z _, .int .i64 n1], [some ⟨.view, .bytes bs⟩, some ⟨.box, .vals [.slice (some ⟨0, 0, none⟩) l c, .int .i64 p]⟩, some ⟨.row 44 2, .vals []⟩] => some (needs [z = 0, 0 ≤ n1 ∧ n1 ≤ 100, l ≤ bs.length ∧ l ≤ 2000 ∧ Bytes bs, 0 ≤ p ∧ p ≤ 800000] (k (.exit 0) ⟨(.pointer (some ⟨1, 0, none⟩) :: topV :: topV :: .slice (some ⟨3, 0, none⟩) (ptL bs l n1.toNat [] p).length (ptL bs l n1.toNat [] p).length :: topV :: topV :: topV :: topV :: topV :: topV :: topV :: topV :: topV :: topV :: topV :: topV :: topV :: topV :: topV :: topV :: topV :: topV :: topV :: topV :: topV :: topV :: topV :: topV :: topV :: topV :: topV :: topV :: topV :: topV :: topV :: topV :: topV :: topV :: topV :: topV :: topV :: topV :: topV :: topV :: topV :: topV :: topV :: topV :: topV :: topV :: topV :: topV :: topV :: topV :: topV :: topV :: topV :: topV :: topV :: topV :: topV :: topV :: topV :: topV :: topV :: topV :: topV :: []), [some ⟨.view, .bytes bs⟩, some ⟨.box, .vals [.slice (some ⟨0, 0, none⟩) l c, .int .i64 (ptE bs l n1.toNat [] p)]⟩, some ⟨.dead, .vals []⟩, some ⟨.row 44 2, .ints (flat (ptL bs l n1.toNat [] p))⟩]⟩))
  | _, _, _ => none
theorem neP_is (p q : Pt) : negB true (p.1 == q.1 && (p.2 == q.2 && true)) = !(decide (p = q)) := by
  rw [Bool.eq_iff_iff]
  simp only [negB, Bool.and_true, Bool.not_eq_true', Bool.and_eq_false_iff, decide_eq_false_iff_not, beq_eq_false_iff_ne, ne_eq]
  constructor
  · rintro h rfl
    rcases h with h | h <;> exact h rfl
  · intro h
    by_cases h1 : p.1 = q.1
    · exact .inr fun h2 => h (Prod.ext h1 h2)
    · exact .inl h1
set_option maxRecDepth 100000 in
set_option maxHeartbeats 4000000 in
theorem round_pth (bs : List Int) (l c : Nat) (h : l ≤ bs.length ∧ l ≤ 2000 ∧ Bytes bs) : Round_pth bs l c := by
  rintro ⟨n, o, p⟩ ⟨h1, h2, h3⟩
  rw [tr_pth]
  simp only [show p + 1 + 1 = p + 2 by omega, show p + 2 + 1 = p + 3 by omega, show p + 3 + 1 = p + 4 by omega, show p + 3 + 2 = p + 5 by omega, show p + 5 + 1 = p + 6 by omega]
  refine brT_ok.2 ⟨fun hlt => ?_, fun hge => ?_⟩
  · have hlt := of_decide_eq_true hlt
    obtain ⟨n, rfl⟩ : ∃ m, n = m + 1 := ⟨n - 1, by omega⟩
    have hr : rdK bs l p := ⟨⟨h.1, h.2.1, h2, by omega, h.2.2⟩, by omega⟩
    have ra : ∀ q : Int, p ≤ q → q ≤ p + 100 → rdC bs l q := fun q g1 g2 => hr.at g1 (by omega)
    have e : IntKind.i64.wrap (((n + 1 : Nat) : Int) - 1) = (n : Int) := by rw [wr (by omega)]; omega
    have fl := flat_length o
    rw [e]
    refine ⟨ra _ (by omega) (by omega), ra _ (by omega) (by omega), ra _ (by omega) (by omega), brT_ok.2 ⟨fun hb => ⟨⟨ra _ (by omega) (by omega), by omega⟩, ?_⟩, fun hb => ?_⟩⟩
    · have eQ : pthQ bs l o.length p = (pickI bs l (p + 3) 9 - 2, pickI bs l (p + 4) 9 - 2) := by unfold pthQ; rw [hb]; rfl
      have eP : pthP bs l p = p + 5 := by unfold pthP; rw [hb]; rfl
      refine brT_ok.2 ⟨fun g0 => ?_, fun g0 => ?_⟩
      · have g0 : o.length = 0 := by have : (o.length : Int) = 0 := by simpa using g0
                                     omega
        have eN : pthN o (pickI bs l (p + 3) 9 - 2, pickI bs l (p + 4) 9 - 2) = true := by unfold pthN; rw [decide_eq_true g0, Bool.true_or]
        have eO : pthO bs l o p = o ++ [(pickI bs l (p + 3) 9 - 2, pickI bs l (p + 4) 9 - 2)] := by unfold pthO; rw [eQ, eN, Bool.true_or, cond_true]
        have eE : pthE bs l o p = p + 5 := by unfold pthE; rw [eQ, eN, eP, cond_true]
        simp only [flatA, flat_snoc, Tree.ok]
        refine ⟨by omega, by omega, (n, o ++ [(pickI bs l (p + 3) 9 - 2, pickI bs l (p + 4) 9 - 2)], p + 5), [some 7], ⟨by simp; omega, by omega, by omega⟩, ?_, rfl, ?_, ?_⟩
        · show n < n + 1; omega
        · simp only [rs_pth, ptL, ptE, eO, eE]
        · repeat' (first | exact True.intro | exact rfl | exact fun _ => rfl | (simp; done) | refine And.intro ?_ ?_)
      · have g0 : ¬ o.length = 0 := fun h0 => by rw [h0] at g0; simp at g0
        have w : IntKind.i64.wrap ((o.length : Int) - 1) = ((o.length - 1 : Nat) : Int) := by rw [wr (by omega)]; omega
        rw [w]
        simp only [Int.toNat_natCast, Nat.zero_add, flat_get0, flat_get1, flatA, flat_snoc, flat_length]
        rw [show negB true ((o.getD (o.length - 1) (0, 0)).1 == (pickI bs l (p + 3) 9 - 2) && ((o.getD (o.length - 1) (0, 0)).2 == (pickI bs l (p + 4) 9 - 2) && true)) = !(decide (o.getD (o.length - 1) (0, 0) = (pickI bs l (p + 3) 9 - 2, pickI bs l (p + 4) 9 - 2))) from neP_is _ (pickI bs l (p + 3) 9 - 2, pickI bs l (p + 4) 9 - 2)]
        have eN : pthN o (pickI bs l (p + 3) 9 - 2, pickI bs l (p + 4) 9 - 2) = !(decide (o.getD (o.length - 1) (0, 0) = (pickI bs l (p + 3) 9 - 2, pickI bs l (p + 4) 9 - 2))) := by unfold pthN; rw [decide_eq_false g0, Bool.false_or]
        rw [← eN]
        refine brT_ok.2 ⟨fun gn => ?_, fun gn => ?_⟩
        · have eO : pthO bs l o p = o ++ [(pickI bs l (p + 3) 9 - 2, pickI bs l (p + 4) 9 - 2)] := by unfold pthO; rw [eQ, gn, Bool.true_or, cond_true]
          have eE : pthE bs l o p = p + 5 := by unfold pthE; rw [eQ, gn, eP, cond_true]
          simp only [Tree.ok]
          refine ⟨by omega, by omega, by omega, by omega, (n, o ++ [(pickI bs l (p + 3) 9 - 2, pickI bs l (p + 4) 9 - 2)], p + 5), [some 7], ⟨by simp; omega, by omega, by omega⟩, ?_, rfl, ?_, ?_⟩
          · show n < n + 1; omega
          · simp only [rs_pth, ptL, ptE, eO, eE]
          · repeat' (first | exact True.intro | exact rfl | exact fun _ => rfl | (simp; done) | refine And.intro ?_ ?_)
        · have eE : pthE bs l o p = p + 6 := by unfold pthE; rw [eQ, gn, eP, cond_false]; omega
          simp only [Tree.ok]
          refine ⟨by omega, by omega, ra _ (by omega) (by omega), brT_ok.2 ⟨fun gk => ?_, fun gk => ?_⟩⟩
          · have eO : pthO bs l o p = o ++ [(pickI bs l (p + 3) 9 - 2, pickI bs l (p + 4) 9 - 2)] := by unfold pthO; rw [eQ, gn, eP, gk, Bool.or_true, cond_true]
            simp only [Tree.ok]
            refine ⟨by omega, by omega, (n, o ++ [(pickI bs l (p + 3) 9 - 2, pickI bs l (p + 4) 9 - 2)], p + 6), [some 7], ⟨by simp; omega, by omega, by omega⟩, ?_, rfl, ?_, ?_⟩
            · show n < n + 1; omega
            · simp only [rs_pth, ptL, ptE, eO, eE]
            · repeat' (first | exact True.intro | exact rfl | exact fun _ => rfl | (simp; done) | refine And.intro ?_ ?_)
          · have eO : pthO bs l o p = o := by unfold pthO; rw [eQ, gn, eP, gk, Bool.or_false, cond_false]
            refine ⟨(n, o, p + 6), [some 3], ⟨by omega, by omega, by omega⟩, ?_, rfl, ?_, ?_⟩
            · show n < n + 1; omega
            · simp only [rs_pth, ptL, ptE, eO, eE]
            · repeat' (first | exact True.intro | exact rfl | exact fun _ => rfl | (simp; done) | refine And.intro ?_ ?_)
    · have eQ : pthQ bs l o.length p = (IntKind.i64.wrap (IntKind.i64.wrap ((o.length : Int) * 2) + pickI bs l p 3), pickI bs l (p + 1) 7) := by unfold pthQ; rw [hb]; rfl
      have eP : pthP bs l p = p + 3 := by unfold pthP; rw [hb]; rfl
      refine brT_ok.2 ⟨fun g0 => ?_, fun g0 => ?_⟩
      · have g0 : o.length = 0 := by have : (o.length : Int) = 0 := by simpa using g0
                                     omega
        have eN : pthN o (IntKind.i64.wrap (IntKind.i64.wrap ((o.length : Int) * 2) + pickI bs l p 3), pickI bs l (p + 1) 7) = true := by unfold pthN; rw [decide_eq_true g0, Bool.true_or]
        have eO : pthO bs l o p = o ++ [(IntKind.i64.wrap (IntKind.i64.wrap ((o.length : Int) * 2) + pickI bs l p 3), pickI bs l (p + 1) 7)] := by unfold pthO; rw [eQ, eN, Bool.true_or, cond_true]
        have eE : pthE bs l o p = p + 3 := by unfold pthE; rw [eQ, eN, eP, cond_true]
        simp only [flatA, flat_snoc, Tree.ok]
        refine ⟨by omega, by omega, (n, o ++ [(IntKind.i64.wrap (IntKind.i64.wrap ((o.length : Int) * 2) + pickI bs l p 3), pickI bs l (p + 1) 7)], p + 3), [some 7], ⟨by simp; omega, by omega, by omega⟩, ?_, rfl, ?_, ?_⟩
        · show n < n + 1; omega
        · simp only [rs_pth, ptL, ptE, eO, eE]
        · repeat' (first | exact True.intro | exact rfl | exact fun _ => rfl | (simp; done) | refine And.intro ?_ ?_)
      · have g0 : ¬ o.length = 0 := fun h0 => by rw [h0] at g0; simp at g0
        have w : IntKind.i64.wrap ((o.length : Int) - 1) = ((o.length - 1 : Nat) : Int) := by rw [wr (by omega)]; omega
        rw [w]
        simp only [Int.toNat_natCast, Nat.zero_add, flat_get0, flat_get1, flatA, flat_snoc, flat_length]
        rw [show negB true ((o.getD (o.length - 1) (0, 0)).1 == (IntKind.i64.wrap (IntKind.i64.wrap ((o.length : Int) * 2) + pickI bs l p 3)) && ((o.getD (o.length - 1) (0, 0)).2 == (pickI bs l (p + 1) 7) && true)) = !(decide (o.getD (o.length - 1) (0, 0) = (IntKind.i64.wrap (IntKind.i64.wrap ((o.length : Int) * 2) + pickI bs l p 3), pickI bs l (p + 1) 7))) from neP_is _ (IntKind.i64.wrap (IntKind.i64.wrap ((o.length : Int) * 2) + pickI bs l p 3), pickI bs l (p + 1) 7)]
        have eN : pthN o (IntKind.i64.wrap (IntKind.i64.wrap ((o.length : Int) * 2) + pickI bs l p 3), pickI bs l (p + 1) 7) = !(decide (o.getD (o.length - 1) (0, 0) = (IntKind.i64.wrap (IntKind.i64.wrap ((o.length : Int) * 2) + pickI bs l p 3), pickI bs l (p + 1) 7))) := by unfold pthN; rw [decide_eq_false g0, Bool.false_or]
        rw [← eN]
        refine brT_ok.2 ⟨fun gn => ?_, fun gn => ?_⟩
        · have eO : pthO bs l o p = o ++ [(IntKind.i64.wrap (IntKind.i64.wrap ((o.length : Int) * 2) + pickI bs l p 3), pickI bs l (p + 1) 7)] := by unfold pthO; rw [eQ, gn, Bool.true_or, cond_true]
          have eE : pthE bs l o p = p + 3 := by unfold pthE; rw [eQ, gn, eP, cond_true]
          simp only [Tree.ok]
          refine ⟨by omega, by omega, by omega, by omega, (n, o ++ [(IntKind.i64.wrap (IntKind.i64.wrap ((o.length : Int) * 2) + pickI bs l p 3), pickI bs l (p + 1) 7)], p + 3), [some 7], ⟨by simp; omega, by omega, by omega⟩, ?_, rfl, ?_, ?_⟩
          · show n < n + 1; omega
          · simp only [rs_pth, ptL, ptE, eO, eE]
          · repeat' (first | exact True.intro | exact rfl | exact fun _ => rfl | (simp; done) | refine And.intro ?_ ?_)
        · have eE : pthE bs l o p = p + 4 := by unfold pthE; rw [eQ, gn, eP, cond_false]; omega
          simp only [Tree.ok]
          refine ⟨by omega, by omega, ra _ (by omega) (by omega), brT_ok.2 ⟨fun gk => ?_, fun gk => ?_⟩⟩
          · have eO : pthO bs l o p = o ++ [(IntKind.i64.wrap (IntKind.i64.wrap ((o.length : Int) * 2) + pickI bs l p 3), pickI bs l (p + 1) 7)] := by unfold pthO; rw [eQ, gn, eP, gk, Bool.or_true, cond_true]
            simp only [Tree.ok]
            refine ⟨by omega, by omega, (n, o ++ [(IntKind.i64.wrap (IntKind.i64.wrap ((o.length : Int) * 2) + pickI bs l p 3), pickI bs l (p + 1) 7)], p + 4), [some 7], ⟨by simp; omega, by omega, by omega⟩, ?_, rfl, ?_, ?_⟩
            · show n < n + 1; omega
            · simp only [rs_pth, ptL, ptE, eO, eE]
            · repeat' (first | exact True.intro | exact rfl | exact fun _ => rfl | (simp; done) | refine And.intro ?_ ?_)
          · have eO : pthO bs l o p = o := by unfold pthO; rw [eQ, gn, eP, gk, Bool.or_false, cond_false]
            refine ⟨(n, o, p + 4), [some 3], ⟨by omega, by omega, by omega⟩, ?_, rfl, ?_, ?_⟩
            · show n < n + 1; omega
            · simp only [rs_pth, ptL, ptE, eO, eE]
            · repeat' (first | exact True.intro | exact rfl | exact fun _ => rfl | (simp; done) | refine And.intro ?_ ?_)
  · have hge := of_decide_eq_false hge
    obtain rfl : n = 0 := by omega
    refine ⟨rfl, [some 3], ?_⟩
    simp only [rs_pth, ptL, ptE]
    repeat' (first | exact True.intro | exact rfl | exact fun _ => rfl | (simp; done) | refine And.intro ?_ ?_)
set_option maxRecDepth 100000 in
theorem lg_pth : LoopE Try.prog e_pth c_pth := by
  intro s k t F H hlt ht
  unfold e_pth at hlt
  split at hlt
  rotate_left
  · cases hlt
  rename_i hlen hpick hmem
  obtain ⟨tmps, mem⟩ := s
  simp only at hlen hpick hmem
  subst hmem
  obtain rfl := Option.some.inj hlt
  obtain ⟨⟨rfl, h1, h2, h3, _⟩, ht2⟩ := needs_ok ht
  clear ht hlt
  obtain ⟨n, rfl⟩ := Int.eq_ofNat_of_zero_le h1.1
  simp only [Int.toNat_natCast] at ht2
  refine ⟨_, _, ht2, loop_run2 mixed ER2_ok (s_pth _ _ _) (inv_pth _ _ _) (me_pth _ _ _) re_pth (rs_pth _ _ _) k_pth (fun _ => rfl) (noLoops nl_pth) (round_pth _ _ _ h2) (x := (n, [], _)) ⟨by simp; omega, h3.1, by omega⟩ (π := [some 2]) rfl ?_⟩
  refine ⟨rfl, rfl, ?_, wvs_spread' [0, 3, 4] hlen rfl ?_⟩
  · repeat' (first | exact True.intro | exact rfl | exact wv_top _ _ | exact fun _ => rfl | assumption | exact Eq.symm (by assumption) | exact vI0 rfl | refine And.intro ?_ ?_)
  · rw [hpick]
    repeat' (first | exact True.intro | exact rfl | exact wv_top _ _ | exact fun _ => rfl | assumption | exact Eq.symm (by assumption) | exact vI0 rfl | refine And.intro ?_ ?_)
end Go.Proofs.Ytolodncpegajkab
namespace Go.Proofs.Ytolodncpegajkab
set_option linter.all false
open Go.RowKit
theorem Lr_pth {fn : Func} (hf : Try.prog.funcs[65]? = some fn) : LoopsGood Try.prog (lt1 e_pth) 0 (codeOf fn) := by
  obtain rfl := fn_is Try.func65 hf
  exact lt1_good lg_pth
def LPt : FuncId → LT := fun f => match f with
  | 65 => lt1 e_pth
  | _ => noL
def EPt : Env := ⟨B0, fun _ _ => none, LPt, tabJ J2, fun _ => noR⟩
theorem EPt_ok : EnvOk Try.prog EPt := ⟨B0_ok, fun _ _ _ _ _ h => (by cases h), (by
  intro f fn hf
  show LoopsGood Try.prog (LPt f) 0 (codeOf fn)
  unfold LPt
  split
  all_goals first | with_reducible exact Lr_pth hf | exact noL_good), tabJ_sound mixed J2_ok, fun _ _ _ => noR_good⟩
set_option maxRecDepth 100000 in
theorem tr_ptF (bs : List Int) (l c : Nat) (p : Int) : bodyM Try.prog EPt (runM Try.prog EPt 30 12) 30 65 [.pointer (some ⟨1, 0, none⟩)] (memR bs l c p none) .fin = .need (rdC bs l p) (.need ((0 : Nat) = (0 : Nat)) (.need ((0 : Int) ≤ IntKind.i64.wrap ((1 : Int) + pickI bs l p (9 : Int)) ∧ IntKind.i64.wrap ((1 : Int) + pickI bs l p (9 : Int)) ≤ (100 : Int)) (.need (l ≤ bs.length ∧ l ≤ (2000 : Nat) ∧ Bytes bs) (.need ((0 : Int) ≤ p + (1 : Int) ∧ p + (1 : Int) ≤ (800000 : Int)) (brT (decide (2 < (↑(ptL bs l (IntKind.i64.wrap (1 + pickI bs l p 9)).toNat [] (p + 1)).length : Int))) (.need (rdC bs l (ptE bs l (IntKind.i64.wrap ((1 : Int) + pickI bs l p (9 : Int))).toNat [] (p + (1 : Int)))) (brT (pickI bs l (ptE bs l (IntKind.i64.wrap (1 + pickI bs l p 9)).toNat [] (p + 1)) 6 == 0) (.need ((0 : Int) ≤ (0 : Int) ∧ (0 : Int) < (↑(ptL bs l (IntKind.i64.wrap ((1 : Int) + pickI bs l p (9 : Int))).toNat [] (p + (1 : Int))).length : Int)) (.need ((2 : Nat) ≤ (flat (ptL bs l (IntKind.i64.wrap ((1 : Int) + pickI bs l p (9 : Int))).toNat [] (p + (1 : Int)))).length) (.need ((0 : Int) ≤ IntKind.i64.wrap ((↑(ptL bs l (IntKind.i64.wrap ((1 : Int) + pickI bs l p (9 : Int))).toNat [] (p + (1 : Int))).length : Int) - (1 : Int)) ∧ IntKind.i64.wrap ((↑(ptL bs l (IntKind.i64.wrap ((1 : Int) + pickI bs l p (9 : Int))).toNat [] (p + (1 : Int))).length : Int) - (1 : Int)) < (↑(ptL bs l (IntKind.i64.wrap ((1 : Int) + pickI bs l p (9 : Int))).toNat [] (p + (1 : Int))).length : Int)) (.need ((0 : Nat) + (IntKind.i64.wrap ((↑(ptL bs l (IntKind.i64.wrap ((1 : Int) + pickI bs l p (9 : Int))).toNat [] (p + (1 : Int))).length : Int) - (1 : Int))).toNat * (2 : Nat) + (2 : Nat) ≤ (flat (ptL bs l (IntKind.i64.wrap ((1 : Int) + pickI bs l p (9 : Int))).toNat [] (p + (1 : Int)))).length) (.fin (.slice (some ⟨3, 0, none⟩) ((ptL bs l (IntKind.i64.wrap (1 + pickI bs l p 9)).toNat [] (p + 1)).length) ((ptL bs l (IntKind.i64.wrap (1 + pickI bs l p 9)).toNat [] (p + 1)).length)) [some ⟨.view, .bytes (bs)⟩, some ⟨.box, .vals [.slice (some ⟨0, 0, none⟩) (l) (c), .int .i64 (ptE bs l (IntKind.i64.wrap (1 + pickI bs l p 9)).toNat [] (p + 1) + 1)]⟩, some deadB, some ⟨.row 44 2, .ints (setInts (flat (ptL bs l (IntKind.i64.wrap (1 + pickI bs l p 9)).toNat [] (p + 1))) (0 + (IntKind.i64.wrap ((↑(ptL bs l (IntKind.i64.wrap (1 + pickI bs l p 9)).toNat [] (p + 1)).length : Int) - 1)).toNat * 2) [(flat (ptL bs l (IntKind.i64.wrap (1 + pickI bs l p 9)).toNat [] (p + 1))).getD 0 0, (flat (ptL bs l (IntKind.i64.wrap (1 + pickI bs l p 9)).toNat [] (p + 1))).getD 1 0])⟩]))))) (.fin (.slice (some ⟨3, 0, none⟩) ((ptL bs l (IntKind.i64.wrap (1 + pickI bs l p 9)).toNat [] (p + 1)).length) ((ptL bs l (IntKind.i64.wrap (1 + pickI bs l p 9)).toNat [] (p + 1)).length)) [some ⟨.view, .bytes (bs)⟩, some ⟨.box, .vals [.slice (some ⟨0, 0, none⟩) (l) (c), .int .i64 (ptE bs l (IntKind.i64.wrap (1 + pickI bs l p 9)).toNat [] (p + 1) + 1)]⟩, some deadB, some ⟨.row 44 2, .ints (flat (ptL bs l (IntKind.i64.wrap (1 + pickI bs l p 9)).toNat [] (p + 1)))⟩]))) (.fin (.slice (some ⟨3, 0, none⟩) ((ptL bs l (IntKind.i64.wrap (1 + pickI bs l p 9)).toNat [] (p + 1)).length) ((ptL bs l (IntKind.i64.wrap (1 + pickI bs l p 9)).toNat [] (p + 1)).length)) [some ⟨.view, .bytes (bs)⟩, some ⟨.box, .vals [.slice (some ⟨0, 0, none⟩) (l) (c), .int .i64 (ptE bs l (IntKind.i64.wrap (1 + pickI bs l p 9)).toNat [] (p + 1))]⟩, some deadB, some ⟨.row 44 2, .ints (flat (ptL bs l (IntKind.i64.wrap (1 + pickI bs l p 9)).toNat [] (p + 1)))⟩])))))) := by kernel_rfl
def ptNn (bs : List Int) (l : Nat) (p : Int) : Nat := (1 + pickI bs l p 9).toNat
def ptM (bs : List Int) (l : Nat) (p : Int) : List Pt := ptL bs l (ptNn bs l p) [] (p + 1)
def ptZ (bs : List Int) (l : Nat) (p : Int) : Int := ptE bs l (ptNn bs l p) [] (p + 1)
/-- A drawn path, and the place behind it. -/
def apthL (bs : List Int) (l : Nat) (p : Int) : List Pt := bif decide (2 < (ptM bs l p).length) && pickI bs l (ptZ bs l p) 6 == 0 then (ptM bs l p).set ((ptM bs l p).length - 1) ((ptM bs l p).getD 0 (0, 0)) else ptM bs l p
def apthE (bs : List Int) (l : Nat) (p : Int) : Int := bif decide (2 < (ptM bs l p).length) then ptZ bs l p + 1 else ptZ bs l p
theorem pth_bd (bs : List Int) (l : Nat) : ∀ (n : Nat) (o : List Pt) (p : Int), (ptL bs l n o p).length ≤ o.length + n ∧ p ≤ ptE bs l n o p ∧ ptE bs l n o p ≤ p + 6 * n
  | 0, o, p => ⟨Nat.le_refl _, Int.le_refl _, by simp [ptE]⟩
  | n + 1, o, p => by
    obtain ⟨h1, h2, h3⟩ := pth_bd bs l n (pthO bs l o p) (pthE bs l o p)
    have k1 : (pthO bs l o p).length ≤ o.length + 1 := by
      unfold pthO
      cases (pthN o (pthQ bs l o.length p) || pickI bs l (pthP bs l p) 10 == 0) <;> simp
    have k2 : p + 3 ≤ pthE bs l o p ∧ pthE bs l o p ≤ p + 6 := by
      unfold pthE pthP
      cases pthN o (pthQ bs l o.length p) <;> cases (pickI bs l (p + 2) 8 == 0) <;> simp only [cond_true, cond_false] <;> omega
    simp only [ptL, ptE]
    omega
theorem ptM_bd {bs : List Int} {l : Nat} {p : Int} (h : rdC bs l p) : (ptM bs l p).length ≤ 9 ∧ p ≤ ptZ bs l p ∧ ptZ bs l p ≤ p + 55 := by
  have b := pickI_bd (k := 9) h (by omega)
  have := pth_bd bs l (ptNn bs l p) [] (p + 1)
  have e : ptNn bs l p ≤ 9 := by unfold ptNn; omega
  rw [List.length_nil] at this
  unfold ptM ptZ
  omega
theorem apthL_len {bs : List Int} {l : Nat} {p : Int} (h : rdC bs l p) : (apthL bs l p).length ≤ 9 := by
  have := (ptM_bd h).1
  unfold apthL
  cases (decide (2 < (ptM bs l p).length) && pickI bs l (ptZ bs l p) 6 == 0)
  · exact this
  · rw [cond_true, List.length_set]
    exact this
theorem apthE_bd {bs : List Int} {l : Nat} {p : Int} (h : rdC bs l p) : p ≤ apthE bs l p ∧ apthE bs l p ≤ p + 60 := by
  have := ptM_bd h
  unfold apthE
  cases decide (2 < (ptM bs l p).length) <;> simp only [cond_true, cond_false] <;> omega
def apthS : RSpecR := fun bs l p rest => match rest with
  | [] => some (rowL (apthL bs l p), ⟨.row 44 2, .ints (flat (apthL bs l p))⟩, apthE bs l p, [rdC bs l p, p ≤ 700000])
  | _ => none
theorem apthS_ok : SpecROk Try.prog 65 apthS := by
  intro bs l c p rest v b p' C h hC
  unfold apthS at h
  split at h
  rotate_left
  · cases h
  obtain ⟨rfl, rfl, rfl, rfl⟩ : rowL (apthL bs l p) = v ∧ (⟨.row 44 2, .ints (flat (apthL bs l p))⟩ : Blk) = b ∧ apthE bs l p = p' ∧ [rdC bs l p, p ≤ 700000] = C := by simpa using h
  obtain ⟨h1, h2, _⟩ := hC
  refine ⟨rfl, EPt, 30, 12, EPt_ok, ?_⟩
  rw [tr_ptF]
  have h0 := h1.2.2.1
  have b := pickI_bd (k := 9) h1 (by omega)
  obtain ⟨m1, m2, m3⟩ := ptM_bd h1
  have w : IntKind.i64.wrap (1 + pickI bs l p 9) = 1 + pickI bs l p 9 := wr (by omega)
  rw [w]
  have eL : ptL bs l (1 + pickI bs l p 9).toNat [] (p + 1) = ptM bs l p := rfl
  have eZ : ptE bs l (1 + pickI bs l p 9).toNat [] (p + 1) = ptZ bs l p := rfl
  rw [eL, eZ]
  refine ⟨h1, rfl, ⟨by omega, by omega⟩, ⟨h1.1, h1.2.1, h1.2.2.2.2⟩, ⟨by omega, by omega⟩, brT_ok.2 ⟨fun g => ?_, fun g => ?_⟩⟩
  · have g2 : 2 < (ptM bs l p).length := by have := of_decide_eq_true g; omega
    have eE : apthE bs l p = ptZ bs l p + 1 := by unfold apthE; rw [decide_eq_true g2, cond_true]
    refine ⟨⟨h1.1, h1.2.1, by omega, by omega, h1.2.2.2.2⟩, brT_ok.2 ⟨fun k => ?_, fun k => ?_⟩⟩
    · have w2 : IntKind.i64.wrap (((ptM bs l p).length : Int) - 1) = (((ptM bs l p).length - 1 : Nat) : Int) := by rw [wr (by omega)]; omega
      have eA : apthL bs l p = (ptM bs l p).set ((ptM bs l p).length - 1) ((ptM bs l p).getD 0 (0, 0)) := by unfold apthL; rw [decide_eq_true g2, k]; rfl
      have hs := flat_set (ptM bs l p) ((ptM bs l p).length - 1) (by omega) ((ptM bs l p).getD 0 (0, 0)).1 ((ptM bs l p).getD 0 (0, 0)).2
      have f0 : (flat (ptM bs l p)).getD 0 0 = ((ptM bs l p).getD 0 (0, 0)).1 := flat_get0 (ptM bs l p) 0
      have f1 : (flat (ptM bs l p)).getD 1 0 = ((ptM bs l p).getD 0 (0, 0)).2 := flat_get1 (ptM bs l p) 0
      rw [w2, eA, eE, f0, f1]
      simp only [Int.toNat_natCast, Nat.zero_add, flat_length, hs, Tree.ok]
      exact ⟨by omega, by omega, by omega, by omega, rfl, some 3, ⟨rfl, rfl, by rw [List.length_set]⟩, rfl, rfl, rfl⟩
    · have eA : apthL bs l p = ptM bs l p := by unfold apthL; rw [k, Bool.and_false]; rfl
      rw [eA, eE]
      exact ⟨rfl, some 3, ⟨rfl, rfl, rfl⟩, rfl, rfl, rfl⟩
  · have g2 : ¬ 2 < (ptM bs l p).length := by have := of_decide_eq_false g; omega
    have eE : apthE bs l p = ptZ bs l p := by unfold apthE; rw [decide_eq_false g2, cond_false]
    have eA : apthL bs l p = ptM bs l p := by unfold apthL; rw [decide_eq_false g2]; rfl
    rw [eA, eE]
    exact ⟨rfl, some 3, ⟨rfl, rfl, rfl⟩, rfl, rfl, rfl⟩
def JPt : TabJ := consR 65 (rdGR apthS) (tabJ J2)
theorem JPt_ok : GSound Try.prog JPt.g := consR_ok mixed (tabJ_sound mixed J2_ok) (entersB_res (by kernel_rfl)).1 apthS_ok
theorem ptKey {bs : List Int} {n : Nat} (hb : Bytes bs) (hn : n ≤ bs.length) {l : Nat} (h1 : l ≤ n) (h2 : l ≤ 2000) : rdC bs l 0 ∧ rdC bs l (apthE bs l 0) ∧ (apthL bs l 0).length ≤ 9 := by
  have r0 : rdK bs l 0 := rdK0 hb hn h1 h2 (by omega) (by omega)
  have e := apthE_bd r0.1
  exact ⟨r0.1, r0.at e.1 (by omega), apthL_len r0.1⟩
end Go.Proofs.Ytolodncpegajkab
namespace Go.Proofs.Ytolodncpegajkab
set_option linter.all false
open Go.RowKit
noncomputable def c_eqN : Code := ((loopsOf (codeOf Try.f25))[0]?).getD .skip
def k_eqN : Ex → List Nat := keeps [0, 1, 5] [(0, [])] [4]
def s_eqN (n : Nat) (xs : List Int) : Nat → St := fun i => ⟨[.slice (some ⟨0, 0, none⟩) n n, .slice (some ⟨1, 0, none⟩) n n, topV, topV, topV, .int .i64 i, topV, topV, topV, topV, topV, topV, topV, topV, topV, topV, topV, topV, topV, topV, topV, topV, topV, topV, topV, topV], [some ⟨.view, .ints xs⟩, some ⟨.view, .ints xs⟩]⟩
def re_eqN : Nat → Ex := fun _ => .exit 0
def rs_eqN (n : Nat) (xs : List Int) : Nat → St := fun i => ⟨[topV, topV, topV, topV, topV, topV, topV, topV, topV, topV, topV, topV, topV, topV, topV, topV, topV, topV, topV, topV, topV, topV, topV, topV, topV, topV], [some ⟨.view, .ints xs⟩, some ⟨.view, .ints xs⟩]⟩
set_option maxRecDepth 100000 in
theorem tr_eqN (n : Nat) (xs : List Int) (i : Nat) : bodyL Try.prog E3 30 12 noL 1 c_eqN k_eqN 2 (s_eqN n xs i) = brT (decide ((↑i : Int) < (↑n : Int))) (.need ((0 : Int) ≤ (↑i : Int) ∧ (↑i : Int) < (↑n : Int)) (.need ((0 : Nat) + (↑i : Int).toNat * (1 : Nat) < xs.length) (.need ((0 : Int) ≤ (↑i : Int) ∧ (↑i : Int) < (↑n : Int)) (.need ((0 : Nat) + (↑i : Int).toNat * (1 : Nat) < xs.length) (brT (!xs.getD (0 + (↑i : Int).toNat * 1) 0 == xs.getD (0 + (↑i : Int).toNat * 1) 0) (.leaf .ret ⟨[topV, topV, topV, topV, .bool (false), topV, topV, topV, topV, topV, topV, topV, topV, topV, topV, topV, topV, topV, topV, topV, topV, topV, topV, topV, topV, topV], [some ⟨.view, .ints (xs)⟩, some ⟨.view, .ints (xs)⟩]⟩) (.leaf .normal ⟨[.slice (some ⟨0, 0, none⟩) (n) (n), .slice (some ⟨1, 0, none⟩) (n) (n), topV, topV, topV, .int .i64 (IntKind.i64.wrap ((↑i : Int) + 1)), topV, topV, topV, topV, topV, topV, topV, topV, topV, topV, topV, topV, topV, topV, topV, topV, topV, topV, topV, topV], [some ⟨.view, .ints (xs)⟩, some ⟨.view, .ints (xs)⟩]⟩)))))) (.leaf (.exit 0) ⟨[topV, topV, topV, topV, topV, topV, topV, topV, topV, topV, topV, topV, topV, topV, topV, topV, topV, topV, topV, topV, topV, topV, topV, topV, topV, topV], [some ⟨.view, .ints (xs)⟩, some ⟨.view, .ints (xs)⟩]⟩) := by kernel_rfl
set_option maxRecDepth 100000 in
theorem nl_eqN : loopsOf c_eqN = [] := by kernel_rfl
def inv_eqN (n : Nat) (xs : List Int) : Nat → Prop := fun i => i ≤ n
def me_eqN (n : Nat) (xs : List Int) : Nat → Nat := fun i => n - i
/-- A round of this loop. -/
def Round_eqN (n : Nat) (xs : List Int) : Prop := ∀ xx : Nat, inv_eqN n xs xx → (bodyL Try.prog E3 30 12 noL 1 c_eqN k_eqN 2 (s_eqN n xs xx)).ok (RoundEnd 2 (s_eqN n xs) (inv_eqN n xs) (me_eqN n xs) re_eqN (rs_eqN n xs) xx) (fun _ _ => False)
def e_eqN (s : St) (k : Ex → St → Tree) : Option Tree := match Nat.beq s.tmps.length 26, pickL s.tmps [0, 1, 5], s.mem with
  | true, [.slice (some ⟨0, 0, none⟩) n _, .slice (some ⟨1, 0, none⟩) m _, .int .i64 i], [some ⟨.view, .ints xs⟩, some ⟨.view, .ints ys⟩] => some (needs [i = 0, m = n, ys = xs, n ≤ xs.length, n ≤ 1000000000] (k (.exit 0) ⟨[topV, topV, topV, topV, topV, topV, topV, topV, topV, topV, topV, topV, topV, topV, topV, topV, topV, topV, topV, topV, topV, topV, topV, topV, topV, topV], [some ⟨.view, .ints xs⟩, some ⟨.view, .ints xs⟩]⟩))
  | _, _, _ => none
set_option maxRecDepth 100000 in
theorem round_eqN (n : Nat) (xs : List Int) (hx : n ≤ xs.length) (h : n ≤ 1000000000) : Round_eqN n xs := by
  intro i h1
  have h1 : i ≤ n := h1
  rw [tr_eqN]
  simp only [brT_ok, Tree.ok, decide_eq_true_eq, decide_eq_false_iff_not, Int.toNat_natCast, Nat.zero_add, Nat.mul_one, Bool.not_eq_true', Bool.not_eq_false', beq_iff_eq, beq_eq_false_iff_ne]
  refine ⟨fun hlt => ?_, fun hge => ?_⟩
  · rw [wsucc (n := n) (by omega) h]
    refine ⟨by omega, by omega, by omega, by omega, fun hc => absurd rfl hc, fun _ => ⟨i + 1, [], ?_, ?_, rfl, rfl, ?_⟩⟩
    · show i + 1 ≤ n; omega
    · show n - (i + 1) < n - i; omega
    · repeat' (first | exact True.intro | exact rfl | exact fun _ => rfl | refine And.intro ?_ ?_)
  · refine ⟨rfl, [], ?_⟩
    repeat' (first | exact True.intro | exact rfl | exact fun _ => rfl | refine And.intro ?_ ?_)
set_option maxRecDepth 100000 in
theorem lg_eqN : LoopE Try.prog e_eqN c_eqN := by
  intro s k t F H hlt ht
  unfold e_eqN at hlt
  split at hlt
  rotate_left
  · cases hlt
  rename_i hlen hpick hmem
  obtain ⟨tmps, mem⟩ := s
  simp only at hlen hpick hmem
  subst hmem
  obtain rfl := Option.some.inj hlt
  obtain ⟨⟨rfl, rfl, rfl, h1, h2, _⟩, ht2⟩ := needs_ok ht
  clear ht hlt
  refine ⟨_, _, ht2, loop_run mixed E3_ok (s_eqN _ _) (inv_eqN _ _) (me_eqN _ _) re_eqN (rs_eqN _ _) k_eqN (fun _ => rfl) (noLoops nl_eqN) (round_eqN _ _ h1 h2) (x := 0) (Nat.zero_le _) (π := []) rfl ?_⟩
  refine ⟨rfl, rfl, ?_, wvs_spread' [0, 1, 5] hlen rfl ?_⟩
  · repeat' (first | exact True.intro | exact rfl | exact wv_top _ _ | exact fun _ => rfl | assumption | exact Eq.symm (by assumption) | exact vI0 rfl | refine And.intro ?_ ?_)
  · rw [hpick]
    repeat' (first | exact True.intro | exact rfl | exact wv_top _ _ | exact fun _ => rfl | assumption | exact Eq.symm (by assumption) | exact vI0 rfl | refine And.intro ?_ ?_)
/-- Not k at j. -/
def neQ (xs : List Int) (k : Int) (j : Nat) : Bool := !(xs.getD j 0 == k)
noncomputable def c_isN : Code := ((loopsOf (codeOf Try.f29))[0]?).getD .skip
def k_isN : Ex → List Nat := keeps [0, 1, 5] [(0, [])] [4]
def s_isN (n : Nat) (xs : List Int) (q : Int) : Nat → St := fun i => ⟨[.slice (some ⟨0, 0, none⟩) n n, .int .i64 q, topV, topV, topV, .int .i64 i, topV, topV, topV, topV, topV, topV, topV, topV, topV, topV, topV, topV], [some ⟨.view, .ints xs⟩, none]⟩
def re_isN (n : Nat) (xs : List Int) (q : Int) : Nat → Ex := fun i => bif allQ (neQ xs q) i (n - i) then .exit 0 else .ret
def rs_isN (n : Nat) (xs : List Int) (q : Int) : Nat → St := fun i => bif allQ (neQ xs q) i (n - i) then ⟨[topV, topV, topV, topV, topV, topV, topV, topV, topV, topV, topV, topV, topV, topV, topV, topV, topV, topV], [some ⟨.view, .ints xs⟩, none]⟩ else ⟨[topV, topV, topV, topV, .bool true, topV, topV, topV, topV, topV, topV, topV, topV, topV, topV, topV, topV, topV], [some ⟨.view, .ints xs⟩, none]⟩
set_option maxRecDepth 100000 in
theorem tr_isN (n : Nat) (xs : List Int) (q : Int) (i : Nat) : bodyL Try.prog E3 30 12 noL 1 c_isN k_isN 2 (s_isN n xs q i) = brT (decide ((↑i : Int) < (↑n : Int))) (.need ((0 : Int) ≤ (↑i : Int) ∧ (↑i : Int) < (↑n : Int)) (.need ((0 : Nat) + (↑i : Int).toNat * (1 : Nat) < xs.length) (brT (xs.getD (0 + (↑i : Int).toNat * 1) 0 == q) (.leaf .ret ⟨[topV, topV, topV, topV, .bool (true), topV, topV, topV, topV, topV, topV, topV, topV, topV, topV, topV, topV, topV], [some ⟨.view, .ints (xs)⟩, none]⟩) (.leaf .normal ⟨[.slice (some ⟨0, 0, none⟩) (n) (n), .int .i64 (q), topV, topV, topV, .int .i64 (IntKind.i64.wrap ((↑i : Int) + 1)), topV, topV, topV, topV, topV, topV, topV, topV, topV, topV, topV, topV], [some ⟨.view, .ints (xs)⟩, none]⟩)))) (.leaf (.exit 0) ⟨[topV, topV, topV, topV, topV, topV, topV, topV, topV, topV, topV, topV, topV, topV, topV, topV, topV, topV], [some ⟨.view, .ints (xs)⟩, none]⟩) := by kernel_rfl
set_option maxRecDepth 100000 in
theorem nl_isN : loopsOf c_isN = [] := by kernel_rfl
def inv_isN (n : Nat) (xs : List Int) (q : Int) : Nat → Prop := fun i => i ≤ n
def me_isN (n : Nat) (xs : List Int) (q : Int) : Nat → Nat := fun i => n - i
/-- A round of this loop. -/
def Round_isN (n : Nat) (xs : List Int) (q : Int) : Prop := ∀ xx : Nat, inv_isN n xs q xx → (bodyL Try.prog E3 30 12 noL 1 c_isN k_isN 2 (s_isN n xs q xx)).ok (RoundEnd 2 (s_isN n xs q) (inv_isN n xs q) (me_isN n xs q) (re_isN n xs q) (rs_isN n xs q) xx) (fun _ _ => False)
def e_isN (s : St) (k : Ex → St → Tree) : Option Tree := match Nat.beq s.tmps.length 18, pickL s.tmps [0, 1, 5], s.mem with
  | true, [.slice (some ⟨0, 0, none⟩) n _, .int .i64 q, .int .i64 i], [some ⟨.view, .ints xs⟩, none] => some (needs [i = 0, n ≤ xs.length, n ≤ 1000000000] (brT (allQ (neQ xs q) 0 n) (k (.exit 0) ⟨[topV, topV, topV, topV, topV, topV, topV, topV, topV, topV, topV, topV, topV, topV, topV, topV, topV, topV], [some ⟨.view, .ints xs⟩, none]⟩) (k .ret ⟨[topV, topV, topV, topV, .bool true, topV, topV, topV, topV, topV, topV, topV, topV, topV, topV, topV, topV, topV], [some ⟨.view, .ints xs⟩, none]⟩)))
  | _, _, _ => none
set_option maxRecDepth 100000 in
theorem round_isN (n : Nat) (xs : List Int) (q : Int) (hx : n ≤ xs.length) (h : n ≤ 1000000000) : Round_isN n xs q := by
  intro i h1
  have h1 : i ≤ n := h1
  rw [tr_isN]
  simp only [brT_ok, Tree.ok, decide_eq_true_eq, decide_eq_false_iff_not, Int.toNat_natCast, Nat.zero_add, Nat.mul_one, Bool.not_eq_true', Bool.not_eq_false']
  refine ⟨fun hlt => ⟨by omega, by omega, fun hv => ?_, fun hv => ?_⟩, fun hge => ?_⟩
  · have e : allQ (neQ xs q) i (n - i) = false := by rw [allQ_step (by omega)]; unfold neQ; rw [hv]; rfl
    refine ⟨by simp only [re_isN, e, cond_false], [], ?_⟩
    simp only [rs_isN, e, cond_false]
    repeat' (first | exact True.intro | exact rfl | exact fun _ => rfl | refine And.intro ?_ ?_)
  · have e : allQ (neQ xs q) i (n - i) = allQ (neQ xs q) (i + 1) (n - (i + 1)) := by
      rw [allQ_step (by omega)]
      have : neQ xs q i = true := by unfold neQ; rw [hv]; rfl
      rw [this, Bool.true_and]
    rw [wsucc (n := n) (by omega) h]
    refine ⟨i + 1, [], ?_, ?_, by simp only [re_isN, e], by simp only [rs_isN, e], ?_⟩
    · show i + 1 ≤ n; omega
    · show n - (i + 1) < n - i; omega
    · repeat' (first | exact True.intro | exact rfl | exact fun _ => rfl | refine And.intro ?_ ?_)
  · have e : allQ (neQ xs q) i (n - i) = true := allQ_end (by omega)
    refine ⟨by simp only [re_isN, e, cond_true], [], ?_⟩
    simp only [rs_isN, e, cond_true]
    repeat' (first | exact True.intro | exact rfl | exact fun _ => rfl | refine And.intro ?_ ?_)
set_option maxRecDepth 100000 in
theorem lg_isN : LoopE Try.prog e_isN c_isN := by
  intro s k t F H hlt ht
  unfold e_isN at hlt
  split at hlt
  rotate_left
  · cases hlt
  rename_i hlen hpick hmem
  obtain ⟨tmps, mem⟩ := s
  simp only at hlen hpick hmem
  subst hmem
  obtain rfl := Option.some.inj hlt
  obtain ⟨⟨rfl, h1, h2, _⟩, ht2⟩ := needs_ok ht
  clear ht hlt
  refine ⟨_, _, pick2k ht2, loop_run mixed E3_ok (s_isN _ _ _) (inv_isN _ _ _) (me_isN _ _ _) (re_isN _ _ _) (rs_isN _ _ _) k_isN (fun _ => rfl) (noLoops nl_isN) (round_isN _ _ _ h1 h2) (x := 0) (Nat.zero_le _) (π := []) rfl ?_⟩
  refine ⟨rfl, rfl, ?_, wvs_spread' [0, 1, 5] hlen rfl ?_⟩
  · repeat' (first | exact True.intro | exact rfl | exact wv_top _ _ | exact fun _ => rfl | assumption | exact Eq.symm (by assumption) | exact vI0 rfl | refine And.intro ?_ ?_)
  · rw [hpick]
    repeat' (first | exact True.intro | exact rfl | exact wv_top _ _ | exact fun _ => rfl | assumption | exact Eq.symm (by assumption) | exact vI0 rfl | refine And.intro ?_ ?_)
theorem Lr_eqN {fn : Func} (hf : Try.prog.funcs[25]? = some fn) : LoopsGood Try.prog (lt1 e_eqN) 0 (codeOf fn) := by
  obtain rfl := fn_is Try.func25 hf
  exact lt1_good lg_eqN
theorem Lr_isN {fn : Func} (hf : Try.prog.funcs[29]? = some fn) : LoopsGood Try.prog (lt1 e_isN) 0 (codeOf fn) := by
  obtain rfl := fn_is Try.func29 hf
  exact lt1_good lg_isN
def LEq : FuncId → LT := fun f => match f with
  | 25 => lt1 e_eqN
  | 29 => lt1 e_isN
  | _ => noL
def EEq : Env := mkE T2 (fun _ _ => none) LEq
theorem EEq_ok : EnvOk Try.prog EEq := mkEOk T2_ok (fun _ _ _ _ _ h => (by cases h)) (by
  intro f fn hf
  unfold LEq
  split
  all_goals first | with_reducible exact Lr_eqN hf | with_reducible exact Lr_isN hf | exact noL_good)
set_option maxRecDepth 100000 in
theorem tr_eqNF (n m : Nat) (xs ys : List Int) : bodyV Try.prog EEq 30 12 25 [.row n (.ints xs), .row m (.ints ys)] = brT (!(↑n : Int) == (↑m : Int)) (.fin (.bool (false)) []) (.need ((0 : Int) = (0 : Int)) (.need (m = n) (.need (ys = xs) (.need (n ≤ xs.length) (.need (n ≤ (1000000000 : Nat)) (.fin (.bool (true)) [])))))) := by kernel_rfl
theorem res_eqN (n : Nat) (xs : List Int) (h : n ≤ xs.length) (hn : Lim n) : Res Try.prog 25 [.row n (.ints xs), .row n (.ints xs)] (.bool true) := by
  refine bodyV_res mixed EEq_ok (m := 30) (n := 12) rfl ?_
  rw [tr_eqNF]
  simp [brT_ok, Tree.ok]
  exact ⟨h, hn⟩
def pEqN : List DArg → Option (Value × List Prop)
  | [.row n (.ints xs), .row m (.ints ys)] => some (.bool true, [n = m, xs = ys, n ≤ xs.length, Lim n])
  | _ => none
theorem pEqN_ok {ds : List DArg} {v : Value} {C : List Prop} (h : pEqN ds = some (v, C)) (hC : AllP C) : Res Try.prog 25 ds v := by
  unfold pEqN at h
  split at h
  · obtain ⟨rfl, rfl⟩ : _ ∧ _ := by simpa using h
    obtain ⟨rfl, rfl, h1, h2, _⟩ := hC
    exact res_eqN _ _ h1 h2
  · cases h
end Go.Proofs.Ytolodncpegajkab
namespace Go.Proofs.Ytolodncpegajkab
set_option linter.all false
open Go.RowKit
theorem res_row2 {P : Program} {f : FuncId} {a : DArg} {l : Nat} {cs : Cs} {xs : List Int} {v : Value} (h : cs.list = xs.map (Value.int .i64)) (k : Res P f [a, .row l (.ints xs)] v) : Res P f [a, .row l cs] v :=
  ⟨k.1, k.2.1, k.2.2.1, fun d hd => by
    rcases List.mem_cons.1 hd with rfl | hd
    · exact k.2.2.2.1 _ (List.mem_cons_self ..)
    · obtain rfl : d = .row l cs := by simpa using hd
      exact atoms_ints h, fun w args ha => k.2.2.2.2 w args (row2_ints h ha)⟩
/-- equalInts against two literal ints. -/
def pEqL : List DArg → Option (Value × List Prop)
  | [.row n (.ints xs), .row m (.vals [.int .i64 a, .int .i64 b])] => some (.bool true, [n = m, xs = [a, b], n ≤ xs.length, Lim n])
  | ds => pEqN ds
theorem pEqL_ok {ds : List DArg} {v : Value} {C : List Prop} (h : pEqL ds = some (v, C)) (hC : AllP C) : Res Try.prog 25 ds v := by
  unfold pEqL at h
  split at h
  · rename_i n xs m a b
    obtain ⟨rfl, rfl⟩ : _ ∧ _ := by simpa using h
    obtain ⟨rfl, rfl, h3, h4, _⟩ := hC
    exact res_row2 (xs := [a, b]) rfl (pEqN_ok (ds := [.row n (.ints [a, b]), .row n (.ints [a, b])]) rfl ⟨rfl, rfl, h3, h4, trivial⟩)
  · exact pEqN_ok h hC
def TSy : Tab := fun f ds => match f with
  | 25 => pEqL ds
  | f => TCk f ds
theorem TSy_ok : TabOk Try.prog TSy := by
  intro f ds v C h hC
  unfold TSy at h
  (try split at h)
  all_goals first | with_reducible exact pEqL_ok h hC | exact TCk_ok _ _ _ _ h hC
end Go.Proofs.Ytolodncpegajkab
namespace Go.Proofs.Ytolodncpegajkab
set_option linter.all false
open Go.RowKit
/-- A value whose slices lie at two names. -/
def at2v (name nb : Nat) : Value → Value
  | .slice (some ⟨1, o, none⟩) l c => .slice (some ⟨nb, o, none⟩) l c
  | v => atName1 name v
def rv2 (s0 s1 : Option Nat) (u : Value) : Value → Prop
  | .slice (some ⟨1, o, none⟩) l c => rv1 s1 u (.slice (some ⟨0, o, none⟩) l c)
  | v => rv1 s0 u v
def rv2l (s0 s1 : Option Nat) : List Value → List Value → Prop
  | [], [] => True
  | u :: r, v :: r' => rv2 s0 s1 u v ∧ rv2l s0 s1 r r'
  | _, _ => False
def srcIs (s : Option Nat) (b : Blk) (mem : List (Option Blk)) : Prop := match s with
  | some n => (match mem.getD n none with
    | some b' => rb b' b
    | none => False)
  | none => True
/-- What a body hands back: a tuple with two rows. -/
def RowIs2 (vs : List Value) (b0 b1 : Blk) (u : Value) (mem : List (Option Blk)) : Prop :=
  ∃ s0 s1 us, u = .tuple ⟨us⟩ ∧ rv2l s0 s1 us vs ∧ srcIs s0 b0 mem ∧ srcIs s1 b1 mem ∧ (s0 = s1 → s0 = none)
abbrev placeOf (s : Option Nat) (ρ ρ' : Nat → Option Pl) (name : Nat) : Prop := match s with
  | some n => ρ' name = ρ n
  | none => ρ' name = some (0, 1, some 0)
theorem rv2_ok {s0 s1 : Option Nat} {ρ ρ' : Nat → Option Pl} {name nb : Nat} (h0 : placeOf s0 ρ ρ' name) (h1 : placeOf s1 ρ ρ' nb) {u v x : Value} (h : rv2 s0 s1 u v) (k : VR ρ u x) : VR ρ' (at2v name nb v) x := by
  unfold rv2 at h
  split at h
  · exact rv1_ok (name := nb) h1 h k
  · rename_i hne
    have e : at2v name nb v = atName1 name v := by
      unfold at2v
      split
      · exact absurd rfl (hne _ _ _)
      · rfl
    rw [e]
    exact rv1_ok h0 h k
theorem rv2l_ok {s0 s1 : Option Nat} {ρ ρ' : Nat → Option Pl} {name nb : Nat} (h0 : placeOf s0 ρ ρ' name) (h1 : placeOf s1 ρ ρ' nb) : ∀ {l l' : List Value}, rv2l s0 s1 l l' → l.length = l'.length ∧ ∀ (i : Nat) v x, (l'.map (at2v name nb))[i]? = some v → (∀ u, l[i]? = some u → VR ρ u x) → VR ρ' v x
  | [], [], _ => ⟨rfl, fun i v x h => by simp at h⟩
  | [], _ :: _, h => h.elim
  | _ :: _, [], h => h.elim
  | u :: r, v :: r', h => by
    obtain ⟨k1, k2⟩ := h
    obtain ⟨h3, h4⟩ := rv2l_ok h0 h1 k2
    refine ⟨by simp [h3], fun i y x hy hx => ?_⟩
    cases i with
    | zero =>
      obtain rfl : at2v name nb v = y := by simpa using hy
      exact rv2_ok h0 h1 k1 (hx u rfl)
    | succ i => exact h4 i y x (by simpa using hy) fun v hv => hx v (by simpa using hv)
/-- What a function that makes two rows answers. -/
def ResR2 (P : Program) (f : FuncId) (ds : List DArg) (vs : List Value) (b0 b1 : Blk) : Prop :=
  enters P f ∧ (isRow b0 = true ∧ isRow b1 = true) ∧ ∀ w args, DOks w ds args → Calls P f args w fun e w' => ∃ v' p0 p1, e = .returned v' ∧ Below w.heap.size w w' ∧ (¬ nilPl p0 → ¬ nilPl p1 → p0.1 ≠ p1.1) ∧
    (∀ ρ name nb, ρ name = some p0 → ρ nb = some p1 → VR ρ (.tuple ⟨vs.map (at2v name nb)⟩) v') ∧ (∀ ρ name, ρ name = some p0 → BlkOk ρ (fun k => k < w.heap.size) w' name b0) ∧ ∀ ρ name, ρ name = some p1 → BlkOk ρ (fun k => k < w.heap.size) w' name b1
theorem src_row {s : Option Nat} {b : Blk} {mem : List (Option Blk)} (hb : isRow b = true) (h : srcIs s b mem) {ρ0 ρ : Nat → Option Pl} {B : Nat → Prop} {w : World} (hm : MemOk ρ0 ρ B (fun k => mem.getD k none) w) :
    ∃ p, (∀ ρ2 name, ρ2 name = some p → placeOf s ρ ρ2 name ∧ BlkOk ρ2 B w name b) ∧ ∀ n, s = some n → ρ n = some p ∧ ∃ b', mem.getD n none = some b' ∧ b'.own = true := by
  obtain ⟨kd, cs⟩ := b
  cases kd with
  | row e sz =>
    cases s with
    | none => exact ⟨(0, 1, some 0), fun ρ2 name hp => ⟨hp, .inl ⟨_, hp, rfl, rfl⟩⟩, fun n hn => by cases hn⟩
    | some k =>
      unfold srcIs at h
      simp only at h
      split at h
      rotate_left
      · exact h.elim
      rename_i b' hb'
      obtain ⟨kd', cs'⟩ := b'
      cases kd' with
      | row e2 sz2 =>
        obtain ⟨rfl, rfl, hc⟩ := h
        obtain ⟨c1, c2⟩ := rc_list hc
        rcases hm.ok k _ hb' with ⟨p, h1, h2, h3⟩ | ⟨g, cap, h1, h2, arr, h3, h4, h5⟩
        · exact ⟨p, fun ρ2 name hp => ⟨hp.trans h1.symm, .inl ⟨p, hp, h2, h3⟩⟩, fun n hn => by
            obtain rfl : k = n := by simpa using hn
            exact ⟨h1, _, hb', rfl⟩⟩
        · refine ⟨_, fun ρ2 name hp => ⟨hp.trans h1.symm, .inr ⟨g, cap, hp, h2, arr, h3, h4, ?_⟩⟩, fun n hn => by
            obtain rfl : k = n := by simpa using hn
            exact ⟨h1, _, hb', rfl⟩⟩
          intro i x hx
          obtain ⟨x', k1, k2⟩ := h5 i x (by show cs'.list[i]? = some x; rw [c1]; exact hx)
          refine ⟨x', k1, ?_⟩
          have hat := plain_of_atom (c2 x (List.mem_of_getElem? hx))
          rw [k2.plain hat]
          exact .lit hat
      | _ => exact h.elim
  | _ => cases hb
theorem bodyX_resR2 {P : Program} (hm : P.follows .mixedOrders = true) {E : Env} (hE : EnvOk P E) {m n : Nat} {f : FuncId} {ds : List DArg} {vs : List Value} {b0 b1 : Blk} (hb0 : isRow b0 = true) (hb1 : isRow b1 = true)
    (h : (bodyX P E m n f ds).ok (fun _ _ => False) (fun u mem => RowIs2 vs b0 b1 u mem)) : ResR2 P f ds vs b0 b1 := by
  unfold bodyX at h
  split at h
  rotate_left
  · exact h.elim
  rename_i hg
  obtain ⟨u, mem', ⟨s0, s1, us, rfl, hrv, hs0, hs1, hne⟩, hent, hdet⟩ := bodyM_ok hE hm (runM_ok hm hE m n) m f _ _ _ _ _ h
  refine ⟨hent, ⟨hb0, hb1⟩, fun w args hargs => ?_⟩
  obtain ⟨ρ, ha, hmem⟩ := args_open hargs (fun k => k < w.heap.size)
  refine (hdet ⟨w, fun _ => none, fun k => k < w.heap.size, fun _ h => h, [], none⟩ ρ args w ha hmem (BelowK.refl _ _)).mono ?_
  rintro e' w' ⟨v', ρ', rfl, _, g2, g3, g4⟩
  obtain ⟨p0, k1, k2⟩ := src_row hb0 hs0 g4
  obtain ⟨p1, j1, j2⟩ := src_row hb1 hs1 g4
  refine ⟨v', p0, p1, rfl, g3.to, fun n0 n1 => ?_, fun ρ2 name nb h0 h1 => ?_, fun ρ2 name h0 => (k1 ρ2 name h0).2, fun ρ2 name h1 => (j1 ρ2 name h1).2⟩
  · rcases s0 with _ | a
    · have := (k1 (fun _ => some p0) 0 rfl).1
      have e : p0 = (0, 1, some 0) := by simpa [placeOf] using this
      exact absurd ⟨by rw [e], 0, by rw [e]⟩ n0
    · rcases s1 with _ | c
      · have := (j1 (fun _ => some p1) 0 rfl).1
        have e : p1 = (0, 1, some 0) := by simpa [placeOf] using this
        exact absurd ⟨by rw [e], 0, by rw [e]⟩ n1
      · obtain ⟨q1, b', q2, q3⟩ := k2 a rfl
        obtain ⟨r1, c', r2, r3⟩ := j2 c rfl
        exact g4.sep a c b' c' p0 p1 q2 q3 r2 (own_live r3) (fun e => by subst e; have := hne rfl; cases this) q1 r1 n0 n1
  · obtain ⟨a1, a2⟩ := k1 ρ2 name h0
    obtain ⟨c1, c2⟩ := j1 ρ2 nb h1
    obtain ⟨cs, rfl, z1, z2⟩ := g2.tuple_inv
    obtain ⟨h3, h4⟩ := rv2l_ok a1 c1 hrv
    exact .tuple (by simp at z1 ⊢; omega) fun i v y hv hy => h4 i v y (by simpa using hv) fun u hu => z2 i u y (by simpa using hu) hy
/-- What is told of a function that makes two rows. -/
abbrev TabR2 := List DArg → Option (List Value × Blk × Blk × List Prop)
def r2G (T : TabR2) (name : Nat) (args : List Value) : Rd Eff := (rdArgs args).bind fun ds => match T ds, name with
  | some (vs, b0, b1, C), nb + 1 => .blk nb fun b => match b with
    | none => .ret ⟨.tuple ⟨vs.map (at2v (nb + 1) nb)⟩, [(nb, b1), (nb + 1, b0)], C⟩
    | some _ => .fail
  | _, _ => .fail
def TabR2Ok (P : Program) (f : FuncId) (T : TabR2) : Prop := ∀ ds vs b0 b1 C, T ds = some (vs, b0, b1, C) → AllP C → ResR2 P f ds vs b0 b1
theorem blk_sub {ρ : Nat → Option Pl} {B B' : Nat → Prop} (hB : ∀ k, B k → B' k) {w : World} {n : Nat} {b : Blk} (hb : isRow b = true) (h : BlkOk ρ B' w n b) : BlkOk ρ B w n b := by
  obtain ⟨kd, cs⟩ := b
  cases kd with
  | row e sz =>
    rcases h with h | ⟨g, cap, h1, h2, rest⟩
    · exact .inl h
    · exact .inr ⟨g, cap, h1, fun h => h2 (hB _ h), rest⟩
  | _ => cases hb
theorem row_own {b : Blk} (h : isRow b = true) : b.own = true := by
  obtain ⟨kd, cs⟩ := b
  cases kd <;> first | rfl | cases h
theorem consR2_ok {P : Program} {J : TabJ} (hJ : GSound P J.g) {f : FuncId} {T : TabR2} (hent : enters P f) (hT : TabR2Ok P f T) : GSound P (consR f (r2G T) J).g := by
  intro h name args s eff hr hn
  simp only [consR] at hr
  split at hr
  rotate_left
  · exact hJ h name args s eff hr hn
  rename_i heq
  obtain rfl := Nat.eq_of_beq_eq_true heq
  refine ⟨hent, fun B ρ0 ρ w args' ha hm hB hcond => ?_⟩
  unfold r2G at hr
  obtain ⟨ds, hds, hr⟩ := bind_some hr
  split at hr
  rotate_left
  · simp [Rd.run] at hr
  rename_i vs b0 b1 C nb hx _
  simp only [Rd.run] at hr
  split at hr
  rotate_left
  · simp [Rd.run] at hr
  rename_i hn1
  obtain rfl : (⟨.tuple ⟨vs.map (at2v (nb + 1) nb)⟩, [(nb, b1), (nb + 1, b0)], C⟩ : Eff) = eff := by simpa [Rd.run] using hr
  obtain ⟨_, ⟨r0, r1⟩, h4⟩ := hT ds vs b0 b1 C hx hcond
  refine (h4 w args' ((rdArgs_ok hds).2 ha hm)).mono ?_
  rintro e w' ⟨v', p0, p1, rfl, hb, hsep, hv, hk0, hk1⟩
  have hf1 : addPl ρ (nb + 1) p0 nb = none := by
    rw [addPl_ne (by omega)]
    exact hm.fresh _ hn1
  have g1 := hv (addPl (addPl ρ (nb + 1) p0) nb p1) (nb + 1) nb (by rw [addPl_ne (by omega), addPl_same]) (addPl_same _ _ _)
  have g3 := hk1 (addPl (addPl ρ (nb + 1) p0) nb p1) nb (addPl_same _ _ _)
  have e1 : Ext (addPl ρ (nb + 1) p0) (addPl (addPl ρ (nb + 1) p0) nb p1) := addPl_ext hf1
  have hb0 := hk0 (addPl ρ (nb + 1) p0) (nb + 1) (addPl_same _ _ _)
  have hm1 := hm.newRow hB hb hn (row_own r0) hb0
  refine ⟨v', addPl (addPl ρ (nb + 1) p0) nb p1, rfl, (addPl_ext (hm.fresh (nb + 1) hn)).trans e1, g1, BelowK.of hb hB, ?_⟩
  rw [upd_two]
  refine hm1.addRow2 (by simp [setB, hn1]) (fun hnp k c q hk hl hq hnq => ?_) (blk_sub hB r1 g3)
  by_cases hkn : k = nb + 1
  · subst hkn
    rw [addPl_same] at hq
    obtain rfl : p0 = q := by simpa using hq
    exact hsep hnq hnp
  · rw [addPl_ne hkn] at hq
    have hk' : s.blk k = some c := by simpa [setB, hkn] using hk
    have h2 := ((hm.ok k c hk').real hl hq hnq).1
    have h3 : ¬ p1.1 < w.heap.size := (g3.real (own_live (row_own r1)) (addPl_same _ _ _) hnp).2 (row_own r1)
    omega
/-- A body run with a name laid aside, for the second row of a callee. -/
def bodyP (P : Program) (E : Env) (m n : Nat) (f : FuncId) (ds : List DArg) : Tree :=
  match ds.all DArg.goodB with
  | true => bodyM P E (runM P E m n) m f (argVals 0 ds) (ds.map argBlk ++ [none]) fun v _ => .fin v []
  | false => .bad
theorem pad_get (l : List (Option Blk)) (n : Nat) : (l ++ [none]).getD n none = l.getD n none := by
  simp only [List.getD_eq_getElem?_getD]
  rcases Nat.lt_or_ge n l.length with h | h
  · rw [List.getElem?_append_left h]
  · rw [List.getElem?_append_right h, List.getElem?_eq_none (by omega : l.length ≤ n)]
    rcases hk : n - l.length with _ | k <;> simp
theorem bodyP_res {P : Program} (hm : P.follows .mixedOrders = true) {E : Env} (hE : EnvOk P E) {m n : Nat} {f : FuncId} {ds : List DArg} {v : Value} (hv : plainV v = true)
    (h : (bodyP P E m n f ds).ok (fun _ _ => False) (fun u _ => u = v)) : Res P f ds v := by
  unfold bodyP at h
  split at h
  rotate_left
  · exact h.elim
  rename_i hg
  obtain ⟨u, mem', hk, hent, hdet⟩ := bodyM_ok hE hm (runM_ok hm hE m n) m f _ _ _ _ _ h
  obtain rfl : u = v := hk
  have hin : P.inits.idxOf? f = none := by
    unfold bodyM at h
    split at h
    rotate_left
    · exact h.elim
    rename_i fn hf hen
    exact (entersB_spec hf hen).2.1
  refine ⟨hent, hin, hv, fun d hd => goodB_good (List.all_eq_true.1 hg d hd), fun w args hargs => ?_⟩
  obtain ⟨ρ, ha, hmem⟩ := args_open hargs (fun k => k < w.heap.size)
  have hmem : MemOk (fun _ => none) ρ (fun k => k < w.heap.size) (fun n => (ds.map argBlk ++ [none]).getD n none) w := by
    have e : (fun n => (ds.map argBlk ++ [none]).getD n none) = fun n => (ds.map argBlk).getD n none := funext fun n => pad_get _ n
    rw [e]
    exact hmem
  refine (hdet ⟨w, fun _ => none, fun k => k < w.heap.size, fun _ h => h, [], none⟩ ρ args w ha hmem (BelowK.refl _ _)).mono ?_
  rintro e w' ⟨v', ρ', rfl, _, g2, g3, _⟩
  rw [g2.plain hv]
  exact ⟨rfl, g3.to⟩
end Go.Proofs.Ytolodncpegajkab
namespace Go.Proofs.Ytolodncpegajkab
set_option linter.all false
open Go.RowKit
def dcS : List Int := [0, 1, 2, 4, 9, 30, -1]
/-- What the model keeps of a drawn path. -/
def dcV (bs : List Int) (l : Nat) : List Int := skV (ptsA (apthL bs l 0).length (List.drop 0 (flat (apthL bs l 0)))) (oneI bs l (apthE bs l 0) 7 dcS)
def dcW (bs : List Int) (l : Nat) : List Int := [] ++ List.take ((dcV bs l).length * 1) (List.drop 0 (dcV bs l))
def dcK (bs : List Int) (l : Nat) : Int := IntKind.i64.wrap (1 + pickI bs l (apthE bs l 0 + 1 + 1) (IntKind.i64.wrap (((0 + (dcV bs l).length : Nat) : Int) - 2)))
def EDc : Env := ⟨TSy, RSy, fun _ => noL, JPt, fun _ => noR⟩
theorem EDc_ok : EnvOk Try.prog EDc := ⟨TSy_ok, RSy_ok, fun _ _ _ => noL_good, JPt_ok, fun _ _ _ => noR_good⟩
/-- What runs behind the reader, which keeps so many bytes. -/
def dcT (bs : List Int) (n : Nat) : Tree := (.need (rdC bs n 0) (.need (0 ≤ (700000 : Int)) (.need (rdC bs n (apthE bs n 0)) (.need ((1 : Nat) ≤ (7 : Nat) ∧ (7 : Nat) ≤ (7 : Nat) ∧ (7 : Nat) = (7 : Nat)) (.need ((apthL bs n 0).length * (2 : Nat) ≤ (List.drop 0 (flat (apthL bs n 0))).length) (.need ((apthL bs n 0).length ≤ (1000000000 : Nat)) (.need ((0 + (dcV bs n).length) * (8 : Nat) ≤ (140737488355328 : Nat) ∧ 0 + (dcV bs n).length ≤ (1000000 : Nat)) (.need (0 + (dcV bs n).length * (1 : Nat) ≤ (dcV bs n).length) (brT (decide (2 < (↑(0 + (dcV bs n).length) : Int))) (.need (rdC bs n (apthE bs n 0 + 1)) (brT (pickI bs n (apthE bs n 0 + 1) 3 == 0) (.need (rdC bs n (apthE bs n 0 + 1 + 1)) (.need ((0 : Int) ≤ 0 ∧ 0 ≤ dcK bs n ∧ dcK bs n ≤ (↑(0 + (dcV bs n).length) : Int)) (.need ((0 + ((dcK bs n).toNat - 0)) * (8 : Nat) ≤ (140737488355328 : Nat) ∧ 0 + ((dcK bs n).toNat - 0) ≤ (1000000 : Nat)) (.need (0 + ((dcK bs n).toNat - 0) * (1 : Nat) ≤ ([] ++ List.take ((dcV bs n).length * (1 : Nat)) (List.drop 0 (dcV bs n))).length) (.need (0 ≤ (IntKind.i64.wrap (dcK bs n + 1)) ∧ (IntKind.i64.wrap (dcK bs n + 1)) ≤ (↑(0 + (dcV bs n).length) : Int) ∧ (↑(0 + (dcV bs n).length) : Int) ≤ (↑(0 + (dcV bs n).length) : Int)) (.need ((0 + ((dcK bs n).toNat - 0) + (((↑(0 + (dcV bs n).length) : Int)).toNat - ((IntKind.i64.wrap (dcK bs n + 1))).toNat)) * (8 : Nat) ≤ (140737488355328 : Nat) ∧ 0 + ((dcK bs n).toNat - 0) + (((↑(0 + (dcV bs n).length) : Int)).toNat - ((IntKind.i64.wrap (dcK bs n + 1))).toNat) ≤ (1000000 : Nat)) (.need (0 + ((IntKind.i64.wrap (dcK bs n + 1))).toNat * (1 : Nat) + (((↑(0 + (dcV bs n).length) : Int)).toNat - ((IntKind.i64.wrap (dcK bs n + 1))).toNat) * (1 : Nat) ≤ ([] ++ List.take ((dcV bs n).length * (1 : Nat)) (List.drop 0 (dcV bs n))).length) (.need (0 + (0 + ((dcK bs n).toNat - 0)) * (1 : Nat) ≤ ([] ++ List.take (((dcK bs n).toNat - 0) * (1 : Nat)) (List.drop 0 ([] ++ List.take ((dcV bs n).length * (1 : Nat)) (List.drop 0 (dcV bs n))))).length) (brT (decide (0 < (↑(0 + ((dcK bs n).toNat - 0) + (((↑(0 + (dcV bs n).length) : Int)).toNat - ((IntKind.i64.wrap (dcK bs n + 1))).toNat)) : Int))) (.need (rdC bs n (apthE bs n 0 + 1 + 1 + 1)) (brT (pickI bs n (apthE bs n 0 + 1 + 1 + 1) 10 == 0) (.need (rdC bs n (apthE bs n 0 + 1 + 1 + 1 + 1)) (.need (0 ≤ IntKind.i64.wrap ((↑(0 + ((dcK bs n).toNat - 0) + (((↑(0 + (dcV bs n).length) : Int)).toNat - ((IntKind.i64.wrap (dcK bs n + 1))).toNat)) : Int) - 1) ∧ IntKind.i64.wrap ((↑(0 + ((dcK bs n).toNat - 0) + (((↑(0 + (dcV bs n).length) : Int)).toNat - ((IntKind.i64.wrap (dcK bs n + 1))).toNat)) : Int) - 1) < (↑(0 + ((dcK bs n).toNat - 0) + (((↑(0 + (dcV bs n).length) : Int)).toNat - ((IntKind.i64.wrap (dcK bs n + 1))).toNat)) : Int)) (.need (0 + (IntKind.i64.wrap ((↑(0 + ((dcK bs n).toNat - 0) + (((↑(0 + (dcV bs n).length) : Int)).toNat - ((IntKind.i64.wrap (dcK bs n + 1))).toNat)) : Int) - 1)).toNat * (1 : Nat) + (1 : Nat) ≤ (List.take ((0 + ((dcK bs n).toNat - 0)) * (1 : Nat)) (List.drop 0 ([] ++ List.take (((dcK bs n).toNat - 0) * (1 : Nat)) (List.drop 0 ([] ++ List.take ((dcV bs n).length * (1 : Nat)) (List.drop 0 (dcV bs n)))))) ++ List.take ((((↑(0 + (dcV bs n).length) : Int)).toNat - ((IntKind.i64.wrap (dcK bs n + 1))).toNat) * (1 : Nat)) (List.drop (0 + ((IntKind.i64.wrap (dcK bs n + 1))).toNat * (1 : Nat)) ([] ++ List.take ((dcV bs n).length * (1 : Nat)) (List.drop 0 (dcV bs n))))).length) (.fin (.tuple #[.slice (some ⟨2, 0, none⟩) ((apthL bs n 0).length) ((apthL bs n 0).length), .int .i64 (oneI bs n (apthE bs n 0) 7 dcS), .slice (some ⟨9, 0, none⟩) (0 + ((dcK bs n).toNat - 0) + (((↑(0 + (dcV bs n).length) : Int)).toNat - ((IntKind.i64.wrap (dcK bs n + 1))).toNat)) (0 + ((dcK bs n).toNat - 0) + (((↑(0 + (dcV bs n).length) : Int)).toNat - ((IntKind.i64.wrap (dcK bs n + 1))).toNat))]) [some ⟨.view, .bytes (bs)⟩, some ⟨.box, .vals [.slice (some ⟨0, 0, none⟩) (n) (n), .int .i64 (apthE bs n 0 + 1 + 1 + 1 + 1 + 1)]⟩, some ⟨.row 44 2, .ints (flat (apthL bs n 0))⟩, some ⟨.row 3 1, .vals [.int .i64 (0), .int .i64 (1), .int .i64 (2), .int .i64 (4), .int .i64 (9), .int .i64 (30), .int .i64 (-1)]⟩, some deadB, some ⟨.row 3 1, .ints (dcW bs n)⟩, some ⟨.row 3 1, .ints (dcV bs n)⟩, some deadB, some deadB, some ⟨.row 3 1, .ints (setInts (List.take ((0 + ((dcK bs n).toNat - 0)) * 1) (List.drop 0 ([] ++ List.take (((dcK bs n).toNat - 0) * 1) (List.drop 0 (dcW bs n)))) ++ List.take ((((↑(0 + (dcV bs n).length) : Int)).toNat - ((IntKind.i64.wrap (dcK bs n + 1))).toNat) * 1) (List.drop (0 + ((IntKind.i64.wrap (dcK bs n + 1))).toNat * 1) (dcW bs n))) (0 + (IntKind.i64.wrap ((↑(0 + ((dcK bs n).toNat - 0) + (((↑(0 + (dcV bs n).length) : Int)).toNat - ((IntKind.i64.wrap (dcK bs n + 1))).toNat)) : Int) - 1)).toNat * 1) [pickI bs n (apthE bs n 0 + 1 + 1 + 1 + 1) 12])⟩])))) (.fin (.tuple #[.slice (some ⟨2, 0, none⟩) ((apthL bs n 0).length) ((apthL bs n 0).length), .int .i64 (oneI bs n (apthE bs n 0) 7 dcS), .slice (some ⟨9, 0, none⟩) (0 + ((dcK bs n).toNat - 0) + (((↑(0 + (dcV bs n).length) : Int)).toNat - ((IntKind.i64.wrap (dcK bs n + 1))).toNat)) (0 + ((dcK bs n).toNat - 0) + (((↑(0 + (dcV bs n).length) : Int)).toNat - ((IntKind.i64.wrap (dcK bs n + 1))).toNat))]) [some ⟨.view, .bytes (bs)⟩, some ⟨.box, .vals [.slice (some ⟨0, 0, none⟩) (n) (n), .int .i64 (apthE bs n 0 + 1 + 1 + 1 + 1)]⟩, some ⟨.row 44 2, .ints (flat (apthL bs n 0))⟩, some ⟨.row 3 1, .vals [.int .i64 (0), .int .i64 (1), .int .i64 (2), .int .i64 (4), .int .i64 (9), .int .i64 (30), .int .i64 (-1)]⟩, some deadB, some ⟨.row 3 1, .ints (dcW bs n)⟩, some ⟨.row 3 1, .ints (dcV bs n)⟩, some deadB, some deadB, some ⟨.row 3 1, .ints (List.take ((0 + ((dcK bs n).toNat - 0)) * 1) (List.drop 0 ([] ++ List.take (((dcK bs n).toNat - 0) * 1) (List.drop 0 (dcW bs n)))) ++ List.take ((((↑(0 + (dcV bs n).length) : Int)).toNat - ((IntKind.i64.wrap (dcK bs n + 1))).toNat) * 1) (List.drop (0 + ((IntKind.i64.wrap (dcK bs n + 1))).toNat * 1) (dcW bs n)))⟩]))) (.fin (.tuple #[.slice (some ⟨2, 0, none⟩) ((apthL bs n 0).length) ((apthL bs n 0).length), .int .i64 (oneI bs n (apthE bs n 0) 7 dcS), .slice (some ⟨9, 0, none⟩) (0 + ((dcK bs n).toNat - 0) + (((↑(0 + (dcV bs n).length) : Int)).toNat - ((IntKind.i64.wrap (dcK bs n + 1))).toNat)) (0 + ((dcK bs n).toNat - 0) + (((↑(0 + (dcV bs n).length) : Int)).toNat - ((IntKind.i64.wrap (dcK bs n + 1))).toNat))]) [some ⟨.view, .bytes (bs)⟩, some ⟨.box, .vals [.slice (some ⟨0, 0, none⟩) (n) (n), .int .i64 (apthE bs n 0 + 1 + 1 + 1)]⟩, some ⟨.row 44 2, .ints (flat (apthL bs n 0))⟩, some ⟨.row 3 1, .vals [.int .i64 (0), .int .i64 (1), .int .i64 (2), .int .i64 (4), .int .i64 (9), .int .i64 (30), .int .i64 (-1)]⟩, some deadB, some ⟨.row 3 1, .ints (dcW bs n)⟩, some ⟨.row 3 1, .ints (dcV bs n)⟩, some deadB, some deadB, some ⟨.row 3 1, .ints (List.take ((0 + ((dcK bs n).toNat - 0)) * 1) (List.drop 0 ([] ++ List.take (((dcK bs n).toNat - 0) * 1) (List.drop 0 (dcW bs n)))) ++ List.take ((((↑(0 + (dcV bs n).length) : Int)).toNat - ((IntKind.i64.wrap (dcK bs n + 1))).toNat) * 1) (List.drop (0 + ((IntKind.i64.wrap (dcK bs n + 1))).toNat * 1) (dcW bs n)))⟩])))))))))) (brT (decide (0 < (↑(0 + (dcV bs n).length) : Int))) (.need (rdC bs n (apthE bs n 0 + 1 + 1)) (brT (pickI bs n (apthE bs n 0 + 1 + 1) 10 == 0) (.need (rdC bs n (apthE bs n 0 + 1 + 1 + 1)) (.need (0 ≤ IntKind.i64.wrap ((↑(0 + (dcV bs n).length) : Int) - 1) ∧ IntKind.i64.wrap ((↑(0 + (dcV bs n).length) : Int) - 1) < (↑(0 + (dcV bs n).length) : Int)) (.need (0 + (IntKind.i64.wrap ((↑(0 + (dcV bs n).length) : Int) - 1)).toNat * (1 : Nat) + (1 : Nat) ≤ ([] ++ List.take ((dcV bs n).length * (1 : Nat)) (List.drop 0 (dcV bs n))).length) (.fin (.tuple #[.slice (some ⟨2, 0, none⟩) ((apthL bs n 0).length) ((apthL bs n 0).length), .int .i64 (oneI bs n (apthE bs n 0) 7 dcS), .slice (some ⟨5, 0, none⟩) (0 + (dcV bs n).length) (0 + (dcV bs n).length)]) [some ⟨.view, .bytes (bs)⟩, some ⟨.box, .vals [.slice (some ⟨0, 0, none⟩) (n) (n), .int .i64 (apthE bs n 0 + 1 + 1 + 1 + 1)]⟩, some ⟨.row 44 2, .ints (flat (apthL bs n 0))⟩, some ⟨.row 3 1, .vals [.int .i64 (0), .int .i64 (1), .int .i64 (2), .int .i64 (4), .int .i64 (9), .int .i64 (30), .int .i64 (-1)]⟩, some deadB, some ⟨.row 3 1, .ints (setInts (dcW bs n) (0 + (IntKind.i64.wrap ((↑(0 + (dcV bs n).length) : Int) - 1)).toNat * 1) [pickI bs n (apthE bs n 0 + 1 + 1 + 1) 12])⟩, some ⟨.row 3 1, .ints (dcV bs n)⟩])))) (.fin (.tuple #[.slice (some ⟨2, 0, none⟩) ((apthL bs n 0).length) ((apthL bs n 0).length), .int .i64 (oneI bs n (apthE bs n 0) 7 dcS), .slice (some ⟨5, 0, none⟩) (0 + (dcV bs n).length) (0 + (dcV bs n).length)]) [some ⟨.view, .bytes (bs)⟩, some ⟨.box, .vals [.slice (some ⟨0, 0, none⟩) (n) (n), .int .i64 (apthE bs n 0 + 1 + 1 + 1)]⟩, some ⟨.row 44 2, .ints (flat (apthL bs n 0))⟩, some ⟨.row 3 1, .vals [.int .i64 (0), .int .i64 (1), .int .i64 (2), .int .i64 (4), .int .i64 (9), .int .i64 (30), .int .i64 (-1)]⟩, some deadB, some ⟨.row 3 1, .ints (dcW bs n)⟩, some ⟨.row 3 1, .ints (dcV bs n)⟩]))) (.fin (.tuple #[.slice (some ⟨2, 0, none⟩) ((apthL bs n 0).length) ((apthL bs n 0).length), .int .i64 (oneI bs n (apthE bs n 0) 7 dcS), .slice (some ⟨5, 0, none⟩) (0 + (dcV bs n).length) (0 + (dcV bs n).length)]) [some ⟨.view, .bytes (bs)⟩, some ⟨.box, .vals [.slice (some ⟨0, 0, none⟩) (n) (n), .int .i64 (apthE bs n 0 + 1 + 1)]⟩, some ⟨.row 44 2, .ints (flat (apthL bs n 0))⟩, some ⟨.row 3 1, .vals [.int .i64 (0), .int .i64 (1), .int .i64 (2), .int .i64 (4), .int .i64 (9), .int .i64 (30), .int .i64 (-1)]⟩, some deadB, some ⟨.row 3 1, .ints (dcW bs n)⟩, some ⟨.row 3 1, .ints (dcV bs n)⟩])))) (brT (decide (0 < (↑(0 + (dcV bs n).length) : Int))) (.need (rdC bs n (apthE bs n 0 + 1)) (brT (pickI bs n (apthE bs n 0 + 1) 10 == 0) (.need (rdC bs n (apthE bs n 0 + 1 + 1)) (.need (0 ≤ IntKind.i64.wrap ((↑(0 + (dcV bs n).length) : Int) - 1) ∧ IntKind.i64.wrap ((↑(0 + (dcV bs n).length) : Int) - 1) < (↑(0 + (dcV bs n).length) : Int)) (.need (0 + (IntKind.i64.wrap ((↑(0 + (dcV bs n).length) : Int) - 1)).toNat * (1 : Nat) + (1 : Nat) ≤ ([] ++ List.take ((dcV bs n).length * (1 : Nat)) (List.drop 0 (dcV bs n))).length) (.fin (.tuple #[.slice (some ⟨2, 0, none⟩) ((apthL bs n 0).length) ((apthL bs n 0).length), .int .i64 (oneI bs n (apthE bs n 0) 7 dcS), .slice (some ⟨5, 0, none⟩) (0 + (dcV bs n).length) (0 + (dcV bs n).length)]) [some ⟨.view, .bytes (bs)⟩, some ⟨.box, .vals [.slice (some ⟨0, 0, none⟩) (n) (n), .int .i64 (apthE bs n 0 + 1 + 1 + 1)]⟩, some ⟨.row 44 2, .ints (flat (apthL bs n 0))⟩, some ⟨.row 3 1, .vals [.int .i64 (0), .int .i64 (1), .int .i64 (2), .int .i64 (4), .int .i64 (9), .int .i64 (30), .int .i64 (-1)]⟩, some deadB, some ⟨.row 3 1, .ints (setInts (dcW bs n) (0 + (IntKind.i64.wrap ((↑(0 + (dcV bs n).length) : Int) - 1)).toNat * 1) [pickI bs n (apthE bs n 0 + 1 + 1) 12])⟩, some ⟨.row 3 1, .ints (dcV bs n)⟩])))) (.fin (.tuple #[.slice (some ⟨2, 0, none⟩) ((apthL bs n 0).length) ((apthL bs n 0).length), .int .i64 (oneI bs n (apthE bs n 0) 7 dcS), .slice (some ⟨5, 0, none⟩) (0 + (dcV bs n).length) (0 + (dcV bs n).length)]) [some ⟨.view, .bytes (bs)⟩, some ⟨.box, .vals [.slice (some ⟨0, 0, none⟩) (n) (n), .int .i64 (apthE bs n 0 + 1 + 1)]⟩, some ⟨.row 44 2, .ints (flat (apthL bs n 0))⟩, some ⟨.row 3 1, .vals [.int .i64 (0), .int .i64 (1), .int .i64 (2), .int .i64 (4), .int .i64 (9), .int .i64 (30), .int .i64 (-1)]⟩, some deadB, some ⟨.row 3 1, .ints (dcW bs n)⟩, some ⟨.row 3 1, .ints (dcV bs n)⟩]))) (.fin (.tuple #[.slice (some ⟨2, 0, none⟩) ((apthL bs n 0).length) ((apthL bs n 0).length), .int .i64 (oneI bs n (apthE bs n 0) 7 dcS), .slice (some ⟨5, 0, none⟩) (0 + (dcV bs n).length) (0 + (dcV bs n).length)]) [some ⟨.view, .bytes (bs)⟩, some ⟨.box, .vals [.slice (some ⟨0, 0, none⟩) (n) (n), .int .i64 (apthE bs n 0 + 1)]⟩, some ⟨.row 44 2, .ints (flat (apthL bs n 0))⟩, some ⟨.row 3 1, .vals [.int .i64 (0), .int .i64 (1), .int .i64 (2), .int .i64 (4), .int .i64 (9), .int .i64 (30), .int .i64 (-1)]⟩, some deadB, some ⟨.row 3 1, .ints (dcW bs n)⟩, some ⟨.row 3 1, .ints (dcV bs n)⟩])))))))))))
set_option maxRecDepth 100000 in
theorem tr_dCs (bs : List Int) (n : Nat) : bodyX Try.prog EDc 30 12 31 [.row n (.bytes bs)] = brT (decide (2000 < (↑n : Int))) (.need ((0 : Int) ≤ 0 ∧ 0 ≤ (2000 : Int) ∧ (2000 : Int) ≤ (↑n : Int)) (dcT bs 2000)) (dcT bs n) := by kernel_rfl
theorem dcW_is (bs : List Int) (l : Nat) : dcW bs l = dcV bs l := by
  unfold dcW
  simp
theorem dc_fin {bs : List Int} {l : Nat} (h : rdK bs l 0) (hE : 0 ≤ apthE bs l 0 ∧ apthE bs l 0 ≤ 60) (h9 : (apthL bs l 0).length ≤ 9) : ∃ (most : Int) (m : Nat) (ks : List Int), (m ≤ ks.length ∧ m ≤ 1000) ∧ (dcT bs l).ok (fun _ _ => False) (fun u mem => RowIs2 [.slice (some ⟨0, 0, none⟩) (apthL bs l 0).length (apthL bs l 0).length, .int .i64 most, .slice (some ⟨1, 0, none⟩) m m] ⟨.row 44 2, .ints (flat (apthL bs l 0))⟩ ⟨.row 3 1, .ints ks⟩ u mem) := by
  have r1 : rdC bs l 0 := h.1
  have rE : ∀ k : Int, 0 ≤ k → k ≤ 10 → rdC bs l (apthE bs l 0 + k) := fun k h1 h2 => h.at (by omega) (by omega)
  have vl := skV_len (ptsA (apthL bs l 0).length (List.drop 0 (flat (apthL bs l 0)))) (oneI bs l (apthE bs l 0) 7 dcS)
  change (dcV bs l).length ≤ 20 at vl
  have fl := flat_length (apthL bs l 0)
  have r2 : rdC bs l (apthE bs l 0) := by have := rE 0 (by omega) (by omega); rwa [Int.add_zero] at this
  have r3 : rdC bs l (apthE bs l 0 + 1) := rE 1 (by omega) (by omega)
  have r4 : rdC bs l (apthE bs l 0 + 1 + 1) := by have := rE 2 (by omega) (by omega); rwa [show apthE bs l 0 + 2 = apthE bs l 0 + 1 + 1 by omega] at this
  have r5 : rdC bs l (apthE bs l 0 + 1 + 1 + 1) := by have := rE 3 (by omega) (by omega); rwa [show apthE bs l 0 + 3 = apthE bs l 0 + 1 + 1 + 1 by omega] at this
  have r6 : rdC bs l (apthE bs l 0 + 1 + 1 + 1 + 1) := by have := rE 4 (by omega) (by omega); rwa [show apthE bs l 0 + 4 = apthE bs l 0 + 1 + 1 + 1 + 1 by omega] at this
  have hK : 2 < (dcV bs l).length → 1 ≤ dcK bs l ∧ dcK bs l ≤ (dcV bs l).length - 2 := fun g => by
    unfold dcK
    have w : IntKind.i64.wrap (((0 + (dcV bs l).length : Nat) : Int) - 2) = (dcV bs l).length - 2 := by rw [wr (by omega)]; omega
    rw [w]
    have b := pickI_bd (k := ((dcV bs l).length : Int) - 2) r4 (by omega)
    rw [wr (by omega)]
    omega
  unfold dcT
  rw [dcW_is]
  generalize dcK bs l = K at *
  generalize dcV bs l = V at *
  simp only [List.nil_append, Nat.mul_one, Nat.zero_add, Nat.sub_zero, List.drop_zero, List.take_length, Int.toNat_natCast, Nat.add_zero, Nat.zero_mul]
  rcases Nat.lt_or_ge 2 V.length with g | g
  · obtain ⟨k1, k2⟩ := hK g
    obtain ⟨K, rfl⟩ := Int.eq_ofNat_of_zero_le (show 0 ≤ K by omega)
    have w1 : IntKind.i64.wrap ((K : Int) + 1) = ((K + 1 : Nat) : Int) := by rw [wr (by omega)]; omega
    have c1 : decide (2 < ((V.length : Nat) : Int)) = true := decide_eq_true (by omega)
    simp only [c1, brT_t, w1, Int.toNat_natCast]
    rcases pickI bs l (apthE bs l 0 + 1) 3 == 0 with _ | _
    · have c2 : decide (0 < ((V.length : Nat) : Int)) = true := decide_eq_true (by omega)
      have w2 : IntKind.i64.wrap ((V.length : Int) - 1) = ((V.length - 1 : Nat) : Int) := by rw [wr (by omega)]; omega
      simp only [brT_f, c2, brT_t, w2, Int.toNat_natCast]
      rcases pickI bs l (apthE bs l 0 + 1 + 1) 10 == 0 with _ | _
      · refine ⟨oneI bs l (apthE bs l 0) 7 dcS, V.length, V, ⟨Nat.le_refl _, by omega⟩, ?_⟩
        simp only [brT_f]
        repeat' (first | exact ⟨some 2, some 5, _, rfl, ⟨⟨rfl, rfl, rfl⟩, ⟨rfl, rfl⟩, ⟨rfl, rfl, rfl⟩, trivial⟩, ⟨rfl, rfl, rfl⟩, ⟨rfl, rfl, rfl⟩, by intro h; cases h⟩ | exact True.intro | assumption | omega | refine And.intro ?_ ?_)
      · refine ⟨oneI bs l (apthE bs l 0) 7 dcS, V.length, setInts V (V.length - 1) [pickI bs l (apthE bs l 0 + 1 + 1 + 1) 12], ⟨by rw [setInts_one _ _ (by omega)]; simp, by omega⟩, ?_⟩
        simp only [brT_t]
        repeat' (first | exact ⟨some 2, some 5, _, rfl, ⟨⟨rfl, rfl, rfl⟩, ⟨rfl, rfl⟩, ⟨rfl, rfl, rfl⟩, trivial⟩, ⟨rfl, rfl, rfl⟩, ⟨rfl, rfl, rfl⟩, by intro h; cases h⟩ | exact True.intro | assumption | omega | refine And.intro ?_ ?_)
    · have l1 : (List.take K (List.take K V) ++ List.take (V.length - (K + 1)) (List.drop (K + 1) V)).length = K + (V.length - (K + 1)) := by
        simp only [List.length_append, List.length_take, List.length_drop]
        omega
      have l2 : (List.take K V).length = K := by rw [List.length_take]; omega
      have c2 : decide (0 < ((K + (V.length - (K + 1)) : Nat) : Int)) = true := decide_eq_true (by omega)
      have w2 : IntKind.i64.wrap (((K + (V.length - (K + 1)) : Nat) : Int) - 1) = ((K + (V.length - (K + 1)) - 1 : Nat) : Int) := by rw [wr (by omega)]; omega
      simp only [brT_t, c2, w2, Int.toNat_natCast]
      generalize List.take K (List.take K V) ++ List.take (V.length - (K + 1)) (List.drop (K + 1) V) = T at *
      rcases pickI bs l (apthE bs l 0 + 1 + 1 + 1) 10 == 0 with _ | _
      · refine ⟨oneI bs l (apthE bs l 0) 7 dcS, K + (V.length - (K + 1)), T, ⟨by omega, by omega⟩, ?_⟩
        simp only [brT_f]
        repeat' (first | exact ⟨some 2, some 9, _, rfl, ⟨⟨rfl, rfl, rfl⟩, ⟨rfl, rfl⟩, ⟨rfl, rfl, rfl⟩, trivial⟩, ⟨rfl, rfl, rfl⟩, ⟨rfl, rfl, rfl⟩, by intro h; cases h⟩ | exact True.intro | assumption | omega | refine And.intro ?_ ?_)
      · refine ⟨oneI bs l (apthE bs l 0) 7 dcS, K + (V.length - (K + 1)), setInts T (K + (V.length - (K + 1)) - 1) [pickI bs l (apthE bs l 0 + 1 + 1 + 1 + 1) 12], ⟨by rw [setInts_one _ _ (by omega)]; simp; omega, by omega⟩, ?_⟩
        simp only [brT_t]
        repeat' (first | exact ⟨some 2, some 9, _, rfl, ⟨⟨rfl, rfl, rfl⟩, ⟨rfl, rfl⟩, ⟨rfl, rfl, rfl⟩, trivial⟩, ⟨rfl, rfl, rfl⟩, ⟨rfl, rfl, rfl⟩, by intro h; cases h⟩ | exact True.intro | assumption | omega | refine And.intro ?_ ?_)
  · have c1 : decide (2 < ((V.length : Nat) : Int)) = false := decide_eq_false (by omega)
    simp only [c1, brT_f]
    rcases Nat.eq_zero_or_pos V.length with h0 | h0
    · have c2 : decide (0 < ((V.length : Nat) : Int)) = false := decide_eq_false (by omega)
      simp only [c2, brT_f]
      refine ⟨oneI bs l (apthE bs l 0) 7 dcS, V.length, V, ⟨Nat.le_refl _, by omega⟩, ?_⟩
      repeat' (first | exact ⟨some 2, some 5, _, rfl, ⟨⟨rfl, rfl, rfl⟩, ⟨rfl, rfl⟩, ⟨rfl, rfl, rfl⟩, trivial⟩, ⟨rfl, rfl, rfl⟩, ⟨rfl, rfl, rfl⟩, by intro h; cases h⟩ | exact True.intro | assumption | omega | refine And.intro ?_ ?_)
    · have c2 : decide (0 < ((V.length : Nat) : Int)) = true := decide_eq_true (by omega)
      have w2 : IntKind.i64.wrap ((V.length : Int) - 1) = ((V.length - 1 : Nat) : Int) := by rw [wr (by omega)]; omega
      simp only [c2, brT_t, w2, Int.toNat_natCast]
      rcases pickI bs l (apthE bs l 0 + 1) 10 == 0 with _ | _
      · refine ⟨oneI bs l (apthE bs l 0) 7 dcS, V.length, V, ⟨Nat.le_refl _, by omega⟩, ?_⟩
        simp only [brT_f]
        repeat' (first | exact ⟨some 2, some 5, _, rfl, ⟨⟨rfl, rfl, rfl⟩, ⟨rfl, rfl⟩, ⟨rfl, rfl, rfl⟩, trivial⟩, ⟨rfl, rfl, rfl⟩, ⟨rfl, rfl, rfl⟩, by intro h; cases h⟩ | exact True.intro | assumption | omega | refine And.intro ?_ ?_)
      · refine ⟨oneI bs l (apthE bs l 0) 7 dcS, V.length, setInts V (V.length - 1) [pickI bs l (apthE bs l 0 + 1 + 1) 12], ⟨by rw [setInts_one _ _ (by omega)]; simp, by omega⟩, ?_⟩
        simp only [brT_t]
        repeat' (first | exact ⟨some 2, some 5, _, rfl, ⟨⟨rfl, rfl, rfl⟩, ⟨rfl, rfl⟩, ⟨rfl, rfl, rfl⟩, trivial⟩, ⟨rfl, rfl, rfl⟩, ⟨rfl, rfl, rfl⟩, by intro h; cases h⟩ | exact True.intro | assumption | omega | refine And.intro ?_ ?_)
/-- What is drawn: a path, a tolerance, what is kept. -/
theorem dc_some (bs : List Int) (n : Nat) (hb : Bytes bs) (hn : n ≤ bs.length) : ∃ (most : Int) (m : Nat) (ks : List Int), (m ≤ ks.length ∧ m ≤ 1000) ∧ ResR2 Try.prog 31 [.row n (.bytes bs)] [.slice (some ⟨0, 0, none⟩) (apthL bs (rdL n) 0).length (apthL bs (rdL n) 0).length, .int .i64 most, .slice (some ⟨1, 0, none⟩) m m] ⟨.row 44 2, .ints (flat (apthL bs (rdL n) 0))⟩ ⟨.row 3 1, .ints ks⟩ := by
  have key : ∀ l, l ≤ n → l ≤ 2000 → rdL n = l → ∃ (most : Int) (m : Nat) (ks : List Int), (m ≤ ks.length ∧ m ≤ 1000) ∧ (dcT bs l).ok (fun _ _ => False) (fun u mem => RowIs2 [.slice (some ⟨0, 0, none⟩) (apthL bs (rdL n) 0).length (apthL bs (rdL n) 0).length, .int .i64 most, .slice (some ⟨1, 0, none⟩) m m] ⟨.row 44 2, .ints (flat (apthL bs (rdL n) 0))⟩ ⟨.row 3 1, .ints ks⟩ u mem) := fun l h1 h2 e => by
    subst e
    have r0 : rdK bs (rdL n) 0 := rdK0 hb hn h1 h2 (by omega) (by omega)
    exact dc_fin r0 (by have := apthE_bd r0.1; omega) (apthL_len r0.1)
  by_cases h : (2000 : Int) < n
  · obtain ⟨most, m, ks, h1, h2⟩ := key 2000 (by omega) (by omega) (rdL_of h)
    refine ⟨most, m, ks, h1, bodyX_resR2 mixed EDc_ok (m := 30) (n := 12) rfl rfl ?_⟩
    rw [tr_dCs, decide_eq_true h]
    exact ⟨⟨by omega, by omega, by omega⟩, h2⟩
  · obtain ⟨most, m, ks, h1, h2⟩ := key n (by omega) (by omega) (rdL_no h)
    refine ⟨most, m, ks, h1, bodyX_resR2 mixed EDc_ok (m := 30) (n := 12) rfl rfl ?_⟩
    rw [tr_dCs, decide_eq_false h]
    exact h2
end Go.Proofs.Ytolodncpegajkab
namespace Go.Proofs.Ytolodncpegajkab
set_option linter.all false
open Go.RowKit
/-- What is drawn beside the path: the tolerance, how many indices, and the indices. -/
def dcP (bs : List Int) (n : Nat) (x : Int × Nat × List Int) : Prop := (x.2.1 ≤ x.2.2.length ∧ x.2.1 ≤ 1000) ∧ ResR2 Try.prog 31 [.row n (.bytes bs)] [.slice (some ⟨0, 0, none⟩) (apthL bs (rdL n) 0).length (apthL bs (rdL n) 0).length, .int .i64 x.1, .slice (some ⟨1, 0, none⟩) x.2.1 x.2.1] ⟨.row 44 2, .ints (flat (apthL bs (rdL n) 0))⟩ ⟨.row 3 1, .ints x.2.2⟩
open Classical in
noncomputable def dcX (bs : List Int) (n : Nat) : Int × Nat × List Int := if h : ∃ x, dcP bs n x then Classical.choose h else (0, 0, [])
theorem dcX_ok {bs : List Int} {n : Nat} (hb : Bytes bs) (hn : n ≤ bs.length) : dcP bs n (dcX bs n) := by
  have h : ∃ x, dcP bs n x := by
    obtain ⟨most, m, ks, h1, h2⟩ := dc_some bs n hb hn
    exact ⟨(most, m, ks), h1, h2⟩
  unfold dcX
  rw [dif_pos h]
  exact Classical.choose_spec h
noncomputable def dcA (bs : List Int) (n : Nat) : Int := (dcX bs n).1
noncomputable def dcB (bs : List Int) (n : Nat) : Nat := (dcX bs n).2.1
noncomputable def dcC (bs : List Int) (n : Nat) : List Int := (dcX bs n).2.2
noncomputable def T2dc : TabR2 := fun ds => match ds with
  | [.row n (.bytes bs)] => some ([.slice (some ⟨0, 0, none⟩) (apthL bs (rdL n) 0).length (apthL bs (rdL n) 0).length, .int .i64 (dcA bs n), .slice (some ⟨1, 0, none⟩) (dcB bs n) (dcB bs n)], ⟨.row 44 2, .ints (flat (apthL bs (rdL n) 0))⟩, ⟨.row 3 1, .ints (dcC bs n)⟩, [Bytes bs, n ≤ bs.length])
  | _ => none
theorem T2dc_ok : TabR2Ok Try.prog 31 T2dc := by
  intro ds vs b0 b1 C h hC
  unfold T2dc at h
  split at h
  · obtain ⟨rfl, rfl, rfl, rfl⟩ : _ ∧ _ ∧ _ ∧ _ := by simpa using h
    exact (dcX_ok hC.1 hC.2.1).2
  · cases h
noncomputable def JDc : TabJ := consR 31 (r2G T2dc) noJ
theorem JDc_ok : GSound Try.prog JDc.g := consR2_ok (failG_sound _) (entersB_res (by kernel_rfl)).1 T2dc_ok
noncomputable def ELs0 : Env := ⟨TSy, fun _ _ => none, fun _ => noL, JDc, fun _ => noR⟩
theorem ELs0_ok : EnvOk Try.prog ELs0 := ⟨TSy_ok, fun _ _ _ _ _ h => (by cases h), fun _ _ _ => noL_good, JDc_ok, fun _ _ _ => noR_good⟩
end Go.Proofs.Ytolodncpegajkab
namespace Go.Proofs.Ytolodncpegajkab
set_option linter.all false
open Go.RowKit
/-- The indices of a path, so many. -/
def upI : Nat → List Int
  | 0 => []
  | i + 1 => upI i ++ [(i : Int)]
theorem upI_len : ∀ n, (upI n).length = n
  | 0 => rfl
  | n + 1 => by simp [upI, upI_len n]
theorem upI_get : ∀ {n i : Nat}, i < n → (upI n).getD i 0 = (i : Int)
  | 0, i, h => by omega
  | n + 1, i, h => by
    have hl := upI_len n
    have ih := @upI_get n i
    simp only [upI, List.getD_eq_getElem?_getD] at ih ⊢
    rcases Nat.lt_or_ge i n with g | g
    · rw [List.getElem?_append_left (by omega)]
      exact ih g
    · obtain rfl : i = n := by omega
      rw [List.getElem?_append_right (by omega), hl, Nat.sub_self]
      rfl
theorem allQ_mkC {P : Nat → Bool} : ∀ (m i : Nat), (∀ j, i ≤ j → j < i + m → P j = true) → allQ P i m = true
  | 0, _, _ => rfl
  | m + 1, i, h => by
    have ih := allQ_mkC m (i + 1) fun j h1 h2 => h j (by omega) (by omega)
    simp only [allQ]
    rw [h i (Nat.le_refl _) (by omega), ih]
    rfl
/-- All points of a path are accepted. -/
theorem ck_all {ps : List Pt} (hp : pathB ps = true) : ckB ps 0 ps.length (upI ps.length) = true := by
  have h2 := (path_iff.1 hp).2.1
  unfold ckB
  rw [hp, Bool.true_and, decide_eq_true (show (0 : Int) ≤ 0 by omega), decide_eq_true (show (0 : Int) ≤ 8000000 by omega), Bool.true_and, Bool.true_and, Bool.and_eq_true]
  refine ⟨ee_iff.2 ⟨by omega, upI_get (by omega), ?_, allQ_mkC _ _ fun j h1 h3 => ?_⟩, allQ_mkC _ _ fun j h1 h3 => ?_⟩
  · rw [upI_get (by omega)]; omega
  · unfold ascQ
    rw [upI_get (by omega), upI_get (by omega)]
    exact decide_eq_true (by omega)
  · unfold stQ kA
    rw [upI_get (by omega), upI_get (by omega)]
    have := wrK_bd ps (a := j - 1) (b := j) (by omega)
    unfold stpB
    simp only [Int.toNat_natCast]
    rw [decide_eq_true (show wrK ps (j - 1) j = j - 1 by omega), Bool.true_or]
/-- A larger tolerance accepts more. -/
theorem ck_more {ps : List Pt} {a b : Int} {n : Nat} {ks : List Int} (h : ckB ps a n ks = true) (hab : a ≤ b) (hb : b ≤ 8000000) : ckB ps b n ks = true ∧ 0 ≤ a ∧ a ≤ 8000000 := by
  unfold ckB at h ⊢
  simp only [Bool.and_eq_true, decide_eq_true_eq] at h ⊢
  obtain ⟨h1, h2, h3, h4, h5⟩ := h
  refine ⟨⟨h1, by omega, hb, h4, allQ_mkC _ _ fun j g1 g2 => ?_⟩, h2, h3⟩
  have hv := (path_iff.1 h1).1.1
  have k := allQ_get _ _ h5 j g1 g2
  unfold stQ stpB at k ⊢
  rw [Bool.or_eq_true, decide_eq_true_eq, decide_eq_true_eq] at k ⊢
  rcases k with k | k
  · exact .inl k
  · right
    have d := (dv_bd (gP_v hv (kA ks (j - 1))) (gP_v hv (kA ks j)) (gP_v hv (wrK ps (kA ks (j - 1)) (kA ks j)))).2
    exact Int.le_trans k (Int.mul_le_mul_of_nonneg_right hab (by omega))
noncomputable def c_lct : Code := ((loopsOf (codeOf Try.f7))[0]?).getD .skip
def k_lct : Ex → List Nat := keeps [1, 5, 6, 7, 9, 10] [(0, [1, 5, 6, 7, 9])] [4]
def s_lct (bs ms ks xs : List Int) (m l n : Nat) (a : Int) : Nat → St := fun i => ⟨(topV :: .slice (some ⟨1, 0, none⟩) m m :: topV :: topV :: topV :: .slice (some ⟨3, 0, none⟩) n n :: .int .i64 a :: .slice (some ⟨2, 0, none⟩) l l :: topV :: .slice (some ⟨5, 0, none⟩) i i :: .int .i64 i :: topV :: topV :: topV :: topV :: topV :: topV :: topV :: topV :: topV :: topV :: topV :: topV :: topV :: topV :: topV :: topV :: topV :: topV :: topV :: topV :: topV :: topV :: topV :: topV :: topV :: topV :: topV :: topV :: topV :: topV :: topV :: topV :: topV :: topV :: topV :: topV :: topV :: topV :: topV :: topV :: topV :: topV :: topV :: topV :: topV :: topV :: topV :: topV :: topV :: topV :: topV :: topV :: topV :: topV :: topV :: topV :: topV :: topV :: topV :: topV :: topV :: topV :: []), [some ⟨.view, .bytes bs⟩, some ⟨.view, .bytes ms⟩, some ⟨.row 3 1, .ints ks⟩, some ⟨.row 44 2, .ints xs⟩, some ⟨.dead, .vals []⟩, some ⟨.row 3 1, .ints (upI i)⟩]⟩
def re_lct : Nat → Ex := fun _ => .exit 0
def rs_lct (bs ms ks xs : List Int) (m l n : Nat) (a : Int) : Nat → St := fun i => ⟨(topV :: .slice (some ⟨1, 0, none⟩) m m :: topV :: topV :: topV :: .slice (some ⟨3, 0, none⟩) n n :: .int .i64 a :: .slice (some ⟨2, 0, none⟩) l l :: topV :: .slice (some ⟨5, 0, none⟩) n n :: topV :: topV :: topV :: topV :: topV :: topV :: topV :: topV :: topV :: topV :: topV :: topV :: topV :: topV :: topV :: topV :: topV :: topV :: topV :: topV :: topV :: topV :: topV :: topV :: topV :: topV :: topV :: topV :: topV :: topV :: topV :: topV :: topV :: topV :: topV :: topV :: topV :: topV :: topV :: topV :: topV :: topV :: topV :: topV :: topV :: topV :: topV :: topV :: topV :: topV :: topV :: topV :: topV :: topV :: topV :: topV :: topV :: topV :: topV :: topV :: topV :: topV :: topV :: []), [some ⟨.view, .bytes bs⟩, some ⟨.view, .bytes ms⟩, some ⟨.row 3 1, .ints ks⟩, some ⟨.row 44 2, .ints xs⟩, some ⟨.dead, .vals []⟩, some ⟨.row 3 1, .ints (upI n)⟩]⟩
set_option maxRecDepth 100000 in
theorem tr_lct (bs ms ks xs : List Int) (m l n : Nat) (a : Int) (i : Nat) : bodyL Try.prog ELs0 30 12 noL 1 c_lct k_lct 16 (s_lct bs ms ks xs m l n a i) = brT (decide ((↑i : Int) < (↑n : Int))) (.need ((i + (1 : Nat)) * (8 : Nat) ≤ (140737488355328 : Nat) ∧ i + (1 : Nat) ≤ (1000000 : Nat)) (.need ((0 : Nat) + i * (1 : Nat) ≤ (upI i).length) (.leaf .normal ⟨(topV :: .slice (some ⟨1, 0, none⟩) (m) (m) :: topV :: topV :: topV :: .slice (some ⟨3, 0, none⟩) (n) (n) :: .int .i64 (a) :: .slice (some ⟨2, 0, none⟩) (l) (l) :: topV :: .slice (some ⟨7, 0, none⟩) (i + 1) (i + 1) :: .int .i64 (IntKind.i64.wrap ((↑i : Int) + 1)) :: topV :: topV :: topV :: topV :: topV :: topV :: topV :: topV :: topV :: topV :: topV :: topV :: topV :: topV :: topV :: topV :: topV :: topV :: topV :: topV :: topV :: topV :: topV :: topV :: topV :: topV :: topV :: topV :: topV :: topV :: topV :: topV :: topV :: topV :: topV :: topV :: topV :: topV :: topV :: topV :: topV :: topV :: topV :: topV :: topV :: topV :: topV :: topV :: topV :: topV :: topV :: topV :: topV :: topV :: topV :: topV :: topV :: topV :: topV :: topV :: topV :: topV :: []), [some ⟨.view, .bytes (bs)⟩, some ⟨.view, .bytes (ms)⟩, some ⟨.row 3 1, .ints (ks)⟩, some ⟨.row 44 2, .ints (xs)⟩, some deadB, some deadB, some ⟨.row 3 1, .vals [.int .i64 ((↑i : Int))]⟩, some ⟨.row 3 1, .ints (List.take (i * 1) (List.drop 0 (upI i)) ++ [(↑i : Int)])⟩]⟩))) (.leaf (.exit 0) ⟨(topV :: .slice (some ⟨1, 0, none⟩) (m) (m) :: topV :: topV :: topV :: .slice (some ⟨3, 0, none⟩) (n) (n) :: .int .i64 (a) :: .slice (some ⟨2, 0, none⟩) (l) (l) :: topV :: .slice (some ⟨5, 0, none⟩) (i) (i) :: topV :: topV :: topV :: topV :: topV :: topV :: topV :: topV :: topV :: topV :: topV :: topV :: topV :: topV :: topV :: topV :: topV :: topV :: topV :: topV :: topV :: topV :: topV :: topV :: topV :: topV :: topV :: topV :: topV :: topV :: topV :: topV :: topV :: topV :: topV :: topV :: topV :: topV :: topV :: topV :: topV :: topV :: topV :: topV :: topV :: topV :: topV :: topV :: topV :: topV :: topV :: topV :: topV :: topV :: topV :: topV :: topV :: topV :: topV :: topV :: topV :: topV :: topV :: []), [some ⟨.view, .bytes (bs)⟩, some ⟨.view, .bytes (ms)⟩, some ⟨.row 3 1, .ints (ks)⟩, some ⟨.row 44 2, .ints (xs)⟩, some deadB, some ⟨.row 3 1, .ints (upI i)⟩]⟩) := by kernel_rfl
set_option maxRecDepth 100000 in
theorem nl_lct : loopsOf c_lct = [] := by kernel_rfl
def inv_lct (bs ms ks xs : List Int) (m l n : Nat) (a : Int) : Nat → Prop := fun i => i ≤ n
def me_lct (bs ms ks xs : List Int) (m l n : Nat) (a : Int) : Nat → Nat := fun i => n - i
/-- A round of this loop. -/
def Round_lct (bs ms ks xs : List Int) (m l n : Nat) (a : Int) : Prop := ∀ xx : Nat, inv_lct bs ms ks xs m l n a xx → (bodyL Try.prog ELs0 30 12 noL 1 c_lct k_lct 16 (s_lct bs ms ks xs m l n a xx)).ok (RoundEnd 5 (s_lct bs ms ks xs m l n a) (inv_lct bs ms ks xs m l n a) (me_lct bs ms ks xs m l n a) re_lct (rs_lct bs ms ks xs m l n a) xx) (fun _ _ => False)
def e_lct (s : St) (k : Ex → St → Tree) : Option Tree := match Nat.beq s.tmps.length 73, pickL s.tmps [1, 5, 6, 7, 9, 10], s.mem with
  | true, [.slice (some ⟨1, 0, none⟩) m _, .slice (some ⟨3, 0, none⟩) n _, .int .i64 a, .slice (some ⟨2, 0, none⟩) l _, .slice (some ⟨4, 0, none⟩) z _, .int .i64 ii], [some ⟨.view, .bytes bs⟩, some ⟨.view, .bytes ms⟩, some ⟨.row 3 1, .ints ks⟩, some ⟨.row 44 2, .ints xs⟩, some ⟨.row 3 1, .vals []⟩] => some (needs [ii = 0, z = 0, n ≤ 1000] (k (.exit 0) ⟨(topV :: .slice (some ⟨1, 0, none⟩) m m :: topV :: topV :: topV :: .slice (some ⟨3, 0, none⟩) n n :: .int .i64 a :: .slice (some ⟨2, 0, none⟩) l l :: topV :: .slice (some ⟨5, 0, none⟩) n n :: topV :: topV :: topV :: topV :: topV :: topV :: topV :: topV :: topV :: topV :: topV :: topV :: topV :: topV :: topV :: topV :: topV :: topV :: topV :: topV :: topV :: topV :: topV :: topV :: topV :: topV :: topV :: topV :: topV :: topV :: topV :: topV :: topV :: topV :: topV :: topV :: topV :: topV :: topV :: topV :: topV :: topV :: topV :: topV :: topV :: topV :: topV :: topV :: topV :: topV :: topV :: topV :: topV :: topV :: topV :: topV :: topV :: topV :: topV :: topV :: topV :: topV :: topV :: []), [some ⟨.view, .bytes bs⟩, some ⟨.view, .bytes ms⟩, some ⟨.row 3 1, .ints ks⟩, some ⟨.row 44 2, .ints xs⟩, some ⟨.dead, .vals []⟩, some ⟨.row 3 1, .ints (upI n)⟩]⟩))
  | _, _, _ => none
set_option maxRecDepth 100000 in
theorem round_lct (bs ms ks xs : List Int) (m l n : Nat) (a : Int) (h : n ≤ 1000) : Round_lct bs ms ks xs m l n a := by
  intro i h1
  have h1 : i ≤ n := h1
  rw [tr_lct]
  have ul := upI_len i
  have tk : List.take (i * 1) (List.drop 0 (upI i)) = upI i := by rw [List.drop_zero]; exact List.take_of_length_le (by omega)
  rw [tk]
  refine brT_ok.2 ⟨fun hlt => ?_, fun hge => ?_⟩
  · have hlt : i < n := by have := of_decide_eq_true hlt; omega
    rw [wsucc (n := n) hlt (by omega)]
    refine ⟨⟨by omega, by omega⟩, by omega, i + 1, [some 7], ?_, ?_, rfl, rfl, ?_⟩
    · show i + 1 ≤ n; omega
    · show n - (i + 1) < n - i; omega
    · unfold s_lct
      simp only [upI]
      repeat' (first | exact True.intro | exact rfl | exact fun _ => rfl | (simp; done) | refine And.intro ?_ ?_)
  · have hge := of_decide_eq_false hge
    obtain rfl : i = n := by omega
    refine ⟨rfl, [some 5], ?_⟩
    unfold rs_lct
    repeat' (first | exact True.intro | exact rfl | exact fun _ => rfl | (simp; done) | refine And.intro ?_ ?_)
set_option maxRecDepth 100000 in
theorem lg_lct : LoopE Try.prog e_lct c_lct := by
  intro s k t F H hlt ht
  unfold e_lct at hlt
  split at hlt
  rotate_left
  · cases hlt
  rename_i hlen hpick hmem
  obtain ⟨tmps, mem⟩ := s
  simp only at hlen hpick hmem
  subst hmem
  obtain rfl := Option.some.inj hlt
  obtain ⟨⟨rfl, rfl, h1, _⟩, ht2⟩ := needs_ok ht
  clear ht hlt
  refine ⟨_, _, ht2, loop_run2 mixed ELs0_ok (s_lct _ _ _ _ _ _ _ _) (inv_lct _ _ _ _ _ _ _ _) (me_lct _ _ _ _ _ _ _ _) re_lct (rs_lct _ _ _ _ _ _ _ _) k_lct (fun _ => rfl) (noLoops nl_lct) (round_lct _ _ _ _ _ _ _ _ h1) (x := 0) (Nat.zero_le _) (π := [some 4]) rfl ?_⟩
  refine ⟨rfl, rfl, ?_, wvs_spread' [1, 5, 6, 7, 9, 10] hlen rfl ?_⟩
  · repeat' (first | exact True.intro | exact rfl | exact wv_top _ _ | exact fun _ => rfl | assumption | exact Eq.symm (by assumption) | exact vI0 rfl | refine And.intro ?_ ?_)
  · rw [hpick]
    repeat' (first | exact True.intro | exact rfl | exact wv_top _ _ | exact fun _ => rfl | assumption | exact Eq.symm (by assumption) | exact vI0 rfl | refine And.intro ?_ ?_)
theorem Lr_lct {fn : Func} (hf : Try.prog.funcs[7]? = some fn) : LoopsGood Try.prog (lt1 e_lct) 0 (codeOf fn) := by
  obtain rfl := fn_is Try.func7 hf
  exact lt1_good lg_lct
def LLct : FuncId → LT := fun f => match f with
  | 7 => lt1 e_lct
  | _ => noL
noncomputable def ELct : Env := ⟨TSy, fun _ _ => none, LLct, JDc, fun _ => noR⟩
theorem ELct_ok : EnvOk Try.prog ELct := ⟨TSy_ok, fun _ _ _ _ _ h => (by cases h), (by
  intro f fn hf
  show LoopsGood Try.prog (LLct f) 0 (codeOf fn)
  unfold LLct
  split
  all_goals first | with_reducible exact Lr_lct hf | exact noL_good), JDc_ok, fun _ _ _ => noR_good⟩
set_option maxRecDepth 100000 in
theorem tr_lct2 (bs ms : List Int) : bodyP Try.prog ELct 30 12 7 [.row bs.length (.bytes bs), .row ms.length (.bytes ms)] = brT (decide (1048576 < (↑bs.length : Int))) (.fin (.bool (true)) []) (brT (decide (1048576 < (↑ms.length : Int))) (.fin (.bool (true)) []) (.need (Bytes (List.drop (0 : Nat) bs)) (.need (bs.length ≤ (List.drop (0 : Nat) bs).length) (.need ((apthL (List.drop (0 : Nat) bs) (rdL bs.length) (0 : Int)).length * (2 : Nat) ≤ (List.drop (0 : Nat) (flat (apthL (List.drop (0 : Nat) bs) (rdL bs.length) (0 : Int)))).length) (.need ((apthL (List.drop (0 : Nat) bs) (rdL bs.length) (0 : Int)).length ≤ (1000000000 : Nat)) (.need (dcB (List.drop (0 : Nat) bs) bs.length ≤ (List.drop (0 : Nat) (dcC (List.drop (0 : Nat) bs) bs.length)).length) (.need (dcB (List.drop (0 : Nat) bs) bs.length ≤ (1000000000 : Nat)) (.need ((apthL (List.drop (0 : Nat) bs) (rdL bs.length) (0 : Int)).length * (2 : Nat) ≤ (List.drop (0 : Nat) (flat (apthL (List.drop (0 : Nat) bs) (rdL bs.length) (0 : Int)))).length) (.need ((apthL (List.drop (0 : Nat) bs) (rdL bs.length) (0 : Int)).length ≤ (1000000000 : Nat)) (.need (dcB (List.drop (0 : Nat) bs) bs.length ≤ (List.drop (0 : Nat) (dcC (List.drop (0 : Nat) bs) bs.length)).length) (.need (dcB (List.drop (0 : Nat) bs) bs.length ≤ (1000000000 : Nat)) (brT (!ckB (ptsA (apthL (List.drop 0 bs) (rdL bs.length) 0).length (List.drop 0 (flat (apthL (List.drop 0 bs) (rdL bs.length) 0)))) (dcA (List.drop 0 bs) bs.length) (dcB (List.drop 0 bs) bs.length) (List.drop 0 (dcC (List.drop 0 bs) bs.length)) == ckB (ptsA (apthL (List.drop 0 bs) (rdL bs.length) 0).length (List.drop 0 (flat (apthL (List.drop 0 bs) (rdL bs.length) 0)))) (dcA (List.drop 0 bs) bs.length) (dcB (List.drop 0 bs) bs.length) (List.drop 0 (dcC (List.drop 0 bs) bs.length))) (.need ((apthL (List.drop (0 : Nat) bs) (rdL bs.length) (0 : Int)).length * (2 : Nat) ≤ (List.drop (0 : Nat) (flat (apthL (List.drop (0 : Nat) bs) (rdL bs.length) (0 : Int)))).length) (.need ((apthL (List.drop (0 : Nat) bs) (rdL bs.length) (0 : Int)).length ≤ (1000000000 : Nat)) (.need (dcB (List.drop (0 : Nat) bs) bs.length ≤ (List.drop (0 : Nat) (dcC (List.drop (0 : Nat) bs) bs.length)).length) (.need (dcB (List.drop (0 : Nat) bs) bs.length ≤ (1000000000 : Nat)) (.fin (.bool (ckB (ptsA (apthL (List.drop 0 bs) (rdL bs.length) 0).length (List.drop 0 (flat (apthL (List.drop 0 bs) (rdL bs.length) 0)))) (dcA (List.drop 0 bs) bs.length) (dcB (List.drop 0 bs) bs.length) (List.drop 0 (dcC (List.drop 0 bs) bs.length)) == ckB (ptsA (apthL (List.drop 0 bs) (rdL bs.length) 0).length (List.drop 0 (flat (apthL (List.drop 0 bs) (rdL bs.length) 0)))) (dcA (List.drop 0 bs) bs.length) (dcB (List.drop 0 bs) bs.length) (List.drop 0 (dcC (List.drop 0 bs) bs.length)))) []))))) (brT (!ckB (ptsA (apthL (List.drop 0 bs) (rdL bs.length) 0).length (List.drop 0 (flat (apthL (List.drop 0 bs) (rdL bs.length) 0)))) (dcA (List.drop 0 bs) bs.length) (dcB (List.drop 0 bs) bs.length) (List.drop 0 (dcC (List.drop 0 bs) bs.length))) (.need ((apthL (List.drop (0 : Nat) bs) (rdL bs.length) (0 : Int)).length * (2 : Nat) ≤ (List.drop (0 : Nat) (flat (apthL (List.drop (0 : Nat) bs) (rdL bs.length) (0 : Int)))).length) (.need ((apthL (List.drop (0 : Nat) bs) (rdL bs.length) (0 : Int)).length ≤ (1000000000 : Nat)) (.need (dcB (List.drop (0 : Nat) bs) bs.length ≤ (List.drop (0 : Nat) (dcC (List.drop (0 : Nat) bs) bs.length)).length) (.need (dcB (List.drop (0 : Nat) bs) bs.length ≤ (1000000000 : Nat)) (.fin (.bool (ckB (ptsA (apthL (List.drop 0 bs) (rdL bs.length) 0).length (List.drop 0 (flat (apthL (List.drop 0 bs) (rdL bs.length) 0)))) (dcA (List.drop 0 bs) bs.length) (dcB (List.drop 0 bs) bs.length) (List.drop 0 (dcC (List.drop 0 bs) bs.length)) == ckB (ptsA (apthL (List.drop 0 bs) (rdL bs.length) 0).length (List.drop 0 (flat (apthL (List.drop 0 bs) (rdL bs.length) 0)))) (dcA (List.drop 0 bs) bs.length) (dcB (List.drop 0 bs) bs.length) (List.drop 0 (dcC (List.drop 0 bs) bs.length)))) []))))) (.need ((0 : Int) = (0 : Int)) (.need ((0 : Nat) = (0 : Nat)) (.need ((apthL (List.drop (0 : Nat) bs) (rdL bs.length) (0 : Int)).length ≤ (1000 : Nat)) (.need ((apthL (List.drop (0 : Nat) bs) (rdL bs.length) (0 : Int)).length * (2 : Nat) ≤ (List.drop (0 : Nat) (flat (apthL (List.drop (0 : Nat) bs) (rdL bs.length) (0 : Int)))).length) (.need ((apthL (List.drop (0 : Nat) bs) (rdL bs.length) (0 : Int)).length ≤ (1000000000 : Nat)) (.need ((apthL (List.drop (0 : Nat) bs) (rdL bs.length) (0 : Int)).length ≤ (List.drop (0 : Nat) (upI (apthL (List.drop (0 : Nat) bs) (rdL bs.length) (0 : Int)).length)).length) (.need ((apthL (List.drop (0 : Nat) bs) (rdL bs.length) (0 : Int)).length ≤ (1000000000 : Nat)) (brT (ckB (ptsA (apthL (List.drop 0 bs) (rdL bs.length) 0).length (List.drop 0 (flat (apthL (List.drop 0 bs) (rdL bs.length) 0)))) 0 (apthL (List.drop 0 bs) (rdL bs.length) 0).length (List.drop 0 (upI (apthL (List.drop 0 bs) (rdL bs.length) 0).length))) (.need (¬(1000 : Int) = (0 : Int)) (.need ((apthL (List.drop (0 : Nat) bs) (rdL bs.length) (0 : Int)).length * (2 : Nat) ≤ (List.drop (0 : Nat) (flat (apthL (List.drop (0 : Nat) bs) (rdL bs.length) (0 : Int)))).length) (.need ((apthL (List.drop (0 : Nat) bs) (rdL bs.length) (0 : Int)).length ≤ (1000000000 : Nat)) (.need (dcB (List.drop (0 : Nat) bs) bs.length ≤ (List.drop (0 : Nat) (dcC (List.drop (0 : Nat) bs) bs.length)).length) (.need (dcB (List.drop (0 : Nat) bs) bs.length ≤ (1000000000 : Nat)) (.fin (.bool (ckB (ptsA (apthL (List.drop 0 bs) (rdL bs.length) 0).length (List.drop 0 (flat (apthL (List.drop 0 bs) (rdL bs.length) 0)))) (if dcA (List.drop 0 bs) bs.length < if 8000000 < IntKind.i64.wrap (IntKind.i64.wrap (dcA (List.drop 0 bs) bs.length + 1) + (↑ms.length : Int).tmod 1000) then 8000000 else IntKind.i64.wrap (IntKind.i64.wrap (dcA (List.drop 0 bs) bs.length + 1) + (↑ms.length : Int).tmod 1000) then if 8000000 < IntKind.i64.wrap (IntKind.i64.wrap (dcA (List.drop 0 bs) bs.length + 1) + (↑ms.length : Int).tmod 1000) then 8000000 else IntKind.i64.wrap (IntKind.i64.wrap (dcA (List.drop 0 bs) bs.length + 1) + (↑ms.length : Int).tmod 1000) else dcA (List.drop 0 bs) bs.length) (dcB (List.drop 0 bs) bs.length) (List.drop 0 (dcC (List.drop 0 bs) bs.length)))) [])))))) (.fin (.bool (false)) [])))))))))))))))))))))) := by kernel_rfl
theorem CheckSimplified_res (bs ms : List Int) (hb : Bytes bs) (_ : bs.length ≤ maxLen) (_ : Bytes ms) (hm : ms.length ≤ maxLen) : Res Try.prog 7 [.row bs.length (.bytes bs), .row ms.length (.bytes ms)] (.bool true) := by
  refine bodyP_res mixed ELct_ok (m := 30) (n := 12) rfl ?_
  rw [tr_lct2]
  have rb : rdL bs.length ≤ bs.length ∧ rdL bs.length ≤ 2000 := by unfold rdL; omega
  have k3 := (ptKey (n := bs.length) hb (Nat.le_refl _) rb.1 rb.2).2.2
  obtain ⟨⟨d1, d2⟩, _⟩ := dcX_ok (n := bs.length) hb (Nat.le_refl _)
  change dcB bs bs.length ≤ (dcC bs bs.length).length at d1
  change dcB bs bs.length ≤ 1000 at d2
  simp only [List.drop_zero, ptsA_flat, flat_length]
  generalize apthL bs (rdL bs.length) 0 = ps at *
  generalize dcA bs bs.length = a at *
  generalize dcB bs bs.length = n at *
  generalize dcC bs bs.length = ks at *
  have ul := upI_len ps.length
  refine brT_ok.2 ⟨fun _ => rfl, fun _ => brT_ok.2 ⟨fun _ => rfl, fun _ => ?_⟩⟩
  rcases hd : ckB ps a n ks with _ | _
  · simp only [beq_self_eq_true, Bool.not_true, Bool.not_false, brT_t, brT_f]
    repeat' (first | exact True.intro | assumption | omega | exact rfl | refine And.intro ?_ ?_)
  · obtain ⟨_, m1, m2⟩ := ck_more hd (Int.le_refl a) (by
      unfold ckB at hd
      simp only [Bool.and_eq_true, decide_eq_true_eq] at hd
      omega)
    have hp : pathB ps = true := by
      unfold ckB at hd
      exact (Bool.and_eq_true_iff.1 hd).1
    have ha := ck_all hp
    generalize IntKind.i64.wrap (IntKind.i64.wrap (a + 1) + (ms.length : Int).tmod 1000) = x at *
    have hx : ∀ M : Int, M = (if a < (if 8000000 < x then 8000000 else x) then (if 8000000 < x then 8000000 else x) else a) → ckB ps M n ks = true := fun M hM => by
      have : a ≤ M ∧ M ≤ 8000000 := by
        subst hM
        split <;> split <;> omega
      exact (ck_more hd this.1 this.2).1
    have hx := hx _ rfl
    simp only [beq_self_eq_true, Bool.not_true, brT_f, brT_t, ha, hx]
    repeat' (first | exact True.intro | assumption | omega | exact rfl | refine And.intro ?_ ?_)
end Go.Proofs.Ytolodncpegajkab
