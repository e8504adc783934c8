/-
  Texts that the proof needs, merged. Written by an AI agent.
-/
import Derived.Orders
import Derived.Below
import Derived.OrdersIn
import Derived.Deep.LoopGhost
import Derived.WalkKit
import Derived.Laws.CopyRow
import Derived.Laws.AppendOwn
import Derived.Laws.Slices
import Derived.Laws.MakeOwn
import Derived.Test.YtbhdhejefpdjfaaRows
import Derived.ProofKit
import Derived.OpenShut
import Derived.Carry
import Derived.IntWalk
import Derived.Test.YtbhdhejefpdjfaaProg
import Derived.WalkSpells
import Derived.WalkLawsBesides
import Derived.Lib.Hide
import Derived.Deep.QuietTactic
import Derived.BigQuiet
import Derived.KernelRfl
import Derived.Deep.RegionHeld3
import Derived.LoopTactic
import Derived.Laws.StructEq
import Derived.Laws.Tables
import Derived.RangeFuncNested
import Derived.RangeFuncLeaves
import Derived.Deep.Slices
import Derived.Deep.Fields
import Derived.ChangeSame
import Derived.Deep.DeepCutAuto
import Derived.Shelf.SlSortCmp.WholeK
import Derived.Sort.Grow
import Derived.Shelf.SlSortCmp.NoneTotal
import Derived.Test.YtbhdhejefpdjfaaZConvexDiagonals6
namespace Go.Proofs.Ytbhdhejefpdjfaa
set_option linter.all false
open Go.RowKit
def JVf : TabJ := consR 58 catG noJ
theorem JVf_ok : GSound Try.prog JVf.g := catG_sound (failG_sound Try.prog)
def EVf : Env := withT (mkE B0 RCl (fun _ => noL)) JVf
theorem EVf_ok : EnvOk Try.prog EVf := withT_ok (mkEOk B0_ok RCl_ok (fun _ _ _ => noL_good)) JVf_ok
set_option maxRecDepth 100000 in
theorem tr_vfc (ps : List Pt) (i k : Int) : bodyX Try.prog EVf 30 12 48 [.row ps.length (.ints (flat ps)), .v (iv i), .v (iv k)] = brT (decide (i ≤ k)) (.need ((0 : Int) ≤ bndI (some (IntKind.i64, i)) (0 : Int) ∧ bndI (some (IntKind.i64, i)) (0 : Int) ≤ bndI (some (IntKind.i64, IntKind.i64.wrap (k + (1 : Int)))) (↑ps.length : Int) ∧ bndI (some (IntKind.i64, IntKind.i64.wrap (k + (1 : Int)))) (↑ps.length : Int) ≤ (↑ps.length : Int)) (.need (((bndI (some (IntKind.i64, IntKind.i64.wrap (k + (1 : Int)))) (↑ps.length : Int)).toNat - (bndI (some (IntKind.i64, i)) (0 : Int)).toNat) * (2 : Nat) ≤ (List.drop ((0 : Nat) + (bndI (some (IntKind.i64, i)) (0 : Int)).toNat * (2 : Nat)) (flat ps)).length) (.need ((bndI (some (IntKind.i64, IntKind.i64.wrap (k + (1 : Int)))) (↑ps.length : Int)).toNat - (bndI (some (IntKind.i64, i)) (0 : Int)).toNat ≤ (2000000 : Nat)) (.fin (.slice (some ⟨3, 0, none⟩) ((ptsA ((bndI (some (IntKind.i64, IntKind.i64.wrap (k + 1))) (↑ps.length : Int)).toNat - (bndI (some (IntKind.i64, i)) 0).toNat) (List.drop (0 + (bndI (some (IntKind.i64, i)) 0).toNat * 2) (flat ps))).length) ((ptsA ((bndI (some (IntKind.i64, IntKind.i64.wrap (k + 1))) (↑ps.length : Int)).toNat - (bndI (some (IntKind.i64, i)) 0).toNat) (List.drop (0 + (bndI (some (IntKind.i64, i)) 0).toNat * 2) (flat ps))).length)) [some ⟨.view, .ints (flat ps)⟩, none, none, some ⟨.row 25 2, .ints (flat (ptsA ((bndI (some (IntKind.i64, IntKind.i64.wrap (k + 1))) (↑ps.length : Int)).toNat - (bndI (some (IntKind.i64, i)) 0).toNat) (List.drop (0 + (bndI (some (IntKind.i64, i)) 0).toNat * 2) (flat ps))))⟩])))) (.need ((0 : Int) ≤ bndI (some (IntKind.i64, i)) (0 : Int) ∧ bndI (some (IntKind.i64, i)) (0 : Int) ≤ bndI none (↑ps.length : Int) ∧ bndI none (↑ps.length : Int) ≤ (↑ps.length : Int)) (.need ((0 : Int) ≤ bndI none (0 : Int) ∧ bndI none (0 : Int) ≤ bndI (some (IntKind.i64, IntKind.i64.wrap (k + (1 : Int)))) (↑ps.length : Int) ∧ bndI (some (IntKind.i64, IntKind.i64.wrap (k + (1 : Int)))) (↑ps.length : Int) ≤ (↑ps.length : Int)) (.need (((bndI none (↑ps.length : Int)).toNat - (bndI (some (IntKind.i64, i)) (0 : Int)).toNat) * (2 : Nat) ≤ (List.drop ((0 : Nat) + (bndI (some (IntKind.i64, i)) (0 : Int)).toNat * (2 : Nat)) (flat ps)).length) (.need (((bndI (some (IntKind.i64, IntKind.i64.wrap (k + (1 : Int)))) (↑ps.length : Int)).toNat - (0 : Nat)) * (2 : Nat) ≤ (List.drop (0 : Nat) (flat ps)).length) (.need ((0 : Nat) < (bndI none (↑ps.length : Int)).toNat - (bndI (some (IntKind.i64, i)) (0 : Int)).toNat + ((bndI (some (IntKind.i64, IntKind.i64.wrap (k + (1 : Int)))) (↑ps.length : Int)).toNat - (0 : Nat))) (.need ((bndI none (↑ps.length : Int)).toNat - (bndI (some (IntKind.i64, i)) (0 : Int)).toNat + ((bndI (some (IntKind.i64, IntKind.i64.wrap (k + (1 : Int)))) (↑ps.length : Int)).toNat - (0 : Nat)) ≤ (1000 : Nat)) (.fin (.slice (some ⟨4, 0, none⟩) ((bndI none (↑ps.length : Int)).toNat - (bndI (some (IntKind.i64, i)) 0).toNat + ((bndI (some (IntKind.i64, IntKind.i64.wrap (k + 1))) (↑ps.length : Int)).toNat - 0)) ((bndI none (↑ps.length : Int)).toNat - (bndI (some (IntKind.i64, i)) 0).toNat + ((bndI (some (IntKind.i64, IntKind.i64.wrap (k + 1))) (↑ps.length : Int)).toNat - 0))) [some ⟨.view, .ints (flat ps)⟩, none, none, some ⟨.row 23 1, .vals [.slice (some ⟨0, 0 + (bndI (some (IntKind.i64, i)) 0).toNat * 2, none⟩) ((bndI none (↑ps.length : Int)).toNat - (bndI (some (IntKind.i64, i)) 0).toNat) ((bndI none (↑ps.length : Int)).toNat - (bndI (some (IntKind.i64, i)) 0).toNat), .slice (some ⟨0, 0, none⟩) ((bndI (some (IntKind.i64, IntKind.i64.wrap (k + 1))) (↑ps.length : Int)).toNat - 0) ((bndI (some (IntKind.i64, IntKind.i64.wrap (k + 1))) (↑ps.length : Int)).toNat - 0)]⟩, some ⟨.row 25 2, .ints (List.take (((bndI none (↑ps.length : Int)).toNat - (bndI (some (IntKind.i64, i)) 0).toNat) * 2) (List.drop (0 + (bndI (some (IntKind.i64, i)) 0).toNat * 2) (flat ps)) ++ List.take (((bndI (some (IntKind.i64, IntKind.i64.wrap (k + 1))) (↑ps.length : Int)).toNat - 0) * 2) (List.drop 0 (flat ps)))⟩]))))))) := by kernel_rfl
theorem ptsA_tkV {ps : List Pt} {K : Nat} (h : K ≤ ps.length) : ptsA K (flat ps) = ps.take K := by
  obtain ⟨h1, h2⟩ := ptsA_spec (n := K) (xs := flat ps) (by rw [flat_length]; omega)
  rw [flat_take] at h1
  have l : (ps.take K).length = K := by rw [List.length_take]; omega
  calc ptsA K (flat ps) = ptsA (ptsA K (flat ps)).length (flat (ptsA K (flat ps))) := (ptsA_flat _).symm
    _ = ptsA (ps.take K).length (flat (ps.take K)) := by rw [h2, ← h1, l]
    _ = ps.take K := ptsA_flat _
theorem vfL_flat {ps : List Pt} {i k : Nat} (hi : i < ps.length) (hk : k < ps.length) (h : ¬ i ≤ k) : List.take ((ps.length - i) * 2) (List.drop (i * 2) (flat ps)) ++ List.take ((k + 1) * 2) (flat ps) = flat (vfL ps i k) := by
  unfold vfL
  rw [if_neg h, flat_append, flat_drop, flat_take, flat_take, List.take_of_length_le (by rw [List.length_drop]; omega)]
set_option maxRecDepth 100000 in
theorem resR_vf (ps : List Pt) (i k : Nat) (hi : i < ps.length) (hk : k < ps.length) (h : ps.length ≤ 500) : ResR Try.prog 48 [.row ps.length (.ints (flat ps)), .v (iv i), .v (iv k)] (rowP (vfL ps i k)) (blkP (vfL ps i k)) := by
  refine bodyX_resR mixed EVf_ok (m := 30) (n := 12) rfl ?_
  rw [tr_vfc]
  have w : IntKind.i64.wrap ((k : Int) + 1) = ((k + 1 : Nat) : Int) := by rw [show (k : Int) + 1 = ((k + 1 : Nat) : Int) by omega]; exact wr (by omega)
  have hl := vfL_len hi hk
  have hd : (List.drop (i * 2) (flat ps)).length = (ps.length - i) * 2 := by rw [flat_drop, flat_length, List.length_drop]
  have hf := flat_length ps
  simp only [w, bnd_some, bnd_none, Int.toNat_natCast, Int.toNat_zero, Nat.sub_zero, Nat.zero_add, List.drop_zero]
  refine brT_ok.2 ⟨fun c => ?_, fun c => ?_⟩
  · have c : i ≤ k := by have := of_decide_eq_true c; omega
    rw [if_pos c] at hl
    have e : ptsA (k + 1 - i) (List.drop (i * 2) (flat ps)) = vfL ps i k := by
      rw [flat_drop, ptsA_tkV (by rw [List.length_drop]; omega)]
      unfold vfL
      rw [if_pos c]
    rw [e]
    exact ⟨by omega, by omega, by omega, some 3, ⟨rfl, rfl, rfl⟩, rfl, rfl, rfl⟩
  · have c : ¬ i ≤ k := by have := of_decide_eq_false c; omega
    rw [if_neg c] at hl
    have e := vfL_flat hi hk c
    refine ⟨by omega, by omega, by omega, by omega, by omega, by omega, some 4, ⟨rfl, rfl, ?_⟩, rfl, rfl, ?_⟩
    · rw [hl]
    · rw [e]
      exact rfl
def RVf : TabR := fun f ds => match f, ds with
  | 48, [.row m (.ints xs), .v (.int .i64 i), .v (.int .i64 k)] => some (rowP (vfL (ptsA m xs) i.toNat k.toNat), blkP (vfL (ptsA m xs) i.toNat k.toNat), [m * 2 ≤ xs.length, m ≤ 500, 0 ≤ i ∧ i < m, 0 ≤ k ∧ k < m])
  | _, _ => none
theorem RVf_ok : TabROk Try.prog RVf := by
  intro f ds v b C h hC
  unfold RVf at h
  split at h
  · rename_i m xs i k
    obtain ⟨rfl, rfl, rfl⟩ : _ ∧ _ ∧ _ := by simpa using h
    obtain ⟨_, h2⟩ := ptsA_spec hC.1
    obtain ⟨a, rfl⟩ : ∃ a : Nat, i = (a : Int) := ⟨i.toNat, by have := hC.2.2.1; omega⟩
    obtain ⟨c, rfl⟩ : ∃ c : Nat, k = (c : Int) := ⟨k.toNat, by have := hC.2.2.2.1; omega⟩
    have ha := hC.2.2.1
    have hc := hC.2.2.2.1
    have h1 := resR_pts1 (pre := []) (post := [.v (iv a), .v (iv c)]) hC.1 (resR_vf (ptsA m xs) a c (by rw [h2]; omega) (by rw [h2]; omega) (by rw [h2]; exact hC.2.1))
    simp only [List.nil_append, List.cons_append] at h1
    exact h1
  · cases h
def TVf : Tab := fun f ds => match f with
  | 47 => pV daV ds
  | 26 => pIss ds
  | _ => none
theorem TVf_ok : TabOk Try.prog TVf := by
  intro f ds v C h hC
  unfold TVf at h
  split at h
  all_goals first | with_reducible exact pV_ok res_iDa h hC | with_reducible exact pIss_i h hC | cases h
def EDg0 : Env := mkE TVf RVf (fun _ => noL)
theorem EDg0_ok : EnvOk Try.prog EDg0 := mkEOk TVf_ok RVf_ok (fun _ _ _ => noL_good)
end Go.Proofs.Ytbhdhejefpdjfaa
namespace Go.Proofs.Ytbhdhejefpdjfaa
set_option linter.all false
open Go.RowKit
theorem flatC (o : List Pt) : List.take (o.length * 2) (List.drop 0 (flat o)) = flat o := by rw [List.drop_zero, flat_all]
theorem dgI_step {P : Nat → Nat → Bool} {a b n : Nat} (h : b < n) : dgI P a b (n - b) = bif P a b then ((a : Int), (b : Int)) :: dgI P a (b + 1) (n - (b + 1)) else dgI P a (b + 1) (n - (b + 1)) := by
  rw [show n - b = (n - (b + 1)) + 1 by omega]
  rfl
theorem dgI_end {P : Nat → Nat → Bool} {a b n : Nat} (h : n ≤ b) : dgI P a b (n - b) = [] := by
  rw [show n - b = 0 by omega]
  rfl
noncomputable def c_dgi : Code := ((loopsOf (codeOf Try.f11))[1]?).getD .skip
def k_dgi : Ex → List Nat := keeps [0, 3, 4, 5, 6, 13, 14] [(2, [0, 3, 4, 13, 14])] []
def s_dgi (ps : List Pt) (a : Nat) : Nat × (List Pt) → St := fun (b, o) => ⟨(.slice (some ⟨0, 0, none⟩) ps.length ps.length :: topV :: topV :: .func (.func 46) #[] #[.pointer (some ⟨1, 0, none⟩)] :: .slice (some ⟨3, 0, none⟩) o.length o.length :: .int .i64 a :: .int .i64 b :: topV :: topV :: topV :: topV :: topV :: topV :: .int .i64 ps.length :: .int .i64 a :: topV :: topV :: topV :: topV :: topV :: topV :: topV :: topV :: topV :: topV :: topV :: topV :: topV :: topV :: topV :: topV :: topV :: topV :: topV :: topV :: topV :: topV :: []), [some ⟨.view, .ints (flat ps)⟩, some ⟨.box, .vals [.slice (some ⟨0, 0, none⟩) ps.length ps.length]⟩, some ⟨.dead, .vals []⟩, some ⟨.row 55 2, .ints (flat o)⟩]⟩
def re_dgi : Nat × (List Pt) → Ex := fun _ => .exit 2
def rs_dgi (ps : List Pt) (a : Nat) : Nat × (List Pt) → St := fun (b, o) => ⟨(.slice (some ⟨0, 0, none⟩) ps.length ps.length :: topV :: topV :: .func (.func 46) #[] #[.pointer (some ⟨1, 0, none⟩)] :: .slice (some ⟨3, 0, none⟩) (o ++ dgI (dgT ps) a b (ps.length - b)).length (o ++ dgI (dgT ps) a b (ps.length - b)).length :: topV :: topV :: topV :: topV :: topV :: topV :: topV :: topV :: .int .i64 ps.length :: .int .i64 a :: topV :: topV :: topV :: topV :: topV :: topV :: topV :: topV :: topV :: topV :: topV :: topV :: topV :: topV :: topV :: topV :: topV :: topV :: topV :: topV :: topV :: topV :: []), [some ⟨.view, .ints (flat ps)⟩, some ⟨.box, .vals [.slice (some ⟨0, 0, none⟩) ps.length ps.length]⟩, some ⟨.dead, .vals []⟩, some ⟨.row 55 2, .ints (flat (o ++ dgI (dgT ps) a b (ps.length - b)))⟩]⟩
set_option maxRecDepth 100000 in
theorem tr_dgi (ps : List Pt) (a : Nat) (b : Nat) (o : List Pt) : bodyL Try.prog EDg0 30 12 noL 2 c_dgi k_dgi 24 (s_dgi ps a (b, o)) = brT (decide ((↑b : Int) < (↑ps.length : Int))) (.need (ps.length * (2 : Nat) ≤ (List.drop (0 : Nat) (flat ps)).length) (.need (ps.length ≤ (500 : Nat)) (.need ((0 : Int) ≤ (↑a : Int) ∧ (↑a : Int) < (↑ps.length : Int)) (.need ((0 : Int) ≤ (↑b : Int) ∧ (↑b : Int) < (↑ps.length : Int)) (.need ((vfL (ptsA ps.length (List.drop (0 : Nat) (flat ps))) (↑a : Int).toNat (↑b : Int).toNat).length * (2 : Nat) ≤ (List.drop (0 : Nat) (flat (vfL (ptsA ps.length (List.drop (0 : Nat) (flat ps))) (↑a : Int).toNat (↑b : Int).toNat))).length) (.need ((vfL (ptsA ps.length (List.drop (0 : Nat) (flat ps))) (↑a : Int).toNat (↑b : Int).toNat).length ≤ (1000000000 : Nat)) (.need (ps.length * (2 : Nat) ≤ (List.drop (0 : Nat) (flat ps)).length) (.need (ps.length ≤ (500 : Nat)) (.need ((0 : Int) ≤ (↑b : Int) ∧ (↑b : Int) < (↑ps.length : Int)) (.need ((0 : Int) ≤ (↑a : Int) ∧ (↑a : Int) < (↑ps.length : Int)) (.need ((vfL (ptsA ps.length (List.drop (0 : Nat) (flat ps))) (↑b : Int).toNat (↑a : Int).toNat).length * (2 : Nat) ≤ (List.drop (0 : Nat) (flat (vfL (ptsA ps.length (List.drop (0 : Nat) (flat ps))) (↑b : Int).toNat (↑a : Int).toNat))).length) (.need ((vfL (ptsA ps.length (List.drop (0 : Nat) (flat ps))) (↑b : Int).toNat (↑a : Int).toNat).length ≤ (1000000000 : Nat)) (brT (decide (0 < IntKind.i64.wrap (daV (ptsA (vfL (ptsA ps.length (List.drop 0 (flat ps))) (↑a : Int).toNat (↑b : Int).toNat).length (List.drop 0 (flat (vfL (ptsA ps.length (List.drop 0 (flat ps))) (↑a : Int).toNat (↑b : Int).toNat)))) * daV (ptsA (vfL (ptsA ps.length (List.drop 0 (flat ps))) (↑b : Int).toNat (↑a : Int).toNat).length (List.drop 0 (flat (vfL (ptsA ps.length (List.drop 0 (flat ps))) (↑b : Int).toNat (↑a : Int).toNat))))))) (.need ((o.length + (1 : Nat)) * (16 : Nat) ≤ (140737488355328 : Nat) ∧ o.length + (1 : Nat) ≤ (2000000 : Nat)) (.need ((0 : Nat) + o.length * (2 : Nat) ≤ (flat o).length) (.leaf .normal ⟨(.slice (some ⟨0, 0, none⟩) (ps.length) (ps.length) :: topV :: topV :: .func (Fn.func 46) #[] #[.pointer (some ⟨1, 0, none⟩)] :: .slice (some ⟨9, 0, none⟩) (o.length + 1) (o.length + 1) :: .int .i64 ((↑a : Int)) :: .int .i64 (IntKind.i64.wrap ((↑b : Int) + 1)) :: topV :: topV :: topV :: topV :: topV :: topV :: .int .i64 ((↑ps.length : Int)) :: .int .i64 ((↑a : Int)) :: topV :: topV :: topV :: topV :: topV :: topV :: topV :: topV :: topV :: topV :: topV :: topV :: topV :: topV :: topV :: topV :: topV :: topV :: topV :: topV :: topV :: topV :: []), [some ⟨.view, .ints (flat ps)⟩, some ⟨.box, .vals [.slice (some ⟨0, 0, none⟩) (ps.length) (ps.length)]⟩, some deadB, some deadB, some ⟨.row 25 2, .ints (flat (vfL (ptsA ps.length (List.drop 0 (flat ps))) (↑a : Int).toNat (↑b : Int).toNat))⟩, none, some ⟨.row 25 2, .ints (flat (vfL (ptsA ps.length (List.drop 0 (flat ps))) (↑b : Int).toNat (↑a : Int).toNat))⟩, none, some ⟨.row 55 2, .vals [.int .i64 ((↑a : Int)), .int .i64 ((↑b : Int))]⟩, some ⟨.row 55 2, .ints (List.take (o.length * 2) (List.drop 0 (flat o)) ++ [(↑a : Int), (↑b : Int)])⟩]⟩))) (.leaf .normal ⟨(.slice (some ⟨0, 0, none⟩) (ps.length) (ps.length) :: topV :: topV :: .func (Fn.func 46) #[] #[.pointer (some ⟨1, 0, none⟩)] :: .slice (some ⟨3, 0, none⟩) (o.length) (o.length) :: .int .i64 ((↑a : Int)) :: .int .i64 (IntKind.i64.wrap ((↑b : Int) + 1)) :: topV :: topV :: topV :: topV :: topV :: topV :: .int .i64 ((↑ps.length : Int)) :: .int .i64 ((↑a : Int)) :: topV :: topV :: topV :: topV :: topV :: topV :: topV :: topV :: topV :: topV :: topV :: topV :: topV :: topV :: topV :: topV :: topV :: topV :: topV :: topV :: topV :: topV :: []), [some ⟨.view, .ints (flat ps)⟩, some ⟨.box, .vals [.slice (some ⟨0, 0, none⟩) (ps.length) (ps.length)]⟩, some deadB, some ⟨.row 55 2, .ints (flat o)⟩, some ⟨.row 25 2, .ints (flat (vfL (ptsA ps.length (List.drop 0 (flat ps))) (↑a : Int).toNat (↑b : Int).toNat))⟩, none, some ⟨.row 25 2, .ints (flat (vfL (ptsA ps.length (List.drop 0 (flat ps))) (↑b : Int).toNat (↑a : Int).toNat))⟩, none]⟩)))))))))))))) (.leaf (.exit 2) ⟨(.slice (some ⟨0, 0, none⟩) (ps.length) (ps.length) :: topV :: topV :: .func (Fn.func 46) #[] #[.pointer (some ⟨1, 0, none⟩)] :: .slice (some ⟨3, 0, none⟩) (o.length) (o.length) :: topV :: topV :: topV :: topV :: topV :: topV :: topV :: topV :: .int .i64 ((↑ps.length : Int)) :: .int .i64 ((↑a : Int)) :: topV :: topV :: topV :: topV :: topV :: topV :: topV :: topV :: topV :: topV :: topV :: topV :: topV :: topV :: topV :: topV :: topV :: topV :: topV :: topV :: topV :: topV :: []), [some ⟨.view, .ints (flat ps)⟩, some ⟨.box, .vals [.slice (some ⟨0, 0, none⟩) (ps.length) (ps.length)]⟩, some deadB, some ⟨.row 55 2, .ints (flat o)⟩]⟩) := by kernel_rfl
set_option maxRecDepth 100000 in
theorem nl_dgi : loopsOf c_dgi = [] := by kernel_rfl
def inv_dgi (ps : List Pt) (a : Nat) : Nat × (List Pt) → Prop := fun (b, o) => (a + 1 ≤ b ∧ b ≤ ps.length) ∧ o.length + (ps.length - b) ≤ 900000
def me_dgi (ps : List Pt) (a : Nat) : Nat × (List Pt) → Nat := fun (b, o) => ps.length - b
/-- A round of this loop. -/
def Round_dgi (ps : List Pt) (a : Nat) : Prop := ∀ xx : Nat × (List Pt), inv_dgi ps a xx → (bodyL Try.prog EDg0 30 12 noL 2 c_dgi k_dgi 24 (s_dgi ps a xx)).ok (RoundEnd 3 (s_dgi ps a) (inv_dgi ps a) (me_dgi ps a) re_dgi (rs_dgi ps a) xx) (fun _ _ => False)
def e_dgi (s : St) (k : Ex → St → Tree) : Option Tree := match Nat.beq s.tmps.length 37, pickL s.tmps [0, 3, 4, 5, 6, 13, 14], s.mem with
  | true, [.slice (some ⟨0, 0, none⟩) n _, .func (.func 46) ⟨[]⟩ ⟨[.pointer (some ⟨1, 0, none⟩)]⟩, .slice (some ⟨2, 0, none⟩) z _, .int .i64 a0, .int .i64 b0, .int .i64 n1, .int .i64 a1], [some ⟨.view, .ints xs⟩, some ⟨.box, .vals [.slice (some ⟨0, 0, none⟩) n2 _]⟩, some ⟨.row 55 2, .ints ys⟩] => some (needs [a0 = a1, n1 = n, n2 = n, xs.length = n * 2, n ≤ 20, 0 ≤ a0 ∧ a0 < n, a0 + 1 ≤ b0 ∧ b0 ≤ n, ys.length = z * 2, z ≤ 800000] (k (.exit 2) ⟨(.slice (some ⟨0, 0, none⟩) n n :: topV :: topV :: .func (.func 46) #[] #[.pointer (some ⟨1, 0, none⟩)] :: .slice (some ⟨3, 0, none⟩) (ptsA z ys ++ dgI (dgT (ptsA n xs)) a0.toNat b0.toNat (n - b0.toNat)).length (ptsA z ys ++ dgI (dgT (ptsA n xs)) a0.toNat b0.toNat (n - b0.toNat)).length :: topV :: topV :: topV :: topV :: topV :: topV :: topV :: topV :: .int .i64 n :: .int .i64 a0 :: topV :: topV :: topV :: topV :: topV :: topV :: topV :: topV :: topV :: topV :: topV :: topV :: topV :: topV :: topV :: topV :: topV :: topV :: topV :: topV :: topV :: topV :: []), [some ⟨.view, .ints xs⟩, some ⟨.box, .vals [.slice (some ⟨0, 0, none⟩) n n]⟩, some ⟨.dead, .vals []⟩, some ⟨.row 55 2, .ints (flat (ptsA z ys ++ dgI (dgT (ptsA n xs)) a0.toNat b0.toNat (n - b0.toNat)))⟩]⟩))
  | _, _, _ => none
set_option maxRecDepth 100000 in
theorem round_dgi (ps : List Pt) (a : Nat) (h : ps.length ≤ 20) (ha : a < ps.length) : Round_dgi ps a := by
  rintro ⟨b, o⟩ ⟨⟨h1, h2⟩, h3⟩
  rw [tr_dgi]
  simp only [Int.toNat_natCast, Nat.zero_add, Nat.add_zero, flat_length, flatC, List.drop_zero, ptsA_flat]
  refine brT_ok.2 ⟨fun hlt => ?_, fun hge => ?_⟩
  · have hlt := of_decide_eq_true hlt
    have hb : b < ps.length := by omega
    have w : IntKind.i64.wrap ((b : Int) + 1) = ((b + 1 : Nat) : Int) := by rw [show (b : Int) + 1 = ((b + 1 : Nat) : Int) by omega]; exact wr (by omega)
    have st := dgI_step (P := dgT ps) (a := a) hb
    have l1 := vfL_len (p := ps) ha hb
    have l2 := vfL_len (p := ps) hb ha
    have c1 : (vfL ps a b).length ≤ 1000000000 := by rw [l1]; split <;> omega
    have c2 : (vfL ps b a).length ≤ 1000000000 := by rw [l2]; split <;> omega
    rw [w]
    simp only [Tree.ok]
    refine ⟨Nat.le_refl _, by omega, by omega, by omega, Nat.le_refl _, c1, Nat.le_refl _, by omega, by omega, by omega, Nat.le_refl _, c2, brT_ok.2 ⟨fun g => ?_, fun g => ?_⟩⟩
    · have g : dgT ps a b = true := g
      rw [g, cond_true] at st
      rw [List.take_of_length_le (by rw [flat_length]; omega), flat_snoc]
      refine ⟨⟨by omega, by omega⟩, Nat.le_refl _, (b + 1, o ++ [((a : Int), (b : Int))]), [some 9], ⟨⟨by omega, by omega⟩, by simp; omega⟩, ?_, rfl, ?_, ?_⟩
      · show ps.length - (b + 1) < ps.length - b; omega
      · simp only [rs_dgi, st, List.append_assoc, List.singleton_append]
      · repeat' (first | exact True.intro | exact rfl | exact fun _ => rfl | (simp; done) | refine And.intro ?_ ?_)
    · have g : dgT ps a b = false := g
      rw [g, cond_false] at st
      refine ⟨(b + 1, o), [some 3], ⟨⟨by omega, by omega⟩, by omega⟩, ?_, rfl, ?_, ?_⟩
      · show ps.length - (b + 1) < ps.length - b; omega
      · simp only [rs_dgi, st]
      · repeat' (first | exact True.intro | exact rfl | exact fun _ => rfl | (simp; done) | refine And.intro ?_ ?_)
  · have hge := of_decide_eq_false hge
    refine ⟨rfl, [some 3], ?_⟩
    simp only [rs_dgi, dgI_end (P := dgT ps) (a := a) (b := b) (n := ps.length) (by omega), List.append_nil]
    repeat' (first | exact True.intro | exact rfl | exact fun _ => rfl | (simp; done) | refine And.intro ?_ ?_)
set_option maxRecDepth 100000 in
theorem lg_dgi : LoopE Try.prog e_dgi c_dgi := by
  intro s k t F H hlt ht
  unfold e_dgi at hlt
  split at hlt
  rotate_left
  · cases hlt
  rename_i hlen hpick hmem
  obtain ⟨tmps, mem⟩ := s
  simp only at hlen hpick hmem
  subst hmem
  obtain rfl := Option.some.inj hlt
  obtain ⟨⟨rfl, rfl, rfl, h1, h2, h3, h4, g1, g2, _⟩, ht2⟩ := needs_ok ht
  clear ht hlt
  obtain ⟨ps, rfl, rfl⟩ := even_flat h1
  obtain ⟨o, rfl, rfl⟩ := even_flat g1
  obtain ⟨b, eb⟩ := Int.eq_ofNat_of_zero_le (Int.le_trans (Int.add_nonneg h3.1 (by decide)) h4.1)
  obtain ⟨a, ea⟩ := Int.eq_ofNat_of_zero_le h3.1
  subst ea
  subst eb
  rw [ptsA_flat, ptsA_flat] at ht2
  simp only [Int.toNat_natCast] at ht2
  refine ⟨_, _, ht2, loop_run2 mixed EDg0_ok (s_dgi ps a) (inv_dgi ps a) (me_dgi ps a) re_dgi (rs_dgi ps a) k_dgi (fun _ => rfl) (noLoops nl_dgi) (round_dgi ps a h2 (by omega)) (x := (b, o)) ⟨⟨by omega, by omega⟩, by omega⟩ (π := [some 2]) rfl ?_⟩
  refine ⟨rfl, rfl, ?_, wvs_spread' [0, 3, 4, 5, 6, 13, 14] hlen rfl ?_⟩
  · repeat' (first | exact True.intro | exact rfl | exact wv_top _ _ | exact fun _ => rfl | assumption | exact Eq.symm (by assumption) | exact vI0 rfl | refine And.intro ?_ ?_)
  · rw [hpick]
    repeat' (first | exact True.intro | exact rfl | exact wv_top _ _ | exact fun _ => rfl | assumption | exact Eq.symm (by assumption) | exact vI0 rfl | refine And.intro ?_ ?_)
def ltDg : LT := fun j s k => match j with
  | 1 => e_dgi s k
  | _ => none
theorem dgO_step {P : Nat → Nat → Bool} {a n : Nat} (h : a < n) : dgO P n a (n - a) = dgI P a (a + 1) (n - (a + 1)) ++ dgO P n (a + 1) (n - (a + 1)) := by
  rw [show n - a = (n - (a + 1)) + 1 by omega]
  rfl
theorem dgO_end {P : Nat → Nat → Bool} {a n : Nat} (h : n ≤ a) : dgO P n a (n - a) = [] := by
  rw [show n - a = 0 by omega]
  rfl
noncomputable def c_dgo : Code := ((loopsOf (codeOf Try.f11))[0]?).getD .skip
def k_dgo : Ex → List Nat := keeps [0, 3, 4, 13, 14] [(0, [4])] []
def s_dgo (ps : List Pt) : Nat × (List Pt) → St := fun (a, o) => ⟨(.slice (some ⟨0, 0, none⟩) ps.length ps.length :: topV :: topV :: .func (.func 46) #[] #[.pointer (some ⟨1, 0, none⟩)] :: .slice (some ⟨2, 0, none⟩) o.length o.length :: topV :: topV :: topV :: topV :: topV :: topV :: topV :: topV :: .int .i64 ps.length :: .int .i64 a :: topV :: topV :: topV :: topV :: topV :: topV :: topV :: topV :: topV :: topV :: topV :: topV :: topV :: topV :: topV :: topV :: topV :: topV :: topV :: topV :: topV :: topV :: []), [some ⟨.view, .ints (flat ps)⟩, some ⟨.box, .vals [.slice (some ⟨0, 0, none⟩) ps.length ps.length]⟩, some ⟨.row 55 2, .ints (flat o)⟩]⟩
def re_dgo : Nat × (List Pt) → Ex := fun _ => .exit 0
def rs_dgo (ps : List Pt) : Nat × (List Pt) → St := fun (a, o) => ⟨(topV :: topV :: topV :: topV :: .slice (some ⟨2, 0, none⟩) (o ++ dgO (dgT ps) ps.length a (ps.length - a)).length (o ++ dgO (dgT ps) ps.length a (ps.length - a)).length :: topV :: topV :: topV :: topV :: topV :: topV :: topV :: topV :: topV :: topV :: topV :: topV :: topV :: topV :: topV :: topV :: topV :: topV :: topV :: topV :: topV :: topV :: topV :: topV :: topV :: topV :: topV :: topV :: topV :: topV :: topV :: topV :: []), [some ⟨.view, .ints (flat ps)⟩, some ⟨.box, .vals [.slice (some ⟨0, 0, none⟩) ps.length ps.length]⟩, some ⟨.row 55 2, .ints (flat (o ++ dgO (dgT ps) ps.length a (ps.length - a)))⟩]⟩
set_option maxRecDepth 100000 in
theorem tr_dgo (ps : List Pt) (a : Nat) (o : List Pt) : bodyL Try.prog EDg0 30 12 ltDg 1 c_dgo k_dgo 24 (s_dgo ps (a, o)) = brT (decide ((↑a : Int) < (↑ps.length : Int))) (.need ((↑a : Int) = (↑a : Int)) (.need ((↑ps.length : Int) = (↑ps.length : Int)) (.need (ps.length = ps.length) (.need ((flat ps).length = ps.length * (2 : Nat)) (.need (ps.length ≤ (20 : Nat)) (.need ((0 : Int) ≤ (↑a : Int) ∧ (↑a : Int) < (↑ps.length : Int)) (.need ((↑a : Int) + (1 : Int) ≤ IntKind.i64.wrap ((↑a : Int) + (1 : Int)) ∧ IntKind.i64.wrap ((↑a : Int) + (1 : Int)) ≤ (↑ps.length : Int)) (.need ((flat o).length = o.length * (2 : Nat)) (.need (o.length ≤ (800000 : Nat)) (.leaf .normal ⟨(.slice (some ⟨0, 0, none⟩) (ps.length) (ps.length) :: topV :: topV :: .func (Fn.func 46) #[] #[.pointer (some ⟨1, 0, none⟩)] :: .slice (some ⟨3, 0, none⟩) ((ptsA o.length (flat o) ++ dgI (dgT (ptsA ps.length (flat ps))) (↑a : Int).toNat (IntKind.i64.wrap ((↑a : Int) + 1)).toNat (ps.length - (IntKind.i64.wrap ((↑a : Int) + 1)).toNat)).length) ((ptsA o.length (flat o) ++ dgI (dgT (ptsA ps.length (flat ps))) (↑a : Int).toNat (IntKind.i64.wrap ((↑a : Int) + 1)).toNat (ps.length - (IntKind.i64.wrap ((↑a : Int) + 1)).toNat)).length) :: topV :: topV :: topV :: topV :: topV :: topV :: topV :: topV :: .int .i64 ((↑ps.length : Int)) :: .int .i64 (IntKind.i64.wrap ((↑a : Int) + 1)) :: topV :: topV :: topV :: topV :: topV :: topV :: topV :: topV :: topV :: topV :: topV :: topV :: topV :: topV :: topV :: topV :: topV :: topV :: topV :: topV :: topV :: topV :: []), [some ⟨.view, .ints (flat ps)⟩, some ⟨.box, .vals [.slice (some ⟨0, 0, none⟩) (ps.length) (ps.length)]⟩, some deadB, some ⟨.row 55 2, .ints (flat (ptsA o.length (flat o) ++ dgI (dgT (ptsA ps.length (flat ps))) (↑a : Int).toNat (IntKind.i64.wrap ((↑a : Int) + 1)).toNat (ps.length - (IntKind.i64.wrap ((↑a : Int) + 1)).toNat)))⟩]⟩)))))))))) (.leaf (.exit 0) ⟨(topV :: topV :: topV :: topV :: .slice (some ⟨2, 0, none⟩) (o.length) (o.length) :: topV :: topV :: topV :: topV :: topV :: topV :: topV :: topV :: topV :: topV :: topV :: topV :: topV :: topV :: topV :: topV :: topV :: topV :: topV :: topV :: topV :: topV :: topV :: topV :: topV :: topV :: topV :: topV :: topV :: topV :: topV :: topV :: []), [some ⟨.view, .ints (flat ps)⟩, some ⟨.box, .vals [.slice (some ⟨0, 0, none⟩) (ps.length) (ps.length)]⟩, some ⟨.row 55 2, .ints (flat o)⟩]⟩) := by kernel_rfl
def inv_dgo (ps : List Pt) : Nat × (List Pt) → Prop := fun (a, o) => a ≤ ps.length ∧ o.length + (ps.length - a) * ps.length ≤ 700000
def me_dgo (ps : List Pt) : Nat × (List Pt) → Nat := fun (a, o) => ps.length - a
/-- A round of this loop. -/
def Round_dgo (ps : List Pt) : Prop := ∀ xx : Nat × (List Pt), inv_dgo ps xx → (bodyL Try.prog EDg0 30 12 ltDg 1 c_dgo k_dgo 24 (s_dgo ps xx)).ok (RoundEnd 2 (s_dgo ps) (inv_dgo ps) (me_dgo ps) re_dgo (rs_dgo ps) xx) (fun _ _ => False)
def e_dgo (s : St) (k : Ex → St → Tree) : Option Tree := match Nat.beq s.tmps.length 37, pickL s.tmps [0, 3, 4, 13, 14], s.mem with
  | true, [.slice (some ⟨0, 0, none⟩) n _, .func (.func 46) ⟨[]⟩ ⟨[.pointer (some ⟨1, 0, none⟩)]⟩, .slice none 0 0, .int .i64 n1, .int .i64 a1], [some ⟨.view, .ints xs⟩, some ⟨.box, .vals [.slice (some ⟨0, 0, none⟩) n2 _]⟩] => some (needs [a1 = 0, n1 = n, n2 = n, xs.length = n * 2, n ≤ 20] (k (.exit 0) ⟨(topV :: topV :: topV :: topV :: .slice (some ⟨2, 0, none⟩) (dgO (dgT (ptsA n xs)) n 0 n).length (dgO (dgT (ptsA n xs)) n 0 n).length :: topV :: topV :: topV :: topV :: topV :: topV :: topV :: topV :: topV :: topV :: topV :: topV :: topV :: topV :: topV :: topV :: topV :: topV :: topV :: topV :: topV :: topV :: topV :: topV :: topV :: topV :: topV :: topV :: topV :: topV :: topV :: topV :: []), [some ⟨.view, .ints xs⟩, some ⟨.box, .vals [.slice (some ⟨0, 0, none⟩) n n]⟩, some ⟨.row 55 2, .ints (flat (dgO (dgT (ptsA n xs)) n 0 n))⟩]⟩))
  | _, _, _ => none
set_option maxRecDepth 100000 in
theorem in_dgo : loopsOf c_dgo = [c_dgi] := by kernel_rfl
theorem ltDg_good : LoopsGood Try.prog ltDg 1 c_dgo := by
  intro i d hd s k t F H hlt ht
  rw [in_dgo] at hd
  cases i with
  | zero =>
    obtain rfl : c_dgi = d := by simpa using hd
    exact lg_dgi s k t F H hlt ht
  | succ i => simp at hd
set_option maxRecDepth 100000 in
theorem round_dgo (ps : List Pt) (h : ps.length ≤ 20) : Round_dgo ps := by
  rintro ⟨a, o⟩ ⟨h1, h2⟩
  rw [tr_dgo]
  simp only [Int.toNat_natCast, Nat.zero_add, Nat.add_zero, flat_length, flatC, List.drop_zero, ptsA_flat]
  refine brT_ok.2 ⟨fun hlt => ?_, fun hge => ?_⟩
  · have hlt := of_decide_eq_true hlt
    have ha : a < ps.length := by omega
    have w : IntKind.i64.wrap ((a : Int) + 1) = ((a + 1 : Nat) : Int) := by rw [show (a : Int) + 1 = ((a + 1 : Nat) : Int) by omega]; exact wr (by omega)
    have st := dgO_step (P := dgT ps) ha
    have hl := dgI_le (dgT ps) a (ps.length - (a + 1)) (a + 1)
    have e : ps.length - a = (ps.length - (a + 1)) + 1 := by omega
    rw [e, Nat.add_mul, Nat.one_mul] at h2
    rw [w]
    simp only [Int.toNat_natCast]
    refine ⟨True.intro, True.intro, True.intro, True.intro, h, by omega, by omega, True.intro, by omega, (a + 1, o ++ dgI (dgT ps) a (a + 1) (ps.length - (a + 1))), [some 3], ⟨by omega, by rw [List.length_append]; omega⟩, ?_, rfl, ?_, ?_⟩
    · show ps.length - (a + 1) < ps.length - a; omega
    · simp only [rs_dgo, st, List.append_assoc]
    · repeat' (first | exact True.intro | exact rfl | exact fun _ => rfl | (simp; done) | refine And.intro ?_ ?_)
  · have hge := of_decide_eq_false hge
    refine ⟨rfl, [some 2], ?_⟩
    simp only [rs_dgo, dgO_end (P := dgT ps) (a := a) (n := ps.length) (by omega), List.append_nil]
    repeat' (first | exact True.intro | exact rfl | exact fun _ => rfl | (simp; done) | refine And.intro ?_ ?_)
set_option maxRecDepth 100000 in
theorem lg_dgo : LoopE Try.prog e_dgo c_dgo := by
  intro s k t F H hlt ht
  unfold e_dgo at hlt
  split at hlt
  rotate_left
  · cases hlt
  rename_i hlen hpick hmem
  obtain ⟨tmps, mem⟩ := s
  simp only at hlen hpick hmem
  subst hmem
  obtain rfl := Option.some.inj hlt
  obtain ⟨⟨rfl, rfl, rfl, h1, h2, _⟩, ht2⟩ := needs_ok ht
  clear ht hlt
  obtain ⟨ps, rfl, rfl⟩ := even_flat h1
  rw [ptsA_flat] at ht2
  refine ⟨_, _, ht2, loop_run2 mixed EDg0_ok (s_dgo ps) (inv_dgo ps) (me_dgo ps) re_dgo (rs_dgo ps) k_dgo (fun _ => rfl) ltDg_good (round_dgo ps h2) (x := (0, [])) ⟨Nat.zero_le _, by have := Nat.mul_le_mul h2 h2; simp; omega⟩ (π := [none]) rfl ?_⟩
  refine ⟨rfl, rfl, ?_, wvs_spread' [0, 3, 4, 13, 14] hlen rfl ?_⟩
  · repeat' (first | exact True.intro | exact rfl | exact wv_top _ _ | exact fun _ => rfl | assumption | exact Eq.symm (by assumption) | exact vI0 rfl | refine And.intro ?_ ?_)
  · rw [hpick]
    repeat' (first | exact True.intro | exact rfl | exact wv_top _ _ | exact fun _ => rfl | assumption | exact Eq.symm (by assumption) | exact vI0 rfl | refine And.intro ?_ ?_)
theorem Lr_dgo {fn : Func} (hf : Try.prog.funcs[11]? = some fn) : LoopsGood Try.prog (lt1 e_dgo) 0 (codeOf fn) := by
  obtain rfl := fn_is Try.func11 hf
  exact lt1_good lg_dgo
def LDg : FuncId → LT := fun f => match f with
  | 11 => lt1 e_dgo
  | _ => noL
def EDg : Env := mkE TVf RVf LDg
theorem EDg_ok : EnvOk Try.prog EDg := mkEOk TVf_ok RVf_ok (by
  intro f fn hf
  unfold LDg
  split
  all_goals first | with_reducible exact Lr_dgo hf | exact noL_good)
set_option maxRecDepth 100000 in
theorem tr_iDg (ps : List Pt) : bodyX Try.prog EDg 30 12 11 [.row ps.length (.ints (flat ps))] = .need (ps.length * (2 : Nat) ≤ (List.drop (0 : Nat) (flat ps)).length) (.need (ps.length ≤ (1000000000 : Nat)) (brT (!issI (ptsA ps.length (List.drop 0 (flat ps)))) (.fin (.slice none (0) (0)) [some ⟨.view, .ints (flat ps)⟩]) (.need ((0 : Int) = (0 : Int)) (.need ((↑ps.length : Int) = (↑ps.length : Int)) (.need (ps.length = ps.length) (.need ((flat ps).length = ps.length * (2 : Nat)) (.need (ps.length ≤ (20 : Nat)) (.fin (.slice (some ⟨2, 0, none⟩) ((dgO (dgT (ptsA ps.length (flat ps))) ps.length 0 ps.length).length) ((dgO (dgT (ptsA ps.length (flat ps))) ps.length 0 ps.length).length)) [some ⟨.view, .ints (flat ps)⟩, some ⟨.box, .vals [.slice (some ⟨0, 0, none⟩) (ps.length) (ps.length)]⟩, some ⟨.row 55 2, .ints (flat (dgO (dgT (ptsA ps.length (flat ps))) ps.length 0 ps.length))⟩])))))))) := by kernel_rfl
abbrev blkR (d : List Pt) : Blk := ⟨.row 55 2, .ints (flat d)⟩
theorem resR_iDg {ps : List Pt} (hs : issI ps = true) : ResR Try.prog 11 [.row ps.length (.ints (flat ps))] (rowP (dgO (dgT ps) ps.length 0 ps.length)) (blkR (dgO (dgT ps) ps.length 0 ps.length)) := by
  refine bodyX_resR mixed EDg_ok (m := 30) (n := 12) rfl ?_
  rw [tr_iDg]
  have hh := hs
  unfold issI okL at hh
  simp only [Bool.and_eq_true, decide_eq_true_eq] at hh
  have h20 := hh.1.2.2
  simp only [List.drop_zero, ptsA_flat, hs, Bool.not_true, brT_f, Tree.ok]
  have hf := flat_length ps
  exact ⟨by omega, by omega, True.intro, True.intro, True.intro, by omega, h20, some 2, ⟨rfl, rfl, rfl⟩, rfl, rfl, rfl⟩
end Go.Proofs.Ytbhdhejefpdjfaa
namespace Go.Proofs.Ytbhdhejefpdjfaa
set_option linter.all false
open Go.RowKit
set_option maxRecDepth 100000 in
theorem tr_pick (bs : List Int) (l c : Nat) (p k : Int) : bodyM Try.prog (tabE B0) (runM Try.prog (tabE B0) 30 12) 30 22 [.pointer (some ⟨1, 0, none⟩), .int .i64 k] (memR bs l c p none) .fin = brT (decide (k < 1)) (.fin (.int .i64 (0)) [some ⟨.view, .bytes (bs)⟩, some ⟨.box, .vals [.slice (some ⟨0, 0, none⟩) (l) (c), .int .i64 (IntKind.i64.wrap (p + 1))]⟩]) (brT ((↑l : Int) == 0) (.fin (.int .i64 (0)) [some ⟨.view, .bytes (bs)⟩, some ⟨.box, .vals [.slice (some ⟨0, 0, none⟩) (l) (c), .int .i64 (IntKind.i64.wrap (p + 1))]⟩]) (brT (decide (IntKind.i64.wrap (IntKind.i64.wrap (p + 1) - 1) < (↑l : Int))) (.need ((0 : Int) ≤ IntKind.i64.wrap (IntKind.i64.wrap (p + (1 : Int)) - (1 : Int)) ∧ IntKind.i64.wrap (IntKind.i64.wrap (p + (1 : Int)) - (1 : Int)) < (↑l : Int)) (.need ((0 : Nat) + (IntKind.i64.wrap (IntKind.i64.wrap (p + (1 : Int)) - (1 : Int))).toNat * (1 : Nat) < bs.length) (.need (¬k = (0 : Int)) (.fin (.int .i64 ((IntKind.i64.wrap (bs.getD (0 + (IntKind.i64.wrap (IntKind.i64.wrap (p + 1) - 1)).toNat * 1) 0)).tmod k)) [some ⟨.view, .bytes (bs)⟩, some ⟨.box, .vals [.slice (some ⟨0, 0, none⟩) (l) (c), .int .i64 (IntKind.i64.wrap (p + 1))]⟩])))) (.need (¬(↑l : Int) = (0 : Int)) (.need ((0 : Int) ≤ (IntKind.i64.wrap (IntKind.i64.wrap (p + (1 : Int)) - (1 : Int))).tmod (↑l : Int) ∧ (IntKind.i64.wrap (IntKind.i64.wrap (p + (1 : Int)) - (1 : Int))).tmod (↑l : Int) < (↑l : Int)) (.need ((0 : Nat) + ((IntKind.i64.wrap (IntKind.i64.wrap (p + (1 : Int)) - (1 : Int))).tmod (↑l : Int)).toNat * (1 : Nat) < bs.length) (.need (¬(↑l : Int) = (0 : Int)) (.need ((0 : Int) ≤ (IntKind.i64.wrap (IntKind.i64.wrap (IntKind.i64.wrap (IntKind.i64.wrap (p + (1 : Int)) - (1 : Int)) * (7 : Int)) + (3 : Int))).tmod (↑l : Int) ∧ (IntKind.i64.wrap (IntKind.i64.wrap (IntKind.i64.wrap (IntKind.i64.wrap (p + (1 : Int)) - (1 : Int)) * (7 : Int)) + (3 : Int))).tmod (↑l : Int) < (↑l : Int)) (.need ((0 : Nat) + ((IntKind.i64.wrap (IntKind.i64.wrap (IntKind.i64.wrap (IntKind.i64.wrap (p + (1 : Int)) - (1 : Int)) * (7 : Int)) + (3 : Int))).tmod (↑l : Int)).toNat * (1 : Nat) < bs.length) (.need (¬(↑l : Int) = (0 : Int)) (.need (¬(64 : Int) = (0 : Int)) (.need (¬k = (0 : Int)) (.fin (.int .i64 ((IntKind.i64.wrap (↑(BitVec.ofInt IntKind.i64.bits (IntKind.i64.wrap (IntKind.i64.wrap (IntKind.i64.wrap (IntKind.i64.wrap (IntKind.i64.wrap (bs.getD (0 + ((IntKind.i64.wrap (IntKind.i64.wrap (p + 1) - 1)).tmod (↑l : Int)).toNat * (1 : Nat)) 0) * 131) + IntKind.i64.wrap (IntKind.i64.wrap (bs.getD (0 + ((IntKind.i64.wrap (IntKind.i64.wrap (IntKind.i64.wrap (IntKind.i64.wrap (p + 1) - 1) * 7) + 3)).tmod (↑l : Int)).toNat * (1 : Nat)) 0) * 1117)) + IntKind.i64.wrap (IntKind.i64.wrap (IntKind.i64.wrap (p + 1) - 1) * 29)) + IntKind.i64.wrap (IntKind.i64.wrap ((IntKind.i64.wrap (IntKind.i64.wrap (p + 1) - 1)).tdiv (↑l : Int)) * 53))) ^^^ BitVec.ofInt IntKind.i64.bits (IntKind.i64.wrap ((IntKind.i64.wrap (IntKind.i64.wrap (IntKind.i64.wrap (IntKind.i64.wrap (IntKind.i64.wrap (bs.getD (0 + ((IntKind.i64.wrap (IntKind.i64.wrap (p + 1) - 1)).tmod (↑l : Int)).toNat * (1 : Nat)) 0) * 131) + IntKind.i64.wrap (IntKind.i64.wrap (bs.getD (0 + ((IntKind.i64.wrap (IntKind.i64.wrap (IntKind.i64.wrap (IntKind.i64.wrap (p + 1) - 1) * 7) + 3)).tmod (↑l : Int)).toNat * (1 : Nat)) 0) * 1117)) + IntKind.i64.wrap (IntKind.i64.wrap (IntKind.i64.wrap (p + 1) - 1) * 29)) + IntKind.i64.wrap (IntKind.i64.wrap ((IntKind.i64.wrap (IntKind.i64.wrap (p + 1) - 1)).tdiv (↑l : Int)) * 53))).tdiv 64))).toNat : Int)).tmod k)) [some ⟨.view, .bytes (bs)⟩, some ⟨.box, .vals [.slice (some ⟨0, 0, none⟩) (l) (c), .int .i64 (IntKind.i64.wrap (p + 1))]⟩])))))))))))) := by kernel_rfl
def xorI (x : Int) : Int := IntKind.i64.wrap (↑(BitVec.ofInt IntKind.i64.bits x ^^^ BitVec.ofInt IntKind.i64.bits (IntKind.i64.wrap (x.tdiv 64))).toNat : Int)
def mixI (bs : List Int) (l : Nat) (p : Int) : Int := bs.getD (p.tmod l).toNat 0 * 131 + bs.getD ((p * 7 + 3).tmod l).toNat 0 * 1117 + p * 29 + p.tdiv l * 53
/-- What pick answers. -/
def pickI (bs : List Int) (l : Nat) (p k : Int) : Int := if k < 1 ∨ l = 0 then 0 else if p < l then (bs.getD p.toNat 0).tmod k else (xorI (mixI bs l p)).tmod k
/-- Is the reader in order? -/
def rdC (bs : List Int) (l : Nat) (p : Int) : Prop := l ≤ bs.length ∧ l ≤ 2000 ∧ 0 ≤ p ∧ p ≤ 1000000 ∧ Bytes bs
def pickS : RSpec := fun bs l p rest ex => match rest, ex with
  | [.int .i64 k], none => some (.int .i64 (pickI bs l p k), p + 1, [rdC bs l p])
  | _, _ => none
theorem Bytes.get {bs : List Int} (h : Bytes bs) (i : Nat) : 0 ≤ bs.getD i 0 ∧ bs.getD i 0 ≤ 255 := by
  rw [List.getD_eq_getElem?_getD]
  rcases hx : bs[i]? with _ | b
  · simp
  · simpa using h b (List.mem_of_getElem? hx)
theorem xorI_bd {x : Int} (h0 : 0 ≤ x) (h1 : x < 4611686018427387904) : 0 ≤ xorI x ∧ xorI x < 9223372036854775808 := by
  have hq : 0 ≤ x.tdiv 64 ∧ x.tdiv 64 ≤ x := by
    rw [Int.tdiv_eq_ediv_of_nonneg h0]
    omega
  unfold xorI
  rw [wr (x := x.tdiv 64) (by omega)]
  obtain ⟨a, rfl⟩ := Int.eq_ofNat_of_zero_le h0
  obtain ⟨b, hb⟩ := Int.eq_ofNat_of_zero_le hq.1
  rw [hb]
  have hb' : (b : Int) ≤ a := by rw [← hb]; exact hq.2
  have e : (BitVec.ofInt IntKind.i64.bits (a : Int) ^^^ BitVec.ofInt IntKind.i64.bits (b : Int)).toNat = a ^^^ b := by
    show (BitVec.ofInt 64 (a : Int) ^^^ BitVec.ofInt 64 (b : Int)).toNat = a ^^^ b
    rw [BitVec.toNat_xor]
    simp only [BitVec.ofInt_natCast, BitVec.toNat_ofNat]
    rw [Nat.mod_eq_of_lt (by omega), Nat.mod_eq_of_lt (by omega)]
  have hlt : a ^^^ b < 2 ^ 63 := Nat.xor_lt_two_pow (by omega) (by omega)
  rw [e, wr (by omega)]
  omega
theorem mixI_bd {bs : List Int} {l : Nat} {p : Int} (h : rdC bs l p) (hl : 0 < l) : 0 ≤ mixI bs l p ∧ mixI bs l p < 1000000000 := by
  obtain ⟨_, h2, h3, h4, h5⟩ := h
  have b1 := h5.get (p.tmod l).toNat
  have b2 := h5.get ((p * 7 + 3).tmod l).toNat
  have q : 0 ≤ p.tdiv l ∧ p.tdiv l ≤ p := by
    rw [Int.tdiv_eq_ediv_of_nonneg h3]
    exact ⟨Int.ediv_nonneg h3 (by omega), Int.ediv_le_self _ h3⟩
  unfold mixI
  omega
theorem pickI_bd {bs : List Int} {l : Nat} {p k : Int} (h : rdC bs l p) (hk : 1 ≤ k) : 0 ≤ pickI bs l p k ∧ pickI bs l p k < k := by
  unfold pickI
  split
  · omega
  rename_i hn
  have hl : 0 < l := by omega
  split
  · exact ⟨Int.tmod_nonneg _ (h.2.2.2.2.get _).1, Int.tmod_lt_of_pos _ (by omega)⟩
  · have hm := mixI_bd h hl
    exact ⟨Int.tmod_nonneg _ (xorI_bd hm.1 (by omega)).1, Int.tmod_lt_of_pos _ (by omega)⟩
theorem vk {k : IntKind} {a b : Int} (h : a = b) : Value.int k a = .int k b := by rw [h]
theorem pickS_ok : SpecOk Try.prog 22 pickS := by
  intro bs l c p rest0 ex v p' C h hC
  unfold pickS at h
  split at h
  rotate_left
  · cases h
  rename_i k
  obtain ⟨rfl, rfl, rfl⟩ : Value.int .i64 (pickI bs l p k) = v ∧ p + 1 = p' ∧ [rdC bs l p] = C := by simpa using h
  have hC := hC.1
  have hg := fun i => hC.2.2.2.2.get i
  have hC0 := hC
  obtain ⟨h1, h2, h3, h4, h5⟩ := hC
  refine ⟨tabE B0, 30, 12, tabE_ok B0_ok, rfl, ?_⟩
  rw [tr_pick]
  have e1 : IntKind.i64.wrap (p + 1) = p + 1 := wr (by omega)
  have e2 : IntKind.i64.wrap (p + 1 - 1) = p := by rw [wr (by omega)]; omega
  have e3 : IntKind.i64.wrap (p * 7) = p * 7 := wr (by omega)
  have e4 : IntKind.i64.wrap (p * 7 + 3) = p * 7 + 3 := wr (by omega)
  simp only [e1, e2, e3, e4, Nat.zero_add, Nat.mul_one]
  refine brT_ok.2 ⟨fun hk => ?_, fun hk => brT_ok.2 ⟨fun hl => ?_, fun hl => brT_ok.2 ⟨fun hp => ?_, fun hp => ?_⟩⟩⟩
  · have hk := of_decide_eq_true hk
    refine ⟨vk ?_, rfl⟩
    unfold pickI
    rw [if_pos (.inl hk)]
  · have hl : l = 0 := by simpa using hl
    refine ⟨vk ?_, rfl⟩
    unfold pickI
    rw [if_pos (.inr hl)]
  · have hk := of_decide_eq_false hk
    have hl : ¬ l = 0 := by simpa using hl
    have hp := of_decide_eq_true hp
    refine ⟨⟨h3, hp⟩, by omega, by omega, vk ?_, rfl⟩
    rw [wr (by have := hg p.toNat; omega)]
    unfold pickI
    rw [if_neg (by omega), if_pos hp]
  · have hk := of_decide_eq_false hk
    have hl : ¬ l = 0 := by simpa using hl
    have hp := of_decide_eq_false hp
    have hl0 : (0 : Int) < l := by omega
    have t1 : 0 ≤ p.tmod l ∧ p.tmod l < l := ⟨Int.tmod_nonneg _ h3, Int.tmod_lt_of_pos _ hl0⟩
    have t2 : 0 ≤ (p * 7 + 3).tmod l ∧ (p * 7 + 3).tmod l < l := ⟨Int.tmod_nonneg _ (by omega), Int.tmod_lt_of_pos _ hl0⟩
    have q : 0 ≤ p.tdiv l ∧ p.tdiv l ≤ p := by
      rw [Int.tdiv_eq_ediv_of_nonneg h3]
      exact ⟨Int.ediv_nonneg h3 (by omega), Int.ediv_le_self _ h3⟩
    have b1 := hg (p.tmod l).toNat
    have b2 := hg ((p * 7 + 3).tmod l).toNat
    have hm := mixI_bd hC0 (by omega)
    refine ⟨by omega, t1, by omega, by omega, t2, by omega, by omega, by omega, by omega, vk ?_, rfl⟩
    unfold pickI
    rw [if_neg (by omega), if_neg (by omega)]
    have em : IntKind.i64.wrap (IntKind.i64.wrap (IntKind.i64.wrap (IntKind.i64.wrap (IntKind.i64.wrap (bs.getD (p.tmod l).toNat 0) * 131) + IntKind.i64.wrap (IntKind.i64.wrap (bs.getD ((p * 7 + 3).tmod l).toNat 0) * 1117)) + IntKind.i64.wrap (p * 29)) + IntKind.i64.wrap (IntKind.i64.wrap (p.tdiv l) * 53)) = mixI bs l p := by
      clear hm
      unfold mixI
      generalize bs.getD (p.tmod l).toNat 0 = x1 at *
      generalize bs.getD ((p * 7 + 3).tmod l).toNat 0 = x2 at *
      generalize p.tdiv l = x3 at *
      simp (disch := omega) only [wr]
    rw [em]
    rfl
/-- The first table: pick. -/
def J1 : List (FuncId × RSpec) := [(22, pickS)]
theorem J1_ok : JOk Try.prog J1 := JOk.nil.cons (entersB_res (by kernel_rfl)).1 pickS_ok
def ER1 : Env := withJ (tabE B0) J1
theorem ER1_ok : EnvOk Try.prog ER1 := withJ_ok mixed (tabE_ok B0_ok) J1_ok
set_option maxRecDepth 100000 in
theorem tr_one (bs : List Int) (l c : Nat) (p : Int) (n : Nat) (xs : List Int) : bodyM Try.prog ER1 (runM Try.prog ER1 30 12) 30 15 [.pointer (some ⟨1, 0, none⟩), .slice (some ⟨2, 0, none⟩) n n] (memR bs l c p (some xs)) .fin = .need (rdC bs l p) (.need ((0 : Int) ≤ pickI bs l p (↑n : Int) ∧ pickI bs l p (↑n : Int) < (↑n : Int)) (.need ((0 : Nat) + (pickI bs l p (↑n : Int)).toNat * (1 : Nat) < xs.length) (.fin (.int .i64 (xs.getD (0 + (pickI bs l p (↑n : Int)).toNat * 1) 0)) [some ⟨.view, .bytes (bs)⟩, some ⟨.box, .vals [.slice (some ⟨0, 0, none⟩) (l) (c), .int .i64 (p + 1)]⟩, some ⟨.view, .ints (xs)⟩]))) := by kernel_rfl
set_option maxRecDepth 100000 in
theorem tr_rpt (bs : List Int) (l c : Nat) (p : Int) : bodyM Try.prog ER1 (runM Try.prog ER1 30 12) 30 31 [.pointer (some ⟨1, 0, none⟩)] (memR bs l c p none) .fin = .need (rdC bs l p) (.need (rdC bs l (p + (1 : Int))) (.fin (.agg #[.int .i64 (IntKind.i64.wrap (pickI bs l p 9 - 2)), .int .i64 (IntKind.i64.wrap (pickI bs l (p + 1) 9 - 2))]) [some ⟨.view, .bytes (bs)⟩, some ⟨.box, .vals [.slice (some ⟨0, 0, none⟩) (l) (c), .int .i64 (p + 1 + 1)]⟩, some ⟨.box, .vals [.int .i64 (IntKind.i64.wrap (pickI bs l p 9 - 2)), .int .i64 (IntKind.i64.wrap (pickI bs l (p + 1) 9 - 2))]⟩])) := by kernel_rfl
end Go.Proofs.Ytbhdhejefpdjfaa
namespace Go.Proofs.Ytbhdhejefpdjfaa
set_option linter.all false
open Go.RowKit
/-- The reader in order, with room for many more. -/
def rdK (bs : List Int) (l : Nat) (p : Int) : Prop := rdC bs l p ∧ p ≤ 900000
theorem rdK.at {bs : List Int} {l : Nat} {p : Int} (h : rdK bs l p) {q : Int} (h0 : p ≤ q) (h1 : q ≤ p + 90000) : rdC bs l q :=
  ⟨h.1.1, h.1.2.1, by have := h.1.2.2.1; omega, by have := h.2; omega, h.1.2.2.2.2⟩
def oneI (bs : List Int) (l : Nat) (p : Int) (n : Nat) (xs : List Int) : Int := xs.getD (pickI bs l p n).toNat 0
def oneS : RSpec := fun bs l p rest ex => match rest, ex with
  | [.slice (some ⟨2, 0, none⟩) n n'], some xs => some (.int .i64 (oneI bs l p n xs), p + 1, [rdC bs l p, 1 ≤ n ∧ n ≤ xs.length ∧ n' = n])
  | _, _ => none
theorem oneS_ok : SpecOk Try.prog 15 oneS := by
  intro bs l c p rest0 ex v p' C h hC
  unfold oneS at h
  split at h
  rotate_left
  · cases h
  rename_i n n' xs
  obtain ⟨rfl, rfl, rfl⟩ : Value.int .i64 (oneI bs l p n xs) = v ∧ p + 1 = p' ∧ [rdC bs l p, 1 ≤ n ∧ n ≤ xs.length ∧ n' = n] = C := by simpa using h
  obtain ⟨h1, ⟨h2, h3, rfl⟩, _⟩ := hC
  refine ⟨ER1, 30, 12, ER1_ok, rfl, ?_⟩
  rw [tr_one]
  have hb := pickI_bd (k := (n' : Int)) h1 (by omega)
  exact ⟨h1, hb, by omega, by simp only [oneI, Nat.zero_add, Nat.mul_one], rfl⟩
def rptS : RSpec := fun bs l p rest ex => match rest, ex with
  | [], none => some (.agg #[.int .i64 (pickI bs l p 9 - 2), .int .i64 (pickI bs l (p + 1) 9 - 2)], p + 2, [rdK bs l p])
  | _, _ => none
theorem box2 {bs : List Int} {l c : Nat} {p q : Int} (h : q = p) (r : List (Option Blk)) : (some ⟨.view, .bytes bs⟩ :: some ⟨.box, .vals [.slice (some ⟨0, 0, none⟩) l c, .int .i64 q]⟩ :: r : List (Option Blk)).getD 1 none = some (rdBox 0 l c p) := by rw [h]; rfl
theorem rptS_ok : SpecOk Try.prog 31 rptS := by
  intro bs l c p rest0 ex v p' C h hC
  unfold rptS at h
  split at h
  rotate_left
  · cases h
  obtain ⟨rfl, rfl, rfl⟩ : Value.agg #[.int .i64 (pickI bs l p 9 - 2), .int .i64 (pickI bs l (p + 1) 9 - 2)] = v ∧ p + 2 = p' ∧ [rdK bs l p] = C := by simpa using h
  have h1 := hC.1
  refine ⟨ER1, 30, 12, ER1_ok, rfl, ?_⟩
  rw [tr_rpt]
  have h2 := h1.at (q := p) (by omega) (by omega)
  have h3 := h1.at (q := p + 1) (by omega) (by omega)
  have b1 := pickI_bd (k := 9) h2 (by omega)
  have b2 := pickI_bd (k := 9) h3 (by omega)
  exact ⟨h2, h3, by rw [wr (by omega), wr (by omega)], box2 (by omega) _⟩
def J2 : List (FuncId × RSpec) := (15, oneS) :: (31, rptS) :: J1
theorem J2_ok : JOk Try.prog J2 := (J1_ok.cons (entersB_res (by kernel_rfl)).1 rptS_ok).cons (entersB_res (by kernel_rfl)).1 oneS_ok
def ER2 : Env := withJ (tabE B0) J2
theorem ER2_ok : EnvOk Try.prog ER2 := withJ_ok mixed (tabE_ok B0_ok) J2_ok
set_option maxRecDepth 100000 in
theorem tr_apt (bs : List Int) (l c : Nat) (p : Int) : bodyM Try.prog ER2 (runM Try.prog ER2 30 12) 30 14 [.pointer (some ⟨1, 0, none⟩)] (memR bs l c p none) .fin = .need (rdK bs l p) (.need (rdC bs l (p + (2 : Int))) (brT (pickI bs l (p + 2) 16 == 0) (.need (rdC bs l (p + (2 : Int) + (1 : Int))) (.need ((1 : Nat) ≤ (4 : Nat) ∧ (4 : Nat) ≤ (4 : Nat) ∧ (4 : Nat) = (4 : Nat)) (.fin (.agg #[.int .i64 (oneI bs l (p + 2 + 1) 4 [1001, -1001, 1000, -1000]), .int .i64 (pickI bs l (p + 1) 9 - 2)]) [some ⟨.view, .bytes (bs)⟩, some ⟨.box, .vals [.slice (some ⟨0, 0, none⟩) (l) (c), .int .i64 (p + 2 + 1 + 1)]⟩, some ⟨.box, .vals [.int .i64 (oneI bs l (p + 2 + 1) 4 [1001, -1001, 1000, -1000]), .int .i64 (pickI bs l (p + 1) 9 - 2)]⟩, some ⟨.box, .vals [.int .i64 (oneI bs l (p + 2 + 1) 4 [1001, -1001, 1000, -1000]), .int .i64 (pickI bs l (p + 1) 9 - 2)]⟩, some ⟨.row 3 1, .vals [.int .i64 (1001), .int .i64 (-1001), .int .i64 (1000), .int .i64 (-1000)]⟩]))) (brT (pickI bs l (p + 2) 16 == 1) (.need (rdC bs l (p + (2 : Int) + (1 : Int))) (.need ((1 : Nat) ≤ (4 : Nat) ∧ (4 : Nat) ≤ (4 : Nat) ∧ (4 : Nat) = (4 : Nat)) (.fin (.agg #[.int .i64 (pickI bs l p 9 - 2), .int .i64 (oneI bs l (p + 2 + 1) 4 [1001, -1001, 1000, -1000])]) [some ⟨.view, .bytes (bs)⟩, some ⟨.box, .vals [.slice (some ⟨0, 0, none⟩) (l) (c), .int .i64 (p + 2 + 1 + 1)]⟩, some ⟨.box, .vals [.int .i64 (pickI bs l p 9 - 2), .int .i64 (oneI bs l (p + 2 + 1) 4 [1001, -1001, 1000, -1000])]⟩, some ⟨.box, .vals [.int .i64 (pickI bs l p 9 - 2), .int .i64 (oneI bs l (p + 2 + 1) 4 [1001, -1001, 1000, -1000])]⟩, some ⟨.row 3 1, .vals [.int .i64 (1001), .int .i64 (-1001), .int .i64 (1000), .int .i64 (-1000)]⟩]))) (.fin (.agg #[.int .i64 (pickI bs l p 9 - 2), .int .i64 (pickI bs l (p + 1) 9 - 2)]) [some ⟨.view, .bytes (bs)⟩, some ⟨.box, .vals [.slice (some ⟨0, 0, none⟩) (l) (c), .int .i64 (p + 2 + 1)]⟩, some ⟨.box, .vals [.int .i64 (pickI bs l p 9 - 2), .int .i64 (pickI bs l (p + 1) 9 - 2)]⟩, some ⟨.box, .vals [.int .i64 (pickI bs l p 9 - 2), .int .i64 (pickI bs l (p + 1) 9 - 2)]⟩])))) := by kernel_rfl
def farI : List Int := [1001, -1001, 1000, -1000]
def apQ (bs : List Int) (l : Nat) (p : Int) : Int := pickI bs l (p + 2) 16
def apX (bs : List Int) (l : Nat) (p : Int) : Int := if apQ bs l p = 0 then oneI bs l (p + 3) 4 farI else pickI bs l p 9 - 2
def apY (bs : List Int) (l : Nat) (p : Int) : Int := if apQ bs l p = 1 then oneI bs l (p + 3) 4 farI else pickI bs l (p + 1) 9 - 2
def apP (bs : List Int) (l : Nat) (p : Int) : Int := if apQ bs l p = 0 ∨ apQ bs l p = 1 then p + 4 else p + 3
theorem apP_bd (bs : List Int) (l : Nat) (p : Int) : p + 3 ≤ apP bs l p ∧ apP bs l p ≤ p + 4 := by unfold apP; split <;> omega
def aptS : RSpec := fun bs l p rest ex => match rest, ex with
  | [], none => some (.agg #[.int .i64 (apX bs l p), .int .i64 (apY bs l p)], apP bs l p, [rdK bs l p])
  | _, _ => none
theorem veq2 {a a' b b' : Int} (h : a = a') (k : b = b') : Value.agg #[.int .i64 a, .int .i64 b] = .agg #[.int .i64 a', .int .i64 b'] := by rw [h, k]
theorem aptS_ok : SpecOk Try.prog 14 aptS := by
  intro bs l c p rest0 ex v p' C h hC
  unfold aptS at h
  split at h
  rotate_left
  · cases h
  obtain ⟨rfl, rfl, rfl⟩ : Value.agg #[.int .i64 (apX bs l p), .int .i64 (apY bs l p)] = v ∧ apP bs l p = p' ∧ [rdK bs l p] = C := by simpa using h
  have h1 := hC.1
  refine ⟨ER2, 30, 12, ER2_ok, rfl, ?_⟩
  rw [tr_apt]
  have e3 : p + 2 + 1 = p + 3 := by omega
  have e4 : p + 3 + 1 = p + 4 := by omega
  simp only [e3, e4]
  refine ⟨h1, h1.at (by omega) (by omega), brT_ok.2 ⟨fun hq => ?_, fun hq => brT_ok.2 ⟨fun hq' => ?_, fun hq' => ?_⟩⟩⟩
  · have hq : apQ bs l p = 0 := by simpa [apQ] using hq
    exact ⟨h1.at (by omega) (by omega), by decide, veq2 (by unfold apX; rw [if_pos hq]; rfl) (by unfold apY; rw [if_neg (by omega)]), box2 (by unfold apP; rw [if_pos (.inl hq)]) _⟩
  · have hq : ¬ apQ bs l p = 0 := by simpa [apQ] using hq
    have hq' : apQ bs l p = 1 := by simpa [apQ] using hq'
    exact ⟨h1.at (by omega) (by omega), by decide, veq2 (by unfold apX; rw [if_neg hq]) (by unfold apY; rw [if_pos hq']; rfl), box2 (by unfold apP; rw [if_pos (.inr hq')]) _⟩
  · have hq : ¬ apQ bs l p = 0 := by simpa [apQ] using hq
    have hq' : ¬ apQ bs l p = 1 := by simpa [apQ] using hq'
    exact ⟨veq2 (by unfold apX; rw [if_neg hq]) (by unfold apY; rw [if_neg hq']), box2 (by unfold apP; rw [if_neg (by omega)]) _⟩
def J3 : List (FuncId × RSpec) := (14, aptS) :: J2
theorem J3_ok : JOk Try.prog J3 := J2_ok.cons (entersB_res (by kernel_rfl)).1 aptS_ok
end Go.Proofs.Ytbhdhejefpdjfaa
namespace Go.Proofs.Ytbhdhejefpdjfaa
set_option linter.all false
open Go.RowKit
/-- How many bytes are read. -/
def rdL (n : Nat) : Nat := min n 2000
theorem rdL_of {n : Nat} (h : 2000 < (n : Int)) : rdL n = 2000 := by unfold rdL; omega
theorem rdL_no {n : Nat} (h : ¬ 2000 < (n : Int)) : rdL n = n := by unfold rdL; omega
theorem rdK0 {bs : List Int} {n : Nat} (h : Bytes bs) (hn : n ≤ bs.length) {l : Nat} (hl : l ≤ n) (h2 : l ≤ 2000) {p : Int} (h3 : 0 ≤ p) (h4 : p ≤ 900000) : rdK bs l p :=
  ⟨⟨by omega, h2, h3, by omega, h⟩, h4⟩
theorem bnd2000 {n : Nat} (h : 2000 < (n : Int)) : (0 : Int) ≤ bndI none (0 : Int) ∧ bndI none (0 : Int) ≤ bndI (some (IntKind.i64, (2000 : Int))) (↑n : Int) ∧ bndI (some (IntKind.i64, (2000 : Int))) (↑n : Int) ≤ (↑n : Int) := by
  refine ⟨Int.le_refl _, ?_, ?_⟩
  · show (0 : Int) ≤ 2000; omega
  · show (2000 : Int) ≤ n; omega
/-- The coordinates of the three points. -/
def d3 (bs : List Int) (n : Nat) : Nat → Int
  | 0 => apX bs (rdL n) 0
  | 1 => apY bs (rdL n) 0
  | 2 => apX bs (rdL n) (apP bs (rdL n) 0)
  | 3 => apY bs (rdL n) (apP bs (rdL n) 0)
  | 4 => apX bs (rdL n) (apP bs (rdL n) (apP bs (rdL n) 0))
  | _ => apY bs (rdL n) (apP bs (rdL n) (apP bs (rdL n) 0))
end Go.Proofs.Ytbhdhejefpdjfaa
namespace Go.Proofs.Ytbhdhejefpdjfaa
set_option linter.all false
open Go.RowKit
/-- One drawn point of a list of the kind k. -/
def rpt (bs : List Int) (l : Nat) (k p : Int) : Pt :=
  bif k == 0 then (pickI bs l p 9 - 2, IntKind.i64.wrap (IntKind.i64.wrap (2 * (pickI bs l p 9 - 2)) + 1))
  else bif k == 1 then (IntKind.i64.wrap ((pickI bs l p 9 - 2) * 100), IntKind.i64.wrap ((pickI bs l (p + 1) 9 - 2) * 37))
  else (pickI bs l p 9 - 2, pickI bs l (p + 1) 9 - 2)
/-- So many drawn points. -/
def rpL (bs : List Int) (l : Nat) (k : Int) : Nat → Int → List Pt
  | 0, _ => []
  | n + 1, p => rpt bs l k p :: rpL bs l k n (p + 2)
theorem rpL_len (bs : List Int) (l : Nat) (k : Int) : ∀ (n : Nat) (p : Int), (rpL bs l k n p).length = n
  | 0, _ => rfl
  | n + 1, p => by simp [rpL, rpL_len bs l k n]
theorem rpL_step (bs : List Int) (l : Nat) (k : Int) (n : Nat) (p : Int) (o : List Pt) : o ++ rpL bs l k (n + 1) p = (o ++ [rpt bs l k p]) ++ rpL bs l k n (p + 2) := by
  simp [rpL]
theorem flatA (o : List Pt) : List.take (o.length * 2) (List.drop 0 (flat o)) = flat o := by rw [List.drop_zero, flat_all]
noncomputable def c_rpts : Code := ((loopsOf (codeOf Try.f24))[0]?).getD .skip
def k_rpts : Ex → List Nat := keeps [0, 5, 6, 7] [(0, [5])] [4]
def s_rpts (bs : List Int) (l c : Nat) (k q : Int) : Nat × (List Pt) × Int → St := fun (n, o, p) => ⟨(.pointer (some ⟨1, 0, none⟩) :: topV :: topV :: topV :: topV :: .slice (some ⟨3, 0, none⟩) o.length o.length :: .int .i64 k :: .int .i64 n :: topV :: topV :: topV :: topV :: topV :: topV :: topV :: topV :: topV :: topV :: topV :: topV :: topV :: topV :: topV :: topV :: topV :: topV :: topV :: topV :: topV :: topV :: topV :: topV :: topV :: topV :: topV :: topV :: topV :: topV :: topV :: topV :: topV :: topV :: topV :: []), [some ⟨.view, .bytes bs⟩, some ⟨.box, .vals [.slice (some ⟨0, 0, none⟩) l c, .int .i64 p]⟩, some ⟨.dead, .vals []⟩, some ⟨.row 25 2, .ints (flat o)⟩]⟩
def re_rpts : Nat × (List Pt) × Int → Ex := fun _ => .exit 0
def rs_rpts (bs : List Int) (l c : Nat) (k q : Int) : Nat × (List Pt) × Int → St := fun (n, o, p) => ⟨(topV :: topV :: topV :: topV :: topV :: .slice (some ⟨3, 0, none⟩) (o ++ rpL bs l k n p).length (o ++ rpL bs l k n p).length :: topV :: topV :: topV :: topV :: topV :: topV :: topV :: topV :: topV :: topV :: topV :: topV :: topV :: topV :: topV :: topV :: topV :: topV :: topV :: topV :: topV :: topV :: topV :: topV :: topV :: topV :: topV :: topV :: topV :: topV :: topV :: topV :: topV :: topV :: topV :: topV :: topV :: []), [some ⟨.view, .bytes bs⟩, some ⟨.box, .vals [.slice (some ⟨0, 0, none⟩) l c, .int .i64 q]⟩, some ⟨.dead, .vals []⟩, some ⟨.row 25 2, .ints (flat (o ++ rpL bs l k n p))⟩]⟩
set_option maxRecDepth 100000 in
theorem tr_rpts (bs : List Int) (l c : Nat) (k q : Int) (n : Nat) (o : List Pt) (p : Int) : bodyL Try.prog ER2 30 12 noL 1 c_rpts k_rpts 16 (s_rpts bs l c k q (n, o, p)) = brT (decide (0 < (↑n : Int))) (.need (rdK bs l p) (brT (k == 0) (brT (k == 1) (.need ((o.length + (1 : Nat)) * (16 : Nat) ≤ (140737488355328 : Nat) ∧ o.length + (1 : Nat) ≤ (2000000 : Nat)) (.need ((0 : Nat) + o.length * (2 : Nat) ≤ (flat o).length) (.leaf .normal ⟨(.pointer (some ⟨1, 0, none⟩) :: topV :: topV :: topV :: topV :: .slice (some ⟨6, 0, none⟩) (o.length + 1) (o.length + 1) :: .int .i64 (k) :: .int .i64 (IntKind.i64.wrap ((↑n : Int) - 1)) :: topV :: topV :: topV :: topV :: topV :: topV :: topV :: topV :: topV :: topV :: topV :: topV :: topV :: topV :: topV :: topV :: topV :: topV :: topV :: topV :: topV :: topV :: topV :: topV :: topV :: topV :: topV :: topV :: topV :: topV :: topV :: topV :: topV :: topV :: topV :: []), [some ⟨.view, .bytes (bs)⟩, some ⟨.box, .vals [.slice (some ⟨0, 0, none⟩) (l) (c), .int .i64 (p + 2)]⟩, some deadB, some deadB, some ⟨.box, .vals [.int .i64 (IntKind.i64.wrap ((pickI bs l p 9 - 2) * 100)), .int .i64 (IntKind.i64.wrap (IntKind.i64.wrap (IntKind.i64.wrap (2 * (pickI bs l p 9 - 2)) + 1) * 37))]⟩, some ⟨.row 25 2, .vals [.int .i64 (IntKind.i64.wrap ((pickI bs l p 9 - 2) * 100)), .int .i64 (IntKind.i64.wrap (IntKind.i64.wrap (IntKind.i64.wrap (2 * (pickI bs l p 9 - 2)) + 1) * 37))]⟩, some ⟨.row 25 2, .ints (List.take (o.length * 2) (List.drop 0 (flat o)) ++ [IntKind.i64.wrap ((pickI bs l p 9 - 2) * 100), IntKind.i64.wrap (IntKind.i64.wrap (IntKind.i64.wrap (2 * (pickI bs l p 9 - 2)) + 1) * 37)])⟩]⟩))) (.need ((o.length + (1 : Nat)) * (16 : Nat) ≤ (140737488355328 : Nat) ∧ o.length + (1 : Nat) ≤ (2000000 : Nat)) (.need ((0 : Nat) + o.length * (2 : Nat) ≤ (flat o).length) (.leaf .normal ⟨(.pointer (some ⟨1, 0, none⟩) :: topV :: topV :: topV :: topV :: .slice (some ⟨6, 0, none⟩) (o.length + 1) (o.length + 1) :: .int .i64 (k) :: .int .i64 (IntKind.i64.wrap ((↑n : Int) - 1)) :: topV :: topV :: topV :: topV :: topV :: topV :: topV :: topV :: topV :: topV :: topV :: topV :: topV :: topV :: topV :: topV :: topV :: topV :: topV :: topV :: topV :: topV :: topV :: topV :: topV :: topV :: topV :: topV :: topV :: topV :: topV :: topV :: topV :: topV :: topV :: []), [some ⟨.view, .bytes (bs)⟩, some ⟨.box, .vals [.slice (some ⟨0, 0, none⟩) (l) (c), .int .i64 (p + 2)]⟩, some deadB, some deadB, some ⟨.box, .vals [.int .i64 (pickI bs l p 9 - 2), .int .i64 (IntKind.i64.wrap (IntKind.i64.wrap (2 * (pickI bs l p 9 - 2)) + 1))]⟩, some ⟨.row 25 2, .vals [.int .i64 (pickI bs l p 9 - 2), .int .i64 (IntKind.i64.wrap (IntKind.i64.wrap (2 * (pickI bs l p 9 - 2)) + 1))]⟩, some ⟨.row 25 2, .ints (List.take (o.length * 2) (List.drop 0 (flat o)) ++ [pickI bs l p 9 - 2, IntKind.i64.wrap (IntKind.i64.wrap (2 * (pickI bs l p 9 - 2)) + 1)])⟩]⟩)))) (brT (k == 1) (.need ((o.length + (1 : Nat)) * (16 : Nat) ≤ (140737488355328 : Nat) ∧ o.length + (1 : Nat) ≤ (2000000 : Nat)) (.need ((0 : Nat) + o.length * (2 : Nat) ≤ (flat o).length) (.leaf .normal ⟨(.pointer (some ⟨1, 0, none⟩) :: topV :: topV :: topV :: topV :: .slice (some ⟨6, 0, none⟩) (o.length + 1) (o.length + 1) :: .int .i64 (k) :: .int .i64 (IntKind.i64.wrap ((↑n : Int) - 1)) :: topV :: topV :: topV :: topV :: topV :: topV :: topV :: topV :: topV :: topV :: topV :: topV :: topV :: topV :: topV :: topV :: topV :: topV :: topV :: topV :: topV :: topV :: topV :: topV :: topV :: topV :: topV :: topV :: topV :: topV :: topV :: topV :: topV :: topV :: topV :: []), [some ⟨.view, .bytes (bs)⟩, some ⟨.box, .vals [.slice (some ⟨0, 0, none⟩) (l) (c), .int .i64 (p + 2)]⟩, some deadB, some deadB, some ⟨.box, .vals [.int .i64 (IntKind.i64.wrap ((pickI bs l p 9 - 2) * 100)), .int .i64 (IntKind.i64.wrap ((pickI bs l (p + 1) 9 - 2) * 37))]⟩, some ⟨.row 25 2, .vals [.int .i64 (IntKind.i64.wrap ((pickI bs l p 9 - 2) * 100)), .int .i64 (IntKind.i64.wrap ((pickI bs l (p + 1) 9 - 2) * 37))]⟩, some ⟨.row 25 2, .ints (List.take (o.length * 2) (List.drop 0 (flat o)) ++ [IntKind.i64.wrap ((pickI bs l p 9 - 2) * 100), IntKind.i64.wrap ((pickI bs l (p + 1) 9 - 2) * 37)])⟩]⟩))) (.need ((o.length + (1 : Nat)) * (16 : Nat) ≤ (140737488355328 : Nat) ∧ o.length + (1 : Nat) ≤ (2000000 : Nat)) (.need ((0 : Nat) + o.length * (2 : Nat) ≤ (flat o).length) (.leaf .normal ⟨(.pointer (some ⟨1, 0, none⟩) :: topV :: topV :: topV :: topV :: .slice (some ⟨6, 0, none⟩) (o.length + 1) (o.length + 1) :: .int .i64 (k) :: .int .i64 (IntKind.i64.wrap ((↑n : Int) - 1)) :: topV :: topV :: topV :: topV :: topV :: topV :: topV :: topV :: topV :: topV :: topV :: topV :: topV :: topV :: topV :: topV :: topV :: topV :: topV :: topV :: topV :: topV :: topV :: topV :: topV :: topV :: topV :: topV :: topV :: topV :: topV :: topV :: topV :: topV :: topV :: []), [some ⟨.view, .bytes (bs)⟩, some ⟨.box, .vals [.slice (some ⟨0, 0, none⟩) (l) (c), .int .i64 (p + 2)]⟩, some deadB, some deadB, some ⟨.box, .vals [.int .i64 (pickI bs l p 9 - 2), .int .i64 (pickI bs l (p + 1) 9 - 2)]⟩, some ⟨.row 25 2, .vals [.int .i64 (pickI bs l p 9 - 2), .int .i64 (pickI bs l (p + 1) 9 - 2)]⟩, some ⟨.row 25 2, .ints (List.take (o.length * 2) (List.drop 0 (flat o)) ++ [pickI bs l p 9 - 2, pickI bs l (p + 1) 9 - 2])⟩]⟩)))))) (.leaf (.exit 0) ⟨(topV :: topV :: topV :: topV :: topV :: .slice (some ⟨3, 0, none⟩) (o.length) (o.length) :: topV :: topV :: topV :: topV :: topV :: topV :: topV :: topV :: topV :: topV :: topV :: topV :: topV :: topV :: topV :: topV :: topV :: topV :: topV :: topV :: topV :: topV :: topV :: topV :: topV :: topV :: topV :: topV :: topV :: topV :: topV :: topV :: topV :: topV :: topV :: topV :: topV :: []), [some ⟨.view, .bytes (bs)⟩, some ⟨.box, .vals [.slice (some ⟨0, 0, none⟩) (l) (c), .int .i64 (p)]⟩, some deadB, some ⟨.row 25 2, .ints (flat o)⟩]⟩) := by kernel_rfl
set_option maxRecDepth 100000 in
theorem nl_rpts : loopsOf c_rpts = [] := by kernel_rfl
def inv_rpts (bs : List Int) (l c : Nat) (k q : Int) : Nat × (List Pt) × Int → Prop := fun (n, o, p) => o.length + n ≤ 100 ∧ q = p + 2 * n ∧ 0 ≤ p ∧ q ≤ 900000
def me_rpts (bs : List Int) (l c : Nat) (k q : Int) : Nat × (List Pt) × Int → Nat := fun (n, o, p) => n
/-- A round of this loop. -/
def Round_rpts (bs : List Int) (l c : Nat) (k q : Int) : Prop := ∀ xx : Nat × (List Pt) × Int, inv_rpts bs l c k q xx → (bodyL Try.prog ER2 30 12 noL 1 c_rpts k_rpts 16 (s_rpts bs l c k q xx)).ok (RoundEnd 3 (s_rpts bs l c k q) (inv_rpts bs l c k q) (me_rpts bs l c k q) re_rpts (rs_rpts bs l c k q) xx) (fun _ _ => False)
def e_rpts (s : St) (k : Ex → St → Tree) : Option Tree := match Nat.beq s.tmps.length 43, pickL s.tmps [0, 5, 6, 7], s.mem with
  | true, [.pointer (some ⟨1, 0, none⟩), .slice (some ⟨2, 0, none⟩) z _, .int .i64 k1, .int .i64 n1], [some ⟨.view, .bytes bs⟩, some ⟨.box, .vals [.slice (some ⟨0, 0, none⟩) l c, .int .i64 p]⟩, some ⟨.row 25 2, .vals []⟩] => some (needs [z = 0, 0 ≤ n1 ∧ n1 ≤ 100, l ≤ bs.length ∧ l ≤ 2000 ∧ Bytes bs, 0 ≤ p ∧ p ≤ 800000] (k (.exit 0) ⟨(topV :: topV :: topV :: topV :: topV :: .slice (some ⟨3, 0, none⟩) (rpL bs l k1 n1.toNat p).length (rpL bs l k1 n1.toNat p).length :: topV :: topV :: topV :: topV :: topV :: topV :: topV :: topV :: topV :: topV :: topV :: topV :: topV :: topV :: topV :: topV :: topV :: topV :: topV :: topV :: topV :: topV :: topV :: topV :: topV :: topV :: topV :: topV :: topV :: topV :: topV :: topV :: topV :: topV :: topV :: topV :: topV :: []), [some ⟨.view, .bytes bs⟩, some ⟨.box, .vals [.slice (some ⟨0, 0, none⟩) l c, .int .i64 (p + 2 * n1)]⟩, some ⟨.dead, .vals []⟩, some ⟨.row 25 2, .ints (flat (rpL bs l k1 n1.toNat p))⟩]⟩))
  | _, _, _ => none
theorem rpt0 {bs : List Int} {l : Nat} {k p : Int} (h : k = 0) : rpt bs l k p = (pickI bs l p 9 - 2, IntKind.i64.wrap (IntKind.i64.wrap (2 * (pickI bs l p 9 - 2)) + 1)) := by
  subst h; rfl
theorem rpt1 {bs : List Int} {l : Nat} {k p : Int} (h : k = 1) : rpt bs l k p = (IntKind.i64.wrap ((pickI bs l p 9 - 2) * 100), IntKind.i64.wrap ((pickI bs l (p + 1) 9 - 2) * 37)) := by
  subst h; rfl
theorem rpt2 {bs : List Int} {l : Nat} {k p : Int} (h : ¬ k = 0) (h' : ¬ k = 1) : rpt bs l k p = (pickI bs l p 9 - 2, pickI bs l (p + 1) 9 - 2) := by
  unfold rpt
  rw [beq_eq_false_iff_ne.2 h, beq_eq_false_iff_ne.2 h']
  rfl
set_option maxRecDepth 100000 in
theorem round_rpts (bs : List Int) (l c : Nat) (k q : Int) (h : l ≤ bs.length ∧ l ≤ 2000 ∧ Bytes bs) : Round_rpts bs l c k q := by
  rintro ⟨n, o, p⟩ ⟨h1, h2, h3, h4⟩
  rw [tr_rpts]
  simp only [brT_ok, Tree.ok, decide_eq_true_eq, decide_eq_false_iff_not, flatA, flat_length, Nat.zero_add, beq_iff_eq, beq_eq_false_iff_ne, ne_eq]
  have hr : rdK bs l p := ⟨⟨h.1, h.2.1, h3, by omega, h.2.2⟩, by omega⟩
  refine ⟨fun hlt => ⟨hr, ?_⟩, fun hge => ?_⟩
  · obtain ⟨n, rfl⟩ : ∃ m, n = m + 1 := ⟨n - 1, by omega⟩
    have e : IntKind.i64.wrap (((n + 1 : Nat) : Int) - 1) = (n : Int) := by rw [wr (by omega)]; omega
    rw [e]
    refine ⟨fun g0 => ⟨fun g1 => by omega, fun g1 => ?_⟩, fun g0 => ⟨fun g1 => ?_, fun g1 => ?_⟩⟩
    · rw [flat_snoc, ← rpt0 g0]
      refine ⟨by omega, by omega, (n, o ++ [rpt bs l k p], p + 2), [some 6], ⟨by simp; omega, by omega, by omega, by omega⟩, ?_, rfl, ?_, ?_⟩
      · show n < n + 1; omega
      · simp only [rs_rpts, rpL_step]
      · repeat' (first | exact True.intro | exact rfl | exact fun _ => rfl | (simp; done) | refine And.intro ?_ ?_)
    · rw [flat_snoc, ← rpt1 g1]
      refine ⟨by omega, by omega, (n, o ++ [rpt bs l k p], p + 2), [some 6], ⟨by simp; omega, by omega, by omega, by omega⟩, ?_, rfl, ?_, ?_⟩
      · show n < n + 1; omega
      · simp only [rs_rpts, rpL_step]
      · repeat' (first | exact True.intro | exact rfl | exact fun _ => rfl | (simp; done) | refine And.intro ?_ ?_)
    · rw [flat_snoc, ← rpt2 g0 g1]
      refine ⟨by omega, by omega, (n, o ++ [rpt bs l k p], p + 2), [some 6], ⟨by simp; omega, by omega, by omega, by omega⟩, ?_, rfl, ?_, ?_⟩
      · show n < n + 1; omega
      · simp only [rs_rpts, rpL_step]
      · repeat' (first | exact True.intro | exact rfl | exact fun _ => rfl | (simp; done) | refine And.intro ?_ ?_)
  · obtain rfl : n = 0 := by omega
    refine ⟨rfl, [some 3], ?_⟩
    obtain rfl : q = p := by omega
    simp only [rs_rpts, rpL, List.append_nil]
    repeat' (first | exact True.intro | exact rfl | exact fun _ => rfl | refine And.intro ?_ ?_)
set_option maxRecDepth 100000 in
theorem lg_rpts : LoopE Try.prog e_rpts c_rpts := by
  intro s k t F H hlt ht
  unfold e_rpts at hlt
  split at hlt
  rotate_left
  · cases hlt
  rename_i hlen hpick hmem
  obtain ⟨tmps, mem⟩ := s
  simp only at hlen hpick hmem
  subst hmem
  obtain rfl := Option.some.inj hlt
  obtain ⟨⟨rfl, h1, h2, h3, _⟩, ht2⟩ := needs_ok ht
  clear ht hlt
  obtain ⟨n, rfl⟩ := Int.eq_ofNat_of_zero_le h1.1
  simp only [Int.toNat_natCast] at ht2
  refine ⟨_, _, ht2, loop_run2 mixed ER2_ok (s_rpts _ _ _ _ _) (inv_rpts _ _ _ _ _) (me_rpts _ _ _ _ _) re_rpts (rs_rpts _ _ _ _ _) k_rpts (fun _ => rfl) (noLoops nl_rpts) (round_rpts _ _ _ _ _ h2) (x := (n, [], _)) ⟨by simp; omega, rfl, h3.1, by omega⟩ (π := [some 2]) rfl ?_⟩
  refine ⟨rfl, rfl, ?_, wvs_spread' [0, 5, 6, 7] hlen rfl ?_⟩
  · repeat' (first | exact True.intro | exact rfl | exact wv_top _ _ | exact fun _ => rfl | assumption | exact Eq.symm (by assumption) | exact vI0 rfl | refine And.intro ?_ ?_)
  · rw [hpick]
    repeat' (first | exact True.intro | exact rfl | exact wv_top _ _ | exact fun _ => rfl | assumption | exact Eq.symm (by assumption) | exact vI0 rfl | refine And.intro ?_ ?_)
theorem Lr_rpts {fn : Func} (hf : Try.prog.funcs[24]? = some fn) : LoopsGood Try.prog (lt1 e_rpts) 0 (codeOf fn) := by
  obtain rfl := fn_is Try.func24 hf
  exact lt1_good lg_rpts
def LRd1 : FuncId → LT := fun f => match f with
  | 24 => lt1 e_rpts
  | _ => noL
def ERL : Env := ⟨B0, fun _ _ => none, LRd1, tabJ J2, fun _ => noR⟩
theorem ERL_ok : EnvOk Try.prog ERL := ⟨B0_ok, fun _ _ _ _ _ h => (by cases h), (by
  intro f fn hf
  show LoopsGood Try.prog (LRd1 f) 0 (codeOf fn)
  unfold LRd1
  split
  all_goals first | with_reducible exact Lr_rpts hf | exact noL_good), tabJ_sound mixed J2_ok, fun _ _ _ => noR_good⟩
set_option maxRecDepth 100000 in
theorem tr_rptsF (bs : List Int) (l c : Nat) (p m : Int) : bodyM Try.prog ERL (runM Try.prog ERL 30 12) 30 24 [.pointer (some ⟨1, 0, none⟩), .int .i64 m] (memR bs l c p none) .fin = .need (rdC bs l p) (.need (rdC bs l (p + (1 : Int))) (.need ((0 : Nat) = (0 : Nat)) (.need ((0 : Int) ≤ pickI bs l (p + (1 : Int)) (IntKind.i64.wrap (m + (1 : Int))) ∧ pickI bs l (p + (1 : Int)) (IntKind.i64.wrap (m + (1 : Int))) ≤ (100 : Int)) (.need (l ≤ bs.length ∧ l ≤ (2000 : Nat) ∧ Bytes bs) (.need ((0 : Int) ≤ p + (1 : Int) + (1 : Int) ∧ p + (1 : Int) + (1 : Int) ≤ (800000 : Int)) (.fin (.slice (some ⟨3, 0, none⟩) ((rpL bs l (pickI bs l p 6) (pickI bs l (p + 1) (IntKind.i64.wrap (m + 1))).toNat (p + 1 + 1)).length) ((rpL bs l (pickI bs l p 6) (pickI bs l (p + 1) (IntKind.i64.wrap (m + 1))).toNat (p + 1 + 1)).length)) [some ⟨.view, .bytes (bs)⟩, some ⟨.box, .vals [.slice (some ⟨0, 0, none⟩) (l) (c), .int .i64 (p + 1 + 1 + 2 * pickI bs l (p + 1) (IntKind.i64.wrap (m + 1)))]⟩, some deadB, some ⟨.row 25 2, .ints (flat (rpL bs l (pickI bs l p 6) (pickI bs l (p + 1) (IntKind.i64.wrap (m + 1))).toNat (p + 1 + 1)))⟩])))))) := by kernel_rfl
def rpN (bs : List Int) (l : Nat) (p m : Int) : Int := pickI bs l (p + 1) (m + 1)
/-- A drawn list. -/
def rpsL (bs : List Int) (l : Nat) (p m : Int) : List Pt := rpL bs l (pickI bs l p 6) (rpN bs l p m).toNat (p + 2)
abbrev rowL (ps : List Pt) : Value := .slice (some ⟨0, 0, none⟩) ps.length ps.length
def rptsS : RSpecR := fun bs l p rest => match rest with
  | [.int .i64 m] => some (rowL (rpsL bs l p m), ⟨.row 25 2, .ints (flat (rpsL bs l p m))⟩, p + 2 + 2 * rpN bs l p m, [rdC bs l p, p ≤ 700000, 0 ≤ m ∧ m ≤ 90])
  | _ => none
theorem rptsS_ok : SpecROk Try.prog 24 rptsS := by
  intro bs l c p rest v b p' C h hC
  unfold rptsS at h
  split at h
  rotate_left
  · cases h
  rename_i m
  obtain ⟨rfl, rfl, rfl, rfl⟩ : rowL (rpsL bs l p m) = v ∧ (⟨.row 25 2, .ints (flat (rpsL bs l p m))⟩ : Blk) = b ∧ p + 2 + 2 * rpN bs l p m = p' ∧ [rdC bs l p, p ≤ 700000, 0 ≤ m ∧ m ≤ 90] = C := by simpa using h
  obtain ⟨h1, h2, h3, _⟩ := hC
  refine ⟨rfl, ERL, 30, 12, ERL_ok, ?_⟩
  rw [tr_rptsF]
  have w : IntKind.i64.wrap (m + 1) = m + 1 := wr (by omega)
  have r1 : rdC bs l (p + 1) := ⟨h1.1, h1.2.1, by have := h1.2.2.1; omega, by omega, h1.2.2.2.2⟩
  have b1 := pickI_bd (k := m + 1) r1 (by omega)
  have e : p + 1 + 1 = p + 2 := by omega
  have := h1.2.2.1
  rw [w, e]
  exact ⟨h1, r1, rfl, ⟨b1.1, by omega⟩, ⟨h1.1, h1.2.1, h1.2.2.2.2⟩, ⟨by omega, by omega⟩, rfl, some 3, ⟨rfl, rfl, rfl⟩, rfl, rfl, rfl⟩
theorem rpsL_len {bs : List Int} {l : Nat} {p m : Int} (h : rdC bs l (p + 1)) (hm : 0 ≤ m ∧ m ≤ 20) : (rpsL bs l p m).length ≤ 20 ∧ (rpsL bs l p m).length = (rpN bs l p m).toNat ∧ 0 ≤ rpN bs l p m ∧ rpN bs l p m ≤ 20 := by
  have b1 := pickI_bd (k := m + 1) h (by omega)
  unfold rpsL
  rw [rpL_len]
  unfold rpN
  omega
end Go.Proofs.Ytbhdhejefpdjfaa
namespace Go.Proofs.Ytbhdhejefpdjfaa
set_option linter.all false
open Go.RowKit
theorem flatR (o : List Pt) : List.take (o.length * 2) (List.drop 0 (flat o)) = flat o := by rw [List.drop_zero, flat_all]
def ERv : Env := tabE B0
theorem ERv_ok : EnvOk Try.prog ERv := tabE_ok B0_ok
noncomputable def c_rvd : Code := ((loopsOf (codeOf Try.f39))[0]?).getD .skip
def k_rvd : Ex → List Nat := keeps [0, 3, 4] [(0, [3])] [2]
def s_rvd (ps : List Pt) : Nat × (List Pt) → St := fun (m, o) => ⟨[.slice (some ⟨0, 0, none⟩) ps.length ps.length, topV, topV, .slice (some ⟨2, 0, none⟩) o.length o.length, .int .i64 ((m : Int) - 1), topV, topV, topV, topV, topV, topV, topV, topV, topV, topV, topV, topV, topV, topV, topV, topV], [some ⟨.view, .ints (flat ps)⟩, some ⟨.dead, .vals []⟩, some ⟨.row 25 2, .ints (flat o)⟩]⟩
def re_rvd : Nat × (List Pt) → Ex := fun _ => .exit 0
def rs_rvd (ps : List Pt) : Nat × (List Pt) → St := fun (m, o) => ⟨[topV, topV, topV, .slice (some ⟨2, 0, none⟩) (revP ps).length (revP ps).length, topV, topV, topV, topV, topV, topV, topV, topV, topV, topV, topV, topV, topV, topV, topV, topV, topV], [some ⟨.view, .ints (flat ps)⟩, some ⟨.dead, .vals []⟩, some ⟨.row 25 2, .ints (flat (revP ps))⟩]⟩
set_option maxRecDepth 100000 in
theorem tr_rvd (ps : List Pt) (m : Nat) (o : List Pt) : bodyL Try.prog ERv 30 12 noL 1 c_rvd k_rvd 16 (s_rvd ps (m, o)) = brT (decide (0 ≤ (↑m : Int) - 1)) (.need ((0 : Int) ≤ (↑m : Int) - (1 : Int) ∧ (↑m : Int) - (1 : Int) < (↑ps.length : Int)) (.need ((0 : Nat) + ((↑m : Int) - (1 : Int)).toNat * (2 : Nat) + (2 : Nat) ≤ (flat ps).length) (.need ((o.length + (1 : Nat)) * (16 : Nat) ≤ (140737488355328 : Nat) ∧ o.length + (1 : Nat) ≤ (2000000 : Nat)) (.need ((0 : Nat) + o.length * (2 : Nat) ≤ (flat o).length) (.leaf .normal ⟨[.slice (some ⟨0, 0, none⟩) (ps.length) (ps.length), topV, topV, .slice (some ⟨4, 0, none⟩) (o.length + 1) (o.length + 1), .int .i64 (IntKind.i64.wrap ((↑m : Int) - 1 - 1)), topV, topV, topV, topV, topV, topV, topV, topV, topV, topV, topV, topV, topV, topV, topV, topV], [some ⟨.view, .ints (flat ps)⟩, some deadB, some deadB, some ⟨.row 25 2, .vals [.int .i64 ((flat ps).getD (0 + ((↑m : Int) - 1).toNat * 2) 0), .int .i64 ((flat ps).getD (0 + ((↑m : Int) - 1).toNat * 2 + 1) 0)]⟩, some ⟨.row 25 2, .ints (List.take (o.length * 2) (List.drop 0 (flat o)) ++ [(flat ps).getD (0 + ((↑m : Int) - 1).toNat * 2) 0, (flat ps).getD (0 + ((↑m : Int) - 1).toNat * 2 + 1) 0])⟩]⟩))))) (.leaf (.exit 0) ⟨[topV, topV, topV, .slice (some ⟨2, 0, none⟩) (o.length) (o.length), topV, topV, topV, topV, topV, topV, topV, topV, topV, topV, topV, topV, topV, topV, topV, topV, topV], [some ⟨.view, .ints (flat ps)⟩, some deadB, some ⟨.row 25 2, .ints (flat o)⟩]⟩) := by kernel_rfl
set_option maxRecDepth 100000 in
theorem nl_rvd : loopsOf c_rvd = [] := by kernel_rfl
def inv_rvd (ps : List Pt) : Nat × (List Pt) → Prop := fun (m, o) => m ≤ ps.length ∧ o = (ps.drop m).reverse
def me_rvd (ps : List Pt) : Nat × (List Pt) → Nat := fun (m, o) => m
/-- A round of this loop. -/
def Round_rvd (ps : List Pt) : Prop := ∀ xx : Nat × (List Pt), inv_rvd ps xx → (bodyL Try.prog ERv 30 12 noL 1 c_rvd k_rvd 16 (s_rvd ps xx)).ok (RoundEnd 2 (s_rvd ps) (inv_rvd ps) (me_rvd ps) re_rvd (rs_rvd ps) xx) (fun _ _ => False)
def e_rvd (s : St) (k : Ex → St → Tree) : Option Tree := match Nat.beq s.tmps.length 21, pickL s.tmps [0, 3, 4], s.mem with
  | true, [.slice (some ⟨0, 0, none⟩) n _, .slice (some ⟨1, 0, none⟩) z _, .int .i64 i0], [some ⟨.view, .ints xs⟩, some ⟨.row 25 2, .vals []⟩] => some (needs [i0 = (n : Int) - 1, z = 0, xs.length = n * 2, n ≤ 100000] (k (.exit 0) ⟨[topV, topV, topV, .slice (some ⟨2, 0, none⟩) (revP (ptsA n xs)).length (revP (ptsA n xs)).length, topV, topV, topV, topV, topV, topV, topV, topV, topV, topV, topV, topV, topV, topV, topV, topV, topV], [some ⟨.view, .ints xs⟩, some ⟨.dead, .vals []⟩, some ⟨.row 25 2, .ints (flat (revP (ptsA n xs)))⟩]⟩))
  | _, _, _ => none
theorem rvd_step {ps : List Pt} {m : Nat} (h : m < ps.length) : (ps.drop (m + 1)).reverse ++ [ps.getD m (0, 0)] = (ps.drop m).reverse := by
  rw [drop_cons h (0, 0), List.reverse_cons]
set_option maxRecDepth 100000 in
theorem round_rvd (ps : List Pt) (h : ps.length ≤ 100000) : Round_rvd ps := by
  rintro ⟨m, o⟩ ⟨h1, rfl⟩
  rw [tr_rvd]
  have hl : (ps.drop m).reverse.length = ps.length - m := by simp
  refine brT_ok.2 ⟨fun hlt => ?_, fun hge => ?_⟩
  · have hlt := of_decide_eq_true hlt
    obtain ⟨m, rfl⟩ : ∃ k, m = k + 1 := ⟨m - 1, by omega⟩
    have j1 : (((m + 1 : Nat) : Int) - 1).toNat = m := by omega
    have w : IntKind.i64.wrap (((m + 1 : Nat) : Int) - 1 - 1) = (m : Int) - 1 := by rw [wr (by omega)]; omega
    have hs := rvd_step (ps := ps) (m := m) (by omega)
    have fs : flat (ps.drop (m + 1)).reverse ++ [(ps.getD m (0, 0)).1, (ps.getD m (0, 0)).2] = flat (ps.drop m).reverse := by
      rw [flat_snoc, ← hs]
    simp only [j1, w, Nat.zero_add, flat_get0, flat_get1, flat_length, flatR, fs]
    refine ⟨by omega, by omega, ⟨by omega, by omega⟩, by omega, (m, (ps.drop m).reverse), [some 4], ⟨by omega, rfl⟩, ?_, rfl, by simp only [rs_rvd], ?_⟩
    · show m < m + 1; omega
    · have e : (ps.drop (m + 1)).reverse.length + 1 = (ps.drop m).reverse.length := by rw [← hs]; simp
      rw [e]
      repeat' (first | exact True.intro | exact rfl | exact fun _ => rfl | (simp; done) | refine And.intro ?_ ?_)
  · have hge := of_decide_eq_false hge
    obtain rfl : m = 0 := by omega
    refine ⟨rfl, [some 2], ?_⟩
    simp only [rs_rvd, revP, List.drop_zero]
    repeat' (first | exact True.intro | exact rfl | exact fun _ => rfl | (simp; done) | refine And.intro ?_ ?_)
set_option maxRecDepth 100000 in
theorem lg_rvd : LoopE Try.prog e_rvd c_rvd := by
  intro s k t F H hlt ht
  unfold e_rvd at hlt
  split at hlt
  rotate_left
  · cases hlt
  rename_i hlen hpick hmem
  obtain ⟨tmps, mem⟩ := s
  simp only at hlen hpick hmem
  subst hmem
  obtain rfl := Option.some.inj hlt
  obtain ⟨⟨rfl, rfl, h1, h3, _⟩, ht2⟩ := needs_ok ht
  clear ht hlt
  obtain ⟨ps, rfl, rfl⟩ := even_flat h1
  rw [ptsA_flat] at ht2
  refine ⟨_, _, ht2, loop_run2 mixed ERv_ok (s_rvd ps) (inv_rvd ps) (me_rvd ps) re_rvd (rs_rvd ps) k_rvd (fun _ => rfl) (noLoops nl_rvd) (round_rvd ps h3) (x := (ps.length, [])) ⟨Nat.le_refl _, by rw [List.drop_length]; rfl⟩ (π := [some 1]) rfl ?_⟩
  refine ⟨rfl, rfl, ?_, wvs_spread' [0, 3, 4] hlen rfl ?_⟩
  · repeat' (first | exact True.intro | exact rfl | exact wv_top _ _ | exact fun _ => rfl | assumption | exact Eq.symm (by assumption) | exact vI0 rfl | refine And.intro ?_ ?_)
  · rw [hpick]
    repeat' (first | exact True.intro | exact rfl | exact wv_top _ _ | exact fun _ => rfl | assumption | exact Eq.symm (by assumption) | exact vI0 rfl | refine And.intro ?_ ?_)
theorem Lr_rvd {fn : Func} (hf : Try.prog.funcs[39]? = some fn) : LoopsGood Try.prog (lt1 e_rvd) 0 (codeOf fn) := by
  obtain rfl := fn_is Try.func39 hf
  exact lt1_good lg_rvd
def LRv : FuncId → LT := fun f => match f with
  | 39 => lt1 e_rvd
  | _ => noL
def ERw : Env := mkE B0 (fun _ _ => none) LRv
theorem ERw_ok : EnvOk Try.prog ERw := mkEOk B0_ok (fun _ _ _ _ _ h => (by cases h)) (by
  intro f fn hf
  unfold LRv
  split
  all_goals first | with_reducible exact Lr_rvs hf | with_reducible exact Lr_rvd hf | exact noL_good)
set_option maxRecDepth 100000 in
theorem tr_rdF (ps : List Pt) : bodyX Try.prog ERw 30 12 39 [.row ps.length (.ints (flat ps))] = .need (IntKind.i64.wrap ((↑ps.length : Int) - (1 : Int)) = (↑ps.length : Int) - (1 : Int)) (.need ((0 : Nat) = (0 : Nat)) (.need ((flat ps).length = ps.length * (2 : Nat)) (.need (ps.length ≤ (100000 : Nat)) (.fin (.slice (some ⟨2, 0, none⟩) ((revP (ptsA ps.length (flat ps))).length) ((revP (ptsA ps.length (flat ps))).length)) [some ⟨.view, .ints (flat ps)⟩, some deadB, some ⟨.row 25 2, .ints (flat (revP (ptsA ps.length (flat ps))))⟩])))) := by kernel_rfl
theorem resR_rvd {ps : List Pt} (h : ps.length ≤ 100000) : ResR Try.prog 39 [.row ps.length (.ints (flat ps))] (rowP (revP ps)) (blkP (revP ps)) := by
  refine bodyX_resR mixed ERw_ok (m := 30) (n := 12) rfl ?_
  rw [tr_rdF]
  simp only [ptsA_flat]
  exact ⟨by rw [wr (by omega)], trivial, flat_length ps, h, some 2, ⟨rfl, rfl, rfl⟩, rfl, rfl, rfl⟩
end Go.Proofs.Ytbhdhejefpdjfaa
