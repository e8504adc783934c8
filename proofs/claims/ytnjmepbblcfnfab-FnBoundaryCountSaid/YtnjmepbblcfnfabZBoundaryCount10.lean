/-
  Texts that the proof needs, merged. Written by an AI agent.
-/
import Derived.Orders
import Derived.Below
import Derived.OrdersIn
import Derived.Deep.LoopGhost
import Derived.WalkKit
import Derived.Laws.CopyRow
import Derived.Laws.AppendOwn
import Derived.Laws.Slices
import Derived.Laws.MakeOwn
import Derived.Test.YtnjmepbblcfnfabRows
import Derived.ProofKit
import Derived.OpenShut
import Derived.Carry
import Derived.IntWalk
import Derived.Test.YtnjmepbblcfnfabProg
import Derived.WalkSpells
import Derived.WalkLawsBesides
import Derived.Lib.Hide
import Derived.Deep.QuietTactic
import Derived.BigQuiet
import Derived.KernelRfl
import Derived.Deep.RegionHeld3
import Derived.LoopTactic
import Derived.Laws.StructEq
import Derived.Laws.Tables
import Derived.RangeFuncNested
import Derived.RangeFuncLeaves
import Derived.Deep.Slices
import Derived.Deep.Fields
import Derived.ChangeSame
import Derived.Shelf.SlSortCmp.WholeK
import Derived.Sort.Grow
import Derived.Deep.DeepCutAuto
import Derived.Shelf.SlSortCmp.NoneTotal
import Derived.Test.YtnjmepbblcfnfabZBoundaryCount9
namespace Go.Proofs.Ytnjmepbblcfnfab
set_option linter.all false
open Go.RowKit
def RLk : TabR := fun f ds => match f, ds with
  | 19, [.row m (.ints xs)] => some (rowP (revP (ptsA m xs)), blkP (revP (ptsA m xs)), [xs.length = m * 2, m ≤ 100000])
  | f, ds => RPd f ds
theorem RLk_ok : TabROk Try.prog RLk := by
  intro f ds v b C h hC
  unfold RLk at h
  split at h
  · rename_i m xs
    obtain ⟨rfl, rfl, rfl⟩ : _ ∧ _ ∧ _ := by simpa using h
    obtain ⟨ps, rfl, rfl⟩ := even_flat hC.1
    rw [ptsA_flat]
    exact resR_bkw hC.2.1
  · exact RPd_ok _ _ _ _ _ h hC
def ELk : Env := mkE TBp RLk (fun _ => noL)
theorem ELk_ok : EnvOk Try.prog ELk := mkEOk TBp_ok RLk_ok (fun _ _ _ => noL_good)
abbrev zlBc_0 (bs : List Int) := (pgL (List.drop (0 : Nat) bs) (rdL bs.length) (0 : Int))
abbrev zlBc_1 (bs : List Int) (ms : List Int) := (some (IntKind.i64, (↑ms.length : Int).tmod (↑(zlBc_0 bs).length : Int)))
abbrev zlBc_2 (bs : List Int) := (pgL (List.drop 0 bs) (rdL bs.length) 0)
abbrev zlBc_3 (bs : List Int) (ms : List Int) := ((bndI none (↑(zlBc_0 bs).length : Int)).toNat - (bndI (zlBc_1 bs ms) (0 : Int)).toNat)
abbrev zlBc_4 (bs : List Int) (ms : List Int) := (some (IntKind.i64, (↑ms.length : Int).tmod (↑(zlBc_2 bs).length : Int)))
abbrev zlBc_5 (bs : List Int) := (ptsA (zlBc_2 bs).length (List.drop 0 (flat (zlBc_2 bs))))
abbrev zlBc_6 (bs : List Int) (ms : List Int) := ((bndI (zlBc_1 bs ms) (↑(zlBc_0 bs).length : Int)).toNat - (bndI none (0 : Int)).toNat)
abbrev zlBc_7 (bs : List Int) (ms : List Int) := (bndI (zlBc_1 bs ms) (0 : Int))
set_option maxRecDepth 100000 in
theorem tr_lBc (bs ms : List Int) : bodyV Try.prog ELk 30 12 7 [.row bs.length (.bytes bs), .row ms.length (.bytes ms)] = brT (decide (1048576 < (↑bs.length : Int))) (.fin (.bool (true)) []) (brT (decide (1048576 < (↑ms.length : Int))) (.fin (.bool (true)) []) (.need (Bytes (List.drop (0 : Nat) bs)) (.need (bs.length ≤ (List.drop (0 : Nat) bs).length) (.need ((zlBc_0 bs).length * (2 : Nat) ≤ (List.drop (0 : Nat) (flat (zlBc_0 bs))).length) (.need ((zlBc_0 bs).length ≤ (1000000000 : Nat)) (.need ((zlBc_0 bs).length * (2 : Nat) ≤ (List.drop (0 : Nat) (flat (zlBc_0 bs))).length) (.need ((zlBc_0 bs).length ≤ (1000000000 : Nat)) (brT (!bcV (zlBc_5 bs) == bcV (zlBc_5 bs)) (.need ((zlBc_0 bs).length * (2 : Nat) ≤ (List.drop (0 : Nat) (flat (zlBc_0 bs))).length) (.need ((zlBc_0 bs).length ≤ (1000000000 : Nat)) (.fin (.bool (bcV (zlBc_5 bs) == bcV (zlBc_5 bs))) []))) (brT (decide (bcV (zlBc_5 bs) < 0)) (.need ((zlBc_0 bs).length * (2 : Nat) ≤ (List.drop (0 : Nat) (flat (zlBc_0 bs))).length) (.need ((zlBc_0 bs).length ≤ (1000000000 : Nat)) (.fin (.bool (bcV (zlBc_5 bs) == bcV (zlBc_5 bs))) []))) (.need (¬(↑(zlBc_0 bs).length : Int) = (0 : Int)) (brT (decide ((↑(zlBc_2 bs).length : Int) ≤ bcV (zlBc_5 bs))) (.need ((List.drop (0 : Nat) (flat (zlBc_0 bs))).length = (zlBc_0 bs).length * (2 : Nat)) (.need ((zlBc_0 bs).length ≤ (100000 : Nat)) (.need ((revP (ptsA (zlBc_0 bs).length (List.drop (0 : Nat) (flat (zlBc_0 bs))))).length * (2 : Nat) ≤ (List.drop (0 : Nat) (flat (revP (ptsA (zlBc_0 bs).length (List.drop (0 : Nat) (flat (zlBc_0 bs))))))).length) (.need ((revP (ptsA (zlBc_0 bs).length (List.drop (0 : Nat) (flat (zlBc_0 bs))))).length ≤ (1000000000 : Nat)) (brT (bcV (ptsA (revP (zlBc_5 bs)).length (List.drop 0 (flat (revP (zlBc_5 bs))))) == bcV (zlBc_5 bs)) (.need (((0 : Nat) + ((bndI none (↑(zlBc_0 bs).length : Int)).toNat - (zlBc_7 bs ms).toNat, Cs.ints (List.take ((zlBc_3 bs ms) * Try.prog.types[(31 : Nat)].size) (List.drop ((0 : Nat) + (zlBc_7 bs ms).toNat * Try.prog.types[(31 : Nat)].size) (flat (zlBc_0 bs)))), [(0 : Nat) + (zlBc_7 bs ms).toNat * Try.prog.types[(31 : Nat)].size + (zlBc_3 bs ms) * Try.prog.types[(31 : Nat)].size ≤ (flat (zlBc_0 bs)).length]).fst + ((bndI (zlBc_1 bs ms) (↑(zlBc_0 bs).length : Int)).toNat - (bndI none (0 : Int)).toNat, Cs.ints (List.take ((zlBc_6 bs ms) * Try.prog.types[(31 : Nat)].size) (List.drop ((0 : Nat) + (bndI none (0 : Int)).toNat * Try.prog.types[(31 : Nat)].size) (flat (zlBc_0 bs)))), [(0 : Nat) + (bndI none (0 : Int)).toNat * Try.prog.types[(31 : Nat)].size + (zlBc_6 bs ms) * Try.prog.types[(31 : Nat)].size ≤ (flat (zlBc_0 bs)).length]).fst) * (2 : Nat) ≤ (List.drop (0 : Nat) (List.take (((0 : Nat) + ((bndI none (↑(zlBc_0 bs).length : Int)).toNat - (zlBc_7 bs ms).toNat, Cs.ints (List.take ((zlBc_3 bs ms) * Try.prog.types[(31 : Nat)].size) (List.drop ((0 : Nat) + (zlBc_7 bs ms).toNat * Try.prog.types[(31 : Nat)].size) (flat (zlBc_0 bs)))), [(0 : Nat) + (zlBc_7 bs ms).toNat * Try.prog.types[(31 : Nat)].size + (zlBc_3 bs ms) * Try.prog.types[(31 : Nat)].size ≤ (flat (zlBc_0 bs)).length]).fst) * (2 : Nat)) (List.drop (0 : Nat) ([] ++ List.take ((zlBc_3 bs ms) * (2 : Nat)) (List.drop ((0 : Nat) + (zlBc_7 bs ms).toNat * (2 : Nat)) (flat (zlBc_0 bs))))) ++ List.take (((bndI (zlBc_1 bs ms) (↑(zlBc_0 bs).length : Int)).toNat - (0 : Nat)) * (2 : Nat)) (List.drop (0 : Nat) (flat (zlBc_0 bs))))).length) (.need ((0 : Nat) + ((bndI none (↑(zlBc_0 bs).length : Int)).toNat - (zlBc_7 bs ms).toNat, Cs.ints (List.take ((zlBc_3 bs ms) * Try.prog.types[(31 : Nat)].size) (List.drop ((0 : Nat) + (zlBc_7 bs ms).toNat * Try.prog.types[(31 : Nat)].size) (flat (zlBc_0 bs)))), [(0 : Nat) + (zlBc_7 bs ms).toNat * Try.prog.types[(31 : Nat)].size + (zlBc_3 bs ms) * Try.prog.types[(31 : Nat)].size ≤ (flat (zlBc_0 bs)).length]).fst + ((bndI (zlBc_1 bs ms) (↑(zlBc_0 bs).length : Int)).toNat - (bndI none (0 : Int)).toNat, Cs.ints (List.take ((zlBc_6 bs ms) * Try.prog.types[(31 : Nat)].size) (List.drop ((0 : Nat) + (bndI none (0 : Int)).toNat * Try.prog.types[(31 : Nat)].size) (flat (zlBc_0 bs)))), [(0 : Nat) + (bndI none (0 : Int)).toNat * Try.prog.types[(31 : Nat)].size + (zlBc_6 bs ms) * Try.prog.types[(31 : Nat)].size ≤ (flat (zlBc_0 bs)).length]).fst ≤ (1000000000 : Nat)) (.need ((0 : Int) ≤ bndI (zlBc_1 bs ms) (0 : Int) ∧ bndI (zlBc_1 bs ms) (0 : Int) ≤ bndI none (↑(zlBc_0 bs).length : Int) ∧ bndI none (↑(zlBc_0 bs).length : Int) ≤ (↑(zlBc_0 bs).length : Int)) (.need (((0 : Nat) + ((bndI none (↑(zlBc_0 bs).length : Int)).toNat - (zlBc_7 bs ms).toNat, Cs.ints (List.take ((zlBc_3 bs ms) * Try.prog.types[(31 : Nat)].size) (List.drop ((0 : Nat) + (zlBc_7 bs ms).toNat * Try.prog.types[(31 : Nat)].size) (flat (zlBc_0 bs)))), [(0 : Nat) + (zlBc_7 bs ms).toNat * Try.prog.types[(31 : Nat)].size + (zlBc_3 bs ms) * Try.prog.types[(31 : Nat)].size ≤ (flat (zlBc_0 bs)).length]).fst) * (16 : Nat) ≤ (140737488355328 : Nat) ∧ (0 : Nat) + ((bndI none (↑(zlBc_0 bs).length : Int)).toNat - (zlBc_7 bs ms).toNat, Cs.ints (List.take ((zlBc_3 bs ms) * Try.prog.types[(31 : Nat)].size) (List.drop ((0 : Nat) + (zlBc_7 bs ms).toNat * Try.prog.types[(31 : Nat)].size) (flat (zlBc_0 bs)))), [(0 : Nat) + (zlBc_7 bs ms).toNat * Try.prog.types[(31 : Nat)].size + (zlBc_3 bs ms) * Try.prog.types[(31 : Nat)].size ≤ (flat (zlBc_0 bs)).length]).fst ≤ (1000000 : Nat)) (.need ((0 : Nat) + (zlBc_7 bs ms).toNat * (2 : Nat) + (zlBc_3 bs ms) * (2 : Nat) ≤ (flat (zlBc_0 bs)).length) (.need ((0 : Int) ≤ bndI none (0 : Int) ∧ bndI none (0 : Int) ≤ bndI (zlBc_1 bs ms) (↑(zlBc_0 bs).length : Int) ∧ bndI (zlBc_1 bs ms) (↑(zlBc_0 bs).length : Int) ≤ (↑(zlBc_0 bs).length : Int)) (.need (((0 : Nat) + ((bndI none (↑(zlBc_0 bs).length : Int)).toNat - (zlBc_7 bs ms).toNat, Cs.ints (List.take ((zlBc_3 bs ms) * Try.prog.types[(31 : Nat)].size) (List.drop ((0 : Nat) + (zlBc_7 bs ms).toNat * Try.prog.types[(31 : Nat)].size) (flat (zlBc_0 bs)))), [(0 : Nat) + (zlBc_7 bs ms).toNat * Try.prog.types[(31 : Nat)].size + (zlBc_3 bs ms) * Try.prog.types[(31 : Nat)].size ≤ (flat (zlBc_0 bs)).length]).fst + ((bndI (zlBc_1 bs ms) (↑(zlBc_0 bs).length : Int)).toNat - (bndI none (0 : Int)).toNat, Cs.ints (List.take ((zlBc_6 bs ms) * Try.prog.types[(31 : Nat)].size) (List.drop ((0 : Nat) + (bndI none (0 : Int)).toNat * Try.prog.types[(31 : Nat)].size) (flat (zlBc_0 bs)))), [(0 : Nat) + (bndI none (0 : Int)).toNat * Try.prog.types[(31 : Nat)].size + (zlBc_6 bs ms) * Try.prog.types[(31 : Nat)].size ≤ (flat (zlBc_0 bs)).length]).fst) * (16 : Nat) ≤ (140737488355328 : Nat) ∧ (0 : Nat) + ((bndI none (↑(zlBc_0 bs).length : Int)).toNat - (zlBc_7 bs ms).toNat, Cs.ints (List.take ((zlBc_3 bs ms) * Try.prog.types[(31 : Nat)].size) (List.drop ((0 : Nat) + (zlBc_7 bs ms).toNat * Try.prog.types[(31 : Nat)].size) (flat (zlBc_0 bs)))), [(0 : Nat) + (zlBc_7 bs ms).toNat * Try.prog.types[(31 : Nat)].size + (zlBc_3 bs ms) * Try.prog.types[(31 : Nat)].size ≤ (flat (zlBc_0 bs)).length]).fst + ((bndI (zlBc_1 bs ms) (↑(zlBc_0 bs).length : Int)).toNat - (bndI none (0 : Int)).toNat, Cs.ints (List.take ((zlBc_6 bs ms) * Try.prog.types[(31 : Nat)].size) (List.drop ((0 : Nat) + (bndI none (0 : Int)).toNat * Try.prog.types[(31 : Nat)].size) (flat (zlBc_0 bs)))), [(0 : Nat) + (bndI none (0 : Int)).toNat * Try.prog.types[(31 : Nat)].size + (zlBc_6 bs ms) * Try.prog.types[(31 : Nat)].size ≤ (flat (zlBc_0 bs)).length]).fst ≤ (1000000 : Nat)) (.need ((0 : Nat) + ((bndI (zlBc_1 bs ms) (↑(zlBc_0 bs).length : Int)).toNat - (0 : Nat)) * (2 : Nat) ≤ (flat (zlBc_0 bs)).length) (.need ((0 : Nat) + ((0 : Nat) + ((bndI none (↑(zlBc_0 bs).length : Int)).toNat - (zlBc_7 bs ms).toNat, Cs.ints (List.take ((zlBc_3 bs ms) * Try.prog.types[(31 : Nat)].size) (List.drop ((0 : Nat) + (zlBc_7 bs ms).toNat * Try.prog.types[(31 : Nat)].size) (flat (zlBc_0 bs)))), [(0 : Nat) + (zlBc_7 bs ms).toNat * Try.prog.types[(31 : Nat)].size + (zlBc_3 bs ms) * Try.prog.types[(31 : Nat)].size ≤ (flat (zlBc_0 bs)).length]).fst) * (2 : Nat) ≤ ([] ++ List.take ((zlBc_3 bs ms) * (2 : Nat)) (List.drop ((0 : Nat) + (zlBc_7 bs ms).toNat * (2 : Nat)) (flat (zlBc_0 bs)))).length) (.fin (.bool (bcV (ptsA (0 + ((bndI none (↑(zlBc_2 bs).length : Int)).toNat - (bndI (zlBc_4 bs ms) 0).toNat, Cs.ints (List.take (((bndI none (↑(zlBc_2 bs).length : Int)).toNat - (bndI (zlBc_4 bs ms) 0).toNat) * Try.prog.types[31].size) (List.drop (0 + (bndI (zlBc_4 bs ms) 0).toNat * Try.prog.types[31].size) (flat (zlBc_2 bs)))), [0 + (bndI (zlBc_4 bs ms) 0).toNat * Try.prog.types[31].size + ((bndI none (↑(zlBc_2 bs).length : Int)).toNat - (bndI (zlBc_4 bs ms) 0).toNat) * Try.prog.types[31].size ≤ (flat (zlBc_2 bs)).length]).fst + ((bndI (zlBc_4 bs ms) (↑(zlBc_2 bs).length : Int)).toNat - (bndI none 0).toNat, Cs.ints (List.take (((bndI (zlBc_4 bs ms) (↑(zlBc_2 bs).length : Int)).toNat - (bndI none 0).toNat) * Try.prog.types[31].size) (List.drop (0 + (bndI none 0).toNat * Try.prog.types[31].size) (flat (zlBc_2 bs)))), [0 + (bndI none 0).toNat * Try.prog.types[31].size + ((bndI (zlBc_4 bs ms) (↑(zlBc_2 bs).length : Int)).toNat - (bndI none 0).toNat) * Try.prog.types[31].size ≤ (flat (zlBc_2 bs)).length]).fst) (List.drop 0 (List.take ((0 + ((bndI none (↑(zlBc_2 bs).length : Int)).toNat - (bndI (zlBc_4 bs ms) 0).toNat, Cs.ints (List.take (((bndI none (↑(zlBc_2 bs).length : Int)).toNat - (bndI (zlBc_4 bs ms) 0).toNat) * Try.prog.types[31].size) (List.drop (0 + (bndI (zlBc_4 bs ms) 0).toNat * Try.prog.types[31].size) (flat (zlBc_2 bs)))), [0 + (bndI (zlBc_4 bs ms) 0).toNat * Try.prog.types[31].size + ((bndI none (↑(zlBc_2 bs).length : Int)).toNat - (bndI (zlBc_4 bs ms) 0).toNat) * Try.prog.types[31].size ≤ (flat (zlBc_2 bs)).length]).fst) * 2) (List.drop 0 ([] ++ List.take (((bndI none (↑(zlBc_2 bs).length : Int)).toNat - (bndI (zlBc_4 bs ms) 0).toNat) * 2) (List.drop (0 + (bndI (zlBc_4 bs ms) 0).toNat * 2) (flat (zlBc_2 bs))))) ++ List.take (((bndI (zlBc_4 bs ms) (↑(zlBc_2 bs).length : Int)).toNat - 0) * 2) (List.drop 0 (flat (zlBc_2 bs)))))) == bcV (zlBc_5 bs))) [])))))))))) (.fin (.bool (false)) [])))))) (.fin (.bool (false)) [])))))))))))) := by kernel_rfl
theorem big_of {ps : List Pt} (h : ps.length ≤ 40) : ps.length ≤ 1000000000 := by omega
theorem cl_or (p : Prop) [Decidable p] : decide p = true ∨ decide p = false := by cases decide p <;> simp
/-- Twice the area, by the theorem of Pick. -/
theorem pick_fact {ps : List Pt} (h : issI ps = true) : ((daV ps).natAbs : Int) = 2 * icV ps + bcV ps - 2 ∧ (ps.length : Int) ≤ bcV ps ∧ bcV ps ≤ 40000 ∧ -40000000 ≤ daV ps ∧ daV ps ≤ 40000000 := by
  obtain ⟨hv, hl, h3⟩ := issI_ok h
  have e1 := area_par (ps := ps) (by omega)
  have b1 := sgA_bd hv ps.length (Nat.le_refl _)
  have b2 := bcA_bd hv ps.length (Nat.le_refl _)
  have g := bc_ge h
  unfold daV icV bcV
  rw [h]
  simp only [cond_true]
  generalize sgA ps ps.length = A at *
  generalize bcA ps ps.length = B at *
  obtain ⟨x, hx⟩ : ∃ x : Int, (A.natAbs : Int) - B + 2 = 2 * x := ⟨((A.natAbs : Int) - B + 2) / 2, by omega⟩
  have t : ((A.natAbs : Int) - B + 2).tdiv 2 = x := by
    rw [hx, Int.mul_comm]
    exact Int.mul_tdiv_cancel x (by decide)
  rw [t]
  refine ⟨by omega, g, by omega, by omega, by omega⟩
theorem no_fact {ps : List Pt} (h : issI ps = false) : daV ps = 0 ∧ icV ps = -1 ∧ bcV ps = -1 := by
  unfold daV icV bcV
  rw [h]
  exact ⟨rfl, rfl, rfl⟩
theorem tmod_nat (a b : Nat) : (a : Int).tmod (b : Int) = ((a % b : Nat) : Int) := by
  rw [Int.tmod_eq_emod_of_nonneg (by omega)]
  omega
theorem rotS_P (r : Nat) (ps : List Pt) : rotS r ps = rotP r ps := rfl
theorem bc_rot {ps : List Pt} {r : Nat} (h : r < ps.length) : bcV (rotP r ps) = bcV ps := by
  unfold bcV
  rw [issI_rot h, rotP_len (Nat.le_of_lt h), bcA_rot h]
theorem bc_rev (ps : List Pt) : bcV (revP ps) = bcV ps := by
  unfold bcV
  rw [issI_rev, revP_len, bcA_rev]
set_option maxRecDepth 100000 in
theorem law_bc (bs ms : List Int) (hb : Bytes bs) (_ : bs.length ≤ maxLen) (hm : Bytes ms) (_ : ms.length ≤ maxLen) : Res Try.prog 7 [.row bs.length (.bytes bs), .row ms.length (.bytes ms)] (.bool true) := by
  refine bodyV_res mixed ELk_ok (m := 30) (n := 12) rfl ?_
  rw [tr_lBc]
  try delta zB2 zB4 zR2 zI zlBc_0 zlBc_1 zlBc_2 zlBc_3 zlBc_4 zlBc_5 zlBc_6 zlBc_7
  have T : Try.prog.types[(31 : Nat)].size = 2 := by kernel_rfl
  have eN : ∀ n : Nat, bndI none (n : Int) = n := fun _ => rfl
  have e0 : bndI none 0 = 0 := rfl
  have eS : ∀ (i d : Int), bndI (some (IntKind.i64, i)) d = i := fun _ _ => rfl
  have z0 : Int.toNat 0 = 0 := rfl
  simp only [List.drop_zero, ptsA_flat, flat_length, T, eN, e0, eS, z0, tmod_nat, Int.toNat_natCast, Nat.zero_add, Nat.sub_zero, Nat.zero_mul, List.nil_append]
  obtain ⟨_, hL, _⟩ := pgKey hb (Nat.le_refl _) (l := rdL bs.length) (by unfold rdL; omega) (by unfold rdL; omega)
  generalize pgL bs (rdL bs.length) 0 = ps at *
  have hl := big_of hL
  rcases cl_or ((1048576 : Int) < bs.length) with cl | cl
  · rw [cl]
    exact rfl
  rw [cl]
  rcases cl_or ((1048576 : Int) < ms.length) with cm | cm
  · rw [cm]
    exact rfl
  rw [cm]
  simp only [beq_self_eq_true, Bool.not_true, brT_t, brT_f, Tree.ok]
  by_cases hn : bcV ps < 0
  · rw [decide_eq_true hn]
    exact ⟨hb, Nat.le_refl _, Nat.le_refl _, hl, Nat.le_refl _, hl, Nat.le_refl _, hl, rfl⟩
  · rw [decide_eq_false hn]
    have hs : issI ps = true := by
      rcases hs : issI ps with _ | _
      · exact absurd (no_fact hs).2.2 (by omega)
      · rfl
    obtain ⟨hv, h20, h3⟩ := issI_ok hs
    have hr : ms.length % ps.length < ps.length := Nat.mod_lt _ (by omega)
    generalize ms.length % ps.length = r at *
    have hc := rot_cells (X := ps) (m := ps.length) (r := r) rfl (by omega)
    have hx : ps.length - r + r = ps.length := by omega
    have hq : (rotP r ps).length = ps.length := rotP_len (by omega)
    have hA : ptsA ps.length (flat (rotP r ps)) = rotP r ps := by
      have := ptsA_flat (rotP r ps)
      rwa [hq] at this
    have fl := pick_fact hs
    simp only [brT_f, Tree.ok]
    rw [rotS_P] at hc
    simp only [hc, hx, hA, bc_rot hr, bc_rev, revP_len, decide_eq_true fl.2.1, beq_self_eq_true, brT_t, Tree.ok]
    repeat' (first | exact hb | exact hl | exact rfl | exact True.intro | omega | refine And.intro ?_ ?_ | (rw [flat_length]; omega) | (rw [List.length_take, List.length_drop, flat_length]; omega))
end Go.Proofs.Ytnjmepbblcfnfab
