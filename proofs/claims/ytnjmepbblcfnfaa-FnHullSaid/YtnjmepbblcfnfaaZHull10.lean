/-
  Texts that the proof needs, merged. Written by an AI agent.
-/
import Derived.Orders
import Derived.Below
import Derived.OrdersIn
import Derived.Deep.LoopGhost
import Derived.WalkKit
import Derived.Laws.CopyRow
import Derived.Laws.AppendOwn
import Derived.Laws.Slices
import Derived.Laws.MakeOwn
import Derived.Test.YtnjmepbblcfnfaaRows
import Derived.ProofKit
import Derived.OpenShut
import Derived.Carry
import Derived.IntWalk
import Derived.Test.YtnjmepbblcfnfaaProg
import Derived.WalkSpells
import Derived.WalkLawsBesides
import Derived.Lib.Hide
import Derived.Deep.QuietTactic
import Derived.BigQuiet
import Derived.KernelRfl
import Derived.Deep.RegionHeld3
import Derived.LoopTactic
import Derived.Laws.StructEq
import Derived.Laws.Tables
import Derived.RangeFuncNested
import Derived.RangeFuncLeaves
import Derived.Deep.Slices
import Derived.Deep.Fields
import Derived.ChangeSame
import Derived.Shelf.SlSortCmp.WholeK
import Derived.Sort.Grow
import Derived.Deep.DeepCutAuto
import Derived.Shelf.SlSortCmp.NoneTotal
import Derived.Test.YtnjmepbblcfnfaaZHull9
namespace Go.Proofs.Ytnjmepbblcfnfaa
set_option linter.all false
open Go.RowKit
/-- A list from its first least point on. -/
def canW (q : List Pt) : List Pt := q.drop (mnI q q.length) ++ q.take (mnI q q.length)
def canL (ps : List Pt) : List Pt := if sgA ps ps.length < 0 then canW (revP ps) else canW ps
theorem cut_hi (q : List Pt) (k : Nat) : List.take ((q.length - k) * 2) (List.drop (k * 2) (flat q)) = flat (q.drop k) := by
  rw [flat_drop, List.take_of_length_le]
  rw [flat_length, List.length_drop]
  exact Nat.le_refl _
def TCi0 : Tab := fun f ds => match f with
  | 81 => pSix ds
  | 78 => pIss ds
  | f => T6' f ds
theorem TCi0_ok : TabOk Try.prog TCi0 := by
  intro f ds v C h hC
  unfold TCi0 at h
  (try split at h)
  all_goals first | with_reducible exact pSix_ok h hC | with_reducible exact pIss_i h hC | with_reducible exact pIss_s h hC | exact T6'_ok _ _ _ _ h hC
def TCi : Tab := orT TSb TCi0
theorem TCi_ok : TabOk Try.prog TCi := orT_ok TSb_ok TCi0_ok
def JRw : TabJ := consJ 67 (fun _ => wrG rvW) noJ
theorem JRw_ok : GSound Try.prog JRw.g := consJ_wr mixed (failG_sound Try.prog) (entersB_res (by kernel_rfl)).1 rvW_ok
def JCa : TabJ := consR 68 catG JRw
theorem JCa_ok : GSound Try.prog JCa.g := catG_sound JRw_ok
def ECi : Env := withT (mkE TCi RCl (fun _ => noL)) JCa
theorem ECi_ok : EnvOk Try.prog ECi := withT_ok (mkEOk TCi_ok RCl_ok (fun _ _ _ => noL_good)) JCa_ok
abbrev ziCan_0 (ps : List Pt) := (some (IntKind.i64, idxV (ptsA (ptsA ps.length (List.drop (0 : Nat) (flat ps))).length (List.drop (0 : Nat) (flat (revP (ptsA (ptsA ps.length (List.drop (0 : Nat) (flat ps))).length (flat (ptsA ps.length (List.drop (0 : Nat) (flat ps))))))))) (minL ((ptsA (ptsA ps.length (List.drop (0 : Nat) (flat ps))).length (List.drop (0 : Nat) (flat (revP (ptsA (ptsA ps.length (List.drop (0 : Nat) (flat ps))).length (flat (ptsA ps.length (List.drop (0 : Nat) (flat ps))))))))).getD (0 : Nat) ((0 : Int), (0 : Int))) (List.drop (1 : Nat) (ptsA (ptsA ps.length (List.drop (0 : Nat) (flat ps))).length (List.drop (0 : Nat) (flat (revP (ptsA (ptsA ps.length (List.drop (0 : Nat) (flat ps))).length (flat (ptsA ps.length (List.drop (0 : Nat) (flat ps))))))))))).fst (minL ((ptsA (ptsA ps.length (List.drop (0 : Nat) (flat ps))).length (List.drop (0 : Nat) (flat (revP (ptsA (ptsA ps.length (List.drop (0 : Nat) (flat ps))).length (flat (ptsA ps.length (List.drop (0 : Nat) (flat ps))))))))).getD (0 : Nat) ((0 : Int), (0 : Int))) (List.drop (1 : Nat) (ptsA (ptsA ps.length (List.drop (0 : Nat) (flat ps))).length (List.drop (0 : Nat) (flat (revP (ptsA (ptsA ps.length (List.drop (0 : Nat) (flat ps))).length (flat (ptsA ps.length (List.drop (0 : Nat) (flat ps))))))))))).snd))
abbrev ziCan_1 (ps : List Pt) := (some (IntKind.i64, idxV (ptsA (ptsA ps.length (List.drop 0 (flat ps))).length (List.drop 0 (flat (revP (ptsA (ptsA ps.length (List.drop 0 (flat ps))).length (flat (ptsA ps.length (List.drop 0 (flat ps))))))))) (minL ((ptsA (ptsA ps.length (List.drop 0 (flat ps))).length (List.drop 0 (flat (revP (ptsA (ptsA ps.length (List.drop 0 (flat ps))).length (flat (ptsA ps.length (List.drop 0 (flat ps))))))))).getD 0 (0, 0)) (List.drop 1 (ptsA (ptsA ps.length (List.drop 0 (flat ps))).length (List.drop 0 (flat (revP (ptsA (ptsA ps.length (List.drop 0 (flat ps))).length (flat (ptsA ps.length (List.drop 0 (flat ps))))))))))).fst (minL ((ptsA (ptsA ps.length (List.drop 0 (flat ps))).length (List.drop 0 (flat (revP (ptsA (ptsA ps.length (List.drop 0 (flat ps))).length (flat (ptsA ps.length (List.drop 0 (flat ps))))))))).getD 0 (0, 0)) (List.drop 1 (ptsA (ptsA ps.length (List.drop 0 (flat ps))).length (List.drop 0 (flat (revP (ptsA (ptsA ps.length (List.drop 0 (flat ps))).length (flat (ptsA ps.length (List.drop 0 (flat ps))))))))))).snd))
abbrev ziCan_2 (ps : List Pt) := (some (IntKind.i64, idxV (ptsA (ptsA ps.length (List.drop (0 : Nat) (flat ps))).length (List.drop (0 : Nat) (flat (ptsA ps.length (List.drop (0 : Nat) (flat ps)))))) (minL ((ptsA (ptsA ps.length (List.drop (0 : Nat) (flat ps))).length (List.drop (0 : Nat) (flat (ptsA ps.length (List.drop (0 : Nat) (flat ps)))))).getD (0 : Nat) ((0 : Int), (0 : Int))) (List.drop (1 : Nat) (ptsA (ptsA ps.length (List.drop (0 : Nat) (flat ps))).length (List.drop (0 : Nat) (flat (ptsA ps.length (List.drop (0 : Nat) (flat ps)))))))).fst (minL ((ptsA (ptsA ps.length (List.drop (0 : Nat) (flat ps))).length (List.drop (0 : Nat) (flat (ptsA ps.length (List.drop (0 : Nat) (flat ps)))))).getD (0 : Nat) ((0 : Int), (0 : Int))) (List.drop (1 : Nat) (ptsA (ptsA ps.length (List.drop (0 : Nat) (flat ps))).length (List.drop (0 : Nat) (flat (ptsA ps.length (List.drop (0 : Nat) (flat ps)))))))).snd))
abbrev ziCan_3 (ps : List Pt) := (some (IntKind.i64, idxV (ptsA (ptsA ps.length (List.drop 0 (flat ps))).length (List.drop 0 (flat (ptsA ps.length (List.drop 0 (flat ps)))))) (minL ((ptsA (ptsA ps.length (List.drop 0 (flat ps))).length (List.drop 0 (flat (ptsA ps.length (List.drop 0 (flat ps)))))).getD 0 (0, 0)) (List.drop 1 (ptsA (ptsA ps.length (List.drop 0 (flat ps))).length (List.drop 0 (flat (ptsA ps.length (List.drop 0 (flat ps)))))))).fst (minL ((ptsA (ptsA ps.length (List.drop 0 (flat ps))).length (List.drop 0 (flat (ptsA ps.length (List.drop 0 (flat ps)))))).getD 0 (0, 0)) (List.drop 1 (ptsA (ptsA ps.length (List.drop 0 (flat ps))).length (List.drop 0 (flat (ptsA ps.length (List.drop 0 (flat ps)))))))).snd))
abbrev ziCan_4 (ps : List Pt) := (ptsA ps.length (List.drop (0 : Nat) (flat ps)))
abbrev ziCan_5 (ps : List Pt) := (ptsA ps.length (List.drop 0 (flat ps)))
set_option maxRecDepth 100000 in
theorem tr_iCan (ps : List Pt) : bodyX Try.prog ECi 30 12 23 [.row ps.length (.ints (flat ps))] = .need (ps.length * (2 : Nat) ≤ (List.drop (0 : Nat) (flat ps)).length) (.need (ps.length ≤ (1000000000 : Nat)) (brT (!issI (ziCan_5 ps)) (.fin (.slice none (0) (0)) [some ⟨.view, .ints (flat ps)⟩]) (.need (ps.length * (2 : Nat) ≤ (List.drop (0 : Nat) (flat ps)).length) (.need (ps.length ≤ (1000000 : Nat)) (.need ((ziCan_4 ps).length * (2 : Nat) ≤ (List.drop (0 : Nat) (flat (ziCan_4 ps))).length) (.need (allV (ptsA (ziCan_4 ps).length (List.drop (0 : Nat) (flat (ziCan_4 ps)))) = true) (.need ((ziCan_4 ps).length ≤ (1000 : Nat)) (brT (decide (sgA (ptsA (ziCan_5 ps).length (List.drop 0 (flat (ziCan_5 ps)))) (ziCan_5 ps).length < 0)) (.need ((flat (ziCan_4 ps)).length = (ziCan_4 ps).length * (2 : Nat)) (.need ((ziCan_4 ps).length ≤ (1000000000 : Nat)) (.need ((ziCan_4 ps).length * (2 : Nat) ≤ (List.drop (0 : Nat) (flat (revP (ptsA (ziCan_4 ps).length (flat (ziCan_4 ps)))))).length) (.need ((ziCan_4 ps).length ≤ (1000000000 : Nat)) (.need ((0 : Nat) < (ziCan_4 ps).length) (.need ((ziCan_4 ps).length * (2 : Nat) ≤ (List.drop (0 : Nat) (flat (revP (ptsA (ziCan_4 ps).length (flat (ziCan_4 ps)))))).length) (.need ((ziCan_4 ps).length ≤ (1000000000 : Nat)) (.need ((0 : Int) ≤ bndI (ziCan_0 ps) (0 : Int) ∧ bndI (ziCan_0 ps) (0 : Int) ≤ bndI none (↑(ziCan_4 ps).length : Int) ∧ bndI none (↑(ziCan_4 ps).length : Int) ≤ (↑(ziCan_4 ps).length : Int)) (.need ((0 : Int) ≤ bndI none (0 : Int) ∧ bndI none (0 : Int) ≤ bndI (ziCan_0 ps) (↑(ziCan_4 ps).length : Int) ∧ bndI (ziCan_0 ps) (↑(ziCan_4 ps).length : Int) ≤ (↑(ziCan_4 ps).length : Int)) (.need (((bndI none (↑(ziCan_4 ps).length : Int)).toNat - (bndI (ziCan_0 ps) (0 : Int)).toNat) * (2 : Nat) ≤ (List.drop ((0 : Nat) + (bndI (ziCan_0 ps) (0 : Int)).toNat * (2 : Nat)) (flat (revP (ptsA (ziCan_4 ps).length (flat (ziCan_4 ps)))))).length) (.need (((bndI (ziCan_0 ps) (↑(ziCan_4 ps).length : Int)).toNat - (0 : Nat)) * (2 : Nat) ≤ (List.drop (0 : Nat) (flat (revP (ptsA (ziCan_4 ps).length (flat (ziCan_4 ps)))))).length) (.need ((0 : Nat) < (bndI none (↑(ziCan_4 ps).length : Int)).toNat - (bndI (ziCan_0 ps) (0 : Int)).toNat + ((bndI (ziCan_0 ps) (↑(ziCan_4 ps).length : Int)).toNat - (0 : Nat))) (.need ((bndI none (↑(ziCan_4 ps).length : Int)).toNat - (bndI (ziCan_0 ps) (0 : Int)).toNat + ((bndI (ziCan_0 ps) (↑(ziCan_4 ps).length : Int)).toNat - (0 : Nat)) ≤ (1000 : Nat)) (.fin (.slice (some ⟨3, 0, none⟩) ((bndI none (↑(ziCan_5 ps).length : Int)).toNat - (bndI (ziCan_1 ps) 0).toNat + ((bndI (ziCan_1 ps) (↑(ziCan_5 ps).length : Int)).toNat - 0)) ((bndI none (↑(ziCan_5 ps).length : Int)).toNat - (bndI (ziCan_1 ps) 0).toNat + ((bndI (ziCan_1 ps) (↑(ziCan_5 ps).length : Int)).toNat - 0))) [some ⟨.view, .ints (flat ps)⟩, some ⟨.row 30 2, .ints (flat (revP (ptsA (ziCan_5 ps).length (flat (ziCan_5 ps)))))⟩, some ⟨.row 23 1, .vals [.slice (some ⟨1, 0 + (bndI (ziCan_1 ps) 0).toNat * 2, none⟩) ((bndI none (↑(ziCan_5 ps).length : Int)).toNat - (bndI (ziCan_1 ps) 0).toNat) ((bndI none (↑(ziCan_5 ps).length : Int)).toNat - (bndI (ziCan_1 ps) 0).toNat), .slice (some ⟨1, 0, none⟩) ((bndI (ziCan_1 ps) (↑(ziCan_5 ps).length : Int)).toNat - 0) ((bndI (ziCan_1 ps) (↑(ziCan_5 ps).length : Int)).toNat - 0)]⟩, some ⟨.row 30 2, .ints (List.take (((bndI none (↑(ziCan_5 ps).length : Int)).toNat - (bndI (ziCan_1 ps) 0).toNat) * 2) (List.drop (0 + (bndI (ziCan_1 ps) 0).toNat * 2) (flat (revP (ptsA (ziCan_5 ps).length (flat (ziCan_5 ps)))))) ++ List.take (((bndI (ziCan_1 ps) (↑(ziCan_5 ps).length : Int)).toNat - 0) * 2) (List.drop 0 (flat (revP (ptsA (ziCan_5 ps).length (flat (ziCan_5 ps)))))))⟩])))))))))))))) (.need ((ziCan_4 ps).length * (2 : Nat) ≤ (List.drop (0 : Nat) (flat (ziCan_4 ps))).length) (.need ((ziCan_4 ps).length ≤ (1000000000 : Nat)) (.need ((0 : Nat) < (ziCan_4 ps).length) (.need ((ziCan_4 ps).length * (2 : Nat) ≤ (List.drop (0 : Nat) (flat (ziCan_4 ps))).length) (.need ((ziCan_4 ps).length ≤ (1000000000 : Nat)) (.need ((0 : Int) ≤ bndI (ziCan_2 ps) (0 : Int) ∧ bndI (ziCan_2 ps) (0 : Int) ≤ bndI none (↑(ziCan_4 ps).length : Int) ∧ bndI none (↑(ziCan_4 ps).length : Int) ≤ (↑(ziCan_4 ps).length : Int)) (.need ((0 : Int) ≤ bndI none (0 : Int) ∧ bndI none (0 : Int) ≤ bndI (ziCan_2 ps) (↑(ziCan_4 ps).length : Int) ∧ bndI (ziCan_2 ps) (↑(ziCan_4 ps).length : Int) ≤ (↑(ziCan_4 ps).length : Int)) (.need (((bndI none (↑(ziCan_4 ps).length : Int)).toNat - (bndI (ziCan_2 ps) (0 : Int)).toNat) * (2 : Nat) ≤ (List.drop ((0 : Nat) + (bndI (ziCan_2 ps) (0 : Int)).toNat * (2 : Nat)) (flat (ziCan_4 ps))).length) (.need (((bndI (ziCan_2 ps) (↑(ziCan_4 ps).length : Int)).toNat - (0 : Nat)) * (2 : Nat) ≤ (List.drop (0 : Nat) (flat (ziCan_4 ps))).length) (.need ((0 : Nat) < (bndI none (↑(ziCan_4 ps).length : Int)).toNat - (bndI (ziCan_2 ps) (0 : Int)).toNat + ((bndI (ziCan_2 ps) (↑(ziCan_4 ps).length : Int)).toNat - (0 : Nat))) (.need ((bndI none (↑(ziCan_4 ps).length : Int)).toNat - (bndI (ziCan_2 ps) (0 : Int)).toNat + ((bndI (ziCan_2 ps) (↑(ziCan_4 ps).length : Int)).toNat - (0 : Nat)) ≤ (1000 : Nat)) (.fin (.slice (some ⟨3, 0, none⟩) ((bndI none (↑(ziCan_5 ps).length : Int)).toNat - (bndI (ziCan_3 ps) 0).toNat + ((bndI (ziCan_3 ps) (↑(ziCan_5 ps).length : Int)).toNat - 0)) ((bndI none (↑(ziCan_5 ps).length : Int)).toNat - (bndI (ziCan_3 ps) 0).toNat + ((bndI (ziCan_3 ps) (↑(ziCan_5 ps).length : Int)).toNat - 0))) [some ⟨.view, .ints (flat ps)⟩, some ⟨.row 30 2, .ints (flat (ziCan_5 ps))⟩, some ⟨.row 23 1, .vals [.slice (some ⟨1, 0 + (bndI (ziCan_3 ps) 0).toNat * 2, none⟩) ((bndI none (↑(ziCan_5 ps).length : Int)).toNat - (bndI (ziCan_3 ps) 0).toNat) ((bndI none (↑(ziCan_5 ps).length : Int)).toNat - (bndI (ziCan_3 ps) 0).toNat), .slice (some ⟨1, 0, none⟩) ((bndI (ziCan_3 ps) (↑(ziCan_5 ps).length : Int)).toNat - 0) ((bndI (ziCan_3 ps) (↑(ziCan_5 ps).length : Int)).toNat - 0)]⟩, some ⟨.row 30 2, .ints (List.take (((bndI none (↑(ziCan_5 ps).length : Int)).toNat - (bndI (ziCan_3 ps) 0).toNat) * 2) (List.drop (0 + (bndI (ziCan_3 ps) 0).toNat * 2) (flat (ziCan_5 ps))) ++ List.take (((bndI (ziCan_3 ps) (↑(ziCan_5 ps).length : Int)).toNat - 0) * 2) (List.drop 0 (flat (ziCan_5 ps))))⟩])))))))))))))))))))) := by kernel_rfl
theorem mnI_is (q : List Pt) : ∀ n, (∀ j, j < n → pltB (q.getD j (0, 0)) (q.getD (mnI q n) (0, 0)) = false) ∧ (∀ j, j < mnI q n → pltB (q.getD (mnI q n) (0, 0)) (q.getD j (0, 0)) = true) ∧ (0 < n → mnI q n < n)
  | 0 => ⟨fun j h => by omega, fun j h => by have : mnI q 0 = 0 := rfl; omega, fun h => by omega⟩
  | n + 1 => by
    obtain ⟨h1, h2, h3⟩ := mnI_is q n
    have hle := mnI_le q n
    have st : mnI q (n + 1) = bif pltB (q.getD n (0, 0)) (q.getD (mnI q n) (0, 0)) then n else mnI q n := rfl
    rcases hp : pltB (q.getD n (0, 0)) (q.getD (mnI q n) (0, 0)) with _ | _
    · rw [hp, cond_false] at st
      rw [st]
      refine ⟨fun j hj => ?_, h2, fun _ => by omega⟩
      rcases Nat.lt_or_ge j n with h | h
      · exact h1 j h
      · obtain rfl : j = n := by omega
        exact hp
    · rw [hp, cond_true] at st
      rw [st]
      refine ⟨fun j hj => ?_, fun j hj => ?_, fun _ => by omega⟩
      · rcases Nat.lt_or_ge j n with h | h
        · have a := h1 j h
          rw [pltB_iff] at hp
          rw [← Bool.not_eq_true, pltB_iff] at a ⊢
          omega
        · obtain rfl : j = n := by omega
          exact plt_irr
      · have a := h1 j hj
        rw [pltB_iff] at hp ⊢
        rw [← Bool.not_eq_true, pltB_iff] at a
        omega
theorem fsN_at {q : List Pt} {x y : Int} {k : Nat} (hk : npQ q x y k = false) : ∀ (n i : Nat), i ≤ k → k < i + n → (∀ j, i ≤ j → j < k → npQ q x y j = true) → fsN q x y i n = k
  | 0, i, h1, h2, _ => by omega
  | n + 1, i, h1, h2, h => by
    show (bif npQ q x y i then fsN q x y (i + 1) n else i) = k
    rcases Nat.lt_or_ge i k with hi | hi
    · rw [h i (Nat.le_refl _) hi, cond_true]
      exact fsN_at hk n (i + 1) hi (by omega) fun j a b => h j (by omega) b
    · obtain rfl : i = k := by omega
      rw [hk, cond_false]
theorem np_ff {q : List Pt} {p : Pt} {j : Nat} : npQ q p.1 p.2 j = false ↔ q.getD j (0, 0) = p := by
  unfold npQ
  rw [Bool.not_eq_false', Bool.and_eq_true, beq_iff_eq, beq_iff_eq]
  exact ⟨fun h => Prod.ext h.1 h.2, fun h => by rw [h]; exact ⟨rfl, rfl⟩⟩
theorem min_mem {q : List Pt} (h0 : 0 < q.length) : minL (q.getD 0 (0, 0)) (q.drop 1) ∈ q ∧ ∀ p ∈ q, pltB p (minL (q.getD 0 (0, 0)) (q.drop 1)) = false := by
  cases q with
  | nil => cases h0
  | cons a r =>
    show minL a r ∈ a :: r ∧ ∀ p ∈ a :: r, pltB p (minL a r) = false
    obtain ⟨h1, h2, h3⟩ := minL_le r a
    refine ⟨h1.elim (fun h => by rw [h]; exact List.mem_cons_self ..) (List.mem_cons_of_mem _), fun p hp => ?_⟩
    rcases List.mem_cons.1 hp with rfl | hp
    · exact h2
    · exact h3 p hp
/-- The first place of the least. -/
theorem can_idx {q : List Pt} (h0 : 0 < q.length) : idxV q (minL (q.getD 0 (0, 0)) (q.drop 1)).1 (minL (q.getD 0 (0, 0)) (q.drop 1)).2 = (mnI q q.length : Nat) := by
  obtain ⟨m1, m2⟩ := min_mem h0
  generalize minL (q.getD 0 (0, 0)) (q.drop 1) = m at *
  obtain ⟨k1, k2, k3⟩ := mnI_is q q.length
  have k3 := k3 h0
  generalize mnI q q.length = k at *
  have e : q.getD k (0, 0) = m := by
    obtain ⟨j, hj, hjm⟩ := List.getElem_of_mem m1
    have g : q.getD j (0, 0) = m := by simp [hj, hjm]
    have a := k1 j hj
    have b := m2 (q.getD k (0, 0)) (by simp [k3])
    rw [g] at a
    rw [← Bool.not_eq_true, pltB_iff] at a b
    exact Prod.ext (by omega) (by omega)
  unfold idxV
  rw [np_mem m1, cond_false, fsN_at (np_ff.2 e) _ _ (Nat.zero_le _) (by omega)]
  intro j _ hj
  rw [← Bool.not_eq_false, np_ff]
  intro hh
  have a := k2 j hj
  rw [hh, e, plt_irr] at a
  cases a
theorem iss_ok {ps : List Pt} (h : issI ps = true) : allV ps = true ∧ ps.length ≤ 20 ∧ 3 ≤ ps.length := by
  unfold issI okL at h
  simp only [Bool.and_eq_true, decide_eq_true_eq] at h
  exact ⟨h.1.2.1, h.1.2.2, h.1.1⟩
/-- What Canonical answers. -/
def canV (ps : List Pt) : List Pt := bif issI ps then canL ps else []
set_option maxRecDepth 100000 in
theorem resR_iCan (ps : List Pt) (h : Big ps) : ResR Try.prog 23 [.row ps.length (.ints (flat ps))] (rowP (canV ps)) (blkP (canV ps)) := by
  refine bodyX_resR mixed ECi_ok (m := 30) (n := 12) rfl ?_
  rw [tr_iCan]
  try delta zB2 zB4 zR2 zI ziCan_0 ziCan_1 ziCan_2 ziCan_3 ziCan_4 ziCan_5
  unfold Big at h
  have hsz : Try.prog.types[(30 : Nat)].size = 2 := by kernel_rfl
  simp only [List.drop_zero, ptsA_flat, flat_length, hsz, bnd_some, bnd_none, Int.toNat_zero, Nat.sub_zero, Nat.zero_mul, Nat.zero_add, List.nil_append, Int.toNat_natCast]
  unfold canV
  rcases ho : issI ps with _ | _
  · simp only [Bool.not_false, brT_t, Tree.ok, cond_false]
    exact ⟨by omega, h, none, ⟨rfl, rfl⟩, trivial⟩
  obtain ⟨hv, hl20, hl3⟩ := iss_ok ho
  simp only [Bool.not_true, brT_f, Tree.ok, cond_true]
  have hr := revP_len ps
  have er : ptsA ps.length (flat (revP ps)) = revP ps := by rw [← hr, ptsA_flat]
  have m1 := mnI_le ps ps.length
  have m2 := mnI_le (revP ps) (revP ps).length
  unfold canL
  simp only [er, can_idx (show 0 < ps.length by omega), can_idx (show 0 < (revP ps).length by omega), Int.toNat_natCast]
  by_cases hs : sgA ps ps.length < 0
  · rw [if_pos hs, decide_eq_true hs]
    simp only [brT_t, Tree.ok]
    unfold canW
    generalize revP ps = q at *
    generalize mnI q q.length = k at *
    have c1 : List.take ((ps.length - k) * 2) (List.drop (k * 2) (flat q)) = flat (q.drop k) := by rw [← hr]; exact cut_hi q k
    have hd : (List.drop (k * 2) (flat q)).length = (q.length - k) * 2 := by rw [flat_drop, flat_length, List.length_drop]
    have hl : (q.drop k ++ q.take k).length = ps.length - k + k := by simp; omega
    simp only [c1, flat_take, ← flat_append]
    refine ⟨by omega, by omega, by omega, by omega, by omega, hv, by omega, trivial, by omega, by omega, by omega, by omega, by omega, by omega, by omega, by omega, by omega, by omega, by omega, by omega, some 3, ⟨rfl, rfl, hl.symm⟩, rfl, rfl, rfl⟩
  · rw [if_neg hs, decide_eq_false hs]
    simp only [brT_f, Tree.ok]
    unfold canW
    generalize mnI ps ps.length = k at *
    have c1 := cut_hi ps k
    have hd : (List.drop (k * 2) (flat ps)).length = (ps.length - k) * 2 := by rw [flat_drop, flat_length, List.length_drop]
    have hl : (ps.drop k ++ ps.take k).length = ps.length - k + k := by simp; omega
    simp only [c1, flat_take, ← flat_append]
    refine ⟨by omega, by omega, by omega, by omega, by omega, hv, by omega, by omega, by omega, by omega, by omega, by omega, by omega, by omega, by omega, by omega, by omega, by omega, some 3, ⟨rfl, rfl, hl.symm⟩, rfl, rfl, rfl⟩
end Go.Proofs.Ytnjmepbblcfnfaa
namespace Go.Proofs.Ytnjmepbblcfnfaa
set_option linter.all false
open Go.RowKit
def colI (ps : List Pt) (f l : Pt) (i : Nat) : Bool := (ps.drop i).all fun q => decide (crs f l q = 0)
noncomputable def c_colI : Code := ((loopsOf (codeOf Try.f19))[0]?).getD .skip
def k_colI : Ex → List Nat := keeps [3, 4, 17, 18, 19] [(0, [])] [2]
def s_colI (ps : List Pt) (f l : Pt) : Nat → St := fun i => ⟨[topV, topV, topV, .pointer (some ⟨1, 0, none⟩), .pointer (some ⟨2, 0, none⟩), topV, topV, topV, topV, topV, topV, topV, topV, topV, topV, topV, topV, .slice (some ⟨0, 0, none⟩) ps.length ps.length, .int .i64 ps.length, .int .i64 i, topV, topV, topV, topV, topV, topV, topV, topV, topV], [some ⟨.view, .ints (flat ps)⟩, some ⟨.box, .vals [.int .i64 f.1, .int .i64 f.2]⟩, some ⟨.box, .vals [.int .i64 l.1, .int .i64 l.2]⟩]⟩
def re_colI (ps : List Pt) (f l : Pt) : Nat → Ex := fun i => bif colI ps f l i then .exit 0 else .ret
def rs_colI (ps : List Pt) (f l : Pt) : Nat → St := fun i => bif colI ps f l i then ⟨[topV, topV, topV, topV, topV, topV, topV, topV, topV, topV, topV, topV, topV, topV, topV, topV, topV, topV, topV, topV, topV, topV, topV, topV, topV, topV, topV, topV, topV], [some ⟨.view, .ints (flat ps)⟩, some ⟨.box, .vals [.int .i64 f.1, .int .i64 f.2]⟩, some ⟨.box, .vals [.int .i64 l.1, .int .i64 l.2]⟩]⟩ else ⟨[topV, topV, .bool false, topV, topV, topV, topV, topV, topV, topV, topV, topV, topV, topV, topV, topV, topV, topV, topV, topV, topV, topV, topV, topV, topV, topV, topV, topV, topV], [some ⟨.view, .ints (flat ps)⟩, some ⟨.box, .vals [.int .i64 f.1, .int .i64 f.2]⟩, some ⟨.box, .vals [.int .i64 l.1, .int .i64 l.2]⟩]⟩
set_option maxRecDepth 100000 in
theorem tr_colI (ps : List Pt) (f l : Pt) (i : Nat) : bodyL Try.prog E10 30 12 noL 1 c_colI k_colI 3 (s_colI ps f l i) = brT (decide ((↑i : Int) < (↑ps.length : Int))) (.need ((0 : Int) ≤ (↑i : Int) ∧ (↑i : Int) < (↑ps.length : Int)) (.need ((0 : Nat) + (↑i : Int).toNat * (2 : Nat) + (2 : Nat) ≤ (flat ps).length) (brT (!IntKind.i64.wrap (IntKind.i64.wrap (IntKind.i64.wrap (l.1 - f.1) * IntKind.i64.wrap ((flat ps).getD (0 + (↑i : Int).toNat * 2 + 1) 0 - f.2)) - IntKind.i64.wrap (IntKind.i64.wrap (l.2 - f.2) * IntKind.i64.wrap ((flat ps).getD (0 + (↑i : Int).toNat * 2) 0 - f.1))) == 0) (.leaf .ret ⟨[topV, topV, .bool (false), topV, topV, topV, topV, topV, topV, topV, topV, topV, topV, topV, topV, topV, topV, topV, topV, topV, topV, topV, topV, topV, topV, topV, topV, topV, topV], [some ⟨.view, .ints (flat ps)⟩, some ⟨.box, .vals [.int .i64 (f.1), .int .i64 (f.2)]⟩, some ⟨.box, .vals [.int .i64 (l.1), .int .i64 (l.2)]⟩]⟩) (.leaf .normal ⟨[topV, topV, topV, .pointer (some ⟨1, 0, none⟩), .pointer (some ⟨2, 0, none⟩), topV, topV, topV, topV, topV, topV, topV, topV, topV, topV, topV, topV, .slice (some ⟨0, 0, none⟩) (ps.length) (ps.length), .int .i64 ((↑ps.length : Int)), .int .i64 (IntKind.i64.wrap ((↑i : Int) + 1)), topV, topV, topV, topV, topV, topV, topV, topV, topV], [some ⟨.view, .ints (flat ps)⟩, some ⟨.box, .vals [.int .i64 (f.1), .int .i64 (f.2)]⟩, some ⟨.box, .vals [.int .i64 (l.1), .int .i64 (l.2)]⟩]⟩)))) (.leaf (.exit 0) ⟨[topV, topV, topV, topV, topV, topV, topV, topV, topV, topV, topV, topV, topV, topV, topV, topV, topV, topV, topV, topV, topV, topV, topV, topV, topV, topV, topV, topV, topV], [some ⟨.view, .ints (flat ps)⟩, some ⟨.box, .vals [.int .i64 (f.1), .int .i64 (f.2)]⟩, some ⟨.box, .vals [.int .i64 (l.1), .int .i64 (l.2)]⟩]⟩) := by kernel_rfl
set_option maxRecDepth 100000 in
theorem nl_colI : loopsOf c_colI = [] := by kernel_rfl
def inv_colI (ps : List Pt) (f l : Pt) : Nat → Prop := fun i => i ≤ ps.length
def me_colI (ps : List Pt) (f l : Pt) : Nat → Nat := fun i => ps.length - i
/-- A round of this loop. -/
def Round_colI (ps : List Pt) (f l : Pt) : Prop := ∀ xx : Nat, inv_colI ps f l xx → (bodyL Try.prog E10 30 12 noL 1 c_colI k_colI 3 (s_colI ps f l xx)).ok (RoundEnd 3 (s_colI ps f l) (inv_colI ps f l) (me_colI ps f l) (re_colI ps f l) (rs_colI ps f l) xx) (fun _ _ => False)
def e_colI (s : St) (k : Ex → St → Tree) : Option Tree := match Nat.beq s.tmps.length 29, pickL s.tmps [3, 4, 17, 18, 19], s.mem with
  | true, [.pointer (some ⟨1, 0, none⟩), .pointer (some ⟨2, 0, none⟩), .slice (some ⟨0, 0, none⟩) n _, .int .i64 nn, .int .i64 ii], [some ⟨.view, .ints xs⟩, some ⟨.box, .vals [.int .i64 fx, .int .i64 fy]⟩, some ⟨.box, .vals [.int .i64 lx, .int .i64 ly]⟩] => some (needs [ii = 0, nn = n, xs.length = n * 2, n ≤ 20, allV (ptsA n xs) = true, ptB fx fy = true, ptB lx ly = true] (brT (colI (ptsA n xs) (fx, fy) (lx, ly) 0) (k (.exit 0) ⟨[topV, topV, topV, topV, topV, topV, topV, topV, topV, topV, topV, topV, topV, topV, topV, topV, topV, topV, topV, topV, topV, topV, topV, topV, topV, topV, topV, topV, topV], [some ⟨.view, .ints xs⟩, some ⟨.box, .vals [.int .i64 fx, .int .i64 fy]⟩, some ⟨.box, .vals [.int .i64 lx, .int .i64 ly]⟩]⟩) (k .ret ⟨[topV, topV, .bool false, topV, topV, topV, topV, topV, topV, topV, topV, topV, topV, topV, topV, topV, topV, topV, topV, topV, topV, topV, topV, topV, topV, topV, topV, topV, topV], [some ⟨.view, .ints xs⟩, some ⟨.box, .vals [.int .i64 fx, .int .i64 fy]⟩, some ⟨.box, .vals [.int .i64 lx, .int .i64 ly]⟩]⟩)))
  | _, _, _ => none
set_option maxRecDepth 100000 in
theorem round_colI (ps : List Pt) (f l : Pt) (h : ps.length ≤ 20) (hv : allV ps = true) (hf : ptB f.1 f.2 = true) (hl : ptB l.1 l.2 = true) : Round_colI ps f l := by
  rintro i h1
  simp only [inv_colI] at h1
  rw [tr_colI]
  have bi := allV_get hv i
  have bf : -1000 ≤ f.1 ∧ f.1 ≤ 1000 ∧ -1000 ≤ f.2 ∧ f.2 ≤ 1000 := by simpa [ptB] using hf
  have bl : -1000 ≤ l.1 ∧ l.1 ≤ 1000 ∧ -1000 ≤ l.2 ∧ l.2 ≤ 1000 := by simpa [ptB] using hl
  have m1 := mul_bd (x := l.1 - f.1) (y := (ps.getD i (0, 0)).2 - f.2) 2000 2000 (by omega) (by omega)
  have m2 := mul_bd (x := l.2 - f.2) (y := (ps.getD i (0, 0)).1 - f.1) 2000 2000 (by omega) (by omega)
  simp only [brT_ok, Tree.ok, decide_eq_true_eq, decide_eq_false_iff_not, Int.toNat_natCast, Nat.zero_add, flat_length, flat_get0, flat_get1, Bool.not_eq_true', Bool.not_eq_false', beq_iff_eq, beq_eq_false_iff_ne]
  refine ⟨fun hlt => ⟨by omega, by omega, ?_⟩, fun hge => ?_⟩
  · rw [wsucc (n := ps.length) (by omega) (by omega)]
    simp (disch := omega) only [wr]
    have st : colI ps f l i = (decide (crs f l (ps.getD i (0, 0)) = 0) && colI ps f l (i + 1)) := by
      unfold colI
      rw [drop_cons (l := ps) (k := i) (by omega) (0, 0)]
      rfl
    refine ⟨fun hv => ?_, fun hv => ?_⟩
    · have e : colI ps f l i = false := by
        rw [st, decide_eq_false (show ¬ crs f l (ps.getD i (0, 0)) = 0 from hv)]
        rfl
      refine ⟨by simp only [re_colI, e, cond_false], [], ?_⟩
      simp only [rs_colI, e, cond_false]
      repeat' (first | exact True.intro | exact rfl | exact fun _ => rfl | refine And.intro ?_ ?_)
    · have e : colI ps f l i = colI ps f l (i + 1) := by
        rw [st, decide_eq_true (show crs f l (ps.getD i (0, 0)) = 0 from hv), Bool.true_and]
      refine ⟨i + 1, [], by show i + 1 ≤ ps.length; omega, ?_, by simp only [re_colI, e], by simp only [rs_colI, e], ?_⟩
      · show ps.length - (i + 1) < ps.length - i; omega
      · repeat' (first | exact True.intro | exact rfl | exact fun _ => rfl | refine And.intro ?_ ?_)
  · have e : colI ps f l i = true := by
      unfold colI
      rw [List.drop_of_length_le (by omega)]
      rfl
    refine ⟨by simp only [re_colI, e, cond_true], [], ?_⟩
    simp only [rs_colI, e, cond_true]
    repeat' (first | exact True.intro | exact rfl | exact fun _ => rfl | refine And.intro ?_ ?_)
set_option maxRecDepth 100000 in
theorem lg_colI : LoopE Try.prog e_colI c_colI := by
  intro s k t F H hlt ht
  unfold e_colI at hlt
  split at hlt
  rotate_left
  · cases hlt
  rename_i hlen hpick hmem
  obtain ⟨tmps, mem⟩ := s
  simp only at hlen hpick hmem
  subst hmem
  obtain rfl := Option.some.inj hlt
  obtain ⟨⟨rfl, rfl, h1, h2, h3, h4, h5, _⟩, ht2⟩ := needs_ok ht
  clear ht hlt
  obtain ⟨ps, rfl, rfl⟩ := even_flat h1
  rw [ptsA_flat] at ht2 h3
  refine ⟨_, _, pick2k ht2, loop_run mixed E10_ok (s_colI ps (_, _) (_, _)) (inv_colI ps (_, _) (_, _)) (me_colI ps (_, _) (_, _)) (re_colI ps (_, _) (_, _)) (rs_colI ps (_, _) (_, _)) k_colI (fun _ => rfl) (noLoops nl_colI) (round_colI ps (_, _) (_, _) h2 h3 h4 h5) (x := 0) (Nat.zero_le _) (π := []) rfl ?_⟩
  refine ⟨rfl, rfl, ?_, wvs_spread' [3, 4, 17, 18, 19] hlen rfl ?_⟩
  · repeat' (first | exact True.intro | exact rfl | exact wv_top _ _ | exact fun _ => rfl | assumption | exact Eq.symm (by assumption) | exact vI0 rfl | refine And.intro ?_ ?_)
  · rw [hpick]
    repeat' (first | exact True.intro | exact rfl | exact wv_top _ _ | exact fun _ => rfl | assumption | exact Eq.symm (by assumption) | exact vI0 rfl | refine And.intro ?_ ?_)
end Go.Proofs.Ytnjmepbblcfnfaa
namespace Go.Proofs.Ytnjmepbblcfnfaa
set_option linter.all false
open Go.RowKit
theorem Lr_colI {fn : Func} (hf : Try.prog.funcs[19]? = some fn) : LoopsGood Try.prog (lt1 e_colI) 0 (codeOf fn) := by
  obtain rfl := code_of Try.func19 hf
  exact lt1_good lg_colI
def L11 : FuncId → LT := fun f => match f with
  | 19 => lt1 e_colI
  | _ => noL
def E11 : Env := mkE (T6') (R4) (L11)
theorem E11_ok : EnvOk Try.prog E11 := mkEOk T6'_ok R4_ok (by
  intro f fn hf
  unfold L11
  split
  all_goals first | with_reducible exact Lr_colI hf | exact noL_good)
set_option maxRecDepth 100000 in
theorem tr_colIF (ps : List Pt) : bodyX Try.prog E11 30 12 19 [.row ps.length (.ints (flat ps))] = brT (decide ((↑ps.length : Int) ≤ 20)) (.need (ps.length * (2 : Nat) ≤ (List.drop (0 : Nat) (flat ps)).length) (.need (ps.length ≤ (1000000000 : Nat)) (brT (!allV (ptsA ps.length (List.drop 0 (flat ps)))) (.fin (.bool (false)) [some ⟨.view, .ints (flat ps)⟩]) (brT ((↑ps.length : Int) == 0) (.fin (.bool (true)) [some ⟨.view, .ints (flat ps)⟩]) (.need (ps.length * (2 : Nat) ≤ (List.drop (0 : Nat) (flat ps)).length) (.need (ps.length ≤ (1000000000 : Nat)) (.need ((0 : Nat) < ps.length) (.need (ps.length * (2 : Nat) ≤ (List.drop (0 : Nat) (flat ps)).length) (.need (ps.length ≤ (1000000000 : Nat)) (.need ((0 : Nat) < ps.length) (.need ((0 : Int) = (0 : Int)) (.need ((↑ps.length : Int) = (↑ps.length : Int)) (.need ((flat ps).length = ps.length * (2 : Nat)) (.need (ps.length ≤ (20 : Nat)) (.need (allV (ptsA ps.length (flat ps)) = true) (.need (ptB (minL ((ptsA ps.length (List.drop (0 : Nat) (flat ps))).getD (0 : Nat) ((0 : Int), (0 : Int))) (List.drop (1 : Nat) (ptsA ps.length (List.drop (0 : Nat) (flat ps))))).1 (minL ((ptsA ps.length (List.drop (0 : Nat) (flat ps))).getD (0 : Nat) ((0 : Int), (0 : Int))) (List.drop (1 : Nat) (ptsA ps.length (List.drop (0 : Nat) (flat ps))))).2 = true) (.need (ptB (maxL ((ptsA ps.length (List.drop (0 : Nat) (flat ps))).getD (0 : Nat) ((0 : Int), (0 : Int))) (List.drop (1 : Nat) (ptsA ps.length (List.drop (0 : Nat) (flat ps))))).1 (maxL ((ptsA ps.length (List.drop (0 : Nat) (flat ps))).getD (0 : Nat) ((0 : Int), (0 : Int))) (List.drop (1 : Nat) (ptsA ps.length (List.drop (0 : Nat) (flat ps))))).2 = true) (brT (colI (ptsA ps.length (flat ps)) ((minL ((ptsA ps.length (List.drop 0 (flat ps))).getD 0 (0, 0)) (List.drop 1 (ptsA ps.length (List.drop 0 (flat ps))))).fst, (minL ((ptsA ps.length (List.drop 0 (flat ps))).getD 0 (0, 0)) (List.drop 1 (ptsA ps.length (List.drop 0 (flat ps))))).snd) ((maxL ((ptsA ps.length (List.drop 0 (flat ps))).getD 0 (0, 0)) (List.drop 1 (ptsA ps.length (List.drop 0 (flat ps))))).fst, (maxL ((ptsA ps.length (List.drop 0 (flat ps))).getD 0 (0, 0)) (List.drop 1 (ptsA ps.length (List.drop 0 (flat ps))))).snd) 0) (.fin (.bool (true)) [some ⟨.view, .ints (flat ps)⟩, some ⟨.box, .vals [.int .i64 ((minL ((ptsA ps.length (List.drop 0 (flat ps))).getD 0 (0, 0)) (List.drop 1 (ptsA ps.length (List.drop 0 (flat ps))))).1), .int .i64 ((minL ((ptsA ps.length (List.drop 0 (flat ps))).getD 0 (0, 0)) (List.drop 1 (ptsA ps.length (List.drop 0 (flat ps))))).2)]⟩, some ⟨.box, .vals [.int .i64 ((maxL ((ptsA ps.length (List.drop 0 (flat ps))).getD 0 (0, 0)) (List.drop 1 (ptsA ps.length (List.drop 0 (flat ps))))).1), .int .i64 ((maxL ((ptsA ps.length (List.drop 0 (flat ps))).getD 0 (0, 0)) (List.drop 1 (ptsA ps.length (List.drop 0 (flat ps))))).2)]⟩]) (.fin (.bool (false)) [some ⟨.view, .ints (flat ps)⟩, some ⟨.box, .vals [.int .i64 ((minL ((ptsA ps.length (List.drop 0 (flat ps))).getD 0 (0, 0)) (List.drop 1 (ptsA ps.length (List.drop 0 (flat ps))))).1), .int .i64 ((minL ((ptsA ps.length (List.drop 0 (flat ps))).getD 0 (0, 0)) (List.drop 1 (ptsA ps.length (List.drop 0 (flat ps))))).2)]⟩, some ⟨.box, .vals [.int .i64 ((maxL ((ptsA ps.length (List.drop 0 (flat ps))).getD 0 (0, 0)) (List.drop 1 (ptsA ps.length (List.drop 0 (flat ps))))).1), .int .i64 ((maxL ((ptsA ps.length (List.drop 0 (flat ps))).getD 0 (0, 0)) (List.drop 1 (ptsA ps.length (List.drop 0 (flat ps))))).2)]⟩]))))))))))))))))))) (.fin (.bool (false)) [some ⟨.view, .ints (flat ps)⟩]) := by kernel_rfl
def colV (ps : List Pt) : Bool := okL ps && specCol ps
theorem allV_pt {ps : List Pt} (h : allV ps = true) {p : Pt} (hp : p ∈ ps) : ptB p.1 p.2 = true := List.all_eq_true.1 h p hp
theorem ends_ok {ps : List Pt} (h : allV ps = true) (h0 : 0 < ps.length) : ptB (minL (ps.getD 0 (0, 0)) (ps.drop 1)).1 (minL (ps.getD 0 (0, 0)) (ps.drop 1)).2 = true ∧ ptB (maxL (ps.getD 0 (0, 0)) (ps.drop 1)).1 (maxL (ps.getD 0 (0, 0)) (ps.drop 1)).2 = true := by
  cases ps with
  | nil => cases h0
  | cons p r =>
    show ptB (minL p r).1 (minL p r).2 = true ∧ ptB (maxL p r).1 (maxL p r).2 = true
    exact ⟨allV_pt h ((minL_le r p).1.elim (fun h => by rw [h]; exact List.mem_cons_self ..) (List.mem_cons_of_mem _)),
      allV_pt h ((maxL_le r p).1.elim (fun h => by rw [h]; exact List.mem_cons_self ..) (List.mem_cons_of_mem _))⟩
theorem colI_is {ps : List Pt} (h0 : 0 < ps.length) : colI ps (minL (ps.getD 0 (0, 0)) (ps.drop 1)) (maxL (ps.getD 0 (0, 0)) (ps.drop 1)) 0 = specCol ps := by
  rw [col_same]
  cases ps with
  | nil => cases h0
  | cons p r => rfl
theorem impl_col (ps : List Pt) (h : Big ps) : Res Try.prog 19 [.row ps.length (.ints (flat ps))] (.bool (colV ps)) := by
  refine bodyX_res mixed E11_ok (m := 30) (n := 12) rfl ?_
  rw [tr_colIF]
  unfold Big at h
  simp only [List.drop_zero, ptsA_flat, flat_length]
  unfold colV okL
  by_cases hl : ps.length ≤ 20
  · have hl2 : (ps.length : Int) ≤ 20 := by omega
    cases hk : allV ps
    · simp [Tree.ok, brT, h, hl, hl2]
    · by_cases h0 : ps.length = 0
      · have : ps = [] := List.eq_nil_of_length_eq_zero h0
        subst this
        simp [Tree.ok, brT, specCol, alF]
      · have h1 : 0 < ps.length := by omega
        obtain ⟨e1, e2⟩ := ends_ok hk h1
        have hb : ((ps.length : Int) == 0) = false := beq_eq_false_iff_ne.2 (by omega)
        have hc := colI_is h1
        simp only [hl2, hk, hb, decide_true, Bool.not_true, brT_t, brT_f, Tree.ok, Prod.eta, hc]
        repeat refine And.intro (by first | exact True.intro | exact rfl | omega | assumption) ?_
        cases hs : specCol ps <;> simp [Tree.ok, brT, hl]
  · have hl2 : ¬ (ps.length : Int) ≤ 20 := by omega
    simp [Tree.ok, brT, hl, hl2]
def pPB (g : List Pt → Bool) : List DArg → Option (Value × List Prop)
  | [.row m (.ints xs)] => some (.bool (g (ptsA m xs)), [m * 2 ≤ xs.length, m ≤ 1000000000])
  | _ => none
theorem pPB_ok {f : FuncId} {g : List Pt → Bool} (h : ∀ ps : List Pt, Big ps → Res Try.prog f [.row ps.length (.ints (flat ps))] (.bool (g ps))) {ds : List DArg} {v : Value} {C : List Prop} (hd : pPB g ds = some (v, C)) (hC : AllP C) : Res Try.prog f ds v := by
  unfold pPB at hd
  split at hd
  · rename_i m xs
    obtain ⟨rfl, rfl⟩ : _ ∧ _ := by simpa using hd
    obtain ⟨_, h2⟩ := ptsA_spec hC.1
    exact res_pts1 (pre := []) (post := []) hC.1 (h (ptsA m xs) (by unfold Big; rw [h2]; exact hC.2.1))
  · cases hd
end Go.Proofs.Ytnjmepbblcfnfaa
namespace Go.Proofs.Ytnjmepbblcfnfaa
set_option linter.all false
open Go.RowKit
theorem no_on {a b v : Pt} (h : 0 < crP a b v) : hasB a.1 a.2 b.1 b.2 v.1 v.2 = false := by
  refine hasB_no ?_
  rw [beq_eq_false_iff_ne]
  have e : (a.1 - v.1) * (b.2 - v.2) - (a.2 - v.2) * (b.1 - v.1) = crP a b v := by unfold crP crossI; grind
  omega
theorem no_dv {a b c d e f g h : Int} (h1 : 0 ≤ crossI a b c d e f) (h2 : 0 ≤ crossI a b c d g h) : dvB a b c d e f g h = false := by
  unfold dvB
  have k : ∀ x : Int, 0 ≤ x → cmpI x 0 = 0 ∨ cmpI x 0 = 1 := fun x hx => by
    unfold cmpI
    split
    · omega
    · split <;> simp
  rcases k _ h1 with k1 | k1 <;> rcases k _ h2 with k2 | k2 <;> rw [k1, k2] <;> decide
theorem asc_one {l : List Pt} {p : Pt} (ha : Asc l) (h : ∀ z ∈ l, z = p) (hp : p ∈ l) : l.length = 1 := by
  match l, ha, h, hp with
  | [_], _, _, _ => rfl
  | x :: y :: r, ha, h, _ =>
    have h1 := (List.pairwise_cons.1 ha).1 y (by simp)
    rw [h x (by simp), h y (by simp)] at h1
    exact (oP_irr h1).elim
def relP (a b c d : Pt) : Int := relA a.1 a.2 b.1 b.2 c.1 c.2 d.1 d.2
/-- Two edges, each with the other on its left: apart. -/
theorem rel_apart {a b c d : Pt} (h1 : 0 < crP a b c) (h2 : 0 < crP a b d) (h3 : 0 < crP c d a) (h4 : 0 < crP c d b) : relP a b c d = 0 := by
  unfold relP relA
  have e : ceS a.1 a.2 b.1 b.2 c.1 c.2 d.1 d.2 = [] := by
    rw [List.eq_nil_iff_forall_not_mem]
    intro z hz
    obtain ⟨q1, q2⟩ := ce_mem.1 hz
    unfold onB at q1
    simp only [Bool.and_eq_true] at q1
    rcases q2 with rfl | rfl | rfl | rfl
    · rw [show hasB c.1 c.2 d.1 d.2 a.1 a.2 = false from no_on h3] at q1; exact absurd q1.2 (by decide)
    · rw [show hasB c.1 c.2 d.1 d.2 b.1 b.2 = false from no_on h4] at q1; exact absurd q1.2 (by decide)
    · rw [show hasB a.1 a.2 b.1 b.2 c.1 c.2 = false from no_on h1] at q1; exact absurd q1.1 (by decide)
    · rw [show hasB a.1 a.2 b.1 b.2 d.1 d.2 = false from no_on h2] at q1; exact absurd q1.1 (by decide)
  rw [e, no_dv (Int.le_of_lt h1) (Int.le_of_lt h2)]
  rfl
/-- Two edges, one behind the other: they touch. -/
theorem rel_touch {a b d : Pt} (h1 : 0 < crP a b d) : relP a b b d = 1 := by
  unfold relP relA
  have h2 : 0 < crP b d a := by
    have : crP b d a = crP a b d := by unfold crP crossI; grind
    omega
  have e : (ceS a.1 a.2 b.1 b.2 b.1 b.2 d.1 d.2).length = 1 := by
    refine asc_one (p := b) (ce_asc ..) (fun z hz => ?_) (ce_mem.2 ⟨by unfold onB; rw [hasB_b, hasB_a]; rfl, .inr (.inl rfl)⟩)
    obtain ⟨q1, q2⟩ := ce_mem.1 hz
    unfold onB at q1
    simp only [Bool.and_eq_true] at q1
    rcases q2 with rfl | rfl | rfl | rfl
    · rw [show hasB b.1 b.2 d.1 d.2 a.1 a.2 = false from no_on h2] at q1; exact absurd q1.2 (by decide)
    · rfl
    · rfl
    · rw [show hasB a.1 a.2 b.1 b.2 d.1 d.2 = false from no_on h1] at q1; exact absurd q1.1 (by decide)
  rw [e]
  rfl
theorem edR_P {h : List Pt} {i k : Nat} (hs : sgQ h i = true) (hk : sgQ h k = true) : edR h i k = relP (h.getD i (0, 0)) (nxP h i) (h.getD k (0, 0)) (nxP h k) := by
  rw [edR_is, hs, hk]
  rfl
/-- Strictly convex rings are simple. -/
theorem cvh_simple {h : List Pt} (H : CvH h) (ho : okL h = true) : issI h = true := by
  unfold issI
  rw [ho, decide_eq_true H.three]
  simp only [Bool.true_and]
  have hv : allV h = true := by
    unfold okL at ho
    simp only [Bool.and_eq_true] at ho
    exact ho.1
  have sg : ∀ i, i < h.length → sgQ h i = true := fun i hi => (sgQ_iff hv hi).2 fun e => (nx_ne H hi).1 (nd_inj H.nodup hi (nx_lt hi) e).symm
  refine allQ_all _ _ fun i _ hi => allQ_all _ _ fun k _ hk => ?_
  have hi : i < h.length := by omega
  have hk : k < h.length := by omega
  unfold okE
  by_cases hlt : i < k
  rotate_left
  · rw [decide_eq_false hlt]; rfl
  rw [decide_eq_true hlt, edR_P (sg i hi) (sg k hk)]
  simp only [Bool.not_true, Bool.false_or, beq_iff_eq]
  obtain ⟨p1, p2, p3⟩ := nx_ne H hi
  obtain ⟨r1, r2, r3⟩ := nx_ne H hk
  have mi := nx_lt hi
  have mk := nx_lt hk
  have ei : nxP h i = h.getD ((i + 1) % h.length) (0, 0) := rfl
  have ek : nxP h k = h.getD ((k + 1) % h.length) (0, 0) := rfl
  unfold nbQ
  by_cases c1 : k = i + 1
  · rw [decide_eq_true c1]
    have e1 : (i + 1) % h.length = k := by rw [← c1, Nat.mod_eq_of_lt hk]
    have e2 : (k + 1) % h.length = (i + 2) % h.length := by rw [c1]
    have l := cvh_left H hi mk (by rw [e2]; exact p2) (by rw [e2]; exact p3)
    rw [← ek] at l
    have e3 : h.getD k (0, 0) = nxP h i := by rw [ei, e1]
    rw [e3]
    exact rel_touch l
  · rw [decide_eq_false c1]
    by_cases c2 : (k + 1) % h.length = i
    · rw [decide_eq_true c2]
      have e1 : (i + 1) % h.length = (k + 2) % h.length := by
        rw [← c2, Nat.mod_add_mod]
      have l := cvh_left H hk mi (by rw [e1]; exact r2) (by rw [e1]; exact r3)
      rw [← ei] at l
      have e3 : nxP h k = h.getD i (0, 0) := by rw [ek, c2]
      rw [e3] at l ⊢
      have := rel_touch l
      unfold relP at this ⊢
      rw [relA_comm]
      exact this
    · rw [decide_eq_false c2]
      have e0 : (i + 1) % h.length = i + 1 := Nat.mod_eq_of_lt (by omega)
      have n1 : k ≠ (i + 1) % h.length := by omega
      have n2 : (k + 1) % h.length ≠ (i + 1) % h.length := by
        intro e
        have hk1 : (k + 1) % h.length = if k + 1 = h.length then 0 else k + 1 := by
          split
          · rename_i q; rw [q, Nat.mod_self]
          · exact Nat.mod_eq_of_lt (by omega)
        rw [e0, hk1] at e
        split at e <;> omega
      have l1 := cvh_left H hi hk (by omega) n1
      have l2 := cvh_left H hi mk c2 n2
      have l3 := cvh_left H hk hi (by omega) (by omega)
      have l4 := cvh_left H hk mi (by omega) (fun e => n2 e.symm)
      rw [← ek] at l2
      rw [← ei] at l4
      exact rel_apart l1 l2 l3 l4
end Go.Proofs.Ytnjmepbblcfnfaa
namespace Go.Proofs.Ytnjmepbblcfnfaa
set_option linter.all false
open Go.RowKit
/-- Points whose hull has less than three vertices are on one line. -/
theorem short_line {s : List Pt} (h : Asc s) (hl : (hulL s).length < 3) {a b c : Pt} (ha : a ∈ s) (hb : b ∈ s) (hc : c ∈ s) : crP a b c = 0 := by
  by_cases h3 : 3 ≤ s.length
  · have h0 : s ≠ [] := by intro e; rw [e] at h3; simp at h3
    obtain ⟨k1, k2⟩ := hul_short h h3 hl
    obtain ⟨_, _, e1, e2, _, _⟩ := hul_ends h h0
    rw [k2] at e1
    rw [k1] at e2
    have hd := dsc_at (low_ok h h0).dsc (i := 0) (j := 1) (by omega) (by omega)
    have z : ∀ q ∈ s, crP ((lowR s).getD 1 (0, 0)) ((lowR s).getD 0 (0, 0)) q = 0 := fun q hq => by
      have g1 := lft_at (low_ok h h0).lft 0 (by omega) q hq
      have g2 := lft_at (upp_ok h h0).lft 0 (by rw [ngL_len]; omega) (ngP q) (by show ngP (ngP q) ∈ s; rw [ngP_ng]; exact hq)
      rw [ngL_at (by omega), ngL_at (by omega), crP_ng, show (0 + 1 : Nat) = 2 - 1 from rfl, ← e1, e2] at g2
      have : crP ((lowR s).getD 0 (0, 0)) ((lowR s).getD (2 - 1) (0, 0)) q = -crP ((lowR s).getD (2 - 1) (0, 0)) ((lowR s).getD 0 (0, 0)) q := by unfold crP crossI; grind
      have g1' : 0 ≤ crP ((lowR s).getD (2 - 1) (0, 0)) ((lowR s).getD 0 (0, 0)) q := g1
      show crP ((lowR s).getD (2 - 1) (0, 0)) ((lowR s).getD 0 (0, 0)) q = 0
      omega
    refine crs_line (f := (lowR s).getD 1 (0, 0)) (l := (lowR s).getD 0 (0, 0)) (fun e => ?_) (z a ha) (z b hb) (z c hc)
    rw [e] at hd
    exact oP_irr hd
  · have e0 : ∀ {x y z : Pt}, x = y → crP x y z = 0 := fun {x y z} e => by subst e; unfold crP crossI; grind
    rcases Classical.em (a = b) with e | n1
    · exact e0 e
    rcases Classical.em (b = c) with e | n2
    · subst e; exact crP_bb a b
    rcases Classical.em (c = a) with e | n3
    · subst e; exact crP_ba c b
    exfalso
    have := nodup_le (l := [a, b, c]) (m := s) (by simp only [List.nodup_cons, List.mem_cons, List.not_mem_nil, or_false, not_or, not_false_eq_true, List.nodup_nil, and_true]; exact ⟨⟨n1, fun e => n3 e.symm⟩, n2⟩) (by
      intro x hx
      simp only [List.mem_cons, List.not_mem_nil, or_false] at hx
      rcases hx with rfl | rfl | rfl
      · exact ha
      · exact hb
      · exact hc)
    simp at this
    omega
end Go.Proofs.Ytnjmepbblcfnfaa
namespace Go.Proofs.Ytnjmepbblcfnfaa
set_option linter.all false
open Go.RowKit
theorem okL_hul {ps : List Pt} (h : okL ps = true) : okL (hulV ps) = true := by
  obtain ⟨h1, h2⟩ := okL_20 h
  rw [hulV_yes h]
  have l := hul_le (srtL_asc ps)
  have l2 := srtL_le ps
  unfold okL
  rw [allV_hul (allV_srt h1), decide_eq_true (by omega)]
  rfl
theorem hulV_sub {ps : List Pt} (h1 : okL ps = true) {v : Pt} (hv : v ∈ hulV ps) : v ∈ ps := by
  rw [hulV_yes h1] at hv
  exact (srtL_mem _ _).1 (hul_in (srtL_asc _) hv)
end Go.Proofs.Ytnjmepbblcfnfaa
namespace Go.Proofs.Ytnjmepbblcfnfaa
set_option linter.all false
open Go.RowKit
@[irreducible] def lcW (hs : List Pt) (x y : Int) : Int := lcvV hs x y
theorem lcW_is (hs : List Pt) (x y : Int) : lcW hs x y = lcvV hs x y := by
  unfold lcW
  rfl
/-- Are all points in the polygon? -/
structure lcOk (ps hs : List Pt) : Prop where
  ok : ∀ z ∈ ps, 0 ≤ lcW hs z.1 z.2
def pLcw : List DArg → Option (Value × List Prop)
  | [.row m (.ints xs), .v (.agg ⟨[.int .i64 x, .int .i64 y]⟩)] => some (.int .i64 (lcW (ptsA m xs) x y), [m * 2 ≤ xs.length, m ≤ 1000000000])
  | _ => none
theorem pLcw_ok {f : FuncId} (H : ∀ (x y : Int) (ps : List Pt), Big ps → Res Try.prog f [.row ps.length (.ints (flat ps)), .v (.agg ⟨[.int .i64 x, .int .i64 y]⟩)] (.int .i64 (lcvV ps x y))) {ds : List DArg} {v : Value} {C : List Prop} (h : pLcw ds = some (v, C)) (hC : AllP C) : Res Try.prog f ds v := by
  unfold pLcw at h
  split at h
  · obtain ⟨rfl, rfl⟩ := Prod.mk.inj (Option.some.inj h)
    rw [lcW_is]
    exact pLcv_ok H rfl hC
  · cases h
def TLu : Tab := fun f ds => match f with
  | 17 => pEqP ds
  | 21 => pHsp ds
  | 20 => pLcw ds
  | 22 => pCvx ds
  | 19 => pPB colV ds
  | f => T6' f ds
theorem TLu_ok : TabOk Try.prog TLu := by
  intro f ds v C h hC
  unfold TLu at h
  (try split at h)
  all_goals first | with_reducible exact pEqP_ok h hC | with_reducible exact pHsp_ok h hC | with_reducible exact pLcw_ok res_iLcv h hC | with_reducible exact pCvx_ok res_iCvx h hC | with_reducible exact pPB_ok impl_col h hC | exact T6'_ok _ _ _ _ h hC
def RLu : TabR := fun f ds => match f, ds with
  | 15, [.row n (.bytes bs)] => some (rowP (apsL bs (rdL n) 0 12), blkP (apsL bs (rdL n) 0 12), [Bytes bs, n ≤ bs.length])
  | 23, [.row m (.ints xs)] => some (rowP (canV (ptsA m xs)), blkP (canV (ptsA m xs)), [m * 2 ≤ xs.length, m ≤ 1000000000])
  | f, ds => RHw f ds
theorem RLu_ok : TabROk Try.prog RLu := by
  intro f ds v b C h hC
  unfold RLu at h
  split at h
  · obtain ⟨rfl, rfl, rfl⟩ : _ ∧ _ ∧ _ := by simpa using h
    exact resR_dHu _ _ hC.1 hC.2.1
  · obtain ⟨rfl, rfl, rfl⟩ : _ ∧ _ ∧ _ := by simpa using h
    obtain ⟨_, h2⟩ := ptsA_spec hC.1
    exact resR_pts1 (pre := []) (post := []) hC.1 (resR_iCan _ (by unfold Big; rw [h2]; exact hC.2.1))
  · exact RHw_ok _ _ _ _ _ h hC
def ELu : Env := mkE TLu RLu (fun _ => noL)
theorem ELu_ok : EnvOk Try.prog ELu := mkEOk TLu_ok RLu_ok (fun _ _ _ => noL_good)
end Go.Proofs.Ytnjmepbblcfnfaa
namespace Go.Proofs.Ytnjmepbblcfnfaa
set_option linter.all false
open Go.RowKit
noncomputable def c_lha : Code := ((loopsOf (codeOf Try.f3))[0]?).getD .skip
def k_lha : Ex → List Nat := keeps [3, 4, 5] [(0, [3, 4])] [2]
def s_lha (bs : List Int) (ps hs : List Pt) (zs : List Int) : Nat → St := fun i => ⟨(topV :: topV :: topV :: .slice (some ⟨1, 0, none⟩) ps.length ps.length :: .slice (some ⟨2, 0, none⟩) hs.length hs.length :: .int .i64 i :: topV :: topV :: topV :: topV :: topV :: topV :: topV :: topV :: topV :: topV :: topV :: topV :: topV :: topV :: topV :: topV :: topV :: topV :: topV :: topV :: topV :: topV :: topV :: topV :: topV :: topV :: topV :: topV :: topV :: topV :: topV :: topV :: topV :: topV :: topV :: topV :: topV :: topV :: topV :: topV :: topV :: topV :: topV :: topV :: topV :: topV :: topV :: topV :: topV :: topV :: topV :: topV :: topV :: topV :: topV :: topV :: topV :: topV :: topV :: topV :: topV :: topV :: topV :: topV :: topV :: topV :: topV :: topV :: topV :: topV :: topV :: []), [some ⟨.view, .bytes bs⟩, some ⟨.row 30 2, .ints (flat ps)⟩, some ⟨.row 30 2, .ints (flat hs)⟩, some ⟨.row 30 2, .ints zs⟩]⟩
def re_lha : Nat → Ex := fun _ => .exit 0
def rs_lha (bs : List Int) (ps hs : List Pt) (zs : List Int) : Nat → St := fun i => ⟨(topV :: topV :: topV :: .slice (some ⟨1, 0, none⟩) ps.length ps.length :: .slice (some ⟨2, 0, none⟩) hs.length hs.length :: topV :: topV :: topV :: topV :: topV :: topV :: topV :: topV :: topV :: topV :: topV :: topV :: topV :: topV :: topV :: topV :: topV :: topV :: topV :: topV :: topV :: topV :: topV :: topV :: topV :: topV :: topV :: topV :: topV :: topV :: topV :: topV :: topV :: topV :: topV :: topV :: topV :: topV :: topV :: topV :: topV :: topV :: topV :: topV :: topV :: topV :: topV :: topV :: topV :: topV :: topV :: topV :: topV :: topV :: topV :: topV :: topV :: topV :: topV :: topV :: topV :: topV :: topV :: topV :: topV :: topV :: topV :: topV :: topV :: topV :: topV :: topV :: []), [some ⟨.view, .bytes bs⟩, some ⟨.row 30 2, .ints (flat ps)⟩, some ⟨.row 30 2, .ints (flat hs)⟩, some ⟨.row 30 2, .ints zs⟩]⟩
set_option maxRecDepth 100000 in
theorem tr_lha (bs : List Int) (ps hs : List Pt) (zs : List Int) (i : Nat) : bodyL Try.prog ELu 30 12 noL 1 c_lha k_lha 4 (s_lha bs ps hs zs i) = brT (decide ((↑i : Int) < (↑ps.length : Int))) (.need ((0 : Int) ≤ (↑i : Int) ∧ (↑i : Int) < (↑ps.length : Int)) (.need ((0 : Nat) + (↑i : Int).toNat * (2 : Nat) + (2 : Nat) ≤ (flat ps).length) (.need (hs.length * (2 : Nat) ≤ (List.drop (0 : Nat) (flat hs)).length) (.need (hs.length ≤ (1000000000 : Nat)) (brT (decide (lcW (ptsA hs.length (List.drop 0 (flat hs))) ((flat ps).getD (0 + (↑i : Int).toNat * 2) 0) ((flat ps).getD (0 + (↑i : Int).toNat * 2 + 1) 0) < 0)) (.leaf .ret ⟨(topV :: topV :: .bool (false) :: topV :: topV :: topV :: topV :: topV :: topV :: topV :: topV :: topV :: topV :: topV :: topV :: topV :: topV :: topV :: topV :: topV :: topV :: topV :: topV :: topV :: topV :: topV :: topV :: topV :: topV :: topV :: topV :: topV :: topV :: topV :: topV :: topV :: topV :: topV :: topV :: topV :: topV :: topV :: topV :: topV :: topV :: topV :: topV :: topV :: topV :: topV :: topV :: topV :: topV :: topV :: topV :: topV :: topV :: topV :: topV :: topV :: topV :: topV :: topV :: topV :: topV :: topV :: topV :: topV :: topV :: topV :: topV :: topV :: topV :: topV :: topV :: topV :: topV :: []), [some ⟨.view, .bytes (bs)⟩, some ⟨.row 30 2, .ints (flat ps)⟩, some ⟨.row 30 2, .ints (flat hs)⟩, some ⟨.row 30 2, .ints (zs)⟩]⟩) (.leaf .normal ⟨(topV :: topV :: topV :: .slice (some ⟨1, 0, none⟩) (ps.length) (ps.length) :: .slice (some ⟨2, 0, none⟩) (hs.length) (hs.length) :: .int .i64 (IntKind.i64.wrap ((↑i : Int) + 1)) :: topV :: topV :: topV :: topV :: topV :: topV :: topV :: topV :: topV :: topV :: topV :: topV :: topV :: topV :: topV :: topV :: topV :: topV :: topV :: topV :: topV :: topV :: topV :: topV :: topV :: topV :: topV :: topV :: topV :: topV :: topV :: topV :: topV :: topV :: topV :: topV :: topV :: topV :: topV :: topV :: topV :: topV :: topV :: topV :: topV :: topV :: topV :: topV :: topV :: topV :: topV :: topV :: topV :: topV :: topV :: topV :: topV :: topV :: topV :: topV :: topV :: topV :: topV :: topV :: topV :: topV :: topV :: topV :: topV :: topV :: topV :: []), [some ⟨.view, .bytes (bs)⟩, some ⟨.row 30 2, .ints (flat ps)⟩, some ⟨.row 30 2, .ints (flat hs)⟩, some ⟨.row 30 2, .ints (zs)⟩]⟩)))))) (.leaf (.exit 0) ⟨(topV :: topV :: topV :: .slice (some ⟨1, 0, none⟩) (ps.length) (ps.length) :: .slice (some ⟨2, 0, none⟩) (hs.length) (hs.length) :: topV :: topV :: topV :: topV :: topV :: topV :: topV :: topV :: topV :: topV :: topV :: topV :: topV :: topV :: topV :: topV :: topV :: topV :: topV :: topV :: topV :: topV :: topV :: topV :: topV :: topV :: topV :: topV :: topV :: topV :: topV :: topV :: topV :: topV :: topV :: topV :: topV :: topV :: topV :: topV :: topV :: topV :: topV :: topV :: topV :: topV :: topV :: topV :: topV :: topV :: topV :: topV :: topV :: topV :: topV :: topV :: topV :: topV :: topV :: topV :: topV :: topV :: topV :: topV :: topV :: topV :: topV :: topV :: topV :: topV :: topV :: topV :: []), [some ⟨.view, .bytes (bs)⟩, some ⟨.row 30 2, .ints (flat ps)⟩, some ⟨.row 30 2, .ints (flat hs)⟩, some ⟨.row 30 2, .ints (zs)⟩]⟩) := by kernel_rfl
set_option maxRecDepth 100000 in
theorem nl_lha : loopsOf c_lha = [] := by kernel_rfl
def inv_lha (bs : List Int) (ps hs : List Pt) (zs : List Int) : Nat → Prop := fun i => i ≤ ps.length
def me_lha (bs : List Int) (ps hs : List Pt) (zs : List Int) : Nat → Nat := fun i => ps.length - i
/-- A round of this loop. -/
def Round_lha (bs : List Int) (ps hs : List Pt) (zs : List Int) : Prop := ∀ xx : Nat, inv_lha bs ps hs zs xx → (bodyL Try.prog ELu 30 12 noL 1 c_lha k_lha 4 (s_lha bs ps hs zs xx)).ok (RoundEnd 4 (s_lha bs ps hs zs) (inv_lha bs ps hs zs) (me_lha bs ps hs zs) re_lha (rs_lha bs ps hs zs) xx) (fun _ _ => False)
def e_lha (s : St) (k : Ex → St → Tree) : Option Tree := match Nat.beq s.tmps.length 77, pickL s.tmps [3, 4, 5], s.mem with
  | true, [.slice (some ⟨1, 0, none⟩) m _, .slice (some ⟨2, 0, none⟩) q _, .int .i64 i], [some ⟨.view, .bytes bs⟩, some ⟨.row 30 2, .ints xs⟩, some ⟨.row 30 2, .ints ys⟩, some ⟨.row 30 2, .ints zs⟩] => some (needs [i = 0, xs.length = m * 2, m ≤ 1000000000, ys.length = q * 2, q ≤ 1000000000, lcOk (ptsA m xs) (ptsA q ys)] (k (.exit 0) ⟨(topV :: topV :: topV :: .slice (some ⟨1, 0, none⟩) m m :: .slice (some ⟨2, 0, none⟩) q q :: topV :: topV :: topV :: topV :: topV :: topV :: topV :: topV :: topV :: topV :: topV :: topV :: topV :: topV :: topV :: topV :: topV :: topV :: topV :: topV :: topV :: topV :: topV :: topV :: topV :: topV :: topV :: topV :: topV :: topV :: topV :: topV :: topV :: topV :: topV :: topV :: topV :: topV :: topV :: topV :: topV :: topV :: topV :: topV :: topV :: topV :: topV :: topV :: topV :: topV :: topV :: topV :: topV :: topV :: topV :: topV :: topV :: topV :: topV :: topV :: topV :: topV :: topV :: topV :: topV :: topV :: topV :: topV :: topV :: topV :: topV :: topV :: []), [some ⟨.view, .bytes bs⟩, some ⟨.row 30 2, .ints xs⟩, some ⟨.row 30 2, .ints ys⟩, some ⟨.row 30 2, .ints zs⟩]⟩))
  | _, _, _ => none
set_option maxRecDepth 100000 in
theorem round_lha (bs : List Int) (ps hs : List Pt) (zs : List Int) (h : ps.length ≤ 1000000000) (h2 : hs.length ≤ 1000000000) (h5 : lcOk ps hs) : Round_lha bs ps hs zs := by
  intro i h1
  have h1 : i ≤ ps.length := h1
  rw [tr_lha]
  simp only [List.drop_zero, ptsA_flat, Int.toNat_natCast, Nat.zero_add, Nat.add_zero, flat_length, flat_get0, flat_get1]
  refine brT_ok.2 ⟨fun hlt => ?_, fun hge => ?_⟩
  · have hlt := of_decide_eq_true hlt
    have hi : i < ps.length := by omega
    have e := h5.ok _ (getD_mem' hi)
    rw [wsucc (n := ps.length) hi h]
    generalize ps.getD i (0, 0) = p at *
    rw [decide_eq_false (show ¬ lcW hs p.1 p.2 < 0 by omega)]
    simp only [brT_t, brT_f, Bool.not_true, Bool.not_false, Tree.ok]
    repeat (refine And.intro (by first | omega | exact Nat.le_refl _) ?_)
    refine ⟨i + 1, [], ?_, ?_, rfl, rfl, ?_⟩
    · show i + 1 ≤ ps.length; omega
    · show ps.length - (i + 1) < ps.length - i; omega
    · repeat' (first | exact True.intro | exact rfl | exact fun _ => rfl | refine And.intro ?_ ?_)
  · refine ⟨rfl, [], ?_⟩
    repeat' (first | exact True.intro | exact rfl | exact fun _ => rfl | refine And.intro ?_ ?_)
set_option maxRecDepth 100000 in
theorem lg_lha : LoopE Try.prog e_lha c_lha := by
  intro s k t F H hlt ht
  unfold e_lha at hlt
  split at hlt
  rotate_left
  · cases hlt
  rename_i hlen hpick hmem
  obtain ⟨tmps, mem⟩ := s
  simp only at hlen hpick hmem
  subst hmem
  obtain rfl := Option.some.inj hlt
  obtain ⟨⟨rfl, h1, h2, g1, g2, h5, _⟩, ht2⟩ := needs_ok ht
  clear ht hlt
  obtain ⟨ps, rfl, rfl⟩ := even_flat h1
  obtain ⟨ss, rfl, rfl⟩ := even_flat g1
  rw [ptsA_flat, ptsA_flat] at h5
  refine ⟨_, _, ht2, loop_run mixed ELu_ok (s_lha _ _ _ _) (inv_lha _ _ _ _) (me_lha _ _ _ _) re_lha (rs_lha _ _ _ _) k_lha (fun _ => rfl) (noLoops nl_lha) (round_lha _ _ _ _ h2 g2 h5) (x := 0) (Nat.zero_le _) (π := []) rfl ?_⟩
  refine ⟨rfl, rfl, ?_, wvs_spread' [3, 4, 5] hlen rfl ?_⟩
  · repeat' (first | exact True.intro | exact rfl | exact wv_top _ _ | exact fun _ => rfl | assumption | exact Eq.symm (by assumption) | exact vI0 rfl | refine And.intro ?_ ?_)
  · rw [hpick]
    repeat' (first | exact True.intro | exact rfl | exact wv_top _ _ | exact fun _ => rfl | assumption | exact Eq.symm (by assumption) | exact vI0 rfl | refine And.intro ?_ ?_)
noncomputable def c_lhb : Code := ((loopsOf (codeOf Try.f3))[1]?).getD .skip
def k_lhb : Ex → List Nat := keeps [3, 4, 6] [(2, [4])] [2]
def s_lhb (bs : List Int) (ps hs : List Pt) (zs : List Int) : Nat → St := fun i => ⟨(topV :: topV :: topV :: .slice (some ⟨1, 0, none⟩) ps.length ps.length :: .slice (some ⟨2, 0, none⟩) hs.length hs.length :: topV :: .int .i64 i :: topV :: topV :: topV :: topV :: topV :: topV :: topV :: topV :: topV :: topV :: topV :: topV :: topV :: topV :: topV :: topV :: topV :: topV :: topV :: topV :: topV :: topV :: topV :: topV :: topV :: topV :: topV :: topV :: topV :: topV :: topV :: topV :: topV :: topV :: topV :: topV :: topV :: topV :: topV :: topV :: topV :: topV :: topV :: topV :: topV :: topV :: topV :: topV :: topV :: topV :: topV :: topV :: topV :: topV :: topV :: topV :: topV :: topV :: topV :: topV :: topV :: topV :: topV :: topV :: topV :: topV :: topV :: topV :: topV :: topV :: []), [some ⟨.view, .bytes bs⟩, some ⟨.row 30 2, .ints (flat ps)⟩, some ⟨.row 30 2, .ints (flat hs)⟩, some ⟨.row 30 2, .ints zs⟩]⟩
def re_lhb : Nat → Ex := fun _ => .exit 2
def rs_lhb (bs : List Int) (ps hs : List Pt) (zs : List Int) : Nat → St := fun i => ⟨(topV :: topV :: topV :: topV :: .slice (some ⟨2, 0, none⟩) hs.length hs.length :: topV :: topV :: topV :: topV :: topV :: topV :: topV :: topV :: topV :: topV :: topV :: topV :: topV :: topV :: topV :: topV :: topV :: topV :: topV :: topV :: topV :: topV :: topV :: topV :: topV :: topV :: topV :: topV :: topV :: topV :: topV :: topV :: topV :: topV :: topV :: topV :: topV :: topV :: topV :: topV :: topV :: topV :: topV :: topV :: topV :: topV :: topV :: topV :: topV :: topV :: topV :: topV :: topV :: topV :: topV :: topV :: topV :: topV :: topV :: topV :: topV :: topV :: topV :: topV :: topV :: topV :: topV :: topV :: topV :: topV :: topV :: topV :: []), [some ⟨.view, .bytes bs⟩, some ⟨.row 30 2, .ints (flat ps)⟩, some ⟨.row 30 2, .ints (flat hs)⟩, some ⟨.row 30 2, .ints zs⟩]⟩
set_option maxRecDepth 100000 in
theorem tr_lhb (bs : List Int) (ps hs : List Pt) (zs : List Int) (i : Nat) : bodyL Try.prog ELu 30 12 noL 2 c_lhb k_lhb 4 (s_lhb bs ps hs zs i) = brT (decide ((↑i : Int) < (↑hs.length : Int))) (.need ((0 : Int) ≤ (↑i : Int) ∧ (↑i : Int) < (↑hs.length : Int)) (.need ((0 : Nat) + (↑i : Int).toNat * (2 : Nat) + (2 : Nat) ≤ (flat hs).length) (.need (ps.length * (2 : Nat) ≤ (List.drop (0 : Nat) (flat ps)).length) (.need (ps.length ≤ (1000000000 : Nat)) (brT (!!allQ (npQ (ptsA ps.length (List.drop 0 (flat ps))) ((flat hs).getD (0 + (↑i : Int).toNat * 2) 0) ((flat hs).getD (0 + (↑i : Int).toNat * 2 + 1) 0)) 0 ps.length) (.leaf .ret ⟨(topV :: topV :: .bool (false) :: topV :: topV :: topV :: topV :: topV :: topV :: topV :: topV :: topV :: topV :: topV :: topV :: topV :: topV :: topV :: topV :: topV :: topV :: topV :: topV :: topV :: topV :: topV :: topV :: topV :: topV :: topV :: topV :: topV :: topV :: topV :: topV :: topV :: topV :: topV :: topV :: topV :: topV :: topV :: topV :: topV :: topV :: topV :: topV :: topV :: topV :: topV :: topV :: topV :: topV :: topV :: topV :: topV :: topV :: topV :: topV :: topV :: topV :: topV :: topV :: topV :: topV :: topV :: topV :: topV :: topV :: topV :: topV :: topV :: topV :: topV :: topV :: topV :: topV :: []), [some ⟨.view, .bytes (bs)⟩, some ⟨.row 30 2, .ints (flat ps)⟩, some ⟨.row 30 2, .ints (flat hs)⟩, some ⟨.row 30 2, .ints (zs)⟩]⟩) (.leaf .normal ⟨(topV :: topV :: topV :: .slice (some ⟨1, 0, none⟩) (ps.length) (ps.length) :: .slice (some ⟨2, 0, none⟩) (hs.length) (hs.length) :: topV :: .int .i64 (IntKind.i64.wrap ((↑i : Int) + 1)) :: topV :: topV :: topV :: topV :: topV :: topV :: topV :: topV :: topV :: topV :: topV :: topV :: topV :: topV :: topV :: topV :: topV :: topV :: topV :: topV :: topV :: topV :: topV :: topV :: topV :: topV :: topV :: topV :: topV :: topV :: topV :: topV :: topV :: topV :: topV :: topV :: topV :: topV :: topV :: topV :: topV :: topV :: topV :: topV :: topV :: topV :: topV :: topV :: topV :: topV :: topV :: topV :: topV :: topV :: topV :: topV :: topV :: topV :: topV :: topV :: topV :: topV :: topV :: topV :: topV :: topV :: topV :: topV :: topV :: topV :: []), [some ⟨.view, .bytes (bs)⟩, some ⟨.row 30 2, .ints (flat ps)⟩, some ⟨.row 30 2, .ints (flat hs)⟩, some ⟨.row 30 2, .ints (zs)⟩]⟩)))))) (.leaf (.exit 2) ⟨(topV :: topV :: topV :: topV :: .slice (some ⟨2, 0, none⟩) (hs.length) (hs.length) :: topV :: topV :: topV :: topV :: topV :: topV :: topV :: topV :: topV :: topV :: topV :: topV :: topV :: topV :: topV :: topV :: topV :: topV :: topV :: topV :: topV :: topV :: topV :: topV :: topV :: topV :: topV :: topV :: topV :: topV :: topV :: topV :: topV :: topV :: topV :: topV :: topV :: topV :: topV :: topV :: topV :: topV :: topV :: topV :: topV :: topV :: topV :: topV :: topV :: topV :: topV :: topV :: topV :: topV :: topV :: topV :: topV :: topV :: topV :: topV :: topV :: topV :: topV :: topV :: topV :: topV :: topV :: topV :: topV :: topV :: topV :: topV :: []), [some ⟨.view, .bytes (bs)⟩, some ⟨.row 30 2, .ints (flat ps)⟩, some ⟨.row 30 2, .ints (flat hs)⟩, some ⟨.row 30 2, .ints (zs)⟩]⟩) := by kernel_rfl
set_option maxRecDepth 100000 in
theorem nl_lhb : loopsOf c_lhb = [] := by kernel_rfl
def inv_lhb (bs : List Int) (ps hs : List Pt) (zs : List Int) : Nat → Prop := fun i => i ≤ hs.length
def me_lhb (bs : List Int) (ps hs : List Pt) (zs : List Int) : Nat → Nat := fun i => hs.length - i
/-- A round of this loop. -/
def Round_lhb (bs : List Int) (ps hs : List Pt) (zs : List Int) : Prop := ∀ xx : Nat, inv_lhb bs ps hs zs xx → (bodyL Try.prog ELu 30 12 noL 2 c_lhb k_lhb 4 (s_lhb bs ps hs zs xx)).ok (RoundEnd 4 (s_lhb bs ps hs zs) (inv_lhb bs ps hs zs) (me_lhb bs ps hs zs) re_lhb (rs_lhb bs ps hs zs) xx) (fun _ _ => False)
def e_lhb (s : St) (k : Ex → St → Tree) : Option Tree := match Nat.beq s.tmps.length 77, pickL s.tmps [3, 4, 6], s.mem with
  | true, [.slice (some ⟨1, 0, none⟩) m _, .slice (some ⟨2, 0, none⟩) q _, .int .i64 i], [some ⟨.view, .bytes bs⟩, some ⟨.row 30 2, .ints xs⟩, some ⟨.row 30 2, .ints ys⟩, some ⟨.row 30 2, .ints zs⟩] => some (needs [i = 0, xs.length = m * 2, m ≤ 1000000000, ys.length = q * 2, q ≤ 1000000000, ∀ z ∈ ptsA q ys, z ∈ ptsA m xs] (k (.exit 2) ⟨(topV :: topV :: topV :: topV :: .slice (some ⟨2, 0, none⟩) q q :: topV :: topV :: topV :: topV :: topV :: topV :: topV :: topV :: topV :: topV :: topV :: topV :: topV :: topV :: topV :: topV :: topV :: topV :: topV :: topV :: topV :: topV :: topV :: topV :: topV :: topV :: topV :: topV :: topV :: topV :: topV :: topV :: topV :: topV :: topV :: topV :: topV :: topV :: topV :: topV :: topV :: topV :: topV :: topV :: topV :: topV :: topV :: topV :: topV :: topV :: topV :: topV :: topV :: topV :: topV :: topV :: topV :: topV :: topV :: topV :: topV :: topV :: topV :: topV :: topV :: topV :: topV :: topV :: topV :: topV :: topV :: topV :: []), [some ⟨.view, .bytes bs⟩, some ⟨.row 30 2, .ints xs⟩, some ⟨.row 30 2, .ints ys⟩, some ⟨.row 30 2, .ints zs⟩]⟩))
  | _, _, _ => none
set_option maxRecDepth 100000 in
theorem round_lhb (bs : List Int) (ps hs : List Pt) (zs : List Int) (h : ps.length ≤ 1000000000) (h2 : hs.length ≤ 1000000000) (h5 : ∀ z ∈ hs, z ∈ ps) : Round_lhb bs ps hs zs := by
  intro i h1
  have h1 : i ≤ hs.length := h1
  rw [tr_lhb]
  simp only [List.drop_zero, ptsA_flat, Int.toNat_natCast, Nat.zero_add, Nat.add_zero, flat_length, flat_get0, flat_get1]
  refine brT_ok.2 ⟨fun hlt => ?_, fun hge => ?_⟩
  · have hlt := of_decide_eq_true hlt
    have hi : i < hs.length := by omega
    have e := np_mem (h5 _ (getD_mem' hi))
    rw [wsucc (n := hs.length) hi h2]
    generalize hs.getD i (0, 0) = p at *
    simp only [e, brT_t, brT_f, Bool.not_true, Bool.not_false, Tree.ok]
    repeat (refine And.intro (by first | omega | exact Nat.le_refl _) ?_)
    refine ⟨i + 1, [], ?_, ?_, rfl, rfl, ?_⟩
    · show i + 1 ≤ hs.length; omega
    · show hs.length - (i + 1) < hs.length - i; omega
    · repeat' (first | exact True.intro | exact rfl | exact fun _ => rfl | refine And.intro ?_ ?_)
  · refine ⟨rfl, [], ?_⟩
    repeat' (first | exact True.intro | exact rfl | exact fun _ => rfl | refine And.intro ?_ ?_)
set_option maxRecDepth 100000 in
theorem lg_lhb : LoopE Try.prog e_lhb c_lhb := by
  intro s k t F H hlt ht
  unfold e_lhb at hlt
  split at hlt
  rotate_left
  · cases hlt
  rename_i hlen hpick hmem
  obtain ⟨tmps, mem⟩ := s
  simp only at hlen hpick hmem
  subst hmem
  obtain rfl := Option.some.inj hlt
  obtain ⟨⟨rfl, h1, h2, g1, g2, h5, _⟩, ht2⟩ := needs_ok ht
  clear ht hlt
  obtain ⟨ps, rfl, rfl⟩ := even_flat h1
  obtain ⟨ss, rfl, rfl⟩ := even_flat g1
  rw [ptsA_flat, ptsA_flat] at h5
  refine ⟨_, _, ht2, loop_run mixed ELu_ok (s_lhb _ _ _ _) (inv_lhb _ _ _ _) (me_lhb _ _ _ _) re_lhb (rs_lhb _ _ _ _) k_lhb (fun _ => rfl) (noLoops nl_lhb) (round_lhb _ _ _ _ h2 g2 h5) (x := 0) (Nat.zero_le _) (π := []) rfl ?_⟩
  refine ⟨rfl, rfl, ?_, wvs_spread' [3, 4, 6] hlen rfl ?_⟩
  · repeat' (first | exact True.intro | exact rfl | exact wv_top _ _ | exact fun _ => rfl | assumption | exact Eq.symm (by assumption) | exact vI0 rfl | refine And.intro ?_ ?_)
  · rw [hpick]
    repeat' (first | exact True.intro | exact rfl | exact wv_top _ _ | exact fun _ => rfl | assumption | exact Eq.symm (by assumption) | exact vI0 rfl | refine And.intro ?_ ?_)
def ltHl : LT := fun j s k => match j with
  | 0 => e_lha s k
  | 1 => e_lhb s k
  | _ => none
set_option maxRecDepth 100000 in
theorem in_Hl : loopsOf (codeOf Try.f3) = [c_lha, c_lhb] := by kernel_rfl
theorem ltHl_good : LoopsGood Try.prog ltHl 0 (codeOf Try.f3) := by
  intro i d hd s k t F H hlt ht
  rw [in_Hl] at hd
  cases i with
  | zero =>
    obtain rfl : c_lha = d := by simpa using hd
    exact lg_lha s k t F H hlt ht
  | succ i =>
    cases i with
    | zero =>
      obtain rfl : c_lhb = d := by simpa using hd
      exact lg_lhb s k t F H hlt ht
    | succ i => simp at hd
theorem Lr_hl {fn : Func} (hf : Try.prog.funcs[3]? = some fn) : LoopsGood Try.prog ltHl 0 (codeOf fn) := by
  obtain rfl := fn_is Try.func3 hf
  exact ltHl_good
def LLu : FuncId → LT := fun f => match f with
  | 3 => ltHl
  | _ => noL
def ELhv : Env := mkE TLu RLu LLu
theorem ELhv_ok : EnvOk Try.prog ELhv := mkEOk TLu_ok RLu_ok (by
  intro f fn hf
  unfold LLu
  split
  all_goals first | with_reducible exact Lr_hl hf | exact noL_good)
end Go.Proofs.Ytnjmepbblcfnfaa
namespace Go.Proofs.Ytnjmepbblcfnfaa
set_option linter.all false
open Go.RowKit
abbrev zlHu_0 (bs : List Int) := (hulV (ptsA (apsL (List.drop (0 : Nat) bs) (rdL bs.length) (0 : Int) (12 : Int)).length (List.drop (0 : Nat) (flat (apsL (List.drop (0 : Nat) bs) (rdL bs.length) (0 : Int) (12 : Int))))))
abbrev zlHu_1 (bs : List Int) := (apsL (List.drop (0 : Nat) bs) (rdL bs.length) (0 : Int) (12 : Int))
abbrev zlHu_2 (bs : List Int) := (ptsA (zlHu_0 bs).length (List.drop (0 : Nat) (flat (zlHu_0 bs))))
abbrev zlHu_3 (bs : List Int) := (ptsA (apsL (List.drop 0 bs) (rdL bs.length) 0 12).length (List.drop 0 (flat (apsL (List.drop 0 bs) (rdL bs.length) 0 12))))
set_option maxRecDepth 100000 in
theorem tr_lHu (bs : List Int) : bodyV Try.prog ELhv 30 12 3 [.row bs.length (.bytes bs)] = brT (decide (1048576 < (↑bs.length : Int))) (.fin (.bool (true)) []) (.need (Bytes (List.drop (0 : Nat) bs)) (.need (bs.length ≤ (List.drop (0 : Nat) bs).length) (.need ((zlHu_1 bs).length * (2 : Nat) ≤ (List.drop (0 : Nat) (flat (zlHu_1 bs))).length) (.need ((zlHu_1 bs).length ≤ (1000000000 : Nat)) (.need ((zlHu_1 bs).length * (2 : Nat) ≤ (List.drop (0 : Nat) (flat (zlHu_1 bs))).length) (.need ((zlHu_1 bs).length ≤ (1000000000 : Nat)) (.need ((zlHu_0 bs).length = (zlHu_0 bs).length) (.need (List.drop (0 : Nat) (flat (zlHu_0 bs)) = List.drop (0 : Nat) (flat (zlHu_0 bs))) (.need ((List.drop (0 : Nat) (flat (zlHu_0 bs))).length = (zlHu_0 bs).length * (2 : Nat)) (.need ((zlHu_0 bs).length ≤ (1000000000 : Nat)) (brT (decide ((↑(hulV (zlHu_3 bs)).length : Int) < 3)) (.need ((zlHu_1 bs).length * (2 : Nat) ≤ (List.drop (0 : Nat) (flat (zlHu_1 bs))).length) (.need ((zlHu_1 bs).length ≤ (1000000000 : Nat)) (.need ((zlHu_0 bs).length = (zlHu_0 bs).length) (.need (List.drop (0 : Nat) (flat (zlHu_0 bs)) = List.drop (0 : Nat) (flat (zlHu_0 bs))) (.need ((List.drop (0 : Nat) (flat (zlHu_0 bs))).length = (zlHu_0 bs).length * (2 : Nat)) (.need ((zlHu_0 bs).length ≤ (1000000000 : Nat)) (brT ((↑(hulV (zlHu_3 bs)).length : Int) == 0) (.fin (.bool (true)) []) (.need ((zlHu_1 bs).length * (2 : Nat) ≤ (List.drop (0 : Nat) (flat (zlHu_1 bs))).length) (.need ((zlHu_1 bs).length ≤ (1000000000 : Nat)) (.fin (.bool (colV (zlHu_3 bs))) [])))))))))) (.need ((0 : Int) = (0 : Int)) (.need ((flat (zlHu_1 bs)).length = (zlHu_1 bs).length * (2 : Nat)) (.need ((zlHu_1 bs).length ≤ (1000000000 : Nat)) (.need ((flat (zlHu_0 bs)).length = (zlHu_0 bs).length * (2 : Nat)) (.need ((zlHu_0 bs).length ≤ (1000000000 : Nat)) (.need (lcOk (ptsA (zlHu_1 bs).length (flat (zlHu_1 bs))) (ptsA (zlHu_0 bs).length (flat (zlHu_0 bs)))) (.need ((0 : Int) = (0 : Int)) (.need ((flat (zlHu_1 bs)).length = (zlHu_1 bs).length * (2 : Nat)) (.need ((zlHu_1 bs).length ≤ (1000000000 : Nat)) (.need ((flat (zlHu_0 bs)).length = (zlHu_0 bs).length * (2 : Nat)) (.need ((zlHu_0 bs).length ≤ (1000000000 : Nat)) (.need (∀ (z : Pt), z ∈ ptsA (zlHu_0 bs).length (flat (zlHu_0 bs)) → z ∈ ptsA (zlHu_1 bs).length (flat (zlHu_1 bs))) (.need ((zlHu_0 bs).length * (2 : Nat) ≤ (List.drop (0 : Nat) (flat (zlHu_0 bs))).length) (.need ((zlHu_0 bs).length ≤ (1000000000 : Nat)) (brT (cvxI (ptsA (hulV (zlHu_3 bs)).length (List.drop 0 (flat (hulV (zlHu_3 bs)))))) (.need ((zlHu_0 bs).length * (2 : Nat) ≤ (List.drop (0 : Nat) (flat (zlHu_0 bs))).length) (.need ((zlHu_0 bs).length ≤ (1000000000 : Nat)) (.need ((hulV (zlHu_2 bs)).length = (zlHu_0 bs).length) (.need (List.drop (0 : Nat) (flat (hulV (zlHu_2 bs))) = List.drop (0 : Nat) (flat (zlHu_0 bs))) (.need ((List.drop (0 : Nat) (flat (hulV (zlHu_2 bs)))).length = (hulV (zlHu_2 bs)).length * (2 : Nat)) (.need ((hulV (zlHu_2 bs)).length ≤ (1000000000 : Nat)) (.need ((zlHu_0 bs).length * (2 : Nat) ≤ (List.drop (0 : Nat) (flat (zlHu_0 bs))).length) (.need ((zlHu_0 bs).length ≤ (1000000000 : Nat)) (.need ((canV (zlHu_2 bs)).length = (zlHu_0 bs).length) (.need (List.drop (0 : Nat) (flat (canV (zlHu_2 bs))) = List.drop (0 : Nat) (flat (zlHu_0 bs))) (.need ((List.drop (0 : Nat) (flat (canV (zlHu_2 bs)))).length = (canV (zlHu_2 bs)).length * (2 : Nat)) (.need ((canV (zlHu_2 bs)).length ≤ (1000000000 : Nat)) (.fin (.bool (true)) []))))))))))))) (.fin (.bool (false)) []))))))))))))))))))))))))))) := by kernel_rfl
theorem cvx_hul {h : List Pt} (H : CvH h) (ho : okL h = true) : cvxI h = true := by
  unfold cvxI
  rw [cvh_simple H ho, Bool.true_and]
  have key : ∀ (m i : Nat), i + m ≤ h.length → allQ (cvE h) i m = true := by
    intro m
    induction m with
    | zero => intro i _; rfl
    | succ m ih =>
      intro i hi
      simp only [allQ, Bool.and_eq_true]
      refine ⟨?_, ih (i + 1) (by omega)⟩
      obtain ⟨n1, n2, n3⟩ := nx_ne H (i := i) (by omega)
      unfold cvE
      rw [decide_eq_true_eq]
      exact cvh_left H (j := i) (k := (i + 2) % h.length) (by omega) (Nat.mod_lt _ (by omega)) n2 n3
  exact key _ _ (by omega)
theorem lvA_ge {h : List Pt} {x y : Int} (hl : ∀ j, j < h.length → 0 ≤ lvE h x y j) : ∀ i, i ≤ h.length → 0 ≤ lvA h x y i
  | 0, _ => by show (0 : Int) ≤ 1; decide
  | i + 1, hi => by
    have ih := lvA_ge hl i (by omega)
    have h1 := hl i (by omega)
    simp only [lvA]
    split <;> omega
theorem srt_three {ps : List Pt} (h1 : okL ps = true) (h3 : 3 ≤ (hulV ps).length) : 3 ≤ (srtL ps).length := by
  rw [hulV_yes h1] at h3
  exact Nat.le_trans h3 (hul_le (srtL_asc ps))
theorem cvh_hulV {ps : List Pt} (h1 : okL ps = true) (h3 : 3 ≤ (hulV ps).length) : CvH (hulV ps) := by
  rw [hulV_yes h1] at h3 ⊢
  exact hul_cvh (srtL_asc ps) h3
theorem lv_hul {ps : List Pt} (h1 : okL ps = true) (h3 : 3 ≤ (hulV ps).length) : lcOk ps (hulV ps) := by
  refine ⟨fun q hq => ?_⟩
  rw [lcW_is]
  unfold lcvV
  rw [cvx_hul (cvh_hulV h1 h3) (okL_hul h1)]
  cases ptB q.1 q.2
  · exact (by decide : (0 : Int) ≤ 2)
  · refine lvA_ge (fun j hj => ?_) _ (Nat.le_refl _)
    have h2 := srt_three h1 h3
    rw [hulV_yes h1] at hj ⊢
    have hl := hul_left (srtL_asc ps) h2 hj ((srtL_mem _ _).2 hq)
    unfold crP at hl
    unfold lvE cmpI
    split
    · omega
    · split <;> omega
theorem hul_again {ps : List Pt} (h1 : okL ps = true) (h3 : 3 ≤ (hulV ps).length) : hulV (hulV ps) = hulV ps := by
  rw [hulV_yes (okL_hul h1)]
  rw [hulV_yes h1] at h3 ⊢
  exact hul_hul (srtL_asc ps) h3
/-- The hull begins with its least point. -/
theorem hul_first {s : List Pt} (h : Asc s) (h3 : 3 ≤ s.length) {v : Pt} (hv : v ∈ hulL s) : pltB v ((hulL s).getD 0 (0, 0)) = false := by
  obtain ⟨l1, l2, _, e4, _, e6⟩ := hul_ends h (by rintro rfl; simp at h3)
  have g := chn_ge (s := s) (by omega)
  have e : (hulL s).getD 0 (0, 0) = (uppR s).getD 0 (0, 0) := by
    unfold hulL
    rw [if_neg (by omega), getD_append, if_pos (by simp; omega), getD_take' _ (by omega), low_at s (by rw [low_len]; omega), e4, Nat.sub_zero]
  rw [e]
  rcases e6 v (hul_in h hv) with q | q
  · rw [q]
    exact plt_irr
  · rw [Bool.eq_false_iff]
    intro hh
    rw [pltB_iff] at q hh
    omega
theorem can_hul {ps : List Pt} (h1 : okL ps = true) (h3 : 3 ≤ (hulV ps).length) : canV (hulV ps) = hulV ps := by
  have H := cvh_hulV h1 h3
  have hs := cvh_simple H (okL_hul h1)
  have ha := cvh_area H
  obtain ⟨k1, k2, k3⟩ := mnI_is (hulV ps) (hulV ps).length
  have hm : mnI (hulV ps) (hulV ps).length = 0 := by
    refine Classical.byContradiction fun hn => ?_
    have q := k2 0 (by omega)
    have hlt := k3 (by omega)
    have hv : (hulV ps).getD (mnI (hulV ps) (hulV ps).length) (0, 0) ∈ hulV ps := getD_mem' hlt
    generalize (hulV ps).getD (mnI (hulV ps) (hulV ps).length) (0, 0) = v at *
    have h2 := srt_three h1 h3
    rw [hulV_yes h1] at hv q
    have := hul_first (srtL_asc ps) h2 hv
    rw [this] at q
    cases q
  unfold canV
  rw [hs, cond_true]
  unfold canL
  rw [if_neg (by omega)]
  unfold canW
  rw [hm]
  simp
theorem hul_col {ps : List Pt} (h1 : okL ps = true) (h3 : (hulV ps).length < 3) : colV ps = true := by
  unfold colV
  rw [h1, Bool.true_and, specCol_iff]
  intro a ha b hb c hc
  rw [hulV_yes h1] at h3
  have := short_line (srtL_asc ps) h3 ((srtL_mem _ _).2 ha) ((srtL_mem _ _).2 hb) ((srtL_mem _ _).2 hc)
  rw [← this]
  unfold crs crP crossI
  grind
set_option maxRecDepth 100000 in
theorem law_hu (bs : List Int) (hb : Bytes bs) (_ : bs.length ≤ maxLen) : Res Try.prog 3 [.row bs.length (.bytes bs)] (.bool true) := by
  refine bodyV_res mixed ELhv_ok (m := 30) (n := 12) rfl ?_
  rw [tr_lHu]
  try delta zB2 zB4 zR2 zI zlHu_0 zlHu_1 zlHu_2 zlHu_3
  simp only [List.drop_zero, ptsA_flat, flat_length]
  obtain ⟨_, _, _, hL⟩ := drKey hb (Nat.le_refl _) (l := rdL bs.length) (by unfold rdL; omega) (by unfold rdL; omega) (m := 12) (by omega)
  generalize apsL bs (rdL bs.length) 0 12 = ps at *
  have hl : ps.length ≤ 1000000000 := by omega
  have hh : (hulV ps).length ≤ 1000000000 := Nat.le_trans (hulV_len ps) (by decide)
  have cl : decide ((1048576 : Int) < bs.length) = true ∨ decide ((1048576 : Int) < bs.length) = false := by cases decide ((1048576 : Int) < bs.length) <;> simp
  rcases cl with cl | cl
  · rw [cl]
    exact rfl
  rw [cl]
  simp only [brT_t, brT_f, Tree.ok]
  have hk : 0 < (hulV ps).length → okL ps = true := fun h => by
    cases ho : okL ps
    · rw [hulV_no ho] at h
      simp at h
    · rfl
  by_cases h3 : (hulV ps).length < 3
  · rw [decide_eq_true (show ((hulV ps).length : Int) < 3 by omega)]
    by_cases h0 : (hulV ps).length = 0
    · rw [show (((hulV ps).length : Int) == 0) = true from beq_iff_eq.2 (by omega)]
      simp only [brT_t, brT_f, Tree.ok]
      repeat' (first | exact hb | exact hl | exact hh | exact rfl | exact True.intro | omega | refine And.intro ?_ ?_)
    · rw [show (((hulV ps).length : Int) == 0) = false from beq_eq_false_iff_ne.2 (by omega), hul_col (hk (by omega)) h3]
      simp only [brT_t, brT_f, Tree.ok]
      repeat' (first | exact hb | exact hl | exact hh | exact rfl | exact True.intro | omega | refine And.intro ?_ ?_)
  · have h1 := hk (by omega)
    have h3 : 3 ≤ (hulV ps).length := by omega
    have m1 := lv_hul h1 h3
    have m2 : ∀ z ∈ hulV ps, z ∈ ps := fun z hz => hulV_sub h1 hz
    have m3 := cvx_hul (cvh_hulV h1 h3) (okL_hul h1)
    rw [decide_eq_false (show ¬ ((hulV ps).length : Int) < 3 by omega), m3, hul_again h1 h3, can_hul h1 h3]
    simp only [flat_length, brT_t, brT_f, Tree.ok]
    repeat' (first | exact hb | exact hl | exact hh | exact m1 | exact m2 | exact rfl | exact True.intro | omega | refine And.intro ?_ ?_)
end Go.Proofs.Ytnjmepbblcfnfaa
