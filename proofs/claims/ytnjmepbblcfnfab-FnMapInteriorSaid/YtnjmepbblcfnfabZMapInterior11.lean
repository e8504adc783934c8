/-
  Texts that the proof needs, merged. Written by an AI agent.
-/
import Derived.Orders
import Derived.Below
import Derived.OrdersIn
import Derived.Deep.LoopGhost
import Derived.WalkKit
import Derived.Laws.CopyRow
import Derived.Laws.AppendOwn
import Derived.Laws.Slices
import Derived.Laws.MakeOwn
import Derived.Test.YtnjmepbblcfnfabRows
import Derived.ProofKit
import Derived.OpenShut
import Derived.Carry
import Derived.IntWalk
import Derived.Test.YtnjmepbblcfnfabProg
import Derived.WalkSpells
import Derived.WalkLawsBesides
import Derived.Lib.Hide
import Derived.Deep.QuietTactic
import Derived.BigQuiet
import Derived.KernelRfl
import Derived.Deep.RegionHeld3
import Derived.LoopTactic
import Derived.Laws.StructEq
import Derived.Laws.Tables
import Derived.RangeFuncNested
import Derived.RangeFuncLeaves
import Derived.Deep.Slices
import Derived.Deep.Fields
import Derived.ChangeSame
import Derived.Shelf.SlSortCmp.WholeK
import Derived.Sort.Grow
import Derived.Deep.DeepCutAuto
import Derived.Shelf.SlSortCmp.NoneTotal
import Derived.Test.YtnjmepbblcfnfabZMapInterior10
namespace Go.Proofs.Ytnjmepbblcfnfab
set_option linter.all false
open Go.RowKit
theorem gcd_dv {u v x y : Int} (h1 : (Int.gcd u v : Int) ∣ x) (h2 : (Int.gcd u v : Int) ∣ y) : Int.gcd u v ∣ Int.gcd x y :=
  Nat.dvd_gcd (Int.ofNat_dvd_left.1 h1) (Int.ofNat_dvd_left.1 h2)
theorem gI_li {A B C D : Int} (hd : A * D - B * C = 1 ∨ A * D - B * C = -1) (u v : Int) : gI (A * u + B * v) (C * u + D * v) = gI u v := by
  unfold gI
  congr 1
  have k1 : (Int.gcd u v : Int) ∣ u := Int.gcd_dvd_left ..
  have k2 : (Int.gcd u v : Int) ∣ v := Int.gcd_dvd_right ..
  have m1 : (Int.gcd (A * u + B * v) (C * u + D * v) : Int) ∣ A * u + B * v := Int.gcd_dvd_left ..
  have m2 : (Int.gcd (A * u + B * v) (C * u + D * v) : Int) ∣ C * u + D * v := Int.gcd_dvd_right ..
  refine Nat.dvd_antisymm ?_ ?_
  · have e1 : D * (A * u + B * v) - B * (C * u + D * v) = (A * D - B * C) * u := by grind
    have e2 : A * (C * u + D * v) - C * (A * u + B * v) = (A * D - B * C) * v := by grind
    have n1 : (Int.gcd (A * u + B * v) (C * u + D * v) : Int) ∣ (A * D - B * C) * u := by
      rw [← e1]
      exact Int.dvd_sub (Int.dvd_trans m1 (Int.dvd_mul_left ..)) (Int.dvd_trans m2 (Int.dvd_mul_left ..))
    have n2 : (Int.gcd (A * u + B * v) (C * u + D * v) : Int) ∣ (A * D - B * C) * v := by
      rw [← e2]
      exact Int.dvd_sub (Int.dvd_trans m2 (Int.dvd_mul_left ..)) (Int.dvd_trans m1 (Int.dvd_mul_left ..))
    rcases hd with h | h
    · rw [h, Int.one_mul] at n1 n2
      exact gcd_dv n1 n2
    · rw [h, Int.neg_mul, Int.one_mul, Int.dvd_neg] at n1 n2
      exact gcd_dv n1 n2
  · exact gcd_dv (Int.dvd_add (Int.dvd_trans k1 (Int.dvd_mul_left ..)) (Int.dvd_trans k2 (Int.dvd_mul_left ..))) (Int.dvd_add (Int.dvd_trans k1 (Int.dvd_mul_left ..)) (Int.dvd_trans k2 (Int.dvd_mul_left ..)))
theorem bcA_li {A B C D : Int} (hd : A * D - B * C = 1 ∨ A * D - B * C = -1) {ps : List Pt} : bcA (liL A B C D ps) ps.length = bcA ps ps.length := by
  have key : ∀ n, n ≤ ps.length → bcA (liL A B C D ps) n = bcA ps n := by
    intro n
    induction n with
    | zero => intro _; simp [bcA]
    | succ n ih =>
      intro hn
      simp only [bcA]
      rw [ih (by omega)]
      congr 1
      unfold bcT
      rw [liL_at A B C D (by omega), liL_nx A B C D (by omega)]
      unfold liP
      simp only
      rw [← gI_li hd ((nxP ps n).1 - (ps.getD n (0, 0)).1) ((nxP ps n).2 - (ps.getD n (0, 0)).2)]
      have e1 : A * (nxP ps n).1 + B * (nxP ps n).2 - (A * (ps.getD n (0, 0)).1 + B * (ps.getD n (0, 0)).2) = A * ((nxP ps n).1 - (ps.getD n (0, 0)).1) + B * ((nxP ps n).2 - (ps.getD n (0, 0)).2) := by grind
      have e2 : C * (nxP ps n).1 + D * (nxP ps n).2 - (C * (ps.getD n (0, 0)).1 + D * (ps.getD n (0, 0)).2) = C * ((nxP ps n).1 - (ps.getD n (0, 0)).1) + D * ((nxP ps n).2 - (ps.getD n (0, 0)).2) := by grind
      rw [e1, e2]
  exact key _ (Nat.le_refl _)
theorem counts_li {a b c d : Int} {ps : List Pt} (h : mpB a b c d ps = true) (hn : ¬ icV ps < 0) (hd : dtR a b c d = 1 ∨ dtR a b c d = -1) : icV (mpV a b c d ps) = icV ps ∧ bcV (mpV a b c d ps) = bcV ps := by
  obtain ⟨h1, h2, h3, e, h5⟩ := mpB_is h
  have hs : issI ps = true := by
    cases g : issI ps
    · exact absurd (by unfold icV; rw [g]; show (-1 : Int) < 0; decide) hn
    · rfl
  have ed : dtR a b c d = a * d - b * c := by unfold dtR; rw [h1]; rfl
  rw [ed] at hd
  have hq : issI (liL a b c d ps) = true := by rw [issI_li (by omega) h2 h5]; exact hs
  have eb := bcA_li hd (ps := ps)
  have ea : (sgA (liL a b c d ps) ps.length).natAbs = (sgA ps ps.length).natAbs := by
    rw [sgA_li]
    rcases hd with h | h
    · rw [h, Int.one_mul]
    · rw [h, Int.neg_mul, Int.one_mul, Int.natAbs_neg]
  rw [e]
  unfold icV bcV
  rw [hq, hs, cond_true, cond_true, cond_true, cond_true, liL_len, eb, ea]
  exact ⟨rfl, rfl⟩
abbrev zlMi_0 (bs : List Int) := (mpV (rmE (List.drop (0 : Nat) bs) (rdL bs.length) (0 : Int) (0 : Nat)) (rmE (List.drop (0 : Nat) bs) (rdL bs.length) (0 : Int) (1 : Nat)) (rmE (List.drop (0 : Nat) bs) (rdL bs.length) (0 : Int) (2 : Nat)) (rmE (List.drop (0 : Nat) bs) (rdL bs.length) (0 : Int) (3 : Nat)) (ptsA (pgL (List.drop (0 : Nat) bs) (rdL bs.length) (rmP (List.drop (0 : Nat) bs) (rdL bs.length) (0 : Int))).length (List.drop (0 : Nat) (flat (pgL (List.drop (0 : Nat) bs) (rdL bs.length) (rmP (List.drop (0 : Nat) bs) (rdL bs.length) (0 : Int)))))))
abbrev zlMi_1 (bs : List Int) := (ptsA (pgL (List.drop 0 bs) (rdL bs.length) (rmP (List.drop 0 bs) (rdL bs.length) 0)).length (List.drop 0 (flat (pgL (List.drop 0 bs) (rdL bs.length) (rmP (List.drop 0 bs) (rdL bs.length) 0)))))
abbrev zlMi_2 (bs : List Int) := (pgL (List.drop (0 : Nat) bs) (rdL bs.length) (rmP (List.drop (0 : Nat) bs) (rdL bs.length) (0 : Int)))
abbrev zlMi_3 (bs : List Int) := (mpV (rmE (List.drop 0 bs) (rdL bs.length) 0 0) (rmE (List.drop 0 bs) (rdL bs.length) 0 1) (rmE (List.drop 0 bs) (rdL bs.length) 0 2) (rmE (List.drop 0 bs) (rdL bs.length) 0 3) (zlMi_1 bs))
set_option maxRecDepth 100000 in
theorem tr_lMi (bs : List Int) : bodyV Try.prog ELma 30 12 12 [.row bs.length (.bytes bs)] = brT (decide (1048576 < (↑bs.length : Int))) (.fin (.bool (true)) []) (.need (Bytes (List.drop (0 : Nat) bs)) (.need (bs.length ≤ (List.drop (0 : Nat) bs).length) (.need ((zlMi_2 bs).length * (2 : Nat) ≤ (List.drop (0 : Nat) (flat (zlMi_2 bs))).length) (.need ((zlMi_2 bs).length ≤ (1000000000 : Nat)) (.need ((zlMi_2 bs).length * (2 : Nat) ≤ (List.drop (0 : Nat) (flat (zlMi_2 bs))).length) (.need ((zlMi_2 bs).length ≤ (1000000000 : Nat)) (.need ((zlMi_2 bs).length * (2 : Nat) ≤ (List.drop (0 : Nat) (flat (zlMi_2 bs))).length) (.need ((zlMi_2 bs).length ≤ (1000000000 : Nat)) (brT (!icV (zlMi_1 bs) == icV (zlMi_1 bs)) (.need ((zlMi_2 bs).length * (2 : Nat) ≤ (List.drop (0 : Nat) (flat (zlMi_2 bs))).length) (.need ((zlMi_2 bs).length ≤ (1000000000 : Nat)) (.fin (.bool (icV (zlMi_1 bs) == icV (zlMi_1 bs))) []))) (brT (!mpB (rmE (List.drop 0 bs) (rdL bs.length) 0 0) (rmE (List.drop 0 bs) (rdL bs.length) 0 1) (rmE (List.drop 0 bs) (rdL bs.length) 0 2) (rmE (List.drop 0 bs) (rdL bs.length) 0 3) (zlMi_1 bs)) (.need ((zlMi_2 bs).length * (2 : Nat) ≤ (List.drop (0 : Nat) (flat (zlMi_2 bs))).length) (.need ((zlMi_2 bs).length ≤ (1000000000 : Nat)) (.fin (.bool (icV (zlMi_1 bs) == icV (zlMi_1 bs))) []))) (brT (decide (icV (zlMi_1 bs) < 0)) (.need ((zlMi_2 bs).length * (2 : Nat) ≤ (List.drop (0 : Nat) (flat (zlMi_2 bs))).length) (.need ((zlMi_2 bs).length ≤ (1000000000 : Nat)) (.fin (.bool (icV (zlMi_1 bs) == icV (zlMi_1 bs))) []))) (brT (!dtR (rmE (List.drop 0 bs) (rdL bs.length) 0 0) (rmE (List.drop 0 bs) (rdL bs.length) 0 1) (rmE (List.drop 0 bs) (rdL bs.length) 0 2) (rmE (List.drop 0 bs) (rdL bs.length) 0 3) == 1) (brT (!dtR (rmE (List.drop 0 bs) (rdL bs.length) 0 0) (rmE (List.drop 0 bs) (rdL bs.length) 0 1) (rmE (List.drop 0 bs) (rdL bs.length) 0 2) (rmE (List.drop 0 bs) (rdL bs.length) 0 3) == -1) (.need ((zlMi_2 bs).length * (2 : Nat) ≤ (List.drop (0 : Nat) (flat (zlMi_2 bs))).length) (.need ((zlMi_2 bs).length ≤ (1000000000 : Nat)) (.fin (.bool (icV (zlMi_1 bs) == icV (zlMi_1 bs))) []))) (.need ((zlMi_0 bs).length * (2 : Nat) ≤ (List.drop (0 : Nat) (flat (zlMi_0 bs))).length) (.need ((zlMi_0 bs).length ≤ (1000000000 : Nat)) (brT (icV (ptsA (zlMi_3 bs).length (List.drop 0 (flat (zlMi_3 bs)))) == icV (zlMi_1 bs)) (.need ((zlMi_0 bs).length * (2 : Nat) ≤ (List.drop (0 : Nat) (flat (zlMi_0 bs))).length) (.need ((zlMi_0 bs).length ≤ (1000000000 : Nat)) (.need ((zlMi_2 bs).length * (2 : Nat) ≤ (List.drop (0 : Nat) (flat (zlMi_2 bs))).length) (.need ((zlMi_2 bs).length ≤ (1000000000 : Nat)) (.fin (.bool (bcV (ptsA (zlMi_3 bs).length (List.drop 0 (flat (zlMi_3 bs)))) == bcV (zlMi_1 bs))) []))))) (.fin (.bool (false)) []))))) (.need ((zlMi_0 bs).length * (2 : Nat) ≤ (List.drop (0 : Nat) (flat (zlMi_0 bs))).length) (.need ((zlMi_0 bs).length ≤ (1000000000 : Nat)) (brT (icV (ptsA (zlMi_3 bs).length (List.drop 0 (flat (zlMi_3 bs)))) == icV (zlMi_1 bs)) (.need ((zlMi_0 bs).length * (2 : Nat) ≤ (List.drop (0 : Nat) (flat (zlMi_0 bs))).length) (.need ((zlMi_0 bs).length ≤ (1000000000 : Nat)) (.need ((zlMi_2 bs).length * (2 : Nat) ≤ (List.drop (0 : Nat) (flat (zlMi_2 bs))).length) (.need ((zlMi_2 bs).length ≤ (1000000000 : Nat)) (.fin (.bool (bcV (ptsA (zlMi_3 bs).length (List.drop 0 (flat (zlMi_3 bs)))) == bcV (zlMi_1 bs))) []))))) (.fin (.bool (false)) [])))))))))))))))) := by kernel_rfl
set_option maxRecDepth 100000 in
theorem law_mi (bs : List Int) (hb : Bytes bs) (_ : bs.length ≤ maxLen) : Res Try.prog 12 [.row bs.length (.bytes bs)] (.bool true) := by
  refine bodyV_res mixed ELma_ok (m := 30) (n := 12) rfl ?_
  rw [tr_lMi]
  try delta zB2 zB4 zR2 zI zlMi_0 zlMi_1 zlMi_2 zlMi_3
  simp only [List.drop_zero, ptsA_flat, flat_length]
  obtain ⟨_, _, _, hL⟩ := dqKey hb (Nat.le_refl _) (l := rdL bs.length) (by unfold rdL; omega) (by unfold rdL; omega)
  generalize pgL bs (rdL bs.length) (rmP bs (rdL bs.length) 0) = ps at *
  generalize rmE bs (rdL bs.length) 0 0 = a
  generalize rmE bs (rdL bs.length) 0 1 = b
  generalize rmE bs (rdL bs.length) 0 2 = c
  generalize rmE bs (rdL bs.length) 0 3 = d
  have hl : ps.length ≤ 1000000000 := by omega
  have l1 := mpV_len a b c d ps
  have l2 : (mpV a b c d ps).length ≤ 1000000000 := by omega
  rcases cl_or ((1048576 : Int) < bs.length) with cl | cl
  · rw [cl]
    exact rfl
  rw [cl]
  have ct := counts_li (a := a) (b := b) (c := c) (d := d) (ps := ps)
  rcases hB : mpB a b c d ps with _ | _
  · simp only [beq_self_eq_true, Bool.not_true, Bool.not_false, brT_t, brT_f, Tree.ok]
    repeat' (first | exact hb | exact hl | exact l2 | exact rfl | exact True.intro | omega | refine And.intro ?_ ?_)
  rcases cl_or (icV ps < 0) with hn | hn
  · simp only [hn, beq_self_eq_true, Bool.not_true, Bool.not_false, brT_t, brT_f, Tree.ok]
    repeat' (first | exact hb | exact hl | exact l2 | exact rfl | exact True.intro | omega | refine And.intro ?_ ?_)
  have hn' := of_decide_eq_false hn
  by_cases d1 : dtR a b c d = 1
  · obtain ⟨s1, s2⟩ := ct hB hn' (.inl d1)
    have q1 : (dtR a b c d == 1) = true := beq_iff_eq.2 d1
    simp only [hn, q1, s1, s2, beq_self_eq_true, Bool.not_true, Bool.not_false, brT_t, brT_f, Tree.ok]
    repeat' (first | exact hb | exact hl | exact l2 | exact rfl | exact True.intro | omega | refine And.intro ?_ ?_)
  have q1 : (dtR a b c d == 1) = false := beq_eq_false_iff_ne.2 d1
  by_cases d2 : dtR a b c d = -1
  · obtain ⟨s1, s2⟩ := ct hB hn' (.inr d2)
    have q2 : (dtR a b c d == -1) = true := beq_iff_eq.2 d2
    simp only [hn, q1, q2, s1, s2, beq_self_eq_true, Bool.not_true, Bool.not_false, brT_t, brT_f, Tree.ok]
    repeat' (first | exact hb | exact hl | exact l2 | exact rfl | exact True.intro | omega | refine And.intro ?_ ?_)
  · have q2 : (dtR a b c d == -1) = false := beq_eq_false_iff_ne.2 d2
    simp only [hn, q1, q2, beq_self_eq_true, Bool.not_true, Bool.not_false, brT_t, brT_f, Tree.ok]
    repeat' (first | exact hb | exact hl | exact l2 | exact rfl | exact True.intro | omega | refine And.intro ?_ ?_)
end Go.Proofs.Ytnjmepbblcfnfab
