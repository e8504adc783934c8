/-
  Texts that the proof needs, merged. Written by an AI agent.
-/
import Derived.Orders
import Derived.Below
import Derived.OrdersIn
import Derived.Deep.LoopGhost
import Derived.WalkKit
import Derived.Laws.CopyRow
import Derived.Laws.AppendOwn
import Derived.Laws.Slices
import Derived.Laws.MakeOwn
import Derived.Test.YtolodncpegajkabRows
import Derived.ProofKit
import Derived.OpenShut
import Derived.Carry
import Derived.IntWalk
import Derived.Test.YtolodncpegajkabProg
import Derived.WalkSpells
import Derived.WalkLawsBesides
import Derived.Lib.Hide
import Derived.Deep.QuietTactic
import Derived.BigQuiet
import Derived.KernelRfl
import Derived.Deep.RegionHeld3
import Derived.LoopTactic
import Derived.Laws.StructEq
import Derived.Laws.Tables
import Derived.RangeFuncNested
import Derived.RangeFuncLeaves
import Derived.Deep.Slices
import Derived.Deep.Fields
import Derived.ChangeSame
import Derived.Shelf.SlSortCmp.WholeK
import Derived.Sort.Grow
import Derived.Deep.DeepCutAuto
import Derived.Shelf.SlSortCmp.NoneTotal
import Derived.Test.YtolodncpegajkabZCheckSimplified3
namespace Go.Proofs.Ytolodncpegajkab
set_option linter.all false
open Go.RowKit
theorem eqP_is (p q : Pt) : negB false (p.1 == q.1 && (p.2 == q.2 && true)) = decide (p = q) := by
  rw [Bool.eq_iff_iff]
  simp only [negB, Bool.and_true, Bool.and_eq_true, beq_iff_eq, decide_eq_true_eq]
  constructor
  · rintro ⟨h1, h2⟩; exact Prod.ext h1 h2
  · rintro rfl; exact ⟨rfl, rfl⟩
def gP (ps : List Pt) (i : Nat) : Pt := ps.getD i (0, 0)
theorem gP_v {ps : List Pt} (h : allV ps = true) (i : Nat) : vP (gP ps i) := by
  have := allV_get h i
  exact this
set_option maxHeartbeats 1000000 in
theorem res_dev {ps : List Pt} {a b k : Nat} (hl : ps.length ≤ 1000) (hv : allV ps = true) (ha : a < ps.length) (hb : b < ps.length) (hk : k < ps.length) : Res Try.prog 78 [.row ps.length (.ints (flat ps)), .v (iv a), .v (iv b), .v (iv k)] (.tuple #[iv (dvN (gP ps a) (gP ps b) (gP ps k)), iv (dvD (gP ps a) (gP ps b) (gP ps k))]) := by
  refine bodyV_res mixed (tabE_ok TSi_ok) (m := 30) (n := 12) rfl ?_
  rw [tr_dev]
  simp only [Int.toNat_natCast, Nat.zero_add, flat_get0, flat_get1, flat_length, eqP_is]
  have v1 := gP_v hv a
  have v2 := gP_v hv b
  have v3 := gP_v hv k
  obtain ⟨m1, m2⟩ := sqP_parts v1 v2
  obtain ⟨m3, m4⟩ := sqP_parts v1 v3
  obtain ⟨m5, m6⟩ := sqP_parts v2 v3
  obtain ⟨n1, n2⟩ := dot_parts v1 v2 v3
  obtain ⟨n3, n4⟩ := dot_parts v2 v1 v3
  have cc := cc_bd v1 v2 v3
  have t1 := vP_pt v1
  have t2 := vP_pt v2
  have t3 := vP_pt v3
  unfold vP at v1 v2 v3
  change 0 ≤ crossI (gP ps a).1 (gP ps a).2 (gP ps b).1 (gP ps b).2 (gP ps k).1 (gP ps k).2 * crossI (gP ps a).1 (gP ps a).2 (gP ps b).1 (gP ps b).2 (gP ps k).1 (gP ps k).2 ∧ _ at cc
  unfold gP at *
  generalize ps.getD a (0, 0) = A at *
  generalize ps.getD b (0, 0) = B at *
  generalize ps.getD k (0, 0) = P at *
  have ccc : crP A B P * crP A B P ≤ 100000000000000 := cc.2
  change crossI A.1 A.2 B.1 B.2 P.1 P.2 * crossI A.1 A.2 B.1 B.2 P.1 P.2 ≤ 100000000000000 at ccc
  have ha' : (0 : Int) ≤ a ∧ (a : Int) < ps.length := by omega
  have hb' : (0 : Int) ≤ b ∧ (b : Int) < ps.length := by omega
  have hk' : (0 : Int) ≤ k ∧ (k : Int) < ps.length := by omega
  simp (disch := omega) only [wr]
  unfold dvN dvD
  by_cases e : A = B
  · rw [decide_eq_true e, if_pos e, if_pos e]
    simp only [brT_t, Tree.ok]
    repeat' (first | exact True.intro | exact rfl | assumption | omega | refine And.intro ?_ ?_)
  · rw [decide_eq_false e, if_neg e, if_neg e]
    simp only [brT_f, Tree.ok]
    by_cases g : dotP A B P ≤ 0
    · rw [if_pos g, if_pos g]
      rw [show decide ((B.1 - A.1) * (P.1 - A.1) + (B.2 - A.2) * (P.2 - A.2) ≤ 0) = true from decide_eq_true g]
      simp only [brT_t, Tree.ok]
      repeat' (first | exact True.intro | exact rfl | assumption | omega | refine And.intro ?_ ?_)
    · rw [if_neg g, if_neg g]
      rw [show decide ((B.1 - A.1) * (P.1 - A.1) + (B.2 - A.2) * (P.2 - A.2) ≤ 0) = false from decide_eq_false g]
      by_cases q : dotP B A P ≤ 0
      · rw [if_pos q, if_pos q]
        rw [show decide ((A.1 - B.1) * (P.1 - B.1) + (A.2 - B.2) * (P.2 - B.2) ≤ 0) = true from decide_eq_true q]
        simp only [brT_t, brT_f, Tree.ok]
        repeat' (first | exact True.intro | exact rfl | assumption | omega | refine And.intro ?_ ?_)
      · rw [if_neg q, if_neg q]
        rw [show decide ((A.1 - B.1) * (P.1 - B.1) + (A.2 - B.2) * (P.2 - B.2) ≤ 0) = false from decide_eq_false q]
        simp only [brT_f, Tree.ok]
        repeat' (first | exact True.intro | exact rfl | assumption | omega | refine And.intro ?_ ?_)
def pDev : List DArg → Option (Value × List Prop)
  | [.row m (.ints xs), .v (.int .i64 a), .v (.int .i64 b), .v (.int .i64 k)] => some (.tuple #[iv (dvN (gP (ptsA m xs) a.toNat) (gP (ptsA m xs) b.toNat) (gP (ptsA m xs) k.toNat)), iv (dvD (gP (ptsA m xs) a.toNat) (gP (ptsA m xs) b.toNat) (gP (ptsA m xs) k.toNat))], [m * 2 ≤ xs.length, m ≤ 1000, allV (ptsA m xs) = true, 0 ≤ a ∧ a < m, 0 ≤ b ∧ b < m, 0 ≤ k ∧ k < m])
  | _ => none
theorem pDev_ok {ds : List DArg} {v : Value} {C : List Prop} (h : pDev ds = some (v, C)) (hC : AllP C) : Res Try.prog 78 ds v := by
  unfold pDev at h
  split at h
  · rename_i m xs a b k
    obtain ⟨rfl, rfl⟩ : _ ∧ _ := by simpa using h
    obtain ⟨c1, c2, c3, c4, c5, c6, _⟩ := hC
    obtain ⟨_, h2⟩ := ptsA_spec c1
    obtain ⟨a, rfl⟩ := Int.eq_ofNat_of_zero_le c4.1
    obtain ⟨b, rfl⟩ := Int.eq_ofNat_of_zero_le c5.1
    obtain ⟨k, rfl⟩ := Int.eq_ofNat_of_zero_le c6.1
    simp only [Int.toNat_natCast]
    exact res_pts1 (pre := []) (post := [_, _, _]) c1 (res_dev (ps := ptsA m xs) (by omega) c3 (by omega) (by omega) (by omega))
  · cases h
def pFrL : List DArg → Option (Value × List Prop)
  | [.v (.int .i64 a), .v (.int .i64 b), .v (.int .i64 c), .v (.int .i64 d)] => some (.bool (decide (a * d < c * b)), [0 ≤ a ∧ a ≤ 100000000000000, 1 ≤ b ∧ b ≤ 100000000000000, 0 ≤ c ∧ c ≤ 100000000000000, 1 ≤ d ∧ d ≤ 100000000000000])
  | _ => none
theorem pFrL_ok {ds : List DArg} {v : Value} {C : List Prop} (h : pFrL ds = some (v, C)) (hC : AllP C) : Res Try.prog 143 ds v := by
  unfold pFrL at h
  split at h
  · obtain ⟨rfl, rfl⟩ : _ ∧ _ := by simpa using h
    exact res_frL hC.1 hC.2.1 hC.2.2.1 hC.2.2.2.1
  · cases h
def pScS : List DArg → Option (Value × List Prop)
  | [.v (.agg ⟨[.int .i64 a, .int .i64 b, .int .i64 c, .int .i64 d]⟩), .v (.agg ⟨[.int .i64 x, .int .i64 y]⟩)] => some (iv (scS (a, b) (c, d) (x, y)), [ptB a b = true, ptB c d = true, ptB x y = true])
  | _ => none
theorem pScS_ok {ds : List DArg} {v : Value} {C : List Prop} (h : pScS ds = some (v, C)) (hC : AllP C) : Res Try.prog 111 ds v := by
  unfold pScS at h
  split at h
  · obtain ⟨rfl, rfl⟩ : _ ∧ _ := by simpa using h
    exact res_scS hC.1 hC.2.1 hC.2.2.1
  · cases h
def pScl : List DArg → Option (Value × List Prop)
  | [.v (.agg ⟨[.int .i64 a, .int .i64 b, .int .i64 c, .int .i64 d]⟩)] => some (iv (sclP (a, b) (c, d)), [ptB a b = true, ptB c d = true])
  | _ => none
theorem pScl_ok {ds : List DArg} {v : Value} {C : List Prop} (h : pScl ds = some (v, C)) (hC : AllP C) : Res Try.prog 112 ds v := by
  unfold pScl at h
  split at h
  · obtain ⟨rfl, rfl⟩ : _ ∧ _ := by simpa using h
    exact res_scl hC.1 hC.2.1
  · cases h
def TSm1 : Tab := fun f ds => match f with
  | 78 => pDev ds
  | 143 => pFrL ds
  | 111 => pScS ds
  | 112 => pScl ds
  | f => TSi f ds
theorem TSm1_ok : TabOk Try.prog TSm1 := by
  intro f ds v C h hC
  unfold TSm1 at h
  (try split at h)
  all_goals first | with_reducible exact pDev_ok h hC | with_reducible exact pFrL_ok h hC | with_reducible exact pScS_ok h hC | with_reducible exact pScl_ok h hC | exact TSi_ok _ _ _ _ h hC
def ESm1 : Env := mkE TSm1 R4 (fun _ => noL)
theorem ESm1_ok : EnvOk Try.prog ESm1 := mkEOk TSm1_ok R4_ok (fun _ _ _ => noL_good)
/-- Is the deviation of one point greater than that of another one? -/
def btr (ps : List Pt) (a b k j : Nat) : Bool := decide (dvN (gP ps a) (gP ps b) (gP ps j) * dvD (gP ps a) (gP ps b) (gP ps k) < dvN (gP ps a) (gP ps b) (gP ps k) * dvD (gP ps a) (gP ps b) (gP ps j))
/-- The first of so many points with the largest deviation; a if there is none. -/
def wrN (ps : List Pt) (a b : Nat) : Nat → Nat
  | 0 => a
  | m + 1 => bif btr ps a b (a + 1 + m) (wrN ps a b m) then a + 1 + m else wrN ps a b m
theorem wrN_st (ps : List Pt) (a b m : Nat) : wrN ps a b (m + 1) = bif btr ps a b (a + 1 + m) (wrN ps a b m) then a + 1 + m else wrN ps a b m := rfl
theorem wrN_bd (ps : List Pt) (a b : Nat) : ∀ m, a ≤ wrN ps a b m ∧ wrN ps a b m ≤ a + m
  | 0 => by simp [wrN]
  | m + 1 => by
    have := wrN_bd ps a b m
    rw [wrN_st]
    cases btr ps a b (a + 1 + m) (wrN ps a b m) <;> simp only [cond_true, cond_false] <;> omega
theorem dv_at (A B : Pt) : dvN A B A = 0 ∧ dvD A B A = 1 := by
  have e : dotP A B A = 0 := by unfold dotP; rw [Int.sub_self, Int.sub_self]; simp
  unfold dvN dvD
  by_cases h : A = B
  · rw [if_pos h, if_pos h, sqP_self]; exact ⟨rfl, rfl⟩
  · rw [if_neg h, if_neg h, if_pos (by omega), if_pos (by omega), sqP_self]; exact ⟨rfl, rfl⟩
noncomputable def c_wst : Code := ((loopsOf (codeOf Try.f113))[0]?).getD .skip
def k_wst : Ex → List Nat := keeps [0, 1, 2, 7, 8, 9, 10] [(0, [7])] [6]
def s_wst (ps : List Pt) (a b : Nat) : Nat → St := fun m => ⟨(.slice (some ⟨0, 0, none⟩) ps.length ps.length :: .int .i64 a :: .int .i64 b :: topV :: topV :: topV :: topV :: .int .i64 (wrN ps a b m) :: .int .i64 (dvN (gP ps a) (gP ps b) (gP ps (wrN ps a b m))) :: .int .i64 (dvD (gP ps a) (gP ps b) (gP ps (wrN ps a b m))) :: .int .i64 ((a + 1 + m : Nat) : Int) :: topV :: topV :: topV :: topV :: topV :: topV :: topV :: topV :: topV :: topV :: topV :: topV :: topV :: topV :: topV :: topV :: topV :: topV :: topV :: topV :: topV :: topV :: topV :: topV :: topV :: topV :: topV :: []), [some ⟨.view, .ints (flat ps)⟩, none, none]⟩
def re_wst : Nat → Ex := fun _ => .exit 0
def rs_wst (ps : List Pt) (a b : Nat) : Nat → St := fun m => ⟨(topV :: topV :: topV :: topV :: topV :: topV :: topV :: .int .i64 (wrN ps a b (b - (a + 1))) :: topV :: topV :: topV :: topV :: topV :: topV :: topV :: topV :: topV :: topV :: topV :: topV :: topV :: topV :: topV :: topV :: topV :: topV :: topV :: topV :: topV :: topV :: topV :: topV :: topV :: topV :: topV :: topV :: topV :: topV :: []), [some ⟨.view, .ints (flat ps)⟩, none, none]⟩
set_option maxRecDepth 100000 in
theorem tr_wst (ps : List Pt) (a b : Nat) (m : Nat) : bodyL Try.prog ESm1 30 12 noL 1 c_wst k_wst 3 (s_wst ps a b m) = brT (decide ((↑(a + 1 + m) : Int) < (↑b : Int))) (.need (ps.length * (2 : Nat) ≤ (List.drop (0 : Nat) (flat ps)).length) (.need (ps.length ≤ (1000 : Nat)) (.need (allV (ptsA ps.length (List.drop (0 : Nat) (flat ps))) = true) (.need ((0 : Int) ≤ (↑a : Int) ∧ (↑a : Int) < (↑ps.length : Int)) (.need ((0 : Int) ≤ (↑b : Int) ∧ (↑b : Int) < (↑ps.length : Int)) (.need ((0 : Int) ≤ (↑(a + (1 : Nat) + m) : Int) ∧ (↑(a + (1 : Nat) + m) : Int) < (↑ps.length : Int)) (.need ((0 : Int) ≤ dvN (gP ps a) (gP ps b) (gP ps (wrN ps a b m)) ∧ dvN (gP ps a) (gP ps b) (gP ps (wrN ps a b m)) ≤ (100000000000000 : Int)) (.need ((1 : Int) ≤ dvD (gP ps a) (gP ps b) (gP ps (wrN ps a b m)) ∧ dvD (gP ps a) (gP ps b) (gP ps (wrN ps a b m)) ≤ (100000000000000 : Int)) (.need ((0 : Int) ≤ dvN (gP (ptsA ps.length (List.drop (0 : Nat) (flat ps))) (↑a : Int).toNat) (gP (ptsA ps.length (List.drop (0 : Nat) (flat ps))) (↑b : Int).toNat) (gP (ptsA ps.length (List.drop (0 : Nat) (flat ps))) (↑(a + (1 : Nat) + m) : Int).toNat) ∧ dvN (gP (ptsA ps.length (List.drop (0 : Nat) (flat ps))) (↑a : Int).toNat) (gP (ptsA ps.length (List.drop (0 : Nat) (flat ps))) (↑b : Int).toNat) (gP (ptsA ps.length (List.drop (0 : Nat) (flat ps))) (↑(a + (1 : Nat) + m) : Int).toNat) ≤ (100000000000000 : Int)) (.need ((1 : Int) ≤ dvD (gP (ptsA ps.length (List.drop (0 : Nat) (flat ps))) (↑a : Int).toNat) (gP (ptsA ps.length (List.drop (0 : Nat) (flat ps))) (↑b : Int).toNat) (gP (ptsA ps.length (List.drop (0 : Nat) (flat ps))) (↑(a + (1 : Nat) + m) : Int).toNat) ∧ dvD (gP (ptsA ps.length (List.drop (0 : Nat) (flat ps))) (↑a : Int).toNat) (gP (ptsA ps.length (List.drop (0 : Nat) (flat ps))) (↑b : Int).toNat) (gP (ptsA ps.length (List.drop (0 : Nat) (flat ps))) (↑(a + (1 : Nat) + m) : Int).toNat) ≤ (100000000000000 : Int)) (brT (decide (dvN (gP ps a) (gP ps b) (gP ps (wrN ps a b m)) * dvD (gP (ptsA ps.length (List.drop 0 (flat ps))) (↑a : Int).toNat) (gP (ptsA ps.length (List.drop 0 (flat ps))) (↑b : Int).toNat) (gP (ptsA ps.length (List.drop 0 (flat ps))) (↑(a + 1 + m) : Int).toNat) < dvN (gP (ptsA ps.length (List.drop 0 (flat ps))) (↑a : Int).toNat) (gP (ptsA ps.length (List.drop 0 (flat ps))) (↑b : Int).toNat) (gP (ptsA ps.length (List.drop 0 (flat ps))) (↑(a + 1 + m) : Int).toNat) * dvD (gP ps a) (gP ps b) (gP ps (wrN ps a b m)))) (.leaf .normal ⟨(.slice (some ⟨0, 0, none⟩) (ps.length) (ps.length) :: .int .i64 ((↑a : Int)) :: .int .i64 ((↑b : Int)) :: topV :: topV :: topV :: topV :: .int .i64 ((↑(a + 1 + m) : Int)) :: .int .i64 (dvN (gP (ptsA ps.length (List.drop 0 (flat ps))) (↑a : Int).toNat) (gP (ptsA ps.length (List.drop 0 (flat ps))) (↑b : Int).toNat) (gP (ptsA ps.length (List.drop 0 (flat ps))) (↑(a + 1 + m) : Int).toNat)) :: .int .i64 (dvD (gP (ptsA ps.length (List.drop 0 (flat ps))) (↑a : Int).toNat) (gP (ptsA ps.length (List.drop 0 (flat ps))) (↑b : Int).toNat) (gP (ptsA ps.length (List.drop 0 (flat ps))) (↑(a + 1 + m) : Int).toNat)) :: .int .i64 (IntKind.i64.wrap ((↑(a + 1 + m) : Int) + 1)) :: topV :: topV :: topV :: topV :: topV :: topV :: topV :: topV :: topV :: topV :: topV :: topV :: topV :: topV :: topV :: topV :: topV :: topV :: topV :: topV :: topV :: topV :: topV :: topV :: topV :: topV :: topV :: []), [some ⟨.view, .ints (flat ps)⟩, none, none]⟩) (.leaf .normal ⟨(.slice (some ⟨0, 0, none⟩) (ps.length) (ps.length) :: .int .i64 ((↑a : Int)) :: .int .i64 ((↑b : Int)) :: topV :: topV :: topV :: topV :: .int .i64 ((↑(wrN ps a b m) : Int)) :: .int .i64 (dvN (gP ps a) (gP ps b) (gP ps (wrN ps a b m))) :: .int .i64 (dvD (gP ps a) (gP ps b) (gP ps (wrN ps a b m))) :: .int .i64 (IntKind.i64.wrap ((↑(a + 1 + m) : Int) + 1)) :: topV :: topV :: topV :: topV :: topV :: topV :: topV :: topV :: topV :: topV :: topV :: topV :: topV :: topV :: topV :: topV :: topV :: topV :: topV :: topV :: topV :: topV :: topV :: topV :: topV :: topV :: topV :: []), [some ⟨.view, .ints (flat ps)⟩, none, none]⟩)))))))))))) (.leaf (.exit 0) ⟨(topV :: topV :: topV :: topV :: topV :: topV :: topV :: .int .i64 ((↑(wrN ps a b m) : Int)) :: topV :: topV :: topV :: topV :: topV :: topV :: topV :: topV :: topV :: topV :: topV :: topV :: topV :: topV :: topV :: topV :: topV :: topV :: topV :: topV :: topV :: topV :: topV :: topV :: topV :: topV :: topV :: topV :: topV :: topV :: []), [some ⟨.view, .ints (flat ps)⟩, none, none]⟩) := by kernel_rfl
set_option maxRecDepth 100000 in
theorem nl_wst : loopsOf c_wst = [] := by kernel_rfl
def inv_wst (ps : List Pt) (a b : Nat) : Nat → Prop := fun m => m ≤ b - (a + 1)
def me_wst (ps : List Pt) (a b : Nat) : Nat → Nat := fun m => b - (a + 1) - m
/-- A round of this loop. -/
def Round_wst (ps : List Pt) (a b : Nat) : Prop := ∀ xx : Nat, inv_wst ps a b xx → (bodyL Try.prog ESm1 30 12 noL 1 c_wst k_wst 3 (s_wst ps a b xx)).ok (RoundEnd 3 (s_wst ps a b) (inv_wst ps a b) (me_wst ps a b) re_wst (rs_wst ps a b) xx) (fun _ _ => False)
def e_wst (s : St) (k : Ex → St → Tree) : Option Tree := match Nat.beq s.tmps.length 38, pickL s.tmps [0, 1, 2, 7, 8, 9, 10], s.mem with
  | true, [.slice (some ⟨0, 0, none⟩) n _, .int .i64 ia, .int .i64 ib, .int .i64 i7, .int .i64 z0, .int .i64 z1, .int .i64 kk], [some ⟨.view, .ints xs⟩, none, none] => some (needs [i7 = ia, z0 = 0, z1 = 1, 0 ≤ ia ∧ ia < n, 0 ≤ ib ∧ ib < n, kk = ia + 1, xs.length = n * 2, n ≤ 1000, allV (ptsA n xs) = true] (k (.exit 0) ⟨(topV :: topV :: topV :: topV :: topV :: topV :: topV :: .int .i64 (wrN (ptsA n xs) ia.toNat ib.toNat (ib.toNat - (ia.toNat + 1))) :: topV :: topV :: topV :: topV :: topV :: topV :: topV :: topV :: topV :: topV :: topV :: topV :: topV :: topV :: topV :: topV :: topV :: topV :: topV :: topV :: topV :: topV :: topV :: topV :: topV :: topV :: topV :: topV :: topV :: topV :: []), [some ⟨.view, .ints xs⟩, none, none]⟩))
  | _, _, _ => none
set_option maxRecDepth 100000 in
set_option maxHeartbeats 1000000 in
theorem round_wst (ps : List Pt) (a b : Nat) (hl : ps.length ≤ 1000) (hv : allV ps = true) (ha : a < ps.length) (hb : b < ps.length) : Round_wst ps a b := by
  intro m h1
  have h1 : m ≤ b - (a + 1) := h1
  rw [tr_wst]
  simp only [List.drop_zero, ptsA_flat, Int.toNat_natCast, flat_length]
  refine brT_ok.2 ⟨fun hlt => ?_, fun hge => ?_⟩
  · have hlt := of_decide_eq_true hlt
    have hk : a + 1 + m < b := by omega
    have st := wrN_st ps a b m
    have wb := wrN_bd ps a b m
    have d1 := dv_bd (gP_v hv a) (gP_v hv b) (gP_v hv (wrN ps a b m))
    have d2 := dv_bd (gP_v hv a) (gP_v hv b) (gP_v hv (a + 1 + m))
    have w : IntKind.i64.wrap (((a + 1 + m : Nat) : Int) + 1) = ((a + 1 + (m + 1) : Nat) : Int) := by rw [wr (by omega)]; omega
    rw [w]
    simp only [Tree.ok]
    repeat (refine And.intro (by first | assumption | omega) ?_)
    refine brT_ok.2 ⟨fun g => ?_, fun g => ?_⟩
    · rw [show btr ps a b (a + 1 + m) (wrN ps a b m) = true from g, cond_true] at st
      refine ⟨m + 1, [], ?_, ?_, rfl, rfl, ?_⟩
      · show m + 1 ≤ b - (a + 1); omega
      · show b - (a + 1) - (m + 1) < b - (a + 1) - m; omega
      · unfold s_wst
        rw [st]
        repeat' (first | exact True.intro | exact rfl | exact fun _ => rfl | refine And.intro ?_ ?_)
    · rw [show btr ps a b (a + 1 + m) (wrN ps a b m) = false from g, cond_false] at st
      refine ⟨m + 1, [], ?_, ?_, rfl, rfl, ?_⟩
      · show m + 1 ≤ b - (a + 1); omega
      · show b - (a + 1) - (m + 1) < b - (a + 1) - m; omega
      · unfold s_wst
        rw [st]
        repeat' (first | exact True.intro | exact rfl | exact fun _ => rfl | refine And.intro ?_ ?_)
  · have hge := of_decide_eq_false hge
    obtain rfl : m = b - (a + 1) := by omega
    refine ⟨rfl, [], ?_⟩
    repeat' (first | exact True.intro | exact rfl | exact fun _ => rfl | refine And.intro ?_ ?_)
set_option maxRecDepth 100000 in
theorem lg_wst : LoopE Try.prog e_wst c_wst := by
  intro s k t F H hlt ht
  unfold e_wst at hlt
  split at hlt
  rotate_left
  · cases hlt
  rename_i hlen hpick hmem
  obtain ⟨tmps, mem⟩ := s
  simp only at hlen hpick hmem
  subst hmem
  obtain rfl := Option.some.inj hlt
  obtain ⟨⟨rfl, rfl, rfl, h0, h6, h7, h1, h2, h3, _⟩, ht2⟩ := needs_ok ht
  clear ht hlt
  obtain ⟨ps, rfl, rfl⟩ := even_flat h1
  obtain ⟨a, rfl⟩ := Int.eq_ofNat_of_zero_le h0.1
  obtain ⟨b, rfl⟩ := Int.eq_ofNat_of_zero_le h6.1
  rw [ptsA_flat] at ht2 h3
  simp only [Int.toNat_natCast] at ht2
  subst h7
  rw [show (Value.int .i64 0) = .int .i64 (dvN (gP ps a) (gP ps b) (gP ps (wrN ps a b 0))) by rw [show wrN ps a b 0 = a from rfl, (dv_at _ _).1], show (Value.int .i64 1) = .int .i64 (dvD (gP ps a) (gP ps b) (gP ps (wrN ps a b 0))) by rw [show wrN ps a b 0 = a from rfl, (dv_at _ _).2]] at *
  refine ⟨_, _, ht2, loop_run mixed ESm1_ok (s_wst ps a b) (inv_wst ps a b) (me_wst ps a b) re_wst (rs_wst ps a b) k_wst (fun _ => rfl) (noLoops nl_wst) (round_wst ps a b h2 h3 (by omega) (by omega)) (x := 0) (Nat.zero_le _) (π := []) rfl ?_⟩
  refine ⟨rfl, rfl, ?_, wvs_spread' [0, 1, 2, 7, 8, 9, 10] hlen rfl ?_⟩
  · repeat' (first | exact True.intro | exact rfl | exact wv_top _ _ | exact fun _ => rfl | assumption | exact Eq.symm (by assumption) | exact vI0 rfl | refine And.intro ?_ ?_)
  · rw [hpick]
    repeat' (first | exact True.intro | exact rfl | exact wv_top _ _ | exact fun _ => rfl | assumption | exact Eq.symm (by assumption) | exact vI0 rfl | refine And.intro ?_ ?_)
/-- A part of a path. -/
def subP (ps : List Pt) (lo n : Nat) : List Pt := (ps.drop lo).take n
def fS (A B P : Pt) : Int := scS A B P
theorem subP_len {ps : List Pt} {lo n : Nat} (h : lo + n ≤ ps.length) : (subP ps lo n).length = n := by unfold subP; simp; omega
theorem subP_get {ps : List Pt} {lo n i : Nat} (h : i < n) : (subP ps lo n).getD i (0, 0) = ps.getD (lo + i) (0, 0) := by
  unfold subP
  simp only [List.getD_eq_getElem?_getD]
  rw [List.getElem?_take, if_pos h, List.getElem?_drop]
noncomputable def c_flS : Code := ((loopsOf (codeOf Try.f110))[0]?).getD .skip
def k_flS : Ex → List Nat := keeps [1, 5, 6, 10, 11, 12] [(0, [5])] [4]
def s_flS (ps : List Pt) (lo n : Nat) (a b c d : Int) : Nat × Int × Int → St := fun (i, bb, m) => ⟨(topV :: .func (.func 111) #[.agg #[.int .i64 a, .int .i64 b, .int .i64 c, .int .i64 d]] #[] :: topV :: topV :: topV :: .int .i64 bb :: .int .i64 m :: topV :: topV :: topV :: .slice (some ⟨0, lo * 2, none⟩) n n :: .int .i64 n :: .int .i64 i :: topV :: topV :: topV :: topV :: topV :: topV :: topV :: topV :: topV :: topV :: topV :: topV :: topV :: topV :: topV :: topV :: topV :: topV :: []), [some ⟨.view, .ints (flat ps)⟩, none, none, none, some ⟨.box, .vals [.int .i64 a, .int .i64 b, .int .i64 c, .int .i64 d]⟩]⟩
def re_flS : Nat × Int × Int → Ex := fun _ => .exit 0
def rs_flS (ps : List Pt) (lo n : Nat) (a b c d : Int) : Nat × Int × Int → St := fun (i, bb, m) => ⟨(topV :: topV :: topV :: topV :: topV :: .int .i64 (fl (fS (a, b) (c, d)) (subP ps lo n) i bb) :: topV :: topV :: topV :: topV :: topV :: topV :: topV :: topV :: topV :: topV :: topV :: topV :: topV :: topV :: topV :: topV :: topV :: topV :: topV :: topV :: topV :: topV :: topV :: topV :: topV :: []), [some ⟨.view, .ints (flat ps)⟩, none, none, none, some ⟨.box, .vals [.int .i64 a, .int .i64 b, .int .i64 c, .int .i64 d]⟩]⟩
set_option maxRecDepth 100000 in
theorem tr_flS (ps : List Pt) (lo n : Nat) (a b c d : Int) (i : Nat) (bb m : Int) : bodyL Try.prog ESm1 30 12 noL 1 c_flS k_flS 5 (s_flS ps lo n a b c d (i, bb, m)) = brT (decide ((↑i : Int) < (↑n : Int))) (.need ((0 : Int) ≤ (↑i : Int) ∧ (↑i : Int) < (↑n : Int)) (.need (lo * (2 : Nat) + (↑i : Int).toNat * (2 : Nat) + (2 : Nat) ≤ (flat ps).length) (.need (ptB a b = true) (.need (ptB c d = true) (.need (ptB ((flat ps).getD (lo * (2 : Nat) + (↑i : Int).toNat * (2 : Nat)) (0 : Int)) ((flat ps).getD (lo * (2 : Nat) + (↑i : Int).toNat * (2 : Nat) + (1 : Nat)) (0 : Int)) = true) (brT (decide (bb < 0)) (.leaf .normal ⟨(topV :: .func (Fn.func 111) #[.agg #[.int .i64 (a), .int .i64 (b), .int .i64 (c), .int .i64 (d)]] #[] :: topV :: topV :: topV :: .int .i64 ((↑i : Int)) :: .int .i64 (scS (a, b) (c, d) ((flat ps).getD (lo * 2 + (↑i : Int).toNat * (2 : Nat)) 0, (flat ps).getD (lo * 2 + (↑i : Int).toNat * (2 : Nat) + 1) 0)) :: topV :: topV :: topV :: .slice (some ⟨0, lo * 2, none⟩) (n) (n) :: .int .i64 ((↑n : Int)) :: .int .i64 (IntKind.i64.wrap ((↑i : Int) + 1)) :: topV :: topV :: topV :: topV :: topV :: topV :: topV :: topV :: topV :: topV :: topV :: topV :: topV :: topV :: topV :: topV :: topV :: topV :: []), [some ⟨.view, .ints (flat ps)⟩, none, none, none, some ⟨.box, .vals [.int .i64 (a), .int .i64 (b), .int .i64 (c), .int .i64 (d)]⟩]⟩) (brT (decide (m < scS (a, b) (c, d) ((flat ps).getD (lo * 2 + (↑i : Int).toNat * (2 : Nat)) 0, (flat ps).getD (lo * 2 + (↑i : Int).toNat * (2 : Nat) + 1) 0))) (.leaf .normal ⟨(topV :: .func (Fn.func 111) #[.agg #[.int .i64 (a), .int .i64 (b), .int .i64 (c), .int .i64 (d)]] #[] :: topV :: topV :: topV :: .int .i64 ((↑i : Int)) :: .int .i64 (scS (a, b) (c, d) ((flat ps).getD (lo * 2 + (↑i : Int).toNat * (2 : Nat)) 0, (flat ps).getD (lo * 2 + (↑i : Int).toNat * (2 : Nat) + 1) 0)) :: topV :: topV :: topV :: .slice (some ⟨0, lo * 2, none⟩) (n) (n) :: .int .i64 ((↑n : Int)) :: .int .i64 (IntKind.i64.wrap ((↑i : Int) + 1)) :: topV :: topV :: topV :: topV :: topV :: topV :: topV :: topV :: topV :: topV :: topV :: topV :: topV :: topV :: topV :: topV :: topV :: topV :: []), [some ⟨.view, .ints (flat ps)⟩, none, none, none, some ⟨.box, .vals [.int .i64 (a), .int .i64 (b), .int .i64 (c), .int .i64 (d)]⟩]⟩) (.leaf .normal ⟨(topV :: .func (Fn.func 111) #[.agg #[.int .i64 (a), .int .i64 (b), .int .i64 (c), .int .i64 (d)]] #[] :: topV :: topV :: topV :: .int .i64 (bb) :: .int .i64 (m) :: topV :: topV :: topV :: .slice (some ⟨0, lo * 2, none⟩) (n) (n) :: .int .i64 ((↑n : Int)) :: .int .i64 (IntKind.i64.wrap ((↑i : Int) + 1)) :: topV :: topV :: topV :: topV :: topV :: topV :: topV :: topV :: topV :: topV :: topV :: topV :: topV :: topV :: topV :: topV :: topV :: topV :: []), [some ⟨.view, .ints (flat ps)⟩, none, none, none, some ⟨.box, .vals [.int .i64 (a), .int .i64 (b), .int .i64 (c), .int .i64 (d)]⟩]⟩)))))))) (.leaf (.exit 0) ⟨(topV :: topV :: topV :: topV :: topV :: .int .i64 (bb) :: topV :: topV :: topV :: topV :: topV :: topV :: topV :: topV :: topV :: topV :: topV :: topV :: topV :: topV :: topV :: topV :: topV :: topV :: topV :: topV :: topV :: topV :: topV :: topV :: topV :: []), [some ⟨.view, .ints (flat ps)⟩, none, none, none, some ⟨.box, .vals [.int .i64 (a), .int .i64 (b), .int .i64 (c), .int .i64 (d)]⟩]⟩) := by kernel_rfl
set_option maxRecDepth 100000 in
theorem nl_flS : loopsOf c_flS = [] := by kernel_rfl
def inv_flS (ps : List Pt) (lo n : Nat) (a b c d : Int) : Nat × Int × Int → Prop := fun (i, bb, m) => i ≤ n ∧ (bb = -1 ∨ 0 ≤ bb ∧ bb < i ∧ m = fS (a, b) (c, d) ((subP ps lo n).getD bb.toNat (0, 0)))
def me_flS (ps : List Pt) (lo n : Nat) (a b c d : Int) : Nat × Int × Int → Nat := fun (i, bb, m) => n - i
/-- A round of this loop. -/
def Round_flS (ps : List Pt) (lo n : Nat) (a b c d : Int) : Prop := ∀ xx : Nat × Int × Int, inv_flS ps lo n a b c d xx → (bodyL Try.prog ESm1 30 12 noL 1 c_flS k_flS 5 (s_flS ps lo n a b c d xx)).ok (RoundEnd 5 (s_flS ps lo n a b c d) (inv_flS ps lo n a b c d) (me_flS ps lo n a b c d) re_flS (rs_flS ps lo n a b c d) xx) (fun _ _ => False)
def e_flS (s : St) (k : Ex → St → Tree) : Option Tree := match Nat.beq s.tmps.length 31, pickL s.tmps [1, 5, 6, 10, 11, 12], s.mem with
  | true, [.func (.func 111) ⟨[.agg ⟨[.int .i64 a, .int .i64 b, .int .i64 c, .int .i64 d]⟩]⟩ ⟨[]⟩, .int .i64 bb, .int .i64 mm, .slice (some ⟨0, off, none⟩) n _, .int .i64 l, .int .i64 i], [some ⟨.view, .ints xs⟩, none, none, none, some ⟨.box, .vals [.int .i64 a2, .int .i64 b2, .int .i64 c2, .int .i64 d2]⟩] => some (needs [i = 0, bb = -1, mm = 0, l = n, a2 = a, b2 = b, c2 = c, d2 = d, xs.length % 2 = 0, off % 2 = 0, off + n * 2 ≤ xs.length, xs.length ≤ 2000, allV (ptsA (xs.length / 2) xs) = true, ptB a b = true, ptB c d = true] (k (.exit 0) ⟨(topV :: topV :: topV :: topV :: topV :: .int .i64 (fl (fS (a, b) (c, d)) (subP (ptsA (xs.length / 2) xs) (off / 2) n) 0 (-1)) :: topV :: topV :: topV :: topV :: topV :: topV :: topV :: topV :: topV :: topV :: topV :: topV :: topV :: topV :: topV :: topV :: topV :: topV :: topV :: topV :: topV :: topV :: topV :: topV :: topV :: []), [some ⟨.view, .ints xs⟩, none, none, none, some ⟨.box, .vals [.int .i64 a2, .int .i64 b2, .int .i64 c2, .int .i64 d2]⟩]⟩))
  | _, _, _ => none
set_option maxRecDepth 100000 in
theorem round_flS (ps : List Pt) (lo n : Nat) (a b c d : Int) (hl : ps.length ≤ 1000) (hv : allV ps = true) (hn : lo + n ≤ ps.length) (h5 : ptB a b = true) (h6 : ptB c d = true) : Round_flS ps lo n a b c d := by
  rintro ⟨i, bb, m⟩ ⟨h1, h2⟩
  rw [tr_flS]
  have qs := subP_len hn
  have ix : lo * 2 + i * 2 = (lo + i) * 2 := by omega
  simp only [Int.toNat_natCast, Nat.zero_add, flat_length, ix, flat_get0, flat_get1]
  refine brT_ok.2 ⟨fun hlt => ?_, fun hge => ?_⟩
  · have hlt := of_decide_eq_true hlt
    have hi : i < n := by omega
    have e := subP_get (ps := ps) (lo := lo) (n := n) hi
    rw [wsucc (n := n) hi (by omega)]
    have hf : fS (a, b) (c, d) ((subP ps lo n).getD i (0, 0)) = scS (a, b) (c, d) ((ps.getD (lo + i) (0, 0)).1, (ps.getD (lo + i) (0, 0)).2) := by rw [e]; rfl
    rw [← hf]
    have new : fl (fS (a, b) (c, d)) (subP ps lo n) i bb = fl (fS (a, b) (c, d)) (subP ps lo n) (i + 1) i → RoundEnd 5 (s_flS ps lo n a b c d) (inv_flS ps lo n a b c d) (me_flS ps lo n a b c d) re_flS (rs_flS ps lo n a b c d) (i, bb, m) .normal (s_flS ps lo n a b c d (i + 1, i, fS (a, b) (c, d) ((subP ps lo n).getD i (0, 0)))) := fun e => by
      refine ⟨(i + 1, i, fS (a, b) (c, d) ((subP ps lo n).getD i (0, 0))), [], ⟨by omega, .inr ⟨by omega, by omega, by rw [Int.toNat_natCast]⟩⟩, ?_, rfl, by simp only [rs_flS]; rw [e], ?_⟩
      · show n - (i + 1) < n - i; omega
      · repeat' (first | exact True.intro | exact rfl | exact fun _ => rfl | refine And.intro ?_ ?_)
    simp only [Tree.ok]
    refine ⟨by omega, by omega, h5, h6, allV_at hv (by omega), brT_ok.2 ⟨fun hb => ?_, fun hb => brT_ok.2 ⟨fun hle => ?_, fun hle => ?_⟩⟩⟩
    · exact new (fl_first (by omega) (of_decide_eq_true hb))
    · have hb := of_decide_eq_false hb
      obtain ⟨g1, g2, g3⟩ := h2.resolve_left (by omega)
      exact new (fl_yes (by omega) g1 (by rw [← g3]; exact of_decide_eq_true hle))
    · have hb := of_decide_eq_false hb
      obtain ⟨g1, g2, g3⟩ := h2.resolve_left (by omega)
      refine ⟨(i + 1, bb, m), [], ⟨by omega, .inr ⟨by omega, by omega, g3⟩⟩, ?_, rfl, by simp only [rs_flS]; rw [fl_no (i := i) (by omega) g1 (by rw [← g3]; exact of_decide_eq_false hle)], ?_⟩
      · show n - (i + 1) < n - i; omega
      · repeat' (first | exact True.intro | exact rfl | exact fun _ => rfl | refine And.intro ?_ ?_)
  · have hge := of_decide_eq_false hge
    refine ⟨rfl, [], ?_⟩
    simp only [rs_flS, fl_end (f := fS (a, b) (c, d)) (ps := subP ps lo n) (i := i) (by omega) (b := bb) (h2.imp id fun h => h.1)]
    repeat' (first | exact True.intro | exact rfl | exact fun _ => rfl | refine And.intro ?_ ?_)
set_option maxRecDepth 100000 in
theorem lg_flS : LoopE Try.prog e_flS c_flS := by
  intro s k t F H hlt ht
  unfold e_flS at hlt
  split at hlt
  rotate_left
  · cases hlt
  rename_i hlen hpick hmem
  obtain ⟨tmps, mem⟩ := s
  simp only at hlen hpick hmem
  subst hmem
  obtain rfl := Option.some.inj hlt
  obtain ⟨⟨rfl, rfl, rfl, rfl, rfl, rfl, rfl, rfl, h1, h0, h3, h2, h4, h5, h6, _⟩, ht2⟩ := needs_ok ht
  clear ht hlt
  rename_i off n c1 xs aa bb cc dd rr
  obtain ⟨N, hN⟩ : ∃ N, xs.length = N * 2 := ⟨xs.length / 2, by omega⟩
  obtain ⟨ps, rfl, rfl⟩ := even_flat hN
  obtain ⟨lo, rfl⟩ : ∃ lo, off = lo * 2 := ⟨off / 2, by omega⟩
  rw [show (flat ps).length / 2 = ps.length by rw [flat_length]; omega, ptsA_flat] at h4 ht2
  rw [show lo * 2 / 2 = lo by omega] at ht2
  rw [flat_length] at h3 h2
  refine ⟨_, _, ht2, loop_run mixed ESm1_ok (s_flS ps lo _ _ _ _ _) (inv_flS ps lo _ _ _ _ _) (me_flS ps lo _ _ _ _ _) re_flS (rs_flS ps lo _ _ _ _ _) k_flS (fun _ => rfl) (noLoops nl_flS) (round_flS ps lo _ _ _ _ _ (by omega) h4 (by omega) h5 h6) (x := (0, -1, 0)) ⟨Nat.zero_le _, .inl rfl⟩ (π := []) rfl ?_⟩
  refine ⟨rfl, rfl, ?_, wvs_spread' [1, 5, 6, 10, 11, 12] hlen rfl ?_⟩
  · repeat' (first | exact True.intro | exact rfl | exact wv_top _ _ | exact fun _ => rfl | assumption | exact Eq.symm (by assumption) | exact vI0 rfl | refine And.intro ?_ ?_)
  · rw [hpick]
    repeat' (first | exact True.intro | exact rfl | exact wv_top _ _ | exact fun _ => rfl | assumption | exact Eq.symm (by assumption) | exact vI0 rfl | refine And.intro ?_ ?_)
theorem Lr_wst {fn : Func} (hf : Try.prog.funcs[113]? = some fn) : LoopsGood Try.prog (lt1 e_wst) 0 (codeOf fn) := by
  obtain rfl := fn_is Try.func113 hf
  exact lt1_good lg_wst
theorem Lr_flS {fn : Func} (hf : Try.prog.funcs[110]? = some fn) : LoopsGood Try.prog (lt1 e_flS) 0 (codeOf fn) := by
  obtain rfl := fn_is Try.func110 hf
  exact lt1_good lg_flS
def LSmb : FuncId → LT := fun f => match f with
  | 113 => lt1 e_wst
  | 110 => lt1 e_flS
  | _ => noL
def ESm2 : Env := mkE TSm1 R4 LSmb
theorem ESm2_ok : EnvOk Try.prog ESm2 := mkEOk TSm1_ok R4_ok (by
  intro f fn hf
  unfold LSmb
  split
  all_goals first | with_reducible exact Lr_wst hf | with_reducible exact Lr_flS hf | exact noL_good)
set_option maxRecDepth 100000 in
theorem tr_wstF (ps : List Pt) (a b : Int) : bodyV Try.prog ESm2 30 12 113 [.row ps.length (.ints (flat ps)), .v (iv a), .v (iv b)] = .need (a = a) (.need ((0 : Int) = (0 : Int)) (.need ((1 : Int) = (1 : Int)) (.need ((0 : Int) ≤ a ∧ a < (↑ps.length : Int)) (.need ((0 : Int) ≤ b ∧ b < (↑ps.length : Int)) (.need (IntKind.i64.wrap (a + (1 : Int)) = a + (1 : Int)) (.need ((flat ps).length = ps.length * (2 : Nat)) (.need (ps.length ≤ (1000 : Nat)) (.need (allV (ptsA ps.length (flat ps)) = true) (.fin (.int .i64 ((↑(wrN (ptsA ps.length (flat ps)) a.toNat b.toNat (b.toNat - (a.toNat + 1))) : Int))) []))))))))) := by kernel_rfl
set_option maxRecDepth 100000 in
theorem tr_farF (ps : List Pt) (a b m : Int) : bodyV Try.prog ESm2 30 12 69 [.row ps.length (.ints (flat ps)), .v (iv a), .v (iv b), .v (iv m)] = .need ((0 : Int) ≤ a ∧ a < (↑ps.length : Int)) (.need ((0 : Nat) + a.toNat * (2 : Nat) + (2 : Nat) ≤ (flat ps).length) (.need ((0 : Int) ≤ b ∧ b < (↑ps.length : Int)) (.need ((0 : Nat) + b.toNat * (2 : Nat) + (2 : Nat) ≤ (flat ps).length) (.need ((0 : Int) ≤ bndI (some (IntKind.i64, IntKind.i64.wrap (a + (1 : Int)))) (0 : Int) ∧ bndI (some (IntKind.i64, IntKind.i64.wrap (a + (1 : Int)))) (0 : Int) ≤ bndI (some (IntKind.i64, b)) (↑ps.length : Int) ∧ bndI (some (IntKind.i64, b)) (↑ps.length : Int) ≤ (↑ps.length : Int)) (.need ((0 : Int) = (0 : Int)) (.need ((-1 : Int) = (-1 : Int)) (.need ((0 : Int) = (0 : Int)) (.need ((↑((bndI (some (IntKind.i64, b)) (↑ps.length : Int)).toNat - (bndI (some (IntKind.i64, IntKind.i64.wrap (a + (1 : Int)))) (0 : Int)).toNat) : Int) = (↑((bndI (some (IntKind.i64, b)) (↑ps.length : Int)).toNat - (bndI (some (IntKind.i64, IntKind.i64.wrap (a + (1 : Int)))) (0 : Int)).toNat) : Int)) (.need ((flat ps).getD ((0 : Nat) + a.toNat * (2 : Nat)) (0 : Int) = (flat ps).getD ((0 : Nat) + a.toNat * (2 : Nat)) (0 : Int)) (.need ((flat ps).getD ((0 : Nat) + a.toNat * (2 : Nat) + (1 : Nat)) (0 : Int) = (flat ps).getD ((0 : Nat) + a.toNat * (2 : Nat) + (1 : Nat)) (0 : Int)) (.need ((flat ps).getD ((0 : Nat) + b.toNat * (2 : Nat)) (0 : Int) = (flat ps).getD ((0 : Nat) + b.toNat * (2 : Nat)) (0 : Int)) (.need ((flat ps).getD ((0 : Nat) + b.toNat * (2 : Nat) + (1 : Nat)) (0 : Int) = (flat ps).getD ((0 : Nat) + b.toNat * (2 : Nat) + (1 : Nat)) (0 : Int)) (.need ((flat ps).length % (2 : Nat) = (0 : Nat)) (.need (((0 : Nat) + (bndI (some (IntKind.i64, IntKind.i64.wrap (a + (1 : Int)))) (0 : Int)).toNat * (2 : Nat)) % (2 : Nat) = (0 : Nat)) (.need ((0 : Nat) + (bndI (some (IntKind.i64, IntKind.i64.wrap (a + (1 : Int)))) (0 : Int)).toNat * (2 : Nat) + ((bndI (some (IntKind.i64, b)) (↑ps.length : Int)).toNat - (bndI (some (IntKind.i64, IntKind.i64.wrap (a + (1 : Int)))) (0 : Int)).toNat) * (2 : Nat) ≤ (flat ps).length) (.need ((flat ps).length ≤ (2000 : Nat)) (.need (allV (ptsA ((flat ps).length / (2 : Nat)) (flat ps)) = true) (.need (ptB ((flat ps).getD ((0 : Nat) + a.toNat * (2 : Nat)) (0 : Int)) ((flat ps).getD ((0 : Nat) + a.toNat * (2 : Nat) + (1 : Nat)) (0 : Int)) = true) (.need (ptB ((flat ps).getD ((0 : Nat) + b.toNat * (2 : Nat)) (0 : Int)) ((flat ps).getD ((0 : Nat) + b.toNat * (2 : Nat) + (1 : Nat)) (0 : Int)) = true) (brT (decide (fl (fS ((flat ps).getD (0 + a.toNat * (2 : Nat)) 0, (flat ps).getD (0 + a.toNat * (2 : Nat) + 1) 0) ((flat ps).getD (0 + b.toNat * (2 : Nat)) 0, (flat ps).getD (0 + b.toNat * (2 : Nat) + 1) 0)) (subP (ptsA ((flat ps).length / 2) (flat ps)) ((0 + (bndI (some (IntKind.i64, IntKind.i64.wrap (a + 1))) 0).toNat * 2) / 2) ((bndI (some (IntKind.i64, b)) (↑ps.length : Int)).toNat - (bndI (some (IntKind.i64, IntKind.i64.wrap (a + 1))) 0).toNat)) 0 (-1) < 0)) (.fin (.tuple #[.int .i64 (0), .bool (false)]) []) (.need (ptB ((flat ps).getD ((0 : Nat) + a.toNat * (2 : Nat)) (0 : Int)) ((flat ps).getD ((0 : Nat) + a.toNat * (2 : Nat) + (1 : Nat)) (0 : Int)) = true) (.need (ptB ((flat ps).getD ((0 : Nat) + b.toNat * (2 : Nat)) (0 : Int)) ((flat ps).getD ((0 : Nat) + b.toNat * (2 : Nat) + (1 : Nat)) (0 : Int)) = true) (.need (ptB ((flat ps).getD ((0 : Nat) + (bndI (some (IntKind.i64, IntKind.i64.wrap (a + (1 : Int)))) (0 : Int)).toNat * (2 : Nat) + (fl (fS ((flat ps).getD ((0 : Nat) + a.toNat * (2 : Nat)) (0 : Int), (flat ps).getD ((0 : Nat) + a.toNat * (2 : Nat) + (1 : Nat)) (0 : Int)) ((flat ps).getD ((0 : Nat) + b.toNat * (2 : Nat)) (0 : Int), (flat ps).getD ((0 : Nat) + b.toNat * (2 : Nat) + (1 : Nat)) (0 : Int))) (subP (ptsA ((flat ps).length / (2 : Nat)) (flat ps)) (((0 : Nat) + (bndI (some (IntKind.i64, IntKind.i64.wrap (a + (1 : Int)))) (0 : Int)).toNat * (2 : Nat)) / (2 : Nat)) ((bndI (some (IntKind.i64, b)) (↑ps.length : Int)).toNat - (bndI (some (IntKind.i64, IntKind.i64.wrap (a + (1 : Int)))) (0 : Int)).toNat)) (0 : Nat) (-1 : Int)).toNat * (2 : Nat)) (0 : Int)) ((flat ps).getD ((0 : Nat) + (bndI (some (IntKind.i64, IntKind.i64.wrap (a + (1 : Int)))) (0 : Int)).toNat * (2 : Nat) + (fl (fS ((flat ps).getD ((0 : Nat) + a.toNat * (2 : Nat)) (0 : Int), (flat ps).getD ((0 : Nat) + a.toNat * (2 : Nat) + (1 : Nat)) (0 : Int)) ((flat ps).getD ((0 : Nat) + b.toNat * (2 : Nat)) (0 : Int), (flat ps).getD ((0 : Nat) + b.toNat * (2 : Nat) + (1 : Nat)) (0 : Int))) (subP (ptsA ((flat ps).length / (2 : Nat)) (flat ps)) (((0 : Nat) + (bndI (some (IntKind.i64, IntKind.i64.wrap (a + (1 : Int)))) (0 : Int)).toNat * (2 : Nat)) / (2 : Nat)) ((bndI (some (IntKind.i64, b)) (↑ps.length : Int)).toNat - (bndI (some (IntKind.i64, IntKind.i64.wrap (a + (1 : Int)))) (0 : Int)).toNat)) (0 : Nat) (-1 : Int)).toNat * (2 : Nat) + (1 : Nat)) (0 : Int)) = true) (.need (ptB ((flat ps).getD ((0 : Nat) + a.toNat * (2 : Nat)) (0 : Int)) ((flat ps).getD ((0 : Nat) + a.toNat * (2 : Nat) + (1 : Nat)) (0 : Int)) = true) (.need (ptB ((flat ps).getD ((0 : Nat) + b.toNat * (2 : Nat)) (0 : Int)) ((flat ps).getD ((0 : Nat) + b.toNat * (2 : Nat) + (1 : Nat)) (0 : Int)) = true) (.need ((0 : Int) ≤ fl (fS ((flat ps).getD ((0 : Nat) + a.toNat * (2 : Nat)) (0 : Int), (flat ps).getD ((0 : Nat) + a.toNat * (2 : Nat) + (1 : Nat)) (0 : Int)) ((flat ps).getD ((0 : Nat) + b.toNat * (2 : Nat)) (0 : Int), (flat ps).getD ((0 : Nat) + b.toNat * (2 : Nat) + (1 : Nat)) (0 : Int))) (subP (ptsA ((flat ps).length / (2 : Nat)) (flat ps)) (((0 : Nat) + (bndI (some (IntKind.i64, IntKind.i64.wrap (a + (1 : Int)))) (0 : Int)).toNat * (2 : Nat)) / (2 : Nat)) ((bndI (some (IntKind.i64, b)) (↑ps.length : Int)).toNat - (bndI (some (IntKind.i64, IntKind.i64.wrap (a + (1 : Int)))) (0 : Int)).toNat)) (0 : Nat) (-1 : Int) ∧ fl (fS ((flat ps).getD ((0 : Nat) + a.toNat * (2 : Nat)) (0 : Int), (flat ps).getD ((0 : Nat) + a.toNat * (2 : Nat) + (1 : Nat)) (0 : Int)) ((flat ps).getD ((0 : Nat) + b.toNat * (2 : Nat)) (0 : Int), (flat ps).getD ((0 : Nat) + b.toNat * (2 : Nat) + (1 : Nat)) (0 : Int))) (subP (ptsA ((flat ps).length / (2 : Nat)) (flat ps)) (((0 : Nat) + (bndI (some (IntKind.i64, IntKind.i64.wrap (a + (1 : Int)))) (0 : Int)).toNat * (2 : Nat)) / (2 : Nat)) ((bndI (some (IntKind.i64, b)) (↑ps.length : Int)).toNat - (bndI (some (IntKind.i64, IntKind.i64.wrap (a + (1 : Int)))) (0 : Int)).toNat)) (0 : Nat) (-1 : Int) < (↑((bndI (some (IntKind.i64, b)) (↑ps.length : Int)).toNat - (bndI (some (IntKind.i64, IntKind.i64.wrap (a + (1 : Int)))) (0 : Int)).toNat) : Int)) (.need ((0 : Nat) + (bndI (some (IntKind.i64, IntKind.i64.wrap (a + (1 : Int)))) (0 : Int)).toNat * (2 : Nat) + (fl (fS ((flat ps).getD ((0 : Nat) + a.toNat * (2 : Nat)) (0 : Int), (flat ps).getD ((0 : Nat) + a.toNat * (2 : Nat) + (1 : Nat)) (0 : Int)) ((flat ps).getD ((0 : Nat) + b.toNat * (2 : Nat)) (0 : Int), (flat ps).getD ((0 : Nat) + b.toNat * (2 : Nat) + (1 : Nat)) (0 : Int))) (subP (ptsA ((flat ps).length / (2 : Nat)) (flat ps)) (((0 : Nat) + (bndI (some (IntKind.i64, IntKind.i64.wrap (a + (1 : Int)))) (0 : Int)).toNat * (2 : Nat)) / (2 : Nat)) ((bndI (some (IntKind.i64, b)) (↑ps.length : Int)).toNat - (bndI (some (IntKind.i64, IntKind.i64.wrap (a + (1 : Int)))) (0 : Int)).toNat)) (0 : Nat) (-1 : Int)).toNat * (2 : Nat) + (2 : Nat) ≤ (flat ps).length) (brT (decide (scS ((flat ps).getD (0 + a.toNat * (2 : Nat)) 0, (flat ps).getD (0 + a.toNat * (2 : Nat) + 1) 0) ((flat ps).getD (0 + b.toNat * (2 : Nat)) 0, (flat ps).getD (0 + b.toNat * (2 : Nat) + 1) 0) ((flat ps).getD (0 + (bndI (some (IntKind.i64, IntKind.i64.wrap (a + 1))) 0).toNat * Try.prog.types[44].size + (fl (fS ((flat ps).getD (0 + a.toNat * (2 : Nat)) 0, (flat ps).getD (0 + a.toNat * (2 : Nat) + 1) 0) ((flat ps).getD (0 + b.toNat * (2 : Nat)) 0, (flat ps).getD (0 + b.toNat * (2 : Nat) + 1) 0)) (subP (ptsA ((flat ps).length / 2) (flat ps)) ((0 + (bndI (some (IntKind.i64, IntKind.i64.wrap (a + 1))) 0).toNat * Try.prog.types[44].size) / 2) ((bndI (some (IntKind.i64, b)) (↑ps.length : Int)).toNat - (bndI (some (IntKind.i64, IntKind.i64.wrap (a + 1))) 0).toNat)) 0 (-1)).toNat * (2 : Nat)) 0, (flat ps).getD (0 + (bndI (some (IntKind.i64, IntKind.i64.wrap (a + 1))) 0).toNat * Try.prog.types[44].size + (fl (fS ((flat ps).getD (0 + a.toNat * (2 : Nat)) 0, (flat ps).getD (0 + a.toNat * (2 : Nat) + 1) 0) ((flat ps).getD (0 + b.toNat * (2 : Nat)) 0, (flat ps).getD (0 + b.toNat * (2 : Nat) + 1) 0)) (subP (ptsA ((flat ps).length / 2) (flat ps)) ((0 + (bndI (some (IntKind.i64, IntKind.i64.wrap (a + 1))) 0).toNat * Try.prog.types[44].size) / 2) ((bndI (some (IntKind.i64, b)) (↑ps.length : Int)).toNat - (bndI (some (IntKind.i64, IntKind.i64.wrap (a + 1))) 0).toNat)) 0 (-1)).toNat * (2 : Nat) + 1) 0) ≤ IntKind.i64.wrap (m * sclP ((flat ps).getD (0 + a.toNat * (2 : Nat)) 0, (flat ps).getD (0 + a.toNat * (2 : Nat) + 1) 0) ((flat ps).getD (0 + b.toNat * (2 : Nat)) 0, (flat ps).getD (0 + b.toNat * (2 : Nat) + 1) 0)))) (.fin (.tuple #[.int .i64 (0), .bool (false)]) []) (.fin (.tuple #[.int .i64 (IntKind.i64.wrap (IntKind.i64.wrap (a + 1) + fl (fS ((flat ps).getD (0 + a.toNat * (2 : Nat)) 0, (flat ps).getD (0 + a.toNat * (2 : Nat) + 1) 0) ((flat ps).getD (0 + b.toNat * (2 : Nat)) 0, (flat ps).getD (0 + b.toNat * (2 : Nat) + 1) 0)) (subP (ptsA ((flat ps).length / 2) (flat ps)) ((0 + (bndI (some (IntKind.i64, IntKind.i64.wrap (a + 1))) 0).toNat * 2) / 2) ((bndI (some (IntKind.i64, b)) (↑ps.length : Int)).toNat - (bndI (some (IntKind.i64, IntKind.i64.wrap (a + 1))) 0).toNat)) 0 (-1))), .bool (true)]) []))))))))))))))))))))))))))))) := by kernel_rfl
end Go.Proofs.Ytolodncpegajkab
namespace Go.Proofs.Ytolodncpegajkab
set_option linter.all false
open Go.RowKit
def wrK (ps : List Pt) (a b : Nat) : Nat := wrN ps a b (b - (a + 1))
theorem wrK_bd (ps : List Pt) {a b : Nat} (h : a < b) : a ≤ wrK ps a b ∧ wrK ps a b < b := by
  have := wrN_bd ps a b (b - (a + 1))
  unfold wrK
  omega
/-- Is no point between two others to be kept? -/
def stpB (ps : List Pt) (a b : Nat) (most : Int) : Bool := decide (wrK ps a b = a) || decide (dvN (gP ps a) (gP ps b) (gP ps (wrK ps a b)) ≤ most * dvD (gP ps a) (gP ps b) (gP ps (wrK ps a b)))
def mxN (f : Pt → Int) (qs : List Pt) : Nat → Nat
  | 0 => 0
  | m + 1 => if f (qs.getD (mxN f qs m) (0, 0)) < f (qs.getD m (0, 0)) then m else mxN f qs m
theorem mxN_st (f : Pt → Int) (qs : List Pt) (m : Nat) : mxN f qs (m + 1) = if f (qs.getD (mxN f qs m) (0, 0)) < f (qs.getD m (0, 0)) then m else mxN f qs m := rfl
theorem mxN_lt (f : Pt → Int) (qs : List Pt) : ∀ m, 0 < m → mxN f qs m < m
  | 0, h => by omega
  | m + 1, _ => by
    rcases Nat.eq_zero_or_pos m with rfl | h
    · rw [mxN_st]; split <;> simp [mxN]
    · have := mxN_lt f qs m h
      rw [mxN_st]; split <;> omega
theorem mxN_one (f : Pt → Int) (qs : List Pt) : mxN f qs 1 = 0 := by rw [mxN_st]; split <;> simp [mxN]
theorem ag_mxN (f : Pt → Int) (qs : List Pt) : ∀ m i, ag f qs m i (mxN f qs i) = mxN f qs (i + m)
  | 0, i => rfl
  | m + 1, i => by
    have := ag_mxN f qs m (i + 1)
    rw [show i + (m + 1) = i + 1 + m by omega, ← this]
    rfl
theorem fl_mxN {f : Pt → Int} {qs : List Pt} (h : 0 < qs.length) : fl f qs 0 (-1) = (mxN f qs qs.length : Nat) := by
  have e : ∀ n i b : Nat, i + n = qs.length → b < i → fl f qs i b = (ag f qs n i b : Nat) := by
    intro n
    induction n with
    | zero => intro i b h1 h2; rw [fl_end (by omega) (.inr (by omega))]; rfl
    | succ n ih =>
      intro i b h1 h2
      by_cases hlt : f (qs.getD b (0, 0)) < f (qs.getD i (0, 0))
      · rw [fl_yes (by omega) (by omega) (by rw [Int.toNat_natCast]; exact hlt), ih (i + 1) i (by omega) (by omega)]
        simp only [ag, hlt, if_true]
      · rw [fl_no (by omega) (by omega) (by rw [Int.toNat_natCast]; exact hlt), ih (i + 1) b (by omega) (by omega)]
        simp only [ag, hlt, if_false]
  have h1 := fl_first (f := f) (ps := qs) (i := 0) h (b := -1) (by omega)
  rw [h1]
  have := e (qs.length - 1) 1 0 (by omega) (by omega)
  rw [show (0 + 1 : Nat) = 1 from rfl, this]
  have k := ag_mxN f qs (qs.length - 1) 1
  rw [mxN_one, show 1 + (qs.length - 1) = qs.length by omega] at k
  rw [k]
theorem mul_lt_iff {x y s : Int} (h : 1 ≤ s) : x * s < y * s ↔ x < y := ⟨fun hh => Int.lt_of_mul_lt_mul_right hh (by omega), fun hh => Int.mul_lt_mul_of_pos_right hh (by omega)⟩
theorem mul_le_iff {x y s : Int} (h : 1 ≤ s) : x * s ≤ y * s ↔ x ≤ y := by
  have := mul_lt_iff (x := y) (y := x) h
  omega
theorem btr_sc {ps : List Pt} (hv : allV ps = true) (a b k j : Nat) : btr ps a b k j = decide (scS (gP ps a) (gP ps b) (gP ps j) < scS (gP ps a) (gP ps b) (gP ps k)) := by
  have e1 := sc_dv (gP ps a) (gP ps b) (gP ps j)
  have e2 := sc_dv (gP ps a) (gP ps b) (gP ps k)
  have d1 := (dv_bd (gP_v hv a) (gP_v hv b) (gP_v hv j)).2
  have d2 := (dv_bd (gP_v hv a) (gP_v hv b) (gP_v hv k)).2
  have s := scl_pos (gP ps a) (gP ps b)
  unfold btr
  refine decide_eq_decide.2 ?_
  generalize scS (gP ps a) (gP ps b) (gP ps j) = Fj at *
  generalize scS (gP ps a) (gP ps b) (gP ps k) = Fk at *
  generalize dvN (gP ps a) (gP ps b) (gP ps j) = Nj at *
  generalize dvN (gP ps a) (gP ps b) (gP ps k) = Nk at *
  generalize dvD (gP ps a) (gP ps b) (gP ps j) = Dj at *
  generalize dvD (gP ps a) (gP ps b) (gP ps k) = Dk at *
  generalize sclP (gP ps a) (gP ps b) = S at *
  rw [← mul_lt_iff (x := Nj * Dk) s, ← mul_lt_iff (x := Fj) (s := Dj * Dk) (by have := Int.mul_pos (a := Dj) (b := Dk) (by omega) (by omega); omega)]
  have k1 : Nj * Dk * S = Fj * (Dj * Dk) := by
    calc Nj * Dk * S = Nj * S * Dk := by grind
      _ = Fj * (Dj * Dk) := by rw [← e1]; grind
  have k2 : Nk * Dj * S = Fk * (Dj * Dk) := by
    calc Nk * Dj * S = Nk * S * Dj := by grind
      _ = Fk * (Dj * Dk) := by rw [← e2]; grind
  rw [k1, k2]
theorem sc_at (A B : Pt) : scS A B A = 0 := by
  have := sc_dv A B A
  rw [(dv_at A B).1, (dv_at A B).2] at this
  omega
theorem sc_nn {A B P : Pt} (ha : vP A) (hb : vP B) (hp : vP P) : 0 ≤ scS A B P := by
  have e := sc_dv A B P
  obtain ⟨n, d⟩ := dv_bd ha hb hp
  have s := scl_pos A B
  have : 0 ≤ dvN A B P * sclP A B := Int.mul_nonneg n.1 (by omega)
  rw [← e] at this
  exact Int.le_of_not_gt fun h => by
    have := Int.mul_neg_of_neg_of_pos h (show 0 < dvD A B P by omega)
    omega
theorem wr_mx {ps : List Pt} (hv : allV ps = true) {a b n : Nat} (hn : a + 1 + n ≤ ps.length) : ∀ m, 1 ≤ m → m ≤ n → wrN ps a b m = if 0 < scS (gP ps a) (gP ps b) (gP ps (a + 1 + mxN (fS (gP ps a) (gP ps b)) (subP ps (a + 1) n) m)) then a + 1 + mxN (fS (gP ps a) (gP ps b)) (subP ps (a + 1) n) m else a
  | 0, h, _ => by omega
  | m + 1, _, hm => by
    have get : ∀ i, i < n → (subP ps (a + 1) n).getD i (0, 0) = gP ps (a + 1 + i) := fun i hi => subP_get hi
    have nn := fun j => sc_nn (gP_v hv a) (gP_v hv b) (gP_v hv j)
    rw [wrN_st, btr_sc hv]
    rcases Nat.eq_zero_or_pos m with rfl | hp
    · rw [mxN_one, show wrN ps a b 0 = a from rfl, sc_at]
      by_cases h : 0 < scS (gP ps a) (gP ps b) (gP ps (a + 1 + 0))
      · rw [decide_eq_true h, cond_true, if_pos h]
      · rw [decide_eq_false h, cond_false, if_neg h]
    · have ih := wr_mx hv (b := b) hn m hp (by omega)
      have hlt := mxN_lt (fS (gP ps a) (gP ps b)) (subP ps (a + 1) n) m hp
      have st := mxN_st (fS (gP ps a) (gP ps b)) (subP ps (a + 1) n) m
      rw [get _ (by omega), get _ (by omega)] at st
      rw [ih]
      generalize mxN (fS (gP ps a) (gP ps b)) (subP ps (a + 1) n) m = i at *
      have n1 := nn (a + 1 + i)
      have n2 := nn (a + 1 + m)
      have fe : ∀ P, fS (gP ps a) (gP ps b) P = scS (gP ps a) (gP ps b) P := fun _ => rfl
      rw [fe, fe] at st
      by_cases g : scS (gP ps a) (gP ps b) (gP ps (a + 1 + i)) < scS (gP ps a) (gP ps b) (gP ps (a + 1 + m))
      · rw [if_pos g] at st
        rw [st, if_pos (show 0 < scS (gP ps a) (gP ps b) (gP ps (a + 1 + m)) by omega)]
        have : scS (gP ps a) (gP ps b) (gP ps (if 0 < scS (gP ps a) (gP ps b) (gP ps (a + 1 + i)) then a + 1 + i else a)) < scS (gP ps a) (gP ps b) (gP ps (a + 1 + m)) := by
          split
          · exact g
          · rw [sc_at]; omega
        rw [decide_eq_true this, cond_true]
      · rw [if_neg g] at st
        rw [st]
        have : ¬ scS (gP ps a) (gP ps b) (gP ps (if 0 < scS (gP ps a) (gP ps b) (gP ps (a + 1 + i)) then a + 1 + i else a)) < scS (gP ps a) (gP ps b) (gP ps (a + 1 + m)) := by
          split
          · exact g
          · rw [sc_at]; omega
        rw [decide_eq_false this, cond_false]
theorem res_wst {ps : List Pt} {a b : Nat} (hl : ps.length ≤ 1000) (hv : allV ps = true) (ha : a < ps.length) (hb : b < ps.length) : Res Try.prog 113 [.row ps.length (.ints (flat ps)), .v (iv a), .v (iv b)] (iv (wrK ps a b)) := by
  refine bodyV_res mixed ESm2_ok (m := 30) (n := 12) rfl ?_
  rw [tr_wstF]
  have w : IntKind.i64.wrap ((a : Int) + 1) = (a : Int) + 1 := wr (by omega)
  have f := flat_length ps
  simp only [ptsA_flat, Int.toNat_natCast, Tree.ok]
  repeat' (first | exact True.intro | exact rfl | assumption | omega | refine And.intro ?_ ?_)
def farV (ps : List Pt) (a b : Nat) (most : Int) : Value := .tuple #[iv (bif stpB ps a b most then 0 else wrK ps a b), .bool (!(stpB ps a b most))]
/-- When the program keeps no point. -/
theorem stp_is {ps : List Pt} (hv : allV ps = true) {a b : Nat} (hab : a < b) (hb : b < ps.length) {most : Int} (hm : 0 ≤ most) {i : Nat} (hi : i = mxN (fS (gP ps a) (gP ps b)) (subP ps (a + 1) (b - (a + 1))) (b - (a + 1))) (hn : 1 ≤ b - (a + 1)) :
    stpB ps a b most = decide (scS (gP ps a) (gP ps b) (gP ps (a + 1 + i)) ≤ most * sclP (gP ps a) (gP ps b)) ∧ (stpB ps a b most = false → wrK ps a b = a + 1 + i) := by
  have wm := wr_mx hv (a := a) (b := b) (n := b - (a + 1)) (by omega) (b - (a + 1)) hn (Nat.le_refl _)
  rw [← hi] at wm
  change wrK ps a b = _ at wm
  have s := scl_pos (gP ps a) (gP ps b)
  have nn := sc_nn (gP_v hv a) (gP_v hv b) (gP_v hv (a + 1 + i))
  have ms : 0 ≤ most * sclP (gP ps a) (gP ps b) := Int.mul_nonneg hm (by omega)
  unfold stpB
  by_cases h : 0 < scS (gP ps a) (gP ps b) (gP ps (a + 1 + i))
  · rw [if_pos h] at wm
    rw [wm, decide_eq_false (show ¬ a + 1 + i = a by omega), Bool.false_or]
    refine ⟨decide_eq_decide.2 ?_, fun _ => rfl⟩
    have e := sc_dv (gP ps a) (gP ps b) (gP ps (a + 1 + i))
    have d := (dv_bd (gP_v hv a) (gP_v hv b) (gP_v hv (a + 1 + i))).2
    generalize scS (gP ps a) (gP ps b) (gP ps (a + 1 + i)) = F at *
    generalize dvN (gP ps a) (gP ps b) (gP ps (a + 1 + i)) = N at *
    generalize dvD (gP ps a) (gP ps b) (gP ps (a + 1 + i)) = D at *
    generalize sclP (gP ps a) (gP ps b) = S at *
    rw [← mul_le_iff (x := N) s, ← mul_le_iff (x := F) (s := D) (by omega), e, show most * D * S = most * S * D by grind]
  · rw [if_neg h] at wm
    rw [wm, decide_eq_true rfl, Bool.true_or, decide_eq_true (by omega)]
    exact ⟨rfl, fun hh => by cases hh⟩
set_option maxRecDepth 100000 in
set_option maxHeartbeats 4000000 in
theorem res_far {ps : List Pt} {a b : Nat} {most : Int} (hl : ps.length ≤ 1000) (hv : allV ps = true) (hab : a < b) (hb : b < ps.length) (hm : 0 ≤ most ∧ most ≤ 8000000) : Res Try.prog 69 [.row ps.length (.ints (flat ps)), .v (iv a), .v (iv b), .v (iv most)] (farV ps a b most) := by
  refine bodyV_res mixed ESm2_ok (m := 30) (n := 12) rfl ?_
  rw [tr_farF]
  have w : IntKind.i64.wrap ((a : Int) + 1) = ((a + 1 : Nat) : Int) := by rw [wr (by omega)]; omega
  have f := flat_length ps
  have f2 : ps.length * 2 / 2 = ps.length := by omega
  have hsz : Try.prog.types[(44 : Nat)].size = 2 := by kernel_rfl
  have f3 : (a + 1) * 2 / 2 = a + 1 := by omega
  simp only [w, hsz, bnd_some, Int.toNat_natCast, Nat.zero_add, flat_length, flat_get0, flat_get1, f2, f3, ptsA_flat]
  have ql : (subP ps (a + 1) (b - (a + 1))).length = b - (a + 1) := subP_len (by omega)
  have v1 := gP_v hv a
  have v2 := gP_v hv b
  have t1 := vP_pt v1
  have t2 := vP_pt v2
  have ga : ((ps.getD a (0, 0)).1, (ps.getD a (0, 0)).2) = gP ps a := rfl
  have gb : ((ps.getD b (0, 0)).1, (ps.getD b (0, 0)).2) = gP ps b := rfl
  simp only [ga, gb]
  unfold gP at t1 t2
  simp only [Tree.ok]
  repeat (refine And.intro (by first | exact trivial | assumption | omega) ?_)
  rcases Nat.eq_zero_or_pos (b - (a + 1)) with h0 | hp
  · have e : fl (fS (gP ps a) (gP ps b)) (subP ps (a + 1) (b - (a + 1))) 0 (-1) = -1 := fl_end (by omega) (.inl rfl)
    have k : wrK ps a b = a := by unfold wrK; rw [h0]; rfl
    have sb : stpB ps a b most = true := by unfold stpB; rw [k, decide_eq_true rfl, Bool.true_or]
    unfold farV
    rw [e, sb]
    exact rfl
  · have e := fl_mxN (f := fS (gP ps a) (gP ps b)) (qs := subP ps (a + 1) (b - (a + 1))) (by omega)
    rw [ql] at e
    have hlt := mxN_lt (fS (gP ps a) (gP ps b)) (subP ps (a + 1) (b - (a + 1))) (b - (a + 1)) hp
    obtain ⟨s1, s2⟩ := stp_is hv hab hb hm.1 (i := _) rfl hp
    rw [e]
    generalize mxN (fS (gP ps a) (gP ps b)) (subP ps (a + 1) (b - (a + 1))) (b - (a + 1)) = i at *
    have nx : (a + 1) * 2 + i * 2 = (a + 1 + i) * 2 := by omega
    have v3 := gP_v hv (a + 1 + i)
    have t3 := vP_pt v3
    have gi : ((ps.getD (a + 1 + i) (0, 0)).1, (ps.getD (a + 1 + i) (0, 0)).2) = gP ps (a + 1 + i) := rfl
    unfold gP at t3
    have sb : sclP (gP ps a) (gP ps b) ≤ 8000000 := by have := sqP_bd v1 v2; unfold sclP; split <;> omega
    have sp := scl_pos (gP ps a) (gP ps b)
    have mm := mul_bd (x := most) (y := sclP (gP ps a) (gP ps b)) 8000000 8000000 (by omega) (by omega)
    rw [decide_eq_false (show ¬ (i : Int) < 0 by omega)]
    simp only [brT_f, Int.toNat_natCast, nx, flat_get0, flat_get1, gi, Tree.ok]
    rw [wr (x := most * sclP (gP ps a) (gP ps b)) (by omega)]
    repeat (refine And.intro (by first | exact trivial | assumption | omega) ?_)
    unfold farV
    rcases hs : stpB ps a b most with _ | _
    · rw [hs] at s1
      rw [← s1]
      have k := s2 hs
      have w2 : IntKind.i64.wrap (((a + 1 : Nat) : Int) + i) = ((a + 1 + i : Nat) : Int) := by rw [wr (by omega)]; omega
      rw [w2, k]
      exact rfl
    · rw [hs] at s1
      rw [← s1]
      exact rfl
end Go.Proofs.Ytolodncpegajkab
namespace Go.Proofs.Ytolodncpegajkab
set_option linter.all false
open Go.RowKit
def pWst : List DArg → Option (Value × List Prop)
  | [.row m (.ints xs), .v (.int .i64 a), .v (.int .i64 b)] => some (iv (wrK (ptsA m xs) a.toNat b.toNat), [m * 2 ≤ xs.length, m ≤ 1000, allV (ptsA m xs) = true, 0 ≤ a ∧ a < m, 0 ≤ b ∧ b < m])
  | _ => none
theorem pWst_ok {ds : List DArg} {v : Value} {C : List Prop} (h : pWst ds = some (v, C)) (hC : AllP C) : Res Try.prog 113 ds v := by
  unfold pWst at h
  split at h
  · rename_i m xs a b
    obtain ⟨rfl, rfl⟩ : _ ∧ _ := by simpa using h
    obtain ⟨c1, c2, c3, c4, c5, _⟩ := hC
    obtain ⟨_, h2⟩ := ptsA_spec c1
    obtain ⟨a, rfl⟩ := Int.eq_ofNat_of_zero_le c4.1
    obtain ⟨b, rfl⟩ := Int.eq_ofNat_of_zero_le c5.1
    simp only [Int.toNat_natCast]
    exact res_pts1 (pre := []) (post := [_, _]) c1 (res_wst (ps := ptsA m xs) (by omega) c3 (by omega) (by omega))
  · cases h
def pFar : List DArg → Option (Value × List Prop)
  | [.row m (.ints xs), .v (.int .i64 a), .v (.int .i64 b), .v (.int .i64 most)] => some (.tuple #[iv (bif stpB (ptsA m xs) a.toNat b.toNat most then 0 else wrK (ptsA m xs) a.toNat b.toNat), .bool (!(stpB (ptsA m xs) a.toNat b.toNat most))], [m * 2 ≤ xs.length, m ≤ 1000, allV (ptsA m xs) = true, 0 ≤ a ∧ a < b, b < m, 0 ≤ most ∧ most ≤ 8000000])
  | _ => none
theorem pFar_ok {ds : List DArg} {v : Value} {C : List Prop} (h : pFar ds = some (v, C)) (hC : AllP C) : Res Try.prog 69 ds v := by
  unfold pFar at h
  split at h
  · rename_i m xs a b most
    obtain ⟨rfl, rfl⟩ : _ ∧ _ := by simpa using h
    obtain ⟨c1, c2, c3, c4, c5, c6, _⟩ := hC
    obtain ⟨_, h2⟩ := ptsA_spec c1
    obtain ⟨a, rfl⟩ := Int.eq_ofNat_of_zero_le c4.1
    obtain ⟨b, rfl⟩ := Int.eq_ofNat_of_zero_le (show 0 ≤ b by omega)
    simp only [Int.toNat_natCast]
    exact res_pts1 (pre := []) (post := [_, _, _]) c1 (res_far (ps := ptsA m xs) (by omega) c3 (by omega) (by omega) c6)
  · cases h
def TSm2 : Tab := fun f ds => match f with
  | 113 => pWst ds
  | 69 => pFar ds
  | f => TSm1 f ds
theorem TSm2_ok : TabOk Try.prog TSm2 := by
  intro f ds v C h hC
  unfold TSm2 at h
  (try split at h)
  all_goals first | with_reducible exact pWst_ok h hC | with_reducible exact pFar_ok h hC | exact TSm1_ok _ _ _ _ h hC
def ESm3 : Env := mkE TSm2 R4 (fun _ => noL)
theorem ESm3_ok : EnvOk Try.prog ESm3 := mkEOk TSm2_ok R4_ok (fun _ _ _ => noL_good)
/-- Is a point different from the one before it? -/
def nePt (ps : List Pt) (i : Nat) : Bool := !(decide (gP ps i = gP ps (i - 1)))
def ascQ (ks : List Int) (i : Nat) : Bool := decide (ks.getD (i - 1) 0 < ks.getD i 0)
noncomputable def c_isP : Code := ((loopsOf (codeOf Try.f67))[0]?).getD .skip
def k_isP : Ex → List Nat := keeps [0, 3] [(0, [])] [2]
def s_isP (ps : List Pt) : Nat → St := fun i => ⟨[.slice (some ⟨0, 0, none⟩) ps.length ps.length, topV, topV, .int .i64 i, topV, topV, topV, topV, topV, topV, topV, topV, topV, topV, topV, topV, topV, topV, topV, topV, topV, topV, topV, topV, topV, topV, topV, topV], [some ⟨.view, .ints (flat ps)⟩]⟩
def re_isP (ps : List Pt) : Nat → Ex := fun i => bif allQ (nePt ps) i (ps.length - i) then .exit 0 else .ret
def rs_isP (ps : List Pt) : Nat → St := fun i => bif allQ (nePt ps) i (ps.length - i) then ⟨[topV, topV, topV, topV, topV, topV, topV, topV, topV, topV, topV, topV, topV, topV, topV, topV, topV, topV, topV, topV, topV, topV, topV, topV, topV, topV, topV, topV], [some ⟨.view, .ints (flat ps)⟩]⟩ else ⟨[topV, topV, .bool false, topV, topV, topV, topV, topV, topV, topV, topV, topV, topV, topV, topV, topV, topV, topV, topV, topV, topV, topV, topV, topV, topV, topV, topV, topV], [some ⟨.view, .ints (flat ps)⟩]⟩
set_option maxRecDepth 100000 in
theorem tr_isP (ps : List Pt) (i : Nat) : bodyL Try.prog ESm3 30 12 noL 1 c_isP k_isP 1 (s_isP ps i) = brT (decide ((↑i : Int) < (↑ps.length : Int))) (.need ((0 : Int) ≤ (↑i : Int) ∧ (↑i : Int) < (↑ps.length : Int)) (.need ((0 : Nat) + (↑i : Int).toNat * (2 : Nat) + (2 : Nat) ≤ (flat ps).length) (.need ((0 : Int) ≤ IntKind.i64.wrap ((↑i : Int) - (1 : Int)) ∧ IntKind.i64.wrap ((↑i : Int) - (1 : Int)) < (↑ps.length : Int)) (.need ((0 : Nat) + (IntKind.i64.wrap ((↑i : Int) - (1 : Int))).toNat * (2 : Nat) + (2 : Nat) ≤ (flat ps).length) (brT (negB false ((flat ps).getD (0 + (↑i : Int).toNat * 2) 0 == (flat ps).getD (0 + (IntKind.i64.wrap ((↑i : Int) - 1)).toNat * 2) 0 && ((flat ps).getD (0 + (↑i : Int).toNat * 2 + 1) 0 == (flat ps).getD (0 + (IntKind.i64.wrap ((↑i : Int) - 1)).toNat * 2 + 1) 0 && true))) (.leaf .ret ⟨[topV, topV, .bool (false), topV, topV, topV, topV, topV, topV, topV, topV, topV, topV, topV, topV, topV, topV, topV, topV, topV, topV, topV, topV, topV, topV, topV, topV, topV], [some ⟨.view, .ints (flat ps)⟩]⟩) (.leaf .normal ⟨[.slice (some ⟨0, 0, none⟩) (ps.length) (ps.length), topV, topV, .int .i64 (IntKind.i64.wrap ((↑i : Int) + 1)), topV, topV, topV, topV, topV, topV, topV, topV, topV, topV, topV, topV, topV, topV, topV, topV, topV, topV, topV, topV, topV, topV, topV, topV], [some ⟨.view, .ints (flat ps)⟩]⟩)))))) (.leaf (.exit 0) ⟨[topV, topV, topV, topV, topV, topV, topV, topV, topV, topV, topV, topV, topV, topV, topV, topV, topV, topV, topV, topV, topV, topV, topV, topV, topV, topV, topV, topV], [some ⟨.view, .ints (flat ps)⟩]⟩) := by kernel_rfl
set_option maxRecDepth 100000 in
theorem nl_isP : loopsOf c_isP = [] := by kernel_rfl
def inv_isP (ps : List Pt) : Nat → Prop := fun i => 1 ≤ i
def me_isP (ps : List Pt) : Nat → Nat := fun i => ps.length - i
/-- A round of this loop. -/
def Round_isP (ps : List Pt) : Prop := ∀ xx : Nat, inv_isP ps xx → (bodyL Try.prog ESm3 30 12 noL 1 c_isP k_isP 1 (s_isP ps xx)).ok (RoundEnd 1 (s_isP ps) (inv_isP ps) (me_isP ps) (re_isP ps) (rs_isP ps) xx) (fun _ _ => False)
def e_isP (s : St) (k : Ex → St → Tree) : Option Tree := match Nat.beq s.tmps.length 28, pickL s.tmps [0, 3], s.mem with
  | true, [.slice (some ⟨0, 0, none⟩) n _, .int .i64 ii], [some ⟨.view, .ints xs⟩] => some (needs [ii = 1, xs.length = n * 2, n ≤ 1000000000] (brT (allQ (nePt (ptsA n xs)) 1 (n - 1)) (k (.exit 0) ⟨[topV, topV, topV, topV, topV, topV, topV, topV, topV, topV, topV, topV, topV, topV, topV, topV, topV, topV, topV, topV, topV, topV, topV, topV, topV, topV, topV, topV], [some ⟨.view, .ints xs⟩]⟩) (k .ret ⟨[topV, topV, .bool false, topV, topV, topV, topV, topV, topV, topV, topV, topV, topV, topV, topV, topV, topV, topV, topV, topV, topV, topV, topV, topV, topV, topV, topV, topV], [some ⟨.view, .ints xs⟩]⟩)))
  | _, _, _ => none
noncomputable def c_vPa : Code := ((loopsOf (codeOf Try.f70))[0]?).getD .skip
def k_vPa : Ex → List Nat := keeps [0, 3] [(0, [0])] [2]
def s_vPa (ps : List Pt) : Nat → St := fun i => ⟨[.slice (some ⟨0, 0, none⟩) ps.length ps.length, topV, topV, .int .i64 i, topV, topV, topV, topV, topV, topV, topV, topV, topV, topV, topV, topV, topV, topV, topV, topV, topV, topV, topV, topV, topV, topV, topV], [some ⟨.view, .ints (flat ps)⟩]⟩
def re_vPa (ps : List Pt) : Nat → Ex := fun i => bif allQ (nePt ps) i (ps.length - i) then .exit 0 else .ret
def rs_vPa (ps : List Pt) : Nat → St := fun i => bif allQ (nePt ps) i (ps.length - i) then ⟨[.slice (some ⟨0, 0, none⟩) ps.length ps.length, topV, topV, topV, topV, topV, topV, topV, topV, topV, topV, topV, topV, topV, topV, topV, topV, topV, topV, topV, topV, topV, topV, topV, topV, topV, topV], [some ⟨.view, .ints (flat ps)⟩]⟩ else ⟨[topV, topV, .bool false, topV, topV, topV, topV, topV, topV, topV, topV, topV, topV, topV, topV, topV, topV, topV, topV, topV, topV, topV, topV, topV, topV, topV, topV], [some ⟨.view, .ints (flat ps)⟩]⟩
set_option maxRecDepth 100000 in
theorem tr_vPa (ps : List Pt) (i : Nat) : bodyL Try.prog ESm3 30 12 noL 1 c_vPa k_vPa 1 (s_vPa ps i) = brT (decide ((↑i : Int) < (↑ps.length : Int))) (.need ((0 : Int) ≤ (↑i : Int) ∧ (↑i : Int) < (↑ps.length : Int)) (.need ((0 : Nat) + (↑i : Int).toNat * (2 : Nat) + (2 : Nat) ≤ (flat ps).length) (.need ((0 : Int) ≤ IntKind.i64.wrap ((↑i : Int) - (1 : Int)) ∧ IntKind.i64.wrap ((↑i : Int) - (1 : Int)) < (↑ps.length : Int)) (.need ((0 : Nat) + (IntKind.i64.wrap ((↑i : Int) - (1 : Int))).toNat * (2 : Nat) + (2 : Nat) ≤ (flat ps).length) (brT (negB false ((flat ps).getD (0 + (↑i : Int).toNat * 2) 0 == (flat ps).getD (0 + (IntKind.i64.wrap ((↑i : Int) - 1)).toNat * 2) 0 && ((flat ps).getD (0 + (↑i : Int).toNat * 2 + 1) 0 == (flat ps).getD (0 + (IntKind.i64.wrap ((↑i : Int) - 1)).toNat * 2 + 1) 0 && true))) (.leaf .ret ⟨[topV, topV, .bool (false), topV, topV, topV, topV, topV, topV, topV, topV, topV, topV, topV, topV, topV, topV, topV, topV, topV, topV, topV, topV, topV, topV, topV, topV], [some ⟨.view, .ints (flat ps)⟩]⟩) (.leaf .normal ⟨[.slice (some ⟨0, 0, none⟩) (ps.length) (ps.length), topV, topV, .int .i64 (IntKind.i64.wrap ((↑i : Int) + 1)), topV, topV, topV, topV, topV, topV, topV, topV, topV, topV, topV, topV, topV, topV, topV, topV, topV, topV, topV, topV, topV, topV, topV], [some ⟨.view, .ints (flat ps)⟩]⟩)))))) (.leaf (.exit 0) ⟨[.slice (some ⟨0, 0, none⟩) (ps.length) (ps.length), topV, topV, topV, topV, topV, topV, topV, topV, topV, topV, topV, topV, topV, topV, topV, topV, topV, topV, topV, topV, topV, topV, topV, topV, topV, topV], [some ⟨.view, .ints (flat ps)⟩]⟩) := by kernel_rfl
set_option maxRecDepth 100000 in
theorem nl_vPa : loopsOf c_vPa = [] := by kernel_rfl
def inv_vPa (ps : List Pt) : Nat → Prop := fun i => 1 ≤ i
def me_vPa (ps : List Pt) : Nat → Nat := fun i => ps.length - i
/-- A round of this loop. -/
def Round_vPa (ps : List Pt) : Prop := ∀ xx : Nat, inv_vPa ps xx → (bodyL Try.prog ESm3 30 12 noL 1 c_vPa k_vPa 1 (s_vPa ps xx)).ok (RoundEnd 1 (s_vPa ps) (inv_vPa ps) (me_vPa ps) (re_vPa ps) (rs_vPa ps) xx) (fun _ _ => False)
def e_vPa (s : St) (k : Ex → St → Tree) : Option Tree := match Nat.beq s.tmps.length 27, pickL s.tmps [0, 3], s.mem with
  | true, [.slice (some ⟨0, 0, none⟩) n _, .int .i64 ii], [some ⟨.view, .ints xs⟩] => some (needs [ii = 1, xs.length = n * 2, n ≤ 1000000000] (brT (allQ (nePt (ptsA n xs)) 1 (n - 1)) (k (.exit 0) ⟨[.slice (some ⟨0, 0, none⟩) n n, topV, topV, topV, topV, topV, topV, topV, topV, topV, topV, topV, topV, topV, topV, topV, topV, topV, topV, topV, topV, topV, topV, topV, topV, topV, topV], [some ⟨.view, .ints xs⟩]⟩) (k .ret ⟨[topV, topV, .bool false, topV, topV, topV, topV, topV, topV, topV, topV, topV, topV, topV, topV, topV, topV, topV, topV, topV, topV, topV, topV, topV, topV, topV, topV], [some ⟨.view, .ints xs⟩]⟩)))
  | _, _, _ => none
noncomputable def c_ae2 : Code := ((loopsOf (codeOf Try.f77))[0]?).getD .skip
def k_ae2 : Ex → List Nat := keeps [0, 5, 6] [(0, [])] [4]
def s_ae2 (n : Nat) (ks : List Int) : Nat → St := fun i => ⟨(.slice (some ⟨0, 0, none⟩) n n :: topV :: topV :: topV :: topV :: .int .i64 n :: .int .i64 i :: topV :: topV :: topV :: topV :: topV :: topV :: topV :: topV :: topV :: topV :: topV :: topV :: topV :: topV :: topV :: topV :: topV :: topV :: topV :: topV :: topV :: topV :: topV :: topV :: topV :: topV :: topV :: topV :: topV :: topV :: topV :: topV :: topV :: topV :: topV :: []), [some ⟨.view, .ints ks⟩, none]⟩
def re_ae2 (n : Nat) (ks : List Int) : Nat → Ex := fun i => bif allQ (ascQ ks) i (n - i) then .exit 0 else .ret
def rs_ae2 (n : Nat) (ks : List Int) : Nat → St := fun i => bif allQ (ascQ ks) i (n - i) then ⟨(topV :: topV :: topV :: topV :: topV :: topV :: topV :: topV :: topV :: topV :: topV :: topV :: topV :: topV :: topV :: topV :: topV :: topV :: topV :: topV :: topV :: topV :: topV :: topV :: topV :: topV :: topV :: topV :: topV :: topV :: topV :: topV :: topV :: topV :: topV :: topV :: topV :: topV :: topV :: topV :: topV :: topV :: []), [some ⟨.view, .ints ks⟩, none]⟩ else ⟨(topV :: topV :: topV :: topV :: .bool false :: topV :: topV :: topV :: topV :: topV :: topV :: topV :: topV :: topV :: topV :: topV :: topV :: topV :: topV :: topV :: topV :: topV :: topV :: topV :: topV :: topV :: topV :: topV :: topV :: topV :: topV :: topV :: topV :: topV :: topV :: topV :: topV :: topV :: topV :: topV :: topV :: topV :: []), [some ⟨.view, .ints ks⟩, none]⟩
set_option maxRecDepth 100000 in
theorem tr_ae2 (n : Nat) (ks : List Int) (i : Nat) : bodyL Try.prog ESm3 30 12 noL 1 c_ae2 k_ae2 2 (s_ae2 n ks i) = brT (decide ((↑i : Int) < (↑n : Int))) (.need ((0 : Int) ≤ IntKind.i64.wrap ((↑i : Int) - (1 : Int)) ∧ IntKind.i64.wrap ((↑i : Int) - (1 : Int)) < (↑n : Int)) (.need ((0 : Nat) + (IntKind.i64.wrap ((↑i : Int) - (1 : Int))).toNat * (1 : Nat) < ks.length) (.need ((0 : Int) ≤ (↑i : Int) ∧ (↑i : Int) < (↑n : Int)) (.need ((0 : Nat) + (↑i : Int).toNat * (1 : Nat) < ks.length) (brT (decide (ks.getD (0 + (↑i : Int).toNat * 1) 0 ≤ ks.getD (0 + (IntKind.i64.wrap ((↑i : Int) - 1)).toNat * 1) 0)) (.leaf .ret ⟨(topV :: topV :: topV :: topV :: .bool (false) :: topV :: topV :: topV :: topV :: topV :: topV :: topV :: topV :: topV :: topV :: topV :: topV :: topV :: topV :: topV :: topV :: topV :: topV :: topV :: topV :: topV :: topV :: topV :: topV :: topV :: topV :: topV :: topV :: topV :: topV :: topV :: topV :: topV :: topV :: topV :: topV :: topV :: []), [some ⟨.view, .ints (ks)⟩, none]⟩) (.leaf .normal ⟨(.slice (some ⟨0, 0, none⟩) (n) (n) :: topV :: topV :: topV :: topV :: .int .i64 ((↑n : Int)) :: .int .i64 (IntKind.i64.wrap ((↑i : Int) + 1)) :: topV :: topV :: topV :: topV :: topV :: topV :: topV :: topV :: topV :: topV :: topV :: topV :: topV :: topV :: topV :: topV :: topV :: topV :: topV :: topV :: topV :: topV :: topV :: topV :: topV :: topV :: topV :: topV :: topV :: topV :: topV :: topV :: topV :: topV :: topV :: []), [some ⟨.view, .ints (ks)⟩, none]⟩)))))) (.leaf (.exit 0) ⟨(topV :: topV :: topV :: topV :: topV :: topV :: topV :: topV :: topV :: topV :: topV :: topV :: topV :: topV :: topV :: topV :: topV :: topV :: topV :: topV :: topV :: topV :: topV :: topV :: topV :: topV :: topV :: topV :: topV :: topV :: topV :: topV :: topV :: topV :: topV :: topV :: topV :: topV :: topV :: topV :: topV :: topV :: []), [some ⟨.view, .ints (ks)⟩, none]⟩) := by kernel_rfl
set_option maxRecDepth 100000 in
theorem nl_ae2 : loopsOf c_ae2 = [] := by kernel_rfl
def inv_ae2 (n : Nat) (ks : List Int) : Nat → Prop := fun i => 1 ≤ i
def me_ae2 (n : Nat) (ks : List Int) : Nat → Nat := fun i => n - i
/-- A round of this loop. -/
def Round_ae2 (n : Nat) (ks : List Int) : Prop := ∀ xx : Nat, inv_ae2 n ks xx → (bodyL Try.prog ESm3 30 12 noL 1 c_ae2 k_ae2 2 (s_ae2 n ks xx)).ok (RoundEnd 2 (s_ae2 n ks) (inv_ae2 n ks) (me_ae2 n ks) (re_ae2 n ks) (rs_ae2 n ks) xx) (fun _ _ => False)
def e_ae2 (s : St) (k : Ex → St → Tree) : Option Tree := match Nat.beq s.tmps.length 42, pickL s.tmps [0, 5, 6], s.mem with
  | true, [.slice (some ⟨0, 0, none⟩) n _, .int .i64 l, .int .i64 ii], [some ⟨.view, .ints ks⟩, none] => some (needs [ii = 1, l = n, n ≤ ks.length, n ≤ 1000000000] (brT (allQ (ascQ ks) 1 (n - 1)) (k (.exit 0) ⟨(topV :: topV :: topV :: topV :: topV :: topV :: topV :: topV :: topV :: topV :: topV :: topV :: topV :: topV :: topV :: topV :: topV :: topV :: topV :: topV :: topV :: topV :: topV :: topV :: topV :: topV :: topV :: topV :: topV :: topV :: topV :: topV :: topV :: topV :: topV :: topV :: topV :: topV :: topV :: topV :: topV :: topV :: []), [some ⟨.view, .ints ks⟩, none]⟩) (k .ret ⟨(topV :: topV :: topV :: topV :: .bool false :: topV :: topV :: topV :: topV :: topV :: topV :: topV :: topV :: topV :: topV :: topV :: topV :: topV :: topV :: topV :: topV :: topV :: topV :: topV :: topV :: topV :: topV :: topV :: topV :: topV :: topV :: topV :: topV :: topV :: topV :: topV :: topV :: topV :: topV :: topV :: topV :: topV :: []), [some ⟨.view, .ints ks⟩, none]⟩)))
  | _, _, _ => none
def kA (ks : List Int) (i : Nat) : Nat := (ks.getD i 0).toNat
def stQ (ps : List Pt) (most : Int) (ks : List Int) (i : Nat) : Bool := stpB ps (kA ks (i - 1)) (kA ks i) most
noncomputable def c_iCo : Code := ((loopsOf (codeOf Try.f32))[0]?).getD .skip
def k_iCo : Ex → List Nat := keeps [0, 1, 2, 7] [(0, [])] [6]
def s_iCo (ps : List Pt) (most : Int) (n : Nat) (ks : List Int) : Nat → St := fun i => ⟨(.slice (some ⟨0, 0, none⟩) ps.length ps.length :: .int .i64 most :: .slice (some ⟨2, 0, none⟩) n n :: topV :: topV :: topV :: topV :: .int .i64 i :: topV :: topV :: topV :: topV :: topV :: topV :: topV :: topV :: topV :: topV :: topV :: topV :: topV :: topV :: topV :: topV :: topV :: topV :: topV :: topV :: topV :: topV :: topV :: topV :: topV :: topV :: topV :: topV :: topV :: topV :: topV :: topV :: topV :: topV :: topV :: topV :: topV :: topV :: topV :: []), [some ⟨.view, .ints (flat ps)⟩, none, some ⟨.view, .ints ks⟩]⟩
def re_iCo (ps : List Pt) (most : Int) (n : Nat) (ks : List Int) : Nat → Ex := fun i => bif allQ (stQ ps most ks) i (n - i) then .exit 0 else .ret
def rs_iCo (ps : List Pt) (most : Int) (n : Nat) (ks : List Int) : Nat → St := fun i => bif allQ (stQ ps most ks) i (n - i) then ⟨(topV :: topV :: topV :: topV :: topV :: topV :: topV :: topV :: topV :: topV :: topV :: topV :: topV :: topV :: topV :: topV :: topV :: topV :: topV :: topV :: topV :: topV :: topV :: topV :: topV :: topV :: topV :: topV :: topV :: topV :: topV :: topV :: topV :: topV :: topV :: topV :: topV :: topV :: topV :: topV :: topV :: topV :: topV :: topV :: topV :: topV :: topV :: []), [some ⟨.view, .ints (flat ps)⟩, none, some ⟨.view, .ints ks⟩]⟩ else ⟨(topV :: topV :: topV :: topV :: topV :: topV :: .bool false :: topV :: topV :: topV :: topV :: topV :: topV :: topV :: topV :: topV :: topV :: topV :: topV :: topV :: topV :: topV :: topV :: topV :: topV :: topV :: topV :: topV :: topV :: topV :: topV :: topV :: topV :: topV :: topV :: topV :: topV :: topV :: topV :: topV :: topV :: topV :: topV :: topV :: topV :: topV :: topV :: []), [some ⟨.view, .ints (flat ps)⟩, none, some ⟨.view, .ints ks⟩]⟩
set_option maxRecDepth 100000 in
theorem tr_iCo (ps : List Pt) (most : Int) (n : Nat) (ks : List Int) (i : Nat) : bodyL Try.prog ESm3 30 12 noL 1 c_iCo k_iCo 3 (s_iCo ps most n ks i) = brT (decide ((↑i : Int) < (↑n : Int))) (.need (ps.length * (2 : Nat) ≤ (List.drop (0 : Nat) (flat ps)).length) (.need (ps.length ≤ (1000 : Nat)) (.need (allV (ptsA ps.length (List.drop (0 : Nat) (flat ps))) = true) (.need ((0 : Int) ≤ ks.getD ((0 : Nat) + (IntKind.i64.wrap ((↑i : Int) - (1 : Int))).toNat * (1 : Nat)) (0 : Int) ∧ ks.getD ((0 : Nat) + (IntKind.i64.wrap ((↑i : Int) - (1 : Int))).toNat * (1 : Nat)) (0 : Int) < ks.getD ((0 : Nat) + (↑i : Int).toNat * (1 : Nat)) (0 : Int)) (.need (ks.getD ((0 : Nat) + (↑i : Int).toNat * (1 : Nat)) (0 : Int) < (↑ps.length : Int)) (.need ((0 : Int) ≤ most ∧ most ≤ (8000000 : Int)) (.need ((0 : Int) ≤ IntKind.i64.wrap ((↑i : Int) - (1 : Int)) ∧ IntKind.i64.wrap ((↑i : Int) - (1 : Int)) < (↑n : Int)) (.need ((0 : Nat) + (IntKind.i64.wrap ((↑i : Int) - (1 : Int))).toNat * (1 : Nat) < ks.length) (.need ((0 : Int) ≤ (↑i : Int) ∧ (↑i : Int) < (↑n : Int)) (.need ((0 : Nat) + (↑i : Int).toNat * (1 : Nat) < ks.length) (brT (!stpB (ptsA ps.length (List.drop 0 (flat ps))) (ks.getD (0 + (IntKind.i64.wrap ((↑i : Int) - 1)).toNat * 1) 0).toNat (ks.getD (0 + (↑i : Int).toNat * 1) 0).toNat most) (.leaf .ret ⟨(topV :: topV :: topV :: topV :: topV :: topV :: .bool (false) :: topV :: topV :: topV :: topV :: topV :: topV :: topV :: topV :: topV :: topV :: topV :: topV :: topV :: topV :: topV :: topV :: topV :: topV :: topV :: topV :: topV :: topV :: topV :: topV :: topV :: topV :: topV :: topV :: topV :: topV :: topV :: topV :: topV :: topV :: topV :: topV :: topV :: topV :: topV :: topV :: []), [some ⟨.view, .ints (flat ps)⟩, none, some ⟨.view, .ints (ks)⟩]⟩) (.leaf .normal ⟨(.slice (some ⟨0, 0, none⟩) (ps.length) (ps.length) :: .int .i64 (most) :: .slice (some ⟨2, 0, none⟩) (n) (n) :: topV :: topV :: topV :: topV :: .int .i64 (IntKind.i64.wrap ((↑i : Int) + 1)) :: topV :: topV :: topV :: topV :: topV :: topV :: topV :: topV :: topV :: topV :: topV :: topV :: topV :: topV :: topV :: topV :: topV :: topV :: topV :: topV :: topV :: topV :: topV :: topV :: topV :: topV :: topV :: topV :: topV :: topV :: topV :: topV :: topV :: topV :: topV :: topV :: topV :: topV :: topV :: []), [some ⟨.view, .ints (flat ps)⟩, none, some ⟨.view, .ints (ks)⟩]⟩)))))))))))) (.leaf (.exit 0) ⟨(topV :: topV :: topV :: topV :: topV :: topV :: topV :: topV :: topV :: topV :: topV :: topV :: topV :: topV :: topV :: topV :: topV :: topV :: topV :: topV :: topV :: topV :: topV :: topV :: topV :: topV :: topV :: topV :: topV :: topV :: topV :: topV :: topV :: topV :: topV :: topV :: topV :: topV :: topV :: topV :: topV :: topV :: topV :: topV :: topV :: topV :: topV :: []), [some ⟨.view, .ints (flat ps)⟩, none, some ⟨.view, .ints (ks)⟩]⟩) := by kernel_rfl
set_option maxRecDepth 100000 in
theorem nl_iCo : loopsOf c_iCo = [] := by kernel_rfl
def inv_iCo (ps : List Pt) (most : Int) (n : Nat) (ks : List Int) : Nat → Prop := fun i => 1 ≤ i
def me_iCo (ps : List Pt) (most : Int) (n : Nat) (ks : List Int) : Nat → Nat := fun i => n - i
/-- A round of this loop. -/
def Round_iCo (ps : List Pt) (most : Int) (n : Nat) (ks : List Int) : Prop := ∀ xx : Nat, inv_iCo ps most n ks xx → (bodyL Try.prog ESm3 30 12 noL 1 c_iCo k_iCo 3 (s_iCo ps most n ks xx)).ok (RoundEnd 3 (s_iCo ps most n ks) (inv_iCo ps most n ks) (me_iCo ps most n ks) (re_iCo ps most n ks) (rs_iCo ps most n ks) xx) (fun _ _ => False)
def e_iCo (s : St) (k : Ex → St → Tree) : Option Tree := match Nat.beq s.tmps.length 47, pickL s.tmps [0, 1, 2, 7], s.mem with
  | true, [.slice (some ⟨0, 0, none⟩) l _, .int .i64 most, .slice (some ⟨2, 0, none⟩) n _, .int .i64 ii], [some ⟨.view, .ints xs⟩, none, some ⟨.view, .ints ks⟩] => some (needs [ii = 1, xs.length = l * 2, l ≤ 1000, allV (ptsA l xs) = true, n ≤ ks.length, n ≤ 1000000000, ∀ j, 1 ≤ j → j < n → 0 ≤ ks.getD (j - 1) 0 ∧ ks.getD (j - 1) 0 < ks.getD j 0 ∧ ks.getD j 0 < l, 0 ≤ most ∧ most ≤ 8000000] (brT (allQ (stQ (ptsA l xs) most ks) 1 (n - 1)) (k (.exit 0) ⟨(topV :: topV :: topV :: topV :: topV :: topV :: topV :: topV :: topV :: topV :: topV :: topV :: topV :: topV :: topV :: topV :: topV :: topV :: topV :: topV :: topV :: topV :: topV :: topV :: topV :: topV :: topV :: topV :: topV :: topV :: topV :: topV :: topV :: topV :: topV :: topV :: topV :: topV :: topV :: topV :: topV :: topV :: topV :: topV :: topV :: topV :: topV :: []), [some ⟨.view, .ints xs⟩, none, some ⟨.view, .ints ks⟩]⟩) (k .ret ⟨(topV :: topV :: topV :: topV :: topV :: topV :: .bool false :: topV :: topV :: topV :: topV :: topV :: topV :: topV :: topV :: topV :: topV :: topV :: topV :: topV :: topV :: topV :: topV :: topV :: topV :: topV :: topV :: topV :: topV :: topV :: topV :: topV :: topV :: topV :: topV :: topV :: topV :: topV :: topV :: topV :: topV :: topV :: topV :: topV :: topV :: topV :: topV :: []), [some ⟨.view, .ints xs⟩, none, some ⟨.view, .ints ks⟩]⟩)))
  | _, _, _ => none
def dvQ (ps : List Pt) (a b : Nat) (most : Int) (k : Nat) : Bool := decide (dvN (gP ps a) (gP ps b) (gP ps k) ≤ most * dvD (gP ps a) (gP ps b) (gP ps k))
noncomputable def c_sCi : Code := ((loopsOf (codeOf Try.f33))[1]?).getD .skip
def k_sCi : Ex → List Nat := keeps [0, 1, 2, 7, 8] [(2, [0, 1, 2, 7])] [6]
def s_sCi (ps : List Pt) (most : Int) (n : Nat) (ks : List Int) (i : Nat) : Nat → St := fun k => ⟨(.slice (some ⟨0, 0, none⟩) ps.length ps.length :: .int .i64 most :: .slice (some ⟨2, 0, none⟩) n n :: topV :: topV :: topV :: topV :: .int .i64 i :: .int .i64 k :: topV :: topV :: topV :: topV :: topV :: topV :: topV :: topV :: topV :: topV :: topV :: topV :: topV :: topV :: topV :: topV :: topV :: topV :: topV :: topV :: topV :: topV :: topV :: topV :: topV :: topV :: topV :: topV :: topV :: topV :: topV :: topV :: topV :: topV :: topV :: topV :: topV :: topV :: topV :: topV :: topV :: topV :: topV :: topV :: topV :: topV :: topV :: topV :: topV :: topV :: topV :: topV :: topV :: topV :: topV :: topV :: topV :: topV :: topV :: topV :: topV :: topV :: topV :: topV :: topV :: topV :: topV :: topV :: topV :: topV :: topV :: topV :: topV :: topV :: topV :: topV :: topV :: topV :: topV :: topV :: topV :: topV :: topV :: topV :: topV :: topV :: topV :: topV :: topV :: topV :: topV :: []), [some ⟨.view, .ints (flat ps)⟩, none, some ⟨.view, .ints ks⟩]⟩
def re_sCi (ps : List Pt) (most : Int) (n : Nat) (ks : List Int) (i : Nat) : Nat → Ex := fun k => bif allQ (dvQ ps (kA ks (i - 1)) (kA ks i) most) k (kA ks i - k) then .exit 2 else .ret
def rs_sCi (ps : List Pt) (most : Int) (n : Nat) (ks : List Int) (i : Nat) : Nat → St := fun k => bif allQ (dvQ ps (kA ks (i - 1)) (kA ks i) most) k (kA ks i - k) then ⟨(.slice (some ⟨0, 0, none⟩) ps.length ps.length :: .int .i64 most :: .slice (some ⟨2, 0, none⟩) n n :: topV :: topV :: topV :: topV :: .int .i64 i :: topV :: topV :: topV :: topV :: topV :: topV :: topV :: topV :: topV :: topV :: topV :: topV :: topV :: topV :: topV :: topV :: topV :: topV :: topV :: topV :: topV :: topV :: topV :: topV :: topV :: topV :: topV :: topV :: topV :: topV :: topV :: topV :: topV :: topV :: topV :: topV :: topV :: topV :: topV :: topV :: topV :: topV :: topV :: topV :: topV :: topV :: topV :: topV :: topV :: topV :: topV :: topV :: topV :: topV :: topV :: topV :: topV :: topV :: topV :: topV :: topV :: topV :: topV :: topV :: topV :: topV :: topV :: topV :: topV :: topV :: topV :: topV :: topV :: topV :: topV :: topV :: topV :: topV :: topV :: topV :: topV :: topV :: topV :: topV :: topV :: topV :: topV :: topV :: topV :: topV :: topV :: topV :: []), [some ⟨.view, .ints (flat ps)⟩, none, some ⟨.view, .ints ks⟩]⟩ else ⟨(topV :: topV :: topV :: topV :: topV :: topV :: .bool false :: topV :: topV :: topV :: topV :: topV :: topV :: topV :: topV :: topV :: topV :: topV :: topV :: topV :: topV :: topV :: topV :: topV :: topV :: topV :: topV :: topV :: topV :: topV :: topV :: topV :: topV :: topV :: topV :: topV :: topV :: topV :: topV :: topV :: topV :: topV :: topV :: topV :: topV :: topV :: topV :: topV :: topV :: topV :: topV :: topV :: topV :: topV :: topV :: topV :: topV :: topV :: topV :: topV :: topV :: topV :: topV :: topV :: topV :: topV :: topV :: topV :: topV :: topV :: topV :: topV :: topV :: topV :: topV :: topV :: topV :: topV :: topV :: topV :: topV :: topV :: topV :: topV :: topV :: topV :: topV :: topV :: topV :: topV :: topV :: topV :: topV :: topV :: topV :: topV :: topV :: topV :: topV :: topV :: []), [some ⟨.view, .ints (flat ps)⟩, none, some ⟨.view, .ints ks⟩]⟩
set_option maxRecDepth 100000 in
theorem tr_sCi (ps : List Pt) (most : Int) (n : Nat) (ks : List Int) (i : Nat) (k : Nat) : bodyL Try.prog ESm3 30 12 noL 2 c_sCi k_sCi 3 (s_sCi ps most n ks i k) = .need ((0 : Int) ≤ (↑i : Int) ∧ (↑i : Int) < (↑n : Int)) (.need ((0 : Nat) + (↑i : Int).toNat * (1 : Nat) < ks.length) (brT (decide ((↑k : Int) < ks.getD (0 + (↑i : Int).toNat * 1) 0)) (.need (ps.length * (2 : Nat) ≤ (List.drop (0 : Nat) (flat ps)).length) (.need (ps.length ≤ (1000 : Nat)) (.need (allV (ptsA ps.length (List.drop (0 : Nat) (flat ps))) = true) (.need ((0 : Int) ≤ ks.getD ((0 : Nat) + (IntKind.i64.wrap ((↑i : Int) - (1 : Int))).toNat * (1 : Nat)) (0 : Int) ∧ ks.getD ((0 : Nat) + (IntKind.i64.wrap ((↑i : Int) - (1 : Int))).toNat * (1 : Nat)) (0 : Int) < (↑ps.length : Int)) (.need ((0 : Int) ≤ ks.getD ((0 : Nat) + (↑i : Int).toNat * (1 : Nat)) (0 : Int) ∧ ks.getD ((0 : Nat) + (↑i : Int).toNat * (1 : Nat)) (0 : Int) < (↑ps.length : Int)) (.need ((0 : Int) ≤ (↑k : Int) ∧ (↑k : Int) < (↑ps.length : Int)) (.need ((0 : Int) ≤ IntKind.i64.wrap ((↑i : Int) - (1 : Int)) ∧ IntKind.i64.wrap ((↑i : Int) - (1 : Int)) < (↑n : Int)) (.need ((0 : Nat) + (IntKind.i64.wrap ((↑i : Int) - (1 : Int))).toNat * (1 : Nat) < ks.length) (.need ((0 : Int) ≤ (↑i : Int) ∧ (↑i : Int) < (↑n : Int)) (.need ((0 : Nat) + (↑i : Int).toNat * (1 : Nat) < ks.length) (brT (decide (IntKind.i64.wrap (most * dvD (gP (ptsA ps.length (List.drop 0 (flat ps))) (ks.getD (0 + (IntKind.i64.wrap ((↑i : Int) - 1)).toNat * 1) 0).toNat) (gP (ptsA ps.length (List.drop 0 (flat ps))) (ks.getD (0 + (↑i : Int).toNat * 1) 0).toNat) (gP (ptsA ps.length (List.drop 0 (flat ps))) (↑k : Int).toNat)) < dvN (gP (ptsA ps.length (List.drop 0 (flat ps))) (ks.getD (0 + (IntKind.i64.wrap ((↑i : Int) - 1)).toNat * 1) 0).toNat) (gP (ptsA ps.length (List.drop 0 (flat ps))) (ks.getD (0 + (↑i : Int).toNat * 1) 0).toNat) (gP (ptsA ps.length (List.drop 0 (flat ps))) (↑k : Int).toNat))) (.leaf .ret ⟨(topV :: topV :: topV :: topV :: topV :: topV :: .bool (false) :: topV :: topV :: topV :: topV :: topV :: topV :: topV :: topV :: topV :: topV :: topV :: topV :: topV :: topV :: topV :: topV :: topV :: topV :: topV :: topV :: topV :: topV :: topV :: topV :: topV :: topV :: topV :: topV :: topV :: topV :: topV :: topV :: topV :: topV :: topV :: topV :: topV :: topV :: topV :: topV :: topV :: topV :: topV :: topV :: topV :: topV :: topV :: topV :: topV :: topV :: topV :: topV :: topV :: topV :: topV :: topV :: topV :: topV :: topV :: topV :: topV :: topV :: topV :: topV :: topV :: topV :: topV :: topV :: topV :: topV :: topV :: topV :: topV :: topV :: topV :: topV :: topV :: topV :: topV :: topV :: topV :: topV :: topV :: topV :: topV :: topV :: topV :: topV :: topV :: topV :: topV :: topV :: topV :: []), [some ⟨.view, .ints (flat ps)⟩, none, some ⟨.view, .ints (ks)⟩]⟩) (.leaf .normal ⟨(.slice (some ⟨0, 0, none⟩) (ps.length) (ps.length) :: .int .i64 (most) :: .slice (some ⟨2, 0, none⟩) (n) (n) :: topV :: topV :: topV :: topV :: .int .i64 ((↑i : Int)) :: .int .i64 (IntKind.i64.wrap ((↑k : Int) + 1)) :: topV :: topV :: topV :: topV :: topV :: topV :: topV :: topV :: topV :: topV :: topV :: topV :: topV :: topV :: topV :: topV :: topV :: topV :: topV :: topV :: topV :: topV :: topV :: topV :: topV :: topV :: topV :: topV :: topV :: topV :: topV :: topV :: topV :: topV :: topV :: topV :: topV :: topV :: topV :: topV :: topV :: topV :: topV :: topV :: topV :: topV :: topV :: topV :: topV :: topV :: topV :: topV :: topV :: topV :: topV :: topV :: topV :: topV :: topV :: topV :: topV :: topV :: topV :: topV :: topV :: topV :: topV :: topV :: topV :: topV :: topV :: topV :: topV :: topV :: topV :: topV :: topV :: topV :: topV :: topV :: topV :: topV :: topV :: topV :: topV :: topV :: topV :: topV :: topV :: topV :: topV :: []), [some ⟨.view, .ints (flat ps)⟩, none, some ⟨.view, .ints (ks)⟩]⟩)))))))))))) (.leaf (.exit 2) ⟨(.slice (some ⟨0, 0, none⟩) (ps.length) (ps.length) :: .int .i64 (most) :: .slice (some ⟨2, 0, none⟩) (n) (n) :: topV :: topV :: topV :: topV :: .int .i64 ((↑i : Int)) :: topV :: topV :: topV :: topV :: topV :: topV :: topV :: topV :: topV :: topV :: topV :: topV :: topV :: topV :: topV :: topV :: topV :: topV :: topV :: topV :: topV :: topV :: topV :: topV :: topV :: topV :: topV :: topV :: topV :: topV :: topV :: topV :: topV :: topV :: topV :: topV :: topV :: topV :: topV :: topV :: topV :: topV :: topV :: topV :: topV :: topV :: topV :: topV :: topV :: topV :: topV :: topV :: topV :: topV :: topV :: topV :: topV :: topV :: topV :: topV :: topV :: topV :: topV :: topV :: topV :: topV :: topV :: topV :: topV :: topV :: topV :: topV :: topV :: topV :: topV :: topV :: topV :: topV :: topV :: topV :: topV :: topV :: topV :: topV :: topV :: topV :: topV :: topV :: topV :: topV :: topV :: topV :: []), [some ⟨.view, .ints (flat ps)⟩, none, some ⟨.view, .ints (ks)⟩]⟩))) := by kernel_rfl
set_option maxRecDepth 100000 in
theorem nl_sCi : loopsOf c_sCi = [] := by kernel_rfl
def inv_sCi (ps : List Pt) (most : Int) (n : Nat) (ks : List Int) (i : Nat) : Nat → Prop := fun k => k ≤ kA ks i
def me_sCi (ps : List Pt) (most : Int) (n : Nat) (ks : List Int) (i : Nat) : Nat → Nat := fun k => kA ks i - k
/-- A round of this loop. -/
def Round_sCi (ps : List Pt) (most : Int) (n : Nat) (ks : List Int) (i : Nat) : Prop := ∀ xx : Nat, inv_sCi ps most n ks i xx → (bodyL Try.prog ESm3 30 12 noL 2 c_sCi k_sCi 3 (s_sCi ps most n ks i xx)).ok (RoundEnd 3 (s_sCi ps most n ks i) (inv_sCi ps most n ks i) (me_sCi ps most n ks i) (re_sCi ps most n ks i) (rs_sCi ps most n ks i) xx) (fun _ _ => False)
def e_sCi (s : St) (k : Ex → St → Tree) : Option Tree := match Nat.beq s.tmps.length 100, pickL s.tmps [0, 1, 2, 7, 8], s.mem with
  | true, [.slice (some ⟨0, 0, none⟩) l _, .int .i64 most, .slice (some ⟨2, 0, none⟩) n _, .int .i64 ii, .int .i64 kk], [some ⟨.view, .ints xs⟩, none, some ⟨.view, .ints ks⟩] => some (needs [1 ≤ ii ∧ ii < n, kk = ks.getD (ii.toNat - 1) 0, xs.length = l * 2, l ≤ 1000, allV (ptsA l xs) = true, n ≤ ks.length, n ≤ 1000000000, 0 ≤ ks.getD (ii.toNat - 1) 0 ∧ ks.getD (ii.toNat - 1) 0 < ks.getD ii.toNat 0 ∧ ks.getD ii.toNat 0 < l, 0 ≤ most ∧ most ≤ 8000000] (brT (allQ (dvQ (ptsA l xs) (kA ks (ii.toNat - 1)) (kA ks ii.toNat) most) (kA ks (ii.toNat - 1)) (kA ks ii.toNat - kA ks (ii.toNat - 1))) (k (.exit 2) ⟨(.slice (some ⟨0, 0, none⟩) l l :: .int .i64 most :: .slice (some ⟨2, 0, none⟩) n n :: topV :: topV :: topV :: topV :: .int .i64 ii :: topV :: topV :: topV :: topV :: topV :: topV :: topV :: topV :: topV :: topV :: topV :: topV :: topV :: topV :: topV :: topV :: topV :: topV :: topV :: topV :: topV :: topV :: topV :: topV :: topV :: topV :: topV :: topV :: topV :: topV :: topV :: topV :: topV :: topV :: topV :: topV :: topV :: topV :: topV :: topV :: topV :: topV :: topV :: topV :: topV :: topV :: topV :: topV :: topV :: topV :: topV :: topV :: topV :: topV :: topV :: topV :: topV :: topV :: topV :: topV :: topV :: topV :: topV :: topV :: topV :: topV :: topV :: topV :: topV :: topV :: topV :: topV :: topV :: topV :: topV :: topV :: topV :: topV :: topV :: topV :: topV :: topV :: topV :: topV :: topV :: topV :: topV :: topV :: topV :: topV :: topV :: topV :: []), [some ⟨.view, .ints xs⟩, none, some ⟨.view, .ints ks⟩]⟩) (k .ret ⟨(topV :: topV :: topV :: topV :: topV :: topV :: .bool false :: topV :: topV :: topV :: topV :: topV :: topV :: topV :: topV :: topV :: topV :: topV :: topV :: topV :: topV :: topV :: topV :: topV :: topV :: topV :: topV :: topV :: topV :: topV :: topV :: topV :: topV :: topV :: topV :: topV :: topV :: topV :: topV :: topV :: topV :: topV :: topV :: topV :: topV :: topV :: topV :: topV :: topV :: topV :: topV :: topV :: topV :: topV :: topV :: topV :: topV :: topV :: topV :: topV :: topV :: topV :: topV :: topV :: topV :: topV :: topV :: topV :: topV :: topV :: topV :: topV :: topV :: topV :: topV :: topV :: topV :: topV :: topV :: topV :: topV :: topV :: topV :: topV :: topV :: topV :: topV :: topV :: topV :: topV :: topV :: topV :: topV :: topV :: topV :: topV :: topV :: topV :: topV :: topV :: []), [some ⟨.view, .ints xs⟩, none, some ⟨.view, .ints ks⟩]⟩)))
  | _, _, _ => none
set_option maxRecDepth 100000 in
set_option maxHeartbeats 1000000 in
theorem round_isP (ps : List Pt) (h : ps.length ≤ 1000000000) : Round_isP ps := by
  intro i h1
  have h1 : 1 ≤ i := h1
  rw [tr_isP]
  refine brT_ok.2 ⟨fun hlt => ?_, fun hge => ?_⟩
  · have hlt := of_decide_eq_true hlt
    have hi : i < ps.length := by omega
    have w : IntKind.i64.wrap ((i : Int) - 1) = ((i - 1 : Nat) : Int) := by rw [wr (by omega)]; omega
    rw [w, wsucc (n := ps.length) hi h]
    simp only [Int.toNat_natCast, Nat.zero_add, flat_get0, flat_get1, flat_length, eqP_is, Tree.ok]
    refine ⟨by omega, by omega, by omega, by omega, brT_ok.2 ⟨fun g => ?_, fun g => ?_⟩⟩
    · have e : allQ (nePt ps) i (ps.length - i) = false := by
        rw [allQ_step hi, show nePt ps i = false from by unfold nePt gP; rw [g]; rfl, Bool.false_and]
      refine ⟨by simp only [re_isP, e, cond_false], [], ?_⟩
      simp only [rs_isP, e, cond_false]
      repeat' (first | exact True.intro | exact rfl | exact fun _ => rfl | refine And.intro ?_ ?_)
    · have e : allQ (nePt ps) i (ps.length - i) = allQ (nePt ps) (i + 1) (ps.length - (i + 1)) := by
        rw [allQ_step hi, show nePt ps i = true from by unfold nePt gP; rw [g]; rfl, Bool.true_and]
      refine ⟨i + 1, [], ?_, ?_, by simp only [re_isP, e], by simp only [rs_isP, e], ?_⟩
      · show 1 ≤ i + 1; omega
      · show ps.length - (i + 1) < ps.length - i; omega
      · repeat' (first | exact True.intro | exact rfl | exact fun _ => rfl | refine And.intro ?_ ?_)
  · have hge := of_decide_eq_false hge
    have e : allQ (nePt ps) i (ps.length - i) = true := allQ_end (by omega)
    refine ⟨by simp only [re_isP, e, cond_true], [], ?_⟩
    simp only [rs_isP, e, cond_true]
    repeat' (first | exact True.intro | exact rfl | exact fun _ => rfl | refine And.intro ?_ ?_)
set_option maxRecDepth 100000 in
theorem lg_isP : LoopE Try.prog e_isP c_isP := by
  intro s k t F H hlt ht
  unfold e_isP at hlt
  split at hlt
  rotate_left
  · cases hlt
  rename_i hlen hpick hmem
  obtain ⟨tmps, mem⟩ := s
  simp only at hlen hpick hmem
  subst hmem
  obtain rfl := Option.some.inj hlt
  obtain ⟨⟨rfl, h1, h2, _⟩, ht2⟩ := needs_ok ht
  clear ht hlt
  obtain ⟨ps, rfl, rfl⟩ := even_flat h1
  rw [ptsA_flat] at ht2
  refine ⟨_, _, pick2k ht2, loop_run mixed ESm3_ok (s_isP ps) (inv_isP ps) (me_isP ps) (re_isP ps) (rs_isP ps) k_isP (fun _ => rfl) (noLoops nl_isP) (round_isP ps h2) (x := 1) (Nat.le_refl 1) (π := []) rfl ?_⟩
  refine ⟨rfl, rfl, ?_, wvs_spread' [0, 3] hlen rfl ?_⟩
  · repeat' (first | exact True.intro | exact rfl | exact wv_top _ _ | exact fun _ => rfl | assumption | exact Eq.symm (by assumption) | exact vI0 rfl | refine And.intro ?_ ?_)
  · rw [hpick]
    repeat' (first | exact True.intro | exact rfl | exact wv_top _ _ | exact fun _ => rfl | assumption | exact Eq.symm (by assumption) | exact vI0 rfl | refine And.intro ?_ ?_)
set_option maxRecDepth 100000 in
set_option maxHeartbeats 1000000 in
theorem round_vPa (ps : List Pt) (h : ps.length ≤ 1000000000) : Round_vPa ps := by
  intro i h1
  have h1 : 1 ≤ i := h1
  rw [tr_vPa]
  refine brT_ok.2 ⟨fun hlt => ?_, fun hge => ?_⟩
  · have hlt := of_decide_eq_true hlt
    have hi : i < ps.length := by omega
    have w : IntKind.i64.wrap ((i : Int) - 1) = ((i - 1 : Nat) : Int) := by rw [wr (by omega)]; omega
    rw [w, wsucc (n := ps.length) hi h]
    simp only [Int.toNat_natCast, Nat.zero_add, flat_get0, flat_get1, flat_length, eqP_is, Tree.ok]
    refine ⟨by omega, by omega, by omega, by omega, brT_ok.2 ⟨fun g => ?_, fun g => ?_⟩⟩
    · have e : allQ (nePt ps) i (ps.length - i) = false := by
        rw [allQ_step hi, show nePt ps i = false from by unfold nePt gP; rw [g]; rfl, Bool.false_and]
      refine ⟨by simp only [re_vPa, e, cond_false], [], ?_⟩
      simp only [rs_vPa, e, cond_false]
      repeat' (first | exact True.intro | exact rfl | exact fun _ => rfl | refine And.intro ?_ ?_)
    · have e : allQ (nePt ps) i (ps.length - i) = allQ (nePt ps) (i + 1) (ps.length - (i + 1)) := by
        rw [allQ_step hi, show nePt ps i = true from by unfold nePt gP; rw [g]; rfl, Bool.true_and]
      refine ⟨i + 1, [], ?_, ?_, by simp only [re_vPa, e], by simp only [rs_vPa, e], ?_⟩
      · show 1 ≤ i + 1; omega
      · show ps.length - (i + 1) < ps.length - i; omega
      · repeat' (first | exact True.intro | exact rfl | exact fun _ => rfl | refine And.intro ?_ ?_)
  · have hge := of_decide_eq_false hge
    have e : allQ (nePt ps) i (ps.length - i) = true := allQ_end (by omega)
    refine ⟨by simp only [re_vPa, e, cond_true], [], ?_⟩
    simp only [rs_vPa, e, cond_true]
    repeat' (first | exact True.intro | exact rfl | exact fun _ => rfl | refine And.intro ?_ ?_)
set_option maxRecDepth 100000 in
theorem lg_vPa : LoopE Try.prog e_vPa c_vPa := by
  intro s k t F H hlt ht
  unfold e_vPa at hlt
  split at hlt
  rotate_left
  · cases hlt
  rename_i hlen hpick hmem
  obtain ⟨tmps, mem⟩ := s
  simp only at hlen hpick hmem
  subst hmem
  obtain rfl := Option.some.inj hlt
  obtain ⟨⟨rfl, h1, h2, _⟩, ht2⟩ := needs_ok ht
  clear ht hlt
  obtain ⟨ps, rfl, rfl⟩ := even_flat h1
  rw [ptsA_flat] at ht2
  refine ⟨_, _, pick2k ht2, loop_run mixed ESm3_ok (s_vPa ps) (inv_vPa ps) (me_vPa ps) (re_vPa ps) (rs_vPa ps) k_vPa (fun _ => rfl) (noLoops nl_vPa) (round_vPa ps h2) (x := 1) (Nat.le_refl 1) (π := []) rfl ?_⟩
  refine ⟨rfl, rfl, ?_, wvs_spread' [0, 3] hlen rfl ?_⟩
  · repeat' (first | exact True.intro | exact rfl | exact wv_top _ _ | exact fun _ => rfl | assumption | exact Eq.symm (by assumption) | exact vI0 rfl | refine And.intro ?_ ?_)
  · rw [hpick]
    repeat' (first | exact True.intro | exact rfl | exact wv_top _ _ | exact fun _ => rfl | assumption | exact Eq.symm (by assumption) | exact vI0 rfl | refine And.intro ?_ ?_)
set_option maxRecDepth 100000 in
set_option maxHeartbeats 1000000 in
theorem round_ae2 (n : Nat) (ks : List Int) (hn : n ≤ ks.length) (h : n ≤ 1000000000) : Round_ae2 n ks := by
  intro i h1
  have h1 : 1 ≤ i := h1
  rw [tr_ae2]
  refine brT_ok.2 ⟨fun hlt => ?_, fun hge => ?_⟩
  · have hlt := of_decide_eq_true hlt
    have hi : i < n := by omega
    have w : IntKind.i64.wrap ((i : Int) - 1) = ((i - 1 : Nat) : Int) := by rw [wr (by omega)]; omega
    rw [w, wsucc (n := n) hi h]
    simp only [Int.toNat_natCast, Nat.zero_add, Nat.mul_one, Tree.ok]
    refine ⟨by omega, by omega, by omega, by omega, brT_ok.2 ⟨fun g => ?_, fun g => ?_⟩⟩
    · have e : allQ (ascQ ks) i (n - i) = false := by
        rw [allQ_step hi, show ascQ ks i = false from by have := of_decide_eq_true g; exact decide_eq_false (by omega), Bool.false_and]
      refine ⟨by simp only [re_ae2, e, cond_false], [], ?_⟩
      simp only [rs_ae2, e, cond_false]
      repeat' (first | exact True.intro | exact rfl | exact fun _ => rfl | refine And.intro ?_ ?_)
    · have e : allQ (ascQ ks) i (n - i) = allQ (ascQ ks) (i + 1) (n - (i + 1)) := by
        rw [allQ_step hi, show ascQ ks i = true from by have := of_decide_eq_false g; exact decide_eq_true (by omega), Bool.true_and]
      refine ⟨i + 1, [], ?_, ?_, by simp only [re_ae2, e], by simp only [rs_ae2, e], ?_⟩
      · show 1 ≤ i + 1; omega
      · show n - (i + 1) < n - i; omega
      · repeat' (first | exact True.intro | exact rfl | exact fun _ => rfl | refine And.intro ?_ ?_)
  · have hge := of_decide_eq_false hge
    have e : allQ (ascQ ks) i (n - i) = true := allQ_end (by omega)
    refine ⟨by simp only [re_ae2, e, cond_true], [], ?_⟩
    simp only [rs_ae2, e, cond_true]
    repeat' (first | exact True.intro | exact rfl | exact fun _ => rfl | refine And.intro ?_ ?_)
set_option maxRecDepth 100000 in
theorem lg_ae2 : LoopE Try.prog e_ae2 c_ae2 := by
  intro s k t F H hlt ht
  unfold e_ae2 at hlt
  split at hlt
  rotate_left
  · cases hlt
  rename_i hlen hpick hmem
  obtain ⟨tmps, mem⟩ := s
  simp only at hlen hpick hmem
  subst hmem
  obtain rfl := Option.some.inj hlt
  obtain ⟨⟨rfl, rfl, h1, h2, _⟩, ht2⟩ := needs_ok ht
  clear ht hlt
  refine ⟨_, _, pick2k ht2, loop_run mixed ESm3_ok (s_ae2 _ _) (inv_ae2 _ _) (me_ae2 _ _) (re_ae2 _ _) (rs_ae2 _ _) k_ae2 (fun _ => rfl) (noLoops nl_ae2) (round_ae2 _ _ h1 h2) (x := 1) (Nat.le_refl 1) (π := []) rfl ?_⟩
  refine ⟨rfl, rfl, ?_, wvs_spread' [0, 5, 6] hlen rfl ?_⟩
  · repeat' (first | exact True.intro | exact rfl | exact wv_top _ _ | exact fun _ => rfl | assumption | exact Eq.symm (by assumption) | exact vI0 rfl | refine And.intro ?_ ?_)
  · rw [hpick]
    repeat' (first | exact True.intro | exact rfl | exact wv_top _ _ | exact fun _ => rfl | assumption | exact Eq.symm (by assumption) | exact vI0 rfl | refine And.intro ?_ ?_)
set_option maxRecDepth 100000 in
set_option maxHeartbeats 1000000 in
theorem round_iCo (ps : List Pt) (most : Int) (n : Nat) (ks : List Int) (hl : ps.length ≤ 1000) (hv : allV ps = true) (hn : n ≤ ks.length) (h : n ≤ 1000000000) (h6 : ∀ j, 1 ≤ j → j < n → 0 ≤ ks.getD (j - 1) 0 ∧ ks.getD (j - 1) 0 < ks.getD j 0 ∧ ks.getD j 0 < ps.length) (h7 : 0 ≤ most ∧ most ≤ 8000000) : Round_iCo ps most n ks := by
  intro i h1
  have h1 : 1 ≤ i := h1
  rw [tr_iCo]
  refine brT_ok.2 ⟨fun hlt => ?_, fun hge => ?_⟩
  · have hlt := of_decide_eq_true hlt
    have hi : i < n := by omega
    have w : IntKind.i64.wrap ((i : Int) - 1) = ((i - 1 : Nat) : Int) := by rw [wr (by omega)]; omega
    have hj := h6 i h1 hi
    have fl := flat_length ps
    rw [w, wsucc (n := n) hi h]
    simp only [List.drop_zero, ptsA_flat, Int.toNat_natCast, Nat.zero_add, Nat.mul_one, Tree.ok]
    refine ⟨by omega, hl, hv, by omega, by omega, h7, by omega, by omega, by omega, by omega, brT_ok.2 ⟨fun g => ?_, fun g => ?_⟩⟩
    · have e : allQ (stQ ps most ks) i (n - i) = false := by
        rw [allQ_step hi, show stQ ps most ks i = false from by unfold stQ kA; simpa using g, Bool.false_and]
      refine ⟨by simp only [re_iCo, e, cond_false], [], ?_⟩
      simp only [rs_iCo, e, cond_false]
      repeat' (first | exact True.intro | exact rfl | exact fun _ => rfl | refine And.intro ?_ ?_)
    · have e : allQ (stQ ps most ks) i (n - i) = allQ (stQ ps most ks) (i + 1) (n - (i + 1)) := by
        rw [allQ_step hi, show stQ ps most ks i = true from by unfold stQ kA; simpa using g, Bool.true_and]
      refine ⟨i + 1, [], ?_, ?_, by simp only [re_iCo, e], by simp only [rs_iCo, e], ?_⟩
      · show 1 ≤ i + 1; omega
      · show n - (i + 1) < n - i; omega
      · repeat' (first | exact True.intro | exact rfl | exact fun _ => rfl | refine And.intro ?_ ?_)
  · have hge := of_decide_eq_false hge
    have e : allQ (stQ ps most ks) i (n - i) = true := allQ_end (by omega)
    refine ⟨by simp only [re_iCo, e, cond_true], [], ?_⟩
    simp only [rs_iCo, e, cond_true]
    repeat' (first | exact True.intro | exact rfl | exact fun _ => rfl | refine And.intro ?_ ?_)
set_option maxRecDepth 100000 in
theorem lg_iCo : LoopE Try.prog e_iCo c_iCo := by
  intro s k t F H hlt ht
  unfold e_iCo at hlt
  split at hlt
  rotate_left
  · cases hlt
  rename_i hlen hpick hmem
  obtain ⟨tmps, mem⟩ := s
  simp only at hlen hpick hmem
  subst hmem
  obtain rfl := Option.some.inj hlt
  obtain ⟨⟨rfl, h1, h2, h3, h4, h5, h6, h7, _⟩, ht2⟩ := needs_ok ht
  clear ht hlt
  obtain ⟨ps, rfl, rfl⟩ := even_flat h1
  rw [ptsA_flat] at ht2 h3
  refine ⟨_, _, pick2k ht2, loop_run mixed ESm3_ok (s_iCo ps _ _ _) (inv_iCo ps _ _ _) (me_iCo ps _ _ _) (re_iCo ps _ _ _) (rs_iCo ps _ _ _) k_iCo (fun _ => rfl) (noLoops nl_iCo) (round_iCo ps _ _ _ h2 h3 h4 h5 h6 h7) (x := 1) (Nat.le_refl 1) (π := []) rfl ?_⟩
  refine ⟨rfl, rfl, ?_, wvs_spread' [0, 1, 2, 7] hlen rfl ?_⟩
  · repeat' (first | exact True.intro | exact rfl | exact wv_top _ _ | exact fun _ => rfl | assumption | exact Eq.symm (by assumption) | exact vI0 rfl | refine And.intro ?_ ?_)
  · rw [hpick]
    repeat' (first | exact True.intro | exact rfl | exact wv_top _ _ | exact fun _ => rfl | assumption | exact Eq.symm (by assumption) | exact vI0 rfl | refine And.intro ?_ ?_)
theorem allQ_at {P : Nat → Bool} {i n : Nat} (h : allQ P i (n - i) = true) {j : Nat} (h1 : i ≤ j) (h2 : j < n) : P j = true := allQ_get (n - i) i h j h1 (by omega)
set_option maxRecDepth 100000 in
set_option maxHeartbeats 1000000 in
theorem round_sCi (ps : List Pt) (most : Int) (n : Nat) (ks : List Int) (i : Nat) (hl : ps.length ≤ 1000) (hv : allV ps = true) (hn : n ≤ ks.length) (h : n ≤ 1000000000) (h6 : 0 ≤ ks.getD (i - 1) 0 ∧ ks.getD (i - 1) 0 < ks.getD i 0 ∧ ks.getD i 0 < ps.length) (h7 : 0 ≤ most ∧ most ≤ 8000000) (h0 : 1 ≤ i ∧ i < n) : Round_sCi ps most n ks i := by
  intro k h1
  have h1 : k ≤ kA ks i := h1
  rw [tr_sCi]
  have ka : ks.getD i 0 = (kA ks i : Int) := (Int.toNat_of_nonneg (by omega)).symm
  have kb : ks.getD (i - 1) 0 = (kA ks (i - 1) : Int) := (Int.toNat_of_nonneg h6.1).symm
  have w : IntKind.i64.wrap ((i : Int) - 1) = ((i - 1 : Nat) : Int) := by rw [wr (by omega)]; omega
  have fl := flat_length ps
  simp only [w, List.drop_zero, ptsA_flat, Int.toNat_natCast, Nat.zero_add, Nat.mul_one, ka, kb]
  rw [ka, kb] at h6
  refine ⟨by omega, by omega, brT_ok.2 ⟨fun hlt => ?_, fun hge => ?_⟩⟩
  · have hlt := of_decide_eq_true hlt
    have hi : k < kA ks i := by omega
    have d := dv_bd (gP_v hv (kA ks (i - 1))) (gP_v hv (kA ks i)) (gP_v hv k)
    have mm := mul_bd (x := most) (y := dvD (gP ps (kA ks (i - 1))) (gP ps (kA ks i)) (gP ps k)) 8000000 8000000 (by omega) (by omega)
    rw [wr (x := most * dvD (gP ps (kA ks (i - 1))) (gP ps (kA ks i)) (gP ps k)) (by omega), wsucc (n := 1000) (show k < 1000 by omega) (by decide)]
    simp only [Tree.ok]
    refine ⟨by omega, hl, hv, by omega, by omega, by omega, by omega, by omega, by omega, by omega, brT_ok.2 ⟨fun g => ?_, fun g => ?_⟩⟩
    · have e : allQ (dvQ ps (kA ks (i - 1)) (kA ks i) most) k (kA ks i - k) = false := by
        rw [allQ_step hi, show dvQ ps (kA ks (i - 1)) (kA ks i) most k = false from by have := of_decide_eq_true g; exact decide_eq_false (by omega), Bool.false_and]
      refine ⟨by simp only [re_sCi, e, cond_false], [], ?_⟩
      simp only [rs_sCi, e, cond_false]
      repeat' (first | exact True.intro | exact rfl | exact fun _ => rfl | refine And.intro ?_ ?_)
    · have e : allQ (dvQ ps (kA ks (i - 1)) (kA ks i) most) k (kA ks i - k) = allQ (dvQ ps (kA ks (i - 1)) (kA ks i) most) (k + 1) (kA ks i - (k + 1)) := by
        rw [allQ_step hi, show dvQ ps (kA ks (i - 1)) (kA ks i) most k = true from by have := of_decide_eq_false g; exact decide_eq_true (by omega), Bool.true_and]
      refine ⟨k + 1, [], ?_, ?_, by simp only [re_sCi, e], by simp only [rs_sCi, e], ?_⟩
      · show k + 1 ≤ kA ks i; omega
      · show kA ks i - (k + 1) < kA ks i - k; omega
      · repeat' (first | exact True.intro | exact rfl | exact fun _ => rfl | refine And.intro ?_ ?_)
  · have hge := of_decide_eq_false hge
    have e : allQ (dvQ ps (kA ks (i - 1)) (kA ks i) most) k (kA ks i - k) = true := allQ_end (by omega)
    refine ⟨by simp only [re_sCi, e, cond_true], [], ?_⟩
    simp only [rs_sCi, e, cond_true]
    repeat' (first | exact True.intro | exact rfl | exact fun _ => rfl | refine And.intro ?_ ?_)
set_option maxRecDepth 100000 in
theorem lg_sCi : LoopE Try.prog e_sCi c_sCi := by
  intro s k t F H hlt ht
  unfold e_sCi at hlt
  split at hlt
  rotate_left
  · cases hlt
  rename_i hlen hpick hmem
  obtain ⟨tmps, mem⟩ := s
  simp only at hlen hpick hmem
  subst hmem
  obtain rfl := Option.some.inj hlt
  obtain ⟨⟨h0, h8, h1, h2, h3, h4, h5, h6, h7, _⟩, ht2⟩ := needs_ok ht
  clear ht hlt
  obtain ⟨ps, rfl, rfl⟩ := even_flat h1
  obtain ⟨i, rfl⟩ := Int.eq_ofNat_of_zero_le (show 0 ≤ _ from Int.le_trans (by decide) h0.1)
  rw [ptsA_flat] at ht2 h3
  simp only [Int.toNat_natCast] at ht2 h6 h8
  have hk := Int.toNat_of_nonneg h6.1
  rw [← hk] at h8
  subst h8
  refine ⟨_, _, pick2k ht2, loop_run mixed ESm3_ok (s_sCi ps _ _ _ i) (inv_sCi ps _ _ _ i) (me_sCi ps _ _ _ i) (re_sCi ps _ _ _ i) (rs_sCi ps _ _ _ i) k_sCi (fun _ => rfl) (noLoops nl_sCi) (round_sCi ps _ _ _ i h2 h3 h4 h5 h6 h7 (by omega)) (x := (kA _ (i - 1))) (Int.toNat_le_toNat (by omega)) (π := []) rfl ?_⟩
  refine ⟨rfl, rfl, ?_, wvs_spread' [0, 1, 2, 7, 8] hlen rfl ?_⟩
  · repeat' (first | exact True.intro | exact rfl | exact wv_top _ _ | exact fun _ => rfl | assumption | exact Eq.symm (by assumption) | exact vI0 rfl | refine And.intro ?_ ?_)
  · rw [hpick]
    repeat' (first | exact True.intro | exact rfl | exact wv_top _ _ | exact fun _ => rfl | assumption | exact Eq.symm (by assumption) | exact vI0 rfl | refine And.intro ?_ ?_)
end Go.Proofs.Ytolodncpegajkab
namespace Go.Proofs.Ytolodncpegajkab
set_option linter.all false
open Go.RowKit
def okI (ps : List Pt) (most : Int) (ks : List Int) (i : Nat) : Bool := ascQ ks i && (decide (ks.getD i 0 < ps.length) && allQ (dvQ ps (kA ks (i - 1)) (kA ks i) most) (kA ks (i - 1)) (kA ks i - kA ks (i - 1)))
def ltCo : LT := fun j s k => match j with
  | 1 => e_sCi s k
  | _ => none
noncomputable def c_sCo : Code := ((loopsOf (codeOf Try.f33))[0]?).getD .skip
def k_sCo : Ex → List Nat := keeps [0, 1, 2, 7] [(0, [])] [6]
def s_sCo (ps : List Pt) (most : Int) (n : Nat) (ks : List Int) : Nat → St := fun i => ⟨(.slice (some ⟨0, 0, none⟩) ps.length ps.length :: .int .i64 most :: .slice (some ⟨2, 0, none⟩) n n :: topV :: topV :: topV :: topV :: .int .i64 i :: topV :: topV :: topV :: topV :: topV :: topV :: topV :: topV :: topV :: topV :: topV :: topV :: topV :: topV :: topV :: topV :: topV :: topV :: topV :: topV :: topV :: topV :: topV :: topV :: topV :: topV :: topV :: topV :: topV :: topV :: topV :: topV :: topV :: topV :: topV :: topV :: topV :: topV :: topV :: topV :: topV :: topV :: topV :: topV :: topV :: topV :: topV :: topV :: topV :: topV :: topV :: topV :: topV :: topV :: topV :: topV :: topV :: topV :: topV :: topV :: topV :: topV :: topV :: topV :: topV :: topV :: topV :: topV :: topV :: topV :: topV :: topV :: topV :: topV :: topV :: topV :: topV :: topV :: topV :: topV :: topV :: topV :: topV :: topV :: topV :: topV :: topV :: topV :: topV :: topV :: topV :: topV :: []), [some ⟨.view, .ints (flat ps)⟩, none, some ⟨.view, .ints ks⟩]⟩
def re_sCo (ps : List Pt) (most : Int) (n : Nat) (ks : List Int) : Nat → Ex := fun i => bif allQ (okI ps most ks) i (n - i) then .exit 0 else .ret
def rs_sCo (ps : List Pt) (most : Int) (n : Nat) (ks : List Int) : Nat → St := fun i => bif allQ (okI ps most ks) i (n - i) then ⟨(topV :: topV :: topV :: topV :: topV :: topV :: topV :: topV :: topV :: topV :: topV :: topV :: topV :: topV :: topV :: topV :: topV :: topV :: topV :: topV :: topV :: topV :: topV :: topV :: topV :: topV :: topV :: topV :: topV :: topV :: topV :: topV :: topV :: topV :: topV :: topV :: topV :: topV :: topV :: topV :: topV :: topV :: topV :: topV :: topV :: topV :: topV :: topV :: topV :: topV :: topV :: topV :: topV :: topV :: topV :: topV :: topV :: topV :: topV :: topV :: topV :: topV :: topV :: topV :: topV :: topV :: topV :: topV :: topV :: topV :: topV :: topV :: topV :: topV :: topV :: topV :: topV :: topV :: topV :: topV :: topV :: topV :: topV :: topV :: topV :: topV :: topV :: topV :: topV :: topV :: topV :: topV :: topV :: topV :: topV :: topV :: topV :: topV :: topV :: topV :: []), [some ⟨.view, .ints (flat ps)⟩, none, some ⟨.view, .ints ks⟩]⟩ else ⟨(topV :: topV :: topV :: topV :: topV :: topV :: .bool false :: topV :: topV :: topV :: topV :: topV :: topV :: topV :: topV :: topV :: topV :: topV :: topV :: topV :: topV :: topV :: topV :: topV :: topV :: topV :: topV :: topV :: topV :: topV :: topV :: topV :: topV :: topV :: topV :: topV :: topV :: topV :: topV :: topV :: topV :: topV :: topV :: topV :: topV :: topV :: topV :: topV :: topV :: topV :: topV :: topV :: topV :: topV :: topV :: topV :: topV :: topV :: topV :: topV :: topV :: topV :: topV :: topV :: topV :: topV :: topV :: topV :: topV :: topV :: topV :: topV :: topV :: topV :: topV :: topV :: topV :: topV :: topV :: topV :: topV :: topV :: topV :: topV :: topV :: topV :: topV :: topV :: topV :: topV :: topV :: topV :: topV :: topV :: topV :: topV :: topV :: topV :: topV :: topV :: []), [some ⟨.view, .ints (flat ps)⟩, none, some ⟨.view, .ints ks⟩]⟩
set_option maxRecDepth 100000 in
theorem tr_sCo (ps : List Pt) (most : Int) (n : Nat) (ks : List Int) (i : Nat) : bodyL Try.prog ESm3 30 12 ltCo 1 c_sCo k_sCo 3 (s_sCo ps most n ks i) = brT (decide ((↑i : Int) < (↑n : Int))) (brT (decide (ks.getD (0 + (↑i : Int).toNat * 1) 0 ≤ ks.getD (0 + (IntKind.i64.wrap ((↑i : Int) - 1)).toNat * 1) 0)) (.need ((0 : Int) ≤ (↑i : Int) ∧ (↑i : Int) < (↑n : Int)) (.need ((0 : Nat) + (↑i : Int).toNat * (1 : Nat) < ks.length) (.need ((0 : Int) ≤ IntKind.i64.wrap ((↑i : Int) - (1 : Int)) ∧ IntKind.i64.wrap ((↑i : Int) - (1 : Int)) < (↑n : Int)) (.need ((0 : Nat) + (IntKind.i64.wrap ((↑i : Int) - (1 : Int))).toNat * (1 : Nat) < ks.length) (.leaf .ret ⟨(topV :: topV :: topV :: topV :: topV :: topV :: .bool (false) :: topV :: topV :: topV :: topV :: topV :: topV :: topV :: topV :: topV :: topV :: topV :: topV :: topV :: topV :: topV :: topV :: topV :: topV :: topV :: topV :: topV :: topV :: topV :: topV :: topV :: topV :: topV :: topV :: topV :: topV :: topV :: topV :: topV :: topV :: topV :: topV :: topV :: topV :: topV :: topV :: topV :: topV :: topV :: topV :: topV :: topV :: topV :: topV :: topV :: topV :: topV :: topV :: topV :: topV :: topV :: topV :: topV :: topV :: topV :: topV :: topV :: topV :: topV :: topV :: topV :: topV :: topV :: topV :: topV :: topV :: topV :: topV :: topV :: topV :: topV :: topV :: topV :: topV :: topV :: topV :: topV :: topV :: topV :: topV :: topV :: topV :: topV :: topV :: topV :: topV :: topV :: topV :: topV :: []), [some ⟨.view, .ints (flat ps)⟩, none, some ⟨.view, .ints (ks)⟩]⟩))))) (.need ((0 : Int) ≤ (↑i : Int) ∧ (↑i : Int) < (↑n : Int)) (.need ((0 : Nat) + (↑i : Int).toNat * (1 : Nat) < ks.length) (.need ((0 : Int) ≤ IntKind.i64.wrap ((↑i : Int) - (1 : Int)) ∧ IntKind.i64.wrap ((↑i : Int) - (1 : Int)) < (↑n : Int)) (.need ((0 : Nat) + (IntKind.i64.wrap ((↑i : Int) - (1 : Int))).toNat * (1 : Nat) < ks.length) (.need ((0 : Int) ≤ (↑i : Int) ∧ (↑i : Int) < (↑n : Int)) (.need ((0 : Nat) + (↑i : Int).toNat * (1 : Nat) < ks.length) (brT (decide ((↑ps.length : Int) ≤ ks.getD (0 + (↑i : Int).toNat * 1) 0)) (.leaf .ret ⟨(topV :: topV :: topV :: topV :: topV :: topV :: .bool (false) :: topV :: topV :: topV :: topV :: topV :: topV :: topV :: topV :: topV :: topV :: topV :: topV :: topV :: topV :: topV :: topV :: topV :: topV :: topV :: topV :: topV :: topV :: topV :: topV :: topV :: topV :: topV :: topV :: topV :: topV :: topV :: topV :: topV :: topV :: topV :: topV :: topV :: topV :: topV :: topV :: topV :: topV :: topV :: topV :: topV :: topV :: topV :: topV :: topV :: topV :: topV :: topV :: topV :: topV :: topV :: topV :: topV :: topV :: topV :: topV :: topV :: topV :: topV :: topV :: topV :: topV :: topV :: topV :: topV :: topV :: topV :: topV :: topV :: topV :: topV :: topV :: topV :: topV :: topV :: topV :: topV :: topV :: topV :: topV :: topV :: topV :: topV :: topV :: topV :: topV :: topV :: topV :: topV :: []), [some ⟨.view, .ints (flat ps)⟩, none, some ⟨.view, .ints (ks)⟩]⟩) (.need ((0 : Int) ≤ IntKind.i64.wrap ((↑i : Int) - (1 : Int)) ∧ IntKind.i64.wrap ((↑i : Int) - (1 : Int)) < (↑n : Int)) (.need ((0 : Nat) + (IntKind.i64.wrap ((↑i : Int) - (1 : Int))).toNat * (1 : Nat) < ks.length) (.need ((1 : Int) ≤ (↑i : Int) ∧ (↑i : Int) < (↑n : Int)) (.need (ks.getD ((0 : Nat) + (IntKind.i64.wrap ((↑i : Int) - (1 : Int))).toNat * (1 : Nat)) (0 : Int) = ks.getD ((↑i : Int).toNat - (1 : Nat)) (0 : Int)) (.need ((flat ps).length = ps.length * (2 : Nat)) (.need (ps.length ≤ (1000 : Nat)) (.need (allV (ptsA ps.length (flat ps)) = true) (.need (n ≤ ks.length) (.need (n ≤ (1000000000 : Nat)) (.need ((0 : Int) ≤ ks.getD ((↑i : Int).toNat - (1 : Nat)) (0 : Int) ∧ ks.getD ((↑i : Int).toNat - (1 : Nat)) (0 : Int) < ks.getD (↑i : Int).toNat (0 : Int) ∧ ks.getD (↑i : Int).toNat (0 : Int) < (↑ps.length : Int)) (.need ((0 : Int) ≤ most ∧ most ≤ (8000000 : Int)) (brT (allQ (dvQ (ptsA ps.length (flat ps)) (kA ks ((↑i : Int).toNat - 1)) (kA ks (↑i : Int).toNat) most) (kA ks ((↑i : Int).toNat - 1)) (kA ks (↑i : Int).toNat - kA ks ((↑i : Int).toNat - 1))) (.leaf .normal ⟨(.slice (some ⟨0, 0, none⟩) (ps.length) (ps.length) :: .int .i64 (most) :: .slice (some ⟨2, 0, none⟩) (n) (n) :: topV :: topV :: topV :: topV :: .int .i64 (IntKind.i64.wrap ((↑i : Int) + 1)) :: topV :: topV :: topV :: topV :: topV :: topV :: topV :: topV :: topV :: topV :: topV :: topV :: topV :: topV :: topV :: topV :: topV :: topV :: topV :: topV :: topV :: topV :: topV :: topV :: topV :: topV :: topV :: topV :: topV :: topV :: topV :: topV :: topV :: topV :: topV :: topV :: topV :: topV :: topV :: topV :: topV :: topV :: topV :: topV :: topV :: topV :: topV :: topV :: topV :: topV :: topV :: topV :: topV :: topV :: topV :: topV :: topV :: topV :: topV :: topV :: topV :: topV :: topV :: topV :: topV :: topV :: topV :: topV :: topV :: topV :: topV :: topV :: topV :: topV :: topV :: topV :: topV :: topV :: topV :: topV :: topV :: topV :: topV :: topV :: topV :: topV :: topV :: topV :: topV :: topV :: topV :: topV :: []), [some ⟨.view, .ints (flat ps)⟩, none, some ⟨.view, .ints (ks)⟩]⟩) (.leaf .ret ⟨(topV :: topV :: topV :: topV :: topV :: topV :: .bool (false) :: topV :: topV :: topV :: topV :: topV :: topV :: topV :: topV :: topV :: topV :: topV :: topV :: topV :: topV :: topV :: topV :: topV :: topV :: topV :: topV :: topV :: topV :: topV :: topV :: topV :: topV :: topV :: topV :: topV :: topV :: topV :: topV :: topV :: topV :: topV :: topV :: topV :: topV :: topV :: topV :: topV :: topV :: topV :: topV :: topV :: topV :: topV :: topV :: topV :: topV :: topV :: topV :: topV :: topV :: topV :: topV :: topV :: topV :: topV :: topV :: topV :: topV :: topV :: topV :: topV :: topV :: topV :: topV :: topV :: topV :: topV :: topV :: topV :: topV :: topV :: topV :: topV :: topV :: topV :: topV :: topV :: topV :: topV :: topV :: topV :: topV :: topV :: topV :: topV :: topV :: topV :: topV :: topV :: []), [some ⟨.view, .ints (flat ps)⟩, none, some ⟨.view, .ints (ks)⟩]⟩))))))))))))))))))))) (.leaf (.exit 0) ⟨(topV :: topV :: topV :: topV :: topV :: topV :: topV :: topV :: topV :: topV :: topV :: topV :: topV :: topV :: topV :: topV :: topV :: topV :: topV :: topV :: topV :: topV :: topV :: topV :: topV :: topV :: topV :: topV :: topV :: topV :: topV :: topV :: topV :: topV :: topV :: topV :: topV :: topV :: topV :: topV :: topV :: topV :: topV :: topV :: topV :: topV :: topV :: topV :: topV :: topV :: topV :: topV :: topV :: topV :: topV :: topV :: topV :: topV :: topV :: topV :: topV :: topV :: topV :: topV :: topV :: topV :: topV :: topV :: topV :: topV :: topV :: topV :: topV :: topV :: topV :: topV :: topV :: topV :: topV :: topV :: topV :: topV :: topV :: topV :: topV :: topV :: topV :: topV :: topV :: topV :: topV :: topV :: topV :: topV :: topV :: topV :: topV :: topV :: topV :: topV :: []), [some ⟨.view, .ints (flat ps)⟩, none, some ⟨.view, .ints (ks)⟩]⟩) := by kernel_rfl
def inv_sCo (ps : List Pt) (most : Int) (n : Nat) (ks : List Int) : Nat → Prop := fun i => 1 ≤ i ∧ (i ≤ n → 0 ≤ ks.getD (i - 1) 0 ∧ ks.getD (i - 1) 0 < ps.length)
def me_sCo (ps : List Pt) (most : Int) (n : Nat) (ks : List Int) : Nat → Nat := fun i => n - i
/-- A round of this loop. -/
def Round_sCo (ps : List Pt) (most : Int) (n : Nat) (ks : List Int) : Prop := ∀ xx : Nat, inv_sCo ps most n ks xx → (bodyL Try.prog ESm3 30 12 ltCo 1 c_sCo k_sCo 3 (s_sCo ps most n ks xx)).ok (RoundEnd 3 (s_sCo ps most n ks) (inv_sCo ps most n ks) (me_sCo ps most n ks) (re_sCo ps most n ks) (rs_sCo ps most n ks) xx) (fun _ _ => False)
def e_sCo (s : St) (k : Ex → St → Tree) : Option Tree := match Nat.beq s.tmps.length 100, pickL s.tmps [0, 1, 2, 7], s.mem with
  | true, [.slice (some ⟨0, 0, none⟩) l _, .int .i64 most, .slice (some ⟨2, 0, none⟩) n _, .int .i64 ii], [some ⟨.view, .ints xs⟩, none, some ⟨.view, .ints ks⟩] => some (needs [ii = 1, xs.length = l * 2, l ≤ 1000, allV (ptsA l xs) = true, n ≤ ks.length, n ≤ 1000000000, 0 ≤ ks.getD 0 0 ∧ ks.getD 0 0 < l, 0 ≤ most ∧ most ≤ 8000000] (brT (allQ (okI (ptsA l xs) most ks) 1 (n - 1)) (k (.exit 0) ⟨(topV :: topV :: topV :: topV :: topV :: topV :: topV :: topV :: topV :: topV :: topV :: topV :: topV :: topV :: topV :: topV :: topV :: topV :: topV :: topV :: topV :: topV :: topV :: topV :: topV :: topV :: topV :: topV :: topV :: topV :: topV :: topV :: topV :: topV :: topV :: topV :: topV :: topV :: topV :: topV :: topV :: topV :: topV :: topV :: topV :: topV :: topV :: topV :: topV :: topV :: topV :: topV :: topV :: topV :: topV :: topV :: topV :: topV :: topV :: topV :: topV :: topV :: topV :: topV :: topV :: topV :: topV :: topV :: topV :: topV :: topV :: topV :: topV :: topV :: topV :: topV :: topV :: topV :: topV :: topV :: topV :: topV :: topV :: topV :: topV :: topV :: topV :: topV :: topV :: topV :: topV :: topV :: topV :: topV :: topV :: topV :: topV :: topV :: topV :: topV :: []), [some ⟨.view, .ints xs⟩, none, some ⟨.view, .ints ks⟩]⟩) (k .ret ⟨(topV :: topV :: topV :: topV :: topV :: topV :: .bool false :: topV :: topV :: topV :: topV :: topV :: topV :: topV :: topV :: topV :: topV :: topV :: topV :: topV :: topV :: topV :: topV :: topV :: topV :: topV :: topV :: topV :: topV :: topV :: topV :: topV :: topV :: topV :: topV :: topV :: topV :: topV :: topV :: topV :: topV :: topV :: topV :: topV :: topV :: topV :: topV :: topV :: topV :: topV :: topV :: topV :: topV :: topV :: topV :: topV :: topV :: topV :: topV :: topV :: topV :: topV :: topV :: topV :: topV :: topV :: topV :: topV :: topV :: topV :: topV :: topV :: topV :: topV :: topV :: topV :: topV :: topV :: topV :: topV :: topV :: topV :: topV :: topV :: topV :: topV :: topV :: topV :: topV :: topV :: topV :: topV :: topV :: topV :: topV :: topV :: topV :: topV :: topV :: topV :: []), [some ⟨.view, .ints xs⟩, none, some ⟨.view, .ints ks⟩]⟩)))
  | _, _, _ => none
set_option maxRecDepth 100000 in
theorem in_sCo : loopsOf c_sCo = [c_sCi] := by kernel_rfl
theorem ltCo_good : LoopsGood Try.prog ltCo 1 c_sCo := by
  intro i d hd s k t F H hlt ht
  rw [in_sCo] at hd
  cases i with
  | zero =>
    obtain rfl : c_sCi = d := by simpa using hd
    exact lg_sCi s k t F H hlt ht
  | succ i => simp at hd
set_option maxRecDepth 100000 in
set_option maxHeartbeats 1000000 in
theorem round_sCo (ps : List Pt) (most : Int) (n : Nat) (ks : List Int) (hl : ps.length ≤ 1000) (hv : allV ps = true) (hn : n ≤ ks.length) (h : n ≤ 1000000000) (h7 : 0 ≤ most ∧ most ≤ 8000000) : Round_sCo ps most n ks := by
  rintro i ⟨h1, h2⟩
  rw [tr_sCo]
  have fl := flat_length ps
  refine brT_ok.2 ⟨fun hlt => ?_, fun hge => ?_⟩
  · have hlt := of_decide_eq_true hlt
    have hi : i < n := by omega
    obtain ⟨h3, h4⟩ := h2 (by omega)
    have w : IntKind.i64.wrap ((i : Int) - 1) = ((i - 1 : Nat) : Int) := by rw [wr (by omega)]; omega
    rw [w, wsucc (n := n) hi h]
    simp only [ptsA_flat, Int.toNat_natCast, Nat.zero_add, Nat.mul_one, Tree.ok]
    refine brT_ok.2 ⟨fun g => ?_, fun g => ?_⟩
    · have g := of_decide_eq_true g
      have e : allQ (okI ps most ks) i (n - i) = false := by
        rw [allQ_step hi, show okI ps most ks i = false from by unfold okI ascQ; rw [decide_eq_false (by omega), Bool.false_and], Bool.false_and]
      simp only [Tree.ok]
      refine ⟨by omega, by omega, by omega, by omega, by simp only [re_sCo, e, cond_false], [], ?_⟩
      simp only [rs_sCo, e, cond_false]
      repeat' (first | exact True.intro | exact rfl | exact fun _ => rfl | refine And.intro ?_ ?_)
    · have g := of_decide_eq_false g
      have ga : ascQ ks i = true := decide_eq_true (by omega)
      simp only [Tree.ok]
      repeat (refine And.intro (by omega) ?_)
      refine brT_ok.2 ⟨fun g2 => ?_, fun g2 => ?_⟩
      · have g2 := of_decide_eq_true g2
        have e : allQ (okI ps most ks) i (n - i) = false := by
          rw [allQ_step hi, show okI ps most ks i = false from by unfold okI; rw [decide_eq_false (show ¬ ks.getD i 0 < ps.length by omega), Bool.false_and, Bool.and_false], Bool.false_and]
        refine ⟨by simp only [re_sCo, e, cond_false], [], ?_⟩
        simp only [rs_sCo, e, cond_false]
        repeat' (first | exact True.intro | exact rfl | exact fun _ => rfl | refine And.intro ?_ ?_)
      · have g2 := of_decide_eq_false g2
        have gb : okI ps most ks i = allQ (dvQ ps (kA ks (i - 1)) (kA ks i) most) (kA ks (i - 1)) (kA ks i - kA ks (i - 1)) := by unfold okI; rw [ga, decide_eq_true (show ks.getD i 0 < ps.length by omega), Bool.true_and, Bool.true_and]
        rw [← gb]
        simp only [Tree.ok]
        repeat (refine And.intro (by first | exact True.intro | assumption | omega) ?_)
        refine brT_ok.2 ⟨fun k => ?_, fun k => ?_⟩
        · have e : allQ (okI ps most ks) i (n - i) = allQ (okI ps most ks) (i + 1) (n - (i + 1)) := by rw [allQ_step hi, k, Bool.true_and]
          refine ⟨i + 1, [], ⟨by omega, fun _ => ?_⟩, ?_, by simp only [re_sCo, e], by simp only [rs_sCo, e], ?_⟩
          · rw [Nat.add_sub_cancel]; omega
          · show n - (i + 1) < n - i; omega
          · repeat' (first | exact True.intro | exact rfl | exact fun _ => rfl | refine And.intro ?_ ?_)
        · have e : allQ (okI ps most ks) i (n - i) = false := by rw [allQ_step hi, k, Bool.false_and]
          refine ⟨by simp only [re_sCo, e, cond_false], [], ?_⟩
          simp only [rs_sCo, e, cond_false]
          repeat' (first | exact True.intro | exact rfl | exact fun _ => rfl | refine And.intro ?_ ?_)
  · have hge := of_decide_eq_false hge
    have e : allQ (okI ps most ks) i (n - i) = true := allQ_end (by omega)
    refine ⟨by simp only [re_sCo, e, cond_true], [], ?_⟩
    simp only [rs_sCo, e, cond_true]
    repeat' (first | exact True.intro | exact rfl | exact fun _ => rfl | refine And.intro ?_ ?_)
set_option maxRecDepth 100000 in
theorem lg_sCo : LoopE Try.prog e_sCo c_sCo := by
  intro s k t F H hlt ht
  unfold e_sCo at hlt
  split at hlt
  rotate_left
  · cases hlt
  rename_i hlen hpick hmem
  obtain ⟨tmps, mem⟩ := s
  simp only at hlen hpick hmem
  subst hmem
  obtain rfl := Option.some.inj hlt
  obtain ⟨⟨rfl, h1, h2, h3, h4, h5, h6, h7, _⟩, ht2⟩ := needs_ok ht
  clear ht hlt
  obtain ⟨ps, rfl, rfl⟩ := even_flat h1
  rw [ptsA_flat] at ht2 h3
  refine ⟨_, _, pick2k ht2, loop_run mixed ESm3_ok (s_sCo ps _ _ _) (inv_sCo ps _ _ _) (me_sCo ps _ _ _) (re_sCo ps _ _ _) (rs_sCo ps _ _ _) k_sCo (fun _ => rfl) ltCo_good (round_sCo ps _ _ _ h2 h3 h4 h5 h7) (x := 1) ⟨Nat.le_refl 1, fun _ => h6⟩ (π := []) rfl ?_⟩
  refine ⟨rfl, rfl, ?_, wvs_spread' [0, 1, 2, 7] hlen rfl ?_⟩
  · repeat' (first | exact True.intro | exact rfl | exact wv_top _ _ | exact fun _ => rfl | assumption | exact Eq.symm (by assumption) | exact vI0 rfl | refine And.intro ?_ ?_)
  · rw [hpick]
    repeat' (first | exact True.intro | exact rfl | exact wv_top _ _ | exact fun _ => rfl | assumption | exact Eq.symm (by assumption) | exact vI0 rfl | refine And.intro ?_ ?_)
theorem mxN_max {f : Pt → Int} {qs : List Pt} : ∀ m j, j < m → f (qs.getD j (0, 0)) ≤ f (qs.getD (mxN f qs m) (0, 0))
  | 0, j, h => by omega
  | m + 1, j, h => by
    rw [mxN_st]
    have ih := fun hj => mxN_max (f := f) (qs := qs) m j hj
    split
    · rcases Nat.lt_or_ge j m with hj | hj
      · have := ih hj; omega
      · obtain rfl : j = m := by omega
        exact Int.le_refl _
    · rcases Nat.lt_or_ge j m with hj | hj
      · exact ih hj
      · obtain rfl : j = m := by omega
        omega
theorem allQ_mk {P : Nat → Bool} : ∀ (m i : Nat), (∀ j, i ≤ j → j < i + m → P j = true) → allQ P i m = true
  | 0, _, _ => rfl
  | m + 1, i, h => by
    simp only [allQ, Bool.and_eq_true]
    exact ⟨h i (Nat.le_refl _) (by omega), allQ_mk m (i + 1) fun j h1 h2 => h j (by omega) (by omega)⟩
theorem dvQ_sc {ps : List Pt} (hv : allV ps = true) (a b : Nat) (most : Int) (k : Nat) : dvQ ps a b most k = decide (scS (gP ps a) (gP ps b) (gP ps k) ≤ most * sclP (gP ps a) (gP ps b)) := by
  unfold dvQ
  refine decide_eq_decide.2 ?_
  have s := scl_pos (gP ps a) (gP ps b)
  have e := sc_dv (gP ps a) (gP ps b) (gP ps k)
  have d := (dv_bd (gP_v hv a) (gP_v hv b) (gP_v hv k)).2
  generalize scS (gP ps a) (gP ps b) (gP ps k) = F at *
  generalize dvN (gP ps a) (gP ps b) (gP ps k) = N at *
  generalize dvD (gP ps a) (gP ps b) (gP ps k) = D at *
  generalize sclP (gP ps a) (gP ps b) = S at *
  rw [← mul_le_iff (x := N) s, ← mul_le_iff (x := F) (s := D) (by omega), e, show most * D * S = most * S * D by grind]
/-- No point is to be kept where none is too far. -/
theorem all_stp {ps : List Pt} (hv : allV ps = true) {a b : Nat} (hab : a < b) (hb : b < ps.length) {most : Int} (hm : 0 ≤ most) : allQ (dvQ ps a b most) a (b - a) = stpB ps a b most := by
  have at0 : dvQ ps a b most a = true := by
    unfold dvQ
    rw [(dv_at _ _).1, (dv_at _ _).2]
    exact decide_eq_true (by omega)
  rcases Nat.eq_zero_or_pos (b - (a + 1)) with h0 | hp
  · have k : wrK ps a b = a := by unfold wrK; rw [h0]; rfl
    rw [allQ_step hab, at0, h0, Bool.true_and]
    unfold stpB
    rw [k, decide_eq_true rfl, Bool.true_or]
    rfl
  · obtain ⟨s1, _⟩ := stp_is hv hab hb hm (i := _) rfl hp
    rw [s1, ← dvQ_sc hv]
    have hlt := mxN_lt (fS (gP ps a) (gP ps b)) (subP ps (a + 1) (b - (a + 1))) (b - (a + 1)) hp
    have mx := fun j hj => mxN_max (f := fS (gP ps a) (gP ps b)) (qs := subP ps (a + 1) (b - (a + 1))) (b - (a + 1)) j hj
    generalize mxN (fS (gP ps a) (gP ps b)) (subP ps (a + 1) (b - (a + 1))) (b - (a + 1)) = i at *
    rw [Bool.eq_iff_iff]
    constructor
    · intro h
      exact allQ_get _ _ h _ (by omega) (by omega)
    · intro h
      refine allQ_mk _ _ fun j h1 h2 => ?_
      rcases Nat.eq_or_lt_of_le h1 with rfl | h1
      · exact at0
      · have m := mx (j - (a + 1)) (by omega)
        rw [subP_get (by omega), subP_get hlt, show a + 1 + (j - (a + 1)) = j by omega] at m
        rw [dvQ_sc hv] at h ⊢
        have h := of_decide_eq_true h
        change scS (gP ps a) (gP ps b) (gP ps j) ≤ scS (gP ps a) (gP ps b) (gP ps (a + 1 + i)) at m
        exact decide_eq_true (by omega)
/-- Are indices ascending? -/
theorem asc_le {ks : List Int} {n : Nat} (h : allQ (ascQ ks) 1 (n - 1) = true) : ∀ i j, i ≤ j → j < n → ks.getD i 0 ≤ ks.getD j 0
  | i, 0, h1, _ => by obtain rfl : i = 0 := by omega
                      exact Int.le_refl _
  | i, j + 1, h1, h2 => by
    rcases Nat.eq_or_lt_of_le h1 with rfl | h3
    · exact Int.le_refl _
    · have ih := asc_le h i j (by omega) (by omega)
      have := of_decide_eq_true (allQ_at (i := 1) (n := n) h (j := j + 1) (by omega) h2)
      rw [Nat.add_sub_cancel] at this
      omega
theorem ok_asc {ps : List Pt} (hv : allV ps = true) {most : Int} (hm : 0 ≤ most) {ks : List Int} {n : Nat} (hn : 0 < n) (h0 : ks.getD 0 0 = 0) (hl : ks.getD (n - 1) 0 = ps.length - 1) : allQ (okI ps most ks) 1 (n - 1) = (allQ (ascQ ks) 1 (n - 1) && allQ (stQ ps most ks) 1 (n - 1)) := by
  rcases ha : allQ (ascQ ks) 1 (n - 1) with _ | _
  · rw [Bool.false_and, Bool.eq_false_iff]
    intro h
    rw [Bool.eq_false_iff] at ha
    refine ha (allQ_mk _ _ fun j h1 h2 => ?_)
    have := allQ_get _ _ h j h1 h2
    unfold okI at this
    rw [Bool.and_eq_true] at this
    exact this.1
  · rw [Bool.true_and]
    have e : ∀ j, 1 ≤ j → j < 1 + (n - 1) → okI ps most ks j = stQ ps most ks j := by
      intro j h1 h2
      have a1 := allQ_get _ _ ha j h1 h2
      have a2 := asc_le ha 0 (j - 1) (by omega) (by omega)
      have a3 := asc_le ha j (n - 1) (by omega) (by omega)
      have a4 := of_decide_eq_true a1
      have k1 : kA ks (j - 1) < kA ks j := by unfold kA; omega
      have k2 : kA ks j < ps.length := by unfold kA; omega
      unfold okI stQ
      rw [a1, decide_eq_true (by omega), Bool.true_and, Bool.true_and, all_stp hv k1 k2 hm]
    rw [Bool.eq_iff_iff]
    exact ⟨fun h => allQ_mk _ _ fun j h1 h2 => by rw [← e j h1 h2]; exact allQ_get _ _ h j h1 h2, fun h => allQ_mk _ _ fun j h1 h2 => by rw [e j h1 h2]; exact allQ_get _ _ h j h1 h2⟩
theorem Lr_isP {fn : Func} (hf : Try.prog.funcs[67]? = some fn) : LoopsGood Try.prog (lt1 e_isP) 0 (codeOf fn) := by
  obtain rfl := fn_is Try.func67 hf
  exact lt1_good lg_isP
theorem Lr_vPa {fn : Func} (hf : Try.prog.funcs[70]? = some fn) : LoopsGood Try.prog (lt1 e_vPa) 0 (codeOf fn) := by
  obtain rfl := fn_is Try.func70 hf
  exact lt1_good lg_vPa
theorem Lr_ae2 {fn : Func} (hf : Try.prog.funcs[77]? = some fn) : LoopsGood Try.prog (lt1 e_ae2) 0 (codeOf fn) := by
  obtain rfl := fn_is Try.func77 hf
  exact lt1_good lg_ae2
def LSme : FuncId → LT := fun f => match f with
  | 67 => lt1 e_isP
  | 70 => lt1 e_vPa
  | 77 => lt1 e_ae2
  | _ => noL
def ESm4 : Env := mkE TSm2 R4 LSme
theorem ESm4_ok : EnvOk Try.prog ESm4 := mkEOk TSm2_ok R4_ok (by
  intro f fn hf
  unfold LSme
  split
  all_goals first | with_reducible exact Lr_isP hf | with_reducible exact Lr_vPa hf | with_reducible exact Lr_ae2 hf | exact noL_good)
set_option maxRecDepth 100000 in
theorem tr_isPF (ps : List Pt) : bodyV Try.prog ESm4 30 12 67 [.row ps.length (.ints (flat ps))] = brT (decide ((↑ps.length : Int) ≤ 20)) (.need (ps.length * (2 : Nat) ≤ (List.drop (0 : Nat) (flat ps)).length) (.need (ps.length ≤ (1000000000 : Nat)) (brT (!allV (ptsA ps.length (List.drop 0 (flat ps)))) (.fin (.bool (false)) []) (brT (decide ((↑ps.length : Int) < 2)) (.fin (.bool (false)) []) (.need ((1 : Int) = (1 : Int)) (.need ((flat ps).length = ps.length * (2 : Nat)) (.need (ps.length ≤ (1000000000 : Nat)) (brT (allQ (nePt (ptsA ps.length (flat ps))) 1 (ps.length - 1)) (.fin (.bool (true)) []) (.fin (.bool (false)) []))))))))) (.fin (.bool (false)) []) := by kernel_rfl
set_option maxRecDepth 100000 in
theorem tr_vPaF (ps : List Pt) : bodyV Try.prog ESm4 30 12 70 [.row ps.length (.ints (flat ps))] = .need ((1 : Int) = (1 : Int)) (.need ((flat ps).length = ps.length * (2 : Nat)) (.need (ps.length ≤ (1000000000 : Nat)) (brT (allQ (nePt (ptsA ps.length (flat ps))) 1 (ps.length - 1)) (.need (ps.length * (2 : Nat) ≤ (List.drop (0 : Nat) (flat ps)).length) (.need (ps.length ≤ (1000000000 : Nat)) (brT (okL (ptsA ps.length (List.drop 0 (flat ps)))) (.fin (.bool (decide (1 < (↑ps.length : Int)))) []) (.fin (.bool (false)) [])))) (.fin (.bool (false)) [])))) := by kernel_rfl
set_option maxRecDepth 100000 in
theorem tr_ae2F (n : Nat) (ks : List Int) (m : Int) : bodyV Try.prog ESm4 30 12 77 [.row n (.ints ks), .v (iv m)] = brT ((↑n : Int) == 0) (.fin (.bool (false)) []) (.need ((0 : Int) ≤ (0 : Int) ∧ (0 : Int) < (↑n : Int)) (.need ((0 : Nat) < ks.length) (brT (!ks.getD 0 0 == 0) (.fin (.bool (false)) []) (.need ((0 : Int) ≤ IntKind.i64.wrap ((↑n : Int) - (1 : Int)) ∧ IntKind.i64.wrap ((↑n : Int) - (1 : Int)) < (↑n : Int)) (.need ((0 : Nat) + (IntKind.i64.wrap ((↑n : Int) - (1 : Int))).toNat * (1 : Nat) < ks.length) (brT (!ks.getD (0 + (IntKind.i64.wrap ((↑n : Int) - 1)).toNat * 1) 0 == IntKind.i64.wrap (m - 1)) (.fin (.bool (false)) []) (.need ((1 : Int) = (1 : Int)) (.need ((↑n : Int) = (↑n : Int)) (.need (n ≤ ks.length) (.need (n ≤ (1000000000 : Nat)) (brT (allQ (ascQ ks) 1 (n - 1)) (.fin (.bool (true)) []) (.fin (.bool (false)) [])))))))))))) := by kernel_rfl
end Go.Proofs.Ytolodncpegajkab
namespace Go.Proofs.Ytolodncpegajkab
set_option linter.all false
open Go.RowKit
/-- Are points a path? -/
def pathB (ps : List Pt) : Bool := okL ps && (decide (2 ≤ ps.length) && allQ (nePt ps) 1 (ps.length - 1))
/-- Do indices lead from the first to the last? -/
def eeB (n : Nat) (ks : List Int) (m : Int) : Bool := decide (0 < n) && (decide (ks.getD 0 0 = 0) && (decide (ks.getD (n - 1) 0 = m - 1) && allQ (ascQ ks) 1 (n - 1)))
theorem okL_iff {ps : List Pt} : okL ps = true ↔ allV ps = true ∧ ps.length ≤ 20 := by
  unfold okL
  rw [Bool.and_eq_true, decide_eq_true_eq]
theorem path_iff {ps : List Pt} : pathB ps = true ↔ (allV ps = true ∧ ps.length ≤ 20) ∧ 2 ≤ ps.length ∧ allQ (nePt ps) 1 (ps.length - 1) = true := by
  unfold pathB
  rw [Bool.and_eq_true, Bool.and_eq_true, okL_iff, decide_eq_true_eq]
theorem res_isP (ps : List Pt) (h : Big ps) : Res Try.prog 67 [.row ps.length (.ints (flat ps))] (.bool (pathB ps)) := by
  refine bodyV_res mixed ESm4_ok (m := 30) (n := 12) rfl ?_
  rw [tr_isPF]
  unfold Big at h
  simp only [List.drop_zero, ptsA_flat, flat_length]
  unfold pathB okL
  by_cases h1 : ps.length ≤ 20
  · rw [decide_eq_true h1, decide_eq_true (show (ps.length : Int) ≤ 20 by omega), Bool.and_true]
    rcases allV ps with _ | _
    · simp only [brT_t, Bool.not_false, Tree.ok, Bool.false_and]
      repeat' (first | exact True.intro | exact rfl | assumption | omega | refine And.intro ?_ ?_)
    by_cases h2 : 2 ≤ ps.length
    · rw [decide_eq_true h2, decide_eq_false (show ¬ (ps.length : Int) < 2 by omega)]
      rcases allQ (nePt ps) 1 (ps.length - 1) with _ | _
      · repeat' (first | exact True.intro | exact rfl | assumption | omega | refine And.intro ?_ ?_)
      · repeat' (first | exact True.intro | exact rfl | assumption | omega | refine And.intro ?_ ?_)
    · rw [decide_eq_false h2, decide_eq_true (show (ps.length : Int) < 2 by omega)]
      repeat' (first | exact True.intro | exact rfl | assumption | omega | refine And.intro ?_ ?_)
  · rw [decide_eq_false h1, decide_eq_false (show ¬ (ps.length : Int) ≤ 20 by omega), Bool.and_false, Bool.false_and]
    exact rfl
theorem res_vPa (ps : List Pt) (h : Big ps) : Res Try.prog 70 [.row ps.length (.ints (flat ps))] (.bool (pathB ps)) := by
  refine bodyV_res mixed ESm4_ok (m := 30) (n := 12) rfl ?_
  rw [tr_vPaF]
  unfold Big at h
  simp only [List.drop_zero, ptsA_flat, flat_length]
  unfold pathB
  rcases allQ (nePt ps) 1 (ps.length - 1) with _ | _
  · rw [Bool.and_false, Bool.and_false]
    exact ⟨trivial, trivial, h, rfl⟩
  · rcases okL ps with _ | _
    · exact ⟨trivial, trivial, h, Nat.le_refl _, h, rfl⟩
    · refine ⟨trivial, trivial, h, Nat.le_refl _, h, ?_⟩
      rw [Bool.true_and, Bool.and_true]
      show Value.bool _ = Value.bool _
      rw [Value.bool.injEq]
      exact decide_eq_decide.2 (by omega)
theorem res_ae2 (n : Nat) (ks : List Int) (m : Int) (h1 : n ≤ ks.length) (h2 : n ≤ 1000000000) (h3 : 0 ≤ m ∧ m ≤ 1000000000) : Res Try.prog 77 [.row n (.ints ks), .v (iv m)] (.bool (eeB n ks m)) := by
  refine bodyV_res mixed ESm4_ok (m := 30) (n := 12) rfl ?_
  rw [tr_ae2F]
  unfold eeB
  rcases Nat.eq_zero_or_pos n with rfl | hp
  · exact rfl
  have w1 : IntKind.i64.wrap ((n : Int) - 1) = ((n - 1 : Nat) : Int) := by rw [wr (by omega)]; omega
  have w2 : IntKind.i64.wrap (m - 1) = m - 1 := wr (by omega)
  rw [w1, w2]
  simp only [Int.toNat_natCast, Nat.zero_add, Nat.mul_one]
  rw [decide_eq_true hp, Bool.true_and, show ((n : Int) == 0) = false from by simp; omega]
  simp only [brT_f, Tree.ok]
  refine ⟨by omega, by omega, ?_⟩
  by_cases g1 : ks.getD 0 0 = 0
  · rw [decide_eq_true g1, Bool.true_and, show (!ks.getD 0 0 == 0) = false from by rw [g1]; rfl]
    simp only [brT_f, Tree.ok]
    refine ⟨by omega, by omega, ?_⟩
    by_cases g2 : ks.getD (n - 1) 0 = m - 1
    · rw [decide_eq_true g2, Bool.true_and, show (!ks.getD (n - 1) 0 == m - 1) = false from by rw [g2]; simp]
      simp only [brT_f, Tree.ok]
      refine ⟨trivial, trivial, h1, h2, ?_⟩
      rcases allQ (ascQ ks) 1 (n - 1) with _ | _ <;> exact rfl
    · rw [decide_eq_false g2, Bool.false_and, show (!ks.getD (n - 1) 0 == m - 1) = true from by simpa using g2]
      exact rfl
  · rw [decide_eq_false g1, Bool.false_and, show (!ks.getD 0 0 == 0) = true from by simpa using g1]
    exact rfl
def pPath : List DArg → Option (Value × List Prop)
  | [.row m (.ints xs)] => some (.bool (pathB (ptsA m xs)), [m * 2 ≤ xs.length, m ≤ 1000000000])
  | _ => none
theorem pPath_ok {f : FuncId} (h0 : ∀ ps : List Pt, Big ps → Res Try.prog f [.row ps.length (.ints (flat ps))] (.bool (pathB ps))) {ds : List DArg} {v : Value} {C : List Prop} (h : pPath ds = some (v, C)) (hC : AllP C) : Res Try.prog f ds v := by
  unfold pPath at h
  split at h
  · obtain ⟨rfl, rfl⟩ : _ ∧ _ := by simpa using h
    obtain ⟨_, h2⟩ := ptsA_spec hC.1
    exact res_pts1 (pre := []) (post := []) hC.1 (h0 _ (by unfold Big; rw [h2]; exact hC.2.1))
  · cases h
theorem pPs_ok {ds : List DArg} {v : Value} {C : List Prop} (h : pPath ds = some (v, C)) (hC : AllP C) : Res Try.prog 70 ds v := pPath_ok res_vPa h hC
theorem pPi_ok {ds : List DArg} {v : Value} {C : List Prop} (h : pPath ds = some (v, C)) (hC : AllP C) : Res Try.prog 67 ds v := pPath_ok res_isP h hC
def pEe : List DArg → Option (Value × List Prop)
  | [.row n (.ints ks), .v (.int .i64 m)] => some (.bool (eeB n ks m), [n ≤ ks.length, n ≤ 1000000000, 0 ≤ m ∧ m ≤ 1000000000])
  | _ => none
theorem pEe_ok {ds : List DArg} {v : Value} {C : List Prop} (h : pEe ds = some (v, C)) (hC : AllP C) : Res Try.prog 77 ds v := by
  unfold pEe at h
  split at h
  · obtain ⟨rfl, rfl⟩ : _ ∧ _ := by simpa using h
    exact res_ae2 _ _ _ hC.1 hC.2.1 hC.2.2.1
  · cases h
def TSm3 : Tab := fun f ds => match f with
  | 70 => pPath ds
  | 67 => pPath ds
  | 77 => pEe ds
  | f => TSm2 f ds
theorem TSm3_ok : TabOk Try.prog TSm3 := by
  intro f ds v C h hC
  unfold TSm3 at h
  (try split at h)
  all_goals first | with_reducible exact pPs_ok h hC | with_reducible exact pPi_ok h hC | with_reducible exact pEe_ok h hC | exact TSm2_ok _ _ _ _ h hC
theorem Lr_iCo {fn : Func} (hf : Try.prog.funcs[32]? = some fn) : LoopsGood Try.prog (lt1 e_iCo) 0 (codeOf fn) := by
  obtain rfl := fn_is Try.func32 hf
  exact lt1_good lg_iCo
theorem Lr_sCo {fn : Func} (hf : Try.prog.funcs[33]? = some fn) : LoopsGood Try.prog (lt1 e_sCo) 0 (codeOf fn) := by
  obtain rfl := fn_is Try.func33 hf
  exact lt1_good lg_sCo
def LSmf : FuncId → LT := fun f => match f with
  | 32 => lt1 e_iCo
  | 33 => lt1 e_sCo
  | _ => noL
def ESm5 : Env := mkE TSm3 R4 LSmf
theorem ESm5_ok : EnvOk Try.prog ESm5 := mkEOk TSm3_ok R4_ok (by
  intro f fn hf
  unfold LSmf
  split
  all_goals first | with_reducible exact Lr_iCo hf | with_reducible exact Lr_sCo hf | exact noL_good)
set_option maxRecDepth 100000 in
theorem tr_iCoF (ps : List Pt) (most : Int) (n : Nat) (ks : List Int) : bodyV Try.prog ESm5 30 12 32 [.row ps.length (.ints (flat ps)), .v (iv most), .row n (.ints ks)] = .need (ps.length * (2 : Nat) ≤ (List.drop (0 : Nat) (flat ps)).length) (.need (ps.length ≤ (1000000000 : Nat)) (brT (!pathB (ptsA ps.length (List.drop 0 (flat ps)))) (.fin (.bool (false)) []) (brT (decide (0 ≤ most)) (brT (!decide (most ≤ 8000000)) (.fin (.bool (false)) []) (.need (n ≤ (List.drop (0 : Nat) ks).length) (.need (n ≤ (1000000000 : Nat)) (.need ((0 : Int) ≤ (↑ps.length : Int) ∧ (↑ps.length : Int) ≤ (1000000000 : Int)) (brT (!eeB n (List.drop 0 ks) (↑ps.length : Int)) (.fin (.bool (false)) []) (.need ((1 : Int) = (1 : Int)) (.need ((flat ps).length = ps.length * (2 : Nat)) (.need (ps.length ≤ (1000 : Nat)) (.need (allV (ptsA ps.length (flat ps)) = true) (.need (n ≤ ks.length) (.need (n ≤ (1000000000 : Nat)) (.need (∀ (j : Nat), (1 : Nat) ≤ j → j < n → (0 : Int) ≤ ks.getD (j - (1 : Nat)) (0 : Int) ∧ ks.getD (j - (1 : Nat)) (0 : Int) < ks.getD j (0 : Int) ∧ ks.getD j (0 : Int) < (↑ps.length : Int)) (.need ((0 : Int) ≤ most ∧ most ≤ (8000000 : Int)) (brT (allQ (stQ (ptsA ps.length (flat ps)) most ks) 1 (n - 1)) (.fin (.bool (true)) []) (.fin (.bool (false)) []))))))))))))))) (.fin (.bool (false)) [])))) := by kernel_rfl
set_option maxRecDepth 100000 in
theorem tr_sCoF (ps : List Pt) (most : Int) (n : Nat) (ks : List Int) : bodyV Try.prog ESm5 30 12 33 [.row ps.length (.ints (flat ps)), .v (iv most), .row n (.ints ks)] = .need (ps.length * (2 : Nat) ≤ (List.drop (0 : Nat) (flat ps)).length) (.need (ps.length ≤ (1000000000 : Nat)) (brT (!pathB (ptsA ps.length (List.drop 0 (flat ps)))) (.fin (.bool (false)) []) (brT (decide (0 ≤ most)) (brT (!decide (most ≤ 8000000)) (.fin (.bool (false)) []) (brT (decide ((↑n : Int) < 2)) (.fin (.bool (false)) []) (.need ((0 : Int) ≤ (0 : Int) ∧ (0 : Int) < (↑n : Int)) (.need ((0 : Nat) < ks.length) (brT (!ks.getD 0 0 == 0) (.fin (.bool (false)) []) (.need ((0 : Int) ≤ IntKind.i64.wrap ((↑n : Int) - (1 : Int)) ∧ IntKind.i64.wrap ((↑n : Int) - (1 : Int)) < (↑n : Int)) (.need ((0 : Nat) + (IntKind.i64.wrap ((↑n : Int) - (1 : Int))).toNat * (1 : Nat) < ks.length) (brT (!ks.getD (0 + (IntKind.i64.wrap ((↑n : Int) - 1)).toNat * 1) 0 == IntKind.i64.wrap ((↑ps.length : Int) - 1)) (.fin (.bool (false)) []) (.need ((1 : Int) = (1 : Int)) (.need ((flat ps).length = ps.length * (2 : Nat)) (.need (ps.length ≤ (1000 : Nat)) (.need (allV (ptsA ps.length (flat ps)) = true) (.need (n ≤ ks.length) (.need (n ≤ (1000000000 : Nat)) (.need ((0 : Int) ≤ ks.getD (0 : Nat) (0 : Int) ∧ ks.getD (0 : Nat) (0 : Int) < (↑ps.length : Int)) (.need ((0 : Int) ≤ most ∧ most ≤ (8000000 : Int)) (brT (allQ (okI (ptsA ps.length (flat ps)) most ks) 1 (n - 1)) (.fin (.bool (true)) []) (.fin (.bool (false)) [])))))))))))))))))) (.fin (.bool (false)) [])))) := by kernel_rfl
/-- What CheckSimplified answers. -/
def ckB (ps : List Pt) (most : Int) (n : Nat) (ks : List Int) : Bool := pathB ps && (decide (0 ≤ most) && (decide (most ≤ 8000000) && (eeB n ks ps.length && allQ (stQ ps most ks) 1 (n - 1))))
theorem ee_iff {n : Nat} {ks : List Int} {m : Int} : eeB n ks m = true ↔ 0 < n ∧ ks.getD 0 0 = 0 ∧ ks.getD (n - 1) 0 = m - 1 ∧ allQ (ascQ ks) 1 (n - 1) = true := by
  unfold eeB
  rw [Bool.and_eq_true, Bool.and_eq_true, Bool.and_eq_true, decide_eq_true_eq, decide_eq_true_eq, decide_eq_true_eq]
theorem ee_in {n : Nat} {ks : List Int} {m : Int} (h : eeB n ks m = true) : ∀ j, 1 ≤ j → j < n → 0 ≤ ks.getD (j - 1) 0 ∧ ks.getD (j - 1) 0 < ks.getD j 0 ∧ ks.getD j 0 < m := by
  obtain ⟨h1, h2, h3, h4⟩ := ee_iff.1 h
  intro j g1 g2
  have a1 := of_decide_eq_true (allQ_get _ _ h4 j g1 (by omega))
  have a2 := asc_le h4 0 (j - 1) (by omega) (by omega)
  have a3 := asc_le h4 j (n - 1) (by omega) (by omega)
  omega
set_option maxRecDepth 100000 in
theorem res_iCk (ps : List Pt) (most : Int) (n : Nat) (ks : List Int) (h : Big ps) (h1 : n ≤ ks.length) (h2 : n ≤ 1000000000) : Res Try.prog 32 [.row ps.length (.ints (flat ps)), .v (iv most), .row n (.ints ks)] (.bool (ckB ps most n ks)) := by
  refine bodyV_res mixed ESm5_ok (m := 30) (n := 12) rfl ?_
  rw [tr_iCoF]
  unfold Big at h
  simp only [List.drop_zero, ptsA_flat, flat_length]
  unfold ckB
  rcases hp : pathB ps with _ | _
  · exact ⟨Nat.le_refl _, h, rfl⟩
  obtain ⟨⟨p1, p2⟩, p3, _⟩ := path_iff.1 hp
  by_cases g1 : 0 ≤ most
  rotate_left
  · rw [decide_eq_false g1]
    exact ⟨Nat.le_refl _, h, rfl⟩
  by_cases g2 : most ≤ 8000000
  rotate_left
  · rw [decide_eq_true g1, decide_eq_false g2]
    exact ⟨Nat.le_refl _, h, rfl⟩
  rw [decide_eq_true g1, decide_eq_true g2]
  rcases he : eeB n ks ps.length with _ | _
  · exact ⟨Nat.le_refl _, h, h1, h2, ⟨by omega, by omega⟩, rfl⟩
  refine ⟨Nat.le_refl _, h, h1, h2, ⟨by omega, by omega⟩, trivial, trivial, by omega, p1, h1, h2, ee_in he, ⟨g1, g2⟩, ?_⟩
  rcases allQ (stQ ps most ks) 1 (n - 1) with _ | _ <;> exact rfl
set_option maxRecDepth 100000 in
theorem res_sCk (ps : List Pt) (most : Int) (n : Nat) (ks : List Int) (h : Big ps) (h1 : n ≤ ks.length) (h2 : n ≤ 1000000000) : Res Try.prog 33 [.row ps.length (.ints (flat ps)), .v (iv most), .row n (.ints ks)] (.bool (ckB ps most n ks)) := by
  refine bodyV_res mixed ESm5_ok (m := 30) (n := 12) rfl ?_
  rw [tr_sCoF]
  unfold Big at h
  simp only [List.drop_zero, ptsA_flat, flat_length]
  unfold ckB
  rcases hp : pathB ps with _ | _
  · exact ⟨Nat.le_refl _, h, rfl⟩
  obtain ⟨⟨p1, p2⟩, p3, _⟩ := path_iff.1 hp
  by_cases g1 : 0 ≤ most
  rotate_left
  · rw [decide_eq_false g1]
    exact ⟨Nat.le_refl _, h, rfl⟩
  by_cases g2 : most ≤ 8000000
  rotate_left
  · rw [decide_eq_true g1, decide_eq_false g2]
    exact ⟨Nat.le_refl _, h, rfl⟩
  rw [decide_eq_true g1, decide_eq_true g2]
  simp only [Bool.true_and, Bool.not_true, brT_t, brT_f, Tree.ok]
  refine ⟨Nat.le_refl _, h, ?_⟩
  by_cases g3 : n < 2
  · rw [decide_eq_true (show (n : Int) < 2 by omega)]
    have e : eeB n ks ps.length = false := by
      rw [Bool.eq_false_iff]
      intro he
      obtain ⟨e1, e2, e3, _⟩ := ee_iff.1 he
      obtain rfl : n = 1 := by omega
      rw [Nat.sub_self] at e3
      omega
    rw [e]
    exact rfl
  have w1 : IntKind.i64.wrap ((n : Int) - 1) = ((n - 1 : Nat) : Int) := by rw [wr (by omega)]; omega
  have w2 : IntKind.i64.wrap ((ps.length : Int) - 1) = ps.length - 1 := wr (by omega)
  rw [decide_eq_false (show ¬ (n : Int) < 2 by omega), w1, w2]
  simp only [Int.toNat_natCast, Nat.zero_add, Nat.mul_one, brT_f, Tree.ok]
  refine ⟨by omega, by omega, ?_⟩
  unfold eeB
  rw [decide_eq_true (show 0 < n by omega), Bool.true_and]
  by_cases g4 : ks.getD 0 0 = 0
  rotate_left
  · rw [decide_eq_false g4, Bool.false_and, Bool.false_and, show (!ks.getD 0 0 == 0) = true from by simpa using g4]
    exact rfl
  rw [decide_eq_true g4, Bool.true_and, show (!ks.getD 0 0 == 0) = false from by rw [g4]; rfl]
  simp only [brT_f, Tree.ok]
  refine ⟨by omega, by omega, ?_⟩
  by_cases g5 : ks.getD (n - 1) 0 = (ps.length : Int) - 1
  rotate_left
  · rw [decide_eq_false g5, Bool.false_and, Bool.false_and, show (!ks.getD (n - 1) 0 == (ps.length : Int) - 1) = true from by simpa using g5]
    exact rfl
  rw [decide_eq_true g5, Bool.true_and, show (!ks.getD (n - 1) 0 == (ps.length : Int) - 1) = false from by rw [g5]; simp, ok_asc p1 g1 (by omega) g4 g5]
  simp only [brT_f, Tree.ok]
  refine ⟨trivial, trivial, by omega, p1, h1, h2, by omega, ⟨g1, g2⟩, ?_⟩
  rcases (allQ (ascQ ks) 1 (n - 1) && allQ (stQ ps most ks) 1 (n - 1)) with _ | _ <;> exact rfl
end Go.Proofs.Ytolodncpegajkab
namespace Go.Proofs.Ytolodncpegajkab
set_option linter.all false
open Go.RowKit
def pCk : List DArg → Option (Value × List Prop)
  | [.row m (.ints xs), .v (.int .i64 most), .row n (.ints ks)] => some (.bool (ckB (ptsA m xs) most n ks), [m * 2 ≤ xs.length, m ≤ 1000000000, n ≤ ks.length, n ≤ 1000000000])
  | _ => none
theorem pCk_ok {f : FuncId} (h0 : ∀ (ps : List Pt) (most : Int) (n : Nat) (ks : List Int), Big ps → n ≤ ks.length → n ≤ 1000000000 → Res Try.prog f [.row ps.length (.ints (flat ps)), .v (iv most), .row n (.ints ks)] (.bool (ckB ps most n ks))) {ds : List DArg} {v : Value} {C : List Prop} (h : pCk ds = some (v, C)) (hC : AllP C) : Res Try.prog f ds v := by
  unfold pCk at h
  split at h
  · obtain ⟨rfl, rfl⟩ : _ ∧ _ := by simpa using h
    obtain ⟨_, h2⟩ := ptsA_spec hC.1
    exact res_pts1 (pre := []) (post := [_, _]) hC.1 (h0 _ _ _ _ (by unfold Big; rw [h2]; exact hC.2.1) hC.2.2.1 hC.2.2.2.1)
  · cases h
theorem pCks_ok {ds : List DArg} {v : Value} {C : List Prop} (h : pCk ds = some (v, C)) (hC : AllP C) : Res Try.prog 33 ds v := pCk_ok res_sCk h hC
theorem pCki_ok {ds : List DArg} {v : Value} {C : List Prop} (h : pCk ds = some (v, C)) (hC : AllP C) : Res Try.prog 32 ds v := pCk_ok res_iCk h hC
def TCk : Tab := fun f ds => match f with
  | 33 => pCk ds
  | 32 => pCk ds
  | 19 => pEqI ds
  | f => TSm3 f ds
theorem TCk_ok : TabOk Try.prog TCk := by
  intro f ds v C h hC
  unfold TCk at h
  (try split at h)
  all_goals first | with_reducible exact pCks_ok h hC | with_reducible exact pCki_ok h hC | with_reducible exact pEqI_ok h hC | exact TSm3_ok _ _ _ _ h hC
end Go.Proofs.Ytolodncpegajkab
namespace Go.Proofs.Ytolodncpegajkab
set_option linter.all false
open Go.ChangeShapes Go.WideShapes Go.ChangeAt Go.RowKit Go.Deep
theorem lift_ownV {P : Program} {E : Env} (hE : EnvOk P E) (hmx : P.follows .mixedOrders = true) {m n : Nat} {f : FuncId} {e sz l lv : Nat} {xs ys : List Int} {v : Value} {b : Blk} (hb0 : isRow b = true) {rest : List Value} (hrest : rest.all plainV = true)
    (h : (bodyM P E (runM P E m n) m f (.slice (some ⟨0, 0, none⟩) lv lv :: (rest ++ [.slice (some ⟨1, 0, none⟩) l l])) [some ⟨.view, .ints ys⟩, some ⟨.row e sz, .ints xs⟩] .fin).ok (fun _ _ => False) (fun u mem' => RowIs v b u mem'))
    {s : FS} {nr c nv cv name : Nat} {cs0 csv : Cs} (hvw : s.blk nv = some ⟨.view, csv⟩) (hcv : csv.list = ys.map (Value.int .i64)) (hb : s.blk nr = some ⟨.row e sz, cs0⟩) (hcs : cs0.list = xs.map (Value.int .i64)) (hname : s.blk name = none) : enters P f ∧ ∀ (B : Nat → Prop) (ρ0 ρ : Nat → Option Pl) (w : World) (args' : Array Value), VRs ρ (.slice (some ⟨nv, 0, none⟩) lv cv :: (rest ++ [.slice (some ⟨nr, 0, none⟩) l c])) args' → MemOk ρ0 ρ B s.blk w → (∀ k, B k → k < w.heap.size) →
    Calls P f args' w fun e' w' => ∃ v' ρ', e' = .returned v' ∧ Ext ρ ρ' ∧ VR ρ' (atName name v) v' ∧ BelowK B w w' ∧ MemOk ρ0 ρ' B (setB (setB s.blk nr deadB) name b) w' := by
  obtain ⟨u, mem', ⟨src, hrv, hsrc⟩, hent, hdet⟩ := bodyM_ok hE hmx (runM_ok hmx hE m n) m f _ _ _ _ _ h
  refine ⟨hent, fun B ρ0 ρ w args' ha hm hB => ?_⟩
  have hatx : ∀ x ∈ xs.map (Value.int .i64), plainV x = true := fun x hx => by
    obtain ⟨y, _, rfl⟩ := List.mem_map.1 hx
    rfl
  let ρs : Nat → Option Pl := fun k => match k with
    | 0 => ρ nv
    | 1 => ρ nr
    | _ => none
  let Bs : Nat → Prop := fun k => k < w.heap.size ∧ ∀ p, ρ nr = some p → ¬ nilPl p → k ≠ p.1
  have hblk : (∃ p, ρ nr = some p ∧ p.2.1 = 1 ∧ p.2.2 = some 0) ∨ ∃ g cap, ρ nr = some (g, 0, some cap) ∧ ¬ B g ∧ ∃ cs', w.heap[g]? = some (.cells cs' e (0, 0)) ∧ cs'.size = cap * sz ∧ Cells ρ cs0.list cs' := hm.ok nr _ hb
  have hvk : (∃ p, ρ nv = some p ∧ nilPl p) ∨ ∃ g f cp, ρ nv = some (g, f, cp) ∧ okPl f cp ∧ g < w.heap.size ∧ ∀ (k : Nat) v, (Blk.cells ⟨.view, csv⟩)[k]? = some v → ∃ v', w.cell? ⟨g, f + k, none⟩ = some v' ∧ VR ρ v v' := hm.ok nv _ hvw
  have haty : ∀ x ∈ ys.map (Value.int .i64), plainV x = true := fun x hx => by
    obtain ⟨y, _, rfl⟩ := List.mem_map.1 hx
    rfl
  have hnv : nv ≠ nr := fun e => by rw [e, hb] at hvw; simp at hvw
  have hnn : nr ≠ name := fun e => by rw [e, hname] at hb; cases hb
  have hmem : MemOk (fun _ => none) ρs Bs (fun k => [some (⟨.view, .ints ys⟩ : Blk), some (⟨.row e sz, .ints xs⟩ : Blk)].getD k none) w := by
    refine ⟨fun k q hq => by simp at hq, fun k hk => ?_, fun k b hk => ?_, fun k k' b b2 q q' hk hown hk' hlive hne' hq hq' hnq hnq' => ?_⟩
    · match k with
      | 0 => simp at hk
      | 1 => simp at hk
      | k + 2 => rfl
    · match k with
      | 0 =>
        obtain rfl : (⟨.view, .ints ys⟩ : Blk) = b := by simpa using hk
        rcases hvk with ⟨p, h1, h2⟩ | ⟨g, f, cp, h1, h2, h3, h4⟩
        · exact .inl ⟨p, h1, h2⟩
        · refine .inr ⟨g, f, cp, h1, h2, h3, fun k x hx => ?_⟩
          have hx' : (Blk.cells ⟨.view, csv⟩)[k]? = some x := by
            show csv.list[k]? = some x
            rw [hcv]
            exact hx
          obtain ⟨x', h6, h7⟩ := h4 k x hx'
          have hat := haty x (List.mem_of_getElem? hx)
          rw [h7.plain hat] at h6
          exact ⟨x, h6, .lit hat⟩
      | 1 =>
        obtain rfl : (⟨.row e sz, .ints xs⟩ : Blk) = b := by simpa using hk
        rcases hblk with ⟨p, h1, h2, h3⟩ | ⟨g, cap, h1, h2, cs', h3, h4, h5⟩
        · exact .inl ⟨p, h1, h2, h3⟩
        · refine .inr ⟨g, cap, h1, fun hbs => hbs.2 _ h1 (okPl.not (.inl rfl)) rfl, cs', h3, h4, fun k x hx => ?_⟩
          have hx' : cs0.list[k]? = some x := by rw [hcs]; exact hx
          obtain ⟨x', h6, h7⟩ := h5 k x hx'
          have hat := hatx x (List.mem_of_getElem? hx)
          rw [h7.plain hat] at h6
          exact ⟨x, h6, .lit hat⟩
      | k + 2 => simp at hk
    · match k, k' with
      | 0, _ =>
        obtain rfl : (⟨.view, .ints ys⟩ : Blk) = b := by simpa using hk
        cases hown
      | 1, 0 => exact hm.sep nr nv _ _ q q' hb rfl hvw rfl (Ne.symm hnv) hq hq' hnq hnq'
      | 1, 1 => exact absurd rfl hne'
      | k + 2, _ => simp at hk
      | 1, k' + 2 => simp at hk'
  have hargs : VRs ρs (.slice (some ⟨0, 0, none⟩) lv lv :: (rest ++ [.slice (some ⟨1, 0, none⟩) l l])) args' := by
    refine ⟨by have := ha.1; simpa using this, fun i a x hi hx => ?_⟩
    cases i with
    | zero =>
      obtain rfl : Value.slice (some ⟨0, 0, none⟩) lv lv = a := by simpa using hi
      exact vr_ren (a := nv) rfl (ha.2 0 _ x rfl hx)
    | succ i =>
      have hi : (rest ++ [Value.slice (some ⟨1, 0, none⟩) l l])[i]? = some a := by simpa using hi
      rcases Nat.lt_or_ge i rest.length with hlt | hge
      · rw [List.getElem?_append_left hlt] at hi
        have hp := List.all_eq_true.1 hrest a (List.mem_of_getElem? hi)
        have := ha.2 (i + 1) a x (by rw [List.getElem?_cons_succ, List.getElem?_append_left hlt]; exact hi) hx
        rw [this.plain hp]
        exact .lit hp
      · rw [List.getElem?_append_right hge] at hi
        rcases Nat.eq_zero_or_pos (i - rest.length) with h0 | hp
        · rw [h0] at hi
          obtain rfl : Value.slice (some ⟨1, 0, none⟩) l l = a := by simpa using hi
          exact vr_ren (a := nr) rfl (ha.2 (i + 1) _ x (by rw [List.getElem?_cons_succ, List.getElem?_append_right hge, h0]; rfl) hx)
        · rw [List.getElem?_eq_none (by simp; omega)] at hi
          cases hi
  refine (hdet ⟨w, fun _ => none, Bs, fun k h => h.1, [], none⟩ ρs args' w hargs hmem (BelowK.refl _ _)).mono ?_
  rintro e1 w' ⟨v', ρ', rfl, hext, hvv, hbel, hm'⟩
  have hBel : BelowK B w w' := ⟨hbel.os, hbel.tape, hbel.output, hbel.size, fun k hk => hbel.block k ⟨hB k hk, fun p hp hnp => by
    rintro rfl
    exact ((hm.ok nr _ hb).real rfl hp hnp).2 rfl hk⟩⟩
  have hset : MemOk ρ0 ρ B (setB s.blk nr deadB) w' := by
    rcases hblk with ⟨p, h1, h2, h3⟩ | ⟨g, cap, h1, h2, cs', h3, h4, h5⟩
    · have hkeep : MemOk ρ0 ρ B s.blk w' := hm.keep ⟨hbel.os, hbel.tape, hbel.output, hbel.size, fun k hk => hbel.block k ⟨hk, fun q hq hnq => by
        rw [h1] at hq
        obtain rfl : p = q := by simpa using hq
        exact absurd ⟨h2, 0, h3⟩ hnq⟩⟩
      exact hkeep.setNil hb h1 ⟨h2, 0, h3⟩ trivial
    · exact hm.set hb rfl h1 (okPl.not (.inl rfl)) hbel.size (fun k hk hkg => hbel.block k ⟨hk, fun p hp hnp => by
        rw [h1] at hp
        obtain rfl : (g, 0, some cap) = p := by simpa using hp
        exact hkg⟩) trivial
  have hn0 : setB s.blk nr deadB name = none := by simp [setB, Ne.symm hnn, hname]
  -- other names lie elsewhere
  have hoth : ∀ g2, (w.heap.size ≤ g2 ∨ ∃ p, ρ nr = some p ∧ ¬ nilPl p ∧ p.1 = g2) → ∀ k c q, setB s.blk nr deadB k = some c → c.live = true → ρ k = some q → ¬ nilPl q → q.1 ≠ g2 := by
    intro g2 hg k c q hk hl hq hnq
    have hkn : k ≠ nr := fun e => by
      subst e
      obtain rfl : deadB = c := by simpa [setB] using hk
      cases hl
    have hk' : s.blk k = some c := by simpa [setB, hkn] using hk
    rcases hg with hg | ⟨p, hp, hnp, rfl⟩
    · have := ((hm.ok k c hk').real hl hq hnq).1
      omega
    · exact fun e => hm.sep nr k _ _ p q hb rfl hk' hl (Ne.symm hkn) hp hq hnp hnq e.symm
  obtain ⟨kd, cs⟩ := b
  cases kd with
  | row ee sz =>
    cases src with
    | none =>
      exact ⟨v', addPl ρ name (0, 1, some 0), rfl, addPl_ext (hm.fresh name hname), rv_ok (ρ := ρ') (src := none) (addPl_same _ _ _) hrv hvv, hBel, hset.addRow2 hn0 (fun hn => absurd ⟨rfl, 0, rfl⟩ hn) (.inl ⟨_, addPl_same _ _ _, rfl, rfl⟩)⟩
    | some k =>
      simp only at hsrc
      split at hsrc
      rotate_left
      · exact hsrc.elim
      rename_i b' hb'
      obtain ⟨kd', cs'⟩ := b'
      cases kd' with
      | row e2 sz2 =>
        obtain ⟨rfl, rfl, hc⟩ := hsrc
        obtain ⟨c1, c2⟩ := rc_list hc
        rcases hm'.ok k _ hb' with ⟨q, k1, k2, k3⟩ | ⟨g2, cap, k1, k2, arr, k3, k4, k5⟩
        · exact ⟨v', addPl ρ name q, rfl, addPl_ext (hm.fresh name hname), rv_ok (ρ := ρ') (src := some k) ((addPl_same _ _ _).trans k1.symm) hrv hvv, hBel, hset.addRow2 hn0 (fun hn => absurd ⟨k2, 0, k3⟩ hn) (.inl ⟨_, addPl_same _ _ _, k2, k3⟩)⟩
        · have hge : w.heap.size ≤ g2 ∨ ∃ p, ρ nr = some p ∧ ¬ nilPl p ∧ p.1 = g2 := by
            rcases Nat.lt_or_ge g2 w.heap.size with h | h
            · right
              refine Classical.byContradiction fun hno => k2 ⟨h, fun p hp hnp e => hno ⟨p, hp, hnp, e.symm⟩⟩
            · exact .inl h
          have hnB : ¬ B g2 := fun hBg => by
            rcases hge with h | ⟨p, hp, hnp, rfl⟩
            · have := hB g2 hBg
              omega
            · exact ((hm.ok nr _ hb).real rfl hp hnp).2 rfl hBg
          refine ⟨v', addPl ρ name (g2, 0, some cap), rfl, addPl_ext (hm.fresh name hname), rv_ok (ρ := ρ') (src := some k) ((addPl_same _ _ _).trans k1.symm) hrv hvv, hBel, hset.addRow2 hn0 (fun _ => hoth g2 hge) (.inr ⟨g2, cap, addPl_same _ _ _, hnB, arr, k3, k4, fun i x hx => ?_⟩)⟩
          obtain ⟨x', j1, j2⟩ := k5 i x (by show cs'.list[i]? = some x; rw [c1]; exact hx)
          refine ⟨x', j1, ?_⟩
          have hat := plain_of_atom (c2 x (List.mem_of_getElem? hx))
          rw [j2.plain hat]
          exact .lit hat
      | _ => exact hsrc.elim
  | _ => cases hb0
/-- What a function makes of a list that it reads and of a row that it takes over, its last argument: the list's length and ints; the row's type, the size of an element, length, ints; the arguments between. -/
abbrev VSpec := Nat → List Int → Nat → Nat → Nat → List Int → List Value → Option (Value × Blk × List Prop)
def ovG (sp : VSpec) (name : Nat) (args : List Value) : Rd Eff :=
  match args with
  | [.slice (some ⟨nv, 0, none⟩) lv _, x, y, z, .slice (some ⟨nr, 0, none⟩) l _] => .blk nv fun bv => .blk nr fun b => match bv, b with
    | some ⟨.view, csv⟩, some ⟨.row e sz, cs⟩ => (match [x, y, z].all plainV, intsC csv, intsC cs with
      | true, some ys, some xs => (match sp lv ys e sz l xs [x, y, z] with
        | some (v, rb, C) => .ret ⟨atName name v, [(name, rb), (nr, deadB)], C⟩
        | none => .fail)
      | _, _, _ => .fail)
    | _, _ => .fail
  | _ => .fail
def VSpecOk (P : Program) (f : FuncId) (sp : VSpec) : Prop := ∀ lv ys e sz l xs rest v b C, sp lv ys e sz l xs rest = some (v, b, C) → AllP C → isRow b = true ∧ ∃ (E : Env) (m n : Nat), EnvOk P E ∧
  (bodyM P E (runM P E m n) m f (.slice (some ⟨0, 0, none⟩) lv lv :: (rest ++ [.slice (some ⟨1, 0, none⟩) l l])) [some ⟨.view, .ints ys⟩, some ⟨.row e sz, .ints xs⟩] .fin).ok (fun _ _ => False) (fun u mem' => RowIs v b u mem')
theorem consV_ok {P : Program} (hmx : P.follows .mixedOrders = true) {J : TabJ} (hJ : GSound P J.g) {f : FuncId} {sp : VSpec} (hent : enters P f) (hsp : VSpecOk P f sp) : GSound P (consR f (ovG sp) J).g := by
  intro h name args s eff hr hn
  simp only [consR] at hr
  split at hr
  rotate_left
  · exact hJ h name args s eff hr hn
  rename_i heq
  obtain rfl := Nat.eq_of_beq_eq_true heq
  refine ⟨hent, fun B ρ0 ρ w args' ha hm hB hcond => ?_⟩
  unfold ovG at hr
  split at hr
  rotate_left
  · simp [Rd.run] at hr
  rename_i nv lv cv x y z nr l c
  simp only [Rd.run] at hr
  split at hr
  rotate_left
  · simp [Rd.run] at hr
  rename_i csv e sz cs hbv hb
  split at hr
  rotate_left
  · simp [Rd.run] at hr
  rename_i ys xs hall hys hxs
  split at hr
  rotate_left
  · simp [Rd.run] at hr
  rename_i v rb C hs
  obtain rfl : (⟨atName name v, [(name, rb), (nr, deadB)], C⟩ : Eff) = eff := by simpa [Rd.run] using hr
  obtain ⟨hrow, E, m, n, hE, ht⟩ := hsp _ _ _ _ _ _ _ _ _ _ hs hcond
  rw [upd_two]
  exact (lift_ownV hE hmx hrow hall ht hbv (intsC_spec hys) hb (intsC_spec hxs) hn).2 B ρ0 ρ w args' ha hm hB
end Go.Proofs.Ytolodncpegajkab
