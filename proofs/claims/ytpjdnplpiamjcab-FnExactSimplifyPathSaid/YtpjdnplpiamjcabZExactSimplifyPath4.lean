/-
  Texts that the proof needs, merged. Written by an AI agent.
-/
import Derived.Orders
import Derived.Below
import Derived.OrdersIn
import Derived.Deep.LoopGhost
import Derived.WalkKit
import Derived.Laws.CopyRow
import Derived.Laws.AppendOwn
import Derived.Laws.Slices
import Derived.Laws.MakeOwn
import Derived.Test.YtpjdnplpiamjcabRows
import Derived.ProofKit
import Derived.OpenShut
import Derived.Carry
import Derived.IntWalk
import Derived.Test.YtpjdnplpiamjcabProg
import Derived.WalkSpells
import Derived.WalkLawsBesides
import Derived.Lib.Hide
import Derived.Deep.QuietTactic
import Derived.BigQuiet
import Derived.KernelRfl
import Derived.Deep.RegionHeld3
import Derived.LoopTactic
import Derived.Laws.StructEq
import Derived.Laws.Tables
import Derived.RangeFuncNested
import Derived.RangeFuncLeaves
import Derived.Deep.Slices
import Derived.Deep.Fields
import Derived.ChangeSame
import Derived.Shelf.SlSortCmp.WholeK
import Derived.Sort.Grow
import Derived.Deep.DeepCutAuto
import Derived.Shelf.SlSortCmp.NoneTotal
import Derived.Test.YtpjdnplpiamjcabZExactSimplifyPath3
namespace Go.Proofs.Ytpjdnplpiamjcab
set_option linter.all false
open Go.RowKit
theorem eqP_is (p q : Pt) : negB false (p.1 == q.1 && (p.2 == q.2 && true)) = decide (p = q) := by
  rw [Bool.eq_iff_iff]
  simp only [negB, Bool.and_true, Bool.and_eq_true, beq_iff_eq, decide_eq_true_eq]
  constructor
  · rintro ⟨h1, h2⟩; exact Prod.ext h1 h2
  · rintro rfl; exact ⟨rfl, rfl⟩
def gP (ps : List Pt) (i : Nat) : Pt := ps.getD i (0, 0)
theorem gP_v {ps : List Pt} (h : allV ps = true) (i : Nat) : vP (gP ps i) := by
  have := allV_get h i
  exact this
set_option maxHeartbeats 1000000 in
theorem res_dev {ps : List Pt} {a b k : Nat} (hl : ps.length ≤ 1000) (hv : allV ps = true) (ha : a < ps.length) (hb : b < ps.length) (hk : k < ps.length) : Res Try.prog 61 [.row ps.length (.ints (flat ps)), .v (iv a), .v (iv b), .v (iv k)] (.tuple #[iv (dvN (gP ps a) (gP ps b) (gP ps k)), iv (dvD (gP ps a) (gP ps b) (gP ps k))]) := by
  refine bodyV_res mixed (tabE_ok TSi_ok) (m := 30) (n := 12) rfl ?_
  rw [tr_dev]
  simp only [Int.toNat_natCast, Nat.zero_add, flat_get0, flat_get1, flat_length, eqP_is]
  have v1 := gP_v hv a
  have v2 := gP_v hv b
  have v3 := gP_v hv k
  obtain ⟨m1, m2⟩ := sqP_parts v1 v2
  obtain ⟨m3, m4⟩ := sqP_parts v1 v3
  obtain ⟨m5, m6⟩ := sqP_parts v2 v3
  obtain ⟨n1, n2⟩ := dot_parts v1 v2 v3
  obtain ⟨n3, n4⟩ := dot_parts v2 v1 v3
  have cc := cc_bd v1 v2 v3
  have t1 := vP_pt v1
  have t2 := vP_pt v2
  have t3 := vP_pt v3
  unfold vP at v1 v2 v3
  change 0 ≤ crossI (gP ps a).1 (gP ps a).2 (gP ps b).1 (gP ps b).2 (gP ps k).1 (gP ps k).2 * crossI (gP ps a).1 (gP ps a).2 (gP ps b).1 (gP ps b).2 (gP ps k).1 (gP ps k).2 ∧ _ at cc
  unfold gP at *
  generalize ps.getD a (0, 0) = A at *
  generalize ps.getD b (0, 0) = B at *
  generalize ps.getD k (0, 0) = P at *
  have ccc : crP A B P * crP A B P ≤ 100000000000000 := cc.2
  change crossI A.1 A.2 B.1 B.2 P.1 P.2 * crossI A.1 A.2 B.1 B.2 P.1 P.2 ≤ 100000000000000 at ccc
  have ha' : (0 : Int) ≤ a ∧ (a : Int) < ps.length := by omega
  have hb' : (0 : Int) ≤ b ∧ (b : Int) < ps.length := by omega
  have hk' : (0 : Int) ≤ k ∧ (k : Int) < ps.length := by omega
  simp (disch := omega) only [wr]
  unfold dvN dvD
  by_cases e : A = B
  · rw [decide_eq_true e, if_pos e, if_pos e]
    simp only [brT_t, Tree.ok]
    repeat' (first | exact True.intro | exact rfl | assumption | omega | refine And.intro ?_ ?_)
  · rw [decide_eq_false e, if_neg e, if_neg e]
    simp only [brT_f, Tree.ok]
    by_cases g : dotP A B P ≤ 0
    · rw [if_pos g, if_pos g]
      rw [show decide ((B.1 - A.1) * (P.1 - A.1) + (B.2 - A.2) * (P.2 - A.2) ≤ 0) = true from decide_eq_true g]
      simp only [brT_t, Tree.ok]
      repeat' (first | exact True.intro | exact rfl | assumption | omega | refine And.intro ?_ ?_)
    · rw [if_neg g, if_neg g]
      rw [show decide ((B.1 - A.1) * (P.1 - A.1) + (B.2 - A.2) * (P.2 - A.2) ≤ 0) = false from decide_eq_false g]
      by_cases q : dotP B A P ≤ 0
      · rw [if_pos q, if_pos q]
        rw [show decide ((A.1 - B.1) * (P.1 - B.1) + (A.2 - B.2) * (P.2 - B.2) ≤ 0) = true from decide_eq_true q]
        simp only [brT_t, brT_f, Tree.ok]
        repeat' (first | exact True.intro | exact rfl | assumption | omega | refine And.intro ?_ ?_)
      · rw [if_neg q, if_neg q]
        rw [show decide ((A.1 - B.1) * (P.1 - B.1) + (A.2 - B.2) * (P.2 - B.2) ≤ 0) = false from decide_eq_false q]
        simp only [brT_f, Tree.ok]
        repeat' (first | exact True.intro | exact rfl | assumption | omega | refine And.intro ?_ ?_)
def pDev : List DArg → Option (Value × List Prop)
  | [.row m (.ints xs), .v (.int .i64 a), .v (.int .i64 b), .v (.int .i64 k)] => some (.tuple #[iv (dvN (gP (ptsA m xs) a.toNat) (gP (ptsA m xs) b.toNat) (gP (ptsA m xs) k.toNat)), iv (dvD (gP (ptsA m xs) a.toNat) (gP (ptsA m xs) b.toNat) (gP (ptsA m xs) k.toNat))], [m * 2 ≤ xs.length, m ≤ 1000, allV (ptsA m xs) = true, 0 ≤ a ∧ a < m, 0 ≤ b ∧ b < m, 0 ≤ k ∧ k < m])
  | _ => none
theorem pDev_ok {ds : List DArg} {v : Value} {C : List Prop} (h : pDev ds = some (v, C)) (hC : AllP C) : Res Try.prog 61 ds v := by
  unfold pDev at h
  split at h
  · rename_i m xs a b k
    obtain ⟨rfl, rfl⟩ : _ ∧ _ := by simpa using h
    obtain ⟨c1, c2, c3, c4, c5, c6, _⟩ := hC
    obtain ⟨_, h2⟩ := ptsA_spec c1
    obtain ⟨a, rfl⟩ := Int.eq_ofNat_of_zero_le c4.1
    obtain ⟨b, rfl⟩ := Int.eq_ofNat_of_zero_le c5.1
    obtain ⟨k, rfl⟩ := Int.eq_ofNat_of_zero_le c6.1
    simp only [Int.toNat_natCast]
    exact res_pts1 (pre := []) (post := [_, _, _]) c1 (res_dev (ps := ptsA m xs) (by omega) c3 (by omega) (by omega) (by omega))
  · cases h
def pFrL : List DArg → Option (Value × List Prop)
  | [.v (.int .i64 a), .v (.int .i64 b), .v (.int .i64 c), .v (.int .i64 d)] => some (.bool (decide (a * d < c * b)), [0 ≤ a ∧ a ≤ 100000000000000, 1 ≤ b ∧ b ≤ 100000000000000, 0 ≤ c ∧ c ≤ 100000000000000, 1 ≤ d ∧ d ≤ 100000000000000])
  | _ => none
theorem pFrL_ok {ds : List DArg} {v : Value} {C : List Prop} (h : pFrL ds = some (v, C)) (hC : AllP C) : Res Try.prog 117 ds v := by
  unfold pFrL at h
  split at h
  · obtain ⟨rfl, rfl⟩ : _ ∧ _ := by simpa using h
    exact res_frL hC.1 hC.2.1 hC.2.2.1 hC.2.2.2.1
  · cases h
def pScS : List DArg → Option (Value × List Prop)
  | [.v (.agg ⟨[.int .i64 a, .int .i64 b, .int .i64 c, .int .i64 d]⟩), .v (.agg ⟨[.int .i64 x, .int .i64 y]⟩)] => some (iv (scS (a, b) (c, d) (x, y)), [ptB a b = true, ptB c d = true, ptB x y = true])
  | _ => none
theorem pScS_ok {ds : List DArg} {v : Value} {C : List Prop} (h : pScS ds = some (v, C)) (hC : AllP C) : Res Try.prog 96 ds v := by
  unfold pScS at h
  split at h
  · obtain ⟨rfl, rfl⟩ : _ ∧ _ := by simpa using h
    exact res_scS hC.1 hC.2.1 hC.2.2.1
  · cases h
def pScl : List DArg → Option (Value × List Prop)
  | [.v (.agg ⟨[.int .i64 a, .int .i64 b, .int .i64 c, .int .i64 d]⟩)] => some (iv (sclP (a, b) (c, d)), [ptB a b = true, ptB c d = true])
  | _ => none
theorem pScl_ok {ds : List DArg} {v : Value} {C : List Prop} (h : pScl ds = some (v, C)) (hC : AllP C) : Res Try.prog 97 ds v := by
  unfold pScl at h
  split at h
  · obtain ⟨rfl, rfl⟩ : _ ∧ _ := by simpa using h
    exact res_scl hC.1 hC.2.1
  · cases h
def TSm1 : Tab := fun f ds => match f with
  | 61 => pDev ds
  | 117 => pFrL ds
  | 96 => pScS ds
  | 97 => pScl ds
  | f => TSi f ds
theorem TSm1_ok : TabOk Try.prog TSm1 := by
  intro f ds v C h hC
  unfold TSm1 at h
  (try split at h)
  all_goals first | with_reducible exact pDev_ok h hC | with_reducible exact pFrL_ok h hC | with_reducible exact pScS_ok h hC | with_reducible exact pScl_ok h hC | exact TSi_ok _ _ _ _ h hC
def ESm1 : Env := mkE TSm1 R4 (fun _ => noL)
theorem ESm1_ok : EnvOk Try.prog ESm1 := mkEOk TSm1_ok R4_ok (fun _ _ _ => noL_good)
/-- Is the deviation of one point greater than that of another one? -/
def btr (ps : List Pt) (a b k j : Nat) : Bool := decide (dvN (gP ps a) (gP ps b) (gP ps j) * dvD (gP ps a) (gP ps b) (gP ps k) < dvN (gP ps a) (gP ps b) (gP ps k) * dvD (gP ps a) (gP ps b) (gP ps j))
/-- The first of so many points with the largest deviation; a if there is none. -/
def wrN (ps : List Pt) (a b : Nat) : Nat → Nat
  | 0 => a
  | m + 1 => bif btr ps a b (a + 1 + m) (wrN ps a b m) then a + 1 + m else wrN ps a b m
theorem wrN_st (ps : List Pt) (a b m : Nat) : wrN ps a b (m + 1) = bif btr ps a b (a + 1 + m) (wrN ps a b m) then a + 1 + m else wrN ps a b m := rfl
theorem wrN_bd (ps : List Pt) (a b : Nat) : ∀ m, a ≤ wrN ps a b m ∧ wrN ps a b m ≤ a + m
  | 0 => by simp [wrN]
  | m + 1 => by
    have := wrN_bd ps a b m
    rw [wrN_st]
    cases btr ps a b (a + 1 + m) (wrN ps a b m) <;> simp only [cond_true, cond_false] <;> omega
theorem dv_at (A B : Pt) : dvN A B A = 0 ∧ dvD A B A = 1 := by
  have e : dotP A B A = 0 := by unfold dotP; rw [Int.sub_self, Int.sub_self]; simp
  unfold dvN dvD
  by_cases h : A = B
  · rw [if_pos h, if_pos h, sqP_self]; exact ⟨rfl, rfl⟩
  · rw [if_neg h, if_neg h, if_pos (by omega), if_pos (by omega), sqP_self]; exact ⟨rfl, rfl⟩
noncomputable def c_wst : Code := ((loopsOf (codeOf Try.f98))[0]?).getD .skip
def k_wst : Ex → List Nat := keeps [0, 1, 2, 7, 8, 9, 10] [(0, [7])] [6]
def s_wst (ps : List Pt) (a b : Nat) : Nat → St := fun m => ⟨(.slice (some ⟨0, 0, none⟩) ps.length ps.length :: .int .i64 a :: .int .i64 b :: topV :: topV :: topV :: topV :: .int .i64 (wrN ps a b m) :: .int .i64 (dvN (gP ps a) (gP ps b) (gP ps (wrN ps a b m))) :: .int .i64 (dvD (gP ps a) (gP ps b) (gP ps (wrN ps a b m))) :: .int .i64 ((a + 1 + m : Nat) : Int) :: topV :: topV :: topV :: topV :: topV :: topV :: topV :: topV :: topV :: topV :: topV :: topV :: topV :: topV :: topV :: topV :: topV :: topV :: topV :: topV :: topV :: topV :: topV :: topV :: topV :: topV :: topV :: []), [some ⟨.view, .ints (flat ps)⟩, none, none]⟩
def re_wst : Nat → Ex := fun _ => .exit 0
def rs_wst (ps : List Pt) (a b : Nat) : Nat → St := fun m => ⟨(topV :: topV :: topV :: topV :: topV :: topV :: topV :: .int .i64 (wrN ps a b (b - (a + 1))) :: topV :: topV :: topV :: topV :: topV :: topV :: topV :: topV :: topV :: topV :: topV :: topV :: topV :: topV :: topV :: topV :: topV :: topV :: topV :: topV :: topV :: topV :: topV :: topV :: topV :: topV :: topV :: topV :: topV :: topV :: []), [some ⟨.view, .ints (flat ps)⟩, none, none]⟩
set_option maxRecDepth 100000 in
theorem tr_wst (ps : List Pt) (a b : Nat) (m : Nat) : bodyL Try.prog ESm1 30 12 noL 1 c_wst k_wst 3 (s_wst ps a b m) = brT (decide ((↑(a + 1 + m) : Int) < (↑b : Int))) (.need (ps.length * (2 : Nat) ≤ (List.drop (0 : Nat) (flat ps)).length) (.need (ps.length ≤ (1000 : Nat)) (.need (allV (ptsA ps.length (List.drop (0 : Nat) (flat ps))) = true) (.need ((0 : Int) ≤ (↑a : Int) ∧ (↑a : Int) < (↑ps.length : Int)) (.need ((0 : Int) ≤ (↑b : Int) ∧ (↑b : Int) < (↑ps.length : Int)) (.need ((0 : Int) ≤ (↑(a + (1 : Nat) + m) : Int) ∧ (↑(a + (1 : Nat) + m) : Int) < (↑ps.length : Int)) (.need ((0 : Int) ≤ dvN (gP ps a) (gP ps b) (gP ps (wrN ps a b m)) ∧ dvN (gP ps a) (gP ps b) (gP ps (wrN ps a b m)) ≤ (100000000000000 : Int)) (.need ((1 : Int) ≤ dvD (gP ps a) (gP ps b) (gP ps (wrN ps a b m)) ∧ dvD (gP ps a) (gP ps b) (gP ps (wrN ps a b m)) ≤ (100000000000000 : Int)) (.need ((0 : Int) ≤ dvN (gP (ptsA ps.length (List.drop (0 : Nat) (flat ps))) (↑a : Int).toNat) (gP (ptsA ps.length (List.drop (0 : Nat) (flat ps))) (↑b : Int).toNat) (gP (ptsA ps.length (List.drop (0 : Nat) (flat ps))) (↑(a + (1 : Nat) + m) : Int).toNat) ∧ dvN (gP (ptsA ps.length (List.drop (0 : Nat) (flat ps))) (↑a : Int).toNat) (gP (ptsA ps.length (List.drop (0 : Nat) (flat ps))) (↑b : Int).toNat) (gP (ptsA ps.length (List.drop (0 : Nat) (flat ps))) (↑(a + (1 : Nat) + m) : Int).toNat) ≤ (100000000000000 : Int)) (.need ((1 : Int) ≤ dvD (gP (ptsA ps.length (List.drop (0 : Nat) (flat ps))) (↑a : Int).toNat) (gP (ptsA ps.length (List.drop (0 : Nat) (flat ps))) (↑b : Int).toNat) (gP (ptsA ps.length (List.drop (0 : Nat) (flat ps))) (↑(a + (1 : Nat) + m) : Int).toNat) ∧ dvD (gP (ptsA ps.length (List.drop (0 : Nat) (flat ps))) (↑a : Int).toNat) (gP (ptsA ps.length (List.drop (0 : Nat) (flat ps))) (↑b : Int).toNat) (gP (ptsA ps.length (List.drop (0 : Nat) (flat ps))) (↑(a + (1 : Nat) + m) : Int).toNat) ≤ (100000000000000 : Int)) (brT (decide (dvN (gP ps a) (gP ps b) (gP ps (wrN ps a b m)) * dvD (gP (ptsA ps.length (List.drop 0 (flat ps))) (↑a : Int).toNat) (gP (ptsA ps.length (List.drop 0 (flat ps))) (↑b : Int).toNat) (gP (ptsA ps.length (List.drop 0 (flat ps))) (↑(a + 1 + m) : Int).toNat) < dvN (gP (ptsA ps.length (List.drop 0 (flat ps))) (↑a : Int).toNat) (gP (ptsA ps.length (List.drop 0 (flat ps))) (↑b : Int).toNat) (gP (ptsA ps.length (List.drop 0 (flat ps))) (↑(a + 1 + m) : Int).toNat) * dvD (gP ps a) (gP ps b) (gP ps (wrN ps a b m)))) (.leaf .normal ⟨(.slice (some ⟨0, 0, none⟩) (ps.length) (ps.length) :: .int .i64 ((↑a : Int)) :: .int .i64 ((↑b : Int)) :: topV :: topV :: topV :: topV :: .int .i64 ((↑(a + 1 + m) : Int)) :: .int .i64 (dvN (gP (ptsA ps.length (List.drop 0 (flat ps))) (↑a : Int).toNat) (gP (ptsA ps.length (List.drop 0 (flat ps))) (↑b : Int).toNat) (gP (ptsA ps.length (List.drop 0 (flat ps))) (↑(a + 1 + m) : Int).toNat)) :: .int .i64 (dvD (gP (ptsA ps.length (List.drop 0 (flat ps))) (↑a : Int).toNat) (gP (ptsA ps.length (List.drop 0 (flat ps))) (↑b : Int).toNat) (gP (ptsA ps.length (List.drop 0 (flat ps))) (↑(a + 1 + m) : Int).toNat)) :: .int .i64 (IntKind.i64.wrap ((↑(a + 1 + m) : Int) + 1)) :: topV :: topV :: topV :: topV :: topV :: topV :: topV :: topV :: topV :: topV :: topV :: topV :: topV :: topV :: topV :: topV :: topV :: topV :: topV :: topV :: topV :: topV :: topV :: topV :: topV :: topV :: topV :: []), [some ⟨.view, .ints (flat ps)⟩, none, none]⟩) (.leaf .normal ⟨(.slice (some ⟨0, 0, none⟩) (ps.length) (ps.length) :: .int .i64 ((↑a : Int)) :: .int .i64 ((↑b : Int)) :: topV :: topV :: topV :: topV :: .int .i64 ((↑(wrN ps a b m) : Int)) :: .int .i64 (dvN (gP ps a) (gP ps b) (gP ps (wrN ps a b m))) :: .int .i64 (dvD (gP ps a) (gP ps b) (gP ps (wrN ps a b m))) :: .int .i64 (IntKind.i64.wrap ((↑(a + 1 + m) : Int) + 1)) :: topV :: topV :: topV :: topV :: topV :: topV :: topV :: topV :: topV :: topV :: topV :: topV :: topV :: topV :: topV :: topV :: topV :: topV :: topV :: topV :: topV :: topV :: topV :: topV :: topV :: topV :: topV :: []), [some ⟨.view, .ints (flat ps)⟩, none, none]⟩)))))))))))) (.leaf (.exit 0) ⟨(topV :: topV :: topV :: topV :: topV :: topV :: topV :: .int .i64 ((↑(wrN ps a b m) : Int)) :: topV :: topV :: topV :: topV :: topV :: topV :: topV :: topV :: topV :: topV :: topV :: topV :: topV :: topV :: topV :: topV :: topV :: topV :: topV :: topV :: topV :: topV :: topV :: topV :: topV :: topV :: topV :: topV :: topV :: topV :: []), [some ⟨.view, .ints (flat ps)⟩, none, none]⟩) := by kernel_rfl
set_option maxRecDepth 100000 in
theorem nl_wst : loopsOf c_wst = [] := by kernel_rfl
def inv_wst (ps : List Pt) (a b : Nat) : Nat → Prop := fun m => m ≤ b - (a + 1)
def me_wst (ps : List Pt) (a b : Nat) : Nat → Nat := fun m => b - (a + 1) - m
/-- A round of this loop. -/
def Round_wst (ps : List Pt) (a b : Nat) : Prop := ∀ xx : Nat, inv_wst ps a b xx → (bodyL Try.prog ESm1 30 12 noL 1 c_wst k_wst 3 (s_wst ps a b xx)).ok (RoundEnd 3 (s_wst ps a b) (inv_wst ps a b) (me_wst ps a b) re_wst (rs_wst ps a b) xx) (fun _ _ => False)
def e_wst (s : St) (k : Ex → St → Tree) : Option Tree := match Nat.beq s.tmps.length 38, pickL s.tmps [0, 1, 2, 7, 8, 9, 10], s.mem with
  | true, [.slice (some ⟨0, 0, none⟩) n _, .int .i64 ia, .int .i64 ib, .int .i64 i7, .int .i64 z0, .int .i64 z1, .int .i64 kk], [some ⟨.view, .ints xs⟩, none, none] => some (needs [i7 = ia, z0 = 0, z1 = 1, 0 ≤ ia ∧ ia < n, 0 ≤ ib ∧ ib < n, kk = ia + 1, xs.length = n * 2, n ≤ 1000, allV (ptsA n xs) = true] (k (.exit 0) ⟨(topV :: topV :: topV :: topV :: topV :: topV :: topV :: .int .i64 (wrN (ptsA n xs) ia.toNat ib.toNat (ib.toNat - (ia.toNat + 1))) :: topV :: topV :: topV :: topV :: topV :: topV :: topV :: topV :: topV :: topV :: topV :: topV :: topV :: topV :: topV :: topV :: topV :: topV :: topV :: topV :: topV :: topV :: topV :: topV :: topV :: topV :: topV :: topV :: topV :: topV :: []), [some ⟨.view, .ints xs⟩, none, none]⟩))
  | _, _, _ => none
set_option maxRecDepth 100000 in
set_option maxHeartbeats 1000000 in
theorem round_wst (ps : List Pt) (a b : Nat) (hl : ps.length ≤ 1000) (hv : allV ps = true) (ha : a < ps.length) (hb : b < ps.length) : Round_wst ps a b := by
  intro m h1
  have h1 : m ≤ b - (a + 1) := h1
  rw [tr_wst]
  simp only [List.drop_zero, ptsA_flat, Int.toNat_natCast, flat_length]
  refine brT_ok.2 ⟨fun hlt => ?_, fun hge => ?_⟩
  · have hlt := of_decide_eq_true hlt
    have hk : a + 1 + m < b := by omega
    have st := wrN_st ps a b m
    have wb := wrN_bd ps a b m
    have d1 := dv_bd (gP_v hv a) (gP_v hv b) (gP_v hv (wrN ps a b m))
    have d2 := dv_bd (gP_v hv a) (gP_v hv b) (gP_v hv (a + 1 + m))
    have w : IntKind.i64.wrap (((a + 1 + m : Nat) : Int) + 1) = ((a + 1 + (m + 1) : Nat) : Int) := by rw [wr (by omega)]; omega
    rw [w]
    simp only [Tree.ok]
    repeat (refine And.intro (by first | assumption | omega) ?_)
    refine brT_ok.2 ⟨fun g => ?_, fun g => ?_⟩
    · rw [show btr ps a b (a + 1 + m) (wrN ps a b m) = true from g, cond_true] at st
      refine ⟨m + 1, [], ?_, ?_, rfl, rfl, ?_⟩
      · show m + 1 ≤ b - (a + 1); omega
      · show b - (a + 1) - (m + 1) < b - (a + 1) - m; omega
      · unfold s_wst
        rw [st]
        repeat' (first | exact True.intro | exact rfl | exact fun _ => rfl | refine And.intro ?_ ?_)
    · rw [show btr ps a b (a + 1 + m) (wrN ps a b m) = false from g, cond_false] at st
      refine ⟨m + 1, [], ?_, ?_, rfl, rfl, ?_⟩
      · show m + 1 ≤ b - (a + 1); omega
      · show b - (a + 1) - (m + 1) < b - (a + 1) - m; omega
      · unfold s_wst
        rw [st]
        repeat' (first | exact True.intro | exact rfl | exact fun _ => rfl | refine And.intro ?_ ?_)
  · have hge := of_decide_eq_false hge
    obtain rfl : m = b - (a + 1) := by omega
    refine ⟨rfl, [], ?_⟩
    repeat' (first | exact True.intro | exact rfl | exact fun _ => rfl | refine And.intro ?_ ?_)
set_option maxRecDepth 100000 in
theorem lg_wst : LoopE Try.prog e_wst c_wst := by
  intro s k t F H hlt ht
  unfold e_wst at hlt
  split at hlt
  rotate_left
  · cases hlt
  rename_i hlen hpick hmem
  obtain ⟨tmps, mem⟩ := s
  simp only at hlen hpick hmem
  subst hmem
  obtain rfl := Option.some.inj hlt
  obtain ⟨⟨rfl, rfl, rfl, h0, h6, h7, h1, h2, h3, _⟩, ht2⟩ := needs_ok ht
  clear ht hlt
  obtain ⟨ps, rfl, rfl⟩ := even_flat h1
  obtain ⟨a, rfl⟩ := Int.eq_ofNat_of_zero_le h0.1
  obtain ⟨b, rfl⟩ := Int.eq_ofNat_of_zero_le h6.1
  rw [ptsA_flat] at ht2 h3
  simp only [Int.toNat_natCast] at ht2
  subst h7
  rw [show (Value.int .i64 0) = .int .i64 (dvN (gP ps a) (gP ps b) (gP ps (wrN ps a b 0))) by rw [show wrN ps a b 0 = a from rfl, (dv_at _ _).1], show (Value.int .i64 1) = .int .i64 (dvD (gP ps a) (gP ps b) (gP ps (wrN ps a b 0))) by rw [show wrN ps a b 0 = a from rfl, (dv_at _ _).2]] at *
  refine ⟨_, _, ht2, loop_run mixed ESm1_ok (s_wst ps a b) (inv_wst ps a b) (me_wst ps a b) re_wst (rs_wst ps a b) k_wst (fun _ => rfl) (noLoops nl_wst) (round_wst ps a b h2 h3 (by omega) (by omega)) (x := 0) (Nat.zero_le _) (π := []) rfl ?_⟩
  refine ⟨rfl, rfl, ?_, wvs_spread' [0, 1, 2, 7, 8, 9, 10] hlen rfl ?_⟩
  · repeat' (first | exact True.intro | exact rfl | exact wv_top _ _ | exact fun _ => rfl | assumption | exact Eq.symm (by assumption) | exact vI0 rfl | refine And.intro ?_ ?_)
  · rw [hpick]
    repeat' (first | exact True.intro | exact rfl | exact wv_top _ _ | exact fun _ => rfl | assumption | exact Eq.symm (by assumption) | exact vI0 rfl | refine And.intro ?_ ?_)
/-- A part of a path. -/
def subP (ps : List Pt) (lo n : Nat) : List Pt := (ps.drop lo).take n
def fS (A B P : Pt) : Int := scS A B P
theorem subP_len {ps : List Pt} {lo n : Nat} (h : lo + n ≤ ps.length) : (subP ps lo n).length = n := by unfold subP; simp; omega
theorem subP_get {ps : List Pt} {lo n i : Nat} (h : i < n) : (subP ps lo n).getD i (0, 0) = ps.getD (lo + i) (0, 0) := by
  unfold subP
  simp only [List.getD_eq_getElem?_getD]
  rw [List.getElem?_take, if_pos h, List.getElem?_drop]
noncomputable def c_flS : Code := ((loopsOf (codeOf Try.f95))[0]?).getD .skip
def k_flS : Ex → List Nat := keeps [1, 5, 6, 10, 11, 12] [(0, [5])] [4]
def s_flS (ps : List Pt) (lo n : Nat) (a b c d : Int) : Nat × Int × Int → St := fun (i, bb, m) => ⟨(topV :: .func (.func 96) #[.agg #[.int .i64 a, .int .i64 b, .int .i64 c, .int .i64 d]] #[] :: topV :: topV :: topV :: .int .i64 bb :: .int .i64 m :: topV :: topV :: topV :: .slice (some ⟨0, lo * 2, none⟩) n n :: .int .i64 n :: .int .i64 i :: topV :: topV :: topV :: topV :: topV :: topV :: topV :: topV :: topV :: topV :: topV :: topV :: topV :: topV :: topV :: topV :: topV :: topV :: []), [some ⟨.view, .ints (flat ps)⟩, none, none, none, some ⟨.box, .vals [.int .i64 a, .int .i64 b, .int .i64 c, .int .i64 d]⟩]⟩
def re_flS : Nat × Int × Int → Ex := fun _ => .exit 0
def rs_flS (ps : List Pt) (lo n : Nat) (a b c d : Int) : Nat × Int × Int → St := fun (i, bb, m) => ⟨(topV :: topV :: topV :: topV :: topV :: .int .i64 (fl (fS (a, b) (c, d)) (subP ps lo n) i bb) :: topV :: topV :: topV :: topV :: topV :: topV :: topV :: topV :: topV :: topV :: topV :: topV :: topV :: topV :: topV :: topV :: topV :: topV :: topV :: topV :: topV :: topV :: topV :: topV :: topV :: []), [some ⟨.view, .ints (flat ps)⟩, none, none, none, some ⟨.box, .vals [.int .i64 a, .int .i64 b, .int .i64 c, .int .i64 d]⟩]⟩
set_option maxRecDepth 100000 in
theorem tr_flS (ps : List Pt) (lo n : Nat) (a b c d : Int) (i : Nat) (bb m : Int) : bodyL Try.prog ESm1 30 12 noL 1 c_flS k_flS 5 (s_flS ps lo n a b c d (i, bb, m)) = brT (decide ((↑i : Int) < (↑n : Int))) (.need ((0 : Int) ≤ (↑i : Int) ∧ (↑i : Int) < (↑n : Int)) (.need (lo * (2 : Nat) + (↑i : Int).toNat * (2 : Nat) + (2 : Nat) ≤ (flat ps).length) (.need (ptB a b = true) (.need (ptB c d = true) (.need (ptB ((flat ps).getD (lo * (2 : Nat) + (↑i : Int).toNat * (2 : Nat)) (0 : Int)) ((flat ps).getD (lo * (2 : Nat) + (↑i : Int).toNat * (2 : Nat) + (1 : Nat)) (0 : Int)) = true) (brT (decide (bb < 0)) (.leaf .normal ⟨(topV :: .func (Fn.func 96) #[.agg #[.int .i64 (a), .int .i64 (b), .int .i64 (c), .int .i64 (d)]] #[] :: topV :: topV :: topV :: .int .i64 ((↑i : Int)) :: .int .i64 (scS (a, b) (c, d) ((flat ps).getD (lo * 2 + (↑i : Int).toNat * (2 : Nat)) 0, (flat ps).getD (lo * 2 + (↑i : Int).toNat * (2 : Nat) + 1) 0)) :: topV :: topV :: topV :: .slice (some ⟨0, lo * 2, none⟩) (n) (n) :: .int .i64 ((↑n : Int)) :: .int .i64 (IntKind.i64.wrap ((↑i : Int) + 1)) :: topV :: topV :: topV :: topV :: topV :: topV :: topV :: topV :: topV :: topV :: topV :: topV :: topV :: topV :: topV :: topV :: topV :: topV :: []), [some ⟨.view, .ints (flat ps)⟩, none, none, none, some ⟨.box, .vals [.int .i64 (a), .int .i64 (b), .int .i64 (c), .int .i64 (d)]⟩]⟩) (brT (decide (m < scS (a, b) (c, d) ((flat ps).getD (lo * 2 + (↑i : Int).toNat * (2 : Nat)) 0, (flat ps).getD (lo * 2 + (↑i : Int).toNat * (2 : Nat) + 1) 0))) (.leaf .normal ⟨(topV :: .func (Fn.func 96) #[.agg #[.int .i64 (a), .int .i64 (b), .int .i64 (c), .int .i64 (d)]] #[] :: topV :: topV :: topV :: .int .i64 ((↑i : Int)) :: .int .i64 (scS (a, b) (c, d) ((flat ps).getD (lo * 2 + (↑i : Int).toNat * (2 : Nat)) 0, (flat ps).getD (lo * 2 + (↑i : Int).toNat * (2 : Nat) + 1) 0)) :: topV :: topV :: topV :: .slice (some ⟨0, lo * 2, none⟩) (n) (n) :: .int .i64 ((↑n : Int)) :: .int .i64 (IntKind.i64.wrap ((↑i : Int) + 1)) :: topV :: topV :: topV :: topV :: topV :: topV :: topV :: topV :: topV :: topV :: topV :: topV :: topV :: topV :: topV :: topV :: topV :: topV :: []), [some ⟨.view, .ints (flat ps)⟩, none, none, none, some ⟨.box, .vals [.int .i64 (a), .int .i64 (b), .int .i64 (c), .int .i64 (d)]⟩]⟩) (.leaf .normal ⟨(topV :: .func (Fn.func 96) #[.agg #[.int .i64 (a), .int .i64 (b), .int .i64 (c), .int .i64 (d)]] #[] :: topV :: topV :: topV :: .int .i64 (bb) :: .int .i64 (m) :: topV :: topV :: topV :: .slice (some ⟨0, lo * 2, none⟩) (n) (n) :: .int .i64 ((↑n : Int)) :: .int .i64 (IntKind.i64.wrap ((↑i : Int) + 1)) :: topV :: topV :: topV :: topV :: topV :: topV :: topV :: topV :: topV :: topV :: topV :: topV :: topV :: topV :: topV :: topV :: topV :: topV :: []), [some ⟨.view, .ints (flat ps)⟩, none, none, none, some ⟨.box, .vals [.int .i64 (a), .int .i64 (b), .int .i64 (c), .int .i64 (d)]⟩]⟩)))))))) (.leaf (.exit 0) ⟨(topV :: topV :: topV :: topV :: topV :: .int .i64 (bb) :: topV :: topV :: topV :: topV :: topV :: topV :: topV :: topV :: topV :: topV :: topV :: topV :: topV :: topV :: topV :: topV :: topV :: topV :: topV :: topV :: topV :: topV :: topV :: topV :: topV :: []), [some ⟨.view, .ints (flat ps)⟩, none, none, none, some ⟨.box, .vals [.int .i64 (a), .int .i64 (b), .int .i64 (c), .int .i64 (d)]⟩]⟩) := by kernel_rfl
set_option maxRecDepth 100000 in
theorem nl_flS : loopsOf c_flS = [] := by kernel_rfl
def inv_flS (ps : List Pt) (lo n : Nat) (a b c d : Int) : Nat × Int × Int → Prop := fun (i, bb, m) => i ≤ n ∧ (bb = -1 ∨ 0 ≤ bb ∧ bb < i ∧ m = fS (a, b) (c, d) ((subP ps lo n).getD bb.toNat (0, 0)))
def me_flS (ps : List Pt) (lo n : Nat) (a b c d : Int) : Nat × Int × Int → Nat := fun (i, bb, m) => n - i
/-- A round of this loop. -/
def Round_flS (ps : List Pt) (lo n : Nat) (a b c d : Int) : Prop := ∀ xx : Nat × Int × Int, inv_flS ps lo n a b c d xx → (bodyL Try.prog ESm1 30 12 noL 1 c_flS k_flS 5 (s_flS ps lo n a b c d xx)).ok (RoundEnd 5 (s_flS ps lo n a b c d) (inv_flS ps lo n a b c d) (me_flS ps lo n a b c d) re_flS (rs_flS ps lo n a b c d) xx) (fun _ _ => False)
def e_flS (s : St) (k : Ex → St → Tree) : Option Tree := match Nat.beq s.tmps.length 31, pickL s.tmps [1, 5, 6, 10, 11, 12], s.mem with
  | true, [.func (.func 96) ⟨[.agg ⟨[.int .i64 a, .int .i64 b, .int .i64 c, .int .i64 d]⟩]⟩ ⟨[]⟩, .int .i64 bb, .int .i64 mm, .slice (some ⟨0, off, none⟩) n _, .int .i64 l, .int .i64 i], [some ⟨.view, .ints xs⟩, none, none, none, some ⟨.box, .vals [.int .i64 a2, .int .i64 b2, .int .i64 c2, .int .i64 d2]⟩] => some (needs [i = 0, bb = -1, mm = 0, l = n, a2 = a, b2 = b, c2 = c, d2 = d, xs.length % 2 = 0, off % 2 = 0, off + n * 2 ≤ xs.length, xs.length ≤ 2000, allV (ptsA (xs.length / 2) xs) = true, ptB a b = true, ptB c d = true] (k (.exit 0) ⟨(topV :: topV :: topV :: topV :: topV :: .int .i64 (fl (fS (a, b) (c, d)) (subP (ptsA (xs.length / 2) xs) (off / 2) n) 0 (-1)) :: topV :: topV :: topV :: topV :: topV :: topV :: topV :: topV :: topV :: topV :: topV :: topV :: topV :: topV :: topV :: topV :: topV :: topV :: topV :: topV :: topV :: topV :: topV :: topV :: topV :: []), [some ⟨.view, .ints xs⟩, none, none, none, some ⟨.box, .vals [.int .i64 a2, .int .i64 b2, .int .i64 c2, .int .i64 d2]⟩]⟩))
  | _, _, _ => none
set_option maxRecDepth 100000 in
theorem round_flS (ps : List Pt) (lo n : Nat) (a b c d : Int) (hl : ps.length ≤ 1000) (hv : allV ps = true) (hn : lo + n ≤ ps.length) (h5 : ptB a b = true) (h6 : ptB c d = true) : Round_flS ps lo n a b c d := by
  rintro ⟨i, bb, m⟩ ⟨h1, h2⟩
  rw [tr_flS]
  have qs := subP_len hn
  have ix : lo * 2 + i * 2 = (lo + i) * 2 := by omega
  simp only [Int.toNat_natCast, Nat.zero_add, flat_length, ix, flat_get0, flat_get1]
  refine brT_ok.2 ⟨fun hlt => ?_, fun hge => ?_⟩
  · have hlt := of_decide_eq_true hlt
    have hi : i < n := by omega
    have e := subP_get (ps := ps) (lo := lo) (n := n) hi
    rw [wsucc (n := n) hi (by omega)]
    have hf : fS (a, b) (c, d) ((subP ps lo n).getD i (0, 0)) = scS (a, b) (c, d) ((ps.getD (lo + i) (0, 0)).1, (ps.getD (lo + i) (0, 0)).2) := by rw [e]; rfl
    rw [← hf]
    have new : fl (fS (a, b) (c, d)) (subP ps lo n) i bb = fl (fS (a, b) (c, d)) (subP ps lo n) (i + 1) i → RoundEnd 5 (s_flS ps lo n a b c d) (inv_flS ps lo n a b c d) (me_flS ps lo n a b c d) re_flS (rs_flS ps lo n a b c d) (i, bb, m) .normal (s_flS ps lo n a b c d (i + 1, i, fS (a, b) (c, d) ((subP ps lo n).getD i (0, 0)))) := fun e => by
      refine ⟨(i + 1, i, fS (a, b) (c, d) ((subP ps lo n).getD i (0, 0))), [], ⟨by omega, .inr ⟨by omega, by omega, by rw [Int.toNat_natCast]⟩⟩, ?_, rfl, by simp only [rs_flS]; rw [e], ?_⟩
      · show n - (i + 1) < n - i; omega
      · repeat' (first | exact True.intro | exact rfl | exact fun _ => rfl | refine And.intro ?_ ?_)
    simp only [Tree.ok]
    refine ⟨by omega, by omega, h5, h6, allV_at hv (by omega), brT_ok.2 ⟨fun hb => ?_, fun hb => brT_ok.2 ⟨fun hle => ?_, fun hle => ?_⟩⟩⟩
    · exact new (fl_first (by omega) (of_decide_eq_true hb))
    · have hb := of_decide_eq_false hb
      obtain ⟨g1, g2, g3⟩ := h2.resolve_left (by omega)
      exact new (fl_yes (by omega) g1 (by rw [← g3]; exact of_decide_eq_true hle))
    · have hb := of_decide_eq_false hb
      obtain ⟨g1, g2, g3⟩ := h2.resolve_left (by omega)
      refine ⟨(i + 1, bb, m), [], ⟨by omega, .inr ⟨by omega, by omega, g3⟩⟩, ?_, rfl, by simp only [rs_flS]; rw [fl_no (i := i) (by omega) g1 (by rw [← g3]; exact of_decide_eq_false hle)], ?_⟩
      · show n - (i + 1) < n - i; omega
      · repeat' (first | exact True.intro | exact rfl | exact fun _ => rfl | refine And.intro ?_ ?_)
  · have hge := of_decide_eq_false hge
    refine ⟨rfl, [], ?_⟩
    simp only [rs_flS, fl_end (f := fS (a, b) (c, d)) (ps := subP ps lo n) (i := i) (by omega) (b := bb) (h2.imp id fun h => h.1)]
    repeat' (first | exact True.intro | exact rfl | exact fun _ => rfl | refine And.intro ?_ ?_)
set_option maxRecDepth 100000 in
theorem lg_flS : LoopE Try.prog e_flS c_flS := by
  intro s k t F H hlt ht
  unfold e_flS at hlt
  split at hlt
  rotate_left
  · cases hlt
  rename_i hlen hpick hmem
  obtain ⟨tmps, mem⟩ := s
  simp only at hlen hpick hmem
  subst hmem
  obtain rfl := Option.some.inj hlt
  obtain ⟨⟨rfl, rfl, rfl, rfl, rfl, rfl, rfl, rfl, h1, h0, h3, h2, h4, h5, h6, _⟩, ht2⟩ := needs_ok ht
  clear ht hlt
  rename_i off n c1 xs aa bb cc dd rr
  obtain ⟨N, hN⟩ : ∃ N, xs.length = N * 2 := ⟨xs.length / 2, by omega⟩
  obtain ⟨ps, rfl, rfl⟩ := even_flat hN
  obtain ⟨lo, rfl⟩ : ∃ lo, off = lo * 2 := ⟨off / 2, by omega⟩
  rw [show (flat ps).length / 2 = ps.length by rw [flat_length]; omega, ptsA_flat] at h4 ht2
  rw [show lo * 2 / 2 = lo by omega] at ht2
  rw [flat_length] at h3 h2
  refine ⟨_, _, ht2, loop_run mixed ESm1_ok (s_flS ps lo _ _ _ _ _) (inv_flS ps lo _ _ _ _ _) (me_flS ps lo _ _ _ _ _) re_flS (rs_flS ps lo _ _ _ _ _) k_flS (fun _ => rfl) (noLoops nl_flS) (round_flS ps lo _ _ _ _ _ (by omega) h4 (by omega) h5 h6) (x := (0, -1, 0)) ⟨Nat.zero_le _, .inl rfl⟩ (π := []) rfl ?_⟩
  refine ⟨rfl, rfl, ?_, wvs_spread' [1, 5, 6, 10, 11, 12] hlen rfl ?_⟩
  · repeat' (first | exact True.intro | exact rfl | exact wv_top _ _ | exact fun _ => rfl | assumption | exact Eq.symm (by assumption) | exact vI0 rfl | refine And.intro ?_ ?_)
  · rw [hpick]
    repeat' (first | exact True.intro | exact rfl | exact wv_top _ _ | exact fun _ => rfl | assumption | exact Eq.symm (by assumption) | exact vI0 rfl | refine And.intro ?_ ?_)
theorem Lr_wst {fn : Func} (hf : Try.prog.funcs[98]? = some fn) : LoopsGood Try.prog (lt1 e_wst) 0 (codeOf fn) := by
  obtain rfl := fn_is Try.func98 hf
  exact lt1_good lg_wst
theorem Lr_flS {fn : Func} (hf : Try.prog.funcs[95]? = some fn) : LoopsGood Try.prog (lt1 e_flS) 0 (codeOf fn) := by
  obtain rfl := fn_is Try.func95 hf
  exact lt1_good lg_flS
def LSmb : FuncId → LT := fun f => match f with
  | 98 => lt1 e_wst
  | 95 => lt1 e_flS
  | _ => noL
def ESm2 : Env := mkE TSm1 R4 LSmb
theorem ESm2_ok : EnvOk Try.prog ESm2 := mkEOk TSm1_ok R4_ok (by
  intro f fn hf
  unfold LSmb
  split
  all_goals first | with_reducible exact Lr_wst hf | with_reducible exact Lr_flS hf | exact noL_good)
set_option maxRecDepth 100000 in
theorem tr_wstF (ps : List Pt) (a b : Int) : bodyV Try.prog ESm2 30 12 98 [.row ps.length (.ints (flat ps)), .v (iv a), .v (iv b)] = .need (a = a) (.need ((0 : Int) = (0 : Int)) (.need ((1 : Int) = (1 : Int)) (.need ((0 : Int) ≤ a ∧ a < (↑ps.length : Int)) (.need ((0 : Int) ≤ b ∧ b < (↑ps.length : Int)) (.need (IntKind.i64.wrap (a + (1 : Int)) = a + (1 : Int)) (.need ((flat ps).length = ps.length * (2 : Nat)) (.need (ps.length ≤ (1000 : Nat)) (.need (allV (ptsA ps.length (flat ps)) = true) (.fin (.int .i64 ((↑(wrN (ptsA ps.length (flat ps)) a.toNat b.toNat (b.toNat - (a.toNat + 1))) : Int))) []))))))))) := by kernel_rfl
set_option maxRecDepth 100000 in
theorem tr_farF (ps : List Pt) (a b m : Int) : bodyV Try.prog ESm2 30 12 66 [.row ps.length (.ints (flat ps)), .v (iv a), .v (iv b), .v (iv m)] = .need ((0 : Int) ≤ a ∧ a < (↑ps.length : Int)) (.need ((0 : Nat) + a.toNat * (2 : Nat) + (2 : Nat) ≤ (flat ps).length) (.need ((0 : Int) ≤ b ∧ b < (↑ps.length : Int)) (.need ((0 : Nat) + b.toNat * (2 : Nat) + (2 : Nat) ≤ (flat ps).length) (.need ((0 : Int) ≤ bndI (some (IntKind.i64, IntKind.i64.wrap (a + (1 : Int)))) (0 : Int) ∧ bndI (some (IntKind.i64, IntKind.i64.wrap (a + (1 : Int)))) (0 : Int) ≤ bndI (some (IntKind.i64, b)) (↑ps.length : Int) ∧ bndI (some (IntKind.i64, b)) (↑ps.length : Int) ≤ (↑ps.length : Int)) (.need ((0 : Int) = (0 : Int)) (.need ((-1 : Int) = (-1 : Int)) (.need ((0 : Int) = (0 : Int)) (.need ((↑((bndI (some (IntKind.i64, b)) (↑ps.length : Int)).toNat - (bndI (some (IntKind.i64, IntKind.i64.wrap (a + (1 : Int)))) (0 : Int)).toNat) : Int) = (↑((bndI (some (IntKind.i64, b)) (↑ps.length : Int)).toNat - (bndI (some (IntKind.i64, IntKind.i64.wrap (a + (1 : Int)))) (0 : Int)).toNat) : Int)) (.need ((flat ps).getD ((0 : Nat) + a.toNat * (2 : Nat)) (0 : Int) = (flat ps).getD ((0 : Nat) + a.toNat * (2 : Nat)) (0 : Int)) (.need ((flat ps).getD ((0 : Nat) + a.toNat * (2 : Nat) + (1 : Nat)) (0 : Int) = (flat ps).getD ((0 : Nat) + a.toNat * (2 : Nat) + (1 : Nat)) (0 : Int)) (.need ((flat ps).getD ((0 : Nat) + b.toNat * (2 : Nat)) (0 : Int) = (flat ps).getD ((0 : Nat) + b.toNat * (2 : Nat)) (0 : Int)) (.need ((flat ps).getD ((0 : Nat) + b.toNat * (2 : Nat) + (1 : Nat)) (0 : Int) = (flat ps).getD ((0 : Nat) + b.toNat * (2 : Nat) + (1 : Nat)) (0 : Int)) (.need ((flat ps).length % (2 : Nat) = (0 : Nat)) (.need (((0 : Nat) + (bndI (some (IntKind.i64, IntKind.i64.wrap (a + (1 : Int)))) (0 : Int)).toNat * (2 : Nat)) % (2 : Nat) = (0 : Nat)) (.need ((0 : Nat) + (bndI (some (IntKind.i64, IntKind.i64.wrap (a + (1 : Int)))) (0 : Int)).toNat * (2 : Nat) + ((bndI (some (IntKind.i64, b)) (↑ps.length : Int)).toNat - (bndI (some (IntKind.i64, IntKind.i64.wrap (a + (1 : Int)))) (0 : Int)).toNat) * (2 : Nat) ≤ (flat ps).length) (.need ((flat ps).length ≤ (2000 : Nat)) (.need (allV (ptsA ((flat ps).length / (2 : Nat)) (flat ps)) = true) (.need (ptB ((flat ps).getD ((0 : Nat) + a.toNat * (2 : Nat)) (0 : Int)) ((flat ps).getD ((0 : Nat) + a.toNat * (2 : Nat) + (1 : Nat)) (0 : Int)) = true) (.need (ptB ((flat ps).getD ((0 : Nat) + b.toNat * (2 : Nat)) (0 : Int)) ((flat ps).getD ((0 : Nat) + b.toNat * (2 : Nat) + (1 : Nat)) (0 : Int)) = true) (brT (decide (fl (fS ((flat ps).getD (0 + a.toNat * (2 : Nat)) 0, (flat ps).getD (0 + a.toNat * (2 : Nat) + 1) 0) ((flat ps).getD (0 + b.toNat * (2 : Nat)) 0, (flat ps).getD (0 + b.toNat * (2 : Nat) + 1) 0)) (subP (ptsA ((flat ps).length / 2) (flat ps)) ((0 + (bndI (some (IntKind.i64, IntKind.i64.wrap (a + 1))) 0).toNat * 2) / 2) ((bndI (some (IntKind.i64, b)) (↑ps.length : Int)).toNat - (bndI (some (IntKind.i64, IntKind.i64.wrap (a + 1))) 0).toNat)) 0 (-1) < 0)) (.fin (.tuple #[.int .i64 (0), .bool (false)]) []) (.need (ptB ((flat ps).getD ((0 : Nat) + a.toNat * (2 : Nat)) (0 : Int)) ((flat ps).getD ((0 : Nat) + a.toNat * (2 : Nat) + (1 : Nat)) (0 : Int)) = true) (.need (ptB ((flat ps).getD ((0 : Nat) + b.toNat * (2 : Nat)) (0 : Int)) ((flat ps).getD ((0 : Nat) + b.toNat * (2 : Nat) + (1 : Nat)) (0 : Int)) = true) (.need (ptB ((flat ps).getD ((0 : Nat) + (bndI (some (IntKind.i64, IntKind.i64.wrap (a + (1 : Int)))) (0 : Int)).toNat * (2 : Nat) + (fl (fS ((flat ps).getD ((0 : Nat) + a.toNat * (2 : Nat)) (0 : Int), (flat ps).getD ((0 : Nat) + a.toNat * (2 : Nat) + (1 : Nat)) (0 : Int)) ((flat ps).getD ((0 : Nat) + b.toNat * (2 : Nat)) (0 : Int), (flat ps).getD ((0 : Nat) + b.toNat * (2 : Nat) + (1 : Nat)) (0 : Int))) (subP (ptsA ((flat ps).length / (2 : Nat)) (flat ps)) (((0 : Nat) + (bndI (some (IntKind.i64, IntKind.i64.wrap (a + (1 : Int)))) (0 : Int)).toNat * (2 : Nat)) / (2 : Nat)) ((bndI (some (IntKind.i64, b)) (↑ps.length : Int)).toNat - (bndI (some (IntKind.i64, IntKind.i64.wrap (a + (1 : Int)))) (0 : Int)).toNat)) (0 : Nat) (-1 : Int)).toNat * (2 : Nat)) (0 : Int)) ((flat ps).getD ((0 : Nat) + (bndI (some (IntKind.i64, IntKind.i64.wrap (a + (1 : Int)))) (0 : Int)).toNat * (2 : Nat) + (fl (fS ((flat ps).getD ((0 : Nat) + a.toNat * (2 : Nat)) (0 : Int), (flat ps).getD ((0 : Nat) + a.toNat * (2 : Nat) + (1 : Nat)) (0 : Int)) ((flat ps).getD ((0 : Nat) + b.toNat * (2 : Nat)) (0 : Int), (flat ps).getD ((0 : Nat) + b.toNat * (2 : Nat) + (1 : Nat)) (0 : Int))) (subP (ptsA ((flat ps).length / (2 : Nat)) (flat ps)) (((0 : Nat) + (bndI (some (IntKind.i64, IntKind.i64.wrap (a + (1 : Int)))) (0 : Int)).toNat * (2 : Nat)) / (2 : Nat)) ((bndI (some (IntKind.i64, b)) (↑ps.length : Int)).toNat - (bndI (some (IntKind.i64, IntKind.i64.wrap (a + (1 : Int)))) (0 : Int)).toNat)) (0 : Nat) (-1 : Int)).toNat * (2 : Nat) + (1 : Nat)) (0 : Int)) = true) (.need (ptB ((flat ps).getD ((0 : Nat) + a.toNat * (2 : Nat)) (0 : Int)) ((flat ps).getD ((0 : Nat) + a.toNat * (2 : Nat) + (1 : Nat)) (0 : Int)) = true) (.need (ptB ((flat ps).getD ((0 : Nat) + b.toNat * (2 : Nat)) (0 : Int)) ((flat ps).getD ((0 : Nat) + b.toNat * (2 : Nat) + (1 : Nat)) (0 : Int)) = true) (.need ((0 : Int) ≤ fl (fS ((flat ps).getD ((0 : Nat) + a.toNat * (2 : Nat)) (0 : Int), (flat ps).getD ((0 : Nat) + a.toNat * (2 : Nat) + (1 : Nat)) (0 : Int)) ((flat ps).getD ((0 : Nat) + b.toNat * (2 : Nat)) (0 : Int), (flat ps).getD ((0 : Nat) + b.toNat * (2 : Nat) + (1 : Nat)) (0 : Int))) (subP (ptsA ((flat ps).length / (2 : Nat)) (flat ps)) (((0 : Nat) + (bndI (some (IntKind.i64, IntKind.i64.wrap (a + (1 : Int)))) (0 : Int)).toNat * (2 : Nat)) / (2 : Nat)) ((bndI (some (IntKind.i64, b)) (↑ps.length : Int)).toNat - (bndI (some (IntKind.i64, IntKind.i64.wrap (a + (1 : Int)))) (0 : Int)).toNat)) (0 : Nat) (-1 : Int) ∧ fl (fS ((flat ps).getD ((0 : Nat) + a.toNat * (2 : Nat)) (0 : Int), (flat ps).getD ((0 : Nat) + a.toNat * (2 : Nat) + (1 : Nat)) (0 : Int)) ((flat ps).getD ((0 : Nat) + b.toNat * (2 : Nat)) (0 : Int), (flat ps).getD ((0 : Nat) + b.toNat * (2 : Nat) + (1 : Nat)) (0 : Int))) (subP (ptsA ((flat ps).length / (2 : Nat)) (flat ps)) (((0 : Nat) + (bndI (some (IntKind.i64, IntKind.i64.wrap (a + (1 : Int)))) (0 : Int)).toNat * (2 : Nat)) / (2 : Nat)) ((bndI (some (IntKind.i64, b)) (↑ps.length : Int)).toNat - (bndI (some (IntKind.i64, IntKind.i64.wrap (a + (1 : Int)))) (0 : Int)).toNat)) (0 : Nat) (-1 : Int) < (↑((bndI (some (IntKind.i64, b)) (↑ps.length : Int)).toNat - (bndI (some (IntKind.i64, IntKind.i64.wrap (a + (1 : Int)))) (0 : Int)).toNat) : Int)) (.need ((0 : Nat) + (bndI (some (IntKind.i64, IntKind.i64.wrap (a + (1 : Int)))) (0 : Int)).toNat * (2 : Nat) + (fl (fS ((flat ps).getD ((0 : Nat) + a.toNat * (2 : Nat)) (0 : Int), (flat ps).getD ((0 : Nat) + a.toNat * (2 : Nat) + (1 : Nat)) (0 : Int)) ((flat ps).getD ((0 : Nat) + b.toNat * (2 : Nat)) (0 : Int), (flat ps).getD ((0 : Nat) + b.toNat * (2 : Nat) + (1 : Nat)) (0 : Int))) (subP (ptsA ((flat ps).length / (2 : Nat)) (flat ps)) (((0 : Nat) + (bndI (some (IntKind.i64, IntKind.i64.wrap (a + (1 : Int)))) (0 : Int)).toNat * (2 : Nat)) / (2 : Nat)) ((bndI (some (IntKind.i64, b)) (↑ps.length : Int)).toNat - (bndI (some (IntKind.i64, IntKind.i64.wrap (a + (1 : Int)))) (0 : Int)).toNat)) (0 : Nat) (-1 : Int)).toNat * (2 : Nat) + (2 : Nat) ≤ (flat ps).length) (brT (decide (scS ((flat ps).getD (0 + a.toNat * (2 : Nat)) 0, (flat ps).getD (0 + a.toNat * (2 : Nat) + 1) 0) ((flat ps).getD (0 + b.toNat * (2 : Nat)) 0, (flat ps).getD (0 + b.toNat * (2 : Nat) + 1) 0) ((flat ps).getD (0 + (bndI (some (IntKind.i64, IntKind.i64.wrap (a + 1))) 0).toNat * Try.prog.types[61].size + (fl (fS ((flat ps).getD (0 + a.toNat * (2 : Nat)) 0, (flat ps).getD (0 + a.toNat * (2 : Nat) + 1) 0) ((flat ps).getD (0 + b.toNat * (2 : Nat)) 0, (flat ps).getD (0 + b.toNat * (2 : Nat) + 1) 0)) (subP (ptsA ((flat ps).length / 2) (flat ps)) ((0 + (bndI (some (IntKind.i64, IntKind.i64.wrap (a + 1))) 0).toNat * Try.prog.types[61].size) / 2) ((bndI (some (IntKind.i64, b)) (↑ps.length : Int)).toNat - (bndI (some (IntKind.i64, IntKind.i64.wrap (a + 1))) 0).toNat)) 0 (-1)).toNat * (2 : Nat)) 0, (flat ps).getD (0 + (bndI (some (IntKind.i64, IntKind.i64.wrap (a + 1))) 0).toNat * Try.prog.types[61].size + (fl (fS ((flat ps).getD (0 + a.toNat * (2 : Nat)) 0, (flat ps).getD (0 + a.toNat * (2 : Nat) + 1) 0) ((flat ps).getD (0 + b.toNat * (2 : Nat)) 0, (flat ps).getD (0 + b.toNat * (2 : Nat) + 1) 0)) (subP (ptsA ((flat ps).length / 2) (flat ps)) ((0 + (bndI (some (IntKind.i64, IntKind.i64.wrap (a + 1))) 0).toNat * Try.prog.types[61].size) / 2) ((bndI (some (IntKind.i64, b)) (↑ps.length : Int)).toNat - (bndI (some (IntKind.i64, IntKind.i64.wrap (a + 1))) 0).toNat)) 0 (-1)).toNat * (2 : Nat) + 1) 0) ≤ IntKind.i64.wrap (m * sclP ((flat ps).getD (0 + a.toNat * (2 : Nat)) 0, (flat ps).getD (0 + a.toNat * (2 : Nat) + 1) 0) ((flat ps).getD (0 + b.toNat * (2 : Nat)) 0, (flat ps).getD (0 + b.toNat * (2 : Nat) + 1) 0)))) (.fin (.tuple #[.int .i64 (0), .bool (false)]) []) (.fin (.tuple #[.int .i64 (IntKind.i64.wrap (IntKind.i64.wrap (a + 1) + fl (fS ((flat ps).getD (0 + a.toNat * (2 : Nat)) 0, (flat ps).getD (0 + a.toNat * (2 : Nat) + 1) 0) ((flat ps).getD (0 + b.toNat * (2 : Nat)) 0, (flat ps).getD (0 + b.toNat * (2 : Nat) + 1) 0)) (subP (ptsA ((flat ps).length / 2) (flat ps)) ((0 + (bndI (some (IntKind.i64, IntKind.i64.wrap (a + 1))) 0).toNat * 2) / 2) ((bndI (some (IntKind.i64, b)) (↑ps.length : Int)).toNat - (bndI (some (IntKind.i64, IntKind.i64.wrap (a + 1))) 0).toNat)) 0 (-1))), .bool (true)]) []))))))))))))))))))))))))))))) := by kernel_rfl
end Go.Proofs.Ytpjdnplpiamjcab
namespace Go.Proofs.Ytpjdnplpiamjcab
set_option linter.all false
open Go.RowKit
def wrK (ps : List Pt) (a b : Nat) : Nat := wrN ps a b (b - (a + 1))
theorem wrK_bd (ps : List Pt) {a b : Nat} (h : a < b) : a ≤ wrK ps a b ∧ wrK ps a b < b := by
  have := wrN_bd ps a b (b - (a + 1))
  unfold wrK
  omega
/-- Is no point between two others to be kept? -/
def stpB (ps : List Pt) (a b : Nat) (most : Int) : Bool := decide (wrK ps a b = a) || decide (dvN (gP ps a) (gP ps b) (gP ps (wrK ps a b)) ≤ most * dvD (gP ps a) (gP ps b) (gP ps (wrK ps a b)))
def mxN (f : Pt → Int) (qs : List Pt) : Nat → Nat
  | 0 => 0
  | m + 1 => if f (qs.getD (mxN f qs m) (0, 0)) < f (qs.getD m (0, 0)) then m else mxN f qs m
theorem mxN_st (f : Pt → Int) (qs : List Pt) (m : Nat) : mxN f qs (m + 1) = if f (qs.getD (mxN f qs m) (0, 0)) < f (qs.getD m (0, 0)) then m else mxN f qs m := rfl
theorem mxN_lt (f : Pt → Int) (qs : List Pt) : ∀ m, 0 < m → mxN f qs m < m
  | 0, h => by omega
  | m + 1, _ => by
    rcases Nat.eq_zero_or_pos m with rfl | h
    · rw [mxN_st]; split <;> simp [mxN]
    · have := mxN_lt f qs m h
      rw [mxN_st]; split <;> omega
theorem mxN_one (f : Pt → Int) (qs : List Pt) : mxN f qs 1 = 0 := by rw [mxN_st]; split <;> simp [mxN]
theorem ag_mxN (f : Pt → Int) (qs : List Pt) : ∀ m i, ag f qs m i (mxN f qs i) = mxN f qs (i + m)
  | 0, i => rfl
  | m + 1, i => by
    have := ag_mxN f qs m (i + 1)
    rw [show i + (m + 1) = i + 1 + m by omega, ← this]
    rfl
theorem fl_mxN {f : Pt → Int} {qs : List Pt} (h : 0 < qs.length) : fl f qs 0 (-1) = (mxN f qs qs.length : Nat) := by
  have e : ∀ n i b : Nat, i + n = qs.length → b < i → fl f qs i b = (ag f qs n i b : Nat) := by
    intro n
    induction n with
    | zero => intro i b h1 h2; rw [fl_end (by omega) (.inr (by omega))]; rfl
    | succ n ih =>
      intro i b h1 h2
      by_cases hlt : f (qs.getD b (0, 0)) < f (qs.getD i (0, 0))
      · rw [fl_yes (by omega) (by omega) (by rw [Int.toNat_natCast]; exact hlt), ih (i + 1) i (by omega) (by omega)]
        simp only [ag, hlt, if_true]
      · rw [fl_no (by omega) (by omega) (by rw [Int.toNat_natCast]; exact hlt), ih (i + 1) b (by omega) (by omega)]
        simp only [ag, hlt, if_false]
  have h1 := fl_first (f := f) (ps := qs) (i := 0) h (b := -1) (by omega)
  rw [h1]
  have := e (qs.length - 1) 1 0 (by omega) (by omega)
  rw [show (0 + 1 : Nat) = 1 from rfl, this]
  have k := ag_mxN f qs (qs.length - 1) 1
  rw [mxN_one, show 1 + (qs.length - 1) = qs.length by omega] at k
  rw [k]
theorem mul_lt_iff {x y s : Int} (h : 1 ≤ s) : x * s < y * s ↔ x < y := ⟨fun hh => Int.lt_of_mul_lt_mul_right hh (by omega), fun hh => Int.mul_lt_mul_of_pos_right hh (by omega)⟩
theorem mul_le_iff {x y s : Int} (h : 1 ≤ s) : x * s ≤ y * s ↔ x ≤ y := by
  have := mul_lt_iff (x := y) (y := x) h
  omega
theorem btr_sc {ps : List Pt} (hv : allV ps = true) (a b k j : Nat) : btr ps a b k j = decide (scS (gP ps a) (gP ps b) (gP ps j) < scS (gP ps a) (gP ps b) (gP ps k)) := by
  have e1 := sc_dv (gP ps a) (gP ps b) (gP ps j)
  have e2 := sc_dv (gP ps a) (gP ps b) (gP ps k)
  have d1 := (dv_bd (gP_v hv a) (gP_v hv b) (gP_v hv j)).2
  have d2 := (dv_bd (gP_v hv a) (gP_v hv b) (gP_v hv k)).2
  have s := scl_pos (gP ps a) (gP ps b)
  unfold btr
  refine decide_eq_decide.2 ?_
  generalize scS (gP ps a) (gP ps b) (gP ps j) = Fj at *
  generalize scS (gP ps a) (gP ps b) (gP ps k) = Fk at *
  generalize dvN (gP ps a) (gP ps b) (gP ps j) = Nj at *
  generalize dvN (gP ps a) (gP ps b) (gP ps k) = Nk at *
  generalize dvD (gP ps a) (gP ps b) (gP ps j) = Dj at *
  generalize dvD (gP ps a) (gP ps b) (gP ps k) = Dk at *
  generalize sclP (gP ps a) (gP ps b) = S at *
  rw [← mul_lt_iff (x := Nj * Dk) s, ← mul_lt_iff (x := Fj) (s := Dj * Dk) (by have := Int.mul_pos (a := Dj) (b := Dk) (by omega) (by omega); omega)]
  have k1 : Nj * Dk * S = Fj * (Dj * Dk) := by
    calc Nj * Dk * S = Nj * S * Dk := by grind
      _ = Fj * (Dj * Dk) := by rw [← e1]; grind
  have k2 : Nk * Dj * S = Fk * (Dj * Dk) := by
    calc Nk * Dj * S = Nk * S * Dj := by grind
      _ = Fk * (Dj * Dk) := by rw [← e2]; grind
  rw [k1, k2]
theorem sc_at (A B : Pt) : scS A B A = 0 := by
  have := sc_dv A B A
  rw [(dv_at A B).1, (dv_at A B).2] at this
  omega
theorem sc_nn {A B P : Pt} (ha : vP A) (hb : vP B) (hp : vP P) : 0 ≤ scS A B P := by
  have e := sc_dv A B P
  obtain ⟨n, d⟩ := dv_bd ha hb hp
  have s := scl_pos A B
  have : 0 ≤ dvN A B P * sclP A B := Int.mul_nonneg n.1 (by omega)
  rw [← e] at this
  exact Int.le_of_not_gt fun h => by
    have := Int.mul_neg_of_neg_of_pos h (show 0 < dvD A B P by omega)
    omega
theorem wr_mx {ps : List Pt} (hv : allV ps = true) {a b n : Nat} (hn : a + 1 + n ≤ ps.length) : ∀ m, 1 ≤ m → m ≤ n → wrN ps a b m = if 0 < scS (gP ps a) (gP ps b) (gP ps (a + 1 + mxN (fS (gP ps a) (gP ps b)) (subP ps (a + 1) n) m)) then a + 1 + mxN (fS (gP ps a) (gP ps b)) (subP ps (a + 1) n) m else a
  | 0, h, _ => by omega
  | m + 1, _, hm => by
    have get : ∀ i, i < n → (subP ps (a + 1) n).getD i (0, 0) = gP ps (a + 1 + i) := fun i hi => subP_get hi
    have nn := fun j => sc_nn (gP_v hv a) (gP_v hv b) (gP_v hv j)
    rw [wrN_st, btr_sc hv]
    rcases Nat.eq_zero_or_pos m with rfl | hp
    · rw [mxN_one, show wrN ps a b 0 = a from rfl, sc_at]
      by_cases h : 0 < scS (gP ps a) (gP ps b) (gP ps (a + 1 + 0))
      · rw [decide_eq_true h, cond_true, if_pos h]
      · rw [decide_eq_false h, cond_false, if_neg h]
    · have ih := wr_mx hv (b := b) hn m hp (by omega)
      have hlt := mxN_lt (fS (gP ps a) (gP ps b)) (subP ps (a + 1) n) m hp
      have st := mxN_st (fS (gP ps a) (gP ps b)) (subP ps (a + 1) n) m
      rw [get _ (by omega), get _ (by omega)] at st
      rw [ih]
      generalize mxN (fS (gP ps a) (gP ps b)) (subP ps (a + 1) n) m = i at *
      have n1 := nn (a + 1 + i)
      have n2 := nn (a + 1 + m)
      have fe : ∀ P, fS (gP ps a) (gP ps b) P = scS (gP ps a) (gP ps b) P := fun _ => rfl
      rw [fe, fe] at st
      by_cases g : scS (gP ps a) (gP ps b) (gP ps (a + 1 + i)) < scS (gP ps a) (gP ps b) (gP ps (a + 1 + m))
      · rw [if_pos g] at st
        rw [st, if_pos (show 0 < scS (gP ps a) (gP ps b) (gP ps (a + 1 + m)) by omega)]
        have : scS (gP ps a) (gP ps b) (gP ps (if 0 < scS (gP ps a) (gP ps b) (gP ps (a + 1 + i)) then a + 1 + i else a)) < scS (gP ps a) (gP ps b) (gP ps (a + 1 + m)) := by
          split
          · exact g
          · rw [sc_at]; omega
        rw [decide_eq_true this, cond_true]
      · rw [if_neg g] at st
        rw [st]
        have : ¬ scS (gP ps a) (gP ps b) (gP ps (if 0 < scS (gP ps a) (gP ps b) (gP ps (a + 1 + i)) then a + 1 + i else a)) < scS (gP ps a) (gP ps b) (gP ps (a + 1 + m)) := by
          split
          · exact g
          · rw [sc_at]; omega
        rw [decide_eq_false this, cond_false]
theorem res_wst {ps : List Pt} {a b : Nat} (hl : ps.length ≤ 1000) (hv : allV ps = true) (ha : a < ps.length) (hb : b < ps.length) : Res Try.prog 98 [.row ps.length (.ints (flat ps)), .v (iv a), .v (iv b)] (iv (wrK ps a b)) := by
  refine bodyV_res mixed ESm2_ok (m := 30) (n := 12) rfl ?_
  rw [tr_wstF]
  have w : IntKind.i64.wrap ((a : Int) + 1) = (a : Int) + 1 := wr (by omega)
  have f := flat_length ps
  simp only [ptsA_flat, Int.toNat_natCast, Tree.ok]
  repeat' (first | exact True.intro | exact rfl | assumption | omega | refine And.intro ?_ ?_)
def farV (ps : List Pt) (a b : Nat) (most : Int) : Value := .tuple #[iv (bif stpB ps a b most then 0 else wrK ps a b), .bool (!(stpB ps a b most))]
/-- When the program keeps no point. -/
theorem stp_is {ps : List Pt} (hv : allV ps = true) {a b : Nat} (hab : a < b) (hb : b < ps.length) {most : Int} (hm : 0 ≤ most) {i : Nat} (hi : i = mxN (fS (gP ps a) (gP ps b)) (subP ps (a + 1) (b - (a + 1))) (b - (a + 1))) (hn : 1 ≤ b - (a + 1)) :
    stpB ps a b most = decide (scS (gP ps a) (gP ps b) (gP ps (a + 1 + i)) ≤ most * sclP (gP ps a) (gP ps b)) ∧ (stpB ps a b most = false → wrK ps a b = a + 1 + i) := by
  have wm := wr_mx hv (a := a) (b := b) (n := b - (a + 1)) (by omega) (b - (a + 1)) hn (Nat.le_refl _)
  rw [← hi] at wm
  change wrK ps a b = _ at wm
  have s := scl_pos (gP ps a) (gP ps b)
  have nn := sc_nn (gP_v hv a) (gP_v hv b) (gP_v hv (a + 1 + i))
  have ms : 0 ≤ most * sclP (gP ps a) (gP ps b) := Int.mul_nonneg hm (by omega)
  unfold stpB
  by_cases h : 0 < scS (gP ps a) (gP ps b) (gP ps (a + 1 + i))
  · rw [if_pos h] at wm
    rw [wm, decide_eq_false (show ¬ a + 1 + i = a by omega), Bool.false_or]
    refine ⟨decide_eq_decide.2 ?_, fun _ => rfl⟩
    have e := sc_dv (gP ps a) (gP ps b) (gP ps (a + 1 + i))
    have d := (dv_bd (gP_v hv a) (gP_v hv b) (gP_v hv (a + 1 + i))).2
    generalize scS (gP ps a) (gP ps b) (gP ps (a + 1 + i)) = F at *
    generalize dvN (gP ps a) (gP ps b) (gP ps (a + 1 + i)) = N at *
    generalize dvD (gP ps a) (gP ps b) (gP ps (a + 1 + i)) = D at *
    generalize sclP (gP ps a) (gP ps b) = S at *
    rw [← mul_le_iff (x := N) s, ← mul_le_iff (x := F) (s := D) (by omega), e, show most * D * S = most * S * D by grind]
  · rw [if_neg h] at wm
    rw [wm, decide_eq_true rfl, Bool.true_or, decide_eq_true (by omega)]
    exact ⟨rfl, fun hh => by cases hh⟩
set_option maxRecDepth 100000 in
set_option maxHeartbeats 4000000 in
theorem res_far {ps : List Pt} {a b : Nat} {most : Int} (hl : ps.length ≤ 1000) (hv : allV ps = true) (hab : a < b) (hb : b < ps.length) (hm : 0 ≤ most ∧ most ≤ 8000000) : Res Try.prog 66 [.row ps.length (.ints (flat ps)), .v (iv a), .v (iv b), .v (iv most)] (farV ps a b most) := by
  refine bodyV_res mixed ESm2_ok (m := 30) (n := 12) rfl ?_
  rw [tr_farF]
  have w : IntKind.i64.wrap ((a : Int) + 1) = ((a + 1 : Nat) : Int) := by rw [wr (by omega)]; omega
  have f := flat_length ps
  have f2 : ps.length * 2 / 2 = ps.length := by omega
  have hsz : Try.prog.types[(61 : Nat)].size = 2 := by kernel_rfl
  have f3 : (a + 1) * 2 / 2 = a + 1 := by omega
  simp only [w, hsz, bnd_some, Int.toNat_natCast, Nat.zero_add, flat_length, flat_get0, flat_get1, f2, f3, ptsA_flat]
  have ql : (subP ps (a + 1) (b - (a + 1))).length = b - (a + 1) := subP_len (by omega)
  have v1 := gP_v hv a
  have v2 := gP_v hv b
  have t1 := vP_pt v1
  have t2 := vP_pt v2
  have ga : ((ps.getD a (0, 0)).1, (ps.getD a (0, 0)).2) = gP ps a := rfl
  have gb : ((ps.getD b (0, 0)).1, (ps.getD b (0, 0)).2) = gP ps b := rfl
  simp only [ga, gb]
  unfold gP at t1 t2
  simp only [Tree.ok]
  repeat (refine And.intro (by first | exact trivial | assumption | omega) ?_)
  rcases Nat.eq_zero_or_pos (b - (a + 1)) with h0 | hp
  · have e : fl (fS (gP ps a) (gP ps b)) (subP ps (a + 1) (b - (a + 1))) 0 (-1) = -1 := fl_end (by omega) (.inl rfl)
    have k : wrK ps a b = a := by unfold wrK; rw [h0]; rfl
    have sb : stpB ps a b most = true := by unfold stpB; rw [k, decide_eq_true rfl, Bool.true_or]
    unfold farV
    rw [e, sb]
    exact rfl
  · have e := fl_mxN (f := fS (gP ps a) (gP ps b)) (qs := subP ps (a + 1) (b - (a + 1))) (by omega)
    rw [ql] at e
    have hlt := mxN_lt (fS (gP ps a) (gP ps b)) (subP ps (a + 1) (b - (a + 1))) (b - (a + 1)) hp
    obtain ⟨s1, s2⟩ := stp_is hv hab hb hm.1 (i := _) rfl hp
    rw [e]
    generalize mxN (fS (gP ps a) (gP ps b)) (subP ps (a + 1) (b - (a + 1))) (b - (a + 1)) = i at *
    have nx : (a + 1) * 2 + i * 2 = (a + 1 + i) * 2 := by omega
    have v3 := gP_v hv (a + 1 + i)
    have t3 := vP_pt v3
    have gi : ((ps.getD (a + 1 + i) (0, 0)).1, (ps.getD (a + 1 + i) (0, 0)).2) = gP ps (a + 1 + i) := rfl
    unfold gP at t3
    have sb : sclP (gP ps a) (gP ps b) ≤ 8000000 := by have := sqP_bd v1 v2; unfold sclP; split <;> omega
    have sp := scl_pos (gP ps a) (gP ps b)
    have mm := mul_bd (x := most) (y := sclP (gP ps a) (gP ps b)) 8000000 8000000 (by omega) (by omega)
    rw [decide_eq_false (show ¬ (i : Int) < 0 by omega)]
    simp only [brT_f, Int.toNat_natCast, nx, flat_get0, flat_get1, gi, Tree.ok]
    rw [wr (x := most * sclP (gP ps a) (gP ps b)) (by omega)]
    repeat (refine And.intro (by first | exact trivial | assumption | omega) ?_)
    unfold farV
    rcases hs : stpB ps a b most with _ | _
    · rw [hs] at s1
      rw [← s1]
      have k := s2 hs
      have w2 : IntKind.i64.wrap (((a + 1 : Nat) : Int) + i) = ((a + 1 + i : Nat) : Int) := by rw [wr (by omega)]; omega
      rw [w2, k]
      exact rfl
    · rw [hs] at s1
      rw [← s1]
      exact rfl
end Go.Proofs.Ytpjdnplpiamjcab
namespace Go.Proofs.Ytpjdnplpiamjcab
set_option linter.all false
open Go.RowKit
def pWst : List DArg → Option (Value × List Prop)
  | [.row m (.ints xs), .v (.int .i64 a), .v (.int .i64 b)] => some (iv (wrK (ptsA m xs) a.toNat b.toNat), [m * 2 ≤ xs.length, m ≤ 1000, allV (ptsA m xs) = true, 0 ≤ a ∧ a < m, 0 ≤ b ∧ b < m])
  | _ => none
theorem pWst_ok {ds : List DArg} {v : Value} {C : List Prop} (h : pWst ds = some (v, C)) (hC : AllP C) : Res Try.prog 98 ds v := by
  unfold pWst at h
  split at h
  · rename_i m xs a b
    obtain ⟨rfl, rfl⟩ : _ ∧ _ := by simpa using h
    obtain ⟨c1, c2, c3, c4, c5, _⟩ := hC
    obtain ⟨_, h2⟩ := ptsA_spec c1
    obtain ⟨a, rfl⟩ := Int.eq_ofNat_of_zero_le c4.1
    obtain ⟨b, rfl⟩ := Int.eq_ofNat_of_zero_le c5.1
    simp only [Int.toNat_natCast]
    exact res_pts1 (pre := []) (post := [_, _]) c1 (res_wst (ps := ptsA m xs) (by omega) c3 (by omega) (by omega))
  · cases h
def pFar : List DArg → Option (Value × List Prop)
  | [.row m (.ints xs), .v (.int .i64 a), .v (.int .i64 b), .v (.int .i64 most)] => some (.tuple #[iv (bif stpB (ptsA m xs) a.toNat b.toNat most then 0 else wrK (ptsA m xs) a.toNat b.toNat), .bool (!(stpB (ptsA m xs) a.toNat b.toNat most))], [m * 2 ≤ xs.length, m ≤ 1000, allV (ptsA m xs) = true, 0 ≤ a ∧ a < b, b < m, 0 ≤ most ∧ most ≤ 8000000])
  | _ => none
theorem pFar_ok {ds : List DArg} {v : Value} {C : List Prop} (h : pFar ds = some (v, C)) (hC : AllP C) : Res Try.prog 66 ds v := by
  unfold pFar at h
  split at h
  · rename_i m xs a b most
    obtain ⟨rfl, rfl⟩ : _ ∧ _ := by simpa using h
    obtain ⟨c1, c2, c3, c4, c5, c6, _⟩ := hC
    obtain ⟨_, h2⟩ := ptsA_spec c1
    obtain ⟨a, rfl⟩ := Int.eq_ofNat_of_zero_le c4.1
    obtain ⟨b, rfl⟩ := Int.eq_ofNat_of_zero_le (show 0 ≤ b by omega)
    simp only [Int.toNat_natCast]
    exact res_pts1 (pre := []) (post := [_, _, _]) c1 (res_far (ps := ptsA m xs) (by omega) c3 (by omega) (by omega) c6)
  · cases h
def TSm2 : Tab := fun f ds => match f with
  | 98 => pWst ds
  | 66 => pFar ds
  | f => TSm1 f ds
theorem TSm2_ok : TabOk Try.prog TSm2 := by
  intro f ds v C h hC
  unfold TSm2 at h
  (try split at h)
  all_goals first | with_reducible exact pWst_ok h hC | with_reducible exact pFar_ok h hC | exact TSm1_ok _ _ _ _ h hC
def ESm3 : Env := mkE TSm2 R4 (fun _ => noL)
theorem ESm3_ok : EnvOk Try.prog ESm3 := mkEOk TSm2_ok R4_ok (fun _ _ _ => noL_good)
/-- Is a point different from the one before it? -/
def neQ (ps : List Pt) (i : Nat) : Bool := !(decide (gP ps i = gP ps (i - 1)))
def ascQ (ks : List Int) (i : Nat) : Bool := decide (ks.getD (i - 1) 0 < ks.getD i 0)
noncomputable def c_isP : Code := ((loopsOf (codeOf Try.f63))[0]?).getD .skip
def k_isP : Ex → List Nat := keeps [0, 3] [(0, [])] [2]
def s_isP (ps : List Pt) : Nat → St := fun i => ⟨[.slice (some ⟨0, 0, none⟩) ps.length ps.length, topV, topV, .int .i64 i, topV, topV, topV, topV, topV, topV, topV, topV, topV, topV, topV, topV, topV, topV, topV, topV, topV, topV, topV, topV, topV, topV, topV, topV], [some ⟨.view, .ints (flat ps)⟩]⟩
def re_isP (ps : List Pt) : Nat → Ex := fun i => bif allQ (neQ ps) i (ps.length - i) then .exit 0 else .ret
def rs_isP (ps : List Pt) : Nat → St := fun i => bif allQ (neQ ps) i (ps.length - i) then ⟨[topV, topV, topV, topV, topV, topV, topV, topV, topV, topV, topV, topV, topV, topV, topV, topV, topV, topV, topV, topV, topV, topV, topV, topV, topV, topV, topV, topV], [some ⟨.view, .ints (flat ps)⟩]⟩ else ⟨[topV, topV, .bool false, topV, topV, topV, topV, topV, topV, topV, topV, topV, topV, topV, topV, topV, topV, topV, topV, topV, topV, topV, topV, topV, topV, topV, topV, topV], [some ⟨.view, .ints (flat ps)⟩]⟩
set_option maxRecDepth 100000 in
theorem tr_isP (ps : List Pt) (i : Nat) : bodyL Try.prog ESm3 30 12 noL 1 c_isP k_isP 1 (s_isP ps i) = brT (decide ((↑i : Int) < (↑ps.length : Int))) (.need ((0 : Int) ≤ (↑i : Int) ∧ (↑i : Int) < (↑ps.length : Int)) (.need ((0 : Nat) + (↑i : Int).toNat * (2 : Nat) + (2 : Nat) ≤ (flat ps).length) (.need ((0 : Int) ≤ IntKind.i64.wrap ((↑i : Int) - (1 : Int)) ∧ IntKind.i64.wrap ((↑i : Int) - (1 : Int)) < (↑ps.length : Int)) (.need ((0 : Nat) + (IntKind.i64.wrap ((↑i : Int) - (1 : Int))).toNat * (2 : Nat) + (2 : Nat) ≤ (flat ps).length) (brT (negB false ((flat ps).getD (0 + (↑i : Int).toNat * 2) 0 == (flat ps).getD (0 + (IntKind.i64.wrap ((↑i : Int) - 1)).toNat * 2) 0 && ((flat ps).getD (0 + (↑i : Int).toNat * 2 + 1) 0 == (flat ps).getD (0 + (IntKind.i64.wrap ((↑i : Int) - 1)).toNat * 2 + 1) 0 && true))) (.leaf .ret ⟨[topV, topV, .bool (false), topV, topV, topV, topV, topV, topV, topV, topV, topV, topV, topV, topV, topV, topV, topV, topV, topV, topV, topV, topV, topV, topV, topV, topV, topV], [some ⟨.view, .ints (flat ps)⟩]⟩) (.leaf .normal ⟨[.slice (some ⟨0, 0, none⟩) (ps.length) (ps.length), topV, topV, .int .i64 (IntKind.i64.wrap ((↑i : Int) + 1)), topV, topV, topV, topV, topV, topV, topV, topV, topV, topV, topV, topV, topV, topV, topV, topV, topV, topV, topV, topV, topV, topV, topV, topV], [some ⟨.view, .ints (flat ps)⟩]⟩)))))) (.leaf (.exit 0) ⟨[topV, topV, topV, topV, topV, topV, topV, topV, topV, topV, topV, topV, topV, topV, topV, topV, topV, topV, topV, topV, topV, topV, topV, topV, topV, topV, topV, topV], [some ⟨.view, .ints (flat ps)⟩]⟩) := by kernel_rfl
set_option maxRecDepth 100000 in
theorem nl_isP : loopsOf c_isP = [] := by kernel_rfl
def inv_isP (ps : List Pt) : Nat → Prop := fun i => 1 ≤ i
def me_isP (ps : List Pt) : Nat → Nat := fun i => ps.length - i
/-- A round of this loop. -/
def Round_isP (ps : List Pt) : Prop := ∀ xx : Nat, inv_isP ps xx → (bodyL Try.prog ESm3 30 12 noL 1 c_isP k_isP 1 (s_isP ps xx)).ok (RoundEnd 1 (s_isP ps) (inv_isP ps) (me_isP ps) (re_isP ps) (rs_isP ps) xx) (fun _ _ => False)
def e_isP (s : St) (k : Ex → St → Tree) : Option Tree := match Nat.beq s.tmps.length 28, pickL s.tmps [0, 3], s.mem with
  | true, [.slice (some ⟨0, 0, none⟩) n _, .int .i64 ii], [some ⟨.view, .ints xs⟩] => some (needs [ii = 1, xs.length = n * 2, n ≤ 1000000000] (brT (allQ (neQ (ptsA n xs)) 1 (n - 1)) (k (.exit 0) ⟨[topV, topV, topV, topV, topV, topV, topV, topV, topV, topV, topV, topV, topV, topV, topV, topV, topV, topV, topV, topV, topV, topV, topV, topV, topV, topV, topV, topV], [some ⟨.view, .ints xs⟩]⟩) (k .ret ⟨[topV, topV, .bool false, topV, topV, topV, topV, topV, topV, topV, topV, topV, topV, topV, topV, topV, topV, topV, topV, topV, topV, topV, topV, topV, topV, topV, topV, topV], [some ⟨.view, .ints xs⟩]⟩)))
  | _, _, _ => none
noncomputable def c_vPa : Code := ((loopsOf (codeOf Try.f59))[0]?).getD .skip
def k_vPa : Ex → List Nat := keeps [0, 3] [(0, [0])] [2]
def s_vPa (ps : List Pt) : Nat → St := fun i => ⟨[.slice (some ⟨0, 0, none⟩) ps.length ps.length, topV, topV, .int .i64 i, topV, topV, topV, topV, topV, topV, topV, topV, topV, topV, topV, topV, topV, topV, topV, topV, topV, topV, topV, topV, topV, topV, topV], [some ⟨.view, .ints (flat ps)⟩]⟩
def re_vPa (ps : List Pt) : Nat → Ex := fun i => bif allQ (neQ ps) i (ps.length - i) then .exit 0 else .ret
def rs_vPa (ps : List Pt) : Nat → St := fun i => bif allQ (neQ ps) i (ps.length - i) then ⟨[.slice (some ⟨0, 0, none⟩) ps.length ps.length, topV, topV, topV, topV, topV, topV, topV, topV, topV, topV, topV, topV, topV, topV, topV, topV, topV, topV, topV, topV, topV, topV, topV, topV, topV, topV], [some ⟨.view, .ints (flat ps)⟩]⟩ else ⟨[topV, topV, .bool false, topV, topV, topV, topV, topV, topV, topV, topV, topV, topV, topV, topV, topV, topV, topV, topV, topV, topV, topV, topV, topV, topV, topV, topV], [some ⟨.view, .ints (flat ps)⟩]⟩
set_option maxRecDepth 100000 in
theorem tr_vPa (ps : List Pt) (i : Nat) : bodyL Try.prog ESm3 30 12 noL 1 c_vPa k_vPa 1 (s_vPa ps i) = brT (decide ((↑i : Int) < (↑ps.length : Int))) (.need ((0 : Int) ≤ (↑i : Int) ∧ (↑i : Int) < (↑ps.length : Int)) (.need ((0 : Nat) + (↑i : Int).toNat * (2 : Nat) + (2 : Nat) ≤ (flat ps).length) (.need ((0 : Int) ≤ IntKind.i64.wrap ((↑i : Int) - (1 : Int)) ∧ IntKind.i64.wrap ((↑i : Int) - (1 : Int)) < (↑ps.length : Int)) (.need ((0 : Nat) + (IntKind.i64.wrap ((↑i : Int) - (1 : Int))).toNat * (2 : Nat) + (2 : Nat) ≤ (flat ps).length) (brT (negB false ((flat ps).getD (0 + (↑i : Int).toNat * 2) 0 == (flat ps).getD (0 + (IntKind.i64.wrap ((↑i : Int) - 1)).toNat * 2) 0 && ((flat ps).getD (0 + (↑i : Int).toNat * 2 + 1) 0 == (flat ps).getD (0 + (IntKind.i64.wrap ((↑i : Int) - 1)).toNat * 2 + 1) 0 && true))) (.leaf .ret ⟨[topV, topV, .bool (false), topV, topV, topV, topV, topV, topV, topV, topV, topV, topV, topV, topV, topV, topV, topV, topV, topV, topV, topV, topV, topV, topV, topV, topV], [some ⟨.view, .ints (flat ps)⟩]⟩) (.leaf .normal ⟨[.slice (some ⟨0, 0, none⟩) (ps.length) (ps.length), topV, topV, .int .i64 (IntKind.i64.wrap ((↑i : Int) + 1)), topV, topV, topV, topV, topV, topV, topV, topV, topV, topV, topV, topV, topV, topV, topV, topV, topV, topV, topV, topV, topV, topV, topV], [some ⟨.view, .ints (flat ps)⟩]⟩)))))) (.leaf (.exit 0) ⟨[.slice (some ⟨0, 0, none⟩) (ps.length) (ps.length), topV, topV, topV, topV, topV, topV, topV, topV, topV, topV, topV, topV, topV, topV, topV, topV, topV, topV, topV, topV, topV, topV, topV, topV, topV, topV], [some ⟨.view, .ints (flat ps)⟩]⟩) := by kernel_rfl
set_option maxRecDepth 100000 in
theorem nl_vPa : loopsOf c_vPa = [] := by kernel_rfl
def inv_vPa (ps : List Pt) : Nat → Prop := fun i => 1 ≤ i
def me_vPa (ps : List Pt) : Nat → Nat := fun i => ps.length - i
/-- A round of this loop. -/
def Round_vPa (ps : List Pt) : Prop := ∀ xx : Nat, inv_vPa ps xx → (bodyL Try.prog ESm3 30 12 noL 1 c_vPa k_vPa 1 (s_vPa ps xx)).ok (RoundEnd 1 (s_vPa ps) (inv_vPa ps) (me_vPa ps) (re_vPa ps) (rs_vPa ps) xx) (fun _ _ => False)
def e_vPa (s : St) (k : Ex → St → Tree) : Option Tree := match Nat.beq s.tmps.length 27, pickL s.tmps [0, 3], s.mem with
  | true, [.slice (some ⟨0, 0, none⟩) n _, .int .i64 ii], [some ⟨.view, .ints xs⟩] => some (needs [ii = 1, xs.length = n * 2, n ≤ 1000000000] (brT (allQ (neQ (ptsA n xs)) 1 (n - 1)) (k (.exit 0) ⟨[.slice (some ⟨0, 0, none⟩) n n, topV, topV, topV, topV, topV, topV, topV, topV, topV, topV, topV, topV, topV, topV, topV, topV, topV, topV, topV, topV, topV, topV, topV, topV, topV, topV], [some ⟨.view, .ints xs⟩]⟩) (k .ret ⟨[topV, topV, .bool false, topV, topV, topV, topV, topV, topV, topV, topV, topV, topV, topV, topV, topV, topV, topV, topV, topV, topV, topV, topV, topV, topV, topV, topV], [some ⟨.view, .ints xs⟩]⟩)))
  | _, _, _ => none
noncomputable def c_ae2 : Code := ((loopsOf (codeOf Try.f65))[0]?).getD .skip
def k_ae2 : Ex → List Nat := keeps [0, 5, 6] [(0, [])] [4]
def s_ae2 (n : Nat) (ks : List Int) : Nat → St := fun i => ⟨(.slice (some ⟨0, 0, none⟩) n n :: topV :: topV :: topV :: topV :: .int .i64 n :: .int .i64 i :: topV :: topV :: topV :: topV :: topV :: topV :: topV :: topV :: topV :: topV :: topV :: topV :: topV :: topV :: topV :: topV :: topV :: topV :: topV :: topV :: topV :: topV :: topV :: topV :: topV :: topV :: topV :: topV :: topV :: topV :: topV :: topV :: topV :: topV :: topV :: []), [some ⟨.view, .ints ks⟩, none]⟩
def re_ae2 (n : Nat) (ks : List Int) : Nat → Ex := fun i => bif allQ (ascQ ks) i (n - i) then .exit 0 else .ret
def rs_ae2 (n : Nat) (ks : List Int) : Nat → St := fun i => bif allQ (ascQ ks) i (n - i) then ⟨(topV :: topV :: topV :: topV :: topV :: topV :: topV :: topV :: topV :: topV :: topV :: topV :: topV :: topV :: topV :: topV :: topV :: topV :: topV :: topV :: topV :: topV :: topV :: topV :: topV :: topV :: topV :: topV :: topV :: topV :: topV :: topV :: topV :: topV :: topV :: topV :: topV :: topV :: topV :: topV :: topV :: topV :: []), [some ⟨.view, .ints ks⟩, none]⟩ else ⟨(topV :: topV :: topV :: topV :: .bool false :: topV :: topV :: topV :: topV :: topV :: topV :: topV :: topV :: topV :: topV :: topV :: topV :: topV :: topV :: topV :: topV :: topV :: topV :: topV :: topV :: topV :: topV :: topV :: topV :: topV :: topV :: topV :: topV :: topV :: topV :: topV :: topV :: topV :: topV :: topV :: topV :: topV :: []), [some ⟨.view, .ints ks⟩, none]⟩
set_option maxRecDepth 100000 in
theorem tr_ae2 (n : Nat) (ks : List Int) (i : Nat) : bodyL Try.prog ESm3 30 12 noL 1 c_ae2 k_ae2 2 (s_ae2 n ks i) = brT (decide ((↑i : Int) < (↑n : Int))) (.need ((0 : Int) ≤ IntKind.i64.wrap ((↑i : Int) - (1 : Int)) ∧ IntKind.i64.wrap ((↑i : Int) - (1 : Int)) < (↑n : Int)) (.need ((0 : Nat) + (IntKind.i64.wrap ((↑i : Int) - (1 : Int))).toNat * (1 : Nat) < ks.length) (.need ((0 : Int) ≤ (↑i : Int) ∧ (↑i : Int) < (↑n : Int)) (.need ((0 : Nat) + (↑i : Int).toNat * (1 : Nat) < ks.length) (brT (decide (ks.getD (0 + (↑i : Int).toNat * 1) 0 ≤ ks.getD (0 + (IntKind.i64.wrap ((↑i : Int) - 1)).toNat * 1) 0)) (.leaf .ret ⟨(topV :: topV :: topV :: topV :: .bool (false) :: topV :: topV :: topV :: topV :: topV :: topV :: topV :: topV :: topV :: topV :: topV :: topV :: topV :: topV :: topV :: topV :: topV :: topV :: topV :: topV :: topV :: topV :: topV :: topV :: topV :: topV :: topV :: topV :: topV :: topV :: topV :: topV :: topV :: topV :: topV :: topV :: topV :: []), [some ⟨.view, .ints (ks)⟩, none]⟩) (.leaf .normal ⟨(.slice (some ⟨0, 0, none⟩) (n) (n) :: topV :: topV :: topV :: topV :: .int .i64 ((↑n : Int)) :: .int .i64 (IntKind.i64.wrap ((↑i : Int) + 1)) :: topV :: topV :: topV :: topV :: topV :: topV :: topV :: topV :: topV :: topV :: topV :: topV :: topV :: topV :: topV :: topV :: topV :: topV :: topV :: topV :: topV :: topV :: topV :: topV :: topV :: topV :: topV :: topV :: topV :: topV :: topV :: topV :: topV :: topV :: topV :: []), [some ⟨.view, .ints (ks)⟩, none]⟩)))))) (.leaf (.exit 0) ⟨(topV :: topV :: topV :: topV :: topV :: topV :: topV :: topV :: topV :: topV :: topV :: topV :: topV :: topV :: topV :: topV :: topV :: topV :: topV :: topV :: topV :: topV :: topV :: topV :: topV :: topV :: topV :: topV :: topV :: topV :: topV :: topV :: topV :: topV :: topV :: topV :: topV :: topV :: topV :: topV :: topV :: topV :: []), [some ⟨.view, .ints (ks)⟩, none]⟩) := by kernel_rfl
set_option maxRecDepth 100000 in
theorem nl_ae2 : loopsOf c_ae2 = [] := by kernel_rfl
def inv_ae2 (n : Nat) (ks : List Int) : Nat → Prop := fun i => 1 ≤ i
def me_ae2 (n : Nat) (ks : List Int) : Nat → Nat := fun i => n - i
/-- A round of this loop. -/
def Round_ae2 (n : Nat) (ks : List Int) : Prop := ∀ xx : Nat, inv_ae2 n ks xx → (bodyL Try.prog ESm3 30 12 noL 1 c_ae2 k_ae2 2 (s_ae2 n ks xx)).ok (RoundEnd 2 (s_ae2 n ks) (inv_ae2 n ks) (me_ae2 n ks) (re_ae2 n ks) (rs_ae2 n ks) xx) (fun _ _ => False)
def e_ae2 (s : St) (k : Ex → St → Tree) : Option Tree := match Nat.beq s.tmps.length 42, pickL s.tmps [0, 5, 6], s.mem with
  | true, [.slice (some ⟨0, 0, none⟩) n _, .int .i64 l, .int .i64 ii], [some ⟨.view, .ints ks⟩, none] => some (needs [ii = 1, l = n, n ≤ ks.length, n ≤ 1000000000] (brT (allQ (ascQ ks) 1 (n - 1)) (k (.exit 0) ⟨(topV :: topV :: topV :: topV :: topV :: topV :: topV :: topV :: topV :: topV :: topV :: topV :: topV :: topV :: topV :: topV :: topV :: topV :: topV :: topV :: topV :: topV :: topV :: topV :: topV :: topV :: topV :: topV :: topV :: topV :: topV :: topV :: topV :: topV :: topV :: topV :: topV :: topV :: topV :: topV :: topV :: topV :: []), [some ⟨.view, .ints ks⟩, none]⟩) (k .ret ⟨(topV :: topV :: topV :: topV :: .bool false :: topV :: topV :: topV :: topV :: topV :: topV :: topV :: topV :: topV :: topV :: topV :: topV :: topV :: topV :: topV :: topV :: topV :: topV :: topV :: topV :: topV :: topV :: topV :: topV :: topV :: topV :: topV :: topV :: topV :: topV :: topV :: topV :: topV :: topV :: topV :: topV :: topV :: []), [some ⟨.view, .ints ks⟩, none]⟩)))
  | _, _, _ => none
def kA (ks : List Int) (i : Nat) : Nat := (ks.getD i 0).toNat
set_option maxRecDepth 100000 in
set_option maxHeartbeats 1000000 in
theorem round_isP (ps : List Pt) (h : ps.length ≤ 1000000000) : Round_isP ps := by
  intro i h1
  have h1 : 1 ≤ i := h1
  rw [tr_isP]
  refine brT_ok.2 ⟨fun hlt => ?_, fun hge => ?_⟩
  · have hlt := of_decide_eq_true hlt
    have hi : i < ps.length := by omega
    have w : IntKind.i64.wrap ((i : Int) - 1) = ((i - 1 : Nat) : Int) := by rw [wr (by omega)]; omega
    rw [w, wsucc (n := ps.length) hi h]
    simp only [Int.toNat_natCast, Nat.zero_add, flat_get0, flat_get1, flat_length, eqP_is, Tree.ok]
    refine ⟨by omega, by omega, by omega, by omega, brT_ok.2 ⟨fun g => ?_, fun g => ?_⟩⟩
    · have e : allQ (neQ ps) i (ps.length - i) = false := by
        rw [allQ_step hi, show neQ ps i = false from by unfold neQ gP; rw [g]; rfl, Bool.false_and]
      refine ⟨by simp only [re_isP, e, cond_false], [], ?_⟩
      simp only [rs_isP, e, cond_false]
      repeat' (first | exact True.intro | exact rfl | exact fun _ => rfl | refine And.intro ?_ ?_)
    · have e : allQ (neQ ps) i (ps.length - i) = allQ (neQ ps) (i + 1) (ps.length - (i + 1)) := by
        rw [allQ_step hi, show neQ ps i = true from by unfold neQ gP; rw [g]; rfl, Bool.true_and]
      refine ⟨i + 1, [], ?_, ?_, by simp only [re_isP, e], by simp only [rs_isP, e], ?_⟩
      · show 1 ≤ i + 1; omega
      · show ps.length - (i + 1) < ps.length - i; omega
      · repeat' (first | exact True.intro | exact rfl | exact fun _ => rfl | refine And.intro ?_ ?_)
  · have hge := of_decide_eq_false hge
    have e : allQ (neQ ps) i (ps.length - i) = true := allQ_end (by omega)
    refine ⟨by simp only [re_isP, e, cond_true], [], ?_⟩
    simp only [rs_isP, e, cond_true]
    repeat' (first | exact True.intro | exact rfl | exact fun _ => rfl | refine And.intro ?_ ?_)
set_option maxRecDepth 100000 in
theorem lg_isP : LoopE Try.prog e_isP c_isP := by
  intro s k t F H hlt ht
  unfold e_isP at hlt
  split at hlt
  rotate_left
  · cases hlt
  rename_i hlen hpick hmem
  obtain ⟨tmps, mem⟩ := s
  simp only at hlen hpick hmem
  subst hmem
  obtain rfl := Option.some.inj hlt
  obtain ⟨⟨rfl, h1, h2, _⟩, ht2⟩ := needs_ok ht
  clear ht hlt
  obtain ⟨ps, rfl, rfl⟩ := even_flat h1
  rw [ptsA_flat] at ht2
  refine ⟨_, _, pick2k ht2, loop_run mixed ESm3_ok (s_isP ps) (inv_isP ps) (me_isP ps) (re_isP ps) (rs_isP ps) k_isP (fun _ => rfl) (noLoops nl_isP) (round_isP ps h2) (x := 1) (Nat.le_refl 1) (π := []) rfl ?_⟩
  refine ⟨rfl, rfl, ?_, wvs_spread' [0, 3] hlen rfl ?_⟩
  · repeat' (first | exact True.intro | exact rfl | exact wv_top _ _ | exact fun _ => rfl | assumption | exact Eq.symm (by assumption) | exact vI0 rfl | refine And.intro ?_ ?_)
  · rw [hpick]
    repeat' (first | exact True.intro | exact rfl | exact wv_top _ _ | exact fun _ => rfl | assumption | exact Eq.symm (by assumption) | exact vI0 rfl | refine And.intro ?_ ?_)
set_option maxRecDepth 100000 in
set_option maxHeartbeats 1000000 in
theorem round_vPa (ps : List Pt) (h : ps.length ≤ 1000000000) : Round_vPa ps := by
  intro i h1
  have h1 : 1 ≤ i := h1
  rw [tr_vPa]
  refine brT_ok.2 ⟨fun hlt => ?_, fun hge => ?_⟩
  · have hlt := of_decide_eq_true hlt
    have hi : i < ps.length := by omega
    have w : IntKind.i64.wrap ((i : Int) - 1) = ((i - 1 : Nat) : Int) := by rw [wr (by omega)]; omega
    rw [w, wsucc (n := ps.length) hi h]
    simp only [Int.toNat_natCast, Nat.zero_add, flat_get0, flat_get1, flat_length, eqP_is, Tree.ok]
    refine ⟨by omega, by omega, by omega, by omega, brT_ok.2 ⟨fun g => ?_, fun g => ?_⟩⟩
    · have e : allQ (neQ ps) i (ps.length - i) = false := by
        rw [allQ_step hi, show neQ ps i = false from by unfold neQ gP; rw [g]; rfl, Bool.false_and]
      refine ⟨by simp only [re_vPa, e, cond_false], [], ?_⟩
      simp only [rs_vPa, e, cond_false]
      repeat' (first | exact True.intro | exact rfl | exact fun _ => rfl | refine And.intro ?_ ?_)
    · have e : allQ (neQ ps) i (ps.length - i) = allQ (neQ ps) (i + 1) (ps.length - (i + 1)) := by
        rw [allQ_step hi, show neQ ps i = true from by unfold neQ gP; rw [g]; rfl, Bool.true_and]
      refine ⟨i + 1, [], ?_, ?_, by simp only [re_vPa, e], by simp only [rs_vPa, e], ?_⟩
      · show 1 ≤ i + 1; omega
      · show ps.length - (i + 1) < ps.length - i; omega
      · repeat' (first | exact True.intro | exact rfl | exact fun _ => rfl | refine And.intro ?_ ?_)
  · have hge := of_decide_eq_false hge
    have e : allQ (neQ ps) i (ps.length - i) = true := allQ_end (by omega)
    refine ⟨by simp only [re_vPa, e, cond_true], [], ?_⟩
    simp only [rs_vPa, e, cond_true]
    repeat' (first | exact True.intro | exact rfl | exact fun _ => rfl | refine And.intro ?_ ?_)
set_option maxRecDepth 100000 in
theorem lg_vPa : LoopE Try.prog e_vPa c_vPa := by
  intro s k t F H hlt ht
  unfold e_vPa at hlt
  split at hlt
  rotate_left
  · cases hlt
  rename_i hlen hpick hmem
  obtain ⟨tmps, mem⟩ := s
  simp only at hlen hpick hmem
  subst hmem
  obtain rfl := Option.some.inj hlt
  obtain ⟨⟨rfl, h1, h2, _⟩, ht2⟩ := needs_ok ht
  clear ht hlt
  obtain ⟨ps, rfl, rfl⟩ := even_flat h1
  rw [ptsA_flat] at ht2
  refine ⟨_, _, pick2k ht2, loop_run mixed ESm3_ok (s_vPa ps) (inv_vPa ps) (me_vPa ps) (re_vPa ps) (rs_vPa ps) k_vPa (fun _ => rfl) (noLoops nl_vPa) (round_vPa ps h2) (x := 1) (Nat.le_refl 1) (π := []) rfl ?_⟩
  refine ⟨rfl, rfl, ?_, wvs_spread' [0, 3] hlen rfl ?_⟩
  · repeat' (first | exact True.intro | exact rfl | exact wv_top _ _ | exact fun _ => rfl | assumption | exact Eq.symm (by assumption) | exact vI0 rfl | refine And.intro ?_ ?_)
  · rw [hpick]
    repeat' (first | exact True.intro | exact rfl | exact wv_top _ _ | exact fun _ => rfl | assumption | exact Eq.symm (by assumption) | exact vI0 rfl | refine And.intro ?_ ?_)
set_option maxRecDepth 100000 in
set_option maxHeartbeats 1000000 in
theorem round_ae2 (n : Nat) (ks : List Int) (hn : n ≤ ks.length) (h : n ≤ 1000000000) : Round_ae2 n ks := by
  intro i h1
  have h1 : 1 ≤ i := h1
  rw [tr_ae2]
  refine brT_ok.2 ⟨fun hlt => ?_, fun hge => ?_⟩
  · have hlt := of_decide_eq_true hlt
    have hi : i < n := by omega
    have w : IntKind.i64.wrap ((i : Int) - 1) = ((i - 1 : Nat) : Int) := by rw [wr (by omega)]; omega
    rw [w, wsucc (n := n) hi h]
    simp only [Int.toNat_natCast, Nat.zero_add, Nat.mul_one, Tree.ok]
    refine ⟨by omega, by omega, by omega, by omega, brT_ok.2 ⟨fun g => ?_, fun g => ?_⟩⟩
    · have e : allQ (ascQ ks) i (n - i) = false := by
        rw [allQ_step hi, show ascQ ks i = false from by have := of_decide_eq_true g; exact decide_eq_false (by omega), Bool.false_and]
      refine ⟨by simp only [re_ae2, e, cond_false], [], ?_⟩
      simp only [rs_ae2, e, cond_false]
      repeat' (first | exact True.intro | exact rfl | exact fun _ => rfl | refine And.intro ?_ ?_)
    · have e : allQ (ascQ ks) i (n - i) = allQ (ascQ ks) (i + 1) (n - (i + 1)) := by
        rw [allQ_step hi, show ascQ ks i = true from by have := of_decide_eq_false g; exact decide_eq_true (by omega), Bool.true_and]
      refine ⟨i + 1, [], ?_, ?_, by simp only [re_ae2, e], by simp only [rs_ae2, e], ?_⟩
      · show 1 ≤ i + 1; omega
      · show n - (i + 1) < n - i; omega
      · repeat' (first | exact True.intro | exact rfl | exact fun _ => rfl | refine And.intro ?_ ?_)
  · have hge := of_decide_eq_false hge
    have e : allQ (ascQ ks) i (n - i) = true := allQ_end (by omega)
    refine ⟨by simp only [re_ae2, e, cond_true], [], ?_⟩
    simp only [rs_ae2, e, cond_true]
    repeat' (first | exact True.intro | exact rfl | exact fun _ => rfl | refine And.intro ?_ ?_)
set_option maxRecDepth 100000 in
theorem lg_ae2 : LoopE Try.prog e_ae2 c_ae2 := by
  intro s k t F H hlt ht
  unfold e_ae2 at hlt
  split at hlt
  rotate_left
  · cases hlt
  rename_i hlen hpick hmem
  obtain ⟨tmps, mem⟩ := s
  simp only at hlen hpick hmem
  subst hmem
  obtain rfl := Option.some.inj hlt
  obtain ⟨⟨rfl, rfl, h1, h2, _⟩, ht2⟩ := needs_ok ht
  clear ht hlt
  refine ⟨_, _, pick2k ht2, loop_run mixed ESm3_ok (s_ae2 _ _) (inv_ae2 _ _) (me_ae2 _ _) (re_ae2 _ _) (rs_ae2 _ _) k_ae2 (fun _ => rfl) (noLoops nl_ae2) (round_ae2 _ _ h1 h2) (x := 1) (Nat.le_refl 1) (π := []) rfl ?_⟩
  refine ⟨rfl, rfl, ?_, wvs_spread' [0, 5, 6] hlen rfl ?_⟩
  · repeat' (first | exact True.intro | exact rfl | exact wv_top _ _ | exact fun _ => rfl | assumption | exact Eq.symm (by assumption) | exact vI0 rfl | refine And.intro ?_ ?_)
  · rw [hpick]
    repeat' (first | exact True.intro | exact rfl | exact wv_top _ _ | exact fun _ => rfl | assumption | exact Eq.symm (by assumption) | exact vI0 rfl | refine And.intro ?_ ?_)
end Go.Proofs.Ytpjdnplpiamjcab
namespace Go.Proofs.Ytpjdnplpiamjcab
set_option linter.all false
open Go.RowKit
theorem Lr_isP {fn : Func} (hf : Try.prog.funcs[63]? = some fn) : LoopsGood Try.prog (lt1 e_isP) 0 (codeOf fn) := by
  obtain rfl := fn_is Try.func63 hf
  exact lt1_good lg_isP
theorem Lr_vPa {fn : Func} (hf : Try.prog.funcs[59]? = some fn) : LoopsGood Try.prog (lt1 e_vPa) 0 (codeOf fn) := by
  obtain rfl := fn_is Try.func59 hf
  exact lt1_good lg_vPa
theorem Lr_ae2 {fn : Func} (hf : Try.prog.funcs[65]? = some fn) : LoopsGood Try.prog (lt1 e_ae2) 0 (codeOf fn) := by
  obtain rfl := fn_is Try.func65 hf
  exact lt1_good lg_ae2
def LSme : FuncId → LT := fun f => match f with
  | 63 => lt1 e_isP
  | 59 => lt1 e_vPa
  | 65 => lt1 e_ae2
  | _ => noL
def ESm4 : Env := mkE TSm2 R4 LSme
theorem ESm4_ok : EnvOk Try.prog ESm4 := mkEOk TSm2_ok R4_ok (by
  intro f fn hf
  unfold LSme
  split
  all_goals first | with_reducible exact Lr_isP hf | with_reducible exact Lr_vPa hf | with_reducible exact Lr_ae2 hf | exact noL_good)
set_option maxRecDepth 100000 in
theorem tr_isPF (ps : List Pt) : bodyV Try.prog ESm4 30 12 63 [.row ps.length (.ints (flat ps))] = brT (decide ((↑ps.length : Int) ≤ 20)) (.need (ps.length * (2 : Nat) ≤ (List.drop (0 : Nat) (flat ps)).length) (.need (ps.length ≤ (1000000000 : Nat)) (brT (!allV (ptsA ps.length (List.drop 0 (flat ps)))) (.fin (.bool (false)) []) (brT (decide ((↑ps.length : Int) < 2)) (.fin (.bool (false)) []) (.need ((1 : Int) = (1 : Int)) (.need ((flat ps).length = ps.length * (2 : Nat)) (.need (ps.length ≤ (1000000000 : Nat)) (brT (allQ (neQ (ptsA ps.length (flat ps))) 1 (ps.length - 1)) (.fin (.bool (true)) []) (.fin (.bool (false)) []))))))))) (.fin (.bool (false)) []) := by kernel_rfl
set_option maxRecDepth 100000 in
theorem tr_vPaF (ps : List Pt) : bodyV Try.prog ESm4 30 12 59 [.row ps.length (.ints (flat ps))] = .need ((1 : Int) = (1 : Int)) (.need ((flat ps).length = ps.length * (2 : Nat)) (.need (ps.length ≤ (1000000000 : Nat)) (brT (allQ (neQ (ptsA ps.length (flat ps))) 1 (ps.length - 1)) (.need (ps.length * (2 : Nat) ≤ (List.drop (0 : Nat) (flat ps)).length) (.need (ps.length ≤ (1000000000 : Nat)) (brT (okL (ptsA ps.length (List.drop 0 (flat ps)))) (.fin (.bool (decide (1 < (↑ps.length : Int)))) []) (.fin (.bool (false)) [])))) (.fin (.bool (false)) [])))) := by kernel_rfl
set_option maxRecDepth 100000 in
theorem tr_ae2F (n : Nat) (ks : List Int) (m : Int) : bodyV Try.prog ESm4 30 12 65 [.row n (.ints ks), .v (iv m)] = brT ((↑n : Int) == 0) (.fin (.bool (false)) []) (.need ((0 : Int) ≤ (0 : Int) ∧ (0 : Int) < (↑n : Int)) (.need ((0 : Nat) < ks.length) (brT (!ks.getD 0 0 == 0) (.fin (.bool (false)) []) (.need ((0 : Int) ≤ IntKind.i64.wrap ((↑n : Int) - (1 : Int)) ∧ IntKind.i64.wrap ((↑n : Int) - (1 : Int)) < (↑n : Int)) (.need ((0 : Nat) + (IntKind.i64.wrap ((↑n : Int) - (1 : Int))).toNat * (1 : Nat) < ks.length) (brT (!ks.getD (0 + (IntKind.i64.wrap ((↑n : Int) - 1)).toNat * 1) 0 == IntKind.i64.wrap (m - 1)) (.fin (.bool (false)) []) (.need ((1 : Int) = (1 : Int)) (.need ((↑n : Int) = (↑n : Int)) (.need (n ≤ ks.length) (.need (n ≤ (1000000000 : Nat)) (brT (allQ (ascQ ks) 1 (n - 1)) (.fin (.bool (true)) []) (.fin (.bool (false)) [])))))))))))) := by kernel_rfl
end Go.Proofs.Ytpjdnplpiamjcab
namespace Go.Proofs.Ytpjdnplpiamjcab
set_option linter.all false
open Go.RowKit
/-- Are points a path? -/
def pathB (ps : List Pt) : Bool := okL ps && (decide (2 ≤ ps.length) && allQ (neQ ps) 1 (ps.length - 1))
/-- Do indices lead from the first to the last? -/
def eeB (n : Nat) (ks : List Int) (m : Int) : Bool := decide (0 < n) && (decide (ks.getD 0 0 = 0) && (decide (ks.getD (n - 1) 0 = m - 1) && allQ (ascQ ks) 1 (n - 1)))
theorem okL_iff {ps : List Pt} : okL ps = true ↔ allV ps = true ∧ ps.length ≤ 20 := by
  unfold okL
  rw [Bool.and_eq_true, decide_eq_true_eq]
theorem path_iff {ps : List Pt} : pathB ps = true ↔ (allV ps = true ∧ ps.length ≤ 20) ∧ 2 ≤ ps.length ∧ allQ (neQ ps) 1 (ps.length - 1) = true := by
  unfold pathB
  rw [Bool.and_eq_true, Bool.and_eq_true, okL_iff, decide_eq_true_eq]
theorem res_isP (ps : List Pt) (h : Big ps) : Res Try.prog 63 [.row ps.length (.ints (flat ps))] (.bool (pathB ps)) := by
  refine bodyV_res mixed ESm4_ok (m := 30) (n := 12) rfl ?_
  rw [tr_isPF]
  unfold Big at h
  simp only [List.drop_zero, ptsA_flat, flat_length]
  unfold pathB okL
  by_cases h1 : ps.length ≤ 20
  · rw [decide_eq_true h1, decide_eq_true (show (ps.length : Int) ≤ 20 by omega), Bool.and_true]
    rcases allV ps with _ | _
    · simp only [brT_t, Bool.not_false, Tree.ok, Bool.false_and]
      repeat' (first | exact True.intro | exact rfl | assumption | omega | refine And.intro ?_ ?_)
    by_cases h2 : 2 ≤ ps.length
    · rw [decide_eq_true h2, decide_eq_false (show ¬ (ps.length : Int) < 2 by omega)]
      rcases allQ (neQ ps) 1 (ps.length - 1) with _ | _
      · repeat' (first | exact True.intro | exact rfl | assumption | omega | refine And.intro ?_ ?_)
      · repeat' (first | exact True.intro | exact rfl | assumption | omega | refine And.intro ?_ ?_)
    · rw [decide_eq_false h2, decide_eq_true (show (ps.length : Int) < 2 by omega)]
      repeat' (first | exact True.intro | exact rfl | assumption | omega | refine And.intro ?_ ?_)
  · rw [decide_eq_false h1, decide_eq_false (show ¬ (ps.length : Int) ≤ 20 by omega), Bool.and_false, Bool.false_and]
    exact rfl
theorem res_vPa (ps : List Pt) (h : Big ps) : Res Try.prog 59 [.row ps.length (.ints (flat ps))] (.bool (pathB ps)) := by
  refine bodyV_res mixed ESm4_ok (m := 30) (n := 12) rfl ?_
  rw [tr_vPaF]
  unfold Big at h
  simp only [List.drop_zero, ptsA_flat, flat_length]
  unfold pathB
  rcases allQ (neQ ps) 1 (ps.length - 1) with _ | _
  · rw [Bool.and_false, Bool.and_false]
    exact ⟨trivial, trivial, h, rfl⟩
  · rcases okL ps with _ | _
    · exact ⟨trivial, trivial, h, Nat.le_refl _, h, rfl⟩
    · refine ⟨trivial, trivial, h, Nat.le_refl _, h, ?_⟩
      rw [Bool.true_and, Bool.and_true]
      show Value.bool _ = Value.bool _
      rw [Value.bool.injEq]
      exact decide_eq_decide.2 (by omega)
theorem res_ae2 (n : Nat) (ks : List Int) (m : Int) (h1 : n ≤ ks.length) (h2 : n ≤ 1000000000) (h3 : 0 ≤ m ∧ m ≤ 1000000000) : Res Try.prog 65 [.row n (.ints ks), .v (iv m)] (.bool (eeB n ks m)) := by
  refine bodyV_res mixed ESm4_ok (m := 30) (n := 12) rfl ?_
  rw [tr_ae2F]
  unfold eeB
  rcases Nat.eq_zero_or_pos n with rfl | hp
  · exact rfl
  have w1 : IntKind.i64.wrap ((n : Int) - 1) = ((n - 1 : Nat) : Int) := by rw [wr (by omega)]; omega
  have w2 : IntKind.i64.wrap (m - 1) = m - 1 := wr (by omega)
  rw [w1, w2]
  simp only [Int.toNat_natCast, Nat.zero_add, Nat.mul_one]
  rw [decide_eq_true hp, Bool.true_and, show ((n : Int) == 0) = false from by simp; omega]
  simp only [brT_f, Tree.ok]
  refine ⟨by omega, by omega, ?_⟩
  by_cases g1 : ks.getD 0 0 = 0
  · rw [decide_eq_true g1, Bool.true_and, show (!ks.getD 0 0 == 0) = false from by rw [g1]; rfl]
    simp only [brT_f, Tree.ok]
    refine ⟨by omega, by omega, ?_⟩
    by_cases g2 : ks.getD (n - 1) 0 = m - 1
    · rw [decide_eq_true g2, Bool.true_and, show (!ks.getD (n - 1) 0 == m - 1) = false from by rw [g2]; simp]
      simp only [brT_f, Tree.ok]
      refine ⟨trivial, trivial, h1, h2, ?_⟩
      rcases allQ (ascQ ks) 1 (n - 1) with _ | _ <;> exact rfl
    · rw [decide_eq_false g2, Bool.false_and, show (!ks.getD (n - 1) 0 == m - 1) = true from by simpa using g2]
      exact rfl
  · rw [decide_eq_false g1, Bool.false_and, show (!ks.getD 0 0 == 0) = true from by simpa using g1]
    exact rfl
def pPath : List DArg → Option (Value × List Prop)
  | [.row m (.ints xs)] => some (.bool (pathB (ptsA m xs)), [m * 2 ≤ xs.length, m ≤ 1000000000])
  | _ => none
theorem pPath_ok {f : FuncId} (h0 : ∀ ps : List Pt, Big ps → Res Try.prog f [.row ps.length (.ints (flat ps))] (.bool (pathB ps))) {ds : List DArg} {v : Value} {C : List Prop} (h : pPath ds = some (v, C)) (hC : AllP C) : Res Try.prog f ds v := by
  unfold pPath at h
  split at h
  · obtain ⟨rfl, rfl⟩ : _ ∧ _ := by simpa using h
    obtain ⟨_, h2⟩ := ptsA_spec hC.1
    exact res_pts1 (pre := []) (post := []) hC.1 (h0 _ (by unfold Big; rw [h2]; exact hC.2.1))
  · cases h
theorem pPs_ok {ds : List DArg} {v : Value} {C : List Prop} (h : pPath ds = some (v, C)) (hC : AllP C) : Res Try.prog 59 ds v := pPath_ok res_vPa h hC
theorem pPi_ok {ds : List DArg} {v : Value} {C : List Prop} (h : pPath ds = some (v, C)) (hC : AllP C) : Res Try.prog 63 ds v := pPath_ok res_isP h hC
def pEe : List DArg → Option (Value × List Prop)
  | [.row n (.ints ks), .v (.int .i64 m)] => some (.bool (eeB n ks m), [n ≤ ks.length, n ≤ 1000000000, 0 ≤ m ∧ m ≤ 1000000000])
  | _ => none
theorem pEe_ok {ds : List DArg} {v : Value} {C : List Prop} (h : pEe ds = some (v, C)) (hC : AllP C) : Res Try.prog 65 ds v := by
  unfold pEe at h
  split at h
  · obtain ⟨rfl, rfl⟩ : _ ∧ _ := by simpa using h
    exact res_ae2 _ _ _ hC.1 hC.2.1 hC.2.2.1
  · cases h
def TSm3 : Tab := fun f ds => match f with
  | 59 => pPath ds
  | 63 => pPath ds
  | 65 => pEe ds
  | f => TSm2 f ds
theorem TSm3_ok : TabOk Try.prog TSm3 := by
  intro f ds v C h hC
  unfold TSm3 at h
  (try split at h)
  all_goals first | with_reducible exact pPs_ok h hC | with_reducible exact pPi_ok h hC | with_reducible exact pEe_ok h hC | exact TSm2_ok _ _ _ _ h hC
end Go.Proofs.Ytpjdnplpiamjcab
namespace Go.Proofs.Ytpjdnplpiamjcab
set_option linter.all false
open Go.ChangeShapes Go.WideShapes Go.ChangeAt Go.RowKit Go.Deep
theorem lift_ownV {P : Program} {E : Env} (hE : EnvOk P E) (hmx : P.follows .mixedOrders = true) {m n : Nat} {f : FuncId} {e sz l lv : Nat} {xs ys : List Int} {v : Value} {b : Blk} (hb0 : isRow b = true) {rest : List Value} (hrest : rest.all plainV = true)
    (h : (bodyM P E (runM P E m n) m f (.slice (some ⟨0, 0, none⟩) lv lv :: (rest ++ [.slice (some ⟨1, 0, none⟩) l l])) [some ⟨.view, .ints ys⟩, some ⟨.row e sz, .ints xs⟩] .fin).ok (fun _ _ => False) (fun u mem' => RowIs v b u mem'))
    {s : FS} {nr c nv cv name : Nat} {cs0 csv : Cs} (hvw : s.blk nv = some ⟨.view, csv⟩) (hcv : csv.list = ys.map (Value.int .i64)) (hb : s.blk nr = some ⟨.row e sz, cs0⟩) (hcs : cs0.list = xs.map (Value.int .i64)) (hname : s.blk name = none) : enters P f ∧ ∀ (B : Nat → Prop) (ρ0 ρ : Nat → Option Pl) (w : World) (args' : Array Value), VRs ρ (.slice (some ⟨nv, 0, none⟩) lv cv :: (rest ++ [.slice (some ⟨nr, 0, none⟩) l c])) args' → MemOk ρ0 ρ B s.blk w → (∀ k, B k → k < w.heap.size) →
    Calls P f args' w fun e' w' => ∃ v' ρ', e' = .returned v' ∧ Ext ρ ρ' ∧ VR ρ' (atName name v) v' ∧ BelowK B w w' ∧ MemOk ρ0 ρ' B (setB (setB s.blk nr deadB) name b) w' := by
  obtain ⟨u, mem', ⟨src, hrv, hsrc⟩, hent, hdet⟩ := bodyM_ok hE hmx (runM_ok hmx hE m n) m f _ _ _ _ _ h
  refine ⟨hent, fun B ρ0 ρ w args' ha hm hB => ?_⟩
  have hatx : ∀ x ∈ xs.map (Value.int .i64), plainV x = true := fun x hx => by
    obtain ⟨y, _, rfl⟩ := List.mem_map.1 hx
    rfl
  let ρs : Nat → Option Pl := fun k => match k with
    | 0 => ρ nv
    | 1 => ρ nr
    | _ => none
  let Bs : Nat → Prop := fun k => k < w.heap.size ∧ ∀ p, ρ nr = some p → ¬ nilPl p → k ≠ p.1
  have hblk : (∃ p, ρ nr = some p ∧ p.2.1 = 1 ∧ p.2.2 = some 0) ∨ ∃ g cap, ρ nr = some (g, 0, some cap) ∧ ¬ B g ∧ ∃ cs', w.heap[g]? = some (.cells cs' e (0, 0)) ∧ cs'.size = cap * sz ∧ Cells ρ cs0.list cs' := hm.ok nr _ hb
  have hvk : (∃ p, ρ nv = some p ∧ nilPl p) ∨ ∃ g f cp, ρ nv = some (g, f, cp) ∧ okPl f cp ∧ g < w.heap.size ∧ ∀ (k : Nat) v, (Blk.cells ⟨.view, csv⟩)[k]? = some v → ∃ v', w.cell? ⟨g, f + k, none⟩ = some v' ∧ VR ρ v v' := hm.ok nv _ hvw
  have haty : ∀ x ∈ ys.map (Value.int .i64), plainV x = true := fun x hx => by
    obtain ⟨y, _, rfl⟩ := List.mem_map.1 hx
    rfl
  have hnv : nv ≠ nr := fun e => by rw [e, hb] at hvw; simp at hvw
  have hnn : nr ≠ name := fun e => by rw [e, hname] at hb; cases hb
  have hmem : MemOk (fun _ => none) ρs Bs (fun k => [some (⟨.view, .ints ys⟩ : Blk), some (⟨.row e sz, .ints xs⟩ : Blk)].getD k none) w := by
    refine ⟨fun k q hq => by simp at hq, fun k hk => ?_, fun k b hk => ?_, fun k k' b b2 q q' hk hown hk' hlive hne' hq hq' hnq hnq' => ?_⟩
    · match k with
      | 0 => simp at hk
      | 1 => simp at hk
      | k + 2 => rfl
    · match k with
      | 0 =>
        obtain rfl : (⟨.view, .ints ys⟩ : Blk) = b := by simpa using hk
        rcases hvk with ⟨p, h1, h2⟩ | ⟨g, f, cp, h1, h2, h3, h4⟩
        · exact .inl ⟨p, h1, h2⟩
        · refine .inr ⟨g, f, cp, h1, h2, h3, fun k x hx => ?_⟩
          have hx' : (Blk.cells ⟨.view, csv⟩)[k]? = some x := by
            show csv.list[k]? = some x
            rw [hcv]
            exact hx
          obtain ⟨x', h6, h7⟩ := h4 k x hx'
          have hat := haty x (List.mem_of_getElem? hx)
          rw [h7.plain hat] at h6
          exact ⟨x, h6, .lit hat⟩
      | 1 =>
        obtain rfl : (⟨.row e sz, .ints xs⟩ : Blk) = b := by simpa using hk
        rcases hblk with ⟨p, h1, h2, h3⟩ | ⟨g, cap, h1, h2, cs', h3, h4, h5⟩
        · exact .inl ⟨p, h1, h2, h3⟩
        · refine .inr ⟨g, cap, h1, fun hbs => hbs.2 _ h1 (okPl.not (.inl rfl)) rfl, cs', h3, h4, fun k x hx => ?_⟩
          have hx' : cs0.list[k]? = some x := by rw [hcs]; exact hx
          obtain ⟨x', h6, h7⟩ := h5 k x hx'
          have hat := hatx x (List.mem_of_getElem? hx)
          rw [h7.plain hat] at h6
          exact ⟨x, h6, .lit hat⟩
      | k + 2 => simp at hk
    · match k, k' with
      | 0, _ =>
        obtain rfl : (⟨.view, .ints ys⟩ : Blk) = b := by simpa using hk
        cases hown
      | 1, 0 => exact hm.sep nr nv _ _ q q' hb rfl hvw rfl (Ne.symm hnv) hq hq' hnq hnq'
      | 1, 1 => exact absurd rfl hne'
      | k + 2, _ => simp at hk
      | 1, k' + 2 => simp at hk'
  have hargs : VRs ρs (.slice (some ⟨0, 0, none⟩) lv lv :: (rest ++ [.slice (some ⟨1, 0, none⟩) l l])) args' := by
    refine ⟨by have := ha.1; simpa using this, fun i a x hi hx => ?_⟩
    cases i with
    | zero =>
      obtain rfl : Value.slice (some ⟨0, 0, none⟩) lv lv = a := by simpa using hi
      exact vr_ren (a := nv) rfl (ha.2 0 _ x rfl hx)
    | succ i =>
      have hi : (rest ++ [Value.slice (some ⟨1, 0, none⟩) l l])[i]? = some a := by simpa using hi
      rcases Nat.lt_or_ge i rest.length with hlt | hge
      · rw [List.getElem?_append_left hlt] at hi
        have hp := List.all_eq_true.1 hrest a (List.mem_of_getElem? hi)
        have := ha.2 (i + 1) a x (by rw [List.getElem?_cons_succ, List.getElem?_append_left hlt]; exact hi) hx
        rw [this.plain hp]
        exact .lit hp
      · rw [List.getElem?_append_right hge] at hi
        rcases Nat.eq_zero_or_pos (i - rest.length) with h0 | hp
        · rw [h0] at hi
          obtain rfl : Value.slice (some ⟨1, 0, none⟩) l l = a := by simpa using hi
          exact vr_ren (a := nr) rfl (ha.2 (i + 1) _ x (by rw [List.getElem?_cons_succ, List.getElem?_append_right hge, h0]; rfl) hx)
        · rw [List.getElem?_eq_none (by simp; omega)] at hi
          cases hi
  refine (hdet ⟨w, fun _ => none, Bs, fun k h => h.1, [], none⟩ ρs args' w hargs hmem (BelowK.refl _ _)).mono ?_
  rintro e1 w' ⟨v', ρ', rfl, hext, hvv, hbel, hm'⟩
  have hBel : BelowK B w w' := ⟨hbel.os, hbel.tape, hbel.output, hbel.size, fun k hk => hbel.block k ⟨hB k hk, fun p hp hnp => by
    rintro rfl
    exact ((hm.ok nr _ hb).real rfl hp hnp).2 rfl hk⟩⟩
  have hset : MemOk ρ0 ρ B (setB s.blk nr deadB) w' := by
    rcases hblk with ⟨p, h1, h2, h3⟩ | ⟨g, cap, h1, h2, cs', h3, h4, h5⟩
    · have hkeep : MemOk ρ0 ρ B s.blk w' := hm.keep ⟨hbel.os, hbel.tape, hbel.output, hbel.size, fun k hk => hbel.block k ⟨hk, fun q hq hnq => by
        rw [h1] at hq
        obtain rfl : p = q := by simpa using hq
        exact absurd ⟨h2, 0, h3⟩ hnq⟩⟩
      exact hkeep.setNil hb h1 ⟨h2, 0, h3⟩ trivial
    · exact hm.set hb rfl h1 (okPl.not (.inl rfl)) hbel.size (fun k hk hkg => hbel.block k ⟨hk, fun p hp hnp => by
        rw [h1] at hp
        obtain rfl : (g, 0, some cap) = p := by simpa using hp
        exact hkg⟩) trivial
  have hn0 : setB s.blk nr deadB name = none := by simp [setB, Ne.symm hnn, hname]
  -- other names lie elsewhere
  have hoth : ∀ g2, (w.heap.size ≤ g2 ∨ ∃ p, ρ nr = some p ∧ ¬ nilPl p ∧ p.1 = g2) → ∀ k c q, setB s.blk nr deadB k = some c → c.live = true → ρ k = some q → ¬ nilPl q → q.1 ≠ g2 := by
    intro g2 hg k c q hk hl hq hnq
    have hkn : k ≠ nr := fun e => by
      subst e
      obtain rfl : deadB = c := by simpa [setB] using hk
      cases hl
    have hk' : s.blk k = some c := by simpa [setB, hkn] using hk
    rcases hg with hg | ⟨p, hp, hnp, rfl⟩
    · have := ((hm.ok k c hk').real hl hq hnq).1
      omega
    · exact fun e => hm.sep nr k _ _ p q hb rfl hk' hl (Ne.symm hkn) hp hq hnp hnq e.symm
  obtain ⟨kd, cs⟩ := b
  cases kd with
  | row ee sz =>
    cases src with
    | none =>
      exact ⟨v', addPl ρ name (0, 1, some 0), rfl, addPl_ext (hm.fresh name hname), rv_ok (ρ := ρ') (src := none) (addPl_same _ _ _) hrv hvv, hBel, hset.addRow2 hn0 (fun hn => absurd ⟨rfl, 0, rfl⟩ hn) (.inl ⟨_, addPl_same _ _ _, rfl, rfl⟩)⟩
    | some k =>
      simp only at hsrc
      split at hsrc
      rotate_left
      · exact hsrc.elim
      rename_i b' hb'
      obtain ⟨kd', cs'⟩ := b'
      cases kd' with
      | row e2 sz2 =>
        obtain ⟨rfl, rfl, hc⟩ := hsrc
        obtain ⟨c1, c2⟩ := rc_list hc
        rcases hm'.ok k _ hb' with ⟨q, k1, k2, k3⟩ | ⟨g2, cap, k1, k2, arr, k3, k4, k5⟩
        · exact ⟨v', addPl ρ name q, rfl, addPl_ext (hm.fresh name hname), rv_ok (ρ := ρ') (src := some k) ((addPl_same _ _ _).trans k1.symm) hrv hvv, hBel, hset.addRow2 hn0 (fun hn => absurd ⟨k2, 0, k3⟩ hn) (.inl ⟨_, addPl_same _ _ _, k2, k3⟩)⟩
        · have hge : w.heap.size ≤ g2 ∨ ∃ p, ρ nr = some p ∧ ¬ nilPl p ∧ p.1 = g2 := by
            rcases Nat.lt_or_ge g2 w.heap.size with h | h
            · right
              refine Classical.byContradiction fun hno => k2 ⟨h, fun p hp hnp e => hno ⟨p, hp, hnp, e.symm⟩⟩
            · exact .inl h
          have hnB : ¬ B g2 := fun hBg => by
            rcases hge with h | ⟨p, hp, hnp, rfl⟩
            · have := hB g2 hBg
              omega
            · exact ((hm.ok nr _ hb).real rfl hp hnp).2 rfl hBg
          refine ⟨v', addPl ρ name (g2, 0, some cap), rfl, addPl_ext (hm.fresh name hname), rv_ok (ρ := ρ') (src := some k) ((addPl_same _ _ _).trans k1.symm) hrv hvv, hBel, hset.addRow2 hn0 (fun _ => hoth g2 hge) (.inr ⟨g2, cap, addPl_same _ _ _, hnB, arr, k3, k4, fun i x hx => ?_⟩)⟩
          obtain ⟨x', j1, j2⟩ := k5 i x (by show cs'.list[i]? = some x; rw [c1]; exact hx)
          refine ⟨x', j1, ?_⟩
          have hat := plain_of_atom (c2 x (List.mem_of_getElem? hx))
          rw [j2.plain hat]
          exact .lit hat
      | _ => exact hsrc.elim
  | _ => cases hb0
/-- What a function makes of a list that it reads and of a row that it takes over, its last argument: the list's length and ints; the row's type, the size of an element, length, ints; the arguments between. -/
abbrev VSpec := Nat → List Int → Nat → Nat → Nat → List Int → List Value → Option (Value × Blk × List Prop)
def ovG (sp : VSpec) (name : Nat) (args : List Value) : Rd Eff :=
  match args with
  | [.slice (some ⟨nv, 0, none⟩) lv _, x, y, z, .slice (some ⟨nr, 0, none⟩) l _] => .blk nv fun bv => .blk nr fun b => match bv, b with
    | some ⟨.view, csv⟩, some ⟨.row e sz, cs⟩ => (match [x, y, z].all plainV, intsC csv, intsC cs with
      | true, some ys, some xs => (match sp lv ys e sz l xs [x, y, z] with
        | some (v, rb, C) => .ret ⟨atName name v, [(name, rb), (nr, deadB)], C⟩
        | none => .fail)
      | _, _, _ => .fail)
    | _, _ => .fail
  | _ => .fail
def VSpecOk (P : Program) (f : FuncId) (sp : VSpec) : Prop := ∀ lv ys e sz l xs rest v b C, sp lv ys e sz l xs rest = some (v, b, C) → AllP C → isRow b = true ∧ ∃ (E : Env) (m n : Nat), EnvOk P E ∧
  (bodyM P E (runM P E m n) m f (.slice (some ⟨0, 0, none⟩) lv lv :: (rest ++ [.slice (some ⟨1, 0, none⟩) l l])) [some ⟨.view, .ints ys⟩, some ⟨.row e sz, .ints xs⟩] .fin).ok (fun _ _ => False) (fun u mem' => RowIs v b u mem')
theorem consV_ok {P : Program} (hmx : P.follows .mixedOrders = true) {J : TabJ} (hJ : GSound P J.g) {f : FuncId} {sp : VSpec} (hent : enters P f) (hsp : VSpecOk P f sp) : GSound P (consR f (ovG sp) J).g := by
  intro h name args s eff hr hn
  simp only [consR] at hr
  split at hr
  rotate_left
  · exact hJ h name args s eff hr hn
  rename_i heq
  obtain rfl := Nat.eq_of_beq_eq_true heq
  refine ⟨hent, fun B ρ0 ρ w args' ha hm hB hcond => ?_⟩
  unfold ovG at hr
  split at hr
  rotate_left
  · simp [Rd.run] at hr
  rename_i nv lv cv x y z nr l c
  simp only [Rd.run] at hr
  split at hr
  rotate_left
  · simp [Rd.run] at hr
  rename_i csv e sz cs hbv hb
  split at hr
  rotate_left
  · simp [Rd.run] at hr
  rename_i ys xs hall hys hxs
  split at hr
  rotate_left
  · simp [Rd.run] at hr
  rename_i v rb C hs
  obtain rfl : (⟨atName name v, [(name, rb), (nr, deadB)], C⟩ : Eff) = eff := by simpa [Rd.run] using hr
  obtain ⟨hrow, E, m, n, hE, ht⟩ := hsp _ _ _ _ _ _ _ _ _ _ hs hcond
  rw [upd_two]
  exact (lift_ownV hE hmx hrow hall ht hbv (intsC_spec hys) hb (intsC_spec hxs) hn).2 B ρ0 ρ w args' ha hm hB
end Go.Proofs.Ytpjdnplpiamjcab
namespace Go.Proofs.Ytpjdnplpiamjcab
set_option linter.all false
open Go.RowKit
/-- The points that are kept behind a up to b. -/
def sml (ps : List Pt) (most : Int) : Nat → Nat → Nat → List Int
  | 0, _, b => [(b : Int)]
  | f + 1, a, b => bif stpB ps a b most then [(b : Int)] else sml ps most f a (wrK ps a b) ++ sml ps most f (wrK ps a b) b
def smL (ps : List Pt) (most : Int) (a b : Nat) : List Int := sml ps most (b - a) a b
theorem stp_no {ps : List Pt} {most : Int} {a b : Nat} (h : a < b) (hs : stpB ps a b most = false) : a < wrK ps a b ∧ wrK ps a b < b := by
  have := wrK_bd ps h
  unfold stpB at hs
  rw [Bool.or_eq_false_iff] at hs
  have := of_decide_eq_false hs.1
  omega
theorem sml_fuel (ps : List Pt) (most : Int) : ∀ f a b, a < b → b - a ≤ f → sml ps most f a b = sml ps most (b - a) a b
  | 0, a, b, h, h1 => by omega
  | f + 1, a, b, h, h1 => by
    obtain ⟨g, hg⟩ : ∃ g, b - a = g + 1 := ⟨b - a - 1, by omega⟩
    rw [hg]
    simp only [sml]
    rcases hs : stpB ps a b most with _ | _
    · obtain ⟨k1, k2⟩ := stp_no h hs
      simp only [cond_false]
      rw [sml_fuel ps most f a _ k1 (by omega), sml_fuel ps most f _ b k2 (by omega), sml_fuel ps most g a _ k1 (by omega), sml_fuel ps most g _ b k2 (by omega)]
    · rfl
  termination_by f a b => f + (b - a)
theorem smL_yes {ps : List Pt} {most : Int} {a b : Nat} (hs : stpB ps a b most = true) : smL ps most a b = [(b : Int)] := by
  unfold smL
  rcases b - a with _ | f
  · rfl
  · simp only [sml, hs, cond_true]
theorem smL_no {ps : List Pt} {most : Int} {a b : Nat} (h : a < b) (hs : stpB ps a b most = false) : smL ps most a b = smL ps most a (wrK ps a b) ++ smL ps most (wrK ps a b) b := by
  obtain ⟨k1, k2⟩ := stp_no h hs
  unfold smL
  obtain ⟨g, hg⟩ : ∃ g, b - a = g + 1 := ⟨b - a - 1, by omega⟩
  rw [hg]
  simp only [sml, hs, cond_false]
  rw [sml_fuel ps most g a _ k1 (by omega), sml_fuel ps most g _ b k2 (by omega)]
theorem sml_len (ps : List Pt) (most : Int) : ∀ f a b, a < b → b - a ≤ f → (sml ps most f a b).length ≤ b - a
  | 0, a, b, h, h1 => by omega
  | f + 1, a, b, h, h1 => by
    simp only [sml]
    rcases hs : stpB ps a b most with _ | _
    · obtain ⟨k1, k2⟩ := stp_no h hs
      have h2 := sml_len ps most f a _ k1 (by omega)
      have h3 := sml_len ps most f _ b k2 (by omega)
      simp only [cond_false, List.length_append]
      omega
    · simp only [cond_true, List.length_cons, List.length_nil]
      omega
theorem smL_len {ps : List Pt} {most : Int} {a b : Nat} (h : a < b) : (smL ps most a b).length ≤ b - a := sml_len ps most _ a b h (Nat.le_refl _)
def smS (N : Nat) : VSpec := fun lv ys e sz l xs rest => match e, sz, rest with
  | 3, 1, [.int .i64 a, .int .i64 b, .int .i64 most] => some (.slice (some ⟨0, 0, none⟩) (xs ++ smL (ptsA lv ys) most a.toNat b.toNat).length (xs ++ smL (ptsA lv ys) most a.toNat b.toNat).length, ⟨.row 3 1, .ints (xs ++ smL (ptsA lv ys) most a.toNat b.toNat)⟩, [ys.length = lv * 2, lv ≤ 20, allV (ptsA lv ys) = true, xs.length = l, l + (b - a).toNat ≤ 1000, 0 ≤ a ∧ a < b, b < lv, 0 ≤ most ∧ most ≤ 8000000, b.toNat - a.toNat < N])
  | _, _, _ => none
def JSm (N : Nat) : TabJ := consR 68 (ovG (smS N)) noJ
def ESmS (N : Nat) : Env := withT (mkE TSm2 R4 (fun _ => noL)) (JSm N)
set_option maxRecDepth 100000 in
theorem tr_sim (N : Nat) (ps : List Pt) (a b : Nat) (most : Int) (l : Nat) (xs : List Int) : bodyM Try.prog (ESmS N) (runM Try.prog (ESmS N) 30 12) 30 68 [.slice (some ⟨0, 0, none⟩) ps.length ps.length, .int .i64 a, .int .i64 b, .int .i64 most, .slice (some ⟨1, 0, none⟩) l l] [some ⟨.view, .ints (flat ps)⟩, some ⟨.row 3 1, .ints xs⟩] .fin = .need (ps.length * (2 : Nat) ≤ (List.drop (0 : Nat) (flat ps)).length) (.need (ps.length ≤ (1000 : Nat)) (.need (allV (ptsA ps.length (List.drop (0 : Nat) (flat ps))) = true) (.need ((0 : Int) ≤ (↑a : Int) ∧ (↑a : Int) < (↑ps.length : Int)) (.need ((0 : Int) ≤ (↑b : Int) ∧ (↑b : Int) < (↑ps.length : Int)) (.need (ps.length * (2 : Nat) ≤ (List.drop (0 : Nat) (flat ps)).length) (.need (ps.length ≤ (1000 : Nat)) (.need (allV (ptsA ps.length (List.drop (0 : Nat) (flat ps))) = true) (.need ((0 : Int) ≤ (↑a : Int) ∧ (↑a : Int) < (↑ps.length : Int)) (.need ((0 : Int) ≤ (↑b : Int) ∧ (↑b : Int) < (↑ps.length : Int)) (.need ((0 : Int) ≤ (↑(wrK (ptsA ps.length (List.drop (0 : Nat) (flat ps))) (↑a : Int).toNat (↑b : Int).toNat) : Int) ∧ (↑(wrK (ptsA ps.length (List.drop (0 : Nat) (flat ps))) (↑a : Int).toNat (↑b : Int).toNat) : Int) < (↑ps.length : Int)) (brT ((↑(wrK (ptsA ps.length (List.drop 0 (flat ps))) (↑a : Int).toNat (↑b : Int).toNat) : Int) == (↑a : Int)) (.need ((l + (1 : Nat)) * (8 : Nat) ≤ (140737488355328 : Nat) ∧ l + (1 : Nat) ≤ (1000000 : Nat)) (.need ((0 : Nat) + l * (1 : Nat) ≤ xs.length) (.fin (.slice (some ⟨3, 0, none⟩) (l + 1) (l + 1)) [some ⟨.view, .ints (flat ps)⟩, some deadB, some ⟨.row 3 1, .vals [.int .i64 ((↑b : Int))]⟩, some ⟨.row 3 1, .ints (List.take (l * 1) (List.drop 0 xs) ++ [(↑b : Int)])⟩]))) (brT (decide (dvN (gP (ptsA ps.length (List.drop 0 (flat ps))) (↑a : Int).toNat) (gP (ptsA ps.length (List.drop 0 (flat ps))) (↑b : Int).toNat) (gP (ptsA ps.length (List.drop 0 (flat ps))) (↑(wrK (ptsA ps.length (List.drop 0 (flat ps))) (↑a : Int).toNat (↑b : Int).toNat) : Int).toNat) ≤ IntKind.i64.wrap (most * dvD (gP (ptsA ps.length (List.drop 0 (flat ps))) (↑a : Int).toNat) (gP (ptsA ps.length (List.drop 0 (flat ps))) (↑b : Int).toNat) (gP (ptsA ps.length (List.drop 0 (flat ps))) (↑(wrK (ptsA ps.length (List.drop 0 (flat ps))) (↑a : Int).toNat (↑b : Int).toNat) : Int).toNat)))) (.need ((l + (1 : Nat)) * (8 : Nat) ≤ (140737488355328 : Nat) ∧ l + (1 : Nat) ≤ (1000000 : Nat)) (.need ((0 : Nat) + l * (1 : Nat) ≤ xs.length) (.fin (.slice (some ⟨3, 0, none⟩) (l + 1) (l + 1)) [some ⟨.view, .ints (flat ps)⟩, some deadB, some ⟨.row 3 1, .vals [.int .i64 ((↑b : Int))]⟩, some ⟨.row 3 1, .ints (List.take (l * 1) (List.drop 0 xs) ++ [(↑b : Int)])⟩]))) (.need ((flat ps).length = ps.length * (2 : Nat)) (.need (ps.length ≤ (20 : Nat)) (.need (allV (ptsA ps.length (flat ps)) = true) (.need (xs.length = l) (.need (l + ((↑(wrK (ptsA ps.length (List.drop (0 : Nat) (flat ps))) (↑a : Int).toNat (↑b : Int).toNat) : Int) - (↑a : Int)).toNat ≤ (1000 : Nat)) (.need ((0 : Int) ≤ (↑a : Int) ∧ (↑a : Int) < (↑(wrK (ptsA ps.length (List.drop (0 : Nat) (flat ps))) (↑a : Int).toNat (↑b : Int).toNat) : Int)) (.need ((↑(wrK (ptsA ps.length (List.drop (0 : Nat) (flat ps))) (↑a : Int).toNat (↑b : Int).toNat) : Int) < (↑ps.length : Int)) (.need ((0 : Int) ≤ most ∧ most ≤ (8000000 : Int)) (.need ((↑(wrK (ptsA ps.length (List.drop (0 : Nat) (flat ps))) (↑a : Int).toNat (↑b : Int).toNat) : Int).toNat - (↑a : Int).toNat < N) (.need ((flat ps).length = ps.length * (2 : Nat)) (.need (ps.length ≤ (20 : Nat)) (.need (allV (ptsA ps.length (flat ps)) = true) (.need ((xs ++ smL (ptsA ps.length (flat ps)) most (↑a : Int).toNat (↑(wrK (ptsA ps.length (List.drop (0 : Nat) (flat ps))) (↑a : Int).toNat (↑b : Int).toNat) : Int).toNat).length = (xs ++ smL (ptsA ps.length (flat ps)) most (↑a : Int).toNat (↑(wrK (ptsA ps.length (List.drop (0 : Nat) (flat ps))) (↑a : Int).toNat (↑b : Int).toNat) : Int).toNat).length) (.need ((xs ++ smL (ptsA ps.length (flat ps)) most (↑a : Int).toNat (↑(wrK (ptsA ps.length (List.drop (0 : Nat) (flat ps))) (↑a : Int).toNat (↑b : Int).toNat) : Int).toNat).length + ((↑b : Int) - (↑(wrK (ptsA ps.length (List.drop (0 : Nat) (flat ps))) (↑a : Int).toNat (↑b : Int).toNat) : Int)).toNat ≤ (1000 : Nat)) (.need ((0 : Int) ≤ (↑(wrK (ptsA ps.length (List.drop (0 : Nat) (flat ps))) (↑a : Int).toNat (↑b : Int).toNat) : Int) ∧ (↑(wrK (ptsA ps.length (List.drop (0 : Nat) (flat ps))) (↑a : Int).toNat (↑b : Int).toNat) : Int) < (↑b : Int)) (.need ((↑b : Int) < (↑ps.length : Int)) (.need ((0 : Int) ≤ most ∧ most ≤ (8000000 : Int)) (.need ((↑b : Int).toNat - (↑(wrK (ptsA ps.length (List.drop (0 : Nat) (flat ps))) (↑a : Int).toNat (↑b : Int).toNat) : Int).toNat < N) (.fin (.slice (some ⟨3, 0, none⟩) ((xs ++ smL (ptsA ps.length (flat ps)) most (↑a : Int).toNat (↑(wrK (ptsA ps.length (List.drop 0 (flat ps))) (↑a : Int).toNat (↑b : Int).toNat) : Int).toNat ++ smL (ptsA ps.length (flat ps)) most (↑(wrK (ptsA ps.length (List.drop 0 (flat ps))) (↑a : Int).toNat (↑b : Int).toNat) : Int).toNat (↑b : Int).toNat).length) ((xs ++ smL (ptsA ps.length (flat ps)) most (↑a : Int).toNat (↑(wrK (ptsA ps.length (List.drop 0 (flat ps))) (↑a : Int).toNat (↑b : Int).toNat) : Int).toNat ++ smL (ptsA ps.length (flat ps)) most (↑(wrK (ptsA ps.length (List.drop 0 (flat ps))) (↑a : Int).toNat (↑b : Int).toNat) : Int).toNat (↑b : Int).toNat).length)) [some ⟨.view, .ints (flat ps)⟩, some deadB, some deadB, some ⟨.row 3 1, .ints (xs ++ smL (ptsA ps.length (flat ps)) most (↑a : Int).toNat (↑(wrK (ptsA ps.length (List.drop 0 (flat ps))) (↑a : Int).toNat (↑b : Int).toNat) : Int).toNat ++ smL (ptsA ps.length (flat ps)) most (↑(wrK (ptsA ps.length (List.drop 0 (flat ps))) (↑a : Int).toNat (↑b : Int).toNat) : Int).toNat (↑b : Int).toNat)⟩]))))))))))))))))))))))))))))))) := by kernel_rfl
set_option maxRecDepth 100000 in
set_option maxHeartbeats 1000000 in
theorem sim_row (N : Nat) (ps : List Pt) (a b : Nat) (most : Int) (xs : List Int) (hl : ps.length ≤ 20) (hv : allV ps = true) (hx : xs.length + (b - a) ≤ 1000) (hab : a < b) (hb : b < ps.length) (hm : 0 ≤ most ∧ most ≤ 8000000) (hN : b - a < N + 1) :
    (bodyM Try.prog (ESmS N) (runM Try.prog (ESmS N) 30 12) 30 68 [.slice (some ⟨0, 0, none⟩) ps.length ps.length, .int .i64 a, .int .i64 b, .int .i64 most, .slice (some ⟨1, 0, none⟩) xs.length xs.length] [some ⟨.view, .ints (flat ps)⟩, some ⟨.row 3 1, .ints xs⟩] .fin).ok (fun _ _ => False) (fun u mem' => RowIs (.slice (some ⟨0, 0, none⟩) (xs ++ smL ps most a b).length (xs ++ smL ps most a b).length) ⟨.row 3 1, .ints (xs ++ smL ps most a b)⟩ u mem') := by
  rw [tr_sim]
  have fl := flat_length ps
  simp only [List.drop_zero, ptsA_flat, Int.toNat_natCast, Nat.mul_one, Nat.zero_add, List.take_length, fl]
  have wb := wrK_bd ps hab
  have one : stpB ps a b most = true → RowIs (.slice (some ⟨0, 0, none⟩) (xs ++ smL ps most a b).length (xs ++ smL ps most a b).length) ⟨.row 3 1, .ints (xs ++ smL ps most a b)⟩ (.slice (some ⟨3, 0, none⟩) (xs.length + 1) (xs.length + 1)) [some ⟨.view, .ints (flat ps)⟩, some deadB, some ⟨.row 3 1, .vals [.int .i64 ((b : Nat) : Int)]⟩, some ⟨.row 3 1, .ints (xs ++ [(b : Int)])⟩] := fun h => by
    rw [smL_yes h, show (xs ++ [(b : Int)]).length = xs.length + 1 by simp]
    exact ⟨some 3, ⟨rfl, rfl, rfl⟩, rfl, rfl, rfl⟩
  simp only [Tree.ok]
  repeat (refine And.intro (by first | exact True.intro | assumption | omega) ?_)
  have d := dv_bd (gP_v hv a) (gP_v hv b) (gP_v hv (wrK ps a b))
  have mm := mul_bd (x := most) (y := dvD (gP ps a) (gP ps b) (gP ps (wrK ps a b))) 8000000 8000000 (by omega) (by omega)
  rw [wr (x := most * dvD (gP ps a) (gP ps b) (gP ps (wrK ps a b))) (by omega)]
  refine brT_ok.2 ⟨fun g => ?_, fun g => brT_ok.2 ⟨fun k => ?_, fun k => ?_⟩⟩
  · simp only [Tree.ok]
    refine ⟨by omega, by omega, one ?_⟩
    have e : wrK ps a b = a := by
      have : ((wrK ps a b : Nat) : Int) = a := by simpa using g
      omega
    unfold stpB
    rw [decide_eq_true e, Bool.true_or]
  · simp only [Tree.ok]
    refine ⟨by omega, by omega, one ?_⟩
    unfold stpB
    rw [k, Bool.or_true]
  · have hs : stpB ps a b most = false := by
      unfold stpB
      rw [k, Bool.or_false]
      refine decide_eq_false fun e => ?_
      rw [e] at g
      simp at g
    obtain ⟨k1, k2⟩ := stp_no hab hs
    have l1 := smL_len (ps := ps) (most := most) k1
    have l2 := smL_len (ps := ps) (most := most) k2
    rw [smL_no hab hs, ← List.append_assoc]
    simp only [Tree.ok, List.length_append]
    repeat (refine And.intro (by first | exact True.intro | assumption | omega) ?_)
    exact ⟨some 3, ⟨rfl, rfl, by simp⟩, rfl, rfl, rfl⟩
set_option maxRecDepth 100000 in
theorem smS_ok : ∀ N, VSpecOk Try.prog 68 (smS N) := by
  intro N
  induction N with
  | zero =>
    intro lv ys e sz l xs rest v b C h hC
    unfold smS at h
    split at h
    rotate_left
    · cases h
    obtain ⟨rfl, rfl, rfl⟩ : _ ∧ _ ∧ _ := by simpa using h
    obtain ⟨_, _, _, _, _, _, _, _, h9, _⟩ := hC
    first | exact h9.elim | exact absurd h9 (Nat.not_lt_zero _)
  | succ N ih =>
    intro lv ys e sz l xs rest v b C h hC
    unfold smS at h
    split at h
    rotate_left
    · cases h
    rename_i a b most
    obtain ⟨rfl, rfl, rfl⟩ : _ ∧ _ ∧ _ := by simpa using h
    obtain ⟨h1, h2, h3, rfl, h5, h6, h7, h8, h9, _⟩ := hC
    obtain ⟨ps, rfl, rfl⟩ := even_flat h1
    obtain ⟨a, rfl⟩ := Int.eq_ofNat_of_zero_le h6.1
    obtain ⟨b, rfl⟩ := Int.eq_ofNat_of_zero_le (show 0 ≤ b by omega)
    rw [ptsA_flat] at h3 ⊢
    simp only [Int.toNat_natCast] at *
    refine ⟨rfl, ESmS N, 30, 12, withT_ok (mkEOk TSm2_ok R4_ok (fun _ _ _ => noL_good)) (consV_ok mixed (J := noJ) (failG_sound _) (entersB_res (by kernel_rfl)).1 ih), ?_⟩
    have r := sim_row N ps a b most xs h2 h3 (by omega) (by omega) (by omega) h8 (by omega)
    rw [List.length_append] at r
    exact r
def ESmT : Env := withT (mkE TSm3 R4 (fun _ => noL)) (JSm 100)
theorem ESmT_ok : EnvOk Try.prog ESmT := withT_ok (mkEOk TSm3_ok R4_ok (fun _ _ _ => noL_good)) (consV_ok mixed (J := noJ) (failG_sound _) (entersB_res (by kernel_rfl)).1 (smS_ok 100))
set_option maxRecDepth 100000 in
theorem tr_sSp (ps : List Pt) (most : Int) : bodyX Try.prog ESmT 30 12 35 [.row ps.length (.ints (flat ps)), .v (iv most)] = .need (ps.length * (2 : Nat) ≤ (List.drop (0 : Nat) (flat ps)).length) (.need (ps.length ≤ (1000000000 : Nat)) (brT (!pathB (ptsA ps.length (List.drop 0 (flat ps)))) (.fin (.slice none (0) (0)) [some ⟨.view, .ints (flat ps)⟩, none]) (brT (decide (0 ≤ most)) (brT (!decide (most ≤ 8000000)) (.fin (.slice none (0) (0)) [some ⟨.view, .ints (flat ps)⟩, none]) (.need ((flat ps).length = ps.length * (2 : Nat)) (.need (ps.length ≤ (20 : Nat)) (.need (allV (ptsA ps.length (flat ps)) = true) (.need ((1 : Nat) = (1 : Nat)) (.need ((1 : Nat) + (IntKind.i64.wrap ((↑ps.length : Int) - (1 : Int)) - (0 : Int)).toNat ≤ (1000 : Nat)) (.need ((0 : Int) ≤ (0 : Int) ∧ (0 : Int) < IntKind.i64.wrap ((↑ps.length : Int) - (1 : Int))) (.need (IntKind.i64.wrap ((↑ps.length : Int) - (1 : Int)) < (↑ps.length : Int)) (.need ((0 : Int) ≤ most ∧ most ≤ (8000000 : Int)) (.need ((IntKind.i64.wrap ((↑ps.length : Int) - (1 : Int))).toNat - (0 : Nat) < (100 : Nat)) (.fin (.slice (some ⟨3, 0, none⟩) (([0] ++ smL (ptsA ps.length (flat ps)) most 0 (IntKind.i64.wrap ((↑ps.length : Int) - 1)).toNat).length) (([0] ++ smL (ptsA ps.length (flat ps)) most 0 (IntKind.i64.wrap ((↑ps.length : Int) - 1)).toNat).length)) [some ⟨.view, .ints (flat ps)⟩, none, some deadB, some ⟨.row 3 1, .ints ([0] ++ smL (ptsA ps.length (flat ps)) most 0 (IntKind.i64.wrap ((↑ps.length : Int) - 1)).toNat)⟩]))))))))))) (.fin (.slice none (0) (0)) [some ⟨.view, .ints (flat ps)⟩, none])))) := by kernel_rfl
end Go.Proofs.Ytpjdnplpiamjcab
namespace Go.Proofs.Ytpjdnplpiamjcab
set_option linter.all false
open Go.RowKit
/-- What is kept behind a point when a stack is worked off, the top first. -/
def restR (ps : List Pt) (most : Int) : Nat → List Int → List Int
  | _, [] => []
  | a, t :: r => smL ps most a t.toNat ++ restR ps most t.toNat r
def lastA (ks : List Int) : Nat := kA ks (ks.length - 1)
/-- The kept points in the end. -/
def spO (ps : List Pt) (most : Int) (kp st : List Int) (j : Nat) : List Int := kp ++ restR ps most (lastA kp) (st.take j).reverse
/-- A stack that rises from its top on, behind a point. -/
def ascR (L : Nat) : Nat → List Int → Prop
  | a, [] => a ≤ L
  | a, t :: r => (a : Int) < t ∧ ascR L t.toNat r
theorem ascR_le {L : Nat} : ∀ {s : List Int} {a : Nat}, ascR L a s → a + s.length ≤ L
  | [], a, h => h
  | t :: r, a, h => by
    have := ascR_le h.2
    have := h.1
    rw [List.length_cons]
    omega
theorem top_take {st : List Int} {m : Nat} (h : m + 1 ≤ st.length) : (st.take (m + 1)).reverse = st.getD m 0 :: (st.take m).reverse := by
  rw [List.take_succ_eq_append_getElem (by omega), List.reverse_append, List.getD_eq_getElem?_getD, List.getElem?_eq_getElem (by omega)]
  rfl
noncomputable def c_iSy : Code := ((loopsOf (codeOf Try.f36))[0]?).getD .skip
def k_iSy : Ex → List Nat := keeps [0, 1, 5, 6, 7] [(0, [5])] [4]
def s_iSy (ps : List Pt) (most : Int) : (List Int) × (List Int) × Nat → St := fun (kp, st, j) => ⟨(.slice (some ⟨0, 0, none⟩) ps.length ps.length :: .int .i64 most :: topV :: topV :: topV :: .slice (some ⟨4, 0, none⟩) kp.length kp.length :: .slice (some ⟨5, 0, none⟩) j j :: .int .i64 j :: topV :: topV :: topV :: topV :: topV :: topV :: topV :: topV :: topV :: topV :: topV :: topV :: topV :: topV :: topV :: topV :: topV :: topV :: topV :: topV :: topV :: topV :: topV :: topV :: topV :: topV :: topV :: topV :: topV :: topV :: topV :: topV :: topV :: topV :: topV :: topV :: topV :: topV :: topV :: topV :: topV :: topV :: topV :: topV :: topV :: topV :: topV :: topV :: topV :: topV :: topV :: topV :: topV :: topV :: []), [some ⟨.view, .ints (flat ps)⟩, none, some ⟨.dead, .vals []⟩, some ⟨.dead, .vals []⟩, some ⟨.row 3 1, .ints kp⟩, some ⟨.row 3 1, .ints st⟩]⟩
def re_iSy : (List Int) × (List Int) × Nat → Ex := fun _ => .exit 0
def rs_iSy (ps : List Pt) (most : Int) : (List Int) × (List Int) × Nat → St := fun (kp, st, j) => ⟨(topV :: topV :: topV :: topV :: topV :: .slice (some ⟨4, 0, none⟩) (spO ps most kp st j).length (spO ps most kp st j).length :: topV :: topV :: topV :: topV :: topV :: topV :: topV :: topV :: topV :: topV :: topV :: topV :: topV :: topV :: topV :: topV :: topV :: topV :: topV :: topV :: topV :: topV :: topV :: topV :: topV :: topV :: topV :: topV :: topV :: topV :: topV :: topV :: topV :: topV :: topV :: topV :: topV :: topV :: topV :: topV :: topV :: topV :: topV :: topV :: topV :: topV :: topV :: topV :: topV :: topV :: topV :: topV :: topV :: topV :: topV :: topV :: []), [some ⟨.view, .ints (flat ps)⟩, none, some ⟨.dead, .vals []⟩, some ⟨.dead, .vals []⟩, some ⟨.row 3 1, .ints (spO ps most kp st j)⟩]⟩
set_option maxRecDepth 100000 in
theorem tr_iSy (ps : List Pt) (most : Int) (kp st : List Int) (j : Nat) : bodyL Try.prog ESm3 30 12 noL 1 c_iSy k_iSy 16 (s_iSy ps most (kp, st, j)) = brT (decide (0 < (↑j : Int))) (.need ((0 : Int) ≤ IntKind.i64.wrap ((↑kp.length : Int) - (1 : Int)) ∧ IntKind.i64.wrap ((↑kp.length : Int) - (1 : Int)) < (↑kp.length : Int)) (.need ((0 : Nat) + (IntKind.i64.wrap ((↑kp.length : Int) - (1 : Int))).toNat * (1 : Nat) < kp.length) (.need ((0 : Int) ≤ IntKind.i64.wrap ((↑j : Int) - (1 : Int)) ∧ IntKind.i64.wrap ((↑j : Int) - (1 : Int)) < (↑j : Int)) (.need ((0 : Nat) + (IntKind.i64.wrap ((↑j : Int) - (1 : Int))).toNat * (1 : Nat) < st.length) (.need (ps.length * (2 : Nat) ≤ (List.drop (0 : Nat) (flat ps)).length) (.need (ps.length ≤ (1000 : Nat)) (.need (allV (ptsA ps.length (List.drop (0 : Nat) (flat ps))) = true) (.need ((0 : Int) ≤ kp.getD ((0 : Nat) + (IntKind.i64.wrap ((↑kp.length : Int) - (1 : Int))).toNat * (1 : Nat)) (0 : Int) ∧ kp.getD ((0 : Nat) + (IntKind.i64.wrap ((↑kp.length : Int) - (1 : Int))).toNat * (1 : Nat)) (0 : Int) < st.getD ((0 : Nat) + (IntKind.i64.wrap ((↑j : Int) - (1 : Int))).toNat * (1 : Nat)) (0 : Int)) (.need (st.getD ((0 : Nat) + (IntKind.i64.wrap ((↑j : Int) - (1 : Int))).toNat * (1 : Nat)) (0 : Int) < (↑ps.length : Int)) (.need ((0 : Int) ≤ most ∧ most ≤ (8000000 : Int)) (brT (!stpB (ptsA ps.length (List.drop 0 (flat ps))) (kp.getD (0 + (IntKind.i64.wrap ((↑kp.length : Int) - 1)).toNat * 1) 0).toNat (st.getD (0 + (IntKind.i64.wrap ((↑j : Int) - 1)).toNat * 1) 0).toNat most) (.need ((j + (1 : Nat)) * (8 : Nat) ≤ (140737488355328 : Nat) ∧ j + (1 : Nat) ≤ (1000000 : Nat)) (.need ((0 : Nat) + j * (1 : Nat) ≤ st.length) (.leaf .normal ⟨(.slice (some ⟨0, 0, none⟩) (ps.length) (ps.length) :: .int .i64 (most) :: topV :: topV :: topV :: .slice (some ⟨4, 0, none⟩) (kp.length) (kp.length) :: .slice (some ⟨7, 0, none⟩) (j + 1) (j + 1) :: .int .i64 ((↑(j + 1) : Int)) :: topV :: topV :: topV :: topV :: topV :: topV :: topV :: topV :: topV :: topV :: topV :: topV :: topV :: topV :: topV :: topV :: topV :: topV :: topV :: topV :: topV :: topV :: topV :: topV :: topV :: topV :: topV :: topV :: topV :: topV :: topV :: topV :: topV :: topV :: topV :: topV :: topV :: topV :: topV :: topV :: topV :: topV :: topV :: topV :: topV :: topV :: topV :: topV :: topV :: topV :: topV :: topV :: topV :: topV :: []), [some ⟨.view, .ints (flat ps)⟩, none, some deadB, some deadB, some ⟨.row 3 1, .ints (kp)⟩, some deadB, some ⟨.row 3 1, .vals [.int .i64 (Bool.rec ((fun _ => (↑(wrK (ptsA ps.length (List.drop 0 (flat ps))) (kp.getD (0 + (IntKind.i64.wrap ((↑kp.length : Int) - 1)).toNat * (1 : Nat)) 0).toNat (st.getD (0 + (IntKind.i64.wrap ((↑j : Int) - 1)).toNat * (1 : Nat)) 0).toNat) : Int)) ()) ((fun _ => 0) ()) (stpB (ptsA ps.length (List.drop 0 (flat ps))) (kp.getD (0 + (IntKind.i64.wrap ((↑kp.length : Int) - 1)).toNat * (1 : Nat)) 0).toNat (st.getD (0 + (IntKind.i64.wrap ((↑j : Int) - 1)).toNat * (1 : Nat)) 0).toNat most))]⟩, some ⟨.row 3 1, .ints (List.take (j * 1) (List.drop 0 st) ++ [Bool.rec ((fun _ => (↑(wrK (ptsA ps.length (List.drop 0 (flat ps))) (kp.getD (0 + (IntKind.i64.wrap ((↑kp.length : Int) - 1)).toNat * (1 : Nat)) 0).toNat (st.getD (0 + (IntKind.i64.wrap ((↑j : Int) - 1)).toNat * (1 : Nat)) 0).toNat) : Int)) ()) ((fun _ => 0) ()) (stpB (ptsA ps.length (List.drop 0 (flat ps))) (kp.getD (0 + (IntKind.i64.wrap ((↑kp.length : Int) - 1)).toNat * (1 : Nat)) 0).toNat (st.getD (0 + (IntKind.i64.wrap ((↑j : Int) - 1)).toNat * (1 : Nat)) 0).toNat most)])⟩]⟩))) (.need ((kp.length + (1 : Nat)) * (8 : Nat) ≤ (140737488355328 : Nat) ∧ kp.length + (1 : Nat) ≤ (1000000 : Nat)) (.need ((0 : Nat) + kp.length * (1 : Nat) ≤ kp.length) (.need ((0 : Int) ≤ bndI none (0 : Int) ∧ bndI none (0 : Int) ≤ bndI (some (IntKind.i64, IntKind.i64.wrap ((↑j : Int) - (1 : Int)))) (↑j : Int) ∧ bndI (some (IntKind.i64, IntKind.i64.wrap ((↑j : Int) - (1 : Int)))) (↑j : Int) ≤ (↑j : Int)) (.leaf .normal ⟨(.slice (some ⟨0, 0, none⟩) (ps.length) (ps.length) :: .int .i64 (most) :: topV :: topV :: topV :: .slice (some ⟨7, 0, none⟩) (kp.length + 1) (kp.length + 1) :: .slice (some ⟨5, 0, none⟩) ((bndI (some (IntKind.i64, IntKind.i64.wrap ((↑j : Int) - 1))) (↑j : Int)).toNat - 0) ((bndI (some (IntKind.i64, IntKind.i64.wrap ((↑j : Int) - 1))) (↑j : Int)).toNat - 0) :: .int .i64 ((↑((bndI (some (IntKind.i64, IntKind.i64.wrap ((↑j : Int) - 1))) (↑j : Int)).toNat - 0) : Int)) :: topV :: topV :: topV :: topV :: topV :: topV :: topV :: topV :: topV :: topV :: topV :: topV :: topV :: topV :: topV :: topV :: topV :: topV :: topV :: topV :: topV :: topV :: topV :: topV :: topV :: topV :: topV :: topV :: topV :: topV :: topV :: topV :: topV :: topV :: topV :: topV :: topV :: topV :: topV :: topV :: topV :: topV :: topV :: topV :: topV :: topV :: topV :: topV :: topV :: topV :: topV :: topV :: topV :: topV :: []), [some ⟨.view, .ints (flat ps)⟩, none, some deadB, some deadB, some deadB, some ⟨.row 3 1, .ints (st)⟩, some ⟨.row 3 1, .vals [.int .i64 (st.getD (0 + (IntKind.i64.wrap ((↑j : Int) - 1)).toNat * 1) 0)]⟩, some ⟨.row 3 1, .ints (List.take (kp.length * 1) (List.drop 0 kp) ++ [st.getD (0 + (IntKind.i64.wrap ((↑j : Int) - 1)).toNat * 1) 0])⟩]⟩))))))))))))))) (.leaf (.exit 0) ⟨(topV :: topV :: topV :: topV :: topV :: .slice (some ⟨4, 0, none⟩) (kp.length) (kp.length) :: topV :: topV :: topV :: topV :: topV :: topV :: topV :: topV :: topV :: topV :: topV :: topV :: topV :: topV :: topV :: topV :: topV :: topV :: topV :: topV :: topV :: topV :: topV :: topV :: topV :: topV :: topV :: topV :: topV :: topV :: topV :: topV :: topV :: topV :: topV :: topV :: topV :: topV :: topV :: topV :: topV :: topV :: topV :: topV :: topV :: topV :: topV :: topV :: topV :: topV :: topV :: topV :: topV :: topV :: topV :: topV :: []), [some ⟨.view, .ints (flat ps)⟩, none, some deadB, some deadB, some ⟨.row 3 1, .ints (kp)⟩, some ⟨.row 3 1, .ints (st)⟩]⟩) := by kernel_rfl
set_option maxRecDepth 100000 in
theorem nl_iSy : loopsOf c_iSy = [] := by kernel_rfl
def inv_iSy (ps : List Pt) (most : Int) : (List Int) × (List Int) × Nat → Prop := fun (kp, st, j) => 1 ≤ kp.length ∧ kp.length ≤ lastA kp + 1 ∧ 0 ≤ kp.getD (kp.length - 1) 0 ∧ j ≤ st.length ∧ ascR (ps.length - 1) (lastA kp) (st.take j).reverse
def me_iSy (ps : List Pt) (most : Int) : (List Int) × (List Int) × Nat → Nat := fun (kp, st, j) => 2 * (ps.length - 1 - lastA kp) - j
/-- A round of this loop. -/
def Round_iSy (ps : List Pt) (most : Int) : Prop := ∀ xx : (List Int) × (List Int) × Nat, inv_iSy ps most xx → (bodyL Try.prog ESm3 30 12 noL 1 c_iSy k_iSy 16 (s_iSy ps most xx)).ok (RoundEnd 4 (s_iSy ps most) (inv_iSy ps most) (me_iSy ps most) re_iSy (rs_iSy ps most) xx) (fun _ _ => False)
def e_iSy (s : St) (k : Ex → St → Tree) : Option Tree := match Nat.beq s.tmps.length 62, pickL s.tmps [0, 1, 5, 6, 7], s.mem with
  | true, [.slice (some ⟨0, 0, none⟩) n _, .int .i64 most, .slice (some ⟨2, 0, none⟩) z _, .slice (some ⟨3, 0, none⟩) y _, .int .i64 ii], [some ⟨.view, .ints xs⟩, none, some ⟨.row 3 1, .vals [.int .i64 k0]⟩, some ⟨.row 3 1, .vals [.int .i64 t0]⟩] => some (needs [ii = 1, z = 1, y = 1, k0 = 0, xs.length = n * 2, n ≤ 20, allV (ptsA n xs) = true, 2 ≤ n, t0 = n - 1, 0 ≤ most ∧ most ≤ 8000000] (k (.exit 0) ⟨(topV :: topV :: topV :: topV :: topV :: .slice (some ⟨4, 0, none⟩) (spO (ptsA n xs) most [0] [t0] 1).length (spO (ptsA n xs) most [0] [t0] 1).length :: topV :: topV :: topV :: topV :: topV :: topV :: topV :: topV :: topV :: topV :: topV :: topV :: topV :: topV :: topV :: topV :: topV :: topV :: topV :: topV :: topV :: topV :: topV :: topV :: topV :: topV :: topV :: topV :: topV :: topV :: topV :: topV :: topV :: topV :: topV :: topV :: topV :: topV :: topV :: topV :: topV :: topV :: topV :: topV :: topV :: topV :: topV :: topV :: topV :: topV :: topV :: topV :: topV :: topV :: topV :: topV :: []), [some ⟨.view, .ints xs⟩, none, some ⟨.dead, .vals []⟩, some ⟨.dead, .vals []⟩, some ⟨.row 3 1, .ints (spO (ptsA n xs) most [0] [t0] 1)⟩]⟩))
  | _, _, _ => none
theorem lastA_snoc (kp : List Int) (t : Nat) : lastA (kp ++ [(t : Int)]) = t := by
  unfold lastA kA
  rw [List.length_append, List.length_cons, List.length_nil, Nat.zero_add, Nat.add_sub_cancel, List.getD_eq_getElem?_getD, List.getElem?_append_right (Nat.le_refl _), Nat.sub_self]
  rfl
theorem snoc_get (kp : List Int) (t : Int) : (kp ++ [t]).getD ((kp ++ [t]).length - 1) 0 = t := by
  rw [List.length_append, List.length_cons, List.length_nil, Nat.zero_add, Nat.add_sub_cancel, List.getD_eq_getElem?_getD, List.getElem?_append_right (Nat.le_refl _), Nat.sub_self]
  rfl
set_option maxRecDepth 100000 in
set_option maxHeartbeats 2000000 in
theorem round_iSy (ps : List Pt) (most : Int) (hl : ps.length ≤ 20) (hv : allV ps = true) (hm : 0 ≤ most ∧ most ≤ 8000000) : Round_iSy ps most := by
  rintro ⟨kp, st, j⟩ ⟨h1, h2, h3, h4, h5⟩
  rw [tr_iSy]
  have fl := flat_length ps
  have hle := ascR_le h5
  rw [List.length_reverse, List.length_take] at hle
  have hk : kp.getD (kp.length - 1) 0 = (lastA kp : Int) := (Int.toNat_of_nonneg h3).symm
  refine brT_ok.2 ⟨fun hlt => ?_, fun hge => ?_⟩
  · have hlt := of_decide_eq_true hlt
    obtain ⟨m, rfl⟩ : ∃ m, j = m + 1 := ⟨j - 1, by omega⟩
    have w1 : IntKind.i64.wrap ((kp.length : Int) - 1) = ((kp.length - 1 : Nat) : Int) := by rw [wr (by omega)]; omega
    have w2 : IntKind.i64.wrap (((m + 1 : Nat) : Int) - 1) = (m : Int) := by rw [wr (by omega)]; omega
    have tt := top_take h4
    rw [tt] at h5
    have h6 := h5.1
    have h7 := ascR_le h5.2
    rw [List.length_reverse, List.length_take] at h7
    obtain ⟨t, ht⟩ := Int.eq_ofNat_of_zero_le (show 0 ≤ st.getD m 0 by omega)
    have e0 : spO ps most kp st (m + 1) = kp ++ (smL ps most (lastA kp) t ++ restR ps most t (st.take m).reverse) := by
      unfold spO
      rw [tt, ht]
      rfl
    rw [ht] at h6 h7 h5
    rw [Int.toNat_natCast] at h7
    have h5 : (lastA kp : Int) < t ∧ ascR (ps.length - 1) t (st.take m).reverse := h5
    simp only [w1, w2, bnd_some, bnd_none, List.drop_zero, ptsA_flat, Int.toNat_natCast, Nat.zero_add, Nat.mul_one, Nat.sub_zero, List.take_length, hk, ht]
    simp only [Tree.ok]
    repeat (refine And.intro (by first | exact True.intro | assumption | omega) ?_)
    refine brT_ok.2 ⟨fun g => ?_, fun g => ?_⟩
    · have hs : stpB ps (lastA kp) t most = false := by simpa using g
      obtain ⟨k1, k2⟩ := stp_no (by omega) hs
      have e1 := smL_no (by omega) hs
      simp only [hs, Tree.ok]
      refine ⟨by omega, by omega, (kp, st.take (m + 1) ++ [((wrK ps (lastA kp) t : Nat) : Int)], m + 2), [some 4, some 7], ⟨h1, h2, h3, by simp; omega, ?_⟩, ?_, rfl, ?_, ?_⟩
      · rw [List.take_of_length_le (by simp; omega), List.reverse_append, tt, ht]
        exact ⟨by show (lastA kp : Int) < ((wrK ps (lastA kp) t : Nat) : Int); omega, by show (((wrK ps (lastA kp) t : Nat) : Int).toNat : Int) < t; omega, h5.2⟩
      · show 2 * (ps.length - 1 - lastA kp) - (m + 2) < 2 * (ps.length - 1 - lastA kp) - (m + 1)
        omega
      · have e2 : spO ps most kp (st.take (m + 1) ++ [((wrK ps (lastA kp) t : Nat) : Int)]) (m + 2) = spO ps most kp st (m + 1) := by
          rw [e0, e1, List.append_assoc]
          unfold spO
          rw [List.take_of_length_le (by simp; omega), List.reverse_append, tt, ht]
          rfl
        simp only [rs_iSy, e2]
      · repeat' (first | exact True.intro | exact rfl | exact fun _ => rfl | (simp; done) | refine And.intro ?_ ?_)
    · have hs : stpB ps (lastA kp) t most = true := by simpa using g
      have e1 := smL_yes hs
      simp only [Tree.ok]
      refine ⟨by omega, by omega, by omega, (kp ++ [(t : Int)], st, m), [some 7, some 5], ⟨by simp, ?_, ?_, by omega, ?_⟩, ?_, rfl, ?_, ?_⟩
      · rw [lastA_snoc, List.length_append]
        show kp.length + 1 ≤ t + 1
        omega
      · rw [snoc_get]
        omega
      · rw [lastA_snoc]
        exact h5.2
      · show 2 * (ps.length - 1 - lastA (kp ++ [(t : Int)])) - m < 2 * (ps.length - 1 - lastA kp) - (m + 1)
        rw [lastA_snoc]
        omega
      · have e2 : spO ps most (kp ++ [(t : Int)]) st m = spO ps most kp st (m + 1) := by
          rw [e0, e1]
          unfold spO
          rw [lastA_snoc, List.append_assoc]
        simp only [rs_iSy, e2]
      · repeat' (first | exact True.intro | exact rfl | exact fun _ => rfl | (simp; done) | refine And.intro ?_ ?_)
  · have hge := of_decide_eq_false hge
    obtain rfl : j = 0 := by omega
    have e : spO ps most kp st 0 = kp := by
      unfold spO
      rw [List.take_zero]
      exact List.append_nil kp
    refine ⟨rfl, [some 4], ?_⟩
    simp only [rs_iSy, e]
    repeat' (first | exact True.intro | exact rfl | exact fun _ => rfl | (simp; done) | refine And.intro ?_ ?_)
set_option maxRecDepth 100000 in
theorem lg_iSy : LoopE Try.prog e_iSy c_iSy := by
  intro s k t F H hlt ht
  unfold e_iSy at hlt
  split at hlt
  rotate_left
  · cases hlt
  rename_i hlen hpick hmem
  obtain ⟨tmps, mem⟩ := s
  simp only at hlen hpick hmem
  subst hmem
  obtain rfl := Option.some.inj hlt
  obtain ⟨⟨rfl, rfl, rfl, rfl, h1, h2, h3, h4, h5, h6, _⟩, ht2⟩ := needs_ok ht
  clear ht hlt
  obtain ⟨ps, rfl, rfl⟩ := even_flat h1
  rw [ptsA_flat] at ht2 h3
  subst h5
  refine ⟨_, _, ht2, loop_run2 mixed ESm3_ok (s_iSy ps _) (inv_iSy ps _) (me_iSy ps _) re_iSy (rs_iSy ps _) k_iSy (fun _ => rfl) (noLoops nl_iSy) (round_iSy ps _ h2 h3 h6) (x := ([0], [(ps.length : Int) - 1], 1)) ⟨Nat.le_refl _, Nat.le_refl _, Int.le_refl _, Nat.le_refl _, ⟨by show ((0 : Nat) : Int) < (ps.length : Int) - 1; omega, by show ((ps.length : Int) - 1).toNat ≤ ps.length - 1; omega⟩⟩ (π := [some 2, some 3]) rfl ?_⟩
  refine ⟨rfl, rfl, ?_, wvs_spread' [0, 1, 5, 6, 7] hlen rfl ?_⟩
  · repeat' (first | exact True.intro | exact rfl | exact wv_top _ _ | exact fun _ => rfl | assumption | exact Eq.symm (by assumption) | exact vI0 rfl | refine And.intro ?_ ?_)
  · rw [hpick]
    repeat' (first | exact True.intro | exact rfl | exact wv_top _ _ | exact fun _ => rfl | assumption | exact Eq.symm (by assumption) | exact vI0 rfl | refine And.intro ?_ ?_)
theorem Lr_iSy {fn : Func} (hf : Try.prog.funcs[36]? = some fn) : LoopsGood Try.prog (lt1 e_iSy) 0 (codeOf fn) := by
  obtain rfl := fn_is Try.func36 hf
  exact lt1_good lg_iSy
def LSmh : FuncId → LT := fun f => match f with
  | 36 => lt1 e_iSy
  | _ => noL
def ESm6 : Env := mkE TSm3 R4 LSmh
theorem ESm6_ok : EnvOk Try.prog ESm6 := mkEOk TSm3_ok R4_ok (by
  intro f fn hf
  unfold LSmh
  split
  all_goals first | with_reducible exact Lr_iSy hf | exact noL_good)
set_option maxRecDepth 100000 in
theorem tr_iSyF (ps : List Pt) (most : Int) : bodyX Try.prog ESm6 30 12 36 [.row ps.length (.ints (flat ps)), .v (iv most)] = .need (ps.length * (2 : Nat) ≤ (List.drop (0 : Nat) (flat ps)).length) (.need (ps.length ≤ (1000000000 : Nat)) (brT (!pathB (ptsA ps.length (List.drop 0 (flat ps)))) (.fin (.slice none (0) (0)) [some ⟨.view, .ints (flat ps)⟩, none]) (brT (decide (0 ≤ most)) (brT (!decide (most ≤ 8000000)) (.fin (.slice none (0) (0)) [some ⟨.view, .ints (flat ps)⟩, none]) (.need ((1 : Int) = (1 : Int)) (.need ((1 : Nat) = (1 : Nat)) (.need ((1 : Nat) = (1 : Nat)) (.need ((0 : Int) = (0 : Int)) (.need ((flat ps).length = ps.length * (2 : Nat)) (.need (ps.length ≤ (20 : Nat)) (.need (allV (ptsA ps.length (flat ps)) = true) (.need ((2 : Nat) ≤ ps.length) (.need (IntKind.i64.wrap ((↑ps.length : Int) - (1 : Int)) = (↑ps.length : Int) - (1 : Int)) (.need ((0 : Int) ≤ most ∧ most ≤ (8000000 : Int)) (.fin (.slice (some ⟨4, 0, none⟩) ((spO (ptsA ps.length (flat ps)) most [0] [IntKind.i64.wrap ((↑ps.length : Int) - 1)] 1).length) ((spO (ptsA ps.length (flat ps)) most [0] [IntKind.i64.wrap ((↑ps.length : Int) - 1)] 1).length)) [some ⟨.view, .ints (flat ps)⟩, none, some deadB, some deadB, some ⟨.row 3 1, .ints (spO (ptsA ps.length (flat ps)) most [0] [IntKind.i64.wrap ((↑ps.length : Int) - 1)] 1)⟩])))))))))))) (.fin (.slice none (0) (0)) [some ⟨.view, .ints (flat ps)⟩, none])))) := by kernel_rfl
/-- What SimplifyPath answers. -/
def skV (ps : List Pt) (most : Int) : List Int := bif pathB ps && (decide (0 ≤ most) && decide (most ≤ 8000000)) then [0] ++ smL ps most 0 (ps.length - 1) else []
abbrev rowSp (xs : List Int) : Value := .slice (some ⟨0, 0, none⟩) xs.length xs.length
theorem spO_is (ps : List Pt) (most : Int) (h : 2 ≤ ps.length) : spO ps most [0] [(ps.length : Int) - 1] 1 = [0] ++ smL ps most 0 (ps.length - 1) := by
  show [0] ++ (smL ps most 0 ((ps.length : Int) - 1).toNat ++ []) = _
  rw [List.append_nil, show ((ps.length : Int) - 1).toNat = ps.length - 1 by omega]
theorem resR_sSy (ps : List Pt) (most : Int) (h : Big ps) : ResR Try.prog 35 [.row ps.length (.ints (flat ps)), .v (iv most)] (rowSp (skV ps most)) ⟨.row 3 1, .ints (skV ps most)⟩ := by
  refine bodyX_resR mixed ESmT_ok (m := 30) (n := 12) rfl ?_
  rw [tr_sSp]
  unfold Big at h
  simp only [List.drop_zero, ptsA_flat, flat_length]
  unfold skV
  rcases hp : pathB ps with _ | _
  · exact ⟨Nat.le_refl _, h, none, ⟨rfl, rfl⟩, trivial⟩
  obtain ⟨⟨p1, p2⟩, p3, _⟩ := path_iff.1 hp
  by_cases g1 : 0 ≤ most
  rotate_left
  · rw [decide_eq_false g1]
    exact ⟨Nat.le_refl _, h, none, ⟨rfl, rfl⟩, trivial⟩
  by_cases g2 : most ≤ 8000000
  rotate_left
  · rw [decide_eq_true g1, decide_eq_false g2]
    exact ⟨Nat.le_refl _, h, none, ⟨rfl, rfl⟩, trivial⟩
  have w : IntKind.i64.wrap ((ps.length : Int) - 1) = ((ps.length - 1 : Nat) : Int) := by rw [wr (by omega)]; omega
  rw [decide_eq_true g1, decide_eq_true g2, w, Int.toNat_natCast]
  exact ⟨Nat.le_refl _, h, trivial, p2, p1, trivial, by omega, ⟨by omega, by omega⟩, by omega, ⟨g1, g2⟩, by omega, some 3, ⟨rfl, rfl, rfl⟩, rfl, rfl, rfl⟩
theorem resR_iSy (ps : List Pt) (most : Int) (h : Big ps) : ResR Try.prog 36 [.row ps.length (.ints (flat ps)), .v (iv most)] (rowSp (skV ps most)) ⟨.row 3 1, .ints (skV ps most)⟩ := by
  refine bodyX_resR mixed ESm6_ok (m := 30) (n := 12) rfl ?_
  rw [tr_iSyF]
  unfold Big at h
  simp only [List.drop_zero, ptsA_flat, flat_length]
  unfold skV
  rcases hp : pathB ps with _ | _
  · exact ⟨Nat.le_refl _, h, none, ⟨rfl, rfl⟩, trivial⟩
  obtain ⟨⟨p1, p2⟩, p3, _⟩ := path_iff.1 hp
  by_cases g1 : 0 ≤ most
  rotate_left
  · rw [decide_eq_false g1]
    exact ⟨Nat.le_refl _, h, none, ⟨rfl, rfl⟩, trivial⟩
  by_cases g2 : most ≤ 8000000
  rotate_left
  · rw [decide_eq_true g1, decide_eq_false g2]
    exact ⟨Nat.le_refl _, h, none, ⟨rfl, rfl⟩, trivial⟩
  have w : IntKind.i64.wrap ((ps.length : Int) - 1) = (ps.length : Int) - 1 := wr (by omega)
  rw [decide_eq_true g1, decide_eq_true g2, w, spO_is ps most p3]
  exact ⟨Nat.le_refl _, h, trivial, trivial, trivial, trivial, trivial, p2, p1, p3, rfl, ⟨g1, g2⟩, some 4, ⟨rfl, rfl, rfl⟩, rfl, rfl, rfl⟩
def RSy : TabR := fun f ds => match f, ds with
  | 35, [.row m (.ints xs), .v (.int .i64 most)] => some (rowSp (skV (ptsA m xs) most), ⟨.row 3 1, .ints (skV (ptsA m xs) most)⟩, [m * 2 ≤ xs.length, m ≤ 1000000000])
  | 36, [.row m (.ints xs), .v (.int .i64 most)] => some (rowSp (skV (ptsA m xs) most), ⟨.row 3 1, .ints (skV (ptsA m xs) most)⟩, [m * 2 ≤ xs.length, m ≤ 1000000000])
  | f, ds => R4 f ds
theorem RSy_ok : TabROk Try.prog RSy := by
  intro f ds v b C h hC
  unfold RSy at h
  split at h
  · obtain ⟨rfl, rfl, rfl⟩ : _ ∧ _ ∧ _ := by simpa using h
    obtain ⟨_, h2⟩ := ptsA_spec hC.1
    exact resR_pts1 (pre := []) (post := [_]) hC.1 (resR_sSy _ _ (by unfold Big; rw [h2]; exact hC.2.1))
  · obtain ⟨rfl, rfl, rfl⟩ : _ ∧ _ ∧ _ := by simpa using h
    obtain ⟨_, h2⟩ := ptsA_spec hC.1
    exact resR_pts1 (pre := []) (post := [_]) hC.1 (resR_iSy _ _ (by unfold Big; rw [h2]; exact hC.2.1))
  · exact R4_ok _ _ _ _ _ h hC
theorem skV_len (ps : List Pt) (most : Int) : (skV ps most).length ≤ 20 := by
  unfold skV
  rcases hk : (pathB ps && (decide (0 ≤ most) && decide (most ≤ 8000000))) with _ | _
  · exact Nat.zero_le _
  · rw [Bool.and_eq_true] at hk
    obtain ⟨⟨p1, p2⟩, p3, _⟩ := path_iff.1 hk.1
    have := smL_len (ps := ps) (most := most) (show 0 < ps.length - 1 by omega)
    simp only [cond_true, List.length_append, List.length_cons, List.length_nil]
    omega
end Go.Proofs.Ytpjdnplpiamjcab
namespace Go.Proofs.Ytpjdnplpiamjcab
set_option linter.all false
open Go.RowKit
def TSl : Tab := fun f ds => match f with
  | 23 => pHeldI ds
  | 19 => pEqI ds
  | f => TSm3 f ds
theorem TSl_ok : TabOk Try.prog TSl := by
  intro f ds v C h hC
  unfold TSl at h
  (try split at h)
  all_goals first | with_reducible exact pHeldI_ok h hC | with_reducible exact pEqI_ok h hC | exact TSm3_ok _ _ _ _ h hC
def ESl : Env := withT (mkE TSl RSy (fun _ => noL)) Jmk
theorem ESl_ok : EnvOk Try.prog ESl := withT_ok (mkEOk TSl_ok RSy_ok (fun _ _ _ => noL_good)) Jmk_ok
set_option maxRecDepth 100000 in
theorem tr_exSp (ps : List Pt) (most : Int) : bodyV Try.prog ESl 30 12 11 [.row ps.length (.ints (flat ps)), .v (iv most)] = brT (decide (IntKind.i64.wrap (1048576 - (↑ps.length : Int)) < 0)) (.fin (.bool (true)) []) (brT (decide (IntKind.i64.wrap (1048576 - (↑ps.length : Int)) < 0)) (.fin (.bool (true)) []) (.need (ps.length * (2 : Nat) ≤ (List.drop (0 : Nat) (flat ps)).length) (.need (ps.length ≤ (1000000000 : Nat)) (.need (ps.length * (2 : Nat) ≤ (List.drop (0 : Nat) (List.take (ps.length * (2 : Nat)) (List.drop (0 : Nat) (flat ps)))).length) (.need (ps.length ≤ (1000000000 : Nat)) (.need (ps.length * (2 : Nat) ≤ (List.drop (0 : Nat) (flat ps)).length) (.need (ps.length ≤ (1000000000 : Nat)) (.need (ps.length * (2 : Nat) ≤ (List.drop (0 : Nat) (List.take (ps.length * (2 : Nat)) (List.drop (0 : Nat) (flat ps)))).length) (.need (ps.length ≤ (1000000000 : Nat)) (.need ((skV (ptsA ps.length (List.drop (0 : Nat) (List.take (ps.length * (2 : Nat)) (List.drop (0 : Nat) (flat ps))))) most).length = (skV (ptsA ps.length (List.drop (0 : Nat) (List.take (ps.length * (2 : Nat)) (List.drop (0 : Nat) (flat ps))))) most).length) (.need (List.drop (0 : Nat) (skV (ptsA ps.length (List.drop (0 : Nat) (List.take (ps.length * (2 : Nat)) (List.drop (0 : Nat) (flat ps))))) most) = List.drop (0 : Nat) (skV (ptsA ps.length (List.drop (0 : Nat) (List.take (ps.length * (2 : Nat)) (List.drop (0 : Nat) (flat ps))))) most)) (.need ((skV (ptsA ps.length (List.drop (0 : Nat) (List.take (ps.length * (2 : Nat)) (List.drop (0 : Nat) (flat ps))))) most).length ≤ (List.drop (0 : Nat) (skV (ptsA ps.length (List.drop (0 : Nat) (List.take (ps.length * (2 : Nat)) (List.drop (0 : Nat) (flat ps))))) most)).length) (.need (Lim (skV (ptsA ps.length (List.drop (0 : Nat) (List.take (ps.length * (2 : Nat)) (List.drop (0 : Nat) (flat ps))))) most).length) (.need (ps.length * (2 : Nat) ≤ (List.drop (0 : Nat) (flat ps)).length) (.need (ps.length ≤ (1000000000 : Nat)) (.need (ps.length * (2 : Nat) ≤ (List.drop (0 : Nat) (List.take (ps.length * (2 : Nat)) (List.drop (0 : Nat) (flat ps)))).length) (.need (ps.length * (2 : Nat) ≤ (List.drop (0 : Nat) (List.take (ps.length * (2 : Nat)) (List.drop (0 : Nat) (flat ps)))).length) (.need (ps.length ≤ (1000000000 : Nat)) (brT (!eqL (ptsA ps.length (List.drop 0 (List.take (ps.length * 2) (List.drop 0 (flat ps))))) (ptsA ps.length (List.drop 0 (List.take (ps.length * 2) (List.drop 0 (flat ps)))))) (.fin (.bool (false)) []) (.need ((List.take (ps.length * (2 : Nat)) (List.drop (0 : Nat) (flat ps))).length = ps.length * (2 : Nat)) (.need (Lim ps.length) (.need ((0 : Int) ≤ (1 : Int) ∧ (1 : Int) ≤ (1000000000 : Int)) (.need ((skV (ptsA ps.length (List.drop (0 : Nat) (List.take (ps.length * (2 : Nat)) (List.drop (0 : Nat) (flat ps))))) most).length = (skV (ptsA ps.length (List.drop (0 : Nat) (List.take (ps.length * (2 : Nat)) (List.drop (0 : Nat) (flat ps))))) most).length) (.need (List.drop (0 : Nat) (skV (ptsA ps.length (List.drop (0 : Nat) (List.take (ps.length * (2 : Nat)) (List.drop (0 : Nat) (flat ps))))) most) = List.drop (0 : Nat) (skV (ptsA ps.length (List.drop (0 : Nat) (List.take (ps.length * (2 : Nat)) (List.drop (0 : Nat) (flat ps))))) most)) (.need ((skV (ptsA ps.length (List.drop (0 : Nat) (List.take (ps.length * (2 : Nat)) (List.drop (0 : Nat) (flat ps))))) most).length ≤ (List.drop (0 : Nat) (skV (ptsA ps.length (List.drop (0 : Nat) (List.take (ps.length * (2 : Nat)) (List.drop (0 : Nat) (flat ps))))) most)).length) (.need (Lim (skV (ptsA ps.length (List.drop (0 : Nat) (List.take (ps.length * (2 : Nat)) (List.drop (0 : Nat) (flat ps))))) most).length) (.need ((skV (ptsA ps.length (List.drop (0 : Nat) (List.take (ps.length * (2 : Nat)) (List.drop (0 : Nat) (flat ps))))) most).length = (skV (ptsA ps.length (List.drop (0 : Nat) (List.take (ps.length * (2 : Nat)) (List.drop (0 : Nat) (flat ps))))) most).length) (.need (Lim (skV (ptsA ps.length (List.drop (0 : Nat) (List.take (ps.length * (2 : Nat)) (List.drop (0 : Nat) (flat ps))))) most).length) (.need ((0 : Int) ≤ (1 : Int) ∧ (1 : Int) ≤ (1000000000 : Int)) (.need (Lim (skV (ptsA ps.length (List.drop (0 : Nat) (List.take (ps.length * (2 : Nat)) (List.drop (0 : Nat) (flat ps))))) most).length) (.need ((0 : Int) ≤ (1 : Int) ∧ (1 : Int) ≤ (1000000000 : Int)) (.need (List.drop (0 : Nat) (marks (1 : Int) (skV (ptsA ps.length (List.drop (0 : Nat) (List.take (ps.length * (2 : Nat)) (List.drop (0 : Nat) (flat ps))))) most).length) = marks (1 : Int) (skV (ptsA ps.length (List.drop (0 : Nat) (List.take (ps.length * (2 : Nat)) (List.drop (0 : Nat) (flat ps))))) most).length) (brT (!1 + (↑(skV (ptsA ps.length (List.drop 0 (List.take (ps.length * 2) (List.drop 0 (flat ps))))) most).length : Int) == 1 + (↑(skV (ptsA ps.length (List.drop 0 (List.take (ps.length * 2) (List.drop 0 (flat ps))))) most).length : Int)) (.fin (.bool (false)) []) (.need (ps.length * (2 : Nat) ≤ (List.drop (0 : Nat) (flat ps)).length) (.need (ps.length ≤ (1000000000 : Nat)) (.need (ps.length * (2 : Nat) ≤ (List.drop (0 : Nat) (List.take (ps.length * (2 : Nat)) (List.drop (0 : Nat) (flat ps)))).length) (.need (ps.length ≤ (1000000000 : Nat)) (.need ((skV (ptsA ps.length (List.drop (0 : Nat) (List.take (ps.length * (2 : Nat)) (List.drop (0 : Nat) (flat ps))))) most).length = (skV (ptsA ps.length (List.drop (0 : Nat) (List.take (ps.length * (2 : Nat)) (List.drop (0 : Nat) (flat ps))))) most).length) (.need (List.drop (0 : Nat) (skV (ptsA ps.length (List.drop (0 : Nat) (List.take (ps.length * (2 : Nat)) (List.drop (0 : Nat) (flat ps))))) most) = List.drop (0 : Nat) (skV (ptsA ps.length (List.drop (0 : Nat) (List.take (ps.length * (2 : Nat)) (List.drop (0 : Nat) (flat ps))))) most)) (.need ((skV (ptsA ps.length (List.drop (0 : Nat) (List.take (ps.length * (2 : Nat)) (List.drop (0 : Nat) (flat ps))))) most).length ≤ (List.drop (0 : Nat) (skV (ptsA ps.length (List.drop (0 : Nat) (List.take (ps.length * (2 : Nat)) (List.drop (0 : Nat) (flat ps))))) most)).length) (.need (Lim (skV (ptsA ps.length (List.drop (0 : Nat) (List.take (ps.length * (2 : Nat)) (List.drop (0 : Nat) (flat ps))))) most).length) (.need (Lim (skV (ptsA ps.length (List.drop (0 : Nat) (List.take (ps.length * (2 : Nat)) (List.drop (0 : Nat) (flat ps))))) most).length) (.need ((0 : Int) ≤ (1 : Int) ∧ (1 : Int) ≤ (1000000000 : Int)) (.need (List.drop (0 : Nat) (marks (1 : Int) (skV (ptsA ps.length (List.drop (0 : Nat) (List.take (ps.length * (2 : Nat)) (List.drop (0 : Nat) (flat ps))))) most).length) = marks (1 : Int) (skV (ptsA ps.length (List.drop (0 : Nat) (List.take (ps.length * (2 : Nat)) (List.drop (0 : Nat) (flat ps))))) most).length) (brT (!1 + (↑(skV (ptsA ps.length (List.drop 0 (List.take (ps.length * 2) (List.drop 0 (flat ps))))) most).length : Int) == 1 + (↑(skV (ptsA ps.length (List.drop 0 (List.take (ps.length * 2) (List.drop 0 (flat ps))))) most).length : Int)) (.fin (.bool (false)) []) (.fin (.bool (true)) [])))))))))))))))))))))))))))))))))))))))))))))) := by kernel_rfl
theorem ExactSimplifyPath_res (ps : List Pt) (most : Int) (h : (ps.length : Int) ≤ 9223372036854775807) : Res Try.prog 11 [.row ps.length (.ints (flat ps)), .v (iv most)] (.bool true) := by
  refine bodyV_res mixed ESl_ok (m := 30) (n := 12) rfl ?_
  rw [tr_exSp]
  simp only [List.drop_zero, flat_all, ptsA_flat, flat_length]
  by_cases hl : (1048576 : Int) - ps.length < 0
  · simp (disch := omega) only [wr]
    simp only [hl, decide_true, brT_t, Tree.ok]
  · have hV := skV_len ps most
    have hL : Lim (skV ps most).length := Nat.le_trans hV (by decide)
    have hP : Lim ps.length := by unfold Lim; omega
    generalize skV ps most = V at *
    have k1 : decide ((1 : Int) + V.length < 0) = false := decide_eq_false (by omega)
    have k2 : decide ((1 : Int) + (ps.length * 2 : Nat) < 0) = false := decide_eq_false (by omega)
    simp (disch := omega) only [wr]
    simp only [hl, decide_false, brT_f, Tree.ok, beq_self_eq_true, Bool.not_true, eqL, decide_true, k1, k2]
    repeat' (first | exact True.intro | assumption | omega | exact rfl | refine And.intro ?_ ?_)
end Go.Proofs.Ytpjdnplpiamjcab
