/-
  Texts that the proof needs, merged. Written by an AI agent.
-/
import Derived.Orders
import Derived.Below
import Derived.OrdersIn
import Derived.Deep.LoopGhost
import Derived.WalkKit
import Derived.Laws.CopyRow
import Derived.Laws.AppendOwn
import Derived.Laws.Slices
import Derived.Laws.MakeOwn
import Derived.Test.YtolodncpegajkabRows
import Derived.ProofKit
import Derived.OpenShut
import Derived.Carry
import Derived.IntWalk
import Derived.Test.YtolodncpegajkabProg
import Derived.WalkSpells
import Derived.WalkLawsBesides
import Derived.Lib.Hide
import Derived.Deep.QuietTactic
import Derived.BigQuiet
import Derived.KernelRfl
import Derived.Deep.RegionHeld3
import Derived.LoopTactic
import Derived.Laws.StructEq
import Derived.Laws.Tables
import Derived.RangeFuncNested
import Derived.RangeFuncLeaves
import Derived.Deep.Slices
import Derived.Deep.Fields
import Derived.ChangeSame
import Derived.Shelf.SlSortCmp.WholeK
import Derived.Deep.DeepCutAuto
import Derived.Sort.Grow
import Derived.Shelf.SlSortCmp.NoneTotal
import Derived.Test.YtolodncpegajkabZArrangementMore4
namespace Go.Proofs.Ytolodncpegajkab
set_option linter.all false
open Go.RowKit
/-- Small fractions. -/
def rtOk (o : List Pt) : Prop := ∀ p ∈ o, ratB p.1 p.2 = true ∧ -2000 ≤ p.1 ∧ p.1 ≤ 2000 ∧ p.2 ≤ 2000
/-- The point of a graph at a place. -/
def pQ (g p : Pt) : Q4 := (p.1, p.2, qN (g.1 * p.1 - g.2 * p.2) p.2, qD (g.1 * p.1 - g.2 * p.2) p.2)
theorem pQ_bd {g p : Pt} (h1 : -1000 ≤ g.1 ∧ g.1 ≤ 1000) (h2 : -1000 ≤ g.2 ∧ g.2 ≤ 1000) (hp : ratB p.1 p.2 = true ∧ -2000 ≤ p.1 ∧ p.1 ≤ 2000 ∧ p.2 ≤ 2000) : (-2000000 ≤ g.1 * p.1 ∧ g.1 * p.1 ≤ 2000000) ∧ (-2000000 ≤ g.2 * p.2 ∧ g.2 * p.2 ≤ 2000000) ∧ 1 ≤ p.2 ∧ okQ (pQ g p) = true := by
  have d := (ratB_true hp.1).2.2.1
  have m1 := mul_bd 1000 2000 h1 (show -2000 ≤ p.1 ∧ p.1 ≤ 2000 from ⟨hp.2.1, hp.2.2.1⟩)
  have m2 := mul_bd 1000 2000 h2 (show -2000 ≤ p.2 ∧ p.2 ≤ 2000 from ⟨by omega, hp.2.2.2⟩)
  refine ⟨by omega, by omega, d, ?_⟩
  unfold okQ pQ
  simp only
  rw [hp.1, q_rat3 (by omega) (by omega) (by omega)]
  rfl
theorem inQ_le (p : Q4) (ps : List Q4) : (inQ p ps).length ≤ ps.length + 1 := by
  rw [inQ_is]
  have := kQ_le p ps
  split
  · omega
  · simp only [List.length_append, List.length_take, List.length_cons, List.length_drop]
    omega
def aiL (g : Pt) (o : List Pt) (pts : List Q4) : Nat → List Q4
  | 0 => pts
  | k + 1 => inQ (pQ g (o.getD k (0, 0))) (aiL g o pts k)
theorem aiL_len (g : Pt) (o : List Pt) (pts : List Q4) : ∀ k, (aiL g o pts k).length ≤ pts.length + k
  | 0 => Nat.le_refl _
  | k + 1 => by
    have := aiL_len g o pts k
    have := inQ_le (pQ g (o.getD k (0, 0))) (aiL g o pts k)
    simp only [aiL]
    omega
theorem getD_mem2 {ps : List Pt} {j : Nat} (h : j < ps.length) : ps.getD j (0, 0) ∈ ps := by
  simp [List.getD, h]
theorem aiL_ok {g : Pt} {o : List Pt} {pts : List Q4} (h1 : -1000 ≤ g.1 ∧ g.1 ≤ 1000) (h2 : -1000 ≤ g.2 ∧ g.2 ≤ 1000) (ho : rtOk o) (hp : ∀ q ∈ pts, okQ q = true) : ∀ k, k ≤ o.length → ∀ q ∈ aiL g o pts k, okQ q = true
  | 0, _, q, h => hp q h
  | k + 1, hk, q, h => by
    simp only [aiL, inQ_mem] at h
    rcases h with h | rfl
    · exact aiL_ok h1 h2 ho hp k (by omega) q h
    · exact (pQ_bd h1 h2 (ho _ (getD_mem2 (by omega)))).2.2.2
theorem cxQ_ok {g h : Pt} (hg : (-1000 ≤ g.1 ∧ g.1 ≤ 1000) ∧ -1000 ≤ g.2 ∧ g.2 ≤ 1000) (hh : (-1000 ≤ h.1 ∧ h.1 ≤ 1000) ∧ -1000 ≤ h.2 ∧ h.2 ≤ 1000) (hne : h.1 ≠ g.1) : ratB (cxQ g h).1 (cxQ g h).2 = true ∧ -2000 ≤ (cxQ g h).1 ∧ (cxQ g h).1 ≤ 2000 ∧ (cxQ g h).2 ≤ 2000 := by
  unfold cxQ
  have b1 := qN_bd (num := h.2 - g.2) (den := h.1 - g.1) (M := 2000) (by omega)
  have b2 := qD_bd (num := h.2 - g.2) (den := h.1 - g.1) (M := 2000) (by omega)
  exact ⟨q_rat3 (by omega) (by omega) (by omega), b1.1, b1.2, b2.2⟩
theorem crL_ok {gs : List Pt} {g : Pt} (hv : allV gs = true) (hg : (-1000 ≤ g.1 ∧ g.1 ≤ 1000) ∧ -1000 ≤ g.2 ∧ g.2 ≤ 1000) : ∀ k, rtOk (crL gs g k)
  | 0 => fun p h => by simp [crL] at h
  | k + 1 => fun p h => by
    have ih := crL_ok hv hg k
    simp only [crL, crO] at h
    rcases q : (gs.getD k (0, 0)).1 == g.1 with _ | _
    · rw [q, cond_false] at h
      rcases q2 : hasC (crL gs g k) (cxQ g (gs.getD k (0, 0))).1 (cxQ g (gs.getD k (0, 0))).2 with _ | _
      · rw [q2, cond_false, List.mem_append, List.mem_singleton] at h
        rcases h with h | rfl
        · exact ih p h
        · obtain ⟨v1, v2, v3, v4⟩ := allV_get hv k
          exact cxQ_ok hg ⟨⟨v1, v2⟩, v3, v4⟩ (beq_eq_false_iff_ne.1 q)
      · rw [q2, cond_true] at h
        exact ih p h
    · rw [q, cond_true] at h
      exact ih p h
def JAq : TabJ := consR 80 (owG adqS) noJ
theorem JAq_ok : GSound Try.prog JAq.g := consO_ok mixed (failG_sound _) (entersB_res (by kernel_rfl)).1 adqS_ok
def EArs : Env := withT (mkE TAl RCrs (fun _ => noL)) JAq
theorem EArs_ok : EnvOk Try.prog EArs := withT_ok (mkEOk TAl_ok RCrs_ok (fun _ _ _ => noL_good)) JAq_ok
noncomputable def c_ari : Code := ((loopsOf (codeOf Try.f34))[1]?).getD .skip
def k_ari : Ex → List Nat := keeps [0, 5, 6, 7, 8, 9] [(2, [0, 5, 6, 7]), (1, [0, 5, 6, 7]), (0, [5, 6])] [2, 3, 4]
def s_ari (gs o : List Pt) (pts : List Q4) (i : Nat) (e : Int) : Nat → St := fun n => ⟨(.slice (some ⟨0, 0, none⟩) gs.length gs.length :: topV :: topV :: topV :: topV :: .slice (some ⟨4, 0, none⟩) (aiL (gs.getD i (0, 0)) o pts n).length (aiL (gs.getD i (0, 0)) o pts n).length :: .int .i64 e :: .int .i64 i :: .slice (some ⟨3, 0, none⟩) o.length o.length :: .int .i64 n :: topV :: topV :: topV :: topV :: topV :: topV :: topV :: topV :: topV :: topV :: topV :: topV :: topV :: topV :: topV :: topV :: topV :: topV :: topV :: topV :: topV :: topV :: topV :: topV :: topV :: topV :: topV :: topV :: topV :: topV :: topV :: topV :: topV :: topV :: topV :: topV :: topV :: topV :: topV :: topV :: topV :: topV :: topV :: topV :: topV :: topV :: topV :: topV :: topV :: topV :: topV :: topV :: topV :: topV :: topV :: topV :: topV :: topV :: topV :: topV :: topV :: topV :: topV :: topV :: topV :: topV :: topV :: topV :: []), [some ⟨.view, .ints (flat gs)⟩, some ⟨.dead, .vals []⟩, some ⟨.dead, .vals []⟩, some ⟨.row 97 2, .ints (flat o)⟩, some ⟨.row 100 4, .ints (fl4 (aiL (gs.getD i (0, 0)) o pts n))⟩]⟩
def re_ari : Nat → Ex := fun _ => .exit 2
def rs_ari (gs o : List Pt) (pts : List Q4) (i : Nat) (e : Int) : Nat → St := fun n => ⟨(.slice (some ⟨0, 0, none⟩) gs.length gs.length :: topV :: topV :: topV :: topV :: .slice (some ⟨4, 0, none⟩) (aiL (gs.getD i (0, 0)) o pts o.length).length (aiL (gs.getD i (0, 0)) o pts o.length).length :: .int .i64 e :: .int .i64 i :: topV :: topV :: topV :: topV :: topV :: topV :: topV :: topV :: topV :: topV :: topV :: topV :: topV :: topV :: topV :: topV :: topV :: topV :: topV :: topV :: topV :: topV :: topV :: topV :: topV :: topV :: topV :: topV :: topV :: topV :: topV :: topV :: topV :: topV :: topV :: topV :: topV :: topV :: topV :: topV :: topV :: topV :: topV :: topV :: topV :: topV :: topV :: topV :: topV :: topV :: topV :: topV :: topV :: topV :: topV :: topV :: topV :: topV :: topV :: topV :: topV :: topV :: topV :: topV :: topV :: topV :: topV :: topV :: topV :: topV :: []), [some ⟨.view, .ints (flat gs)⟩, some ⟨.dead, .vals []⟩, some ⟨.dead, .vals []⟩, some ⟨.row 97 2, .ints (flat o)⟩, some ⟨.row 100 4, .ints (fl4 (aiL (gs.getD i (0, 0)) o pts o.length))⟩]⟩
set_option maxRecDepth 100000 in
theorem tr_ari (gs o : List Pt) (pts : List Q4) (i : Nat) (e : Int) (n : Nat) : bodyL Try.prog EArs 30 12 noL 2 c_ari k_ari 16 (s_ari gs o pts i e n) = brT (decide ((↑n : Int) < (↑o.length : Int))) (.need (big (IntKind.i64.wrap (IntKind.i64.wrap ((flat gs).getD ((0 : Nat) + (↑i : Int).toNat * (2 : Nat) + (0 : Nat)) (0 : Int) * (flat o).getD ((0 : Nat) + (↑n : Int).toNat * (2 : Nat) + (0 : Nat)) (0 : Int)) - IntKind.i64.wrap ((flat gs).getD ((0 : Nat) + (↑i : Int).toNat * (2 : Nat) + (1 : Nat)) (0 : Int) * (flat o).getD ((0 : Nat) + (↑n : Int).toNat * (2 : Nat) + (1 : Nat)) (0 : Int))))) (.need (big ((flat o).getD ((0 : Nat) + (↑n : Int).toNat * (2 : Nat) + (1 : Nat)) (0 : Int))) (.need (¬(flat o).getD ((0 : Nat) + (↑n : Int).toNat * (2 : Nat) + (1 : Nat)) (0 : Int) = (0 : Int)) (.need ((0 : Int) ≤ (↑n : Int) ∧ (↑n : Int) < (↑o.length : Int)) (.need ((0 : Nat) + (↑n : Int).toNat * (2 : Nat) + (2 : Nat) ≤ (flat o).length) (.need ((0 : Int) ≤ (↑i : Int) ∧ (↑i : Int) < (↑gs.length : Int)) (.need ((0 : Nat) + (↑i : Int).toNat * (2 : Nat) + (0 : Nat) < (flat gs).length) (.need ((0 : Int) ≤ (↑n : Int) ∧ (↑n : Int) < (↑o.length : Int)) (.need ((0 : Nat) + (↑n : Int).toNat * (2 : Nat) + (0 : Nat) < (flat o).length) (.need ((0 : Int) ≤ (↑i : Int) ∧ (↑i : Int) < (↑gs.length : Int)) (.need ((0 : Nat) + (↑i : Int).toNat * (2 : Nat) + (1 : Nat) < (flat gs).length) (.need ((0 : Int) ≤ (↑n : Int) ∧ (↑n : Int) < (↑o.length : Int)) (.need ((0 : Nat) + (↑n : Int).toNat * (2 : Nat) + (1 : Nat) < (flat o).length) (.need ((0 : Int) ≤ (↑n : Int) ∧ (↑n : Int) < (↑o.length : Int)) (.need ((0 : Nat) + (↑n : Int).toNat * (2 : Nat) + (1 : Nat) < (flat o).length) (.need ((fl4 (aiL (gs.getD i ((0 : Int), (0 : Int))) o pts n)).length = (aiL (gs.getD i ((0 : Int), (0 : Int))) o pts n).length * (4 : Nat)) (.need ((aiL (gs.getD i ((0 : Int), (0 : Int))) o pts n).length ≤ (1000 : Nat)) (.need (allV4 (aiL (gs.getD i ((0 : Int), (0 : Int))) o pts n).length (fl4 (aiL (gs.getD i ((0 : Int), (0 : Int))) o pts n))) (.need (okB ((flat o).getD ((0 : Nat) + (↑n : Int).toNat * (2 : Nat)) (0 : Int)) ((flat o).getD ((0 : Nat) + (↑n : Int).toNat * (2 : Nat) + (1 : Nat)) (0 : Int)) (qN (IntKind.i64.wrap (IntKind.i64.wrap ((flat gs).getD ((0 : Nat) + (↑i : Int).toNat * (2 : Nat) + (0 : Nat)) (0 : Int) * (flat o).getD ((0 : Nat) + (↑n : Int).toNat * (2 : Nat) + (0 : Nat)) (0 : Int)) - IntKind.i64.wrap ((flat gs).getD ((0 : Nat) + (↑i : Int).toNat * (2 : Nat) + (1 : Nat)) (0 : Int) * (flat o).getD ((0 : Nat) + (↑n : Int).toNat * (2 : Nat) + (1 : Nat)) (0 : Int)))) ((flat o).getD ((0 : Nat) + (↑n : Int).toNat * (2 : Nat) + (1 : Nat)) (0 : Int))) (qD (IntKind.i64.wrap (IntKind.i64.wrap ((flat gs).getD ((0 : Nat) + (↑i : Int).toNat * (2 : Nat) + (0 : Nat)) (0 : Int) * (flat o).getD ((0 : Nat) + (↑n : Int).toNat * (2 : Nat) + (0 : Nat)) (0 : Int)) - IntKind.i64.wrap ((flat gs).getD ((0 : Nat) + (↑i : Int).toNat * (2 : Nat) + (1 : Nat)) (0 : Int) * (flat o).getD ((0 : Nat) + (↑n : Int).toNat * (2 : Nat) + (1 : Nat)) (0 : Int)))) ((flat o).getD ((0 : Nat) + (↑n : Int).toNat * (2 : Nat) + (1 : Nat)) (0 : Int))) = true) (.leaf .normal ⟨(.slice (some ⟨0, 0, none⟩) (gs.length) (gs.length) :: topV :: topV :: topV :: topV :: .slice (some ⟨6, 0, none⟩) ((inQ ((flat o).getD (0 + (↑n : Int).toNat * (2 : Nat)) 0, (flat o).getD (0 + (↑n : Int).toNat * (2 : Nat) + 1) 0, qN (IntKind.i64.wrap (IntKind.i64.wrap ((flat gs).getD (0 + (↑i : Int).toNat * (2 : Nat) + (0 : Nat)) 0 * (flat o).getD (0 + (↑n : Int).toNat * (2 : Nat) + (0 : Nat)) 0) - IntKind.i64.wrap ((flat gs).getD (0 + (↑i : Int).toNat * (2 : Nat) + (1 : Nat)) 0 * (flat o).getD (0 + (↑n : Int).toNat * (2 : Nat) + (1 : Nat)) 0))) ((flat o).getD (0 + (↑n : Int).toNat * (2 : Nat) + (1 : Nat)) 0), qD (IntKind.i64.wrap (IntKind.i64.wrap ((flat gs).getD (0 + (↑i : Int).toNat * (2 : Nat) + (0 : Nat)) 0 * (flat o).getD (0 + (↑n : Int).toNat * (2 : Nat) + (0 : Nat)) 0) - IntKind.i64.wrap ((flat gs).getD (0 + (↑i : Int).toNat * (2 : Nat) + (1 : Nat)) 0 * (flat o).getD (0 + (↑n : Int).toNat * (2 : Nat) + (1 : Nat)) 0))) ((flat o).getD (0 + (↑n : Int).toNat * (2 : Nat) + (1 : Nat)) 0)) (q4A (aiL (gs.getD i (0, 0)) o pts n).length (fl4 (aiL (gs.getD i (0, 0)) o pts n)))).length) ((inQ ((flat o).getD (0 + (↑n : Int).toNat * (2 : Nat)) 0, (flat o).getD (0 + (↑n : Int).toNat * (2 : Nat) + 1) 0, qN (IntKind.i64.wrap (IntKind.i64.wrap ((flat gs).getD (0 + (↑i : Int).toNat * (2 : Nat) + (0 : Nat)) 0 * (flat o).getD (0 + (↑n : Int).toNat * (2 : Nat) + (0 : Nat)) 0) - IntKind.i64.wrap ((flat gs).getD (0 + (↑i : Int).toNat * (2 : Nat) + (1 : Nat)) 0 * (flat o).getD (0 + (↑n : Int).toNat * (2 : Nat) + (1 : Nat)) 0))) ((flat o).getD (0 + (↑n : Int).toNat * (2 : Nat) + (1 : Nat)) 0), qD (IntKind.i64.wrap (IntKind.i64.wrap ((flat gs).getD (0 + (↑i : Int).toNat * (2 : Nat) + (0 : Nat)) 0 * (flat o).getD (0 + (↑n : Int).toNat * (2 : Nat) + (0 : Nat)) 0) - IntKind.i64.wrap ((flat gs).getD (0 + (↑i : Int).toNat * (2 : Nat) + (1 : Nat)) 0 * (flat o).getD (0 + (↑n : Int).toNat * (2 : Nat) + (1 : Nat)) 0))) ((flat o).getD (0 + (↑n : Int).toNat * (2 : Nat) + (1 : Nat)) 0)) (q4A (aiL (gs.getD i (0, 0)) o pts n).length (fl4 (aiL (gs.getD i (0, 0)) o pts n)))).length) :: .int .i64 (e) :: .int .i64 ((↑i : Int)) :: .slice (some ⟨3, 0, none⟩) (o.length) (o.length) :: .int .i64 (IntKind.i64.wrap ((↑n : Int) + 1)) :: topV :: topV :: topV :: topV :: topV :: topV :: topV :: topV :: topV :: topV :: topV :: topV :: topV :: topV :: topV :: topV :: topV :: topV :: topV :: topV :: topV :: topV :: topV :: topV :: topV :: topV :: topV :: topV :: topV :: topV :: topV :: topV :: topV :: topV :: topV :: topV :: topV :: topV :: topV :: topV :: topV :: topV :: topV :: topV :: topV :: topV :: topV :: topV :: topV :: topV :: topV :: topV :: topV :: topV :: topV :: topV :: topV :: topV :: topV :: topV :: topV :: topV :: topV :: topV :: topV :: topV :: topV :: topV :: []), [some ⟨.view, .ints (flat gs)⟩, some deadB, some deadB, some ⟨.row 97 2, .ints (flat o)⟩, some deadB, none, some ⟨.row 100 4, .ints (fl4 (inQ ((flat o).getD (0 + (↑n : Int).toNat * (2 : Nat)) 0, (flat o).getD (0 + (↑n : Int).toNat * (2 : Nat) + 1) 0, qN (IntKind.i64.wrap (IntKind.i64.wrap ((flat gs).getD (0 + (↑i : Int).toNat * (2 : Nat) + (0 : Nat)) 0 * (flat o).getD (0 + (↑n : Int).toNat * (2 : Nat) + (0 : Nat)) 0) - IntKind.i64.wrap ((flat gs).getD (0 + (↑i : Int).toNat * (2 : Nat) + (1 : Nat)) 0 * (flat o).getD (0 + (↑n : Int).toNat * (2 : Nat) + (1 : Nat)) 0))) ((flat o).getD (0 + (↑n : Int).toNat * (2 : Nat) + (1 : Nat)) 0), qD (IntKind.i64.wrap (IntKind.i64.wrap ((flat gs).getD (0 + (↑i : Int).toNat * (2 : Nat) + (0 : Nat)) 0 * (flat o).getD (0 + (↑n : Int).toNat * (2 : Nat) + (0 : Nat)) 0) - IntKind.i64.wrap ((flat gs).getD (0 + (↑i : Int).toNat * (2 : Nat) + (1 : Nat)) 0 * (flat o).getD (0 + (↑n : Int).toNat * (2 : Nat) + (1 : Nat)) 0))) ((flat o).getD (0 + (↑n : Int).toNat * (2 : Nat) + (1 : Nat)) 0)) (q4A (aiL (gs.getD i (0, 0)) o pts n).length (fl4 (aiL (gs.getD i (0, 0)) o pts n)))))⟩]⟩)))))))))))))))))))) (.leaf (.exit 2) ⟨(.slice (some ⟨0, 0, none⟩) (gs.length) (gs.length) :: topV :: topV :: topV :: topV :: .slice (some ⟨4, 0, none⟩) ((aiL (gs.getD i (0, 0)) o pts n).length) ((aiL (gs.getD i (0, 0)) o pts n).length) :: .int .i64 (e) :: .int .i64 ((↑i : Int)) :: topV :: topV :: topV :: topV :: topV :: topV :: topV :: topV :: topV :: topV :: topV :: topV :: topV :: topV :: topV :: topV :: topV :: topV :: topV :: topV :: topV :: topV :: topV :: topV :: topV :: topV :: topV :: topV :: topV :: topV :: topV :: topV :: topV :: topV :: topV :: topV :: topV :: topV :: topV :: topV :: topV :: topV :: topV :: topV :: topV :: topV :: topV :: topV :: topV :: topV :: topV :: topV :: topV :: topV :: topV :: topV :: topV :: topV :: topV :: topV :: topV :: topV :: topV :: topV :: topV :: topV :: topV :: topV :: topV :: topV :: []), [some ⟨.view, .ints (flat gs)⟩, some deadB, some deadB, some ⟨.row 97 2, .ints (flat o)⟩, some ⟨.row 100 4, .ints (fl4 (aiL (gs.getD i (0, 0)) o pts n))⟩]⟩) := by kernel_rfl
set_option maxRecDepth 100000 in
theorem nl_ari : loopsOf c_ari = [] := by kernel_rfl
def inv_ari (gs o : List Pt) (pts : List Q4) (i : Nat) (e : Int) : Nat → Prop := fun n => n ≤ o.length
def me_ari (gs o : List Pt) (pts : List Q4) (i : Nat) (e : Int) : Nat → Nat := fun n => o.length - n
/-- A round of this loop. -/
def Round_ari (gs o : List Pt) (pts : List Q4) (i : Nat) (e : Int) : Prop := ∀ xx : Nat, inv_ari gs o pts i e xx → (bodyL Try.prog EArs 30 12 noL 2 c_ari k_ari 16 (s_ari gs o pts i e xx)).ok (RoundEnd 4 (s_ari gs o pts i e) (inv_ari gs o pts i e) (me_ari gs o pts i e) re_ari (rs_ari gs o pts i e) xx) (fun _ _ => False)
def e_ari (s : St) (k : Ex → St → Tree) : Option Tree := match Nat.beq s.tmps.length 78, pickL s.tmps [0, 5, 6, 7, 8, 9], s.mem with
  | true, [.slice (some ⟨0, 0, none⟩) m _, .slice (some ⟨2, 0, none⟩) y _, .int .i64 e, .int .i64 i, .slice (some ⟨3, 0, none⟩) z _, .int .i64 k0], [some ⟨.view, .ints xs⟩, some ⟨.dead, .vals []⟩, some ⟨.row 100 4, .ints zs⟩, some ⟨.row 97 2, .ints ys⟩] => some (needs [k0 = 0, xs.length = m * 2, ys.length = z * 2, zs.length = y * 4, m ≤ 8, z ≤ 8, y ≤ 100, allV4 y zs, allV (ptsA m xs) = true, 0 ≤ i ∧ i < m, rtOk (ptsA z ys)] (k (.exit 2) ⟨(.slice (some ⟨0, 0, none⟩) m m :: topV :: topV :: topV :: topV :: .slice (some ⟨4, 0, none⟩) (aiL ((ptsA m xs).getD i.toNat (0, 0)) (ptsA z ys) (q4A y zs) z).length (aiL ((ptsA m xs).getD i.toNat (0, 0)) (ptsA z ys) (q4A y zs) z).length :: .int .i64 e :: .int .i64 i :: topV :: topV :: topV :: topV :: topV :: topV :: topV :: topV :: topV :: topV :: topV :: topV :: topV :: topV :: topV :: topV :: topV :: topV :: topV :: topV :: topV :: topV :: topV :: topV :: topV :: topV :: topV :: topV :: topV :: topV :: topV :: topV :: topV :: topV :: topV :: topV :: topV :: topV :: topV :: topV :: topV :: topV :: topV :: topV :: topV :: topV :: topV :: topV :: topV :: topV :: topV :: topV :: topV :: topV :: topV :: topV :: topV :: topV :: topV :: topV :: topV :: topV :: topV :: topV :: topV :: topV :: topV :: topV :: topV :: topV :: []), [some ⟨.view, .ints xs⟩, some ⟨.dead, .vals []⟩, some ⟨.dead, .vals []⟩, some ⟨.row 97 2, .ints ys⟩, some ⟨.row 100 4, .ints (fl4 (aiL ((ptsA m xs).getD i.toNat (0, 0)) (ptsA z ys) (q4A y zs) z))⟩]⟩))
  | _, _, _ => none
set_option maxRecDepth 100000 in
set_option maxHeartbeats 4000000 in
theorem round_ari (gs o : List Pt) (pts : List Q4) (i : Nat) (e : Int) (h4 : gs.length ≤ 8) (h5 : o.length ≤ 8) (h6 : pts.length ≤ 100) (h7 : ∀ q ∈ pts, okQ q = true) (hv : allV gs = true) (hi : i < gs.length) (ho : rtOk o) : Round_ari gs o pts i e := by
  intro n h1
  have h1 : n ≤ o.length := h1
  rw [tr_ari]
  have fg := flat_length gs
  have fo := flat_length o
  obtain ⟨v1, v2, v3, v4⟩ := allV_get hv i
  have al := aiL_len (gs.getD i (0, 0)) o pts n
  have ao := aiL_ok ⟨v1, v2⟩ ⟨v3, v4⟩ ho h7 n h1
  have f4 := fl4_length (aiL (gs.getD i (0, 0)) o pts n)
  refine brT_ok.2 ⟨fun hlt => ?_, fun hge => ?_⟩
  · have hn : n < o.length := by have := of_decide_eq_true hlt; omega
    obtain ⟨p1, p2, p3, p4⟩ := pQ_bd ⟨v1, v2⟩ ⟨v3, v4⟩ (ho _ (getD_mem2 hn))
    have hb := ho _ (getD_mem2 hn)
    have es : aiL (gs.getD i (0, 0)) o pts (n + 1) = inQ (pQ (gs.getD i (0, 0)) (o.getD n (0, 0))) (aiL (gs.getD i (0, 0)) o pts n) := rfl
    have w1 : IntKind.i64.wrap ((gs.getD i (0, 0)).1 * (o.getD n (0, 0)).1) = (gs.getD i (0, 0)).1 * (o.getD n (0, 0)).1 := wr (by omega)
    have w2 : IntKind.i64.wrap ((gs.getD i (0, 0)).2 * (o.getD n (0, 0)).2) = (gs.getD i (0, 0)).2 * (o.getD n (0, 0)).2 := wr (by omega)
    have w3 : IntKind.i64.wrap ((gs.getD i (0, 0)).1 * (o.getD n (0, 0)).1 - (gs.getD i (0, 0)).2 * (o.getD n (0, 0)).2) = (gs.getD i (0, 0)).1 * (o.getD n (0, 0)).1 - (gs.getD i (0, 0)).2 * (o.getD n (0, 0)).2 := wr (by omega)
    have eq : ((o.getD n (0, 0)).1, (o.getD n (0, 0)).2, qN ((gs.getD i (0, 0)).1 * (o.getD n (0, 0)).1 - (gs.getD i (0, 0)).2 * (o.getD n (0, 0)).2) (o.getD n (0, 0)).2, qD ((gs.getD i (0, 0)).1 * (o.getD n (0, 0)).1 - (gs.getD i (0, 0)).2 * (o.getD n (0, 0)).2) (o.getD n (0, 0)).2) = pQ (gs.getD i (0, 0)) (o.getD n (0, 0)) := rfl
    rw [wsucc (n := o.length) hn (by omega)]
    simp only [Int.toNat_natCast, Nat.zero_add, Nat.add_zero, flat_get0, flat_get1, w1, w2, w3, eq, q4A_fl4, ← es]
    refine ⟨by unfold big; omega, by unfold big; omega, by omega, by omega, by omega, by omega, by omega, by omega, by omega, by omega, by omega, by omega, by omega, by omega, by omega, f4, by omega, by unfold allV4; rw [q4A_fl4]; exact ao, p4, n + 1, [some 6], by show n + 1 ≤ o.length; omega, ?_, rfl, by simp only [rs_ari], ?_⟩
    · show o.length - (n + 1) < o.length - n; omega
    · repeat' (first | exact True.intro | exact rfl | exact fun _ => rfl | (simp; done) | refine And.intro ?_ ?_)
  · have hge := of_decide_eq_false hge
    obtain rfl : n = o.length := by omega
    refine ⟨rfl, [some 4], ?_⟩
    repeat' (first | exact True.intro | exact rfl | exact fun _ => rfl | (simp; done) | refine And.intro ?_ ?_)
set_option maxRecDepth 100000 in
theorem lg_ari : LoopE Try.prog e_ari c_ari := by
  intro s k t F H hlt ht
  unfold e_ari at hlt
  split at hlt
  rotate_left
  · cases hlt
  rename_i hlen hpick hmem
  obtain ⟨tmps, mem⟩ := s
  simp only at hlen hpick hmem
  subst hmem
  obtain rfl := Option.some.inj hlt
  obtain ⟨⟨rfl, h1, h2, h3, h4, h5, h6, h7, h8, h9, h10, _⟩, ht2⟩ := needs_ok ht
  clear ht hlt
  obtain ⟨gs, rfl, rfl⟩ := even_flat h1
  obtain ⟨o, rfl, rfl⟩ := even_flat h2
  obtain ⟨pts, rfl, rfl⟩ := four_fl4 h3
  obtain ⟨i, rfl⟩ := Int.eq_ofNat_of_zero_le h9.1
  unfold allV4 at h7
  rw [q4A_fl4] at h7
  simp only [ptsA_flat] at h8 h10
  simp only [Int.toNat_natCast, ptsA_flat, q4A_fl4] at ht2
  have h9 : i < gs.length := by omega
  refine ⟨_, _, ht2, loop_run2 mixed EArs_ok (s_ari gs o pts i _) (inv_ari gs o pts i _) (me_ari gs o pts i _) re_ari (rs_ari gs o pts i _) k_ari (fun _ => rfl) (noLoops nl_ari) (round_ari gs o pts i _ h4 h5 h6 h7 h8 h9 h10) (x := 0) (Nat.zero_le _) (π := [some 2]) rfl ?_⟩
  refine ⟨rfl, rfl, ?_, wvs_spread' [0, 5, 6, 7, 8, 9] hlen rfl ?_⟩
  · repeat' (first | exact True.intro | exact rfl | exact wv_top _ _ | exact fun _ => rfl | assumption | exact Eq.symm (by assumption) | exact vI0 rfl | refine And.intro ?_ ?_)
  · rw [hpick]
    repeat' (first | exact True.intro | exact rfl | exact wv_top _ _ | exact fun _ => rfl | assumption | exact Eq.symm (by assumption) | exact vI0 rfl | refine And.intro ?_ ?_)
def ltAr : LT := fun j s k => match j with
  | 1 => e_ari s k
  | _ => none
def asL (gs : List Pt) : Nat → List Q4
  | 0 => []
  | i + 1 => aiL (gs.getD i (0, 0)) (crI gs i) (asL gs i) (crI gs i).length
def asE (gs : List Pt) : Nat → Nat
  | 0 => 0
  | i + 1 => asE gs i + (crI gs i).length + 1
theorem crI_len (gs : List Pt) (i : Nat) : (crI gs i).length ≤ gs.length := crL_len gs _ _
theorem asL_len (gs : List Pt) : ∀ i, (asL gs i).length ≤ i * gs.length ∧ asE gs i ≤ i * (gs.length + 1)
  | 0 => ⟨by simp [asL], by simp [asE]⟩
  | i + 1 => by
    obtain ⟨h1, h2⟩ := asL_len gs i
    have h3 := crI_len gs i
    have h4 := aiL_len (gs.getD i (0, 0)) (crI gs i) (asL gs i) (crI gs i).length
    simp only [asL, asE, Nat.succ_mul]
    exact ⟨by omega, by omega⟩
theorem crI_ok {gs : List Pt} (hv : allV gs = true) (i : Nat) : rtOk (crI gs i) := by
  obtain ⟨v1, v2, v3, v4⟩ := allV_get hv i
  exact crL_ok hv ⟨⟨v1, v2⟩, v3, v4⟩ _
theorem asL_ok {gs : List Pt} (hv : allV gs = true) : ∀ i, ∀ q ∈ asL gs i, okQ q = true
  | 0, q, h => by simp [asL] at h
  | i + 1, q, h => by
    obtain ⟨v1, v2, v3, v4⟩ := allV_get hv i
    exact aiL_ok ⟨v1, v2⟩ ⟨v3, v4⟩ (crI_ok hv i) (asL_ok hv i) _ (Nat.le_refl _) q h
noncomputable def c_aro : Code := ((loopsOf (codeOf Try.f34))[0]?).getD .skip
def k_aro : Ex → List Nat := keeps [0, 5, 6, 7] [(0, [5, 6])] [2, 3, 4]
def s_aro (gs : List Pt) : Nat → St := fun i => ⟨(.slice (some ⟨0, 0, none⟩) gs.length gs.length :: topV :: topV :: topV :: topV :: .slice (some ⟨2, 0, none⟩) (asL gs i).length (asL gs i).length :: .int .i64 (asE gs i : Nat) :: .int .i64 i :: topV :: topV :: topV :: topV :: topV :: topV :: topV :: topV :: topV :: topV :: topV :: topV :: topV :: topV :: topV :: topV :: topV :: topV :: topV :: topV :: topV :: topV :: topV :: topV :: topV :: topV :: topV :: topV :: topV :: topV :: topV :: topV :: topV :: topV :: topV :: topV :: topV :: topV :: topV :: topV :: topV :: topV :: topV :: topV :: topV :: topV :: topV :: topV :: topV :: topV :: topV :: topV :: topV :: topV :: topV :: topV :: topV :: topV :: topV :: topV :: topV :: topV :: topV :: topV :: topV :: topV :: topV :: topV :: topV :: topV :: []), [some ⟨.view, .ints (flat gs)⟩, some ⟨.dead, .vals []⟩, some ⟨.row 100 4, .ints (fl4 (asL gs i))⟩]⟩
def re_aro : Nat → Ex := fun _ => .exit 0
def rs_aro (gs : List Pt) : Nat → St := fun i => ⟨(topV :: topV :: topV :: topV :: topV :: .slice (some ⟨2, 0, none⟩) (asL gs gs.length).length (asL gs gs.length).length :: .int .i64 (asE gs gs.length : Nat) :: topV :: topV :: topV :: topV :: topV :: topV :: topV :: topV :: topV :: topV :: topV :: topV :: topV :: topV :: topV :: topV :: topV :: topV :: topV :: topV :: topV :: topV :: topV :: topV :: topV :: topV :: topV :: topV :: topV :: topV :: topV :: topV :: topV :: topV :: topV :: topV :: topV :: topV :: topV :: topV :: topV :: topV :: topV :: topV :: topV :: topV :: topV :: topV :: topV :: topV :: topV :: topV :: topV :: topV :: topV :: topV :: topV :: topV :: topV :: topV :: topV :: topV :: topV :: topV :: topV :: topV :: topV :: topV :: topV :: topV :: topV :: []), [some ⟨.view, .ints (flat gs)⟩, some ⟨.dead, .vals []⟩, some ⟨.row 100 4, .ints (fl4 (asL gs gs.length))⟩]⟩
set_option maxRecDepth 100000 in
theorem tr_aro (gs : List Pt) (i : Nat) : bodyL Try.prog EArs 30 12 ltAr 1 c_aro k_aro 16 (s_aro gs i) = brT (decide ((↑i : Int) < (↑gs.length : Int))) (.need ((List.drop (0 : Nat) (flat gs)).length = gs.length * (2 : Nat)) (.need (gs.length ≤ (8 : Nat)) (.need (allV (ptsA gs.length (List.drop (0 : Nat) (flat gs))) = true) (.need ((0 : Int) ≤ (↑i : Int) ∧ (↑i : Int) < (↑gs.length : Int)) (.need ((0 : Int) = (0 : Int)) (.need ((flat gs).length = gs.length * (2 : Nat)) (.need ((flat (crI (ptsA gs.length (List.drop (0 : Nat) (flat gs))) (↑i : Int).toNat)).length = (crI (ptsA gs.length (List.drop (0 : Nat) (flat gs))) (↑i : Int).toNat).length * (2 : Nat)) (.need ((fl4 (asL gs i)).length = (asL gs i).length * (4 : Nat)) (.need (gs.length ≤ (8 : Nat)) (.need ((crI (ptsA gs.length (List.drop (0 : Nat) (flat gs))) (↑i : Int).toNat).length ≤ (8 : Nat)) (.need ((asL gs i).length ≤ (100 : Nat)) (.need (allV4 (asL gs i).length (fl4 (asL gs i))) (.need (allV (ptsA gs.length (flat gs)) = true) (.need ((0 : Int) ≤ (↑i : Int) ∧ (↑i : Int) < (↑gs.length : Int)) (.need (rtOk (ptsA (crI (ptsA gs.length (List.drop (0 : Nat) (flat gs))) (↑i : Int).toNat).length (flat (crI (ptsA gs.length (List.drop (0 : Nat) (flat gs))) (↑i : Int).toNat)))) (.leaf .normal ⟨(.slice (some ⟨0, 0, none⟩) (gs.length) (gs.length) :: topV :: topV :: topV :: topV :: .slice (some ⟨4, 0, none⟩) ((aiL ((ptsA gs.length (flat gs)).getD (↑i : Int).toNat (0, 0)) (ptsA (crI (ptsA gs.length (List.drop 0 (flat gs))) (↑i : Int).toNat).length (flat (crI (ptsA gs.length (List.drop 0 (flat gs))) (↑i : Int).toNat))) (q4A (asL gs i).length (fl4 (asL gs i))) (crI (ptsA gs.length (List.drop 0 (flat gs))) (↑i : Int).toNat).length).length) ((aiL ((ptsA gs.length (flat gs)).getD (↑i : Int).toNat (0, 0)) (ptsA (crI (ptsA gs.length (List.drop 0 (flat gs))) (↑i : Int).toNat).length (flat (crI (ptsA gs.length (List.drop 0 (flat gs))) (↑i : Int).toNat))) (q4A (asL gs i).length (fl4 (asL gs i))) (crI (ptsA gs.length (List.drop 0 (flat gs))) (↑i : Int).toNat).length).length) :: .int .i64 (IntKind.i64.wrap (IntKind.i64.wrap ((↑(asE gs i) : Int) + (↑(crI (ptsA gs.length (List.drop 0 (flat gs))) (↑i : Int).toNat).length : Int)) + 1)) :: .int .i64 (IntKind.i64.wrap ((↑i : Int) + 1)) :: topV :: topV :: topV :: topV :: topV :: topV :: topV :: topV :: topV :: topV :: topV :: topV :: topV :: topV :: topV :: topV :: topV :: topV :: topV :: topV :: topV :: topV :: topV :: topV :: topV :: topV :: topV :: topV :: topV :: topV :: topV :: topV :: topV :: topV :: topV :: topV :: topV :: topV :: topV :: topV :: topV :: topV :: topV :: topV :: topV :: topV :: topV :: topV :: topV :: topV :: topV :: topV :: topV :: topV :: topV :: topV :: topV :: topV :: topV :: topV :: topV :: topV :: topV :: topV :: topV :: topV :: topV :: topV :: topV :: topV :: []), [some ⟨.view, .ints (flat gs)⟩, some deadB, some deadB, some ⟨.row 97 2, .ints (flat (crI (ptsA gs.length (List.drop 0 (flat gs))) (↑i : Int).toNat))⟩, some ⟨.row 100 4, .ints (fl4 (aiL ((ptsA gs.length (flat gs)).getD (↑i : Int).toNat (0, 0)) (ptsA (crI (ptsA gs.length (List.drop 0 (flat gs))) (↑i : Int).toNat).length (flat (crI (ptsA gs.length (List.drop 0 (flat gs))) (↑i : Int).toNat))) (q4A (asL gs i).length (fl4 (asL gs i))) (crI (ptsA gs.length (List.drop 0 (flat gs))) (↑i : Int).toNat).length))⟩]⟩)))))))))))))))) (.leaf (.exit 0) ⟨(topV :: topV :: topV :: topV :: topV :: .slice (some ⟨2, 0, none⟩) ((asL gs i).length) ((asL gs i).length) :: .int .i64 ((↑(asE gs i) : Int)) :: topV :: topV :: topV :: topV :: topV :: topV :: topV :: topV :: topV :: topV :: topV :: topV :: topV :: topV :: topV :: topV :: topV :: topV :: topV :: topV :: topV :: topV :: topV :: topV :: topV :: topV :: topV :: topV :: topV :: topV :: topV :: topV :: topV :: topV :: topV :: topV :: topV :: topV :: topV :: topV :: topV :: topV :: topV :: topV :: topV :: topV :: topV :: topV :: topV :: topV :: topV :: topV :: topV :: topV :: topV :: topV :: topV :: topV :: topV :: topV :: topV :: topV :: topV :: topV :: topV :: topV :: topV :: topV :: topV :: topV :: topV :: []), [some ⟨.view, .ints (flat gs)⟩, some deadB, some ⟨.row 100 4, .ints (fl4 (asL gs i))⟩]⟩) := by kernel_rfl
def inv_aro (gs : List Pt) : Nat → Prop := fun i => i ≤ gs.length
def me_aro (gs : List Pt) : Nat → Nat := fun i => gs.length - i
/-- A round of this loop. -/
def Round_aro (gs : List Pt) : Prop := ∀ xx : Nat, inv_aro gs xx → (bodyL Try.prog EArs 30 12 ltAr 1 c_aro k_aro 16 (s_aro gs xx)).ok (RoundEnd 2 (s_aro gs) (inv_aro gs) (me_aro gs) re_aro (rs_aro gs) xx) (fun _ _ => False)
def e_aro (s : St) (k : Ex → St → Tree) : Option Tree := match Nat.beq s.tmps.length 78, pickL s.tmps [0, 5, 6, 7], s.mem with
  | true, [.slice (some ⟨0, 0, none⟩) m _, .slice (some ⟨1, 0, none⟩) y _, .int .i64 e0, .int .i64 i0], [some ⟨.view, .ints xs⟩, some ⟨.row 100 4, .vals []⟩] => some (needs [i0 = 0, e0 = 0, y = 0, xs.length = m * 2, m ≤ 8, allV (ptsA m xs) = true] (k (.exit 0) ⟨(topV :: topV :: topV :: topV :: topV :: .slice (some ⟨2, 0, none⟩) (asL (ptsA m xs) m).length (asL (ptsA m xs) m).length :: .int .i64 (asE (ptsA m xs) m : Nat) :: topV :: topV :: topV :: topV :: topV :: topV :: topV :: topV :: topV :: topV :: topV :: topV :: topV :: topV :: topV :: topV :: topV :: topV :: topV :: topV :: topV :: topV :: topV :: topV :: topV :: topV :: topV :: topV :: topV :: topV :: topV :: topV :: topV :: topV :: topV :: topV :: topV :: topV :: topV :: topV :: topV :: topV :: topV :: topV :: topV :: topV :: topV :: topV :: topV :: topV :: topV :: topV :: topV :: topV :: topV :: topV :: topV :: topV :: topV :: topV :: topV :: topV :: topV :: topV :: topV :: topV :: topV :: topV :: topV :: topV :: topV :: []), [some ⟨.view, .ints xs⟩, some ⟨.dead, .vals []⟩, some ⟨.row 100 4, .ints (fl4 (asL (ptsA m xs) m))⟩]⟩))
  | _, _, _ => none
set_option maxRecDepth 100000 in
theorem in_aro : loopsOf c_aro = [c_ari] := by kernel_rfl
theorem ltAr_good : LoopsGood Try.prog ltAr 1 c_aro := by
  intro i d hd s k t F H hlt ht
  rw [in_aro] at hd
  cases i with
  | zero =>
    obtain rfl : c_ari = d := by simpa using hd
    exact lg_ari s k t F H hlt ht
  | succ i => simp at hd
set_option maxRecDepth 100000 in
set_option maxHeartbeats 4000000 in
theorem round_aro (gs : List Pt) (h : gs.length ≤ 8) (hv : allV gs = true) : Round_aro gs := by
  intro i h1
  have h1 : i ≤ gs.length := h1
  rw [tr_aro]
  have fl := flat_length gs
  have ml := crI_len gs i
  have mo := crI_ok hv i
  obtain ⟨al, ae⟩ := asL_len gs i
  have ao := asL_ok hv i
  have f4 := fl4_length (asL gs i)
  have f5 := flat_length (crI gs i)
  have b1 : i * gs.length ≤ 64 := Nat.mul_le_mul (show i ≤ 8 by omega) h
  have b2 : i * (gs.length + 1) ≤ 72 := Nat.mul_le_mul (show i ≤ 8 by omega) (show gs.length + 1 ≤ 9 by omega)
  refine brT_ok.2 ⟨fun hlt => ?_, fun hge => ?_⟩
  · have hi : i < gs.length := by have := of_decide_eq_true hlt; omega
    have w1 : IntKind.i64.wrap ((asE gs i : Int) + ((crI gs i).length : Int)) = ((asE gs i + (crI gs i).length : Nat) : Int) := by rw [wr (by omega)]; omega
    have w2 : IntKind.i64.wrap (((asE gs i + (crI gs i).length : Nat) : Int) + 1) = ((asE gs i + (crI gs i).length + 1 : Nat) : Int) := by rw [wr (by omega)]; omega
    have es : asL gs (i + 1) = aiL (gs.getD i (0, 0)) (crI gs i) (asL gs i) (crI gs i).length := rfl
    rw [wsucc (n := gs.length) hi (by omega)]
    simp only [List.drop_zero, Int.toNat_natCast, ptsA_flat, q4A_fl4, w1, w2, ← es]
    refine ⟨fl, h, hv, by omega, trivial, fl, f5, f4, h, by omega, by omega, by unfold allV4; rw [q4A_fl4]; exact ao, hv, by omega, mo, i + 1, [some 4], by show i + 1 ≤ gs.length; omega, ?_, rfl, by simp only [rs_aro], ?_⟩
    · show gs.length - (i + 1) < gs.length - i; omega
    · repeat' (first | exact True.intro | exact rfl | exact fun _ => rfl | (simp; done) | refine And.intro ?_ ?_)
  · have hge := of_decide_eq_false hge
    obtain rfl : i = gs.length := by omega
    refine ⟨rfl, [some 2], ?_⟩
    repeat' (first | exact True.intro | exact rfl | exact fun _ => rfl | (simp; done) | refine And.intro ?_ ?_)
set_option maxRecDepth 100000 in
theorem lg_aro : LoopE Try.prog e_aro c_aro := by
  intro s k t F H hlt ht
  unfold e_aro at hlt
  split at hlt
  rotate_left
  · cases hlt
  rename_i hlen hpick hmem
  obtain ⟨tmps, mem⟩ := s
  simp only at hlen hpick hmem
  subst hmem
  obtain rfl := Option.some.inj hlt
  obtain ⟨⟨rfl, rfl, rfl, h1, h2, h3, _⟩, ht2⟩ := needs_ok ht
  clear ht hlt
  obtain ⟨gs, rfl, rfl⟩ := even_flat h1
  rw [ptsA_flat] at h3
  rw [ptsA_flat] at ht2
  refine ⟨_, _, ht2, loop_run2 mixed EArs_ok (s_aro gs) (inv_aro gs) (me_aro gs) re_aro (rs_aro gs) k_aro (fun _ => rfl) ltAr_good (round_aro gs h2 h3) (x := 0) (Nat.zero_le _) (π := [some 1]) rfl ?_⟩
  refine ⟨rfl, rfl, ?_, wvs_spread' [0, 5, 6, 7] hlen rfl ?_⟩
  · repeat' (first | exact True.intro | exact rfl | exact wv_top _ _ | exact fun _ => rfl | assumption | exact Eq.symm (by assumption) | exact vI0 rfl | refine And.intro ?_ ?_)
  · rw [hpick]
    repeat' (first | exact True.intro | exact rfl | exact wv_top _ _ | exact fun _ => rfl | assumption | exact Eq.symm (by assumption) | exact vI0 rfl | refine And.intro ?_ ?_)
theorem Lr_aro {fn : Func} (hf : Try.prog.funcs[34]? = some fn) : LoopsGood Try.prog (lt1 e_aro) 0 (codeOf fn) := by
  obtain rfl := fn_is Try.func34 hf
  exact lt1_good lg_aro
def LArs : FuncId → LT := fun f => match f with
  | 34 => lt1 e_aro
  | _ => noL
def EAro : Env := withT (mkE TAl RCrs LArs) JAq
theorem EAro_ok : EnvOk Try.prog EAro := withT_ok (mkEOk TAl_ok RCrs_ok (by
  intro f fn hf
  unfold LArs
  split
  all_goals first | with_reducible exact Lr_aro hf | exact noL_good)) JAq_ok
set_option maxRecDepth 100000 in
theorem tr_asF (gs : List Pt) : bodyV Try.prog EAro 30 12 34 [.row gs.length (.ints (flat gs))] = .need (gs.length * (2 : Nat) ≤ (List.drop (0 : Nat) (flat gs)).length) (.need (gs.length ≤ (1000000000 : Nat)) (brT (!vgB (ptsA gs.length (List.drop 0 (flat gs)))) (.fin (.tuple #[.int .i64 (-1), .int .i64 (-1), .int .i64 (-1)]) []) (.need ((0 : Int) = (0 : Int)) (.need ((0 : Int) = (0 : Int)) (.need ((0 : Nat) = (0 : Nat)) (.need ((flat gs).length = gs.length * (2 : Nat)) (.need (gs.length ≤ (8 : Nat)) (.need (allV (ptsA gs.length (flat gs)) = true) (.fin (.tuple #[.int .i64 ((↑(asL (ptsA gs.length (flat gs)) gs.length).length : Int)), .int .i64 ((↑(asE (ptsA gs.length (flat gs)) gs.length) : Int)), .int .i64 (IntKind.i64.wrap (IntKind.i64.wrap ((↑(asE (ptsA gs.length (flat gs)) gs.length) : Int) - (↑(asL (ptsA gs.length (flat gs)) gs.length).length : Int)) + 1))]) []))))))))) := by kernel_rfl
def asR (gs : List Pt) : Value := bif vgB gs then .tuple #[iv ((asL gs gs.length).length : Nat), iv (asE gs gs.length : Nat), iv (asE gs gs.length - (asL gs gs.length).length + 1)] else .tuple #[iv (-1), iv (-1), iv (-1)]
theorem res_sAr (gs : List Pt) (h : Big gs) : Res Try.prog 34 [.row gs.length (.ints (flat gs))] (asR gs) := by
  refine bodyV_res mixed EAro_ok (m := 30) (n := 12) (by unfold asR; cases vgB gs <;> rfl) ?_
  rw [tr_asF]
  unfold Big at h
  have fl := flat_length gs
  simp only [List.drop_zero, ptsA_flat]
  unfold asR
  rcases hv : vgB gs with _ | _
  · exact ⟨by omega, h, rfl⟩
  · obtain ⟨h1, h2⟩ := vg_iff hv
    obtain ⟨al, ae⟩ := asL_len gs gs.length
    have b1 : gs.length * gs.length ≤ 64 := Nat.mul_le_mul h2 h2
    have b2 : gs.length * (gs.length + 1) ≤ 72 := Nat.mul_le_mul h2 (show gs.length + 1 ≤ 9 by omega)
    refine ⟨by omega, h, trivial, trivial, trivial, fl, h2, h1, ?_⟩
    show Value.tuple _ = Value.tuple _
    rw [wr (x := (asE gs gs.length : Int) - ((asL gs gs.length).length : Nat)) (by omega), wr (by omega)]
end Go.Proofs.Ytolodncpegajkab
namespace Go.Proofs.Ytolodncpegajkab
set_option linter.all false
open Go.RowKit
theorem nd_le {α : Type} [DecidableEq α] : ∀ (a b : List α), a.Nodup → (∀ x ∈ a, x ∈ b) → a.length ≤ b.length
  | [], _, _, _ => Nat.zero_le _
  | x :: a, b, h, hs => by
    obtain ⟨h1, h2⟩ := List.nodup_cons.1 h
    have hx : x ∈ b := hs x (List.mem_cons_self ..)
    have ih := nd_le a (b.erase x) h2 fun y hy => by
      have hne : y ≠ x := fun e => h1 (e ▸ hy)
      exact (List.mem_erase_of_ne hne).2 (hs y (List.mem_cons_of_mem _ hy))
    rw [List.length_erase_of_mem hx] at ih
    have : 0 < b.length := List.length_pos_of_mem hx
    simp only [List.length_cons]
    omega
theorem nd_eq {α : Type} [DecidableEq α] {a b : List α} (h1 : a.Nodup) (h2 : b.Nodup) (h : ∀ x, x ∈ a ↔ x ∈ b) : a.length = b.length :=
  Nat.le_antisymm (nd_le a b h1 fun x hx => (h x).1 hx) (nd_le b a h2 fun x hx => (h x).2 hx)
theorem inQ_up {p : Q4} (hp : okQ p = true) : ∀ {ps : List Q4}, (∀ q ∈ ps, okQ q = true) → ps.Pairwise (fun x y => qLt x y = true) → (inQ p ps).Pairwise fun x y => qLt x y = true
  | [], _, _ => List.pairwise_singleton _ _
  | q :: r, ho, hu => by
    obtain ⟨u1, u2⟩ := List.pairwise_cons.1 hu
    have oq := ho q (List.mem_cons_self ..)
    have or_ : ∀ z ∈ r, okQ z = true := fun z hz => ho z (List.mem_cons_of_mem _ hz)
    simp only [inQ]
    split
    · rename_i hlt
      refine List.pairwise_cons.2 ⟨fun z hz => ?_, inQ_up hp or_ u2⟩
      rcases (inQ_mem p r z).1 hz with hz | rfl
      · exact u1 z hz
      · exact hlt
    · rename_i hlt
      split
      · exact hu
      · rename_i hne
        have hpq : qLt p q = true := by
          rcases qLt_tri hp oq with h | h | h
          · exact h
          · exact absurd h.symm hne
          · exact absurd h hlt
        refine List.pairwise_cons.2 ⟨fun z hz => ?_, hu⟩
        rcases List.mem_cons.1 hz with rfl | hz
        · exact hpq
        · exact qLt_trans hp oq (or_ z hz) hpq (u1 z hz)
theorem aiL_up {g : Pt} {o : List Pt} {pts : List Q4} (h1 : -1000 ≤ g.1 ∧ g.1 ≤ 1000) (h2 : -1000 ≤ g.2 ∧ g.2 ≤ 1000) (ho : rtOk o) (hp : ∀ q ∈ pts, okQ q = true) (hu : pts.Pairwise fun x y => qLt x y = true) : ∀ k, k ≤ o.length → (aiL g o pts k).Pairwise fun x y => qLt x y = true
  | 0, _ => hu
  | k + 1, hk => by
    simp only [aiL]
    exact inQ_up (pQ_bd h1 h2 (ho _ (getD_mem2 (by omega)))).2.2.2 (aiL_ok h1 h2 ho hp k (by omega)) (aiL_up h1 h2 ho hp hu k (by omega))
theorem asL_up {gs : List Pt} (hv : allV gs = true) : ∀ i, (asL gs i).Pairwise fun x y => qLt x y = true
  | 0 => List.Pairwise.nil
  | i + 1 => by
    obtain ⟨v1, v2, v3, v4⟩ := allV_get hv i
    exact aiL_up ⟨v1, v2⟩ ⟨v3, v4⟩ (crI_ok hv i) (asL_ok hv i) (asL_up hv i) _ (Nat.le_refl _)
theorem up_nodup {qs : List Q4} (h : qs.Pairwise fun x y => qLt x y = true) : qs.Nodup :=
  h.imp fun {x y} hxy e => by
    subst e
    rw [qLt_irr] at hxy
    cases hxy
theorem aiL_mem (g : Pt) (o : List Pt) (pts : List Q4) (z : Q4) : ∀ k, z ∈ aiL g o pts k ↔ z ∈ pts ∨ ∃ j, j < k ∧ z = pQ g (o.getD j (0, 0))
  | 0 => by simp [aiL]
  | k + 1 => by
    have ih := aiL_mem g o pts z k
    simp only [aiL, inQ_mem, ih]
    constructor
    · rintro ((h | ⟨j, h1, h2⟩) | h)
      · exact .inl h
      · exact .inr ⟨j, by omega, h2⟩
      · exact .inr ⟨k, by omega, h⟩
    · rintro (h | ⟨j, h1, h2⟩)
      · exact .inl (.inl h)
      · rcases Nat.lt_or_ge j k with q | q
        · exact .inl (.inr ⟨j, q, h2⟩)
        · obtain rfl : j = k := by omega
          exact .inr h2
theorem allQ_al2 {P : Nat → Bool} : ∀ (m i : Nat), (∀ j, i ≤ j → j < i + m → P j = true) → allQ P i m = true
  | 0, _, _ => rfl
  | m + 1, i, h => by
    simp only [allQ, Bool.and_eq_true]
    exact ⟨h i (Nat.le_refl _) (by omega), allQ_al2 m (i + 1) fun j h1 h2 => h j (by omega) (by omega)⟩
theorem hasC_iff (o : List Pt) (p : Pt) : hasC o p.1 p.2 = true ↔ p ∈ o := by
  unfold hasC
  rw [Bool.not_eq_true', ← Bool.not_eq_true]
  constructor
  · intro h
    refine Classical.byContradiction fun hn => h (allQ_al2 _ _ fun j _ hj => ?_)
    unfold ngQ
    rcases q : (o.getD j (0, 0)).1 == p.1 && (o.getD j (0, 0)).2 == p.2 with _ | _
    · rfl
    · exfalso
      simp only [Bool.and_eq_true, beq_iff_eq] at q
      have e : o.getD j (0, 0) = p := Prod.ext q.1 q.2
      exact hn (e ▸ getD_mem2 (by omega))
  · intro h hq
    obtain ⟨j, h1, h2⟩ := List.mem_iff_getElem.1 h
    have := allQ_get _ _ hq j (Nat.zero_le _) (by omega)
    unfold ngQ at this
    have e : o.getD j (0, 0) = p := by simp [List.getD, h1, h2]
    rw [e] at this
    simp at this
theorem crL_nodup (gs : List Pt) (g : Pt) : ∀ k, (crL gs g k).Nodup
  | 0 => List.Pairwise.nil
  | k + 1 => by
    have ih := crL_nodup gs g k
    simp only [crL, crO]
    cases (gs.getD k (0, 0)).1 == g.1
    · rcases q : hasC (crL gs g k) (cxQ g (gs.getD k (0, 0))).1 (cxQ g (gs.getD k (0, 0))).2 with _ | _
      · simp only [cond_false]
        refine List.nodup_append.2 ⟨ih, by simp, fun a ha b hb e => ?_⟩
        obtain rfl := List.mem_singleton.1 hb
        subst e
        rw [(hasC_iff _ _).2 ha] at q
        cases q
      · exact ih
    · exact ih
theorem crL_mem (gs : List Pt) (g z : Pt) : ∀ k, z ∈ crL gs g k ↔ ∃ j, j < k ∧ (gs.getD j (0, 0)).1 ≠ g.1 ∧ z = cxQ g (gs.getD j (0, 0))
  | 0 => by simp [crL]
  | k + 1 => by
    have ih := crL_mem gs g z k
    have step : (∃ j, j < k + 1 ∧ (gs.getD j (0, 0)).1 ≠ g.1 ∧ z = cxQ g (gs.getD j (0, 0))) ↔ z ∈ crL gs g k ∨ ((gs.getD k (0, 0)).1 ≠ g.1 ∧ z = cxQ g (gs.getD k (0, 0))) := by
      rw [ih]
      constructor
      · rintro ⟨j, h1, h2⟩
        rcases Nat.lt_or_ge j k with q | q
        · exact .inl ⟨j, q, h2⟩
        · obtain rfl : j = k := by omega
          exact .inr h2
      · rintro (⟨j, h1, h2⟩ | h)
        · exact ⟨j, by omega, h2⟩
        · exact ⟨k, by omega, h⟩
    rw [step]
    simp only [crL, crO]
    rcases q : (gs.getD k (0, 0)).1 == g.1 with _ | _
    · have q := beq_eq_false_iff_ne.1 q
      rcases q2 : hasC (crL gs g k) (cxQ g (gs.getD k (0, 0))).1 (cxQ g (gs.getD k (0, 0))).2 with _ | _
      · simp only [cond_false, List.mem_append, List.mem_singleton]
        constructor
        · rintro (h | h)
          · exact .inl h
          · exact .inr ⟨q, h⟩
        · rintro (h | h)
          · exact .inl h
          · exact .inr h.2
      · simp only [cond_false, cond_true]
        constructor
        · exact .inl
        · rintro (h | h)
          · exact h
          · rw [h.2]
            exact (hasC_iff _ _).1 q2
    · have q := beq_iff_eq.1 q
      simp only [cond_true]
      constructor
      · exact .inl
      · rintro (h | h)
        · exact h
        · exact absurd q h.1
/-- A place along a graph is the point of the program. -/
theorem pQ_cx {g h : Pt} (hg : (-1000 ≤ g.1 ∧ g.1 ≤ 1000) ∧ -1000 ≤ g.2 ∧ g.2 ≤ 1000) (hh : (-1000 ≤ h.1 ∧ h.1 ≤ 1000) ∧ -1000 ≤ h.2 ∧ h.2 ≤ 1000) (hne : h.1 ≠ g.1) : pQ g (cxQ g h) = meQ g.1 g.2 h := by
  have o1 := (okQ_1 (pQ_bd hg.1 hg.2 (cxQ_ok hg hh hne)).2.2.2).2
  have o2 := (okQ_1 (meQ_ok hg.1 hg.2 hh.1 hh.2 hne)).2
  have c := cxQ_ok hg hh hne
  have cd := (ratB_true c.1).2.2.1
  have hd : h.1 - g.1 ≠ 0 := by omega
  obtain ⟨_, _, f1⟩ := q_full3 (n := h.2 - g.2) hd
  obtain ⟨_, _, f2⟩ := q_full3 (n := g.1 * h.2 - h.1 * g.2) hd
  unfold pQ meQ cxQ at *
  simp only at *
  generalize qN (h.2 - g.2) (h.1 - g.1) = xn at *
  generalize qD (h.2 - g.2) (h.1 - g.1) = xd at *
  obtain ⟨_, _, f3⟩ := q_full3 (n := g.1 * xn - g.2 * xd) (d := xd) (by omega)
  generalize qN (g.1 * h.2 - h.1 * g.2) (h.1 - g.1) = n1 at *
  generalize qD (g.1 * h.2 - h.1 * g.2) (h.1 - g.1) = d1 at *
  generalize qN (g.1 * xn - g.2 * xd) xd = n2 at *
  generalize qD (g.1 * xn - g.2 * xd) xd = d2 at *
  have key : n2 * d1 = n1 * d2 := by
    have hz : (h.1 - g.1) * xd ≠ 0 := Int.mul_ne_zero hd (by omega)
    refine Int.eq_of_mul_eq_mul_right hz ?_
    grind
  obtain ⟨e1, e2⟩ := rat_same o1 o2 key
  rw [e1, e2]
theorem mt_cr {gs : List Pt} (hv : allV gs = true) {i : Nat} (z : Q4) : z ∈ mtI gs i ↔ ∃ p ∈ crI gs i, z = pQ (gs.getD i (0, 0)) p := by
  obtain ⟨v1, v2, v3, v4⟩ := allV_get hv i
  unfold mtI mtL crI
  rw [stQ_mem, meL_mem]
  constructor
  · rintro ⟨k, h1, h2, rfl⟩
    obtain ⟨u1, u2, u3, u4⟩ := allV_get hv k
    exact ⟨_, (crL_mem _ _ _ _).2 ⟨k, h1, h2, rfl⟩, (pQ_cx ⟨⟨v1, v2⟩, v3, v4⟩ ⟨⟨u1, u2⟩, u3, u4⟩ h2).symm⟩
  · rintro ⟨p, hp, rfl⟩
    obtain ⟨k, h1, h2, rfl⟩ := (crL_mem _ _ _ _).1 hp
    obtain ⟨u1, u2, u3, u4⟩ := allV_get hv k
    exact ⟨k, h1, h2, pQ_cx ⟨⟨v1, v2⟩, v3, v4⟩ ⟨⟨u1, u2⟩, u3, u4⟩ h2⟩
theorem mt_len {gs : List Pt} (hv : allV gs = true) (i : Nat) : (mtI gs i).length = (crI gs i).length := by
  obtain ⟨v1, v2, v3, v4⟩ := allV_get hv i
  have nd : ((crI gs i).map (pQ (gs.getD i (0, 0)))).Nodup := by
    refine List.pairwise_map.2 ((crL_nodup gs _ _).imp fun {x y} hne e => hne ?_)
    unfold pQ at e
    simp only [Prod.mk.injEq] at e
    exact Prod.ext e.1 e.2.1
  have := nd_eq (stQ_nodup (meL_ok hv ⟨⟨v1, v2⟩, v3, v4⟩ gs.length)) nd fun z => by
    have := mt_cr hv (i := i) z
    rw [List.mem_map]
    refine this.trans ⟨fun ⟨p, h1, h2⟩ => ⟨p, h1, h2.symm⟩, fun ⟨p, h1, h2⟩ => ⟨p, h1, h2.symm⟩⟩
  rw [List.length_map] at this
  exact this
theorem ar_E {gs : List Pt} (hv : allV gs = true) : ∀ i, arE gs i = asE gs i
  | 0 => rfl
  | i + 1 => by simp only [arE, asE, ar_E hv i, mt_len hv i]
theorem ar_mem {gs : List Pt} (hv : allV gs = true) (z : Q4) : ∀ i, z ∈ arA gs i ↔ z ∈ asL gs i
  | 0 => by simp [arA, asL]
  | i + 1 => by
    simp only [arA, asL]
    rw [List.mem_append, aiL_mem, ar_mem hv z i, mt_cr hv]
    constructor
    · rintro (h | ⟨p, h1, h2⟩)
      · exact .inl h
      · obtain ⟨j, g1, g2⟩ := List.mem_iff_getElem.1 h1
        exact .inr ⟨j, g1, by rw [h2]; simp [List.getD, g1, g2]⟩
    · rintro (h | ⟨j, h1, h2⟩)
      · exact .inl h
      · exact .inr ⟨_, getD_mem2 h1, h2⟩
theorem ar_V {gs : List Pt} (hv : allV gs = true) : arV gs = (asL gs gs.length).length :=
  nd_eq (stQ_nodup (arA_ok hv gs.length)) (up_nodup (asL_up hv gs.length)) fun z => by rw [stQ_mem, ar_mem hv]
theorem ar_same (gs : List Pt) : asR gs = arR gs := by
  unfold asR arR
  rcases h : vgB gs with _ | _
  · rfl
  · obtain ⟨h1, _⟩ := vg_iff h
    rw [ar_V h1, ar_E h1]
end Go.Proofs.Ytolodncpegajkab
namespace Go.Proofs.Ytolodncpegajkab
set_option linter.all false
open Go.RowKit
/-- Names that are looked at alone. -/
def vwK : BK → BK
  | .dead => .dead
  | _ => .view
theorem BlkOk.view {ρ : Nat → Option Pl} {B : Nat → Prop} {w : World} {n : Nat} {b : Blk} (h : BlkOk ρ B w n b) : BlkOk ρ B w n ⟨vwK b.kind, b.cs⟩ := by
  obtain ⟨kd, cs⟩ := b
  have cell : ∀ (g k : Nat) (arr : Array Value) (e z v), w.heap[g]? = some (.cells arr e z) → arr[k]? = some v → w.cell? ⟨g, 0 + k, none⟩ = some v := fun g k arr e z v h1 h2 => by
    rw [Nat.zero_add]
    simp only [World.cell?, h1]
    exact h2
  cases kd with
  | dead => trivial
  | view => exact h
  | box =>
    obtain ⟨g, h1, h2, cs', e, h3, h4, h5⟩ := h
    refine .inr ⟨g, 0, none, h1, .inl rfl, heap_lt h3, fun k v hv => ?_⟩
    obtain ⟨v', k1, k2⟩ := h5 k v hv
    exact ⟨v', cell _ _ _ _ _ _ h3 k1, k2⟩
  | row e sz =>
    rcases h with ⟨p, h1, h2, h3⟩ | ⟨g, cap, h1, h2, cs', h3, h4, h5⟩
    · exact .inl ⟨p, h1, h2, 0, h3⟩
    · refine .inr ⟨g, 0, some cap, h1, .inl rfl, heap_lt h3, fun k v hv => ?_⟩
      obtain ⟨v', k1, k2⟩ := h5 k v hv
      exact ⟨v', cell _ _ _ _ _ _ h3 k1, k2⟩
theorem BelowK.less {K K' : Nat → Prop} {w w' : World} (h : BelowK K w w') (hk : ∀ k, K' k → K k) : BelowK K' w w' := ⟨h.os, h.tape, h.output, h.size, fun k hk' => h.block k (hk k hk')⟩
theorem BelowK.putObj {K : Nat → Prop} {w w' : World} (h : BelowK K w w') {l : Nat} (o : Obj) (hl : ¬ K l) : BelowK K w (w'.putObj l o) := h.trans ⟨rfl, rfl, rfl, by simp, fun k hk => World.putObj_heap_other (fun e => hl (by rw [← e]; exact hk))⟩
theorem BelowK.grown {K : Nat → Prop} {w w' w'' : World} (h : BelowK K w w') (hK : ∀ k, K k → k < w.heap.size) (hg : w'.grownBy w'' none) : BelowK K w w'' := h.trans ⟨hg.os, hg.tape, hg.output, hg.size, fun k hk => hg.block k (Nat.lt_of_lt_of_le (hK k hk) h.size) (by simp)⟩
theorem Conc.grown {w0 : Start} {s : FS} {a : Act} {w w' : World} (h : Conc w0 s a w) (hg : w.grownBy w' none) : Conc w0 s a w' := by
  obtain ⟨c1, c2, c3, ρ, ht, hm⟩ := h
  exact ⟨c1, c2, c3.grown w0.kpl hg, ρ, ht, hm.grown hg.size fun k o ho _ => hg.block k (heap_lt ho) (by simp)⟩
theorem Conc.putObj {w0 : Start} {s : FS} {a : Act} {w : World} (h : Conc w0 s a w) {l : Nat} {o : Obj} (o' : Obj) (hl : ¬ w0.kp l) (ho : w.heap[l]? = some o) (hc : o.isCells = false) : Conc w0 s a (w.putObj l o') := by
  obtain ⟨c1, c2, c3, ρ, ht, hm⟩ := h
  refine ⟨c1, c2, c3.putObj o' hl, ρ, ht, hm.grown (by simp) fun k o2 ho2 hc2 => World.putObj_heap_other fun e => ?_⟩
  rw [e, ho] at ho2
  cases ho2
  rw [hc] at hc2
  cases hc2
section
variable {P : Program} {ps : List Nat} {assign body : Code} {enc : Nat → List Value} {St_of : Nat → St} {Good : Nat → Prop} {re : Ex} {rs : St} {N M len : Nat} {keep : Ex → List Nat}
end
end Go.Proofs.Ytolodncpegajkab
namespace Go.Proofs.Ytolodncpegajkab
set_option linter.all false
open Go.RowKit
def crP (a b c : Pt) : Int := crossI a.1 a.2 b.1 b.2 c.1 c.2
end Go.Proofs.Ytolodncpegajkab
namespace Go.Proofs.Ytolodncpegajkab
set_option linter.all false
open Go.RowKit
/-- A vector that leads on in the order of points. -/
def posV (u : Pt) : Prop := 0 < u.1 ∨ u.1 = 0 ∧ 0 < u.2
def cr2 (u v : Pt) : Int := u.1 * v.2 - u.2 * v.1
def dif (b a : Pt) : Pt := (b.1 - a.1, b.2 - a.2)
theorem cr_tr {u v w : Pt} (hu : posV u) (hv : posV v) (hw : posV w) (h1 : 0 ≤ cr2 u v) (h2 : 0 ≤ cr2 v w) : 0 ≤ cr2 u w ∧ (0 < cr2 u v ∨ 0 < cr2 v w → 0 < cr2 u w) := by
  obtain ⟨a, b⟩ := u
  obtain ⟨c, d⟩ := v
  obtain ⟨e, f⟩ := w
  unfold posV cr2 at *
  simp only at *
  rcases hv with hc | ⟨rfl, hd⟩
  · have ha : 0 < a := by
      rcases hu with h | ⟨rfl, hb⟩
      · exact h
      · have := Int.mul_pos hb hc
        omega
    rcases hw with he | ⟨rfl, hf⟩
    · have id : c * (a * f - b * e) = a * (c * f - d * e) + e * (a * d - b * c) := by grind
      have n1 := Int.mul_nonneg (Int.le_of_lt ha) h2
      have n2 := Int.mul_nonneg (Int.le_of_lt he) h1
      generalize a * f - b * e = X at *
      refine ⟨?_, fun h => ?_⟩
      · rcases Int.lt_or_le X 0 with h | h
        · have := Int.mul_neg_of_pos_of_neg hc h
          omega
        · exact h
      · rcases Int.lt_or_le 0 X with h' | h'
        · exact h'
        · have := Int.mul_nonpos_of_nonneg_of_nonpos (Int.le_of_lt hc) h'
          rcases h with h | h
          · have := Int.mul_pos he h
            omega
          · have := Int.mul_pos ha h
            omega
    · have := Int.mul_pos ha hf
      omega
  · have he : e = 0 ∧ 0 < f := by
      rcases hw with h | h
      · have := Int.mul_pos hd h
        omega
      · exact h
    obtain ⟨rfl, hf⟩ := he
    have ha : 0 ≤ a := by omega
    have n1 := Int.mul_nonneg ha (Int.le_of_lt hf)
    refine ⟨by omega, fun h => ?_⟩
    have : 0 < a := by
      rcases Int.lt_or_le 0 a with h' | h'
      · exact h'
      · obtain rfl : a = 0 := by omega
        omega
    have := Int.mul_pos this hf
    omega
theorem plt_pos {a b : Pt} : pltB a b = true ↔ posV (dif b a) := by
  rw [pltB_iff]
  unfold posV dif
  simp only
  omega
theorem oP_tri (a b : Pt) : a = b ∨ pltB a b = true ∨ pltB b a = true := by
  obtain ⟨a1, a2⟩ := a
  obtain ⟨b1, b2⟩ := b
  simp only [pltB_iff, Prod.mk.injEq]
  omega
theorem oP_trans {a b c : Pt} (h1 : pltB a b = true) (h2 : pltB b c = true) : pltB a c = true := by
  rw [pltB_iff] at *
  omega
theorem oP_irr {a : Pt} (h : pltB a a = true) : False := by
  rw [pltB_iff] at h
  omega
theorem oP_asym {a b : Pt} (h1 : pltB a b = true) (h2 : pltB b a = true) : False := oP_irr (oP_trans h1 h2)
def Dsc (R : List Pt) : Prop := R.Pairwise fun a b => pltB b a = true
def Cvx : List Pt → Prop
  | c :: b :: a :: r => 0 < crP a b c ∧ Cvx (b :: a :: r)
  | _ => True
def Lft (S : Pt → Prop) : List Pt → Prop
  | b :: a :: r => (∀ q, S q → 0 ≤ crP a b q) ∧ Lft S (a :: r)
  | _ => True
def Bot (S : Pt → Prop) (R : List Pt) : Prop := ∃ m, R.getLast? = some m ∧ ∀ q, S q → q = m ∨ pltB m q = true
def Top (S : Pt → Prop) (R : List Pt) : Prop := ∃ m, R.head? = some m ∧ ∀ q, S q → q = m ∨ pltB q m = true
/-- The chain of a set of points. -/
structure ChI (S : Pt → Prop) (R : List Pt) : Prop where
  mem : ∀ z ∈ R, S z
  dsc : Dsc R
  cvx : Cvx R
  lft : Lft S R
  bot : Bot S R
  top : Top S R
theorem Cvx.tail {b : Pt} {R : List Pt} (h : Cvx (b :: R)) : Cvx R := by
  match R, h with
  | [], _ => trivial
  | [_], _ => trivial
  | _ :: _ :: _, h => exact h.2
theorem Lft.tail {S : Pt → Prop} {b : Pt} {R : List Pt} (h : Lft S (b :: R)) : Lft S R := by
  match R, h with
  | [], _ => trivial
  | _ :: _, h => exact h.2
theorem Dsc.tail {b : Pt} {R : List Pt} (h : Dsc (b :: R)) : Dsc R := (List.pairwise_cons.1 h).2
theorem Dsc.lt {b a : Pt} {R : List Pt} (h : Dsc (b :: R)) (ha : a ∈ R) : pltB a b = true := (List.pairwise_cons.1 h).1 a ha
theorem ChI.ext {S T : Pt → Prop} {R : List Pt} (h : ChI S R) (e : ∀ q, S q ↔ T q) : ChI T R := by
  have : S = T := funext fun q => propext (e q)
  rw [← this]
  exact h
/-- The last of a chain, the least of all. -/
theorem ChI.tail {S : Pt → Prop} {b a : Pt} {R : List Pt} (h : ChI S (b :: a :: R)) : (∀ z ∈ a :: R, S z) ∧ Dsc (a :: R) ∧ Cvx (a :: R) ∧ Lft S (a :: R) ∧ Bot S (a :: R) := by
  refine ⟨fun z hz => h.mem z (List.mem_cons_of_mem _ hz), h.dsc.tail, h.cvx.tail, h.lft.tail, ?_⟩
  obtain ⟨m, h1, h2⟩ := h.bot
  exact ⟨m, by rw [List.getLast?_cons_cons] at h1; exact h1, h2⟩
/-- Two chains with the same top: the next is the same. -/
theorem next_le {S : Pt → Prop} {b a a' : Pt} {r' : List Pt} (ha : S a) (hd : pltB a b = true) (hl : ∀ q, S q → 0 ≤ crP a b q) (hm' : ∀ z ∈ b :: a' :: r', S z) (hd' : Dsc (b :: a' :: r')) (hc' : Cvx (b :: a' :: r')) (hl' : Lft S (b :: a' :: r')) (hb' : Bot S (b :: a' :: r')) : ¬ pltB a a' = true := by
  intro hlt
  have hab' : pltB a' b = true := hd'.lt (by simp)
  have k1 := hl a' (hm' a' (by simp))
  have k2 := hl'.1 a ha
  have e1 : crP a b a' = cr2 (dif b a') (dif a' a) := by unfold crP crossI cr2 dif; simp only; grind
  have e2 : crP a' b a = -cr2 (dif b a') (dif a' a) := by unfold crP crossI cr2 dif; simp only; grind
  match r', hm', hd', hc', hl', hb' with
  | [], hm', hd', hc', hl', hb' =>
    obtain ⟨m, h1, h2⟩ := hb'
    obtain rfl : a' = m := by simpa using h1
    rcases h2 a ha with rfl | h
    · exact oP_irr hlt
    · exact oP_asym hlt h
  | c :: t, hm', hd', hc', hl', hb' =>
    have hca : pltB c a' = true := hd'.tail.lt (by simp)
    have k3 := hc'.1
    have k4 := hl'.2.1 a ha
    have e3 : crP c a' b = cr2 (dif a' c) (dif b a') := by unfold crP crossI cr2 dif; simp only; grind
    have e4 : crP c a' a = cr2 (dif a' a) (dif a' c) := by unfold crP crossI cr2 dif; simp only; grind
    have := (cr_tr (plt_pos.1 hlt) (plt_pos.1 hca) (plt_pos.1 hab') (by omega) (by omega)).2 (.inr (by omega))
    have e5 : cr2 (dif b a') (dif a' a) = -cr2 (dif a' a) (dif b a') := by unfold cr2 dif; simp only; grind
    omega
theorem chain_eq {S : Pt → Prop} : ∀ {r r' : List Pt} {b : Pt}, (∀ z ∈ b :: r, S z) → Dsc (b :: r) → Cvx (b :: r) → Lft S (b :: r) → Bot S (b :: r) → (∀ z ∈ b :: r', S z) → Dsc (b :: r') → Cvx (b :: r') → Lft S (b :: r') → Bot S (b :: r') → r = r'
  | [], [], _, _, _, _, _, _, _, _, _, _, _ => rfl
  | [], a' :: r', b, hm, hd, hc, hl, hb, hm', hd', hc', hl', hb' => by
    obtain ⟨m, h1, h2⟩ := hb
    obtain rfl : b = m := by simpa using h1
    have h3 : pltB a' b = true := hd'.lt (by simp)
    rcases h2 a' (hm' a' (by simp)) with rfl | h
    · exact (oP_irr h3).elim
    · exact (oP_asym h3 h).elim
  | a :: r, [], b, hm, hd, hc, hl, hb, hm', hd', hc', hl', hb' => by
    obtain ⟨m, h1, h2⟩ := hb'
    obtain rfl : b = m := by simpa using h1
    have h3 : pltB a b = true := hd.lt (by simp)
    rcases h2 a (hm a (by simp)) with rfl | h
    · exact (oP_irr h3).elim
    · exact (oP_asym h3 h).elim
  | a :: r, a' :: r', b, hm, hd, hc, hl, hb, hm', hd', hc', hl', hb' => by
    have h1 := next_le (hm a (by simp)) (hd.lt (by simp)) hl.1 hm' hd' hc' hl' hb'
    have h2 := next_le (hm' a' (by simp)) (hd'.lt (by simp)) hl'.1 hm hd hc hl hb
    have e : a = a' := by
      rcases oP_tri a a' with h | h | h
      · exact h
      · exact absurd h h1
      · exact absurd h h2
    subst e
    have bt : ∀ {t : List Pt}, Bot S (b :: a :: t) → Bot S (a :: t) := fun {t} h => by
      obtain ⟨m, q1, q2⟩ := h
      exact ⟨m, by rw [List.getLast?_cons_cons] at q1; exact q1, q2⟩
    rw [chain_eq (fun z hz => hm z (List.mem_cons_of_mem _ hz)) hd.tail hc.tail hl.2 (bt hb) (fun z hz => hm' z (List.mem_cons_of_mem _ hz)) hd'.tail hc'.tail hl'.2 (bt hb')]
/-- A chain of a set is the only one. -/
theorem ChI.uniq {S : Pt → Prop} {R R' : List Pt} (h : ChI S R) (h' : ChI S R') : R = R' := by
  obtain ⟨m, h1, h2⟩ := h.top
  obtain ⟨m', h1', h2'⟩ := h'.top
  match R, R', h, h', h1, h1' with
  | b :: r, b' :: r', h, h', h1, h1' =>
    obtain rfl : b = m := by simpa using h1
    obtain rfl : b' = m' := by simpa using h1'
    have e : b = b' := by
      rcases h2 b' (h'.mem b' (by simp)) with e | e
      · exact e.symm
      · rcases h2' b (h.mem b (by simp)) with e' | e'
        · exact e'
        · exact (oP_asym e e').elim
    subst e
    rw [chain_eq h.mem h.dsc h.cvx h.lft h.bot h'.mem h'.dsc h'.cvx h'.lft h'.bot]
end Go.Proofs.Ytolodncpegajkab
namespace Go.Proofs.Ytolodncpegajkab
set_option linter.all false
open Go.RowKit
def pEqG : List DArg → Option (Value × List Prop)
  | [.row m (.ints xs), .row n (.ints ys)] => some (.bool (eqL (ptsA m xs) (ptsA n ys)), [m * 2 ≤ xs.length, n * 2 ≤ ys.length, m ≤ 1000000000])
  | _ => none
theorem pEqG_ok {ds : List DArg} {v : Value} {C : List Prop} (h : pEqG ds = some (v, C)) (hC : AllP C) : Res Try.prog 20 ds v := by
  unfold pEqG at h
  split at h
  · rename_i m xs n ys
    obtain ⟨rfl, rfl⟩ : _ ∧ _ := by simpa using h
    obtain ⟨_, h2⟩ := ptsA_spec hC.1
    obtain ⟨_, h3⟩ := ptsA_spec hC.2.1
    have r1 := res_eqG (ptsA m xs) (ptsA n ys) (by unfold Big; rw [h2]; exact hC.2.2.1)
    have r2 := res_pts1 (pre := []) (post := [.row (ptsA n ys).length (.ints (flat (ptsA n ys)))]) hC.1 r1
    exact res_pts1 (pre := [.row m (.ints xs)]) (post := []) hC.2.1 r2
  · cases h
end Go.Proofs.Ytolodncpegajkab
namespace Go.Proofs.Ytolodncpegajkab
set_option linter.all false
open Go.RowKit
def aV (gs : List Pt) : Int := bif vgB gs then (arV gs : Nat) else -1
def aE (gs : List Pt) : Int := bif vgB gs then (arE gs gs.length : Nat) else -1
def aF (gs : List Pt) : Int := bif vgB gs then (arE gs gs.length : Int) - arV gs + 1 else -1
theorem arR_is (gs : List Pt) : arR gs = .tuple #[iv (aV gs), iv (aE gs), iv (aF gs)] := by
  unfold arR aV aE aF
  cases vgB gs <;> rfl
def pArr : List DArg → Option (Value × List Prop)
  | [.row n (.ints xs)] => some (.tuple #[iv (aV (ptsA n xs)), iv (aE (ptsA n xs)), iv (aF (ptsA n xs))], [n * 2 ≤ xs.length, n ≤ 1000000000])
  | _ => none
theorem pArr_ok {f : FuncId} (h0 : ∀ ps : List Pt, Big ps → Res Try.prog f [.row ps.length (.ints (flat ps))] (arR ps)) {ds : List DArg} {v : Value} {C : List Prop} (h : pArr ds = some (v, C)) (hC : AllP C) : Res Try.prog f ds v := by
  unfold pArr at h
  split at h
  · rename_i m xs
    obtain ⟨rfl, rfl⟩ : _ ∧ _ := by simpa using h
    obtain ⟨_, h2⟩ := ptsA_spec hC.1
    rw [← arR_is]
    exact res_pts1 (pre := []) (post := []) hC.1 (h0 (ptsA m xs) (by unfold Big; rw [h2]; exact hC.2.1))
  · cases h
theorem pArrS_ok {ds : List DArg} {v : Value} {C : List Prop} (h : pArr ds = some (v, C)) (hC : AllP C) : Res Try.prog 34 ds v := pArr_ok (fun ps hp => by rw [← ar_same]; exact res_sAr ps hp) h hC
theorem pArrI_ok {ds : List DArg} {v : Value} {C : List Prop} (h : pArr ds = some (v, C)) (hC : AllP C) : Res Try.prog 35 ds v := pArr_ok res_iAr h hC
def TAx : Tab := fun f ds => match f with
  | 34 => pArr ds
  | 35 => pArr ds
  | 20 => pEqG ds
  | _ => none
theorem TAx_ok : TabOk Try.prog TAx := by
  intro f ds v C h hC
  unfold TAx at h
  (try split at h)
  all_goals first | with_reducible exact pArrS_ok h hC | with_reducible exact pArrI_ok h hC | with_reducible exact pEqG_ok h hC | cases h
end Go.Proofs.Ytolodncpegajkab
namespace Go.Proofs.Ytolodncpegajkab
set_option linter.all false
open Go.RowKit
set_option maxRecDepth 100000 in
theorem tr_pick (bs : List Int) (l c : Nat) (p k : Int) : bodyM Try.prog (tabE B0) (runM Try.prog (tabE B0) 30 12) 30 76 [.pointer (some ⟨1, 0, none⟩), .int .i64 k] (memR bs l c p none) .fin = brT (decide (k < 1)) (.fin (.int .i64 (0)) [some ⟨.view, .bytes (bs)⟩, some ⟨.box, .vals [.slice (some ⟨0, 0, none⟩) (l) (c), .int .i64 (IntKind.i64.wrap (p + 1))]⟩]) (brT ((↑l : Int) == 0) (.fin (.int .i64 (0)) [some ⟨.view, .bytes (bs)⟩, some ⟨.box, .vals [.slice (some ⟨0, 0, none⟩) (l) (c), .int .i64 (IntKind.i64.wrap (p + 1))]⟩]) (brT (decide (IntKind.i64.wrap (IntKind.i64.wrap (p + 1) - 1) < (↑l : Int))) (.need ((0 : Int) ≤ IntKind.i64.wrap (IntKind.i64.wrap (p + (1 : Int)) - (1 : Int)) ∧ IntKind.i64.wrap (IntKind.i64.wrap (p + (1 : Int)) - (1 : Int)) < (↑l : Int)) (.need ((0 : Nat) + (IntKind.i64.wrap (IntKind.i64.wrap (p + (1 : Int)) - (1 : Int))).toNat * (1 : Nat) < bs.length) (.need (¬k = (0 : Int)) (.fin (.int .i64 ((IntKind.i64.wrap (bs.getD (0 + (IntKind.i64.wrap (IntKind.i64.wrap (p + 1) - 1)).toNat * 1) 0)).tmod k)) [some ⟨.view, .bytes (bs)⟩, some ⟨.box, .vals [.slice (some ⟨0, 0, none⟩) (l) (c), .int .i64 (IntKind.i64.wrap (p + 1))]⟩])))) (.need (¬(↑l : Int) = (0 : Int)) (.need ((0 : Int) ≤ (IntKind.i64.wrap (IntKind.i64.wrap (p + (1 : Int)) - (1 : Int))).tmod (↑l : Int) ∧ (IntKind.i64.wrap (IntKind.i64.wrap (p + (1 : Int)) - (1 : Int))).tmod (↑l : Int) < (↑l : Int)) (.need ((0 : Nat) + ((IntKind.i64.wrap (IntKind.i64.wrap (p + (1 : Int)) - (1 : Int))).tmod (↑l : Int)).toNat * (1 : Nat) < bs.length) (.need (¬(↑l : Int) = (0 : Int)) (.need ((0 : Int) ≤ (IntKind.i64.wrap (IntKind.i64.wrap (IntKind.i64.wrap (IntKind.i64.wrap (p + (1 : Int)) - (1 : Int)) * (7 : Int)) + (3 : Int))).tmod (↑l : Int) ∧ (IntKind.i64.wrap (IntKind.i64.wrap (IntKind.i64.wrap (IntKind.i64.wrap (p + (1 : Int)) - (1 : Int)) * (7 : Int)) + (3 : Int))).tmod (↑l : Int) < (↑l : Int)) (.need ((0 : Nat) + ((IntKind.i64.wrap (IntKind.i64.wrap (IntKind.i64.wrap (IntKind.i64.wrap (p + (1 : Int)) - (1 : Int)) * (7 : Int)) + (3 : Int))).tmod (↑l : Int)).toNat * (1 : Nat) < bs.length) (.need (¬(↑l : Int) = (0 : Int)) (.need (¬(64 : Int) = (0 : Int)) (.need (¬k = (0 : Int)) (.fin (.int .i64 ((IntKind.i64.wrap (↑(BitVec.ofInt IntKind.i64.bits (IntKind.i64.wrap (IntKind.i64.wrap (IntKind.i64.wrap (IntKind.i64.wrap (IntKind.i64.wrap (bs.getD (0 + ((IntKind.i64.wrap (IntKind.i64.wrap (p + 1) - 1)).tmod (↑l : Int)).toNat * (1 : Nat)) 0) * 131) + IntKind.i64.wrap (IntKind.i64.wrap (bs.getD (0 + ((IntKind.i64.wrap (IntKind.i64.wrap (IntKind.i64.wrap (IntKind.i64.wrap (p + 1) - 1) * 7) + 3)).tmod (↑l : Int)).toNat * (1 : Nat)) 0) * 1117)) + IntKind.i64.wrap (IntKind.i64.wrap (IntKind.i64.wrap (p + 1) - 1) * 29)) + IntKind.i64.wrap (IntKind.i64.wrap ((IntKind.i64.wrap (IntKind.i64.wrap (p + 1) - 1)).tdiv (↑l : Int)) * 53))) ^^^ BitVec.ofInt IntKind.i64.bits (IntKind.i64.wrap ((IntKind.i64.wrap (IntKind.i64.wrap (IntKind.i64.wrap (IntKind.i64.wrap (IntKind.i64.wrap (bs.getD (0 + ((IntKind.i64.wrap (IntKind.i64.wrap (p + 1) - 1)).tmod (↑l : Int)).toNat * (1 : Nat)) 0) * 131) + IntKind.i64.wrap (IntKind.i64.wrap (bs.getD (0 + ((IntKind.i64.wrap (IntKind.i64.wrap (IntKind.i64.wrap (IntKind.i64.wrap (p + 1) - 1) * 7) + 3)).tmod (↑l : Int)).toNat * (1 : Nat)) 0) * 1117)) + IntKind.i64.wrap (IntKind.i64.wrap (IntKind.i64.wrap (p + 1) - 1) * 29)) + IntKind.i64.wrap (IntKind.i64.wrap ((IntKind.i64.wrap (IntKind.i64.wrap (p + 1) - 1)).tdiv (↑l : Int)) * 53))).tdiv 64))).toNat : Int)).tmod k)) [some ⟨.view, .bytes (bs)⟩, some ⟨.box, .vals [.slice (some ⟨0, 0, none⟩) (l) (c), .int .i64 (IntKind.i64.wrap (p + 1))]⟩])))))))))))) := by kernel_rfl
def xorI (x : Int) : Int := IntKind.i64.wrap (↑(BitVec.ofInt IntKind.i64.bits x ^^^ BitVec.ofInt IntKind.i64.bits (IntKind.i64.wrap (x.tdiv 64))).toNat : Int)
def mixI (bs : List Int) (l : Nat) (p : Int) : Int := bs.getD (p.tmod l).toNat 0 * 131 + bs.getD ((p * 7 + 3).tmod l).toNat 0 * 1117 + p * 29 + p.tdiv l * 53
/-- What pick answers. -/
def pickI (bs : List Int) (l : Nat) (p k : Int) : Int := if k < 1 ∨ l = 0 then 0 else if p < l then (bs.getD p.toNat 0).tmod k else (xorI (mixI bs l p)).tmod k
/-- Is the reader in order? -/
def rdC (bs : List Int) (l : Nat) (p : Int) : Prop := l ≤ bs.length ∧ l ≤ 2000 ∧ 0 ≤ p ∧ p ≤ 1000000 ∧ Bytes bs
def pickS : RSpec := fun bs l p rest ex => match rest, ex with
  | [.int .i64 k], none => some (.int .i64 (pickI bs l p k), p + 1, [rdC bs l p])
  | _, _ => none
theorem Bytes.get {bs : List Int} (h : Bytes bs) (i : Nat) : 0 ≤ bs.getD i 0 ∧ bs.getD i 0 ≤ 255 := by
  rw [List.getD_eq_getElem?_getD]
  rcases hx : bs[i]? with _ | b
  · simp
  · simpa using h b (List.mem_of_getElem? hx)
theorem xorI_bd {x : Int} (h0 : 0 ≤ x) (h1 : x < 4611686018427387904) : 0 ≤ xorI x ∧ xorI x < 9223372036854775808 := by
  have hq : 0 ≤ x.tdiv 64 ∧ x.tdiv 64 ≤ x := by
    rw [Int.tdiv_eq_ediv_of_nonneg h0]
    omega
  unfold xorI
  rw [wr (x := x.tdiv 64) (by omega)]
  obtain ⟨a, rfl⟩ := Int.eq_ofNat_of_zero_le h0
  obtain ⟨b, hb⟩ := Int.eq_ofNat_of_zero_le hq.1
  rw [hb]
  have hb' : (b : Int) ≤ a := by rw [← hb]; exact hq.2
  have e : (BitVec.ofInt IntKind.i64.bits (a : Int) ^^^ BitVec.ofInt IntKind.i64.bits (b : Int)).toNat = a ^^^ b := by
    show (BitVec.ofInt 64 (a : Int) ^^^ BitVec.ofInt 64 (b : Int)).toNat = a ^^^ b
    rw [BitVec.toNat_xor]
    simp only [BitVec.ofInt_natCast, BitVec.toNat_ofNat]
    rw [Nat.mod_eq_of_lt (by omega), Nat.mod_eq_of_lt (by omega)]
  have hlt : a ^^^ b < 2 ^ 63 := Nat.xor_lt_two_pow (by omega) (by omega)
  rw [e, wr (by omega)]
  omega
theorem mixI_bd {bs : List Int} {l : Nat} {p : Int} (h : rdC bs l p) (hl : 0 < l) : 0 ≤ mixI bs l p ∧ mixI bs l p < 1000000000 := by
  obtain ⟨_, h2, h3, h4, h5⟩ := h
  have b1 := h5.get (p.tmod l).toNat
  have b2 := h5.get ((p * 7 + 3).tmod l).toNat
  have q : 0 ≤ p.tdiv l ∧ p.tdiv l ≤ p := by
    rw [Int.tdiv_eq_ediv_of_nonneg h3]
    exact ⟨Int.ediv_nonneg h3 (by omega), Int.ediv_le_self _ h3⟩
  unfold mixI
  omega
theorem pickI_bd {bs : List Int} {l : Nat} {p k : Int} (h : rdC bs l p) (hk : 1 ≤ k) : 0 ≤ pickI bs l p k ∧ pickI bs l p k < k := by
  unfold pickI
  split
  · omega
  rename_i hn
  have hl : 0 < l := by omega
  split
  · exact ⟨Int.tmod_nonneg _ (h.2.2.2.2.get _).1, Int.tmod_lt_of_pos _ (by omega)⟩
  · have hm := mixI_bd h hl
    exact ⟨Int.tmod_nonneg _ (xorI_bd hm.1 (by omega)).1, Int.tmod_lt_of_pos _ (by omega)⟩
theorem vk {k : IntKind} {a b : Int} (h : a = b) : Value.int k a = .int k b := by rw [h]
theorem pickS_ok : SpecOk Try.prog 76 pickS := by
  intro bs l c p rest0 ex v p' C h hC
  unfold pickS at h
  split at h
  rotate_left
  · cases h
  rename_i k
  obtain ⟨rfl, rfl, rfl⟩ : Value.int .i64 (pickI bs l p k) = v ∧ p + 1 = p' ∧ [rdC bs l p] = C := by simpa using h
  have hC := hC.1
  have hg := fun i => hC.2.2.2.2.get i
  have hC0 := hC
  obtain ⟨h1, h2, h3, h4, h5⟩ := hC
  refine ⟨tabE B0, 30, 12, tabE_ok B0_ok, rfl, ?_⟩
  rw [tr_pick]
  have e1 : IntKind.i64.wrap (p + 1) = p + 1 := wr (by omega)
  have e2 : IntKind.i64.wrap (p + 1 - 1) = p := by rw [wr (by omega)]; omega
  have e3 : IntKind.i64.wrap (p * 7) = p * 7 := wr (by omega)
  have e4 : IntKind.i64.wrap (p * 7 + 3) = p * 7 + 3 := wr (by omega)
  simp only [e1, e2, e3, e4, Nat.zero_add, Nat.mul_one]
  refine brT_ok.2 ⟨fun hk => ?_, fun hk => brT_ok.2 ⟨fun hl => ?_, fun hl => brT_ok.2 ⟨fun hp => ?_, fun hp => ?_⟩⟩⟩
  · have hk := of_decide_eq_true hk
    refine ⟨vk ?_, rfl⟩
    unfold pickI
    rw [if_pos (.inl hk)]
  · have hl : l = 0 := by simpa using hl
    refine ⟨vk ?_, rfl⟩
    unfold pickI
    rw [if_pos (.inr hl)]
  · have hk := of_decide_eq_false hk
    have hl : ¬ l = 0 := by simpa using hl
    have hp := of_decide_eq_true hp
    refine ⟨⟨h3, hp⟩, by omega, by omega, vk ?_, rfl⟩
    rw [wr (by have := hg p.toNat; omega)]
    unfold pickI
    rw [if_neg (by omega), if_pos hp]
  · have hk := of_decide_eq_false hk
    have hl : ¬ l = 0 := by simpa using hl
    have hp := of_decide_eq_false hp
    have hl0 : (0 : Int) < l := by omega
    have t1 : 0 ≤ p.tmod l ∧ p.tmod l < l := ⟨Int.tmod_nonneg _ h3, Int.tmod_lt_of_pos _ hl0⟩
    have t2 : 0 ≤ (p * 7 + 3).tmod l ∧ (p * 7 + 3).tmod l < l := ⟨Int.tmod_nonneg _ (by omega), Int.tmod_lt_of_pos _ hl0⟩
    have q : 0 ≤ p.tdiv l ∧ p.tdiv l ≤ p := by
      rw [Int.tdiv_eq_ediv_of_nonneg h3]
      exact ⟨Int.ediv_nonneg h3 (by omega), Int.ediv_le_self _ h3⟩
    have b1 := hg (p.tmod l).toNat
    have b2 := hg ((p * 7 + 3).tmod l).toNat
    have hm := mixI_bd hC0 (by omega)
    refine ⟨by omega, t1, by omega, by omega, t2, by omega, by omega, by omega, by omega, vk ?_, rfl⟩
    unfold pickI
    rw [if_neg (by omega), if_neg (by omega)]
    have em : IntKind.i64.wrap (IntKind.i64.wrap (IntKind.i64.wrap (IntKind.i64.wrap (IntKind.i64.wrap (bs.getD (p.tmod l).toNat 0) * 131) + IntKind.i64.wrap (IntKind.i64.wrap (bs.getD ((p * 7 + 3).tmod l).toNat 0) * 1117)) + IntKind.i64.wrap (p * 29)) + IntKind.i64.wrap (IntKind.i64.wrap (p.tdiv l) * 53)) = mixI bs l p := by
      clear hm
      unfold mixI
      generalize bs.getD (p.tmod l).toNat 0 = x1 at *
      generalize bs.getD ((p * 7 + 3).tmod l).toNat 0 = x2 at *
      generalize p.tdiv l = x3 at *
      simp (disch := omega) only [wr]
    rw [em]
    rfl
/-- The first table: pick. -/
def J1 : List (FuncId × RSpec) := [(76, pickS)]
theorem J1_ok : JOk Try.prog J1 := JOk.nil.cons (entersB_res (by kernel_rfl)).1 pickS_ok
def ER1 : Env := withJ (tabE B0) J1
theorem ER1_ok : EnvOk Try.prog ER1 := withJ_ok mixed (tabE_ok B0_ok) J1_ok
set_option maxRecDepth 100000 in
theorem tr_one (bs : List Int) (l c : Nat) (p : Int) (n : Nat) (xs : List Int) : bodyM Try.prog ER1 (runM Try.prog ER1 30 12) 30 66 [.pointer (some ⟨1, 0, none⟩), .slice (some ⟨2, 0, none⟩) n n] (memR bs l c p (some xs)) .fin = .need (rdC bs l p) (.need ((0 : Int) ≤ pickI bs l p (↑n : Int) ∧ pickI bs l p (↑n : Int) < (↑n : Int)) (.need ((0 : Nat) + (pickI bs l p (↑n : Int)).toNat * (1 : Nat) < xs.length) (.fin (.int .i64 (xs.getD (0 + (pickI bs l p (↑n : Int)).toNat * 1) 0)) [some ⟨.view, .bytes (bs)⟩, some ⟨.box, .vals [.slice (some ⟨0, 0, none⟩) (l) (c), .int .i64 (p + 1)]⟩, some ⟨.view, .ints (xs)⟩]))) := by kernel_rfl
set_option maxRecDepth 100000 in
theorem tr_rpt (bs : List Int) (l c : Nat) (p : Int) : bodyM Try.prog ER1 (runM Try.prog ER1 30 12) 30 109 [.pointer (some ⟨1, 0, none⟩)] (memR bs l c p none) .fin = .need (rdC bs l p) (.need (rdC bs l (p + (1 : Int))) (.fin (.agg #[.int .i64 (IntKind.i64.wrap (pickI bs l p 9 - 2)), .int .i64 (IntKind.i64.wrap (pickI bs l (p + 1) 9 - 2))]) [some ⟨.view, .bytes (bs)⟩, some ⟨.box, .vals [.slice (some ⟨0, 0, none⟩) (l) (c), .int .i64 (p + 1 + 1)]⟩, some ⟨.box, .vals [.int .i64 (IntKind.i64.wrap (pickI bs l p 9 - 2)), .int .i64 (IntKind.i64.wrap (pickI bs l (p + 1) 9 - 2))]⟩])) := by kernel_rfl
end Go.Proofs.Ytolodncpegajkab
namespace Go.Proofs.Ytolodncpegajkab
set_option linter.all false
open Go.RowKit
/-- The reader in order, with room for many more. -/
def rdK (bs : List Int) (l : Nat) (p : Int) : Prop := rdC bs l p ∧ p ≤ 900000
theorem rdK.at {bs : List Int} {l : Nat} {p : Int} (h : rdK bs l p) {q : Int} (h0 : p ≤ q) (h1 : q ≤ p + 90000) : rdC bs l q :=
  ⟨h.1.1, h.1.2.1, by have := h.1.2.2.1; omega, by have := h.2; omega, h.1.2.2.2.2⟩
def oneI (bs : List Int) (l : Nat) (p : Int) (n : Nat) (xs : List Int) : Int := xs.getD (pickI bs l p n).toNat 0
def oneS : RSpec := fun bs l p rest ex => match rest, ex with
  | [.slice (some ⟨2, 0, none⟩) n n'], some xs => some (.int .i64 (oneI bs l p n xs), p + 1, [rdC bs l p, 1 ≤ n ∧ n ≤ xs.length ∧ n' = n])
  | _, _ => none
theorem oneS_ok : SpecOk Try.prog 66 oneS := by
  intro bs l c p rest0 ex v p' C h hC
  unfold oneS at h
  split at h
  rotate_left
  · cases h
  rename_i n n' xs
  obtain ⟨rfl, rfl, rfl⟩ : Value.int .i64 (oneI bs l p n xs) = v ∧ p + 1 = p' ∧ [rdC bs l p, 1 ≤ n ∧ n ≤ xs.length ∧ n' = n] = C := by simpa using h
  obtain ⟨h1, ⟨h2, h3, rfl⟩, _⟩ := hC
  refine ⟨ER1, 30, 12, ER1_ok, rfl, ?_⟩
  rw [tr_one]
  have hb := pickI_bd (k := (n' : Int)) h1 (by omega)
  exact ⟨h1, hb, by omega, by simp only [oneI, Nat.zero_add, Nat.mul_one], rfl⟩
def rptS : RSpec := fun bs l p rest ex => match rest, ex with
  | [], none => some (.agg #[.int .i64 (pickI bs l p 9 - 2), .int .i64 (pickI bs l (p + 1) 9 - 2)], p + 2, [rdK bs l p])
  | _, _ => none
theorem box2 {bs : List Int} {l c : Nat} {p q : Int} (h : q = p) (r : List (Option Blk)) : (some ⟨.view, .bytes bs⟩ :: some ⟨.box, .vals [.slice (some ⟨0, 0, none⟩) l c, .int .i64 q]⟩ :: r : List (Option Blk)).getD 1 none = some (rdBox 0 l c p) := by rw [h]; rfl
theorem rptS_ok : SpecOk Try.prog 109 rptS := by
  intro bs l c p rest0 ex v p' C h hC
  unfold rptS at h
  split at h
  rotate_left
  · cases h
  obtain ⟨rfl, rfl, rfl⟩ : Value.agg #[.int .i64 (pickI bs l p 9 - 2), .int .i64 (pickI bs l (p + 1) 9 - 2)] = v ∧ p + 2 = p' ∧ [rdK bs l p] = C := by simpa using h
  have h1 := hC.1
  refine ⟨ER1, 30, 12, ER1_ok, rfl, ?_⟩
  rw [tr_rpt]
  have h2 := h1.at (q := p) (by omega) (by omega)
  have h3 := h1.at (q := p + 1) (by omega) (by omega)
  have b1 := pickI_bd (k := 9) h2 (by omega)
  have b2 := pickI_bd (k := 9) h3 (by omega)
  exact ⟨h2, h3, by rw [wr (by omega), wr (by omega)], box2 (by omega) _⟩
def J2 : List (FuncId × RSpec) := (66, oneS) :: (109, rptS) :: J1
theorem J2_ok : JOk Try.prog J2 := (J1_ok.cons (entersB_res (by kernel_rfl)).1 rptS_ok).cons (entersB_res (by kernel_rfl)).1 oneS_ok
def ER2 : Env := withJ (tabE B0) J2
theorem ER2_ok : EnvOk Try.prog ER2 := withJ_ok mixed (tabE_ok B0_ok) J2_ok
def farI : List Int := [1001, -1001, 1000, -1000]
def apQ (bs : List Int) (l : Nat) (p : Int) : Int := pickI bs l (p + 2) 16
def apX (bs : List Int) (l : Nat) (p : Int) : Int := if apQ bs l p = 0 then oneI bs l (p + 3) 4 farI else pickI bs l p 9 - 2
def apY (bs : List Int) (l : Nat) (p : Int) : Int := if apQ bs l p = 1 then oneI bs l (p + 3) 4 farI else pickI bs l (p + 1) 9 - 2
def apP (bs : List Int) (l : Nat) (p : Int) : Int := if apQ bs l p = 0 ∨ apQ bs l p = 1 then p + 4 else p + 3
theorem veq2 {a a' b b' : Int} (h : a = a') (k : b = b') : Value.agg #[.int .i64 a, .int .i64 b] = .agg #[.int .i64 a', .int .i64 b'] := by rw [h, k]
end Go.Proofs.Ytolodncpegajkab
namespace Go.Proofs.Ytolodncpegajkab
set_option linter.all false
open Go.RowKit
/-- How many bytes are read. -/
def rdL (n : Nat) : Nat := min n 2000
theorem rdL_of {n : Nat} (h : 2000 < (n : Int)) : rdL n = 2000 := by unfold rdL; omega
theorem rdL_no {n : Nat} (h : ¬ 2000 < (n : Int)) : rdL n = n := by unfold rdL; omega
theorem rdK0 {bs : List Int} {n : Nat} (h : Bytes bs) (hn : n ≤ bs.length) {l : Nat} (hl : l ≤ n) (h2 : l ≤ 2000) {p : Int} (h3 : 0 ≤ p) (h4 : p ≤ 900000) : rdK bs l p :=
  ⟨⟨by omega, h2, h3, by omega, h⟩, h4⟩
theorem bnd2000 {n : Nat} (h : 2000 < (n : Int)) : (0 : Int) ≤ bndI none (0 : Int) ∧ bndI none (0 : Int) ≤ bndI (some (IntKind.i64, (2000 : Int))) (↑n : Int) ∧ bndI (some (IntKind.i64, (2000 : Int))) (↑n : Int) ≤ (↑n : Int) := by
  refine ⟨Int.le_refl _, ?_, ?_⟩
  · show (0 : Int) ≤ 2000; omega
  · show (2000 : Int) ≤ n; omega
/-- The coordinates of the three points. -/
def d3 (bs : List Int) (n : Nat) : Nat → Int
  | 0 => apX bs (rdL n) 0
  | 1 => apY bs (rdL n) 0
  | 2 => apX bs (rdL n) (apP bs (rdL n) 0)
  | 3 => apY bs (rdL n) (apP bs (rdL n) 0)
  | 4 => apX bs (rdL n) (apP bs (rdL n) (apP bs (rdL n) 0))
  | _ => apY bs (rdL n) (apP bs (rdL n) (apP bs (rdL n) 0))
end Go.Proofs.Ytolodncpegajkab
namespace Go.Proofs.Ytolodncpegajkab
set_option linter.all false
open Go.RowKit
set_option maxRecDepth 100000 in
theorem tr_rgr (bs : List Int) (l c : Nat) (p : Int) : bodyM Try.prog ER2 (runM Try.prog ER2 30 12) 30 107 [.pointer (some ⟨1, 0, none⟩)] (memR bs l c p none) .fin = .need (rdC bs l p) (.need (rdC bs l (p + (1 : Int))) (.fin (.agg #[.int .i64 (IntKind.i64.wrap (pickI bs l p 7 - 3)), .int .i64 (IntKind.i64.wrap (pickI bs l (p + 1) 9 - 4))]) [some ⟨.view, .bytes (bs)⟩, some ⟨.box, .vals [.slice (some ⟨0, 0, none⟩) (l) (c), .int .i64 (p + 1 + 1)]⟩, some ⟨.box, .vals [.int .i64 (IntKind.i64.wrap (pickI bs l p 7 - 3)), .int .i64 (IntKind.i64.wrap (pickI bs l (p + 1) 9 - 4))]⟩])) := by kernel_rfl
def rgrS : RSpec := fun bs l p rest ex => match rest, ex with
  | [], none => some (.agg #[.int .i64 (pickI bs l p 7 - 3), .int .i64 (pickI bs l (p + 1) 9 - 4)], p + 2, [rdK bs l p])
  | _, _ => none
theorem rgrS_ok : SpecOk Try.prog 107 rgrS := by
  intro bs l c p rest0 ex v p' C h hC
  unfold rgrS at h
  split at h
  rotate_left
  · cases h
  obtain ⟨rfl, rfl, rfl⟩ : Value.agg #[.int .i64 (pickI bs l p 7 - 3), .int .i64 (pickI bs l (p + 1) 9 - 4)] = v ∧ p + 2 = p' ∧ [rdK bs l p] = C := by simpa using h
  have h1 := hC.1
  refine ⟨ER2, 30, 12, ER2_ok, rfl, ?_⟩
  rw [tr_rgr]
  have h2 := h1.at (q := p) (by omega) (by omega)
  have h3 := h1.at (q := p + 1) (by omega) (by omega)
  have b1 := pickI_bd (k := 7) h2 (by omega)
  have b2 := pickI_bd (k := 9) h3 (by omega)
  exact ⟨h2, h3, by rw [wr (by omega), wr (by omega)], box2 (by omega) _⟩
def JGr : List (FuncId × RSpec) := (107, rgrS) :: J2
theorem JGr_ok : JOk Try.prog JGr := J2_ok.cons (entersB_res (by kernel_rfl)).1 rgrS_ok
def ERG : Env := withJ (tabE B0) JGr
theorem ERG_ok : EnvOk Try.prog ERG := withJ_ok mixed (tabE_ok B0_ok) JGr_ok
set_option maxRecDepth 100000 in
theorem tr_agr (bs : List Int) (l c : Nat) (p : Int) : bodyM Try.prog ERG (runM Try.prog ERG 30 12) 30 108 [.pointer (some ⟨1, 0, none⟩)] (memR bs l c p none) .fin = .need (rdK bs l p) (.need (rdC bs l (p + (2 : Int))) (brT (pickI bs l (p + 2) 16 == 0) (.need (rdC bs l (p + (2 : Int) + (1 : Int))) (.need ((1 : Nat) ≤ (3 : Nat) ∧ (3 : Nat) ≤ (3 : Nat) ∧ (3 : Nat) = (3 : Nat)) (.fin (.agg #[.int .i64 (oneI bs l (p + 2 + 1) 3 [1001, -1001, 1000]), .int .i64 (pickI bs l (p + 1) 9 - 4)]) [some ⟨.view, .bytes (bs)⟩, some ⟨.box, .vals [.slice (some ⟨0, 0, none⟩) (l) (c), .int .i64 (p + 2 + 1 + 1)]⟩, some ⟨.box, .vals [.int .i64 (oneI bs l (p + 2 + 1) 3 [1001, -1001, 1000]), .int .i64 (pickI bs l (p + 1) 9 - 4)]⟩, some ⟨.box, .vals [.int .i64 (oneI bs l (p + 2 + 1) 3 [1001, -1001, 1000]), .int .i64 (pickI bs l (p + 1) 9 - 4)]⟩, some ⟨.row 3 1, .vals [.int .i64 (1001), .int .i64 (-1001), .int .i64 (1000)]⟩]))) (brT (pickI bs l (p + 2) 16 == 1) (.need (rdC bs l (p + (2 : Int) + (1 : Int))) (.need ((1 : Nat) ≤ (3 : Nat) ∧ (3 : Nat) ≤ (3 : Nat) ∧ (3 : Nat) = (3 : Nat)) (.fin (.agg #[.int .i64 (pickI bs l p 7 - 3), .int .i64 (oneI bs l (p + 2 + 1) 3 [1001, -1001, 1000])]) [some ⟨.view, .bytes (bs)⟩, some ⟨.box, .vals [.slice (some ⟨0, 0, none⟩) (l) (c), .int .i64 (p + 2 + 1 + 1)]⟩, some ⟨.box, .vals [.int .i64 (pickI bs l p 7 - 3), .int .i64 (oneI bs l (p + 2 + 1) 3 [1001, -1001, 1000])]⟩, some ⟨.box, .vals [.int .i64 (pickI bs l p 7 - 3), .int .i64 (oneI bs l (p + 2 + 1) 3 [1001, -1001, 1000])]⟩, some ⟨.row 3 1, .vals [.int .i64 (1001), .int .i64 (-1001), .int .i64 (1000)]⟩]))) (.fin (.agg #[.int .i64 (pickI bs l p 7 - 3), .int .i64 (pickI bs l (p + 1) 9 - 4)]) [some ⟨.view, .bytes (bs)⟩, some ⟨.box, .vals [.slice (some ⟨0, 0, none⟩) (l) (c), .int .i64 (p + 2 + 1)]⟩, some ⟨.box, .vals [.int .i64 (pickI bs l p 7 - 3), .int .i64 (pickI bs l (p + 1) 9 - 4)]⟩, some ⟨.box, .vals [.int .i64 (pickI bs l p 7 - 3), .int .i64 (pickI bs l (p + 1) 9 - 4)]⟩])))) := by kernel_rfl
def agL : List Int := [1001, -1001, 1000]
def agQ (bs : List Int) (l : Nat) (p : Int) : Int := pickI bs l (p + 2) 16
def agM (bs : List Int) (l : Nat) (p : Int) : Int := if agQ bs l p = 0 then oneI bs l (p + 3) 3 agL else pickI bs l p 7 - 3
def agB (bs : List Int) (l : Nat) (p : Int) : Int := if agQ bs l p = 1 then oneI bs l (p + 3) 3 agL else pickI bs l (p + 1) 9 - 4
def agP (bs : List Int) (l : Nat) (p : Int) : Int := if agQ bs l p = 0 ∨ agQ bs l p = 1 then p + 4 else p + 3
def agrS : RSpec := fun bs l p rest ex => match rest, ex with
  | [], none => some (.agg #[.int .i64 (agM bs l p), .int .i64 (agB bs l p)], agP bs l p, [rdK bs l p])
  | _, _ => none
theorem agrS_ok : SpecOk Try.prog 108 agrS := by
  intro bs l c p rest0 ex v p' C h hC
  unfold agrS at h
  split at h
  rotate_left
  · cases h
  obtain ⟨rfl, rfl, rfl⟩ : Value.agg #[.int .i64 (agM bs l p), .int .i64 (agB bs l p)] = v ∧ agP bs l p = p' ∧ [rdK bs l p] = C := by simpa using h
  have h1 := hC.1
  refine ⟨ERG, 30, 12, ERG_ok, rfl, ?_⟩
  rw [tr_agr]
  have e3 : p + 2 + 1 = p + 3 := by omega
  have e4 : p + 3 + 1 = p + 4 := by omega
  simp only [e3, e4]
  refine ⟨h1, h1.at (by omega) (by omega), brT_ok.2 ⟨fun hq => ?_, fun hq => brT_ok.2 ⟨fun hq' => ?_, fun hq' => ?_⟩⟩⟩
  · have hq : agQ bs l p = 0 := by simpa [agQ] using hq
    exact ⟨h1.at (by omega) (by omega), by decide, veq2 (by unfold agM; rw [if_pos hq]; rfl) (by unfold agB; rw [if_neg (by omega)]), box2 (by unfold agP; rw [if_pos (.inl hq)]) _⟩
  · have hq : ¬ agQ bs l p = 0 := by simpa [agQ] using hq
    have hq' : agQ bs l p = 1 := by simpa [agQ] using hq'
    exact ⟨h1.at (by omega) (by omega), by decide, veq2 (by unfold agM; rw [if_neg hq]) (by unfold agB; rw [if_pos hq']; rfl), box2 (by unfold agP; rw [if_pos (.inr hq')]) _⟩
  · have hq : ¬ agQ bs l p = 0 := by simpa [agQ] using hq
    have hq' : ¬ agQ bs l p = 1 := by simpa [agQ] using hq'
    exact ⟨veq2 (by unfold agM; rw [if_neg hq]) (by unfold agB; rw [if_neg hq']), box2 (by unfold agP; rw [if_neg (by omega)]) _⟩
def JGr2 : List (FuncId × RSpec) := (108, agrS) :: JGr
theorem JGr2_ok : JOk Try.prog JGr2 := JGr_ok.cons (entersB_res (by kernel_rfl)).1 agrS_ok
def ERG2 : Env := withJ (tabE B0) JGr2
theorem ERG2_ok : EnvOk Try.prog ERG2 := withJ_ok mixed (tabE_ok B0_ok) JGr2_ok
end Go.Proofs.Ytolodncpegajkab
namespace Go.Proofs.Ytolodncpegajkab
set_option linter.all false
open Go.RowKit
/-- Is a graph in a list? -/
def hasE (o : List Pt) (x y : Int) : Bool := !(allQ (ngQ o x y) 0 o.length)
noncomputable def c_gri : Code := ((loopsOf (codeOf Try.f63))[1]?).getD .skip
def k_gri : Ex → List Nat := keeps [0, 3, 4, 5, 6, 7] [(2, [0, 3, 4, 5, 6]), (1, [0, 3, 4]), (0, [0, 3])] [2]
def s_gri (bs : List Int) (l c : Nat) (n p : Int) (o : List Pt) (x y : Int) : Nat × Bool → St := fun (i, b) => ⟨(.pointer (some ⟨1, 0, none⟩) :: topV :: topV :: .slice (some ⟨4, 0, none⟩) o.length o.length :: .int .i64 n :: .pointer (some ⟨5, 0, none⟩) :: .bool b :: .int .i64 i :: topV :: topV :: topV :: topV :: topV :: topV :: topV :: topV :: topV :: topV :: topV :: topV :: topV :: topV :: topV :: topV :: topV :: topV :: topV :: topV :: topV :: topV :: topV :: topV :: topV :: topV :: topV :: topV :: topV :: topV :: topV :: topV :: topV :: topV :: topV :: topV :: topV :: topV :: topV :: topV :: topV :: topV :: topV :: topV :: topV :: topV :: topV :: topV :: topV :: []), [some ⟨.view, .bytes bs⟩, some ⟨.box, .vals [.slice (some ⟨0, 0, none⟩) l c, .int .i64 p]⟩, some ⟨.dead, .vals []⟩, some ⟨.dead, .vals []⟩, some ⟨.row 36 2, .ints (flat o)⟩, some ⟨.box, .vals [.int .i64 x, .int .i64 y]⟩]⟩
def re_gri : Nat × Bool → Ex := fun _ => .exit 2
def rs_gri (bs : List Int) (l c : Nat) (n p : Int) (o : List Pt) (x y : Int) : Nat × Bool → St := fun (i, b) => ⟨(.pointer (some ⟨1, 0, none⟩) :: topV :: topV :: .slice (some ⟨4, 0, none⟩) o.length o.length :: .int .i64 n :: .pointer (some ⟨5, 0, none⟩) :: .bool (hasE o x y) :: topV :: topV :: topV :: topV :: topV :: topV :: topV :: topV :: topV :: topV :: topV :: topV :: topV :: topV :: topV :: topV :: topV :: topV :: topV :: topV :: topV :: topV :: topV :: topV :: topV :: topV :: topV :: topV :: topV :: topV :: topV :: topV :: topV :: topV :: topV :: topV :: topV :: topV :: topV :: topV :: topV :: topV :: topV :: topV :: topV :: topV :: topV :: topV :: topV :: topV :: []), [some ⟨.view, .bytes bs⟩, some ⟨.box, .vals [.slice (some ⟨0, 0, none⟩) l c, .int .i64 p]⟩, some ⟨.dead, .vals []⟩, some ⟨.dead, .vals []⟩, some ⟨.row 36 2, .ints (flat o)⟩, some ⟨.box, .vals [.int .i64 x, .int .i64 y]⟩]⟩
set_option maxRecDepth 100000 in
theorem tr_gri (bs : List Int) (l c : Nat) (n p : Int) (o : List Pt) (x y : Int) (i : Nat) (b : Bool) : bodyL Try.prog ERG2 30 12 noL 2 c_gri k_gri 6 (s_gri bs l c n p o x y (i, b)) = brT (decide ((↑i : Int) < (↑o.length : Int))) (brT (b) (.leaf .normal ⟨(.pointer (some ⟨1, 0, none⟩) :: topV :: topV :: .slice (some ⟨4, 0, none⟩) (o.length) (o.length) :: .int .i64 (n) :: .pointer (some ⟨5, 0, none⟩) :: .bool (true) :: .int .i64 (IntKind.i64.wrap ((↑i : Int) + 1)) :: topV :: topV :: topV :: topV :: topV :: topV :: topV :: topV :: topV :: topV :: topV :: topV :: topV :: topV :: topV :: topV :: topV :: topV :: topV :: topV :: topV :: topV :: topV :: topV :: topV :: topV :: topV :: topV :: topV :: topV :: topV :: topV :: topV :: topV :: topV :: topV :: topV :: topV :: topV :: topV :: topV :: topV :: topV :: topV :: topV :: topV :: topV :: topV :: topV :: []), [some ⟨.view, .bytes (bs)⟩, some ⟨.box, .vals [.slice (some ⟨0, 0, none⟩) (l) (c), .int .i64 (p)]⟩, some deadB, some deadB, some ⟨.row 36 2, .ints (flat o)⟩, some ⟨.box, .vals [.int .i64 (x), .int .i64 (y)]⟩]⟩) (.need ((0 : Int) ≤ (↑i : Int) ∧ (↑i : Int) < (↑o.length : Int)) (.need ((0 : Nat) + (↑i : Int).toNat * (2 : Nat) + (2 : Nat) ≤ (flat o).length) (.leaf .normal ⟨(.pointer (some ⟨1, 0, none⟩) :: topV :: topV :: .slice (some ⟨4, 0, none⟩) (o.length) (o.length) :: .int .i64 (n) :: .pointer (some ⟨5, 0, none⟩) :: .bool (negB false ((flat o).getD (0 + (↑i : Int).toNat * 2) 0 == x && ((flat o).getD (0 + (↑i : Int).toNat * 2 + 1) 0 == y && true))) :: .int .i64 (IntKind.i64.wrap ((↑i : Int) + 1)) :: topV :: topV :: topV :: topV :: topV :: topV :: topV :: topV :: topV :: topV :: topV :: topV :: topV :: topV :: topV :: topV :: topV :: topV :: topV :: topV :: topV :: topV :: topV :: topV :: topV :: topV :: topV :: topV :: topV :: topV :: topV :: topV :: topV :: topV :: topV :: topV :: topV :: topV :: topV :: topV :: topV :: topV :: topV :: topV :: topV :: topV :: topV :: topV :: topV :: []), [some ⟨.view, .bytes (bs)⟩, some ⟨.box, .vals [.slice (some ⟨0, 0, none⟩) (l) (c), .int .i64 (p)]⟩, some deadB, some deadB, some ⟨.row 36 2, .ints (flat o)⟩, some ⟨.box, .vals [.int .i64 (x), .int .i64 (y)]⟩]⟩)))) (.leaf (.exit 2) ⟨(.pointer (some ⟨1, 0, none⟩) :: topV :: topV :: .slice (some ⟨4, 0, none⟩) (o.length) (o.length) :: .int .i64 (n) :: .pointer (some ⟨5, 0, none⟩) :: .bool (b) :: topV :: topV :: topV :: topV :: topV :: topV :: topV :: topV :: topV :: topV :: topV :: topV :: topV :: topV :: topV :: topV :: topV :: topV :: topV :: topV :: topV :: topV :: topV :: topV :: topV :: topV :: topV :: topV :: topV :: topV :: topV :: topV :: topV :: topV :: topV :: topV :: topV :: topV :: topV :: topV :: topV :: topV :: topV :: topV :: topV :: topV :: topV :: topV :: topV :: topV :: []), [some ⟨.view, .bytes (bs)⟩, some ⟨.box, .vals [.slice (some ⟨0, 0, none⟩) (l) (c), .int .i64 (p)]⟩, some deadB, some deadB, some ⟨.row 36 2, .ints (flat o)⟩, some ⟨.box, .vals [.int .i64 (x), .int .i64 (y)]⟩]⟩) := by kernel_rfl
set_option maxRecDepth 100000 in
theorem nl_gri : loopsOf c_gri = [] := by kernel_rfl
def inv_gri (bs : List Int) (l c : Nat) (n p : Int) (o : List Pt) (x y : Int) : Nat × Bool → Prop := fun (i, b) => i ≤ o.length ∧ (b || !(allQ (ngQ o x y) i (o.length - i))) = hasE o x y
def me_gri (bs : List Int) (l c : Nat) (n p : Int) (o : List Pt) (x y : Int) : Nat × Bool → Nat := fun (i, b) => o.length - i
/-- A round of this loop. -/
def Round_gri (bs : List Int) (l c : Nat) (n p : Int) (o : List Pt) (x y : Int) : Prop := ∀ xx : Nat × Bool, inv_gri bs l c n p o x y xx → (bodyL Try.prog ERG2 30 12 noL 2 c_gri k_gri 6 (s_gri bs l c n p o x y xx)).ok (RoundEnd 6 (s_gri bs l c n p o x y) (inv_gri bs l c n p o x y) (me_gri bs l c n p o x y) re_gri (rs_gri bs l c n p o x y) xx) (fun _ _ => False)
def e_gri (s : St) (k : Ex → St → Tree) : Option Tree := match Nat.beq s.tmps.length 57, pickL s.tmps [0, 3, 4, 5, 6, 7], s.mem with
  | true, [.pointer (some ⟨1, 0, none⟩), .slice (some ⟨4, 0, none⟩) z _, .int .i64 n1, .pointer (some ⟨5, 0, none⟩), .bool b0, .int .i64 ii], [some ⟨.view, .bytes bs⟩, some ⟨.box, .vals [.slice (some ⟨0, 0, none⟩) l c, .int .i64 p]⟩, some ⟨.dead, .vals []⟩, some ⟨.dead, .vals []⟩, some ⟨.row 36 2, .ints xs⟩, some ⟨.box, .vals [.int .i64 x, .int .i64 y]⟩] => some (needs [ii = 0, b0 = false, xs.length = z * 2, z ≤ 1000] (k (.exit 2) ⟨(.pointer (some ⟨1, 0, none⟩) :: topV :: topV :: .slice (some ⟨4, 0, none⟩) z z :: .int .i64 n1 :: .pointer (some ⟨5, 0, none⟩) :: .bool (hasE (ptsA z xs) x y) :: topV :: topV :: topV :: topV :: topV :: topV :: topV :: topV :: topV :: topV :: topV :: topV :: topV :: topV :: topV :: topV :: topV :: topV :: topV :: topV :: topV :: topV :: topV :: topV :: topV :: topV :: topV :: topV :: topV :: topV :: topV :: topV :: topV :: topV :: topV :: topV :: topV :: topV :: topV :: topV :: topV :: topV :: topV :: topV :: topV :: topV :: topV :: topV :: topV :: topV :: []), [some ⟨.view, .bytes bs⟩, some ⟨.box, .vals [.slice (some ⟨0, 0, none⟩) l c, .int .i64 p]⟩, some ⟨.dead, .vals []⟩, some ⟨.dead, .vals []⟩, some ⟨.row 36 2, .ints xs⟩, some ⟨.box, .vals [.int .i64 x, .int .i64 y]⟩]⟩))
  | _, _, _ => none
set_option maxRecDepth 100000 in
set_option maxHeartbeats 2000000 in
theorem round_gri (bs : List Int) (l c : Nat) (n p : Int) (o : List Pt) (x y : Int) (h : o.length ≤ 1000) : Round_gri bs l c n p o x y := by
  rintro ⟨i, b⟩ ⟨h1, h2⟩
  rw [tr_gri]
  have fl := flat_length o
  refine brT_ok.2 ⟨fun hlt => ?_, fun hge => ?_⟩
  · have hi : i < o.length := by have := of_decide_eq_true hlt; omega
    have st := allQ_step (P := ngQ o x y) (i := i) (n := o.length) hi
    rw [wsucc (n := o.length) hi (by omega)]
    simp only [Int.toNat_natCast, Nat.zero_add, flat_get0, flat_get1]
    refine brT_ok.2 ⟨fun q => ?_, fun q => ?_⟩
    · subst q
      rw [Bool.true_or] at h2
      refine ⟨(i + 1, true), [], ⟨by omega, by rw [Bool.true_or]; exact h2⟩, ?_, rfl, by simp only [rs_gri], ?_⟩
      · show o.length - (i + 1) < o.length - i; omega
      · repeat' (first | exact True.intro | exact rfl | exact fun _ => rfl | (simp; done) | refine And.intro ?_ ?_)
    · subst q
      have e : negB false ((o.getD i (0, 0)).1 == x && ((o.getD i (0, 0)).2 == y && true)) = !(ngQ o x y i) := by
        unfold ngQ
        rw [Bool.and_true, Bool.not_not]
        rfl
      rw [e]
      refine ⟨by omega, by omega, (i + 1, !(ngQ o x y i)), [], ⟨by omega, ?_⟩, ?_, rfl, by simp only [rs_gri], ?_⟩
      · rw [← h2, st, Bool.false_or, Bool.not_and]
      · show o.length - (i + 1) < o.length - i; omega
      · repeat' (first | exact True.intro | exact rfl | exact fun _ => rfl | (simp; done) | refine And.intro ?_ ?_)
  · have hge := of_decide_eq_false hge
    obtain rfl : i = o.length := by omega
    have e : b = hasE o x y := by
      rw [← h2, show allQ (ngQ o x y) o.length (o.length - o.length) = true from allQ_end (by omega)]
      simp
    refine ⟨rfl, [], ?_⟩
    simp only [rs_gri, e]
    repeat' (first | exact True.intro | exact rfl | exact fun _ => rfl | (simp; done) | refine And.intro ?_ ?_)
set_option maxRecDepth 100000 in
theorem lg_gri : LoopE Try.prog e_gri c_gri := by
  intro s k t F H hlt ht
  unfold e_gri at hlt
  split at hlt
  rotate_left
  · cases hlt
  rename_i hlen hpick hmem
  obtain ⟨tmps, mem⟩ := s
  simp only at hlen hpick hmem
  subst hmem
  obtain rfl := Option.some.inj hlt
  obtain ⟨⟨rfl, rfl, h1, h2, _⟩, ht2⟩ := needs_ok ht
  clear ht hlt
  obtain ⟨o, rfl, rfl⟩ := even_flat h1
  rw [ptsA_flat] at ht2
  refine ⟨_, _, ht2, loop_run mixed ERG2_ok (s_gri _ _ _ _ _ o _ _) (inv_gri _ _ _ _ _ o _ _) (me_gri _ _ _ _ _ o _ _) re_gri (rs_gri _ _ _ _ _ o _ _) k_gri (fun _ => rfl) (noLoops nl_gri) (round_gri _ _ _ _ _ o _ _ h2) (x := (0, false)) ⟨Nat.zero_le _, by simp [hasE]⟩ (π := []) rfl ?_⟩
  refine ⟨rfl, rfl, ?_, wvs_spread' [0, 3, 4, 5, 6, 7] hlen rfl ?_⟩
  · repeat' (first | exact True.intro | exact rfl | exact wv_top _ _ | exact fun _ => rfl | assumption | exact Eq.symm (by assumption) | exact vI0 rfl | refine And.intro ?_ ?_)
  · rw [hpick]
    repeat' (first | exact True.intro | exact rfl | exact wv_top _ _ | exact fun _ => rfl | assumption | exact Eq.symm (by assumption) | exact vI0 rfl | refine And.intro ?_ ?_)
def ltGi : LT := fun j s k => match j with
  | 1 => e_gri s k
  | _ => none
def gsQ (bs : List Int) (l : Nat) (p : Int) : Pt := (pickI bs l p 7 - 3, pickI bs l (p + 1) 9 - 4)
def gsN (bs : List Int) (l : Nat) (o : List Pt) (p : Int) : Bool := !(hasE o (gsQ bs l p).1 (gsQ bs l p).2)
def gsO (bs : List Int) (l : Nat) (o : List Pt) (p : Int) : List Pt := bif gsN bs l o p || pickI bs l (p + 2) 10 == 0 then o ++ [gsQ bs l p] else o
def gsE (bs : List Int) (l : Nat) (o : List Pt) (p : Int) : Int := bif gsN bs l o p then p + 2 else p + 3
def gsL (bs : List Int) (l : Nat) : Nat → List Pt → Int → List Pt
  | 0, o, _ => o
  | n + 1, o, p => gsL bs l n (gsO bs l o p) (gsE bs l o p)
def gsP (bs : List Int) (l : Nat) : Nat → List Pt → Int → Int
  | 0, _, p => p
  | n + 1, o, p => gsP bs l n (gsO bs l o p) (gsE bs l o p)
noncomputable def c_gro : Code := ((loopsOf (codeOf Try.f63))[0]?).getD .skip
def k_gro : Ex → List Nat := keeps [0, 3, 4] [(0, [0, 3])] [2]
def s_gro (bs : List Int) (l c : Nat) : Nat × (List Pt) × Int → St := fun (n, o, p) => ⟨(.pointer (some ⟨1, 0, none⟩) :: topV :: topV :: .slice (some ⟨4, 0, none⟩) o.length o.length :: .int .i64 n :: topV :: topV :: topV :: topV :: topV :: topV :: topV :: topV :: topV :: topV :: topV :: topV :: topV :: topV :: topV :: topV :: topV :: topV :: topV :: topV :: topV :: topV :: topV :: topV :: topV :: topV :: topV :: topV :: topV :: topV :: topV :: topV :: topV :: topV :: topV :: topV :: topV :: topV :: topV :: topV :: topV :: topV :: topV :: topV :: topV :: topV :: topV :: topV :: topV :: topV :: topV :: topV :: []), [some ⟨.view, .bytes bs⟩, some ⟨.box, .vals [.slice (some ⟨0, 0, none⟩) l c, .int .i64 p]⟩, some ⟨.dead, .vals []⟩, some ⟨.dead, .vals []⟩, some ⟨.row 36 2, .ints (flat o)⟩]⟩
def re_gro : Nat × (List Pt) × Int → Ex := fun _ => .exit 0
def rs_gro (bs : List Int) (l c : Nat) : Nat × (List Pt) × Int → St := fun (n, o, p) => ⟨(.pointer (some ⟨1, 0, none⟩) :: topV :: topV :: .slice (some ⟨4, 0, none⟩) (gsL bs l n o p).length (gsL bs l n o p).length :: topV :: topV :: topV :: topV :: topV :: topV :: topV :: topV :: topV :: topV :: topV :: topV :: topV :: topV :: topV :: topV :: topV :: topV :: topV :: topV :: topV :: topV :: topV :: topV :: topV :: topV :: topV :: topV :: topV :: topV :: topV :: topV :: topV :: topV :: topV :: topV :: topV :: topV :: topV :: topV :: topV :: topV :: topV :: topV :: topV :: topV :: topV :: topV :: topV :: topV :: topV :: topV :: topV :: []), [some ⟨.view, .bytes bs⟩, some ⟨.box, .vals [.slice (some ⟨0, 0, none⟩) l c, .int .i64 (gsP bs l n o p)]⟩, some ⟨.dead, .vals []⟩, some ⟨.dead, .vals []⟩, some ⟨.row 36 2, .ints (flat (gsL bs l n o p))⟩]⟩
set_option maxRecDepth 100000 in
theorem tr_gro (bs : List Int) (l c : Nat) (n : Nat) (o : List Pt) (p : Int) : bodyL Try.prog ERG2 30 12 ltGi 1 c_gro k_gro 16 (s_gro bs l c (n, o, p)) = brT (decide (0 < (↑n : Int))) (.need (rdK bs l p) (.need ((0 : Int) = (0 : Int)) (.need (false = false) (.need ((flat o).length = o.length * (2 : Nat)) (.need (o.length ≤ (1000 : Nat)) (brT (!hasE (ptsA o.length (flat o)) (pickI bs l p 7 - 3) (pickI bs l (p + 1) 9 - 4)) (.need ((o.length + (1 : Nat)) * (16 : Nat) ≤ (140737488355328 : Nat) ∧ o.length + (1 : Nat) ≤ (1000000 : Nat)) (.need ((0 : Nat) + o.length * (2 : Nat) ≤ (flat o).length) (.leaf .normal ⟨(.pointer (some ⟨1, 0, none⟩) :: topV :: topV :: .slice (some ⟨7, 0, none⟩) (o.length + 1) (o.length + 1) :: .int .i64 (IntKind.i64.wrap ((↑n : Int) - 1)) :: topV :: topV :: topV :: topV :: topV :: topV :: topV :: topV :: topV :: topV :: topV :: topV :: topV :: topV :: topV :: topV :: topV :: topV :: topV :: topV :: topV :: topV :: topV :: topV :: topV :: topV :: topV :: topV :: topV :: topV :: topV :: topV :: topV :: topV :: topV :: topV :: topV :: topV :: topV :: topV :: topV :: topV :: topV :: topV :: topV :: topV :: topV :: topV :: topV :: topV :: topV :: topV :: []), [some ⟨.view, .bytes (bs)⟩, some ⟨.box, .vals [.slice (some ⟨0, 0, none⟩) (l) (c), .int .i64 (p + 2)]⟩, some deadB, some deadB, some deadB, some ⟨.box, .vals [.int .i64 (pickI bs l p 7 - 3), .int .i64 (pickI bs l (p + 1) 9 - 4)]⟩, some ⟨.row 36 2, .vals [.int .i64 (pickI bs l p 7 - 3), .int .i64 (pickI bs l (p + 1) 9 - 4)]⟩, some ⟨.row 36 2, .ints (List.take (o.length * 2) (List.drop 0 (flat o)) ++ [pickI bs l p 7 - 3, pickI bs l (p + 1) 9 - 4])⟩]⟩))) (.need (rdC bs l (p + (2 : Int))) (brT (pickI bs l (p + 2) 10 == 0) (.need ((o.length + (1 : Nat)) * (16 : Nat) ≤ (140737488355328 : Nat) ∧ o.length + (1 : Nat) ≤ (1000000 : Nat)) (.need ((0 : Nat) + o.length * (2 : Nat) ≤ (flat o).length) (.leaf .normal ⟨(.pointer (some ⟨1, 0, none⟩) :: topV :: topV :: .slice (some ⟨7, 0, none⟩) (o.length + 1) (o.length + 1) :: .int .i64 (IntKind.i64.wrap ((↑n : Int) - 1)) :: topV :: topV :: topV :: topV :: topV :: topV :: topV :: topV :: topV :: topV :: topV :: topV :: topV :: topV :: topV :: topV :: topV :: topV :: topV :: topV :: topV :: topV :: topV :: topV :: topV :: topV :: topV :: topV :: topV :: topV :: topV :: topV :: topV :: topV :: topV :: topV :: topV :: topV :: topV :: topV :: topV :: topV :: topV :: topV :: topV :: topV :: topV :: topV :: topV :: topV :: topV :: topV :: []), [some ⟨.view, .bytes (bs)⟩, some ⟨.box, .vals [.slice (some ⟨0, 0, none⟩) (l) (c), .int .i64 (p + 2 + 1)]⟩, some deadB, some deadB, some deadB, some ⟨.box, .vals [.int .i64 (pickI bs l p 7 - 3), .int .i64 (pickI bs l (p + 1) 9 - 4)]⟩, some ⟨.row 36 2, .vals [.int .i64 (pickI bs l p 7 - 3), .int .i64 (pickI bs l (p + 1) 9 - 4)]⟩, some ⟨.row 36 2, .ints (List.take (o.length * 2) (List.drop 0 (flat o)) ++ [pickI bs l p 7 - 3, pickI bs l (p + 1) 9 - 4])⟩]⟩))) (.leaf .normal ⟨(.pointer (some ⟨1, 0, none⟩) :: topV :: topV :: .slice (some ⟨4, 0, none⟩) (o.length) (o.length) :: .int .i64 (IntKind.i64.wrap ((↑n : Int) - 1)) :: topV :: topV :: topV :: topV :: topV :: topV :: topV :: topV :: topV :: topV :: topV :: topV :: topV :: topV :: topV :: topV :: topV :: topV :: topV :: topV :: topV :: topV :: topV :: topV :: topV :: topV :: topV :: topV :: topV :: topV :: topV :: topV :: topV :: topV :: topV :: topV :: topV :: topV :: topV :: topV :: topV :: topV :: topV :: topV :: topV :: topV :: topV :: topV :: topV :: topV :: topV :: topV :: []), [some ⟨.view, .bytes (bs)⟩, some ⟨.box, .vals [.slice (some ⟨0, 0, none⟩) (l) (c), .int .i64 (p + 2 + 1)]⟩, some deadB, some deadB, some ⟨.row 36 2, .ints (flat o)⟩, some ⟨.box, .vals [.int .i64 (pickI bs l p 7 - 3), .int .i64 (pickI bs l (p + 1) 9 - 4)]⟩]⟩))))))))) (.leaf (.exit 0) ⟨(.pointer (some ⟨1, 0, none⟩) :: topV :: topV :: .slice (some ⟨4, 0, none⟩) (o.length) (o.length) :: topV :: topV :: topV :: topV :: topV :: topV :: topV :: topV :: topV :: topV :: topV :: topV :: topV :: topV :: topV :: topV :: topV :: topV :: topV :: topV :: topV :: topV :: topV :: topV :: topV :: topV :: topV :: topV :: topV :: topV :: topV :: topV :: topV :: topV :: topV :: topV :: topV :: topV :: topV :: topV :: topV :: topV :: topV :: topV :: topV :: topV :: topV :: topV :: topV :: topV :: topV :: topV :: topV :: []), [some ⟨.view, .bytes (bs)⟩, some ⟨.box, .vals [.slice (some ⟨0, 0, none⟩) (l) (c), .int .i64 (p)]⟩, some deadB, some deadB, some ⟨.row 36 2, .ints (flat o)⟩]⟩) := by kernel_rfl
def inv_gro (bs : List Int) (l c : Nat) : Nat × (List Pt) × Int → Prop := fun (n, o, p) => o.length + n ≤ 100 ∧ 0 ≤ p ∧ p + 6 * n ≤ 900000
def me_gro (bs : List Int) (l c : Nat) : Nat × (List Pt) × Int → Nat := fun (n, o, p) => n
/-- A round of this loop. -/
def Round_gro (bs : List Int) (l c : Nat) : Prop := ∀ xx : Nat × (List Pt) × Int, inv_gro bs l c xx → (bodyL Try.prog ERG2 30 12 ltGi 1 c_gro k_gro 16 (s_gro bs l c xx)).ok (RoundEnd 4 (s_gro bs l c) (inv_gro bs l c) (me_gro bs l c) re_gro (rs_gro bs l c) xx) (fun _ _ => False)
def e_gro (s : St) (k : Ex → St → Tree) : Option Tree := match Nat.beq s.tmps.length 57, pickL s.tmps [0, 3, 4], s.mem with
  | true, [.pointer (some ⟨1, 0, none⟩), .slice (some ⟨2, 0, none⟩) z _, .int .i64 n1], [some ⟨.view, .bytes bs⟩, some ⟨.box, .vals [.slice (some ⟨0, 0, none⟩) l c, .int .i64 p]⟩, some ⟨.row 36 2, .vals []⟩, some ⟨.row 3 1, .vals w⟩] => some (needs [z = 0, 0 ≤ n1 ∧ n1 ≤ 100, l ≤ bs.length ∧ l ≤ 2000 ∧ Bytes bs, 0 ≤ p ∧ p ≤ 800000] (k (.exit 0) ⟨(.pointer (some ⟨1, 0, none⟩) :: topV :: topV :: .slice (some ⟨4, 0, none⟩) (gsL bs l n1.toNat [] p).length (gsL bs l n1.toNat [] p).length :: topV :: topV :: topV :: topV :: topV :: topV :: topV :: topV :: topV :: topV :: topV :: topV :: topV :: topV :: topV :: topV :: topV :: topV :: topV :: topV :: topV :: topV :: topV :: topV :: topV :: topV :: topV :: topV :: topV :: topV :: topV :: topV :: topV :: topV :: topV :: topV :: topV :: topV :: topV :: topV :: topV :: topV :: topV :: topV :: topV :: topV :: topV :: topV :: topV :: topV :: topV :: topV :: topV :: []), [some ⟨.view, .bytes bs⟩, some ⟨.box, .vals [.slice (some ⟨0, 0, none⟩) l c, .int .i64 (gsP bs l n1.toNat [] p)]⟩, some ⟨.dead, .vals []⟩, some ⟨.dead, .vals []⟩, some ⟨.row 36 2, .ints (flat (gsL bs l n1.toNat [] p))⟩]⟩))
  | _, _, _ => none
set_option maxRecDepth 100000 in
theorem in_gro : loopsOf c_gro = [c_gri] := by kernel_rfl
theorem ltGi_good : LoopsGood Try.prog ltGi 1 c_gro := by
  intro i d hd s k t F H hlt ht
  rw [in_gro] at hd
  cases i with
  | zero =>
    obtain rfl : c_gri = d := by simpa using hd
    exact lg_gri s k t F H hlt ht
  | succ i => simp at hd
set_option maxRecDepth 100000 in
set_option maxHeartbeats 4000000 in
theorem round_gro (bs : List Int) (l c : Nat) (h : l ≤ bs.length ∧ l ≤ 2000 ∧ Bytes bs) : Round_gro bs l c := by
  rintro ⟨n, o, p⟩ ⟨h1, h2, h3⟩
  rw [tr_gro]
  have fl := flat_length o
  have fk : List.take (o.length * 2) (flat o) = flat o := List.take_of_length_le (by omega)
  simp only [ptsA_flat, List.drop_zero, fk, show p + 2 + 1 = p + 3 by omega]
  refine brT_ok.2 ⟨fun hlt => ?_, fun hge => ?_⟩
  · have hlt := of_decide_eq_true hlt
    obtain ⟨n, rfl⟩ : ∃ m, n = m + 1 := ⟨n - 1, by omega⟩
    have hr : rdK bs l p := ⟨⟨h.1, h.2.1, h2, by omega, h.2.2⟩, by omega⟩
    have e : IntKind.i64.wrap (((n + 1 : Nat) : Int) - 1) = (n : Int) := by rw [wr (by omega)]; omega
    rw [e]
    have sn : flat o ++ [pickI bs l p 7 - 3, pickI bs l (p + 1) 9 - 4] = flat (o ++ [gsQ bs l p]) := by rw [flat_snoc]; rfl
    rw [sn]
    have el : (o ++ [gsQ bs l p]).length = o.length + 1 := by simp
    have eN : (!hasE o (pickI bs l p 7 - 3) (pickI bs l (p + 1) 9 - 4)) = gsN bs l o p := rfl
    rw [eN]
    refine ⟨hr, trivial, trivial, fl, by omega, brT_ok.2 ⟨fun g => ?_, fun g => ?_⟩⟩
    · have eO : gsO bs l o p = o ++ [gsQ bs l p] := by unfold gsO; rw [g, Bool.true_or, cond_true]
      have eE : gsE bs l o p = p + 2 := by unfold gsE; rw [g, cond_true]
      refine ⟨by omega, by omega, (n, o ++ [gsQ bs l p], p + 2), [some 7], ⟨by rw [el]; omega, by omega, by omega⟩, ?_, rfl, ?_, ?_⟩
      · show n < n + 1; omega
      · simp only [rs_gro, gsL, gsP, eO, eE]
      · repeat' (first | exact True.intro | exact rfl | exact fun _ => rfl | (simp; done) | refine And.intro ?_ ?_)
    · refine ⟨hr.at (by omega) (by omega), brT_ok.2 ⟨fun k => ?_, fun k => ?_⟩⟩
      · have eO : gsO bs l o p = o ++ [gsQ bs l p] := by unfold gsO; rw [k, Bool.or_true, cond_true]
        have eE : gsE bs l o p = p + 3 := by unfold gsE; rw [g, cond_false]
        refine ⟨by omega, by omega, (n, o ++ [gsQ bs l p], p + 3), [some 7], ⟨by rw [el]; omega, by omega, by omega⟩, ?_, rfl, ?_, ?_⟩
        · show n < n + 1; omega
        · simp only [rs_gro, gsL, gsP, eO, eE]
        · repeat' (first | exact True.intro | exact rfl | exact fun _ => rfl | (simp; done) | refine And.intro ?_ ?_)
      · have eO : gsO bs l o p = o := by unfold gsO; rw [g, k, Bool.or_false, cond_false]
        have eE : gsE bs l o p = p + 3 := by unfold gsE; rw [g, cond_false]
        refine ⟨(n, o, p + 3), [some 4], ⟨by omega, by omega, by omega⟩, ?_, rfl, ?_, ?_⟩
        · show n < n + 1; omega
        · simp only [rs_gro, gsL, gsP, eO, eE]
        · repeat' (first | exact True.intro | exact rfl | exact fun _ => rfl | (simp; done) | refine And.intro ?_ ?_)
  · have hge := of_decide_eq_false hge
    obtain rfl : n = 0 := by omega
    refine ⟨rfl, [some 4], ?_⟩
    simp only [rs_gro, gsL, gsP]
    repeat' (first | exact True.intro | exact rfl | exact fun _ => rfl | (simp; done) | refine And.intro ?_ ?_)
set_option maxRecDepth 100000 in
theorem lg_gro : LoopE Try.prog e_gro c_gro := by
  intro s k t F H hlt ht
  unfold e_gro at hlt
  split at hlt
  rotate_left
  · cases hlt
  rename_i hlen hpick hmem
  obtain ⟨tmps, mem⟩ := s
  simp only at hlen hpick hmem
  subst hmem
  obtain rfl := Option.some.inj hlt
  obtain ⟨⟨rfl, h1, h2, h3, _⟩, ht2⟩ := needs_ok ht
  clear ht hlt
  obtain ⟨n, rfl⟩ := Int.eq_ofNat_of_zero_le h1.1
  simp only [Int.toNat_natCast] at ht2
  refine ⟨_, _, ht2, loop_run2 mixed ERG2_ok (s_gro _ _ _) (inv_gro _ _ _) (me_gro _ _ _) re_gro (rs_gro _ _ _) k_gro (fun _ => rfl) ltGi_good (round_gro _ _ _ h2) (x := (n, [], _)) ⟨by simp; omega, h3.1, by omega⟩ (π := [some 2]) rfl ?_⟩
  refine ⟨rfl, rfl, ?_, wvs_spread' [0, 3, 4] hlen rfl ?_⟩
  · repeat' (first | exact True.intro | exact rfl | exact wv_top _ _ | exact fun _ => rfl | assumption | exact Eq.symm (by assumption) | exact vI0 rfl | refine And.intro ?_ ?_)
  · rw [hpick]
    repeat' (first | exact True.intro | exact rfl | exact wv_top _ _ | exact fun _ => rfl | assumption | exact Eq.symm (by assumption) | exact vI0 rfl | refine And.intro ?_ ?_)
end Go.Proofs.Ytolodncpegajkab
namespace Go.Proofs.Ytolodncpegajkab
set_option linter.all false
open Go.RowKit
theorem Lr_gro {fn : Func} (hf : Try.prog.funcs[63]? = some fn) : LoopsGood Try.prog (lt1 e_gro) 0 (codeOf fn) := by
  obtain rfl := fn_is Try.func63 hf
  exact lt1_good lg_gro
def LGr : FuncId → LT := fun f => match f with
  | 63 => lt1 e_gro
  | _ => noL
def EGf : Env := ⟨B0, fun _ _ => none, LGr, tabJ JGr2, fun _ => noR⟩
theorem EGf_ok : EnvOk Try.prog EGf := ⟨B0_ok, fun _ _ _ _ _ h => (by cases h), (by
  intro f fn hf
  show LoopsGood Try.prog (LGr f) 0 (codeOf fn)
  unfold LGr
  split
  all_goals first | with_reducible exact Lr_gro hf | exact noL_good), tabJ_sound mixed JGr2_ok, fun _ _ _ => noR_good⟩
set_option maxRecDepth 100000 in
theorem tr_grF (bs : List Int) (l c : Nat) (p : Int) : bodyM Try.prog EGf (runM Try.prog EGf 30 12) 30 63 [.pointer (some ⟨1, 0, none⟩)] (memR bs l c p none) .fin = .need (rdC bs l p) (.need ((1 : Nat) ≤ (8 : Nat) ∧ (8 : Nat) ≤ (8 : Nat) ∧ (8 : Nat) = (8 : Nat)) (.need ((0 : Nat) = (0 : Nat)) (.need ((0 : Int) ≤ oneI bs l p (8 : Nat) [(0 : Int), (1 : Int), (2 : Int), (3 : Int), (4 : Int), (5 : Int), (6 : Int), (9 : Int)] ∧ oneI bs l p (8 : Nat) [(0 : Int), (1 : Int), (2 : Int), (3 : Int), (4 : Int), (5 : Int), (6 : Int), (9 : Int)] ≤ (100 : Int)) (.need (l ≤ bs.length ∧ l ≤ (2000 : Nat) ∧ Bytes bs) (.need ((0 : Int) ≤ p + (1 : Int) ∧ p + (1 : Int) ≤ (800000 : Int)) (brT (decide (0 < (↑(gsL bs l (oneI bs l p 8 [0, 1, 2, 3, 4, 5, 6, 9]).toNat [] (p + 1)).length : Int))) (.need (rdC bs l (gsP bs l (oneI bs l p (8 : Nat) [(0 : Int), (1 : Int), (2 : Int), (3 : Int), (4 : Int), (5 : Int), (6 : Int), (9 : Int)]).toNat [] (p + (1 : Int)))) (brT (pickI bs l (gsP bs l (oneI bs l p 8 [0, 1, 2, 3, 4, 5, 6, 9]).toNat [] (p + 1)) 14 == 0) (.need (rdK bs l (gsP bs l (oneI bs l p (8 : Nat) [(0 : Int), (1 : Int), (2 : Int), (3 : Int), (4 : Int), (5 : Int), (6 : Int), (9 : Int)]).toNat [] (p + (1 : Int)) + (1 : Int))) (.need ((0 : Int) ≤ (0 : Int) ∧ (0 : Int) < (↑(gsL bs l (oneI bs l p (8 : Nat) [(0 : Int), (1 : Int), (2 : Int), (3 : Int), (4 : Int), (5 : Int), (6 : Int), (9 : Int)]).toNat [] (p + (1 : Int))).length : Int)) (.need ((2 : Nat) ≤ (flat (gsL bs l (oneI bs l p (8 : Nat) [(0 : Int), (1 : Int), (2 : Int), (3 : Int), (4 : Int), (5 : Int), (6 : Int), (9 : Int)]).toNat [] (p + (1 : Int)))).length) (.fin (.slice (some ⟨4, 0, none⟩) ((gsL bs l (oneI bs l p 8 [0, 1, 2, 3, 4, 5, 6, 9]).toNat [] (p + 1)).length) ((gsL bs l (oneI bs l p 8 [0, 1, 2, 3, 4, 5, 6, 9]).toNat [] (p + 1)).length)) [some ⟨.view, .bytes (bs)⟩, some ⟨.box, .vals [.slice (some ⟨0, 0, none⟩) (l) (c), .int .i64 (agP bs l (gsP bs l (oneI bs l p 8 [0, 1, 2, 3, 4, 5, 6, 9]).toNat [] (p + 1) + 1))]⟩, some deadB, some deadB, some ⟨.row 36 2, .ints (setInts (flat (gsL bs l (oneI bs l p 8 [0, 1, 2, 3, 4, 5, 6, 9]).toNat [] (p + 1))) 0 [agM bs l (gsP bs l (oneI bs l p 8 [0, 1, 2, 3, 4, 5, 6, 9]).toNat [] (p + 1) + 1), agB bs l (gsP bs l (oneI bs l p 8 [0, 1, 2, 3, 4, 5, 6, 9]).toNat [] (p + 1) + 1)])⟩])))) (.fin (.slice (some ⟨4, 0, none⟩) ((gsL bs l (oneI bs l p 8 [0, 1, 2, 3, 4, 5, 6, 9]).toNat [] (p + 1)).length) ((gsL bs l (oneI bs l p 8 [0, 1, 2, 3, 4, 5, 6, 9]).toNat [] (p + 1)).length)) [some ⟨.view, .bytes (bs)⟩, some ⟨.box, .vals [.slice (some ⟨0, 0, none⟩) (l) (c), .int .i64 (gsP bs l (oneI bs l p 8 [0, 1, 2, 3, 4, 5, 6, 9]).toNat [] (p + 1) + 1)]⟩, some deadB, some deadB, some ⟨.row 36 2, .ints (flat (gsL bs l (oneI bs l p 8 [0, 1, 2, 3, 4, 5, 6, 9]).toNat [] (p + 1)))⟩]))) (.fin (.slice (some ⟨4, 0, none⟩) ((gsL bs l (oneI bs l p 8 [0, 1, 2, 3, 4, 5, 6, 9]).toNat [] (p + 1)).length) ((gsL bs l (oneI bs l p 8 [0, 1, 2, 3, 4, 5, 6, 9]).toNat [] (p + 1)).length)) [some ⟨.view, .bytes (bs)⟩, some ⟨.box, .vals [.slice (some ⟨0, 0, none⟩) (l) (c), .int .i64 (gsP bs l (oneI bs l p 8 [0, 1, 2, 3, 4, 5, 6, 9]).toNat [] (p + 1))]⟩, some deadB, some deadB, some ⟨.row 36 2, .ints (flat (gsL bs l (oneI bs l p 8 [0, 1, 2, 3, 4, 5, 6, 9]).toNat [] (p + 1)))⟩]))))))) := by kernel_rfl
def gsC : List Int := [0, 1, 2, 3, 4, 5, 6, 9]
theorem gsC_bd (k : Nat) : 0 ≤ gsC.getD k 0 ∧ gsC.getD k 0 ≤ 9 := by
  unfold gsC
  match k with
  | 0 => decide
  | 1 => decide
  | 2 => decide
  | 3 => decide
  | 4 => decide
  | 5 => decide
  | 6 => decide
  | 7 => decide
  | n + 8 => simp
def gsNn (bs : List Int) (l : Nat) (p : Int) : Nat := (oneI bs l p 8 gsC).toNat
def gsM (bs : List Int) (l : Nat) (p : Int) : List Pt := gsL bs l (gsNn bs l p) [] (p + 1)
def gsZ (bs : List Int) (l : Nat) (p : Int) : Int := gsP bs l (gsNn bs l p) [] (p + 1)
/-- A drawn list of graphs, and the place behind it. -/
def agsL (bs : List Int) (l : Nat) (p : Int) : List Pt := bif decide (0 < (gsM bs l p).length) && pickI bs l (gsZ bs l p) 14 == 0 then (gsM bs l p).set 0 (agM bs l (gsZ bs l p + 1), agB bs l (gsZ bs l p + 1)) else gsM bs l p
def agsE (bs : List Int) (l : Nat) (p : Int) : Int := bif decide (0 < (gsM bs l p).length) then (bif pickI bs l (gsZ bs l p) 14 == 0 then agP bs l (gsZ bs l p + 1) else gsZ bs l p + 1) else gsZ bs l p
theorem grs_bd (bs : List Int) (l : Nat) : ∀ (n : Nat) (o : List Pt) (p : Int), (gsL bs l n o p).length ≤ o.length + n ∧ p ≤ gsP bs l n o p ∧ gsP bs l n o p ≤ p + 3 * n
  | 0, o, p => ⟨Nat.le_refl _, Int.le_refl _, by simp [gsP]⟩
  | n + 1, o, p => by
    obtain ⟨h1, h2, h3⟩ := grs_bd bs l n (gsO bs l o p) (gsE bs l o p)
    have k1 : (gsO bs l o p).length ≤ o.length + 1 := by
      unfold gsO
      cases (gsN bs l o p || pickI bs l (p + 2) 10 == 0) <;> simp
    have k2 : p + 2 ≤ gsE bs l o p ∧ gsE bs l o p ≤ p + 3 := by
      unfold gsE
      cases gsN bs l o p <;> simp only [cond_true, cond_false] <;> omega
    simp only [gsL, gsP]
    omega
theorem gsM_bd (bs : List Int) (l : Nat) (p : Int) : (gsM bs l p).length ≤ 9 ∧ p ≤ gsZ bs l p ∧ gsZ bs l p ≤ p + 30 := by
  have := grs_bd bs l (gsNn bs l p) [] (p + 1)
  have e : gsNn bs l p ≤ 9 := by
    have := gsC_bd (pickI bs l p (8 : Nat)).toNat
    unfold gsNn oneI
    omega
  rw [List.length_nil] at this
  unfold gsM gsZ
  omega
theorem agsL_len (bs : List Int) (l : Nat) (p : Int) : (agsL bs l p).length ≤ 9 := by
  have := (gsM_bd bs l p).1
  unfold agsL
  cases (decide (0 < (gsM bs l p).length) && pickI bs l (gsZ bs l p) 14 == 0)
  · exact this
  · rw [cond_true, List.length_set]
    exact this
def agsS : RSpecR := fun bs l p rest => match rest with
  | [] => some (.slice (some ⟨0, 0, none⟩) (agsL bs l p).length (agsL bs l p).length, ⟨.row 36 2, .ints (flat (agsL bs l p))⟩, agsE bs l p, [rdC bs l p, p ≤ 700000])
  | _ => none
theorem agsS_ok : SpecROk Try.prog 63 agsS := by
  intro bs l c p rest v b p' C h hC
  unfold agsS at h
  split at h
  rotate_left
  · cases h
  obtain ⟨rfl, rfl, rfl, rfl⟩ : (.slice (some ⟨0, 0, none⟩) (agsL bs l p).length (agsL bs l p).length : Value) = v ∧ (⟨.row 36 2, .ints (flat (agsL bs l p))⟩ : Blk) = b ∧ agsE bs l p = p' ∧ [rdC bs l p, p ≤ 700000] = C := by simpa using h
  obtain ⟨h1, h2, _⟩ := hC
  refine ⟨rfl, EGf, 30, 12, EGf_ok, ?_⟩
  rw [tr_grF]
  have h0 := h1.2.2.1
  have b0 := gsC_bd (pickI bs l p (8 : Nat)).toNat
  have b1 : oneI bs l p 8 [0, 1, 2, 3, 4, 5, 6, 9] = gsC.getD (pickI bs l p (8 : Nat)).toNat 0 := rfl
  obtain ⟨m1, m2, m3⟩ := gsM_bd bs l p
  have eL : gsL bs l (oneI bs l p 8 [0, 1, 2, 3, 4, 5, 6, 9]).toNat [] (p + 1) = gsM bs l p := rfl
  have eZ : gsP bs l (oneI bs l p 8 [0, 1, 2, 3, 4, 5, 6, 9]).toNat [] (p + 1) = gsZ bs l p := rfl
  rw [eL, eZ, b1]
  have fl := flat_length (gsM bs l p)
  have rk : ∀ q : Int, p ≤ q → q ≤ p + 1000 → rdK bs l q := fun q g1 g2 => ⟨⟨h1.1, h1.2.1, by omega, by omega, h1.2.2.2.2⟩, by omega⟩
  refine ⟨h1, by decide, rfl, ⟨by omega, by omega⟩, ⟨h1.1, h1.2.1, h1.2.2.2.2⟩, ⟨by omega, by omega⟩, brT_ok.2 ⟨fun g => ?_, fun g => ?_⟩⟩
  · have g2 : 0 < (gsM bs l p).length := by have := of_decide_eq_true g; omega
    refine ⟨(rk _ (by omega) (by omega)).1, brT_ok.2 ⟨fun k => ?_, fun k => ?_⟩⟩
    · have eE : agsE bs l p = agP bs l (gsZ bs l p + 1) := by unfold agsE; rw [decide_eq_true g2, cond_true, k, cond_true]
      have eA : agsL bs l p = (gsM bs l p).set 0 (agM bs l (gsZ bs l p + 1), agB bs l (gsZ bs l p + 1)) := by unfold agsL; rw [decide_eq_true g2, k]; rfl
      have hs : setInts (flat (gsM bs l p)) 0 [agM bs l (gsZ bs l p + 1), agB bs l (gsZ bs l p + 1)] = flat ((gsM bs l p).set 0 (agM bs l (gsZ bs l p + 1), agB bs l (gsZ bs l p + 1))) := flat_set (gsM bs l p) 0 g2 _ _
      rw [eA, eE, hs]
      exact ⟨rk _ (by omega) (by omega), by omega, by omega, rfl, some 4, ⟨rfl, rfl, by rw [List.length_set]⟩, rfl, rfl, rfl⟩
    · have eE : agsE bs l p = gsZ bs l p + 1 := by unfold agsE; rw [decide_eq_true g2, cond_true, k, cond_false]
      have eA : agsL bs l p = gsM bs l p := by unfold agsL; rw [k, Bool.and_false]; rfl
      rw [eA, eE]
      exact ⟨rfl, some 4, ⟨rfl, rfl, rfl⟩, rfl, rfl, rfl⟩
  · have g2 : ¬ 0 < (gsM bs l p).length := by have := of_decide_eq_false g; omega
    have eE : agsE bs l p = gsZ bs l p := by unfold agsE; rw [decide_eq_false g2, cond_false]
    have eA : agsL bs l p = gsM bs l p := by unfold agsL; rw [decide_eq_false g2]; rfl
    rw [eA, eE]
    exact ⟨rfl, some 4, ⟨rfl, rfl, rfl⟩, rfl, rfl, rfl⟩
def JGl : TabJ := consR 63 (rdGR agsS) (tabJ J2)
theorem JGl_ok : GSound Try.prog JGl.g := consR_ok mixed (tabJ_sound mixed J2_ok) (entersB_res (by kernel_rfl)).1 agsS_ok
def EDg : Env := ⟨B0, fun _ _ => none, fun _ => noL, JGl, fun _ => noR⟩
theorem EDg_ok : EnvOk Try.prog EDg := ⟨B0_ok, fun _ _ _ _ _ h => (by cases h), fun _ _ _ => noL_good, JGl_ok, fun _ _ _ => noR_good⟩
end Go.Proofs.Ytolodncpegajkab
namespace Go.Proofs.Ytolodncpegajkab
set_option linter.all false
open Go.RowKit
theorem meL_lt {gs : List Pt} {i : Nat} (hi : i < gs.length) {b : Int} : ∀ k, (meL gs (gs.getD i (0, 0)).1 b k).length + (if i < k then 1 else 0) ≤ k
  | 0 => by simp [meL]
  | k + 1 => by
    have ih := meL_lt hi (b := b) k
    simp only [meL]
    rcases q : (gs.getD k (0, 0)).1 == (gs.getD i (0, 0)).1 with _ | _
    · have hik : k ≠ i := fun e => by
        subst e
        simp at q
      rw [cond_false, List.length_append, List.length_singleton]
      split at ih <;> split <;> omega
    · rw [cond_true]
      split at ih <;> split <;> omega
theorem mtI_lt {gs : List Pt} {i : Nat} (hi : i < gs.length) : (mtI gs i).length + 1 ≤ gs.length := by
  have h1 := stQ_len (meL gs (gs.getD i (0, 0)).1 (gs.getD i (0, 0)).2 gs.length)
  have h2 := meL_lt hi (b := (gs.getD i (0, 0)).2) gs.length
  rw [if_pos hi] at h2
  unfold mtI mtL
  omega
theorem arE_bd (gs : List Pt) : ∀ i, i ≤ gs.length → i ≤ arE gs i ∧ arE gs i ≤ i * gs.length ∧ arE gs i = (arA gs i).length + i
  | 0, _ => by simp [arE, arA]
  | i + 1, h => by
    obtain ⟨h1, h2, h3⟩ := arE_bd gs i (by omega)
    have h4 := mtI_lt (gs := gs) (i := i) (by omega)
    simp only [arE, arA, List.length_append, Nat.succ_mul]
    exact ⟨by omega, by omega, by omega⟩
set_option maxRecDepth 100000 in
theorem tr_dAr (bs : List Int) (n : Nat) : bodyX Try.prog EDg 30 12 36 [.row n (.bytes bs)] = brT (decide (2000 < (↑n : Int))) (.need ((0 : Int) ≤ bndI none (0 : Int) ∧ bndI none (0 : Int) ≤ bndI (some (IntKind.i64, (2000 : Int))) (↑n : Int) ∧ bndI (some (IntKind.i64, (2000 : Int))) (↑n : Int) ≤ (↑n : Int)) (.need (rdC bs (2000 : Nat) (0 : Int)) (.need ((0 : Int) ≤ (700000 : Int)) (.fin (.slice (some ⟨2, 0, none⟩) ((agsL bs 2000 0).length) ((agsL bs 2000 0).length)) [some ⟨.view, .bytes (bs)⟩, some ⟨.box, .vals [.slice (some ⟨0, 0, none⟩) (2000) (2000), .int .i64 (agsE bs 2000 0)]⟩, some ⟨.row 36 2, .ints (flat (agsL bs 2000 0))⟩])))) (.need (rdC bs n (0 : Int)) (.need ((0 : Int) ≤ (700000 : Int)) (.fin (.slice (some ⟨2, 0, none⟩) ((agsL bs n 0).length) ((agsL bs n 0).length)) [some ⟨.view, .bytes (bs)⟩, some ⟨.box, .vals [.slice (some ⟨0, 0, none⟩) (n) (n), .int .i64 (agsE bs n 0)]⟩, some ⟨.row 36 2, .ints (flat (agsL bs n 0))⟩]))) := by kernel_rfl
theorem resR_dAr (bs : List Int) (n : Nat) (hb : Bytes bs) (hn : n ≤ bs.length) : ResR Try.prog 36 [.row n (.bytes bs)] (.slice (some ⟨0, 0, none⟩) (agsL bs (rdL n) 0).length (agsL bs (rdL n) 0).length) ⟨.row 36 2, .ints (flat (agsL bs (rdL n) 0))⟩ := by
  refine bodyX_resR mixed EDg_ok (m := 30) (n := 12) rfl ?_
  rw [tr_dAr]
  refine brT_ok.2 ⟨fun h => ?_, fun h => ?_⟩
  · have h := of_decide_eq_true h
    have k1 : rdC bs 2000 0 := (rdK0 hb hn (l := 2000) (by omega) (by omega) (p := 0) (by omega) (by omega)).1
    rw [rdL_of h]
    exact ⟨bnd2000 h, k1, by omega, some 2, ⟨rfl, rfl, rfl⟩, rfl, rfl, rfl⟩
  · have h := of_decide_eq_false h
    have k1 : rdC bs n 0 := (rdK0 hb hn (l := n) (by omega) (by omega) (p := 0) (by omega) (by omega)).1
    rw [rdL_no h]
    exact ⟨k1, by omega, some 2, ⟨rfl, rfl, rfl⟩, rfl, rfl, rfl⟩
def RLa : TabR := fun f ds => match f, ds with
  | 36, [.row n (.bytes bs)] => some (.slice (some ⟨0, 0, none⟩) (agsL bs (rdL n) 0).length (agsL bs (rdL n) 0).length, ⟨.row 36 2, .ints (flat (agsL bs (rdL n) 0))⟩, [Bytes bs, n ≤ bs.length])
  | _, _ => none
theorem RLa_ok : TabROk Try.prog RLa := by
  intro f ds v b C h hC
  unfold RLa at h
  split at h
  · obtain ⟨rfl, rfl, rfl⟩ : _ ∧ _ ∧ _ := by simpa using h
    exact resR_dAr _ _ hC.1 hC.2.1
  · cases h
def ELa : Env := mkE TAx RLa (fun _ => noL)
theorem ELa_ok : EnvOk Try.prog ELa := mkEOk TAx_ok RLa_ok (fun _ _ _ => noL_good)
end Go.Proofs.Ytolodncpegajkab
namespace Go.Proofs.Ytolodncpegajkab
set_option linter.all false
open Go.RowKit
theorem tk_get {gs : List Pt} {k j : Nat} (h : j < k) : (gs.take k).getD j (0, 0) = gs.getD j (0, 0) := by
  simp only [List.getD, List.getElem?_take, h, if_true]
theorem mtI_sub {gs : List Pt} {k i : Nat} (hk : k ≤ gs.length) (hi : i < k) : ∀ z ∈ mtI (gs.take k) i, z ∈ mtI gs i := fun z hz => by
  have hl : (gs.take k).length = k := by simp; omega
  unfold mtI mtL at *
  rw [tk_get hi] at hz
  obtain ⟨j, h1, h2, h3⟩ := (meL_mem _ _ _ _ _).1 ((stQ_mem _ _).1 hz)
  rw [tk_get (by omega)] at h2 h3
  exact (stQ_mem _ _).2 ((meL_mem _ _ _ _ _).2 ⟨j, by omega, h2, h3⟩)
theorem mtI_nd {gs : List Pt} (hv : allV gs = true) (i : Nat) : (mtI gs i).Nodup := by
  obtain ⟨v1, v2, v3, v4⟩ := allV_get hv i
  exact stQ_nodup (meL_ok hv ⟨⟨v1, v2⟩, v3, v4⟩ gs.length)
theorem tk_val {gs : List Pt} (hv : allV gs = true) (k : Nat) : allV (gs.take k) = true :=
  List.all_eq_true.2 fun z hz => List.all_eq_true.1 hv z (List.mem_of_mem_take hz)
theorem arA_in {gs : List Pt} {z : Q4} : ∀ {n i : Nat}, i < n → z ∈ mtI gs i → z ∈ arA gs n
  | 0, i, h, _ => by omega
  | n + 1, i, h, hz => by
    simp only [arA, List.mem_append]
    rcases Nat.lt_or_ge i n with q | q
    · exact .inl (arA_in q hz)
    · obtain rfl : i = n := by omega
      exact .inr hz
/-- The places that are new. -/
def newL (gs : List Pt) (S : List Q4) : Nat → List Q4
  | 0 => []
  | i + 1 => newL gs S i ++ (mtI gs i).filter fun z => !(decide (z ∈ S))
theorem filter_two {α : Type} (p : α → Bool) : ∀ a : List α, (a.filter p).length + (a.filter fun z => !(p z)).length = a.length
  | [] => rfl
  | x :: a => by
    have ih := filter_two p a
    simp only [List.filter_cons]
    cases p x
    · simp only [Bool.not_false, if_true, Bool.false_eq_true, if_false, List.length_cons]
      omega
    · simp only [Bool.not_true, if_true, Bool.false_eq_true, if_false, List.length_cons]
      omega
theorem new_part {a S b : List Q4} (hb : b.Nodup) (h1 : ∀ z ∈ b, z ∈ a) (h2 : ∀ z ∈ b, z ∈ S) : (a.filter fun z => !(decide (z ∈ S))).length + b.length ≤ a.length := by
  have e := filter_two (fun z => decide (z ∈ S)) a
  have := nd_le b (a.filter fun z => decide (z ∈ S)) hb fun z hz => List.mem_filter.2 ⟨h1 z hz, decide_eq_true (h2 z hz)⟩
  omega
theorem new_A {gs : List Pt} (hv : allV gs = true) {k : Nat} (hk : k ≤ gs.length) : ∀ i, i ≤ k → (newL gs (arA (gs.take k) k) i).length + (arA (gs.take k) i).length ≤ (arA gs i).length
  | 0, _ => by simp [newL, arA]
  | i + 1, hi => by
    have ih := new_A hv hk i (by omega)
    have := new_part (a := mtI gs i) (S := arA (gs.take k) k) (mtI_nd (tk_val hv k) i) (mtI_sub hk (by omega)) fun z hz => arA_in (n := k) (by omega) hz
    simp only [newL, arA, List.length_append]
    omega
theorem new_B {gs : List Pt} (hv : allV gs = true) {k : Nat} (hk : k ≤ gs.length) : ∀ d, (newL gs (arA (gs.take k) k) (k + d)).length + (arA (gs.take k) k).length ≤ (arA gs (k + d)).length
  | 0 => new_A hv hk k (Nat.le_refl _)
  | d + 1 => by
    have ih := new_B hv hk d
    have := List.length_filter_le (fun z => !(decide (z ∈ arA (gs.take k) k))) (mtI gs (k + d))
    show (newL gs (arA (gs.take k) k) (k + d + 1)).length + _ ≤ (arA gs (k + d + 1)).length
    simp only [newL, arA, List.length_append]
    omega
theorem new_C (gs : List Pt) (S : List Q4) (z : Q4) : ∀ i, z ∈ arA gs i → z ∈ S ∨ z ∈ newL gs S i
  | 0, h => by simp [arA] at h
  | i + 1, h => by
    simp only [arA, List.mem_append] at h
    simp only [newL, List.mem_append]
    rcases h with h | h
    · rcases new_C gs S z i h with h | h
      · exact .inl h
      · exact .inr (.inl h)
    · by_cases hs : z ∈ S
      · exact .inl hs
      · exact .inr (.inr (List.mem_filter.2 ⟨h, by simp [hs]⟩))
theorem arA_sub {gs : List Pt} {k : Nat} (hk : k ≤ gs.length) {z : Q4} : ∀ i, i ≤ k → z ∈ arA (gs.take k) i → z ∈ arA gs i
  | 0, _, h => by simp [arA] at h
  | i + 1, hi, h => by
    simp only [arA, List.mem_append] at h ⊢
    rcases h with h | h
    · exact .inl (arA_sub hk i (by omega) h)
    · exact .inr (mtI_sub hk (by omega) z h)
theorem arA_mono {gs : List Pt} {z : Q4} : ∀ {n i : Nat}, i ≤ n → z ∈ arA gs i → z ∈ arA gs n
  | 0, i, h, hz => by
    obtain rfl : i = 0 := by omega
    exact hz
  | n + 1, i, h, hz => by
    rcases Nat.lt_or_ge i (n + 1) with q | q
    · simp only [arA, List.mem_append]
      exact .inl (arA_mono (by omega) hz)
    · obtain rfl : i = n + 1 := by omega
      exact hz
/-- Of a part of a list there are not more vertices, edges, faces. -/
theorem part_le {gs : List Pt} (hv : allV gs = true) {k : Nat} (hk : k ≤ gs.length) : arV (gs.take k) ≤ arV gs ∧ arE (gs.take k) k ≤ arE gs gs.length ∧ (arE (gs.take k) k : Int) - arV (gs.take k) ≤ (arE gs gs.length : Int) - arV gs := by
  have hl : (gs.take k).length = k := by simp; omega
  have nd1 := stQ_nodup (arA_ok (tk_val hv k) k)
  have nd2 := stQ_nodup (arA_ok hv gs.length)
  have v1 : arV (gs.take k) ≤ arV gs := by
    unfold arV
    rw [hl]
    exact nd_le _ _ nd1 fun z hz => (stQ_mem _ _).2 (arA_mono hk (arA_sub hk k (Nat.le_refl _) ((stQ_mem _ _).1 hz)))
  have b := new_B hv hk (gs.length - k)
  rw [show k + (gs.length - k) = gs.length by omega] at b
  have c : arV gs ≤ arV (gs.take k) + (newL gs (arA (gs.take k) k) gs.length).length := by
    have := nd_le (stQ (arA gs gs.length)) (stQ (arA (gs.take k) k) ++ newL gs (arA (gs.take k) k) gs.length) nd2 fun z hz => by
      rw [List.mem_append, stQ_mem]
      exact new_C gs _ z _ ((stQ_mem _ _).1 hz)
    rw [List.length_append] at this
    unfold arV
    rw [hl]
    exact this
  obtain ⟨_, _, e1⟩ := arE_bd gs gs.length (Nat.le_refl _)
  obtain ⟨_, _, e2⟩ := arE_bd (gs.take k) k (by omega)
  exact ⟨v1, by omega, by omega⟩
theorem gG_tk {gs : List Pt} {k j : Nat} (h : j < k) : gG (gs.take k) j = gG gs j := tk_get h
/-- A part of valid graphs is valid. -/
theorem tk_vg {gs : List Pt} (h : vgB gs = true) {k : Nat} (hk : k ≤ gs.length) : vgB (gs.take k) = true := by
  have hl : (gs.take k).length = k := by simp; omega
  unfold vgB at *
  rw [hl]
  simp only [Bool.and_eq_true, decide_eq_true_eq] at *
  refine ⟨allQ_al2 _ _ fun j _ hj => ?_, by omega⟩
  have q := allQ_get _ _ h.1 j (Nat.zero_le _) (by omega)
  unfold vgQ at *
  simp only [Bool.and_eq_true] at *
  rw [gG_tk (show j < k by omega)]
  refine ⟨q.1, allQ_al2 _ _ fun i _ hi => ?_⟩
  have r := allQ_get _ _ q.2 i (Nat.zero_le _) (by omega)
  unfold dfQ at *
  rw [gG_tk (show j < k by omega), gG_tk (show i < k by omega)]
  exact r
end Go.Proofs.Ytolodncpegajkab
namespace Go.Proofs.Ytolodncpegajkab
set_option linter.all false
open Go.RowKit
set_option maxRecDepth 100000 in
theorem tr_lam (bs ms : List Int) : bodyV Try.prog ELa 30 12 11 [.row bs.length (.bytes bs), .row ms.length (.bytes ms)] = brT (decide (1048576 < (↑bs.length : Int))) (.fin (.bool (true)) []) (brT (decide (1048576 < (↑ms.length : Int))) (.fin (.bool (true)) []) (.need (Bytes (List.drop (0 : Nat) bs)) (.need (bs.length ≤ (List.drop (0 : Nat) bs).length) (.need ((agsL (List.drop (0 : Nat) bs) (rdL bs.length) (0 : Int)).length * (2 : Nat) ≤ (List.drop (0 : Nat) (flat (agsL (List.drop (0 : Nat) bs) (rdL bs.length) (0 : Int)))).length) (.need ((agsL (List.drop (0 : Nat) bs) (rdL bs.length) (0 : Int)).length ≤ (1000000000 : Nat)) (.need ((agsL (List.drop (0 : Nat) bs) (rdL bs.length) (0 : Int)).length * (2 : Nat) ≤ (List.drop (0 : Nat) (flat (agsL (List.drop (0 : Nat) bs) (rdL bs.length) (0 : Int)))).length) (.need ((agsL (List.drop (0 : Nat) bs) (rdL bs.length) (0 : Int)).length ≤ (1000000000 : Nat)) (brT (!aV (ptsA (agsL (List.drop 0 bs) (rdL bs.length) 0).length (List.drop 0 (flat (agsL (List.drop 0 bs) (rdL bs.length) 0)))) == aV (ptsA (agsL (List.drop 0 bs) (rdL bs.length) 0).length (List.drop 0 (flat (agsL (List.drop 0 bs) (rdL bs.length) 0))))) (brT (aV (ptsA (agsL (List.drop 0 bs) (rdL bs.length) 0).length (List.drop 0 (flat (agsL (List.drop 0 bs) (rdL bs.length) 0)))) == aV (ptsA (agsL (List.drop 0 bs) (rdL bs.length) 0).length (List.drop 0 (flat (agsL (List.drop 0 bs) (rdL bs.length) 0))))) (brT (aE (ptsA (agsL (List.drop 0 bs) (rdL bs.length) 0).length (List.drop 0 (flat (agsL (List.drop 0 bs) (rdL bs.length) 0)))) == aE (ptsA (agsL (List.drop 0 bs) (rdL bs.length) 0).length (List.drop 0 (flat (agsL (List.drop 0 bs) (rdL bs.length) 0))))) (.fin (.bool (aF (ptsA (agsL (List.drop 0 bs) (rdL bs.length) 0).length (List.drop 0 (flat (agsL (List.drop 0 bs) (rdL bs.length) 0)))) == aF (ptsA (agsL (List.drop 0 bs) (rdL bs.length) 0).length (List.drop 0 (flat (agsL (List.drop 0 bs) (rdL bs.length) 0)))))) []) (.fin (.bool (false)) [])) (.fin (.bool (false)) [])) (brT (!aE (ptsA (agsL (List.drop 0 bs) (rdL bs.length) 0).length (List.drop 0 (flat (agsL (List.drop 0 bs) (rdL bs.length) 0)))) == aE (ptsA (agsL (List.drop 0 bs) (rdL bs.length) 0).length (List.drop 0 (flat (agsL (List.drop 0 bs) (rdL bs.length) 0))))) (brT (aV (ptsA (agsL (List.drop 0 bs) (rdL bs.length) 0).length (List.drop 0 (flat (agsL (List.drop 0 bs) (rdL bs.length) 0)))) == aV (ptsA (agsL (List.drop 0 bs) (rdL bs.length) 0).length (List.drop 0 (flat (agsL (List.drop 0 bs) (rdL bs.length) 0))))) (brT (aE (ptsA (agsL (List.drop 0 bs) (rdL bs.length) 0).length (List.drop 0 (flat (agsL (List.drop 0 bs) (rdL bs.length) 0)))) == aE (ptsA (agsL (List.drop 0 bs) (rdL bs.length) 0).length (List.drop 0 (flat (agsL (List.drop 0 bs) (rdL bs.length) 0))))) (.fin (.bool (aF (ptsA (agsL (List.drop 0 bs) (rdL bs.length) 0).length (List.drop 0 (flat (agsL (List.drop 0 bs) (rdL bs.length) 0)))) == aF (ptsA (agsL (List.drop 0 bs) (rdL bs.length) 0).length (List.drop 0 (flat (agsL (List.drop 0 bs) (rdL bs.length) 0)))))) []) (.fin (.bool (false)) [])) (.fin (.bool (false)) [])) (brT (!aF (ptsA (agsL (List.drop 0 bs) (rdL bs.length) 0).length (List.drop 0 (flat (agsL (List.drop 0 bs) (rdL bs.length) 0)))) == aF (ptsA (agsL (List.drop 0 bs) (rdL bs.length) 0).length (List.drop 0 (flat (agsL (List.drop 0 bs) (rdL bs.length) 0))))) (brT (aV (ptsA (agsL (List.drop 0 bs) (rdL bs.length) 0).length (List.drop 0 (flat (agsL (List.drop 0 bs) (rdL bs.length) 0)))) == aV (ptsA (agsL (List.drop 0 bs) (rdL bs.length) 0).length (List.drop 0 (flat (agsL (List.drop 0 bs) (rdL bs.length) 0))))) (brT (aE (ptsA (agsL (List.drop 0 bs) (rdL bs.length) 0).length (List.drop 0 (flat (agsL (List.drop 0 bs) (rdL bs.length) 0)))) == aE (ptsA (agsL (List.drop 0 bs) (rdL bs.length) 0).length (List.drop 0 (flat (agsL (List.drop 0 bs) (rdL bs.length) 0))))) (.fin (.bool (aF (ptsA (agsL (List.drop 0 bs) (rdL bs.length) 0).length (List.drop 0 (flat (agsL (List.drop 0 bs) (rdL bs.length) 0)))) == aF (ptsA (agsL (List.drop 0 bs) (rdL bs.length) 0).length (List.drop 0 (flat (agsL (List.drop 0 bs) (rdL bs.length) 0)))))) []) (.fin (.bool (false)) [])) (.fin (.bool (false)) [])) (brT (decide (aV (ptsA (agsL (List.drop 0 bs) (rdL bs.length) 0).length (List.drop 0 (flat (agsL (List.drop 0 bs) (rdL bs.length) 0)))) < 0)) (brT (aV (ptsA (agsL (List.drop 0 bs) (rdL bs.length) 0).length (List.drop 0 (flat (agsL (List.drop 0 bs) (rdL bs.length) 0)))) == aV (ptsA (agsL (List.drop 0 bs) (rdL bs.length) 0).length (List.drop 0 (flat (agsL (List.drop 0 bs) (rdL bs.length) 0))))) (brT (aE (ptsA (agsL (List.drop 0 bs) (rdL bs.length) 0).length (List.drop 0 (flat (agsL (List.drop 0 bs) (rdL bs.length) 0)))) == aE (ptsA (agsL (List.drop 0 bs) (rdL bs.length) 0).length (List.drop 0 (flat (agsL (List.drop 0 bs) (rdL bs.length) 0))))) (.fin (.bool (aF (ptsA (agsL (List.drop 0 bs) (rdL bs.length) 0).length (List.drop 0 (flat (agsL (List.drop 0 bs) (rdL bs.length) 0)))) == aF (ptsA (agsL (List.drop 0 bs) (rdL bs.length) 0).length (List.drop 0 (flat (agsL (List.drop 0 bs) (rdL bs.length) 0)))))) []) (.fin (.bool (false)) [])) (.fin (.bool (false)) [])) (.need (¬IntKind.i64.wrap ((↑(agsL (List.drop (0 : Nat) bs) (rdL bs.length) (0 : Int)).length : Int) + (1 : Int)) = (0 : Int)) (.need ((0 : Int) ≤ bndI none (0 : Int) ∧ bndI none (0 : Int) ≤ bndI (some (IntKind.i64, (↑ms.length : Int).tmod (IntKind.i64.wrap ((↑(agsL (List.drop (0 : Nat) bs) (rdL bs.length) (0 : Int)).length : Int) + (1 : Int))))) (↑(agsL (List.drop (0 : Nat) bs) (rdL bs.length) (0 : Int)).length : Int) ∧ bndI (some (IntKind.i64, (↑ms.length : Int).tmod (IntKind.i64.wrap ((↑(agsL (List.drop (0 : Nat) bs) (rdL bs.length) (0 : Int)).length : Int) + (1 : Int))))) (↑(agsL (List.drop (0 : Nat) bs) (rdL bs.length) (0 : Int)).length : Int) ≤ (↑(agsL (List.drop (0 : Nat) bs) (rdL bs.length) (0 : Int)).length : Int)) (.need (((bndI (some (IntKind.i64, (↑ms.length : Int).tmod (IntKind.i64.wrap ((↑(agsL (List.drop (0 : Nat) bs) (rdL bs.length) (0 : Int)).length : Int) + (1 : Int))))) (↑(agsL (List.drop (0 : Nat) bs) (rdL bs.length) (0 : Int)).length : Int)).toNat - (0 : Nat)) * (2 : Nat) ≤ (List.drop (0 : Nat) (flat (agsL (List.drop (0 : Nat) bs) (rdL bs.length) (0 : Int)))).length) (.need ((bndI (some (IntKind.i64, (↑ms.length : Int).tmod (IntKind.i64.wrap ((↑(agsL (List.drop (0 : Nat) bs) (rdL bs.length) (0 : Int)).length : Int) + (1 : Int))))) (↑(agsL (List.drop (0 : Nat) bs) (rdL bs.length) (0 : Int)).length : Int)).toNat - (0 : Nat) ≤ (1000000000 : Nat)) (brT (decide (0 ≤ aV (ptsA ((bndI (some (IntKind.i64, (↑ms.length : Int).tmod (IntKind.i64.wrap ((↑(agsL (List.drop 0 bs) (rdL bs.length) 0).length : Int) + 1)))) (↑(agsL (List.drop 0 bs) (rdL bs.length) 0).length : Int)).toNat - 0) (List.drop 0 (flat (agsL (List.drop 0 bs) (rdL bs.length) 0)))))) (brT (decide (aV (ptsA ((bndI (some (IntKind.i64, (↑ms.length : Int).tmod (IntKind.i64.wrap ((↑(agsL (List.drop 0 bs) (rdL bs.length) 0).length : Int) + 1)))) (↑(agsL (List.drop 0 bs) (rdL bs.length) 0).length : Int)).toNat - 0) (List.drop 0 (flat (agsL (List.drop 0 bs) (rdL bs.length) 0)))) ≤ aV (ptsA (agsL (List.drop 0 bs) (rdL bs.length) 0).length (List.drop 0 (flat (agsL (List.drop 0 bs) (rdL bs.length) 0)))))) (brT (decide (aE (ptsA ((bndI (some (IntKind.i64, (↑ms.length : Int).tmod (IntKind.i64.wrap ((↑(agsL (List.drop 0 bs) (rdL bs.length) 0).length : Int) + 1)))) (↑(agsL (List.drop 0 bs) (rdL bs.length) 0).length : Int)).toNat - 0) (List.drop 0 (flat (agsL (List.drop 0 bs) (rdL bs.length) 0)))) ≤ aE (ptsA (agsL (List.drop 0 bs) (rdL bs.length) 0).length (List.drop 0 (flat (agsL (List.drop 0 bs) (rdL bs.length) 0)))))) (.fin (.bool (decide (aF (ptsA ((bndI (some (IntKind.i64, (↑ms.length : Int).tmod (IntKind.i64.wrap ((↑(agsL (List.drop 0 bs) (rdL bs.length) 0).length : Int) + 1)))) (↑(agsL (List.drop 0 bs) (rdL bs.length) 0).length : Int)).toNat - 0) (List.drop 0 (flat (agsL (List.drop 0 bs) (rdL bs.length) 0)))) ≤ aF (ptsA (agsL (List.drop 0 bs) (rdL bs.length) 0).length (List.drop 0 (flat (agsL (List.drop 0 bs) (rdL bs.length) 0))))))) []) (.fin (.bool (false)) [])) (.fin (.bool (false)) [])) (.fin (.bool (false)) []))))))))))))))))) := by kernel_rfl
theorem ArrangementMore_res (bs ms : List Int) (hb : Bytes bs) (_ : bs.length ≤ maxLen) (hm : Bytes ms) (_ : ms.length ≤ maxLen) : Res Try.prog 11 [.row bs.length (.bytes bs), .row ms.length (.bytes ms)] (.bool true) := by
  refine bodyV_res mixed ELa_ok (m := 30) (n := 12) rfl ?_
  rw [tr_lam]
  simp only [List.drop_zero, ptsA_flat]
  have hl := agsL_len bs (rdL bs.length) 0
  generalize agsL bs (rdL bs.length) 0 = gs at *
  have fl := flat_length gs
  have w1 : IntKind.i64.wrap ((gs.length : Int) + 1) = ((gs.length + 1 : Nat) : Int) := by rw [wr (by omega)]; omega
  have t : (ms.length : Int).tmod ((gs.length + 1 : Nat) : Int) = ((ms.length % (gs.length + 1) : Nat) : Int) := by
    rw [Int.tmod_eq_emod_of_nonneg (by omega)]
    omega
  have hr : ms.length % (gs.length + 1) ≤ gs.length := by
    have := Nat.mod_lt ms.length (show 0 < gs.length + 1 by omega)
    omega
  simp only [beq_self_eq_true, Bool.not_true, brT_t, brT_f, w1, t, bnd_someD, bnd_noneD, Int.toNat_natCast, Nat.sub_zero]
  generalize ms.length % (gs.length + 1) = r at *
  have pa : ptsA r (flat gs) = gs.take r := by
    unfold ptsA
    rw [flat_take, pts_flat]
  rw [pa]
  refine brT_ok.2 ⟨fun _ => rfl, fun _ => brT_ok.2 ⟨fun _ => rfl, fun _ => ⟨hb, Nat.le_refl _, by omega, by omega, by omega, by omega, brT_ok.2 ⟨fun _ => rfl, fun hneg => ?_⟩⟩⟩⟩
  have hneg := of_decide_eq_false hneg
  rcases hv : vgB gs with _ | _
  · exfalso
    unfold aV at hneg
    rw [hv, cond_false] at hneg
    omega
  · obtain ⟨h1, h2⟩ := vg_iff hv
    have hv2 := tk_vg hv hr
    have lk : (gs.take r).length = r := by simp; omega
    obtain ⟨p1, p2, p3⟩ := part_le h1 hr
    have eV : aV gs = (arV gs : Nat) := by unfold aV; rw [hv]; rfl
    have eE : aE gs = (arE gs gs.length : Nat) := by unfold aE; rw [hv]; rfl
    have eF : aF gs = (arE gs gs.length : Int) - arV gs + 1 := by unfold aF; rw [hv]; rfl
    have fV : aV (gs.take r) = (arV (gs.take r) : Nat) := by unfold aV; rw [hv2]; rfl
    have fE : aE (gs.take r) = (arE (gs.take r) r : Nat) := by unfold aE; rw [hv2, lk]; rfl
    have fF : aF (gs.take r) = (arE (gs.take r) r : Int) - arV (gs.take r) + 1 := by unfold aF; rw [hv2, lk]; rfl
    rw [eV, eE, eF, fV, fE, fF]
    rw [decide_eq_true (show (0 : Int) ≤ (arV (gs.take r) : Nat) by omega), decide_eq_true (show (arV (gs.take r) : Int) ≤ (arV gs : Nat) by omega), decide_eq_true (show (arE (gs.take r) r : Int) ≤ (arE gs gs.length : Nat) by omega), decide_eq_true (show (arE (gs.take r) r : Int) - arV (gs.take r) + 1 ≤ (arE gs gs.length : Int) - arV gs + 1 by omega)]
    exact ⟨by omega, by omega, by omega, by omega, rfl⟩
end Go.Proofs.Ytolodncpegajkab
