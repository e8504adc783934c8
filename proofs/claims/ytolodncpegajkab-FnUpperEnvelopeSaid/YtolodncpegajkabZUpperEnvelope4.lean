/-
  Texts that the proof needs, merged. Written by an AI agent.
-/
import Derived.Orders
import Derived.Below
import Derived.OrdersIn
import Derived.Deep.LoopGhost
import Derived.WalkKit
import Derived.Laws.CopyRow
import Derived.Laws.AppendOwn
import Derived.Laws.Slices
import Derived.Laws.MakeOwn
import Derived.Test.YtolodncpegajkabRows
import Derived.ProofKit
import Derived.OpenShut
import Derived.Carry
import Derived.IntWalk
import Derived.Test.YtolodncpegajkabProg
import Derived.WalkSpells
import Derived.WalkLawsBesides
import Derived.Lib.Hide
import Derived.Deep.QuietTactic
import Derived.BigQuiet
import Derived.KernelRfl
import Derived.Deep.RegionHeld3
import Derived.LoopTactic
import Derived.Laws.StructEq
import Derived.Laws.Tables
import Derived.RangeFuncNested
import Derived.RangeFuncLeaves
import Derived.Deep.Slices
import Derived.Deep.Fields
import Derived.ChangeSame
import Derived.Shelf.SlSortCmp.WholeK
import Derived.Sort.Grow
import Derived.Deep.DeepCutAuto
import Derived.Shelf.SlSortCmp.NoneTotal
import Derived.Test.YtolodncpegajkabZUpperEnvelope3
namespace Go.Proofs.Ytolodncpegajkab
set_option linter.all false
open Go.RowKit
theorem Lr_svO {fn : Func} (hf : Try.prog.funcs[51]? = some fn) : LoopsGood Try.prog (lt1 e_svO) 0 (codeOf fn) := by
  obtain rfl := fn_is Try.func51 hf
  exact lt1_good lg_svO
theorem Lr_ivG {fn : Func} (hf : Try.prog.funcs[54]? = some fn) : LoopsGood Try.prog (lt1 e_ivG) 0 (codeOf fn) := by
  obtain rfl := fn_is Try.func54 hf
  exact lt1_good lg_ivG
def LVg : FuncId → LT := fun f => match f with
  | 51 => lt1 e_svO
  | 54 => lt1 e_ivG
  | _ => noL
def EVg : Env := mkE TGc (fun _ _ => none) LVg
theorem EVg_ok : EnvOk Try.prog EVg := mkEOk TGc_ok (fun _ _ _ _ _ h => (by cases h)) (by
  intro f fn hf
  unfold LVg
  split
  all_goals first | with_reducible exact Lr_svO hf | with_reducible exact Lr_ivG hf | exact noL_good)
set_option maxRecDepth 100000 in
theorem tr_svGF (ps : List Pt) : bodyV Try.prog EVg 30 12 51 [.row ps.length (.ints (flat ps))] = .need ((0 : Int) = (0 : Int)) (.need ((flat ps).length = ps.length * (2 : Nat)) (.need (ps.length ≤ (1000000000 : Nat)) (brT (allQ (vgQ (ptsA ps.length (flat ps))) 0 ps.length) (.fin (.bool (decide ((↑ps.length : Int) ≤ 8))) []) (.fin (.bool (false)) [])))) := by kernel_rfl
set_option maxRecDepth 100000 in
theorem tr_ivGF (ps : List Pt) : bodyV Try.prog EVg 30 12 54 [.row ps.length (.ints (flat ps))] = brT (decide (8 < (↑ps.length : Int))) (.fin (.bool (false)) []) (.need ((0 : Int) = (0 : Int)) (.need (ps.length = ps.length) (.need ((↑ps.length : Int) = (↑ps.length : Int)) (.need ((flat ps).length = ps.length * (2 : Nat)) (.need (ps.length ≤ (1000000000 : Nat)) (brT (allQ (vgQ (ptsA ps.length (flat ps))) 0 ps.length) (.fin (.bool (true)) []) (.fin (.bool (false)) []))))))) := by kernel_rfl
def vgB (ps : List Pt) : Bool := allQ (vgQ ps) 0 ps.length && decide (ps.length ≤ 8)
theorem res_svGF (ps : List Pt) (h : Big ps) : Res Try.prog 51 [.row ps.length (.ints (flat ps))] (.bool (vgB ps)) := by
  refine bodyV_res mixed EVg_ok (m := 30) (n := 12) rfl ?_
  rw [tr_svGF]
  unfold Big at h
  simp only [ptsA_flat, flat_length]
  unfold vgB
  rcases allQ (vgQ ps) 0 ps.length with _ | _
  · exact ⟨trivial, trivial, h, rfl⟩
  · refine ⟨trivial, trivial, h, ?_⟩
    show Value.bool _ = Value.bool _
    rw [Value.bool.injEq, Bool.true_and]
    exact decide_eq_decide.2 (by omega)
theorem res_ivGF (ps : List Pt) (h : Big ps) : Res Try.prog 54 [.row ps.length (.ints (flat ps))] (.bool (vgB ps)) := by
  refine bodyV_res mixed EVg_ok (m := 30) (n := 12) rfl ?_
  rw [tr_ivGF]
  unfold Big at h
  simp only [ptsA_flat, flat_length]
  unfold vgB
  by_cases hl : ps.length ≤ 8
  · rw [decide_eq_true hl, decide_eq_false (show ¬ (8 : Int) < ps.length by omega), Bool.and_true]
    rcases allQ (vgQ ps) 0 ps.length with _ | _ <;> (simp only [brT_t, brT_f, Tree.ok]; repeat' (first | exact True.intro | exact rfl | assumption | omega | refine And.intro ?_ ?_))
  · rw [decide_eq_false hl, decide_eq_true (show (8 : Int) < ps.length by omega), Bool.and_false]
    exact rfl
def pVgs : List DArg → Option (Value × List Prop)
  | [.row m (.ints xs)] => some (.bool (vgB (ptsA m xs)), [m * 2 ≤ xs.length, m ≤ 1000000000])
  | _ => none
theorem pVgs_ok {f : FuncId} (h0 : ∀ ps : List Pt, Big ps → Res Try.prog f [.row ps.length (.ints (flat ps))] (.bool (vgB ps))) {ds : List DArg} {v : Value} {C : List Prop} (h : pVgs ds = some (v, C)) (hC : AllP C) : Res Try.prog f ds v := by
  unfold pVgs at h
  split at h
  · obtain ⟨rfl, rfl⟩ : _ ∧ _ := by simpa using h
    obtain ⟨_, h2⟩ := ptsA_spec hC.1
    exact res_pts1 (pre := []) (post := []) hC.1 (h0 _ (by unfold Big; rw [h2]; exact hC.2.1))
  · cases h
theorem pVgS_ok {ds : List DArg} {v : Value} {C : List Prop} (h : pVgs ds = some (v, C)) (hC : AllP C) : Res Try.prog 51 ds v := pVgs_ok res_svGF h hC
theorem pVgI_ok {ds : List DArg} {v : Value} {C : List Prop} (h : pVgs ds = some (v, C)) (hC : AllP C) : Res Try.prog 54 ds v := pVgs_ok res_ivGF h hC
def TVg : Tab := fun f ds => match f with
  | 51 => pVgs ds
  | 54 => pVgs ds
  | f => TGc f ds
theorem TVg_ok : TabOk Try.prog TVg := by
  intro f ds v C h hC
  unfold TVg at h
  (try split at h)
  all_goals first | with_reducible exact pVgS_ok h hC | with_reducible exact pVgI_ok h hC | exact TGc_ok _ _ _ _ h hC
def EUe : Env := mkE TVg (fun _ _ => none) (fun _ => noL)
theorem EUe_ok : EnvOk Try.prog EUe := mkEOk TVg_ok (fun _ _ _ _ _ h => (by cases h)) (fun _ _ _ => noL_good)
def kI (os : List Int) (k : Nat) : Nat := (os.getD k 0).toNat
/-- Does a graph of the order stand behind another one? -/
def aftB (gs : List Pt) (os : List Int) (k i : Nat) : Bool := decide ((gG gs i).1 < (gG gs (kI os k)).1) || (decide ((gG gs (kI os k)).1 = (gG gs i).1) && decide ((gG gs (kI os k)).2 < (gG gs i).2))
def posG (gs : List Pt) (os : List Int) (i : Nat) : Nat → Nat
  | 0 => 0
  | k + 1 => bif aftB gs os k i then posG gs os i k else k + 1
theorem posG_le (gs : List Pt) (os : List Int) (i : Nat) : ∀ k, posG gs os i k ≤ k
  | 0 => Nat.le_refl _
  | k + 1 => by
    have := posG_le gs os i k
    simp only [posG]
    cases aftB gs os k i <;> simp only [cond_true, cond_false] <;> omega
/-- The order with one more index. -/
def insI (gs : List Pt) (os : List Int) (i : Nat) : List Int := os.take (posG gs os i os.length) ++ ((i : Int) :: os.drop (posG gs os i os.length))
def ordL (gs : List Pt) : Nat → Nat → List Int → List Int
  | 0, _, os => os
  | n + 1, i, os => ordL gs n (i + 1) (insI gs os i)
theorem ordL_step {gs : List Pt} {i n : Nat} {os : List Int} (h : i < n) : ordL gs (n - i) i os = ordL gs (n - (i + 1)) (i + 1) (insI gs os i) := by
  rw [show n - i = (n - (i + 1)) + 1 by omega]
  rfl
def ixIn (n : Nat) (os : List Int) : Prop := ∀ k, k < os.length → 0 ≤ os.getD k 0 ∧ os.getD k 0 < n
noncomputable def c_sEi : Code := ((loopsOf (codeOf Try.f16))[1]?).getD .skip
def k_sEi : Ex → List Nat := keeps [0, 3, 4, 5] [(2, [0, 3, 4, 5]), (1, [0, 3, 4]), (0, [0, 3])] [2]
def s_sEi (gs : List Pt) (os : List Int) (m i : Nat) : Nat → St := fun k => ⟨(.slice (some ⟨0, 0, none⟩) gs.length gs.length :: topV :: topV :: .slice (some ⟨2, 0, none⟩) m m :: .int .i64 i :: .int .i64 k :: topV :: topV :: topV :: topV :: topV :: topV :: topV :: topV :: topV :: topV :: topV :: topV :: topV :: topV :: topV :: topV :: topV :: topV :: topV :: topV :: topV :: topV :: topV :: topV :: topV :: topV :: topV :: topV :: topV :: topV :: topV :: topV :: topV :: topV :: topV :: topV :: topV :: topV :: topV :: topV :: topV :: topV :: topV :: topV :: topV :: topV :: topV :: topV :: topV :: topV :: topV :: topV :: topV :: topV :: topV :: topV :: topV :: topV :: topV :: topV :: topV :: topV :: topV :: topV :: topV :: topV :: topV :: topV :: topV :: topV :: topV :: topV :: topV :: topV :: topV :: topV :: topV :: topV :: topV :: topV :: topV :: topV :: topV :: topV :: topV :: topV :: topV :: topV :: topV :: topV :: topV :: topV :: topV :: topV :: topV :: topV :: topV :: topV :: topV :: topV :: topV :: topV :: topV :: topV :: topV :: topV :: topV :: topV :: topV :: topV :: topV :: topV :: topV :: topV :: topV :: topV :: topV :: topV :: topV :: topV :: topV :: topV :: topV :: topV :: topV :: topV :: topV :: topV :: topV :: topV :: topV :: topV :: topV :: topV :: topV :: topV :: topV :: topV :: topV :: topV :: topV :: topV :: topV :: topV :: topV :: topV :: topV :: topV :: topV :: topV :: topV :: topV :: topV :: topV :: topV :: topV :: topV :: []), [some ⟨.view, .ints (flat gs)⟩, some ⟨.dead, .vals []⟩, some ⟨.row 3 1, .ints os⟩]⟩
def re_sEi : Nat → Ex := fun _ => .exit 2
def rs_sEi (gs : List Pt) (os : List Int) (m i : Nat) : Nat → St := fun k => ⟨(.slice (some ⟨0, 0, none⟩) gs.length gs.length :: topV :: topV :: .slice (some ⟨2, 0, none⟩) m m :: .int .i64 i :: .int .i64 (posG gs os i m) :: topV :: topV :: topV :: topV :: topV :: topV :: topV :: topV :: topV :: topV :: topV :: topV :: topV :: topV :: topV :: topV :: topV :: topV :: topV :: topV :: topV :: topV :: topV :: topV :: topV :: topV :: topV :: topV :: topV :: topV :: topV :: topV :: topV :: topV :: topV :: topV :: topV :: topV :: topV :: topV :: topV :: topV :: topV :: topV :: topV :: topV :: topV :: topV :: topV :: topV :: topV :: topV :: topV :: topV :: topV :: topV :: topV :: topV :: topV :: topV :: topV :: topV :: topV :: topV :: topV :: topV :: topV :: topV :: topV :: topV :: topV :: topV :: topV :: topV :: topV :: topV :: topV :: topV :: topV :: topV :: topV :: topV :: topV :: topV :: topV :: topV :: topV :: topV :: topV :: topV :: topV :: topV :: topV :: topV :: topV :: topV :: topV :: topV :: topV :: topV :: topV :: topV :: topV :: topV :: topV :: topV :: topV :: topV :: topV :: topV :: topV :: topV :: topV :: topV :: topV :: topV :: topV :: topV :: topV :: topV :: topV :: topV :: topV :: topV :: topV :: topV :: topV :: topV :: topV :: topV :: topV :: topV :: topV :: topV :: topV :: topV :: topV :: topV :: topV :: topV :: topV :: topV :: topV :: topV :: topV :: topV :: topV :: topV :: topV :: topV :: topV :: topV :: topV :: topV :: topV :: topV :: topV :: []), [some ⟨.view, .ints (flat gs)⟩, some ⟨.dead, .vals []⟩, some ⟨.row 3 1, .ints os⟩]⟩
set_option maxRecDepth 100000 in
theorem tr_sEi (gs : List Pt) (os : List Int) (m i : Nat) (k : Nat) : bodyL Try.prog EUe 30 12 noL 2 c_sEi k_sEi 3 (s_sEi gs os m i k) = brT (decide (0 < (↑k : Int))) (brT (decide ((flat gs).getD (0 + (↑i : Int).toNat * 2 + 0) 0 < (flat gs).getD (0 + (os.getD (0 + (IntKind.i64.wrap ((↑k : Int) - 1)).toNat * 1) 0).toNat * 2 + 0) 0)) (.need ((0 : Int) ≤ IntKind.i64.wrap ((↑k : Int) - (1 : Int)) ∧ IntKind.i64.wrap ((↑k : Int) - (1 : Int)) < (↑m : Int)) (.need ((0 : Nat) + (IntKind.i64.wrap ((↑k : Int) - (1 : Int))).toNat * (1 : Nat) < os.length) (.need ((0 : Int) ≤ os.getD ((0 : Nat) + (IntKind.i64.wrap ((↑k : Int) - (1 : Int))).toNat * (1 : Nat)) (0 : Int) ∧ os.getD ((0 : Nat) + (IntKind.i64.wrap ((↑k : Int) - (1 : Int))).toNat * (1 : Nat)) (0 : Int) < (↑gs.length : Int)) (.need ((0 : Nat) + (os.getD ((0 : Nat) + (IntKind.i64.wrap ((↑k : Int) - (1 : Int))).toNat * (1 : Nat)) (0 : Int)).toNat * (2 : Nat) + (0 : Nat) < (flat gs).length) (.need ((0 : Int) ≤ (↑i : Int) ∧ (↑i : Int) < (↑gs.length : Int)) (.need ((0 : Nat) + (↑i : Int).toNat * (2 : Nat) + (0 : Nat) < (flat gs).length) (.leaf .normal ⟨(.slice (some ⟨0, 0, none⟩) (gs.length) (gs.length) :: topV :: topV :: .slice (some ⟨2, 0, none⟩) (m) (m) :: .int .i64 ((↑i : Int)) :: .int .i64 (IntKind.i64.wrap ((↑k : Int) - 1)) :: topV :: topV :: topV :: topV :: topV :: topV :: topV :: topV :: topV :: topV :: topV :: topV :: topV :: topV :: topV :: topV :: topV :: topV :: topV :: topV :: topV :: topV :: topV :: topV :: topV :: topV :: topV :: topV :: topV :: topV :: topV :: topV :: topV :: topV :: topV :: topV :: topV :: topV :: topV :: topV :: topV :: topV :: topV :: topV :: topV :: topV :: topV :: topV :: topV :: topV :: topV :: topV :: topV :: topV :: topV :: topV :: topV :: topV :: topV :: topV :: topV :: topV :: topV :: topV :: topV :: topV :: topV :: topV :: topV :: topV :: topV :: topV :: topV :: topV :: topV :: topV :: topV :: topV :: topV :: topV :: topV :: topV :: topV :: topV :: topV :: topV :: topV :: topV :: topV :: topV :: topV :: topV :: topV :: topV :: topV :: topV :: topV :: topV :: topV :: topV :: topV :: topV :: topV :: topV :: topV :: topV :: topV :: topV :: topV :: topV :: topV :: topV :: topV :: topV :: topV :: topV :: topV :: topV :: topV :: topV :: topV :: topV :: topV :: topV :: topV :: topV :: topV :: topV :: topV :: topV :: topV :: topV :: topV :: topV :: topV :: topV :: topV :: topV :: topV :: topV :: topV :: topV :: topV :: topV :: topV :: topV :: topV :: topV :: topV :: topV :: topV :: topV :: topV :: topV :: topV :: topV :: topV :: []), [some ⟨.view, .ints (flat gs)⟩, some deadB, some ⟨.row 3 1, .ints (os)⟩]⟩))))))) (brT ((flat gs).getD (0 + (os.getD (0 + (IntKind.i64.wrap ((↑k : Int) - 1)).toNat * 1) 0).toNat * 2 + 0) 0 == (flat gs).getD (0 + (↑i : Int).toNat * 2 + 0) 0) (.need ((0 : Int) ≤ IntKind.i64.wrap ((↑k : Int) - (1 : Int)) ∧ IntKind.i64.wrap ((↑k : Int) - (1 : Int)) < (↑m : Int)) (.need ((0 : Nat) + (IntKind.i64.wrap ((↑k : Int) - (1 : Int))).toNat * (1 : Nat) < os.length) (.need ((0 : Int) ≤ os.getD ((0 : Nat) + (IntKind.i64.wrap ((↑k : Int) - (1 : Int))).toNat * (1 : Nat)) (0 : Int) ∧ os.getD ((0 : Nat) + (IntKind.i64.wrap ((↑k : Int) - (1 : Int))).toNat * (1 : Nat)) (0 : Int) < (↑gs.length : Int)) (.need ((0 : Nat) + (os.getD ((0 : Nat) + (IntKind.i64.wrap ((↑k : Int) - (1 : Int))).toNat * (1 : Nat)) (0 : Int)).toNat * (2 : Nat) + (0 : Nat) < (flat gs).length) (.need ((0 : Int) ≤ (↑i : Int) ∧ (↑i : Int) < (↑gs.length : Int)) (.need ((0 : Nat) + (↑i : Int).toNat * (2 : Nat) + (0 : Nat) < (flat gs).length) (.need ((0 : Int) ≤ IntKind.i64.wrap ((↑k : Int) - (1 : Int)) ∧ IntKind.i64.wrap ((↑k : Int) - (1 : Int)) < (↑m : Int)) (.need ((0 : Nat) + (IntKind.i64.wrap ((↑k : Int) - (1 : Int))).toNat * (1 : Nat) < os.length) (.need ((0 : Int) ≤ os.getD ((0 : Nat) + (IntKind.i64.wrap ((↑k : Int) - (1 : Int))).toNat * (1 : Nat)) (0 : Int) ∧ os.getD ((0 : Nat) + (IntKind.i64.wrap ((↑k : Int) - (1 : Int))).toNat * (1 : Nat)) (0 : Int) < (↑gs.length : Int)) (.need ((0 : Nat) + (os.getD ((0 : Nat) + (IntKind.i64.wrap ((↑k : Int) - (1 : Int))).toNat * (1 : Nat)) (0 : Int)).toNat * (2 : Nat) + (0 : Nat) < (flat gs).length) (.need ((0 : Int) ≤ (↑i : Int) ∧ (↑i : Int) < (↑gs.length : Int)) (.need ((0 : Nat) + (↑i : Int).toNat * (2 : Nat) + (0 : Nat) < (flat gs).length) (.need ((0 : Int) ≤ IntKind.i64.wrap ((↑k : Int) - (1 : Int)) ∧ IntKind.i64.wrap ((↑k : Int) - (1 : Int)) < (↑m : Int)) (.need ((0 : Nat) + (IntKind.i64.wrap ((↑k : Int) - (1 : Int))).toNat * (1 : Nat) < os.length) (.need ((0 : Int) ≤ os.getD ((0 : Nat) + (IntKind.i64.wrap ((↑k : Int) - (1 : Int))).toNat * (1 : Nat)) (0 : Int) ∧ os.getD ((0 : Nat) + (IntKind.i64.wrap ((↑k : Int) - (1 : Int))).toNat * (1 : Nat)) (0 : Int) < (↑gs.length : Int)) (.need ((0 : Nat) + (os.getD ((0 : Nat) + (IntKind.i64.wrap ((↑k : Int) - (1 : Int))).toNat * (1 : Nat)) (0 : Int)).toNat * (2 : Nat) + (1 : Nat) < (flat gs).length) (.need ((0 : Int) ≤ (↑i : Int) ∧ (↑i : Int) < (↑gs.length : Int)) (.need ((0 : Nat) + (↑i : Int).toNat * (2 : Nat) + (1 : Nat) < (flat gs).length) (brT (decide ((flat gs).getD (0 + (os.getD (0 + (IntKind.i64.wrap ((↑k : Int) - 1)).toNat * 1) 0).toNat * 2 + 1) 0 < (flat gs).getD (0 + (↑i : Int).toNat * 2 + 1) 0)) (.leaf .normal ⟨(.slice (some ⟨0, 0, none⟩) (gs.length) (gs.length) :: topV :: topV :: .slice (some ⟨2, 0, none⟩) (m) (m) :: .int .i64 ((↑i : Int)) :: .int .i64 (IntKind.i64.wrap ((↑k : Int) - 1)) :: topV :: topV :: topV :: topV :: topV :: topV :: topV :: topV :: topV :: topV :: topV :: topV :: topV :: topV :: topV :: topV :: topV :: topV :: topV :: topV :: topV :: topV :: topV :: topV :: topV :: topV :: topV :: topV :: topV :: topV :: topV :: topV :: topV :: topV :: topV :: topV :: topV :: topV :: topV :: topV :: topV :: topV :: topV :: topV :: topV :: topV :: topV :: topV :: topV :: topV :: topV :: topV :: topV :: topV :: topV :: topV :: topV :: topV :: topV :: topV :: topV :: topV :: topV :: topV :: topV :: topV :: topV :: topV :: topV :: topV :: topV :: topV :: topV :: topV :: topV :: topV :: topV :: topV :: topV :: topV :: topV :: topV :: topV :: topV :: topV :: topV :: topV :: topV :: topV :: topV :: topV :: topV :: topV :: topV :: topV :: topV :: topV :: topV :: topV :: topV :: topV :: topV :: topV :: topV :: topV :: topV :: topV :: topV :: topV :: topV :: topV :: topV :: topV :: topV :: topV :: topV :: topV :: topV :: topV :: topV :: topV :: topV :: topV :: topV :: topV :: topV :: topV :: topV :: topV :: topV :: topV :: topV :: topV :: topV :: topV :: topV :: topV :: topV :: topV :: topV :: topV :: topV :: topV :: topV :: topV :: topV :: topV :: topV :: topV :: topV :: topV :: topV :: topV :: topV :: topV :: topV :: topV :: []), [some ⟨.view, .ints (flat gs)⟩, some deadB, some ⟨.row 3 1, .ints (os)⟩]⟩) (.leaf (.exit 2) ⟨(.slice (some ⟨0, 0, none⟩) (gs.length) (gs.length) :: topV :: topV :: .slice (some ⟨2, 0, none⟩) (m) (m) :: .int .i64 ((↑i : Int)) :: .int .i64 ((↑k : Int)) :: topV :: topV :: topV :: topV :: topV :: topV :: topV :: topV :: topV :: topV :: topV :: topV :: topV :: topV :: topV :: topV :: topV :: topV :: topV :: topV :: topV :: topV :: topV :: topV :: topV :: topV :: topV :: topV :: topV :: topV :: topV :: topV :: topV :: topV :: topV :: topV :: topV :: topV :: topV :: topV :: topV :: topV :: topV :: topV :: topV :: topV :: topV :: topV :: topV :: topV :: topV :: topV :: topV :: topV :: topV :: topV :: topV :: topV :: topV :: topV :: topV :: topV :: topV :: topV :: topV :: topV :: topV :: topV :: topV :: topV :: topV :: topV :: topV :: topV :: topV :: topV :: topV :: topV :: topV :: topV :: topV :: topV :: topV :: topV :: topV :: topV :: topV :: topV :: topV :: topV :: topV :: topV :: topV :: topV :: topV :: topV :: topV :: topV :: topV :: topV :: topV :: topV :: topV :: topV :: topV :: topV :: topV :: topV :: topV :: topV :: topV :: topV :: topV :: topV :: topV :: topV :: topV :: topV :: topV :: topV :: topV :: topV :: topV :: topV :: topV :: topV :: topV :: topV :: topV :: topV :: topV :: topV :: topV :: topV :: topV :: topV :: topV :: topV :: topV :: topV :: topV :: topV :: topV :: topV :: topV :: topV :: topV :: topV :: topV :: topV :: topV :: topV :: topV :: topV :: topV :: topV :: topV :: []), [some ⟨.view, .ints (flat gs)⟩, some deadB, some ⟨.row 3 1, .ints (os)⟩]⟩)))))))))))))))))))) (.need ((0 : Int) ≤ IntKind.i64.wrap ((↑k : Int) - (1 : Int)) ∧ IntKind.i64.wrap ((↑k : Int) - (1 : Int)) < (↑m : Int)) (.need ((0 : Nat) + (IntKind.i64.wrap ((↑k : Int) - (1 : Int))).toNat * (1 : Nat) < os.length) (.need ((0 : Int) ≤ os.getD ((0 : Nat) + (IntKind.i64.wrap ((↑k : Int) - (1 : Int))).toNat * (1 : Nat)) (0 : Int) ∧ os.getD ((0 : Nat) + (IntKind.i64.wrap ((↑k : Int) - (1 : Int))).toNat * (1 : Nat)) (0 : Int) < (↑gs.length : Int)) (.need ((0 : Nat) + (os.getD ((0 : Nat) + (IntKind.i64.wrap ((↑k : Int) - (1 : Int))).toNat * (1 : Nat)) (0 : Int)).toNat * (2 : Nat) + (0 : Nat) < (flat gs).length) (.need ((0 : Int) ≤ (↑i : Int) ∧ (↑i : Int) < (↑gs.length : Int)) (.need ((0 : Nat) + (↑i : Int).toNat * (2 : Nat) + (0 : Nat) < (flat gs).length) (.need ((0 : Int) ≤ IntKind.i64.wrap ((↑k : Int) - (1 : Int)) ∧ IntKind.i64.wrap ((↑k : Int) - (1 : Int)) < (↑m : Int)) (.need ((0 : Nat) + (IntKind.i64.wrap ((↑k : Int) - (1 : Int))).toNat * (1 : Nat) < os.length) (.need ((0 : Int) ≤ os.getD ((0 : Nat) + (IntKind.i64.wrap ((↑k : Int) - (1 : Int))).toNat * (1 : Nat)) (0 : Int) ∧ os.getD ((0 : Nat) + (IntKind.i64.wrap ((↑k : Int) - (1 : Int))).toNat * (1 : Nat)) (0 : Int) < (↑gs.length : Int)) (.need ((0 : Nat) + (os.getD ((0 : Nat) + (IntKind.i64.wrap ((↑k : Int) - (1 : Int))).toNat * (1 : Nat)) (0 : Int)).toNat * (2 : Nat) + (0 : Nat) < (flat gs).length) (.need ((0 : Int) ≤ (↑i : Int) ∧ (↑i : Int) < (↑gs.length : Int)) (.need ((0 : Nat) + (↑i : Int).toNat * (2 : Nat) + (0 : Nat) < (flat gs).length) (.leaf (.exit 2) ⟨(.slice (some ⟨0, 0, none⟩) (gs.length) (gs.length) :: topV :: topV :: .slice (some ⟨2, 0, none⟩) (m) (m) :: .int .i64 ((↑i : Int)) :: .int .i64 ((↑k : Int)) :: topV :: topV :: topV :: topV :: topV :: topV :: topV :: topV :: topV :: topV :: topV :: topV :: topV :: topV :: topV :: topV :: topV :: topV :: topV :: topV :: topV :: topV :: topV :: topV :: topV :: topV :: topV :: topV :: topV :: topV :: topV :: topV :: topV :: topV :: topV :: topV :: topV :: topV :: topV :: topV :: topV :: topV :: topV :: topV :: topV :: topV :: topV :: topV :: topV :: topV :: topV :: topV :: topV :: topV :: topV :: topV :: topV :: topV :: topV :: topV :: topV :: topV :: topV :: topV :: topV :: topV :: topV :: topV :: topV :: topV :: topV :: topV :: topV :: topV :: topV :: topV :: topV :: topV :: topV :: topV :: topV :: topV :: topV :: topV :: topV :: topV :: topV :: topV :: topV :: topV :: topV :: topV :: topV :: topV :: topV :: topV :: topV :: topV :: topV :: topV :: topV :: topV :: topV :: topV :: topV :: topV :: topV :: topV :: topV :: topV :: topV :: topV :: topV :: topV :: topV :: topV :: topV :: topV :: topV :: topV :: topV :: topV :: topV :: topV :: topV :: topV :: topV :: topV :: topV :: topV :: topV :: topV :: topV :: topV :: topV :: topV :: topV :: topV :: topV :: topV :: topV :: topV :: topV :: topV :: topV :: topV :: topV :: topV :: topV :: topV :: topV :: topV :: topV :: topV :: topV :: topV :: topV :: []), [some ⟨.view, .ints (flat gs)⟩, some deadB, some ⟨.row 3 1, .ints (os)⟩]⟩))))))))))))))) (.leaf (.exit 2) ⟨(.slice (some ⟨0, 0, none⟩) (gs.length) (gs.length) :: topV :: topV :: .slice (some ⟨2, 0, none⟩) (m) (m) :: .int .i64 ((↑i : Int)) :: .int .i64 ((↑k : Int)) :: topV :: topV :: topV :: topV :: topV :: topV :: topV :: topV :: topV :: topV :: topV :: topV :: topV :: topV :: topV :: topV :: topV :: topV :: topV :: topV :: topV :: topV :: topV :: topV :: topV :: topV :: topV :: topV :: topV :: topV :: topV :: topV :: topV :: topV :: topV :: topV :: topV :: topV :: topV :: topV :: topV :: topV :: topV :: topV :: topV :: topV :: topV :: topV :: topV :: topV :: topV :: topV :: topV :: topV :: topV :: topV :: topV :: topV :: topV :: topV :: topV :: topV :: topV :: topV :: topV :: topV :: topV :: topV :: topV :: topV :: topV :: topV :: topV :: topV :: topV :: topV :: topV :: topV :: topV :: topV :: topV :: topV :: topV :: topV :: topV :: topV :: topV :: topV :: topV :: topV :: topV :: topV :: topV :: topV :: topV :: topV :: topV :: topV :: topV :: topV :: topV :: topV :: topV :: topV :: topV :: topV :: topV :: topV :: topV :: topV :: topV :: topV :: topV :: topV :: topV :: topV :: topV :: topV :: topV :: topV :: topV :: topV :: topV :: topV :: topV :: topV :: topV :: topV :: topV :: topV :: topV :: topV :: topV :: topV :: topV :: topV :: topV :: topV :: topV :: topV :: topV :: topV :: topV :: topV :: topV :: topV :: topV :: topV :: topV :: topV :: topV :: topV :: topV :: topV :: topV :: topV :: topV :: []), [some ⟨.view, .ints (flat gs)⟩, some deadB, some ⟨.row 3 1, .ints (os)⟩]⟩) := by kernel_rfl
set_option maxRecDepth 100000 in
theorem nl_sEi : loopsOf c_sEi = [] := by kernel_rfl
def inv_sEi (gs : List Pt) (os : List Int) (m i : Nat) : Nat → Prop := fun k => k ≤ m ∧ posG gs os i k = posG gs os i m
def me_sEi (gs : List Pt) (os : List Int) (m i : Nat) : Nat → Nat := fun k => k
/-- A round of this loop. -/
def Round_sEi (gs : List Pt) (os : List Int) (m i : Nat) : Prop := ∀ xx : Nat, inv_sEi gs os m i xx → (bodyL Try.prog EUe 30 12 noL 2 c_sEi k_sEi 3 (s_sEi gs os m i xx)).ok (RoundEnd 3 (s_sEi gs os m i) (inv_sEi gs os m i) (me_sEi gs os m i) re_sEi (rs_sEi gs os m i) xx) (fun _ _ => False)
def e_sEi (s : St) (k : Ex → St → Tree) : Option Tree := match Nat.beq s.tmps.length 163, pickL s.tmps [0, 3, 4, 5], s.mem with
  | true, [.slice (some ⟨0, 0, none⟩) n _, .slice (some ⟨2, 0, none⟩) m _, .int .i64 ii, .int .i64 kk], [some ⟨.view, .ints xs⟩, some ⟨.dead, .vals []⟩, some ⟨.row 3 1, .ints os⟩] => some (needs [kk = (m : Int), 0 ≤ ii ∧ ii < n, xs.length = n * 2, n ≤ 8, os.length = m, ixIn n os, m ≤ 8] (k (.exit 2) ⟨(.slice (some ⟨0, 0, none⟩) n n :: topV :: topV :: .slice (some ⟨2, 0, none⟩) m m :: .int .i64 ii :: .int .i64 (posG (ptsA n xs) os ii.toNat m) :: topV :: topV :: topV :: topV :: topV :: topV :: topV :: topV :: topV :: topV :: topV :: topV :: topV :: topV :: topV :: topV :: topV :: topV :: topV :: topV :: topV :: topV :: topV :: topV :: topV :: topV :: topV :: topV :: topV :: topV :: topV :: topV :: topV :: topV :: topV :: topV :: topV :: topV :: topV :: topV :: topV :: topV :: topV :: topV :: topV :: topV :: topV :: topV :: topV :: topV :: topV :: topV :: topV :: topV :: topV :: topV :: topV :: topV :: topV :: topV :: topV :: topV :: topV :: topV :: topV :: topV :: topV :: topV :: topV :: topV :: topV :: topV :: topV :: topV :: topV :: topV :: topV :: topV :: topV :: topV :: topV :: topV :: topV :: topV :: topV :: topV :: topV :: topV :: topV :: topV :: topV :: topV :: topV :: topV :: topV :: topV :: topV :: topV :: topV :: topV :: topV :: topV :: topV :: topV :: topV :: topV :: topV :: topV :: topV :: topV :: topV :: topV :: topV :: topV :: topV :: topV :: topV :: topV :: topV :: topV :: topV :: topV :: topV :: topV :: topV :: topV :: topV :: topV :: topV :: topV :: topV :: topV :: topV :: topV :: topV :: topV :: topV :: topV :: topV :: topV :: topV :: topV :: topV :: topV :: topV :: topV :: topV :: topV :: topV :: topV :: topV :: topV :: topV :: topV :: topV :: topV :: topV :: []), [some ⟨.view, .ints xs⟩, some ⟨.dead, .vals []⟩, some ⟨.row 3 1, .ints os⟩]⟩))
  | _, _, _ => none
set_option maxRecDepth 100000 in
set_option maxHeartbeats 2000000 in
theorem round_sEi (gs : List Pt) (os : List Int) (m i : Nat) (h : gs.length ≤ 8) (hm : os.length = m) (ho : ixIn gs.length os) (hi : i < gs.length) (hm8 : m ≤ 8) : Round_sEi gs os m i := by
  rintro k ⟨h1, h2⟩
  rw [tr_sEi]
  have fl := flat_length gs
  refine brT_ok.2 ⟨fun hlt => ?_, fun hge => ?_⟩
  · have hlt := of_decide_eq_true hlt
    obtain ⟨j, rfl⟩ : ∃ j, k = j + 1 := ⟨k - 1, by omega⟩
    have w : IntKind.i64.wrap (((j + 1 : Nat) : Int) - 1) = (j : Int) := by rw [wr (by omega)]; omega
    have o := ho j (by omega)
    have ka : os.getD j 0 = (kI os j : Int) := (Int.toNat_of_nonneg o.1).symm
    have kb : kI os j < gs.length := by unfold kI; omega
    simp only [w, Int.toNat_natCast, Nat.zero_add, Nat.add_zero, Nat.mul_one, ka, flat_get0, flat_get1]
    have dn : aftB gs os j i = true → posG gs os i j = posG gs os i m := fun e => by rw [← h2]; simp only [posG, e, cond_true]
    have up : aftB gs os j i = false → posG gs os i m = j + 1 := fun e => by rw [← h2]; simp only [posG, e, cond_false]
    have ea : aftB gs os j i = (decide ((gs.getD i (0, 0)).1 < (gs.getD (kI os j) (0, 0)).1) || (decide ((gs.getD (kI os j) (0, 0)).1 = (gs.getD i (0, 0)).1) && decide ((gs.getD (kI os j) (0, 0)).2 < (gs.getD i (0, 0)).2))) := rfl
    refine brT_ok.2 ⟨fun g => ?_, fun g => ?_⟩
    · have e := dn (by rw [ea, g, Bool.true_or])
      simp only [Tree.ok]
      repeat (refine And.intro (by omega) ?_)
      refine ⟨j, [], ⟨by omega, e⟩, ?_, rfl, rfl, ?_⟩
      · show j < j + 1; omega
      · repeat' (first | exact True.intro | exact rfl | exact fun _ => rfl | (simp; done) | refine And.intro ?_ ?_)
    · refine brT_ok.2 ⟨fun g1 => ?_, fun g1 => ?_⟩
      · have g1 : (gs.getD (kI os j) (0, 0)).1 = (gs.getD i (0, 0)).1 := by simpa using g1
        simp only [Tree.ok]
        repeat (refine And.intro (by omega) ?_)
        refine brT_ok.2 ⟨fun g2 => ?_, fun g2 => ?_⟩
        · have e := dn (by rw [ea, g, decide_eq_true g1, g2]; rfl)
          refine ⟨j, [], ⟨by omega, e⟩, ?_, rfl, rfl, ?_⟩
          · show j < j + 1; omega
          · repeat' (first | exact True.intro | exact rfl | exact fun _ => rfl | (simp; done) | refine And.intro ?_ ?_)
        · have e := up (by rw [ea, g, g2, Bool.and_false]; rfl)
          refine ⟨rfl, [], ?_⟩
          simp only [rs_sEi, e]
          repeat' (first | exact True.intro | exact rfl | exact fun _ => rfl | (simp; done) | refine And.intro ?_ ?_)
      · have g1 : ¬ (gs.getD (kI os j) (0, 0)).1 = (gs.getD i (0, 0)).1 := by simpa using g1
        have e := up (by rw [ea, g, decide_eq_false g1]; rfl)
        simp only [Tree.ok]
        repeat (refine And.intro (by omega) ?_)
        refine ⟨rfl, [], ?_⟩
        simp only [rs_sEi, e]
        repeat' (first | exact True.intro | exact rfl | exact fun _ => rfl | (simp; done) | refine And.intro ?_ ?_)
  · have hge := of_decide_eq_false hge
    obtain rfl : k = 0 := by omega
    refine ⟨rfl, [], ?_⟩
    simp only [rs_sEi, ← h2]
    repeat' (first | exact True.intro | exact rfl | exact fun _ => rfl | (simp; done) | refine And.intro ?_ ?_)
set_option maxRecDepth 100000 in
theorem lg_sEi : LoopE Try.prog e_sEi c_sEi := by
  intro s k t F H hlt ht
  unfold e_sEi at hlt
  split at hlt
  rotate_left
  · cases hlt
  rename_i hlen hpick hmem
  obtain ⟨tmps, mem⟩ := s
  simp only at hlen hpick hmem
  subst hmem
  obtain rfl := Option.some.inj hlt
  obtain ⟨⟨rfl, h0, h1, h2, h3, h4, h5, _⟩, ht2⟩ := needs_ok ht
  clear ht hlt
  obtain ⟨gs, rfl, rfl⟩ := even_flat h1
  obtain ⟨i, rfl⟩ := Int.eq_ofNat_of_zero_le h0.1
  rw [ptsA_flat] at ht2
  simp only [Int.toNat_natCast] at ht2
  refine ⟨_, _, ht2, loop_run mixed EUe_ok (s_sEi gs _ _ i) (inv_sEi gs _ _ i) (me_sEi gs _ _ i) re_sEi (rs_sEi gs _ _ i) k_sEi (fun _ => rfl) (noLoops nl_sEi) (round_sEi gs _ _ i h2 h3 h4 (by omega) h5) (x := _) ⟨Nat.le_refl _, rfl⟩ (π := []) rfl ?_⟩
  refine ⟨rfl, rfl, ?_, wvs_spread' [0, 3, 4, 5] hlen rfl ?_⟩
  · repeat' (first | exact True.intro | exact rfl | exact wv_top _ _ | exact fun _ => rfl | assumption | exact Eq.symm (by assumption) | exact vI0 rfl | refine And.intro ?_ ?_)
  · rw [hpick]
    repeat' (first | exact True.intro | exact rfl | exact wv_top _ _ | exact fun _ => rfl | assumption | exact Eq.symm (by assumption) | exact vI0 rfl | refine And.intro ?_ ?_)
def ltUe : LT := fun j s k => match j with
  | 1 => e_sEi s k
  | _ => none
noncomputable def c_sEo : Code := ((loopsOf (codeOf Try.f16))[0]?).getD .skip
def k_sEo : Ex → List Nat := keeps [0, 3, 4] [(0, [0, 3])] [2]
def s_sEo (gs : List Pt) : Nat × (List Int) → St := fun (i, os) => ⟨(.slice (some ⟨0, 0, none⟩) gs.length gs.length :: topV :: topV :: .slice (some ⟨2, 0, none⟩) os.length os.length :: .int .i64 i :: topV :: topV :: topV :: topV :: topV :: topV :: topV :: topV :: topV :: topV :: topV :: topV :: topV :: topV :: topV :: topV :: topV :: topV :: topV :: topV :: topV :: topV :: topV :: topV :: topV :: topV :: topV :: topV :: topV :: topV :: topV :: topV :: topV :: topV :: topV :: topV :: topV :: topV :: topV :: topV :: topV :: topV :: topV :: topV :: topV :: topV :: topV :: topV :: topV :: topV :: topV :: topV :: topV :: topV :: topV :: topV :: topV :: topV :: topV :: topV :: topV :: topV :: topV :: topV :: topV :: topV :: topV :: topV :: topV :: topV :: topV :: topV :: topV :: topV :: topV :: topV :: topV :: topV :: topV :: topV :: topV :: topV :: topV :: topV :: topV :: topV :: topV :: topV :: topV :: topV :: topV :: topV :: topV :: topV :: topV :: topV :: topV :: topV :: topV :: topV :: topV :: topV :: topV :: topV :: topV :: topV :: topV :: topV :: topV :: topV :: topV :: topV :: topV :: topV :: topV :: topV :: topV :: topV :: topV :: topV :: topV :: topV :: topV :: topV :: topV :: topV :: topV :: topV :: topV :: topV :: topV :: topV :: topV :: topV :: topV :: topV :: topV :: topV :: topV :: topV :: topV :: topV :: topV :: topV :: topV :: topV :: topV :: topV :: topV :: topV :: topV :: topV :: topV :: topV :: topV :: topV :: topV :: topV :: []), [some ⟨.view, .ints (flat gs)⟩, some ⟨.dead, .vals []⟩, some ⟨.row 3 1, .ints os⟩]⟩
def re_sEo : Nat × (List Int) → Ex := fun _ => .exit 0
def rs_sEo (gs : List Pt) : Nat × (List Int) → St := fun (i, os) => ⟨(.slice (some ⟨0, 0, none⟩) gs.length gs.length :: topV :: topV :: .slice (some ⟨2, 0, none⟩) (ordL gs (gs.length - i) i os).length (ordL gs (gs.length - i) i os).length :: topV :: topV :: topV :: topV :: topV :: topV :: topV :: topV :: topV :: topV :: topV :: topV :: topV :: topV :: topV :: topV :: topV :: topV :: topV :: topV :: topV :: topV :: topV :: topV :: topV :: topV :: topV :: topV :: topV :: topV :: topV :: topV :: topV :: topV :: topV :: topV :: topV :: topV :: topV :: topV :: topV :: topV :: topV :: topV :: topV :: topV :: topV :: topV :: topV :: topV :: topV :: topV :: topV :: topV :: topV :: topV :: topV :: topV :: topV :: topV :: topV :: topV :: topV :: topV :: topV :: topV :: topV :: topV :: topV :: topV :: topV :: topV :: topV :: topV :: topV :: topV :: topV :: topV :: topV :: topV :: topV :: topV :: topV :: topV :: topV :: topV :: topV :: topV :: topV :: topV :: topV :: topV :: topV :: topV :: topV :: topV :: topV :: topV :: topV :: topV :: topV :: topV :: topV :: topV :: topV :: topV :: topV :: topV :: topV :: topV :: topV :: topV :: topV :: topV :: topV :: topV :: topV :: topV :: topV :: topV :: topV :: topV :: topV :: topV :: topV :: topV :: topV :: topV :: topV :: topV :: topV :: topV :: topV :: topV :: topV :: topV :: topV :: topV :: topV :: topV :: topV :: topV :: topV :: topV :: topV :: topV :: topV :: topV :: topV :: topV :: topV :: topV :: topV :: topV :: topV :: topV :: topV :: topV :: topV :: []), [some ⟨.view, .ints (flat gs)⟩, some ⟨.dead, .vals []⟩, some ⟨.row 3 1, .ints (ordL gs (gs.length - i) i os)⟩]⟩
set_option maxRecDepth 100000 in
theorem tr_sEo (gs : List Pt) (i : Nat) (os : List Int) : bodyL Try.prog EUe 30 12 ltUe 1 c_sEo k_sEo 24 (s_sEo gs (i, os)) = brT (decide ((↑i : Int) < (↑gs.length : Int))) (.need ((↑os.length : Int) = (↑os.length : Int)) (.need ((0 : Int) ≤ (↑i : Int) ∧ (↑i : Int) < (↑gs.length : Int)) (.need ((flat gs).length = gs.length * (2 : Nat)) (.need (gs.length ≤ (8 : Nat)) (.need (os.length = os.length) (.need (ixIn gs.length os) (.need (os.length ≤ (8 : Nat)) (.need ((0 : Int) ≤ bndI none (0 : Int) ∧ bndI none (0 : Int) ≤ bndI (some (IntKind.i64, (↑(posG (ptsA gs.length (flat gs)) os (↑i : Int).toNat os.length) : Int))) (↑os.length : Int) ∧ bndI (some (IntKind.i64, (↑(posG (ptsA gs.length (flat gs)) os (↑i : Int).toNat os.length) : Int))) (↑os.length : Int) ≤ (↑os.length : Int)) (.need (((0 : Nat) + ((bndI (some (IntKind.i64, (↑(posG (ptsA gs.length (flat gs)) os (↑i : Int).toNat os.length) : Int))) (↑os.length : Int)).toNat - (bndI none (0 : Int)).toNat, Cs.ints (List.take (((bndI (some (IntKind.i64, (↑(posG (ptsA gs.length (flat gs)) os (↑i : Int).toNat os.length) : Int))) (↑os.length : Int)).toNat - (bndI none (0 : Int)).toNat) * Try.prog.types[(3 : Nat)].size) (List.drop ((0 : Nat) + (bndI none (0 : Int)).toNat * Try.prog.types[(3 : Nat)].size) os)), [(0 : Nat) + (bndI none (0 : Int)).toNat * Try.prog.types[(3 : Nat)].size + ((bndI (some (IntKind.i64, (↑(posG (ptsA gs.length (flat gs)) os (↑i : Int).toNat os.length) : Int))) (↑os.length : Int)).toNat - (bndI none (0 : Int)).toNat) * Try.prog.types[(3 : Nat)].size ≤ os.length]).fst) * (8 : Nat) ≤ (140737488355328 : Nat) ∧ (0 : Nat) + ((bndI (some (IntKind.i64, (↑(posG (ptsA gs.length (flat gs)) os (↑i : Int).toNat os.length) : Int))) (↑os.length : Int)).toNat - (bndI none (0 : Int)).toNat, Cs.ints (List.take (((bndI (some (IntKind.i64, (↑(posG (ptsA gs.length (flat gs)) os (↑i : Int).toNat os.length) : Int))) (↑os.length : Int)).toNat - (bndI none (0 : Int)).toNat) * Try.prog.types[(3 : Nat)].size) (List.drop ((0 : Nat) + (bndI none (0 : Int)).toNat * Try.prog.types[(3 : Nat)].size) os)), [(0 : Nat) + (bndI none (0 : Int)).toNat * Try.prog.types[(3 : Nat)].size + ((bndI (some (IntKind.i64, (↑(posG (ptsA gs.length (flat gs)) os (↑i : Int).toNat os.length) : Int))) (↑os.length : Int)).toNat - (bndI none (0 : Int)).toNat) * Try.prog.types[(3 : Nat)].size ≤ os.length]).fst ≤ (1000000 : Nat)) (.need ((0 : Nat) + ((bndI (some (IntKind.i64, (↑(posG (ptsA gs.length (flat gs)) os (↑i : Int).toNat os.length) : Int))) (↑os.length : Int)).toNat - (0 : Nat)) * (1 : Nat) ≤ os.length) (.need (((0 : Nat) + ((bndI (some (IntKind.i64, (↑(posG (ptsA gs.length (flat gs)) os (↑i : Int).toNat os.length) : Int))) (↑os.length : Int)).toNat - (bndI none (0 : Int)).toNat, Cs.ints (List.take (((bndI (some (IntKind.i64, (↑(posG (ptsA gs.length (flat gs)) os (↑i : Int).toNat os.length) : Int))) (↑os.length : Int)).toNat - (bndI none (0 : Int)).toNat) * Try.prog.types[(3 : Nat)].size) (List.drop ((0 : Nat) + (bndI none (0 : Int)).toNat * Try.prog.types[(3 : Nat)].size) os)), [(0 : Nat) + (bndI none (0 : Int)).toNat * Try.prog.types[(3 : Nat)].size + ((bndI (some (IntKind.i64, (↑(posG (ptsA gs.length (flat gs)) os (↑i : Int).toNat os.length) : Int))) (↑os.length : Int)).toNat - (bndI none (0 : Int)).toNat) * Try.prog.types[(3 : Nat)].size ≤ os.length]).fst + (1 : Nat)) * (8 : Nat) ≤ (140737488355328 : Nat) ∧ (0 : Nat) + ((bndI (some (IntKind.i64, (↑(posG (ptsA gs.length (flat gs)) os (↑i : Int).toNat os.length) : Int))) (↑os.length : Int)).toNat - (bndI none (0 : Int)).toNat, Cs.ints (List.take (((bndI (some (IntKind.i64, (↑(posG (ptsA gs.length (flat gs)) os (↑i : Int).toNat os.length) : Int))) (↑os.length : Int)).toNat - (bndI none (0 : Int)).toNat) * Try.prog.types[(3 : Nat)].size) (List.drop ((0 : Nat) + (bndI none (0 : Int)).toNat * Try.prog.types[(3 : Nat)].size) os)), [(0 : Nat) + (bndI none (0 : Int)).toNat * Try.prog.types[(3 : Nat)].size + ((bndI (some (IntKind.i64, (↑(posG (ptsA gs.length (flat gs)) os (↑i : Int).toNat os.length) : Int))) (↑os.length : Int)).toNat - (bndI none (0 : Int)).toNat) * Try.prog.types[(3 : Nat)].size ≤ os.length]).fst + (1 : Nat) ≤ (1000000 : Nat)) (.need ((0 : Nat) + ((0 : Nat) + ((bndI (some (IntKind.i64, (↑(posG (ptsA gs.length (flat gs)) os (↑i : Int).toNat os.length) : Int))) (↑os.length : Int)).toNat - (bndI none (0 : Int)).toNat, Cs.ints (List.take (((bndI (some (IntKind.i64, (↑(posG (ptsA gs.length (flat gs)) os (↑i : Int).toNat os.length) : Int))) (↑os.length : Int)).toNat - (bndI none (0 : Int)).toNat) * Try.prog.types[(3 : Nat)].size) (List.drop ((0 : Nat) + (bndI none (0 : Int)).toNat * Try.prog.types[(3 : Nat)].size) os)), [(0 : Nat) + (bndI none (0 : Int)).toNat * Try.prog.types[(3 : Nat)].size + ((bndI (some (IntKind.i64, (↑(posG (ptsA gs.length (flat gs)) os (↑i : Int).toNat os.length) : Int))) (↑os.length : Int)).toNat - (bndI none (0 : Int)).toNat) * Try.prog.types[(3 : Nat)].size ≤ os.length]).fst) * (1 : Nat) ≤ ([] ++ List.take (((bndI (some (IntKind.i64, (↑(posG (ptsA gs.length (flat gs)) os (↑i : Int).toNat os.length) : Int))) (↑os.length : Int)).toNat - (0 : Nat)) * (1 : Nat)) (List.drop (0 : Nat) os)).length) (.need ((0 : Int) ≤ bndI (some (IntKind.i64, (↑(posG (ptsA gs.length (flat gs)) os (↑i : Int).toNat os.length) : Int))) (0 : Int) ∧ bndI (some (IntKind.i64, (↑(posG (ptsA gs.length (flat gs)) os (↑i : Int).toNat os.length) : Int))) (0 : Int) ≤ bndI none (↑os.length : Int) ∧ bndI none (↑os.length : Int) ≤ (↑os.length : Int)) (.need (((0 : Nat) + ((bndI (some (IntKind.i64, (↑(posG (ptsA gs.length (flat gs)) os (↑i : Int).toNat os.length) : Int))) (↑os.length : Int)).toNat - (bndI none (0 : Int)).toNat, Cs.ints (List.take (((bndI (some (IntKind.i64, (↑(posG (ptsA gs.length (flat gs)) os (↑i : Int).toNat os.length) : Int))) (↑os.length : Int)).toNat - (bndI none (0 : Int)).toNat) * Try.prog.types[(3 : Nat)].size) (List.drop ((0 : Nat) + (bndI none (0 : Int)).toNat * Try.prog.types[(3 : Nat)].size) os)), [(0 : Nat) + (bndI none (0 : Int)).toNat * Try.prog.types[(3 : Nat)].size + ((bndI (some (IntKind.i64, (↑(posG (ptsA gs.length (flat gs)) os (↑i : Int).toNat os.length) : Int))) (↑os.length : Int)).toNat - (bndI none (0 : Int)).toNat) * Try.prog.types[(3 : Nat)].size ≤ os.length]).fst + (1 : Nat) + ((bndI none (↑os.length : Int)).toNat - (bndI (some (IntKind.i64, (↑(posG (ptsA gs.length (flat gs)) os (↑i : Int).toNat os.length) : Int))) (0 : Int)).toNat, Cs.ints (List.take (((bndI none (↑os.length : Int)).toNat - (bndI (some (IntKind.i64, (↑(posG (ptsA gs.length (flat gs)) os (↑i : Int).toNat os.length) : Int))) (0 : Int)).toNat) * Try.prog.types[(3 : Nat)].size) (List.drop ((0 : Nat) + (bndI (some (IntKind.i64, (↑(posG (ptsA gs.length (flat gs)) os (↑i : Int).toNat os.length) : Int))) (0 : Int)).toNat * Try.prog.types[(3 : Nat)].size) os)), [(0 : Nat) + (bndI (some (IntKind.i64, (↑(posG (ptsA gs.length (flat gs)) os (↑i : Int).toNat os.length) : Int))) (0 : Int)).toNat * Try.prog.types[(3 : Nat)].size + ((bndI none (↑os.length : Int)).toNat - (bndI (some (IntKind.i64, (↑(posG (ptsA gs.length (flat gs)) os (↑i : Int).toNat os.length) : Int))) (0 : Int)).toNat) * Try.prog.types[(3 : Nat)].size ≤ os.length]).fst) * (8 : Nat) ≤ (140737488355328 : Nat) ∧ (0 : Nat) + ((bndI (some (IntKind.i64, (↑(posG (ptsA gs.length (flat gs)) os (↑i : Int).toNat os.length) : Int))) (↑os.length : Int)).toNat - (bndI none (0 : Int)).toNat, Cs.ints (List.take (((bndI (some (IntKind.i64, (↑(posG (ptsA gs.length (flat gs)) os (↑i : Int).toNat os.length) : Int))) (↑os.length : Int)).toNat - (bndI none (0 : Int)).toNat) * Try.prog.types[(3 : Nat)].size) (List.drop ((0 : Nat) + (bndI none (0 : Int)).toNat * Try.prog.types[(3 : Nat)].size) os)), [(0 : Nat) + (bndI none (0 : Int)).toNat * Try.prog.types[(3 : Nat)].size + ((bndI (some (IntKind.i64, (↑(posG (ptsA gs.length (flat gs)) os (↑i : Int).toNat os.length) : Int))) (↑os.length : Int)).toNat - (bndI none (0 : Int)).toNat) * Try.prog.types[(3 : Nat)].size ≤ os.length]).fst + (1 : Nat) + ((bndI none (↑os.length : Int)).toNat - (bndI (some (IntKind.i64, (↑(posG (ptsA gs.length (flat gs)) os (↑i : Int).toNat os.length) : Int))) (0 : Int)).toNat, Cs.ints (List.take (((bndI none (↑os.length : Int)).toNat - (bndI (some (IntKind.i64, (↑(posG (ptsA gs.length (flat gs)) os (↑i : Int).toNat os.length) : Int))) (0 : Int)).toNat) * Try.prog.types[(3 : Nat)].size) (List.drop ((0 : Nat) + (bndI (some (IntKind.i64, (↑(posG (ptsA gs.length (flat gs)) os (↑i : Int).toNat os.length) : Int))) (0 : Int)).toNat * Try.prog.types[(3 : Nat)].size) os)), [(0 : Nat) + (bndI (some (IntKind.i64, (↑(posG (ptsA gs.length (flat gs)) os (↑i : Int).toNat os.length) : Int))) (0 : Int)).toNat * Try.prog.types[(3 : Nat)].size + ((bndI none (↑os.length : Int)).toNat - (bndI (some (IntKind.i64, (↑(posG (ptsA gs.length (flat gs)) os (↑i : Int).toNat os.length) : Int))) (0 : Int)).toNat) * Try.prog.types[(3 : Nat)].size ≤ os.length]).fst ≤ (1000000 : Nat)) (.need ((0 : Nat) + (bndI (some (IntKind.i64, (↑(posG (ptsA gs.length (flat gs)) os (↑i : Int).toNat os.length) : Int))) (0 : Int)).toNat * (1 : Nat) + ((bndI none (↑os.length : Int)).toNat - (bndI (some (IntKind.i64, (↑(posG (ptsA gs.length (flat gs)) os (↑i : Int).toNat os.length) : Int))) (0 : Int)).toNat) * (1 : Nat) ≤ os.length) (.need ((0 : Nat) + ((0 : Nat) + ((bndI (some (IntKind.i64, (↑(posG (ptsA gs.length (flat gs)) os (↑i : Int).toNat os.length) : Int))) (↑os.length : Int)).toNat - (bndI none (0 : Int)).toNat, Cs.ints (List.take (((bndI (some (IntKind.i64, (↑(posG (ptsA gs.length (flat gs)) os (↑i : Int).toNat os.length) : Int))) (↑os.length : Int)).toNat - (bndI none (0 : Int)).toNat) * Try.prog.types[(3 : Nat)].size) (List.drop ((0 : Nat) + (bndI none (0 : Int)).toNat * Try.prog.types[(3 : Nat)].size) os)), [(0 : Nat) + (bndI none (0 : Int)).toNat * Try.prog.types[(3 : Nat)].size + ((bndI (some (IntKind.i64, (↑(posG (ptsA gs.length (flat gs)) os (↑i : Int).toNat os.length) : Int))) (↑os.length : Int)).toNat - (bndI none (0 : Int)).toNat) * Try.prog.types[(3 : Nat)].size ≤ os.length]).fst + (1 : Nat)) * (1 : Nat) ≤ (List.take (((0 : Nat) + ((bndI (some (IntKind.i64, (↑(posG (ptsA gs.length (flat gs)) os (↑i : Int).toNat os.length) : Int))) (↑os.length : Int)).toNat - (bndI none (0 : Int)).toNat, Cs.ints (List.take (((bndI (some (IntKind.i64, (↑(posG (ptsA gs.length (flat gs)) os (↑i : Int).toNat os.length) : Int))) (↑os.length : Int)).toNat - (bndI none (0 : Int)).toNat) * Try.prog.types[(3 : Nat)].size) (List.drop ((0 : Nat) + (bndI none (0 : Int)).toNat * Try.prog.types[(3 : Nat)].size) os)), [(0 : Nat) + (bndI none (0 : Int)).toNat * Try.prog.types[(3 : Nat)].size + ((bndI (some (IntKind.i64, (↑(posG (ptsA gs.length (flat gs)) os (↑i : Int).toNat os.length) : Int))) (↑os.length : Int)).toNat - (bndI none (0 : Int)).toNat) * Try.prog.types[(3 : Nat)].size ≤ os.length]).fst) * (1 : Nat)) (List.drop (0 : Nat) ([] ++ List.take (((bndI (some (IntKind.i64, (↑(posG (ptsA gs.length (flat gs)) os (↑i : Int).toNat os.length) : Int))) (↑os.length : Int)).toNat - (0 : Nat)) * (1 : Nat)) (List.drop (0 : Nat) os))) ++ [(↑i : Int)]).length) (.leaf .normal ⟨(.slice (some ⟨0, 0, none⟩) (gs.length) (gs.length) :: topV :: topV :: .slice (some ⟨7, 0, none⟩) (0 + ((bndI (some (IntKind.i64, (↑(posG (ptsA gs.length (flat gs)) os (↑i : Int).toNat os.length) : Int))) (↑os.length : Int)).toNat - (bndI none 0).toNat, Cs.ints (List.take (((bndI (some (IntKind.i64, (↑(posG (ptsA gs.length (flat gs)) os (↑i : Int).toNat os.length) : Int))) (↑os.length : Int)).toNat - (bndI none 0).toNat) * Try.prog.types[3].size) (List.drop (0 + (bndI none 0).toNat * Try.prog.types[3].size) os)), [0 + (bndI none 0).toNat * Try.prog.types[3].size + ((bndI (some (IntKind.i64, (↑(posG (ptsA gs.length (flat gs)) os (↑i : Int).toNat os.length) : Int))) (↑os.length : Int)).toNat - (bndI none 0).toNat) * Try.prog.types[3].size ≤ os.length]).fst + 1 + ((bndI none (↑os.length : Int)).toNat - (bndI (some (IntKind.i64, (↑(posG (ptsA gs.length (flat gs)) os (↑i : Int).toNat os.length) : Int))) 0).toNat, Cs.ints (List.take (((bndI none (↑os.length : Int)).toNat - (bndI (some (IntKind.i64, (↑(posG (ptsA gs.length (flat gs)) os (↑i : Int).toNat os.length) : Int))) 0).toNat) * Try.prog.types[3].size) (List.drop (0 + (bndI (some (IntKind.i64, (↑(posG (ptsA gs.length (flat gs)) os (↑i : Int).toNat os.length) : Int))) 0).toNat * Try.prog.types[3].size) os)), [0 + (bndI (some (IntKind.i64, (↑(posG (ptsA gs.length (flat gs)) os (↑i : Int).toNat os.length) : Int))) 0).toNat * Try.prog.types[3].size + ((bndI none (↑os.length : Int)).toNat - (bndI (some (IntKind.i64, (↑(posG (ptsA gs.length (flat gs)) os (↑i : Int).toNat os.length) : Int))) 0).toNat) * Try.prog.types[3].size ≤ os.length]).fst) (0 + ((bndI (some (IntKind.i64, (↑(posG (ptsA gs.length (flat gs)) os (↑i : Int).toNat os.length) : Int))) (↑os.length : Int)).toNat - (bndI none 0).toNat, Cs.ints (List.take (((bndI (some (IntKind.i64, (↑(posG (ptsA gs.length (flat gs)) os (↑i : Int).toNat os.length) : Int))) (↑os.length : Int)).toNat - (bndI none 0).toNat) * Try.prog.types[3].size) (List.drop (0 + (bndI none 0).toNat * Try.prog.types[3].size) os)), [0 + (bndI none 0).toNat * Try.prog.types[3].size + ((bndI (some (IntKind.i64, (↑(posG (ptsA gs.length (flat gs)) os (↑i : Int).toNat os.length) : Int))) (↑os.length : Int)).toNat - (bndI none 0).toNat) * Try.prog.types[3].size ≤ os.length]).fst + 1 + ((bndI none (↑os.length : Int)).toNat - (bndI (some (IntKind.i64, (↑(posG (ptsA gs.length (flat gs)) os (↑i : Int).toNat os.length) : Int))) 0).toNat, Cs.ints (List.take (((bndI none (↑os.length : Int)).toNat - (bndI (some (IntKind.i64, (↑(posG (ptsA gs.length (flat gs)) os (↑i : Int).toNat os.length) : Int))) 0).toNat) * Try.prog.types[3].size) (List.drop (0 + (bndI (some (IntKind.i64, (↑(posG (ptsA gs.length (flat gs)) os (↑i : Int).toNat os.length) : Int))) 0).toNat * Try.prog.types[3].size) os)), [0 + (bndI (some (IntKind.i64, (↑(posG (ptsA gs.length (flat gs)) os (↑i : Int).toNat os.length) : Int))) 0).toNat * Try.prog.types[3].size + ((bndI none (↑os.length : Int)).toNat - (bndI (some (IntKind.i64, (↑(posG (ptsA gs.length (flat gs)) os (↑i : Int).toNat os.length) : Int))) 0).toNat) * Try.prog.types[3].size ≤ os.length]).fst) :: .int .i64 (IntKind.i64.wrap ((↑i : Int) + 1)) :: topV :: topV :: topV :: topV :: topV :: topV :: topV :: topV :: topV :: topV :: topV :: topV :: topV :: topV :: topV :: topV :: topV :: topV :: topV :: topV :: topV :: topV :: topV :: topV :: topV :: topV :: topV :: topV :: topV :: topV :: topV :: topV :: topV :: topV :: topV :: topV :: topV :: topV :: topV :: topV :: topV :: topV :: topV :: topV :: topV :: topV :: topV :: topV :: topV :: topV :: topV :: topV :: topV :: topV :: topV :: topV :: topV :: topV :: topV :: topV :: topV :: topV :: topV :: topV :: topV :: topV :: topV :: topV :: topV :: topV :: topV :: topV :: topV :: topV :: topV :: topV :: topV :: topV :: topV :: topV :: topV :: topV :: topV :: topV :: topV :: topV :: topV :: topV :: topV :: topV :: topV :: topV :: topV :: topV :: topV :: topV :: topV :: topV :: topV :: topV :: topV :: topV :: topV :: topV :: topV :: topV :: topV :: topV :: topV :: topV :: topV :: topV :: topV :: topV :: topV :: topV :: topV :: topV :: topV :: topV :: topV :: topV :: topV :: topV :: topV :: topV :: topV :: topV :: topV :: topV :: topV :: topV :: topV :: topV :: topV :: topV :: topV :: topV :: topV :: topV :: topV :: topV :: topV :: topV :: topV :: topV :: topV :: topV :: topV :: topV :: topV :: topV :: topV :: topV :: topV :: topV :: topV :: topV :: []), [some ⟨.view, .ints (flat gs)⟩, some deadB, some ⟨.row 3 1, .ints (os)⟩, some deadB, some deadB, some ⟨.row 3 1, .vals [.int .i64 ((↑i : Int))]⟩, some deadB, some ⟨.row 3 1, .ints (List.take ((0 + ((bndI (some (IntKind.i64, (↑(posG (ptsA gs.length (flat gs)) os (↑i : Int).toNat os.length) : Int))) (↑os.length : Int)).toNat - (bndI none 0).toNat, Cs.ints (List.take (((bndI (some (IntKind.i64, (↑(posG (ptsA gs.length (flat gs)) os (↑i : Int).toNat os.length) : Int))) (↑os.length : Int)).toNat - (bndI none 0).toNat) * Try.prog.types[3].size) (List.drop (0 + (bndI none 0).toNat * Try.prog.types[3].size) os)), [0 + (bndI none 0).toNat * Try.prog.types[3].size + ((bndI (some (IntKind.i64, (↑(posG (ptsA gs.length (flat gs)) os (↑i : Int).toNat os.length) : Int))) (↑os.length : Int)).toNat - (bndI none 0).toNat) * Try.prog.types[3].size ≤ os.length]).fst + 1) * 1) (List.drop 0 (List.take ((0 + ((bndI (some (IntKind.i64, (↑(posG (ptsA gs.length (flat gs)) os (↑i : Int).toNat os.length) : Int))) (↑os.length : Int)).toNat - (bndI none 0).toNat, Cs.ints (List.take (((bndI (some (IntKind.i64, (↑(posG (ptsA gs.length (flat gs)) os (↑i : Int).toNat os.length) : Int))) (↑os.length : Int)).toNat - (bndI none 0).toNat) * Try.prog.types[3].size) (List.drop (0 + (bndI none 0).toNat * Try.prog.types[3].size) os)), [0 + (bndI none 0).toNat * Try.prog.types[3].size + ((bndI (some (IntKind.i64, (↑(posG (ptsA gs.length (flat gs)) os (↑i : Int).toNat os.length) : Int))) (↑os.length : Int)).toNat - (bndI none 0).toNat) * Try.prog.types[3].size ≤ os.length]).fst) * 1) (List.drop 0 ([] ++ List.take (((bndI (some (IntKind.i64, (↑(posG (ptsA gs.length (flat gs)) os (↑i : Int).toNat os.length) : Int))) (↑os.length : Int)).toNat - 0) * 1) (List.drop 0 os))) ++ [(↑i : Int)])) ++ List.take (((bndI none (↑os.length : Int)).toNat - (bndI (some (IntKind.i64, (↑(posG (ptsA gs.length (flat gs)) os (↑i : Int).toNat os.length) : Int))) 0).toNat) * 1) (List.drop (0 + (bndI (some (IntKind.i64, (↑(posG (ptsA gs.length (flat gs)) os (↑i : Int).toNat os.length) : Int))) 0).toNat * 1) os))⟩]⟩))))))))))))))))) (.leaf (.exit 0) ⟨(.slice (some ⟨0, 0, none⟩) (gs.length) (gs.length) :: topV :: topV :: .slice (some ⟨2, 0, none⟩) (os.length) (os.length) :: topV :: topV :: topV :: topV :: topV :: topV :: topV :: topV :: topV :: topV :: topV :: topV :: topV :: topV :: topV :: topV :: topV :: topV :: topV :: topV :: topV :: topV :: topV :: topV :: topV :: topV :: topV :: topV :: topV :: topV :: topV :: topV :: topV :: topV :: topV :: topV :: topV :: topV :: topV :: topV :: topV :: topV :: topV :: topV :: topV :: topV :: topV :: topV :: topV :: topV :: topV :: topV :: topV :: topV :: topV :: topV :: topV :: topV :: topV :: topV :: topV :: topV :: topV :: topV :: topV :: topV :: topV :: topV :: topV :: topV :: topV :: topV :: topV :: topV :: topV :: topV :: topV :: topV :: topV :: topV :: topV :: topV :: topV :: topV :: topV :: topV :: topV :: topV :: topV :: topV :: topV :: topV :: topV :: topV :: topV :: topV :: topV :: topV :: topV :: topV :: topV :: topV :: topV :: topV :: topV :: topV :: topV :: topV :: topV :: topV :: topV :: topV :: topV :: topV :: topV :: topV :: topV :: topV :: topV :: topV :: topV :: topV :: topV :: topV :: topV :: topV :: topV :: topV :: topV :: topV :: topV :: topV :: topV :: topV :: topV :: topV :: topV :: topV :: topV :: topV :: topV :: topV :: topV :: topV :: topV :: topV :: topV :: topV :: topV :: topV :: topV :: topV :: topV :: topV :: topV :: topV :: topV :: topV :: topV :: []), [some ⟨.view, .ints (flat gs)⟩, some deadB, some ⟨.row 3 1, .ints (os)⟩]⟩) := by kernel_rfl
def inv_sEo (gs : List Pt) : Nat × (List Int) → Prop := fun (i, os) => i ≤ gs.length ∧ os.length = i ∧ ixIn gs.length os
def me_sEo (gs : List Pt) : Nat × (List Int) → Nat := fun (i, os) => gs.length - i
/-- A round of this loop. -/
def Round_sEo (gs : List Pt) : Prop := ∀ xx : Nat × (List Int), inv_sEo gs xx → (bodyL Try.prog EUe 30 12 ltUe 1 c_sEo k_sEo 24 (s_sEo gs xx)).ok (RoundEnd 2 (s_sEo gs) (inv_sEo gs) (me_sEo gs) re_sEo (rs_sEo gs) xx) (fun _ _ => False)
def e_sEo (s : St) (k : Ex → St → Tree) : Option Tree := match Nat.beq s.tmps.length 163, pickL s.tmps [0, 3, 4], s.mem with
  | true, [.slice (some ⟨0, 0, none⟩) n _, .slice (some ⟨1, 0, none⟩) z _, .int .i64 ii], [some ⟨.view, .ints xs⟩, some ⟨.row 3 1, .vals []⟩] => some (needs [ii = 0, z = 0, xs.length = n * 2, n ≤ 8] (k (.exit 0) ⟨(.slice (some ⟨0, 0, none⟩) n n :: topV :: topV :: .slice (some ⟨2, 0, none⟩) (ordL (ptsA n xs) n 0 []).length (ordL (ptsA n xs) n 0 []).length :: topV :: topV :: topV :: topV :: topV :: topV :: topV :: topV :: topV :: topV :: topV :: topV :: topV :: topV :: topV :: topV :: topV :: topV :: topV :: topV :: topV :: topV :: topV :: topV :: topV :: topV :: topV :: topV :: topV :: topV :: topV :: topV :: topV :: topV :: topV :: topV :: topV :: topV :: topV :: topV :: topV :: topV :: topV :: topV :: topV :: topV :: topV :: topV :: topV :: topV :: topV :: topV :: topV :: topV :: topV :: topV :: topV :: topV :: topV :: topV :: topV :: topV :: topV :: topV :: topV :: topV :: topV :: topV :: topV :: topV :: topV :: topV :: topV :: topV :: topV :: topV :: topV :: topV :: topV :: topV :: topV :: topV :: topV :: topV :: topV :: topV :: topV :: topV :: topV :: topV :: topV :: topV :: topV :: topV :: topV :: topV :: topV :: topV :: topV :: topV :: topV :: topV :: topV :: topV :: topV :: topV :: topV :: topV :: topV :: topV :: topV :: topV :: topV :: topV :: topV :: topV :: topV :: topV :: topV :: topV :: topV :: topV :: topV :: topV :: topV :: topV :: topV :: topV :: topV :: topV :: topV :: topV :: topV :: topV :: topV :: topV :: topV :: topV :: topV :: topV :: topV :: topV :: topV :: topV :: topV :: topV :: topV :: topV :: topV :: topV :: topV :: topV :: topV :: topV :: topV :: topV :: topV :: topV :: topV :: []), [some ⟨.view, .ints xs⟩, some ⟨.dead, .vals []⟩, some ⟨.row 3 1, .ints (ordL (ptsA n xs) n 0 [])⟩]⟩))
  | _, _, _ => none
set_option maxRecDepth 100000 in
theorem in_sEo : loopsOf c_sEo = [c_sEi] := by kernel_rfl
theorem ltUe_good : LoopsGood Try.prog ltUe 1 c_sEo := by
  intro i d hd s k t F H hlt ht
  rw [in_sEo] at hd
  cases i with
  | zero =>
    obtain rfl : c_sEi = d := by simpa using hd
    exact lg_sEi s k t F H hlt ht
  | succ i => simp at hd
set_option maxRecDepth 100000 in
set_option maxHeartbeats 4000000 in
theorem round_sEo (gs : List Pt) (h : gs.length ≤ 8) : Round_sEo gs := by
  rintro ⟨i, os⟩ ⟨h1, h2, h3⟩
  rw [tr_sEo]
  have fl := flat_length gs
  have hsz : Try.prog.types[(3 : Nat)].size = 1 := by kernel_rfl
  have hq := posG_le gs os i os.length
  refine brT_ok.2 ⟨fun hlt => ?_, fun hge => ?_⟩
  · have hlt := of_decide_eq_true hlt
    have hi : i < gs.length := by omega
    have hin : insI gs os i = os.take (posG gs os i os.length) ++ ((i : Int) :: os.drop (posG gs os i os.length)) := rfl
    have st := ordL_step (gs := gs) (os := os) hi
    rw [wsucc (n := gs.length) hi (by omega)]
    simp only [ptsA_flat, Int.toNat_natCast] at *
    generalize posG gs os i os.length = q at *
    simp only [hsz, bndG_some, bndG_none, Int.toNat_natCast, Int.toNat_zero, Nat.zero_add, Nat.add_zero, Nat.zero_mul, Nat.mul_one, Nat.sub_zero, List.drop_zero, List.nil_append, Tree.ok]
    have l1 : (os.take q).length = q := by rw [List.length_take]; omega
    have l2 : (os.take q ++ [(i : Int)]).length = q + 1 := by rw [List.length_append, l1]; rfl
    have l3 : (os.drop q).length = os.length - q := List.length_drop
    have t1 : List.take (q + 1) (List.take q os ++ [(i : Int)]) = List.take q os ++ [(i : Int)] := List.take_of_length_le (by omega)
    have t2 : List.take (os.length - q) (List.drop q os) = List.drop q os := List.take_of_length_le (by omega)
    have e1 : List.take (q + 1) (List.take q (List.take q os) ++ [(i : Int)]) ++ List.take (os.length - q) (List.drop q os) = insI gs os i := by
      rw [hin, List.take_take, Nat.min_self, t1, t2, List.append_assoc]
      rfl
    have e2 : q + 1 + (os.length - q) = (insI gs os i).length := by
      rw [← e1, List.length_append, List.take_take, Nat.min_self, t1, t2, l2, l3]
    rw [e1, e2]
    have e3 : (insI gs os i).length = i + 1 := by omega
    have e4 : ixIn gs.length (insI gs os i) := by
      intro k hk
      rw [hin]
      simp only [List.getD_eq_getElem?_getD]
      rcases Nat.lt_or_ge k q with hlt | hge
      · rw [List.getElem?_append_left (by omega), List.getElem?_take, if_pos hlt, ← List.getD_eq_getElem?_getD]
        exact h3 k (by omega)
      · rw [List.getElem?_append_right (by omega), l1]
        rcases Nat.eq_zero_or_pos (k - q) with h0 | hp
        · rw [h0]
          show 0 ≤ (i : Int) ∧ (i : Int) < gs.length
          omega
        · obtain ⟨j, hj⟩ : ∃ j, k - q = j + 1 := ⟨k - q - 1, by omega⟩
          rw [hj, List.getElem?_cons_succ, List.getElem?_drop, ← List.getD_eq_getElem?_getD]
          exact h3 (q + j) (by omega)
    refine ⟨trivial, by omega, fl, h, trivial, h3, by omega, by omega, by omega, by omega, by omega, by omega, by omega, by omega, by omega, ?_, ?_⟩
    · rw [List.take_take, Nat.min_self, l2]
      exact Nat.le_refl _
    · refine ⟨(i + 1, insI gs os i), [some 7], ⟨by omega, e3, e4⟩, ?_, rfl, by simp only [rs_sEo, st], ?_⟩
      · show gs.length - (i + 1) < gs.length - i; omega
      · repeat' (first | exact True.intro | exact rfl | exact fun _ => rfl | (simp; done) | refine And.intro ?_ ?_)
  · have hge := of_decide_eq_false hge
    obtain rfl : i = gs.length := by omega
    refine ⟨rfl, [some 2], ?_⟩
    simp only [rs_sEo, Nat.sub_self, ordL]
    repeat' (first | exact True.intro | exact rfl | exact fun _ => rfl | (simp; done) | refine And.intro ?_ ?_)
set_option maxRecDepth 100000 in
theorem lg_sEo : LoopE Try.prog e_sEo c_sEo := by
  intro s k t F H hlt ht
  unfold e_sEo at hlt
  split at hlt
  rotate_left
  · cases hlt
  rename_i hlen hpick hmem
  obtain ⟨tmps, mem⟩ := s
  simp only at hlen hpick hmem
  subst hmem
  obtain rfl := Option.some.inj hlt
  obtain ⟨⟨rfl, rfl, h1, h2, _⟩, ht2⟩ := needs_ok ht
  clear ht hlt
  obtain ⟨gs, rfl, rfl⟩ := even_flat h1
  rw [ptsA_flat] at ht2
  refine ⟨_, _, ht2, loop_run2 mixed EUe_ok (s_sEo gs) (inv_sEo gs) (me_sEo gs) re_sEo (rs_sEo gs) k_sEo (fun _ => rfl) ltUe_good (round_sEo gs h2) (x := (0, [])) ⟨Nat.zero_le _, rfl, fun k hk => absurd hk (Nat.not_lt_zero k)⟩ (π := [some 1]) rfl ?_⟩
  refine ⟨rfl, rfl, ?_, wvs_spread' [0, 3, 4] hlen rfl ?_⟩
  · repeat' (first | exact True.intro | exact rfl | exact wv_top _ _ | exact fun _ => rfl | assumption | exact Eq.symm (by assumption) | exact vI0 rfl | refine And.intro ?_ ?_)
  · rw [hpick]
    repeat' (first | exact True.intro | exact rfl | exact wv_top _ _ | exact fun _ => rfl | assumption | exact Eq.symm (by assumption) | exact vI0 rfl | refine And.intro ?_ ?_)
end Go.Proofs.Ytolodncpegajkab
namespace Go.Proofs.Ytolodncpegajkab
set_option linter.all false
open Go.RowKit
theorem allV_atU {ps : List Pt} (h : allV ps = true) {j : Nat} (hj : j < ps.length) : ptB (ps.getD j (0, 0)).1 (ps.getD j (0, 0)).2 = true := List.all_eq_true.1 h (ps.getD j (0, 0)) (by simp [hj])
def hidB (a b c : Pt) : Bool := decide ((c.2 - a.2) * (b.1 - a.1) ≤ (b.2 - a.2) * (c.1 - a.1))
/-- Is the last one of so many to be taken off? -/
def offB (gs : List Pt) (st : List Int) (g : Pt) (m : Nat) : Bool := decide ((gG gs (kI st m)).1 = g.1) || (decide (0 < m) && hidB (gG gs (kI st (m - 1))) (gG gs (kI st m)) g)
def popU (gs : List Pt) (st : List Int) (g : Pt) : Nat → Nat
  | 0 => 0
  | m + 1 => bif offB gs st g m then popU gs st g m else m + 1
theorem popU_le (gs : List Pt) (st : List Int) (g : Pt) : ∀ k, popU gs st g k ≤ k
  | 0 => Nat.le_refl _
  | k + 1 => by
    have := popU_le gs st g k
    simp only [popU]
    cases offB gs st g k <;> simp only [cond_true, cond_false] <;> omega
noncomputable def c_sEp : Code := ((loopsOf (codeOf Try.f16))[3]?).getD .skip
def k_sEp : Ex → List Nat := keeps [0, 3, 7, 8, 9] [(6, [0, 3, 7, 8]), (5, [0, 3, 7, 8]), (4, [7])] [2]
def s_sEp (gs : List Pt) (os st : List Int) (x y : Int) (z m i : Nat) : Nat → St := fun j => ⟨(.slice (some ⟨0, 0, none⟩) gs.length gs.length :: topV :: topV :: .slice (some ⟨2, 0, none⟩) z z :: topV :: topV :: topV :: .slice (some ⟨4, 0, none⟩) j j :: .int .i64 i :: .pointer (some ⟨5, 0, none⟩) :: topV :: topV :: topV :: topV :: topV :: topV :: topV :: topV :: topV :: topV :: topV :: topV :: topV :: topV :: topV :: topV :: topV :: topV :: topV :: topV :: topV :: topV :: topV :: topV :: topV :: topV :: topV :: topV :: topV :: topV :: topV :: topV :: topV :: topV :: topV :: topV :: topV :: topV :: topV :: topV :: topV :: topV :: topV :: topV :: topV :: topV :: topV :: topV :: topV :: topV :: topV :: topV :: topV :: topV :: topV :: topV :: topV :: topV :: topV :: topV :: topV :: topV :: topV :: topV :: topV :: topV :: topV :: topV :: topV :: topV :: topV :: topV :: topV :: topV :: topV :: topV :: topV :: topV :: topV :: topV :: topV :: topV :: topV :: topV :: topV :: topV :: topV :: topV :: topV :: topV :: topV :: topV :: topV :: topV :: topV :: topV :: topV :: topV :: topV :: topV :: topV :: topV :: topV :: topV :: topV :: topV :: topV :: topV :: topV :: topV :: topV :: topV :: topV :: topV :: topV :: topV :: topV :: topV :: topV :: topV :: topV :: topV :: topV :: topV :: topV :: topV :: topV :: topV :: topV :: topV :: topV :: topV :: topV :: topV :: topV :: topV :: topV :: topV :: topV :: topV :: topV :: topV :: topV :: topV :: topV :: topV :: topV :: topV :: topV :: topV :: topV :: topV :: topV :: []), [some ⟨.view, .ints (flat gs)⟩, some ⟨.dead, .vals []⟩, some ⟨.row 3 1, .ints os⟩, some ⟨.dead, .vals []⟩, some ⟨.row 3 1, .ints st⟩, some ⟨.box, .vals [.int .i64 x, .int .i64 y]⟩]⟩
def re_sEp : Nat → Ex := fun _ => .exit 6
def rs_sEp (gs : List Pt) (os st : List Int) (x y : Int) (z m i : Nat) : Nat → St := fun j => ⟨(.slice (some ⟨0, 0, none⟩) gs.length gs.length :: topV :: topV :: .slice (some ⟨2, 0, none⟩) z z :: topV :: topV :: topV :: .slice (some ⟨4, 0, none⟩) (popU gs st (x, y) m) (popU gs st (x, y) m) :: .int .i64 i :: topV :: topV :: topV :: topV :: topV :: topV :: topV :: topV :: topV :: topV :: topV :: topV :: topV :: topV :: topV :: topV :: topV :: topV :: topV :: topV :: topV :: topV :: topV :: topV :: topV :: topV :: topV :: topV :: topV :: topV :: topV :: topV :: topV :: topV :: topV :: topV :: topV :: topV :: topV :: topV :: topV :: topV :: topV :: topV :: topV :: topV :: topV :: topV :: topV :: topV :: topV :: topV :: topV :: topV :: topV :: topV :: topV :: topV :: topV :: topV :: topV :: topV :: topV :: topV :: topV :: topV :: topV :: topV :: topV :: topV :: topV :: topV :: topV :: topV :: topV :: topV :: topV :: topV :: topV :: topV :: topV :: topV :: topV :: topV :: topV :: topV :: topV :: topV :: topV :: topV :: topV :: topV :: topV :: topV :: topV :: topV :: topV :: topV :: topV :: topV :: topV :: topV :: topV :: topV :: topV :: topV :: topV :: topV :: topV :: topV :: topV :: topV :: topV :: topV :: topV :: topV :: topV :: topV :: topV :: topV :: topV :: topV :: topV :: topV :: topV :: topV :: topV :: topV :: topV :: topV :: topV :: topV :: topV :: topV :: topV :: topV :: topV :: topV :: topV :: topV :: topV :: topV :: topV :: topV :: topV :: topV :: topV :: topV :: topV :: topV :: topV :: topV :: topV :: topV :: []), [some ⟨.view, .ints (flat gs)⟩, some ⟨.dead, .vals []⟩, some ⟨.row 3 1, .ints os⟩, some ⟨.dead, .vals []⟩, some ⟨.row 3 1, .ints st⟩, some ⟨.box, .vals [.int .i64 x, .int .i64 y]⟩]⟩
set_option maxRecDepth 100000 in
theorem tr_sEp (gs : List Pt) (os st : List Int) (x y : Int) (z m i : Nat) (j : Nat) : bodyL Try.prog EUe 30 12 noL 4 c_sEp k_sEp 6 (s_sEp gs os st x y z m i j) = brT (decide (0 < (↑j : Int))) (brT ((flat gs).getD (0 + (st.getD (0 + (IntKind.i64.wrap ((↑j : Int) - 1)).toNat * 1) 0).toNat * 2 + 0) 0 == x) (.need ((0 : Int) ≤ IntKind.i64.wrap ((↑j : Int) - (1 : Int)) ∧ IntKind.i64.wrap ((↑j : Int) - (1 : Int)) < (↑j : Int)) (.need ((0 : Nat) + (IntKind.i64.wrap ((↑j : Int) - (1 : Int))).toNat * (1 : Nat) < st.length) (.need ((0 : Int) ≤ st.getD ((0 : Nat) + (IntKind.i64.wrap ((↑j : Int) - (1 : Int))).toNat * (1 : Nat)) (0 : Int) ∧ st.getD ((0 : Nat) + (IntKind.i64.wrap ((↑j : Int) - (1 : Int))).toNat * (1 : Nat)) (0 : Int) < (↑gs.length : Int)) (.need ((0 : Nat) + (st.getD ((0 : Nat) + (IntKind.i64.wrap ((↑j : Int) - (1 : Int))).toNat * (1 : Nat)) (0 : Int)).toNat * (2 : Nat) + (0 : Nat) < (flat gs).length) (.need ((0 : Int) ≤ bndI none (0 : Int) ∧ bndI none (0 : Int) ≤ bndI (some (IntKind.i64, IntKind.i64.wrap ((↑j : Int) - (1 : Int)))) (↑j : Int) ∧ bndI (some (IntKind.i64, IntKind.i64.wrap ((↑j : Int) - (1 : Int)))) (↑j : Int) ≤ (↑j : Int)) (.leaf .normal ⟨(.slice (some ⟨0, 0, none⟩) (gs.length) (gs.length) :: topV :: topV :: .slice (some ⟨2, 0, none⟩) (z) (z) :: topV :: topV :: topV :: .slice (some ⟨4, 0, none⟩) ((bndI (some (IntKind.i64, IntKind.i64.wrap ((↑j : Int) - 1))) (↑j : Int)).toNat - 0) ((bndI (some (IntKind.i64, IntKind.i64.wrap ((↑j : Int) - 1))) (↑j : Int)).toNat - 0) :: .int .i64 ((↑i : Int)) :: .pointer (some ⟨5, 0, none⟩) :: topV :: topV :: topV :: topV :: topV :: topV :: topV :: topV :: topV :: topV :: topV :: topV :: topV :: topV :: topV :: topV :: topV :: topV :: topV :: topV :: topV :: topV :: topV :: topV :: topV :: topV :: topV :: topV :: topV :: topV :: topV :: topV :: topV :: topV :: topV :: topV :: topV :: topV :: topV :: topV :: topV :: topV :: topV :: topV :: topV :: topV :: topV :: topV :: topV :: topV :: topV :: topV :: topV :: topV :: topV :: topV :: topV :: topV :: topV :: topV :: topV :: topV :: topV :: topV :: topV :: topV :: topV :: topV :: topV :: topV :: topV :: topV :: topV :: topV :: topV :: topV :: topV :: topV :: topV :: topV :: topV :: topV :: topV :: topV :: topV :: topV :: topV :: topV :: topV :: topV :: topV :: topV :: topV :: topV :: topV :: topV :: topV :: topV :: topV :: topV :: topV :: topV :: topV :: topV :: topV :: topV :: topV :: topV :: topV :: topV :: topV :: topV :: topV :: topV :: topV :: topV :: topV :: topV :: topV :: topV :: topV :: topV :: topV :: topV :: topV :: topV :: topV :: topV :: topV :: topV :: topV :: topV :: topV :: topV :: topV :: topV :: topV :: topV :: topV :: topV :: topV :: topV :: topV :: topV :: topV :: topV :: topV :: topV :: topV :: topV :: topV :: topV :: topV :: []), [some ⟨.view, .ints (flat gs)⟩, some deadB, some ⟨.row 3 1, .ints (os)⟩, some deadB, some ⟨.row 3 1, .ints (st)⟩, some ⟨.box, .vals [.int .i64 (x), .int .i64 (y)]⟩]⟩)))))) (brT (decide (1 < (↑j : Int))) (.need ((0 : Int) ≤ IntKind.i64.wrap ((↑j : Int) - (1 : Int)) ∧ IntKind.i64.wrap ((↑j : Int) - (1 : Int)) < (↑j : Int)) (.need ((0 : Nat) + (IntKind.i64.wrap ((↑j : Int) - (1 : Int))).toNat * (1 : Nat) < st.length) (.need ((0 : Int) ≤ st.getD ((0 : Nat) + (IntKind.i64.wrap ((↑j : Int) - (1 : Int))).toNat * (1 : Nat)) (0 : Int) ∧ st.getD ((0 : Nat) + (IntKind.i64.wrap ((↑j : Int) - (1 : Int))).toNat * (1 : Nat)) (0 : Int) < (↑gs.length : Int)) (.need ((0 : Nat) + (st.getD ((0 : Nat) + (IntKind.i64.wrap ((↑j : Int) - (1 : Int))).toNat * (1 : Nat)) (0 : Int)).toNat * (2 : Nat) + (0 : Nat) < (flat gs).length) (.need ((0 : Int) ≤ IntKind.i64.wrap ((↑j : Int) - (2 : Int)) ∧ IntKind.i64.wrap ((↑j : Int) - (2 : Int)) < (↑j : Int)) (.need ((0 : Nat) + (IntKind.i64.wrap ((↑j : Int) - (2 : Int))).toNat * (1 : Nat) < st.length) (.need ((0 : Int) ≤ st.getD ((0 : Nat) + (IntKind.i64.wrap ((↑j : Int) - (2 : Int))).toNat * (1 : Nat)) (0 : Int) ∧ st.getD ((0 : Nat) + (IntKind.i64.wrap ((↑j : Int) - (2 : Int))).toNat * (1 : Nat)) (0 : Int) < (↑gs.length : Int)) (.need ((0 : Nat) + (st.getD ((0 : Nat) + (IntKind.i64.wrap ((↑j : Int) - (2 : Int))).toNat * (1 : Nat)) (0 : Int)).toNat * (2 : Nat) + (2 : Nat) ≤ (flat gs).length) (.need ((0 : Int) ≤ IntKind.i64.wrap ((↑j : Int) - (1 : Int)) ∧ IntKind.i64.wrap ((↑j : Int) - (1 : Int)) < (↑j : Int)) (.need ((0 : Nat) + (IntKind.i64.wrap ((↑j : Int) - (1 : Int))).toNat * (1 : Nat) < st.length) (.need ((0 : Int) ≤ st.getD ((0 : Nat) + (IntKind.i64.wrap ((↑j : Int) - (1 : Int))).toNat * (1 : Nat)) (0 : Int) ∧ st.getD ((0 : Nat) + (IntKind.i64.wrap ((↑j : Int) - (1 : Int))).toNat * (1 : Nat)) (0 : Int) < (↑gs.length : Int)) (.need ((0 : Nat) + (st.getD ((0 : Nat) + (IntKind.i64.wrap ((↑j : Int) - (1 : Int))).toNat * (1 : Nat)) (0 : Int)).toNat * (2 : Nat) + (2 : Nat) ≤ (flat gs).length) (brT (decide (IntKind.i64.wrap (IntKind.i64.wrap (y - (flat gs).getD (0 + (st.getD (0 + (IntKind.i64.wrap ((↑j : Int) - 2)).toNat * 1) 0).toNat * 2 + 1) 0) * IntKind.i64.wrap ((flat gs).getD (0 + (st.getD (0 + (IntKind.i64.wrap ((↑j : Int) - 1)).toNat * 1) 0).toNat * 2) 0 - (flat gs).getD (0 + (st.getD (0 + (IntKind.i64.wrap ((↑j : Int) - 2)).toNat * 1) 0).toNat * 2) 0)) ≤ IntKind.i64.wrap (IntKind.i64.wrap ((flat gs).getD (0 + (st.getD (0 + (IntKind.i64.wrap ((↑j : Int) - 1)).toNat * 1) 0).toNat * 2 + 1) 0 - (flat gs).getD (0 + (st.getD (0 + (IntKind.i64.wrap ((↑j : Int) - 2)).toNat * 1) 0).toNat * 2 + 1) 0) * IntKind.i64.wrap (x - (flat gs).getD (0 + (st.getD (0 + (IntKind.i64.wrap ((↑j : Int) - 2)).toNat * 1) 0).toNat * 2) 0)))) (.need ((0 : Int) ≤ bndI none (0 : Int) ∧ bndI none (0 : Int) ≤ bndI (some (IntKind.i64, IntKind.i64.wrap ((↑j : Int) - (1 : Int)))) (↑j : Int) ∧ bndI (some (IntKind.i64, IntKind.i64.wrap ((↑j : Int) - (1 : Int)))) (↑j : Int) ≤ (↑j : Int)) (.leaf .normal ⟨(.slice (some ⟨0, 0, none⟩) (gs.length) (gs.length) :: topV :: topV :: .slice (some ⟨2, 0, none⟩) (z) (z) :: topV :: topV :: topV :: .slice (some ⟨4, 0, none⟩) ((bndI (some (IntKind.i64, IntKind.i64.wrap ((↑j : Int) - 1))) (↑j : Int)).toNat - 0) ((bndI (some (IntKind.i64, IntKind.i64.wrap ((↑j : Int) - 1))) (↑j : Int)).toNat - 0) :: .int .i64 ((↑i : Int)) :: .pointer (some ⟨5, 0, none⟩) :: topV :: topV :: topV :: topV :: topV :: topV :: topV :: topV :: topV :: topV :: topV :: topV :: topV :: topV :: topV :: topV :: topV :: topV :: topV :: topV :: topV :: topV :: topV :: topV :: topV :: topV :: topV :: topV :: topV :: topV :: topV :: topV :: topV :: topV :: topV :: topV :: topV :: topV :: topV :: topV :: topV :: topV :: topV :: topV :: topV :: topV :: topV :: topV :: topV :: topV :: topV :: topV :: topV :: topV :: topV :: topV :: topV :: topV :: topV :: topV :: topV :: topV :: topV :: topV :: topV :: topV :: topV :: topV :: topV :: topV :: topV :: topV :: topV :: topV :: topV :: topV :: topV :: topV :: topV :: topV :: topV :: topV :: topV :: topV :: topV :: topV :: topV :: topV :: topV :: topV :: topV :: topV :: topV :: topV :: topV :: topV :: topV :: topV :: topV :: topV :: topV :: topV :: topV :: topV :: topV :: topV :: topV :: topV :: topV :: topV :: topV :: topV :: topV :: topV :: topV :: topV :: topV :: topV :: topV :: topV :: topV :: topV :: topV :: topV :: topV :: topV :: topV :: topV :: topV :: topV :: topV :: topV :: topV :: topV :: topV :: topV :: topV :: topV :: topV :: topV :: topV :: topV :: topV :: topV :: topV :: topV :: topV :: topV :: topV :: topV :: topV :: topV :: topV :: []), [some ⟨.view, .ints (flat gs)⟩, some deadB, some ⟨.row 3 1, .ints (os)⟩, some deadB, some ⟨.row 3 1, .ints (st)⟩, some ⟨.box, .vals [.int .i64 (x), .int .i64 (y)]⟩]⟩)) (.leaf (.exit 6) ⟨(.slice (some ⟨0, 0, none⟩) (gs.length) (gs.length) :: topV :: topV :: .slice (some ⟨2, 0, none⟩) (z) (z) :: topV :: topV :: topV :: .slice (some ⟨4, 0, none⟩) (j) (j) :: .int .i64 ((↑i : Int)) :: topV :: topV :: topV :: topV :: topV :: topV :: topV :: topV :: topV :: topV :: topV :: topV :: topV :: topV :: topV :: topV :: topV :: topV :: topV :: topV :: topV :: topV :: topV :: topV :: topV :: topV :: topV :: topV :: topV :: topV :: topV :: topV :: topV :: topV :: topV :: topV :: topV :: topV :: topV :: topV :: topV :: topV :: topV :: topV :: topV :: topV :: topV :: topV :: topV :: topV :: topV :: topV :: topV :: topV :: topV :: topV :: topV :: topV :: topV :: topV :: topV :: topV :: topV :: topV :: topV :: topV :: topV :: topV :: topV :: topV :: topV :: topV :: topV :: topV :: topV :: topV :: topV :: topV :: topV :: topV :: topV :: topV :: topV :: topV :: topV :: topV :: topV :: topV :: topV :: topV :: topV :: topV :: topV :: topV :: topV :: topV :: topV :: topV :: topV :: topV :: topV :: topV :: topV :: topV :: topV :: topV :: topV :: topV :: topV :: topV :: topV :: topV :: topV :: topV :: topV :: topV :: topV :: topV :: topV :: topV :: topV :: topV :: topV :: topV :: topV :: topV :: topV :: topV :: topV :: topV :: topV :: topV :: topV :: topV :: topV :: topV :: topV :: topV :: topV :: topV :: topV :: topV :: topV :: topV :: topV :: topV :: topV :: topV :: topV :: topV :: topV :: topV :: topV :: topV :: []), [some ⟨.view, .ints (flat gs)⟩, some deadB, some ⟨.row 3 1, .ints (os)⟩, some deadB, some ⟨.row 3 1, .ints (st)⟩, some ⟨.box, .vals [.int .i64 (x), .int .i64 (y)]⟩]⟩)))))))))))))) (.need ((0 : Int) ≤ IntKind.i64.wrap ((↑j : Int) - (1 : Int)) ∧ IntKind.i64.wrap ((↑j : Int) - (1 : Int)) < (↑j : Int)) (.need ((0 : Nat) + (IntKind.i64.wrap ((↑j : Int) - (1 : Int))).toNat * (1 : Nat) < st.length) (.need ((0 : Int) ≤ st.getD ((0 : Nat) + (IntKind.i64.wrap ((↑j : Int) - (1 : Int))).toNat * (1 : Nat)) (0 : Int) ∧ st.getD ((0 : Nat) + (IntKind.i64.wrap ((↑j : Int) - (1 : Int))).toNat * (1 : Nat)) (0 : Int) < (↑gs.length : Int)) (.need ((0 : Nat) + (st.getD ((0 : Nat) + (IntKind.i64.wrap ((↑j : Int) - (1 : Int))).toNat * (1 : Nat)) (0 : Int)).toNat * (2 : Nat) + (0 : Nat) < (flat gs).length) (.leaf (.exit 6) ⟨(.slice (some ⟨0, 0, none⟩) (gs.length) (gs.length) :: topV :: topV :: .slice (some ⟨2, 0, none⟩) (z) (z) :: topV :: topV :: topV :: .slice (some ⟨4, 0, none⟩) (j) (j) :: .int .i64 ((↑i : Int)) :: topV :: topV :: topV :: topV :: topV :: topV :: topV :: topV :: topV :: topV :: topV :: topV :: topV :: topV :: topV :: topV :: topV :: topV :: topV :: topV :: topV :: topV :: topV :: topV :: topV :: topV :: topV :: topV :: topV :: topV :: topV :: topV :: topV :: topV :: topV :: topV :: topV :: topV :: topV :: topV :: topV :: topV :: topV :: topV :: topV :: topV :: topV :: topV :: topV :: topV :: topV :: topV :: topV :: topV :: topV :: topV :: topV :: topV :: topV :: topV :: topV :: topV :: topV :: topV :: topV :: topV :: topV :: topV :: topV :: topV :: topV :: topV :: topV :: topV :: topV :: topV :: topV :: topV :: topV :: topV :: topV :: topV :: topV :: topV :: topV :: topV :: topV :: topV :: topV :: topV :: topV :: topV :: topV :: topV :: topV :: topV :: topV :: topV :: topV :: topV :: topV :: topV :: topV :: topV :: topV :: topV :: topV :: topV :: topV :: topV :: topV :: topV :: topV :: topV :: topV :: topV :: topV :: topV :: topV :: topV :: topV :: topV :: topV :: topV :: topV :: topV :: topV :: topV :: topV :: topV :: topV :: topV :: topV :: topV :: topV :: topV :: topV :: topV :: topV :: topV :: topV :: topV :: topV :: topV :: topV :: topV :: topV :: topV :: topV :: topV :: topV :: topV :: topV :: topV :: []), [some ⟨.view, .ints (flat gs)⟩, some deadB, some ⟨.row 3 1, .ints (os)⟩, some deadB, some ⟨.row 3 1, .ints (st)⟩, some ⟨.box, .vals [.int .i64 (x), .int .i64 (y)]⟩]⟩))))))) (brT (decide (1 < (↑j : Int))) (.need ((0 : Int) ≤ IntKind.i64.wrap ((↑j : Int) - (2 : Int)) ∧ IntKind.i64.wrap ((↑j : Int) - (2 : Int)) < (↑j : Int)) (.need ((0 : Nat) + (IntKind.i64.wrap ((↑j : Int) - (2 : Int))).toNat * (1 : Nat) < st.length) (.need ((0 : Int) ≤ st.getD ((0 : Nat) + (IntKind.i64.wrap ((↑j : Int) - (2 : Int))).toNat * (1 : Nat)) (0 : Int) ∧ st.getD ((0 : Nat) + (IntKind.i64.wrap ((↑j : Int) - (2 : Int))).toNat * (1 : Nat)) (0 : Int) < (↑gs.length : Int)) (.need ((0 : Nat) + (st.getD ((0 : Nat) + (IntKind.i64.wrap ((↑j : Int) - (2 : Int))).toNat * (1 : Nat)) (0 : Int)).toNat * (2 : Nat) + (2 : Nat) ≤ (flat gs).length) (.need ((0 : Int) ≤ IntKind.i64.wrap ((↑j : Int) - (1 : Int)) ∧ IntKind.i64.wrap ((↑j : Int) - (1 : Int)) < (↑j : Int)) (.need ((0 : Nat) + (IntKind.i64.wrap ((↑j : Int) - (1 : Int))).toNat * (1 : Nat) < st.length) (.need ((0 : Int) ≤ st.getD ((0 : Nat) + (IntKind.i64.wrap ((↑j : Int) - (1 : Int))).toNat * (1 : Nat)) (0 : Int) ∧ st.getD ((0 : Nat) + (IntKind.i64.wrap ((↑j : Int) - (1 : Int))).toNat * (1 : Nat)) (0 : Int) < (↑gs.length : Int)) (.need ((0 : Nat) + (st.getD ((0 : Nat) + (IntKind.i64.wrap ((↑j : Int) - (1 : Int))).toNat * (1 : Nat)) (0 : Int)).toNat * (2 : Nat) + (2 : Nat) ≤ (flat gs).length) (brT (decide (IntKind.i64.wrap (IntKind.i64.wrap (y - (flat gs).getD (0 + (st.getD (0 + (IntKind.i64.wrap ((↑j : Int) - 2)).toNat * 1) 0).toNat * 2 + 1) 0) * IntKind.i64.wrap ((flat gs).getD (0 + (st.getD (0 + (IntKind.i64.wrap ((↑j : Int) - 1)).toNat * 1) 0).toNat * 2) 0 - (flat gs).getD (0 + (st.getD (0 + (IntKind.i64.wrap ((↑j : Int) - 2)).toNat * 1) 0).toNat * 2) 0)) ≤ IntKind.i64.wrap (IntKind.i64.wrap ((flat gs).getD (0 + (st.getD (0 + (IntKind.i64.wrap ((↑j : Int) - 1)).toNat * 1) 0).toNat * 2 + 1) 0 - (flat gs).getD (0 + (st.getD (0 + (IntKind.i64.wrap ((↑j : Int) - 2)).toNat * 1) 0).toNat * 2 + 1) 0) * IntKind.i64.wrap (x - (flat gs).getD (0 + (st.getD (0 + (IntKind.i64.wrap ((↑j : Int) - 2)).toNat * 1) 0).toNat * 2) 0)))) (.need ((0 : Int) ≤ bndI none (0 : Int) ∧ bndI none (0 : Int) ≤ bndI (some (IntKind.i64, IntKind.i64.wrap ((↑j : Int) - (1 : Int)))) (↑j : Int) ∧ bndI (some (IntKind.i64, IntKind.i64.wrap ((↑j : Int) - (1 : Int)))) (↑j : Int) ≤ (↑j : Int)) (.leaf .normal ⟨(.slice (some ⟨0, 0, none⟩) (gs.length) (gs.length) :: topV :: topV :: .slice (some ⟨2, 0, none⟩) (z) (z) :: topV :: topV :: topV :: .slice (some ⟨4, 0, none⟩) ((bndI (some (IntKind.i64, IntKind.i64.wrap ((↑j : Int) - 1))) (↑j : Int)).toNat - 0) ((bndI (some (IntKind.i64, IntKind.i64.wrap ((↑j : Int) - 1))) (↑j : Int)).toNat - 0) :: .int .i64 ((↑i : Int)) :: .pointer (some ⟨5, 0, none⟩) :: topV :: topV :: topV :: topV :: topV :: topV :: topV :: topV :: topV :: topV :: topV :: topV :: topV :: topV :: topV :: topV :: topV :: topV :: topV :: topV :: topV :: topV :: topV :: topV :: topV :: topV :: topV :: topV :: topV :: topV :: topV :: topV :: topV :: topV :: topV :: topV :: topV :: topV :: topV :: topV :: topV :: topV :: topV :: topV :: topV :: topV :: topV :: topV :: topV :: topV :: topV :: topV :: topV :: topV :: topV :: topV :: topV :: topV :: topV :: topV :: topV :: topV :: topV :: topV :: topV :: topV :: topV :: topV :: topV :: topV :: topV :: topV :: topV :: topV :: topV :: topV :: topV :: topV :: topV :: topV :: topV :: topV :: topV :: topV :: topV :: topV :: topV :: topV :: topV :: topV :: topV :: topV :: topV :: topV :: topV :: topV :: topV :: topV :: topV :: topV :: topV :: topV :: topV :: topV :: topV :: topV :: topV :: topV :: topV :: topV :: topV :: topV :: topV :: topV :: topV :: topV :: topV :: topV :: topV :: topV :: topV :: topV :: topV :: topV :: topV :: topV :: topV :: topV :: topV :: topV :: topV :: topV :: topV :: topV :: topV :: topV :: topV :: topV :: topV :: topV :: topV :: topV :: topV :: topV :: topV :: topV :: topV :: topV :: topV :: topV :: topV :: topV :: topV :: []), [some ⟨.view, .ints (flat gs)⟩, some deadB, some ⟨.row 3 1, .ints (os)⟩, some deadB, some ⟨.row 3 1, .ints (st)⟩, some ⟨.box, .vals [.int .i64 (x), .int .i64 (y)]⟩]⟩)) (.leaf (.exit 6) ⟨(.slice (some ⟨0, 0, none⟩) (gs.length) (gs.length) :: topV :: topV :: .slice (some ⟨2, 0, none⟩) (z) (z) :: topV :: topV :: topV :: .slice (some ⟨4, 0, none⟩) (j) (j) :: .int .i64 ((↑i : Int)) :: topV :: topV :: topV :: topV :: topV :: topV :: topV :: topV :: topV :: topV :: topV :: topV :: topV :: topV :: topV :: topV :: topV :: topV :: topV :: topV :: topV :: topV :: topV :: topV :: topV :: topV :: topV :: topV :: topV :: topV :: topV :: topV :: topV :: topV :: topV :: topV :: topV :: topV :: topV :: topV :: topV :: topV :: topV :: topV :: topV :: topV :: topV :: topV :: topV :: topV :: topV :: topV :: topV :: topV :: topV :: topV :: topV :: topV :: topV :: topV :: topV :: topV :: topV :: topV :: topV :: topV :: topV :: topV :: topV :: topV :: topV :: topV :: topV :: topV :: topV :: topV :: topV :: topV :: topV :: topV :: topV :: topV :: topV :: topV :: topV :: topV :: topV :: topV :: topV :: topV :: topV :: topV :: topV :: topV :: topV :: topV :: topV :: topV :: topV :: topV :: topV :: topV :: topV :: topV :: topV :: topV :: topV :: topV :: topV :: topV :: topV :: topV :: topV :: topV :: topV :: topV :: topV :: topV :: topV :: topV :: topV :: topV :: topV :: topV :: topV :: topV :: topV :: topV :: topV :: topV :: topV :: topV :: topV :: topV :: topV :: topV :: topV :: topV :: topV :: topV :: topV :: topV :: topV :: topV :: topV :: topV :: topV :: topV :: topV :: topV :: topV :: topV :: topV :: topV :: []), [some ⟨.view, .ints (flat gs)⟩, some deadB, some ⟨.row 3 1, .ints (os)⟩, some deadB, some ⟨.row 3 1, .ints (st)⟩, some ⟨.box, .vals [.int .i64 (x), .int .i64 (y)]⟩]⟩)))))))))) (.leaf (.exit 6) ⟨(.slice (some ⟨0, 0, none⟩) (gs.length) (gs.length) :: topV :: topV :: .slice (some ⟨2, 0, none⟩) (z) (z) :: topV :: topV :: topV :: .slice (some ⟨4, 0, none⟩) (j) (j) :: .int .i64 ((↑i : Int)) :: topV :: topV :: topV :: topV :: topV :: topV :: topV :: topV :: topV :: topV :: topV :: topV :: topV :: topV :: topV :: topV :: topV :: topV :: topV :: topV :: topV :: topV :: topV :: topV :: topV :: topV :: topV :: topV :: topV :: topV :: topV :: topV :: topV :: topV :: topV :: topV :: topV :: topV :: topV :: topV :: topV :: topV :: topV :: topV :: topV :: topV :: topV :: topV :: topV :: topV :: topV :: topV :: topV :: topV :: topV :: topV :: topV :: topV :: topV :: topV :: topV :: topV :: topV :: topV :: topV :: topV :: topV :: topV :: topV :: topV :: topV :: topV :: topV :: topV :: topV :: topV :: topV :: topV :: topV :: topV :: topV :: topV :: topV :: topV :: topV :: topV :: topV :: topV :: topV :: topV :: topV :: topV :: topV :: topV :: topV :: topV :: topV :: topV :: topV :: topV :: topV :: topV :: topV :: topV :: topV :: topV :: topV :: topV :: topV :: topV :: topV :: topV :: topV :: topV :: topV :: topV :: topV :: topV :: topV :: topV :: topV :: topV :: topV :: topV :: topV :: topV :: topV :: topV :: topV :: topV :: topV :: topV :: topV :: topV :: topV :: topV :: topV :: topV :: topV :: topV :: topV :: topV :: topV :: topV :: topV :: topV :: topV :: topV :: topV :: topV :: topV :: topV :: topV :: topV :: []), [some ⟨.view, .ints (flat gs)⟩, some deadB, some ⟨.row 3 1, .ints (os)⟩, some deadB, some ⟨.row 3 1, .ints (st)⟩, some ⟨.box, .vals [.int .i64 (x), .int .i64 (y)]⟩]⟩)) := by kernel_rfl
set_option maxRecDepth 100000 in
theorem nl_sEp : loopsOf c_sEp = [] := by kernel_rfl
def inv_sEp (gs : List Pt) (os st : List Int) (x y : Int) (z m i : Nat) : Nat → Prop := fun j => j ≤ m ∧ popU gs st (x, y) j = popU gs st (x, y) m
def me_sEp (gs : List Pt) (os st : List Int) (x y : Int) (z m i : Nat) : Nat → Nat := fun j => j
/-- A round of this loop. -/
def Round_sEp (gs : List Pt) (os st : List Int) (x y : Int) (z m i : Nat) : Prop := ∀ xx : Nat, inv_sEp gs os st x y z m i xx → (bodyL Try.prog EUe 30 12 noL 4 c_sEp k_sEp 6 (s_sEp gs os st x y z m i xx)).ok (RoundEnd 6 (s_sEp gs os st x y z m i) (inv_sEp gs os st x y z m i) (me_sEp gs os st x y z m i) re_sEp (rs_sEp gs os st x y z m i) xx) (fun _ _ => False)
def e_sEp (s : St) (k : Ex → St → Tree) : Option Tree := match Nat.beq s.tmps.length 163, pickL s.tmps [0, 3, 7, 8, 9], s.mem with
  | true, [.slice (some ⟨0, 0, none⟩) n _, .slice (some ⟨2, 0, none⟩) z _, .slice (some ⟨4, 0, none⟩) m _, .int .i64 ii, .pointer (some ⟨5, 0, none⟩)], [some ⟨.view, .ints xs⟩, some ⟨.dead, .vals []⟩, some ⟨.row 3 1, .ints os⟩, some ⟨.dead, .vals []⟩, some ⟨.row 3 1, .ints st⟩, some ⟨.box, .vals [.int .i64 x, .int .i64 y]⟩] => some (needs [0 ≤ ii, xs.length = n * 2, n ≤ 8, st.length = m, ixIn n st, m ≤ 8, allV (ptsA n xs) = true, ptB x y = true] (k (.exit 6) ⟨(.slice (some ⟨0, 0, none⟩) n n :: topV :: topV :: .slice (some ⟨2, 0, none⟩) z z :: topV :: topV :: topV :: .slice (some ⟨4, 0, none⟩) (popU (ptsA n xs) st (x, y) m) (popU (ptsA n xs) st (x, y) m) :: .int .i64 ii :: topV :: topV :: topV :: topV :: topV :: topV :: topV :: topV :: topV :: topV :: topV :: topV :: topV :: topV :: topV :: topV :: topV :: topV :: topV :: topV :: topV :: topV :: topV :: topV :: topV :: topV :: topV :: topV :: topV :: topV :: topV :: topV :: topV :: topV :: topV :: topV :: topV :: topV :: topV :: topV :: topV :: topV :: topV :: topV :: topV :: topV :: topV :: topV :: topV :: topV :: topV :: topV :: topV :: topV :: topV :: topV :: topV :: topV :: topV :: topV :: topV :: topV :: topV :: topV :: topV :: topV :: topV :: topV :: topV :: topV :: topV :: topV :: topV :: topV :: topV :: topV :: topV :: topV :: topV :: topV :: topV :: topV :: topV :: topV :: topV :: topV :: topV :: topV :: topV :: topV :: topV :: topV :: topV :: topV :: topV :: topV :: topV :: topV :: topV :: topV :: topV :: topV :: topV :: topV :: topV :: topV :: topV :: topV :: topV :: topV :: topV :: topV :: topV :: topV :: topV :: topV :: topV :: topV :: topV :: topV :: topV :: topV :: topV :: topV :: topV :: topV :: topV :: topV :: topV :: topV :: topV :: topV :: topV :: topV :: topV :: topV :: topV :: topV :: topV :: topV :: topV :: topV :: topV :: topV :: topV :: topV :: topV :: topV :: topV :: topV :: topV :: topV :: topV :: topV :: []), [some ⟨.view, .ints xs⟩, some ⟨.dead, .vals []⟩, some ⟨.row 3 1, .ints os⟩, some ⟨.dead, .vals []⟩, some ⟨.row 3 1, .ints st⟩, some ⟨.box, .vals [.int .i64 x, .int .i64 y]⟩]⟩))
  | _, _, _ => none
set_option maxRecDepth 100000 in
theorem round_sEp (gs : List Pt) (os st : List Int) (x y : Int) (z m i : Nat) (h : gs.length ≤ 8) (hm : st.length = m) (ho : ixIn gs.length st) (hm8 : m ≤ 8) (hv : allV gs = true) (hp : ptB x y = true) : Round_sEp gs os st x y z m i := by
  rintro j ⟨h1, h2⟩
  rw [tr_sEp]
  have fl := flat_length gs
  refine brT_ok.2 ⟨fun hlt => ?_, fun hge => ?_⟩
  · have hlt := of_decide_eq_true hlt
    obtain ⟨k, rfl⟩ : ∃ k, j = k + 1 := ⟨j - 1, by omega⟩
    have w : IntKind.i64.wrap (((k + 1 : Nat) : Int) - 1) = (k : Int) := by rw [wr (by omega)]; omega
    have o := ho k (by omega)
    have ka : st.getD k 0 = (kI st k : Int) := (Int.toNat_of_nonneg o.1).symm
    have kb : kI st k < gs.length := by unfold kI; omega
    simp only [w, Int.toNat_natCast, Nat.zero_add, Nat.add_zero, Nat.mul_one, ka, flat_get0, flat_get1, bndG_some, bndG_none, Nat.sub_zero]
    have dn : offB gs st (x, y) k = true → popU gs st (x, y) k = popU gs st (x, y) m := fun e => by rw [← h2]; simp only [popU, e, cond_true]
    have up : offB gs st (x, y) k = false → popU gs st (x, y) m = k + 1 := fun e => by rw [← h2]; simp only [popU, e, cond_false]
    have ea : offB gs st (x, y) k = (decide ((gs.getD (kI st k) (0, 0)).1 = x) || (decide (0 < k) && hidB (gG gs (kI st (k - 1))) (gs.getD (kI st k) (0, 0)) (x, y))) := rfl
    refine brT_ok.2 ⟨fun g => ?_, fun g => brT_ok.2 ⟨fun g1 => ?_, fun g1 => ?_⟩⟩
    · have g : (gs.getD (kI st k) (0, 0)).1 = x := by simpa using g
      have e := dn (by rw [ea, decide_eq_true g, Bool.true_or])
      simp only [Tree.ok]
      repeat (refine And.intro (by omega) ?_)
      refine ⟨k, [], ⟨by omega, e⟩, ?_, rfl, rfl, ?_⟩
      · show k < k + 1; omega
      · repeat' (first | exact True.intro | exact rfl | exact fun _ => rfl | (simp; done) | refine And.intro ?_ ?_)
    · have g : ¬ (gs.getD (kI st k) (0, 0)).1 = x := by simpa using g
      have g1 : 0 < k := by have := of_decide_eq_true g1; omega
      have w2 : IntKind.i64.wrap (((k + 1 : Nat) : Int) - 2) = ((k - 1 : Nat) : Int) := by rw [wr (by omega)]; omega
      have o2 := ho (k - 1) (by omega)
      have ka2 : st.getD (k - 1) 0 = (kI st (k - 1) : Int) := (Int.toNat_of_nonneg o2.1).symm
      have kb2 : kI st (k - 1) < gs.length := by unfold kI; omega
      have v1 := ptB_true (allV_atU hv kb)
      have v2 := ptB_true (allV_atU hv kb2)
      have v3 := ptB_true hp
      simp only [w2, Int.toNat_natCast, ka2]
      rw [decide_eq_false g, decide_eq_true g1, Bool.false_or, Bool.true_and] at ea
      unfold gG at ea
      generalize gs.getD (kI st k) (0, 0) = B at *
      generalize gs.getD (kI st (k - 1)) (0, 0) = A at *
      have m1 := mul_bd (x := y - A.2) (y := B.1 - A.1) 2000 2000 (by omega) (by omega)
      have m2 := mul_bd (x := B.2 - A.2) (y := x - A.1) 2000 2000 (by omega) (by omega)
      simp (disch := omega) only [wr]
      simp only [Tree.ok]
      repeat (refine And.intro (by omega) ?_)
      refine brT_ok.2 ⟨fun g2 => ?_, fun g2 => ?_⟩
      · have e := dn (by rw [ea]; exact g2)
        simp only [Tree.ok]
        refine ⟨by omega, k, [], ⟨by omega, e⟩, ?_, rfl, rfl, ?_⟩
        · show k < k + 1; omega
        · repeat' (first | exact True.intro | exact rfl | exact fun _ => rfl | (simp; done) | refine And.intro ?_ ?_)
      · have e := up (by rw [ea]; exact g2)
        refine ⟨rfl, [], ?_⟩
        simp only [rs_sEp, e]
        repeat' (first | exact True.intro | exact rfl | exact fun _ => rfl | (simp; done) | refine And.intro ?_ ?_)
    · have g : ¬ (gs.getD (kI st k) (0, 0)).1 = x := by simpa using g
      have g1 : ¬ 0 < k := by have := of_decide_eq_false g1; omega
      have e := up (by rw [ea, decide_eq_false g, decide_eq_false g1]; rfl)
      simp only [Tree.ok]
      repeat (refine And.intro (by omega) ?_)
      refine ⟨rfl, [], ?_⟩
      simp only [rs_sEp, e]
      repeat' (first | exact True.intro | exact rfl | exact fun _ => rfl | (simp; done) | refine And.intro ?_ ?_)
  · have hge := of_decide_eq_false hge
    obtain rfl : j = 0 := by omega
    refine ⟨rfl, [], ?_⟩
    simp only [rs_sEp, ← h2]
    repeat' (first | exact True.intro | exact rfl | exact fun _ => rfl | (simp; done) | refine And.intro ?_ ?_)
set_option maxRecDepth 100000 in
theorem lg_sEp : LoopE Try.prog e_sEp c_sEp := by
  intro s k t F H hlt ht
  unfold e_sEp at hlt
  split at hlt
  rotate_left
  · cases hlt
  rename_i hlen hpick hmem
  obtain ⟨tmps, mem⟩ := s
  simp only at hlen hpick hmem
  subst hmem
  obtain rfl := Option.some.inj hlt
  obtain ⟨⟨h0, h1, h2, h3, h4, h5, h6, h7, _⟩, ht2⟩ := needs_ok ht
  clear ht hlt
  obtain ⟨gs, rfl, rfl⟩ := even_flat h1
  obtain ⟨i, rfl⟩ := Int.eq_ofNat_of_zero_le h0
  rw [ptsA_flat] at ht2 h6
  refine ⟨_, _, ht2, loop_run mixed EUe_ok (s_sEp gs _ _ _ _ _ _ i) (inv_sEp gs _ _ _ _ _ _ i) (me_sEp gs _ _ _ _ _ _ i) re_sEp (rs_sEp gs _ _ _ _ _ _ i) k_sEp (fun _ => rfl) (noLoops nl_sEp) (round_sEp gs _ _ _ _ _ _ i h2 h3 h4 h5 h6 h7) (x := _) ⟨Nat.le_refl _, rfl⟩ (π := []) rfl ?_⟩
  refine ⟨rfl, rfl, ?_, wvs_spread' [0, 3, 7, 8, 9] hlen rfl ?_⟩
  · repeat' (first | exact True.intro | exact rfl | exact wv_top _ _ | exact fun _ => rfl | assumption | exact Eq.symm (by assumption) | exact vI0 rfl | refine And.intro ?_ ?_)
  · rw [hpick]
    repeat' (first | exact True.intro | exact rfl | exact wv_top _ _ | exact fun _ => rfl | assumption | exact Eq.symm (by assumption) | exact vI0 rfl | refine And.intro ?_ ?_)
def pushU (gs : List Pt) (st : List Int) (o : Int) : List Int := st.take (popU gs st (gG gs o.toNat) st.length) ++ [o]
/-- The scan of the order. -/
def scanU (gs : List Pt) : List Int → List Int → List Int
  | [], st => st
  | o :: r, st => scanU gs r (pushU gs st o)
def ltUf : LT := fun j s k => match j with
  | 3 => e_sEp s k
  | _ => none
noncomputable def c_sEs : Code := ((loopsOf (codeOf Try.f16))[2]?).getD .skip
def k_sEs : Ex → List Nat := keeps [0, 3, 7, 8] [(4, [7])] [2]
def s_sEs (gs : List Pt) (os : List Int) : Nat × (List Int) → St := fun (i, st) => ⟨(.slice (some ⟨0, 0, none⟩) gs.length gs.length :: topV :: topV :: .slice (some ⟨2, 0, none⟩) os.length os.length :: topV :: topV :: topV :: .slice (some ⟨4, 0, none⟩) st.length st.length :: .int .i64 i :: topV :: topV :: topV :: topV :: topV :: topV :: topV :: topV :: topV :: topV :: topV :: topV :: topV :: topV :: topV :: topV :: topV :: topV :: topV :: topV :: topV :: topV :: topV :: topV :: topV :: topV :: topV :: topV :: topV :: topV :: topV :: topV :: topV :: topV :: topV :: topV :: topV :: topV :: topV :: topV :: topV :: topV :: topV :: topV :: topV :: topV :: topV :: topV :: topV :: topV :: topV :: topV :: topV :: topV :: topV :: topV :: topV :: topV :: topV :: topV :: topV :: topV :: topV :: topV :: topV :: topV :: topV :: topV :: topV :: topV :: topV :: topV :: topV :: topV :: topV :: topV :: topV :: topV :: topV :: topV :: topV :: topV :: topV :: topV :: topV :: topV :: topV :: topV :: topV :: topV :: topV :: topV :: topV :: topV :: topV :: topV :: topV :: topV :: topV :: topV :: topV :: topV :: topV :: topV :: topV :: topV :: topV :: topV :: topV :: topV :: topV :: topV :: topV :: topV :: topV :: topV :: topV :: topV :: topV :: topV :: topV :: topV :: topV :: topV :: topV :: topV :: topV :: topV :: topV :: topV :: topV :: topV :: topV :: topV :: topV :: topV :: topV :: topV :: topV :: topV :: topV :: topV :: topV :: topV :: topV :: topV :: topV :: topV :: topV :: topV :: topV :: topV :: topV :: topV :: []), [some ⟨.view, .ints (flat gs)⟩, some ⟨.dead, .vals []⟩, some ⟨.row 3 1, .ints os⟩, some ⟨.dead, .vals []⟩, some ⟨.row 3 1, .ints st⟩]⟩
def re_sEs : Nat × (List Int) → Ex := fun _ => .exit 4
def rs_sEs (gs : List Pt) (os : List Int) : Nat × (List Int) → St := fun (i, st) => ⟨(topV :: topV :: topV :: topV :: topV :: topV :: topV :: .slice (some ⟨4, 0, none⟩) (scanU gs (os.drop i) st).length (scanU gs (os.drop i) st).length :: topV :: topV :: topV :: topV :: topV :: topV :: topV :: topV :: topV :: topV :: topV :: topV :: topV :: topV :: topV :: topV :: topV :: topV :: topV :: topV :: topV :: topV :: topV :: topV :: topV :: topV :: topV :: topV :: topV :: topV :: topV :: topV :: topV :: topV :: topV :: topV :: topV :: topV :: topV :: topV :: topV :: topV :: topV :: topV :: topV :: topV :: topV :: topV :: topV :: topV :: topV :: topV :: topV :: topV :: topV :: topV :: topV :: topV :: topV :: topV :: topV :: topV :: topV :: topV :: topV :: topV :: topV :: topV :: topV :: topV :: topV :: topV :: topV :: topV :: topV :: topV :: topV :: topV :: topV :: topV :: topV :: topV :: topV :: topV :: topV :: topV :: topV :: topV :: topV :: topV :: topV :: topV :: topV :: topV :: topV :: topV :: topV :: topV :: topV :: topV :: topV :: topV :: topV :: topV :: topV :: topV :: topV :: topV :: topV :: topV :: topV :: topV :: topV :: topV :: topV :: topV :: topV :: topV :: topV :: topV :: topV :: topV :: topV :: topV :: topV :: topV :: topV :: topV :: topV :: topV :: topV :: topV :: topV :: topV :: topV :: topV :: topV :: topV :: topV :: topV :: topV :: topV :: topV :: topV :: topV :: topV :: topV :: topV :: topV :: topV :: topV :: topV :: topV :: topV :: topV :: []), [some ⟨.view, .ints (flat gs)⟩, some ⟨.dead, .vals []⟩, some ⟨.row 3 1, .ints os⟩, some ⟨.dead, .vals []⟩, some ⟨.row 3 1, .ints (scanU gs (os.drop i) st)⟩]⟩
set_option maxRecDepth 100000 in
theorem tr_sEs (gs : List Pt) (os : List Int) (i : Nat) (st : List Int) : bodyL Try.prog EUe 30 12 ltUf 3 c_sEs k_sEs 16 (s_sEs gs os (i, st)) = brT (decide ((↑i : Int) < (↑os.length : Int))) (.need ((0 : Int) ≤ (↑i : Int) ∧ (↑i : Int) < (↑os.length : Int)) (.need ((0 : Nat) + (↑i : Int).toNat * (1 : Nat) < os.length) (.need ((0 : Int) ≤ os.getD ((0 : Nat) + (↑i : Int).toNat * (1 : Nat)) (0 : Int) ∧ os.getD ((0 : Nat) + (↑i : Int).toNat * (1 : Nat)) (0 : Int) < (↑gs.length : Int)) (.need ((0 : Nat) + (os.getD ((0 : Nat) + (↑i : Int).toNat * (1 : Nat)) (0 : Int)).toNat * (2 : Nat) + (2 : Nat) ≤ (flat gs).length) (.need ((0 : Int) ≤ (↑i : Int)) (.need ((flat gs).length = gs.length * (2 : Nat)) (.need (gs.length ≤ (8 : Nat)) (.need (st.length = st.length) (.need (ixIn gs.length st) (.need (st.length ≤ (8 : Nat)) (.need (allV (ptsA gs.length (flat gs)) = true) (.need (ptB ((flat gs).getD ((0 : Nat) + (os.getD ((0 : Nat) + (↑i : Int).toNat * (1 : Nat)) (0 : Int)).toNat * (2 : Nat)) (0 : Int)) ((flat gs).getD ((0 : Nat) + (os.getD ((0 : Nat) + (↑i : Int).toNat * (1 : Nat)) (0 : Int)).toNat * (2 : Nat) + (1 : Nat)) (0 : Int)) = true) (.need ((0 : Int) ≤ (↑i : Int) ∧ (↑i : Int) < (↑os.length : Int)) (.need ((0 : Nat) + (↑i : Int).toNat * (1 : Nat) < os.length) (.need ((popU (ptsA gs.length (flat gs)) st ((flat gs).getD ((0 : Nat) + (os.getD ((0 : Nat) + (↑i : Int).toNat * (1 : Nat)) (0 : Int)).toNat * (2 : Nat)) (0 : Int), (flat gs).getD ((0 : Nat) + (os.getD ((0 : Nat) + (↑i : Int).toNat * (1 : Nat)) (0 : Int)).toNat * (2 : Nat) + (1 : Nat)) (0 : Int)) st.length + (1 : Nat)) * (8 : Nat) ≤ (140737488355328 : Nat) ∧ popU (ptsA gs.length (flat gs)) st ((flat gs).getD ((0 : Nat) + (os.getD ((0 : Nat) + (↑i : Int).toNat * (1 : Nat)) (0 : Int)).toNat * (2 : Nat)) (0 : Int), (flat gs).getD ((0 : Nat) + (os.getD ((0 : Nat) + (↑i : Int).toNat * (1 : Nat)) (0 : Int)).toNat * (2 : Nat) + (1 : Nat)) (0 : Int)) st.length + (1 : Nat) ≤ (1000000 : Nat)) (.need ((0 : Nat) + popU (ptsA gs.length (flat gs)) st ((flat gs).getD ((0 : Nat) + (os.getD ((0 : Nat) + (↑i : Int).toNat * (1 : Nat)) (0 : Int)).toNat * (2 : Nat)) (0 : Int), (flat gs).getD ((0 : Nat) + (os.getD ((0 : Nat) + (↑i : Int).toNat * (1 : Nat)) (0 : Int)).toNat * (2 : Nat) + (1 : Nat)) (0 : Int)) st.length * (1 : Nat) ≤ st.length) (.leaf .normal ⟨(.slice (some ⟨0, 0, none⟩) (gs.length) (gs.length) :: topV :: topV :: .slice (some ⟨2, 0, none⟩) (os.length) (os.length) :: topV :: topV :: topV :: .slice (some ⟨7, 0, none⟩) (popU (ptsA gs.length (flat gs)) st ((flat gs).getD (0 + (os.getD (0 + (↑i : Int).toNat * (1 : Nat)) 0).toNat * (2 : Nat)) 0, (flat gs).getD (0 + (os.getD (0 + (↑i : Int).toNat * (1 : Nat)) 0).toNat * (2 : Nat) + 1) 0) st.length + 1) (popU (ptsA gs.length (flat gs)) st ((flat gs).getD (0 + (os.getD (0 + (↑i : Int).toNat * (1 : Nat)) 0).toNat * (2 : Nat)) 0, (flat gs).getD (0 + (os.getD (0 + (↑i : Int).toNat * (1 : Nat)) 0).toNat * (2 : Nat) + 1) 0) st.length + 1) :: .int .i64 (IntKind.i64.wrap ((↑i : Int) + 1)) :: topV :: topV :: topV :: topV :: topV :: topV :: topV :: topV :: topV :: topV :: topV :: topV :: topV :: topV :: topV :: topV :: topV :: topV :: topV :: topV :: topV :: topV :: topV :: topV :: topV :: topV :: topV :: topV :: topV :: topV :: topV :: topV :: topV :: topV :: topV :: topV :: topV :: topV :: topV :: topV :: topV :: topV :: topV :: topV :: topV :: topV :: topV :: topV :: topV :: topV :: topV :: topV :: topV :: topV :: topV :: topV :: topV :: topV :: topV :: topV :: topV :: topV :: topV :: topV :: topV :: topV :: topV :: topV :: topV :: topV :: topV :: topV :: topV :: topV :: topV :: topV :: topV :: topV :: topV :: topV :: topV :: topV :: topV :: topV :: topV :: topV :: topV :: topV :: topV :: topV :: topV :: topV :: topV :: topV :: topV :: topV :: topV :: topV :: topV :: topV :: topV :: topV :: topV :: topV :: topV :: topV :: topV :: topV :: topV :: topV :: topV :: topV :: topV :: topV :: topV :: topV :: topV :: topV :: topV :: topV :: topV :: topV :: topV :: topV :: topV :: topV :: topV :: topV :: topV :: topV :: topV :: topV :: topV :: topV :: topV :: topV :: topV :: topV :: topV :: topV :: topV :: topV :: topV :: topV :: topV :: topV :: topV :: topV :: topV :: topV :: topV :: topV :: topV :: topV :: []), [some ⟨.view, .ints (flat gs)⟩, some deadB, some ⟨.row 3 1, .ints (os)⟩, some deadB, some deadB, some ⟨.box, .vals [.int .i64 ((flat gs).getD (0 + (os.getD (0 + (↑i : Int).toNat * 1) 0).toNat * 2) 0), .int .i64 ((flat gs).getD (0 + (os.getD (0 + (↑i : Int).toNat * 1) 0).toNat * 2 + 1) 0)]⟩, some ⟨.row 3 1, .vals [.int .i64 (os.getD (0 + (↑i : Int).toNat * 1) 0)]⟩, some ⟨.row 3 1, .ints (List.take (popU (ptsA gs.length (flat gs)) st ((flat gs).getD (0 + (os.getD (0 + (↑i : Int).toNat * (1 : Nat)) 0).toNat * (2 : Nat)) 0, (flat gs).getD (0 + (os.getD (0 + (↑i : Int).toNat * (1 : Nat)) 0).toNat * (2 : Nat) + 1) 0) st.length * 1) (List.drop 0 st) ++ [os.getD (0 + (↑i : Int).toNat * 1) 0])⟩]⟩))))))))))))))))) (.leaf (.exit 4) ⟨(topV :: topV :: topV :: topV :: topV :: topV :: topV :: .slice (some ⟨4, 0, none⟩) (st.length) (st.length) :: topV :: topV :: topV :: topV :: topV :: topV :: topV :: topV :: topV :: topV :: topV :: topV :: topV :: topV :: topV :: topV :: topV :: topV :: topV :: topV :: topV :: topV :: topV :: topV :: topV :: topV :: topV :: topV :: topV :: topV :: topV :: topV :: topV :: topV :: topV :: topV :: topV :: topV :: topV :: topV :: topV :: topV :: topV :: topV :: topV :: topV :: topV :: topV :: topV :: topV :: topV :: topV :: topV :: topV :: topV :: topV :: topV :: topV :: topV :: topV :: topV :: topV :: topV :: topV :: topV :: topV :: topV :: topV :: topV :: topV :: topV :: topV :: topV :: topV :: topV :: topV :: topV :: topV :: topV :: topV :: topV :: topV :: topV :: topV :: topV :: topV :: topV :: topV :: topV :: topV :: topV :: topV :: topV :: topV :: topV :: topV :: topV :: topV :: topV :: topV :: topV :: topV :: topV :: topV :: topV :: topV :: topV :: topV :: topV :: topV :: topV :: topV :: topV :: topV :: topV :: topV :: topV :: topV :: topV :: topV :: topV :: topV :: topV :: topV :: topV :: topV :: topV :: topV :: topV :: topV :: topV :: topV :: topV :: topV :: topV :: topV :: topV :: topV :: topV :: topV :: topV :: topV :: topV :: topV :: topV :: topV :: topV :: topV :: topV :: topV :: topV :: topV :: topV :: topV :: topV :: []), [some ⟨.view, .ints (flat gs)⟩, some deadB, some ⟨.row 3 1, .ints (os)⟩, some deadB, some ⟨.row 3 1, .ints (st)⟩]⟩) := by kernel_rfl
def inv_sEs (gs : List Pt) (os : List Int) : Nat × (List Int) → Prop := fun (i, st) => i ≤ os.length ∧ st.length ≤ i ∧ ixIn gs.length st
def me_sEs (gs : List Pt) (os : List Int) : Nat × (List Int) → Nat := fun (i, st) => os.length - i
/-- A round of this loop. -/
def Round_sEs (gs : List Pt) (os : List Int) : Prop := ∀ xx : Nat × (List Int), inv_sEs gs os xx → (bodyL Try.prog EUe 30 12 ltUf 3 c_sEs k_sEs 16 (s_sEs gs os xx)).ok (RoundEnd 4 (s_sEs gs os) (inv_sEs gs os) (me_sEs gs os) re_sEs (rs_sEs gs os) xx) (fun _ _ => False)
def e_sEs (s : St) (k : Ex → St → Tree) : Option Tree := match Nat.beq s.tmps.length 163, pickL s.tmps [0, 3, 7, 8], s.mem with
  | true, [.slice (some ⟨0, 0, none⟩) n _, .slice (some ⟨2, 0, none⟩) z _, .slice (some ⟨3, 0, none⟩) z2 _, .int .i64 ii], [some ⟨.view, .ints xs⟩, some ⟨.dead, .vals []⟩, some ⟨.row 3 1, .ints os⟩, some ⟨.row 3 1, .vals []⟩] => some (needs [ii = 0, z2 = 0, xs.length = n * 2, n ≤ 8, os.length = z, ixIn n os, z ≤ 8, allV (ptsA n xs) = true] (k (.exit 4) ⟨(topV :: topV :: topV :: topV :: topV :: topV :: topV :: .slice (some ⟨4, 0, none⟩) (scanU (ptsA n xs) os []).length (scanU (ptsA n xs) os []).length :: topV :: topV :: topV :: topV :: topV :: topV :: topV :: topV :: topV :: topV :: topV :: topV :: topV :: topV :: topV :: topV :: topV :: topV :: topV :: topV :: topV :: topV :: topV :: topV :: topV :: topV :: topV :: topV :: topV :: topV :: topV :: topV :: topV :: topV :: topV :: topV :: topV :: topV :: topV :: topV :: topV :: topV :: topV :: topV :: topV :: topV :: topV :: topV :: topV :: topV :: topV :: topV :: topV :: topV :: topV :: topV :: topV :: topV :: topV :: topV :: topV :: topV :: topV :: topV :: topV :: topV :: topV :: topV :: topV :: topV :: topV :: topV :: topV :: topV :: topV :: topV :: topV :: topV :: topV :: topV :: topV :: topV :: topV :: topV :: topV :: topV :: topV :: topV :: topV :: topV :: topV :: topV :: topV :: topV :: topV :: topV :: topV :: topV :: topV :: topV :: topV :: topV :: topV :: topV :: topV :: topV :: topV :: topV :: topV :: topV :: topV :: topV :: topV :: topV :: topV :: topV :: topV :: topV :: topV :: topV :: topV :: topV :: topV :: topV :: topV :: topV :: topV :: topV :: topV :: topV :: topV :: topV :: topV :: topV :: topV :: topV :: topV :: topV :: topV :: topV :: topV :: topV :: topV :: topV :: topV :: topV :: topV :: topV :: topV :: topV :: topV :: topV :: topV :: topV :: topV :: []), [some ⟨.view, .ints xs⟩, some ⟨.dead, .vals []⟩, some ⟨.row 3 1, .ints os⟩, some ⟨.dead, .vals []⟩, some ⟨.row 3 1, .ints (scanU (ptsA n xs) os [])⟩]⟩))
  | _, _, _ => none
set_option maxRecDepth 100000 in
theorem in_sEs : loopsOf c_sEs = [c_sEp] := by kernel_rfl
theorem ltUf_good : LoopsGood Try.prog ltUf 3 c_sEs := by
  intro i d hd s k t F H hlt ht
  rw [in_sEs] at hd
  cases i with
  | zero =>
    obtain rfl : c_sEp = d := by simpa using hd
    exact lg_sEp s k t F H hlt ht
  | succ i => simp at hd
set_option maxRecDepth 100000 in
set_option maxHeartbeats 1000000 in
theorem round_sEs (gs : List Pt) (os : List Int) (h : gs.length ≤ 8) (ho : ixIn gs.length os) (h8 : os.length ≤ 8) (hv : allV gs = true) : Round_sEs gs os := by
  rintro ⟨i, st⟩ ⟨h1, h2, h3⟩
  rw [tr_sEs]
  have fl := flat_length gs
  refine brT_ok.2 ⟨fun hlt => ?_, fun hge => ?_⟩
  · have hlt := of_decide_eq_true hlt
    have hi : i < os.length := by omega
    have o := ho i hi
    have ka : os.getD i 0 = (kI os i : Int) := (Int.toNat_of_nonneg o.1).symm
    have kb : kI os i < gs.length := by unfold kI; omega
    have hd : os.drop i = (kI os i : Int) :: os.drop (i + 1) := by rw [drop_cons hi 0, ka]
    have st0 : scanU gs (os.drop i) st = scanU gs (os.drop (i + 1)) (pushU gs st (kI os i : Int)) := by rw [hd]; rfl
    have hg : ((gs.getD (kI os i) (0, 0)).1, (gs.getD (kI os i) (0, 0)).2) = gG gs (kI os i) := rfl
    have hp : pushU gs st (kI os i : Int) = st.take (popU gs st (gG gs (kI os i)) st.length) ++ [(kI os i : Int)] := rfl
    have hq := popU_le gs st (gG gs (kI os i)) st.length
    rw [wsucc (n := os.length) hi (by omega)]
    simp only [Int.toNat_natCast, Nat.zero_add, Nat.mul_one, ka, flat_get0, flat_get1, ptsA_flat, hg, List.drop_zero]
    generalize popU gs st (gG gs (kI os i)) st.length = q at *
    have l1 : (st.take q).length = q := by rw [List.length_take]; omega
    have l2 : q + 1 = (pushU gs st (kI os i : Int)).length := by rw [hp, List.length_append, l1]; rfl
    rw [← hp, l2]
    have e4 : ixIn gs.length (pushU gs st (kI os i : Int)) := by
      intro k hk
      rw [hp]
      simp only [List.getD_eq_getElem?_getD]
      rcases Nat.lt_or_ge k q with hlt | hge
      · rw [List.getElem?_append_left (by omega), List.getElem?_take, if_pos hlt, ← List.getD_eq_getElem?_getD]
        exact h3 k (by omega)
      · rw [List.getElem?_append_right (by omega), l1, show k - q = 0 by omega]
        show 0 ≤ (kI os i : Int) ∧ (kI os i : Int) < gs.length
        omega
    simp only [Tree.ok]
    refine ⟨by omega, by omega, by omega, by omega, by omega, fl, h, trivial, h3, by omega, hv, allV_atU hv kb, by omega, by omega, by omega, by omega, (i + 1, pushU gs st (kI os i : Int)), [some 7], ⟨by omega, by omega, e4⟩, ?_, rfl, by simp only [rs_sEs, st0], ?_⟩
    · show os.length - (i + 1) < os.length - i; omega
    · repeat' (first | exact True.intro | exact rfl | exact fun _ => rfl | (simp; done) | refine And.intro ?_ ?_)
  · have hge := of_decide_eq_false hge
    have e : scanU gs (os.drop i) st = st := by rw [List.drop_of_length_le (by omega)]; rfl
    refine ⟨rfl, [some 4], ?_⟩
    simp only [rs_sEs, e]
    repeat' (first | exact True.intro | exact rfl | exact fun _ => rfl | (simp; done) | refine And.intro ?_ ?_)
set_option maxRecDepth 100000 in
theorem lg_sEs : LoopE Try.prog e_sEs c_sEs := by
  intro s k t F H hlt ht
  unfold e_sEs at hlt
  split at hlt
  rotate_left
  · cases hlt
  rename_i hlen hpick hmem
  obtain ⟨tmps, mem⟩ := s
  simp only at hlen hpick hmem
  subst hmem
  obtain rfl := Option.some.inj hlt
  obtain ⟨⟨rfl, rfl, h1, h2, h3, h4, h5, h6, _⟩, ht2⟩ := needs_ok ht
  clear ht hlt
  obtain ⟨gs, rfl, rfl⟩ := even_flat h1
  subst h3
  rw [ptsA_flat] at ht2 h6
  refine ⟨_, _, ht2, loop_run2 mixed EUe_ok (s_sEs gs _) (inv_sEs gs _) (me_sEs gs _) re_sEs (rs_sEs gs _) k_sEs (fun _ => rfl) ltUf_good (round_sEs gs _ h2 h4 h5 h6) (x := (0, [])) ⟨Nat.zero_le _, Nat.le_refl _, fun k hk => absurd hk (Nat.not_lt_zero k)⟩ (π := [some 3]) rfl ?_⟩
  refine ⟨rfl, rfl, ?_, wvs_spread' [0, 3, 7, 8] hlen rfl ?_⟩
  · repeat' (first | exact True.intro | exact rfl | exact wv_top _ _ | exact fun _ => rfl | assumption | exact Eq.symm (by assumption) | exact vI0 rfl | refine And.intro ?_ ?_)
  · rw [hpick]
    repeat' (first | exact True.intro | exact rfl | exact wv_top _ _ | exact fun _ => rfl | assumption | exact Eq.symm (by assumption) | exact vI0 rfl | refine And.intro ?_ ?_)
end Go.Proofs.Ytolodncpegajkab
namespace Go.Proofs.Ytolodncpegajkab
set_option linter.all false
open Go.RowKit
def ltUg : LT := fun j s k => match j with
  | 0 => e_sEo s k
  | 2 => e_sEs s k
  | _ => none
set_option maxRecDepth 100000 in
theorem in_Ug : loopsOf (codeOf Try.f16) = [c_sEo, c_sEi, c_sEs, c_sEp] := by kernel_rfl
theorem ltUg_good : LoopsGood Try.prog ltUg 0 (codeOf Try.f16) := by
  intro i d hd s k t F H hlt ht
  rw [in_Ug] at hd
  match i with
  | 0 =>
    obtain rfl : c_sEo = d := by simpa using hd
    exact lg_sEo s k t F H hlt ht
  | 1 => simp [ltUg] at hlt
  | 2 =>
    obtain rfl : c_sEs = d := by simpa using hd
    exact lg_sEs s k t F H hlt ht
  | i + 3 => simp [ltUg] at hlt
theorem Lr_ug {fn : Func} (hf : Try.prog.funcs[16]? = some fn) : LoopsGood Try.prog ltUg 0 (codeOf fn) := by
  obtain rfl := fn_is Try.func16 hf
  exact ltUg_good
def LUg : FuncId → LT := fun f => match f with
  | 16 => ltUg
  | _ => noL
def EUg : Env := mkE TVg (fun _ _ => none) LUg
theorem EUg_ok : EnvOk Try.prog EUg := mkEOk TVg_ok (fun _ _ _ _ _ h => (by cases h)) (by
  intro f fn hf
  unfold LUg
  split
  all_goals first | with_reducible exact Lr_ug hf | exact noL_good)
set_option maxRecDepth 100000 in
theorem tr_sUe (gs : List Pt) : bodyX Try.prog EUg 30 12 16 [.row gs.length (.ints (flat gs))] = .need (gs.length * (2 : Nat) ≤ (List.drop (0 : Nat) (flat gs)).length) (.need (gs.length ≤ (1000000000 : Nat)) (brT (!vgB (ptsA gs.length (List.drop 0 (flat gs)))) (.fin (.slice none (0) (0)) [some ⟨.view, .ints (flat gs)⟩]) (.need ((0 : Int) = (0 : Int)) (.need ((0 : Nat) = (0 : Nat)) (.need ((flat gs).length = gs.length * (2 : Nat)) (.need (gs.length ≤ (8 : Nat)) (.need ((0 : Int) = (0 : Int)) (.need ((0 : Nat) = (0 : Nat)) (.need ((flat gs).length = gs.length * (2 : Nat)) (.need (gs.length ≤ (8 : Nat)) (.need ((ordL (ptsA gs.length (flat gs)) gs.length (0 : Nat) []).length = (ordL (ptsA gs.length (flat gs)) gs.length (0 : Nat) []).length) (.need (ixIn gs.length (ordL (ptsA gs.length (flat gs)) gs.length (0 : Nat) [])) (.need ((ordL (ptsA gs.length (flat gs)) gs.length (0 : Nat) []).length ≤ (8 : Nat)) (.need (allV (ptsA gs.length (flat gs)) = true) (.fin (.slice (some ⟨4, 0, none⟩) ((scanU (ptsA gs.length (flat gs)) (ordL (ptsA gs.length (flat gs)) gs.length 0 []) []).length) ((scanU (ptsA gs.length (flat gs)) (ordL (ptsA gs.length (flat gs)) gs.length 0 []) []).length)) [some ⟨.view, .ints (flat gs)⟩, some deadB, some ⟨.row 3 1, .ints (ordL (ptsA gs.length (flat gs)) gs.length 0 [])⟩, some deadB, some ⟨.row 3 1, .ints (scanU (ptsA gs.length (flat gs)) (ordL (ptsA gs.length (flat gs)) gs.length 0 []) [])⟩]))))))))))))))) := by kernel_rfl
/-- The model's order of graphs. -/
def ordG (gs : List Pt) : List Int := ordL gs gs.length 0 []
/-- What the model's UpperEnvelope answers. -/
def ueS (gs : List Pt) : List Int := bif vgB gs then scanU gs (ordG gs) [] else []
theorem vg_iff {gs : List Pt} (h : vgB gs = true) : allV gs = true ∧ gs.length ≤ 8 := by
  unfold vgB at h
  rw [Bool.and_eq_true] at h
  refine ⟨List.all_eq_true.2 fun p hp => ?_, of_decide_eq_true h.2⟩
  obtain ⟨k, hk, rfl⟩ := List.mem_iff_getElem.1 hp
  have := allQ_get _ _ h.1 k (Nat.zero_le _) (by omega)
  unfold vgQ gG at this
  rw [Bool.and_eq_true] at this
  have e : gs.getD k (0, 0) = gs[k] := by simp [hk]
  rw [e] at this
  exact this.1
theorem insI_in {gs : List Pt} {n i : Nat} {os : List Int} (h : ixIn n os) (hi : i < n) : ixIn n (insI gs os i) := by
  have hq := posG_le gs os i os.length
  intro k hk
  unfold insI
  generalize posG gs os i os.length = q at *
  have l1 : (os.take q).length = q := by rw [List.length_take]; omega
  unfold insI at hk
  simp only [List.getD_eq_getElem?_getD]
  rcases Nat.lt_or_ge k q with hlt | hge
  · rw [List.getElem?_append_left (by omega), List.getElem?_take, if_pos hlt, ← List.getD_eq_getElem?_getD]
    exact h k (by omega)
  · rw [List.getElem?_append_right (by omega), l1]
    rcases Nat.eq_zero_or_pos (k - q) with h0 | hp
    · rw [h0]
      show 0 ≤ (i : Int) ∧ (i : Int) < n
      omega
    · obtain ⟨j, hj⟩ : ∃ j, k - q = j + 1 := ⟨k - q - 1, by omega⟩
      rw [hj, List.getElem?_cons_succ, List.getElem?_drop, ← List.getD_eq_getElem?_getD]
      rcases Nat.lt_or_ge (q + j) os.length with h2 | h2
      · exact h (q + j) h2
      · rw [List.getD_eq_getElem?_getD, List.getElem?_eq_none h2]
        show 0 ≤ (0 : Int) ∧ (0 : Int) < n
        omega
theorem insI_len (gs : List Pt) (os : List Int) (i : Nat) : (insI gs os i).length = os.length + 1 := by
  have hq := posG_le gs os i os.length
  unfold insI
  rw [List.length_append, List.length_take, List.length_cons, List.length_drop]
  omega
theorem ordL_in {gs : List Pt} {n : Nat} : ∀ (m i : Nat) {os : List Int}, i + m ≤ n → ixIn n os → ixIn n (ordL gs m i os) ∧ (ordL gs m i os).length = os.length + m
  | 0, i, os, _, h => ⟨h, rfl⟩
  | m + 1, i, os, hi, h => by
    have := ordL_in (gs := gs) m (i + 1) (os := insI gs os i) (by omega) (insI_in h (by omega))
    rw [insI_len] at this
    exact ⟨this.1, this.2.trans (by omega)⟩
theorem ordG_in (gs : List Pt) : ixIn gs.length (ordG gs) ∧ (ordG gs).length = gs.length := by
  have := ordL_in (gs := gs) (n := gs.length) gs.length 0 (os := []) (by omega) (fun k hk => absurd hk (Nat.not_lt_zero k))
  exact ⟨this.1, this.2.trans (by simp)⟩
abbrev rowUe (xs : List Int) : Value := .slice (some ⟨0, 0, none⟩) xs.length xs.length
theorem resR_sUe (gs : List Pt) (h : Big gs) : ResR Try.prog 16 [.row gs.length (.ints (flat gs))] (rowUe (ueS gs)) ⟨.row 3 1, .ints (ueS gs)⟩ := by
  refine bodyX_resR mixed EUg_ok (m := 30) (n := 12) rfl ?_
  rw [tr_sUe]
  unfold Big at h
  simp only [List.drop_zero, ptsA_flat, flat_length]
  unfold ueS
  rcases hv : vgB gs with _ | _
  · exact ⟨Nat.le_refl _, h, none, ⟨rfl, rfl⟩, trivial⟩
  obtain ⟨v1, v2⟩ := vg_iff hv
  obtain ⟨o1, o2⟩ := ordG_in gs
  have eo : ordL gs gs.length 0 [] = ordG gs := rfl
  rw [eo]
  simp only [Bool.not_true, brT_f, cond_true, Tree.ok]
  refine ⟨Nat.le_refl _, h, trivial, trivial, trivial, v2, ?_⟩
  repeat (refine And.intro (by first | exact True.intro | assumption | omega) ?_)
  exact ⟨some 4, ⟨rfl, rfl, rfl⟩, rfl, rfl, rfl⟩
end Go.Proofs.Ytolodncpegajkab
namespace Go.Proofs.Ytolodncpegajkab
set_option linter.all false
open Go.RowKit
noncomputable def c_iDu : Code := ((loopsOf (codeOf Try.f18))[0]?).getD .skip
def k_iDu : Ex → List Nat := keeps [0, 3, 12, 13, 14] [(0, [0, 3])] [2]
def s_iDu (gs : List Pt) : Nat → St := fun i => ⟨(.slice (some ⟨0, 0, none⟩) gs.length gs.length :: topV :: topV :: .slice (some ⟨1, 0, none⟩) i i :: topV :: topV :: topV :: topV :: topV :: topV :: topV :: topV :: .slice (some ⟨0, 0, none⟩) gs.length gs.length :: .int .i64 gs.length :: .int .i64 i :: topV :: topV :: topV :: topV :: topV :: topV :: topV :: topV :: topV :: topV :: topV :: topV :: topV :: topV :: topV :: topV :: topV :: topV :: topV :: topV :: topV :: topV :: topV :: topV :: topV :: topV :: topV :: topV :: []), [some ⟨.view, .ints (flat gs)⟩, some ⟨.row 44 2, .ints (flat (gs.take i))⟩]⟩
def re_iDu : Nat → Ex := fun _ => .exit 0
def rs_iDu (gs : List Pt) : Nat → St := fun i => ⟨(.slice (some ⟨0, 0, none⟩) gs.length gs.length :: topV :: topV :: .slice (some ⟨1, 0, none⟩) gs.length gs.length :: topV :: topV :: topV :: topV :: topV :: topV :: topV :: topV :: topV :: topV :: topV :: topV :: topV :: topV :: topV :: topV :: topV :: topV :: topV :: topV :: topV :: topV :: topV :: topV :: topV :: topV :: topV :: topV :: topV :: topV :: topV :: topV :: topV :: topV :: topV :: topV :: topV :: topV :: topV :: []), [some ⟨.view, .ints (flat gs)⟩, some ⟨.row 44 2, .ints (flat gs)⟩]⟩
set_option maxRecDepth 100000 in
theorem tr_iDu (gs : List Pt) (i : Nat) : bodyL Try.prog EUe 30 12 noL 1 c_iDu k_iDu 16 (s_iDu gs i) = brT (decide ((↑i : Int) < (↑gs.length : Int))) (.need ((0 : Int) ≤ (↑i : Int) ∧ (↑i : Int) < (↑gs.length : Int)) (.need ((0 : Nat) + (↑i : Int).toNat * (2 : Nat) + (2 : Nat) ≤ (flat gs).length) (brT (!ptB ((flat gs).getD (0 + (↑i : Int).toNat * 2) 0) ((flat gs).getD (0 + (↑i : Int).toNat * 2 + 1) 0)) (.need ((i + (1 : Nat)) * (16 : Nat) ≤ (140737488355328 : Nat) ∧ i + (1 : Nat) ≤ (1000000 : Nat)) (.need ((0 : Nat) + i * (2 : Nat) ≤ (flat (List.take i gs)).length) (.leaf .normal ⟨(.slice (some ⟨0, 0, none⟩) (gs.length) (gs.length) :: topV :: topV :: .slice (some ⟨4, 0, none⟩) (i + 1) (i + 1) :: topV :: topV :: topV :: topV :: topV :: topV :: topV :: topV :: .slice (some ⟨0, 0, none⟩) (gs.length) (gs.length) :: .int .i64 ((↑gs.length : Int)) :: .int .i64 (IntKind.i64.wrap ((↑i : Int) + 1)) :: topV :: topV :: topV :: topV :: topV :: topV :: topV :: topV :: topV :: topV :: topV :: topV :: topV :: topV :: topV :: topV :: topV :: topV :: topV :: topV :: topV :: topV :: topV :: topV :: topV :: topV :: topV :: topV :: []), [some ⟨.view, .ints (flat gs)⟩, some deadB, some ⟨.box, .vals [.int .i64 ((flat gs).getD (0 + (↑i : Int).toNat * 2) 0), .int .i64 ((flat gs).getD (0 + (↑i : Int).toNat * 2 + 1) 0)]⟩, some ⟨.row 44 2, .vals [.int .i64 (0), .int .i64 (0)]⟩, some ⟨.row 44 2, .ints (List.take (i * 2) (List.drop 0 (flat (List.take i gs))) ++ [0, 0])⟩, some ⟨.box, .vals [.int .i64 ((flat gs).getD (0 + (↑i : Int).toNat * 2) 0), .int .i64 ((flat gs).getD (0 + (↑i : Int).toNat * 2 + 1) 0)]⟩, some ⟨.box, .vals [.int .i64 (0), .int .i64 (0)]⟩]⟩))) (.need ((i + (1 : Nat)) * (16 : Nat) ≤ (140737488355328 : Nat) ∧ i + (1 : Nat) ≤ (1000000 : Nat)) (.need ((0 : Nat) + i * (2 : Nat) ≤ (flat (List.take i gs)).length) (.leaf .normal ⟨(.slice (some ⟨0, 0, none⟩) (gs.length) (gs.length) :: topV :: topV :: .slice (some ⟨4, 0, none⟩) (i + 1) (i + 1) :: topV :: topV :: topV :: topV :: topV :: topV :: topV :: topV :: .slice (some ⟨0, 0, none⟩) (gs.length) (gs.length) :: .int .i64 ((↑gs.length : Int)) :: .int .i64 (IntKind.i64.wrap ((↑i : Int) + 1)) :: topV :: topV :: topV :: topV :: topV :: topV :: topV :: topV :: topV :: topV :: topV :: topV :: topV :: topV :: topV :: topV :: topV :: topV :: topV :: topV :: topV :: topV :: topV :: topV :: topV :: topV :: topV :: topV :: []), [some ⟨.view, .ints (flat gs)⟩, some deadB, some ⟨.box, .vals [.int .i64 ((flat gs).getD (0 + (↑i : Int).toNat * 2) 0), .int .i64 ((flat gs).getD (0 + (↑i : Int).toNat * 2 + 1) 0)]⟩, some ⟨.row 44 2, .vals [.int .i64 ((flat gs).getD (0 + (↑i : Int).toNat * 2) 0), .int .i64 ((flat gs).getD (0 + (↑i : Int).toNat * 2 + 1) 0)]⟩, some ⟨.row 44 2, .ints (List.take (i * 2) (List.drop 0 (flat (List.take i gs))) ++ [(flat gs).getD (0 + (↑i : Int).toNat * 2) 0, (flat gs).getD (0 + (↑i : Int).toNat * 2 + 1) 0])⟩, some ⟨.box, .vals [.int .i64 ((flat gs).getD (0 + (↑i : Int).toNat * 2) 0), .int .i64 ((flat gs).getD (0 + (↑i : Int).toNat * 2 + 1) 0)]⟩, some ⟨.box, .vals [.int .i64 ((flat gs).getD (0 + (↑i : Int).toNat * 2) 0), .int .i64 ((flat gs).getD (0 + (↑i : Int).toNat * 2 + 1) 0)]⟩]⟩)))))) (.leaf (.exit 0) ⟨(.slice (some ⟨0, 0, none⟩) (gs.length) (gs.length) :: topV :: topV :: .slice (some ⟨1, 0, none⟩) (i) (i) :: topV :: topV :: topV :: topV :: topV :: topV :: topV :: topV :: topV :: topV :: topV :: topV :: topV :: topV :: topV :: topV :: topV :: topV :: topV :: topV :: topV :: topV :: topV :: topV :: topV :: topV :: topV :: topV :: topV :: topV :: topV :: topV :: topV :: topV :: topV :: topV :: topV :: topV :: topV :: []), [some ⟨.view, .ints (flat gs)⟩, some ⟨.row 44 2, .ints (flat (List.take i gs))⟩]⟩) := by kernel_rfl
set_option maxRecDepth 100000 in
theorem nl_iDu : loopsOf c_iDu = [] := by kernel_rfl
def inv_iDu (gs : List Pt) : Nat → Prop := fun i => i ≤ gs.length
def me_iDu (gs : List Pt) : Nat → Nat := fun i => gs.length - i
/-- A round of this loop. -/
def Round_iDu (gs : List Pt) : Prop := ∀ xx : Nat, inv_iDu gs xx → (bodyL Try.prog EUe 30 12 noL 1 c_iDu k_iDu 16 (s_iDu gs xx)).ok (RoundEnd 1 (s_iDu gs) (inv_iDu gs) (me_iDu gs) re_iDu (rs_iDu gs) xx) (fun _ _ => False)
def e_iDu (s : St) (k : Ex → St → Tree) : Option Tree := match Nat.beq s.tmps.length 43, pickL s.tmps [0, 3, 12, 13, 14], s.mem with
  | true, [.slice (some ⟨0, 0, none⟩) n _, .slice none 0 0, .slice (some ⟨0, 0, none⟩) n1 _, .int .i64 n2, .int .i64 ii], [some ⟨.view, .ints xs⟩] => some (needs [ii = 0, n1 = n, n2 = n, xs.length = n * 2, n ≤ 8, allV (ptsA n xs) = true] (k (.exit 0) ⟨(.slice (some ⟨0, 0, none⟩) n n :: topV :: topV :: .slice (some ⟨1, 0, none⟩) n n :: topV :: topV :: topV :: topV :: topV :: topV :: topV :: topV :: topV :: topV :: topV :: topV :: topV :: topV :: topV :: topV :: topV :: topV :: topV :: topV :: topV :: topV :: topV :: topV :: topV :: topV :: topV :: topV :: topV :: topV :: topV :: topV :: topV :: topV :: topV :: topV :: topV :: topV :: topV :: []), [some ⟨.view, .ints xs⟩, some ⟨.row 44 2, .ints xs⟩]⟩))
  | _, _, _ => none
set_option maxRecDepth 100000 in
theorem round_iDu (gs : List Pt) (h : gs.length ≤ 8) (hv : allV gs = true) : Round_iDu gs := by
  intro i h1
  have h1 : i ≤ gs.length := h1
  rw [tr_iDu]
  have fl := flat_length gs
  have lt : (gs.take i).length = i := by rw [List.length_take]; omega
  have ft := flat_length (gs.take i)
  refine brT_ok.2 ⟨fun hlt => ?_, fun hge => ?_⟩
  · have hlt := of_decide_eq_true hlt
    have hi : i < gs.length := by omega
    have hv1 := allV_atU hv hi
    have tk : gs.take (i + 1) = gs.take i ++ [gs.getD i (0, 0)] := by
      rw [List.take_add_one]
      simp [List.getD, hi]
    have fk : List.take (i * 2) (flat (gs.take i)) = flat (gs.take i) := List.take_of_length_le (by omega)
    rw [wsucc (n := gs.length) hi (by omega)]
    simp only [Int.toNat_natCast, Nat.zero_add, flat_get0, flat_get1, List.drop_zero, fk, flat_snoc, hv1, Bool.not_true, brT_f, Tree.ok]
    refine ⟨by omega, by omega, by omega, by omega, i + 1, [some 4], ?_, ?_, rfl, rfl, ?_⟩
    · show i + 1 ≤ gs.length; omega
    · show gs.length - (i + 1) < gs.length - i; omega
    · unfold s_iDu
      rw [tk]
      repeat' (first | exact True.intro | exact rfl | exact fun _ => rfl | (simp; done) | refine And.intro ?_ ?_)
  · have hge := of_decide_eq_false hge
    obtain rfl : i = gs.length := by omega
    refine ⟨rfl, [some 1], ?_⟩
    simp only [rs_iDu, List.take_length]
    repeat' (first | exact True.intro | exact rfl | exact fun _ => rfl | (simp; done) | refine And.intro ?_ ?_)
set_option maxRecDepth 100000 in
theorem lg_iDu : LoopE Try.prog e_iDu c_iDu := by
  intro s k t F H hlt ht
  unfold e_iDu at hlt
  split at hlt
  rotate_left
  · cases hlt
  rename_i hlen hpick hmem
  obtain ⟨tmps, mem⟩ := s
  simp only at hlen hpick hmem
  subst hmem
  obtain rfl := Option.some.inj hlt
  obtain ⟨⟨rfl, rfl, rfl, h1, h2, h3, _⟩, ht2⟩ := needs_ok ht
  clear ht hlt
  obtain ⟨gs, rfl, rfl⟩ := even_flat h1
  rw [ptsA_flat] at h3
  refine ⟨_, _, ht2, loop_run2 mixed EUe_ok (s_iDu gs) (inv_iDu gs) (me_iDu gs) re_iDu (rs_iDu gs) k_iDu (fun _ => rfl) (noLoops nl_iDu) (round_iDu gs h2 h3) (x := 0) (Nat.zero_le _) (π := [none]) rfl ?_⟩
  refine ⟨rfl, rfl, ?_, wvs_spread' [0, 3, 12, 13, 14] hlen rfl ?_⟩
  · repeat' (first | exact True.intro | exact rfl | exact wv_top _ _ | exact fun _ => rfl | assumption | exact Eq.symm (by assumption) | exact vI0 rfl | refine And.intro ?_ ?_)
  · rw [hpick]
    repeat' (first | exact True.intro | exact rfl | exact wv_top _ _ | exact fun _ => rfl | assumption | exact Eq.symm (by assumption) | exact vI0 rfl | refine And.intro ?_ ?_)
end Go.Proofs.Ytolodncpegajkab
namespace Go.Proofs.Ytolodncpegajkab
set_option linter.all false
open Go.Shelf
def sortPt_ren : Go.Shelf.Ren := ⟨fun | 6 => 103 | 15 => 139 | 14 => 138 | 28 => 163 | 29 => 164 | 20 => 155 | 21 => 156 | 22 => 157 | 23 => 158 | 24 => 159 | 25 => 160 | 26 => 161 | 27 => 162 | 46 => 179 | 47 => 180 | 48 => 181 | 49 => 182 | 50 => 183 | 57 => 187 | n => n, fun | 22 => 39 | 24 => 44 | 25 => 115 | 3 => 3 | 39 => 145 | 0 => 0 | 53 => 160 | 55 => 162 | 4 => 4 | 46 => 154 | 45 => 153 | 50 => 83 | 5 => 5 | 9 => 9 | 66 => 169 | 70 => 173 | 76 => 177 | 77 => 90 | n => n, fun | n => n⟩
theorem sortPt : Go.Proofs.SlLaysF0.n6 Try.prog sortPt_ren := {
  mixed := by kernel_rfl
  f6 := ⟨Try.f103.name, by decide, Try.func103.trans (congrArg some (by kernel_rfl))⟩
  f14 := ⟨Try.f138.name, by decide, Try.func138.trans (congrArg some (by kernel_rfl))⟩
  f15 := Try.func139.trans (congrArg some (by kernel_rfl))
  f20 := ⟨Try.f155.name, by decide, Try.func155.trans (congrArg some (by kernel_rfl))⟩
  f21 := ⟨Try.f156.name, by decide, Try.func156.trans (congrArg some (by kernel_rfl))⟩
  f22 := ⟨Try.f157.name, by decide, Try.func157.trans (congrArg some (by kernel_rfl))⟩
  f23 := ⟨Try.f158.name, by decide, Try.func158.trans (congrArg some (by kernel_rfl))⟩
  f24 := ⟨Try.f159.name, by decide, Try.func159.trans (congrArg some (by kernel_rfl))⟩
  f25 := ⟨Try.f160.name, by decide, Try.func160.trans (congrArg some (by kernel_rfl))⟩
  f26 := ⟨Try.f161.name, by decide, Try.func161.trans (congrArg some (by kernel_rfl))⟩
  f27 := ⟨Try.f162.name, by decide, Try.func162.trans (congrArg some (by kernel_rfl))⟩
  f28 := Try.func163.trans (congrArg some (by kernel_rfl))
  f29 := Try.func164.trans (congrArg some (by kernel_rfl))
  f46 := ⟨Try.f179.name, by decide, Try.func179.trans (congrArg some (by kernel_rfl))⟩
  f47 := Try.func180.trans (congrArg some (by kernel_rfl))
  f48 := Try.func181.trans (congrArg some (by kernel_rfl))
  f49 := ⟨Try.f182.name, by decide, Try.func182.trans (congrArg some (by kernel_rfl))⟩
  f50 := ⟨Try.f183.name, by decide, Try.func183.trans (congrArg some (by kernel_rfl))⟩
  f57 := ⟨Try.f187.name, by decide, Try.func187.trans (congrArg some (by kernel_rfl))⟩
  t0 := Try.underlying0
  a0 := Try.isAgg0
  z0 := Try.sizeOf0
  v0 := Try.zeroValue0
  t3 := Try.underlying3
  a3 := Try.isAgg3
  z3 := Try.sizeOf3
  v3 := Try.zeroValue3
  t4 := Try.underlying4
  a4 := Try.isAgg4
  z4 := Try.sizeOf4
  v4 := Try.zeroValue4
  t5 := Try.underlying5
  a5 := Try.isAgg5
  z5 := Try.sizeOf5
  v5 := Try.zeroValue5
  t9 := Try.underlying9
  a9 := Try.isAgg9
  z9 := Try.sizeOf9
  v9 := Try.zeroValue9
  t22 := Try.underlying39
  a22 := Try.isAgg39
  z22 := Try.sizeOf39
  v22 := Try.zeroValue39
  t25 := Try.underlying115
  a25 := Try.isAgg115
  z25 := Try.sizeOf115
  v25 := Try.zeroValue115
  t39 := Try.underlying145
  a39 := Try.isAgg145
  z39 := Try.sizeOf145
  v39 := Try.zeroValue145
  t45 := Try.underlying153
  a45 := Try.isAgg153
  z45 := Try.sizeOf153
  v45 := Try.zeroValue153
  t46 := Try.underlying154
  a46 := Try.isAgg154
  z46 := Try.sizeOf154
  v46 := Try.zeroValue154
  t50 := Try.underlying83
  a50 := Try.isAgg83
  z50 := Try.sizeOf83
  v50 := Try.zeroValue83
  t53 := Try.underlying160
  a53 := Try.isAgg160
  z53 := Try.sizeOf160
  v53 := Try.zeroValue160
  t55 := Try.underlying162
  a55 := Try.isAgg162
  z55 := Try.sizeOf162
  v55 := Try.zeroValue162
  t66 := Try.underlying169
  a66 := Try.isAgg169
  z66 := Try.sizeOf169
  v66 := Try.zeroValue169
  t70 := Try.underlying173
  a70 := Try.isAgg173
  z70 := Try.sizeOf173
  v70 := Try.zeroValue173
  t76 := Try.underlying177
  a76 := Try.isAgg177
  z76 := Try.sizeOf177
  v76 := Try.zeroValue177
  t77 := Try.underlying90
  a77 := Try.isAgg90
  z77 := Try.sizeOf90
  v77 := Try.zeroValue90 }
end Go.Proofs.Ytolodncpegajkab
namespace Go.Proofs.Ytolodncpegajkab
set_option linter.all false
open Go.RowKit Go.Sort
def orI (x y : Int) : Int := if x = 0 then y else x
theorem or2_any (b c : Nat) (x y : Int) (w : World) (h0 : w.cell? ⟨b, 0, none⟩ = some (.int .i64 x)) (h1 : w.cell? ⟨b, 1, none⟩ = some (.int .i64 y)) :
    Calls Try.prog 140 #[.slice (some ⟨b, 0, none⟩) 2 c] w fun e w' => e = .returned (.int .i64 (orI x y)) ∧ w = w' := by
  go_enter Try.func140, Try.ntmps140
  go_wp2
  go_loopw [8] (fun i wr => ∃ k : Nat, k ≤ 2 ∧ i = .int .i64 k ∧ (1 ≤ k → x = 0) ∧ (2 ≤ k → y = 0) ∧ w = wr) (fun i _ => 2 - (intOf i).toNat)
  case atStart => exact ⟨0, Nat.zero_le _, rfl, fun h => by omega, fun h => by omega, rfl⟩
  case round =>
    obtain ⟨k, hk, rfl, hx, hy, rfl⟩ := hrel
    by_cases k0 : k = 0
    · subst k0
      by_cases x0 : x = 0
      · subst x0
        clear hx hy
        go_wp2
        exact ⟨⟨1, by omega, rfl, fun _ => trivial, fun h => by omega, trivial⟩, by simp [intOf]⟩
      · have E := Lib.hid (show orI x y = x by unfold orI; rw [if_neg x0])
        clear hx hy
        go_wp2
        go_ret
        exact ⟨ret_int E.out.symm, rfl⟩
    · by_cases k1 : k = 1
      · subst k1
        obtain rfl := hx (by omega)
        by_cases y0 : y = 0
        · subst y0
          go_wp2
          exact ⟨⟨2, by omega, rfl, fun _ => trivial, fun _ => trivial, trivial⟩, by simp [intOf]⟩
        · have E := Lib.hid (show orI 0 y = y by unfold orI; rw [if_pos rfl])
          go_wp2
          go_ret
          exact ⟨ret_int E.out.symm, rfl⟩
      · obtain rfl : k = 2 := by omega
        obtain rfl := hx (by omega)
        obtain rfl := hy (by omega)
        have E := Lib.hid (show orI 0 0 = 0 by unfold orI; rw [if_pos rfl])
        go_wp2
        go_ret
        exact ⟨ret_int E.out.symm, rfl⟩
/-- Point.compare -/
def cmpQ (a b c d : Int) : Int := orI (sgn (a - c)) (sgn (b - d))
theorem cmpPt_any (a b c d : Int) (w : World) :
    Calls Try.prog 104 #[.agg #[.int .i64 a, .int .i64 b], .agg #[.int .i64 c, .int .i64 d]] w fun e w' => e = .returned (.int .i64 (cmpQ a b c d)) ∧ ∃ q os', w' = grow (w.drewN q) os' := by
  go_enter Try.func104, Try.ntmps104
  go_wp2_with fail
  go_region_held3 (fun w' => w'.cell? ⟨w.heap.size, 0, none⟩ = some (.int .i64 a) ∧ w'.cell? ⟨w.heap.size, 1, none⟩ = some (.int .i64 b) ∧ w'.cell? ⟨w.heap.size + 1, 0, none⟩ = some (.int .i64 c) ∧ w'.cell? ⟨w.heap.size + 1, 1, none⟩ = some (.int .i64 d))
    (first | (simp [*, go_sem]; done))
    (first
      | (go_at_call 141; refine (compare_any _ _ _).mono ?_; rintro e wx ⟨rfl, rfl⟩)
      | (go_at_call 140; refine (or2_any _ _ (sgn (a - c)) (sgn (b - d)) _ (by simp [go_sem]; done) (by simp [go_sem]; done)).mono ?_; rintro e wx ⟨rfl, rfl⟩))
  go_wp2
  go_ret
  refine ⟨rfl, 1, _, (?_ : _ = grow (w.drewN 1) #[.cells #[.int .i64 a, .int .i64 b] 44, .cells #[.int .i64 c, .int .i64 d] 44, .cells #[.int .i64 (sgn (a - c)), .int .i64 (sgn (b - d))] 3])⟩
  rw [alloc_eq_grow, alloc_eq_grow, alloc_eq_grow, grow_grow, grow_grow]
  rfl
end Go.Proofs.Ytolodncpegajkab
namespace Go.Proofs.Ytolodncpegajkab
set_option linter.all false
open Go.RowKit
theorem DOk.ints {w : World} {l : Nat} {cs : Cs} {xs : List Int} (h : cs.list = xs.map (Value.int .i64)) {y : Value} (k : DOk w (.row l cs) y) : DOk w (.row l (.ints xs)) y := by
  obtain ⟨_, ad, c', h2, h3, h4⟩ := k
  refine ⟨rfl, ad, c', h2, h3, h4.imp id ?_⟩
  rintro ⟨g, f, h5, h6, h7⟩
  exact ⟨g, f, h5, h6, fun j v hv => h7 j v (by rw [h]; exact hv)⟩
/-- What is known for a row of ints is known for the same cells written otherwise. -/
theorem DOks.ints {w : World} : ∀ {ds ds' : List DArg} {args : Array Value}, DOks w ds args → ds.length = ds'.length → (∀ (i : Nat) d d', ds[i]? = some d → ds'[i]? = some d' → d = d' ∨ ∃ l cs xs, d = .row l cs ∧ d' = .row l (.ints xs) ∧ cs.list = xs.map (Value.int .i64)) → DOks w ds' args := by
  intro ds ds' args h hl hi
  refine ⟨by rw [← hl]; exact h.1, fun i d' y hd' hy => ?_⟩
  have hlt : i < ds.length := by rw [hl]; exact (List.getElem?_eq_some_iff.1 hd').1
  have hd : ds[i]? = some ds[i] := by simp [hlt]
  have h0 := h.2 i ds[i] y hd hy
  rcases hi i ds[i] d' hd hd' with e | ⟨l, cs, xs, e1, e2, e3⟩
  · rw [← e]; exact h0
  · rw [e1] at h0
    rw [e2]
    exact h0.ints e3
end Go.Proofs.Ytolodncpegajkab
namespace Go.Proofs.Ytolodncpegajkab
set_option linter.all false
open Go.RowKit
/-- Two points are equal. -/
def eqB (ax ay bx b_y : Int) : Bool := ax == bx && ay == b_y
def segB (ax ay bx b_y : Int) : Bool := ptB ax ay && ptB bx b_y && !(eqB ax ay bx b_y)
theorem set_is {W : World} {a : Addr} (v : Value) (h : (W.cell? a).isSome = true) : (W.setCell a v).cell? a = some v := by
  obtain ⟨u, hu⟩ := Option.isSome_iff_exists.mp h
  exact set_same v hu
theorem set_blk {W : World} {b g i j : Nat} (v : Value) (h : ¬ b = g) : (W.setCell ⟨g, i, none⟩ v).cell? ⟨b, j, none⟩ = W.cell? ⟨b, j, none⟩ :=
  World.cell?_setCell_other _ ⟨g, i, none⟩ ⟨b, j, none⟩ v (fun e => h (by cases e; rfl))
theorem set_off {W : World} {g i j : Nat} (v : Value) (h : ¬ j = i) : (W.setCell ⟨g, i, none⟩ v).cell? ⟨g, j, none⟩ = W.cell? ⟨g, j, none⟩ :=
  World.cell?_setCell_other _ ⟨g, i, none⟩ ⟨g, j, none⟩ v (fun e => h (by cases e; rfl))
/-- A point that needs no check is on a segment: by the product and the scalar product of the vectors to the ends. -/
def hasB (ax ay bx b_y px py : Int) : Bool := ((ax - px) * (b_y - py) - (ay - py) * (bx - px) == 0) && decide ((ax - px) * (bx - px) + (ay - py) * (b_y - py) ≤ 0)
theorem hasB_no {ax ay bx b_y px py : Int} (h : ((ax - px) * (b_y - py) - (ay - py) * (bx - px) == 0) = false) : hasB ax ay bx b_y px py = false := by unfold hasB; rw [h]; rfl
theorem hasB_yes {ax ay bx b_y px py : Int} (h : ((ax - px) * (b_y - py) - (ay - py) * (bx - px) == 0) = true) : hasB ax ay bx b_y px py = decide ((ax - px) * (bx - px) + (ay - py) * (b_y - py) ≤ 0) := by unfold hasB; rw [h]; rfl
set_option maxHeartbeats 6400000 in
theorem has_any (ax ay bx b_y px py : Int) (w : World) (ha : ptB ax ay = true) (hb : ptB bx b_y = true) (hp : ptB px py = true) :
    Calls Try.prog 75 #[.agg #[.int .i64 ax, .int .i64 ay, .int .i64 bx, .int .i64 b_y], .agg #[.int .i64 px, .int .i64 py]] w fun e w' => e = .returned (.bool (hasB ax ay bx b_y px py)) ∧ Below w.heap.size w w' := by
  have h1 := ptB_true ha
  have h2 := ptB_true hb
  have h3 := ptB_true hp
  clear ha hb hp
  have p1 := prod_bd (x := ax - px) (y := b_y - py) 2000 2000 (by omega) (by omega)
  have p2 := prod_bd (x := ay - py) (y := bx - px) 2000 2000 (by omega) (by omega)
  have p3 := prod_bd (x := ax - px) (y := bx - px) 2000 2000 (by omega) (by omega)
  have p4 := prod_bd (x := ay - py) (y := b_y - py) 2000 2000 (by omega) (by omega)
  go_enter Try.func75, Try.ntmps75
  go_upto_region 1 with fail
  go_cut [5, 6] (fun s5 s6 wx => ∃ g h : Nat, s5 = .pointer (some ⟨g, 0, none⟩) ∧ s6 = .pointer (some ⟨h, 0, none⟩) ∧ wx.cell? ⟨g, 0, none⟩ = some (.int .i64 (ax - px)) ∧ wx.cell? ⟨g, 1, none⟩ = some (.int .i64 (ay - py)) ∧ wx.cell? ⟨h, 0, none⟩ = some (.int .i64 (bx - px)) ∧ wx.cell? ⟨h, 1, none⟩ = some (.int .i64 (b_y - py)) ∧ Below w.heap.size w wx)
  case first =>
    go_region_held3 (fun wx => wx.cell? ⟨w.heap.size, 0, none⟩ = some (.int .i64 ax) ∧ wx.cell? ⟨w.heap.size, 1, none⟩ = some (.int .i64 ay) ∧ wx.cell? ⟨w.heap.size, 2, none⟩ = some (.int .i64 bx) ∧ wx.cell? ⟨w.heap.size, 3, none⟩ = some (.int .i64 b_y) ∧ wx.cell? ⟨w.heap.size + 1, 0, none⟩ = some (.int .i64 px) ∧ wx.cell? ⟨w.heap.size + 1, 1, none⟩ = some (.int .i64 py))
      (first | (simp [*, go_sem]; done) | (go_split_ands; refine ⟨?_, ?_, ?_, ?_, ?_, ?_⟩ <;> ((repeat (with_reducible refine keepF (by assumption) ?_)); first | assumption | exact keep1 (by assumption) (by assumption) | exact keepA _ (by assumption) | exact keepS (by assumption) (by assumption))))
      (first
        | (go_at_call_of 96 (Value.agg #[.int .i64 ax, .int .i64 ay]); refine (minus_any _ _ _ _ _ (by omega) (by omega)).mono ?_; rintro e w1 ⟨rfl, hx1⟩; obtain ⟨hc1, hf1⟩ := bcell hx1; have y1 := hx1.size; (try simp at y1); (try have q10 : w.heap.size < w1.heap.size ∧ w.heap.size < w1.heap.size + 1 ∧ ¬ (w1.heap.size = w.heap.size) ∧ ¬ (w.heap.size = w1.heap.size) := (by omega)); (try have q11 : w.heap.size + 1 < w1.heap.size ∧ w.heap.size + 1 < w1.heap.size + 1 ∧ ¬ (w1.heap.size = w.heap.size + 1) ∧ ¬ (w.heap.size + 1 = w1.heap.size) := (by omega)); (try have q12 : w.heap.size + 1 + 1 < w1.heap.size ∧ w.heap.size + 1 + 1 < w1.heap.size + 1 ∧ ¬ (w1.heap.size = w.heap.size + 1 + 1) ∧ ¬ (w.heap.size + 1 + 1 = w1.heap.size) := (by omega)); (try have q13 : w.heap.size + 1 + 1 + 1 < w1.heap.size ∧ w.heap.size + 1 + 1 + 1 < w1.heap.size + 1 ∧ ¬ (w1.heap.size = w.heap.size + 1 + 1 + 1) ∧ ¬ (w.heap.size + 1 + 1 + 1 = w1.heap.size) := (by omega)))
        | (go_at_call_of 96 (Value.agg #[.int .i64 bx, .int .i64 b_y]); refine (minus_any _ _ _ _ _ (by omega) (by omega)).mono ?_; rintro e w2 ⟨rfl, hx2⟩; obtain ⟨hc2, hf2⟩ := bcell hx2; have y2 := hx2.size; (try simp at y2); (try have q20 : w.heap.size < w2.heap.size ∧ w.heap.size < w2.heap.size + 1 ∧ ¬ (w2.heap.size = w.heap.size) ∧ ¬ (w.heap.size = w2.heap.size) := (by omega)); (try have q21 : w.heap.size + 1 < w2.heap.size ∧ w.heap.size + 1 < w2.heap.size + 1 ∧ ¬ (w2.heap.size = w.heap.size + 1) ∧ ¬ (w.heap.size + 1 = w2.heap.size) := (by omega)); (try have q22 : w.heap.size + 1 + 1 < w2.heap.size ∧ w.heap.size + 1 + 1 < w2.heap.size + 1 ∧ ¬ (w2.heap.size = w.heap.size + 1 + 1) ∧ ¬ (w.heap.size + 1 + 1 = w2.heap.size) := (by omega)); (try have q23 : w.heap.size + 1 + 1 + 1 < w2.heap.size ∧ w.heap.size + 1 + 1 + 1 < w2.heap.size + 1 ∧ ¬ (w2.heap.size = w.heap.size + 1 + 1 + 1) ∧ ¬ (w.heap.size + 1 + 1 + 1 = w2.heap.size) := (by omega)); (try have q24 : w1.heap.size < w2.heap.size ∧ w1.heap.size < w2.heap.size + 1 ∧ ¬ (w2.heap.size = w1.heap.size) ∧ ¬ (w1.heap.size = w2.heap.size) := (by omega)); (try have q25 : w1.heap.size + 1 < w2.heap.size ∧ w1.heap.size + 1 < w2.heap.size + 1 ∧ ¬ (w2.heap.size = w1.heap.size + 1) ∧ ¬ (w1.heap.size + 1 = w2.heap.size) := (by omega))))
    all_goals (go_wp2_with fail; go_meet)
    all_goals refine ⟨_, _, rfl, rfl, ?_, ?_, ?_, ?_, ?_⟩
    all_goals (try (simp [*, go_sem, set_is, set_blk, set_off]; done))
    all_goals (try (rw [set_blk _ (by omega), set_blk _ (by omega)]; first | (refine pair_0 (u := .int .i64 0) _ _ (keep1 (by assumption) (keepA _ (by simp [go_sem]))); done) | (refine pair_1 (u := .int .i64 0) _ _ (keep1 (by assumption) (keepA _ (by simp [go_sem]))); done)))
    all_goals (try ((first | refine pair_0 (u := .int .i64 0) _ _ ?_ | refine pair_1 (u := .int .i64 0) _ _ ?_); rw [set_blk _ (by omega), set_blk _ (by omega)]; exact keep1 (by assumption) (keepA _ (by simp [go_sem]))))
    all_goals (try (repeat' (first | exact nr _ | apply na | apply Below.drew | apply nd | refine pair_below _ _ (by omega) ?_ | refine nt ?_ (by assumption))))
  case rest =>
    obtain ⟨g, h, rfl, rfl, k0, k1, k2, k3, hbx⟩ := hcut
    have z0 : g < wc.heap.size := World.block_lt_of_cell? _ _ k0
    have z1 : h < wc.heap.size := World.block_lt_of_cell? _ _ k2
    have HB := Lib.hid hbx
    clear hbx
    rcases hq : ((ax - px) * (b_y - py) - (ay - py) * (bx - px) == 0) with _ | _
    · have HR := Lib.hid (hasB_no hq)
      have HQ : ((ax - px) * (b_y - py) - (ay - py) * (bx - px) = 0) = False := by simpa using hq
      clear hq
      go_wp2_with fail
      refine (pcross_any _ _ _ _ _ (by omega) (by omega)).mono ?_; rintro e w3 ⟨rfl, hx3⟩
      go_wp2_with fail
      go_ret
      exact ⟨ret_bool HR.out.symm, nt HB.out hx3⟩
    · have HR := Lib.hid (hasB_yes hq)
      have HQ : ((ax - px) * (b_y - py) - (ay - py) * (bx - px) = 0) = True := by simpa using hq
      clear hq
      go_wp2_with fail
      refine (pcross_any _ _ _ _ _ (by omega) (by omega)).mono ?_; rintro e w3 ⟨rfl, hx3⟩; obtain ⟨hc3, hf3⟩ := bcell hx3
      go_wp2_with fail
      refine (pdot_any _ _ _ _ _ (by omega) (by omega)).mono ?_; rintro e w4 ⟨rfl, hx4⟩
      go_wp2_with fail
      go_ret
      exact ⟨rfl, nt (nt HB.out hx3) hx4⟩
theorem mul_sq (a : Int) : 0 ≤ a * a := by
  rw [← Int.natAbs_mul_self]
  omega
theorem same_side {u v s t : Int} (h : u * t = s * v) (hd : u * v + s * t ≤ 0) : u * v ≤ 0 := by
  rcases Int.lt_or_le 0 (u * v) with hp | hp
  · have hn : s * t < 0 := by omega
    have h1 : (u * v) * (s * t) < 0 := Int.mul_neg_of_pos_of_neg hp hn
    have h2 : (u * v) * (s * t) = (s * v) * (s * v) := by
      rw [show (u * v) * (s * t) = (u * t) * (s * v) by rw [Int.mul_assoc, Int.mul_assoc, Int.mul_left_comm v s t, Int.mul_comm v t, Int.mul_left_comm s t v], h]
    have h3 := mul_sq (s * v)
    omega
  · exact hp
theorem apart_of {u v : Int} (h : u * v ≤ 0) : (u ≤ 0 ∧ 0 ≤ v) ∨ (v ≤ 0 ∧ 0 ≤ u) := by
  rcases Int.lt_or_le 0 u with h1 | h1
  · rcases Int.lt_or_le 0 v with h2 | h2
    · have := Int.mul_pos h1 h2
      omega
    · omega
  · rcases Int.lt_or_le v 0 with h2 | h2
    · rcases Int.lt_or_le u 0 with h3 | h3
      · have := Int.mul_pos_of_neg_of_neg h3 h2
        omega
      · omega
    · omega
theorem apart_mul {u v : Int} (h : (u ≤ 0 ∧ 0 ≤ v) ∨ (v ≤ 0 ∧ 0 ≤ u)) : u * v ≤ 0 := by
  rcases h with ⟨h1, h2⟩ | ⟨h1, h2⟩
  · exact Int.mul_nonpos_of_nonpos_of_nonneg h1 h2
  · exact Int.mul_nonpos_of_nonneg_of_nonpos h2 h1
def btwB (ax ay bx b_y px py : Int) : Bool := decide ((ax ≤ px ∧ px ≤ bx ∨ bx ≤ px ∧ px ≤ ax) ∧ (ay ≤ py ∧ py ≤ b_y ∨ b_y ≤ py ∧ py ≤ ay))
theorem cross_turn (ax ay bx b_y px py : Int) : (ax - px) * (b_y - py) - (ay - py) * (bx - px) = crossI ax ay bx b_y px py := by
  unfold crossI
  simp only [Int.sub_mul, Int.mul_sub]
  have c1 := Int.mul_comm bx ay
  have c2 := Int.mul_comm px ay
  have c3 := Int.mul_comm bx py
  have c4 := Int.mul_comm px b_y
  have c5 := Int.mul_comm ax ay
  have c6 := Int.mul_comm px py
  have c7 := Int.mul_comm b_y ax
  omega
theorem has_eq (ax ay bx b_y px py : Int) : hasB ax ay bx b_y px py = ((crossI ax ay bx b_y px py == 0) && btwB ax ay bx b_y px py) := by
  unfold hasB btwB
  rw [cross_turn]
  rcases h : (crossI ax ay bx b_y px py == 0) with _ | _
  · rfl
  simp only [Bool.true_and, decide_eq_decide]
  have h0 : (ax - px) * (b_y - py) - (ay - py) * (bx - px) = 0 := by rw [cross_turn]; simpa using h
  constructor
  · intro hd
    have h1 := apart_of (same_side (u := ax - px) (v := bx - px) (s := ay - py) (t := b_y - py) (by omega) hd)
    have h2 := apart_of (same_side (u := ay - py) (v := b_y - py) (s := ax - px) (t := bx - px) (by omega) (by omega))
    omega
  · intro hd
    have h1 := apart_mul (u := ax - px) (v := bx - px) (by omega)
    have h2 := apart_mul (u := ay - py) (v := b_y - py) (by omega)
    omega
theorem between_any (ax ay bx b_y px py : Int) (w : World) :
    Calls Try.prog 178 #[.agg #[.int .i64 ax, .int .i64 ay, .int .i64 bx, .int .i64 b_y], .agg #[.int .i64 px, .int .i64 py]] w fun e w' => e = .returned (.bool (btwB ax ay bx b_y px py)) ∧ Below w.heap.size w w' := by
  go_enter Try.func178, Try.ntmps178
  go_wp2_with (go_at_call 71; refine (inRange_any _ _ _ _).mono ?_; rintro e w' ⟨rfl, rfl⟩)
  all_goals go_ret
  all_goals refine ⟨ret_bool ?_, na (na (nr _) _) _⟩
  all_goals (unfold btwB; rw [Bool.eq_iff_iff]; simp; omega)
theorem specHas_any (ax ay bx b_y px py : Int) (w : World) (ha : ptB ax ay = true) (hb : ptB bx b_y = true) (hp : ptB px py = true) :
    Calls Try.prog 153 #[.agg #[.int .i64 ax, .int .i64 ay, .int .i64 bx, .int .i64 b_y], .agg #[.int .i64 px, .int .i64 py]] w fun e w' => e = .returned (.bool (hasB ax ay bx b_y px py)) ∧ Below w.heap.size w w' := by
  have HR := Lib.hid (has_eq ax ay bx b_y px py)
  have VA := Lib.hid ha
  have VB := Lib.hid hb
  have VP := Lib.hid hp
  clear ha hb hp
  go_enter Try.func153, Try.ntmps153
  rcases hq : (crossI ax ay bx b_y px py == 0) with _ | _
  · have HR2 := Lib.hid (show hasB ax ay bx b_y px py = false by rw [HR.out, hq]; rfl)
    have HQ : (crossI ax ay bx b_y px py = 0) = False := by simpa using hq
    clear hq
    go_wp2_with fail
    refine (specCross_any _ _ _ _ _ _ _ VA.out VB.out VP.out).mono ?_; rintro e w1 ⟨rfl, hb1⟩
    go_wp2_with fail
    go_ret
    exact ⟨ret_bool HR2.out.symm, by repeat' (first | exact nr _ | apply na | apply Below.drew | apply nd | refine nt ?_ (by assumption))⟩
  · have HQ : (crossI ax ay bx b_y px py = 0) = True := by simpa using hq
    clear hq
    go_wp2_with fail
    refine (specCross_any _ _ _ _ _ _ _ VA.out VB.out VP.out).mono ?_; rintro e w1 ⟨rfl, hb1⟩; obtain ⟨hc1, hf1, hz1⟩ := bc2 w.heap.size hb1 (by simp)
    go_wp2_with fail
    refine (between_any _ _ _ _ _ _ _).mono ?_; rintro e w2 ⟨rfl, hb2⟩
    go_wp2_with fail
    go_ret
    exact ⟨ret_bool HR.out.symm, by repeat' (first | exact nr _ | apply na | apply Below.drew | apply nd | refine nt ?_ (by assumption))⟩
end Go.Proofs.Ytolodncpegajkab
namespace Go.Proofs.Ytolodncpegajkab
set_option linter.all false
open Go.RowKit
def pHas : List DArg → Option (Value × List Prop)
  | [.v (.agg ⟨[.int .i64 ax, .int .i64 ay, .int .i64 bx, .int .i64 b_y]⟩), .v (.agg ⟨[.int .i64 px, .int .i64 py]⟩)] => some (.bool (hasB ax ay bx b_y px py), [ptB ax ay = true, ptB bx b_y = true, ptB px py = true])
  | _ => none
def pSgS : List DArg → Option (Value × List Prop)
  | [.v (.agg ⟨[.int .i64 a, .int .i64 b, .int .i64 c, .int .i64 d]⟩)] => some (.bool (segB a b c d), [])
  | _ => none
def pTrn : List DArg → Option (Value × List Prop)
  | [.v (.agg ⟨[.int .i64 ax, .int .i64 ay]⟩), .v (.agg ⟨[.int .i64 bx, .int .i64 b_y]⟩), .v (.agg ⟨[.int .i64 cx, .int .i64 cy]⟩)] => some (iv (crossI ax ay bx b_y cx cy), [ptB ax ay = true, ptB bx b_y = true, ptB cx cy = true])
  | _ => none
set_option maxRecDepth 100000 in
theorem tr_sCross (ax ay bx b_y cx cy : Int) : bodyV Try.prog (tabE B0) 30 12 145 [.v (.agg #[iv ax, iv ay]), .v (.agg #[iv bx, iv b_y]), .v (.agg #[iv cx, iv cy])] = .fin (.int .i64 (IntKind.i64.wrap (IntKind.i64.wrap (IntKind.i64.wrap (bx - ax) * IntKind.i64.wrap (cy - ay)) - IntKind.i64.wrap (IntKind.i64.wrap (b_y - ay) * IntKind.i64.wrap (cx - ax))))) [] := by kernel_rfl
set_option maxRecDepth 100000 in
theorem tr_iTurn (ax ay bx b_y cx cy : Int) : bodyV Try.prog (tabE B0) 30 12 106 [.v (.agg #[iv ax, iv ay]), .v (.agg #[iv bx, iv b_y]), .v (.agg #[iv cx, iv cy])] = .fin (.int .i64 (IntKind.i64.wrap (IntKind.i64.wrap (IntKind.i64.wrap (bx - ax) * IntKind.i64.wrap (cy - ay)) - IntKind.i64.wrap (IntKind.i64.wrap (b_y - ay) * IntKind.i64.wrap (cx - ax))))) [] := by kernel_rfl
theorem crs_bd {ax ay bx b_y cx cy : Int} (h1 : ptB ax ay = true) (h2 : ptB bx b_y = true) (h3 : ptB cx cy = true) : (-(2000 * 2000) ≤ (bx - ax) * (cy - ay) ∧ (bx - ax) * (cy - ay) ≤ 2000 * 2000) ∧ (-(2000 * 2000) ≤ (b_y - ay) * (cx - ax) ∧ (b_y - ay) * (cx - ax) ≤ 2000 * 2000) := by
  have a1 := ptB_true h1
  have a2 := ptB_true h2
  have a3 := ptB_true h3
  exact ⟨mul_bd 2000 2000 (by omega) (by omega), mul_bd 2000 2000 (by omega) (by omega)⟩
theorem res_sCross {ax ay bx b_y cx cy : Int} (h1 : ptB ax ay = true) (h2 : ptB bx b_y = true) (h3 : ptB cx cy = true) : Res Try.prog 145 [.v (.agg #[iv ax, iv ay]), .v (.agg #[iv bx, iv b_y]), .v (.agg #[iv cx, iv cy])] (iv (crossI ax ay bx b_y cx cy)) := by
  refine bodyV_res mixed (tabE_ok B0_ok) (m := 30) (n := 12) rfl ?_
  rw [tr_sCross]
  have a1 := ptB_true h1
  have a2 := ptB_true h2
  have a3 := ptB_true h3
  obtain ⟨b1, b2⟩ := crs_bd h1 h2 h3
  simp (disch := omega) only [wr]
  rfl
theorem res_iTurn {ax ay bx b_y cx cy : Int} (h1 : ptB ax ay = true) (h2 : ptB bx b_y = true) (h3 : ptB cx cy = true) : Res Try.prog 106 [.v (.agg #[iv ax, iv ay]), .v (.agg #[iv bx, iv b_y]), .v (.agg #[iv cx, iv cy])] (iv (crossI ax ay bx b_y cx cy)) := by
  refine bodyV_res mixed (tabE_ok B0_ok) (m := 30) (n := 12) rfl ?_
  rw [tr_iTurn]
  have a1 := ptB_true h1
  have a2 := ptB_true h2
  have a3 := ptB_true h3
  obtain ⟨b1, b2⟩ := crs_bd h1 h2 h3
  simp (disch := omega) only [wr]
  rfl
set_option maxRecDepth 100000 in
theorem tr_iVsg (a b c d : Int) : bodyV Try.prog (tabE T1) 30 12 73 [.v (.agg #[iv a, iv b, iv c, iv d])] = brT (ptB a b && ptB c d) (.fin (.bool (negB true (a == c && (b == d && true)))) []) (.fin (.bool (false)) []) := by kernel_rfl
theorem res_iVsg (a b c d : Int) : Res Try.prog 73 [.v (.agg #[iv a, iv b, iv c, iv d])] (.bool (segB a b c d)) := by
  refine bodyV_res mixed (tabE_ok T1_ok) (m := 30) (n := 12) rfl ?_
  rw [tr_iVsg]
  unfold segB eqB negB
  cases ptB a b <;> cases ptB c d <;> simp [brT, Tree.ok]
def TRl : Tab := fun f ds => match f with
  | 75 => pHas ds
  | 153 => pHas ds
  | 73 => pSgS ds
  | 145 => pTrn ds
  | 106 => pTrn ds
  | _ => T1 f ds
theorem pHas_i {ds : List DArg} {v : Value} {C : List Prop} (h : pHas ds = some (v, C)) (hC : AllP C) : Res Try.prog 75 ds v := by
  unfold pHas at h
  split at h
  · obtain ⟨rfl, rfl⟩ : _ ∧ _ := by simpa using h
    exact res_calls (by kernel_rfl) rfl rfl fun w => has_any _ _ _ _ _ _ w hC.1 hC.2.1 hC.2.2.1
  · cases h
theorem pHas_s {ds : List DArg} {v : Value} {C : List Prop} (h : pHas ds = some (v, C)) (hC : AllP C) : Res Try.prog 153 ds v := by
  unfold pHas at h
  split at h
  · obtain ⟨rfl, rfl⟩ : _ ∧ _ := by simpa using h
    exact res_calls (by kernel_rfl) rfl rfl fun w => specHas_any _ _ _ _ _ _ w hC.1 hC.2.1 hC.2.2.1
  · cases h
theorem pSgS_i {ds : List DArg} {v : Value} {C : List Prop} (h : pSgS ds = some (v, C)) : Res Try.prog 73 ds v := by
  unfold pSgS at h
  split at h
  · obtain ⟨rfl, rfl⟩ : _ ∧ _ := by simpa using h
    exact res_iVsg _ _ _ _
  · cases h
theorem pTrn_s {ds : List DArg} {v : Value} {C : List Prop} (h : pTrn ds = some (v, C)) (hC : AllP C) : Res Try.prog 145 ds v := by
  unfold pTrn at h
  split at h
  · obtain ⟨rfl, rfl⟩ : _ ∧ _ := by simpa using h
    exact res_sCross hC.1 hC.2.1 hC.2.2.1
  · cases h
theorem pTrn_i {ds : List DArg} {v : Value} {C : List Prop} (h : pTrn ds = some (v, C)) (hC : AllP C) : Res Try.prog 106 ds v := by
  unfold pTrn at h
  split at h
  · obtain ⟨rfl, rfl⟩ : _ ∧ _ := by simpa using h
    exact res_iTurn hC.1 hC.2.1 hC.2.2.1
  · cases h
theorem TRl_ok : TabOk Try.prog TRl := by
  intro f ds v C h hC
  unfold TRl at h
  (try split at h)
  all_goals first | with_reducible exact pHas_i h hC | with_reducible exact pHas_s h hC | with_reducible exact pSgS_i h | with_reducible exact pSgS_s h | with_reducible exact pTrn_s h hC | with_reducible exact pTrn_i h hC | exact T1_ok _ _ _ _ h hC
end Go.Proofs.Ytolodncpegajkab
namespace Go.Proofs.Ytolodncpegajkab
set_option linter.all false
def pltB (a b : Pt) : Bool := decide (a.1 < b.1 ∨ a.1 = b.1 ∧ a.2 < b.2)
theorem pltB_iff {a b : Pt} : pltB a b = true ↔ a.1 < b.1 ∨ a.1 = b.1 ∧ a.2 < b.2 := by simp [pltB]
end Go.Proofs.Ytolodncpegajkab
